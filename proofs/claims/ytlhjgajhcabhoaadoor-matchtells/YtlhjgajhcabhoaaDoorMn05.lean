/- What match.freePools comes to. Written by genmad.py. -/
import Derived.Test.YtlhjgajhcabhoaaDoorMn03
import Derived.Test.YtlhjgajhcabhoaaDoorMn04
import Derived.Shelf.Sort.Plain
import Derived.Shelf.Slices.CompactI
import Derived.Shelf.Slices.In.SortNone
import Derived.Test.YtlhjgajhcabhoaaDoorChecked
import Derived.Test.YtlhjgajhcabhoaaDoorRows
import Derived.Sort.OwnSortedInts
namespace Go.Proofs.YtlhjgajhcabhoaaDoor
open Go.RowKit Msk Mx

theorem rangeAt_below {w w' : World} {g o : Nat} {xs : List Value} (h : w.rangeAt g o xs) (hb : Below w.heap.size w w') : w'.rangeAt g o xs := fun j u hj => (hb.cell (block_lt_of_cell (h j u hj))).trans (h j u hj)
theorem mvk_len (f : Nat → Bool) : (mv f).toList.length = 23 := by rw [Array.length_toList]; exact mv_size f
theorem wp_loadMk {op : Oper} {a : Act} {w : World} {K : Act → World → Prop} {Q : Exit → Act → World → Prop} (x : Operand) (ho : op.op = .load 41 x) (b o : Nat) (hx : a.eval x = .pointer (some ⟨b, o, none⟩)) (f : Nat → Bool) (hc : w.rangeAt b o (mv f).toList) (h : K (a.put op.dst (.agg (mv f))) w) : op.wp Tryd.prog a w K Q := by
  refine wp_load_mid 41 x ho b o hx (mv f).toList _ hc maskType rfl (by rw [mvk_len]; kernel_rfl) ?_
  simpa using h
theorem spanTypeM : Tryd.prog.underlying 57 = some (.struct (Tryd.prog.fieldsOf 57)) := by kernel_rfl
/-- A row of masks in memory. -/
def RowMk (w : World) (v : Value) (fs : List (Nat → Bool)) : Prop := ∃ p c, v = .slice p fs.length c ∧ fs.length < 9223372036854775808 ∧ ∀ (j : Nat) (f : Nat → Bool), fs[j]? = some f → ∃ g o : Nat, p = some ⟨g, o, none⟩ ∧ w.rangeAt g (o + j * 23) (mv f).toList
theorem RowMk.below {w w' : World} {v : Value} {fs : List (Nat → Bool)} (h : RowMk w v fs) (hb : Below w.heap.size w w') : RowMk w' v fs := by
  obtain ⟨p, c, h1, h2, h3⟩ := h
  refine ⟨p, c, h1, h2, fun j f hj => ?_⟩
  obtain ⟨g, o, e, hr⟩ := h3 j f hj
  exact ⟨g, o, e, rangeAt_below hr hb⟩
/-- Is a resource free all the time? -/
def okP (fs : List (Nat → Bool)) (x y : Int) (r : Int) : Bool := holdB (fs.getD r.toNat fun _ => false) x y
theorem take_snoc {α : Type} {l : List α} {i : Nat} {x : α} (h : l[i]? = some x) : l.take (i + 1) = l.take i ++ [x] := by
  obtain ⟨h1, h2⟩ := List.getElem?_eq_some_iff.1 h
  rw [List.take_add_one, h]
  rfl
theorem len_snocI {l m : List Int} {x : Int} (h : l ++ [x] = m) : m.length = l.length + 1 := by rw [← h]; simp
theorem below_case {w1 wB w3 : World} {v v' : Value} {n : Nat} {xs : List Value} {C : Prop} (hb : Below w1.heap.size w1 wB) (ho : wB.ownsRow w1.heap.size 3 1 v n xs) (hc : (v'.ownBlock = v.ownBlock ∧ wB.grownBy w3 v.ownBlock ∧ C) ∨ (wB.grownBy w3 none ∧ ∃ g, v'.ownBlock = some g ∧ wB.heap.size ≤ g)) : Below w1.heap.size w1 w3 := by
  rcases hc with ⟨_, h, _⟩ | ⟨h, _⟩
  · exact below_grownBy hb h (Nat.le_refl _) (fun k hk => (ho.lt k hk).1)
  · exact below_grownBy hb h (Nat.le_refl _) (fun k hk => by cases hk)
theorem intssT : Tryd.prog.underlying 22 = some (.slice 26) := by kernel_rfl
theorem intsInfo : (Tryd.prog.info? 26).map (fun i => (i.zero, i.size, i.bytes)) = some (some (.slice none 0 0), 1, 24) := by kernel_rfl
/-- Rows of one's own, in a row of one's own. -/
structure OwnRR (B : Nat) (w : World) (v : Value) (vs : List Value) (ls : List (List Int)) : Prop where
  out : w.ownsRow B 26 1 v vs.length vs
  len : vs.length = ls.length
  each : ∀ (i : Nat) (sv : Value) (l : List Int), vs[i]? = some sv → ls[i]? = some l → w.ownsRow B 3 1 sv l.length (intsV l)
theorem OwnRR.below {B : Nat} {w w' : World} {v : Value} {vs : List Value} {ls : List (List Int)} (h : OwnRR B w v vs ls) (hb : Below w.heap.size w w') : OwnRR B w' v vs ls :=
  ⟨owns_below h.out hb, h.len, fun i sv l h1 h2 => owns_below (h.each i sv l h1 h2) hb⟩
theorem OwnRR.row {B : Nat} {w : World} {v : Value} {vs : List Value} {ls : List (List Int)} (h : OwnRR B w v vs ls) (hl : ls.length < 9223372036854775808) (hs : ∀ l ∈ ls, l.length < 9223372036854775808) : RowRI w v ls := by
  rcases h.out.2 with ⟨rfl, e⟩ | ⟨g, cap, cur, rfl, _, hg, _, _, _, ht⟩
  · refine ⟨none, 0, by rw [← h.len, e], hl, fun j n hj => ?_⟩
    have := (List.getElem?_eq_some_iff.1 hj).1
    rw [← h.len] at this
    omega
  · refine ⟨_, cap, by rw [h.len], hl, fun j l hj => ?_⟩
    have hj' := (List.getElem?_eq_some_iff.1 hj).1
    rw [← h.len] at hj'
    have hv : vs[j]? = some vs[j] := List.getElem?_eq_getElem hj'
    refine ⟨g, 0, vs[j], rfl, ?_, rowI_of_owns (h.each j _ l hv hj) (hs l (List.mem_of_getElem? hj))⟩
    rw [Nat.zero_add, cell_of_row w g j cur _ (0, 0) hg, ← Array.getElem?_toList]
    have e : (vs : List Value)[j]? = cur.toList[j]? := by
      have h1 := congrArg (fun l : List Value => l[j]?) ht
      rw [Nat.mul_one, List.getElem?_take_of_lt hj'] at h1
      exact h1.symm
    rw [← e, hv]
/-- One row more. -/
theorem OwnRR.snoc {B : Nat} {w w' : World} {v v' sv : Value} {vs : List Value} {ls : List (List Int)} {l : List Int} (h : OwnRR B w v vs ls) (hs : w.ownsRow B 3 1 sv l.length (intsV l)) (ho : w'.ownsRow B 26 1 v' (vs.length + 1) (vs ++ [sv])) (hg : w.grownBy w' v.ownBlock) : OwnRR B w' v' (vs ++ [sv]) (ls ++ [l]) := by
  have far : ∀ (u : Value) (m : List Int), w.ownsRow B 3 1 u m.length (intsV m) → w'.ownsRow B 3 1 u m.length (intsV m) := fun u m hu => by
    refine hu.kept hg ?_
    cases hb : u.ownBlock with
    | none => exact .inl rfl
    | some k =>
      refine .inr fun e => ?_
      rcases hu.2 with ⟨rfl, _⟩ | ⟨g, cap, cur, rfl, _, hgg, _⟩
      · cases hb
      · have hk : k = g := by simpa [Value.ownBlock] using hb.symm
        subst hk
        exact owns_type h.out hgg (by decide) e.symm
  refine ⟨by simpa using ho, by simp [h.len], fun i u m h1 h2 => ?_⟩
  by_cases hi : i < vs.length
  · rw [List.getElem?_append_left hi] at h1
    rw [List.getElem?_append_left (by rw [← h.len]; exact hi)] at h2
    exact far u m (h.each i u m h1 h2)
  · rw [List.getElem?_append_right (by omega)] at h1
    rw [List.getElem?_append_right (by rw [← h.len]; omega), ← h.len] at h2
    have e : i - vs.length = 0 := by
      have := (List.getElem?_eq_some_iff.1 h1).1
      simp at this
      omega
    rw [e] at h1 h2
    simp at h1 h2
    subst h1 h2
    exact far _ _ hs
theorem owns_shape {w : World} {B : Nat} {e : TypeId} {size : Nat} {v : Value} {n : Nat} {xs : List Value} (h : w.ownsRow B e size v n xs) : ∃ (q : Option Addr) (c : Nat), v = .slice q n c := by
  rcases h.2 with ⟨e, hn⟩ | ⟨_, _, _, e, _⟩
  · exact ⟨_, _, by rw [e, hn]⟩
  · exact ⟨_, _, e⟩
theorem owns_low {w : World} {B B' : Nat} {e : TypeId} {size : Nat} {v : Value} {n : Nat} {xs : List Value} (h : w.ownsRow B' e size v n xs) (hB : B ≤ B') : w.ownsRow B e size v n xs := by
  refine ⟨h.1, ?_⟩
  rcases h.2 with hn | ⟨g, cap, cur, e1, hb, rest⟩
  · exact .inl hn
  · exact .inr ⟨g, cap, cur, e1, Nat.le_trans hB hb, rest⟩
set_option maxRecDepth 100000 in
set_option maxHeartbeats 4000000 in
theorem freePools_any (roles : List (List Int)) (rv : Value) (fs : List (Nat → Bool)) (fv : Value) (x y : Int) (w : World) (hR : RowRI w rv roles) (hF : RowMk w fv fs) (hin : ∀ p ∈ roles, p.length ≤ 1000 ∧ ∀ r ∈ p, 0 ≤ r ∧ r < (fs.length : Int)) (hrl : roles.length ≤ 1000) :
    Calls Tryd.prog 27 #[rv, fv, .agg #[.int .i64 x, .int .i64 y]] w fun e w' => ∃ v, e = .returned v ∧ RowRI w' v (freeP (okP fs x y) roles) ∧ Below w.heap.size w w' := by
  have bA := (Below.refl w.heap.size w).alloc (Nat.le_refl _) (.cells #[.int .i64 x, .int .i64 y] 57)
  have nA := heap_alloc_new w (.cells #[.int .i64 x, .int .i64 y] 57)
  generalize hwA : w.alloc (.cells #[.int .i64 x, .int .i64 y] 57) = wA at *
  have HR := hidr (hR.below bA)
  have HF := hidr (hF.below bA)
  have HB := hidr bA
  have HIN := hidr hin
  have hlA : w.heap.size < wA.heap.size := lt_of_block nA
  obtain ⟨pr, cr, rfl, hlr, _⟩ := hR
  obtain ⟨pf, cf, rfl, hlf, _⟩ := hF
  clear bA hin
  go_enter Tryd.func27, Tryd.ntmps27
  go_wp2_with fail
  go_loopw [7, 9, 10, 12, 15] (fun a _ _ _ t wr => ∃ (j : Nat) (vs : List Value) (qo : Option Addr) (co : Nat), a = .slice qo vs.length co ∧ t = .int .i64 (j : Int) ∧ j ≤ roles.length ∧ Hid (OwnRR wA.heap.size wr (.slice qo vs.length co) vs (freeP (okP fs x y) (roles.take j))) ∧ Hid (Below wA.heap.size wA wr)) (fun _ _ _ _ t _ => roles.length - (intOf t).toNat)
  case atStart => exact ⟨0, [], _, _, rfl, rfl, by omega, ⟨World.ownsRow_nil _ _ _ _, rfl, fun i sv l h _ => by simp at h⟩, Below.refl _ _⟩
  case round =>
    obtain ⟨j, vs, qo, co, rfl, rfl, hj, HO, HBr⟩ := hrel
    have hj0 : (0 : Int) ≤ (j : Int) := by omega
    by_cases hlt : j < roles.length
    · have hlt' : (j : Int) < (roles.length : Int) := by omega
      obtain ⟨role, hjr⟩ : ∃ r, roles[j]? = some r := ⟨roles[j], List.getElem?_eq_getElem hlt⟩
      obtain ⟨_, _, e1, _, hall⟩ := HR.out
      cases e1
      obtain ⟨gr, or, sv, hpe, hc0, hrow0⟩ := hall j _ hjr
      subst hpe
      have hc := (HBr.out.cell (block_lt_of_cell hc0)).trans hc0
      obtain ⟨ar, ac, rfl, hlrole, hcells⟩ := hrow0.below HBr.out
      have HC := hidr hcells
      have HJR := hidr hjr
      have HIR := hidr (HIN.out role (List.mem_of_getElem? hjr))
      have hrole : role.length ≤ 1000 := HIR.out.1
      have HSM : Hid (∀ i : Nat, ((role.take i).filter (okP fs x y)).length ≤ 1000000) := fun i => by
        have h2 := List.length_filter_le (okP fs x y) (role.take i)
        have h3 := List.length_take_le' i role
        omega
      clear hall hc0 hrow0 hcells hjr
      obtain ⟨w1, hw1⟩ : ∃ q, q = wr := ⟨_, rfl⟩
      have n50 := (HBr.out.block _ hlA).trans nA
      have HFr := hidr (HF.out.below HBr.out)
      rw [← hw1] at n50 HFr HC
      have HBr1 : Hid (Below wA.heap.size wA w1) := by rw [hw1]; exact HBr
      have HO1 : Hid (OwnRR wA.heap.size w1 (.slice qo vs.length co) vs (freeP (okP fs x y) (roles.take j))) := by rw [hw1]; exact HO
      have HW1 := hidr hw1
      go_wp2_with fail
      go_loopw [10, 12, 21] (fun a _ t W => ∃ (i : Nat) (qc : Option Addr) (cc : Nat), a = .slice qc ((role.take i).filter (okP fs x y)).length cc ∧ t = .int .i64 (i : Int) ∧ i ≤ role.length ∧ Hid (W.ownsRow w1.heap.size 3 1 (.slice qc ((role.take i).filter (okP fs x y)).length cc) ((role.take i).filter (okP fs x y)).length (intsV ((role.take i).filter (okP fs x y)))) ∧ Hid (Below w1.heap.size w1 W)) (fun _ _ t _ => role.length - (intOf t).toNat)
      case atStart => exact ⟨0, none, 0, rfl, rfl, by omega, World.ownsRow_nil _ _ _ _, by rw [HW1.out]; exact Below.refl _ _⟩
      case round =>
        obtain ⟨i, qc, cc, rfl, rfl, hi, HOc, HBc⟩ := hrel
        have hi0 : (0 : Int) ≤ (i : Int) := by omega
        by_cases hlti : i < role.length
        · have hlti' : (i : Int) < (role.length : Int) := by omega
          obtain ⟨r, hir⟩ : ∃ r, role[i]? = some r := ⟨role[i], List.getElem?_eq_getElem hlti⟩
          obtain ⟨h1, h2⟩ := HIR.out.2 r (List.mem_of_getElem? hir)
          obtain ⟨rn, hrn⟩ : ∃ rn : Nat, r = (rn : Int) := ⟨r.toNat, by omega⟩
          subst hrn
          obtain ⟨f, hf⟩ : ∃ f, fs[rn]? = some f := ⟨fs[rn]'(by omega), List.getElem?_eq_getElem (by omega)⟩
          obtain ⟨ga, oa, hpa, ca0⟩ := HC.out i _ hir
          subst hpa
          have ca := (HBc.out.cell (block_lt_of_cell ca0)).trans ca0
          obtain ⟨_, _, e3, _, hallf⟩ := HFr.out
          cases e3
          obtain ⟨gf, of, hpf, rgf0⟩ := hallf rn f hf
          subst hpf
          have rgf := rangeAt_below rgf0 HBc.out
          have n5 := (HBc.out.block _ (lt_of_block n50)).trans n50
          have HOK : Hid (okP fs x y (rn : Int) = holdB f x y) := by
            show _ = _
            unfold okP
            rw [Int.toNat_natCast]
            congr 1
            simp [List.getD, hf]
          clear hallf rgf0 ca0 hf h1
          go_wp2_with fail
          refine wp_region_JL (fun _ W => Below wr.heap.size wr W) (fun L _ => (Below.refl _ _).drew) (by kernel_rfl) (by kernel_rfl) (by kernel_rfl) (by kernel_rfl) [(some 25, .slice (some ⟨gf, of, none⟩) fs.length cf), (some 26, .int .i64 (rn : Int)), (some 27, .pointer (some ⟨gf, of + rn * 23, none⟩)), (some 28, .agg (mv f)), (some 29, .agg #[.int .i64 x, .int .i64 y]), (some 30, .bool (holdB f x y))] [(25, .slice (some ⟨gf, of, none⟩) fs.length cf), (26, .int .i64 (rn : Int)), (27, .pointer (some ⟨gf, of + rn * 23, none⟩)), (28, .agg (mv f)), (29, .agg #[.int .i64 x, .int .i64 y]), (30, .bool (holdB f x y))] (by kernel_rfl) (by kernel_rfl) (by kernel_rfl) ?_ ?_
          · intro i' d v o' L A W2 ho hv hLi hdep hc hJ hkept hhas
            match i', ho, hv, hLi with
            | 0, ho, hv, hLi =>
              cases Option.some.inj ho
              cases Option.some.inj hv
              have h1 : A.tmps[1]?.getD undef = .slice (some ⟨gf, of, none⟩) fs.length cf := (gd A 1).trans (hkept 1 (by kernel_rfl))
              refine wpOp_step rfl (fun K hK => ?_)
              go_simp
              exact hK _ _ ⟨rfl, hJ⟩
            | 1, ho, hv, hLi =>
              cases Option.some.inj ho
              cases Option.some.inj hv
              have h12 : A.tmps[12]?.getD undef = .int .i64 (rn : Int) := (gd A 12).trans (hkept 12 (by kernel_rfl))
              refine wpOp_step rfl (fun K hK => ?_)
              go_simp
              exact hK _ _ ⟨rfl, hJ⟩
            | 2, ho, hv, hLi =>
              cases Option.some.inj ho
              cases Option.some.inj hv
              have h25 : A.tmps[25]?.getD undef = .slice (some ⟨gf, of, none⟩) fs.length cf := (gd A 25).trans (hhas 0 25 _ rfl (hdep ⟨0, .data⟩ (by simp) rfl))
              have h26 : A.tmps[26]?.getD undef = .int .i64 (rn : Int) := (gd A 26).trans (hhas 1 26 _ rfl (hdep ⟨1, .data⟩ (by simp) rfl))
              refine wpOp_step rfl (fun K hK => ?_)
              go_simp
              exact hK _ _ ⟨rfl, hJ⟩
            | 3, ho, hv, hLi =>
              cases Option.some.inj ho
              cases Option.some.inj hv
              have h27 : A.eval (.tmp 27) = .pointer (some ⟨gf, of + rn * 23, none⟩) := hhas 2 27 _ rfl (hdep ⟨2, .data⟩ (by simp) rfl)
              refine wpOp_step rfl (fun K hK => ?_)
              show Oper.wp _ _ _ _ _ _
              refine wp_loadMk _ rfl gf (of + rn * 23) h27 f (rangeAt_below rgf hJ) ?_
              exact hK _ _ ⟨rfl, hJ⟩
            | 4, ho, hv, hLi =>
              cases Option.some.inj ho
              cases Option.some.inj hv
              have h5 : A.eval (.tmp 5) = .pointer (some ⟨w.heap.size, 0, none⟩) := hkept 5 (by kernel_rfl)
              refine wpOp_step rfl (fun K hK => ?_)
              show Oper.wp _ _ _ _ _ _
              refine wp_load_row 57 _ rfl _ h5 _ _ _ _ ((hJ.block _ (lt_of_block n5)).trans n5) spanTypeM rfl (by kernel_rfl) ?_
              exact hK _ _ ⟨rfl, hJ⟩
            | 5, ho, hv, hLi =>
              cases Option.some.inj ho
              cases Option.some.inj hv
              have h28 : A.tmps[28]?.getD undef = .agg (mv f) := (gd A 28).trans (hhas 3 28 _ rfl (hdep ⟨3, .data⟩ (by simp) rfl))
              have h29 : A.tmps[29]?.getD undef = .agg #[.int .i64 x, .int .i64 y] := (gd A 29).trans (hhas 4 29 _ rfl (hdep ⟨4, .data⟩ (by simp) rfl))
              refine wpOp_step rfl (fun K hK => ?_)
              go_simp
              refine (holds_any f x y W2).mono ?_
              rintro r' W' ⟨rfl, hb'⟩
              exact hK _ _ ⟨rfl, hJ.trans (hb'.mono hJ.size)⟩
            | kk + 6, ho, hv, hLi => simp at hv
          · intro L W5 hL hJ
            simp only [putAll_cons, putAll_nil, Act.put, List.setIfInBounds_toArray, List.set_cons_succ, List.set_cons_zero]
            clear hL
            have HO5 := hidr (owns_below HOc.out hJ)
            have HB5 := hidr (HBc.out.trans (hJ.mono HBc.out.size))
            cases hok : holdB f x y with
            | true =>
              have bA := (Below.refl W5.heap.size W5).alloc (Nat.le_refl _) (.cells #[.int .i64 (rn : Int)] 3)
              have nA := heap_alloc_new W5 (.cells #[.int .i64 (rn : Int)] 3)
              generalize hwA : W5.alloc (.cells #[.int .i64 (rn : Int)] 3) = wB at *
              have zA := (cell_of_row _ _ 0 _ _ _ nA).trans rfl
              have HOA := hidr (owns_below HO5.out bA)
              have HBA := hidr (HB5.out.trans (bA.mono HB5.out.size))
              have HFt : Hid (((role.take i).filter (okP fs x y)) ++ [(rn : Int)] = (role.take (i + 1)).filter (okP fs x y)) := by
                show _ = _
                rw [take_snoc hir, List.filter_append]
                congr 1
                rw [List.filter_cons, if_pos (by rw [HOK.out]; exact hok)]
                rfl
              clear bA nA hok hJ hir
              go_wp2_with (first
                | (refine wpList_append_pick rfl _ _ rfl w1.heap.size _ ((role.take i).filter (okP fs x y)) (rn : Int) rfl ?ho W5.heap.size 1 rfl zA ?hl ?hb ?_
                   case ho => exact HOA.out
                   case hl => exact HSM.out i
                   case hb => exact HBA.out.size
                   intro v' w3 ho3 hcase))
              have HB3 := hidr (below_case HBA.out HOA.out hcase)
              have HO3 := hidr ho3
              clear hcase ho3
              go_wp2_with fail
              go_roundw
              case rel =>
                have h3 := HO3.out
                rw [HFt.out, ← len_snocI HFt.out] at h3
                obtain ⟨q', c', hv'⟩ := owns_shape h3
                subst hv'
                exact ⟨i + 1, q', c', rfl, by go_num, by omega, h3, HB3⟩
              case measure => simp [intOf]; omega
            | false =>
              have HFt : Hid ((role.take i).filter (okP fs x y) = (role.take (i + 1)).filter (okP fs x y)) := by
                show _ = _
                rw [take_snoc hir, List.filter_append, List.filter_cons, if_neg (by rw [HOK.out, hok]; decide)]
                simp
              clear hok hJ hir
              go_wp2_with fail
              go_roundw
              case rel =>
                have h3 := HO5.out
                rw [HFt.out] at h3
                exact ⟨i + 1, qc, cc, by rw [HFt.out], by go_num, by omega, h3, HB5⟩
              case measure => simp [intOf]; omega
        · have hlti' : ¬ (i : Int) < (role.length : Int) := by omega
          have hie : i = role.length := by omega
          have HOe : Hid (wr.ownsRow w1.heap.size 3 1 (.slice qc ((role.take i).filter (okP fs x y)).length cc) (role.filter (okP fs x y)).length (intsV (role.filter (okP fs x y)))) := by
            have h := HOc.out
            rw [hie, List.take_of_length_le (Nat.le_refl _)] at h ⊢
            exact h
          obtain ⟨nl, hnl⟩ : ∃ q, ((role.take i).filter (okP fs x y)).length = q := ⟨_, rfl⟩
          rw [hnl] at HOe ⊢
          have HBw := hidr (HBr1.out.trans (HBc.out.mono HBr1.out.size))
          have HOO := hidr (HO1.out.below HBc.out)
          have bB := (Below.refl wr.heap.size wr).alloc (Nat.le_refl _) (.cells #[.slice qc nl cc] 26)
          have nB := heap_alloc_new wr (.cells #[.slice qc nl cc] 26)
          generalize hwB : wr.alloc (.cells #[.slice qc nl cc] 26) = wB at *
          have zB := (cell_of_row _ _ 0 _ _ _ nB).trans rfl
          have HOB := hidr (HOO.out.below bB)
          have HcB := hidr (owns_low (owns_below HOe.out bB) HBr1.out.size)
          have HBB := hidr (HBw.out.trans (bB.mono HBw.out.size))
          have HT : Hid (freeP (okP fs x y) (roles.take j) ++ [role.filter (okP fs x y)] = freeP (okP fs x y) (roles.take (j + 1))) := by
            show _ = _
            unfold freeP
            rw [take_snoc HJR.out, List.map_append]
            rfl
          obtain ⟨i0, hi0', hz0, hs0, hby0⟩ := info_of intsInfo
          have HI := hidr hi0'
          have hvl : vs.length ≤ 1000 := by
            rw [HOB.out.len]
            unfold freeP
            rw [List.length_map]
            have := List.length_take_le' j roles
            omega
          clear HOc HBw HOO bB nB HOe hi0' hnl hie HO1 HBr1 HBc
          go_wp2_with (first
            | (refine wpList_append_own wB rfl _ _ 22 rfl wA.heap.size 26 i0 (.slice none 0 0) 1 24 intssT HI.out hz0 hs0 hby0 rfl (by decide) _ vs.length vs rfl HOB.out.out ⟨wr.heap.size, 0, none⟩ 1 1 [.slice qc nl cc] rfl rfl ?hn ?h1 ?h63 ?hby ?hb ?_
               case hn =>
                 intro q u hq
                 match q, hq with
                 | 0, hq => cases Option.some.inj hq; simpa [Addr.add] using zB
                 | q + 1, hq => simp at hq
               case h1 => simp [Value.oneCell']
               case h63 => unfold maxLen; omega
               case hby => omega
               case hb => exact HBB.out.size
               intro v' w3 ho3 hg3 _))
          have HO3 := hidr (HOB.out.snoc HcB.out ho3 hg3)
          have HB3 := hidr (below_grownBy HBB.out hg3 (Nat.le_refl _) (fun k hk => (HOB.out.out.lt k hk).1))
          clear ho3 hg3
          go_wp2_with fail
          go_roundw
          case rel =>
            have h3 := HO3.out
            rw [HT.out] at h3
            have e1 : (vs ++ [Value.slice qc nl cc]).length = vs.length + 1 := by simp
            obtain ⟨q', c', hv'⟩ := owns_shape h3.out
            subst hv'
            exact ⟨j + 1, _, q', c', rfl, by go_num, by omega, h3, HB3⟩
          case measure => simp [intOf]; omega
    · have hlt' : ¬ (j : Int) < (roles.length : Int) := by omega
      have HRO : Hid (RowRI wr (.slice qo vs.length co) (freeP (okP fs x y) roles)) := by
        have e : j = roles.length := by omega
        have h := HO.out
        rw [e, List.take_of_length_le (Nat.le_refl _)] at h
        refine h.row (by unfold freeP; rw [List.length_map]; exact hlr) fun l hl => ?_
        unfold freeP at hl
        rw [List.mem_map] at hl
        obtain ⟨p, hp, rfl⟩ := hl
        have h1 := (HIN.out p hp).1
        have h2 := List.length_filter_le (okP fs x y) p
        omega
      have HBB := hidr (HB.out.trans (HBr.out.mono HB.out.size))
      go_wp2_with fail
      go_ret
      exact ⟨_, rfl, HRO.out, HBB.out⟩
end Go.Proofs.YtlhjgajhcabhoaaDoor

/- slices.Sort and slices.Compact of numbers by what the library itself proves of them over any program: this program bears their bodies. -/
namespace Go.Proofs.YtlhjgajhcabhoaaDoor
open Go.Shelf Go.RowKit

def lays189_ren : Go.Shelf.Ren := ⟨fun | 189 => 34 | 125 => 43 | 257 => 42 | 128 => 55 | 129 => 56 | 294 => 46 | 295 => 47 | 296 => 48 | 297 => 49 | 298 => 50 | 299 => 51 | 216 => 52 | 300 => 53 | 301 => 54 | 328 => 58 | 329 => 59 | 330 => 60 | 331 => 61 | 332 => 62 | 215 => 63 | 343 => 64 | n => n, fun | 28 => 26 | 3 => 3 | 46 => 81 | 0 => 0 | 51 => 94 | 53 => 39 | 4 => 4 | 183 => 86 | 182 => 85 | 131 => 91 | 5 => 5 | 9 => 9 | 218 => 96 | 222 => 100 | 228 => 104 | 229 => 105 | n => n, fun | n => n⟩
theorem lays189 : Go.Proofs.Lays.n189 Tryd.prog lays189_ren := {
  mixed := by kernel_rfl
  f125 := Tryd.func43.trans (congrArg some (by kernel_rfl))
  f128 := Tryd.func55.trans (congrArg some (by kernel_rfl))
  f129 := Tryd.func56.trans (congrArg some (by kernel_rfl))
  f189 := Tryd.func34.trans (congrArg some (by kernel_rfl))
  f215 := Tryd.func63.trans (congrArg some (by kernel_rfl))
  f216 := Tryd.func52.trans (congrArg some (by kernel_rfl))
  f257 := Tryd.func42.trans (congrArg some (by kernel_rfl))
  f294 := Tryd.func46.trans (congrArg some (by kernel_rfl))
  f295 := Tryd.func47.trans (congrArg some (by kernel_rfl))
  f296 := Tryd.func48.trans (congrArg some (by kernel_rfl))
  f297 := Tryd.func49.trans (congrArg some (by kernel_rfl))
  f298 := Tryd.func50.trans (congrArg some (by kernel_rfl))
  f299 := Tryd.func51.trans (congrArg some (by kernel_rfl))
  f300 := Tryd.func53.trans (congrArg some (by kernel_rfl))
  f301 := Tryd.func54.trans (congrArg some (by kernel_rfl))
  f328 := Tryd.func58.trans (congrArg some (by kernel_rfl))
  f329 := Tryd.func59.trans (congrArg some (by kernel_rfl))
  f330 := Tryd.func60.trans (congrArg some (by kernel_rfl))
  f331 := Tryd.func61.trans (congrArg some (by kernel_rfl))
  f332 := Tryd.func62.trans (congrArg some (by kernel_rfl))
  f343 := Tryd.func64.trans (congrArg some (by kernel_rfl))
  t0 := Tryd.underlying0
  a0 := Tryd.isAgg0
  z0 := Tryd.sizeOf0
  v0 := Tryd.zeroValue0
  t3 := Tryd.underlying3
  a3 := Tryd.isAgg3
  z3 := Tryd.sizeOf3
  v3 := Tryd.zeroValue3
  t4 := Tryd.underlying4
  a4 := Tryd.isAgg4
  z4 := Tryd.sizeOf4
  v4 := Tryd.zeroValue4
  t5 := Tryd.underlying5
  a5 := Tryd.isAgg5
  z5 := Tryd.sizeOf5
  v5 := Tryd.zeroValue5
  t9 := Tryd.underlying9
  a9 := Tryd.isAgg9
  z9 := Tryd.sizeOf9
  v9 := Tryd.zeroValue9
  t28 := Tryd.underlying26
  a28 := Tryd.isAgg26
  z28 := Tryd.sizeOf26
  v28 := Tryd.zeroValue26
  t46 := Tryd.underlying81
  a46 := Tryd.isAgg81
  z46 := Tryd.sizeOf81
  v46 := Tryd.zeroValue81
  t51 := Tryd.underlying94
  a51 := Tryd.isAgg94
  z51 := Tryd.sizeOf94
  v51 := Tryd.zeroValue94
  t53 := Tryd.underlying39
  a53 := Tryd.isAgg39
  z53 := Tryd.sizeOf39
  v53 := Tryd.zeroValue39
  t131 := Tryd.underlying91
  a131 := Tryd.isAgg91
  z131 := Tryd.sizeOf91
  v131 := Tryd.zeroValue91
  t182 := Tryd.underlying85
  a182 := Tryd.isAgg85
  z182 := Tryd.sizeOf85
  v182 := Tryd.zeroValue85
  t183 := Tryd.underlying86
  a183 := Tryd.isAgg86
  z183 := Tryd.sizeOf86
  v183 := Tryd.zeroValue86
  t218 := Tryd.underlying96
  a218 := Tryd.isAgg96
  z218 := Tryd.sizeOf96
  v218 := Tryd.zeroValue96
  t222 := Tryd.underlying100
  a222 := Tryd.isAgg100
  z222 := Tryd.sizeOf100
  v222 := Tryd.zeroValue100
  t228 := Tryd.underlying104
  a228 := Tryd.isAgg104
  z228 := Tryd.sizeOf104
  v228 := Tryd.zeroValue104
  t229 := Tryd.underlying105
  a229 := Tryd.isAgg105
  z229 := Tryd.sizeOf105
  v229 := Tryd.zeroValue105 }
def laysNm220_ren : Go.Shelf.Ren := ⟨fun | 20 => 35 | n => n, fun | 22 => 26 | 3 => 3 | 4 => 4 | 0 => 0 | n => n, fun | n => n⟩
theorem laysNm220 : Go.Proofs.Lays2.n20 Tryd.prog laysNm220_ren := {
  mixed := by kernel_rfl
  f20 := Tryd.func35.trans (congrArg some (by kernel_rfl))
  t0 := Tryd.underlying0
  a0 := Tryd.isAgg0
  z0 := Tryd.sizeOf0
  v0 := Tryd.zeroValue0
  t3 := Tryd.underlying3
  a3 := Tryd.isAgg3
  z3 := Tryd.sizeOf3
  v3 := Tryd.zeroValue3
  t4 := Tryd.underlying4
  a4 := Tryd.isAgg4
  z4 := Tryd.sizeOf4
  v4 := Tryd.zeroValue4
  t22 := Tryd.underlying26
  a22 := Tryd.isAgg26
  z22 := Tryd.sizeOf26
  v22 := Tryd.zeroValue26
  i3 := by kernel_rfl }

theorem sort_ints (blk off cap : Nat) (zs : List Int) (w : World) (hH : Go.Sort.Holds (Value.int .i64) w blk off zs.toArray) (hblk : blk < w.heap.size) (hsz : zs.length < 4611686018427387904) :
    Calls Tryd.prog 34 #[.slice (some ⟨blk, off, none⟩) zs.length cap] w fun e w' => e = .returned (.tuple #[]) ∧ ∃ n os, w' = Go.Sort.grow (Go.Sort.putRow (Value.int .i64) (Go.Sort.ahead w n) blk off (zs.mergeSort fun x y => decide (x ≤ y)).toArray) os := Any.slices_Sort_int lays189 blk off cap zs w hH hblk hsz
theorem sort_none (p : Option Addr) (cap : Nat) (w : World) : Calls Tryd.prog 34 #[.slice p 0 cap] w fun e w' => e = .returned (.tuple #[]) ∧ w' = w := Any.slices_Sort_int_none lays189 p cap w
theorem compact_ints (blk off cap : Nat) (zs : List Int) (w : World) (hH : Go.Sort.Holds (Value.int .i64) w blk off zs.toArray) (hsz : zs.length ≤ 9223372036854775807) (hcap : zs.length ≤ cap) :
    Calls Tryd.prog 35 #[.slice (some ⟨blk, off, none⟩) zs.length cap] w fun e w' => e = .returned (.slice (some ⟨blk, off, none⟩) (Go.Lib.compact zs).length cap) ∧ ∃ q, w' = Go.Sort.putRow (Value.int .i64) (Go.Sort.ahead w q) blk off (Go.Lib.compact zs ++ List.replicate (zs.length - (Go.Lib.compact zs).length) 0).toArray := Any.slices_Compact_int laysNm220 blk off cap zs w hH hsz hcap
theorem compact_none (a : Option Addr) (cap : Nat) (w : World) : Calls Tryd.prog 35 #[.slice a 0 cap] w fun e w' => e = .returned (.slice a 0 cap) ∧ w' = w := Any.slices_Compact_int_empty laysNm220 a cap w
end Go.Proofs.YtlhjgajhcabhoaaDoor

/- What match.places comes to. Written by genmae.py. -/
namespace Go.Proofs.YtlhjgajhcabhoaaDoor
open Go.RowKit Msk Mx

theorem tab_below {w w' : World} (h : Tab w) (hb : Below w.heap.size w w') : Tab w' := fun j hj => (hb.cell (block_lt_of_cell (h j hj))).trans (h j hj)
theorem intsV_map (l : List Int) : intsV l = l.map (Value.int .i64) := rfl
theorem sort_own {w : World} {B : Nat} {v : Value} {zs : List Int} (h : w.ownsRow B 3 1 v zs.length (intsV zs)) (hl : zs.length ≤ 1000000) :
    Calls Tryd.prog 34 #[v] w fun e w' => e = .returned (.tuple #[]) ∧ w'.ownsRow B 3 1 v zs.length (intsV (zs.mergeSort fun x y => decide (x ≤ y))) ∧ w.grownBy w' v.ownBlock := by
  rcases h.2 with ⟨rfl, e⟩ | ⟨g, cap, cur, rfl, hb, hg, hn, hm, hs, ht⟩
  · have hz : zs = [] := List.eq_nil_of_length_eq_zero e
    subst hz
    refine (sort_none none 0 w).mono fun e w' ⟨he, hw⟩ => ⟨he, by rw [hw, List.mergeSort_nil]; exact World.ownsRow_nil _ _ _ _, by rw [hw]; exact World.grownBy.refl _ _⟩
  · rw [Nat.mul_one] at ht
    have hH := Go.holds_of_blockI (ss := zs) hg ht
    refine (sort_ints g 0 cap zs w hH (lt_of_block hg) (by omega)).mono fun e w' ⟨he, n, os, hw⟩ => ⟨he, ?_, ?_⟩
    · rw [hw, intsV_map]
      exact Go.ownsRow_sortedI (List.length_mergeSort zs) hb hg hn hm hs
    · rw [hw]
      exact Go.grownBy_sortedI _
theorem compact_le (zs : List Int) : (Go.Lib.compact zs).length ≤ zs.length := by
  unfold Go.Lib.compact Go.Lib.compactUpTo
  rw [List.length_map]
  refine Nat.le_trans (List.length_filter_le _ _) ?_
  simp
theorem compact_own {w : World} {B : Nat} {v : Value} {zs : List Int} (h : w.ownsRow B 3 1 v zs.length (intsV zs)) (hl : zs.length ≤ 1000000) :
    Calls Tryd.prog 35 #[v] w fun e w' => ∃ v', e = .returned v' ∧ w'.ownsRow B 3 1 v' (Go.Lib.compact zs).length (intsV (Go.Lib.compact zs)) ∧ w.grownBy w' v.ownBlock := by
  rcases h.2 with ⟨rfl, e⟩ | ⟨g, cap, cur, rfl, hb, hg, hn, hm, hs, ht⟩
  · have hz : zs = [] := List.eq_nil_of_length_eq_zero e
    subst hz
    refine (compact_none none 0 w).mono fun e w' ⟨he, hw⟩ => ⟨_, he, by rw [hw]; exact World.ownsRow_nil _ _ _ _, by rw [hw]; exact World.grownBy.refl _ _⟩
  · rw [Nat.mul_one] at ht
    have hH := Go.holds_of_blockI (ss := zs) hg ht
    have hcl := compact_le zs
    refine (compact_ints g 0 cap zs w hH (by omega) hn).mono fun e w' ⟨he, q, hw⟩ => ⟨_, he, ?_, ?_⟩
    · have hl2 : (Go.Lib.compact zs ++ List.replicate (zs.length - (Go.Lib.compact zs).length) (0 : Int)).length = zs.length := by simp; omega
      have h2 := Go.ownsRow_sortedI (n := q) (os := #[]) hl2 hb hg hn hm hs
      rw [Go.Sort.grow_empty, ← hw] at h2
      refine ⟨by rw [intsV_len]; simp, .inr ?_⟩
      rcases h2.2 with ⟨e, _⟩ | ⟨g', cap', cur', e, hb', hg', hn', hm', hs', ht'⟩
      · cases e
      · injection e with e1 _ e3
        injection e1 with e1
        injection e1 with e1
        subst e1 e3
        refine ⟨g, cap, cur', rfl, hb', hg', by omega, hm', hs', ?_⟩
        have h3 := congrArg (List.take (Go.Lib.compact zs).length) ht'
        rw [List.take_take, Nat.mul_one, Nat.min_eq_left hcl, List.map_append, List.take_append_of_le_length (by simp)] at h3
        rw [Nat.mul_one, h3, intsV_map]
        exact List.take_of_length_le (by simp)
    · rw [hw, ← Go.Sort.grow_empty (Go.Sort.putRow _ _ _ _ _)]
      exact Go.grownBy_sortedI _
set_option maxRecDepth 10000 in
set_option maxHeartbeats 1000000 in
theorem spans_own (f : Nat → Bool) (w : World) (hT : Tab w) :
    Calls Tryd.prog 33 #[.agg (mv f)] w fun e w' => (∃ v, e = .returned v ∧ w'.ownsRow w.heap.size 57 2 v (rs f 1440).length (flat (rs f 1440))) ∧ Runs f 1440 (rs f 1440) ∧ Below w.heap.size w w' := by
  have hmf : ∀ (fn : Fn) (first cap : Array Value) (w : World), (Instr.makeFunc fn first cap).run Tryd.prog w = .ok (.func fn first cap) w := fun _ _ _ _ => rfl
  have hW1 : ((w.alloc (.cells (mv f) 41)).alloc (.cells #[.slice none 0 0] 58)).heap[w.heap.size]? = some (.cells (mv f) 41 (0, 0)) := by (repeat (first | refine blk_old _ _ _ (by simp only [size_alloc]; omega) ?_ | exact blk_new _ _ _ (by first | rfl | simp only [size_alloc])))
  have hW2 : ((w.alloc (.cells (mv f) 41)).alloc (.cells #[.slice none 0 0] 58)).heap[w.heap.size + 1]? = some (.cells #[.slice none 0 0] 58 (0, 0)) := by (repeat (first | refine blk_old _ _ _ (by simp only [size_alloc]; omega) ?_ | exact blk_new _ _ _ (by first | rfl | simp only [size_alloc])))
  have hb0 : Below w.heap.size w ((w.alloc (.cells (mv f) 41)).alloc (.cells #[.slice none 0 0] 58)) := ((Below.refl _ _).alloc (Nat.le_refl _) _).alloc (by simp) _
  have cv := spans_visit f w _ _ hT (by omega) ⟨hb0, ⟨_, hW2, World.ownsRow_nil _ _ _ _⟩, Seen.zero f, by omega⟩
  clear hW2 hb0
  go_enter Tryd.func33, Tryd.ntmps33
  go_wp2_with (first
    | (refine wpList_load_row rfl 41 _ rfl _ rfl _ _ _ _ hW1 maskType rfl (maskSize _) ?_)
    | (go_at_call 40; refine cv.mono ?_; rintro e w' ⟨rfl, hbel, ⟨v, hv, hown⟩, hruns⟩; have c1 := cell_of_one hv; have HR := hidr hown; have HN : Hid (Runs f 1440 (rs f 1440)) := hruns; clear hown hruns))
  go_ret
  exact ⟨⟨v, rfl, HR.out⟩, HN.out, hbel⟩
theorem svTypeM : Tryd.prog.underlying 24 = some (.struct (Tryd.prog.fieldsOf 24)) := by kernel_rfl
theorem wpList_loadMk {ops : Array Oper} {rest : List Oper} {o : Oper} {a : Act} {w : World} {Q : Exit → Act → World → Prop} (hgd : o.guard = none) (x : Operand) (ho : o.op = .load 41 x) (b q : Nat) (hx : a.eval x = .pointer (some ⟨b, q, none⟩)) (f : Nat → Bool) (hc : w.rangeAt b q (mv f).toList) (h : wpList Tryd.prog ops Q rest (a.put o.dst (.agg (mv f))) w) : wpList Tryd.prog ops Q (o :: rest) a w :=
  wpList_plain hgd fun _ hK => wp_loadMk x ho b q hx f hc (hK _ _ h)
theorem row_shape {w : World} {v : Value} {l : List (Int × Int)} (h : Row w v l) : ∃ (q : Option Addr) (c : Nat), v = .slice q l.length c ∧ l.length < 9223372036854775808 ∧ ∀ j s, l[j]? = some s → ∃ g o : Nat, q = some ⟨g, o, none⟩ ∧ w.cell? ⟨g, o + j * 2, none⟩ = some (.int .i64 s.1) ∧ w.cell? ⟨g, o + j * 2 + 1, none⟩ = some (.int .i64 s.2) := by
  rcases h with ⟨c, rfl, rfl⟩ | ⟨g, o, c, rfl, hl, hc⟩
  · exact ⟨none, c, rfl, by simp, fun j s hj => by simp at hj⟩
  · refine ⟨_, c, rfl, hl, fun j s hj => ⟨g, o, rfl, ?_⟩⟩
    have := hc j (List.getElem?_eq_some_iff.1 hj).1
    rwa [show l.getD j (0, 0) = s by simp [List.getD, hj]] at this
theorem good_at {n : Int} : ∀ {l : List (Int × Int)} {last : Int}, good last n l → ∀ s ∈ l, last < s.1 ∧ s.1 < s.2 ∧ s.2 ≤ n
  | [], _, _, s, hs => by cases hs
  | t :: l, last, h, s, hs => by
    obtain ⟨h1, h2, h3, h4⟩ := h
    rcases List.mem_cons.1 hs with rfl | hs
    · exact ⟨h1, h2, h3⟩
    · obtain ⟨q1, q2, q3⟩ := good_at h4 s hs
      exact ⟨by omega, q2, q3⟩
set_option maxRecDepth 100000 in
set_option maxHeartbeats 4000000 in
theorem places_any (l b a : Int) (roles : List (List Int)) (rv : Value) (fs : List (Nat → Bool)) (fv : Value) (w : World) (hT : Tab w) (hR : RowRI w rv roles) (hF : RowMk w fv fs) (hin : ∀ p ∈ roles, p.length ≤ 8 ∧ ∀ r ∈ p, 0 ≤ r ∧ r < (fs.length : Int)) (hrl : roles.length ≤ 4) (hme : measB l b a = true) :
    Calls Tryd.prog 26 #[.agg #[.int .i64 l, .int .i64 b, .int .i64 a, rv], fv] w fun e w' => ∃ v, e = .returned v ∧ RowI w' v (placesP (b + l + a) fs roles) ∧ Below w.heap.size w w' := by
  obtain ⟨pr, cr, rfl, hlr, hallr0⟩ := id hR
  clear hallr0
  have bA := (Below.refl w.heap.size w).alloc (Nat.le_refl _) (.cells #[.int .i64 l, .int .i64 b, .int .i64 a, .slice pr roles.length cr] 24)
  have nA := heap_alloc_new w (.cells #[.int .i64 l, .int .i64 b, .int .i64 a, .slice pr roles.length cr] 24)
  generalize hwA : w.alloc (.cells #[.int .i64 l, .int .i64 b, .int .i64 a, .slice pr roles.length cr] 24) = wA at *
  have HR := hidr (hR.below bA)
  have HF := hidr (hF.below bA)
  have HT := hidr (tab_below hT bA)
  have HB := hidr bA
  have HIN := hidr hin
  have HME := hidr hme
  have z3 := (cell_of_row _ _ 3 _ _ _ nA).trans rfl
  obtain ⟨pf, cf, rfl, hlf, _⟩ := hF
  clear bA hin hR hme
  go_enter Tryd.func26, Tryd.ntmps26
  go_wp2_with fail
  go_loopw [5, 15] (fun q t wr => ∃ (j : Nat) (A : List Int) (qa : Option Addr) (ca : Nat), q = .slice qa A.length ca ∧ t = .int .i64 (j : Int) ∧ j ≤ roles.length ∧ Hid (A = (roles.take j).flatMap (poolL (b + l + a) fs)) ∧ A.length ≤ j * 11520 ∧ Hid (wr.ownsRow wA.heap.size 3 1 (.slice qa A.length ca) A.length (intsV A)) ∧ Hid (Below wA.heap.size wA wr)) (fun _ t _ => roles.length - (intOf t).toNat)
  case atStart => exact ⟨0, [], none, 0, rfl, rfl, by omega, rfl, by simp, World.ownsRow_nil _ _ _ _, Below.refl _ _⟩
  case round =>
    obtain ⟨j, A, qa, ca, rfl, rfl, hj, HAe, hAl, HO, HBr⟩ := hrel
    have hj0 : (0 : Int) ≤ (j : Int) := by omega
    by_cases hlt : j < roles.length
    · have hlt' : (j : Int) < (roles.length : Int) := by omega
      obtain ⟨role, hjr⟩ : ∃ r, roles[j]? = some r := ⟨roles[j], List.getElem?_eq_getElem hlt⟩
      obtain ⟨_, _, e1, _, hall⟩ := HR.out
      cases e1
      obtain ⟨gr, or, sv, hpe, hc0, hrow0⟩ := hall j _ hjr
      subst hpe
      have hc := (HBr.out.cell (block_lt_of_cell hc0)).trans hc0
      obtain ⟨ar, ac, rfl, hlrole, hcells⟩ := hrow0
      have HC := hidr hcells
      have HJR := hidr hjr
      have HIR := hidr (HIN.out role (List.mem_of_getElem? hjr))
      have hrole : role.length ≤ 8 := HIR.out.1
      clear hall hc0 hcells hjr
      go_wp2_with fail
      go_loopw [5, 21] (fun q t W => ∃ (i : Nat) (A2 : List Int) (qb : Option Addr) (cb : Nat), q = .slice qb A2.length cb ∧ t = .int .i64 (i : Int) ∧ i ≤ role.length ∧ Hid (A2 = A ++ (role.take i).flatMap fun r => runsOf (b + l + a) (fs.getD r.toNat fun _ => false)) ∧ A2.length ≤ j * 11520 + i * 1440 ∧ Hid (W.ownsRow wA.heap.size 3 1 (.slice qb A2.length cb) A2.length (intsV A2)) ∧ Hid (Below wA.heap.size wA W)) (fun _ t _ => role.length - (intOf t).toNat)
      case atStart => exact ⟨0, A, qa, ca, rfl, rfl, by omega, by show _ = _; simp, by omega, HO, HBr⟩
      case round =>
        obtain ⟨i, A2, qb, cb, rfl, rfl, hi, HAe2, hAl2, HO2, HB2⟩ := hrel
        have hi0 : (0 : Int) ≤ (i : Int) := by omega
        by_cases hlti : i < role.length
        · have hlti' : (i : Int) < (role.length : Int) := by omega
          obtain ⟨r, hir⟩ : ∃ r, role[i]? = some r := ⟨role[i], List.getElem?_eq_getElem hlti⟩
          obtain ⟨h1, h2⟩ := HIR.out.2 r (List.mem_of_getElem? hir)
          obtain ⟨rn, hrn⟩ : ∃ rn : Nat, r = (rn : Int) := ⟨r.toNat, by omega⟩
          subst hrn
          obtain ⟨f, hf⟩ : ∃ f, fs[rn]? = some f := ⟨fs[rn]'(by omega), List.getElem?_eq_getElem (by omega)⟩
          obtain ⟨ga, oa, hpa, ca0⟩ := HC.out i _ hir
          subst hpa
          have ca1 := (HB2.out.cell (block_lt_of_cell ca0)).trans ca0
          obtain ⟨_, _, e3, _, hallf⟩ := HF.out
          cases e3
          obtain ⟨gf, of, hpf, rgf0⟩ := hallf rn f hf
          subst hpf
          have rgf := rangeAt_below rgf0 HB2.out
          have HIRi := hidr hir
          have c1 := spans_own f wr (tab_below HT.out HB2.out)
          have hfg : fs.getD rn (fun _ => false) = f := by simp [List.getD, hf]
          have HFG := hidr hfg
          clear hallf rgf0 ca0 hf h1 hir hfg
          go_wp2_with (first
            | (refine wpList_loadMk rfl _ rfl gf (of + rn * 23) rfl f rgf ?_))
          refine c1.mono ?_
          rintro e w4 ⟨⟨vs, rfl, hownS⟩, hruns, b4⟩
          have hrowS := row_of_owns hownS (by have := hruns.few; omega)
          have HOS : Hid (∀ W : World, w4.grownBy W (Value.slice qb A2.length cb).ownBlock → W.ownsRow wr.heap.size 57 2 vs (rs f 1440).length (flat (rs f 1440))) := fun W hW => hownS.kept hW (by
            cases hz : vs.ownBlock with
            | none => exact .inl rfl
            | some q =>
              refine .inr fun e => ?_
              have h1 := (hownS.lt q hz).1
              have h2 := (HO2.out.lt q e.symm).2
              omega)
          have HO4 := hidr (owns_below HO2.out b4)
          have HB4 := hidr (HB2.out.trans (b4.mono HB2.out.size))
          obtain ⟨qs, cs, rfl, hlS, _⟩ := row_shape hrowS
          have HG := hidr (good_at hruns.good)
          have hfew : (rs f 1440).length ≤ 1440 := hruns.few
          have hN : (rs f 1440).length < 9223372036854775808 := hlS
          clear c1 b4 hrowS hownS hruns rgf ca1 HO2 HB2
          go_wp2_with fail
          go_loopw [5, 31] (fun q t W => ∃ (k : Nat) (C : List Int) (qc : Option Addr) (cc : Nat), q = .slice qc C.length cc ∧ t = .int .i64 (k : Int) ∧ k ≤ (rs f 1440).length ∧ Hid (C = A2 ++ (((rs f 1440).take k).filter fun s => decide (b + l + a ≤ s.2 - s.1)).map fun s => s.1) ∧ C.length ≤ j * 11520 + i * 1440 + k ∧ Hid (W.ownsRow wA.heap.size 3 1 (.slice qc C.length cc) C.length (intsV C)) ∧ Hid (w4.grownBy W (Value.slice qb A2.length cb).ownBlock) ∧ Hid (Below wA.heap.size wA W) ∧ Hid (∀ W2 : World, W.grownBy W2 (Value.slice qc C.length cc).ownBlock → w4.grownBy W2 (Value.slice qb A2.length cb).ownBlock)) (fun _ t _ => (rs f 1440).length - (intOf t).toNat)
          case atStart => exact ⟨0, A2, qb, cb, rfl, rfl, by omega, by show _ = _; simp, by omega, HO4, World.grownBy.refl _ _, HB4, fun _ h => h⟩
          case round =>
            obtain ⟨k, C, qc, cc, rfl, rfl, hk, HCe, hCl, HOk, HGk, HBk, HFk⟩ := hrel
            have hRk := row_of_owns (HOS.out wr HGk.out) hN
            obtain ⟨_, _, e9, _, hcS⟩ := row_shape hRk
            cases e9
            have HCS := hidr hcS
            clear hRk hcS
            have hk0 : (0 : Int) ≤ (k : Int) := by omega
            by_cases hltk : k < (rs f 1440).length
            · have hltk' : (k : Int) < ((rs f 1440).length : Int) := by omega
              obtain ⟨s, hks⟩ : ∃ s, (rs f 1440)[k]? = some s := ⟨_, List.getElem?_eq_getElem hltk⟩
              obtain ⟨g1, g2, g3⟩ := HG.out s (List.mem_of_getElem? hks)
              obtain ⟨go, oo, hps, p0, p1⟩ := HCS.out k s hks
              subst hps
              obtain ⟨x, y⟩ := s
              dsimp only at g1 g2 g3 p0 p1
              have hwr : IntKind.i64.wrap (y - x) = y - x := by rw [IntKind.wrap_i64]; omega
              have hkr := hidr hks
              have bS := (Below.refl wr.heap.size wr).alloc (Nat.le_refl _) (.cells #[.int .i64 x, .int .i64 y] 57)
              have nS := heap_alloc_new wr (.cells #[.int .i64 x, .int .i64 y] 57)
              have HO4' := hidr (owns_below HOk.out bS)
              have HBS := hidr (HBk.out.trans (bS.mono HBk.out.size))
              have HGS := hidr (grownBy_of_below bS (Value.slice qc C.length cc).ownBlock)
              obtain ⟨gs, hgs⟩ : ∃ q, wr.heap.size = q := ⟨_, rfl⟩
              rw [hgs] at nS
              generalize hwS : wr.alloc (.cells #[.int .i64 x, .int .i64 y] 57) = wS at *
              have q0 := (cell_of_row _ _ 0 _ _ _ nS).trans rfl
              have q1 := (cell_of_row _ _ 1 _ _ _ nS).trans rfl
              have n2 := (HBS.out.block _ (lt_of_block nA)).trans nA
              clear hks bS nS HOk
              go_wp2_with fail
              refine wp_region_JL (fun _ W => Below wS.heap.size wS W) (fun L _ => (Below.refl _ _).drew) (by kernel_rfl) (by kernel_rfl) (by kernel_rfl) (by kernel_rfl) [(some 35, .pointer (some ⟨gs, 1, none⟩)), (some 36, .int .i64 y), (some 37, .pointer (some ⟨gs, 0, none⟩)), (some 38, .int .i64 x), (some 39, .int .i64 (y - x)), (some 40, .agg #[.int .i64 l, .int .i64 b, .int .i64 a, .slice (some ⟨gr, or, none⟩) roles.length cr]), (some 41, .int .i64 (b + l + a)), (some 42, .bool (decide (b + l + a ≤ y - x)))] [(35, .pointer (some ⟨gs, 1, none⟩)), (36, .int .i64 y), (37, .pointer (some ⟨gs, 0, none⟩)), (38, .int .i64 x), (39, .int .i64 (y - x)), (40, .agg #[.int .i64 l, .int .i64 b, .int .i64 a, .slice (some ⟨gr, or, none⟩) roles.length cr]), (41, .int .i64 (b + l + a)), (42, .bool (decide (b + l + a ≤ y - x)))] (by kernel_rfl) (by kernel_rfl) (by kernel_rfl) ?_ ?_
              · intro i' d v o' L A W2 ho hv hLi hdep hc hJ hkept hhas
                match i', ho, hv, hLi with
                | 0, ho, hv, hLi =>
                  cases Option.some.inj ho
                  cases Option.some.inj hv
                  have h11 : A.tmps[11]?.getD undef = .pointer (some ⟨gs, 0, none⟩) := (gd A 11).trans (hkept 11 (by kernel_rfl))
                  refine wpOp_step rfl (fun K hK => ?_)
                  go_simp
                  exact hK _ _ ⟨rfl, hJ⟩
                | 1, ho, hv, hLi =>
                  cases Option.some.inj ho
                  cases Option.some.inj hv
                  have h35 : A.tmps[35]?.getD undef = .pointer (some ⟨gs, 1, none⟩) := (gd A 35).trans (hhas 0 35 _ rfl (hdep ⟨0, .data⟩ (by simp) rfl))
                  have zz := (hJ.cell (block_lt_of_cell q1)).trans q1
                  refine wpOp_step rfl (fun K hK => ?_)
                  go_simp
                  exact hK _ _ ⟨rfl, hJ⟩
                | 2, ho, hv, hLi =>
                  cases Option.some.inj ho
                  cases Option.some.inj hv
                  have h11 : A.tmps[11]?.getD undef = .pointer (some ⟨gs, 0, none⟩) := (gd A 11).trans (hkept 11 (by kernel_rfl))
                  refine wpOp_step rfl (fun K hK => ?_)
                  go_simp
                  exact hK _ _ ⟨rfl, hJ⟩
                | 3, ho, hv, hLi =>
                  cases Option.some.inj ho
                  cases Option.some.inj hv
                  have h37 : A.tmps[37]?.getD undef = .pointer (some ⟨gs, 0, none⟩) := (gd A 37).trans (hhas 2 37 _ rfl (hdep ⟨2, .data⟩ (by simp) rfl))
                  have zz := (hJ.cell (block_lt_of_cell q0)).trans q0
                  refine wpOp_step rfl (fun K hK => ?_)
                  go_simp
                  exact hK _ _ ⟨rfl, hJ⟩
                | 4, ho, hv, hLi =>
                  cases Option.some.inj ho
                  cases Option.some.inj hv
                  have h36 : A.tmps[36]?.getD undef = .int .i64 y := (gd A 36).trans (hhas 1 36 _ rfl (hdep ⟨1, .data⟩ (by simp) rfl))
                  have h38 : A.tmps[38]?.getD undef = .int .i64 x := (gd A 38).trans (hhas 3 38 _ rfl (hdep ⟨3, .data⟩ (by simp) rfl))
                  refine wpOp_step rfl (fun K hK => ?_)
                  go_simp
                  exact hK _ _ ⟨rfl, hJ⟩
                | 5, ho, hv, hLi =>
                  cases Option.some.inj ho
                  cases Option.some.inj hv
                  have h2 : A.eval (.tmp 2) = .pointer (some ⟨w.heap.size, 0, none⟩) := hkept 2 (by kernel_rfl)
                  refine wpOp_step rfl (fun K hK => ?_)
                  show Oper.wp _ _ _ _ _ _
                  refine wp_load_row 24 _ rfl _ h2 _ _ _ _ ((hJ.block _ (lt_of_block n2)).trans n2) svTypeM rfl (by kernel_rfl) ?_
                  exact hK _ _ ⟨rfl, hJ⟩
                | 6, ho, hv, hLi =>
                  cases Option.some.inj ho
                  cases Option.some.inj hv
                  have h40 : A.tmps[40]?.getD undef = .agg #[.int .i64 l, .int .i64 b, .int .i64 a, .slice (some ⟨gr, or, none⟩) roles.length cr] := (gd A 40).trans (hhas 5 40 _ rfl (hdep ⟨5, .data⟩ (by simp) rfl))
                  refine wpOp_step rfl (fun K hK => ?_)
                  go_simp
                  refine (whole_any l b a _ W2 (.inl HME.out)).mono ?_
                  rintro r' W' ⟨rfl, hb'⟩
                  exact hK _ _ ⟨rfl, hJ.trans (hb'.mono hJ.size)⟩
                | 7, ho, hv, hLi =>
                  cases Option.some.inj ho
                  cases Option.some.inj hv
                  have h39 : A.tmps[39]?.getD undef = .int .i64 (y - x) := (gd A 39).trans (hhas 4 39 _ rfl (hdep ⟨4, .data⟩ (by simp) rfl))
                  have h41 : A.tmps[41]?.getD undef = .int .i64 (b + l + a) := (gd A 41).trans (hhas 6 41 _ rfl (hdep ⟨6, .data⟩ (by simp) rfl))
                  refine wpOp_step rfl (fun K hK => ?_)
                  go_simp
                  exact hK _ _ ⟨rfl, hJ⟩
                | kk + 8, ho, hv, hLi => simp at hv
              · intro L W5 hL hJ
                simp only [putAll_cons, putAll_nil, Act.put, List.setIfInBounds_toArray, List.set_cons_succ, List.set_cons_zero]
                clear hL
                have HO5 := hidr (owns_below HO4'.out hJ)
                have HB5 := hidr (HBS.out.trans (hJ.mono HBS.out.size))
                have HG5 := hidr (HGS.out.trans (grownBy_of_below hJ _))
                have q05 := (hJ.cell (block_lt_of_cell q0)).trans q0
                by_cases hge : b + l + a ≤ y - x
                · have bB := (Below.refl W5.heap.size W5).alloc (Nat.le_refl _) (.cells #[.int .i64 x] 3)
                  have nB := heap_alloc_new W5 (.cells #[.int .i64 x] 3)
                  generalize hwB : W5.alloc (.cells #[.int .i64 x] 3) = wB at *
                  have zB := (cell_of_row _ _ 0 _ _ _ nB).trans rfl
                  have HOB := hidr (owns_below HO5.out bB)
                  have HBB := hidr (HB5.out.trans (bB.mono HB5.out.size))
                  have HGB := hidr (HG5.out.trans (grownBy_of_below bB _))
                  have HFt : Hid (C ++ [x] = A2 ++ (((rs f 1440).take (k + 1)).filter fun s => decide (b + l + a ≤ s.2 - s.1)).map fun s => s.1) := by
                    show _ = _
                    rw [HCe.out, take_snoc hkr.out, List.filter_append, List.map_append, List.filter_cons, if_pos (by simpa using hge), ← List.append_assoc]
                    rfl
                  clear bB nB hJ
                  go_wp2_with (first
                    | (refine wpList_append_pick rfl _ _ rfl wA.heap.size _ C x rfl ?ho W5.heap.size 1 rfl zB ?hl ?hb ?_
                       case ho => exact HOB.out
                       case hl => omega
                       case hb => exact HBB.out.size
                       intro v' w3 ho3 hcase))
                  have HB3 := hidr (below_case HBB.out HOB.out hcase)
                  have HO3 := hidr ho3
                  have HF3 : Hid (w4.grownBy w3 (Value.slice qb A2.length cb).ownBlock ∧ ∀ W2 : World, w3.grownBy W2 v'.ownBlock → w4.grownBy W2 (Value.slice qb A2.length cb).ownBlock) := by
                    rcases hcase with ⟨e, g1, _⟩ | ⟨g1, q, e, hq⟩
                    · exact ⟨HFk.out w3 (HGB.out.trans g1), fun W2 h2 => HFk.out W2 ((HGB.out.trans g1).trans (e ▸ h2))⟩
                    · refine ⟨HFk.out w3 (HGB.out.trans (grown_but g1 _)), fun W2 h2 => HFk.out W2 (HGB.out.trans (grown_but (grown_then g1 h2 (fun j hj => ?_)) _))⟩
                      rw [e] at hj
                      cases hj
                      exact .inl hq
                  clear hcase ho3
                  go_wp2_with fail
                  go_roundw
                  case rel =>
                    have h3 := HO3.out
                    have hl3 := len_snocI (l := C) (x := x) rfl
                    rw [← hl3] at h3
                    obtain ⟨q', c', hv'⟩ := owns_shape h3
                    subst hv'
                    exact ⟨k + 1, C ++ [x], q', c', rfl, by go_num, by omega, HFt, by rw [hl3]; omega, h3, HF3.out.1, HB3, HF3.out.2⟩
                  case measure => simp [intOf]; omega
                · have HFt : Hid (C = A2 ++ (((rs f 1440).take (k + 1)).filter fun s => decide (b + l + a ≤ s.2 - s.1)).map fun s => s.1) := by
                    show _ = _
                    rw [HCe.out, take_snoc hkr.out, List.filter_append, List.map_append, List.filter_cons, if_neg (by simpa using hge)]
                    simp
                  clear hJ
                  go_wp2_with fail
                  go_roundw
                  case rel => exact ⟨k + 1, C, qc, cc, rfl, by go_num, by omega, HFt, by omega, HO5, HFk.out _ HG5.out, HB5, fun W2 h2 => HFk.out W2 (HG5.out.trans h2)⟩
                  case measure => simp [intOf]; omega
            · have hltk' : ¬ (k : Int) < ((rs f 1440).length : Int) := by omega
              have HAn : Hid (C = A ++ (role.take (i + 1)).flatMap fun r => runsOf (b + l + a) (fs.getD r.toNat fun _ => false)) := by
                show _ = _
                rw [HCe.out, show k = (rs f 1440).length by omega, List.take_of_length_le (Nat.le_refl _), take_snoc HIRi.out, List.flatMap_append, ← List.append_assoc, ← HAe2.out]
                congr 1
                rw [List.flatMap_singleton, Int.toNat_natCast, HFG.out]
                rfl
              clear HCS HFk HGk HOS HG
              go_wp2_with fail
              go_roundw
              case rel => exact ⟨i + 1, C, qc, cc, rfl, by go_num, by omega, HAn, by omega, HOk, HBk⟩
              case measure => simp [intOf]; omega
        · have hlti' : ¬ (i : Int) < (role.length : Int) := by omega
          have HAn : Hid (A2 = (roles.take (j + 1)).flatMap (poolL (b + l + a) fs)) := by
            show _ = _
            rw [HAe2.out, show i = role.length by omega, List.take_of_length_le (Nat.le_refl _), take_snoc HJR.out, List.flatMap_append, ← HAe.out, List.flatMap_singleton]
            rfl
          go_wp2_with fail
          go_roundw
          case rel => exact ⟨j + 1, A2, qb, cb, rfl, by go_num, by omega, HAn, by omega, HO2, HB2⟩
          case measure => simp [intOf]; omega
    · have hlt' : ¬ (j : Int) < (roles.length : Int) := by omega
      have HAn : Hid (A = placesL (b + l + a) fs roles) := by
        show _ = _
        rw [HAe.out, show j = roles.length by omega, List.take_of_length_le (Nat.le_refl _)]
        rfl
      have c1 := sort_own HO.out (by omega)
      go_wp2_with fail
      refine c1.mono ?_
      rintro e w1 ⟨rfl, ho1, hg1⟩
      have HB1 := hidr (below_grownBy HBr.out hg1 (Nat.le_refl _) (fun k hk => (HO.out.lt k hk).1))
      have hls : (A.mergeSort fun x y => decide (x ≤ y)).length = A.length := List.length_mergeSort A
      have ho1' := ho1
      rw [← hls] at ho1'
      obtain ⟨q1, c1', hsh⟩ := owns_shape ho1'
      have c2 := compact_own ho1' (by rw [hls]; omega)
      have HO1 := hidr ho1'
      rw [hls] at c2
      clear c1 ho1 hg1 ho1'
      go_wp2_with fail
      refine c2.mono ?_
      rintro e w2 ⟨v2, rfl, ho2, hg2⟩
      have HB2 := hidr (below_grownBy HB1.out hg2 (Nat.le_refl _) (fun k hk => (HO1.out.lt k (by rw [hls]; exact hk)).1))
      have HR2 : Hid (RowI w2 v2 (placesP (b + l + a) fs roles)) := by
        have hcl := compact_le (A.mergeSort fun x y => decide (x ≤ y))
        have h := rowI_of_owns ho2 (by omega)
        rw [HAn.out] at h
        exact h
      have HBB := hidr (HB.out.trans (HB2.out.mono HB.out.size))
      clear c2 ho2 hg2
      go_wp2_with fail
      go_ret
      exact ⟨v2, rfl, HR2.out, HBB.out⟩
end Go.Proofs.YtlhjgajhcabhoaaDoor
