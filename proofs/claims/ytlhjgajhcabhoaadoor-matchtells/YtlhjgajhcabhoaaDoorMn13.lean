/- What slotref10.Tuples comes to. -/
import Derived.Test.YtlhjgajhcabhoaaDoorMn05
import Derived.Lib.AppendZeros
import Derived.Test.YtlhjgajhcabhoaaDoorMn07
import Derived.Laws.MakeOwn
namespace Mx
def tupR (ok : Int → Bool) (t p : List Int) : List (List Int) := (p.filter fun r => !(decide (r ∈ t)) && ok r).map fun r => t ++ [r]
def tupS (ok : Int → Bool) (p : List Int) (out : List (List Int)) : List (List Int) := out.flatMap fun t => tupR ok t p
/-- All ways to fill roles by unlike ones that are free. -/
def tupP (ok : Int → Bool) (roles : List (List Int)) : List (List Int) := roles.foldl (fun out p => tupS ok p out) [[]]
theorem tupR_len (ok : Int → Bool) (t p : List Int) : (tupR ok t p).length ≤ p.length := by
  unfold tupR
  rw [List.length_map]
  exact List.length_filter_le _ _
theorem tupS_len (ok : Int → Bool) (p : List Int) (out : List (List Int)) : (tupS ok p out).length ≤ out.length * p.length := by
  unfold tupS
  induction out with
  | nil => simp
  | cons t l ih =>
    rw [List.flatMap_cons, List.length_append, List.length_cons, Nat.add_mul, Nat.one_mul]
    have := tupR_len ok t p
    omega
theorem tupP_snoc (ok : Int → Bool) {roles : List (List Int)} {j : Nat} {p : List Int} (h : roles[j]? = some p) : tupP ok (roles.take (j + 1)) = tupS ok p (tupP ok (roles.take j)) := by
  obtain ⟨h1, h2⟩ := List.getElem?_eq_some_iff.1 h
  unfold tupP
  rw [List.take_add_one, h, List.foldl_append]
  rfl
theorem tupP_len (ok : Int → Bool) (roles : List (List Int)) (h : ∀ p ∈ roles, p.length ≤ 8) (j : Nat) (hj : j ≤ roles.length) : (tupP ok (roles.take j)).length ≤ 8 ^ j := by
  induction j with
  | zero => simp [tupP]
  | succ j ih =>
    obtain ⟨p, hp⟩ : ∃ p, roles[j]? = some p := ⟨roles[j], List.getElem?_eq_getElem hj⟩
    rw [tupP_snoc ok hp, Nat.pow_succ]
    have h1 := tupS_len ok p (tupP ok (roles.take j))
    have h2 := ih (by omega)
    have h3 := h p (List.mem_of_getElem? hp)
    exact Nat.le_trans h1 (Nat.mul_le_mul h2 h3)
theorem tupP_each (ok : Int → Bool) (roles : List (List Int)) (j : Nat) (hj : j ≤ roles.length) : ∀ t ∈ tupP ok (roles.take j), t.length = j := by
  induction j with
  | zero => intro t ht; simp [tupP] at ht; rw [ht]; rfl
  | succ j ih =>
    obtain ⟨p, hp⟩ : ∃ p, roles[j]? = some p := ⟨roles[j], List.getElem?_eq_getElem hj⟩
    rw [tupP_snoc ok hp]
    intro t ht
    unfold tupS tupR at ht
    simp only [List.mem_flatMap, List.mem_map] at ht
    obtain ⟨u, hu, r, _, rfl⟩ := ht
    have := ih (by omega) u hu
    simp [this]
theorem tupS_step (ok : Int → Bool) (p : List Int) {os : List (List Int)} {i : Nat} {t : List Int} (h : os[i]? = some t) : tupS ok p (os.take (i + 1)) = tupS ok p (os.take i) ++ tupR ok t p := by
  unfold tupS
  rw [List.take_add_one, h, List.flatMap_append]
  simp
theorem tupR_yes (ok : Int → Bool) (t : List Int) {p : List Int} {k : Nat} {r : Int} (h : p[k]? = some r) (h1 : ¬ r ∈ t) (h2 : ok r = true) : tupR ok t (p.take (k + 1)) = tupR ok t (p.take k) ++ [t ++ [r]] := by
  unfold tupR
  rw [List.take_add_one, h, List.filter_append, List.map_append]
  simp [h1, h2]
theorem tupR_no (ok : Int → Bool) (t : List Int) {p : List Int} {k : Nat} {r : Int} (h : p[k]? = some r) (h1 : r ∈ t ∨ ok r = false) : tupR ok t (p.take (k + 1)) = tupR ok t (p.take k) := by
  unfold tupR
  rw [List.take_add_one, h, List.filter_append, List.map_append]
  rcases h1 with h1 | h1 <;> simp [h1]
end Mx
namespace Go.Proofs.YtlhjgajhcabhoaaDoor
open Go.RowKit Msk Mx

theorem run_append_noneI (w : World) (ty : TypeId) (base p : Option Addr) (n cap c : Nat) (hle : n ≤ cap) : (Builtin.append_ #[26, 26] ty #[.slice base n cap, .slice p 0 c]).run Tryd.prog w = .ok (.slice base n cap) w := by
  obtain ⟨i0, hi, hz0, hz1, hz2⟩ := info_of intInfo
  cases base <;> cases p <;> simp [Builtin.append_, run_underlying intT, sizeOf, typeInfo, hi, hle, Builtin.lenOf, Builtin.firstCells, storeCells, loadCells, loadCellsFrom]
theorem owns_slice {w : World} {B : Nat} {e : TypeId} {size : Nat} {v : Value} {n : Nat} {xs : List Value} (h : w.ownsRow B e size v n xs) : ∃ (q : Option Addr) (c : Nat), v = .slice q n c ∧ n ≤ c := by
  rcases h.2 with ⟨e, hn⟩ | ⟨_, _, _, e, _, _, hc, _⟩
  · exact ⟨_, _, by rw [e, hn], by omega⟩
  · exact ⟨_, _, e, hc⟩
section
variable {ops : Array Oper} {rest : List Oper} {op : Oper} {a : Act} {w : World} {Q : Exit → Act → World → Prop}
/-- A row of numbers behind a row of one's own. -/
theorem wpList_append_ints (hgd : op.guard = none) (s x : Operand) (ho : op.op = .call { callee := .builtin .append, args := #[s, x], argTypes := #[26, 26] }) (base : Nat) (l t : List Int) (v vx : Value) (hs : a.eval s = v) (hown : w.ownsRow base 3 1 v l.length (intsV l)) (hx : a.eval x = vx) (hk : RowI w vx t) (hS : l.length + t.length ≤ 1000000) (hb : base ≤ w.heap.size)
    (h : ∀ v' w', w'.ownsRow base 3 1 v' (l ++ t).length (intsV (l ++ t)) → w.grownBy w' v.ownBlock → wpList Tryd.prog ops Q rest (a.put op.dst v') w') : wpList Tryd.prog ops Q (op :: rest) a w := by
  obtain ⟨p, c, e, hlc, hr⟩ := hk
  subst e
  by_cases hl : t = []
  · subst hl
    obtain ⟨p1, c1, e1, hn1⟩ := owns_slice hown
    subst e1
    rw [List.append_nil] at h
    refine Go.Lib.wpList_append_run w hgd s x _ _ ho _ _ hs hx _ _ (run_append_noneI w _ p1 p _ c1 c hn1) (h _ _ hown ⟨rfl, rfl, rfl, Nat.le_refl _, fun _ _ _ => rfl⟩)
  · have h0 : 0 < t.length := List.length_pos_iff.2 hl
    obtain ⟨g, o, hp, _⟩ := hr 0 t[0] (List.getElem?_eq_getElem h0)
    subst hp
    obtain ⟨i0, hi, hz0, hz1, hz2⟩ := info_of intInfo
    refine wpList_append_own (w := w) hgd s x 26 ho base 3 i0 _ 1 8 intT hi hz0 hz1 hz2 rfl (by decide) v l.length (intsV l) hs hown ⟨g, o, none⟩ t.length c (intsV t) hx (by rw [intsV_len, Nat.mul_one]) ?_ ?_ (by unfold maxLen; omega) (by omega) hb fun v' w' h1 h2 _ => ?_
    · intro q u hq
      unfold intsV at hq
      rw [List.getElem?_map] at hq
      cases hx2 : t[q]? with
      | none => rw [hx2] at hq; cases hq
      | some z =>
        rw [hx2] at hq
        cases Option.some.inj hq
        obtain ⟨g', o', e', hc'⟩ := hr q z hx2
        cases e'
        rcases Nat.eq_zero_or_pos q with h0 | h0
        · subst h0
          simpa [Addr.add] using hc'
        · simpa [Addr.add, Nat.ne_of_gt h0] using hc'
    · intro u hu
      unfold intsV at hu
      rw [List.mem_map] at hu
      obtain ⟨z, _, rfl⟩ := hu
      rfl
    · refine h v' w' ?_ h2
      rw [List.length_append]
      unfold intsV at h1 ⊢
      rw [List.map_append]
      exact h1
theorem build_noneI (W : World) : (Instr.buildSlice 26 0 #[]).run Tryd.prog W = .ok (.slice (some ⟨W.heap.size, 0, none⟩) 0 0) (W.alloc (.cells #[] 3)) := by
  kernel_rfl
theorem wpList_bslice_noneI (hg : op.guard = none) (ho : op.op = .buildSlice 26 0 #[]) (h : wpList Tryd.prog ops Q rest (a.put op.dst (.slice (some ⟨w.heap.size, 0, none⟩) 0 0)) (w.alloc (.cells #[] 3))) : wpList Tryd.prog ops Q (op :: rest) a w :=
  wpList_plain hg fun _ hK => by
    unfold Oper.wp execOp
    have hb := build_noneI w
    simp only [ho, List.map_toArray, List.map_nil, Sem.run_bind, Sem.run_pure, Result.andThen_ok, hb]
    exact hK _ _ h
end
theorem owns_none (w : World) {g : Nat} (h : w.heap[g]? = some (.cells #[] 3 (0, 0))) (B : Nat) (hB : B ≤ g) : w.ownsRow B 3 1 (.slice (some ⟨g, 0, none⟩) ([] : List Int).length 0) ([] : List Int).length (intsV []) :=
  ⟨rfl, .inr ⟨g, 0, #[], rfl, hB, h, Nat.le_refl _, Nat.zero_le _, rfl, rfl⟩⟩
theorem rowI_one {w : World} {g : Nat} {n : Int} (h : w.heap[g]? = some (.cells #[.int .i64 n] 3 (0, 0))) : RowI w (.slice (some ⟨g, 0, none⟩) 1 1) [n] :=
  ⟨_, _, rfl, by simp, fun j m hj => ⟨g, 0, rfl, by
    match j, hj with
    | 0, hj => cases Option.some.inj hj; exact (cell_of_row _ _ 0 _ _ _ h).trans rfl
    | j + 1, hj => simp at hj⟩⟩
theorem OwnRR.low {B B' : Nat} {w : World} {v : Value} {vs : List Value} {ls : List (List Int)} (h : OwnRR B' w v vs ls) (hB : B ≤ B') : OwnRR B w v vs ls :=
  ⟨owns_low h.out hB, h.len, fun i sv l h1 h2 => owns_low (h.each i sv l h1 h2) hB⟩
/-- The first row of rows of one's own. -/
theorem OwnRR.first {B : Nat} {w : World} {v : Value} {vs : List Value} {who : List Int} {ts : List (List Int)} (h : OwnRR B w v vs (who :: ts)) : ∃ (g c : Nat) (sv : Value), v = .slice (some ⟨g, 0, none⟩) (ts.length + 1) c ∧ w.cell? ⟨g, 0, none⟩ = some sv ∧ w.ownsRow B 3 1 sv who.length (intsV who) := by
  have hl : vs.length = ts.length + 1 := h.len
  rcases h.out.2 with ⟨_, e⟩ | ⟨g, cap, cur, e, _, hg, _, _, _, ht⟩
  · omega
  · have h0 : 0 < vs.length := by omega
    have hv : vs[0]? = some vs[0] := List.getElem?_eq_getElem h0
    refine ⟨g, cap, vs[0], by rw [e, hl], ?_, h.each 0 _ who hv rfl⟩
    rw [cell_of_row w g 0 cur _ (0, 0) hg, ← Array.getElem?_toList]
    have e : (vs : List Value)[0]? = cur.toList[0]? := by
      have h1 := congrArg (fun l : List Value => l[0]?) ht
      rw [Nat.mul_one, List.getElem?_take_of_lt h0] at h1
      exact h1.symm
    rw [← e, hv]
/-- A row of marks in memory. -/
def RowBo (w : World) (v : Value) (bs : List Bool) : Prop := ∃ p c, v = .slice p bs.length c ∧ bs.length < 9223372036854775808 ∧ ∀ (j : Nat) (b : Bool), bs[j]? = some b → ∃ g o : Nat, p = some ⟨g, o, none⟩ ∧ w.cell? ⟨g, o + j, none⟩ = some (.bool b)
theorem RowBo.below {w w' : World} {v : Value} {bs : List Bool} (h : RowBo w v bs) (hb : Below w.heap.size w w') : RowBo w' v bs := by
  obtain ⟨p, c, h1, h2, h3⟩ := h
  refine ⟨p, c, h1, h2, fun j n hj => ?_⟩
  obtain ⟨g, o, e, hc⟩ := h3 j n hj
  exact ⟨g, o, e, (hb.cell (block_lt_of_cell hc)).trans hc⟩
def okB (bs : List Bool) (r : Int) : Bool := bs.getD r.toNat false
end Go.Proofs.YtlhjgajhcabhoaaDoor

/- What slotref10.Tuples comes to: its walk. -/
namespace Go.Proofs.YtlhjgajhcabhoaaDoor
open Go.RowKit Msk Mx

set_option maxRecDepth 100000 in
set_option maxHeartbeats 4000000 in
theorem tuples_any (roles : List (List Int)) (rv : Value) (bs : List Bool) (bv : Value) (w : World) (hR : RowRI w rv roles) (hF : RowBo w bv bs) (hin : ∀ p ∈ roles, p.length ≤ 8 ∧ ∀ r ∈ p, 0 ≤ r ∧ r < (bs.length : Int)) (hrl : roles.length ≤ 4) :
    Calls Tryd.prog 18 #[rv, bv] w fun e w' => ∃ v vs, e = .returned v ∧ OwnRR w.heap.size w' v vs (tupP (okB bs) roles) ∧ Below w.heap.size w w' := by
  have bA := (Below.refl w.heap.size w).alloc (Nat.le_refl _) (.cells #[.slice none 0 0] 26)
  have nA := heap_alloc_new w (.cells #[.slice none 0 0] 26)
  generalize hwA : w.alloc (.cells #[.slice none 0 0] 26) = wA at *
  have HR := hidr (hR.below bA)
  have HF := hidr (hF.below bA)
  have HB := hidr bA
  have HIN := hidr hin
  have HO : Hid (RowRI wA (.slice (some ⟨w.heap.size, 0, none⟩) [([] : List Int)].length 1) [[]]) := by
    refine ⟨_, _, rfl, by decide, fun j l hj => ?_⟩
    match j, hj with
    | 0, hj =>
      cases Option.some.inj hj
      exact ⟨w.heap.size, 0, .slice none 0 0, rfl, (cell_of_row _ _ 0 _ _ _ nA).trans rfl, none, 0, rfl, by decide, fun j n hj => by simp at hj⟩
    | j + 1, hj => simp at hj
  have HOO : Hid (∃ vs, OwnRR w.heap.size wA (.slice (some ⟨w.heap.size, 0, none⟩) [([] : List Int)].length 1) vs [[]]) := by
    refine ⟨[.slice none 0 0], ⟨⟨rfl, .inr ⟨w.heap.size, 1, _, rfl, Nat.le_refl _, nA, Nat.le_refl _, by unfold maxLen; omega, rfl, rfl⟩⟩, rfl, fun i sv l h1 h2 => ?_⟩⟩
    match i, h1, h2 with
    | 0, h1, h2 =>
      cases Option.some.inj h1
      cases Option.some.inj h2
      exact World.ownsRow_nil _ _ _ _
    | i + 1, h1, h2 => simp at h1
  obtain ⟨ok, hok⟩ : ∃ q, q = okB bs := ⟨_, rfl⟩
  have HOK : Hid (∀ (r : Int) (b : Bool), bs[r.toNat]? = some b → ok r = b) := fun r b h => by
    rw [hok]
    unfold okB
    simp [List.getD, h]
  have HEK := hidr hok
  rw [← hok]
  have HLN : Hid (∀ j : Nat, j ≤ roles.length → (tupP ok (roles.take j)).length ≤ 4096) := fun j hj => by
    refine Nat.le_trans (tupP_len ok roles (fun p hp => (HIN.out p hp).1) j hj) ?_
    have h4 : j ≤ 4 := by omega
    exact Nat.le_trans (Nat.pow_le_pow_right (by decide) h4) (by decide)
  have HLE : Hid (∀ j : Nat, j ≤ roles.length → ∀ t ∈ tupP ok (roles.take j), t.length = j) := fun j hj => tupP_each ok roles j hj
  obtain ⟨pr, cr, rfl, hlr, _⟩ := hR
  obtain ⟨pf, cf, rfl, hlf, _⟩ := hF
  clear bA nA hin hok
  go_enter Tryd.func18, Tryd.ntmps18
  go_wp2_with fail
  go_loopw [5, 19] (fun a t wr => ∃ (j : Nat) (os : List (List Int)) (qo : Option Addr) (co : Nat), a = .slice qo os.length co ∧ t = .int .i64 (j : Int) ∧ j ≤ roles.length ∧ Hid (os = tupP ok (roles.take j)) ∧ Hid (RowRI wr (.slice qo os.length co) os) ∧ Hid (∃ vs, OwnRR w.heap.size wr (.slice qo os.length co) vs os) ∧ Hid (Below wA.heap.size wA wr)) (fun _ t _ => roles.length - (intOf t).toNat)
  case atStart => exact ⟨0, [[]], _, _, rfl, rfl, by omega, rfl, by exact HO, by exact HOO, Below.refl _ _⟩
  case round =>
    clear HO HOO hwA
    obtain ⟨j, os, qo, co, rfl, rfl, hj, HOE, HO, HOO, HBr⟩ := hrel
    have hj0 : (0 : Int) ≤ (j : Int) := by omega
    by_cases hlt : j < roles.length
    · have hlt' : (j : Int) < (roles.length : Int) := by omega
      obtain ⟨role, hjr⟩ : ∃ r, roles[j]? = some r := ⟨roles[j], List.getElem?_eq_getElem hlt⟩
      obtain ⟨_, _, e1, _, hall⟩ := HR.out
      cases e1
      obtain ⟨gr, or, sv, hpe, hc0, hrow0⟩ := hall j _ hjr
      subst hpe
      have hc := (HBr.out.cell (block_lt_of_cell hc0)).trans hc0
      obtain ⟨ar, ac, rfl, hlrole, hcells⟩ := hrow0.below HBr.out
      have HC := hidr hcells
      have HTN := hidr (tupP_snoc ok hjr)
      have HIR := hidr (HIN.out role (List.mem_of_getElem? hjr))
      have hrole : role.length ≤ 8 := HIR.out.1
      have HFr := hidr (HF.out.below HBr.out)
      have hol : os.length ≤ 4096 := by rw [HOE.out]; exact HLN.out j hj
      have HTL : Hid (∀ t ∈ os, t.length ≤ 4) := fun t ht => by
        rw [HOE.out] at ht
        rw [HLE.out j hj t ht]
        omega
      clear hall hc0 hrow0 hcells hjr
      obtain ⟨w1, hw1⟩ : ∃ q, q = wr := ⟨_, rfl⟩
      rw [← hw1] at HC HFr HO
      have HBr1 : Hid (Below wA.heap.size wA w1) := by rw [hw1]; exact HBr
      have HW1 := hidr hw1
      clear hw1 HBr
      go_wp2_with fail
      go_loopw [8, 25] (fun a t W => ∃ (i : Nat) (vs : List Value) (ls : List (List Int)) (qn : Option Addr) (cn : Nat), a = .slice qn vs.length cn ∧ t = .int .i64 (i : Int) ∧ i ≤ os.length ∧ Hid (ls = tupS ok role (os.take i)) ∧ Hid (OwnRR w1.heap.size W (.slice qn vs.length cn) vs ls) ∧ Hid (Below w1.heap.size w1 W)) (fun _ t _ => os.length - (intOf t).toNat)
      case atStart => exact ⟨0, [], [], none, 0, rfl, rfl, by omega, rfl, ⟨World.ownsRow_nil _ _ _ _, rfl, fun i sv l h _ => by simp at h⟩, by rw [HW1.out]; exact Below.refl _ _⟩
      case round =>
        clear HW1
        obtain ⟨i, vs, ls, qn, cn, rfl, rfl, hi, HLS, HN, HBi⟩ := hrel
        have hi0 : (0 : Int) ≤ (i : Int) := by omega
        by_cases hlti : i < os.length
        · have hlti' : (i : Int) < (os.length : Int) := by omega
          obtain ⟨tt, hit⟩ : ∃ r, os[i]? = some r := ⟨os[i], List.getElem?_eq_getElem hlti⟩
          obtain ⟨_, _, e1, _, hall⟩ := HO.out
          cases e1
          obtain ⟨go, oo, tv, hpe, hc0, hrow0⟩ := hall i _ hit
          subst hpe
          have hcT := (HBi.out.cell (block_lt_of_cell hc0)).trans hc0
          have HTT := hidr hrow0
          have htl : tt.length ≤ 4 := HTL.out tt (List.mem_of_getElem? hit)
          have HSS := hidr (tupS_step ok role hit)
          obtain ⟨at', ct, rfl, hltt, _⟩ := hrow0
          have HLL : Hid ((tupS ok role (os.take i)).length ≤ 32768) := by
            show _ ≤ _
            refine Nat.le_trans (tupS_len ok role (os.take i)) ?_
            have h1 : (os.take i).length ≤ 4096 := Nat.le_trans (List.length_take_le' i os) hol
            exact Nat.le_trans (Nat.mul_le_mul h1 hrole) (by decide)
          obtain ⟨w2, hw2⟩ : ∃ q, q = wr := ⟨_, rfl⟩
          rw [← hw2] at hcT HN HBi
          have HW2 := hidr hw2
          rw [← hw2]
          clear hall hc0 hit hw2
          go_wp2_with fail
          go_loopw [8, 31] (fun a t W => ∃ (k : Nat) (vs : List Value) (ls : List (List Int)) (qn : Option Addr) (cn : Nat), a = .slice qn vs.length cn ∧ t = .int .i64 (k : Int) ∧ k ≤ role.length ∧ Hid (ls = tupS ok role (os.take i) ++ tupR ok tt (role.take k)) ∧ Hid (OwnRR w1.heap.size W (.slice qn vs.length cn) vs ls) ∧ Hid (Below w1.heap.size w1 W)) (fun _ t _ => role.length - (intOf t).toNat)
          case atStart => exact ⟨0, vs, ls, qn, cn, rfl, rfl, by omega, by show _ = _; rw [HLS.out]; simp [tupR], HN, HBi⟩
          case round =>
            clear HLS HN HBi
            obtain ⟨k, vs, ls, qn, cn, rfl, rfl, hk, HLS, HN, HBk⟩ := hrel
            have hk0 : (0 : Int) ≤ (k : Int) := by omega
            by_cases hltk : k < role.length
            · have hltk' : (k : Int) < (role.length : Int) := by omega
              obtain ⟨r, hkr⟩ : ∃ r, role[k]? = some r := ⟨role[k], List.getElem?_eq_getElem hltk⟩
              obtain ⟨g1, g2⟩ := HIR.out.2 r (List.mem_of_getElem? hkr)
              obtain ⟨rn, hrn⟩ : ∃ rn : Nat, r = (rn : Int) := ⟨r.toNat, by omega⟩
              subst hrn
              obtain ⟨bb, hbb⟩ : ∃ f, bs[rn]? = some f := ⟨bs[rn]'(by omega), List.getElem?_eq_getElem (by omega)⟩
              have hokr : ok (rn : Int) = bb := HOK.out _ _ (by rw [Int.toNat_natCast]; exact hbb)
              obtain ⟨ga, oa, hpa, ca0⟩ := HC.out k _ hkr
              subst hpa
              have ca := (HBk.out.cell (block_lt_of_cell ca0)).trans ca0
              obtain ⟨_, _, e3, _, hallf⟩ := HFr.out
              cases e3
              obtain ⟨gf, of, hpf, cf0⟩ := hallf rn bb hbb
              subst hpf
              have cfr := (HBk.out.cell (block_lt_of_cell cf0)).trans cf0
              have HTk := hidr (HTT.out.below HBk.out)
              have HTC := HTk
              obtain ⟨_, _, e4, _, hallt⟩ := HTC.out
              cases e4
              have HTC := hidr hallt
              have HYES : Hid (¬ (rn : Int) ∈ tt → bb = true → ls ++ [tt ++ [(rn : Int)]] = tupS ok role (os.take i) ++ tupR ok tt (role.take (k + 1))) := fun h1 h2 => by
                rw [HLS.out, tupR_yes ok tt hkr h1 (hokr.trans h2), List.append_assoc]
              have HNO : Hid ((rn : Int) ∈ tt ∨ bb = false → ls = tupS ok role (os.take i) ++ tupR ok tt (role.take (k + 1))) := fun h1 => by
                rw [tupR_no ok tt hkr (by rw [hokr]; exact h1)]
                exact HLS.out
              have hlsl : ls.length ≤ 40000 := by
                rw [HLS.out, List.length_append]
                have h1 := HLL.out
                have h2 := tupR_len ok tt (role.take k)
                have h3 := List.length_take_le' k role
                omega
              obtain ⟨w3, hw3⟩ : ∃ q, q = wr := ⟨_, rfl⟩
              rw [← hw3] at ca cfr HN HBk HTk HTC
              rw [← hw3]
              clear hallf cf0 ca0 hbb hkr hallt hokr hw3
              go_wp2_with fail
              go_loopw [13, 37] (fun a t W => ∃ m : Nat, a = .bool (decide ((rn : Int) ∈ tt.take m)) ∧ t = .int .i64 (m : Int) ∧ m ≤ tt.length ∧ W = w3) (fun _ t _ => tt.length - (intOf t).toNat)
              case atStart => exact ⟨0, by simp, rfl, by omega, rfl⟩
              case round =>
                obtain ⟨m, rfl, rfl, hm, rfl⟩ := hrel
                have hm0 : (0 : Int) ≤ (m : Int) := by omega
                by_cases hltm : m < tt.length
                · have hltm' : (m : Int) < (tt.length : Int) := by omega
                  obtain ⟨x, hmx⟩ : ∃ r, tt[m]? = some r := ⟨tt[m], List.getElem?_eq_getElem hltm⟩
                  obtain ⟨gt, ot, hpt, ct0⟩ := HTC.out m _ hmx
                  subst hpt
                  have HM : Hid (decide ((rn : Int) ∈ tt.take (m + 1)) = (decide ((rn : Int) ∈ tt.take m) || (x == (rn : Int)))) := by
                    show _ = _
                    rw [take_snoc hmx, Bool.eq_iff_iff]
                    simp only [decide_eq_true_eq, List.mem_append, List.mem_singleton, Bool.or_eq_true, beq_iff_eq]
                    constructor
                    · rintro (h | h)
                      · exact .inl h
                      · exact .inr h.symm
                    · rintro (h | h)
                      · exact .inl h
                      · exact .inr h.symm
                  obtain ⟨b0, hb0⟩ : ∃ q, decide ((rn : Int) ∈ tt.take m) = q := ⟨_, rfl⟩
                  rw [hb0] at HM ⊢
                  clear hmx hb0
                  cases b0 with
                  | true =>
                    go_wp2_with fail
                    go_roundw
                    case rel => exact ⟨m + 1, by rw [HM.out]; rfl, by go_num, by omega, trivial⟩
                    case measure => simp [intOf]; omega
                  | false =>
                    go_wp2_with fail
                    go_roundw
                    case rel => exact ⟨m + 1, by rw [HM.out]; rfl, by go_num, by omega, trivial⟩
                    case measure => simp [intOf]; omega
                · have hltm' : ¬ (m : Int) < (tt.length : Int) := by omega
                  have hme : m = tt.length := by omega
                  subst hme
                  rw [List.take_of_length_le (Nat.le_refl _)]
                  by_cases htw : (rn : Int) ∈ tt
                  · rw [decide_eq_true htw]
                    have HE := hidr (HNO.out (.inl htw))
                    clear htw HYES HNO HLS
                    go_wp2_with fail
                    go_roundw
                    case rel => exact ⟨k + 1, vs, ls, qn, cn, rfl, by go_num, by omega, HE, HN, HBk⟩
                    case measure => simp [intOf]; omega
                  · rw [decide_eq_false htw]
                    cases bb with
                    | false =>
                      have HE := hidr (HNO.out (.inr rfl))
                      clear htw HYES HNO HLS
                      go_wp2_with fail
                      go_roundw
                      case rel => exact ⟨k + 1, vs, ls, qn, cn, rfl, by go_num, by omega, HE, HN, HBk⟩
                      case measure => simp [intOf]; omega
                    | true =>
                      have HE := hidr (HYES.out htw rfl)
                      clear htw HYES HNO HLS
                      have bE := (Below.refl wr.heap.size wr).alloc (Nat.le_refl _) (.cells #[] 3)
                      have nE := heap_alloc_new wr (.cells #[] 3)
                      have HOE2 := hidr (owns_none _ nE wr.heap.size (Nat.le_refl _))
                      obtain ⟨i0, hi0', hz0, hs0, hby0⟩ := info_of intsInfo
                      have HI := hidr hi0'
                      have hvl : vs.length ≤ 40000 := by rw [HN.out.len]; exact hlsl
                      clear hi0'
                      generalize hwE : wr.alloc (.cells #[] 3) = wE at *
                      have HBE := hidr bE
                      have HTE := hidr (HTk.out.below bE)
                      clear bE nE
                      go_wp2_with (first
                        | (refine wpList_bslice_noneI rfl rfl ?_
                           rw [hwE])
                        | (refine wpList_append_ints (w := wE) rfl _ _ rfl wr.heap.size [] tt _ _ rfl ?ho rfl ?hk ?hS ?hb ?_
                           case ho => exact HOE2.out
                           case hk => exact HTE.out
                           case hS => simp; omega
                           case hb => exact HBE.out.size
                           intro v1 wF ho1 hg1
                           rw [List.nil_append] at ho1
                           have HBF := hidr (below_grownBy HBE.out hg1 (Nat.le_refl _) (fun k hk => (HOE2.out.lt k hk).1))
                           have bG := (Below.refl wF.heap.size wF).alloc (Nat.le_refl _) (.cells #[.int .i64 (rn : Int)] 3)
                           have nG := heap_alloc_new wF (.cells #[.int .i64 (rn : Int)] 3)
                           obtain ⟨wG, hwG⟩ : ∃ q, wF.alloc (.cells #[.int .i64 (rn : Int)] 3) = q := ⟨_, rfl⟩
                           rw [hwG] at bG nG
                           have HOG := hidr (owns_below ho1 bG)
                           have HBG := hidr (HBF.out.trans (bG.mono HBF.out.size))
                           have HRG := hidr (rowI_one nG)
                           clear bG nG ho1 hg1 HBF)
                        | (refine wpList_append_ints (w := wG) rfl _ _ rfl wr.heap.size tt [(rn : Int)] _ _ rfl ?ho rfl ?hk ?hS ?hb ?_
                           case ho => exact HOG.out
                           case hk => exact HRG.out
                           case hS => simp; omega
                           case hb => exact HBG.out.size
                           intro v2 wH ho2 hg2
                           obtain ⟨n2, hn2⟩ : ∃ n, (tt ++ [(rn : Int)]).length = n := ⟨_, rfl⟩
                           rw [hn2] at ho2
                           have HBH := hidr (below_grownBy HBG.out hg2 (Nat.le_refl _) (fun k hk => (HOG.out.lt k hk).1))
                           obtain ⟨q2, c2, e2⟩ := owns_shape ho2
                           subst e2
                           have bI := (Below.refl wH.heap.size wH).alloc (Nat.le_refl _) (.cells #[.slice q2 n2 c2] 26)
                           have nI := heap_alloc_new wH (.cells #[.slice q2 n2 c2] 26)
                           obtain ⟨wI, hwI⟩ : ∃ q, wH.alloc (.cells #[.slice q2 n2 c2] 26) = q := ⟨_, rfl⟩
                           rw [hwI] at bI nI
                           have HBI := hidr (HBH.out.trans (bI.mono HBH.out.size))
                           have HOI := hidr (HN.out.below HBI.out)
                           have HcI := hidr (owns_low (owns_below ho2 bI) HBk.out.size)
                           have zI := (cell_of_row _ _ 0 _ _ _ nI).trans rfl
                           have HB1 := hidr (HBk.out.trans (HBI.out.mono HBk.out.size))
                           have HN2 := hidr hn2
                           clear bI nI ho2 hg2 HBH hn2)
                        | (refine wpList_append_own wI rfl _ _ 22 rfl w1.heap.size 26 i0 (.slice none 0 0) 1 24 intssT HI.out hz0 hs0 hby0 rfl (by decide) _ vs.length vs rfl HOI.out.out ⟨wH.heap.size, 0, none⟩ 1 1 [.slice q2 n2 c2] rfl rfl ?hn ?h1 ?h63 ?hby ?hb ?_
                           case hn =>
                             intro q u hq
                             match q, hq with
                             | 0, hq => cases Option.some.inj hq; simpa [Addr.add] using zI
                             | q + 1, hq => simp at hq
                           case h1 => simp [Value.oneCell']
                           case h63 => unfold maxLen; omega
                           case hby => omega
                           case hb => exact HB1.out.size
                           intro v' w4 ho3 hg3 _))
                      have HO3 := hidr (HOI.out.snoc (l := tt ++ [(rn : Int)]) (by rw [HN2.out]; exact HcI.out) ho3 hg3)
                      have HB3 := hidr (below_grownBy HB1.out hg3 (Nat.le_refl _) (fun k hk => (HOI.out.out.lt k hk).1))
                      clear ho3 hg3
                      go_wp2_with fail
                      go_roundw
                      case rel =>
                        obtain ⟨q', c', hv'⟩ := owns_shape HO3.out.out
                        subst hv'
                        exact ⟨k + 1, _, _, q', c', rfl, by go_num, by omega, HE, HO3, HB3⟩
                      case measure => simp [intOf]; omega
            · have hltk' : ¬ (k : Int) < (role.length : Int) := by omega
              have hke : k = role.length := by omega
              have HE : Hid (ls = tupS ok role (os.take (i + 1))) := by
                show _ = _
                rw [HSS.out, HLS.out, hke, List.take_of_length_le (Nat.le_refl _)]
              clear HLS hke
              go_wp2_with fail
              go_roundw
              case rel => exact ⟨i + 1, vs, ls, qn, cn, rfl, by go_num, by omega, HE, HN, HBk⟩
              case measure => simp [intOf]; omega
        · have hlti' : ¬ (i : Int) < (os.length : Int) := by omega
          have hie : i = os.length := by omega
          have HE : Hid (ls = tupP ok (roles.take (j + 1))) := by
            show _ = _
            rw [HTN.out, ← HOE.out, HLS.out, hie, List.take_of_length_le (Nat.le_refl _)]
          have HRO : Hid (RowRI wr (.slice qn vs.length cn) ls) := by
            refine HN.out.row ?_ fun l hl => ?_
            · rw [HE.out]
              have := HLN.out (j + 1) hlt
              omega
            · rw [HE.out] at hl
              rw [HLE.out (j + 1) hlt l hl]
              omega
          have HBB := hidr (HBr1.out.trans (HBi.out.mono HBr1.out.size))
          have hvl : vs.length = ls.length := HN.out.len
          have HOO2 : Hid (∃ us, OwnRR w.heap.size wr (.slice qn vs.length cn) us ls) := ⟨vs, HN.out.low (Nat.le_trans HB.out.size HBr1.out.size)⟩
          rw [hvl] at HRO HOO2 ⊢
          clear HLS hie HN hvl
          go_wp2_with fail
          go_roundw
          case rel => exact ⟨j + 1, ls, qn, cn, rfl, by go_num, by omega, HE, HRO, HOO2, HBB⟩
          case measure => simp [intOf]; omega
    · have hlt' : ¬ (j : Int) < (roles.length : Int) := by omega
      have HRO : Hid (∃ vs, OwnRR w.heap.size wr (.slice qo os.length co) vs (tupP ok roles)) := by
        have e : j = roles.length := by omega
        have h := HOE.out
        rw [e, List.take_of_length_le (Nat.le_refl _)] at h
        rw [← h]
        exact HOO
      have HBB := hidr (HB.out.trans (HBr.out.mono HB.out.size))
      clear HOE HO HOO
      go_wp2_with fail
      go_ret
      exact ⟨_, rfl, HRO.out, HBB.out⟩
end Go.Proofs.YtlhjgajhcabhoaaDoor

/- The document's way to the first slot of a day, plainly, and that it is the program's. -/
namespace Go.Proofs.YtlhjgajhcabhoaaDoor
open Go.RowKit Msk Mx

theorem tup_split (ok : Int → Bool) : ∀ (rest : List (List Int)) (out : List (List Int)), rest.foldl (fun out p => tupS ok p out) out = out.flatMap fun t => rest.foldl (fun out p => tupS ok p out) [t]
  | [], out => by simp
  | p :: rest, out => by
    rw [List.foldl_cons, tup_split ok rest]
    unfold tupS
    rw [List.flatMap_assoc]
    congr 1
    funext t
    rw [List.foldl_cons]
    have h := tup_split ok rest ([t].flatMap fun t => tupR ok t p)
    rw [show ([t].flatMap fun t => tupR ok t p) = tupR ok t p by simp] at h ⊢
    unfold tupS at h
    exact h.symm
theorem head_flat {α β : Type} (f : α → List β) : ∀ l : List α, (l.flatMap f).head? = l.findSome? fun x => (f x).head?
  | [] => rfl
  | x :: l => by
    rw [List.flatMap_cons, List.findSome?_cons]
    cases hx : f x with
    | nil => simpa using head_flat f l
    | cons y q => simp
theorem find_filter {β : Type} (ok : Int → Bool) (t : List Int) (g : Int → Option β) : ∀ p : List Int, (p.filter fun r => !(decide (r ∈ t)) && ok r).findSome? g = (p.filter ok).findSome? fun r => if r ∈ t then none else g r
  | [] => rfl
  | r :: p => by
    have ih := find_filter ok t g p
    by_cases h1 : r ∈ t
    · cases h2 : ok r <;> simp [h1, h2, ih]
    · cases h2 : ok r <;> simp [h1, h2, ih, List.findSome?_cons]
theorem head_pick (ok : Int → Bool) (roles : List (List Int)) : ∀ (rest : List (List Int)) (t : List Int), roles.drop t.length = rest → (rest.foldl (fun out p => tupS ok p out) [t]).head? = pickP (freeP ok roles) rest.length t
  | [], t, _ => rfl
  | p :: rest, t, h => by
    have hp : roles.getD t.length [] = p := by
      have := congrArg (fun l : List (List Int) => l.getD 0 []) h
      simpa [List.getD, List.getElem?_drop] using this
    have hd : roles.drop (t.length + 1) = rest := by
      have := congrArg (fun l : List (List Int) => l.drop 1) h
      simpa [List.drop_drop] using this
    rw [List.foldl_cons, tup_split, head_flat]
    unfold tupS tupR
    rw [show ([t].flatMap fun t => (p.filter fun r => !(decide (r ∈ t)) && ok r).map fun r => t ++ [r]) = (p.filter fun r => !(decide (r ∈ t)) && ok r).map fun r => t ++ [r] by simp, List.findSome?_map, find_filter, List.length_cons, pickP, freeP_getD, hp]
    congr 1
    funext r
    by_cases hr : r ∈ t
    · rw [if_pos hr, if_pos hr]
    · rw [if_neg hr, if_neg hr]
      exact head_pick ok roles rest (t ++ [r]) (by rw [List.length_append]; exact hd)
theorem tup_pick (ok : Int → Bool) (roles : List (List Int)) : (tupP ok roles).head? = pickP (freeP ok roles) roles.length [] := head_pick ok roles roles [] rfl
/-- The first minute of a day at which all roles can be filled, minute by minute. -/
def dayG (s : Sv) (fs : List (Nat → Bool)) : Nat → Int → Option (Int × List Int)
  | 0, _ => none
  | n + 1, m => match (tupP (okP fs (m - s.bef) (m - s.bef + whole s)) s.roles).head? with
    | some who => some (m, who)
    | none => dayG s fs n (m + 1)
theorem dayG_some {s : Sv} {fs : List (Nat → Bool)} : ∀ {n : Nat} {m m' : Int} {who : List Int}, dayG s fs n m = some (m', who) → m ≤ m' ∧ m' < m + n ∧ (tupP (okP fs (m' - s.bef) (m' - s.bef + whole s)) s.roles).head? = some who ∧ ∀ q, m ≤ q → q < m' → (tupP (okP fs (q - s.bef) (q - s.bef + whole s)) s.roles).head? = none
  | 0, m, m', who, h => by cases h
  | n + 1, m, m', who, h => by
    rw [dayG] at h
    cases hx : (tupP (okP fs (m - s.bef) (m - s.bef + whole s)) s.roles).head? with
    | some w0 =>
      rw [hx] at h
      have h' := Option.some.inj h
      have e1 : m = m' := congrArg Prod.fst h'
      have e2 : w0 = who := congrArg Prod.snd h'
      subst e1 e2
      exact ⟨Int.le_refl _, by omega, hx, fun q h1 h2 => by omega⟩
    | none =>
      rw [hx] at h
      obtain ⟨h1, h2, h3, h4⟩ := dayG_some h
      refine ⟨by omega, by omega, h3, fun q q1 q2 => ?_⟩
      by_cases e : q = m
      · rw [e]; exact hx
      · exact h4 q (by omega) q2
theorem dayG_none {s : Sv} {fs : List (Nat → Bool)} : ∀ {n : Nat} {m : Int}, dayG s fs n m = none → ∀ q, m ≤ q → q < m + n → (tupP (okP fs (q - s.bef) (q - s.bef + whole s)) s.roles).head? = none
  | 0, m, _, q, h1, h2 => by omega
  | n + 1, m, h, q, h1, h2 => by
    rw [dayG] at h
    cases hx : (tupP (okP fs (m - s.bef) (m - s.bef + whole s)) s.roles).head? with
    | some w0 => rw [hx] at h; cases h
    | none =>
      rw [hx] at h
      by_cases e : q = m
      · rw [e]; exact hx
      · exact dayG_none h q (by omega) (by omega)
theorem first_at {s : Sv} {n : Int} {fs : List (Nat → Bool)} (hS : SvOK s n) {m : Int} {who : List Int} (h : firstP s.len s.bef s.aft s.roles fs = some (m, who)) : (tupP (okP fs (m - s.bef) (m - s.bef + whole s)) s.roles).head? = some who ∧ s.bef ≤ m ∧ m < 1440 := by
  have hf := (first_some hS h).1
  obtain ⟨x, hx, hx2⟩ := findSome_some h
  have hb := place_bd hx
  have hr1 := hS.r1
  have hme := of_decide_eq_true hS.meas
  unfold atP8 at hx2
  rw [show s.bef + s.len + s.aft = whole s from rfl] at hx2
  cases hp : pickP (freeP (okP fs x (x + whole s)) s.roles) s.roles.length [] with
  | none => rw [hp] at hx2; cases hx2
  | some w0 =>
    rw [hp] at hx2
    have h3' := Option.some.inj hx2
    have e1 : x + s.bef = m := congrArg Prod.fst h3'
    have e2 : w0 = who := congrArg Prod.snd h3'
    subst e1 e2
    rw [show x + s.bef - s.bef = x by omega, tup_pick]
    refine ⟨hp, by omega, ?_⟩
    have hl := hf.len
    obtain ⟨r, hr⟩ : ∃ r, r ∈ w0 := by
      cases w0 with
      | nil => simp at hl; omega
      | cons r l => exact ⟨r, List.mem_cons_self⟩
    have h2 := (okP_iff _ _ _ _).1 (hf.ok r hr)
    have hW : whole s = s.bef + s.len + s.aft := rfl
    omega
/-- The document's first slot of a day is the program's. -/
theorem day_first {s : Sv} {n : Int} {fs : List (Nat → Bool)} (hS : SvOK s n) (hb : s.bef ≤ 1440) : dayG s fs (1440 - s.bef).toNat s.bef = firstP s.len s.bef s.aft s.roles fs := by
  have hn : (((1440 - s.bef).toNat : Nat) : Int) = 1440 - s.bef := by omega
  cases hf : firstP s.len s.bef s.aft s.roles fs with
  | none =>
    cases hd : dayG s fs (1440 - s.bef).toNat s.bef with
    | none => rfl
    | some x =>
      obtain ⟨m, who⟩ := x
      obtain ⟨h1, h2, h3, _⟩ := dayG_some hd
      rw [tup_pick] at h3
      obtain ⟨u, eu, hv⟩ := pick_sound (by unfold freeP; rw [List.length_map]; simp) (by simp) h3
      rw [List.nil_append] at eu
      subst eu
      have hfit := fit_val.2 hv
      exact absurd hfit (first_none hS hf _ _)
  | some x =>
    obtain ⟨m, who⟩ := x
    obtain ⟨h1, h2, h3⟩ := first_at hS hf
    cases hd : dayG s fs (1440 - s.bef).toNat s.bef with
    | none =>
      have := dayG_none hd m h2 (by omega)
      rw [h1] at this
      cases this
    | some y =>
      obtain ⟨m', who'⟩ := y
      obtain ⟨g1, g2, g3, g4⟩ := dayG_some hd
      have hle : m' ≤ m := by
        refine Classical.byContradiction fun hc => ?_
        have := g4 m h2 (by omega)
        rw [h1] at this
        cases this
      have hge : m ≤ m' := by
        rw [tup_pick] at g3
        obtain ⟨u, eu, hv⟩ := pick_sound (by unfold freeP; rw [List.length_map]; simp) (by simp) g3
        rw [List.nil_append] at eu
        subst eu
        have hfit := fit_val.2 hv
        rw [show m' - s.bef + s.bef = m' by omega] at hfit
        rcases (first_some hS hf).2 _ _ hfit with h | h
        · omega
        · omega
      have e : m' = m := by omega
      subst e
      rw [h1] at g3
      cases Option.some.inj g3
      rfl
/-- Nobody is free: no one can fill the roles. -/
theorem tup_none {ok : Int → Bool} {roles : List (List Int)} (h1 : 1 ≤ roles.length) (h : ∀ p ∈ roles, ∀ r ∈ p, ok r = false) : tupP ok roles = [] := by
  match roles, h1 with
  | p :: rest, _ =>
    have hp : tupR ok [] p = [] := by
      unfold tupR
      rw [List.map_eq_nil_iff, List.filter_eq_nil_iff]
      intro r hr
      rw [h p List.mem_cons_self r hr]
      simp
    unfold tupP
    rw [List.foldl_cons, tup_split]
    unfold tupS
    simp [hp]
end Go.Proofs.YtlhjgajhcabhoaaDoor

/- Rows of marks in memory: what the document's Find keeps of a day. -/
namespace Go.Proofs.YtlhjgajhcabhoaaDoor
open Go.RowKit Msk Mx

def bcellsT (n : Nat) (m : Nat → Bool) : Array Value := ((List.range n).map fun i => Value.bool (m i)).toArray
theorem bcellsT_at {n : Nat} {m : Nat → Bool} {i : Nat} (h : i < n) : (bcellsT n m)[i]? = some (.bool (m i)) := by
  simp [bcellsT, h]
theorem bcellsT_none (n : Nat) : madeCells #[Value.bool false] n = bcellsT n (fun _ => false) := by
  apply Array.ext
  · simp [bcellsT, madeCells]
  · intro k h1 h2
    simp [bcellsT, madeCells, Nat.mod_one]
theorem bcellsT_setb {n : Nat} {m : Nat → Bool} {i : Nat} {b : Bool} : (bcellsT n m).setIfInBounds i (.bool b) = bcellsT n (fun k => if k = i then b else m k) := by
  apply Array.ext
  · simp [bcellsT]
  · intro k h1 h2
    have hk : k < n := by simpa [bcellsT] using h2
    rw [Array.getElem_setIfInBounds (by simpa [bcellsT] using hk)]
    by_cases e : i = k
    · subst e
      simp [bcellsT]
    · rw [if_neg e]
      simp [bcellsT, show k ≠ i from fun h => e h.symm]
theorem bcellsT_congr {n : Nat} {m m' : Nat → Bool} (h : ∀ k, k < n → m k = m' k) : bcellsT n m = bcellsT n m' := by
  unfold bcellsT
  congr 1
  apply List.map_congr_left
  intro k hk
  rw [h k (List.mem_range.1 hk)]
/-- Rows as cells: the first so many are made. -/
def ocellsT (n p : Nat) (rs : Nat → Nat) : Array Value := ((List.range n).map fun j => if j < p then Value.slice (some ⟨rs j, 0, none⟩) 1441 1441 else .slice none 0 0).toArray
theorem ocellsT_at {n p : Nat} {rs : Nat → Nat} {j : Nat} (h : j < p) (hn : j < n) : (ocellsT n p rs)[j]? = some (.slice (some ⟨rs j, 0, none⟩) 1441 1441) := by
  simp [ocellsT, hn, h]
theorem ocellsT_not {n p : Nat} {rs : Nat → Nat} {j : Nat} (h : p ≤ j) (hn : j < n) : (ocellsT n p rs)[j]? = some (.slice none 0 0) := by
  simp [ocellsT, hn]; omega
theorem ocellsT_none (n : Nat) (rs : Nat → Nat) : madeCells #[Value.slice none 0 0] n = ocellsT n 0 rs := by
  apply Array.ext
  · simp [ocellsT, madeCells]
  · intro k h1 h2
    simp [ocellsT, madeCells, Nat.mod_one]
theorem ocellsT_set {n p q : Nat} {rs : Nat → Nat} : (ocellsT n p rs).setIfInBounds p (.slice (some ⟨q, 0, none⟩) 1441 1441) = ocellsT n (p + 1) (fun j => if j = p then q else rs j) := by
  apply Array.ext
  · simp [ocellsT]
  · intro k h1 h2
    have hk : k < n := by simpa [ocellsT] using h2
    rw [Array.getElem_setIfInBounds (by simpa [ocellsT] using hk)]
    by_cases e : p = k
    · subst e
      simp [ocellsT]
    · rw [if_neg e]
      have e2 : k ≠ p := fun h => e h.symm
      by_cases h : k < p
      · simp [ocellsT, e2, h, show k < p + 1 by omega]
      · simp [ocellsT, h, show ¬ k < p + 1 by omega]
def updT (M : Nat → Nat → Bool) (i k : Nat) (b : Bool) : Nat → Nat → Bool := fun i' k' => if i' = i ∧ k' = k then b else M i' k'
/-- Rows of marks in memory, made since; the first so many of them. -/
structure CdM (w : World) (n p : Nat) (rs : Nat → Nat) (M : Nat → Nat → Bool) (W : World) : Prop where
  bel : Below w.heap.size w W
  outer : W.heap[w.heap.size]? = some (.cells (ocellsT n p rs) 49 (0, 0))
  rows : ∀ j, j < p → W.heap[rs j]? = some (.cells (bcellsT 1441 (M j)) 4 (0, 0))
  inj : ∀ j k, j < p → k < p → rs j = rs k → j = k
  gt : ∀ j, j < p → w.heap.size < rs j
  le : p ≤ n
theorem CdM.below {w W W' : World} {n p : Nat} {rs : Nat → Nat} {M : Nat → Nat → Bool} (h : CdM w n p rs M W) (hb : Below W.heap.size W W') : CdM w n p rs M W' :=
  ⟨h.bel.trans (hb.mono h.bel.size), (hb.block _ (lt_of_block h.outer)).trans h.outer, fun j hj => (hb.block _ (lt_of_block (h.rows j hj))).trans (h.rows j hj), h.inj, h.gt, h.le⟩
theorem CdM.same {w W : World} {n p : Nat} {rs : Nat → Nat} {M M' : Nat → Nat → Bool} (h : CdM w n p rs M W) (he : ∀ j k, j < p → k < 1441 → M j k = M' j k) : CdM w n p rs M' W := by
  refine ⟨h.bel, h.outer, fun j hj => ?_, h.inj, h.gt, h.le⟩
  rw [h.rows j hj]
  have : bcellsT 1441 (M j) = bcellsT 1441 (M' j) := bcellsT_congr fun k hk => he j k hj hk
  rw [this]
theorem CdM.out {w W : World} {n p : Nat} {rs : Nat → Nat} {M : Nat → Nat → Bool} (h : CdM w n p rs M W) {i : Nat} (hi : i < p) : W.cell? ⟨w.heap.size, i, none⟩ = some (.slice (some ⟨rs i, 0, none⟩) 1441 1441) :=
  (cell_of_row _ _ i _ _ _ h.outer).trans (ocellsT_at hi (by have := h.le; omega))
theorem CdM.cell {w W : World} {n p : Nat} {rs : Nat → Nat} {M : Nat → Nat → Bool} (h : CdM w n p rs M W) {i k : Nat} (hi : i < p) (hk : k < 1441) : W.cell? ⟨rs i, k, none⟩ = some (.bool (M i k)) :=
  (cell_of_row _ _ k _ _ _ (h.rows i hi)).trans (bcellsT_at hk)
theorem CdM.frz {w W : World} {n p : Nat} {rs : Nat → Nat} {M : Nat → Nat → Bool} (h : CdM w n p rs M W) {i : Nat} (hi : i < p) (k : Nat) : W.frozen? ⟨rs i, k, none⟩ = false := frozen_of_row _ _ k _ _ (h.rows i hi)
theorem CdM.set {w W : World} {n p : Nat} {rs : Nat → Nat} {M : Nat → Nat → Bool} (h : CdM w n p rs M W) {i k : Nat} {b : Bool} (hi : i < p) : CdM w n p rs (updT M i k b) (W.setCell ⟨rs i, k, none⟩ (.bool b)) := by
  have ho : ∀ q, q ≠ rs i → (W.setCell ⟨rs i, k, none⟩ (.bool b)).heap[q]? = W.heap[q]? := fun q hq => heap_setCell_other W ⟨rs i, k, none⟩ q _ hq
  have hg := h.gt i hi
  refine ⟨h.bel.setCell (by show w.heap.size ≤ rs i; omega) _, (ho _ (by omega)).trans h.outer, fun j hj => ?_, h.inj, h.gt, h.le⟩
  by_cases e : j = i
  · subst e
    have := heap_setCell_same W (rs j) k _ _ (.bool b) (h.rows j hj)
    rw [bcellsT_setb] at this
    rw [this]
    have e2 : updT M j k b j = fun k' => if k' = k then b else M j k' := by
      funext k'
      simp [updT]
    rw [e2]
  · rw [ho _ (fun h' => e (h.inj j i hj hi h'))]
    have e2 : updT M i k b j = M j := by
      funext k'
      simp [updT, e]
    rw [e2]
    exact h.rows j hj
theorem CdM.add {w W : World} {n p : Nat} {rs : Nat → Nat} {M : Nat → Nat → Bool} (h : CdM w n p rs M W) (hp : p < n) : CdM w n (p + 1) (fun j => if j = p then W.heap.size else rs j) (fun j k => if j = p then false else M j k) ((W.alloc (.cells (bcellsT 1441 (fun _ => false)) 4)).setCell ⟨w.heap.size, p, none⟩ (.slice (some ⟨W.heap.size, 0, none⟩) 1441 1441)) := by
  have hsz := h.bel.size
  have hlo := lt_of_block h.outer
  have bA := (Below.refl W.heap.size W).alloc (Nat.le_refl _) (.cells (bcellsT 1441 (fun _ => false)) 4)
  have ho : ∀ q, q ≠ w.heap.size → ((W.alloc (.cells (bcellsT 1441 (fun _ => false)) 4)).setCell ⟨w.heap.size, p, none⟩ (.slice (some ⟨W.heap.size, 0, none⟩) 1441 1441)).heap[q]? = (W.alloc (.cells (bcellsT 1441 (fun _ => false)) 4)).heap[q]? := fun q hq => heap_setCell_other _ ⟨w.heap.size, p, none⟩ q _ hq
  have hA := h.below bA
  refine ⟨hA.bel.setCell (by show w.heap.size ≤ w.heap.size; omega) _, ?_, fun j hj => ?_, fun j k hj hk => ?_, fun j hj => ?_, by omega⟩
  · have := heap_setCell_same _ w.heap.size p _ _ (.slice (some ⟨W.heap.size, 0, none⟩) 1441 1441) hA.outer
    rw [ocellsT_set] at this
    exact this
  · by_cases e : j = p
    · subst e
      simp only [if_pos]
      rw [ho _ (by omega)]
      exact heap_alloc_new W _
    · simp only [if_neg e]
      have hj' : j < p := by omega
      have := h.gt j hj'
      rw [ho _ (by omega)]
      exact hA.rows j hj'
  · have hl1 : ∀ q, q < p → rs q < W.heap.size := fun q hq => lt_of_block (h.rows q hq)
    by_cases e : j = p
    · by_cases e' : k = p
      · intro _; omega
      · rw [if_pos e, if_neg e']
        have := hl1 k (by omega)
        intro h'; omega
    · by_cases e' : k = p
      · rw [if_neg e, if_pos e']
        have := hl1 j (by omega)
        intro h'; omega
      · rw [if_neg e, if_neg e']
        exact h.inj j k (by omega) (by omega)
  · split
    · omega
    · exact h.gt j (by omega)
theorem boolInfoT : (Tryd.prog.info? 4).map (fun i => (i.zero, i.size, i.bytes)) = some (some (.bool false), 1, 1) := by kernel_rfl
theorem boolsTypeT : Tryd.prog.underlying 49 = some (.slice 4) := by kernel_rfl
theorem slInfoT : (Tryd.prog.info? 49).map (fun i => (i.zero, i.size, i.bytes)) = some (some (.slice none 0 0), 1, 24) := by kernel_rfl
theorem boolssTypeT : Tryd.prog.underlying 48 = some (.slice 49) := by kernel_rfl
/-- How long the minutes from the d-th last one on are free without a gap. -/
def runD (f : Nat → Bool) : Nat → Nat
  | 0 => 0
  | d + 1 => if f (1440 - (d + 1)) then runD f d + 1 else 0
theorem runD_iff (f : Nat → Bool) : ∀ (d W : Nat), d ≤ 1440 → (W ≤ runD f d ↔ W ≤ d ∧ ∀ i, 1440 - d ≤ i → i < 1440 - d + W → f i = true)
  | 0, W, _ => by
    rw [runD]
    constructor
    · intro h
      exact ⟨h, fun i h1 h2 => by omega⟩
    · exact fun h => h.1
  | d + 1, W, hd => by
    rw [runD]
    cases W with
    | zero => exact ⟨fun _ => ⟨Nat.zero_le _, fun i h1 h2 => by omega⟩, fun _ => Nat.zero_le _⟩
    | succ W =>
      by_cases hf : f (1440 - (d + 1)) = true
      · rw [if_pos hf, Nat.add_le_add_iff_right, runD_iff f d W (by omega)]
        constructor
        · rintro ⟨h1, h2⟩
          refine ⟨by omega, fun i i1 i2 => ?_⟩
          by_cases e : i = 1440 - (d + 1)
          · rw [e]; exact hf
          · exact h2 i (by omega) (by omega)
        · rintro ⟨h1, h2⟩
          exact ⟨by omega, fun i i1 i2 => h2 i (by omega) (by omega)⟩
      · rw [if_neg hf]
        constructor
        · intro h; omega
        · rintro ⟨h1, h2⟩
          exact absurd (h2 (1440 - (d + 1)) (by omega) (by omega)) hf
/-- May one be had from a minute on? -/
def cdB (fs : List (Nat → Bool)) (W : Int) (j i : Nat) : Bool := decide (i < 1440) && okP fs (i : Int) ((i : Int) + W) (j : Int)
theorem cdB_run {fs : List (Nat → Bool)} {W : Int} {j d : Nat} {f : Nat → Bool} (hf : fs[j]? = some f) (hW : 1 ≤ W) (hd : d < 1440) : cdB fs W j (1440 - (d + 1)) = decide (W ≤ (runD f (d + 1) : Int)) := by
  unfold cdB
  rw [decide_eq_true (show 1440 - (d + 1) < 1440 by omega), Bool.true_and, Bool.eq_iff_iff, okP_iff, decide_eq_true_eq]
  have e : (fs.getD (j : Int).toNat fun _ => false) = f := by
    rw [Int.toNat_natCast]
    simp [List.getD, hf]
  rw [e]
  obtain ⟨n, rfl⟩ : ∃ n : Nat, W = (n : Int) := ⟨W.toNat, by omega⟩
  have h := runD_iff f (d + 1) n hd
  rw [show ((n : Int) ≤ (runD f (d + 1) : Int)) ↔ n ≤ runD f (d + 1) by omega, h]
  constructor
  · rintro ⟨h1, h2, h3, h4⟩
    exact ⟨by omega, fun i i1 i2 => h4 i (by omega) (by omega)⟩
  · rintro ⟨h1, h2⟩
    exact ⟨by omega, by omega, by omega, fun i i1 i2 => h2 i (by omega) (by omega)⟩
end Go.Proofs.YtlhjgajhcabhoaaDoor
