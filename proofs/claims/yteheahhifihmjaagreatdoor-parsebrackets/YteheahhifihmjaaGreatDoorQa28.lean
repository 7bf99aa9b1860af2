/- What the document's Same comes to, of rules that lie in memory twice. -/
import Derived.Test.YteheahhifihmjaaGreatDoorQa26
import Derived.Test.YteheahhifihmjaaGreatDoorQa27
namespace Go.Proofs.YteheahhifihmjaaGreatDoor
open Go.RowKit Lx

theorem flatR_at : ∀ (us : List (Ru × Value)) (j : Nat) (p : Ru × Value), us[j]? = some p → (flatR us)[j * 6]? = some (.string ⟨p.1.1.toArray⟩) ∧ (flatR us)[j * 6 + 1]? = some (.int .i64 p.1.2.kind) ∧ (flatR us)[j * 6 + 2]? = some (.int .i64 p.1.2.a) ∧ (flatR us)[j * 6 + 3]? = some (.int .i64 p.1.2.b) ∧ (flatR us)[j * 6 + 4]? = some (.string ⟨p.1.2.name.toArray⟩) ∧ (flatR us)[j * 6 + 5]? = some p.2
  | [], j, p, h => by simp at h
  | q :: us, 0, p, h => by
    have : q = p := by simpa using h
    subst this
    simp [flatR]
  | q :: us, j + 1, p, h => by
    have := flatR_at us j p (by simpa using h)
    have e : (j + 1) * 6 = j * 6 + 1 + 1 + 1 + 1 + 1 + 1 := by omega
    rw [e]
    simpa [flatR] using this
/-- A row of rules in memory. -/
def RRow (w : World) (v : Value) (us : List (Ru × Value)) : Prop :=
  (us = [] ∧ ∃ p c, v = .slice p 0 c) ∨ ∃ g o c : Nat, v = .slice (some ⟨g, o, none⟩) us.length c ∧ us.length < 9223372036854775808 ∧ ∀ (j : Nat) (p : Ru × Value), us[j]? = some p →
    w.cell? ⟨g, o + j * 6, none⟩ = some (.string ⟨p.1.1.toArray⟩) ∧ w.cell? ⟨g, o + j * 6 + 1, none⟩ = some (.int .i64 p.1.2.kind) ∧ w.cell? ⟨g, o + j * 6 + 2, none⟩ = some (.int .i64 p.1.2.a) ∧ w.cell? ⟨g, o + j * 6 + 3, none⟩ = some (.int .i64 p.1.2.b) ∧
    w.cell? ⟨g, o + j * 6 + 4, none⟩ = some (.string ⟨p.1.2.name.toArray⟩) ∧ w.cell? ⟨g, o + j * 6 + 5, none⟩ = some p.2
theorem RRow.below {w w' : World} {v : Value} {us : List (Ru × Value)} (h : RRow w v us) (hb : Below w.heap.size w w') : RRow w' v us := by
  rcases h with h | ⟨g, o, c, hv, hl, hc⟩
  · exact .inl h
  · refine .inr ⟨g, o, c, hv, hl, fun j p hj => ?_⟩
    obtain ⟨c0, c1, c2, c3, c4, c5⟩ := hc j p hj
    exact ⟨(hb.cell (block_lt_of_cell c0)).trans c0, (hb.cell (block_lt_of_cell c1)).trans c1, (hb.cell (block_lt_of_cell c2)).trans c2, (hb.cell (block_lt_of_cell c3)).trans c3, (hb.cell (block_lt_of_cell c4)).trans c4, (hb.cell (block_lt_of_cell c5)).trans c5⟩
theorem rrow_of_owns {w : World} {base : Nat} {v : Value} {us : List (Ru × Value)} (h : w.ownsRow base 40 6 v us.length (flatR us)) (hl : us.length < 9223372036854775808) : RRow w v us := by
  by_cases h0 : us.length = 0
  · obtain ⟨p, c, rfl⟩ := row_form h
    exact .inl ⟨List.length_eq_zero_iff.1 h0, p, c, by rw [h0]⟩
  · obtain ⟨g, cap, hv, hc⟩ := own_slice h (by omega)
    refine .inr ⟨g, 0, cap, hv, hl, fun j p hj => ?_⟩
    obtain ⟨f0, f1, f2, f3, f4, f5⟩ := flatR_at us j p hj
    rw [Nat.zero_add]
    exact ⟨hc _ _ f0, hc _ _ f1, hc _ _ f2, hc _ _ f3, hc _ _ f4, hc _ _ f5⟩
/-- Every rule's kids lie in memory. -/
def KidsR (B : Nat → Prop) (w : World) (us : List (Ru × Value)) : Prop := ∀ p ∈ us, ∃ d, KidsAt B d w p.2 p.1.2.kids
/-- So many values, one by one. -/
structure Fs42 (l : List Value) where
  (u0 u1 u2 u3 u4 u5 u6 u7 u8 u9 u10 u11 u12 u13 u14 u15 u16 u17 u18 u19 u20 u21 u22 u23 u24 u25 u26 u27 u28 u29 u30 u31 u32 u33 u34 u35 u36 u37 u38 u39 u40 u41 : Value)
  eq : l = [u0, u1, u2, u3, u4, u5, u6, u7, u8, u9, u10, u11, u12, u13, u14, u15, u16, u17, u18, u19, u20, u21, u22, u23, u24, u25, u26, u27, u28, u29, u30, u31, u32, u33, u34, u35, u36, u37, u38, u39, u40, u41]
set_option maxRecDepth 100000 in
theorem fs42 (l : List Value) (hl : l.length = 42) : Nonempty (Fs42 l) := allL 42 (fun l => Nonempty (Fs42 l)) (fun u0 u1 u2 u3 u4 u5 u6 u7 u8 u9 u10 u11 u12 u13 u14 u15 u16 u17 u18 u19 u20 u21 u22 u23 u24 u25 u26 u27 u28 u29 u30 u31 u32 u33 u34 u35 u36 u37 u38 u39 u40 u41 => ⟨⟨u0, u1, u2, u3, u4, u5, u6, u7, u8, u9, u10, u11, u12, u13, u14, u15, u16, u17, u18, u19, u20, u21, u22, u23, u24, u25, u26, u27, u28, u29, u30, u31, u32, u33, u34, u35, u36, u37, u38, u39, u40, u41, rfl⟩⟩) l hl
/-- What a value of the region is, once it is there. -/
def msp (ga oa ca gb ob cb n j : Nat) (nm : ByteArray) (k0 k1 k2 : Int) (xn : ByteArray) (pa pb : Option Addr) (m sa sb : Nat) (q : Nat) (x : Value) : Prop := match q with
  | 0 => x = .slice (some ⟨ga, oa, none⟩) n ca
  | 1 => x = .int .i64 (j : Int)
  | 2 => x = .pointer (some ⟨ga, oa + j * 6, none⟩)
  | 3 => x = .pointer (some ⟨ga, oa + j * 6, none⟩)
  | 4 => x = .string nm
  | 5 => x = .slice (some ⟨gb, ob, none⟩) n cb
  | 6 => x = .int .i64 (j : Int)
  | 7 => x = .pointer (some ⟨gb, ob + j * 6, none⟩)
  | 8 => x = .pointer (some ⟨gb, ob + j * 6, none⟩)
  | 9 => x = .string nm
  | 10 => x = .bool false
  | 11 => x = .bool false
  | 12 => x = .slice (some ⟨ga, oa, none⟩) n ca
  | 13 => x = .int .i64 (j : Int)
  | 14 => x = .pointer (some ⟨ga, oa + j * 6, none⟩)
  | 15 => x = .pointer (some ⟨ga, oa + j * 6 + 1, none⟩)
  | 16 => x = .agg #[.int .i64 k0, .int .i64 k1, .int .i64 k2, .string xn, .slice pa m sa]
  | 17 => x = .slice (some ⟨gb, ob, none⟩) n cb
  | 18 => x = .int .i64 (j : Int)
  | 19 => x = .pointer (some ⟨gb, ob + j * 6, none⟩)
  | 20 => x = .pointer (some ⟨gb, ob + j * 6 + 1, none⟩)
  | 21 => x = .agg #[.int .i64 k0, .int .i64 k1, .int .i64 k2, .string xn, .slice pb m sb]
  | 22 => x = .bool true
  | 23 => x = .bool false
  | 24 => x = .bool false
  | _ => True

set_option maxRecDepth 100000 in
set_option maxHeartbeats 4000000 in
theorem same_any (B B' : Nat → Prop) (us us' : List (Ru × Value)) (va vb : Value) (w : World) (ha : RRow w va us) (hb : RRow w vb us') (hka : KidsR B w us) (hkb : KidsR B' w us') (he : us.map (fun p => p.1) = us'.map (fun p => p.1)) :
    Calls Tryz.prog 9 #[va, vb] w fun r w' => r = .returned (.bool true) ∧ Below w.heap.size w w' := by
  have hlen : us'.length = us.length := by simpa using (congrArg List.length he).symm
  by_cases hn : us.length = 0
  · obtain ⟨pa, ca, rfl⟩ : ∃ p c, va = .slice p 0 c := by
      rcases ha with ⟨_, p, c, h⟩ | ⟨g, o, c, h, _⟩
      · exact ⟨p, c, h⟩
      · exact ⟨_, c, by rw [h, hn]⟩
    obtain ⟨pb, cb, rfl⟩ : ∃ p c, vb = .slice p 0 c := by
      rcases hb with ⟨_, p, c, h⟩ | ⟨g, o, c, h, _⟩
      · exact ⟨p, c, h⟩
      · exact ⟨_, c, by rw [h, hlen, hn]⟩
    clear ha hb hka hkb he hlen hn
    go_enter Tryz.func9, Tryz.ntmps9
    go_wp2_with fail
    refine wp_loop_rounds 1 ?_
    rw [rounds_succ]
    go_wp2_with fail
    go_ret
    exact ⟨rfl, Below.refl _ _⟩
  · rcases ha with ⟨h, _⟩ | ⟨ga, oa, ca, rfl, hl, hca⟩
    · exact absurd (by rw [h]; rfl) hn
    rcases hb with ⟨h, _⟩ | ⟨gb, ob, cb, rfl, _, hcb⟩
    · exact absurd (by rw [← hlen, h]; rfl) hn
    rw [hlen]
    have HA : Hid (∀ (j : Nat) (p : Ru × Value), us[j]? = some p →
      w.cell? ⟨ga, oa + j * 6, none⟩ = some (.string ⟨p.1.1.toArray⟩) ∧ w.cell? ⟨ga, oa + j * 6 + 1, none⟩ = some (.int .i64 p.1.2.kind) ∧ w.cell? ⟨ga, oa + j * 6 + 2, none⟩ = some (.int .i64 p.1.2.a) ∧ w.cell? ⟨ga, oa + j * 6 + 3, none⟩ = some (.int .i64 p.1.2.b) ∧
      w.cell? ⟨ga, oa + j * 6 + 4, none⟩ = some (.string ⟨p.1.2.name.toArray⟩) ∧ w.cell? ⟨ga, oa + j * 6 + 5, none⟩ = some p.2) := hca
    have HB : Hid (∀ (j : Nat) (p : Ru × Value), us'[j]? = some p →
      w.cell? ⟨gb, ob + j * 6, none⟩ = some (.string ⟨p.1.1.toArray⟩) ∧ w.cell? ⟨gb, ob + j * 6 + 1, none⟩ = some (.int .i64 p.1.2.kind) ∧ w.cell? ⟨gb, ob + j * 6 + 2, none⟩ = some (.int .i64 p.1.2.a) ∧ w.cell? ⟨gb, ob + j * 6 + 3, none⟩ = some (.int .i64 p.1.2.b) ∧
      w.cell? ⟨gb, ob + j * 6 + 4, none⟩ = some (.string ⟨p.1.2.name.toArray⟩) ∧ w.cell? ⟨gb, ob + j * 6 + 5, none⟩ = some p.2) := hcb
    have HL : Hid (us'.length = us.length) := hlen
    clear hca hcb hn hlen
    go_enter Tryz.func9, Tryz.ntmps9
    go_wp2_with fail
    go_loopw [13] (fun t wr => ∃ j : Nat, t = .int .i64 (j : Int) ∧ j ≤ us.length ∧ Below w.heap.size w wr) (fun t _ => us.length - (intOf t).toNat)
    case atStart => exact ⟨0, rfl, by omega, Below.refl _ _⟩
    case round =>
      obtain ⟨j, rfl, hj, hbr⟩ := hrel
      have hj0 : (0 : Int) ≤ (j : Int) := by omega
      by_cases hlt : j < us.length
      · have hlt' : (j : Int) < (us.length : Int) := by omega
        obtain ⟨⟨u, ska⟩, hjk⟩ : ∃ k, us[j]? = some k := ⟨us[j], List.getElem?_eq_getElem hlt⟩
        obtain ⟨⟨u', skb⟩, hjk'⟩ : ∃ k, us'[j]? = some k := ⟨us'[j]'(by have := HL.out; omega), List.getElem?_eq_getElem _⟩
        obtain rfl : u = u' := by
          have h1 : (us.map (fun p => p.1))[j]? = some u := by rw [List.getElem?_map, hjk]; rfl
          have h2 : (us'.map (fun p => p.1))[j]? = some u' := by rw [List.getElem?_map, hjk']; rfl
          rw [he, h2] at h1
          exact (Option.some.inj h1).symm
        obtain ⟨a000, a100, a200, a300, a400, a500⟩ := HA.out j _ hjk
        obtain ⟨b000, b100, b200, b300, b400, b500⟩ := HB.out j _ hjk'
        obtain ⟨da, hkka⟩ := hka _ (List.mem_of_getElem? hjk)
        obtain ⟨db, hkkb⟩ := hkb _ (List.mem_of_getElem? hjk')
        dsimp only at a000 a100 a200 a300 a400 a500 b000 b100 b200 b300 b400 b500 hkka hkkb
        obtain ⟨pa, sa, rfl⟩ := hkka.form
        obtain ⟨pb, sb, rfl⟩ := hkkb.form
        have a00 := (hbr.cell (block_lt_of_cell a000)).trans a000
        have a10 := (hbr.cell (block_lt_of_cell a100)).trans a100
        have a20 := (hbr.cell (block_lt_of_cell a200)).trans a200
        have a30 := (hbr.cell (block_lt_of_cell a300)).trans a300
        have a40 := (hbr.cell (block_lt_of_cell a400)).trans a400
        have a50 := (hbr.cell (block_lt_of_cell a500)).trans a500
        have b00 := (hbr.cell (block_lt_of_cell b000)).trans b000
        have b10 := (hbr.cell (block_lt_of_cell b100)).trans b100
        have b20 := (hbr.cell (block_lt_of_cell b200)).trans b200
        have b30 := (hbr.cell (block_lt_of_cell b300)).trans b300
        have b40 := (hbr.cell (block_lt_of_cell b400)).trans b400
        have b50 := (hbr.cell (block_lt_of_cell b500)).trans b500
        have cE : ∀ W, Below wr.heap.size wr W → Calls Tryz.prog 20 #[.agg #[.int .i64 u.2.kind, .int .i64 u.2.a, .int .i64 u.2.b, .string ⟨u.2.name.toArray⟩, .slice pa u.2.kids.length sa], .agg #[.int .i64 u.2.kind, .int .i64 u.2.a, .int .i64 u.2.b, .string ⟨u.2.name.toArray⟩, .slice pb u.2.kids.length sb]] W fun r w' => r = .returned (.bool true) ∧ Below W.heap.size W w' := fun W hW =>
          equal_any B B' (max da db) u.2 _ _ W ((hkka.le (by omega)).kept fun g _ hg => (hW.block g (by have := hbr.size; omega)).trans (hbr.block g hg)) ((hkkb.le (by omega)).kept fun g _ hg => (hW.block g (by have := hbr.size; omega)).trans (hbr.block g hg))
        clear a000 a100 a200 a300 a400 a500 b000 b100 b200 b300 b400 b500 hkka hkkb hjk hjk'
        go_wp2_with fail
        refine wp_region_flow (by kernel_rfl) (by kernel_rfl) (by kernel_rfl) (by kernel_rfl) (fun _ _ W => Below wr.heap.size wr W) (fun q x _ => msp ga oa ca gb ob cb us.length j ⟨u.1.toArray⟩ u.2.kind u.2.a u.2.b ⟨u.2.name.toArray⟩ pa pb u.2.kids.length sa sb q x) ?_ ?_ ?_
        · intro L hL
          exact (Below.refl _ _).drew
        · intro q o L A W ho hLi hdep hJ hdef hkept hhas
          clear hdef hLi
          have fin : ∀ (x : Value) (ds : Nat) (W' : World), Below W.heap.size W W' → msp ga oa ca gb ob cb us.length j ⟨u.1.toArray⟩ u.2.kind u.2.a u.2.b ⟨u.2.name.toArray⟩ pa pb u.2.kids.length sa sb q x → ∃ y, A.put (some ds) x = A.put (some ds) y ∧ (some ds ≠ none → msp ga oa ca gb ob cb us.length j ⟨u.1.toArray⟩ u.2.kind u.2.a u.2.b ⟨u.2.name.toArray⟩ pa pb u.2.kids.length sa sb q y) ∧ (∀ q' x', L q' = true → msp ga oa ca gb ob cb us.length j ⟨u.1.toArray⟩ u.2.kind u.2.a u.2.b ⟨u.2.name.toArray⟩ pa pb u.2.kids.length sa sb q' x' → msp ga oa ca gb ob cb us.length j ⟨u.1.toArray⟩ u.2.kind u.2.a u.2.b ⟨u.2.name.toArray⟩ pa pb u.2.kids.length sa sb q' x') ∧ Below wr.heap.size wr W' := by
            intro x ds W' hb hv
            exact ⟨x, rfl, fun _ => hv, fun _ _ _ h => h, hJ.trans (hb.mono hJ.size)⟩
          match q, ho with
          | 0, ho =>
            cases Option.some.inj ho
            have h0 : A.tmps[0]?.getD undef = .slice (some ⟨ga, oa, none⟩) us.length ca := (gd A 0).trans (hkept 0 (fun j p hp _ => nd (by kernel_rfl) j p hp))
            refine wpOp_step rfl (fun K hK => ?_)
            go_simp
            exact hK _ _ (fin _ 16 _ (Below.refl _ _) rfl)
          | 1, ho =>
            cases Option.some.inj ho
            have h5 : A.tmps[5]?.getD undef = .int .i64 (j : Int) := (gd A 5).trans (hkept 5 (fun j p hp _ => nd (by kernel_rfl) j p hp))
            refine wpOp_step rfl (fun K hK => ?_)
            go_simp
            exact hK _ _ (fin _ 17 _ (Below.refl _ _) rfl)
          | 2, ho =>
            cases Option.some.inj ho
            have h16 : A.tmps[16]?.getD undef = .slice (some ⟨ga, oa, none⟩) us.length ca := (gd A 16).trans (show A.tmps.getD 16 undef = .slice (some ⟨ga, oa, none⟩) us.length ca from hhas 0 _ rfl (hdep ⟨0, .data⟩ (by simp) rfl) 16 rfl)
            have h17 : A.tmps[17]?.getD undef = .int .i64 (j : Int) := (gd A 17).trans (show A.tmps.getD 17 undef = .int .i64 (j : Int) from hhas 1 _ rfl (hdep ⟨1, .data⟩ (by simp) rfl) 17 rfl)
            refine wpOp_step rfl (fun K hK => ?_)
            go_simp
            exact hK _ _ (fin _ 18 _ (Below.refl _ _) rfl)
          | 3, ho =>
            cases Option.some.inj ho
            have h18 : A.tmps[18]?.getD undef = .pointer (some ⟨ga, oa + j * 6, none⟩) := (gd A 18).trans (show A.tmps.getD 18 undef = .pointer (some ⟨ga, oa + j * 6, none⟩) from hhas 2 _ rfl (hdep ⟨2, .data⟩ (by simp) rfl) 18 rfl)
            refine wpOp_step rfl (fun K hK => ?_)
            go_simp
            exact hK _ _ (fin _ 19 _ (Below.refl _ _) rfl)
          | 4, ho =>
            cases Option.some.inj ho
            have h19 : A.tmps[19]?.getD undef = .pointer (some ⟨ga, oa + j * 6, none⟩) := (gd A 19).trans (show A.tmps.getD 19 undef = .pointer (some ⟨ga, oa + j * 6, none⟩) from hhas 3 _ rfl (hdep ⟨3, .data⟩ (by simp) rfl) 19 rfl)
            have a0 : W.cell? ⟨ga, oa + j * 6, none⟩ = some (.string ⟨u.1.toArray⟩) := (hJ.cell (block_lt_of_cell a00)).trans a00
            refine wpOp_step rfl (fun K hK => ?_)
            go_simp
            exact hK _ _ (fin _ 20 _ (Below.refl _ _) rfl)
          | 5, ho =>
            cases Option.some.inj ho
            have h1 : A.tmps[1]?.getD undef = .slice (some ⟨gb, ob, none⟩) us.length cb := (gd A 1).trans (hkept 1 (fun j p hp _ => nd (by kernel_rfl) j p hp))
            refine wpOp_step rfl (fun K hK => ?_)
            go_simp
            exact hK _ _ (fin _ 21 _ (Below.refl _ _) rfl)
          | 6, ho =>
            cases Option.some.inj ho
            have h5 : A.tmps[5]?.getD undef = .int .i64 (j : Int) := (gd A 5).trans (hkept 5 (fun j p hp _ => nd (by kernel_rfl) j p hp))
            refine wpOp_step rfl (fun K hK => ?_)
            go_simp
            exact hK _ _ (fin _ 22 _ (Below.refl _ _) rfl)
          | 7, ho =>
            cases Option.some.inj ho
            have h21 : A.tmps[21]?.getD undef = .slice (some ⟨gb, ob, none⟩) us.length cb := (gd A 21).trans (show A.tmps.getD 21 undef = .slice (some ⟨gb, ob, none⟩) us.length cb from hhas 5 _ rfl (hdep ⟨5, .data⟩ (by simp) rfl) 21 rfl)
            have h22 : A.tmps[22]?.getD undef = .int .i64 (j : Int) := (gd A 22).trans (show A.tmps.getD 22 undef = .int .i64 (j : Int) from hhas 6 _ rfl (hdep ⟨6, .data⟩ (by simp) rfl) 22 rfl)
            refine wpOp_step rfl (fun K hK => ?_)
            go_simp
            exact hK _ _ (fin _ 23 _ (Below.refl _ _) rfl)
          | 8, ho =>
            cases Option.some.inj ho
            have h23 : A.tmps[23]?.getD undef = .pointer (some ⟨gb, ob + j * 6, none⟩) := (gd A 23).trans (show A.tmps.getD 23 undef = .pointer (some ⟨gb, ob + j * 6, none⟩) from hhas 7 _ rfl (hdep ⟨7, .data⟩ (by simp) rfl) 23 rfl)
            refine wpOp_step rfl (fun K hK => ?_)
            go_simp
            exact hK _ _ (fin _ 24 _ (Below.refl _ _) rfl)
          | 9, ho =>
            cases Option.some.inj ho
            have h24 : A.tmps[24]?.getD undef = .pointer (some ⟨gb, ob + j * 6, none⟩) := (gd A 24).trans (show A.tmps.getD 24 undef = .pointer (some ⟨gb, ob + j * 6, none⟩) from hhas 8 _ rfl (hdep ⟨8, .data⟩ (by simp) rfl) 24 rfl)
            have b0 : W.cell? ⟨gb, ob + j * 6, none⟩ = some (.string ⟨u.1.toArray⟩) := (hJ.cell (block_lt_of_cell b00)).trans b00
            refine wpOp_step rfl (fun K hK => ?_)
            go_simp
            exact hK _ _ (fin _ 25 _ (Below.refl _ _) rfl)
          | 10, ho =>
            cases Option.some.inj ho
            have h20 : A.tmps[20]?.getD undef = .string ⟨u.1.toArray⟩ := (gd A 20).trans (show A.tmps.getD 20 undef = .string ⟨u.1.toArray⟩ from hhas 4 _ rfl (hdep ⟨4, .data⟩ (by simp) rfl) 20 rfl)
            have h25 : A.tmps[25]?.getD undef = .string ⟨u.1.toArray⟩ := (gd A 25).trans (show A.tmps.getD 25 undef = .string ⟨u.1.toArray⟩ from hhas 9 _ rfl (hdep ⟨9, .data⟩ (by simp) rfl) 25 rfl)
            refine wpOp_step rfl (fun K hK => ?_)
            go_simp
            exact hK _ _ (fin _ 26 _ (Below.refl _ _) rfl)
          | 11, ho =>
            cases Option.some.inj ho
            have h26 : A.tmps[26]?.getD undef = .bool false := (gd A 26).trans (show A.tmps.getD 26 undef = .bool false from hhas 10 _ rfl (hdep ⟨10, .data⟩ (by simp) rfl) 26 rfl)
            refine wpOp_step rfl (fun K hK => ?_)
            go_simp
            exact hK _ _ (fin _ 27 _ (Below.refl _ _) rfl)
          | 12, ho =>
            cases Option.some.inj ho
            have hG : A.tmps[27]? = some (.bool false) := gdb (show A.tmps.getD 27 undef = .bool false from hhas 11 _ rfl (hdep ⟨11, .guard⟩ (by simp) rfl) 27 rfl)
            have h0 : A.tmps[0]?.getD undef = .slice (some ⟨ga, oa, none⟩) us.length ca := (gd A 0).trans (hkept 0 (fun j p hp _ => nd (by kernel_rfl) j p hp))
            refine wpOp_step rfl (fun K hK => ?_)
            go_simp
            exact hK _ _ (fin _ 28 _ (Below.refl _ _) rfl)
          | 13, ho =>
            cases Option.some.inj ho
            have hG : A.tmps[27]? = some (.bool false) := gdb (show A.tmps.getD 27 undef = .bool false from hhas 11 _ rfl (hdep ⟨11, .guard⟩ (by simp) rfl) 27 rfl)
            have h5 : A.tmps[5]?.getD undef = .int .i64 (j : Int) := (gd A 5).trans (hkept 5 (fun j p hp _ => nd (by kernel_rfl) j p hp))
            refine wpOp_step rfl (fun K hK => ?_)
            go_simp
            exact hK _ _ (fin _ 29 _ (Below.refl _ _) rfl)
          | 14, ho =>
            cases Option.some.inj ho
            have hG : A.tmps[27]? = some (.bool false) := gdb (show A.tmps.getD 27 undef = .bool false from hhas 11 _ rfl (hdep ⟨11, .guard⟩ (by simp) rfl) 27 rfl)
            have h28 : A.tmps[28]?.getD undef = .slice (some ⟨ga, oa, none⟩) us.length ca := (gd A 28).trans (show A.tmps.getD 28 undef = .slice (some ⟨ga, oa, none⟩) us.length ca from hhas 12 _ rfl (hdep ⟨12, .data⟩ (by simp) rfl) 28 rfl)
            have h29 : A.tmps[29]?.getD undef = .int .i64 (j : Int) := (gd A 29).trans (show A.tmps.getD 29 undef = .int .i64 (j : Int) from hhas 13 _ rfl (hdep ⟨13, .data⟩ (by simp) rfl) 29 rfl)
            refine wpOp_step rfl (fun K hK => ?_)
            go_simp
            exact hK _ _ (fin _ 30 _ (Below.refl _ _) rfl)
          | 15, ho =>
            cases Option.some.inj ho
            have hG : A.tmps[27]? = some (.bool false) := gdb (show A.tmps.getD 27 undef = .bool false from hhas 11 _ rfl (hdep ⟨11, .guard⟩ (by simp) rfl) 27 rfl)
            have h30 : A.tmps[30]?.getD undef = .pointer (some ⟨ga, oa + j * 6, none⟩) := (gd A 30).trans (show A.tmps.getD 30 undef = .pointer (some ⟨ga, oa + j * 6, none⟩) from hhas 14 _ rfl (hdep ⟨14, .data⟩ (by simp) rfl) 30 rfl)
            refine wpOp_step rfl (fun K hK => ?_)
            go_simp
            exact hK _ _ (fin _ 31 _ (Below.refl _ _) rfl)
          | 16, ho =>
            cases Option.some.inj ho
            have hG : A.tmps[27]? = some (.bool false) := gdb (show A.tmps.getD 27 undef = .bool false from hhas 11 _ rfl (hdep ⟨11, .guard⟩ (by simp) rfl) 27 rfl)
            have h31 : A.tmps[31]?.getD undef = .pointer (some ⟨ga, oa + j * 6 + 1, none⟩) := (gd A 31).trans (show A.tmps.getD 31 undef = .pointer (some ⟨ga, oa + j * 6 + 1, none⟩) from hhas 15 _ rfl (hdep ⟨15, .data⟩ (by simp) rfl) 31 rfl)
            have a1 : W.cell? ⟨ga, oa + j * 6 + 1, none⟩ = some (.int .i64 u.2.kind) := (hJ.cell (block_lt_of_cell a10)).trans a10
            have a2 : W.cell? ⟨ga, oa + j * 6 + 2, none⟩ = some (.int .i64 u.2.a) := (hJ.cell (block_lt_of_cell a20)).trans a20
            have a3 : W.cell? ⟨ga, oa + j * 6 + 3, none⟩ = some (.int .i64 u.2.b) := (hJ.cell (block_lt_of_cell a30)).trans a30
            have a4 : W.cell? ⟨ga, oa + j * 6 + 4, none⟩ = some (.string ⟨u.2.name.toArray⟩) := (hJ.cell (block_lt_of_cell a40)).trans a40
            have a5 : W.cell? ⟨ga, oa + j * 6 + 5, none⟩ = some (.slice pa u.2.kids.length sa) := (hJ.cell (block_lt_of_cell a50)).trans a50
            refine wpOp_step rfl (fun K hK => ?_)
            go_simp
            exact hK _ _ (fin _ 32 _ (Below.refl _ _) rfl)
          | 17, ho =>
            cases Option.some.inj ho
            have hG : A.tmps[27]? = some (.bool false) := gdb (show A.tmps.getD 27 undef = .bool false from hhas 11 _ rfl (hdep ⟨11, .guard⟩ (by simp) rfl) 27 rfl)
            have h1 : A.tmps[1]?.getD undef = .slice (some ⟨gb, ob, none⟩) us.length cb := (gd A 1).trans (hkept 1 (fun j p hp _ => nd (by kernel_rfl) j p hp))
            refine wpOp_step rfl (fun K hK => ?_)
            go_simp
            exact hK _ _ (fin _ 33 _ (Below.refl _ _) rfl)
          | 18, ho =>
            cases Option.some.inj ho
            have hG : A.tmps[27]? = some (.bool false) := gdb (show A.tmps.getD 27 undef = .bool false from hhas 11 _ rfl (hdep ⟨11, .guard⟩ (by simp) rfl) 27 rfl)
            have h5 : A.tmps[5]?.getD undef = .int .i64 (j : Int) := (gd A 5).trans (hkept 5 (fun j p hp _ => nd (by kernel_rfl) j p hp))
            refine wpOp_step rfl (fun K hK => ?_)
            go_simp
            exact hK _ _ (fin _ 34 _ (Below.refl _ _) rfl)
          | 19, ho =>
            cases Option.some.inj ho
            have hG : A.tmps[27]? = some (.bool false) := gdb (show A.tmps.getD 27 undef = .bool false from hhas 11 _ rfl (hdep ⟨11, .guard⟩ (by simp) rfl) 27 rfl)
            have h33 : A.tmps[33]?.getD undef = .slice (some ⟨gb, ob, none⟩) us.length cb := (gd A 33).trans (show A.tmps.getD 33 undef = .slice (some ⟨gb, ob, none⟩) us.length cb from hhas 17 _ rfl (hdep ⟨17, .data⟩ (by simp) rfl) 33 rfl)
            have h34 : A.tmps[34]?.getD undef = .int .i64 (j : Int) := (gd A 34).trans (show A.tmps.getD 34 undef = .int .i64 (j : Int) from hhas 18 _ rfl (hdep ⟨18, .data⟩ (by simp) rfl) 34 rfl)
            refine wpOp_step rfl (fun K hK => ?_)
            go_simp
            exact hK _ _ (fin _ 35 _ (Below.refl _ _) rfl)
          | 20, ho =>
            cases Option.some.inj ho
            have hG : A.tmps[27]? = some (.bool false) := gdb (show A.tmps.getD 27 undef = .bool false from hhas 11 _ rfl (hdep ⟨11, .guard⟩ (by simp) rfl) 27 rfl)
            have h35 : A.tmps[35]?.getD undef = .pointer (some ⟨gb, ob + j * 6, none⟩) := (gd A 35).trans (show A.tmps.getD 35 undef = .pointer (some ⟨gb, ob + j * 6, none⟩) from hhas 19 _ rfl (hdep ⟨19, .data⟩ (by simp) rfl) 35 rfl)
            refine wpOp_step rfl (fun K hK => ?_)
            go_simp
            exact hK _ _ (fin _ 36 _ (Below.refl _ _) rfl)
          | 21, ho =>
            cases Option.some.inj ho
            have hG : A.tmps[27]? = some (.bool false) := gdb (show A.tmps.getD 27 undef = .bool false from hhas 11 _ rfl (hdep ⟨11, .guard⟩ (by simp) rfl) 27 rfl)
            have h36 : A.tmps[36]?.getD undef = .pointer (some ⟨gb, ob + j * 6 + 1, none⟩) := (gd A 36).trans (show A.tmps.getD 36 undef = .pointer (some ⟨gb, ob + j * 6 + 1, none⟩) from hhas 20 _ rfl (hdep ⟨20, .data⟩ (by simp) rfl) 36 rfl)
            have b1 : W.cell? ⟨gb, ob + j * 6 + 1, none⟩ = some (.int .i64 u.2.kind) := (hJ.cell (block_lt_of_cell b10)).trans b10
            have b2 : W.cell? ⟨gb, ob + j * 6 + 2, none⟩ = some (.int .i64 u.2.a) := (hJ.cell (block_lt_of_cell b20)).trans b20
            have b3 : W.cell? ⟨gb, ob + j * 6 + 3, none⟩ = some (.int .i64 u.2.b) := (hJ.cell (block_lt_of_cell b30)).trans b30
            have b4 : W.cell? ⟨gb, ob + j * 6 + 4, none⟩ = some (.string ⟨u.2.name.toArray⟩) := (hJ.cell (block_lt_of_cell b40)).trans b40
            have b5 : W.cell? ⟨gb, ob + j * 6 + 5, none⟩ = some (.slice pb u.2.kids.length sb) := (hJ.cell (block_lt_of_cell b50)).trans b50
            refine wpOp_step rfl (fun K hK => ?_)
            go_simp
            exact hK _ _ (fin _ 37 _ (Below.refl _ _) rfl)
          | 22, ho =>
            cases Option.some.inj ho
            have hG : A.tmps[27]? = some (.bool false) := gdb (show A.tmps.getD 27 undef = .bool false from hhas 11 _ rfl (hdep ⟨11, .guard⟩ (by simp) rfl) 27 rfl)
            have h32 : A.tmps[32]?.getD undef = .agg #[.int .i64 u.2.kind, .int .i64 u.2.a, .int .i64 u.2.b, .string ⟨u.2.name.toArray⟩, .slice pa u.2.kids.length sa] := (gd A 32).trans (show A.tmps.getD 32 undef = .agg #[.int .i64 u.2.kind, .int .i64 u.2.a, .int .i64 u.2.b, .string ⟨u.2.name.toArray⟩, .slice pa u.2.kids.length sa] from hhas 16 _ rfl (hdep ⟨16, .data⟩ (by simp) rfl) 32 rfl)
            have h37 : A.tmps[37]?.getD undef = .agg #[.int .i64 u.2.kind, .int .i64 u.2.a, .int .i64 u.2.b, .string ⟨u.2.name.toArray⟩, .slice pb u.2.kids.length sb] := (gd A 37).trans (show A.tmps.getD 37 undef = .agg #[.int .i64 u.2.kind, .int .i64 u.2.a, .int .i64 u.2.b, .string ⟨u.2.name.toArray⟩, .slice pb u.2.kids.length sb] from hhas 21 _ rfl (hdep ⟨21, .data⟩ (by simp) rfl) 37 rfl)
            refine wpOp_step rfl (fun K hK => ?_)
            go_simp
            refine (cE W hJ).mono ?_
            rintro e' W' ⟨rfl, hb'⟩
            exact hK _ _ (fin _ 38 _ hb' rfl)
          | 23, ho =>
            cases Option.some.inj ho
            have hG : A.tmps[27]? = some (.bool false) := gdb (show A.tmps.getD 27 undef = .bool false from hhas 11 _ rfl (hdep ⟨11, .guard⟩ (by simp) rfl) 27 rfl)
            have h38 : A.tmps[38]?.getD undef = .bool true := (gd A 38).trans (show A.tmps.getD 38 undef = .bool true from hhas 22 _ rfl (hdep ⟨22, .data⟩ (by simp) rfl) 38 rfl)
            refine wpOp_step rfl (fun K hK => ?_)
            go_simp
            exact hK _ _ (fin _ 39 _ (Below.refl _ _) rfl)
          | 24, ho =>
            cases Option.some.inj ho
            have h27 : A.tmps[27]?.getD undef = .bool false := (gd A 27).trans (show A.tmps.getD 27 undef = .bool false from hhas 11 _ rfl (hdep ⟨11, .data⟩ (by simp) rfl) 27 rfl)
            have h39 : A.tmps[39]?.getD undef = .bool false := (gd A 39).trans (show A.tmps.getD 39 undef = .bool false from hhas 23 _ rfl (hdep ⟨23, .data⟩ (by simp) rfl) 39 rfl)
            refine wpOp_step rfl (fun K hK => ?_)
            go_simp
            exact hK _ _ (fin _ 40 _ (Below.refl _ _) rfl)
          | k + 25, ho => simp at ho
        · intro L A W hL hJ hdef hsize hkept hhas
          obtain ⟨tt, dd'⟩ := A
          have hd' : dd' = [] := hdef
          subst hd'
          obtain ⟨q, rfl⟩ : ∃ q : List Value, tt = q.toArray := ⟨tt.toList, by simp⟩
          have hl : q.length = 42 := by
            have h : q.toArray.size = 42 := hsize
            simpa using h
          obtain ⟨⟨u0, u1, u2, u3, u4, u5, u6, u7, u8, u9, u10, u11, u12, u13, u14, u15, u16, u17, u18, u19, u20, u21, u22, u23, u24, u25, u26, u27, u28, u29, u30, u31, u32, u33, u34, u35, u36, u37, u38, u39, u40, u41, rfl⟩⟩ := fs42 q hl
          have q0 : u0 = _ := hkept 0 (nd (by kernel_rfl))
          have q1 : u1 = _ := hkept 1 (nd (by kernel_rfl))
          have q2 : u2 = _ := hkept 2 (nd (by kernel_rfl))
          have q3 : u3 = _ := hkept 3 (nd (by kernel_rfl))
          have q4 : u4 = _ := hkept 4 (nd (by kernel_rfl))
          have q5 : u5 = _ := hkept 5 (nd (by kernel_rfl))
          have q6 : u6 = _ := hkept 6 (nd (by kernel_rfl))
          have q7 : u7 = _ := hkept 7 (nd (by kernel_rfl))
          have q8 : u8 = _ := hkept 8 (nd (by kernel_rfl))
          have q9 : u9 = _ := hkept 9 (nd (by kernel_rfl))
          have q10 : u10 = _ := hkept 10 (nd (by kernel_rfl))
          have q11 : u11 = _ := hkept 11 (nd (by kernel_rfl))
          have q12 : u12 = _ := hkept 12 (nd (by kernel_rfl))
          have q13 : u13 = _ := hkept 13 (nd (by kernel_rfl))
          have q14 : u14 = _ := hkept 14 (nd (by kernel_rfl))
          have q15 : u15 = _ := hkept 15 (nd (by kernel_rfl))
          have q41 : u41 = _ := hkept 41 (nd (by kernel_rfl))
          subst q0 q1 q2 q3 q4 q5 q6 q7 q8 q9 q10 q11 q12 q13 q14 q15 q41
          have z : u40 = .bool false := hhas 24 _ rfl 40 rfl
          subst z
          clear hsize hkept hhas hL hl
          go_wp2_with fail
          go_roundw
          case rel =>
            first
            | exact ⟨j + 1, by go_num, by omega, hbr.trans (hJ.mono hbr.size)⟩
            | exact ⟨_, _, _, ⟨j + 1, by go_num, by omega, hbr.trans (hJ.mono hbr.size)⟩, rfl, rfl, rfl⟩
          case measure => simp [intOf]; omega

      · have hlt' : ¬ (j : Int) < (us.length : Int) := by omega
        go_wp2_with fail
        go_ret
        exact ⟨rfl, hbr⟩
end Go.Proofs.YteheahhifihmjaaGreatDoor
