/- The law MaskSets, walked out of the contracts. -/
import Derived.Test.YtemdkpjdbciemabDoorAliveA
import Derived.Test.YtemdkpjdbciemabDoorSetsFacts
import Derived.Test.YtemdkpjdbciemabDoorLists
namespace Go.Proofs.YtemdkpjdbciemabDoor
open Go.RowKit Msk

theorem bo_any (f g : Nat → Bool) (w : World) : Calls Tryd.prog 10 #[.agg (mv f), .agg (mv g)] w fun e w' => e = .returned (.agg (mv (bo f g))) ∧ Below w.heap.size w w' := both_any f g w
theorem un_any (f g : Nat → Bool) (w : World) : Calls Tryd.prog 12 #[.agg (mv f), .agg (mv g)] w fun e w' => e = .returned (.agg (mv (un f g))) ∧ Below w.heap.size w w' := union_any f g w
theorem di_any (f g : Nat → Bool) (w : World) : Calls Tryd.prog 13 #[.agg (mv f), .agg (mv g)] w fun e w' => e = .returned (.agg (mv (di f g))) ∧ Below w.heap.size w w' := diff_any f g w
theorem day_any (w : World) : Calls Tryd.prog 11 #[] w fun e w' => e = .returned (.agg (mv day)) ∧ Below w.heap.size w w' := all_any w
theorem cut_any (f : Nat → Bool) (w : World) : Calls Tryd.prog 10 #[.agg (mv f), .agg (mv day)] w fun e w' => e = .returned (.agg (mv (cutd f))) ∧ Below w.heap.size w w' := both_any f day w

/-- What the operations of the first region yield. -/
def sp3 (f g h x y z : Nat → Bool) (i : Nat) (v : Value) : Prop := match i with
  | 0 => v = .agg (mv f)
  | 1 => v = .agg (mv day)
  | 2 => v = .agg (mv x)
  | 3 => v = .agg (mv g)
  | 4 => v = .agg (mv day)
  | 5 => v = .agg (mv y)
  | 6 => v = .agg (mv h)
  | 7 => v = .agg (mv day)
  | 8 => v = .agg (mv z)
  | _ => True
/-- The blocks of the three masks while the first region runs. -/
structure J3 (w0 : World) (B : Nat) (f g h x y z : Nat → Bool) (L : Nat → Bool) (W : World) : Prop where
  bel : Below B w0 W
  f0 : L 9 = true → L 0 = true
  f1 : L 10 = true → L 3 = true
  f2 : L 11 = true → L 6 = true
  c0 : W.heap[B]? = some (.cells (mv (bif L 9 then x else f)) 24 (0, 0))
  c1 : W.heap[B + 1]? = some (.cells (mv (bif L 10 then y else g)) 24 (0, 0))
  c2 : W.heap[B + 2]? = some (.cells (mv (bif L 11 then z else h)) 24 (0, 0))
/-- A mask that the second region makes, and what is put into it. -/
def Slot (s : Nat) (on st : Bool) (F : Nat → Bool) (B : Nat) (a : Act) (W : World) : Prop := on = true → ∃ g, a.tmps.getD s undef = .pointer (some ⟨g, 0, none⟩) ∧ B ≤ g ∧ W.heap[g]? = some (.cells (mv (bif st then F else fun _ => false)) 24 (0, 0))
theorem Slot.keep {s : Nat} {on st : Bool} {F : Nat → Bool} {B : Nat} {a a' : Act} {W W' : World} (h : Slot s on st F B a W) (ha : a'.tmps.getD s undef = a.tmps.getD s undef) (hb : Below W.heap.size W W') : Slot s on st F B a' W' := fun ho => by
  obtain ⟨g, h1, h2, h3⟩ := h ho
  exact ⟨g, ha.trans h1, h2, (hb.block g (lt_of_block h3)).trans h3⟩
theorem Slot.apart {s : Nat} {on st : Bool} {F : Nat → Bool} {B : Nat} {a : Act} {W : World} {k : Nat} (h : Slot s on st F B a W) (c : Array Value) (hk : on = true → a.tmps.getD s undef ≠ .pointer (some ⟨k, 0, none⟩)) : Slot s on st F B a (W.setRow k c) := fun ho => by
  obtain ⟨g, h1, h2, h3⟩ := h ho
  exact ⟨g, h1, h2, (setRow_other _ _ _ _ fun e => hk ho (by rw [h1, e])).trans h3⟩
/-- The world while the second region runs. -/
structure J4 (w0 : World) (F7 F8 F9 : Nat → Bool) (L : Nat → Bool) (a : Act) (W : World) : Prop where
  bel : Below w0.heap.size w0 W
  s7 : Slot 7 (L 9) (L 12) F7 w0.heap.size a W
  s8 : Slot 8 (L 10) (L 13) F8 w0.heap.size a W
  s9 : Slot 9 (L 11) (L 14) F9 w0.heap.size a W
  d78 : L 9 = true → L 10 = true → a.tmps.getD 7 undef ≠ a.tmps.getD 8 undef
  d79 : L 9 = true → L 11 = true → a.tmps.getD 7 undef ≠ a.tmps.getD 9 undef
  d89 : L 10 = true → L 11 = true → a.tmps.getD 8 undef ≠ a.tmps.getD 9 undef
  f7 : L 12 = true → L 9 = true
  f8 : L 13 = true → L 10 = true
  f9 : L 14 = true → L 11 = true
  sz : 9 < a.tmps.size
def sp4 (x y : Nat → Bool) (i : Nat) (v : Value) : Prop := match i with
  | 0 => v = .agg (mv x)
  | 1 => v = .agg (mv y)
  | 2 => v = .agg (mv (un x y))
  | 3 => v = .agg (mv x)
  | 4 => v = .agg (mv y)
  | 5 => v = .agg (mv (di x y))
  | 6 => v = .agg (mv x)
  | 7 => v = .agg (mv y)
  | 8 => v = .agg (mv (bo x y))
  | _ => True
theorem ptr_ne {v : Value} {g k : Nat} (h : v = .pointer (some ⟨g, 0, none⟩)) (hk : g ≠ k) : v ≠ .pointer (some ⟨k, 0, none⟩) := fun e => by
  rw [h] at e
  injection e with e
  injection e with e
  injection e with e
  exact hk e
/-- So many values, one by one. -/
structure Fr104 (l : List Value) where
  (u0 u1 u2 u3 u4 u5 u6 u7 u8 u9 u10 u11 u12 u13 u14 u15 u16 u17 u18 u19 u20 u21 u22 u23 u24 u25 u26 u27 u28 u29 u30 u31 u32 u33 u34 u35 u36 u37 u38 u39 u40 u41 u42 u43 u44 u45 u46 u47 u48 u49 u50 u51 u52 u53 u54 u55 u56 u57 u58 u59 u60 u61 u62 u63 u64 u65 u66 u67 u68 u69 u70 u71 u72 u73 u74 u75 u76 u77 u78 u79 u80 u81 u82 u83 u84 u85 u86 u87 u88 u89 u90 u91 u92 u93 u94 u95 u96 u97 u98 u99 u100 u101 u102 u103 : Value)
  eq : l = [u0, u1, u2, u3, u4, u5, u6, u7, u8, u9, u10, u11, u12, u13, u14, u15, u16, u17, u18, u19, u20, u21, u22, u23, u24, u25, u26, u27, u28, u29, u30, u31, u32, u33, u34, u35, u36, u37, u38, u39, u40, u41, u42, u43, u44, u45, u46, u47, u48, u49, u50, u51, u52, u53, u54, u55, u56, u57, u58, u59, u60, u61, u62, u63, u64, u65, u66, u67, u68, u69, u70, u71, u72, u73, u74, u75, u76, u77, u78, u79, u80, u81, u82, u83, u84, u85, u86, u87, u88, u89, u90, u91, u92, u93, u94, u95, u96, u97, u98, u99, u100, u101, u102, u103]
set_option maxRecDepth 100000 in
theorem fr104 (l : List Value) (hl : l.length = 104) : Nonempty (Fr104 l) := allL 104 (fun l => Nonempty (Fr104 l)) (fun u0 u1 u2 u3 u4 u5 u6 u7 u8 u9 u10 u11 u12 u13 u14 u15 u16 u17 u18 u19 u20 u21 u22 u23 u24 u25 u26 u27 u28 u29 u30 u31 u32 u33 u34 u35 u36 u37 u38 u39 u40 u41 u42 u43 u44 u45 u46 u47 u48 u49 u50 u51 u52 u53 u54 u55 u56 u57 u58 u59 u60 u61 u62 u63 u64 u65 u66 u67 u68 u69 u70 u71 u72 u73 u74 u75 u76 u77 u78 u79 u80 u81 u82 u83 u84 u85 u86 u87 u88 u89 u90 u91 u92 u93 u94 u95 u96 u97 u98 u99 u100 u101 u102 u103 => ⟨⟨u0, u1, u2, u3, u4, u5, u6, u7, u8, u9, u10, u11, u12, u13, u14, u15, u16, u17, u18, u19, u20, u21, u22, u23, u24, u25, u26, u27, u28, u29, u30, u31, u32, u33, u34, u35, u36, u37, u38, u39, u40, u41, u42, u43, u44, u45, u46, u47, u48, u49, u50, u51, u52, u53, u54, u55, u56, u57, u58, u59, u60, u61, u62, u63, u64, u65, u66, u67, u68, u69, u70, u71, u72, u73, u74, u75, u76, u77, u78, u79, u80, u81, u82, u83, u84, u85, u86, u87, u88, u89, u90, u91, u92, u93, u94, u95, u96, u97, u98, u99, u100, u101, u102, u103, rfl⟩⟩) l hl
def sp5 (x y : Nat → Bool) (i : Nat) (v : Value) : Prop := match i with
  | 0 => v = .agg (mv (un x y))
  | 1 => v = .agg (mv (y))
  | 2 => v = .agg (mv (x))
  | 3 => v = .agg (mv (un y x))
  | 4 => v = .bool false
  | 5 => v = .bool false
  | 6 => v = .agg (mv (bo x y))
  | 7 => v = .agg (mv (y))
  | 8 => v = .agg (mv (x))
  | 9 => v = .agg (mv (bo y x))
  | 10 => v = .bool false
  | 11 => v = .bool false
  | 12 => v = .bool false
  | 13 => v = .agg (mv (di x y))
  | 14 => v = .agg (mv (bo x y))
  | 15 => v = .agg (mv (un (di x y) (bo x y)))
  | 16 => v = .agg (mv (x))
  | 17 => v = .bool false
  | 18 => v = .bool false
  | 19 => v = .bool false
  | 20 => v = .agg (mv (di x y))
  | 21 => v = .agg (mv (y))
  | 22 => v = .agg (mv (bo (di x y) y))
  | 23 => v = .agg (mv (fun _ => false))
  | 24 => v = .bool false
  | 25 => v = .bool false
  | _ => True
def sp7 (x y : Nat → Bool) (i : Nat) (v : Value) : Prop := match i with
  | 0 => v = .agg (mv (un x y))
  | 1 => v = .int .i64 (((cnt (un x y) 1440 : Nat) : Int))
  | 2 => v = .agg (mv (bo x y))
  | 3 => v = .int .i64 (((cnt (bo x y) 1440 : Nat) : Int))
  | 4 => v = .int .i64 ((((cnt (un x y) 1440 : Nat) : Int)) + (((cnt (bo x y) 1440 : Nat) : Int)))
  | 5 => v = .agg (mv (x))
  | 6 => v = .int .i64 (((cnt x 1440 : Nat) : Int))
  | 7 => v = .agg (mv (y))
  | 8 => v = .int .i64 (((cnt y 1440 : Nat) : Int))
  | 9 => v = .int .i64 ((((cnt x 1440 : Nat) : Int)) + (((cnt y 1440 : Nat) : Int)))
  | 10 => v = .bool false
  | _ => True
def sp9 (x y z : Nat → Bool) (i : Nat) (v : Value) : Prop := match i with
  | 0 => v = .agg (mv (x))
  | 1 => v = .agg (mv (y))
  | 2 => v = .agg (mv (z))
  | 3 => v = .agg (mv (un y z))
  | 4 => v = .agg (mv (bo x (un y z)))
  | 5 => v = .agg (mv (bo x y))
  | 6 => v = .agg (mv (x))
  | 7 => v = .agg (mv (z))
  | 8 => v = .agg (mv (bo x z))
  | 9 => v = .agg (mv (un (bo x y) (bo x z)))
  | 10 => v = .bool true
  | 11 => v = .bool true
  | 12 => v = .agg (mv (x))
  | 13 => v = .agg (mv (y))
  | 14 => v = .agg (mv (z))
  | 15 => v = .agg (mv (un y z))
  | 16 => v = .agg (mv (di x (un y z)))
  | 17 => v = .agg (mv (di x y))
  | 18 => v = .agg (mv (z))
  | 19 => v = .agg (mv (di (di x y) z))
  | 20 => v = .bool true
  | 21 => v = .bool true
  | 22 => v = .bool true
  | 23 => v = .agg (mv (day))
  | 24 => v = .agg (mv (x))
  | 25 => v = .agg (mv (y))
  | 26 => v = .agg (mv (bo x y))
  | 27 => v = .agg (mv (di day (bo x y)))
  | 28 => v = .agg (mv (day))
  | 29 => v = .agg (mv (x))
  | 30 => v = .agg (mv (di day x))
  | 31 => v = .agg (mv (day))
  | 32 => v = .agg (mv (y))
  | 33 => v = .agg (mv (di day y))
  | 34 => v = .agg (mv (un (di day x) (di day y)))
  | 35 => v = .bool true
  | 36 => v = .bool true
  | 37 => v = .bool true
  | _ => True

set_option maxRecDepth 10000 in
set_option maxHeartbeats 8000000 in
theorem sets_walk (f g h : Nat → Bool) (w : World) (hT : Tab w) :
    Calls Tryd.prog 3 #[.agg (mv f), .agg (mv g), .agg (mv h)] w fun e w' => e = .returned (.bool true) ∧ Below w.heap.size w w' := by
  have hz := mv_lit
  have hb0 : Below w.heap.size w (((w.alloc (.cells (mv f) 24)).alloc (.cells (mv g) 24)).alloc (.cells (mv h) 24)) := (((Below.refl _ _).alloc (Nat.le_refl _) _).alloc (by simp) _).alloc (by simp; omega) _
  have h0 : (((w.alloc (.cells (mv f) 24)).alloc (.cells (mv g) 24)).alloc (.cells (mv h) 24)).heap[w.heap.size]? = some (.cells (mv f) 24 (0, 0)) := by (repeat (first | refine blk_old _ _ _ (by simp only [size_alloc]; omega) ?_ | exact blk_new _ _ _ (by first | rfl | simp only [size_alloc])))
  have h1 : (((w.alloc (.cells (mv f) 24)).alloc (.cells (mv g) 24)).alloc (.cells (mv h) 24)).heap[w.heap.size + 1]? = some (.cells (mv g) 24 (0, 0)) := by (repeat (first | refine blk_old _ _ _ (by simp only [size_alloc]; omega) ?_ | exact blk_new _ _ _ (by first | rfl | simp only [size_alloc])))
  have h2 : (((w.alloc (.cells (mv f) 24)).alloc (.cells (mv g) 24)).alloc (.cells (mv h) 24)).heap[w.heap.size + 2]? = some (.cells (mv h) 24 (0, 0)) := by (repeat (first | refine blk_old _ _ _ (by simp only [size_alloc]; omega) ?_ | exact blk_new _ _ _ (by first | rfl | simp only [size_alloc])))
  have cA := alive_any _ (hT.later hb0)
  obtain ⟨x, cX0, s_x0⟩ : ∃ x, (∀ w, Calls Tryd.prog 10 #[.agg (mv f), .agg (mv day)] w fun e w' => e = .returned (.agg (mv x)) ∧ Below w.heap.size w w') ∧ ∀ y, eqm (un (di x y) (bo x y)) x = true := ⟨_, fun w => cut_any f w, fun y => s_again f y⟩
  obtain ⟨y, cX1⟩ : ∃ y, ∀ w, Calls Tryd.prog 10 #[.agg (mv g), .agg (mv day)] w fun e w' => e = .returned (.agg (mv y)) ∧ Below w.heap.size w w' := ⟨_, fun w => cut_any g w⟩
  obtain ⟨z, cX2⟩ : ∃ z, ∀ w, Calls Tryd.prog 10 #[.agg (mv h), .agg (mv day)] w fun e w' => e = .returned (.agg (mv z)) ∧ Below w.heap.size w w' := ⟨_, fun w => cut_any h w⟩
  have s_x : Hid (eqm (un (di x y) (bo x y)) x = true) := s_x0 y
  clear s_x0
  go_enter Tryd.func3, Tryd.ntmps3
  go_wp2_with (go_at_call 9; refine cA.mono ?_; rintro e w1 ⟨rfl, hb1⟩; have c01 := (hb1.block _ (lt_of_block h0)).trans h0; have c11 := (hb1.block _ (lt_of_block h1)).trans h1; have c21 := (hb1.block _ (lt_of_block h2)).trans h2; have hbw1 := hb0.trans (hb1.mono hb0.size); clear cA hb1 h0 h1 h2 hb0)
  refine wp_region_flow (by kernel_rfl) (by kernel_rfl) (by kernel_rfl) (by kernel_rfl) (fun L _ W => J3 w w.heap.size f g h x y z L W) (fun i v _ => sp3 f g h x y z i v) ?_ ?_ ?_
  · intro L hL
    have e9 := hL 9 (by simp)
    have e10 := hL 10 (by simp)
    have e11 := hL 11 (by simp)
    exact ⟨hbw1.drew, fun h => by rw [e9] at h; simp at h, fun h => by rw [e10] at h; simp at h, fun h => by rw [e11] at h; simp at h, by rw [e9]; exact c01, by rw [e10]; exact c11, by rw [e11]; exact c21⟩
  · intro i o L A W ho hLi hdep hJ hdef hkept hhas
    clear hdef
    have no : ∀ k m, (L k = true → L m = true) → L m = false → L k = false := fun k m h hm => by
      cases e : L k with
      | false => rfl
      | true => rw [h e] at hm; cases hm
    have fin : ∀ (v : Value) (d : Nat) (W' : World), i < 9 → 9 < d → Below W.heap.size W W' → sp3 f g h x y z i v → ∃ u, A.put (some d) v = A.put (some d) u ∧ (some d ≠ none → sp3 f g h x y z i u) ∧ (∀ j x', L j = true → sp3 f g h x y z j x' → sp3 f g h x y z j x') ∧ J3 w w.heap.size f g h x y z (fun k => decide (i = k) || L k) W' := by
      intro v d W' hi _ hb hv
      have e9 : (decide (i = 9) || L 9) = L 9 := by rw [decide_eq_false (show ¬ i = 9 by omega)]; rfl
      have e10 : (decide (i = 10) || L 10) = L 10 := by rw [decide_eq_false (show ¬ i = 10 by omega)]; rfl
      have e11 : (decide (i = 11) || L 11) = L 11 := by rw [decide_eq_false (show ¬ i = 11 by omega)]; rfl
      refine ⟨v, rfl, fun _ => hv, fun _ _ _ h => h, hJ.bel.trans (hb.mono hJ.bel.size), ?_, ?_, ?_, ?_, ?_, ?_⟩
      · intro h; simp only [e9] at h; simp [hJ.f0 h]
      · intro h; simp only [e10] at h; simp [hJ.f1 h]
      · intro h; simp only [e11] at h; simp [hJ.f2 h]
      · simp only [e9]; exact (hb.block _ (lt_of_block hJ.c0)).trans hJ.c0
      · simp only [e10]; exact (hb.block _ (lt_of_block hJ.c1)).trans hJ.c1
      · simp only [e11]; exact (hb.block _ (lt_of_block hJ.c2)).trans hJ.c2
    match i, ho with
    | 0, ho =>
      cases Option.some.inj ho
      have hA : A.eval (.tmp 3) = .pointer (some ⟨w.heap.size, 0, none⟩) := hkept 3 (fun j p hp _ => nd (by kernel_rfl) j p hp)
      have hg := (show W.heap[w.heap.size]? = some (.cells (mv f) 24 (0, 0)) by have q := hJ.c0; rw [no 9 0 hJ.f0 hLi] at q; exact q)
      refine wpOp_step rfl (fun K hK => ?_)
      show Oper.wp _ _ _ _ _ _
      refine wp_load_row 24 _ rfl _ hA _ _ _ _ hg maskType rfl (maskSize _) ?_
      exact hK _ _ (fin _ 12 _ (by omega) (by decide) (Below.refl _ _) rfl)
    | 1, ho =>
      cases Option.some.inj ho
      refine wpOp_step rfl (fun K hK => ?_)
      go_simp
      refine (day_any _).mono ?_
      rintro e W' ⟨rfl, hb⟩
      exact hK _ _ (fin _ 13 _ (by omega) (by decide) hb rfl)
    | 2, ho =>
      cases Option.some.inj ho
      have h12 : A.tmps[12]?.getD undef = .agg (mv (f)) := (gd A 12).trans (show A.tmps.getD 12 undef = .agg (mv (f)) from hhas 0 _ rfl (hdep ⟨0, .data⟩ (by simp) rfl) 12 rfl)
      have h13 : A.tmps[13]?.getD undef = .agg (mv (day)) := (gd A 13).trans (show A.tmps.getD 13 undef = .agg (mv (day)) from hhas 1 _ rfl (hdep ⟨1, .data⟩ (by simp) rfl) 13 rfl)
      refine wpOp_step rfl (fun K hK => ?_)
      go_simp
      refine (cX0 _).mono ?_
      rintro e W' ⟨rfl, hb⟩
      exact hK _ _ (fin _ 14 _ (by omega) (by decide) hb rfl)
    | 3, ho =>
      cases Option.some.inj ho
      have hA : A.eval (.tmp 4) = .pointer (some ⟨w.heap.size + 1, 0, none⟩) := hkept 4 (fun j p hp _ => nd (by kernel_rfl) j p hp)
      have hg := (show W.heap[w.heap.size + 1]? = some (.cells (mv g) 24 (0, 0)) by have q := hJ.c1; rw [no 10 3 hJ.f1 hLi] at q; exact q)
      refine wpOp_step rfl (fun K hK => ?_)
      show Oper.wp _ _ _ _ _ _
      refine wp_load_row 24 _ rfl _ hA _ _ _ _ hg maskType rfl (maskSize _) ?_
      exact hK _ _ (fin _ 15 _ (by omega) (by decide) (Below.refl _ _) rfl)
    | 4, ho =>
      cases Option.some.inj ho
      refine wpOp_step rfl (fun K hK => ?_)
      go_simp
      refine (day_any _).mono ?_
      rintro e W' ⟨rfl, hb⟩
      exact hK _ _ (fin _ 16 _ (by omega) (by decide) hb rfl)
    | 5, ho =>
      cases Option.some.inj ho
      have h15 : A.tmps[15]?.getD undef = .agg (mv (g)) := (gd A 15).trans (show A.tmps.getD 15 undef = .agg (mv (g)) from hhas 3 _ rfl (hdep ⟨3, .data⟩ (by simp) rfl) 15 rfl)
      have h16 : A.tmps[16]?.getD undef = .agg (mv (day)) := (gd A 16).trans (show A.tmps.getD 16 undef = .agg (mv (day)) from hhas 4 _ rfl (hdep ⟨4, .data⟩ (by simp) rfl) 16 rfl)
      refine wpOp_step rfl (fun K hK => ?_)
      go_simp
      refine (cX1 _).mono ?_
      rintro e W' ⟨rfl, hb⟩
      exact hK _ _ (fin _ 17 _ (by omega) (by decide) hb rfl)
    | 6, ho =>
      cases Option.some.inj ho
      have hA : A.eval (.tmp 5) = .pointer (some ⟨w.heap.size + 2, 0, none⟩) := hkept 5 (fun j p hp _ => nd (by kernel_rfl) j p hp)
      have hg := (show W.heap[w.heap.size + 2]? = some (.cells (mv h) 24 (0, 0)) by have q := hJ.c2; rw [no 11 6 hJ.f2 hLi] at q; exact q)
      refine wpOp_step rfl (fun K hK => ?_)
      show Oper.wp _ _ _ _ _ _
      refine wp_load_row 24 _ rfl _ hA _ _ _ _ hg maskType rfl (maskSize _) ?_
      exact hK _ _ (fin _ 18 _ (by omega) (by decide) (Below.refl _ _) rfl)
    | 7, ho =>
      cases Option.some.inj ho
      refine wpOp_step rfl (fun K hK => ?_)
      go_simp
      refine (day_any _).mono ?_
      rintro e W' ⟨rfl, hb⟩
      exact hK _ _ (fin _ 19 _ (by omega) (by decide) hb rfl)
    | 8, ho =>
      cases Option.some.inj ho
      have h18 : A.tmps[18]?.getD undef = .agg (mv (h)) := (gd A 18).trans (show A.tmps.getD 18 undef = .agg (mv (h)) from hhas 6 _ rfl (hdep ⟨6, .data⟩ (by simp) rfl) 18 rfl)
      have h19 : A.tmps[19]?.getD undef = .agg (mv (day)) := (gd A 19).trans (show A.tmps.getD 19 undef = .agg (mv (day)) from hhas 7 _ rfl (hdep ⟨7, .data⟩ (by simp) rfl) 19 rfl)
      refine wpOp_step rfl (fun K hK => ?_)
      go_simp
      refine (cX2 _).mono ?_
      rintro e W' ⟨rfl, hb⟩
      exact hK _ _ (fin _ 20 _ (by omega) (by decide) hb rfl)
    | 9, ho =>
      cases Option.some.inj ho
      have hA : A.eval (.tmp 3) = .pointer (some ⟨w.heap.size, 0, none⟩) := hkept 3 (fun j p hp _ => nd (by kernel_rfl) j p hp)
      have hB : A.eval (.tmp 14) = .agg (mv x) := hhas 2 _ rfl (hdep ⟨2, .data⟩ (by simp) rfl) 14 rfl
      have hown : L 0 = true := hdep ⟨0, .phase⟩ (by simp) rfl
      refine wpOp_step rfl (fun K hK => ?_)
      show Oper.wp _ _ _ _ _ _
      refine wp_store_row 24 _ _ rfl _ _ hA hB _ _ hJ.c0 (maskSize _) (by simp [mv_size]) (mv_all _) ?_
      refine hK _ _ ⟨undef, rfl, fun h => absurd rfl h, fun _ _ _ h => h, below_setRow hJ.bel (by omega) _, ?_, ?_, ?_, ?_, ?_, ?_⟩
      · intro _; simp [hown]
      · intro h; have e : (decide (9 = 10) || L 10) = L 10 := by simp
        simp only [e] at h; simp [hJ.f1 h]
      · intro h; have e : (decide (9 = 11) || L 11) = L 11 := by simp
        simp only [e] at h; simp [hJ.f2 h]
      · exact setRow_heap _ _ _ _ _ _ hJ.c0
      · have e : (decide (9 = 10) || L 10) = L 10 := by simp
        simp only [e]
        exact (setRow_other _ _ _ _ (by omega)).trans hJ.c1
      · have e : (decide (9 = 11) || L 11) = L 11 := by simp
        simp only [e]
        exact (setRow_other _ _ _ _ (by omega)).trans hJ.c2
    | 10, ho =>
      cases Option.some.inj ho
      have hA : A.eval (.tmp 4) = .pointer (some ⟨w.heap.size + 1, 0, none⟩) := hkept 4 (fun j p hp _ => nd (by kernel_rfl) j p hp)
      have hB : A.eval (.tmp 17) = .agg (mv y) := hhas 5 _ rfl (hdep ⟨5, .data⟩ (by simp) rfl) 17 rfl
      have hown : L 3 = true := hdep ⟨3, .phase⟩ (by simp) rfl
      refine wpOp_step rfl (fun K hK => ?_)
      show Oper.wp _ _ _ _ _ _
      refine wp_store_row 24 _ _ rfl _ _ hA hB _ _ hJ.c1 (maskSize _) (by simp [mv_size]) (mv_all _) ?_
      refine hK _ _ ⟨undef, rfl, fun h => absurd rfl h, fun _ _ _ h => h, below_setRow hJ.bel (by omega) _, ?_, ?_, ?_, ?_, ?_, ?_⟩
      · intro h; have e : (decide (10 = 9) || L 9) = L 9 := by simp
        simp only [e] at h; simp [hJ.f0 h]
      · intro _; simp [hown]
      · intro h; have e : (decide (10 = 11) || L 11) = L 11 := by simp
        simp only [e] at h; simp [hJ.f2 h]
      · have e : (decide (10 = 9) || L 9) = L 9 := by simp
        simp only [e]
        exact (setRow_other _ _ _ _ (by omega)).trans hJ.c0
      · exact setRow_heap _ _ _ _ _ _ hJ.c1
      · have e : (decide (10 = 11) || L 11) = L 11 := by simp
        simp only [e]
        exact (setRow_other _ _ _ _ (by omega)).trans hJ.c2
    | 11, ho =>
      cases Option.some.inj ho
      have hA : A.eval (.tmp 5) = .pointer (some ⟨w.heap.size + 2, 0, none⟩) := hkept 5 (fun j p hp _ => nd (by kernel_rfl) j p hp)
      have hB : A.eval (.tmp 20) = .agg (mv z) := hhas 8 _ rfl (hdep ⟨8, .data⟩ (by simp) rfl) 20 rfl
      have hown : L 6 = true := hdep ⟨6, .phase⟩ (by simp) rfl
      refine wpOp_step rfl (fun K hK => ?_)
      show Oper.wp _ _ _ _ _ _
      refine wp_store_row 24 _ _ rfl _ _ hA hB _ _ hJ.c2 (maskSize _) (by simp [mv_size]) (mv_all _) ?_
      refine hK _ _ ⟨undef, rfl, fun h => absurd rfl h, fun _ _ _ h => h, below_setRow hJ.bel (by omega) _, ?_, ?_, ?_, ?_, ?_, ?_⟩
      · intro h; have e : (decide (11 = 9) || L 9) = L 9 := by simp
        simp only [e] at h; simp [hJ.f0 h]
      · intro h; have e : (decide (11 = 10) || L 10) = L 10 := by simp
        simp only [e] at h; simp [hJ.f1 h]
      · intro _; simp [hown]
      · have e : (decide (11 = 9) || L 9) = L 9 := by simp
        simp only [e]
        exact (setRow_other _ _ _ _ (by omega)).trans hJ.c0
      · have e : (decide (11 = 10) || L 10) = L 10 := by simp
        simp only [e]
        exact (setRow_other _ _ _ _ (by omega)).trans hJ.c1
      · exact setRow_heap _ _ _ _ _ _ hJ.c2
    | k + 12, ho => simp at ho
  · intro L A w2 hL hJ hdef hsize hkept hhas
    obtain ⟨t, d⟩ := A
    have hd : d = [] := hdef
    subst hd
    clear hdef
    obtain ⟨l, rfl⟩ : ∃ l : List Value, t = l.toArray := ⟨t.toList, by simp⟩
    have hl : l.length = 104 := by
      have h : l.toArray.size = 104 := hsize
      simpa using h
    obtain ⟨⟨u0, u1, u2, u3, u4, u5, u6, u7, u8, u9, u10, u11, u12, u13, u14, u15, u16, u17, u18, u19, u20, u21, u22, u23, u24, u25, u26, u27, u28, u29, u30, u31, u32, u33, u34, u35, u36, u37, u38, u39, u40, u41, u42, u43, u44, u45, u46, u47, u48, u49, u50, u51, u52, u53, u54, u55, u56, u57, u58, u59, u60, u61, u62, u63, u64, u65, u66, u67, u68, u69, u70, u71, u72, u73, u74, u75, u76, u77, u78, u79, u80, u81, u82, u83, u84, u85, u86, u87, u88, u89, u90, u91, u92, u93, u94, u95, u96, u97, u98, u99, u100, u101, u102, u103, rfl⟩⟩ := fr104 l hl
    have e3 : u3 = .pointer (some ⟨w.heap.size, 0, none⟩) := hkept 3 (nd (by kernel_rfl))
    have e4 : u4 = .pointer (some ⟨w.heap.size + 1, 0, none⟩) := hkept 4 (nd (by kernel_rfl))
    have e5 : u5 = .pointer (some ⟨w.heap.size + 2, 0, none⟩) := hkept 5 (nd (by kernel_rfl))
    subst e3 e4 e5
    obtain ⟨hbw2, _, _, _, c02, c12, c22⟩ := hJ
    rw [hL 9 (by simp)] at c02
    rw [hL 10 (by simp)] at c12
    rw [hL 11 (by simp)] at c22
    simp only [cond_true] at c02 c12 c22
    clear hL hsize hkept hhas hl c01 c11 c21 hbw1 cX0 cX1 cX2
    go_wp2
    refine wp_region_flow (by kernel_rfl) (by kernel_rfl) (by kernel_rfl) (by kernel_rfl) (fun L A W => J4 w2 (un x y) (di x y) (bo x y) L A W) (fun i v _ => sp4 x y i v) ?_ ?_ ?_
    · intro L hL
      have n : ∀ k, k < 15 → L k = true → False := fun k hk h => by rw [hL k (by simpa using hk)] at h; cases h
      exact ⟨(Below.refl _ _).drew, fun h => (n 9 (by omega) h).elim, fun h => (n 10 (by omega) h).elim, fun h => (n 11 (by omega) h).elim, fun h => (n 9 (by omega) h).elim, fun h => (n 9 (by omega) h).elim, fun h => (n 10 (by omega) h).elim, fun h => (n 12 (by omega) h).elim, fun h => (n 13 (by omega) h).elim, fun h => (n 14 (by omega) h).elim, by simp⟩
    · intro i o L A W ho hLi hdep hJ hdef hkept hhas
      clear hdef
      have fin : ∀ (v : Value) (d : Nat) (W' : World), i < 9 → 9 < d → Below W.heap.size W W' → sp4 x y i v → ∃ u, A.put (some d) v = A.put (some d) u ∧ (some d ≠ none → sp4 x y i u) ∧ (∀ j x', L j = true → sp4 x y j x' → sp4 x y j x') ∧ J4 w2 (un x y) (di x y) (bo x y) (fun k => decide (i = k) || L k) (A.put (some d) v) W' := by
        intro v d W' hi hd hb hv
        have e : ∀ k, 9 ≤ k → (decide (i = k) || L k) = L k := fun k hk => by
          have : i ≠ k := by omega
          simp [this]
        have q : ∀ s, s ≤ 9 → (A.put (some d) v).tmps.getD s undef = A.tmps.getD s undef := fun s hs => getD_set_other _ _ _ _ (by omega)
        refine ⟨v, rfl, fun _ => hv, fun _ _ _ h => h, hJ.bel.trans (hb.mono hJ.bel.size), ?_, ?_, ?_, ?_, ?_, ?_, ?_, ?_, ?_, by simpa [Act.put] using hJ.sz⟩
        · simp only [e 9 (by omega), e 12 (by omega)]; exact hJ.s7.keep (q 7 (by omega)) hb
        · simp only [e 10 (by omega), e 13 (by omega)]; exact hJ.s8.keep (q 8 (by omega)) hb
        · simp only [e 11 (by omega), e 14 (by omega)]; exact hJ.s9.keep (q 9 (by omega)) hb
        · simp only [e 9 (by omega), e 10 (by omega), q 7 (by omega), q 8 (by omega)]; exact hJ.d78
        · simp only [e 9 (by omega), e 11 (by omega), q 7 (by omega), q 9 (by omega)]; exact hJ.d79
        · simp only [e 10 (by omega), e 11 (by omega), q 8 (by omega), q 9 (by omega)]; exact hJ.d89
        · simp only [e 9 (by omega), e 12 (by omega)]; exact hJ.f7
        · simp only [e 10 (by omega), e 13 (by omega)]; exact hJ.f8
        · simp only [e 11 (by omega), e 14 (by omega)]; exact hJ.f9
      have c0 := (hJ.bel.block _ (lt_of_block c02)).trans c02
      have c1 := (hJ.bel.block _ (lt_of_block c12)).trans c12
      match i, ho with
      | 0, ho =>
        cases Option.some.inj ho
        have hA : A.eval (.tmp 3) = .pointer (some ⟨w.heap.size, 0, none⟩) := hkept 3 (fun j p hp _ => nd (by kernel_rfl) j p hp)
        have hg := c0
        refine wpOp_step rfl (fun K hK => ?_)
        show Oper.wp _ _ _ _ _ _
        refine wp_load_row 24 _ rfl _ hA _ _ _ _ hg maskType rfl (maskSize _) ?_
        exact hK _ _ (fin _ 21 _ (by omega) (by decide) (Below.refl _ _) rfl)
      | 1, ho =>
        cases Option.some.inj ho
        have hA : A.eval (.tmp 4) = .pointer (some ⟨w.heap.size + 1, 0, none⟩) := hkept 4 (fun j p hp _ => nd (by kernel_rfl) j p hp)
        have hg := c1
        refine wpOp_step rfl (fun K hK => ?_)
        show Oper.wp _ _ _ _ _ _
        refine wp_load_row 24 _ rfl _ hA _ _ _ _ hg maskType rfl (maskSize _) ?_
        exact hK _ _ (fin _ 22 _ (by omega) (by decide) (Below.refl _ _) rfl)
      | 2, ho =>
        cases Option.some.inj ho
        have h21 : A.tmps[21]?.getD undef = .agg (mv (x)) := (gd A 21).trans (show A.tmps.getD 21 undef = .agg (mv (x)) from hhas 0 _ rfl (hdep ⟨0, .data⟩ (by simp) rfl) 21 rfl)
        have h22 : A.tmps[22]?.getD undef = .agg (mv (y)) := (gd A 22).trans (show A.tmps.getD 22 undef = .agg (mv (y)) from hhas 1 _ rfl (hdep ⟨1, .data⟩ (by simp) rfl) 22 rfl)
        refine wpOp_step rfl (fun K hK => ?_)
        go_simp
        refine (un_any x y _).mono ?_
        rintro e W' ⟨rfl, hb⟩
        exact hK _ _ (fin _ 23 _ (by omega) (by decide) hb rfl)
      | 3, ho =>
        cases Option.some.inj ho
        have hA : A.eval (.tmp 3) = .pointer (some ⟨w.heap.size, 0, none⟩) := hkept 3 (fun j p hp _ => nd (by kernel_rfl) j p hp)
        have hg := c0
        refine wpOp_step rfl (fun K hK => ?_)
        show Oper.wp _ _ _ _ _ _
        refine wp_load_row 24 _ rfl _ hA _ _ _ _ hg maskType rfl (maskSize _) ?_
        exact hK _ _ (fin _ 24 _ (by omega) (by decide) (Below.refl _ _) rfl)
      | 4, ho =>
        cases Option.some.inj ho
        have hA : A.eval (.tmp 4) = .pointer (some ⟨w.heap.size + 1, 0, none⟩) := hkept 4 (fun j p hp _ => nd (by kernel_rfl) j p hp)
        have hg := c1
        refine wpOp_step rfl (fun K hK => ?_)
        show Oper.wp _ _ _ _ _ _
        refine wp_load_row 24 _ rfl _ hA _ _ _ _ hg maskType rfl (maskSize _) ?_
        exact hK _ _ (fin _ 25 _ (by omega) (by decide) (Below.refl _ _) rfl)
      | 5, ho =>
        cases Option.some.inj ho
        have h24 : A.tmps[24]?.getD undef = .agg (mv (x)) := (gd A 24).trans (show A.tmps.getD 24 undef = .agg (mv (x)) from hhas 3 _ rfl (hdep ⟨3, .data⟩ (by simp) rfl) 24 rfl)
        have h25 : A.tmps[25]?.getD undef = .agg (mv (y)) := (gd A 25).trans (show A.tmps.getD 25 undef = .agg (mv (y)) from hhas 4 _ rfl (hdep ⟨4, .data⟩ (by simp) rfl) 25 rfl)
        refine wpOp_step rfl (fun K hK => ?_)
        go_simp
        refine (di_any x y _).mono ?_
        rintro e W' ⟨rfl, hb⟩
        exact hK _ _ (fin _ 26 _ (by omega) (by decide) hb rfl)
      | 6, ho =>
        cases Option.some.inj ho
        have hA : A.eval (.tmp 3) = .pointer (some ⟨w.heap.size, 0, none⟩) := hkept 3 (fun j p hp _ => nd (by kernel_rfl) j p hp)
        have hg := c0
        refine wpOp_step rfl (fun K hK => ?_)
        show Oper.wp _ _ _ _ _ _
        refine wp_load_row 24 _ rfl _ hA _ _ _ _ hg maskType rfl (maskSize _) ?_
        exact hK _ _ (fin _ 27 _ (by omega) (by decide) (Below.refl _ _) rfl)
      | 7, ho =>
        cases Option.some.inj ho
        have hA : A.eval (.tmp 4) = .pointer (some ⟨w.heap.size + 1, 0, none⟩) := hkept 4 (fun j p hp _ => nd (by kernel_rfl) j p hp)
        have hg := c1
        refine wpOp_step rfl (fun K hK => ?_)
        show Oper.wp _ _ _ _ _ _
        refine wp_load_row 24 _ rfl _ hA _ _ _ _ hg maskType rfl (maskSize _) ?_
        exact hK _ _ (fin _ 28 _ (by omega) (by decide) (Below.refl _ _) rfl)
      | 8, ho =>
        cases Option.some.inj ho
        have h27 : A.tmps[27]?.getD undef = .agg (mv (x)) := (gd A 27).trans (show A.tmps.getD 27 undef = .agg (mv (x)) from hhas 6 _ rfl (hdep ⟨6, .data⟩ (by simp) rfl) 27 rfl)
        have h28 : A.tmps[28]?.getD undef = .agg (mv (y)) := (gd A 28).trans (show A.tmps.getD 28 undef = .agg (mv (y)) from hhas 7 _ rfl (hdep ⟨7, .data⟩ (by simp) rfl) 28 rfl)
        refine wpOp_step rfl (fun K hK => ?_)
        go_simp
        refine (bo_any x y _).mono ?_
        rintro e W' ⟨rfl, hb⟩
        exact hK _ _ (fin _ 29 _ (by omega) (by decide) hb rfl)
      | 9, ho =>
        cases Option.some.inj ho
        refine wpOp_step rfl (fun K hK => ?_)
        go_simp
        have hb : Below W.heap.size W (W.alloc (.cells (mv fun _ => false) 24)) := (Below.refl _ _).alloc (Nat.le_refl _) _
        have hsz : 7 < A.tmps.size := by have := hJ.sz; omega
        have qs : (A.put (some 7) (.pointer (some ⟨W.heap.size, 0, none⟩))).tmps.getD 7 undef = .pointer (some ⟨W.heap.size, 0, none⟩) := getD_set_same _ _ _ hsz
        have q : ∀ k, 7 ≠ k → (A.put (some 7) (.pointer (some ⟨W.heap.size, 0, none⟩))).tmps.getD k undef = A.tmps.getD k undef := fun k hk => getD_set_other _ _ _ _ hk
        have nst : L 12 = false := by
          cases e : L 12 with
          | false => rfl
          | true => exact absurd (hJ.f7 e) (by rw [hLi]; simp)
        have hlt : ∀ k on st F, Slot k on st F w2.heap.size A W → on = true → A.tmps.getD k undef ≠ .pointer (some ⟨W.heap.size, 0, none⟩) := fun k on st F hS ho => by
          obtain ⟨g, p1, _, p3⟩ := hS ho
          exact ptr_ne p1 (Nat.ne_of_lt (lt_of_block p3))
        refine hK _ _ ⟨_, rfl, fun _ => trivial, fun _ _ _ h => h, hJ.bel.trans (hb.mono hJ.bel.size), ?_, ?_, ?_, ?_, ?_, ?_, ?_, ?_, ?_, by simpa [Act.put] using hJ.sz⟩
        · intro _
          refine ⟨W.heap.size, qs, hJ.bel.size, ?_⟩
          have e : (decide (9 = 12) || L 12) = false := by simp [nst]
          simp only [e]
          exact heap_alloc_new W _
        · have e : (decide (9 = 10) || L 10) = L 10 := by simp
          have e2 : (decide (9 = 13) || L 13) = L 13 := by simp
          simp only [e, e2]
          exact hJ.s8.keep (q 8 (by omega)) hb
        · have e : (decide (9 = 11) || L 11) = L 11 := by simp
          have e2 : (decide (9 = 14) || L 14) = L 14 := by simp
          simp only [e, e2]
          exact hJ.s9.keep (q 9 (by omega)) hb
        · intro _ hon
          have e : (decide (9 = 10) || L 10) = L 10 := by simp
          simp only [e] at hon
          exact fun e => hlt 8 _ _ _ hJ.s8 hon ((q 8 (by omega)).symm.trans (e.symm.trans qs))
        · intro _ hon
          have e : (decide (9 = 11) || L 11) = L 11 := by simp
          simp only [e] at hon
          exact fun e => hlt 9 _ _ _ hJ.s9 hon ((q 9 (by omega)).symm.trans (e.symm.trans qs))
        · intro h1 h2
          have e : (decide (9 = 10) || L 10) = L 10 := by simp
          have e2 : (decide (9 = 11) || L 11) = L 11 := by simp
          simp only [e] at h1
          simp only [e2] at h2
          exact fun e => hJ.d89 h1 h2 ((q 8 (by omega)).symm.trans (e.trans (q 9 (by omega))))
        · intro hst
          have e : (decide (9 = 12) || L 12) = L 12 := by simp
          simp only [e] at hst
          simp [hJ.f7 hst]
        · intro hst
          have e : (decide (9 = 13) || L 13) = L 13 := by simp
          simp only [e] at hst
          simp [hJ.f8 hst]
        · intro hst
          have e : (decide (9 = 14) || L 14) = L 14 := by simp
          simp only [e] at hst
          simp [hJ.f9 hst]
      | 10, ho =>
        cases Option.some.inj ho
        refine wpOp_step rfl (fun K hK => ?_)
        go_simp
        have hb : Below W.heap.size W (W.alloc (.cells (mv fun _ => false) 24)) := (Below.refl _ _).alloc (Nat.le_refl _) _
        have hsz : 8 < A.tmps.size := by have := hJ.sz; omega
        have qs : (A.put (some 8) (.pointer (some ⟨W.heap.size, 0, none⟩))).tmps.getD 8 undef = .pointer (some ⟨W.heap.size, 0, none⟩) := getD_set_same _ _ _ hsz
        have q : ∀ k, 8 ≠ k → (A.put (some 8) (.pointer (some ⟨W.heap.size, 0, none⟩))).tmps.getD k undef = A.tmps.getD k undef := fun k hk => getD_set_other _ _ _ _ hk
        have nst : L 13 = false := by
          cases e : L 13 with
          | false => rfl
          | true => exact absurd (hJ.f8 e) (by rw [hLi]; simp)
        have hlt : ∀ k on st F, Slot k on st F w2.heap.size A W → on = true → A.tmps.getD k undef ≠ .pointer (some ⟨W.heap.size, 0, none⟩) := fun k on st F hS ho => by
          obtain ⟨g, p1, _, p3⟩ := hS ho
          exact ptr_ne p1 (Nat.ne_of_lt (lt_of_block p3))
        refine hK _ _ ⟨_, rfl, fun _ => trivial, fun _ _ _ h => h, hJ.bel.trans (hb.mono hJ.bel.size), ?_, ?_, ?_, ?_, ?_, ?_, ?_, ?_, ?_, by simpa [Act.put] using hJ.sz⟩
        · have e : (decide (10 = 9) || L 9) = L 9 := by simp
          have e2 : (decide (10 = 12) || L 12) = L 12 := by simp
          simp only [e, e2]
          exact hJ.s7.keep (q 7 (by omega)) hb
        · intro _
          refine ⟨W.heap.size, qs, hJ.bel.size, ?_⟩
          have e : (decide (10 = 13) || L 13) = false := by simp [nst]
          simp only [e]
          exact heap_alloc_new W _
        · have e : (decide (10 = 11) || L 11) = L 11 := by simp
          have e2 : (decide (10 = 14) || L 14) = L 14 := by simp
          simp only [e, e2]
          exact hJ.s9.keep (q 9 (by omega)) hb
        · intro hon _
          have e : (decide (10 = 9) || L 9) = L 9 := by simp
          simp only [e] at hon
          exact fun e => hlt 7 _ _ _ hJ.s7 hon ((q 7 (by omega)).symm.trans (e.trans qs))
        · intro h1 h2
          have e : (decide (10 = 9) || L 9) = L 9 := by simp
          have e2 : (decide (10 = 11) || L 11) = L 11 := by simp
          simp only [e] at h1
          simp only [e2] at h2
          exact fun e => hJ.d79 h1 h2 ((q 7 (by omega)).symm.trans (e.trans (q 9 (by omega))))
        · intro _ hon
          have e : (decide (10 = 11) || L 11) = L 11 := by simp
          simp only [e] at hon
          exact fun e => hlt 9 _ _ _ hJ.s9 hon ((q 9 (by omega)).symm.trans (e.symm.trans qs))
        · intro hst
          have e : (decide (10 = 12) || L 12) = L 12 := by simp
          simp only [e] at hst
          simp [hJ.f7 hst]
        · intro hst
          have e : (decide (10 = 13) || L 13) = L 13 := by simp
          simp only [e] at hst
          simp [hJ.f8 hst]
        · intro hst
          have e : (decide (10 = 14) || L 14) = L 14 := by simp
          simp only [e] at hst
          simp [hJ.f9 hst]
      | 11, ho =>
        cases Option.some.inj ho
        refine wpOp_step rfl (fun K hK => ?_)
        go_simp
        have hb : Below W.heap.size W (W.alloc (.cells (mv fun _ => false) 24)) := (Below.refl _ _).alloc (Nat.le_refl _) _
        have hsz : 9 < A.tmps.size := by have := hJ.sz; omega
        have qs : (A.put (some 9) (.pointer (some ⟨W.heap.size, 0, none⟩))).tmps.getD 9 undef = .pointer (some ⟨W.heap.size, 0, none⟩) := getD_set_same _ _ _ hsz
        have q : ∀ k, 9 ≠ k → (A.put (some 9) (.pointer (some ⟨W.heap.size, 0, none⟩))).tmps.getD k undef = A.tmps.getD k undef := fun k hk => getD_set_other _ _ _ _ hk
        have nst : L 14 = false := by
          cases e : L 14 with
          | false => rfl
          | true => exact absurd (hJ.f9 e) (by rw [hLi]; simp)
        have hlt : ∀ k on st F, Slot k on st F w2.heap.size A W → on = true → A.tmps.getD k undef ≠ .pointer (some ⟨W.heap.size, 0, none⟩) := fun k on st F hS ho => by
          obtain ⟨g, p1, _, p3⟩ := hS ho
          exact ptr_ne p1 (Nat.ne_of_lt (lt_of_block p3))
        refine hK _ _ ⟨_, rfl, fun _ => trivial, fun _ _ _ h => h, hJ.bel.trans (hb.mono hJ.bel.size), ?_, ?_, ?_, ?_, ?_, ?_, ?_, ?_, ?_, by simpa [Act.put] using hJ.sz⟩
        · have e : (decide (11 = 9) || L 9) = L 9 := by simp
          have e2 : (decide (11 = 12) || L 12) = L 12 := by simp
          simp only [e, e2]
          exact hJ.s7.keep (q 7 (by omega)) hb
        · have e : (decide (11 = 10) || L 10) = L 10 := by simp
          have e2 : (decide (11 = 13) || L 13) = L 13 := by simp
          simp only [e, e2]
          exact hJ.s8.keep (q 8 (by omega)) hb
        · intro _
          refine ⟨W.heap.size, qs, hJ.bel.size, ?_⟩
          have e : (decide (11 = 14) || L 14) = false := by simp [nst]
          simp only [e]
          exact heap_alloc_new W _
        · intro h1 h2
          have e : (decide (11 = 9) || L 9) = L 9 := by simp
          have e2 : (decide (11 = 10) || L 10) = L 10 := by simp
          simp only [e] at h1
          simp only [e2] at h2
          exact fun e => hJ.d78 h1 h2 ((q 7 (by omega)).symm.trans (e.trans (q 8 (by omega))))
        · intro hon _
          have e : (decide (11 = 9) || L 9) = L 9 := by simp
          simp only [e] at hon
          exact fun e => hlt 7 _ _ _ hJ.s7 hon ((q 7 (by omega)).symm.trans (e.trans qs))
        · intro hon _
          have e : (decide (11 = 10) || L 10) = L 10 := by simp
          simp only [e] at hon
          exact fun e => hlt 8 _ _ _ hJ.s8 hon ((q 8 (by omega)).symm.trans (e.trans qs))
        · intro hst
          have e : (decide (11 = 12) || L 12) = L 12 := by simp
          simp only [e] at hst
          simp [hJ.f7 hst]
        · intro hst
          have e : (decide (11 = 13) || L 13) = L 13 := by simp
          simp only [e] at hst
          simp [hJ.f8 hst]
        · intro hst
          have e : (decide (11 = 14) || L 14) = L 14 := by simp
          simp only [e] at hst
          simp [hJ.f9 hst]
      | 12, ho =>
        cases Option.some.inj ho
        have hon : L 9 = true := hdep ⟨9, .data⟩ (by simp) rfl
        obtain ⟨g, hA, hgB, hg⟩ := hJ.s7 hon
        have hB : A.eval (.tmp 23) = .agg (mv (un x y)) := hhas 2 _ rfl (hdep ⟨2, .data⟩ (by simp) rfl) 23 rfl
        refine wpOp_step rfl (fun K hK => ?_)
        show Oper.wp _ _ _ _ _ _
        refine wp_store_row 24 _ _ rfl _ _ hA hB _ _ hg (maskSize _) (by simp [mv_size]) (mv_all _) ?_
        refine hK _ _ ⟨undef, rfl, fun h => absurd rfl h, fun _ _ _ h => h, below_setRow hJ.bel hgB _, ?_, ?_, ?_, ?_, ?_, ?_, ?_, ?_, ?_, hJ.sz⟩
        · exact fun _ => ⟨g, hA, hgB, setRow_heap _ _ _ _ _ _ hg⟩
        · have e : (decide (12 = 10) || L 10) = L 10 := by simp
          have e2 : (decide (12 = 13) || L 13) = L 13 := by simp
          simp only [e, e2]
          exact hJ.s8.apart _ (fun ho => by rw [← hA]; exact (hJ.d78 hon ho).symm)
        · have e : (decide (12 = 11) || L 11) = L 11 := by simp
          have e2 : (decide (12 = 14) || L 14) = L 14 := by simp
          simp only [e, e2]
          exact hJ.s9.apart _ (fun ho => by rw [← hA]; exact (hJ.d79 hon ho).symm)
        · have e : (decide (12 = 9) || L 9) = L 9 := by simp
          have e2 : (decide (12 = 10) || L 10) = L 10 := by simp
          simp only [e, e2]
          exact hJ.d78
        · have e : (decide (12 = 9) || L 9) = L 9 := by simp
          have e2 : (decide (12 = 11) || L 11) = L 11 := by simp
          simp only [e, e2]
          exact hJ.d79
        · have e : (decide (12 = 10) || L 10) = L 10 := by simp
          have e2 : (decide (12 = 11) || L 11) = L 11 := by simp
          simp only [e, e2]
          exact hJ.d89
        · intro _
          simp [hon]
        · intro hst
          have e : (decide (12 = 13) || L 13) = L 13 := by simp
          simp only [e] at hst
          simp [hJ.f8 hst]
        · intro hst
          have e : (decide (12 = 14) || L 14) = L 14 := by simp
          simp only [e] at hst
          simp [hJ.f9 hst]
      | 13, ho =>
        cases Option.some.inj ho
        have hon : L 10 = true := hdep ⟨10, .data⟩ (by simp) rfl
        obtain ⟨g, hA, hgB, hg⟩ := hJ.s8 hon
        have hB : A.eval (.tmp 26) = .agg (mv (di x y)) := hhas 5 _ rfl (hdep ⟨5, .data⟩ (by simp) rfl) 26 rfl
        refine wpOp_step rfl (fun K hK => ?_)
        show Oper.wp _ _ _ _ _ _
        refine wp_store_row 24 _ _ rfl _ _ hA hB _ _ hg (maskSize _) (by simp [mv_size]) (mv_all _) ?_
        refine hK _ _ ⟨undef, rfl, fun h => absurd rfl h, fun _ _ _ h => h, below_setRow hJ.bel hgB _, ?_, ?_, ?_, ?_, ?_, ?_, ?_, ?_, ?_, hJ.sz⟩
        · have e : (decide (13 = 9) || L 9) = L 9 := by simp
          have e2 : (decide (13 = 12) || L 12) = L 12 := by simp
          simp only [e, e2]
          exact hJ.s7.apart _ (fun ho => by rw [← hA]; exact hJ.d78 ho hon)
        · exact fun _ => ⟨g, hA, hgB, setRow_heap _ _ _ _ _ _ hg⟩
        · have e : (decide (13 = 11) || L 11) = L 11 := by simp
          have e2 : (decide (13 = 14) || L 14) = L 14 := by simp
          simp only [e, e2]
          exact hJ.s9.apart _ (fun ho => by rw [← hA]; exact (hJ.d89 hon ho).symm)
        · have e : (decide (13 = 9) || L 9) = L 9 := by simp
          have e2 : (decide (13 = 10) || L 10) = L 10 := by simp
          simp only [e, e2]
          exact hJ.d78
        · have e : (decide (13 = 9) || L 9) = L 9 := by simp
          have e2 : (decide (13 = 11) || L 11) = L 11 := by simp
          simp only [e, e2]
          exact hJ.d79
        · have e : (decide (13 = 10) || L 10) = L 10 := by simp
          have e2 : (decide (13 = 11) || L 11) = L 11 := by simp
          simp only [e, e2]
          exact hJ.d89
        · intro hst
          have e : (decide (13 = 12) || L 12) = L 12 := by simp
          simp only [e] at hst
          simp [hJ.f7 hst]
        · intro _
          simp [hon]
        · intro hst
          have e : (decide (13 = 14) || L 14) = L 14 := by simp
          simp only [e] at hst
          simp [hJ.f9 hst]
      | 14, ho =>
        cases Option.some.inj ho
        have hon : L 11 = true := hdep ⟨11, .data⟩ (by simp) rfl
        obtain ⟨g, hA, hgB, hg⟩ := hJ.s9 hon
        have hB : A.eval (.tmp 29) = .agg (mv (bo x y)) := hhas 8 _ rfl (hdep ⟨8, .data⟩ (by simp) rfl) 29 rfl
        refine wpOp_step rfl (fun K hK => ?_)
        show Oper.wp _ _ _ _ _ _
        refine wp_store_row 24 _ _ rfl _ _ hA hB _ _ hg (maskSize _) (by simp [mv_size]) (mv_all _) ?_
        refine hK _ _ ⟨undef, rfl, fun h => absurd rfl h, fun _ _ _ h => h, below_setRow hJ.bel hgB _, ?_, ?_, ?_, ?_, ?_, ?_, ?_, ?_, ?_, hJ.sz⟩
        · have e : (decide (14 = 9) || L 9) = L 9 := by simp
          have e2 : (decide (14 = 12) || L 12) = L 12 := by simp
          simp only [e, e2]
          exact hJ.s7.apart _ (fun ho => by rw [← hA]; exact hJ.d79 ho hon)
        · have e : (decide (14 = 10) || L 10) = L 10 := by simp
          have e2 : (decide (14 = 13) || L 13) = L 13 := by simp
          simp only [e, e2]
          exact hJ.s8.apart _ (fun ho => by rw [← hA]; exact hJ.d89 ho hon)
        · exact fun _ => ⟨g, hA, hgB, setRow_heap _ _ _ _ _ _ hg⟩
        · have e : (decide (14 = 9) || L 9) = L 9 := by simp
          have e2 : (decide (14 = 10) || L 10) = L 10 := by simp
          simp only [e, e2]
          exact hJ.d78
        · have e : (decide (14 = 9) || L 9) = L 9 := by simp
          have e2 : (decide (14 = 11) || L 11) = L 11 := by simp
          simp only [e, e2]
          exact hJ.d79
        · have e : (decide (14 = 10) || L 10) = L 10 := by simp
          have e2 : (decide (14 = 11) || L 11) = L 11 := by simp
          simp only [e, e2]
          exact hJ.d89
        · intro hst
          have e : (decide (14 = 12) || L 12) = L 12 := by simp
          simp only [e] at hst
          simp [hJ.f7 hst]
        · intro hst
          have e : (decide (14 = 13) || L 13) = L 13 := by simp
          simp only [e] at hst
          simp [hJ.f8 hst]
        · intro _
          simp [hon]
      | k + 15, ho => simp at ho
    · intro L A w3 hL hJ hdef hsize hkept hhas
      obtain ⟨t, d⟩ := A
      have hd : d = [] := hdef
      subst hd
      clear hdef
      obtain ⟨l, rfl⟩ : ∃ l : List Value, t = l.toArray := ⟨t.toList, by simp⟩
      have hl : l.length = 104 := by
        have h : l.toArray.size = 104 := hsize
        simpa using h
      obtain ⟨g7, p7, b7, k7⟩ := hJ.s7 (hL 9 (by simp))
      obtain ⟨g8, p8, b8, k8⟩ := hJ.s8 (hL 10 (by simp))
      obtain ⟨g9, p9, b9, k9⟩ := hJ.s9 (hL 11 (by simp))
      have hJb := hJ.bel
      clear hJ
      obtain ⟨⟨u0, u1, u2, u3, u4, u5, u6, u7, u8, u9, u10, u11, u12, u13, u14, u15, u16, u17, u18, u19, u20, u21, u22, u23, u24, u25, u26, u27, u28, u29, u30, u31, u32, u33, u34, u35, u36, u37, u38, u39, u40, u41, u42, u43, u44, u45, u46, u47, u48, u49, u50, u51, u52, u53, u54, u55, u56, u57, u58, u59, u60, u61, u62, u63, u64, u65, u66, u67, u68, u69, u70, u71, u72, u73, u74, u75, u76, u77, u78, u79, u80, u81, u82, u83, u84, u85, u86, u87, u88, u89, u90, u91, u92, u93, u94, u95, u96, u97, u98, u99, u100, u101, u102, u103, rfl⟩⟩ := fr104 l hl
      have e3 : u3 = .pointer (some ⟨w.heap.size, 0, none⟩) := hkept 3 (nd (by kernel_rfl))
      have e4 : u4 = .pointer (some ⟨w.heap.size + 1, 0, none⟩) := hkept 4 (nd (by kernel_rfl))
      have e5 : u5 = .pointer (some ⟨w.heap.size + 2, 0, none⟩) := hkept 5 (nd (by kernel_rfl))
      have e7 : u7 = .pointer (some ⟨g7, 0, none⟩) := p7
      have e8 : u8 = .pointer (some ⟨g8, 0, none⟩) := p8
      have e9 : u9 = .pointer (some ⟨g9, 0, none⟩) := p9
      subst e3 e4 e5 e7 e8 e9
      rw [hL 12 (by simp)] at k7
      rw [hL 13 (by simp)] at k8
      rw [hL 14 (by simp)] at k9
      simp only [cond_true] at k7 k8 k9
      have c05 := (hJb.block _ (lt_of_block c02)).trans c02
      have c15 := (hJb.block _ (lt_of_block c12)).trans c12
      have c25 := (hJb.block _ (lt_of_block c22)).trans c22
      have c35 := k7
      have c45 := k8
      have c55 := k9
      have hbw5 := hbw2.trans (hJb.mono hbw2.size)
      clear hL hsize hkept hhas hl hJb p7 p8 p9 b7 b8 b9 k7 k8 k9 c02 c12 c22 hbw2
      go_wp2
      refine wp_region_flow (by kernel_rfl) (by kernel_rfl) (by kernel_rfl) (by kernel_rfl) (fun _ _ W => Below w3.heap.size w3 W) (fun i v _ => sp5 x y i v) ?_ ?_ ?_
      · intro L hL
        exact (Below.refl _ _).drew
      · intro i o L A W ho hLi hdep hJ hdef hkept hhas
        clear hdef hLi
        have fin : ∀ (v : Value) (d : Nat) (W' : World), Below W.heap.size W W' → sp5 x y i v → ∃ u, A.put (some d) v = A.put (some d) u ∧ (some d ≠ none → sp5 x y i u) ∧ (∀ j x', L j = true → sp5 x y j x' → sp5 x y j x') ∧ Below w3.heap.size w3 W' := by
          intro v d W' hb hv
          exact ⟨v, rfl, fun _ => hv, fun _ _ _ h => h, hJ.trans (hb.mono hJ.size)⟩
        match i, ho with
        | 0, ho =>
          cases Option.some.inj ho
          have h7 : A.eval (.tmp 7) = .pointer (some ⟨g7, 0, none⟩) := (hkept 7 (fun j p hp _ => nd (by kernel_rfl) j p hp))
          have hg := (hJ.block _ (lt_of_block c35)).trans c35
          refine wpOp_step rfl (fun K hK => ?_)
          show Oper.wp _ _ _ _ _ _
          refine wp_load_row 24 _ rfl _ h7 _ _ _ _ hg maskType rfl (maskSize _) ?_
          exact hK _ _ (fin _ 30 _ (Below.refl _ _) rfl)
        | 1, ho =>
          cases Option.some.inj ho
          have h4 : A.eval (.tmp 4) = .pointer (some ⟨w.heap.size + 1, 0, none⟩) := (hkept 4 (fun j p hp _ => nd (by kernel_rfl) j p hp))
          have hg := (hJ.block _ (lt_of_block c15)).trans c15
          refine wpOp_step rfl (fun K hK => ?_)
          show Oper.wp _ _ _ _ _ _
          refine wp_load_row 24 _ rfl _ h4 _ _ _ _ hg maskType rfl (maskSize _) ?_
          exact hK _ _ (fin _ 31 _ (Below.refl _ _) rfl)
        | 2, ho =>
          cases Option.some.inj ho
          have h3 : A.eval (.tmp 3) = .pointer (some ⟨w.heap.size, 0, none⟩) := (hkept 3 (fun j p hp _ => nd (by kernel_rfl) j p hp))
          have hg := (hJ.block _ (lt_of_block c05)).trans c05
          refine wpOp_step rfl (fun K hK => ?_)
          show Oper.wp _ _ _ _ _ _
          refine wp_load_row 24 _ rfl _ h3 _ _ _ _ hg maskType rfl (maskSize _) ?_
          exact hK _ _ (fin _ 32 _ (Below.refl _ _) rfl)
        | 3, ho =>
          cases Option.some.inj ho
          have h31 : A.tmps[31]?.getD undef = .agg (mv (y)) := (gd A 31).trans (show A.tmps.getD 31 undef = .agg (mv (y)) from hhas 1 _ rfl (hdep ⟨1, .data⟩ (by simp) rfl) 31 rfl)
          have h32 : A.tmps[32]?.getD undef = .agg (mv (x)) := (gd A 32).trans (show A.tmps.getD 32 undef = .agg (mv (x)) from hhas 2 _ rfl (hdep ⟨2, .data⟩ (by simp) rfl) 32 rfl)
          refine wpOp_step rfl (fun K hK => ?_)
          go_simp
          refine (un_any y x _).mono ?_
          rintro e W' ⟨rfl, hb⟩
          exact hK _ _ (fin _ 33 _ hb rfl)
        | 4, ho =>
          cases Option.some.inj ho
          have h30 : A.tmps[30]?.getD undef = .agg (mv (un x y)) := (gd A 30).trans (show A.tmps.getD 30 undef = .agg (mv (un x y)) from hhas 0 _ rfl (hdep ⟨0, .data⟩ (by simp) rfl) 30 rfl)
          have h33 : A.tmps[33]?.getD undef = .agg (mv (un y x)) := (gd A 33).trans (show A.tmps.getD 33 undef = .agg (mv (un y x)) from hhas 3 _ rfl (hdep ⟨3, .data⟩ (by simp) rfl) 33 rfl)
          have he : ∀ w, (Op.equalIn 10000 24 (.agg (mv (un x y))) (.agg (mv (un y x)))).run Tryd.prog w = .ok true w := fun w => by rw [eq_mask, s_un x y]
          refine wpOp_step rfl (fun K hK => ?_)
          go_simp
          exact hK _ _ (fin _ 34 _ (Below.refl _ _) rfl)
        | 5, ho =>
          cases Option.some.inj ho
          have h34 : A.tmps[34]?.getD undef = .bool false := (gd A 34).trans (show A.tmps.getD 34 undef = .bool false from hhas 4 _ rfl (hdep ⟨4, .data⟩ (by simp) rfl) 34 rfl)
          refine wpOp_step rfl (fun K hK => ?_)
          go_simp
          exact hK _ _ (fin _ 35 _ (Below.refl _ _) rfl)
        | 6, ho =>
          cases Option.some.inj ho
          have hG : A.tmps[35]? = some (.bool false) := gdb (show A.tmps.getD 35 undef = .bool false from hhas 5 _ rfl (hdep ⟨5, .guard⟩ (by simp) rfl) 35 rfl)
          have h9 : A.eval (.tmp 9) = .pointer (some ⟨g9, 0, none⟩) := (hkept 9 (fun j p hp _ => nd (by kernel_rfl) j p hp))
          have hg := (hJ.block _ (lt_of_block c55)).trans c55
          refine wpOp_step rfl (fun K hK => ?_)
          rw [if_pos (by simp [Region.wanted, yielded, hG])]
          refine wp_load_row 24 _ rfl _ h9 _ _ _ _ hg maskType rfl (maskSize _) ?_
          exact hK _ _ (fin _ 36 _ (Below.refl _ _) rfl)
        | 7, ho =>
          cases Option.some.inj ho
          have hG : A.tmps[35]? = some (.bool false) := gdb (show A.tmps.getD 35 undef = .bool false from hhas 5 _ rfl (hdep ⟨5, .guard⟩ (by simp) rfl) 35 rfl)
          have h4 : A.eval (.tmp 4) = .pointer (some ⟨w.heap.size + 1, 0, none⟩) := (hkept 4 (fun j p hp _ => nd (by kernel_rfl) j p hp))
          have hg := (hJ.block _ (lt_of_block c15)).trans c15
          refine wpOp_step rfl (fun K hK => ?_)
          rw [if_pos (by simp [Region.wanted, yielded, hG])]
          refine wp_load_row 24 _ rfl _ h4 _ _ _ _ hg maskType rfl (maskSize _) ?_
          exact hK _ _ (fin _ 37 _ (Below.refl _ _) rfl)
        | 8, ho =>
          cases Option.some.inj ho
          have hG : A.tmps[35]? = some (.bool false) := gdb (show A.tmps.getD 35 undef = .bool false from hhas 5 _ rfl (hdep ⟨5, .guard⟩ (by simp) rfl) 35 rfl)
          have h3 : A.eval (.tmp 3) = .pointer (some ⟨w.heap.size, 0, none⟩) := (hkept 3 (fun j p hp _ => nd (by kernel_rfl) j p hp))
          have hg := (hJ.block _ (lt_of_block c05)).trans c05
          refine wpOp_step rfl (fun K hK => ?_)
          rw [if_pos (by simp [Region.wanted, yielded, hG])]
          refine wp_load_row 24 _ rfl _ h3 _ _ _ _ hg maskType rfl (maskSize _) ?_
          exact hK _ _ (fin _ 38 _ (Below.refl _ _) rfl)
        | 9, ho =>
          cases Option.some.inj ho
          have hG : A.tmps[35]? = some (.bool false) := gdb (show A.tmps.getD 35 undef = .bool false from hhas 5 _ rfl (hdep ⟨5, .guard⟩ (by simp) rfl) 35 rfl)
          have h37 : A.tmps[37]?.getD undef = .agg (mv (y)) := (gd A 37).trans (show A.tmps.getD 37 undef = .agg (mv (y)) from hhas 7 _ rfl (hdep ⟨7, .data⟩ (by simp) rfl) 37 rfl)
          have h38 : A.tmps[38]?.getD undef = .agg (mv (x)) := (gd A 38).trans (show A.tmps.getD 38 undef = .agg (mv (x)) from hhas 8 _ rfl (hdep ⟨8, .data⟩ (by simp) rfl) 38 rfl)
          refine wpOp_step rfl (fun K hK => ?_)
          go_simp
          refine (bo_any y x _).mono ?_
          rintro e W' ⟨rfl, hb⟩
          exact hK _ _ (fin _ 39 _ hb rfl)
        | 10, ho =>
          cases Option.some.inj ho
          have hG : A.tmps[35]? = some (.bool false) := gdb (show A.tmps.getD 35 undef = .bool false from hhas 5 _ rfl (hdep ⟨5, .guard⟩ (by simp) rfl) 35 rfl)
          have h36 : A.tmps[36]?.getD undef = .agg (mv (bo x y)) := (gd A 36).trans (show A.tmps.getD 36 undef = .agg (mv (bo x y)) from hhas 6 _ rfl (hdep ⟨6, .data⟩ (by simp) rfl) 36 rfl)
          have h39 : A.tmps[39]?.getD undef = .agg (mv (bo y x)) := (gd A 39).trans (show A.tmps.getD 39 undef = .agg (mv (bo y x)) from hhas 9 _ rfl (hdep ⟨9, .data⟩ (by simp) rfl) 39 rfl)
          have he : ∀ w, (Op.equalIn 10000 24 (.agg (mv (bo x y))) (.agg (mv (bo y x)))).run Tryd.prog w = .ok true w := fun w => by rw [eq_mask, s_bo x y]
          refine wpOp_step rfl (fun K hK => ?_)
          go_simp
          exact hK _ _ (fin _ 40 _ (Below.refl _ _) rfl)
        | 11, ho =>
          cases Option.some.inj ho
          have h35 : A.tmps[35]?.getD undef = .bool false := (gd A 35).trans (show A.tmps.getD 35 undef = .bool false from hhas 5 _ rfl (hdep ⟨5, .data⟩ (by simp) rfl) 35 rfl)
          have h40 : A.tmps[40]?.getD undef = .bool false := (gd A 40).trans (show A.tmps.getD 40 undef = .bool false from hhas 10 _ rfl (hdep ⟨10, .data⟩ (by simp) rfl) 40 rfl)
          refine wpOp_step rfl (fun K hK => ?_)
          go_simp
          exact hK _ _ (fin _ 41 _ (Below.refl _ _) rfl)
        | 12, ho =>
          cases Option.some.inj ho
          have h41 : A.tmps[41]?.getD undef = .bool false := (gd A 41).trans (show A.tmps.getD 41 undef = .bool false from hhas 11 _ rfl (hdep ⟨11, .data⟩ (by simp) rfl) 41 rfl)
          refine wpOp_step rfl (fun K hK => ?_)
          go_simp
          exact hK _ _ (fin _ 42 _ (Below.refl _ _) rfl)
        | 13, ho =>
          cases Option.some.inj ho
          have hG : A.tmps[42]? = some (.bool false) := gdb (show A.tmps.getD 42 undef = .bool false from hhas 12 _ rfl (hdep ⟨12, .guard⟩ (by simp) rfl) 42 rfl)
          have h8 : A.eval (.tmp 8) = .pointer (some ⟨g8, 0, none⟩) := (hkept 8 (fun j p hp _ => nd (by kernel_rfl) j p hp))
          have hg := (hJ.block _ (lt_of_block c45)).trans c45
          refine wpOp_step rfl (fun K hK => ?_)
          rw [if_pos (by simp [Region.wanted, yielded, hG])]
          refine wp_load_row 24 _ rfl _ h8 _ _ _ _ hg maskType rfl (maskSize _) ?_
          exact hK _ _ (fin _ 43 _ (Below.refl _ _) rfl)
        | 14, ho =>
          cases Option.some.inj ho
          have hG : A.tmps[42]? = some (.bool false) := gdb (show A.tmps.getD 42 undef = .bool false from hhas 12 _ rfl (hdep ⟨12, .guard⟩ (by simp) rfl) 42 rfl)
          have h9 : A.eval (.tmp 9) = .pointer (some ⟨g9, 0, none⟩) := (hkept 9 (fun j p hp _ => nd (by kernel_rfl) j p hp))
          have hg := (hJ.block _ (lt_of_block c55)).trans c55
          refine wpOp_step rfl (fun K hK => ?_)
          rw [if_pos (by simp [Region.wanted, yielded, hG])]
          refine wp_load_row 24 _ rfl _ h9 _ _ _ _ hg maskType rfl (maskSize _) ?_
          exact hK _ _ (fin _ 44 _ (Below.refl _ _) rfl)
        | 15, ho =>
          cases Option.some.inj ho
          have hG : A.tmps[42]? = some (.bool false) := gdb (show A.tmps.getD 42 undef = .bool false from hhas 12 _ rfl (hdep ⟨12, .guard⟩ (by simp) rfl) 42 rfl)
          have h43 : A.tmps[43]?.getD undef = .agg (mv (di x y)) := (gd A 43).trans (show A.tmps.getD 43 undef = .agg (mv (di x y)) from hhas 13 _ rfl (hdep ⟨13, .data⟩ (by simp) rfl) 43 rfl)
          have h44 : A.tmps[44]?.getD undef = .agg (mv (bo x y)) := (gd A 44).trans (show A.tmps.getD 44 undef = .agg (mv (bo x y)) from hhas 14 _ rfl (hdep ⟨14, .data⟩ (by simp) rfl) 44 rfl)
          refine wpOp_step rfl (fun K hK => ?_)
          go_simp
          refine (un_any (di x y) (bo x y) _).mono ?_
          rintro e W' ⟨rfl, hb⟩
          exact hK _ _ (fin _ 45 _ hb rfl)
        | 16, ho =>
          cases Option.some.inj ho
          have hG : A.tmps[42]? = some (.bool false) := gdb (show A.tmps.getD 42 undef = .bool false from hhas 12 _ rfl (hdep ⟨12, .guard⟩ (by simp) rfl) 42 rfl)
          have h3 : A.eval (.tmp 3) = .pointer (some ⟨w.heap.size, 0, none⟩) := (hkept 3 (fun j p hp _ => nd (by kernel_rfl) j p hp))
          have hg := (hJ.block _ (lt_of_block c05)).trans c05
          refine wpOp_step rfl (fun K hK => ?_)
          rw [if_pos (by simp [Region.wanted, yielded, hG])]
          refine wp_load_row 24 _ rfl _ h3 _ _ _ _ hg maskType rfl (maskSize _) ?_
          exact hK _ _ (fin _ 46 _ (Below.refl _ _) rfl)
        | 17, ho =>
          cases Option.some.inj ho
          have hG : A.tmps[42]? = some (.bool false) := gdb (show A.tmps.getD 42 undef = .bool false from hhas 12 _ rfl (hdep ⟨12, .guard⟩ (by simp) rfl) 42 rfl)
          have h45 : A.tmps[45]?.getD undef = .agg (mv (un (di x y) (bo x y))) := (gd A 45).trans (show A.tmps.getD 45 undef = .agg (mv (un (di x y) (bo x y))) from hhas 15 _ rfl (hdep ⟨15, .data⟩ (by simp) rfl) 45 rfl)
          have h46 : A.tmps[46]?.getD undef = .agg (mv (x)) := (gd A 46).trans (show A.tmps.getD 46 undef = .agg (mv (x)) from hhas 16 _ rfl (hdep ⟨16, .data⟩ (by simp) rfl) 46 rfl)
          have he : ∀ w, (Op.equalIn 10000 24 (.agg (mv (un (di x y) (bo x y)))) (.agg (mv (x)))).run Tryd.prog w = .ok true w := fun w => by rw [eq_mask, s_x.out]
          refine wpOp_step rfl (fun K hK => ?_)
          go_simp
          exact hK _ _ (fin _ 47 _ (Below.refl _ _) rfl)
        | 18, ho =>
          cases Option.some.inj ho
          have h42 : A.tmps[42]?.getD undef = .bool false := (gd A 42).trans (show A.tmps.getD 42 undef = .bool false from hhas 12 _ rfl (hdep ⟨12, .data⟩ (by simp) rfl) 42 rfl)
          have h47 : A.tmps[47]?.getD undef = .bool false := (gd A 47).trans (show A.tmps.getD 47 undef = .bool false from hhas 17 _ rfl (hdep ⟨17, .data⟩ (by simp) rfl) 47 rfl)
          refine wpOp_step rfl (fun K hK => ?_)
          go_simp
          exact hK _ _ (fin _ 48 _ (Below.refl _ _) rfl)
        | 19, ho =>
          cases Option.some.inj ho
          have h48 : A.tmps[48]?.getD undef = .bool false := (gd A 48).trans (show A.tmps.getD 48 undef = .bool false from hhas 18 _ rfl (hdep ⟨18, .data⟩ (by simp) rfl) 48 rfl)
          refine wpOp_step rfl (fun K hK => ?_)
          go_simp
          exact hK _ _ (fin _ 49 _ (Below.refl _ _) rfl)
        | 20, ho =>
          cases Option.some.inj ho
          have hG : A.tmps[49]? = some (.bool false) := gdb (show A.tmps.getD 49 undef = .bool false from hhas 19 _ rfl (hdep ⟨19, .guard⟩ (by simp) rfl) 49 rfl)
          have h8 : A.eval (.tmp 8) = .pointer (some ⟨g8, 0, none⟩) := (hkept 8 (fun j p hp _ => nd (by kernel_rfl) j p hp))
          have hg := (hJ.block _ (lt_of_block c45)).trans c45
          refine wpOp_step rfl (fun K hK => ?_)
          rw [if_pos (by simp [Region.wanted, yielded, hG])]
          refine wp_load_row 24 _ rfl _ h8 _ _ _ _ hg maskType rfl (maskSize _) ?_
          exact hK _ _ (fin _ 50 _ (Below.refl _ _) rfl)
        | 21, ho =>
          cases Option.some.inj ho
          have hG : A.tmps[49]? = some (.bool false) := gdb (show A.tmps.getD 49 undef = .bool false from hhas 19 _ rfl (hdep ⟨19, .guard⟩ (by simp) rfl) 49 rfl)
          have h4 : A.eval (.tmp 4) = .pointer (some ⟨w.heap.size + 1, 0, none⟩) := (hkept 4 (fun j p hp _ => nd (by kernel_rfl) j p hp))
          have hg := (hJ.block _ (lt_of_block c15)).trans c15
          refine wpOp_step rfl (fun K hK => ?_)
          rw [if_pos (by simp [Region.wanted, yielded, hG])]
          refine wp_load_row 24 _ rfl _ h4 _ _ _ _ hg maskType rfl (maskSize _) ?_
          exact hK _ _ (fin _ 51 _ (Below.refl _ _) rfl)
        | 22, ho =>
          cases Option.some.inj ho
          have hG : A.tmps[49]? = some (.bool false) := gdb (show A.tmps.getD 49 undef = .bool false from hhas 19 _ rfl (hdep ⟨19, .guard⟩ (by simp) rfl) 49 rfl)
          have h50 : A.tmps[50]?.getD undef = .agg (mv (di x y)) := (gd A 50).trans (show A.tmps.getD 50 undef = .agg (mv (di x y)) from hhas 20 _ rfl (hdep ⟨20, .data⟩ (by simp) rfl) 50 rfl)
          have h51 : A.tmps[51]?.getD undef = .agg (mv (y)) := (gd A 51).trans (show A.tmps.getD 51 undef = .agg (mv (y)) from hhas 21 _ rfl (hdep ⟨21, .data⟩ (by simp) rfl) 51 rfl)
          refine wpOp_step rfl (fun K hK => ?_)
          go_simp
          refine (bo_any (di x y) y _).mono ?_
          rintro e W' ⟨rfl, hb⟩
          exact hK _ _ (fin _ 52 _ hb rfl)
        | 23, ho =>
          cases Option.some.inj ho
          have hG : A.tmps[49]? = some (.bool false) := gdb (show A.tmps.getD 49 undef = .bool false from hhas 19 _ rfl (hdep ⟨19, .guard⟩ (by simp) rfl) 49 rfl)
          refine wpOp_step rfl (fun K hK => ?_)
          go_simp
          exact hK _ _ (fin _ 53 _ (Below.refl _ _) rfl)
        | 24, ho =>
          cases Option.some.inj ho
          have hG : A.tmps[49]? = some (.bool false) := gdb (show A.tmps.getD 49 undef = .bool false from hhas 19 _ rfl (hdep ⟨19, .guard⟩ (by simp) rfl) 49 rfl)
          have h52 : A.tmps[52]?.getD undef = .agg (mv (bo (di x y) y)) := (gd A 52).trans (show A.tmps.getD 52 undef = .agg (mv (bo (di x y) y)) from hhas 22 _ rfl (hdep ⟨22, .data⟩ (by simp) rfl) 52 rfl)
          have h53 : A.tmps[53]?.getD undef = .agg (mv (fun _ => false)) := (gd A 53).trans (show A.tmps.getD 53 undef = .agg (mv (fun _ => false)) from hhas 23 _ rfl (hdep ⟨23, .data⟩ (by simp) rfl) 53 rfl)
          have he : ∀ w, (Op.equalIn 10000 24 (.agg (mv (bo (di x y) y))) (.agg (mv (fun _ => false)))).run Tryd.prog w = .ok true w := fun w => by rw [eq_mask, s_apart x y]
          refine wpOp_step rfl (fun K hK => ?_)
          go_simp
          exact hK _ _ (fin _ 54 _ (Below.refl _ _) rfl)
        | 25, ho =>
          cases Option.some.inj ho
          have h49 : A.tmps[49]?.getD undef = .bool false := (gd A 49).trans (show A.tmps.getD 49 undef = .bool false from hhas 19 _ rfl (hdep ⟨19, .data⟩ (by simp) rfl) 49 rfl)
          have h54 : A.tmps[54]?.getD undef = .bool false := (gd A 54).trans (show A.tmps.getD 54 undef = .bool false from hhas 24 _ rfl (hdep ⟨24, .data⟩ (by simp) rfl) 54 rfl)
          refine wpOp_step rfl (fun K hK => ?_)
          go_simp
          exact hK _ _ (fin _ 55 _ (Below.refl _ _) rfl)
        | k + 26, ho => simp at ho
      · intro L A w4 hL hJ hdef hsize hkept hhas
        obtain ⟨t, d⟩ := A
        have hd : d = [] := hdef
        subst hd
        clear hdef
        obtain ⟨l, rfl⟩ : ∃ l : List Value, t = l.toArray := ⟨t.toList, by simp⟩
        have hl : l.length = 104 := by
          have h : l.toArray.size = 104 := hsize
          simpa using h
        obtain ⟨⟨u0, u1, u2, u3, u4, u5, u6, u7, u8, u9, u10, u11, u12, u13, u14, u15, u16, u17, u18, u19, u20, u21, u22, u23, u24, u25, u26, u27, u28, u29, u30, u31, u32, u33, u34, u35, u36, u37, u38, u39, u40, u41, u42, u43, u44, u45, u46, u47, u48, u49, u50, u51, u52, u53, u54, u55, u56, u57, u58, u59, u60, u61, u62, u63, u64, u65, u66, u67, u68, u69, u70, u71, u72, u73, u74, u75, u76, u77, u78, u79, u80, u81, u82, u83, u84, u85, u86, u87, u88, u89, u90, u91, u92, u93, u94, u95, u96, u97, u98, u99, u100, u101, u102, u103, rfl⟩⟩ := fr104 l hl
        have e3 : u3 = .pointer (some ⟨w.heap.size, 0, none⟩) := hkept 3 (nd (by kernel_rfl))
        have e4 : u4 = .pointer (some ⟨w.heap.size + 1, 0, none⟩) := hkept 4 (nd (by kernel_rfl))
        have e5 : u5 = .pointer (some ⟨w.heap.size + 2, 0, none⟩) := hkept 5 (nd (by kernel_rfl))
        have e7 : u7 = .pointer (some ⟨g7, 0, none⟩) := hkept 7 (nd (by kernel_rfl))
        have e8 : u8 = .pointer (some ⟨g8, 0, none⟩) := hkept 8 (nd (by kernel_rfl))
        have e9 : u9 = .pointer (some ⟨g9, 0, none⟩) := hkept 9 (nd (by kernel_rfl))
        have e55 : u55 = .bool false := hhas 25 _ rfl 55 rfl
        subst e3 e4 e5 e7 e8 e9 e55
        have c06 := (hJ.block _ (lt_of_block c05)).trans c05
        have c16 := (hJ.block _ (lt_of_block c15)).trans c15
        have c26 := (hJ.block _ (lt_of_block c25)).trans c25
        have c36 := (hJ.block _ (lt_of_block c35)).trans c35
        have c46 := (hJ.block _ (lt_of_block c45)).trans c45
        have c56 := (hJ.block _ (lt_of_block c55)).trans c55
        have hbw6 := hbw5.trans (hJ.mono hbw5.size)
        clear hL hsize hkept hhas hl hJ c05 c15 c25 c35 c45 c55 hbw5 s_x
        have l1 := cnt_le (un x y) 1440
        have l2 := cnt_le (bo x y) 1440
        have l3 := cnt_le x 1440
        have l4 := cnt_le y 1440
        have q1 : IntKind.i64.wrap (((cnt (un x y) 1440 : Nat) : Int) + ((cnt (bo x y) 1440 : Nat) : Int)) = ((cnt (un x y) 1440 : Nat) : Int) + ((cnt (bo x y) 1440 : Nat) : Int) := by rw [IntKind.wrap_i64]; omega
        have q2 : IntKind.i64.wrap (((cnt x 1440 : Nat) : Int) + ((cnt y 1440 : Nat) : Int)) = ((cnt x 1440 : Nat) : Int) + ((cnt y 1440 : Nat) : Int) := by rw [IntKind.wrap_i64]; omega
        go_wp2
        refine wp_region_flow (by kernel_rfl) (by kernel_rfl) (by kernel_rfl) (by kernel_rfl) (fun _ _ W => Below w4.heap.size w4 W) (fun i v _ => sp7 x y i v) ?_ ?_ ?_
        · intro L hL
          exact (Below.refl _ _).drew
        · intro i o L A W ho hLi hdep hJ hdef hkept hhas
          clear hdef hLi
          have fin : ∀ (v : Value) (d : Nat) (W' : World), Below W.heap.size W W' → sp7 x y i v → ∃ u, A.put (some d) v = A.put (some d) u ∧ (some d ≠ none → sp7 x y i u) ∧ (∀ j x', L j = true → sp7 x y j x' → sp7 x y j x') ∧ Below w4.heap.size w4 W' := by
            intro v d W' hb hv
            exact ⟨v, rfl, fun _ => hv, fun _ _ _ h => h, hJ.trans (hb.mono hJ.size)⟩
          match i, ho with
          | 0, ho =>
            cases Option.some.inj ho
            have h7 : A.eval (.tmp 7) = .pointer (some ⟨g7, 0, none⟩) := (hkept 7 (fun j p hp _ => nd (by kernel_rfl) j p hp))
            have hg := (hJ.block _ (lt_of_block c36)).trans c36
            refine wpOp_step rfl (fun K hK => ?_)
            show Oper.wp _ _ _ _ _ _
            refine wp_load_row 24 _ rfl _ h7 _ _ _ _ hg maskType rfl (maskSize _) ?_
            exact hK _ _ (fin _ 56 _ (Below.refl _ _) rfl)
          | 1, ho =>
            cases Option.some.inj ho
            have h56 : A.tmps[56]?.getD undef = .agg (mv (un x y)) := (gd A 56).trans (show A.tmps.getD 56 undef = .agg (mv (un x y)) from hhas 0 _ rfl (hdep ⟨0, .data⟩ (by simp) rfl) 56 rfl)
            refine wpOp_step rfl (fun K hK => ?_)
            go_simp
            refine (count_any (un x y) _).mono ?_
            rintro e W' ⟨rfl, hb⟩
            exact hK _ _ (fin _ 57 _ hb rfl)
          | 2, ho =>
            cases Option.some.inj ho
            have h9 : A.eval (.tmp 9) = .pointer (some ⟨g9, 0, none⟩) := (hkept 9 (fun j p hp _ => nd (by kernel_rfl) j p hp))
            have hg := (hJ.block _ (lt_of_block c56)).trans c56
            refine wpOp_step rfl (fun K hK => ?_)
            show Oper.wp _ _ _ _ _ _
            refine wp_load_row 24 _ rfl _ h9 _ _ _ _ hg maskType rfl (maskSize _) ?_
            exact hK _ _ (fin _ 58 _ (Below.refl _ _) rfl)
          | 3, ho =>
            cases Option.some.inj ho
            have h58 : A.tmps[58]?.getD undef = .agg (mv (bo x y)) := (gd A 58).trans (show A.tmps.getD 58 undef = .agg (mv (bo x y)) from hhas 2 _ rfl (hdep ⟨2, .data⟩ (by simp) rfl) 58 rfl)
            refine wpOp_step rfl (fun K hK => ?_)
            go_simp
            refine (count_any (bo x y) _).mono ?_
            rintro e W' ⟨rfl, hb⟩
            exact hK _ _ (fin _ 59 _ hb rfl)
          | 4, ho =>
            cases Option.some.inj ho
            have h57 : A.tmps[57]?.getD undef = .int .i64 (((cnt (un x y) 1440 : Nat) : Int)) := (gd A 57).trans (show A.tmps.getD 57 undef = .int .i64 (((cnt (un x y) 1440 : Nat) : Int)) from hhas 1 _ rfl (hdep ⟨1, .data⟩ (by simp) rfl) 57 rfl)
            have h59 : A.tmps[59]?.getD undef = .int .i64 (((cnt (bo x y) 1440 : Nat) : Int)) := (gd A 59).trans (show A.tmps.getD 59 undef = .int .i64 (((cnt (bo x y) 1440 : Nat) : Int)) from hhas 3 _ rfl (hdep ⟨3, .data⟩ (by simp) rfl) 59 rfl)
            refine wpOp_step rfl (fun K hK => ?_)
            go_simp
            exact hK _ _ (fin _ 60 _ (Below.refl _ _) rfl)
          | 5, ho =>
            cases Option.some.inj ho
            have h3 : A.eval (.tmp 3) = .pointer (some ⟨w.heap.size, 0, none⟩) := (hkept 3 (fun j p hp _ => nd (by kernel_rfl) j p hp))
            have hg := (hJ.block _ (lt_of_block c06)).trans c06
            refine wpOp_step rfl (fun K hK => ?_)
            show Oper.wp _ _ _ _ _ _
            refine wp_load_row 24 _ rfl _ h3 _ _ _ _ hg maskType rfl (maskSize _) ?_
            exact hK _ _ (fin _ 61 _ (Below.refl _ _) rfl)
          | 6, ho =>
            cases Option.some.inj ho
            have h61 : A.tmps[61]?.getD undef = .agg (mv (x)) := (gd A 61).trans (show A.tmps.getD 61 undef = .agg (mv (x)) from hhas 5 _ rfl (hdep ⟨5, .data⟩ (by simp) rfl) 61 rfl)
            refine wpOp_step rfl (fun K hK => ?_)
            go_simp
            refine (count_any x _).mono ?_
            rintro e W' ⟨rfl, hb⟩
            exact hK _ _ (fin _ 62 _ hb rfl)
          | 7, ho =>
            cases Option.some.inj ho
            have h4 : A.eval (.tmp 4) = .pointer (some ⟨w.heap.size + 1, 0, none⟩) := (hkept 4 (fun j p hp _ => nd (by kernel_rfl) j p hp))
            have hg := (hJ.block _ (lt_of_block c16)).trans c16
            refine wpOp_step rfl (fun K hK => ?_)
            show Oper.wp _ _ _ _ _ _
            refine wp_load_row 24 _ rfl _ h4 _ _ _ _ hg maskType rfl (maskSize _) ?_
            exact hK _ _ (fin _ 63 _ (Below.refl _ _) rfl)
          | 8, ho =>
            cases Option.some.inj ho
            have h63 : A.tmps[63]?.getD undef = .agg (mv (y)) := (gd A 63).trans (show A.tmps.getD 63 undef = .agg (mv (y)) from hhas 7 _ rfl (hdep ⟨7, .data⟩ (by simp) rfl) 63 rfl)
            refine wpOp_step rfl (fun K hK => ?_)
            go_simp
            refine (count_any y _).mono ?_
            rintro e W' ⟨rfl, hb⟩
            exact hK _ _ (fin _ 64 _ hb rfl)
          | 9, ho =>
            cases Option.some.inj ho
            have h62 : A.tmps[62]?.getD undef = .int .i64 (((cnt x 1440 : Nat) : Int)) := (gd A 62).trans (show A.tmps.getD 62 undef = .int .i64 (((cnt x 1440 : Nat) : Int)) from hhas 6 _ rfl (hdep ⟨6, .data⟩ (by simp) rfl) 62 rfl)
            have h64 : A.tmps[64]?.getD undef = .int .i64 (((cnt y 1440 : Nat) : Int)) := (gd A 64).trans (show A.tmps.getD 64 undef = .int .i64 (((cnt y 1440 : Nat) : Int)) from hhas 8 _ rfl (hdep ⟨8, .data⟩ (by simp) rfl) 64 rfl)
            refine wpOp_step rfl (fun K hK => ?_)
            go_simp
            exact hK _ _ (fin _ 65 _ (Below.refl _ _) rfl)
          | 10, ho =>
            cases Option.some.inj ho
            have h60 : A.tmps[60]?.getD undef = .int .i64 ((((cnt (un x y) 1440 : Nat) : Int)) + (((cnt (bo x y) 1440 : Nat) : Int))) := (gd A 60).trans (show A.tmps.getD 60 undef = .int .i64 ((((cnt (un x y) 1440 : Nat) : Int)) + (((cnt (bo x y) 1440 : Nat) : Int))) from hhas 4 _ rfl (hdep ⟨4, .data⟩ (by simp) rfl) 60 rfl)
            have h65 : A.tmps[65]?.getD undef = .int .i64 ((((cnt x 1440 : Nat) : Int)) + (((cnt y 1440 : Nat) : Int))) := (gd A 65).trans (show A.tmps.getD 65 undef = .int .i64 ((((cnt x 1440 : Nat) : Int)) + (((cnt y 1440 : Nat) : Int))) from hhas 9 _ rfl (hdep ⟨9, .data⟩ (by simp) rfl) 65 rfl)
            have he : ((cnt (un x y) 1440 : Nat) : Int) + ((cnt (bo x y) 1440 : Nat) : Int) = ((cnt x 1440 : Nat) : Int) + ((cnt y 1440 : Nat) : Int) := by have := s_many x y; omega
            refine wpOp_step rfl (fun K hK => ?_)
            go_simp
            exact hK _ _ (fin _ 66 _ (Below.refl _ _) rfl)
          | k + 11, ho => simp at ho
        · intro L A w5 hL hJ hdef hsize hkept hhas
          obtain ⟨t, d⟩ := A
          have hd : d = [] := hdef
          subst hd
          clear hdef
          obtain ⟨l, rfl⟩ : ∃ l : List Value, t = l.toArray := ⟨t.toList, by simp⟩
          have hl : l.length = 104 := by
            have h : l.toArray.size = 104 := hsize
            simpa using h
          obtain ⟨⟨u0, u1, u2, u3, u4, u5, u6, u7, u8, u9, u10, u11, u12, u13, u14, u15, u16, u17, u18, u19, u20, u21, u22, u23, u24, u25, u26, u27, u28, u29, u30, u31, u32, u33, u34, u35, u36, u37, u38, u39, u40, u41, u42, u43, u44, u45, u46, u47, u48, u49, u50, u51, u52, u53, u54, u55, u56, u57, u58, u59, u60, u61, u62, u63, u64, u65, u66, u67, u68, u69, u70, u71, u72, u73, u74, u75, u76, u77, u78, u79, u80, u81, u82, u83, u84, u85, u86, u87, u88, u89, u90, u91, u92, u93, u94, u95, u96, u97, u98, u99, u100, u101, u102, u103, rfl⟩⟩ := fr104 l hl
          have e3 : u3 = .pointer (some ⟨w.heap.size, 0, none⟩) := hkept 3 (nd (by kernel_rfl))
          have e4 : u4 = .pointer (some ⟨w.heap.size + 1, 0, none⟩) := hkept 4 (nd (by kernel_rfl))
          have e5 : u5 = .pointer (some ⟨w.heap.size + 2, 0, none⟩) := hkept 5 (nd (by kernel_rfl))
          have e7 : u7 = .pointer (some ⟨g7, 0, none⟩) := hkept 7 (nd (by kernel_rfl))
          have e8 : u8 = .pointer (some ⟨g8, 0, none⟩) := hkept 8 (nd (by kernel_rfl))
          have e9 : u9 = .pointer (some ⟨g9, 0, none⟩) := hkept 9 (nd (by kernel_rfl))
          have e66 : u66 = .bool false := hhas 10 _ rfl 66 rfl
          subst e3 e4 e5 e7 e8 e9 e66
          have c07 := (hJ.block _ (lt_of_block c06)).trans c06
          have c17 := (hJ.block _ (lt_of_block c16)).trans c16
          have c27 := (hJ.block _ (lt_of_block c26)).trans c26
          have c37 := (hJ.block _ (lt_of_block c36)).trans c36
          have c47 := (hJ.block _ (lt_of_block c46)).trans c46
          have c57 := (hJ.block _ (lt_of_block c56)).trans c56
          have hbw7 := hbw6.trans (hJ.mono hbw6.size)
          clear hL hsize hkept hhas hl hJ c06 c16 c26 c36 c46 c56 hbw6 l1 l2 l3 l4 q1 q2
          go_wp2
          refine wp_region_flow (by kernel_rfl) (by kernel_rfl) (by kernel_rfl) (by kernel_rfl) (fun _ _ W => Below w5.heap.size w5 W) (fun i v _ => sp9 x y z i v) ?_ ?_ ?_
          · intro L hL
            exact (Below.refl _ _).drew
          · intro i o L A W ho hLi hdep hJ hdef hkept hhas
            clear hdef hLi
            have fin : ∀ (v : Value) (d : Nat) (W' : World), Below W.heap.size W W' → sp9 x y z i v → ∃ u, A.put (some d) v = A.put (some d) u ∧ (some d ≠ none → sp9 x y z i u) ∧ (∀ j x', L j = true → sp9 x y z j x' → sp9 x y z j x') ∧ Below w5.heap.size w5 W' := by
              intro v d W' hb hv
              exact ⟨v, rfl, fun _ => hv, fun _ _ _ h => h, hJ.trans (hb.mono hJ.size)⟩
            match i, ho with
            | 0, ho =>
              cases Option.some.inj ho
              have h3 : A.eval (.tmp 3) = .pointer (some ⟨w.heap.size, 0, none⟩) := (hkept 3 (fun j p hp _ => nd (by kernel_rfl) j p hp))
              have hg := (hJ.block _ (lt_of_block c07)).trans c07
              refine wpOp_step rfl (fun K hK => ?_)
              show Oper.wp _ _ _ _ _ _
              refine wp_load_row 24 _ rfl _ h3 _ _ _ _ hg maskType rfl (maskSize _) ?_
              exact hK _ _ (fin _ 67 _ (Below.refl _ _) rfl)
            | 1, ho =>
              cases Option.some.inj ho
              have h4 : A.eval (.tmp 4) = .pointer (some ⟨w.heap.size + 1, 0, none⟩) := (hkept 4 (fun j p hp _ => nd (by kernel_rfl) j p hp))
              have hg := (hJ.block _ (lt_of_block c17)).trans c17
              refine wpOp_step rfl (fun K hK => ?_)
              show Oper.wp _ _ _ _ _ _
              refine wp_load_row 24 _ rfl _ h4 _ _ _ _ hg maskType rfl (maskSize _) ?_
              exact hK _ _ (fin _ 68 _ (Below.refl _ _) rfl)
            | 2, ho =>
              cases Option.some.inj ho
              have h5 : A.eval (.tmp 5) = .pointer (some ⟨w.heap.size + 2, 0, none⟩) := (hkept 5 (fun j p hp _ => nd (by kernel_rfl) j p hp))
              have hg := (hJ.block _ (lt_of_block c27)).trans c27
              refine wpOp_step rfl (fun K hK => ?_)
              show Oper.wp _ _ _ _ _ _
              refine wp_load_row 24 _ rfl _ h5 _ _ _ _ hg maskType rfl (maskSize _) ?_
              exact hK _ _ (fin _ 69 _ (Below.refl _ _) rfl)
            | 3, ho =>
              cases Option.some.inj ho
              have h68 : A.tmps[68]?.getD undef = .agg (mv (y)) := (gd A 68).trans (show A.tmps.getD 68 undef = .agg (mv (y)) from hhas 1 _ rfl (hdep ⟨1, .data⟩ (by simp) rfl) 68 rfl)
              have h69 : A.tmps[69]?.getD undef = .agg (mv (z)) := (gd A 69).trans (show A.tmps.getD 69 undef = .agg (mv (z)) from hhas 2 _ rfl (hdep ⟨2, .data⟩ (by simp) rfl) 69 rfl)
              refine wpOp_step rfl (fun K hK => ?_)
              go_simp
              refine (un_any y z _).mono ?_
              rintro e W' ⟨rfl, hb⟩
              exact hK _ _ (fin _ 70 _ hb rfl)
            | 4, ho =>
              cases Option.some.inj ho
              have h67 : A.tmps[67]?.getD undef = .agg (mv (x)) := (gd A 67).trans (show A.tmps.getD 67 undef = .agg (mv (x)) from hhas 0 _ rfl (hdep ⟨0, .data⟩ (by simp) rfl) 67 rfl)
              have h70 : A.tmps[70]?.getD undef = .agg (mv (un y z)) := (gd A 70).trans (show A.tmps.getD 70 undef = .agg (mv (un y z)) from hhas 3 _ rfl (hdep ⟨3, .data⟩ (by simp) rfl) 70 rfl)
              refine wpOp_step rfl (fun K hK => ?_)
              go_simp
              refine (bo_any x (un y z) _).mono ?_
              rintro e W' ⟨rfl, hb⟩
              exact hK _ _ (fin _ 71 _ hb rfl)
            | 5, ho =>
              cases Option.some.inj ho
              have h9 : A.eval (.tmp 9) = .pointer (some ⟨g9, 0, none⟩) := (hkept 9 (fun j p hp _ => nd (by kernel_rfl) j p hp))
              have hg := (hJ.block _ (lt_of_block c57)).trans c57
              refine wpOp_step rfl (fun K hK => ?_)
              show Oper.wp _ _ _ _ _ _
              refine wp_load_row 24 _ rfl _ h9 _ _ _ _ hg maskType rfl (maskSize _) ?_
              exact hK _ _ (fin _ 72 _ (Below.refl _ _) rfl)
            | 6, ho =>
              cases Option.some.inj ho
              have h3 : A.eval (.tmp 3) = .pointer (some ⟨w.heap.size, 0, none⟩) := (hkept 3 (fun j p hp _ => nd (by kernel_rfl) j p hp))
              have hg := (hJ.block _ (lt_of_block c07)).trans c07
              refine wpOp_step rfl (fun K hK => ?_)
              show Oper.wp _ _ _ _ _ _
              refine wp_load_row 24 _ rfl _ h3 _ _ _ _ hg maskType rfl (maskSize _) ?_
              exact hK _ _ (fin _ 73 _ (Below.refl _ _) rfl)
            | 7, ho =>
              cases Option.some.inj ho
              have h5 : A.eval (.tmp 5) = .pointer (some ⟨w.heap.size + 2, 0, none⟩) := (hkept 5 (fun j p hp _ => nd (by kernel_rfl) j p hp))
              have hg := (hJ.block _ (lt_of_block c27)).trans c27
              refine wpOp_step rfl (fun K hK => ?_)
              show Oper.wp _ _ _ _ _ _
              refine wp_load_row 24 _ rfl _ h5 _ _ _ _ hg maskType rfl (maskSize _) ?_
              exact hK _ _ (fin _ 74 _ (Below.refl _ _) rfl)
            | 8, ho =>
              cases Option.some.inj ho
              have h73 : A.tmps[73]?.getD undef = .agg (mv (x)) := (gd A 73).trans (show A.tmps.getD 73 undef = .agg (mv (x)) from hhas 6 _ rfl (hdep ⟨6, .data⟩ (by simp) rfl) 73 rfl)
              have h74 : A.tmps[74]?.getD undef = .agg (mv (z)) := (gd A 74).trans (show A.tmps.getD 74 undef = .agg (mv (z)) from hhas 7 _ rfl (hdep ⟨7, .data⟩ (by simp) rfl) 74 rfl)
              refine wpOp_step rfl (fun K hK => ?_)
              go_simp
              refine (bo_any x z _).mono ?_
              rintro e W' ⟨rfl, hb⟩
              exact hK _ _ (fin _ 75 _ hb rfl)
            | 9, ho =>
              cases Option.some.inj ho
              have h72 : A.tmps[72]?.getD undef = .agg (mv (bo x y)) := (gd A 72).trans (show A.tmps.getD 72 undef = .agg (mv (bo x y)) from hhas 5 _ rfl (hdep ⟨5, .data⟩ (by simp) rfl) 72 rfl)
              have h75 : A.tmps[75]?.getD undef = .agg (mv (bo x z)) := (gd A 75).trans (show A.tmps.getD 75 undef = .agg (mv (bo x z)) from hhas 8 _ rfl (hdep ⟨8, .data⟩ (by simp) rfl) 75 rfl)
              refine wpOp_step rfl (fun K hK => ?_)
              go_simp
              refine (un_any (bo x y) (bo x z) _).mono ?_
              rintro e W' ⟨rfl, hb⟩
              exact hK _ _ (fin _ 76 _ hb rfl)
            | 10, ho =>
              cases Option.some.inj ho
              have h71 : A.tmps[71]?.getD undef = .agg (mv (bo x (un y z))) := (gd A 71).trans (show A.tmps.getD 71 undef = .agg (mv (bo x (un y z))) from hhas 4 _ rfl (hdep ⟨4, .data⟩ (by simp) rfl) 71 rfl)
              have h76 : A.tmps[76]?.getD undef = .agg (mv (un (bo x y) (bo x z))) := (gd A 76).trans (show A.tmps.getD 76 undef = .agg (mv (un (bo x y) (bo x z))) from hhas 9 _ rfl (hdep ⟨9, .data⟩ (by simp) rfl) 76 rfl)
              have he : ∀ w, (Op.equalIn 10000 24 (.agg (mv (bo x (un y z)))) (.agg (mv (un (bo x y) (bo x z))))).run Tryd.prog w = .ok true w := fun w => by rw [eq_mask, s_dist x y z]
              refine wpOp_step rfl (fun K hK => ?_)
              go_simp
              exact hK _ _ (fin _ 77 _ (Below.refl _ _) rfl)
            | 11, ho =>
              cases Option.some.inj ho
              have h77 : A.tmps[77]?.getD undef = .bool true := (gd A 77).trans (show A.tmps.getD 77 undef = .bool true from hhas 10 _ rfl (hdep ⟨10, .data⟩ (by simp) rfl) 77 rfl)
              refine wpOp_step rfl (fun K hK => ?_)
              go_simp
              exact hK _ _ (fin _ 78 _ (Below.refl _ _) rfl)
            | 12, ho =>
              cases Option.some.inj ho
              have hG : A.tmps[78]? = some (.bool true) := gdb (show A.tmps.getD 78 undef = .bool true from hhas 11 _ rfl (hdep ⟨11, .guard⟩ (by simp) rfl) 78 rfl)
              have h3 : A.eval (.tmp 3) = .pointer (some ⟨w.heap.size, 0, none⟩) := (hkept 3 (fun j p hp _ => nd (by kernel_rfl) j p hp))
              have hg := (hJ.block _ (lt_of_block c07)).trans c07
              refine wpOp_step rfl (fun K hK => ?_)
              rw [if_pos (by simp [Region.wanted, yielded, hG])]
              refine wp_load_row 24 _ rfl _ h3 _ _ _ _ hg maskType rfl (maskSize _) ?_
              exact hK _ _ (fin _ 79 _ (Below.refl _ _) rfl)
            | 13, ho =>
              cases Option.some.inj ho
              have hG : A.tmps[78]? = some (.bool true) := gdb (show A.tmps.getD 78 undef = .bool true from hhas 11 _ rfl (hdep ⟨11, .guard⟩ (by simp) rfl) 78 rfl)
              have h4 : A.eval (.tmp 4) = .pointer (some ⟨w.heap.size + 1, 0, none⟩) := (hkept 4 (fun j p hp _ => nd (by kernel_rfl) j p hp))
              have hg := (hJ.block _ (lt_of_block c17)).trans c17
              refine wpOp_step rfl (fun K hK => ?_)
              rw [if_pos (by simp [Region.wanted, yielded, hG])]
              refine wp_load_row 24 _ rfl _ h4 _ _ _ _ hg maskType rfl (maskSize _) ?_
              exact hK _ _ (fin _ 80 _ (Below.refl _ _) rfl)
            | 14, ho =>
              cases Option.some.inj ho
              have hG : A.tmps[78]? = some (.bool true) := gdb (show A.tmps.getD 78 undef = .bool true from hhas 11 _ rfl (hdep ⟨11, .guard⟩ (by simp) rfl) 78 rfl)
              have h5 : A.eval (.tmp 5) = .pointer (some ⟨w.heap.size + 2, 0, none⟩) := (hkept 5 (fun j p hp _ => nd (by kernel_rfl) j p hp))
              have hg := (hJ.block _ (lt_of_block c27)).trans c27
              refine wpOp_step rfl (fun K hK => ?_)
              rw [if_pos (by simp [Region.wanted, yielded, hG])]
              refine wp_load_row 24 _ rfl _ h5 _ _ _ _ hg maskType rfl (maskSize _) ?_
              exact hK _ _ (fin _ 81 _ (Below.refl _ _) rfl)
            | 15, ho =>
              cases Option.some.inj ho
              have hG : A.tmps[78]? = some (.bool true) := gdb (show A.tmps.getD 78 undef = .bool true from hhas 11 _ rfl (hdep ⟨11, .guard⟩ (by simp) rfl) 78 rfl)
              have h80 : A.tmps[80]?.getD undef = .agg (mv (y)) := (gd A 80).trans (show A.tmps.getD 80 undef = .agg (mv (y)) from hhas 13 _ rfl (hdep ⟨13, .data⟩ (by simp) rfl) 80 rfl)
              have h81 : A.tmps[81]?.getD undef = .agg (mv (z)) := (gd A 81).trans (show A.tmps.getD 81 undef = .agg (mv (z)) from hhas 14 _ rfl (hdep ⟨14, .data⟩ (by simp) rfl) 81 rfl)
              refine wpOp_step rfl (fun K hK => ?_)
              go_simp
              refine (un_any y z _).mono ?_
              rintro e W' ⟨rfl, hb⟩
              exact hK _ _ (fin _ 82 _ hb rfl)
            | 16, ho =>
              cases Option.some.inj ho
              have hG : A.tmps[78]? = some (.bool true) := gdb (show A.tmps.getD 78 undef = .bool true from hhas 11 _ rfl (hdep ⟨11, .guard⟩ (by simp) rfl) 78 rfl)
              have h79 : A.tmps[79]?.getD undef = .agg (mv (x)) := (gd A 79).trans (show A.tmps.getD 79 undef = .agg (mv (x)) from hhas 12 _ rfl (hdep ⟨12, .data⟩ (by simp) rfl) 79 rfl)
              have h82 : A.tmps[82]?.getD undef = .agg (mv (un y z)) := (gd A 82).trans (show A.tmps.getD 82 undef = .agg (mv (un y z)) from hhas 15 _ rfl (hdep ⟨15, .data⟩ (by simp) rfl) 82 rfl)
              refine wpOp_step rfl (fun K hK => ?_)
              go_simp
              refine (di_any x (un y z) _).mono ?_
              rintro e W' ⟨rfl, hb⟩
              exact hK _ _ (fin _ 83 _ hb rfl)
            | 17, ho =>
              cases Option.some.inj ho
              have hG : A.tmps[78]? = some (.bool true) := gdb (show A.tmps.getD 78 undef = .bool true from hhas 11 _ rfl (hdep ⟨11, .guard⟩ (by simp) rfl) 78 rfl)
              have h8 : A.eval (.tmp 8) = .pointer (some ⟨g8, 0, none⟩) := (hkept 8 (fun j p hp _ => nd (by kernel_rfl) j p hp))
              have hg := (hJ.block _ (lt_of_block c47)).trans c47
              refine wpOp_step rfl (fun K hK => ?_)
              rw [if_pos (by simp [Region.wanted, yielded, hG])]
              refine wp_load_row 24 _ rfl _ h8 _ _ _ _ hg maskType rfl (maskSize _) ?_
              exact hK _ _ (fin _ 84 _ (Below.refl _ _) rfl)
            | 18, ho =>
              cases Option.some.inj ho
              have hG : A.tmps[78]? = some (.bool true) := gdb (show A.tmps.getD 78 undef = .bool true from hhas 11 _ rfl (hdep ⟨11, .guard⟩ (by simp) rfl) 78 rfl)
              have h5 : A.eval (.tmp 5) = .pointer (some ⟨w.heap.size + 2, 0, none⟩) := (hkept 5 (fun j p hp _ => nd (by kernel_rfl) j p hp))
              have hg := (hJ.block _ (lt_of_block c27)).trans c27
              refine wpOp_step rfl (fun K hK => ?_)
              rw [if_pos (by simp [Region.wanted, yielded, hG])]
              refine wp_load_row 24 _ rfl _ h5 _ _ _ _ hg maskType rfl (maskSize _) ?_
              exact hK _ _ (fin _ 85 _ (Below.refl _ _) rfl)
            | 19, ho =>
              cases Option.some.inj ho
              have hG : A.tmps[78]? = some (.bool true) := gdb (show A.tmps.getD 78 undef = .bool true from hhas 11 _ rfl (hdep ⟨11, .guard⟩ (by simp) rfl) 78 rfl)
              have h84 : A.tmps[84]?.getD undef = .agg (mv (di x y)) := (gd A 84).trans (show A.tmps.getD 84 undef = .agg (mv (di x y)) from hhas 17 _ rfl (hdep ⟨17, .data⟩ (by simp) rfl) 84 rfl)
              have h85 : A.tmps[85]?.getD undef = .agg (mv (z)) := (gd A 85).trans (show A.tmps.getD 85 undef = .agg (mv (z)) from hhas 18 _ rfl (hdep ⟨18, .data⟩ (by simp) rfl) 85 rfl)
              refine wpOp_step rfl (fun K hK => ?_)
              go_simp
              refine (di_any (di x y) z _).mono ?_
              rintro e W' ⟨rfl, hb⟩
              exact hK _ _ (fin _ 86 _ hb rfl)
            | 20, ho =>
              cases Option.some.inj ho
              have hG : A.tmps[78]? = some (.bool true) := gdb (show A.tmps.getD 78 undef = .bool true from hhas 11 _ rfl (hdep ⟨11, .guard⟩ (by simp) rfl) 78 rfl)
              have h83 : A.tmps[83]?.getD undef = .agg (mv (di x (un y z))) := (gd A 83).trans (show A.tmps.getD 83 undef = .agg (mv (di x (un y z))) from hhas 16 _ rfl (hdep ⟨16, .data⟩ (by simp) rfl) 83 rfl)
              have h86 : A.tmps[86]?.getD undef = .agg (mv (di (di x y) z)) := (gd A 86).trans (show A.tmps.getD 86 undef = .agg (mv (di (di x y) z)) from hhas 19 _ rfl (hdep ⟨19, .data⟩ (by simp) rfl) 86 rfl)
              have he : ∀ w, (Op.equalIn 10000 24 (.agg (mv (di x (un y z)))) (.agg (mv (di (di x y) z)))).run Tryd.prog w = .ok true w := fun w => by rw [eq_mask, s_less x y z]
              refine wpOp_step rfl (fun K hK => ?_)
              go_simp
              exact hK _ _ (fin _ 87 _ (Below.refl _ _) rfl)
            | 21, ho =>
              cases Option.some.inj ho
              have h78 : A.tmps[78]?.getD undef = .bool true := (gd A 78).trans (show A.tmps.getD 78 undef = .bool true from hhas 11 _ rfl (hdep ⟨11, .data⟩ (by simp) rfl) 78 rfl)
              have h87 : A.tmps[87]?.getD undef = .bool true := (gd A 87).trans (show A.tmps.getD 87 undef = .bool true from hhas 20 _ rfl (hdep ⟨20, .data⟩ (by simp) rfl) 87 rfl)
              refine wpOp_step rfl (fun K hK => ?_)
              go_simp
              exact hK _ _ (fin _ 88 _ (Below.refl _ _) rfl)
            | 22, ho =>
              cases Option.some.inj ho
              have h88 : A.tmps[88]?.getD undef = .bool true := (gd A 88).trans (show A.tmps.getD 88 undef = .bool true from hhas 21 _ rfl (hdep ⟨21, .data⟩ (by simp) rfl) 88 rfl)
              refine wpOp_step rfl (fun K hK => ?_)
              go_simp
              exact hK _ _ (fin _ 89 _ (Below.refl _ _) rfl)
            | 23, ho =>
              cases Option.some.inj ho
              have hG : A.tmps[89]? = some (.bool true) := gdb (show A.tmps.getD 89 undef = .bool true from hhas 22 _ rfl (hdep ⟨22, .guard⟩ (by simp) rfl) 89 rfl)
              refine wpOp_step rfl (fun K hK => ?_)
              go_simp
              refine (day_any _).mono ?_
              rintro e W' ⟨rfl, hb⟩
              exact hK _ _ (fin _ 90 _ hb rfl)
            | 24, ho =>
              cases Option.some.inj ho
              have hG : A.tmps[89]? = some (.bool true) := gdb (show A.tmps.getD 89 undef = .bool true from hhas 22 _ rfl (hdep ⟨22, .guard⟩ (by simp) rfl) 89 rfl)
              have h3 : A.eval (.tmp 3) = .pointer (some ⟨w.heap.size, 0, none⟩) := (hkept 3 (fun j p hp _ => nd (by kernel_rfl) j p hp))
              have hg := (hJ.block _ (lt_of_block c07)).trans c07
              refine wpOp_step rfl (fun K hK => ?_)
              rw [if_pos (by simp [Region.wanted, yielded, hG])]
              refine wp_load_row 24 _ rfl _ h3 _ _ _ _ hg maskType rfl (maskSize _) ?_
              exact hK _ _ (fin _ 91 _ (Below.refl _ _) rfl)
            | 25, ho =>
              cases Option.some.inj ho
              have hG : A.tmps[89]? = some (.bool true) := gdb (show A.tmps.getD 89 undef = .bool true from hhas 22 _ rfl (hdep ⟨22, .guard⟩ (by simp) rfl) 89 rfl)
              have h4 : A.eval (.tmp 4) = .pointer (some ⟨w.heap.size + 1, 0, none⟩) := (hkept 4 (fun j p hp _ => nd (by kernel_rfl) j p hp))
              have hg := (hJ.block _ (lt_of_block c17)).trans c17
              refine wpOp_step rfl (fun K hK => ?_)
              rw [if_pos (by simp [Region.wanted, yielded, hG])]
              refine wp_load_row 24 _ rfl _ h4 _ _ _ _ hg maskType rfl (maskSize _) ?_
              exact hK _ _ (fin _ 92 _ (Below.refl _ _) rfl)
            | 26, ho =>
              cases Option.some.inj ho
              have hG : A.tmps[89]? = some (.bool true) := gdb (show A.tmps.getD 89 undef = .bool true from hhas 22 _ rfl (hdep ⟨22, .guard⟩ (by simp) rfl) 89 rfl)
              have h91 : A.tmps[91]?.getD undef = .agg (mv (x)) := (gd A 91).trans (show A.tmps.getD 91 undef = .agg (mv (x)) from hhas 24 _ rfl (hdep ⟨24, .data⟩ (by simp) rfl) 91 rfl)
              have h92 : A.tmps[92]?.getD undef = .agg (mv (y)) := (gd A 92).trans (show A.tmps.getD 92 undef = .agg (mv (y)) from hhas 25 _ rfl (hdep ⟨25, .data⟩ (by simp) rfl) 92 rfl)
              refine wpOp_step rfl (fun K hK => ?_)
              go_simp
              refine (bo_any x y _).mono ?_
              rintro e W' ⟨rfl, hb⟩
              exact hK _ _ (fin _ 93 _ hb rfl)
            | 27, ho =>
              cases Option.some.inj ho
              have hG : A.tmps[89]? = some (.bool true) := gdb (show A.tmps.getD 89 undef = .bool true from hhas 22 _ rfl (hdep ⟨22, .guard⟩ (by simp) rfl) 89 rfl)
              have h90 : A.tmps[90]?.getD undef = .agg (mv (day)) := (gd A 90).trans (show A.tmps.getD 90 undef = .agg (mv (day)) from hhas 23 _ rfl (hdep ⟨23, .data⟩ (by simp) rfl) 90 rfl)
              have h93 : A.tmps[93]?.getD undef = .agg (mv (bo x y)) := (gd A 93).trans (show A.tmps.getD 93 undef = .agg (mv (bo x y)) from hhas 26 _ rfl (hdep ⟨26, .data⟩ (by simp) rfl) 93 rfl)
              refine wpOp_step rfl (fun K hK => ?_)
              go_simp
              refine (di_any day (bo x y) _).mono ?_
              rintro e W' ⟨rfl, hb⟩
              exact hK _ _ (fin _ 94 _ hb rfl)
            | 28, ho =>
              cases Option.some.inj ho
              have hG : A.tmps[89]? = some (.bool true) := gdb (show A.tmps.getD 89 undef = .bool true from hhas 22 _ rfl (hdep ⟨22, .guard⟩ (by simp) rfl) 89 rfl)
              refine wpOp_step rfl (fun K hK => ?_)
              go_simp
              refine (day_any _).mono ?_
              rintro e W' ⟨rfl, hb⟩
              exact hK _ _ (fin _ 95 _ hb rfl)
            | 29, ho =>
              cases Option.some.inj ho
              have hG : A.tmps[89]? = some (.bool true) := gdb (show A.tmps.getD 89 undef = .bool true from hhas 22 _ rfl (hdep ⟨22, .guard⟩ (by simp) rfl) 89 rfl)
              have h3 : A.eval (.tmp 3) = .pointer (some ⟨w.heap.size, 0, none⟩) := (hkept 3 (fun j p hp _ => nd (by kernel_rfl) j p hp))
              have hg := (hJ.block _ (lt_of_block c07)).trans c07
              refine wpOp_step rfl (fun K hK => ?_)
              rw [if_pos (by simp [Region.wanted, yielded, hG])]
              refine wp_load_row 24 _ rfl _ h3 _ _ _ _ hg maskType rfl (maskSize _) ?_
              exact hK _ _ (fin _ 96 _ (Below.refl _ _) rfl)
            | 30, ho =>
              cases Option.some.inj ho
              have hG : A.tmps[89]? = some (.bool true) := gdb (show A.tmps.getD 89 undef = .bool true from hhas 22 _ rfl (hdep ⟨22, .guard⟩ (by simp) rfl) 89 rfl)
              have h95 : A.tmps[95]?.getD undef = .agg (mv (day)) := (gd A 95).trans (show A.tmps.getD 95 undef = .agg (mv (day)) from hhas 28 _ rfl (hdep ⟨28, .data⟩ (by simp) rfl) 95 rfl)
              have h96 : A.tmps[96]?.getD undef = .agg (mv (x)) := (gd A 96).trans (show A.tmps.getD 96 undef = .agg (mv (x)) from hhas 29 _ rfl (hdep ⟨29, .data⟩ (by simp) rfl) 96 rfl)
              refine wpOp_step rfl (fun K hK => ?_)
              go_simp
              refine (di_any day x _).mono ?_
              rintro e W' ⟨rfl, hb⟩
              exact hK _ _ (fin _ 97 _ hb rfl)
            | 31, ho =>
              cases Option.some.inj ho
              have hG : A.tmps[89]? = some (.bool true) := gdb (show A.tmps.getD 89 undef = .bool true from hhas 22 _ rfl (hdep ⟨22, .guard⟩ (by simp) rfl) 89 rfl)
              refine wpOp_step rfl (fun K hK => ?_)
              go_simp
              refine (day_any _).mono ?_
              rintro e W' ⟨rfl, hb⟩
              exact hK _ _ (fin _ 98 _ hb rfl)
            | 32, ho =>
              cases Option.some.inj ho
              have hG : A.tmps[89]? = some (.bool true) := gdb (show A.tmps.getD 89 undef = .bool true from hhas 22 _ rfl (hdep ⟨22, .guard⟩ (by simp) rfl) 89 rfl)
              have h4 : A.eval (.tmp 4) = .pointer (some ⟨w.heap.size + 1, 0, none⟩) := (hkept 4 (fun j p hp _ => nd (by kernel_rfl) j p hp))
              have hg := (hJ.block _ (lt_of_block c17)).trans c17
              refine wpOp_step rfl (fun K hK => ?_)
              rw [if_pos (by simp [Region.wanted, yielded, hG])]
              refine wp_load_row 24 _ rfl _ h4 _ _ _ _ hg maskType rfl (maskSize _) ?_
              exact hK _ _ (fin _ 99 _ (Below.refl _ _) rfl)
            | 33, ho =>
              cases Option.some.inj ho
              have hG : A.tmps[89]? = some (.bool true) := gdb (show A.tmps.getD 89 undef = .bool true from hhas 22 _ rfl (hdep ⟨22, .guard⟩ (by simp) rfl) 89 rfl)
              have h98 : A.tmps[98]?.getD undef = .agg (mv (day)) := (gd A 98).trans (show A.tmps.getD 98 undef = .agg (mv (day)) from hhas 31 _ rfl (hdep ⟨31, .data⟩ (by simp) rfl) 98 rfl)
              have h99 : A.tmps[99]?.getD undef = .agg (mv (y)) := (gd A 99).trans (show A.tmps.getD 99 undef = .agg (mv (y)) from hhas 32 _ rfl (hdep ⟨32, .data⟩ (by simp) rfl) 99 rfl)
              refine wpOp_step rfl (fun K hK => ?_)
              go_simp
              refine (di_any day y _).mono ?_
              rintro e W' ⟨rfl, hb⟩
              exact hK _ _ (fin _ 100 _ hb rfl)
            | 34, ho =>
              cases Option.some.inj ho
              have hG : A.tmps[89]? = some (.bool true) := gdb (show A.tmps.getD 89 undef = .bool true from hhas 22 _ rfl (hdep ⟨22, .guard⟩ (by simp) rfl) 89 rfl)
              have h97 : A.tmps[97]?.getD undef = .agg (mv (di day x)) := (gd A 97).trans (show A.tmps.getD 97 undef = .agg (mv (di day x)) from hhas 30 _ rfl (hdep ⟨30, .data⟩ (by simp) rfl) 97 rfl)
              have h100 : A.tmps[100]?.getD undef = .agg (mv (di day y)) := (gd A 100).trans (show A.tmps.getD 100 undef = .agg (mv (di day y)) from hhas 33 _ rfl (hdep ⟨33, .data⟩ (by simp) rfl) 100 rfl)
              refine wpOp_step rfl (fun K hK => ?_)
              go_simp
              refine (un_any (di day x) (di day y) _).mono ?_
              rintro e W' ⟨rfl, hb⟩
              exact hK _ _ (fin _ 101 _ hb rfl)
            | 35, ho =>
              cases Option.some.inj ho
              have hG : A.tmps[89]? = some (.bool true) := gdb (show A.tmps.getD 89 undef = .bool true from hhas 22 _ rfl (hdep ⟨22, .guard⟩ (by simp) rfl) 89 rfl)
              have h94 : A.tmps[94]?.getD undef = .agg (mv (di day (bo x y))) := (gd A 94).trans (show A.tmps.getD 94 undef = .agg (mv (di day (bo x y))) from hhas 27 _ rfl (hdep ⟨27, .data⟩ (by simp) rfl) 94 rfl)
              have h101 : A.tmps[101]?.getD undef = .agg (mv (un (di day x) (di day y))) := (gd A 101).trans (show A.tmps.getD 101 undef = .agg (mv (un (di day x) (di day y))) from hhas 34 _ rfl (hdep ⟨34, .data⟩ (by simp) rfl) 101 rfl)
              have he : ∀ w, (Op.equalIn 10000 24 (.agg (mv (di day (bo x y)))) (.agg (mv (un (di day x) (di day y))))).run Tryd.prog w = .ok true w := fun w => by rw [eq_mask, s_not x y]
              refine wpOp_step rfl (fun K hK => ?_)
              go_simp
              exact hK _ _ (fin _ 102 _ (Below.refl _ _) rfl)
            | 36, ho =>
              cases Option.some.inj ho
              have h89 : A.tmps[89]?.getD undef = .bool true := (gd A 89).trans (show A.tmps.getD 89 undef = .bool true from hhas 22 _ rfl (hdep ⟨22, .data⟩ (by simp) rfl) 89 rfl)
              have h102 : A.tmps[102]?.getD undef = .bool true := (gd A 102).trans (show A.tmps.getD 102 undef = .bool true from hhas 35 _ rfl (hdep ⟨35, .data⟩ (by simp) rfl) 102 rfl)
              refine wpOp_step rfl (fun K hK => ?_)
              go_simp
              exact hK _ _ (fin _ 103 _ (Below.refl _ _) rfl)
            | 37, ho =>
              cases Option.some.inj ho
              have h103 : A.tmps[103]?.getD undef = .bool true := (gd A 103).trans (show A.tmps.getD 103 undef = .bool true from hhas 36 _ rfl (hdep ⟨36, .data⟩ (by simp) rfl) 103 rfl)
              refine wpOp_step rfl (fun K hK => ?_)
              go_simp
              exact hK _ _ (fin _ 6 _ (Below.refl _ _) rfl)
            | k + 38, ho => simp at ho
          · intro L A W9 hL hJ hdef hsize hkept hhas
            have h6 : A.tmps[6]?.getD undef = .bool true := (gd A 6).trans (show A.tmps.getD 6 undef = .bool true from hhas 37 _ rfl 6 rfl)
            have hbw9 := hbw7.trans (hJ.mono hbw7.size)
            clear hL hkept hhas hsize hz
            go_wp2
            refine bodyPost_ret (v := .bool true) ?_ hdef ⟨rfl, hbw9⟩
            simp [results, Tryd.results3, h6]
end Go.Proofs.YtemdkpjdbciemabDoor
