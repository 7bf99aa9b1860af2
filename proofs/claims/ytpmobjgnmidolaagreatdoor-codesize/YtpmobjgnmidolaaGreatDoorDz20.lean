/- What an expression means, as the program finds it out: kind by kind. Written by genmnh.py. -/
import Derived.Test.YtpmobjgnmidolaaGreatDoorDz19
import Derived.Test.YtpmobjgnmidolaaGreatDoorDz05
import Derived.Test.YtpmobjgnmidolaaGreatDoorDz03
import Derived.Test.YtpmobjgnmidolaaGreatDoorDz04
namespace Go.Proofs.YtpmobjgnmidolaaGreatDoor
open Go.RowKit Lx Msk
variable {D : MD} {K0 : Nat → Bool} {W : World} {a b : Int} {nm : List UInt8} {pe : Option Addr} {ks : List Ex} {ce : Nat}
def KidC (D : MD) (kd a b : Int) (nm : List UInt8) (pe : Option Addr) (ks : List Ex) (ce : Nat) (j : Int) (f : Nat → Bool) : Prop := ∀ (bd be : Nat) (K : Nat → Bool) (W : World), MI D K W → W.heap[bd]? = some (.cells #[.pointer (some ⟨D.g, 0, none⟩)] 133 (0, 0)) →
  W.heap[be]? = some (.cells #[.int .i64 kd, .int .i64 a, .int .i64 b, .string ⟨nm.toArray⟩, .slice pe ks.length ce] 36 (0, 0)) → bd ≠ D.gk → bd ≠ D.gm → be ≠ D.gk → be ≠ D.gm →
  Calls Tryz.prog 103 #[.int .i64 j, .pointer (some ⟨bd, 0, none⟩), .pointer (some ⟨be, 0, none⟩)] W fun r W' => r = .returned (.agg (mv f)) ∧ MQ D (Les K) W W'
theorem MQ.kid {W3 W4 : World} {kd j : Int} {f : Nat → Bool} {bd be : Nat} (h0 : MI D K0 W) (hq : MQ D (Les K0) W3 W4) (hc : KidC D kd a b nm pe ks ce j f) (hd : W3.heap[bd]? = some (.cells #[.pointer (some ⟨D.g, 0, none⟩)] 133 (0, 0)))
    (he : W3.heap[be]? = some (.cells #[.int .i64 kd, .int .i64 a, .int .i64 b, .string ⟨nm.toArray⟩, .slice pe ks.length ce] 36 (0, 0))) (h1 : W.heap.size ≤ bd) (h2 : W.heap.size ≤ be) :
    Calls Tryz.prog 103 #[.int .i64 j, .pointer (some ⟨bd, 0, none⟩), .pointer (some ⟨be, 0, none⟩)] W4 fun r W' => r = .returned (.agg (mv f)) ∧ MQ D (Les K0) W3 W' := by
  have hd4 := hq.own h0 h1 hd
  have he4 := hq.own h0 h2 he
  have l1 := h0.lts D.gk (by simp)
  have l2 := h0.lts D.gm (by simp)
  obtain ⟨⟨K1, hM1, hle1⟩, hkp1⟩ := hq
  refine (hc bd be K1 W4 hM1 hd4 he4 (by omega) (by omega) (by omega) (by omega)).mono ?_
  rintro r W' ⟨rfl, hb⟩
  exact ⟨rfl, MQ.on hle1 hkp1 hb⟩
theorem row_at6 {W : World} {g : Nat} {x y : Int} {t : TypeId} (hb : W.heap[g]? = some (.cells #[.int .i64 x, .int .i64 y] t (0, 0))) : Row W (.slice (some ⟨g, 0, none⟩) 1 1) [(x, y)] := by
  refine .inr ⟨_, 0, 1, rfl, by simp, fun j hj => ?_⟩
  have : j = 0 := by simpa using hj
  subst this
  exact ⟨by rw [cell_of_row _ _ _ _ _ _ hb]; rfl, by rw [cell_of_row _ _ _ _ _ _ hb]; rfl⟩
set_option maxRecDepth 100000 in
set_option maxHeartbeats 1000000 in
theorem expr_6 {f0 f1 : Nat → Bool} (h : MI D K0 W) (c0 : KidC D 6 a b nm pe ks ce 0 f0) (c1 : KidC D 6 a b nm pe ks ce 1 f1) : Calls Tryz.prog 88 #[.pointer (some ⟨D.g, 0, none⟩), .agg #[.int .i64 6, .int .i64 a, .int .i64 b, .string ⟨nm.toArray⟩, .slice pe ks.length ce]] W fun r W' => r = .returned (.agg (mv (fun i => (f0 i || f1 i) && decide (i < 1440)))) ∧ MQ D (Les K0) W W' := by
  have hz := mv_lit
  have b3 : Below W.heap.size W (((W.alloc (.cells #[.pointer (some ⟨D.g, 0, none⟩)] 133)).alloc (.cells #[.int .i64 6, .int .i64 a, .int .i64 b, .string ⟨nm.toArray⟩, .slice pe ks.length ce] 36)).alloc (.cells (mv fun _ => false) 41)) := (((Below.refl _ _).alloc (Nat.le_refl _) _).alloc (by simp) _).alloc (by simp only [size_alloc]; omega) _
  have nD : (((W.alloc (.cells #[.pointer (some ⟨D.g, 0, none⟩)] 133)).alloc (.cells #[.int .i64 6, .int .i64 a, .int .i64 b, .string ⟨nm.toArray⟩, .slice pe ks.length ce] 36)).alloc (.cells (mv fun _ => false) 41)).heap[W.heap.size]? = some (.cells #[.pointer (some ⟨D.g, 0, none⟩)] 133 (0, 0)) := by (repeat (first | refine blk_old _ _ _ (by simp only [size_alloc]; omega) ?_ | exact blk_new _ _ _ (by first | rfl | simp only [size_alloc])))
  have nE : (((W.alloc (.cells #[.pointer (some ⟨D.g, 0, none⟩)] 133)).alloc (.cells #[.int .i64 6, .int .i64 a, .int .i64 b, .string ⟨nm.toArray⟩, .slice pe ks.length ce] 36)).alloc (.cells (mv fun _ => false) 41)).heap[W.heap.size + 1]? = some (.cells #[.int .i64 6, .int .i64 a, .int .i64 b, .string ⟨nm.toArray⟩, .slice pe ks.length ce] 36 (0, 0)) := by (repeat (first | refine blk_old _ _ _ (by simp only [size_alloc]; omega) ?_ | exact blk_new _ _ _ (by first | rfl | simp only [size_alloc])))
  have nR : (((W.alloc (.cells #[.pointer (some ⟨D.g, 0, none⟩)] 133)).alloc (.cells #[.int .i64 6, .int .i64 a, .int .i64 b, .string ⟨nm.toArray⟩, .slice pe ks.length ce] 36)).alloc (.cells (mv fun _ => false) 41)).heap[W.heap.size + 1 + 1]? = some (.cells (mv fun _ => false) 41 (0, 0)) := by (repeat (first | refine blk_old _ _ _ (by simp only [size_alloc]; omega) ?_ | exact blk_new _ _ _ (by first | rfl | simp only [size_alloc])))
  generalize hwA : (((W.alloc (.cells #[.pointer (some ⟨D.g, 0, none⟩)] 133)).alloc (.cells #[.int .i64 6, .int .i64 a, .int .i64 b, .string ⟨nm.toArray⟩, .slice pe ks.length ce] 36)).alloc (.cells (mv fun _ => false) 41)) = W3 at *
  have hA := h.later b3
  have q3 : MQ D (Les K0) W3 W3 := MQ.start hA (Below.refl _ _)
  have z0 := (cell_of_row _ _ 0 _ _ _ nE).trans rfl
  clear hA
  go_enter Tryz.func88, Tryz.ntmps88
  go_wp2_with fail
  refine (MQ.kid h q3 c0 nD nE (by omega) (by omega)).mono ?_
  rintro r W4 ⟨rfl, q4⟩
  clear q3 z0 hwA
  go_wp2_with fail
  refine (MQ.kid h q4 c1 nD nE (by omega) (by omega)).mono ?_
  rintro r W5 ⟨rfl, q5⟩
  clear q4
  go_wp2_with fail
  refine (union_any f0 f1 W5).mono ?_
  rintro r W6 ⟨rfl, hb6⟩
  have q9 := q5.low hb6
  have n9 := q9.own h (show W.heap.size ≤ W.heap.size + 1 + 1 by omega) nR
  have HQ := hid5 (MQ.ret h b3 (show W.heap.size ≤ W.heap.size + 1 + 1 by omega) q9 (mv (fun i => (f0 i || f1 i) && decide (i < 1440))))
  clear q9 q5 hb6 nD nE nR
  go_wp2_with (refine wpList_store_row rfl 41 _ _ rfl _ _ rfl rfl _ _ n9 (maskSize _) (by simp [mv_size]) (mv_all _) ?_)
  refine bodyPost_ret (v := .agg (mv (fun i => (f0 i || f1 i) && decide (i < 1440)))) ?_ rfl ⟨rfl, HQ.out⟩
  exact results_cell_row rfl _ _ (W.heap.size + 1 + 1) _ _ _ _ rfl (setRow_heap _ _ _ _ _ _ n9) maskType rfl (maskSize _)
set_option maxRecDepth 100000 in
set_option maxHeartbeats 1000000 in
theorem expr_7 {f0 f1 : Nat → Bool} (h : MI D K0 W) (c0 : KidC D 7 a b nm pe ks ce 0 f0) (c1 : KidC D 7 a b nm pe ks ce 1 f1) : Calls Tryz.prog 88 #[.pointer (some ⟨D.g, 0, none⟩), .agg #[.int .i64 7, .int .i64 a, .int .i64 b, .string ⟨nm.toArray⟩, .slice pe ks.length ce]] W fun r W' => r = .returned (.agg (mv (fun i => (f0 i && !f1 i) && decide (i < 1440)))) ∧ MQ D (Les K0) W W' := by
  have hz := mv_lit
  have b3 : Below W.heap.size W (((W.alloc (.cells #[.pointer (some ⟨D.g, 0, none⟩)] 133)).alloc (.cells #[.int .i64 7, .int .i64 a, .int .i64 b, .string ⟨nm.toArray⟩, .slice pe ks.length ce] 36)).alloc (.cells (mv fun _ => false) 41)) := (((Below.refl _ _).alloc (Nat.le_refl _) _).alloc (by simp) _).alloc (by simp only [size_alloc]; omega) _
  have nD : (((W.alloc (.cells #[.pointer (some ⟨D.g, 0, none⟩)] 133)).alloc (.cells #[.int .i64 7, .int .i64 a, .int .i64 b, .string ⟨nm.toArray⟩, .slice pe ks.length ce] 36)).alloc (.cells (mv fun _ => false) 41)).heap[W.heap.size]? = some (.cells #[.pointer (some ⟨D.g, 0, none⟩)] 133 (0, 0)) := by (repeat (first | refine blk_old _ _ _ (by simp only [size_alloc]; omega) ?_ | exact blk_new _ _ _ (by first | rfl | simp only [size_alloc])))
  have nE : (((W.alloc (.cells #[.pointer (some ⟨D.g, 0, none⟩)] 133)).alloc (.cells #[.int .i64 7, .int .i64 a, .int .i64 b, .string ⟨nm.toArray⟩, .slice pe ks.length ce] 36)).alloc (.cells (mv fun _ => false) 41)).heap[W.heap.size + 1]? = some (.cells #[.int .i64 7, .int .i64 a, .int .i64 b, .string ⟨nm.toArray⟩, .slice pe ks.length ce] 36 (0, 0)) := by (repeat (first | refine blk_old _ _ _ (by simp only [size_alloc]; omega) ?_ | exact blk_new _ _ _ (by first | rfl | simp only [size_alloc])))
  have nR : (((W.alloc (.cells #[.pointer (some ⟨D.g, 0, none⟩)] 133)).alloc (.cells #[.int .i64 7, .int .i64 a, .int .i64 b, .string ⟨nm.toArray⟩, .slice pe ks.length ce] 36)).alloc (.cells (mv fun _ => false) 41)).heap[W.heap.size + 1 + 1]? = some (.cells (mv fun _ => false) 41 (0, 0)) := by (repeat (first | refine blk_old _ _ _ (by simp only [size_alloc]; omega) ?_ | exact blk_new _ _ _ (by first | rfl | simp only [size_alloc])))
  generalize hwA : (((W.alloc (.cells #[.pointer (some ⟨D.g, 0, none⟩)] 133)).alloc (.cells #[.int .i64 7, .int .i64 a, .int .i64 b, .string ⟨nm.toArray⟩, .slice pe ks.length ce] 36)).alloc (.cells (mv fun _ => false) 41)) = W3 at *
  have hA := h.later b3
  have q3 : MQ D (Les K0) W3 W3 := MQ.start hA (Below.refl _ _)
  have z0 := (cell_of_row _ _ 0 _ _ _ nE).trans rfl
  clear hA
  go_enter Tryz.func88, Tryz.ntmps88
  go_wp2_with fail
  refine (MQ.kid h q3 c0 nD nE (by omega) (by omega)).mono ?_
  rintro r W4 ⟨rfl, q4⟩
  clear q3 z0 hwA
  go_wp2_with fail
  refine (MQ.kid h q4 c1 nD nE (by omega) (by omega)).mono ?_
  rintro r W5 ⟨rfl, q5⟩
  clear q4
  go_wp2_with fail
  refine (diff_any f0 f1 W5).mono ?_
  rintro r W6 ⟨rfl, hb6⟩
  have q9 := q5.low hb6
  have n9 := q9.own h (show W.heap.size ≤ W.heap.size + 1 + 1 by omega) nR
  have HQ := hid5 (MQ.ret h b3 (show W.heap.size ≤ W.heap.size + 1 + 1 by omega) q9 (mv (fun i => (f0 i && !f1 i) && decide (i < 1440))))
  clear q9 q5 hb6 nD nE nR
  go_wp2_with (refine wpList_store_row rfl 41 _ _ rfl _ _ rfl rfl _ _ n9 (maskSize _) (by simp [mv_size]) (mv_all _) ?_)
  refine bodyPost_ret (v := .agg (mv (fun i => (f0 i && !f1 i) && decide (i < 1440)))) ?_ rfl ⟨rfl, HQ.out⟩
  exact results_cell_row rfl _ _ (W.heap.size + 1 + 1) _ _ _ _ rfl (setRow_heap _ _ _ _ _ _ n9) maskType rfl (maskSize _)
set_option maxRecDepth 100000 in
set_option maxHeartbeats 1000000 in
theorem expr_8 {f0 f1 : Nat → Bool} (h : MI D K0 W) (c0 : KidC D 8 a b nm pe ks ce 0 f0) (c1 : KidC D 8 a b nm pe ks ce 1 f1) : Calls Tryz.prog 88 #[.pointer (some ⟨D.g, 0, none⟩), .agg #[.int .i64 8, .int .i64 a, .int .i64 b, .string ⟨nm.toArray⟩, .slice pe ks.length ce]] W fun r W' => r = .returned (.agg (mv (fun i => (f0 i && f1 i) && decide (i < 1440)))) ∧ MQ D (Les K0) W W' := by
  have hz := mv_lit
  have b3 : Below W.heap.size W (((W.alloc (.cells #[.pointer (some ⟨D.g, 0, none⟩)] 133)).alloc (.cells #[.int .i64 8, .int .i64 a, .int .i64 b, .string ⟨nm.toArray⟩, .slice pe ks.length ce] 36)).alloc (.cells (mv fun _ => false) 41)) := (((Below.refl _ _).alloc (Nat.le_refl _) _).alloc (by simp) _).alloc (by simp only [size_alloc]; omega) _
  have nD : (((W.alloc (.cells #[.pointer (some ⟨D.g, 0, none⟩)] 133)).alloc (.cells #[.int .i64 8, .int .i64 a, .int .i64 b, .string ⟨nm.toArray⟩, .slice pe ks.length ce] 36)).alloc (.cells (mv fun _ => false) 41)).heap[W.heap.size]? = some (.cells #[.pointer (some ⟨D.g, 0, none⟩)] 133 (0, 0)) := by (repeat (first | refine blk_old _ _ _ (by simp only [size_alloc]; omega) ?_ | exact blk_new _ _ _ (by first | rfl | simp only [size_alloc])))
  have nE : (((W.alloc (.cells #[.pointer (some ⟨D.g, 0, none⟩)] 133)).alloc (.cells #[.int .i64 8, .int .i64 a, .int .i64 b, .string ⟨nm.toArray⟩, .slice pe ks.length ce] 36)).alloc (.cells (mv fun _ => false) 41)).heap[W.heap.size + 1]? = some (.cells #[.int .i64 8, .int .i64 a, .int .i64 b, .string ⟨nm.toArray⟩, .slice pe ks.length ce] 36 (0, 0)) := by (repeat (first | refine blk_old _ _ _ (by simp only [size_alloc]; omega) ?_ | exact blk_new _ _ _ (by first | rfl | simp only [size_alloc])))
  have nR : (((W.alloc (.cells #[.pointer (some ⟨D.g, 0, none⟩)] 133)).alloc (.cells #[.int .i64 8, .int .i64 a, .int .i64 b, .string ⟨nm.toArray⟩, .slice pe ks.length ce] 36)).alloc (.cells (mv fun _ => false) 41)).heap[W.heap.size + 1 + 1]? = some (.cells (mv fun _ => false) 41 (0, 0)) := by (repeat (first | refine blk_old _ _ _ (by simp only [size_alloc]; omega) ?_ | exact blk_new _ _ _ (by first | rfl | simp only [size_alloc])))
  generalize hwA : (((W.alloc (.cells #[.pointer (some ⟨D.g, 0, none⟩)] 133)).alloc (.cells #[.int .i64 8, .int .i64 a, .int .i64 b, .string ⟨nm.toArray⟩, .slice pe ks.length ce] 36)).alloc (.cells (mv fun _ => false) 41)) = W3 at *
  have hA := h.later b3
  have q3 : MQ D (Les K0) W3 W3 := MQ.start hA (Below.refl _ _)
  have z0 := (cell_of_row _ _ 0 _ _ _ nE).trans rfl
  clear hA
  go_enter Tryz.func88, Tryz.ntmps88
  go_wp2_with fail
  refine (MQ.kid h q3 c0 nD nE (by omega) (by omega)).mono ?_
  rintro r W4 ⟨rfl, q4⟩
  clear q3 z0 hwA
  go_wp2_with fail
  refine (MQ.kid h q4 c1 nD nE (by omega) (by omega)).mono ?_
  rintro r W5 ⟨rfl, q5⟩
  clear q4
  go_wp2_with fail
  refine (both_any f0 f1 W5).mono ?_
  rintro r W6 ⟨rfl, hb6⟩
  have q9 := q5.low hb6
  have n9 := q9.own h (show W.heap.size ≤ W.heap.size + 1 + 1 by omega) nR
  have HQ := hid5 (MQ.ret h b3 (show W.heap.size ≤ W.heap.size + 1 + 1 by omega) q9 (mv (fun i => (f0 i && f1 i) && decide (i < 1440))))
  clear q9 q5 hb6 nD nE nR
  go_wp2_with (refine wpList_store_row rfl 41 _ _ rfl _ _ rfl rfl _ _ n9 (maskSize _) (by simp [mv_size]) (mv_all _) ?_)
  refine bodyPost_ret (v := .agg (mv (fun i => (f0 i && f1 i) && decide (i < 1440)))) ?_ rfl ⟨rfl, HQ.out⟩
  exact results_cell_row rfl _ _ (W.heap.size + 1 + 1) _ _ _ _ rfl (setRow_heap _ _ _ _ _ _ n9) maskType rfl (maskSize _)
set_option maxRecDepth 100000 in
set_option maxHeartbeats 1000000 in
theorem expr_4t {f0 : Nat → Bool} (h : MI D K0 W) (d0 : 0 ≤ D.day) (d1 : D.day < 146097) (hg : wkB D.day a = true) (c0 : KidC D 4 a b nm pe ks ce 0 f0) : Calls Tryz.prog 88 #[.pointer (some ⟨D.g, 0, none⟩), .agg #[.int .i64 4, .int .i64 a, .int .i64 b, .string ⟨nm.toArray⟩, .slice pe ks.length ce]] W fun r W' => r = .returned (.agg (mv f0)) ∧ MQ D (Les K0) W W' := by
  have hz := mv_lit
  have b3 : Below W.heap.size W (((W.alloc (.cells #[.pointer (some ⟨D.g, 0, none⟩)] 133)).alloc (.cells #[.int .i64 4, .int .i64 a, .int .i64 b, .string ⟨nm.toArray⟩, .slice pe ks.length ce] 36)).alloc (.cells (mv fun _ => false) 41)) := (((Below.refl _ _).alloc (Nat.le_refl _) _).alloc (by simp) _).alloc (by simp only [size_alloc]; omega) _
  have nD : (((W.alloc (.cells #[.pointer (some ⟨D.g, 0, none⟩)] 133)).alloc (.cells #[.int .i64 4, .int .i64 a, .int .i64 b, .string ⟨nm.toArray⟩, .slice pe ks.length ce] 36)).alloc (.cells (mv fun _ => false) 41)).heap[W.heap.size]? = some (.cells #[.pointer (some ⟨D.g, 0, none⟩)] 133 (0, 0)) := by (repeat (first | refine blk_old _ _ _ (by simp only [size_alloc]; omega) ?_ | exact blk_new _ _ _ (by first | rfl | simp only [size_alloc])))
  have nE : (((W.alloc (.cells #[.pointer (some ⟨D.g, 0, none⟩)] 133)).alloc (.cells #[.int .i64 4, .int .i64 a, .int .i64 b, .string ⟨nm.toArray⟩, .slice pe ks.length ce] 36)).alloc (.cells (mv fun _ => false) 41)).heap[W.heap.size + 1]? = some (.cells #[.int .i64 4, .int .i64 a, .int .i64 b, .string ⟨nm.toArray⟩, .slice pe ks.length ce] 36 (0, 0)) := by (repeat (first | refine blk_old _ _ _ (by simp only [size_alloc]; omega) ?_ | exact blk_new _ _ _ (by first | rfl | simp only [size_alloc])))
  have nR : (((W.alloc (.cells #[.pointer (some ⟨D.g, 0, none⟩)] 133)).alloc (.cells #[.int .i64 4, .int .i64 a, .int .i64 b, .string ⟨nm.toArray⟩, .slice pe ks.length ce] 36)).alloc (.cells (mv fun _ => false) 41)).heap[W.heap.size + 1 + 1]? = some (.cells (mv fun _ => false) 41 (0, 0)) := by (repeat (first | refine blk_old _ _ _ (by simp only [size_alloc]; omega) ?_ | exact blk_new _ _ _ (by first | rfl | simp only [size_alloc])))
  generalize hwA : (((W.alloc (.cells #[.pointer (some ⟨D.g, 0, none⟩)] 133)).alloc (.cells #[.int .i64 4, .int .i64 a, .int .i64 b, .string ⟨nm.toArray⟩, .slice pe ks.length ce] 36)).alloc (.cells (mv fun _ => false) 41)) = W3 at *
  have hA := h.later b3
  have q3 : MQ D (Les K0) W3 W3 := MQ.start hA (Below.refl _ _)
  have z0 := (cell_of_row _ _ 0 _ _ _ nE).trans rfl
  have hds : DaySt W3 D.g D.day D.lv D.mb (.slice (some ⟨D.gk, 0, none⟩) D.n D.n) (.slice (some ⟨D.gm, 0, none⟩) D.n D.n) := ⟨hA.blk⟩
  have cO := isOf4 D.g D.day D.lv D.mb _ _ (⟨4, a, b, nm, ks⟩ : Ex) pe ce W3 hds d0 d1 rfl
  rw [hg] at cO
  clear hA hds hg
  have kD := (cell_of_row _ _ 0 _ _ _ nD).trans rfl
  go_enter Tryz.func88, Tryz.ntmps88
  go_wp2_with (refine wpList_load_row rfl 36 _ rfl _ rfl _ _ _ _ nE exprType5 rfl (by kernel_rfl) ?_)
  refine cO.mono ?_
  rintro r W4 ⟨rfl, hb4⟩
  have q4 := q3.low hb4
  clear q3 z0 kD hwA cO hb4
  go_wp2_with fail
  refine (MQ.kid h q4 c0 nD nE (by omega) (by omega)).mono ?_
  rintro r W5 ⟨rfl, q9⟩
  clear q4
  have n9 := q9.own h (show W.heap.size ≤ W.heap.size + 1 + 1 by omega) nR
  have HQ := hid5 (MQ.ret h b3 (show W.heap.size ≤ W.heap.size + 1 + 1 by omega) q9 (mv f0))
  clear q9 nD nE nR
  go_wp2_with (refine wpList_store_row rfl 41 _ _ rfl _ _ rfl rfl _ _ n9 (maskSize _) (by simp [mv_size]) (mv_all _) ?_)
  refine bodyPost_ret (v := .agg (mv f0)) ?_ rfl ⟨rfl, HQ.out⟩
  exact results_cell_row rfl _ _ (W.heap.size + 1 + 1) _ _ _ _ rfl (setRow_heap _ _ _ _ _ _ n9) maskType rfl (maskSize _)
set_option maxRecDepth 100000 in
set_option maxHeartbeats 1000000 in
theorem expr_4f (h : MI D K0 W) (d0 : 0 ≤ D.day) (d1 : D.day < 146097) (hg : wkB D.day a = false) : Calls Tryz.prog 88 #[.pointer (some ⟨D.g, 0, none⟩), .agg #[.int .i64 4, .int .i64 a, .int .i64 b, .string ⟨nm.toArray⟩, .slice pe ks.length ce]] W fun r W' => r = .returned (.agg (mv (fun _ => false))) ∧ MQ D (Les K0) W W' := by
  have hz := mv_lit
  have b3 : Below W.heap.size W (((W.alloc (.cells #[.pointer (some ⟨D.g, 0, none⟩)] 133)).alloc (.cells #[.int .i64 4, .int .i64 a, .int .i64 b, .string ⟨nm.toArray⟩, .slice pe ks.length ce] 36)).alloc (.cells (mv fun _ => false) 41)) := (((Below.refl _ _).alloc (Nat.le_refl _) _).alloc (by simp) _).alloc (by simp only [size_alloc]; omega) _
  have nD : (((W.alloc (.cells #[.pointer (some ⟨D.g, 0, none⟩)] 133)).alloc (.cells #[.int .i64 4, .int .i64 a, .int .i64 b, .string ⟨nm.toArray⟩, .slice pe ks.length ce] 36)).alloc (.cells (mv fun _ => false) 41)).heap[W.heap.size]? = some (.cells #[.pointer (some ⟨D.g, 0, none⟩)] 133 (0, 0)) := by (repeat (first | refine blk_old _ _ _ (by simp only [size_alloc]; omega) ?_ | exact blk_new _ _ _ (by first | rfl | simp only [size_alloc])))
  have nE : (((W.alloc (.cells #[.pointer (some ⟨D.g, 0, none⟩)] 133)).alloc (.cells #[.int .i64 4, .int .i64 a, .int .i64 b, .string ⟨nm.toArray⟩, .slice pe ks.length ce] 36)).alloc (.cells (mv fun _ => false) 41)).heap[W.heap.size + 1]? = some (.cells #[.int .i64 4, .int .i64 a, .int .i64 b, .string ⟨nm.toArray⟩, .slice pe ks.length ce] 36 (0, 0)) := by (repeat (first | refine blk_old _ _ _ (by simp only [size_alloc]; omega) ?_ | exact blk_new _ _ _ (by first | rfl | simp only [size_alloc])))
  have nR : (((W.alloc (.cells #[.pointer (some ⟨D.g, 0, none⟩)] 133)).alloc (.cells #[.int .i64 4, .int .i64 a, .int .i64 b, .string ⟨nm.toArray⟩, .slice pe ks.length ce] 36)).alloc (.cells (mv fun _ => false) 41)).heap[W.heap.size + 1 + 1]? = some (.cells (mv fun _ => false) 41 (0, 0)) := by (repeat (first | refine blk_old _ _ _ (by simp only [size_alloc]; omega) ?_ | exact blk_new _ _ _ (by first | rfl | simp only [size_alloc])))
  generalize hwA : (((W.alloc (.cells #[.pointer (some ⟨D.g, 0, none⟩)] 133)).alloc (.cells #[.int .i64 4, .int .i64 a, .int .i64 b, .string ⟨nm.toArray⟩, .slice pe ks.length ce] 36)).alloc (.cells (mv fun _ => false) 41)) = W3 at *
  have hA := h.later b3
  have q3 : MQ D (Les K0) W3 W3 := MQ.start hA (Below.refl _ _)
  have z0 := (cell_of_row _ _ 0 _ _ _ nE).trans rfl
  have hds : DaySt W3 D.g D.day D.lv D.mb (.slice (some ⟨D.gk, 0, none⟩) D.n D.n) (.slice (some ⟨D.gm, 0, none⟩) D.n D.n) := ⟨hA.blk⟩
  have cO := isOf4 D.g D.day D.lv D.mb _ _ (⟨4, a, b, nm, ks⟩ : Ex) pe ce W3 hds d0 d1 rfl
  rw [hg] at cO
  clear hA hds hg
  have kD := (cell_of_row _ _ 0 _ _ _ nD).trans rfl
  go_enter Tryz.func88, Tryz.ntmps88
  go_wp2_with (refine wpList_load_row rfl 36 _ rfl _ rfl _ _ _ _ nE exprType5 rfl (by kernel_rfl) ?_)
  refine cO.mono ?_
  rintro r W4 ⟨rfl, hb4⟩
  have q9 := q3.low hb4
  clear q3 z0 kD hwA cO hb4
  have n9 := q9.own h (show W.heap.size ≤ W.heap.size + 1 + 1 by omega) nR
  have HQ := hid5 (MQ.ret h b3 (show W.heap.size ≤ W.heap.size + 1 + 1 by omega) q9 (mv (fun _ => false)))
  clear q9 nD nE nR
  go_wp2_with (refine wpList_store_row rfl 41 _ _ rfl _ _ rfl rfl _ _ n9 (maskSize _) (by simp [mv_size]) (mv_all _) ?_)
  refine bodyPost_ret (v := .agg (mv (fun _ => false))) ?_ rfl ⟨rfl, HQ.out⟩
  exact results_cell_row rfl _ _ (W.heap.size + 1 + 1) _ _ _ _ rfl (setRow_heap _ _ _ _ _ _ n9) maskType rfl (maskSize _)
set_option maxRecDepth 100000 in
set_option maxHeartbeats 1000000 in
theorem expr_5t {f0 : Nat → Bool} (h : MI D K0 W) (_ : 0 ≤ D.day) (_ : D.day < 146097) (hg : (decide (a ≤ D.day) && decide (D.day ≤ b)) = true) (c0 : KidC D 5 a b nm pe ks ce 0 f0) : Calls Tryz.prog 88 #[.pointer (some ⟨D.g, 0, none⟩), .agg #[.int .i64 5, .int .i64 a, .int .i64 b, .string ⟨nm.toArray⟩, .slice pe ks.length ce]] W fun r W' => r = .returned (.agg (mv f0)) ∧ MQ D (Les K0) W W' := by
  have hz := mv_lit
  have b3 : Below W.heap.size W (((W.alloc (.cells #[.pointer (some ⟨D.g, 0, none⟩)] 133)).alloc (.cells #[.int .i64 5, .int .i64 a, .int .i64 b, .string ⟨nm.toArray⟩, .slice pe ks.length ce] 36)).alloc (.cells (mv fun _ => false) 41)) := (((Below.refl _ _).alloc (Nat.le_refl _) _).alloc (by simp) _).alloc (by simp only [size_alloc]; omega) _
  have nD : (((W.alloc (.cells #[.pointer (some ⟨D.g, 0, none⟩)] 133)).alloc (.cells #[.int .i64 5, .int .i64 a, .int .i64 b, .string ⟨nm.toArray⟩, .slice pe ks.length ce] 36)).alloc (.cells (mv fun _ => false) 41)).heap[W.heap.size]? = some (.cells #[.pointer (some ⟨D.g, 0, none⟩)] 133 (0, 0)) := by (repeat (first | refine blk_old _ _ _ (by simp only [size_alloc]; omega) ?_ | exact blk_new _ _ _ (by first | rfl | simp only [size_alloc])))
  have nE : (((W.alloc (.cells #[.pointer (some ⟨D.g, 0, none⟩)] 133)).alloc (.cells #[.int .i64 5, .int .i64 a, .int .i64 b, .string ⟨nm.toArray⟩, .slice pe ks.length ce] 36)).alloc (.cells (mv fun _ => false) 41)).heap[W.heap.size + 1]? = some (.cells #[.int .i64 5, .int .i64 a, .int .i64 b, .string ⟨nm.toArray⟩, .slice pe ks.length ce] 36 (0, 0)) := by (repeat (first | refine blk_old _ _ _ (by simp only [size_alloc]; omega) ?_ | exact blk_new _ _ _ (by first | rfl | simp only [size_alloc])))
  have nR : (((W.alloc (.cells #[.pointer (some ⟨D.g, 0, none⟩)] 133)).alloc (.cells #[.int .i64 5, .int .i64 a, .int .i64 b, .string ⟨nm.toArray⟩, .slice pe ks.length ce] 36)).alloc (.cells (mv fun _ => false) 41)).heap[W.heap.size + 1 + 1]? = some (.cells (mv fun _ => false) 41 (0, 0)) := by (repeat (first | refine blk_old _ _ _ (by simp only [size_alloc]; omega) ?_ | exact blk_new _ _ _ (by first | rfl | simp only [size_alloc])))
  generalize hwA : (((W.alloc (.cells #[.pointer (some ⟨D.g, 0, none⟩)] 133)).alloc (.cells #[.int .i64 5, .int .i64 a, .int .i64 b, .string ⟨nm.toArray⟩, .slice pe ks.length ce] 36)).alloc (.cells (mv fun _ => false) 41)) = W3 at *
  have hA := h.later b3
  have q3 : MQ D (Les K0) W3 W3 := MQ.start hA (Below.refl _ _)
  have z0 := (cell_of_row _ _ 0 _ _ _ nE).trans rfl
  have hds : DaySt W3 D.g D.day D.lv D.mb (.slice (some ⟨D.gk, 0, none⟩) D.n D.n) (.slice (some ⟨D.gm, 0, none⟩) D.n D.n) := ⟨hA.blk⟩
  have cO := isOf5 D.g D.day D.lv D.mb _ _ (⟨5, a, b, nm, ks⟩ : Ex) pe ce W3 hds rfl
  rw [hg] at cO
  clear hA hds hg
  have kD := (cell_of_row _ _ 0 _ _ _ nD).trans rfl
  go_enter Tryz.func88, Tryz.ntmps88
  go_wp2_with (refine wpList_load_row rfl 36 _ rfl _ rfl _ _ _ _ nE exprType5 rfl (by kernel_rfl) ?_)
  refine cO.mono ?_
  rintro r W4 ⟨rfl, hb4⟩
  have q4 := q3.low hb4
  clear q3 z0 kD hwA cO hb4
  go_wp2_with fail
  refine (MQ.kid h q4 c0 nD nE (by omega) (by omega)).mono ?_
  rintro r W5 ⟨rfl, q9⟩
  clear q4
  have n9 := q9.own h (show W.heap.size ≤ W.heap.size + 1 + 1 by omega) nR
  have HQ := hid5 (MQ.ret h b3 (show W.heap.size ≤ W.heap.size + 1 + 1 by omega) q9 (mv f0))
  clear q9 nD nE nR
  go_wp2_with (refine wpList_store_row rfl 41 _ _ rfl _ _ rfl rfl _ _ n9 (maskSize _) (by simp [mv_size]) (mv_all _) ?_)
  refine bodyPost_ret (v := .agg (mv f0)) ?_ rfl ⟨rfl, HQ.out⟩
  exact results_cell_row rfl _ _ (W.heap.size + 1 + 1) _ _ _ _ rfl (setRow_heap _ _ _ _ _ _ n9) maskType rfl (maskSize _)
set_option maxRecDepth 100000 in
set_option maxHeartbeats 1000000 in
theorem expr_5f (h : MI D K0 W) (_ : 0 ≤ D.day) (_ : D.day < 146097) (hg : (decide (a ≤ D.day) && decide (D.day ≤ b)) = false) : Calls Tryz.prog 88 #[.pointer (some ⟨D.g, 0, none⟩), .agg #[.int .i64 5, .int .i64 a, .int .i64 b, .string ⟨nm.toArray⟩, .slice pe ks.length ce]] W fun r W' => r = .returned (.agg (mv (fun _ => false))) ∧ MQ D (Les K0) W W' := by
  have hz := mv_lit
  have b3 : Below W.heap.size W (((W.alloc (.cells #[.pointer (some ⟨D.g, 0, none⟩)] 133)).alloc (.cells #[.int .i64 5, .int .i64 a, .int .i64 b, .string ⟨nm.toArray⟩, .slice pe ks.length ce] 36)).alloc (.cells (mv fun _ => false) 41)) := (((Below.refl _ _).alloc (Nat.le_refl _) _).alloc (by simp) _).alloc (by simp only [size_alloc]; omega) _
  have nD : (((W.alloc (.cells #[.pointer (some ⟨D.g, 0, none⟩)] 133)).alloc (.cells #[.int .i64 5, .int .i64 a, .int .i64 b, .string ⟨nm.toArray⟩, .slice pe ks.length ce] 36)).alloc (.cells (mv fun _ => false) 41)).heap[W.heap.size]? = some (.cells #[.pointer (some ⟨D.g, 0, none⟩)] 133 (0, 0)) := by (repeat (first | refine blk_old _ _ _ (by simp only [size_alloc]; omega) ?_ | exact blk_new _ _ _ (by first | rfl | simp only [size_alloc])))
  have nE : (((W.alloc (.cells #[.pointer (some ⟨D.g, 0, none⟩)] 133)).alloc (.cells #[.int .i64 5, .int .i64 a, .int .i64 b, .string ⟨nm.toArray⟩, .slice pe ks.length ce] 36)).alloc (.cells (mv fun _ => false) 41)).heap[W.heap.size + 1]? = some (.cells #[.int .i64 5, .int .i64 a, .int .i64 b, .string ⟨nm.toArray⟩, .slice pe ks.length ce] 36 (0, 0)) := by (repeat (first | refine blk_old _ _ _ (by simp only [size_alloc]; omega) ?_ | exact blk_new _ _ _ (by first | rfl | simp only [size_alloc])))
  have nR : (((W.alloc (.cells #[.pointer (some ⟨D.g, 0, none⟩)] 133)).alloc (.cells #[.int .i64 5, .int .i64 a, .int .i64 b, .string ⟨nm.toArray⟩, .slice pe ks.length ce] 36)).alloc (.cells (mv fun _ => false) 41)).heap[W.heap.size + 1 + 1]? = some (.cells (mv fun _ => false) 41 (0, 0)) := by (repeat (first | refine blk_old _ _ _ (by simp only [size_alloc]; omega) ?_ | exact blk_new _ _ _ (by first | rfl | simp only [size_alloc])))
  generalize hwA : (((W.alloc (.cells #[.pointer (some ⟨D.g, 0, none⟩)] 133)).alloc (.cells #[.int .i64 5, .int .i64 a, .int .i64 b, .string ⟨nm.toArray⟩, .slice pe ks.length ce] 36)).alloc (.cells (mv fun _ => false) 41)) = W3 at *
  have hA := h.later b3
  have q3 : MQ D (Les K0) W3 W3 := MQ.start hA (Below.refl _ _)
  have z0 := (cell_of_row _ _ 0 _ _ _ nE).trans rfl
  have hds : DaySt W3 D.g D.day D.lv D.mb (.slice (some ⟨D.gk, 0, none⟩) D.n D.n) (.slice (some ⟨D.gm, 0, none⟩) D.n D.n) := ⟨hA.blk⟩
  have cO := isOf5 D.g D.day D.lv D.mb _ _ (⟨5, a, b, nm, ks⟩ : Ex) pe ce W3 hds rfl
  rw [hg] at cO
  clear hA hds hg
  have kD := (cell_of_row _ _ 0 _ _ _ nD).trans rfl
  go_enter Tryz.func88, Tryz.ntmps88
  go_wp2_with (refine wpList_load_row rfl 36 _ rfl _ rfl _ _ _ _ nE exprType5 rfl (by kernel_rfl) ?_)
  refine cO.mono ?_
  rintro r W4 ⟨rfl, hb4⟩
  have q9 := q3.low hb4
  clear q3 z0 kD hwA cO hb4
  have n9 := q9.own h (show W.heap.size ≤ W.heap.size + 1 + 1 by omega) nR
  have HQ := hid5 (MQ.ret h b3 (show W.heap.size ≤ W.heap.size + 1 + 1 by omega) q9 (mv (fun _ => false)))
  clear q9 nD nE nR
  go_wp2_with (refine wpList_store_row rfl 41 _ _ rfl _ _ rfl rfl _ _ n9 (maskSize _) (by simp [mv_size]) (mv_all _) ?_)
  refine bodyPost_ret (v := .agg (mv (fun _ => false))) ?_ rfl ⟨rfl, HQ.out⟩
  exact results_cell_row rfl _ _ (W.heap.size + 1 + 1) _ _ _ _ rfl (setRow_heap _ _ _ _ _ _ n9) maskType rfl (maskSize _)
end Go.Proofs.YtpmobjgnmidolaaGreatDoor

/- What an expression means, as the program finds it out: more kinds. Written by genmnh.py. -/
namespace Go.Proofs.YtpmobjgnmidolaaGreatDoor
open Go.RowKit Lx Msk
variable {D : MD} {K0 : Nat → Bool} {W : World} {a b : Int} {nm : List UInt8} {pe : Option Addr} {ks : List Ex} {ce : Nat}
theorem inl_all : mv (inl [((0 : Int), (1440 : Int))]) = mv fun i => decide (i < 1440) := mv_ext fun i _ => by
  have : ((i : Int) < 1440) = (i < 1440) := by apply propext; omega
  simp [inl, this]
theorem inl_one6 (a b : Int) : mv (inl [(a, b)]) = mv fun i => (decide (a ≤ (i : Int)) && decide ((i : Int) < b)) && decide (i < 1440) := mv_ext fun i _ => by
  simp [inl]
set_option maxRecDepth 100000 in
set_option maxHeartbeats 1000000 in
theorem expr_1 (h : MI D K0 W)  : Calls Tryz.prog 88 #[.pointer (some ⟨D.g, 0, none⟩), .agg #[.int .i64 1, .int .i64 a, .int .i64 b, .string ⟨nm.toArray⟩, .slice pe ks.length ce]] W fun r W' => r = .returned (.agg (mv (fun _ => false))) ∧ MQ D (Les K0) W W' := by
  have hz := mv_lit
  have b3 : Below W.heap.size W (((W.alloc (.cells #[.pointer (some ⟨D.g, 0, none⟩)] 133)).alloc (.cells #[.int .i64 1, .int .i64 a, .int .i64 b, .string ⟨nm.toArray⟩, .slice pe ks.length ce] 36)).alloc (.cells (mv fun _ => false) 41)) := (((Below.refl _ _).alloc (Nat.le_refl _) _).alloc (by simp) _).alloc (by simp only [size_alloc]; omega) _
  have nD : (((W.alloc (.cells #[.pointer (some ⟨D.g, 0, none⟩)] 133)).alloc (.cells #[.int .i64 1, .int .i64 a, .int .i64 b, .string ⟨nm.toArray⟩, .slice pe ks.length ce] 36)).alloc (.cells (mv fun _ => false) 41)).heap[W.heap.size]? = some (.cells #[.pointer (some ⟨D.g, 0, none⟩)] 133 (0, 0)) := by (repeat (first | refine blk_old _ _ _ (by simp only [size_alloc]; omega) ?_ | exact blk_new _ _ _ (by first | rfl | simp only [size_alloc])))
  have nE : (((W.alloc (.cells #[.pointer (some ⟨D.g, 0, none⟩)] 133)).alloc (.cells #[.int .i64 1, .int .i64 a, .int .i64 b, .string ⟨nm.toArray⟩, .slice pe ks.length ce] 36)).alloc (.cells (mv fun _ => false) 41)).heap[W.heap.size + 1]? = some (.cells #[.int .i64 1, .int .i64 a, .int .i64 b, .string ⟨nm.toArray⟩, .slice pe ks.length ce] 36 (0, 0)) := by (repeat (first | refine blk_old _ _ _ (by simp only [size_alloc]; omega) ?_ | exact blk_new _ _ _ (by first | rfl | simp only [size_alloc])))
  have nR : (((W.alloc (.cells #[.pointer (some ⟨D.g, 0, none⟩)] 133)).alloc (.cells #[.int .i64 1, .int .i64 a, .int .i64 b, .string ⟨nm.toArray⟩, .slice pe ks.length ce] 36)).alloc (.cells (mv fun _ => false) 41)).heap[W.heap.size + 1 + 1]? = some (.cells (mv fun _ => false) 41 (0, 0)) := by (repeat (first | refine blk_old _ _ _ (by simp only [size_alloc]; omega) ?_ | exact blk_new _ _ _ (by first | rfl | simp only [size_alloc])))
  generalize hwA : (((W.alloc (.cells #[.pointer (some ⟨D.g, 0, none⟩)] 133)).alloc (.cells #[.int .i64 1, .int .i64 a, .int .i64 b, .string ⟨nm.toArray⟩, .slice pe ks.length ce] 36)).alloc (.cells (mv fun _ => false) 41)) = W3 at *
  have hA := h.later b3
  have q3 : MQ D (Les K0) W3 W3 := MQ.start hA (Below.refl _ _)
  have z0 := (cell_of_row _ _ 0 _ _ _ nE).trans rfl
  clear hA
  have q9 := q3
  clear q3
  have n9 := q9.own h (show W.heap.size ≤ W.heap.size + 1 + 1 by omega) nR
  have HQ := hid5 (MQ.ret h b3 (show W.heap.size ≤ W.heap.size + 1 + 1 by omega) q9 (mv fun _ => false))
  clear q9 nD nE
  go_enter Tryz.func88, Tryz.ntmps88
  go_wp2_with (refine wpList_store_row rfl 41 _ _ rfl _ _ rfl rfl _ _ n9 (maskSize _) (by simp [mv_size]) (mv_all _) ?_)
  refine bodyPost_ret (v := .agg (mv fun _ => false)) ?_ rfl ⟨rfl, HQ.out⟩
  exact results_cell_row rfl _ _ (W.heap.size + 1 + 1) _ _ _ _ rfl (setRow_heap _ _ _ _ _ _ n9) maskType rfl (maskSize _)
set_option maxRecDepth 100000 in
set_option maxHeartbeats 1000000 in
theorem expr_2 (h : MI D K0 W)  : Calls Tryz.prog 88 #[.pointer (some ⟨D.g, 0, none⟩), .agg #[.int .i64 2, .int .i64 a, .int .i64 b, .string ⟨nm.toArray⟩, .slice pe ks.length ce]] W fun r W' => r = .returned (.agg (mv (fun i => decide (i < 1440)))) ∧ MQ D (Les K0) W W' := by
  have hz := mv_lit
  have b3 : Below W.heap.size W (((W.alloc (.cells #[.pointer (some ⟨D.g, 0, none⟩)] 133)).alloc (.cells #[.int .i64 2, .int .i64 a, .int .i64 b, .string ⟨nm.toArray⟩, .slice pe ks.length ce] 36)).alloc (.cells (mv fun _ => false) 41)) := (((Below.refl _ _).alloc (Nat.le_refl _) _).alloc (by simp) _).alloc (by simp only [size_alloc]; omega) _
  have nD : (((W.alloc (.cells #[.pointer (some ⟨D.g, 0, none⟩)] 133)).alloc (.cells #[.int .i64 2, .int .i64 a, .int .i64 b, .string ⟨nm.toArray⟩, .slice pe ks.length ce] 36)).alloc (.cells (mv fun _ => false) 41)).heap[W.heap.size]? = some (.cells #[.pointer (some ⟨D.g, 0, none⟩)] 133 (0, 0)) := by (repeat (first | refine blk_old _ _ _ (by simp only [size_alloc]; omega) ?_ | exact blk_new _ _ _ (by first | rfl | simp only [size_alloc])))
  have nE : (((W.alloc (.cells #[.pointer (some ⟨D.g, 0, none⟩)] 133)).alloc (.cells #[.int .i64 2, .int .i64 a, .int .i64 b, .string ⟨nm.toArray⟩, .slice pe ks.length ce] 36)).alloc (.cells (mv fun _ => false) 41)).heap[W.heap.size + 1]? = some (.cells #[.int .i64 2, .int .i64 a, .int .i64 b, .string ⟨nm.toArray⟩, .slice pe ks.length ce] 36 (0, 0)) := by (repeat (first | refine blk_old _ _ _ (by simp only [size_alloc]; omega) ?_ | exact blk_new _ _ _ (by first | rfl | simp only [size_alloc])))
  have nR : (((W.alloc (.cells #[.pointer (some ⟨D.g, 0, none⟩)] 133)).alloc (.cells #[.int .i64 2, .int .i64 a, .int .i64 b, .string ⟨nm.toArray⟩, .slice pe ks.length ce] 36)).alloc (.cells (mv fun _ => false) 41)).heap[W.heap.size + 1 + 1]? = some (.cells (mv fun _ => false) 41 (0, 0)) := by (repeat (first | refine blk_old _ _ _ (by simp only [size_alloc]; omega) ?_ | exact blk_new _ _ _ (by first | rfl | simp only [size_alloc])))
  generalize hwA : (((W.alloc (.cells #[.pointer (some ⟨D.g, 0, none⟩)] 133)).alloc (.cells #[.int .i64 2, .int .i64 a, .int .i64 b, .string ⟨nm.toArray⟩, .slice pe ks.length ce] 36)).alloc (.cells (mv fun _ => false) 41)) = W3 at *
  have hA := h.later b3
  have q3 : MQ D (Les K0) W3 W3 := MQ.start hA (Below.refl _ _)
  have z0 := (cell_of_row _ _ 0 _ _ _ nE).trans rfl
  have z1 := (cell_of_row _ _ 1 _ _ _ nE).trans rfl
  have z2 := (cell_of_row _ _ 2 _ _ _ nE).trans rfl
  have b4 := (Below.refl W3.heap.size W3).alloc (Nat.le_refl _) (.cells #[.int .i64 0, .int .i64 1440] 100)
  have n4 := heap_alloc_new W3 (.cells #[.int .i64 0, .int .i64 1440] 100)
  generalize hwB : W3.alloc (.cells #[.int .i64 0, .int .i64 1440] 100) = W4 at *
  have cF := of_any _ _ W4 (row_at6 n4)
  rw [inl_all] at cF
  have q4 := q3.low b4
  clear hA q3 b4 n4
  go_enter Tryz.func88, Tryz.ntmps88
  go_wp2_with fail
  refine cF.mono ?_
  rintro r W5 ⟨rfl, hb5⟩
  have q9 := q4.low hb5
  clear q4 z0 z1 z2 hwA hwB cF hb5
  have n9 := q9.own h (show W.heap.size ≤ W.heap.size + 1 + 1 by omega) nR
  have HQ := hid5 (MQ.ret h b3 (show W.heap.size ≤ W.heap.size + 1 + 1 by omega) q9 (mv (fun i => decide (i < 1440))))
  clear q9 nD nE nR
  go_wp2_with (refine wpList_store_row rfl 41 _ _ rfl _ _ rfl rfl _ _ n9 (maskSize _) (by simp [mv_size]) (mv_all _) ?_)
  refine bodyPost_ret (v := .agg (mv (fun i => decide (i < 1440)))) ?_ rfl ⟨rfl, HQ.out⟩
  exact results_cell_row rfl _ _ (W.heap.size + 1 + 1) _ _ _ _ rfl (setRow_heap _ _ _ _ _ _ n9) maskType rfl (maskSize _)
set_option maxRecDepth 100000 in
set_option maxHeartbeats 1000000 in
theorem expr_3 (h : MI D K0 W)  : Calls Tryz.prog 88 #[.pointer (some ⟨D.g, 0, none⟩), .agg #[.int .i64 3, .int .i64 a, .int .i64 b, .string ⟨nm.toArray⟩, .slice pe ks.length ce]] W fun r W' => r = .returned (.agg (mv (fun i => (decide (a ≤ (i : Int)) && decide ((i : Int) < b)) && decide (i < 1440)))) ∧ MQ D (Les K0) W W' := by
  have hz := mv_lit
  have b3 : Below W.heap.size W (((W.alloc (.cells #[.pointer (some ⟨D.g, 0, none⟩)] 133)).alloc (.cells #[.int .i64 3, .int .i64 a, .int .i64 b, .string ⟨nm.toArray⟩, .slice pe ks.length ce] 36)).alloc (.cells (mv fun _ => false) 41)) := (((Below.refl _ _).alloc (Nat.le_refl _) _).alloc (by simp) _).alloc (by simp only [size_alloc]; omega) _
  have nD : (((W.alloc (.cells #[.pointer (some ⟨D.g, 0, none⟩)] 133)).alloc (.cells #[.int .i64 3, .int .i64 a, .int .i64 b, .string ⟨nm.toArray⟩, .slice pe ks.length ce] 36)).alloc (.cells (mv fun _ => false) 41)).heap[W.heap.size]? = some (.cells #[.pointer (some ⟨D.g, 0, none⟩)] 133 (0, 0)) := by (repeat (first | refine blk_old _ _ _ (by simp only [size_alloc]; omega) ?_ | exact blk_new _ _ _ (by first | rfl | simp only [size_alloc])))
  have nE : (((W.alloc (.cells #[.pointer (some ⟨D.g, 0, none⟩)] 133)).alloc (.cells #[.int .i64 3, .int .i64 a, .int .i64 b, .string ⟨nm.toArray⟩, .slice pe ks.length ce] 36)).alloc (.cells (mv fun _ => false) 41)).heap[W.heap.size + 1]? = some (.cells #[.int .i64 3, .int .i64 a, .int .i64 b, .string ⟨nm.toArray⟩, .slice pe ks.length ce] 36 (0, 0)) := by (repeat (first | refine blk_old _ _ _ (by simp only [size_alloc]; omega) ?_ | exact blk_new _ _ _ (by first | rfl | simp only [size_alloc])))
  have nR : (((W.alloc (.cells #[.pointer (some ⟨D.g, 0, none⟩)] 133)).alloc (.cells #[.int .i64 3, .int .i64 a, .int .i64 b, .string ⟨nm.toArray⟩, .slice pe ks.length ce] 36)).alloc (.cells (mv fun _ => false) 41)).heap[W.heap.size + 1 + 1]? = some (.cells (mv fun _ => false) 41 (0, 0)) := by (repeat (first | refine blk_old _ _ _ (by simp only [size_alloc]; omega) ?_ | exact blk_new _ _ _ (by first | rfl | simp only [size_alloc])))
  generalize hwA : (((W.alloc (.cells #[.pointer (some ⟨D.g, 0, none⟩)] 133)).alloc (.cells #[.int .i64 3, .int .i64 a, .int .i64 b, .string ⟨nm.toArray⟩, .slice pe ks.length ce] 36)).alloc (.cells (mv fun _ => false) 41)) = W3 at *
  have hA := h.later b3
  have q3 : MQ D (Les K0) W3 W3 := MQ.start hA (Below.refl _ _)
  have z0 := (cell_of_row _ _ 0 _ _ _ nE).trans rfl
  have z1 := (cell_of_row _ _ 1 _ _ _ nE).trans rfl
  have z2 := (cell_of_row _ _ 2 _ _ _ nE).trans rfl
  have b4 := (Below.refl W3.heap.size W3).alloc (Nat.le_refl _) (.cells #[.int .i64 a, .int .i64 b] 100)
  have n4 := heap_alloc_new W3 (.cells #[.int .i64 a, .int .i64 b] 100)
  generalize hwB : W3.alloc (.cells #[.int .i64 a, .int .i64 b] 100) = W4 at *
  have cF := of_any _ _ W4 (row_at6 n4)
  rw [inl_one6 a b] at cF
  have q4 := q3.low b4
  clear hA q3 b4 n4
  go_enter Tryz.func88, Tryz.ntmps88
  go_wp2_with fail
  refine cF.mono ?_
  rintro r W5 ⟨rfl, hb5⟩
  have q9 := q4.low hb5
  clear q4 z0 z1 z2 hwA hwB cF hb5
  have n9 := q9.own h (show W.heap.size ≤ W.heap.size + 1 + 1 by omega) nR
  have HQ := hid5 (MQ.ret h b3 (show W.heap.size ≤ W.heap.size + 1 + 1 by omega) q9 (mv (fun i => (decide (a ≤ (i : Int)) && decide ((i : Int) < b)) && decide (i < 1440))))
  clear q9 nD nE nR
  go_wp2_with (refine wpList_store_row rfl 41 _ _ rfl _ _ rfl rfl _ _ n9 (maskSize _) (by simp [mv_size]) (mv_all _) ?_)
  refine bodyPost_ret (v := .agg (mv (fun i => (decide (a ≤ (i : Int)) && decide ((i : Int) < b)) && decide (i < 1440)))) ?_ rfl ⟨rfl, HQ.out⟩
  exact results_cell_row rfl _ _ (W.heap.size + 1 + 1) _ _ _ _ rfl (setRow_heap _ _ _ _ _ _ n9) maskType rfl (maskSize _)
set_option maxRecDepth 100000 in
set_option maxHeartbeats 1000000 in
theorem expr_9 {f0 : Nat → Bool} (h : MI D K0 W) (a0 : -9223372036854775808 ≤ a) (a1 : a ≤ 9223372036854775807) (c0 : KidC D 9 a b nm pe ks ce 0 f0) : Calls Tryz.prog 88 #[.pointer (some ⟨D.g, 0, none⟩), .agg #[.int .i64 9, .int .i64 a, .int .i64 b, .string ⟨nm.toArray⟩, .slice pe ks.length ce]] W fun r W' => r = .returned (.agg (mv (shf f0 a))) ∧ MQ D (Les K0) W W' := by
  have hz := mv_lit
  have b3 : Below W.heap.size W (((W.alloc (.cells #[.pointer (some ⟨D.g, 0, none⟩)] 133)).alloc (.cells #[.int .i64 9, .int .i64 a, .int .i64 b, .string ⟨nm.toArray⟩, .slice pe ks.length ce] 36)).alloc (.cells (mv fun _ => false) 41)) := (((Below.refl _ _).alloc (Nat.le_refl _) _).alloc (by simp) _).alloc (by simp only [size_alloc]; omega) _
  have nD : (((W.alloc (.cells #[.pointer (some ⟨D.g, 0, none⟩)] 133)).alloc (.cells #[.int .i64 9, .int .i64 a, .int .i64 b, .string ⟨nm.toArray⟩, .slice pe ks.length ce] 36)).alloc (.cells (mv fun _ => false) 41)).heap[W.heap.size]? = some (.cells #[.pointer (some ⟨D.g, 0, none⟩)] 133 (0, 0)) := by (repeat (first | refine blk_old _ _ _ (by simp only [size_alloc]; omega) ?_ | exact blk_new _ _ _ (by first | rfl | simp only [size_alloc])))
  have nE : (((W.alloc (.cells #[.pointer (some ⟨D.g, 0, none⟩)] 133)).alloc (.cells #[.int .i64 9, .int .i64 a, .int .i64 b, .string ⟨nm.toArray⟩, .slice pe ks.length ce] 36)).alloc (.cells (mv fun _ => false) 41)).heap[W.heap.size + 1]? = some (.cells #[.int .i64 9, .int .i64 a, .int .i64 b, .string ⟨nm.toArray⟩, .slice pe ks.length ce] 36 (0, 0)) := by (repeat (first | refine blk_old _ _ _ (by simp only [size_alloc]; omega) ?_ | exact blk_new _ _ _ (by first | rfl | simp only [size_alloc])))
  have nR : (((W.alloc (.cells #[.pointer (some ⟨D.g, 0, none⟩)] 133)).alloc (.cells #[.int .i64 9, .int .i64 a, .int .i64 b, .string ⟨nm.toArray⟩, .slice pe ks.length ce] 36)).alloc (.cells (mv fun _ => false) 41)).heap[W.heap.size + 1 + 1]? = some (.cells (mv fun _ => false) 41 (0, 0)) := by (repeat (first | refine blk_old _ _ _ (by simp only [size_alloc]; omega) ?_ | exact blk_new _ _ _ (by first | rfl | simp only [size_alloc])))
  generalize hwA : (((W.alloc (.cells #[.pointer (some ⟨D.g, 0, none⟩)] 133)).alloc (.cells #[.int .i64 9, .int .i64 a, .int .i64 b, .string ⟨nm.toArray⟩, .slice pe ks.length ce] 36)).alloc (.cells (mv fun _ => false) 41)) = W3 at *
  have hA := h.later b3
  have q3 : MQ D (Les K0) W3 W3 := MQ.start hA (Below.refl _ _)
  have z0 := (cell_of_row _ _ 0 _ _ _ nE).trans rfl
  have HC := hid5 c0
  clear hA c0
  go_enter Tryz.func88, Tryz.ntmps88
  go_wp2_with fail
  clear hwA z0
  refine wp_region_lastK (MQ D (Les K0) W3) (q3.drew) (by kernel_rfl) (by kernel_rfl) (by kernel_rfl) (by kernel_rfl) 5 (by kernel_rfl) (by kernel_rfl) [(54, .func (.func 103) #[] #[.pointer (some ⟨W.heap.size, 0, none⟩), .pointer (some ⟨W.heap.size + 1, 0, none⟩)]), (55, .agg (mv f0)), (56, .pointer (some ⟨W.heap.size + 1, 1, none⟩)), (57, .int .i64 a), (58, .agg (mv (shf f0 a)))] (by kernel_rfl) (by kernel_rfl) ?_ ?_
  · intro i' s v o' L A W2 ho hv hdep hJ hkept hhas
    match i', ho, hv with
    | 0, ho, hv =>
      cases Option.some.inj ho
      cases Option.some.inj hv
      have h5 : A.tmps[5]?.getD undef = .func (.func 103) #[] #[.pointer (some ⟨W.heap.size, 0, none⟩), .pointer (some ⟨W.heap.size + 1, 0, none⟩)] := (gd A 5).trans (hkept 5 (by kernel_rfl))
      refine wpOp_step rfl (fun K hK => ?_)
      go_simp
      exact hK _ _ ⟨rfl, hJ⟩
    | 1, ho, hv =>
      cases Option.some.inj ho
      cases Option.some.inj hv
      have h54 : A.tmps[54]?.getD undef = .func (.func 103) #[] #[.pointer (some ⟨W.heap.size, 0, none⟩), .pointer (some ⟨W.heap.size + 1, 0, none⟩)] := (gd A 54).trans (hhas 0 54 _ rfl (hdep ⟨0, .data⟩ (by simp) rfl))
      refine wpOp_step rfl (fun K hK => ?_)
      go_simp
      refine (MQ.kid h hJ HC.out nD nE (by omega) (by omega)).mono ?_
      rintro e' W' ⟨rfl, hb'⟩
      exact hK _ _ ⟨rfl, hb'⟩
    | 2, ho, hv =>
      cases Option.some.inj ho
      cases Option.some.inj hv
      have h3 : A.tmps[3]?.getD undef = .pointer (some ⟨W.heap.size + 1, 0, none⟩) := (gd A 3).trans (hkept 3 (by kernel_rfl))
      refine wpOp_step rfl (fun K hK => ?_)
      go_simp
      exact hK _ _ ⟨rfl, hJ⟩
    | 3, ho, hv =>
      cases Option.some.inj ho
      cases Option.some.inj hv
      have h56 : A.tmps[56]?.getD undef = .pointer (some ⟨W.heap.size + 1, 1, none⟩) := (gd A 56).trans (hhas 2 56 _ rfl (hdep ⟨2, .data⟩ (by simp) rfl))
      have k1 : W2.cell? ⟨W.heap.size + 1, 1, none⟩ = some (.int .i64 a) := (cell_of_row _ _ 1 _ _ _ (hJ.own h (show W.heap.size ≤ W.heap.size + 1 by omega) nE)).trans rfl
      refine wpOp_step rfl (fun K hK => ?_)
      go_simp
      exact hK _ _ ⟨rfl, hJ⟩
    | 4, ho, hv =>
      cases Option.some.inj ho
      cases Option.some.inj hv
      have h55 : A.tmps[55]?.getD undef = .agg (mv f0) := (gd A 55).trans (hhas 1 55 _ rfl (hdep ⟨1, .data⟩ (by simp) rfl))
      have h57 : A.tmps[57]?.getD undef = .int .i64 a := (gd A 57).trans (hhas 3 57 _ rfl (hdep ⟨3, .data⟩ (by simp) rfl))
      refine wpOp_step rfl (fun K hK => ?_)
      go_simp
      refine (mshift_any f0 a W2 (by omega) (by omega)).mono ?_
      rintro e' W' ⟨rfl, hb'⟩
      exact hK _ _ ⟨rfl, hJ.low hb'⟩
    | kk + 5, ho, hv => simp at hv
  · intro o' W2 A ho hJ hA
    cases Option.some.inj ho
    have hx : A.eval (.tmp 4) = .pointer (some ⟨W.heap.size + 1 + 1, 0, none⟩) := by
      rw [hA]
      simp only [putAll_cons, putAll_nil, Act.put, List.setIfInBounds_toArray, List.set_cons_succ, List.set_cons_zero]
      rfl
    have hy : A.eval (.tmp 58) = .agg (mv (shf f0 a)) := by
      rw [hA]
      simp only [putAll_cons, putAll_nil, Act.put, List.setIfInBounds_toArray, List.set_cons_succ, List.set_cons_zero]
      rfl
    have n2 := hJ.own h (show W.heap.size ≤ W.heap.size + 1 + 1 by omega) nR
    refine wpOp_step rfl (fun K hK => ?_)
    show Oper.wp _ _ _ _ _ _
    refine wp_store_row 41 _ _ rfl _ _ hx hy _ _ n2 (maskSize _) (by simp [mv_size]) (mv_all _) ?_
    refine hK _ _ ⟨⟨undef, rfl⟩, ?_⟩
    change Exit.then _ _ Exit.normal A _
    subst hA
    simp only [putAll_cons, putAll_nil, Act.put, List.setIfInBounds_toArray, List.set_cons_succ, List.set_cons_zero]
    have HQ := hid5 (MQ.ret h b3 (show W.heap.size ≤ W.heap.size + 1 + 1 by omega) hJ (mv (shf f0 a)))
    have N2 := hid5 (setRow_heap _ _ _ (mv (shf f0 a)) _ _ n2)
    clear hK hJ hx hy
    go_wp2_with fail
    refine bodyPost_ret (v := .agg (mv (shf f0 a))) ?_ rfl ⟨rfl, HQ.out⟩
    exact results_cell_row rfl _ _ (W.heap.size + 1 + 1) _ _ _ _ rfl N2.out maskType rfl (maskSize _)
set_option maxRecDepth 100000 in
set_option maxHeartbeats 1000000 in
theorem expr_10 {f0 : Nat → Bool} {R : (Nat → Bool) → Prop} (h : MI D K0 W) (hx : 0 ≤ atP5 D.l nm) (c0 : ∀ (K : Nat → Bool) (W : World), MI D K W → Calls Tryz.prog 65 #[.pointer (some ⟨D.g, 0, none⟩), .int .i64 (atP5 D.l nm)] W fun r W' => r = .returned (.agg (mv f0)) ∧ MQ D (fun K' => Les K K' ∧ R K') W W') : Calls Tryz.prog 88 #[.pointer (some ⟨D.g, 0, none⟩), .agg #[.int .i64 10, .int .i64 a, .int .i64 b, .string ⟨nm.toArray⟩, .slice pe ks.length ce]] W fun r W' => r = .returned (.agg (mv f0)) ∧ MQ D (Les K0) W W' := by
  have hz := mv_lit
  have b3 : Below W.heap.size W (((W.alloc (.cells #[.pointer (some ⟨D.g, 0, none⟩)] 133)).alloc (.cells #[.int .i64 10, .int .i64 a, .int .i64 b, .string ⟨nm.toArray⟩, .slice pe ks.length ce] 36)).alloc (.cells (mv fun _ => false) 41)) := (((Below.refl _ _).alloc (Nat.le_refl _) _).alloc (by simp) _).alloc (by simp only [size_alloc]; omega) _
  have nD : (((W.alloc (.cells #[.pointer (some ⟨D.g, 0, none⟩)] 133)).alloc (.cells #[.int .i64 10, .int .i64 a, .int .i64 b, .string ⟨nm.toArray⟩, .slice pe ks.length ce] 36)).alloc (.cells (mv fun _ => false) 41)).heap[W.heap.size]? = some (.cells #[.pointer (some ⟨D.g, 0, none⟩)] 133 (0, 0)) := by (repeat (first | refine blk_old _ _ _ (by simp only [size_alloc]; omega) ?_ | exact blk_new _ _ _ (by first | rfl | simp only [size_alloc])))
  have nE : (((W.alloc (.cells #[.pointer (some ⟨D.g, 0, none⟩)] 133)).alloc (.cells #[.int .i64 10, .int .i64 a, .int .i64 b, .string ⟨nm.toArray⟩, .slice pe ks.length ce] 36)).alloc (.cells (mv fun _ => false) 41)).heap[W.heap.size + 1]? = some (.cells #[.int .i64 10, .int .i64 a, .int .i64 b, .string ⟨nm.toArray⟩, .slice pe ks.length ce] 36 (0, 0)) := by (repeat (first | refine blk_old _ _ _ (by simp only [size_alloc]; omega) ?_ | exact blk_new _ _ _ (by first | rfl | simp only [size_alloc])))
  have nR : (((W.alloc (.cells #[.pointer (some ⟨D.g, 0, none⟩)] 133)).alloc (.cells #[.int .i64 10, .int .i64 a, .int .i64 b, .string ⟨nm.toArray⟩, .slice pe ks.length ce] 36)).alloc (.cells (mv fun _ => false) 41)).heap[W.heap.size + 1 + 1]? = some (.cells (mv fun _ => false) 41 (0, 0)) := by (repeat (first | refine blk_old _ _ _ (by simp only [size_alloc]; omega) ?_ | exact blk_new _ _ _ (by first | rfl | simp only [size_alloc])))
  generalize hwA : (((W.alloc (.cells #[.pointer (some ⟨D.g, 0, none⟩)] 133)).alloc (.cells #[.int .i64 10, .int .i64 a, .int .i64 b, .string ⟨nm.toArray⟩, .slice pe ks.length ce] 36)).alloc (.cells (mv fun _ => false) 41)) = W3 at *
  have hA := h.later b3
  have q3 : MQ D (Les K0) W3 W3 := MQ.start hA (Below.refl _ _)
  have z0 := (cell_of_row _ _ 0 _ _ _ nE).trans rfl
  have HC := hid5 c0
  clear hA c0
  go_enter Tryz.func88, Tryz.ntmps88
  go_wp2_with fail
  clear hwA z0
  refine wp_region_lastK (MQ D (Les K0) W3) (q3.drew) (by kernel_rfl) (by kernel_rfl) (by kernel_rfl) (by kernel_rfl) 9 (by kernel_rfl) (by kernel_rfl) [(61, .pointer (some ⟨D.g, 0, none⟩)), (62, .pointer (some ⟨D.g, 0, none⟩)), (63, .pointer (some ⟨D.g, 0, none⟩)), (64, .pointer (some ⟨D.g, 2, none⟩)), (65, .map (some D.mb)), (66, .pointer (some ⟨W.heap.size + 1, 3, none⟩)), (67, .string ⟨nm.toArray⟩), (68, .int .i64 (atP5 D.l nm)), (69, .agg (mv f0))] (by kernel_rfl) (by kernel_rfl) ?_ ?_
  · intro i' s v o' L A W2 ho hv hdep hJ hkept hhas
    match i', ho, hv with
    | 0, ho, hv =>
      cases Option.some.inj ho
      cases Option.some.inj hv
      have h2 : A.tmps[2]?.getD undef = .pointer (some ⟨W.heap.size, 0, none⟩) := (gd A 2).trans (hkept 2 (by kernel_rfl))
      have k0 : W2.cell? ⟨W.heap.size, 0, none⟩ = some (.pointer (some ⟨D.g, 0, none⟩)) := (cell_of_row _ _ 0 _ _ _ (hJ.own h (show W.heap.size ≤ W.heap.size by omega) nD)).trans rfl
      refine wpOp_step rfl (fun K hK => ?_)
      go_simp
      exact hK _ _ ⟨rfl, hJ⟩
    | 1, ho, hv =>
      cases Option.some.inj ho
      cases Option.some.inj hv
      have h2 : A.tmps[2]?.getD undef = .pointer (some ⟨W.heap.size, 0, none⟩) := (gd A 2).trans (hkept 2 (by kernel_rfl))
      have k0 : W2.cell? ⟨W.heap.size, 0, none⟩ = some (.pointer (some ⟨D.g, 0, none⟩)) := (cell_of_row _ _ 0 _ _ _ (hJ.own h (show W.heap.size ≤ W.heap.size by omega) nD)).trans rfl
      refine wpOp_step rfl (fun K hK => ?_)
      go_simp
      exact hK _ _ ⟨rfl, hJ⟩
    | 2, ho, hv =>
      cases Option.some.inj ho
      cases Option.some.inj hv
      have h62 : A.tmps[62]?.getD undef = .pointer (some ⟨D.g, 0, none⟩) := (gd A 62).trans (hhas 1 62 _ rfl (hdep ⟨1, .data⟩ (by simp) rfl))
      refine wpOp_step rfl (fun K hK => ?_)
      go_simp
      exact hK _ _ ⟨rfl, hJ⟩
    | 3, ho, hv =>
      cases Option.some.inj ho
      cases Option.some.inj hv
      have h63 : A.tmps[63]?.getD undef = .pointer (some ⟨D.g, 0, none⟩) := (gd A 63).trans (hhas 2 63 _ rfl (hdep ⟨2, .data⟩ (by simp) rfl))
      refine wpOp_step rfl (fun K hK => ?_)
      go_simp
      exact hK _ _ ⟨rfl, hJ⟩
    | 4, ho, hv =>
      cases Option.some.inj ho
      cases Option.some.inj hv
      have h64 : A.tmps[64]?.getD undef = .pointer (some ⟨D.g, 2, none⟩) := (gd A 64).trans (hhas 3 64 _ rfl (hdep ⟨3, .data⟩ (by simp) rfl))
      have k2 : W2.cell? ⟨D.g, 2, none⟩ = some (.map (some D.mb)) := (cell_of_row _ _ 2 _ _ _ hJ.blk).trans rfl
      refine wpOp_step rfl (fun K hK => ?_)
      go_simp
      exact hK _ _ ⟨rfl, hJ⟩
    | 5, ho, hv =>
      cases Option.some.inj ho
      cases Option.some.inj hv
      have h3 : A.tmps[3]?.getD undef = .pointer (some ⟨W.heap.size + 1, 0, none⟩) := (gd A 3).trans (hkept 3 (by kernel_rfl))
      refine wpOp_step rfl (fun K hK => ?_)
      go_simp
      exact hK _ _ ⟨rfl, hJ⟩
    | 6, ho, hv =>
      cases Option.some.inj ho
      cases Option.some.inj hv
      have h66 : A.tmps[66]?.getD undef = .pointer (some ⟨W.heap.size + 1, 3, none⟩) := (gd A 66).trans (hhas 5 66 _ rfl (hdep ⟨5, .data⟩ (by simp) rfl))
      have k3 : W2.cell? ⟨W.heap.size + 1, 3, none⟩ = some (.string ⟨nm.toArray⟩) := (cell_of_row _ _ 3 _ _ _ (hJ.own h (show W.heap.size ≤ W.heap.size + 1 by omega) nE)).trans rfl
      refine wpOp_step rfl (fun K hK => ?_)
      go_simp
      exact hK _ _ ⟨rfl, hJ⟩
    | 7, ho, hv =>
      cases Option.some.inj ho
      cases Option.some.inj hv
      have h65 : A.tmps[65]?.getD undef = .map (some D.mb) := (gd A 65).trans (hhas 4 65 _ rfl (hdep ⟨4, .data⟩ (by simp) rfl))
      have h67 : A.tmps[67]?.getD undef = .string ⟨nm.toArray⟩ := (gd A 67).trans (hhas 6 67 _ rfl (hdep ⟨6, .data⟩ (by simp) rfl))
      have hlk := look6 hJ.nums nm hx
      refine wpOp_step rfl (fun K hK => ?_)
      go_simp
      exact hK _ _ ⟨rfl, hJ⟩
    | 8, ho, hv =>
      cases Option.some.inj ho
      cases Option.some.inj hv
      have h61 : A.tmps[61]?.getD undef = .pointer (some ⟨D.g, 0, none⟩) := (gd A 61).trans (hhas 0 61 _ rfl (hdep ⟨0, .data⟩ (by simp) rfl))
      have h68 : A.tmps[68]?.getD undef = .int .i64 (atP5 D.l nm) := (gd A 68).trans (hhas 7 68 _ rfl (hdep ⟨7, .data⟩ (by simp) rfl))
      obtain ⟨⟨K1, hM1, hle1⟩, hkp1⟩ := id hJ
      refine wpOp_step rfl (fun K hK => ?_)
      go_simp
      refine (HC.out K1 W2 hM1).mono ?_
      rintro e' W' ⟨rfl, hb'⟩
      exact hK _ _ ⟨rfl, MQ.onP hle1 hkp1 hb'⟩
    | kk + 9, ho, hv => simp at hv
  · intro o' W2 A ho hJ hA
    cases Option.some.inj ho
    have hx : A.eval (.tmp 4) = .pointer (some ⟨W.heap.size + 1 + 1, 0, none⟩) := by
      rw [hA]
      simp only [putAll_cons, putAll_nil, Act.put, List.setIfInBounds_toArray, List.set_cons_succ, List.set_cons_zero]
      rfl
    have hy : A.eval (.tmp 69) = .agg (mv f0) := by
      rw [hA]
      simp only [putAll_cons, putAll_nil, Act.put, List.setIfInBounds_toArray, List.set_cons_succ, List.set_cons_zero]
      rfl
    have n2 := hJ.own h (show W.heap.size ≤ W.heap.size + 1 + 1 by omega) nR
    refine wpOp_step rfl (fun K hK => ?_)
    show Oper.wp _ _ _ _ _ _
    refine wp_store_row 41 _ _ rfl _ _ hx hy _ _ n2 (maskSize _) (by simp [mv_size]) (mv_all _) ?_
    refine hK _ _ ⟨⟨undef, rfl⟩, ?_⟩
    change Exit.then _ _ Exit.normal A _
    subst hA
    simp only [putAll_cons, putAll_nil, Act.put, List.setIfInBounds_toArray, List.set_cons_succ, List.set_cons_zero]
    have HQ := hid5 (MQ.ret h b3 (show W.heap.size ≤ W.heap.size + 1 + 1 by omega) hJ (mv f0))
    have N2 := hid5 (setRow_heap _ _ _ (mv f0) _ _ n2)
    clear hK hJ hx hy
    go_wp2_with fail
    refine bodyPost_ret (v := .agg (mv f0)) ?_ rfl ⟨rfl, HQ.out⟩
    exact results_cell_row rfl _ _ (W.heap.size + 1 + 1) _ _ _ _ rfl N2.out maskType rfl (maskSize _)
end Go.Proofs.YtpmobjgnmidolaaGreatDoor
