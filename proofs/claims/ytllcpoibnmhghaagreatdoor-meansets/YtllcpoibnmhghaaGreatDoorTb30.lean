/- What an expression means, as the program finds it out: kind by kind. Written by genmnh.py. -/
import Derived.Test.YtllcpoibnmhghaaGreatDoorTb28
import Derived.Test.YtllcpoibnmhghaaGreatDoorTb29
import Derived.Test.YtllcpoibnmhghaaGreatDoorTb25
import Derived.Test.YtllcpoibnmhghaaGreatDoorTb26
namespace Go.Proofs.YtllcpoibnmhghaaGreatDoor
open Go.RowKit Lx Msk
variable {D : MD} {K0 : Nat → Bool} {W : World} {a b : Int} {nm : List UInt8} {pe : Option Addr} {ks : List Ex} {ce : Nat}
/-- What a kid comes to, wherever the day and the expression lie. -/
def KidC (D : MD) (kd a b : Int) (nm : List UInt8) (pe : Option Addr) (ks : List Ex) (ce : Nat) (j : Int) (f : Nat → Bool) : Prop := ∀ (bd be : Nat) (K : Nat → Bool) (W : World), MI D K W → W.heap[bd]? = some (.cells #[.pointer (some ⟨D.g, 0, none⟩)] 80 (0, 0)) →
  W.heap[be]? = some (.cells #[.int .i64 kd, .int .i64 a, .int .i64 b, .string ⟨nm.toArray⟩, .slice pe ks.length ce] 25 (0, 0)) → bd ≠ D.gk → bd ≠ D.gm → be ≠ D.gk → be ≠ D.gm →
  Calls Tryz.prog 51 #[.int .i64 j, .pointer (some ⟨bd, 0, none⟩), .pointer (some ⟨be, 0, none⟩)] W fun r W' => r = .returned (.agg (mv f)) ∧ MQ D (Les K) W W'
theorem MQ.kid {W3 W4 : World} {kd j : Int} {f : Nat → Bool} {bd be : Nat} (h0 : MI D K0 W) (hq : MQ D (Les K0) W3 W4) (hc : KidC D kd a b nm pe ks ce j f) (hd : W3.heap[bd]? = some (.cells #[.pointer (some ⟨D.g, 0, none⟩)] 80 (0, 0)))
    (he : W3.heap[be]? = some (.cells #[.int .i64 kd, .int .i64 a, .int .i64 b, .string ⟨nm.toArray⟩, .slice pe ks.length ce] 25 (0, 0))) (h1 : W.heap.size ≤ bd) (h2 : W.heap.size ≤ be) :
    Calls Tryz.prog 51 #[.int .i64 j, .pointer (some ⟨bd, 0, none⟩), .pointer (some ⟨be, 0, none⟩)] W4 fun r W' => r = .returned (.agg (mv f)) ∧ MQ D (Les K0) W3 W' := by
  have hd4 := hq.own h0 h1 hd
  have he4 := hq.own h0 h2 he
  have l1 := h0.lts D.gk (by simp)
  have l2 := h0.lts D.gm (by simp)
  obtain ⟨⟨K1, hM1, hle1⟩, hkp1⟩ := hq
  refine (hc bd be K1 W4 hM1 hd4 he4 (by omega) (by omega) (by omega) (by omega)).mono ?_
  rintro r W' ⟨rfl, hb⟩
  exact ⟨rfl, MQ.on hle1 hkp1 hb⟩
theorem row_at6 {W : World} {g : Nat} {x y : Int} {t : TypeId} (hb : W.heap[g]? = some (.cells #[.int .i64 x, .int .i64 y] t (0, 0))) : Row W (.slice (some ⟨g, 0, none⟩) 1 1) [(x, y)] := by
  refine .inr ⟨_, 0, 1, rfl, by simp, fun j hj => ?_⟩
  have : j = 0 := by simpa using hj
  subst this
  exact ⟨by rw [cell_of_row _ _ _ _ _ _ hb]; rfl, by rw [cell_of_row _ _ _ _ _ _ hb]; rfl⟩
set_option maxRecDepth 100000 in
set_option maxHeartbeats 1000000 in
theorem expr_6 {f0 f1 : Nat → Bool} (h : MI D K0 W) (c0 : KidC D 6 a b nm pe ks ce 0 f0) (c1 : KidC D 6 a b nm pe ks ce 1 f1) : Calls Tryz.prog 41 #[.pointer (some ⟨D.g, 0, none⟩), .agg #[.int .i64 6, .int .i64 a, .int .i64 b, .string ⟨nm.toArray⟩, .slice pe ks.length ce]] W fun r W' => r = .returned (.agg (mv (fun i => (f0 i || f1 i) && decide (i < 1440)))) ∧ MQ D (Les K0) W W' := by
  have hz := mv_lit
  have b3 : Below W.heap.size W (((W.alloc (.cells #[.pointer (some ⟨D.g, 0, none⟩)] 80)).alloc (.cells #[.int .i64 6, .int .i64 a, .int .i64 b, .string ⟨nm.toArray⟩, .slice pe ks.length ce] 25)).alloc (.cells (mv fun _ => false) 29)) := (((Below.refl _ _).alloc (Nat.le_refl _) _).alloc (by simp) _).alloc (by simp only [size_alloc]; omega) _
  have nD : (((W.alloc (.cells #[.pointer (some ⟨D.g, 0, none⟩)] 80)).alloc (.cells #[.int .i64 6, .int .i64 a, .int .i64 b, .string ⟨nm.toArray⟩, .slice pe ks.length ce] 25)).alloc (.cells (mv fun _ => false) 29)).heap[W.heap.size]? = some (.cells #[.pointer (some ⟨D.g, 0, none⟩)] 80 (0, 0)) := by (repeat (first | refine blk_old _ _ _ (by simp only [size_alloc]; omega) ?_ | exact blk_new _ _ _ (by first | rfl | simp only [size_alloc])))
  have nE : (((W.alloc (.cells #[.pointer (some ⟨D.g, 0, none⟩)] 80)).alloc (.cells #[.int .i64 6, .int .i64 a, .int .i64 b, .string ⟨nm.toArray⟩, .slice pe ks.length ce] 25)).alloc (.cells (mv fun _ => false) 29)).heap[W.heap.size + 1]? = some (.cells #[.int .i64 6, .int .i64 a, .int .i64 b, .string ⟨nm.toArray⟩, .slice pe ks.length ce] 25 (0, 0)) := by (repeat (first | refine blk_old _ _ _ (by simp only [size_alloc]; omega) ?_ | exact blk_new _ _ _ (by first | rfl | simp only [size_alloc])))
  have nR : (((W.alloc (.cells #[.pointer (some ⟨D.g, 0, none⟩)] 80)).alloc (.cells #[.int .i64 6, .int .i64 a, .int .i64 b, .string ⟨nm.toArray⟩, .slice pe ks.length ce] 25)).alloc (.cells (mv fun _ => false) 29)).heap[W.heap.size + 1 + 1]? = some (.cells (mv fun _ => false) 29 (0, 0)) := by (repeat (first | refine blk_old _ _ _ (by simp only [size_alloc]; omega) ?_ | exact blk_new _ _ _ (by first | rfl | simp only [size_alloc])))
  generalize hwA : (((W.alloc (.cells #[.pointer (some ⟨D.g, 0, none⟩)] 80)).alloc (.cells #[.int .i64 6, .int .i64 a, .int .i64 b, .string ⟨nm.toArray⟩, .slice pe ks.length ce] 25)).alloc (.cells (mv fun _ => false) 29)) = W3 at *
  have hA := h.later b3
  have q3 : MQ D (Les K0) W3 W3 := MQ.start hA (Below.refl _ _)
  have z0 := (cell_of_row _ _ 0 _ _ _ nE).trans rfl
  clear hA
  go_enter Tryz.func41, Tryz.ntmps41
  go_wp2_with fail
  refine (MQ.kid h q3 c0 nD nE (by omega) (by omega)).mono ?_
  rintro r W4 ⟨rfl, q4⟩
  clear q3 z0 hwA
  go_wp2_with fail
  refine (MQ.kid h q4 c1 nD nE (by omega) (by omega)).mono ?_
  rintro r W5 ⟨rfl, q5⟩
  clear q4
  go_wp2_with fail
  refine (union_any f0 f1 W5).mono ?_
  rintro r W6 ⟨rfl, hb6⟩
  have q9 := q5.low hb6
  have n9 := q9.own h (show W.heap.size ≤ W.heap.size + 1 + 1 by omega) nR
  have HQ := hid5 (MQ.ret h b3 (show W.heap.size ≤ W.heap.size + 1 + 1 by omega) q9 (mv (fun i => (f0 i || f1 i) && decide (i < 1440))))
  clear q9 q5 hb6 nD nE nR
  go_wp2_with (refine wpList_store_row rfl 29 _ _ rfl _ _ rfl rfl _ _ n9 (maskSize _) (by simp [mv_size]) (mv_all _) ?_)
  refine bodyPost_ret (v := .agg (mv (fun i => (f0 i || f1 i) && decide (i < 1440)))) ?_ rfl ⟨rfl, HQ.out⟩
  exact results_cell_row rfl _ _ (W.heap.size + 1 + 1) _ _ _ _ rfl (setRow_heap _ _ _ _ _ _ n9) maskType rfl (maskSize _)
set_option maxRecDepth 100000 in
set_option maxHeartbeats 1000000 in
theorem expr_7 {f0 f1 : Nat → Bool} (h : MI D K0 W) (c0 : KidC D 7 a b nm pe ks ce 0 f0) (c1 : KidC D 7 a b nm pe ks ce 1 f1) : Calls Tryz.prog 41 #[.pointer (some ⟨D.g, 0, none⟩), .agg #[.int .i64 7, .int .i64 a, .int .i64 b, .string ⟨nm.toArray⟩, .slice pe ks.length ce]] W fun r W' => r = .returned (.agg (mv (fun i => (f0 i && !f1 i) && decide (i < 1440)))) ∧ MQ D (Les K0) W W' := by
  have hz := mv_lit
  have b3 : Below W.heap.size W (((W.alloc (.cells #[.pointer (some ⟨D.g, 0, none⟩)] 80)).alloc (.cells #[.int .i64 7, .int .i64 a, .int .i64 b, .string ⟨nm.toArray⟩, .slice pe ks.length ce] 25)).alloc (.cells (mv fun _ => false) 29)) := (((Below.refl _ _).alloc (Nat.le_refl _) _).alloc (by simp) _).alloc (by simp only [size_alloc]; omega) _
  have nD : (((W.alloc (.cells #[.pointer (some ⟨D.g, 0, none⟩)] 80)).alloc (.cells #[.int .i64 7, .int .i64 a, .int .i64 b, .string ⟨nm.toArray⟩, .slice pe ks.length ce] 25)).alloc (.cells (mv fun _ => false) 29)).heap[W.heap.size]? = some (.cells #[.pointer (some ⟨D.g, 0, none⟩)] 80 (0, 0)) := by (repeat (first | refine blk_old _ _ _ (by simp only [size_alloc]; omega) ?_ | exact blk_new _ _ _ (by first | rfl | simp only [size_alloc])))
  have nE : (((W.alloc (.cells #[.pointer (some ⟨D.g, 0, none⟩)] 80)).alloc (.cells #[.int .i64 7, .int .i64 a, .int .i64 b, .string ⟨nm.toArray⟩, .slice pe ks.length ce] 25)).alloc (.cells (mv fun _ => false) 29)).heap[W.heap.size + 1]? = some (.cells #[.int .i64 7, .int .i64 a, .int .i64 b, .string ⟨nm.toArray⟩, .slice pe ks.length ce] 25 (0, 0)) := by (repeat (first | refine blk_old _ _ _ (by simp only [size_alloc]; omega) ?_ | exact blk_new _ _ _ (by first | rfl | simp only [size_alloc])))
  have nR : (((W.alloc (.cells #[.pointer (some ⟨D.g, 0, none⟩)] 80)).alloc (.cells #[.int .i64 7, .int .i64 a, .int .i64 b, .string ⟨nm.toArray⟩, .slice pe ks.length ce] 25)).alloc (.cells (mv fun _ => false) 29)).heap[W.heap.size + 1 + 1]? = some (.cells (mv fun _ => false) 29 (0, 0)) := by (repeat (first | refine blk_old _ _ _ (by simp only [size_alloc]; omega) ?_ | exact blk_new _ _ _ (by first | rfl | simp only [size_alloc])))
  generalize hwA : (((W.alloc (.cells #[.pointer (some ⟨D.g, 0, none⟩)] 80)).alloc (.cells #[.int .i64 7, .int .i64 a, .int .i64 b, .string ⟨nm.toArray⟩, .slice pe ks.length ce] 25)).alloc (.cells (mv fun _ => false) 29)) = W3 at *
  have hA := h.later b3
  have q3 : MQ D (Les K0) W3 W3 := MQ.start hA (Below.refl _ _)
  have z0 := (cell_of_row _ _ 0 _ _ _ nE).trans rfl
  clear hA
  go_enter Tryz.func41, Tryz.ntmps41
  go_wp2_with fail
  refine (MQ.kid h q3 c0 nD nE (by omega) (by omega)).mono ?_
  rintro r W4 ⟨rfl, q4⟩
  clear q3 z0 hwA
  go_wp2_with fail
  refine (MQ.kid h q4 c1 nD nE (by omega) (by omega)).mono ?_
  rintro r W5 ⟨rfl, q5⟩
  clear q4
  go_wp2_with fail
  refine (diff_any f0 f1 W5).mono ?_
  rintro r W6 ⟨rfl, hb6⟩
  have q9 := q5.low hb6
  have n9 := q9.own h (show W.heap.size ≤ W.heap.size + 1 + 1 by omega) nR
  have HQ := hid5 (MQ.ret h b3 (show W.heap.size ≤ W.heap.size + 1 + 1 by omega) q9 (mv (fun i => (f0 i && !f1 i) && decide (i < 1440))))
  clear q9 q5 hb6 nD nE nR
  go_wp2_with (refine wpList_store_row rfl 29 _ _ rfl _ _ rfl rfl _ _ n9 (maskSize _) (by simp [mv_size]) (mv_all _) ?_)
  refine bodyPost_ret (v := .agg (mv (fun i => (f0 i && !f1 i) && decide (i < 1440)))) ?_ rfl ⟨rfl, HQ.out⟩
  exact results_cell_row rfl _ _ (W.heap.size + 1 + 1) _ _ _ _ rfl (setRow_heap _ _ _ _ _ _ n9) maskType rfl (maskSize _)
set_option maxRecDepth 100000 in
set_option maxHeartbeats 1000000 in
theorem expr_8 {f0 f1 : Nat → Bool} (h : MI D K0 W) (c0 : KidC D 8 a b nm pe ks ce 0 f0) (c1 : KidC D 8 a b nm pe ks ce 1 f1) : Calls Tryz.prog 41 #[.pointer (some ⟨D.g, 0, none⟩), .agg #[.int .i64 8, .int .i64 a, .int .i64 b, .string ⟨nm.toArray⟩, .slice pe ks.length ce]] W fun r W' => r = .returned (.agg (mv (fun i => (f0 i && f1 i) && decide (i < 1440)))) ∧ MQ D (Les K0) W W' := by
  have hz := mv_lit
  have b3 : Below W.heap.size W (((W.alloc (.cells #[.pointer (some ⟨D.g, 0, none⟩)] 80)).alloc (.cells #[.int .i64 8, .int .i64 a, .int .i64 b, .string ⟨nm.toArray⟩, .slice pe ks.length ce] 25)).alloc (.cells (mv fun _ => false) 29)) := (((Below.refl _ _).alloc (Nat.le_refl _) _).alloc (by simp) _).alloc (by simp only [size_alloc]; omega) _
  have nD : (((W.alloc (.cells #[.pointer (some ⟨D.g, 0, none⟩)] 80)).alloc (.cells #[.int .i64 8, .int .i64 a, .int .i64 b, .string ⟨nm.toArray⟩, .slice pe ks.length ce] 25)).alloc (.cells (mv fun _ => false) 29)).heap[W.heap.size]? = some (.cells #[.pointer (some ⟨D.g, 0, none⟩)] 80 (0, 0)) := by (repeat (first | refine blk_old _ _ _ (by simp only [size_alloc]; omega) ?_ | exact blk_new _ _ _ (by first | rfl | simp only [size_alloc])))
  have nE : (((W.alloc (.cells #[.pointer (some ⟨D.g, 0, none⟩)] 80)).alloc (.cells #[.int .i64 8, .int .i64 a, .int .i64 b, .string ⟨nm.toArray⟩, .slice pe ks.length ce] 25)).alloc (.cells (mv fun _ => false) 29)).heap[W.heap.size + 1]? = some (.cells #[.int .i64 8, .int .i64 a, .int .i64 b, .string ⟨nm.toArray⟩, .slice pe ks.length ce] 25 (0, 0)) := by (repeat (first | refine blk_old _ _ _ (by simp only [size_alloc]; omega) ?_ | exact blk_new _ _ _ (by first | rfl | simp only [size_alloc])))
  have nR : (((W.alloc (.cells #[.pointer (some ⟨D.g, 0, none⟩)] 80)).alloc (.cells #[.int .i64 8, .int .i64 a, .int .i64 b, .string ⟨nm.toArray⟩, .slice pe ks.length ce] 25)).alloc (.cells (mv fun _ => false) 29)).heap[W.heap.size + 1 + 1]? = some (.cells (mv fun _ => false) 29 (0, 0)) := by (repeat (first | refine blk_old _ _ _ (by simp only [size_alloc]; omega) ?_ | exact blk_new _ _ _ (by first | rfl | simp only [size_alloc])))
  generalize hwA : (((W.alloc (.cells #[.pointer (some ⟨D.g, 0, none⟩)] 80)).alloc (.cells #[.int .i64 8, .int .i64 a, .int .i64 b, .string ⟨nm.toArray⟩, .slice pe ks.length ce] 25)).alloc (.cells (mv fun _ => false) 29)) = W3 at *
  have hA := h.later b3
  have q3 : MQ D (Les K0) W3 W3 := MQ.start hA (Below.refl _ _)
  have z0 := (cell_of_row _ _ 0 _ _ _ nE).trans rfl
  clear hA
  go_enter Tryz.func41, Tryz.ntmps41
  go_wp2_with fail
  refine (MQ.kid h q3 c0 nD nE (by omega) (by omega)).mono ?_
  rintro r W4 ⟨rfl, q4⟩
  clear q3 z0 hwA
  go_wp2_with fail
  refine (MQ.kid h q4 c1 nD nE (by omega) (by omega)).mono ?_
  rintro r W5 ⟨rfl, q5⟩
  clear q4
  go_wp2_with fail
  refine (both_any f0 f1 W5).mono ?_
  rintro r W6 ⟨rfl, hb6⟩
  have q9 := q5.low hb6
  have n9 := q9.own h (show W.heap.size ≤ W.heap.size + 1 + 1 by omega) nR
  have HQ := hid5 (MQ.ret h b3 (show W.heap.size ≤ W.heap.size + 1 + 1 by omega) q9 (mv (fun i => (f0 i && f1 i) && decide (i < 1440))))
  clear q9 q5 hb6 nD nE nR
  go_wp2_with (refine wpList_store_row rfl 29 _ _ rfl _ _ rfl rfl _ _ n9 (maskSize _) (by simp [mv_size]) (mv_all _) ?_)
  refine bodyPost_ret (v := .agg (mv (fun i => (f0 i && f1 i) && decide (i < 1440)))) ?_ rfl ⟨rfl, HQ.out⟩
  exact results_cell_row rfl _ _ (W.heap.size + 1 + 1) _ _ _ _ rfl (setRow_heap _ _ _ _ _ _ n9) maskType rfl (maskSize _)
set_option maxRecDepth 100000 in
set_option maxHeartbeats 1000000 in
theorem expr_4t {f0 : Nat → Bool} (h : MI D K0 W) (d0 : 0 ≤ D.day) (d1 : D.day < 146097) (hg : wkB D.day a = true) (c0 : KidC D 4 a b nm pe ks ce 0 f0) : Calls Tryz.prog 41 #[.pointer (some ⟨D.g, 0, none⟩), .agg #[.int .i64 4, .int .i64 a, .int .i64 b, .string ⟨nm.toArray⟩, .slice pe ks.length ce]] W fun r W' => r = .returned (.agg (mv f0)) ∧ MQ D (Les K0) W W' := by
  have hz := mv_lit
  have b3 : Below W.heap.size W (((W.alloc (.cells #[.pointer (some ⟨D.g, 0, none⟩)] 80)).alloc (.cells #[.int .i64 4, .int .i64 a, .int .i64 b, .string ⟨nm.toArray⟩, .slice pe ks.length ce] 25)).alloc (.cells (mv fun _ => false) 29)) := (((Below.refl _ _).alloc (Nat.le_refl _) _).alloc (by simp) _).alloc (by simp only [size_alloc]; omega) _
  have nD : (((W.alloc (.cells #[.pointer (some ⟨D.g, 0, none⟩)] 80)).alloc (.cells #[.int .i64 4, .int .i64 a, .int .i64 b, .string ⟨nm.toArray⟩, .slice pe ks.length ce] 25)).alloc (.cells (mv fun _ => false) 29)).heap[W.heap.size]? = some (.cells #[.pointer (some ⟨D.g, 0, none⟩)] 80 (0, 0)) := by (repeat (first | refine blk_old _ _ _ (by simp only [size_alloc]; omega) ?_ | exact blk_new _ _ _ (by first | rfl | simp only [size_alloc])))
  have nE : (((W.alloc (.cells #[.pointer (some ⟨D.g, 0, none⟩)] 80)).alloc (.cells #[.int .i64 4, .int .i64 a, .int .i64 b, .string ⟨nm.toArray⟩, .slice pe ks.length ce] 25)).alloc (.cells (mv fun _ => false) 29)).heap[W.heap.size + 1]? = some (.cells #[.int .i64 4, .int .i64 a, .int .i64 b, .string ⟨nm.toArray⟩, .slice pe ks.length ce] 25 (0, 0)) := by (repeat (first | refine blk_old _ _ _ (by simp only [size_alloc]; omega) ?_ | exact blk_new _ _ _ (by first | rfl | simp only [size_alloc])))
  have nR : (((W.alloc (.cells #[.pointer (some ⟨D.g, 0, none⟩)] 80)).alloc (.cells #[.int .i64 4, .int .i64 a, .int .i64 b, .string ⟨nm.toArray⟩, .slice pe ks.length ce] 25)).alloc (.cells (mv fun _ => false) 29)).heap[W.heap.size + 1 + 1]? = some (.cells (mv fun _ => false) 29 (0, 0)) := by (repeat (first | refine blk_old _ _ _ (by simp only [size_alloc]; omega) ?_ | exact blk_new _ _ _ (by first | rfl | simp only [size_alloc])))
  generalize hwA : (((W.alloc (.cells #[.pointer (some ⟨D.g, 0, none⟩)] 80)).alloc (.cells #[.int .i64 4, .int .i64 a, .int .i64 b, .string ⟨nm.toArray⟩, .slice pe ks.length ce] 25)).alloc (.cells (mv fun _ => false) 29)) = W3 at *
  have hA := h.later b3
  have q3 : MQ D (Les K0) W3 W3 := MQ.start hA (Below.refl _ _)
  have z0 := (cell_of_row _ _ 0 _ _ _ nE).trans rfl
  have hds : DaySt W3 D.g D.day D.lv D.mb (.slice (some ⟨D.gk, 0, none⟩) D.n D.n) (.slice (some ⟨D.gm, 0, none⟩) D.n D.n) := ⟨hA.blk⟩
  have cO := isOf4 D.g D.day D.lv D.mb _ _ (⟨4, a, b, nm, ks⟩ : Ex) pe ce W3 hds d0 d1 rfl
  rw [hg] at cO
  clear hA hds hg
  have kD := (cell_of_row _ _ 0 _ _ _ nD).trans rfl
  go_enter Tryz.func41, Tryz.ntmps41
  go_wp2_with (refine wpList_load_row rfl 25 _ rfl _ rfl _ _ _ _ nE exprType5 rfl (by kernel_rfl) ?_)
  refine cO.mono ?_
  rintro r W4 ⟨rfl, hb4⟩
  have q4 := q3.low hb4
  clear q3 z0 kD hwA cO hb4
  go_wp2_with fail
  refine (MQ.kid h q4 c0 nD nE (by omega) (by omega)).mono ?_
  rintro r W5 ⟨rfl, q9⟩
  clear q4
  have n9 := q9.own h (show W.heap.size ≤ W.heap.size + 1 + 1 by omega) nR
  have HQ := hid5 (MQ.ret h b3 (show W.heap.size ≤ W.heap.size + 1 + 1 by omega) q9 (mv f0))
  clear q9 nD nE nR
  go_wp2_with (refine wpList_store_row rfl 29 _ _ rfl _ _ rfl rfl _ _ n9 (maskSize _) (by simp [mv_size]) (mv_all _) ?_)
  refine bodyPost_ret (v := .agg (mv f0)) ?_ rfl ⟨rfl, HQ.out⟩
  exact results_cell_row rfl _ _ (W.heap.size + 1 + 1) _ _ _ _ rfl (setRow_heap _ _ _ _ _ _ n9) maskType rfl (maskSize _)
set_option maxRecDepth 100000 in
set_option maxHeartbeats 1000000 in
theorem expr_4f (h : MI D K0 W) (d0 : 0 ≤ D.day) (d1 : D.day < 146097) (hg : wkB D.day a = false) : Calls Tryz.prog 41 #[.pointer (some ⟨D.g, 0, none⟩), .agg #[.int .i64 4, .int .i64 a, .int .i64 b, .string ⟨nm.toArray⟩, .slice pe ks.length ce]] W fun r W' => r = .returned (.agg (mv (fun _ => false))) ∧ MQ D (Les K0) W W' := by
  have hz := mv_lit
  have b3 : Below W.heap.size W (((W.alloc (.cells #[.pointer (some ⟨D.g, 0, none⟩)] 80)).alloc (.cells #[.int .i64 4, .int .i64 a, .int .i64 b, .string ⟨nm.toArray⟩, .slice pe ks.length ce] 25)).alloc (.cells (mv fun _ => false) 29)) := (((Below.refl _ _).alloc (Nat.le_refl _) _).alloc (by simp) _).alloc (by simp only [size_alloc]; omega) _
  have nD : (((W.alloc (.cells #[.pointer (some ⟨D.g, 0, none⟩)] 80)).alloc (.cells #[.int .i64 4, .int .i64 a, .int .i64 b, .string ⟨nm.toArray⟩, .slice pe ks.length ce] 25)).alloc (.cells (mv fun _ => false) 29)).heap[W.heap.size]? = some (.cells #[.pointer (some ⟨D.g, 0, none⟩)] 80 (0, 0)) := by (repeat (first | refine blk_old _ _ _ (by simp only [size_alloc]; omega) ?_ | exact blk_new _ _ _ (by first | rfl | simp only [size_alloc])))
  have nE : (((W.alloc (.cells #[.pointer (some ⟨D.g, 0, none⟩)] 80)).alloc (.cells #[.int .i64 4, .int .i64 a, .int .i64 b, .string ⟨nm.toArray⟩, .slice pe ks.length ce] 25)).alloc (.cells (mv fun _ => false) 29)).heap[W.heap.size + 1]? = some (.cells #[.int .i64 4, .int .i64 a, .int .i64 b, .string ⟨nm.toArray⟩, .slice pe ks.length ce] 25 (0, 0)) := by (repeat (first | refine blk_old _ _ _ (by simp only [size_alloc]; omega) ?_ | exact blk_new _ _ _ (by first | rfl | simp only [size_alloc])))
  have nR : (((W.alloc (.cells #[.pointer (some ⟨D.g, 0, none⟩)] 80)).alloc (.cells #[.int .i64 4, .int .i64 a, .int .i64 b, .string ⟨nm.toArray⟩, .slice pe ks.length ce] 25)).alloc (.cells (mv fun _ => false) 29)).heap[W.heap.size + 1 + 1]? = some (.cells (mv fun _ => false) 29 (0, 0)) := by (repeat (first | refine blk_old _ _ _ (by simp only [size_alloc]; omega) ?_ | exact blk_new _ _ _ (by first | rfl | simp only [size_alloc])))
  generalize hwA : (((W.alloc (.cells #[.pointer (some ⟨D.g, 0, none⟩)] 80)).alloc (.cells #[.int .i64 4, .int .i64 a, .int .i64 b, .string ⟨nm.toArray⟩, .slice pe ks.length ce] 25)).alloc (.cells (mv fun _ => false) 29)) = W3 at *
  have hA := h.later b3
  have q3 : MQ D (Les K0) W3 W3 := MQ.start hA (Below.refl _ _)
  have z0 := (cell_of_row _ _ 0 _ _ _ nE).trans rfl
  have hds : DaySt W3 D.g D.day D.lv D.mb (.slice (some ⟨D.gk, 0, none⟩) D.n D.n) (.slice (some ⟨D.gm, 0, none⟩) D.n D.n) := ⟨hA.blk⟩
  have cO := isOf4 D.g D.day D.lv D.mb _ _ (⟨4, a, b, nm, ks⟩ : Ex) pe ce W3 hds d0 d1 rfl
  rw [hg] at cO
  clear hA hds hg
  have kD := (cell_of_row _ _ 0 _ _ _ nD).trans rfl
  go_enter Tryz.func41, Tryz.ntmps41
  go_wp2_with (refine wpList_load_row rfl 25 _ rfl _ rfl _ _ _ _ nE exprType5 rfl (by kernel_rfl) ?_)
  refine cO.mono ?_
  rintro r W4 ⟨rfl, hb4⟩
  have q9 := q3.low hb4
  clear q3 z0 kD hwA cO hb4
  have n9 := q9.own h (show W.heap.size ≤ W.heap.size + 1 + 1 by omega) nR
  have HQ := hid5 (MQ.ret h b3 (show W.heap.size ≤ W.heap.size + 1 + 1 by omega) q9 (mv (fun _ => false)))
  clear q9 nD nE nR
  go_wp2_with (refine wpList_store_row rfl 29 _ _ rfl _ _ rfl rfl _ _ n9 (maskSize _) (by simp [mv_size]) (mv_all _) ?_)
  refine bodyPost_ret (v := .agg (mv (fun _ => false))) ?_ rfl ⟨rfl, HQ.out⟩
  exact results_cell_row rfl _ _ (W.heap.size + 1 + 1) _ _ _ _ rfl (setRow_heap _ _ _ _ _ _ n9) maskType rfl (maskSize _)
set_option maxRecDepth 100000 in
set_option maxHeartbeats 1000000 in
theorem expr_5t {f0 : Nat → Bool} (h : MI D K0 W) (_ : 0 ≤ D.day) (_ : D.day < 146097) (hg : (decide (a ≤ D.day) && decide (D.day ≤ b)) = true) (c0 : KidC D 5 a b nm pe ks ce 0 f0) : Calls Tryz.prog 41 #[.pointer (some ⟨D.g, 0, none⟩), .agg #[.int .i64 5, .int .i64 a, .int .i64 b, .string ⟨nm.toArray⟩, .slice pe ks.length ce]] W fun r W' => r = .returned (.agg (mv f0)) ∧ MQ D (Les K0) W W' := by
  have hz := mv_lit
  have b3 : Below W.heap.size W (((W.alloc (.cells #[.pointer (some ⟨D.g, 0, none⟩)] 80)).alloc (.cells #[.int .i64 5, .int .i64 a, .int .i64 b, .string ⟨nm.toArray⟩, .slice pe ks.length ce] 25)).alloc (.cells (mv fun _ => false) 29)) := (((Below.refl _ _).alloc (Nat.le_refl _) _).alloc (by simp) _).alloc (by simp only [size_alloc]; omega) _
  have nD : (((W.alloc (.cells #[.pointer (some ⟨D.g, 0, none⟩)] 80)).alloc (.cells #[.int .i64 5, .int .i64 a, .int .i64 b, .string ⟨nm.toArray⟩, .slice pe ks.length ce] 25)).alloc (.cells (mv fun _ => false) 29)).heap[W.heap.size]? = some (.cells #[.pointer (some ⟨D.g, 0, none⟩)] 80 (0, 0)) := by (repeat (first | refine blk_old _ _ _ (by simp only [size_alloc]; omega) ?_ | exact blk_new _ _ _ (by first | rfl | simp only [size_alloc])))
  have nE : (((W.alloc (.cells #[.pointer (some ⟨D.g, 0, none⟩)] 80)).alloc (.cells #[.int .i64 5, .int .i64 a, .int .i64 b, .string ⟨nm.toArray⟩, .slice pe ks.length ce] 25)).alloc (.cells (mv fun _ => false) 29)).heap[W.heap.size + 1]? = some (.cells #[.int .i64 5, .int .i64 a, .int .i64 b, .string ⟨nm.toArray⟩, .slice pe ks.length ce] 25 (0, 0)) := by (repeat (first | refine blk_old _ _ _ (by simp only [size_alloc]; omega) ?_ | exact blk_new _ _ _ (by first | rfl | simp only [size_alloc])))
  have nR : (((W.alloc (.cells #[.pointer (some ⟨D.g, 0, none⟩)] 80)).alloc (.cells #[.int .i64 5, .int .i64 a, .int .i64 b, .string ⟨nm.toArray⟩, .slice pe ks.length ce] 25)).alloc (.cells (mv fun _ => false) 29)).heap[W.heap.size + 1 + 1]? = some (.cells (mv fun _ => false) 29 (0, 0)) := by (repeat (first | refine blk_old _ _ _ (by simp only [size_alloc]; omega) ?_ | exact blk_new _ _ _ (by first | rfl | simp only [size_alloc])))
  generalize hwA : (((W.alloc (.cells #[.pointer (some ⟨D.g, 0, none⟩)] 80)).alloc (.cells #[.int .i64 5, .int .i64 a, .int .i64 b, .string ⟨nm.toArray⟩, .slice pe ks.length ce] 25)).alloc (.cells (mv fun _ => false) 29)) = W3 at *
  have hA := h.later b3
  have q3 : MQ D (Les K0) W3 W3 := MQ.start hA (Below.refl _ _)
  have z0 := (cell_of_row _ _ 0 _ _ _ nE).trans rfl
  have hds : DaySt W3 D.g D.day D.lv D.mb (.slice (some ⟨D.gk, 0, none⟩) D.n D.n) (.slice (some ⟨D.gm, 0, none⟩) D.n D.n) := ⟨hA.blk⟩
  have cO := isOf5 D.g D.day D.lv D.mb _ _ (⟨5, a, b, nm, ks⟩ : Ex) pe ce W3 hds rfl
  rw [hg] at cO
  clear hA hds hg
  have kD := (cell_of_row _ _ 0 _ _ _ nD).trans rfl
  go_enter Tryz.func41, Tryz.ntmps41
  go_wp2_with (refine wpList_load_row rfl 25 _ rfl _ rfl _ _ _ _ nE exprType5 rfl (by kernel_rfl) ?_)
  refine cO.mono ?_
  rintro r W4 ⟨rfl, hb4⟩
  have q4 := q3.low hb4
  clear q3 z0 kD hwA cO hb4
  go_wp2_with fail
  refine (MQ.kid h q4 c0 nD nE (by omega) (by omega)).mono ?_
  rintro r W5 ⟨rfl, q9⟩
  clear q4
  have n9 := q9.own h (show W.heap.size ≤ W.heap.size + 1 + 1 by omega) nR
  have HQ := hid5 (MQ.ret h b3 (show W.heap.size ≤ W.heap.size + 1 + 1 by omega) q9 (mv f0))
  clear q9 nD nE nR
  go_wp2_with (refine wpList_store_row rfl 29 _ _ rfl _ _ rfl rfl _ _ n9 (maskSize _) (by simp [mv_size]) (mv_all _) ?_)
  refine bodyPost_ret (v := .agg (mv f0)) ?_ rfl ⟨rfl, HQ.out⟩
  exact results_cell_row rfl _ _ (W.heap.size + 1 + 1) _ _ _ _ rfl (setRow_heap _ _ _ _ _ _ n9) maskType rfl (maskSize _)
set_option maxRecDepth 100000 in
set_option maxHeartbeats 1000000 in
theorem expr_5f (h : MI D K0 W) (_ : 0 ≤ D.day) (_ : D.day < 146097) (hg : (decide (a ≤ D.day) && decide (D.day ≤ b)) = false) : Calls Tryz.prog 41 #[.pointer (some ⟨D.g, 0, none⟩), .agg #[.int .i64 5, .int .i64 a, .int .i64 b, .string ⟨nm.toArray⟩, .slice pe ks.length ce]] W fun r W' => r = .returned (.agg (mv (fun _ => false))) ∧ MQ D (Les K0) W W' := by
  have hz := mv_lit
  have b3 : Below W.heap.size W (((W.alloc (.cells #[.pointer (some ⟨D.g, 0, none⟩)] 80)).alloc (.cells #[.int .i64 5, .int .i64 a, .int .i64 b, .string ⟨nm.toArray⟩, .slice pe ks.length ce] 25)).alloc (.cells (mv fun _ => false) 29)) := (((Below.refl _ _).alloc (Nat.le_refl _) _).alloc (by simp) _).alloc (by simp only [size_alloc]; omega) _
  have nD : (((W.alloc (.cells #[.pointer (some ⟨D.g, 0, none⟩)] 80)).alloc (.cells #[.int .i64 5, .int .i64 a, .int .i64 b, .string ⟨nm.toArray⟩, .slice pe ks.length ce] 25)).alloc (.cells (mv fun _ => false) 29)).heap[W.heap.size]? = some (.cells #[.pointer (some ⟨D.g, 0, none⟩)] 80 (0, 0)) := by (repeat (first | refine blk_old _ _ _ (by simp only [size_alloc]; omega) ?_ | exact blk_new _ _ _ (by first | rfl | simp only [size_alloc])))
  have nE : (((W.alloc (.cells #[.pointer (some ⟨D.g, 0, none⟩)] 80)).alloc (.cells #[.int .i64 5, .int .i64 a, .int .i64 b, .string ⟨nm.toArray⟩, .slice pe ks.length ce] 25)).alloc (.cells (mv fun _ => false) 29)).heap[W.heap.size + 1]? = some (.cells #[.int .i64 5, .int .i64 a, .int .i64 b, .string ⟨nm.toArray⟩, .slice pe ks.length ce] 25 (0, 0)) := by (repeat (first | refine blk_old _ _ _ (by simp only [size_alloc]; omega) ?_ | exact blk_new _ _ _ (by first | rfl | simp only [size_alloc])))
  have nR : (((W.alloc (.cells #[.pointer (some ⟨D.g, 0, none⟩)] 80)).alloc (.cells #[.int .i64 5, .int .i64 a, .int .i64 b, .string ⟨nm.toArray⟩, .slice pe ks.length ce] 25)).alloc (.cells (mv fun _ => false) 29)).heap[W.heap.size + 1 + 1]? = some (.cells (mv fun _ => false) 29 (0, 0)) := by (repeat (first | refine blk_old _ _ _ (by simp only [size_alloc]; omega) ?_ | exact blk_new _ _ _ (by first | rfl | simp only [size_alloc])))
  generalize hwA : (((W.alloc (.cells #[.pointer (some ⟨D.g, 0, none⟩)] 80)).alloc (.cells #[.int .i64 5, .int .i64 a, .int .i64 b, .string ⟨nm.toArray⟩, .slice pe ks.length ce] 25)).alloc (.cells (mv fun _ => false) 29)) = W3 at *
  have hA := h.later b3
  have q3 : MQ D (Les K0) W3 W3 := MQ.start hA (Below.refl _ _)
  have z0 := (cell_of_row _ _ 0 _ _ _ nE).trans rfl
  have hds : DaySt W3 D.g D.day D.lv D.mb (.slice (some ⟨D.gk, 0, none⟩) D.n D.n) (.slice (some ⟨D.gm, 0, none⟩) D.n D.n) := ⟨hA.blk⟩
  have cO := isOf5 D.g D.day D.lv D.mb _ _ (⟨5, a, b, nm, ks⟩ : Ex) pe ce W3 hds rfl
  rw [hg] at cO
  clear hA hds hg
  have kD := (cell_of_row _ _ 0 _ _ _ nD).trans rfl
  go_enter Tryz.func41, Tryz.ntmps41
  go_wp2_with (refine wpList_load_row rfl 25 _ rfl _ rfl _ _ _ _ nE exprType5 rfl (by kernel_rfl) ?_)
  refine cO.mono ?_
  rintro r W4 ⟨rfl, hb4⟩
  have q9 := q3.low hb4
  clear q3 z0 kD hwA cO hb4
  have n9 := q9.own h (show W.heap.size ≤ W.heap.size + 1 + 1 by omega) nR
  have HQ := hid5 (MQ.ret h b3 (show W.heap.size ≤ W.heap.size + 1 + 1 by omega) q9 (mv (fun _ => false)))
  clear q9 nD nE nR
  go_wp2_with (refine wpList_store_row rfl 29 _ _ rfl _ _ rfl rfl _ _ n9 (maskSize _) (by simp [mv_size]) (mv_all _) ?_)
  refine bodyPost_ret (v := .agg (mv (fun _ => false))) ?_ rfl ⟨rfl, HQ.out⟩
  exact results_cell_row rfl _ _ (W.heap.size + 1 + 1) _ _ _ _ rfl (setRow_heap _ _ _ _ _ _ n9) maskType rfl (maskSize _)
end Go.Proofs.YtllcpoibnmhghaaGreatDoor
