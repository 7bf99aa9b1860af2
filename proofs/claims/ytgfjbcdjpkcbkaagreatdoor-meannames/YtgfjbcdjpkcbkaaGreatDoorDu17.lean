/- What an expression means, as the program finds it out: more kinds. Written by genmnh.py. -/
import Derived.Test.YtgfjbcdjpkcbkaaGreatDoorDu16
import Derived.Test.YtgfjbcdjpkcbkaaGreatDoorDu07
namespace Go.Proofs.YtgfjbcdjpkcbkaaGreatDoor
open Go.RowKit Lx Msk
variable {D : MD} {K0 : Nat → Bool} {W : World} {a b : Int} {nm : List UInt8} {pe : Option Addr} {ks : List Ex} {ce : Nat}
theorem inl_all : mv (inl [((0 : Int), (1440 : Int))]) = mv fun i => decide (i < 1440) := mv_ext fun i _ => by
  have : ((i : Int) < 1440) = (i < 1440) := by apply propext; omega
  simp [inl, this]
theorem inl_one6 (a b : Int) : mv (inl [(a, b)]) = mv fun i => (decide (a ≤ (i : Int)) && decide ((i : Int) < b)) && decide (i < 1440) := mv_ext fun i _ => by
  simp [inl]
set_option maxRecDepth 100000 in
set_option maxHeartbeats 1000000 in
theorem expr_1 (h : MI D K0 W)  : Calls Tryz.prog 35 #[.pointer (some ⟨D.g, 0, none⟩), .agg #[.int .i64 1, .int .i64 a, .int .i64 b, .string ⟨nm.toArray⟩, .slice pe ks.length ce]] W fun r W' => r = .returned (.agg (mv (fun _ => false))) ∧ MQ D (Les K0) W W' := by
  have hz := mv_lit
  have b3 : Below W.heap.size W (((W.alloc (.cells #[.pointer (some ⟨D.g, 0, none⟩)] 79)).alloc (.cells #[.int .i64 1, .int .i64 a, .int .i64 b, .string ⟨nm.toArray⟩, .slice pe ks.length ce] 31)).alloc (.cells (mv fun _ => false) 43)) := (((Below.refl _ _).alloc (Nat.le_refl _) _).alloc (by simp) _).alloc (by simp only [size_alloc]; omega) _
  have nD : (((W.alloc (.cells #[.pointer (some ⟨D.g, 0, none⟩)] 79)).alloc (.cells #[.int .i64 1, .int .i64 a, .int .i64 b, .string ⟨nm.toArray⟩, .slice pe ks.length ce] 31)).alloc (.cells (mv fun _ => false) 43)).heap[W.heap.size]? = some (.cells #[.pointer (some ⟨D.g, 0, none⟩)] 79 (0, 0)) := by (repeat (first | refine blk_old _ _ _ (by simp only [size_alloc]; omega) ?_ | exact blk_new _ _ _ (by first | rfl | simp only [size_alloc])))
  have nE : (((W.alloc (.cells #[.pointer (some ⟨D.g, 0, none⟩)] 79)).alloc (.cells #[.int .i64 1, .int .i64 a, .int .i64 b, .string ⟨nm.toArray⟩, .slice pe ks.length ce] 31)).alloc (.cells (mv fun _ => false) 43)).heap[W.heap.size + 1]? = some (.cells #[.int .i64 1, .int .i64 a, .int .i64 b, .string ⟨nm.toArray⟩, .slice pe ks.length ce] 31 (0, 0)) := by (repeat (first | refine blk_old _ _ _ (by simp only [size_alloc]; omega) ?_ | exact blk_new _ _ _ (by first | rfl | simp only [size_alloc])))
  have nR : (((W.alloc (.cells #[.pointer (some ⟨D.g, 0, none⟩)] 79)).alloc (.cells #[.int .i64 1, .int .i64 a, .int .i64 b, .string ⟨nm.toArray⟩, .slice pe ks.length ce] 31)).alloc (.cells (mv fun _ => false) 43)).heap[W.heap.size + 1 + 1]? = some (.cells (mv fun _ => false) 43 (0, 0)) := by (repeat (first | refine blk_old _ _ _ (by simp only [size_alloc]; omega) ?_ | exact blk_new _ _ _ (by first | rfl | simp only [size_alloc])))
  generalize hwA : (((W.alloc (.cells #[.pointer (some ⟨D.g, 0, none⟩)] 79)).alloc (.cells #[.int .i64 1, .int .i64 a, .int .i64 b, .string ⟨nm.toArray⟩, .slice pe ks.length ce] 31)).alloc (.cells (mv fun _ => false) 43)) = W3 at *
  have hA := h.later b3
  have q3 : MQ D (Les K0) W3 W3 := MQ.start hA (Below.refl _ _)
  have z0 := (cell_of_row _ _ 0 _ _ _ nE).trans rfl
  clear hA
  have q9 := q3
  clear q3
  have n9 := q9.own h (show W.heap.size ≤ W.heap.size + 1 + 1 by omega) nR
  have HQ := hid5 (MQ.ret h b3 (show W.heap.size ≤ W.heap.size + 1 + 1 by omega) q9 (mv fun _ => false))
  clear q9 nD nE
  go_enter Tryz.func35, Tryz.ntmps35
  go_wp2_with (refine wpList_store_row rfl 43 _ _ rfl _ _ rfl rfl _ _ n9 (maskSize _) (by simp [mv_size]) (mv_all _) ?_)
  refine bodyPost_ret (v := .agg (mv fun _ => false)) ?_ rfl ⟨rfl, HQ.out⟩
  exact results_cell_row rfl _ _ (W.heap.size + 1 + 1) _ _ _ _ rfl (setRow_heap _ _ _ _ _ _ n9) maskType rfl (maskSize _)
set_option maxRecDepth 100000 in
set_option maxHeartbeats 1000000 in
theorem expr_2 (h : MI D K0 W)  : Calls Tryz.prog 35 #[.pointer (some ⟨D.g, 0, none⟩), .agg #[.int .i64 2, .int .i64 a, .int .i64 b, .string ⟨nm.toArray⟩, .slice pe ks.length ce]] W fun r W' => r = .returned (.agg (mv (fun i => decide (i < 1440)))) ∧ MQ D (Les K0) W W' := by
  have hz := mv_lit
  have b3 : Below W.heap.size W (((W.alloc (.cells #[.pointer (some ⟨D.g, 0, none⟩)] 79)).alloc (.cells #[.int .i64 2, .int .i64 a, .int .i64 b, .string ⟨nm.toArray⟩, .slice pe ks.length ce] 31)).alloc (.cells (mv fun _ => false) 43)) := (((Below.refl _ _).alloc (Nat.le_refl _) _).alloc (by simp) _).alloc (by simp only [size_alloc]; omega) _
  have nD : (((W.alloc (.cells #[.pointer (some ⟨D.g, 0, none⟩)] 79)).alloc (.cells #[.int .i64 2, .int .i64 a, .int .i64 b, .string ⟨nm.toArray⟩, .slice pe ks.length ce] 31)).alloc (.cells (mv fun _ => false) 43)).heap[W.heap.size]? = some (.cells #[.pointer (some ⟨D.g, 0, none⟩)] 79 (0, 0)) := by (repeat (first | refine blk_old _ _ _ (by simp only [size_alloc]; omega) ?_ | exact blk_new _ _ _ (by first | rfl | simp only [size_alloc])))
  have nE : (((W.alloc (.cells #[.pointer (some ⟨D.g, 0, none⟩)] 79)).alloc (.cells #[.int .i64 2, .int .i64 a, .int .i64 b, .string ⟨nm.toArray⟩, .slice pe ks.length ce] 31)).alloc (.cells (mv fun _ => false) 43)).heap[W.heap.size + 1]? = some (.cells #[.int .i64 2, .int .i64 a, .int .i64 b, .string ⟨nm.toArray⟩, .slice pe ks.length ce] 31 (0, 0)) := by (repeat (first | refine blk_old _ _ _ (by simp only [size_alloc]; omega) ?_ | exact blk_new _ _ _ (by first | rfl | simp only [size_alloc])))
  have nR : (((W.alloc (.cells #[.pointer (some ⟨D.g, 0, none⟩)] 79)).alloc (.cells #[.int .i64 2, .int .i64 a, .int .i64 b, .string ⟨nm.toArray⟩, .slice pe ks.length ce] 31)).alloc (.cells (mv fun _ => false) 43)).heap[W.heap.size + 1 + 1]? = some (.cells (mv fun _ => false) 43 (0, 0)) := by (repeat (first | refine blk_old _ _ _ (by simp only [size_alloc]; omega) ?_ | exact blk_new _ _ _ (by first | rfl | simp only [size_alloc])))
  generalize hwA : (((W.alloc (.cells #[.pointer (some ⟨D.g, 0, none⟩)] 79)).alloc (.cells #[.int .i64 2, .int .i64 a, .int .i64 b, .string ⟨nm.toArray⟩, .slice pe ks.length ce] 31)).alloc (.cells (mv fun _ => false) 43)) = W3 at *
  have hA := h.later b3
  have q3 : MQ D (Les K0) W3 W3 := MQ.start hA (Below.refl _ _)
  have z0 := (cell_of_row _ _ 0 _ _ _ nE).trans rfl
  have z1 := (cell_of_row _ _ 1 _ _ _ nE).trans rfl
  have z2 := (cell_of_row _ _ 2 _ _ _ nE).trans rfl
  have b4 := (Below.refl W3.heap.size W3).alloc (Nat.le_refl _) (.cells #[.int .i64 0, .int .i64 1440] 52)
  have n4 := heap_alloc_new W3 (.cells #[.int .i64 0, .int .i64 1440] 52)
  generalize hwB : W3.alloc (.cells #[.int .i64 0, .int .i64 1440] 52) = W4 at *
  have cF := of_any _ _ W4 (row_at6 n4)
  rw [inl_all] at cF
  have q4 := q3.low b4
  clear hA q3 b4 n4
  go_enter Tryz.func35, Tryz.ntmps35
  go_wp2_with fail
  refine cF.mono ?_
  rintro r W5 ⟨rfl, hb5⟩
  have q9 := q4.low hb5
  clear q4 z0 z1 z2 hwA hwB cF hb5
  have n9 := q9.own h (show W.heap.size ≤ W.heap.size + 1 + 1 by omega) nR
  have HQ := hid5 (MQ.ret h b3 (show W.heap.size ≤ W.heap.size + 1 + 1 by omega) q9 (mv (fun i => decide (i < 1440))))
  clear q9 nD nE nR
  go_wp2_with (refine wpList_store_row rfl 43 _ _ rfl _ _ rfl rfl _ _ n9 (maskSize _) (by simp [mv_size]) (mv_all _) ?_)
  refine bodyPost_ret (v := .agg (mv (fun i => decide (i < 1440)))) ?_ rfl ⟨rfl, HQ.out⟩
  exact results_cell_row rfl _ _ (W.heap.size + 1 + 1) _ _ _ _ rfl (setRow_heap _ _ _ _ _ _ n9) maskType rfl (maskSize _)
set_option maxRecDepth 100000 in
set_option maxHeartbeats 1000000 in
theorem expr_3 (h : MI D K0 W)  : Calls Tryz.prog 35 #[.pointer (some ⟨D.g, 0, none⟩), .agg #[.int .i64 3, .int .i64 a, .int .i64 b, .string ⟨nm.toArray⟩, .slice pe ks.length ce]] W fun r W' => r = .returned (.agg (mv (fun i => (decide (a ≤ (i : Int)) && decide ((i : Int) < b)) && decide (i < 1440)))) ∧ MQ D (Les K0) W W' := by
  have hz := mv_lit
  have b3 : Below W.heap.size W (((W.alloc (.cells #[.pointer (some ⟨D.g, 0, none⟩)] 79)).alloc (.cells #[.int .i64 3, .int .i64 a, .int .i64 b, .string ⟨nm.toArray⟩, .slice pe ks.length ce] 31)).alloc (.cells (mv fun _ => false) 43)) := (((Below.refl _ _).alloc (Nat.le_refl _) _).alloc (by simp) _).alloc (by simp only [size_alloc]; omega) _
  have nD : (((W.alloc (.cells #[.pointer (some ⟨D.g, 0, none⟩)] 79)).alloc (.cells #[.int .i64 3, .int .i64 a, .int .i64 b, .string ⟨nm.toArray⟩, .slice pe ks.length ce] 31)).alloc (.cells (mv fun _ => false) 43)).heap[W.heap.size]? = some (.cells #[.pointer (some ⟨D.g, 0, none⟩)] 79 (0, 0)) := by (repeat (first | refine blk_old _ _ _ (by simp only [size_alloc]; omega) ?_ | exact blk_new _ _ _ (by first | rfl | simp only [size_alloc])))
  have nE : (((W.alloc (.cells #[.pointer (some ⟨D.g, 0, none⟩)] 79)).alloc (.cells #[.int .i64 3, .int .i64 a, .int .i64 b, .string ⟨nm.toArray⟩, .slice pe ks.length ce] 31)).alloc (.cells (mv fun _ => false) 43)).heap[W.heap.size + 1]? = some (.cells #[.int .i64 3, .int .i64 a, .int .i64 b, .string ⟨nm.toArray⟩, .slice pe ks.length ce] 31 (0, 0)) := by (repeat (first | refine blk_old _ _ _ (by simp only [size_alloc]; omega) ?_ | exact blk_new _ _ _ (by first | rfl | simp only [size_alloc])))
  have nR : (((W.alloc (.cells #[.pointer (some ⟨D.g, 0, none⟩)] 79)).alloc (.cells #[.int .i64 3, .int .i64 a, .int .i64 b, .string ⟨nm.toArray⟩, .slice pe ks.length ce] 31)).alloc (.cells (mv fun _ => false) 43)).heap[W.heap.size + 1 + 1]? = some (.cells (mv fun _ => false) 43 (0, 0)) := by (repeat (first | refine blk_old _ _ _ (by simp only [size_alloc]; omega) ?_ | exact blk_new _ _ _ (by first | rfl | simp only [size_alloc])))
  generalize hwA : (((W.alloc (.cells #[.pointer (some ⟨D.g, 0, none⟩)] 79)).alloc (.cells #[.int .i64 3, .int .i64 a, .int .i64 b, .string ⟨nm.toArray⟩, .slice pe ks.length ce] 31)).alloc (.cells (mv fun _ => false) 43)) = W3 at *
  have hA := h.later b3
  have q3 : MQ D (Les K0) W3 W3 := MQ.start hA (Below.refl _ _)
  have z0 := (cell_of_row _ _ 0 _ _ _ nE).trans rfl
  have z1 := (cell_of_row _ _ 1 _ _ _ nE).trans rfl
  have z2 := (cell_of_row _ _ 2 _ _ _ nE).trans rfl
  have b4 := (Below.refl W3.heap.size W3).alloc (Nat.le_refl _) (.cells #[.int .i64 a, .int .i64 b] 52)
  have n4 := heap_alloc_new W3 (.cells #[.int .i64 a, .int .i64 b] 52)
  generalize hwB : W3.alloc (.cells #[.int .i64 a, .int .i64 b] 52) = W4 at *
  have cF := of_any _ _ W4 (row_at6 n4)
  rw [inl_one6 a b] at cF
  have q4 := q3.low b4
  clear hA q3 b4 n4
  go_enter Tryz.func35, Tryz.ntmps35
  go_wp2_with fail
  refine cF.mono ?_
  rintro r W5 ⟨rfl, hb5⟩
  have q9 := q4.low hb5
  clear q4 z0 z1 z2 hwA hwB cF hb5
  have n9 := q9.own h (show W.heap.size ≤ W.heap.size + 1 + 1 by omega) nR
  have HQ := hid5 (MQ.ret h b3 (show W.heap.size ≤ W.heap.size + 1 + 1 by omega) q9 (mv (fun i => (decide (a ≤ (i : Int)) && decide ((i : Int) < b)) && decide (i < 1440))))
  clear q9 nD nE nR
  go_wp2_with (refine wpList_store_row rfl 43 _ _ rfl _ _ rfl rfl _ _ n9 (maskSize _) (by simp [mv_size]) (mv_all _) ?_)
  refine bodyPost_ret (v := .agg (mv (fun i => (decide (a ≤ (i : Int)) && decide ((i : Int) < b)) && decide (i < 1440)))) ?_ rfl ⟨rfl, HQ.out⟩
  exact results_cell_row rfl _ _ (W.heap.size + 1 + 1) _ _ _ _ rfl (setRow_heap _ _ _ _ _ _ n9) maskType rfl (maskSize _)
set_option maxRecDepth 100000 in
set_option maxHeartbeats 1000000 in
theorem expr_9 {f0 : Nat → Bool} (h : MI D K0 W) (a0 : -9223372036854775808 ≤ a) (a1 : a ≤ 9223372036854775807) (c0 : KidC D 9 a b nm pe ks ce 0 f0) : Calls Tryz.prog 35 #[.pointer (some ⟨D.g, 0, none⟩), .agg #[.int .i64 9, .int .i64 a, .int .i64 b, .string ⟨nm.toArray⟩, .slice pe ks.length ce]] W fun r W' => r = .returned (.agg (mv (shf f0 a))) ∧ MQ D (Les K0) W W' := by
  have hz := mv_lit
  have b3 : Below W.heap.size W (((W.alloc (.cells #[.pointer (some ⟨D.g, 0, none⟩)] 79)).alloc (.cells #[.int .i64 9, .int .i64 a, .int .i64 b, .string ⟨nm.toArray⟩, .slice pe ks.length ce] 31)).alloc (.cells (mv fun _ => false) 43)) := (((Below.refl _ _).alloc (Nat.le_refl _) _).alloc (by simp) _).alloc (by simp only [size_alloc]; omega) _
  have nD : (((W.alloc (.cells #[.pointer (some ⟨D.g, 0, none⟩)] 79)).alloc (.cells #[.int .i64 9, .int .i64 a, .int .i64 b, .string ⟨nm.toArray⟩, .slice pe ks.length ce] 31)).alloc (.cells (mv fun _ => false) 43)).heap[W.heap.size]? = some (.cells #[.pointer (some ⟨D.g, 0, none⟩)] 79 (0, 0)) := by (repeat (first | refine blk_old _ _ _ (by simp only [size_alloc]; omega) ?_ | exact blk_new _ _ _ (by first | rfl | simp only [size_alloc])))
  have nE : (((W.alloc (.cells #[.pointer (some ⟨D.g, 0, none⟩)] 79)).alloc (.cells #[.int .i64 9, .int .i64 a, .int .i64 b, .string ⟨nm.toArray⟩, .slice pe ks.length ce] 31)).alloc (.cells (mv fun _ => false) 43)).heap[W.heap.size + 1]? = some (.cells #[.int .i64 9, .int .i64 a, .int .i64 b, .string ⟨nm.toArray⟩, .slice pe ks.length ce] 31 (0, 0)) := by (repeat (first | refine blk_old _ _ _ (by simp only [size_alloc]; omega) ?_ | exact blk_new _ _ _ (by first | rfl | simp only [size_alloc])))
  have nR : (((W.alloc (.cells #[.pointer (some ⟨D.g, 0, none⟩)] 79)).alloc (.cells #[.int .i64 9, .int .i64 a, .int .i64 b, .string ⟨nm.toArray⟩, .slice pe ks.length ce] 31)).alloc (.cells (mv fun _ => false) 43)).heap[W.heap.size + 1 + 1]? = some (.cells (mv fun _ => false) 43 (0, 0)) := by (repeat (first | refine blk_old _ _ _ (by simp only [size_alloc]; omega) ?_ | exact blk_new _ _ _ (by first | rfl | simp only [size_alloc])))
  generalize hwA : (((W.alloc (.cells #[.pointer (some ⟨D.g, 0, none⟩)] 79)).alloc (.cells #[.int .i64 9, .int .i64 a, .int .i64 b, .string ⟨nm.toArray⟩, .slice pe ks.length ce] 31)).alloc (.cells (mv fun _ => false) 43)) = W3 at *
  have hA := h.later b3
  have q3 : MQ D (Les K0) W3 W3 := MQ.start hA (Below.refl _ _)
  have z0 := (cell_of_row _ _ 0 _ _ _ nE).trans rfl
  have HC := hid5 c0
  clear hA c0
  go_enter Tryz.func35, Tryz.ntmps35
  go_wp2_with fail
  clear hwA z0
  refine wp_region_lastK (MQ D (Les K0) W3) (q3.drew) (by kernel_rfl) (by kernel_rfl) (by kernel_rfl) (by kernel_rfl) 5 (by kernel_rfl) (by kernel_rfl) [(54, .func (.func 44) #[] #[.pointer (some ⟨W.heap.size, 0, none⟩), .pointer (some ⟨W.heap.size + 1, 0, none⟩)]), (55, .agg (mv f0)), (56, .pointer (some ⟨W.heap.size + 1, 1, none⟩)), (57, .int .i64 a), (58, .agg (mv (shf f0 a)))] (by kernel_rfl) (by kernel_rfl) ?_ ?_
  · intro i' s v o' L A W2 ho hv hdep hJ hkept hhas
    match i', ho, hv with
    | 0, ho, hv =>
      cases Option.some.inj ho
      cases Option.some.inj hv
      have h5 : A.tmps[5]?.getD undef = .func (.func 44) #[] #[.pointer (some ⟨W.heap.size, 0, none⟩), .pointer (some ⟨W.heap.size + 1, 0, none⟩)] := (gd A 5).trans (hkept 5 (by kernel_rfl))
      refine wpOp_step rfl (fun K hK => ?_)
      go_simp
      exact hK _ _ ⟨rfl, hJ⟩
    | 1, ho, hv =>
      cases Option.some.inj ho
      cases Option.some.inj hv
      have h54 : A.tmps[54]?.getD undef = .func (.func 44) #[] #[.pointer (some ⟨W.heap.size, 0, none⟩), .pointer (some ⟨W.heap.size + 1, 0, none⟩)] := (gd A 54).trans (hhas 0 54 _ rfl (hdep ⟨0, .data⟩ (by simp) rfl))
      refine wpOp_step rfl (fun K hK => ?_)
      go_simp
      refine (MQ.kid h hJ HC.out nD nE (by omega) (by omega)).mono ?_
      rintro e' W' ⟨rfl, hb'⟩
      exact hK _ _ ⟨rfl, hb'⟩
    | 2, ho, hv =>
      cases Option.some.inj ho
      cases Option.some.inj hv
      have h3 : A.tmps[3]?.getD undef = .pointer (some ⟨W.heap.size + 1, 0, none⟩) := (gd A 3).trans (hkept 3 (by kernel_rfl))
      refine wpOp_step rfl (fun K hK => ?_)
      go_simp
      exact hK _ _ ⟨rfl, hJ⟩
    | 3, ho, hv =>
      cases Option.some.inj ho
      cases Option.some.inj hv
      have h56 : A.tmps[56]?.getD undef = .pointer (some ⟨W.heap.size + 1, 1, none⟩) := (gd A 56).trans (hhas 2 56 _ rfl (hdep ⟨2, .data⟩ (by simp) rfl))
      have k1 : W2.cell? ⟨W.heap.size + 1, 1, none⟩ = some (.int .i64 a) := (cell_of_row _ _ 1 _ _ _ (hJ.own h (show W.heap.size ≤ W.heap.size + 1 by omega) nE)).trans rfl
      refine wpOp_step rfl (fun K hK => ?_)
      go_simp
      exact hK _ _ ⟨rfl, hJ⟩
    | 4, ho, hv =>
      cases Option.some.inj ho
      cases Option.some.inj hv
      have h55 : A.tmps[55]?.getD undef = .agg (mv f0) := (gd A 55).trans (hhas 1 55 _ rfl (hdep ⟨1, .data⟩ (by simp) rfl))
      have h57 : A.tmps[57]?.getD undef = .int .i64 a := (gd A 57).trans (hhas 3 57 _ rfl (hdep ⟨3, .data⟩ (by simp) rfl))
      refine wpOp_step rfl (fun K hK => ?_)
      go_simp
      refine (mshift_any f0 a W2 (by omega) (by omega)).mono ?_
      rintro e' W' ⟨rfl, hb'⟩
      exact hK _ _ ⟨rfl, hJ.low hb'⟩
    | kk + 5, ho, hv => simp at hv
  · intro o' W2 A ho hJ hA
    cases Option.some.inj ho
    have hx : A.eval (.tmp 4) = .pointer (some ⟨W.heap.size + 1 + 1, 0, none⟩) := by
      rw [hA]
      simp only [putAll_cons, putAll_nil, Act.put, List.setIfInBounds_toArray, List.set_cons_succ, List.set_cons_zero]
      rfl
    have hy : A.eval (.tmp 58) = .agg (mv (shf f0 a)) := by
      rw [hA]
      simp only [putAll_cons, putAll_nil, Act.put, List.setIfInBounds_toArray, List.set_cons_succ, List.set_cons_zero]
      rfl
    have n2 := hJ.own h (show W.heap.size ≤ W.heap.size + 1 + 1 by omega) nR
    refine wpOp_step rfl (fun K hK => ?_)
    show Oper.wp _ _ _ _ _ _
    refine wp_store_row 43 _ _ rfl _ _ hx hy _ _ n2 (maskSize _) (by simp [mv_size]) (mv_all _) ?_
    refine hK _ _ ⟨⟨undef, rfl⟩, ?_⟩
    change Exit.then _ _ Exit.normal A _
    subst hA
    simp only [putAll_cons, putAll_nil, Act.put, List.setIfInBounds_toArray, List.set_cons_succ, List.set_cons_zero]
    have HQ := hid5 (MQ.ret h b3 (show W.heap.size ≤ W.heap.size + 1 + 1 by omega) hJ (mv (shf f0 a)))
    have N2 := hid5 (setRow_heap _ _ _ (mv (shf f0 a)) _ _ n2)
    clear hK hJ hx hy
    go_wp2_with fail
    refine bodyPost_ret (v := .agg (mv (shf f0 a))) ?_ rfl ⟨rfl, HQ.out⟩
    exact results_cell_row rfl _ _ (W.heap.size + 1 + 1) _ _ _ _ rfl N2.out maskType rfl (maskSize _)
set_option maxRecDepth 100000 in
set_option maxHeartbeats 1000000 in
theorem expr_10 {f0 : Nat → Bool} {R : (Nat → Bool) → Prop} (h : MI D K0 W) (hx : 0 ≤ atP5 D.l nm) (c0 : ∀ (K : Nat → Bool) (W : World), MI D K W → Calls Tryz.prog 24 #[.pointer (some ⟨D.g, 0, none⟩), .int .i64 (atP5 D.l nm)] W fun r W' => r = .returned (.agg (mv f0)) ∧ MQ D (fun K' => Les K K' ∧ R K') W W') : Calls Tryz.prog 35 #[.pointer (some ⟨D.g, 0, none⟩), .agg #[.int .i64 10, .int .i64 a, .int .i64 b, .string ⟨nm.toArray⟩, .slice pe ks.length ce]] W fun r W' => r = .returned (.agg (mv f0)) ∧ MQ D (Les K0) W W' := by
  have hz := mv_lit
  have b3 : Below W.heap.size W (((W.alloc (.cells #[.pointer (some ⟨D.g, 0, none⟩)] 79)).alloc (.cells #[.int .i64 10, .int .i64 a, .int .i64 b, .string ⟨nm.toArray⟩, .slice pe ks.length ce] 31)).alloc (.cells (mv fun _ => false) 43)) := (((Below.refl _ _).alloc (Nat.le_refl _) _).alloc (by simp) _).alloc (by simp only [size_alloc]; omega) _
  have nD : (((W.alloc (.cells #[.pointer (some ⟨D.g, 0, none⟩)] 79)).alloc (.cells #[.int .i64 10, .int .i64 a, .int .i64 b, .string ⟨nm.toArray⟩, .slice pe ks.length ce] 31)).alloc (.cells (mv fun _ => false) 43)).heap[W.heap.size]? = some (.cells #[.pointer (some ⟨D.g, 0, none⟩)] 79 (0, 0)) := by (repeat (first | refine blk_old _ _ _ (by simp only [size_alloc]; omega) ?_ | exact blk_new _ _ _ (by first | rfl | simp only [size_alloc])))
  have nE : (((W.alloc (.cells #[.pointer (some ⟨D.g, 0, none⟩)] 79)).alloc (.cells #[.int .i64 10, .int .i64 a, .int .i64 b, .string ⟨nm.toArray⟩, .slice pe ks.length ce] 31)).alloc (.cells (mv fun _ => false) 43)).heap[W.heap.size + 1]? = some (.cells #[.int .i64 10, .int .i64 a, .int .i64 b, .string ⟨nm.toArray⟩, .slice pe ks.length ce] 31 (0, 0)) := by (repeat (first | refine blk_old _ _ _ (by simp only [size_alloc]; omega) ?_ | exact blk_new _ _ _ (by first | rfl | simp only [size_alloc])))
  have nR : (((W.alloc (.cells #[.pointer (some ⟨D.g, 0, none⟩)] 79)).alloc (.cells #[.int .i64 10, .int .i64 a, .int .i64 b, .string ⟨nm.toArray⟩, .slice pe ks.length ce] 31)).alloc (.cells (mv fun _ => false) 43)).heap[W.heap.size + 1 + 1]? = some (.cells (mv fun _ => false) 43 (0, 0)) := by (repeat (first | refine blk_old _ _ _ (by simp only [size_alloc]; omega) ?_ | exact blk_new _ _ _ (by first | rfl | simp only [size_alloc])))
  generalize hwA : (((W.alloc (.cells #[.pointer (some ⟨D.g, 0, none⟩)] 79)).alloc (.cells #[.int .i64 10, .int .i64 a, .int .i64 b, .string ⟨nm.toArray⟩, .slice pe ks.length ce] 31)).alloc (.cells (mv fun _ => false) 43)) = W3 at *
  have hA := h.later b3
  have q3 : MQ D (Les K0) W3 W3 := MQ.start hA (Below.refl _ _)
  have z0 := (cell_of_row _ _ 0 _ _ _ nE).trans rfl
  have HC := hid5 c0
  clear hA c0
  go_enter Tryz.func35, Tryz.ntmps35
  go_wp2_with fail
  clear hwA z0
  refine wp_region_lastK (MQ D (Les K0) W3) (q3.drew) (by kernel_rfl) (by kernel_rfl) (by kernel_rfl) (by kernel_rfl) 9 (by kernel_rfl) (by kernel_rfl) [(61, .pointer (some ⟨D.g, 0, none⟩)), (62, .pointer (some ⟨D.g, 0, none⟩)), (63, .pointer (some ⟨D.g, 0, none⟩)), (64, .pointer (some ⟨D.g, 2, none⟩)), (65, .map (some D.mb)), (66, .pointer (some ⟨W.heap.size + 1, 3, none⟩)), (67, .string ⟨nm.toArray⟩), (68, .int .i64 (atP5 D.l nm)), (69, .agg (mv f0))] (by kernel_rfl) (by kernel_rfl) ?_ ?_
  · intro i' s v o' L A W2 ho hv hdep hJ hkept hhas
    match i', ho, hv with
    | 0, ho, hv =>
      cases Option.some.inj ho
      cases Option.some.inj hv
      have h2 : A.tmps[2]?.getD undef = .pointer (some ⟨W.heap.size, 0, none⟩) := (gd A 2).trans (hkept 2 (by kernel_rfl))
      have k0 : W2.cell? ⟨W.heap.size, 0, none⟩ = some (.pointer (some ⟨D.g, 0, none⟩)) := (cell_of_row _ _ 0 _ _ _ (hJ.own h (show W.heap.size ≤ W.heap.size by omega) nD)).trans rfl
      refine wpOp_step rfl (fun K hK => ?_)
      go_simp
      exact hK _ _ ⟨rfl, hJ⟩
    | 1, ho, hv =>
      cases Option.some.inj ho
      cases Option.some.inj hv
      have h2 : A.tmps[2]?.getD undef = .pointer (some ⟨W.heap.size, 0, none⟩) := (gd A 2).trans (hkept 2 (by kernel_rfl))
      have k0 : W2.cell? ⟨W.heap.size, 0, none⟩ = some (.pointer (some ⟨D.g, 0, none⟩)) := (cell_of_row _ _ 0 _ _ _ (hJ.own h (show W.heap.size ≤ W.heap.size by omega) nD)).trans rfl
      refine wpOp_step rfl (fun K hK => ?_)
      go_simp
      exact hK _ _ ⟨rfl, hJ⟩
    | 2, ho, hv =>
      cases Option.some.inj ho
      cases Option.some.inj hv
      have h62 : A.tmps[62]?.getD undef = .pointer (some ⟨D.g, 0, none⟩) := (gd A 62).trans (hhas 1 62 _ rfl (hdep ⟨1, .data⟩ (by simp) rfl))
      refine wpOp_step rfl (fun K hK => ?_)
      go_simp
      exact hK _ _ ⟨rfl, hJ⟩
    | 3, ho, hv =>
      cases Option.some.inj ho
      cases Option.some.inj hv
      have h63 : A.tmps[63]?.getD undef = .pointer (some ⟨D.g, 0, none⟩) := (gd A 63).trans (hhas 2 63 _ rfl (hdep ⟨2, .data⟩ (by simp) rfl))
      refine wpOp_step rfl (fun K hK => ?_)
      go_simp
      exact hK _ _ ⟨rfl, hJ⟩
    | 4, ho, hv =>
      cases Option.some.inj ho
      cases Option.some.inj hv
      have h64 : A.tmps[64]?.getD undef = .pointer (some ⟨D.g, 2, none⟩) := (gd A 64).trans (hhas 3 64 _ rfl (hdep ⟨3, .data⟩ (by simp) rfl))
      have k2 : W2.cell? ⟨D.g, 2, none⟩ = some (.map (some D.mb)) := (cell_of_row _ _ 2 _ _ _ hJ.blk).trans rfl
      refine wpOp_step rfl (fun K hK => ?_)
      go_simp
      exact hK _ _ ⟨rfl, hJ⟩
    | 5, ho, hv =>
      cases Option.some.inj ho
      cases Option.some.inj hv
      have h3 : A.tmps[3]?.getD undef = .pointer (some ⟨W.heap.size + 1, 0, none⟩) := (gd A 3).trans (hkept 3 (by kernel_rfl))
      refine wpOp_step rfl (fun K hK => ?_)
      go_simp
      exact hK _ _ ⟨rfl, hJ⟩
    | 6, ho, hv =>
      cases Option.some.inj ho
      cases Option.some.inj hv
      have h66 : A.tmps[66]?.getD undef = .pointer (some ⟨W.heap.size + 1, 3, none⟩) := (gd A 66).trans (hhas 5 66 _ rfl (hdep ⟨5, .data⟩ (by simp) rfl))
      have k3 : W2.cell? ⟨W.heap.size + 1, 3, none⟩ = some (.string ⟨nm.toArray⟩) := (cell_of_row _ _ 3 _ _ _ (hJ.own h (show W.heap.size ≤ W.heap.size + 1 by omega) nE)).trans rfl
      refine wpOp_step rfl (fun K hK => ?_)
      go_simp
      exact hK _ _ ⟨rfl, hJ⟩
    | 7, ho, hv =>
      cases Option.some.inj ho
      cases Option.some.inj hv
      have h65 : A.tmps[65]?.getD undef = .map (some D.mb) := (gd A 65).trans (hhas 4 65 _ rfl (hdep ⟨4, .data⟩ (by simp) rfl))
      have h67 : A.tmps[67]?.getD undef = .string ⟨nm.toArray⟩ := (gd A 67).trans (hhas 6 67 _ rfl (hdep ⟨6, .data⟩ (by simp) rfl))
      have hlk := look6 hJ.nums nm hx
      refine wpOp_step rfl (fun K hK => ?_)
      go_simp
      exact hK _ _ ⟨rfl, hJ⟩
    | 8, ho, hv =>
      cases Option.some.inj ho
      cases Option.some.inj hv
      have h61 : A.tmps[61]?.getD undef = .pointer (some ⟨D.g, 0, none⟩) := (gd A 61).trans (hhas 0 61 _ rfl (hdep ⟨0, .data⟩ (by simp) rfl))
      have h68 : A.tmps[68]?.getD undef = .int .i64 (atP5 D.l nm) := (gd A 68).trans (hhas 7 68 _ rfl (hdep ⟨7, .data⟩ (by simp) rfl))
      obtain ⟨⟨K1, hM1, hle1⟩, hkp1⟩ := id hJ
      refine wpOp_step rfl (fun K hK => ?_)
      go_simp
      refine (HC.out K1 W2 hM1).mono ?_
      rintro e' W' ⟨rfl, hb'⟩
      exact hK _ _ ⟨rfl, MQ.onP hle1 hkp1 hb'⟩
    | kk + 9, ho, hv => simp at hv
  · intro o' W2 A ho hJ hA
    cases Option.some.inj ho
    have hx : A.eval (.tmp 4) = .pointer (some ⟨W.heap.size + 1 + 1, 0, none⟩) := by
      rw [hA]
      simp only [putAll_cons, putAll_nil, Act.put, List.setIfInBounds_toArray, List.set_cons_succ, List.set_cons_zero]
      rfl
    have hy : A.eval (.tmp 69) = .agg (mv f0) := by
      rw [hA]
      simp only [putAll_cons, putAll_nil, Act.put, List.setIfInBounds_toArray, List.set_cons_succ, List.set_cons_zero]
      rfl
    have n2 := hJ.own h (show W.heap.size ≤ W.heap.size + 1 + 1 by omega) nR
    refine wpOp_step rfl (fun K hK => ?_)
    show Oper.wp _ _ _ _ _ _
    refine wp_store_row 43 _ _ rfl _ _ hx hy _ _ n2 (maskSize _) (by simp [mv_size]) (mv_all _) ?_
    refine hK _ _ ⟨⟨undef, rfl⟩, ?_⟩
    change Exit.then _ _ Exit.normal A _
    subst hA
    simp only [putAll_cons, putAll_nil, Act.put, List.setIfInBounds_toArray, List.set_cons_succ, List.set_cons_zero]
    have HQ := hid5 (MQ.ret h b3 (show W.heap.size ≤ W.heap.size + 1 + 1 by omega) hJ (mv f0))
    have N2 := hid5 (setRow_heap _ _ _ (mv f0) _ _ n2)
    clear hK hJ hx hy
    go_wp2_with fail
    refine bodyPost_ret (v := .agg (mv f0)) ?_ rfl ⟨rfl, HQ.out⟩
    exact results_cell_row rfl _ _ (W.heap.size + 1 + 1) _ _ _ _ rfl N2.out maskType rfl (maskSize _)
end Go.Proofs.YtgfjbcdjpkcbkaaGreatDoor

/- An expression with which nothing is wrong: plain. -/
namespace Lx
def OKE (e : Ex) : Prop := ∃ deep n, (shapeP e deep n).1 = 0
theorem OKE.alone {e : Ex} (h : OKE e) : aloneP e = 0 := by
  obtain ⟨deep, n, h⟩ := h
  rw [shapeP_eq] at h
  split at h
  · cases h
  · split at h
    · rename_i h2; exact absurd h h2
    · rename_i h2; simpa using h2
theorem shapeL_all {deep : Nat} : ∀ {ks : List Ex} {acc : Int × Nat}, (shapeL ks deep acc).1 = 0 → ∀ k ∈ ks, OKE k
  | [], _, _, k, hk => by cases hk
  | k' :: ks, acc, h, k, hk => by
    rw [shapeL_cons] at h
    by_cases hb : acc.1 ≠ 0
    · rw [if_pos hb, shapeL_bad hb] at h; exact absurd h hb
    rw [if_neg hb] at h
    have hz : (shapeP k' deep acc.2).1 = 0 := by
      by_cases hz : (shapeP k' deep acc.2).1 = 0
      · exact hz
      · rw [shapeL_bad hz] at h; exact h
    rcases List.mem_cons.1 hk with rfl | hk
    · exact ⟨_, _, hz⟩
    · exact shapeL_all h k hk
theorem OKE.kid {e k : Ex} (h : OKE e) (hk : k ∈ e.kids) : OKE k := by
  have ha := h.alone
  obtain ⟨deep, n, h⟩ := h
  rw [shapeP_eq] at h
  split at h
  · cases h
  · rw [if_neg (by simpa using ha)] at h
    exact shapeL_all h k hk
theorem OKE.kinds {e : Ex} (h : OKE e) : 1 ≤ e.kind ∧ e.kind ≤ 10 ∧ e.kids.length = kidsP e.kind ∧ rangeP e.kind e.a e.b = true ∧ (e.kind = 10 → Go.Proofs.YtgfjbcdjpkcbkaaGreatDoor.namedL e.name = true) := by
  have ha := h.alone
  unfold aloneP at ha
  split at ha
  · cases ha
  · split at ha
    · cases ha
    · split at ha
      · cases ha
      · split at ha
        · cases ha
        · rename_i h1 h2 h3 h4
          refine ⟨by omega, by omega, by simpa using h2, by simpa using h3, fun hk => ?_⟩
          cases hn : Go.Proofs.YtgfjbcdjpkcbkaaGreatDoor.namedL e.name with
          | true => rfl
          | false => exact absurd ⟨hk, hn⟩ h4
theorem OKE.kid0 {e : Ex} (h : OKE e) (hk : 1 ≤ kidsP e.kind) : ∃ k, e.kids[0]? = some k ∧ OKE k := by
  have hl := h.kinds.2.2.1
  exact ⟨e.kids[0]'(by omega), List.getElem?_eq_getElem _, h.kid (List.getElem_mem _)⟩
theorem OKE.kid1 {e : Ex} (h : OKE e) (hk : 2 ≤ kidsP e.kind) : ∃ k, e.kids[1]? = some k ∧ OKE k := by
  have hl := h.kinds.2.2.1
  exact ⟨e.kids[1]'(by omega), List.getElem?_eq_getElem _, h.kid (List.getElem_mem _)⟩
end Lx

/- What expressions and rules mean, as the program finds it out. -/
namespace Go.Proofs.YtgfjbcdjpkcbkaaGreatDoor
open Go.RowKit Lx Msk
theorem wrongL_oke : ∀ {l : List Ru} {i : Nat}, (wrongL l i).1 = 0 → ∀ u ∈ l, OKE u.2
  | [], _, _, u, hu => by cases hu
  | v :: l, i, h, u, hu => by
    unfold wrongL at h
    split at h
    · rename_i h1
      exact absurd h h1
    · rename_i h1
      rcases List.mem_cons.1 hu with rfl | hu
      · have h2 : ruleP u = 0 := by simpa using h1
        unfold ruleP at h2
        split at h2
        · cases h2
        · exact ⟨_, _, h2⟩
      · exact wrongL_oke h u hu
theorem wrongR_oke {l : List Ru} (h : (wrongR l).1 = 0) : l.length ≤ 40 ∧ ∀ u ∈ l, OKE u.2 := by
  unfold wrongR at h
  split at h
  · cases h
  · exact ⟨by omega, wrongL_oke h⟩
def RuleC (D : MD) (i : Int) (f : Nat → Bool) : Prop := ∀ (K : Nat → Bool) (W : World), MI D K W → Calls Tryz.prog 24 #[.pointer (some ⟨D.g, 0, none⟩), .int .i64 i] W fun r W' => r = .returned (.agg (mv f)) ∧ MQ D (fun K' => Les K K' ∧ K' i.toNat = true) W W'
section
variable {wk : Bool} {day a b : Int} {nm : Nat → Bool} {ks : List (Nat → Bool)}
theorem valK_1 : valK wk day 1 a b nm ks = fun _ => false := rfl
theorem valK_2 : valK wk day 2 a b nm ks = fun i => decide (i < 1440) := rfl
theorem valK_3 : valK wk day 3 a b nm ks = fun i : Nat => (decide (a ≤ (i : Int)) && decide ((i : Int) < b)) && decide (i < 1440) := rfl
theorem valK_4 : valK wk day 4 a b nm ks = if wk = true then ks.getD 0 nev else fun _ => false := rfl
theorem valK_5 : valK wk day 5 a b nm ks = if a ≤ day ∧ day ≤ b then ks.getD 0 nev else fun _ => false := rfl
theorem valK_6 : valK wk day 6 a b nm ks = fun i => (ks.getD 0 nev i || ks.getD 1 nev i) && decide (i < 1440) := rfl
theorem valK_7 : valK wk day 7 a b nm ks = fun i => (ks.getD 0 nev i && !ks.getD 1 nev i) && decide (i < 1440) := rfl
theorem valK_8 : valK wk day 8 a b nm ks = fun i => (ks.getD 0 nev i && ks.getD 1 nev i) && decide (i < 1440) := rfl
theorem valK_9 : valK wk day 9 a b nm ks = shf (ks.getD 0 nev) a := rfl
theorem valK_10 : valK wk day 10 a b nm ks = nm := rfl
end
theorem mapD_at {F : Ex → Nat → Bool} {ks : List Ex} {j : Nat} {k : Ex} (h : ks[j]? = some k) : (ks.map F).getD j nev = F k := by
  rw [List.getD_eq_getElem?_getD, List.getElem?_map, h]
  rfl
theorem mexpr_step {D : MD} {K0 : Nat → Bool} {W : World} {env : List UInt8 → Nat → Bool} {e : Ex} {pe : Option Addr} {ce : Nat} (h : MI D K0 W) (hok : OKE e) (d0 : 0 ≤ D.day) (d1 : D.day < 146097)
    (hkids : ∀ (j : Nat) (k : Ex), e.kids[j]? = some k → KidC D e.kind e.a e.b e.name pe e.kids ce (j : Int) (valE (wkB D.day) D.day env k)) (hrule : e.kind = 10 → 0 ≤ atP5 D.l e.name ∧ RuleC D (atP5 D.l e.name) (env e.name)) :
    Calls Tryz.prog 35 #[.pointer (some ⟨D.g, 0, none⟩), exV e (.slice pe e.kids.length ce)] W fun r W' => r = .returned (.agg (mv (valE (wkB D.day) D.day env e))) ∧ MQ D (Les K0) W W' := by
  have hv := valE_eq (wkB D.day) D.day env e
  obtain ⟨k1, k2, _, hr, _⟩ := hok.kinds
  have h0 := fun hk => hok.kid0 hk
  have h1 := fun hk => hok.kid1 hk
  obtain ⟨kd, a, b, nm, ks⟩ := e
  unfold exV
  dsimp only at *
  have hc : kd = 1 ∨ kd = 2 ∨ kd = 3 ∨ kd = 4 ∨ kd = 5 ∨ kd = 6 ∨ kd = 7 ∨ kd = 8 ∨ kd = 9 ∨ kd = 10 := by omega
  rw [hv]
  rcases hc with rfl | rfl | rfl | rfl | rfl | rfl | rfl | rfl | rfl | rfl
  · rw [valK_1]
    exact expr_1 h
  · rw [valK_2]
    exact expr_2 h
  · rw [valK_3]
    exact expr_3 h
  · obtain ⟨k, hk, _⟩ := h0 (by decide)
    rw [valK_4, mapD_at hk]
    cases hg : wkB D.day a with
    | true => exact expr_4t h d0 d1 hg (hkids 0 k hk)
    | false => exact expr_4f h d0 d1 hg
  · obtain ⟨k, hk, _⟩ := h0 (by decide)
    rw [valK_5, mapD_at hk]
    by_cases hg : a ≤ D.day ∧ D.day ≤ b
    · rw [if_pos hg]
      exact expr_5t h d0 d1 (by simp [hg.1, hg.2]) (hkids 0 k hk)
    · rw [if_neg hg]
      exact expr_5f h d0 d1 (by
        by_cases h1 : a ≤ D.day
        · simp [h1, show ¬ D.day ≤ b from fun h2 => hg ⟨h1, h2⟩]
        · simp [h1])
  · obtain ⟨k, hk, _⟩ := h0 (by decide)
    obtain ⟨k', hk', _⟩ := h1 (by decide)
    rw [valK_6, mapD_at hk, mapD_at hk']
    exact expr_6 h (hkids 0 k hk) (hkids 1 k' hk')
  · obtain ⟨k, hk, _⟩ := h0 (by decide)
    obtain ⟨k', hk', _⟩ := h1 (by decide)
    rw [valK_7, mapD_at hk, mapD_at hk']
    exact expr_7 h (hkids 0 k hk) (hkids 1 k' hk')
  · obtain ⟨k, hk, _⟩ := h0 (by decide)
    obtain ⟨k', hk', _⟩ := h1 (by decide)
    rw [valK_8, mapD_at hk, mapD_at hk']
    exact expr_8 h (hkids 0 k hk) (hkids 1 k' hk')
  · obtain ⟨k, hk, _⟩ := h0 (by decide)
    rw [valK_9, mapD_at hk]
    have hb : a ≠ 0 ∧ -1440 < a ∧ a < 1440 := by simpa [rangeP] using hr
    exact expr_9 h (by omega) (by omega) (hkids 0 k hk)
  · rw [valK_10]
    obtain ⟨hx, hR⟩ := hrule rfl
    exact expr_10 h hx hR
theorem mexpr_all {D : MD} {env : List UInt8 → Nat → Bool} (d0 : 0 ≤ D.day) (d1 : D.day < 146097) : ∀ (d : Nat) (e : Ex) (sl : Value), KidsB (fun k => k < D.w.heap.size) d D.w sl e.kids → OKE e → (∀ x ∈ nms e, 0 ≤ atP5 D.l x ∧ RuleC D (atP5 D.l x) (env x)) → ∀ (K : Nat → Bool) (W : World), MI D K W →
    Calls Tryz.prog 35 #[.pointer (some ⟨D.g, 0, none⟩), exV e sl] W fun r W' => r = .returned (.agg (mv (valE (wkB D.day) D.day env e))) ∧ MQ D (Les K) W W' := by
  have none : ∀ (e : Ex) (p : Option Addr) (c : Nat), e.kids = [] → OKE e → (∀ x ∈ nms e, 0 ≤ atP5 D.l x ∧ RuleC D (atP5 D.l x) (env x)) → ∀ (K : Nat → Bool) (W : World), MI D K W →
      Calls Tryz.prog 35 #[.pointer (some ⟨D.g, 0, none⟩), exV e (.slice p 0 c)] W fun r W' => r = .returned (.agg (mv (valE (wkB D.day) D.day env e))) ∧ MQ D (Les K) W W' := fun e p c h0 hok hn K W hM => by
    have := mexpr_step (env := env) (pe := p) (ce := c) hM hok d0 d1 (fun j k hj => by rw [h0] at hj; simp at hj) fun hk => hn e.name (by rw [nms_eq, if_pos hk]; simp)
    rw [h0] at this
    exact this
  intro d
  induction d with
  | zero =>
    intro e sl hk hok hn K W hM
    obtain ⟨h0, p, c, rfl⟩ := hk
    exact none e p c h0 hok hn K W hM
  | succ d ih =>
    intro e sl hk hok hn K W hM
    rcases hk with ⟨h0, p, c, rfl⟩ | ⟨g, o, c, _, rfl, hl, hkk⟩
    · exact none e p c h0 hok hn K W hM
    · refine mexpr_step hM hok d0 d1 (fun j k hj => ?_) fun hk => hn e.name (by rw [nms_eq, if_pos hk]; simp)
      obtain ⟨_, sk, c0, c1, c2, c3, c4, r⟩ := hkk j k hj
      obtain ⟨ps, cs, rfl⟩ := r.form
      have hmem : k ∈ e.kids := List.mem_of_getElem? hj
      intro bd be K' W' hM' hbd hbe n1 n2 n3 n4
      exact kid_any hM' hj hl hbd hbe n1 n2 n3 n4 c0 c1 c2 c3 c4 fun K2 W2 hM2 => ih k _ r (hok.kid hmem) (fun x hx => hn x (by
        rw [nms_eq, List.mem_append]
        right
        unfold nmsL
        exact List.mem_flatten.2 ⟨nms k, List.mem_map.2 ⟨k, hmem, rfl⟩, hx⟩)) K2 W2 hM2
theorem mrule_all {D : MD} {us : List (Ru × Value)} (hin : InR D.w D.lv us) (hl : us.map (fun p => p.1) = D.l) (hn : us.length = D.n) (hc : (chkW D.l).1 = 0) (d0 : 0 ≤ D.day) (d1 : D.day < 146097) (hV : ∀ i, D.V i = meanP D.l (wkB D.day) D.day i) :
    ∀ (m i : Nat), i < D.n → muR D.l i < m → RuleC D (i : Int) (D.V i)
  | 0, _, _, h => by omega
  | m + 1, i, hi, hmu => by
    intro K W hM
    obtain ⟨hw0, hno⟩ := chk_lk2 hc
    obtain ⟨h40, hoke⟩ := wrongR_oke hw0
    have hll : D.l.length = D.n := by rw [← hl, List.length_map, hn]
    cases hK : K i with
    | true =>
      obtain ⟨M, h1, h2⟩ := id hM
      refine (rule_known h1 hi (by omega) hK).mono ?_
      rintro r W' ⟨rfl, hb⟩
      rw [h2 i hi hK]
      exact ⟨rfl, ⟨K, hM.later hb, Les.refl K, hK⟩, Kp.below hb⟩
    | false =>
      obtain ⟨⟨u, sl⟩, hu⟩ : ∃ p, us[i]? = some p := ⟨us[i]'(by omega), List.getElem?_eq_getElem _⟩
      have hul : D.l[i]? = some u := by rw [← hl, List.getElem?_map, hu]; rfl
      obtain ⟨_, _, d, hkB⟩ := hin.all _ (List.mem_of_getElem? hu)
      dsimp only at hkB
      obtain ⟨ps, cs, rfl⟩ := hkB.form
      obtain ⟨pv, cv, hlv⟩ := hin.form
      have hin' := hin
      rw [hlv] at hin'
      obtain ⟨b, o, rfl, _⟩ := hin'.cells i _ hu
      rw [hn] at hlv
      refine rule_new hin (by omega) hlv hn hu hM hK fun K2 W2 hM2 => ?_
      have hE := mexpr_all (env := fun x => D.V (atP5 D.l x).toNat) d0 d1 d u.2 _ hkB (hoke u (List.mem_of_getElem? hul)) (fun x hx => ?_) K2 W2 hM2
      · have e : valE (wkB D.day) D.day (fun x => D.V (atP5 D.l x).toNat) u.2 = D.V i := by
          rw [hV i, meanP_eq hc hul]
          exact valE_congr _ _ (Nat.le_refl _) fun x _ => hV _
        rw [e] at hE
        exact hE
      · have hj := lead_of_name hc hul hx
        have hlt := muR_lt hc (by omega) hj
        have hjl := leadS_lt hno i _ hj
        have hb := (atP5_bd D.l x).1
        have hn1 : atP5 D.l x ≠ -1 := fun e => hno u (List.mem_of_getElem? hul) (by
          unfold spkR
          exact (spoken_mem _ _).2 (.inr ⟨x, hx, e⟩))
        refine ⟨by omega, ?_⟩
        have := mrule_all hin hl hn hc d0 d1 hV m (atP5 D.l x).toNat (by omega) (by omega)
        rw [show (((atP5 D.l x).toNat : Nat) : Int) = atP5 D.l x by omega] at this
        exact this
end Go.Proofs.YtgfjbcdjpkcbkaaGreatDoor
