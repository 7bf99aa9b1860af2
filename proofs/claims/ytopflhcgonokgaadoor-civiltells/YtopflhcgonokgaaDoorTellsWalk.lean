/- The walk of CivilTells: it answers true, whatever the date and the day. -/
import Derived.Test.YtopflhcgonokgaaDoorDates
import Derived.Test.YtopflhcgonokgaaDoorRefOf
namespace Go.Proofs.YtopflhcgonokgaaDoor
open Go.RowKit

theorem stepT {w W w' : World} (hT : Tab W) (hB : Below w.heap.size w W) (hb : Below W.heap.size W w') : Tab w' ∧ Below w.heap.size w w' :=
  ⟨hT.below hb, hB.trans (hb.mono hB.size)⟩
theorem stepA {w W : World} (hT : Tab W) (hB : Below w.heap.size w W) (o : Obj) : Tab (W.alloc o) ∧ Below w.heap.size w (W.alloc o) :=
  ⟨hT.alloc o, hB.alloc hB.size o⟩

attribute [local go_sem] eql23
set_option maxHeartbeats 1000000 in
set_option maxRecDepth 100000 in
theorem tells_walk (y m d n : Int) (w : World) (hT : Tab w) (yb : y ≤ 9223372036854775807) :
    Calls Tryd.prog 3 #[.agg #[.int .i64 y, .int .i64 m, .int .i64 d], .int .i64 n] w fun e w' => e = .returned (.bool true) ∧ Below w.heap.size w w' := by
  obtain ⟨T0, B0⟩ := stepA hT (Below.refl w.heap.size w) (.cells #[.int .i64 y, .int .i64 m, .int .i64 d] 23)
  have H0 : Hid (Tab (w.alloc (.cells #[.int .i64 y, .int .i64 m, .int .i64 d] 23)) ∧ Below w.heap.size w (w.alloc (.cells #[.int .i64 y, .int .i64 m, .int .i64 d] 23))) := ⟨T0, B0⟩
  clear T0 B0 hT
  go_enter Tryd.func3, Tryd.ntmps3
  go_wp2_with fail
  obtain ⟨x, e, num1, num2⟩ : ∃ x e : Int, (∀ W, Tab W → Calls Tryd.prog 7 #[.agg #[.int .i64 y, .int .i64 m, .int .i64 d]] W fun r w' => r = .returned (.tuple #[.int .i64 x, .int .i64 e]) ∧ Below W.heap.size W w') ∧
      Hid (∀ W, Calls Tryd.prog 8 #[.agg #[.int .i64 y, .int .i64 m, .int .i64 d]] W fun r w' => r = .returned (.tuple #[.int .i64 x, .int .i64 e]) ∧ Below W.heap.size W w') := by
    by_cases hv : 1 ≤ d ∧ d ≤ Cal.dim y m
    · exact ⟨_, _, fun W h => number_yes y m d W h hv.1 hv.2, fun W => rnumber_yes y m d W hv.1 hv.2⟩
    · exact ⟨_, _, fun W h => number_no y m d W h (by omega), fun W => rnumber_no y m d W (by omega)⟩
  refine (num1 _ H0.out.1).mono ?_
  rintro e' w1 ⟨rfl, hb⟩
  have c0 : w1.cell? ⟨w.heap.size, 0, none⟩ = some (.int .i64 y) := cell_later hb (by simp)
  have c1 : w1.cell? ⟨w.heap.size, 1, none⟩ = some (.int .i64 m) := cell_later hb (by simp)
  have c2 : w1.cell? ⟨w.heap.size, 2, none⟩ = some (.int .i64 d) := cell_later hb (by simp)
  have H1 := stepT H0.out.1 H0.out.2 hb
  have HH1 : Hid (Tab w1 ∧ Below w.heap.size w w1) := H1
  clear H1 H0 hb num1
  go_wp2_with fail
  refine (num2.out _).mono ?_
  rintro e' w2 ⟨rfl, hb⟩
  have c0' : w2.cell? ⟨w.heap.size, 0, none⟩ = some (.int .i64 y) := cell_later hb c0
  have c1' : w2.cell? ⟨w.heap.size, 1, none⟩ = some (.int .i64 m) := cell_later hb c1
  have c2' : w2.cell? ⟨w.heap.size, 2, none⟩ = some (.int .i64 d) := cell_later hb c2
  have H1 := stepT HH1.out.1 HH1.out.2 hb
  have HH2 : Hid (Tab w2 ∧ Below w.heap.size w w2) := H1
  clear H1 HH1 hb c0 c1 c2 num2
  go_wp2_with fail
  by_cases hy : 0 ≤ y
  · have hyd : decide (0 ≤ y) = true := by simp; omega
    go_quiet ((first | (go_at_call 9; exact Calls.quiet_of_same (length_any _ _ _ HH2.out.1)) | (go_at_call 10; exact Calls.quiet_of_same (rlength_any _ _ _)) | (go_at_call 11; exact Calls.quiet_of_same (leap_any _ _ hy yb)) | (go_at_call 12; exact Calls.quiet_of_same (rleap_any _ _ hy yb))))
    clear hyd
    go_wp2_with fail
    have H3 : Hid (Tab (w2.drewN nq) ∧ Below w.heap.size w (w2.drewN nq)) := ⟨HH2.out.1, below_drewN HH2.out.2 _⟩
    generalize w2.drewN nq = w3 at *
    clear c0' c1' c2' HH2 hy yb
    by_cases hn : 0 ≤ n ∧ n < 146097
    · refine (of_yes _ _ H3.out.1 hn.1 hn.2).mono ?_
      rintro e' w5 ⟨y2, m2, d2, rfl, k1, k2, k3, hb5⟩
      have K3 : Hid (Cal.num y2 m2 d2 = n) := k3
      have H5 := stepT H3.out.1 H3.out.2 hb5
      have H6 := stepA H5.1 H5.2 (.cells #[.int .i64 y2, .int .i64 m2, .int .i64 d2] 23)
      have HH6 : Hid (Tab (w5.alloc (.cells #[.int .i64 y2, .int .i64 m2, .int .i64 d2] 23)) ∧ Below w.heap.size w (w5.alloc (.cells #[.int .i64 y2, .int .i64 m2, .int .i64 d2] 23))) := H6
      clear k3 hb5 H5 H6 H3
      go_wp2_with fail
      refine (rof_yes _ _ hn.1 hn.2).mono ?_
      rintro e' w6 ⟨y3, m3, d3, rfl, j1, j2, j3, hb6⟩
      obtain ⟨rfl, rfl, rfl⟩ := Cal.num_inj y3 m3 d3 y2 m2 d2 j1 j2 k1 k2 (by rw [j3, K3.out])
      have a0 : w6.cell? ⟨w5.heap.size, 0, none⟩ = some (.int .i64 y3) := cell_later hb6 (by simp)
      have a1 : w6.cell? ⟨w5.heap.size, 1, none⟩ = some (.int .i64 m3) := cell_later hb6 (by simp)
      have a2 : w6.cell? ⟨w5.heap.size, 2, none⟩ = some (.int .i64 d3) := cell_later hb6 (by simp)
      have H7 := stepT HH6.out.1 HH6.out.2 hb6
      obtain ⟨c0, c1, c2, e0, e1, e2, HB4⟩ : (w6.alloc (.cells #[.int .i64 y3, .int .i64 m3, .int .i64 d3] 23)).cell? ⟨w5.heap.size, 0, none⟩ = some (.int .i64 y3) ∧
          (w6.alloc (.cells #[.int .i64 y3, .int .i64 m3, .int .i64 d3] 23)).cell? ⟨w5.heap.size, 1, none⟩ = some (.int .i64 m3) ∧
          (w6.alloc (.cells #[.int .i64 y3, .int .i64 m3, .int .i64 d3] 23)).cell? ⟨w5.heap.size, 2, none⟩ = some (.int .i64 d3) ∧
          (w6.alloc (.cells #[.int .i64 y3, .int .i64 m3, .int .i64 d3] 23)).cell? ⟨w6.heap.size, 0, none⟩ = some (.int .i64 y3) ∧
          (w6.alloc (.cells #[.int .i64 y3, .int .i64 m3, .int .i64 d3] 23)).cell? ⟨w6.heap.size, 1, none⟩ = some (.int .i64 m3) ∧
          (w6.alloc (.cells #[.int .i64 y3, .int .i64 m3, .int .i64 d3] 23)).cell? ⟨w6.heap.size, 2, none⟩ = some (.int .i64 d3) ∧
          Hid (Below w.heap.size w (w6.alloc (.cells #[.int .i64 y3, .int .i64 m3, .int .i64 d3] 23))) :=
        ⟨cell_later ((Below.refl _ _).alloc (Nat.le_refl _) _) a0, cell_later ((Below.refl _ _).alloc (Nat.le_refl _) _) a1, cell_later ((Below.refl _ _).alloc (Nat.le_refl _) _) a2,
          by simp, by simp, by simp, H7.2.alloc H7.2.size _⟩
      clear a0 a1 a2 H7 HH6 hb6 j3 K3
      have wk : ((n + 5) % 7 == (n % 7 + 5) % 7) = true := by simp
      have n1 : decide (n < 0) = false := by simp; omega
      have n2 : decide (146097 ≤ n) = false := by simp; omega
      go_wp2_with fail
      refine (week_yes _ _ hn.1 hn.2).mono ?_
      rintro e' w7 ⟨rfl, rfl⟩
      go_wp2_with fail
      refine (rweek_any _ _ hn.1 hn.2).mono ?_
      rintro e' w7 ⟨rfl, rfl⟩
      go_wp2
      go_ret
      exact ⟨rfl, HB4.out⟩
    · have ho : n < 0 ∨ 146097 ≤ n := by omega
      refine (of_no _ _ ho).mono ?_
      rintro e' w5 ⟨rfl, hb5⟩
      have H5 := stepT H3.out.1 H3.out.2 hb5
      have H6 := stepA H5.1 H5.2 (.cells #[.int .i64 0, .int .i64 0, .int .i64 0] 23)
      have HH6 : Hid (Tab (w5.alloc (.cells #[.int .i64 0, .int .i64 0, .int .i64 0] 23)) ∧ Below w.heap.size w (w5.alloc (.cells #[.int .i64 0, .int .i64 0, .int .i64 0] 23))) := H6
      clear hb5 H5 H6 hn H3
      go_wp2_with fail
      refine (rof_no _ _ ho).mono ?_
      rintro e' w6 ⟨rfl, hb6⟩
      have a0 : w6.cell? ⟨w5.heap.size, 0, none⟩ = some (.int .i64 0) := cell_later hb6 (by simp)
      have a1 : w6.cell? ⟨w5.heap.size, 1, none⟩ = some (.int .i64 0) := cell_later hb6 (by simp)
      have a2 : w6.cell? ⟨w5.heap.size, 2, none⟩ = some (.int .i64 0) := cell_later hb6 (by simp)
      have H7 := stepT HH6.out.1 HH6.out.2 hb6
      obtain ⟨c0, c1, c2, e0, e1, e2, HB4⟩ : (w6.alloc (.cells #[.int .i64 0, .int .i64 0, .int .i64 0] 23)).cell? ⟨w5.heap.size, 0, none⟩ = some (.int .i64 0) ∧
          (w6.alloc (.cells #[.int .i64 0, .int .i64 0, .int .i64 0] 23)).cell? ⟨w5.heap.size, 1, none⟩ = some (.int .i64 0) ∧
          (w6.alloc (.cells #[.int .i64 0, .int .i64 0, .int .i64 0] 23)).cell? ⟨w5.heap.size, 2, none⟩ = some (.int .i64 0) ∧
          (w6.alloc (.cells #[.int .i64 0, .int .i64 0, .int .i64 0] 23)).cell? ⟨w6.heap.size, 0, none⟩ = some (.int .i64 0) ∧
          (w6.alloc (.cells #[.int .i64 0, .int .i64 0, .int .i64 0] 23)).cell? ⟨w6.heap.size, 1, none⟩ = some (.int .i64 0) ∧
          (w6.alloc (.cells #[.int .i64 0, .int .i64 0, .int .i64 0] 23)).cell? ⟨w6.heap.size, 2, none⟩ = some (.int .i64 0) ∧
          Hid (Below w.heap.size w (w6.alloc (.cells #[.int .i64 0, .int .i64 0, .int .i64 0] 23))) :=
        ⟨cell_later ((Below.refl _ _).alloc (Nat.le_refl _) _) a0, cell_later ((Below.refl _ _).alloc (Nat.le_refl _) _) a1, cell_later ((Below.refl _ _).alloc (Nat.le_refl _) _) a2,
          by simp, by simp, by simp, H7.2.alloc H7.2.size _⟩
      clear a0 a1 a2 H7 HH6 hb6
      by_cases hz : n < 0
      · have n1 : decide (n < 0) = true := by simp; omega
        clear ho
        go_wp2
        go_ret
        exact ⟨rfl, HB4.out⟩
      · have n1 : decide (n < 0) = false := by simp; omega
        have n2 : decide (146097 ≤ n) = true := by simp; omega
        clear ho
        go_wp2
        go_ret
        exact ⟨rfl, HB4.out⟩
  · have hyd : decide (0 ≤ y) = false := by simp; omega
    go_quiet ((first | (go_at_call 9; exact Calls.quiet_of_same (length_any _ _ _ HH2.out.1)) | (go_at_call 10; exact Calls.quiet_of_same (rlength_any _ _ _))))
    clear hyd
    go_wp2_with fail
    have H3 : Hid (Tab (w2.drewN nq) ∧ Below w.heap.size w (w2.drewN nq)) := ⟨HH2.out.1, below_drewN HH2.out.2 _⟩
    generalize w2.drewN nq = w3 at *
    clear c0' c1' c2' HH2 hy yb
    by_cases hn : 0 ≤ n ∧ n < 146097
    · refine (of_yes _ _ H3.out.1 hn.1 hn.2).mono ?_
      rintro e' w5 ⟨y2, m2, d2, rfl, k1, k2, k3, hb5⟩
      have K3 : Hid (Cal.num y2 m2 d2 = n) := k3
      have H5 := stepT H3.out.1 H3.out.2 hb5
      have H6 := stepA H5.1 H5.2 (.cells #[.int .i64 y2, .int .i64 m2, .int .i64 d2] 23)
      have HH6 : Hid (Tab (w5.alloc (.cells #[.int .i64 y2, .int .i64 m2, .int .i64 d2] 23)) ∧ Below w.heap.size w (w5.alloc (.cells #[.int .i64 y2, .int .i64 m2, .int .i64 d2] 23))) := H6
      clear k3 hb5 H5 H6 H3
      go_wp2_with fail
      refine (rof_yes _ _ hn.1 hn.2).mono ?_
      rintro e' w6 ⟨y3, m3, d3, rfl, j1, j2, j3, hb6⟩
      obtain ⟨rfl, rfl, rfl⟩ := Cal.num_inj y3 m3 d3 y2 m2 d2 j1 j2 k1 k2 (by rw [j3, K3.out])
      have a0 : w6.cell? ⟨w5.heap.size, 0, none⟩ = some (.int .i64 y3) := cell_later hb6 (by simp)
      have a1 : w6.cell? ⟨w5.heap.size, 1, none⟩ = some (.int .i64 m3) := cell_later hb6 (by simp)
      have a2 : w6.cell? ⟨w5.heap.size, 2, none⟩ = some (.int .i64 d3) := cell_later hb6 (by simp)
      have H7 := stepT HH6.out.1 HH6.out.2 hb6
      obtain ⟨c0, c1, c2, e0, e1, e2, HB4⟩ : (w6.alloc (.cells #[.int .i64 y3, .int .i64 m3, .int .i64 d3] 23)).cell? ⟨w5.heap.size, 0, none⟩ = some (.int .i64 y3) ∧
          (w6.alloc (.cells #[.int .i64 y3, .int .i64 m3, .int .i64 d3] 23)).cell? ⟨w5.heap.size, 1, none⟩ = some (.int .i64 m3) ∧
          (w6.alloc (.cells #[.int .i64 y3, .int .i64 m3, .int .i64 d3] 23)).cell? ⟨w5.heap.size, 2, none⟩ = some (.int .i64 d3) ∧
          (w6.alloc (.cells #[.int .i64 y3, .int .i64 m3, .int .i64 d3] 23)).cell? ⟨w6.heap.size, 0, none⟩ = some (.int .i64 y3) ∧
          (w6.alloc (.cells #[.int .i64 y3, .int .i64 m3, .int .i64 d3] 23)).cell? ⟨w6.heap.size, 1, none⟩ = some (.int .i64 m3) ∧
          (w6.alloc (.cells #[.int .i64 y3, .int .i64 m3, .int .i64 d3] 23)).cell? ⟨w6.heap.size, 2, none⟩ = some (.int .i64 d3) ∧
          Hid (Below w.heap.size w (w6.alloc (.cells #[.int .i64 y3, .int .i64 m3, .int .i64 d3] 23))) :=
        ⟨cell_later ((Below.refl _ _).alloc (Nat.le_refl _) _) a0, cell_later ((Below.refl _ _).alloc (Nat.le_refl _) _) a1, cell_later ((Below.refl _ _).alloc (Nat.le_refl _) _) a2,
          by simp, by simp, by simp, H7.2.alloc H7.2.size _⟩
      clear a0 a1 a2 H7 HH6 hb6 j3 K3
      have wk : ((n + 5) % 7 == (n % 7 + 5) % 7) = true := by simp
      have n1 : decide (n < 0) = false := by simp; omega
      have n2 : decide (146097 ≤ n) = false := by simp; omega
      go_wp2_with fail
      refine (week_yes _ _ hn.1 hn.2).mono ?_
      rintro e' w7 ⟨rfl, rfl⟩
      go_wp2_with fail
      refine (rweek_any _ _ hn.1 hn.2).mono ?_
      rintro e' w7 ⟨rfl, rfl⟩
      go_wp2
      go_ret
      exact ⟨rfl, HB4.out⟩
    · have ho : n < 0 ∨ 146097 ≤ n := by omega
      refine (of_no _ _ ho).mono ?_
      rintro e' w5 ⟨rfl, hb5⟩
      have H5 := stepT H3.out.1 H3.out.2 hb5
      have H6 := stepA H5.1 H5.2 (.cells #[.int .i64 0, .int .i64 0, .int .i64 0] 23)
      have HH6 : Hid (Tab (w5.alloc (.cells #[.int .i64 0, .int .i64 0, .int .i64 0] 23)) ∧ Below w.heap.size w (w5.alloc (.cells #[.int .i64 0, .int .i64 0, .int .i64 0] 23))) := H6
      clear hb5 H5 H6 hn H3
      go_wp2_with fail
      refine (rof_no _ _ ho).mono ?_
      rintro e' w6 ⟨rfl, hb6⟩
      have a0 : w6.cell? ⟨w5.heap.size, 0, none⟩ = some (.int .i64 0) := cell_later hb6 (by simp)
      have a1 : w6.cell? ⟨w5.heap.size, 1, none⟩ = some (.int .i64 0) := cell_later hb6 (by simp)
      have a2 : w6.cell? ⟨w5.heap.size, 2, none⟩ = some (.int .i64 0) := cell_later hb6 (by simp)
      have H7 := stepT HH6.out.1 HH6.out.2 hb6
      obtain ⟨c0, c1, c2, e0, e1, e2, HB4⟩ : (w6.alloc (.cells #[.int .i64 0, .int .i64 0, .int .i64 0] 23)).cell? ⟨w5.heap.size, 0, none⟩ = some (.int .i64 0) ∧
          (w6.alloc (.cells #[.int .i64 0, .int .i64 0, .int .i64 0] 23)).cell? ⟨w5.heap.size, 1, none⟩ = some (.int .i64 0) ∧
          (w6.alloc (.cells #[.int .i64 0, .int .i64 0, .int .i64 0] 23)).cell? ⟨w5.heap.size, 2, none⟩ = some (.int .i64 0) ∧
          (w6.alloc (.cells #[.int .i64 0, .int .i64 0, .int .i64 0] 23)).cell? ⟨w6.heap.size, 0, none⟩ = some (.int .i64 0) ∧
          (w6.alloc (.cells #[.int .i64 0, .int .i64 0, .int .i64 0] 23)).cell? ⟨w6.heap.size, 1, none⟩ = some (.int .i64 0) ∧
          (w6.alloc (.cells #[.int .i64 0, .int .i64 0, .int .i64 0] 23)).cell? ⟨w6.heap.size, 2, none⟩ = some (.int .i64 0) ∧
          Hid (Below w.heap.size w (w6.alloc (.cells #[.int .i64 0, .int .i64 0, .int .i64 0] 23))) :=
        ⟨cell_later ((Below.refl _ _).alloc (Nat.le_refl _) _) a0, cell_later ((Below.refl _ _).alloc (Nat.le_refl _) _) a1, cell_later ((Below.refl _ _).alloc (Nat.le_refl _) _) a2,
          by simp, by simp, by simp, H7.2.alloc H7.2.size _⟩
      clear a0 a1 a2 H7 HH6 hb6
      by_cases hz : n < 0
      · have n1 : decide (n < 0) = true := by simp; omega
        clear ho
        go_wp2
        go_ret
        exact ⟨rfl, HB4.out⟩
      · have n1 : decide (n < 0) = false := by simp; omega
        have n2 : decide (146097 ≤ n) = true := by simp; omega
        clear ho
        go_wp2
        go_ret
        exact ⟨rfl, HB4.out⟩

end Go.Proofs.YtopflhcgonokgaaDoor
