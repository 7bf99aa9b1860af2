/- The walk of CivilTurns: it answers true, whatever the date and the day. -/
import Derived.Test.YtopflhcgonokgaaDoorDates
namespace Go.Proofs.YtopflhcgonokgaaDoor
open Go.RowKit

theorem step {w W w' : World} (hT : Tab W) (hB : Below w.heap.size w W) (hb : Below W.heap.size W w') : Tab w' ∧ Below w.heap.size w w' :=
  ⟨hT.below hb, hB.trans (hb.mono hB.size)⟩
theorem stepAlloc {w W : World} (hT : Tab W) (hB : Below w.heap.size w W) (o : Obj) : Tab (W.alloc o) ∧ Below w.heap.size w (W.alloc o) :=
  ⟨hT.alloc o, hB.alloc hB.size o⟩

attribute [local go_sem] eql23 neq23
set_option maxHeartbeats 800000 in
set_option maxRecDepth 100000 in
theorem turns_walk (y m d n : Int) (w : World) (hT : Tab w) :
    Calls Tryd.prog 4 #[.agg #[.int .i64 y, .int .i64 m, .int .i64 d], .int .i64 n] w fun e w' => e = .returned (.bool true) ∧ Below w.heap.size w w' := by
  obtain ⟨T0, B0⟩ := stepAlloc hT (Below.refl w.heap.size w) (.cells #[.int .i64 y, .int .i64 m, .int .i64 d] 23)
  have H0 : Hid (Tab (w.alloc (.cells #[.int .i64 y, .int .i64 m, .int .i64 d] 23)) ∧ Below w.heap.size w (w.alloc (.cells #[.int .i64 y, .int .i64 m, .int .i64 d] 23))) := ⟨T0, B0⟩
  clear T0 B0 hT
  by_cases hv : 1 ≤ d ∧ d ≤ Cal.dim y m
  · obtain ⟨v1, v2⟩ := hv
    have nb := Cal.num_bd y m d v1 v2
    go_enter Tryd.func4, Tryd.ntmps4
    go_wp2_with fail
    refine (alive_any _ H0.out.1).mono ?_
    rintro e w1 ⟨rfl, hb⟩
    have c0 : w1.cell? ⟨w.heap.size, 0, none⟩ = some (.int .i64 y) := cell_later hb (by simp)
    have c1 : w1.cell? ⟨w.heap.size, 1, none⟩ = some (.int .i64 m) := cell_later hb (by simp)
    have c2 : w1.cell? ⟨w.heap.size, 2, none⟩ = some (.int .i64 d) := cell_later hb (by simp)
    have H1 := step H0.out.1 H0.out.2 hb
    have HH1 : Hid (Tab w1 ∧ Below w.heap.size w w1) := H1
    clear H1 H0 hb
    go_wp2_with fail
    refine (number_yes _ _ _ _ HH1.out.1 v1 v2).mono ?_
    rintro e w2 ⟨rfl, hb⟩
    have c0' : w2.cell? ⟨w.heap.size, 0, none⟩ = some (.int .i64 y) := cell_later hb c0
    have c1' : w2.cell? ⟨w.heap.size, 1, none⟩ = some (.int .i64 m) := cell_later hb c1
    have c2' : w2.cell? ⟨w.heap.size, 2, none⟩ = some (.int .i64 d) := cell_later hb c2
    have H1 := step HH1.out.1 HH1.out.2 hb
    have HH2 : Hid (Tab w2 ∧ Below w.heap.size w w2) := H1
    clear H1 HH1 hb c0 c1 c2
    go_wp2_with fail
    refine (of_yes _ _ HH2.out.1 nb.1 nb.2.1).mono ?_
    rintro e w3 ⟨y', m', d', rfl, g1, g2, g3, hb⟩
    obtain ⟨rfl, rfl, rfl⟩ := Cal.num_inj y' m' d' y m d g1 g2 v1 v2 g3
    have c0 : w3.cell? ⟨w.heap.size, 0, none⟩ = some (.int .i64 y') := cell_later hb c0'
    have c1 : w3.cell? ⟨w.heap.size, 1, none⟩ = some (.int .i64 m') := cell_later hb c1'
    have c2 : w3.cell? ⟨w.heap.size, 2, none⟩ = some (.int .i64 d') := cell_later hb c2'
    have H1 := step HH2.out.1 HH2.out.2 hb
    clear hb c0' c1' c2' HH2
    obtain ⟨c0', c1', c2', e0, e1, e2, HT4, HB4⟩ : (w3.alloc (.cells #[.int .i64 y', .int .i64 m', .int .i64 d'] 23)).cell? ⟨w.heap.size, 0, none⟩ = some (.int .i64 y') ∧
        (w3.alloc (.cells #[.int .i64 y', .int .i64 m', .int .i64 d'] 23)).cell? ⟨w.heap.size, 1, none⟩ = some (.int .i64 m') ∧
        (w3.alloc (.cells #[.int .i64 y', .int .i64 m', .int .i64 d'] 23)).cell? ⟨w.heap.size, 2, none⟩ = some (.int .i64 d') ∧
        (w3.alloc (.cells #[.int .i64 y', .int .i64 m', .int .i64 d'] 23)).cell? ⟨w3.heap.size, 0, none⟩ = some (.int .i64 y') ∧
        (w3.alloc (.cells #[.int .i64 y', .int .i64 m', .int .i64 d'] 23)).cell? ⟨w3.heap.size, 1, none⟩ = some (.int .i64 m') ∧
        (w3.alloc (.cells #[.int .i64 y', .int .i64 m', .int .i64 d'] 23)).cell? ⟨w3.heap.size, 2, none⟩ = some (.int .i64 d') ∧
        Hid (Tab (w3.alloc (.cells #[.int .i64 y', .int .i64 m', .int .i64 d'] 23))) ∧ Hid (Below w.heap.size w (w3.alloc (.cells #[.int .i64 y', .int .i64 m', .int .i64 d'] 23))) :=
      ⟨cell_later ((Below.refl _ _).alloc (Nat.le_refl _) _) c0, cell_later ((Below.refl _ _).alloc (Nat.le_refl _) _) c1, cell_later ((Below.refl _ _).alloc (Nat.le_refl _) _) c2,
        by simp, by simp, by simp, H1.1.alloc _, H1.2.alloc H1.2.size _⟩
    clear c0 c1 c2 H1
    go_wp2_with fail
    by_cases hn : 0 ≤ n ∧ n < 146097
    · refine (of_yes _ _ HT4.out hn.1 hn.2).mono ?_
      rintro e w5 ⟨y2, m2, d2, rfl, k1, k2, k3, hb5⟩
      have K3 : Hid (Cal.num y2 m2 d2 = n) := k3
      have H5 := step HT4.out HB4.out hb5
      have H6 := stepAlloc H5.1 H5.2 (.cells #[.int .i64 y2, .int .i64 m2, .int .i64 d2] 23)
      have HH6 : Hid (Tab (w5.alloc (.cells #[.int .i64 y2, .int .i64 m2, .int .i64 d2] 23)) ∧ Below w.heap.size w (w5.alloc (.cells #[.int .i64 y2, .int .i64 m2, .int .i64 d2] 23))) := H6
      clear k3 hb5 H5 H6
      go_wp2_with fail
      refine (number_yes _ _ _ _ HH6.out.1 k1 k2).mono ?_
      rw [K3.out]
      rintro e w6 ⟨rfl, hb6⟩
      have HH7 := step HH6.out.1 HH6.out.2 hb6
      have H7 : Hid (Below w.heap.size w w6) := HH7.2
      clear HH7 HH6 hb6
      go_wp2
      go_ret
      exact ⟨rfl, H7.out⟩
    · have ho : n < 0 ∨ 146097 ≤ n := by omega
      refine (of_no _ _ ho).mono ?_
      rintro e w5 ⟨rfl, hb5⟩
      have H5 := step HT4.out HB4.out hb5
      have H6 := stepAlloc H5.1 H5.2 (.cells #[.int .i64 0, .int .i64 0, .int .i64 0] 23)
      have H7 : Hid (Below w.heap.size w (w5.alloc (.cells #[.int .i64 0, .int .i64 0, .int .i64 0] 23))) := H6.2
      clear hb5 H5 H6 hn
      by_cases hz : n < 0
      · clear ho
        go_wp2
        go_ret
        exact ⟨rfl, H7.out⟩
      · have hq : decide (146097 ≤ n) = true := by simp; omega
        clear ho
        go_wp2
        go_ret
        exact ⟨rfl, H7.out⟩
  · have hv' : d < 1 ∨ Cal.dim y m < d := by omega
    go_enter Tryd.func4, Tryd.ntmps4
    go_wp2_with fail
    refine (alive_any _ H0.out.1).mono ?_
    rintro e w1 ⟨rfl, hb⟩
    have c0 : w1.cell? ⟨w.heap.size, 0, none⟩ = some (.int .i64 y) := cell_later hb (by simp)
    have c1 : w1.cell? ⟨w.heap.size, 1, none⟩ = some (.int .i64 m) := cell_later hb (by simp)
    have c2 : w1.cell? ⟨w.heap.size, 2, none⟩ = some (.int .i64 d) := cell_later hb (by simp)
    have H1 := step H0.out.1 H0.out.2 hb
    have HH1 : Hid (Tab w1 ∧ Below w.heap.size w w1) := H1
    clear H1 H0 hb hv
    go_wp2_with fail
    refine (number_no _ _ _ _ HH1.out.1 hv').mono ?_
    rintro e w2 ⟨rfl, hb⟩
    have H1 := step HH1.out.1 HH1.out.2 hb
    have HH2 : Hid (Tab w2 ∧ Below w.heap.size w w2) := H1
    clear H1 HH1 hb c0 c1 c2 hv'
    go_wp2_with fail
    by_cases hn : 0 ≤ n ∧ n < 146097
    · refine (of_yes _ _ HH2.out.1 hn.1 hn.2).mono ?_
      rintro e w5 ⟨y2, m2, d2, rfl, k1, k2, k3, hb5⟩
      have K3 : Hid (Cal.num y2 m2 d2 = n) := k3
      have H5 := step HH2.out.1 HH2.out.2 hb5
      have H6 := stepAlloc H5.1 H5.2 (.cells #[.int .i64 y2, .int .i64 m2, .int .i64 d2] 23)
      have HH6 : Hid (Tab (w5.alloc (.cells #[.int .i64 y2, .int .i64 m2, .int .i64 d2] 23)) ∧ Below w.heap.size w (w5.alloc (.cells #[.int .i64 y2, .int .i64 m2, .int .i64 d2] 23))) := H6
      clear k3 hb5 H5 H6
      go_wp2_with fail
      refine (number_yes _ _ _ _ HH6.out.1 k1 k2).mono ?_
      rw [K3.out]
      rintro e w6 ⟨rfl, hb6⟩
      have HH7 := step HH6.out.1 HH6.out.2 hb6
      have H7 : Hid (Below w.heap.size w w6) := HH7.2
      clear HH7 HH6 hb6
      go_wp2
      go_ret
      exact ⟨rfl, H7.out⟩
    · have ho : n < 0 ∨ 146097 ≤ n := by omega
      refine (of_no _ _ ho).mono ?_
      rintro e w5 ⟨rfl, hb5⟩
      have H5 := step HH2.out.1 HH2.out.2 hb5
      have H6 := stepAlloc H5.1 H5.2 (.cells #[.int .i64 0, .int .i64 0, .int .i64 0] 23)
      have H7 : Hid (Below w.heap.size w (w5.alloc (.cells #[.int .i64 0, .int .i64 0, .int .i64 0] 23))) := H6.2
      clear hb5 H5 H6 hn
      by_cases hz : n < 0
      · clear ho
        go_wp2
        go_ret
        exact ⟨rfl, H7.out⟩
      · have hq : decide (146097 ≤ n) = true := by simp; omega
        clear ho
        go_wp2
        go_ret
        exact ⟨rfl, H7.out⟩

end Go.Proofs.YtopflhcgonokgaaDoor
