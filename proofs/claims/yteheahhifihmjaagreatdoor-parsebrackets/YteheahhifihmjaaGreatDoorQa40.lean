/- What the law ParseBrackets comes to. -/
import Derived.Test.YteheahhifihmjaaGreatDoorQa39
namespace Go.Proofs.YteheahhifihmjaaGreatDoor
open Go.RowKit Lx

theorem one_rule {w : World} {g : Nat} {x : List UInt8} {e : Ex} {p : Option Addr} {c : Nat} (h : w.heap[g]? = some (.cells #[.string ⟨x.toArray⟩, .int .i64 e.kind, .int .i64 e.a, .int .i64 e.b, .string ⟨e.name.toArray⟩, .slice p e.kids.length c] 40 (0, 0))) : RRow w (.slice (some ⟨g, 0, none⟩) 1 1) [((x, e), .slice p e.kids.length c)] := by
  refine .inr ⟨g, 0, 1, rfl, by simp, fun j q hj => ?_⟩
  cases j with
  | zero =>
    simp at hj
    subst hj
    exact ⟨(cell_of_row _ _ _ _ _ _ h).trans rfl, (cell_of_row _ _ _ _ _ _ h).trans rfl, (cell_of_row _ _ _ _ _ _ h).trans rfl, (cell_of_row _ _ _ _ _ _ h).trans rfl, (cell_of_row _ _ _ _ _ _ h).trans rfl, (cell_of_row _ _ _ _ _ _ h).trans rfl⟩
  | succ j => simp at hj
def KRel (e : Ex) (times : Int) (W : World) (s t : Value) (wr : World) : Prop := ∃ j : Nat, t = .int .i64 (j : Int) ∧ (j : Int) ≤ times ∧ s = .string ⟨(bodyT e j).toArray⟩ ∧ wr = W
theorem body_next (e : Ex) (j : Nat) : (⟨#[40]⟩ : ByteArray) ++ ⟨(bodyT e j).toArray⟩ ++ ⟨#[41]⟩ = ⟨(bodyT e (j + 1)).toArray⟩ := ba_of (by simp [ByteArray.data_append, bodyT])
theorem body_cut (e : Ex) (sB : ByteArray) (n : Nat) (h : sB = ⟨(rulesT [([97], e)]).toArray⟩) (hn : (textE e 0).length = n) : sB.extract 9 (n + 11 - 2) = ⟨(bodyT e 0).toArray⟩ := by
  refine ba_of ?_
  rw [Lib.extract_data, h, rulesT_one]
  simp [bodyT, ← hn]
set_option maxRecDepth 100000 in
set_option maxHeartbeats 4000000 in
theorem pbrackets_walk (e : Ex) (p : Option Addr) (c d : Nat) (times : Int) (w : World) (hk : KidsB (fun k => k < w.heap.size) d w (.slice p e.kids.length c) e.kids) (hn : e.name.length ≤ 9223372036854775807) (hPT : PTb w.heap.size w) :
    Calls Tryz.prog 5 #[exV e (.slice p e.kids.length c), .int .i64 times] w fun e w' => e = .returned (.bool true) ∧ Below w.heap.size w w' := by
  have hbA := (Below.refl w.heap.size w).alloc (Nat.le_refl _) (.cells #[.int .i64 e.kind, .int .i64 e.a, .int .i64 e.b, .string ⟨e.name.toArray⟩, .slice p e.kids.length c] 38)
  have hxA := heap_alloc_new w (.cells #[.int .i64 e.kind, .int .i64 e.a, .int .i64 e.b, .string ⟨e.name.toArray⟩, .slice p e.kids.length c] 38)
  have hPA : PTb (w.alloc (.cells #[.int .i64 e.kind, .int .i64 e.a, .int .i64 e.b, .string ⟨e.name.toArray⟩, .slice p e.kids.length c] 38)).heap.size (w.alloc (.cells #[.int .i64 e.kind, .int .i64 e.a, .int .i64 e.b, .string ⟨e.name.toArray⟩, .slice p e.kids.length c] 38)) := fun w' hw => hPT w' (hbA.trans (hw.mono hbA.size))
  have c0 := alive4_any _ hPA
  unfold exV
  clear hPA
  generalize hwA : w.alloc (.cells #[.int .i64 e.kind, .int .i64 e.a, .int .i64 e.b, .string ⟨e.name.toArray⟩, .slice p e.kids.length c] 38) = wA at *
  go_enter Tryz.func5, Tryz.ntmps5
  go_wp2_with fail
  refine c0.mono ?_
  rintro r w0 ⟨rfl, hb0⟩
  have hx0 := (hb0.block _ (lt_of_block hxA)).trans hxA
  have hb0w := hbA.trans (hb0.mono hbA.size)
  have hb1 := hb0w.alloc hb0w.size (.cells #[.string ⟨#[97]⟩, .int .i64 e.kind, .int .i64 e.a, .int .i64 e.b, .string ⟨e.name.toArray⟩, .slice p e.kids.length c] 40)
  have bx1 := (Below.refl _ w0).alloc (Nat.le_refl _) (.cells #[.string ⟨#[97]⟩, .int .i64 e.kind, .int .i64 e.a, .int .i64 e.b, .string ⟨e.name.toArray⟩, .slice p e.kids.length c] 40)
  have hr1 := heap_alloc_new w0 (.cells #[.string ⟨#[97]⟩, .int .i64 e.kind, .int .i64 e.a, .int .i64 e.b, .string ⟨e.name.toArray⟩, .slice p e.kids.length c] 40)
  have hx1 := (bx1.block _ (lt_of_block hx0)).trans hx0
  clear c0 hxA hwA hb0 hbA bx1
  generalize hw1 : w0.alloc (.cells #[.string ⟨#[97]⟩, .int .i64 e.kind, .int .i64 e.a, .int .i64 e.b, .string ⟨e.name.toArray⟩, .slice p e.kids.length c] 40) = w1 at *
  have i1 : InR w1 (.slice (some ⟨w0.heap.size, 0, none⟩) 1 1) [(([97], e), .slice p e.kids.length c)] := by
    refine ⟨one_rule hr1, by simp, fun q hq => ?_⟩
    rw [List.mem_singleton.1 hq]
    exact ⟨by show ([97] : List UInt8).length ≤ _; decide, hn, d, (hk.kept fun g _ hl => hb1.block g hl).mono fun g hg => Nat.lt_of_lt_of_le hg hb1.size⟩
  have hP1 : PTb w1.heap.size w1 := fun w' hw => hPT w' (hb1.trans (hw.mono hb1.size))
  by_cases hE : (printP [([97], e)]).2.1 = 0
  · obtain ⟨hw0, h6⟩ := printP_good hE
    have c1 := print_fine i1 hP1 hw0 h6
    obtain ⟨_, hr0⟩ := wrongR_each (l := [([97], e)]) (by rw [hw0])
    have hr := hr0 _ List.mem_cons_self
    obtain ⟨sB, hsB⟩ : ∃ sB : ByteArray, sB = ⟨(rulesT [([97], e)]).toArray⟩ := ⟨_, rfl⟩
    have c1 : Calls Tryz.prog 7 #[.slice (some ⟨w0.heap.size, 0, none⟩) 1 1] w1 fun e w' => e = .returned (.tuple #[.string sB, .agg #[.int .i64 0, .int .i64 0]]) ∧ Below w1.heap.size w1 w' := by rw [hsB]; exact c1
    have hz : sB.size = (textE e 0).length + 11 := by rw [hsB, rulesT_one]; simp [ByteArray.size]
    have hl6 : (textE e 0).length ≤ 6000 := by rw [rulesT_one] at h6; simp at h6; omega
    obtain ⟨n, hn0⟩ : ∃ n, (textE e 0).length = n := ⟨_, rfl⟩
    have HX := hid_of (body_cut e sB n hsB hn0)
    clear hsB h6 hw0 hE hr0 i1 hP1
    have Hn := hid_of hn0
    rw [hn0] at hz hl6
    have hnI : (n : Int) ≤ 6000 := by omega
    clear hn0
    by_cases ht : 0 ≤ times ∧ times ≤ 60
    · have t1 : ¬ times < 0 := by omega
      have t2 : ¬ 60 < times := by omega
      go_wp2_with (first
        | (refine wpList_load_row rfl 38 _ rfl _ rfl _ _ _ _ hx0 exprType rfl (by kernel_rfl) ?_))
      refine c1.mono ?_
      rintro r w2 ⟨rfl, hb2⟩
      have hx2 := (hb2.block _ (lt_of_block hx1)).trans hx1
      have hb2w := hb1.trans (hb2.mono hb1.size)
      have hb3 := hb2w.alloc hb2w.size (.cells #[.int .i64 0, .int .i64 0] 26)
      have hf3 := heap_alloc_new w2 (.cells #[.int .i64 0, .int .i64 0] 26)
      have hx3 := (Below.heap_alloc w2 (.cells #[.int .i64 0, .int .i64 0] 26) _ (lt_of_block hx2)).trans hx2
      have hwg : w.heap.size ≤ w2.heap.size := hb2w.size
      have hwl : w.heap.size < w2.heap.size := lt_of_block hx2
      clear c1 hb2 hx2 hx1 hx0 hb1 hb2w hb0w hr1 hw1
      go_wp2_with fail
      rw [HX.out]
      generalize hw3 : w2.alloc (.cells #[.int .i64 0, .int .i64 0] 26) = w3 at *
      clear hw3 HX hz
      go_loopw [7, 35] (fun s t wr => KRel e times w3 s t wr) (fun _ t _ => times.toNat - (intOf t).toNat)
      case atStart => exact ⟨0, rfl, by omega, rfl, rfl⟩
      case round =>
        obtain ⟨j, rfl, hj, rfl, rfl⟩ := hrel
        have hj0 : (0 : Int) ≤ (j : Int) := by omega
        have hbn := body_next e j
        have hsz : (⟨(bodyT e j).toArray⟩ : ByteArray).size = n + 2 * j := by
          show (bodyT e j).toArray.size = _
          rw [List.size_toArray, body_len, Hn.out]
        by_cases hlt : (j : Int) < times
        · have HB := hid_of hbn
          generalize (⟨(bodyT e j).toArray⟩ : ByteArray) = sb at *
          have q1 : ¬ 9223372036854775807 < 1 + sb.size := by omega
          have q2 : ¬ 9223372036854775807 < 1 + sb.size + 1 := by omega
          clear hbn hsz
          go_wp2_with fail
          go_roundw
          case rel => exact ⟨j + 1, by go_num, by omega, by rw [HB.out], rfl⟩
          case measure => simp [intOf]; omega
        · have ej : (j : Int) = times := by omega
          have hcat : ((⟨#[114, 117, 108, 101, 32, 97, 32, 61, 32]⟩ : ByteArray) ++ ⟨(bodyT e j).toArray⟩ ++ ⟨#[59]⟩).data.toList = brackT e j := by
            simp [ByteArray.data_append, brackT]
          have c2 := parse_any ((⟨#[114, 117, 108, 101, 32, 97, 32, 61, 32]⟩ : ByteArray) ++ ⟨(bodyT e j).toArray⟩ ++ ⟨#[59]⟩) (brackT e j) hcat (by unfold brackT; simp [body_len, Hn.out]; omega) wr (hPT wr hb3).1 (hPT wr hb3).2.1
          generalize (⟨(bodyT e j).toArray⟩ : ByteArray) = sb at *
          have q1 : ¬ 9223372036854775807 < 9 + sb.size := by omega
          have q2 : ¬ 9223372036854775807 < 9 + sb.size + 1 := by omega
          clear hbn hsz hcat
          go_wp2_with fail
          refine c2.mono ?_
          rintro r w4 ⟨⟨v2, er2, at2, rfl, h2⟩, hb4⟩
          have hf4 := (hb4.block _ (lt_of_block hf3)).trans hf3
          have hx4 := (hb4.block _ (lt_of_block hx3)).trans hx3
          have hb4w := hb3.trans (hb4.mono hb3.size)
          have hgl := lt_of_block hf3
          rcases ptells_brack hr h2 with rfl | ⟨rfl, us2, r2, h402, hmap⟩
          · have hbT := below_setRow hb4w hwg #[.int .i64 4, .int .i64 at2]
            have hfT := setRow_heap w4 w2.heap.size _ #[.int .i64 4, .int .i64 at2] _ _ hf4
            have aT := (cell_of_row _ _ 0 _ _ _ hfT).trans rfl
            obtain rfl := ptells_bad h2 (by decide)
            clear c2 h2 hb4 hfT
            go_wp2_with (first
              | (refine wpList_store_row rfl 26 _ _ rfl _ _ rfl rfl _ _ hf4 (by kernel_rfl) (by simp) (by simp [Value.oneCell']) ?_))
            go_ret
            exact ⟨rfl, hbT⟩
          · have hbT := below_setRow hb4w hwg #[.int .i64 0, .int .i64 at2]
            have hfT := setRow_heap w4 w2.heap.size _ #[.int .i64 0, .int .i64 at2] _ _ hf4
            have hxT := (setRow_other w4 w2.heap.size w.heap.size #[.int .i64 0, .int .i64 at2] (by omega)).trans hx4
            have r2T := r2.later (w' := w4.setRow w2.heap.size #[.int .i64 0, .int .i64 at2]) (fun k hk => setRow_other _ _ _ _ (by omega)) (Nat.le_refl _)
            obtain ⟨p2, n2, rfl⟩ := row_form r2.own
            clear c2 h2 hb4 r2 hx4 hb4w
            generalize hWT : w4.setRow w2.heap.size #[.int .i64 0, .int .i64 at2] = W at *
            have aT := (cell_of_row _ _ 0 _ _ _ hfT).trans rfl
            have c3 := rbare_any d e (.slice p e.kids.length c) W ((hk.kept fun g _ hl => hbT.block g hl).mono fun g hg => Nat.lt_of_lt_of_le hg hbT.size) (ruleP_ok hr).2.1
            unfold exV at c3
            clear hfT hx3 hf3
            go_wp2_with (first
              | (refine wpList_store_row rfl 26 _ _ rfl _ _ rfl rfl _ _ hf4 (by kernel_rfl) (by simp) (by simp [Value.oneCell']) ?_; rw [hWT])
              | (refine wpList_load_row rfl 38 _ rfl _ rfl _ _ _ _ hxT exprType rfl (by kernel_rfl) ?_))
            refine c3.mono ?_
            rintro r w5 ⟨p5, c5, d5, rfl, hkd5, hb5⟩
            unfold exV
            have hb6 := hb5.alloc hb5.size (.cells #[.string ⟨#[97]⟩, .int .i64 (bareE e).kind, .int .i64 (bareE e).a, .int .i64 (bareE e).b, .string ⟨(bareE e).name.toArray⟩, .slice p5 e.kids.length c5] 40)
            have by6 := (Below.refl _ w5).alloc (Nat.le_refl _) (.cells #[.string ⟨#[97]⟩, .int .i64 (bareE e).kind, .int .i64 (bareE e).a, .int .i64 (bareE e).b, .string ⟨(bareE e).name.toArray⟩, .slice p5 e.kids.length c5] 40)
            have hr6 := heap_alloc_new w5 (.cells #[.string ⟨#[97]⟩, .int .i64 (bareE e).kind, .int .i64 (bareE e).a, .int .i64 (bareE e).b, .string ⟨(bareE e).name.toArray⟩, .slice p5 e.kids.length c5] 40)
            have hb6w := hbT.trans (hb6.mono hbT.size)
            obtain ⟨x1, x2⟩ := rowR_below r2T hb6 h402
            have hl5 : (bareE e).kids.length = e.kids.length := by rw [bareE_eq]; simp
            have y1 : RRow (w5.alloc (.cells #[.string ⟨#[97]⟩, .int .i64 (bareE e).kind, .int .i64 (bareE e).a, .int .i64 (bareE e).b, .string ⟨(bareE e).name.toArray⟩, .slice p5 e.kids.length c5] 40)) (.slice (some ⟨w5.heap.size, 0, none⟩) 1 1) [(([97], bareE e), .slice p5 e.kids.length c5)] := by
              have := one_rule (x := [97]) (e := bareE e) (p := p5) (c := c5) (g := w5.heap.size) (w := w5.alloc (.cells #[.string ⟨#[97]⟩, .int .i64 (bareE e).kind, .int .i64 (bareE e).a, .int .i64 (bareE e).b, .string ⟨(bareE e).name.toArray⟩, .slice p5 e.kids.length c5] 40)) (by rw [hl5]; exact hr6)
              rw [hl5] at this
              exact this
            have y2 : KidsR (fun k => W.heap.size ≤ k) (w5.alloc (.cells #[.string ⟨#[97]⟩, .int .i64 (bareE e).kind, .int .i64 (bareE e).a, .int .i64 (bareE e).b, .string ⟨(bareE e).name.toArray⟩, .slice p5 e.kids.length c5] 40)) [(([97], bareE e), .slice p5 e.kids.length c5)] := fun q hq => by
              rw [List.mem_singleton.1 hq]
              exact ⟨d5, hkd5.kept fun k _ hl => by6.block k hl⟩
            have c4 := same_any _ _ us2 _ _ _ _ x1 y1 x2 y2 (by rw [hmap]; rfl)
            clear x1 x2 y1 y2 hkd5 r2T hr6 by6 hl5 hb6 hb5
            generalize hw6 : w5.alloc (.cells #[.string ⟨#[97]⟩, .int .i64 (bareE e).kind, .int .i64 (bareE e).a, .int .i64 (bareE e).b, .string ⟨(bareE e).name.toArray⟩, .slice p5 e.kids.length c5] 40) = w6 at *
            go_wp2_with fail
            refine c4.mono ?_
            rintro r w7 ⟨rfl, hb7⟩
            have hb7w := hb6w.trans (hb7.mono hb6w.size)
            clear c4 hb7
            go_wp2_with fail
            go_ret
            exact ⟨rfl, hb7w⟩
    · clear HX
      by_cases t1 : times < 0
      · go_wp2_with (first
          | (refine wpList_load_row rfl 38 _ rfl _ rfl _ _ _ _ hx0 exprType rfl (by kernel_rfl) ?_))
        refine c1.mono ?_
        rintro r w2 ⟨rfl, hb2⟩
        have hb2w := hb1.trans (hb2.mono hb1.size)
        have hb3 := hb2w.alloc hb2w.size (.cells #[.int .i64 0, .int .i64 0] 26)
        clear c1
        go_wp2_with fail
        go_ret
        exact ⟨rfl, hb3⟩
      · have t2 : 60 < times := by omega
        go_wp2_with (first
          | (refine wpList_load_row rfl 38 _ rfl _ rfl _ _ _ _ hx0 exprType rfl (by kernel_rfl) ?_))
        refine c1.mono ?_
        rintro r w2 ⟨rfl, hb2⟩
        have hb2w := hb1.trans (hb2.mono hb1.size)
        have hb3 := hb2w.alloc hb2w.size (.cells #[.int .i64 0, .int .i64 0] 26)
        clear c1
        go_wp2_with fail
        go_ret
        exact ⟨rfl, hb3⟩
  · have c1 := print_any _ _ w1 i1 hP1
    unfold OutP at c1
    simp only [List.map_cons, List.map_nil] at c1
    rw [printP_bad hE] at c1
    have hne : ((printP [([97], e)]).2.1 != 0) = true := by simpa using hE
    generalize (printP [([97], e)]).2.1 = E at *
    generalize (((printP [([97], e)]).2.2 : Nat) : Int) = F at *
    clear i1 hP1 hPT hE hk
    go_wp2_with (first
      | (refine wpList_load_row rfl 38 _ rfl _ rfl _ _ _ _ hx0 exprType rfl (by kernel_rfl) ?_))
    refine c1.mono ?_
    rintro r w2 ⟨rfl, hb2⟩
    have hb2w := hb1.trans (hb2.mono hb1.size)
    have hba := hb2w.alloc hb2w.size (.cells #[.int .i64 E, .int .i64 F] 26)
    clear c1
    go_wp2_with fail
    go_ret
    exact ⟨rfl, hba⟩
end Go.Proofs.YteheahhifihmjaaGreatDoor
