/- What slotref3.One comes to where no date stands. -/
import Derived.Test.YtggcepicghibjacDoorPm27
import Derived.Deep.CutRange
namespace Go.Proofs.YtggcepicghibjacDoor
open Go.RowKit Lx

set_option maxRecDepth 100000 in
set_option maxHeartbeats 8000000 in
theorem one_rest (s : ByteArray) (l : List UInt8) (hs : s.data.toList = l) (hl : l.length ≤ 6000) (k : Nat) (hk : k < l.length) (hf : fitsL (l.drop k) dateF = false) (w : World) :
    Calls Tryd.prog 53 #[.string s, .int .i64 (k : Int)] w fun e w' => OneTells (firstT (l.drop k)) k e ∧ Below w.heap.size w w' := by
  have hF : firstT (l.drop k) = if fitsL (l.drop k) timeF then timeT (l.drop k) else if isD ((l.drop k).getD 0 0) then numT (l.drop k) else if isL ((l.drop k).getD 0 0) then wordT (l.drop k) else signT (l.drop k) := by unfold firstT; rw [hf]; rfl
  have hfb := hf
  rw [date_bools] at hfb
  have c1 : ∀ w, Calls Tryd.prog 78 #[.string s, .int .i64 (k : Int), .int .i64 4] w fun e w' => e = .returned (.tuple #[.int .i64 (digL l k 4).1, .bool (digL l k 4).2]) ∧ Below w.heap.size w w' := fun w => rdigits_any s l hs hl k 4 (by omega) (by omega) w
  have c2 : ∀ w, Calls Tryd.prog 78 #[.string s, .int .i64 ((k : Int) + 5), .int .i64 2] w fun e w' => e = .returned (.tuple #[.int .i64 (digL l (k + 5) 2).1, .bool (digL l (k + 5) 2).2]) ∧ Below w.heap.size w w' := fun w => rdigits_any s l hs hl (k + 5) 2 (by omega) (by omega) w
  have c3 : ∀ w, Calls Tryd.prog 78 #[.string s, .int .i64 ((k : Int) + 8), .int .i64 2] w fun e w' => e = .returned (.tuple #[.int .i64 (digL l (k + 8) 2).1, .bool (digL l (k + 8) 2).2]) ∧ Below w.heap.size w w' := fun w => rdigits_any s l hs hl (k + 8) 2 (by omega) (by omega) w
  have c4 : ∀ w, Calls Tryd.prog 79 #[.string s, .int .i64 ((k : Int) + 4), .int .u8 45] w fun e w' => e = .returned (.bool (atB l (k + 4) 45)) ∧ w' = w := fun w => rsign_any s l hs (k + 4) 45 w
  have c5 : ∀ w, Calls Tryd.prog 79 #[.string s, .int .i64 ((k : Int) + 7), .int .u8 45] w fun e w' => e = .returned (.bool (atB l (k + 7) 45)) ∧ w' = w := fun w => rsign_any s l hs (k + 7) 45 w
  generalize (digL l k 4).1 = y1 at *
  generalize (digL l k 4).2 = b1 at *
  generalize (digL l (k + 5) 2).1 = y2 at *
  generalize (digL l (k + 5) 2).2 = b2 at *
  generalize (digL l (k + 8) 2).1 = y3 at *
  generalize (digL l (k + 8) 2).2 = b3 at *
  generalize atB l (k + 4) 45 = b4 at *
  generalize atB l (k + 7) 45 = b5 at *
  have h0 : (w.alloc (.cells #[.int .i64 0, .int .i64 0, .int .i64 0, .string ⟨#[]⟩] 30)).heap[w.heap.size]? = some (.cells #[.int .i64 0, .int .i64 0, .int .i64 0, .string ⟨#[]⟩] 30 (0, 0)) := heap_alloc_new w _
  have hb0 : Below w.heap.size w (w.alloc (.cells #[.int .i64 0, .int .i64 0, .int .i64 0, .string ⟨#[]⟩] 30)) := (Below.refl _ _).alloc (Nat.le_refl _) _
  have hk' : (k : Int) < 6000 := by omega
  have hk0 : (0 : Int) ≤ (k : Int) := by omega
  have HF : Hid (firstT (l.drop k) = if fitsL (l.drop k) timeF then timeT (l.drop k) else if isD ((l.drop k).getD 0 0) then numT (l.drop k) else if isL ((l.drop k).getD 0 0) then wordT (l.drop k) else signT (l.drop k)) := hF
  have HB : Hid ((b1 && (b2 && (b3 && (b4 && b5)))) = false) := hfb
  clear hF hf hfb
  go_enter Tryd.func53, Tryd.ntmps53
  go_wp2_with fail
  refine (c1 _).mono ?_
  rintro e w1 ⟨rfl, hb1⟩
  have h1 := (hb1.block _ (lt_of_block h0)).trans h0
  have hbw1 := hb0.trans (hb1.mono hb0.size)
  clear hb1 h0 hb0
  go_wp2_with fail
  refine (c2 _).mono ?_
  rintro e w2 ⟨rfl, hb2⟩
  have h2 := (hb2.block _ (lt_of_block h1)).trans h1
  have hbw2 := hbw1.trans (hb2.mono hbw1.size)
  clear hb2 h1 hbw1
  go_wp2_with fail
  refine (c3 _).mono ?_
  rintro e w3 ⟨rfl, hb3⟩
  have h3 := (hb3.block _ (lt_of_block h2)).trans h2
  have hbw3 := hbw2.trans (hb3.mono hbw2.size)
  clear hb3 h2 hbw2 c1 c2 c3
  go_upto_region 4 with fail
  go_cut [60] from 42 to 60 (fun v wr => v = .bool false ∧ wr = w3)
  case first =>
    cases b1 with
    | false =>
      go_wp2_with fail
      go_meet
      case rel => exact ⟨rfl, rfl⟩
    | true =>
      cases b2 with
      | false =>
        go_wp2_with fail
        go_meet
        case rel => exact ⟨rfl, rfl⟩
      | true =>
        cases b3 with
        | false =>
          go_wp2_with fail
          go_meet
          case rel => exact ⟨rfl, rfl⟩
        | true =>
          cases b4 with
          | false =>
            go_wp2_with fail
            refine (c4 _).mono ?_
            rintro e w' ⟨rfl, rfl⟩
            go_wp2_with fail
            go_meet
            case rel => exact ⟨rfl, rfl⟩
          | true =>
            cases b5 with
            | false =>
              go_wp2_with fail
              refine (c4 _).mono ?_
              rintro e w' ⟨rfl, rfl⟩
              go_wp2_with fail
              refine (c5 _).mono ?_
              rintro e w' ⟨rfl, rfl⟩
              go_wp2_with fail
              go_meet
              case rel => exact ⟨rfl, rfl⟩
            | true => exact absurd HB.out (by decide)
  case rest =>
    obtain ⟨rfl, rfl⟩ := hcut
    clear HB c4 c5
    have c6 : ∀ w, Calls Tryd.prog 78 #[.string s, .int .i64 (k : Int), .int .i64 2] w fun e w' => e = .returned (.tuple #[.int .i64 (digL l k 2).1, .bool (digL l k 2).2]) ∧ Below w.heap.size w w' := fun w => rdigits_any s l hs hl k 2 (by omega) (by omega) w
    have c7 : ∀ w, Calls Tryd.prog 78 #[.string s, .int .i64 ((k : Int) + 3), .int .i64 2] w fun e w' => e = .returned (.tuple #[.int .i64 (digL l (k + 3) 2).1, .bool (digL l (k + 3) 2).2]) ∧ Below w.heap.size w w' := fun w => rdigits_any s l hs hl (k + 3) 2 (by omega) (by omega) w
    have c8 : ∀ w, Calls Tryd.prog 79 #[.string s, .int .i64 ((k : Int) + 2), .int .u8 58] w fun e w' => e = .returned (.bool (atB l (k + 2) 58)) ∧ w' = w := fun w => rsign_any s l hs (k + 2) 58 w
    have htb := time_bools l k
    have tv1 : (digL l k 2).2 = true → (digL l k 2).1 = valL (((l.drop k).drop 0).take 2) := fun h => dig_val h
    have tv2 : (digL l (k + 3) 2).2 = true → (digL l (k + 3) 2).1 = valL (((l.drop k).drop 3).take 2) := fun h => by rw [List.drop_drop]; exact dig_val h
    have hbd : fitsL (l.drop k) timeF = true → (0 ≤ valL (((l.drop k).drop 0).take 2) ∧ valL (((l.drop k).drop 0).take 2) < 1000000) ∧ (0 ≤ valL (((l.drop k).drop 3).take 2) ∧ valL (((l.drop k).drop 3).take 2) < 1000000) := fun h => by
      have p1 := dig_part h 0 2 (by decide) (fun i hi => by match i, hi with | 0, _ => rfl | 1, _ => rfl)
      have p2 := dig_part h 3 2 (by decide) (fun i hi => by match i, hi with | 0, _ => rfl | 1, _ => rfl)
      have q1 := valL_small _ p1.2 2 (by omega) (by omega)
      have q2 := valL_small _ p2.2 2 (by omega) (by omega)
      rw [List.take_of_length_le (by omega)] at q1 q2
      exact ⟨q1, q2⟩
    generalize (digL l k 2).1 = y4 at *
    generalize (digL l k 2).2 = b6 at *
    generalize (digL l (k + 3) 2).1 = y5 at *
    generalize (digL l (k + 3) 2).2 = b7 at *
    generalize atB l (k + 2) 58 = b8 at *
    cases hft : fitsL (l.drop k) timeF with
    | true =>
      rw [hft] at htb
      obtain ⟨rfl, rfl, rfl⟩ : b6 = true ∧ b7 = true ∧ b8 = true := by
        have := htb.symm
        simpa [Bool.and_eq_true] using this
      have e4 := tv1 rfl
      have e5 := tv2 rfl
      have hb := hbd hft
      rw [← e4, ← e5] at hb
      have HT : Hid (firstT (l.drop k) = if 59 < y5 ∨ 1440 < 60 * y4 + y5 then bad 3 else ⟨4, 60 * y4 + y5, [], 5, 0⟩) := by
        show firstT (l.drop k) = _
        rw [HF.out, hft, e4, e5]; rfl
      obtain ⟨⟨i1, i2⟩, i3, i4⟩ := hb
      clear tv1 tv2 e4 e5 htb hbd hft HF
      by_cases hA : 59 < y5
      · have j1 : (60 : Int) ≤ y5 := by omega
        have HT2 : Hid (firstT (l.drop k) = bad 3) := by show _ = _; rw [HT.out, if_pos (.inl hA)]
        clear HT
        go_wp2_with fail
        refine (c6 _).mono ?_
        rintro e w4 ⟨rfl, hb4⟩
        have h4 := (hb4.block _ (lt_of_block h3)).trans h3
        have hbw4 := hbw3.trans (hb4.mono hbw3.size)
        clear hb4 h3 hbw3
        go_wp2_with fail
        refine (c7 _).mono ?_
        rintro e w5 ⟨rfl, hb5⟩
        have h5 := (hb5.block _ (lt_of_block h4)).trans h4
        have hbw5 := hbw4.trans (hb5.mono hbw4.size)
        clear hb5 h4 hbw4 c6 c7
        go_wp2_with fail
        refine (c8 _).mono ?_
        rintro e w' ⟨rfl, rfl⟩
        go_wp2_with (refine wpList_store_row rfl 30 _ _ rfl _ _ rfl rfl _ _ h5 (by kernel_rfl) (by simp) (by simp [Value.oneCell']) ?_)
        refine one_post w.heap.size 0 0 0 (k : Int) 3 ⟨#[]⟩ rfl rfl rfl rfl (setRow_heap _ _ _ _ _ _ h5) ⟨?_, below_setRow hbw5 (Nat.le_refl _) _⟩
        exact ⟨0, 0, 0, (k : Int), ⟨#[]⟩, by rw [HT2.out]; rfl, fun h => by rw [HT2.out] at h; cases h⟩
      · have j1 : ¬ (60 : Int) ≤ y5 := by omega
        by_cases hB : 1440 < 60 * y4 + y5
        · have HT2 : Hid (firstT (l.drop k) = bad 3) := by show _ = _; rw [HT.out, if_pos (.inr hB)]
          clear HT hA
          go_wp2_with fail
          refine (c6 _).mono ?_
          rintro e w4 ⟨rfl, hb4⟩
          have h4 := (hb4.block _ (lt_of_block h3)).trans h3
          have hbw4 := hbw3.trans (hb4.mono hbw3.size)
          clear hb4 h3 hbw3
          go_wp2_with fail
          refine (c7 _).mono ?_
          rintro e w5 ⟨rfl, hb5⟩
          have h5 := (hb5.block _ (lt_of_block h4)).trans h4
          have hbw5 := hbw4.trans (hb5.mono hbw4.size)
          clear hb5 h4 hbw4 c6 c7
          go_wp2_with fail
          refine (c8 _).mono ?_
          rintro e w' ⟨rfl, rfl⟩
          go_wp2_with (refine wpList_store_row rfl 30 _ _ rfl _ _ rfl rfl _ _ h5 (by kernel_rfl) (by simp) (by simp [Value.oneCell']) ?_)
          refine one_post w.heap.size 0 0 0 (k : Int) 3 ⟨#[]⟩ rfl rfl rfl rfl (setRow_heap _ _ _ _ _ _ h5) ⟨?_, below_setRow hbw5 (Nat.le_refl _) _⟩
          exact ⟨0, 0, 0, (k : Int), ⟨#[]⟩, by rw [HT2.out]; rfl, fun h => by rw [HT2.out] at h; cases h⟩
        · have HT2 : Hid (firstT (l.drop k) = ⟨4, 60 * y4 + y5, [], 5, 0⟩) := by show _ = _; rw [HT.out, if_neg (by omega)]
          have j2 : 60 * y4 + y5 ≤ 1440 := by omega
          clear HT hA hB
          go_wp2_with fail
          refine (c6 _).mono ?_
          rintro e w4 ⟨rfl, hb4⟩
          have h4 := (hb4.block _ (lt_of_block h3)).trans h3
          have hbw4 := hbw3.trans (hb4.mono hbw3.size)
          clear hb4 h3 hbw3
          go_wp2_with fail
          refine (c7 _).mono ?_
          rintro e w5 ⟨rfl, hb5⟩
          have h5 := (hb5.block _ (lt_of_block h4)).trans h4
          have hbw5 := hbw4.trans (hb5.mono hbw4.size)
          clear hb5 h4 hbw4 c6 c7
          go_wp2_with fail
          refine (c8 _).mono ?_
          rintro e w' ⟨rfl, rfl⟩
          go_wp2_with (refine wpList_store_row rfl 30 _ _ rfl _ _ rfl rfl _ _ h5 (by kernel_rfl) (by simp) (by simp [Value.oneCell']) ?_)
          refine one_post w.heap.size 4 (60 * y4 + y5) (k : Int) ((k : Int) + 5) 0 ⟨#[]⟩ rfl rfl rfl rfl (setRow_heap _ _ _ _ _ _ h5) ⟨?_, below_setRow hbw5 (Nat.le_refl _) _⟩
          exact ⟨4, 60 * y4 + y5, (k : Int), (k : Int) + 5, ⟨#[]⟩, by rw [HT2.out], fun h => by rw [HT2.out]; exact ⟨rfl, rfl, rfl, rfl, rfl⟩⟩
    | false =>
      rw [hft] at htb
      have HB : Hid ((b6 && (b7 && b8)) = false) := htb.symm
      have HF2 : Hid (firstT (l.drop k) = if isD ((l.drop k).getD 0 0) then numT (l.drop k) else if isL ((l.drop k).getD 0 0) then wordT (l.drop k) else signT (l.drop k)) := by
        show firstT (l.drop k) = _
        rw [HF.out, hft]; rfl
      clear HF tv1 tv2 htb hbd hft
      go_wp2_with fail
      refine (c6 _).mono ?_
      rintro e w4 ⟨rfl, hb4⟩
      have h4 := (hb4.block _ (lt_of_block h3)).trans h3
      have hbw4 := hbw3.trans (hb4.mono hbw3.size)
      clear hb4 h3 hbw3
      go_wp2_with fail
      refine (c7 _).mono ?_
      rintro e w5 ⟨rfl, hb5⟩
      have h5 := (hb5.block _ (lt_of_block h4)).trans h4
      have hbw5 := hbw4.trans (hb5.mono hbw4.size)
      clear hb5 h4 hbw4 c6 c7
      go_upto_region 9 with fail
      go_cut [97] from 88 to 97 (fun v wr => v = .bool false ∧ wr = w5)
      case first =>
        cases b6 with
        | false =>
          go_wp2_with fail
          go_meet
          case rel => exact ⟨rfl, rfl⟩
        | true =>
          cases b7 with
          | false =>
            go_wp2_with fail
            go_meet
            case rel => exact ⟨rfl, rfl⟩
          | true =>
            cases b8 with
            | false =>
              go_wp2_with fail
              refine (c8 _).mono ?_
              rintro e w' ⟨rfl, rfl⟩
              go_wp2_with fail
              go_meet
              case rel => exact ⟨rfl, rfl⟩
            | true => exact absurd HB.out (by decide)
      case rest =>
        obtain ⟨rfl, rfl⟩ := hcut
        clear HB c8
        have hz : s.size = l.length := by rw [← hs, Lib.size_eq]
        have g1 : ∀ h : k < s.size, s[k] = l.getD k 0 := fun h => byte_at hs k h
        have hk1 : (k : Int) < (l.length : Int) := by omega
        have hd0 : (l.drop k).getD 0 0 = l.getD k 0 := by rw [getD_drop]; rfl
        have cD := fun w => rdigit_any (l.getD k 0) w
        have cL := fun w => rlow_any (l.getD k 0) w
        cases hD0 : isD (l.getD k 0) with
        | true =>
          have HT : Hid (firstT (l.drop k) = numT (l.drop k)) := by show _ = _; rw [HF2.out, hd0, hD0]; rfl
          rw [hD0] at cD
          clear HF2 cL hd0 hD0
          generalize hc : l.getD k 0 = c at *
          go_wp2_with (go_at_call 64; refine (cD _).mono ?_; rintro e w' ⟨rfl, rfl⟩)
          go_loop [16] (fun v => ∃ e : Nat, v = .int .i64 (e : Int) ∧ k ≤ e ∧ e ≤ l.length ∧ ∀ i, k ≤ i → i < e → isD (l.getD i 0) = true) (fun v => l.length - (intOf v).toNat)
          case atStart => exact ⟨k, rfl, by omega, by omega, fun i h1 h2 => by omega⟩
          case round =>
            obtain ⟨e, rfl, he1, he2, hall⟩ := hrel
            have HA : Hid (∀ i, k ≤ i → i < e → isD (l.getD i 0) = true) := hall
            clear hall cD g1 hc
            have he0 : (0 : Int) ≤ (e : Int) := by omega
            have he3 : (e : Int) ≤ 6000 := by omega
            by_cases hlt : e < l.length
            · have hlt' : (e : Int) < (l.length : Int) := by omega
              have g2 : ∀ h : e < s.size, s[e] = l.getD e 0 := fun h => byte_at hs e h
              have cE := fun w => rdigit_any (l.getD e 0) w
              cases hD : isD (l.getD e 0) with
              | true =>
                rw [hD] at cE
                have HD : Hid (isD (l.getD e 0) = true) := hD
                clear hD HT
                generalize hc : l.getD e 0 = ce at *
                go_wp2_with (go_at_call 64; refine (cE _).mono ?_; rintro e' w' ⟨rfl, rfl⟩)
                go_round
                case rel =>
                  refine ⟨e + 1, by go_num, by omega, by omega, fun i h1 h2 => ?_⟩
                  by_cases q : i = e
                  · rw [q, hc]; exact HD.out
                  · exact HA.out i h1 (by omega)
                case measure => simp [intOf]; omega
              | false =>
                rw [hD] at cE
                have hrun := run_at isD l k e he1 he2 HA.out (fun _ => hD)
                have HN : Hid (firstT (l.drop k) = if 6 < e - k then bad 3 else ⟨6, valL ((l.drop k).take (e - k)), [], e - k, 0⟩) := by
                  show _ = _
                  rw [HT.out]; unfold numT; rw [hrun]
                by_cases h6 : 6 < e - k
                · have j6 : (6 : Int) < (e : Int) - (k : Int) := by omega
                  have HN2 : Hid (firstT (l.drop k) = bad 3) := by show _ = _; rw [HN.out, if_pos h6]
                  clear HN hrun HT h6 hD
                  generalize l.getD e 0 = ce at *
                  go_wp2_with (first
                    | (go_at_call 64; refine (cE _).mono ?_; rintro e' w' ⟨rfl, rfl⟩)
                    | (refine wpList_store_row rfl 30 _ _ rfl _ _ rfl rfl _ _ h5 (by kernel_rfl) (by simp) (by simp [Value.oneCell']) ?_))
                  refine one_post w.heap.size 0 0 0 (k : Int) 3 ⟨#[]⟩ rfl rfl rfl rfl (setRow_heap _ _ _ _ _ _ h5) ⟨?_, below_setRow hbw5 (Nat.le_refl _) _⟩
                  exact ⟨0, 0, 0, (k : Int), ⟨#[]⟩, by rw [HN2.out]; rfl, fun h => by rw [HN2.out] at h; cases h⟩
                · have j6 : ¬ (6 : Int) < (e : Int) - (k : Int) := by omega
                  have HN2 : Hid (firstT (l.drop k) = ⟨6, valL ((l.drop k).take (e - k)), [], e - k, 0⟩) := by show _ = _; rw [HN.out, if_neg h6]
                  have c9 : ∀ w, Calls Tryd.prog 78 #[.string s, .int .i64 (k : Int), .int .i64 ((e : Int) - (k : Int))] w fun e' w' => e' = .returned (.tuple #[.int .i64 (valL ((l.drop k).take (e - k))), .bool true]) ∧ Below w.heap.size w w' := fun w => by
                    have b : (digL l k (e - k)).2 = true := (dig_iff l k (e - k)).2 ⟨by omega, fun i hi => HA.out (k + i) (by omega) (by omega)⟩
                    have t := rdigits_any s l hs hl k (e - k) (by omega) (by omega) w
                    rw [b, dig_val b, show ((e - k : Nat) : Int) = (e : Int) - (k : Int) by omega] at t
                    exact t
                  generalize valL ((l.drop k).take (e - k)) = nv at *
                  clear HN hrun HT h6 hD
                  generalize l.getD e 0 = ce at *
                  go_wp2_with (first
                    | (go_at_call 64; refine (cE _).mono ?_; rintro e' w' ⟨rfl, rfl⟩)
                    | (go_at_call 78; refine (c9 _).mono ?_; rintro e' w6 ⟨rfl, hb6⟩; have h6 := (hb6.block _ (lt_of_block h5)).trans h5; have hbw6 := hbw5.trans (hb6.mono hbw5.size); clear hb6)
                    | (refine wpList_store_row rfl 30 _ _ rfl _ _ rfl rfl _ _ h6 (by kernel_rfl) (by simp) (by simp [Value.oneCell']) ?_))
                  refine one_post w.heap.size 6 nv (k : Int) (e : Int) 0 ⟨#[]⟩ rfl rfl rfl rfl (setRow_heap _ _ _ _ _ _ h6) ⟨?_, below_setRow hbw6 (Nat.le_refl _) _⟩
                  exact ⟨6, nv, (k : Int), (e : Int), ⟨#[]⟩, by rw [HN2.out], fun h => by rw [HN2.out]; exact ⟨rfl, rfl, rfl, rfl, by show (e : Int) = ((k + (e - k) : Nat) : Int); omega⟩⟩
            · have hlt' : ¬ (e : Int) < (l.length : Int) := by omega
              have cE : ∀ w : World, Calls Tryd.prog 64 #[.int .u8 0] w fun e' w' => e' = .returned (.bool (isD 0)) ∧ w' = w := fun w => rdigit_any 0 w
              have hrun := run_at isD l k e he1 he2 HA.out (fun h => absurd h hlt)
              have HN : Hid (firstT (l.drop k) = if 6 < e - k then bad 3 else ⟨6, valL ((l.drop k).take (e - k)), [], e - k, 0⟩) := by
                show _ = _
                rw [HT.out]; unfold numT; rw [hrun]
              by_cases h6 : 6 < e - k
              · have j6 : (6 : Int) < (e : Int) - (k : Int) := by omega
                have HN2 : Hid (firstT (l.drop k) = bad 3) := by show _ = _; rw [HN.out, if_pos h6]
                clear HN hrun HT h6 hlt
                clear cE
                go_wp2_with (first
                  | (refine wpList_store_row rfl 30 _ _ rfl _ _ rfl rfl _ _ h5 (by kernel_rfl) (by simp) (by simp [Value.oneCell']) ?_))
                refine one_post w.heap.size 0 0 0 (k : Int) 3 ⟨#[]⟩ rfl rfl rfl rfl (setRow_heap _ _ _ _ _ _ h5) ⟨?_, below_setRow hbw5 (Nat.le_refl _) _⟩
                exact ⟨0, 0, 0, (k : Int), ⟨#[]⟩, by rw [HN2.out]; rfl, fun h => by rw [HN2.out] at h; cases h⟩
              · have j6 : ¬ (6 : Int) < (e : Int) - (k : Int) := by omega
                have HN2 : Hid (firstT (l.drop k) = ⟨6, valL ((l.drop k).take (e - k)), [], e - k, 0⟩) := by show _ = _; rw [HN.out, if_neg h6]
                have c9 : ∀ w, Calls Tryd.prog 78 #[.string s, .int .i64 (k : Int), .int .i64 ((e : Int) - (k : Int))] w fun e' w' => e' = .returned (.tuple #[.int .i64 (valL ((l.drop k).take (e - k))), .bool true]) ∧ Below w.heap.size w w' := fun w => by
                  have b : (digL l k (e - k)).2 = true := (dig_iff l k (e - k)).2 ⟨by omega, fun i hi => HA.out (k + i) (by omega) (by omega)⟩
                  have t := rdigits_any s l hs hl k (e - k) (by omega) (by omega) w
                  rw [b, dig_val b, show ((e - k : Nat) : Int) = (e : Int) - (k : Int) by omega] at t
                  exact t
                generalize valL ((l.drop k).take (e - k)) = nv at *
                clear HN hrun HT h6 hlt
                clear cE
                go_wp2_with (first
                  | (go_at_call 78; refine (c9 _).mono ?_; rintro e' w6 ⟨rfl, hb6⟩; have h6 := (hb6.block _ (lt_of_block h5)).trans h5; have hbw6 := hbw5.trans (hb6.mono hbw5.size); clear hb6)
                  | (refine wpList_store_row rfl 30 _ _ rfl _ _ rfl rfl _ _ h6 (by kernel_rfl) (by simp) (by simp [Value.oneCell']) ?_))
                refine one_post w.heap.size 6 nv (k : Int) (e : Int) 0 ⟨#[]⟩ rfl rfl rfl rfl (setRow_heap _ _ _ _ _ _ h6) ⟨?_, below_setRow hbw6 (Nat.le_refl _) _⟩
                exact ⟨6, nv, (k : Int), (e : Int), ⟨#[]⟩, by rw [HN2.out], fun h => by rw [HN2.out]; exact ⟨rfl, rfl, rfl, rfl, by show (e : Int) = ((k + (e - k) : Nat) : Int); omega⟩⟩
        | false =>
          have HF3 : Hid (firstT (l.drop k) = if isL (l.getD k 0) then wordT (l.drop k) else signT (l.drop k)) := by show _ = _; rw [HF2.out, hd0, hD0]; rfl
          rw [hD0] at cD
          cases hL0 : isL (l.getD k 0) with
          | true =>
            have HT : Hid (firstT (l.drop k) = wordT (l.drop k)) := by show _ = _; rw [HF3.out, hL0]; rfl
            have HW : Hid (wordLen (l.drop k) = runOf isC (l.drop k)) := wordLen_run (by rw [hd0]; exact hL0)
            rw [hL0] at cL
            clear HF2 HF3 hd0 hD0 hL0
            generalize hc : l.getD k 0 = c at *
            go_wp2_with (first
              | (go_at_call 64; refine (cD _).mono ?_; rintro e w' ⟨rfl, h'⟩; subst w')
              | (go_at_call 63; refine (cL _).mono ?_; rintro e w' ⟨rfl, h'⟩; subst w'))
            go_loop [16] (fun v => ∃ e : Nat, v = .int .i64 (e : Int) ∧ k ≤ e ∧ e ≤ l.length ∧ ∀ i, k ≤ i → i < e → isC (l.getD i 0) = true) (fun v => l.length - (intOf v).toNat)
            case atStart => exact ⟨k, rfl, by omega, by omega, fun i h1 h2 => by omega⟩
            case round =>
              obtain ⟨e, rfl, he1, he2, hall⟩ := hrel
              have HA : Hid (∀ i, k ≤ i → i < e → isC (l.getD i 0) = true) := hall
              clear hall cD cL g1 hc
              have he0 : (0 : Int) ≤ (e : Int) := by omega
              have he3 : (e : Int) ≤ 6000 := by omega
              have hke : (k : Int) ≤ (e : Int) := by omega
              have hel : (e : Int) ≤ (l.length : Int) := by omega
              by_cases hlt : e < l.length
              · have hlt' : (e : Int) < (l.length : Int) := by omega
                have g2 : ∀ h : e < s.size, s[e] = l.getD e 0 := fun h => byte_at hs e h
                have cE := fun w => rdigit_any (l.getD e 0) w
                have cF := fun w => rlow_any (l.getD e 0) w
                have hCe : isC (l.getD e 0) = (isL (l.getD e 0) || (isD (l.getD e 0) || decide ((l.getD e 0).toNat = 95))) := rfl
                cases hL1 : isL (l.getD e 0) with
                | true =>
                  rw [hL1] at cF
                  have HC : Hid (isC (l.getD e 0) = true) := by show _ = _; rw [hCe, hL1]; rfl
                  clear hL1 hCe HT HW
                  generalize hc : l.getD e 0 = ce at *
                  go_wp2_with (first
                    | (go_at_call 64; refine (cE _).mono ?_; rintro e' w' ⟨rfl, h'⟩; subst w')
                    | (go_at_call 63; refine (cF _).mono ?_; rintro e' w' ⟨rfl, h'⟩; subst w'))
                  go_round
                  case rel =>
                    refine ⟨e + 1, by go_num, by omega, by omega, fun i h1 h2 => ?_⟩
                    by_cases q : i = e
                    · rw [q, hc]; exact HC.out
                    · exact HA.out i h1 (by omega)
                  case measure => simp [intOf]; omega
                | false =>
                  rw [hL1] at cF
                  cases hD1 : isD (l.getD e 0) with
                  | true =>
                    rw [hD1] at cE
                    have HC : Hid (isC (l.getD e 0) = true) := by show _ = _; rw [hCe, hL1, hD1]; rfl
                    clear hL1 hD1 hCe HT HW
                    generalize hc : l.getD e 0 = ce at *
                    go_wp2_with (first
                      | (go_at_call 64; refine (cE _).mono ?_; rintro e' w' ⟨rfl, h'⟩; subst w')
                      | (go_at_call 63; refine (cF _).mono ?_; rintro e' w' ⟨rfl, h'⟩; subst w'))
                    go_round
                    case rel =>
                      refine ⟨e + 1, by go_num, by omega, by omega, fun i h1 h2 => ?_⟩
                      by_cases q : i = e
                      · rw [q, hc]; exact HC.out
                      · exact HA.out i h1 (by omega)
                    case measure => simp [intOf]; omega
                  | false =>
                    rw [hD1] at cE
                    by_cases h95 : (l.getD e 0).toNat = 95
                    · have i95 : (((l.getD e 0).toNat : Int) == 95) = true := by rw [h95]; rfl
                      have HC : Hid (isC (l.getD e 0) = true) := by show _ = _; rw [hCe, hL1, hD1, decide_eq_true h95]; rfl
                      clear hL1 hD1 hCe h95 HT HW
                      generalize hc : l.getD e 0 = ce at *
                      go_wp2_with (first
                        | (go_at_call 64; refine (cE _).mono ?_; rintro e' w' ⟨rfl, h'⟩; subst w')
                        | (go_at_call 63; refine (cF _).mono ?_; rintro e' w' ⟨rfl, h'⟩; subst w'))
                      go_round
                      case rel =>
                        refine ⟨e + 1, by go_num, by omega, by omega, fun i h1 h2 => ?_⟩
                        by_cases q : i = e
                        · rw [q, hc]; exact HC.out
                        · exact HA.out i h1 (by omega)
                      case measure => simp [intOf]; omega
                    · have i95 : (((l.getD e 0).toNat : Int) == 95) = false := beq_eq_false_iff_ne.2 (by omega)
                      have hC : isC (l.getD e 0) = false := by rw [hCe, hL1, hD1, decide_eq_false h95]; rfl
                      have hrun := run_at isC l k e he1 he2 HA.out (fun _ => hC)
                      have HN : Hid (firstT (l.drop k) = if 20 < e - k then bad 7 else ⟨if isWordL ((l.drop k).take (e - k)) then 2 else 1, 0, (l.drop k).take (e - k), e - k, 0⟩) := by
                        show _ = _
                        rw [HT.out]; unfold wordT; rw [HW.out, hrun]
                      have hxd : (s.extract k e).data.toList = (l.drop k).take (e - k) := by rw [Lib.extract_data, hs]
                      have hxl : ((l.drop k).take (e - k)).length = e - k := by simp; omega
                      have HX : Hid (s.extract k e = ⟨((l.drop k).take (e - k)).toArray⟩) := ba_of hxd
                      have cW := fun w => rword_any (s.extract k e) ((l.drop k).take (e - k)) hxd w
                      have h5a := (Below.heap_alloc wc (.cells #[.int .i64 1, .int .i64 0, .int .i64 (k : Int), .string (s.extract k e)] 30) _ (lt_of_block h5)).trans h5
                      have h5x := heap_alloc_new wc (.cells #[.int .i64 1, .int .i64 0, .int .i64 (k : Int), .string (s.extract k e)] 30)
                      have hbw5a := hbw5.alloc hbw5.size (.cells #[.int .i64 1, .int .i64 0, .int .i64 (k : Int), .string (s.extract k e)] 30)
                      have hws := lt_of_block h5
                      by_cases h20 : 20 < e - k
                      · have j20 : (20 : Int) < (e : Int) - (k : Int) := by omega
                        have HN2 : Hid (firstT (l.drop k) = bad 7) := by show _ = _; rw [HN.out, if_pos h20]
                        have hnw : isWordL ((l.drop k).take (e - k)) = false := word_short (by omega)
                        rw [hnw] at cW
                        clear HN hrun HT h20 HW HX hxd hxl hnw hC hCe hL1 hD1 h95
                        generalize l.getD e 0 = ce at *
                        generalize (l.drop k).take (e - k) = tx at *
                        go_wp2_with (first
                          | (go_at_call 64; refine (cE _).mono ?_; rintro e' w' ⟨rfl, h'⟩; subst w')
                          | (go_at_call 63; refine (cF _).mono ?_; rintro e' w' ⟨rfl, h'⟩; subst w')
                          | (go_at_call 65; refine (cW _).mono ?_; rintro e' w6 ⟨rfl, hb6⟩; have h6 := (hb6.block _ (lt_of_block h5a)).trans h5a; have hbw6 := hbw5a.trans (hb6.mono hbw5a.size); clear hb6)
                          | (refine wpList_store_row rfl 30 _ _ rfl _ _ rfl rfl _ _ h6 (by kernel_rfl) (by simp) (by simp [Value.oneCell']) ?_))
                        refine one_post w.heap.size 0 0 0 (k : Int) 7 ⟨#[]⟩ rfl rfl rfl rfl (setRow_heap _ _ _ _ _ _ h6) ⟨?_, below_setRow hbw6 (Nat.le_refl _) _⟩
                        exact ⟨0, 0, 0, (k : Int), ⟨#[]⟩, by rw [HN2.out]; rfl, fun h => by rw [HN2.out] at h; cases h⟩
                      · have j20 : ¬ (20 : Int) < (e : Int) - (k : Int) := by omega
                        cases hw : isWordL ((l.drop k).take (e - k)) with
                        | false =>
                          have HN2 : Hid (firstT (l.drop k) = ⟨1, 0, (l.drop k).take (e - k), e - k, 0⟩) := by show _ = _; rw [HN.out, if_neg h20, hw]; rfl
                          rw [hw] at cW
                          clear HN hrun HT h20 HW hxd hxl hw hC hCe hL1 hD1 h95
                          generalize l.getD e 0 = ce at *
                          generalize (l.drop k).take (e - k) = tx at *
                          go_wp2_with (first
                            | (go_at_call 64; refine (cE _).mono ?_; rintro e' w' ⟨rfl, h'⟩; subst w')
                            | (go_at_call 63; refine (cF _).mono ?_; rintro e' w' ⟨rfl, h'⟩; subst w')
                            | (go_at_call 65; refine (cW _).mono ?_; rintro e' w6 ⟨rfl, hb6⟩; have h6 := (hb6.block _ (lt_of_block h5a)).trans h5a; have h6x := (hb6.block _ (lt_of_block h5x)).trans h5x; have hbw6 := hbw5a.trans (hb6.mono hbw5a.size); clear hb6)
                            | (refine wpList_load_row rfl 30 _ rfl _ rfl _ _ _ _ h6x tokType rfl (by kernel_rfl) ?_)
                            | (refine wpList_store_row rfl 30 _ _ rfl _ _ rfl rfl _ _ h6 (by kernel_rfl) (by simp) (by simp [Value.oneCell']) ?_))
                          refine one_post w.heap.size 1 0 (k : Int) (e : Int) 0 (s.extract k e) rfl rfl rfl rfl (setRow_heap _ _ _ _ _ _ h6) ⟨?_, below_setRow hbw6 (Nat.le_refl _) _⟩
                          exact ⟨1, 0, (k : Int), (e : Int), s.extract k e, by rw [HN2.out], fun h => by rw [HN2.out]; exact ⟨rfl, rfl, rfl, HX.out, by show (e : Int) = ((k + (e - k) : Nat) : Int); omega⟩⟩
                        | true =>
                          have HN2 : Hid (firstT (l.drop k) = ⟨2, 0, (l.drop k).take (e - k), e - k, 0⟩) := by show _ = _; rw [HN.out, if_neg h20, hw]; rfl
                          rw [hw] at cW
                          clear HN hrun HT h20 HW hxd hxl hw hC hCe hL1 hD1 h95
                          generalize l.getD e 0 = ce at *
                          generalize (l.drop k).take (e - k) = tx at *
                          go_wp2_with (first
                            | (go_at_call 64; refine (cE _).mono ?_; rintro e' w' ⟨rfl, h'⟩; subst w')
                            | (go_at_call 63; refine (cF _).mono ?_; rintro e' w' ⟨rfl, h'⟩; subst w')
                            | (go_at_call 65; refine (cW _).mono ?_; rintro e' w6 ⟨rfl, hb6⟩; have h6' := (hb6.block _ (lt_of_block h5a)).trans h5a; have h6y := (hb6.block _ (lt_of_block h5x)).trans h5x; have hbw6' := hbw5a.trans (hb6.mono hbw5a.size); have d0 : w6.cell? ⟨wc.heap.size, 0, none⟩ = some (.int .i64 1) := (cell_of_row _ _ _ _ _ _ h6y).trans rfl; have z0 := frozen_of_row w6 wc.heap.size 0 _ _ h6y; have h6x : (w6.setCell ⟨wc.heap.size, 0, none⟩ (.int .i64 2)).heap[wc.heap.size]? = some (.cells #[.int .i64 2, .int .i64 0, .int .i64 (k : Int), .string (s.extract k e)] 30 (0, 0)) := heap_setCell_same _ _ _ _ _ _ h6y; have h6 := (heap_setCell_other w6 ⟨wc.heap.size, 0, none⟩ w.heap.size (.int .i64 2) (by show w.heap.size ≠ wc.heap.size; omega)).trans h6'; have hbw6 : Below w.heap.size w (w6.setCell ⟨wc.heap.size, 0, none⟩ (.int .i64 2)) := hbw6'.setCell (by show w.heap.size ≤ wc.heap.size; omega) _; clear hb6 h6' h6y hbw6')
                            | (refine wpList_load_row rfl 30 _ rfl _ rfl _ _ _ _ h6x tokType rfl (by kernel_rfl) ?_)
                            | (refine wpList_store_row rfl 30 _ _ rfl _ _ rfl rfl _ _ h6 (by kernel_rfl) (by simp) (by simp [Value.oneCell']) ?_))
                          refine one_post w.heap.size 2 0 (k : Int) (e : Int) 0 (s.extract k e) rfl rfl rfl rfl (setRow_heap _ _ _ _ _ _ h6) ⟨?_, below_setRow hbw6 (Nat.le_refl _) _⟩
                          exact ⟨2, 0, (k : Int), (e : Int), s.extract k e, by rw [HN2.out], fun h => by rw [HN2.out]; exact ⟨rfl, rfl, rfl, HX.out, by show (e : Int) = ((k + (e - k) : Nat) : Int); omega⟩⟩
              · have hlt' : ¬ (e : Int) < (l.length : Int) := by omega
                have hrun := run_at isC l k e he1 he2 HA.out (fun h => absurd h hlt)
                have HN : Hid (firstT (l.drop k) = if 20 < e - k then bad 7 else ⟨if isWordL ((l.drop k).take (e - k)) then 2 else 1, 0, (l.drop k).take (e - k), e - k, 0⟩) := by
                  show _ = _
                  rw [HT.out]; unfold wordT; rw [HW.out, hrun]
                have hxd : (s.extract k e).data.toList = (l.drop k).take (e - k) := by rw [Lib.extract_data, hs]
                have hxl : ((l.drop k).take (e - k)).length = e - k := by simp; omega
                have HX : Hid (s.extract k e = ⟨((l.drop k).take (e - k)).toArray⟩) := ba_of hxd
                have cW := fun w => rword_any (s.extract k e) ((l.drop k).take (e - k)) hxd w
                have h5a := (Below.heap_alloc wc (.cells #[.int .i64 1, .int .i64 0, .int .i64 (k : Int), .string (s.extract k e)] 30) _ (lt_of_block h5)).trans h5
                have h5x := heap_alloc_new wc (.cells #[.int .i64 1, .int .i64 0, .int .i64 (k : Int), .string (s.extract k e)] 30)
                have hbw5a := hbw5.alloc hbw5.size (.cells #[.int .i64 1, .int .i64 0, .int .i64 (k : Int), .string (s.extract k e)] 30)
                have hws := lt_of_block h5
                by_cases h20 : 20 < e - k
                · have j20 : (20 : Int) < (e : Int) - (k : Int) := by omega
                  have HN2 : Hid (firstT (l.drop k) = bad 7) := by show _ = _; rw [HN.out, if_pos h20]
                  have hnw : isWordL ((l.drop k).take (e - k)) = false := word_short (by omega)
                  rw [hnw] at cW
                  clear HN hrun HT h20 HW HX hxd hxl hnw hlt
                  generalize (l.drop k).take (e - k) = tx at *
                  go_wp2_with (first
                    | (go_at_call 65; refine (cW _).mono ?_; rintro e' w6 ⟨rfl, hb6⟩; have h6 := (hb6.block _ (lt_of_block h5a)).trans h5a; have hbw6 := hbw5a.trans (hb6.mono hbw5a.size); clear hb6)
                    | (refine wpList_store_row rfl 30 _ _ rfl _ _ rfl rfl _ _ h6 (by kernel_rfl) (by simp) (by simp [Value.oneCell']) ?_))
                  refine one_post w.heap.size 0 0 0 (k : Int) 7 ⟨#[]⟩ rfl rfl rfl rfl (setRow_heap _ _ _ _ _ _ h6) ⟨?_, below_setRow hbw6 (Nat.le_refl _) _⟩
                  exact ⟨0, 0, 0, (k : Int), ⟨#[]⟩, by rw [HN2.out]; rfl, fun h => by rw [HN2.out] at h; cases h⟩
                · have j20 : ¬ (20 : Int) < (e : Int) - (k : Int) := by omega
                  cases hw : isWordL ((l.drop k).take (e - k)) with
                  | false =>
                    have HN2 : Hid (firstT (l.drop k) = ⟨1, 0, (l.drop k).take (e - k), e - k, 0⟩) := by show _ = _; rw [HN.out, if_neg h20, hw]; rfl
                    rw [hw] at cW
                    clear HN hrun HT h20 HW hxd hxl hw hlt
                    generalize (l.drop k).take (e - k) = tx at *
                    go_wp2_with (first
                      | (go_at_call 65; refine (cW _).mono ?_; rintro e' w6 ⟨rfl, hb6⟩; have h6 := (hb6.block _ (lt_of_block h5a)).trans h5a; have h6x := (hb6.block _ (lt_of_block h5x)).trans h5x; have hbw6 := hbw5a.trans (hb6.mono hbw5a.size); clear hb6)
                      | (refine wpList_load_row rfl 30 _ rfl _ rfl _ _ _ _ h6x tokType rfl (by kernel_rfl) ?_)
                      | (refine wpList_store_row rfl 30 _ _ rfl _ _ rfl rfl _ _ h6 (by kernel_rfl) (by simp) (by simp [Value.oneCell']) ?_))
                    refine one_post w.heap.size 1 0 (k : Int) (e : Int) 0 (s.extract k e) rfl rfl rfl rfl (setRow_heap _ _ _ _ _ _ h6) ⟨?_, below_setRow hbw6 (Nat.le_refl _) _⟩
                    exact ⟨1, 0, (k : Int), (e : Int), s.extract k e, by rw [HN2.out], fun h => by rw [HN2.out]; exact ⟨rfl, rfl, rfl, HX.out, by show (e : Int) = ((k + (e - k) : Nat) : Int); omega⟩⟩
                  | true =>
                    have HN2 : Hid (firstT (l.drop k) = ⟨2, 0, (l.drop k).take (e - k), e - k, 0⟩) := by show _ = _; rw [HN.out, if_neg h20, hw]; rfl
                    rw [hw] at cW
                    clear HN hrun HT h20 HW hxd hxl hw hlt
                    generalize (l.drop k).take (e - k) = tx at *
                    go_wp2_with (first
                      | (go_at_call 65; refine (cW _).mono ?_; rintro e' w6 ⟨rfl, hb6⟩; have h6' := (hb6.block _ (lt_of_block h5a)).trans h5a; have h6y := (hb6.block _ (lt_of_block h5x)).trans h5x; have hbw6' := hbw5a.trans (hb6.mono hbw5a.size); have d0 : w6.cell? ⟨wc.heap.size, 0, none⟩ = some (.int .i64 1) := (cell_of_row _ _ _ _ _ _ h6y).trans rfl; have z0 := frozen_of_row w6 wc.heap.size 0 _ _ h6y; have h6x : (w6.setCell ⟨wc.heap.size, 0, none⟩ (.int .i64 2)).heap[wc.heap.size]? = some (.cells #[.int .i64 2, .int .i64 0, .int .i64 (k : Int), .string (s.extract k e)] 30 (0, 0)) := heap_setCell_same _ _ _ _ _ _ h6y; have h6 := (heap_setCell_other w6 ⟨wc.heap.size, 0, none⟩ w.heap.size (.int .i64 2) (by show w.heap.size ≠ wc.heap.size; omega)).trans h6'; have hbw6 : Below w.heap.size w (w6.setCell ⟨wc.heap.size, 0, none⟩ (.int .i64 2)) := hbw6'.setCell (by show w.heap.size ≤ wc.heap.size; omega) _; clear hb6 h6' h6y hbw6')
                      | (refine wpList_load_row rfl 30 _ rfl _ rfl _ _ _ _ h6x tokType rfl (by kernel_rfl) ?_)
                      | (refine wpList_store_row rfl 30 _ _ rfl _ _ rfl rfl _ _ h6 (by kernel_rfl) (by simp) (by simp [Value.oneCell']) ?_))
                    refine one_post w.heap.size 2 0 (k : Int) (e : Int) 0 (s.extract k e) rfl rfl rfl rfl (setRow_heap _ _ _ _ _ _ h6) ⟨?_, below_setRow hbw6 (Nat.le_refl _) _⟩
                    exact ⟨2, 0, (k : Int), (e : Int), s.extract k e, by rw [HN2.out], fun h => by rw [HN2.out]; exact ⟨rfl, rfl, rfl, HX.out, by show (e : Int) = ((k + (e - k) : Nat) : Int); omega⟩⟩
          | false =>
            have HT : Hid (firstT (l.drop k) = signT (l.drop k)) := by show _ = _; rw [HF3.out, hL0]; rfl
            rw [hL0] at cL
            clear HF2 HF3 hD0 hL0
            have hS : signT (l.drop k) = if (atB l k 46 && atB l (k + 1) 46) then ⟨3, 0, [46, 46], 2, 0⟩ else if Lib.indexByte signsL (l.getD k 0) < 0 then bad 2 else ⟨3, 0, [l.getD k 0], 1, 0⟩ := by
              unfold signT; rw [dots_bools, hd0]
            have c10 : ∀ w, Calls Tryd.prog 79 #[.string s, .int .i64 (k : Int), .int .u8 46] w fun e w' => e = .returned (.bool (atB l k 46)) ∧ w' = w := fun w => rsign_any s l hs k 46 w
            have c11 : ∀ w, Calls Tryd.prog 79 #[.string s, .int .i64 ((k : Int) + 1), .int .u8 46] w fun e w' => e = .returned (.bool (atB l (k + 1) 46)) ∧ w' = w := fun w => rsign_any s l hs (k + 1) 46 w
            have HS : Hid (firstT (l.drop k) = if (atB l k 46 && atB l (k + 1) 46) then ⟨3, 0, [46, 46], 2, 0⟩ else if Lib.indexByte signsL (l.getD k 0) < 0 then bad 2 else ⟨3, 0, [l.getD k 0], 1, 0⟩) := by
              show _ = _; rw [HT.out, hS]
            have HX : Hid (s.extract k (k + 1) = ⟨[l.getD k 0].toArray⟩) := by
              refine ba_of ?_
              rw [Lib.extract_data, hs, show k + 1 - k = 1 by omega, take_one hk]
            clear HT hS hd0
            generalize atB l k 46 = b9 at *
            generalize atB l (k + 1) 46 = b10 at *
            generalize hc : l.getD k 0 = c at *
            go_upto_region 30 with (first
              | (go_at_call 64; refine (cD _).mono ?_; rintro e w' ⟨rfl, h'⟩; subst w')
              | (go_at_call 63; refine (cL _).mono ?_; rintro e w' ⟨rfl, h'⟩; subst w'))
            clear cD cL
            by_cases hdots : (b9 && b10) = true
            · obtain ⟨rfl, rfl⟩ : b9 = true ∧ b10 = true := by simpa using hdots
              have HN2 : Hid (firstT (l.drop k) = ⟨3, 0, [46, 46], 2, 0⟩) := by show _ = _; rw [HS.out]; rfl
              clear HS HX hdots
              go_wp2_with fail
              refine (c10 _).mono ?_
              rintro e w' ⟨rfl, h'⟩; subst w'
              go_wp2_with fail
              refine (c11 _).mono ?_
              rintro e w' ⟨rfl, h'⟩; subst w'
              go_wp2_with (refine wpList_store_row rfl 30 _ _ rfl _ _ rfl rfl _ _ h5 (by kernel_rfl) (by simp) (by simp [Value.oneCell']) ?_)
              refine one_post w.heap.size 3 0 (k : Int) ((k : Int) + 2) 0 ⟨#[46, 46]⟩ rfl rfl rfl rfl (setRow_heap _ _ _ _ _ _ h5) ⟨?_, below_setRow hbw5 (Nat.le_refl _) _⟩
              exact ⟨3, 0, (k : Int), (k : Int) + 2, ⟨#[46, 46]⟩, by rw [HN2.out], fun h => by rw [HN2.out]; exact ⟨rfl, rfl, rfl, rfl, rfl⟩⟩
            · have HS2 : Hid (firstT (l.drop k) = if Lib.indexByte signsL c < 0 then bad 2 else ⟨3, 0, [c], 1, 0⟩) := by show _ = _; rw [HS.out, if_neg hdots]
              go_cut [207] from 199 to 207 (fun v wr => v = .bool false ∧ wr = wc)
              case first =>
                cases b9 with
                | false =>
                  go_wp2_with fail
                  refine (c10 _).mono ?_
                  rintro e w' ⟨rfl, h'⟩; subst w'
                  go_wp2_with fail
                  go_meet
                  case rel => exact ⟨rfl, rfl⟩
                | true =>
                  cases b10 with
                  | false =>
                    go_wp2_with fail
                    refine (c10 _).mono ?_
                    rintro e w' ⟨rfl, h'⟩; subst w'
                    go_wp2_with fail
                    refine (c11 _).mono ?_
                    rintro e w' ⟨rfl, h'⟩; subst w'
                    go_wp2_with fail
                    go_meet
                    case rel => exact ⟨rfl, rfl⟩
                  | true => exact absurd rfl hdots
              case rest =>
                obtain ⟨rfl, rfl⟩ := hcut
                clear HS hdots c10 c11
                have HC : Hid (∀ j, j < 9 → (wc.alloc (.cells signCells 5 (9, 10))).cell? ⟨wc.heap.size, j, none⟩ = some (.int .u8 ((signsL.getD j 0).toNat : Int))) := fun j hj => by rw [World.cell?_alloc_mark, signCell j hj]
                have hW : (convert 67 67 (.slice (some ⟨wc.heap.size, 0, none⟩) 9 9)).run Tryd.prog (wc.alloc (.cells #[.int .u8 61, .int .u8 59, .int .u8 58, .int .u8 43, .int .u8 45, .int .u8 38, .int .u8 40, .int .u8 41, .int .u8 44] 5)) = .ok (.slice (some ⟨wc.heap.size, 0, none⟩) 9 9) (wc.alloc (.cells signCells 5 (9, 10))) := Lib.run_convert_bytes_const wc 67 5 signCells 9 9 bytesT Tryd.underlying5
                have h6 := (Below.heap_alloc wc (.cells signCells 5 (9, 10)) _ (lt_of_block h5)).trans h5
                have hbw6 := hbw5.alloc hbw5.size (.cells signCells 5 (9, 10))
                generalize wc.alloc (.cells signCells 5 (9, 10)) = w6 at *
                have en1 : ((k : Int) + 1).toNat = k + 1 := by omega
                have hk2 : (k : Int) ≤ (k : Int) + 1 := by omega
                have hk3 : (k : Int) + 1 ≤ (l.length : Int) := by omega
                go_wp2_with fail
                go_loop [21, 215] (fun _ v => ∃ j : Nat, v = .int .i64 (j : Int) ∧ j ≤ 9 ∧ ∀ i, i < j → signsL.getD i 0 ≠ c) (fun _ v => 9 - (intOf v).toNat)
                case atStart => exact ⟨0, rfl, by omega, fun i h => by omega⟩
                case round =>
                  obtain ⟨j, rfl, hj, hall⟩ := hrel
                  have HA : Hid (∀ i, i < j → signsL.getD i 0 ≠ c) := hall
                  clear hall
                  have hj0 : (0 : Int) ≤ (j : Int) := by omega
                  by_cases hlt : j < 9
                  · have hlt' : (j : Int) < 9 := by omega
                    have cj := HC.out j hlt
                    by_cases hq : signsL.getD j 0 = c
                    · have HN2 : Hid (firstT (l.drop k) = ⟨3, 0, [c], 1, 0⟩) := by show _ = _; rw [HS2.out, if_neg (sign_yes j hlt hq)]
                      rw [hq] at cj
                      have bq : ((c.toNat : Int) == (c.toNat : Int)) = true := by simp
                      clear hq HS2 hW HC HA
                      go_wp2_with (refine wpList_store_row rfl 30 _ _ rfl _ _ rfl rfl _ _ h6 (by kernel_rfl) (by simp) (by simp [Value.oneCell']) ?_)
                      refine one_post w.heap.size 3 0 (k : Int) ((k : Int) + 1) 0 (s.extract k (k + 1)) rfl rfl rfl rfl (setRow_heap _ _ _ _ _ _ h6) ⟨?_, below_setRow hbw6 (Nat.le_refl _) _⟩
                      exact ⟨3, 0, (k : Int), (k : Int) + 1, s.extract k (k + 1), by rw [HN2.out], fun h => by rw [HN2.out]; exact ⟨rfl, rfl, rfl, HX.out, rfl⟩⟩
                    · have bq : ((c.toNat : Int) == ((signsL.getD j 0).toNat : Int)) = false := by
                        rw [beq_eq_false_iff_ne]
                        intro h
                        exact hq (UInt8.toNat_inj.1 (by omega))
                      have HQ : Hid (signsL.getD j 0 ≠ c) := hq
                      clear hq HS2 hW HC
                      generalize hd : signsL.getD j 0 = d at *
                      go_wp2_with fail
                      go_round
                      case rel =>
                        refine ⟨j + 1, by go_num, by omega, fun i hi => ?_⟩
                        by_cases q : i = j
                        · rw [q, hd]; exact HQ.out
                        · exact HA.out i (by omega)
                      case measure => simp [intOf]; omega
                  · have hlt' : ¬ (j : Int) < 9 := by omega
                    have HN2 : Hid (firstT (l.drop k) = bad 2) := by show _ = _; rw [HS2.out, if_pos (sign_no fun i hi => HA.out i (by omega))]
                    clear HS2 hW HC HA
                    go_wp2_with (refine wpList_store_row rfl 30 _ _ rfl _ _ rfl rfl _ _ h6 (by kernel_rfl) (by simp) (by simp [Value.oneCell']) ?_)
                    refine one_post w.heap.size 0 0 0 (k : Int) 2 ⟨#[]⟩ rfl rfl rfl rfl (setRow_heap _ _ _ _ _ _ h6) ⟨?_, below_setRow hbw6 (Nat.le_refl _) _⟩
                    exact ⟨0, 0, 0, (k : Int), ⟨#[]⟩, by rw [HN2.out]; rfl, fun h => by rw [HN2.out] at h; cases h⟩
end Go.Proofs.YtggcepicghibjacDoor
