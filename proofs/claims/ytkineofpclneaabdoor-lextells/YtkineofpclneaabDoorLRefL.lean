/- What slotref3.Lex comes to: what lex.Lex tells. -/
import Derived.Test.YtkineofpclneaabDoorLOneB
import Derived.Test.YtkineofpclneaabDoorLexY
namespace Go.Proofs.YtkineofpclneaabDoor
open Go.RowKit Lx

theorem one_any (s : ByteArray) (l : List UInt8) (hs : s.data.toList = l) (hl : l.length ≤ 6000) (k : Nat) (hk : k < l.length) (w : World) :
    Calls Tryd.prog 43 #[.string s, .int .i64 (k : Int)] w fun e w' => OneTells (firstT (l.drop k)) k e ∧ Below w.heap.size w w' := by
  cases h : fitsL (l.drop k) dateF with
  | true => exact one_date s l hs hl k hk h w
  | false => exact one_rest s l hs hl k hk h w
theorem drop_cons {l : List UInt8} {k : Nat} (h : k < l.length) : l.drop k = l.getD k 0 :: l.drop (k + 1) := by
  rw [List.drop_eq_getElem_cons h]
  simp [List.getD, h]
/-- One byte on: where the next token is stays. -/
theorem skip_lf {l : List UInt8} {k : Nat} (b : Bool) (h : k < l.length) (hc : (l.getD k 0).toNat = 10) : k + skipS b (l.drop k) = k + 1 + skipS false (l.drop (k + 1)) := by
  rw [drop_cons h]
  cases b <;> simp only [skipS, hc] <;> simp <;> omega
theorem skip_hash1 {l : List UInt8} {k : Nat} (b : Bool) (h : k < l.length) (hc : (l.getD k 0).toNat = 35) : k + skipS b (l.drop k) = k + 1 + skipS true (l.drop (k + 1)) := by
  rw [drop_cons h]
  cases b <;> simp only [skipS, hc] <;> simp <;> omega
theorem skip_note {l : List UInt8} {k : Nat} (h : k < l.length) (hc : (l.getD k 0).toNat ≠ 10) : k + skipS true (l.drop k) = k + 1 + skipS true (l.drop (k + 1)) := by
  rw [drop_cons h]
  simp only [skipS, hc, if_false]; omega
theorem skip_gap {l : List UInt8} {k : Nat} (h : k < l.length) (hc : (l.getD k 0).toNat = 32 ∨ (l.getD k 0).toNat = 9) : k + skipS false (l.drop k) = k + 1 + skipS false (l.drop (k + 1)) := by
  rw [drop_cons h]
  have : (l.getD k 0).toNat = 32 ∨ (l.getD k 0).toNat = 9 ∨ (l.getD k 0).toNat = 10 := by
    rcases hc with h | h
    · exact .inl h
    · exact .inr (.inl h)
  simp only [skipS, if_pos this]; omega
theorem skip_here {l : List UInt8} {k : Nat} (h : k < l.length) (h1 : (l.getD k 0).toNat ≠ 32) (h2 : (l.getD k 0).toNat ≠ 9) (h3 : (l.getD k 0).toNat ≠ 10) (h4 : (l.getD k 0).toNat ≠ 35) : k + skipS false (l.drop k) = k := by
  rw [drop_cons h]
  simp only [skipS, h4, if_false]
  rw [if_neg (by rintro (h | h | h) <;> contradiction)]
  rfl
theorem rlex_post {R : Ending → World → Prop} {a : Act} {w : World} (g : Nat) (v : Value) (er at_ : Int) (hd : a.defers = []) (h2 : a.tmps.getD 2 undef = v) (h3 : a.tmps.getD 3 undef = .pointer (some ⟨g, 0, none⟩))
    (hg : w.heap[g]? = some (.cells #[.int .i64 er, .int .i64 at_] 46 (0, 0))) (hR : R (.returned (.tuple #[v, .agg #[.int .i64 er, .int .i64 at_]])) w) : bodyPost Tryd.prog Tryd.f22 R .ret a w := by
  refine bodyPost_ret (v := .tuple #[v, .agg #[.int .i64 er, .int .i64 at_]]) ?_ hd hR
  have h2' : a.tmps[2]?.getD undef = v := by simpa using h2
  have h3' : a.tmps[3]?.getD undef = .pointer (some ⟨g, 0, none⟩) := by simpa using h3
  have hv := run_loadVar_row (P := Tryd.prog) w g 46 46 _ _ _ hg faultType rfl (by kernel_rfl)
  simp [results, Tryd.results22, h2', h3', asAddr, hv]

set_option maxRecDepth 100000 in
set_option maxHeartbeats 2000000 in
theorem rlex_any (s : ByteArray) (l : List UInt8) (hs : s.data.toList = l) (hl : l.length ≤ 9223372036854775807) (w : World) :
    Calls Tryd.prog 22 #[.string s] w fun e w' => (∃ v er at_, e = .returned (.tuple #[v, .agg #[.int .i64 er, .int .i64 at_]]) ∧ LexTells l w.heap.size w' v er at_) ∧ Below w.heap.size w w' := by
  have hz : s.size = l.length := by rw [← hs, Lib.size_eq]
  obtain ⟨i0, hi, hz0, hz1, hz2⟩ := info_parts tokInfo
  have hb0 : Below w.heap.size w (w.alloc (.cells #[.int .i64 0, .int .i64 0] 46)) := (Below.refl _ _).alloc (Nat.le_refl _) _
  have h0 : (w.alloc (.cells #[.int .i64 0, .int .i64 0] 46)).heap[w.heap.size]? = some (.cells #[.int .i64 0, .int .i64 0] 46 (0, 0)) := heap_alloc_new w _
  by_cases hm : 6000 < l.length
  · have hm' : (6000 : Int) < (l.length : Int) := by omega
    go_enter Tryd.func22, Tryd.ntmps22
    go_wp2
    exact rlex_post w.heap.size (.slice none 0 0) 4 0 rfl rfl rfl (heap_alloc_new w _) ⟨⟨_, _, _, rfl, LexTells.much hm⟩, (Below.refl _ _).alloc (Nat.le_refl _) _⟩
  · have hm' : ¬ (6000 : Int) < (l.length : Int) := by omega
    have HS : Hid (Lexed l [] (0 + skipS false (l.drop 0))) := Lexed.start
    go_enter Tryd.func22, Tryd.ntmps22
    go_wp2
    go_loopw [4, 5, 6] (fun v b i wr => ∃ (ts : List (T1 × Nat)) (nt : Bool) (k : Nat), i = .int .i64 (k : Int) ∧ b = .bool nt ∧ k ≤ l.length ∧ Lexed l ts (k + skipS nt (l.drop k)) ∧ wr.ownsRow w.heap.size 54 4 v ts.length (flatT ts) ∧ wr.heap[w.heap.size]? = some (.cells #[.int .i64 0, .int .i64 0] 46 (0, 0)) ∧ Below w.heap.size w wr) (fun _ _ i _ => l.length - (intOf i).toNat)
    case atStart => exact ⟨[], false, 0, rfl, rfl, by omega, HS.out, World.ownsRow_nil _ _ _ _, h0, hb0⟩
    case round =>
      obtain ⟨ts, nt, k, rfl, rfl, hkl, hlx, hown, hf, hbel⟩ := hrel
      clear h0 hb0 HS
      have hle := hlx.le
      have htl : ts.length ≤ 6000 := by omega
      clear hle
      have HL : Hid (Lexed l ts (k + skipS nt (l.drop k))) := hlx
      clear hlx
      have hk0 : (0 : Int) ≤ (k : Int) := by omega
      have hkm : (k : Int) ≤ 6000 := by omega
      by_cases hlt : k < l.length
      · have hlt' : (k : Int) < (l.length : Int) := by omega
        have g1 : ∀ h : k < s.size, s[k] = l.getD k 0 := fun h => byte_at hs k h
        have bz : ∀ n : Nat, (l.getD k 0).toNat ≠ n → (((l.getD k 0).toNat : Int) == (n : Int)) = false := fun n h => beq_eq_false_iff_ne.2 (by omega)
        by_cases h10 : (l.getD k 0).toNat = 10
        · have HX : Hid (Lexed l ts (k + 1 + skipS false (l.drop (k + 1)))) := by show Lexed _ _ _; rw [← skip_lf nt hlt h10]; exact HL.out
          have i10 : (((l.getD k 0).toNat : Int) == 10) = true := by rw [h10]; rfl
          have i35 : (((l.getD k 0).toNat : Int) == 35) = false := bz 35 (by omega)
          have i32 : (((l.getD k 0).toNat : Int) == 32) = false := bz 32 (by omega)
          have i9 : (((l.getD k 0).toNat : Int) == 9) = false := bz 9 (by omega)
          clear bz h10 HL
          generalize l.getD k 0 = c at *
          go_wp2
          go_roundw
          case rel => exact ⟨ts, false, k + 1, by go_num, rfl, by omega, HX.out, hown, hf, hbel⟩
          case measure => simp [intOf]; omega
        · have i10 : (((l.getD k 0).toNat : Int) == 10) = false := bz 10 h10
          by_cases h35 : (l.getD k 0).toNat = 35
          · have HX : Hid (Lexed l ts (k + 1 + skipS true (l.drop (k + 1)))) := by show Lexed _ _ _; rw [← skip_hash1 nt hlt h35]; exact HL.out
            have i35 : (((l.getD k 0).toNat : Int) == 35) = true := by rw [h35]; rfl
            clear bz h10 h35 HL
            generalize l.getD k 0 = c at *
            go_wp2
            go_roundw
            case rel => exact ⟨ts, true, k + 1, by go_num, rfl, by omega, HX.out, hown, hf, hbel⟩
            case measure => simp [intOf]; omega
          · have i35 : (((l.getD k 0).toNat : Int) == 35) = false := bz 35 h35
            cases nt with
            | true =>
              have HX : Hid (Lexed l ts (k + 1 + skipS true (l.drop (k + 1)))) := by show Lexed _ _ _; rw [← skip_note hlt h10]; exact HL.out
              clear bz h10 h35 HL
              generalize l.getD k 0 = c at *
              go_wp2
              go_roundw
              case rel => exact ⟨ts, true, k + 1, by go_num, rfl, by omega, HX.out, hown, hf, hbel⟩
              case measure => simp [intOf]; omega
            | false =>
              by_cases h32 : (l.getD k 0).toNat = 32
              · have HX : Hid (Lexed l ts (k + 1 + skipS false (l.drop (k + 1)))) := by show Lexed _ _ _; rw [← skip_gap hlt (.inl h32)]; exact HL.out
                have i32 : (((l.getD k 0).toNat : Int) == 32) = true := by rw [h32]; rfl
                clear bz h10 h35 h32 HL
                generalize l.getD k 0 = c at *
                go_wp2
                go_roundw
                case rel => exact ⟨ts, false, k + 1, by go_num, rfl, by omega, HX.out, hown, hf, hbel⟩
                case measure => simp [intOf]; omega
              · have i32 : (((l.getD k 0).toNat : Int) == 32) = false := bz 32 h32
                by_cases h9 : (l.getD k 0).toNat = 9
                · have HX : Hid (Lexed l ts (k + 1 + skipS false (l.drop (k + 1)))) := by show Lexed _ _ _; rw [← skip_gap hlt (.inr h9)]; exact HL.out
                  have i9 : (((l.getD k 0).toNat : Int) == 9) = true := by rw [h9]; rfl
                  clear bz h10 h35 h32 h9 HL
                  generalize l.getD k 0 = c at *
                  go_wp2
                  go_roundw
                  case rel => exact ⟨ts, false, k + 1, by go_num, rfl, by omega, HX.out, hown, hf, hbel⟩
                  case measure => simp [intOf]; omega
                · have i9 : (((l.getD k 0).toNat : Int) == 9) = false := bz 9 h9
                  have hlx : Lexed l ts k := by have := HL.out; rw [skip_here hlt h32 h9 h10 h35] at this; exact this
                  have cO := fun w => one_any s l hs (by omega) k hlt w
                  clear bz h10 h35 h32 h9 HL
                  generalize l.getD k 0 = c at *
                  by_cases he : (firstT (l.drop k)).err = 0
                  · have hfine := first_fine _ (drop_pos hlt) he
                    have hnx := Lexed.step hlx hlt he
                    have hp1 := hfine.pos
                    have hp2 := hfine.le
                    simp only [List.length_drop] at hp2
                    generalize firstT (l.drop k) = F at *
                    have HX : Hid (Lexed l (ts ++ [(F, k)]) (k + F.len + skipS false (l.drop (k + F.len)))) := hnx
                    clear hnx hfine hlx
                    obtain ⟨kd, nn, tx, tl, te⟩ := F
                    dsimp only at *
                    subst he
                    go_wp2_with fail
                    refine (cO _).mono ?_
                    rintro e w1 ⟨⟨a, b, c', en, x, rfl, htok⟩, hb1⟩
                    obtain ⟨q1, q2, q3, q4, q5⟩ := htok rfl
                    dsimp only at *
                    subst a b c' x en
                    have hf1 := (hb1.block _ (lt_of_block hf)).trans hf
                    have hown1 := owns_below hown hb1
                    have hbel1 := hbel.trans (hb1.mono hbel.size)
                    clear hf hown hbel hb1 cO htok
                    go_wp2_with (at_builtin; refine wpList_append_own _ rfl _ _ 43 rfl w.heap.size 54 i0 (.agg #[.int .i64 0, .int .i64 0, .int .i64 0, .string ⟨#[]⟩]) 4 40 toksType hi hz0 hz1 hz2 rfl (by decide) u4 ts.length (flatT ts) rfl ((hown1.alloc _).alloc _) ⟨w1.heap.size + 1, 0, none⟩ 1 1 [.int .i64 kd, .int .i64 nn, .int .i64 (k : Int), .string ⟨tx.toArray⟩] rfl rfl ?c1 ?c2 ?c3 ?c4 ?c5 ?_)
                    case c1 =>
                      intro j u hj
                      match j, hj with
                      | 0, hj => simp at hj; subst hj; simp [Addr.add]
                      | 1, hj => simp at hj; subst hj; simp [Addr.add]
                      | 2, hj => simp at hj; subst hj; simp [Addr.add]
                      | 3, hj => simp at hj; subst hj; simp [Addr.add]
                    case c2 => intro u hu; simp at hu; rcases hu with rfl | rfl | rfl | rfl <;> rfl
                    case c3 => unfold maxLen; omega
                    case c4 => omega
                    case c5 => have := hbel1.size; simp; omega
                    · intro v' w2 hown' hgrow _
                      have hown2 : w2.ownsRow w.heap.size 54 4 v' (ts ++ [((⟨kd, nn, tx, tl, 0⟩ : T1), k)]).length (flatT (ts ++ [((⟨kd, nn, tx, tl, 0⟩ : T1), k)])) := by
                        rw [flatT_snoc]
                        simp only [List.length_append, List.length_cons, List.length_nil, Nat.zero_add]
                        exact hown'
                      have lf := lt_of_block hf1
                      have hfa := (Below.heap_alloc w1 (.cells #[.int .i64 kd, .int .i64 nn, .int .i64 (k : Int), .string ⟨tx.toArray⟩] 54) _ lf).trans hf1
                      have hfb := (Below.heap_alloc _ (.cells #[.int .i64 kd, .int .i64 nn, .int .i64 (k : Int), .string ⟨tx.toArray⟩] 54) _ (lt_of_block hfa)).trans hfa
                      have hf2 := (hgrow.block _ (lt_of_block hfb) (fun e => owns_type hown1 hf1 (by decide) e.symm)).trans hfb
                      have hbel2 : Below w.heap.size w w2 := ((hbel1.alloc hbel1.size _).alloc (by have := hbel1.size; simp; omega) _).grown hgrow (by have := hbel1.size; simp; omega) (fun k hk => (hown1.lt k hk).1)
                      clear hown' hgrow hown1 hf1 hbel1 hfa hfb lf
                      go_wp2
                      go_roundw
                      case rel => exact ⟨_, false, k + tl, rfl, rfl, by omega, HX.out, hown2, hf2, hbel2⟩
                      case measure => simp [intOf]; omega
                  · have hne : ((firstT (l.drop k)).err != 0) = true := by simpa using he
                    have HO : ∀ w', Hid (LexTells l w.heap.size w' (.slice none 0 0) (firstT (l.drop k)).err (k : Int)) := fun w' => LexTells.wrong (by omega) hlx hlt he
                    clear he hlx hown
                    generalize firstT (l.drop k) = F at *
                    obtain ⟨kd, nn, tx, tl, te⟩ := F
                    dsimp only at *
                    go_wp2_with fail
                    refine (cO _).mono ?_
                    rintro e w1 ⟨⟨a, b, c', en, x, rfl, htok⟩, hb1⟩
                    dsimp only at *
                    have hf1 := (hb1.block _ (lt_of_block hf)).trans hf
                    have hbel1 := hbel.trans (hb1.mono hbel.size)
                    have hfa := (Below.heap_alloc w1 (.cells #[.int .i64 a, .int .i64 b, .int .i64 c', .string x] 54) _ (lt_of_block hf1)).trans hf1
                    have hbela := hbel1.alloc hbel1.size (.cells #[.int .i64 a, .int .i64 b, .int .i64 c', .string x] 54)
                    clear hf hbel hb1 cO hf1 htok
                    go_wp2_with (refine wpList_store_row rfl 46 _ _ rfl _ _ rfl rfl _ _ hfa (by kernel_rfl) (by simp) (by simp [Value.oneCell']) ?_)
                    exact rlex_post w.heap.size (.slice none 0 0) te (k : Int) rfl rfl rfl (setRow_heap _ _ _ _ _ _ hfa) ⟨⟨_, _, _, rfl, (HO _).out⟩, below_setRow hbela (Nat.le_refl _) _⟩
      · have hlt' : ¬ (k : Int) < (l.length : Int) := by omega
        have hek : k = l.length := by omega
        have hsk : k + skipS nt (l.drop k) = l.length := by rw [hek]; simp [skipS]
        have hob := owns_type hown hf (by decide)
        have HO : ∀ cs, Hid (LexTells l w.heap.size (wr.setRow w.heap.size cs) u4 0 0) := fun cs => LexTells.right (by omega) HL.out (by omega) (owns_setRow hown hob cs)
        clear hown hob hek hsk HL
        go_wp2_with (refine wpList_store_row rfl 46 _ _ rfl _ _ rfl rfl _ _ hf (by kernel_rfl) (by simp) (by simp [Value.oneCell']) ?_)
        exact rlex_post w.heap.size u4 0 0 rfl rfl rfl (setRow_heap _ _ _ _ _ _ hf) ⟨⟨_, _, _, rfl, (HO _).out⟩, below_setRow hbel (Nat.le_refl _) _⟩
end Go.Proofs.YtkineofpclneaabDoor
