/- What slotref3.Lex comes to: what lex.Lex tells. -/
import Derived.Test.YtggcepicghibjacDoorPm28
import Derived.Test.YtggcepicghibjacDoorPm08
import Derived.Test.YtggcepicghibjacDoorPm25
import Derived.Test.YtggcepicghibjacDoorPm26
namespace Go.Proofs.YtggcepicghibjacDoor
open Go.RowKit Lx

theorem one_any (s : ByteArray) (l : List UInt8) (hs : s.data.toList = l) (hl : l.length ≤ 6000) (k : Nat) (hk : k < l.length) (w : World) :
    Calls Tryd.prog 53 #[.string s, .int .i64 (k : Int)] w fun e w' => OneTells (firstT (l.drop k)) k e ∧ Below w.heap.size w w' := by
  cases h : fitsL (l.drop k) dateF with
  | true => exact one_date s l hs hl k hk h w
  | false => exact one_rest s l hs hl k hk h w
theorem drop_cons {l : List UInt8} {k : Nat} (h : k < l.length) : l.drop k = l.getD k 0 :: l.drop (k + 1) := by
  rw [List.drop_eq_getElem_cons h]
  simp [List.getD, h]
/-- One byte on: where the next token is stays. -/
theorem skip_lf {l : List UInt8} {k : Nat} (b : Bool) (h : k < l.length) (hc : (l.getD k 0).toNat = 10) : k + skipS b (l.drop k) = k + 1 + skipS false (l.drop (k + 1)) := by
  rw [drop_cons h]
  cases b <;> simp only [skipS, hc] <;> simp <;> omega
theorem skip_hash1 {l : List UInt8} {k : Nat} (b : Bool) (h : k < l.length) (hc : (l.getD k 0).toNat = 35) : k + skipS b (l.drop k) = k + 1 + skipS true (l.drop (k + 1)) := by
  rw [drop_cons h]
  cases b <;> simp only [skipS, hc] <;> simp <;> omega
theorem skip_note {l : List UInt8} {k : Nat} (h : k < l.length) (hc : (l.getD k 0).toNat ≠ 10) : k + skipS true (l.drop k) = k + 1 + skipS true (l.drop (k + 1)) := by
  rw [drop_cons h]
  simp only [skipS, hc, if_false]; omega
theorem skip_gap {l : List UInt8} {k : Nat} (h : k < l.length) (hc : (l.getD k 0).toNat = 32 ∨ (l.getD k 0).toNat = 9) : k + skipS false (l.drop k) = k + 1 + skipS false (l.drop (k + 1)) := by
  rw [drop_cons h]
  have : (l.getD k 0).toNat = 32 ∨ (l.getD k 0).toNat = 9 ∨ (l.getD k 0).toNat = 10 := by
    rcases hc with h | h
    · exact .inl h
    · exact .inr (.inl h)
  simp only [skipS, if_pos this]; omega
theorem skip_here {l : List UInt8} {k : Nat} (h : k < l.length) (h1 : (l.getD k 0).toNat ≠ 32) (h2 : (l.getD k 0).toNat ≠ 9) (h3 : (l.getD k 0).toNat ≠ 10) (h4 : (l.getD k 0).toNat ≠ 35) : k + skipS false (l.drop k) = k := by
  rw [drop_cons h]
  simp only [skipS, h4, if_false]
  rw [if_neg (by rintro (h | h | h) <;> contradiction)]
  rfl
theorem rlex_post {R : Ending → World → Prop} {a : Act} {w : World} (g : Nat) (v : Value) (er at_ : Int) (hd : a.defers = []) (h2 : a.tmps.getD 2 undef = v) (h3 : a.tmps.getD 3 undef = .pointer (some ⟨g, 0, none⟩))
    (hg : w.heap[g]? = some (.cells #[.int .i64 er, .int .i64 at_] 26 (0, 0))) (hR : R (.returned (.tuple #[v, .agg #[.int .i64 er, .int .i64 at_]])) w) : bodyPost Tryd.prog Tryd.f21 R .ret a w := by
  refine bodyPost_ret (v := .tuple #[v, .agg #[.int .i64 er, .int .i64 at_]]) ?_ hd hR
  have h2' : a.tmps[2]?.getD undef = v := by simpa using h2
  have h3' : a.tmps[3]?.getD undef = .pointer (some ⟨g, 0, none⟩) := by simpa using h3
  have hv := run_loadVar_row (P := Tryd.prog) w g 26 26 _ _ _ hg faultType rfl (by kernel_rfl)
  simp [results, Tryd.results21, h2', h3', asAddr, hv]

set_option maxRecDepth 100000 in
set_option maxHeartbeats 2000000 in
theorem rlex_any (s : ByteArray) (l : List UInt8) (hs : s.data.toList = l) (hl : l.length ≤ 9223372036854775807) (w : World) :
    Calls Tryd.prog 21 #[.string s] w fun e w' => (∃ v er at_, e = .returned (.tuple #[v, .agg #[.int .i64 er, .int .i64 at_]]) ∧ LexTells l w.heap.size w' v er at_) ∧ Below w.heap.size w w' := by
  have hz : s.size = l.length := by rw [← hs, Lib.size_eq]
  obtain ⟨i0, hi, hz0, hz1, hz2⟩ := info_parts tokInfo
  have hb0 : Below w.heap.size w (w.alloc (.cells #[.int .i64 0, .int .i64 0] 26)) := (Below.refl _ _).alloc (Nat.le_refl _) _
  have h0 : (w.alloc (.cells #[.int .i64 0, .int .i64 0] 26)).heap[w.heap.size]? = some (.cells #[.int .i64 0, .int .i64 0] 26 (0, 0)) := heap_alloc_new w _
  by_cases hm : 6000 < l.length
  · have hm' : (6000 : Int) < (l.length : Int) := by omega
    go_enter Tryd.func21, Tryd.ntmps21
    go_wp2
    exact rlex_post w.heap.size (.slice none 0 0) 4 0 rfl rfl rfl (heap_alloc_new w _) ⟨⟨_, _, _, rfl, LexTells.much hm⟩, (Below.refl _ _).alloc (Nat.le_refl _) _⟩
  · have hm' : ¬ (6000 : Int) < (l.length : Int) := by omega
    have HS : Hid (Lexed l [] (0 + skipS false (l.drop 0))) := Lexed.start
    go_enter Tryd.func21, Tryd.ntmps21
    go_wp2
    go_loopw [4, 5, 6] (fun v b i wr => ∃ (ts : List (T1 × Nat)) (nt : Bool) (k : Nat), i = .int .i64 (k : Int) ∧ b = .bool nt ∧ k ≤ l.length ∧ Lexed l ts (k + skipS nt (l.drop k)) ∧ wr.ownsRow w.heap.size 30 4 v ts.length (flatT ts) ∧ wr.heap[w.heap.size]? = some (.cells #[.int .i64 0, .int .i64 0] 26 (0, 0)) ∧ Below w.heap.size w wr) (fun _ _ i _ => l.length - (intOf i).toNat)
    case atStart => exact ⟨[], false, 0, rfl, rfl, by omega, HS.out, World.ownsRow_nil _ _ _ _, h0, hb0⟩
    case round =>
      obtain ⟨ts, nt, k, rfl, rfl, hkl, hlx, hown, hf, hbel⟩ := hrel
      clear h0 hb0 HS
      have hle := hlx.le
      have htl : ts.length ≤ 6000 := by omega
      clear hle
      have HL : Hid (Lexed l ts (k + skipS nt (l.drop k))) := hlx
      clear hlx
      have hk0 : (0 : Int) ≤ (k : Int) := by omega
      have hkm : (k : Int) ≤ 6000 := by omega
      by_cases hlt : k < l.length
      · have hlt' : (k : Int) < (l.length : Int) := by omega
        have g1 : ∀ h : k < s.size, s[k] = l.getD k 0 := fun h => byte_at hs k h
        have bz : ∀ n : Nat, (l.getD k 0).toNat ≠ n → (((l.getD k 0).toNat : Int) == (n : Int)) = false := fun n h => beq_eq_false_iff_ne.2 (by omega)
        by_cases h10 : (l.getD k 0).toNat = 10
        · have HX : Hid (Lexed l ts (k + 1 + skipS false (l.drop (k + 1)))) := by show Lexed _ _ _; rw [← skip_lf nt hlt h10]; exact HL.out
          have i10 : (((l.getD k 0).toNat : Int) == 10) = true := by rw [h10]; rfl
          have i35 : (((l.getD k 0).toNat : Int) == 35) = false := bz 35 (by omega)
          have i32 : (((l.getD k 0).toNat : Int) == 32) = false := bz 32 (by omega)
          have i9 : (((l.getD k 0).toNat : Int) == 9) = false := bz 9 (by omega)
          clear bz h10 HL
          generalize l.getD k 0 = c at *
          go_wp2
          go_roundw
          case rel => exact ⟨ts, false, k + 1, by go_num, rfl, by omega, HX.out, hown, hf, hbel⟩
          case measure => simp [intOf]; omega
        · have i10 : (((l.getD k 0).toNat : Int) == 10) = false := bz 10 h10
          by_cases h35 : (l.getD k 0).toNat = 35
          · have HX : Hid (Lexed l ts (k + 1 + skipS true (l.drop (k + 1)))) := by show Lexed _ _ _; rw [← skip_hash1 nt hlt h35]; exact HL.out
            have i35 : (((l.getD k 0).toNat : Int) == 35) = true := by rw [h35]; rfl
            clear bz h10 h35 HL
            generalize l.getD k 0 = c at *
            go_wp2
            go_roundw
            case rel => exact ⟨ts, true, k + 1, by go_num, rfl, by omega, HX.out, hown, hf, hbel⟩
            case measure => simp [intOf]; omega
          · have i35 : (((l.getD k 0).toNat : Int) == 35) = false := bz 35 h35
            cases nt with
            | true =>
              have HX : Hid (Lexed l ts (k + 1 + skipS true (l.drop (k + 1)))) := by show Lexed _ _ _; rw [← skip_note hlt h10]; exact HL.out
              clear bz h10 h35 HL
              generalize l.getD k 0 = c at *
              go_wp2
              go_roundw
              case rel => exact ⟨ts, true, k + 1, by go_num, rfl, by omega, HX.out, hown, hf, hbel⟩
              case measure => simp [intOf]; omega
            | false =>
              by_cases h32 : (l.getD k 0).toNat = 32
              · have HX : Hid (Lexed l ts (k + 1 + skipS false (l.drop (k + 1)))) := by show Lexed _ _ _; rw [← skip_gap hlt (.inl h32)]; exact HL.out
                have i32 : (((l.getD k 0).toNat : Int) == 32) = true := by rw [h32]; rfl
                clear bz h10 h35 h32 HL
                generalize l.getD k 0 = c at *
                go_wp2
                go_roundw
                case rel => exact ⟨ts, false, k + 1, by go_num, rfl, by omega, HX.out, hown, hf, hbel⟩
                case measure => simp [intOf]; omega
              · have i32 : (((l.getD k 0).toNat : Int) == 32) = false := bz 32 h32
                by_cases h9 : (l.getD k 0).toNat = 9
                · have HX : Hid (Lexed l ts (k + 1 + skipS false (l.drop (k + 1)))) := by show Lexed _ _ _; rw [← skip_gap hlt (.inr h9)]; exact HL.out
                  have i9 : (((l.getD k 0).toNat : Int) == 9) = true := by rw [h9]; rfl
                  clear bz h10 h35 h32 h9 HL
                  generalize l.getD k 0 = c at *
                  go_wp2
                  go_roundw
                  case rel => exact ⟨ts, false, k + 1, by go_num, rfl, by omega, HX.out, hown, hf, hbel⟩
                  case measure => simp [intOf]; omega
                · have i9 : (((l.getD k 0).toNat : Int) == 9) = false := bz 9 h9
                  have hlx : Lexed l ts k := by have := HL.out; rw [skip_here hlt h32 h9 h10 h35] at this; exact this
                  have cO := fun w => one_any s l hs (by omega) k hlt w
                  clear bz h10 h35 h32 h9 HL
                  generalize l.getD k 0 = c at *
                  by_cases he : (firstT (l.drop k)).err = 0
                  · have hfine := first_fine _ (drop_pos hlt) he
                    have hnx := Lexed.step hlx hlt he
                    have hp1 := hfine.pos
                    have hp2 := hfine.le
                    simp only [List.length_drop] at hp2
                    generalize firstT (l.drop k) = F at *
                    have HX : Hid (Lexed l (ts ++ [(F, k)]) (k + F.len + skipS false (l.drop (k + F.len)))) := hnx
                    clear hnx hfine hlx
                    obtain ⟨kd, nn, tx, tl, te⟩ := F
                    dsimp only at *
                    subst he
                    go_wp2_with fail
                    refine (cO _).mono ?_
                    rintro e w1 ⟨⟨a, b, c', en, x, rfl, htok⟩, hb1⟩
                    obtain ⟨q1, q2, q3, q4, q5⟩ := htok rfl
                    dsimp only at *
                    subst a b c' x en
                    have hf1 := (hb1.block _ (lt_of_block hf)).trans hf
                    have hown1 := owns_below hown hb1
                    have hbel1 := hbel.trans (hb1.mono hbel.size)
                    clear hf hown hbel hb1 cO htok
                    go_wp2_with (at_builtin; refine wpList_append_own _ rfl _ _ 23 rfl w.heap.size 30 i0 (.agg #[.int .i64 0, .int .i64 0, .int .i64 0, .string ⟨#[]⟩]) 4 40 toksType hi hz0 hz1 hz2 rfl (by decide) u4 ts.length (flatT ts) rfl ((hown1.alloc _).alloc _) ⟨w1.heap.size + 1, 0, none⟩ 1 1 [.int .i64 kd, .int .i64 nn, .int .i64 (k : Int), .string ⟨tx.toArray⟩] rfl rfl ?c1 ?c2 ?c3 ?c4 ?c5 ?_)
                    case c1 =>
                      intro j u hj
                      match j, hj with
                      | 0, hj => simp at hj; subst hj; simp [Addr.add]
                      | 1, hj => simp at hj; subst hj; simp [Addr.add]
                      | 2, hj => simp at hj; subst hj; simp [Addr.add]
                      | 3, hj => simp at hj; subst hj; simp [Addr.add]
                    case c2 => intro u hu; simp at hu; rcases hu with rfl | rfl | rfl | rfl <;> rfl
                    case c3 => unfold maxLen; omega
                    case c4 => omega
                    case c5 => have := hbel1.size; simp; omega
                    · intro v' w2 hown' hgrow _
                      have hown2 : w2.ownsRow w.heap.size 30 4 v' (ts ++ [((⟨kd, nn, tx, tl, 0⟩ : T1), k)]).length (flatT (ts ++ [((⟨kd, nn, tx, tl, 0⟩ : T1), k)])) := by
                        rw [flatT_snoc]
                        simp only [List.length_append, List.length_cons, List.length_nil, Nat.zero_add]
                        exact hown'
                      have lf := lt_of_block hf1
                      have hfa := (Below.heap_alloc w1 (.cells #[.int .i64 kd, .int .i64 nn, .int .i64 (k : Int), .string ⟨tx.toArray⟩] 30) _ lf).trans hf1
                      have hfb := (Below.heap_alloc _ (.cells #[.int .i64 kd, .int .i64 nn, .int .i64 (k : Int), .string ⟨tx.toArray⟩] 30) _ (lt_of_block hfa)).trans hfa
                      have hf2 := (hgrow.block _ (lt_of_block hfb) (fun e => owns_type hown1 hf1 (by decide) e.symm)).trans hfb
                      have hbel2 : Below w.heap.size w w2 := ((hbel1.alloc hbel1.size _).alloc (by have := hbel1.size; simp; omega) _).grown hgrow (by have := hbel1.size; simp; omega) (fun k hk => (hown1.lt k hk).1)
                      clear hown' hgrow hown1 hf1 hbel1 hfa hfb lf
                      go_wp2
                      go_roundw
                      case rel => exact ⟨_, false, k + tl, rfl, rfl, by omega, HX.out, hown2, hf2, hbel2⟩
                      case measure => simp [intOf]; omega
                  · have hne : ((firstT (l.drop k)).err != 0) = true := by simpa using he
                    have HO : ∀ w', Hid (LexTells l w.heap.size w' (.slice none 0 0) (firstT (l.drop k)).err (k : Int)) := fun w' => LexTells.wrong (by omega) hlx hlt he
                    clear he hlx hown
                    generalize firstT (l.drop k) = F at *
                    obtain ⟨kd, nn, tx, tl, te⟩ := F
                    dsimp only at *
                    go_wp2_with fail
                    refine (cO _).mono ?_
                    rintro e w1 ⟨⟨a, b, c', en, x, rfl, htok⟩, hb1⟩
                    dsimp only at *
                    have hf1 := (hb1.block _ (lt_of_block hf)).trans hf
                    have hbel1 := hbel.trans (hb1.mono hbel.size)
                    have hfa := (Below.heap_alloc w1 (.cells #[.int .i64 a, .int .i64 b, .int .i64 c', .string x] 30) _ (lt_of_block hf1)).trans hf1
                    have hbela := hbel1.alloc hbel1.size (.cells #[.int .i64 a, .int .i64 b, .int .i64 c', .string x] 30)
                    clear hf hbel hb1 cO hf1 htok
                    go_wp2_with (refine wpList_store_row rfl 26 _ _ rfl _ _ rfl rfl _ _ hfa (by kernel_rfl) (by simp) (by simp [Value.oneCell']) ?_)
                    exact rlex_post w.heap.size (.slice none 0 0) te (k : Int) rfl rfl rfl (setRow_heap _ _ _ _ _ _ hfa) ⟨⟨_, _, _, rfl, (HO _).out⟩, below_setRow hbela (Nat.le_refl _) _⟩
      · have hlt' : ¬ (k : Int) < (l.length : Int) := by omega
        have hek : k = l.length := by omega
        have hsk : k + skipS nt (l.drop k) = l.length := by rw [hek]; simp [skipS]
        have hob := owns_type hown hf (by decide)
        have HO : ∀ cs, Hid (LexTells l w.heap.size (wr.setRow w.heap.size cs) u4 0 0) := fun cs => LexTells.right (by omega) HL.out (by omega) (owns_setRow hown hob cs)
        clear hown hob hek hsk HL
        go_wp2_with (refine wpList_store_row rfl 26 _ _ rfl _ _ rfl rfl _ _ hf (by kernel_rfl) (by simp) (by simp [Value.oneCell']) ?_)
        exact rlex_post w.heap.size u4 0 0 rfl rfl rfl (setRow_heap _ _ _ _ _ _ hf) ⟨⟨_, _, _, rfl, (HO _).out⟩, below_setRow hbel (Nat.le_refl _) _⟩
end Go.Proofs.YtggcepicghibjacDoor

/- The document's reader of rules: what its steps come to, whether something is wrong already or not. -/
namespace Go.Proofs.YtggcepicghibjacDoor
open Go.RowKit Lx
variable {all : List Tk} {E g : Nat} {v : Value} {w : World} {i n : Nat} {er at_ : Int}

theorem need_one (h0 : WS0 all E g v) (h : WSt all E g v w i n er at_) (x : List UInt8) (hx : x ≠ []) (hs : x ∈ signW) :
    Calls Tryd.prog 27 #[.pointer (some ⟨g, 0, none⟩), .string ⟨x.toArray⟩] w fun e w' => e = .returned (.tuple #[]) ∧ Kept g w w' ∧
      ((er ≠ 0 → WSt all E g v w' i n er at_) ∧ (er = 0 → isT x (all.drop i) = true → WSt all E g v w' (i + 1) n 0 at_) ∧ (er = 0 → isT x (all.drop i) = false → WSt all E g v w' i n 2 (atP E (all.drop i)))) := by
  by_cases he : er = 0
  · subst he
    cases hT : isT x (all.drop i) with
    | true =>
      refine (need_yes h0 h x hx (by rw [on_sign h0 hs]; exact hT)).mono ?_
      rintro e w' ⟨rfl, h1, hk⟩
      exact ⟨rfl, hk, fun h => absurd rfl h, fun _ _ => h1, fun _ h => (by cases h)⟩
    | false =>
      refine (need_no h0 h x (by rw [on_sign h0 hs]; exact hT)).mono ?_
      rintro e w' ⟨rfl, h1, hk⟩
      exact ⟨rfl, hk, fun h => absurd rfl h, fun _ h => (by cases h), fun _ _ => h1⟩
  · refine (need_bad h0 h he x).mono ?_
    rintro e w' ⟨rfl, h1, hk⟩
    exact ⟨rfl, hk, fun _ => h1, fun h => absurd h he, fun h => absurd h he⟩
/-- What Sum comes to, whether something is wrong already or not. -/
def OutS (all : List Tk) (E g : Nat) (v : Value) (w : World) (i n : Nat) (er at_ : Int) (X : Res) (e : Ending) (w' : World) : Prop :=
  ∃ (a b c : Int) (x : ByteArray) (p : Option Addr) (q r : Nat), e = .returned (.agg #[.int .i64 a, .int .i64 b, .int .i64 c, .string x, .slice p q r]) ∧ Kept g w w' ∧ (er ≠ 0 → WSt all E g v w' i n er at_) ∧
    (er = 0 → match X with
      | .error (er', at') => er' ≠ 0 ∧ ∃ i' n', WSt all E g v w' i' n' er' (at' : Int)
      | .ok (ex, r', n') => ∃ i' d, r' = all.drop i' ∧ WSt all E g v w' i' n' 0 0 ∧ a = ex.kind ∧ b = ex.a ∧ c = ex.b ∧ x = ⟨ex.name.toArray⟩ ∧ q = ex.kids.length ∧ KidsAt (fun k => w.heap.size ≤ k) d w' (.slice p ex.kids.length r) ex.kids ∧ hgt ex ≤ 600)
theorem sum_one (h0 : WS0 all E g v) (h : WSt all E g v w i n er at_) (hn6 : n ≤ 600) (ha : er = 0 → at_ = 0) :
    Calls Tryd.prog 28 #[.pointer (some ⟨g, 0, none⟩), .int .i64 0, .int .i64 1] w (OutS all E g v w i n er at_ (rd E 0 1 ex0 (all.drop i) n)) := by
  by_cases he : er = 0
  · subst he
    obtain rfl := ha rfl
    refine (rsum_all h0 i w n 1 h hn6 (by omega)).mono ?_
    intro e w' ho
    unfold OutW at ho
    cases hx : rd E 0 1 ex0 (all.drop i) n with
    | error q =>
      obtain ⟨er', at'⟩ := q
      rw [hx] at ho
      obtain ⟨hne, ⟨a, b, c, x, p, q, r, rfl⟩, ⟨i', n', h1⟩, hk⟩ := ho
      exact ⟨a, b, c, x, p, q, r, rfl, hk, fun h => absurd rfl h, fun _ => ⟨hne, i', n', h1⟩⟩
    | ok q =>
      obtain ⟨ex, rr, nn⟩ := q
      rw [hx] at ho
      obtain ⟨i', sl, d, hr, rfl, hkd, h1, hn, hk⟩ := ho
      have hh := rd_hgt hx
      obtain ⟨p, c, rfl⟩ := hkd.form
      exact ⟨_, _, _, _, p, ex.kids.length, c, rfl, hk, fun h => absurd rfl h, fun _ => ⟨i', d, hr, h1, rfl, rfl, rfl, rfl, rfl, hkd, by omega⟩⟩
  · refine (rsum0_bad h0 h he 1).mono ?_
    rintro e w' ⟨⟨a, b, c, x, p, q, r, rfl⟩, h1, hk⟩
    exact ⟨a, b, c, x, p, q, r, rfl, hk, fun _ => h1, fun h => absurd h he⟩
end Go.Proofs.YtggcepicghibjacDoor

/- The document's reader of rules: what is said at its loop, and what the steps of a round come to; no walk. -/
namespace Go.Proofs.YtggcepicghibjacDoor
open Go.RowKit Lx
variable {all : List Tk} {E g : Nat} {v : Value} {w : World} {i n j m f : Nat} {acc : List Ru} {X Y : Except (Int × Nat) (List Ru)}

/-- The rules so far stand in a row, or something is wrong. -/
def RulesW (all : List Tk) (E g : Nat) (v : Value) (w : World) (X : Except (Int × Nat) (List Ru)) (q : Value) (wr : World) : Prop :=
  Kept g w wr ∧
  ((∃ (us : List (Ru × Value)) (f j m : Nat), rulesR E f (us.map (fun p => p.1)) (all.drop j) = X ∧ (all.drop j).length < f ∧ us.length ≤ 40 ∧ RowR w wr q us ∧ WSt all E g v wr j m 0 0) ∨
   (∃ (er : Int) (at_ j m : Nat), X = .error (er, at_) ∧ er ≠ 0 ∧ WSt all E g v wr j m er (at_ : Int)))
/-- What is still to be read, behind a rule's word. -/
def nextR (E f : Nat) (acc : List Ru) (r : List Tk) : Except (Int × Nat) (List Ru) := match ruleR E r with
  | .error q => .error q
  | .ok (u, q) => rulesR E f (acc ++ [u]) q
theorem next_kind (h : kindP (all.drop j) ≠ 1) : nextR E f acc (all.drop j) = .error (2, atP E (all.drop j)) := by
  unfold nextR ruleR
  rw [if_pos h]
theorem next_is (h : kindP (all.drop j) = 1) (h2 : isT wIs (all.drop (j + 1)) = false) : nextR E f acc (all.drop j) = .error (2, atP E (all.drop (j + 1))) := by
  unfold nextR ruleR
  simp only [tail_drop]
  rw [if_neg (by simp [h]), if_neg (by simp [h2])]
theorem next_read {q : Int × Nat} (h : kindP (all.drop j) = 1) (h2 : isT wIs (all.drop (j + 1)) = true) (h3 : rd E 0 1 ex0 (all.drop (j + 1 + 1)) 0 = .error q) : nextR E f acc (all.drop j) = .error q := by
  unfold nextR ruleR
  simp only [tail_drop]
  rw [if_neg (by simp [h]), if_pos h2, h3]
theorem next_deep {ex : Ex} (h : kindP (all.drop j) = 1) (h2 : isT wIs (all.drop (j + 1)) = true) (h3 : rd E 0 1 ex0 (all.drop (j + 1 + 1)) 0 = .ok (ex, all.drop i, n)) (h4 : 40 < hgt ex) : nextR E f acc (all.drop j) = .error (4, atP E (all.drop i)) := by
  unfold nextR ruleR
  simp only [tail_drop]
  rw [if_neg (by simp [h]), if_pos h2, h3]
  simp only
  rw [if_pos h4]
theorem next_semi {ex : Ex} (h : kindP (all.drop j) = 1) (h2 : isT wIs (all.drop (j + 1)) = true) (h3 : rd E 0 1 ex0 (all.drop (j + 1 + 1)) 0 = .ok (ex, all.drop i, n)) (h4 : ¬ 40 < hgt ex) (h5 : isT wSemi (all.drop i) = false) : nextR E f acc (all.drop j) = .error (2, atP E (all.drop i)) := by
  unfold nextR ruleR
  simp only [tail_drop]
  rw [if_neg (by simp [h]), if_pos h2, h3]
  simp only
  rw [if_neg h4, if_neg (by simp [h5])]
theorem next_ok {ex : Ex} (h : kindP (all.drop j) = 1) (h2 : isT wIs (all.drop (j + 1)) = true) (h3 : rd E 0 1 ex0 (all.drop (j + 1 + 1)) 0 = .ok (ex, all.drop i, n)) (h4 : ¬ 40 < hgt ex) (h5 : isT wSemi (all.drop i) = true) : nextR E f acc (all.drop j) = rulesR E f (acc ++ [(textP (all.drop j), ex)]) (all.drop (i + 1)) := by
  unfold nextR ruleR
  simp only [tail_drop]
  rw [if_neg (by simp [h]), if_pos h2, h3]
  simp only
  rw [if_neg h4, if_pos h5, tail_drop]
/-- Something is wrong, and it is what is to be told; or what is to be told is still to be read, and so much is known. -/
def Stp (K : Prop) (X Y : Except (Int × Nat) (List Ru)) (er : Int) (at_ : Nat) : Prop := (er ≠ 0 → X = .error (er, at_)) ∧ (er = 0 → at_ = 0 ∧ Y = X ∧ K)
theorem stp_get {P : Prop} {er : Int} {at_ : Nat} {w' : World} (hS : Stp P X (nextR E f acc (all.drop j)) er at_) (hb : er ≠ 0 → WSt all E g v w' j m er (at_ : Int)) (hn : er = 0 → kindP (all.drop j) ≠ 1 → WSt all E g v w' j m 2 (atP E (all.drop j)))
    (hg : er = 0 → kindP (all.drop j) = 1 → WSt all E g v w' (j + 1) m 0 (at_ : Int)) : ∃ (er2 : Int) (at2 i2 : Nat), WSt all E g v w' i2 m er2 (at2 : Int) ∧ Stp (P ∧ kindP (all.drop j) = 1 ∧ i2 = j + 1) X (nextR E f acc (all.drop j)) er2 at2 := by
  by_cases he : er = 0
  · obtain ⟨ha, hY, hP⟩ := hS.2 he
    by_cases hk : kindP (all.drop j) = 1
    · exact ⟨0, at_, j + 1, hg he hk, fun h => absurd rfl h, fun _ => ⟨ha, hY, hP, hk, rfl⟩⟩
    · exact ⟨2, atP E (all.drop j), j, hn he hk, fun _ => by rw [← hY, next_kind hk], fun h => absurd h (by decide)⟩
  · exact ⟨er, at_, j, hb he, hS.1, fun h => absurd h he⟩
theorem stp_is {P : Prop} {er : Int} {at_ i2 : Nat} {w' : World} (hS : Stp (P ∧ kindP (all.drop j) = 1 ∧ i2 = j + 1) X (nextR E f acc (all.drop j)) er at_) (hb : er ≠ 0 → WSt all E g v w' i2 m er (at_ : Int)) (hg : er = 0 → isT wIs (all.drop i2) = true → WSt all E g v w' (i2 + 1) m 0 (at_ : Int))
    (hn : er = 0 → isT wIs (all.drop i2) = false → WSt all E g v w' i2 m 2 (atP E (all.drop i2))) : ∃ (er2 : Int) (at2 i3 : Nat), WSt all E g v w' i3 m er2 (at2 : Int) ∧ Stp (P ∧ kindP (all.drop j) = 1 ∧ isT wIs (all.drop (j + 1)) = true ∧ i3 = j + 1 + 1) X (nextR E f acc (all.drop j)) er2 at2 := by
  by_cases he : er = 0
  · obtain ⟨ha, hY, hP, hk, rfl⟩ := hS.2 he
    cases hi : isT wIs (all.drop (j + 1)) with
    | true => exact ⟨0, at_, j + 1 + 1, hg he hi, fun h => absurd rfl h, fun _ => ⟨ha, hY, hP, hk, rfl, rfl⟩⟩
    | false => exact ⟨2, atP E (all.drop (j + 1)), j + 1, hn he hi, fun _ => by rw [← hY, next_is hk hi], fun h => absurd h (by decide)⟩
  · exact ⟨er, at_, i2, hb he, hS.1, fun h => absurd h he⟩
/-- Behind an expression: something is wrong, or it is there. -/
theorem stp_sum {P : Prop} {er : Int} {at_ i3 : Nat} {w' : World} {a b c : Int} {x : ByteArray} {p : Option Addr} {q r : Nat} (hS : Stp (P ∧ kindP (all.drop j) = 1 ∧ isT wIs (all.drop (j + 1)) = true ∧ i3 = j + 1 + 1) X (nextR E f acc (all.drop j)) er at_)
    (hb : er ≠ 0 → WSt all E g v w' i3 0 er (at_ : Int))
    (hg : er = 0 → match rd E 0 1 ex0 (all.drop i3) 0 with
      | .error (er', at') => er' ≠ 0 ∧ ∃ i' n', WSt all E g v w' i' n' er' (at' : Int)
      | .ok (ex, r', n') => ∃ i' d, r' = all.drop i' ∧ WSt all E g v w' i' n' 0 0 ∧ a = ex.kind ∧ b = ex.a ∧ c = ex.b ∧ x = ⟨ex.name.toArray⟩ ∧ q = ex.kids.length ∧ KidsAt (fun k => w.heap.size ≤ k) d w' (.slice p ex.kids.length r) ex.kids ∧ hgt ex ≤ 600) :
    (∃ (er4 : Int) (at4 i4 m4 : Nat), er4 ≠ 0 ∧ X = .error (er4, at4) ∧ WSt all E g v w' i4 m4 er4 (at4 : Int)) ∨
    (∃ (ex : Ex) (i4 n4 d : Nat), P ∧ kindP (all.drop j) = 1 ∧ isT wIs (all.drop (j + 1)) = true ∧ rd E 0 1 ex0 (all.drop (j + 1 + 1)) 0 = .ok (ex, all.drop i4, n4) ∧ nextR E f acc (all.drop j) = X ∧ WSt all E g v w' i4 n4 0 0 ∧ a = ex.kind ∧ b = ex.a ∧ c = ex.b ∧ x = ⟨ex.name.toArray⟩ ∧ q = ex.kids.length ∧ KidsAt (fun k => w.heap.size ≤ k) d w' (.slice p ex.kids.length r) ex.kids ∧ hgt ex ≤ 600) := by
  by_cases he : er = 0
  · obtain ⟨ha, hY, hP, hk, hi, rfl⟩ := hS.2 he
    have hg' := hg he
    cases hx : rd E 0 1 ex0 (all.drop (j + 1 + 1)) 0 with
    | error q =>
      obtain ⟨er', at'⟩ := q
      rw [hx] at hg'
      obtain ⟨hne, i', n', h1⟩ := hg'
      exact .inl ⟨er', at', i', n', hne, by rw [← hY, next_read hk hi hx], h1⟩
    | ok q =>
      obtain ⟨ex, r', n'⟩ := q
      rw [hx] at hg'
      obtain ⟨i', d, rfl, h1, h2⟩ := hg'
      exact .inr ⟨ex, i', n', d, hP, hk, hi, rfl, hY, h1, h2⟩
  · exact .inl ⟨er, at_, i3, 0, he, hS.1 he, hb he⟩
/-- A round's end. -/
theorem rulesW_next {w0 w4 w5 : World} {q v' : Value} {us : List (Ru × Value)} {i0 n0 : Nat} {e0 a0 : Int} {er : Int} {at_ : Nat} {nm : List UInt8} {a b c : Int} {x : ByteArray} {p : Option Addr} {q' r : Nat} (h0 : WS0 all E g v) (hst0 : WSt all E g v w0 i0 n0 e0 a0)
    (hrow : RowR w0 w4 q us) (hkp : Kept g w0 w4) (hgr : w4.grownBy w5 q.ownBlock) (h4 : WSt all E g v w4 i m er (at_ : Int))
    (hown : w5.ownsRow w0.heap.size 64 6 v' (us.length + 1) (flatR us ++ [.string ⟨nm.toArray⟩, .int .i64 a, .int .i64 b, .int .i64 c, .string x, .slice p q' r]))
    (hX : (er ≠ 0 → X = .error (er, at_)) ∧ (er = 0 → at_ = 0 ∧ ∃ (ex : Ex) (d f : Nat), a = ex.kind ∧ b = ex.a ∧ c = ex.b ∧ x = ⟨ex.name.toArray⟩ ∧ q' = ex.kids.length ∧ KidsAt (fun k => w0.heap.size ≤ k) d w4 (.slice p ex.kids.length r) ex.kids ∧ rulesR E f (us.map (fun p => p.1) ++ [(nm, ex)]) (all.drop i) = X ∧ (all.drop i).length < f ∧ us.length < 40)) :
    RulesW all E g v w0 X v' w5 ∧ (er ≠ 0 → mzOf all.length g w5 = 0) ∧ (er = 0 → mzOf all.length g w5 = all.length + 1 - i ∧ i ≤ all.length) := by
  have hgl := lt_of_block hst0.blk
  have hlo := hrow.own.lt
  have hkp5 : Kept g w0 w5 := ⟨hgr.os.trans hkp.os, hgr.tape.trans hkp.tape, hgr.output.trans hkp.output, Nat.le_trans hkp.size hgr.size, fun k hk hne => (hgr.block k (by have := hkp.size; omega) (fun e => by have := (hlo k e.symm).1; omega)).trans (hkp.block k hk hne)⟩
  have h5 : WSt all E g v w5 i m er (at_ : Int) := hst0.of_kept h0 hkp5 ((hgr.block g (lt_of_block h4.blk) (fun e => by have := (hlo g e.symm).1; omega)).trans h4.blk) h4.le
  by_cases he : er = 0
  · subst he
    obtain ⟨rfl, ex, d, f, rfl, rfl, rfl, rfl, rfl, hkd, hX', hf, h40⟩ := hX.2 rfl
    refine ⟨⟨hkp5, .inl ⟨us ++ [((nm, ex), .slice p ex.kids.length r)], f, i, m, ?_, hf, ?_, ⟨?_, ?_⟩, h5⟩⟩, fun h => absurd rfl h, fun _ => ⟨h5.mz_ok _, h5.le⟩⟩
    · rw [List.map_append]; exact hX'
    · simp; omega
    · rw [flatR_snoc]
      simp only [List.length_append, List.length_cons, List.length_nil, Nat.zero_add]
      exact hown
    · intro u hu
      rcases List.mem_append.1 hu with hu | hu
      · obtain ⟨d, hd⟩ := hrow.kids u hu
        exact ⟨d, kids_grown hrow.own hgr hd⟩
      · have e : u = ((nm, ex), .slice p ex.kids.length r) := by simpa using hu
        subst e
        exact ⟨d, kids_grown hrow.own hgr hkd⟩
  · exact ⟨⟨hkp5, .inr ⟨er, at_, i, m, hX.1 he, he, h5⟩⟩, fun h => h5.mz_bad h _, fun h => absurd h he⟩
end Go.Proofs.YtggcepicghibjacDoor
