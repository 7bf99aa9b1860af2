/- What lex.wordLength and lex.number come to. -/
import Derived.Test.YtgfjbcdjpkcbkaaGreatDoorDu01
import Derived.Laws.Rows
import Derived.Test.YtgfjbcdjpkcbkaaGreatDoorRows
import Derived.WalkKit
import Derived.WalkSpells
import Derived.WalkLawsBesides
import Derived.Deep.QuietTactic
import Derived.BigQuiet
import Derived.Lib.LaidTab
import Derived.Deep.Quiet
import Derived.RegionTactic
namespace Go.Proofs.YtgfjbcdjpkcbkaaGreatDoor
open Go.RowKit Lx
def tokv (t : T1) : Value := .tuple #[.agg #[.int .i64 t.kind, .int .i64 t.n, .int .i64 0, .string ⟨t.text.toArray⟩], .int .i64 (t.len : Int), .int .i64 t.err]
theorem tokType : Tryz.prog.underlying 101 = some (.struct (Tryz.prog.fieldsOf 101)) := by kernel_rfl
theorem tok_post {fn : Func} (h : fn.results = Tryz.f69.results) {R : Ending → World → Prop} {a : Act} {w : World} (g : Nat) (t : T1) (hd : a.defers = []) (h2 : a.tmps.getD 2 undef = .pointer (some ⟨g, 0, none⟩))
    (h3 : a.tmps.getD 3 undef = .int .i64 (t.len : Int)) (h4 : a.tmps.getD 4 undef = .int .i64 t.err) (hg : w.heap[g]? = some (.cells #[.int .i64 t.kind, .int .i64 t.n, .int .i64 0, .string ⟨t.text.toArray⟩] 101 (0, 0)))
    (hR : R (.returned (tokv t)) w) : bodyPost Tryz.prog fn R .ret a w := by
  refine bodyPost_ret (v := tokv t) ?_ hd hR
  have h2' : a.tmps[2]?.getD undef = .pointer (some ⟨g, 0, none⟩) := by simpa using h2
  have h3' : a.tmps[3]?.getD undef = .int .i64 (t.len : Int) := by simpa using h3
  have h4' : a.tmps[4]?.getD undef = .int .i64 t.err := by simpa using h4
  have hv := run_loadVar_row (P := Tryz.prog) w g 101 101 _ _ _ hg tokType rfl (by kernel_rfl)
  simp [results, h, Tryz.results69, h2', h3', h4', asAddr, hv, tokv]
set_option maxRecDepth 10000 in
set_option maxHeartbeats 400000 in
theorem wordLen_any (s : ByteArray) (l : List UInt8) (hs : s.data.toList = l) (hl : l.length ≤ 9223372036854775806) (w : World) :
    Calls Tryz.prog 56 #[.string s] w fun e w' => e = .returned (.int .i64 (wordLen l : Int)) ∧ w' = w := by
  have hz : s.size = l.length := by rw [← hs, Lib.size_eq]
  go_enter Tryz.func56, Tryz.ntmps56
  go_wp2
  go_loop [3] (fun i => ∃ k : Nat, k ≤ l.length ∧ i = .int .i64 k ∧ ∀ i, i < k → pcAt l i = true) (fun i => l.length - (intOf i).toNat)
  case atStart => exact ⟨0, by omega, rfl, fun i h => by omega⟩
  case round =>
    obtain ⟨k, hk, rfl, hall⟩ := hrel
    have HA : Hid (∀ i, i < k → pcAt l i = true) := hall
    clear hall
    by_cases hlt : k < l.length
    · have hlt' : (k : Int) < (l.length : Int) := by omega
      have hk0 : (0 : Int) ≤ (k : Int) := by omega
      have g1 : ∀ h : k < s.size, s[k] = l.getD k 0 := fun h => byte_at hs k h
      have hp : pcAt l k = if k = 0 then isL (l.getD k 0) else isC (l.getD k 0) := by
        unfold pcAt; split
        · rename_i h; rw [h]
        · rfl
      generalize hc : l.getD k 0 = c at *
      have cl := fun w => letter_any c w
      have cd := fun w => digit_any c w
      have stop : pcAt l k = false → Hid (wordLen l = k) := fun h => wordLen_eq l k hk HA.out fun _ => h
      have next : pcAt l k = true → Hid (∀ i, i < k + 1 → pcAt l i = true) := fun h i hi => by
        by_cases e : i = k
        · rw [e]; exact h
        · exact HA.out i (by omega)
      cases hL : isL c with
      | true =>
        have hN := next (by rw [hp]; split <;> simp [hL, isC])
        rw [hL] at cl
        clear hp hL stop next HA
        go_wp2_with (first
          | (go_at_call 70; refine (cl _).mono ?_; rintro e w' ⟨rfl, rfl⟩)
          | (go_at_call 68; refine (cd _).mono ?_; rintro e w' ⟨rfl, rfl⟩))
        go_round
        case rel => exact ⟨k + 1, by omega, by go_num, hN.out⟩
        case measure => simp [intOf]; omega
      | false =>
        rw [hL] at cl
        by_cases h0 : k = 0
        · have hS := stop (by rw [hp, if_pos h0, hL])
          clear hp hL stop next HA hk0 hlt'
          subst h0
          have hlt0 : (0 : Int) < (l.length : Int) := by omega
          go_wp2_with (first
            | (go_at_call 70; refine (cl _).mono ?_; rintro e w' ⟨rfl, rfl⟩)
            | (go_at_call 68; refine (cd _).mono ?_; rintro e w' ⟨rfl, rfl⟩))
          go_ret
          exact ⟨by rw [hS.out]; rfl, rfl⟩
        · have h0' : (0 : Int) < (k : Int) := by omega
          cases hD : isD c with
          | true =>
            have hN := next (by rw [hp, if_neg h0]; simp [hD, isC])
            rw [hD] at cd
            clear hp hL hD stop next HA
            go_wp2_with (first
              | (go_at_call 70; refine (cl _).mono ?_; rintro e w' ⟨rfl, rfl⟩)
              | (go_at_call 68; refine (cd _).mono ?_; rintro e w' ⟨rfl, rfl⟩))
            go_round
            case rel => exact ⟨k + 1, by omega, by go_num, hN.out⟩
            case measure => simp [intOf]; omega
          | false =>
            rw [hD] at cd
            by_cases h95 : c.toNat = 95
            · have hN := next (by rw [hp, if_neg h0]; simp [isC, h95])
              have i95 : ((c.toNat : Int) == 95) = true := by simp; omega
              clear hp hL hD stop next HA h95
              go_wp2_with (first
                | (go_at_call 70; refine (cl _).mono ?_; rintro e w' ⟨rfl, rfl⟩)
                | (go_at_call 68; refine (cd _).mono ?_; rintro e w' ⟨rfl, rfl⟩))
              go_round
              case rel => exact ⟨k + 1, by omega, by go_num, hN.out⟩
              case measure => simp [intOf]; omega
            · have hS := stop (by rw [hp, if_neg h0]; simp [isC, h95, hL, hD])
              have i95 : ((c.toNat : Int) == 95) = false := by simp; omega
              clear hp hL hD stop next HA h95
              go_wp2_with (first
                | (go_at_call 70; refine (cl _).mono ?_; rintro e w' ⟨rfl, rfl⟩)
                | (go_at_call 68; refine (cd _).mono ?_; rintro e w' ⟨rfl, rfl⟩))
              go_ret
              exact ⟨by rw [hS.out]; rfl, rfl⟩
    · have hS : Hid (wordLen l = k) := wordLen_eq l k hk HA.out fun h => absurd h hlt
      have hlt' : ¬ (k : Int) < (l.length : Int) := by omega
      go_wp2
      go_ret
      exact ⟨by rw [hS.out]; rfl, rfl⟩
set_option maxRecDepth 10000 in
set_option maxHeartbeats 400000 in
theorem number_any (s : ByteArray) (l : List UInt8) (hs : s.data.toList = l) (hl : l.length ≤ 9223372036854775806) (w : World) :
    Calls Tryz.prog 69 #[.string s] w fun e w' => e = .returned (tokv (numT l)) ∧ Below w.heap.size w w' := by
  have hz : s.size = l.length := by rw [← hs, Lib.size_eq]
  have hb0 : Below w.heap.size w (w.alloc (.cells #[.int .i64 0, .int .i64 0, .int .i64 0, .string ⟨#[]⟩] 101)) := (Below.refl _ _).alloc (Nat.le_refl _) _
  go_enter Tryz.func69, Tryz.ntmps69
  go_wp2
  go_loop [5] (fun i => ∃ k : Nat, k ≤ l.length ∧ i = .int .i64 k ∧ ∀ i, i < k → isD (l.getD i 0) = true) (fun i => l.length - (intOf i).toNat)
  case atStart => exact ⟨0, by omega, rfl, fun i h => by omega⟩
  case round =>
    obtain ⟨k, hk, rfl, hall⟩ := hrel
    have HA : Hid (∀ i, i < k → isD (l.getD i 0) = true) := hall
    clear hall
    by_cases hgo : k < l.length ∧ isD (l.getD k 0) = true
    · obtain ⟨hlt, hD⟩ := hgo
      have hlt' : (k : Int) < (l.length : Int) := by omega
      have hk0 : (0 : Int) ≤ (k : Int) := by omega
      have g1 : ∀ h : k < s.size, s[k] = l.getD k 0 := fun h => byte_at hs k h
      have cd := fun w => digit_any (l.getD k 0) w
      rw [hD] at cd
      have HD : Hid (isD (l.getD k 0) = true) := hD
      clear hD
      generalize hc : l.getD k 0 = c at *
      go_wp2_with (go_at_call 68; refine (cd _).mono ?_; rintro e w' ⟨rfl, rfl⟩)
      go_round
      case rel =>
        refine ⟨k + 1, by omega, by go_num, fun i hi => ?_⟩
        by_cases e : i = k
        · rw [e, hc]; exact HD.out
        · exact HA.out i (by omega)
      case measure => simp [intOf]; omega
    · have hR : runOf isD l = k := runOf_eq isD l k hk HA.out fun h => by
        cases e : isD (l.getD k 0) with
        | false => rfl
        | true => exact absurd ⟨h, e⟩ hgo
      have HR : Hid (runOf isD l = k) := hR
      clear hR
      by_cases h6 : 6 < k
      · have h6' : (6 : Int) < (k : Int) := by omega
        have HT : Hid (numT l = bad 3) := by
          have := HR.out
          show numT l = bad 3
          unfold numT; rw [this, if_pos h6]
        by_cases hlt : k < l.length
        · have hlt' : (k : Int) < (l.length : Int) := by omega
          have hk0 : (0 : Int) ≤ (k : Int) := by omega
          have g1 : ∀ h : k < s.size, s[k] = l.getD k 0 := fun h => byte_at hs k h
          have hD : isD (l.getD k 0) = false := by
            cases e : isD (l.getD k 0) with
            | false => rfl
            | true => exact absurd ⟨hlt, e⟩ hgo
          have cd := fun w => digit_any (l.getD k 0) w
          rw [hD] at cd
          clear hD hgo
          generalize hc : l.getD k 0 = c at *
          go_wp2_with (go_at_call 68; refine (cd _).mono ?_; rintro e w' ⟨rfl, rfl⟩)
          exact tok_post rfl w.heap.size (bad 3) rfl rfl rfl rfl (heap_alloc_new w _) ⟨by rw [HT.out], hb0⟩
        · have hlt' : ¬ (k : Int) < (l.length : Int) := by omega
          clear hgo
          go_wp2
          exact tok_post rfl w.heap.size (bad 3) rfl rfl rfl rfl (heap_alloc_new w _) ⟨by rw [HT.out], hb0⟩
      · have h6' : ¬ (6 : Int) < (k : Int) := by omega
        have hle : (k : Int) ≤ (l.length : Int) := by omega
        have hk0 : (0 : Int) ≤ (k : Int) := by omega
        have HT : Hid (numT l = ⟨6, valL (l.take k), [], k, 0⟩) := by
          have := HR.out
          show numT l = _
          unfold numT; rw [this, if_neg h6]
        have cv := fun w => value_any (s.extract 0 k) (l.take k) (by rw [Lib.extract_data, hs]; simp) (by simp; omega) (fun i hi => by
          have hi' : i < k := by simp at hi; omega
          have := HA.out i hi'
          rw [List.getD_eq_getElem?_getD] at this ⊢
          rw [List.getElem?_take, if_pos hi']
          exact this) w
        generalize valL (l.take k) = v at *
        have hbx : Below w.heap.size w (w.alloc (.cells #[.int .i64 6, .int .i64 v, .int .i64 0, .string ⟨#[]⟩] 101)) := (Below.refl _ _).alloc (Nat.le_refl _) _
        by_cases hlt : k < l.length
        · have hlt' : (k : Int) < (l.length : Int) := by omega
          have g1 : ∀ h : k < s.size, s[k] = l.getD k 0 := fun h => byte_at hs k h
          have hD : isD (l.getD k 0) = false := by
            cases e : isD (l.getD k 0) with
            | false => rfl
            | true => exact absurd ⟨hlt, e⟩ hgo
          have cd := fun w => digit_any (l.getD k 0) w
          rw [hD] at cd
          clear hD hgo
          generalize hc : l.getD k 0 = c at *
          go_wp2_with (first
            | (go_at_call 68; refine (cd _).mono ?_; rintro e w' ⟨rfl, rfl⟩)
            | (go_at_call 85; refine (cv _).mono ?_; rintro e w' ⟨rfl, rfl⟩))
          exact tok_post rfl w.heap.size ⟨6, v, [], k, 0⟩ rfl rfl rfl rfl (heap_alloc_new w _) ⟨by rw [HT.out], hbx⟩
        · have hlt' : ¬ (k : Int) < (l.length : Int) := by omega
          clear hgo
          go_wp2_with (go_at_call 85; refine (cv _).mono ?_; rintro e w' ⟨rfl, rfl⟩)
          exact tok_post rfl w.heap.size ⟨6, v, [], k, 0⟩ rfl rfl rfl rfl (heap_alloc_new w _) ⟨by rw [HT.out], hbx⟩
end Go.Proofs.YtgfjbcdjpkcbkaaGreatDoor

/- More plain facts about texts: signs and words. -/
namespace Lx
def signsL : List UInt8 := [61, 59, 58, 43, 45, 38, 40, 41, 44]
theorem index_lt : ∀ (l : List UInt8) (c : UInt8), Go.Lib.indexByte l c < (l.length : Int)
  | [], c => by simp [Go.Lib.indexByte]
  | b :: l, c => by
    have ih := index_lt l c
    unfold Go.Lib.indexByte
    simp only [List.length_cons]
    split
    · omega
    · split <;> omega
theorem index_at : ∀ (l : List UInt8) (c : UInt8) (i : Nat), Go.Lib.indexByte l c = (i : Int) → l.getD i 0 = c
  | [], c, i, h => by simp [Go.Lib.indexByte] at h
  | b :: l, c, i, h => by
    unfold Go.Lib.indexByte at h
    split at h
    · rename_i hb
      have : i = 0 := by omega
      subst this
      simpa using hb
    · split at h
      · omega
      · have ge := Go.Lib.indexByte_ge l c
        rename_i hn
        have hn' : Go.Lib.indexByte l c ≠ -1 := by simpa using hn
        obtain ⟨j, hj⟩ : ∃ j : Nat, Go.Lib.indexByte l c = j := ⟨(Go.Lib.indexByte l c).toNat, by omega⟩
        have e : i = j + 1 := by omega
        subst e
        simpa using index_at l c j hj
def signT (l : List UInt8) : T1 := if Go.Lib.hasPrefix l [46, 46] then ⟨3, 0, [46, 46], 2, 0⟩ else if Go.Lib.indexByte signsL (l.getD 0 0) < 0 then bad 2 else ⟨3, 0, [l.getD 0 0], 1, 0⟩
theorem ba_of {s : ByteArray} {l : List UInt8} (h : s.data.toList = l) : s = ⟨l.toArray⟩ := by
  obtain ⟨d⟩ := s
  simp only at h
  subst h
  simp
def wordsL : List (List UInt8) := [[97, 108, 119, 97, 121, 115], [100, 97, 116, 101, 115], [102, 114, 105], [109, 111, 110], [110, 101, 118, 101, 114], [114, 117, 108, 101], [115, 97, 116], [115, 104, 105, 102, 116], [115, 117, 110], [116, 104, 117], [116, 117, 101], [119, 101, 100], [119, 101, 101, 107, 108, 121]]
def isWordL (t : List UInt8) : Bool := wordsL.any fun w => w == t
def wordT (l : List UInt8) : T1 := if 20 < wordLen l then bad 7 else ⟨if isWordL (l.take (wordLen l)) then 2 else 1, 0, l.take (wordLen l), wordLen l, 0⟩
end Lx

/- What lex.Words and lex.isWord come to. -/
namespace Go.Proofs.YtgfjbcdjpkcbkaaGreatDoor
open Go.RowKit Lx
def wordCells : Array Value := (wordsL.map fun l => Value.string ⟨l.toArray⟩).toArray
theorem wordCell (j : Nat) (hj : j < 13) : wordCells[j]? = some (.string ⟨(wordsL.getD j []).toArray⟩) := by
  have h : j < wordsL.length := hj
  unfold wordCells
  simp only [List.getElem?_toArray, List.getElem?_map, List.getD_eq_getElem?_getD, List.getElem?_eq_getElem h]
  rfl
set_option maxRecDepth 10000 in
set_option maxHeartbeats 400000 in
theorem words_any (w : World) : Calls Tryz.prog 79 #[] w fun e w' => e = .returned (.slice (some ⟨w.heap.size, 0, none⟩) 13 13) ∧ w' = w.alloc (.cells wordCells 9) := by
  go_enter Tryz.func79, Tryz.ntmps79
  go_wp2
  go_ret
  exact ⟨rfl, rfl⟩
theorem isWord_no {x : List UInt8} (h : ∀ j, j < 13 → wordsL.getD j [] ≠ x) : isWordL x = false := by
  cases e : isWordL x with
  | false => rfl
  | true =>
    unfold isWordL at e
    rw [List.any_eq_true] at e
    obtain ⟨y, hy, hx⟩ := e
    obtain ⟨j, hj, rfl⟩ := List.getElem_of_mem hy
    have hj' : j < 13 := hj
    exact absurd (by simpa [List.getD, hj] using hx) (h j hj')
theorem isWord_yes {x : List UInt8} (j : Nat) (hj : j < 13) (h : wordsL.getD j [] = x) : isWordL x = true := by
  unfold isWordL
  rw [List.any_eq_true]
  have hj' : j < wordsL.length := hj
  exact ⟨wordsL.getD j [], by simp [List.getD, hj'], by rw [h]; exact beq_self_eq_true x⟩
set_option maxRecDepth 10000 in
set_option maxHeartbeats 400000 in
theorem find_any (x : ByteArray) (l : List UInt8) (hx : x.data.toList = l) (g : Nat) (w : World) (hg : w.heap[g]? = some (.cells wordCells 9 (0, 0))) :
    Calls Tryz.prog 91 #[.slice (some ⟨g, 0, none⟩) 13 13, .string x] w fun e w' => (∃ i : Int, e = .returned (.int .i64 i) ∧ decide (0 ≤ i) = isWordL l) ∧ w' = w := by
  have hcell : ∀ j, j < 13 → w.cell? ⟨g, j, none⟩ = some (.string ⟨(wordsL.getD j []).toArray⟩) := fun j hj => by rw [cell_of_row _ _ _ _ _ _ hg, wordCell j hj]
  have HC : Hid (∀ j, j < 13 → w.cell? ⟨g, j, none⟩ = some (.string ⟨(wordsL.getD j []).toArray⟩)) := hcell
  clear hcell hg
  go_enter Tryz.func91, Tryz.ntmps91
  go_wp2
  go_loop [8] (fun i => ∃ k : Nat, k ≤ 13 ∧ i = .int .i64 k ∧ ∀ j, j < k → wordsL.getD j [] ≠ l) (fun i => 13 - (intOf i).toNat)
  case atStart => exact ⟨0, by omega, rfl, fun i h => by omega⟩
  case round =>
    obtain ⟨k, hk, rfl, hall⟩ := hrel
    have HA : Hid (∀ j, j < k → wordsL.getD j [] ≠ l) := hall
    clear hall
    by_cases hlt : k < 13
    · have hlt' : (k : Int) < 13 := by omega
      have hk0 : (0 : Int) ≤ (k : Int) := by omega
      have ck := HC.out k hlt
      generalize hy : (⟨(wordsL.getD k []).toArray⟩ : ByteArray) = y at ck
      have hyl : y.data.toList = wordsL.getD k [] := by rw [← hy]
      by_cases he : wordsL.getD k [] = l
      · have hq : (x.toList == y.toList) = true := by rw [Lib.toList_data, Lib.toList_data, hyl, hx, he]; simp
        have hW : Hid (isWordL l = true) := isWord_yes k hlt he
        clear he hyl hy
        go_wp2
        go_ret
        exact ⟨⟨_, rfl, by rw [hW.out]; simp⟩, rfl⟩
      · have hq : (x.toList == y.toList) = false := by
          rw [Lib.toList_data, Lib.toList_data, hyl, hx]
          rw [beq_eq_false_iff_ne]
          exact fun e => he e.symm
        have HE : Hid (wordsL.getD k [] ≠ l) := he
        clear he hyl hy
        go_wp2
        go_round
        case rel =>
          refine ⟨k + 1, by omega, by go_num, fun j hj => ?_⟩
          by_cases e : j = k
          · subst e; exact HE.out
          · exact HA.out j (by omega)
        case measure => simp [intOf]; omega
    · have hkl : k = 13 := by omega
      subst hkl
      have hW : Hid (isWordL l = false) := isWord_no HA.out
      go_wp2
      go_ret
      exact ⟨⟨_, rfl, by rw [hW.out]; simp⟩, rfl⟩
set_option maxRecDepth 10000 in
set_option maxHeartbeats 400000 in
theorem isWord_any (x : ByteArray) (l : List UInt8) (hx : x.data.toList = l) (w : World) :
    Calls Tryz.prog 57 #[.string x] w fun e w' => e = .returned (.bool (isWordL l)) ∧ Below w.heap.size w w' := by
  have hg : (w.alloc (.cells wordCells 9)).heap[w.heap.size]? = some (.cells wordCells 9 (0, 0)) := heap_alloc_new w _
  have hb : Below w.heap.size w (w.alloc (.cells wordCells 9)) := (Below.refl _ _).alloc (Nat.le_refl _) _
  have cf := find_any x l hx _ _ hg
  have cw := words_any w
  generalize w.alloc (.cells wordCells 9) = w1 at *
  go_enter Tryz.func57, Tryz.ntmps57
  go_wp2_with (first
    | (go_at_call 79; refine cw.mono ?_; rintro e w' ⟨rfl, rfl⟩)
    | (go_at_call 78; go_in)
    | (go_at_call 91; refine cf.mono ?_; rintro e w' ⟨⟨i, rfl, hi⟩, rfl⟩))
  go_ret
  exact ⟨by rw [← hi]; rfl, hb⟩
end Go.Proofs.YtgfjbcdjpkcbkaaGreatDoor

/- Plain mathematics of years, months and days of 2000 to 2399: no program in sight. -/
namespace Go.Proofs.YtgfjbcdjpkcbkaaGreatDoor.Cal
def lpB (y : Int) : Bool := decide (y % 4 = 0 ∧ (¬ y % 100 = 0 ∨ y % 400 = 0))
def lp (y : Int) : Int := if y % 4 = 0 ∧ (¬ y % 100 = 0 ∨ y % 400 = 0) then 1 else 0
def dim (y m : Int) : Int :=
  if y < 2000 ∨ 2399 < y ∨ m < 1 ∨ 12 < m then 0
  else if m = 2 then 28 + lp y
  else if m = 4 ∨ m = 6 ∨ m = 9 ∨ m = 11 then 30 else 31
def cum (y m : Int) : Int :=
  if m ≤ 1 then 0 else if m = 2 then 31 else if m = 3 then 59 + lp y else if m = 4 then 90 + lp y
  else if m = 5 then 120 + lp y else if m = 6 then 151 + lp y else if m = 7 then 181 + lp y
  else if m = 8 then 212 + lp y else if m = 9 then 243 + lp y else if m = 10 then 273 + lp y
  else if m = 11 then 304 + lp y else if m = 12 then 334 + lp y else 365 + lp y
def ys (y : Int) : Int := 365 * (y - 2000) + ((y - 2000 + 3) / 4 - (y - 2000 + 99) / 100 + (y - 2000 + 399) / 400)
theorem lp_01 (y : Int) : 0 ≤ lp y ∧ lp y ≤ 1 := by unfold lp; split <;> omega
theorem lp_of (y : Int) : lp y = if lpB y = true then 1 else 0 := by unfold lp lpB; simp
theorem dim_31 (y m : Int) : 0 ≤ dim y m ∧ dim y m ≤ 31 := by
  have := lp_01 y
  unfold dim; split
  · omega
  · split
    · omega
    · split <;> omega
theorem dim_out (y m : Int) (h : y < 2000 ∨ 2399 < y ∨ m < 1 ∨ 12 < m) : dim y m = 0 := by unfold dim; rw [if_pos h]
theorem dim_pos (y m : Int) (h : 1 ≤ dim y m) : 2000 ≤ y ∧ y ≤ 2399 ∧ 1 ≤ m ∧ m ≤ 12 := by
  by_cases g : y < 2000 ∨ 2399 < y ∨ m < 1 ∨ 12 < m
  · rw [dim_out y m g] at h; omega
  · omega
theorem cum_13 (y : Int) : cum y 13 = 365 + lp y := rfl
theorem cum_succ (y m : Int) (a : 2000 ≤ y) (b : y ≤ 2399) (c : 1 ≤ m) (d : m ≤ 12) : cum y (m + 1) = cum y m + dim y m := by
  have h : m = 1 ∨ m = 2 ∨ m = 3 ∨ m = 4 ∨ m = 5 ∨ m = 6 ∨ m = 7 ∨ m = 8 ∨ m = 9 ∨ m = 10 ∨ m = 11 ∨ m = 12 := by omega
  unfold dim
  rw [if_neg (by omega)]
  rcases h with rfl | rfl | rfl | rfl | rfl | rfl | rfl | rfl | rfl | rfl | rfl | rfl <;> simp [cum] <;> omega
theorem cum_bd (y m : Int) (c : 1 ≤ m) (d : m ≤ 13) : 0 ≤ cum y m ∧ cum y m ≤ 366 := by
  have := lp_01 y
  have h : m = 1 ∨ m = 2 ∨ m = 3 ∨ m = 4 ∨ m = 5 ∨ m = 6 ∨ m = 7 ∨ m = 8 ∨ m = 9 ∨ m = 10 ∨ m = 11 ∨ m = 12 ∨ m = 13 := by omega
  rcases h with rfl | rfl | rfl | rfl | rfl | rfl | rfl | rfl | rfl | rfl | rfl | rfl | rfl <;> simp [cum] <;> omega
theorem cum_mono (y m k : Int) (c : 1 ≤ m) (d : m < k) (e : k ≤ 13) (a : 2000 ≤ y) (b : y ≤ 2399) : cum y m + dim y m ≤ cum y k := by
  rw [← cum_succ y m a b c (by omega)]
  have := lp_01 y
  have h : m = 1 ∨ m = 2 ∨ m = 3 ∨ m = 4 ∨ m = 5 ∨ m = 6 ∨ m = 7 ∨ m = 8 ∨ m = 9 ∨ m = 10 ∨ m = 11 ∨ m = 12 := by omega
  have g : k = 2 ∨ k = 3 ∨ k = 4 ∨ k = 5 ∨ k = 6 ∨ k = 7 ∨ k = 8 ∨ k = 9 ∨ k = 10 ∨ k = 11 ∨ k = 12 ∨ k = 13 := by omega
  rcases h with rfl | rfl | rfl | rfl | rfl | rfl | rfl | rfl | rfl | rfl | rfl | rfl <;>
    rcases g with rfl | rfl | rfl | rfl | rfl | rfl | rfl | rfl | rfl | rfl | rfl | rfl <;> first | omega | (simp [cum] <;> omega)
theorem ys_2000 : ys 2000 = 0 := by decide
theorem ys_2400 : ys 2400 = 146097 := by decide
theorem ys_succ (y : Int) : ys (y + 1) = ys y + 365 + lp y := by unfold ys lp; split <;> omega
theorem ys_mono (a b : Int) (h : a ≤ b) : ys a ≤ ys b := by unfold ys; omega
theorem ys_bd (y : Int) (a : 2000 ≤ y) (b : y ≤ 2400) : 0 ≤ ys y ∧ ys y ≤ 146097 := by
  have h1 := ys_mono _ _ a
  have h2 := ys_mono _ _ b
  rw [ys_2000] at h1; rw [ys_2400] at h2; exact ⟨h1, h2⟩
def num (y m d : Int) : Int := ys y + cum y m + d - 1
theorem num_bd (y m d : Int) (h : 1 ≤ d) (g : d ≤ dim y m) : 0 ≤ num y m d ∧ num y m d < 146097 ∧ ys y ≤ num y m d ∧ num y m d < ys (y + 1) := by
  obtain ⟨a, b, c, e⟩ := dim_pos y m (by omega)
  have h1 := ys_bd y a (by omega)
  have h2 := ys_bd (y + 1) (by omega) (by omega)
  have h3 := ys_succ y
  have h4 := cum_succ y m a b c e
  have h5 := cum_bd y m c (by omega)
  have h6 : cum y (m + 1) ≤ 365 + lp y := by
    by_cases h : m = 12
    · subst h; exact Int.le_of_eq rfl
    · have := cum_mono y (m + 1) 13 (by omega) (by omega) (by omega) a b
      rw [cum_13] at this
      have := dim_31 y (m + 1)
      omega
  unfold num
  omega
end Go.Proofs.YtgfjbcdjpkcbkaaGreatDoor.Cal

/- What each function of package civil comes to, said of the plain functions of Cal. -/
namespace Go.Proofs.YtgfjbcdjpkcbkaaGreatDoor
open Go.RowKit
def tab : List Int := [31, 28, 31, 30, 31, 30, 31, 31, 30, 31, 30, 31]
def CTab (w : World) : Prop := ∀ i : Nat, i < 12 → w.cell? ⟨0, i, none⟩ = some (.int .i64 (tab.getD i 0))
set_option maxHeartbeats 400000 in
theorem leap_any (y : Int) (w : World) (h0 : 0 ≤ y) (h1 : y ≤ 9223372036854775807) :
    Calls Tryz.prog 101 #[.int .i64 y] w fun e w' => e = .returned (.bool (Cal.lpB y)) ∧ w' = w := by
  by_cases h4 : y % 4 = 0
  · by_cases h100 : y % 100 = 0
    · by_cases h400 : y % 400 = 0
      · have e : Cal.lpB y = true := by unfold Cal.lpB; exact decide_eq_true ⟨h4, .inr h400⟩
        rw [e]
        have a4 : (y % 4 == 0) = true := by simp [h4]
        have a1 : (y % 100 != 0) = false := by simp [h100]
        have a2 : (y % 400 == 0) = true := by simp [h400]
        clear e h4 h100 h400
        go_enter Tryz.func101, Tryz.ntmps101
        go_wp2
        go_ret
        exact ⟨rfl, rfl⟩
      · have e : Cal.lpB y = false := by unfold Cal.lpB; exact decide_eq_false (fun h => by omega)
        rw [e]
        have a4 : (y % 4 == 0) = true := by simp [h4]
        have a1 : (y % 100 != 0) = false := by simp [h100]
        have a2 : (y % 400 == 0) = false := by simp [h400]
        clear e h4 h100 h400
        go_enter Tryz.func101, Tryz.ntmps101
        go_wp2
        go_ret
        exact ⟨rfl, rfl⟩
    · have e : Cal.lpB y = true := by unfold Cal.lpB; exact decide_eq_true ⟨h4, .inl h100⟩
      rw [e]
      have a4 : (y % 4 == 0) = true := by simp [h4]
      have a1 : (y % 100 != 0) = true := by simp [h100]
      clear e h4 h100
      go_enter Tryz.func101, Tryz.ntmps101
      go_wp2
      go_ret
      exact ⟨rfl, rfl⟩
  · have e : Cal.lpB y = false := by unfold Cal.lpB; exact decide_eq_false (fun h => h4 h.1)
    rw [e]
    have a4 : (y % 4 == 0) = false := by simp [h4]
    clear e h4
    go_enter Tryz.func101, Tryz.ntmps101
    go_wp2
    go_ret
    exact ⟨rfl, rfl⟩
set_option maxHeartbeats 400000 in
theorem length_out (y m : Int) (w : World) (h : y < 2000 ∨ 2399 < y ∨ m < 1 ∨ 12 < m) :
    Calls Tryz.prog 93 #[.int .i64 y, .int .i64 m] w fun e w' => e = .returned (.int .i64 0) ∧ w' = w := by
  by_cases a : y < 2000
  · go_enter Tryz.func93, Tryz.ntmps93
    go_wp2
    go_ret
    exact ⟨rfl, rfl⟩
  · by_cases b : 2399 < y
    · go_enter Tryz.func93, Tryz.ntmps93
      go_wp2
      go_ret
      exact ⟨rfl, rfl⟩
    · by_cases c : m < 1
      · go_enter Tryz.func93, Tryz.ntmps93
        go_wp2
        go_ret
        exact ⟨rfl, rfl⟩
      · have d : 12 < m := by omega
        go_enter Tryz.func93, Tryz.ntmps93
        go_wp2
        go_ret
        exact ⟨rfl, rfl⟩
set_option maxHeartbeats 400000 in
theorem length_two (y : Int) (w : World) (a : 2000 ≤ y) (b : y ≤ 2399) (hc : w.cell? ⟨0, 1, none⟩ = some (.int .i64 28)) :
    Calls Tryz.prog 93 #[.int .i64 y, .int .i64 2] w fun e w' => e = .returned (.int .i64 (28 + Cal.lp y)) ∧ w' = w := by
  have hl := Cal.lp_of y
  cases hb : Cal.lpB y
  · rw [hb] at hl
    simp at hl
    rw [hl]
    clear hl
    go_enter Tryz.func93, Tryz.ntmps93
    go_wp2_with (go_at_call 101; refine (leap_any _ _ (by omega) (by omega)).mono ?_; rw [hb]; rintro e w' ⟨rfl, rfl⟩)
    go_ret
    exact ⟨rfl, rfl⟩
  · rw [hb] at hl
    simp at hl
    rw [hl]
    clear hl
    go_enter Tryz.func93, Tryz.ntmps93
    go_wp2_with (go_at_call 101; refine (leap_any _ _ (by omega) (by omega)).mono ?_; rw [hb]; rintro e w' ⟨rfl, rfl⟩)
    go_ret
    exact ⟨rfl, rfl⟩
set_option maxHeartbeats 1000000 in
theorem length_in (y m : Int) (w : World) (hT : CTab w) (a : 2000 ≤ y) (b : y ≤ 2399) (c : 1 ≤ m) (d : m ≤ 12) :
    Calls Tryz.prog 93 #[.int .i64 y, .int .i64 m] w fun e w' => e = .returned (.int .i64 (Cal.dim y m)) ∧ w' = w := by
  have h : m = 1 ∨ m = 2 ∨ m = 3 ∨ m = 4 ∨ m = 5 ∨ m = 6 ∨ m = 7 ∨ m = 8 ∨ m = 9 ∨ m = 10 ∨ m = 11 ∨ m = 12 := by omega
  have e : Cal.dim y m = if m = 2 then 28 + Cal.lp y else if m = 4 ∨ m = 6 ∨ m = 9 ∨ m = 11 then 30 else 31 := by unfold Cal.dim; rw [if_neg (by omega)]
  rw [e]
  clear e
  rcases h with rfl | h
  · have hc := hT 0 (by decide)
    simp [tab] at hc
    rw [if_neg (by decide), if_neg (by decide)]
    clear hT
    go_enter Tryz.func93, Tryz.ntmps93
    go_wp2
    go_ret
    exact ⟨rfl, rfl⟩
  rcases h with rfl | h
  · have hc := hT 1 (by decide)
    simp [tab] at hc
    exact length_two y w a b hc
  rcases h with rfl | h
  · have hc := hT 2 (by decide)
    simp [tab] at hc
    rw [if_neg (by decide), if_neg (by decide)]
    clear hT
    go_enter Tryz.func93, Tryz.ntmps93
    go_wp2
    go_ret
    exact ⟨rfl, rfl⟩
  rcases h with rfl | h
  · have hc := hT 3 (by decide)
    simp [tab] at hc
    rw [if_neg (by decide), if_pos (by decide)]
    clear hT
    go_enter Tryz.func93, Tryz.ntmps93
    go_wp2
    go_ret
    exact ⟨rfl, rfl⟩
  rcases h with rfl | h
  · have hc := hT 4 (by decide)
    simp [tab] at hc
    rw [if_neg (by decide), if_neg (by decide)]
    clear hT
    go_enter Tryz.func93, Tryz.ntmps93
    go_wp2
    go_ret
    exact ⟨rfl, rfl⟩
  rcases h with rfl | h
  · have hc := hT 5 (by decide)
    simp [tab] at hc
    rw [if_neg (by decide), if_pos (by decide)]
    clear hT
    go_enter Tryz.func93, Tryz.ntmps93
    go_wp2
    go_ret
    exact ⟨rfl, rfl⟩
  rcases h with rfl | h
  · have hc := hT 6 (by decide)
    simp [tab] at hc
    rw [if_neg (by decide), if_neg (by decide)]
    clear hT
    go_enter Tryz.func93, Tryz.ntmps93
    go_wp2
    go_ret
    exact ⟨rfl, rfl⟩
  rcases h with rfl | h
  · have hc := hT 7 (by decide)
    simp [tab] at hc
    rw [if_neg (by decide), if_neg (by decide)]
    clear hT
    go_enter Tryz.func93, Tryz.ntmps93
    go_wp2
    go_ret
    exact ⟨rfl, rfl⟩
  rcases h with rfl | h
  · have hc := hT 8 (by decide)
    simp [tab] at hc
    rw [if_neg (by decide), if_pos (by decide)]
    clear hT
    go_enter Tryz.func93, Tryz.ntmps93
    go_wp2
    go_ret
    exact ⟨rfl, rfl⟩
  rcases h with rfl | h
  · have hc := hT 9 (by decide)
    simp [tab] at hc
    rw [if_neg (by decide), if_neg (by decide)]
    clear hT
    go_enter Tryz.func93, Tryz.ntmps93
    go_wp2
    go_ret
    exact ⟨rfl, rfl⟩
  rcases h with rfl | h
  · have hc := hT 10 (by decide)
    simp [tab] at hc
    rw [if_neg (by decide), if_pos (by decide)]
    clear hT
    go_enter Tryz.func93, Tryz.ntmps93
    go_wp2
    go_ret
    exact ⟨rfl, rfl⟩
  subst h
  have hc := hT 11 (by decide)
  simp [tab] at hc
  rw [if_neg (by decide), if_neg (by decide)]
  clear hT
  go_enter Tryz.func93, Tryz.ntmps93
  go_wp2
  go_ret
  exact ⟨rfl, rfl⟩
theorem length_any (y m : Int) (w : World) (hT : CTab w) :
    Calls Tryz.prog 93 #[.int .i64 y, .int .i64 m] w fun e w' => e = .returned (.int .i64 (Cal.dim y m)) ∧ w' = w := by
  by_cases h : y < 2000 ∨ 2399 < y ∨ m < 1 ∨ 12 < m
  · rw [Cal.dim_out y m h]; exact length_out y m w h
  · exact length_in y m w hT (by omega) (by omega) (by omega) (by omega)
set_option maxHeartbeats 400000 in
theorem ys_any (y : Int) (w : World) (a : 2000 ≤ y) (b : y ≤ 2400) :
    Calls Tryz.prog 94 #[.int .i64 y] w fun e w' => e = .returned (.int .i64 (Cal.ys y)) ∧ w' = w := by
  unfold Cal.ys
  go_enter Tryz.func94, Tryz.ntmps94
  go_wp2
  go_ret
  exact ⟨rfl, rfl⟩
set_option maxHeartbeats 400000 in
theorem cum_any (y m : Int) (w : World) (hT : CTab w) (a : 2000 ≤ y) (b : y ≤ 2399) (c : 1 ≤ m) (d : m ≤ 13) :
    Calls Tryz.prog 95 #[.int .i64 y, .int .i64 m] w fun e w' => e = .returned (.int .i64 (Cal.cum y m)) ∧ w' = w := by
  have H : Hid (CTab w) := hT
  clear hT
  go_enter Tryz.func95, Tryz.ntmps95
  go_wp2
  go_loop [5, 6] (fun t i => ∃ k : Int, 1 ≤ k ∧ k ≤ m ∧ i = .int .i64 k ∧ t = .int .i64 (Cal.cum y k)) (fun _ i => (13 - intOf i).toNat)
  case atStart => exact ⟨1, by omega, by omega, rfl, rfl⟩
  case round =>
    obtain ⟨k, hk1, hk2, rfl, rfl⟩ := hrel
    have cb := Cal.cum_bd y k hk1 (by omega)
    have db := Cal.dim_31 y k
    by_cases hlt : k < m
    · have cs : Hid (Cal.cum y (k + 1) = Cal.cum y k + Cal.dim y k) := Cal.cum_succ y k a b hk1 (by omega)
      go_wp2_with (go_at_call 93; refine (length_any _ _ _ H.out).mono ?_; rintro e w' ⟨rfl, rfl⟩)
      go_round
      case rel => exact ⟨k + 1, by omega, by omega, rfl, by rw [cs.out]⟩
      case measure => simp [intOf]; omega
    · have e : k = m := by omega
      subst e
      go_wp2
      go_ret
      exact ⟨rfl, rfl⟩
end Go.Proofs.YtgfjbcdjpkcbkaaGreatDoor

/- What Number, Of, Week and the smaller functions beside them come to. -/
namespace Go.Proofs.YtgfjbcdjpkcbkaaGreatDoor
open Go.RowKit
theorem CTab.below {w w' : World} (h : CTab w) (hb : Below w.heap.size w w') : CTab w' := fun i hi => cell_later hb (h i hi)
theorem CTab.alloc {w : World} (h : CTab w) (o : Obj) : CTab (w.alloc o) := h.below ((Below.refl _ _).alloc (Nat.le_refl _) o)
theorem CTab.drew {w : World} (h : CTab w) : CTab w.drew := fun i hi => h i hi
set_option maxHeartbeats 400000 in
theorem number_yes (y m d : Int) (w : World) (hT : CTab w) (a : 1 ≤ d) (b : d ≤ Cal.dim y m) :
    Calls Tryz.prog 84 #[.agg #[.int .i64 y, .int .i64 m, .int .i64 d]] w fun e w' => e = .returned (.tuple #[.int .i64 (Cal.num y m d), .int .i64 0]) ∧ Below w.heap.size w w' := by
  have H : Hid (CTab w) := hT
  clear hT
  obtain ⟨r1, r2, r3, r4⟩ := Cal.dim_pos y m (by omega)
  have d31 := Cal.dim_31 y m
  have yb := Cal.ys_bd y r1 (by omega)
  have cb := Cal.cum_bd y m r3 (by omega)
  have n1 : decide (d < 1) = false := by simp; omega
  have n2 : decide (Cal.dim y m < d) = false := by simp; omega
  go_enter Tryz.func84, Tryz.ntmps84
  go_wp2
  go_quiet ((go_at_call 93; exact Calls.quiet_of_same (length_any _ _ _ (H.out.alloc _))))
  go_wp2
  generalize hw : (w.alloc (.cells #[.int .i64 y, .int .i64 m, .int .i64 d] 124)).drewN nq = w1
  have c0 : w1.cell? ⟨w.heap.size, 0, none⟩ = some (.int .i64 y) := by rw [← hw]; simp
  have c1 : w1.cell? ⟨w.heap.size, 1, none⟩ = some (.int .i64 m) := by rw [← hw]; simp
  have c2 : w1.cell? ⟨w.heap.size, 2, none⟩ = some (.int .i64 d) := by rw [← hw]; simp
  have hb : Below w.heap.size w w1 := by rw [← hw]; exact below_drewN ((Below.refl _ _).alloc (Nat.le_refl _) _) _
  have H1 : Hid (CTab w1) := H.out.below hb
  clear hw H
  go_quiet ((first | (go_at_call 94; exact Calls.quiet_of_same (ys_any y _ r1 (by omega))) | (go_at_call 95; exact Calls.quiet_of_same (cum_any y m _ H1.out r1 r2 r3 (by omega)))))
  go_wp2
  go_ret2
  exact ⟨rfl, below_drewN hb _⟩
set_option maxHeartbeats 400000 in
theorem number_no (y m d : Int) (w : World) (hT : CTab w) (a : d < 1 ∨ Cal.dim y m < d) :
    Calls Tryz.prog 84 #[.agg #[.int .i64 y, .int .i64 m, .int .i64 d]] w fun e w' => e = .returned (.tuple #[.int .i64 0, .int .i64 3]) ∧ Below w.heap.size w w' := by
  have H : Hid (CTab w) := hT
  clear hT
  by_cases a1 : d < 1
  · have n1 : decide (d < 1) = true := by simp; omega
    clear a
    go_enter Tryz.func84, Tryz.ntmps84
    go_wp2
    go_quiet (fail)
    go_wp2
    go_ret2
    exact ⟨rfl, below_drewN ((Below.refl _ _).alloc (Nat.le_refl _) _) _⟩
  · have n1 : decide (d < 1) = false := by simp; omega
    have n2 : decide (Cal.dim y m < d) = true := by simp; omega
    clear a
    go_enter Tryz.func84, Tryz.ntmps84
    go_wp2
    go_quiet ((go_at_call 93; exact Calls.quiet_of_same (length_any _ _ _ (H.out.alloc _))))
    go_wp2
    go_ret2
    exact ⟨rfl, below_drewN ((Below.refl _ _).alloc (Nat.le_refl _) _) _⟩
end Go.Proofs.YtgfjbcdjpkcbkaaGreatDoor

/- A region that draws its order and makes memory: what each operation yields is said by a predicate that later operations keep; then whatever order is drawn, all that is said holds at the end. It speaks of no program. -/
namespace Go.Proofs.YtgfjbcdjpkcbkaaGreatDoor
open Go
def uc : List Bool → Nat
  | [] => 0
  | b :: l => (if b then 0 else 1) + uc l
theorem uc_set : ∀ (l : List Bool) (i : Nat), l[i]? = some false → uc (l.set i true) + 1 = uc l
  | [], i, h => by simp at h
  | b :: l, 0, h => by
    simp at h; subst h
    simp [uc]; omega
  | b :: l, i + 1, h => by
    have := uc_set l i (by simpa using h)
    simp only [List.set_cons_succ, uc]
    omega
theorem uc_zero : ∀ (l : List Bool), uc l = 0 → ∀ i : Nat, l[i]? ≠ some false
  | [], _, i => by simp
  | b :: l, h, 0 => by
    cases b
    · simp [uc] at h
    · simp
  | b :: l, h, i + 1 => by
    have : uc l = 0 := by simp only [uc] at h; omega
    simpa using uc_zero l this i
theorem uc_rep : ∀ n, uc (List.replicate n false) = n
  | 0 => rfl
  | n + 1 => by simp only [List.replicate_succ, uc, uc_rep n]; simp; omega
section
variable {P : Program} {ops : Array Oper} {Q : Exit → Act → World → Prop}
theorem ready_false {listed : Array Bool} {i : Nat} (h : i ∈ Region.ready .any ops listed) : listed.toList[i]? = some false := by
  have := (mem_ready.1 h).1
  by_cases hi : i < listed.size
  · simp [Array.getD, hi] at this
    simp [hi, this]
  · simp [Array.getD, hi] at this
theorem wpAny_inv (I : Array Bool → Act → World → Prop) (hstep : ∀ listed a w i, I listed a w → i ∈ Region.ready .any ops listed → wpOp P ops Q i (fun a' w' => I (listed.setIfInBounds i true) a' w') a w)
    (hend : ∀ listed a w, I listed a w → Region.ready .any ops listed = [] → Q .normal a w) :
    ∀ (fuel : Nat) (listed : Array Bool) (a : Act) (w : World), uc listed.toList ≤ fuel → I listed a w → wpAny P .any ops Q fuel listed a w
  | 0, listed, a, w, hu, h => by
    have hr : Region.ready .any ops listed = [] := by
      cases hr : Region.ready .any ops listed with
      | nil => rfl
      | cons i l =>
        have h1 := ready_false (ops := ops) (listed := listed) (i := i) (by rw [hr]; simp)
        exact absurd h1 (uc_zero _ (by omega) i)
    exact ⟨hr, hend _ _ _ h hr⟩
  | fuel + 1, listed, a, w, hu, h => by
    refine ⟨fun hr => hend _ _ _ h hr, fun i hi => ?_⟩
    have h1 := ready_false hi
    have h2 := uc_set _ i h1
    refine wpOp_mono (fun a' w' h' => ?_) (hstep listed a w i h hi)
    refine wpAny_inv I hstep hend fuel _ a' w' ?_ h'
    rw [Array.toList_setIfInBounds]
    omega
def backB (ops : Array Oper) : Bool := (List.range ops.size).all fun i => match ops[i]? with | none => true | some o => o.after.all fun e => !Region.binds .any e || decide (e.on < i)
theorem ready_nil (hB : backB ops = true) {listed : Array Bool} (hr : Region.ready .any ops listed = []) : ∀ i, i < ops.size → listed.getD i true = true := by
  intro i
  induction i using Nat.strongRecOn with
  | ind i ih =>
    intro hi
    cases hb : listed.getD i true with
    | true => rfl
    | false =>
      exfalso
      have ho : ops[i]? = some ops[i] := by simp [hi]
      have hm : i ∈ Region.ready .any ops listed := mem_ready.2 ⟨hb, ops[i], ho, fun e he hbd => by
        have h1 := List.all_eq_true.1 hB i (by simpa using hi)
        rw [ho] at h1
        have h2 := Array.all_eq_true'.1 h1 e he
        have h3 : e.on < i := by rw [hbd] at h2; simpa using h2
        have h4 := ih e.on h3 (by omega)
        by_cases hs : e.on < listed.size
        · simp [Array.getD, hs] at h4 ⊢; exact h4
        · exfalso
          have h5 : i < listed.size := by
            by_cases h6 : i < listed.size
            · exact h6
            · simp [Array.getD, h6] at hb
          omega⟩
      rw [hr] at hm
      cases hm
def dstB (ops : Array Oper) : Bool := (List.range ops.size).all fun i => (List.range ops.size).all fun j => i == j || (match (ops[i]?).bind (·.dst), (ops[j]?).bind (·.dst) with | some s, some t => s != t | _, _ => true)
def inB (ops : Array Oper) (n : Nat) : Bool := (List.range ops.size).all fun i => (match (ops[i]?).bind (·.dst) with | some s => decide (s < n) | none => true)
structure St (ops : Array Oper) (sp : Nat → Value → World → Prop) (a0 : Act) (listed : Array Bool) (a : Act) (w : World) : Prop where
  defs : a.defers = a0.defers
  size : a.tmps.size = a0.tmps.size
  kept : ∀ s, (∀ i o, ops[i]? = some o → listed.getD i true = true → o.dst ≠ some s) → a.tmps.getD s undef = a0.tmps.getD s undef
  has : ∀ i o, ops[i]? = some o → listed.getD i true = true → ∀ s, o.dst = some s → sp i (a.tmps.getD s undef) w
theorem getD_set_same (t : Array Value) (s : Nat) (v : Value) (h : s < t.size) : (t.setIfInBounds s v).getD s undef = v := by simp [Array.getD, h]
theorem getD_set_other (t : Array Value) (s s' : Nat) (v : Value) (h : s ≠ s') : (t.setIfInBounds s v).getD s' undef = t.getD s' undef := by
  by_cases hs : s' < t.size
  · simp [Array.getD, hs, h]
  · simp [Array.getD, hs]
theorem getD_listed (l : Array Bool) (i j : Nat) : (l.setIfInBounds i true).getD j true = (decide (i = j) || l.getD j true) := by
  by_cases hj : j < l.size
  · by_cases hij : i = j
    · subst hij; simp [Array.getD, hj]
    · simp [Array.getD, hj, hij]
  · simp [Array.getD, hj]
def notDst (ops : Array Oper) (s : Nat) : Bool := ops.all fun o => o.dst != some s
theorem nd {s : Nat} (h : notDst ops s = true) (j : Nat) (p : Oper) (hp : ops[j]? = some p) : p.dst ≠ some s := by
  have := Array.all_eq_true'.1 h p (Array.mem_of_getElem? hp)
  simpa using this
theorem wp_region_flow {id : Nat} {a0 : Act} {w : World} (hm : P.follows .mixedOrders = true) (hback : backB ops = true) (hdst : dstB ops = true) (hin : inB ops a0.tmps.size = true)
    (J : (Nat → Bool) → Act → World → Prop) (sp : Nat → Value → World → Prop)
    (hJ : ∀ L : Nat → Bool, (∀ i, i < ops.size → L i = false) → J L a0 { w with drawn := w.drawn + 1 })
    (hstep : ∀ (i : Nat) (o : Oper) (L : Nat → Bool) (a : Act) (W : World), ops[i]? = some o → L i = false → (∀ e ∈ o.after, Region.binds .any e = true → L e.on = true) → J L a W →
      a.defers = a0.defers → (∀ s, (∀ (j : Nat) (p : Oper), ops[j]? = some p → L j = true → p.dst ≠ some s) → a.tmps.getD s undef = a0.tmps.getD s undef) → (∀ (j : Nat) (p : Oper), ops[j]? = some p → L j = true → ∀ s, p.dst = some s → sp j (a.tmps.getD s undef) W) →
      wpOp P ops Q i (fun a' W' => ∃ v, a' = a.put o.dst v ∧ (o.dst ≠ none → sp i v W') ∧ (∀ j u, L j = true → sp j u W → sp j u W') ∧ J (fun k => decide (i = k) || L k) a' W') a W)
    (hend : ∀ (L : Nat → Bool) (a : Act) (W : World), (∀ i, i < ops.size → L i = true) → J L a W → a.defers = a0.defers → a.tmps.size = a0.tmps.size → (∀ s, (∀ (j : Nat) (p : Oper), ops[j]? = some p → p.dst ≠ some s) → a.tmps.getD s undef = a0.tmps.getD s undef) →
      (∀ (j : Nat) (p : Oper), ops[j]? = some p → ∀ s, p.dst = some s → sp j (a.tmps.getD s undef) W) → Q .normal a W) : (Code.region id ops true).wp P Q a0 w := by
  refine wp_region_any hm (wpAny_inv (fun listed a W => listed.size = ops.size ∧ J (fun i => listed.getD i true) a W ∧ St ops sp a0 listed a W) ?_ ?_ _ _ _ _ ?_ ?_)
  · rintro listed a W i ⟨hs, hj, st⟩ hi
    obtain ⟨hf, o, ho, hall⟩ := mem_ready.1 hi
    have hL : ∀ e ∈ o.after, Region.binds .any e = true → listed.getD e.on true = true := fun e he hb => by
      have := hall e he hb
      by_cases hs : e.on < listed.size
      · simp [Array.getD, hs] at this ⊢; exact this
      · simp [Array.getD, hs]
    have hil : i < ops.size := (Array.getElem?_eq_some_iff.1 ho).1
    refine wpOp_mono ?_ (hstep i o (fun i => listed.getD i true) a W ho hf hL hj st.defs (fun s h => st.kept s h) (fun j p hp hl s hsd => st.has j p hp hl s hsd))
    rintro a' W' ⟨v, rfl, hv, hmono, hj'⟩
    have hfun : (fun k => (listed.setIfInBounds i true).getD k true) = fun k => decide (i = k) || listed.getD k true := funext fun k => getD_listed listed i k
    refine ⟨by simpa using hs, by rw [hfun]; exact hj', ?_⟩
    have hdd : ∀ (j : Nat) (p : Oper) s t, ops[j]? = some p → i ≠ j → o.dst = some s → p.dst = some t → s ≠ t := fun j p s t hp hij h1 h2 => by
      have q1 := List.all_eq_true.1 hdst i (by simpa using hil)
      have q2 := List.all_eq_true.1 q1 j (by simpa using (Array.getElem?_eq_some_iff.1 hp).1)
      rw [ho, hp] at q2
      simp only [Option.bind_some, h1, h2] at q2
      simpa [hij] using q2
    have hds : ∀ s, o.dst = some s → s < a.tmps.size := fun s h1 => by
      have q1 := List.all_eq_true.1 hin i (by simpa using hil)
      rw [ho] at q1
      simp only [Option.bind_some, h1] at q1
      rw [st.size]
      simpa using q1
    have hlist : ∀ j, (listed.setIfInBounds i true).getD j true = true → i = j ∨ listed.getD j true = true := fun j h => by
      rw [getD_listed] at h
      simpa using h
    cases hd : o.dst with
    | none =>
      refine ⟨st.defs, st.size, fun s h => ?_, fun j p hp hl s hps => ?_⟩
      · exact st.kept s fun j p hp hl => h j p hp (by rw [getD_listed, hl]; simp)
      · rcases hlist j hl with rfl | hl'
        · rw [ho] at hp
          have := Option.some.inj hp
          subst this
          rw [hd] at hps; cases hps
        · exact hmono j _ hl' (st.has j p hp hl' s hps)
    | some d =>
      have hdl := hds d hd
      refine ⟨st.defs, by simpa [Act.put] using st.size, fun s h => ?_, fun j p hp hl s hps => ?_⟩
      · have hsd : d ≠ s := fun e => by
          subst e
          exact h i o ho (by rw [getD_listed]; simp) hd
        show (a.tmps.setIfInBounds d v).getD s undef = _
        rw [getD_set_other _ _ _ _ hsd]
        exact st.kept s fun j p hp hl => h j p hp (by rw [getD_listed, hl]; simp)
      · show sp j ((a.tmps.setIfInBounds d v).getD s undef) W'
        rcases hlist j hl with rfl | hl'
        · rw [ho] at hp
          have := Option.some.inj hp
          subst this
          rw [hd] at hps
          have := Option.some.inj hps
          subst this
          rw [getD_set_same _ _ _ hdl]
          exact hv (by rw [hd]; simp)
        · by_cases hij : i = j
          · subst hij
            rw [hf] at hl'; cases hl'
          · rw [getD_set_other _ _ _ _ (hdd j p d s hp hij hd hps)]
            exact hmono j _ hl' (st.has j p hp hl' s hps)
  · rintro listed a W ⟨hs, hj, st⟩ hr
    have hall := ready_nil hback hr
    exact hend _ a W hall hj st.defs st.size (fun s h => st.kept s fun j p hp _ => h j p hp) (fun j p hp s hps => st.has j p hp (hall j (Array.getElem?_eq_some_iff.1 hp).1) s hps)
  · simp [uc_rep]
  · have hf : ∀ i, i < ops.size → (Array.replicate ops.size false).getD i true = false := fun i hi => by simp [Array.getD, hi]
    refine ⟨by simp, hJ _ hf, rfl, rfl, fun _ _ => rfl, fun i o ho hl s _ => ?_⟩
    rw [hf i (Array.getElem?_eq_some_iff.1 ho).1] at hl
    cases hl
end
end Go.Proofs.YtgfjbcdjpkcbkaaGreatDoor

/- Small facts about frames and lists of values. -/
namespace Go.Proofs.YtgfjbcdjpkcbkaaGreatDoor
open Go
theorem gd (A : Act) (s : Nat) : A.tmps[s]?.getD undef = A.tmps.getD s undef := by simp
theorem gdb {A : Act} {s : Nat} {b : Bool} (h : A.tmps.getD s undef = .bool b) : A.tmps[s]? = some (.bool b) := by
  rw [← gd] at h
  cases hx : A.tmps[s]? with
  | none => rw [hx] at h; simp [undef] at h
  | some v => rw [hx] at h; simp at h; rw [h]
def AllL : Nat → (List Value → Prop) → Prop
  | 0, P => P []
  | n + 1, P => ∀ u, AllL n fun l => P (u :: l)
theorem allL : ∀ (n : Nat) (P : List Value → Prop), AllL n P → ∀ l, l.length = n → P l
  | 0, P, h, l, hl => by
    have e : l = [] := List.length_eq_zero_iff.1 hl
    subst e
    exact h
  | n + 1, P, h, [], hl => by simp at hl
  | n + 1, P, h, u :: l, hl => allL n (fun l => P (u :: l)) (h u) l (by simpa using hl)
end Go.Proofs.YtgfjbcdjpkcbkaaGreatDoor

/- What lex.clock comes to. -/
namespace Go.Proofs.YtgfjbcdjpkcbkaaGreatDoor
open Go.RowKit Lx
set_option maxRecDepth 10000 in
set_option maxHeartbeats 400000 in
theorem clock_any (s : ByteArray) (l : List UInt8) (hs : s.data.toList = l) (hl : l.length ≤ 9223372036854775806) (hf : fitsL l timeF = true) (w : World) :
    Calls Tryz.prog 67 #[.string s] w fun e w' => e = .returned (tokv (timeT l)) ∧ Below w.heap.size w w' := by
  have hz : s.size = l.length := by rw [← hs, Lib.size_eq]
  obtain ⟨hlen, _⟩ := fitsL_at hf
  have hlen5 : 5 ≤ l.length := hlen
  have hi5 : (5 : Int) ≤ (l.length : Int) := by omega
  have hi2 : (2 : Int) ≤ (l.length : Int) := by omega
  have hi3 : (3 : Int) ≤ (l.length : Int) := by omega
  obtain ⟨n1, d1⟩ := dig_part hf 3 2 (by decide) (by decide)
  obtain ⟨n2, d2⟩ := dig_part hf 0 2 (by decide) (by decide)
  have c1 := fun w => value_any (s.extract 3 5) ((l.drop 3).take 2) (by rw [Lib.extract_data, hs]) (by omega) d1 w
  have c2 := fun w => value_any (s.extract 0 2) ((l.drop 0).take 2) (by rw [Lib.extract_data, hs]) (by omega) d2 w
  have b1 := valL_small _ d1 2 (by omega) (by omega)
  have b2 := valL_small _ d2 2 (by omega) (by omega)
  rw [List.take_of_length_le (by omega)] at b1 b2
  have HT : Hid (timeT l = if 59 < valL ((l.drop 3).take 2) ∨ 1440 < 60 * valL ((l.drop 0).take 2) + valL ((l.drop 3).take 2) then bad 3 else ⟨4, 60 * valL ((l.drop 0).take 2) + valL ((l.drop 3).take 2), [], 5, 0⟩) := rfl
  generalize valL ((l.drop 3).take 2) = m at *
  generalize valL ((l.drop 0).take 2) = h at *
  clear n1 d1 n2 d2 hlen hf
  have hb0 : Below w.heap.size w (w.alloc (.cells #[.int .i64 0, .int .i64 0, .int .i64 0, .string ⟨#[]⟩] 101)) := (Below.refl _ _).alloc (Nat.le_refl _) _
  have hbx : Below w.heap.size w (w.alloc (.cells #[.int .i64 4, .int .i64 (60 * h + m), .int .i64 0, .string ⟨#[]⟩] 101)) := (Below.refl _ _).alloc (Nat.le_refl _) _
  by_cases h59 : 59 < m
  · go_enter Tryz.func67, Tryz.ntmps67
    go_wp2_with (first
      | (go_at_call 85; have _t := c1; refine (c1 _).mono ?_; rintro e w' ⟨rfl, rfl⟩; clear _t c1)
      | (go_at_call 85; refine (c2 _).mono ?_; rintro e w' ⟨rfl, rfl⟩))
    exact tok_post (by rw [Tryz.results67, Tryz.results69]) w.heap.size (bad 3) rfl rfl rfl rfl (heap_alloc_new w _) ⟨by rw [HT.out, if_pos (.inl h59)], hb0⟩
  · by_cases h1440 : 1440 < 60 * h + m
    · go_enter Tryz.func67, Tryz.ntmps67
      go_wp2_with (first
        | (go_at_call 85; have _t := c1; refine (c1 _).mono ?_; rintro e w' ⟨rfl, rfl⟩; clear _t c1)
        | (go_at_call 85; refine (c2 _).mono ?_; rintro e w' ⟨rfl, rfl⟩))
      exact tok_post (by rw [Tryz.results67, Tryz.results69]) w.heap.size (bad 3) rfl rfl rfl rfl (heap_alloc_new w _) ⟨by rw [HT.out, if_pos (.inr h1440)], hb0⟩
    · go_enter Tryz.func67, Tryz.ntmps67
      go_wp2_with (first
        | (go_at_call 85; have _t := c1; refine (c1 _).mono ?_; rintro e w' ⟨rfl, rfl⟩; clear _t c1)
        | (go_at_call 85; refine (c2 _).mono ?_; rintro e w' ⟨rfl, rfl⟩))
      exact tok_post (by rw [Tryz.results67, Tryz.results69]) w.heap.size ⟨4, 60 * h + m, [], 5, 0⟩ rfl rfl rfl rfl (heap_alloc_new w _) ⟨by rw [HT.out, if_neg (by omega)], hbx⟩
end Go.Proofs.YtgfjbcdjpkcbkaaGreatDoor

/- Who is reached from whom: plain. Marks that are followed one by one, and all ways at once, are the same. -/
namespace Lx
abbrev Way (E : Nat → Nat → Bool) (i k : Nat) : Prop := Relation.TransGen (fun a b => E a b = true) i k
def upd (m : Nat → Bool) (n : Nat) : Nat → Bool := fun k => decide (k = n) || m k
def fol (S : Nat → List Nat) : Nat → (Nat → Bool) → Nat → Nat → Bool
  | 0, m, _ => m
  | f + 1, m, r => (S r).foldl (fun m n => if m n = true then m else fol S f (upd m n) n) m
def unm (m : Nat → Bool) : Nat → Nat
  | 0 => 0
  | n + 1 => (if m n = true then 0 else 1) + unm m n
theorem unm_le {m m' : Nat → Bool} (h : ∀ k, m k = true → m' k = true) : ∀ n, unm m' n ≤ unm m n
  | 0 => by simp [unm]
  | n + 1 => by
    have := unm_le h n
    simp only [unm]
    by_cases c : m n = true
    · rw [if_pos c, if_pos (h n c)]; omega
    · rw [if_neg c]; split <;> omega
theorem unm_upd {m : Nat → Bool} {k : Nat} (hk : m k = false) : ∀ n, k < n → unm (upd m k) n + 1 ≤ unm m n
  | 0, h => by omega
  | n + 1, h => by
    have hle := unm_le (m := m) (m' := upd m k) (fun q hq => by simp [upd, hq]) n
    simp only [unm]
    by_cases c : k = n
    · subst c
      rw [if_pos (by simp [upd]), if_neg (by rw [hk]; decide)]
      omega
    · have := unm_upd hk n (by omega)
      have e : upd m k n = m n := by simp [upd, show n ≠ k from fun e => c e.symm]
      rw [e]
      omega
structure Fol (S : Nat → List Nat) (m m' : Nat → Bool) (r : Nat) : Prop where
  up : ∀ k, m k = true → m' k = true
  next : ∀ n ∈ S r, m' n = true
  new : ∀ v, m' v = true → m v = false → ∀ n ∈ S v, m' n = true
  way : ∀ v, m' v = true → m v = false → Way (fun a b => (S a).contains b) r v
theorem fol_ok {S : Nat → List Nat} {n : Nat} (hS : ∀ r, ∀ k ∈ S r, k < n) : ∀ (f : Nat) (m : Nat → Bool) (r : Nat), unm m n + 1 ≤ f → Fol S m (fol S f m r) r
  | 0, _, _, h => by omega
  | f + 1, m, r, hf => by
    have aux : ∀ (l : List Nat), (∀ k ∈ l, k ∈ S r) → ∀ m1 : Nat → Bool, (∀ k, m k = true → m1 k = true) →
        (∀ k, m1 k = true → (l.foldl (fun m n => if m n = true then m else fol S f (upd m n) n) m1) k = true) ∧ (∀ k ∈ l, (l.foldl (fun m n => if m n = true then m else fol S f (upd m n) n) m1) k = true) ∧
        (∀ v, (l.foldl (fun m n => if m n = true then m else fol S f (upd m n) n) m1) v = true → m1 v = false → (∀ k ∈ S v, (l.foldl (fun m n => if m n = true then m else fol S f (upd m n) n) m1) k = true) ∧ Way (fun a b => (S a).contains b) r v) := by
      intro l
      induction l with
      | nil =>
        intro _ m1 _
        exact ⟨fun k h => h, fun k hk => (by cases hk), fun v h1 h2 => by rw [List.foldl_nil] at h1; rw [h1] at h2; cases h2⟩
      | cons q l ih =>
        intro hl m1 hm
        have hq := hl q List.mem_cons_self
        have hl' : ∀ k ∈ l, k ∈ S r := fun k hk => hl k (List.mem_cons_of_mem _ hk)
        simp only [List.foldl_cons]
        by_cases c : m1 q = true
        · rw [if_pos c]
          obtain ⟨a1, a2, a3⟩ := ih hl' m1 hm
          refine ⟨a1, fun k hk => ?_, a3⟩
          rcases List.mem_cons.1 hk with rfl | hk
          · exact a1 _ c
          · exact a2 k hk
        · rw [if_neg c]
          have c' : m1 q = false := by simpa using c
          have hu := unm_upd c' n (hS r q hq)
          have hle := unm_le hm n
          have F := fol_ok hS f (upd m1 q) q (by omega)
          have hup : ∀ k, m1 k = true → fol S f (upd m1 q) q k = true := fun k hk => F.up k (by simp [upd, hk])
          have hqm : fol S f (upd m1 q) q q = true := F.up q (by simp [upd])
          obtain ⟨a1, a2, a3⟩ := ih hl' (fol S f (upd m1 q) q) (fun k hk => hup k (hm k hk))
          have hone : Way (fun a b => (S a).contains b) r q := .single (by simpa using hq)
          refine ⟨fun k hk => a1 k (hup k hk), fun k hk => ?_, fun v h1 h2 => ?_⟩
          · rcases List.mem_cons.1 hk with rfl | hk
            · exact a1 _ hqm
            · exact a2 k hk
          · cases hv : fol S f (upd m1 q) q v with
            | false => exact a3 v h1 hv
            | true =>
              by_cases e : v = q
              · subst e
                exact ⟨fun k hk => a1 k (F.next k hk), hone⟩
              · have hvu : upd m1 q v = false := by simp [upd, e, h2]
                exact ⟨fun k hk => a1 k (F.new v hv hvu k hk), hone.trans (F.way v hv hvu)⟩
    obtain ⟨a1, a2, a3⟩ := aux (S r) (fun k hk => hk) m (fun k hk => hk)
    exact ⟨a1, a2, fun v h1 h2 => (a3 v h1 h2).1, fun v h1 h2 => (a3 v h1 h2).2⟩
theorem fol_way {S : Nat → List Nat} {n : Nat} (hS : ∀ r, ∀ k ∈ S r, k < n) {f r v : Nat} (hf : n + 1 ≤ f) : fol S f (fun _ => false) r v = true ↔ Way (fun a b => (S a).contains b) r v := by
  have hz : unm (fun _ => false) n ≤ n := by
    have : ∀ n, unm (fun _ => false) n = n := by
      intro n
      induction n with
      | zero => rfl
      | succ n ih => simp [unm, ih]; omega
    rw [this]; omega
  have F := fol_ok hS f (fun _ => false) r (by omega)
  constructor
  · intro h
    exact F.way v h rfl
  · intro h
    induction h with
    | single h => exact F.next _ (by simpa using h)
    | tail _ h ih => exact F.new _ ih rfl _ (by simpa using h)
end Lx
