/- What the document's Deep comes to. -/
import Derived.Test.YtggcepicghibjacDoorPm15
import Derived.Test.YtggcepicghibjacDoorPm18
import Derived.Test.YtggcepicghibjacDoorPm07
import Derived.Lib.ConvBytes
namespace Go.Proofs.YtggcepicghibjacDoor
open Go.RowKit Lx

set_option maxRecDepth 100000 in
set_option maxHeartbeats 1000000 in
theorem deep_any (B : Nat → Prop) : ∀ (d : Nat) (e : Ex) (sl : Value) (w : World), KidsAt B d w sl e.kids → hgt e ≤ 1000000 →
    Calls Tryd.prog 29 #[exV e sl] w fun r w' => r = .returned (.int .i64 (hgt e : Int)) ∧ Below w.heap.size w w' := by
  intro d
  induction d with
  | zero =>
    intro e sl w hk hh
    obtain ⟨hks, p, c, rfl⟩ := hk
    have he : hgt e = 1 := by rw [hgt_eq, hks]; rfl
    rw [he]
    unfold exV
    go_enter Tryd.func29, Tryd.ntmps29
    go_wp2_with fail
    refine wp_loop_rounds 1 ?_
    rw [rounds_succ]
    go_wp2_with fail
    go_ret
    exact ⟨rfl, (Below.refl _ _).alloc (Nat.le_refl _) _⟩
  | succ d ih =>
    intro e sl w hk hh
    rcases hk with ⟨hks, p, c, rfl⟩ | ⟨g, o, c, hB, rfl, hlen, hkid⟩
    · have he : hgt e = 1 := by rw [hgt_eq, hks]; rfl
      rw [he]
      unfold exV
      go_enter Tryd.func29, Tryd.ntmps29
      go_wp2_with fail
      refine wp_loop_rounds 1 ?_
      rw [rounds_succ]
      go_wp2_with fail
      go_ret
      exact ⟨rfl, (Below.refl _ _).alloc (Nat.le_refl _) _⟩
    · have HK : Hid (∀ (j : Nat) (k : Ex), e.kids[j]? = some k → ∃ sk : Value,
        w.cell? ⟨g, o + j * 5, none⟩ = some (.int .i64 k.kind) ∧ w.cell? ⟨g, o + j * 5 + 1, none⟩ = some (.int .i64 k.a) ∧ w.cell? ⟨g, o + j * 5 + 2, none⟩ = some (.int .i64 k.b) ∧
        w.cell? ⟨g, o + j * 5 + 3, none⟩ = some (.string ⟨k.name.toArray⟩) ∧ w.cell? ⟨g, o + j * 5 + 4, none⟩ = some sk ∧ KidsAt B d w sk k.kids) := hkid
      have HE : Hid (hgt e = hgtL e.kids + 1) := hgt_eq e
      have HM : Hid (∀ k ∈ e.kids, hgt k < hgt e) := fun k h => hgt_kid h
      have hb0 : Below w.heap.size w (w.alloc (.cells #[.int .i64 e.kind, .int .i64 e.a, .int .i64 e.b, .string ⟨e.name.toArray⟩, .slice (some ⟨g, o, none⟩) e.kids.length c] 60)) := (Below.refl _ _).alloc (Nat.le_refl _) _
      unfold exV
      clear hkid
      go_enter Tryd.func29, Tryd.ntmps29
      go_wp2_with fail
      go_loopw [3, 10] (fun q t wr => ∃ j : Nat, t = .int .i64 (j : Int) ∧ j ≤ e.kids.length ∧ q = .int .i64 (hgtL (e.kids.take j) : Int) ∧ hgtL (e.kids.take j) ≤ 1000000 ∧ Below w.heap.size w wr) (fun _ t _ => e.kids.length - (intOf t).toNat)
      case atStart => exact ⟨0, rfl, by omega, rfl, by simp [hgtL], hb0⟩
      case round =>
        obtain ⟨j, rfl, hj, rfl, hm, hbel⟩ := hrel
        have hj0 : (0 : Int) ≤ (j : Int) := by omega
        by_cases hlt : j < e.kids.length
        · have hlt' : (j : Int) < (e.kids.length : Int) := by omega
          obtain ⟨k, hjk⟩ : ∃ k, e.kids[j]? = some k := ⟨e.kids[j], List.getElem?_eq_getElem hlt⟩
          obtain ⟨sk, c0, c1, c2, c3, c4, hkk⟩ := HK.out j k hjk
          have hkm := HM.out k (List.mem_of_getElem? hjk)
          have ht : e.kids.take (j + 1) = e.kids.take j ++ [k] := by
            obtain ⟨h1, h2⟩ := List.getElem?_eq_some_iff.1 hjk
            rw [List.take_succ_eq_append_getElem h1, h2]
          have hn : hgtL (e.kids.take (j + 1)) = max (hgtL (e.kids.take j)) (hgt k) := by rw [ht, hgtL_snoc]
          obtain ⟨ps, cs, rfl⟩ := hkk.form
          have d0 := (hbel.cell (block_lt_of_cell c0)).trans c0
          have d1 := (hbel.cell (block_lt_of_cell c1)).trans c1
          have d2 := (hbel.cell (block_lt_of_cell c2)).trans c2
          have d3 := (hbel.cell (block_lt_of_cell c3)).trans c3
          have d4 := (hbel.cell (block_lt_of_cell c4)).trans c4
          have hbA := hbel.alloc hbel.size (.cells #[.int .i64 k.kind, .int .i64 k.a, .int .i64 k.b, .string ⟨k.name.toArray⟩, .slice ps k.kids.length cs] 60)
          have cR := ih k (.slice ps k.kids.length cs) (wr.alloc (.cells #[.int .i64 k.kind, .int .i64 k.a, .int .i64 k.b, .string ⟨k.name.toArray⟩, .slice ps k.kids.length cs] 60)) (hkk.kept fun q _ hq => hbA.block q hq) (by omega)
          have hxB := heap_alloc_new wr (.cells #[.int .i64 k.kind, .int .i64 k.a, .int .i64 k.b, .string ⟨k.name.toArray⟩, .slice ps k.kids.length cs] 60)
          unfold exV at cR
          have HN : Hid (hgtL (e.kids.take (j + 1)) = max (hgtL (e.kids.take j)) (hgt k)) := hn
          have hk6 : (hgt k : Int) ≤ 1000000 := by omega
          have hm6 : (hgtL (e.kids.take j) : Int) ≤ 1000000 := by omega
          generalize hgt k = H at *
          generalize hgtL (e.kids.take j) = M at *
          clear hn ht hkk c0 c1 c2 c3 c4 hjk hkm
          generalize hwB : wr.alloc (.cells #[.int .i64 k.kind, .int .i64 k.a, .int .i64 k.b, .string ⟨k.name.toArray⟩, .slice ps k.kids.length cs] 60) = wB at *
          go_wp2_with (refine wpList_load_row rfl 60 _ rfl _ rfl _ _ _ _ hxB exprType rfl (by kernel_rfl) ?_)
          refine cR.mono ?_
          rintro e' w2 ⟨rfl, hb2⟩
          have hbw2 := hbA.trans (hb2.mono hbA.size)
          clear cR hb2 hbA hwB hxB
          by_cases hHM : M < H
          · have hHM' : (M : Int) < (H : Int) := by omega
            go_wp2_with fail
            go_roundw
            case rel => exact ⟨j + 1, by go_num, by omega, by rw [HN.out]; exact i64_eq (by omega), by rw [HN.out]; omega, hbw2⟩
            case measure => simp [intOf]; omega
          · have hHM' : ¬ (M : Int) < (H : Int) := by omega
            go_wp2_with fail
            go_roundw
            case rel => exact ⟨j + 1, by go_num, by omega, by rw [HN.out]; exact i64_eq (by omega), by rw [HN.out]; omega, hbw2⟩
            case measure => simp [intOf]; omega
        · have ej : j = e.kids.length := by omega
          have hlt' : ¬ (j : Int) < (e.kids.length : Int) := by omega
          have HR : Hid (hgt e = hgtL (e.kids.take j) + 1) := by
            show _ = _
            rw [HE.out, ej, List.take_length]
          have hm6 : (hgtL (e.kids.take j) : Int) ≤ 1000000 := by omega
          generalize hgtL (e.kids.take j) = M at *
          clear HE HK HM ej
          go_wp2_with fail
          go_ret
          exact ⟨by rw [HR.out]; rfl, hbel⟩
end Go.Proofs.YtggcepicghibjacDoor

/- A token's text tells its kind. -/
namespace Go.Proofs.YtggcepicghibjacDoor
open Go.RowKit Lx

theorem tkok_empty {t : T1} (h : t.text = []) : TkOK t := by
  unfold TkOK
  rw [h]
  exact ⟨fun h => absurd h (by decide), fun h => absurd h (by decide)⟩
theorem sign_head : ∀ x ∈ signW, isL (x.getD 0 0) = false := by decide
theorem word_long : ∀ x ∈ wordsL, 3 ≤ x.length := by decide
theorem tkok_word (l : List UInt8) (hl : isL (l.getD 0 0) = true) : TkOK (wordT l) := by
  unfold wordT
  split
  · exact tkok_empty rfl
  · constructor
    · intro h
      have h1 := sign_head _ h
      cases l with
      | nil => exact absurd hl (by decide)
      | cons c l =>
        have hc : isL c = true := hl
        have : (List.take (wordLen (c :: l)) (c :: l)).getD 0 0 = c := by
          rw [show wordLen (c :: l) = runOf isC l + 1 by simp [wordLen, hc]]
          rfl
        simp only at h1
        rw [this, hc] at h1
        exact absurd h1 (by decide)
    · intro h
      have : isWordL (List.take (wordLen l) l) = true := by
        unfold isWordL
        exact List.any_eq_true.2 ⟨_, h, by simp⟩
      show (if isWordL _ = true then (2 : Int) else 1) = 2
      rw [if_pos this]
theorem tkok_sign (l : List UInt8) : TkOK (signT l) := by
  unfold signT
  split
  · exact ⟨fun _ => rfl, fun h => absurd (word_long _ h) (by decide)⟩
  split
  · exact tkok_empty rfl
  · exact ⟨fun _ => rfl, fun h => absurd (word_long _ h) (by simp)⟩
/-- What lex tells of a token. -/
theorem tkok_first (l : List UInt8) : TkOK (firstT l) := by
  unfold firstT
  split
  · unfold dateT
    split <;> exact tkok_empty rfl
  split
  · unfold timeT
    split <;> exact tkok_empty rfl
  split
  · unfold numT
    split <;> exact tkok_empty rfl
  split
  · exact tkok_word l (by assumption)
  · exact tkok_sign l
theorem lexed_tkok {l : List UInt8} {ts : List (T1 × Nat)} {k : Nat} (h : Lexed l ts k) : ∀ p ∈ ts, TkOK p.1 := by
  obtain ⟨n, hn⟩ := h
  refine Lexed.ind (M := fun ts _ => ∀ p ∈ ts, TkOK p.1) ?_ ?_ n hn
  · intro p hp
    cases hp
  · intro ts k _ _ _ ih p hp
    rcases List.mem_append.1 hp with hp | hp
    · exact ih p hp
    · rw [List.mem_singleton.1 hp]
      exact tkok_first _
end Go.Proofs.YtggcepicghibjacDoor

/- What slotref3.digit, low, sign and Word come to. -/
namespace Go.Proofs.YtggcepicghibjacDoor
open Go.RowKit Lx

theorem rdigit_any (c : UInt8) (w : World) : Calls Tryd.prog 64 #[.int .u8 (c.toNat : Int)] w fun e w' => e = .returned (.bool (isD c)) ∧ w' = w := by
  unfold isD
  by_cases h1 : 48 ≤ c.toNat
  · by_cases h2 : c.toNat ≤ 57
    · have i1 : (48 : Int) ≤ (c.toNat : Int) := by omega
      have i2 : (c.toNat : Int) ≤ 57 := by omega
      rw [decide_eq_true h1, decide_eq_true h2]
      go_enter Tryd.func64, Tryd.ntmps64
      go_wp2
      go_ret
      exact ⟨rfl, rfl⟩
    · have i1 : (48 : Int) ≤ (c.toNat : Int) := by omega
      have i2 : ¬ (c.toNat : Int) ≤ 57 := by omega
      rw [decide_eq_true h1, decide_eq_false h2]
      go_enter Tryd.func64, Tryd.ntmps64
      go_wp2
      go_ret
      exact ⟨rfl, rfl⟩
  · have i1 : ¬ (48 : Int) ≤ (c.toNat : Int) := by omega
    rw [decide_eq_false h1]
    go_enter Tryd.func64, Tryd.ntmps64
    go_wp2
    go_ret
    exact ⟨rfl, rfl⟩
theorem rlow_any (c : UInt8) (w : World) : Calls Tryd.prog 63 #[.int .u8 (c.toNat : Int)] w fun e w' => e = .returned (.bool (isL c)) ∧ w' = w := by
  unfold isL
  by_cases h1 : 97 ≤ c.toNat
  · by_cases h2 : c.toNat ≤ 122
    · have i1 : (97 : Int) ≤ (c.toNat : Int) := by omega
      have i2 : (c.toNat : Int) ≤ 122 := by omega
      rw [decide_eq_true h1, decide_eq_true h2]
      go_enter Tryd.func63, Tryd.ntmps63
      go_wp2
      go_ret
      exact ⟨rfl, rfl⟩
    · have i1 : (97 : Int) ≤ (c.toNat : Int) := by omega
      have i2 : ¬ (c.toNat : Int) ≤ 122 := by omega
      rw [decide_eq_true h1, decide_eq_false h2]
      go_enter Tryd.func63, Tryd.ntmps63
      go_wp2
      go_ret
      exact ⟨rfl, rfl⟩
  · have i1 : ¬ (97 : Int) ≤ (c.toNat : Int) := by omega
    rw [decide_eq_false h1]
    go_enter Tryd.func63, Tryd.ntmps63
    go_wp2
    go_ret
    exact ⟨rfl, rfl⟩


/-- Does that byte stand at that place? -/
def atB (l : List UInt8) (k c : Nat) : Bool := decide (k < l.length) && decide ((l.getD k 0).toNat = c)
set_option maxHeartbeats 400000 in
theorem rsign_any (s : ByteArray) (l : List UInt8) (hs : s.data.toList = l) (k c : Nat) (w : World) :
    Calls Tryd.prog 79 #[.string s, .int .i64 (k : Int), .int .u8 (c : Int)] w fun e w' => e = .returned (.bool (atB l k c)) ∧ w' = w := by
  have hz : s.size = l.length := by rw [← hs, Lib.size_eq]
  unfold atB
  by_cases hk : k < l.length
  · have hk' : (k : Int) < (l.length : Int) := by omega
    have hk0 : (0 : Int) ≤ (k : Int) := by omega
    have g1 : ∀ h : k < s.size, s[k] = l.getD k 0 := fun h => byte_at hs k h
    rw [decide_eq_true hk, Bool.true_and]
    generalize hb : l.getD k 0 = b at *
    by_cases hc : b.toNat = c
    · have i1 : ((b.toNat : Int) == (c : Int)) = true := by simp; omega
      rw [decide_eq_true hc]
      clear hc
      go_enter Tryd.func79, Tryd.ntmps79
      go_wp2
      go_ret
      exact ⟨by simp only [i1] at *; rfl, rfl⟩
    · have i1 : ((b.toNat : Int) == (c : Int)) = false := by simp; omega
      rw [decide_eq_false hc]
      clear hc
      go_enter Tryd.func79, Tryd.ntmps79
      go_wp2
      go_ret
      exact ⟨by simp only [i1] at *; rfl, rfl⟩
  · have hk' : ¬ (k : Int) < (l.length : Int) := by omega
    rw [decide_eq_false hk]
    go_enter Tryd.func79, Tryd.ntmps79
    go_wp2
    go_ret
    exact ⟨rfl, rfl⟩

/-- The words as the document's answer lists them. -/
def rwordsL : List (List UInt8) := [[114, 117, 108, 101], [110, 101, 118, 101, 114], [97, 108, 119, 97, 121, 115], [119, 101, 101, 107, 108, 121], [100, 97, 116, 101, 115], [115, 104, 105, 102, 116], [109, 111, 110], [116, 117, 101], [119, 101, 100], [116, 104, 117], [102, 114, 105], [115, 97, 116], [115, 117, 110]]
def rwordCells : Array Value := (rwordsL.map fun l => Value.string ⟨l.toArray⟩).toArray
theorem rwordCell (j : Nat) (hj : j < 13) : rwordCells[j]? = some (.string ⟨(rwordsL.getD j []).toArray⟩) := by
  have h : j < rwordsL.length := hj
  unfold rwordCells
  simp only [List.getElem?_toArray, List.getElem?_map, List.getD_eq_getElem?_getD, List.getElem?_eq_getElem h]
  rfl
theorem rword_mem (x : List UInt8) : x ∈ rwordsL ↔ x ∈ wordsL := by
  unfold rwordsL wordsL
  simp only [List.mem_cons, List.not_mem_nil, or_false]
  constructor
  · rintro (h | h | h | h | h | h | h | h | h | h | h | h | h) <;> subst h <;> simp
  · rintro (h | h | h | h | h | h | h | h | h | h | h | h | h) <;> subst h <;> simp
theorem rword_no {x : List UInt8} (h : ∀ j, j < 13 → rwordsL.getD j [] ≠ x) : isWordL x = false := by
  cases e : isWordL x with
  | false => rfl
  | true =>
    unfold isWordL at e
    rw [List.any_eq_true] at e
    obtain ⟨y, hy, hx⟩ := e
    have hyx : y = x := by simpa using hx
    subst hyx
    obtain ⟨j, hj, hjx⟩ := List.getElem_of_mem ((rword_mem y).2 hy)
    have hj' : j < 13 := hj
    exact absurd (by simpa [List.getD, hj] using hjx) (h j hj')
theorem rword_yes {x : List UInt8} (j : Nat) (hj : j < 13) (h : rwordsL.getD j [] = x) : isWordL x = true := by
  have hj' : j < rwordsL.length := hj
  have hm : x ∈ rwordsL := by rw [← h]; simp [List.getD, hj']
  unfold isWordL
  rw [List.any_eq_true]
  exact ⟨x, (rword_mem x).1 hm, beq_self_eq_true x⟩
set_option maxRecDepth 10000 in
set_option maxHeartbeats 400000 in
theorem rword_any (x : ByteArray) (l : List UInt8) (hx : x.data.toList = l) (w : World) :
    Calls Tryd.prog 65 #[.string x] w fun e w' => e = .returned (.bool (isWordL l)) ∧ Below w.heap.size w w' := by
  have hg : (w.alloc (.cells rwordCells 9)).heap[w.heap.size]? = some (.cells rwordCells 9 (0, 0)) := heap_alloc_new w _
  have hb : Below w.heap.size w (w.alloc (.cells rwordCells 9)) := (Below.refl _ _).alloc (Nat.le_refl _) _
  have HC : Hid (∀ j, j < 13 → (w.alloc (.cells rwordCells 9)).cell? ⟨w.heap.size, j, none⟩ = some (.string ⟨(rwordsL.getD j []).toArray⟩)) := fun j hj => by rw [cell_of_row _ _ _ _ _ _ hg, rwordCell j hj]
  have hW : (w.alloc (.cells #[.string ⟨#[114, 117, 108, 101]⟩, .string ⟨#[110, 101, 118, 101, 114]⟩, .string ⟨#[97, 108, 119, 97, 121, 115]⟩, .string ⟨#[119, 101, 101, 107, 108, 121]⟩, .string ⟨#[100, 97, 116, 101, 115]⟩, .string ⟨#[115, 104, 105, 102, 116]⟩, .string ⟨#[109, 111, 110]⟩, .string ⟨#[116, 117, 101]⟩, .string ⟨#[119, 101, 100]⟩, .string ⟨#[116, 104, 117]⟩, .string ⟨#[102, 114, 105]⟩, .string ⟨#[115, 97, 116]⟩, .string ⟨#[115, 117, 110]⟩] 9)) = w.alloc (.cells rwordCells 9) := rfl
  generalize w.alloc (.cells rwordCells 9) = w1 at *
  clear hg
  go_enter Tryd.func65, Tryd.ntmps65
  go_wp2
  go_loop [7] (fun i => ∃ k : Nat, k ≤ 13 ∧ i = .int .i64 k ∧ ∀ j, j < k → rwordsL.getD j [] ≠ l) (fun i => 13 - (intOf i).toNat)
  case atStart => exact ⟨0, by omega, rfl, fun i h => by omega⟩
  case round =>
    obtain ⟨k, hk, rfl, hall⟩ := hrel
    have HA : Hid (∀ j, j < k → rwordsL.getD j [] ≠ l) := hall
    clear hall
    by_cases hlt : k < 13
    · have hlt' : (k : Int) < 13 := by omega
      have hk0 : (0 : Int) ≤ (k : Int) := by omega
      have ck := HC.out k hlt
      generalize hy : (⟨(rwordsL.getD k []).toArray⟩ : ByteArray) = y at ck
      have hyl : y.data.toList = rwordsL.getD k [] := by rw [← hy]
      by_cases he : rwordsL.getD k [] = l
      · have hq : (y.toList == x.toList) = true := by rw [Lib.toList_data, Lib.toList_data, hyl, hx, he]; simp
        have hWd : Hid (isWordL l = true) := rword_yes k hlt he
        clear he hyl hy hW
        go_wp2
        go_ret
        exact ⟨by rw [hWd.out]; rfl, hb⟩
      · have hq : (y.toList == x.toList) = false := by
          rw [Lib.toList_data, Lib.toList_data, hyl, hx]
          rw [beq_eq_false_iff_ne]
          exact he
        have HE : Hid (rwordsL.getD k [] ≠ l) := he
        clear he hyl hy hW
        go_wp2
        go_round
        case rel =>
          refine ⟨k + 1, by omega, by go_num, fun j hj => ?_⟩
          by_cases e : j = k
          · subst e; exact HE.out
          · exact HA.out j (by omega)
        case measure => simp [intOf]; omega
    · have hkl : k = 13 := by omega
      subst hkl
      have hWd : Hid (isWordL l = false) := rword_no HA.out
      clear hW
      go_wp2
      go_ret
      exact ⟨by rw [hWd.out]; rfl, hb⟩
end Go.Proofs.YtggcepicghibjacDoor

/- What slotref3.digits comes to. -/
namespace Go.Proofs.YtggcepicghibjacDoor
open Go.RowKit Lx

/-- So many digits at a place: their number. -/
def digL (l : List UInt8) (k n : Nat) : Int × Bool := if k + n ≤ l.length ∧ ∀ i, i < n → isD (l.getD (k + i) 0) = true then (valL ((l.drop k).take n), true) else (0, false)
theorem below_bytes (w : World) (e : TypeId) (s : ByteArray) : Below w.heap.size w (Lib.bytesWorld w e s) := ⟨rfl, rfl, rfl, by rw [Lib.bytesWorld_size]; omega, fun k hk => Lib.bytesWorld_at_old w e s k hk⟩
theorem bytesT : Tryd.prog.underlying 67 = some (.slice 5) := by kernel_rfl

set_option maxRecDepth 10000 in
set_option maxHeartbeats 400000 in
theorem rdigits_any (s : ByteArray) (l : List UInt8) (hs : s.data.toList = l) (hl : l.length ≤ 6000) (k n : Nat) (hk : k ≤ 7000) (hn : n ≤ 6) (w : World) :
    Calls Tryd.prog 78 #[.string s, .int .i64 (k : Int), .int .i64 (n : Int)] w fun e w' => e = .returned (.tuple #[.int .i64 (digL l k n).1, .bool (digL l k n).2]) ∧ Below w.heap.size w w' := by
  have hz : s.size = l.length := by rw [← hs, Lib.size_eq]
  by_cases hle : k + n ≤ l.length
  · have i1 : ¬ (l.length : Int) < (k : Int) + (n : Int) := by omega
    have i2 : (0 : Int) ≤ (k : Int) := by omega
    have i3 : (k : Int) ≤ (k : Int) + (n : Int) := by omega
    have i4 : (k : Int) + (n : Int) ≤ (l.length : Int) := by omega
    have en : ((k : Int) + (n : Int)).toNat = k + n := by omega
    have hx : (s.extract k (k + n)).data.toList = (l.drop k).take n := by rw [Lib.extract_data, hs, show k + n - k = n by omega]
    have hxl : ((l.drop k).take n).length = n := by simp; omega
    have hxs : (s.extract k (k + n)).size = n := by rw [Lib.size_eq, hx, hxl]
    have hg : ∀ j, j < n → ((l.drop k).take n).getD j 0 = l.getD (k + j) 0 := fun j hj => by
      rw [List.getD_eq_getElem?_getD, List.getD_eq_getElem?_getD, List.getElem?_take, if_pos hj, List.getElem?_drop]
    have hcv := fun w => Lib.run_convert_string_bytes (P := Tryd.prog) w 9 67 5 (s.extract k (k + n)) Tryd.underlying9 bytesT Tryd.underlying5
    have hbb := below_bytes w 5 (s.extract k (k + n))
    have hcell : ∀ j, j < n → (Lib.bytesWorld w 5 (s.extract k (k + n))).cell? ⟨w.heap.size, j, none⟩ = some (.int .u8 ((l.getD (k + j) 0).toNat : Int)) := fun j hj => by
      rw [Lib.bytesWorld_cell w 5 _ j (by omega), hx, hg j hj]
    have HC : Hid (∀ j, j < n → (Lib.bytesWorld w 5 (s.extract k (k + n))).cell? ⟨w.heap.size, j, none⟩ = some (.int .u8 ((l.getD (k + j) 0).toNat : Int))) := hcell
    have hcw := hcv w
    rw [hxs] at hcw
    generalize Lib.bytesWorld w 5 (s.extract k (k + n)) = wB at *
    generalize grownCap w n 0 5 = cap at *
    clear hcell hcv
    go_enter Tryd.func78, Tryd.ntmps78
    go_wp2
    go_loop [8, 25] (fun x i => ∃ j : Nat, j ≤ n ∧ i = .int .i64 j ∧ x = .int .i64 (valL ((l.drop k).take j)) ∧ ∀ i, i < j → isD (l.getD (k + i) 0) = true) (fun _ i => n - (intOf i).toNat)
    case atStart => exact ⟨0, by omega, rfl, rfl, fun i h => by omega⟩
    case round =>
      obtain ⟨j, hj, rfl, rfl, hall⟩ := hrel
      have HA : Hid (∀ i, i < j → isD (l.getD (k + i) 0) = true) := hall
      clear hall
      by_cases hlt : j < n
      · have hlt' : (j : Int) < (n : Int) := by omega
        have hj0 : (0 : Int) ≤ (j : Int) := by omega
        have cj := HC.out j hlt
        have cd := fun w => rdigit_any (l.getD (k + j) 0) w
        have hdj : (l.drop k).getD j 0 = l.getD (k + j) 0 := by rw [List.getD_eq_getElem?_getD, List.getD_eq_getElem?_getD, List.getElem?_drop]
        have hvt := valL_take (l.drop k) j (by simp; omega)
        rw [hdj] at hvt
        have hjl : ((l.drop k).take j).length = j := by simp; omega
        have hvb := valL_small ((l.drop k).take j) (fun i hi => by
          rw [hjl] at hi
          have := HA.out i hi
          rw [List.getD_eq_getElem?_getD] at this ⊢
          rw [List.getElem?_take, if_pos hi, List.getElem?_drop]
          exact this) j (by omega) (by omega)
        rw [List.take_of_length_le (by omega)] at hvb
        have HV : Hid (valL ((l.drop k).take (j + 1)) = 10 * valL ((l.drop k).take j) + (((l.getD (k + j) 0).toNat : Int) - 48)) := hvt
        cases hD : isD (l.getD (k + j) 0) with
        | true =>
          rw [hD] at cd
          have hD' := hD
          simp only [isD, Bool.and_eq_true, decide_eq_true_eq] at hD'
          have HD : Hid (isD (l.getD (k + j) 0) = true) := hD
          have HK : Hid (48 ≤ (l.getD (k + j) 0).toNat ∧ (l.getD (k + j) 0).toNat ≤ 57) := hD'
          clear hD hD' hvt hdj hjl hcw
          generalize hc : l.getD (k + j) 0 = c at *
          generalize valL ((l.drop k).take j) = v at *
          go_wp2_with (go_at_call 64; refine (cd _).mono ?_; rintro e w' ⟨rfl, rfl⟩)
          go_round
          case rel =>
            refine ⟨j + 1, by omega, by go_num, ?_, fun i hi => ?_⟩
            · rw [HV.out]
              refine i64_eq ?_
              have := HK.out
              omega
            · by_cases e : i = j
              · rw [e, hc]; exact HD.out
              · exact HA.out i (by omega)
          case measure => simp [intOf]; omega
        | false =>
          rw [hD] at cd
          have HN : Hid (digL l k n = (0, false)) := by
            show digL l k n = _
            unfold digL
            rw [if_neg (fun h => by rw [h.2 j hlt] at hD; cases hD)]
          clear hD hvt hdj hjl hcw HV
          generalize hc : l.getD (k + j) 0 = c at *
          go_wp2_with (go_at_call 64; refine (cd _).mono ?_; rintro e w' ⟨rfl, rfl⟩)
          go_ret2
          exact ⟨by rw [HN.out]; rfl, hbb⟩
      · have hjn : j = n := by omega
        subst hjn
        have HN : Hid (digL l k j = (valL ((l.drop k).take j), true)) := by
          show digL l k j = _
          unfold digL
          rw [if_pos ⟨hle, HA.out⟩]
        clear hcw
        go_wp2
        go_ret2
        exact ⟨by rw [HN.out]; rfl, hbb⟩
  · have i1 : (l.length : Int) < (k : Int) + (n : Int) := by omega
    have HN : Hid (digL l k n = (0, false)) := by
      show digL l k n = _
      unfold digL; rw [if_neg (fun h => hle h.1)]
    go_enter Tryd.func78, Tryd.ntmps78
    go_wp2
    go_ret2
    exact ⟨by rw [HN.out]; rfl, Below.refl _ _⟩
end Go.Proofs.YtggcepicghibjacDoor
