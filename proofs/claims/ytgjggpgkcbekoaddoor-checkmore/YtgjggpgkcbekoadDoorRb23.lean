/- What the document's At, Speaks and Unknown come to. -/
import Derived.Test.YtgjggpgkcbekoadDoorRb22
import Derived.MapKept
import Derived.Carry
namespace Go.Proofs.YtgjggpgkcbekoadDoor
open Go.RowKit Lx

theorem hid5 {p : Prop} (h : p) : Hid p := h
/-- The cells of rules that came in. -/
theorem InR.cells {w : World} {us : List (Ru × Value)} {pv : Option Addr} {cv : Nat} (h : InR w (.slice pv us.length cv) us) : ∀ (j : Nat) (p : Ru × Value), us[j]? = some p → ∃ g o : Nat, pv = some ⟨g, o, none⟩ ∧
      w.cell? ⟨g, o + j * 6, none⟩ = some (.string ⟨p.1.1.toArray⟩) ∧ w.cell? ⟨g, o + j * 6 + 1, none⟩ = some (.int .i64 p.1.2.kind) ∧ w.cell? ⟨g, o + j * 6 + 2, none⟩ = some (.int .i64 p.1.2.a) ∧ w.cell? ⟨g, o + j * 6 + 3, none⟩ = some (.int .i64 p.1.2.b) ∧
      w.cell? ⟨g, o + j * 6 + 4, none⟩ = some (.string ⟨p.1.2.name.toArray⟩) ∧ w.cell? ⟨g, o + j * 6 + 5, none⟩ = some p.2 := fun j p hj => by
  rcases h.row with ⟨h0, _⟩ | ⟨g, o, c, hv', hl, hc⟩
  · rw [h0] at hj; simp at hj
  · injection hv' with e1
    exact ⟨g, o, e1, hc j p hj⟩
theorem InR.form {w : World} {v : Value} {us : List (Ru × Value)} (h : InR w v us) : ∃ p c, v = .slice p us.length c := by
  rcases h.row with ⟨rfl, p, c, hv⟩ | ⟨g, o, c, hv, _⟩
  · exact ⟨p, c, hv⟩
  · exact ⟨_, c, hv⟩
theorem name_same (x y : List UInt8) : (x == y) = decide (x = y) := by
  by_cases h : x = y
  · subst h; simp
  · simp [h]
end Go.Proofs.YtgjggpgkcbekoadDoor

/- A map from names to numbers: what Numbers makes; and whether a row of numbers holds one. -/
namespace Go.Proofs.YtgjggpgkcbekoadDoor
open Go.RowKit Lx

theorem mapT5 : Tryd.prog.underlying 41 = some (.map 9 3) := by kernel_rfl
theorem strT5 : Tryd.prog.underlying 9 = some .string := by kernel_rfl
theorem find_push (k : Value) (e : MapEntry) : ∀ (es : List MapEntry) (i : Nat), Instr.findNow .string k (es ++ [e]) i = match Instr.findNow .string k es i with
    | some (some r) => some (some r)
    | some none => (match Instr.sameNow .string k e.key with | some true => some (some (i + es.length, e.val)) | some false => some none | none => none)
    | none => none
  | [], i => by
    simp only [List.nil_append, Instr.findNow, List.length_nil, Nat.add_zero]
    cases Instr.sameNow .string k e.key with
    | none => rfl
    | some b => cases b <;> rfl
  | x :: es, i => by
    simp only [List.cons_append, Instr.findNow]
    cases Instr.sameNow .string k x.key with
    | none => rfl
    | some b =>
      cases b with
      | true => rfl
      | false =>
        have := find_push k e es (i + 1)
        rw [this]
        simp only [List.length_cons]
        rw [show i + 1 + es.length = i + (es.length + 1) by omega]
/-- The map tells each name's rule. -/
def EsN (es : List MapEntry) (l : List Ru) : Prop := ∀ x : List UInt8, (0 ≤ atP5 l x ∧ ∃ i, Instr.findNow .string (.string ⟨x.toArray⟩) es 0 = some (some (i, .int .i64 (atP5 l x)))) ∨ (atP5 l x = -1 ∧ Instr.findNow .string (.string ⟨x.toArray⟩) es 0 = some none)
def MapN (w : World) (b : Nat) (l : List Ru) : Prop := ∃ es c, w.heap[b]? = some (.map es c) ∧ EsN es.toList l
theorem MapN.later {w w' : World} {b : Nat} {l : List Ru} (h : MapN w b l) (hk : w'.heap[b]? = w.heap[b]?) : MapN w' b l := by
  obtain ⟨es, c, h1, h2⟩ := h
  exact ⟨es, c, hk.trans h1, h2⟩
theorem lt_of_map {w : World} {b : Nat} {l : List Ru} (h : MapN w b l) : b < w.heap.size := by
  obtain ⟨es, c, h1, _⟩ := h
  exact (Array.getElem?_eq_some_iff.1 h1).1
theorem atF_snoc : ∀ (l : List Ru) (i : Nat) (u : Ru) (x : List UInt8), atF (l ++ [u]) i x = if 0 ≤ atF l i x then atF l i x else if u.1 = x then ((i + l.length : Nat) : Int) else -1
  | [], i, u, x => by simp [atF]
  | v :: l, i, u, x => by
    have := atF_snoc l (i + 1) u x
    have e1 : atF (v :: l ++ [u]) i x = if v.1 = x then (i : Int) else atF (l ++ [u]) (i + 1) x := rfl
    have e2 : atF (v :: l) i x = if v.1 = x then (i : Int) else atF l (i + 1) x := rfl
    by_cases h : v.1 = x
    · rw [if_pos h] at e1 e2
      rw [e1, e2, if_pos (by omega)]
    · rw [if_neg h] at e1 e2
      rw [e1, e2, this, List.length_cons, show i + 1 + l.length = i + (l.length + 1) by omega]
theorem same_str (x y : List UInt8) : Instr.sameNow .string (.string ⟨x.toArray⟩) (.string ⟨y.toArray⟩) = some (decide (x = y)) := by
  have e : ((⟨x.toArray⟩ : ByteArray) == ⟨y.toArray⟩) = decide (x = y) := by
    show (x.toArray == y.toArray) = _
    by_cases h : x = y
    · subst h; simp
    · simp [h]
  simp [Instr.sameNow, e]
/-- A name that is taken already changes nothing. -/
theorem EsN.taken {es : List MapEntry} {l : List Ru} {u : Ru} (h : EsN es l) (ht : 0 ≤ atP5 l u.1) : EsN es (l ++ [u]) := fun x => by
  have e : atP5 (l ++ [u]) x = atP5 l x := by
    unfold atP5 at *
    rw [atF_snoc]
    split
    · rfl
    · rename_i hx
      have hne : u.1 ≠ x := fun e => by subst e; exact hx ht
      rw [if_neg hne]
      have := atF_bd l 0 x
      omega
  rw [e]
  exact h x
theorem EsN.push {es : List MapEntry} {l : List Ru} {u : Ru} {c : Nat} (h : EsN es l) : EsN (es ++ [⟨.string ⟨u.1.toArray⟩, .int .i64 (l.length : Int), c⟩]) (l ++ [u]) := fun x => by
  rw [find_push]
  have e : atP5 (l ++ [u]) x = if 0 ≤ atP5 l x then atP5 l x else if u.1 = x then (l.length : Int) else -1 := by
    unfold atP5
    rw [atF_snoc, Nat.zero_add]
  rcases h x with ⟨h1, i, h2⟩ | ⟨h1, h2⟩
  · rw [if_pos h1] at e
    rw [h2, e]
    exact .inl ⟨h1, i, rfl⟩
  · rw [if_neg (by omega)] at e
    rw [h2]
    dsimp only
    rw [same_str]
    by_cases hx : x = u.1
    · subst hx
      rw [if_pos rfl] at e
      rw [e, decide_eq_true rfl]
      exact .inl ⟨by omega, _, rfl⟩
    · rw [if_neg (fun e => hx e.symm)] at e
      rw [e, decide_eq_false hx]
      exact .inr ⟨rfl, rfl⟩
theorem EsN.nil : EsN [] [] := fun _ => .inr ⟨rfl, rfl⟩
/-- What is looked up. -/
theorem look5 {w : World} {b : Nat} {l : List Ru} (h : MapN w b l) (x : List UInt8) : (Instr.lookup 41 (.map (some b)) (.string ⟨x.toArray⟩) true).run Tryd.prog w = .ok (.tuple #[.int .i64 (if 0 ≤ atP5 l x then atP5 l x else 0), .bool (decide (0 ≤ atP5 l x))]) w := by
  obtain ⟨es, c, hb, hE⟩ := h
  have hc : ∀ z, (Instr.checkKey z 10000 9 (.string ⟨x.toArray⟩)).run Tryd.prog w = .ok () w := fun z => MapKept.run_checkKey (k := .string _) strT5 (by simp [MapKept.IsKey]) z 9999
  have hz : (zeroValue 3).run Tryd.prog w = .ok (.int .i64 0) w := by kernel_rfl
  rcases hE x with ⟨h1, i, h2⟩ | ⟨h1, h2⟩
  · simp [Instr.lookup, run_underlying mapT5, MapKept.run_getObj_map hb, hc, MapKept.run_findKey strT5 h2, Result.andThen, h1]
  · simp [Instr.lookup, run_underlying mapT5, MapKept.run_getObj_map hb, hc, MapKept.run_findKey strT5 h2, hz, Result.andThen, h1]
/-- What is looked up, without the question whether it is there. -/
theorem look6 {w : World} {b : Nat} {l : List Ru} (h : MapN w b l) (x : List UInt8) (hx : 0 ≤ atP5 l x) : (Instr.lookup 41 (.map (some b)) (.string ⟨x.toArray⟩) false).run Tryd.prog w = .ok (.int .i64 (atP5 l x)) w := by
  obtain ⟨es, c, hb, hE⟩ := h
  have hc : ∀ z, (Instr.checkKey z 10000 9 (.string ⟨x.toArray⟩)).run Tryd.prog w = .ok () w := fun z => MapKept.run_checkKey (k := .string _) strT5 (by simp [MapKept.IsKey]) z 9999
  rcases hE x with ⟨h1, i, h2⟩ | ⟨h1, h2⟩
  · simp [Instr.lookup, run_underlying mapT5, MapKept.run_getObj_map hb, hc, MapKept.run_findKey strT5 h2, Result.andThen]
  · omega
def putB5 (w : World) (b : Nat) (o : Obj) : World := { w with heap := w.heap.setIfInBounds b o }
theorem putB5_below {r n : Nat} {w0 w : World} (h : Below n w0 w) (hr : n ≤ r) (o : Obj) : Below n w0 (putB5 w r o) :=
  ⟨h.os, h.tape, h.output, by simpa [putB5] using h.size, fun k hk => by
    rw [← h.block k hk]
    show (w.heap.setIfInBounds r o)[k]? = _
    rw [Array.getElem?_setIfInBounds_ne (by omega)]⟩
/-- A rule more is put. -/
theorem ins5 {w : World} {b : Nat} {l : List Ru} {u : Ru} (h : MapN w b l) (ht : atP5 l u.1 = -1) : ∃ o, (Instr.mapUpdate 41 (.map (some b)) (.string ⟨u.1.toArray⟩) (.int .i64 (l.length : Int))).run Tryd.prog w = .ok () (putB5 w b o) ∧ MapN (putB5 w b o) b (l ++ [u]) := by
  obtain ⟨es, c, hb, hE⟩ := h
  have hc : (Instr.checkKey false 10000 9 (.string ⟨u.1.toArray⟩)).run Tryd.prog w = .ok () w := MapKept.run_checkKey (k := .string _) strT5 (by simp [MapKept.IsKey]) false 9999
  have hn : Instr.findNow .string (.string ⟨u.1.toArray⟩) es.toList 0 = some none := by
    rcases hE u.1 with ⟨h1, _⟩ | ⟨_, h2⟩
    · omega
    · exact h2
  refine ⟨.map (es.push ⟨.string ⟨u.1.toArray⟩, .int .i64 (l.length : Int), c⟩) (c + 1), ?_, es.push ⟨.string ⟨u.1.toArray⟩, .int .i64 (l.length : Int), c⟩, c + 1, (MapKept.heap_set hb).1, ?_⟩
  · simp [Instr.mapUpdate, run_underlying mapT5, MapKept.run_getObj_map hb, hc, MapKept.run_findKey strT5 hn, MapKept.run_setObj_map _ hb, Result.andThen, putB5]
  · rw [Array.toList_push]
    exact hE.push
theorem make_hint (n : Nat) (_ : n < 9223372036854775808) (w : World) : (Instr.makeMap 41 (some (.int .i64 (n : Int)))).run Tryd.prog w = .ok (.map (some w.heap.size)) (w.alloc (.map #[] 0)) := by
  unfold Instr.makeMap
  simp [go_sem]
def OutNu (us : List (Ru × Value)) (w : World) (r : Ending) (w' : World) : Prop := ∃ b, r = .returned (.map (some b)) ∧ w.heap.size ≤ b ∧ MapN w' b (us.map (fun p => p.1)) ∧ Below w.heap.size w w'
def NRel (us : List (Ru × Value)) (w : World) (t : Value) (wr : World) : Prop := ∃ j : Nat, t = .int .i64 (j : Int) ∧ j ≤ us.length ∧ MapN wr w.heap.size ((us.map (fun p => p.1)).take j) ∧ Below w.heap.size w wr
set_option maxRecDepth 100000 in
set_option maxHeartbeats 1000000 in
theorem numbers_any (us : List (Ru × Value)) (v : Value) (w : World) (h : InR w v us) : Calls Tryd.prog 12 #[v] w (OutNu us w) := by
  obtain ⟨pv, cv, rfl⟩ := h.form
  have HK := hid5 h.cells
  have hlen := h.len
  have HA : Hid (∀ p ∈ us, ∃ q n c, p.2 = .slice q n c) := fun p hp => by
    obtain ⟨_, _, d, hd⟩ := h.all p hp
    obtain ⟨q, c, e⟩ := hd.form
    exact ⟨q, _, c, e⟩
  clear h
  have hb0 := (Below.refl w.heap.size w).alloc (Nat.le_refl _) (.map #[] 0)
  have hm0 : MapN (w.alloc (.map #[] 0)) w.heap.size [] := ⟨#[], 0, (MapKept.heap_alloc w _).1, EsN.nil⟩
  have hmk := fun W => make_hint us.length hlen W
  go_enter Tryd.func12, Tryd.ntmps12
  go_wp2_with fail
  go_loopw [4, 5, 6, 7, 13] (fun _ _ _ _ t wr => NRel us w t wr) (fun _ _ _ _ t _ => us.length - (intOf t).toNat)
  case atStart => exact ⟨0, rfl, by omega, hm0, hb0⟩
  case round =>
    obtain ⟨j, rfl, hj, hM, hbr⟩ := hrel
    clear hb0 hm0
    have hj0 : (0 : Int) ≤ (j : Int) := by omega
    by_cases hlt : j < us.length
    · have hlt' : (j : Int) < (us.length : Int) := by omega
      obtain ⟨⟨u, sk⟩, hjk⟩ : ∃ p, us[j]? = some p := ⟨us[j], List.getElem?_eq_getElem hlt⟩
      have htk : (us.map (fun p => p.1)).take (j + 1) = (us.map (fun p => p.1)).take j ++ [u] := by
        have hum : (us.map (fun p => p.1))[j]? = some u := by rw [List.getElem?_map, hjk]; rfl
        rw [List.take_add_one, hum]; rfl
      have htl : ((us.map (fun p => p.1)).take j).length = j := by simp; omega
      obtain ⟨g, o, hpe, c0, c1, c2, c3, c4, c5⟩ := HK.out j _ hjk
      obtain ⟨qs, ns, cs, hsk⟩ := HA.out _ (List.mem_of_getElem? hjk)
      dsimp only at c0 c1 c2 c3 c4 c5 hsk
      subst hsk hpe
      have d0 := (hbr.cell (block_lt_of_cell c0)).trans c0
      have d1 := (hbr.cell (block_lt_of_cell c1)).trans c1
      have d2 := (hbr.cell (block_lt_of_cell c2)).trans c2
      have d3 := (hbr.cell (block_lt_of_cell c3)).trans c3
      have d4 := (hbr.cell (block_lt_of_cell c4)).trans c4
      have d5 := (hbr.cell (block_lt_of_cell c5)).trans c5
      have hbA := hbr.alloc hbr.size (.cells #[.string ⟨u.1.toArray⟩, .int .i64 u.2.kind, .int .i64 u.2.a, .int .i64 u.2.b, .string ⟨u.2.name.toArray⟩, .slice qs ns cs] 36)
      have hxB := heap_alloc_new wr (.cells #[.string ⟨u.1.toArray⟩, .int .i64 u.2.kind, .int .i64 u.2.a, .int .i64 u.2.b, .string ⟨u.2.name.toArray⟩, .slice qs ns cs] 36)
      have hMA : MapN (wr.alloc (.cells #[.string ⟨u.1.toArray⟩, .int .i64 u.2.kind, .int .i64 u.2.a, .int .i64 u.2.b, .string ⟨u.2.name.toArray⟩, .slice qs ns cs] 36)) w.heap.size ((us.map (fun p => p.1)).take j) := hM.later (Below.heap_alloc _ _ _ (lt_of_map hM))
      have hlk := look5 hMA u.1
      clear hjk c0 c1 c2 c3 c4 c5 hM
      generalize hwB : wr.alloc (.cells #[.string ⟨u.1.toArray⟩, .int .i64 u.2.kind, .int .i64 u.2.a, .int .i64 u.2.b, .string ⟨u.2.name.toArray⟩, .slice qs ns cs] 36) = wB at *
      have z0 := (cell_of_row _ _ 0 _ _ _ hxB).trans rfl
      by_cases ht : 0 ≤ atP5 ((us.map (fun p => p.1)).take j) u.1
      · rw [if_pos ht, decide_eq_true ht] at hlk
        have hMN : MapN wB w.heap.size ((us.map (fun p => p.1)).take (j + 1)) := by
          obtain ⟨es, c, h1, h2⟩ := hMA
          rw [htk]
          exact ⟨es, c, h1, h2.taken ht⟩
        generalize atP5 ((us.map (fun p => p.1)).take j) u.1 = n at *
        have HM := hid5 hMN
        clear hMA htk htl hMN ht
        go_wp2_with fail
        go_roundw
        case rel => exact ⟨j + 1, by go_num, by omega, HM.out, hbA⟩
        case measure => simp [intOf]; omega
      · rw [if_neg ht, decide_eq_false ht] at hlk
        have hm1 : atP5 ((us.map (fun p => p.1)).take j) u.1 = -1 := by
          have := (atP5_bd ((us.map (fun p => p.1)).take j) u.1).1
          omega
        obtain ⟨ob, hup, hMN⟩ := ins5 hMA hm1
        rw [htl] at hup
        rw [← htk] at hMN
        have hbN := putB5_below hbA (Nat.le_refl _) ob
        have HM := hid5 hMN
        clear hMA htk htl hMN ht hm1
        go_wp2_with fail
        go_roundw
        case rel => exact ⟨j + 1, by go_num, by omega, HM.out, hbN⟩
        case measure => simp [intOf]; omega
    · have ej : j = us.length := by omega
      have hlt' : ¬ (j : Int) < (us.length : Int) := by omega
      have HO : Hid (OutNu us w (.returned (.map (some w.heap.size))) wr) := by
        refine ⟨w.heap.size, rfl, Nat.le_refl _, ?_, hbr⟩
        rw [ej, List.take_of_length_le (by simp)] at hM
        exact hM
      clear hM HK HA ej
      go_wp2_with fail
      go_ret
      exact HO.out
end Go.Proofs.YtgjggpgkcbekoadDoor

/- What slices.Index and slices.Contains of numbers come to. -/
namespace Go.Proofs.YtgjggpgkcbekoadDoor
open Go.RowKit Lx

/-- A row of numbers in memory. -/
def RowI (w : World) (v : Value) (ns : List Int) : Prop := ∃ p c, v = .slice p ns.length c ∧ ns.length < 9223372036854775808 ∧ ∀ (j : Nat) (n : Int), ns[j]? = some n → ∃ g o : Nat, p = some ⟨g, o, none⟩ ∧ w.cell? ⟨g, o + j, none⟩ = some (.int .i64 n)
theorem RowI.below {w w' : World} {v : Value} {ns : List Int} (h : RowI w v ns) (hb : Below w.heap.size w w') : RowI w' v ns := by
  obtain ⟨p, c, h1, h2, h3⟩ := h
  refine ⟨p, c, h1, h2, fun j n hj => ?_⟩
  obtain ⟨g, o, e, hc⟩ := h3 j n hj
  exact ⟨g, o, e, (hb.cell (block_lt_of_cell hc)).trans hc⟩
def idxF : List Int → Nat → Int → Int
  | [], _, _ => -1
  | m :: l, i, n => if m = n then (i : Int) else idxF l (i + 1) n
theorem idxF_step {l : List Int} {j : Nat} {m n : Int} (h : l[j]? = some m) : idxF (l.drop j) j n = if m = n then (j : Int) else idxF (l.drop (j + 1)) (j + 1) n := by
  obtain ⟨h1, h2⟩ := List.getElem?_eq_some_iff.1 h
  rw [List.drop_eq_getElem_cons h1, h2]; rfl
theorem idxF_mem : ∀ (l : List Int) (i : Nat) (n : Int), (0 ≤ idxF l i n) ↔ n ∈ l
  | [], i, n => by simp [idxF]
  | m :: l, i, n => by
    have := idxF_mem l (i + 1) n
    simp only [idxF, List.mem_cons]
    by_cases h : m = n
    · rw [if_pos h]
      constructor
      · intro _; exact .inl h.symm
      · intro _; omega
    · rw [if_neg h, this]
      constructor
      · exact .inr
      · rintro (e | e)
        · exact absurd e.symm h
        · exact e
set_option maxRecDepth 100000 in
set_option maxHeartbeats 1000000 in
theorem index5_any (ns : List Int) (v : Value) (n : Int) (w : World) (h : RowI w v ns) : Calls Tryd.prog 23 #[v, .int .i64 n] w fun r w' => r = .returned (.int .i64 (idxF ns 0 n)) ∧ Below w.heap.size w w' := by
  obtain ⟨p, c, rfl, hlen, hc⟩ := h
  have HC := hid5 hc
  clear hc
  go_enter Tryd.func23, Tryd.ntmps23
  go_wp2_with fail
  go_loopw [5, 8] (fun _ t wr => ∃ j : Nat, t = .int .i64 (j : Int) ∧ j ≤ ns.length ∧ idxF ns 0 n = idxF (ns.drop j) j n ∧ wr = w) (fun _ t _ => ns.length - (intOf t).toNat)
  case atStart => exact ⟨0, rfl, by omega, rfl, rfl⟩
  case round =>
    obtain ⟨j, rfl, hj, hX, rfl⟩ := hrel
    have hj0 : (0 : Int) ≤ (j : Int) := by omega
    by_cases hlt : j < ns.length
    · have hlt' : (j : Int) < (ns.length : Int) := by omega
      obtain ⟨m, hjk⟩ : ∃ p, ns[j]? = some p := ⟨ns[j], List.getElem?_eq_getElem hlt⟩
      rw [idxF_step hjk] at hX
      obtain ⟨g, o, hpe, c0⟩ := HC.out j _ hjk
      subst hpe
      by_cases hmn : m = n
      · rw [if_pos hmn] at hX
        have hb : (n == m) = true := by rw [hmn]; simp
        have HX := hid5 hX
        clear hX hjk HC hmn
        go_wp2_with fail
        go_ret
        exact ⟨by (rw [HX.out]) <;> rfl, Below.refl _ _⟩
      · rw [if_neg hmn] at hX
        have hb : (n == m) = false := beq_eq_false_iff_ne.2 (fun e => hmn e.symm)
        have HX := hid5 hX
        clear hX hjk hmn
        go_wp2_with fail
        go_roundw
        case rel => exact ⟨j + 1, by go_num, by omega, HX.out, trivial⟩
        case measure => simp [intOf]; omega
    · have hlt' : ¬ (j : Int) < (ns.length : Int) := by omega
      have HX : Hid (idxF ns 0 n = -1) := by
        show _ = _
        rw [hX, List.drop_of_length_le (by omega)]
        rfl
      clear hX HC
      go_wp2_with fail
      go_ret
      exact ⟨by (rw [HX.out]) <;> rfl, Below.refl _ _⟩
set_option maxRecDepth 100000 in
theorem contains5_any (ns : List Int) (v : Value) (n : Int) (w : World) (h : RowI w v ns) : Calls Tryd.prog 16 #[v, .int .i64 n] w fun r w' => r = .returned (.bool (decide (n ∈ ns))) ∧ Below w.heap.size w w' := by
  have c1 := index5_any ns v n w h
  obtain ⟨p, c, rfl, _, _⟩ := h
  have HD : Hid (decide (n ∈ ns) = decide (0 ≤ idxF ns 0 n)) := by
    show _ = _
    have hm := idxF_mem ns 0 n
    by_cases hn : n ∈ ns
    · rw [decide_eq_true hn, decide_eq_true (hm.2 hn)]
    · rw [decide_eq_false hn, decide_eq_false (fun e => hn (hm.1 e))]
  go_enter Tryd.func16, Tryd.ntmps16
  go_wp2_with fail
  refine c1.mono ?_
  rintro r w1 ⟨rfl, hb⟩
  clear c1
  generalize idxF ns 0 n = q at *
  go_wp2_with fail
  go_ret
  exact ⟨by (rw [HD.out]) <;> rfl, hb⟩
end Go.Proofs.YtgjggpgkcbekoadDoor
