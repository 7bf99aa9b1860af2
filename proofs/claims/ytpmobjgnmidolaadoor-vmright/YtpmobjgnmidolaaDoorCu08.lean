/- How great heights and steps can be, plainly. -/
import Derived.Test.YtpmobjgnmidolaaDoorCu05
import Derived.Test.YtpmobjgnmidolaaDoorCu07
import Derived.Test.YtpmobjgnmidolaaDoorCu06
namespace Vx
variable {cs : List Cd} {l : List In}
theorem eff_bd (x : In) : -1 ≤ eff x ∧ eff x ≤ 1 := by
  unfold eff
  split
  · omega
  · split <;> omega
theorem tk_bd (x : In) : 0 ≤ tk x ∧ tk x ≤ 2 := by
  unfold tk
  split
  · omega
  · split <;> omega
theorem hAt_bd : ∀ j : Nat, -(j : Int) ≤ hAt l j ∧ hAt l j ≤ j
  | 0 => by simp [hAt]
  | j + 1 => by
    have h1 := hAt_bd j
    have h2 := eff_bd (l.getD j in0)
    simp only [hAt]
    omega
theorem mxH_bd (hh : ∀ i, (cs.getD i cd0).high ≤ 100) : ∀ j : Nat, 0 ≤ mxH cs l j ∧ mxH cs l j ≤ j + 100
  | 0 => by simp [mxH]
  | j + 1 => by
    have h1 := mxH_bd hh j
    have h2 := hAt_bd (l := l) j
    have h3 := hAt_bd (l := l) (j + 1)
    have h4 := hh (l.getD j in0).a.toNat
    simp only [mxH]
    split <;> omega
theorem stS_bd (h0 : ∀ i, 0 ≤ (cs.getD i cd0).steps ∧ (cs.getD i cd0).steps ≤ 20000) : ∀ j : Nat, (j : Int) ≤ stS cs l j ∧ stS cs l j ≤ j * 20001
  | 0 => by simp [stS]
  | j + 1 => by
    have h1 := stS_bd h0 j
    have h4 := h0 (l.getD j in0).a.toNat
    simp only [stS]
    split <;> omega
theorem high_of (h : ∀ (i : Nat) (c : Cd), cs[i]? = some c → aloneE c cs.length = 0) (i : Nat) : (cs.getD i cd0).high ≤ 100 := by
  cases hi : cs[i]? with
  | none => simp [List.getD, hi, cd0]
  | some c =>
    rw [cd_at hi]
    have := (alone_ins (h i c hi)).2.1
    omega
theorem steps_of (h : ∀ (i : Nat) (c : Cd), cs[i]? = some c → aloneE c cs.length = 0) (i : Nat) : 0 ≤ (cs.getD i cd0).steps ∧ (cs.getD i cd0).steps ≤ 20000 := by
  cases hi : cs[i]? with
  | none => simp [List.getD, hi, cd0]
  | some c =>
    rw [cd_at hi]
    have := (alone_ins (h i c hi)).2.1
    omega
theorem tos_of {c : Cd} {r : Nat} (h : aloneE c r = 0) : Tos c.ins := fun j x hx hg => ins_to ((alone_ins h).2.2 j x hx) hg
/-- Does a height go with what is known of a place? -/
def agB (L : List (Int × Int)) (p h : Int) : Bool := match lk L p with
  | none => true
  | some v => decide (v = h)
theorem agB_true {L : List (Int × Int)} {p h : Int} (e : agB L p h = true) : ∀ v, lk L p = some v → v = h := fun v hv => by
  unfold agB at e
  rw [hv] at e
  simpa using e
theorem agB_false {L : List (Int × Int)} {p h : Int} (e : agB L p h = false) : ∃ v, lk L p = some v ∧ v ≠ h := by
  unfold agB at e
  cases hl : lk L p with
  | none => rw [hl] at e; cases e
  | some v => rw [hl] at e; exact ⟨v, rfl, by simpa using e⟩
theorem agB_iff {L : List (Int × Int)} {p h : Int} : agB L p h = true ↔ ∀ v, lk L p = some v → v = h := by
  constructor
  · exact agB_true
  · intro hh
    cases e : agB L p h with
    | true => rfl
    | false =>
      obtain ⟨v, h1, h2⟩ := agB_false e
      exact absurd (hh v h1) h2
end Vx

/- A map from numbers to numbers; vm.measured's own question. -/
namespace Go.Proofs.YtpmobjgnmidolaaDoor
open Go.RowKit Msk Vx

theorem mapT9 : Tryd.prog.underlying 140 = some (.map 3 3) := by kernel_rfl
theorem intT9 : Tryd.prog.underlying 3 = some (.int .i64) := by kernel_rfl
def kv9 (e : MapEntry) : Value × Value := (e.key, e.val)
def kvs9 (L : List (Int × Int)) : List (Value × Value) := L.map fun n => (.int .i64 n.1, .int .i64 n.2)
/-- Numbers by numbers in memory. -/
def MapI (w : World) (b : Nat) (L : List (Int × Int)) : Prop := ∃ es c, w.heap[b]? = some (.map es c) ∧ es.toList.map kv9 = kvs9 L
theorem MapI.later {w w' : World} {b : Nat} {L : List (Int × Int)} (h : MapI w b L) (hk : w'.heap[b]? = w.heap[b]?) : MapI w' b L := by
  obtain ⟨es, c, h1, h2⟩ := h
  exact ⟨es, c, hk.trans h1, h2⟩
theorem lt_of_mapI {w : World} {b : Nat} {L : List (Int × Int)} (h : MapI w b L) : b < w.heap.size := by
  obtain ⟨es, c, h1, _⟩ := h
  exact (Array.getElem?_eq_some_iff.1 h1).1
theorem findI (k : Int) : ∀ (es : List MapEntry) (L : List (Int × Int)) (i : Nat), es.map kv9 = kvs9 L → (∃ v j, lk L k = some v ∧ Instr.findNow (.int .i64) (.int .i64 k) es i = some (some (i + j, .int .i64 v)) ∧ (es[j]?).map kv9 = some (.int .i64 k, .int .i64 v) ∧ ∀ v', kvs9 (upL L k v') = (es.map kv9).set j (.int .i64 k, .int .i64 v')) ∨ (lk L k = none ∧ Instr.findNow (.int .i64) (.int .i64 k) es i = some none ∧ ∀ v', upL L k v' = L ++ [(k, v')])
  | [], [], i, _ => .inr ⟨rfl, rfl, fun _ => rfl⟩
  | [], _ :: _, i, h => by simp [kvs9] at h
  | _ :: _, [], i, h => by simp [kvs9] at h
  | e :: es, n :: L, i, h => by
    simp only [kvs9, List.map_cons, List.cons.injEq] at h
    obtain ⟨h1, h2⟩ := h
    have hk : e.key = .int .i64 n.1 := congrArg Prod.fst h1
    have hv : e.val = .int .i64 n.2 := congrArg Prod.snd h1
    have hs : Instr.sameNow (.int .i64) (.int .i64 k) e.key = some (k == n.1) := by rw [hk]; simp [Instr.sameNow]
    simp only [Instr.findNow, hs]
    by_cases e1 : k = n.1
    · left
      refine ⟨n.2, 0, by simp [lk, e1], ?_, ?_, fun v' => ?_⟩
      · simp [e1, hv]
      · simp only [List.getElem?_cons_zero, Option.map_some, h1, e1]
      · have hq : es.map kv9 = kvs9 L := h2
        simp only [upL, if_pos e1, List.map_cons, List.set_cons_zero, hq]
        rfl
    · have e2 : (k == n.1) = false := by simpa using e1
      rw [e2]
      rcases findI k es L (i + 1) h2 with ⟨v, j, m, f, g, q⟩ | ⟨m, f, q⟩
      · left
        refine ⟨v, j + 1, by simp [lk, e1, m], by rw [show i + (j + 1) = i + 1 + j by omega]; exact f, by simpa using g, fun v' => ?_⟩
        simp only [upL, if_neg e1, List.map_cons, List.set_cons_succ, ← q v', h1]
        rfl
      · right
        refine ⟨by simp [lk, e1, m], f, fun v' => ?_⟩
        simp only [upL, if_neg e1, q v', List.cons_append]
/-- What is looked up. -/
theorem lookI {w : World} {b : Nat} {L : List (Int × Int)} (h : MapI w b L) (k : Int) : (Instr.lookup 140 (.map (some b)) (.int .i64 k) true).run Tryd.prog w = .ok (.tuple #[.int .i64 ((lk L k).getD 0), .bool (lk L k).isSome]) w := by
  obtain ⟨es, c, hb, hE⟩ := h
  have hc : ∀ z, (Instr.checkKey z 10000 3 (.int .i64 k)).run Tryd.prog w = .ok () w := fun z => MapKept.run_checkKey (k := .int .i64 k) intT9 (by simp [MapKept.IsKey]) z 9999
  have hz : (zeroValue 3).run Tryd.prog w = .ok (.int .i64 0) w := by kernel_rfl
  rcases findI k es.toList L 0 hE with ⟨v, j, h1, h2, _, _⟩ | ⟨h1, h2, _⟩
  · simp [Instr.lookup, run_underlying mapT9, MapKept.run_getObj_map hb, hc, MapKept.run_findKey intT9 h2, Result.andThen, h1]
  · simp [Instr.lookup, run_underlying mapT9, MapKept.run_getObj_map hb, hc, MapKept.run_findKey intT9 h2, hz, Result.andThen, h1]
def putI (w : World) (b : Nat) (o : Obj) : World := { w with heap := w.heap.setIfInBounds b o }
theorem putI_below {r n : Nat} {w0 w : World} (h : Below n w0 w) (hr : n ≤ r) (o : Obj) : Below n w0 (putI w r o) :=
  ⟨h.os, h.tape, h.output, by simpa [putI] using h.size, fun k hk => by
    rw [← h.block k hk]
    show (w.heap.setIfInBounds r o)[k]? = _
    rw [Array.getElem?_setIfInBounds_ne (by omega)]⟩
theorem putI_other {r k : Nat} {w : World} (o : Obj) (h : k ≠ r) : (putI w r o).heap[k]? = w.heap[k]? := by
  show (w.heap.setIfInBounds r o)[k]? = _
  rw [Array.getElem?_setIfInBounds_ne (by omega)]
/-- A number is put. -/
theorem insI {w : World} {b : Nat} {L : List (Int × Int)} (h : MapI w b L) (k v : Int) : ∃ o, (Instr.mapUpdate 140 (.map (some b)) (.int .i64 k) (.int .i64 v)).run Tryd.prog w = .ok () (putI w b o) ∧ MapI (putI w b o) b (upL L k v) := by
  obtain ⟨es, c, hb, hE⟩ := h
  have hc : (Instr.checkKey false 10000 3 (.int .i64 k)).run Tryd.prog w = .ok () w := MapKept.run_checkKey (k := .int .i64 k) intT9 (by simp [MapKept.IsKey]) false 9999
  rcases findI k es.toList L 0 hE with ⟨v0, j, h1, h2, h3, h4⟩ | ⟨h1, h2, h4⟩
  · have hks : (Instr.keyThatStays (.int .i64 k) (.int .i64 k)).run Tryd.prog w = .ok (.int .i64 k) w := MapKept.run_keyThatStays (d := .int .i64) (by simp [MapKept.IsKey])
    have hold : (Option.map (fun x => x.key) es[j]?).getD (.int .i64 k) = .int .i64 k := by
      rw [Array.getElem?_toList] at h3
      cases he : es[j]? with
      | none => rfl
      | some e =>
        rw [he] at h3
        simp [kv9] at h3
        simp [h3.1]
    refine ⟨.map (es.modify j fun e => { e with key := .int .i64 k, val := .int .i64 v }) c, ?_, _, c, (MapKept.heap_set hb).1, ?_⟩
    · rw [Nat.zero_add] at h2
      simp [Instr.mapUpdate, run_underlying mapT9, MapKept.run_getObj_map hb, hc, MapKept.run_findKey intT9 h2, hold, hks, MapKept.run_setObj_map _ hb, Result.andThen, putI]
    · rw [h4 v]
      rw [Array.getElem?_toList] at h3
      apply List.ext_getElem?
      intro q
      simp only [List.getElem?_map, Array.getElem?_toList, Array.getElem?_modify, List.getElem?_set]
      by_cases eq : j = q
      · subst eq
        rw [if_pos rfl, if_pos rfl]
        cases he : es[j]? with
        | none => rw [he] at h3; simp at h3
        | some e =>
          have hj : j < es.size := (Array.getElem?_eq_some_iff.1 he).1
          simp [kv9, hj]
      · rw [if_neg eq, if_neg eq]
  · refine ⟨.map (es.push ⟨.int .i64 k, .int .i64 v, c⟩) (c + 1), ?_, _, c + 1, (MapKept.heap_set hb).1, ?_⟩
    · simp [Instr.mapUpdate, run_underlying mapT9, MapKept.run_getObj_map hb, hc, MapKept.run_findKey intT9 h2, MapKept.run_setObj_map _ hb, Result.andThen, putI]
    · rw [h4 v, Array.toList_push, List.map_append, hE]
      simp [kvs9, kv9]
theorem makeI (w : World) : (Instr.makeMap 140 none).run Tryd.prog w = .ok (.map (some w.heap.size)) (w.alloc (.map #[] 0)) := by
  unfold Instr.makeMap
  simp [go_sem]
/-- What measured keeps: a map, and where it lies. -/
structure MmI (w : World) (L : List (Int × Int)) (W : World) : Prop where
  bel : Below w.heap.size w W
  map : MapI W w.heap.size L
  var : W.heap[w.heap.size + 1]? = some (.cells #[.map (some w.heap.size)] 140 (0, 0))
theorem MmI.below {w W W' : World} {L : List (Int × Int)} (h : MmI w L W) (hb : Below W.heap.size W W') : MmI w L W' :=
  ⟨h.bel.trans (hb.mono h.bel.size), h.map.later (hb.block _ (lt_of_mapI h.map)), (hb.block _ (lt_of_block h.var)).trans h.var⟩
set_option maxRecDepth 100000 in
set_option maxHeartbeats 1000000 in
theorem agrees_any (L : List (Int × Int)) (p h : Int) (w W : World) (hm : MmI w L W) : Calls Tryd.prog 88 #[.int .i64 p, .int .i64 h, .pointer (some ⟨w.heap.size + 1, 0, none⟩)] W fun e w' => e = .returned (.bool (agB L p h)) ∧ w' = W := by
  have hlk := lookI hm.map p
  have z := (cell_of_row _ _ 0 _ _ _ hm.var).trans rfl
  generalize hX : agB L p h = X
  unfold agB at hX
  clear hm
  cases hl : lk L p with
  | none =>
    rw [hl] at hlk hX
    have hlk' : (Instr.lookup 140 (.map (some w.heap.size)) (.int .i64 p) true).run Tryd.prog W = .ok (.tuple #[.int .i64 0, .bool false]) W := hlk
    dsimp only at hX
    subst hX
    clear hlk hl
    go_enter Tryd.func88, Tryd.ntmps88
    go_wp2_with fail
    go_ret
    exact ⟨rfl, rfl⟩
  | some v =>
    rw [hl] at hlk hX
    have hlk' : (Instr.lookup 140 (.map (some w.heap.size)) (.int .i64 p) true).run Tryd.prog W = .ok (.tuple #[.int .i64 v, .bool true]) W := hlk
    dsimp only at hX
    have hX' : (v == h) = X := by rw [← hX]; rfl
    clear hlk hl hX
    go_enter Tryd.func88, Tryd.ntmps88
    go_wp2_with fail
    go_ret
    exact ⟨rfl, rfl⟩
end Go.Proofs.YtpmobjgnmidolaaDoor

/- vm.measured, vm.fits: how a rule's code uses its stack. Written by genvmg.py. -/
namespace Go.Proofs.YtpmobjgnmidolaaDoor
open Go.RowKit Msk Vx

/-- What is told of a use. -/
def UseT (cs : List Cd) (l : List In) (h s : Int) (ok : Bool) : Prop := (ok = true ↔ WellV l) ∧ (ok = true → h = mxH cs l l.length ∧ s = stS cs l l.length)
def OutMs (cs : List Cd) (l : List In) (w : World) (e : Ending) (w' : World) : Prop := ∃ (h s : Int) (ok : Bool), e = .returned (.tuple #[.int .i64 h, .int .i64 s, .bool ok]) ∧ UseT cs l h s ok ∧ Below w.heap.size w w'
theorem useT_no {cs : List Cd} {l : List In} (h : ¬ WellV l) : UseT cs l 0 0 false := ⟨⟨fun e => (by cases e), fun e => absurd e h⟩, fun e => (by cases e)⟩
def MRel (cs : List Cd) (l : List In) (w : World) (t4 t5 t7 t20 : Value) (wr : World) : Prop := ∃ (j : Nat) (L : List (Int × Int)), t20 = .int .i64 (j : Int) ∧ j ≤ l.length ∧ t7 = .int .i64 (hAt l j) ∧ t4 = .int .i64 (mxH cs l j) ∧ t5 = .int .i64 ((l.length : Int) + (stS cs l j - j)) ∧ MInv l j L ∧ MmI w L wr
theorem mrel_to {cs : List Cd} {l : List In} {w W : World} {a b c d a' b' c' d' : Int} (h : MRel cs l w (.int .i64 a) (.int .i64 b) (.int .i64 c) (.int .i64 d) W) (e1 : a' = a) (e2 : b' = b) (e3 : c' = c) (e4 : d' = d) : MRel cs l w (.int .i64 a') (.int .i64 b') (.int .i64 c') (.int .i64 d') W := by
  subst e1 e2 e3 e4
  exact h
set_option maxRecDepth 100000 in
set_option maxHeartbeats 8000000 in
theorem measured_any (cs : List Cd) (l : List In) (lv sv : Value) (w : World) (h : InV w lv cs) (hs : InsOf w sv l) (hok : ∀ (i : Nat) (c : Cd), cs[i]? = some c → aloneE c cs.length = 0) (hln : l.length ≤ 2000) (hie : ∀ (j : Nat) (x : In), l[j]? = some x → insE x j l.length cs.length = 0) :
    Calls Tryd.prog 63 #[lv, sv] w (OutMs cs l w) := by
  obtain ⟨p, cp, rfl, hlen, hc⟩ := h.form
  obtain ⟨pu, cu, rfl, hlu, hcu⟩ := hs.form
  have HC := hidv hc
  have HCU := hidv hcu
  have HIE := hidv hie
  have HHI := hidv (high_of hok)
  have HOK := hidv hok
  have HST := hidv (steps_of hok)
  have HTO : Hid (Tos l) := fun j x hx hg => ins_to (hie j x hx) hg
  have b1 := (Below.refl w.heap.size w).alloc (Nat.le_refl _) (.map #[] 0)
  have b2 := b1.alloc b1.size (.cells #[.map (some w.heap.size)] 140)
  have hmk := makeI w
  have s1 : (w.alloc (.map #[] 0)).heap.size = w.heap.size + 1 := by simp
  have hst : MmI w [] ((w.alloc (.map #[] 0)).alloc (.cells #[.map (some w.heap.size)] 140)) := by
    refine ⟨b2, ⟨#[], 0, (Below.heap_alloc _ _ _ (by rw [s1]; omega)).trans (heap_alloc_new w _), rfl⟩, ?_⟩
    have := heap_alloc_new (w.alloc (.map #[] 0)) (.cells #[.map (some w.heap.size)] 140)
    rw [s1] at this
    exact this
  have hl0 : (0 : Int) ≤ (l.length : Int) := by omega
  have hl1 : (l.length : Int) ≤ 2000 := by omega
  have HSZ := hidv hst
  have hmf : ∀ (fn : Fn) (first cap : Array Value) (w : World), (Instr.makeFunc fn first cap).run Tryd.prog w = .ok (.func fn first cap) w := fun _ _ _ _ => rfl
  generalize hwB : (w.alloc (.map #[] 0)).alloc (.cells #[.map (some w.heap.size)] 140) = wB at *
  clear h hs hc hcu hok hie b1 b2 hst s1
  go_enter Tryd.func63, Tryd.ntmps63
  go_wp2_with fail
  clear hmk hwB
  have hst := HSZ.out
  clear HSZ
  go_loopw [4, 5, 7, 20] (fun t4 t5 t7 t20 wr => MRel cs l w t4 t5 t7 t20 wr) (fun _ _ _ t _ => l.length - (intOf t).toNat)
  case atStart => exact ⟨0, [], rfl, by omega, rfl, rfl, by simp [stS], MInv.nil l, hst⟩
  case round =>
    obtain ⟨j, L, rfl, hj, rfl, rfl, rfl, hI, hm⟩ := hrel
    clear hst
    have hj0 : (0 : Int) ≤ (j : Int) := by omega
    have hb1 := hAt_bd (l := l) j
    have hb2 := mxH_bd (l := l) HHI.out j
    have hb3 := stS_bd (l := l) HST.out j
    obtain ⟨hb1a, hb1b⟩ := hb1
    obtain ⟨hb2a, hb2b⟩ := hb2
    obtain ⟨hb3a, hb3b⟩ := hb3
    have hjn : (j : Int) ≤ 2000 := by omega
    have hb3c : stS cs l j ≤ 50000000 := by omega
    by_cases hlt : j < l.length
    · have hlt' : (j : Int) < (l.length : Int) := by omega
      obtain ⟨x, hjx⟩ : ∃ x, l[j]? = some x := ⟨l[j], List.getElem?_eq_getElem hlt⟩
      obtain ⟨sk, hrow, g2, o2, hpe, e0, e1, e2, e3, e4⟩ := HCU.out j _ hjx
      subst hpe
      have d0 := (hm.bel.cell (block_lt_of_cell e0)).trans e0
      have d1 := (hm.bel.cell (block_lt_of_cell e1)).trans e1
      have d2 := (hm.bel.cell (block_lt_of_cell e2)).trans e2
      have d3 := (hm.bel.cell (block_lt_of_cell e3)).trans e3
      have d4 := (hm.bel.cell (block_lt_of_cell e4)).trans e4
      have hE := HIE.out j _ hjx
      have hh1 := hAt_step hjx
      have hm1 := mxH_step (cs := cs) hjx
      have hs1 := stS_step (cs := cs) hjx
      have ht0 := tk_bd x
      have hf0 := eff_bd x
      have cX := exchange_any x
      obtain ⟨ps, ck, rfl, _, _⟩ := hrow.form
      have bI := (Below.refl wr.heap.size wr).alloc (Nat.le_refl _) (.cells #[.int .i64 x.op, .int .i64 x.a, .int .i64 x.b, .int .i64 x.to, .slice ps x.sp.length ck] 66)
      have hxI := heap_alloc_new wr (.cells #[.int .i64 x.op, .int .i64 x.a, .int .i64 x.b, .int .i64 x.to, .slice ps x.sp.length ck] 66)
      have z0 := (cell_of_row _ _ 0 _ _ _ hxI).trans rfl
      have z1 := (cell_of_row _ _ 1 _ _ _ hxI).trans rfl
      have z3 := (cell_of_row _ _ 3 _ _ _ hxI).trans rfl
      have hmI := hm.below bI
      generalize hwI : wr.alloc (.cells #[.int .i64 x.op, .int .i64 x.a, .int .i64 x.b, .int .i64 x.to, .slice ps x.sp.length ck] 66) = wI at *
      have cA := agrees_any L (j : Int) (hAt l j) w wI hmI
      have cX' := cX wI
      obtain ⟨ht0a, ht0b⟩ := ht0
      obtain ⟨hf0a, hf0b⟩ := hf0
      clear cX hrow e0 e1 e2 e3 e4 bI hxI hm
      by_cases htk : hAt l j < tk x
      · have HNW := hidv (useT_no (cs := cs) (not_tk hjx htk))
        have HB := hidv hmI.bel
        clear cA hE hh1 hm1 hs1 hI hmI HC HCU HIE HHI HST HTO HOK hjx
        generalize hAt l j = hh at *
        generalize tk x = tt at *
        generalize mxH cs l j = mm at *
        generalize stS cs l j = ss at *
        go_wp2_with fail
        refine cX'.mono ?_
        rintro e w1 ⟨rfl, rfl⟩
        clear cX'
        go_wp2_with fail
        exact bodyPost_ret (v := .tuple #[.int .i64 0, .int .i64 0, .bool false]) (by simp [results, Tryd.results63, go_sem]) rfl ⟨0, 0, false, rfl, HNW.out, HB.out⟩
      · have htk' : ¬ hAt l j < tk x := htk
        cases hag : agB L (j : Int) (hAt l j) with
        | false =>
          obtain ⟨v, hv1, hv2⟩ := agB_false hag
          have HNW := hidv (useT_no (cs := cs) (hI.not_met hv1 hv2))
          have HB := hidv hmI.bel
          rw [hag] at cA
          clear hag hE hh1 hm1 hs1 hI hmI HC HCU HIE HHI HST HTO HOK hjx hv1 hv2 htk
          generalize hAt l j = hh at *
          generalize tk x = tt at *
          generalize mxH cs l j = mm at *
          generalize stS cs l j = ss at *
          go_wp2_with fail
          refine cX'.mono ?_
          rintro e w1 ⟨rfl, rfl⟩
          clear cX'
          go_wp2_with fail
          refine cA.mono ?_
          rintro e w1 ⟨rfl, rfl⟩
          clear cA
          go_wp2_with fail
          exact bodyPost_ret (v := .tuple #[.int .i64 0, .int .i64 0, .bool false]) (by simp [results, Tryd.results63, go_sem]) rfl ⟨0, 0, false, rfl, HNW.out, HB.out⟩
        | true =>
          rw [hag] at cA
          have hag' := agB_true hag
          clear hag
          have hle : tk x ≤ hAt l j := by omega
          have HNX : Hid (∀ (W : World) (L' : List (Int × Int)), MInv l (j + 1) L' → MmI w L' W → MRel cs l w (.int .i64 (mxH cs l (j + 1))) (.int .i64 ((l.length : Int) + (stS cs l (j + 1) - ((j + 1 : Nat) : Int)))) (.int .i64 (hAt l (j + 1))) (.int .i64 ((j + 1 : Nat) : Int)) W) := fun W L' h1 h2 => ⟨j + 1, L', rfl, by omega, rfl, rfl, rfl, h1, h2⟩
          by_cases hop : x.op = 6
          · have hg : isG x := .inl hop
            have hto := ins_to hE hg
            have cB := agrees_any L x.to (hAt l j + 1) w wI hmI
            have he0 : eff x = 0 := by unfold eff; rw [if_neg (by omega), if_neg (by omega)]
            have hm8 : ¬ x.op = 8 := by omega
            rw [if_neg hm8] at hm1 hs1
            have hob6 : (x.op == 6) = true := by rw [hop]; rfl
            cases hag2 : agB L x.to (hAt l j + 1) with
            | false =>
              obtain ⟨v, hv1, hv2⟩ := agB_false hag2
              have HNW := hidv (useT_no (cs := cs) (hI.not_two hjx hg hv1 hv2))
              have HB := hidv hmI.bel
              rw [hag2] at cB
              clear hag2 hE hh1 hm1 hs1 hI hmI HC HCU HIE HHI HST HTO HOK hjx hv1 hv2 htk HNX hag' hg he0 hm8 hop
              generalize hAt l j = hh at *
              generalize tk x = tt at *
              generalize mxH cs l j = mm at *
              generalize stS cs l j = ss at *
              go_wp2_with fail
              refine cX'.mono ?_
              rintro e w1 ⟨rfl, rfl⟩
              clear cX'
              go_wp2_with fail
              refine cA.mono ?_
              rintro e w1 ⟨rfl, rfl⟩
              clear cA
              go_wp2_with fail
              refine cB.mono ?_
              rintro e w1 ⟨rfl, rfl⟩
              clear cB
              go_wp2_with fail
              exact bodyPost_ret (v := .tuple #[.int .i64 0, .int .i64 0, .bool false]) (by simp [results, Tryd.results63, go_sem]) rfl ⟨0, 0, false, rfl, HNW.out, HB.out⟩
            | true =>
              rw [hag2] at cB
              have hI2 := hI.stepG HTO.out hjx hle hag' hg (agB_true hag2)
              obtain ⟨ob, hup, hM⟩ := insI hmI.map x.to (hAt l j + 1)
              have hmN : MmI w (upL L x.to (hAt l j + 1)) (putI wI w.heap.size ob) := ⟨putI_below hmI.bel (Nat.le_refl _) ob, hM, (putI_other ob (by omega)).trans hmI.var⟩
              have HN := hidv (HNX.out _ _ hI2 hmN)
              have zv := (cell_of_row _ _ 0 _ _ _ hmI.var).trans rfl
              clear hag2 hE hI hmI HC HCU HIE HHI HST HTO HOK hjx htk HNX hag' hg hm8 hop hI2 hM hmN
              rw [he0] at hh1 cX'
              generalize hAt l (j + 1) = h1 at *
              generalize mxH cs l (j + 1) = m1 at *
              generalize stS cs l (j + 1) = s1 at *
              generalize hAt l j = hh at *
              generalize mxH cs l j = mm at *
              generalize stS cs l j = ss at *
              generalize tk x = tt at *
              go_wp2_with fail
              refine cX'.mono ?_
              rintro e w1 ⟨rfl, rfl⟩
              clear cX'
              go_wp2_with fail
              refine cA.mono ?_
              rintro e w1 ⟨rfl, rfl⟩
              clear cA
              go_wp2_with fail
              refine cB.mono ?_
              rintro e w1 ⟨rfl, rfl⟩
              clear cB
              go_wp2_with fail
              have e1 : hh + (tt + 0 - tt) = h1 := by omega
              have e2 : max mm (hh + (tt + 0 - tt)) = m1 := by omega
              go_roundw
              case rel => exact mrel_to HN.out (by split <;> omega) (by omega) (by omega) (by omega)
              case measure => simp [intOf]; omega
          by_cases hop7 : x.op = 7
          · have hop := hop7
            clear hop7
            have hg : isG x := .inr hop
            have hto := ins_to hE hg
            have cB := agrees_any L x.to (hAt l j + 1) w wI hmI
            have he0 : eff x = 0 := by unfold eff; rw [if_neg (by omega), if_neg (by omega)]
            have hm8 : ¬ x.op = 8 := by omega
            rw [if_neg hm8] at hm1 hs1
            have hob6 : (x.op == 6) = false := by rw [hop]; rfl
            have hob7 : (x.op == 7) = true := by rw [hop]; rfl
            cases hag2 : agB L x.to (hAt l j + 1) with
            | false =>
              obtain ⟨v, hv1, hv2⟩ := agB_false hag2
              have HNW := hidv (useT_no (cs := cs) (hI.not_two hjx hg hv1 hv2))
              have HB := hidv hmI.bel
              rw [hag2] at cB
              clear hag2 hE hh1 hm1 hs1 hI hmI HC HCU HIE HHI HST HTO HOK hjx hv1 hv2 htk HNX hag' hg he0 hm8 hop
              generalize hAt l j = hh at *
              generalize tk x = tt at *
              generalize mxH cs l j = mm at *
              generalize stS cs l j = ss at *
              go_wp2_with fail
              refine cX'.mono ?_
              rintro e w1 ⟨rfl, rfl⟩
              clear cX'
              go_wp2_with fail
              refine cA.mono ?_
              rintro e w1 ⟨rfl, rfl⟩
              clear cA
              go_wp2_with fail
              refine cB.mono ?_
              rintro e w1 ⟨rfl, rfl⟩
              clear cB
              go_wp2_with fail
              exact bodyPost_ret (v := .tuple #[.int .i64 0, .int .i64 0, .bool false]) (by simp [results, Tryd.results63, go_sem]) rfl ⟨0, 0, false, rfl, HNW.out, HB.out⟩
            | true =>
              rw [hag2] at cB
              have hI2 := hI.stepG HTO.out hjx hle hag' hg (agB_true hag2)
              obtain ⟨ob, hup, hM⟩ := insI hmI.map x.to (hAt l j + 1)
              have hmN : MmI w (upL L x.to (hAt l j + 1)) (putI wI w.heap.size ob) := ⟨putI_below hmI.bel (Nat.le_refl _) ob, hM, (putI_other ob (by omega)).trans hmI.var⟩
              have HN := hidv (HNX.out _ _ hI2 hmN)
              have zv := (cell_of_row _ _ 0 _ _ _ hmI.var).trans rfl
              clear hag2 hE hI hmI HC HCU HIE HHI HST HTO HOK hjx htk HNX hag' hg hm8 hop hI2 hM hmN
              rw [he0] at hh1 cX'
              generalize hAt l (j + 1) = h1 at *
              generalize mxH cs l (j + 1) = m1 at *
              generalize stS cs l (j + 1) = s1 at *
              generalize hAt l j = hh at *
              generalize mxH cs l j = mm at *
              generalize stS cs l j = ss at *
              generalize tk x = tt at *
              go_wp2_with fail
              refine cX'.mono ?_
              rintro e w1 ⟨rfl, rfl⟩
              clear cX'
              go_wp2_with fail
              refine cA.mono ?_
              rintro e w1 ⟨rfl, rfl⟩
              clear cA
              go_wp2_with fail
              refine cB.mono ?_
              rintro e w1 ⟨rfl, rfl⟩
              clear cB
              go_wp2_with fail
              have e1 : hh + (tt + 0 - tt) = h1 := by omega
              have e2 : max mm (hh + (tt + 0 - tt)) = m1 := by omega
              go_roundw
              case rel => exact mrel_to HN.out (by split <;> omega) (by omega) (by omega) (by omega)
              case measure => simp [intOf]; omega
          by_cases hop8 : x.op = 8
          · have hop := hop8
            clear hop8 hop7
            have hca := ins_call hE hop
            obtain ⟨an, han⟩ : ∃ an : Nat, x.a = (an : Int) := ⟨x.a.toNat, by omega⟩
            have hanl : an < cs.length := by omega
            have ha0 : (0 : Int) ≤ (an : Int) := by omega
            have ha1 : (an : Int) < (cs.length : Int) := by omega
            obtain ⟨u, hu⟩ : ∃ u, cs[an]? = some u := ⟨cs[an], List.getElem?_eq_getElem hanl⟩
            obtain ⟨su, _, g3, o3, hpe, k0, k1, k2⟩ := HC.out an _ hu
            subst hpe
            have q1 := (hmI.bel.cell (block_lt_of_cell k1)).trans k1
            have q2 := (hmI.bel.cell (block_lt_of_cell k2)).trans k2
            have v1 := HHI.out an
            have v2 := HST.out an
            have v3 := (alone_ins (HOK.out an _ hu)).2.1.1.1
            rw [if_pos hop, show x.a.toNat = an by omega] at hm1 hs1
            rw [cd_at hu] at hm1 hs1 v1 v2
            obtain ⟨v2a, v2b⟩ := v2
            have he0 : eff x = 1 := by unfold eff; rw [if_pos (.inr hop)]
            have hob6 : (x.op == 6) = false := by rw [hop]; rfl
            have hob7 : (x.op == 7) = false := by rw [hop]; rfl
            have hob8 : (x.op == 8) = true := by rw [hop]; rfl
            have hng : ¬ isG x := by unfold isG; omega
            have hI2 := hI.step HTO.out hjx hle hag' hng
            have HN := hidv (HNX.out _ _ hI2 hmI)
            rw [han] at z1
            clear han hca
            clear hE hI hmI HC HCU HIE HHI HST HTO HOK hjx htk HNX hag' hop hI2 hng k0 k1 k2 hu
            rw [he0] at hh1 cX'
            clear he0
            generalize u.high = uh at *
            generalize u.steps = us at *
            generalize hAt l (j + 1) = h1 at *
            generalize mxH cs l (j + 1) = m1 at *
            generalize stS cs l (j + 1) = s1 at *
            generalize hAt l j = hh at *
            generalize mxH cs l j = mm at *
            generalize stS cs l j = ss at *
            generalize tk x = tt at *

            go_wp2_with fail
            refine cX'.mono ?_
            rintro e w1 ⟨rfl, rfl⟩
            clear cX'
            go_wp2_with fail
            refine cA.mono ?_
            rintro e w1 ⟨rfl, rfl⟩
            clear cA
            go_wp2_with fail
            go_roundw
            case rel => exact mrel_to HN.out (by repeat (first | omega | split)) (by omega) (by omega) (by omega)
            case measure => simp [intOf]; omega
          · have hob6 : (x.op == 6) = false := beq_eq_false_iff_ne.2 hop
            have hob7 : (x.op == 7) = false := beq_eq_false_iff_ne.2 hop7
            have hob8 : (x.op == 8) = false := beq_eq_false_iff_ne.2 hop8
            rw [if_neg hop8] at hm1 hs1
            have hng : ¬ isG x := by unfold isG; omega
            have hI2 := hI.step HTO.out hjx hle hag' hng
            have HN := hidv (HNX.out _ _ hI2 hmI)
            clear hE hI hmI HC HCU HIE HHI HST HTO HOK hjx htk HNX hag' hop hop7 hop8 hI2 hng
            generalize hAt l (j + 1) = h1 at *
            generalize mxH cs l (j + 1) = m1 at *
            generalize stS cs l (j + 1) = s1 at *
            generalize hAt l j = hh at *
            generalize mxH cs l j = mm at *
            generalize stS cs l j = ss at *
            generalize tk x = tt at *
            generalize eff x = ee at *
            go_wp2_with fail
            refine cX'.mono ?_
            rintro e w1 ⟨rfl, rfl⟩
            clear cX'
            go_wp2_with fail
            refine cA.mono ?_
            rintro e w1 ⟨rfl, rfl⟩
            clear cA
            go_wp2_with fail
            go_roundw
            case rel => exact mrel_to HN.out (by repeat (first | omega | split)) (by omega) (by omega) (by omega)
            case measure => simp [intOf]; omega
    · have hlt' : ¬ (j : Int) < (l.length : Int) := by omega
      have ej : j = l.length := by omega
      subst ej
      have cA := agrees_any L (l.length : Int) (hAt l l.length) w wr hm
      by_cases hfin : hAt l l.length = 1
      · have HU : Hid (UseT cs l (mxH cs l l.length) ((l.length : Int) + (stS cs l l.length - (l.length : Int))) (agB L (l.length : Int) (hAt l l.length))) := by
          refine ⟨?_, fun _ => ⟨rfl, by omega⟩⟩
          rw [agB_iff, ← hI.fin HTO.out]
          exact ⟨fun e => ⟨hfin, e⟩, fun e => e.2⟩
        have HB := hidv hm.bel
        clear hI hm HC HCU HIE HHI HST HTO HOK
        rw [hfin] at cA HU ⊢
        generalize mxH cs l l.length = mm at *
        generalize stS cs l l.length = ss at *
        generalize agB L (l.length : Int) 1 = ok at *
        go_wp2_with fail
        refine cA.mono ?_
        rintro e w1 ⟨rfl, rfl⟩
        clear cA
        go_wp2_with fail
        exact bodyPost_ret (v := .tuple #[.int .i64 mm, .int .i64 ((l.length : Int) + (ss - (l.length : Int))), .bool ok]) (by simp [results, Tryd.results63, go_sem]) rfl ⟨_, _, _, rfl, HU.out, HB.out⟩
      · have hfb : (hAt l l.length == 1) = false := beq_eq_false_iff_ne.2 hfin
        have HU : Hid (UseT cs l (mxH cs l l.length) ((l.length : Int) + (stS cs l l.length - (l.length : Int))) false) := ⟨⟨fun e => (by cases e), fun e => absurd e.fin hfin⟩, fun e => (by cases e)⟩
        have HB := hidv hm.bel
        clear hI hm HC HCU HIE HHI HST HTO HOK cA
        generalize mxH cs l l.length = mm at *
        generalize stS cs l l.length = ss at *
        generalize hAt l l.length = hh at *
        go_wp2_with fail
        exact bodyPost_ret (v := .tuple #[.int .i64 mm, .int .i64 ((l.length : Int) + (ss - (l.length : Int))), .bool false]) (by simp [results, Tryd.results63, go_sem]) rfl ⟨_, _, _, rfl, HU.out, HB.out⟩
set_option maxRecDepth 100000 in
set_option maxHeartbeats 8000000 in
theorem vfits_any (cs : List Cd) (lv : Value) (ri : Nat) (w : World) (h : InV w lv cs) (hok : ∀ (i : Nat) (c : Cd), cs[i]? = some c → aloneE c cs.length = 0) (hri : ri < cs.length) :
    Calls Tryd.prog 35 #[lv, .int .i64 (ri : Int)] w fun e w' => e = .returned (.bool (fitB cs (cs.getD ri cd0))) ∧ Below w.heap.size w w' := by
  obtain ⟨p, cp, elv, hlen, hc⟩ := h.form
  obtain ⟨u, hu⟩ : ∃ u, cs[ri]? = some u := ⟨cs[ri], List.getElem?_eq_getElem hri⟩
  obtain ⟨sv, hin, g, o, rfl, e0, e1, e2⟩ := hc ri u hu
  have hal := alone_ins (hok ri u hu)
  rw [cd_at hu]
  generalize hX : fitB cs u = X
  have hi0 : (0 : Int) ≤ (ri : Int) := by omega
  have hi1 : (ri : Int) < (cs.length : Int) := by omega
  obtain ⟨ul, hi, st⟩ := u
  dsimp only at hin e1 e2 hal
  obtain ⟨pu, cu, rfl, _, _⟩ := hin.form
  have bC := (Below.refl w.heap.size w).alloc (Nat.le_refl _) (.cells #[.slice pu ul.length cu, .int .i64 hi, .int .i64 st] 42)
  have hxC := heap_alloc_new w (.cells #[.slice pu ul.length cu, .int .i64 hi, .int .i64 st] 42)
  generalize hwC : w.alloc (.cells #[.slice pu ul.length cu, .int .i64 hi, .int .i64 st] 42) = wC at *
  have cM := measured_any cs ul lv (.slice pu ul.length cu) wC (h.below bC) (hin.below bC) hok hal.1.2 hal.2.2
  subst elv
  have z0 := (cell_of_row _ _ 0 _ _ _ hxC).trans rfl
  clear h hc hok hin hu hal
  go_enter Tryd.func35, Tryd.ntmps35
  go_wp2_with fail
  refine cM.mono ?_
  rintro e w1 ⟨hh, ss, ok, rfl, hU, b1⟩
  have hxC1 := (b1.block _ (lt_of_block hxC)).trans hxC
  have z1 := (cell_of_row _ _ 1 _ _ _ hxC1).trans rfl
  have z2 := (cell_of_row _ _ 2 _ _ _ hxC1).trans rfl
  have hb := bC.trans (b1.mono bC.size)
  clear cM b1 bC hxC hxC1 z0 hwC e0 e1 e2
  have hX2 : X = (ok && (decide (hh = hi) && decide (ss = st))) := by
    obtain ⟨u1, u2⟩ := hU
    subst hX
    cases ok with
    | false =>
      cases hf : fitB cs ⟨ul, hi, st⟩ with
      | false => rfl
      | true => exact absurd (u1.2 (fitB_iff.1 hf).well) (by simp)
    | true =>
      obtain ⟨rfl, rfl⟩ := u2 rfl
      by_cases h1 : mxH cs ul ul.length = hi
      · by_cases h2 : stS cs ul ul.length = st
        · rw [decide_eq_true h1, decide_eq_true h2]
          exact fitB_iff.2 ⟨u1.1 rfl, h1, h2⟩
        · rw [decide_eq_false h2]
          simp only [Bool.and_false]
          cases hf : fitB cs ⟨ul, hi, st⟩ with
          | false => rfl
          | true => exact absurd (fitB_iff.1 hf).steps h2
      · rw [decide_eq_false h1]
        simp only [Bool.false_and, Bool.and_false]
        cases hf : fitB cs ⟨ul, hi, st⟩ with
        | false => rfl
        | true => exact absurd (fitB_iff.1 hf).high h1
  clear hX hU
  cases ok with
  | false =>
    have hX3 : X = false := hX2
    subst hX3
    clear hX2
    go_wp2_with fail
    go_ret
    exact ⟨rfl, hb⟩
  | true =>
    by_cases h1 : hh = hi
    · by_cases h2 : ss = st
      · rw [decide_eq_true h1, decide_eq_true h2] at hX2
        have hX3 : X = true := hX2
        subst hX3 h1 h2
        clear hX2
        go_wp2_with fail
        go_ret
        exact ⟨rfl, hb⟩
      · rw [decide_eq_true h1, decide_eq_false h2] at hX2
        have hX3 : X = false := hX2
        subst hX3 h1
        have hb2 : (ss == st) = false := beq_eq_false_iff_ne.2 h2
        clear hX2 h2
        go_wp2_with fail
        go_ret
        exact ⟨rfl, hb⟩
    · rw [decide_eq_false h1] at hX2
      have hX3 : X = false := by rw [hX2]; simp
      subst hX3
      have hb1 : (hh == hi) = false := beq_eq_false_iff_ne.2 h1
      clear hX2 h1
      go_wp2_with fail
      go_ret
      exact ⟨rfl, hb⟩
end Go.Proofs.YtpmobjgnmidolaaDoor

/- vm.Wrong: what is wrong with code. -/
namespace Go.Proofs.YtpmobjgnmidolaaDoor
open Go.RowKit Msk Vx

set_option maxRecDepth 100000 in
set_option maxHeartbeats 2000000 in
theorem wrong2_any (cs : List Cd) (lv : Value) (gr gR gl ri : Nat) (w : World) (h : InV w lv cs) (hr : w.cell? ⟨gr, 0, none⟩ = some (.slice (some ⟨gR, 0, none⟩) cs.length cs.length)) (hR : w.heap[gR]? = some (.cells (ucells cs.length (wars (callE cs) cs.length)) 35 (0, 0)))
    (hl : w.cell? ⟨gl, 0, none⟩ = some lv) (h40 : cs.length ≤ 40) (hok : ∀ (i : Nat) (c : Cd), cs[i]? = some c → aloneE c cs.length = 0) (hri : ri < cs.length) :
    Calls Tryd.prog 33 #[.int .i64 (ri : Int), .pointer (some ⟨gr, 0, none⟩), .pointer (some ⟨gl, 0, none⟩)] w fun e w' => e = .returned (.int .i64 (lateE cs ri)) ∧ Below w.heap.size w w' := by
  have rc := (cell_of_row _ _ ri _ _ _ hR).trans (ucells_at hri)
  have cH := has_any (wars (callE cs) cs.length ri) ri (by omega) w
  have cF := vfits_any cs lv ri w h hok hri
  obtain ⟨p, cp, rfl, hlen, hc⟩ := h.form
  have hi0 : (0 : Int) ≤ (ri : Int) := by omega
  have hi1 : (ri : Int) < (cs.length : Int) := by omega
  generalize hX : lateE cs ri = X
  unfold lateE at hX
  clear h hc hok hR
  generalize hb : wars (callE cs) cs.length ri ri = b at *
  generalize hf : fitB cs (cs.getD ri cd0) = f at *
  cases b with
  | true =>
    rw [if_pos rfl] at hX
    subst hX
    clear cF hb hf
    generalize wars (callE cs) cs.length ri = W at *
    go_enter Tryd.func33, Tryd.ntmps33
    go_wp2_with fail
    refine cH.mono ?_
    rintro e w1 ⟨rfl, rfl⟩
    clear cH
    go_wp2_with fail
    go_ret
    exact ⟨rfl, Below.refl _ _⟩
  | false =>
    rw [if_neg (by simp)] at hX
    clear hb hf
    generalize wars (callE cs) cs.length ri = W at *
    cases f with
    | true =>
      rw [if_pos rfl] at hX
      subst hX
      go_enter Tryd.func33, Tryd.ntmps33
      go_wp2_with fail
      refine cH.mono ?_
      rintro e w1 ⟨rfl, rfl⟩
      clear cH
      go_wp2_with fail
      refine cF.mono ?_
      rintro e w2 ⟨rfl, hb2⟩
      clear cF
      go_wp2_with fail
      go_ret
      exact ⟨rfl, hb2⟩
    | false =>
      rw [if_neg (by simp)] at hX
      subst hX
      go_enter Tryd.func33, Tryd.ntmps33
      go_wp2_with fail
      refine cH.mono ?_
      rintro e w1 ⟨rfl, rfl⟩
      clear cH
      go_wp2_with fail
      refine cF.mono ?_
      rintro e w2 ⟨rfl, hb2⟩
      clear cF
      go_wp2_with fail
      go_ret
      exact ⟨rfl, hb2⟩
set_option maxRecDepth 100000 in
set_option maxHeartbeats 4000000 in
theorem vwrong_any (cs : List Cd) (lv : Value) (w : World) (h : InV w lv cs) :
    Calls Tryd.prog 12 #[lv] w fun e w' => e = .returned (.agg #[.int .i64 (wrongV cs).1, .int .i64 ((wrongV cs).2 : Int)]) ∧ Below w.heap.size w w' := by
  obtain ⟨p, cp, elv, hlen, hc⟩ := h.form
  generalize hX : wrongV cs = X
  unfold wrongV at hX
  have bA : Below w.heap.size w ((w.alloc (.cells #[lv] 23)).alloc (.cells #[.int .i64 0, .int .i64 0] 26)) := ((Below.refl _ _).alloc (Nat.le_refl _) _).alloc (by simp) _
  have hl0 : ((w.alloc (.cells #[lv] 23)).alloc (.cells #[.int .i64 0, .int .i64 0] 26)).heap[w.heap.size]? = some (.cells #[lv] 23 (0, 0)) := by (repeat (first | refine blk_old _ _ _ (by simp only [size_alloc]; omega) ?_ | exact blk_new _ _ _ (by first | rfl | simp only [size_alloc])))
  have hr0 : ((w.alloc (.cells #[lv] 23)).alloc (.cells #[.int .i64 0, .int .i64 0] 26)).heap[w.heap.size + 1]? = some (.cells #[.int .i64 0, .int .i64 0] 26 (0, 0)) := by (repeat (first | refine blk_old _ _ _ (by simp only [size_alloc]; omega) ?_ | exact blk_new _ _ _ (by first | rfl | simp only [size_alloc])))
  generalize hwA : (w.alloc (.cells #[lv] 23)).alloc (.cells #[.int .i64 0, .int .i64 0] 26) = wA at *
  have z0 := (cell_of_row _ _ 0 _ _ _ hl0).trans rfl
  have hn0 : (0 : Int) ≤ (cs.length : Int) := by omega
  have hmf : ∀ (fn : Fn) (first cap : Array Value) (w : World), (Instr.makeFunc fn first cap).run Tryd.prog w = .ok (.func fn first cap) w := fun _ _ _ _ => rfl
  by_cases hm : 40 < cs.length
  · have hm' : (40 : Int) < (cs.length : Int) := by omega
    rw [if_pos hm] at hX
    subst hX elv
    clear h hc
    go_enter Tryd.func12, Tryd.ntmps12
    go_wp2_with (refine wpList_store_row rfl 26 _ _ rfl _ _ rfl rfl _ _ hr0 (by kernel_rfl) (by simp) (by simp [Value.oneCell']) ?_)
    exact flt_retV 2 (by kernel_rfl) (w.heap.size + 1) 5 0 rfl rfl (setRow_heap _ _ _ _ _ _ hr0) ⟨rfl, below_setRow bA (by omega) _⟩
  · have hm' : ¬ (40 : Int) < (cs.length : Int) := by omega
    rw [if_neg hm] at hX
    have c1 := firstFault_any (fun i => aloneE (cs.getD i cd0) cs.length) cs.length 30 #[.pointer (some ⟨w.heap.size, 0, none⟩)] p cp wA hlen (fun _ _ => by simp [go_sem]) fun i wr hi hb => by
      exact wrong1_any cs lv w.heap.size i wr ((h.below bA).below hb) ((hb.cell (block_lt_of_cell z0)).trans z0) hi
    rw [← elv] at c1
    by_cases he : (firstF (fun i => aloneE (cs.getD i cd0) cs.length) cs.length 0).1 = 0
    · rw [if_neg (fun e => e he)] at hX
      obtain ⟨hf0, hf1⟩ := firstF_ok _ _ he
      rw [hf0] at c1
      have hok : ∀ (i : Nat) (c : Cd), cs[i]? = some c → aloneE c cs.length = 0 := fun i c hi => by
        have := hf1 i (by omega) (by have := (List.getElem?_eq_some_iff.1 hi).1; omega)
        rw [cd_at hi] at this
        exact this
      have HOK := hidv hok
      have HIN := hidv h
      have HX := hidv hX
      have HELV := hidv elv
      have sv1 : ∃ p c, lv = .slice p cs.length c := ⟨p, cp, elv⟩
      clear he hf0 hf1 hok h hc hX
      subst elv
      go_enter Tryd.func12, Tryd.ntmps12
      go_wp2_with fail
      refine c1.mono ?_
      rintro e w1 ⟨rfl, hb1⟩
      dsimp only
      have b1 := bA.trans (hb1.mono bA.size)
      have hl1 := (hb1.block _ (lt_of_block hl0)).trans hl0
      have hr1 := (hb1.block _ (lt_of_block hr0)).trans hr0
      have bF0 := (Below.refl w1.heap.size w1).alloc (Nat.le_refl _) (.cells #[.int .i64 0, .int .i64 0] 26)
      have nF0 := heap_alloc_new w1 (.cells #[.int .i64 0, .int .i64 0] 26)
      generalize hw1 : w1.alloc (.cells #[.int .i64 0, .int .i64 0] 26) = w1a at *
      have bF := below_setRow bF0 (Nat.le_refl _) #[.int .i64 0, .int .i64 0]
      have nF := setRow_heap _ _ _ #[.int .i64 0, .int .i64 0] _ _ nF0
      have hl2 := (bF.block _ (lt_of_block hl1)).trans hl1
      have hr2 := (bF.block _ (lt_of_block hr1)).trans hr1
      have b2 := b1.trans (bF.mono b1.size)
      generalize hw2 : w1a.setRow w1.heap.size #[.int .i64 0, .int .i64 0] = w2 at *
      have z2 := (cell_of_row _ _ 0 _ _ _ hl2).trans rfl
      have zF := (cell_of_row _ _ 0 _ _ _ nF).trans rfl
      have c2 := vreached_any cs _ w2 (HIN.out.below b2) (by omega) HOK.out
      clear c1 hb1 hl1 hr1 bF hl0 hr0 z0 hwA bA b1 bF0
      go_wp2_with (refine wpList_store_row rfl 26 _ _ rfl _ _ rfl rfl _ _ nF0 (by kernel_rfl) (by simp) (by simp [Value.oneCell']) ?_)
      refine c2.mono ?_
      rintro e w3 ⟨rfl, hU⟩
      have hl3 := (hU.bel.block _ (lt_of_block hl2)).trans hl2
      have hr3 := (hU.bel.block _ (lt_of_block hr2)).trans hr2
      have b3 := b2.trans (hU.bel.mono b2.size)
      have bR := (Below.refl w3.heap.size w3).alloc (Nat.le_refl _) (.cells #[.slice (some ⟨w2.heap.size, 0, none⟩) cs.length cs.length] 81)
      have nR := heap_alloc_new w3 (.cells #[.slice (some ⟨w2.heap.size, 0, none⟩) cs.length cs.length] 81)
      have hl4 := (bR.block _ (lt_of_block hl3)).trans hl3
      have hr4 := (bR.block _ (lt_of_block hr3)).trans hr3
      have hU4 := (bR.block _ (lt_of_block hU.row)).trans hU.row
      have b4 := b3.trans (bR.mono b3.size)
      generalize hw4 : w3.alloc (.cells #[.slice (some ⟨w2.heap.size, 0, none⟩) cs.length cs.length] 81) = w4 at *
      have z4 := (cell_of_row _ _ 0 _ _ _ hl4).trans rfl
      have zR := (cell_of_row _ _ 0 _ _ _ nR).trans rfl
      have c3 := firstFault_any (lateE cs) cs.length 33 #[.pointer (some ⟨w3.heap.size, 0, none⟩), .pointer (some ⟨w.heap.size, 0, none⟩)] p cp w4 hlen (fun _ _ => by simp [go_sem]) fun i wr hi hb => by
        exact wrong2_any cs _ w3.heap.size w2.heap.size w.heap.size i wr ((HIN.out.below b4).below hb) ((hb.cell (block_lt_of_cell zR)).trans zR) ((hb.block _ (lt_of_block hU4)).trans hU4) ((hb.cell (block_lt_of_cell z4)).trans z4) (by omega) HOK.out hi
      rw [HX.out] at c3
      clear c2 hU hl2 hr2 z2 zF nF nF0 hw1 b2 b3 bR hl3 hr3 hw2 hl4 hU4 nR HX
      go_wp2_with fail
      refine c3.mono ?_
      rintro e w5 ⟨rfl, hb5⟩
      have hr5 := (hb5.block _ (lt_of_block hr4)).trans hr4
      have b5 := b4.trans (hb5.mono b4.size)
      clear c3 hb5 hr4 b4 z4 zR hw4
      go_wp2_with (refine wpList_store_row rfl 26 _ _ rfl _ _ rfl rfl _ _ hr5 (by kernel_rfl) (by simp) (by simp [Value.oneCell']) ?_)
      exact flt_retV 2 (by kernel_rfl) (w.heap.size + 1) X.1 (X.2 : Int) rfl rfl (setRow_heap _ _ _ _ _ _ hr5) ⟨rfl, below_setRow b5 (by omega) _⟩
    · rw [if_pos he] at hX
      rw [hX] at he c1
      obtain ⟨xe, xa⟩ := X
      dsimp only at he c1 ⊢
      have hb0 : (xe == 0) = false := beq_eq_false_iff_ne.2 he
      have hbn : (xe != 0) = true := by simpa using he
      clear he h hc hX
      subst elv
      go_enter Tryd.func12, Tryd.ntmps12
      go_wp2_with fail
      refine c1.mono ?_
      rintro e w1 ⟨rfl, hb1⟩
      have b1 := bA.trans (hb1.mono bA.size)
      have hr1 := (hb1.block _ (lt_of_block hr0)).trans hr0
      have bF := (Below.refl w1.heap.size w1).alloc (Nat.le_refl _) (.cells #[.int .i64 xe, .int .i64 (xa : Int)] 26)
      have nF := heap_alloc_new w1 (.cells #[.int .i64 xe, .int .i64 (xa : Int)] 26)
      have hr2 := (bF.block _ (lt_of_block hr1)).trans hr1
      have b2 := b1.trans (bF.mono b1.size)
      generalize hw2 : w1.alloc (.cells #[.int .i64 xe, .int .i64 (xa : Int)] 26) = w2 at *
      have zF := (cell_of_row _ _ 0 _ _ _ nF).trans rfl
      clear c1 hb1 hr1 bF hl0 hr0 z0 hwA bA b1
      go_wp2_with (first
        | (refine wpList_load_row rfl 26 _ rfl _ rfl _ _ _ _ nF faultTypeV rfl (by kernel_rfl) ?_)
        | (refine wpList_store_row rfl 26 _ _ rfl _ _ rfl rfl _ _ hr2 (by kernel_rfl) (by simp) (by simp [Value.oneCell']) ?_))
      exact flt_retV 2 (by kernel_rfl) (w.heap.size + 1) xe (xa : Int) rfl rfl (setRow_heap _ _ _ _ _ _ hr2) ⟨rfl, below_setRow b2 (by omega) _⟩
end Go.Proofs.YtpmobjgnmidolaaDoor

/- A region that draws its order, whose values are known beforehand, and whose operations keep what is said of the world; the last one waits for all. It speaks of no program. -/
namespace Go.Proofs.YtpmobjgnmidolaaDoor
open Go Go.RowKit
section
variable {P : Program} {ops : Array Oper} {Q : Exit → Act → World → Prop} {id : Nat} {a0 : Act} {w : World}
/-- What an operation of the region comes to, in whatever world of which that is said. -/
def StepJ (P : Program) (ops : Array Oper) (Q : Exit → Act → World → Prop) (ds : List (Nat × Value)) (a0 : Act) (J : World → Prop) : Prop :=
  ∀ (i s : Nat) (v : Value) (o : Oper) (L : Nat → Bool) (A : Act) (W : World), ops[i]? = some o → ds[i]? = some (s, v) → (∀ e ∈ o.after, Region.binds .any e = true → L e.on = true) → J W →
    (∀ s, notDst ops s = true → A.tmps.getD s undef = a0.tmps.getD s undef) → (∀ (j s : Nat) (u : Value), ds[j]? = some (s, u) → L j = true → A.tmps.getD s undef = u) → wpOp P ops Q i (fun a' W' => a' = A.put (some s) v ∧ J W') A W
theorem wp_region_lastJ (J : World → Prop) (hJ0 : J w.drew) (hm : P.follows .mixedOrders = true) (hback : backB ops = true) (hdst : dstB ops = true) (hin : inB ops a0.tmps.size = true) (n : Nat) (hn : ops.size = n + 1) (huse : useB ops = true) (ds : List (Nat × Value))
    (hds : (ops.toList.take n).map (fun o => o.dst) = ds.map (fun p => some p.1)) (hnd : decide (((ops.toList.take n).map (fun o => o.dst)).Nodup) = true)
    (hstep : StepJ P ops Q ds a0 J) (hlast : ∀ (o : Oper) (W : World), ops[n]? = some o → J W → wpOp P ops Q n (fun a' W' => (∃ v, a' = (putAll ds a0).put o.dst v) ∧ Q .normal a' W') (putAll ds a0) W) : (Code.region id ops true).wp P Q a0 w := by
  have hnd' : (ds.map (fun p => some p.1)).Nodup := by rw [← hds]; exact of_decide_eq_true hnd
  have hl : ds.length = n := by
    have h := congrArg List.length hds
    simp only [List.length_map, List.length_take, Array.length_toList] at h
    omega
  refine wp_region_flow hm hback hdst hin (fun L A W => (∀ (j : Nat) (p : Oper), ops[j]? = some p → L j = true → ∀ e ∈ p.after, Region.binds .any e = true → L e.on = true) ∧ (L n = false → J W ∧ A.tmps.size = a0.tmps.size) ∧ (L n = true → Q .normal A W)) (fun j x _ => ∀ s v, ds[j]? = some (s, v) → x = v) ?_ ?_ ?_
  · intro L h
    refine ⟨fun j p hp hj => ?_, fun _ => ⟨hJ0, rfl⟩, fun h' => ?_⟩
    · have := h j (Array.getElem?_eq_some_iff.1 hp).1
      rw [this] at hj; cases hj
    · rw [h n (by omega)] at h'; cases h'
  · intro i o L A W ho hLi hdep hJ hdef hkept hhas
    obtain ⟨hc, hbel, hdone⟩ := hJ
    have hi : i < ops.size := (Array.getElem?_eq_some_iff.1 ho).1
    have hLn : L n = false := by
      cases h : L n with
      | false => rfl
      | true =>
        have := use_all huse hn hc h n i (by omega) (by omega)
        rw [this] at hLi; cases hLi
    obtain ⟨hbw, hsz⟩ := hbel hLn
    have hc' : ∀ (j : Nat) (p : Oper), ops[j]? = some p → (decide (i = j) || L j) = true → ∀ e ∈ p.after, Region.binds .any e = true → (decide (i = e.on) || L e.on) = true := by
      intro j p hp hj e he hb
      by_cases hij : i = j
      · subst hij
        rw [ho] at hp
        cases hp
        rw [hdep e he hb]; simp
      · rw [hc j p hp (by simpa [hij] using hj) e he hb]; simp
    have hread : ∀ (j s : Nat) (u : Value), ds[j]? = some (s, u) → L j = true → A.tmps.getD s undef = u := fun j s' u hj hL => by
      have hj' : j < ds.length := (List.getElem?_eq_some_iff.1 hj).1
      obtain ⟨p, hp⟩ : ∃ p, ops[j]? = some p := ⟨ops[j]'(by omega), Array.getElem?_eq_getElem _⟩
      exact hhas j p hp hL s' (dst_at hds hp hj) s' u hj
    by_cases hin' : i = n
    · subst hin'
      have hall : ∀ j, j < i → L j = true := fun j hj => by
        have := use_all huse hn hc' (L := fun k => decide (i = k) || L k) (by simp) i j (by omega) (by omega)
        simpa [show i ≠ j by omega] using this
      have e : A = putAll ds a0 := by
        refine act_is ds hdef hsz hnd' (fun s h => hkept s fun j p hp hj e => ?_) (fun j s v hj => ?_)
        · have hjn : j < i := by
            have h1 := (Array.getElem?_eq_some_iff.1 hp).1
            have h2 : j ≠ i := fun e' => by rw [e', hLn] at hj; cases hj
            omega
          obtain ⟨s', v, hv⟩ := at_dst hds hjn hp
          have := (dst_at hds hp hv).symm.trans e
          cases this
          exact h _ (List.mem_of_getElem? hv) rfl
        · exact hread j s v hj (hall j (by have := (List.getElem?_eq_some_iff.1 hj).1; omega))
      rw [e]
      refine wpOp_mono ?_ (hlast o W ho hbw)
      rintro a' W' ⟨⟨v, hv⟩, hq⟩
      refine ⟨v, hv, fun _ s' v' h => ?_, fun _ _ _ h => h, hc', fun h => by simp at h, fun _ => hq⟩
      have := (List.getElem?_eq_some_iff.1 h).1
      omega
    · obtain ⟨s, v, hv⟩ := at_dst hds (show i < n by omega) ho
      have hd := dst_at hds ho hv
      refine wpOp_mono ?_ (hstep i s v o L A W ho hv hdep hbw (fun s' h => hkept s' fun j p hp _ => nd h j p hp) hread)
      rintro a' W' ⟨rfl, hb⟩
      refine ⟨v, by rw [hd], fun _ s' v' h => by rw [hv] at h; cases h; rfl, fun _ _ _ h => h, hc', fun _ => ⟨hb, by simpa [Act.put] using hsz⟩, fun h => ?_⟩
      simp [hin', hLn] at h
  · intro L A W hL hJ hdef hsize hkept hhas
    exact hJ.2.2 (hL n (by omega))
theorem wp_region_lastK (J : World → Prop) (hJ0 : J w.drew) (hm : P.follows .mixedOrders = true) (hback : backB ops = true) (hdst : dstB ops = true) (hin : inB ops a0.tmps.size = true) (n : Nat) (hn : ops.size = n + 1) (huse : useB ops = true) (ds : List (Nat × Value))
    (hds : (ops.toList.take n).map (fun o => o.dst) = ds.map (fun p => some p.1)) (hnd : decide (((ops.toList.take n).map (fun o => o.dst)).Nodup) = true)
    (hstep : StepJ P ops Q ds a0 J) (hlast : ∀ (o : Oper) (W : World) (A : Act), ops[n]? = some o → J W → A = putAll ds a0 → wpOp P ops Q n (fun a' W' => (∃ v, a' = A.put o.dst v) ∧ Q .normal a' W') A W) : (Code.region id ops true).wp P Q a0 w :=
  wp_region_lastJ J hJ0 hm hback hdst hin n hn huse ds hds hnd hstep fun o W ho hJ => hlast o W _ ho hJ rfl
end
end Go.Proofs.YtpmobjgnmidolaaDoor

/- A region that draws its order, whose values are known beforehand; what is said of the world hangs on what has been done. It speaks of no program. -/
namespace Go.Proofs.YtpmobjgnmidolaaDoor
open Go Go.RowKit
section
variable {P : Program} {ops : Array Oper} {Q : Exit → Act → World → Prop} {id : Nat} {a0 : Act} {w : World}
/-- What has been done was ready. -/
def ClosL (ops : Array Oper) (L : Nat → Bool) : Prop := ∀ (j : Nat) (p : Oper), ops[j]? = some p → L j = true → ∀ e ∈ p.after, Region.binds .any e = true → L e.on = true
/-- What an operation of the region comes to. -/
def StepL (P : Program) (ops : Array Oper) (Q : Exit → Act → World → Prop) (ds : List (Option Nat × Value)) (a0 : Act) (J : (Nat → Bool) → World → Prop) : Prop :=
  ∀ (i : Nat) (d : Option Nat) (v : Value) (o : Oper) (L : Nat → Bool) (A : Act) (W : World), ops[i]? = some o → ds[i]? = some (d, v) → L i = false → (∀ e ∈ o.after, Region.binds .any e = true → L e.on = true) → ClosL ops L → J L W →
    (∀ s, notDst ops s = true → A.tmps.getD s undef = a0.tmps.getD s undef) → (∀ (j s : Nat) (u : Value), ds[j]? = some (some s, u) → L j = true → A.tmps.getD s undef = u) → wpOp P ops Q i (fun a' W' => a' = A.put d v ∧ J (fun k => decide (i = k) || L k) W') A W
theorem clos_lt {m : Nat} (hu : useB (ops.extract 0 (m + 1)) = true) (hm : m < ops.size) {L : Nat → Bool} (hc : ClosL ops L) {i : Nat} (hi : i < m) (hL : L i = false) : L m = false := by
  cases h : L m with
  | false => rfl
  | true =>
    have hs : (ops.extract 0 (m + 1)).size = m + 1 := by simp; omega
    have hex : ∀ (j : Nat) (p : Oper), (ops.extract 0 (m + 1))[j]? = some p → ops[j]? = some p := fun j p hp => by
      rw [Array.getElem?_extract] at hp
      split at hp
      · simpa using hp
      · cases hp
    have := use_all hu hs (L := L) (fun j p hp hj => hc j p (hex j p hp) hj) h m i (by omega) (by omega)
    rw [this] at hL; cases hL
theorem wp_region_JL (J : (Nat → Bool) → World → Prop) (hJ0 : ∀ L : Nat → Bool, (∀ i, i < ops.size → L i = false) → J L w.drew) (hm : P.follows .mixedOrders = true) (hback : backB ops = true) (hdst : dstB ops = true) (hin : inB ops a0.tmps.size = true) (ds : List (Option Nat × Value)) (es : List (Nat × Value))
    (hds : ops.toList.map (fun o => o.dst) = ds.map (fun p => p.1)) (hes : ds.filterMap (fun p => p.1.map fun s => (s, p.2)) = es) (hnd : decide ((es.map (fun p => p.1)).Nodup) = true)
    (hstep : StepL P ops Q ds a0 J) (hend : ∀ (L : Nat → Bool) (W : World), (∀ i, i < ops.size → L i = true) → J L W → Q .normal (putAll es a0) W) : (Code.region id ops true).wp P Q a0 w := by
  have hl : ds.length = ops.size := by
    have h := congrArg List.length hds
    simpa using h.symm
  have atD : ∀ {j : Nat} {p : Oper}, ops[j]? = some p → ∃ v, ds[j]? = some (p.dst, v) := fun {j p} hp => by
    have h1 : (ops.toList.map (fun o => o.dst))[j]? = some p.dst := by
      rw [List.getElem?_map, Array.getElem?_toList, hp]
      rfl
    rw [hds, List.getElem?_map] at h1
    cases hs : ds[j]? with
    | none => rw [hs] at h1; cases h1
    | some q =>
      rw [hs] at h1
      exact ⟨q.2, by rw [← Option.some.inj h1]⟩
  have atO : ∀ {j : Nat} {d : Option Nat} {v : Value}, ds[j]? = some (d, v) → ∃ p, ops[j]? = some p ∧ p.dst = d := fun {j d v} hj => by
    have hj' := (List.getElem?_eq_some_iff.1 hj).1
    obtain ⟨p, hp⟩ : ∃ p, ops[j]? = some p := ⟨ops[j]'(by omega), Array.getElem?_eq_getElem _⟩
    obtain ⟨v', hv'⟩ := atD hp
    rw [hj] at hv'
    exact ⟨p, hp, (congrArg Prod.fst (Option.some.inj hv')).symm⟩
  refine wp_region_flow hm hback hdst hin (fun L _ W => ClosL ops L ∧ J L W) (fun j x _ => ∀ d v, ds[j]? = some (d, v) → x = v) ?_ ?_ ?_
  · intro L h
    refine ⟨fun j p hp hj => ?_, hJ0 L h⟩
    have := h j (Array.getElem?_eq_some_iff.1 hp).1
    rw [this] at hj; cases hj
  · intro i o L A W ho hLi hdep hJ hdef hkept hhas
    obtain ⟨hc, hJ⟩ := hJ
    have hc' : ClosL ops (fun k => decide (i = k) || L k) := by
      intro j p hp hj e he hb
      show (decide (i = e.on) || L e.on) = true
      by_cases hij : i = j
      · subst hij
        rw [ho] at hp
        cases hp
        rw [hdep e he hb]; simp
      · rw [hc j p hp (by simpa [hij] using hj) e he hb]; simp
    obtain ⟨v, hv⟩ := atD ho
    refine wpOp_mono ?_ (hstep i o.dst v o L A W ho hv hLi hdep hc hJ (fun s' h => hkept s' fun j p hp _ => nd h j p hp) fun j s u hj hL => ?_)
    · rintro a' W' ⟨rfl, hJ'⟩
      exact ⟨v, rfl, fun _ d' v' h => by rw [hv] at h; exact congrArg Prod.snd (Option.some.inj h), fun _ _ _ h => h, hc', hJ'⟩
    · obtain ⟨p, hp, hd⟩ := atO hj
      exact hhas j p hp hL s hd _ _ hj
  · intro L A W hL hJ hdef hsize hkept hhas
    have e : A = putAll es a0 := by
      refine act_is es hdef hsize (by
        have := of_decide_eq_true hnd
        rw [show es.map (fun p => some p.1) = (es.map (fun p => p.1)).map some by rw [List.map_map]; rfl]
        rw [List.nodup_iff_pairwise_ne] at this ⊢
        rw [List.pairwise_map]
        exact this.imp fun hab e => hab (Option.some.inj e)) (fun s h => hkept s fun j p hp e => ?_) (fun j s v hj => ?_)
      · obtain ⟨v, hv⟩ := atD hp
        refine h (s, v) ?_ rfl
        rw [← hes, List.mem_filterMap]
        exact ⟨_, List.mem_of_getElem? hv, by rw [e]; rfl⟩
      · have hm' := List.mem_of_getElem? hj
        rw [← hes, List.mem_filterMap] at hm'
        obtain ⟨q, hq, hqe⟩ := hm'
        obtain ⟨k, hk⟩ := List.getElem?_of_mem hq
        obtain ⟨d, v'⟩ := q
        cases d with
        | none => cases hqe
        | some t =>
          have h2 := Option.some.inj hqe
          have h3 : t = s := congrArg Prod.fst h2
          have h4 : v' = v := congrArg Prod.snd h2
          subst h3 h4
          obtain ⟨p, hp, hd⟩ := atO hk
          exact hhas k p hp t hd _ _ hk
    rw [e]
    exact hend L W hL hJ.2
/-- Ahead of an operation this is said of the world, and behind it that. -/
def JJ (m : Nat) (Pre Post : World → Prop) (L : Nat → Bool) (W : World) : Prop := (L m = false → Pre W) ∧ (L m = true → Post W)
variable {m : Nat} {Pre Post : World → Prop} {L : Nat → Bool} {W W' : World} {i : Nat}
theorem JJ.start (hm : m < ops.size) (h : Pre W) (hL : ∀ i, i < ops.size → L i = false) : JJ m Pre Post L W := ⟨fun _ => h, fun e => by rw [hL m hm] at e; cases e⟩
theorem JJ.keep (h : JJ m Pre Post L W) (hi : i ≠ m) : JJ m Pre Post (fun k => decide (i = k) || L k) W := ⟨fun e => h.1 (by simpa [hi] using e), fun e => h.2 (by simpa [hi] using e)⟩
theorem JJ.low (hi : i ≠ m) (hL : L m = false) (h : Pre W') : JJ m Pre Post (fun k => decide (i = k) || L k) W' := ⟨fun _ => h, fun e => by simp [hi, hL] at e⟩
theorem JJ.both {R : Prop} (h : JJ m Pre Post L W) (h1 : Pre W → R) (h2 : Post W → R) : R := by
  cases hL : L m with
  | false => exact h1 (h.1 hL)
  | true => exact h2 (h.2 hL)
theorem JJ.done (h : Post W') : JJ m Pre Post (fun k => decide (m = k) || L k) W' := ⟨fun e => by simp at e, fun _ => h⟩
end
end Go.Proofs.YtpmobjgnmidolaaDoor
