/- The law ParseTells, walked out of the contracts. -/
import Derived.Test.YtggcepicghibjacDoorPm30
import Derived.Test.YtggcepicghibjacDoorPm32
import Derived.Test.YtggcepicghibjacDoorPm08
import Derived.Test.YtggcepicghibjacDoorPm04
import Derived.Test.YtggcepicghibjacDoorCards
import Derived.Test.YtggcepicghibjacDoorTie
import Derived.ProofKit
import Derived.LaidMore
import Derived.OpenShut
import Derived.Stop.Joined
import Derived.SevenTiedAt
import Derived.Lib.SmallJoins
import Derived.Lib.LaidTab
namespace Go.Proofs.YtggcepicghibjacDoor
open Go.RowKit Lx

theorem kidsR_of_row {w0 w : World} {v : Value} {us : List (Ru × Value)} (h : RowR w0 w v us) : KidsR (fun k => w0.heap.size ≤ k) w us := h.kids
theorem KidsR.below {B : Nat → Prop} {w w' : World} {us : List (Ru × Value)} (h : KidsR B w us) (hb : Below w.heap.size w w') : KidsR B w' us := fun p hp => by
  obtain ⟨d, hd⟩ := h p hp
  exact ⟨d, hd.kept fun k _ hl => hb.block k hl⟩
/-- What is told of one text is told one way. -/
theorem ptells_same {l : List UInt8} {w0 w w0' w' : World} {v v' : Value} {er er' at_ at' : Int} (h : PTells l w0 w v er at_) (h' : PTells l w0' w' v' er' at') :
    er' = er ∧ at' = at_ ∧ ∃ (us us' : List (Ru × Value)), RRow w v us ∧ RRow w' v' us' ∧ KidsR (fun k => w0.heap.size ≤ k) w us ∧ KidsR (fun k => w0'.heap.size ≤ k) w' us' ∧ us.map (fun p => p.1) = us'.map (fun p => p.1) := by
  have nil : ∀ (B : Nat → Prop) (w : World), KidsR B w [] := fun _ _ p hp => by cases hp
  have none : ∀ w : World, RRow w (.slice none 0 0) [] := fun _ => .inl ⟨rfl, _, _, rfl⟩
  rcases h with ⟨h1, rfl, rfl, rfl⟩ | ⟨ts, k, h1, hL, hk, he, rfl, rfl, rfl⟩ | ⟨ts, k, e1, a1, h1, hL, hk, hX, rfl, rfl, rfl⟩ | ⟨ts, k, us, h1, hL, hk, hX, h40, hr, rfl, rfl⟩
  · rcases h' with ⟨_, rfl, rfl, rfl⟩ | ⟨_, _, h2, _⟩ | ⟨_, _, _, _, h2, _⟩ | ⟨_, _, _, h2, _⟩
    · exact ⟨rfl, rfl, [], [], none _, none _, nil _ _, nil _ _, rfl⟩
    · omega
    · omega
    · omega
  · rcases h' with ⟨h2, _⟩ | ⟨ts', k', _, hL', hk', he', rfl, rfl, rfl⟩ | ⟨ts', k', _, _, _, hL', hk', _⟩ | ⟨ts', k', _, _, hL', hk', _⟩
    · omega
    · obtain ⟨_, e⟩ := lexed_one hL hL' (fun h => he h.2) (fun h => he' h.2)
      subst e
      exact ⟨rfl, rfl, [], [], none _, none _, nil _ _, nil _ _, rfl⟩
    · obtain ⟨_, e⟩ := lexed_one hL hL' (fun h => he h.2) (fun h => hk' h.1)
      omega
    · obtain ⟨_, e⟩ := lexed_one hL hL' (fun h => he h.2) (fun h => hk' h.1)
      omega
  · rcases h' with ⟨h2, _⟩ | ⟨ts', k', _, hL', hk', he', _⟩ | ⟨ts', k', _, _, _, hL', hk', hX', rfl, rfl, rfl⟩ | ⟨ts', k', _, _, hL', hk', hX', _⟩
    · omega
    · obtain ⟨_, e⟩ := lexed_one hL hL' (fun h => hk h.1) (fun h => he' h.2)
      omega
    · obtain ⟨e, _⟩ := lexed_one hL hL' (fun h => hk h.1) (fun h => hk' h.1)
      subst e
      rw [hX] at hX'
      cases hX'
      exact ⟨rfl, rfl, [], [], none _, none _, nil _ _, nil _ _, rfl⟩
    · obtain ⟨e, _⟩ := lexed_one hL hL' (fun h => hk h.1) (fun h => hk' h.1)
      subst e
      rw [hX] at hX'
      cases hX'
  · rcases h' with ⟨h2, _⟩ | ⟨ts', k', _, hL', hk', he', _⟩ | ⟨ts', k', _, _, _, hL', hk', hX', _⟩ | ⟨ts', k', us', _, hL', hk', hX', h40', hr', rfl, rfl⟩
    · omega
    · obtain ⟨_, e⟩ := lexed_one hL hL' (fun h => hk h.1) (fun h => he' h.2)
      omega
    · obtain ⟨e, _⟩ := lexed_one hL hL' (fun h => hk h.1) (fun h => hk' h.1)
      subst e
      rw [hX] at hX'
      cases hX'
    · obtain ⟨e, _⟩ := lexed_one hL hL' (fun h => hk h.1) (fun h => hk' h.1)
      subst e
      rw [hX] at hX'
      exact ⟨rfl, rfl, us, us', rrow_of_owns hr.own (by omega), rrow_of_owns hr'.own (by omega), kidsR_of_row hr, kidsR_of_row hr', Except.ok.inj hX'⟩
theorem eqFaultP (a b : Int) (w : World) : (Op.equalIn 10000 26 (.agg #[.int .i64 a, .int .i64 b]) (.agg #[.int .i64 a, .int .i64 b])).run Tryd.prog w = .ok true w := by
  rw [run_equalIn_struct w 9999 26 _ _ (by kernel_rfl) (by kernel_rfl)]
  simp [Program.fieldsOf, Tryd.underlying26, Op.eqFields]
  go_simp
theorem eqlFault (a b : Int) (w : World) : (binOp .eql 26 (.agg #[.int .i64 a, .int .i64 b]) (.agg #[.int .i64 a, .int .i64 b])).run Tryd.prog w = .ok (.bool true) w := by
  rw [run_eql_struct, eqFaultP]; simp [Result.andThen]
attribute [local go_sem] eqlFault

set_option maxRecDepth 100000 in
set_option maxHeartbeats 2000000 in
theorem ptells_walk (s : ByteArray) (hl : s.size ≤ 9223372036854775806) (w : World) (hT : CTab w) (hD : DTab w) :
    Calls Tryd.prog 4 #[.string s] w fun e w' => e = .returned (.bool true) ∧ Below w.heap.size w w' := by
  obtain ⟨l, hs⟩ : ∃ l, s.data.toList = l := ⟨_, rfl⟩
  have hz : s.size = l.length := by rw [← hs, Lib.size_eq]
  rw [hz] at hl
  have cX := parse_any s l hs (by omega) w hT hD
  have cY := fun w => rparse_any s l hs (by omega) w
  clear hT hD
  go_enter Tryd.func4, Tryd.ntmps4
  go_wp2_with fail
  refine cX.mono ?_
  rintro e w1 ⟨⟨v, er, at_, rfl, hx⟩, hb1⟩
  have hb1a := hb1.alloc hb1.size (.cells #[.int .i64 er, .int .i64 at_] 26)
  have hf1 := heap_alloc_new w1 (.cells #[.int .i64 er, .int .i64 at_] 26)
  go_wp2_with fail
  refine (cY _).mono ?_
  rintro e w2 ⟨⟨v', er', at', rfl, hy⟩, hb2⟩
  obtain ⟨rfl, rfl, us, us', r1, r2, k1, k2, hmap⟩ := ptells_same hx hy
  have b1 := (Below.refl _ w1).alloc (Nat.le_refl _) (.cells #[.int .i64 er', .int .i64 at'] 26)
  have b2 := (Below.refl _ w2).alloc (Nat.le_refl _) (.cells #[.int .i64 er', .int .i64 at'] 26)
  have r1a := ((r1.below b1).below hb2).below b2
  have r2a := r2.below b2
  have k1a := ((k1.below b1).below hb2).below b2
  have k2a := k2.below b2
  have hb2a := hb1a.trans (hb2.mono hb1a.size)
  have hb2b := hb2a.alloc hb2a.size (.cells #[.int .i64 er', .int .i64 at'] 26)
  have hf2 := (Below.heap_alloc w2 (.cells #[.int .i64 er', .int .i64 at'] 26) _ (lt_of_block ((hb2.block _ (lt_of_block hf1)).trans hf1))).trans ((hb2.block _ (lt_of_block hf1)).trans hf1)
  have hg2 := heap_alloc_new w2 (.cells #[.int .i64 er', .int .i64 at'] 26)
  have cS := same_any _ _ us us' v v' _ r1a r2a k1a k2a hmap
  clear hx hy hb1 hb1a hb2 hf1 r1 r2 r1a r2a k1 k2 k1a k2a hb2a cX cY b1 b2 hmap
  generalize hW2 : w2.alloc (.cells #[.int .i64 er', .int .i64 at'] 26) = W2 at *
  go_wp2_with (first
    | (refine wpList_load_row rfl 26 _ rfl _ rfl _ _ _ _ hf2 faultType rfl (by kernel_rfl) ?_; clear hf2)
    | (refine wpList_load_row rfl 26 _ rfl _ rfl _ _ _ _ hg2 faultType rfl (by kernel_rfl) ?_; clear hg2))
  refine cS.mono ?_
  rintro e w3 ⟨rfl, hb3⟩
  have hb3a := hb2b.trans (hb3.mono hb2b.size)
  clear cS hb3 hb2b hW2
  go_wp2_with fail
  go_ret
  exact ⟨rfl, hb3a⟩
end Go.Proofs.YtggcepicghibjacDoor

/- What the condition on the two listed tables (months, names of days) gives the walks, and the start that meets it. -/
namespace Go.Proofs.YtggcepicghibjacDoor
open Go.ChangeShapes Go.WideShapes Go.ChangeAt Go.WideMaps Go.WideElems Go.RowKit Go.Joins Lx

/-- The listed variables. -/
abbrev laid2 : List (String × DataW Unit) := Rows.parseTellsRow.laid
def lenName : String := (Rows.parseTellsRow.named.headD default)
def dayName : String := (Rows.parseTellsRow.named.getD 1 default)
theorem own : ownKnob Tryd.prog.godebug = none := by kernel_rfl
theorem gLen : Tryd.prog.globalNamed lenName = some 1 := by kernel_rfl
theorem tLen : (Tryd.prog.globals[1]?).map (·.type) = some 123 := by kernel_rfl
theorem gDay : Tryd.prog.globalNamed dayName = some 0 := by kernel_rfl
theorem tDay : (Tryd.prog.globals[0]?).map (·.type) = some 118 := by kernel_rfl
theorem c3 : Tryd.prog.cellsOf 3 = 1 := by kernel_rfl
theorem c34 : Tryd.prog.cellsOf 123 = 12 := by kernel_rfl
theorem cStr : Tryd.prog.cellsOf 9 = 1 := by kernel_rfl
theorem cDay : Tryd.prog.cellsOf 118 = 7 := by kernel_rfl
theorem door_met (os : Os) (args : Array Value) : laidMetH Tryd.prog laid2 ((World.doorLaid Tryd.prog 400 os).forCall (fun _ _ => 0) ⟨#[], args, []⟩).memory :=
  laidMetH_of_parts3 (fuel := 8) (laidMet_of_run' 8 (by kernel_rfl) (by kernel_rfl)) (by kernel_rfl) (by kernel_rfl)
theorem ctab_of_laid {W : World} (h : laidMetH Tryd.prog laid2 W) : CTab W := by
  rw [MakeChecks.laidMetH_plain _ _ _ (by kernel_rfl)] at h
  have t : Lib.TabIs Tryd.prog W lenName .i64 tab := Lib.tabIs_of_head (name := lenName) (rest := Rows.parseTellsRow.laid.tail) gLen tLen Tryd.underlying123 Tryd.underlying3 c3 c34 h
  intro i hi
  exact t.cell gLen i (by simpa [tab] using hi)
/-- A cell of an array of strings, where the array reads as these texts. -/
theorem str_cell {H : Type} {enc : TypeId × Value → H} {P : Program} {w : World} {base : Nat} {sp : Nat → Bool} {held : Bool} {t e : TypeId} {n : Nat} {cs : List Value} {zs : List (List UInt8)} {p : List MemPlace} (ht : P.underlying t = some (.array n e)) (he : P.underlying e = some .string) (hce : P.cellsOf e = 1) (hct : P.cellsOf t = n) :
    ∀ fuel, DataW.trod enc P w base sp held fuel t cs = some (.agg (zs.map fun z => .lit (.string z)), p) → ∀ (i : Nat) (z : List UInt8), zs[i]? = some z → cs[i]? = some (.string ⟨z.toArray⟩)
  | 0, h, _, _, _ => by simp [DataW.trod] at h
  | fuel + 1, h, i, z, hz => by
    simp only [DataW.trod, ht, hce, hct, Nat.mul_one] at h
    split at h
    · obtain ⟨xs, hm, hx⟩ := Option.map_eq_some_iff.1 h
      have h1 : xs.map (fun x => x.1) = zs.map fun z => (DataW.lit (.string z) : DataW H) := by simpa using congrArg Prod.fst hx
      have h2 : (xs.map fun x => x.1)[i]? = some (DataW.lit (.string z) : DataW H) := by rw [h1, List.getElem?_map, hz]; rfl
      rw [List.getElem?_map] at h2
      obtain ⟨x, hx1, hx2⟩ := Option.map_eq_some_iff.1 h2
      have hin : i < n := by
        have a := (List.getElem?_eq_some_iff.1 hx1).1
        have b := Lib.mapM_length hm
        simp at b; omega
      obtain ⟨b, hb, hf⟩ := Lib.mapM_at hm i i (by simp [hin])
      obtain ⟨s, hc, rfl, _⟩ := DataW.trod_string he hf
      rw [hb] at hx1
      obtain rfl := Option.some.inj hx1
      have hs : s.data.toList = z := by simpa using hx2
      have h3 := congrArg (fun l : List Value => l[0]?) hc
      have h4 : cs[i]? = some (.string s) := by simpa [List.getElem?_take, List.getElem?_drop] using h3
      rw [h4, ← hs]
    · cases h
theorem dtab_of_laid {W : World} (h : laidMetH Tryd.prog laid2 W) : DTab W := by
  rw [MakeChecks.laidMetH_plain _ _ _ (by kernel_rfl)] at h
  obtain ⟨ps, ⟨_, _, _, _, _, _, _, _, _, _, ⟨g, t, cs, fuel, p, q, hg, ht, hv, hd, _, _⟩, _⟩, _⟩ := h
  obtain rfl := Option.some.inj (gDay.symm.trans hg)
  obtain rfl := Option.some.inj (tDay.symm.trans ht)
  intro j hj
  have hz : wDays[j]? = some (wDays.getD j []) := by
    rw [List.getD_eq_getElem?_getD, List.getElem?_eq_getElem (by exact hj)]; rfl
  have hc := str_cell (zs := wDays) Tryd.underlying118 Tryd.underlying9 cStr cDay fuel hd j _ hz
  have := World.var?_cell gDay hv j
  rw [this]
  simpa using hc
end Go.Proofs.YtggcepicghibjacDoor
