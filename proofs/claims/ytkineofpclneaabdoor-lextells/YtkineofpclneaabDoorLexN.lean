/- What lex.Lex comes to. -/
import Derived.Test.YtkineofpclneaabDoorLexR
import Derived.Test.YtkineofpclneaabDoorLexG
import Derived.OwnWalk
namespace Go.Proofs.YtkineofpclneaabDoor
open Go.RowKit Lx

/-- The cells of a row of tokens. -/
def flatT : List (T1 × Nat) → List Value
  | [] => []
  | p :: l => .int .i64 p.1.kind :: .int .i64 p.1.n :: .int .i64 (p.2 : Int) :: .string ⟨p.1.text.toArray⟩ :: flatT l
theorem flatT_snoc (t : T1) (k : Nat) : ∀ l : List (T1 × Nat), flatT (l ++ [(t, k)]) = flatT l ++ [.int .i64 t.kind, .int .i64 t.n, .int .i64 (k : Int), .string ⟨t.text.toArray⟩]
  | [] => rfl
  | s :: l => by simp [flatT, flatT_snoc t k l]
theorem tokInfo : (Tryd.prog.info? 54).map (fun i => (i.zero, i.size, i.bytes)) = some (some (.agg #[.int .i64 0, .int .i64 0, .int .i64 0, .string ⟨#[]⟩]), 4, 40) := by kernel_rfl
theorem toksType : Tryd.prog.underlying 43 = some (.slice 54) := by kernel_rfl
theorem owns_below {w w' : World} {base : Nat} {e : TypeId} {size : Nat} {v : Value} {n : Nat} {xs : List Value} (h : w.ownsRow base e size v n xs) (hb : Below w.heap.size w w') : w'.ownsRow base e size v n xs := by
  obtain ⟨h1, h2⟩ := h
  refine ⟨h1, ?_⟩
  rcases h2 with h2 | ⟨g, cap, cur, hv, hg, hh, r⟩
  · exact .inl h2
  · exact .inr ⟨g, cap, cur, hv, hg, (hb.block g (lt_of_block hh)).trans hh, r⟩
theorem owns_type {w : World} {base : Nat} {e : TypeId} {size : Nat} {v : Value} {n : Nat} {xs : List Value} (h : w.ownsRow base e size v n xs) {k : Nat} {c : Array Value} {t : TypeId} (hk : w.heap[k]? = some (.cells c t (0, 0))) (ht : t ≠ e) : v.ownBlock ≠ some k := by
  obtain ⟨_, h2⟩ := h
  rcases h2 with ⟨h2, _⟩ | ⟨g, cap, cur, hv, hg, hh, r⟩
  · subst h2; simp [Value.ownBlock]
  · subst hv
    intro e1
    have e2 : g = k := by simpa [Value.ownBlock] using e1
    subst e2
    rw [hh] at hk
    exact ht (Obj.cells.inj (Option.some.inj hk)).2.1.symm
/-- What Lex hands back: too much; a fault at a place; or the tokens of the whole text. -/
def LexTells (l : List UInt8) (base : Nat) (w : World) (v : Value) (er at_ : Int) : Prop :=
  (6000 < l.length ∧ v = .slice none 0 0 ∧ er = 4 ∧ at_ = 0) ∨
  (∃ (ts : List (T1 × Nat)) (k : Nat), l.length ≤ 6000 ∧ Lexed l ts k ∧ k < l.length ∧ (firstT (l.drop k)).err ≠ 0 ∧ v = .slice none 0 0 ∧ er = (firstT (l.drop k)).err ∧ at_ = (k : Int)) ∨
  (∃ (ts : List (T1 × Nat)) (k : Nat), l.length ≤ 6000 ∧ Lexed l ts k ∧ ¬ k < l.length ∧ w.ownsRow base 54 4 v ts.length (flatT ts) ∧ er = 0 ∧ at_ = 0)
theorem LexTells.much {l : List UInt8} {base : Nat} {w : World} (h : 6000 < l.length) : LexTells l base w (.slice none 0 0) 4 0 := .inl ⟨h, rfl, rfl, rfl⟩
theorem LexTells.wrong {l : List UInt8} {base : Nat} {w : World} {ts : List (T1 × Nat)} {k : Nat} (h6 : l.length ≤ 6000) (hL : Lexed l ts k) (hk : k < l.length) (he : (firstT (l.drop k)).err ≠ 0) : LexTells l base w (.slice none 0 0) (firstT (l.drop k)).err (k : Int) := .inr (.inl ⟨ts, k, h6, hL, hk, he, rfl, rfl, rfl⟩)
theorem LexTells.right {l : List UInt8} {base : Nat} {w : World} {ts : List (T1 × Nat)} {k : Nat} {v : Value} (h6 : l.length ≤ 6000) (hL : Lexed l ts k) (hk : ¬ k < l.length) (ho : w.ownsRow base 54 4 v ts.length (flatT ts)) : LexTells l base w v 0 0 := .inr (.inr ⟨ts, k, h6, hL, hk, ho, rfl, rfl⟩)
theorem faultType : Tryd.prog.underlying 46 = some (.struct (Tryd.prog.fieldsOf 46)) := by kernel_rfl
theorem lex_post {R : Ending → World → Prop} {a : Act} {w : World} (g : Nat) (v : Value) (er at_ : Int) (hd : a.defers = []) (h2 : a.tmps.getD 2 undef = v) (h3 : a.tmps.getD 3 undef = .pointer (some ⟨g, 0, none⟩))
    (hg : w.heap[g]? = some (.cells #[.int .i64 er, .int .i64 at_] 46 (0, 0))) (hR : R (.returned (.tuple #[v, .agg #[.int .i64 er, .int .i64 at_]])) w) : bodyPost Tryd.prog Tryd.f21 R .ret a w := by
  refine bodyPost_ret (v := .tuple #[v, .agg #[.int .i64 er, .int .i64 at_]]) ?_ hd hR
  have h2' : a.tmps[2]?.getD undef = v := by simpa using h2
  have h3' : a.tmps[3]?.getD undef = .pointer (some ⟨g, 0, none⟩) := by simpa using h3
  have hv := run_loadVar_row (P := Tryd.prog) w g 46 46 _ _ _ hg faultType rfl (by kernel_rfl)
  simp [results, Tryd.results21, h2', h3', asAddr, hv]
theorem owns_setRow {w : World} {base : Nat} {e : TypeId} {size : Nat} {v : Value} {n : Nat} {xs : List Value} (h : w.ownsRow base e size v n xs) {g : Nat} (hg : v.ownBlock ≠ some g) (cs : Array Value) : (w.setRow g cs).ownsRow base e size v n xs := by
  obtain ⟨h1, h2⟩ := h
  refine ⟨h1, ?_⟩
  rcases h2 with h2 | ⟨g', cap, cur, hv, hb, hh, r⟩
  · exact .inl h2
  · refine .inr ⟨g', cap, cur, hv, hb, (setRow_other _ _ _ _ fun e => hg ?_).trans hh, r⟩
    subst hv
    simp [Value.ownBlock, e]
theorem CTab.later {w w' : World} (h : CTab w) (hb : Below w.heap.size w w') : CTab w' := h.below hb

set_option maxRecDepth 10000 in
set_option maxHeartbeats 400000 in
theorem lex_any (s : ByteArray) (l : List UInt8) (hs : s.data.toList = l) (hl : l.length ≤ 9223372036854775807) (w : World) (hT : CTab w) :
    Calls Tryd.prog 21 #[.string s] w fun e w' => (∃ v er at_, e = .returned (.tuple #[v, .agg #[.int .i64 er, .int .i64 at_]]) ∧ LexTells l w.heap.size w' v er at_) ∧ Below w.heap.size w w' := by
  have hz : s.size = l.length := by rw [← hs, Lib.size_eq]
  obtain ⟨i0, hi, hz0, hz1, hz2⟩ := info_parts tokInfo
  have hb0 : Below w.heap.size w (w.alloc (.cells #[.int .i64 0, .int .i64 0] 46)) := (Below.refl _ _).alloc (Nat.le_refl _) _
  have h0 : (w.alloc (.cells #[.int .i64 0, .int .i64 0] 46)).heap[w.heap.size]? = some (.cells #[.int .i64 0, .int .i64 0] 46 (0, 0)) := heap_alloc_new w _
  by_cases hm : 6000 < l.length
  · have hm' : (6000 : Int) < (l.length : Int) := by omega
    go_enter Tryd.func21, Tryd.ntmps21
    go_wp2
    exact lex_post w.heap.size (.slice none 0 0) 4 0 rfl rfl rfl (heap_alloc_new w _) ⟨⟨_, _, _, rfl, LexTells.much hm⟩, (Below.refl _ _).alloc (Nat.le_refl _) _⟩
  · have hm' : ¬ (6000 : Int) < (l.length : Int) := by omega
    have HT : Hid (CTab w) := hT
    clear hT
    have c0 := fun w => skip_any s l hs (by omega) 0 (0 + skipS false (l.drop 0)) (by omega) rfl w
    have hst := Lexed.start (l := l)
    generalize hk0 : 0 + skipS false (l.drop 0) = k0 at *
    have HS : Hid (Lexed l [] k0) := hst
    clear hst hk0
    go_enter Tryd.func21, Tryd.ntmps21
    go_wp2_with (go_at_call 41; refine (c0 _).mono ?_; rintro e w' ⟨rfl, rfl⟩)
    go_loopw [4, 5] (fun v i wr => ∃ (ts : List (T1 × Nat)) (k : Nat), i = .int .i64 k ∧ Lexed l ts k ∧ wr.ownsRow w.heap.size 54 4 v ts.length (flatT ts) ∧ wr.heap[w.heap.size]? = some (.cells #[.int .i64 0, .int .i64 0] 46 (0, 0)) ∧ Below w.heap.size w wr) (fun _ i _ => l.length - (intOf i).toNat)
    case atStart => exact ⟨[], k0, rfl, HS.out, World.ownsRow_nil _ _ _ _, h0, hb0⟩
    case round =>
      obtain ⟨ts, k, rfl, hlx, hown, hf, hbel⟩ := hrel
      clear h0 hb0 HS c0
      obtain ⟨hkl, htl⟩ := hlx.le
      by_cases hlt : k < l.length
      · have hlt' : (k : Int) < (l.length : Int) := by omega
        have hk0 : (0 : Int) ≤ (k : Int) := by omega
        have hkl' : (k : Int) ≤ (l.length : Int) := by omega
        have cT : ∀ w, CTab w → Calls Tryd.prog 42 #[.string (s.extract k l.length)] w fun e w' => e = .returned (.tuple #[.agg #[.int .i64 (firstT (l.drop k)).kind, .int .i64 (firstT (l.drop k)).n, .int .i64 0, .string ⟨(firstT (l.drop k)).text.toArray⟩], .int .i64 ((firstT (l.drop k)).len : Int), .int .i64 (firstT (l.drop k)).err]) ∧ Below w.heap.size w w' := fun w hT => first_any (s.extract k l.length) (l.drop k) (by rw [Lib.extract_data, hs]; exact List.take_of_length_le (by simp)) (by simp; omega) (drop_pos hlt) w hT
        by_cases he : (firstT (l.drop k)).err = 0
        · have hfine := first_fine _ (drop_pos hlt) he
          have hnx := Lexed.step hlx hlt he
          have hp1 := hfine.pos
          have hp2 := hfine.le
          simp only [List.length_drop] at hp2
          have cs := fun w => skip_any s l hs (by omega) (k + (firstT (l.drop k)).len) _ (by omega) rfl w
          rw [he] at cT
          generalize firstT (l.drop k) = t at *
          generalize hk1 : k + t.len + skipS false (l.drop (k + t.len)) = k1 at *
          have hsk : k < k1 := by omega
          have HX : Hid (Lexed l (ts ++ [(t, k)]) k1) := hnx
          have q1 : IntKind.i64.wrap ((k : Int) + (t.len : Int)) = ((k + t.len : Nat) : Int) := by rw [IntKind.wrap_i64]; omega
          clear hnx he hfine hk1 hlx
          obtain ⟨kd, nn, tx, tl, te⟩ := t
          dsimp only at *
          go_wp2_with (first
            | (go_at_call 42; refine (cT _ (HT.out.later hbel)).mono ?_; rintro e w1 ⟨rfl, hb1⟩; have hf1 := (hb1.block _ (lt_of_block hf)).trans hf; have hown1 := owns_below hown hb1; have hbel1 := hbel.trans (hb1.mono hbel.size); clear hf hown hbel hb1 cT)
            | (at_builtin; refine wpList_append_own _ rfl _ _ 43 rfl w.heap.size 54 i0 (.agg #[.int .i64 0, .int .i64 0, .int .i64 0, .string ⟨#[]⟩]) 4 40 toksType hi hz0 hz1 hz2 rfl (by decide) u4 ts.length (flatT ts) rfl ((hown1.alloc _).alloc _) ⟨w1.heap.size + 1, 0, none⟩ 1 1 [.int .i64 kd, .int .i64 nn, .int .i64 (k : Int), .string ⟨tx.toArray⟩] rfl rfl ?c1 ?c2 ?c3 ?c4 ?c5 ?_))
          case c1 =>
            intro j u hj
            match j, hj with
            | 0, hj => simp at hj; subst hj; simp [Addr.add]
            | 1, hj => simp at hj; subst hj; simp [Addr.add]
            | 2, hj => simp at hj; subst hj; simp [Addr.add]
            | 3, hj => simp at hj; subst hj; simp [Addr.add]
          case c2 => intro u hu; simp at hu; rcases hu with rfl | rfl | rfl | rfl <;> rfl
          case c3 => unfold maxLen; omega
          case c4 => omega
          case c5 => have := hbel1.size; simp; omega
          · intro v' w2 hown' hgrow _
            have hown2 : w2.ownsRow w.heap.size 54 4 v' (ts ++ [((⟨kd, nn, tx, tl, te⟩ : T1), k)]).length (flatT (ts ++ [((⟨kd, nn, tx, tl, te⟩ : T1), k)])) := by
              rw [flatT_snoc]
              simp only [List.length_append, List.length_cons, List.length_nil, Nat.zero_add]
              exact hown'
            have lf := lt_of_block hf1
            have hfa := (Below.heap_alloc w1 (.cells #[.int .i64 kd, .int .i64 nn, .int .i64 (k : Int), .string ⟨tx.toArray⟩] 54) _ lf).trans hf1
            have hfb := (Below.heap_alloc _ (.cells #[.int .i64 kd, .int .i64 nn, .int .i64 (k : Int), .string ⟨tx.toArray⟩] 54) _ (lt_of_block hfa)).trans hfa
            have hf2 := (hgrow.block _ (lt_of_block hfb) (fun e => owns_type hown1 hf1 (by decide) e.symm)).trans hfb
            have hbel2 : Below w.heap.size w w2 := ((hbel1.alloc hbel1.size _).alloc (by have := hbel1.size; simp; omega) _).grown hgrow (by have := hbel1.size; simp; omega) (fun k hk => (hown1.lt k hk).1)
            clear hown' hgrow hown1 hf1 hbel1 hfa hfb lf
            go_wp2_with (go_at_call 41; refine (cs _).mono ?_; rintro e w' ⟨rfl, rfl⟩)
            go_roundw
            case rel => exact ⟨_, k1, rfl, HX.out, hown2, hf2, hbel2⟩
            case measure =>
              have := HX.out.le
              simp [intOf]; omega
        · have hne : ((firstT (l.drop k)).err != 0) = true := by simpa using he
          have HO : ∀ w', Hid (LexTells l w.heap.size w' (.slice none 0 0) (firstT (l.drop k)).err (k : Int)) := fun w' => LexTells.wrong (by omega) hlx hlt he
          clear he hlx hown
          generalize firstT (l.drop k) = t at *
          obtain ⟨kd, nn, tx, tl, te⟩ := t
          dsimp only at *
          go_wp2_with (first
            | (go_at_call 42; refine (cT _ (HT.out.later hbel)).mono ?_; rintro e w1 ⟨rfl, hb1⟩; have hf1 := (hb1.block _ (lt_of_block hf)).trans hf; have hbel1 := hbel.trans (hb1.mono hbel.size); have hfa := (Below.heap_alloc w1 (.cells #[.int .i64 kd, .int .i64 nn, .int .i64 0, .string ⟨tx.toArray⟩] 54) _ (lt_of_block hf1)).trans hf1; have hbela := hbel1.alloc hbel1.size (.cells #[.int .i64 kd, .int .i64 nn, .int .i64 0, .string ⟨tx.toArray⟩] 54); clear hf hbel hb1 cT hf1)
            | (refine wpList_store_row rfl 46 _ _ rfl _ _ rfl rfl _ _ hfa (by kernel_rfl) (by simp) (by simp [Value.oneCell']) ?_))
          exact lex_post w.heap.size (.slice none 0 0) te (k : Int) rfl rfl rfl (setRow_heap _ _ _ _ _ _ hfa) ⟨⟨_, _, _, rfl, (HO _).out⟩, below_setRow hbela (Nat.le_refl _) _⟩
      · have hob := owns_type hown hf (by decide)
        have HO : ∀ cs, Hid (LexTells l w.heap.size (wr.setRow w.heap.size cs) u4 0 0) := fun cs => LexTells.right (by omega) hlx hlt (owns_setRow hown hob cs)
        have hlt' : ¬ (k : Int) < (l.length : Int) := by omega
        clear hlx hown hob
        go_wp2_with (refine wpList_store_row rfl 46 _ _ rfl _ _ rfl rfl _ _ hf (by kernel_rfl) (by simp) (by simp [Value.oneCell']) ?_)
        exact lex_post w.heap.size u4 0 0 rfl rfl rfl (setRow_heap _ _ _ _ _ _ hf) ⟨⟨_, _, _, rfl, (HO _).out⟩, below_setRow hbel (Nat.le_refl _) _⟩
end Go.Proofs.YtkineofpclneaabDoor
