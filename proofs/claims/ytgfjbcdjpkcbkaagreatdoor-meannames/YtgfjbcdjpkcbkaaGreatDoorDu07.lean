/- What lex.Lex comes to. -/
import Derived.Test.YtgfjbcdjpkcbkaaGreatDoorDu06
import Derived.OwnWalk
import Derived.Test.YtgfjbcdjpkcbkaaGreatDoorDu01
import Derived.Laws.StructEq
namespace Go.Proofs.YtgfjbcdjpkcbkaaGreatDoor
open Go.RowKit Lx
def flatT : List (T1 × Nat) → List Value
  | [] => []
  | p :: l => .int .i64 p.1.kind :: .int .i64 p.1.n :: .int .i64 (p.2 : Int) :: .string ⟨p.1.text.toArray⟩ :: flatT l
theorem flatT_snoc (t : T1) (k : Nat) : ∀ l : List (T1 × Nat), flatT (l ++ [(t, k)]) = flatT l ++ [.int .i64 t.kind, .int .i64 t.n, .int .i64 (k : Int), .string ⟨t.text.toArray⟩]
  | [] => rfl
  | s :: l => by simp [flatT, flatT_snoc t k l]
theorem tokInfo : (Tryz.prog.info? 101).map (fun i => (i.zero, i.size, i.bytes)) = some (some (.agg #[.int .i64 0, .int .i64 0, .int .i64 0, .string ⟨#[]⟩]), 4, 40) := by kernel_rfl
theorem toksType : Tryz.prog.underlying 81 = some (.slice 101) := by kernel_rfl
theorem owns_below {w w' : World} {base : Nat} {e : TypeId} {size : Nat} {v : Value} {n : Nat} {xs : List Value} (h : w.ownsRow base e size v n xs) (hb : Below w.heap.size w w') : w'.ownsRow base e size v n xs := by
  obtain ⟨h1, h2⟩ := h
  refine ⟨h1, ?_⟩
  rcases h2 with h2 | ⟨g, cap, cur, hv, hg, hh, r⟩
  · exact .inl h2
  · exact .inr ⟨g, cap, cur, hv, hg, (hb.block g (lt_of_block hh)).trans hh, r⟩
theorem owns_type {w : World} {base : Nat} {e : TypeId} {size : Nat} {v : Value} {n : Nat} {xs : List Value} (h : w.ownsRow base e size v n xs) {k : Nat} {c : Array Value} {t : TypeId} (hk : w.heap[k]? = some (.cells c t (0, 0))) (ht : t ≠ e) : v.ownBlock ≠ some k := by
  obtain ⟨_, h2⟩ := h
  rcases h2 with ⟨h2, _⟩ | ⟨g, cap, cur, hv, hg, hh, r⟩
  · subst h2; simp [Value.ownBlock]
  · subst hv
    intro e1
    have e2 : g = k := by simpa [Value.ownBlock] using e1
    subst e2
    rw [hh] at hk
    exact ht (Obj.cells.inj (Option.some.inj hk)).2.1.symm
def LexTells (l : List UInt8) (base : Nat) (w : World) (v : Value) (er at_ : Int) : Prop :=
  (6000 < l.length ∧ v = .slice none 0 0 ∧ er = 4 ∧ at_ = 0) ∨
  (∃ (ts : List (T1 × Nat)) (k : Nat), l.length ≤ 6000 ∧ Lexed l ts k ∧ k < l.length ∧ (firstT (l.drop k)).err ≠ 0 ∧ v = .slice none 0 0 ∧ er = (firstT (l.drop k)).err ∧ at_ = (k : Int)) ∨
  (∃ (ts : List (T1 × Nat)) (k : Nat), l.length ≤ 6000 ∧ Lexed l ts k ∧ ¬ k < l.length ∧ w.ownsRow base 101 4 v ts.length (flatT ts) ∧ er = 0 ∧ at_ = 0)
theorem LexTells.much {l : List UInt8} {base : Nat} {w : World} (h : 6000 < l.length) : LexTells l base w (.slice none 0 0) 4 0 := .inl ⟨h, rfl, rfl, rfl⟩
theorem LexTells.wrong {l : List UInt8} {base : Nat} {w : World} {ts : List (T1 × Nat)} {k : Nat} (h6 : l.length ≤ 6000) (hL : Lexed l ts k) (hk : k < l.length) (he : (firstT (l.drop k)).err ≠ 0) : LexTells l base w (.slice none 0 0) (firstT (l.drop k)).err (k : Int) := .inr (.inl ⟨ts, k, h6, hL, hk, he, rfl, rfl, rfl⟩)
theorem LexTells.right {l : List UInt8} {base : Nat} {w : World} {ts : List (T1 × Nat)} {k : Nat} {v : Value} (h6 : l.length ≤ 6000) (hL : Lexed l ts k) (hk : ¬ k < l.length) (ho : w.ownsRow base 101 4 v ts.length (flatT ts)) : LexTells l base w v 0 0 := .inr (.inr ⟨ts, k, h6, hL, hk, ho, rfl, rfl⟩)
theorem faultType : Tryz.prog.underlying 26 = some (.struct (Tryz.prog.fieldsOf 26)) := by kernel_rfl
theorem lex_post {R : Ending → World → Prop} {a : Act} {w : World} (g : Nat) (v : Value) (er at_ : Int) (hd : a.defers = []) (h2 : a.tmps.getD 2 undef = v) (h3 : a.tmps.getD 3 undef = .pointer (some ⟨g, 0, none⟩))
    (hg : w.heap[g]? = some (.cells #[.int .i64 er, .int .i64 at_] 26 (0, 0))) (hR : R (.returned (.tuple #[v, .agg #[.int .i64 er, .int .i64 at_]])) w) : bodyPost Tryz.prog Tryz.f36 R .ret a w := by
  refine bodyPost_ret (v := .tuple #[v, .agg #[.int .i64 er, .int .i64 at_]]) ?_ hd hR
  have h2' : a.tmps[2]?.getD undef = v := by simpa using h2
  have h3' : a.tmps[3]?.getD undef = .pointer (some ⟨g, 0, none⟩) := by simpa using h3
  have hv := run_loadVar_row (P := Tryz.prog) w g 26 26 _ _ _ hg faultType rfl (by kernel_rfl)
  simp [results, Tryz.results36, h2', h3', asAddr, hv]
theorem owns_setRow {w : World} {base : Nat} {e : TypeId} {size : Nat} {v : Value} {n : Nat} {xs : List Value} (h : w.ownsRow base e size v n xs) {g : Nat} (hg : v.ownBlock ≠ some g) (cs : Array Value) : (w.setRow g cs).ownsRow base e size v n xs := by
  obtain ⟨h1, h2⟩ := h
  refine ⟨h1, ?_⟩
  rcases h2 with h2 | ⟨g', cap, cur, hv, hb, hh, r⟩
  · exact .inl h2
  · refine .inr ⟨g', cap, cur, hv, hb, (setRow_other _ _ _ _ fun e => hg ?_).trans hh, r⟩
    subst hv
    simp [Value.ownBlock, e]
theorem CTab.later {w w' : World} (h : CTab w) (hb : Below w.heap.size w w') : CTab w' := h.below hb
set_option maxRecDepth 10000 in
set_option maxHeartbeats 400000 in
theorem lex_any (s : ByteArray) (l : List UInt8) (hs : s.data.toList = l) (hl : l.length ≤ 9223372036854775807) (w : World) (hT : CTab w) :
    Calls Tryz.prog 36 #[.string s] w fun e w' => (∃ v er at_, e = .returned (.tuple #[v, .agg #[.int .i64 er, .int .i64 at_]]) ∧ LexTells l w.heap.size w' v er at_) ∧ Below w.heap.size w w' := by
  have hz : s.size = l.length := by rw [← hs, Lib.size_eq]
  obtain ⟨i0, hi, hz0, hz1, hz2⟩ := info_parts tokInfo
  have hb0 : Below w.heap.size w (w.alloc (.cells #[.int .i64 0, .int .i64 0] 26)) := (Below.refl _ _).alloc (Nat.le_refl _) _
  have h0 : (w.alloc (.cells #[.int .i64 0, .int .i64 0] 26)).heap[w.heap.size]? = some (.cells #[.int .i64 0, .int .i64 0] 26 (0, 0)) := heap_alloc_new w _
  by_cases hm : 6000 < l.length
  · have hm' : (6000 : Int) < (l.length : Int) := by omega
    go_enter Tryz.func36, Tryz.ntmps36
    go_wp2
    exact lex_post w.heap.size (.slice none 0 0) 4 0 rfl rfl rfl (heap_alloc_new w _) ⟨⟨_, _, _, rfl, LexTells.much hm⟩, (Below.refl _ _).alloc (Nat.le_refl _) _⟩
  · have hm' : ¬ (6000 : Int) < (l.length : Int) := by omega
    have HT : Hid (CTab w) := hT
    clear hT
    have c0 := fun w => skip_any s l hs (by omega) 0 (0 + skipS false (l.drop 0)) (by omega) rfl w
    have hst := Lexed.start (l := l)
    generalize hk0 : 0 + skipS false (l.drop 0) = k0 at *
    have HS : Hid (Lexed l [] k0) := hst
    clear hst hk0
    go_enter Tryz.func36, Tryz.ntmps36
    go_wp2_with (go_at_call 49; refine (c0 _).mono ?_; rintro e w' ⟨rfl, rfl⟩)
    go_loopw [4, 5] (fun v i wr => ∃ (ts : List (T1 × Nat)) (k : Nat), i = .int .i64 k ∧ Lexed l ts k ∧ wr.ownsRow w.heap.size 101 4 v ts.length (flatT ts) ∧ wr.heap[w.heap.size]? = some (.cells #[.int .i64 0, .int .i64 0] 26 (0, 0)) ∧ Below w.heap.size w wr) (fun _ i _ => l.length - (intOf i).toNat)
    case atStart => exact ⟨[], k0, rfl, HS.out, World.ownsRow_nil _ _ _ _, h0, hb0⟩
    case round =>
      obtain ⟨ts, k, rfl, hlx, hown, hf, hbel⟩ := hrel
      clear h0 hb0 HS c0
      obtain ⟨hkl, htl⟩ := hlx.le
      by_cases hlt : k < l.length
      · have hlt' : (k : Int) < (l.length : Int) := by omega
        have hk0 : (0 : Int) ≤ (k : Int) := by omega
        have hkl' : (k : Int) ≤ (l.length : Int) := by omega
        have cT : ∀ w, CTab w → Calls Tryz.prog 50 #[.string (s.extract k l.length)] w fun e w' => e = .returned (.tuple #[.agg #[.int .i64 (firstT (l.drop k)).kind, .int .i64 (firstT (l.drop k)).n, .int .i64 0, .string ⟨(firstT (l.drop k)).text.toArray⟩], .int .i64 ((firstT (l.drop k)).len : Int), .int .i64 (firstT (l.drop k)).err]) ∧ Below w.heap.size w w' := fun w hT => first_any (s.extract k l.length) (l.drop k) (by rw [Lib.extract_data, hs]; exact List.take_of_length_le (by simp)) (by simp; omega) (drop_pos hlt) w hT
        by_cases he : (firstT (l.drop k)).err = 0
        · have hfine := first_fine _ (drop_pos hlt) he
          have hnx := Lexed.step hlx hlt he
          have hp1 := hfine.pos
          have hp2 := hfine.le
          simp only [List.length_drop] at hp2
          have cs := fun w => skip_any s l hs (by omega) (k + (firstT (l.drop k)).len) _ (by omega) rfl w
          rw [he] at cT
          generalize firstT (l.drop k) = t at *
          generalize hk1 : k + t.len + skipS false (l.drop (k + t.len)) = k1 at *
          have hsk : k < k1 := by omega
          have HX : Hid (Lexed l (ts ++ [(t, k)]) k1) := hnx
          have q1 : IntKind.i64.wrap ((k : Int) + (t.len : Int)) = ((k + t.len : Nat) : Int) := by rw [IntKind.wrap_i64]; omega
          clear hnx he hfine hk1 hlx
          obtain ⟨kd, nn, tx, tl, te⟩ := t
          dsimp only at *
          go_wp2_with (first
            | (go_at_call 50; refine (cT _ (HT.out.later hbel)).mono ?_; rintro e w1 ⟨rfl, hb1⟩; have hf1 := (hb1.block _ (lt_of_block hf)).trans hf; have hown1 := owns_below hown hb1; have hbel1 := hbel.trans (hb1.mono hbel.size); clear hf hown hbel hb1 cT)
            | (at_builtin; refine wpList_append_own _ rfl _ _ 81 rfl w.heap.size 101 i0 (.agg #[.int .i64 0, .int .i64 0, .int .i64 0, .string ⟨#[]⟩]) 4 40 toksType hi hz0 hz1 hz2 rfl (by decide) u4 ts.length (flatT ts) rfl ((hown1.alloc _).alloc _) ⟨w1.heap.size + 1, 0, none⟩ 1 1 [.int .i64 kd, .int .i64 nn, .int .i64 (k : Int), .string ⟨tx.toArray⟩] rfl rfl ?c1 ?c2 ?c3 ?c4 ?c5 ?_))
          case c1 =>
            intro j u hj
            match j, hj with
            | 0, hj => simp at hj; subst hj; simp [Addr.add]
            | 1, hj => simp at hj; subst hj; simp [Addr.add]
            | 2, hj => simp at hj; subst hj; simp [Addr.add]
            | 3, hj => simp at hj; subst hj; simp [Addr.add]
          case c2 => intro u hu; simp at hu; rcases hu with rfl | rfl | rfl | rfl <;> rfl
          case c3 => unfold maxLen; omega
          case c4 => omega
          case c5 => have := hbel1.size; simp; omega
          · intro v' w2 hown' hgrow _
            have hown2 : w2.ownsRow w.heap.size 101 4 v' (ts ++ [((⟨kd, nn, tx, tl, te⟩ : T1), k)]).length (flatT (ts ++ [((⟨kd, nn, tx, tl, te⟩ : T1), k)])) := by
              rw [flatT_snoc]
              simp only [List.length_append, List.length_cons, List.length_nil, Nat.zero_add]
              exact hown'
            have lf := lt_of_block hf1
            have hfa := (Below.heap_alloc w1 (.cells #[.int .i64 kd, .int .i64 nn, .int .i64 (k : Int), .string ⟨tx.toArray⟩] 101) _ lf).trans hf1
            have hfb := (Below.heap_alloc _ (.cells #[.int .i64 kd, .int .i64 nn, .int .i64 (k : Int), .string ⟨tx.toArray⟩] 101) _ (lt_of_block hfa)).trans hfa
            have hf2 := (hgrow.block _ (lt_of_block hfb) (fun e => owns_type hown1 hf1 (by decide) e.symm)).trans hfb
            have hbel2 : Below w.heap.size w w2 := ((hbel1.alloc hbel1.size _).alloc (by have := hbel1.size; simp; omega) _).grown hgrow (by have := hbel1.size; simp; omega) (fun k hk => (hown1.lt k hk).1)
            clear hown' hgrow hown1 hf1 hbel1 hfa hfb lf
            go_wp2_with (go_at_call 49; refine (cs _).mono ?_; rintro e w' ⟨rfl, rfl⟩)
            go_roundw
            case rel => exact ⟨_, k1, rfl, HX.out, hown2, hf2, hbel2⟩
            case measure =>
              have := HX.out.le
              simp [intOf]; omega
        · have hne : ((firstT (l.drop k)).err != 0) = true := by simpa using he
          have HO : ∀ w', Hid (LexTells l w.heap.size w' (.slice none 0 0) (firstT (l.drop k)).err (k : Int)) := fun w' => LexTells.wrong (by omega) hlx hlt he
          clear he hlx hown
          generalize firstT (l.drop k) = t at *
          obtain ⟨kd, nn, tx, tl, te⟩ := t
          dsimp only at *
          go_wp2_with (first
            | (go_at_call 50; refine (cT _ (HT.out.later hbel)).mono ?_; rintro e w1 ⟨rfl, hb1⟩; have hf1 := (hb1.block _ (lt_of_block hf)).trans hf; have hbel1 := hbel.trans (hb1.mono hbel.size); have hfa := (Below.heap_alloc w1 (.cells #[.int .i64 kd, .int .i64 nn, .int .i64 0, .string ⟨tx.toArray⟩] 101) _ (lt_of_block hf1)).trans hf1; have hbela := hbel1.alloc hbel1.size (.cells #[.int .i64 kd, .int .i64 nn, .int .i64 0, .string ⟨tx.toArray⟩] 101); clear hf hbel hb1 cT hf1)
            | (refine wpList_store_row rfl 26 _ _ rfl _ _ rfl rfl _ _ hfa (by kernel_rfl) (by simp) (by simp [Value.oneCell']) ?_))
          exact lex_post w.heap.size (.slice none 0 0) te (k : Int) rfl rfl rfl (setRow_heap _ _ _ _ _ _ hfa) ⟨⟨_, _, _, rfl, (HO _).out⟩, below_setRow hbela (Nat.le_refl _) _⟩
      · have hob := owns_type hown hf (by decide)
        have HO : ∀ cs, Hid (LexTells l w.heap.size (wr.setRow w.heap.size cs) u4 0 0) := fun cs => LexTells.right (by omega) hlx hlt (owns_setRow hown hob cs)
        have hlt' : ¬ (k : Int) < (l.length : Int) := by omega
        clear hlx hown hob
        go_wp2_with (refine wpList_store_row rfl 26 _ _ rfl _ _ rfl rfl _ _ hf (by kernel_rfl) (by simp) (by simp [Value.oneCell']) ?_)
        exact lex_post w.heap.size u4 0 0 rfl rfl rfl (setRow_heap _ _ _ _ _ _ hf) ⟨⟨_, _, _, rfl, (HO _).out⟩, below_setRow hbel (Nat.le_refl _) _⟩
end Go.Proofs.YtgfjbcdjpkcbkaaGreatDoor

/- What lex.Named comes to; how tokens lie in memory; the tokens of one text, told. -/
namespace Go.Proofs.YtgfjbcdjpkcbkaaGreatDoor
open Go.RowKit Lx
def namedL (l : List UInt8) : Bool := decide (l.length ≠ 0) && (decide (l.length ≤ 20) && (decide (wordLen l = l.length) && !isWordL l))
theorem own_slice {w : World} {base : Nat} {e : TypeId} {size : Nat} {v : Value} {n : Nat} {xs : List Value} (h : w.ownsRow base e size v n xs) (hn : 0 < n) :
    ∃ g cap : Nat, v = .slice (some ⟨g, 0, none⟩) n cap ∧ ∀ (i : Nat) (u : Value), xs[i]? = some u → w.cell? ⟨g, i, none⟩ = some u := by
  obtain ⟨_, h2⟩ := h
  rcases h2 with ⟨_, h2⟩ | ⟨g, cap, cur, hv, hb, hh, _, _, _, h6⟩
  · omega
  · refine ⟨g, cap, hv, fun i u hu => ?_⟩
    rw [cell_of_row _ _ _ _ _ _ hh]
    rw [← h6, List.getElem?_take] at hu
    split at hu
    · simpa using hu
    · cases hu
theorem Lexed.iter {l : List UInt8} {ts : List (T1 × Nat)} {k : Nat} (h : Lexed l ts k) : ∃ n, iterN l n = some (ts, k) := h
theorem iter_none {l : List UInt8} {n : Nat} (h : iterN l n = none) : ∀ m, n ≤ m → iterN l m = none
  | 0, hm => by have : n = 0 := by omega
                subst this; exact h
  | m + 1, hm => by
    by_cases e : n = m + 1
    · rw [← e]; exact h
    · simp only [iterN, iter_none h m (by omega)]
end Go.Proofs.YtgfjbcdjpkcbkaaGreatDoor

/- What is wrong with an expression's form: plain. -/
namespace Lx
def kidsP (k : Int) : Nat := if k = 4 ∨ k = 5 ∨ k = 9 then 1 else if k = 6 ∨ k = 7 ∨ k = 8 then 2 else 0
def rangeP (k a b : Int) : Bool :=
  if k = 3 then decide (0 ≤ a ∧ a < b ∧ b ≤ 1440)
  else if k = 4 then decide (1 ≤ a ∧ a < 128)
  else if k = 5 then decide (0 ≤ a ∧ a ≤ b ∧ b < 146097)
  else if k = 9 then decide (a ≠ 0 ∧ -1440 < a ∧ a < 1440) else true
def aloneP (e : Ex) : Int :=
  if e.kind < 1 ∨ 10 < e.kind then 1 else if e.kids.length ≠ kidsP e.kind then 5 else if rangeP e.kind e.a e.b = false then 3 else if e.kind = 10 ∧ Go.Proofs.YtgfjbcdjpkcbkaaGreatDoor.namedL e.name = false then 7 else 0
def shapeP (e : Ex) (deep n : Nat) : Int × Nat :=
  if 600 < n + 1 ∨ 40 < deep then (4, n + 1)
  else if aloneP e ≠ 0 then (aloneP e, n + 1)
  else e.kids.attach.foldl (fun acc k => if acc.1 ≠ 0 then acc else shapeP k.1 (deep + 1) acc.2) (0, n + 1)
  termination_by sizeOf e
  decreasing_by exact kid_lt k.2
def shapeL (ks : List Ex) (deep : Nat) (acc : Int × Nat) : Int × Nat := ks.foldl (fun acc k => if acc.1 ≠ 0 then acc else shapeP k deep acc.2) acc
theorem shapeP_eq (e : Ex) (deep n : Nat) : shapeP e deep n = if 600 < n + 1 ∨ 40 < deep then (4, n + 1) else if aloneP e ≠ 0 then (aloneP e, n + 1) else shapeL e.kids (deep + 1) (0, n + 1) := by
  rw [shapeP]
  unfold shapeL
  rw [← List.foldl_attach (f := fun (acc : Int × Nat) k => if acc.1 ≠ 0 then acc else shapeP k (deep + 1) acc.2)]
theorem shapeL_nil (deep : Nat) (acc : Int × Nat) : shapeL [] deep acc = acc := rfl
theorem shapeL_cons (k : Ex) (ks : List Ex) (deep : Nat) (acc : Int × Nat) : shapeL (k :: ks) deep acc = shapeL ks deep (if acc.1 ≠ 0 then acc else shapeP k deep acc.2) := rfl
theorem shapeL_bad {ks : List Ex} {deep : Nat} {acc : Int × Nat} (h : acc.1 ≠ 0) : shapeL ks deep acc = acc := by
  induction ks with
  | nil => rfl
  | cons k ks ih => rw [shapeL_cons, if_pos h, ih]
theorem shapeL_step {ks : List Ex} {deep j m : Nat} {k : Ex} (h : ks[j]? = some k) : shapeL (ks.drop j) deep (0, m) = shapeL (ks.drop (j + 1)) deep (shapeP k deep m) := by
  obtain ⟨h1, h2⟩ := List.getElem?_eq_some_iff.1 h
  rw [List.drop_eq_getElem_cons h1, h2, shapeL_cons, if_neg (by simp)]
theorem shape_le : ∀ (N : Nat) (e : Ex) (deep n : Nat), sizeOf e ≤ N → (shapeP e deep n).1 = 0 → (shapeP e deep n).2 ≤ 600
  | 0, e, _, _, hN, _ => by cases e; simp at hN
  | N + 1, e, deep, n, hN, h => by
    rw [shapeP_eq] at h ⊢
    split at h
    · cases h
    · rename_i h1
      rw [if_neg h1]
      split at h
      · rename_i h2; exact absurd h h2
      · rename_i h2
        rw [if_neg h2]
        have aux : ∀ (ks : List Ex), (∀ k ∈ ks, sizeOf k ≤ N) → ∀ acc : Int × Nat, acc.2 ≤ 600 → (shapeL ks (deep + 1) acc).1 = 0 → (shapeL ks (deep + 1) acc).2 ≤ 600 := by
          intro ks
          induction ks with
          | nil => intro _ acc ha _; exact ha
          | cons k ks ih =>
            intro hk acc ha h0
            rw [shapeL_cons] at h0 ⊢
            by_cases hb : acc.1 ≠ 0
            · rw [if_pos hb] at h0 ⊢
              exact ih (fun q hq => hk q (List.mem_cons_of_mem _ hq)) acc ha h0
            · rw [if_neg hb] at h0 ⊢
              refine ih (fun q hq => hk q (List.mem_cons_of_mem _ hq)) _ ?_ h0
              by_cases hz : (shapeP k (deep + 1) acc.2).1 = 0
              · exact shape_le N k (deep + 1) acc.2 (hk k List.mem_cons_self) hz
              · rw [shapeL_bad hz] at h0; exact absurd h0 hz
        exact aux e.kids (fun k hk => by have := kid_lt hk; omega) (0, n + 1) (by simp at h1 ⊢; omega) h
theorem shapeP_le {e : Ex} {deep n : Nat} (h : (shapeP e deep n).1 = 0) : (shapeP e deep n).2 ≤ 600 := shape_le _ e deep n (Nat.le_refl _) h
end Lx

/- Plain facts about two texts on two lines. -/
namespace Go.Proofs.YtgfjbcdjpkcbkaaGreatDoor
open Go.RowKit Lx
end Go.Proofs.YtgfjbcdjpkcbkaaGreatDoor

/- The tokens of two texts on two lines; that tokens are told one way alone. -/
namespace Go.Proofs.YtgfjbcdjpkcbkaaGreatDoor
open Go.RowKit Lx
def onBy (n : Nat) (ts : List (T1 × Nat)) : List (T1 × Nat) := ts.map fun p => (p.1, n + p.2)
theorem lexed_one {l : List UInt8} {ts us : List (T1 × Nat)} {k j : Nat} (h : Lexed l ts k) (h' : Lexed l us j) (hk : ¬ (k < l.length ∧ (firstT (l.drop k)).err = 0)) (hj : ¬ (j < l.length ∧ (firstT (l.drop j)).err = 0)) : ts = us ∧ k = j := by
  obtain ⟨n, hn⟩ := h.iter
  obtain ⟨m, hm⟩ := h'.iter
  have n1 : iterN l (n + 1) = none := by simp only [iterN, hn]; rw [if_neg hk]
  have m1 : iterN l (m + 1) = none := by simp only [iterN, hm]; rw [if_neg hj]
  have e : n = m := by
    rcases Nat.lt_trichotomy n m with g | g | g
    · have := iter_none n1 m (by omega)
      rw [hm] at this; cases this
    · exact g
    · have := iter_none m1 n (by omega)
      rw [hn] at this; cases this
  subst e
  rw [hn] at hm
  have := Option.some.inj hm
  exact ⟨congrArg Prod.fst this, congrArg Prod.snd this⟩
end Go.Proofs.YtgfjbcdjpkcbkaaGreatDoor

/- What lex.Named comes to, and that the law's first question is answered yes. -/
namespace Go.Proofs.YtgfjbcdjpkcbkaaGreatDoor
open Go.RowKit Lx
set_option maxRecDepth 10000 in
set_option maxHeartbeats 400000 in
theorem named_any (s : ByteArray) (l : List UInt8) (hs : s.data.toList = l) (hl : l.length ≤ 9223372036854775806) (w : World) :
    Calls Tryz.prog 42 #[.string s] w fun e w' => e = .returned (.bool (namedL l)) ∧ Below w.heap.size w w' := by
  have hz : s.size = l.length := by rw [← hs, Lib.size_eq]
  have hnil : s.toList.isEmpty = l.isEmpty := by rw [Lib.toList_data, hs]
  have cl := fun w => wordLen_any s l hs hl w
  have cw := fun w => isWord_any s l hs w
  by_cases h0 : l.length = 0
  · have HN : Hid (namedL l = false) := by show namedL l = false; simp [namedL, h0]
    have hq : s.toList.isEmpty = true := by rw [hnil]; simpa using h0
    clear hnil h0
    go_enter Tryz.func42, Tryz.ntmps42
    go_wp2_with (first
      | (go_at_call 56; refine (cl _).mono ?_; rintro e w' ⟨rfl, rfl⟩)
      | (go_at_call 57; refine (cw _).mono ?_; rintro e w1 ⟨rfl, hb1⟩))
    go_ret
    exact ⟨by rw [HN.out]; rfl, Below.refl _ _⟩
  · have hq : s.toList.isEmpty = false := by rw [hnil]; cases l <;> simp at h0 ⊢
    clear hnil
    by_cases h20 : l.length ≤ 20
    · have i20 : (l.length : Int) ≤ 20 := by omega
      by_cases hw : wordLen l = l.length
      · have HN : Hid (namedL l = !isWordL l) := by show namedL l = _; simp [namedL, h0, h20, hw]
        rw [hw] at cl
        clear h0 hw
        generalize isWordL l = b at *
        go_enter Tryz.func42, Tryz.ntmps42
        go_wp2_with (first
          | (go_at_call 56; refine (cl _).mono ?_; rintro e w' ⟨rfl, rfl⟩)
          | (go_at_call 57; refine (cw _).mono ?_; rintro e w1 ⟨rfl, hb1⟩))
        go_ret
        exact ⟨by rw [HN.out]; rfl, hb1⟩
      · have HN : Hid (namedL l = false) := by show namedL l = false; simp [namedL, hw]
        have iw : ((wordLen l : Int) == (l.length : Int)) = false := by simp; omega
        clear h0 hw
        generalize wordLen l = k at *
        go_enter Tryz.func42, Tryz.ntmps42
        go_wp2_with (first
          | (go_at_call 56; refine (cl _).mono ?_; rintro e w' ⟨rfl, rfl⟩)
          | (go_at_call 57; refine (cw _).mono ?_; rintro e w1 ⟨rfl, hb1⟩))
        go_ret
        exact ⟨by rw [HN.out]; rfl, Below.refl _ _⟩
    · have i20 : ¬ (l.length : Int) ≤ 20 := by omega
      have HN : Hid (namedL l = false) := by show namedL l = false; simp [namedL, h20]
      clear h0 h20
      go_enter Tryz.func42, Tryz.ntmps42
      go_wp2_with (first
        | (go_at_call 56; refine (cl _).mono ?_; rintro e w' ⟨rfl, rfl⟩)
        | (go_at_call 57; refine (cw _).mono ?_; rintro e w1 ⟨rfl, hb1⟩))
      go_ret
      exact ⟨by rw [HN.out]; rfl, Below.refl _ _⟩
end Go.Proofs.YtgfjbcdjpkcbkaaGreatDoor

/- A row of tokens in memory. -/
namespace Go.Proofs.YtgfjbcdjpkcbkaaGreatDoor
open Go.RowKit Lx
def TRow (w : World) (v : Value) (ts : List (T1 × Nat)) : Prop :=
  (∃ c, v = .slice none 0 c ∧ ts = []) ∨ ∃ g o c : Nat, v = .slice (some ⟨g, o, none⟩) ts.length c ∧ ts.length < 9223372036854775808 ∧ ∀ (j : Nat) (t : T1) (k : Nat), ts[j]? = some (t, k) →
    w.cell? ⟨g, o + j * 4, none⟩ = some (.int .i64 t.kind) ∧ w.cell? ⟨g, o + j * 4 + 1, none⟩ = some (.int .i64 t.n) ∧ w.cell? ⟨g, o + j * 4 + 2, none⟩ = some (.int .i64 (k : Int)) ∧ w.cell? ⟨g, o + j * 4 + 3, none⟩ = some (.string ⟨t.text.toArray⟩)
theorem TRow.form {w : World} {v : Value} {l : List (T1 × Nat)} (h : TRow w v l) : ∃ p c, v = .slice p l.length c := by
  rcases h with ⟨c, h, rfl⟩ | ⟨g, o, c, h, _⟩
  · exact ⟨none, c, h⟩
  · exact ⟨_, c, h⟩
theorem eqTok (a b c : Int) (s : ByteArray) (w : World) : (Op.equalIn 10000 101 (.agg #[.int .i64 a, .int .i64 b, .int .i64 c, .string s]) (.agg #[.int .i64 a, .int .i64 b, .int .i64 c, .string s])).run Tryz.prog w = .ok true w := by
  rw [run_equalIn_struct w 9999 101 _ _ (by kernel_rfl) (by kernel_rfl)]
  simp [Program.fieldsOf, Tryz.underlying101, Op.eqFields]
  go_simp
theorem neqTok (a b c : Int) (s : ByteArray) (w : World) : (binOp .neq 101 (.agg #[.int .i64 a, .int .i64 b, .int .i64 c, .string s]) (.agg #[.int .i64 a, .int .i64 b, .int .i64 c, .string s])).run Tryz.prog w = .ok (.bool false) w := by
  rw [run_neq_struct, eqTok]; simp [Result.andThen]
attribute [local go_sem] neqTok
end Go.Proofs.YtgfjbcdjpkcbkaaGreatDoor

/- Rows of tokens that are written, and texts put together: what LexJoined needs of memory. -/
namespace Go.Proofs.YtgfjbcdjpkcbkaaGreatDoor
open Go.RowKit Lx
def part (n : Nat) (us : List (T1 × Nat)) (j : Nat) : List (T1 × Nat) := onBy n (us.take j) ++ us.drop j
theorem flatT_at : ∀ (ts : List (T1 × Nat)) (j : Nat) (t : T1) (k : Nat), ts[j]? = some (t, k) → (flatT ts)[j * 4]? = some (.int .i64 t.kind) ∧ (flatT ts)[j * 4 + 1]? = some (.int .i64 t.n) ∧ (flatT ts)[j * 4 + 2]? = some (.int .i64 (k : Int)) ∧ (flatT ts)[j * 4 + 3]? = some (.string ⟨t.text.toArray⟩)
  | [], j, t, k, h => by simp at h
  | p :: ts, 0, t, k, h => by
    have : p = (t, k) := by simpa using h
    subst this
    simp [flatT]
  | p :: ts, j + 1, t, k, h => by
    have := flatT_at ts j t k (by simpa using h)
    have e : (j + 1) * 4 = j * 4 + 1 + 1 + 1 + 1 := by omega
    rw [e]
    simpa [flatT] using this
theorem trow_of_owns {w : World} {base : Nat} {v : Value} {ts : List (T1 × Nat)} (h : w.ownsRow base 101 4 v ts.length (flatT ts)) (hl : ts.length < 9223372036854775808) : TRow w v ts := by
  by_cases h0 : ts.length = 0
  · obtain ⟨_, h2⟩ := h
    rcases h2 with ⟨h2, h3⟩ | ⟨g, cap, cur, hv, _⟩
    · exact .inl ⟨0, h2, List.length_eq_zero_iff.1 h3⟩
    · refine .inr ⟨g, 0, cap, hv, hl, fun j t k hj => ?_⟩
      have : ts = [] := List.length_eq_zero_iff.1 h0
      rw [this] at hj; simp at hj
  · obtain ⟨g, cap, hv, hc⟩ := own_slice h (by omega)
    refine .inr ⟨g, 0, cap, hv, hl, fun j t k hj => ?_⟩
    obtain ⟨f0, f1, f2, f3⟩ := flatT_at ts j t k hj
    rw [Nat.zero_add]
    exact ⟨hc _ _ f0, hc _ _ f1, hc _ _ f2, hc _ _ f3⟩
end Go.Proofs.YtgfjbcdjpkcbkaaGreatDoor

/- The reader of package parse in memory: its tokens, where it stands, how many expressions have ended; expressions as they lie in memory; and what met comes to. -/
namespace Go.Proofs.YtgfjbcdjpkcbkaaGreatDoor
open Go.RowKit Lx
def exV (e : Ex) (sl : Value) : Value := .agg #[.int .i64 e.kind, .int .i64 e.a, .int .i64 e.b, .string ⟨e.name.toArray⟩, sl]
def TyE (w : World) (g : Nat) : Prop := ∃ (cs : Array Value) (fr : Nat × Nat), w.heap[g]? = some (.cells cs 31 fr)
def KidsAt (B : Nat → Prop) : Nat → World → Value → List Ex → Prop
  | 0, _, sl, ks => ks = [] ∧ ∃ p c, sl = .slice p 0 c
  | d + 1, w, sl, ks => (ks = [] ∧ ∃ p c, sl = .slice p 0 c) ∨ ∃ g o c : Nat, (B g ∧ TyE w g) ∧ sl = .slice (some ⟨g, o, none⟩) ks.length c ∧ ks.length < 9223372036854775808 ∧ ∀ (j : Nat) (k : Ex), ks[j]? = some k → ∃ sk : Value,
      w.cell? ⟨g, o + j * 5, none⟩ = some (.int .i64 k.kind) ∧ w.cell? ⟨g, o + j * 5 + 1, none⟩ = some (.int .i64 k.a) ∧ w.cell? ⟨g, o + j * 5 + 2, none⟩ = some (.int .i64 k.b) ∧
      w.cell? ⟨g, o + j * 5 + 3, none⟩ = some (.string ⟨k.name.toArray⟩) ∧ w.cell? ⟨g, o + j * 5 + 4, none⟩ = some sk ∧ KidsAt B d w sk k.kids
theorem KidsAt.up {B : Nat → Prop} : ∀ {d : Nat} {w : World} {sl : Value} {ks : List Ex}, KidsAt B d w sl ks → KidsAt B (d + 1) w sl ks
  | 0, _, _, _, h => .inl h
  | d + 1, w, sl, ks, h => by
    rcases h with h | ⟨g, o, c, hB, hs, hl, hk⟩
    · exact .inl h
    · refine .inr ⟨g, o, c, hB, hs, hl, fun j k hj => ?_⟩
      obtain ⟨sk, c0, c1, c2, c3, c4, r⟩ := hk j k hj
      exact ⟨sk, c0, c1, c2, c3, c4, KidsAt.up r⟩
theorem KidsAt.le {B : Nat → Prop} {d d' : Nat} {w : World} {sl : Value} {ks : List Ex} (h : KidsAt B d w sl ks) (hd : d ≤ d') : KidsAt B d' w sl ks := by
  obtain ⟨n, rfl⟩ : ∃ n, d' = d + n := ⟨d' - d, by omega⟩
  clear hd
  induction n with
  | zero => exact h
  | succ n ih => exact KidsAt.up ih
theorem KidsAt.kept {B : Nat → Prop} {w w' : World} (hw : ∀ g, B g → g < w.heap.size → w'.heap[g]? = w.heap[g]?) : ∀ {d : Nat} {sl : Value} {ks : List Ex}, KidsAt B d w sl ks → KidsAt B d w' sl ks
  | 0, _, _, h => h
  | d + 1, sl, ks, h => by
    rcases h with h | ⟨g, o, c, hB, hs, hl, hk⟩
    · exact .inl h
    · have ht : TyE w' g := by
        obtain ⟨cs, fr, h⟩ := hB.2
        exact ⟨cs, fr, (hw g hB.1 (lt_of_block h)).trans h⟩
      refine .inr ⟨g, o, c, ⟨hB.1, ht⟩, hs, hl, fun j k hj => ?_⟩
      obtain ⟨sk, c0, c1, c2, c3, c4, r⟩ := hk j k hj
      have e : w'.heap[g]? = w.heap[g]? := hw g hB.1 (block_lt_of_cell c0)
      have ce : ∀ i, w'.cell? ⟨g, i, none⟩ = w.cell? ⟨g, i, none⟩ := fun i => World.cell?_of_block e
      exact ⟨sk, (ce _).trans c0, (ce _).trans c1, (ce _).trans c2, (ce _).trans c3, (ce _).trans c4, KidsAt.kept hw r⟩
theorem KidsAt.mono {B B' : Nat → Prop} (hB : ∀ g, B g → B' g) : ∀ {d : Nat} {w : World} {sl : Value} {ks : List Ex}, KidsAt B d w sl ks → KidsAt B' d w sl ks
  | 0, _, _, _, h => h
  | d + 1, w, sl, ks, h => by
    rcases h with h | ⟨g, o, c, hg, hs, hl, hk⟩
    · exact .inl h
    · refine .inr ⟨g, o, c, ⟨hB g hg.1, hg.2⟩, hs, hl, fun j k hj => ?_⟩
      obtain ⟨sk, c0, c1, c2, c3, c4, r⟩ := hk j k hj
      exact ⟨sk, c0, c1, c2, c3, c4, KidsAt.mono hB r⟩
theorem KidsAt.lt {B : Nat → Prop} : ∀ {d : Nat} {w : World} {sl : Value} {ks : List Ex}, KidsAt B d w sl ks → KidsAt (fun k => B k ∧ k < w.heap.size) d w sl ks
  | 0, _, _, _, h => h
  | d + 1, w, sl, ks, h => by
    rcases h with h | ⟨g, o, c, hg, hs, hl, hk⟩
    · exact .inl h
    · cases ks with
      | nil => exact .inl ⟨rfl, _, _, hs⟩
      | cons k0 ks =>
        obtain ⟨_, c0, _⟩ := hk 0 k0 rfl
        refine .inr ⟨g, o, c, ⟨⟨hg.1, block_lt_of_cell c0⟩, hg.2⟩, hs, hl, fun j k hj => ?_⟩
        obtain ⟨sk, c0, c1, c2, c3, c4, r⟩ := hk j k hj
        exact ⟨sk, c0, c1, c2, c3, c4, KidsAt.lt r⟩
theorem KidsAt.other {B : Nat → Prop} {b : Nat} {cs : Array Value} {t : TypeId} {fr : Nat × Nat} : ∀ {d : Nat} {w : World} {sl : Value} {ks : List Ex}, w.heap[b]? = some (.cells cs t fr) → t ≠ 31 → KidsAt B d w sl ks → KidsAt (fun k => B k ∧ k ≠ b) d w sl ks
  | 0, _, _, _, _, _, h => h
  | d + 1, w, sl, ks, hb, ht, h => by
    rcases h with h | ⟨g, o, c, hg, hs, hl, hk⟩
    · exact .inl h
    · have hne : g ≠ b := by
        rintro rfl
        obtain ⟨cs', fr', h'⟩ := hg.2
        rw [hb] at h'
        exact ht (Obj.cells.inj (Option.some.inj h')).2.1
      refine .inr ⟨g, o, c, ⟨⟨hg.1, hne⟩, hg.2⟩, hs, hl, fun j k hj => ?_⟩
      obtain ⟨sk, c0, c1, c2, c3, c4, r⟩ := hk j k hj
      exact ⟨sk, c0, c1, c2, c3, c4, KidsAt.other hb ht r⟩
theorem KidsAt.nil (B : Nat → Prop) (d : Nat) (w : World) (p : Option Addr) (c : Nat) : KidsAt B d w (.slice p 0 c) [] := by
  cases d with
  | zero => exact ⟨rfl, p, c, rfl⟩
  | succ d => exact .inl ⟨rfl, p, c, rfl⟩
theorem KidsAt.form {B : Nat → Prop} {d : Nat} {w : World} {sl : Value} {ks : List Ex} (h : KidsAt B d w sl ks) : ∃ p c, sl = .slice p ks.length c := by
  cases d with
  | zero =>
    obtain ⟨rfl, p, c, rfl⟩ := h
    exact ⟨p, c, rfl⟩
  | succ d =>
    rcases h with ⟨rfl, p, c, rfl⟩ | ⟨g, o, c, _, hs, _⟩
    · exact ⟨p, c, rfl⟩
    · exact ⟨_, c, hs⟩
abbrev Kept (g : Nat) (w w' : World) : Prop := w.grownBy w' (some g)
theorem Kept.refl (g : Nat) (w : World) : Kept g w w := ⟨rfl, rfl, rfl, Nat.le_refl _, fun _ _ _ => rfl⟩
theorem Kept.trans {g : Nat} {w w' w'' : World} (h : Kept g w w') (h' : Kept g w' w'') : Kept g w w'' :=
  ⟨h'.os.trans h.os, h'.tape.trans h.tape, h'.output.trans h.output, Nat.le_trans h.size h'.size, fun k hk hne => (h'.block k (Nat.lt_of_lt_of_le hk h.size) hne).trans (h.block k hk hne)⟩
theorem Kept.of_below {g : Nat} {w w' : World} (h : Below w.heap.size w w') : Kept g w w' := ⟨h.os, h.tape, h.output, h.size, fun k hk _ => h.block k hk⟩
theorem Kept.kids {B : Nat → Prop} {g d : Nat} {w w' : World} {sl : Value} {ks : List Ex} (h : Kept g w w') (hg : ∀ k, B k → k ≠ g) (hk : KidsAt B d w sl ks) : KidsAt B d w' sl ks :=
  hk.kept fun k hB hl => h.block k hl (fun e => hg k hB (Option.some.inj e))
theorem Kept.row {g : Nat} {w w' : World} {v : Value} {ts : List (T1 × Nat)} (h : Kept g w w') (hv : v.ownBlock ≠ some g) (hr : TRow w v ts) : TRow w' v ts := by
  rcases hr with hr | ⟨gt, o, c, hs, hl, hc⟩
  · exact .inl hr
  · refine .inr ⟨gt, o, c, hs, hl, fun j t k hj => ?_⟩
    obtain ⟨c1, c2, c3, c4⟩ := hc j t k hj
    have hne : gt ≠ g := fun e => hv (by rw [hs, e]; rfl)
    have e : w'.heap[gt]? = w.heap[gt]? := h.block gt (block_lt_of_cell c1) (fun e => hne (Option.some.inj e))
    have ce : ∀ i, w'.cell? ⟨gt, i, none⟩ = w.cell? ⟨gt, i, none⟩ := fun i => World.cell?_of_block e
    exact ⟨(ce _).trans c1, (ce _).trans c2, (ce _).trans c3, (ce _).trans c4⟩
structure PS0 (all : List Tk) (E g : Nat) (v : Value) : Prop where
  len : all.length ≤ 6000
  fin : E ≤ 6000
  own : v.ownBlock ≠ some g
  num : ∀ p ∈ all, 0 ≤ p.1.n ∧ p.1.n ≤ 999999
  glob : 2 ≠ g
def DTab (w : World) : Prop := ∀ j : Nat, j < 7 → w.cell? ⟨2, j, none⟩ = some (.string ⟨(wDays.getD j []).toArray⟩)
theorem Kept.days {g : Nat} {w w' : World} (h : Kept g w w') (hg : 2 ≠ g) (hd : DTab w) : DTab w' := fun j hj => by
  have c := hd j hj
  exact (World.cell?_of_block (h.block 2 (block_lt_of_cell c) (fun e => hg (Option.some.inj e)))).trans c
structure PSt (all : List Tk) (E g : Nat) (v : Value) (w : World) (i n : Nat) : Prop where
  blk : w.heap[g]? = some (.cells #[v, .int .i64 (i : Int), .int .i64 (E : Int), .int .i64 (n : Int)] 87 (0, 0))
  row : TRow w v all
  le : i ≤ all.length
  tab : DTab w
theorem PSt.below {all : List Tk} {E g : Nat} {v : Value} {w w' : World} {i n : Nat} (h : PSt all E g v w i n) (hb : Below w.heap.size w w') (h0 : PS0 all E g v) : PSt all E g v w' i n :=
  ⟨(hb.block g (lt_of_block h.blk)).trans h.blk, (Kept.of_below (g := g) hb).row h0.own h.row, h.le, (Kept.of_below (g := g) hb).days h0.glob h.tab⟩
def tokV (E : Nat) (r : List Tk) : Value := .agg #[.int .i64 (kindP r), .int .i64 (numP r), .int .i64 (atP E r : Int), .string ⟨(textP r).toArray⟩]
theorem exprType : Tryz.prog.underlying 31 = some (.struct (Tryz.prog.fieldsOf 31)) := by kernel_rfl
theorem tok_ret {fn : Func} (s : Nat) (h : fn.results = #[ResultVar.cell s 101]) {R : Ending → World → Prop} {a : Act} {w : World} (g : Nat) (c0 c1 c2 c3 : Value) (hd : a.defers = []) (h2 : a.tmps.getD s undef = .pointer (some ⟨g, 0, none⟩))
    (hg : w.heap[g]? = some (.cells #[c0, c1, c2, c3] 101 (0, 0))) (hR : R (.returned (.agg #[c0, c1, c2, c3])) w) : bodyPost Tryz.prog fn R .ret a w := by
  refine bodyPost_ret (v := .agg #[c0, c1, c2, c3]) ?_ hd hR
  have h2' : a.tmps[s]?.getD undef = .pointer (some ⟨g, 0, none⟩) := by simpa using h2
  have hv := run_loadVar_row (P := Tryz.prog) w g 101 101 _ _ _ hg tokType rfl (by kernel_rfl)
  simp [results, h, h2', asAddr, hv]
theorem ex_ret {fn : Func} (s : Nat) (h : fn.results = #[ResultVar.cell s 31]) {R : Ending → World → Prop} {a : Act} {w : World} (g : Nat) (c0 c1 c2 c3 c4 : Value) (hd : a.defers = []) (h2 : a.tmps.getD s undef = .pointer (some ⟨g, 0, none⟩))
    (hg : w.heap[g]? = some (.cells #[c0, c1, c2, c3, c4] 31 (0, 0))) (hR : R (.returned (.agg #[c0, c1, c2, c3, c4])) w) : bodyPost Tryz.prog fn R .ret a w := by
  refine bodyPost_ret (v := .agg #[c0, c1, c2, c3, c4]) ?_ hd hR
  have h2' : a.tmps[s]?.getD undef = .pointer (some ⟨g, 0, none⟩) := by simpa using h2
  have hv := run_loadVar_row (P := Tryz.prog) w g 31 31 _ _ _ hg exprType rfl (by kernel_rfl)
  simp [results, h, h2', asAddr, hv]
theorem fieldTok0 (c0 c1 c2 c3 : Value) (w : World) : (Instr.field 101 (.agg #[c0, c1, c2, c3]) 0).run Tryz.prog w = .ok c0 w := by
  unfold Instr.field
  simp [go_sem, asAgg]
theorem fieldTok1 (c0 c1 c2 c3 : Value) (w : World) : (Instr.field 101 (.agg #[c0, c1, c2, c3]) 1).run Tryz.prog w = .ok c1 w := by
  unfold Instr.field
  simp [go_sem, asAgg]
theorem fieldTok2 (c0 c1 c2 c3 : Value) (w : World) : (Instr.field 101 (.agg #[c0, c1, c2, c3]) 2).run Tryz.prog w = .ok c2 w := by
  unfold Instr.field
  simp [go_sem, asAgg]
theorem fieldTok3 (c0 c1 c2 c3 : Value) (w : World) : (Instr.field 101 (.agg #[c0, c1, c2, c3]) 3).run Tryz.prog w = .ok c3 w := by
  unfold Instr.field
  simp [go_sem, asAgg]
attribute [go_sem] fieldTok0 fieldTok1 fieldTok2 fieldTok3
end Go.Proofs.YtgfjbcdjpkcbkaaGreatDoor

/- What met and fail come to. -/
namespace Go.Proofs.YtgfjbcdjpkcbkaaGreatDoor
open Go.RowKit Lx
set_option maxRecDepth 100000 in
set_option maxHeartbeats 1000000 in
theorem met_any {all : List Tk} {E g : Nat} {v : Value} {w : World} {i n : Nat} (h0 : PS0 all E g v) (h : PSt all E g v w i n) :
    Calls Tryz.prog 74 #[.pointer (some ⟨g, 0, none⟩)] w fun e w' => e = .returned (tokV E (all.drop i)) ∧ Below w.heap.size w w' := by
  have hgl := lt_of_block h.blk
  have hA := (Below.heap_alloc w (.cells #[.int .i64 0, .int .i64 0, .int .i64 0, .string ⟨#[]⟩] 101) _ hgl).trans h.blk
  have k0 := (cell_of_row _ _ 0 _ _ _ hA).trans rfl
  have k1 := (cell_of_row _ _ 1 _ _ _ hA).trans rfl
  have k2 := (cell_of_row _ _ 2 _ _ _ hA).trans rfl
  have hb0 : Below w.heap.size w (w.alloc (.cells #[.int .i64 0, .int .i64 0, .int .i64 0, .string ⟨#[]⟩] 101)) := (Below.refl _ _).alloc (Nat.le_refl _) _
  have hn := heap_alloc_new w (.cells #[.int .i64 0, .int .i64 0, .int .i64 0, .string ⟨#[]⟩] 101)
  have hlen := h0.len
  have hle := h.le
  have hrow := h.row
  by_cases hi : i < all.length
  · have hi' : (i : Int) < (all.length : Int) := by omega
    have hi0 : (0 : Int) ≤ (i : Int) := by omega
    rcases hrow with ⟨_, _, e⟩ | ⟨gt, o, c, rfl, _, hc⟩
    · rw [e] at hi; simp at hi
    obtain ⟨⟨t, k⟩, htk⟩ : ∃ q, all[i]? = some q := ⟨all[i], List.getElem?_eq_getElem hi⟩
    obtain ⟨c0, c1, c2, c3⟩ := hc i t k htk
    have d0 := (hb0.cell (block_lt_of_cell c0)).trans c0
    have d1 := (hb0.cell (block_lt_of_cell c1)).trans c1
    have d2 := (hb0.cell (block_lt_of_cell c2)).trans c2
    have d3 := (hb0.cell (block_lt_of_cell c3)).trans c3
    have ed : all.drop i = (t, k) :: all.drop (i + 1) := by
      obtain ⟨h1, h2⟩ := List.getElem?_eq_some_iff.1 htk
      rw [List.drop_eq_getElem_cons h1, h2]
    have HR : Hid (tokV E (all.drop i) = .agg #[.int .i64 t.kind, .int .i64 t.n, .int .i64 (k : Int), .string ⟨t.text.toArray⟩]) := by
      show _ = _
      rw [ed]; rfl
    clear hA hgl ed h hc c0 c1 c2 c3 htk
    generalize (⟨t.text.toArray⟩ : ByteArray) = x at *
    generalize hw1 : w.alloc (.cells #[.int .i64 0, .int .i64 0, .int .i64 0, .string ⟨#[]⟩] 101) = w1 at *
    go_enter Tryz.func74, Tryz.ntmps74
    go_wp2
    go_quiet (fail)
    have hn2 : (w1.drewN nq).heap[w.heap.size]? = some (.cells #[.int .i64 0, .int .i64 0, .int .i64 0, .string ⟨#[]⟩] 101 (0, 0)) := hn
    have e0 : (w1.drewN nq).cell? ⟨g, 0, none⟩ = some (.slice (some ⟨gt, o, none⟩) all.length c) := k0
    have e1 : (w1.drewN nq).cell? ⟨g, 1, none⟩ = some (.int .i64 (i : Int)) := k1
    have f0 : (w1.drewN nq).cell? ⟨gt, o + i * 4, none⟩ = some (.int .i64 t.kind) := d0
    have f1 : (w1.drewN nq).cell? ⟨gt, o + i * 4 + 1, none⟩ = some (.int .i64 t.n) := d1
    have f2 : (w1.drewN nq).cell? ⟨gt, o + i * 4 + 2, none⟩ = some (.int .i64 (k : Int)) := d2
    have f3 : (w1.drewN nq).cell? ⟨gt, o + i * 4 + 3, none⟩ = some (.string x) := d3
    have hb2 := below_drewN hb0 nq
    clear hw1 k0 k1 k2 hn hb0 d0 d1 d2 d3
    generalize w1.drewN nq = w2 at *
    have z0 := (cell_of_row _ _ 0 _ _ _ hn2).trans rfl
    have z1 := (cell_of_row _ _ 1 _ _ _ hn2).trans rfl
    have z2 := (cell_of_row _ _ 2 _ _ _ hn2).trans rfl
    have z3 := (cell_of_row _ _ 3 _ _ _ hn2).trans rfl
    have y0 := frozen_of_row _ _ 0 _ _ hn2
    have y1 := frozen_of_row _ _ 1 _ _ hn2
    have y2 := frozen_of_row _ _ 2 _ _ hn2
    have y3 := frozen_of_row _ _ 3 _ _ hn2
    have hm : ((((w2.setCell ⟨w.heap.size, 0, none⟩ (.int .i64 t.kind)).setCell ⟨w.heap.size, 1, none⟩ (.int .i64 t.n)).setCell ⟨w.heap.size, 2, none⟩ (.int .i64 (k : Int))).setCell ⟨w.heap.size, 3, none⟩ (.string x)).heap[w.heap.size]? = some (.cells #[.int .i64 t.kind, .int .i64 t.n, .int .i64 (k : Int), .string x] 101 (0, 0)) :=
      heap_setCell_same _ _ 3 _ _ _ (heap_setCell_same _ _ 2 _ _ _ (heap_setCell_same _ _ 1 _ _ _ (heap_setCell_same _ _ 0 _ _ _ hn2)))
    have hb3 := (((hb2.setCell (p := ⟨w.heap.size, 0, none⟩) (Nat.le_refl _) (.int .i64 t.kind)).setCell (p := ⟨w.heap.size, 1, none⟩) (Nat.le_refl _) (.int .i64 t.n)).setCell (p := ⟨w.heap.size, 2, none⟩) (Nat.le_refl _) (.int .i64 (k : Int))).setCell (p := ⟨w.heap.size, 3, none⟩) (Nat.le_refl _) (.string x)
    go_wp2
    go_region
    go_wp2
    exact tok_ret 2 (by kernel_rfl) w.heap.size (.int .i64 t.kind) (.int .i64 t.n) (.int .i64 (k : Int)) (.string x) rfl rfl hm ⟨by rw [HR.out], below_drewN hb3 1⟩
  · have hi' : ¬ (i : Int) < (all.length : Int) := by omega
    obtain ⟨p, c, rfl⟩ := TRow.form hrow
    have ed : all.drop i = [] := List.drop_eq_nil_of_le (by omega)
    rw [ed]
    clear hA hgl ed hrow h
    generalize hw1 : w.alloc (.cells #[.int .i64 0, .int .i64 0, .int .i64 0, .string ⟨#[]⟩] 101) = w1 at *
    go_enter Tryz.func74, Tryz.ntmps74
    go_wp2
    go_quiet (fail)
    have hn2 : (w1.drewN nq).heap[w.heap.size]? = some (.cells #[.int .i64 0, .int .i64 0, .int .i64 0, .string ⟨#[]⟩] 101 (0, 0)) := hn
    have e2 : (w1.drewN nq).cell? ⟨g, 2, none⟩ = some (.int .i64 (E : Int)) := k2
    have hb2 := below_drewN hb0 nq
    clear hw1 k0 k1 k2 hn hb0
    generalize w1.drewN nq = w2 at *
    go_wp2_with (refine wpList_store_row rfl 101 _ _ rfl _ _ rfl rfl _ _ hn2 (by kernel_rfl) (by simp) (by simp [Value.oneCell']) ?_)
    exact tok_ret 2 (by kernel_rfl) w.heap.size _ _ _ _ rfl rfl (setRow_heap _ _ _ _ _ _ hn2) ⟨rfl, below_setRow hb2 (Nat.le_refl _) _⟩
def thrownV (er : Int) (at_ : Nat) : List PanicEntry := [{ v := .iface 85 (.agg #[.int .i64 er, .int .i64 (at_ : Int)]), recovered := false }]
set_option maxRecDepth 100000 in
theorem fail_any {all : List Tk} {E g : Nat} {v : Value} {w : World} {i n : Nat} (h0 : PS0 all E g v) (h : PSt all E g v w i n) (er : Int) :
    Calls Tryz.prog 52 #[.pointer (some ⟨g, 0, none⟩), .int .i64 er] w fun e w' => e = .panicked (thrownV er (atP E (all.drop i))) ∧ Below w.heap.size w w' := by
  have c := met_any h0 h
  unfold tokV at c
  generalize atP E (all.drop i) = a at *
  go_enter Tryz.func52, Tryz.ntmps52
  go_wp2_with fail
  refine c.mono ?_
  rintro e w1 ⟨rfl, hb1⟩
  go_wp2_with fail
  exact ⟨rfl, rfl, hb1⟩
theorem str_eq (x y : List UInt8) : ((⟨x.toArray⟩ : ByteArray).toList == (⟨y.toArray⟩ : ByteArray).toList) = (x == y) := by rw [Lib.toList_data, Lib.toList_data]
theorem Kept.set (w : World) (g j : Nat) (u : Value) : Kept g w (w.setCell ⟨g, j, none⟩ u) := ⟨rfl, rfl, rfl, by simp, fun k _ hk => heap_setCell_other w ⟨g, j, none⟩ k u (fun e => hk (by rw [e]))⟩
theorem PSt.of_kept {all : List Tk} {E g : Nat} {v : Value} {w : World} {i n i' n' : Nat} {w' : World} (h : PSt all E g v w i n) (h0 : PS0 all E g v) (hk : Kept g w w') (hb : w'.heap[g]? = some (.cells #[v, .int .i64 (i' : Int), .int .i64 (E : Int), .int .i64 (n' : Int)] 87 (0, 0))) (hi : i' ≤ all.length) : PSt all E g v w' i' n' :=
  ⟨hb, hk.row h0.own h.row, hi, hk.days h0.glob h.tab⟩
theorem PSt.set {all : List Tk} {E g : Nat} {v : Value} {w : World} {i n : Nat} (h : PSt all E g v w i n) (h0 : PS0 all E g v) (hi : i + 1 ≤ all.length) : PSt all E g v (w.setCell ⟨g, 1, none⟩ (.int .i64 ((i + 1 : Nat) : Int))) (i + 1) n :=
  h.of_kept h0 (Kept.set _ _ _ _) (heap_setCell_same _ _ 1 _ _ _ h.blk) hi
theorem PSt.setN {all : List Tk} {E g : Nat} {v : Value} {w : World} {i n : Nat} (h : PSt all E g v w i n) (h0 : PS0 all E g v) (m : Nat) : PSt all E g v (w.setCell ⟨g, 3, none⟩ (.int .i64 (m : Int))) i m :=
  h.of_kept h0 (Kept.set _ _ _ _) (heap_setCell_same _ _ 3 _ _ _ h.blk) h.le
theorem isT_len {x : List UInt8} {all : List Tk} {i : Nat} (hx : x ≠ []) (h : isT x (all.drop i) = true) : i + 1 ≤ all.length := by
  have := isT_cons hx h
  simp at this; omega
set_option maxRecDepth 100000 in
theorem skip_yes {all : List Tk} {E g : Nat} {v : Value} {w : World} {i n : Nat} (h0 : PS0 all E g v) (h : PSt all E g v w i n) (x : List UInt8) (hx : x ≠ []) (hT : isT x (all.drop i) = true) :
    Calls Tryz.prog 73 #[.pointer (some ⟨g, 0, none⟩), .string ⟨x.toArray⟩] w fun e w' => e = .returned (.bool true) ∧ PSt all E g v w' (i + 1) n ∧ Kept g w w' := by
  have c := met_any h0 h
  have hlen := h0.len
  have hi := isT_len hx hT
  have he : ((⟨(textP (all.drop i)).toArray⟩ : ByteArray).toList == (⟨x.toArray⟩ : ByteArray).toList) = true := by rw [str_eq]; exact hT
  unfold tokV at c
  generalize (⟨(textP (all.drop i)).toArray⟩ : ByteArray) = tx at *
  generalize (⟨x.toArray⟩ : ByteArray) = xx at *
  go_enter Tryz.func73, Tryz.ntmps73
  go_wp2_with fail
  refine c.mono ?_
  rintro e w1 ⟨rfl, hb1⟩
  have h1 := h.below hb1 h0
  have k1 := (cell_of_row _ _ 1 _ _ _ h1.blk).trans rfl
  have y1 := frozen_of_row _ _ 1 _ _ h1.blk
  have h2 := h1.set h0 hi
  have hk2 := (Kept.of_below (g := g) hb1).trans (Kept.set w1 g 1 (.int .i64 ((i + 1 : Nat) : Int)))
  have ei : (i : Int) + 1 = ((i + 1 : Nat) : Int) := by omega
  have hi6 : (i : Int) ≤ 6000 := by omega
  generalize ((i + 1 : Nat) : Int) = vv at *
  clear c h h1 hb1 hT
  go_wp2_with fail
  go_ret
  exact ⟨rfl, h2, hk2⟩
end Go.Proofs.YtgfjbcdjpkcbkaaGreatDoor

/- What skip, must, see, take, takeFrom, ended and pair come to. -/
namespace Go.Proofs.YtgfjbcdjpkcbkaaGreatDoor
open Go.RowKit Lx
variable {all : List Tk} {E g : Nat} {v : Value} {w : World} {i n : Nat}
set_option maxRecDepth 100000 in
theorem skip_no (h0 : PS0 all E g v) (h : PSt all E g v w i n) (x : List UInt8) (hT : isT x (all.drop i) = false) :
    Calls Tryz.prog 73 #[.pointer (some ⟨g, 0, none⟩), .string ⟨x.toArray⟩] w fun e w' => e = .returned (.bool false) ∧ PSt all E g v w' i n ∧ Kept g w w' := by
  have c := met_any h0 h
  have he : ((⟨(textP (all.drop i)).toArray⟩ : ByteArray).toList == (⟨x.toArray⟩ : ByteArray).toList) = false := by rw [str_eq]; exact hT
  unfold tokV at c
  generalize (⟨(textP (all.drop i)).toArray⟩ : ByteArray) = tx at *
  generalize (⟨x.toArray⟩ : ByteArray) = xx at *
  clear hT
  go_enter Tryz.func73, Tryz.ntmps73
  go_wp2_with fail
  refine c.mono ?_
  rintro e w1 ⟨rfl, hb1⟩
  have h1 := h.below hb1 h0
  have hk1 := Kept.of_below (g := g) hb1
  clear c h hb1
  go_wp2_with fail
  go_ret
  exact ⟨rfl, h1, hk1⟩
theorem must_yes (h0 : PS0 all E g v) (h : PSt all E g v w i n) (x : List UInt8) (hx : x ≠ []) (hT : isT x (all.drop i) = true) :
    Calls Tryz.prog 51 #[.pointer (some ⟨g, 0, none⟩), .string ⟨x.toArray⟩] w fun e w' => e = .returned (.tuple #[]) ∧ PSt all E g v w' (i + 1) n ∧ Kept g w w' := by
  have c := skip_yes h0 h x hx hT
  clear hT h
  go_enter Tryz.func51, Tryz.ntmps51
  go_wp2_with fail
  refine c.mono ?_
  rintro e w1 ⟨rfl, h1, hk1⟩
  go_wp2_with fail
  go_end0
  exact ⟨rfl, h1, hk1⟩
theorem must_no (h0 : PS0 all E g v) (h : PSt all E g v w i n) (x : List UInt8) (hT : isT x (all.drop i) = false) :
    Calls Tryz.prog 51 #[.pointer (some ⟨g, 0, none⟩), .string ⟨x.toArray⟩] w fun e w' => e = .panicked (thrownV 2 (atP E (all.drop i))) ∧ Kept g w w' := by
  have c := skip_no h0 h x hT
  clear hT h
  go_enter Tryz.func51, Tryz.ntmps51
  go_wp2_with fail
  refine c.mono ?_
  rintro e w1 ⟨rfl, h1, hk1⟩
  go_wp2_with fail
  refine (fail_any h0 h1 2).mono ?_
  rintro e w2 ⟨rfl, hb2⟩
  exact ⟨rfl, rfl, hk1.trans (Kept.of_below hb2)⟩
set_option maxRecDepth 100000 in
theorem see_yes (h0 : PS0 all E g v) (h : PSt all E g v w i n) (kd : Int) (hk : kindP (all.drop i) = kd) :
    Calls Tryz.prog 88 #[.pointer (some ⟨g, 0, none⟩), .int .i64 kd] w fun e w' => e = .returned (tokV E (all.drop i)) ∧ PSt all E g v w' i n ∧ Below w.heap.size w w' := by
  have hb0 : Below w.heap.size w (w.alloc (.cells #[.int .i64 0, .int .i64 0, .int .i64 0, .string ⟨#[]⟩] 101)) := (Below.refl _ _).alloc (Nat.le_refl _) _
  have hn := heap_alloc_new w (.cells #[.int .i64 0, .int .i64 0, .int .i64 0, .string ⟨#[]⟩] 101)
  have hA := h.below hb0 h0
  have c := met_any h0 hA
  have c2 := fun (w1 : World) (h1 : PSt all E g v w1 i n) => met_any h0 h1
  unfold tokV at c c2 ⊢
  rw [hk] at c
  generalize hw1 : w.alloc (.cells #[.int .i64 0, .int .i64 0, .int .i64 0, .string ⟨#[]⟩] 101) = wA at *
  go_enter Tryz.func88, Tryz.ntmps88
  go_wp2_with fail
  refine c.mono ?_
  rintro e w1 ⟨rfl, hb1⟩
  have h1 := hA.below hb1 h0
  have hn1 := (hb1.block _ (lt_of_block hn)).trans hn
  have hbw1 := hb0.trans (hb1.mono hb0.size)
  have hne : (kd != kd) = false := by simp
  clear c hA hb1 hw1 hn hb0 hk
  go_wp2_with fail
  refine (c2 _ h1).mono ?_
  rintro e w2 ⟨rfl, hb2⟩
  have h2 := h1.below hb2 h0
  have hn2 := (hb2.block _ (lt_of_block hn1)).trans hn1
  have hbw2 := hbw1.trans (hb2.mono hbw1.size)
  clear c2 h1 hb2 hn1 hbw1
  have hs : Below w.heap.size w (w2.setRow w.heap.size #[.int .i64 (kindP (all.drop i)), .int .i64 (numP (all.drop i)), .int .i64 (atP E (all.drop i) : Int), .string ⟨(textP (all.drop i)).toArray⟩]) := below_setRow hbw2 (Nat.le_refl _) _
  go_wp2_with (refine wpList_store_row rfl 101 _ _ rfl _ _ rfl rfl _ _ hn2 (by kernel_rfl) (by simp) (by simp [Value.oneCell']) ?_)
  exact tok_ret 4 (by kernel_rfl) w.heap.size _ _ _ _ rfl rfl (setRow_heap _ _ _ _ _ _ hn2) ⟨rfl, h.below hs h0, hs⟩
set_option maxRecDepth 100000 in
theorem see_no (h0 : PS0 all E g v) (h : PSt all E g v w i n) (kd : Int) (hk : kindP (all.drop i) ≠ kd) :
    Calls Tryz.prog 88 #[.pointer (some ⟨g, 0, none⟩), .int .i64 kd] w fun e w' => e = .panicked (thrownV 2 (atP E (all.drop i))) ∧ Below w.heap.size w w' := by
  have hb0 : Below w.heap.size w (w.alloc (.cells #[.int .i64 0, .int .i64 0, .int .i64 0, .string ⟨#[]⟩] 101)) := (Below.refl _ _).alloc (Nat.le_refl _) _
  have hA := h.below hb0 h0
  have c := met_any h0 hA
  unfold tokV at c
  have hne : (kindP (all.drop i) != kd) = true := by simpa using hk
  have c2 := fun (w1 : World) (h1 : PSt all E g v w1 i n) => fail_any h0 h1 2
  generalize kindP (all.drop i) = kq at *
  generalize hw1 : w.alloc (.cells #[.int .i64 0, .int .i64 0, .int .i64 0, .string ⟨#[]⟩] 101) = wA at *
  clear hk
  go_enter Tryz.func88, Tryz.ntmps88
  go_wp2_with fail
  refine c.mono ?_
  rintro e w1 ⟨rfl, hb1⟩
  have h1 := hA.below hb1 h0
  have hbw1 := hb0.trans (hb1.mono hb0.size)
  clear c hA hb1 hw1 hb0
  go_wp2_with fail
  refine (c2 _ h1).mono ?_
  rintro e w2 ⟨rfl, hb2⟩
  exact ⟨rfl, rfl, hbw1.trans (hb2.mono hbw1.size)⟩
end Go.Proofs.YtgfjbcdjpkcbkaaGreatDoor
