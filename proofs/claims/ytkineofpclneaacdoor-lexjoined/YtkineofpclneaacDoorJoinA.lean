/- What LexJoined's walk needs: the tokens of two lines, out of what Lex tells; rows appended to a row. -/
import Derived.Test.YtkineofpclneaacDoorLexZ
import Derived.Laws.AppendOwnNone
namespace Go.Proofs.YtkineofpclneaacDoor
open Go.RowKit Lx

theorem join_tells {x y : List UInt8} {ts us : List (T1 × Nat)} {k j : Nat} {base : Nat} {w : World} {v : Value} {er at_ : Int} (hx : Lexed x ts k) (hk : ¬ k < x.length) (hy : Lexed y us j) (hj : ¬ j < y.length) (hl : x.length + y.length + 1 ≤ 6000)
    (h : LexTells (x ++ 10 :: y) base w v er at_) : er = 0 ∧ w.ownsRow base 30 4 v (ts ++ onBy (x.length + 1) us).length (flatT (ts ++ onBy (x.length + 1) us)) := by
  have h1 := lexed_line y hx
  rw [if_neg hk] at h1
  have h2 := lexed_both h1 hy
  have hlen : (x ++ 10 :: y).length = x.length + 1 + y.length := by simp; omega
  have hend : ¬ (x.length + 1 + j < (x ++ 10 :: y).length ∧ (firstT ((x ++ 10 :: y).drop (x.length + 1 + j))).err = 0) := fun h => by have := h.1; omega
  rcases h with ⟨h, _⟩ | ⟨ts', k', _, hL, hk', he, _⟩ | ⟨ts', k', _, hL, hk', ho, he, _⟩
  · omega
  · obtain ⟨_, e⟩ := lexed_one hL h2 (fun h => he h.2) hend
    omega
  · obtain ⟨e, _⟩ := lexed_one hL h2 (fun h => hk' h.1) hend
    rw [← e]
    exact ⟨he, ho⟩
theorem flatT_one : ∀ (ts : List (T1 × Nat)) (u : Value), u ∈ flatT ts → u.oneCell' = true
  | [], u, h => by simp [flatT] at h
  | p :: ts, u, h => by
    simp only [flatT, List.mem_cons] at h
    rcases h with rfl | rfl | rfl | rfl | h
    · rfl
    · rfl
    · rfl
    · rfl
    · exact flatT_one ts u h
theorem wpList_append_rows {P : Program} {w : World} {ops : Array Oper} {rest : List Oper} {o : Oper} {a : Act} {Q : Exit → Act → World → Prop} (hgd : o.guard = none) (s x : Operand) (t : TypeId)
    (ho : o.op = .call { callee := .builtin .append, args := #[s, x], argTypes := #[t, t] })
    (base base' : Nat) (e : TypeId) (i : TypeInfo) (z : Value) (size bytes : Nat) (ht : P.underlying t = some (.slice e)) (hi : P.info? e = some i) (hz : i.zero = some z)
    (hsize : i.size = size) (hby : i.bytes = bytes) (hzs : z.cells.size = size) (hsz : 0 < size)
    (v : Value) (n : Nat) (xs : List Value) (hs : a.eval s = v) (hown : w.ownsRow base e size v n xs)
    (vx : Value) (m : Nat) (news : List Value) (hx : a.eval x = vx) (hox : w.ownsRow base' e size vx m news) (h1 : ∀ u ∈ news, u.oneCell' = true)
    (h63 : n + m ≤ maxLen) (hbytes : (n + m) * bytes ≤ 140737488355328) (hbase : base ≤ w.heap.size)
    (h : ∀ v' w', w'.ownsRow base e size v' (n + m) (xs ++ news) → w.grownBy w' v.ownBlock → wpList P ops Q rest (a.put o.dst v') w') : wpList P ops Q (o :: rest) a w := by
  have hox' := hox
  obtain ⟨hl, h2⟩ := hox
  rcases h2 with ⟨rfl, rfl⟩ | ⟨g, cap, cur, rfl, hb, hh, r1, r2, r3, r4⟩
  · have e0 : news = [] := List.length_eq_zero_iff.1 (by omega)
    subst e0
    refine wpList_append_own_none hgd s x t ho base e i size ht hi v n xs hs hown hx (h v w (by rw [List.append_nil]; exact hown) ⟨rfl, rfl, rfl, Nat.le_refl _, fun _ _ _ => rfl⟩)
  · refine wpList_append_own w hgd s x t ho base e i z size bytes ht hi hz hsize hby hzs hsz v n xs hs hown ⟨g, 0, none⟩ m cap news hx hl (hox'.cells rfl) h1 h63 hbytes hbase fun v' w' h2 h3 _ => h v' w' h2 h3
theorem lex_right {l : List UInt8} {base : Nat} {w : World} {v : Value} {at_ : Int} (h : LexTells l base w v 0 at_) : ∃ (ts : List (T1 × Nat)) (k : Nat), l.length ≤ 6000 ∧ Lexed l ts k ∧ ¬ k < l.length ∧ w.ownsRow base 30 4 v ts.length (flatT ts) := by
  rcases h with ⟨_, _, h, _⟩ | ⟨ts, k, _, _, _, he, _, h, _⟩ | ⟨ts, k, h1, h2, h3, h4, _⟩
  · cases h
  · exact absurd h.symm he
  · exact ⟨ts, k, h1, h2, h3, h4⟩
theorem lexed_at {l : List UInt8} {ts : List (T1 × Nat)} {k : Nat} (h : Lexed l ts k) : ∀ p ∈ ts, p.2 < l.length := by
  obtain ⟨n, hn⟩ := h
  refine Lexed.ind (M := fun ts _ => ∀ p ∈ ts, p.2 < l.length) (fun p hp => by cases hp) ?_ n hn
  intro ts k _ hk _ ih p hp
  rcases List.mem_append.1 hp with h | h
  · exact ih p h
  · have e : p = (firstT (l.drop k), k) := by simpa using h
    rw [e]; exact hk
theorem owns_setCell {w : World} {base : Nat} {e : TypeId} {size : Nat} {v : Value} {n : Nat} {xs : List Value} (h : w.ownsRow base e size v n xs) {g : Nat} (hg : v.ownBlock ≠ some g) (i : Nat) (u : Value) : (w.setCell ⟨g, i, none⟩ u).ownsRow base e size v n xs := by
  obtain ⟨h1, h2⟩ := h
  refine ⟨h1, ?_⟩
  rcases h2 with h2 | ⟨g', cap, cur, hv, hb, hh, r⟩
  · exact .inl h2
  · refine .inr ⟨g', cap, cur, hv, hb, (heap_setCell_other _ _ _ _ fun e => hg ?_).trans hh, r⟩
    subst hv
    simp [Value.ownBlock, e]
theorem owns_frozen {w : World} {base : Nat} {e : TypeId} {size g n cap : Nat} {xs : List Value} (h : w.ownsRow base e size (.slice (some ⟨g, 0, none⟩) n cap) n xs) (i : Nat) : w.frozen? ⟨g, i, none⟩ = false := by
  obtain ⟨_, h2⟩ := h
  rcases h2 with ⟨h2, _⟩ | ⟨g', cap', cur, hv, _, hh, _⟩
  · cases h2
  · have eg : g' = g := by
      injection hv with a1 a2 a3
      injection a1 with a1
      injection a1 with a1
      exact a1.symm
    subst eg
    exact frozen_of_row _ _ _ _ _ hh
theorem owns_lt {w : World} {base : Nat} {e : TypeId} {size g n cap : Nat} {xs : List Value} (h : w.ownsRow base e size (.slice (some ⟨g, 0, none⟩) n cap) n xs) : base ≤ g ∧ g < w.heap.size := h.lt g rfl
theorem owns_form {w : World} {base : Nat} {e : TypeId} {size : Nat} {v : Value} {n : Nat} {xs : List Value} (h : w.ownsRow base e size v n xs) : ∃ p c, v = .slice p n c := by
  obtain ⟨_, h2⟩ := h
  rcases h2 with ⟨h2, h3⟩ | ⟨g, cap, _, h2, _⟩
  · exact ⟨none, 0, by rw [h2, h3]⟩
  · exact ⟨_, cap, h2⟩
end Go.Proofs.YtkineofpclneaacDoor
