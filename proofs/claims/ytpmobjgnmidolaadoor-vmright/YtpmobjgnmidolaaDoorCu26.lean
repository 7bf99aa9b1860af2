/- The code of an expression uses its stack well. -/
import Derived.Test.YtpmobjgnmidolaaDoorCu25
import Derived.Test.YtpmobjgnmidolaaDoorCu17
import Derived.Test.YtpmobjgnmidolaaDoorCu06
import Derived.Test.YtpmobjgnmidolaaDoorCu23
import Derived.Test.YtpmobjgnmidolaaDoorCu24
import Derived.Deep.MidRow
import Derived.Test.YtpmobjgnmidolaaDoorCu08
namespace Go.Proofs.YtpmobjgnmidolaaDoor
open Go.RowKit Lx Vx Msk

/-- Code that lies in code, from a place on. -/
def SegAt (l : List In) (b : Nat) (c : List In) : Prop := ∀ j, j < c.length → l[b + j]? = c[j]?
theorem SegAt.left {l : List In} {b : Nat} {c d : List In} (h : SegAt l b (c ++ d)) : SegAt l b c := fun j hj => by
  rw [h j (by rw [List.length_append]; omega), List.getElem?_append_left hj]
theorem SegAt.right {l : List In} {b : Nat} {c d : List In} (h : SegAt l b (c ++ d)) : SegAt l (b + c.length) d := fun j hj => by
  have := h (c.length + j) (by rw [List.length_append]; omega)
  rw [List.getElem?_append_right (by omega), Nat.add_sub_cancel_left, ← Nat.add_assoc] at this
  exact this
theorem SegAt.one {l : List In} {b : Nat} {x : In} {d : List In} (h : SegAt l b (x :: d)) : l[b]? = some x := by
  have := h 0 (by simp)
  simpa using this
theorem SegAt.tail {l : List In} {b : Nat} {x : In} {d : List In} (h : SegAt l b (x :: d)) : SegAt l (b + 1) d := SegAt.right (c := [x]) h
/-- What is so of code that lies there. -/
structure SegOK (l : List In) (b n R N : Nat) : Prop where
  fin : hAt l (b + n) = hAt l b + 1
  tk : ∀ j x, b ≤ j → j < b + n → l[j]? = some x → Vx.tk x + hAt l b ≤ hAt l j
  to : ∀ j x, b ≤ j → j < b + n → l[j]? = some x → isG x → hAt l x.to.toNat = hAt l j + 1
  ins : ∀ j x, b ≤ j → j < b + n → l[j]? = some x → insE x j N R = 0
theorem ins_1 {x : In} (ho : x.op = 1) (h : risL x.sp (-1) = true) (j N R : Nat) : insE x j N R = 0 := by
  unfold insE
  rw [if_neg (by omega), if_pos ho, if_pos h]
theorem ins_234 {x : In} (ho : x.op = 2 ∨ x.op = 3 ∨ x.op = 4) (j N R : Nat) : insE x j N R = 0 := by
  unfold insE
  rw [if_pos ho]
theorem ins_5 {x : In} (ho : x.op = 5) (h : x.a ≠ 0 ∧ -1439 ≤ x.a ∧ x.a ≤ 1439) (j N R : Nat) : insE x j N R = 0 := by
  unfold insE
  rw [if_neg (by omega), if_neg (by omega), if_pos ho, if_pos h]
theorem ins_6 {x : In} {j N : Nat} (ho : x.op = 6) (ht : (j : Int) + 2 ≤ x.to ∧ x.to ≤ N) (h : 1 ≤ x.a ∧ x.a ≤ 127) (R : Nat) : insE x j N R = 0 := by
  unfold insE
  rw [if_neg (by omega), if_neg (by omega), if_neg (by omega), if_pos ho, if_pos ht, if_pos h]
theorem ins_7 {x : In} {j N : Nat} (ho : x.op = 7) (ht : (j : Int) + 2 ≤ x.to ∧ x.to ≤ N) (h : 0 ≤ x.a ∧ x.a ≤ x.b ∧ x.b < 146097) (R : Nat) : insE x j N R = 0 := by
  unfold insE
  rw [if_neg (by omega), if_neg (by omega), if_neg (by omega), if_neg (by omega), if_pos ho, if_pos ht, if_pos h]
theorem ins_8 {x : In} {R : Nat} (ho : x.op = 8) (h : 0 ≤ x.a ∧ x.a < R) (j N : Nat) : insE x j N R = 0 := by
  unfold insE
  rw [if_neg (by omega), if_neg (by omega), if_neg (by omega), if_neg (by omega), if_neg (by omega), if_pos ho, if_pos h]
theorem eff_1 {x : In} (ho : x.op = 1 ∨ x.op = 8) : eff x = 1 := by unfold eff; rw [if_pos ho]
theorem eff_2 {x : In} (ho : x.op = 2 ∨ x.op = 3 ∨ x.op = 4) : eff x = -1 := by unfold eff; rw [if_neg (by omega), if_pos ho]
theorem eff_0 {x : In} (ho : x.op = 5 ∨ x.op = 6 ∨ x.op = 7) : eff x = 0 := by unfold eff; rw [if_neg (by omega), if_neg (by omega)]
theorem tk_0 {x : In} (ho : x.op = 1 ∨ x.op = 6 ∨ x.op = 7 ∨ x.op = 8) : Vx.tk x = 0 := by unfold Vx.tk; rw [if_neg (by omega), if_neg (by omega)]
theorem tk_1 {x : In} (ho : x.op = 5) : Vx.tk x = 1 := by unfold Vx.tk; rw [if_pos ho]
theorem tk_2 {x : In} (ho : x.op = 2 ∨ x.op = 3 ∨ x.op = 4) : Vx.tk x = 2 := by unfold Vx.tk; rw [if_neg (by omega), if_pos ho]
/-- One instruction that takes nothing. -/
theorem SegOK.one {l : List In} {b R N : Nat} {x : In} (hx : l[b]? = some x) (ho : x.op = 1 ∨ x.op = 8) (hi : insE x b N R = 0) : SegOK l b 1 R N := by
  refine ⟨by rw [hAt_step hx, eff_1 ho], fun j y h1 h2 hy => ?_, fun j y h1 h2 hy hg => ?_, fun j y h1 h2 hy => ?_⟩ <;>
    (obtain rfl : j = b := by omega) <;> (rw [hx] at hy; cases Option.some.inj hy)
  · rw [tk_0 (by omega)]; omega
  · rcases hg with hg | hg <;> omega
  · exact hi
/-- A guard, and what it guards. -/
theorem SegOK.guard {l : List In} {b n R N : Nat} {x : In} (hx : l[b]? = some x) (ho : x.op = 6 ∨ x.op = 7) (hto : x.to = ((b + 1 + n : Nat) : Int)) (hi : insE x b N R = 0) (h : SegOK l (b + 1) n R N) : SegOK l b (n + 1) R N := by
  have e1 : hAt l (b + 1) = hAt l b := by rw [hAt_step hx, eff_0 (by omega)]; omega
  have e2 : b + (n + 1) = b + 1 + n := by omega
  refine ⟨by rw [e2, h.fin, e1], fun j y h1 h2 hy => ?_, fun j y h1 h2 hy hg => ?_, fun j y h1 h2 hy => ?_⟩ <;> by_cases hj : j = b
  · subst hj
    rw [hx] at hy; cases Option.some.inj hy
    rw [tk_0 (by omega)]; omega
  · have := h.tk j y (by omega) (by omega) hy
    rw [e1] at this; exact this
  · subst hj
    rw [hx] at hy; cases Option.some.inj hy
    rw [hto, Int.toNat_natCast, h.fin, e1]
  · exact h.to j y (by omega) (by omega) hy hg
  · subst hj
    rw [hx] at hy; cases Option.some.inj hy
    exact hi
  · exact h.ins j y (by omega) (by omega) hy
theorem SegOK.shift {l : List In} {b n R N : Nat} {x : In} (h : SegOK l b n R N) (hx : l[b + n]? = some x) (ho : x.op = 5) (hi : insE x (b + n) N R = 0) : SegOK l b (n + 1) R N := by
  refine ⟨by rw [← Nat.add_assoc, hAt_step hx, eff_0 (by omega), h.fin]; omega, fun j y h1 h2 hy => ?_, fun j y h1 h2 hy hg => ?_, fun j y h1 h2 hy => ?_⟩ <;> by_cases hj : j = b + n
  · subst hj
    rw [hx] at hy; cases Option.some.inj hy
    rw [tk_1 ho, h.fin]; omega
  · exact h.tk j y h1 (by omega) hy
  · subst hj
    rw [hx] at hy; cases Option.some.inj hy
    rcases hg with hg | hg <;> omega
  · exact h.to j y h1 (by omega) hy hg
  · subst hj
    rw [hx] at hy; cases Option.some.inj hy
    exact hi
  · exact h.ins j y h1 (by omega) hy
theorem SegOK.pair {l : List In} {b n m R N : Nat} {x : In} (h : SegOK l b n R N) (h' : SegOK l (b + n) m R N) (hx : l[b + n + m]? = some x) (ho : x.op = 2 ∨ x.op = 3 ∨ x.op = 4) : SegOK l b (n + m + 1) R N := by
  have e1 := h.fin
  have e2 := h'.fin
  refine ⟨by rw [show b + (n + m + 1) = b + n + m + 1 by omega, hAt_step hx, eff_2 ho]; omega, fun j y h1 h2 hy => ?_, fun j y h1 h2 hy hg => ?_, fun j y h1 h2 hy => ?_⟩ <;> by_cases hj : j = b + n + m
  · subst hj
    rw [hx] at hy; cases Option.some.inj hy
    rw [tk_2 ho]; omega
  · by_cases hj2 : j < b + n
    · exact h.tk j y h1 hj2 hy
    · have := h'.tk j y (by omega) (by omega) hy
      omega
  · subst hj
    rw [hx] at hy; cases Option.some.inj hy
    rcases hg with hg | hg <;> omega
  · by_cases hj2 : j < b + n
    · exact h.to j y h1 hj2 hy hg
    · exact h'.to j y (by omega) (by omega) hy hg
  · subst hj
    rw [hx] at hy; cases Option.some.inj hy
    exact ins_234 ho _ _ _
  · by_cases hj2 : j < b + n
    · exact h.ins j y h1 hj2 hy
    · exact h'.ins j y (by omega) (by omega) hy
theorem opK_234 {k : Int} (h : k = 6 ∨ k = 7 ∨ k = 8) : opK k = 2 ∨ opK k = 3 ∨ opK k = 4 := by
  unfold opK
  rcases h with rfl | rfl | rfl <;> simp
theorem nms_kid {e k : Ex} (hk : k ∈ e.kids) {x : List UInt8} (hx : x ∈ nms k) : x ∈ nms e := by
  rw [nms_eq, List.mem_append]
  right
  unfold nmsL
  exact List.mem_flatten.2 ⟨nms k, List.mem_map.2 ⟨k, hk, rfl⟩, hx⟩
theorem nms_own {e : Ex} (h : e.kind = 10) : e.name ∈ nms e := by rw [nms_eq, if_pos h]; simp
theorem seg_ok {num : List UInt8 → Int} {R N : Nat} {l : List In} : ∀ (M : Nat) (e : Ex), SizeOf.sizeOf e ≤ M → OKE e → (∀ x ∈ nms e, 0 ≤ num x ∧ num x < R) → ∀ b, SegAt l b (codeE num e b) → b + (codeE num e b).length ≤ N → SegOK l b (codeE num e b).length R N
  | 0, e, hM, _, _, _, _, _ => by cases e; simp at hM
  | M + 1, e, hM, h, hn, b, hs, hN => by
    have ih : ∀ k ∈ e.kids, ∀ b', SegAt l b' (codeE num k b') → b' + (codeE num k b').length ≤ N → SegOK l b' (codeE num k b').length R N := fun k hk b' => seg_ok M k (by have := kid_lt hk; omega) (h.kid hk) (fun x hx => hn x (nms_kid hk hx)) b'
    have hr := h.kinds.2.2.2.1
    cases hstd : stdE e with
    | true =>
      rw [code_std hstd] at hs ⊢
      exact SegOK.one hs.one (.inl rfl) (ins_1 rfl (risL_rs _) _ _ _)
    | false =>
      rcases code_kinds h hstd with ⟨q, k, hk⟩ | ⟨q, k, hk⟩ | ⟨q, k, hk⟩ | q | ⟨q, k, m, hk⟩
      · have hm : k ∈ e.kids := by rw [hk]; simp
        have h1 := (code_len num _ k (Nat.le_refl _) (h.kid hm) (b + 1)).1
        unfold rangeP at hr
        rw [if_neg (by omega), if_pos q] at hr
        have hr' := of_decide_eq_true hr
        rw [code_week q (by rw [hk]; rfl)] at hs hN ⊢
        rw [List.length_cons] at hN ⊢
        refine SegOK.guard hs.one (.inl rfl) rfl (ins_6 rfl ⟨?_, ?_⟩ ⟨hr'.1, ?_⟩ _) (ih k hm (b + 1) hs.tail (by omega))
        · show (b : Int) + 2 ≤ ((b + 1 + _ : Nat) : Int); omega
        · show ((b + 1 + _ : Nat) : Int) ≤ _; omega
        · show e.a ≤ 127; omega
      · have hm : k ∈ e.kids := by rw [hk]; simp
        have h1 := (code_len num _ k (Nat.le_refl _) (h.kid hm) (b + 1)).1
        unfold rangeP at hr
        rw [if_neg (by omega), if_neg (by omega), if_pos q] at hr
        have hr' := of_decide_eq_true hr
        rw [code_dates q (by rw [hk]; rfl)] at hs hN ⊢
        rw [List.length_cons] at hN ⊢
        refine SegOK.guard hs.one (.inr rfl) rfl (ins_7 rfl ⟨?_, ?_⟩ hr' _) (ih k hm (b + 1) hs.tail (by omega))
        · show (b : Int) + 2 ≤ ((b + 1 + _ : Nat) : Int); omega
        · show ((b + 1 + _ : Nat) : Int) ≤ _; omega
      · have hm : k ∈ e.kids := by rw [hk]; simp
        unfold rangeP at hr
        rw [if_neg (by omega), if_neg (by omega), if_neg (by omega), if_pos q] at hr
        have hr' := of_decide_eq_true hr
        rw [code_shift hstd q hk] at hs hN ⊢
        rw [List.length_append, List.length_singleton] at hN ⊢
        exact SegOK.shift (ih k hm b hs.left (by omega)) hs.right.one rfl (ins_5 rfl ⟨hr'.1, by show -1439 ≤ e.a; omega, by show e.a ≤ 1439; omega⟩ _ _ _)
      · rw [code_name q] at hs ⊢
        exact SegOK.one hs.one (.inr rfl) (ins_8 rfl (hn _ (nms_own q)) _ _)
      · have hm : k ∈ e.kids := by rw [hk]; simp
        have hm' : m ∈ e.kids := by rw [hk]; simp
        rw [code_pair hstd q hk] at hs hN ⊢
        rw [List.length_append, List.length_append, List.length_singleton] at hN ⊢
        have hs1 := hs.right.one
        rw [List.length_append, ← Nat.add_assoc] at hs1
        exact SegOK.pair (ih k hm b hs.left.left (by omega)) (ih m hm' _ hs.left.right (by omega)) hs1 (opK_234 q)
/-- So the code of an expression is used well, and nothing is wrong with its instructions. -/
theorem code_well {num : List UInt8 → Int} {R : Nat} {e : Ex} (h : OKE e) (hn : ∀ x ∈ nms e, 0 ≤ num x ∧ num x < R) : WellV (codeE num e 0) ∧ ∀ j x, (codeE num e 0)[j]? = some x → insE x j (codeE num e 0).length R = 0 := by
  have hs : SegAt (codeE num e 0) 0 (codeE num e 0) := fun j _ => by rw [Nat.zero_add]
  have q := seg_ok (N := (codeE num e 0).length) (R := R) _ e (Nat.le_refl _) h hn 0 hs (by omega)
  have lt : ∀ {j : Nat} {x : In}, (codeE num e 0)[j]? = some x → j < 0 + (codeE num e 0).length := fun hj => by
    have := (List.getElem?_eq_some_iff.1 hj).1
    omega
  refine ⟨⟨fun j x hx => ?_, fun j x hx hg => q.to j x (Nat.zero_le _) (lt hx) hx hg, ?_⟩, fun j x hx => q.ins j x (Nat.zero_le _) (lt hx) hx⟩
  · have := q.tk j x (Nat.zero_le _) (lt hx) hx
    simpa [hAt] using this
  · have := q.fin
    simpa [hAt] using this
end Go.Proofs.YtpmobjgnmidolaaDoor

/- How high code grows and how many steps it takes, plainly: as measure reckons it. -/
namespace Go.Proofs.YtpmobjgnmidolaaDoor
open Go.RowKit Lx Vx Msk

/-- Only what is called matters. -/
theorem mxH_congr {cs cs' : List Cd} {l : List In} : ∀ (j : Nat), (∀ j' x, j' < j → l[j']? = some x → x.op = 8 → (cs.getD x.a.toNat cd0).high = (cs'.getD x.a.toNat cd0).high) → j ≤ l.length → mxH cs l j = mxH cs' l j
  | 0, _, _ => rfl
  | j + 1, h, hj => by
    have ih := mxH_congr (cs := cs) (cs' := cs') (l := l) j (fun j' x h1 => h j' x (by omega)) (by omega)
    have hx : l[j]? = some l[j] := List.getElem?_eq_getElem (by omega)
    rw [mxH_step hx, mxH_step hx, ih]
    by_cases ho : (l[j]).op = 8
    · rw [if_pos ho, if_pos ho, h j _ (by omega) hx ho]
    · rw [if_neg ho, if_neg ho]
theorem stS_congr {cs cs' : List Cd} {l : List In} : ∀ (j : Nat), (∀ j' x, j' < j → l[j']? = some x → x.op = 8 → (cs.getD x.a.toNat cd0).steps = (cs'.getD x.a.toNat cd0).steps) → j ≤ l.length → stS cs l j = stS cs' l j
  | 0, _, _ => rfl
  | j + 1, h, hj => by
    have ih := stS_congr (cs := cs) (cs' := cs') (l := l) j (fun j' x h1 => h j' x (by omega)) (by omega)
    have hx : l[j]? = some l[j] := List.getElem?_eq_getElem (by omega)
    rw [stS_step hx, stS_step hx, ih]
    by_cases ho : (l[j]).op = 8
    · rw [if_pos ho, if_pos ho, h j _ (by omega) hx ho]
    · rw [if_neg ho, if_neg ho]
/-- Code with what is told of it. -/
def withM (C : List (List In)) (m : Nat → Int × Int) : List Cd := (List.range C.length).map fun k => ⟨C.getD k [], (m k).1, (m k).2⟩
theorem withM_len (C : List (List In)) (m : Nat → Int × Int) : (withM C m).length = C.length := by simp [withM]
theorem withM_at {C : List (List In)} {m : Nat → Int × Int} {k : Nat} (h : k < C.length) : (withM C m).getD k cd0 = ⟨C.getD k [], (m k).1, (m k).2⟩ := by
  have : (withM C m)[k]? = some ⟨C.getD k [], (m k).1, (m k).2⟩ := by
    unfold withM
    rw [List.getElem?_map, List.getElem?_range h]
    rfl
  simp [List.getD, this]
/-- What is reckoned of a rule's code, of what is told of others'. -/
def reck (C : List (List In)) (m : Nat → Int × Int) (i : Nat) : Int × Int := (min (mxH (withM C m) (C.getD i []) (C.getD i []).length) 101, min (stS (withM C m) (C.getD i []) (C.getD i []).length) 20001)
def meaF (C : List (List In)) : Nat → Nat → Int × Int
  | 0, _ => (0, 0)
  | f + 1, i => reck C (meaF C f) i
/-- Each calls others alone that are nearer to the ground. -/
structure Ranked (C : List (List In)) (ρ : Nat → Nat) : Prop where
  lt : ∀ (i j : Nat) (x : In), i < C.length → (C.getD i [])[j]? = some x → x.op = 8 → 0 ≤ x.a ∧ x.a.toNat < C.length ∧ ρ x.a.toNat < ρ i
theorem reck_congr {C : List (List In)} {ρ : Nat → Nat} (h : Ranked C ρ) {m m' : Nat → Int × Int} {i : Nat} (hi : i < C.length) (hm : ∀ k, k < C.length → ρ k < ρ i → m k = m' k) : reck C m i = reck C m' i := by
  have key : ∀ j' x, j' < (C.getD i []).length → (C.getD i [])[j']? = some x → x.op = 8 → (withM C m).getD x.a.toNat cd0 = (withM C m').getD x.a.toNat cd0 := fun j' x _ hx ho => by
    obtain ⟨_, h2, h3⟩ := h.lt i j' x hi hx ho
    rw [withM_at h2, withM_at h2, hm _ h2 h3]
  have e1 : mxH (withM C m) (C.getD i []) (C.getD i []).length = mxH (withM C m') (C.getD i []) (C.getD i []).length := mxH_congr _ (fun j' x h1 h2 h3 => by rw [key j' x h1 h2 h3]) (Nat.le_refl _)
  have e2 : stS (withM C m) (C.getD i []) (C.getD i []).length = stS (withM C m') (C.getD i []) (C.getD i []).length := stS_congr _ (fun j' x h1 h2 h3 => by rw [key j' x h1 h2 h3]) (Nat.le_refl _)
  unfold reck
  rw [e1, e2]
theorem meaF_fuel {C : List (List In)} {ρ : Nat → Nat} (h : Ranked C ρ) : ∀ (f f' i : Nat), i < C.length → ρ i < f → ρ i < f' → meaF C f i = meaF C f' i
  | 0, _, _, _, h1, _ => by omega
  | _ + 1, 0, _, _, _, h2 => by omega
  | f + 1, f' + 1, i, hi, h1, h2 => by
    unfold meaF
    exact reck_congr h hi fun k hk hr => meaF_fuel h f f' k hk (by omega) (by omega)
/-- What measure tells; N: a bound of all ranks. -/
theorem meaF_eq {C : List (List In)} {ρ : Nat → Nat} (h : Ranked C ρ) {N : Nat} (hN : ∀ i, i < C.length → ρ i ≤ N) {i : Nat} (hi : i < C.length) : meaF C (N + 1) i = reck C (meaF C (N + 1)) i := by
  conv => lhs; unfold meaF
  have h1 := hN i hi
  exact reck_congr h hi fun k hk hr => meaF_fuel h N (N + 1) k hk (by omega) (by have := hN k hk; omega)
/-- Heights and steps are small. -/
theorem eff_bd (x : In) : -1 ≤ eff x ∧ eff x ≤ 1 := by
  unfold eff
  split
  · omega
  · split <;> omega
theorem hAt_bd (l : List In) : ∀ j : Nat, -(j : Int) ≤ hAt l j ∧ hAt l j ≤ (j : Int)
  | 0 => by simp [hAt]
  | j + 1 => by
    have ih := hAt_bd l j
    have e := eff_bd (l.getD j in0)
    simp only [hAt]
    omega
structure Small (cs : List Cd) : Prop where
  hi : ∀ k, 0 ≤ (cs.getD k cd0).high ∧ (cs.getD k cd0).high ≤ 101
  st : ∀ k, 0 ≤ (cs.getD k cd0).steps ∧ (cs.getD k cd0).steps ≤ 20001
theorem mxH_bd {cs : List Cd} (h : Small cs) (l : List In) : ∀ j : Nat, 0 ≤ mxH cs l j ∧ mxH cs l j ≤ (j : Int) + 101
  | 0 => by simp [mxH]
  | j + 1 => by
    have ih := mxH_bd h l j
    have e := hAt_bd l j
    have e' := hAt_bd l (j + 1)
    have q := h.hi (l.getD j in0).a.toNat
    simp only [mxH]
    split <;> omega
theorem stS_bd {cs : List Cd} (h : Small cs) (l : List In) : ∀ j : Nat, (j : Int) ≤ stS cs l j ∧ stS cs l j ≤ (j : Int) * 20002
  | 0 => by simp [stS]
  | j + 1 => by
    have ih := stS_bd h l j
    have q := h.st (l.getD j in0).a.toNat
    simp only [stS]
    split <;> omega
theorem withM_small {C : List (List In)} {m : Nat → Int × Int} (h : ∀ k, k < C.length → (0 ≤ (m k).1 ∧ (m k).1 ≤ 101) ∧ (0 ≤ (m k).2 ∧ (m k).2 ≤ 20001)) : Small (withM C m) := by
  constructor <;> intro k <;> by_cases hk : k < C.length
  · rw [withM_at hk]; exact (h k hk).1
  · have : (withM C m).getD k cd0 = cd0 := by
      have : (withM C m)[k]? = none := List.getElem?_eq_none (by rw [withM_len]; omega)
      simp [List.getD, this]
    rw [this]; simp [cd0]
  · rw [withM_at hk]; exact (h k hk).2
  · have : (withM C m).getD k cd0 = cd0 := by
      have : (withM C m)[k]? = none := List.getElem?_eq_none (by rw [withM_len]; omega)
      simp [List.getD, this]
    rw [this]; simp [cd0]
theorem reck_bd {C : List (List In)} {m : Nat → Int × Int} (h : Small (withM C m)) (i : Nat) : (0 ≤ (reck C m i).1 ∧ (reck C m i).1 ≤ 101) ∧ (0 ≤ (reck C m i).2 ∧ (reck C m i).2 ≤ 20001) ∧ (1 ≤ (C.getD i []).length → 1 ≤ (reck C m i).2) := by
  have a := mxH_bd h (C.getD i []) (C.getD i []).length
  have b := stS_bd h (C.getD i []) (C.getD i []).length
  refine ⟨⟨?_, ?_⟩, ⟨?_, ?_⟩, fun hl => ?_⟩ <;> simp only [reck] <;> omega
theorem meaF_bd (C : List (List In)) : ∀ (f i : Nat), (0 ≤ (meaF C f i).1 ∧ (meaF C f i).1 ≤ 101) ∧ (0 ≤ (meaF C f i).2 ∧ (meaF C f i).2 ≤ 20001)
  | 0, i => by simp [meaF]
  | f + 1, i => by
    have h := reck_bd (C := C) (withM_small (C := C) fun k _ => meaF_bd C f k) i
    exact ⟨h.1, h.2.1⟩
theorem meaF_small (C : List (List In)) (f : Nat) : Small (withM C (meaF C f)) := withM_small fun k _ => meaF_bd C f k
end Go.Proofs.YtpmobjgnmidolaaDoor

/- What code.steady comes to. -/
namespace Go.Proofs.YtpmobjgnmidolaaDoor
open Go.RowKit Lx Vx Msk
variable {B : Nat → Prop}

def OutS7 (e : Ex) (w : World) (r : Ending) (w' : World) : Prop := r = .returned (.bool (stdE e)) ∧ Below w.heap.size w w'
/-- The kids of an expression, each with what is told of it. -/
def KidsS (w : World) (sl : Value) (ks : List Ex) : Prop :=
  ∃ g o c : Nat, sl = .slice (some ⟨g, o, none⟩) ks.length c ∧ ks.length < 9223372036854775808 ∧ ∀ (j : Nat) (k : Ex), ks[j]? = some k → ∃ (p : Option Addr) (q : Nat),
    w.cell? ⟨g, o + j * 5, none⟩ = some (.int .i64 k.kind) ∧ w.cell? ⟨g, o + j * 5 + 1, none⟩ = some (.int .i64 k.a) ∧ w.cell? ⟨g, o + j * 5 + 2, none⟩ = some (.int .i64 k.b) ∧
    w.cell? ⟨g, o + j * 5 + 3, none⟩ = some (.string ⟨k.name.toArray⟩) ∧ w.cell? ⟨g, o + j * 5 + 4, none⟩ = some (.slice p k.kids.length q) ∧
    ∀ W : World, Below w.heap.size w W → Calls Tryd.prog 43 #[.agg #[.int .i64 k.kind, .int .i64 k.a, .int .i64 k.b, .string ⟨k.name.toArray⟩, .slice p k.kids.length q]] W (OutS7 k W)
theorem all_step {ks : List Ex} {j : Nat} {k : Ex} (h : ks[j]? = some k) : (ks.drop j).all stdE = (stdE k && (ks.drop (j + 1)).all stdE) := by
  obtain ⟨h1, h2⟩ := List.getElem?_eq_some_iff.1 h
  rw [List.drop_eq_getElem_cons h1, h2]
  rfl
set_option maxRecDepth 100000 in
set_option maxHeartbeats 2000000 in
theorem steady_step (e : Ex) (p : Option Addr) (c : Nat) (w : World) (hk : e.kids = [] ∨ KidsS w (.slice p e.kids.length c) e.kids) (hlen : e.kids.length < 9223372036854775808) :
    Calls Tryd.prog 43 #[.agg #[.int .i64 e.kind, .int .i64 e.a, .int .i64 e.b, .string ⟨e.name.toArray⟩, .slice p e.kids.length c]] w (OutS7 e w) := by
  have hbA := (Below.refl w.heap.size w).alloc (Nat.le_refl _) (.cells #[.int .i64 e.kind, .int .i64 e.a, .int .i64 e.b, .string ⟨e.name.toArray⟩, .slice p e.kids.length c] 50)
  have hxA := heap_alloc_new w (.cells #[.int .i64 e.kind, .int .i64 e.a, .int .i64 e.b, .string ⟨e.name.toArray⟩, .slice p e.kids.length c] 50)
  generalize hwA : w.alloc (.cells #[.int .i64 e.kind, .int .i64 e.a, .int .i64 e.b, .string ⟨e.name.toArray⟩, .slice p e.kids.length c] 50) = wA at *
  have z0 := (cell_of_row _ _ 0 _ _ _ hxA).trans rfl
  have z4 := (cell_of_row _ _ 4 _ _ _ hxA).trans rfl
  generalize hX : stdE e = X
  have HX : Hid (stdE e = X) := hX
  unfold OutS7
  rw [hX]
  clear hX
  by_cases k4 : e.kind = 4
  · have HE : Hid (X = false) := by
      show _ = _
      rw [← HX.out]
      cases hs : stdE e with
      | false => rfl
      | true => exact absurd k4 (stdE_kind hs).1
    have e4 : (e.kind == 4) = true := by simp [k4]
    clear hk HX k4
    go_enter Tryd.func43, Tryd.ntmps43
    go_wp2_with fail
    go_ret
    rw [HE.out]
    exact ⟨rfl, hbA⟩
  have e4 : (e.kind == 4) = false := by simpa using k4
  by_cases k5 : e.kind = 5
  · have HE : Hid (X = false) := by
      show _ = _
      rw [← HX.out]
      cases hs : stdE e with
      | false => rfl
      | true => exact absurd k5 (stdE_kind hs).2.1
    have e5 : (e.kind == 5) = true := by simp [k5]
    clear hk HX k4 k5
    go_enter Tryd.func43, Tryd.ntmps43
    go_wp2_with fail
    go_ret
    rw [HE.out]
    exact ⟨rfl, hbA⟩
  have e5 : (e.kind == 5) = false := by simpa using k5
  by_cases k10 : e.kind = 10
  · have HE : Hid (X = false) := by
      show _ = _
      rw [← HX.out]
      cases hs : stdE e with
      | false => rfl
      | true => exact absurd k10 (stdE_kind hs).2.2
    have e10 : (e.kind == 10) = true := by simp [k10]
    clear hk HX k4 k5 k10
    go_enter Tryd.func43, Tryd.ntmps43
    go_wp2_with fail
    go_ret
    rw [HE.out]
    exact ⟨rfl, hbA⟩
  have e10 : (e.kind == 10) = false := by simpa using k10
  have HS : Hid ((e.kids.drop 0).all stdE = X) := by
    show _ = _
    rw [← HX.out, stdE_eq, List.drop_zero]
    simp [k4, k5, k10]
  clear HX k4 k5 k10
  go_enter Tryd.func43, Tryd.ntmps43
  go_wp2_with fail
  go_loopw [4, 14] (fun _ t wr => ∃ j : Nat, t = .int .i64 (j : Int) ∧ j ≤ e.kids.length ∧ (e.kids.drop j).all stdE = X ∧ Below w.heap.size w wr) (fun _ t _ => e.kids.length - (intOf t).toNat)
  case atStart => exact ⟨0, rfl, by omega, HS.out, hbA⟩
  case round =>
    obtain ⟨j, rfl, hj, hXr, hb⟩ := hrel
    clear HS z0 z4 hxA hbA hwA e4 e5 e10
    have hj0 : (0 : Int) ≤ (j : Int) := by omega
    by_cases hlt : j < e.kids.length
    · have hlt' : (j : Int) < (e.kids.length : Int) := by omega
      obtain ⟨k, hjk⟩ : ∃ k, e.kids[j]? = some k := ⟨e.kids[j], List.getElem?_eq_getElem hlt⟩
      rw [all_step hjk] at hXr
      have hks : e.kids ≠ [] := fun h => by rw [h] at hlt; simp at hlt
      obtain ⟨g, o, c', hsl, _, hkid⟩ := hk.resolve_left hks
      obtain ⟨pk, ck, d0, d1, d2, d3, d4, ihk⟩ := hkid j k hjk
      have f0 := (hb.cell (block_lt_of_cell d0)).trans d0
      have f1 := (hb.cell (block_lt_of_cell d1)).trans d1
      have f2 := (hb.cell (block_lt_of_cell d2)).trans d2
      have f3 := (hb.cell (block_lt_of_cell d3)).trans d3
      have f4 := (hb.cell (block_lt_of_cell d4)).trans d4
      have hbB := (Below.refl wr.heap.size wr).alloc (Nat.le_refl _) (.cells #[.int .i64 k.kind, .int .i64 k.a, .int .i64 k.b, .string ⟨k.name.toArray⟩, .slice pk k.kids.length ck] 50)
      have hxB := heap_alloc_new wr (.cells #[.int .i64 k.kind, .int .i64 k.a, .int .i64 k.b, .string ⟨k.name.toArray⟩, .slice pk k.kids.length ck] 50)
      have hb2 := hb.trans (hbB.mono hb.size)
      have cR := ihk _ hb2
      injection hsl with e1 e2 e3
      subst e1
      subst e3
      clear d0 d1 d2 d3 d4 ihk hkid hks hjk hbB
      have HXr : Hid ((stdE k && (e.kids.drop (j + 1)).all stdE) = X) := hXr
      unfold OutS7 at cR
      clear hXr
      generalize stdE k = y at *
      generalize hwB : wr.alloc (.cells #[.int .i64 k.kind, .int .i64 k.a, .int .i64 k.b, .string ⟨k.name.toArray⟩, .slice pk k.kids.length ck] 50) = wB at *
      go_wp2_with (refine wpList_load_row rfl 50 _ rfl _ rfl _ _ _ _ hxB exprType rfl (by kernel_rfl) ?_)
      refine cR.mono ?_
      rintro r w3 ⟨rfl, b3⟩
      have hb3 := hb2.trans (b3.mono hb2.size)
      clear cR hxB hwB f0 f1 f2 f3 f4 b3 hb2
      cases y with
      | false =>
        have HE : Hid (X = false) := by show _ = _; rw [← HXr.out]; rfl
        clear HXr
        go_wp2_with fail
        go_ret
        rw [HE.out]
        exact ⟨rfl, hb3⟩
      | true =>
        go_wp2_with fail
        go_roundw
        case rel => exact ⟨j + 1, by go_num, by omega, by rw [← HXr.out]; rfl, hb3⟩
        case measure => simp [intOf]; omega
    · have hlt' : ¬ (j : Int) < (e.kids.length : Int) := by omega
      have HE : Hid (X = true) := by show _ = _; rw [← hXr, List.drop_eq_nil_of_le (by omega)]; rfl
      clear hXr
      go_wp2_with fail
      go_ret
      rw [HE.out]
      exact ⟨rfl, hb⟩
theorem steady_any : ∀ (d : Nat) (e : Ex) (sl : Value) (w : World), KidsB B d w sl e.kids → Calls Tryd.prog 43 #[exV e sl] w (OutS7 e w) := by
  intro d
  induction d with
  | zero =>
    intro e sl w hk
    obtain ⟨p, c, rfl⟩ := hk.form
    exact steady_step e p c w (.inl hk.1) (by rw [hk.1]; decide)
  | succ d ih =>
    intro e sl w hk
    obtain ⟨p, c, hsl⟩ := hk.form
    subst hsl
    rcases hk with ⟨h, _⟩ | ⟨g, o, c', hg, hs, hl, hkid⟩
    · exact steady_step e p c w (.inl h) (by rw [h]; decide)
    · refine steady_step e p c w (.inr ⟨g, o, c', hs, hl, fun j k hj => ?_⟩) hl
      obtain ⟨hn', sk, c0, c1, c2, c3, c4, r⟩ := hkid j k hj
      obtain ⟨p', q', rfl⟩ := r.form
      exact ⟨p', q', c0, c1, c2, c3, c4, fun W hb => ih k _ W (r.kept fun g' _ hl' => hb.block g' hl')⟩
end Go.Proofs.YtpmobjgnmidolaaDoor

/- Which day of the week a day is; whether a day is one of those of a guard. -/
namespace Go.Proofs.YtpmobjgnmidolaaDoor
open Go.RowKit Lx
set_option maxHeartbeats 400000 in
theorem isDay6 (n : Int) (w : World) (a : 0 ≤ n) (b : n < 146097) : Calls Tryd.prog 122 #[.int .i64 n] w fun e w' => e = .returned (.bool true) ∧ w' = w := by
  go_enter Tryd.func122, Tryd.ntmps122
  go_wp2
  go_ret
  exact ⟨rfl, rfl⟩
/-- Its day of the week. -/
def wkd (n : Int) : Int := (n + 5).tmod 7
theorem wkd_eq (n : Int) (a : 0 ≤ n) : wkd n = (n + 5) % 7 := by
  unfold wkd
  rw [Int.tmod_eq_emod_of_nonneg (by omega)]
theorem wkd_ref (n : Int) (a : 0 ≤ n) : (n.tmod 7 + 5).tmod 7 = wkd n := by
  unfold wkd
  rw [Int.tmod_eq_emod_of_nonneg a, Int.tmod_eq_emod_of_nonneg (by omega), Int.tmod_eq_emod_of_nonneg (by omega)]
  omega
theorem wkd_bd (n : Int) (a : 0 ≤ n) : 0 ≤ wkd n ∧ wkd n < 7 := by
  rw [wkd_eq n a]
  omega
set_option maxHeartbeats 400000 in
theorem week6 (n : Int) (w : World) (a : 0 ≤ n) (b : n < 146097) : Calls Tryd.prog 105 #[.int .i64 n] w fun e w' => e = .returned (.int .i64 (wkd n)) ∧ w' = w := by
  have c1 := isDay6 n w a b
  have hb := wkd_bd n a
  have hw : (n + 5).tmod 7 = wkd n := rfl
  go_enter Tryd.func105, Tryd.ntmps105
  go_wp2_with fail
  refine c1.mono ?_
  rintro e w' ⟨rfl, rfl⟩
  clear c1
  go_wp2_with fail
  go_ret
  exact ⟨rfl, rfl⟩
set_option maxHeartbeats 400000 in
theorem rweek6 (n : Int) (w : World) (a : 0 ≤ n) (b : n < 146097) : Calls Tryd.prog 99 #[.int .i64 n] w fun e w' => e = .returned (.int .i64 (wkd n)) ∧ w' = w := by
  have hb := wkd_bd n a
  have hw := wkd_ref n a
  have h7 : 0 ≤ n.tmod 7 ∧ n.tmod 7 < 7 := by
    rw [Int.tmod_eq_emod_of_nonneg a]
    omega
  obtain ⟨h8, h9⟩ := h7
  have e : (n % 7 + 5) % 7 = wkd n := by
    rw [wkd_eq n a]
    omega
  have HE := hid5 e
  clear e hw
  go_enter Tryd.func99, Tryd.ntmps99
  go_wp2_with fail
  go_ret
  exact ⟨congrArg (fun x => Ending.returned (.int .i64 x)) HE.out, rfl⟩
/-- The day's struct: its number, the rules, their numbers, what is known, what is meant. -/
structure DaySt (w : World) (g : Nat) (n : Int) (lv : Value) (mb : Nat) (kv mv' : Value) : Prop where
  blk : w.heap[g]? = some (.cells #[.int .i64 n, lv, .map (some mb), kv, mv'] 71 (0, 0))
/-- Is the day's bit set? -/
def wkB (n a : Int) : Bool := bits BinOp.and IntKind.i64 (a / 2 ^ (wkd n).toNat) 1 == 1
set_option maxHeartbeats 400000 in
theorem isOf4 (g : Nat) (n : Int) (lv : Value) (mb : Nat) (kv mv' : Value) (e : Ex) (pe : Option Addr) (ce : Nat) (w : World) (h : DaySt w g n lv mb kv mv') (a : 0 ≤ n) (b : n < 146097) (hk : e.kind = 4) :
    Calls Tryd.prog 77 #[.pointer (some ⟨g, 0, none⟩), .agg #[.int .i64 e.kind, .int .i64 e.a, .int .i64 e.b, .string ⟨e.name.toArray⟩, .slice pe e.kids.length ce]] w fun r w' => r = .returned (.bool (wkB n e.a)) ∧ Below w.heap.size w w' := by
  have k0 := (cell_of_row _ _ 0 _ _ _ h.blk).trans rfl
  have bA := (Below.refl w.heap.size w).alloc (Nat.le_refl _) (.cells #[.int .i64 e.kind, .int .i64 e.a, .int .i64 e.b, .string ⟨e.name.toArray⟩, .slice pe e.kids.length ce] 50)
  have k0' := (bA.cell (block_lt_of_cell k0)).trans k0
  have hb := wkd_bd n a
  have cw := fun W => week6 n W a b
  rw [hk] at bA k0' ⊢
  go_enter Tryd.func77, Tryd.ntmps77
  go_wp2_with fail
  go_quiet ((go_at_call 105; exact Calls.quiet_of_same (cw _)))
  go_wp2_with fail
  go_ret
  exact ⟨rfl, below_drewN bA nq⟩
set_option maxHeartbeats 400000 in
theorem isOf5 (g : Nat) (n : Int) (lv : Value) (mb : Nat) (kv mv' : Value) (e : Ex) (pe : Option Addr) (ce : Nat) (w : World) (h : DaySt w g n lv mb kv mv') (hk : e.kind = 5) :
    Calls Tryd.prog 77 #[.pointer (some ⟨g, 0, none⟩), .agg #[.int .i64 e.kind, .int .i64 e.a, .int .i64 e.b, .string ⟨e.name.toArray⟩, .slice pe e.kids.length ce]] w fun r w' => r = .returned (.bool (decide (e.a ≤ n) && decide (n ≤ e.b))) ∧ Below w.heap.size w w' := by
  have k0 := (cell_of_row _ _ 0 _ _ _ h.blk).trans rfl
  have bA := (Below.refl w.heap.size w).alloc (Nat.le_refl _) (.cells #[.int .i64 e.kind, .int .i64 e.a, .int .i64 e.b, .string ⟨e.name.toArray⟩, .slice pe e.kids.length ce] 50)
  have k0' := (bA.cell (block_lt_of_cell k0)).trans k0
  rw [hk] at bA k0' ⊢
  by_cases h1 : e.a ≤ n
  · by_cases h2 : n ≤ e.b
    · rw [decide_eq_true h1, decide_eq_true h2]
      go_enter Tryd.func77, Tryd.ntmps77
      go_wp2_with fail
      go_quiet (fail)
      go_wp2_with fail
      go_ret
      exact ⟨rfl, below_drewN bA nq⟩
    · rw [decide_eq_true h1, decide_eq_false h2]
      have hd2 : decide (n ≤ e.b) = false := decide_eq_false h2
      go_enter Tryd.func77, Tryd.ntmps77
      go_wp2_with fail
      go_quiet (fail)
      go_wp2_with fail
      go_ret
      first
        | exact ⟨rfl, below_drewN bA nq⟩
        | exact ⟨congrArg (fun x => Ending.returned (.bool x)) hd2, below_drewN bA nq⟩
  · rw [decide_eq_false h1]
    have hd1 : decide (e.a ≤ n) = false := decide_eq_false h1
    go_enter Tryd.func77, Tryd.ntmps77
    go_wp2_with fail
    go_quiet (fail)
    go_wp2_with fail
    go_ret
    exact ⟨rfl, below_drewN bA nq⟩
end Go.Proofs.YtpmobjgnmidolaaDoor

/- The day's struct in memory: what is known of rules, and what they mean. -/
namespace Go.Proofs.YtpmobjgnmidolaaDoor
open Go.RowKit Lx

theorem heap_setCells_other (b : Nat) : ∀ (vs : List Value) (o : Nat) (w : World) (q : Nat), q ≠ b → (w.setCells b o vs).heap[q]? = w.heap[q]?
  | [], _, _, _, _ => rfl
  | v :: vs, o, w, q, h => by
    rw [World.setCells, heap_setCells_other b vs (o + 1) _ q h]
    exact heap_setCell_other w ⟨b, o, none⟩ q v h
theorem below_setCellsM {w : World} (b : Nat) (hb : w.heap.size ≤ b) : ∀ (vs : List Value) (o : Nat) (W : World), Below w.heap.size w W → Below w.heap.size w (W.setCells b o vs)
  | [], _, _, h => h
  | v :: vs, o, W, h => by
    rw [World.setCells]
    exact below_setCellsM b hb vs (o + 1) _ (h.setCell hb v)
theorem range_later {W W' : World} {b o : Nat} {cs : List Value} (h : W.rangeAt b o cs) (hb : Below W.heap.size W W') : W'.rangeAt b o cs := fun j v hv => (hb.cell (block_lt_of_cell (h j v hv))).trans (h j v hv)
/-- The day's struct, the marks and the masks. -/
structure MSt (w : World) (n g gk gm mb : Nat) (day : Int) (lv : Value) (l : List Ru) (K : Nat → Bool) (M : Nat → Nat → Bool) (W : World) : Prop where
  bel : Below w.heap.size w W
  blk : W.heap[g]? = some (.cells #[.int .i64 day, lv, .map (some mb), .slice (some ⟨gk, 0, none⟩) n n, .slice (some ⟨gm, 0, none⟩) n n] 71 (0, 0))
  known : W.heap[gk]? = some (.cells (bcells n K) 4 (0, 0))
  meant : ∀ i, i < n → W.rangeAt gm (i * 23) (mv (M i)).toList
  held : ∃ cs, W.heap[gm]? = some (.cells cs 37 (0, 0))
  nums : MapN W mb l
  lo : w.heap.size ≤ g ∧ w.heap.size ≤ gk ∧ w.heap.size ≤ gm
  ne : g ≠ gk ∧ g ≠ gm ∧ gk ≠ gm ∧ mb ≠ gk ∧ mb ≠ gm
variable {w W W' : World} {n g gk gm mb : Nat} {day : Int} {lv : Value} {l : List Ru} {K : Nat → Bool} {M : Nat → Nat → Bool}
theorem MSt.later (h : MSt w n g gk gm mb day lv l K M W) (hb : Below W.heap.size W W') : MSt w n g gk gm mb day lv l K M W' :=
  ⟨h.bel.trans (hb.mono h.bel.size), (hb.block _ (lt_of_block h.blk)).trans h.blk, (hb.block _ (lt_of_block h.known)).trans h.known, fun i hi => range_later (h.meant i hi) hb, by
    obtain ⟨cs, hc⟩ := h.held
    exact ⟨cs, (hb.block _ (lt_of_block hc)).trans hc⟩, h.nums.later (hb.block _ (lt_of_map h.nums)), h.lo, h.ne⟩
/-- A rule is known now. -/
theorem MSt.mark (h : MSt w n g gk gm mb day lv l K M W) (i : Nat) : MSt w n g gk gm mb day lv l (upd K i) M (W.setCell ⟨gk, i, none⟩ (.bool true)) := by
  obtain ⟨n1, n2, n3, n4, n5⟩ := h.ne
  have ho : ∀ q, q ≠ gk → (W.setCell ⟨gk, i, none⟩ (.bool true)).heap[q]? = W.heap[q]? := fun q hq => heap_setCell_other W ⟨gk, i, none⟩ q _ hq
  refine ⟨h.bel.setCell h.lo.2.1 _, (ho _ n1).trans h.blk, ?_, fun j hj => ?_, ?_, h.nums.later (ho _ n4), h.lo, h.ne⟩
  · rw [← bcells_set]
    exact heap_setCell_same W gk i _ _ _ h.known
  · intro k v hv
    rw [← h.meant j hj k v hv]
    exact World.cell?_setCell_other _ _ _ _ (fun e => n3 (congrArg Addr.block e))
  · obtain ⟨cs, hc⟩ := h.held
    exact ⟨cs, (ho _ (fun e => n3 e.symm)).trans hc⟩
/-- What a rule means is laid down. -/
theorem heap_setCells_cells (b : Nat) {t : TypeId} : ∀ (vs : List Value) (o : Nat) (W : World), (∃ cs, W.heap[b]? = some (.cells cs t (0, 0))) → ∃ cs, (W.setCells b o vs).heap[b]? = some (.cells cs t (0, 0))
  | [], _, _, h => h
  | v :: vs, o, W, h => by
    rw [World.setCells]
    obtain ⟨cs, hc⟩ := h
    exact heap_setCells_cells b vs (o + 1) _ ⟨_, heap_setCell_same W b o cs t v hc⟩
def updM (M : Nat → Nat → Bool) (i : Nat) (f : Nat → Bool) : Nat → Nat → Bool := fun j => if j = i then f else M j
theorem MSt.there (h : MSt w n g gk gm mb day lv l K M W) {i : Nat} (hi : i < n) : W.there gm (i * 23) 23 := fun j hj => by
  obtain ⟨cs, hc⟩ := h.held
  refine ⟨(h.meant i hi).isSome j (by rw [Array.length_toList, mv_size]; exact hj), frozen_of_row _ _ _ _ _ hc⟩
theorem MSt.put (h : MSt w n g gk gm mb day lv l K M W) {i : Nat} (hi : i < n) (f : Nat → Bool) : MSt w n g gk gm mb day lv l K (updM M i f) (W.setCells gm (i * 23) (mv f).toList) := by
  obtain ⟨n1, n2, n3, n4, n5⟩ := h.ne
  have ho : ∀ q, q ≠ gm → (W.setCells gm (i * 23) (mv f).toList).heap[q]? = W.heap[q]? := fun q hq => heap_setCells_other gm _ _ W q hq
  refine ⟨below_setCellsM gm h.lo.2.2 _ _ _ h.bel, (ho _ n2).trans h.blk, (ho _ n3).trans h.known, fun j hj => ?_, heap_setCells_cells gm _ _ W h.held, h.nums.later (ho _ n5), h.lo, h.ne⟩
  by_cases e : j = i
  · subst e
    rw [updM, if_pos rfl]
    exact World.rangeAt_setCells_same W gm _ _ (by rw [Array.length_toList, mv_size]; exact h.there hj)
  · rw [updM, if_neg e]
    refine World.rangeAt_setCells_apart (h.meant j hj) gm _ _ (.inr ?_)
    rw [Array.length_toList, Array.length_toList, mv_size, mv_size]
    omega
end Go.Proofs.YtpmobjgnmidolaaDoor

/- What a rule means, as the program finds it out: a rule that is known. -/
namespace Go.Proofs.YtpmobjgnmidolaaDoor
open Go.RowKit Lx
variable {w W W' : World} {n g gk gm mb : Nat} {day : Int} {lv : Value} {l : List Ru} {K : Nat → Bool} {M : Nat → Nat → Bool}
theorem maskT6 : Tryd.prog.underlying 37 = some (.array 23 35) := by kernel_rfl
theorem maskLen (f : Nat → Bool) : (Tryd.prog.info? 37).map (fun i => i.size) = some (mv f).toList.length := by
  rw [Array.length_toList]
  exact maskSize f
theorem wpList_load_mask {W : World} {ops : Array Oper} {rest : List Oper} {op : Oper} {a : Act} {Q : Exit → Act → World → Prop} (hgd : op.guard = none) (x : Operand) (ho : op.op = .load 37 x) (b o : Nat) (hx : a.eval x = .pointer (some ⟨b, o, none⟩)) (f : Nat → Bool) (hc : W.rangeAt b o (mv f).toList)
    (h : wpList Tryd.prog ops Q rest (a.put op.dst (.agg (mv f))) W) : wpList Tryd.prog ops Q (op :: rest) a W :=
  wpList_load_mid hgd 37 x ho b o hx (mv f).toList _ hc maskT6 rfl (maskLen f) (by rw [Array.toArray_toList]; exact h)
theorem wp_load_mask {op : Oper} {a : Act} {W : World} {K : Act → World → Prop} {Q : Exit → Act → World → Prop} (x : Operand) (ho : op.op = .load 37 x) (b o : Nat) (hx : a.eval x = .pointer (some ⟨b, o, none⟩)) (f : Nat → Bool) (hc : W.rangeAt b o (mv f).toList)
    (h : K (a.put op.dst (.agg (mv f))) W) : op.wp Tryd.prog a W K Q :=
  wp_load_mid 37 x ho b o hx (mv f).toList _ hc maskT6 rfl (maskLen f) (by rw [Array.toArray_toList]; exact h)
set_option maxRecDepth 100000 in
set_option maxHeartbeats 1000000 in
theorem rule_known (h : MSt w n g gk gm mb day lv l K M W) {i : Nat} (hi : i < n) (hn : n ≤ 40) (hK : K i = true) :
    Calls Tryd.prog 25 #[.pointer (some ⟨g, 0, none⟩), .int .i64 (i : Int)] W fun e w' => e = .returned (.agg (mv (M i))) ∧ Below W.heap.size W w' := by
  have hz := mv_lit
  have bA := (Below.refl W.heap.size W).alloc (Nat.le_refl _) (.cells (mv fun _ => false) 37)
  have nA := heap_alloc_new W (.cells (mv fun _ => false) 37)
  have h' := h.later bA
  generalize hwA : W.alloc (.cells (mv fun _ => false) 37) = WA at *
  have k3 := (cell_of_row _ _ 3 _ _ _ h'.blk).trans rfl
  have k4 := (cell_of_row _ _ 4 _ _ _ h'.blk).trans rfl
  have ki := (cell_of_row _ _ i _ _ _ h'.known).trans (bcells_at hi)
  rw [hK] at ki
  have hi0 : (0 : Int) ≤ (i : Int) := by omega
  have hin : (i : Int) < (n : Int) := by omega
  have hn40 : (n : Int) ≤ 40 := by omega
  have HM := hid5 (h'.meant i hi)
  clear h hK h'
  go_enter Tryd.func25, Tryd.ntmps25
  go_wp2_with (first
    | (refine wpList_load_mask rfl _ rfl gm (i * 23) rfl (M i) HM.out ?_)
    | (refine wpList_store_row rfl 37 _ _ rfl _ _ rfl rfl _ _ nA (maskSize _) (by simp [mv_size]) (mv_all _) ?_))
  refine bodyPost_ret (v := .agg (mv (M i))) ?_ rfl ⟨rfl, ?_⟩
  · exact results_cell_row rfl _ _ W.heap.size _ _ _ _ rfl (setRow_heap _ _ _ _ _ _ nA) maskType rfl (maskSize _)
  · exact below_setRow bA (Nat.le_refl _) _
end Go.Proofs.YtpmobjgnmidolaaDoor

/- The week's bit, as the program and as the document ask for it. -/
namespace Go.Proofs.YtpmobjgnmidolaaDoor
open Go.RowKit Lx

def wkAll : Bool := (List.range 128).all fun a => (List.range 7).all fun k => (bits BinOp.and IntKind.i64 ((a : Int) / 2 ^ k) 1 == 1) == !(bits BinOp.and IntKind.i64 (a : Int) (2 ^ k) == 0)
theorem wkAll_yes : wkAll = true := by decide +kernel
/-- Whichever way the bit is asked for. -/
theorem wkB_ref (n a : Int) (hn : 0 ≤ n) (h0 : 0 ≤ a) (h1 : a < 128) : wkB n a = !(bits BinOp.and IntKind.i64 a (2 ^ (wkd n).toNat) == 0) := by
  obtain ⟨w0, w1⟩ := wkd_bd n hn
  have h := wkAll_yes
  unfold wkAll at h
  rw [List.all_eq_true] at h
  have h2 := h a.toNat (List.mem_range.2 (by omega))
  rw [List.all_eq_true] at h2
  have h3 := h2 (wkd n).toNat (List.mem_range.2 (by omega))
  rw [show ((a.toNat : Nat) : Int) = a by omega] at h3
  unfold wkB
  simpa using h3
end Go.Proofs.YtpmobjgnmidolaaDoor

/- What is kept while rules' meanings are found out. -/
namespace Go.Proofs.YtpmobjgnmidolaaDoor
open Go.RowKit Lx
variable {w W W' : World} {n g gk gm mb : Nat} {day : Int} {lv : Value} {l : List Ru} {K : Nat → Bool} {M : Nat → Nat → Bool}
theorem MSt.keep (h : MSt w n g gk gm mb day lv l K M W) (hb : Below w.heap.size w W') (hk : ∀ q, q = g ∨ q = gk ∨ q = gm ∨ q = mb → W'.heap[q]? = W.heap[q]?) : MSt w n g gk gm mb day lv l K M W' := by
  refine ⟨hb, (hk _ (by simp)).trans h.blk, (hk _ (by simp)).trans h.known, fun i hi j v hv => ?_, ?_, h.nums.later (hk _ (by simp)), h.lo, h.ne⟩
  · exact (World.cell?_of_block (hk _ (by simp))).trans (h.meant i hi j v hv)
  · obtain ⟨cs, hc⟩ := h.held
    exact ⟨cs, (hk _ (by simp)).trans hc⟩
/-- A day, its struct in memory, and what rules mean on it. -/
structure MD where
  w : World
  n : Nat
  g : Nat
  gk : Nat
  gm : Nat
  mb : Nat
  day : Int
  lv : Value
  l : List Ru
  V : Nat → Nat → Bool
def MD.st (D : MD) (K : Nat → Bool) (M : Nat → Nat → Bool) (W : World) : Prop := MSt D.w D.n D.g D.gk D.gm D.mb D.day D.lv D.l K M W
/-- What is known is right. -/
def MI (D : MD) (K : Nat → Bool) (W : World) : Prop := ∃ M, D.st K M W ∧ ∀ i, i < D.n → K i = true → M i = D.V i
/-- All but marks and masks is as it was. -/
def Kp (D : MD) (W W' : World) : Prop := W.heap.size ≤ W'.heap.size ∧ ∀ q, q < W.heap.size → q ≠ D.gk → q ≠ D.gm → W'.heap[q]? = W.heap[q]?
/-- What a call leaves. -/
def MQ (D : MD) (P : (Nat → Bool) → Prop) (W W' : World) : Prop := (∃ K, MI D K W' ∧ P K) ∧ Kp D W W'
def Les (K K' : Nat → Bool) : Prop := ∀ i, K i = true → K' i = true
variable {D : MD} {P : (Nat → Bool) → Prop} {W0 : World} {K0 K1 : Nat → Bool}
theorem Les.refl (K : Nat → Bool) : Les K K := fun _ h => h
theorem Kp.refl (D : MD) (W : World) : Kp D W W := ⟨Nat.le_refl _, fun _ _ _ _ => rfl⟩
theorem Kp.trans (h : Kp D W0 W) (h' : Kp D W W') : Kp D W0 W' := ⟨Nat.le_trans h.1 h'.1, fun q a b c => (h'.2 q (Nat.lt_of_lt_of_le a h.1) b c).trans (h.2 q a b c)⟩
theorem Kp.below (h : Below W.heap.size W W') : Kp D W W' := ⟨h.size, fun q a _ _ => h.block q a⟩
theorem MI.later (h : MI D K W) (hb : Below W.heap.size W W') : MI D K W' := by
  obtain ⟨M, h1, h2⟩ := h
  exact ⟨M, MSt.later h1 hb, h2⟩
theorem MI.bel (h : MI D K W) : Below D.w.heap.size D.w W := by
  obtain ⟨M, h1, h2⟩ := h
  exact MSt.bel h1
theorem MI.blk (h : MI D K W) : W.heap[D.g]? = some (.cells #[.int .i64 D.day, D.lv, .map (some D.mb), .slice (some ⟨D.gk, 0, none⟩) D.n D.n, .slice (some ⟨D.gm, 0, none⟩) D.n D.n] 71 (0, 0)) := by
  obtain ⟨M, h1, h2⟩ := h
  exact MSt.blk h1
theorem MI.nums (h : MI D K W) : MapN W D.mb D.l := by
  obtain ⟨M, h1, h2⟩ := h
  exact MSt.nums h1
theorem MI.lts (h : MI D K W) : ∀ q, q = D.g ∨ q = D.gk ∨ q = D.gm ∨ q = D.mb → q < W.heap.size := by
  obtain ⟨M, h1, h2⟩ := h
  rintro q (rfl | rfl | rfl | rfl)
  · exact lt_of_block (MSt.blk h1)
  · exact lt_of_block (MSt.known h1)
  · obtain ⟨cs, hc⟩ := MSt.held h1
    exact lt_of_block hc
  · exact lt_of_map (MSt.nums h1)
theorem MQ.bel (h : MQ D P W W') : Below D.w.heap.size D.w W' := by
  obtain ⟨⟨K, h1, _⟩, _⟩ := h
  exact h1.bel
theorem MQ.blk (h : MQ D P W W') : W'.heap[D.g]? = some (.cells #[.int .i64 D.day, D.lv, .map (some D.mb), .slice (some ⟨D.gk, 0, none⟩) D.n D.n, .slice (some ⟨D.gm, 0, none⟩) D.n D.n] 71 (0, 0)) := by
  obtain ⟨⟨K, h1, _⟩, _⟩ := h
  exact h1.blk
theorem MQ.nums (h : MQ D P W W') : MapN W' D.mb D.l := by
  obtain ⟨⟨K, h1, _⟩, _⟩ := h
  exact h1.nums
theorem MQ.start (h : MI D K W) (hb : Below W.heap.size W W') : MQ D (Les K) W W' := ⟨⟨K, h.later hb, Les.refl K⟩, Kp.below hb⟩
theorem MQ.up (h : MQ D (Les K0) W0 W) (hc : ∀ K, MI D K W → MQ D (Les K) W W') : MQ D (Les K0) W0 W' := by
  obtain ⟨⟨K1, h1, h2⟩, h3⟩ := h
  obtain ⟨⟨K2, h4, h5⟩, h6⟩ := hc K1 h1
  exact ⟨⟨K2, h4, fun i hi => h5 i (h2 i hi)⟩, h3.trans h6⟩
theorem MQ.on (h2 : Les K0 K1) (h3 : Kp D W0 W) (h : MQ D (Les K1) W W') : MQ D (Les K0) W0 W' := by
  obtain ⟨⟨K2, h4, h5⟩, h6⟩ := h
  exact ⟨⟨K2, h4, fun i hi => h5 i (h2 i hi)⟩, h3.trans h6⟩
theorem MQ.onP (h2 : Les K0 K1) (h3 : Kp D W0 W) (h : MQ D (fun K' => Les K1 K' ∧ P K') W W') : MQ D (Les K0) W0 W' := by
  obtain ⟨⟨K2, h4, h5, _⟩, h6⟩ := h
  exact ⟨⟨K2, h4, fun i hi => h5 i (h2 i hi)⟩, h3.trans h6⟩
theorem MQ.upP (h : MQ D (Les K0) W0 W) (hc : ∀ K, MI D K W → MQ D (fun K' => Les K K' ∧ P K') W W') : MQ D (Les K0) W0 W' := h.up fun K hK => by
  obtain ⟨⟨K2, h4, h5⟩, h6⟩ := hc K hK
  exact ⟨⟨K2, h4, h5.1⟩, h6⟩
theorem MQ.low (h : MQ D (Les K0) W0 W) (hb : Below W.heap.size W W') : MQ D (Les K0) W0 W' := h.up fun _ h' => MQ.start h' hb
theorem MQ.drew (h : MQ D (Les K0) W0 W) : MQ D (Les K0) W0 W.drew := h.low (Below.refl _ _).drew
/-- The result lies down in a block of its own. -/
theorem MQ.ret {W1 : World} (h0 : MI D K W) (hb : Below W.heap.size W W1) {r : Nat} (hr : W.heap.size ≤ r) (h : MQ D P W1 W') (cs : Array Value) : MQ D P W (W'.setRow r cs) := by
  obtain ⟨⟨K2, ⟨M, h1, h2⟩, h3⟩, h4⟩ := h
  have hlt := h0.lts
  have hs := h0.bel.size
  refine ⟨⟨K2, ⟨M, MSt.keep h1 (below_setRow (MSt.bel h1) (by omega) _) fun q hq => setRow_other _ _ _ _ (by have := hlt q hq; omega), h2⟩, h3⟩, ?_, fun q a b c => ?_⟩
  · have := hb.size
    have := h4.1
    simp only [World.setRow, Array.size_modify]
    omega
  · rw [setRow_other _ _ _ _ (by omega), h4.2 q (by have := hb.size; omega) b c]
    exact hb.block q a
/-- A block of one's own, met again. -/
theorem MQ.own {W1 : World} (h0 : MI D K W) (h : MQ D P W1 W') {r : Nat} (hr : W.heap.size ≤ r) {o : Obj} (ho : W1.heap[r]? = some o) : W'.heap[r]? = some o := by
  have h1 := h0.lts D.gk (by simp)
  have h2 := h0.lts D.gm (by simp)
  exact (h.2.2 r (lt_of_block ho) (by omega) (by omega)).trans ho
theorem MQ.mask (h : MQ D (Les K0) W0 W) {i : Nat} (hi : i < D.n) : ∃ K M, D.st K M W ∧ (∀ j, j < D.n → K j = true → M j = D.V j) ∧ Les K0 K ∧ W.there D.gm (i * 23) 23 := by
  obtain ⟨⟨K, ⟨M, h1, h2⟩, h3⟩, _⟩ := h
  exact ⟨K, M, h1, h2, h3, MSt.there h1 hi⟩
end Go.Proofs.YtpmobjgnmidolaaDoor
