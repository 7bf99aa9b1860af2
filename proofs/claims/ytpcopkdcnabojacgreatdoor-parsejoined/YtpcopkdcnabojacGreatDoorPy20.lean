/- The text of an expression: plain. -/
import Derived.Test.YtpcopkdcnabojacGreatDoorPy19
import Derived.Lib.ItoaNum
import Derived.Lib.Join
namespace Lx
open Go

/-- Two digits. -/
def pad2 (n : Nat) : List UInt8 := [UInt8.ofNat (48 + n / 10), UInt8.ofNat (48 + n % 10)]
def clockL (n : Int) : List UInt8 := pad2 (n.toNat / 60) ++ 58 :: pad2 (n.toNat % 60)
/-- Is it the date of a day? -/
def IsYmd (n : Int) (t : Int × Int × Int) : Bool := decide (1 ≤ t.2.2 ∧ t.2.2 ≤ Go.Proofs.YtpcopkdcnabojacGreatDoor.Cal.dim t.1 t.2.1 ∧ Go.Proofs.YtpcopkdcnabojacGreatDoor.Cal.num t.1 t.2.1 t.2.2 = n)
/-- A day's date, if it lies in that year and month. -/
def ymdAt (n : Int) (p : Nat × Nat) : Int × Int × Int := (2000 + (p.1 : Int), 1 + (p.2 : Int), n - Go.Proofs.YtpcopkdcnabojacGreatDoor.Cal.ys (2000 + (p.1 : Int)) - Go.Proofs.YtpcopkdcnabojacGreatDoor.Cal.cum (2000 + (p.1 : Int)) (1 + (p.2 : Int)) + 1)
/-- All years and months. -/
def ymdL : List (Nat × Nat) := (List.range 400).flatMap fun i => (List.range 12).map fun j => (i, j)
/-- The date of a day. -/
def ymd (n : Int) : Int × Int × Int := match ymdL.find? (fun p => IsYmd n (ymdAt n p)) with
  | some p => ymdAt n p
  | none => (0, 0, 0)
theorem ymd_eq {n y m d : Int} (h1 : 1 ≤ d) (h2 : d ≤ Go.Proofs.YtpcopkdcnabojacGreatDoor.Cal.dim y m) (h3 : Go.Proofs.YtpcopkdcnabojacGreatDoor.Cal.num y m d = n) : ymd n = (y, m, d) := by
  obtain ⟨b1, b2, b3, b4⟩ := Go.Proofs.YtpcopkdcnabojacGreatDoor.Cal.dim_pos y m (by omega)
  obtain ⟨i, hi⟩ : ∃ i : Nat, y = 2000 + (i : Int) := ⟨(y - 2000).toNat, by omega⟩
  obtain ⟨j, hj⟩ : ∃ j : Nat, m = 1 + (j : Int) := ⟨(m - 1).toNat, by omega⟩
  have hat : ymdAt n (i, j) = (y, m, d) := by
    unfold ymdAt
    dsimp only
    rw [← hi, ← hj, ← h3]
    unfold Go.Proofs.YtpcopkdcnabojacGreatDoor.Cal.num
    congr 2
    omega
  have hm : (i, j) ∈ ymdL := List.mem_flatMap.2 ⟨i, List.mem_range.2 (by omega), List.mem_map.2 ⟨j, List.mem_range.2 (by omega), rfl⟩⟩
  have hok : IsYmd n (ymdAt n (i, j)) = true := by rw [hat]; exact decide_eq_true ⟨h1, h2, h3⟩
  unfold ymd
  cases hf : ymdL.find? (fun p => IsYmd n (ymdAt n p)) with
  | none => exact absurd hok (List.find?_eq_none.1 hf (i, j) hm)
  | some p =>
    have hp := List.find?_some hf
    dsimp only at hp ⊢
    generalize ymdAt n p = t at *
    obtain ⟨y', m', d'⟩ := t
    obtain ⟨a1, a2, a3⟩ := of_decide_eq_true hp
    obtain ⟨rfl, rfl, rfl⟩ := Go.Proofs.YtpcopkdcnabojacGreatDoor.Cal.num_inj y' m' d' y m d a1 a2 h1 h2 (a3.trans h3.symm)
    rfl
def dateL (n : Int) : List UInt8 := Lib.decDigits (ymd n).1.toNat ++ 45 :: (pad2 (ymd n).2.1.toNat ++ 45 :: pad2 (ymd n).2.2.toNat)
def datesL (a b : Int) : List UInt8 := if a = b then dateL a else dateL a ++ ([46, 46] ++ dateL b)
/-- Is a day's bit set? -/
def dayOn (a : Int) (i : Nat) : Bool := decide ((a.toNat / 2 ^ i) % 2 = 1)
/-- The names of those days whose bits are set, of the first so many. -/
def daysUp (a : Int) : Nat → List (List UInt8)
  | 0 => []
  | i + 1 => if dayOn a i then daysUp a i ++ [wDays.getD i []] else daysUp a i
def daysL (a : Int) : List UInt8 := Lib.join (daysUp a 7) [44]
/-- How close a kind holds together. -/
def holdP (k : Int) : Nat := if k = 6 ∨ k = 7 then 0 else if k = 8 then 1 else if k = 4 ∨ k = 5 then 2 else 3
/-- The text of an expression, without brackets; t: the texts of its kids. -/
def bareP (e : Ex) (t : Nat → Nat → List UInt8) : List UInt8 :=
  if e.kind = 1 then [110, 101, 118, 101, 114] else if e.kind = 2 then [97, 108, 119, 97, 121, 115]
  else if e.kind = 3 then clockL e.a ++ 45 :: clockL e.b else if e.kind = 10 then e.name
  else if e.kind = 6 then t 0 0 ++ ([32, 43, 32] ++ t 1 1) else if e.kind = 7 then t 0 0 ++ ([32, 45, 32] ++ t 1 1) else if e.kind = 8 then t 0 1 ++ ([32, 38, 32] ++ t 1 2)
  else if e.kind = 9 then t 0 3 ++ ([32, 115, 104, 105, 102, 116, 32] ++ Lib.itoa e.a)
  else if e.kind = 4 then [119, 101, 101, 107, 108, 121, 32] ++ daysL e.a ++ [58, 32] ++ t 0 2
  else if e.kind = 5 then [100, 97, 116, 101, 115, 32] ++ datesL e.a e.b ++ [58, 32] ++ t 0 2 else []
theorem bare_1 {e : Ex} {t : Nat → Nat → List UInt8} (h : e.kind = 1) : bareP e t = [110, 101, 118, 101, 114] := by
  unfold bareP
  rw [h]; rfl
theorem bare_2 {e : Ex} {t : Nat → Nat → List UInt8} (h : e.kind = 2) : bareP e t = [97, 108, 119, 97, 121, 115] := by
  unfold bareP
  rw [h]; rfl
theorem bare_3 {e : Ex} {t : Nat → Nat → List UInt8} (h : e.kind = 3) : bareP e t = clockL e.a ++ 45 :: clockL e.b := by
  unfold bareP
  rw [h]; rfl
theorem bare_10 {e : Ex} {t : Nat → Nat → List UInt8} (h : e.kind = 10) : bareP e t = e.name := by
  unfold bareP
  rw [h]; rfl
theorem bare_6 {e : Ex} {t : Nat → Nat → List UInt8} (h : e.kind = 6) : bareP e t = t 0 0 ++ ([32, 43, 32] ++ t 1 1) := by
  unfold bareP
  rw [h]; rfl
theorem bare_7 {e : Ex} {t : Nat → Nat → List UInt8} (h : e.kind = 7) : bareP e t = t 0 0 ++ ([32, 45, 32] ++ t 1 1) := by
  unfold bareP
  rw [h]; rfl
theorem bare_8 {e : Ex} {t : Nat → Nat → List UInt8} (h : e.kind = 8) : bareP e t = t 0 1 ++ ([32, 38, 32] ++ t 1 2) := by
  unfold bareP
  rw [h]; rfl
theorem bare_9 {e : Ex} {t : Nat → Nat → List UInt8} (h : e.kind = 9) : bareP e t = t 0 3 ++ ([32, 115, 104, 105, 102, 116, 32] ++ Lib.itoa e.a) := by
  unfold bareP
  rw [h]; rfl
theorem bare_4 {e : Ex} {t : Nat → Nat → List UInt8} (h : e.kind = 4) : bareP e t = [119, 101, 101, 107, 108, 121, 32] ++ daysL e.a ++ [58, 32] ++ t 0 2 := by
  unfold bareP
  rw [h]; rfl
theorem bare_5 {e : Ex} {t : Nat → Nat → List UInt8} (h : e.kind = 5) : bareP e t = [100, 97, 116, 101, 115, 32] ++ datesL e.a e.b ++ [58, 32] ++ t 0 2 := by
  unfold bareP
  rw [h]; rfl
def brk (b : Bool) (s : List UInt8) : List UInt8 := if b then [40] ++ s ++ [41] else s
def textE (e : Ex) (least : Nat) : List UInt8 :=
  brk (decide (holdP e.kind < least)) (bareP e fun j l => match e.kids.attach[j]? with | some k => textE k.1 l | none => [])
  termination_by sizeOf e
  decreasing_by exact kid_lt k.2
def kidT (ks : List Ex) (j l : Nat) : List UInt8 := match ks[j]? with | some k => textE k l | none => []
theorem textE_eq (e : Ex) (least : Nat) : textE e least = brk (decide (holdP e.kind < least)) (bareP e (kidT e.kids)) := by
  rw [textE]
  congr 2
  funext j l
  unfold kidT
  have h : ∀ (o : Option {x // x ∈ e.kids}) (p : Option Ex), o.map Subtype.val = p → (match o with | some k => textE k.1 l | none => []) = (match p with | some k => textE k l | none => []) := by
    intro o p h
    subst h
    cases o <;> rfl
  exact h _ _ (by rw [← List.getElem?_map, List.attach_map_subtype_val])
theorem kidT_at {ks : List Ex} {j l : Nat} {k : Ex} (h : ks[j]? = some k) : kidT ks j l = textE k l := by unfold kidT; rw [h]

/-- Nothing is wrong with it. -/
def OKE (e : Ex) : Prop := ∃ deep n, (shapeP e deep n).1 = 0
theorem OKE.alone {e : Ex} (h : OKE e) : aloneP e = 0 := by
  obtain ⟨deep, n, h⟩ := h
  rw [shapeP_eq] at h
  split at h
  · cases h
  · split at h
    · rename_i h2; exact absurd h h2
    · rename_i h2; simpa using h2
theorem shapeL_all {deep : Nat} : ∀ {ks : List Ex} {acc : Int × Nat}, (shapeL ks deep acc).1 = 0 → ∀ k ∈ ks, OKE k
  | [], _, _, k, hk => by cases hk
  | k' :: ks, acc, h, k, hk => by
    rw [shapeL_cons] at h
    by_cases hb : acc.1 ≠ 0
    · rw [if_pos hb, shapeL_bad hb] at h; exact absurd h hb
    rw [if_neg hb] at h
    have hz : (shapeP k' deep acc.2).1 = 0 := by
      by_cases hz : (shapeP k' deep acc.2).1 = 0
      · exact hz
      · rw [shapeL_bad hz] at h; exact h
    rcases List.mem_cons.1 hk with rfl | hk
    · exact ⟨_, _, hz⟩
    · exact shapeL_all h k hk
theorem OKE.kid {e k : Ex} (h : OKE e) (hk : k ∈ e.kids) : OKE k := by
  have ha := h.alone
  obtain ⟨deep, n, h⟩ := h
  rw [shapeP_eq] at h
  split at h
  · cases h
  · rw [if_neg (by simpa using ha)] at h
    exact shapeL_all h k hk
theorem OKE.kinds {e : Ex} (h : OKE e) : 1 ≤ e.kind ∧ e.kind ≤ 10 ∧ e.kids.length = kidsP e.kind ∧ rangeP e.kind e.a e.b = true ∧ (e.kind = 10 → Go.Proofs.YtpcopkdcnabojacGreatDoor.namedL e.name = true) := by
  have ha := h.alone
  unfold aloneP at ha
  split at ha
  · cases ha
  · split at ha
    · cases ha
    · split at ha
      · cases ha
      · split at ha
        · cases ha
        · rename_i h1 h2 h3 h4
          refine ⟨by omega, by omega, by simpa using h2, by simpa using h3, fun hk => ?_⟩
          cases hn : Go.Proofs.YtpcopkdcnabojacGreatDoor.namedL e.name with
          | true => rfl
          | false => exact absurd ⟨hk, hn⟩ h4
/-- The first and the second kid. -/
theorem OKE.kid0 {e : Ex} (h : OKE e) (hk : 1 ≤ kidsP e.kind) : ∃ k, e.kids[0]? = some k ∧ OKE k := by
  have hl := h.kinds.2.2.1
  exact ⟨e.kids[0]'(by omega), List.getElem?_eq_getElem _, h.kid (List.getElem_mem _)⟩
theorem OKE.kid1 {e : Ex} (h : OKE e) (hk : 2 ≤ kidsP e.kind) : ∃ k, e.kids[1]? = some k ∧ OKE k := by
  have hl := h.kinds.2.2.1
  exact ⟨e.kids[1]'(by omega), List.getElem?_eq_getElem _, h.kid (List.getElem_mem _)⟩
end Lx

/- How long the text of an expression is at most: plain. -/
namespace Lx
open Go

theorem pad2_len (n : Nat) : (pad2 n).length = 2 := rfl
theorem clock_len (n : Int) : (clockL n).length = 5 := by simp [clockL, pad2]
theorem dec_len {u : Nat} (h : u < 10000) : (Lib.decDigits u).length ≤ 4 := by
  rw [Lib.decDigits_length]
  by_cases h1 : u < 10
  · rw [Lib.nDigits_small h1]; omega
  rw [Lib.nDigits_big h1]
  by_cases h2 : u / 10 < 10
  · rw [Lib.nDigits_small h2]; omega
  rw [Lib.nDigits_big h2]
  by_cases h3 : u / 10 / 10 < 10
  · rw [Lib.nDigits_small h3]; omega
  rw [Lib.nDigits_big h3, Lib.nDigits_small (by omega)]
  omega
theorem ymd_bd (n : Int) : 0 ≤ (ymd n).1 ∧ (ymd n).1 ≤ 2399 := by
  unfold ymd
  cases hf : ymdL.find? (fun p => IsYmd n (ymdAt n p)) with
  | none => exact ⟨by simp, by simp⟩
  | some p =>
    have hp := List.find?_some hf
    dsimp only at hp ⊢
    obtain ⟨a1, a2, _⟩ := of_decide_eq_true hp
    have := Go.Proofs.YtpcopkdcnabojacGreatDoor.Cal.dim_pos _ _ (Int.le_trans a1 a2)
    omega
theorem date_len (n : Int) : (dateL n).length ≤ 10 := by
  have h := ymd_bd n
  have := dec_len (u := (ymd n).1.toNat) (by omega)
  simp [dateL, pad2]
  omega
theorem dates_len (a b : Int) : (datesL a b).length ≤ 22 := by
  have h1 := date_len a
  have h2 := date_len b
  unfold datesL
  split
  · omega
  · simp; omega
set_option maxRecDepth 100000 in
theorem days_all : ∀ n : Fin 128, (daysL (n.1 : Int)).length ≤ 27 := by decide +kernel
theorem days_len {a : Int} (h0 : 0 ≤ a) (h1 : a < 128) : (daysL a).length ≤ 27 := by
  have := days_all ⟨a.toNat, by omega⟩
  rw [show (((⟨a.toNat, by omega⟩ : Fin 128).1 : Nat) : Int) = a from by simp; omega] at this
  exact this
theorem itoa_len {a : Int} (h0 : -10000 < a) (h1 : a < 10000) : (Lib.itoa a).length ≤ 5 := by
  unfold Lib.itoa
  split
  · have := dec_len (u := a.natAbs) (by omega)
    simp; omega
  · have := dec_len (u := a.toNat) (by omega)
    omega
theorem name_len {l : List UInt8} (h : Go.Proofs.YtpcopkdcnabojacGreatDoor.namedL l = true) : l.length ≤ 20 := by
  unfold Go.Proofs.YtpcopkdcnabojacGreatDoor.namedL at h
  rw [Bool.and_eq_true, Bool.and_eq_true] at h
  exact of_decide_eq_true h.2.1
theorem brk_len (b : Bool) (s : List UInt8) : (brk b s).length ≤ s.length + 2 := by unfold brk; split <;> simp
/-- The texts of the kids and no more than so much beside them. -/
theorem bare_len {e : Ex} (h : OKE e) (t : Nat → Nat → List UInt8) :
    (kidsP e.kind = 0 → (bareP e t).length ≤ 40) ∧ (kidsP e.kind = 1 → ∃ l, (bareP e t).length ≤ 40 + (t 0 l).length) ∧ (kidsP e.kind = 2 → ∃ l l', (bareP e t).length ≤ 40 + (t 0 l).length + (t 1 l').length) := by
  obtain ⟨k1, k2, _, hr, hn⟩ := h.kinds
  have c1 := clock_len e.a
  have c2 := clock_len e.b
  have c3 := dates_len e.a e.b
  have hc : e.kind = 1 ∨ e.kind = 2 ∨ e.kind = 3 ∨ e.kind = 10 ∨ e.kind = 6 ∨ e.kind = 7 ∨ e.kind = 8 ∨ e.kind = 9 ∨ e.kind = 4 ∨ e.kind = 5 := by omega
  rcases hc with hk | hk | hk | hk | hk | hk | hk | hk | hk | hk
  · have kp' : kidsP e.kind = 0 := by rw [hk]; rfl
    rw [bare_1 hk, kp']
    refine ⟨fun _ => ?_, fun h => (by omega), fun h => (by omega)⟩
    simp; try omega
  · have kp' : kidsP e.kind = 0 := by rw [hk]; rfl
    rw [bare_2 hk, kp']
    refine ⟨fun _ => ?_, fun h => (by omega), fun h => (by omega)⟩
    simp; try omega
  · have kp' : kidsP e.kind = 0 := by rw [hk]; rfl
    rw [bare_3 hk, kp']
    refine ⟨fun _ => ?_, fun h => (by omega), fun h => (by omega)⟩
    simp; try omega
  · have := name_len (hn hk)
    have kp' : kidsP e.kind = 0 := by rw [hk]; rfl
    rw [bare_10 hk, kp']
    refine ⟨fun _ => ?_, fun h => (by omega), fun h => (by omega)⟩
    omega
  · have kp' : kidsP e.kind = 2 := by rw [hk]; rfl
    rw [bare_6 hk, kp']
    refine ⟨fun h => (by omega), fun h => (by omega), fun _ => ⟨0, 1, ?_⟩⟩
    simp; omega
  · have kp' : kidsP e.kind = 2 := by rw [hk]; rfl
    rw [bare_7 hk, kp']
    refine ⟨fun h => (by omega), fun h => (by omega), fun _ => ⟨0, 1, ?_⟩⟩
    simp; omega
  · have kp' : kidsP e.kind = 2 := by rw [hk]; rfl
    rw [bare_8 hk, kp']
    refine ⟨fun h => (by omega), fun h => (by omega), fun _ => ⟨1, 2, ?_⟩⟩
    simp; omega
  · simp [rangeP, hk] at hr
    have := itoa_len (a := e.a) (by omega) (by omega)
    have kp' : kidsP e.kind = 1 := by rw [hk]; rfl
    rw [bare_9 hk, kp']
    refine ⟨fun h => (by omega), fun _ => ⟨3, ?_⟩, fun h => (by omega)⟩
    simp; omega
  · simp [rangeP, hk] at hr
    have := days_len (a := e.a) (by omega) (by omega)
    have kp' : kidsP e.kind = 1 := by rw [hk]; rfl
    rw [bare_4 hk, kp']
    refine ⟨fun h => (by omega), fun _ => ⟨2, ?_⟩, fun h => (by omega)⟩
    simp; omega
  · have kp' : kidsP e.kind = 1 := by rw [hk]; rfl
    rw [bare_5 hk, kp']
    refine ⟨fun h => (by omega), fun _ => ⟨2, ?_⟩, fun h => (by omega)⟩
    simp; omega
theorem kidsP_le (k : Int) : kidsP k ≤ 2 := by unfold kidsP; split; omega; split <;> omega
theorem text_le : ∀ (N : Nat) (e : Ex) (deep n : Nat), sizeOf e ≤ N → (shapeP e deep n).1 = 0 → n + 1 ≤ (shapeP e deep n).2 ∧ ∀ least, (textE e least).length + 50 * n ≤ 50 * (shapeP e deep n).2
  | 0, e, _, _, hN, _ => by cases e; simp at hN
  | N + 1, e, deep, n, hN, h => by
    have hok : OKE e := ⟨deep, n, h⟩
    obtain ⟨b0, b1, b2⟩ := bare_len hok (kidT e.kids)
    have hl := hok.kinds.2.2.1
    have hle := kidsP_le e.kind
    have ha := hok.alone
    have hlt : ∀ least, (textE e least).length ≤ (bareP e (kidT e.kids)).length + 2 := fun least => by rw [textE_eq]; exact brk_len _ _
    rw [shapeP_eq] at h ⊢
    split at h
    · cases h
    rename_i hc
    rw [if_neg hc]
    rw [if_neg (by simpa using ha)] at h ⊢
    match hk : e.kids, hl with
    | [], hl =>
      have := b0 (by simp at hl; omega)
      rw [hk] at this
      rw [shapeL_nil]
      refine ⟨by simp, fun least => ?_⟩
      have := hlt least
      rw [hk] at this
      simp; omega
    | [k], hl =>
      obtain ⟨l, hb⟩ := b1 (by simp at hl; omega)
      rw [hk] at h hb
      have hkl := kid_lt (e := e) (k := k) (by simp [hk])
      rw [shapeL_cons, if_neg (by simp), shapeL_nil] at h ⊢
      dsimp only at h ⊢
      obtain ⟨q1, q2⟩ := text_le N k (deep + 1) (n + 1) (by omega) h
      have q3 := q2 l
      have e0 : kidT [k] 0 l = textE k l := rfl
      rw [e0] at hb
      refine ⟨by omega, fun least => ?_⟩
      have := hlt least
      rw [hk] at this
      omega
    | [k, k'], hl =>
      obtain ⟨l, l', hb⟩ := b2 (by simp at hl; omega)
      rw [hk] at h hb
      have hkl := kid_lt (e := e) (k := k) (by simp [hk])
      have hkl' := kid_lt (e := e) (k := k') (by simp [hk])
      rw [shapeL_cons, if_neg (by simp), shapeL_cons, shapeL_nil] at h ⊢
      dsimp only at h ⊢
      have hz : (shapeP k (deep + 1) (n + 1)).1 = 0 := by
        by_cases hz : (shapeP k (deep + 1) (n + 1)).1 = 0
        · exact hz
        · rw [if_pos hz] at h; exact h
      rw [if_neg (by simpa using hz)] at h ⊢
      obtain ⟨q1, q2⟩ := text_le N k (deep + 1) (n + 1) (by omega) hz
      obtain ⟨r1, r2⟩ := text_le N k' (deep + 1) _ (by omega) h
      have q3 := q2 l
      have r3 := r2 l'
      have e0 : kidT [k, k'] 0 l = textE k l := rfl
      have e1 : kidT [k, k'] 1 l' = textE k' l' := rfl
      rw [e0, e1] at hb
      refine ⟨by omega, fun least => ?_⟩
      have := hlt least
      rw [hk] at this
      omega
    | _ :: _ :: _ :: _, hl => simp at hl; omega
/-- The text of what nothing is wrong with is not long. -/
theorem OKE.len {e : Ex} (h : OKE e) (least : Nat) : (textE e least).length ≤ 30000 := by
  obtain ⟨deep, n, h⟩ := h
  have h1 := (text_le _ e deep n (Nat.le_refl _) h).2 least
  have h2 := shapeP_le h
  omega
end Lx

/- What the program's texts of times and dates come to. -/
namespace Go.Proofs.YtpcopkdcnabojacGreatDoor
open Go.RowKit Lx

theorem str_of {s : ByteArray} {l : List UInt8} (h : s.data = l.toArray) : Value.string s = .string ⟨l.toArray⟩ := by
  cases s
  simp at h
  rw [h]
theorem pad_one {n : Nat} (h : n < 10) : pad2 n = [48, UInt8.ofNat (48 + n)] := by
  unfold pad2
  rw [show n / 10 = 0 by omega, show n % 10 = n by omega]; rfl
theorem pad_two {n : Nat} (h1 : ¬ n < 10) (h2 : n < 100) : Lib.decDigits n = pad2 n := Lib.decDigits_two h1 h2
set_option maxRecDepth 100000 in
set_option maxHeartbeats 1000000 in
theorem padded_small (n : Nat) (h : n < 100) (w : World) :
    Calls Tryz.prog 55 #[.int .i64 (n : Int), .int .i64 2] w fun e w' => e = .returned (.string ⟨(pad2 n).toArray⟩) ∧ w' = w := by
  have c := itoa_small n h w
  by_cases h1 : n < 10
  · rw [Lib.decDigits_one h1] at c
    rw [pad_one h1]
    have r := rep_one ⟨#[48]⟩ w
    go_enter Tryz.func55, Tryz.ntmps55
    go_wp2_with fail
    refine c.mono ?_
    rintro e w' ⟨rfl, rfl⟩
    clear c
    go_wp2_with fail
    refine r.mono ?_
    rintro e w' ⟨rfl, rfl⟩
    go_wp2_with fail
    go_ret
    exact ⟨congrArg Ending.returned (str_of (by simp)), rfl⟩
  · rw [pad_two h1 h] at c
    have r := rep_zero ⟨#[48]⟩ w
    have hp : (pad2 n).length = 2 := rfl
    generalize pad2 n = P at *
    go_enter Tryz.func55, Tryz.ntmps55
    go_wp2_with fail
    refine c.mono ?_
    rintro e w' ⟨rfl, rfl⟩
    clear c
    go_wp2_with fail
    refine r.mono ?_
    rintro e w' ⟨rfl, rfl⟩
    go_wp2_with fail
    go_ret
    exact ⟨congrArg Ending.returned (str_of (by simp)), rfl⟩
theorem padded_int (a : Int) (h0 : 0 ≤ a) (h1 : a < 100) (w : World) :
    Calls Tryz.prog 55 #[.int .i64 a, .int .i64 2] w fun e w' => e = .returned (.string ⟨(pad2 a.toNat).toArray⟩) ∧ w' = w := by
  have h := padded_small a.toNat (by omega) w
  rw [show ((a.toNat : Nat) : Int) = a by omega] at h
  exact h
set_option maxRecDepth 100000 in
set_option maxHeartbeats 1000000 in
theorem padded_year (y : Int) (h0 : 2000 ≤ y) (h1 : y ≤ 2399) (w : World) (ht : PowT w) :
    Calls Tryz.prog 55 #[.int .i64 y, .int .i64 4] w fun e w' => e = .returned (.string ⟨(Lib.decDigits y.toNat).toArray⟩) ∧ Below w.heap.size w w' := by
  have c := itoa_any y (by omega) (by omega) w ht
  have e : Lib.itoa y = Lib.decDigits y.toNat := by unfold Lib.itoa; rw [if_neg (by omega)]
  rw [e] at c
  have hp : (Lib.decDigits y.toNat).length = 4 := by
    rw [Lib.decDigits_length]
    exact Lib.nDigits_unique 3 y.toNat (by omega) (by omega)
  have r := fun w => rep_zero ⟨#[48]⟩ w
  clear e ht
  generalize Lib.decDigits y.toNat = P at *
  go_enter Tryz.func55, Tryz.ntmps55
  go_wp2_with fail
  refine c.mono ?_
  rintro e w' ⟨rfl, hb⟩
  clear c
  go_wp2_with fail
  refine (r _).mono ?_
  rintro e w2 ⟨rfl, rfl⟩
  clear r
  go_wp2_with fail
  go_ret
  exact ⟨congrArg Ending.returned (str_of (by simp)), hb⟩
set_option maxRecDepth 100000 in
set_option maxHeartbeats 1000000 in
theorem timeText_any (a : Int) (h0 : 0 ≤ a) (h1 : a ≤ 1440) (w : World) :
    Calls Tryz.prog 33 #[.int .i64 a] w fun e w' => e = .returned (.string ⟨(clockL a).toArray⟩) ∧ w' = w := by
  have c1 := padded_int (a / 60) (by omega) (by omega) w
  have c2 := padded_int (a % 60) (by omega) (by omega) w
  have e : clockL a = pad2 (a / 60).toNat ++ 58 :: pad2 (a % 60).toNat := by
    unfold clockL
    rw [show (a / 60).toNat = a.toNat / 60 by omega, show (a % 60).toNat = a.toNat % 60 by omega]
  rw [e]
  have l1 := pad2_len (a / 60).toNat
  have l2 := pad2_len (a % 60).toNat
  clear e
  generalize pad2 (a / 60).toNat = P at *
  generalize pad2 (a % 60).toNat = R at *
  go_enter Tryz.func33, Tryz.ntmps33
  go_wp2_with fail
  refine c1.mono ?_
  rintro e w' ⟨rfl, rfl⟩
  clear c1
  go_wp2_with fail
  refine c2.mono ?_
  rintro e w' ⟨rfl, rfl⟩
  clear c2
  go_wp2_with fail
  go_ret
  exact ⟨congrArg Ending.returned (str_of (by simp)), rfl⟩
end Go.Proofs.YtpcopkdcnabojacGreatDoor
