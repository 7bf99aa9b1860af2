/- What is wrong with an expression's form: plain. -/
import Derived.Test.YteheahhifihmjaaGreatDoorQa07
import Derived.Test.YteheahhifihmjaaGreatDoorQa03
import Derived.Lib.ItoaNum
import Derived.Lib.Join
namespace Lx

/-- How many kids a kind has. -/
def kidsP (k : Int) : Nat := if k = 4 ∨ k = 5 ∨ k = 9 then 1 else if k = 6 ∨ k = 7 ∨ k = 8 then 2 else 0
/-- Are the numbers as the kind asks? -/
def rangeP (k a b : Int) : Bool :=
  if k = 3 then decide (0 ≤ a ∧ a < b ∧ b ≤ 1440)
  else if k = 4 then decide (1 ≤ a ∧ a < 128)
  else if k = 5 then decide (0 ≤ a ∧ a ≤ b ∧ b < 146097)
  else if k = 9 then decide (a ≠ 0 ∧ -1440 < a ∧ a < 1440) else true
/-- What is wrong with an expression, whatever its kids are. -/
def aloneP (e : Ex) : Int :=
  if e.kind < 1 ∨ 10 < e.kind then 1 else if e.kids.length ≠ kidsP e.kind then 5 else if rangeP e.kind e.a e.b = false then 3 else if e.kind = 10 ∧ Go.Proofs.YteheahhifihmjaaGreatDoor.namedL e.name = false then 7 else 0
/-- What is wrong with an expression so deep, so many being counted; and how many are counted then. -/
def shapeP (e : Ex) (deep n : Nat) : Int × Nat :=
  if 600 < n + 1 ∨ 40 < deep then (4, n + 1)
  else if aloneP e ≠ 0 then (aloneP e, n + 1)
  else e.kids.attach.foldl (fun acc k => if acc.1 ≠ 0 then acc else shapeP k.1 (deep + 1) acc.2) (0, n + 1)
  termination_by sizeOf e
  decreasing_by exact kid_lt k.2
def shapeL (ks : List Ex) (deep : Nat) (acc : Int × Nat) : Int × Nat := ks.foldl (fun acc k => if acc.1 ≠ 0 then acc else shapeP k deep acc.2) acc
theorem shapeP_eq (e : Ex) (deep n : Nat) : shapeP e deep n = if 600 < n + 1 ∨ 40 < deep then (4, n + 1) else if aloneP e ≠ 0 then (aloneP e, n + 1) else shapeL e.kids (deep + 1) (0, n + 1) := by
  rw [shapeP]
  unfold shapeL
  rw [← List.foldl_attach (f := fun (acc : Int × Nat) k => if acc.1 ≠ 0 then acc else shapeP k (deep + 1) acc.2)]
theorem shapeL_nil (deep : Nat) (acc : Int × Nat) : shapeL [] deep acc = acc := rfl
theorem shapeL_cons (k : Ex) (ks : List Ex) (deep : Nat) (acc : Int × Nat) : shapeL (k :: ks) deep acc = shapeL ks deep (if acc.1 ≠ 0 then acc else shapeP k deep acc.2) := rfl
theorem shapeL_bad {ks : List Ex} {deep : Nat} {acc : Int × Nat} (h : acc.1 ≠ 0) : shapeL ks deep acc = acc := by
  induction ks with
  | nil => rfl
  | cons k ks ih => rw [shapeL_cons, if_pos h, ih]
/-- One kid more. -/
theorem shapeL_step {ks : List Ex} {deep j m : Nat} {k : Ex} (h : ks[j]? = some k) : shapeL (ks.drop j) deep (0, m) = shapeL (ks.drop (j + 1)) deep (shapeP k deep m) := by
  obtain ⟨h1, h2⟩ := List.getElem?_eq_some_iff.1 h
  rw [List.drop_eq_getElem_cons h1, h2, shapeL_cons, if_neg (by simp)]
theorem shape_le : ∀ (N : Nat) (e : Ex) (deep n : Nat), sizeOf e ≤ N → (shapeP e deep n).1 = 0 → (shapeP e deep n).2 ≤ 600
  | 0, e, _, _, hN, _ => by cases e; simp at hN
  | N + 1, e, deep, n, hN, h => by
    rw [shapeP_eq] at h ⊢
    split at h
    · cases h
    · rename_i h1
      rw [if_neg h1]
      split at h
      · rename_i h2; exact absurd h h2
      · rename_i h2
        rw [if_neg h2]
        have aux : ∀ (ks : List Ex), (∀ k ∈ ks, sizeOf k ≤ N) → ∀ acc : Int × Nat, acc.2 ≤ 600 → (shapeL ks (deep + 1) acc).1 = 0 → (shapeL ks (deep + 1) acc).2 ≤ 600 := by
          intro ks
          induction ks with
          | nil => intro _ acc ha _; exact ha
          | cons k ks ih =>
            intro hk acc ha h0
            rw [shapeL_cons] at h0 ⊢
            by_cases hb : acc.1 ≠ 0
            · rw [if_pos hb] at h0 ⊢
              exact ih (fun q hq => hk q (List.mem_cons_of_mem _ hq)) acc ha h0
            · rw [if_neg hb] at h0 ⊢
              refine ih (fun q hq => hk q (List.mem_cons_of_mem _ hq)) _ ?_ h0
              by_cases hz : (shapeP k (deep + 1) acc.2).1 = 0
              · exact shape_le N k (deep + 1) acc.2 (hk k List.mem_cons_self) hz
              · rw [shapeL_bad hz] at h0; exact absurd h0 hz
        exact aux e.kids (fun k hk => by have := kid_lt hk; omega) (0, n + 1) (by simp at h1 ⊢; omega) h
theorem shapeP_le {e : Ex} {deep n : Nat} (h : (shapeP e deep n).1 = 0) : (shapeP e deep n).2 ≤ 600 := shape_le _ e deep n (Nat.le_refl _) h
end Lx

/- What civil.Of comes to. -/
namespace Go.Proofs.YteheahhifihmjaaGreatDoor
open Go.RowKit

set_option maxHeartbeats 400000 in
theorem isDay_yes (n : Int) (w : World) (a : 0 ≤ n) (b : n < 146097) :
    Calls Tryz.prog 90 #[.int .i64 n] w fun e w' => e = .returned (.bool true) ∧ w' = w := by
  go_enter Tryz.func90, Tryz.ntmps90
  go_wp2
  go_ret
  exact ⟨rfl, rfl⟩

set_option maxHeartbeats 400000 in
theorem yearOf_any (n : Int) (w : World) (a : 0 ≤ n) (b : n < 146097) :
    Calls Tryz.prog 91 #[.int .i64 n] w fun e w' => e = .returned (.int .i64 (Cal.yearOf n)) ∧ w' = w := by
  unfold Cal.yearOf
  by_cases h : Cal.ys (2000 + n / 366 + 1) ≤ n
  · rw [if_pos h]
    go_enter Tryz.func91, Tryz.ntmps91
    go_wp2_with (go_at_call 77; refine (ys_any _ _ (by omega) (by omega)).mono ?_; rintro e w' ⟨rfl, rfl⟩)
    go_ret
    exact ⟨rfl, rfl⟩
  · rw [if_neg h]
    go_enter Tryz.func91, Tryz.ntmps91
    go_wp2_with (go_at_call 77; refine (ys_any _ _ (by omega) (by omega)).mono ?_; rintro e w' ⟨rfl, rfl⟩)
    go_ret
    exact ⟨rfl, rfl⟩

set_option maxHeartbeats 400000 in
theorem monthOf_any (y r : Int) (w : World) (hT : CTab w) (a : 2000 ≤ y) (b : y ≤ 2399) (c : 0 ≤ r) (d : r < 365 + Cal.lp y) :
    Calls Tryz.prog 92 #[.int .i64 y, .int .i64 r] w fun e w' => ∃ m : Int, e = .returned (.int .i64 m) ∧ 1 ≤ m ∧ m ≤ 12 ∧ Cal.cum y m ≤ r ∧ r < Cal.cum y m + Cal.dim y m ∧ w' = w := by
  have H : Hid (CTab w) := hT
  have D : Hid (r < 365 + Cal.lp y) := d
  clear hT d
  go_enter Tryz.func92, Tryz.ntmps92
  go_wp2
  go_loop [5] (fun i => ∃ k : Int, 1 ≤ k ∧ k ≤ 12 ∧ i = .int .i64 k ∧ Cal.cum y k ≤ r) (fun i => (12 - intOf i).toNat)
  case atStart => exact ⟨1, by omega, by omega, rfl, by rw [Cal.cum_one]; exact c⟩
  case round =>
    obtain ⟨k, hk1, hk2, rfl, hk3⟩ := hrel
    have cs : Hid (Cal.cum y (k + 1) = Cal.cum y k + Cal.dim y k) := Cal.cum_succ y k a b hk1 hk2
    by_cases hc : k < 12 ∧ Cal.cum y (k + 1) ≤ r
    · obtain ⟨h1, h2⟩ := hc
      go_wp2_with (go_at_call 78; refine (cum_any _ _ _ H.out a b (by omega) (by omega)).mono ?_; rintro e w' ⟨rfl, rfl⟩)
      go_round
      case rel => exact ⟨k + 1, by omega, by omega, rfl, h2⟩
      case measure => simp [intOf]; omega
    · have hv : Hid (r < Cal.cum y k + Cal.dim y k) := by
        have h := cs.out
        have h' := D.out
        by_cases e : k = 12
        · subst e
          have h13 : Cal.cum y (12 + 1) = 365 + Cal.lp y := rfl
          show r < _
          omega
        · show r < _
          omega
      by_cases h1 : k < 12
      · have h2 : r < Cal.cum y (k + 1) := by omega
        clear hc
        go_wp2_with (go_at_call 78; refine (cum_any _ _ _ H.out a b (by omega) (by omega)).mono ?_; rintro e w' ⟨rfl, rfl⟩)
        go_ret
        exact ⟨k, rfl, hk1, hk2, hk3, hv.out, rfl⟩
      · clear hc
        go_wp2
        go_ret
        exact ⟨k, rfl, hk1, hk2, hk3, hv.out, rfl⟩

theorem num_of (n y m : Int) : Cal.num y m (n - Cal.ys y - Cal.cum y m + 1) = n := by unfold Cal.num; omega

set_option maxHeartbeats 400000 in
theorem of_yes (n : Int) (w : World) (hT : CTab w) (a : 0 ≤ n) (b : n < 146097) :
    Calls Tryz.prog 74 #[.int .i64 n] w fun e w' => ∃ y m d : Int, e = .returned (.tuple #[.agg #[.int .i64 y, .int .i64 m, .int .i64 d], .int .i64 0]) ∧ 1 ≤ d ∧ d ≤ Cal.dim y m ∧ Cal.num y m d = n ∧ Below w.heap.size w w' := by
  have H : Hid (CTab w) := hT
  clear hT
  obtain ⟨y1, y2, y3, y4⟩ := Cal.yearOf_ok n a b
  have ysu := Cal.ys_succ (Cal.yearOf n)
  have r2 : n - Cal.ys (Cal.yearOf n) < 365 + Cal.lp (Cal.yearOf n) := by omega
  have R2 : Hid (n - Cal.ys (Cal.yearOf n) < 365 + Cal.lp (Cal.yearOf n)) := r2
  have yb := Cal.ys_bd (Cal.yearOf n) y1 (by omega)
  clear ysu r2 y4
  go_enter Tryz.func74, Tryz.ntmps74
  go_wp2_with fail
  refine (isDay_yes _ _ a b).mono ?_
  rintro e w' ⟨rfl, rfl⟩
  go_wp2_with fail
  refine (yearOf_any _ _ a b).mono ?_
  rintro e w' ⟨rfl, rfl⟩
  go_wp2_with fail
  refine (ys_any _ _ y1 (by omega)).mono ?_
  rintro e w' ⟨rfl, rfl⟩
  go_wp2_with fail
  refine (monthOf_any _ _ _ (H.out.alloc _) y1 y2 (by omega) R2.out).mono ?_
  rintro e w' ⟨m, rfl, m1, m2, m3, m4, rfl⟩
  have cb := Cal.cum_bd (Cal.yearOf n) m m1 (by omega)
  go_wp2_with fail
  refine (cum_any _ _ _ (H.out.alloc _) y1 y2 m1 (by omega)).mono ?_
  rintro e w' ⟨rfl, rfl⟩
  go_wp2
  refine bodyPost_ret (v := .tuple #[.agg #[.int .i64 (Cal.yearOf n), .int .i64 m, .int .i64 (n - Cal.ys (Cal.yearOf n) - Cal.cum (Cal.yearOf n) m + 1)], .int .i64 0]) (by simp [results, Tryz.results74, go_sem]) rfl ⟨_, _, _, rfl, by omega, by omega, num_of n _ _, ?_⟩
  exact (Below.refl _ _).alloc (Nat.le_refl _) _
end Go.Proofs.YteheahhifihmjaaGreatDoor

/- The text of an expression: plain. -/
namespace Lx
open Go

/-- Two digits. -/
def pad2 (n : Nat) : List UInt8 := [UInt8.ofNat (48 + n / 10), UInt8.ofNat (48 + n % 10)]
def clockL (n : Int) : List UInt8 := pad2 (n.toNat / 60) ++ 58 :: pad2 (n.toNat % 60)
/-- Is it the date of a day? -/
def IsYmd (n : Int) (t : Int × Int × Int) : Bool := decide (1 ≤ t.2.2 ∧ t.2.2 ≤ Go.Proofs.YteheahhifihmjaaGreatDoor.Cal.dim t.1 t.2.1 ∧ Go.Proofs.YteheahhifihmjaaGreatDoor.Cal.num t.1 t.2.1 t.2.2 = n)
/-- A day's date, if it lies in that year and month. -/
def ymdAt (n : Int) (p : Nat × Nat) : Int × Int × Int := (2000 + (p.1 : Int), 1 + (p.2 : Int), n - Go.Proofs.YteheahhifihmjaaGreatDoor.Cal.ys (2000 + (p.1 : Int)) - Go.Proofs.YteheahhifihmjaaGreatDoor.Cal.cum (2000 + (p.1 : Int)) (1 + (p.2 : Int)) + 1)
/-- All years and months. -/
def ymdL : List (Nat × Nat) := (List.range 400).flatMap fun i => (List.range 12).map fun j => (i, j)
/-- The date of a day. -/
def ymd (n : Int) : Int × Int × Int := match ymdL.find? (fun p => IsYmd n (ymdAt n p)) with
  | some p => ymdAt n p
  | none => (0, 0, 0)
theorem ymd_eq {n y m d : Int} (h1 : 1 ≤ d) (h2 : d ≤ Go.Proofs.YteheahhifihmjaaGreatDoor.Cal.dim y m) (h3 : Go.Proofs.YteheahhifihmjaaGreatDoor.Cal.num y m d = n) : ymd n = (y, m, d) := by
  obtain ⟨b1, b2, b3, b4⟩ := Go.Proofs.YteheahhifihmjaaGreatDoor.Cal.dim_pos y m (by omega)
  obtain ⟨i, hi⟩ : ∃ i : Nat, y = 2000 + (i : Int) := ⟨(y - 2000).toNat, by omega⟩
  obtain ⟨j, hj⟩ : ∃ j : Nat, m = 1 + (j : Int) := ⟨(m - 1).toNat, by omega⟩
  have hat : ymdAt n (i, j) = (y, m, d) := by
    unfold ymdAt
    dsimp only
    rw [← hi, ← hj, ← h3]
    unfold Go.Proofs.YteheahhifihmjaaGreatDoor.Cal.num
    congr 2
    omega
  have hm : (i, j) ∈ ymdL := List.mem_flatMap.2 ⟨i, List.mem_range.2 (by omega), List.mem_map.2 ⟨j, List.mem_range.2 (by omega), rfl⟩⟩
  have hok : IsYmd n (ymdAt n (i, j)) = true := by rw [hat]; exact decide_eq_true ⟨h1, h2, h3⟩
  unfold ymd
  cases hf : ymdL.find? (fun p => IsYmd n (ymdAt n p)) with
  | none => exact absurd hok (List.find?_eq_none.1 hf (i, j) hm)
  | some p =>
    have hp := List.find?_some hf
    dsimp only at hp ⊢
    generalize ymdAt n p = t at *
    obtain ⟨y', m', d'⟩ := t
    obtain ⟨a1, a2, a3⟩ := of_decide_eq_true hp
    obtain ⟨rfl, rfl, rfl⟩ := Go.Proofs.YteheahhifihmjaaGreatDoor.Cal.num_inj y' m' d' y m d a1 a2 h1 h2 (a3.trans h3.symm)
    rfl
def dateL (n : Int) : List UInt8 := Lib.decDigits (ymd n).1.toNat ++ 45 :: (pad2 (ymd n).2.1.toNat ++ 45 :: pad2 (ymd n).2.2.toNat)
def datesL (a b : Int) : List UInt8 := if a = b then dateL a else dateL a ++ ([46, 46] ++ dateL b)
/-- Is a day's bit set? -/
def dayOn (a : Int) (i : Nat) : Bool := decide ((a.toNat / 2 ^ i) % 2 = 1)
/-- The names of those days whose bits are set, of the first so many. -/
def daysUp (a : Int) : Nat → List (List UInt8)
  | 0 => []
  | i + 1 => if dayOn a i then daysUp a i ++ [wDays.getD i []] else daysUp a i
def daysL (a : Int) : List UInt8 := Lib.join (daysUp a 7) [44]
/-- How close a kind holds together. -/
def holdP (k : Int) : Nat := if k = 6 ∨ k = 7 then 0 else if k = 8 then 1 else if k = 4 ∨ k = 5 then 2 else 3
/-- The text of an expression, without brackets; t: the texts of its kids. -/
def bareP (e : Ex) (t : Nat → Nat → List UInt8) : List UInt8 :=
  if e.kind = 1 then [110, 101, 118, 101, 114] else if e.kind = 2 then [97, 108, 119, 97, 121, 115]
  else if e.kind = 3 then clockL e.a ++ 45 :: clockL e.b else if e.kind = 10 then e.name
  else if e.kind = 6 then t 0 0 ++ ([32, 43, 32] ++ t 1 1) else if e.kind = 7 then t 0 0 ++ ([32, 45, 32] ++ t 1 1) else if e.kind = 8 then t 0 1 ++ ([32, 38, 32] ++ t 1 2)
  else if e.kind = 9 then t 0 3 ++ ([32, 115, 104, 105, 102, 116, 32] ++ Lib.itoa e.a)
  else if e.kind = 4 then [119, 101, 101, 107, 108, 121, 32] ++ daysL e.a ++ [58, 32] ++ t 0 2
  else if e.kind = 5 then [100, 97, 116, 101, 115, 32] ++ datesL e.a e.b ++ [58, 32] ++ t 0 2 else []
theorem bare_1 {e : Ex} {t : Nat → Nat → List UInt8} (h : e.kind = 1) : bareP e t = [110, 101, 118, 101, 114] := by
  unfold bareP
  rw [h]; rfl
theorem bare_2 {e : Ex} {t : Nat → Nat → List UInt8} (h : e.kind = 2) : bareP e t = [97, 108, 119, 97, 121, 115] := by
  unfold bareP
  rw [h]; rfl
theorem bare_3 {e : Ex} {t : Nat → Nat → List UInt8} (h : e.kind = 3) : bareP e t = clockL e.a ++ 45 :: clockL e.b := by
  unfold bareP
  rw [h]; rfl
theorem bare_10 {e : Ex} {t : Nat → Nat → List UInt8} (h : e.kind = 10) : bareP e t = e.name := by
  unfold bareP
  rw [h]; rfl
theorem bare_6 {e : Ex} {t : Nat → Nat → List UInt8} (h : e.kind = 6) : bareP e t = t 0 0 ++ ([32, 43, 32] ++ t 1 1) := by
  unfold bareP
  rw [h]; rfl
theorem bare_7 {e : Ex} {t : Nat → Nat → List UInt8} (h : e.kind = 7) : bareP e t = t 0 0 ++ ([32, 45, 32] ++ t 1 1) := by
  unfold bareP
  rw [h]; rfl
theorem bare_8 {e : Ex} {t : Nat → Nat → List UInt8} (h : e.kind = 8) : bareP e t = t 0 1 ++ ([32, 38, 32] ++ t 1 2) := by
  unfold bareP
  rw [h]; rfl
theorem bare_9 {e : Ex} {t : Nat → Nat → List UInt8} (h : e.kind = 9) : bareP e t = t 0 3 ++ ([32, 115, 104, 105, 102, 116, 32] ++ Lib.itoa e.a) := by
  unfold bareP
  rw [h]; rfl
theorem bare_4 {e : Ex} {t : Nat → Nat → List UInt8} (h : e.kind = 4) : bareP e t = [119, 101, 101, 107, 108, 121, 32] ++ daysL e.a ++ [58, 32] ++ t 0 2 := by
  unfold bareP
  rw [h]; rfl
theorem bare_5 {e : Ex} {t : Nat → Nat → List UInt8} (h : e.kind = 5) : bareP e t = [100, 97, 116, 101, 115, 32] ++ datesL e.a e.b ++ [58, 32] ++ t 0 2 := by
  unfold bareP
  rw [h]; rfl
def brk (b : Bool) (s : List UInt8) : List UInt8 := if b then [40] ++ s ++ [41] else s
def textE (e : Ex) (least : Nat) : List UInt8 :=
  brk (decide (holdP e.kind < least)) (bareP e fun j l => match e.kids.attach[j]? with | some k => textE k.1 l | none => [])
  termination_by sizeOf e
  decreasing_by exact kid_lt k.2
def kidT (ks : List Ex) (j l : Nat) : List UInt8 := match ks[j]? with | some k => textE k l | none => []
theorem textE_eq (e : Ex) (least : Nat) : textE e least = brk (decide (holdP e.kind < least)) (bareP e (kidT e.kids)) := by
  rw [textE]
  congr 2
  funext j l
  unfold kidT
  have h : ∀ (o : Option {x // x ∈ e.kids}) (p : Option Ex), o.map Subtype.val = p → (match o with | some k => textE k.1 l | none => []) = (match p with | some k => textE k l | none => []) := by
    intro o p h
    subst h
    cases o <;> rfl
  exact h _ _ (by rw [← List.getElem?_map, List.attach_map_subtype_val])
theorem kidT_at {ks : List Ex} {j l : Nat} {k : Ex} (h : ks[j]? = some k) : kidT ks j l = textE k l := by unfold kidT; rw [h]

/-- Nothing is wrong with it. -/
def OKE (e : Ex) : Prop := ∃ deep n, (shapeP e deep n).1 = 0
theorem OKE.alone {e : Ex} (h : OKE e) : aloneP e = 0 := by
  obtain ⟨deep, n, h⟩ := h
  rw [shapeP_eq] at h
  split at h
  · cases h
  · split at h
    · rename_i h2; exact absurd h h2
    · rename_i h2; simpa using h2
theorem shapeL_all {deep : Nat} : ∀ {ks : List Ex} {acc : Int × Nat}, (shapeL ks deep acc).1 = 0 → ∀ k ∈ ks, OKE k
  | [], _, _, k, hk => by cases hk
  | k' :: ks, acc, h, k, hk => by
    rw [shapeL_cons] at h
    by_cases hb : acc.1 ≠ 0
    · rw [if_pos hb, shapeL_bad hb] at h; exact absurd h hb
    rw [if_neg hb] at h
    have hz : (shapeP k' deep acc.2).1 = 0 := by
      by_cases hz : (shapeP k' deep acc.2).1 = 0
      · exact hz
      · rw [shapeL_bad hz] at h; exact h
    rcases List.mem_cons.1 hk with rfl | hk
    · exact ⟨_, _, hz⟩
    · exact shapeL_all h k hk
theorem OKE.kid {e k : Ex} (h : OKE e) (hk : k ∈ e.kids) : OKE k := by
  have ha := h.alone
  obtain ⟨deep, n, h⟩ := h
  rw [shapeP_eq] at h
  split at h
  · cases h
  · rw [if_neg (by simpa using ha)] at h
    exact shapeL_all h k hk
theorem OKE.kinds {e : Ex} (h : OKE e) : 1 ≤ e.kind ∧ e.kind ≤ 10 ∧ e.kids.length = kidsP e.kind ∧ rangeP e.kind e.a e.b = true ∧ (e.kind = 10 → Go.Proofs.YteheahhifihmjaaGreatDoor.namedL e.name = true) := by
  have ha := h.alone
  unfold aloneP at ha
  split at ha
  · cases ha
  · split at ha
    · cases ha
    · split at ha
      · cases ha
      · split at ha
        · cases ha
        · rename_i h1 h2 h3 h4
          refine ⟨by omega, by omega, by simpa using h2, by simpa using h3, fun hk => ?_⟩
          cases hn : Go.Proofs.YteheahhifihmjaaGreatDoor.namedL e.name with
          | true => rfl
          | false => exact absurd ⟨hk, hn⟩ h4
/-- The first and the second kid. -/
theorem OKE.kid0 {e : Ex} (h : OKE e) (hk : 1 ≤ kidsP e.kind) : ∃ k, e.kids[0]? = some k ∧ OKE k := by
  have hl := h.kinds.2.2.1
  exact ⟨e.kids[0]'(by omega), List.getElem?_eq_getElem _, h.kid (List.getElem_mem _)⟩
theorem OKE.kid1 {e : Ex} (h : OKE e) (hk : 2 ≤ kidsP e.kind) : ∃ k, e.kids[1]? = some k ∧ OKE k := by
  have hl := h.kinds.2.2.1
  exact ⟨e.kids[1]'(by omega), List.getElem?_eq_getElem _, h.kid (List.getElem_mem _)⟩
end Lx

/- How long the text of an expression is at most: plain. -/
namespace Lx
open Go

theorem pad2_len (n : Nat) : (pad2 n).length = 2 := rfl
theorem clock_len (n : Int) : (clockL n).length = 5 := by simp [clockL, pad2]
theorem dec_len {u : Nat} (h : u < 10000) : (Lib.decDigits u).length ≤ 4 := by
  rw [Lib.decDigits_length]
  by_cases h1 : u < 10
  · rw [Lib.nDigits_small h1]; omega
  rw [Lib.nDigits_big h1]
  by_cases h2 : u / 10 < 10
  · rw [Lib.nDigits_small h2]; omega
  rw [Lib.nDigits_big h2]
  by_cases h3 : u / 10 / 10 < 10
  · rw [Lib.nDigits_small h3]; omega
  rw [Lib.nDigits_big h3, Lib.nDigits_small (by omega)]
  omega
theorem ymd_bd (n : Int) : 0 ≤ (ymd n).1 ∧ (ymd n).1 ≤ 2399 := by
  unfold ymd
  cases hf : ymdL.find? (fun p => IsYmd n (ymdAt n p)) with
  | none => exact ⟨by simp, by simp⟩
  | some p =>
    have hp := List.find?_some hf
    dsimp only at hp ⊢
    obtain ⟨a1, a2, _⟩ := of_decide_eq_true hp
    have := Go.Proofs.YteheahhifihmjaaGreatDoor.Cal.dim_pos _ _ (Int.le_trans a1 a2)
    omega
theorem date_len (n : Int) : (dateL n).length ≤ 10 := by
  have h := ymd_bd n
  have := dec_len (u := (ymd n).1.toNat) (by omega)
  simp [dateL, pad2]
  omega
theorem dates_len (a b : Int) : (datesL a b).length ≤ 22 := by
  have h1 := date_len a
  have h2 := date_len b
  unfold datesL
  split
  · omega
  · simp; omega
set_option maxRecDepth 100000 in
theorem days_all : ∀ n : Fin 128, (daysL (n.1 : Int)).length ≤ 27 := by decide +kernel
theorem days_len {a : Int} (h0 : 0 ≤ a) (h1 : a < 128) : (daysL a).length ≤ 27 := by
  have := days_all ⟨a.toNat, by omega⟩
  rw [show (((⟨a.toNat, by omega⟩ : Fin 128).1 : Nat) : Int) = a from by simp; omega] at this
  exact this
theorem itoa_len {a : Int} (h0 : -10000 < a) (h1 : a < 10000) : (Lib.itoa a).length ≤ 5 := by
  unfold Lib.itoa
  split
  · have := dec_len (u := a.natAbs) (by omega)
    simp; omega
  · have := dec_len (u := a.toNat) (by omega)
    omega
theorem name_len {l : List UInt8} (h : Go.Proofs.YteheahhifihmjaaGreatDoor.namedL l = true) : l.length ≤ 20 := by
  unfold Go.Proofs.YteheahhifihmjaaGreatDoor.namedL at h
  rw [Bool.and_eq_true, Bool.and_eq_true] at h
  exact of_decide_eq_true h.2.1
theorem brk_len (b : Bool) (s : List UInt8) : (brk b s).length ≤ s.length + 2 := by unfold brk; split <;> simp
/-- The texts of the kids and no more than so much beside them. -/
theorem bare_len {e : Ex} (h : OKE e) (t : Nat → Nat → List UInt8) :
    (kidsP e.kind = 0 → (bareP e t).length ≤ 40) ∧ (kidsP e.kind = 1 → ∃ l, (bareP e t).length ≤ 40 + (t 0 l).length) ∧ (kidsP e.kind = 2 → ∃ l l', (bareP e t).length ≤ 40 + (t 0 l).length + (t 1 l').length) := by
  obtain ⟨k1, k2, _, hr, hn⟩ := h.kinds
  have c1 := clock_len e.a
  have c2 := clock_len e.b
  have c3 := dates_len e.a e.b
  have hc : e.kind = 1 ∨ e.kind = 2 ∨ e.kind = 3 ∨ e.kind = 10 ∨ e.kind = 6 ∨ e.kind = 7 ∨ e.kind = 8 ∨ e.kind = 9 ∨ e.kind = 4 ∨ e.kind = 5 := by omega
  rcases hc with hk | hk | hk | hk | hk | hk | hk | hk | hk | hk
  · have kp' : kidsP e.kind = 0 := by rw [hk]; rfl
    rw [bare_1 hk, kp']
    refine ⟨fun _ => ?_, fun h => (by omega), fun h => (by omega)⟩
    simp; try omega
  · have kp' : kidsP e.kind = 0 := by rw [hk]; rfl
    rw [bare_2 hk, kp']
    refine ⟨fun _ => ?_, fun h => (by omega), fun h => (by omega)⟩
    simp; try omega
  · have kp' : kidsP e.kind = 0 := by rw [hk]; rfl
    rw [bare_3 hk, kp']
    refine ⟨fun _ => ?_, fun h => (by omega), fun h => (by omega)⟩
    simp; try omega
  · have := name_len (hn hk)
    have kp' : kidsP e.kind = 0 := by rw [hk]; rfl
    rw [bare_10 hk, kp']
    refine ⟨fun _ => ?_, fun h => (by omega), fun h => (by omega)⟩
    omega
  · have kp' : kidsP e.kind = 2 := by rw [hk]; rfl
    rw [bare_6 hk, kp']
    refine ⟨fun h => (by omega), fun h => (by omega), fun _ => ⟨0, 1, ?_⟩⟩
    simp; omega
  · have kp' : kidsP e.kind = 2 := by rw [hk]; rfl
    rw [bare_7 hk, kp']
    refine ⟨fun h => (by omega), fun h => (by omega), fun _ => ⟨0, 1, ?_⟩⟩
    simp; omega
  · have kp' : kidsP e.kind = 2 := by rw [hk]; rfl
    rw [bare_8 hk, kp']
    refine ⟨fun h => (by omega), fun h => (by omega), fun _ => ⟨1, 2, ?_⟩⟩
    simp; omega
  · simp [rangeP, hk] at hr
    have := itoa_len (a := e.a) (by omega) (by omega)
    have kp' : kidsP e.kind = 1 := by rw [hk]; rfl
    rw [bare_9 hk, kp']
    refine ⟨fun h => (by omega), fun _ => ⟨3, ?_⟩, fun h => (by omega)⟩
    simp; omega
  · simp [rangeP, hk] at hr
    have := days_len (a := e.a) (by omega) (by omega)
    have kp' : kidsP e.kind = 1 := by rw [hk]; rfl
    rw [bare_4 hk, kp']
    refine ⟨fun h => (by omega), fun _ => ⟨2, ?_⟩, fun h => (by omega)⟩
    simp; omega
  · have kp' : kidsP e.kind = 1 := by rw [hk]; rfl
    rw [bare_5 hk, kp']
    refine ⟨fun h => (by omega), fun _ => ⟨2, ?_⟩, fun h => (by omega)⟩
    simp; omega
theorem kidsP_le (k : Int) : kidsP k ≤ 2 := by unfold kidsP; split; omega; split <;> omega
theorem text_le : ∀ (N : Nat) (e : Ex) (deep n : Nat), sizeOf e ≤ N → (shapeP e deep n).1 = 0 → n + 1 ≤ (shapeP e deep n).2 ∧ ∀ least, (textE e least).length + 50 * n ≤ 50 * (shapeP e deep n).2
  | 0, e, _, _, hN, _ => by cases e; simp at hN
  | N + 1, e, deep, n, hN, h => by
    have hok : OKE e := ⟨deep, n, h⟩
    obtain ⟨b0, b1, b2⟩ := bare_len hok (kidT e.kids)
    have hl := hok.kinds.2.2.1
    have hle := kidsP_le e.kind
    have ha := hok.alone
    have hlt : ∀ least, (textE e least).length ≤ (bareP e (kidT e.kids)).length + 2 := fun least => by rw [textE_eq]; exact brk_len _ _
    rw [shapeP_eq] at h ⊢
    split at h
    · cases h
    rename_i hc
    rw [if_neg hc]
    rw [if_neg (by simpa using ha)] at h ⊢
    match hk : e.kids, hl with
    | [], hl =>
      have := b0 (by simp at hl; omega)
      rw [hk] at this
      rw [shapeL_nil]
      refine ⟨by simp, fun least => ?_⟩
      have := hlt least
      rw [hk] at this
      simp; omega
    | [k], hl =>
      obtain ⟨l, hb⟩ := b1 (by simp at hl; omega)
      rw [hk] at h hb
      have hkl := kid_lt (e := e) (k := k) (by simp [hk])
      rw [shapeL_cons, if_neg (by simp), shapeL_nil] at h ⊢
      dsimp only at h ⊢
      obtain ⟨q1, q2⟩ := text_le N k (deep + 1) (n + 1) (by omega) h
      have q3 := q2 l
      have e0 : kidT [k] 0 l = textE k l := rfl
      rw [e0] at hb
      refine ⟨by omega, fun least => ?_⟩
      have := hlt least
      rw [hk] at this
      omega
    | [k, k'], hl =>
      obtain ⟨l, l', hb⟩ := b2 (by simp at hl; omega)
      rw [hk] at h hb
      have hkl := kid_lt (e := e) (k := k) (by simp [hk])
      have hkl' := kid_lt (e := e) (k := k') (by simp [hk])
      rw [shapeL_cons, if_neg (by simp), shapeL_cons, shapeL_nil] at h ⊢
      dsimp only at h ⊢
      have hz : (shapeP k (deep + 1) (n + 1)).1 = 0 := by
        by_cases hz : (shapeP k (deep + 1) (n + 1)).1 = 0
        · exact hz
        · rw [if_pos hz] at h; exact h
      rw [if_neg (by simpa using hz)] at h ⊢
      obtain ⟨q1, q2⟩ := text_le N k (deep + 1) (n + 1) (by omega) hz
      obtain ⟨r1, r2⟩ := text_le N k' (deep + 1) _ (by omega) h
      have q3 := q2 l
      have r3 := r2 l'
      have e0 : kidT [k, k'] 0 l = textE k l := rfl
      have e1 : kidT [k, k'] 1 l' = textE k' l' := rfl
      rw [e0, e1] at hb
      refine ⟨by omega, fun least => ?_⟩
      have := hlt least
      rw [hk] at this
      omega
    | _ :: _ :: _ :: _, hl => simp at hl; omega
/-- The text of what nothing is wrong with is not long. -/
theorem OKE.len {e : Ex} (h : OKE e) (least : Nat) : (textE e least).length ≤ 30000 := by
  obtain ⟨deep, n, h⟩ := h
  have h1 := (text_le _ e deep n (Nat.le_refl _) h).2 least
  have h2 := shapeP_le h
  omega
end Lx
