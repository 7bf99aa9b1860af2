/- What write comes to. -/
import Derived.Test.YteheahhifihmjaaGreatDoorQa31
import Derived.Test.YteheahhifihmjaaGreatDoorQa12
namespace Go.Proofs.YteheahhifihmjaaGreatDoor
open Go.RowKit Lx
variable {B b : Nat}

theorem bare_any (e : Ex) (p : Option Addr) (c : Nat) (w : World) (l : List UInt8) (hks : e.kids = [] ∨ KidsW B b w (.slice p e.kids.length c) e.kids) (hok : OKE e) (hPT : PTb B w) (h : BSt B b l w) (hlen : l.length + (bareP e (kidT e.kids)).length ≤ 140737488355328) :
    Calls Tryz.prog 24 #[.pointer (some ⟨b, 0, none⟩), .agg #[.int .i64 e.kind, .int .i64 e.a, .int .i64 e.b, .string ⟨e.name.toArray⟩, .slice p e.kids.length c]] w (OutT B b l (bareP e (kidT e.kids)) w) := by
  obtain ⟨k1, k2, _⟩ := hok.kinds
  obtain ⟨kind, a, b1, name, kids⟩ := e
  dsimp only at *
  have hc : kind = 1 ∨ kind = 2 ∨ kind = 3 ∨ kind = 10 ∨ kind = 6 ∨ kind = 7 ∨ kind = 8 ∨ kind = 9 ∨ kind = 4 ∨ kind = 5 := by omega
  clear k1 k2
  rcases hc with rfl | rfl | rfl | rfl | rfl | rfl | rfl | rfl | rfl | rfl
  · exact bare_step_1 a b1 name kids p c w l hks hok hPT h hlen
  · exact bare_step_2 a b1 name kids p c w l hks hok hPT h hlen
  · exact bare_step_3 a b1 name kids p c w l hks hok hPT h hlen
  · exact bare_step_10 a b1 name kids p c w l hks hok hPT h hlen
  · exact bare_step_6 a b1 name kids p c w l hks hok hPT h hlen
  · exact bare_step_7 a b1 name kids p c w l hks hok hPT h hlen
  · exact bare_step_8 a b1 name kids p c w l hks hok hPT h hlen
  · exact bare_step_9 a b1 name kids p c w l hks hok hPT h hlen
  · exact bare_step_4 a b1 name kids p c w l hks hok hPT h hlen
  · exact bare_step_5 a b1 name kids p c w l hks hok hPT h hlen
set_option maxRecDepth 100000 in
set_option maxHeartbeats 4000000 in
theorem write_step (e : Ex) (p : Option Addr) (c : Nat) (w : World) (l : List UInt8) (least : Nat) (hks : e.kids = [] ∨ KidsW B b w (.slice p e.kids.length c) e.kids) (hok : OKE e) (hPT : PTb B w) (h : BSt B b l w) (_hl3 : least ≤ 3) (hlen : l.length + (textE e least).length ≤ 140737488355328) :
    Calls Tryz.prog 14 #[.pointer (some ⟨b, 0, none⟩), .agg #[.int .i64 e.kind, .int .i64 e.a, .int .i64 e.b, .string ⟨e.name.toArray⟩, .slice p e.kids.length c], .int .i64 (least : Int)] w (OutT B b l (textE e least) w) := by
  have hbA := (Below.refl w.heap.size w).alloc (Nat.le_refl _) (.cells #[.int .i64 e.kind, .int .i64 e.a, .int .i64 e.b, .string ⟨e.name.toArray⟩, .slice p e.kids.length c] 38)
  have hxA := heap_alloc_new w (.cells #[.int .i64 e.kind, .int .i64 e.a, .int .i64 e.b, .string ⟨e.name.toArray⟩, .slice p e.kids.length c] 38)
  have hsA := h.below hbA
  have hbA' := hbA.mono h.le
  have hkA : BK B b w _ := BK.of_below hbA h.le
  generalize hwA : w.alloc (.cells #[.int .i64 e.kind, .int .i64 e.a, .int .i64 e.b, .string ⟨e.name.toArray⟩, .slice p e.kids.length c] 38) = wA at *
  have z0 := (cell_of_row _ _ 0 _ _ _ hxA).trans rfl
  have cH := hold_any e.kind wA
  have kon : ∀ W, Below B w W → (e.kids = [] ∨ KidsW B b W (.slice p e.kids.length c) e.kids) := fun W hW => by
    rcases hks with q | q
    · exact .inl q
    · exact .inr (q.on hW)
  rw [textE_eq] at hlen ⊢
  have HBw := h.lt
  by_cases hh : holdP e.kind < least
  · rw [decide_eq_true hh] at hlen ⊢
    have e1 : brk true (bareP e (kidT e.kids)) = [40] ++ (bareP e (kidT e.kids) ++ [41]) := rfl
    rw [e1] at hlen ⊢
    have hg : ¬ (least : Int) ≤ (holdP e.kind : Int) := by omega
    have P1 := put_any [40] hsA (by simp at hlen ⊢; omega)
    have P2 := fun (w1 : World) (hw : Below B w w1) (hs : BSt B b (l ++ [40]) w1) => bare_any e p c w1 (l ++ [40]) (kon w1 hw) hok (hPT.on hw) hs (by simp at hlen ⊢; omega)
    have P3 := fun (w2 : World) (hs : BSt B b (l ++ [40] ++ bareP e (kidT e.kids)) w2) => put_any [41] hs (by simp at hlen ⊢; omega)
    clear hks hok hPT hlen e1 hh kon
    generalize bareP e (kidT e.kids) = X at *
    generalize holdP e.kind = H at *
    go_enter Tryz.func14, Tryz.ntmps14
    go_wp2_with fail
    refine cH.mono ?_
    rintro r w0 ⟨rfl, rfl⟩
    clear cH
    go_wp2_with fail
    refine P1.mono ?_
    rintro r w1 ⟨rfl, hs1, hk1⟩
    have hx1 := hk1.others _ _ hxA (by intro q; cases q; omega) (by intro cc fz q; cases q)
    have hkA1 := hkA.trans hk1
    have P2' := P2 w1 hkA1.below hs1
    clear P1 P2 hxA z0 hwA
    go_wp2_with (refine wpList_load_row rfl 38 _ rfl _ rfl _ _ _ _ hx1 exprType rfl (by kernel_rfl) ?_)
    refine P2'.mono ?_
    rintro r w2 ⟨rfl, hs2, hk2⟩
    have P3' := P3 w2 hs2
    clear P2' P3
    go_wp2_with fail
    refine P3'.mono ?_
    rintro r w3 ⟨rfl, hs3, hk3⟩
    clear P3'
    go_wp2_with fail
    go_end0
    exact ⟨rfl, by simpa using hs3, hkA1.trans (hk2.trans hk3)⟩
  · rw [decide_eq_false hh] at hlen ⊢
    have e1 : brk false (bareP e (kidT e.kids)) = bareP e (kidT e.kids) := rfl
    rw [e1] at hlen ⊢
    have hg : (least : Int) ≤ (holdP e.kind : Int) := by omega
    have P2 := bare_any e p c wA l (kon wA hbA') hok (hPT.on hbA') hsA hlen
    clear hks hok hPT hlen e1 hh kon
    generalize bareP e (kidT e.kids) = X at *
    generalize holdP e.kind = H at *
    go_enter Tryz.func14, Tryz.ntmps14
    go_wp2_with fail
    refine cH.mono ?_
    rintro r w0 ⟨rfl, rfl⟩
    clear cH
    go_wp2_with (refine wpList_load_row rfl 38 _ rfl _ rfl _ _ _ _ hxA exprType rfl (by kernel_rfl) ?_)
    refine P2.mono ?_
    rintro r w2 ⟨rfl, hs2, hk2⟩
    clear P2
    go_wp2_with fail
    go_end0
    exact ⟨rfl, hs2, hkA.trans hk2⟩
theorem write_all : ∀ (d : Nat) (e : Ex) (sl : Value) (w : World) (l : List UInt8) (least : Nat), KidsB (fun k => k < B) d w sl e.kids → OKE e → PTb B w → BSt B b l w → least ≤ 3 → l.length + (textE e least).length ≤ 140737488355328 →
    Calls Tryz.prog 14 #[.pointer (some ⟨b, 0, none⟩), exV e sl, .int .i64 (least : Int)] w (OutT B b l (textE e least) w) := by
  intro d
  induction d with
  | zero =>
    intro e sl w l least hk hok hPT h hl hlen
    obtain ⟨p, c, rfl⟩ := hk.form
    exact write_step e p c w l least (.inl hk.1) hok hPT h hl hlen
  | succ d ih =>
    intro e sl w l least hk hok hPT h hl hlen
    obtain ⟨p, c, hsl⟩ := hk.form
    subst hsl
    refine write_step e p c w l least ?_ hok hPT h hl hlen
    rcases hk with ⟨h', _⟩ | ⟨g, o, c', hg, hs, _, hkid⟩
    · exact .inl h'
    · refine .inr ⟨g, o, c', hs, hg, fun j k hj => ?_⟩
      obtain ⟨_, sk, c0, c1, c2, c3, c4, r⟩ := hkid j k hj
      obtain ⟨p', q', rfl⟩ := r.form
      exact ⟨p', q', c0, c1, c2, c3, c4, fun W l' least' hW hs' hl' hlen' => ih k _ W l' least' (r.kept fun g' hg' _ => hW.block g' hg') (hok.kid (List.mem_of_getElem? hj)) (hPT.on hW) hs' hl' hlen'⟩
end Go.Proofs.YteheahhifihmjaaGreatDoor

/- The text of rules: plain; and what a function with a text and a fault hands back. -/
namespace Lx
open Go

def ruleT (u : Ru) : List UInt8 := [114, 117, 108, 101, 32] ++ u.1 ++ [32, 61, 32] ++ textE u.2 0 ++ [59, 10]
def rulesT : List Ru → List UInt8
  | [] => []
  | u :: l => ruleT u ++ rulesT l
theorem rulesT_snoc (l : List Ru) (u : Ru) : rulesT (l ++ [u]) = rulesT l ++ ruleT u := by
  induction l with
  | nil => simp [rulesT]
  | cons x l ih => simp [rulesT, ih]
theorem take_snoc {l : List Ru} {j : Nat} {u : Ru} (h : l[j]? = some u) : l.take (j + 1) = l.take j ++ [u] := by
  rw [List.take_add_one, h]; rfl
/-- A rule with which nothing is wrong. -/
def OKR (u : Ru) : Prop := Go.Proofs.YteheahhifihmjaaGreatDoor.namedL u.1 = true ∧ OKE u.2
theorem okr_of {u : Ru} (h : ruleP u = 0) : OKR u := by
  unfold ruleP at h
  split at h
  · cases h
  · rename_i hn
    exact ⟨by simpa using hn, 1, 0, h⟩
theorem wrongL_all : ∀ {l : List Ru} {i : Nat}, (wrongL l i).1 = 0 → ∀ u ∈ l, OKR u
  | [], _, _, u, hu => by cases hu
  | x :: l, i, h, u, hu => by
    rw [wrongL] at h
    split at h
    · rename_i hx; exact absurd h hx
    · rename_i hx
      rcases List.mem_cons.1 hu with rfl | hu
      · exact okr_of (by simpa using hx)
      · exact wrongL_all h u hu
theorem wrongR_ok {l : List Ru} (h : (wrongR l).1 = 0) : l.length ≤ 40 ∧ ∀ u ∈ l, OKR u := by
  unfold wrongR at h
  split at h
  · cases h
  · exact ⟨by omega, wrongL_all h⟩
theorem ruleT_len {u : Ru} (h : OKR u) : (ruleT u).length ≤ 40000 := by
  have h1 := name_len h.1
  have h2 := h.2.len 0
  simp [ruleT]; omega
theorem rulesT_len : ∀ {l : List Ru}, (∀ u ∈ l, OKR u) → (rulesT l).length ≤ 40000 * l.length
  | [], _ => by simp [rulesT]
  | x :: l, h => by
    have h1 := ruleT_len (h x List.mem_cons_self)
    have h2 := rulesT_len (l := l) (fun u hu => h u (List.mem_cons_of_mem _ hu))
    simp [rulesT]; omega
/-- What Print tells: the text, the error and its place. -/
def printP (l : List Ru) : List UInt8 × Int × Nat :=
  if (wrongR l).1 ≠ 0 then ([], wrongR l) else if 6000 < (rulesT l).length then ([], 4, 0) else (rulesT l, 0, 0)
end Lx
namespace Go.Proofs.YteheahhifihmjaaGreatDoor
open Go.RowKit Lx
theorem two_post {fn : Func} (hf : fn.results = #[ResultVar.tmp 2, ResultVar.cell 3 26]) {R : Ending → World → Prop} {a : Act} {w : World} (g : Nat) (v : Value) (er at_ : Int) (hd : a.defers = []) (h2 : a.tmps.getD 2 undef = v) (h3 : a.tmps.getD 3 undef = .pointer (some ⟨g, 0, none⟩))
    (hg : w.heap[g]? = some (.cells #[.int .i64 er, .int .i64 at_] 26 (0, 0))) (hR : R (.returned (.tuple #[v, .agg #[.int .i64 er, .int .i64 at_]])) w) : bodyPost Tryz.prog fn R .ret a w := by
  refine bodyPost_ret (v := .tuple #[v, .agg #[.int .i64 er, .int .i64 at_]]) ?_ hd hR
  have h2' : a.tmps[2]?.getD undef = v := by simpa using h2
  have h3' : a.tmps[3]?.getD undef = .pointer (some ⟨g, 0, none⟩) := by simpa using h3
  have hv := run_loadVar_row (P := Tryz.prog) w g 26 26 _ _ _ hg faultType rfl (by kernel_rfl)
  simp [results, hf, h2', h3', asAddr, hv]
/-- What Print comes to. -/
def OutP (l : List Ru) (w : World) (e : Ending) (w' : World) : Prop := e = .returned (.tuple #[.string ⟨(printP l).1.toArray⟩, .agg #[.int .i64 (printP l).2.1, .int .i64 ((printP l).2.2 : Int)]]) ∧ Below w.heap.size w w'
end Go.Proofs.YteheahhifihmjaaGreatDoor

/- The text of rules is read back: plain. -/
namespace Lx
theorem hgt_bare : ∀ (N : Nat) (e : Ex), sizeOf e ≤ N → hgt (bareE e) = hgt e
  | 0, e, hN => by cases e; simp at hN
  | N + 1, e, hN => by
    rw [hgt_eq, hgt_eq, bareE_eq]
    dsimp only
    have aux : ∀ ks : List Ex, (∀ k ∈ ks, sizeOf k ≤ N) → hgtL (ks.map bareE) = hgtL ks := by
      intro ks
      induction ks with
      | nil => intro _; rfl
      | cons k ks ih =>
        intro h
        rw [List.map_cons, hgtL_cons, hgtL_cons, hgt_bare N k (h k List.mem_cons_self), ih fun q hq => h q (List.mem_cons_of_mem _ hq)]
    rw [aux e.kids fun k hk => by have := kid_lt hk; omega]
/-- A rule with what its kinds have alone. -/
def bareR (u : Ru) : Ru := (u.1, bareE u.2)
theorem wrongL_each : ∀ {l : List Ru} {i : Nat}, (wrongL l i).1 = 0 → ∀ u ∈ l, ruleP u = 0
  | [], _, _, u, hu => by cases hu
  | x :: l, i, h, u, hu => by
    rw [wrongL] at h
    split at h
    · rename_i hx; exact absurd h hx
    · rename_i hx
      rcases List.mem_cons.1 hu with rfl | hu
      · simpa using hx
      · exact wrongL_each h u hu
theorem wrongR_each {l : List Ru} (h : (wrongR l).1 = 0) : l.length ≤ 40 ∧ ∀ u ∈ l, ruleP u = 0 := by
  unfold wrongR at h
  split at h
  · cases h
  · exact ⟨by omega, wrongL_each h⟩
theorem wrongL_none : ∀ {l : List Ru} {i : Nat}, (∀ u ∈ l, ruleP u = 0) → wrongL l i = (0, 0)
  | [], _, _ => rfl
  | x :: l, i, h => by
    rw [wrongL, if_neg (by simpa using h x List.mem_cons_self)]
    exact wrongL_none fun u hu => h u (List.mem_cons_of_mem _ hu)
theorem wrongR_none {l : List Ru} (hl : l.length ≤ 40) (h : ∀ u ∈ l, ruleP u = 0) : wrongR l = (0, 0) := by
  unfold wrongR
  rw [if_neg (by omega), wrongL_none h]
theorem ruleP_ok {u : Ru} (h : ruleP u = 0) : Go.Proofs.YteheahhifihmjaaGreatDoor.namedL u.1 = true ∧ allA u.2 = true ∧ cnt u.2 ≤ 600 ∧ hgt u.2 ≤ 40 := by
  unfold ruleP at h
  split at h
  · cases h
  · rename_i hn
    obtain ⟨h1, h2⟩ := of_shape _ u.2 1 0 (Nat.le_refl _) h
    have h3 := shapeP_le h
    exact ⟨by simpa using hn, OKE.all _ u.2 (Nat.le_refl _) ⟨1, 0, h⟩, by omega, by omega⟩
theorem ruleP_of {u : Ru} (h1 : Go.Proofs.YteheahhifihmjaaGreatDoor.namedL u.1 = true) (h2 : allA u.2 = true) (h3 : cnt u.2 ≤ 600) (h4 : hgt u.2 ≤ 40) : ruleP u = 0 := by
  unfold ruleP
  rw [if_neg (by rw [h1]; decide), shape_of _ u.2 1 0 (Nat.le_refl _) h2 (by omega) (by omega)]
end Lx
namespace Go.Proofs.YteheahhifihmjaaGreatDoor
open Go.RowKit Lx

/-- A rule's tokens, told by those of its expression. -/
def ruTk (x : List UInt8) (ts : List T1) : List T1 := nmT x :: sgT 61 :: (ts ++ [sgT 59])
theorem ruleR_or {x : List UInt8} {e : Ex} {ts : List T1} {h E : Nat} {q r : List Tk} (hc : cnt e ≤ 600) (hh : hgt e ≤ 40) (K : K0 e ts h) (a : Rs (ruTk x ts) q r) :
    ruleR E q = .ok ((x, bareE e), r) ∨ (h < 1 + hgt e ∧ ∃ at_, ruleR E q = .error (4, at_)) := by
  obtain ⟨k, q1, rfl, a1⟩ := Rs.cons a
  obtain ⟨k1, q2, rfl, a2⟩ := a1.cons
  obtain ⟨q3, a3, a4⟩ := a2.app
  obtain ⟨k2, q4, rfl, a5⟩ := a4.cons
  obtain rfl := a5.nil
  have c1 : ¬ kindP ((nmT x, k) :: (sgT 61, k1) :: q2) ≠ 1 := fun h => h rfl
  have c2 : isT wIs ((nmT x, k) :: (sgT 61, k1) :: q2).tail = true := rfl
  unfold ruleR
  rw [if_neg c1, if_pos c2]
  have ht : ((nmT x, k) :: (sgT 61, k1) :: q2).tail.tail = q2 := rfl
  rw [ht]
  rcases K E 1 ex0 q2 _ 0 a3 (by omega) rfl rfl with H | ⟨H1, at_, H⟩
  · rw [H, rd1_stop rfl rfl]
    dsimp only
    rw [if_neg (by rw [hgt_bare _ e (Nat.le_refl _)]; omega), if_pos (show isT wSemi ((sgT 59, k2) :: q4) = true from rfl)]
    exact .inl rfl
  · rw [H]
    exact .inr ⟨H1, at_, rfl⟩
theorem goes_rule {x t : List UInt8} {ts : List T1} (hn : namedL x = true) (g : ∀ r, Ends r → Goes ts (t ++ r) (skp r)) (s : Starts t) (r : List UInt8) : Goes (wdT wRule :: ruTk x ts) (wRule ++ 32 :: (x ++ 32 :: 61 :: 32 :: (t ++ 59 :: r))) (skp r) := by
  obtain ⟨n1, n2, _, _⟩ := named_word hn
  have a := goes_wd (x := wRule) (r := 32 :: (x ++ 32 :: 61 :: 32 :: (t ++ 59 :: r))) (by decide) (by decide) (by decide) (by decide) (blank_noC _)
  rw [skp_blank, skp_starts ((Starts.word n1 n2).app _)] at a
  have b := goes_name (r := 32 :: 61 :: 32 :: (t ++ 59 :: r)) hn (blank_noC _)
  rw [skp_blank, skp_starts (st_sign (by decide))] at b
  have c := goes_sign (c := 61) (32 :: (t ++ 59 :: r)) (by decide) (by decide) (by decide) (by decide)
  rw [skp_blank, skp_starts (s.app _)] at c
  have d := g (59 :: r) ⟨59, r, rfl, by decide⟩
  rw [skp_starts (st_sign (by decide))] at d
  have e := goes_sign (c := 59) r (by decide) (by decide) (by decide) (by decide)
  exact a.trans (b.trans (c.trans (d.trans e)))
theorem rs_of_map {ts us : List T1} {q : List Tk} (h : q.map (fun p => p.1) = ts ++ us) : ∃ r, Rs ts q r ∧ r.map (fun p => p.1) = us := by
  obtain ⟨l1, l2, rfl, h1, h2⟩ := List.map_eq_append_iff.1 h
  exact ⟨l2, ⟨l1, h1, rfl⟩, h2⟩
theorem ruleT_eq (u : Ru) (r : List UInt8) : ruleT u ++ r = wRule ++ 32 :: (u.1 ++ 32 :: 61 :: 32 :: (textE u.2 0 ++ 59 :: 10 :: r)) := by
  unfold ruleT wRule
  simp
theorem txt0 {e : Ex} (h : allA e = true) : Txt e 0 := txt_of_bar (bar_all _ e (Nat.le_refl _) h) 0 (by omega)
theorem rules_back : ∀ (l : List Ru), (∀ u ∈ l, ruleP u = 0) → ∃ ts, Goes ts (skp (rulesT l)) [] ∧ ∀ (E f : Nat) (acc : List Ru) (q : List Tk), q.map (fun p => p.1) = ts → q.length < f → acc.length + l.length ≤ 40 → rulesR E f acc q = .ok (acc ++ l.map bareR)
  | [], _ => ⟨[], rfl, fun E f acc q hq hf _ => by
      have : q = [] := by simpa using hq
      subst this
      cases f with
      | zero => simp at hf
      | succ f => rw [rulesR]; simp⟩
  | u :: l, h => by
    obtain ⟨ts, g, hr⟩ := rules_back l fun x hx => h x (List.mem_cons_of_mem _ hx)
    obtain ⟨h1, h2, h3, h4⟩ := ruleP_ok (h u List.mem_cons_self)
    obtain ⟨t0, g0, s0, c0, _⟩ := txt0 h2
    have a := goes_rule h1 g0 s0 (10 :: rulesT l)
    rw [skp_lf] at a
    refine ⟨(wdT wRule :: ruTk u.1 t0) ++ ts, ?_, fun E f acc q hq hf hl => ?_⟩
    · show Goes _ (skp (ruleT u ++ rulesT l)) []
      rw [ruleT_eq, skp_starts ((Starts.word (x := wRule) (by decide) (by decide)).app _)]
      exact a.trans g
    · obtain ⟨r, b1, b2⟩ := rs_of_map hq
      obtain ⟨k, q1, rfl, b3⟩ := b1.cons
      cases f with
      | zero => simp at hf
      | succ f =>
        simp only [List.length_cons] at hl hf
        have hlen : r.length ≤ q1.length := by
          obtain ⟨p, _, rfl⟩ := b3
          simp
        rw [rulesR, if_neg (by simp), if_pos (show isT wRule ((wdT wRule, k) :: q1) = true from rfl), if_neg (by omega)]
        have ht : ((wdT wRule, k) :: q1).tail = q1 := rfl
        rw [ht]
        rcases ruleR_or (E := E) h3 h4 (c0 rfl) b3 with H | ⟨H, _⟩
        · rw [H]
          dsimp only
          rw [hr E f (acc ++ [(u.1, bareE u.2)]) r b2 (by omega) (by simp; omega)]
          simp [bareR]
        · omega
/-- Right rules come back from their text. -/
theorem turns_plain {l : List Ru} (hw : (wrongR l).1 = 0) : ∃ us k, Lexed (rulesT l) us k ∧ ¬ k < (rulesT l).length ∧ rulesR (rulesT l).length (us.length + 1) [] us = .ok (l.map bareR) := by
  obtain ⟨w1, w2⟩ := wrongR_each hw
  obtain ⟨ts, g, hr⟩ := rules_back l w2
  obtain ⟨us, k, h1, h2, h3⟩ := goes_all g
  exact ⟨us, k, h1, h3, by rw [hr _ _ [] us h2 (by omega) (by simpa using w1)]; rfl⟩
end Go.Proofs.YteheahhifihmjaaGreatDoor
