/- What write comes to. -/
import Derived.Test.YtpcopkdcnabojacGreatDoorPy28
import Derived.Test.YtpcopkdcnabojacGreatDoorPy18
import Derived.Test.YtpcopkdcnabojacGreatDoorPy25
import Derived.Test.YtpcopkdcnabojacGreatDoorPy08
import Derived.Laws.AppendOwnNone
namespace Go.Proofs.YtpcopkdcnabojacGreatDoor
open Go.RowKit Lx
variable {B b : Nat}

theorem bare_any (e : Ex) (p : Option Addr) (c : Nat) (w : World) (l : List UInt8) (hks : e.kids = [] ∨ KidsW B b w (.slice p e.kids.length c) e.kids) (hok : OKE e) (hPT : PTb B w) (h : BSt B b l w) (hlen : l.length + (bareP e (kidT e.kids)).length ≤ 140737488355328) :
    Calls Tryz.prog 24 #[.pointer (some ⟨b, 0, none⟩), .agg #[.int .i64 e.kind, .int .i64 e.a, .int .i64 e.b, .string ⟨e.name.toArray⟩, .slice p e.kids.length c]] w (OutT B b l (bareP e (kidT e.kids)) w) := by
  obtain ⟨k1, k2, _⟩ := hok.kinds
  obtain ⟨kind, a, b1, name, kids⟩ := e
  dsimp only at *
  have hc : kind = 1 ∨ kind = 2 ∨ kind = 3 ∨ kind = 10 ∨ kind = 6 ∨ kind = 7 ∨ kind = 8 ∨ kind = 9 ∨ kind = 4 ∨ kind = 5 := by omega
  clear k1 k2
  rcases hc with rfl | rfl | rfl | rfl | rfl | rfl | rfl | rfl | rfl | rfl
  · exact bare_step_1 a b1 name kids p c w l hks hok hPT h hlen
  · exact bare_step_2 a b1 name kids p c w l hks hok hPT h hlen
  · exact bare_step_3 a b1 name kids p c w l hks hok hPT h hlen
  · exact bare_step_10 a b1 name kids p c w l hks hok hPT h hlen
  · exact bare_step_6 a b1 name kids p c w l hks hok hPT h hlen
  · exact bare_step_7 a b1 name kids p c w l hks hok hPT h hlen
  · exact bare_step_8 a b1 name kids p c w l hks hok hPT h hlen
  · exact bare_step_9 a b1 name kids p c w l hks hok hPT h hlen
  · exact bare_step_4 a b1 name kids p c w l hks hok hPT h hlen
  · exact bare_step_5 a b1 name kids p c w l hks hok hPT h hlen
set_option maxRecDepth 100000 in
set_option maxHeartbeats 4000000 in
theorem write_step (e : Ex) (p : Option Addr) (c : Nat) (w : World) (l : List UInt8) (least : Nat) (hks : e.kids = [] ∨ KidsW B b w (.slice p e.kids.length c) e.kids) (hok : OKE e) (hPT : PTb B w) (h : BSt B b l w) (_hl3 : least ≤ 3) (hlen : l.length + (textE e least).length ≤ 140737488355328) :
    Calls Tryz.prog 13 #[.pointer (some ⟨b, 0, none⟩), .agg #[.int .i64 e.kind, .int .i64 e.a, .int .i64 e.b, .string ⟨e.name.toArray⟩, .slice p e.kids.length c], .int .i64 (least : Int)] w (OutT B b l (textE e least) w) := by
  have hbA := (Below.refl w.heap.size w).alloc (Nat.le_refl _) (.cells #[.int .i64 e.kind, .int .i64 e.a, .int .i64 e.b, .string ⟨e.name.toArray⟩, .slice p e.kids.length c] 43)
  have hxA := heap_alloc_new w (.cells #[.int .i64 e.kind, .int .i64 e.a, .int .i64 e.b, .string ⟨e.name.toArray⟩, .slice p e.kids.length c] 43)
  have hsA := h.below hbA
  have hbA' := hbA.mono h.le
  have hkA : BK B b w _ := BK.of_below hbA h.le
  generalize hwA : w.alloc (.cells #[.int .i64 e.kind, .int .i64 e.a, .int .i64 e.b, .string ⟨e.name.toArray⟩, .slice p e.kids.length c] 43) = wA at *
  have z0 := (cell_of_row _ _ 0 _ _ _ hxA).trans rfl
  have cH := hold_any e.kind wA
  have kon : ∀ W, Below B w W → (e.kids = [] ∨ KidsW B b W (.slice p e.kids.length c) e.kids) := fun W hW => by
    rcases hks with q | q
    · exact .inl q
    · exact .inr (q.on hW)
  rw [textE_eq] at hlen ⊢
  have HBw := h.lt
  by_cases hh : holdP e.kind < least
  · rw [decide_eq_true hh] at hlen ⊢
    have e1 : brk true (bareP e (kidT e.kids)) = [40] ++ (bareP e (kidT e.kids) ++ [41]) := rfl
    rw [e1] at hlen ⊢
    have hg : ¬ (least : Int) ≤ (holdP e.kind : Int) := by omega
    have P1 := put_any [40] hsA (by simp at hlen ⊢; omega)
    have P2 := fun (w1 : World) (hw : Below B w w1) (hs : BSt B b (l ++ [40]) w1) => bare_any e p c w1 (l ++ [40]) (kon w1 hw) hok (hPT.on hw) hs (by simp at hlen ⊢; omega)
    have P3 := fun (w2 : World) (hs : BSt B b (l ++ [40] ++ bareP e (kidT e.kids)) w2) => put_any [41] hs (by simp at hlen ⊢; omega)
    clear hks hok hPT hlen e1 hh kon
    generalize bareP e (kidT e.kids) = X at *
    generalize holdP e.kind = H at *
    go_enter Tryz.func13, Tryz.ntmps13
    go_wp2_with fail
    refine cH.mono ?_
    rintro r w0 ⟨rfl, rfl⟩
    clear cH
    go_wp2_with fail
    refine P1.mono ?_
    rintro r w1 ⟨rfl, hs1, hk1⟩
    have hx1 := hk1.others _ _ hxA (by intro q; cases q; omega) (by intro cc fz q; cases q)
    have hkA1 := hkA.trans hk1
    have P2' := P2 w1 hkA1.below hs1
    clear P1 P2 hxA z0 hwA
    go_wp2_with (refine wpList_load_row rfl 43 _ rfl _ rfl _ _ _ _ hx1 exprType rfl (by kernel_rfl) ?_)
    refine P2'.mono ?_
    rintro r w2 ⟨rfl, hs2, hk2⟩
    have P3' := P3 w2 hs2
    clear P2' P3
    go_wp2_with fail
    refine P3'.mono ?_
    rintro r w3 ⟨rfl, hs3, hk3⟩
    clear P3'
    go_wp2_with fail
    go_end0
    exact ⟨rfl, by simpa using hs3, hkA1.trans (hk2.trans hk3)⟩
  · rw [decide_eq_false hh] at hlen ⊢
    have e1 : brk false (bareP e (kidT e.kids)) = bareP e (kidT e.kids) := rfl
    rw [e1] at hlen ⊢
    have hg : (least : Int) ≤ (holdP e.kind : Int) := by omega
    have P2 := bare_any e p c wA l (kon wA hbA') hok (hPT.on hbA') hsA hlen
    clear hks hok hPT hlen e1 hh kon
    generalize bareP e (kidT e.kids) = X at *
    generalize holdP e.kind = H at *
    go_enter Tryz.func13, Tryz.ntmps13
    go_wp2_with fail
    refine cH.mono ?_
    rintro r w0 ⟨rfl, rfl⟩
    clear cH
    go_wp2_with (refine wpList_load_row rfl 43 _ rfl _ rfl _ _ _ _ hxA exprType rfl (by kernel_rfl) ?_)
    refine P2.mono ?_
    rintro r w2 ⟨rfl, hs2, hk2⟩
    clear P2
    go_wp2_with fail
    go_end0
    exact ⟨rfl, hs2, hkA.trans hk2⟩
theorem write_all : ∀ (d : Nat) (e : Ex) (sl : Value) (w : World) (l : List UInt8) (least : Nat), KidsB (fun k => k < B) d w sl e.kids → OKE e → PTb B w → BSt B b l w → least ≤ 3 → l.length + (textE e least).length ≤ 140737488355328 →
    Calls Tryz.prog 13 #[.pointer (some ⟨b, 0, none⟩), exV e sl, .int .i64 (least : Int)] w (OutT B b l (textE e least) w) := by
  intro d
  induction d with
  | zero =>
    intro e sl w l least hk hok hPT h hl hlen
    obtain ⟨p, c, rfl⟩ := hk.form
    exact write_step e p c w l least (.inl hk.1) hok hPT h hl hlen
  | succ d ih =>
    intro e sl w l least hk hok hPT h hl hlen
    obtain ⟨p, c, hsl⟩ := hk.form
    subst hsl
    refine write_step e p c w l least ?_ hok hPT h hl hlen
    rcases hk with ⟨h', _⟩ | ⟨g, o, c', hg, hs, _, hkid⟩
    · exact .inl h'
    · refine .inr ⟨g, o, c', hs, hg, fun j k hj => ?_⟩
      obtain ⟨_, sk, c0, c1, c2, c3, c4, r⟩ := hkid j k hj
      obtain ⟨p', q', rfl⟩ := r.form
      exact ⟨p', q', c0, c1, c2, c3, c4, fun W l' least' hW hs' hl' hlen' => ih k _ W l' least' (r.kept fun g' hg' _ => hW.block g' hg') (hok.kid (List.mem_of_getElem? hj)) (hPT.on hW) hs' hl' hlen'⟩
end Go.Proofs.YtpcopkdcnabojacGreatDoor

/- The text of rules: plain; and what a function with a text and a fault hands back. -/
namespace Lx
open Go

def ruleT (u : Ru) : List UInt8 := [114, 117, 108, 101, 32] ++ u.1 ++ [32, 61, 32] ++ textE u.2 0 ++ [59, 10]
def rulesT : List Ru → List UInt8
  | [] => []
  | u :: l => ruleT u ++ rulesT l
theorem rulesT_snoc (l : List Ru) (u : Ru) : rulesT (l ++ [u]) = rulesT l ++ ruleT u := by
  induction l with
  | nil => simp [rulesT]
  | cons x l ih => simp [rulesT, ih]
theorem take_snoc {l : List Ru} {j : Nat} {u : Ru} (h : l[j]? = some u) : l.take (j + 1) = l.take j ++ [u] := by
  rw [List.take_add_one, h]; rfl
/-- A rule with which nothing is wrong. -/
def OKR (u : Ru) : Prop := Go.Proofs.YtpcopkdcnabojacGreatDoor.namedL u.1 = true ∧ OKE u.2
theorem okr_of {u : Ru} (h : ruleP u = 0) : OKR u := by
  unfold ruleP at h
  split at h
  · cases h
  · rename_i hn
    exact ⟨by simpa using hn, 1, 0, h⟩
theorem wrongL_all : ∀ {l : List Ru} {i : Nat}, (wrongL l i).1 = 0 → ∀ u ∈ l, OKR u
  | [], _, _, u, hu => by cases hu
  | x :: l, i, h, u, hu => by
    rw [wrongL] at h
    split at h
    · rename_i hx; exact absurd h hx
    · rename_i hx
      rcases List.mem_cons.1 hu with rfl | hu
      · exact okr_of (by simpa using hx)
      · exact wrongL_all h u hu
theorem wrongR_ok {l : List Ru} (h : (wrongR l).1 = 0) : l.length ≤ 40 ∧ ∀ u ∈ l, OKR u := by
  unfold wrongR at h
  split at h
  · cases h
  · exact ⟨by omega, wrongL_all h⟩
theorem ruleT_len {u : Ru} (h : OKR u) : (ruleT u).length ≤ 40000 := by
  have h1 := name_len h.1
  have h2 := h.2.len 0
  simp [ruleT]; omega
theorem rulesT_len : ∀ {l : List Ru}, (∀ u ∈ l, OKR u) → (rulesT l).length ≤ 40000 * l.length
  | [], _ => by simp [rulesT]
  | x :: l, h => by
    have h1 := ruleT_len (h x List.mem_cons_self)
    have h2 := rulesT_len (l := l) (fun u hu => h u (List.mem_cons_of_mem _ hu))
    simp [rulesT]; omega
/-- What Print tells: the text, the error and its place. -/
def printP (l : List Ru) : List UInt8 × Int × Nat :=
  if (wrongR l).1 ≠ 0 then ([], wrongR l) else if 6000 < (rulesT l).length then ([], 4, 0) else (rulesT l, 0, 0)
end Lx
namespace Go.Proofs.YtpcopkdcnabojacGreatDoor
open Go.RowKit Lx
theorem two_post {fn : Func} (hf : fn.results = #[ResultVar.tmp 2, ResultVar.cell 3 26]) {R : Ending → World → Prop} {a : Act} {w : World} (g : Nat) (v : Value) (er at_ : Int) (hd : a.defers = []) (h2 : a.tmps.getD 2 undef = v) (h3 : a.tmps.getD 3 undef = .pointer (some ⟨g, 0, none⟩))
    (hg : w.heap[g]? = some (.cells #[.int .i64 er, .int .i64 at_] 26 (0, 0))) (hR : R (.returned (.tuple #[v, .agg #[.int .i64 er, .int .i64 at_]])) w) : bodyPost Tryz.prog fn R .ret a w := by
  refine bodyPost_ret (v := .tuple #[v, .agg #[.int .i64 er, .int .i64 at_]]) ?_ hd hR
  have h2' : a.tmps[2]?.getD undef = v := by simpa using h2
  have h3' : a.tmps[3]?.getD undef = .pointer (some ⟨g, 0, none⟩) := by simpa using h3
  have hv := run_loadVar_row (P := Tryz.prog) w g 26 26 _ _ _ hg faultType rfl (by kernel_rfl)
  simp [results, hf, h2', h3', asAddr, hv]
/-- What Print comes to. -/
def OutP (l : List Ru) (w : World) (e : Ending) (w' : World) : Prop := e = .returned (.tuple #[.string ⟨(printP l).1.toArray⟩, .agg #[.int .i64 (printP l).2.1, .int .i64 ((printP l).2.2 : Int)]]) ∧ Below w.heap.size w w'
end Go.Proofs.YtpcopkdcnabojacGreatDoor

/- The text that alive asks of: its tokens, its rule and its text again: plain. -/
namespace Go.Proofs.YtpcopkdcnabojacGreatDoor
open Go.RowKit Lx

def alS : List UInt8 := [114, 117, 108, 101, 32, 97, 32, 61, 32, 119, 101, 101, 107, 108, 121, 32, 109, 111, 110, 44, 116, 117, 101, 58, 32, 40, 48, 57, 58, 48, 48, 45, 49, 50, 58, 48, 48, 32, 43, 32, 98, 41, 32, 115, 104, 105, 102, 116, 32, 45, 53, 59]
def alX : Ex := ⟨4, 3, 0, [], [⟨9, -5, 0, [], [⟨6, 0, 0, [], [⟨3, 540, 720, [], []⟩, ⟨10, 0, 0, [98], []⟩]⟩]⟩]⟩
def alT : List Tk := ((iterN alS 19).getD ([], 0)).1
theorem al_iter : iterN alS 19 = some (alT, 52) := by kernel_rfl
theorem al_lexed : Lexed alS alT 52 := ⟨19, al_iter⟩
theorem al_rules : rulesR alS.length (alT.length + 1) [] alT = .ok [([97], alX)] := by kernel_rfl
theorem al_shape : (shapeP alX 1 0).1 = 0 := by
  simp only [alX, shapeP_eq, shapeL_cons, shapeL_nil]
  decide
theorem al_wrong : wrongR [([97], alX)] = (0, 0) := by
  unfold wrongR wrongL ruleP
  rw [al_shape]
  decide
theorem al_text : textE alX 0 = [119, 101, 101, 107, 108, 121, 32, 109, 111, 110, 44, 116, 117, 101, 58, 32, 40, 48, 57, 58, 48, 48, 45, 49, 50, 58, 48, 48, 32, 43, 32, 98, 41, 32, 115, 104, 105, 102, 116, 32, 45, 53] := by
  have e3 : textE ⟨3, 540, 720, [], []⟩ 0 = [48, 57, 58, 48, 48, 45, 49, 50, 58, 48, 48] := by rw [textE_eq, bare_3 rfl]; decide
  have e10 : textE ⟨10, 0, 0, [98], []⟩ 1 = [98] := by rw [textE_eq, bare_10 rfl]; decide
  have e6 : textE ⟨6, 0, 0, [], [⟨3, 540, 720, [], []⟩, ⟨10, 0, 0, [98], []⟩]⟩ 3 = [40, 48, 57, 58, 48, 48, 45, 49, 50, 58, 48, 48, 32, 43, 32, 98, 41] := by
    rw [textE_eq, bare_6 rfl]
    dsimp only
    rw [kidT_at (k := ⟨3, 540, 720, [], []⟩) rfl, kidT_at (k := ⟨10, 0, 0, [98], []⟩) rfl, e3, e10]
    decide
  have e9 : textE ⟨9, -5, 0, [], [⟨6, 0, 0, [], [⟨3, 540, 720, [], []⟩, ⟨10, 0, 0, [98], []⟩]⟩]⟩ 2 = [40, 48, 57, 58, 48, 48, 45, 49, 50, 58, 48, 48, 32, 43, 32, 98, 41, 32, 115, 104, 105, 102, 116, 32, 45, 53] := by
    rw [textE_eq, bare_9 rfl]
    dsimp only
    rw [kidT_at (k := ⟨6, 0, 0, [], [⟨3, 540, 720, [], []⟩, ⟨10, 0, 0, [98], []⟩]⟩) rfl, e6]
    decide +kernel
  rw [alX, textE_eq, bare_4 rfl]
  dsimp only
  rw [kidT_at (k := ⟨9, -5, 0, [], [⟨6, 0, 0, [], [⟨3, 540, 720, [], []⟩, ⟨10, 0, 0, [98], []⟩]⟩]⟩) rfl, e9]
  decide +kernel
theorem al_print : printP [([97], alX)] = (alS ++ [10], 0, 0) := by
  have e : rulesT [([97], alX)] = alS ++ [10] := by
    rw [rulesT, rulesT, ruleT, al_text]; rfl
  unfold printP
  rw [al_wrong, if_neg (by decide), e, if_neg (by decide)]
end Go.Proofs.YtpcopkdcnabojacGreatDoor

/- What parse.Print comes to. -/
namespace Go.Proofs.YtpcopkdcnabojacGreatDoor
open Go.RowKit Lx

set_option maxRecDepth 100000 in
set_option maxHeartbeats 4000000 in
theorem print_any (us : List (Ru × Value)) (v : Value) (w : World) (h : InR w v us) (hPT : PTb w.heap.size w) : Calls Tryz.prog 7 #[v] w (OutP (us.map (fun p => p.1)) w) := by
  have hform : ∃ p c, v = .slice p us.length c := by
    rcases h.row with ⟨rfl, p, c, hv⟩ | ⟨g, o, c, hv, _⟩
    · exact ⟨p, c, hv⟩
    · exact ⟨_, c, hv⟩
  obtain ⟨p, c, rfl⟩ := hform
  have hb0 := (Below.refl w.heap.size w).alloc (Nat.le_refl _) (.cells #[.int .i64 0, .int .i64 0] 26)
  have hr0 := heap_alloc_new w (.cells #[.int .i64 0, .int .i64 0] 26)
  have cW := wrong_any us (.slice p us.length c) _ (h.below hb0)
  generalize hwF : w.alloc (.cells #[.int .i64 0, .int .i64 0] 26) = wF at *
  generalize hL : us.map (fun p => p.1) = L at *
  generalize hX : wrongR L = X at *
  go_enter Tryz.func7, Tryz.ntmps7
  go_wp2_with fail
  refine cW.mono ?_
  rintro r w1 ⟨rfl, hb1⟩
  have hb1w := hb0.trans (hb1.mono hb0.size)
  have hr1 := (hb1.block _ (lt_of_block hr0)).trans hr0
  have hbB := (Below.refl w1.heap.size w1).alloc (Nat.le_refl _) (.cells #[.int .i64 X.1, .int .i64 (X.2 : Int)] 26)
  have hb2w := hb1w.trans (hbB.mono hb1w.size)
  have hf2 := heap_alloc_new w1 (.cells #[.int .i64 X.1, .int .i64 (X.2 : Int)] 26)
  have hr2 := (hbB.block _ (lt_of_block hr1)).trans hr1
  have hIN2 := h.below hb2w
  have HIN : Hid (InR _ (.slice p us.length c) us) := hIN2
  clear cW hb1 hr1 h hr0 hb0 hwF hIN2 hbB
  generalize hW2 : w1.alloc (.cells #[.int .i64 X.1, .int .i64 (X.2 : Int)] 26) = w2 at *
  by_cases he : X.1 ≠ 0
  · have HP : Hid (printP L = ([], X)) := by
      show _ = _
      unfold printP
      rw [hX, if_pos he]
    have hne : (X.1 != 0) = true := by simpa using he
    have d0 := (cell_of_row _ _ 0 _ _ _ hf2).trans rfl
    have d1 := (cell_of_row _ _ 1 _ _ _ hf2).trans rfl
    have z0 := (cell_of_row _ _ 0 _ _ _ hr2).trans rfl
    have z1 := (cell_of_row _ _ 1 _ _ _ hr2).trans rfl
    have y0 := frozen_of_row _ _ 0 _ _ hr2
    have y1 := frozen_of_row _ _ 1 _ _ hr2
    have hmF : ((w2.setCell ⟨w.heap.size, 0, none⟩ (.int .i64 X.1)).setCell ⟨w.heap.size, 1, none⟩ (.int .i64 (X.2 : Int))).heap[w.heap.size]? = some (.cells #[.int .i64 X.1, .int .i64 (X.2 : Int)] 26 (0, 0)) := heap_setCell_same _ _ 1 _ _ _ (heap_setCell_same _ _ 0 _ _ _ hr2)
    have hbS := (hb2w.setCell (p := ⟨w.heap.size, 0, none⟩) (Nat.le_refl _) (.int .i64 X.1)).setCell (p := ⟨w.heap.size, 1, none⟩) (Nat.le_refl _) (.int .i64 (X.2 : Int))
    clear he HIN hPT hX
    go_wp2_with fail
    go_region
    go_wp2_with fail
    refine two_post (by kernel_rfl) w.heap.size (.string ⟨#[]⟩) X.1 (X.2 : Int) rfl rfl rfl hmF ⟨?_, below_drewN hbS 1⟩
    rw [HP.out]
  · have he0 : X.1 = 0 := by simpa using he
    obtain ⟨h40, hok⟩ := wrongR_ok (l := L) (by rw [hX]; exact he0)
    have hLl : L.length = us.length := by rw [← hL, List.length_map]
    have HP : Hid (printP L = if 6000 < (rulesT L).length then ([], 4, 0) else (rulesT L, 0, 0)) := by
      show _ = _
      unfold printP
      rw [hX, if_neg he]
    obtain ⟨er, at_⟩ := X
    dsimp only at *
    subst he0
    have d0 := (cell_of_row _ _ 0 _ _ _ hf2).trans rfl
    have hbC := (Below.refl w2.heap.size w2).alloc (Nat.le_refl _) (.cells #[.pointer none, .slice none 0 0] 40)
    have hs3 : BSt w2.heap.size w2.heap.size [] (w2.alloc (.cells #[.pointer none, .slice none 0 0] 40)) := Lib.IsBuilderF.of (Lib.fresh_isBuilder _ _ w2)
    have hPT2 : PTb w2.heap.size w2 := fun w' hw => hPT w' (hb2w.trans (hw.mono hb2w.size))
    clear he hf2 hPT hX
    have hPT := hPT2
    clear hPT2
    go_wp2_with fail
    clear hW2 d0
    generalize hW3 : w2.alloc (.cells #[.pointer none, .slice none 0 0] 40) = w3 at *
    go_loopw [16] (fun t wr => ∃ j : Nat, t = .int .i64 (j : Int) ∧ j ≤ us.length ∧ BSt w2.heap.size w2.heap.size (rulesT (L.take j)) wr ∧ Below w2.heap.size w2 wr) (fun t _ => us.length - (intOf t).toNat)
    case atStart => exact ⟨0, rfl, by omega, hs3, hbC⟩
    case round =>
      obtain ⟨j, rfl, hj, hs, hbr⟩ := hrel
      have hj0 : (0 : Int) ≤ (j : Int) := by omega
      have hj4 : (j : Int) ≤ 40 := by omega
      by_cases hlt : j < us.length
      · have hlt' : (j : Int) < (us.length : Int) := by omega
        obtain ⟨⟨u, sk⟩, hjk⟩ : ∃ k, us[j]? = some k := ⟨us[j], List.getElem?_eq_getElem hlt⟩
        have hju : L[j]? = some u := by rw [← hL, List.getElem?_map, hjk]; rfl
        have hin := HIN.out.all _ (List.mem_of_getElem? hjk)
        obtain ⟨_, _, dd, hkk⟩ := hin
        obtain ⟨pk, ck, hsk⟩ := hkk.form
        dsimp only at hsk hkk
        subst hsk
        rcases HIN.out.row with ⟨hh, _⟩ | ⟨g, o, c', hsl, _, hcells⟩
        · rw [hh] at hlt; simp at hlt
        injection hsl with e1 e2 e3
        subst e1
        subst e3
        obtain ⟨d0, d1, d2, d3, d4, d5⟩ := hcells j _ hjk
        dsimp only at d0 d1 d2 d3 d4 d5
        have f0 := (hbr.cell (block_lt_of_cell d0)).trans d0
        have f1 := (hbr.cell (block_lt_of_cell d1)).trans d1
        have f2 := (hbr.cell (block_lt_of_cell d2)).trans d2
        have f3 := (hbr.cell (block_lt_of_cell d3)).trans d3
        have f4 := (hbr.cell (block_lt_of_cell d4)).trans d4
        have f5 := (hbr.cell (block_lt_of_cell d5)).trans d5
        have hur := hok u (List.mem_of_getElem? hju)
        have hnl := name_len hur.1
        have htl := hur.2.len 0
        have hSj : Hid (rulesT (L.take (j + 1)) = rulesT (L.take j) ++ ruleT u) := by show _ = _; rw [take_snoc hju, rulesT_snoc]
        have hjl : (rulesT (L.take j)).length ≤ 40000 * 40 := by
          have h1 := rulesT_len (l := L.take j) (fun x hx => hok x (List.mem_of_mem_take hx))
          have h2 : (L.take j).length ≤ 40 := by rw [List.length_take]; omega
          exact Nat.le_trans h1 (Nat.mul_le_mul_left _ h2)
        have hbB : Below wr.heap.size wr (wr.alloc (.cells #[.string ⟨u.1.toArray⟩, .int .i64 u.2.kind, .int .i64 u.2.a, .int .i64 u.2.b, .string ⟨u.2.name.toArray⟩, .slice pk u.2.kids.length ck] 45)) := (Below.refl _ _).alloc (Nat.le_refl _) _
        have hxB := heap_alloc_new wr (.cells #[.string ⟨u.1.toArray⟩, .int .i64 u.2.kind, .int .i64 u.2.a, .int .i64 u.2.b, .string ⟨u.2.name.toArray⟩, .slice pk u.2.kids.length ck] 45)
        have hsB := hs.below hbB
        have hkB : BK w2.heap.size w2.heap.size wr _ := BK.of_below hbB hs.le
        have P1 := put_any ([114, 117, 108, 101, 32] ++ u.1 ++ [32, 61, 32]) hsB (by simp; omega)
        have q1 : ¬ 9223372036854775807 < 5 + u.1.length := by omega
        have q2 : ¬ 9223372036854775807 < 5 + u.1.length + 3 := by omega
        clear d0 d1 d2 d3 d4 d5 hcells hjk hju hbB
        generalize hwB : wr.alloc (.cells #[.string ⟨u.1.toArray⟩, .int .i64 u.2.kind, .int .i64 u.2.a, .int .i64 u.2.b, .string ⟨u.2.name.toArray⟩, .slice pk u.2.kids.length ck] 45) = wB at *
        have x0 := (cell_of_row _ _ 0 _ _ _ hxB).trans rfl
        simp only [List.cons_append, List.nil_append] at P1
        go_wp2_with fail
        refine P1.mono ?_
        rintro r w4 ⟨rfl, hs4, hk4⟩
        have hx4 := hk4.others _ _ hxB (by intro q; have := Option.some.inj q; have := hs.lt; omega) (by intro cc fz q; cases q)
        have hkB4 := hkB.trans hk4
        have hb4 : Below w2.heap.size w2 w4 := hbr.trans hkB4.below
        have P2 := write_all (B := w2.heap.size) (b := w2.heap.size) dd u.2 (.slice pk u.2.kids.length ck) w4 _ 0 (hkk.kept fun k hk _ => hb4.block k hk) hur.2 (hPT.on hb4) hs4 (by omega) (by simp; omega)
        unfold exV at P2
        have x1 := (cell_of_row _ _ 1 _ _ _ hx4).trans rfl
        have x2 := (cell_of_row _ _ 2 _ _ _ hx4).trans rfl
        have x3 := (cell_of_row _ _ 3 _ _ _ hx4).trans rfl
        have x4 := (cell_of_row _ _ 4 _ _ _ hx4).trans rfl
        have x5 := (cell_of_row _ _ 5 _ _ _ hx4).trans rfl
        clear P1 hxB hx4 hsB hkB hk4 hwB x0 f0 f1 f2 f3 f4 f5 hkk
        go_wp2_with fail
        refine P2.mono ?_
        rintro r w5 ⟨rfl, hs5, hk5⟩
        have P3 := put_any [59, 10] hs5 (by simp; omega)
        clear P2 x1 x2 x3 x4 x5
        go_wp2_with fail
        refine P3.mono ?_
        rintro r w6 ⟨rfl, hs6, hk6⟩
        clear P3
        go_wp2_with fail
        go_roundw
        case rel => exact ⟨j + 1, by go_num, by omega, by rw [hSj.out]; simpa [ruleT] using hs6, hb4.trans (hk5.trans hk6).below⟩
        case measure => simp [intOf]; omega
      · have hlt' : ¬ (j : Int) < (us.length : Int) := by omega
        have hjL : L.take j = L := List.take_of_length_le (by omega)
        rw [hjL] at hs
        have cL := blen w2.heap.size w2.heap.size _ wr hs
        rw [Lib.byteCells_length] at cL
        have hrr := (hbr.block _ (lt_of_block hr2)).trans hr2
        have hbrw := hb2w.trans (hbr.mono hb2w.size)
        by_cases h6 : 6000 < (rulesT L).length
        · have h6' : (6000 : Int) < ((rulesT L).length : Int) := by omega
          have HQ : Hid (printP L = ([], 4, 0)) := by show _ = _; rw [HP.out, if_pos h6]
          clear HP h6 hs
          generalize (rulesT L).length = n6 at *
          go_wp2_with fail
          refine cL.mono ?_
          rintro r w7 ⟨rfl, rfl⟩
          clear cL
          go_wp2_with (refine wpList_store_row rfl 26 _ _ rfl _ _ rfl rfl _ _ hrr (by kernel_rfl) (by simp) (by simp [Value.oneCell']) ?_)
          refine two_post (by kernel_rfl) w.heap.size (.string ⟨#[]⟩) 4 0 rfl rfl rfl (setRow_heap _ _ _ _ _ _ hrr) ⟨?_, below_setRow hbrw (Nat.le_refl _) _⟩
          rw [HQ.out]
          rfl
        · have h6' : ¬ (6000 : Int) < ((rulesT L).length : Int) := by omega
          have HQ : Hid (printP L = (rulesT L, 0, 0)) := by show _ = _; rw [HP.out, if_neg h6]
          have cS := bstr w2.heap.size w2.heap.size (rulesT L) wr hs hs.le
          clear HP h6 hs
          generalize hR : rulesT L = R at *
          go_wp2_with fail
          refine cL.mono ?_
          rintro r w7 ⟨rfl, rfl⟩
          clear cL
          go_wp2_with fail
          refine cS.mono ?_
          rintro r w8 ⟨rfl, _, hb8, _⟩
          clear cS
          have hrq := (hb8.block _ (by have := hb2w.size; have := lt_of_block hr2; omega)).trans hrr
          have hbqw := hbrw.trans (hb8.mono hb2w.size)
          go_wp2_with (refine wpList_store_row rfl 26 _ _ rfl _ _ rfl rfl _ _ hrq (by kernel_rfl) (by simp) (by simp [Value.oneCell']) ?_)
          refine two_post (by kernel_rfl) w.heap.size (.string ⟨R.toArray⟩) 0 0 rfl rfl rfl (setRow_heap _ _ _ _ _ _ hrq) ⟨?_, below_setRow hbqw (Nat.le_refl _) _⟩
          rw [HQ.out]
          rfl
end Go.Proofs.YtpcopkdcnabojacGreatDoor

/- What the laws' own question of parse comes to: true. -/
namespace Go.Proofs.YtpcopkdcnabojacGreatDoor
open Go.RowKit Lx

/-- The names of a tree are not too long. -/
def NmOK : Nat → List Ex → Prop
  | 0, _ => True
  | d + 1, ks => ∀ (j : Nat) (k : Ex), ks[j]? = some k → k.name.length ≤ 9223372036854775807 ∧ NmOK d k.kids
theorem nm_nil : ∀ d, NmOK d []
  | 0 => trivial
  | d + 1 => fun j k h => by simp at h
theorem nm_cons {k : Ex} {ks : List Ex} (h1 : k.name.length ≤ 9223372036854775807) (h2 : ∀ d, NmOK d k.kids) (h3 : ∀ d, NmOK d ks) : ∀ d, NmOK d (k :: ks)
  | 0 => trivial
  | d + 1 => fun j q h => by
    cases j with
    | zero =>
      simp at h
      subst h
      exact ⟨h1, h2 d⟩
    | succ j => exact h3 (d + 1) j q (by simpa using h)
theorem kidsB_of_at {B : Nat → Prop} : ∀ {d : Nat} {w : World} {sl : Value} {ks : List Ex}, KidsAt B d w sl ks → NmOK d ks → KidsB (fun k => k < w.heap.size) d w sl ks
  | 0, _, _, _, h, _ => h
  | d + 1, w, sl, ks, h, hn => by
    rcases h with h | ⟨g, o, c, hB, hs, hl, hk⟩
    · exact .inl h
    · by_cases h0 : ks = []
      · subst h0
        exact .inl ⟨rfl, _, c, hs⟩
      · obtain ⟨k0, hk0⟩ : ∃ k, ks[0]? = some k := by
          cases ks with
          | nil => exact absurd rfl h0
          | cons x l => exact ⟨x, rfl⟩
        obtain ⟨_, q0, _⟩ := hk 0 k0 hk0
        refine .inr ⟨g, o, c, block_lt_of_cell q0, hs, hl, fun j k hj => ?_⟩
        obtain ⟨sk, c0, c1, c2, c3, c4, r⟩ := hk j k hj
        obtain ⟨n1, n2⟩ := hn j k hj
        exact ⟨n1, sk, c0, c1, c2, c3, c4, kidsB_of_at r n2⟩
/-- Rules that were made, as rules that come in. -/
theorem inR_of_row {w0 w : World} {v : Value} {us : List (Ru × Value)} (h : RowR w0 w v us) (hl : us.length ≤ 40) (hn : ∀ p ∈ us, p.1.1.length ≤ 9223372036854775807 ∧ p.1.2.name.length ≤ 9223372036854775807 ∧ ∀ d, NmOK d p.1.2.kids) : InR w v us := by
  refine ⟨rrow_of_owns h.own (by omega), by omega, fun p hp => ?_⟩
  obtain ⟨d, hd⟩ := h.kids p hp
  obtain ⟨n1, n2, n3⟩ := hn p hp
  exact ⟨n1, n2, d, kidsB_of_at hd (n3 d)⟩
theorem al_names : ∀ d, NmOK d alX.kids :=
  nm_cons (by decide) (nm_cons (by decide) (nm_cons (by decide) nm_nil (nm_cons (by decide) nm_nil nm_nil)) nm_nil) nm_nil
/-- What Parse tells of the text. -/
theorem al_tells {w0 w : World} {v : Value} {er at_ : Int} (h : PTells alS w0 w v er at_) : er = 0 ∧ ∃ sl, RowR w0 w v [(([97], alX), sl)] := by
  have hk : ¬ (52 < alS.length ∧ (firstT (alS.drop 52)).err = 0) := fun h => absurd h.1 (by decide)
  rcases h with ⟨h, _⟩ | ⟨ts, k, _, h2, h3, h4, _⟩ | ⟨ts, k, er', at', _, h2, h3, h4, _⟩ | ⟨ts, k, us, _, h2, h3, h4, _, h6, h7, _⟩
  · exact absurd h (by decide)
  · obtain ⟨_, e⟩ := lexed_one al_lexed h2 hk (fun h => h4 h.2)
    subst e
    exact absurd h3 (by decide)
  · obtain ⟨e, _⟩ := lexed_one al_lexed h2 hk (fun h => h3 h.1)
    subst e
    rw [al_rules] at h4; cases h4
  · obtain ⟨e, _⟩ := lexed_one al_lexed h2 hk (fun h => h3 h.1)
    subst e
    rw [al_rules] at h4
    have e2 := Except.ok.inj h4
    match us, e2 with
    | [(u, sl)], e2 =>
      simp at e2
      subst e2
      exact ⟨h7, sl, h6⟩
set_option maxRecDepth 100000 in
set_option maxHeartbeats 2000000 in
theorem alive4_any (w : World) (hPT : PTb w.heap.size w) : Calls Tryz.prog 6 #[] w fun e w' => e = .returned (.bool true) ∧ Below w.heap.size w w' := by
  have hp0 := hPT w (Below.refl _ _)
  have c1 := parse_any ⟨alS.toArray⟩ alS (by simp) (by decide) w hp0.1 hp0.2.1
  unfold alS at c1
  go_enter Tryz.func6, Tryz.ntmps6
  go_wp2_with fail
  refine c1.mono ?_
  rintro e w1 ⟨⟨v, er, at_, rfl, hx⟩, hb1⟩
  obtain ⟨rfl, sl, hr⟩ := al_tells hx
  have hin := inR_of_row hr (by simp) (fun p hp => by
    simp at hp
    subst hp
    exact ⟨by show ([97] : List UInt8).length ≤ _; decide, by show alX.name.length ≤ _; decide, al_names⟩)
  have hform := row_form hr.own
  obtain ⟨pv, cv, rfl⟩ := hform
  have hb1a := hb1.alloc hb1.size (.cells #[.int .i64 0, .int .i64 at_] 26)
  have hf1 := heap_alloc_new w1 (.cells #[.int .i64 0, .int .i64 at_] 26)
  have b1 := (Below.refl _ w1).alloc (Nat.le_refl _) (.cells #[.int .i64 0, .int .i64 at_] 26)
  have d2 := print_any _ _ _ (hin.below b1) (fun w' hw => hPT w' (hb1a.trans (hw.mono hb1a.size)))
  unfold OutP at d2
  simp only [List.map_cons, List.map_nil, al_print] at d2
  unfold alS at d2
  clear c1 hx hr hin hPT hp0 b1
  go_wp2_with fail
  refine d2.mono ?_
  rintro e w2 ⟨rfl, hb2⟩
  have hb2a := hb1a.trans (hb2.mono hb1a.size)
  have hb2b := hb2a.alloc hb2a.size (.cells #[.int .i64 0, .int .i64 0] 26)
  have hf2 := (hb2.block _ (lt_of_block hf1)).trans hf1
  have hlt2 := lt_of_block hf2
  clear d2 hb2 hf1 hb1a hb2a hb1
  have a0 := (cell_of_row _ _ 0 _ _ _ hf2).trans rfl
  go_wp2_with fail
  go_ret
  exact ⟨rfl, hb2b⟩
end Go.Proofs.YtpcopkdcnabojacGreatDoor

/- An operation whose guard is met, as one without a guard; rows appended to a row. It speaks of no program. -/
namespace Go.Proofs.YtpcopkdcnabojacGreatDoor
open Go.RowKit

theorem wpList_free {P : Program} {w : World} {ops : Array Oper} {rest : List Oper} {o : Oper} {a : Act} {Q : Exit → Act → World → Prop} (hw : Region.wanted o (yielded ops a.tmps) = true) (h : wpList P ops Q ({ o with guard := none } :: rest) a w) : wpList P ops Q (o :: rest) a w := by
  have e : ({ o with guard := none } : Oper).wp P a w (wpList P ops Q rest) Q = o.wp P a w (wpList P ops Q rest) Q := by cases o; rfl
  have e2 : ({ o with guard := none } : Oper).asks P a w = o.asks P a w := by cases o; rfl
  rw [wpList] at h ⊢
  rw [if_pos hw]
  rw [if_pos (by rfl), e, e2] at h
  exact h
/-- A row appended to a row of the call's own, under a guard that is met. -/
theorem wpList_append_rows_g {P : Program} {w : World} {ops : Array Oper} {rest : List Oper} {o : Oper} {a : Act} {Q : Exit → Act → World → Prop} (hw : Region.wanted o (yielded ops a.tmps) = true) (s x : Operand) (t : TypeId)
    (ho : o.op = .call { callee := .builtin .append, args := #[s, x], argTypes := #[t, t] })
    (base base' : Nat) (e : TypeId) (i : TypeInfo) (z : Value) (size bytes : Nat) (ht : P.underlying t = some (.slice e)) (hi : P.info? e = some i) (hz : i.zero = some z)
    (hsize : i.size = size) (hby : i.bytes = bytes) (hzs : z.cells.size = size) (hsz : 0 < size)
    (v : Value) (n : Nat) (xs : List Value) (hs : a.eval s = v) (hown : w.ownsRow base e size v n xs)
    (vx : Value) (m : Nat) (news : List Value) (hx : a.eval x = vx) (hox : w.ownsRow base' e size vx m news) (h1 : ∀ u ∈ news, u.oneCell' = true)
    (h63 : n + m ≤ maxLen) (hbytes : (n + m) * bytes ≤ 140737488355328) (hbase : base ≤ w.heap.size)
    (h : ∀ v' w', w'.ownsRow base e size v' (n + m) (xs ++ news) → w.grownBy w' v.ownBlock → wpList P ops Q rest (a.put o.dst v') w') : wpList P ops Q (o :: rest) a w := by
  refine wpList_free hw ?_
  have hox' := hox
  obtain ⟨hl, h2⟩ := hox
  rcases h2 with ⟨rfl, rfl⟩ | ⟨g, cap, cur, rfl, hb, hh, r1, r2, r3, r4⟩
  · have e0 : news = [] := List.length_eq_zero_iff.1 (by omega)
    subst e0
    refine wpList_append_own_none rfl s x t ho base e i size ht hi v n xs hs hown hx (h v w (by rw [List.append_nil]; exact hown) ⟨rfl, rfl, rfl, Nat.le_refl _, fun _ _ _ => rfl⟩)
  · refine wpList_append_own w rfl s x t ho base e i z size bytes ht hi hz hsize hby hzs hsz v n xs hs hown ⟨g, 0, none⟩ m cap news hx hl (hox'.cells rfl) h1 h63 hbytes hbase fun v' w' h2 h3 _ => h v' w' h2 h3
end Go.Proofs.YtpcopkdcnabojacGreatDoor
