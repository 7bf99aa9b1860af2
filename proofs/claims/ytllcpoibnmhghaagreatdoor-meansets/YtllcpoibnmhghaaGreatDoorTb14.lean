/- What parse.Parse comes to. -/
import Derived.Test.YtllcpoibnmhghaaGreatDoorTb13
import Derived.Test.YtllcpoibnmhghaaGreatDoorTb02
import Derived.Test.YtllcpoibnmhghaaGreatDoorTb06
import Derived.Test.YtllcpoibnmhghaaGreatDoorTb09
import Derived.Deep.QuietTactic
import Derived.BigQuiet
namespace Go.Proofs.YtllcpoibnmhghaaGreatDoor
open Go.RowKit Lx

theorem valL_six (l : List UInt8) (h : ∀ i, i < l.length → isD (l.getD i 0) = true) (h6 : l.length ≤ 6) : 0 ≤ valL l ∧ valL l ≤ 999999 := by
  have b := valL_small l h l.length (Nat.le_refl _) h6
  rw [List.take_length] at b
  omega
theorem run_digits (l : List UInt8) : ∀ i, i < (l.take (runOf isD l)).length → isD ((l.take (runOf isD l)).getD i 0) = true := by
  intro i hi
  have hle := runOf_le isD l
  rw [List.length_take, Nat.min_eq_left hle] at hi
  have := runOf_all isD l i hi
  rw [List.getD_eq_getElem?_getD] at this ⊢
  rw [List.getElem?_take, if_pos hi]
  exact this
/-- A token's number is small. -/
theorem first_num (l : List UInt8) (he : (firstT l).err = 0) : 0 ≤ (firstT l).n ∧ (firstT l).n ≤ 999999 := by
  unfold firstT at he ⊢
  split at he
  · rename_i hf
    rw [if_pos hf]
    unfold dateT at he ⊢
    split at he
    · rename_i h
      rw [if_pos h]
      unfold numE at h ⊢
      split at h
      · rename_i hv
        rw [if_pos hv]
        have := Cal.num_bd _ _ _ hv.1 hv.2
        show 0 ≤ Cal.num _ _ _ ∧ Cal.num _ _ _ ≤ 999999
        omega
      · simp at h
    · simp [bad] at he
  · rename_i hf
    rw [if_neg hf]
    split at he
    · rename_i hf2
      rw [if_pos hf2]
      have p1 := dig_part hf2 0 2 (by decide) (fun i hi => by match i, hi with | 0, _ => rfl | 1, _ => rfl)
      have p2 := dig_part hf2 3 2 (by decide) (fun i hi => by match i, hi with | 0, _ => rfl | 1, _ => rfl)
      have q1 := valL_six _ p1.2 (by omega)
      have q2 := valL_six _ p2.2 (by omega)
      unfold timeT at he ⊢
      split at he
      · simp [bad] at he
      · rename_i h
        rw [if_neg h]
        simp only
        omega
    · rename_i hf2
      rw [if_neg hf2]
      split at he
      · rename_i hd
        rw [if_pos hd]
        unfold numT at he ⊢
        split at he
        · simp [bad] at he
        · rename_i h
          rw [if_neg h]
          have hle := runOf_le isD l
          exact valL_six _ (run_digits l) (by rw [List.length_take, Nat.min_eq_left hle]; omega)
      · rename_i hd
        rw [if_neg hd]
        split at he
        · rename_i hL
          rw [if_pos hL]
          unfold wordT at he ⊢
          split at he
          · simp [bad] at he
          · rename_i h
            rw [if_neg h]; simp
        · rename_i hL
          rw [if_neg hL]
          unfold signT at he ⊢
          split at he
          · rename_i hp
            rw [if_pos hp]; simp
          · rename_i hp
            rw [if_neg hp]
            split at he
            · simp [bad] at he
            · rename_i h
              rw [if_neg h]; simp
theorem lexed_num {l : List UInt8} {ts : List Tk} {k : Nat} (h : Lexed l ts k) : ∀ p ∈ ts, 0 ≤ p.1.n ∧ p.1.n ≤ 999999 := by
  obtain ⟨n, hn⟩ := h
  refine Lexed.ind (M := fun ts _ => ∀ p ∈ ts, 0 ≤ p.1.n ∧ p.1.n ≤ 999999) (fun p hp => by cases hp) ?_ n hn
  intro ts k _ _ he ih p hp
  rcases List.mem_append.1 hp with h | h
  · exact ih p h
  · have e : p = (firstT (l.drop k), k) := by simpa using h
    rw [e]; exact first_num _ he
theorem RowR.later {w0 w1 w w' : World} {vr : Value} {us : List (Ru × Value)} (h : RowR w0 w vr us) (hk : ∀ k, w0.heap.size ≤ k → w'.heap[k]? = w.heap[k]?) (hb : w1.heap.size ≤ w0.heap.size) : RowR w1 w' vr us := by
  refine ⟨?_, fun p hp => ?_⟩
  · obtain ⟨h1, h2⟩ := h.own
    refine ⟨h1, ?_⟩
    rcases h2 with h2 | ⟨g, cap, cur, hv, hg, hh, r⟩
    · exact .inl h2
    · exact .inr ⟨g, cap, cur, hv, by omega, (hk g hg).trans hh, r⟩
  · obtain ⟨d, hd⟩ := h.kids p hp
    exact ⟨d, (hd.kept fun k hB _ => hk k hB).mono fun k hB => by omega⟩
theorem caught_other (p q : Nat) (er at_ : Int) (w : World) (k : Nat) (h1 : k ≠ p) (h2 : k ≠ q) : (caught p q er at_ w).heap[k]? = w.heap[k]? := by
  unfold caught
  rw [heap_setCell_other _ _ _ _ h2, heap_setCell_other _ _ _ _ h2, heap_setCell_other _ _ _ _ h1]
/-- What a text's rules are, or what is wrong, and where. -/
def PTells (l : List UInt8) (w0 w : World) (v : Value) (er at_ : Int) : Prop :=
  (6000 < l.length ∧ v = .slice none 0 0 ∧ er = 4 ∧ at_ = 0) ∨
  (∃ (ts : List Tk) (k : Nat), l.length ≤ 6000 ∧ Lexed l ts k ∧ k < l.length ∧ (firstT (l.drop k)).err ≠ 0 ∧ v = .slice none 0 0 ∧ er = (firstT (l.drop k)).err ∧ at_ = (k : Int)) ∨
  (∃ (ts : List Tk) (k : Nat) (er' : Int) (at' : Nat), l.length ≤ 6000 ∧ Lexed l ts k ∧ ¬ k < l.length ∧ rulesR l.length (ts.length + 1) [] ts = .error (er', at') ∧ v = .slice none 0 0 ∧ er = er' ∧ at_ = (at' : Int)) ∨
  (∃ (ts : List Tk) (k : Nat) (us : List (Ru × Value)), l.length ≤ 6000 ∧ Lexed l ts k ∧ ¬ k < l.length ∧ rulesR l.length (ts.length + 1) [] ts = .ok (us.map (fun p => p.1)) ∧ us.length ≤ 40 ∧ RowR w0 w v us ∧ er = 0 ∧ at_ = 0)

theorem parse_leaves {tmps : Array Value} {R : Ending → World → Prop} {w : World} (p q : Nat) (a : Option Addr) (b c : Nat) (er at_ : Int) (h2 : tmps.getD 2 undef = .pointer (some ⟨p, 0, none⟩)) (h3 : tmps.getD 3 undef = .pointer (some ⟨q, 0, none⟩))
    (hp : w.heap[p]? = some (.cells #[.slice a b c] 22 (0, 0))) (hq : w.heap[q]? = some (.cells #[.int .i64 er, .int .i64 at_] 43 (0, 0))) (hR : R (.returned (.tuple #[.slice a b c, .agg #[.int .i64 er, .int .i64 at_]])) w) : Leaves Tryz.prog Tryz.f30 tmps R [] .returning w := by
  refine ⟨.tuple #[.slice a b c, .agg #[.int .i64 er, .int .i64 at_]], ?_, hR⟩
  have h2' : tmps[2]?.getD undef = .pointer (some ⟨p, 0, none⟩) := by simpa using h2
  have h3' : tmps[3]?.getD undef = .pointer (some ⟨q, 0, none⟩) := by simpa using h3
  have kp : w.cell? ⟨p, 0, none⟩ = some (.slice a b c) := (cell_of_row _ _ 0 _ _ _ hp).trans rfl
  have kq0 : w.cell? ⟨q, 0, none⟩ = some (.int .i64 er) := (cell_of_row _ _ 0 _ _ _ hq).trans rfl
  have kq1 : w.cell? ⟨q, 1, none⟩ = some (.int .i64 at_) := (cell_of_row _ _ 1 _ _ _ hq).trans rfl
  simp [results, Tryz.results30, h2', h3', asAddr, kp, kq0, kq1, go_sem]
set_option maxRecDepth 100000 in
set_option maxHeartbeats 4000000 in
theorem parse_any (s : ByteArray) (l : List UInt8) (hs : s.data.toList = l) (hl : l.length ≤ 9223372036854775807) (w : World) (hT : CTab w) (hD : DTab w) :
    Calls Tryz.prog 30 #[.string s] w fun e w' => (∃ v er at_, e = .returned (.tuple #[v, .agg #[.int .i64 er, .int .i64 at_]]) ∧ PTells l w w' v er at_) ∧ Below w.heap.size w w' := by
  have hz : s.size = l.length := by rw [← hs, Lib.size_eq]
  have hmf : ∀ (fn : Fn) (first cap : Array Value) (w : World), (Instr.makeFunc fn first cap).run Tryz.prog w = .ok (.func fn first cap) w := fun _ _ _ _ => rfl
  have hbA := (Below.refl w.heap.size w).alloc (Nat.le_refl _) (.cells #[.slice none 0 0] 22)
  have hbB := hbA.alloc hbA.size (.cells #[.int .i64 0, .int .i64 0] 43)
  have hp2 := (Below.heap_alloc _ (.cells #[.int .i64 0, .int .i64 0] 43) _ (lt_of_block (heap_alloc_new w (.cells #[.slice none 0 0] 22)))).trans (heap_alloc_new w (.cells #[.slice none 0 0] 22))
  have hp3 := heap_alloc_new (w.alloc (.cells #[.slice none 0 0] 22)) (.cells #[.int .i64 0, .int .i64 0] 43)
  rw [show (w.alloc (.cells #[.slice none 0 0] 22)).heap.size = w.heap.size + 1 by simp] at hp3
  have hszB : ((w.alloc (.cells #[.slice none 0 0] 22)).alloc (.cells #[.int .i64 0, .int .i64 0] 43)).heap.size = w.heap.size + 2 := by simp
  generalize hwB : (w.alloc (.cells #[.slice none 0 0] 22)).alloc (.cells #[.int .i64 0, .int .i64 0] 43) = wB at *
  have cX := lex_any s l hs hl wB (hT.below hbB)
  go_enter_defers Tryz.func30, Tryz.ntmps30
  go_wp2_with fail
  refine cX.mono ?_
  rintro e w1 ⟨⟨v, er, at_, rfl, hx⟩, hb1⟩
  have hq2 := (hb1.block _ (lt_of_block hp2)).trans hp2
  have hq3 := (hb1.block _ (lt_of_block hp3)).trans hp3
  have hb1w := hbB.trans (hb1.mono hbB.size)
  have hsz1 := hb1.size
  clear hp2 hp3 cX hwB
  have hr3 := setRow_heap w1 (w.heap.size + 1) _ #[.int .i64 er, .int .i64 at_] _ _ hq3
  have hr2 := (setRow_other w1 (w.heap.size + 1) w.heap.size #[.int .i64 er, .int .i64 at_] (by omega)).trans hq2
  have hbr : Below w.heap.size w (w1.setRow (w.heap.size + 1) #[.int .i64 er, .int .i64 at_]) := below_setRow hb1w (by omega) _
  have d0 : (w1.setRow (w.heap.size + 1) #[.int .i64 er, .int .i64 at_]).cell? ⟨w.heap.size + 1, 0, none⟩ = some (.int .i64 er) := (cell_of_row _ _ 0 _ _ _ hr3).trans rfl
  by_cases he : er = 0
  · subst he
    obtain ⟨ts, k, h6, hL, hk, ho⟩ : ∃ (ts : List Tk) (k : Nat), l.length ≤ 6000 ∧ Lexed l ts k ∧ ¬ k < l.length ∧ w1.ownsRow wB.heap.size 101 4 v ts.length (flatT ts) := by
      rcases hx with ⟨_, _, h, _⟩ | ⟨ts, k, _, _, _, he, _, h, _⟩ | ⟨ts, k, h1, h2, h3, h4, _⟩
      · cases h
      · exact absurd h.symm he
      · exact ⟨ts, k, h1, h2, h3, h4⟩
    have hle := hL.le
    have hnum := lexed_num hL
    have hown : ∀ b, v.ownBlock = some b → b < w1.heap.size ∧ wB.heap.size ≤ b := fun b hb => ⟨(ho.lt b hb).2, (ho.lt b hb).1⟩
    have hrow1 : TRow w1 v ts := trow_of_owns ho (by omega)
    have hsr : (w1.setRow (w.heap.size + 1) #[.int .i64 0, .int .i64 at_]).heap.size = w1.heap.size := by simp [World.setRow]
    have hrow2 : TRow (w1.setRow (w.heap.size + 1) #[.int .i64 0, .int .i64 at_]) v ts := by
      rcases hrow1 with h | ⟨gt, o, c, hv, hl', hc⟩
      · exact .inl h
      · refine .inr ⟨gt, o, c, hv, hl', fun j t k hj => ?_⟩
        obtain ⟨c1, c2, c3, c4⟩ := hc j t k hj
        have hne : gt ≠ w.heap.size + 1 := by
          have := (hown gt (by rw [hv]; rfl)).2
          omega
        have e : (w1.setRow (w.heap.size + 1) #[.int .i64 0, .int .i64 at_]).heap[gt]? = w1.heap[gt]? := setRow_other _ _ _ _ hne
        have ce : ∀ i, (w1.setRow (w.heap.size + 1) #[.int .i64 0, .int .i64 at_]).cell? ⟨gt, i, none⟩ = w1.cell? ⟨gt, i, none⟩ := fun i => World.cell?_of_block e
        exact ⟨(ce _).trans c1, (ce _).trans c2, (ce _).trans c3, (ce _).trans c4⟩
    have hDr : DTab (w1.setRow (w.heap.size + 1) #[.int .i64 0, .int .i64 at_]) := fun j hj => (hbr.cell (block_lt_of_cell (hD j hj))).trans (hD j hj)
    have hgd := block_lt_of_cell (hD 0 (by omega))
    obtain ⟨pv, cv, rfl⟩ := hrow1.form
    clear hx ho hrow1 hT
    generalize hWr : w1.setRow (w.heap.size + 1) #[.int .i64 0, .int .i64 at_] = Wr at *
    have hb4 : Below Wr.heap.size Wr (Wr.alloc (.cells #[.slice pv ts.length cv, .int .i64 0, .int .i64 (l.length : Int), .int .i64 0] 88)) := (Below.refl _ _).alloc (Nat.le_refl _) _
    have h0 : PS0 ts l.length Wr.heap.size (.slice pv ts.length cv) := ⟨by omega, h6, fun e => by have := (hown _ e).1; omega, hnum, by show 2 ≠ Wr.heap.size; have : 2 < w.heap.size := hgd; omega⟩
    have hst : PSt ts l.length Wr.heap.size (.slice pv ts.length cv) (Wr.alloc (.cells #[.slice pv ts.length cv, .int .i64 0, .int .i64 (l.length : Int), .int .i64 0] 88)) 0 0 :=
      ⟨heap_alloc_new Wr _, (Kept.of_below (g := Wr.heap.size + 1) hb4).row (fun e => by have := (hown _ e).1; omega) hrow2, by omega, (Kept.of_below (g := Wr.heap.size + 1) hb4).days (by show 2 ≠ Wr.heap.size + 1; have : 2 < w.heap.size := hgd; omega) hDr⟩
    have c4 := rules_any h0 hst
    rw [List.drop_zero] at c4
    have hp4 := (hb4.block _ (lt_of_block hr2)).trans hr2
    have hq4 := (hb4.block _ (lt_of_block hr3)).trans hr3
    have hbw4 := hbr.trans (hb4.mono hbr.size)
    have hs4 : (Wr.alloc (.cells #[.slice pv ts.length cv, .int .i64 0, .int .i64 (l.length : Int), .int .i64 0] 88)).heap.size = Wr.heap.size + 1 := by simp
    have hlz : w.heap.size + 1 < Wr.heap.size := lt_of_block hr3
    clear hb4 hst hDr hrow2 hown hnum
    have hsr' := hsr.symm
    clear hsr
    go_wp2_with (refine wpList_store_row rfl 43 _ _ rfl _ _ rfl rfl _ _ hq3 (by kernel_rfl) (by simp) (by simp [Value.oneCell']) ?_)
    refine c4.mono ?_
    intro e w5 ho
    cases hx : rulesR l.length (ts.length + 1) [] ts with
    | error q =>
      obtain ⟨er, at'⟩ := q
      rw [hx] at ho
      obtain ⟨rfl, hk5⟩ := ho
      have hp5 := hk5.at hp4 (by omega)
      have hq5 := hk5.at hq4 (by omega)
      have hq0 : (caught w.heap.size (w.heap.size + 1) er (at' : Int) w5).heap[w.heap.size]? = some (.cells #[.slice none 0 0] 22 (0, 0)) :=
        (heap_setCell_other _ _ _ _ (by show w.heap.size ≠ w.heap.size + 1; omega)).trans ((heap_setCell_other _ _ _ _ (by show w.heap.size ≠ w.heap.size + 1; omega)).trans (heap_setCell_same _ _ 0 _ _ _ hp5))
      have hq1 : (caught w.heap.size (w.heap.size + 1) er (at' : Int) w5).heap[w.heap.size + 1]? = some (.cells #[.int .i64 er, .int .i64 (at' : Int)] 43 (0, 0)) :=
        heap_setCell_same _ _ 1 _ _ _ (heap_setCell_same _ _ 0 _ _ _ ((heap_setCell_other _ _ _ _ (by show w.heap.size + 1 ≠ w.heap.size; omega)).trans hq5))
      have hbf : Below w.heap.size w (caught w.heap.size (w.heap.size + 1) er (at' : Int) w5) := by
        have hs5 := hk5.size
        refine ⟨hk5.os.trans hbw4.os, hk5.tape.trans hbw4.tape, hk5.output.trans hbw4.output, ?_, fun k hk => ?_⟩
        · have := hbw4.size
          simp [caught]; omega
        · rw [caught_other _ _ _ _ _ _ (by omega) (by omega), hk5.block k (by omega) (fun e => by have := Option.some.inj e; omega)]
          exact hbw4.block k hk
      show bodyPostD _ _ _ (Exit.panic _) _ _
      simp only [bodyPostD]
      refine leaves_cons (f := 43) (args := #[.pointer (some ⟨w.heap.size, 0, none⟩), .pointer (some ⟨w.heap.size + 1, 0, none⟩)]) (by simp) (by simp [go_sem]) ?_
      refine (catch_thrown w.heap.size (w.heap.size + 1) (by omega) _ _ _ er (at' : Int) w5 hp5 hq5).mono ?_
      rintro e u' w6 ⟨rfl, rfl, k, rfl⟩
      show Leaves _ _ _ _ [] (settle _) _
      simp only [settle, List.dropWhile_nil]
      exact parse_leaves w.heap.size (w.heap.size + 1) none 0 0 er (at' : Int) rfl rfl hq0 hq1 ⟨⟨_, _, _, rfl, .inr (.inr (.inl ⟨ts, _, er, at', h6, hL, hk, hx, rfl, rfl, rfl⟩))⟩, below_drewN hbf k⟩
    | ok rs =>
      rw [hx] at ho
      obtain ⟨vr, us, rfl, hus, hrow, hu40, hk5⟩ := ho
      have hp5 := hk5.at hp4 (by omega)
      have hq5 := hk5.at hq4 (by omega)
      obtain ⟨pr, cr, rfl⟩ := row_form hrow.own
      have kp := (cell_of_row _ _ 0 _ _ _ hp5).trans rfl
      have yp := frozen_of_row _ _ 0 _ _ hp5
      have hp6 : (w5.setCell ⟨w.heap.size, 0, none⟩ (.slice pr us.length cr)).heap[w.heap.size]? = some (.cells #[.slice pr us.length cr] 22 (0, 0)) := heap_setCell_same _ _ 0 _ _ _ hp5
      have hq6 := (heap_setCell_other w5 ⟨w.heap.size, 0, none⟩ (w.heap.size + 1) (.slice pr us.length cr) (by show w.heap.size + 1 ≠ w.heap.size; omega)).trans hq5
      have hp7 := (setRow_other (w5.setCell ⟨w.heap.size, 0, none⟩ (.slice pr us.length cr)) (w.heap.size + 1) w.heap.size #[.int .i64 0, .int .i64 0] (by omega)).trans hp6
      have hq7 := setRow_heap (w5.setCell ⟨w.heap.size, 0, none⟩ (.slice pr us.length cr)) (w.heap.size + 1) _ #[.int .i64 0, .int .i64 0] _ _ hq6
      have hoth : ∀ k, k ≠ w.heap.size → k ≠ w.heap.size + 1 → ((w5.setCell ⟨w.heap.size, 0, none⟩ (.slice pr us.length cr)).setRow (w.heap.size + 1) #[.int .i64 0, .int .i64 0]).heap[k]? = w5.heap[k]? := fun k h1 h2 => (setRow_other _ _ _ _ h2).trans (heap_setCell_other _ _ _ _ h1)
      have hbf : Below w.heap.size w ((w5.setCell ⟨w.heap.size, 0, none⟩ (.slice pr us.length cr)).setRow (w.heap.size + 1) #[.int .i64 0, .int .i64 0]) := by
        have hs5 := hk5.size
        refine ⟨hk5.os.trans hbw4.os, hk5.tape.trans hbw4.tape, hk5.output.trans hbw4.output, ?_, fun k hk => ?_⟩
        · have := hbw4.size
          simp [World.setRow]; omega
        · rw [hoth _ (by omega) (by omega), hk5.block k (by omega) (fun e => by have := Option.some.inj e; omega)]
          exact hbw4.block k hk
      have hrowF := hrow.later (w1 := w) (w' := (w5.setCell ⟨w.heap.size, 0, none⟩ (.slice pr us.length cr)).setRow (w.heap.size + 1) #[.int .i64 0, .int .i64 0]) (fun k hk => hoth k (by omega) (by omega)) hbw4.size
      have HP : Hid (PTells l w ((w5.setCell ⟨w.heap.size, 0, none⟩ (.slice pr us.length cr)).setRow (w.heap.size + 1) #[.int .i64 0, .int .i64 0]) (.slice pr us.length cr) 0 0) := .inr (.inr (.inr ⟨ts, k, us, h6, hL, hk, by rw [hx, hus], hu40, hrowF, rfl, rfl⟩))
      clear hrow hrowF c4 hx hus hoth hk5 hL hp4 hq4 hr2 hr3
      go_wp2_with (refine wpList_store_row rfl 43 _ _ rfl _ _ rfl rfl _ _ hq6 (by kernel_rfl) (by simp) (by simp [Value.oneCell']) ?_)
      simp only [bodyPostD]
      refine leaves_cons (f := 43) (args := #[.pointer (some ⟨w.heap.size, 0, none⟩), .pointer (some ⟨w.heap.size + 1, 0, none⟩)]) (by simp) (by simp [go_sem]) ?_
      refine (catch_idle _ _ _).mono ?_
      rintro e u' w6 ⟨rfl, rfl, rfl⟩
      show Leaves _ _ _ _ [] (settle _) _
      simp only [settle]
      exact parse_leaves w.heap.size (w.heap.size + 1) pr us.length cr 0 0 rfl rfl hp7 hq7 ⟨⟨_, _, _, rfl, HP.out⟩, hbf⟩
  · have hne : (er != 0) = true := by simpa using he
    have d1 : (w1.setRow (w.heap.size + 1) #[.int .i64 er, .int .i64 at_]).cell? ⟨w.heap.size + 1, 1, none⟩ = some (.int .i64 at_) := (cell_of_row _ _ 1 _ _ _ hr3).trans rfl
    have k0 : (w1.setRow (w.heap.size + 1) #[.int .i64 er, .int .i64 at_]).cell? ⟨w.heap.size, 0, none⟩ = some (.slice none 0 0) := (cell_of_row _ _ 0 _ _ _ hr2).trans rfl
    have y0 := frozen_of_row _ _ 0 _ _ hr2
    have y1 := frozen_of_row _ _ 0 _ _ hr3
    have y2 := frozen_of_row _ _ 1 _ _ hr3
    have HP : Hid (∀ W, PTells l w W (.slice none 0 0) er at_) := fun W => by
      rcases hx with ⟨h, _, h1, h2⟩ | ⟨ts, k, h6, hL, hk, he', _, h1, h2⟩ | ⟨ts, k, _, _, _, _, h1, _⟩
      · exact .inl ⟨h, rfl, h1, h2⟩
      · exact .inr (.inl ⟨ts, k, h6, hL, hk, he', rfl, h1, h2⟩)
      · exact absurd h1 he
    clear hx he
    generalize hWr : w1.setRow (w.heap.size + 1) #[.int .i64 er, .int .i64 at_] = Wr at *
    go_wp2_with (refine wpList_store_row rfl 43 _ _ rfl _ _ rfl rfl _ _ hq3 (by kernel_rfl) (by simp) (by simp [Value.oneCell']) ?_)
    go_region
    go_wp2_with fail
    have hf2 : (((Wr.setCell ⟨w.heap.size, 0, none⟩ (.slice none 0 0)).setCell ⟨w.heap.size + 1, 0, none⟩ (.int .i64 er)).setCell ⟨w.heap.size + 1, 1, none⟩ (.int .i64 at_)).heap[w.heap.size]? = some (.cells #[.slice none 0 0] 22 (0, 0)) :=
      (heap_setCell_other _ _ _ _ (by show w.heap.size ≠ w.heap.size + 1; omega)).trans ((heap_setCell_other _ _ _ _ (by show w.heap.size ≠ w.heap.size + 1; omega)).trans (heap_setCell_same _ _ 0 _ _ _ hr2))
    have hf3 : (((Wr.setCell ⟨w.heap.size, 0, none⟩ (.slice none 0 0)).setCell ⟨w.heap.size + 1, 0, none⟩ (.int .i64 er)).setCell ⟨w.heap.size + 1, 1, none⟩ (.int .i64 at_)).heap[w.heap.size + 1]? = some (.cells #[.int .i64 er, .int .i64 at_] 43 (0, 0)) :=
      heap_setCell_same _ _ 1 _ _ _ (heap_setCell_same _ _ 0 _ _ _ ((heap_setCell_other _ _ _ _ (by show w.heap.size + 1 ≠ w.heap.size; omega)).trans hr3))
    have hbf := ((hbr.setCell (p := ⟨w.heap.size, 0, none⟩) (Nat.le_refl _) (.slice none 0 0)).setCell (p := ⟨w.heap.size + 1, 0, none⟩) (by show w.heap.size ≤ w.heap.size + 1; omega) (.int .i64 er)).setCell (p := ⟨w.heap.size + 1, 1, none⟩) (by show w.heap.size ≤ w.heap.size + 1; omega) (.int .i64 at_)
    simp only [bodyPostD]
    exact parse_leaves w.heap.size (w.heap.size + 1) none 0 0 er at_ rfl rfl hf2 hf3 ⟨⟨_, _, _, rfl, HP.out _⟩, below_drewN hbf 1⟩
end Go.Proofs.YtllcpoibnmhghaaGreatDoor

/- What is wrong with tokens has a number that is not nought; and the rules of two texts, one behind the other. -/
namespace Lx

theorem then_err {x : Res} {f : Ex → List Tk → Nat → Res} {z : Int × Nat} (h : andThen x f = .error z) : x = .error z ∨ ∃ e r n, x = .ok (e, r, n) ∧ f e r n = .error z := by
  cases x with
  | error y => exact .inl h
  | ok y =>
    obtain ⟨e, r, n⟩ := y
    exact .inr ⟨e, r, n, rfl, h⟩
theorem fail_err {E : Nat} {k : Int} {r : List Tk} {z : Int × Nat} (hk : k ≠ 0) (h : failP E k r = .error z) : z.1 ≠ 0 := by
  unfold failP at h
  cases h
  exact hk
theorem ended_err {E : Nat} {e : Ex} {r : List Tk} {n : Nat} {z : Int × Nat} (h : endedP E e r n = .error z) : z.1 ≠ 0 := by
  unfold endedP at h
  split at h
  · cases h; simp
  · cases h
set_option maxHeartbeats 1000000 in
theorem goP_err (E : Nat) : ∀ (f m d : Nat) (e : Ex) (r : List Tk) (n : Nat) (z : Int × Nat), m ≤ 8 → need m r ≤ f → goP E f m d e r n = .error z → z.1 ≠ 0
  | 0, m, d, e, r, n, z, _, hn, _ => by
    unfold need rank at hn
    split at hn
    · omega
    · split at hn
      · omega
      · split at hn <;> omega
  | f + 1, m, d, e, r, n, z, hm, hn, h => by
    have ih := goP_err E f
    have hlen := fun (m d : Nat) (e : Ex) (r : List Tk) (n : Nat) (e' : Ex) (r' : List Tk) (n' : Nat) (hm : m ≤ 8) (h : goP E f m d e r n = .ok (e', r', n')) => goP_len E f m d e r n e' r' n' hm h
    have ht : r.tail.length = r.length - 1 := by simp
    match m, hm with
    | 0, _ =>
      rw [goP_0] at h
      rcases then_err h with h1 | ⟨e1, r1, n1, h1, h2⟩
      · exact ih 2 _ _ _ _ _ (by omega) (by simp [need, rank] at *; omega) h1
      · have := hlen 2 _ _ _ _ _ _ _ (by omega) h1
        exact ih 1 _ _ _ _ _ (by omega) (by simp [need, rank, eats] at *; omega) h2
    | 2, _ =>
      rw [goP_2] at h
      rcases then_err h with h1 | ⟨e1, r1, n1, h1, h2⟩
      · exact ih 4 _ _ _ _ _ (by omega) (by simp [need, rank] at *; omega) h1
      · have := hlen 4 _ _ _ _ _ _ _ (by omega) h1
        exact ih 3 _ _ _ _ _ (by omega) (by simp [need, rank, eats] at *; omega) h2
    | 4, _ =>
      rw [goP_4] at h
      rcases then_err h with h1 | ⟨e1, r1, n1, h1, h2⟩
      · exact ih 6 _ _ _ _ _ (by omega) (by simp [need, rank] at *; omega) h1
      · have := hlen 6 _ _ _ _ _ _ _ (by omega) h1
        exact ih 5 _ _ _ _ _ (by omega) (by simp [need, rank, eats] at *; omega) h2
    | 1, _ =>
      rw [goP_1] at h
      by_cases c1 : isT wPlus r = true
      · rw [if_pos c1] at h
        have hp := isT_pos (by decide) c1
        rcases then_err h with h1 | ⟨e1, r1, n1, h1, h2⟩
        · exact ih 2 _ _ _ _ _ (by omega) (by simp [need, rank] at *; omega) h1
        · have := hlen 2 _ _ _ _ _ _ _ (by omega) h1
          rcases then_err h2 with h3 | ⟨e2, r2, n2, h3, h4⟩
          · exact ended_err h3
          · cases endedP_ok h3
            exact ih 1 _ _ _ _ _ (by omega) (by simp [need, rank, eats] at *; omega) h4
      rw [if_neg c1] at h
      by_cases c2 : isT wMinus r = true
      · rw [if_pos c2] at h
        have hp := isT_pos (by decide) c2
        rcases then_err h with h1 | ⟨e1, r1, n1, h1, h2⟩
        · exact ih 2 _ _ _ _ _ (by omega) (by simp [need, rank] at *; omega) h1
        · have := hlen 2 _ _ _ _ _ _ _ (by omega) h1
          rcases then_err h2 with h3 | ⟨e2, r2, n2, h3, h4⟩
          · exact ended_err h3
          · cases endedP_ok h3
            exact ih 1 _ _ _ _ _ (by omega) (by simp [need, rank, eats] at *; omega) h4
      rw [if_neg c2] at h
      cases h
    | 3, _ =>
      rw [goP_3] at h
      by_cases c1 : isT wAnd r = true
      · rw [if_pos c1] at h
        have hp := isT_pos (by decide) c1
        rcases then_err h with h1 | ⟨e1, r1, n1, h1, h2⟩
        · exact ih 4 _ _ _ _ _ (by omega) (by simp [need, rank] at *; omega) h1
        · have := hlen 4 _ _ _ _ _ _ _ (by omega) h1
          rcases then_err h2 with h3 | ⟨e2, r2, n2, h3, h4⟩
          · exact ended_err h3
          · cases endedP_ok h3
            exact ih 3 _ _ _ _ _ (by omega) (by simp [need, rank, eats] at *; omega) h4
      rw [if_neg c1] at h
      cases h
    | 5, _ =>
      rw [goP_5] at h
      by_cases c1 : isT wShift r = true
      · rw [if_pos c1] at h
        have hp := isT_pos (by decide) c1
        have hs := shiftAt_len r
        split at h
        · exact fail_err (by decide) h
        split at h
        · exact fail_err (by decide) h
        rcases then_err h with h3 | ⟨e2, r2, n2, h3, h4⟩
        · exact ended_err h3
        · cases endedP_ok h3
          exact ih 5 _ _ _ _ _ (by omega) (by simp [need, rank] at *; omega) h4
      rw [if_neg c1] at h
      cases h
    | 8, _ =>
      rw [goP_8] at h
      by_cases c1 : isT wColon r = true
      · rw [if_pos c1] at h
        have hp := isT_pos (by decide) c1
        rcases then_err h with h1 | ⟨e1, r1, n1, h1, h2⟩
        · exact ih 4 _ _ _ _ _ (by omega) (by simp [need, rank] at *; omega) h1
        · exact ended_err h2
      · rw [if_neg c1] at h; exact fail_err (by decide) h
    | 7, _ =>
      rw [goP_7] at h
      by_cases c0 : dayBit (textP r) = 0
      · rw [if_pos c0] at h; exact fail_err (by decide) h
      rw [if_neg c0] at h
      have hp : 0 < r.length := dayBit_cons c0
      have ht2 : r.tail.tail.length = r.tail.length - 1 := by simp
      split at h
      · exact ih 7 _ _ _ _ _ (by omega) (by simp [need, rank] at *; omega) h
      · exact ih 8 _ _ _ _ _ (by omega) (by simp [need, rank] at *; omega) h
    | 6, _ =>
      rw [goP_6] at h
      by_cases c0 : 40 < d
      · rw [if_pos c0] at h; exact fail_err (by decide) h
      rw [if_neg c0] at h
      by_cases c1 : isT wOpen r = true
      · rw [if_pos c1] at h
        have hp := isT_pos (by decide) c1
        rcases then_err h with h1 | ⟨e1, r1, n1, h1, h2⟩
        · exact ih 0 _ _ _ _ _ (by omega) (by simp [need, rank] at *; omega) h1
        · split at h2
          · cases h2
          · exact fail_err (by decide) h2
      rw [if_neg c1] at h
      split at h
      · exact ended_err h
      split at h
      · exact ended_err h
      by_cases c5 : isT wWeekly r = true
      · rw [if_pos c5] at h
        have hp := isT_pos (by decide) c5
        exact ih 7 _ _ _ _ _ (by omega) (by simp [need, rank] at *; omega) h
      rw [if_neg c5] at h
      by_cases c6 : isT wDates r = true
      · rw [if_pos c6] at h
        have hp := isT_pos (by decide) c6
        split at h
        · exact fail_err (by decide) h
        split at h
        · split at h
          · exact fail_err (by decide) h
          split at h
          · exact fail_err (by decide) h
          exact ih 8 _ _ _ _ _ (by omega) (by simp [need, rank] at *; omega) h
        · exact ih 8 _ _ _ _ _ (by omega) (by simp [need, rank] at *; omega) h
      rw [if_neg c6] at h
      split at h
      · exact ended_err h
      split at h
      · exact fail_err (by decide) h
      split at h
      · split at h
        · exact fail_err (by decide) h
        split at h
        · exact fail_err (by decide) h
        exact ended_err h
      · exact fail_err (by decide) h
theorem rulesR_err {E : Nat} : ∀ (f : Nat) (acc : List Ru) (r : List Tk) (z : Int × Nat), rulesR E f acc r = .error z → z.1 ≠ 0
  | 0, _, _, _, h => by cases h
  | f + 1, acc, r, z, h => by
    rw [rulesR] at h
    split at h
    · cases h
    split at h
    · split at h
      · cases h; simp
      · cases hx : ruleR E r.tail with
        | ok y => rw [hx] at h; exact rulesR_err f _ _ z h
        | error y =>
          rw [hx] at h
          cases h
          unfold ruleR at hx
          split at hx
          · cases hx; simp
          split at hx
          · cases hy : rd E 0 1 ex0 r.tail.tail.tail 0 with
            | error x =>
              rw [hy] at hx
              cases hx
              exact goP_err E _ 0 1 _ _ _ _ (by omega) (Nat.le_refl _) hy
            | ok x =>
              rw [hy] at hx
              dsimp only at hx
              split at hx
              · cases hx; simp
              split at hx
              · cases hx
              · cases hx; simp
          · cases hx; simp
    · cases h; simp
end Lx
namespace Go.Proofs.YtllcpoibnmhghaaGreatDoor
open Go.RowKit Lx

/-- Where nothing is wrong. -/
theorem ptells_ok {l : List UInt8} {w0 w : World} {v : Value} {at_ : Int} (h : PTells l w0 w v 0 at_) :
    ∃ (ts : List Tk) (k : Nat) (us : List (Ru × Value)), l.length ≤ 6000 ∧ Lexed l ts k ∧ ¬ k < l.length ∧ rulesR l.length (ts.length + 1) [] ts = .ok (us.map (fun p => p.1)) ∧ us.length ≤ 40 ∧ RowR w0 w v us ∧ at_ = 0 := by
  rcases h with ⟨_, _, h, _⟩ | ⟨ts, k, _, _, _, he, _, h, _⟩ | ⟨ts, k, er', at', _, _, _, hr, _, h, _⟩ | ⟨ts, k, us, h1, h2, h3, h4, h5, h6, _, h7⟩
  · cases h
  · exact absurd h.symm he
  · exact absurd h.symm (rulesR_err _ _ _ _ hr)
  · exact ⟨ts, k, us, h1, h2, h3, h4, h5, h6, h7⟩
/-- Two texts with a line between them: both's rules. -/
theorem ptells_joined {x y : List UInt8} {w0 w w0' w' w0'' w'' : World} {v v' v'' : Value} {a1 a2 a3 er : Int} (hx : PTells x w0 w v 0 a1) (hy : PTells y w0' w' v' 0 a2) (hz : PTells (x ++ 10 :: y) w0'' w'' v'' er a3) (hl : x.length + y.length + 1 ≤ 6000)
    (h40 : ∀ us us' : List (Ru × Value), RowR w0 w v us → RowR w0' w' v' us' → us.length + us'.length ≤ 40) :
    er = 0 ∧ ∃ us us' us'' : List (Ru × Value), RowR w0 w v us ∧ RowR w0' w' v' us' ∧ RowR w0'' w'' v'' us'' ∧ us''.map (fun p => p.1) = us.map (fun p => p.1) ++ us'.map (fun p => p.1) := by
  obtain ⟨ts, k, us, x1, x2, x3, x4, _, x6, _⟩ := ptells_ok hx
  obtain ⟨ts', k', us', y1, y2, y3, y4, _, y6, _⟩ := ptells_ok hy
  have j1 := lexed_line y x2
  rw [if_neg x3] at j1
  have j2 := lexed_both j1 y2
  have hlen : (x ++ 10 :: y).length = x.length + y.length + 1 := by simp; omega
  have hq := rulesR_joined (E := (x ++ 10 :: y).length) (q := ts ++ onBy (x.length + 1) ts') (g := (ts ++ onBy (x.length + 1) ts').length + 1) x4 (by omega) y4 (by omega) (by simp [onBy]) (by simpa using h40 us us' x6 y6) (by omega)
  have hnk : ¬ (x.length + 1 + k') < (x ++ 10 :: y).length := by rw [hlen]; omega
  rcases hz with ⟨h, _⟩ | ⟨tz, kz, _, z2, z3, he, _, _, _⟩ | ⟨tz, kz, er', at', _, z2, z3, hr, _, _, _⟩ | ⟨tz, kz, uz, z1, z2, z3, z4, z5, z6, z7, _⟩
  · omega
  · obtain ⟨_, e2⟩ := lexed_one j2 z2 (fun h => hnk h.1) (fun h => he h.2)
    omega
  · obtain ⟨e1, _⟩ := lexed_one j2 z2 (fun h => hnk h.1) (fun h => z3 h.1)
    subst e1
    rw [hq] at hr; cases hr
  · obtain ⟨e1, _⟩ := lexed_one j2 z2 (fun h => hnk h.1) (fun h => z3 h.1)
    subst e1
    rw [hq] at z4
    exact ⟨z7, us, us', uz, x6, y6, z6, (Except.ok.inj z4).symm⟩
end Go.Proofs.YtllcpoibnmhghaaGreatDoor

/- What is wrong with an expression's form: plain. -/
namespace Lx

/-- How many kids a kind has. -/
def kidsP (k : Int) : Nat := if k = 4 ∨ k = 5 ∨ k = 9 then 1 else if k = 6 ∨ k = 7 ∨ k = 8 then 2 else 0
/-- Are the numbers as the kind asks? -/
def rangeP (k a b : Int) : Bool :=
  if k = 3 then decide (0 ≤ a ∧ a < b ∧ b ≤ 1440)
  else if k = 4 then decide (1 ≤ a ∧ a < 128)
  else if k = 5 then decide (0 ≤ a ∧ a ≤ b ∧ b < 146097)
  else if k = 9 then decide (a ≠ 0 ∧ -1440 < a ∧ a < 1440) else true
/-- What is wrong with an expression, whatever its kids are. -/
def aloneP (e : Ex) : Int :=
  if e.kind < 1 ∨ 10 < e.kind then 1 else if e.kids.length ≠ kidsP e.kind then 5 else if rangeP e.kind e.a e.b = false then 3 else if e.kind = 10 ∧ Go.Proofs.YtllcpoibnmhghaaGreatDoor.namedL e.name = false then 7 else 0
/-- What is wrong with an expression so deep, so many being counted; and how many are counted then. -/
def shapeP (e : Ex) (deep n : Nat) : Int × Nat :=
  if 600 < n + 1 ∨ 40 < deep then (4, n + 1)
  else if aloneP e ≠ 0 then (aloneP e, n + 1)
  else e.kids.attach.foldl (fun acc k => if acc.1 ≠ 0 then acc else shapeP k.1 (deep + 1) acc.2) (0, n + 1)
  termination_by sizeOf e
  decreasing_by exact kid_lt k.2
def shapeL (ks : List Ex) (deep : Nat) (acc : Int × Nat) : Int × Nat := ks.foldl (fun acc k => if acc.1 ≠ 0 then acc else shapeP k deep acc.2) acc
theorem shapeP_eq (e : Ex) (deep n : Nat) : shapeP e deep n = if 600 < n + 1 ∨ 40 < deep then (4, n + 1) else if aloneP e ≠ 0 then (aloneP e, n + 1) else shapeL e.kids (deep + 1) (0, n + 1) := by
  rw [shapeP]
  unfold shapeL
  rw [← List.foldl_attach (f := fun (acc : Int × Nat) k => if acc.1 ≠ 0 then acc else shapeP k (deep + 1) acc.2)]
theorem shapeL_nil (deep : Nat) (acc : Int × Nat) : shapeL [] deep acc = acc := rfl
theorem shapeL_cons (k : Ex) (ks : List Ex) (deep : Nat) (acc : Int × Nat) : shapeL (k :: ks) deep acc = shapeL ks deep (if acc.1 ≠ 0 then acc else shapeP k deep acc.2) := rfl
theorem shapeL_bad {ks : List Ex} {deep : Nat} {acc : Int × Nat} (h : acc.1 ≠ 0) : shapeL ks deep acc = acc := by
  induction ks with
  | nil => rfl
  | cons k ks ih => rw [shapeL_cons, if_pos h, ih]
/-- One kid more. -/
theorem shapeL_step {ks : List Ex} {deep j m : Nat} {k : Ex} (h : ks[j]? = some k) : shapeL (ks.drop j) deep (0, m) = shapeL (ks.drop (j + 1)) deep (shapeP k deep m) := by
  obtain ⟨h1, h2⟩ := List.getElem?_eq_some_iff.1 h
  rw [List.drop_eq_getElem_cons h1, h2, shapeL_cons, if_neg (by simp)]
theorem shape_le : ∀ (N : Nat) (e : Ex) (deep n : Nat), sizeOf e ≤ N → (shapeP e deep n).1 = 0 → (shapeP e deep n).2 ≤ 600
  | 0, e, _, _, hN, _ => by cases e; simp at hN
  | N + 1, e, deep, n, hN, h => by
    rw [shapeP_eq] at h ⊢
    split at h
    · cases h
    · rename_i h1
      rw [if_neg h1]
      split at h
      · rename_i h2; exact absurd h h2
      · rename_i h2
        rw [if_neg h2]
        have aux : ∀ (ks : List Ex), (∀ k ∈ ks, sizeOf k ≤ N) → ∀ acc : Int × Nat, acc.2 ≤ 600 → (shapeL ks (deep + 1) acc).1 = 0 → (shapeL ks (deep + 1) acc).2 ≤ 600 := by
          intro ks
          induction ks with
          | nil => intro _ acc ha _; exact ha
          | cons k ks ih =>
            intro hk acc ha h0
            rw [shapeL_cons] at h0 ⊢
            by_cases hb : acc.1 ≠ 0
            · rw [if_pos hb] at h0 ⊢
              exact ih (fun q hq => hk q (List.mem_cons_of_mem _ hq)) acc ha h0
            · rw [if_neg hb] at h0 ⊢
              refine ih (fun q hq => hk q (List.mem_cons_of_mem _ hq)) _ ?_ h0
              by_cases hz : (shapeP k (deep + 1) acc.2).1 = 0
              · exact shape_le N k (deep + 1) acc.2 (hk k List.mem_cons_self) hz
              · rw [shapeL_bad hz] at h0; exact absurd h0 hz
        exact aux e.kids (fun k hk => by have := kid_lt hk; omega) (0, n + 1) (by simp at h1 ⊢; omega) h
theorem shapeP_le {e : Ex} {deep n : Nat} (h : (shapeP e deep n).1 = 0) : (shapeP e deep n).2 ≤ 600 := shape_le _ e deep n (Nat.le_refl _) h
end Lx

/- What kidsOf, inRange and wrongAlone come to. -/
namespace Go.Proofs.YtllcpoibnmhghaaGreatDoor
open Go.RowKit Lx

theorem kidsOf_any (k : Int) (w : World) : Calls Tryz.prog 92 #[.int .i64 k] w fun e w' => e = .returned (.int .i64 (kidsP k : Int)) ∧ w' = w := by
  have walk : ∀ (b4 b5 b9 b6 b7 b8 : Bool), (k == 4) = b4 → (k == 5) = b5 → (k == 9) = b9 → (k == 6) = b6 → (k == 7) = b7 → (k == 8) = b8 →
      Calls Tryz.prog 92 #[.int .i64 k] w fun e w' => e = .returned (.int .i64 (if b4 || (b5 || b9) then 1 else if b6 || (b7 || b8) then 2 else 0)) ∧ w' = w := by
    intro b4 b5 b9 b6 b7 b8 h4 h5 h9 h6 h7 h8
    cases b4 <;> cases b5 <;> cases b9 <;> cases b6 <;> cases b7 <;> cases b8 <;> (go_enter Tryz.func92, Tryz.ntmps92; go_wp2; go_ret; exact ⟨rfl, rfl⟩)
  refine (walk _ _ _ _ _ _ rfl rfl rfl rfl rfl rfl).mono ?_
  rintro e w' ⟨rfl, rfl⟩
  refine ⟨?_, rfl⟩
  unfold kidsP
  simp only [Bool.or_eq_true, beq_iff_eq]
  by_cases c1 : k = 4 ∨ k = 5 ∨ k = 9
  · rw [if_pos c1, if_pos c1]; rfl
  · rw [if_neg c1, if_neg c1]
    by_cases c2 : k = 6 ∨ k = 7 ∨ k = 8
    · rw [if_pos c2, if_pos c2]; rfl
    · rw [if_neg c2, if_neg c2]; rfl
end Go.Proofs.YtllcpoibnmhghaaGreatDoor
