/- What parse.Parse comes to. -/
import Derived.Test.YtgfjbcdjpkcbkaaGreatDoorDu18
import Derived.Test.YtgfjbcdjpkcbkaaGreatDoorDu05
import Derived.Test.YtgfjbcdjpkcbkaaGreatDoorDu07
import Derived.Test.YtgfjbcdjpkcbkaaGreatDoorDu15
import Derived.Laws.AppendOwnNone
import Derived.Laws.OwnMore
import Derived.Test.YtgfjbcdjpkcbkaaGreatDoorDu12
import Derived.Lib.SmallJoins
import Derived.OpenShut
namespace Go.Proofs.YtgfjbcdjpkcbkaaGreatDoor
open Go.RowKit Lx
theorem valL_six (l : List UInt8) (h : ∀ i, i < l.length → isD (l.getD i 0) = true) (h6 : l.length ≤ 6) : 0 ≤ valL l ∧ valL l ≤ 999999 := by
  have b := valL_small l h l.length (Nat.le_refl _) h6
  rw [List.take_length] at b
  omega
theorem run_digits (l : List UInt8) : ∀ i, i < (l.take (runOf isD l)).length → isD ((l.take (runOf isD l)).getD i 0) = true := by
  intro i hi
  have hle := runOf_le isD l
  rw [List.length_take, Nat.min_eq_left hle] at hi
  have := runOf_all isD l i hi
  rw [List.getD_eq_getElem?_getD] at this ⊢
  rw [List.getElem?_take, if_pos hi]
  exact this
theorem first_num (l : List UInt8) (he : (firstT l).err = 0) : 0 ≤ (firstT l).n ∧ (firstT l).n ≤ 999999 := by
  unfold firstT at he ⊢
  split at he
  · rename_i hf
    rw [if_pos hf]
    unfold dateT at he ⊢
    split at he
    · rename_i h
      rw [if_pos h]
      unfold numE at h ⊢
      split at h
      · rename_i hv
        rw [if_pos hv]
        have := Cal.num_bd _ _ _ hv.1 hv.2
        show 0 ≤ Cal.num _ _ _ ∧ Cal.num _ _ _ ≤ 999999
        omega
      · simp at h
    · simp [bad] at he
  · rename_i hf
    rw [if_neg hf]
    split at he
    · rename_i hf2
      rw [if_pos hf2]
      have p1 := dig_part hf2 0 2 (by decide) (fun i hi => by match i, hi with | 0, _ => rfl | 1, _ => rfl)
      have p2 := dig_part hf2 3 2 (by decide) (fun i hi => by match i, hi with | 0, _ => rfl | 1, _ => rfl)
      have q1 := valL_six _ p1.2 (by omega)
      have q2 := valL_six _ p2.2 (by omega)
      unfold timeT at he ⊢
      split at he
      · simp [bad] at he
      · rename_i h
        rw [if_neg h]
        simp only
        omega
    · rename_i hf2
      rw [if_neg hf2]
      split at he
      · rename_i hd
        rw [if_pos hd]
        unfold numT at he ⊢
        split at he
        · simp [bad] at he
        · rename_i h
          rw [if_neg h]
          have hle := runOf_le isD l
          exact valL_six _ (run_digits l) (by rw [List.length_take, Nat.min_eq_left hle]; omega)
      · rename_i hd
        rw [if_neg hd]
        split at he
        · rename_i hL
          rw [if_pos hL]
          unfold wordT at he ⊢
          split at he
          · simp [bad] at he
          · rename_i h
            rw [if_neg h]; simp
        · rename_i hL
          rw [if_neg hL]
          unfold signT at he ⊢
          split at he
          · rename_i hp
            rw [if_pos hp]; simp
          · rename_i hp
            rw [if_neg hp]
            split at he
            · simp [bad] at he
            · rename_i h
              rw [if_neg h]; simp
theorem lexed_num {l : List UInt8} {ts : List Tk} {k : Nat} (h : Lexed l ts k) : ∀ p ∈ ts, 0 ≤ p.1.n ∧ p.1.n ≤ 999999 := by
  obtain ⟨n, hn⟩ := h
  refine Lexed.ind (M := fun ts _ => ∀ p ∈ ts, 0 ≤ p.1.n ∧ p.1.n ≤ 999999) (fun p hp => by cases hp) ?_ n hn
  intro ts k _ _ he ih p hp
  rcases List.mem_append.1 hp with h | h
  · exact ih p h
  · have e : p = (firstT (l.drop k), k) := by simpa using h
    rw [e]; exact first_num _ he
theorem RowR.later {w0 w1 w w' : World} {vr : Value} {us : List (Ru × Value)} (h : RowR w0 w vr us) (hk : ∀ k, w0.heap.size ≤ k → w'.heap[k]? = w.heap[k]?) (hb : w1.heap.size ≤ w0.heap.size) : RowR w1 w' vr us := by
  refine ⟨?_, fun p hp => ?_⟩
  · obtain ⟨h1, h2⟩ := h.own
    refine ⟨h1, ?_⟩
    rcases h2 with h2 | ⟨g, cap, cur, hv, hg, hh, r⟩
    · exact .inl h2
    · exact .inr ⟨g, cap, cur, hv, by omega, (hk g hg).trans hh, r⟩
  · obtain ⟨d, hd⟩ := h.kids p hp
    exact ⟨d, (hd.kept fun k hB _ => hk k hB).mono fun k hB => by omega⟩
theorem caught_other (p q : Nat) (er at_ : Int) (w : World) (k : Nat) (h1 : k ≠ p) (h2 : k ≠ q) : (caught p q er at_ w).heap[k]? = w.heap[k]? := by
  unfold caught
  rw [heap_setCell_other _ _ _ _ h2, heap_setCell_other _ _ _ _ h2, heap_setCell_other _ _ _ _ h1]
def PTells (l : List UInt8) (w0 w : World) (v : Value) (er at_ : Int) : Prop :=
  (6000 < l.length ∧ v = .slice none 0 0 ∧ er = 4 ∧ at_ = 0) ∨
  (∃ (ts : List Tk) (k : Nat), l.length ≤ 6000 ∧ Lexed l ts k ∧ k < l.length ∧ (firstT (l.drop k)).err ≠ 0 ∧ v = .slice none 0 0 ∧ er = (firstT (l.drop k)).err ∧ at_ = (k : Int)) ∨
  (∃ (ts : List Tk) (k : Nat) (er' : Int) (at' : Nat), l.length ≤ 6000 ∧ Lexed l ts k ∧ ¬ k < l.length ∧ rulesR l.length (ts.length + 1) [] ts = .error (er', at') ∧ v = .slice none 0 0 ∧ er = er' ∧ at_ = (at' : Int)) ∨
  (∃ (ts : List Tk) (k : Nat) (us : List (Ru × Value)), l.length ≤ 6000 ∧ Lexed l ts k ∧ ¬ k < l.length ∧ rulesR l.length (ts.length + 1) [] ts = .ok (us.map (fun p => p.1)) ∧ us.length ≤ 40 ∧ RowR w0 w v us ∧ er = 0 ∧ at_ = 0)
theorem parse_leaves {tmps : Array Value} {R : Ending → World → Prop} {w : World} (p q : Nat) (a : Option Addr) (b c : Nat) (er at_ : Int) (h2 : tmps.getD 2 undef = .pointer (some ⟨p, 0, none⟩)) (h3 : tmps.getD 3 undef = .pointer (some ⟨q, 0, none⟩))
    (hp : w.heap[p]? = some (.cells #[.slice a b c] 22 (0, 0))) (hq : w.heap[q]? = some (.cells #[.int .i64 er, .int .i64 at_] 26 (0, 0))) (hR : R (.returned (.tuple #[.slice a b c, .agg #[.int .i64 er, .int .i64 at_]])) w) : Leaves Tryz.prog Tryz.f25 tmps R [] .returning w := by
  refine ⟨.tuple #[.slice a b c, .agg #[.int .i64 er, .int .i64 at_]], ?_, hR⟩
  have h2' : tmps[2]?.getD undef = .pointer (some ⟨p, 0, none⟩) := by simpa using h2
  have h3' : tmps[3]?.getD undef = .pointer (some ⟨q, 0, none⟩) := by simpa using h3
  have kp : w.cell? ⟨p, 0, none⟩ = some (.slice a b c) := (cell_of_row _ _ 0 _ _ _ hp).trans rfl
  have kq0 : w.cell? ⟨q, 0, none⟩ = some (.int .i64 er) := (cell_of_row _ _ 0 _ _ _ hq).trans rfl
  have kq1 : w.cell? ⟨q, 1, none⟩ = some (.int .i64 at_) := (cell_of_row _ _ 1 _ _ _ hq).trans rfl
  simp [results, Tryz.results25, h2', h3', asAddr, kp, kq0, kq1, go_sem]
set_option maxRecDepth 100000 in
set_option maxHeartbeats 4000000 in
theorem parse_any (s : ByteArray) (l : List UInt8) (hs : s.data.toList = l) (hl : l.length ≤ 9223372036854775807) (w : World) (hT : CTab w) (hD : DTab w) :
    Calls Tryz.prog 25 #[.string s] w fun e w' => (∃ v er at_, e = .returned (.tuple #[v, .agg #[.int .i64 er, .int .i64 at_]]) ∧ PTells l w w' v er at_) ∧ Below w.heap.size w w' := by
  have hz : s.size = l.length := by rw [← hs, Lib.size_eq]
  have hmf : ∀ (fn : Fn) (first cap : Array Value) (w : World), (Instr.makeFunc fn first cap).run Tryz.prog w = .ok (.func fn first cap) w := fun _ _ _ _ => rfl
  have hbA := (Below.refl w.heap.size w).alloc (Nat.le_refl _) (.cells #[.slice none 0 0] 22)
  have hbB := hbA.alloc hbA.size (.cells #[.int .i64 0, .int .i64 0] 26)
  have hp2 := (Below.heap_alloc _ (.cells #[.int .i64 0, .int .i64 0] 26) _ (lt_of_block (heap_alloc_new w (.cells #[.slice none 0 0] 22)))).trans (heap_alloc_new w (.cells #[.slice none 0 0] 22))
  have hp3 := heap_alloc_new (w.alloc (.cells #[.slice none 0 0] 22)) (.cells #[.int .i64 0, .int .i64 0] 26)
  rw [show (w.alloc (.cells #[.slice none 0 0] 22)).heap.size = w.heap.size + 1 by simp] at hp3
  have hszB : ((w.alloc (.cells #[.slice none 0 0] 22)).alloc (.cells #[.int .i64 0, .int .i64 0] 26)).heap.size = w.heap.size + 2 := by simp
  generalize hwB : (w.alloc (.cells #[.slice none 0 0] 22)).alloc (.cells #[.int .i64 0, .int .i64 0] 26) = wB at *
  have cX := lex_any s l hs hl wB (hT.below hbB)
  go_enter_defers Tryz.func25, Tryz.ntmps25
  go_wp2_with fail
  refine cX.mono ?_
  rintro e w1 ⟨⟨v, er, at_, rfl, hx⟩, hb1⟩
  have hq2 := (hb1.block _ (lt_of_block hp2)).trans hp2
  have hq3 := (hb1.block _ (lt_of_block hp3)).trans hp3
  have hb1w := hbB.trans (hb1.mono hbB.size)
  have hsz1 := hb1.size
  clear hp2 hp3 cX hwB
  have hr3 := setRow_heap w1 (w.heap.size + 1) _ #[.int .i64 er, .int .i64 at_] _ _ hq3
  have hr2 := (setRow_other w1 (w.heap.size + 1) w.heap.size #[.int .i64 er, .int .i64 at_] (by omega)).trans hq2
  have hbr : Below w.heap.size w (w1.setRow (w.heap.size + 1) #[.int .i64 er, .int .i64 at_]) := below_setRow hb1w (by omega) _
  have d0 : (w1.setRow (w.heap.size + 1) #[.int .i64 er, .int .i64 at_]).cell? ⟨w.heap.size + 1, 0, none⟩ = some (.int .i64 er) := (cell_of_row _ _ 0 _ _ _ hr3).trans rfl
  by_cases he : er = 0
  · subst he
    obtain ⟨ts, k, h6, hL, hk, ho⟩ : ∃ (ts : List Tk) (k : Nat), l.length ≤ 6000 ∧ Lexed l ts k ∧ ¬ k < l.length ∧ w1.ownsRow wB.heap.size 101 4 v ts.length (flatT ts) := by
      rcases hx with ⟨_, _, h, _⟩ | ⟨ts, k, _, _, _, he, _, h, _⟩ | ⟨ts, k, h1, h2, h3, h4, _⟩
      · cases h
      · exact absurd h.symm he
      · exact ⟨ts, k, h1, h2, h3, h4⟩
    have hle := hL.le
    have hnum := lexed_num hL
    have hown : ∀ b, v.ownBlock = some b → b < w1.heap.size ∧ wB.heap.size ≤ b := fun b hb => ⟨(ho.lt b hb).2, (ho.lt b hb).1⟩
    have hrow1 : TRow w1 v ts := trow_of_owns ho (by omega)
    have hsr : (w1.setRow (w.heap.size + 1) #[.int .i64 0, .int .i64 at_]).heap.size = w1.heap.size := by simp [World.setRow]
    have hrow2 : TRow (w1.setRow (w.heap.size + 1) #[.int .i64 0, .int .i64 at_]) v ts := by
      rcases hrow1 with h | ⟨gt, o, c, hv, hl', hc⟩
      · exact .inl h
      · refine .inr ⟨gt, o, c, hv, hl', fun j t k hj => ?_⟩
        obtain ⟨c1, c2, c3, c4⟩ := hc j t k hj
        have hne : gt ≠ w.heap.size + 1 := by
          have := (hown gt (by rw [hv]; rfl)).2
          omega
        have e : (w1.setRow (w.heap.size + 1) #[.int .i64 0, .int .i64 at_]).heap[gt]? = w1.heap[gt]? := setRow_other _ _ _ _ hne
        have ce : ∀ i, (w1.setRow (w.heap.size + 1) #[.int .i64 0, .int .i64 at_]).cell? ⟨gt, i, none⟩ = w1.cell? ⟨gt, i, none⟩ := fun i => World.cell?_of_block e
        exact ⟨(ce _).trans c1, (ce _).trans c2, (ce _).trans c3, (ce _).trans c4⟩
    have hDr : DTab (w1.setRow (w.heap.size + 1) #[.int .i64 0, .int .i64 at_]) := fun j hj => (hbr.cell (block_lt_of_cell (hD j hj))).trans (hD j hj)
    have hgd := block_lt_of_cell (hD 0 (by omega))
    obtain ⟨pv, cv, rfl⟩ := hrow1.form
    clear hx ho hrow1 hT
    generalize hWr : w1.setRow (w.heap.size + 1) #[.int .i64 0, .int .i64 at_] = Wr at *
    have hb4 : Below Wr.heap.size Wr (Wr.alloc (.cells #[.slice pv ts.length cv, .int .i64 0, .int .i64 (l.length : Int), .int .i64 0] 87)) := (Below.refl _ _).alloc (Nat.le_refl _) _
    have h0 : PS0 ts l.length Wr.heap.size (.slice pv ts.length cv) := ⟨by omega, h6, fun e => by have := (hown _ e).1; omega, hnum, by show 2 ≠ Wr.heap.size; have : 2 < w.heap.size := hgd; omega⟩
    have hst : PSt ts l.length Wr.heap.size (.slice pv ts.length cv) (Wr.alloc (.cells #[.slice pv ts.length cv, .int .i64 0, .int .i64 (l.length : Int), .int .i64 0] 87)) 0 0 :=
      ⟨heap_alloc_new Wr _, (Kept.of_below (g := Wr.heap.size + 1) hb4).row (fun e => by have := (hown _ e).1; omega) hrow2, by omega, (Kept.of_below (g := Wr.heap.size + 1) hb4).days (by show 2 ≠ Wr.heap.size + 1; have : 2 < w.heap.size := hgd; omega) hDr⟩
    have c4 := rules_any h0 hst
    rw [List.drop_zero] at c4
    have hp4 := (hb4.block _ (lt_of_block hr2)).trans hr2
    have hq4 := (hb4.block _ (lt_of_block hr3)).trans hr3
    have hbw4 := hbr.trans (hb4.mono hbr.size)
    have hs4 : (Wr.alloc (.cells #[.slice pv ts.length cv, .int .i64 0, .int .i64 (l.length : Int), .int .i64 0] 87)).heap.size = Wr.heap.size + 1 := by simp
    have hlz : w.heap.size + 1 < Wr.heap.size := lt_of_block hr3
    clear hb4 hst hDr hrow2 hown hnum
    have hsr' := hsr.symm
    clear hsr
    go_wp2_with (refine wpList_store_row rfl 26 _ _ rfl _ _ rfl rfl _ _ hq3 (by kernel_rfl) (by simp) (by simp [Value.oneCell']) ?_)
    refine c4.mono ?_
    intro e w5 ho
    cases hx : rulesR l.length (ts.length + 1) [] ts with
    | error q =>
      obtain ⟨er, at'⟩ := q
      rw [hx] at ho
      obtain ⟨rfl, hk5⟩ := ho
      have hp5 := hk5.at hp4 (by omega)
      have hq5 := hk5.at hq4 (by omega)
      have hq0 : (caught w.heap.size (w.heap.size + 1) er (at' : Int) w5).heap[w.heap.size]? = some (.cells #[.slice none 0 0] 22 (0, 0)) :=
        (heap_setCell_other _ _ _ _ (by show w.heap.size ≠ w.heap.size + 1; omega)).trans ((heap_setCell_other _ _ _ _ (by show w.heap.size ≠ w.heap.size + 1; omega)).trans (heap_setCell_same _ _ 0 _ _ _ hp5))
      have hq1 : (caught w.heap.size (w.heap.size + 1) er (at' : Int) w5).heap[w.heap.size + 1]? = some (.cells #[.int .i64 er, .int .i64 (at' : Int)] 26 (0, 0)) :=
        heap_setCell_same _ _ 1 _ _ _ (heap_setCell_same _ _ 0 _ _ _ ((heap_setCell_other _ _ _ _ (by show w.heap.size + 1 ≠ w.heap.size; omega)).trans hq5))
      have hbf : Below w.heap.size w (caught w.heap.size (w.heap.size + 1) er (at' : Int) w5) := by
        have hs5 := hk5.size
        refine ⟨hk5.os.trans hbw4.os, hk5.tape.trans hbw4.tape, hk5.output.trans hbw4.output, ?_, fun k hk => ?_⟩
        · have := hbw4.size
          simp [caught]; omega
        · rw [caught_other _ _ _ _ _ _ (by omega) (by omega), hk5.block k (by omega) (fun e => by have := Option.some.inj e; omega)]
          exact hbw4.block k hk
      show bodyPostD _ _ _ (Exit.panic _) _ _
      simp only [bodyPostD]
      refine leaves_cons (f := 37) (args := #[.pointer (some ⟨w.heap.size, 0, none⟩), .pointer (some ⟨w.heap.size + 1, 0, none⟩)]) (by simp) (by simp [go_sem]) ?_
      refine (catch_thrown w.heap.size (w.heap.size + 1) (by omega) _ _ _ er (at' : Int) w5 hp5 hq5).mono ?_
      rintro e u' w6 ⟨rfl, rfl, k, rfl⟩
      show Leaves _ _ _ _ [] (settle _) _
      simp only [settle, List.dropWhile_nil]
      exact parse_leaves w.heap.size (w.heap.size + 1) none 0 0 er (at' : Int) rfl rfl hq0 hq1 ⟨⟨_, _, _, rfl, .inr (.inr (.inl ⟨ts, _, er, at', h6, hL, hk, hx, rfl, rfl, rfl⟩))⟩, below_drewN hbf k⟩
    | ok rs =>
      rw [hx] at ho
      obtain ⟨vr, us, rfl, hus, hrow, hu40, hk5⟩ := ho
      have hp5 := hk5.at hp4 (by omega)
      have hq5 := hk5.at hq4 (by omega)
      obtain ⟨pr, cr, rfl⟩ := row_form hrow.own
      have kp := (cell_of_row _ _ 0 _ _ _ hp5).trans rfl
      have yp := frozen_of_row _ _ 0 _ _ hp5
      have hp6 : (w5.setCell ⟨w.heap.size, 0, none⟩ (.slice pr us.length cr)).heap[w.heap.size]? = some (.cells #[.slice pr us.length cr] 22 (0, 0)) := heap_setCell_same _ _ 0 _ _ _ hp5
      have hq6 := (heap_setCell_other w5 ⟨w.heap.size, 0, none⟩ (w.heap.size + 1) (.slice pr us.length cr) (by show w.heap.size + 1 ≠ w.heap.size; omega)).trans hq5
      have hp7 := (setRow_other (w5.setCell ⟨w.heap.size, 0, none⟩ (.slice pr us.length cr)) (w.heap.size + 1) w.heap.size #[.int .i64 0, .int .i64 0] (by omega)).trans hp6
      have hq7 := setRow_heap (w5.setCell ⟨w.heap.size, 0, none⟩ (.slice pr us.length cr)) (w.heap.size + 1) _ #[.int .i64 0, .int .i64 0] _ _ hq6
      have hoth : ∀ k, k ≠ w.heap.size → k ≠ w.heap.size + 1 → ((w5.setCell ⟨w.heap.size, 0, none⟩ (.slice pr us.length cr)).setRow (w.heap.size + 1) #[.int .i64 0, .int .i64 0]).heap[k]? = w5.heap[k]? := fun k h1 h2 => (setRow_other _ _ _ _ h2).trans (heap_setCell_other _ _ _ _ h1)
      have hbf : Below w.heap.size w ((w5.setCell ⟨w.heap.size, 0, none⟩ (.slice pr us.length cr)).setRow (w.heap.size + 1) #[.int .i64 0, .int .i64 0]) := by
        have hs5 := hk5.size
        refine ⟨hk5.os.trans hbw4.os, hk5.tape.trans hbw4.tape, hk5.output.trans hbw4.output, ?_, fun k hk => ?_⟩
        · have := hbw4.size
          simp [World.setRow]; omega
        · rw [hoth _ (by omega) (by omega), hk5.block k (by omega) (fun e => by have := Option.some.inj e; omega)]
          exact hbw4.block k hk
      have hrowF := hrow.later (w1 := w) (w' := (w5.setCell ⟨w.heap.size, 0, none⟩ (.slice pr us.length cr)).setRow (w.heap.size + 1) #[.int .i64 0, .int .i64 0]) (fun k hk => hoth k (by omega) (by omega)) hbw4.size
      have HP : Hid (PTells l w ((w5.setCell ⟨w.heap.size, 0, none⟩ (.slice pr us.length cr)).setRow (w.heap.size + 1) #[.int .i64 0, .int .i64 0]) (.slice pr us.length cr) 0 0) := .inr (.inr (.inr ⟨ts, k, us, h6, hL, hk, by rw [hx, hus], hu40, hrowF, rfl, rfl⟩))
      clear hrow hrowF c4 hx hus hoth hk5 hL hp4 hq4 hr2 hr3
      go_wp2_with (refine wpList_store_row rfl 26 _ _ rfl _ _ rfl rfl _ _ hq6 (by kernel_rfl) (by simp) (by simp [Value.oneCell']) ?_)
      simp only [bodyPostD]
      refine leaves_cons (f := 37) (args := #[.pointer (some ⟨w.heap.size, 0, none⟩), .pointer (some ⟨w.heap.size + 1, 0, none⟩)]) (by simp) (by simp [go_sem]) ?_
      refine (catch_idle _ _ _).mono ?_
      rintro e u' w6 ⟨rfl, rfl, rfl⟩
      show Leaves _ _ _ _ [] (settle _) _
      simp only [settle]
      exact parse_leaves w.heap.size (w.heap.size + 1) pr us.length cr 0 0 rfl rfl hp7 hq7 ⟨⟨_, _, _, rfl, HP.out⟩, hbf⟩
  · have hne : (er != 0) = true := by simpa using he
    have d1 : (w1.setRow (w.heap.size + 1) #[.int .i64 er, .int .i64 at_]).cell? ⟨w.heap.size + 1, 1, none⟩ = some (.int .i64 at_) := (cell_of_row _ _ 1 _ _ _ hr3).trans rfl
    have k0 : (w1.setRow (w.heap.size + 1) #[.int .i64 er, .int .i64 at_]).cell? ⟨w.heap.size, 0, none⟩ = some (.slice none 0 0) := (cell_of_row _ _ 0 _ _ _ hr2).trans rfl
    have y0 := frozen_of_row _ _ 0 _ _ hr2
    have y1 := frozen_of_row _ _ 0 _ _ hr3
    have y2 := frozen_of_row _ _ 1 _ _ hr3
    have HP : Hid (∀ W, PTells l w W (.slice none 0 0) er at_) := fun W => by
      rcases hx with ⟨h, _, h1, h2⟩ | ⟨ts, k, h6, hL, hk, he', _, h1, h2⟩ | ⟨ts, k, _, _, _, _, h1, _⟩
      · exact .inl ⟨h, rfl, h1, h2⟩
      · exact .inr (.inl ⟨ts, k, h6, hL, hk, he', rfl, h1, h2⟩)
      · exact absurd h1 he
    clear hx he
    generalize hWr : w1.setRow (w.heap.size + 1) #[.int .i64 er, .int .i64 at_] = Wr at *
    go_wp2_with (refine wpList_store_row rfl 26 _ _ rfl _ _ rfl rfl _ _ hq3 (by kernel_rfl) (by simp) (by simp [Value.oneCell']) ?_)
    go_region
    go_wp2_with fail
    have hf2 : (((Wr.setCell ⟨w.heap.size, 0, none⟩ (.slice none 0 0)).setCell ⟨w.heap.size + 1, 0, none⟩ (.int .i64 er)).setCell ⟨w.heap.size + 1, 1, none⟩ (.int .i64 at_)).heap[w.heap.size]? = some (.cells #[.slice none 0 0] 22 (0, 0)) :=
      (heap_setCell_other _ _ _ _ (by show w.heap.size ≠ w.heap.size + 1; omega)).trans ((heap_setCell_other _ _ _ _ (by show w.heap.size ≠ w.heap.size + 1; omega)).trans (heap_setCell_same _ _ 0 _ _ _ hr2))
    have hf3 : (((Wr.setCell ⟨w.heap.size, 0, none⟩ (.slice none 0 0)).setCell ⟨w.heap.size + 1, 0, none⟩ (.int .i64 er)).setCell ⟨w.heap.size + 1, 1, none⟩ (.int .i64 at_)).heap[w.heap.size + 1]? = some (.cells #[.int .i64 er, .int .i64 at_] 26 (0, 0)) :=
      heap_setCell_same _ _ 1 _ _ _ (heap_setCell_same _ _ 0 _ _ _ ((heap_setCell_other _ _ _ _ (by show w.heap.size + 1 ≠ w.heap.size; omega)).trans hr3))
    have hbf := ((hbr.setCell (p := ⟨w.heap.size, 0, none⟩) (Nat.le_refl _) (.slice none 0 0)).setCell (p := ⟨w.heap.size + 1, 0, none⟩) (by show w.heap.size ≤ w.heap.size + 1; omega) (.int .i64 er)).setCell (p := ⟨w.heap.size + 1, 1, none⟩) (by show w.heap.size ≤ w.heap.size + 1; omega) (.int .i64 at_)
    simp only [bodyPostD]
    exact parse_leaves w.heap.size (w.heap.size + 1) none 0 0 er at_ rfl rfl hf2 hf3 ⟨⟨_, _, _, rfl, HP.out _⟩, below_drewN hbf 1⟩
end Go.Proofs.YtgfjbcdjpkcbkaaGreatDoor

/- What is wrong with tokens has a number that is not nought; and the rules of two texts, one behind the other. -/
namespace Lx
end Lx
namespace Go.Proofs.YtgfjbcdjpkcbkaaGreatDoor
open Go.RowKit Lx
end Go.Proofs.YtgfjbcdjpkcbkaaGreatDoor

/- The texts that alive asks of, and what is told of their rules: plain. -/
namespace Go.Proofs.YtgfjbcdjpkcbkaaGreatDoor
open Go.RowKit Lx
def xN (n : UInt8) : Ex := ⟨10, 0, 0, [n], []⟩
end Go.Proofs.YtgfjbcdjpkcbkaaGreatDoor

/- What the document's Ints comes to where both rows are the same. -/
namespace Go.Proofs.YtgfjbcdjpkcbkaaGreatDoor
end Go.Proofs.YtgfjbcdjpkcbkaaGreatDoor

/- What the laws' own question of check comes to: true. -/
namespace Go.Proofs.YtgfjbcdjpkcbkaaGreatDoor
open Go.RowKit Lx
def NmK : Nat → List Ex → Prop
  | 0, _ => True
  | d + 1, ks => ∀ (j : Nat) (k : Ex), ks[j]? = some k → k.name.length ≤ 9223372036854775807 ∧ NmK d k.kids
theorem nmk_nil : ∀ d, NmK d []
  | 0 => trivial
  | d + 1 => fun j k h => by simp at h
theorem nmk_cons {k : Ex} {ks : List Ex} (h1 : k.name.length ≤ 9223372036854775807) (h2 : ∀ d, NmK d k.kids) (h3 : ∀ d, NmK d ks) : ∀ d, NmK d (k :: ks)
  | 0 => trivial
  | d + 1 => fun j q h => by
    cases j with
    | zero =>
      simp at h
      subst h
      exact ⟨h1, h2 d⟩
    | succ j => exact h3 (d + 1) j q (by simpa using h)
theorem kidsK_of_at {B : Nat → Prop} : ∀ {d : Nat} {w : World} {sl : Value} {ks : List Ex}, KidsAt B d w sl ks → NmK d ks → KidsB (fun k => k < w.heap.size) d w sl ks
  | 0, _, _, _, h, _ => h
  | d + 1, w, sl, ks, h, hn => by
    rcases h with h | ⟨g, o, c, hB, hs, hl, hk⟩
    · exact .inl h
    · by_cases h0 : ks = []
      · subst h0
        exact .inl ⟨rfl, _, c, hs⟩
      · obtain ⟨k0, hk0⟩ : ∃ k, ks[0]? = some k := by
          cases ks with
          | nil => exact absurd rfl h0
          | cons x l => exact ⟨x, rfl⟩
        obtain ⟨_, q0, _⟩ := hk 0 k0 hk0
        refine .inr ⟨g, o, c, block_lt_of_cell q0, hs, hl, fun j k hj => ?_⟩
        obtain ⟨sk, c0, c1, c2, c3, c4, r⟩ := hk j k hj
        obtain ⟨n1, n2⟩ := hn j k hj
        exact ⟨n1, sk, c0, c1, c2, c3, c4, kidsK_of_at r n2⟩
def NmR (L : List Ru) : Prop := ∀ p ∈ L, p.1.length ≤ 9223372036854775807 ∧ p.2.name.length ≤ 9223372036854775807 ∧ ∀ d, NmK d p.2.kids
theorem inR_of_made {w0 w : World} {v : Value} {us : List (Ru × Value)} (h : RowR w0 w v us) (hl : us.length ≤ 40) (hn : NmR (us.map (fun p => p.1))) : InR w v us := by
  refine ⟨rrow_of_owns h.own (by omega), by omega, fun p hp => ?_⟩
  obtain ⟨d, hd⟩ := h.kids p hp
  obtain ⟨n1, n2, n3⟩ := hn p.1 (List.mem_map.2 ⟨p, hp, rfl⟩)
  exact ⟨n1, n2, d, kidsK_of_at hd (n3 d)⟩
theorem tells_of {s : List UInt8} {n : Nat} {T : List Tk} {L : List Ru} (hit : iterN s n = some (T, s.length)) (hr : rulesR s.length (T.length + 1) [] T = .ok L) (h6 : s.length ≤ 6000) {w0 w : World} {v : Value} {er at_ : Int} (h : PTells s w0 w v er at_) : er = 0 ∧ ∃ us, us.map (fun p => p.1) = L ∧ us.length ≤ 40 ∧ RowR w0 w v us := by
  have hk : ¬ (s.length < s.length ∧ (firstT (s.drop s.length)).err = 0) := fun h => absurd h.1 (by omega)
  have hx : Lexed s T s.length := ⟨n, hit⟩
  rcases h with ⟨h, _⟩ | ⟨ts, k, _, h2, h3, h4, _⟩ | ⟨ts, k, er', at', _, h2, h3, h4, _⟩ | ⟨ts, k, us, _, h2, h3, h4, h5, h6', h7, _⟩
  · omega
  · obtain ⟨_, e⟩ := lexed_one hx h2 hk (fun h => h4 h.2)
    omega
  · obtain ⟨e, _⟩ := lexed_one hx h2 hk (fun h => h3 h.1)
    subst e
    rw [hr] at h4; cases h4
  · obtain ⟨e, _⟩ := lexed_one hx h2 hk (fun h => h3 h.1)
    subst e
    rw [hr] at h4
    exact ⟨h7, us, (Except.ok.inj h4).symm, h5, h6'⟩
def OutRu (L : List Ru) (w : World) (e : Ending) (w' : World) : Prop := ∃ v us, e = .returned v ∧ us.map (fun p => p.1) = L ∧ InR w' v us ∧ Below w.heap.size w w'
def PT2 (w : World) : Prop := ∀ w', Below w.heap.size w w' → CTab w' ∧ DTab w'
end Go.Proofs.YtgfjbcdjpkcbkaaGreatDoor

/- What the laws' own question of check comes to: true. -/
namespace Go.Proofs.YtgfjbcdjpkcbkaaGreatDoor
open Go.RowKit Lx
end Go.Proofs.YtgfjbcdjpkcbkaaGreatDoor

/- An operation whose guard is met, as one without a guard; rows appended to a row. It speaks of no program. -/
namespace Go.Proofs.YtgfjbcdjpkcbkaaGreatDoor
open Go.RowKit
end Go.Proofs.YtgfjbcdjpkcbkaaGreatDoor

/- Rules that came in, appended to a row of the call's own. -/
namespace Go.Proofs.YtgfjbcdjpkcbkaaGreatDoor
open Go.RowKit Lx
end Go.Proofs.YtgfjbcdjpkcbkaaGreatDoor

/- Rules that came in, appended: an operation of a region that draws its order; and a rule put behind rules: what is said while it goes on. Written by genmm.py. -/
namespace Go.Proofs.YtgfjbcdjpkcbkaaGreatDoor
open Go.RowKit Lx
end Go.Proofs.YtgfjbcdjpkcbkaaGreatDoor

/- A rule put behind rules: what is said while it goes on. Written by genmm.py. -/
namespace Go.Proofs.YtgfjbcdjpkcbkaaGreatDoor
open Go.RowKit Lx
section
variable {B : Nat} {us us2 : List (Ru × Value)} {LV : Value} {day : Int} {nm : List UInt8} {exr rowu : Array Value} {er at0 : Int} {fs : List (Nat → Bool)} {L L' : Nat → Bool} {W W' : World}
theorem RowM.later {w w' : World} {v : Value} {fs : List (Nat → Bool)} (h : RowM w v fs) (hb : Below w.heap.size w w') : RowM w' v fs := by
  obtain ⟨p, c, h1, h2, h3⟩ := h
  refine ⟨p, c, h1, h2, fun i f hi => ?_⟩
  obtain ⟨g, o, e, hr⟩ := h3 i f hi
  exact ⟨g, o, e, range_later hr hb⟩
end
end Go.Proofs.YtgfjbcdjpkcbkaaGreatDoor

/- A rule put behind rules, as 'of' does it: what is said while it goes on. Written by genof.py. -/
namespace Go.Proofs.YtgfjbcdjpkcbkaaGreatDoor
open Go.RowKit Lx
section
variable {B : Nat} {us us2 : List (Ru × Value)} {LV : Value} {day : Int} {exr rowu : Array Value} {er at0 : Int} {fs : List (Nat → Bool)} {L L' : Nat → Bool} {W W' : World}
end
end Go.Proofs.YtgfjbcdjpkcbkaaGreatDoor

/- The text that the laws of mean ask of first, and what its rules mean: plain. -/
namespace Go.Proofs.YtgfjbcdjpkcbkaaGreatDoor
open Go.RowKit Lx Msk
def a6S : List UInt8 := [114, 117, 108, 101, 32, 97, 32, 61, 32, 119, 101, 101, 107, 108, 121, 32, 115, 97, 116, 58, 32, 48, 57, 58, 48, 48, 45, 49, 48, 58, 48, 48, 59, 32, 114, 117, 108, 101, 32, 98, 32, 61, 32, 97, 32, 115, 104, 105, 102, 116, 32, 54, 48, 59]
def a6X : Ex := ⟨4, 32, 0, [], [⟨3, 540, 600, [], []⟩]⟩
def a6Y : Ex := ⟨9, 60, 0, [], [xN 97]⟩
def a6L : List Ru := [([97], a6X), ([98], a6Y)]
def a6T : List Tk := ((iterN a6S 17).getD ([], 0)).1
theorem a6_iter : iterN a6S 17 = some (a6T, 54) := by kernel_rfl
theorem a6_rules : rulesR a6S.length (a6T.length + 1) [] a6T = .ok a6L := by kernel_rfl
theorem a6_wrong : wrongR a6L = (0, 0) := by
  have s1 : (shapeP a6X 1 0).1 = 0 := by
    simp only [a6X, shapeP_eq, shapeL_cons, shapeL_nil]
    decide
  have s2 : (shapeP a6Y 1 0).1 = 0 := by
    simp only [a6Y, xN, shapeP_eq, shapeL_cons, shapeL_nil]
    decide
  unfold wrongR a6L wrongL ruleP
  rw [s1]
  unfold wrongL ruleP
  rw [s2]
  decide
theorem a6_spk0 : spkR a6L ([97], a6X) = [] := by
  have : nms a6X = [] := by simp [a6X, nms_eq, nmsL]
  unfold spkR
  dsimp only
  rw [this]
  decide
theorem a6_spk1 : spkR a6L ([98], a6Y) = [0] := by
  have : nms a6Y = [[97]] := by simp [a6Y, xN, nms_eq, nmsL]
  unfold spkR
  dsimp only
  rw [this]
  decide
theorem a6_lead : leadS a6L = fun i => ([[], [0]] : List (List Nat)).getD i [] := by
  funext i
  match i with
  | 0 => exact (leadS_at rfl).trans (by rw [a6_spk0]; rfl)
  | 1 => exact (leadS_at rfl).trans (by rw [a6_spk1]; rfl)
  | i + 2 => rfl
theorem a6_chk : chkW a6L = (0, 0) := by
  refine chk_d (by rw [a6_wrong]) ?_ ?_ ?_
  · intro i hi
    match i, hi with
    | 0, _ => decide
    | 1, _ => decide
    | i + 2, hi => exact absurd hi (by show ¬ (i + 2 < 2); omega)
  · intro i hi
    match i, hi with
    | 0, _ => show decide (-1 ∈ spkR a6L ([97], a6X)) = false; rw [a6_spk0]; decide
    | 1, _ => show decide (-1 ∈ spkR a6L ([98], a6Y)) = false; rw [a6_spk1]; decide
    | i + 2, hi => exact absurd hi (by show ¬ (i + 2 < 2); omega)
  · intro i hi
    unfold lk3
    rw [a6_lead]
    match i, hi with
    | 0, _ => decide
    | 1, _ => decide
    | i + 2, hi => exact absurd hi (by show ¬ (i + 2 < 2); omega)
def g6 : Nat → Bool := fun i => (decide ((540 : Int) ≤ (i : Int)) && decide ((i : Int) < 600)) && decide (i < 1440)
theorem a6_m0 : meanP a6L (wkB 0) 0 0 = g6 := by
  rw [meanP_eq (u := ([97], a6X)) (by rw [a6_chk]) rfl]
  unfold a6X
  rw [valE_eq]
  show valK (wkB 0 32) 0 4 32 0 _ [valE (wkB 0) 0 _ ⟨3, 540, 600, [], []⟩] = g6
  rw [valK_4, if_pos (by decide +kernel), valE_eq]
  rfl
theorem a6_y (wk : Int → Bool) (day : Int) (env : List UInt8 → Nat → Bool) : valE wk day env a6Y = shf (env [97]) 60 := by
  have e1 : valE wk day env (xN 97) = env [97] := by
    unfold xN
    rw [valE_eq]
    rfl
  unfold a6Y
  rw [valE_eq]
  show shf (valE wk day env (xN 97)) 60 = _
  rw [e1]
theorem a6_m1 : meanP a6L (wkB 0) 0 1 = shf g6 60 := by
  rw [meanP_eq (u := ([98], a6Y)) (by rw [a6_chk]) rfl, a6_y]
  rw [show (atP5 a6L [97]).toNat = 0 by decide, a6_m0]
theorem a6_flt : mflt a6L 0 = (0, 0) := by
  unfold mflt
  rw [a6_chk]
  decide
theorem a6_mean : meanL a6L 0 = [g6, shf g6 60] := by
  unfold meanL
  rw [a6_flt, if_pos rfl]
  show [meanP a6L (wkB 0) 0 0, meanP a6L (wkB 0) 0 1] = _
  rw [a6_m0, a6_m1]
end Go.Proofs.YtgfjbcdjpkcbkaaGreatDoor

/- What the laws' own question of mean comes to: true. -/
namespace Go.Proofs.YtgfjbcdjpkcbkaaGreatDoor
open Go.RowKit Lx Msk
set_option maxRecDepth 100000 in
set_option maxHeartbeats 2000000 in
theorem rules6_any (s : List UInt8) (n : Nat) (T : List Tk) (L : List Ru) (hit : iterN s n = some (T, s.length)) (hr : rulesR s.length (T.length + 1) [] T = .ok L) (h6 : s.length ≤ 6000) (hn : NmR L) (w : World) (hT : CTab w) (hD : DTab w) :
    Calls Tryz.prog 13 #[.string ⟨s.toArray⟩] w (OutRu L w) := by
  have c1 := parse_any ⟨s.toArray⟩ s (by simp) (by omega) w hT hD
  go_enter Tryz.func13, Tryz.ntmps13
  go_wp2_with fail
  refine c1.mono ?_
  rintro e w1 ⟨⟨v, er, at_, rfl, hx⟩, hb1⟩
  obtain ⟨rfl, us, hus, h40, hrow⟩ := tells_of hit hr h6 hx
  have hin := inR_of_made hrow h40 (by rw [hus]; exact hn)
  have hb1a := hb1.alloc hb1.size (.cells #[.int .i64 0, .int .i64 at_] 26)
  have b1 := (Below.refl _ w1).alloc (Nat.le_refl _) (.cells #[.int .i64 0, .int .i64 at_] 26)
  have hf1 := heap_alloc_new w1 (.cells #[.int .i64 0, .int .i64 at_] 26)
  have HO : Hid (OutRu L w (.returned v) (w1.alloc (.cells #[.int .i64 0, .int .i64 at_] 26))) := ⟨v, us, rfl, hus, hin.below b1, hb1a⟩
  obtain ⟨pv, cv, rfl⟩ := hin.form
  clear c1 hx hrow hin hus h40 b1 hb1a hb1 hit hr
  generalize hwA : w1.alloc (.cells #[.int .i64 0, .int .i64 at_] 26) = wA at *
  have z0 := (cell_of_row _ _ 0 _ _ _ hf1).trans rfl
  go_wp2_with fail
  go_ret
  exact HO.out
theorem a6_names : NmR a6L := fun p hp => by
  simp only [a6L, List.mem_cons, List.not_mem_nil, or_false] at hp
  rcases hp with rfl | rfl
  · exact ⟨by decide, by decide, nmk_cons (by decide) nmk_nil nmk_nil⟩
  · exact ⟨by decide, by decide, nmk_cons (by decide) nmk_nil nmk_nil⟩
theorem g6_cnt : cnt g6 1440 = 60 := by
  rw [cnt_ext (g := fun i => decide (540 ≤ i) && decide (i < 600)) fun i hi => ?_, cnt_span 540 600 1440 (by omega) (by omega)]
  unfold g6
  by_cases h1 : 540 ≤ i <;> by_cases h2 : i < 600 <;> simp [h1, h2, hi] <;> omega
theorem g6_hold : holdB (shf g6 60) 600 660 = true := by
  have e : eqm (fun i => (inl [((600 : Int), (660 : Int))] i && !shf g6 60 i) && decide (i < 1440)) (fun _ => false) = true := eqm_true fun i hi => by
    have hin : inl [((600 : Int), (660 : Int))] i = ((decide ((600 : Int) ≤ (i : Int)) && decide ((i : Int) < 660)) && decide (i < 1440)) := by simp [inl]
    rw [hin]
    by_cases h1 : (600 : Int) ≤ (i : Int)
    · by_cases h2 : (i : Int) < 660
      · have : shf g6 60 i = true := by
          unfold shf g6
          simp
          omega
        rw [this]
        simp
      · simp [h2]
    · simp [h1]
  unfold holdB
  rw [e]
  decide
theorem load_gm {ops : Array Oper} {rest : List Oper} {op : Oper} {a : Act} {w : World} {Q : Exit → Act → World → Prop} (hw : Region.wanted op (yielded ops a.tmps) = true) (x : Operand) (ho : op.op = .load 43 x)
    (g o : Nat) (hx : a.eval x = .pointer (some ⟨g, o, none⟩)) (f : Nat → Bool) (hc : w.rangeAt g o (mv f).toList) (h : wpList Tryz.prog ops Q rest (a.put op.dst (.agg (mv f))) w) : wpList Tryz.prog ops Q (op :: rest) a w :=
  wpList_step fun K hK => by
    rw [if_pos hw]
    exact wp_load_mask x ho g o hx f hc (hK _ _ h)
set_option maxRecDepth 100000 in
set_option maxHeartbeats 2000000 in
theorem alive6_any (w : World) (hPT : PT2 w) : Calls Tryz.prog 5 #[] w fun e w' => e = .returned (.bool true) ∧ Below w.heap.size w w' := by
  have t0 := hPT w (Below.refl _ _)
  have c1 := rules6_any a6S 17 a6T a6L a6_iter a6_rules (by decide) a6_names w t0.1 t0.2
  unfold a6S at c1
  clear t0 hPT
  go_enter Tryz.func5, Tryz.ntmps5
  go_wp2_with fail
  refine c1.mono ?_
  rintro e w1 ⟨v, us, rfl, hus, hin, hb1⟩
  have c2 := mall_any us v 0 w1 hin
  rw [hus] at c2
  unfold OutMe at c2
  rw [a6_flt, a6_mean] at c2
  clear c1 hus hin
  go_wp2_with fail
  refine c2.mono ?_
  rintro e w2 ⟨vm, rfl, hrow, b2⟩
  have hb2 := hb1.trans (b2.mono hb1.size)
  obtain ⟨p, c, rfl, _, hr⟩ := hrow
  obtain ⟨g, o, hp, hr0⟩ := hr 0 g6 rfl
  obtain ⟨g', o', hp', hr1⟩ := hr 1 (shf g6 60) rfl
  subst hp
  cases hp'
  rw [Nat.zero_mul, Nat.add_zero] at hr0
  rw [Nat.one_mul] at hr1
  have b3 := below_setRow ((Below.refl w2.heap.size w2).alloc (Nat.le_refl _) (.cells #[.int .i64 0, .int .i64 0] 26)) (Nat.le_refl _) #[.int .i64 0, .int .i64 0]
  have n3 := heap_alloc_new w2 (.cells #[.int .i64 0, .int .i64 0] 26)
  have n4 := setRow_heap _ _ _ #[.int .i64 0, .int .i64 0] _ _ n3
  have HR0 := hid5 (range_later hr0 b3)
  have HR1 := hid5 (range_later hr1 b3)
  have hb3 := hb2.trans (b3.mono hb2.size)
  generalize hw3 : w2.alloc (.cells #[.int .i64 0, .int .i64 0] 26) = w3 at *
  generalize hw4 : w3.setRow w2.heap.size #[.int .i64 0, .int .i64 0] = w4 at *
  have z0 := (cell_of_row _ _ 0 _ _ _ n4).trans rfl
  have cC := count_any g6 w4
  rw [g6_cnt] at cC
  clear c2 hr hr0 hr1 b2 hb2 b3 hb1
  have cH := fun W => holds_any (shf g6 60) 600 660 W
  simp only [g6_hold] at cH
  go_wp2_with (first
    | (refine wpList_store_row rfl 26 _ _ rfl _ _ rfl rfl _ _ n3 (by kernel_rfl) (by simp) (by simp [Value.oneCell']) ?_)
    | (refine load_gm (by rfl) _ (by rfl) g o (by rfl) g6 ?r ?_; (case r => exact HR0.out))
    | (go_at_call 14; refine cC.mono ?_; rintro e w5 ⟨rfl, b4⟩; have HR2 := hid5 (range_later HR1.out b4); have hb4 := hb3.trans (b4.mono hb3.size); clear b4)
    | (refine load_gm (by rfl) _ (by rfl) g (o + 23) (by rfl) (shf g6 60) ?r ?_; (case r => exact HR2.out))
    | (go_at_call 15; refine (cH _).mono ?_; rintro e w6 ⟨rfl, b5⟩; have hb5 := hb4.trans (b5.mono hb4.size); clear b5))
  go_ret
  exact ⟨rfl, hb5⟩
end Go.Proofs.YtgfjbcdjpkcbkaaGreatDoor

/- What the document's Same comes to at two rows of the same masks: true. Written by genrmi.py. -/
namespace Go.Proofs.YtgfjbcdjpkcbkaaGreatDoor
open Go.RowKit Lx Msk
theorem neq_same (f : Nat → Bool) (w : World) : (binOp .neq 43 (.agg (mv f)) (.agg (mv f))).run Tryz.prog w = .ok (.bool false) w := by
  rw [neq_mask, eqm_true fun _ _ => rfl]
  rfl
theorem RowM.below {w w' : World} {v : Value} {fs : List (Nat → Bool)} (h : RowM w v fs) (hb : Below w.heap.size w w') : RowM w' v fs := by
  obtain ⟨p, c, h1, h2, h3⟩ := h
  refine ⟨p, c, h1, h2, fun i f hi => ?_⟩
  obtain ⟨g, o, e, hr⟩ := h3 i f hi
  exact ⟨g, o, e, range_later hr hb⟩
set_option maxRecDepth 100000 in
set_option maxHeartbeats 1000000 in
theorem rsame_true (fs : List (Nat → Bool)) (va vb : Value) (w : World) (h : RowM w va fs) (h' : RowM w vb fs) :
    Calls Tryz.prog 9 #[va, vb] w fun e w' => e = .returned (.bool true) ∧ Below w.heap.size w w' := by
  obtain ⟨p, c, rfl, hl, hrow⟩ := h
  obtain ⟨p', c', rfl, _, hrow'⟩ := h'
  by_cases hn : fs = []
  · subst hn
    clear hrow hrow'
    go_enter Tryz.func9, Tryz.ntmps9
    go_wp2_with fail
    refine wp_loop_rounds 1 ?_
    rw [rounds_succ]
    go_wp2_with fail
    go_ret
    exact ⟨rfl, Below.refl _ _⟩
  · obtain ⟨f0, hf0⟩ : ∃ f, fs[0]? = some f := ⟨fs[0]'(List.length_pos_iff.2 hn), List.getElem?_eq_getElem _⟩
    obtain ⟨g, o, rfl, _⟩ := hrow 0 f0 hf0
    obtain ⟨g', o', rfl, _⟩ := hrow' 0 f0 hf0
    have HC := hid5 hrow
    have HC' := hid5 hrow'
    have hlI : (fs.length : Int) ≤ 40 := by omega
    clear hrow hrow' hn hf0
    go_enter Tryz.func9, Tryz.ntmps9
    go_wp2_with fail
    go_loopw [5, 13] (fun _ i wr => ∃ k : Nat, k ≤ fs.length ∧ i = .int .i64 k ∧ Below w.heap.size w wr) (fun _ i _ => fs.length - (intOf i).toNat)
    case atStart => exact ⟨0, Nat.zero_le _, rfl, Below.refl _ _⟩
    case round =>
      obtain ⟨k, hk, rfl, hbel⟩ := hrel
      by_cases hlt : k < fs.length
      · obtain ⟨f, hf⟩ : ∃ f, fs[k]? = some f := ⟨fs[k], List.getElem?_eq_getElem hlt⟩
        obtain ⟨q, x, e, hr⟩ := HC.out k f hf
        cases e
        obtain ⟨q, x, e, hr'⟩ := HC'.out k f hf
        cases e
        have HR := hid5 (range_later hr hbel)
        have HR' := hid5 (range_later hr' hbel)
        have hi0 : (0 : Int) ≤ (k : Int) := by omega
        have hi1 : (k : Int) < (fs.length : Int) := by omega
        clear hr hr' hf HC HC'
        go_wp2_with fail
        refine wp_region_lastK (Below wr.heap.size wr) ((Below.refl _ _).drew) (by kernel_rfl) (by kernel_rfl) (by kernel_rfl) (by kernel_rfl) 8 (by kernel_rfl) (by kernel_rfl) [(16, .slice (some ⟨g, o, none⟩) fs.length c), (17, .int .i64 (k : Int)), (18, .pointer (some ⟨g, o + k * 23, none⟩)), (19, .agg (mv f)), (20, .slice (some ⟨g', o', none⟩) fs.length c'), (21, .int .i64 (k : Int)), (22, .pointer (some ⟨g', o' + k * 23, none⟩)), (23, .agg (mv f))] (by kernel_rfl) (by kernel_rfl) ?_ ?_
        · intro i' s v o' L A W2 ho hv hdep hJ hkept hhas
          match i', ho, hv with
          | 0, ho, hv =>
            cases Option.some.inj ho
            cases Option.some.inj hv
            have h0 : A.tmps[0]?.getD undef = .slice (some ⟨g, o, none⟩) fs.length c := (gd A 0).trans (hkept 0 (by kernel_rfl))
            refine wpOp_step rfl (fun K hK => ?_)
            go_simp
            exact hK _ _ ⟨rfl, hJ⟩
          | 1, ho, hv =>
            cases Option.some.inj ho
            cases Option.some.inj hv
            have h5 : A.tmps[5]?.getD undef = .int .i64 (k : Int) := (gd A 5).trans (hkept 5 (by kernel_rfl))
            refine wpOp_step rfl (fun K hK => ?_)
            go_simp
            exact hK _ _ ⟨rfl, hJ⟩
          | 2, ho, hv =>
            cases Option.some.inj ho
            cases Option.some.inj hv
            have h16 : A.tmps[16]?.getD undef = .slice (some ⟨g, o, none⟩) fs.length c := (gd A 16).trans (hhas 0 16 _ rfl (hdep ⟨0, .data⟩ (by simp) rfl))
            have h17 : A.tmps[17]?.getD undef = .int .i64 (k : Int) := (gd A 17).trans (hhas 1 17 _ rfl (hdep ⟨1, .data⟩ (by simp) rfl))
            refine wpOp_step rfl (fun K hK => ?_)
            go_simp
            exact hK _ _ ⟨rfl, hJ⟩
          | 3, ho, hv =>
            cases Option.some.inj ho
            cases Option.some.inj hv
            have h18 : A.eval (.tmp 18) = .pointer (some ⟨g, o + k * 23, none⟩) := hhas 2 18 _ rfl (hdep ⟨2, .data⟩ (by simp) rfl)
            refine wpOp_step rfl (fun K hK => ?_)
            show Oper.wp _ _ _ _ _ _
            refine wp_load_mask _ rfl g (o + k * 23) h18 f (range_later HR.out hJ) ?_
            exact hK _ _ ⟨rfl, hJ⟩
          | 4, ho, hv =>
            cases Option.some.inj ho
            cases Option.some.inj hv
            have h1 : A.tmps[1]?.getD undef = .slice (some ⟨g', o', none⟩) fs.length c' := (gd A 1).trans (hkept 1 (by kernel_rfl))
            refine wpOp_step rfl (fun K hK => ?_)
            go_simp
            exact hK _ _ ⟨rfl, hJ⟩
          | 5, ho, hv =>
            cases Option.some.inj ho
            cases Option.some.inj hv
            have h5 : A.tmps[5]?.getD undef = .int .i64 (k : Int) := (gd A 5).trans (hkept 5 (by kernel_rfl))
            refine wpOp_step rfl (fun K hK => ?_)
            go_simp
            exact hK _ _ ⟨rfl, hJ⟩
          | 6, ho, hv =>
            cases Option.some.inj ho
            cases Option.some.inj hv
            have h20 : A.tmps[20]?.getD undef = .slice (some ⟨g', o', none⟩) fs.length c' := (gd A 20).trans (hhas 4 20 _ rfl (hdep ⟨4, .data⟩ (by simp) rfl))
            have h21 : A.tmps[21]?.getD undef = .int .i64 (k : Int) := (gd A 21).trans (hhas 5 21 _ rfl (hdep ⟨5, .data⟩ (by simp) rfl))
            refine wpOp_step rfl (fun K hK => ?_)
            go_simp
            exact hK _ _ ⟨rfl, hJ⟩
          | 7, ho, hv =>
            cases Option.some.inj ho
            cases Option.some.inj hv
            have h22 : A.eval (.tmp 22) = .pointer (some ⟨g', o' + k * 23, none⟩) := hhas 6 22 _ rfl (hdep ⟨6, .data⟩ (by simp) rfl)
            refine wpOp_step rfl (fun K hK => ?_)
            show Oper.wp _ _ _ _ _ _
            refine wp_load_mask _ rfl g' (o' + k * 23) h22 f (range_later HR'.out hJ) ?_
            exact hK _ _ ⟨rfl, hJ⟩
          | kk + 8, ho, hv => simp at hv
        · intro o' W2 A ho hJ hA
          cases Option.some.inj ho
          have h19 : A.tmps[19]?.getD undef = .agg (mv f) := by
            rw [hA]
            simp only [putAll_cons, putAll_nil, Act.put, List.setIfInBounds_toArray, List.set_cons_succ, List.set_cons_zero]
            rfl
          have h23 : A.tmps[23]?.getD undef = .agg (mv f) := by
            rw [hA]
            simp only [putAll_cons, putAll_nil, Act.put, List.setIfInBounds_toArray, List.set_cons_succ, List.set_cons_zero]
            rfl
          have HA := hid5 hA
          have hq := neq_same f
          clear hA
          refine wpOp_step rfl (fun K hK => ?_)
          go_simp
          refine hK _ _ ⟨⟨_, rfl⟩, ?_⟩
          have hA := HA.out
          clear HA hq h19 h23
          change Exit.then _ _ Exit.normal (A.put (some 24) (.bool false)) _
          subst hA
          simp only [putAll_cons, putAll_nil, Act.put, List.setIfInBounds_toArray, List.set_cons_succ, List.set_cons_zero]
          have hbN := hbel.trans (hJ.mono hbel.size)
          clear hK hJ
          go_wp2_with fail
          go_roundw
          case rel => exact ⟨k + 1, by omega, by go_num, hbN⟩
          case measure => simp [intOf]; omega
      · have hi1 : ¬ (k : Int) < (fs.length : Int) := by omega
        clear HC HC'
        go_wp2_with fail
        go_ret
        exact ⟨rfl, hbel⟩
end Go.Proofs.YtgfjbcdjpkcbkaaGreatDoor

/- What the law MeanMore comes to. Written by genmm.py. -/
namespace Go.Proofs.YtgfjbcdjpkcbkaaGreatDoor
open Go.RowKit Lx Msk
theorem RowM.apart {w : World} {v : Value} {fs : List (Nat → Bool)} {g : Nat} {a b : Int} {cs : Array Value} (h : RowM w v fs) (hg : w.heap[g]? = some (.cells #[.int .i64 a, .int .i64 b] 26 (0, 0))) : RowM (w.setRow g cs) v fs := by
  obtain ⟨p, c, h1, h2, h3⟩ := h
  refine ⟨p, c, h1, h2, fun i f hi => ?_⟩
  obtain ⟨q, o, e, hr⟩ := h3 i f hi
  refine ⟨q, o, e, fun j u hu => ?_⟩
  have hne : q ≠ g := fun e => by
    subst e
    have h0 := hr 0 (.int .u64 (wd f 0 : Int)) (by rw [Array.getElem?_toList]; exact mv_get f 0 (by decide))
    rw [cell_of_row _ _ _ _ _ _ hg] at h0
    have hlt : o + i * 23 + 0 < 2 := by
      by_cases hx : o + i * 23 + 0 < 2
      · exact hx
      · rw [Array.getElem?_eq_none (by simp; omega)] at h0; cases h0
    match hk : o + i * 23 + 0, hlt, h0 with
    | 0, _, h0 => cases h0
    | 1, _, h0 => cases h0
  rw [← hr j u hu]
  exact World.cell?_of_block (setRow_other _ _ _ _ hne)
theorem PT2.below {w w' : World} (h : PT2 w) (hb : Below w.heap.size w w') : PT2 w' := fun W hW => h W (hb.trans (hW.mono hb.size))
end Go.Proofs.YtgfjbcdjpkcbkaaGreatDoor

/- What slotlaw6.of comes to. Written by genof.py. -/
namespace Go.Proofs.YtgfjbcdjpkcbkaaGreatDoor
open Go.RowKit Lx Msk
end Go.Proofs.YtgfjbcdjpkcbkaaGreatDoor

/- What is weekly, and what has dates, beside rules: plain; and an expression put around another one. -/
namespace Go.Proofs.YtgfjbcdjpkcbkaaGreatDoor
open Go.RowKit Lx Msk
end Go.Proofs.YtgfjbcdjpkcbkaaGreatDoor

/- How rules that came in read: a tree of expressions for each, in memory as it is. -/
namespace Go.Proofs.YtgfjbcdjpkcbkaaGreatDoor
open Go.ChangeShapes Go.WideShapes Go.ChangeAt Go.WideMaps Go.WideElems Go.RowKit Go.Joins Lx
variable {H : Type} {enc : TypeId × Value → H} {W : World}
theorem inE : Tryz.prog.cellsOf 31 = 5 := by kernel_rfl
theorem inR : Tryz.prog.cellsOf 33 = 6 := by kernel_rfl
theorem inI : Tryz.prog.cellsOf 3 = 1 := by kernel_rfl
theorem inS : Tryz.prog.cellsOf 9 = 1 := by kernel_rfl
theorem inL : Tryz.prog.cellsOf 29 = 1 := by kernel_rfl
theorem in_add (g o n : Nat) : (⟨g, o, none⟩ : Addr).add n = ⟨g, o + n, none⟩ := by
  by_cases h : n = 0
  · subst h; simp [Addr.add]
  · simp [Addr.add, h]
theorem KidsB.up {B : Nat → Prop} : ∀ {d : Nat} {w : World} {sl : Value} {ks : List Ex}, KidsB B d w sl ks → KidsB B (d + 1) w sl ks
  | 0, _, _, _, h => .inl h
  | d + 1, w, sl, ks, h => by
    rcases h with h | ⟨g, o, c, hB, hs, hl, hk⟩
    · exact .inl h
    · refine .inr ⟨g, o, c, hB, hs, hl, fun j k hj => ?_⟩
      obtain ⟨hn, sk, c0, c1, c2, c3, c4, r⟩ := hk j k hj
      exact ⟨hn, sk, c0, c1, c2, c3, c4, KidsB.up r⟩
theorem KidsB.nil (B : Nat → Prop) (d : Nat) (w : World) (p : Option Addr) (c : Nat) : KidsB B d w (.slice p 0 c) [] := by
  cases d with
  | zero => exact ⟨rfl, p, c, rfl⟩
  | succ d => exact .inl ⟨rfl, p, c, rfl⟩
theorem five {α : Type} {l : List α} (h : l.length = 5) : ∃ a b c d e, l = [a, b, c, d, e] := by
  match l, h with
  | [a, b, c, d, e], _ => exact ⟨a, b, c, d, e, rfl⟩
set_option maxRecDepth 100000 in
theorem expr_parts {fuel : Nat} {cs : List Value} {y : DataW H × List MemPlace} (h : DataW.trod enc Tryz.prog W 0 (fun _ => true) true fuel 31 cs = some y) :
    ∃ (k a b : Int) (s : ByteArray) (sl : Value) (m : Nat) (z : DataW H × List MemPlace), fuel = m + 1 ∧ cs = [.int .i64 k, .int .i64 a, .int .i64 b, .string s, sl] ∧ s.size ≤ maxLen ∧ DataW.trod enc Tryz.prog W 0 (fun _ => true) true m 29 [sl] = some z := by
  obtain ⟨xs, m, hf, _, hl, hx, hall⟩ := DataW.trod_struct Tryz.underlying31 h
  rw [inE] at hl
  have hx5 : xs.length = 5 := hx
  obtain ⟨c0, c1, c2, c3, c4, rfl⟩ := five hl
  obtain ⟨x0, x1, x2, x3, x4, rfl⟩ := five hx5
  have h0 : DataW.trod enc Tryz.prog W 0 (fun _ => true) true m 3 (([c0, c1, c2, c3, c4].drop 0).take (Tryz.prog.cellsOf 3)) = some x0 := hall 0 _ rfl
  have h1 : DataW.trod enc Tryz.prog W 0 (fun _ => true) true m 3 (([c0, c1, c2, c3, c4].drop 1).take (Tryz.prog.cellsOf 3)) = some x1 := hall 1 _ rfl
  have h2 : DataW.trod enc Tryz.prog W 0 (fun _ => true) true m 3 (([c0, c1, c2, c3, c4].drop 2).take (Tryz.prog.cellsOf 3)) = some x2 := hall 2 _ rfl
  have h3 : DataW.trod enc Tryz.prog W 0 (fun _ => true) true m 9 (([c0, c1, c2, c3, c4].drop 3).take (Tryz.prog.cellsOf 9)) = some x3 := hall 3 _ rfl
  have h4 : DataW.trod enc Tryz.prog W 0 (fun _ => true) true m 29 (([c0, c1, c2, c3, c4].drop 4).take (Tryz.prog.cellsOf 29)) = some x4 := hall 4 _ rfl
  rw [inI] at h0 h1 h2
  rw [inS] at h3
  rw [inL] at h4
  obtain ⟨k, e0, _⟩ := DataW.trod_int Tryz.underlying3 h0
  obtain ⟨a, e1, _⟩ := DataW.trod_int Tryz.underlying3 h1
  obtain ⟨b, e2, _⟩ := DataW.trod_int Tryz.underlying3 h2
  obtain ⟨s, e3, _, hs⟩ := DataW.trod_string Tryz.underlying9 h3
  simp at e0 e1 e2 e3
  subst e0 e1 e2 e3
  exact ⟨k, a, b, s, c4, m, x4, hf, rfl, hs, h4⟩
theorem str_list (s : ByteArray) : (⟨(s.data.toList).toArray⟩ : ByteArray) = s := by simp
set_option maxRecDepth 100000 in
theorem open_kids : ∀ (fuel : Nat) (cs : List Value) (x : DataW H × List MemPlace), DataW.trod enc Tryz.prog W 0 (fun _ => true) true fuel 29 cs = some x →
    ∃ (sl : Value) (ks : List Ex), cs = [sl] ∧ KidsB (fun k => k < W.heap.size) fuel W sl ks := by
  intro fuel
  induction fuel using Nat.strongRecOn with
  | ind fuel ih =>
    intro cs x h
    rcases DataW.trod_slice Tryz.underlying29 h with ⟨e, _⟩ | ⟨a, len, cap, elems, rest, m, hf, e, _, _, hlc, hm, hlen, hel, _⟩
    · exact ⟨_, [], e, KidsB.nil _ _ _ _ _⟩
    · by_cases hz : len = 0
      · subst hz
        exact ⟨_, [], e, KidsB.nil _ _ _ _ _⟩
      · obtain ⟨g, o, s⟩ := a
        have each : ∀ i, i < len → ∃ (k : Ex) (sk : Value), s = none ∧ g < W.heap.size ∧ k.name.length ≤ 9223372036854775807 ∧
            W.cell? ⟨g, o + i * 5, none⟩ = some (.int .i64 k.kind) ∧ W.cell? ⟨g, o + i * 5 + 1, none⟩ = some (.int .i64 k.a) ∧ W.cell? ⟨g, o + i * 5 + 2, none⟩ = some (.int .i64 k.b) ∧
            W.cell? ⟨g, o + i * 5 + 3, none⟩ = some (.string ⟨k.name.toArray⟩) ∧ W.cell? ⟨g, o + i * 5 + 4, none⟩ = some sk ∧ KidsB (fun k => k < W.heap.size) m W sk k.kids := by
          have spot : s = none := by
            have h1 := hel 0 (by omega)
            rw [inE] at h1
            have hy : elems[0]? = some (elems[0]'(by omega)) := List.getElem?_eq_getElem _
            rw [hy, Option.bind_eq_some_iff] at h1
            obtain ⟨cs', hc, ht⟩ := h1
            have q := (World.cells?_some hc).2.2 0 (by omega)
            have hl' := (World.cells?_some hc).2.1
            have e0 : cs'[0]? = some (cs'[0]'(by omega)) := List.getElem?_eq_getElem _
            rw [e0] at q
            have q' := World.cell?_spot q
            simpa [Addr.add] using q'
          subst spot
          intro i hi
          have h1 := hel i hi
          rw [inE] at h1
          have hy : elems[i]? = some (elems[i]'(by omega)) := List.getElem?_eq_getElem _
          rw [hy, Option.bind_eq_some_iff] at h1
          obtain ⟨cs', hc, ht⟩ := h1
          obtain ⟨k, a, b, nm, sl, m', z, hm', hcs, hs, htk⟩ := expr_parts ht
          subst hcs
          have q := (World.cells?_some hc).2.2
          rw [in_add] at q
          have q0 := q 0 (by omega)
          have q1 := q 1 (by omega)
          have q2 := q 2 (by omega)
          have q3 := q 3 (by omega)
          have q4 := q 4 (by omega)
          simp only [in_add, Nat.add_zero] at q0 q1 q2 q3 q4
          obtain ⟨sl', ks, esl, hkk⟩ := ih m' (by omega) [sl] z htk
          have esl' : sl = sl' := by simpa using esl
          subst esl'
          subst hm'
          refine ⟨⟨k, a, b, nm.data.toList, ks⟩, sl, rfl, ?_, ?_, ?_, ?_, ?_, ?_, ?_, hkk.up⟩
          · exact block_lt_of_cell (a := ⟨g, o + i * 5, none⟩) (by simpa using q0)
          · rw [← Lib.size_eq]; unfold maxLen at hs; exact hs
          · simpa using q0
          · simpa using q1
          · simpa using q2
          · rw [str_list]; simpa using q3
          · simpa using q4
        have hs0 : s = none := by obtain ⟨_, _, h, _⟩ := each 0 (by omega); exact h
        have hg0 : g < W.heap.size := by obtain ⟨_, _, _, h, _⟩ := each 0 (by omega); exact h
        subst hs0
        let pick : Nat → Ex := fun i => if h : i < len then Classical.choose (each i h) else ex0
        have hpick : ∀ i (h : i < len), pick i = Classical.choose (each i h) := fun i h => by simp only [pick, h, dif_pos]
        refine ⟨.slice (some ⟨g, o, none⟩) len cap, (List.range len).map pick, e, ?_⟩
        subst hf
        refine .inr ⟨g, o, cap, hg0, by simp, by simp; unfold maxLen at hm; omega, fun j k hj => ?_⟩
        have hjl : j < len := by
          have := (List.getElem?_eq_some_iff.1 hj).1
          simpa using this
        have hk : k = pick j := by
          rw [List.getElem?_map, List.getElem?_range hjl] at hj
          exact (Option.some.inj hj).symm
        rw [hk, hpick j hjl]
        obtain ⟨sk, _, _, h3, h4⟩ := Classical.choose_spec (each j hjl)
        exact ⟨h3, sk, h4⟩
end Go.Proofs.YtgfjbcdjpkcbkaaGreatDoor

/- Signs, beside rules: plain; and two expressions put together. -/
namespace Go.Proofs.YtgfjbcdjpkcbkaaGreatDoor
open Go.RowKit Lx Msk
section
variable {l : List Ru} {nm : List UInt8} {e e' : Ex}
end
section
variable {l : List Ru} {a b : Ex} {day : Int}
end
theorem KidsB.upTo {B : Nat → Prop} {d : Nat} {w : World} {sl : Value} {ks : List Ex} (h : KidsB B d w sl ks) : ∀ n, KidsB B (d + n) w sl ks
  | 0 => h
  | n + 1 => (KidsB.upTo h n).up
end Go.Proofs.YtgfjbcdjpkcbkaaGreatDoor
