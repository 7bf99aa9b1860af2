/- What parse.Parse comes to. -/
import Derived.Test.YtpmobjgnmidolaaGreatDoorDz21
import Derived.MapKept
import Derived.Carry
import Derived.Test.YtpmobjgnmidolaaGreatDoorDz12
import Derived.Test.YtpmobjgnmidolaaGreatDoorDz10
import Derived.Lib.ConvBytes
import Derived.Test.YtpmobjgnmidolaaGreatDoorDz15
import Derived.Test.YtpmobjgnmidolaaGreatDoorDz05
namespace Go.Proofs.YtpmobjgnmidolaaGreatDoor
open Go.RowKit Lx
theorem valL_six (l : List UInt8) (h : ∀ i, i < l.length → isD (l.getD i 0) = true) (h6 : l.length ≤ 6) : 0 ≤ valL l ∧ valL l ≤ 999999 := by
  have b := valL_small l h l.length (Nat.le_refl _) h6
  rw [List.take_length] at b
  omega
theorem run_digits (l : List UInt8) : ∀ i, i < (l.take (runOf isD l)).length → isD ((l.take (runOf isD l)).getD i 0) = true := by
  intro i hi
  have hle := runOf_le isD l
  rw [List.length_take, Nat.min_eq_left hle] at hi
  have := runOf_all isD l i hi
  rw [List.getD_eq_getElem?_getD] at this ⊢
  rw [List.getElem?_take, if_pos hi]
  exact this
theorem first_num (l : List UInt8) (he : (firstT l).err = 0) : 0 ≤ (firstT l).n ∧ (firstT l).n ≤ 999999 := by
  unfold firstT at he ⊢
  split at he
  · rename_i hf
    rw [if_pos hf]
    unfold dateT at he ⊢
    split at he
    · rename_i h
      rw [if_pos h]
      unfold numE at h ⊢
      split at h
      · rename_i hv
        rw [if_pos hv]
        have := Cal.num_bd _ _ _ hv.1 hv.2
        show 0 ≤ Cal.num _ _ _ ∧ Cal.num _ _ _ ≤ 999999
        omega
      · simp at h
    · simp [bad] at he
  · rename_i hf
    rw [if_neg hf]
    split at he
    · rename_i hf2
      rw [if_pos hf2]
      have p1 := dig_part hf2 0 2 (by decide) (fun i hi => by match i, hi with | 0, _ => rfl | 1, _ => rfl)
      have p2 := dig_part hf2 3 2 (by decide) (fun i hi => by match i, hi with | 0, _ => rfl | 1, _ => rfl)
      have q1 := valL_six _ p1.2 (by omega)
      have q2 := valL_six _ p2.2 (by omega)
      unfold timeT at he ⊢
      split at he
      · simp [bad] at he
      · rename_i h
        rw [if_neg h]
        simp only
        omega
    · rename_i hf2
      rw [if_neg hf2]
      split at he
      · rename_i hd
        rw [if_pos hd]
        unfold numT at he ⊢
        split at he
        · simp [bad] at he
        · rename_i h
          rw [if_neg h]
          have hle := runOf_le isD l
          exact valL_six _ (run_digits l) (by rw [List.length_take, Nat.min_eq_left hle]; omega)
      · rename_i hd
        rw [if_neg hd]
        split at he
        · rename_i hL
          rw [if_pos hL]
          unfold wordT at he ⊢
          split at he
          · simp [bad] at he
          · rename_i h
            rw [if_neg h]; simp
        · rename_i hL
          rw [if_neg hL]
          unfold signT at he ⊢
          split at he
          · rename_i hp
            rw [if_pos hp]; simp
          · rename_i hp
            rw [if_neg hp]
            split at he
            · simp [bad] at he
            · rename_i h
              rw [if_neg h]; simp
theorem lexed_num {l : List UInt8} {ts : List Tk} {k : Nat} (h : Lexed l ts k) : ∀ p ∈ ts, 0 ≤ p.1.n ∧ p.1.n ≤ 999999 := by
  obtain ⟨n, hn⟩ := h
  refine Lexed.ind (M := fun ts _ => ∀ p ∈ ts, 0 ≤ p.1.n ∧ p.1.n ≤ 999999) (fun p hp => by cases hp) ?_ n hn
  intro ts k _ _ he ih p hp
  rcases List.mem_append.1 hp with h | h
  · exact ih p h
  · have e : p = (firstT (l.drop k), k) := by simpa using h
    rw [e]; exact first_num _ he
theorem RowR.later {w0 w1 w w' : World} {vr : Value} {us : List (Ru × Value)} (h : RowR w0 w vr us) (hk : ∀ k, w0.heap.size ≤ k → w'.heap[k]? = w.heap[k]?) (hb : w1.heap.size ≤ w0.heap.size) : RowR w1 w' vr us := by
  refine ⟨?_, fun p hp => ?_⟩
  · obtain ⟨h1, h2⟩ := h.own
    refine ⟨h1, ?_⟩
    rcases h2 with h2 | ⟨g, cap, cur, hv, hg, hh, r⟩
    · exact .inl h2
    · exact .inr ⟨g, cap, cur, hv, by omega, (hk g hg).trans hh, r⟩
  · obtain ⟨d, hd⟩ := h.kids p hp
    exact ⟨d, (hd.kept fun k hB _ => hk k hB).mono fun k hB => by omega⟩
theorem caught_other (p q : Nat) (er at_ : Int) (w : World) (k : Nat) (h1 : k ≠ p) (h2 : k ≠ q) : (caught p q er at_ w).heap[k]? = w.heap[k]? := by
  unfold caught
  rw [heap_setCell_other _ _ _ _ h2, heap_setCell_other _ _ _ _ h2, heap_setCell_other _ _ _ _ h1]
def PTells (l : List UInt8) (w0 w : World) (v : Value) (er at_ : Int) : Prop :=
  (6000 < l.length ∧ v = .slice none 0 0 ∧ er = 4 ∧ at_ = 0) ∨
  (∃ (ts : List Tk) (k : Nat), l.length ≤ 6000 ∧ Lexed l ts k ∧ k < l.length ∧ (firstT (l.drop k)).err ≠ 0 ∧ v = .slice none 0 0 ∧ er = (firstT (l.drop k)).err ∧ at_ = (k : Int)) ∨
  (∃ (ts : List Tk) (k : Nat) (er' : Int) (at' : Nat), l.length ≤ 6000 ∧ Lexed l ts k ∧ ¬ k < l.length ∧ rulesR l.length (ts.length + 1) [] ts = .error (er', at') ∧ v = .slice none 0 0 ∧ er = er' ∧ at_ = (at' : Int)) ∨
  (∃ (ts : List Tk) (k : Nat) (us : List (Ru × Value)), l.length ≤ 6000 ∧ Lexed l ts k ∧ ¬ k < l.length ∧ rulesR l.length (ts.length + 1) [] ts = .ok (us.map (fun p => p.1)) ∧ us.length ≤ 40 ∧ RowR w0 w v us ∧ er = 0 ∧ at_ = 0)
theorem parse_leaves {tmps : Array Value} {R : Ending → World → Prop} {w : World} (p q : Nat) (a : Option Addr) (b c : Nat) (er at_ : Int) (h2 : tmps.getD 2 undef = .pointer (some ⟨p, 0, none⟩)) (h3 : tmps.getD 3 undef = .pointer (some ⟨q, 0, none⟩))
    (hp : w.heap[p]? = some (.cells #[.slice a b c] 22 (0, 0))) (hq : w.heap[q]? = some (.cells #[.int .i64 er, .int .i64 at_] 27 (0, 0))) (hR : R (.returned (.tuple #[.slice a b c, .agg #[.int .i64 er, .int .i64 at_]])) w) : Leaves Tryz.prog Tryz.f16 tmps R [] .returning w := by
  refine ⟨.tuple #[.slice a b c, .agg #[.int .i64 er, .int .i64 at_]], ?_, hR⟩
  have h2' : tmps[2]?.getD undef = .pointer (some ⟨p, 0, none⟩) := by simpa using h2
  have h3' : tmps[3]?.getD undef = .pointer (some ⟨q, 0, none⟩) := by simpa using h3
  have kp : w.cell? ⟨p, 0, none⟩ = some (.slice a b c) := (cell_of_row _ _ 0 _ _ _ hp).trans rfl
  have kq0 : w.cell? ⟨q, 0, none⟩ = some (.int .i64 er) := (cell_of_row _ _ 0 _ _ _ hq).trans rfl
  have kq1 : w.cell? ⟨q, 1, none⟩ = some (.int .i64 at_) := (cell_of_row _ _ 1 _ _ _ hq).trans rfl
  simp [results, Tryz.results16, h2', h3', asAddr, kp, kq0, kq1, go_sem]
set_option maxRecDepth 100000 in
set_option maxHeartbeats 4000000 in
theorem parse_any (s : ByteArray) (l : List UInt8) (hs : s.data.toList = l) (hl : l.length ≤ 9223372036854775807) (w : World) (hT : CTab w) (hD : DTab w) :
    Calls Tryz.prog 16 #[.string s] w fun e w' => (∃ v er at_, e = .returned (.tuple #[v, .agg #[.int .i64 er, .int .i64 at_]]) ∧ PTells l w w' v er at_) ∧ Below w.heap.size w w' := by
  have hz : s.size = l.length := by rw [← hs, Lib.size_eq]
  have hmf : ∀ (fn : Fn) (first cap : Array Value) (w : World), (Instr.makeFunc fn first cap).run Tryz.prog w = .ok (.func fn first cap) w := fun _ _ _ _ => rfl
  have hbA := (Below.refl w.heap.size w).alloc (Nat.le_refl _) (.cells #[.slice none 0 0] 22)
  have hbB := hbA.alloc hbA.size (.cells #[.int .i64 0, .int .i64 0] 27)
  have hp2 := (Below.heap_alloc _ (.cells #[.int .i64 0, .int .i64 0] 27) _ (lt_of_block (heap_alloc_new w (.cells #[.slice none 0 0] 22)))).trans (heap_alloc_new w (.cells #[.slice none 0 0] 22))
  have hp3 := heap_alloc_new (w.alloc (.cells #[.slice none 0 0] 22)) (.cells #[.int .i64 0, .int .i64 0] 27)
  rw [show (w.alloc (.cells #[.slice none 0 0] 22)).heap.size = w.heap.size + 1 by simp] at hp3
  have hszB : ((w.alloc (.cells #[.slice none 0 0] 22)).alloc (.cells #[.int .i64 0, .int .i64 0] 27)).heap.size = w.heap.size + 2 := by simp
  generalize hwB : (w.alloc (.cells #[.slice none 0 0] 22)).alloc (.cells #[.int .i64 0, .int .i64 0] 27) = wB at *
  have cX := lex_any s l hs hl wB (hT.below hbB)
  go_enter_defers Tryz.func16, Tryz.ntmps16
  go_wp2_with fail
  refine cX.mono ?_
  rintro e w1 ⟨⟨v, er, at_, rfl, hx⟩, hb1⟩
  have hq2 := (hb1.block _ (lt_of_block hp2)).trans hp2
  have hq3 := (hb1.block _ (lt_of_block hp3)).trans hp3
  have hb1w := hbB.trans (hb1.mono hbB.size)
  have hsz1 := hb1.size
  clear hp2 hp3 cX hwB
  have hr3 := setRow_heap w1 (w.heap.size + 1) _ #[.int .i64 er, .int .i64 at_] _ _ hq3
  have hr2 := (setRow_other w1 (w.heap.size + 1) w.heap.size #[.int .i64 er, .int .i64 at_] (by omega)).trans hq2
  have hbr : Below w.heap.size w (w1.setRow (w.heap.size + 1) #[.int .i64 er, .int .i64 at_]) := below_setRow hb1w (by omega) _
  have d0 : (w1.setRow (w.heap.size + 1) #[.int .i64 er, .int .i64 at_]).cell? ⟨w.heap.size + 1, 0, none⟩ = some (.int .i64 er) := (cell_of_row _ _ 0 _ _ _ hr3).trans rfl
  by_cases he : er = 0
  · subst he
    obtain ⟨ts, k, h6, hL, hk, ho⟩ : ∃ (ts : List Tk) (k : Nat), l.length ≤ 6000 ∧ Lexed l ts k ∧ ¬ k < l.length ∧ w1.ownsRow wB.heap.size 107 4 v ts.length (flatT ts) := by
      rcases hx with ⟨_, _, h, _⟩ | ⟨ts, k, _, _, _, he, _, h, _⟩ | ⟨ts, k, h1, h2, h3, h4, _⟩
      · cases h
      · exact absurd h.symm he
      · exact ⟨ts, k, h1, h2, h3, h4⟩
    have hle := hL.le
    have hnum := lexed_num hL
    have hown : ∀ b, v.ownBlock = some b → b < w1.heap.size ∧ wB.heap.size ≤ b := fun b hb => ⟨(ho.lt b hb).2, (ho.lt b hb).1⟩
    have hrow1 : TRow w1 v ts := trow_of_owns ho (by omega)
    have hsr : (w1.setRow (w.heap.size + 1) #[.int .i64 0, .int .i64 at_]).heap.size = w1.heap.size := by simp [World.setRow]
    have hrow2 : TRow (w1.setRow (w.heap.size + 1) #[.int .i64 0, .int .i64 at_]) v ts := by
      rcases hrow1 with h | ⟨gt, o, c, hv, hl', hc⟩
      · exact .inl h
      · refine .inr ⟨gt, o, c, hv, hl', fun j t k hj => ?_⟩
        obtain ⟨c1, c2, c3, c4⟩ := hc j t k hj
        have hne : gt ≠ w.heap.size + 1 := by
          have := (hown gt (by rw [hv]; rfl)).2
          omega
        have e : (w1.setRow (w.heap.size + 1) #[.int .i64 0, .int .i64 at_]).heap[gt]? = w1.heap[gt]? := setRow_other _ _ _ _ hne
        have ce : ∀ i, (w1.setRow (w.heap.size + 1) #[.int .i64 0, .int .i64 at_]).cell? ⟨gt, i, none⟩ = w1.cell? ⟨gt, i, none⟩ := fun i => World.cell?_of_block e
        exact ⟨(ce _).trans c1, (ce _).trans c2, (ce _).trans c3, (ce _).trans c4⟩
    have hDr : DTab (w1.setRow (w.heap.size + 1) #[.int .i64 0, .int .i64 at_]) := fun j hj => (hbr.cell (block_lt_of_cell (hD j hj))).trans (hD j hj)
    have hgd := block_lt_of_cell (hD 0 (by omega))
    obtain ⟨pv, cv, rfl⟩ := hrow1.form
    clear hx ho hrow1 hT
    generalize hWr : w1.setRow (w.heap.size + 1) #[.int .i64 0, .int .i64 at_] = Wr at *
    have hb4 : Below Wr.heap.size Wr (Wr.alloc (.cells #[.slice pv ts.length cv, .int .i64 0, .int .i64 (l.length : Int), .int .i64 0] 91)) := (Below.refl _ _).alloc (Nat.le_refl _) _
    have h0 : PS0 ts l.length Wr.heap.size (.slice pv ts.length cv) := ⟨by omega, h6, fun e => by have := (hown _ e).1; omega, hnum, by show 3 ≠ Wr.heap.size; have : 3 < w.heap.size := hgd; omega⟩
    have hst : PSt ts l.length Wr.heap.size (.slice pv ts.length cv) (Wr.alloc (.cells #[.slice pv ts.length cv, .int .i64 0, .int .i64 (l.length : Int), .int .i64 0] 91)) 0 0 :=
      ⟨heap_alloc_new Wr _, (Kept.of_below (g := Wr.heap.size + 1) hb4).row (fun e => by have := (hown _ e).1; omega) hrow2, by omega, (Kept.of_below (g := Wr.heap.size + 1) hb4).days (by show 3 ≠ Wr.heap.size + 1; have : 3 < w.heap.size := hgd; omega) hDr⟩
    have c4 := rules_any h0 hst
    rw [List.drop_zero] at c4
    have hp4 := (hb4.block _ (lt_of_block hr2)).trans hr2
    have hq4 := (hb4.block _ (lt_of_block hr3)).trans hr3
    have hbw4 := hbr.trans (hb4.mono hbr.size)
    have hs4 : (Wr.alloc (.cells #[.slice pv ts.length cv, .int .i64 0, .int .i64 (l.length : Int), .int .i64 0] 91)).heap.size = Wr.heap.size + 1 := by simp
    have hlz : w.heap.size + 1 < Wr.heap.size := lt_of_block hr3
    clear hb4 hst hDr hrow2 hown hnum
    have hsr' := hsr.symm
    clear hsr
    go_wp2_with (refine wpList_store_row rfl 27 _ _ rfl _ _ rfl rfl _ _ hq3 (by kernel_rfl) (by simp) (by simp [Value.oneCell']) ?_)
    refine c4.mono ?_
    intro e w5 ho
    cases hx : rulesR l.length (ts.length + 1) [] ts with
    | error q =>
      obtain ⟨er, at'⟩ := q
      rw [hx] at ho
      obtain ⟨rfl, hk5⟩ := ho
      have hp5 := hk5.at hp4 (by omega)
      have hq5 := hk5.at hq4 (by omega)
      have hq0 : (caught w.heap.size (w.heap.size + 1) er (at' : Int) w5).heap[w.heap.size]? = some (.cells #[.slice none 0 0] 22 (0, 0)) :=
        (heap_setCell_other _ _ _ _ (by show w.heap.size ≠ w.heap.size + 1; omega)).trans ((heap_setCell_other _ _ _ _ (by show w.heap.size ≠ w.heap.size + 1; omega)).trans (heap_setCell_same _ _ 0 _ _ _ hp5))
      have hq1 : (caught w.heap.size (w.heap.size + 1) er (at' : Int) w5).heap[w.heap.size + 1]? = some (.cells #[.int .i64 er, .int .i64 (at' : Int)] 27 (0, 0)) :=
        heap_setCell_same _ _ 1 _ _ _ (heap_setCell_same _ _ 0 _ _ _ ((heap_setCell_other _ _ _ _ (by show w.heap.size + 1 ≠ w.heap.size; omega)).trans hq5))
      have hbf : Below w.heap.size w (caught w.heap.size (w.heap.size + 1) er (at' : Int) w5) := by
        have hs5 := hk5.size
        refine ⟨hk5.os.trans hbw4.os, hk5.tape.trans hbw4.tape, hk5.output.trans hbw4.output, ?_, fun k hk => ?_⟩
        · have := hbw4.size
          simp [caught]; omega
        · rw [caught_other _ _ _ _ _ _ (by omega) (by omega), hk5.block k (by omega) (fun e => by have := Option.some.inj e; omega)]
          exact hbw4.block k hk
      show bodyPostD _ _ _ (Exit.panic _) _ _
      simp only [bodyPostD]
      refine leaves_cons (f := 40) (args := #[.pointer (some ⟨w.heap.size, 0, none⟩), .pointer (some ⟨w.heap.size + 1, 0, none⟩)]) (by simp) (by simp [go_sem]) ?_
      refine (catch_thrown w.heap.size (w.heap.size + 1) (by omega) _ _ _ er (at' : Int) w5 hp5 hq5).mono ?_
      rintro e u' w6 ⟨rfl, rfl, k, rfl⟩
      show Leaves _ _ _ _ [] (settle _) _
      simp only [settle, List.dropWhile_nil]
      exact parse_leaves w.heap.size (w.heap.size + 1) none 0 0 er (at' : Int) rfl rfl hq0 hq1 ⟨⟨_, _, _, rfl, .inr (.inr (.inl ⟨ts, _, er, at', h6, hL, hk, hx, rfl, rfl, rfl⟩))⟩, below_drewN hbf k⟩
    | ok rs =>
      rw [hx] at ho
      obtain ⟨vr, us, rfl, hus, hrow, hu40, hk5⟩ := ho
      have hp5 := hk5.at hp4 (by omega)
      have hq5 := hk5.at hq4 (by omega)
      obtain ⟨pr, cr, rfl⟩ := row_form hrow.own
      have kp := (cell_of_row _ _ 0 _ _ _ hp5).trans rfl
      have yp := frozen_of_row _ _ 0 _ _ hp5
      have hp6 : (w5.setCell ⟨w.heap.size, 0, none⟩ (.slice pr us.length cr)).heap[w.heap.size]? = some (.cells #[.slice pr us.length cr] 22 (0, 0)) := heap_setCell_same _ _ 0 _ _ _ hp5
      have hq6 := (heap_setCell_other w5 ⟨w.heap.size, 0, none⟩ (w.heap.size + 1) (.slice pr us.length cr) (by show w.heap.size + 1 ≠ w.heap.size; omega)).trans hq5
      have hp7 := (setRow_other (w5.setCell ⟨w.heap.size, 0, none⟩ (.slice pr us.length cr)) (w.heap.size + 1) w.heap.size #[.int .i64 0, .int .i64 0] (by omega)).trans hp6
      have hq7 := setRow_heap (w5.setCell ⟨w.heap.size, 0, none⟩ (.slice pr us.length cr)) (w.heap.size + 1) _ #[.int .i64 0, .int .i64 0] _ _ hq6
      have hoth : ∀ k, k ≠ w.heap.size → k ≠ w.heap.size + 1 → ((w5.setCell ⟨w.heap.size, 0, none⟩ (.slice pr us.length cr)).setRow (w.heap.size + 1) #[.int .i64 0, .int .i64 0]).heap[k]? = w5.heap[k]? := fun k h1 h2 => (setRow_other _ _ _ _ h2).trans (heap_setCell_other _ _ _ _ h1)
      have hbf : Below w.heap.size w ((w5.setCell ⟨w.heap.size, 0, none⟩ (.slice pr us.length cr)).setRow (w.heap.size + 1) #[.int .i64 0, .int .i64 0]) := by
        have hs5 := hk5.size
        refine ⟨hk5.os.trans hbw4.os, hk5.tape.trans hbw4.tape, hk5.output.trans hbw4.output, ?_, fun k hk => ?_⟩
        · have := hbw4.size
          simp [World.setRow]; omega
        · rw [hoth _ (by omega) (by omega), hk5.block k (by omega) (fun e => by have := Option.some.inj e; omega)]
          exact hbw4.block k hk
      have hrowF := hrow.later (w1 := w) (w' := (w5.setCell ⟨w.heap.size, 0, none⟩ (.slice pr us.length cr)).setRow (w.heap.size + 1) #[.int .i64 0, .int .i64 0]) (fun k hk => hoth k (by omega) (by omega)) hbw4.size
      have HP : Hid (PTells l w ((w5.setCell ⟨w.heap.size, 0, none⟩ (.slice pr us.length cr)).setRow (w.heap.size + 1) #[.int .i64 0, .int .i64 0]) (.slice pr us.length cr) 0 0) := .inr (.inr (.inr ⟨ts, k, us, h6, hL, hk, by rw [hx, hus], hu40, hrowF, rfl, rfl⟩))
      clear hrow hrowF c4 hx hus hoth hk5 hL hp4 hq4 hr2 hr3
      go_wp2_with (refine wpList_store_row rfl 27 _ _ rfl _ _ rfl rfl _ _ hq6 (by kernel_rfl) (by simp) (by simp [Value.oneCell']) ?_)
      simp only [bodyPostD]
      refine leaves_cons (f := 40) (args := #[.pointer (some ⟨w.heap.size, 0, none⟩), .pointer (some ⟨w.heap.size + 1, 0, none⟩)]) (by simp) (by simp [go_sem]) ?_
      refine (catch_idle _ _ _).mono ?_
      rintro e u' w6 ⟨rfl, rfl, rfl⟩
      show Leaves _ _ _ _ [] (settle _) _
      simp only [settle]
      exact parse_leaves w.heap.size (w.heap.size + 1) pr us.length cr 0 0 rfl rfl hp7 hq7 ⟨⟨_, _, _, rfl, HP.out⟩, hbf⟩
  · have hne : (er != 0) = true := by simpa using he
    have d1 : (w1.setRow (w.heap.size + 1) #[.int .i64 er, .int .i64 at_]).cell? ⟨w.heap.size + 1, 1, none⟩ = some (.int .i64 at_) := (cell_of_row _ _ 1 _ _ _ hr3).trans rfl
    have k0 : (w1.setRow (w.heap.size + 1) #[.int .i64 er, .int .i64 at_]).cell? ⟨w.heap.size, 0, none⟩ = some (.slice none 0 0) := (cell_of_row _ _ 0 _ _ _ hr2).trans rfl
    have y0 := frozen_of_row _ _ 0 _ _ hr2
    have y1 := frozen_of_row _ _ 0 _ _ hr3
    have y2 := frozen_of_row _ _ 1 _ _ hr3
    have HP : Hid (∀ W, PTells l w W (.slice none 0 0) er at_) := fun W => by
      rcases hx with ⟨h, _, h1, h2⟩ | ⟨ts, k, h6, hL, hk, he', _, h1, h2⟩ | ⟨ts, k, _, _, _, _, h1, _⟩
      · exact .inl ⟨h, rfl, h1, h2⟩
      · exact .inr (.inl ⟨ts, k, h6, hL, hk, he', rfl, h1, h2⟩)
      · exact absurd h1 he
    clear hx he
    generalize hWr : w1.setRow (w.heap.size + 1) #[.int .i64 er, .int .i64 at_] = Wr at *
    go_wp2_with (refine wpList_store_row rfl 27 _ _ rfl _ _ rfl rfl _ _ hq3 (by kernel_rfl) (by simp) (by simp [Value.oneCell']) ?_)
    go_region
    go_wp2_with fail
    have hf2 : (((Wr.setCell ⟨w.heap.size, 0, none⟩ (.slice none 0 0)).setCell ⟨w.heap.size + 1, 0, none⟩ (.int .i64 er)).setCell ⟨w.heap.size + 1, 1, none⟩ (.int .i64 at_)).heap[w.heap.size]? = some (.cells #[.slice none 0 0] 22 (0, 0)) :=
      (heap_setCell_other _ _ _ _ (by show w.heap.size ≠ w.heap.size + 1; omega)).trans ((heap_setCell_other _ _ _ _ (by show w.heap.size ≠ w.heap.size + 1; omega)).trans (heap_setCell_same _ _ 0 _ _ _ hr2))
    have hf3 : (((Wr.setCell ⟨w.heap.size, 0, none⟩ (.slice none 0 0)).setCell ⟨w.heap.size + 1, 0, none⟩ (.int .i64 er)).setCell ⟨w.heap.size + 1, 1, none⟩ (.int .i64 at_)).heap[w.heap.size + 1]? = some (.cells #[.int .i64 er, .int .i64 at_] 27 (0, 0)) :=
      heap_setCell_same _ _ 1 _ _ _ (heap_setCell_same _ _ 0 _ _ _ ((heap_setCell_other _ _ _ _ (by show w.heap.size + 1 ≠ w.heap.size; omega)).trans hr3))
    have hbf := ((hbr.setCell (p := ⟨w.heap.size, 0, none⟩) (Nat.le_refl _) (.slice none 0 0)).setCell (p := ⟨w.heap.size + 1, 0, none⟩) (by show w.heap.size ≤ w.heap.size + 1; omega) (.int .i64 er)).setCell (p := ⟨w.heap.size + 1, 1, none⟩) (by show w.heap.size ≤ w.heap.size + 1; omega) (.int .i64 at_)
    simp only [bodyPostD]
    exact parse_leaves w.heap.size (w.heap.size + 1) none 0 0 er at_ rfl rfl hf2 hf3 ⟨⟨_, _, _, rfl, HP.out _⟩, below_drewN hbf 1⟩
end Go.Proofs.YtpmobjgnmidolaaGreatDoor

/- The document's reader in memory, and what its small functions come to. -/
namespace Go.Proofs.YtpmobjgnmidolaaGreatDoor
open Go.RowKit Lx
variable {all : List Tk} {E g : Nat} {v : Value} {w : World} {i n : Nat} {er at_ : Int}
end Go.Proofs.YtpmobjgnmidolaaGreatDoor

/- What the document's need, get and made come to. -/
namespace Go.Proofs.YtpmobjgnmidolaaGreatDoor
open Go.RowKit Lx
variable {all : List Tk} {E g : Nat} {v : Value} {w : World} {i n : Nat} {er at_ : Int}
end Go.Proofs.YtpmobjgnmidolaaGreatDoor

/- What the document's get and made come to. -/
namespace Go.Proofs.YtpmobjgnmidolaaGreatDoor
open Go.RowKit Lx
variable {all : List Tk} {E g : Nat} {v : Value} {w : World} {i n : Nat} {er at_ : Int}
end Go.Proofs.YtpmobjgnmidolaaGreatDoor

/- What the document's Thing, Factor and Sum come to where something is wrong already: nothing turns. -/
namespace Go.Proofs.YtpmobjgnmidolaaGreatDoor
open Go.RowKit Lx
variable {all : List Tk} {E g : Nat} {v : Value} {w : World} {i n : Nat} {er at_ : Int}
end Go.Proofs.YtpmobjgnmidolaaGreatDoor

/- What the document's reader meets, in the plain reader's words. -/
namespace Go.Proofs.YtpmobjgnmidolaaGreatDoor
open Go.RowKit Lx
variable {all : List Tk} {E g : Nat} {v : Value} {w : World} {i n : Nat} {er at_ : Int}
end Go.Proofs.YtpmobjgnmidolaaGreatDoor

/- A map that is written out, and what is looked up in it. -/
namespace Go.Proofs.YtpmobjgnmidolaaGreatDoor
open Go.RowKit Lx
variable {w : World} {r : Nat} {es : Array MapEntry} {c : Nat}
end Go.Proofs.YtpmobjgnmidolaaGreatDoor

/- The map of how many kids a kind has, as the document writes it out, and what is looked up in it. -/
namespace Go.Proofs.YtpmobjgnmidolaaGreatDoor
open Go.RowKit Lx
variable {w : World} {r : Nat} {es : Array MapEntry} {c : Nat}
end Go.Proofs.YtpmobjgnmidolaaGreatDoor

/- What slotref3.digit, low, sign and Word come to. -/
namespace Go.Proofs.YtpmobjgnmidolaaGreatDoor
open Go.RowKit Lx
end Go.Proofs.YtpmobjgnmidolaaGreatDoor

/- What slotref3.digits comes to. -/
namespace Go.Proofs.YtpmobjgnmidolaaGreatDoor
open Go.RowKit Lx
end Go.Proofs.YtpmobjgnmidolaaGreatDoor

/- What slotref3.Named comes to. -/
namespace Go.Proofs.YtpmobjgnmidolaaGreatDoor
open Go.RowKit Lx
end Go.Proofs.YtpmobjgnmidolaaGreatDoor

/- What can be a name, of whatever length: the document's. -/
namespace Go.Proofs.YtpmobjgnmidolaaGreatDoor
open Go.RowKit Lx
end Go.Proofs.YtpmobjgnmidolaaGreatDoor

/- What the document's Shape comes to: what is wrong with an expression, counted on. -/
namespace Go.Proofs.YtpmobjgnmidolaaGreatDoor
open Go.RowKit Lx
variable {B : Nat → Prop} {gn : Nat}
end Go.Proofs.YtpmobjgnmidolaaGreatDoor

/- What the document's Wrong comes to. -/
namespace Go.Proofs.YtpmobjgnmidolaaGreatDoor
open Go.RowKit Lx
end Go.Proofs.YtpmobjgnmidolaaGreatDoor

/- What the document's Wrong comes to. -/
namespace Go.Proofs.YtpmobjgnmidolaaGreatDoor
open Go.RowKit Lx
end Go.Proofs.YtpmobjgnmidolaaGreatDoor

/- What the document's Mean comes to: what its walks share. Written by genrm.py. -/
namespace Go.Proofs.YtpmobjgnmidolaaGreatDoor
open Go.RowKit Lx Msk
def OutMn (ok : Bool) (F : Nat → Bool) (W : World) (r : Ending) (W' : World) : Prop := (∃ f, r = .returned (.tuple #[.agg (mv f), .bool ok]) ∧ (ok = true → f = F)) ∧ Below W.heap.size W W'
def mcl (F : Ex → Nat → Bool) (ks : List Ex) : List Value := (ks.map fun k => (mv (F k)).toList).flatten
theorem mcl_snoc (F : Ex → Nat → Bool) (ks : List Ex) (k : Ex) : mcl F (ks ++ [k]) = mcl F ks ++ (mv (F k)).toList := by simp [mcl]
theorem mcl_cons (F : Ex → Nat → Bool) (ks : List Ex) (k : Ex) : mcl F (k :: ks) = (mv (F k)).toList ++ mcl F ks := by simp [mcl]
def RKids (w : World) (LV : Value) (day : Int) (SK SM : Value) (pe : Option Addr) (ks : List Ex) (ok : Ex → Bool) (F : Ex → Nat → Bool) : Prop := ∀ (j : Nat) (k : Ex), ks[j]? = some k → ∃ (g o : Nat) (ps : Option Addr) (cs : Nat), pe = some ⟨g, o, none⟩ ∧
  w.cell? ⟨g, o + j * 5, none⟩ = some (.int .i64 k.kind) ∧ w.cell? ⟨g, o + j * 5 + 1, none⟩ = some (.int .i64 k.a) ∧ w.cell? ⟨g, o + j * 5 + 2, none⟩ = some (.int .i64 k.b) ∧
  w.cell? ⟨g, o + j * 5 + 3, none⟩ = some (.string ⟨k.name.toArray⟩) ∧ w.cell? ⟨g, o + j * 5 + 4, none⟩ = some (.slice ps k.kids.length cs) ∧
  ∀ W, Below w.heap.size w W → Calls Tryz.prog 15 #[.agg #[.int .i64 k.kind, .int .i64 k.a, .int .i64 k.b, .string ⟨k.name.toArray⟩, .slice ps k.kids.length cs], LV, .int .i64 day, SK, SM] W (OutMn (ok k) (F k) W)
def RmRel (wA : World) (ks : List Ex) (ok : Ex → Bool) (F : Ex → Nat → Bool) (q t : Value) (wr : World) : Prop := ∃ j : Nat, t = .int .i64 (j : Int) ∧ j ≤ ks.length ∧ (ks.take j).all ok = true ∧ wr.ownsRow wA.heap.size 41 23 q j (mcl F (ks.take j)) ∧ Below wA.heap.size wA wr
theorem rmean_post {R : Ending → World → Prop} {a : Act} {w : World} (g : Nat) (f : Nat → Bool) (b : Bool) (hd : a.defers = []) (h2 : a.tmps.getD 11 undef = .bool b) (h3 : a.tmps.getD 10 undef = .pointer (some ⟨g, 0, none⟩))
    (hg : w.heap[g]? = some (.cells (mv f) 41 (0, 0))) (hR : R (.returned (.tuple #[.agg (mv f), .bool b])) w) : bodyPost Tryz.prog Tryz.f15 R .ret a w := by
  refine bodyPost_ret (v := .tuple #[.agg (mv f), .bool b]) ?_ hd hR
  have h2' : a.tmps[11]?.getD undef = .bool b := by simpa using h2
  have h3' : a.tmps[10]?.getD undef = .pointer (some ⟨g, 0, none⟩) := by simpa using h3
  have hv := run_loadVar_row (P := Tryz.prog) w g 41 41 _ _ _ hg maskType rfl (maskSize _)
  simp [results, Tryz.results15, h2', h3', asAddr, hv]
theorem own_range {w : World} {base : Nat} {v : Value} {n : Nat} {F : Ex → Nat → Bool} {ks : List Ex} (h : w.ownsRow base 41 23 v n (mcl F ks)) (hn : ks.length = n) : RowM w v (ks.map F) ∨ 40 < n := by
  by_cases h40 : 40 < n
  · exact .inr h40
  refine .inl ?_
  obtain ⟨_, h2⟩ := h
  rcases h2 with ⟨h2, h3⟩ | ⟨g, cap, cur, hv, hg, hh, h3, h4, h5, h6⟩
  · have : ks = [] := List.length_eq_zero_iff.1 (by omega)
    subst this
    subst h2
    exact rowM_nil w _ _
  · refine ⟨some ⟨g, 0, none⟩, cap, by rw [List.length_map, hn]; exact hv, ⟨by simp; omega, by simp; omega⟩, fun i f hi => ⟨g, 0, rfl, fun j u hu => ?_⟩⟩
    rw [List.getElem?_map] at hi
    cases hk : ks[i]? with
    | none => rw [hk] at hi; cases hi
    | some k =>
      rw [hk] at hi
      have hf : F k = f := Option.some.inj hi
      subst hf
      have hj : j < 23 := by
        have := (List.getElem?_eq_some_iff.1 hu).1
        rw [Array.length_toList, mv_size] at this
        exact this
      have hget : ∀ (ks : List Ex) (i : Nat), ks[i]? = some k → (mcl F ks)[i * 23 + j]? = some u := by
        intro ks
        induction ks with
        | nil => intro i hi; simp at hi
        | cons q ks ih =>
          intro i hi
          rw [mcl_cons]
          have hl : (mv (F q)).toList.length = 23 := by rw [Array.length_toList, mv_size]
          match i, hi with
          | 0, hi =>
            have : q = k := by simpa using hi
            subst this
            rw [List.getElem?_append_left (by omega), Nat.zero_mul, Nat.zero_add]
            exact hu
          | i + 1, hi =>
            rw [List.getElem?_append_right (by omega), hl, show (i + 1) * 23 + j - 23 = i * 23 + j by omega]
            exact ih i (by simpa using hi)
      have h7 := hget ks i hk
      rw [← h6, List.getElem?_take] at h7
      split at h7
      · rw [Nat.zero_add, cell_of_row _ _ _ _ _ _ hh]
        simpa using h7
      · cases h7
theorem all_take {ok : Ex → Bool} {ks : List Ex} {j : Nat} {k : Ex} (hk : ks[j]? = some k) (h : (ks.take j).all ok = true) (hb : ok k = true) : (ks.take (j + 1)).all ok = true := by
  rw [List.take_add_one, hk, List.all_append, h]
  simp [hb]
theorem all_bad {ok : Ex → Bool} {ks : List Ex} {j : Nat} {k : Ex} (hk : ks[j]? = some k) (hb : ok k = false) : ks.all ok = false := by
  cases h : ks.all ok with
  | false => rfl
  | true =>
    have := List.all_eq_true.1 h k (List.mem_of_getElem? hk)
    rw [hb] at this; cases this
theorem mcl_next {F : Ex → Nat → Bool} {ks : List Ex} {j : Nat} {k : Ex} (hk : ks[j]? = some k) : mcl F (ks.take (j + 1)) = mcl F (ks.take j) ++ (mv (F k)).toList := by
  rw [List.take_add_one, hk, Option.toList_some, mcl_snoc]
end Go.Proofs.YtpmobjgnmidolaaGreatDoor
