/- Signs, beside rules: plain; and two expressions put together. -/
import Derived.Test.YtllcpoibnmhghaaGreatDoorTb39
import Derived.Test.YtllcpoibnmhghaaGreatDoorTb36
import Derived.Test.YtllcpoibnmhghaaGreatDoorTb37
namespace Go.Proofs.YtllcpoibnmhghaaGreatDoor
open Go.RowKit Lx Msk
theorem wrongL_like {u u' : Ru} (hr : ruleP u = ruleP u') : ∀ (l : List Ru) (i : Nat), wrongL (l ++ [u]) i = wrongL (l ++ [u']) i
  | [], i => by
    show wrongL [u] i = wrongL [u'] i
    unfold wrongL
    rw [hr]
  | v :: l, i => by
    show wrongL (v :: (l ++ [u])) i = wrongL (v :: (l ++ [u'])) i
    rw [wrongL, wrongL, wrongL_like hr l (i + 1)]
section
variable {l : List Ru} {nm : List UInt8} {e e' : Ex}
theorem spk_like (v : Ru) : spkR (l ++ [(nm, e)]) v = spkR (l ++ [(nm, e')]) v := by
  unfold spkR spoken
  have h : (fun (acc : List Int) (x : List UInt8) => addN acc (atP5 (l ++ [(nm, e)]) x)) = fun acc x => addN acc (atP5 (l ++ [(nm, e')]) x) := by
    funext acc x
    rw [at_names x (a := e) (b := e')]
  rw [h]
theorem spk_last (hn : nms e = nms e') : spkR (l ++ [(nm, e)]) (nm, e) = spkR (l ++ [(nm, e')]) (nm, e') := by
  rw [spk_like (e' := e')]
  unfold spkR
  rw [hn]
theorem at_like {j : Nat} (h : j ≠ l.length) : (l ++ [(nm, e)])[j]? = (l ++ [(nm, e')])[j]? := by
  by_cases hlt : j < l.length
  · rw [List.getElem?_append_left hlt, List.getElem?_append_left hlt]
  · rw [List.getElem?_eq_none (by simp; omega), List.getElem?_eq_none (by simp; omega)]
theorem chk_like (hr : ruleP (nm, e) = ruleP (nm, e')) (hn : nms e = nms e') : chkW (l ++ [(nm, e)]) = chkW (l ++ [(nm, e')]) := by
  have h0 : wrongR (l ++ [(nm, e)]) = wrongR (l ++ [(nm, e')]) := by
    unfold wrongR
    rw [wrongL_like hr]
    simp
  have hlen : (l ++ [(nm, e)]).length = (l ++ [(nm, e')]).length := by simp
  have h1 : lk1 (l ++ [(nm, e)]) = lk1 (l ++ [(nm, e')]) := by
    funext i
    unfold lk1
    by_cases hi : i = l.length
    · subst hi
      rw [last_at, last_at]
      show (atP5 _ nm != _) = (atP5 _ nm != _)
      rw [at_names nm (a := e) (b := e')]
    · rw [at_like (e' := e') hi]
      cases (l ++ [(nm, e')])[i]? with
      | none => rfl
      | some v =>
        show (atP5 _ v.1 != _) = (atP5 _ v.1 != _)
        rw [at_names v.1 (a := e) (b := e')]
  have h2 : lk2 (l ++ [(nm, e)]) = lk2 (l ++ [(nm, e')]) := by
    funext i
    unfold lk2
    by_cases hi : i = l.length
    · subst hi
      rw [last_at, last_at]
      show decide (-1 ∈ spkR _ (nm, e)) = decide (-1 ∈ spkR _ (nm, e'))
      rw [spk_last hn]
    · rw [at_like (e' := e') hi]
      cases (l ++ [(nm, e')])[i]? with
      | none => rfl
      | some v =>
        show decide (-1 ∈ spkR _ v) = decide (-1 ∈ spkR _ v)
        rw [spk_like (e' := e')]
  have h3 : leadS (l ++ [(nm, e)]) = leadS (l ++ [(nm, e')]) := by
    funext i
    unfold leadS
    by_cases hi : i = l.length
    · subst hi
      rw [last_at, last_at]
      show natsOf (spkR _ (nm, e)) = natsOf (spkR _ (nm, e'))
      rw [spk_last hn]
    · rw [at_like (e' := e') hi]
      cases (l ++ [(nm, e')])[i]? with
      | none => rfl
      | some v =>
        show natsOf (spkR _ v) = natsOf (spkR _ v)
        rw [spk_like (e' := e')]
  have h4 : lk3 (l ++ [(nm, e)]) = lk3 (l ++ [(nm, e')]) := by
    funext i
    unfold lk3
    rw [h3, hlen]
  unfold chkW
  rw [h0, h1, h2, h4, hlen]
theorem mflt_like {day : Int} (hr : ruleP (nm, e) = ruleP (nm, e')) (hn : nms e = nms e') : mflt (l ++ [(nm, e)]) day = mflt (l ++ [(nm, e')]) day := by
  unfold mflt
  rw [chk_like hr hn]
end
/-- Two expressions with a sign between. -/
def twoE (k : Int) (a b : Ex) : Ex := ⟨k, 0, 0, [], [a, b]⟩
theorem two_rule {k k' : Int} (hk : k = 6 ∨ k = 7 ∨ k = 8) (hk' : k' = 6 ∨ k' = 7 ∨ k' = 8) (nm : List UInt8) (a b : Ex) : ruleP (nm, twoE k a b) = ruleP (nm, twoE k' a b) := by
  have h : ∀ q : Int, (q = 6 ∨ q = 7 ∨ q = 8) → aloneP (twoE q a b) = 0 := fun q hq => by
    rcases hq with rfl | rfl | rfl <;> rfl
  unfold ruleP
  dsimp only
  rw [shapeP_eq, shapeP_eq, h k hk, h k' hk']
  rfl
theorem two_nms {k k' : Int} (hk : k = 6 ∨ k = 7 ∨ k = 8) (hk' : k' = 6 ∨ k' = 7 ∨ k' = 8) (a b : Ex) : nms (twoE k a b) = nms (twoE k' a b) := by
  rw [nms_eq, nms_eq, if_neg (show ¬ (twoE k a b).kind = 10 by show ¬ k = 10; omega), if_neg (show ¬ (twoE k' a b).kind = 10 by show ¬ k' = 10; omega)]
  rfl
theorem two_flt {l : List Ru} {k k' : Int} (hk : k = 6 ∨ k = 7 ∨ k = 8) (hk' : k' = 6 ∨ k' = 7 ∨ k' = 8) (a b : Ex) (day : Int) : mflt (l ++ [(zzn, twoE k a b)]) day = mflt (l ++ [(zzn, twoE k' a b)]) day := mflt_like (two_rule hk hk' _ _ _) (two_nms hk hk' _ _)
section
variable {l : List Ru} {a b : Ex} {day : Int}
theorem of_union (ha : (mflt (l ++ [(zzn, a)]) day).1 = 0) (hb : (mflt (l ++ [(zzn, b)]) day).1 = 0) (h : (mflt (l ++ [(zzn, twoE 6 a b)]) day).1 = 0) :
    meanP (l ++ [(zzn, twoE 6 a b)]) (wkB day) day l.length = fun i => (meanP (l ++ [(zzn, a)]) (wkB day) day l.length i || meanP (l ++ [(zzn, b)]) (wkB day) day l.length i) && decide (i < 1440) := by
  rw [← of_part ha h, ← of_part hb h, of_eq h, valE_eq]
  rfl
theorem of_diff (ha : (mflt (l ++ [(zzn, a)]) day).1 = 0) (hb : (mflt (l ++ [(zzn, b)]) day).1 = 0) (h : (mflt (l ++ [(zzn, twoE 7 a b)]) day).1 = 0) :
    meanP (l ++ [(zzn, twoE 7 a b)]) (wkB day) day l.length = fun i => (meanP (l ++ [(zzn, a)]) (wkB day) day l.length i && !meanP (l ++ [(zzn, b)]) (wkB day) day l.length i) && decide (i < 1440) := by
  rw [← of_part ha h, ← of_part hb h, of_eq h, valE_eq]
  rfl
theorem of_both (ha : (mflt (l ++ [(zzn, a)]) day).1 = 0) (hb : (mflt (l ++ [(zzn, b)]) day).1 = 0) (h : (mflt (l ++ [(zzn, twoE 8 a b)]) day).1 = 0) :
    meanP (l ++ [(zzn, twoE 8 a b)]) (wkB day) day l.length = fun i => (meanP (l ++ [(zzn, a)]) (wkB day) day l.length i && meanP (l ++ [(zzn, b)]) (wkB day) day l.length i) && decide (i < 1440) := by
  rw [← of_part ha h, ← of_part hb h, of_eq h, valE_eq]
  rfl
theorem of_none (h : (mflt (l ++ [(zzn, twoE 7 a ⟨2, 0, 0, [], []⟩)]) day).1 = 0) : meanP (l ++ [(zzn, twoE 7 a ⟨2, 0, 0, [], []⟩)]) (wkB day) day l.length = fun _ => false := by
  have e2 : ∀ (wk : Int → Bool) (dy : Int) (env : List UInt8 → Nat → Bool), valE wk dy env ⟨2, 0, 0, [], []⟩ = fun i => decide (i < 1440) := fun wk dy env => by
    rw [valE_eq]
    rfl
  rw [of_eq h, valE_eq]
  funext i
  show ((valE _ _ _ a i && !valE _ _ _ ⟨2, 0, 0, [], []⟩ i) && decide (i < 1440)) = false
  rw [e2]
  have hq : ∀ q r : Bool, ((q && !r) && r) = false := by decide
  exact hq _ _
theorem wkB_all (h : 0 ≤ day) : wkB day 127 = true := by
  have hb := wkd_bd day h
  have hk : wkd day = 0 ∨ wkd day = 1 ∨ wkd day = 2 ∨ wkd day = 3 ∨ wkd day = 4 ∨ wkd day = 5 ∨ wkd day = 6 := by omega
  unfold wkB
  rcases hk with e | e | e | e | e | e | e <;> rw [e] <;> decide +kernel
end
theorem KidsB.upTo {B : Nat → Prop} {d : Nat} {w : World} {sl : Value} {ks : List Ex} (h : KidsB B d w sl ks) : ∀ n, KidsB B (d + n) w sl ks
  | 0 => h
  | n + 1 => (KidsB.upTo h n).up
/-- Two expressions in a row. -/
theorem ruleIn_two {W : World} {nm nm' : List UInt8} {e e' : Ex} {pe pe' : Option Addr} {ce ce' g : Nat} (kd : Int) (h : RuleIn W ((nm, e), .slice pe e.kids.length ce)) (h' : RuleIn W ((nm', e'), .slice pe' e'.kids.length ce'))
    (hg : W.heap[g]? = some (.cells #[.int .i64 e.kind, .int .i64 e.a, .int .i64 e.b, .string ⟨e.name.toArray⟩, .slice pe e.kids.length ce, .int .i64 e'.kind, .int .i64 e'.a, .int .i64 e'.b, .string ⟨e'.name.toArray⟩, .slice pe' e'.kids.length ce'] 25 (0, 0))) :
    RuleIn W ((zzn, twoE kd e e'), .slice (some ⟨g, 0, none⟩) 2 2) := by
  obtain ⟨_, h2, d, h3⟩ := h
  obtain ⟨_, h2', d', h3'⟩ := h'
  have k3 := h3.upTo d'
  have k3' := h3'.upTo d
  rw [Nat.add_comm] at k3'
  refine ⟨by show zzn.length ≤ _; decide, by show ([] : List UInt8).length ≤ _; decide, d + d' + 1, .inr ⟨g, 0, 2, lt_of_block hg, rfl, by show 2 < _; decide, fun j k hj => ?_⟩⟩
  match j, hj with
  | 0, hj =>
    cases hj
    exact ⟨h2, _, (cell_of_row _ _ 0 _ _ _ hg).trans rfl, (cell_of_row _ _ 1 _ _ _ hg).trans rfl, (cell_of_row _ _ 2 _ _ _ hg).trans rfl, (cell_of_row _ _ 3 _ _ _ hg).trans rfl, (cell_of_row _ _ 4 _ _ _ hg).trans rfl, k3⟩
  | 1, hj =>
    cases hj
    exact ⟨h2', _, (cell_of_row _ _ 5 _ _ _ hg).trans rfl, (cell_of_row _ _ 6 _ _ _ hg).trans rfl, (cell_of_row _ _ 7 _ _ _ hg).trans rfl, (cell_of_row _ _ 8 _ _ _ hg).trans rfl, (cell_of_row _ _ 9 _ _ _ hg).trans rfl, k3'⟩
  | j + 2, hj => simp [twoE] at hj
set_option maxRecDepth 100000 in
set_option maxHeartbeats 1000000 in
theorem two_any (kd : Int) (e e' : Ex) (pe pe' : Option Addr) (ce ce' : Nat) (w : World) :
    Calls Tryz.prog 10 #[.int .i64 kd, .agg #[.int .i64 e.kind, .int .i64 e.a, .int .i64 e.b, .string ⟨e.name.toArray⟩, .slice pe e.kids.length ce], .agg #[.int .i64 e'.kind, .int .i64 e'.a, .int .i64 e'.b, .string ⟨e'.name.toArray⟩, .slice pe' e'.kids.length ce']] w fun r w' =>
      ∃ g : Nat, r = .returned (.agg #[.int .i64 kd, .int .i64 0, .int .i64 0, .string ⟨#[]⟩, .slice (some ⟨g, 0, none⟩) 2 2]) ∧ w'.heap[g]? = some (.cells #[.int .i64 e.kind, .int .i64 e.a, .int .i64 e.b, .string ⟨e.name.toArray⟩, .slice pe e.kids.length ce, .int .i64 e'.kind, .int .i64 e'.a, .int .i64 e'.b, .string ⟨e'.name.toArray⟩, .slice pe' e'.kids.length ce'] 25 (0, 0)) ∧ Below w.heap.size w w' := by
  have b3 : Below w.heap.size w (((w.alloc (.cells #[.int .i64 e.kind, .int .i64 e.a, .int .i64 e.b, .string ⟨e.name.toArray⟩, .slice pe e.kids.length ce] 25)).alloc (.cells #[.int .i64 e'.kind, .int .i64 e'.a, .int .i64 e'.b, .string ⟨e'.name.toArray⟩, .slice pe' e'.kids.length ce'] 25)).alloc (.cells #[.int .i64 0, .int .i64 0, .int .i64 0, .string ⟨#[]⟩, .slice none 0 0] 25)) := (((Below.refl _ _).alloc (Nat.le_refl _) _).alloc (by simp) _).alloc (by simp only [size_alloc]; omega) _
  have n1 : (((w.alloc (.cells #[.int .i64 e.kind, .int .i64 e.a, .int .i64 e.b, .string ⟨e.name.toArray⟩, .slice pe e.kids.length ce] 25)).alloc (.cells #[.int .i64 e'.kind, .int .i64 e'.a, .int .i64 e'.b, .string ⟨e'.name.toArray⟩, .slice pe' e'.kids.length ce'] 25)).alloc (.cells #[.int .i64 0, .int .i64 0, .int .i64 0, .string ⟨#[]⟩, .slice none 0 0] 25)).heap[w.heap.size]? = some (.cells #[.int .i64 e.kind, .int .i64 e.a, .int .i64 e.b, .string ⟨e.name.toArray⟩, .slice pe e.kids.length ce] 25 (0, 0)) := by (repeat (first | refine blk_old _ _ _ (by simp only [size_alloc]; omega) ?_ | exact blk_new _ _ _ (by first | rfl | simp only [size_alloc])))
  have n2 : (((w.alloc (.cells #[.int .i64 e.kind, .int .i64 e.a, .int .i64 e.b, .string ⟨e.name.toArray⟩, .slice pe e.kids.length ce] 25)).alloc (.cells #[.int .i64 e'.kind, .int .i64 e'.a, .int .i64 e'.b, .string ⟨e'.name.toArray⟩, .slice pe' e'.kids.length ce'] 25)).alloc (.cells #[.int .i64 0, .int .i64 0, .int .i64 0, .string ⟨#[]⟩, .slice none 0 0] 25)).heap[w.heap.size + 1]? = some (.cells #[.int .i64 e'.kind, .int .i64 e'.a, .int .i64 e'.b, .string ⟨e'.name.toArray⟩, .slice pe' e'.kids.length ce'] 25 (0, 0)) := by (repeat (first | refine blk_old _ _ _ (by simp only [size_alloc]; omega) ?_ | exact blk_new _ _ _ (by first | rfl | simp only [size_alloc])))
  have n3 : (((w.alloc (.cells #[.int .i64 e.kind, .int .i64 e.a, .int .i64 e.b, .string ⟨e.name.toArray⟩, .slice pe e.kids.length ce] 25)).alloc (.cells #[.int .i64 e'.kind, .int .i64 e'.a, .int .i64 e'.b, .string ⟨e'.name.toArray⟩, .slice pe' e'.kids.length ce'] 25)).alloc (.cells #[.int .i64 0, .int .i64 0, .int .i64 0, .string ⟨#[]⟩, .slice none 0 0] 25)).heap[w.heap.size + 1 + 1]? = some (.cells #[.int .i64 0, .int .i64 0, .int .i64 0, .string ⟨#[]⟩, .slice none 0 0] 25 (0, 0)) := by (repeat (first | refine blk_old _ _ _ (by simp only [size_alloc]; omega) ?_ | exact blk_new _ _ _ (by first | rfl | simp only [size_alloc])))
  generalize hw3 : (((w.alloc (.cells #[.int .i64 e.kind, .int .i64 e.a, .int .i64 e.b, .string ⟨e.name.toArray⟩, .slice pe e.kids.length ce] 25)).alloc (.cells #[.int .i64 e'.kind, .int .i64 e'.a, .int .i64 e'.b, .string ⟨e'.name.toArray⟩, .slice pe' e'.kids.length ce'] 25)).alloc (.cells #[.int .i64 0, .int .i64 0, .int .i64 0, .string ⟨#[]⟩, .slice none 0 0] 25)) = w3 at *
  have b4 := b3.alloc b3.size (.cells #[.int .i64 e.kind, .int .i64 e.a, .int .i64 e.b, .string ⟨e.name.toArray⟩, .slice pe e.kids.length ce, .int .i64 e'.kind, .int .i64 e'.a, .int .i64 e'.b, .string ⟨e'.name.toArray⟩, .slice pe' e'.kids.length ce'] 25)
  have n4 := heap_alloc_new w3 (.cells #[.int .i64 e.kind, .int .i64 e.a, .int .i64 e.b, .string ⟨e.name.toArray⟩, .slice pe e.kids.length ce, .int .i64 e'.kind, .int .i64 e'.a, .int .i64 e'.b, .string ⟨e'.name.toArray⟩, .slice pe' e'.kids.length ce'] 25)
  have n34 := (Below.heap_alloc w3 (.cells #[.int .i64 e.kind, .int .i64 e.a, .int .i64 e.b, .string ⟨e.name.toArray⟩, .slice pe e.kids.length ce, .int .i64 e'.kind, .int .i64 e'.a, .int .i64 e'.b, .string ⟨e'.name.toArray⟩, .slice pe' e'.kids.length ce'] 25) _ (lt_of_block n3)).trans n3
  have s3 := lt_of_block n3
  generalize hw4 : w3.alloc (.cells #[.int .i64 e.kind, .int .i64 e.a, .int .i64 e.b, .string ⟨e.name.toArray⟩, .slice pe e.kids.length ce, .int .i64 e'.kind, .int .i64 e'.a, .int .i64 e'.b, .string ⟨e'.name.toArray⟩, .slice pe' e'.kids.length ce'] 25) = w4 at *
  have HO : Hid (∀ cs, (w4.setRow (w.heap.size + 1 + 1) cs).heap[w3.heap.size]? = w4.heap[w3.heap.size]?) := fun cs => setRow_other _ _ _ _ (by omega)
  have HB := hid5 b4
  have HN := hid5 n4
  clear n3 s3 b3 b4 n4
  go_enter Tryz.func10, Tryz.ntmps10
  go_wp2_with (first
    | (refine wpList_load_row rfl 25 _ rfl _ rfl _ _ _ _ n1 exprType5 rfl (by kernel_rfl) ?_)
    | (refine wpList_load_row rfl 25 _ rfl _ rfl _ _ _ _ n2 exprType5 rfl (by kernel_rfl) ?_)
    | (refine wpList_store_row rfl 25 _ _ rfl _ _ rfl rfl _ _ n34 (by kernel_rfl) (by rfl) (by simp [Value.oneCell']) ?_))
  refine bodyPost_ret (v := .agg #[.int .i64 kd, .int .i64 0, .int .i64 0, .string ⟨#[]⟩, .slice (some ⟨w3.heap.size, 0, none⟩) 2 2]) ?_ rfl ⟨_, rfl, (HO.out _).trans HN.out, below_setRow HB.out (by omega) _⟩
  exact results_cell_row rfl _ _ (w.heap.size + 1 + 1) _ _ _ _ rfl (setRow_heap _ _ _ _ _ _ n34) exprType5 rfl (by kernel_rfl)
end Go.Proofs.YtllcpoibnmhghaaGreatDoor

/- A region in the text's order, whose values are known beforehand: said as of one that draws its order. It speaks of no program. -/
namespace Go.Proofs.YtllcpoibnmhghaaGreatDoor
open Go Go.RowKit
section
variable {P : Program} {ops : Array Oper} {Q : Exit → Act → World → Prop} {id : Nat} {a0 : Act} {w : World}
theorem back_of (hB : backB ops = true) {i : Nat} {o : Oper} (ho : ops[i]? = some o) : ∀ e ∈ o.after, Region.binds .any e = true → e.on < i := fun e he hb => by
  have hi : i < ops.size := (Array.getElem?_eq_some_iff.1 ho).1
  have h1 := List.all_eq_true.1 hB i (by simpa using hi)
  rw [ho] at h1
  have h2 := Array.all_eq_true'.1 h1 e he
  rw [hb] at h2
  simpa using h2
theorem dst_ne (hD : dstB ops = true) {i j s t : Nat} {p q : Oper} (hp : ops[i]? = some p) (hq : ops[j]? = some q) (hs : p.dst = some s) (ht : q.dst = some t) (hij : i ≠ j) : s ≠ t := by
  have hi : i < ops.size := (Array.getElem?_eq_some_iff.1 hp).1
  have hj : j < ops.size := (Array.getElem?_eq_some_iff.1 hq).1
  have h1 := List.all_eq_true.1 hD i (by simpa using hi)
  have h2 := List.all_eq_true.1 h1 j (by simpa using hj)
  rw [hp, hq] at h2
  simp only [Option.bind_some, hs, ht] at h2
  have h3 : (i == j) = false := by simpa using hij
  rw [h3] at h2
  simpa using h2
theorem wp_plain_JL (J : (Nat → Bool) → World → Prop) (hJ0 : ∀ L : Nat → Bool, (∀ i, i < ops.size → L i = false) → J L w) (hJe : ∀ (L L' : Nat → Bool) (W : World), (∀ k, k < ops.size → L k = L' k) → J L W → J L' W) (hback : backB ops = true) (hdst : dstB ops = true) (hin : inB ops a0.tmps.size = true) (ds : List (Option Nat × Value)) (es : List (Nat × Value))
    (hds : ops.toList.map (fun o => o.dst) = ds.map (fun p => p.1)) (hes : ds.filterMap (fun p => p.1.map fun s => (s, p.2)) = es) (hnd : decide ((es.map (fun p => p.1)).Nodup) = true)
    (hstep : StepL P ops Q ds a0 J) (hend : ∀ (L : Nat → Bool) (W : World), (∀ i, i < ops.size → L i = true) → J L W → Q .normal (putAll es a0) W) : (Code.region id ops false).wp P Q a0 w := by
  have hl : ds.length = ops.size := by
    have h := congrArg List.length hds
    simpa using h.symm
  have atD : ∀ {j : Nat} {p : Oper}, ops[j]? = some p → ∃ v, ds[j]? = some (p.dst, v) := fun {j p} hp => by
    have h1 : (ops.toList.map (fun o => o.dst))[j]? = some p.dst := by
      rw [List.getElem?_map, Array.getElem?_toList, hp]
      rfl
    rw [hds, List.getElem?_map] at h1
    cases hs : ds[j]? with
    | none => rw [hs] at h1; cases h1
    | some q =>
      rw [hs] at h1
      exact ⟨q.2, by rw [← Option.some.inj h1]⟩
  have atO : ∀ {j : Nat} {d : Option Nat} {v : Value}, ds[j]? = some (d, v) → ∃ p, ops[j]? = some p ∧ p.dst = d := fun {j d v} hj => by
    have hj' := (List.getElem?_eq_some_iff.1 hj).1
    obtain ⟨p, hp⟩ : ∃ p, ops[j]? = some p := ⟨ops[j]'(by omega), Array.getElem?_eq_getElem _⟩
    obtain ⟨v', hv'⟩ := atD hp
    rw [hj] at hv'
    exact ⟨p, hp, (congrArg Prod.fst (Option.some.inj hv')).symm⟩
  have main : ∀ (m k : Nat) (A : Act) (W : World), k + m = ops.size → A.defers = a0.defers → A.tmps.size = a0.tmps.size →
      (∀ s, (∀ (j : Nat) (p : Oper), ops[j]? = some p → j < k → p.dst ≠ some s) → A.tmps.getD s undef = a0.tmps.getD s undef) →
      (∀ (j s : Nat) (u : Value), ds[j]? = some (some s, u) → j < k → A.tmps.getD s undef = u) → J (fun j => decide (j < k)) W → wpOps P ops Q (List.range' k m) A W := by
    intro m
    induction m with
    | zero =>
      intro k A W hk hdef hsize hkept hhas hJ
      show Q .normal A W
      have e : A = putAll es a0 := by
        refine act_is es hdef hsize (by
          have := of_decide_eq_true hnd
          rw [show es.map (fun p => some p.1) = (es.map (fun p => p.1)).map some by rw [List.map_map]; rfl]
          rw [List.nodup_iff_pairwise_ne] at this ⊢
          rw [List.pairwise_map]
          exact this.imp fun hab e => hab (Option.some.inj e)) (fun s h => hkept s fun j p hp _ e => ?_) (fun j s v hj => ?_)
        · obtain ⟨v, hv⟩ := atD hp
          refine h (s, v) ?_ rfl
          rw [← hes, List.mem_filterMap]
          exact ⟨_, List.mem_of_getElem? hv, by rw [e]; rfl⟩
        · have hm' := List.mem_of_getElem? hj
          rw [← hes, List.mem_filterMap] at hm'
          obtain ⟨q, hq, hqe⟩ := hm'
          obtain ⟨i, hi⟩ := List.getElem?_of_mem hq
          obtain ⟨d, v'⟩ := q
          cases d with
          | none => cases hqe
          | some t =>
            have h2 := Option.some.inj hqe
            have h3 : t = s := congrArg Prod.fst h2
            have h4 : v' = v := congrArg Prod.snd h2
            subst h3 h4
            exact hhas i t _ hi (by have := (List.getElem?_eq_some_iff.1 hi).1; omega)
      rw [e]
      exact hend _ W (fun i hi => by simp; omega) hJ
    | succ m ih =>
      intro k A W hk hdef hsize hkept hhas hJ
      rw [List.range'_succ, wpOps_cons]
      have hkl : k < ops.size := by omega
      obtain ⟨o, ho⟩ : ∃ o, ops[k]? = some o := ⟨ops[k], Array.getElem?_eq_getElem hkl⟩
      obtain ⟨v, hv⟩ := atD ho
      have hc : ClosL ops (fun j => decide (j < k)) := fun j p hp hj e he hb => by
        have := back_of hback hp e he hb
        simp at hj ⊢
        omega
      refine wpOp_mono ?_ (hstep k o.dst v o (fun j => decide (j < k)) A W ho hv (by simp) (fun e he hb => by
        have := back_of hback ho e he hb
        simpa using this) hc hJ (fun s h => hkept s fun j p hp _ => nd h j p hp) fun j s u hj hL => hhas j s u hj (by simpa using hL))
      rintro a' W' ⟨rfl, hJ'⟩
      refine ih (k + 1) _ W' (by omega) (by
        cases hd : o.dst with
        | none => exact hdef
        | some s => exact hdef) (by
        cases hd : o.dst with
        | none => exact hsize
        | some s => simpa [Act.put] using hsize) (fun s h => ?_) (fun j s u hj hjk => ?_) (hJe _ _ _ (fun q _ => by
          by_cases e : k = q
          · subst e; simp
          · by_cases e2 : q < k
            · simp [e, e2, show q < k + 1 by omega]
            · simp [e, e2, show ¬ q < k + 1 by omega]) hJ')
      · have h0 := hkept s fun j p hp hj => h j p hp (by omega)
        cases hd : o.dst with
        | none => exact h0
        | some t =>
          have hne : t ≠ s := fun e => h k o ho (by omega) (by rw [hd, e])
          exact (getD_set_other _ _ _ _ hne).trans h0
      · by_cases e : j = k
        · subst e
          rw [hv] at hj
          have h2 := Option.some.inj hj
          have h3 : o.dst = some s := congrArg Prod.fst h2
          have h4 : v = u := congrArg Prod.snd h2
          subst h4
          rw [h3]
          have hsl : s < A.tmps.size := by
            have q1 := List.all_eq_true.1 hin j (by simpa using hkl)
            rw [ho] at q1
            simp only [Option.bind_some, h3] at q1
            rw [hsize]
            simpa using q1
          exact getD_set_same _ _ _ hsl
        · have h0 := hhas j s u hj (by omega)
          obtain ⟨p, hp, hd'⟩ := atO hj
          cases hd : o.dst with
          | none => exact h0
          | some t =>
            have hne : t ≠ s := dst_ne hdst ho hp hd hd' (fun e' => e e'.symm)
            exact (getD_set_other _ _ _ _ hne).trans h0
  refine wp_region ?_
  rw [List.range_eq_range']
  refine main ops.size 0 a0 w (by omega) rfl rfl (fun _ _ => rfl) (fun _ _ _ _ h => by omega) (hJ0 _ fun i _ => by simp)
end
end Go.Proofs.YtllcpoibnmhghaaGreatDoor
