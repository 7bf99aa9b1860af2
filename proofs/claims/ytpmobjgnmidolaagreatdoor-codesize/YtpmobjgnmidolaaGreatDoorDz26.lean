/- What code.meaning comes to: what a steady expression means. -/
import Derived.Test.YtpmobjgnmidolaaGreatDoorDz25
import Derived.Test.YtpmobjgnmidolaaGreatDoorDz21
import Derived.Test.YtpmobjgnmidolaaGreatDoorDz07
import Derived.Test.YtpmobjgnmidolaaGreatDoorDz06
import Derived.Test.YtpmobjgnmidolaaGreatDoorDz15
import Derived.Test.YtpmobjgnmidolaaGreatDoorDz04
import Derived.Test.YtpmobjgnmidolaaGreatDoorDz08
namespace Go.Proofs.YtpmobjgnmidolaaGreatDoor
open Go.RowKit Lx Vx Msk
theorem std_nms : ∀ (N : Nat) (e : Ex), SizeOf.sizeOf e ≤ N → stdE e = true → nms e = []
  | 0, e, hN, _ => by cases e; simp at hN
  | N + 1, e, hN, h => by
    rw [nms_eq, if_neg (stdE_kind h).2.2, List.nil_append]
    unfold nmsL
    rw [List.flatten_eq_nil_iff]
    intro x hx
    obtain ⟨k, hk, rfl⟩ := List.mem_map.1 hx
    exact std_nms N k (by have := kid_lt hk; omega) (stdE_kid h hk)
theorem shape_less : ∀ (N : Nat) (e : Ex) (deep n deep' n' : Nat), SizeOf.sizeOf e ≤ N → deep' ≤ deep → n' ≤ n → (shapeP e deep n).1 = 0 → (shapeP e deep' n').1 = 0
  | 0, e, _, _, _, _, hN, _, _, _ => by cases e; simp at hN
  | N + 1, e, deep, n, deep', n', hN, hd, hn, h => by
    have h0 := h
    rw [shapeP_eq] at h ⊢
    by_cases h1 : 600 < n + 1 ∨ 40 < deep
    · rw [if_pos h1] at h; cases h
    · rw [if_neg h1] at h
      rw [if_neg (by omega)]
      by_cases h2 : aloneP e ≠ 0
      · rw [if_pos h2] at h; exact absurd h h2
      · rw [if_neg h2] at h ⊢
        have key : ∀ (ks : List Ex) (m m' : Nat), (∀ k ∈ ks, SizeOf.sizeOf k ≤ N) → m' ≤ m → (shapeL ks (deep + 1) (0, m)).1 = 0 → (shapeL ks (deep' + 1) (0, m')).1 = 0 := by
          intro ks
          induction ks with
          | nil => intro m m' _ _ _; rfl
          | cons k ks ih =>
            intro m m' hks hm hz
            rw [shapeL_cons] at hz ⊢
            rw [if_neg (by simp)] at hz ⊢
            have hz1 : (shapeP k (deep + 1) m).1 = 0 := by
              by_cases hq : (shapeP k (deep + 1) m).1 = 0
              · exact hq
              · rw [shapeL_bad hq] at hz; exact absurd hz hq
            have hz2 := shape_less N k (deep + 1) m (deep' + 1) m' (hks k List.mem_cons_self) (by omega) hm hz1
            obtain ⟨a1, _⟩ := shape_nod _ k (deep + 1) m (Nat.le_refl _) hz1
            obtain ⟨a2, _⟩ := shape_nod _ k (deep' + 1) m' (Nat.le_refl _) hz2
            rw [show shapeP k (deep + 1) m = (0, m + nodE k) from Prod.ext hz1 a1] at hz
            rw [show shapeP k (deep' + 1) m' = (0, m' + nodE k) from Prod.ext hz2 a2]
            exact ih _ _ (fun k' hk' => hks k' (List.mem_cons_of_mem _ hk')) (by omega) hz
        exact key e.kids (n + 1) (n' + 1) (fun k hk => by have := kid_lt hk; omega) (by omega) h
def Rt (e : Ex) : Prop := (shapeP e 1 0).1 = 0
theorem Rt.ok {e : Ex} (h : Rt e) : OKE e := ⟨1, 0, h⟩
theorem Rt.kid {e k : Ex} (h : Rt e) (hk : k ∈ e.kids) : Rt k := by
  unfold Rt at h
  rw [shapeP_eq, if_neg (by omega)] at h
  by_cases h2 : aloneP e ≠ 0
  · rw [if_pos h2] at h; exact absurd h h2
  · rw [if_neg h2] at h
    have key : ∀ (ks : List Ex) (m : Nat), (shapeL ks 2 (0, m)).1 = 0 → ∀ k ∈ ks, Rt k := by
      intro ks
      induction ks with
      | nil => intro m _ k hk; cases hk
      | cons k' ks ih =>
        intro m hz k hk
        rw [shapeL_cons, if_neg (by simp)] at hz
        have hz1 : (shapeP k' 2 m).1 = 0 := by
          by_cases hq : (shapeP k' 2 m).1 = 0
          · exact hq
          · rw [shapeL_bad hq] at hz; exact absurd hz hq
        rcases List.mem_cons.1 hk with rfl | hk
        · exact shape_less _ k 2 m 1 0 (Nat.le_refl _) (by omega) (Nat.zero_le _) hz1
        · obtain ⟨a1, _⟩ := shape_nod _ k' 2 m (Nat.le_refl _) hz1
          rw [show shapeP k' 2 m = (0, m + nodE k') from Prod.ext hz1 a1] at hz
          exact ih _ hz k hk
    exact key e.kids 1 h k hk
theorem Rt.nod {e : Ex} (h : Rt e) : nodE e ≤ 600 := by
  have := (shape_nod _ e 1 0 (Nat.le_refl _) h).2
  omega
theorem one_chk {e : Ex} (h : Rt e) (hs : stdE e = true) : chkW [([97], e)] = (0, 0) := by
  have hn : nms e = [] := std_nms _ e (Nat.le_refl _) hs
  have hsp : spkR [([97], e)] ([97], e) = [] := by
    unfold spkR
    rw [show nms (([97], e) : Ru).2 = [] from hn]
    rfl
  have hi : ∀ {i : Nat}, i < [(([97], e) : Ru)].length → i = 0 := fun hi => by simp at hi; exact hi
  refine chk_d ?_ (fun i' h' => ?_) (fun i' h' => ?_) (fun i' h' => ?_)
  · unfold wrongR
    rw [if_neg (by simp)]
    have hr : ruleP ([97], e) = 0 := by
      unfold ruleP
      rw [if_neg (show ¬ Go.Proofs.YtpmobjgnmidolaaGreatDoor.namedL [97] = false by decide)]
      exact h
    unfold wrongL
    rw [if_neg (by simpa using hr)]
    rfl
  · rw [hi h']
    simp [lk1, atP5, atF]
  · rw [hi h']
    show decide (-1 ∈ spkR _ _) = false
    rw [hsp]
    rfl
  · rw [hi h']
    have hl : leadS [([97], e)] 0 = [] := by
      unfold leadS
      show natsOf (spkR _ _) = []
      rw [hsp]
      rfl
    unfold lk3
    rw [show [(([97], e) : Ru)].length + 1 = 1 + 1 from rfl, fol, hl]
    rfl
theorem one_mean {e : Ex} (h : Rt e) (hs : stdE e = true) : mflt [([97], e)] 0 = (0, 0) ∧ meanL [([97], e)] 0 = [mnE e] := by
  have hc := one_chk h hs
  have hm : mflt [([97], e)] 0 = (0, 0) := by
    unfold mflt
    rw [hc, if_neg (by simp), if_neg (by omega)]
  refine ⟨hm, ?_⟩
  unfold meanL
  rw [hm, if_pos rfl]
  show [meanP _ _ _ 0] = _
  rw [meanP_eq (by rw [hc]) (show [(([97], e) : Ru)][0]? = some ([97], e) from rfl)]
  rw [stdE_val (show stdE (([97], e) : Ru).2 = true from hs)]
theorem inR_one {w : World} {g : Nat} {e : Ex} {sl : Value} {d : Nat} (h : w.heap[g]? = some (.cells #[.string ⟨#[97]⟩, .int .i64 e.kind, .int .i64 e.a, .int .i64 e.b, .string ⟨e.name.toArray⟩, sl] 38 (0, 0))) (hn : e.name.length ≤ 9223372036854775807) (hk : KidsB (fun k => k < w.heap.size) d w sl e.kids) : InR w (.slice (some ⟨g, 0, none⟩) 1 1) [(([97], e), sl)] := by
  refine ⟨.inr ⟨g, 0, 1, rfl, by simp, fun j p hj => ?_⟩, by simp, fun p hp => ?_⟩
  · match j, hj with
    | 0, hj =>
      cases Option.some.inj hj
      exact ⟨(cell_of_row _ _ 0 _ _ _ h).trans rfl, (cell_of_row _ _ 1 _ _ _ h).trans rfl, (cell_of_row _ _ 2 _ _ _ h).trans rfl, (cell_of_row _ _ 3 _ _ _ h).trans rfl, (cell_of_row _ _ 4 _ _ _ h).trans rfl, (cell_of_row _ _ 5 _ _ _ h).trans rfl⟩
    | j + 1, hj => simp at hj
  · rw [List.mem_singleton] at hp
    subst hp
    exact ⟨by simp, hn, d, hk⟩
set_option maxRecDepth 100000 in
set_option maxHeartbeats 2000000 in
theorem meaning_any (d : Nat) (e : Ex) (sl : Value) (w : World) (hr : Rt e) (hs : stdE e = true) (hn : e.name.length ≤ 9223372036854775807) (hk : KidsB (fun k => k < w.heap.size) d w sl e.kids) :
    Calls Tryz.prog 27 #[exV e sl] w fun r w' => r = .returned (.agg (mv (mnE e))) ∧ Below w.heap.size w w' := by
  obtain ⟨p, c, hsl⟩ := hk.form
  subst hsl
  unfold exV
  have hz := mv_lit
  have bA := (Below.refl w.heap.size w).alloc (Nat.le_refl _) (.cells #[.int .i64 e.kind, .int .i64 e.a, .int .i64 e.b, .string ⟨e.name.toArray⟩, .slice p e.kids.length c] 36)
  have nA := heap_alloc_new w (.cells #[.int .i64 e.kind, .int .i64 e.a, .int .i64 e.b, .string ⟨e.name.toArray⟩, .slice p e.kids.length c] 36)
  generalize hwA : w.alloc (.cells #[.int .i64 e.kind, .int .i64 e.a, .int .i64 e.b, .string ⟨e.name.toArray⟩, .slice p e.kids.length c] 36) = wA at *
  have bB := (Below.refl wA.heap.size wA).alloc (Nat.le_refl _) (.cells (mv fun _ => false) 41)
  have nB := heap_alloc_new wA (.cells (mv fun _ => false) 41)
  have nA1 := (bB.block _ (lt_of_block nA)).trans nA
  obtain ⟨gB, hgB⟩ : ∃ q, wA.heap.size = q := ⟨_, rfl⟩
  generalize hwB : wA.alloc (.cells (mv fun _ => false) 41) = wB at *
  rw [hgB] at nB
  have bC := (Below.refl wB.heap.size wB).alloc (Nat.le_refl _) (.cells #[.string ⟨#[97]⟩, .int .i64 e.kind, .int .i64 e.a, .int .i64 e.b, .string ⟨e.name.toArray⟩, .slice p e.kids.length c] 38)
  have nC := heap_alloc_new wB (.cells #[.string ⟨#[97]⟩, .int .i64 e.kind, .int .i64 e.a, .int .i64 e.b, .string ⟨e.name.toArray⟩, .slice p e.kids.length c] 38)
  generalize hwC : wB.alloc (.cells #[.string ⟨#[97]⟩, .int .i64 e.kind, .int .i64 e.a, .int .i64 e.b, .string ⟨e.name.toArray⟩, .slice p e.kids.length c] 38) = wC at *
  have bAC : Below w.heap.size w wC := bA.trans ((bB.trans (bC.mono bB.size)).mono bA.size)
  have nB2 := (bC.block _ (lt_of_block nB)).trans nB
  have hlow : w.heap.size ≤ gB := by rw [← hgB]; exact bA.size
  have hin := inR_one (d := d) nC hn ((hk.kept fun g _ hl => bAC.block g hl).mono fun g hg => Nat.lt_of_lt_of_le hg bAC.size)
  have cM := mall_any _ _ 0 wC hin
  obtain ⟨e1, e2⟩ := one_mean hr hs
  unfold OutMe at cM
  simp only [List.map_cons, List.map_nil] at cM
  rw [e1, e2] at cM
  clear hin hk e1 e2 bA bB bC nA nC
  go_enter Tryz.func27, Tryz.ntmps27
  go_wp2_with (first
    | (refine wpList_load_row rfl 36 _ rfl _ rfl _ _ _ _ nA1 exprType rfl (by kernel_rfl) ?_))
  refine cM.mono ?_
  rintro r w3 ⟨v3, rfl, hrow, b3⟩
  obtain ⟨p3, c3, hv3, hb3, hrg⟩ := hrow
  subst hv3
  obtain ⟨g3, o3, hp3, hr3⟩ := hrg 0 (mnE e) rfl
  subst hp3
  have hbw := bAC.trans (b3.mono bAC.size)
  have nB3 := (b3.block _ (lt_of_block nB2)).trans nB2
  simp only [Nat.zero_mul, Nat.add_zero] at hr3
  have hl1 : [mnE e].length = 1 := rfl
  rw [hl1]
  generalize hz0 : ((0 : Nat) : Int) = iz
  have hz1 : iz = 0 := hz0.symm.trans rfl
  subst hz1
  clear hz0
  have bD := (Below.refl w3.heap.size w3).alloc (Nat.le_refl _) (.cells #[.int .i64 0, .int .i64 0] 27)
  have nD := heap_alloc_new w3 (.cells #[.int .i64 0, .int .i64 0] 27)
  have nB4 := (bD.block _ (lt_of_block nB3)).trans nB3
  have hr4 : (w3.alloc (.cells #[.int .i64 0, .int .i64 0] 27)).rangeAt g3 o3 (mv (mnE e)).toList := World.rangeAt_alloc hr3 _
  have hbx := hbw.trans (bD.mono hbw.size)
  generalize hwD : w3.alloc (.cells #[.int .i64 0, .int .i64 0] 27) = wD at *
  have bE := below_setRow (Below.refl w3.heap.size wD) (Nat.le_refl _) #[.int .i64 0, .int .i64 0]
  have hgl := lt_of_block nB3
  have nB4e := (bE.block _ hgl).trans nB4
  have hr5 : (wD.setRow w3.heap.size #[.int .i64 0, .int .i64 0]).rangeAt g3 o3 (mv (mnE e)).toList := fun j u hj => (bE.cell (block_lt_of_cell (hr3 j u hj))).trans (hr4 j u hj)
  have hbe := hbx.trans (bE.mono (Nat.le_trans hbw.size (Nat.le_refl _)))
  generalize hwE : wD.setRow w3.heap.size #[.int .i64 0, .int .i64 0] = wE at *
  have nB5 := setRow_heap _ _ _ (mv (mnE e)) _ _ nB4e
  have hbz := below_setRow hbe hlow (mv (mnE e))
  clear cM hbw hbx bAC b3 bD nB2 nB3 hr3 hrg bE hr4 nB4 hbe
  go_wp2_with (first
    | (refine wpList_store_row rfl 27 _ _ rfl _ _ rfl rfl _ _ nD (by kernel_rfl) (by simp) (by simp [Value.oneCell']) ?_; rw [hwE])
    | (refine wpList_loadM rfl _ rfl g3 o3 rfl (mnE e) hr5 ?_)
    | (refine wpList_store_row rfl 41 _ _ rfl _ _ rfl rfl _ _ nB4e (maskSize _) (by simp [mv_size]) (mv_all _) ?_))
  refine bodyPost_ret (v := .agg (mv (mnE e))) ?_ rfl ⟨rfl, hbz⟩
  exact results_cell_row rfl _ _ gB _ _ _ _ rfl nB5 maskType rfl (maskSize _)
end Go.Proofs.YtpmobjgnmidolaaGreatDoor

/- The writer, with the spans that its instructions point to; what it comes to. -/
namespace Go.Proofs.YtpmobjgnmidolaaGreatDoor
open Go.RowKit Lx Vx Msk
def SpIn (w : World) (v : Value) (l : List (Int × Int)) : Prop := (l = [] ∧ ∃ p c, v = .slice p 0 c) ∨ ∃ (g c : Nat) (cur : Array Value), v = .slice (some ⟨g, 0, none⟩) l.length c ∧ l.length < 9223372036854775808 ∧ w.heap[g]? = some (.cells cur 100 (0, 0)) ∧ cur.toList.take (l.length * 2) = flat l
theorem SpIn.nil (w : World) (p : Option Addr) (c : Nat) : SpIn w (.slice p 0 c) [] := .inl ⟨rfl, p, c, rfl⟩
theorem SpIn.form {w : World} {v : Value} {l : List (Int × Int)} (h : SpIn w v l) : ∃ p n c, v = .slice p n c := by
  rcases h with ⟨_, p, c, e⟩ | ⟨g, c, cur, e, _⟩
  · exact ⟨p, 0, c, e⟩
  · exact ⟨_, _, c, e⟩
theorem SpIn.of_own {w : World} {base : Nat} {v : Value} {l : List (Int × Int)} (h : w.ownsRow base 100 2 v l.length (flat l)) : SpIn w v l := by
  rcases h.2 with ⟨e, e2⟩ | ⟨g, cap, cur, e, hb, hg, hn, hc, hs, hx⟩
  · exact .inl ⟨List.eq_nil_of_length_eq_zero e2, none, 0, by rw [e]⟩
  · exact .inr ⟨g, cap, cur, e, by unfold maxLen at hc; omega, hg, hx⟩
def Fr (gm : Nat) (w w' : World) : Prop := ∀ (q : Nat) (c : Array Value) (T : TypeId), w.heap[q]? = some (.cells c T (0, 0)) → T ≠ 46 → q ≠ gm → w'.heap[q]? = some (.cells c T (0, 0))
theorem Fr.trans {gm : Nat} {w w' w'' : World} (h : Fr gm w w') (h' : Fr gm w' w'') : Fr gm w w'' := fun q c T hq hT hne => h' q c T (h q c T hq hT hne) hT hne
theorem Fr.below {gm : Nat} {w w' : World} (hb : Below w.heap.size w w') : Fr gm w w' := fun _ _ _ hq _ _ => (hb.block _ (lt_of_block hq)).trans hq
theorem SpIn.fr {gm : Nat} {w w' : World} {v : Value} {l : List (Int × Int)} (h : SpIn w v l) {cw : Array Value} (hg : w.heap[gm]? = some (.cells cw 53 (0, 0))) (hf : Fr gm w w') : SpIn w' v l := by
  rcases h with h | ⟨g, c, cur, e, hl, hb, hx⟩
  · exact .inl h
  · refine .inr ⟨g, c, cur, e, hl, hf g _ _ hb (by decide) (fun q => ?_), hx⟩
    subst q
    rw [hg] at hb
    injection hb with hb
    injection hb with _ h2 _
    exact absurd h2 (by decide)
theorem SpIn.below {w w' : World} {v : Value} {l : List (Int × Int)} (h : SpIn w v l) (hb : Below w.heap.size w w') : SpIn w' v l := by
  rcases h with h | ⟨g, c, cur, e, hl, hg, hx⟩
  · exact .inl h
  · exact .inr ⟨g, c, cur, e, hl, (hb.block _ (lt_of_block hg)).trans hg, hx⟩
structure WOk (w0 : World) (gm : Nat) (mp : Value) (S : List (In × Value)) (W : World) : Prop where
  st : WsC w0 gm mp S W
  sp : ∀ u ∈ S, SpIn W u.2 u.1.sp
theorem WOk.below {w0 W W' : World} {gm : Nat} {mp : Value} {S : List (In × Value)} (h : WOk w0 gm mp S W) (hb : Below W.heap.size W W') : WOk w0 gm mp S W' :=
  ⟨h.st.below hb, fun u hu => (h.sp u hu).below hb⟩
def OutX (w0 : World) (gm : Nat) (mp : Value) (S : List (In × Value)) (c : List In) (W : World) (r : Ending) (W' : World) : Prop := r = .returned (.tuple #[]) ∧ ∃ S', S'.map (fun u => u.1) = c ∧ WOk w0 gm mp (S ++ S') W' ∧ Fr2 gm W W'
theorem Fr2.fr {w0 W W' : World} {gm : Nat} {mp : Value} {S : List (In × Value)} (h : WsC w0 gm mp S W) (hf : Fr2 gm W W') : Fr gm W W' := fun q c T hq hT hne => by
  obtain ⟨_, _, sv, hg, own⟩ := h
  refine (hf.blk q (lt_of_block hq) hne ?_).trans hq
  rw [rowB_at hg]
  exact fun e => own_neI own hq hT e.symm
theorem wput_ok {w0 W : World} {gm : Nat} {mp : Value} {S : List (In × Value)} (h : WOk w0 gm mp S W) (x : In) (v : Value) (hv : SpIn W v x.sp) (hS : S.length ≤ 1000) :
    Calls Tryz.prog 25 #[.pointer (some ⟨gm, 0, none⟩), .agg #[.int .i64 x.op, .int .i64 x.a, .int .i64 x.b, .int .i64 x.to, v]] W fun e W' => e = .returned (.tuple #[]) ∧ WOk w0 gm mp (S ++ [(x, v)]) W' ∧ Fr2 gm W W' := by
  obtain ⟨_, _, sv, hg, _⟩ := id h.st
  refine (wput_any w0 gm mp S (x, v) W h.st hS hv.form).mono fun e W' ⟨he, h1, h2, h3⟩ => ⟨he, ⟨h1, fun u hu => ?_⟩, h3⟩
  rcases List.mem_append.1 hu with hu | hu
  · exact (h.sp u hu).fr hg h2
  · rw [List.mem_singleton] at hu
    subst hu
    exact hv.fr hg h2
def ExprC (w0 : World) (gm : Nat) (mp : Value) (l : List Ru) (k : Ex) (sk : Value) : Prop := ∀ (S : List (In × Value)) (W : World), WOk w0 gm mp S W → S.length + nodE k ≤ 700 → Calls Tryz.prog 11 #[.pointer (some ⟨gm, 0, none⟩), exV k sk] W (OutX w0 gm mp S (codeE (atP5 l) k S.length) W)
theorem flatI_append (S S' : List (In × Value)) : flatI (S ++ S') = flatI S ++ flatI S' := by unfold flatI; rw [List.flatMap_append]
theorem flatI_set (S S' : List (In × Value)) (x : In) (v : Value) (t : Int) : (flatI (S ++ ((x, v) :: S'))).set (S.length * 5 + 3) (.int .i64 t) = flatI (S ++ (({ x with to := t }, v) :: S')) := by
  rw [flatI_append, flatI_append, List.set_append_right _ _ (by rw [flatI_len]; omega), flatI_len, Nat.add_sub_cancel_left]
  rfl
theorem own_to {W : World} {base g n c : Nat} {S S' : List (In × Value)} {x : In} {v : Value} (t : Int) (h : W.ownsRow base 46 5 (.slice (some ⟨g, 0, none⟩) n c) n (flatI (S ++ ((x, v) :: S')))) : (W.setCell ⟨g, S.length * 5 + 3, none⟩ (.int .i64 t)).ownsRow base 46 5 (.slice (some ⟨g, 0, none⟩) n c) n (flatI (S ++ (({ x with to := t }, v) :: S'))) := by
  obtain ⟨h1, h2⟩ := h
  rcases h2 with ⟨e, _⟩ | ⟨g', cap, cur, e, hb, hg, hn, hc, hs, hx⟩
  · cases e
  · injection e with e1 _ e3
    injection e1 with e1
    injection e1 with e1 _ _
    subst e1 e3
    refine ⟨by rw [← flatI_set, List.length_set]; exact h1, .inr ⟨g, c, cur.setIfInBounds (S.length * 5 + 3) (.int .i64 t), rfl, hb, heap_setCell_same W g _ _ _ _ hg, hn, hc, by rw [Array.size_setIfInBounds]; exact hs, ?_⟩⟩
    rw [Array.toList_setIfInBounds, List.take_set, hx, flatI_set]
theorem WOk.lt {w0 W : World} {gm : Nat} {mp : Value} {S : List (In × Value)} (h : WOk w0 gm mp S W) : gm < W.heap.size := by
  obtain ⟨_, _, sv, hg, _⟩ := h.st
  exact lt_of_block hg
end Go.Proofs.YtpmobjgnmidolaaGreatDoor

/- The code of rules in memory, while it is measured. -/
namespace Go.Proofs.YtpmobjgnmidolaaGreatDoor
open Go.RowKit Lx Vx Msk
def upI (f : Nat → Int) (i : Nat) (v : Int) : Nat → Int := fun k => if k = i then v else f k
theorem upI_at (f : Nat → Int) (i : Nat) (v : Int) : upI f i v i = v := by unfold upI; rw [if_pos rfl]
theorem upI_ne (f : Nat → Int) {i k : Nat} (v : Int) (h : k ≠ i) : upI f i v k = f k := by unfold upI; rw [if_neg h]
def MeSt (go n : Nat) (sv : Nat → Value) (H T : Nat → Int) (w : World) : Prop := ∃ cur : Array Value, w.heap[go]? = some (.cells cur 32 (0, 0)) ∧ cur.size = n * 3 ∧ ∀ i, i < n → cur[i * 3]? = some (sv i) ∧ cur[i * 3 + 1]? = some (.int .i64 (H i)) ∧ cur[i * 3 + 2]? = some (.int .i64 (T i))
section
variable {go n : Nat} {sv : Nat → Value} {H T : Nat → Int} {w w' : World}
theorem MeSt.cells (h : MeSt go n sv H T w) {i : Nat} (hi : i < n) : w.cell? ⟨go, i * 3, none⟩ = some (sv i) ∧ w.cell? ⟨go, i * 3 + 1, none⟩ = some (.int .i64 (H i)) ∧ w.cell? ⟨go, i * 3 + 2, none⟩ = some (.int .i64 (T i)) ∧ w.frozen? ⟨go, i * 3 + 1, none⟩ = false ∧ w.frozen? ⟨go, i * 3 + 2, none⟩ = false := by
  obtain ⟨cur, hg, _, hc⟩ := h
  obtain ⟨c0, c1, c2⟩ := hc i hi
  exact ⟨(cell_of_row _ _ _ _ _ _ hg).trans c0, (cell_of_row _ _ _ _ _ _ hg).trans c1, (cell_of_row _ _ _ _ _ _ hg).trans c2, frozen_of_row _ _ _ _ _ hg, frozen_of_row _ _ _ _ _ hg⟩
theorem MeSt.lt (h : MeSt go n sv H T w) : go < w.heap.size := by
  obtain ⟨cur, hg, _⟩ := h
  exact lt_of_block hg
theorem MeSt.same (h : MeSt go n sv H T w) (e : w'.heap[go]? = w.heap[go]?) : MeSt go n sv H T w' := by
  obtain ⟨cur, hg, r⟩ := h
  exact ⟨cur, e.trans hg, r⟩
theorem MeSt.below (h : MeSt go n sv H T w) (hb : Below w.heap.size w w') : MeSt go n sv H T w' := h.same (hb.block _ h.lt)
theorem MeSt.setH (h : MeSt go n sv H T w) {i : Nat} (v : Int) (hi : i < n) : MeSt go n sv (upI H i v) T (w.setCell ⟨go, i * 3 + 1, none⟩ (.int .i64 v)) := by
  obtain ⟨cur, hg, hs, hc⟩ := h
  refine ⟨_, heap_setCell_same w go (i * 3 + 1) _ _ _ hg, by rw [Array.size_setIfInBounds]; exact hs, fun k hk => ?_⟩
  obtain ⟨c0, c1, c2⟩ := hc k hk
  refine ⟨?_, ?_, ?_⟩
  · rw [Array.getElem?_setIfInBounds_ne (by omega)]; exact c0
  · by_cases e : k = i
    · subst e
      rw [upI_at, Array.getElem?_setIfInBounds_self_of_lt (by omega)]
    · rw [upI_ne _ _ e, Array.getElem?_setIfInBounds_ne (by omega)]; exact c1
  · rw [Array.getElem?_setIfInBounds_ne (by omega)]; exact c2
theorem MeSt.setT (h : MeSt go n sv H T w) {i : Nat} (v : Int) (hi : i < n) : MeSt go n sv H (upI T i v) (w.setCell ⟨go, i * 3 + 2, none⟩ (.int .i64 v)) := by
  obtain ⟨cur, hg, hs, hc⟩ := h
  refine ⟨_, heap_setCell_same w go (i * 3 + 2) _ _ _ hg, by rw [Array.size_setIfInBounds]; exact hs, fun k hk => ?_⟩
  obtain ⟨c0, c1, c2⟩ := hc k hk
  refine ⟨?_, ?_, ?_⟩
  · rw [Array.getElem?_setIfInBounds_ne (by omega)]; exact c0
  · rw [Array.getElem?_setIfInBounds_ne (by omega)]; exact c1
  · by_cases e : k = i
    · subst e
      rw [upI_at, Array.getElem?_setIfInBounds_self_of_lt (by omega)]
    · rw [upI_ne _ _ e, Array.getElem?_setIfInBounds_ne (by omega)]; exact c2
end
theorem kept_set (w : World) (g i : Nat) (v : Value) : Kept g w (w.setCell ⟨g, i, none⟩ v) := Kept.set w g i v
def InsQ (w : World) (v : Value) (S : List (In × Value)) : Prop := w.ownsRow 0 46 5 v S.length (flatI S)
theorem InsQ.below {w w' : World} {v : Value} {S : List (In × Value)} (h : InsQ w v S) (hb : Below w.heap.size w w') : InsQ w' v S := own_below h hb
theorem InsQ.kept {w w' : World} {v : Value} {S : List (In × Value)} {go n : Nat} {sv : Nat → Value} {H T : Nat → Int} (h : InsQ w v S) (hm : MeSt go n sv H T w) (hk : Kept go w w') : InsQ w' v S := by
  obtain ⟨cur, hg, _⟩ := hm
  exact World.ownsRow.kept h hk (.inr fun e => own_neI h hg (by decide) e.symm)
theorem InsQ.form {w : World} {v : Value} {S : List (In × Value)} (h : InsQ w v S) (h1 : 1 ≤ S.length) : ∃ g c, v = .slice (some ⟨g, 0, none⟩) S.length c ∧ ∀ (j : Nat) (u : In × Value), S[j]? = some u →
    w.cell? ⟨g, j * 5, none⟩ = some (.int .i64 u.1.op) ∧ w.cell? ⟨g, j * 5 + 1, none⟩ = some (.int .i64 u.1.a) ∧ w.cell? ⟨g, j * 5 + 2, none⟩ = some (.int .i64 u.1.b) ∧ w.cell? ⟨g, j * 5 + 3, none⟩ = some (.int .i64 u.1.to) ∧ w.cell? ⟨g, j * 5 + 4, none⟩ = some u.2 := by
  rcases h.2 with ⟨_, e⟩ | ⟨g, cap, cur, e, _, hg, _, _, _, hx⟩
  · omega
  · refine ⟨g, cap, e, fun j u hj => ?_⟩
    have hjl := (List.getElem?_eq_some_iff.1 hj).1
    have key : ∀ (i : Nat) (v : Value), i < 5 → (iv u).toList[i]? = some v → w.cell? ⟨g, j * 5 + i, none⟩ = some v := fun i v hi hv => by
      refine (cell_of_row _ _ _ _ _ _ hg).trans ?_
      have e1 : (cur.toList.take (S.length * 5))[j * 5 + i]? = (flatI S)[j * 5 + i]? := by rw [hx]
      rw [List.getElem?_take_of_lt (by omega)] at e1
      rw [← Array.getElem?_toList, e1]
      have e2 : S = S.take j ++ (u :: S.drop (j + 1)) := by
        conv => lhs; rw [← List.take_append_drop j S]
        congr 1
        rw [List.drop_eq_getElem_cons hjl, (List.getElem?_eq_some_iff.1 hj).2]
      rw [e2, flatI_append, List.getElem?_append_right (by rw [flatI_len, List.length_take]; omega), flatI_len, List.length_take, Nat.min_eq_left (by omega), Nat.add_sub_cancel_left]
      show ((iv u).toList ++ flatI (S.drop (j + 1)))[i]? = _
      rw [List.getElem?_append_left (by rw [ivl_len]; exact hi)]
      exact hv
    exact ⟨key 0 _ (by omega) rfl, key 1 _ (by omega) rfl, key 2 _ (by omega) rfl, key 3 _ (by omega) rfl, key 4 _ (by omega) rfl⟩
def Me (mea : Nat → Int × Int) (H T : Nat → Int) (k : Nat) : Prop := H k = (mea k).1 ∧ T k = (mea k).2
def Okm (mea : Nat → Int × Int) (H T : Nat → Int) (k : Nat) : Prop := (H k = 0 ∧ T k = 0) ∨ Me mea H T k
def Rest (mea : Nat → Int × Int) (ρ : Nat → Nat) (n i : Nat) (H0 T0 H T : Nat → Int) : Prop := ∀ k, k < n → k ≠ i → (ρ k ≤ ρ i → Okm mea H T k ∧ (Me mea H0 T0 k → Me mea H T k)) ∧ (ρ i < ρ k → H k = H0 k ∧ T k = T0 k)
section
variable {mea : Nat → Int × Int} {ρ : Nat → Nat} {n i k0 : Nat} {H0 T0 H T H' T' : Nat → Int}
theorem Rest.refl (h : ∀ k, k < n → ρ k ≤ ρ i → Okm mea H0 T0 k) : Rest mea ρ n i H0 T0 H0 T0 := fun k hk _ => ⟨fun hr => ⟨h k hk hr, id⟩, fun _ => ⟨rfl, rfl⟩⟩
theorem Rest.setH (h : Rest mea ρ n i H0 T0 H T) (v : Int) : Rest mea ρ n i H0 T0 (upI H i v) T := fun k hk hne => by
  have := h k hk hne
  unfold Okm Me at this ⊢
  rw [upI_ne _ _ hne]
  exact this
theorem Rest.setT (h : Rest mea ρ n i H0 T0 H T) (v : Int) : Rest mea ρ n i H0 T0 H (upI T i v) := fun k hk hne => by
  have := h k hk hne
  unfold Okm Me at this ⊢
  rw [upI_ne _ _ hne]
  exact this
theorem Rest.pre (h : Rest mea ρ n i H0 T0 H T) (hr : ρ k0 < ρ i) : ∀ k, k < n → ρ k ≤ ρ k0 → Okm mea H T k := fun k hk hk0 => ((h k hk (fun e => by subst e; omega)).1 (by omega)).1
theorem Rest.call (h : Rest mea ρ n i H0 T0 H T) (hr : ρ k0 < ρ i) (hi : i < n) (hm : Me mea H' T' k0) (h' : Rest mea ρ n k0 H T H' T') : Rest mea ρ n i H0 T0 H' T' ∧ H' i = H i ∧ T' i = T i := by
  refine ⟨fun k hk hne => ⟨fun hri => ?_, fun hri => ?_⟩, (h' i hi (fun e => by subst e; omega)).2 hr⟩
  · by_cases e : k = k0
    · subst e
      exact ⟨.inr hm, fun _ => hm⟩
    · have a := (h k hk hne).1 hri
      by_cases hle : ρ k ≤ ρ k0
      · have b := (h' k hk e).1 hle
        exact ⟨b.1, fun q => b.2 (a.2 q)⟩
      · have b := (h' k hk e).2 (by omega)
        unfold Okm Me at a ⊢
        rw [b.1, b.2]
        exact a
  · have e : k ≠ k0 := fun e => by subst e; omega
    have a := (h k hk hne).2 hri
    have b := (h' k hk e).2 (by omega)
    exact ⟨b.1.trans a.1, b.2.trans a.2⟩
end
def OutM (mea : Nat → Int × Int) (ρ : Nat → Nat) (go n : Nat) (sv : Nat → Value) (i : Nat) (H0 T0 : Nat → Int) (w : World) (r : Ending) (w' : World) : Prop := r = .returned (.agg #[sv i, .int .i64 (mea i).1, .int .i64 (mea i).2]) ∧ ∃ H' T', MeSt go n sv H' T' w' ∧ Me mea H' T' i ∧ Rest mea ρ n i H0 T0 H' T' ∧ Kept go w w'
theorem codeType7 : Tryz.prog.underlying 32 = some (.struct (Tryz.prog.fieldsOf 32)) := by kernel_rfl
end Go.Proofs.YtpmobjgnmidolaaGreatDoor
