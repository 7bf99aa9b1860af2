/- What the laws' own question of code comes to: true. -/
import Derived.Test.YtpmobjgnmidolaaGreatDoorDz29
import Derived.Test.YtpmobjgnmidolaaGreatDoorDz19
import Derived.Test.YtpmobjgnmidolaaGreatDoorDz25
import Derived.Deep.Cut
import Derived.Test.YtpmobjgnmidolaaGreatDoorDz15
import Derived.Lib.SmallJoins
import Derived.OpenShut
import Derived.Test.YtpmobjgnmidolaaGreatDoorDz10
import Derived.Test.YtpmobjgnmidolaaGreatDoorDz02
import Derived.Test.YtpmobjgnmidolaaGreatDoorDz03
import Derived.Test.YtpmobjgnmidolaaGreatDoorCards
import Derived.Test.YtpmobjgnmidolaaGreatDoorTie
import Derived.ProofKit
import Derived.LaidMore
import Derived.Stop.Joined
import Derived.SevenTiedAt
import Derived.Lib.LaidTab
import Derived.Carry
namespace Go.Proofs.YtpmobjgnmidolaaGreatDoor
open Go.RowKit Lx Vx Msk
set_option maxRecDepth 100000 in
set_option maxHeartbeats 2000000 in
theorem rules7_any (s : List UInt8) (n : Nat) (T : List Tk) (L : List Ru) (hit : iterN s n = some (T, s.length)) (hr : rulesR s.length (T.length + 1) [] T = .ok L) (h6 : s.length ≤ 6000) (hn : NmR L) (w : World) (hT : CTab w) (hD : DTab w) :
    Calls Tryz.prog 8 #[.string ⟨s.toArray⟩] w (OutRu L w) := by
  have c1 := parse_any ⟨s.toArray⟩ s (by simp) (by omega) w hT hD
  go_enter Tryz.func8, Tryz.ntmps8
  go_wp2_with fail
  refine c1.mono ?_
  rintro e w1 ⟨⟨v, er, at_, rfl, hx⟩, hb1⟩
  obtain ⟨rfl, us, hus, h40, hrow⟩ := tells_of hit hr h6 hx
  have hin := inR_of_made hrow h40 (by rw [hus]; exact hn)
  have hb1a := hb1.alloc hb1.size (.cells #[.int .i64 0, .int .i64 at_] 27)
  have b1 := (Below.refl _ w1).alloc (Nat.le_refl _) (.cells #[.int .i64 0, .int .i64 at_] 27)
  have hf1 := heap_alloc_new w1 (.cells #[.int .i64 0, .int .i64 at_] 27)
  have HO : Hid (OutRu L w (.returned v) (w1.alloc (.cells #[.int .i64 0, .int .i64 at_] 27))) := ⟨v, us, rfl, hus, hin.below b1, hb1a⟩
  obtain ⟨pv, cv, rfl⟩ := hin.form
  clear c1 hx hrow hin hus h40 b1 hb1a hb1 hit hr
  generalize hwA : w1.alloc (.cells #[.int .i64 0, .int .i64 at_] 27) = wA at *
  have z0 := (cell_of_row _ _ 0 _ _ _ hf1).trans rfl
  go_wp2_with fail
  go_ret
  exact HO.out
theorem a7_names : NmR a7L := fun p hp => by
  simp only [a7L, List.mem_cons, List.not_mem_nil, or_false] at hp
  rcases hp with rfl | rfl
  · exact ⟨by decide, by decide, nmk_cons (by decide) nmk_nil (nmk_cons (by decide) nmk_nil nmk_nil)⟩
  · exact ⟨by decide, by decide, nmk_cons (by decide) nmk_nil (nmk_cons (by decide) (nmk_cons (by decide) nmk_nil nmk_nil) nmk_nil)⟩
set_option maxRecDepth 100000 in
set_option maxHeartbeats 2000000 in
theorem alive7_any (w : World) (hPT : PT2 w) (hTb : Tab w) : Calls Tryz.prog 4 #[] w fun e w' => e = .returned (.bool true) ∧ Below w.heap.size w w' := by
  have t0 := hPT w (Below.refl _ _)
  have c1 := rules7_any a7S 21 a7T a7L a7_iter a7_rules (by decide) a7_names w t0.1 t0.2
  unfold a7S at c1
  have HTb := hid5 hTb
  clear t0 hPT hTb
  go_enter Tryz.func4, Tryz.ntmps4
  go_wp2_with fail
  refine c1.mono ?_
  rintro e w1 ⟨v, us, rfl, hus, hin, hb1⟩
  have c2 := compile_any us v w1 hin (tab_below HTb.out hb1)
  rw [hus] at c2
  unfold OutC at c2
  rw [a7_flt] at c2
  clear c1 hus hin HTb
  go_wp2_with fail
  refine c2.mono ?_
  rintro e w2 ⟨vm, rfl, hiv, _, b2⟩
  have hb2 := hb1.trans (b2.mono hb1.size)
  obtain ⟨p, c, rfl, _, hr⟩ := (hiv (by trivial)).form
  obtain ⟨sv, hsv, g, o, hp, q0, q1, q2⟩ := hr 0 _ (cmpL_at (by decide))
  obtain ⟨sv', _, g', o', hp', r0, r1, r2⟩ := hr 1 _ (cmpL_at (by decide))
  obtain ⟨ps, cs, hps, _, _⟩ := hsv.form
  rw [a7_c0] at hps
  rw [hps] at q0
  rw [a7_m1] at r1 r2
  subst hp
  cases hp'
  have b3 := below_setRow ((Below.refl w2.heap.size w2).alloc (Nat.le_refl _) (.cells #[.int .i64 0, .int .i64 0] 27)) (Nat.le_refl _) #[.int .i64 0, .int .i64 0]
  have n3 := heap_alloc_new w2 (.cells #[.int .i64 0, .int .i64 0] 27)
  have n4 := setRow_heap _ _ _ #[.int .i64 0, .int .i64 0] _ _ n3
  have hb3 := hb2.trans (b3.mono hb2.size)
  have s0 := (b3.cell (block_lt_of_cell q0)).trans q0
  have s1 := (b3.cell (block_lt_of_cell r1)).trans r1
  have s2 := (b3.cell (block_lt_of_cell r2)).trans r2
  rw [Nat.zero_mul, Nat.add_zero] at s0
  rw [Nat.one_mul] at s1 s2
  rw [show (cmpL a7L).length = 2 from cmpL_len a7L]
  generalize hw3 : w2.alloc (.cells #[.int .i64 0, .int .i64 0] 27) = w3 at *
  generalize hw4 : w3.setRow w2.heap.size #[.int .i64 0, .int .i64 0] = w4 at *
  have z0 := (cell_of_row _ _ 0 _ _ _ n4).trans rfl
  clear c2 hr q0 q1 q2 r0 r1 r2 b2 hb2 b3 hb1 hsv hps hiv
  go_wp2_with (refine wpList_store_row rfl 27 _ _ rfl _ _ rfl rfl _ _ n3 (by kernel_rfl) (by simp) (by simp [Value.oneCell']) ?_)
  go_ret
  exact ⟨rfl, hb3⟩
end Go.Proofs.YtpmobjgnmidolaaGreatDoor

/- What the law CodeSize comes to. -/
namespace Go.Proofs.YtpmobjgnmidolaaGreatDoor
open Go.RowKit Lx Vx Msk
set_option maxRecDepth 100000 in
set_option maxHeartbeats 4000000 in
theorem csize_walk (us : List (Ru × Value)) (v : Value) (w : World) (h : InR w v us) (hPT : PT2 w) (hTb : Tab w) :
    Calls Tryz.prog 3 #[v] w fun e w' => e = .returned (.bool true) ∧ Below w.heap.size w w' := by
  have hz := mv_lit
  obtain ⟨l, hl⟩ : ∃ l, us.map (fun p => p.1) = l := ⟨_, rfl⟩
  obtain ⟨n, hn⟩ : ∃ n, us.length = n := ⟨_, rfl⟩
  have hll : l.length = n := by rw [← hl, List.length_map, hn]
  obtain ⟨pv, cv, rfl⟩ := h.form
  have hlt := h.len
  have c0 := alive7_any w hPT hTb
  have HI := hid5 h
  have HT := hid5 hTb
  have HL := hid5 hl
  have HLL := hid5 hll
  have HN := hid5 hn
  rw [hn] at HI hlt
  rw [hn]
  have hn1 : (n : Int) < 9223372036854775808 := by omega
  have hn0 : (0 : Int) ≤ (n : Int) := by omega
  clear h hPT hTb hl hll hn
  go_enter Tryz.func3, Tryz.ntmps3
  go_wp2_with fail
  refine c0.mono ?_
  rintro e w0 ⟨rfl, b0⟩
  have cC := compile_any us _ w0 (HI.out.below b0) (tab_below HT.out b0)
  unfold OutC at cC
  rw [HL.out] at cC
  clear c0
  go_wp2_with fail
  refine cC.mono ?_
  rintro e w1 ⟨v1, rfl, hin, hno, b1⟩
  have hb1 := b0.trans (b1.mono b0.size)
  obtain ⟨er, her⟩ : ∃ q, (cflt l).1 = q := ⟨_, rfl⟩
  obtain ⟨at0, hat⟩ : ∃ q, (cflt l).2 = q := ⟨_, rfl⟩
  have HER := hid5 her
  rw [her] at hin hno
  rw [her, hat]
  have bF := (Below.refl w1.heap.size w1).alloc (Nat.le_refl _) (.cells #[.int .i64 er, .int .i64 at0] 27)
  have nF := heap_alloc_new w1 (.cells #[.int .i64 er, .int .i64 at0] 27)
  have hbF := hb1.trans (bF.mono hb1.size)
  have HIN : Hid (er = 0 → InV (w1.alloc (.cells #[.int .i64 er, .int .i64 at0] 27)) v1 (cmpL l)) := fun e => (hin e).below bF
  generalize hwF : w1.alloc (.cells #[.int .i64 er, .int .i64 at0] 27) = wF at *
  have z0 := (cell_of_row _ _ 0 _ _ _ nF).trans rfl
  clear cC hin her hat bF nF hb1 b0 b1
  by_cases he : er = 0
  · subst he
    have hiv := HIN.out rfl
    obtain ⟨p1, cc, hv1, _, hcd⟩ := hiv.form
    have hl1 : (cmpL l).length = n := (cmpL_len l).trans HLL.out
    rw [hl1] at hv1
    subst hv1
    have HCD := hid5 hcd
    have HBF := hid5 hbF
    clear hno hiv hl1 hbF hcd HIN
    go_wp2_with fail
    clear z0 hwF
    go_loopw [5, 6, 7, 20] (fun _ _ _ t wr => ∃ j : Nat, t = .int .i64 (j : Int) ∧ j ≤ n ∧ Below wF.heap.size wF wr) (fun _ _ _ t _ => n - (intOf t).toNat)
    case atStart => exact ⟨0, rfl, by omega, Below.refl _ _⟩
    case round =>
      obtain ⟨j, rfl, hj, hbr⟩ := hrel
      have hj0 : (0 : Int) ≤ (j : Int) := by omega
      by_cases hjn : j < n
      · have hlt' : (j : Int) < (n : Int) := by omega
        obtain ⟨⟨u, sk⟩, hjk⟩ : ∃ p, us[j]? = some p := ⟨us[j]'(by rw [HN.out]; exact hjn), List.getElem?_eq_getElem _⟩
        have hul : l[j]? = some u := by rw [← HL.out, List.getElem?_map, hjk]; rfl
        have hfin := HBF.out.trans (hbr.mono HBF.out.size)
        have hir := HI.out.below hfin
        have hir' := hir
        rw [← HN.out] at hir'
        obtain ⟨gr, o, hpe, _, d1, d2, d3, d4, d5⟩ := hir'.cells j _ hjk
        obtain ⟨_, _, dk, hdk⟩ := hir.all _ (List.mem_of_getElem? hjk)
        obtain ⟨qs, cs, hsk⟩ := hdk.form
        obtain ⟨ns, hns⟩ : ∃ q, u.2.kids.length = q := ⟨_, rfl⟩
        obtain ⟨sv, hsv, gc, oc, hpc, e0, _, e2⟩ := HCD.out j _ (cmpL_at (l := l) (i := j) (by rw [HLL.out]; exact hjn))
        obtain ⟨pi, ci, hpi, _, hxi⟩ := hsv.form
        obtain ⟨g1, g2, g3⟩ := size_facts HER.out hul
        have hrt := (chk_rt (cflt_ok HER.out).1).2 _ (List.mem_of_getElem? hul)
        dsimp only at d1 d2 d3 d4 d5 hsk hdk hpi e0 e2 hns
        obtain ⟨m, hm⟩ : ∃ q, ((codeL l).getD j []).length = q := ⟨_, rfl⟩
        obtain ⟨st, hst⟩ : ∃ q, (cmpM l j).2 = q := ⟨_, rfl⟩
        rw [hm] at hpi g1 g2
        rw [hst] at g2 e2
        rw [hns] at hsk
        have hone : stdE u.2 = true → m = 1 ∧ ∃ gi oi : Nat, pi = some ⟨gi, oi, none⟩ ∧ wr.cell? ⟨gi, oi, none⟩ = some (.int .i64 1) := fun hs => by
          have hq := g3 hs
          refine ⟨by rw [← hm, hq]; rfl, ?_⟩
          obtain ⟨sv2, _, gi, oi, e1, k0, _⟩ := hxi 0 _ (by dsimp only; rw [hq]; rfl)
          refine ⟨gi, oi, e1, ?_⟩
          have := (hbr.cell (block_lt_of_cell k0)).trans k0
          rw [Nat.zero_mul, Nat.add_zero] at this
          exact this
        subst hpi
        have e0 := (hbr.cell (block_lt_of_cell e0)).trans e0
        have e2 := (hbr.cell (block_lt_of_cell e2)).trans e2
        obtain ⟨N, hN⟩ : ∃ q : Int, (nodE u.2 : Int) = q := ⟨_, rfl⟩
        have g1 : (m : Int) ≤ N := by rw [← hN]; omega
        have hnd := hrt.nod
        have cN : ∀ W, Below wr.heap.size wr W → Calls Tryz.prog 6 #[.agg #[.int .i64 u.2.kind, .int .i64 u.2.a, .int .i64 u.2.b, .string ⟨u.2.name.toArray⟩, sk]] W fun r w' => r = .returned (.int .i64 N) ∧ Below W.heap.size W w' := fun W hW => by
          have := nodes_any dk u.2 sk W ((hdk.kept fun q _ hl => hW.block q hl).mono fun q hq => Nat.lt_of_lt_of_le hq hW.size) (by omega)
          unfold OutNd at this
          rw [hN] at this
          exact this
        have cSt : ∀ W, Below wr.heap.size wr W → Calls Tryz.prog 7 #[.agg #[.int .i64 u.2.kind, .int .i64 u.2.a, .int .i64 u.2.b, .string ⟨u.2.name.toArray⟩, sk]] W (OutMn (stdE u.2) (mnE u.2) W) := fun W hW =>
          rsteady_any dk u.2 sk W ((hdk.kept fun q _ hl => hW.block q hl).mono fun q hq => Nat.lt_of_lt_of_le hq hW.size) hrt.ok
        have HBR := hid5 hbr
        subst hsk hpe hpc
        have hx0 : (0 : Int) ≤ (m : Int) := by omega
        have g3 : decide (N < (m : Int)) = false := decide_eq_false (by omega)
        have g4 : decide (st < (m : Int)) = false := decide_eq_false (by omega)
        clear hul hfin hir hir' hjk hdk hsv hxi hrt hnd hN hm hst hns hbr g1 g2
        go_wp2_with fail
        refine wp_region_vals (by kernel_rfl) (by kernel_rfl) (by kernel_rfl) (by kernel_rfl) [(23, .slice (some ⟨gc, oc, none⟩) n cc), (24, .int .i64 (j : Int)), (25, .pointer (some ⟨gc, oc + j * 3, none⟩)), (26, .pointer (some ⟨gc, oc + j * 3, none⟩)), (27, .slice pi m ci), (28, .int .i64 (m : Int)), (29, .slice (some ⟨gr, o, none⟩) n cv), (30, .int .i64 (j : Int)), (31, .pointer (some ⟨gr, o + j * 6, none⟩)), (32, .pointer (some ⟨gr, o + j * 6 + 1, none⟩)), (33, .agg #[.int .i64 u.2.kind, .int .i64 u.2.a, .int .i64 u.2.b, .string ⟨u.2.name.toArray⟩, .slice qs ns cs]), (34, .int .i64 N), (35, .bool false), (36, .bool false), (37, .slice (some ⟨gc, oc, none⟩) n cc), (38, .int .i64 (j : Int)), (39, .pointer (some ⟨gc, oc + j * 3, none⟩)), (40, .pointer (some ⟨gc, oc + j * 3 + 2, none⟩)), (41, .int .i64 st), (42, .slice (some ⟨gc, oc, none⟩) n cc), (43, .int .i64 (j : Int)), (44, .pointer (some ⟨gc, oc + j * 3, none⟩)), (45, .pointer (some ⟨gc, oc + j * 3, none⟩)), (46, .slice pi m ci), (47, .int .i64 (m : Int)), (48, .bool false), (49, .bool false)] (by kernel_rfl) (by kernel_rfl) ?_ ?_
        · intro i s v o L A W ho hv hdep hJ hkept hhas
          match i, ho, hv with
          | 0, ho, hv =>
            cases Option.some.inj ho
            cases Option.some.inj hv
            have h3 : A.tmps[3]?.getD undef = .slice (some ⟨gc, oc, none⟩) n cc := (gd A 3).trans (hkept 3 (by kernel_rfl))
            refine wpOp_step rfl (fun K hK => ?_)
            go_simp
            exact hK _ _ ⟨rfl, Below.refl _ _⟩
          | 1, ho, hv =>
            cases Option.some.inj ho
            cases Option.some.inj hv
            have h5 : A.tmps[5]?.getD undef = .int .i64 (j : Int) := (gd A 5).trans (hkept 5 (by kernel_rfl))
            refine wpOp_step rfl (fun K hK => ?_)
            go_simp
            exact hK _ _ ⟨rfl, Below.refl _ _⟩
          | 2, ho, hv =>
            cases Option.some.inj ho
            cases Option.some.inj hv
            have h23 : A.tmps[23]?.getD undef = .slice (some ⟨gc, oc, none⟩) n cc := (gd A 23).trans (hhas 0 23 _ rfl (hdep ⟨0, .data⟩ (by simp) rfl))
            have h24 : A.tmps[24]?.getD undef = .int .i64 (j : Int) := (gd A 24).trans (hhas 1 24 _ rfl (hdep ⟨1, .data⟩ (by simp) rfl))
            refine wpOp_step rfl (fun K hK => ?_)
            go_simp
            exact hK _ _ ⟨rfl, Below.refl _ _⟩
          | 3, ho, hv =>
            cases Option.some.inj ho
            cases Option.some.inj hv
            have h25 : A.tmps[25]?.getD undef = .pointer (some ⟨gc, oc + j * 3, none⟩) := (gd A 25).trans (hhas 2 25 _ rfl (hdep ⟨2, .data⟩ (by simp) rfl))
            refine wpOp_step rfl (fun K hK => ?_)
            go_simp
            exact hK _ _ ⟨rfl, Below.refl _ _⟩
          | 4, ho, hv =>
            cases Option.some.inj ho
            cases Option.some.inj hv
            have h26 : A.tmps[26]?.getD undef = .pointer (some ⟨gc, oc + j * 3, none⟩) := (gd A 26).trans (hhas 3 26 _ rfl (hdep ⟨3, .data⟩ (by simp) rfl))
            have qe0 := (hJ.cell (block_lt_of_cell e0)).trans e0
            refine wpOp_step rfl (fun K hK => ?_)
            go_simp
            exact hK _ _ ⟨rfl, Below.refl _ _⟩
          | 5, ho, hv =>
            cases Option.some.inj ho
            cases Option.some.inj hv
            have h27 : A.tmps[27]?.getD undef = .slice pi m ci := (gd A 27).trans (hhas 4 27 _ rfl (hdep ⟨4, .data⟩ (by simp) rfl))
            refine wpOp_step rfl (fun K hK => ?_)
            go_simp
            exact hK _ _ ⟨rfl, Below.refl _ _⟩
          | 6, ho, hv =>
            cases Option.some.inj ho
            cases Option.some.inj hv
            have h0 : A.tmps[0]?.getD undef = .slice (some ⟨gr, o, none⟩) n cv := (gd A 0).trans (hkept 0 (by kernel_rfl))
            refine wpOp_step rfl (fun K hK => ?_)
            go_simp
            exact hK _ _ ⟨rfl, Below.refl _ _⟩
          | 7, ho, hv =>
            cases Option.some.inj ho
            cases Option.some.inj hv
            have h5 : A.tmps[5]?.getD undef = .int .i64 (j : Int) := (gd A 5).trans (hkept 5 (by kernel_rfl))
            refine wpOp_step rfl (fun K hK => ?_)
            go_simp
            exact hK _ _ ⟨rfl, Below.refl _ _⟩
          | 8, ho, hv =>
            cases Option.some.inj ho
            cases Option.some.inj hv
            have h29 : A.tmps[29]?.getD undef = .slice (some ⟨gr, o, none⟩) n cv := (gd A 29).trans (hhas 6 29 _ rfl (hdep ⟨6, .data⟩ (by simp) rfl))
            have h30 : A.tmps[30]?.getD undef = .int .i64 (j : Int) := (gd A 30).trans (hhas 7 30 _ rfl (hdep ⟨7, .data⟩ (by simp) rfl))
            refine wpOp_step rfl (fun K hK => ?_)
            go_simp
            exact hK _ _ ⟨rfl, Below.refl _ _⟩
          | 9, ho, hv =>
            cases Option.some.inj ho
            cases Option.some.inj hv
            have h31 : A.tmps[31]?.getD undef = .pointer (some ⟨gr, o + j * 6, none⟩) := (gd A 31).trans (hhas 8 31 _ rfl (hdep ⟨8, .data⟩ (by simp) rfl))
            refine wpOp_step rfl (fun K hK => ?_)
            go_simp
            exact hK _ _ ⟨rfl, Below.refl _ _⟩
          | 10, ho, hv =>
            cases Option.some.inj ho
            cases Option.some.inj hv
            have h32 : A.tmps[32]?.getD undef = .pointer (some ⟨gr, o + j * 6 + 1, none⟩) := (gd A 32).trans (hhas 9 32 _ rfl (hdep ⟨9, .data⟩ (by simp) rfl))
            have qd1 := (hJ.cell (block_lt_of_cell d1)).trans d1
            have qd2 := (hJ.cell (block_lt_of_cell d2)).trans d2
            have qd3 := (hJ.cell (block_lt_of_cell d3)).trans d3
            have qd4 := (hJ.cell (block_lt_of_cell d4)).trans d4
            have qd5 := (hJ.cell (block_lt_of_cell d5)).trans d5
            refine wpOp_step rfl (fun K hK => ?_)
            go_simp
            exact hK _ _ ⟨rfl, Below.refl _ _⟩
          | 11, ho, hv =>
            cases Option.some.inj ho
            cases Option.some.inj hv
            have h33 : A.tmps[33]?.getD undef = .agg #[.int .i64 u.2.kind, .int .i64 u.2.a, .int .i64 u.2.b, .string ⟨u.2.name.toArray⟩, .slice qs ns cs] := (gd A 33).trans (hhas 10 33 _ rfl (hdep ⟨10, .data⟩ (by simp) rfl))
            refine wpOp_step rfl (fun K hK => ?_)
            go_simp
            refine (cN W hJ).mono ?_
            rintro e' W' ⟨rfl, hb'⟩
            exact hK _ _ ⟨rfl, hb'⟩
          | 12, ho, hv =>
            cases Option.some.inj ho
            cases Option.some.inj hv
            have h28 : A.tmps[28]?.getD undef = .int .i64 (m : Int) := (gd A 28).trans (hhas 5 28 _ rfl (hdep ⟨5, .data⟩ (by simp) rfl))
            have h34 : A.tmps[34]?.getD undef = .int .i64 N := (gd A 34).trans (hhas 11 34 _ rfl (hdep ⟨11, .data⟩ (by simp) rfl))
            refine wpOp_step rfl (fun K hK => ?_)
            go_simp
            exact hK _ _ ⟨rfl, Below.refl _ _⟩
          | 13, ho, hv =>
            cases Option.some.inj ho
            cases Option.some.inj hv
            have h35 : A.tmps[35]?.getD undef = .bool false := (gd A 35).trans (hhas 12 35 _ rfl (hdep ⟨12, .data⟩ (by simp) rfl))
            refine wpOp_step rfl (fun K hK => ?_)
            go_simp
            exact hK _ _ ⟨rfl, Below.refl _ _⟩
          | 14, ho, hv =>
            cases Option.some.inj ho
            cases Option.some.inj hv
            have hG : A.tmps[36]? = some (.bool false) := gdb (hhas 13 36 _ rfl (hdep ⟨13, .guard⟩ (by simp) rfl))
            have h3 : A.tmps[3]?.getD undef = .slice (some ⟨gc, oc, none⟩) n cc := (gd A 3).trans (hkept 3 (by kernel_rfl))
            refine wpOp_step rfl (fun K hK => ?_)
            go_simp
            exact hK _ _ ⟨rfl, Below.refl _ _⟩
          | 15, ho, hv =>
            cases Option.some.inj ho
            cases Option.some.inj hv
            have hG : A.tmps[36]? = some (.bool false) := gdb (hhas 13 36 _ rfl (hdep ⟨13, .guard⟩ (by simp) rfl))
            have h5 : A.tmps[5]?.getD undef = .int .i64 (j : Int) := (gd A 5).trans (hkept 5 (by kernel_rfl))
            refine wpOp_step rfl (fun K hK => ?_)
            go_simp
            exact hK _ _ ⟨rfl, Below.refl _ _⟩
          | 16, ho, hv =>
            cases Option.some.inj ho
            cases Option.some.inj hv
            have hG : A.tmps[36]? = some (.bool false) := gdb (hhas 13 36 _ rfl (hdep ⟨13, .guard⟩ (by simp) rfl))
            have h37 : A.tmps[37]?.getD undef = .slice (some ⟨gc, oc, none⟩) n cc := (gd A 37).trans (hhas 14 37 _ rfl (hdep ⟨14, .data⟩ (by simp) rfl))
            have h38 : A.tmps[38]?.getD undef = .int .i64 (j : Int) := (gd A 38).trans (hhas 15 38 _ rfl (hdep ⟨15, .data⟩ (by simp) rfl))
            refine wpOp_step rfl (fun K hK => ?_)
            go_simp
            exact hK _ _ ⟨rfl, Below.refl _ _⟩
          | 17, ho, hv =>
            cases Option.some.inj ho
            cases Option.some.inj hv
            have hG : A.tmps[36]? = some (.bool false) := gdb (hhas 13 36 _ rfl (hdep ⟨13, .guard⟩ (by simp) rfl))
            have h39 : A.tmps[39]?.getD undef = .pointer (some ⟨gc, oc + j * 3, none⟩) := (gd A 39).trans (hhas 16 39 _ rfl (hdep ⟨16, .data⟩ (by simp) rfl))
            refine wpOp_step rfl (fun K hK => ?_)
            go_simp
            exact hK _ _ ⟨rfl, Below.refl _ _⟩
          | 18, ho, hv =>
            cases Option.some.inj ho
            cases Option.some.inj hv
            have hG : A.tmps[36]? = some (.bool false) := gdb (hhas 13 36 _ rfl (hdep ⟨13, .guard⟩ (by simp) rfl))
            have h40 : A.tmps[40]?.getD undef = .pointer (some ⟨gc, oc + j * 3 + 2, none⟩) := (gd A 40).trans (hhas 17 40 _ rfl (hdep ⟨17, .data⟩ (by simp) rfl))
            have qe2 := (hJ.cell (block_lt_of_cell e2)).trans e2
            refine wpOp_step rfl (fun K hK => ?_)
            go_simp
            exact hK _ _ ⟨rfl, Below.refl _ _⟩
          | 19, ho, hv =>
            cases Option.some.inj ho
            cases Option.some.inj hv
            have hG : A.tmps[36]? = some (.bool false) := gdb (hhas 13 36 _ rfl (hdep ⟨13, .guard⟩ (by simp) rfl))
            have h3 : A.tmps[3]?.getD undef = .slice (some ⟨gc, oc, none⟩) n cc := (gd A 3).trans (hkept 3 (by kernel_rfl))
            refine wpOp_step rfl (fun K hK => ?_)
            go_simp
            exact hK _ _ ⟨rfl, Below.refl _ _⟩
          | 20, ho, hv =>
            cases Option.some.inj ho
            cases Option.some.inj hv
            have hG : A.tmps[36]? = some (.bool false) := gdb (hhas 13 36 _ rfl (hdep ⟨13, .guard⟩ (by simp) rfl))
            have h5 : A.tmps[5]?.getD undef = .int .i64 (j : Int) := (gd A 5).trans (hkept 5 (by kernel_rfl))
            refine wpOp_step rfl (fun K hK => ?_)
            go_simp
            exact hK _ _ ⟨rfl, Below.refl _ _⟩
          | 21, ho, hv =>
            cases Option.some.inj ho
            cases Option.some.inj hv
            have hG : A.tmps[36]? = some (.bool false) := gdb (hhas 13 36 _ rfl (hdep ⟨13, .guard⟩ (by simp) rfl))
            have h42 : A.tmps[42]?.getD undef = .slice (some ⟨gc, oc, none⟩) n cc := (gd A 42).trans (hhas 19 42 _ rfl (hdep ⟨19, .data⟩ (by simp) rfl))
            have h43 : A.tmps[43]?.getD undef = .int .i64 (j : Int) := (gd A 43).trans (hhas 20 43 _ rfl (hdep ⟨20, .data⟩ (by simp) rfl))
            refine wpOp_step rfl (fun K hK => ?_)
            go_simp
            exact hK _ _ ⟨rfl, Below.refl _ _⟩
          | 22, ho, hv =>
            cases Option.some.inj ho
            cases Option.some.inj hv
            have hG : A.tmps[36]? = some (.bool false) := gdb (hhas 13 36 _ rfl (hdep ⟨13, .guard⟩ (by simp) rfl))
            have h44 : A.tmps[44]?.getD undef = .pointer (some ⟨gc, oc + j * 3, none⟩) := (gd A 44).trans (hhas 21 44 _ rfl (hdep ⟨21, .data⟩ (by simp) rfl))
            refine wpOp_step rfl (fun K hK => ?_)
            go_simp
            exact hK _ _ ⟨rfl, Below.refl _ _⟩
          | 23, ho, hv =>
            cases Option.some.inj ho
            cases Option.some.inj hv
            have hG : A.tmps[36]? = some (.bool false) := gdb (hhas 13 36 _ rfl (hdep ⟨13, .guard⟩ (by simp) rfl))
            have h45 : A.tmps[45]?.getD undef = .pointer (some ⟨gc, oc + j * 3, none⟩) := (gd A 45).trans (hhas 22 45 _ rfl (hdep ⟨22, .data⟩ (by simp) rfl))
            have qe0 := (hJ.cell (block_lt_of_cell e0)).trans e0
            refine wpOp_step rfl (fun K hK => ?_)
            go_simp
            exact hK _ _ ⟨rfl, Below.refl _ _⟩
          | 24, ho, hv =>
            cases Option.some.inj ho
            cases Option.some.inj hv
            have hG : A.tmps[36]? = some (.bool false) := gdb (hhas 13 36 _ rfl (hdep ⟨13, .guard⟩ (by simp) rfl))
            have h46 : A.tmps[46]?.getD undef = .slice pi m ci := (gd A 46).trans (hhas 23 46 _ rfl (hdep ⟨23, .data⟩ (by simp) rfl))
            refine wpOp_step rfl (fun K hK => ?_)
            go_simp
            exact hK _ _ ⟨rfl, Below.refl _ _⟩
          | 25, ho, hv =>
            cases Option.some.inj ho
            cases Option.some.inj hv
            have hG : A.tmps[36]? = some (.bool false) := gdb (hhas 13 36 _ rfl (hdep ⟨13, .guard⟩ (by simp) rfl))
            have h41 : A.tmps[41]?.getD undef = .int .i64 st := (gd A 41).trans (hhas 18 41 _ rfl (hdep ⟨18, .data⟩ (by simp) rfl))
            have h47 : A.tmps[47]?.getD undef = .int .i64 (m : Int) := (gd A 47).trans (hhas 24 47 _ rfl (hdep ⟨24, .data⟩ (by simp) rfl))
            refine wpOp_step rfl (fun K hK => ?_)
            go_simp
            exact hK _ _ ⟨rfl, Below.refl _ _⟩
          | 26, ho, hv =>
            cases Option.some.inj ho
            cases Option.some.inj hv
            have h36 : A.tmps[36]?.getD undef = .bool false := (gd A 36).trans (hhas 13 36 _ rfl (hdep ⟨13, .data⟩ (by simp) rfl))
            have h48 : A.tmps[48]?.getD undef = .bool false := (gd A 48).trans (hhas 25 48 _ rfl (hdep ⟨25, .data⟩ (by simp) rfl))
            refine wpOp_step rfl (fun K hK => ?_)
            go_simp
            exact hK _ _ ⟨rfl, Below.refl _ _⟩
          | k + 27, ho, hv => simp at ho
        · intro W hJ
          simp only [putAll_cons, putAll_nil]
          go_simp
          obtain ⟨wq, hwq⟩ : ∃ q, q = W := ⟨_, rfl⟩
          rw [← hwq] at hJ ⊢
          have HJ := hid5 hJ
          have cS := cSt wq hJ
          have hxq0 := hx0
          have hbq := HBR.out.trans (hJ.mono HBR.out.size)
          have f1 := (hJ.cell (block_lt_of_cell d1)).trans d1
          have f2 := (hJ.cell (block_lt_of_cell d2)).trans d2
          have f3 := (hJ.cell (block_lt_of_cell d3)).trans d3
          have f4 := (hJ.cell (block_lt_of_cell d4)).trans d4
          have f5 := (hJ.cell (block_lt_of_cell d5)).trans d5
          clear hwq hJ d1 d2 d3 d4 d5 cN hxq0 g3 g4
          go_wp2_with fail
          refine cS.mono ?_
          rintro e' w5 ⟨⟨fm, rfl, hfm⟩, b5⟩
          clear hfm
          have hb5 := hbq.trans (b5.mono hbq.size)
          have hm2 := heap_alloc_new w5 (.cells (mv fun _ => false) 41)
          have hb6 := hb5.alloc hb5.size (.cells (mv fun _ => false) 41)
          have hb7 := below_setRow hb6 hb5.size (mv fm)
          have bb : Below wr.heap.size wr ((w5.alloc (.cells (mv fun _ => false) 41)).setRow w5.heap.size (mv fm)) := by
            have k1 := HJ.out.trans (b5.mono HJ.out.size)
            have k2 := k1.alloc k1.size (.cells (mv fun _ => false) 41)
            exact below_setRow k2 k1.size (mv fm)
          have t0 := (bb.cell (block_lt_of_cell e0)).trans e0
          clear cS b5 hbq hb5 hb6 HJ f1 f2 f3 f4 f5 e0 e2
          generalize hw3 : w5.alloc (.cells (mv fun _ => false) 41) = w6 at *
          generalize hw4 : w6.setRow w5.heap.size (mv fm) = w7 at *
          cases hstd : stdE u.2 with
          | false =>
            go_wp2_with (refine wpList_store_row rfl 41 _ _ rfl _ _ rfl rfl _ _ hm2 (maskSize _) (by simp [mv_size]) (mv_all _) ?_)
            go_roundw
            case rel => exact ⟨j + 1, by go_num, by omega, hb7⟩
            case measure => simp [intOf]; omega
          | true =>
            obtain ⟨hm1, gi, oi, hpi, hop⟩ := hone hstd
            subst hpi
            have hm3 : ((m : Int) != 1) = false := by rw [hm1]; rfl
            have hm4 : (0 : Int) < (m : Int) := by omega
            clear hm1
            have t1 := (bb.cell (block_lt_of_cell hop)).trans hop
            clear hone bb hop
            go_upto_region 12 with (refine wpList_store_row rfl 41 _ _ rfl _ _ rfl rfl _ _ hm2 (maskSize _) (by simp [mv_size]) (mv_all _) ?_)
            go_wp2_with fail
            go_roundw
            case rel => exact ⟨j + 1, by go_num, by omega, hb7⟩
            case measure => simp [intOf]; omega
      · have hlt' : ¬ (j : Int) < (n : Int) := by omega
        have hbe := HBF.out.trans (hbr.mono HBF.out.size)
        go_wp2_with fail
        go_ret
        exact ⟨rfl, hbe⟩
  · have hv1 := hno he
    subst hv1
    have hbn : (er != 0) = true := by simpa using he
    clear hno he HIN
    go_wp2_with fail
    go_ret
    exact ⟨rfl, hbF⟩
end Go.Proofs.YtpmobjgnmidolaaGreatDoor

/- How rules that came in read: a tree of expressions for each, in memory as it is. -/
namespace Go.Proofs.YtpmobjgnmidolaaGreatDoor
open Go.ChangeShapes Go.WideShapes Go.ChangeAt Go.WideMaps Go.WideElems Go.RowKit Go.Joins Lx
variable {H : Type} {enc : TypeId × Value → H} {W : World}
theorem inE : Tryz.prog.cellsOf 36 = 5 := by kernel_rfl
theorem inR : Tryz.prog.cellsOf 38 = 6 := by kernel_rfl
theorem inI : Tryz.prog.cellsOf 3 = 1 := by kernel_rfl
theorem inS : Tryz.prog.cellsOf 9 = 1 := by kernel_rfl
theorem inL : Tryz.prog.cellsOf 34 = 1 := by kernel_rfl
theorem in_add (g o n : Nat) : (⟨g, o, none⟩ : Addr).add n = ⟨g, o + n, none⟩ := by
  by_cases h : n = 0
  · subst h; simp [Addr.add]
  · simp [Addr.add, h]
theorem KidsB.up {B : Nat → Prop} : ∀ {d : Nat} {w : World} {sl : Value} {ks : List Ex}, KidsB B d w sl ks → KidsB B (d + 1) w sl ks
  | 0, _, _, _, h => .inl h
  | d + 1, w, sl, ks, h => by
    rcases h with h | ⟨g, o, c, hB, hs, hl, hk⟩
    · exact .inl h
    · refine .inr ⟨g, o, c, hB, hs, hl, fun j k hj => ?_⟩
      obtain ⟨hn, sk, c0, c1, c2, c3, c4, r⟩ := hk j k hj
      exact ⟨hn, sk, c0, c1, c2, c3, c4, KidsB.up r⟩
theorem KidsB.nil (B : Nat → Prop) (d : Nat) (w : World) (p : Option Addr) (c : Nat) : KidsB B d w (.slice p 0 c) [] := by
  cases d with
  | zero => exact ⟨rfl, p, c, rfl⟩
  | succ d => exact .inl ⟨rfl, p, c, rfl⟩
theorem five {α : Type} {l : List α} (h : l.length = 5) : ∃ a b c d e, l = [a, b, c, d, e] := by
  match l, h with
  | [a, b, c, d, e], _ => exact ⟨a, b, c, d, e, rfl⟩
set_option maxRecDepth 100000 in
theorem expr_parts {fuel : Nat} {cs : List Value} {y : DataW H × List MemPlace} (h : DataW.trod enc Tryz.prog W 0 (fun _ => true) true fuel 36 cs = some y) :
    ∃ (k a b : Int) (s : ByteArray) (sl : Value) (m : Nat) (z : DataW H × List MemPlace), fuel = m + 1 ∧ cs = [.int .i64 k, .int .i64 a, .int .i64 b, .string s, sl] ∧ s.size ≤ maxLen ∧ DataW.trod enc Tryz.prog W 0 (fun _ => true) true m 34 [sl] = some z := by
  obtain ⟨xs, m, hf, _, hl, hx, hall⟩ := DataW.trod_struct Tryz.underlying36 h
  rw [inE] at hl
  have hx5 : xs.length = 5 := hx
  obtain ⟨c0, c1, c2, c3, c4, rfl⟩ := five hl
  obtain ⟨x0, x1, x2, x3, x4, rfl⟩ := five hx5
  have h0 : DataW.trod enc Tryz.prog W 0 (fun _ => true) true m 3 (([c0, c1, c2, c3, c4].drop 0).take (Tryz.prog.cellsOf 3)) = some x0 := hall 0 _ rfl
  have h1 : DataW.trod enc Tryz.prog W 0 (fun _ => true) true m 3 (([c0, c1, c2, c3, c4].drop 1).take (Tryz.prog.cellsOf 3)) = some x1 := hall 1 _ rfl
  have h2 : DataW.trod enc Tryz.prog W 0 (fun _ => true) true m 3 (([c0, c1, c2, c3, c4].drop 2).take (Tryz.prog.cellsOf 3)) = some x2 := hall 2 _ rfl
  have h3 : DataW.trod enc Tryz.prog W 0 (fun _ => true) true m 9 (([c0, c1, c2, c3, c4].drop 3).take (Tryz.prog.cellsOf 9)) = some x3 := hall 3 _ rfl
  have h4 : DataW.trod enc Tryz.prog W 0 (fun _ => true) true m 34 (([c0, c1, c2, c3, c4].drop 4).take (Tryz.prog.cellsOf 34)) = some x4 := hall 4 _ rfl
  rw [inI] at h0 h1 h2
  rw [inS] at h3
  rw [inL] at h4
  obtain ⟨k, e0, _⟩ := DataW.trod_int Tryz.underlying3 h0
  obtain ⟨a, e1, _⟩ := DataW.trod_int Tryz.underlying3 h1
  obtain ⟨b, e2, _⟩ := DataW.trod_int Tryz.underlying3 h2
  obtain ⟨s, e3, _, hs⟩ := DataW.trod_string Tryz.underlying9 h3
  simp at e0 e1 e2 e3
  subst e0 e1 e2 e3
  exact ⟨k, a, b, s, c4, m, x4, hf, rfl, hs, h4⟩
theorem str_list (s : ByteArray) : (⟨(s.data.toList).toArray⟩ : ByteArray) = s := by simp
set_option maxRecDepth 100000 in
theorem open_kids : ∀ (fuel : Nat) (cs : List Value) (x : DataW H × List MemPlace), DataW.trod enc Tryz.prog W 0 (fun _ => true) true fuel 34 cs = some x →
    ∃ (sl : Value) (ks : List Ex), cs = [sl] ∧ KidsB (fun k => k < W.heap.size) fuel W sl ks := by
  intro fuel
  induction fuel using Nat.strongRecOn with
  | ind fuel ih =>
    intro cs x h
    rcases DataW.trod_slice Tryz.underlying34 h with ⟨e, _⟩ | ⟨a, len, cap, elems, rest, m, hf, e, _, _, hlc, hm, hlen, hel, _⟩
    · exact ⟨_, [], e, KidsB.nil _ _ _ _ _⟩
    · by_cases hz : len = 0
      · subst hz
        exact ⟨_, [], e, KidsB.nil _ _ _ _ _⟩
      · obtain ⟨g, o, s⟩ := a
        have each : ∀ i, i < len → ∃ (k : Ex) (sk : Value), s = none ∧ g < W.heap.size ∧ k.name.length ≤ 9223372036854775807 ∧
            W.cell? ⟨g, o + i * 5, none⟩ = some (.int .i64 k.kind) ∧ W.cell? ⟨g, o + i * 5 + 1, none⟩ = some (.int .i64 k.a) ∧ W.cell? ⟨g, o + i * 5 + 2, none⟩ = some (.int .i64 k.b) ∧
            W.cell? ⟨g, o + i * 5 + 3, none⟩ = some (.string ⟨k.name.toArray⟩) ∧ W.cell? ⟨g, o + i * 5 + 4, none⟩ = some sk ∧ KidsB (fun k => k < W.heap.size) m W sk k.kids := by
          have spot : s = none := by
            have h1 := hel 0 (by omega)
            rw [inE] at h1
            have hy : elems[0]? = some (elems[0]'(by omega)) := List.getElem?_eq_getElem _
            rw [hy, Option.bind_eq_some_iff] at h1
            obtain ⟨cs', hc, ht⟩ := h1
            have q := (World.cells?_some hc).2.2 0 (by omega)
            have hl' := (World.cells?_some hc).2.1
            have e0 : cs'[0]? = some (cs'[0]'(by omega)) := List.getElem?_eq_getElem _
            rw [e0] at q
            have q' := World.cell?_spot q
            simpa [Addr.add] using q'
          subst spot
          intro i hi
          have h1 := hel i hi
          rw [inE] at h1
          have hy : elems[i]? = some (elems[i]'(by omega)) := List.getElem?_eq_getElem _
          rw [hy, Option.bind_eq_some_iff] at h1
          obtain ⟨cs', hc, ht⟩ := h1
          obtain ⟨k, a, b, nm, sl, m', z, hm', hcs, hs, htk⟩ := expr_parts ht
          subst hcs
          have q := (World.cells?_some hc).2.2
          rw [in_add] at q
          have q0 := q 0 (by omega)
          have q1 := q 1 (by omega)
          have q2 := q 2 (by omega)
          have q3 := q 3 (by omega)
          have q4 := q 4 (by omega)
          simp only [in_add, Nat.add_zero] at q0 q1 q2 q3 q4
          obtain ⟨sl', ks, esl, hkk⟩ := ih m' (by omega) [sl] z htk
          have esl' : sl = sl' := by simpa using esl
          subst esl'
          subst hm'
          refine ⟨⟨k, a, b, nm.data.toList, ks⟩, sl, rfl, ?_, ?_, ?_, ?_, ?_, ?_, ?_, hkk.up⟩
          · exact block_lt_of_cell (a := ⟨g, o + i * 5, none⟩) (by simpa using q0)
          · rw [← Lib.size_eq]; unfold maxLen at hs; exact hs
          · simpa using q0
          · simpa using q1
          · simpa using q2
          · rw [str_list]; simpa using q3
          · simpa using q4
        have hs0 : s = none := by obtain ⟨_, _, h, _⟩ := each 0 (by omega); exact h
        have hg0 : g < W.heap.size := by obtain ⟨_, _, _, h, _⟩ := each 0 (by omega); exact h
        subst hs0
        let pick : Nat → Ex := fun i => if h : i < len then Classical.choose (each i h) else ex0
        have hpick : ∀ i (h : i < len), pick i = Classical.choose (each i h) := fun i h => by simp only [pick, h, dif_pos]
        refine ⟨.slice (some ⟨g, o, none⟩) len cap, (List.range len).map pick, e, ?_⟩
        subst hf
        refine .inr ⟨g, o, cap, hg0, by simp, by simp; unfold maxLen at hm; omega, fun j k hj => ?_⟩
        have hjl : j < len := by
          have := (List.getElem?_eq_some_iff.1 hj).1
          simpa using this
        have hk : k = pick j := by
          rw [List.getElem?_map, List.getElem?_range hjl] at hj
          exact (Option.some.inj hj).symm
        rw [hk, hpick j hjl]
        obtain ⟨sk, _, _, h3, h4⟩ := Classical.choose_spec (each j hjl)
        exact ⟨h3, sk, h4⟩
end Go.Proofs.YtpmobjgnmidolaaGreatDoor

/- How rules that came in read: the row of rules. -/
namespace Go.Proofs.YtpmobjgnmidolaaGreatDoor
open Go.ChangeShapes Go.WideShapes Go.ChangeAt Go.WideMaps Go.WideElems Go.RowKit Go.Joins Lx
variable {H : Type} {enc : TypeId × Value → H} {W : World}
theorem six {α : Type} {l : List α} (h : l.length = 6) : ∃ a b c d e f, l = [a, b, c, d, e, f] := by
  match l, h with
  | [a, b, c, d, e, f], _ => exact ⟨a, b, c, d, e, f, rfl⟩
theorem pair2 {α : Type} {l : List α} (h : l.length = 2) : ∃ a b, l = [a, b] := by
  match l, h with
  | [a, b], _ => exact ⟨a, b, rfl⟩
set_option maxRecDepth 100000 in
theorem rule_parts {fuel : Nat} {cs : List Value} {y : DataW H × List MemPlace} (h : DataW.trod enc Tryz.prog W 0 (fun _ => true) true fuel 38 cs = some y) :
    ∃ (nm : ByteArray) (k a b : Int) (s : ByteArray) (sl : Value) (m : Nat) (z : DataW H × List MemPlace), cs = [.string nm, .int .i64 k, .int .i64 a, .int .i64 b, .string s, sl] ∧ nm.size ≤ maxLen ∧ s.size ≤ maxLen ∧ DataW.trod enc Tryz.prog W 0 (fun _ => true) true m 34 [sl] = some z := by
  obtain ⟨xs, m, hf, _, hl, hx, hall⟩ := DataW.trod_struct Tryz.underlying38 h
  rw [inR] at hl
  have hx2 : xs.length = 2 := hx
  obtain ⟨c0, c1, c2, c3, c4, c5, rfl⟩ := six hl
  obtain ⟨x0, x1, rfl⟩ := pair2 hx2
  have h0 : DataW.trod enc Tryz.prog W 0 (fun _ => true) true m 9 (([c0, c1, c2, c3, c4, c5].drop 0).take (Tryz.prog.cellsOf 9)) = some x0 := hall 0 _ rfl
  have h1 : DataW.trod enc Tryz.prog W 0 (fun _ => true) true m 36 (([c0, c1, c2, c3, c4, c5].drop 1).take (Tryz.prog.cellsOf 36)) = some x1 := hall 1 _ rfl
  rw [inS] at h0
  rw [inE] at h1
  obtain ⟨nm, e0, _, hn⟩ := DataW.trod_string Tryz.underlying9 h0
  obtain ⟨k, a, b, s, sl, m', z, _, e1, hs, ht⟩ := expr_parts h1
  simp at e0 e1
  obtain ⟨q1, q2, q3, q4, q5⟩ := e1
  subst e0 q1 q2 q3 q4 q5
  exact ⟨nm, k, a, b, s, c5, m', z, rfl, hn, hs, ht⟩
set_option maxRecDepth 100000 in
theorem open_rules {r : Reach} {b0 : Nat} {v : Value} {d : DataW H} {p : List MemPlace}
    (hv : Value.okWide Tryz.prog W r b0 22 v) (h : DataW.Trod enc Tryz.prog W 0 (fun _ => true) true 22 v d p) : ∃ us, InR W v us := by
  obtain ⟨ao, k0, c0, rfl⟩ := okWide_slice Tryz.underlying22 hv
  obtain ⟨fuel, hf⟩ := h
  have zero : ∀ (q : Option Addr) (c : Nat), ∃ us, InR W (.slice q 0 c) us := fun q c => ⟨[], .inl ⟨rfl, q, c, rfl⟩, by decide, fun p hp => by cases hp⟩
  rcases DataW.trod_slice Tryz.underlying22 hf with ⟨e, _⟩ | ⟨a, len, cap, elems, rest, m, _, e, _, _, hlc, hm, hlen, hel, _⟩
  · have e' : Value.slice ao k0 c0 = .slice none 0 0 := by simpa [Value.cells] using e
    rw [e']; exact zero _ _
  · have e' : Value.slice ao k0 c0 = .slice (some a) len cap := by simpa [Value.cells] using e
    rw [e']
    by_cases hz : len = 0
    · subst hz; exact zero _ _
    obtain ⟨g, o, s⟩ := a
    have spot : s = none := by
      have h1 := hel 0 (by omega)
      rw [inR] at h1
      have hy : elems[0]? = some (elems[0]'(by omega)) := List.getElem?_eq_getElem _
      rw [hy, Option.bind_eq_some_iff] at h1
      obtain ⟨cs', hc, ht⟩ := h1
      have q := (World.cells?_some hc).2.2 0 (by omega)
      have hl' := (World.cells?_some hc).2.1
      have e0 : cs'[0]? = some (cs'[0]'(by omega)) := List.getElem?_eq_getElem _
      rw [e0] at q
      have q' := World.cell?_spot q
      simpa [Addr.add] using q'
    subst spot
    have each : ∀ i, i < len → ∃ u : Ru × Value, RuleIn W u ∧
        W.cell? ⟨g, o + i * 6, none⟩ = some (.string ⟨u.1.1.toArray⟩) ∧ W.cell? ⟨g, o + i * 6 + 1, none⟩ = some (.int .i64 u.1.2.kind) ∧ W.cell? ⟨g, o + i * 6 + 2, none⟩ = some (.int .i64 u.1.2.a) ∧ W.cell? ⟨g, o + i * 6 + 3, none⟩ = some (.int .i64 u.1.2.b) ∧
        W.cell? ⟨g, o + i * 6 + 4, none⟩ = some (.string ⟨u.1.2.name.toArray⟩) ∧ W.cell? ⟨g, o + i * 6 + 5, none⟩ = some u.2 := by
      intro i hi
      have h1 := hel i hi
      rw [inR] at h1
      have hy : elems[i]? = some (elems[i]'(by omega)) := List.getElem?_eq_getElem _
      rw [hy, Option.bind_eq_some_iff] at h1
      obtain ⟨cs', hc, ht⟩ := h1
      obtain ⟨nm, k, a, b, x, sl, m', z, hcs, hn, hs, htk⟩ := rule_parts ht
      subst hcs
      have q := (World.cells?_some hc).2.2
      rw [in_add] at q
      have q0 := q 0 (by omega)
      have q1 := q 1 (by omega)
      have q2 := q 2 (by omega)
      have q3 := q 3 (by omega)
      have q4 := q 4 (by omega)
      have q5 := q 5 (by omega)
      simp only [in_add, Nat.add_zero] at q0 q1 q2 q3 q4 q5
      obtain ⟨sl', ks, esl, hkk⟩ := open_kids m' [sl] z htk
      have esl' : sl = sl' := by simpa using esl
      subst esl'
      refine ⟨((nm.data.toList, ⟨k, a, b, x.data.toList, ks⟩), sl), ⟨?_, ?_, m', hkk⟩, ?_, ?_, ?_, ?_, ?_, ?_⟩
      · show nm.data.toList.length ≤ _; rw [← Lib.size_eq]; unfold maxLen at hn; exact hn
      · show x.data.toList.length ≤ _; rw [← Lib.size_eq]; unfold maxLen at hs; exact hs
      · rw [str_list]; simpa using q0
      · simpa using q1
      · simpa using q2
      · simpa using q3
      · rw [str_list]; simpa using q4
      · simpa using q5
    let pick : Nat → Ru × Value := fun i => if h : i < len then Classical.choose (each i h) else (([], ex0), .slice none 0 0)
    have hpick : ∀ i (h : i < len), pick i = Classical.choose (each i h) := fun i h => by simp only [pick, h, dif_pos]
    have hat : ∀ (j : Nat) (u : Ru × Value), ((List.range len).map pick)[j]? = some u → ∃ h : j < len, u = Classical.choose (each j h) := fun j u hj => by
      have hjl : j < len := by
        have := (List.getElem?_eq_some_iff.1 hj).1
        simpa using this
      rw [List.getElem?_map, List.getElem?_range hjl] at hj
      exact ⟨hjl, (Option.some.inj hj).symm.trans (hpick j hjl)⟩
    have hl2 : len < 9223372036854775808 := by unfold maxLen at hm; omega
    refine ⟨(List.range len).map pick, .inr ⟨g, o, cap, by simp, by simpa using hl2, fun j u hj => ?_⟩, by simpa using hl2, fun u hu => ?_⟩
    · obtain ⟨hjl, e1⟩ := hat j u hj
      rw [e1]
      exact (Classical.choose_spec (each j hjl)).2
    · obtain ⟨j, hj⟩ := List.getElem?_of_mem hu
      obtain ⟨hjl, e1⟩ := hat j u hj
      rw [e1]
      exact (Classical.choose_spec (each j hjl)).1
end Go.Proofs.YtpmobjgnmidolaaGreatDoor

/- What the condition on the three listed tables (bits, months, names of days) gives the walks, and the start that meets it. -/
namespace Go.Proofs.YtpmobjgnmidolaaGreatDoor
open Go.ChangeShapes Go.WideShapes Go.ChangeAt Go.WideMaps Go.WideElems Go.RowKit Go.Joins Lx Msk
abbrev laid3 : List (String × DataW Unit) := Rows.codeSizeRow.laid
def bits3 : String := (Rows.codeSizeRow.laid.headD default).1
def len3 : String := (Rows.codeSizeRow.laid.getD 1 default).1
def day3 : String := (Rows.codeSizeRow.laid.getD 2 default).1
def bitsInts : List Int := Lib.deBruijn64tab.map fun (n : Nat) => (n : Int)
theorem own3 : ownKnob Tryz.prog.godebug = none := by kernel_rfl
theorem gBits3 : Tryz.prog.globalNamed bits3 = some 0 := by kernel_rfl
theorem tBits3 : (Tryz.prog.globals[0]?).map (·.type) = some 146 := by kernel_rfl
theorem gLen3 : Tryz.prog.globalNamed len3 = some 1 := by kernel_rfl
theorem tLen3 : (Tryz.prog.globals[1]?).map (·.type) = some 151 := by kernel_rfl
theorem gDay3 : Tryz.prog.globalNamed day3 = some 3 := by kernel_rfl
theorem tDay3 : (Tryz.prog.globals[3]?).map (·.type) = some 158 := by kernel_rfl
theorem cI3 : Tryz.prog.cellsOf 3 = 1 := by kernel_rfl
theorem cB3 : Tryz.prog.cellsOf 5 = 1 := by kernel_rfl
theorem cT3 : Tryz.prog.cellsOf 146 = 64 := by kernel_rfl
theorem cL3 : Tryz.prog.cellsOf 151 = 12 := by kernel_rfl
theorem cS3 : Tryz.prog.cellsOf 9 = 1 := by kernel_rfl
theorem cD3 : Tryz.prog.cellsOf 158 = 7 := by kernel_rfl
theorem door3_met (os : Os) (args : Array Value) : laidMetH Tryz.prog laid3 ((World.doorLaid Tryz.prog 400 os).forCall (fun _ _ => 0) ⟨#[], args, []⟩).memory :=
  laidMetH_of_parts3 (fuel := 8) (laidMet_of_run' 8 (by kernel_rfl) (by kernel_rfl)) (by kernel_rfl) (by kernel_rfl)
theorem str_cell3 {H : Type} {enc : TypeId × Value → H} {P : Program} {w : World} {base : Nat} {sp : Nat → Bool} {held : Bool} {t e : TypeId} {n : Nat} {cs : List Value} {zs : List (List UInt8)} {p : List MemPlace} (ht : P.underlying t = some (.array n e)) (he : P.underlying e = some .string) (hce : P.cellsOf e = 1) (hct : P.cellsOf t = n) :
    ∀ fuel, DataW.trod enc P w base sp held fuel t cs = some (.agg (zs.map fun z => .lit (.string z)), p) → ∀ (i : Nat) (z : List UInt8), zs[i]? = some z → cs[i]? = some (.string ⟨z.toArray⟩)
  | 0, h, _, _, _ => by simp [DataW.trod] at h
  | fuel + 1, h, i, z, hz => by
    simp only [DataW.trod, ht, hce, hct, Nat.mul_one] at h
    split at h
    · obtain ⟨xs, hm, hx⟩ := Option.map_eq_some_iff.1 h
      have h1 : xs.map (fun x => x.1) = zs.map fun z => (DataW.lit (.string z) : DataW H) := by simpa using congrArg Prod.fst hx
      have h2 : (xs.map fun x => x.1)[i]? = some (DataW.lit (.string z) : DataW H) := by rw [h1, List.getElem?_map, hz]; rfl
      rw [List.getElem?_map] at h2
      obtain ⟨x, hx1, hx2⟩ := Option.map_eq_some_iff.1 h2
      have hin : i < n := by
        have a := (List.getElem?_eq_some_iff.1 hx1).1
        have b := Lib.mapM_length hm
        simp at b; omega
      obtain ⟨b, hb, hf⟩ := Lib.mapM_at hm i i (by simp [hin])
      obtain ⟨s, hc, rfl, _⟩ := DataW.trod_string he hf
      rw [hb] at hx1
      obtain rfl := Option.some.inj hx1
      have hs : s.data.toList = z := by simpa using hx2
      have h3 := congrArg (fun l : List Value => l[0]?) hc
      have h4 : cs[i]? = some (.string s) := by simpa [List.getElem?_take, List.getElem?_drop] using h3
      rw [h4, ← hs]
    · cases h
theorem tabs3_of_laid {W : World} (h : laidMetH Tryz.prog laid3 W) : Tab W ∧ CTab W ∧ DTab W := by
  rw [MakeChecks.laidMetH_plain _ _ _ (by kernel_rfl)] at h
  obtain ⟨ps, ⟨g1, t1, cs1, fuel1, p1, q1, hg1, ht1, hv1, hd1, ⟨g2, t2, cs2, fuel2, p2, q2, hg2, ht2, hv2, hd2, ⟨g3, t3, cs3, fuel3, p3, q3, hg3, ht3, hv3, hd3, _, _⟩, _⟩, _⟩, _⟩ := h
  obtain rfl := Option.some.inj (gBits3.symm.trans hg1)
  obtain rfl := Option.some.inj (tBits3.symm.trans ht1)
  obtain rfl := Option.some.inj (gLen3.symm.trans hg2)
  obtain rfl := Option.some.inj (tLen3.symm.trans ht2)
  obtain rfl := Option.some.inj (gDay3.symm.trans hg3)
  obtain rfl := Option.some.inj (tDay3.symm.trans ht3)
  refine ⟨?_, ?_, ?_⟩
  · have e1 := Lib.cells_of_tab (zs := bitsInts) Tryz.underlying146 Tryz.underlying5 cB3 cT3 hd1
    have t : Lib.TabIs Tryz.prog W bits3 .u8 bitsInts := by
      unfold Lib.TabIs
      rw [← e1]; exact hv1
    intro i hi
    have := t.cell gBits3 i (by simpa [bitsInts, Lib.deBruijn64tab] using hi)
    rw [this]
    have hl : i < Lib.deBruijn64tab.length := by simpa [Lib.deBruijn64tab] using hi
    simp [bitsInts, List.getD, hl]
  · have e2 := Lib.cells_of_tab (zs := tab) Tryz.underlying151 Tryz.underlying3 cI3 cL3 hd2
    have t : Lib.TabIs Tryz.prog W len3 .i64 tab := by
      unfold Lib.TabIs
      rw [← e2]; exact hv2
    intro i hi
    exact t.cell gLen3 i (by simpa [tab] using hi)
  · intro j hj
    have hz : wDays[j]? = some (wDays.getD j []) := by
      rw [List.getD_eq_getElem?_getD, List.getElem?_eq_getElem (by exact hj)]; rfl
    have hc := str_cell3 (zs := wDays) Tryz.underlying158 Tryz.underlying9 cS3 cD3 fuel3 hd3 j _ hz
    have := World.var?_cell gDay3 hv3 j
    rw [this]
    simpa using hc
theorem pt2_of_laid3 {W : World} (h : laidMetH Tryz.prog laid3 W) : ∀ w', Below W.heap.size W w' → CTab w' ∧ DTab w' := fun _ hb =>
  ⟨fun i hi => (hb.cell (block_lt_of_cell ((tabs3_of_laid h).2.1 i hi))).trans ((tabs3_of_laid h).2.1 i hi), fun i hi => (hb.cell (block_lt_of_cell ((tabs3_of_laid h).2.2 i hi))).trans ((tabs3_of_laid h).2.2 i hi)⟩
end Go.Proofs.YtpmobjgnmidolaaGreatDoor
