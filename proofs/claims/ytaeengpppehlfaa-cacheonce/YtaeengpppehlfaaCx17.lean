/- What the law CacheOnce comes to. Written by gencnw.py. -/
import Derived.Test.YtaeengpppehlfaaCx15
import Derived.Test.YtaeengpppehlfaaCx16
import Derived.Test.YtaeengpppehlfaaCx02
import Derived.Lib.SmallJoins
import Derived.OpenShut
import Derived.Test.YtaeengpppehlfaaCx04
namespace Go.Proofs.Ytaeengpppehlfaa
open Go.RowKit Msk Vx

set_option maxRecDepth 100000 in
set_option maxHeartbeats 4000000 in
theorem conce_walk (cs : List Cd) (lv av : Value) (asks : List Aq) (w : World) (h : InV w lv cs) (ha : ARow w av asks) :
    Calls Try.prog 7 #[lv, av] w fun e w' => e = .returned (.bool true) ∧ Below w.heap.size w w' := by
  have HIN := hidv h
  obtain ⟨pa, ca, rfl, hal, hac⟩ := ha
  have HAC := hidv hac
  have c0 := alive9_any w
  have hz := mv_lit
  clear h hac
  go_enter Try.func7, Try.ntmps7
  go_wp2_with fail
  refine c0.mono ?_
  rintro e w0 ⟨rfl, b0⟩
  have bA := (Below.refl w0.heap.size w0).alloc (Nat.le_refl _) (.cells #[.slice none 0 0, .int .i64 0] 40)
  have n5 := heap_alloc_new w0 (.cells #[.slice none 0 0, .int .i64 0] 40)
  have hb1 := b0.trans (bA.mono b0.size)
  obtain ⟨g5, hg5e⟩ : ∃ q, w0.heap.size = q := ⟨_, rfl⟩
  have HG5 : Hid (w.heap.size ≤ g5) := by show _ ≤ _; rw [← hg5e]; exact b0.size
  generalize hw1 : w0.alloc (.cells #[.slice none 0 0, .int .i64 0] 40) = w1 at *
  rw [hg5e] at n5
  clear c0 bA b0
  go_wp2_with fail
  go_loopw [6, 8, 9, 10, 11, 12, 13, 14, 19] (fun s6 _ _ _ _ _ _ _ t wr => ∃ (j : Nat) (l : List Kp) (runs : Int) (cv : Value) (pl : Option Addr) (cl : Nat), t = .int .i64 (j : Int) ∧ s6 = .slice pl l.length cl ∧ j ≤ asks.length ∧ wr.heap[g5]? = some (.cells #[cv, .int .i64 runs] 40 (0, 0)) ∧ KApart (g5 + 1) wr cv (.slice pl l.length cl) l ∧ l.length ≤ 64 ∧ LRow (g5 + 1) wr (.slice pl l.length cl) (l.map aq) ∧ 0 ≤ runs ∧ runs ≤ (j : Int) ∧ Below w.heap.size w wr) (fun _ _ _ _ _ _ _ _ t _ => asks.length - (intOf t).toNat)
  case atStart => exact ⟨0, [], 0, _, none, 0, rfl, rfl, by omega, n5, KApart.none _ _ _, by simp, .inl ⟨rfl, rfl⟩, by omega, by omega, hb1⟩
  case round =>
    clear n5 hb1 hw1 hg5e
    obtain ⟨j, l, runs, cv, pl, cl, rfl, rfl, hj, c5, hk, h64l, hlr, hr0, hrj, hb⟩ := hrel
    have hj0 : (0 : Int) ≤ (j : Int) := by omega
    have hg5 := lt_of_block c5
    by_cases hlt : j < asks.length
    · have hlt' : (j : Int) < (asks.length : Int) := by omega
      obtain ⟨a, hja⟩ : ∃ p, asks[j]? = some p := ⟨asks[j], List.getElem?_eq_getElem hlt⟩
      obtain ⟨g, o, hpe, k0, k1, k2⟩ := HAC.out j a hja
      subst hpe
      obtain ⟨r, d, v⟩ := a
      dsimp only at k0 k1 k2
      have d0 := (hb.cell (block_lt_of_cell k0)).trans k0
      have d1 := (hb.cell (block_lt_of_cell k1)).trans k1
      have d2 := (hb.cell (block_lt_of_cell k2)).trans k2
      -- the ask in a place of its own
      have bA := (Below.refl wr.heap.size wr).alloc (Nat.le_refl _) (.cells #[.int .i64 r, .int .i64 d, .int .i64 v] 47)
      have a7 := heap_alloc_new wr (.cells #[.int .i64 r, .int .i64 d, .int .i64 v] 47)
      obtain ⟨g7, hg7⟩ : ∃ q, wr.heap.size = q := ⟨_, rfl⟩
      rw [hg7] at a7
      have hg57 : g5 < g7 := by omega
      replace c5 := (bA.block _ (lt_of_block c5)).trans c5
      have hk2 := hk.later bA
      have hl2 := hlr.later bA
      have hb2 := hb.trans (bA.mono hb.size)
      generalize hw2 : wr.alloc (.cells #[.int .i64 r, .int .i64 d, .int .i64 v] 47) = w2 at *
      have z50 := (cell_of_row _ _ 0 _ _ _ c5).trans rfl
      have z51 := (cell_of_row _ _ 1 _ _ _ c5).trans rfl
      have z70 := (cell_of_row _ _ 0 _ _ _ a7).trans rfl
      have z71 := (cell_of_row _ _ 1 _ _ _ a7).trans rfl
      have z72 := (cell_of_row _ _ 2 _ _ _ a7).trans rfl
      have HKI := hidv (fun he => once_get (cs := cs) h64l hr0 (by omega) v r d he)
      have c2 := get_any cs l cv lv runs v r d w2 (hk2.row.low (Nat.zero_le _)) (by omega) (HIN.out.below hb2)
      have HG : Hid (∃ gm gl rn er at0, (getP cs l runs v r d).m = gm ∧ (getP cs l runs v r d).l = gl ∧ (getP cs l runs v r d).n = rn ∧ (getP cs l runs v r d).er = er ∧ ((getP cs l runs v r d).at_ : Int) = at0) := ⟨_, _, _, _, _, rfl, rfl, rfl, rfl, rfl⟩
      obtain ⟨gm, gl, rn, er, at0, e1, e2, e3, e4, e5⟩ := HG.out
      rw [e1, e2, e3, e4, e5] at c2
      have HI3 := HKI
      rw [e2, e3, e4] at HI3
      obtain ⟨pv, cvc, hcv, _⟩ := id hk2
      subst hcv
      clear hja k0 k1 k2 bA hk hb HG e1 e2 e3 e4 e5 HKI hlr
      go_wp2_with fail
      refine c2.mono ?_
      rintro e w5 ⟨cv2, rfl, hk5, b5⟩
      obtain ⟨pq, cq, hcv2, _⟩ := id hk5
      subst hcv2
      have hg5S : g5 < w2.heap.size := lt_of_block c5
      have hg7S : g7 < w2.heap.size := lt_of_block a7
      have hk6 := (hk5.apart (lv := .slice pl l.length cl) fun g e => (hl2.lt g e).2).low (Nat.succ_le_of_lt hg5S)
      have hNE : (Value.slice pl l.length cl).ownBlock ≠ some (w5.heap.size + 1) := fun e => by
        have h1 := (hl2.lt _ e).2
        have h2 := b5.size
        omega
      have HNE0 := hidv hNE
      replace c5 := (b5.block _ (lt_of_block c5)).trans c5
      replace a7 := (b5.block _ (lt_of_block a7)).trans a7
      have hk7 := hk2.later b5
      have hl5 := hl2.later b5
      have hb5 := hb2.trans (b5.mono hb2.size)
      have hg75 : g7 < w5.heap.size := lt_of_block a7
      clear c2 hk2 hk5 hb2 b5 z50 z51 z70 z71 z72 d0 d1 d2 hw2 hl2 hNE
      have bA3 : Below w5.heap.size w5 (((w5.alloc (.cells (mv fun _ => false) 25)).alloc (.cells #[.slice none 0 0, .int .i64 0] 40)).alloc (.cells #[.int .i64 0, .int .i64 0] 28)) := (((Below.refl _ _).alloc (Nat.le_refl _) _).alloc (by simp) _).alloc (by simp; omega) _
      have n13 : (((w5.alloc (.cells (mv fun _ => false) 25)).alloc (.cells #[.slice none 0 0, .int .i64 0] 40)).alloc (.cells #[.int .i64 0, .int .i64 0] 28)).heap[w5.heap.size]? = some (.cells (mv fun _ => false) 25 (0, 0)) := by (repeat (first | refine blk_old _ _ _ (by simp only [size_alloc]; omega) ?_ | exact blk_new _ _ _ (by first | rfl | simp only [size_alloc])))
      have n23 : (((w5.alloc (.cells (mv fun _ => false) 25)).alloc (.cells #[.slice none 0 0, .int .i64 0] 40)).alloc (.cells #[.int .i64 0, .int .i64 0] 28)).heap[w5.heap.size + 1]? = some (.cells #[.slice none 0 0, .int .i64 0] 40 (0, 0)) := by (repeat (first | refine blk_old _ _ _ (by simp only [size_alloc]; omega) ?_ | exact blk_new _ _ _ (by first | rfl | simp only [size_alloc])))
      have n33 : (((w5.alloc (.cells (mv fun _ => false) 25)).alloc (.cells #[.slice none 0 0, .int .i64 0] 40)).alloc (.cells #[.int .i64 0, .int .i64 0] 28)).heap[w5.heap.size + 2]? = some (.cells #[.int .i64 0, .int .i64 0] 28 (0, 0)) := by (repeat (first | refine blk_old _ _ _ (by simp only [size_alloc]; omega) ?_ | exact blk_new _ _ _ (by first | rfl | simp only [size_alloc])))
      generalize hwA3 : ((w5.alloc (.cells (mv fun _ => false) 25)).alloc (.cells #[.slice none 0 0, .int .i64 0] 40)).alloc (.cells #[.int .i64 0, .int .i64 0] 28) = wA3 at *
      have p13 := setRow_heap _ _ _ (mv gm) _ _ n13
      have p23 := (setRow_other wA3 w5.heap.size (w5.heap.size + 1) (mv gm) (by omega)).trans n23
      have p33 := (setRow_other wA3 w5.heap.size (w5.heap.size + 2) (mv gm) (by omega)).trans n33
      have bB3 := below_setRow bA3 (Nat.le_refl _) (mv gm)
      generalize hwB3 : wA3.setRow w5.heap.size (mv gm) = wB3 at *
      have q13 := (setRow_other wB3 (w5.heap.size + 1) w5.heap.size #[.slice pq gl.length cq, .int .i64 rn] (by omega)).trans p13
      have q23 := setRow_heap _ _ _ #[.slice pq gl.length cq, .int .i64 rn] _ _ p23
      have q33 := (setRow_other wB3 (w5.heap.size + 1) (w5.heap.size + 2) #[.slice pq gl.length cq, .int .i64 rn] (by omega)).trans p33
      have bC3 := below_setRow bB3 (by omega : w5.heap.size ≤ w5.heap.size + 1) #[.slice pq gl.length cq, .int .i64 rn]
      generalize hwC3 : wB3.setRow (w5.heap.size + 1) #[.slice pq gl.length cq, .int .i64 rn] = wC3 at *
      have mM3 := (setRow_other wC3 (w5.heap.size + 2) w5.heap.size #[.int .i64 er, .int .i64 at0] (by omega)).trans q13
      have mC3 := (setRow_other wC3 (w5.heap.size + 2) (w5.heap.size + 1) #[.int .i64 er, .int .i64 at0] (by omega)).trans q23
      have mF3 := setRow_heap _ _ _ #[.int .i64 er, .int .i64 at0] _ _ q33
      have bD3 := below_setRow bC3 (by omega : w5.heap.size ≤ w5.heap.size + 2) #[.int .i64 er, .int .i64 at0]
      generalize hwD3 : wC3.setRow (w5.heap.size + 2) #[.int .i64 er, .int .i64 at0] = wS3 at *
      replace c5 := (bD3.block _ (lt_of_block c5)).trans c5
      replace a7 := (bD3.block _ (lt_of_block a7)).trans a7
      have hk8 := hk6.later bD3
      have hk9 := hk7.later bD3
      have hl9 := hl5.later bD3
      have hb6 := hb5.trans (bD3.mono hb5.size)
      have zF2 := (cell_of_row _ _ 0 _ _ _ mF3).trans rfl
      have zC0 := (cell_of_row _ _ 0 _ _ _ mC3).trans rfl
      have zC1 := (cell_of_row _ _ 1 _ _ _ mC3).trans rfl
      have z51 := (cell_of_row _ _ 1 _ _ _ c5).trans rfl
      have HK8 := hidv hk8
      have HK9 := hidv hk9
      have HL8 := hidv hl9
      have HB6 := hidv hb6
      clear bA3 bB3 bC3 bD3 hk6 hk7 hb5 hk8 hk9 hb6 hl5 hl9
      by_cases he : er = 0
      · subst he
        have HOG := hidv (HI3.out rfl)
        have HC6 := hidv c5
        have HA6 := hidv a7
        have HM6 := hidv mC3
        obtain ⟨nl, hnl⟩ : ∃ q, l.length = q := ⟨_, rfl⟩
        obtain ⟨ix, hix⟩ : ∃ q, idxK r d l 0 = q := ⟨_, rfl⟩
        have HIXE := hidv hix
        have HDL : Hid ((dropAt l ix).length ≤ 64) := by
          show _ ≤ _
          rw [← hix]
          exact Nat.le_trans (dropAt_len (by have := idxK_ge r d l 0; omega)) h64l
        rw [hix] at HOG
        rw [hnl] at HL8 HK8 HNE0
        have hnl0 : (0 : Int) ≤ (nl : Int) := by omega
        have hnl64 : (nl : Int) ≤ 64 := by omega
        rw [hnl]
        clear hix c5 a7
        go_wp2_with (first
          | (refine wpList_store_row rfl 25 _ _ rfl _ _ rfl rfl _ _ n13 (maskSize _) (by simp [mv_size]) (mv_all _) ?_; rw [hwB3]; refine wpList_store_row rfl 40 _ _ rfl _ _ rfl rfl _ _ p23 (by kernel_rfl) (by simp) (by simp [Value.oneCell']) ?_; rw [hwC3]; refine wpList_store_row rfl 28 _ _ rfl _ _ rfl rfl _ _ q33 (by kernel_rfl) (by simp) (by simp [Value.oneCell']) ?_; rw [hwD3]))
        clear mM3 mC3 mF3 hwA3 hwB3 hwC3 hwD3 n13 n23 n33 p13 p23 p33 q13 q23 q33 zF2 zC0 zC1 z51
        go_loopw [6, 12, 13, 14, 41] (fun u6 u12 _ _ t wq => ∃ i : Nat, t = .int .i64 (i : Int) ∧ u6 = .slice pl nl cl ∧ u12 = .bool false ∧ i ≤ nl ∧ idxK r d l 0 = idxK r d (l.drop i) i ∧ Below wS3.heap.size wS3 wq) (fun _ _ _ _ t _ => nl - (intOf t).toNat)
        case atStart => exact ⟨0, rfl, rfl, rfl, by omega, by rw [List.drop_zero], Below.refl _ _⟩
        case round =>
          obtain ⟨i, rfl, rfl, rfl, hi, hX, hbq⟩ := hrel
          have hi0 : (0 : Int) ≤ (i : Int) := by omega
          by_cases hil : i < nl
          · have hil' : (i : Int) < (nl : Int) := by omega
            have hil2 : i < l.length := by omega
            obtain ⟨k, hik⟩ : ∃ p, l[i]? = some p := ⟨l[i], List.getElem?_eq_getElem hil2⟩
            have hika : (l.map aq)[i]? = some (aq k) := by rw [List.getElem?_map, hik]; rfl
            obtain ⟨gq, oq, hpe⟩ : ∃ gq oq, pl = some ⟨gq, oq, none⟩ := HL8.out.addr (by rw [List.length_map]; omega)
            have hlq := HL8.out.later hbq
            have rg : wr.rangeAt gq (oq + i * 3) (aqv (aq k)) := by
              have := hlq
              rw [hpe] at this
              exact this.one hika
            have x0 := rg 0 _ rfl
            have x1 := rg 1 _ rfl
            have x2 := rg 2 _ rfl
            obtain ⟨kr, kd, kver, km⟩ := k
            simp only [aq, Nat.add_zero] at x0 x1 x2
            rw [idxK_step hik] at hX
            dsimp only at hX
            have bA := (Below.refl wr.heap.size wr).alloc (Nat.le_refl _) (.cells #[.int .i64 kr, .int .i64 kd, .int .i64 kver] 47)
            have nA := heap_alloc_new wr (.cells #[.int .i64 kr, .int .i64 kd, .int .i64 kver] 47)
            have a7q := (hbq.block _ (lt_of_block HA6.out)).trans HA6.out
            replace a7q := (bA.block _ (lt_of_block a7q)).trans a7q
            have hbA := hbq.trans (bA.mono hbq.size)
            obtain ⟨g14, hg14⟩ : ∃ q, wr.heap.size = q := ⟨_, rfl⟩
            generalize hwA : wr.alloc (.cells #[.int .i64 kr, .int .i64 kd, .int .i64 kver] 47) = wA at *
            rw [hg14] at nA
            have z140 := (cell_of_row _ _ 0 _ _ _ nA).trans rfl
            have z141 := (cell_of_row _ _ 1 _ _ _ nA).trans rfl
            have z142 := (cell_of_row _ _ 2 _ _ _ nA).trans rfl
            have z70 := (cell_of_row _ _ 0 _ _ _ a7q).trans rfl
            have z71 := (cell_of_row _ _ 1 _ _ _ a7q).trans rfl
            have z72 := (cell_of_row _ _ 2 _ _ _ a7q).trans rfl
            have HBA := hidv hbA
            have HIKA := hidv hika
            have HX := hidv hX
            have HIK := hidv hik
            clear rg hlq hX hik hika bA nA a7q hbA hbq
            have hlab : Hid (pl = some ⟨gq, oq, none⟩) := hpe
            by_cases hkr : kr = r
            · by_cases hkd : kd = d
              · have e1 : (kr == r) = true := by simp [hkr]
                have e2 : (kd == d) = true := by simp [hkd]
                have HIX : Hid (ix = (i : Int)) := by
                  show _ = _
                  rw [← HIXE.out, HX.out, if_pos ⟨hkr, hkd⟩]
                obtain ⟨hd, hhd⟩ : ∃ q, (kver == v) = q := ⟨_, rfl⟩
                have HHD : Hid (hitK l v r d = hd) := by
                  show _ = _
                  rw [hit_some (HIXE.out.trans HIX.out) HIK.out, ← hhd]
                  rfl
                have hrr : (rn == runs) = hd := by rw [← HHD.out, ← HOG.out.1]; rfl
                clear hkr hkd
                subst hpe
                go_wp2_with fail
                have HBQ2 := HBA
                have HPT1 := hidv ((HL8.out.later HBQ2.out).take (i := i) (by rw [List.length_map]; omega))
                have HPT2 := hidv ((HL8.out.later HBQ2.out).drop1 (j := i + 1) (by rw [List.length_map]; omega) (by rw [List.length_map]; omega))
                rw [List.length_map, hnl] at HPT2
                obtain ⟨q71, hq71⟩ : ∃ q, (if cl = i + 1 then (some ⟨gq, oq, none⟩ : Option Addr) else some ⟨gq, oq + (i + 1) * 3, none⟩) = q := ⟨_, rfl⟩
                rw [hq71] at HPT2
                have hicl : i ≤ cl := by
                  obtain ⟨_, _, e, h1, _⟩ := HL8.out.shape
                  injection e with _ e2 e3
                  rw [← e3, ← e2] at h1
                  omega
                have hi1 : (i : Int) + 1 ≤ (nl : Int) := by omega
                have hi2 : (0 : Int) ≤ (i : Int) + 1 := by omega
                have hw71 : IntKind.i64.wrap ((i : Int) + 1) = (i : Int) + 1 := by rw [IntKind.wrap_i64]; omega
                refine wp_region_lastT (fun _ W => Below wA.heap.size wA W) (bsp [undef, .slice (some ⟨gq, oq, none⟩) nl cl, .int .i64 (i : Int), .slice (some ⟨gq, oq, none⟩) i cl, undef, .slice (some ⟨gq, oq, none⟩) nl cl, .int .i64 (i : Int), .int .i64 ((i : Int) + 1), .slice q71 (nl - (i + 1)) (cl - (i + 1)), undef] wA.heap.size ((l.map aq).take i) ((l.map aq).drop (i + 1))) (fun L _ => (Below.refl _ _).drew) (by kernel_rfl) (by kernel_rfl) (by kernel_rfl) (by kernel_rfl) 10 (by kernel_rfl) (by kernel_rfl) [63, 64, 65, 66, 67, 68, 69, 70, 71, 72] (by kernel_rfl) (by kernel_rfl) ?_ ?_
                · intro i' s o' L A W2 ho hs hLi hdep hc hJ hkept hhas
                  match i', ho, hs, hLi with
                  | 0, ho, hs, hLi =>
                    cases Option.some.inj ho
                    cases Option.some.inj hs
                    have hb := (Below.refl W2.heap.size W2).alloc (Nat.le_refl _) (.cells #[] 47)
                    refine wpOp_step rfl (fun K hK => ?_)
                    show Oper.wp _ _ _ _ _ _
                    refine wp_buildA0 rfl ?_
                    exact hK _ _ ⟨_, rfl, bsp_mk0 (LRow.fresh hJ.size), hJ.trans (hb.mono hJ.size), fun j u _ _ _ h => bsp_keep (fun e => (Bool.or_eq_false_iff.1 e).2) (fun e => (Bool.or_eq_false_iff.1 e).2) hb j u h⟩
                  | 1, ho, hs, hLi =>
                    cases Option.some.inj ho
                    cases Option.some.inj hs
                    have h6 : A.tmps[6]?.getD undef = .slice (some ⟨gq, oq, none⟩) nl cl := (gd A 6).trans (hkept 6 (by kernel_rfl))
                    refine wpOp_step rfl (fun K hK => ?_)
                    go_simp
                    exact hK _ _ ⟨_, rfl, bsp_mk (i := 1) (by decide) (by decide) (by decide), hJ, fun j u _ _ _ h => bsp_keep (fun e => (Bool.or_eq_false_iff.1 e).2) (fun e => (Bool.or_eq_false_iff.1 e).2) (Below.refl _ _) j u h⟩
                  | 2, ho, hs, hLi =>
                    cases Option.some.inj ho
                    cases Option.some.inj hs
                    have h13 : A.tmps[13]?.getD undef = .int .i64 (i : Int) := (gd A 13).trans (hkept 13 (by kernel_rfl))
                    refine wpOp_step rfl (fun K hK => ?_)
                    go_simp
                    exact hK _ _ ⟨_, rfl, bsp_mk (i := 2) (by decide) (by decide) (by decide), hJ, fun j u _ _ _ h => bsp_keep (fun e => (Bool.or_eq_false_iff.1 e).2) (fun e => (Bool.or_eq_false_iff.1 e).2) (Below.refl _ _) j u h⟩
                  | 3, ho, hs, hLi =>
                    cases Option.some.inj ho
                    cases Option.some.inj hs
                    have h64 : A.tmps[64]?.getD undef = .slice (some ⟨gq, oq, none⟩) nl cl := (gd A 64).trans (bsp_at (hhas 1 64 rfl (hdep ⟨1, .data⟩ (by simp) rfl)) (by decide) (by decide) (by decide))
                    have h65 : A.tmps[65]?.getD undef = .int .i64 (i : Int) := (gd A 65).trans (bsp_at (hhas 2 65 rfl (hdep ⟨2, .data⟩ (by simp) rfl)) (by decide) (by decide) (by decide))
                    refine wpOp_step rfl (fun K hK => ?_)
                    go_simp
                    exact hK _ _ ⟨_, rfl, bsp_mk (i := 3) (by decide) (by decide) (by decide), hJ, fun j u _ _ _ h => bsp_keep (fun e => (Bool.or_eq_false_iff.1 e).2) (fun e => (Bool.or_eq_false_iff.1 e).2) (Below.refl _ _) j u h⟩
                  | 4, ho, hs, hLi =>
                    cases Option.some.inj ho
                    cases Option.some.inj hs
                    have own0 := bsp_0 (hhas 0 63 rfl (hdep ⟨0, .data⟩ (by simp) rfl)) hLi
                    obtain ⟨v0, e0⟩ : ∃ q, A.tmps.getD 63 undef = q := ⟨_, rfl⟩
                    rw [e0] at own0
                    have x66 : A.eval (.tmp 66) = .slice (some ⟨gq, oq, none⟩) i cl := bsp_at (hhas 3 66 rfl (hdep ⟨3, .data⟩ (by simp) rfl)) (by decide) (by decide) (by decide)
                    have no9 : L 9 = false := by
                      cases h : L 9 with
                      | false => rfl
                      | true =>
                        have q4 := hc 9 _ rfl h ⟨4, .data⟩ (by simp) rfl
                        rw [hLi] at q4; cases q4
                    refine wpOp_step rfl (fun K hK => ?_)
                    show Oper.wp _ _ _ _ _ _
                    refine wp_appendA _ _ rfl wA.heap.size [] _ v0 _ e0 own0 x66 (HPT1.out.later hJ) (by simp; omega) hJ.size ?_
                    intro v' W' hown hgrow hob
                    have hb' := below_grown own0 hgrow hJ.size
                    exact hK _ _ ⟨v', rfl, bsp_mk4 (by rw [List.nil_append] at hown; exact hown), hJ.trans hb', fun j u hj hj2 hLj h => bsp_app4 hj (fun e => by rw [e, no9] at hLj; cases hLj) u h⟩
                  | 5, ho, hs, hLi =>
                    cases Option.some.inj ho
                    cases Option.some.inj hs
                    have h6 : A.tmps[6]?.getD undef = .slice (some ⟨gq, oq, none⟩) nl cl := (gd A 6).trans (hkept 6 (by kernel_rfl))
                    refine wpOp_step rfl (fun K hK => ?_)
                    go_simp
                    exact hK _ _ ⟨_, rfl, bsp_mk (i := 5) (by decide) (by decide) (by decide), hJ, fun j u _ _ _ h => bsp_keep (fun e => (Bool.or_eq_false_iff.1 e).2) (fun e => (Bool.or_eq_false_iff.1 e).2) (Below.refl _ _) j u h⟩
                  | 6, ho, hs, hLi =>
                    cases Option.some.inj ho
                    cases Option.some.inj hs
                    have h13 : A.tmps[13]?.getD undef = .int .i64 (i : Int) := (gd A 13).trans (hkept 13 (by kernel_rfl))
                    refine wpOp_step rfl (fun K hK => ?_)
                    go_simp
                    exact hK _ _ ⟨_, rfl, bsp_mk (i := 6) (by decide) (by decide) (by decide), hJ, fun j u _ _ _ h => bsp_keep (fun e => (Bool.or_eq_false_iff.1 e).2) (fun e => (Bool.or_eq_false_iff.1 e).2) (Below.refl _ _) j u h⟩
                  | 7, ho, hs, hLi =>
                    cases Option.some.inj ho
                    cases Option.some.inj hs
                    have h69 : A.tmps[69]?.getD undef = .int .i64 (i : Int) := (gd A 69).trans (bsp_at (hhas 6 69 rfl (hdep ⟨6, .data⟩ (by simp) rfl)) (by decide) (by decide) (by decide))
                    refine wpOp_step rfl (fun K hK => ?_)
                    go_simp
                    exact hK _ _ ⟨_, rfl, bsp_mk (i := 7) (by decide) (by decide) (by decide), hJ, fun j u _ _ _ h => bsp_keep (fun e => (Bool.or_eq_false_iff.1 e).2) (fun e => (Bool.or_eq_false_iff.1 e).2) (Below.refl _ _) j u h⟩
                  | 8, ho, hs, hLi =>
                    cases Option.some.inj ho
                    cases Option.some.inj hs
                    have h68 : A.tmps[68]?.getD undef = .slice (some ⟨gq, oq, none⟩) nl cl := (gd A 68).trans (bsp_at (hhas 5 68 rfl (hdep ⟨5, .data⟩ (by simp) rfl)) (by decide) (by decide) (by decide))
                    have h70 : A.tmps[70]?.getD undef = .int .i64 ((i : Int) + 1) := (gd A 70).trans (bsp_at (hhas 7 70 rfl (hdep ⟨7, .data⟩ (by simp) rfl)) (by decide) (by decide) (by decide))
                    refine wpOp_step rfl (fun K hK => ?_)
                    go_simp
                    exact hK _ _ ⟨_, rfl, bsp_mk (i := 8) (by decide) (by decide) (by decide), hJ, fun j u _ _ _ h => bsp_keep (fun e => (Bool.or_eq_false_iff.1 e).2) (fun e => (Bool.or_eq_false_iff.1 e).2) (Below.refl _ _) j u h⟩
                  | 9, ho, hs, hLi =>
                    cases Option.some.inj ho
                    cases Option.some.inj hs
                    have own4 := bsp_4 (hhas 4 67 rfl (hdep ⟨4, .data⟩ (by simp) rfl)) hLi
                    obtain ⟨v4, e4⟩ : ∃ q, A.tmps.getD 67 undef = q := ⟨_, rfl⟩
                    rw [e4] at own4
                    have x71 : A.eval (.tmp 71) = .slice q71 (nl - (i + 1)) (cl - (i + 1)) := bsp_at (hhas 8 71 rfl (hdep ⟨8, .data⟩ (by simp) rfl)) (by decide) (by decide) (by decide)
                    refine wpOp_step rfl (fun K hK => ?_)
                    show Oper.wp _ _ _ _ _ _
                    refine wp_appendA _ _ rfl wA.heap.size _ _ v4 _ e4 own4 x71 (HPT2.out.later hJ) (by simp; omega) hJ.size ?_
                    intro v' W' hown hgrow hob
                    have hb' := below_grown own4 hgrow hJ.size
                    exact hK _ _ ⟨v', rfl, bsp_mk9 hown, hJ.trans hb', fun j u hj hj2 hLj h => bsp_app9 hj (hdep ⟨4, .data⟩ (by simp) rfl) u h⟩
                  | kk + 10, ho, hs, hLi => simp at hs
                · intro o' L W2 A ho hL hJ hhas hkept hput
                  cases Option.some.inj ho
                  have own9 := bsp_9 (hhas 9 72 rfl)
                  obtain ⟨v7, ev7⟩ : ∃ q, A.tmps.getD 72 undef = q := ⟨_, rfl⟩
                  rw [ev7] at own9
                  obtain ⟨p7, c7, hv7, _, _⟩ := own9.shape
                  obtain ⟨n7, hn7⟩ : ∃ q, ((l.map aq).take i ++ (l.map aq).drop (i + 1)).length = q := ⟨_, rfl⟩
                  rw [hn7] at hv7
                  subst hv7
                  obtain ⟨x63, e63⟩ : ∃ q, A.tmps.getD 63 undef = q := ⟨_, rfl⟩
                  obtain ⟨x67, e67⟩ : ∃ q, A.tmps.getD 67 undef = q := ⟨_, rfl⟩
                  have hA : A = putAll [(63, x63), (64, .slice (some ⟨gq, oq, none⟩) nl cl), (65, .int .i64 (i : Int)), (66, .slice (some ⟨gq, oq, none⟩) i cl), (67, x67), (68, .slice (some ⟨gq, oq, none⟩) nl cl), (69, .int .i64 (i : Int)), (70, .int .i64 ((i : Int) + 1)), (71, .slice q71 (nl - (i + 1)) (cl - (i + 1))), (72, .slice p7 n7 c7)] _ := hput _ (by kernel_rfl) (fun j s v hj => match j, hj with
                    | 0, hj => by cases Option.some.inj hj; exact e63
                    | 1, hj => by cases Option.some.inj hj; exact bsp_at (hhas 1 64 rfl) (by decide) (by decide) (by decide)
                    | 2, hj => by cases Option.some.inj hj; exact bsp_at (hhas 2 65 rfl) (by decide) (by decide) (by decide)
                    | 3, hj => by cases Option.some.inj hj; exact bsp_at (hhas 3 66 rfl) (by decide) (by decide) (by decide)
                    | 5, hj => by cases Option.some.inj hj; exact bsp_at (hhas 5 68 rfl) (by decide) (by decide) (by decide)
                    | 6, hj => by cases Option.some.inj hj; exact bsp_at (hhas 6 69 rfl) (by decide) (by decide) (by decide)
                    | 7, hj => by cases Option.some.inj hj; exact bsp_at (hhas 7 70 rfl) (by decide) (by decide) (by decide)
                    | 8, hj => by cases Option.some.inj hj; exact bsp_at (hhas 8 71 rfl) (by decide) (by decide) (by decide)
                    | 4, hj => by cases Option.some.inj hj; exact e67
                    | 9, hj => by cases Option.some.inj hj; exact ev7
                    | kk + 10, hj => by simp at hj)
                  have h72 : A.tmps[72]?.getD undef = .slice p7 n7 c7 := (gd A 72).trans ev7
                  have HA := hidv hA
                  have HTL : Hid (LRow (g5 + 1) W2 (.slice p7 n7 c7) ((dropAt l ix).map aq)) := by
                    show LRow _ _ _ _
                    rw [map_dropAt l HIX.out]
                    exact own9.low (by have := lt_of_block HC6.out; have := HBQ2.out.size; omega)
                  have HTK : Hid (KApart (g5 + 1) W2 (.slice pq gl.length cq) (.slice p7 n7 c7) gl) := (HK8.out.later HBQ2.out).newer hJ fun g e => (own9.lt g e).1
                  have hb2 := HBQ2.out.trans (hJ.mono HBQ2.out.size)
                  have HTB := hidv (HB6.out.trans (hb2.mono HB6.out.size))
                  have HTC := hidv ((hb2.block _ (lt_of_block HC6.out)).trans HC6.out)
                  have HTA := hidv ((hb2.block _ (lt_of_block HA6.out)).trans HA6.out)
                  have HTM := hidv ((hb2.block _ (lt_of_block HM6.out)).trans HM6.out)
                  have HNE : Hid ((Value.slice p7 n7 c7).ownBlock ≠ some (w5.heap.size + 1)) := fun e => by
                    have h1 := (own9.lt _ e).1
                    have h2 := lt_of_block HM6.out
                    have h3 := HBQ2.out.size
                    omega
                  have HN7 : Hid (n7 = (dropAt l ix).length) := by
                    show _ = _
                    rw [← hn7, ← map_dropAt l HIX.out, List.length_map]
                  clear own9 hJ hhas hA hput hkept ev7 e63 e67 hn7 hb2 HPT1 HPT2 hq71 HBQ2 HC6 HA6 HM6 HB6 HK8
                  refine wpOp_step rfl (fun K hK => ?_)
                  go_simp
                  refine hK _ _ ⟨⟨_, rfl⟩, ?_⟩
                  clear hK h72
                  have hA := HA.out
                  clear HA
                  subst hA
                  simp only [putAll_cons, putAll_nil, Act.put, List.setIfInBounds_toArray, List.set_cons_succ, List.set_cons_zero]
                  have cT := HTC.out
                  have aT := HTA.out
                  have mT := HTM.out
                  have yT0 := (cell_of_row _ _ 1 _ _ _ mT).trans rfl
                  have yT1 := (cell_of_row _ _ 1 _ _ _ cT).trans rfl
                  have zT0 := (cell_of_row _ _ 0 _ _ _ aT).trans rfl
                  have zT1 := (cell_of_row _ _ 1 _ _ _ aT).trans rfl
                  have zT2 := (cell_of_row _ _ 2 _ _ _ aT).trans rfl
                  have bT := (Below.refl W2.heap.size W2).alloc (Nat.le_refl _) (.cells #[.int .i64 r, .int .i64 d, .int .i64 v] 47)
                  have nT := heap_alloc_new W2 (.cells #[.int .i64 r, .int .i64 d, .int .i64 v] 47)
                  have HLT2 := hidv (HTL.out.later bT)
                  have HKT2 := hidv (HTK.out.later bT)
                  have HBT2 := hidv (HTB.out.trans (bT.mono HTB.out.size))
                  have HPT := hidv (PRow.one (a := ⟨r, d, v⟩) nT)
                  have HCT2 := hidv ((bT.block _ (lt_of_block cT)).trans cT)
                  have HAT2 := hidv ((bT.block _ (lt_of_block aT)).trans aT)
                  have HMT2 := hidv ((bT.block _ (lt_of_block mT)).trans mT)
                  have hsz2 : g5 + 1 ≤ (W2.alloc (.cells #[.int .i64 r, .int .i64 d, .int .i64 v] 47)).heap.size := lt_of_block HCT2.out
                  generalize hwT : W2.alloc (.cells #[.int .i64 r, .int .i64 d, .int .i64 v] 47) = wT at *
                  clear bT nT HTL HTK HTB HTC HTA HTM mT
                  go_wp2_with (first
                    | (refine wpList_appendA rfl _ _ rfl (g5 + 1) _ _ _ _ rfl HLT2.out rfl HPT.out (by have := HDL.out; simp; omega) hsz2 ?_; intro v9 w9 hl9 hg9 ho9))
                  have HC9 := hidv ((hg9.block _ (lt_of_block HCT2.out) (fun e => by have := (HLT2.out.lt _ e.symm).1; omega)).trans HCT2.out)
                  have hgm9 : some (w5.heap.size + 1) ≠ (Value.slice p7 n7 c7).ownBlock := fun e => HNE.out e.symm
                  have HM9 := hidv ((hg9.block _ (lt_of_block HMT2.out) hgm9).trans HMT2.out)
                  have HK9 := hidv (HKT2.out.grown hg9 ho9)
                  have HB9 := hidv (HBT2.out.trans ((below_grown HLT2.out hg9 hsz2).mono (Nat.le_succ_of_le HG5.out)))
                  have HL9 := hidv hl9
                  obtain ⟨p9, c9, hv9, hnc9, hcm9⟩ := hl9.shape
                  obtain ⟨n9, hn9⟩ : ∃ q, ((dropAt l ix).map aq ++ [(⟨r, d, v⟩ : Aq)]).length = q := ⟨_, rfl⟩
                  rw [hn9] at hv9 hnc9
                  subst hv9
                  have HN9 : Hid (n9 = (dropAt l ix).length + 1) := by show _ = _; rw [← hn9]; simp
                  have hn9b : (n9 : Int) ≤ 9223372036854775807 := by unfold maxLen at hcm9; omega
                  have hn90 : (0 : Int) ≤ (n9 : Int) := by omega
                  clear hl9 hg9 ho9 hn9 HLT2 HKT2 HBT2 HPT HCT2 HAT2 HMT2 cT aT yT0 yT1 zT0 zT1 zT2 hwT
                  have hcm9' : c9 ≤ 9223372036854775807 := by unfold maxLen at hcm9; omega
                  have mC9 := HM9.out
                  have c59 := HC9.out
                  by_cases h64 : 64 < n9
                  · have h64' : (64 : Int) < (n9 : Int) := by omega
                    have h1n : (1 : Int) ≤ (n9 : Int) := by omega
                    have h1n' : 1 ≤ n9 := by omega
                    have h1c : ¬ c9 = 1 := by omega
                    obtain ⟨g9, o9, hp9⟩ := HL9.out.addr (by simp)
                    subst hp9
                    have hlr := HL9.out.tail (by simp)
                    have hob : (Value.slice (some ⟨g9, o9 + 3, none⟩) (n9 - 1) (c9 - 1)).ownBlock = (Value.slice (some ⟨g9, o9, none⟩) n9 c9).ownBlock := rfl
                    have HLR := hidv (HOG.out.2.2.2.2 (by have := HN9.out; omega) ▸ hlr)
                    have HKR := hidv (HK9.out.as hob)
                    have HGL : Hid (n9 - 1 = gl.length) := by
                      show _ = _
                      have h9 := HN9.out
                      have := congrArg List.length (HOG.out.2.2.2.2 (by have := HN9.out; omega))
                      simp at this
                      omega
                    clear hlr hob hcm9
                    go_wp2_with (first
                      | (refine wpList_load_row rfl 40 _ rfl _ rfl _ _ _ _ mC9 cacheType rfl (by kernel_rfl) ?_)
                      | (refine wpList_store_row rfl 40 _ _ rfl _ _ rfl rfl _ _ c59 (by kernel_rfl) (by simp) (by simp [Value.oneCell']) ?_))
                    go_simp
                    go_wp2_with (first
                      | (refine wpList_load_row rfl 40 _ rfl _ rfl _ _ _ _ mC9 cacheType rfl (by kernel_rfl) ?_)
                      | (refine wpList_store_row rfl 40 _ _ rfl _ _ rfl rfl _ _ c59 (by kernel_rfl) (by simp) (by simp [Value.oneCell']) ?_))
                    go_roundw
                    case rel => exact ⟨j + 1, gl, rn, _, _, _, by go_num, by rw [HGL.out], by omega, setRow_heap _ _ _ #[.slice pq gl.length cq, .int .i64 rn] _ _ HC9.out, HGL.out ▸ HKR.out.set (Nat.lt_succ_self g5) _, HOG.out.2.1, HGL.out ▸ HLR.out.set (Nat.lt_succ_self g5) _, HOG.out.2.2.1.2 (by omega), by have := HOG.out.2.2.1.1; omega, below_setRow HB9.out HG5.out _⟩
                    case measure => simp [intOf]; omega
                  · have h64' : ¬ (64 : Int) < (n9 : Int) := by omega
                    have HLR := hidv (HOG.out.2.2.2.1 (by have := HN9.out; omega) ▸ HL9.out)
                    have HGL : Hid (n9 = gl.length) := by
                      show _ = _
                      have h9 := HN9.out
                      have := congrArg List.length (HOG.out.2.2.2.1 (by have := HN9.out; omega))
                      simp at this
                      omega
                    clear hcm9
                    go_wp2_with (first
                      | (refine wpList_load_row rfl 40 _ rfl _ rfl _ _ _ _ mC9 cacheType rfl (by kernel_rfl) ?_)
                      | (refine wpList_store_row rfl 40 _ _ rfl _ _ rfl rfl _ _ c59 (by kernel_rfl) (by simp) (by simp [Value.oneCell']) ?_))
                    go_roundw
                    case rel => exact ⟨j + 1, gl, rn, _, _, _, by go_num, by rw [HGL.out], by omega, setRow_heap _ _ _ #[.slice pq gl.length cq, .int .i64 rn] _ _ HC9.out, HGL.out ▸ HK9.out.set (Nat.lt_succ_self g5) _, HOG.out.2.1, HGL.out ▸ HLR.out.set (Nat.lt_succ_self g5) _, HOG.out.2.2.1.2 (by omega), by have := HOG.out.2.2.1.1; omega, below_setRow HB9.out HG5.out _⟩
                    case measure => simp [intOf]; omega
              · have e1 : (kr == r) = true := by simp [hkr]
                have e2 : (kd == d) = false := by simp [hkd]
                have HX2 : Hid (idxK r d l 0 = idxK r d (l.drop (i + 1)) (i + 1)) := by
                  show _ = _
                  rw [HX.out, if_neg (fun e => hkd e.2)]
                clear hkr hkd
                subst hpe
                go_wp2_with fail
                go_roundw
                case rel => exact ⟨i + 1, by go_num, by rw [hlab.out], rfl, by omega, HX2.out, HBA.out⟩
                case measure => simp [intOf]; omega
            · have e1 : (kr == r) = false := by simp [hkr]
              have HX2 : Hid (idxK r d l 0 = idxK r d (l.drop (i + 1)) (i + 1)) := by
                show _ = _
                rw [HX.out, if_neg (fun e => hkr e.1)]
              clear hkr
              subst hpe
              go_wp2_with fail
              go_roundw
              case rel => exact ⟨i + 1, by go_num, by rw [hlab.out], rfl, by omega, HX2.out, HBA.out⟩
              case measure => simp [intOf]; omega
          · have hil' : ¬ (i : Int) < (nl : Int) := by omega
            have hn1 : idxK r d l 0 = -1 := by
              rw [hX, List.drop_of_length_le (by omega)]
              rfl
            have HIX : Hid (ix = -1) := HIXE.out.symm.trans hn1
            have hrr : (rn == runs) = false := by
              have := HOG.out.1
              rw [hit_none hn1] at this
              exact this
            have HTL : Hid (LRow (g5 + 1) wr (.slice pl nl cl) ((dropAt l ix).map aq)) := by
              show LRow _ _ _ _
              rw [dropAt_none l HIX.out]
              exact HL8.out.later hbq
            have HTK := hidv (HK8.out.later hbq)
            have HTB := hidv (HB6.out.trans (hbq.mono HB6.out.size))
            have HTC := hidv ((hbq.block _ (lt_of_block HC6.out)).trans HC6.out)
            have HTA := hidv ((hbq.block _ (lt_of_block HA6.out)).trans HA6.out)
            have HTM := hidv ((hbq.block _ (lt_of_block HM6.out)).trans HM6.out)
            have HNE : Hid ((Value.slice pl nl cl).ownBlock ≠ some (w5.heap.size + 1)) := fun e => HNE0.out e
            have HN7 : Hid (nl = (dropAt l ix).length) := by show _ = _; rw [dropAt_none l HIX.out]; exact hnl.symm
            clear hX hbq HC6 HA6 HM6 HB6 HK8 HL8
            have cT := HTC.out
            have aT := HTA.out
            have mT := HTM.out
            have yT0 := (cell_of_row _ _ 1 _ _ _ mT).trans rfl
            have yT1 := (cell_of_row _ _ 1 _ _ _ cT).trans rfl
            have zT0 := (cell_of_row _ _ 0 _ _ _ aT).trans rfl
            have zT1 := (cell_of_row _ _ 1 _ _ _ aT).trans rfl
            have zT2 := (cell_of_row _ _ 2 _ _ _ aT).trans rfl
            have bT := (Below.refl wr.heap.size wr).alloc (Nat.le_refl _) (.cells #[.int .i64 r, .int .i64 d, .int .i64 v] 47)
            have nT := heap_alloc_new wr (.cells #[.int .i64 r, .int .i64 d, .int .i64 v] 47)
            have HLT2 := hidv (HTL.out.later bT)
            have HKT2 := hidv (HTK.out.later bT)
            have HBT2 := hidv (HTB.out.trans (bT.mono HTB.out.size))
            have HPT := hidv (PRow.one (a := ⟨r, d, v⟩) nT)
            have HCT2 := hidv ((bT.block _ (lt_of_block cT)).trans cT)
            have HAT2 := hidv ((bT.block _ (lt_of_block aT)).trans aT)
            have HMT2 := hidv ((bT.block _ (lt_of_block mT)).trans mT)
            have hsz2 : g5 + 1 ≤ (wr.alloc (.cells #[.int .i64 r, .int .i64 d, .int .i64 v] 47)).heap.size := lt_of_block HCT2.out
            generalize hwT : wr.alloc (.cells #[.int .i64 r, .int .i64 d, .int .i64 v] 47) = wT at *
            clear bT nT HTL HTK HTB HTC HTA HTM mT
            go_wp2_with (first
              | (refine wpList_appendA rfl _ _ rfl (g5 + 1) _ _ _ _ rfl HLT2.out rfl HPT.out (by have := HDL.out; simp; omega) hsz2 ?_; intro v9 w9 hl9 hg9 ho9))
            have HC9 := hidv ((hg9.block _ (lt_of_block HCT2.out) (fun e => by have := (HLT2.out.lt _ e.symm).1; omega)).trans HCT2.out)
            have hgm9 : some (w5.heap.size + 1) ≠ (Value.slice pl nl cl).ownBlock := fun e => HNE.out e.symm
            have HM9 := hidv ((hg9.block _ (lt_of_block HMT2.out) hgm9).trans HMT2.out)
            have HK9 := hidv (HKT2.out.grown hg9 ho9)
            have HB9 := hidv (HBT2.out.trans ((below_grown HLT2.out hg9 hsz2).mono (Nat.le_succ_of_le HG5.out)))
            have HL9 := hidv hl9
            obtain ⟨p9, c9, hv9, hnc9, hcm9⟩ := hl9.shape
            obtain ⟨n9, hn9⟩ : ∃ q, ((dropAt l ix).map aq ++ [(⟨r, d, v⟩ : Aq)]).length = q := ⟨_, rfl⟩
            rw [hn9] at hv9 hnc9
            subst hv9
            have HN9 : Hid (n9 = (dropAt l ix).length + 1) := by show _ = _; rw [← hn9]; simp
            have hn9b : (n9 : Int) ≤ 9223372036854775807 := by unfold maxLen at hcm9; omega
            have hn90 : (0 : Int) ≤ (n9 : Int) := by omega
            clear hl9 hg9 ho9 hn9 HLT2 HKT2 HBT2 HPT HCT2 HAT2 HMT2 cT aT yT0 yT1 zT0 zT1 zT2 hwT
            have hcm9' : c9 ≤ 9223372036854775807 := by unfold maxLen at hcm9; omega
            have mC9 := HM9.out
            have c59 := HC9.out
            by_cases h64 : 64 < n9
            · have h64' : (64 : Int) < (n9 : Int) := by omega
              have h1n : (1 : Int) ≤ (n9 : Int) := by omega
              have h1n' : 1 ≤ n9 := by omega
              have h1c : ¬ c9 = 1 := by omega
              obtain ⟨g9, o9, hp9⟩ := HL9.out.addr (by simp)
              subst hp9
              have hlr := HL9.out.tail (by simp)
              have hob : (Value.slice (some ⟨g9, o9 + 3, none⟩) (n9 - 1) (c9 - 1)).ownBlock = (Value.slice (some ⟨g9, o9, none⟩) n9 c9).ownBlock := rfl
              have HLR := hidv (HOG.out.2.2.2.2 (by have := HN9.out; omega) ▸ hlr)
              have HKR := hidv (HK9.out.as hob)
              have HGL : Hid (n9 - 1 = gl.length) := by
                show _ = _
                have h9 := HN9.out
                have := congrArg List.length (HOG.out.2.2.2.2 (by have := HN9.out; omega))
                simp at this
                omega
              clear hlr hob hcm9
              go_wp2_with (first
                | (refine wpList_load_row rfl 40 _ rfl _ rfl _ _ _ _ mC9 cacheType rfl (by kernel_rfl) ?_)
                | (refine wpList_store_row rfl 40 _ _ rfl _ _ rfl rfl _ _ c59 (by kernel_rfl) (by simp) (by simp [Value.oneCell']) ?_))
              go_simp
              go_wp2_with (first
                | (refine wpList_load_row rfl 40 _ rfl _ rfl _ _ _ _ mC9 cacheType rfl (by kernel_rfl) ?_)
                | (refine wpList_store_row rfl 40 _ _ rfl _ _ rfl rfl _ _ c59 (by kernel_rfl) (by simp) (by simp [Value.oneCell']) ?_))
              go_roundw
              case rel => exact ⟨j + 1, gl, rn, _, _, _, by go_num, by rw [HGL.out], by omega, setRow_heap _ _ _ #[.slice pq gl.length cq, .int .i64 rn] _ _ HC9.out, HGL.out ▸ HKR.out.set (Nat.lt_succ_self g5) _, HOG.out.2.1, HGL.out ▸ HLR.out.set (Nat.lt_succ_self g5) _, HOG.out.2.2.1.2 (by omega), by have := HOG.out.2.2.1.1; omega, below_setRow HB9.out HG5.out _⟩
              case measure => simp [intOf]; omega
            · have h64' : ¬ (64 : Int) < (n9 : Int) := by omega
              have HLR := hidv (HOG.out.2.2.2.1 (by have := HN9.out; omega) ▸ HL9.out)
              have HGL : Hid (n9 = gl.length) := by
                show _ = _
                have h9 := HN9.out
                have := congrArg List.length (HOG.out.2.2.2.1 (by have := HN9.out; omega))
                simp at this
                omega
              clear hcm9
              go_wp2_with (first
                | (refine wpList_load_row rfl 40 _ rfl _ rfl _ _ _ _ mC9 cacheType rfl (by kernel_rfl) ?_)
                | (refine wpList_store_row rfl 40 _ _ rfl _ _ rfl rfl _ _ c59 (by kernel_rfl) (by simp) (by simp [Value.oneCell']) ?_))
              go_roundw
              case rel => exact ⟨j + 1, gl, rn, _, _, _, by go_num, by rw [HGL.out], by omega, setRow_heap _ _ _ #[.slice pq gl.length cq, .int .i64 rn] _ _ HC9.out, HGL.out ▸ HK9.out.set (Nat.lt_succ_self g5) _, HOG.out.2.1, HGL.out ▸ HLR.out.set (Nat.lt_succ_self g5) _, HOG.out.2.2.1.2 (by omega), by have := HOG.out.2.2.1.1; omega, below_setRow HB9.out HG5.out _⟩
              case measure => simp [intOf]; omega
      · have hbe : (er == 0) = false := beq_eq_false_iff_ne.2 he
        have hbn : (er != 0) = true := by simpa using he
        clear HI3 he HK8
        go_wp2_with (first
          | (refine wpList_store_row rfl 25 _ _ rfl _ _ rfl rfl _ _ n13 (maskSize _) (by simp [mv_size]) (mv_all _) ?_; rw [hwB3]; refine wpList_store_row rfl 40 _ _ rfl _ _ rfl rfl _ _ p23 (by kernel_rfl) (by simp) (by simp [Value.oneCell']) ?_; rw [hwC3]; refine wpList_store_row rfl 28 _ _ rfl _ _ rfl rfl _ _ q33 (by kernel_rfl) (by simp) (by simp [Value.oneCell']) ?_; rw [hwD3]))
        go_roundw
        case rel => exact ⟨j + 1, l, runs, _, _, _, by go_num, rfl, by omega, c5, HK9.out, h64l, HL8.out, hr0, by omega, HB6.out⟩
        case measure => simp [intOf]; omega
    · have hlt' : ¬ (j : Int) < (asks.length : Int) := by omega
      clear HAC
      go_wp2_with fail
      go_ret
      exact ⟨rfl, hb⟩
end Go.Proofs.Ytaeengpppehlfaa

/- How rows that came in read. -/
namespace Go.Proofs.Ytaeengpppehlfaa
open Go.ChangeShapes Go.WideShapes Go.ChangeAt Go.WideMaps Go.WideElems Go.RowKit Go.Joins Msk
variable {H : Type} {enc : TypeId × Value → H} {W : World}

theorem cN9 : Try.prog.cellsOf 3 = 1 := by kernel_rfl
theorem add9 (g o n : Nat) : (⟨g, o, none⟩ : Addr).add n = ⟨g, o + n, none⟩ := by
  by_cases h : n = 0
  · subst h; simp [Addr.add]
  · simp [Addr.add, h]
theorem two9 {α : Type} {l : List α} (h : l.length = 2) : ∃ a b, l = [a, b] := by
  match l, h with
  | [a, b], _ => exact ⟨a, b, rfl⟩
theorem three9 {α : Type} {l : List α} (h : l.length = 3) : ∃ a b c, l = [a, b, c] := by
  match l, h with
  | [a, b, c], _ => exact ⟨a, b, c, rfl⟩
theorem five9 {α : Type} {l : List α} (h : l.length = 5) : ∃ a b c d e, l = [a, b, c, d, e] := by
  match l, h with
  | [a, b, c, d, e], _ => exact ⟨a, b, c, d, e, rfl⟩
/-- A row whose elements are read one by one. -/
theorem open_row {α : Type} (d0 : α) {size : Nat} {t e : TypeId} (ht : Try.prog.underlying t = some (.slice e)) (hsz : Try.prog.cellsOf e = size) (h0 : 0 < size) (Q : (Nat → Option Value) → α → Prop)
    (hel : ∀ (fuel : Nat) (cs : List Value) (y : DataW H × List MemPlace), DataW.trod enc Try.prog W 0 (fun _ => true) true fuel e cs = some y → ∃ u : α, cs.length = size ∧ Q (fun k => cs[k]?) u) {fuel : Nat} {cs : List Value} {x : DataW H × List MemPlace}
    (h : DataW.trod enc Try.prog W 0 (fun _ => true) true fuel t cs = some x) :
    ∃ (p : Option Addr) (len cap : Nat) (us : List α), cs = [.slice p len cap] ∧ us.length = len ∧ len < 9223372036854775808 ∧ ∀ (j : Nat) (u : α), us[j]? = some u → ∃ g o : Nat, p = some ⟨g, o, none⟩ ∧ ∃ c : List Value, c.length = size ∧ (∀ k v, c[k]? = some v → W.cell? ⟨g, o + j * size + k, none⟩ = some v) ∧ Q (fun k => c[k]?) u := by
  rcases DataW.trod_slice ht h with ⟨e1, _⟩ | ⟨a, len, cap, elems, rest, m, hf, e1, _, _, hlc, hm, hlen, hall, _⟩
  · exact ⟨none, 0, 0, [], e1, rfl, by decide, fun j u hj => by simp at hj⟩
  · have hl2 : len < 9223372036854775808 := by unfold maxLen at hm; omega
    have each : ∀ i, i < len → ∃ u : α, ∃ g o : Nat, a = ⟨g, o, none⟩ ∧ ∃ c : List Value, c.length = size ∧ (∀ k v, c[k]? = some v → W.cell? ⟨g, o + i * size + k, none⟩ = some v) ∧ Q (fun k => c[k]?) u := by
      intro i hi
      have h1 := hall i hi
      rw [hsz] at h1
      have hy : elems[i]? = some (elems[i]'(by omega)) := List.getElem?_eq_getElem _
      rw [hy, Option.bind_eq_some_iff] at h1
      obtain ⟨c, hc, htr⟩ := h1
      obtain ⟨u, hcl, hq⟩ := hel _ _ _ htr
      have spot : a.spot = none := by
        have h2 := hall 0 (by omega)
        rw [hsz] at h2
        have hy0 : elems[0]? = some (elems[0]'(by omega)) := List.getElem?_eq_getElem _
        rw [hy0, Option.bind_eq_some_iff] at h2
        obtain ⟨c', hc', htr'⟩ := h2
        obtain ⟨_, hcl', _⟩ := hel _ _ _ htr'
        have e0 : c'[0]? = some (c'[0]'(by omega)) := List.getElem?_eq_getElem _
        have q0 := (World.cells?_some hc').2.2 0 (by omega)
        rw [e0] at q0
        have q' := World.cell?_spot q0
        simpa [Addr.add] using q'
      obtain ⟨g, o, s⟩ := a
      have q := (World.cells?_some hc).2.2
      dsimp only at spot
      subst spot
      refine ⟨u, g, o, rfl, c, hcl, fun k v hk => ?_, hq⟩
      have hk' : k < c.length := (List.getElem?_eq_some_iff.1 hk).1
      have qk := q k (by omega)
      rw [add9, add9, hk] at qk
      exact qk
    let pick : Nat → α := fun i => if h : i < len then Classical.choose (each i h) else d0
    have hpick : ∀ i (h : i < len), pick i = Classical.choose (each i h) := fun i h => by simp only [pick, h, dif_pos]
    refine ⟨some a, len, cap, (List.range len).map pick, e1, by simp, hl2, fun j u hj => ?_⟩
    have hjl : j < len := by
      have := (List.getElem?_eq_some_iff.1 hj).1
      simpa using this
    rw [List.getElem?_map, List.getElem?_range hjl] at hj
    have hu : u = Classical.choose (each j hjl) := (Option.some.inj hj).symm.trans (hpick j hjl)
    rw [hu]
    obtain ⟨g, o, ea, c, h1, h2, h3⟩ := Classical.choose_spec (each j hjl)
    exact ⟨g, o, by rw [ea], c, h1, h2, h3⟩
theorem cM9 : Try.prog.cellsOf 25 = 23 := by kernel_rfl
theorem cU9 : Try.prog.cellsOf 23 = 1 := by kernel_rfl
/-- A mask's cells that came in. -/
theorem open_maskL {fuel : Nat} {cs : List Value} {x : DataW H × List MemPlace} (h : DataW.trod enc Try.prog W 0 (fun _ => true) true fuel 25 cs = some x) : ∃ f : Nat → Bool, cs = (mv f).toList := by
  obtain ⟨xs, m, _, hx, hcl, hlen, hel⟩ := DataW.trod_array maskType h
  rw [cM9] at hcl
  have each : ∀ i, i < 23 → ∃ z : Nat, z < 18446744073709551616 ∧ cs[i]? = some (.int .u64 (z : Int)) := by
    intro i hi
    have h1 := hel i hi
    rw [cU9] at h1
    have hy : xs[i]? = some xs[i] := by simp [hlen, hi]
    rw [hy] at h1
    obtain ⟨z, e1, e2, hw⟩ := DataW.trod_int Try.underlying23 h1
    have hc : i < cs.length := by omega
    have e3 : cs[i] = .int .u64 z := by
      have : (cs.drop (i * 1)).take 1 = [cs[i]] := by
        rw [Nat.mul_one, List.drop_eq_getElem_cons hc]
        rfl
      rw [this] at e1
      simpa using e1
    have hb := bounds_u64 hw
    refine ⟨z.toNat, by omega, ?_⟩
    rw [List.getElem?_eq_getElem hc, e3, Int.toNat_of_nonneg hb.1]
  obtain ⟨mm, hmm⟩ : ∃ mm : Nat → Nat, ∀ i, i < 23 → mm i < 18446744073709551616 ∧ cs[i]? = some (.int .u64 (mm i : Int)) := by
    refine ⟨fun i => match cs[i]? with | some (.int _ z) => z.toNat | _ => 0, fun i hi => ?_⟩
    obtain ⟨z, h1, h2⟩ := each i hi
    simp only [h2]
    exact ⟨by simpa using h1, by simp⟩
  refine ⟨fun i => (mm (i / 64)).testBit (i % 64), ?_⟩
  rw [← mv_of mm fun k hk => (hmm k hk).1]
  apply List.ext_getElem?
  intro i
  by_cases hi : i < 23
  · rw [(hmm i hi).2, Array.getElem?_toList, Array.getElem?_eq_getElem (by simpa using hi), Array.getElem_ofFn]
  · rw [List.getElem?_eq_none (by omega), List.getElem?_eq_none (by rw [Array.length_toList, Array.size_ofFn]; omega)]
theorem four9 {α : Type} {l : List α} (h : l.length = 4) : ∃ a b c d, l = [a, b, c, d] := by
  match l, h with
  | [a, b, c, d], _ => exact ⟨a, b, c, d, rfl⟩
end Go.Proofs.Ytaeengpppehlfaa

/- How code that came in reads: the rows of instructions, and of rules' code, in memory as it is. -/
namespace Go.Proofs.Ytaeengpppehlfaa
open Go.ChangeShapes Go.WideShapes Go.ChangeAt Go.WideMaps Go.WideElems Go.RowKit Go.Joins Vx
variable {H : Type} {enc : TypeId × Value → H} {W : World}

theorem cI9 : Try.prog.cellsOf 65 = 5 := by kernel_rfl
theorem cC9 : Try.prog.cellsOf 36 = 3 := by kernel_rfl
theorem cS9 : Try.prog.cellsOf 97 = 2 := by kernel_rfl
theorem cL9 : Try.prog.cellsOf 63 = 1 := by kernel_rfl
theorem cK9 : Try.prog.cellsOf 34 = 1 := by kernel_rfl
theorem open_span9 (fuel : Nat) (cs : List Value) (y : DataW H × List MemPlace) (h : DataW.trod enc Try.prog W 0 (fun _ => true) true fuel 97 cs = some y) : ∃ u : Int × Int, cs.length = 2 ∧ (fun k => cs[k]?) 0 = some (.int .i64 u.1) ∧ (fun k => cs[k]?) 1 = some (.int .i64 u.2) := by
  obtain ⟨y0, y1, m, rfl, hl, h0, h1⟩ := trod_struct2 Try.underlying97 h
  rw [cS9] at hl
  dsimp only at h0 h1
  rw [cN9] at h0 h1
  obtain ⟨x, e0, _⟩ := DataW.trod_int Try.underlying3 h0
  obtain ⟨z, e1, _⟩ := DataW.trod_int Try.underlying3 h1
  obtain ⟨c0, c1, rfl⟩ := two9 hl
  simp at e0 e1
  subst e0 e1
  exact ⟨(x, z), rfl, rfl, rfl⟩
/-- A row of spans that came in. -/
theorem open_spans9 {fuel : Nat} {cs : List Value} {x : DataW H × List MemPlace} (h : DataW.trod enc Try.prog W 0 (fun _ => true) true fuel 63 cs = some x) : ∃ (sl : Value) (l : List (Int × Int)), cs = [sl] ∧ RowV W sl l := by
  obtain ⟨p, len, cap, us, e, hl, hn, hall⟩ := open_row ((0, 0) : Int × Int) (Q := fun c u => c 0 = some (.int .i64 u.1) ∧ c 1 = some (.int .i64 u.2)) Try.underlying63 cS9 (by decide) open_span9 h
  refine ⟨_, us, e, ?_⟩
  cases us with
  | nil =>
    left
    simp at hl
    subst hl
    exact ⟨rfl, p, cap, rfl⟩
  | cons u0 us' =>
    right
    right
    obtain ⟨g, o, hp, _⟩ := hall 0 u0 rfl
    refine ⟨g, o, cap, by rw [hp, hl], by rw [hl]; exact hn, fun j hj => ?_⟩
    obtain ⟨u, hu⟩ : ∃ u, (u0 :: us')[j]? = some u := ⟨_, List.getElem?_eq_getElem hj⟩
    obtain ⟨g', o', hp', c, hcl, hcc, q0, q1⟩ := hall j u hu
    rw [hp] at hp'
    cases hp'
    have e : (u0 :: us').getD j (0, 0) = u := by simp [List.getD, hu]
    rw [e]
    exact ⟨by simpa using hcc 0 _ q0, hcc 1 _ q1⟩
set_option maxRecDepth 100000 in
theorem open_ins9 (fuel : Nat) (cs : List Value) (y : DataW H × List MemPlace) (h : DataW.trod enc Try.prog W 0 (fun _ => true) true fuel 65 cs = some y) : ∃ u : In × Value, cs.length = 5 ∧ RowV W u.2 u.1.sp ∧ (fun k => cs[k]?) 0 = some (.int .i64 u.1.op) ∧ (fun k => cs[k]?) 1 = some (.int .i64 u.1.a) ∧ (fun k => cs[k]?) 2 = some (.int .i64 u.1.b) ∧ (fun k => cs[k]?) 3 = some (.int .i64 u.1.to) ∧ (fun k => cs[k]?) 4 = some u.2 := by
  obtain ⟨xs, m, hf, _, hl, hx, hall⟩ := DataW.trod_struct Try.underlying65 h
  rw [cI9] at hl
  have hx5 : xs.length = 5 := hx
  obtain ⟨c0, c1, c2, c3, c4, rfl⟩ := five9 hl
  obtain ⟨x0, x1, x2, x3, x4, rfl⟩ := five9 hx5
  have h0 : DataW.trod enc Try.prog W 0 (fun _ => true) true m 3 (([c0, c1, c2, c3, c4].drop 0).take (Try.prog.cellsOf 3)) = some x0 := hall 0 _ rfl
  have h1 : DataW.trod enc Try.prog W 0 (fun _ => true) true m 3 (([c0, c1, c2, c3, c4].drop 1).take (Try.prog.cellsOf 3)) = some x1 := hall 1 _ rfl
  have h2 : DataW.trod enc Try.prog W 0 (fun _ => true) true m 3 (([c0, c1, c2, c3, c4].drop 2).take (Try.prog.cellsOf 3)) = some x2 := hall 2 _ rfl
  have h3 : DataW.trod enc Try.prog W 0 (fun _ => true) true m 3 (([c0, c1, c2, c3, c4].drop 3).take (Try.prog.cellsOf 3)) = some x3 := hall 3 _ rfl
  have h4 : DataW.trod enc Try.prog W 0 (fun _ => true) true m 63 (([c0, c1, c2, c3, c4].drop 4).take (Try.prog.cellsOf 63)) = some x4 := hall 4 _ rfl
  rw [cN9] at h0 h1 h2 h3
  rw [cL9] at h4
  obtain ⟨k, e0, _⟩ := DataW.trod_int Try.underlying3 h0
  obtain ⟨a, e1, _⟩ := DataW.trod_int Try.underlying3 h1
  obtain ⟨b, e2, _⟩ := DataW.trod_int Try.underlying3 h2
  obtain ⟨t, e3, _⟩ := DataW.trod_int Try.underlying3 h3
  obtain ⟨sl, l, e4, hr⟩ := open_spans9 h4
  simp at e0 e1 e2 e3 e4
  subst e0 e1 e2 e3 e4
  exact ⟨(⟨k, a, b, t, l⟩, c4), rfl, hr, rfl, rfl, rfl, rfl, rfl⟩
theorem open_inss9 {fuel : Nat} {cs : List Value} {x : DataW H × List MemPlace} (h : DataW.trod enc Try.prog W 0 (fun _ => true) true fuel 34 cs = some x) : ∃ (sl : Value) (l : List In), cs = [sl] ∧ InsOf W sl l := by
  obtain ⟨p, len, cap, us, e, hl, hn, hall⟩ := open_row ((in0, .slice none 0 0) : In × Value) (Q := fun c u => RowV W u.2 u.1.sp ∧ c 0 = some (.int .i64 u.1.op) ∧ c 1 = some (.int .i64 u.1.a) ∧ c 2 = some (.int .i64 u.1.b) ∧ c 3 = some (.int .i64 u.1.to) ∧ c 4 = some u.2) Try.underlying34 cI9 (by decide) open_ins9 h
  refine ⟨_, us.map (fun u => u.1), e, us, ⟨p, cap, by rw [hl], by rw [hl]; exact hn, fun j u hj => ?_⟩, rfl⟩
  obtain ⟨g, o, hp, c, _, hcc, q0, q1, q2, q3, q4, q5⟩ := hall j u hj
  exact ⟨q0, g, o, hp, by simpa using hcc 0 _ q1, hcc 1 _ q2, hcc 2 _ q3, hcc 3 _ q4, hcc 4 _ q5⟩
set_option maxRecDepth 100000 in
theorem open_code9 (fuel : Nat) (cs : List Value) (y : DataW H × List MemPlace) (h : DataW.trod enc Try.prog W 0 (fun _ => true) true fuel 36 cs = some y) : ∃ u : Cd × Value, cs.length = 3 ∧ InsOf W u.2 u.1.ins ∧ (fun k => cs[k]?) 0 = some u.2 ∧ (fun k => cs[k]?) 1 = some (.int .i64 u.1.high) ∧ (fun k => cs[k]?) 2 = some (.int .i64 u.1.steps) := by
  obtain ⟨xs, m, hf, _, hl, hx, hall⟩ := DataW.trod_struct Try.underlying36 h
  rw [cC9] at hl
  have hx3 : xs.length = 3 := hx
  obtain ⟨c0, c1, c2, rfl⟩ := three9 hl
  obtain ⟨x0, x1, x2, rfl⟩ := three9 hx3
  have h0 : DataW.trod enc Try.prog W 0 (fun _ => true) true m 34 (([c0, c1, c2].drop 0).take (Try.prog.cellsOf 34)) = some x0 := hall 0 _ rfl
  have h1 : DataW.trod enc Try.prog W 0 (fun _ => true) true m 3 (([c0, c1, c2].drop 1).take (Try.prog.cellsOf 3)) = some x1 := hall 1 _ rfl
  have h2 : DataW.trod enc Try.prog W 0 (fun _ => true) true m 3 (([c0, c1, c2].drop 2).take (Try.prog.cellsOf 3)) = some x2 := hall 2 _ rfl
  rw [cN9] at h1 h2
  rw [cK9] at h0
  obtain ⟨a, e1, _⟩ := DataW.trod_int Try.underlying3 h1
  obtain ⟨b, e2, _⟩ := DataW.trod_int Try.underlying3 h2
  obtain ⟨sl, l, e0, hr⟩ := open_inss9 h0
  simp at e0 e1 e2
  subst e0 e1 e2
  exact ⟨(⟨l, a, b⟩, c0), rfl, hr, rfl, rfl, rfl⟩
set_option maxRecDepth 100000 in
/-- Code that came in. -/
theorem open_codes {r : Reach} {b0 : Nat} {v : Value} {d : DataW H} {q : List MemPlace} (hv : Value.okWide Try.prog W r b0 22 v) (h : DataW.Trod enc Try.prog W 0 (fun _ => true) true 22 v d q) : ∃ cs, InV W v cs := by
  obtain ⟨ao, k0, c0, rfl⟩ := okWide_slice Try.underlying22 hv
  obtain ⟨fuel, hf⟩ := h
  obtain ⟨p, len, cap, us, e, hl, hn, hall⟩ := open_row ((cd0, .slice none 0 0) : Cd × Value) (Q := fun c u => InsOf W u.2 u.1.ins ∧ c 0 = some u.2 ∧ c 1 = some (.int .i64 u.1.high) ∧ c 2 = some (.int .i64 u.1.steps)) Try.underlying22 cC9 (by decide) open_code9 hf
  have e' : Value.slice ao k0 c0 = .slice p len cap := by simpa [Value.cells] using e
  rw [e']
  refine ⟨us.map (fun u => u.1), us, ⟨p, cap, by rw [hl], by rw [hl]; exact hn, fun j u hj => ?_⟩, rfl⟩
  obtain ⟨g, o, hp, c, _, hcc, q0, q1, q2, q3⟩ := hall j u hj
  exact ⟨q0, g, o, hp, by simpa using hcc 0 _ q1, hcc 1 _ q2, hcc 2 _ q3⟩
set_option maxRecDepth 100000 in
theorem codes_stay {W' : World} {v : Value} {d : DataW H} {p : List MemPlace} (h : DataW.Trod enc Try.prog W 0 (fun _ => true) true 22 v d p) (hb : Below W.heap.size W W') (hlt : ∀ x ∈ p, x.block < W.heap.size) :
    DataW.Trod enc Try.prog W' 0 (fun b => decide (b < W.heap.size)) true 22 v d p :=
  Below.trod (by kernel_rfl) (by kernel_rfl) (of_decide_eq_true (by kernel_rfl)) h hb hlt
end Go.Proofs.Ytaeengpppehlfaa
