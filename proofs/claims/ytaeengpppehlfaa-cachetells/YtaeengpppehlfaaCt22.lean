/- The document's Get. Written by gencav.py. -/
import Derived.Test.YtaeengpppehlfaaCt15
import Derived.Test.YtaeengpppehlfaaCt21
namespace Go.Proofs.Ytaeengpppehlfaa
open Go.RowKit Msk Vx

theorem krow_cellset {B : Nat} {w : World} {v : Value} {l : List Kp} (h : KRow B w v l) {g : Nat} (hg : g < B) (o : Nat) (x : Value) : KRow B (w.setCell ⟨g, o, none⟩ x) v l := by
  obtain ⟨p, c, e, h1, h2, h3⟩ := h
  refine ⟨p, c, e, h1, h2, fun hn => ?_⟩
  obtain ⟨b, o', hp, hB, hr⟩ := h3 hn
  refine ⟨b, o', hp, hB, fun j u hj => ?_⟩
  have hc := hr j u hj
  have he := heap_setCell_other w ⟨g, o, none⟩ b x (by show b ≠ g; omega)
  unfold World.cell? at hc ⊢
  rw [he]
  exact hc
theorem own_neK {w : World} {base n : Nat} {sv : Value} {xs : List Value} {g : Nat} {cs : Array Value} {T : TypeId} (h : w.ownsRow base 51 26 sv n xs) (hg : w.heap[g]? = some (.cells cs T (0, 0))) (hT : T ≠ 51) : some g ≠ sv.ownBlock := by
  rcases h.2 with ⟨e, _⟩ | ⟨b, cap, cur, e, _, hb, _⟩
  · rw [e]; simp [Value.ownBlock]
  · rw [e]
    intro q
    have q' : g = b := by simpa [Value.ownBlock] using q
    subst q'
    rw [hg] at hb
    injection hb with hb
    injection hb with _ h2 _
    exact hT h2
theorem range_kvm {w : World} {g o : Nat} {k : Kp} (h : w.rangeAt g o (kv k).toList) : w.rangeAt g (o + 3) (mv k.m).toList := by
  have e : (kv k).toList = [.int .i64 k.r, .int .i64 k.d, .int .i64 k.v] ++ (mv k.m).toList := by unfold kv; simp
  rw [e] at h
  exact range_right h
set_option maxRecDepth 100000 in
set_option maxHeartbeats 4000000 in
theorem rget_any (cs : List Cd) (l : List Kp) (cv lv : Value) (runs ver rule day : Int) (w : World) (h : KRow 0 w cv l) (hl : l.length ≤ 676622540150) (hin : InV w lv cs) :
    Calls Try.prog 16 #[.agg #[cv, .int .i64 runs], lv, .int .i64 ver, .int .i64 rule, .int .i64 day] w (OutG (getP cs l runs ver rule day).m (getP cs l runs ver rule day).l (getP cs l runs ver rule day).n (getP cs l runs ver rule day).er ((getP cs l runs ver rule day).at_ : Int) w) := by
  obtain ⟨G, hG⟩ : ∃ G, getP cs l runs ver rule day = G := ⟨_, rfl⟩
  rw [hG]
  have HGG := hidv hG
  clear hG
  have HIN := hidv hin
  have HK := hidv h
  obtain ⟨p, c, rfl, hlc, hcm, _⟩ := h
  have hz := mv_lit
  have bA : Below w.heap.size w (((((w.alloc (.cells #[.slice p l.length c, .int .i64 runs] 40)).alloc (.cells (mv fun _ => false) 25)).alloc (.cells #[.slice none 0 0, .int .i64 0] 40)).alloc (.cells #[.int .i64 0, .int .i64 0] 28)).alloc (.cells #[.slice none 0 0, .int .i64 runs] 40)) := (((((Below.refl _ _).alloc (Nat.le_refl _) _).alloc (by simp) _).alloc (by simp; omega) _).alloc (by simp; omega) _).alloc (by simp; omega) _
  have n5 : (((((w.alloc (.cells #[.slice p l.length c, .int .i64 runs] 40)).alloc (.cells (mv fun _ => false) 25)).alloc (.cells #[.slice none 0 0, .int .i64 0] 40)).alloc (.cells #[.int .i64 0, .int .i64 0] 28)).alloc (.cells #[.slice none 0 0, .int .i64 runs] 40)).heap[w.heap.size]? = some (.cells #[.slice p l.length c, .int .i64 runs] 40 (0, 0)) := by (repeat (first | refine blk_old _ _ _ (by simp only [size_alloc]; omega) ?_ | exact blk_new _ _ _ (by first | rfl | simp only [size_alloc])))
  have n10 : (((((w.alloc (.cells #[.slice p l.length c, .int .i64 runs] 40)).alloc (.cells (mv fun _ => false) 25)).alloc (.cells #[.slice none 0 0, .int .i64 0] 40)).alloc (.cells #[.int .i64 0, .int .i64 0] 28)).alloc (.cells #[.slice none 0 0, .int .i64 runs] 40)).heap[w.heap.size + 1]? = some (.cells (mv fun _ => false) 25 (0, 0)) := by (repeat (first | refine blk_old _ _ _ (by simp only [size_alloc]; omega) ?_ | exact blk_new _ _ _ (by first | rfl | simp only [size_alloc])))
  have n11 : (((((w.alloc (.cells #[.slice p l.length c, .int .i64 runs] 40)).alloc (.cells (mv fun _ => false) 25)).alloc (.cells #[.slice none 0 0, .int .i64 0] 40)).alloc (.cells #[.int .i64 0, .int .i64 0] 28)).alloc (.cells #[.slice none 0 0, .int .i64 runs] 40)).heap[w.heap.size + 2]? = some (.cells #[.slice none 0 0, .int .i64 0] 40 (0, 0)) := by (repeat (first | refine blk_old _ _ _ (by simp only [size_alloc]; omega) ?_ | exact blk_new _ _ _ (by first | rfl | simp only [size_alloc])))
  have n12 : (((((w.alloc (.cells #[.slice p l.length c, .int .i64 runs] 40)).alloc (.cells (mv fun _ => false) 25)).alloc (.cells #[.slice none 0 0, .int .i64 0] 40)).alloc (.cells #[.int .i64 0, .int .i64 0] 28)).alloc (.cells #[.slice none 0 0, .int .i64 runs] 40)).heap[w.heap.size + 3]? = some (.cells #[.int .i64 0, .int .i64 0] 28 (0, 0)) := by (repeat (first | refine blk_old _ _ _ (by simp only [size_alloc]; omega) ?_ | exact blk_new _ _ _ (by first | rfl | simp only [size_alloc])))
  have n13 : (((((w.alloc (.cells #[.slice p l.length c, .int .i64 runs] 40)).alloc (.cells (mv fun _ => false) 25)).alloc (.cells #[.slice none 0 0, .int .i64 0] 40)).alloc (.cells #[.int .i64 0, .int .i64 0] 28)).alloc (.cells #[.slice none 0 0, .int .i64 runs] 40)).heap[w.heap.size + 4]? = some (.cells #[.slice none 0 0, .int .i64 runs] 40 (0, 0)) := by (repeat (first | refine blk_old _ _ _ (by simp only [size_alloc]; omega) ?_ | exact blk_new _ _ _ (by first | rfl | simp only [size_alloc])))
  generalize hwA : (((((w.alloc (.cells #[.slice p l.length c, .int .i64 runs] 40)).alloc (.cells (mv fun _ => false) 25)).alloc (.cells #[.slice none 0 0, .int .i64 0] 40)).alloc (.cells #[.int .i64 0, .int .i64 0] 28)).alloc (.cells #[.slice none 0 0, .int .i64 runs] 40)) = wA at *
  have z5 := (cell_of_row _ _ 0 _ _ _ n5).trans rfl
  obtain ⟨g13, hg13⟩ : ∃ q, w.heap.size + 4 = q := ⟨_, rfl⟩
  rw [hg13] at n13
  have HBA := hidv bA
  have HN5 := hidv n5
  have HN10 := hidv n10
  have HN11 := hidv n11
  have HN12 := hidv n12
  have hm9 : c ≤ 9223372036854775807 := by unfold maxLen at hcm; omega
  clear bA hin n5 n10 n11 n12 hcm
  go_enter Try.func16, Try.ntmps16
  go_wp2_with fail
  go_loopw [14, 15, 16, 17, 27] (fun t14 t15 _ _ t27 wr => ∃ (i : Nat) (rv fv : Value), t27 = .int .i64 (i : Int) ∧ i ≤ l.length ∧ t15 = .bool (decide (idxK rule day (l.take i) 0 = -1)) ∧ t14 = fv ∧ ((hitK (l.take i) ver rule day = false ∧ fv = .pointer none) ∨ (hitK (l.take i) ver rule day = true ∧ ∃ g o, p = some ⟨g, o, none⟩ ∧ fv = .pointer (some ⟨g, o + (idxK rule day (l.take i) 0).toNat * 26, none⟩))) ∧ wr.heap[g13]? = some (.cells #[rv, .int .i64 runs] 40 (0, 0)) ∧ wr.ownsRow (g13 + 1) 51 26 rv (outK rule day (l.take i)).length (flatK (outK rule day (l.take i))) ∧ Below g13 wA wr) (fun _ _ _ _ t27 _ => l.length - (intOf t27).toNat)
  case atStart => exact ⟨0, .slice none 0 0, .pointer none, rfl, by omega, rfl, rfl, .inl ⟨rfl, rfl⟩, n13, World.ownsRow_nil _ _ _ _, Below.refl _ _⟩
  case round =>
    clear n13 hwA z5
    obtain ⟨i, rv, fv, rfl, hi, rfl, hfe, hfd, c13, o13, hbr⟩ := hrel
    replace hfe := hfe.symm
    subst hfe
    have hi0 : (0 : Int) ≤ (i : Int) := by omega
    obtain ⟨pr, cr, hrv, _⟩ := ownK_slice o13
    obtain ⟨nr, hnr⟩ : ∃ n, (outK rule day (l.take i)).length = n := ⟨_, rfl⟩
    rw [hnr] at hrv
    subst hrv
    have h13 := lt_of_block c13
    have n5r := (hbr.block _ (by omega : w.heap.size < g13)).trans HN5.out
    have z5r := (cell_of_row _ _ 0 _ _ _ n5r).trans rfl
    have hbw : Below w.heap.size w wr := HBA.out.trans (hbr.mono (by omega))
    by_cases hil : i < l.length
    · have hil' : (i : Int) < (l.length : Int) := by omega
      obtain ⟨k, hik⟩ : ∃ q, l[i]? = some q := ⟨l[i], List.getElem?_eq_getElem hil⟩
      obtain ⟨gg, oo, hpe, hrg⟩ := HK.out.at hik
      subst hpe
      have rg := rangeAt_below hrg hbw
      have HT1 : Hid (l.take (i + 1) = l.take i ++ [k]) := by show _ = _; rw [List.take_add_one, hik]; rfl
      have hlen1 : (outK rule day (l.take i)).length + [k].length ≤ 676622540160 := by
        have h1 : (outK rule day (l.take i)).length ≤ (l.take i).length := dropAt_len (by have := idxK_ge rule day (l.take i) 0; omega)
        rw [List.length_take] at h1
        simp
        omega
      have bE := (Below.refl wr.heap.size wr).alloc (Nat.le_refl _) (.cells (kv ⟨0, 0, 0, fun _ => false⟩) 51)
      have nE := heap_alloc_new wr (.cells (kv ⟨0, 0, 0, fun _ => false⟩) 51)
      generalize hwE : wr.alloc (.cells (kv ⟨0, 0, 0, fun _ => false⟩) 51) = wE at *
      have bF := below_setRow bE (Nat.le_refl _) (kv k)
      have nF := setRow_heap _ _ _ (kv k) _ _ nE
      generalize hwF : wE.setRow wr.heap.size (kv k) = wF at *
      have hzk := kv_lit
      have y0 := (cell_of_row _ _ 0 _ _ _ nF).trans (kv_0 k)
      have y1 := (cell_of_row _ _ 1 _ _ _ nF).trans (kv_1 k)
      have y2 := (cell_of_row _ _ 2 _ _ _ nF).trans (kv_2 k)
      have c13F := (bF.block _ (lt_of_block c13)).trans c13
      have oF := own_below o13 bF
      have h13F := lt_of_block c13F
      have hszF := bF.size
      have hs13 : g13 + 1 ≤ wr.heap.size := h13
      have n5F := (bF.block _ (lt_of_block n5r)).trans n5r
      have z5F := (cell_of_row _ _ 0 _ _ _ n5F).trans rfl
      have z13 := (cell_of_row _ _ 0 _ _ _ c13F).trans rfl
      have bF13 : Below g13 wA wF := hbr.trans (bF.mono (Nat.le_of_lt h13))
      clear hik hrg bE bF o13 hnr n5r n5F
      by_cases hx : idxK rule day (l.take i) 0 = -1
      · rw [decide_eq_true hx]
        by_cases hm : k.r = rule ∧ k.d = day
        · have HM := hidv hm
          have hb1 : (k.r == rule) = true := by simp [hm.1]
          have hb2 : (k.d == day) = true := by simp [hm.2]
          have HX := hidv hx
          have HF0 : Hid (fv = .pointer none) := by
            rcases hfd with ⟨_, q⟩ | ⟨q, _⟩
            · exact q
            · rw [hit_none hx] at q
              cases q
          have oW := oF
          rw [(outK_met hx k hm).2.1] at oW
          have HOW := hidv oW
          have HBF := hidv bF13
          by_cases hv : k.v = ver
          · have hb3 : (k.v == ver) = true := by simp [hv]
            have HV := hidv hv
            obtain ⟨kr, hkr⟩ : ∃ q, k.r = q := ⟨_, rfl⟩
            obtain ⟨kd9, hkd⟩ : ∃ q, k.d = q := ⟨_, rfl⟩
            obtain ⟨kv9, hkv⟩ : ∃ q, k.v = q := ⟨_, rfl⟩
            rw [hkr] at y0 hb1
            rw [hkd] at y1 hb2
            rw [hkv] at y2 hb3
            clear hm hv hx hfd oF oW hkr hkd hkv
            go_wp2_with (first
              | (refine wpList_loadK rfl _ rfl gg (oo + i * 26) rfl k rg ?_)
              | (refine wpList_store_row rfl 51 _ _ rfl _ _ rfl rfl _ _ nE (keptSize _) (by simp [kv_size]) (kv_all _) ?_))
            go_roundw
            case rel =>
              refine ⟨i + 1, .slice pr nr cr, _, by go_num, by omega, ?_, rfl, ?_, c13F, ?_, HBF.out⟩
              · rw [HT1.out, (outK_met HX.out k HM.out).2.2, decide_eq_false (by omega)]
              · rw [HT1.out, hit_met HX.out k HM.out, (outK_met HX.out k HM.out).2.2]
                refine .inr ⟨decide_eq_true HV.out, gg, oo, rfl, ?_⟩
                rw [Int.toNat_natCast, List.length_take, Nat.min_eq_left hi]
              · rw [HT1.out, (outK_met HX.out k HM.out).1]
                exact HOW.out
            case measure => simp [intOf]; omega
          · have hb3 : (k.v == ver) = false := beq_eq_false_iff_ne.2 hv
            have HV := hidv hv
            obtain ⟨kr, hkr⟩ : ∃ q, k.r = q := ⟨_, rfl⟩
            obtain ⟨kd9, hkd⟩ : ∃ q, k.d = q := ⟨_, rfl⟩
            obtain ⟨kv9, hkv⟩ : ∃ q, k.v = q := ⟨_, rfl⟩
            rw [hkr] at y0 hb1
            rw [hkd] at y1 hb2
            rw [hkv] at y2 hb3
            clear hm hv hx hfd oF oW hkr hkd hkv
            go_wp2_with (first
              | (refine wpList_loadK rfl _ rfl gg (oo + i * 26) rfl k rg ?_)
              | (refine wpList_store_row rfl 51 _ _ rfl _ _ rfl rfl _ _ nE (keptSize _) (by simp [kv_size]) (kv_all _) ?_))
            go_roundw
            case rel =>
              refine ⟨i + 1, .slice pr nr cr, _, by go_num, by omega, ?_, rfl, ?_, c13F, ?_, HBF.out⟩
              · rw [HT1.out, (outK_met HX.out k HM.out).2.2, decide_eq_false (by omega)]
              · rw [HT1.out, hit_met HX.out k HM.out]
                exact .inl ⟨decide_eq_false HV.out, HF0.out⟩
              · rw [HT1.out, (outK_met HX.out k HM.out).1]
                exact HOW.out
            case measure => simp [intOf]; omega
        · have HM := hidv hm
          have HX := hidv hx
          have HF0 : Hid (fv = .pointer none) := by
            rcases hfd with ⟨_, q⟩ | ⟨q, _⟩
            · exact q
            · rw [hit_none hx] at q
              cases q
          by_cases hm1 : k.r = rule
          · have hm2 : ¬ k.d = day := fun e => hm ⟨hm1, e⟩
            have hb1 : (k.r == rule) = true := by simp [hm1]
            have hb2 : (k.d == day) = false := beq_eq_false_iff_ne.2 hm2
            clear hm hm1 hm2 hx hfd
            have bG := (Below.refl wF.heap.size wF).alloc (Nat.le_refl _) (.cells (kv k) 51)
            have nG := heap_alloc_new wF (.cells (kv k) 51)
            have kG := KRow.one nG
            have oG := own_below oF bG
            have hsG := Nat.le_trans hs13 (Nat.le_trans hszF bG.size)
            have c13G := (bG.block _ (lt_of_block c13F)).trans c13F
            generalize hwG : wF.alloc (.cells (kv k) 51) = wG at *
            have HKG := hidv kG
            have HOG := hidv oG
            have hbG := bF13.trans (bG.mono (Nat.le_of_lt h13F))
            have HBG := hidv hbG
            clear kG oG bG hbG
            go_wp2_with (first
              | (refine wpList_loadK rfl _ rfl gg (oo + i * 26) rfl k rg ?_)
              | (refine wpList_store_row rfl 51 _ _ rfl _ _ rfl rfl _ _ nE (keptSize _) (by simp [kv_size]) (kv_all _) ?_)
              | (refine wpList_load_row rfl 51 _ rfl _ rfl _ _ _ _ nF keptType rfl (keptSize k) ?_)
              | (refine wpList_buildK rfl _ rfl k rfl ?_
                 rw [hwG]
                 refine wpList_appendK rfl _ _ rfl (g13 + 1) (outK rule day (l.take i)) [k] _ _ rfl HOG.out rfl HKG.out hlen1 hsG ?_
                 intro v9 w9 hv9 hg9
                 obtain ⟨p9, q9, hv9e, z9, y9, c10, o10, b10⟩ := put_out hsG HOG.out c13G HBG.out hv9 hg9
                 obtain ⟨n9, hn9⟩ : ∃ n, (outK rule day (l.take i) ++ [k]).length = n := ⟨_, rfl⟩
                 rw [hn9] at hv9e
                 subst hv9e
                 have HO10 := hidv o10
                 have HC10 := hidv c10
                 have HB10 := hidv b10
                 generalize hw10 : w9.setCell ⟨g13, 0, none⟩ (.slice p9 n9 q9) = w10 at *
                 clear HOG HKG HBG hv9 hg9 c10 o10 b10 hn9))
            go_roundw
            case rel =>
              refine ⟨i + 1, .slice p9 n9 q9, fv, by go_num, by omega, ?_, rfl, ?_, HC10.out, ?_, HB10.out⟩
              · rw [HT1.out]; rw [(outK_not HX.out k HM.out).2.2]; rfl
              · rw [HT1.out]; rw [hit_none (outK_not HX.out k HM.out).2.2]; exact .inl ⟨rfl, HF0.out⟩
              · rw [HT1.out]; rw [show outK rule day (l.take i ++ [k]) = outK rule day (l.take i) ++ [k] by rw [(outK_not HX.out k HM.out).1, (outK_not HX.out k HM.out).2.1]]; exact HO10.out
            case measure => simp [intOf]; omega
          · have hb1 : (k.r == rule) = false := beq_eq_false_iff_ne.2 hm1
            clear hm hm1 hx hfd
            have bG := (Below.refl wF.heap.size wF).alloc (Nat.le_refl _) (.cells (kv k) 51)
            have nG := heap_alloc_new wF (.cells (kv k) 51)
            have kG := KRow.one nG
            have oG := own_below oF bG
            have hsG := Nat.le_trans hs13 (Nat.le_trans hszF bG.size)
            have c13G := (bG.block _ (lt_of_block c13F)).trans c13F
            generalize hwG : wF.alloc (.cells (kv k) 51) = wG at *
            have HKG := hidv kG
            have HOG := hidv oG
            have hbG := bF13.trans (bG.mono (Nat.le_of_lt h13F))
            have HBG := hidv hbG
            clear kG oG bG hbG
            go_wp2_with (first
              | (refine wpList_loadK rfl _ rfl gg (oo + i * 26) rfl k rg ?_)
              | (refine wpList_store_row rfl 51 _ _ rfl _ _ rfl rfl _ _ nE (keptSize _) (by simp [kv_size]) (kv_all _) ?_)
              | (refine wpList_load_row rfl 51 _ rfl _ rfl _ _ _ _ nF keptType rfl (keptSize k) ?_)
              | (refine wpList_buildK rfl _ rfl k rfl ?_
                 rw [hwG]
                 refine wpList_appendK rfl _ _ rfl (g13 + 1) (outK rule day (l.take i)) [k] _ _ rfl HOG.out rfl HKG.out hlen1 hsG ?_
                 intro v9 w9 hv9 hg9
                 obtain ⟨p9, q9, hv9e, z9, y9, c10, o10, b10⟩ := put_out hsG HOG.out c13G HBG.out hv9 hg9
                 obtain ⟨n9, hn9⟩ : ∃ n, (outK rule day (l.take i) ++ [k]).length = n := ⟨_, rfl⟩
                 rw [hn9] at hv9e
                 subst hv9e
                 have HO10 := hidv o10
                 have HC10 := hidv c10
                 have HB10 := hidv b10
                 generalize hw10 : w9.setCell ⟨g13, 0, none⟩ (.slice p9 n9 q9) = w10 at *
                 clear HOG HKG HBG hv9 hg9 c10 o10 b10 hn9))
            go_roundw
            case rel =>
              refine ⟨i + 1, .slice p9 n9 q9, fv, by go_num, by omega, ?_, rfl, ?_, HC10.out, ?_, HB10.out⟩
              · rw [HT1.out]; rw [(outK_not HX.out k HM.out).2.2]; rfl
              · rw [HT1.out]; rw [hit_none (outK_not HX.out k HM.out).2.2]; exact .inl ⟨rfl, HF0.out⟩
              · rw [HT1.out]; rw [show outK rule day (l.take i ++ [k]) = outK rule day (l.take i) ++ [k] by rw [(outK_not HX.out k HM.out).1, (outK_not HX.out k HM.out).2.1]]; exact HO10.out
            case measure => simp [intOf]; omega
      · rw [decide_eq_false hx]
        have HX := hidv hx
        have HFD := hidv hfd
        clear hx hfd
        have bG := (Below.refl wF.heap.size wF).alloc (Nat.le_refl _) (.cells (kv k) 51)
        have nG := heap_alloc_new wF (.cells (kv k) 51)
        have kG := KRow.one nG
        have oG := own_below oF bG
        have hsG := Nat.le_trans hs13 (Nat.le_trans hszF bG.size)
        have c13G := (bG.block _ (lt_of_block c13F)).trans c13F
        generalize hwG : wF.alloc (.cells (kv k) 51) = wG at *
        have HKG := hidv kG
        have HOG := hidv oG
        have hbG := bF13.trans (bG.mono (Nat.le_of_lt h13F))
        have HBG := hidv hbG
        clear kG oG bG hbG
        go_wp2_with (first
          | (refine wpList_loadK rfl _ rfl gg (oo + i * 26) rfl k rg ?_)
          | (refine wpList_store_row rfl 51 _ _ rfl _ _ rfl rfl _ _ nE (keptSize _) (by simp [kv_size]) (kv_all _) ?_)
          | (refine wpList_load_row rfl 51 _ rfl _ rfl _ _ _ _ nF keptType rfl (keptSize k) ?_)
          | (refine wpList_buildK rfl _ rfl k rfl ?_
             rw [hwG]
             refine wpList_appendK rfl _ _ rfl (g13 + 1) (outK rule day (l.take i)) [k] _ _ rfl HOG.out rfl HKG.out hlen1 hsG ?_
             intro v9 w9 hv9 hg9
             obtain ⟨p9, q9, hv9e, z9, y9, c10, o10, b10⟩ := put_out hsG HOG.out c13G HBG.out hv9 hg9
             obtain ⟨n9, hn9⟩ : ∃ n, (outK rule day (l.take i) ++ [k]).length = n := ⟨_, rfl⟩
             rw [hn9] at hv9e
             subst hv9e
             have HO10 := hidv o10
             have HC10 := hidv c10
             have HB10 := hidv b10
             generalize hw10 : w9.setCell ⟨g13, 0, none⟩ (.slice p9 n9 q9) = w10 at *
             clear HOG HKG HBG hv9 hg9 c10 o10 b10 hn9))
        go_roundw
        case rel =>
          refine ⟨i + 1, .slice p9 n9 q9, fv, by go_num, by omega, ?_, rfl, ?_, HC10.out, ?_, HB10.out⟩
          · rw [HT1.out]; rw [(outK_late HX.out k).2, decide_eq_false HX.out]
          · rw [HT1.out]; rw [(outK_late HX.out k).2, hit_late HX.out]; exact HFD.out
          · rw [HT1.out]; rw [(outK_late HX.out k).1]; exact HO10.out
        case measure => simp [intOf]; omega
    · have hil' : ¬ (i : Int) < (l.length : Int) := by omega
      have ei : i = l.length := by omega
      subst ei
      rw [List.take_length] at hfd o13
      rcases hfd with ⟨hh, hfv0⟩ | ⟨hh, hfp⟩
      · subst hfv0
        obtain ⟨er, her⟩ : ∃ q, (runE cs rule day).1 = q := ⟨_, rfl⟩
        obtain ⟨at_, hat⟩ : ∃ q : Int, ((runE cs rule day).2 : Int) = q := ⟨_, rfl⟩
        obtain ⟨f, hf⟩ : ∃ q, runM cs rule day = q := ⟨_, rfl⟩
        obtain ⟨sn, hsn⟩ : ∃ q : Int, (runN cs rule day : Int) = q := ⟨_, rfl⟩
        have c2 := rrun_any cs lv rule day wr (HIN.out.below hbw)
        rw [her, hat, hf, hsn] at c2
        have HRE : Hid ((runE cs rule day).1 = er ∧ ((runE cs rule day).2 : Int) = at_ ∧ runM cs rule day = f) := ⟨her, hat, hf⟩
        have HHH := hidv hh
        clear her hat hf hsn hh z5r n5r
        go_wp2_with fail
        refine c2.mono ?_
        rintro e w3 ⟨rfl, b3⟩
        have hb13 := hbr.trans (b3.mono (Nat.le_of_lt h13))
        have c13a := (b3.block _ (lt_of_block c13)).trans c13
        have o13a := own_below o13 b3
        have h13a := lt_of_block c13a
        have bX : Below w3.heap.size w3 ((w3.alloc (.cells (mv fun _ => false) 25)).alloc (.cells #[.int .i64 0, .int .i64 0] 28)) := ((Below.refl _ _).alloc (Nat.le_refl _) _).alloc (by simp) _
        have q15 : ((w3.alloc (.cells (mv fun _ => false) 25)).alloc (.cells #[.int .i64 0, .int .i64 0] 28)).heap[w3.heap.size]? = some (.cells (mv fun _ => false) 25 (0, 0)) := by (repeat (first | refine blk_old _ _ _ (by simp only [size_alloc]; omega) ?_ | exact blk_new _ _ _ (by first | rfl | simp only [size_alloc])))
        have q17 : ((w3.alloc (.cells (mv fun _ => false) 25)).alloc (.cells #[.int .i64 0, .int .i64 0] 28)).heap[w3.heap.size + 1]? = some (.cells #[.int .i64 0, .int .i64 0] 28 (0, 0)) := by (repeat (first | refine blk_old _ _ _ (by simp only [size_alloc]; omega) ?_ | exact blk_new _ _ _ (by first | rfl | simp only [size_alloc])))
        generalize hwX : (w3.alloc (.cells (mv fun _ => false) 25)).alloc (.cells #[.int .i64 0, .int .i64 0] 28) = wX at *
        have r15 := setRow_heap _ _ _ (mv f) _ _ q15
        have r17 := (setRow_other wX w3.heap.size (w3.heap.size + 1) (mv f) (by omega)).trans q17
        have bY := below_setRow bX (Nat.le_refl _) (mv f)
        generalize hwY : wX.setRow w3.heap.size (mv f) = wY at *
        have n18 := (setRow_other wY (w3.heap.size + 1) w3.heap.size #[.int .i64 er, .int .i64 at_] (by omega)).trans r15
        have n20 := setRow_heap _ _ _ #[.int .i64 er, .int .i64 at_] _ _ r17
        have bZ := below_setRow bY (by omega : w3.heap.size ≤ w3.heap.size + 1) #[.int .i64 er, .int .i64 at_]
        generalize hwZ : wY.setRow (w3.heap.size + 1) #[.int .i64 er, .int .i64 at_] = w2 at *
        have hb14 := hb13.trans (bZ.mono (Nat.le_of_lt h13a))
        have z20 := (cell_of_row _ _ 0 _ _ _ n20).trans rfl
        have c13b := (bZ.block _ (lt_of_block c13a)).trans c13a
        have o13b := own_below o13a bZ
        have m10 := (hb14.block _ (by omega : w.heap.size + 1 < g13)).trans HN10.out
        have m11 := (hb14.block _ (by omega : w.heap.size + 2 < g13)).trans HN11.out
        have m12 := (hb14.block _ (by omega : w.heap.size + 3 < g13)).trans HN12.out
        have HBW := hidv (HBA.out.trans (hb14.mono (by omega)) : Below w.heap.size w w2)
        have HO := hidv o13b
        have hg3w := h13a
        clear c2 b3 bX bY bZ c13a o13a c13 o13 hb13 h13
        by_cases he : er = 0
        · subst he
          obtain ⟨rn, hrn⟩ : ∃ q, IntKind.i64.wrap (runs + 1) = q := ⟨_, rfl⟩
          obtain ⟨RR, hRR⟩ : ∃ q, lastN (outK rule day l ++ [(⟨rule, day, ver, f⟩ : Kp)]) = q := ⟨_, rfl⟩
          have hGe : G = ⟨f, RR, rn, 0, 0⟩ := by
            rw [← HGG.out, ← hRR, ← hrn]
            unfold getP
            rw [if_neg (by rw [HHH.out]; decide), if_neg (by rw [HRE.out.1]; decide), HRE.out.2.2]
            rfl
          have hat0 : at_ = 0 := by
            rw [← HRE.out.2.1, runE_at0 HRE.out.1]
            rfl
          subst hGe
          subst hat0
          have HRR := hidv hRR
          clear HRE HGG HHH hRR
          -- one more run
          have c13c : (w2.setCell ⟨g13, 1, none⟩ (.int .i64 rn)).heap[g13]? = some (.cells #[.slice pr nr cr, .int .i64 rn] 40 (0, 0)) := heap_setCell_same w2 g13 1 _ _ _ c13b
          have z131 := (cell_of_row _ _ 1 _ _ _ c13b).trans rfl
          have y131 := frozen_of_row _ _ 1 _ _ c13b
          have o13c : (w2.setCell ⟨g13, 1, none⟩ (.int .i64 rn)).ownsRow (g13 + 1) 51 26 (.slice pr nr cr) (outK rule day l).length (flatK (outK rule day l)) := HO.out.kept (row := some g13) ⟨rfl, rfl, rfl, by simp, fun q hq hr => heap_setCell_other w2 ⟨g13, 1, none⟩ q _ fun e => hr (congrArg some e)⟩ (.inr fun e => by have := (HO.out.lt g13 e).1; omega)
          have n18c : (w2.setCell ⟨g13, 1, none⟩ (.int .i64 rn)).heap[w3.heap.size]? = some (.cells (mv f) 25 (0, 0)) := (heap_setCell_other w2 ⟨g13, 1, none⟩ _ _ (by show w3.heap.size ≠ g13; omega)).trans n18
          have b5 : Below g13 wA (w2.setCell ⟨g13, 1, none⟩ (.int .i64 rn)) := hb14.setCell (p := ⟨g13, 1, none⟩) (Nat.le_refl _) _
          generalize hw5 : w2.setCell ⟨g13, 1, none⟩ (.int .i64 rn) = w5 at *
          have z130 := (cell_of_row _ _ 0 _ _ _ c13c).trans rfl
          have h135 := lt_of_block c13c
          have h185 := lt_of_block n18c
          have bG := (Below.refl w5.heap.size w5).alloc (Nat.le_refl _) (.cells (kv ⟨rule, day, ver, f⟩) 51)
          have nG := heap_alloc_new w5 (.cells (kv ⟨rule, day, ver, f⟩) 51)
          have HKG := hidv (KRow.one nG)
          have HOG := hidv (own_below o13c bG)
          have c13G := (bG.block _ (lt_of_block c13c)).trans c13c
          have n18G := (bG.block _ (lt_of_block n18c)).trans n18c
          have HBG := hidv (b5.trans (bG.mono (Nat.le_of_lt h135)))
          have hsG : g13 + 1 ≤ (w5.alloc (.cells (kv ⟨rule, day, ver, f⟩) 51)).heap.size := Nat.le_trans h135 bG.size
          generalize hwG : w5.alloc (.cells (kv ⟨rule, day, ver, f⟩) 51) = wG at *
          have hlen1 : (outK rule day l).length + [(⟨rule, day, ver, f⟩ : Kp)].length ≤ 676622540160 := by
            have h1 : (outK rule day l).length ≤ l.length := dropAt_len (by have := idxK_ge rule day l 0; omega)
            simp
            omega
          clear bG nG o13c b5 HO
          go_wp2_with (first
            | (refine wpList_store_row rfl 28 _ _ rfl _ _ rfl rfl _ _ r17 (by kernel_rfl) (by simp) (by simp [Value.oneCell']) ?_)
            | (refine wpList_store_row rfl 25 _ _ rfl _ _ rfl rfl _ _ q15 (maskSize _) (by simp [mv_size]) (mv_all _) ?_)
            | (refine wpList_load_row rfl 25 _ rfl _ rfl _ _ _ _ n18c maskType rfl (maskSize _) ?_
               refine wpList_buildKept rfl _ _ _ _ rfl rule day ver f rfl rfl rfl rfl ?_
               refine wpList_buildK rfl _ rfl ⟨rule, day, ver, f⟩ rfl ?_
               rw [hwG]
               refine wpList_appendK rfl _ _ rfl (g13 + 1) (outK rule day l) [⟨rule, day, ver, f⟩] _ _ rfl HOG.out rfl HKG.out hlen1 hsG ?_
               intro v9 w9 hv9 hg9
               obtain ⟨p9, q9, hv9e, z9, y9, c10, o10, b10⟩ := put_out hsG HOG.out c13G HBG.out hv9 hg9
               have n189 := (hg9.block _ (Nat.lt_of_lt_of_le h185 (by rw [← hwG]; simp)) (fun e => own_neK HOG.out n18G (by decide) e)).trans n18G
               have n1810 := (heap_setCell_other w9 ⟨g13, 0, none⟩ w3.heap.size v9 (by show w3.heap.size ≠ g13; omega)).trans n189
               obtain ⟨n9, hn9⟩ : ∃ q, (outK rule day l ++ [(⟨rule, day, ver, f⟩ : Kp)]).length = q := ⟨_, rfl⟩
               rw [hn9] at hv9e
               subst hv9e
               have HK10 := hidv (KRow.of_own o10)
               have HC10 := hidv c10
               have HB10 := hidv b10
               have HM10 := hidv n1810
               generalize hw10 : w9.setCell ⟨g13, 0, none⟩ (.slice p9 n9 q9) = w10 at *
               clear HOG HKG HBG hv9 hg9 c10 o10 b10 hn9 n189 n1810))
          obtain ⟨g18, hg18⟩ : ∃ q, w3.heap.size = q := ⟨_, rfl⟩
          have h1318 : g13 < g18 := by omega
          have HM18 : Hid (w10.heap[g18]? = some (.cells (mv f) 25 (0, 0))) := by show _ = _; rw [← hg18]; exact HM10.out
          clear hwX hwY hwZ q15 q17 r15 r17 n18 z20 hz c13b HBW m10 m11 m12 hb14 n20 hw5 hwG hw10 HM10 c13c n18c c13G n18G z130 z131 y131 z9 y9 hlen1 hsG h135 h185
          simp only [hg18]
          go_loopw [107] (fun _ wq => ∃ (L : List Kp) (v : Value), wq.heap[g13]? = some (.cells #[v, .int .i64 rn] 40 (0, 0)) ∧ KRow (g13 + 1) wq v L ∧ lastN L = RR ∧ Below g13 wA wq ∧ wq.heap[g18]? = some (.cells (mv f) 25 (0, 0)) ∧ True) (fun _ wq => slLen ((wq.cell? ⟨g13, 0, none⟩).getD undef))
          case atStart => exact ⟨_, _, HC10.out, HK10.out, HRR.out, HB10.out, HM18.out, trivial⟩
          case round =>
            clear HC10 HK10 HRR HB10 HM18
            obtain ⟨L, v, c1, k1, e1, b1, m1, _⟩ := hrel
            obtain ⟨pv, cvv, hv, hlv, hmv, _⟩ := id k1
            subst hv
            have z0 := (cell_of_row _ _ 0 _ _ _ c1).trans rfl
            have hcv : cvv ≤ 9223372036854775807 := by unfold maxLen at hmv; omega
            by_cases h64 : 64 < L.length
            · have h64' : (64 : Int) < (L.length : Int) := by omega
              have y0 := frozen_of_row _ _ 0 _ _ c1
              have hc1 : ¬ cvv = 1 := by omega
              have h1l : (1 : Int) ≤ (L.length : Int) := by omega
              have h1n : 1 ≤ L.length := by omega
              have h1c : 1 ≤ cvv := by omega
              have k2 : KRow (g13 + 1) wr (.slice (Option.map (fun x => x.add 26) pv) (L.length - 1) (cvv - 1)) (L.drop 1) := by
                have := k1.drop 1 (by omega)
                rw [if_neg hc1] at this
                exact this
              have c2 : (wr.setCell ⟨g13, 0, none⟩ (.slice (Option.map (fun x => x.add 26) pv) (L.length - 1) (cvv - 1))).heap[g13]? = some (.cells #[.slice (Option.map (fun x => x.add 26) pv) (L.length - 1) (cvv - 1), .int .i64 rn] 40 (0, 0)) := heap_setCell_same wr g13 0 _ _ _ c1
              have HK2 := hidv (krow_cellset k2 (Nat.lt_succ_self g13) 0 (.slice (Option.map (fun x => x.add 26) pv) (L.length - 1) (cvv - 1)))
              have HE2 : Hid (lastN (L.drop 1) = RR) := by
                show _ = _
                rw [← e1]
                unfold lastN
                rw [List.drop_drop, List.length_drop]
                congr 1
                omega
              have HC2 := hidv c2
              have HZ2 : Hid (∀ x : Value, (wr.setCell ⟨g13, 0, none⟩ x).cell? ⟨g13, 0, none⟩ = some x) := fun x => (cell_of_row _ _ 0 _ _ _ (heap_setCell_same wr g13 0 _ _ x c1)).trans rfl
              have HZ0 := hidv z0
              have HB2 := hidv (b1.setCell (p := ⟨g13, 0, none⟩) (Nat.le_refl _) (.slice (Option.map (fun x => x.add 26) pv) (L.length - 1) (cvv - 1)))
              have HM2 := hidv ((heap_setCell_other wr ⟨g13, 0, none⟩ g18 (.slice (Option.map (fun x => x.add 26) pv) (L.length - 1) (cvv - 1)) (by show g18 ≠ g13; omega)).trans m1)
              clear c1 k1 e1 b1 m1 k2 c2
              go_wp2_with fail
              go_roundw
              case rel => exact ⟨_, _, HC2.out, HK2.out, HE2.out, HB2.out, HM2.out, trivial⟩
              case measure => rw [HZ2.out, HZ0.out]; simp [slLen]; omega
            · have h64' : ¬ (64 : Int) < (L.length : Int) := by omega
              have eL : L = RR := by
                rw [← e1]
                unfold lastN
                rw [show L.length - 64 = 0 by omega]
                rfl
              subst eL
              have m10 := (b1.block _ (by omega : w.heap.size + 1 < g13)).trans HN10.out
              have m11 := (b1.block _ (by omega : w.heap.size + 2 < g13)).trans HN11.out
              have m12 := (b1.block _ (by omega : w.heap.size + 3 < g13)).trans HN12.out
              have HBW := hidv (HBA.out.trans (b1.mono (by omega)) : Below w.heap.size w wr)
              have hszz := lt_of_block c1
              have HKK := hidv k1
              have HM18 := hidv m1
              have c13z := c1
              obtain ⟨nL, hnL⟩ : ∃ q, L.length = q := ⟨_, rfl⟩
              clear e1 b1 k1 c1
              go_wp2_with fail
              clear z0
              refine wp_region_flow (by kernel_rfl) (by kernel_rfl) (by kernel_rfl) (by kernel_rfl) (fun LL _ W => GJ w wr (w.heap.size + 1) (g13 + 1) f L rn 0 0 3 4 5 LL W ∧ KRow (g13 + 1) W (.slice pv L.length cvv) L ∧ W.heap[g18]? = some (.cells (mv f) 25 (0, 0))) (gsp [.agg (mv f), undef, .agg #[.int .i64 0, .int .i64 0]] (g13 + 1) [] L rn 1000 1001 1) ?_ ?_ ?_
              · intro LL hL
                refine ⟨⟨HBW.out.trans ((Below.refl wr.heap.size wr).drew.mono HBW.out.size), fun _ _ _ _ _ => rfl, hszz, by omega, by omega, fun _ => m10, fun e => (by rw [hL 3 (by decide)] at e; cases e), fun _ => m11, fun e => (by rw [hL 4 (by decide)] at e; cases e), fun _ => m12, fun e => (by rw [hL 5 (by decide)] at e; cases e)⟩, HKK.out.later (Below.refl wr.heap.size wr).drew, HM18.out⟩
              · intro i' o' LL A W2 ho hLi hdep hJR hdef hkept hhas
                clear hdef
                obtain ⟨hJ, hR, hM18⟩ := hJR
                match i', ho, hLi with
                | 0, ho, hLi =>
                  cases Option.some.inj ho
                  have h18 : A.eval (.tmp 18) = .pointer (some ⟨g18, 0, none⟩) := hkept 18 (fun j p hp _ => nd (by kernel_rfl) j p hp)
                  refine wpOp_step rfl (fun K hK => ?_)
                  show Oper.wp _ _ _ _ _ _
                  refine wp_load_row 25 _ rfl g18 h18 _ _ _ _ hM18 maskType rfl (maskSize _) ?_
                  exact hK _ _ ⟨_, rfl, fun _ => gsp_mk (by decide) (by decide) (by decide), fun _ _ _ h => h, hJ.same 0 (by decide) (by decide) (by decide), hR, hM18⟩
                | 1, ho, hLi =>
                  cases Option.some.inj ho
                  have h13 : A.eval (.tmp 13) = .pointer (some ⟨g13, 0, none⟩) := hkept 13 (fun j p hp _ => nd (by kernel_rfl) j p hp)
                  have b13 := (hJ.low g13 (by omega) (by omega) (by omega) (by omega)).trans c13z
                  refine wpOp_step rfl (fun K hK => ?_)
                  show Oper.wp _ _ _ _ _ _
                  refine wp_load_row 40 _ rfl g13 h13 _ _ _ _ b13 cacheType rfl cacheSize ?_
                  exact hK _ _ ⟨_, rfl, fun _ => (gsp_2 (by decide) (by decide)).2 ⟨_, rfl, hR⟩, fun _ _ _ h => h, hJ.same 1 (by decide) (by decide) (by decide), hR, hM18⟩
                | 2, ho, hLi =>
                  cases Option.some.inj ho
                  refine wpOp_step rfl (fun K hK => ?_)
                  go_simp
                  exact hK _ _ ⟨_, rfl, fun _ => gsp_mk (by decide) (by decide) (by decide), fun _ _ _ h => h, hJ.same 2 (by decide) (by decide) (by decide), hR, hM18⟩
                | 3, ho, hLi =>
                  cases Option.some.inj ho
                  have h10 : A.eval (.tmp 10) = .pointer (some ⟨w.heap.size + 1, 0, none⟩) := hkept 10 (fun j p hp _ => nd (by kernel_rfl) j p hp)
                  have h115 : A.eval (.tmp 115) = .agg (mv f) := gsp_at (hhas 0 _ rfl (hdep ⟨0, .data⟩ (by simp) rfl) 115 rfl) (by decide) (by decide) (by decide)
                  refine wpOp_step rfl (fun K hK => ?_)
                  show Oper.wp _ _ _ _ _ _
                  refine wp_store_row 25 _ _ rfl _ _ h10 h115 _ _ (hJ.m0 hLi) (maskSize _) (by simp [mv_size]) (mv_all _) ?_
                  exact hK _ _ ⟨undef, rfl, fun e => absurd rfl e, fun j u _ h => gsp_mono (fun v l hv => hv.set (by omega) _) h, hJ.mask hLi (by decide) (by decide), hR.set (by omega) _, (setRow_other W2 _ g18 _ (by omega)).trans hM18⟩
                | 4, ho, hLi =>
                  cases Option.some.inj ho
                  have h11 : A.eval (.tmp 11) = .pointer (some ⟨w.heap.size + 1 + 1, 0, none⟩) := hkept 11 (fun j p hp _ => nd (by kernel_rfl) j p hp)
                  obtain ⟨v9, e9, k9⟩ := (gsp_2 (by decide) (by decide)).1 (hhas 1 _ rfl (hdep ⟨1, .data⟩ (by simp) rfl) 116 rfl)
                  have h116 : A.eval (.tmp 116) = .agg #[v9, .int .i64 rn] := e9
                  obtain ⟨p9, c9, hv9, _⟩ := id k9
                  subst hv9
                  refine wpOp_step rfl (fun K hK => ?_)
                  show Oper.wp _ _ _ _ _ _
                  refine wp_store_row 40 _ _ rfl _ _ h11 h116 _ _ (hJ.c0 hLi) cacheSize (by simp) (by simp [Value.oneCell']) ?_
                  exact hK _ _ ⟨undef, rfl, fun e => absurd rfl e, fun j u _ h => gsp_mono (fun v l hv => hv.set (by omega) _) h, hJ.cache hLi (by decide) (by decide) k9, hR.set (by omega) _, (setRow_other W2 _ g18 _ (by omega)).trans hM18⟩
                | 5, ho, hLi =>
                  cases Option.some.inj ho
                  have h12 : A.eval (.tmp 12) = .pointer (some ⟨w.heap.size + 1 + 2, 0, none⟩) := hkept 12 (fun j p hp _ => nd (by kernel_rfl) j p hp)
                  have h117 : A.eval (.tmp 117) = .agg #[.int .i64 0, .int .i64 0] := gsp_at (hhas 2 _ rfl (hdep ⟨2, .data⟩ (by simp) rfl) 117 rfl) (by decide) (by decide) (by decide)
                  refine wpOp_step rfl (fun K hK => ?_)
                  show Oper.wp _ _ _ _ _ _
                  refine wp_store_row 28 _ _ rfl _ _ h12 h117 _ _ (hJ.f0 hLi) faultSize9 (by simp) (by simp [Value.oneCell']) ?_
                  exact hK _ _ ⟨undef, rfl, fun e => absurd rfl e, fun j u _ h => gsp_mono (fun v l hv => hv.set (by omega) _) h, hJ.fault hLi (by decide) (by decide), hR.set (by omega) _, (setRow_other W2 _ g18 _ (by omega)).trans hM18⟩
                | kk + 6, ho, hLi => simp at ho
              · intro LL A W2 hL hJR hdef hsz hkept hhas
                have hJ := hJR.1
                have hM := hJ.m1 (hL 3 (by decide))
                obtain ⟨v9, hC, hK9⟩ := hJ.c1 (hL 4 (by decide))
                have hF := hJ.f1 (hL 5 (by decide))
                have a10 := hkept 10 (fun j p hp => nd (by kernel_rfl) j p hp)
                have a11 := hkept 11 (fun j p hp => nd (by kernel_rfl) j p hp)
                have a12 := hkept 12 (fun j p hp => nd (by kernel_rfl) j p hp)
                have hb9 := hJ.bel
                clear hhas hkept hL hJ hJR
                go_wp2_with fail
                exact rget_post (w.heap.size + 1) f L rn 0 0 v9 hdef a10 a11 a12 hM hC hF (hK9.low (by omega)) hb9
        · have hbe : (er == 0) = false := beq_eq_false_iff_ne.2 he
          have hbn : (er != 0) = true := by simpa using he
          have hGe : G = ⟨fun _ => false, [], 0, er, (runE cs rule day).2⟩ := by
            rw [← HGG.out]
            unfold getP
            rw [if_neg (by rw [HHH.out]; decide), if_pos (by rw [HRE.out.1]; exact he), HRE.out.1]
          have hae := HRE.out.2.1
          generalize (runE cs rule day).2 = an at *
          subst hGe
          subst hae
          clear HRE HGG he HHH
          go_wp2_with (first
            | (refine wpList_store_row rfl 25 _ _ rfl _ _ rfl rfl _ _ q15 (maskSize _) (by simp [mv_size]) (mv_all _) ?_)
            | (refine wpList_store_row rfl 28 _ _ rfl _ _ rfl rfl _ _ r17 (by kernel_rfl) (by simp) (by simp [Value.oneCell']) ?_))
          obtain ⟨g20, hg20e⟩ : ∃ q, w3.heap.size + 1 = q := ⟨_, rfl⟩
          simp only [hg20e] at n20 ⊢
          have hg20 : g20 < w2.heap.size := lt_of_block n20
          have hgw : w.heap.size + 5 < g20 := by omega
          have hgz : w.heap.size + 4 < w2.heap.size := by omega
          clear hwX hwY hwZ q15 q17 r15 r17 n18 z20 hz c13b HO
          refine wp_region_flow (by kernel_rfl) (by kernel_rfl) (by kernel_rfl) (by kernel_rfl) (fun L _ W => GJ w w2 (w.heap.size + 1) w2.heap.size (fun _ => false) [] 0 er (an : Int) 3 4 5 L W) (gsp [.agg (mv fun _ => false), undef, .agg #[.int .i64 er, .int .i64 (an : Int)]] w2.heap.size [] [] 0 1000 1001 1) ?_ ?_ ?_
          · intro L hL
            exact ⟨(HBW.out).trans ((Below.refl w2.heap.size w2).drew.mono HBW.out.size), fun _ _ _ _ _ => rfl, Nat.le_refl _, by omega, by omega, fun _ => m10, fun e => (by rw [hL 3 (by decide)] at e; cases e), fun _ => m11, fun e => (by rw [hL 4 (by decide)] at e; cases e), fun _ => m12, fun e => (by rw [hL 5 (by decide)] at e; cases e)⟩
          · intro i' o' L A W2 ho hLi hdep hJ hdef hkept hhas
            clear hdef
            match i', ho, hLi with
            | 0, ho, hLi =>
              cases Option.some.inj ho
              refine wpOp_step rfl (fun K hK => ?_)
              go_simp
              exact hK _ _ ⟨_, rfl, fun _ => gsp_mk (by decide) (by decide) (by decide), fun _ _ _ h => h, hJ.same 0 (by decide) (by decide) (by decide)⟩
            | 1, ho, hLi =>
              cases Option.some.inj ho
              refine wpOp_step rfl (fun K hK => ?_)
              go_simp
              exact hK _ _ ⟨_, rfl, fun _ => (gsp_2 (by decide) (by decide)).2 ⟨_, rfl, KRow.none _ _ _ _ (Nat.zero_le _)⟩, fun _ _ _ h => h, hJ.same 1 (by decide) (by decide) (by decide)⟩
            | 2, ho, hLi =>
              cases Option.some.inj ho
              have h20 : A.eval (.tmp 20) = .pointer (some ⟨g20, 0, none⟩) := hkept 20 (fun j p hp _ => nd (by kernel_rfl) j p hp)
              have b20 := (hJ.low g20 hg20 (by omega) (by omega) (by omega)).trans n20
              refine wpOp_step rfl (fun K hK => ?_)
              show Oper.wp _ _ _ _ _ _
              refine wp_load_row 28 _ rfl g20 h20 _ _ _ _ b20 faultTypeV rfl faultSize9 ?_
              exact hK _ _ ⟨_, rfl, fun _ => gsp_mk (by decide) (by decide) (by decide), fun _ _ _ h => h, hJ.same 2 (by decide) (by decide) (by decide)⟩
            | 3, ho, hLi =>
              cases Option.some.inj ho
              have h10 : A.eval (.tmp 10) = .pointer (some ⟨w.heap.size + 1, 0, none⟩) := hkept 10 (fun j p hp _ => nd (by kernel_rfl) j p hp)
              have h90 : A.eval (.tmp 90) = .agg (mv fun _ => false) := gsp_at (hhas 0 _ rfl (hdep ⟨0, .data⟩ (by simp) rfl) 90 rfl) (by decide) (by decide) (by decide)
              refine wpOp_step rfl (fun K hK => ?_)
              show Oper.wp _ _ _ _ _ _
              refine wp_store_row 25 _ _ rfl _ _ h10 h90 _ _ (hJ.m0 hLi) (maskSize _) (by simp [mv_size]) (mv_all _) ?_
              exact hK _ _ ⟨undef, rfl, fun e => absurd rfl e, fun j u _ h => gsp_mono (fun v l hv => hv.set (by omega) _) h, hJ.mask hLi (by decide) (by decide)⟩
            | 4, ho, hLi =>
              cases Option.some.inj ho
              have h11 : A.eval (.tmp 11) = .pointer (some ⟨w.heap.size + 1 + 1, 0, none⟩) := hkept 11 (fun j p hp _ => nd (by kernel_rfl) j p hp)
              obtain ⟨v9, e9, k9⟩ := (gsp_2 (by decide) (by decide)).1 (hhas 1 _ rfl (hdep ⟨1, .data⟩ (by simp) rfl) 91 rfl)
              have h91 : A.eval (.tmp 91) = .agg #[v9, .int .i64 0] := e9
              obtain ⟨p9, c9, hv9, _⟩ := id k9
              subst hv9
              refine wpOp_step rfl (fun K hK => ?_)
              show Oper.wp _ _ _ _ _ _
              refine wp_store_row 40 _ _ rfl _ _ h11 h91 _ _ (hJ.c0 hLi) cacheSize (by simp) (by simp [Value.oneCell']) ?_
              exact hK _ _ ⟨undef, rfl, fun e => absurd rfl e, fun j u _ h => gsp_mono (fun v l hv => hv.set (by omega) _) h, hJ.cache hLi (by decide) (by decide) k9⟩
            | 5, ho, hLi =>
              cases Option.some.inj ho
              have h12 : A.eval (.tmp 12) = .pointer (some ⟨w.heap.size + 1 + 2, 0, none⟩) := hkept 12 (fun j p hp _ => nd (by kernel_rfl) j p hp)
              have h92 : A.eval (.tmp 92) = .agg #[.int .i64 er, .int .i64 (an : Int)] := gsp_at (hhas 2 _ rfl (hdep ⟨2, .data⟩ (by simp) rfl) 92 rfl) (by decide) (by decide) (by decide)
              refine wpOp_step rfl (fun K hK => ?_)
              show Oper.wp _ _ _ _ _ _
              refine wp_store_row 28 _ _ rfl _ _ h12 h92 _ _ (hJ.f0 hLi) faultSize9 (by simp) (by simp [Value.oneCell']) ?_
              exact hK _ _ ⟨undef, rfl, fun e => absurd rfl e, fun j u _ h => gsp_mono (fun v l hv => hv.set (by omega) _) h, hJ.fault hLi (by decide) (by decide)⟩
            | kk + 6, ho, hLi => simp at ho
          · intro L A W2 hL hJ hdef hsz hkept hhas
            have hM := hJ.m1 (hL 3 (by decide))
            obtain ⟨v9, hC, hK9⟩ := hJ.c1 (hL 4 (by decide))
            have hF := hJ.f1 (hL 5 (by decide))
            have a10 := hkept 10 (fun j p hp => nd (by kernel_rfl) j p hp)
            have a11 := hkept 11 (fun j p hp => nd (by kernel_rfl) j p hp)
            have a12 := hkept 12 (fun j p hp => nd (by kernel_rfl) j p hp)
            have hb9 := hJ.bel
            have hsz9 := hb9.size
            have hb1 := hJ.b1
            have hb0 := hJ.b0
            clear hhas hkept hL hJ
            go_wp2_with fail
            exact rget_post (w.heap.size + 1) (fun _ => false) [] 0 er (an : Int) v9 hdef a10 a11 a12 hM hC hF (hK9.low (by omega)) hb9
      · obtain ⟨n, k, en, hnk, _, _, _, hgd⟩ := hit_at hh
        obtain ⟨gg, oo, hpe, hfv⟩ := hfp
        rw [en, Int.toNat_natCast] at hfv
        subst hfv
        obtain ⟨g2, o2, hpe2, hrg⟩ := HK.out.at hnk
        rw [hpe] at hpe2
        cases hpe2
        subst hpe
        have rg := rangeAt_below hrg hbw
        have HG : Hid (getP cs l runs ver rule day = ⟨k.m, outK rule day l ++ [k], runs, 0, 0⟩) := by
          show _ = _
          unfold getP
          rw [if_pos hh, hgd]
          rfl
        have hGe := HGG.out.symm.trans HG.out
        subst hGe
        have z13 := (cell_of_row _ _ 0 _ _ _ c13).trans rfl
        have hlo : (outK rule day l).length ≤ 676622540150 := Nat.le_trans (dropAt_len (by have := idxK_ge rule day l 0; omega)) hl
        have hs13 : g13 + 1 ≤ wr.heap.size := h13
        have HO := hidv o13
        have HBR := hidv hbr
        clear hh hnk hgd en HG HGG o13 z5r n5r hbr
        go_wp2_with fail
        refine wp_region_lastT (OneJ wr (Value.slice pr nr cr).ownBlock) (osp [.pointer (some ⟨g13, 0, none⟩), .slice pr nr cr, .pointer (some ⟨gg, oo + n * 26, none⟩), .pointer (some ⟨gg, oo + n * 26, none⟩), .agg (kv k), undef, undef, .pointer (some ⟨g13, 0, none⟩)] (g13 + 1) (outK rule day l).length (flatK (outK rule day l)) k) (fun L _ => OneJ.start rfl) (by kernel_rfl) (by kernel_rfl) (by kernel_rfl) (by kernel_rfl) 8 (by kernel_rfl) (by kernel_rfl) [65, 66, 67, 68, 69, 70, 71, 72] (by kernel_rfl) (by kernel_rfl) ?_ ?_
        · intro i' s o' L A W2 ho hs hLi hdep hc hJ hkept hhas
          match i', ho, hs, hLi with
          | 0, ho, hs, hLi =>
            cases Option.some.inj ho
            cases Option.some.inj hs
            have h13 : A.tmps[13]?.getD undef = .pointer (some ⟨g13, 0, none⟩) := (gd A 13).trans (hkept 13 (by kernel_rfl))
            refine wpOp_step rfl (fun K hK => ?_)
            go_simp
            exact hK _ _ ⟨_, rfl, osp_mk (by decide) (by decide), hJ.same 0 (by decide), fun j u _ _ _ h => osp_keep (fun e => (Bool.or_eq_false_iff.1 e).2) (Below.refl _ _) j u h⟩
          | 1, ho, hs, hLi =>
            cases Option.some.inj ho
            cases Option.some.inj hs
            have no6 : L 6 = false := by
              cases h : L 6 with
              | false => rfl
              | true =>
                have q1 := hc 6 _ rfl h ⟨1, .data⟩ (by simp) rfl
                rw [hLi] at q1; cases q1
            have h65 : A.tmps[65]?.getD undef = .pointer (some ⟨g13, 0, none⟩) := (gd A 65).trans (osp_at (hhas 0 65 rfl (hdep ⟨0, .data⟩ (by simp) rfl)) (by decide) (by decide))
            have zz := (hJ.bel no6).cell (block_lt_of_cell z13)
            rw [z13] at zz
            refine wpOp_step rfl (fun K hK => ?_)
            go_simp
            exact hK _ _ ⟨_, rfl, osp_mk (by decide) (by decide), hJ.same 1 (by decide), fun j u _ _ _ h => osp_keep (fun e => (Bool.or_eq_false_iff.1 e).2) (Below.refl _ _) j u h⟩
          | 2, ho, hs, hLi =>
            cases Option.some.inj ho
            cases Option.some.inj hs
            have h14 : A.tmps[14]?.getD undef = .pointer (some ⟨gg, oo + n * 26, none⟩) := (gd A 14).trans (hkept 14 (by kernel_rfl))
            refine wpOp_step rfl (fun K hK => ?_)
            go_simp
            exact hK _ _ ⟨_, rfl, osp_mk (by decide) (by decide), hJ.same 2 (by decide), fun j u _ _ _ h => osp_keep (fun e => (Bool.or_eq_false_iff.1 e).2) (Below.refl _ _) j u h⟩
          | 3, ho, hs, hLi =>
            cases Option.some.inj ho
            cases Option.some.inj hs
            have h67 : A.tmps[67]?.getD undef = .pointer (some ⟨gg, oo + n * 26, none⟩) := (gd A 67).trans (osp_at (hhas 2 67 rfl (hdep ⟨2, .data⟩ (by simp) rfl)) (by decide) (by decide))
            refine wpOp_step rfl (fun K hK => ?_)
            go_simp
            exact hK _ _ ⟨_, rfl, osp_mk (by decide) (by decide), hJ.same 3 (by decide), fun j u _ _ _ h => osp_keep (fun e => (Bool.or_eq_false_iff.1 e).2) (Below.refl _ _) j u h⟩
          | 4, ho, hs, hLi =>
            cases Option.some.inj ho
            cases Option.some.inj hs
            have no6 : L 6 = false := by
              cases h : L 6 with
              | false => rfl
              | true =>
                have q5 := hc 6 _ rfl h ⟨5, .data⟩ (by simp) rfl
                have q4 := hc 5 _ rfl q5 ⟨4, .data⟩ (by simp) rfl
                rw [hLi] at q4; cases q4
            have x3 : A.eval (.tmp 68) = .pointer (some ⟨gg, oo + n * 26, none⟩) := osp_at (hhas 3 68 rfl (hdep ⟨3, .data⟩ (by simp) rfl)) (by decide) (by decide)
            have rg2 := rangeAt_below rg (hJ.bel no6)
            refine wpOp_step rfl (fun K hK => ?_)
            show Oper.wp _ _ _ _ _ _
            refine wp_loadK _ rfl gg (oo + n * 26) x3 k rg2 ?_
            exact hK _ _ ⟨_, rfl, osp_mk (by decide) (by decide), hJ.same 4 (by decide), fun j u _ _ _ h => osp_keep (fun e => (Bool.or_eq_false_iff.1 e).2) (Below.refl _ _) j u h⟩
          | 5, ho, hs, hLi =>
            cases Option.some.inj ho
            cases Option.some.inj hs
            have x4 : A.eval (.tmp 69) = .agg (kv k) := osp_at (hhas 4 69 rfl (hdep ⟨4, .data⟩ (by simp) rfl)) (by decide) (by decide)
            have hb := (Below.refl W2.heap.size W2).alloc (Nat.le_refl _) (.cells (kv k) 51)
            have hnew := heap_alloc_new W2 (.cells (kv k) 51)
            refine wpOp_step rfl (fun K hK => ?_)
            show Oper.wp _ _ _ _ _ _
            refine wp_buildK _ rfl k x4 ?_
            exact hK _ _ ⟨_, rfl, osp_mk5 fun _ => hnew, hJ.on 5 (by decide) hb, fun j u _ _ _ h => osp_keep (fun e => (Bool.or_eq_false_iff.1 e).2) hb j u h⟩
          | 6, ho, hs, hLi =>
            cases Option.some.inj ho
            cases Option.some.inj hs
            obtain ⟨g9, e5, hx⟩ := osp_5 (hhas 5 70 rfl (hdep ⟨5, .data⟩ (by simp) rfl))
            have hh := hx hLi
            have x5 : A.eval (.tmp 70) = .slice (some ⟨g9, 0, none⟩) 1 1 := e5
            have x1 : A.eval (.tmp 66) = .slice pr nr cr := osp_at (hhas 1 66 rfl (hdep ⟨1, .data⟩ (by simp) rfl)) (by decide) (by decide)
            have hbl := hJ.bel hLi
            refine wpOp_step rfl (fun K hK => ?_)
            show Oper.wp _ _ _ _ _ _
            refine wp_appendK1 _ _ rfl (g13 + 1) (outK rule day l) k _ x1 (own_below HO.out hbl) g9 x5 hh hlo (Nat.le_trans hs13 hbl.size) ?_
            intro v' W' hown hgrow
            exact hK _ _ ⟨v', rfl, osp_mk6 hown, hJ.app hgrow, fun j u hj _ _ h => osp_app hj u h⟩
          | 7, ho, hs, hLi =>
            cases Option.some.inj ho
            cases Option.some.inj hs
            have h13 : A.tmps[13]?.getD undef = .pointer (some ⟨g13, 0, none⟩) := (gd A 13).trans (hkept 13 (by kernel_rfl))
            refine wpOp_step rfl (fun K hK => ?_)
            go_simp
            exact hK _ _ ⟨_, rfl, osp_mk (by decide) (by decide), hJ.same 7 (by decide), fun j u _ _ _ h => osp_keep (fun e => (Bool.or_eq_false_iff.1 e).2) (Below.refl _ _) j u h⟩
          | kk + 8, ho, hs, hLi => simp at hs
        · intro o' L W2 A ho hL hJ hhas hkept hput
          cases Option.some.inj ho
          have own7 := osp_6 (hhas 6 71 rfl)
          obtain ⟨v7, ev7⟩ : ∃ v, A.tmps.getD 71 undef = v := ⟨_, rfl⟩
          rw [ev7] at own7
          have own8 : W2.ownsRow (g13 + 1) 51 26 v7 (outK rule day l ++ [k]).length (flatK (outK rule day l ++ [k])) := by
            rw [List.length_append, List.length_singleton, flatK_append, flatK_one]
            exact own7
          obtain ⟨p7, c7, hv7, z9, y9, c10, o10, b10⟩ := put_out hs13 HO.out c13 HBR.out own8 hJ.grown
          obtain ⟨n7, hn7⟩ : ∃ q, (outK rule day l ++ [k]).length = q := ⟨_, rfl⟩
          rw [hn7] at hv7
          subst hv7
          obtain ⟨x70, e70⟩ : ∃ x, A.tmps.getD 70 undef = x := ⟨_, rfl⟩
          have hA : A = putAll [(65, .pointer (some ⟨g13, 0, none⟩)), (66, .slice pr nr cr), (67, .pointer (some ⟨gg, oo + n * 26, none⟩)), (68, .pointer (some ⟨gg, oo + n * 26, none⟩)), (69, .agg (kv k)), (70, x70), (71, .slice p7 n7 c7), (72, .pointer (some ⟨g13, 0, none⟩))] _ := hput _ (by kernel_rfl) (fun j s v hj => match j, hj with
            | 0, hj => by cases Option.some.inj hj; exact osp_at (hhas 0 65 rfl) (by decide) (by decide)
            | 1, hj => by cases Option.some.inj hj; exact osp_at (hhas 1 66 rfl) (by decide) (by decide)
            | 2, hj => by cases Option.some.inj hj; exact osp_at (hhas 2 67 rfl) (by decide) (by decide)
            | 3, hj => by cases Option.some.inj hj; exact osp_at (hhas 3 68 rfl) (by decide) (by decide)
            | 4, hj => by cases Option.some.inj hj; exact osp_at (hhas 4 69 rfl) (by decide) (by decide)
            | 5, hj => by cases Option.some.inj hj; exact e70
            | 6, hj => by cases Option.some.inj hj; exact ev7
            | 7, hj => by cases Option.some.inj hj; exact osp_at (hhas 7 72 rfl) (by decide) (by decide)
            | kk + 8, hj => by simp at hj)
          have h71 : A.tmps[71]?.getD undef = .slice p7 n7 c7 := (gd A 71).trans ev7
          have h72 : A.tmps[72]?.getD undef = .pointer (some ⟨g13, 0, none⟩) := (gd A 72).trans (osp_at (hhas 7 72 rfl) (by decide) (by decide))
          have HA := hidv hA
          have HO10 := hidv (KRow.of_own o10)
          have HC10 := hidv c10
          have HB10 := hidv b10
          clear own7 own8 hJ hhas hA hput hkept ev7 e70 o10 c10 b10 hn7 HO HBR
          refine wpOp_step rfl (fun K hK => ?_)
          go_simp
          refine hK _ _ ⟨⟨undef, rfl⟩, ?_⟩
          clear hK h71 h72
          have hA := HA.out
          clear HA
          subst hA
          generalize hwz : W2.setCell ⟨g13, 0, none⟩ (.slice p7 n7 c7) = wz at *
          simp only [putAll_cons, putAll_nil, Act.put, List.setIfInBounds_toArray, List.set_cons_succ, List.set_cons_zero]
          have c13z := HC10.out
          have m10 := (HB10.out.block _ (by omega : w.heap.size + 1 < g13)).trans HN10.out
          have m11 := (HB10.out.block _ (by omega : w.heap.size + 2 < g13)).trans HN11.out
          have m12 := (HB10.out.block _ (by omega : w.heap.size + 3 < g13)).trans HN12.out
          have HBW := hidv (HBA.out.trans (HB10.out.mono (by omega)) : Below w.heap.size w wz)
          have hszz := lt_of_block c13z
          clear hwz z9 y9 z13 c13 HB10 HC10 rg hs13
          go_wp2_with fail
          refine wp_region_flow (by kernel_rfl) (by kernel_rfl) (by kernel_rfl) (by kernel_rfl) (fun L _ W => GJ w wz (w.heap.size + 1) (g13 + 1) k.m (outK rule day l ++ [k]) runs 0 0 6 7 8 L W ∧ KRow (g13 + 1) W (.slice p7 n7 c7) (outK rule day l ++ [k])) (gsp [.pointer (some ⟨gg, oo + n * 26, none⟩), .pointer (some ⟨gg, oo + n * 26, none⟩), .pointer (some ⟨gg, oo + n * 26 + 3, none⟩), .agg (mv k.m), undef, .agg #[.int .i64 0, .int .i64 0]] (g13 + 1) [] (outK rule day l ++ [k]) runs 1000 1001 4) ?_ ?_ ?_
          · intro L hL
            refine ⟨⟨HBW.out.trans ((Below.refl wz.heap.size wz).drew.mono HBW.out.size), fun _ _ _ _ _ => rfl, hszz, by omega, by omega, fun _ => m10, fun e => (by rw [hL 6 (by decide)] at e; cases e), fun _ => m11, fun e => (by rw [hL 7 (by decide)] at e; cases e), fun _ => m12, fun e => (by rw [hL 8 (by decide)] at e; cases e)⟩, HO10.out.later (Below.refl wz.heap.size wz).drew⟩
          · intro i' o' L A W2 ho hLi hdep hJR hdef hkept hhas
            clear hdef
            obtain ⟨hJ, hR⟩ := hJR
            match i', ho, hLi with
            | 0, ho, hLi =>
              cases Option.some.inj ho
              have h14 : A.tmps[14]?.getD undef = .pointer (some ⟨gg, oo + n * 26, none⟩) := (gd A 14).trans (hkept 14 (fun j p hp _ => nd (by kernel_rfl) j p hp))
              refine wpOp_step rfl (fun K hK => ?_)
              go_simp
              exact hK _ _ ⟨_, rfl, fun _ => gsp_mk (by decide) (by decide) (by decide), fun _ _ _ h => h, hJ.same 0 (by decide) (by decide) (by decide), hR⟩
            | 1, ho, hLi =>
              cases Option.some.inj ho
              have h73 : A.tmps[73]?.getD undef = .pointer (some ⟨gg, oo + n * 26, none⟩) := (gd A 73).trans (gsp_at (hhas 0 _ rfl (hdep ⟨0, .data⟩ (by simp) rfl) 73 rfl) (by decide) (by decide) (by decide))
              refine wpOp_step rfl (fun K hK => ?_)
              go_simp
              exact hK _ _ ⟨_, rfl, fun _ => gsp_mk (by decide) (by decide) (by decide), fun _ _ _ h => h, hJ.same 1 (by decide) (by decide) (by decide), hR⟩
            | 2, ho, hLi =>
              cases Option.some.inj ho
              have h74 : A.tmps[74]?.getD undef = .pointer (some ⟨gg, oo + n * 26, none⟩) := (gd A 74).trans (gsp_at (hhas 1 _ rfl (hdep ⟨1, .data⟩ (by simp) rfl) 74 rfl) (by decide) (by decide) (by decide))
              refine wpOp_step rfl (fun K hK => ?_)
              go_simp
              exact hK _ _ ⟨_, rfl, fun _ => gsp_mk (by decide) (by decide) (by decide), fun _ _ _ h => h, hJ.same 2 (by decide) (by decide) (by decide), hR⟩
            | 3, ho, hLi =>
              cases Option.some.inj ho
              have h75 : A.eval (.tmp 75) = .pointer (some ⟨gg, oo + n * 26 + 3, none⟩) := gsp_at (hhas 2 _ rfl (hdep ⟨2, .data⟩ (by simp) rfl) 75 rfl) (by decide) (by decide) (by decide)
              have rg3 := rangeAt_below (range_kvm hrg) hJ.bel
              refine wpOp_step rfl (fun K hK => ?_)
              show Oper.wp _ _ _ _ _ _
              refine wp_loadM _ rfl gg (oo + n * 26 + 3) h75 k.m rg3 ?_
              exact hK _ _ ⟨_, rfl, fun _ => gsp_mk (by decide) (by decide) (by decide), fun _ _ _ h => h, hJ.same 3 (by decide) (by decide) (by decide), hR⟩
            | 4, ho, hLi =>
              cases Option.some.inj ho
              have h13 : A.eval (.tmp 13) = .pointer (some ⟨g13, 0, none⟩) := hkept 13 (fun j p hp _ => nd (by kernel_rfl) j p hp)
              have b13 := (hJ.low g13 (by omega) (by omega) (by omega) (by omega)).trans c13z
              refine wpOp_step rfl (fun K hK => ?_)
              show Oper.wp _ _ _ _ _ _
              refine wp_load_row 40 _ rfl g13 h13 _ _ _ _ b13 cacheType rfl cacheSize ?_
              exact hK _ _ ⟨_, rfl, fun _ => (gsp_2 (by decide) (by decide)).2 ⟨_, rfl, hR⟩, fun _ _ _ h => h, hJ.same 4 (by decide) (by decide) (by decide), hR⟩
            | 5, ho, hLi =>
              cases Option.some.inj ho
              refine wpOp_step rfl (fun K hK => ?_)
              go_simp
              exact hK _ _ ⟨_, rfl, fun _ => gsp_mk (by decide) (by decide) (by decide), fun _ _ _ h => h, hJ.same 5 (by decide) (by decide) (by decide), hR⟩
            | 6, ho, hLi =>
              cases Option.some.inj ho
              have h10 : A.eval (.tmp 10) = .pointer (some ⟨w.heap.size + 1, 0, none⟩) := hkept 10 (fun j p hp _ => nd (by kernel_rfl) j p hp)
              have h76 : A.eval (.tmp 76) = .agg (mv k.m) := gsp_at (hhas 3 _ rfl (hdep ⟨3, .data⟩ (by simp) rfl) 76 rfl) (by decide) (by decide) (by decide)
              refine wpOp_step rfl (fun K hK => ?_)
              show Oper.wp _ _ _ _ _ _
              refine wp_store_row 25 _ _ rfl _ _ h10 h76 _ _ (hJ.m0 hLi) (maskSize _) (by simp [mv_size]) (mv_all _) ?_
              exact hK _ _ ⟨undef, rfl, fun e => absurd rfl e, fun j u _ h => gsp_mono (fun v l hv => hv.set (by omega) _) h, hJ.mask hLi (by decide) (by decide), hR.set (by omega) _⟩
            | 7, ho, hLi =>
              cases Option.some.inj ho
              have h11 : A.eval (.tmp 11) = .pointer (some ⟨w.heap.size + 1 + 1, 0, none⟩) := hkept 11 (fun j p hp _ => nd (by kernel_rfl) j p hp)
              obtain ⟨v9, e9, k9⟩ := (gsp_2 (by decide) (by decide)).1 (hhas 4 _ rfl (hdep ⟨4, .data⟩ (by simp) rfl) 77 rfl)
              have h77 : A.eval (.tmp 77) = .agg #[v9, .int .i64 runs] := e9
              obtain ⟨p9, c9, hv9, _⟩ := id k9
              subst hv9
              refine wpOp_step rfl (fun K hK => ?_)
              show Oper.wp _ _ _ _ _ _
              refine wp_store_row 40 _ _ rfl _ _ h11 h77 _ _ (hJ.c0 hLi) cacheSize (by simp) (by simp [Value.oneCell']) ?_
              exact hK _ _ ⟨undef, rfl, fun e => absurd rfl e, fun j u _ h => gsp_mono (fun v l hv => hv.set (by omega) _) h, hJ.cache hLi (by decide) (by decide) k9, hR.set (by omega) _⟩
            | 8, ho, hLi =>
              cases Option.some.inj ho
              have h12 : A.eval (.tmp 12) = .pointer (some ⟨w.heap.size + 1 + 2, 0, none⟩) := hkept 12 (fun j p hp _ => nd (by kernel_rfl) j p hp)
              have h78 : A.eval (.tmp 78) = .agg #[.int .i64 0, .int .i64 0] := gsp_at (hhas 5 _ rfl (hdep ⟨5, .data⟩ (by simp) rfl) 78 rfl) (by decide) (by decide) (by decide)
              refine wpOp_step rfl (fun K hK => ?_)
              show Oper.wp _ _ _ _ _ _
              refine wp_store_row 28 _ _ rfl _ _ h12 h78 _ _ (hJ.f0 hLi) faultSize9 (by simp) (by simp [Value.oneCell']) ?_
              exact hK _ _ ⟨undef, rfl, fun e => absurd rfl e, fun j u _ h => gsp_mono (fun v l hv => hv.set (by omega) _) h, hJ.fault hLi (by decide) (by decide), hR.set (by omega) _⟩
            | kk + 9, ho, hLi => simp at ho
          · intro L A W2 hL hJR hdef hsz hkept hhas
            have hJ := hJR.1
            have hM := hJ.m1 (hL 6 (by decide))
            obtain ⟨v9, hC, hK9⟩ := hJ.c1 (hL 7 (by decide))
            have hF := hJ.f1 (hL 8 (by decide))
            have a10 := hkept 10 (fun j p hp => nd (by kernel_rfl) j p hp)
            have a11 := hkept 11 (fun j p hp => nd (by kernel_rfl) j p hp)
            have a12 := hkept 12 (fun j p hp => nd (by kernel_rfl) j p hp)
            have hb9 := hJ.bel
            clear hhas hkept hL hJ hJR
            go_wp2_with fail
            exact rget_post (w.heap.size + 1) k.m (outK rule day l ++ [k]) runs 0 0 v9 hdef a10 a11 a12 hM hC hF (hK9.low (by omega)) hb9
end Go.Proofs.Ytaeengpppehlfaa
