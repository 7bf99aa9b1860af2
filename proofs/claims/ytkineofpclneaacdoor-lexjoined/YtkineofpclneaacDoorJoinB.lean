/- The law LexJoined, walked out of the contracts. -/
import Derived.Test.YtkineofpclneaacDoorJoinA
namespace Go.Proofs.YtkineofpclneaacDoor
open Go.RowKit Lx

set_option maxRecDepth 100000 in
set_option maxHeartbeats 4000000 in
theorem joined_walk (s t : ByteArray) (hls : s.size ≤ 9223372036854775807) (hlt : t.size ≤ 9223372036854775807) (w : World) (hT : CTab w) :
    Calls Tryd.prog 3 #[.string s, .string t] w fun e w' => e = .returned (.bool true) ∧ Below w.heap.size w w' := by
  obtain ⟨l, hs⟩ : ∃ l, s.data.toList = l := ⟨_, rfl⟩
  obtain ⟨m, ht⟩ : ∃ m, t.data.toList = m := ⟨_, rfl⟩
  have hz : s.size = l.length := by rw [← hs, Lib.size_eq]
  have hzt : t.size = m.length := by rw [← ht, Lib.size_eq]
  rw [hz] at hls
  rw [hzt] at hlt
  have cA := alive3_any w hT
  have cX := fun w hT => lex_any s l hs (by omega) w hT
  have cY := fun w hT => lex_any t m ht (by omega) w hT
  have HT : Hid (CTab w) := hT
  obtain ⟨i0, hi, hz0, hz1, hz2⟩ := info_parts tokInfo
  clear hT
  go_enter Tryd.func3, Tryd.ntmps3
  go_wp2_with fail
  refine cA.mono ?_
  rintro e w1 ⟨rfl, hb1⟩
  go_wp2_with fail
  refine (cX _ (HT.out.later hb1)).mono ?_
  rintro e w2 ⟨⟨v, er, at_, rfl, hx⟩, hb2⟩
  have hbw2 := hb1.trans (hb2.mono hb1.size)
  have hbw2a := hbw2.alloc hbw2.size (.cells #[.int .i64 er, .int .i64 at_] 26)
  have hf2 := heap_alloc_new w2 (.cells #[.int .i64 er, .int .i64 at_] 26)
  clear hb1 hb2 cA cX
  go_wp2_with fail
  refine (cY _ (HT.out.later hbw2a)).mono ?_
  rintro e w3 ⟨⟨v', er', at', rfl, hy⟩, hb3⟩
  have hbw3 := hbw2a.trans (hb3.mono hbw2a.size)
  have hf3 := (hb3.block _ (lt_of_block hf2)).trans hf2
  have hf3a := (Below.heap_alloc w3 (.cells #[.int .i64 er', .int .i64 at'] 26) _ (lt_of_block hf3)).trans hf3
  have hg3a := heap_alloc_new w3 (.cells #[.int .i64 er', .int .i64 at'] 26)
  have hbw3a := hbw3.alloc hbw3.size (.cells #[.int .i64 er', .int .i64 at'] 26)
  have d1 : (w3.alloc (.cells #[.int .i64 er', .int .i64 at'] 26)).cell? ⟨w2.heap.size, 0, none⟩ = some (.int .i64 er) := (cell_of_row _ _ _ _ _ _ hf3a).trans rfl
  have d2 : (w3.alloc (.cells #[.int .i64 er', .int .i64 at'] 26)).cell? ⟨w3.heap.size, 0, none⟩ = some (.int .i64 er') := (cell_of_row _ _ _ _ _ _ hg3a).trans rfl
  have hsz3 := hb3.size
  by_cases he : er = 0
  · subst he
    by_cases he' : er' = 0
    · subst he'
      obtain ⟨ts, k1, h6, hL, hk, hoa⟩ := lex_right hx
      obtain ⟨us, k2, h6', hL', hk2, hob⟩ := lex_right hy
      have hoa3 := (owns_below (hoa.alloc (.cells #[.int .i64 0, .int .i64 at_] 26)) hb3).alloc (.cells #[.int .i64 0, .int .i64 at'] 26)
      have hob3 := hob.alloc (.cells #[.int .i64 0, .int .i64 at'] 26)
      have hA := fun k h => (hoa.lt k h).2
      have hB := hob.lt
      clear hx hy hoa hob cY hb3
      by_cases hlen : l.length + m.length + 1 ≤ 6000
      · have i1 : ¬ (6000 : Int) < (l.length : Int) + (m.length : Int) + 1 := by omega
        have cZ := fun w hT => lex_any (s ++ ⟨#[10]⟩ ++ t) (l ++ 10 :: m) (by rw [cat_data, hs, ht]) (by simp; omega) w hT
        go_wp2_with fail
        refine (cZ _ (HT.out.later hbw3a)).mono ?_
        rintro e w4 ⟨⟨v4, er4, at4, rfl, hq⟩, hb4⟩
        obtain ⟨rfl, hoc⟩ := join_tells hL hk hL' hk2 hlen hq
        have hoa4 := (owns_below hoa3 hb4).alloc (.cells #[.int .i64 0, .int .i64 at4] 26)
        have hob4 := (owns_below hob3 hb4).alloc (.cells #[.int .i64 0, .int .i64 at4] 26)
        have hC := fun k h => (hoc.lt k h).1
        have hoc4 := hoc.alloc (.cells #[.int .i64 0, .int .i64 at4] 26)
        have hbw4 := hbw3a.trans (hb4.mono hbw3a.size)
        have hbw4a := hbw4.alloc hbw4.size (.cells #[.int .i64 0, .int .i64 at4] 26)
        have d3 : (w4.alloc (.cells #[.int .i64 0, .int .i64 at4] 26)).cell? ⟨w4.heap.size, 0, none⟩ = some (.int .i64 0) := (cell_of_row _ _ _ _ _ _ (heap_alloc_new w4 _)).trans rfl
        have hAt := lexed_at hL'
        have tl1 := hL.le
        have tl2 := hL'.le
        have hnc : (ts ++ onBy (l.length + 1) us).length = ts.length + us.length := by simp [onBy]
        have hszA : (w2.alloc (.cells #[.int .i64 0, .int .i64 at_] 26)).heap.size = w2.heap.size + 1 := by simp
        have hszB : (w3.alloc (.cells #[.int .i64 0, .int .i64 at'] 26)).heap.size = w3.heap.size + 1 := by simp
        have hAB : ∀ i j, v.ownBlock = some i → v'.ownBlock = some j → i ≠ j := fun i j h1 h2 e => by
          have a1 := hA i h1
          have a2 := (hB j h2).1
          omega
        have hCB : ∀ i j, v4.ownBlock = some i → v'.ownBlock = some j → i ≠ j := fun i j h1 h2 e => by
          have a1 := hC i h1
          have a2 := (hB j h2).2
          omega
        have hwB : ∀ j, v'.ownBlock = some j → w.heap.size ≤ j := fun j h => by
          have a2 := (hB j h).1
          have a3 := hbw2a.size
          omega
        clear hq hoa3 hob3 hoc hb4 hA hB hC hszA hszB cZ d1 d2 hf3a hg3a hf3 hf2 hbw2 hbw2a hbw3 hbw3a hL hL' hk hk2 hsz3 hlen
        obtain ⟨na, ena⟩ : ∃ na, ts.length = na := ⟨_, rfl⟩
        obtain ⟨nb, enb⟩ : ∃ nb, us.length = nb := ⟨_, rfl⟩
        obtain ⟨nc, enc⟩ : ∃ nc, (ts ++ onBy (l.length + 1) us).length = nc := ⟨_, rfl⟩
        rw [ena, enb] at hnc
        rw [enc] at hnc hoc4
        rw [ena] at hoa4 tl1
        rw [enb] at hob4 tl2
        obtain ⟨pa, ca, rfl⟩ := owns_form hoa4
        obtain ⟨pb, cb, rfl⟩ := owns_form hob4
        obtain ⟨pc, cc, rfl⟩ := owns_form hoc4
        have jn : ((nc : Int) != (na : Int) + (nb : Int)) = false := by simp; omega
        have ja : (na : Int) ≤ 6000 := by omega
        have jb : (nb : Int) ≤ 6000 := by omega
        have jl : (l.length : Int) ≤ 6000 := by omega
        generalize hW : w4.alloc (.cells #[.int .i64 0, .int .i64 at4] 26) = W at *
        have HA : Hid (W.ownsRow w1.heap.size 30 4 (.slice pa na ca) na (flatT ts)) := hoa4
        have HB : Hid (W.ownsRow (w2.alloc (.cells #[.int .i64 0, .int .i64 at_] 26)).heap.size 30 4 (.slice pb nb cb) nb (flatT (part (l.length + 1) us 0))) := by rw [part_zero]; exact hob4
        have HCC : Hid (W.ownsRow (w3.alloc (.cells #[.int .i64 0, .int .i64 at'] 26)).heap.size 30 4 (.slice pc nc cc) nc (flatT (ts ++ onBy (l.length + 1) us))) := hoc4
        have HAB : Hid (∀ i j, (Value.slice pa na ca).ownBlock = some i → (Value.slice pb nb cb).ownBlock = some j → i ≠ j) := hAB
        have HCB : Hid (∀ i j, (Value.slice pc nc cc).ownBlock = some i → (Value.slice pb nb cb).ownBlock = some j → i ≠ j) := hCB
        have HWB : Hid (∀ j, (Value.slice pb nb cb).ownBlock = some j → w.heap.size ≤ j) := hwB
        have HAt : Hid (∀ p ∈ us, p.2 < m.length) := hAt
        have HE : Hid (nc = na + nb ∧ ts.length = na ∧ us.length = nb ∧ (ts ++ onBy (l.length + 1) us).length = nc) := ⟨hnc, ena, enb, enc⟩
        generalize (w2.alloc (.cells #[.int .i64 0, .int .i64 at_] 26)).heap.size = Bb at *
        generalize (w3.alloc (.cells #[.int .i64 0, .int .i64 at'] 26)).heap.size = Bc at *
        clear hoa4 hob4 hoc4 hAB hCB hwB hAt hnc ena enb enc
        go_wp2
        go_loopw [11, 64] (fun _ i wr => ∃ j : Nat, i = .int .i64 (j : Int) ∧ j ≤ nb ∧ wr.ownsRow w1.heap.size 30 4 (.slice pa na ca) na (flatT ts) ∧ wr.ownsRow Bb 30 4 (.slice pb nb cb) nb (flatT (part (l.length + 1) us j)) ∧ wr.ownsRow Bc 30 4 (.slice pc nc cc) nc (flatT (ts ++ onBy (l.length + 1) us)) ∧ Below w.heap.size w wr) (fun _ i _ => nb - (intOf i).toNat)
        case atStart => exact ⟨0, rfl, by omega, HA.out, HB.out, HCC.out, hbw4a⟩
        case round =>
          obtain ⟨j, rfl, hj, oa, ob, oc, hbel⟩ := hrel
          obtain ⟨e1, e2, e3, e4⟩ := HE.out
          clear HA HB HCC hbw4 hbw4a hW d3
          by_cases hjn : j < nb
          · have hjn' : (j : Int) < (nb : Int) := by omega
            have hj0 : (0 : Int) ≤ (j : Int) := by omega
            obtain ⟨⟨t, k⟩, htk⟩ : ∃ q, us[j]? = some q := ⟨us[j], List.getElem?_eq_getElem (by omega)⟩
            have hkm : k < m.length := HAt.out (t, k) (List.mem_of_getElem? htk)
            have hset := part_set (l.length + 1) us j t k htk
            obtain ⟨f0, f1, f2, f3⟩ := flatT_at _ j t k (part_at (l.length + 1) us j t k htk)
            obtain ⟨g, cap, hv, hcell⟩ := own_slice ob (by omega)
            have ep : pb = some ⟨g, 0, none⟩ := by injection hv
            subst ep
            have k2 := hcell _ _ f2
            have z2 := owns_frozen ob (j * 4 + 2)
            have hgw := HWB.out g rfl
            have oa' := owns_setCell oa (fun e => HAB.out g g e rfl rfl) (j * 4 + 2) (.int .i64 ((l.length + 1 + k : Nat) : Int))
            have oc' := owns_setCell oc (fun e => HCB.out g g e rfl rfl) (j * 4 + 2) (.int .i64 ((l.length + 1 + k : Nat) : Int))
            have ob' := own_set ob (j * 4 + 2) (.int .i64 ((l.length + 1 + k : Nat) : Int))
            rw [hset] at ob'
            have hbel' := hbel.setCell (p := ⟨g, j * 4 + 2, none⟩) hgw (.int .i64 ((l.length + 1 + k : Nat) : Int))
            have eq1 : (k : Int) + (l.length : Int) + 1 = ((l.length + 1 + k : Nat) : Int) := by omega
            have hk6 : (k : Int) ≤ 6000 := by omega
            generalize ((l.length + 1 + k : Nat) : Int) = vv at *
            clear f0 f1 f2 f3 hv hcell hset oa ob oc htk hbel e1 e2 e3 e4
            go_wp2
            go_roundw
            case rel => exact ⟨j + 1, by go_num, by omega, oa', ob', oc', hbel'⟩
            case measure => simp [intOf]; omega
          · have hjn' : ¬ (j : Int) < (nb : Int) := by omega
            have ejn : j = us.length := by omega
            subst ejn
            rw [part_all] at ob
            subst e1
            have o0 := World.ownsRow_made (base := wr.heap.size) (e := 30) (size := 4) wr #[] 0 (Nat.le_refl _) (by unfold maxLen; omega) rfl
            have oa1 := oa.alloc (.cells #[] 30)
            have ob1 := ob.alloc (.cells #[] 30)
            have oc1 := oc.alloc (.cells #[] 30)
            have la := oa.lt
            have lb := ob.lt
            have lc := oc.lt
            have hbel1 := hbel.alloc hbel.size (.cells #[] 30)
            have hsz1 : (wr.alloc (.cells #[] 30)).heap.size = wr.heap.size + 1 := by simp
            have hrs := hbel.size
            clear oa ob oc
            go_wp2_with (at_builtin; refine wpList_append_rows rfl _ _ 23 rfl wr.heap.size w1.heap.size 30 i0 (.agg #[.int .i64 0, .int .i64 0, .int .i64 0, .string ⟨#[]⟩]) 4 40 toksType hi hz0 hz1 hz2 rfl (by decide) (.slice (some ⟨wr.heap.size, 0, none⟩) 0 0) 0 [] rfl o0 (.slice pa na ca) na (flatT ts) rfl oa1 (flatT_one ts) (by unfold maxLen; omega) (by omega) (by omega) ?_)
            intro v5 w5 o5 g5
            have ob5 := ob1.kept g5 (.inr (fun e => by have := (lb wr.heap.size e).2; omega))
            have oc5 := oc1.kept g5 (.inr (fun e => by have := (lc wr.heap.size e).2; omega))
            have hown : ∀ k, (Value.slice (some ⟨wr.heap.size, 0, none⟩) 0 0).ownBlock = some k → w.heap.size ≤ k := fun k hk => by
              have e : wr.heap.size = k := Option.some.inj hk
              omega
            have hbel5 : Below w.heap.size w w5 := hbel1.grown g5 (by omega) hown
            have l5 := o5.lt
            have s5 := g5.size
            have lc5 := fun k h => (oc1.lt k h)
            have lb5 := ob5.lt
            clear g5 oa1 ob1 oc1 hbel1 hown o0
            go_wp2_with (at_builtin; refine wpList_append_rows rfl _ _ 23 rfl wr.heap.size Bb 30 i0 (.agg #[.int .i64 0, .int .i64 0, .int .i64 0, .string ⟨#[]⟩]) 4 40 toksType hi hz0 hz1 hz2 rfl (by decide) v5 na (flatT ts) rfl o5 (.slice pb nb cb) nb (flatT (onBy (l.length + 1) us)) rfl ob5 (flatT_one _) (by unfold maxLen; omega) (by omega) (by omega) ?_)
            intro v6 w6 o6 g6
            have oc6 : w6.ownsRow Bc 30 4 (.slice pc (na + nb) cc) (na + nb) (flatT (ts ++ onBy (l.length + 1) us)) := by
              cases h : (Value.slice pc (na + nb) cc).ownBlock with
              | none => exact oc5.kept g6 (.inl h)
              | some k =>
                refine oc5.kept g6 (.inr (fun e => ?_))
                have a1 := (lc k h).2
                have a2 := (l5 k (by rw [← e, h])).1
                omega
            have hbel6 : Below w.heap.size w w6 := hbel5.grown g6 (by have := hbel5.size; omega) (fun k hk => by have := (l5 k hk).1; omega)
            rw [← flatT_append] at o6
            have en : na + nb = (ts ++ onBy (l.length + 1) us).length := by omega
            rw [en] at o6
            rw [← e4] at oc6
            have hlen6 : (ts ++ onBy (l.length + 1) us).length < 9223372036854775808 := by omega
            have r1 := trow_of_owns oc6 hlen6
            have r2 := trow_of_owns o6 hlen6
            rw [e4] at r1
            have cS := sameT_true (.slice pc (na + nb) cc) v6 (ts ++ onBy (l.length + 1) us) w6 r1 r2
            clear o6 oc6 r1 r2 oc5 ob5 o5 g6 l5 lb5 lc5 la lb lc e2 e3 e4 en HE hlen6
            go_wp2_with fail
            refine cS.mono ?_
            rintro e w7 ⟨rfl, hb7⟩
            go_wp2
            go_ret
            exact ⟨rfl, hbel6.trans (hb7.mono hbel6.size)⟩
      · have i1 : (6000 : Int) < (l.length : Int) + (m.length : Int) + 1 := by omega
        clear hlen hoa3 hob3 hA hB
        go_wp2
        go_ret
        exact ⟨rfl, hbw3a⟩
    · have hne : (er' != 0) = true := by simpa using he'
      clear he' hx hy cY
      go_wp2
      go_ret
      exact ⟨rfl, hbw3a⟩
  · have hne : (er != 0) = true := by simpa using he
    clear he hx hy cY
    go_wp2
    go_ret
    exact ⟨rfl, hbw3a⟩
end Go.Proofs.YtkineofpclneaacDoor
