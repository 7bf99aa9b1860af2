/- What the document's Bare comes to: an expression with what its kinds have alone, in blocks of the call's own. -/
import Derived.Test.YteheahhifihmjaaGreatDoorQa36
import Derived.Deep.Cut
namespace Go.Proofs.YteheahhifihmjaaGreatDoor
open Go.RowKit Lx

/-- So many values, one by one. -/
structure Fb47 (l : List Value) where
  (u0 u1 u2 u3 u4 u5 u6 u7 u8 u9 u10 u11 u12 u13 u14 u15 u16 u17 u18 u19 u20 u21 u22 u23 u24 u25 u26 u27 u28 u29 u30 u31 u32 u33 u34 u35 u36 u37 u38 u39 u40 u41 u42 u43 u44 u45 u46 : Value)
  eq : l = [u0, u1, u2, u3, u4, u5, u6, u7, u8, u9, u10, u11, u12, u13, u14, u15, u16, u17, u18, u19, u20, u21, u22, u23, u24, u25, u26, u27, u28, u29, u30, u31, u32, u33, u34, u35, u36, u37, u38, u39, u40, u41, u42, u43, u44, u45, u46]
set_option maxRecDepth 100000 in
theorem fb47 (l : List Value) (hl : l.length = 47) : Nonempty (Fb47 l) := allL 47 (fun l => Nonempty (Fb47 l)) (fun u0 u1 u2 u3 u4 u5 u6 u7 u8 u9 u10 u11 u12 u13 u14 u15 u16 u17 u18 u19 u20 u21 u22 u23 u24 u25 u26 u27 u28 u29 u30 u31 u32 u33 u34 u35 u36 u37 u38 u39 u40 u41 u42 u43 u44 u45 u46 => ⟨⟨u0, u1, u2, u3, u4, u5, u6, u7, u8, u9, u10, u11, u12, u13, u14, u15, u16, u17, u18, u19, u20, u21, u22, u23, u24, u25, u26, u27, u28, u29, u30, u31, u32, u33, u34, u35, u36, u37, u38, u39, u40, u41, u42, u43, u44, u45, u46, rfl⟩⟩) l hl

/-- What a value of the region is, once it is there. -/
def bsp (b3 B0 : Nat) (n3 : Nat) (vr sk : Value) (k : Ex) (done : List (Ex × Value)) (q : Nat) (x : Value) (W : World) : Prop := match q with
  | 0 => x = .pointer (some ⟨b3, 4, none⟩)
  | 1 => x = vr
  | 2 => x = exV k sk
  | 3 => ∃ (p : Option Addr) (c dd : Nat), x = exV (bareE k) (.slice p k.kids.length c) ∧ KidsAt (fun q => n3 ≤ q) dd W (.slice p k.kids.length c) (bareE k).kids
  | 4 => ∃ (g4 : Nat) (p : Option Addr) (c dd : Nat), x = .slice (some ⟨g4, 0, none⟩) 1 1 ∧ n3 ≤ g4 ∧ W.heap[g4]? = some (.cells #[.int .i64 (bareE k).kind, .int .i64 (bareE k).a, .int .i64 (bareE k).b, .string ⟨(bareE k).name.toArray⟩, .slice p k.kids.length c] 38 (0, 0)) ∧ KidsAt (fun q => n3 ≤ q) dd W (.slice p k.kids.length c) (bareE k).kids
  | 5 => ∃ (p : Option Addr) (c : Nat), RowE B0 W x (done ++ [(bareE k, .slice p k.kids.length c)])
  | 6 => x = .pointer (some ⟨b3, 4, none⟩)
  | _ => True
theorem bsp_kept {b3 B0 n3 : Nat} {vr sk : Value} {k : Ex} {done : List (Ex × Value)} {W W' : World} (h3 : ∀ q, n3 ≤ q → q < W.heap.size → W'.heap[q]? = W.heap[q]?) : ∀ (q : Nat) (x : Value), (q = 5 → ∀ q, B0 ≤ q → q < W.heap.size → W'.heap[q]? = W.heap[q]?) → bsp b3 B0 n3 vr sk k done q x W → bsp b3 B0 n3 vr sk k done q x W'
  | 0, _, _, h => h
  | 1, _, _, h => h
  | 2, _, _, h => h
  | 3, _, _, h => by
    obtain ⟨p, c, dd, h1, h2⟩ := h
    exact ⟨p, c, dd, h1, h2.kept h3⟩
  | 4, _, _, h => by
    obtain ⟨g4, p, c, dd, h1, hg, hh, h2⟩ := h
    exact ⟨g4, p, c, dd, h1, hg, (h3 g4 hg (lt_of_block hh)).trans hh, h2.kept h3⟩
  | 5, _, h5, h => by
    obtain ⟨p, c, h⟩ := h
    exact ⟨p, c, h.later (h5 rfl)⟩
  | 6, _, _, h => h
  | _ + 7, _, _, _ => trivial
/-- What is said of the world while the region's operations are done. -/
structure BJ (w : World) (n3 : Nat) (e : Ex) (ka kb : Int) (nm : List UInt8) (b5 : Nat) (k : Ex) (ps : Option Addr) (cs : Nat) (vr : Value) (done : List (Ex × Value)) (L : Nat → Bool) (W : World) : Prop where
  bel : Below w.heap.size w W
  sz : n3 ≤ W.heap.size
  d5 : L 5 = true → L 1 = true
  d7 : L 7 = true → L 5 = true
  kid : W.heap[b5]? = some (.cells #[.int .i64 k.kind, .int .i64 k.a, .int .i64 k.b, .string ⟨k.name.toArray⟩, .slice ps k.kids.length cs] 38 (0, 0))
  res : W.heap[w.heap.size + 1]? = some (.cells #[.int .i64 0, .int .i64 0, .int .i64 0, .string ⟨#[]⟩, .slice none 0 0] 38 (0, 0))
  out0 : L 7 = false → W.heap[w.heap.size + 1 + 1]? = some (.cells #[.int .i64 e.kind, .int .i64 ka, .int .i64 kb, .string ⟨nm.toArray⟩, vr] 38 (0, 0))
  row0 : L 5 = false → RowE (w.heap.size + 3) W vr done
  out1 : L 7 = true → ∃ (x : Value) (p : Option Addr) (c : Nat), W.heap[w.heap.size + 1 + 1]? = some (.cells #[.int .i64 e.kind, .int .i64 ka, .int .i64 kb, .string ⟨nm.toArray⟩, x] 38 (0, 0)) ∧ RowE (w.heap.size + 3) W x (done ++ [(bareE k, .slice p k.kids.length c)])
theorem BJ.step {w : World} {n3 : Nat} {e : Ex} {ka kb : Int} {nm : List UInt8} {b5 : Nat} {k : Ex} {ps : Option Addr} {cs : Nat} {vr : Value} {done : List (Ex × Value)} {L : Nat → Bool} {W W' : World} {q : Nat} (h : BJ w n3 e ka kb nm b5 k ps cs vr done L W) (hb : Below W.heap.size W W') (h5 : q ≠ 5) (h7 : q ≠ 7) : BJ w n3 e ka kb nm b5 k ps cs vr done (fun i => decide (q = i) || L i) W' := by
  have e5 : (decide (q = 5) || L 5) = L 5 := by simp [h5]
  have e7 : (decide (q = 7) || L 7) = L 7 := by simp [h7]
  refine ⟨h.bel.trans (hb.mono h.bel.size), Nat.le_trans h.sz hb.size, fun hh => ?_, fun hh => ?_, (hb.block _ (lt_of_block h.kid)).trans h.kid, (hb.block _ (lt_of_block h.res)).trans h.res, fun hh => ?_, fun hh => ?_, fun hh => ?_⟩ <;> simp only [e5, e7] at *
  · rw [h.d5 hh]; simp
  · exact h.d7 hh
  · have := h.out0 hh
    exact (hb.block _ (lt_of_block this)).trans this
  · exact (h.row0 hh).later fun k _ hl => hb.block k hl
  · obtain ⟨x, p, c, h1, h2⟩ := h.out1 hh
    exact ⟨x, p, c, (hb.block _ (lt_of_block h1)).trans h1, h2.later fun k _ hl => hb.block k hl⟩
def OutBare (e : Ex) (w : World) (r : Ending) (w' : World) : Prop := ∃ (p : Option Addr) (c dd : Nat), r = .returned (exV (bareE e) (.slice p e.kids.length c)) ∧ KidsAt (fun k => w.heap.size ≤ k) dd w' (.slice p e.kids.length c) (bareE e).kids ∧ Below w.heap.size w w'
def BRel (w : World) (e : Ex) (ka kb : Int) (nm : List UInt8) (t : Value) (wr : World) : Prop := ∃ (j : Nat) (done : List (Ex × Value)) (vr : Value), t = .int .i64 (j : Int) ∧ j ≤ e.kids.length ∧ Below w.heap.size w wr ∧ wr.heap[w.heap.size + 1]? = some (.cells #[.int .i64 0, .int .i64 0, .int .i64 0, .string ⟨#[]⟩, .slice none 0 0] 38 (0, 0)) ∧ wr.heap[w.heap.size + 1 + 1]? = some (.cells #[.int .i64 e.kind, .int .i64 ka, .int .i64 kb, .string ⟨nm.toArray⟩, vr] 38 (0, 0)) ∧ RowE (w.heap.size + 3) wr vr done ∧ done.map (fun p => p.1) = (e.kids.take j).map bareE
theorem hid_of {p : Prop} (h : p) : Hid p := h
theorem wp_append_at {o : Oper} {a : Act} {w : World} {K : Act → World → Prop} {Q : Exit → Act → World → Prop} (s x : Operand) (t : TypeId)
    (ho : o.op = .call { callee := .builtin .append, args := #[s, x], argTypes := #[t, t] })
    (base : Nat) (e : TypeId) (i : TypeInfo) (z : Value) (size bytes : Nat) (ht : Tryz.prog.underlying t = some (.slice e)) (hi : Tryz.prog.info? e = some i) (hz : i.zero = some z)
    (hsize : i.size = size) (hby : i.bytes = bytes) (hzs : z.cells.size = size) (hsz : 0 < size)
    (v : Value) (n : Nat) (xs : List Value) (hs : a.eval s = v) (hown : w.ownsRow base e size v n xs)
    (ad : Addr) (m c : Nat) (news : List Value) (hx : a.eval x = .slice (some ad) m c) (hl : news.length = m * size) (hnews : ∀ j u, news[j]? = some u → w.cell? (ad.add j) = some u) (h1 : ∀ u ∈ news, u.oneCell' = true)
    (h63 : n + m ≤ maxLen) (hbytes : (n + m) * bytes ≤ 140737488355328) (hbase : base ≤ w.heap.size)
    (h : ∀ v' w', w'.ownsRow base e size v' (n + m) (xs ++ news) → w.grownBy w' v.ownBlock → (v'.ownBlock = v.ownBlock ∨ v'.ownBlock = some w.heap.size) → K (a.put o.dst v') w') : o.wp Tryz.prog a w K Q := by
  obtain ⟨v', w', hr, h2, h3, _, h5⟩ := run_append_own_at (P := Tryz.prog) w base t o.type e i z size bytes ht hi hz hsize hby hzs hsz v n xs hown ad m c news hl hnews h1 h63 hbytes hbase
  unfold Oper.wp execOp
  simp only [ho, resolve, invoke, builtin, Sem.run_bind, Sem.run_pure, Result.andThen_ok, List.map_toArray, List.map_cons, List.map_nil, hs, hx, hr]
  exact h v' w' h2 h3 h5
set_option maxRecDepth 100000 in
set_option maxHeartbeats 8000000 in
theorem rbare_step (e : Ex) (pe : Option Addr) (ce : Nat) (w : World) (hA : allA e = true)
    (hkk : ∀ (j : Nat) (k : Ex), e.kids[j]? = some k → ∃ (g o : Nat) (ps : Option Addr) (cs : Nat), pe = some ⟨g, o, none⟩ ∧
        w.cell? ⟨g, o + j * 5, none⟩ = some (.int .i64 k.kind) ∧ w.cell? ⟨g, o + j * 5 + 1, none⟩ = some (.int .i64 k.a) ∧ w.cell? ⟨g, o + j * 5 + 2, none⟩ = some (.int .i64 k.b) ∧
        w.cell? ⟨g, o + j * 5 + 3, none⟩ = some (.string ⟨k.name.toArray⟩) ∧ w.cell? ⟨g, o + j * 5 + 4, none⟩ = some (.slice ps k.kids.length cs) ∧
        ∀ W, Below w.heap.size w W → Calls Tryz.prog 12 #[exV k (.slice ps k.kids.length cs)] W fun r w' => OutBare k W r w') :
    Calls Tryz.prog 12 #[exV e (.slice pe e.kids.length ce)] w fun r w' => OutBare e w r w' := by
  obtain ⟨a1, _⟩ := (allA_iff e).1 hA
  have hklen := (alone_kinds a1).2.2.1
  have hk2 : e.kids.length ≤ 2 := by rw [hklen]; exact kidsP_le _
  have HK := hid_of hkk
  obtain ⟨i0, hi, hz0, hz1, hz2⟩ := info_parts exprInfo
  have HE : Hid (bareE e = ⟨e.kind, bareA e.kind e.a, bareB e.kind e.b, bareN e.kind e.name, e.kids.map bareE⟩) := bareE_eq e
  have Hk2 : Hid (e.kids.length ≤ 2) := hk2
  have hkI : (e.kids.length : Int) ≤ 2 := by omega
  clear hkk hA a1 hklen hk2
  unfold exV
  go_enter Tryz.func12, Tryz.ntmps12
  go_upto_if 11 with fail
  rename_i Q' K1 hK1 K hK
  have key : ∀ (x11 x12 x13 x14 x15 x16 x17 x18 x19 x20 x21 x22 x23 x24 x25 x26 x27 x28 x29 x30 : Value) (W : World), Below w.heap.size w W → W.heap[w.heap.size]? = some (.cells #[.int .i64 e.kind, .int .i64 e.a, .int .i64 e.b, .string ⟨e.name.toArray⟩, .slice pe e.kids.length ce] 38 (0, 0)) → W.heap[w.heap.size + 1]? = some (.cells #[.int .i64 0, .int .i64 0, .int .i64 0, .string ⟨#[]⟩, .slice none 0 0] 38 (0, 0)) →
      W.heap[w.heap.size + 1 + 1]? = some (.cells #[.int .i64 e.kind, .int .i64 (bareA e.kind e.a), .int .i64 (bareB e.kind e.b), .string ⟨(bareN e.kind e.name).toArray⟩, .slice none 0 0] 38 (0, 0)) →
      K1 ⟨#[.agg #[.int .i64 e.kind, .int .i64 e.a, .int .i64 e.b, .string ⟨e.name.toArray⟩, .slice pe e.kids.length ce], .pointer (some ⟨w.heap.size, 0, none⟩), .pointer (some ⟨w.heap.size + 1, 0, none⟩), .pointer (some ⟨w.heap.size + 1 + 1, 0, none⟩), undef, undef, .pointer (some ⟨w.heap.size, 0, none⟩), .int .i64 e.kind, .agg #[.int .i64 e.kind, .int .i64 0, .int .i64 0, .string ⟨#[]⟩, .slice none 0 0], .pointer (some ⟨w.heap.size, 0, none⟩), .int .i64 e.kind, x11, x12, x13, x14, x15, x16, x17, x18, x19, x20, x21, x22, x23, x24, x25, x26, x27, x28, x29, x30, undef, undef, undef, undef, undef, undef, undef, undef, undef, undef, undef, undef, undef, undef, undef, undef], []⟩ W := by
    intro x11 x12 x13 x14 x15 x16 x17 x18 x19 x20 x21 x22 x23 x24 x25 x26 x27 x28 x29 x30 W hbW hp0 hres hout
    generalize hka : bareA e.kind e.a = ka at *
    generalize hkb : bareB e.kind e.b = kb at *
    generalize hnm : bareN e.kind e.name = nm at *
    refine hK1 _ _ ?_
    clear hK1 hK hka hkb hnm
    have pc4 := (cell_of_row _ _ 4 _ _ _ hp0).trans rfl
    go_wp2_with fail
    clear hp0 pc4
    go_loopw [5, 34] (fun _ t wr => BRel w e ka kb nm t wr) (fun _ t _ => e.kids.length - (intOf t).toNat)
    case atStart => exact ⟨0, [], .slice none 0 0, rfl, by omega, hbW, hres, hout, RowE.nil _ _, rfl⟩
    case round =>
      obtain ⟨j, done, vr, rfl, hj, hbr, hres1, hout1, hrow, hmap⟩ := hrel
      clear hbW hres hout
      have hj0 : (0 : Int) ≤ (j : Int) := by omega
      have hdl : done.length = j := by
        have := congrArg List.length hmap
        simp only [List.length_map, List.length_take] at this
        omega
      by_cases hlt : j < e.kids.length
      · have hlt' : (j : Int) < (e.kids.length : Int) := by omega
        obtain ⟨k, hjk⟩ : ∃ k, e.kids[j]? = some k := ⟨e.kids[j], List.getElem?_eq_getElem hlt⟩
        obtain ⟨g, o, ps, cs, hpe, c0, c1, c2, c3, c4, cK⟩ := HK.out j k hjk
        have HM : Hid ((e.kids.take (j + 1)).map bareE = done.map (fun p => p.1) ++ [bareE k]) := by
          show _ = _
          obtain ⟨h1, h2⟩ := List.getElem?_eq_some_iff.1 hjk
          rw [List.take_succ_eq_append_getElem h1, h2, List.map_append, hmap]
          rfl
        have Hpe : Hid (pe = some ⟨g, o, none⟩) := hpe
        subst hpe
        have d0 := (hbr.cell (block_lt_of_cell c0)).trans c0
        have d1 := (hbr.cell (block_lt_of_cell c1)).trans c1
        have d2 := (hbr.cell (block_lt_of_cell c2)).trans c2
        have d3 := (hbr.cell (block_lt_of_cell c3)).trans c3
        have d4 := (hbr.cell (block_lt_of_cell c4)).trans c4
        have hbA := hbr.alloc hbr.size (.cells #[.int .i64 k.kind, .int .i64 k.a, .int .i64 k.b, .string ⟨k.name.toArray⟩, .slice ps k.kids.length cs] 38)
        have bA := (Below.refl wr.heap.size wr).alloc (Nat.le_refl _) (.cells #[.int .i64 k.kind, .int .i64 k.a, .int .i64 k.b, .string ⟨k.name.toArray⟩, .slice ps k.kids.length cs] 38)
        have hxB := heap_alloc_new wr (.cells #[.int .i64 k.kind, .int .i64 k.a, .int .i64 k.b, .string ⟨k.name.toArray⟩, .slice ps k.kids.length cs] 38)
        have hresA := (bA.block _ (lt_of_block hres1)).trans hres1
        have houtA := (bA.block _ (lt_of_block hout1)).trans hout1
        have hrowA := hrow.later (w' := wr.alloc (.cells #[.int .i64 k.kind, .int .i64 k.a, .int .i64 k.b, .string ⟨k.name.toArray⟩, .slice ps k.kids.length cs] 38)) fun k _ hl => bA.block k hl
        have hszA : (wr.alloc (.cells #[.int .i64 k.kind, .int .i64 k.a, .int .i64 k.b, .string ⟨k.name.toArray⟩, .slice ps k.kids.length cs] 38)).heap.size = wr.heap.size + 1 := by simp
        have hlo := hrow.own.lt
        have hwl : w.heap.size + 1 + 1 < wr.heap.size := lt_of_block hout1
        clear hmap hjk c0 c1 c2 c3 c4 hbr hres1 hout1 hrow bA
        generalize hw3 : wr.alloc (.cells #[.int .i64 k.kind, .int .i64 k.a, .int .i64 k.b, .string ⟨k.name.toArray⟩, .slice ps k.kids.length cs] 38) = w3 at *
        go_wp2_with fail
        clear d0 d1 d2 d3 d4 hw3
        refine wp_region_flow (by kernel_rfl) (by kernel_rfl) (by kernel_rfl) (by kernel_rfl) (fun L _ W => BJ w (wr.heap.size + 1) e ka kb nm wr.heap.size k ps cs vr done L W) (fun q x W => bsp (w.heap.size + 1 + 1) (w.heap.size + 3) (wr.heap.size + 1) vr (.slice ps k.kids.length cs) k done q x W) ?_ ?_ ?_
        · intro L hL
          have l5 := hL 5 (by decide)
          have l7 := hL 7 (by decide)
          exact ⟨hbA.drew, by show wr.heap.size + 1 ≤ w3.heap.size; omega, fun h => (by rw [l5] at h; cases h), fun h => (by rw [l7] at h; cases h), hxB, hresA, fun _ => houtA, fun _ => hrowA.later fun _ _ _ => rfl, fun h => (by rw [l7] at h; cases h)⟩
        · intro q o' L A W ho hLi hdep hJ hdef hkept hhas
          clear hdef
          have fin : ∀ (x : Value) (ds : Nat) (W' : World), Below W.heap.size W W' → q ≠ 5 → q ≠ 7 → bsp (w.heap.size + 1 + 1) (w.heap.size + 3) (wr.heap.size + 1) vr (.slice ps k.kids.length cs) k done q x W' → ∃ u, A.put (some ds) x = A.put (some ds) u ∧ (some ds ≠ none → bsp (w.heap.size + 1 + 1) (w.heap.size + 3) (wr.heap.size + 1) vr (.slice ps k.kids.length cs) k done q u W') ∧ (∀ i x', L i = true → bsp (w.heap.size + 1 + 1) (w.heap.size + 3) (wr.heap.size + 1) vr (.slice ps k.kids.length cs) k done i x' W → bsp (w.heap.size + 1 + 1) (w.heap.size + 3) (wr.heap.size + 1) vr (.slice ps k.kids.length cs) k done i x' W') ∧ BJ w (wr.heap.size + 1) e ka kb nm wr.heap.size k ps cs vr done (fun i => decide (q = i) || L i) W' := by
            intro x ds W' hb q5 q7 hv
            exact ⟨x, rfl, fun _ => hv, fun i x' _ h => bsp_kept (fun q _ hl => hb.block q hl) i x' (fun _ q _ hl => hb.block q hl) h, hJ.step hb q5 q7⟩
          match q, ho with
          | 0, ho =>
            cases Option.some.inj ho
            have s3 : A.tmps[3]?.getD undef = .pointer (some ⟨w.heap.size + 1 + 1, 0, none⟩) := (gd A 3).trans (hkept 3 (fun j p hp _ => nd (by kernel_rfl) j p hp))
            refine wpOp_step rfl (fun K hK' => ?_)
            go_simp
            exact hK' _ _ (fin _ 38 _ (Below.refl _ _) (by decide) (by decide) rfl)
          | 1, ho =>
            cases Option.some.inj ho
            have l7 : L 7 = false := by
              cases h : L 7 with
              | false => rfl
              | true => rw [hJ.d5 (hJ.d7 h)] at hLi; cases hLi
            have s38 : A.tmps[38]?.getD undef = .pointer (some ⟨w.heap.size + 1 + 1, 4, none⟩) := gdv (hhas 0 _ rfl (hdep ⟨0, .data⟩ (by simp) rfl) 38 rfl)
            have k4 := (cell_of_row _ _ 4 _ _ _ (hJ.out0 l7)).trans rfl
            refine wpOp_step rfl (fun K hK' => ?_)
            go_simp
            exact hK' _ _ (fin _ 39 _ (Below.refl _ _) (by decide) (by decide) rfl)
          | 2, ho =>
            cases Option.some.inj ho
            have s5 : A.eval (.tmp 5) = .pointer (some ⟨wr.heap.size, 0, none⟩) := hkept 5 (fun j p hp _ => nd (by kernel_rfl) j p hp)
            have hkd := hJ.kid
            refine wpOp_step rfl (fun K hK' => ?_)
            show Oper.wp _ _ _ _ _ _
            refine wp_load_row 38 _ rfl _ s5 _ _ _ _ hkd exprType rfl (by kernel_rfl) ?_
            exact hK' _ _ (fin _ 40 _ (Below.refl _ _) (by decide) (by decide) rfl)
          | 3, ho =>
            cases Option.some.inj ho
            have s40 : A.tmps[40]?.getD undef = exV k (.slice ps k.kids.length cs) := gdv (hhas 2 _ rfl (hdep ⟨2, .data⟩ (by simp) rfl) 40 rfl)
            have cW := cK W hJ.bel
            have hsW := hJ.sz
            refine wpOp_step rfl (fun K hK' => ?_)
            go_simp
            refine cW.mono ?_
            rintro e' W' ⟨p, c, dd, rfl, hkd, hb⟩
            exact hK' _ _ (fin _ 41 _ hb (by decide) (by decide) ⟨p, c, dd, rfl, hkd.mono fun q hq => Nat.le_trans hsW hq⟩)
          | 4, ho =>
            cases Option.some.inj ho
            obtain ⟨p, c, dd, sr', hkd⟩ := (show bsp (w.heap.size + 1 + 1) (w.heap.size + 3) (wr.heap.size + 1) vr (.slice ps k.kids.length cs) k done 3 (A.tmps.getD 41 undef) W from hhas 3 _ rfl (hdep ⟨3, .data⟩ (by simp) rfl) 41 rfl)
            have s41 : A.tmps[41]?.getD undef = exV (bareE k) (.slice p k.kids.length c) := gdv sr'
            have hsW := hJ.sz
            have hb := (Below.refl W.heap.size W).alloc (Nat.le_refl _) (.cells #[.int .i64 (bareE k).kind, .int .i64 (bareE k).a, .int .i64 (bareE k).b, .string ⟨(bareE k).name.toArray⟩, .slice p k.kids.length c] 38)
            have hn := heap_alloc_new W (.cells #[.int .i64 (bareE k).kind, .int .i64 (bareE k).a, .int .i64 (bareE k).b, .string ⟨(bareE k).name.toArray⟩, .slice p k.kids.length c] 38)
            unfold exV at s41
            refine wpOp_step rfl (fun K hK' => ?_)
            go_simp
            exact hK' _ _ (fin _ 42 _ hb (by decide) (by decide) ⟨W.heap.size, p, c, dd, rfl, hsW, hn, hkd.kept fun q _ hl => hb.block q hl⟩)
          | 5, ho =>
            cases Option.some.inj ho
            have l4 := hdep ⟨4, .data⟩ (by simp) rfl
            have l1 := hdep ⟨1, .data⟩ (by simp) rfl
            have l7 : L 7 = false := by
              cases h : L 7 with
              | false => rfl
              | true => rw [hJ.d7 h] at hLi; cases hLi
            obtain ⟨g4, p, c, dd, sr', hg4, hh4, hkd⟩ := (show bsp (w.heap.size + 1 + 1) (w.heap.size + 3) (wr.heap.size + 1) vr (.slice ps k.kids.length cs) k done 4 (A.tmps.getD 42 undef) W from hhas 4 _ rfl l4 42 rfl)
            have s42 : A.eval (.tmp 42) = .slice (some ⟨g4, 0, none⟩) 1 1 := sr'
            have s39 : A.eval (.tmp 39) = vr := hhas 1 _ rfl l1 39 rfl
            have hrowW := hJ.row0 hLi
            have hown := hrowW.own
            have hsW := hJ.sz
            have h2' := Hk2.out
            have hkd' : KidsAt (fun q => w.heap.size + 3 ≤ q ∧ vr.ownBlock ≠ some q) dd W (.slice p k.kids.length c) (bareE k).kids := hkd.mono fun q hq => ⟨by omega, fun e => by have := (hlo q e).2; omega⟩
            refine wpOp_step rfl (fun K hK' => ?_)
            show Oper.wp _ _ _ _ _ _
            refine wp_append_at _ _ 36 rfl (w.heap.size + 3) 38 i0 (.agg #[.int .i64 0, .int .i64 0, .int .i64 0, .string ⟨#[]⟩, .slice none 0 0]) 5 64 exprsType hi hz0 hz1 hz2 rfl (by decide) vr done.length (flatE done) s39 hown ⟨g4, 0, none⟩ 1 1 [.int .i64 (bareE k).kind, .int .i64 (bareE k).a, .int .i64 (bareE k).b, .string ⟨(bareE k).name.toArray⟩, .slice p k.kids.length c] s42 rfl ?c1 ?c2 ?c3 ?c4 ?c5 ?_
            case c1 =>
              intro i u' hi'
              match i, hi' with
              | 0, hi' => simp at hi'; subst hi'; exact (cell_of_row _ _ _ _ _ _ hh4).trans rfl
              | 1, hi' => simp at hi'; subst hi'; exact (cell_of_row _ _ _ _ _ _ hh4).trans rfl
              | 2, hi' => simp at hi'; subst hi'; exact (cell_of_row _ _ _ _ _ _ hh4).trans rfl
              | 3, hi' => simp at hi'; subst hi'; exact (cell_of_row _ _ _ _ _ _ hh4).trans rfl
              | 4, hi' => simp at hi'; subst hi'; exact (cell_of_row _ _ _ _ _ _ hh4).trans rfl
            case c2 => intro u hu; simp at hu; rcases hu with rfl | rfl | rfl | rfl | rfl <;> rfl
            case c3 => unfold maxLen; omega
            case c4 => omega
            case c5 => omega
            intro v' W' hown' hgrow hblk
            have hR := hrowW.grown hown' hgrow hblk hkd'
            have hnew : ∀ q, wr.heap.size + 1 ≤ q → q < W.heap.size → W'.heap[q]? = W.heap[q]? := fun q hq hl => hgrow.block q hl (fun e => by have := (hlo q e.symm).2; omega)
            have hold : ∀ q, q < w.heap.size + 3 → q < W.heap.size → W'.heap[q]? = W.heap[q]? := fun q hq hl => hgrow.block q hl (fun e => by have := (hlo q e.symm).1; omega)
            have hkidW : W'.heap[wr.heap.size]? = some (.cells #[.int .i64 k.kind, .int .i64 k.a, .int .i64 k.b, .string ⟨k.name.toArray⟩, .slice ps k.kids.length cs] 38 (0, 0)) := (hgrow.block _ (lt_of_block hJ.kid) (fun e => by have := (hlo _ e.symm).2; omega)).trans hJ.kid
            refine hK' _ _ ⟨v', rfl, fun _ => ⟨p, c, hR⟩, fun i x' hi' hx' => bsp_kept hnew i x' (fun e => by subst e; rw [hi'] at hLi; cases hLi) hx', ?_⟩
            refine ⟨hJ.bel.grown hgrow (by omega) (fun q hq => by have := (hlo q hq).1; omega), Nat.le_trans hJ.sz hgrow.size, fun _ => by simp [l1], fun h => by simp [l7] at h, hkidW, (hold _ (by omega) (lt_of_block hJ.res)).trans hJ.res, fun _ => (hold _ (by omega) (lt_of_block (hJ.out0 l7))).trans (hJ.out0 l7), fun h => by simp at h, fun h => by simp [l7] at h⟩
          | 6, ho =>
            cases Option.some.inj ho
            have s3 : A.tmps[3]?.getD undef = .pointer (some ⟨w.heap.size + 1 + 1, 0, none⟩) := (gd A 3).trans (hkept 3 (fun j p hp _ => nd (by kernel_rfl) j p hp))
            refine wpOp_step rfl (fun K hK' => ?_)
            go_simp
            exact hK' _ _ (fin _ 44 _ (Below.refl _ _) (by decide) (by decide) rfl)
          | 7, ho =>
            cases Option.some.inj ho
            have l5 := hdep ⟨5, .data⟩ (by simp) rfl
            have l6 := hdep ⟨6, .data⟩ (by simp) rfl
            obtain ⟨p, c, hR⟩ := (show bsp (w.heap.size + 1 + 1) (w.heap.size + 3) (wr.heap.size + 1) vr (.slice ps k.kids.length cs) k done 5 (A.tmps.getD 43 undef) W from hhas 5 _ rfl l5 43 rfl)
            obtain ⟨x, hx⟩ : ∃ x, A.tmps.getD 43 undef = x := ⟨_, rfl⟩
            rw [hx] at hR
            have s43 : A.tmps[43]?.getD undef = x := gdv hx
            have s44 : A.tmps[44]?.getD undef = .pointer (some ⟨w.heap.size + 1 + 1, 4, none⟩) := gdv (hhas 6 _ rfl l6 44 rfl)
            have hoW := hJ.out0 hLi
            have k4 := (cell_of_row _ _ 4 _ _ _ hoW).trans rfl
            have y4 := frozen_of_row _ _ 4 _ _ hoW
            obtain ⟨px, cx, rfl⟩ := row_form hR.own
            have hst : ∀ q, q ≠ w.heap.size + 1 + 1 → (W.setCell ⟨w.heap.size + 1 + 1, 4, none⟩ (.slice px (done ++ [(bareE k, Value.slice p k.kids.length c)]).length cx)).heap[q]? = W.heap[q]? := fun q hq => heap_setCell_other W ⟨w.heap.size + 1 + 1, 4, none⟩ q _ hq
            have hoN := heap_setCell_same W (w.heap.size + 1 + 1) 4 _ _ (.slice px (done ++ [(bareE k, Value.slice p k.kids.length c)]).length cx) hoW
            have hbN : Below w.heap.size w (W.setCell ⟨w.heap.size + 1 + 1, 4, none⟩ (.slice px (done ++ [(bareE k, Value.slice p k.kids.length c)]).length cx)) := hJ.bel.setCell (by show w.heap.size ≤ w.heap.size + 1 + 1; omega) _
            generalize hVN : (done ++ [(bareE k, Value.slice p k.kids.length c)]).length = vn at *
            refine wpOp_step rfl (fun K hK' => ?_)
            go_simp
            refine hK' _ _ ⟨undef, rfl, fun h => absurd rfl h, fun i x' _ hx' => bsp_kept (fun q hq _ => hst q (by omega)) i x' (fun _ q hq _ => hst q (by omega)) hx', ?_⟩
            exact ⟨hbN, by simpa using hJ.sz, fun _ => by simp [hJ.d5 l5], fun _ => by simp [l5], (hst _ (by omega)).trans hJ.kid, (hst _ (by omega)).trans hJ.res, fun h => by simp at h, fun h => by simp [l5] at h,
              fun _ => ⟨_, p, c, hoN, hR.later fun q hq _ => hst q (by omega)⟩⟩
          | i + 8, ho => simp at ho
        · intro L A W hL hJ hdef hsize hkept hhas
          obtain ⟨x, p, c, hoW, hR⟩ := hJ.out1 (hL 7 (by decide))
          have hbW := hJ.bel
          have hrW := hJ.res
          obtain ⟨tt, dd'⟩ := A
          have hd' : dd' = [] := hdef
          subst hd'
          obtain ⟨q, rfl⟩ : ∃ q : List Value, tt = q.toArray := ⟨tt.toList, by simp⟩
          have hl : q.length = 47 := by
            have h : q.toArray.size = 47 := hsize
            simpa using h
          obtain ⟨⟨u0, u1, u2, u3, u4, u5, u6, u7, u8, u9, u10, u11, u12, u13, u14, u15, u16, u17, u18, u19, u20, u21, u22, u23, u24, u25, u26, u27, u28, u29, u30, u31, u32, u33, u34, u35, u36, u37, u38, u39, u40, u41, u42, u43, u44, u45, u46, rfl⟩⟩ := fb47 q hl
          have q0 : u0 = _ := hkept 0 (nd (by kernel_rfl))
          have q1 : u1 = _ := hkept 1 (nd (by kernel_rfl))
          have q2 : u2 = _ := hkept 2 (nd (by kernel_rfl))
          have q3 : u3 = _ := hkept 3 (nd (by kernel_rfl))
          have q4 : u4 = _ := hkept 4 (nd (by kernel_rfl))
          have q5 : u5 = _ := hkept 5 (nd (by kernel_rfl))
          have q6 : u6 = _ := hkept 6 (nd (by kernel_rfl))
          have q7 : u7 = _ := hkept 7 (nd (by kernel_rfl))
          have q8 : u8 = _ := hkept 8 (nd (by kernel_rfl))
          have q9 : u9 = _ := hkept 9 (nd (by kernel_rfl))
          have q10 : u10 = _ := hkept 10 (nd (by kernel_rfl))
          have q11 : u11 = _ := hkept 11 (nd (by kernel_rfl))
          have q12 : u12 = _ := hkept 12 (nd (by kernel_rfl))
          have q13 : u13 = _ := hkept 13 (nd (by kernel_rfl))
          have q14 : u14 = _ := hkept 14 (nd (by kernel_rfl))
          have q15 : u15 = _ := hkept 15 (nd (by kernel_rfl))
          have q16 : u16 = _ := hkept 16 (nd (by kernel_rfl))
          have q17 : u17 = _ := hkept 17 (nd (by kernel_rfl))
          have q18 : u18 = _ := hkept 18 (nd (by kernel_rfl))
          have q19 : u19 = _ := hkept 19 (nd (by kernel_rfl))
          have q20 : u20 = _ := hkept 20 (nd (by kernel_rfl))
          have q21 : u21 = _ := hkept 21 (nd (by kernel_rfl))
          have q22 : u22 = _ := hkept 22 (nd (by kernel_rfl))
          have q23 : u23 = _ := hkept 23 (nd (by kernel_rfl))
          have q24 : u24 = _ := hkept 24 (nd (by kernel_rfl))
          have q25 : u25 = _ := hkept 25 (nd (by kernel_rfl))
          have q26 : u26 = _ := hkept 26 (nd (by kernel_rfl))
          have q27 : u27 = _ := hkept 27 (nd (by kernel_rfl))
          have q28 : u28 = _ := hkept 28 (nd (by kernel_rfl))
          have q29 : u29 = _ := hkept 29 (nd (by kernel_rfl))
          have q30 : u30 = _ := hkept 30 (nd (by kernel_rfl))
          have q31 : u31 = _ := hkept 31 (nd (by kernel_rfl))
          have q32 : u32 = _ := hkept 32 (nd (by kernel_rfl))
          have q33 : u33 = _ := hkept 33 (nd (by kernel_rfl))
          have q34 : u34 = _ := hkept 34 (nd (by kernel_rfl))
          have q35 : u35 = _ := hkept 35 (nd (by kernel_rfl))
          have q36 : u36 = _ := hkept 36 (nd (by kernel_rfl))
          have q37 : u37 = _ := hkept 37 (nd (by kernel_rfl))
          have q45 : u45 = _ := hkept 45 (nd (by kernel_rfl))
          have q46 : u46 = _ := hkept 46 (nd (by kernel_rfl))
          subst q0 q1 q2 q3 q4 q5 q6 q7 q8 q9 q10 q11 q12 q13 q14 q15 q16 q17 q18 q19 q20 q21 q22 q23 q24 q25 q26 q27 q28 q29 q30 q31 q32 q33 q34 q35 q36 q37 q45 q46
          clear hsize hkept hhas hL hJ hl hrowA houtA hresA hxB hbA cK
          go_wp2_with fail
          go_roundw
          case rel => exact ⟨j + 1, done ++ [(bareE k, .slice p k.kids.length c)], x, by go_num, by omega, hbW, hrW, hoW, hR, by rw [HM.out]; simp⟩
          case measure => simp [intOf]; omega
      · have hlt' : ¬ (j : Int) < (e.kids.length : Int) := by omega
        have ej : j = e.kids.length := by omega
        have HO : Hid (∀ c, ∃ (p : Option Addr) (cc dd : Nat), vr = .slice p e.kids.length cc ∧ bareE e = ⟨e.kind, ka, kb, nm, e.kids.map bareE⟩ ∧ KidsAt (fun k => w.heap.size ≤ k) dd (wr.setRow (w.heap.size + 1) c) (.slice p e.kids.length cc) (e.kids.map bareE) ∧ Below w.heap.size w (wr.setRow (w.heap.size + 1) c)) := fun c => by
          obtain ⟨dd, p, cc, hv, hkd⟩ := hrow.out (by have := Hk2.out; omega)
          rw [hdl, ej] at hv
          have hmE : done.map (fun p => p.1) = e.kids.map bareE := by rw [hmap, ej, List.take_length]
          rw [hmE, hv] at hkd
          exact ⟨p, cc, dd, hv, HE.out, (hkd.kept fun q hq _ => setRow_other _ _ _ _ (by omega)).mono fun q hq => by omega, below_setRow hbr (by omega) _⟩
        obtain ⟨pv, cv, hvf⟩ := row_form hrow.own
        subst hvf
        clear HK HE Hk2 hrow hmap ej hdl
        go_wp2_with (first
          | (refine wpList_load_row rfl 38 _ rfl _ rfl _ _ _ _ hout1 exprType rfl (by kernel_rfl) ?_)
          | (refine wpList_store_row rfl 38 _ _ rfl _ _ rfl rfl _ _ hres1 (by kernel_rfl) (by rfl) (by simp [Value.oneCell']) ?_))
        refine ex_ret 2 (by kernel_rfl) (w.heap.size + 1) _ _ _ _ _ rfl rfl (setRow_heap _ _ _ _ _ _ hres1) ?_
        obtain ⟨p, cc, dd, hv, hE, hkd, hb⟩ := HO.out #[.int .i64 e.kind, .int .i64 ka, .int .i64 kb, .string ⟨nm.toArray⟩, .slice pv done.length cv]
        rw [hv] at hkd hb ⊢
        unfold OutBare
        rw [hE]
        exact ⟨p, cc, dd, rfl, hkd, hb⟩
  clear hK1 HK HE Hk2
  have hbA := (Below.refl w.heap.size w).alloc (Nat.le_refl _) (.cells #[.int .i64 e.kind, .int .i64 e.a, .int .i64 e.b, .string ⟨e.name.toArray⟩, .slice pe e.kids.length ce] 38)
  have hbB := hbA.alloc hbA.size (.cells #[.int .i64 0, .int .i64 0, .int .i64 0, .string ⟨#[]⟩, .slice none 0 0] 38)
  have hbC := hbB.alloc hbB.size (.cells #[.int .i64 e.kind, .int .i64 0, .int .i64 0, .string ⟨#[]⟩, .slice none 0 0] 38)
  have s1 : (w.alloc (.cells #[.int .i64 e.kind, .int .i64 e.a, .int .i64 e.b, .string ⟨e.name.toArray⟩, .slice pe e.kids.length ce] 38)).heap.size = w.heap.size + 1 := by simp
  have s2 : ((w.alloc (.cells #[.int .i64 e.kind, .int .i64 e.a, .int .i64 e.b, .string ⟨e.name.toArray⟩, .slice pe e.kids.length ce] 38)).alloc (.cells #[.int .i64 0, .int .i64 0, .int .i64 0, .string ⟨#[]⟩, .slice none 0 0] 38)).heap.size = w.heap.size + 1 + 1 := by simp
  have n0 := heap_alloc_new w (.cells #[.int .i64 e.kind, .int .i64 e.a, .int .i64 e.b, .string ⟨e.name.toArray⟩, .slice pe e.kids.length ce] 38)
  have n1 := heap_alloc_new (w.alloc (.cells #[.int .i64 e.kind, .int .i64 e.a, .int .i64 e.b, .string ⟨e.name.toArray⟩, .slice pe e.kids.length ce] 38)) (.cells #[.int .i64 0, .int .i64 0, .int .i64 0, .string ⟨#[]⟩, .slice none 0 0] 38)
  rw [s1] at n1
  have n2 := heap_alloc_new ((w.alloc (.cells #[.int .i64 e.kind, .int .i64 e.a, .int .i64 e.b, .string ⟨e.name.toArray⟩, .slice pe e.kids.length ce] 38)).alloc (.cells #[.int .i64 0, .int .i64 0, .int .i64 0, .string ⟨#[]⟩, .slice none 0 0] 38)) (.cells #[.int .i64 e.kind, .int .i64 0, .int .i64 0, .string ⟨#[]⟩, .slice none 0 0] 38)
  rw [s2] at n2
  have m1 := (Below.heap_alloc _ (.cells #[.int .i64 e.kind, .int .i64 0, .int .i64 0, .string ⟨#[]⟩, .slice none 0 0] 38) _ (lt_of_block n1)).trans n1
  have l0 := (Below.heap_alloc _ (.cells #[.int .i64 0, .int .i64 0, .int .i64 0, .string ⟨#[]⟩, .slice none 0 0] 38) _ (lt_of_block n0)).trans n0
  have m0 := (Below.heap_alloc _ (.cells #[.int .i64 e.kind, .int .i64 0, .int .i64 0, .string ⟨#[]⟩, .slice none 0 0] 38) _ (lt_of_block l0)).trans l0
  clear n0 n1 l0 hbA hbB s1 s2
  generalize hW0 : (((w.alloc (.cells #[.int .i64 e.kind, .int .i64 e.a, .int .i64 e.b, .string ⟨e.name.toArray⟩, .slice pe e.kids.length ce] 38)).alloc (.cells #[.int .i64 0, .int .i64 0, .int .i64 0, .string ⟨#[]⟩, .slice none 0 0] 38)).alloc (.cells #[.int .i64 e.kind, .int .i64 0, .int .i64 0, .string ⟨#[]⟩, .slice none 0 0] 38)) = W0 at *
  clear hW0
  have pa := (cell_of_row _ _ 1 _ _ _ m0).trans rfl
  have pb := (cell_of_row _ _ 2 _ _ _ m0).trans rfl
  have pn := (cell_of_row _ _ 3 _ _ _ m0).trans rfl
  have oa := (cell_of_row _ _ 1 _ _ _ n2).trans rfl
  have ob := (cell_of_row _ _ 2 _ _ _ n2).trans rfl
  have on := (cell_of_row _ _ 3 _ _ _ n2).trans rfl
  have ya := frozen_of_row _ _ 1 _ _ n2
  have yb := frozen_of_row _ _ 2 _ _ n2
  have yn := frozen_of_row _ _ 3 _ _ n2
  by_cases h35 : e.kind = 3 ∨ e.kind = 5
  · have eA : bareA e.kind e.a = e.a := if_pos (by omega)
    have eB : bareB e.kind e.b = e.b := if_pos h35
    have eN : bareN e.kind e.name = [] := if_neg (by omega)
    rw [eA, eB, eN] at key
    have hbN : Below w.heap.size w ((W0.setCell ⟨w.heap.size + 1 + 1, 1, none⟩ (.int .i64 e.a)).setCell ⟨w.heap.size + 1 + 1, 2, none⟩ (.int .i64 e.b)) := (hbC.setCell (by show w.heap.size ≤ w.heap.size + 1 + 1; omega) _).setCell (by show w.heap.size ≤ w.heap.size + 1 + 1; omega) _
    have z0 := (heap_setCell_other (W0.setCell ⟨w.heap.size + 1 + 1, 1, none⟩ (.int .i64 e.a)) ⟨w.heap.size + 1 + 1, 2, none⟩ w.heap.size (.int .i64 e.b) (by show w.heap.size ≠ w.heap.size + 1 + 1; omega)).trans ((heap_setCell_other W0 ⟨w.heap.size + 1 + 1, 1, none⟩ w.heap.size (.int .i64 e.a) (by show w.heap.size ≠ w.heap.size + 1 + 1; omega)).trans m0)
    have z1 := (heap_setCell_other (W0.setCell ⟨w.heap.size + 1 + 1, 1, none⟩ (.int .i64 e.a)) ⟨w.heap.size + 1 + 1, 2, none⟩ (w.heap.size + 1) (.int .i64 e.b) (by show w.heap.size + 1 ≠ w.heap.size + 1 + 1; omega)).trans ((heap_setCell_other W0 ⟨w.heap.size + 1 + 1, 1, none⟩ (w.heap.size + 1) (.int .i64 e.a) (by show w.heap.size + 1 ≠ w.heap.size + 1 + 1; omega)).trans m1)
    have z2 := heap_setCell_same _ (w.heap.size + 1 + 1) 2 _ _ (.int .i64 e.b) (heap_setCell_same W0 (w.heap.size + 1 + 1) 1 _ _ (.int .i64 e.a) n2)
    by_cases h3 : e.kind = 3
    · have t3 : (e.kind == 3) = true := by rw [h3]; rfl
      clear eA eB eN h35 h3
      go_wp2_with fail
      go_region
      go_wp2_with fail
      exact key _ _ _ _ _ _ _ _ _ _ _ _ _ _ _ _ _ _ _ _ _ hbN.drew z0 z1 z2
    · have t3 : (e.kind == 3) = false := beq_eq_false_iff_ne.2 h3
      have t5 : (e.kind == 5) = true := by rw [show e.kind = 5 by omega]; rfl
      clear eA eB eN h35 h3
      go_wp2_with fail
      go_region
      go_wp2_with fail
      exact key _ _ _ _ _ _ _ _ _ _ _ _ _ _ _ _ _ _ _ _ _ hbN.drew z0 z1 z2
  · have eB : bareB e.kind e.b = 0 := if_neg h35
    have t3 : (e.kind == 3) = false := beq_eq_false_iff_ne.2 (by omega)
    have t5 : (e.kind == 5) = false := beq_eq_false_iff_ne.2 (by omega)
    by_cases h49 : e.kind = 4 ∨ e.kind = 9
    · have eA : bareA e.kind e.a = e.a := if_pos (by omega)
      have eN : bareN e.kind e.name = [] := if_neg (by omega)
      rw [eA, eB, eN] at key
      have hbN : Below w.heap.size w (W0.setCell ⟨w.heap.size + 1 + 1, 1, none⟩ (.int .i64 e.a)) := hbC.setCell (by show w.heap.size ≤ w.heap.size + 1 + 1; omega) _
      have z0 := (heap_setCell_other W0 ⟨w.heap.size + 1 + 1, 1, none⟩ w.heap.size (.int .i64 e.a) (by show w.heap.size ≠ w.heap.size + 1 + 1; omega)).trans m0
      have z1 := (heap_setCell_other W0 ⟨w.heap.size + 1 + 1, 1, none⟩ (w.heap.size + 1) (.int .i64 e.a) (by show w.heap.size + 1 ≠ w.heap.size + 1 + 1; omega)).trans m1
      have z2 := heap_setCell_same W0 (w.heap.size + 1 + 1) 1 _ _ (.int .i64 e.a) n2
      clear eA eB eN m0 m1 n2 hbC
      rcases h49 with h4 | h9
      · have t4 : (e.kind == 4) = true := by rw [h4]; rfl
        clear h35 h4
        go_wp2_with fail
        exact key _ _ _ _ _ _ _ _ _ _ _ _ _ _ _ _ _ _ _ _ _ hbN z0 z1 z2
      · have t4 : (e.kind == 4) = false := by rw [h9]; rfl
        have t9 : (e.kind == 9) = true := by rw [h9]; rfl
        clear h35 h9
        go_wp2_with fail
        exact key _ _ _ _ _ _ _ _ _ _ _ _ _ _ _ _ _ _ _ _ _ hbN z0 z1 z2
    · have eA : bareA e.kind e.a = 0 := if_neg (by omega)
      have t4 : (e.kind == 4) = false := beq_eq_false_iff_ne.2 (by omega)
      have t9 : (e.kind == 9) = false := beq_eq_false_iff_ne.2 (by omega)
      by_cases h10 : e.kind = 10
      · have eN : bareN e.kind e.name = e.name := if_pos h10
        rw [eA, eB, eN] at key
        have t10 : (e.kind == 10) = true := by rw [h10]; rfl
        have hbN : Below w.heap.size w (W0.setCell ⟨w.heap.size + 1 + 1, 3, none⟩ (.string ⟨e.name.toArray⟩)) := hbC.setCell (by show w.heap.size ≤ w.heap.size + 1 + 1; omega) _
        have z0 := (heap_setCell_other W0 ⟨w.heap.size + 1 + 1, 3, none⟩ w.heap.size (.string ⟨e.name.toArray⟩) (by show w.heap.size ≠ w.heap.size + 1 + 1; omega)).trans m0
        have z1 := (heap_setCell_other W0 ⟨w.heap.size + 1 + 1, 3, none⟩ (w.heap.size + 1) (.string ⟨e.name.toArray⟩) (by show w.heap.size + 1 ≠ w.heap.size + 1 + 1; omega)).trans m1
        have z2 := heap_setCell_same W0 (w.heap.size + 1 + 1) 3 _ _ (.string ⟨e.name.toArray⟩) n2
        clear eA eB eN m0 m1 n2 hbC h35 h49 h10
        go_wp2_with fail
        exact key _ _ _ _ _ _ _ _ _ _ _ _ _ _ _ _ _ _ _ _ _ hbN z0 z1 z2
      · have eN : bareN e.kind e.name = [] := if_neg h10
        rw [eA, eB, eN] at key
        have t10 : (e.kind == 10) = false := beq_eq_false_iff_ne.2 h10
        clear eA eB eN h35 h49 h10
        go_wp2_with fail
        exact key _ _ _ _ _ _ _ _ _ _ _ _ _ _ _ _ _ _ _ _ _ hbC m0 m1 n2
theorem rbare_any : ∀ (d : Nat) (e : Ex) (sl : Value) (w : World), KidsB (fun k => k < w.heap.size) d w sl e.kids → allA e = true → Calls Tryz.prog 12 #[exV e sl] w (OutBare e w)
  | 0, e, sl, w, hk, hA => by
    obtain ⟨h0, p, c, rfl⟩ := hk
    have := rbare_step e p c w hA (fun j k hj => by rw [h0] at hj; simp at hj)
    rw [h0] at this
    exact this
  | d + 1, e, sl, w, hk, hA => by
    obtain ⟨pe, ce, hsl⟩ := hk.form
    subst hsl
    refine rbare_step e pe ce w hA fun j k hj => ?_
    rcases hk with ⟨h0, _⟩ | ⟨g, o, c, hB, hs, hl, hkk⟩
    · rw [h0] at hj; simp at hj
    · obtain ⟨_, sk, c0, c1, c2, c3, c4, r⟩ := hkk j k hj
      obtain ⟨ps, cs, rfl⟩ := r.form
      injection hs with e1
      exact ⟨g, o, ps, cs, e1, c0, c1, c2, c3, c4, fun W hb => rbare_any d k _ W ((r.kept fun q _ hl => hb.block q hl).mono fun q hq => Nat.lt_of_lt_of_le hq hb.size) (((allA_iff e).1 hA).2 k (List.mem_of_getElem? hj))⟩
end Go.Proofs.YteheahhifihmjaaGreatDoor
