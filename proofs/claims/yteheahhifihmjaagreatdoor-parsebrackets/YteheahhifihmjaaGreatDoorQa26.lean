/- The reader whole; how deep an expression is. -/
import Derived.Test.YteheahhifihmjaaGreatDoorQa25
import Derived.Test.YteheahhifihmjaaGreatDoorQa07
import Derived.Test.YteheahhifihmjaaGreatDoorQa24
namespace Go.Proofs.YteheahhifihmjaaGreatDoor
open Go.RowKit Lx
variable {all : List Tk} {E g : Nat} {v : Value} {w : World} {i n : Nat}

theorem reader_all (h0 : PS0 all E g v) : ∀ (k i : Nat), all.length + 1 - i ≤ k →
    RC all E g v 95 6 i ∧ RC all E g v 81 4 i ∧ RC all E g v 65 2 i ∧ RC all E g v 50 0 i
  | 0, i, hk => ⟨fun _ _ _ h _ _ => absurd h.le (by omega), fun _ _ _ h _ _ => absurd h.le (by omega), fun _ _ _ h _ _ => absurd h.le (by omega), fun _ _ _ h _ _ => absurd h.le (by omega)⟩
  | k + 1, i, hk => by
    have ih := fun j (hj : i < j) => reader_all h0 k j (by omega)
    have t := thing_step h0 (fun j hj => (ih j hj).2.2.2) (fun j hj => (ih j hj).2.1)
    have f := factor_step h0 t
    have m := term_step h0 f (fun j hj => (ih j hj).2.1)
    exact ⟨t, f, m, sum_step h0 m (fun j hj => (ih j hj).2.2.1)⟩
theorem sum_all (h0 : PS0 all E g v) (i : Nat) : RC all E g v 50 0 i := (reader_all h0 _ i (Nat.le_refl _)).2.2.2
end Go.Proofs.YteheahhifihmjaaGreatDoor

/- What height comes to. -/
namespace Go.Proofs.YteheahhifihmjaaGreatDoor
open Go.RowKit Lx

set_option maxRecDepth 100000 in
set_option maxHeartbeats 1000000 in
theorem height_any (B : Nat → Prop) : ∀ (d : Nat) (e : Ex) (sl : Value) (w : World), KidsAt B d w sl e.kids → hgt e ≤ 1000000 →
    Calls Tryz.prog 51 #[exV e sl] w fun r w' => r = .returned (.int .i64 (hgt e : Int)) ∧ Below w.heap.size w w' := by
  intro d
  induction d with
  | zero =>
    intro e sl w hk hh
    obtain ⟨hks, p, c, rfl⟩ := hk
    have he : hgt e = 1 := by rw [hgt_eq, hks]; rfl
    rw [he]
    unfold exV
    go_enter Tryz.func51, Tryz.ntmps51
    go_wp2_with fail
    refine wp_loop_rounds 1 ?_
    rw [rounds_succ]
    go_wp2_with fail
    go_ret
    exact ⟨rfl, (Below.refl _ _).alloc (Nat.le_refl _) _⟩
  | succ d ih =>
    intro e sl w hk hh
    rcases hk with ⟨hks, p, c, rfl⟩ | ⟨g, o, c, hB, rfl, hlen, hkid⟩
    · have he : hgt e = 1 := by rw [hgt_eq, hks]; rfl
      rw [he]
      unfold exV
      go_enter Tryz.func51, Tryz.ntmps51
      go_wp2_with fail
      refine wp_loop_rounds 1 ?_
      rw [rounds_succ]
      go_wp2_with fail
      go_ret
      exact ⟨rfl, (Below.refl _ _).alloc (Nat.le_refl _) _⟩
    · have HK : Hid (∀ (j : Nat) (k : Ex), e.kids[j]? = some k → ∃ sk : Value,
        w.cell? ⟨g, o + j * 5, none⟩ = some (.int .i64 k.kind) ∧ w.cell? ⟨g, o + j * 5 + 1, none⟩ = some (.int .i64 k.a) ∧ w.cell? ⟨g, o + j * 5 + 2, none⟩ = some (.int .i64 k.b) ∧
        w.cell? ⟨g, o + j * 5 + 3, none⟩ = some (.string ⟨k.name.toArray⟩) ∧ w.cell? ⟨g, o + j * 5 + 4, none⟩ = some sk ∧ KidsAt B d w sk k.kids) := hkid
      have HE : Hid (hgt e = hgtL e.kids + 1) := hgt_eq e
      have HM : Hid (∀ k ∈ e.kids, hgt k < hgt e) := fun k h => hgt_kid h
      have hb0 : Below w.heap.size w (w.alloc (.cells #[.int .i64 e.kind, .int .i64 e.a, .int .i64 e.b, .string ⟨e.name.toArray⟩, .slice (some ⟨g, o, none⟩) e.kids.length c] 38)) := (Below.refl _ _).alloc (Nat.le_refl _) _
      unfold exV
      clear hkid
      go_enter Tryz.func51, Tryz.ntmps51
      go_wp2_with fail
      go_loopw [3, 9] (fun q t wr => ∃ j : Nat, t = .int .i64 (j : Int) ∧ j ≤ e.kids.length ∧ q = .int .i64 (hgtL (e.kids.take j) : Int) ∧ hgtL (e.kids.take j) ≤ 1000000 ∧ Below w.heap.size w wr) (fun _ t _ => e.kids.length - (intOf t).toNat)
      case atStart => exact ⟨0, rfl, by omega, rfl, by simp [hgtL], hb0⟩
      case round =>
        obtain ⟨j, rfl, hj, rfl, hm, hbel⟩ := hrel
        have hj0 : (0 : Int) ≤ (j : Int) := by omega
        by_cases hlt : j < e.kids.length
        · have hlt' : (j : Int) < (e.kids.length : Int) := by omega
          obtain ⟨k, hjk⟩ : ∃ k, e.kids[j]? = some k := ⟨e.kids[j], List.getElem?_eq_getElem hlt⟩
          obtain ⟨sk, c0, c1, c2, c3, c4, hkk⟩ := HK.out j k hjk
          have hkm := HM.out k (List.mem_of_getElem? hjk)
          have ht : e.kids.take (j + 1) = e.kids.take j ++ [k] := by
            obtain ⟨h1, h2⟩ := List.getElem?_eq_some_iff.1 hjk
            rw [List.take_succ_eq_append_getElem h1, h2]
          have hn : hgtL (e.kids.take (j + 1)) = max (hgtL (e.kids.take j)) (hgt k) := by rw [ht, hgtL_snoc]
          obtain ⟨ps, cs, rfl⟩ := hkk.form
          have d0 := (hbel.cell (block_lt_of_cell c0)).trans c0
          have d1 := (hbel.cell (block_lt_of_cell c1)).trans c1
          have d2 := (hbel.cell (block_lt_of_cell c2)).trans c2
          have d3 := (hbel.cell (block_lt_of_cell c3)).trans c3
          have d4 := (hbel.cell (block_lt_of_cell c4)).trans c4
          have hbA := hbel.alloc hbel.size (.cells #[.int .i64 k.kind, .int .i64 k.a, .int .i64 k.b, .string ⟨k.name.toArray⟩, .slice ps k.kids.length cs] 38)
          have cR := ih k (.slice ps k.kids.length cs) (wr.alloc (.cells #[.int .i64 k.kind, .int .i64 k.a, .int .i64 k.b, .string ⟨k.name.toArray⟩, .slice ps k.kids.length cs] 38)) (hkk.kept fun q _ hq => hbA.block q hq) (by omega)
          have hxB := heap_alloc_new wr (.cells #[.int .i64 k.kind, .int .i64 k.a, .int .i64 k.b, .string ⟨k.name.toArray⟩, .slice ps k.kids.length cs] 38)
          unfold exV at cR
          have HN : Hid (hgtL (e.kids.take (j + 1)) = max (hgtL (e.kids.take j)) (hgt k)) := hn
          have hk6 : (hgt k : Int) ≤ 1000000 := by omega
          have hm6 : (hgtL (e.kids.take j) : Int) ≤ 1000000 := by omega
          generalize hgt k = H at *
          generalize hgtL (e.kids.take j) = M at *
          clear hn ht hkk c0 c1 c2 c3 c4 hjk hkm
          generalize hwB : wr.alloc (.cells #[.int .i64 k.kind, .int .i64 k.a, .int .i64 k.b, .string ⟨k.name.toArray⟩, .slice ps k.kids.length cs] 38) = wB at *
          go_wp2_with (refine wpList_load_row rfl 38 _ rfl _ rfl _ _ _ _ hxB exprType rfl (by kernel_rfl) ?_)
          refine cR.mono ?_
          rintro e' w2 ⟨rfl, hb2⟩
          have hbw2 := hbA.trans (hb2.mono hbA.size)
          clear cR hb2 hbA hwB hxB
          go_wp2_with fail
          go_roundw
          case rel => exact ⟨j + 1, by go_num, by omega, by rw [HN.out]; exact i64_eq (by omega), by rw [HN.out]; omega, hbw2⟩
          case measure => simp [intOf]; omega
        · have ej : j = e.kids.length := by omega
          have hlt' : ¬ (j : Int) < (e.kids.length : Int) := by omega
          have HR : Hid (hgt e = hgtL (e.kids.take j) + 1) := by
            show _ = _
            rw [HE.out, ej, List.take_length]
          have hm6 : (hgtL (e.kids.take j) : Int) ≤ 1000000 := by omega
          generalize hgtL (e.kids.take j) = M at *
          clear HE HK HM ej
          go_wp2_with fail
          go_ret
          exact ⟨by rw [HR.out]; rfl, hbel⟩
end Go.Proofs.YteheahhifihmjaaGreatDoor

/- What the document's Equal comes to, of one expression that lies in memory twice. -/
namespace Go.Proofs.YteheahhifihmjaaGreatDoor
open Go.RowKit Lx

/-- So many values, one by one. -/
structure Fs60 (l : List Value) where
  (u0 u1 u2 u3 u4 u5 u6 u7 u8 u9 u10 u11 u12 u13 u14 u15 u16 u17 u18 u19 u20 u21 u22 u23 u24 u25 u26 u27 u28 u29 u30 u31 u32 u33 u34 u35 u36 u37 u38 u39 u40 u41 u42 u43 u44 u45 u46 u47 u48 u49 u50 u51 u52 u53 u54 u55 u56 u57 u58 u59 : Value)
  eq : l = [u0, u1, u2, u3, u4, u5, u6, u7, u8, u9, u10, u11, u12, u13, u14, u15, u16, u17, u18, u19, u20, u21, u22, u23, u24, u25, u26, u27, u28, u29, u30, u31, u32, u33, u34, u35, u36, u37, u38, u39, u40, u41, u42, u43, u44, u45, u46, u47, u48, u49, u50, u51, u52, u53, u54, u55, u56, u57, u58, u59]
set_option maxRecDepth 100000 in
theorem fs60 (l : List Value) (hl : l.length = 60) : Nonempty (Fs60 l) := allL 60 (fun l => Nonempty (Fs60 l)) (fun u0 u1 u2 u3 u4 u5 u6 u7 u8 u9 u10 u11 u12 u13 u14 u15 u16 u17 u18 u19 u20 u21 u22 u23 u24 u25 u26 u27 u28 u29 u30 u31 u32 u33 u34 u35 u36 u37 u38 u39 u40 u41 u42 u43 u44 u45 u46 u47 u48 u49 u50 u51 u52 u53 u54 u55 u56 u57 u58 u59 => ⟨⟨u0, u1, u2, u3, u4, u5, u6, u7, u8, u9, u10, u11, u12, u13, u14, u15, u16, u17, u18, u19, u20, u21, u22, u23, u24, u25, u26, u27, u28, u29, u30, u31, u32, u33, u34, u35, u36, u37, u38, u39, u40, u41, u42, u43, u44, u45, u46, u47, u48, u49, u50, u51, u52, u53, u54, u55, u56, u57, u58, u59, rfl⟩⟩) l hl
/-- What a value of the region is, once it is there. -/
def esp (bA bB ga oa ca gb ob cb n j : Nat) (k0 k1 k2 : Int) (nm : ByteArray) (pa pb : Option Addr) (m sa sb : Nat) (q : Nat) (x : Value) : Prop := match q with
  | 0 => x = .pointer (some ⟨bA, 4, none⟩)
  | 1 => x = .slice (some ⟨ga, oa, none⟩) n ca
  | 2 => x = .int .i64 (j : Int)
  | 3 => x = .pointer (some ⟨ga, oa + j * 5, none⟩)
  | 4 => x = .agg #[.int .i64 k0, .int .i64 k1, .int .i64 k2, .string nm, .slice pa m sa]
  | 5 => x = .pointer (some ⟨bB, 4, none⟩)
  | 6 => x = .slice (some ⟨gb, ob, none⟩) n cb
  | 7 => x = .int .i64 (j : Int)
  | 8 => x = .pointer (some ⟨gb, ob + j * 5, none⟩)
  | 9 => x = .agg #[.int .i64 k0, .int .i64 k1, .int .i64 k2, .string nm, .slice pb m sb]
  | 10 => x = .bool true
  | 11 => x = .bool false
  | _ => True

theorem leaf_equal (B B' : Nat → Prop) (d : Nat) (e : Ex) (sa sb : Value) (w : World) (hks : e.kids = []) (ha : KidsAt B d w sa e.kids) (hb : KidsAt B' d w sb e.kids) :
    Calls Tryz.prog 20 #[exV e sa, exV e sb] w fun r w' => r = .returned (.bool true) ∧ Below w.heap.size w w' := by
  obtain ⟨pa, ca, rfl⟩ := ha.form
  obtain ⟨pb, cb, rfl⟩ := hb.form
  have h0 : e.kids.length = 0 := by rw [hks]; rfl
  rw [h0]
  unfold exV
  have hbA := ((Below.refl w.heap.size w).alloc (Nat.le_refl _) (.cells #[.int .i64 e.kind, .int .i64 e.a, .int .i64 e.b, .string ⟨e.name.toArray⟩, .slice pa 0 ca] 38)).alloc (by simp) (.cells #[.int .i64 e.kind, .int .i64 e.a, .int .i64 e.b, .string ⟨e.name.toArray⟩, .slice pb 0 cb] 38)
  go_enter Tryz.func20, Tryz.ntmps20
  go_wp2_with fail
  refine wp_loop_rounds 1 ?_
  rw [rounds_succ]
  go_wp2_with fail
  go_ret
  exact ⟨rfl, hbA⟩

set_option maxRecDepth 100000 in
set_option maxHeartbeats 4000000 in
theorem equal_any (B B' : Nat → Prop) : ∀ (d : Nat) (e : Ex) (sa sb : Value) (w : World), KidsAt B d w sa e.kids → KidsAt B' d w sb e.kids →
    Calls Tryz.prog 20 #[exV e sa, exV e sb] w fun r w' => r = .returned (.bool true) ∧ Below w.heap.size w w' := by
  intro d
  induction d with
  | zero =>
    intro e sa sb w ha hb
    exact leaf_equal B B' 0 e sa sb w ha.1 ha hb
  | succ d ih =>
    intro e sa sb w ha hb
    by_cases hks : e.kids = []
    · exact leaf_equal B B' (d + 1) e sa sb w hks ha hb
    · rcases ha with ⟨h, _⟩ | ⟨ga, oa, ca, _, rfl, hlen, hka⟩
      · exact absurd h hks
      rcases hb with ⟨h, _⟩ | ⟨gb, ob, cb, _, rfl, _, hkb⟩
      · exact absurd h hks
      have HA : Hid (∀ (j : Nat) (k : Ex), e.kids[j]? = some k → ∃ sk : Value,
        w.cell? ⟨ga, oa + j * 5, none⟩ = some (.int .i64 k.kind) ∧ w.cell? ⟨ga, oa + j * 5 + 1, none⟩ = some (.int .i64 k.a) ∧ w.cell? ⟨ga, oa + j * 5 + 2, none⟩ = some (.int .i64 k.b) ∧
        w.cell? ⟨ga, oa + j * 5 + 3, none⟩ = some (.string ⟨k.name.toArray⟩) ∧ w.cell? ⟨ga, oa + j * 5 + 4, none⟩ = some sk ∧ KidsAt B d w sk k.kids) := hka
      have HB : Hid (∀ (j : Nat) (k : Ex), e.kids[j]? = some k → ∃ sk : Value,
        w.cell? ⟨gb, ob + j * 5, none⟩ = some (.int .i64 k.kind) ∧ w.cell? ⟨gb, ob + j * 5 + 1, none⟩ = some (.int .i64 k.a) ∧ w.cell? ⟨gb, ob + j * 5 + 2, none⟩ = some (.int .i64 k.b) ∧
        w.cell? ⟨gb, ob + j * 5 + 3, none⟩ = some (.string ⟨k.name.toArray⟩) ∧ w.cell? ⟨gb, ob + j * 5 + 4, none⟩ = some sk ∧ KidsAt B' d w sk k.kids) := hkb
      have hb1 := (Below.refl w.heap.size w).alloc (Nat.le_refl _) (.cells #[.int .i64 e.kind, .int .i64 e.a, .int .i64 e.b, .string ⟨e.name.toArray⟩, .slice (some ⟨ga, oa, none⟩) e.kids.length ca] 38)
      have hbw := hb1.alloc (by simp) (.cells #[.int .i64 e.kind, .int .i64 e.a, .int .i64 e.b, .string ⟨e.name.toArray⟩, .slice (some ⟨gb, ob, none⟩) e.kids.length cb] 38)
      have hA1 := heap_alloc_new w (.cells #[.int .i64 e.kind, .int .i64 e.a, .int .i64 e.b, .string ⟨e.name.toArray⟩, .slice (some ⟨ga, oa, none⟩) e.kids.length ca] 38)
      have hA2 := (Below.heap_alloc _ (.cells #[.int .i64 e.kind, .int .i64 e.a, .int .i64 e.b, .string ⟨e.name.toArray⟩, .slice (some ⟨gb, ob, none⟩) e.kids.length cb] 38) _ (lt_of_block hA1)).trans hA1
      have hB2 := heap_alloc_new (w.alloc (.cells #[.int .i64 e.kind, .int .i64 e.a, .int .i64 e.b, .string ⟨e.name.toArray⟩, .slice (some ⟨ga, oa, none⟩) e.kids.length ca] 38)) (.cells #[.int .i64 e.kind, .int .i64 e.a, .int .i64 e.b, .string ⟨e.name.toArray⟩, .slice (some ⟨gb, ob, none⟩) e.kids.length cb] 38)
      rw [show (w.alloc (.cells #[.int .i64 e.kind, .int .i64 e.a, .int .i64 e.b, .string ⟨e.name.toArray⟩, .slice (some ⟨ga, oa, none⟩) e.kids.length ca] 38)).heap.size = w.heap.size + 1 by simp] at hB2
      have hszs : ((w.alloc (.cells #[.int .i64 e.kind, .int .i64 e.a, .int .i64 e.b, .string ⟨e.name.toArray⟩, .slice (some ⟨ga, oa, none⟩) e.kids.length ca] 38)).alloc (.cells #[.int .i64 e.kind, .int .i64 e.a, .int .i64 e.b, .string ⟨e.name.toArray⟩, .slice (some ⟨gb, ob, none⟩) e.kids.length cb] 38)).heap.size = w.heap.size + 2 := by simp
      unfold exV
      clear hka hkb hb1 hA1 hks
      go_enter Tryz.func20, Tryz.ntmps20
      go_wp2_with fail
      generalize hw0 : (w.alloc (.cells #[.int .i64 e.kind, .int .i64 e.a, .int .i64 e.b, .string ⟨e.name.toArray⟩, .slice (some ⟨ga, oa, none⟩) e.kids.length ca] 38)).alloc (.cells #[.int .i64 e.kind, .int .i64 e.a, .int .i64 e.b, .string ⟨e.name.toArray⟩, .slice (some ⟨gb, ob, none⟩) e.kids.length cb] 38) = w0 at *
      clear hw0
      have HZ : Hid (w0.heap.size = w.heap.size + 2) := hszs
      clear hszs
      go_loopw [44] (fun t wr => ∃ j : Nat, t = .int .i64 (j : Int) ∧ j ≤ e.kids.length ∧ Below w0.heap.size w0 wr) (fun t _ => e.kids.length - (intOf t).toNat)
      case atStart => exact ⟨0, rfl, by omega, Below.refl _ _⟩
      case round =>
        obtain ⟨j, rfl, hj, hbr⟩ := hrel
        have hj0 : (0 : Int) ≤ (j : Int) := by omega
        have va0 : wr.cell? ⟨w.heap.size, 4, none⟩ = some (.slice (some ⟨ga, oa, none⟩) e.kids.length ca) := (hbr.cell (lt_of_block hA2)).trans ((cell_of_row _ _ 4 _ _ _ hA2).trans rfl)
        have vb0 : wr.cell? ⟨w.heap.size + 1, 4, none⟩ = some (.slice (some ⟨gb, ob, none⟩) e.kids.length cb) := (hbr.cell (lt_of_block hB2)).trans ((cell_of_row _ _ 4 _ _ _ hB2).trans rfl)
        by_cases hlt : j < e.kids.length
        · have hlt' : (j : Int) < (e.kids.length : Int) := by omega
          obtain ⟨k, hjk⟩ : ∃ k, e.kids[j]? = some k := ⟨e.kids[j], List.getElem?_eq_getElem hlt⟩
          obtain ⟨ska, a000, a100, a200, a300, a400, hkka⟩ := HA.out j k hjk
          obtain ⟨skb, b000, b100, b200, b300, b400, hkkb⟩ := HB.out j k hjk
          obtain ⟨pa, sa, rfl⟩ := hkka.form
          obtain ⟨pb, sb, rfl⟩ := hkkb.form
          have a00 := (hbr.cell (by have := block_lt_of_cell a000; have := HZ.out; omega)).trans ((hbw.cell (block_lt_of_cell a000)).trans a000)
          have a10 := (hbr.cell (by have := block_lt_of_cell a100; have := HZ.out; omega)).trans ((hbw.cell (block_lt_of_cell a100)).trans a100)
          have a20 := (hbr.cell (by have := block_lt_of_cell a200; have := HZ.out; omega)).trans ((hbw.cell (block_lt_of_cell a200)).trans a200)
          have a30 := (hbr.cell (by have := block_lt_of_cell a300; have := HZ.out; omega)).trans ((hbw.cell (block_lt_of_cell a300)).trans a300)
          have a40 := (hbr.cell (by have := block_lt_of_cell a400; have := HZ.out; omega)).trans ((hbw.cell (block_lt_of_cell a400)).trans a400)
          have b00 := (hbr.cell (by have := block_lt_of_cell b000; have := HZ.out; omega)).trans ((hbw.cell (block_lt_of_cell b000)).trans b000)
          have b10 := (hbr.cell (by have := block_lt_of_cell b100; have := HZ.out; omega)).trans ((hbw.cell (block_lt_of_cell b100)).trans b100)
          have b20 := (hbr.cell (by have := block_lt_of_cell b200; have := HZ.out; omega)).trans ((hbw.cell (block_lt_of_cell b200)).trans b200)
          have b30 := (hbr.cell (by have := block_lt_of_cell b300; have := HZ.out; omega)).trans ((hbw.cell (block_lt_of_cell b300)).trans b300)
          have b40 := (hbr.cell (by have := block_lt_of_cell b400; have := HZ.out; omega)).trans ((hbw.cell (block_lt_of_cell b400)).trans b400)
          have cE : ∀ W, Below wr.heap.size wr W → Calls Tryz.prog 20 #[.agg #[.int .i64 k.kind, .int .i64 k.a, .int .i64 k.b, .string ⟨k.name.toArray⟩, .slice pa k.kids.length sa], .agg #[.int .i64 k.kind, .int .i64 k.a, .int .i64 k.b, .string ⟨k.name.toArray⟩, .slice pb k.kids.length sb]] W fun r w' => r = .returned (.bool true) ∧ Below W.heap.size W w' := fun W hW =>
            ih k _ _ W (hkka.kept fun g _ hg => (hW.block g (by have := hbr.size; have := HZ.out; omega)).trans ((hbr.block g (by have := HZ.out; omega)).trans (hbw.block g hg))) (hkkb.kept fun g _ hg => (hW.block g (by have := hbr.size; have := HZ.out; omega)).trans ((hbr.block g (by have := HZ.out; omega)).trans (hbw.block g hg)))
          clear a000 a100 a200 a300 a400 b000 b100 b200 b300 b400 hkka hkkb hjk
          go_wp2_with fail
          refine wp_region_flow (by kernel_rfl) (by kernel_rfl) (by kernel_rfl) (by kernel_rfl) (fun _ _ W => Below wr.heap.size wr W) (fun q x _ => esp w.heap.size (w.heap.size + 1) ga oa ca gb ob cb e.kids.length j k.kind k.a k.b ⟨k.name.toArray⟩ pa pb k.kids.length sa sb q x) ?_ ?_ ?_
          · intro L hL
            exact (Below.refl _ _).drew
          · intro q o L A W ho hLi hdep hJ hdef hkept hhas
            clear hdef hLi
            have fin : ∀ (x : Value) (ds : Nat) (W' : World), Below W.heap.size W W' → esp w.heap.size (w.heap.size + 1) ga oa ca gb ob cb e.kids.length j k.kind k.a k.b ⟨k.name.toArray⟩ pa pb k.kids.length sa sb q x → ∃ y, A.put (some ds) x = A.put (some ds) y ∧ (some ds ≠ none → esp w.heap.size (w.heap.size + 1) ga oa ca gb ob cb e.kids.length j k.kind k.a k.b ⟨k.name.toArray⟩ pa pb k.kids.length sa sb q y) ∧ (∀ q' x', L q' = true → esp w.heap.size (w.heap.size + 1) ga oa ca gb ob cb e.kids.length j k.kind k.a k.b ⟨k.name.toArray⟩ pa pb k.kids.length sa sb q' x' → esp w.heap.size (w.heap.size + 1) ga oa ca gb ob cb e.kids.length j k.kind k.a k.b ⟨k.name.toArray⟩ pa pb k.kids.length sa sb q' x') ∧ Below wr.heap.size wr W' := by
              intro x ds W' hb hv
              exact ⟨x, rfl, fun _ => hv, fun _ _ _ h => h, hJ.trans (hb.mono hJ.size)⟩
            match q, ho with
            | 0, ho =>
              cases Option.some.inj ho
              have h2 : A.tmps[2]?.getD undef = .pointer (some ⟨w.heap.size, 0, none⟩) := (gd A 2).trans (hkept 2 (fun j p hp _ => nd (by kernel_rfl) j p hp))
              refine wpOp_step rfl (fun K hK => ?_)
              go_simp
              exact hK _ _ (fin _ 47 _ (Below.refl _ _) rfl)
            | 1, ho =>
              cases Option.some.inj ho
              have h47 : A.tmps[47]?.getD undef = .pointer (some ⟨w.heap.size, 4, none⟩) := (gd A 47).trans (show A.tmps.getD 47 undef = .pointer (some ⟨w.heap.size, 4, none⟩) from hhas 0 _ rfl (hdep ⟨0, .data⟩ (by simp) rfl) 47 rfl)
              have va : W.cell? ⟨w.heap.size, 4, none⟩ = some (.slice (some ⟨ga, oa, none⟩) e.kids.length ca) := (hJ.cell (block_lt_of_cell va0)).trans va0
              refine wpOp_step rfl (fun K hK => ?_)
              go_simp
              exact hK _ _ (fin _ 48 _ (Below.refl _ _) rfl)
            | 2, ho =>
              cases Option.some.inj ho
              have h5 : A.tmps[5]?.getD undef = .int .i64 (j : Int) := (gd A 5).trans (hkept 5 (fun j p hp _ => nd (by kernel_rfl) j p hp))
              refine wpOp_step rfl (fun K hK => ?_)
              go_simp
              exact hK _ _ (fin _ 49 _ (Below.refl _ _) rfl)
            | 3, ho =>
              cases Option.some.inj ho
              have h48 : A.tmps[48]?.getD undef = .slice (some ⟨ga, oa, none⟩) e.kids.length ca := (gd A 48).trans (show A.tmps.getD 48 undef = .slice (some ⟨ga, oa, none⟩) e.kids.length ca from hhas 1 _ rfl (hdep ⟨1, .data⟩ (by simp) rfl) 48 rfl)
              have h49 : A.tmps[49]?.getD undef = .int .i64 (j : Int) := (gd A 49).trans (show A.tmps.getD 49 undef = .int .i64 (j : Int) from hhas 2 _ rfl (hdep ⟨2, .data⟩ (by simp) rfl) 49 rfl)
              refine wpOp_step rfl (fun K hK => ?_)
              go_simp
              exact hK _ _ (fin _ 50 _ (Below.refl _ _) rfl)
            | 4, ho =>
              cases Option.some.inj ho
              have h50 : A.tmps[50]?.getD undef = .pointer (some ⟨ga, oa + j * 5, none⟩) := (gd A 50).trans (show A.tmps.getD 50 undef = .pointer (some ⟨ga, oa + j * 5, none⟩) from hhas 3 _ rfl (hdep ⟨3, .data⟩ (by simp) rfl) 50 rfl)
              have a0 : W.cell? ⟨ga, oa + j * 5, none⟩ = some (.int .i64 k.kind) := (hJ.cell (block_lt_of_cell a00)).trans a00
              have a1 : W.cell? ⟨ga, oa + j * 5 + 1, none⟩ = some (.int .i64 k.a) := (hJ.cell (block_lt_of_cell a10)).trans a10
              have a2 : W.cell? ⟨ga, oa + j * 5 + 2, none⟩ = some (.int .i64 k.b) := (hJ.cell (block_lt_of_cell a20)).trans a20
              have a3 : W.cell? ⟨ga, oa + j * 5 + 3, none⟩ = some (.string ⟨k.name.toArray⟩) := (hJ.cell (block_lt_of_cell a30)).trans a30
              have a4 : W.cell? ⟨ga, oa + j * 5 + 4, none⟩ = some (.slice pa k.kids.length sa) := (hJ.cell (block_lt_of_cell a40)).trans a40
              refine wpOp_step rfl (fun K hK => ?_)
              go_simp
              exact hK _ _ (fin _ 51 _ (Below.refl _ _) rfl)
            | 5, ho =>
              cases Option.some.inj ho
              have h3 : A.tmps[3]?.getD undef = .pointer (some ⟨w.heap.size + 1, 0, none⟩) := (gd A 3).trans (hkept 3 (fun j p hp _ => nd (by kernel_rfl) j p hp))
              refine wpOp_step rfl (fun K hK => ?_)
              go_simp
              exact hK _ _ (fin _ 52 _ (Below.refl _ _) rfl)
            | 6, ho =>
              cases Option.some.inj ho
              have h52 : A.tmps[52]?.getD undef = .pointer (some ⟨w.heap.size + 1, 4, none⟩) := (gd A 52).trans (show A.tmps.getD 52 undef = .pointer (some ⟨w.heap.size + 1, 4, none⟩) from hhas 5 _ rfl (hdep ⟨5, .data⟩ (by simp) rfl) 52 rfl)
              have vb : W.cell? ⟨w.heap.size + 1, 4, none⟩ = some (.slice (some ⟨gb, ob, none⟩) e.kids.length cb) := (hJ.cell (block_lt_of_cell vb0)).trans vb0
              refine wpOp_step rfl (fun K hK => ?_)
              go_simp
              exact hK _ _ (fin _ 53 _ (Below.refl _ _) rfl)
            | 7, ho =>
              cases Option.some.inj ho
              have h5 : A.tmps[5]?.getD undef = .int .i64 (j : Int) := (gd A 5).trans (hkept 5 (fun j p hp _ => nd (by kernel_rfl) j p hp))
              refine wpOp_step rfl (fun K hK => ?_)
              go_simp
              exact hK _ _ (fin _ 54 _ (Below.refl _ _) rfl)
            | 8, ho =>
              cases Option.some.inj ho
              have h53 : A.tmps[53]?.getD undef = .slice (some ⟨gb, ob, none⟩) e.kids.length cb := (gd A 53).trans (show A.tmps.getD 53 undef = .slice (some ⟨gb, ob, none⟩) e.kids.length cb from hhas 6 _ rfl (hdep ⟨6, .data⟩ (by simp) rfl) 53 rfl)
              have h54 : A.tmps[54]?.getD undef = .int .i64 (j : Int) := (gd A 54).trans (show A.tmps.getD 54 undef = .int .i64 (j : Int) from hhas 7 _ rfl (hdep ⟨7, .data⟩ (by simp) rfl) 54 rfl)
              refine wpOp_step rfl (fun K hK => ?_)
              go_simp
              exact hK _ _ (fin _ 55 _ (Below.refl _ _) rfl)
            | 9, ho =>
              cases Option.some.inj ho
              have h55 : A.tmps[55]?.getD undef = .pointer (some ⟨gb, ob + j * 5, none⟩) := (gd A 55).trans (show A.tmps.getD 55 undef = .pointer (some ⟨gb, ob + j * 5, none⟩) from hhas 8 _ rfl (hdep ⟨8, .data⟩ (by simp) rfl) 55 rfl)
              have b0 : W.cell? ⟨gb, ob + j * 5, none⟩ = some (.int .i64 k.kind) := (hJ.cell (block_lt_of_cell b00)).trans b00
              have b1 : W.cell? ⟨gb, ob + j * 5 + 1, none⟩ = some (.int .i64 k.a) := (hJ.cell (block_lt_of_cell b10)).trans b10
              have b2 : W.cell? ⟨gb, ob + j * 5 + 2, none⟩ = some (.int .i64 k.b) := (hJ.cell (block_lt_of_cell b20)).trans b20
              have b3 : W.cell? ⟨gb, ob + j * 5 + 3, none⟩ = some (.string ⟨k.name.toArray⟩) := (hJ.cell (block_lt_of_cell b30)).trans b30
              have b4 : W.cell? ⟨gb, ob + j * 5 + 4, none⟩ = some (.slice pb k.kids.length sb) := (hJ.cell (block_lt_of_cell b40)).trans b40
              refine wpOp_step rfl (fun K hK => ?_)
              go_simp
              exact hK _ _ (fin _ 56 _ (Below.refl _ _) rfl)
            | 10, ho =>
              cases Option.some.inj ho
              have h51 : A.tmps[51]?.getD undef = .agg #[.int .i64 k.kind, .int .i64 k.a, .int .i64 k.b, .string ⟨k.name.toArray⟩, .slice pa k.kids.length sa] := (gd A 51).trans (show A.tmps.getD 51 undef = .agg #[.int .i64 k.kind, .int .i64 k.a, .int .i64 k.b, .string ⟨k.name.toArray⟩, .slice pa k.kids.length sa] from hhas 4 _ rfl (hdep ⟨4, .data⟩ (by simp) rfl) 51 rfl)
              have h56 : A.tmps[56]?.getD undef = .agg #[.int .i64 k.kind, .int .i64 k.a, .int .i64 k.b, .string ⟨k.name.toArray⟩, .slice pb k.kids.length sb] := (gd A 56).trans (show A.tmps.getD 56 undef = .agg #[.int .i64 k.kind, .int .i64 k.a, .int .i64 k.b, .string ⟨k.name.toArray⟩, .slice pb k.kids.length sb] from hhas 9 _ rfl (hdep ⟨9, .data⟩ (by simp) rfl) 56 rfl)
              refine wpOp_step rfl (fun K hK => ?_)
              go_simp
              refine (cE W hJ).mono ?_
              rintro e' W' ⟨rfl, hb'⟩
              exact hK _ _ (fin _ 57 _ hb' rfl)
            | 11, ho =>
              cases Option.some.inj ho
              have h57 : A.tmps[57]?.getD undef = .bool true := (gd A 57).trans (show A.tmps.getD 57 undef = .bool true from hhas 10 _ rfl (hdep ⟨10, .data⟩ (by simp) rfl) 57 rfl)
              refine wpOp_step rfl (fun K hK => ?_)
              go_simp
              exact hK _ _ (fin _ 58 _ (Below.refl _ _) rfl)
            | k + 12, ho => simp at ho
          · intro L A W hL hJ hdef hsize hkept hhas
            obtain ⟨tt, dd'⟩ := A
            have hd' : dd' = [] := hdef
            subst hd'
            obtain ⟨q, rfl⟩ : ∃ q : List Value, tt = q.toArray := ⟨tt.toList, by simp⟩
            have hl : q.length = 60 := by
              have h : q.toArray.size = 60 := hsize
              simpa using h
            obtain ⟨⟨u0, u1, u2, u3, u4, u5, u6, u7, u8, u9, u10, u11, u12, u13, u14, u15, u16, u17, u18, u19, u20, u21, u22, u23, u24, u25, u26, u27, u28, u29, u30, u31, u32, u33, u34, u35, u36, u37, u38, u39, u40, u41, u42, u43, u44, u45, u46, u47, u48, u49, u50, u51, u52, u53, u54, u55, u56, u57, u58, u59, rfl⟩⟩ := fs60 q hl
            have q0 : u0 = _ := hkept 0 (nd (by kernel_rfl))
            have q1 : u1 = _ := hkept 1 (nd (by kernel_rfl))
            have q2 : u2 = _ := hkept 2 (nd (by kernel_rfl))
            have q3 : u3 = _ := hkept 3 (nd (by kernel_rfl))
            have q4 : u4 = _ := hkept 4 (nd (by kernel_rfl))
            have q5 : u5 = _ := hkept 5 (nd (by kernel_rfl))
            have q6 : u6 = _ := hkept 6 (nd (by kernel_rfl))
            have q7 : u7 = _ := hkept 7 (nd (by kernel_rfl))
            have q8 : u8 = _ := hkept 8 (nd (by kernel_rfl))
            have q9 : u9 = _ := hkept 9 (nd (by kernel_rfl))
            have q10 : u10 = _ := hkept 10 (nd (by kernel_rfl))
            have q11 : u11 = _ := hkept 11 (nd (by kernel_rfl))
            have q12 : u12 = _ := hkept 12 (nd (by kernel_rfl))
            have q13 : u13 = _ := hkept 13 (nd (by kernel_rfl))
            have q14 : u14 = _ := hkept 14 (nd (by kernel_rfl))
            have q15 : u15 = _ := hkept 15 (nd (by kernel_rfl))
            have q16 : u16 = _ := hkept 16 (nd (by kernel_rfl))
            have q17 : u17 = _ := hkept 17 (nd (by kernel_rfl))
            have q18 : u18 = _ := hkept 18 (nd (by kernel_rfl))
            have q19 : u19 = _ := hkept 19 (nd (by kernel_rfl))
            have q20 : u20 = _ := hkept 20 (nd (by kernel_rfl))
            have q21 : u21 = _ := hkept 21 (nd (by kernel_rfl))
            have q22 : u22 = _ := hkept 22 (nd (by kernel_rfl))
            have q23 : u23 = _ := hkept 23 (nd (by kernel_rfl))
            have q24 : u24 = _ := hkept 24 (nd (by kernel_rfl))
            have q25 : u25 = _ := hkept 25 (nd (by kernel_rfl))
            have q26 : u26 = _ := hkept 26 (nd (by kernel_rfl))
            have q27 : u27 = _ := hkept 27 (nd (by kernel_rfl))
            have q28 : u28 = _ := hkept 28 (nd (by kernel_rfl))
            have q29 : u29 = _ := hkept 29 (nd (by kernel_rfl))
            have q30 : u30 = _ := hkept 30 (nd (by kernel_rfl))
            have q31 : u31 = _ := hkept 31 (nd (by kernel_rfl))
            have q32 : u32 = _ := hkept 32 (nd (by kernel_rfl))
            have q33 : u33 = _ := hkept 33 (nd (by kernel_rfl))
            have q34 : u34 = _ := hkept 34 (nd (by kernel_rfl))
            have q35 : u35 = _ := hkept 35 (nd (by kernel_rfl))
            have q36 : u36 = _ := hkept 36 (nd (by kernel_rfl))
            have q37 : u37 = _ := hkept 37 (nd (by kernel_rfl))
            have q38 : u38 = _ := hkept 38 (nd (by kernel_rfl))
            have q39 : u39 = _ := hkept 39 (nd (by kernel_rfl))
            have q40 : u40 = _ := hkept 40 (nd (by kernel_rfl))
            have q41 : u41 = _ := hkept 41 (nd (by kernel_rfl))
            have q42 : u42 = _ := hkept 42 (nd (by kernel_rfl))
            have q43 : u43 = _ := hkept 43 (nd (by kernel_rfl))
            have q44 : u44 = _ := hkept 44 (nd (by kernel_rfl))
            have q45 : u45 = _ := hkept 45 (nd (by kernel_rfl))
            have q46 : u46 = _ := hkept 46 (nd (by kernel_rfl))
            have q59 : u59 = _ := hkept 59 (nd (by kernel_rfl))
            subst q0 q1 q2 q3 q4 q5 q6 q7 q8 q9 q10 q11 q12 q13 q14 q15 q16 q17 q18 q19 q20 q21 q22 q23 q24 q25 q26 q27 q28 q29 q30 q31 q32 q33 q34 q35 q36 q37 q38 q39 q40 q41 q42 q43 q44 q45 q46 q59
            have z : u58 = .bool false := hhas 11 _ rfl 58 rfl
            subst z
            clear hsize hkept hhas hL hl
            go_wp2_with fail
            go_roundw
            case rel =>
              first
              | exact ⟨j + 1, by go_num, by omega, hbr.trans (hJ.mono hbr.size)⟩
              | exact ⟨_, _, _, ⟨j + 1, by go_num, by omega, hbr.trans (hJ.mono hbr.size)⟩, rfl, rfl, rfl⟩
            case measure => simp [intOf]; omega

        · have hlt' : ¬ (j : Int) < (e.kids.length : Int) := by omega
          have hbF := hbw.trans (hbr.mono (by have := HZ.out; omega))
          go_wp2_with fail
          go_ret
          exact ⟨rfl, hbF⟩
end Go.Proofs.YteheahhifihmjaaGreatDoor
