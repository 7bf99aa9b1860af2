/- How a cache that came in reads. -/
import Derived.Test.YtaeengpppehlfaaCt11
import Derived.Test.YtaeengpppehlfaaCt23
import Derived.Test.YtaeengpppehlfaaCt07
namespace Go.Proofs.Ytaeengpppehlfaa
open Go.ChangeShapes Go.WideShapes Go.ChangeAt Go.WideMaps Go.WideElems Go.RowKit Go.Joins Msk Vx
variable {H : Type} {enc : TypeId × Value → H} {W : World}

theorem cM9 : Try.prog.cellsOf 25 = 23 := by kernel_rfl
theorem cU9 : Try.prog.cellsOf 23 = 1 := by kernel_rfl
theorem cKp9 : Try.prog.cellsOf 51 = 26 := by kernel_rfl
theorem cKs9 : Try.prog.cellsOf 38 = 1 := by kernel_rfl
theorem cCa9 : Try.prog.cellsOf 40 = 2 := by kernel_rfl
/-- A mask's cells that came in. -/
theorem open_maskL {fuel : Nat} {cs : List Value} {x : DataW H × List MemPlace} (h : DataW.trod enc Try.prog W 0 (fun _ => true) true fuel 25 cs = some x) : ∃ f : Nat → Bool, cs = (mv f).toList := by
  obtain ⟨xs, m, _, hx, hcl, hlen, hel⟩ := DataW.trod_array maskType h
  rw [cM9] at hcl
  have each : ∀ i, i < 23 → ∃ z : Nat, z < 18446744073709551616 ∧ cs[i]? = some (.int .u64 (z : Int)) := by
    intro i hi
    have h1 := hel i hi
    rw [cU9] at h1
    have hy : xs[i]? = some xs[i] := by simp [hlen, hi]
    rw [hy] at h1
    obtain ⟨z, e1, e2, hw⟩ := DataW.trod_int Try.underlying23 h1
    have hc : i < cs.length := by omega
    have e3 : cs[i] = .int .u64 z := by
      have : (cs.drop (i * 1)).take 1 = [cs[i]] := by
        rw [Nat.mul_one, List.drop_eq_getElem_cons hc]
        rfl
      rw [this] at e1
      simpa using e1
    have hb := bounds_u64 hw
    refine ⟨z.toNat, by omega, ?_⟩
    rw [List.getElem?_eq_getElem hc, e3, Int.toNat_of_nonneg hb.1]
  obtain ⟨mm, hmm⟩ : ∃ mm : Nat → Nat, ∀ i, i < 23 → mm i < 18446744073709551616 ∧ cs[i]? = some (.int .u64 (mm i : Int)) := by
    refine ⟨fun i => match cs[i]? with | some (.int _ z) => z.toNat | _ => 0, fun i hi => ?_⟩
    obtain ⟨z, h1, h2⟩ := each i hi
    simp only [h2]
    exact ⟨by simpa using h1, by simp⟩
  refine ⟨fun i => (mm (i / 64)).testBit (i % 64), ?_⟩
  rw [← mv_of mm fun k hk => (hmm k hk).1]
  apply List.ext_getElem?
  intro i
  by_cases hi : i < 23
  · rw [(hmm i hi).2, Array.getElem?_toList, Array.getElem?_eq_getElem (by simpa using hi), Array.getElem_ofFn]
  · rw [List.getElem?_eq_none (by omega), List.getElem?_eq_none (by rw [Array.length_toList, Array.size_ofFn]; omega)]
theorem flatK_at : ∀ {l : List Kp} {j : Nat} {u : Kp}, l[j]? = some u → ∀ k, k < 26 → (flatK l)[j * 26 + k]? = (kv u).toList[k]?
  | [], j, u, h, _, _ => by simp at h
  | k0 :: l, 0, u, h, k, hk => by
    cases Option.some.inj h
    rw [show flatK (k0 :: l) = (kv k0).toList ++ flatK l from rfl, List.getElem?_append_left (by rw [kvl_len]; omega), Nat.zero_mul, Nat.zero_add]
  | k0 :: l, j + 1, u, h, k, hk => by
    rw [show flatK (k0 :: l) = (kv k0).toList ++ flatK l from rfl, List.getElem?_append_right (by rw [kvl_len]; omega), kvl_len, show (j + 1) * 26 + k - 26 = j * 26 + k by omega]
    exact flatK_at (by simpa using h) k hk
theorem four9 {α : Type} {l : List α} (h : l.length = 4) : ∃ a b c d, l = [a, b, c, d] := by
  match l, h with
  | [a, b, c, d], _ => exact ⟨a, b, c, d, rfl⟩
theorem cut26 {α : Type} {l : List α} (h : l.length = 26) : ∃ a b c r, l = a :: b :: c :: r ∧ r.length = 23 := by
  match l, h with
  | a :: b :: c :: r, h => exact ⟨a, b, c, r, rfl, by simpa using h⟩
set_option maxRecDepth 100000 in
theorem open_kept9 (fuel : Nat) (cs : List Value) (y : DataW H × List MemPlace) (h : DataW.trod enc Try.prog W 0 (fun _ => true) true fuel 51 cs = some y) : ∃ u : Kp, cs.length = 26 ∧ ∀ k : Nat, (fun k : Nat => cs[k]?) k = (kv u).toList[k]? := by
  obtain ⟨xs, m, hf, _, hl, hx, hall⟩ := DataW.trod_struct Try.underlying51 h
  rw [cKp9] at hl
  have hx4 : xs.length = 4 := hx
  obtain ⟨c0, c1, c2, r, rfl, hr⟩ := cut26 hl
  obtain ⟨x0, x1, x2, x3, rfl⟩ := four9 hx4
  have h0 : DataW.trod enc Try.prog W 0 (fun _ => true) true m 3 (((c0 :: c1 :: c2 :: r).drop 0).take (Try.prog.cellsOf 3)) = some x0 := hall 0 _ rfl
  have h1 : DataW.trod enc Try.prog W 0 (fun _ => true) true m 3 (((c0 :: c1 :: c2 :: r).drop 1).take (Try.prog.cellsOf 3)) = some x1 := hall 1 _ rfl
  have h2 : DataW.trod enc Try.prog W 0 (fun _ => true) true m 3 (((c0 :: c1 :: c2 :: r).drop 2).take (Try.prog.cellsOf 3)) = some x2 := hall 2 _ rfl
  have h3 : DataW.trod enc Try.prog W 0 (fun _ => true) true m 25 (((c0 :: c1 :: c2 :: r).drop 3).take (Try.prog.cellsOf 25)) = some x3 := hall 3 _ rfl
  rw [cN9] at h0 h1 h2
  rw [cM9] at h3
  obtain ⟨a, e0, _⟩ := DataW.trod_int Try.underlying3 h0
  obtain ⟨b, e1, _⟩ := DataW.trod_int Try.underlying3 h1
  obtain ⟨c, e2, _⟩ := DataW.trod_int Try.underlying3 h2
  obtain ⟨f, e3⟩ := open_maskL h3
  simp at e0 e1 e2
  replace e3 : r = (mv f).toList := by
    rw [← e3, show ((c0 :: c1 :: c2 :: r).drop 3) = r from rfl, List.take_of_length_le (by omega)]
  subst e0 e1 e2
  rw [e3] at hl
  rw [e3]
  clear e3 hall hx h0 h1 h2 h3 h
  have e : (kv ⟨a, b, c, f⟩).toList = .int .i64 a :: .int .i64 b :: .int .i64 c :: (mv f).toList := by
    unfold kv
    rw [Array.toList_append]
    dsimp only
    simp only [List.cons_append, List.nil_append]
  exact ⟨⟨a, b, c, f⟩, hl, fun k => by rw [e]⟩
set_option maxRecDepth 100000 in
/-- A row of what is kept that came in. -/
theorem open_kepts9 {fuel : Nat} {cs : List Value} {x : DataW H × List MemPlace} (h : DataW.trod enc Try.prog W 0 (fun _ => true) true fuel 38 cs = some x) : ∃ (sl : Value) (l : List Kp), cs = [sl] ∧ KRow 0 W sl l ∧ (x.1 = .nil ∧ l = [] ∨ ∃ es rs : List (DataW H), x.1 = .slice es rs ∧ es.length = l.length) := by
  obtain ⟨p, len, cap, us, e, hl, hn, hall⟩ := open_row k0 (Q := fun c u => ∀ k : Nat, c k = (kv u).toList[k]?) Try.underlying38 cKp9 (by decide) open_kept9 h
  have hcap : len ≤ cap ∧ cap ≤ maxLen ∧ (x.1 = .nil ∧ us = [] ∨ ∃ es rs : List (DataW H), x.1 = .slice es rs ∧ es.length = us.length) := by
    rcases DataW.trod_slice Try.underlying38 h with ⟨e1, ex⟩ | ⟨a, len', cap', elems, rest, m, hf, e1, ex, _, hlc, hm, hlen, _⟩
    · rw [e] at e1
      injection e1 with e1 _
      injection e1 with _ e2 e3
      subst e2 e3
      refine ⟨Nat.le_refl _, Nat.zero_le _, .inl ⟨by rw [ex], List.length_eq_zero_iff.1 hl⟩⟩
    · rw [e] at e1
      injection e1 with e1 _
      injection e1 with _ e2 e3
      subst e2 e3
      refine ⟨hlc, hm, .inr ⟨elems.map (·.1), rest.map (·.1), by rw [ex], by simp [hlen, hl]⟩⟩
  refine ⟨_, us, e, ⟨p, cap, by rw [hl], by rw [hl]; exact hcap.1, hcap.2.1, fun hne => ?_⟩, hcap.2.2⟩
  match us, hne with
  | u0 :: us', _ =>
    obtain ⟨g, o, hp, _⟩ := hall 0 u0 rfl
    refine ⟨g, o, hp, Nat.zero_le _, fun q v hq => ?_⟩
    have hql := (List.getElem?_eq_some_iff.1 hq).1
    rw [flatK_len] at hql
    obtain ⟨j, k, hk, rfl⟩ : ∃ j k, k < 26 ∧ q = j * 26 + k := ⟨q / 26, q % 26, Nat.mod_lt _ (by decide), by omega⟩
    have hj : j < (u0 :: us').length := by omega
    obtain ⟨u, hu⟩ : ∃ u, (u0 :: us')[j]? = some u := ⟨_, List.getElem?_eq_getElem hj⟩
    obtain ⟨g', o', hp', c, hcl, hcc, hq2⟩ := hall j u hu
    rw [hp] at hp'
    cases hp'
    have e2 : (flatK (u0 :: us'))[j * 26 + k]? = (kv u).toList[k]? := flatK_at hu k hk
    rw [e2, ← hq2 k] at hq
    have := hcc k v hq
    rw [Nat.add_assoc] at this
    exact this
set_option maxRecDepth 100000 in
theorem cache_stays {W' : World} {v : Value} {d : DataW H} {p : List MemPlace} (h : DataW.Trod enc Try.prog W 0 (fun _ => true) true 40 v d p) (hb : Below W.heap.size W W') (hlt : ∀ x ∈ p, x.block < W.heap.size) :
    DataW.Trod enc Try.prog W' 0 (fun b => decide (b < W.heap.size)) true 40 v d p :=
  Below.trod (by kernel_rfl) (by kernel_rfl) (of_decide_eq_true (by kernel_rfl)) h hb hlt
set_option maxRecDepth 100000 in
/-- A cache that came in. -/
theorem open_cache {r : Reach} {b0 : Nat} {v : Value} {d : DataW H} {q : List MemPlace} (hv : Value.okWide Try.prog W r b0 40 v) (h : DataW.Trod enc Try.prog W 0 (fun _ => true) true 40 v d q) : ∃ (l : List Kp) (sl : Value) (n : Int), v = .agg #[sl, .int .i64 n] ∧ KRow 0 W sl l ∧ ∃ y0 y1 : DataW H, d = .agg [y0, y1] ∧ (y0 = .nil ∧ l = [] ∨ ∃ es rs : List (DataW H), y0 = .slice es rs ∧ es.length = l.length) := by
  obtain ⟨cs, rfl, _⟩ := okWide_struct Try.underlying40 hv
  obtain ⟨fuel, hf⟩ := h
  obtain ⟨y0, y1, m, hx, hl, h0, h1⟩ := trod_struct2 Try.underlying40 hf
  rw [cCa9] at hl
  dsimp only at h0 h1
  rw [cN9] at h1
  rw [cKs9] at h0
  obtain ⟨z, e1, _⟩ := DataW.trod_int Try.underlying3 h1
  obtain ⟨sl, l, e0, hk, hd⟩ := open_kepts9 h0
  have hcs : (Value.agg cs).cells.toList = cs.toList := rfl
  rw [hcs] at hl e0 e1
  obtain ⟨c0, c1, hcs2⟩ := two9 hl
  rw [hcs2] at e0 e1
  simp at e0 e1
  subst e0 e1
  refine ⟨l, c0, z, ?_, hk, y0.1, y1.1, ?_, hd⟩
  · congr 1
    exact Array.toList_inj.1 hcs2
  · exact congrArg Prod.fst hx
end Go.Proofs.Ytaeengpppehlfaa
