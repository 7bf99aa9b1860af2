/- How a mask that came in reads; how long the rows within days are. -/
import Derived.Test.YtlhjgajhcabhoaaDoorMn10
namespace Go.Proofs.YtlhjgajhcabhoaaDoor
open Go.ChangeShapes Go.WideShapes Go.ChangeAt Go.WideMaps Go.WideElems Go.RowKit Go.Joins Msk Mx

set_option maxRecDepth 100000 in
/-- A mask that came in. -/
theorem open_maskA {H : Type} {enc : TypeId × Value → H} {W : World} {r : Reach} {b0 : Nat} {v : Value} {d : DataW H} {p : List MemPlace}
    (hv : Value.okWide Tryd.prog W r b0 41 v) (h : DataW.Trod enc Tryd.prog W 0 (fun _ => true) true 41 v d p) : ∃ f : Nat → Bool, v = .agg (mv f) ∧ p = [] := by
  simp only [Value.okWide, maskType] at hv
  obtain ⟨cs, rfl, hsz, _⟩ := hv
  rw [cM9] at hsz
  obtain ⟨fuel, hf⟩ := h
  obtain ⟨xs, m, _, hx, _, hlen, hel⟩ := DataW.trod_array maskType hf
  have each : ∀ i, i < 23 → ∃ z : Nat, z < 18446744073709551616 ∧ cs[i]? = some (.int .u64 (z : Int)) ∧ ∃ y, xs[i]? = some y ∧ y.2 = [] := by
    intro i hi
    have h1 := hel i hi
    rw [cU9] at h1
    have hy : xs[i]? = some xs[i] := by simp [hlen, hi]
    rw [hy] at h1
    obtain ⟨z, e1, e2, hw⟩ := DataW.trod_int Tryd.underlying39 h1
    have hc : i < cs.size := by omega
    have e3 : cs[i] = .int .u64 z := by
      have : (cs.toList.drop (i * 1)).take 1 = [cs[i]] := by
        rw [Nat.mul_one, List.drop_eq_getElem_cons (by simpa using hc)]
        simp
      rw [show (Value.agg cs).cells.toList = cs.toList from rfl, this] at e1
      simpa using e1
    have hb := bounds_u64 hw
    refine ⟨z.toNat, by omega, ?_, xs[i], hy, by rw [e2]⟩
    rw [Array.getElem?_eq_getElem hc, e3, Int.toNat_of_nonneg hb.1]
  obtain ⟨mm, hmm⟩ : ∃ mm : Nat → Nat, ∀ i, i < 23 → mm i < 18446744073709551616 ∧ cs[i]? = some (.int .u64 (mm i : Int)) := by
    refine ⟨fun i => match cs[i]? with | some (.int _ z) => z.toNat | _ => 0, fun i hi => ?_⟩
    obtain ⟨z, h1, h2, _⟩ := each i hi
    simp only [h2]
    exact ⟨by simpa using h1, by simp⟩
  refine ⟨fun i => (mm (i / 64)).testBit (i % 64), ?_, ?_⟩
  · have e : cs = Array.ofFn (n := 23) fun k => Value.int .u64 (mm k.val : Int) := by
      apply Array.ext_getElem?
      intro i
      by_cases hi : i < 23
      · rw [(hmm i hi).2]; simp [hi]
      · rw [Array.getElem?_eq_none (by omega)]; simp [hi]
    rw [e, mv_of mm fun k hk => (hmm k hk).1]
  · have hp : p = xs.flatMap (·.2) := (Prod.mk.inj hx).2
    rw [hp, List.flatMap_eq_nil_iff]
    intro y hy
    obtain ⟨i, hi, rfl⟩ := List.getElem_of_mem hy
    obtain ⟨_, _, _, y', h1, h2⟩ := each i (by omega)
    rw [List.getElem?_eq_getElem hi] at h1
    rw [Option.some.inj h1]; exact h2

/-- It reads behind the call as it did. -/
theorem maskA_stays {H : Type} {enc : TypeId × Value → H} {W W' : World} {v : Value} {d : DataW H} (h : DataW.Trod enc Tryd.prog W 0 (fun _ => true) true 41 v d []) (hb : Below W.heap.size W W') :
    DataW.Trod enc Tryd.prog W' 0 (fun b => decide (b < W.heap.size)) true 41 v d [] :=
  Below.trod (by kernel_rfl) (by kernel_rfl) (of_decide_eq_true (by kernel_rfl)) h hb (fun x hx => by cases hx)
theorem weightsAll_memM {H : Type} {P : Program} {e : TypeId} : ∀ {l : List (DataW H)} {d : DataW H}, d ∈ l → ∀ n, n ∈ d.weights P e → n ∈ DataW.weightsAll P e l
  | x :: r, d, hd, n, hn => by
    simp only [DataW.weightsAll, List.mem_append]
    rcases List.mem_cons.1 hd with rfl | h
    · exact Or.inl hn
    · exact Or.inr (weightsAll_memM h n hn)
theorem sized_days {H : Type} {ts : List TypeId} {dx : List (DataW H)} (h : (DataW.weightsEach Tryd.prog ts dx).all (· ≤ reachBytes) = true) {j : Nat} {elems spare es rs : List (DataW H)} (ht : ts[j]? = some 25) (hd : dx[j]? = some (.slice elems spare)) (hx : DataW.slice es rs ∈ elems) : (es.length + rs.length) * 184 ≤ reachBytes := by
  refine of_decide_eq_true (List.all_eq_true.1 h _ (DataW.weights_mem_each ht hd _ ?_))
  simp only [DataW.weights, Tryd.underlying25, List.mem_cons, List.mem_append]
  exact Or.inr (Or.inl (weightsAll_memM hx _ (by simp [DataW.weights, Tryd.underlying42, show Tryd.prog.bytesOf 41 = 184 by kernel_rfl])))
set_option maxRecDepth 100000 in
/-- How long the rows within days are. -/
theorem days_len {H : Type} {enc : TypeId × Value → H} {W : World} {v : Value} {d : DataW H} {q : List MemPlace} {l : List (List (Nat → Bool))} (h : DataW.Trod enc Tryd.prog W 0 (fun _ => true) true 25 v d q) (hr : RowDs W v l) : ∀ fs ∈ l, fs = [] ∨ ∃ elems spare es rs : List (DataW H), d = .slice elems spare ∧ DataW.slice es rs ∈ elems ∧ es.length = fs.length := by
  intro fs hfs
  obtain ⟨p, c, rfl, _, h3⟩ := hr
  obtain ⟨fuel, hf⟩ := h
  obtain ⟨j, hj⟩ := List.getElem?_of_mem hfs
  have hjl := (List.getElem?_eq_some_iff.1 hj).1
  obtain ⟨g, o, sv, rfl, hc, hm⟩ := h3 j fs hj
  rcases DataW.trod_slice Tryd.underlying25 hf with ⟨e1, _⟩ | ⟨a, len, cap, elems, rest, m, _, e1, ex, _, _, _, hlen, hall, _⟩
  · simp [Value.cells] at e1
  · have e2 : Value.slice (some ⟨g, o, none⟩) l.length c = .slice (some a) len cap := by simpa [Value.cells] using e1
    injection e2 with e3 e4 e5
    injection e3 with e3
    subst e3 e4 e5
    have h1 := hall j (by omega)
    rw [cMs9] at h1
    have hy : elems[j]? = some (elems[j]'(by omega)) := List.getElem?_eq_getElem _
    rw [hy, Option.bind_eq_some_iff] at h1
    obtain ⟨cc, hcc, htr⟩ := h1
    have hq := World.cells?_some hcc
    obtain ⟨pm, cm, e6, _, _⟩ := hm
    have hcl : cc = [sv] := by
      have q0 := hq.2.2 0 (by omega)
      rw [add9, add9] at q0
      rw [show o + j * 1 + 0 = o + j by omega, hc] at q0
      match cc, hq.1, q0 with
      | [x], _, q0 => simpa using q0.symm
    subst hcl e6
    rcases DataW.trod_slice Tryd.underlying42 htr with ⟨e7, _⟩ | ⟨a', len', cap', elems', rest', m', _, e7, ex', _, _, _, hlen', _⟩
    · left
      simp at e7
      exact e7.2.1
    · right
      simp at e7
      refine ⟨elems.map (·.1), rest.map (·.1), elems'.map (·.1), rest'.map (·.1), by rw [show d = _ from congrArg Prod.fst ex], ?_, by rw [List.length_map, hlen']; exact e7.2.1.symm⟩
      refine List.mem_map.2 ⟨elems[j]'(by omega), List.mem_of_getElem? hy, ?_⟩
      rw [ex']
end Go.Proofs.YtlhjgajhcabhoaaDoor
