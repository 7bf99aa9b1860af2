/- What rule comes to. -/
import Derived.Test.YtjllbklkaalafaaTa13
import Derived.Deep.QuietTactic
import Derived.BigQuiet
namespace Go.Proofs.Ytjllbklkaalafaa
open Go.RowKit Lx
variable {all : List Tk} {E g : Nat} {v : Value} {w : World} {i n : Nat}

/-- A rule as it is handed on. -/
def ruV (u : Ru) (sl : Value) : Value := .agg #[.string ⟨u.1.toArray⟩, .int .i64 u.2.kind, .int .i64 u.2.a, .int .i64 u.2.b, .string ⟨u.2.name.toArray⟩, sl]
def ru0C : Array Value := #[.string ⟨#[]⟩, .int .i64 0, .int .i64 0, .int .i64 0, .string ⟨#[]⟩, .slice none 0 0]
theorem ruleType : Try.prog.underlying 43 = some (.struct (Try.prog.fieldsOf 43)) := by kernel_rfl
theorem ru_ret {fn : Func} (s : Nat) (h : fn.results = #[ResultVar.cell s 43]) {R : Ending → World → Prop} {a : Act} {w : World} (g : Nat) (c0 c1 c2 c3 c4 c5 : Value) (hd : a.defers = []) (h2 : a.tmps.getD s undef = .pointer (some ⟨g, 0, none⟩))
    (hg : w.heap[g]? = some (.cells #[c0, c1, c2, c3, c4, c5] 43 (0, 0))) (hR : R (.returned (.agg #[c0, c1, c2, c3, c4, c5])) w) : bodyPost Try.prog fn R .ret a w := by
  refine bodyPost_ret (v := .agg #[c0, c1, c2, c3, c4, c5]) ?_ hd hR
  have h2' : a.tmps[s]?.getD undef = .pointer (some ⟨g, 0, none⟩) := by simpa using h2
  have hv := run_loadVar_row (P := Try.prog) w g 43 43 _ _ _ hg ruleType rfl (by kernel_rfl)
  simp [results, h, h2', asAddr, hv]

end Go.Proofs.Ytjllbklkaalafaa

/- What rules comes to. -/
namespace Go.Proofs.Ytjllbklkaalafaa
open Go.RowKit Lx
variable {all : List Tk} {E g : Nat} {v : Value} {w : World} {i n : Nat}

/-- The cells of a row of rules, each with its kids' row. -/
def flatR : List (Ru × Value) → List Value
  | [] => []
  | p :: l => .string ⟨p.1.1.toArray⟩ :: .int .i64 p.1.2.kind :: .int .i64 p.1.2.a :: .int .i64 p.1.2.b :: .string ⟨p.1.2.name.toArray⟩ :: p.2 :: flatR l
theorem flatR_snoc (p : Ru × Value) : ∀ l : List (Ru × Value), flatR (l ++ [p]) = flatR l ++ [.string ⟨p.1.1.toArray⟩, .int .i64 p.1.2.kind, .int .i64 p.1.2.a, .int .i64 p.1.2.b, .string ⟨p.1.2.name.toArray⟩, p.2]
  | [] => rfl
  | q :: l => by simp [flatR, flatR_snoc p l]
theorem ruleInfo : (Try.prog.info? 43).map (fun i => (i.zero, i.size, i.bytes)) = some (some (.agg #[.string ⟨#[]⟩, .int .i64 0, .int .i64 0, .int .i64 0, .string ⟨#[]⟩, .slice none 0 0]), 6, 80) := by kernel_rfl
theorem rulesType : Try.prog.underlying 22 = some (.slice 43) := by kernel_rfl
theorem row_form {w : World} {base : Nat} {e : TypeId} {size : Nat} {v : Value} {n : Nat} {xs : List Value} (h : w.ownsRow base e size v n xs) : ∃ p c, v = .slice p n c := by
  obtain ⟨_, h2⟩ := h
  rcases h2 with ⟨h2, h3⟩ | ⟨g, cap, _, h2, _⟩
  · exact ⟨none, 0, by rw [h2, h3]⟩
  · exact ⟨_, cap, h2⟩
/-- A row of rules of the call's own. -/
structure RowR (w0 w : World) (v : Value) (us : List (Ru × Value)) : Prop where
  own : w.ownsRow w0.heap.size 43 6 v us.length (flatR us)
  kids : ∀ p ∈ us, ∃ d, KidsAt (fun k => w0.heap.size ≤ k) d w p.2 p.1.2.kids
theorem ruleR_len {E : Nat} {r q : List Tk} {u : Ru} (h : ruleR E r = .ok (u, q)) : q.length < r.length := by
  unfold ruleR at h
  split at h
  · cases h
  · rename_i h1
    have h1' := kindP_cons (r := r) (by omega)
    split at h
    · split at h
      · cases h
      · rename_i e q' n' hx
        have hl := rd_len (by omega) hx
        split at h
        · cases h
        · split at h
          · cases h
            simp only [List.length_tail] at hl ⊢
            omega
          · cases h
    · cases h
theorem RowR.kept {w0 w w' : World} {vr : Value} {us : List (Ru × Value)} (h : RowR w0 w vr us) (hk : Kept g w w') (hg : g < w0.heap.size) : RowR w0 w' vr us := by
  refine ⟨h.own.kept hk (.inr fun e => ?_), fun p hp => ?_⟩
  · have := (h.own.lt g e).1
    omega
  · obtain ⟨d, hd⟩ := h.kids p hp
    exact ⟨d, hk.kids (fun k hk => by omega) hd⟩
theorem kids_grown {w0 w w' : World} {vr : Value} {xs : List Value} {m : Nat} {ks : List Ex} {sl : Value} {d : Nat} (ho : w.ownsRow w0.heap.size 43 6 vr m xs) (hg : w.grownBy w' vr.ownBlock) (h : KidsAt (fun k => w0.heap.size ≤ k) d w sl ks) : KidsAt (fun k => w0.heap.size ≤ k) d w' sl ks := by
  obtain ⟨_, h2⟩ := ho
  rcases h2 with ⟨rfl, _⟩ | ⟨b, cap, cur, rfl, _, hh, _⟩
  · exact h.kept fun k _ hl => hg.block k hl (fun e => by cases e)
  · refine ((h.other hh (by decide)).kept fun k hk hl => hg.block k hl (fun e => hk.2 (Option.some.inj e))).mono fun k hk => hk.1
theorem rulesR_step {E f : Nat} {acc : List Ru} {r : List Tk} (h : r.length ≠ 0) : rulesR E (f + 1) acc r = if isT wRule r then (if acc.length = 40 then .error (5, atP E r.tail) else match ruleR E r.tail with | .error q => .error q | .ok (u, q) => rulesR E f (acc ++ [u]) q) else .error (2, atP E r) := by
  rw [rulesR, if_neg h]
  rfl
theorem rulesR_end {E f : Nat} {acc : List Ru} {r : List Tk} (h : r.length = 0) : rulesR E f acc r = .ok acc := by
  cases f with
  | zero => rfl
  | succ f => rw [rulesR, if_pos h]
end Go.Proofs.Ytjllbklkaalafaa
