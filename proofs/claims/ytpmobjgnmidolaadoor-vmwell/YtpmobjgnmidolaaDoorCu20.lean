/- What the document's Equal comes to, of one expression that lies in memory twice. -/
import Derived.Test.YtpmobjgnmidolaaDoorCu19
import Derived.Test.YtpmobjgnmidolaaDoorCu18
import Derived.Deep.QuietTactic
import Derived.BigQuiet
namespace Go.Proofs.YtpmobjgnmidolaaDoor
open Go.RowKit Lx

/-- So many values, one by one. -/
structure Fs60 (l : List Value) where
  (u0 u1 u2 u3 u4 u5 u6 u7 u8 u9 u10 u11 u12 u13 u14 u15 u16 u17 u18 u19 u20 u21 u22 u23 u24 u25 u26 u27 u28 u29 u30 u31 u32 u33 u34 u35 u36 u37 u38 u39 u40 u41 u42 u43 u44 u45 u46 u47 u48 u49 u50 u51 u52 u53 u54 u55 u56 u57 u58 u59 : Value)
  eq : l = [u0, u1, u2, u3, u4, u5, u6, u7, u8, u9, u10, u11, u12, u13, u14, u15, u16, u17, u18, u19, u20, u21, u22, u23, u24, u25, u26, u27, u28, u29, u30, u31, u32, u33, u34, u35, u36, u37, u38, u39, u40, u41, u42, u43, u44, u45, u46, u47, u48, u49, u50, u51, u52, u53, u54, u55, u56, u57, u58, u59]
set_option maxRecDepth 100000 in
theorem fs60 (l : List Value) (hl : l.length = 60) : Nonempty (Fs60 l) := allL 60 (fun l => Nonempty (Fs60 l)) (fun u0 u1 u2 u3 u4 u5 u6 u7 u8 u9 u10 u11 u12 u13 u14 u15 u16 u17 u18 u19 u20 u21 u22 u23 u24 u25 u26 u27 u28 u29 u30 u31 u32 u33 u34 u35 u36 u37 u38 u39 u40 u41 u42 u43 u44 u45 u46 u47 u48 u49 u50 u51 u52 u53 u54 u55 u56 u57 u58 u59 => ⟨⟨u0, u1, u2, u3, u4, u5, u6, u7, u8, u9, u10, u11, u12, u13, u14, u15, u16, u17, u18, u19, u20, u21, u22, u23, u24, u25, u26, u27, u28, u29, u30, u31, u32, u33, u34, u35, u36, u37, u38, u39, u40, u41, u42, u43, u44, u45, u46, u47, u48, u49, u50, u51, u52, u53, u54, u55, u56, u57, u58, u59, rfl⟩⟩) l hl
/-- What a value of the region is, once it is there. -/
def esp (bA bB ga oa ca gb ob cb n j : Nat) (k0 k1 k2 : Int) (nm : ByteArray) (pa pb : Option Addr) (m sa sb : Nat) (q : Nat) (x : Value) : Prop := match q with
  | 0 => x = .pointer (some ⟨bA, 4, none⟩)
  | 1 => x = .slice (some ⟨ga, oa, none⟩) n ca
  | 2 => x = .int .i64 (j : Int)
  | 3 => x = .pointer (some ⟨ga, oa + j * 5, none⟩)
  | 4 => x = .agg #[.int .i64 k0, .int .i64 k1, .int .i64 k2, .string nm, .slice pa m sa]
  | 5 => x = .pointer (some ⟨bB, 4, none⟩)
  | 6 => x = .slice (some ⟨gb, ob, none⟩) n cb
  | 7 => x = .int .i64 (j : Int)
  | 8 => x = .pointer (some ⟨gb, ob + j * 5, none⟩)
  | 9 => x = .agg #[.int .i64 k0, .int .i64 k1, .int .i64 k2, .string nm, .slice pb m sb]
  | 10 => x = .bool true
  | 11 => x = .bool false
  | _ => True

end Go.Proofs.YtpmobjgnmidolaaDoor

/- What rule comes to. -/
namespace Go.Proofs.YtpmobjgnmidolaaDoor
open Go.RowKit Lx
variable {all : List Tk} {E g : Nat} {v : Value} {w : World} {i n : Nat}

/-- A rule as it is handed on. -/
def ruV (u : Ru) (sl : Value) : Value := .agg #[.string ⟨u.1.toArray⟩, .int .i64 u.2.kind, .int .i64 u.2.a, .int .i64 u.2.b, .string ⟨u.2.name.toArray⟩, sl]
def ru0C : Array Value := #[.string ⟨#[]⟩, .int .i64 0, .int .i64 0, .int .i64 0, .string ⟨#[]⟩, .slice none 0 0]
theorem ruleType : Tryd.prog.underlying 52 = some (.struct (Tryd.prog.fieldsOf 52)) := by kernel_rfl
theorem ru_ret {fn : Func} (s : Nat) (h : fn.results = #[ResultVar.cell s 52]) {R : Ending → World → Prop} {a : Act} {w : World} (g : Nat) (c0 c1 c2 c3 c4 c5 : Value) (hd : a.defers = []) (h2 : a.tmps.getD s undef = .pointer (some ⟨g, 0, none⟩))
    (hg : w.heap[g]? = some (.cells #[c0, c1, c2, c3, c4, c5] 52 (0, 0))) (hR : R (.returned (.agg #[c0, c1, c2, c3, c4, c5])) w) : bodyPost Tryd.prog fn R .ret a w := by
  refine bodyPost_ret (v := .agg #[c0, c1, c2, c3, c4, c5]) ?_ hd hR
  have h2' : a.tmps[s]?.getD undef = .pointer (some ⟨g, 0, none⟩) := by simpa using h2
  have hv := run_loadVar_row (P := Tryd.prog) w g 52 52 _ _ _ hg ruleType rfl (by kernel_rfl)
  simp [results, h, h2', asAddr, hv]

end Go.Proofs.YtpmobjgnmidolaaDoor

/- What rules comes to. -/
namespace Go.Proofs.YtpmobjgnmidolaaDoor
open Go.RowKit Lx
variable {all : List Tk} {E g : Nat} {v : Value} {w : World} {i n : Nat}

/-- The cells of a row of rules, each with its kids' row. -/
def flatR : List (Ru × Value) → List Value
  | [] => []
  | p :: l => .string ⟨p.1.1.toArray⟩ :: .int .i64 p.1.2.kind :: .int .i64 p.1.2.a :: .int .i64 p.1.2.b :: .string ⟨p.1.2.name.toArray⟩ :: p.2 :: flatR l
theorem flatR_snoc (p : Ru × Value) : ∀ l : List (Ru × Value), flatR (l ++ [p]) = flatR l ++ [.string ⟨p.1.1.toArray⟩, .int .i64 p.1.2.kind, .int .i64 p.1.2.a, .int .i64 p.1.2.b, .string ⟨p.1.2.name.toArray⟩, p.2]
  | [] => rfl
  | q :: l => by simp [flatR, flatR_snoc p l]
theorem ruleInfo : (Tryd.prog.info? 52).map (fun i => (i.zero, i.size, i.bytes)) = some (some (.agg #[.string ⟨#[]⟩, .int .i64 0, .int .i64 0, .int .i64 0, .string ⟨#[]⟩, .slice none 0 0]), 6, 80) := by kernel_rfl
theorem rulesType : Tryd.prog.underlying 22 = some (.slice 52) := by kernel_rfl
theorem row_form {w : World} {base : Nat} {e : TypeId} {size : Nat} {v : Value} {n : Nat} {xs : List Value} (h : w.ownsRow base e size v n xs) : ∃ p c, v = .slice p n c := by
  obtain ⟨_, h2⟩ := h
  rcases h2 with ⟨h2, h3⟩ | ⟨g, cap, _, h2, _⟩
  · exact ⟨none, 0, by rw [h2, h3]⟩
  · exact ⟨_, cap, h2⟩
/-- A row of rules of the call's own. -/
structure RowR (w0 w : World) (v : Value) (us : List (Ru × Value)) : Prop where
  own : w.ownsRow w0.heap.size 52 6 v us.length (flatR us)
  kids : ∀ p ∈ us, ∃ d, KidsAt (fun k => w0.heap.size ≤ k) d w p.2 p.1.2.kids
theorem ruleR_len {E : Nat} {r q : List Tk} {u : Ru} (h : ruleR E r = .ok (u, q)) : q.length < r.length := by
  unfold ruleR at h
  split at h
  · cases h
  · rename_i h1
    have h1' := kindP_cons (r := r) (by omega)
    split at h
    · split at h
      · cases h
      · rename_i e q' n' hx
        have hl := rd_len (by omega) hx
        split at h
        · cases h
        · split at h
          · cases h
            simp only [List.length_tail] at hl ⊢
            omega
          · cases h
    · cases h
theorem RowR.kept {w0 w w' : World} {vr : Value} {us : List (Ru × Value)} (h : RowR w0 w vr us) (hk : Kept g w w') (hg : g < w0.heap.size) : RowR w0 w' vr us := by
  refine ⟨h.own.kept hk (.inr fun e => ?_), fun p hp => ?_⟩
  · have := (h.own.lt g e).1
    omega
  · obtain ⟨d, hd⟩ := h.kids p hp
    exact ⟨d, hk.kids (fun k hk => by omega) hd⟩
theorem kids_grown {w0 w w' : World} {vr : Value} {xs : List Value} {m : Nat} {ks : List Ex} {sl : Value} {d : Nat} (ho : w.ownsRow w0.heap.size 52 6 vr m xs) (hg : w.grownBy w' vr.ownBlock) (h : KidsAt (fun k => w0.heap.size ≤ k) d w sl ks) : KidsAt (fun k => w0.heap.size ≤ k) d w' sl ks := by
  obtain ⟨_, h2⟩ := ho
  rcases h2 with ⟨rfl, _⟩ | ⟨b, cap, cur, rfl, _, hh, _⟩
  · exact h.kept fun k _ hl => hg.block k hl (fun e => by cases e)
  · refine ((h.other hh (by decide)).kept fun k hk hl => hg.block k hl (fun e => hk.2 (Option.some.inj e))).mono fun k hk => hk.1
theorem rulesR_step {E f : Nat} {acc : List Ru} {r : List Tk} (h : r.length ≠ 0) : rulesR E (f + 1) acc r = if isT wRule r then (if acc.length = 40 then .error (5, atP E r.tail) else match ruleR E r.tail with | .error q => .error q | .ok (u, q) => rulesR E f (acc ++ [u]) q) else .error (2, atP E r) := by
  rw [rulesR, if_neg h]
  rfl
theorem rulesR_end {E f : Nat} {acc : List Ru} {r : List Tk} (h : r.length = 0) : rulesR E f acc r = .ok acc := by
  cases f with
  | zero => rfl
  | succ f => rw [rulesR, if_pos h]
end Go.Proofs.YtpmobjgnmidolaaDoor
