/- SumOfMetric of chapter 2: the values of the samples with that Metric and At, collected in a row of the call's own and added. -/
import Derived.Test.YtcjjdnfikccnmabSmps
import Derived.Test.YtcjjdnfikccnmabC1L
namespace Go.Proofs.Ytcjjdnfikccnmab.Sum
open Go.RowKit Go.Deep
open Go.Proofs.Ytcjjdnfikccnmab.C1
open Go.Proofs.Ytcjjdnfikccnmab.Ints
open Go.Proofs.Ytcjjdnfikccnmab.C1L
open Go.Proofs.Ytcjjdnfikccnmab.C2
open Go.Proofs.Ytcjjdnfikccnmab.Smps
set_option linter.unusedVariables false

def selP (m : ByteArray) (t : Int) (s : Smp) : Bool := (s.met.toList == m.toList) && (s.tick == t)
def sel (xs : List Smp) (m : ByteArray) (t : Int) : List Int := (xs.filter (selP m t)).map (·.val)
theorem sel_yes {xs : List Smp} {m : ByteArray} {t : Int} {k : Nat} (hk : k < xs.length) (h : selP m t xs[k] = true) : sel (xs.take (k + 1)) m t = sel (xs.take k) m t ++ [xs[k].val] := by
  unfold sel
  rw [List.take_succ_eq_append_getElem hk, List.filter_append, List.map_append]
  simp [h]
theorem sel_no {xs : List Smp} {m : ByteArray} {t : Int} {k : Nat} (hk : k < xs.length) (h : selP m t xs[k] = false) : sel (xs.take (k + 1)) m t = sel (xs.take k) m t := by
  unfold sel
  rw [List.take_succ_eq_append_getElem hk, List.filter_append, List.map_append]
  simp [h]
theorem sel_len (xs : List Smp) (m : ByteArray) (t : Int) : (sel xs m t).length ≤ xs.length := by
  unfold sel
  rw [List.length_map]
  exact List.length_filter_le _ _

/-- A row of the call's own whose cells are numbers. -/
def OwnI (w : World) (B : Nat) (v : Value) (xs : List Int) : Prop := w.ownsRow B 3 1 v xs.length (xs.map (Value.int .i64))
theorem OwnI.ints {w : World} {B : Nat} {v : Value} {xs : List Int} (h : OwnI w B v xs) : ∃ a cap, v = .slice a xs.length cap ∧ Ints w a xs := by
  have h' : w.ownsRow B 3 1 v xs.length (xs.map (Value.int .i64)) := h
  rcases h.2 with ⟨hv, h0⟩ | ⟨g, cap, cur, hv, _⟩
  · exact ⟨none, 0, by rw [hv, h0], .inl (List.length_eq_zero_iff.1 h0)⟩
  · rw [hv] at h'
    exact ⟨_, cap, hv, owned_ints h' rfl⟩
theorem OwnI.snoc {w : World} {B : Nat} {v : Value} {xs : List Int} {x : Int} (h : w.ownsRow B 3 1 v (xs.length + 1) (xs.map (Value.int .i64) ++ [.int .i64 x])) : OwnI w B v (xs ++ [x]) := by
  unfold OwnI
  rw [List.length_append, List.map_append]
  exact h
theorem OwnI.kept {w w' : World} {B : Nat} {v : Value} {xs : List Int} (h : OwnI w B v xs) (hb : Below w.heap.size w w') : OwnI w' B v xs := by
  obtain ⟨h1, h2⟩ := h
  refine ⟨h1, ?_⟩
  rcases h2 with h2 | ⟨g, cap, cur, hv, hg, hh, r⟩
  · exact .inl h2
  · exact .inr ⟨g, cap, cur, hv, hg, by rw [hb.block g (Array.getElem?_eq_some_iff.1 hh).1]; exact hh, r⟩
/-- The one new cell that an append of one number reads. -/
theorem one_cell (w : World) (x : Int) (t : TypeId) : ∀ (j : Nat) (u : Value), [Value.int .i64 x][j]? = some u → (w.alloc (.cells #[.int .i64 x] t)).cell? ((⟨w.heap.size, 0, none⟩ : Addr).add j) = some u := by
  intro j u hj
  match j, hj with
  | 0, hj => simp at hj; subst hj; simp [Addr.add]
theorem info_int : ∃ i, Try.prog.info? 3 = some i ∧ i.zero = some (.int .i64 0) ∧ i.size = 1 ∧ i.bytes = 8 := by
  obtain ⟨i, hi, hz⟩ := Option.map_eq_some_iff.1 info3
  simp only [Prod.mk.injEq] at hz
  exact ⟨i, hi, hz.1, hz.2.1, hz.2.2⟩

end Go.Proofs.Ytcjjdnfikccnmab.Sum
