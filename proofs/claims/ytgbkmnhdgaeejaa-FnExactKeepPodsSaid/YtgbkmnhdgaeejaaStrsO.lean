/- An argument that is a slice of strings, opened; KeepPods as the law meets it. -/
import Derived.Test.YtgbkmnhdgaeejaaStrs
namespace Go.Proofs.Ytgbkmnhdgaeejaa.StrsO
open Go.RowKit Go.Sort Go.BigFrame
open Go.ChangeShapes Go.WideShapes Go.ChangeAt Go.ChangeMaps
open Go.Proofs.Ytgbkmnhdgaeejaa.C1
open Go.Proofs.Ytgbkmnhdgaeejaa.C2
open Go.Proofs.Ytgbkmnhdgaeejaa.Smps
open Go.Proofs.Ytgbkmnhdgaeejaa.Mem
open Go.Proofs.Ytgbkmnhdgaeejaa.Ser
open Go.Proofs.Ytgbkmnhdgaeejaa.Ser2
open Go.Proofs.Ytgbkmnhdgaeejaa.Sto
open Go.Proofs.Ytgbkmnhdgaeejaa.StoL
open Go.Proofs.Ytgbkmnhdgaeejaa.MarkS
open Go.Proofs.Ytgbkmnhdgaeejaa.SofL
open Go.Proofs.Ytgbkmnhdgaeejaa.FgtI
open Go.Proofs.Ytgbkmnhdgaeejaa.FgtL
open Go.Proofs.Ytgbkmnhdgaeejaa.KeepS
open Go.Proofs.Ytgbkmnhdgaeejaa.KeepI
open Go.Proofs.Ytgbkmnhdgaeejaa.Strs
set_option linter.unusedVariables false

section
open Go.Deep
variable {H : Type} {enc : TypeId × Value → H} {P : Program} {w : World} {base : Nat} {spare : Nat → Bool} {held : Bool}
theorem open_strs {t e : TypeId} {fuel : Nat} {a : Option Addr} {len cap : Nat} {x : DataW H × List MemPlace} (ht : P.underlying t = some (.slice e)) (he : P.underlying e = some .string) (hC : P.cellsOf e = 1)
    (h : DataW.trod enc P w base (fun _ => true) held fuel t (Value.slice a len cap).cells.toList = some x) : ∃ qs, IsTxts w a len cap qs := by
  rcases open_slice ht h with ⟨hcs, _⟩ | ⟨x, l, c, m, n, D, Pl, hcs, _, hl, hm, hmm, _, hi⟩
  · simp [Value.cells] at hcs
    obtain ⟨rfl, rfl, rfl⟩ := hcs
    exact ⟨[], rfl, Nat.le_refl _, Nat.zero_le _, fun _ h => absurd h (by simp), .inl rfl⟩
  · simp [Value.cells] at hcs
    obtain ⟨rfl, rfl, rfl⟩ := hcs
    have key : ∀ i, i < len → ∃ q : ByteArray, q.size ≤ maxLen ∧ w.cell? (x.add (i * 1)) = some (.string q) := by
      intro i hil
      obtain ⟨cs', hc, ht'⟩ := hi i (by rw [hmm]; simp; omega)
      rw [hC] at hc
      obtain ⟨_, hcl, hat⟩ := World.cells?_some hc
      match cs', hcl with
      | [c0], _ =>
        obtain ⟨q, e0, _, u0⟩ := DataW.trod_string he ht'
        simp at e0
        subst e0
        refine ⟨q, u0, ?_⟩
        have := hat 0 (by omega); simpa [Addr.add] using this
    obtain ⟨f, hf⟩ := choose_lt key
    refine ⟨(List.range len).map f, by simp, hl, hm, fun s hs => ?_, ?_⟩
    · obtain ⟨i, hi2, rfl⟩ := List.mem_map.1 hs
      exact (hf i (List.mem_range.1 hi2)).1
    · by_cases h0 : len = 0
      · exact .inl (by simp [h0])
      · obtain ⟨b, off, spot⟩ := x
        have hspot : spot = none := by
          have := (hf 0 (by omega)).2
          simpa [Addr.add] using World.cell?_spot this
        subst hspot
        refine .inr ⟨b, off, rfl, ?_, fun i hi2 => ?_⟩
        · have := (hf 0 (by omega)).2
          simp [Addr.add] at this
          exact World.block_lt_of_cell? _ _ this
        · have hil : i < len := by simpa using hi2
          have c0 := (hf i hil).2
          rw [Go.WideShapes.add_plain, Nat.mul_one] at c0
          simp only [List.getElem_map, List.getElem_range]
          exact c0
end
theorem keep_rem (qs : List ByteArray) : ∀ ss : List Ser, remS (keepV qs ss) ≤ remS ss
  | [] => Nat.le_refl _
  | s :: r => by
    have ih := keep_rem qs r
    unfold keepV remS at *
    by_cases h : hasPod qs s.pod = true
    · rw [List.filter_cons_of_pos (by exact h)]; simp only [List.map_cons, List.sum_cons]; omega
    · rw [List.filter_cons_of_neg (by exact h)]; simp only [List.map_cons, List.sum_cons]; omega
theorem keep_bounds (qs : List ByteArray) (ss : List Ser) : (keepA qs ss).length ≤ ss.length ∧ remS (keepA qs ss) ≤ remS ss ∧ ∀ s ∈ keepA qs ss, s ∈ ss := by
  unfold keepA
  split
  · exact ⟨List.length_filter_le _ _, keep_rem qs ss, fun s hs => (List.mem_filter.1 hs).1⟩
  · exact ⟨Nat.le_refl _, Nat.le_refl _, fun s h => h⟩
theorem fair_keep {qs : List ByteArray} {ls ns : List Sv} (h : ns.map Sv.s = keepA qs (ls.map Sv.s)) : FgtL.Fair ls ns := by
  obtain ⟨h1, h2, h3⟩ := keep_bounds qs (ls.map Sv.s)
  rw [← h] at h1 h2 h3
  refine ⟨by simpa using h1, by rw [rem_eq, rem_eq]; exact h2, fun hp l hl => ?_⟩
  obtain ⟨l', hl', e⟩ := List.mem_map.1 (h3 l.s (List.mem_map.2 ⟨l, hl, rfl⟩))
  rw [← e]
  exact hp l' hl'
theorem keep_out {qs : List ByteArray} {ss : List Ser} {B : Nat} {w' : World} {e : Ending} (h : KeepP qs ss B w' e) : ∃ a c ms, e = .returned (.tuple #[.slice a ms.length c, .bool (keepB qs ss)]) ∧ ms.map Sv.s = keepA qs ss ∧ Has w' B (.slice a ms.length c) ms := by
  obtain ⟨v, ms, hh, rfl, hm⟩ := h
  obtain ⟨a, c, rfl⟩ := Has.form hh
  exact ⟨a, c, ms, rfl, hm, hh⟩
theorem spec_keep2 (ls ms : List Sv) (hs : ms.map Sv.s = ls.map Sv.s) (a : Option Addr) (cap : Nat) (qs : List ByteArray) (aq : Option Addr) (capq : Nat) (w : World) (hwf : ∀ l ∈ ls, l.s.wf) (hpl : ∀ l ∈ ls, l.s.pts.length ≤ 1048576) (h : Srs w a ms) (hq : Txts w aq qs) (hm : ls.length ≤ 1048576) (hqm : qs.length ≤ 1048576) (bb : Bool) (hbb : keepB qs (ls.map Sv.s) = bb) :
    Calls Try.prog 45 #[.slice a ls.length cap, .slice aq qs.length capq] w fun e w' => (∃ a c ns, e = .returned (.tuple #[.slice a ns.length c, .bool bb]) ∧ ns.map Sv.s = keepA qs (ls.map Sv.s) ∧ Has w' w.heap.size (.slice a ns.length c) ns) ∧ Below w.heap.size w w' := by
  have hl := map_len hs
  have := spec_keep ms a cap qs aq capq w h hq (by omega) hqm (map_all hs hwf) (map_all (P := fun s => s.pts.length ≤ 1048576) hs hpl)
  rw [hl, hs] at this
  refine this.mono fun e w' ⟨h1, h2⟩ => ⟨?_, h2⟩
  rw [← hbb]
  exact keep_out h1
theorem impl_keep2 (ls ms ns : List Sv) (hs : ms.map Sv.s = ls.map Sv.s) (qs : List ByteArray) (hns : ns.map Sv.s = keepA qs (ls.map Sv.s)) (g cap B : Nat) (aq : Option Addr) (capq : Nat) (w : World) (hwf : ∀ l ∈ ls, l.s.wf) (hpl : ∀ l ∈ ls, l.s.pts.length ≤ 1048576) (ho : OwnR w B (.slice (some ⟨g, 0, none⟩) ls.length cap) ms) (hg : Ser2.Good w B g ms) (hq : Txts w aq qs) (hm : ls.length ≤ 1048576) (hqm : qs.length ≤ 1048576) (bb : Bool) (hbb : keepB qs (ls.map Sv.s) = bb) :
    Calls Try.prog 47 #[.slice (some ⟨g, 0, none⟩) ls.length cap, .slice aq qs.length capq] w fun e w' => (∃ a c xs, e = .returned (.tuple #[.slice a ns.length c, .bool bb]) ∧ xs.map Sv.s = ns.map Sv.s ∧ Has w' w.heap.size (.slice a ns.length c) xs) ∧ Below w.heap.size w w' := by
  have hl := map_len hs
  have := impl_keep ms g cap B qs aq capq w (by rw [hl]; exact ho) hg hq (by omega) hqm (map_all hs hwf) (map_all (P := fun s => s.pts.length ≤ 1048576) hs hpl)
  rw [hl, hs] at this
  refine this.mono fun e w' ⟨h1, h2⟩ => ⟨?_, h2⟩
  obtain ⟨a, c, xs, rfl, hx, hh⟩ := keep_out h1
  have hxn : xs.map Sv.s = ns.map Sv.s := by rw [hx, hns]
  have hlen := map_len hxn
  rw [hlen] at hh ⊢
  exact ⟨a, c, xs, by rw [hbb], hxn, hh⟩
/-- The marks into a copy of the argument, with their count. -/
theorem mark_arg (ls ms : List Sv) (hs : ms.map Sv.s = ls.map Sv.s) (g B C : Nat) (hrem : rem ls 0 ≤ 4194304) (hm : ls.length ≤ 1048576) (w : World) (ho : OwnR w B (.slice (some ⟨g, 0, none⟩) ls.length ls.length) ms) (hg : Ser2.Good w B g ms)
    (hgC : g < C) (hlC : ∀ l ∈ ms, ∀ b o s, l.a = some ⟨b, o, s⟩ → b < C) (hBw : B ≤ w.heap.size) :
    Calls Try.prog 21 #[.slice (some ⟨g, 0, none⟩) ls.length ls.length, .int .i64 1] w fun e w' => ∃ m : Nat, e = .returned (.int .i64 m) ∧ 0 < m ∧ m ≤ 4194305 ∧ Within B C w w' := by
  have hl := map_len hs
  have hr := rem_map hs
  have := MarkT.mark_series3 ms g ls.length B C 1 (by omega) (by omega) w (by rw [hl]; exact ho) hg hgC hlC hBw (by omega)
  rw [hl] at this
  refine this.mono ?_
  rintro e w' ⟨xs, rfl, _, _, _, hw⟩
  exact ⟨_, rfl, by omega, by omega, hw⟩
theorem MineT.within {w w' : World} {B C g : Nat} {qs : List ByteArray} (h : MineT w C g qs) (hw : Within B C w w') : MineT w' C g qs := by
  have hb := hw.block g h.2.1 (.inr h.1)
  exact ⟨h.1, Nat.lt_of_lt_of_le h.2.1 hw.size, fun j hj => ⟨(World.cell?_of_block (w := w) (a := ⟨g, j, none⟩) hb).trans (h.2.2 j hj).1, (World.frozen?_of_block (w := w) (a := ⟨g, j, none⟩) hb).trans (h.2.2 j hj).2⟩⟩
theorem within_up {B C D : Nat} {w w' : World} (h : Within B C w w') (hD : C ≤ D) : Within B D w w' := ⟨h.os, h.tape, h.output, h.size, fun k hk hc => h.block k hk (by omega)⟩
/-- The marks into a copy of the pods. -/
theorem mark_pods (qs : List ByteArray) (g B k : Nat) (h0 : 0 < k) (hk : k ≤ 4194305) (hm : qs.length ≤ 1048576) (w : World) (h : MineT w B g qs) :
    Calls Try.prog 49 #[.slice (some ⟨g, 0, none⟩) qs.length qs.length, .int .i64 k] w fun e w' => ∃ m : Nat, e = .returned (.int .i64 m) ∧ Within B (g + 1) w w' := by
  have := mark_strs g qs.length qs.length k h0 (qs.map Value.string) (by simp) (by simp; omega) w h.2
  refine this.mono ?_
  rintro e w' ⟨rfl, _, ho⟩
  exact ⟨_, rfl, Within.of_only ho h.1 (by omega)⟩
end Go.Proofs.Ytgbkmnhdgaeejaa.StrsO
