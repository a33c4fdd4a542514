/- ForgetBefore as the law meets it; marks into a list that may be nil, and read again. -/
import Derived.Test.YtgbkmnhdgaeejaaFgtS
import Derived.Test.YtgbkmnhdgaeejaaSofL
namespace Go.Proofs.Ytgbkmnhdgaeejaa.FgtL
open Go.RowKit Go.Sort Go.BigFrame
open Go.Proofs.Ytgbkmnhdgaeejaa.C1
open Go.Proofs.Ytgbkmnhdgaeejaa.C2
open Go.Proofs.Ytgbkmnhdgaeejaa.Smps
open Go.Proofs.Ytgbkmnhdgaeejaa.Mem
open Go.Proofs.Ytgbkmnhdgaeejaa.Ser
open Go.Proofs.Ytgbkmnhdgaeejaa.Ser2
open Go.Proofs.Ytgbkmnhdgaeejaa.Sto
open Go.Proofs.Ytgbkmnhdgaeejaa.StoL
open Go.Proofs.Ytgbkmnhdgaeejaa.MarkS
open Go.Proofs.Ytgbkmnhdgaeejaa.MarkT
open Go.Proofs.Ytgbkmnhdgaeejaa.Held
open Go.Proofs.Ytgbkmnhdgaeejaa.SofL
open Go.Proofs.Ytgbkmnhdgaeejaa.Fgt
open Go.Proofs.Ytgbkmnhdgaeejaa.FgtI
open Go.Proofs.Ytgbkmnhdgaeejaa.FgtS
set_option linter.unusedVariables false

theorem Has.form {w : World} {B : Nat} {v : Value} {ms : List Sv} (h : Has w B v ms) : ∃ a c, v = .slice a ms.length c := by
  rcases h.1.2 with ⟨hv, h0⟩ | ⟨g, cap, cur, hv, _⟩
  · exact ⟨none, 0, by rw [hv, h0]⟩
  · exact ⟨_, cap, hv⟩
theorem Has.srs {w : World} {B n c : Nat} {a : Option Addr} {ms : List Sv} (h : Has w B (.slice a n c) ms) : Srs w a ms := by
  obtain ⟨h1, g0, h2, _, h3⟩ := h
  rcases h1.2 with ⟨hv, h0⟩ | ⟨g, cap, cur, hv, _⟩
  · exact .inl (List.length_eq_zero_iff.1 h0)
  · cases hv
    rcases h3 with h3 | h3
    · cases h3
      exact srs_of h1 h2
    · cases h3
theorem Has.base {w : World} {B : Nat} {v : Value} {ms : List Sv} (h : Has w B v ms) : B ≤ w.heap.size ∨ ms = [] := by
  rcases h.1.2 with ⟨hv, h0⟩ | ⟨g, cap, cur, hv, hg, hh, _⟩
  · exact .inr (List.length_eq_zero_iff.1 h0)
  · exact .inl (by have := (Array.getElem?_eq_some_iff.1 hh).1; omega)
theorem OwnR_within {B C : Nat} {w w' : World} {v : Value} {ms : List Sv} (h : OwnR w C v ms) (hw : Within B C w w') : OwnR w' C v ms := by
  obtain ⟨h1, h2⟩ := h
  refine ⟨h1, ?_⟩
  rcases h2 with h2 | ⟨g, cap, cur, hv, hg, hh, r⟩
  · exact .inl h2
  · exact .inr ⟨g, cap, cur, hv, hg, by rw [hw.block g (Array.getElem?_eq_some_iff.1 hh).1 (.inr hg)]; exact hh, r⟩
theorem Has.within {B C : Nat} {w w' : World} {v : Value} {ms : List Sv} (h : Has w C v ms) (hw : Within B C w w') : Has w' C v ms := by
  obtain ⟨h1, g, h2, h3, h4⟩ := h
  exact ⟨OwnR_within h1 hw, g, ⟨fun l hl => OwnP_within (h2.own l hl) hw, h2.off, h2.apart⟩, Nat.lt_of_lt_of_le h3 hw.size, h4⟩
/-- What both answer. -/
def ansV (t : Int) (ss : List Ser) : List Ser := if storeV ss then forgetV t ss else ss
def remS (ss : List Ser) : Nat := (ss.map fun s => 2 + 2 * s.pts.length).sum
theorem rem_eq (ms : List Sv) : rem ms 0 = remS (ms.map Sv.s) := by
  unfold rem remS
  rw [List.drop_zero, List.map_map]
  rfl
theorem forget_bounds (t : Int) : ∀ ss : List Ser, (forgetV t ss).length ≤ ss.length ∧ remS (forgetV t ss) ≤ remS ss ∧ ∀ s ∈ forgetV t ss, ∃ s' ∈ ss, s.pts.length ≤ s'.pts.length
  | [] => ⟨Nat.le_refl _, Nat.le_refl _, fun s h => absurd h (by simp [forgetV])⟩
  | s :: r => by
    obtain ⟨h1, h2, h3⟩ := forget_bounds t r
    have hle := since_le t s.pts
    by_cases hs : since t s.pts = []
    · have e : forgetV t (s :: r) = forgetV t r := by unfold forgetV; simp [cutS, hs]
      rw [e]
      refine ⟨by simp; omega, by unfold remS at *; simp; omega, fun x hx => ?_⟩
      obtain ⟨s', hs', hl⟩ := h3 x hx
      exact ⟨s', List.mem_cons_of_mem _ hs', hl⟩
    · have e : forgetV t (s :: r) = cutS t s :: forgetV t r := by
        unfold forgetV
        have : (since t s.pts).isEmpty = false := by simpa using hs
        simp [cutS, this]
      rw [e]
      refine ⟨by simp; omega, ?_, fun x hx => ?_⟩
      · unfold remS at *
        simp only [List.map_cons, List.sum_cons]
        have : (cutS t s).pts.length ≤ s.pts.length := hle
        omega
      · rcases List.mem_cons.1 hx with rfl | hx
        · exact ⟨s, List.mem_cons_self, hle⟩
        · obtain ⟨s', hs', hl⟩ := h3 x hx
          exact ⟨s', List.mem_cons_of_mem _ hs', hl⟩
theorem ans_bounds (t : Int) (ss : List Ser) : (ansV t ss).length ≤ ss.length ∧ remS (ansV t ss) ≤ remS ss ∧ ∀ s ∈ ansV t ss, ∃ s' ∈ ss, s.pts.length ≤ s'.pts.length := by
  unfold ansV
  split
  · exact forget_bounds t ss
  · exact ⟨Nat.le_refl _, Nat.le_refl _, fun s h => ⟨s, h, Nat.le_refl _⟩⟩
/-- Bounds of a list of one's own that the law reads. -/
structure Fair (ls ns : List Sv) : Prop where
  most : ns.length ≤ ls.length
  rem : rem ns 0 ≤ MarkS.rem ls 0
  pts : (∀ l ∈ ls, l.s.pts.length ≤ 1048576) → ∀ l ∈ ns, l.s.pts.length ≤ 1048576
theorem fair_of {t : Int} {ls ns : List Sv} (h : ns.map Sv.s = ansV t (ls.map Sv.s)) : Fair ls ns := by
  obtain ⟨h1, h2, h3⟩ := ans_bounds t (ls.map Sv.s)
  rw [← h] at h1 h2 h3
  refine ⟨by simpa using h1, by rw [rem_eq, rem_eq]; exact h2, fun hp l hl => ?_⟩
  obtain ⟨s', hs', hle⟩ := h3 l.s (List.mem_map.2 ⟨l, hl, rfl⟩)
  obtain ⟨l', hl', rfl⟩ := List.mem_map.1 hs'
  exact Nat.le_trans hle (hp l' hl')
theorem fgt_out {t : Int} {ss : List Ser} {B : Nat} {w' : World} {e : Ending} (h : FgtP t ss B w' e) : ∃ a c ms, e = .returned (.tuple #[.slice a ms.length c, .bool (storeV ss)]) ∧ ms.map Sv.s = ansV t ss ∧ Has w' B (.slice a ms.length c) ms := by
  obtain ⟨v, ms, hh, rfl, hm⟩ := h
  obtain ⟨a, c, rfl⟩ := Has.form hh
  exact ⟨a, c, ms, rfl, hm, hh⟩
theorem spec_forget2 (ls ms : List Sv) (hs : ms.map Sv.s = ls.map Sv.s) (a : Option Addr) (cap : Nat) (t : Int) (w : World) (hwf : ∀ l ∈ ls, l.s.wf) (hpl : ∀ l ∈ ls, l.s.pts.length ≤ 1048576) (h : Srs w a ms) (hm : ls.length ≤ 1048576) (bb : Bool) (hbb : storeV (ls.map Sv.s) = bb) :
    Calls Try.prog 42 #[.slice a ls.length cap, .int .i64 t] w fun e w' => (∃ a c ns, e = .returned (.tuple #[.slice a ns.length c, .bool bb]) ∧ ns.map Sv.s = ansV t (ls.map Sv.s) ∧ Has w' w.heap.size (.slice a ns.length c) ns) ∧ Below w.heap.size w w' := by
  have hl := map_len hs
  have := spec_forget ms a cap t w h (by omega) (map_all hs hwf) (map_all (P := fun s => s.pts.length ≤ 1048576) hs hpl)
  rw [hl, hs] at this
  refine this.mono fun e w' ⟨h1, h2⟩ => ⟨?_, h2⟩
  rw [← hbb]
  exact fgt_out h1
theorem impl_forget2 (ls ms ns : List Sv) (hs : ms.map Sv.s = ls.map Sv.s) (t : Int) (hns : ns.map Sv.s = ansV t (ls.map Sv.s)) (g cap B : Nat) (w : World) (hwf : ∀ l ∈ ls, l.s.wf) (hpl : ∀ l ∈ ls, l.s.pts.length ≤ 1048576) (ho : OwnR w B (.slice (some ⟨g, 0, none⟩) ls.length cap) ms) (hg : Ser2.Good w B g ms) (hm : ls.length ≤ 1048576) (bb : Bool) (hbb : storeV (ls.map Sv.s) = bb) :
    Calls Try.prog 43 #[.slice (some ⟨g, 0, none⟩) ls.length cap, .int .i64 t] w fun e w' => (∃ a c xs, e = .returned (.tuple #[.slice a ns.length c, .bool bb]) ∧ xs.map Sv.s = ns.map Sv.s ∧ Has w' w.heap.size (.slice a ns.length c) xs) ∧ Below w.heap.size w w' := by
  have hl := map_len hs
  have := impl_forget ms g cap B t w (by rw [hl]; exact ho) hg (by omega) (map_all hs hwf) (map_all (P := fun s => s.pts.length ≤ 1048576) hs hpl)
  rw [hl, hs] at this
  refine this.mono fun e w' ⟨h1, h2⟩ => ⟨?_, h2⟩
  obtain ⟨a, c, xs, rfl, hx, hh⟩ := fgt_out h1
  have hxn : xs.map Sv.s = ns.map Sv.s := by rw [hx, hns]
  have hlen := map_len hxn
  rw [hlen] at hh ⊢
  exact ⟨a, c, xs, by rw [hbb], hxn, hh⟩
theorem mark_nil (w : World) : Calls Try.prog 21 #[.slice none 0 0, .int .i64 1] w fun e w' => e = .returned (.int .i64 1) ∧ w' = w := by
  go_enter Try.func21, Try.ntmps21
  go_wp2
  go_loop [1, 5] (fun v i => v = .int .i64 1 ∧ i = .int .i64 0) (fun _ _ => 0)
  case atStart => exact ⟨rfl, rfl⟩
  case round =>
    obtain ⟨rfl, rfl⟩ := hrel
    go_wp2
    go_ret
    exact ⟨rfl, rfl⟩
theorem held_nil (w : World) : Calls Try.prog 22 #[.slice none 0 0, .int .i64 1] w fun e w' => e = .returned (.int .i64 1) ∧ w' = w := by
  go_enter Try.func22, Try.ntmps22
  go_wp2
  go_loop [1, 5] (fun v i => v = .int .i64 1 ∧ i = .int .i64 0) (fun _ _ => 0)
  case atStart => exact ⟨rfl, rfl⟩
  case round =>
    obtain ⟨rfl, rfl⟩ := hrel
    go_wp2
    go_ret
    exact ⟨rfl, rfl⟩
theorem mark_has (ns ms : List Sv) (hs : ms.map Sv.s = ns.map Sv.s) (a : Option Addr) (c B q : Nat) (hq : 1 + rem ns 0 = q) (hk : q ≤ 100000000) (hm : ns.length ≤ 1048576) (w : World) (hB : B ≤ w.heap.size) (h : Has w B (.slice a ns.length c) ms) :
    Calls Try.prog 21 #[.slice a ns.length c, .int .i64 1] w fun e w' => e = .returned (.int .i64 q) ∧ Has w' B (.slice a ns.length c) (marksS 1 ms) ∧ Within B w.heap.size w w' := by
  have hl := map_len hs
  have hr := rem_map hs
  rw [← hl] at h ⊢
  rw [← hr] at hq
  obtain ⟨h1, g0, h2, h3, h4⟩ := h
  rcases h1.2 with ⟨hv, h0⟩ | ⟨g, cap, cur, hv, _⟩
  · obtain rfl := List.length_eq_zero_iff.1 h0
    have hv' := hv
    simp only [List.length_nil, Value.slice.injEq] at hv'
    obtain ⟨rfl, -, rfl⟩ := hv'
    refine (mark_nil w).mono ?_
    rintro e w' ⟨rfl, rfl⟩
    refine ⟨?_, ⟨h1, g0, h2, h3, h4⟩, Within.refl _ _ _⟩
    have : q = 1 := by rw [← hq]; rfl
    rw [this]; rfl
  · cases hv
    rcases h4 with h4 | h4
    · cases h4
      refine (mark_series3 ms g c B w.heap.size 1 (by omega) (by omega) w h1 h2 h1.lt.2 (fun l hl b o s e => by have := h2.own l hl; rw [e] at this; exact this.lt.2) hB (by omega)).mono ?_
      rintro e w' ⟨xs, rfl, rfl, ho, hg, hw⟩
      rw [hq]
      exact ⟨rfl, .of ho hg, hw⟩
    · cases h4
theorem held_has (ns ms : List Sv) (hs : ms.map Sv.s = ns.map Sv.s) (a : Option Addr) (c B q : Nat) (hq : 1 + rem ns 0 = q) (hk : q ≤ 100000000) (hm : ns.length ≤ 1048576) (w : World) (h : Has w B (.slice a ns.length c) (marksS 1 ms)) :
    Calls Try.prog 22 #[.slice a ns.length c, .int .i64 1] w fun e w' => e = .returned (.int .i64 q) ∧ Below w.heap.size w w' := by
  have hl := map_len hs
  have hr := rem_map hs
  rw [← hl] at h ⊢
  rw [← hr] at hq
  obtain ⟨h1, g0, h2, h3, h4⟩ := h
  rcases h1.2 with ⟨hv, h0⟩ | ⟨g, cap, cur, hv, _⟩
  · rw [marksS_len] at h0
    obtain rfl := List.length_eq_zero_iff.1 h0
    simp only [List.length_nil, Value.slice.injEq] at hv
    obtain ⟨rfl, -, rfl⟩ := hv
    refine (held_nil w).mono ?_
    rintro e w' ⟨rfl, rfl⟩
    have : q = 1 := by rw [← hq]; rfl
    rw [this]
    exact ⟨rfl, Below.refl _ _⟩
  · have ha : a = some ⟨g, 0, none⟩ := by simp only [Value.slice.injEq] at hv; exact hv.1
    subst ha
    rcases h4 with h4 | h4
    · cases h4
      have := held_series ms g c B 1 (by omega) (by omega) w h1 h2 (by omega)
      rw [hq] at this
      exact this
    · cases h4
end Go.Proofs.Ytgbkmnhdgaeejaa.FgtL
