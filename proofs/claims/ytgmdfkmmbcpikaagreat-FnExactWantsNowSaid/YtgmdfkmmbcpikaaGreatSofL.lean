/- SeriesOf as the law meets it. -/
import Derived.Test.YtgmdfkmmbcpikaaGreatMarkS
import Derived.Test.YtgmdfkmmbcpikaaGreatAvg
namespace Go.Proofs.YtgmdfkmmbcpikaaGreat.SofL
open Go.RowKit Go.Sort
open Go.Proofs.YtgmdfkmmbcpikaaGreat.C1
open Go.Proofs.YtgmdfkmmbcpikaaGreat.C2
open Go.Proofs.YtgmdfkmmbcpikaaGreat.Smps
open Go.Proofs.YtgmdfkmmbcpikaaGreat.Mem
open Go.Proofs.YtgmdfkmmbcpikaaGreat.Ser
open Go.Proofs.YtgmdfkmmbcpikaaGreat.Ser2
open Go.Proofs.YtgmdfkmmbcpikaaGreat.Sto
open Go.Proofs.YtgmdfkmmbcpikaaGreat.StoL
open Go.Proofs.YtgmdfkmmbcpikaaGreat.Find
open Go.Proofs.YtgmdfkmmbcpikaaGreat.Sof
open Go.Proofs.YtgmdfkmmbcpikaaGreat.Lat
open Go.Proofs.YtgmdfkmmbcpikaaGreat.Avg
open Go.Proofs.YtgmdfkmmbcpikaaGreat.From
open Go.Proofs.YtgmdfkmmbcpikaaGreat.MarkS
set_option linter.unusedVariables false

theorem sof_both {xs : List Ser} {p m : ByteArray} {B : Nat} {w' : World} {e : Ending} (h : SofP xs p m B w' e) :
    ∃ a cap, e = .returned (.tuple #[.slice a (ptsOf xs p m).length cap, .bool (lastB xs p m)]) ∧ OwnP w' B (.slice a (ptsOf xs p m).length cap) (ptsOf xs p m) := by
  rcases h with ⟨hf, rfl⟩ | ⟨s, v, hf, hv, rfl, ho⟩
  · rw [ptsOf_none hf, (last_none hf).2]
    exact ⟨none, 0, rfl, rfl, .inl ⟨rfl, rfl⟩⟩
  · rw [ptsOf_some hf]
    have hb : lastB xs p m = true := by unfold lastB; rw [hf]; rfl
    rw [hb]
    have ho' := ho
    rcases ho.2 with ⟨hv2, h0⟩ | ⟨g, cap, cur, hv2, _⟩
    · rw [hv2] at ho' ⊢
      refine ⟨none, 0, by rw [h0], ?_⟩
      rw [h0]
      exact ho'
    · rw [hv2] at ho' ⊢
      exact ⟨_, cap, rfl, ho'⟩
theorem ptsOf_len (xs : List Ser) (p m : ByteArray) : (ptsOf xs p m).length ≤ 12 := by
  cases hf : findV xs p m with
  | none => rw [ptsOf_none hf]; simp
  | some s =>
    rw [ptsOf_some hf]
    have hv : storeV xs = true := by
      cases h : storeV xs
      · unfold findV at hf; rw [h] at hf; simp at hf
      · rfl
    exact (find_ok hf hv).pts.most
theorem OnlyA_below {a : Option Addr} {w w' : World} (h : OnlyA a w w') {b : Nat} {x : World} (hb : Below b x w) (hlt : ∀ c o s, a = some ⟨c, o, s⟩ → b ≤ c) (h2 : b ≤ w.heap.size) : Below b x w' := by
  cases ha : a with
  | none => rw [h.1 ha]; exact hb
  | some p =>
    obtain ⟨c, o, s⟩ := p
    exact hb.trans ((h.2 c o s ha).below (hlt c o s ha) h2)
theorem own_base {w : World} {B n cap : Nat} {a : Option Addr} {ps : List Pt} (h : OwnP w B (.slice a n cap) ps) : ∀ c o s, a = some ⟨c, o, s⟩ → B ≤ c := fun c o s e => by
  rw [e] at h
  exact h.lt.1
theorem spec_sof2 (ls ms : List Sv) (hs : ms.map Sv.s = ls.map Sv.s) (a : Option Addr) (cap : Nat) (p m : ByteArray) (w : World) (hwf : ∀ l ∈ ls, l.s.wf) (hpl : ∀ l ∈ ls, l.s.pts.length ≤ 1048576) (h : Srs w a ms) (hm : ls.length ≤ 1048576) (ps : List Pt) (hps : ptsOf (ls.map Sv.s) p m = ps) (bb : Bool) (hbb : lastB (ls.map Sv.s) p m = bb) :
    Calls Tryz.prog 162 #[.slice a ls.length cap, .string p, .string m] w fun e w' => (∃ a cap, e = .returned (.tuple #[.slice a ps.length cap, .bool bb]) ∧ OwnP w' w.heap.size (.slice a ps.length cap) ps) ∧ Below w.heap.size w w' := by
  have hl := map_len hs
  have := spec_sof ms a cap p m w (map_all hs hwf) (map_all (P := fun s => s.pts.length ≤ 1048576) hs hpl) h (by omega)
  rw [hl, hs] at this
  refine this.mono fun e w' ⟨h1, h2⟩ => ⟨?_, h2⟩
  have := sof_both h1
  rw [hps, hbb] at this
  exact this
theorem rem_map {ls ms : List Sv} (h : ms.map Sv.s = ls.map Sv.s) : rem ms 0 = rem ls 0 := by
  have e : ∀ xs : List Sv, rem xs 0 = ((xs.map Sv.s).map fun s => 2 + 2 * s.pts.length).sum := fun xs => by
    unfold rem
    rw [List.drop_zero, List.map_map]
    rfl
  rw [e, e, h]
/-- The marks into a copy of the argument: what lies outside its blocks stands. -/
theorem mark_series2 (ls ms : List Sv) (hs : ms.map Sv.s = ls.map Sv.s) (g B C : Nat) (hrem : rem ls 0 ≤ 4194304) (hm : ls.length ≤ 1048576) (w : World) (ho : OwnR w B (.slice (some ⟨g, 0, none⟩) ls.length ls.length) ms) (hg : Ser2.Good w B g ms)
    (hgC : g < C) (hlC : ∀ l ∈ ms, ∀ b o s, l.a = some ⟨b, o, s⟩ → b < C) (hBw : B ≤ w.heap.size) :
    Calls Tryz.prog 51 #[.slice (some ⟨g, 0, none⟩) ls.length ls.length, .int .i64 1] w fun e w' => ∃ m : Nat, e = .returned (.int .i64 m) ∧ Within B C w w' := by
  have hl := map_len hs
  have hr := rem_map hs
  have := mark_series ms g ls.length B C 1 (by omega) (by omega) w (by rw [hl]; exact ho) hg hgC hlC hBw (by omega)
  rw [hl] at this
  exact this
end Go.Proofs.YtgmdfkmmbcpikaaGreat.SofL
