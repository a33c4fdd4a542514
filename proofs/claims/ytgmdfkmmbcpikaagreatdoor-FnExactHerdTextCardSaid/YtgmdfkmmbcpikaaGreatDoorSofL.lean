/- SeriesOf as the law meets it. -/
import Derived.Test.YtgmdfkmmbcpikaaGreatDoorMarkS
import Derived.Test.YtgmdfkmmbcpikaaGreatDoorAvg
namespace Go.Proofs.YtgmdfkmmbcpikaaGreatDoor.SofL
open Go.RowKit Go.Sort
open Go.Proofs.YtgmdfkmmbcpikaaGreatDoor.C1
open Go.Proofs.YtgmdfkmmbcpikaaGreatDoor.C2
open Go.Proofs.YtgmdfkmmbcpikaaGreatDoor.Smps
open Go.Proofs.YtgmdfkmmbcpikaaGreatDoor.Mem
open Go.Proofs.YtgmdfkmmbcpikaaGreatDoor.Ser
open Go.Proofs.YtgmdfkmmbcpikaaGreatDoor.Ser2
open Go.Proofs.YtgmdfkmmbcpikaaGreatDoor.Sto
open Go.Proofs.YtgmdfkmmbcpikaaGreatDoor.StoL
open Go.Proofs.YtgmdfkmmbcpikaaGreatDoor.Find
open Go.Proofs.YtgmdfkmmbcpikaaGreatDoor.Sof
open Go.Proofs.YtgmdfkmmbcpikaaGreatDoor.Lat
open Go.Proofs.YtgmdfkmmbcpikaaGreatDoor.Avg
open Go.Proofs.YtgmdfkmmbcpikaaGreatDoor.From
open Go.Proofs.YtgmdfkmmbcpikaaGreatDoor.MarkS
set_option linter.unusedVariables false

theorem sof_both {xs : List Ser} {p m : ByteArray} {B : Nat} {w' : World} {e : Ending} (h : SofP xs p m B w' e) :
    ∃ a cap, e = .returned (.tuple #[.slice a (ptsOf xs p m).length cap, .bool (lastB xs p m)]) ∧ OwnP w' B (.slice a (ptsOf xs p m).length cap) (ptsOf xs p m) := by
  rcases h with ⟨hf, rfl⟩ | ⟨s, v, hf, hv, rfl, ho⟩
  · rw [ptsOf_none hf, (last_none hf).2]
    exact ⟨none, 0, rfl, rfl, .inl ⟨rfl, rfl⟩⟩
  · rw [ptsOf_some hf]
    have hb : lastB xs p m = true := by unfold lastB; rw [hf]; rfl
    rw [hb]
    have ho' := ho
    rcases ho.2 with ⟨hv2, h0⟩ | ⟨g, cap, cur, hv2, _⟩
    · rw [hv2] at ho' ⊢
      refine ⟨none, 0, by rw [h0], ?_⟩
      rw [h0]
      exact ho'
    · rw [hv2] at ho' ⊢
      exact ⟨_, cap, rfl, ho'⟩
theorem ptsOf_len (xs : List Ser) (p m : ByteArray) : (ptsOf xs p m).length ≤ 12 := by
  cases hf : findV xs p m with
  | none => rw [ptsOf_none hf]; simp
  | some s =>
    rw [ptsOf_some hf]
    have hv : storeV xs = true := by
      cases h : storeV xs
      · unfold findV at hf; rw [h] at hf; simp at hf
      · rfl
    exact (find_ok hf hv).pts.most
theorem OnlyA_below {a : Option Addr} {w w' : World} (h : OnlyA a w w') {b : Nat} {x : World} (hb : Below b x w) (hlt : ∀ c o s, a = some ⟨c, o, s⟩ → b ≤ c) (h2 : b ≤ w.heap.size) : Below b x w' := by
  cases ha : a with
  | none => rw [h.1 ha]; exact hb
  | some p =>
    obtain ⟨c, o, s⟩ := p
    exact hb.trans ((h.2 c o s ha).below (hlt c o s ha) h2)
theorem own_base {w : World} {B n cap : Nat} {a : Option Addr} {ps : List Pt} (h : OwnP w B (.slice a n cap) ps) : ∀ c o s, a = some ⟨c, o, s⟩ → B ≤ c := fun c o s e => by
  rw [e] at h
  exact h.lt.1
theorem rem_map {ls ms : List Sv} (h : ms.map Sv.s = ls.map Sv.s) : rem ms 0 = rem ls 0 := by
  have e : ∀ xs : List Sv, rem xs 0 = ((xs.map Sv.s).map fun s => 2 + 2 * s.pts.length).sum := fun xs => by
    unfold rem
    rw [List.drop_zero, List.map_map]
    rfl
  rw [e, e, h]
end Go.Proofs.YtgmdfkmmbcpikaaGreatDoor.SofL
