/- The model's l03Points and SeriesOf; LatestOf, the model's and the program's. -/
import Derived.Test.YtgmdfkmmbcpikaaGreatDoorFind
namespace Go.Proofs.YtgmdfkmmbcpikaaGreatDoor.Sof
open Go.RowKit Go.Sort Go.BigFrame
open Go.Proofs.YtgmdfkmmbcpikaaGreatDoor.C1
open Go.Proofs.YtgmdfkmmbcpikaaGreatDoor.C2
open Go.Proofs.YtgmdfkmmbcpikaaGreatDoor.Smps
open Go.Proofs.YtgmdfkmmbcpikaaGreatDoor.Mem
open Go.Proofs.YtgmdfkmmbcpikaaGreatDoor.Ser
open Go.Proofs.YtgmdfkmmbcpikaaGreatDoor.Ser2
open Go.Proofs.YtgmdfkmmbcpikaaGreatDoor.Key
open Go.Proofs.YtgmdfkmmbcpikaaGreatDoor.Sto
open Go.Proofs.YtgmdfkmmbcpikaaGreatDoor.StoL
open Go.Proofs.YtgmdfkmmbcpikaaGreatDoor.Cnt
open Go.Proofs.YtgmdfkmmbcpikaaGreatDoor.Find
set_option linter.unusedVariables false

theorem info_pt2 : ∃ i, Tryz.prog.info? 215 = some i ∧ i.zero = some (ptV zeroP) ∧ i.size = 2 ∧ i.bytes = 16 := by
  obtain ⟨i, hi, hz⟩ := Option.map_eq_some_iff.1 info_pt
  simp only [Prod.mk.injEq] at hz
  exact ⟨i, hi, hz.1, hz.2.1, hz.2.2⟩
theorem OwnP_snoc {w : World} {B : Nat} {v : Value} {ps : List Pt} {p : Pt} (h : w.ownsRow B 215 2 v (ps.length + 1) (gf encP ps ++ [.int .i64 p.tick, .int .i64 p.val])) : OwnP w B v (ps ++ [p]) := by
  unfold OwnP
  rw [List.length_append, gf_append]
  exact h
theorem two_one (p : Pt) : ∀ u ∈ [Value.int .i64 p.tick, .int .i64 p.val], u.oneCell' = true := by
  intro u hu
  simp at hu
  rcases hu with rfl | rfl <;> rfl
theorem two_cells (w : World) (p : Pt) (t : TypeId) : ∀ (j : Nat) (u : Value), [Value.int .i64 p.tick, .int .i64 p.val][j]? = some u → (w.alloc (.cells #[.int .i64 p.tick, .int .i64 p.val] t)).cell? ((⟨w.heap.size, 0, none⟩ : Addr).add j) = some u := by
  intro j u hj
  match j, hj with
  | 0, hj => simp at hj; subst hj; simp [Addr.add]
  | 1, hj => simp at hj; subst hj; simp [Addr.add]
theorem new_rowP (w : World) : OwnP (w.alloc (.cells #[] 215)) w.heap.size (.slice (some ⟨w.heap.size, 0, none⟩) 0 0) [] := World.ownsRow_lit (e := 215) (size := 2) (base := w.heap.size) w #[] 0 (Nat.le_refl _) (by unfold maxLen; omega) rfl
/-- What SeriesOf answers: the points in memory of the call's own. -/
def SofP (xs : List Ser) (p m : ByteArray) (B : Nat) (w' : World) (e : Ending) : Prop :=
  (findV xs p m = none ∧ e = .returned (.tuple #[.slice none 0 0, .bool false])) ∨
  ∃ (s : Ser) (v : Value), findV xs p m = some s ∧ storeV xs = true ∧ e = .returned (.tuple #[v, .bool true]) ∧ OwnP w' B v s.pts
end Go.Proofs.YtgmdfkmmbcpikaaGreatDoor.Sof
