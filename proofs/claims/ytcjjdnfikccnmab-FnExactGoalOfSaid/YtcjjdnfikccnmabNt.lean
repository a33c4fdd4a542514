/- Slices of notes (rows of two integers, as points lie): sizes, copies, comparisons of equals. -/
import Derived.Test.YtcjjdnfikccnmabSer2
namespace Go.Proofs.Ytcjjdnfikccnmab.Nt
open Go.RowKit Go.Deep
open Go.ChangeShapes Go.WideShapes
open Go.Proofs.Ytcjjdnfikccnmab.C1
open Go.Proofs.Ytcjjdnfikccnmab.C2
open Go.Proofs.Ytcjjdnfikccnmab.Smps
open Go.Proofs.Ytcjjdnfikccnmab.Mem
open Go.Proofs.Ytcjjdnfikccnmab.Ser
open Go.Proofs.Ytcjjdnfikccnmab.Ser2 (encP_len zeroP take_set fill_len gf_set2 Off off_lt at2_grown)
set_option linter.unusedVariables false

def mkP (k n : Nat) : List Pt := (List.range n).map fun i => ⟨((k + 2 * i : Nat) : Int), ((k + 2 * i + 1 : Nat) : Int)⟩
theorem mkP_len (k n : Nat) : (mkP k n).length = n := by simp [mkP]
theorem mkP_get (k n i : Nat) (h : i < (mkP k n).length) : (mkP k n)[i] = ⟨((k + 2 * i : Nat) : Int), ((k + 2 * i + 1 : Nat) : Int)⟩ := by simp [mkP]
def halfP (k : Nat) (ps : List Pt) (i : Nat) : List Pt := (mkP k ps.length).take i ++ ps.drop i
theorem halfP_len (k : Nat) (ps : List Pt) (i : Nat) (h : i ≤ ps.length) : (halfP k ps i).length = ps.length := by unfold halfP; simp [mkP_len]; omega
theorem halfP_set (k : Nat) (ps : List Pt) (i : Nat) (h : i < ps.length) : (halfP k ps i).set i ⟨((k + 2 * i : Nat) : Int), ((k + 2 * i + 1 : Nat) : Int)⟩ = halfP k ps (i + 1) := by
  unfold halfP
  have e2 : i - ((mkP k ps.length).take i).length = 0 := by simp [mkP_len]; omega
  rw [List.set_append, if_neg (by simp [mkP_len]; omega), e2, List.drop_eq_getElem_cons h, List.set_cons_zero, List.take_succ_eq_append_getElem (by rw [mkP_len]; exact h), List.append_assoc, mkP_get]
  rfl
theorem halfP_all (k : Nat) (ps : List Pt) : halfP k ps ps.length = mkP k ps.length := by
  unfold halfP
  rw [List.take_of_length_le (by rw [mkP_len]; exact Nat.le_refl _)]; simp
theorem halfP_none (k : Nat) (ps : List Pt) : halfP k ps 0 = ps := by unfold halfP; simp
def OnlyA (a : Option Addr) (w w' : World) : Prop := (a = none → w' = w) ∧ ∀ b o s, a = some ⟨b, o, s⟩ → Only b w w'
theorem onlyA_none (w : World) : OnlyA none w w := ⟨fun _ => rfl, fun b o s e => by cases e⟩
theorem onlyA_some {g : Nat} {w w' : World} (h : Only g w w') : OnlyA (some ⟨g, 0, none⟩) w w' := by
  refine ⟨fun e => ?_, fun b o s e => ?_⟩
  · cases e
  · cases e; exact h
end Go.Proofs.Ytcjjdnfikccnmab.Nt
