/- laws.markPodS: what is written lies in the list's own block. -/
import Derived.Test.YtihhbgihejjmeaaGreatPds
namespace Go.Proofs.YtihhbgihejjmeaaGreat.MarkP
open Go.RowKit Go.Deep
open Go.Proofs.YtihhbgihejjmeaaGreat.C1
open Go.Proofs.YtihhbgihejjmeaaGreat.C2
open Go.Proofs.YtihhbgihejjmeaaGreat.Smps
open Go.Proofs.YtihhbgihejjmeaaGreat.Mem
open Go.Proofs.YtihhbgihejjmeaaGreat.Pd
open Go.Proofs.YtihhbgihejjmeaaGreat.Pds
set_option linter.unusedVariables false

theorem cells_own {w : World} {B g n cap : Nat} {xs : List Pd} (h : OwnD w B (.slice (some ⟨g, 0, none⟩) n cap) xs) (hn : n = xs.length) : CellsW w g (flatP xs) := by
  subst hn
  refine ⟨(World.ownsRow.lt h g rfl).2, fun j hj => ⟨?_, World.ownsRow.frozenAt h j⟩⟩
  have hl := flatP_len xs
  rw [World.ownsRow.cellAt h j (by omega), List.getElem?_eq_getElem hj]
set_option maxHeartbeats 1000000 in
theorem mark_pods (n g cap k : Nat) (h0 : 0 < k) (hk : k + 4 * n ≤ 100000000) (vs : List Value) (hl : vs.length = 4 * n) (w : World) (h : CellsW w g vs) :
    Calls Tryz.prog 15 #[.slice (some ⟨g, 0, none⟩) n cap, .int .i64 k] w fun e w' => e = .returned (.int .i64 ((k + 4 * n : Nat) : Int)) ∧ Only g w w' := by
  have HO := Lib.hid h
  have HL := Lib.hid hl
  clear h hl
  go_enter Tryz.func15, Tryz.ntmps15
  go_wp2
  go_loopw [1, 5] (fun v i wr => ∃ (j : Nat) (us : List Value), j ≤ n ∧ i = .int .i64 j ∧ v = .int .i64 ((k + 4 * j : Nat) : Int) ∧ Hid (us.length = 4 * n) ∧ Hid (CellsW wr g us) ∧ Hid (Only g w wr)) (fun _ i _ => n - (intOf i).toNat)
  case atStart => exact ⟨0, vs, Nat.zero_le _, rfl, rfl, HL, HO, Only.refl _ _⟩
  case round =>
    obtain ⟨j, us, hj, rfl, rfl, HU, HC, HW⟩ := hrel
    by_cases hlt : j < n
    · obtain ⟨q, hq⟩ : ∃ q : Nat, k + 4 * j = q := ⟨_, rfl⟩
      have hq2 : k + 4 * (j + 1) = q + 4 := by omega
      have hq0 : 0 < q := by omega
      have hq1 : q + 4 ≤ 100000000 := by omega
      rw [hq]
      go_wp2_with (go_at_call 33; refine (mark_text q hq0 (by omega) _).mono ?_; rintro e w2 ⟨rfl, hb2⟩; have HC2 := Lib.hid (HC.out.kept hb2); have HW2 := Lib.hid (HW.out.trans (Only.of_below hb2)); clear hb2; obtain ⟨p0, f0⟩ := HC2.out.2 (j * 4) (by have := HU.out; omega); obtain ⟨p1, f1⟩ := HC2.out.2 (j * 4 + 1) (by have := HU.out; omega); obtain ⟨p2, f2⟩ := HC2.out.2 (j * 4 + 2) (by have := HU.out; omega); obtain ⟨p3, f3⟩ := HC2.out.2 (j * 4 + 3) (by have := HU.out; omega))
      clear p0 p1 p2 p3 f0 f1 f2 f3
      go_roundw
      case rel =>
        refine ⟨j + 1, _, by omega, by go_num, by rw [hq2]; go_num, ?_, Lib.hid ((((HC2.out.set (j * 4) _ (by have := HU.out; omega)).set (j * 4 + 1) _ (by have := HU.out; simp; omega)).set (j * 4 + 2) _ (by have := HU.out; simp; omega)).set (j * 4 + 3) _ (by have := HU.out; simp; omega)), Lib.hid ((((HW2.out.setCell (j * 4) _).setCell (j * 4 + 1) _).setCell (j * 4 + 2) _).setCell (j * 4 + 3) _)⟩
        show _ = _
        simpa using HU.out
      case measure => simp [intOf]; omega
    · obtain rfl : j = n := by omega
      go_wp2
      go_ret
      exact ⟨rfl, HW.out⟩
end Go.Proofs.YtihhbgihejjmeaaGreat.MarkP
