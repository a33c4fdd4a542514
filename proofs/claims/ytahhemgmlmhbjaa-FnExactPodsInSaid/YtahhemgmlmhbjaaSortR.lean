/- slices.SortStableFunc at samples: rotations. -/
import Derived.Test.YtahhemgmlmhbjaaSort
namespace Go.Proofs.Ytahhemgmlmhbjaa.SortR
open Go.Shelf Go.RowKit Go.Lib Go.Sort
open Go.Proofs.Ytahhemgmlmhbjaa.C1
open Go.Proofs.Ytahhemgmlmhbjaa.C2
open Go.Proofs.Ytahhemgmlmhbjaa.Smps
open Go.Proofs.Ytahhemgmlmhbjaa.StM
open Go.Proofs.Ytahhemgmlmhbjaa.Cmp
open Go.Proofs.Ytahhemgmlmhbjaa.Sort
set_option linter.unusedVariables false
variable (xs : List Smp)

set_option maxHeartbeats 400000 in
set_option maxRecDepth 100000 in
theorem rotate (w0 : World) (blk off cap : Nat) (d0 d : Array Nat) (R : Row xs w0 blk off d0) (hd : d.size = d0.size) (a m b : Nat) (h1 : a < m) (h2 : m < b) (h3 : b ≤ d.size) (F : Value) (w : World) (S : SWK (encX xs) 4 w0 blk off d w) :
    Calls Try.prog 72 #[.slice (some ⟨blk, off, none⟩) d.size cap, .int .i64 a, .int .i64 m, .int .i64 b, F] w fun e w' => e = .returned (.tuple #[]) ∧ SWK (encX xs) 4 w0 blk off (mapIx d (rof a m b)) w' ∧ PermIn a b d (mapIx d (rof a m b)) := by
  have hsz := R.hsz
  have HS0 := Lib.hid S
  clear S
  have hs := fun (dk : Array Nat) (hk : dk.size = d.size) a b n h1 h2 w S => swap_range xs w0 blk off cap d0 dk R (hk.trans hd) a b n h1 h2 F w S
  obtain ⟨D, hD⟩ : ∃ D, D = d.size := ⟨_, rfl⟩
  have hs2 : Hid (∀ (dk : Array Nat), dk.size = D → ∀ (a b n : Nat), a + n ≤ b → b + n ≤ D → ∀ w, SWK (encX xs) 4 w0 blk off dk w → Calls Try.prog 78 #[.slice (some ⟨blk, off, none⟩) D cap, .int .i64 a, .int .i64 b, .int .i64 n, F] w fun e w' => e = .returned (.tuple #[]) ∧ SWK (encX xs) 4 w0 blk off (mapIx dk (swf a b n)) w') := by
    intro dk hk a b n h1 h2 w S
    have := hs dk (hk.trans hD) a b n h1 (by omega) w S
    rw [hk] at this
    exact this
  clear hs
  rw [← hD] at h3 hd ⊢
  rw [← hd] at hsz
  have HD := Lib.hid hD
  clear hd hD
  go_enter Try.func72, Try.ntmps72
  go_wp2
  go_loopw [10, 11] (fun vi vj wr => ∃ (i j : Nat) (dk : Array Nat), vi = .int .i64 i ∧ vj = .int .i64 j ∧ 1 ≤ i ∧ 1 ≤ j ∧ a + i ≤ m ∧ m + j ≤ b ∧ Hid (dk.size = D ∧ SWK (encX xs) 4 w0 blk off dk wr ∧ PermIn a b d dk ∧ mapIx dk (rof (m - i) m (m + j)) = mapIx d (rof a m b))) (fun vi vj _ => (intOf vi).toNat + (intOf vj).toNat)
  case atStart => exact ⟨m - a, b - m, d, int_eq (by omega), int_eq (by omega), by omega, by omega, by omega, by omega, HD.out.symm, HS0.out, permIn_refl _ _ _, by rw [show m - (m - a) = a by omega, show m + (b - m) = b by omega]⟩
  case round =>
    obtain ⟨i, j, dk, rfl, rfl, hi, hj, him, hjb, H⟩ := hrel
    obtain ⟨p, ep⟩ : ∃ p : Nat, (m : Int) - (i : Int) = (p : Int) := ⟨m - i, by omega⟩
    by_cases hij : i = j
    · subst hij
      have hc := Lib.hid (hs2.out dk H.out.1 p m i (by omega) (by omega) wr H.out.2.1)
      go_wp2_with (go_at_call 78; refine hc.out.mono ?_; rintro e w' ⟨rfl, hS⟩)
      have e1 := rot_end d dk a m b i (by omega) (by have := H.out.1; omega) H.out.2.2.2
      rw [show m - i = p by omega] at e1
      rw [e1] at hS
      have hP := permIn_trans _ _ _ _ _ H.out.2.2.1 (swf_permIn dk a b p m i (by omega) (by omega) (by omega) (by have := H.out.1; omega))
      rw [e1] at hP
      go_end0
      exact ⟨rfl, hS, hP⟩
    · have hne : ((i : Int) == (j : Int)) = false := by simp; omega
      by_cases hgt : j < i
      · have hc := Lib.hid (hs2.out dk H.out.1 p m j (by omega) (by omega) wr H.out.2.1)
        have e1 := Lib.hid (rot_big d dk a m b i j hgt (by omega) (by have := H.out.1; omega) H.out.2.2.2)
        have hP := Lib.hid (permIn_trans _ _ _ _ _ H.out.2.2.1 (swf_permIn dk a b p m j (by omega) (by omega) (by omega) (by have := H.out.1; omega)))
        have hz := Lib.hid H.out.1
        clear H
        go_wp2_with (go_at_call 78; refine hc.out.mono ?_; rintro e w' ⟨rfl, hS⟩; have HS := Lib.hid hS; clear hS)
        go_roundw
        case rel =>
          refine ⟨i - j, j, mapIx dk (swf p m j), int_eq (by omega), rfl, by omega, by omega, by omega, by omega, (size_mapIx _ _).trans hz.out, HS.out, hP.out, ?_⟩
          have := e1.out
          rw [show m - i = p by omega] at this
          exact this
        case measure => simp [intOf]; omega
      · obtain ⟨q, eq⟩ : ∃ q : Nat, (m : Int) + (j : Int) - (i : Int) = (q : Int) := ⟨m + j - i, by omega⟩
        have hc := Lib.hid (hs2.out dk H.out.1 p q i (by omega) (by omega) wr H.out.2.1)
        have e1 := Lib.hid (rot_small d dk a m b i j (by omega) (by omega) (by have := H.out.1; omega) H.out.2.2.2)
        have hP := Lib.hid (permIn_trans _ _ _ _ _ H.out.2.2.1 (swf_permIn dk a b p q i (by omega) (by omega) (by omega) (by have := H.out.1; omega)))
        have hz := Lib.hid H.out.1
        clear H
        go_wp2_with (go_at_call 78; refine hc.out.mono ?_; rintro e w' ⟨rfl, hS⟩; have HS := Lib.hid hS; clear hS)
        go_roundw
        case rel =>
          refine ⟨i, j - i, mapIx dk (swf p q i), rfl, int_eq (by omega), by omega, by omega, by omega, by omega, (size_mapIx _ _).trans hz.out, HS.out, hP.out, ?_⟩
          have := e1.out
          rw [show m - i = p by omega, show m + j - i = q by omega] at this
          rw [show m - i = p by omega]
          exact this
        case measure => simp [intOf]; omega
end Go.Proofs.Ytahhemgmlmhbjaa.SortR
