/- CountClass: the model's and the program's. -/
import Derived.Test.YtihhbgihejjmeaaGreatC1L
namespace Go.Proofs.YtihhbgihejjmeaaGreat.Cc
open Go.RowKit Go.Deep
open Go.Proofs.YtihhbgihejjmeaaGreat.C1 Go.Proofs.YtihhbgihejjmeaaGreat.Ints Go.Proofs.YtihhbgihejjmeaaGreat.C1L
set_option linter.unusedVariables false

def ctn (xs : List Int) (c : Int) : Nat := xs.countP (fun x => x == c)
theorem ctn_next (xs : List Int) (k : Nat) (h : k < xs.length) (c : Int) : ctn (xs.take (k + 1)) c = ctn (xs.take k) c + (if xs[k] == c then 1 else 0) := by
  unfold ctn
  rw [List.take_succ_eq_append_getElem h, List.countP_append, List.countP_singleton]
theorem ctn_le (xs : List Int) (k : Nat) (c : Int) : ctn (xs.take k) c ≤ k := by
  unfold ctn
  exact Nat.le_trans List.countP_le_length (by rw [List.length_take]; omega)
theorem spec_countclass (xs : List Int) (c : Int) (a : Option Addr) (cap : Nat) (w : World) (h : Ints w a xs) (hm : xs.length ≤ 35184372088832) :
    Calls Tryz.prog 35 #[.slice a xs.length cap, .int .i64 c] w fun e w' => e = .returned (.int .i64 (ctn xs c)) ∧ w = w' := by
  obtain ⟨b, off, hc⟩ := Ints.cells h
  go_enter Tryz.func35, Tryz.ntmps35
  go_wp2
  go_loop [5, 6] (fun v i => ∃ k n : Nat, k ≤ xs.length ∧ i = .int .i64 k ∧ v = .int .i64 n ∧ n ≤ k ∧ Hid (n = ctn (xs.take k) c)) (fun _ i => xs.length - (intOf i).toNat)
  case atStart => exact ⟨0, 0, Nat.zero_le _, rfl, rfl, Nat.le_refl _, rfl⟩
  case round =>
    obtain ⟨k, n, hk, rfl, rfl, hn, HN⟩ := hrel
    by_cases hlt : k < xs.length
    · obtain rfl := hc.1 (by omega)
      have hx := hc.2 k hlt
      have hnx := ctn_next xs k hlt c
      rw [← HN.out] at hnx
      have HC := Lib.hid hc
      clear hc HN
      cases he : xs[k] == c
      · rw [he] at hnx
        have HX := Lib.hid hnx.symm
        clear hnx
        go_wp2
        go_round
        case rel => exact ⟨k + 1, n, by omega, by go_num, rfl, by omega, HX.out⟩
        case measure => simp [intOf]; omega
      · rw [he] at hnx
        have HX := Lib.hid hnx.symm
        clear hnx
        go_wp2
        go_round
        case rel => exact ⟨k + 1, n + 1, by omega, by go_num, by go_num, by omega, HX.out⟩
        case measure => simp [intOf]; omega
    · obtain rfl : k = xs.length := by omega
      have HF : Hid (ctn xs c = n) := by show _ = _; rw [HN.out, List.take_of_length_le (Nat.le_refl _)]
      clear HN
      go_wp2
      go_ret
      exact ⟨ret1I (by rw [HF.out]), rfl⟩
end Go.Proofs.YtihhbgihejjmeaaGreat.Cc
