/- The sizes of an argument behind another one: laws.szSeriesS, laws.szSampleS from whatever is left. -/
import Derived.Test.YtihhbgihejjmeaaSer
namespace Go.Proofs.Ytihhbgihejjmeaa.SzL
open Go.RowKit Go.Sort
open Go.Proofs.Ytihhbgihejjmeaa.C1
open Go.Proofs.Ytihhbgihejjmeaa.C2
open Go.Proofs.Ytihhbgihejjmeaa.Smps
open Go.Proofs.Ytihhbgihejjmeaa.Mem
open Go.Proofs.Ytihhbgihejjmeaa.Ser
set_option linter.unusedVariables false

theorem sz_seriesL (L : Int) (hL0 : 0 ≤ L) (hL1 : L ≤ 1048576) (ls : List Sv) (hwf : ∀ l ∈ ls, l.s.wf) (a : Option Addr) (cap : Nat) (hm : ls.length ≤ 9223372036854775807) (w : World) (h : Srs w a ls) :
    Calls Try.prog 10 #[.slice a ls.length cap, .int .i64 L] w fun e w' => ∃ r : Int, e = .returned (.int .i64 r) ∧ Below w.heap.size w w' ∧ (r < 0 ∨ 0 ≤ r ∧ r ≤ 1048576 ∧ ls.length ≤ 1048576 ∧ ∀ l ∈ ls, l.s.sum ≤ 1048576) := by
  obtain ⟨b, off, ha, hb, hcell⟩ := h.cells
  by_cases hbig : L < ls.length
  · go_enter Try.func10, Try.ntmps10
    go_wp2
    go_ret
    exact ⟨_, rfl, Below.refl _ _, .inl (by omega)⟩
  · have Hc := Lib.hid hcell
    have Ha := Lib.hid ha
    have Hw := Lib.hid hwf
    have Hb := Lib.hid hb
    clear hcell ha hwf hb h
    go_enter Try.func10, Try.ntmps10
    go_wp2
    go_loopw [1, 5] (fun l i wr => ∃ (k : Nat) (r : Int), k ≤ ls.length ∧ i = .int .i64 k ∧ l = .int .i64 r ∧ 0 ≤ r ∧ r ≤ 1048576 ∧ Below w.heap.size w wr ∧ Hid (∀ (j : Nat) (hj : j < ls.length), j < k → ls[j].s.sum ≤ 1048576)) (fun _ i _ => ls.length - (intOf i).toNat)
    case atStart => exact ⟨0, L - ls.length, Nat.zero_le _, rfl, rfl, by omega, by omega, Below.refl _ _, fun j hj h => absurd h (by omega)⟩
    case round =>
      obtain ⟨k, r, hk, rfl, rfl, hr0, hr1, hbw, HS⟩ := hrel
      by_cases hlt : k < ls.length
      · obtain rfl := Ha.out (by omega)
        obtain ⟨q0, q1, q2⟩ := (Hc.out k hlt).1.kept hbw (Hb.out (by omega))
        have hw1 := Lib.hid (Hw.out ls[k] (List.getElem_mem hlt))
        have hlw := hbw.size
        by_cases hc : r < ls[k].s.sum
        · go_wp2_with (go_at_call 45; refine (sz_ser ls[k] hw1.out r hr0 hr1 _).mono ?_; rw [if_pos hc]; rintro e w2 ⟨rfl, hb2⟩)
          go_ret
          exact ⟨_, rfl, hbw.trans (hb2.mono hlw), .inl (by omega)⟩
        · have hs0 : 0 ≤ ls[k].s.sum := by unfold Ser.sum; omega
          obtain ⟨r2, hr2, hr3, hr4⟩ : ∃ r2 : Int, r2 = r - ls[k].s.sum ∧ 0 ≤ r2 ∧ r2 ≤ 1048576 := ⟨_, rfl, by omega, by omega⟩
          have HN : Hid (∀ (j : Nat) (hj : j < ls.length), j < k + 1 → ls[j].s.sum ≤ 1048576) := fun j hj h => by
            by_cases e : j = k
            · subst e; omega
            · exact HS.out j hj (by omega)
          go_wp2_with (go_at_call 45; refine (sz_ser ls[k] hw1.out r hr0 hr1 _).mono ?_; rw [if_neg hc, ← hr2]; rintro e w2 ⟨rfl, hb2⟩)
          go_roundw
          case rel => exact ⟨k + 1, r2, by omega, by go_num, int_eq hr2.symm, hr3, hr4, hbw.trans (hb2.mono hlw), HN⟩
          case measure => simp [intOf]; omega
      · obtain rfl : k = ls.length := by omega
        go_wp2
        go_ret
        exact ⟨_, rfl, hbw, .inr ⟨hr0, hr1, by omega, fun s hs => by
          obtain ⟨j, hj, rfl⟩ := List.mem_iff_getElem.1 hs
          exact HS.out j hj hj⟩⟩
theorem sz_samplesL (L : Int) (hL0 : 0 ≤ L) (hL1 : L ≤ 1048576) (xs : List Smp) (hwf : ∀ s ∈ xs, s.wf) (a : Option Addr) (cap : Nat) (hm : xs.length ≤ 9223372036854775807) (w : World) (h : Smps w a xs) :
    Calls Try.prog 19 #[.slice a xs.length cap, .int .i64 L] w fun e w' => ∃ r : Int, e = .returned (.int .i64 r) ∧ Below w.heap.size w w' ∧ (r < 0 ∨ 0 ≤ r ∧ xs.length ≤ 1048576 ∧ ∀ s ∈ xs, (s.pod.size : Int) + s.met.size ≤ 1048576) := by
  obtain ⟨b, off, ha, hb, hcell⟩ := h.cells
  by_cases hbig : L < xs.length
  · go_enter Try.func19, Try.ntmps19
    go_wp2
    go_ret
    exact ⟨_, rfl, Below.refl _ _, .inl (by omega)⟩
  · have Hc := Lib.hid hcell
    have Ha := Lib.hid ha
    have Hw := Lib.hid hwf
    have Hb := Lib.hid hb
    clear hcell ha hwf hb h
    go_enter Try.func19, Try.ntmps19
    go_wp2
    go_loopw [1, 5] (fun l i wr => ∃ (k : Nat) (r : Int), k ≤ xs.length ∧ i = .int .i64 k ∧ l = .int .i64 r ∧ 0 ≤ r ∧ r ≤ 1048576 ∧ Below w.heap.size w wr ∧ Hid (∀ (j : Nat) (hj : j < xs.length), j < k → (xs[j].pod.size : Int) + xs[j].met.size ≤ 1048576)) (fun _ i _ => xs.length - (intOf i).toNat)
    case atStart => exact ⟨0, L - xs.length, Nat.zero_le _, rfl, rfl, by omega, by omega, Below.refl _ _, fun j hj h => absurd h (by omega)⟩
    case round =>
      obtain ⟨k, r, hk, rfl, rfl, hr0, hr1, hbw, HS⟩ := hrel
      by_cases hlt : k < xs.length
      · obtain rfl := Ha.out (by omega)
        obtain ⟨q0, q1, q2, q3⟩ := (Hc.out k hlt).kept hbw (Hb.out (by omega))
        have hw1 := Lib.hid (Hw.out xs[k] (List.getElem_mem hlt))
        have hlw := hbw.size
        by_cases hc : r < xs[k].pod.size + xs[k].met.size
        · go_wp2_with (go_at_call 11; refine (sz_sample xs[k] hw1.out r hr0 hr1 _).mono ?_; rw [if_pos hc]; rintro e w2 ⟨rfl, hb2⟩)
          go_ret
          exact ⟨_, rfl, hbw.trans (hb2.mono hlw), .inl (by omega)⟩
        · obtain ⟨r2, hr2, hr3, hr4⟩ : ∃ r2 : Int, r2 = r - (xs[k].pod.size + xs[k].met.size) ∧ 0 ≤ r2 ∧ r2 ≤ 1048576 := ⟨_, rfl, by omega, by omega⟩
          have HN : Hid (∀ (j : Nat) (hj : j < xs.length), j < k + 1 → (xs[j].pod.size : Int) + xs[j].met.size ≤ 1048576) := fun j hj h => by
            by_cases e : j = k
            · subst e; omega
            · exact HS.out j hj (by omega)
          go_wp2_with (go_at_call 11; refine (sz_sample xs[k] hw1.out r hr0 hr1 _).mono ?_; rw [if_neg hc, ← hr2]; rintro e w2 ⟨rfl, hb2⟩)
          go_roundw
          case rel => exact ⟨k + 1, r2, by omega, by go_num, int_eq hr2.symm, hr3, hr4, hbw.trans (hb2.mono hlw), HN⟩
          case measure => simp [intOf]; omega
      · obtain rfl : k = xs.length := by omega
        go_wp2
        go_ret
        exact ⟨_, rfl, hbw, .inr ⟨hr0, by omega, fun s hs => by
          obtain ⟨j, hj, rfl⟩ := List.mem_iff_getElem.1 hs
          exact HS.out j hj hj⟩⟩
end Go.Proofs.Ytihhbgihejjmeaa.SzL
