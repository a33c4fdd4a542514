/- The marks of series read again: laws.heldSeriesS. -/
import Derived.Test.YtimpajhgplkpmaaMarkT
import Derived.Deep.RegionWith
import Derived.Deep.QuietTactic
namespace Go.Proofs.Ytimpajhgplkpmaa.Held
open Go.RowKit Go.Sort Go.BigFrame
open Go.Proofs.Ytimpajhgplkpmaa.C1
open Go.Proofs.Ytimpajhgplkpmaa.C2
open Go.Proofs.Ytimpajhgplkpmaa.Smps
open Go.Proofs.Ytimpajhgplkpmaa.Mem
open Go.Proofs.Ytimpajhgplkpmaa.Ser
open Go.Proofs.Ytimpajhgplkpmaa.Ser2
open Go.Proofs.Ytimpajhgplkpmaa.StoL
open Go.Proofs.Ytimpajhgplkpmaa.MarkS
open Go.Proofs.Ytimpajhgplkpmaa.MarkT
set_option linter.unusedVariables false

theorem marksS_len : ∀ (k : Nat) (ls : List Sv), (marksS k ls).length = ls.length
  | _, [] => rfl
  | k, l :: r => by simp [marksS, marksS_len]
theorem marksS_at (k m i : Nat) (ls : List Sv) (h : (marksS k ls).drop i = marksS m (ls.drop i)) (hi : i < ls.length) (h2 : i < (marksS k ls).length) :
    (marksS k ls)[i] = ⟨⟨markT m, markT (m + 1), mkP (m + 2) ls[i].s.pts.length⟩, ls[i].a, ls[i].cap⟩ ∧ (marksS k ls).drop (i + 1) = marksS (m + 2 + 2 * ls[i].s.pts.length) (ls.drop (i + 1)) := by
  rw [List.drop_eq_getElem_cons h2, List.drop_eq_getElem_cons hi] at h
  have h' := List.cons.inj h
  exact h'
set_option maxHeartbeats 2000000 in
set_option maxRecDepth 20000 in
theorem held_series (ls : List Sv) (g cap B k : Nat) (h0 : 0 < k) (hk : k + rem ls 0 ≤ 100000000) (w : World) (ho : OwnR w B (.slice (some ⟨g, 0, none⟩) ls.length cap) (marksS k ls)) (hg : Ser2.Good w B g (marksS k ls)) (hm : ls.length ≤ 1048576) :
    Calls Try.prog 31 #[.slice (some ⟨g, 0, none⟩) ls.length cap, .int .i64 k] w fun e w' => e = .returned (.int .i64 ((k + rem ls 0 : Nat) : Int)) ∧ Below w.heap.size w w' := by
  have mixed : Try.prog.follows .mixedOrders = true := by kernel_rfl
  have HO := Lib.hid ho
  have HG := Lib.hid hg
  have HRM := Lib.hid (rem_next ls)
  have hgw := ho.lt.2
  clear ho hg
  go_enter Try.func31, Try.ntmps31
  go_wp2
  go_loopw [1, 5] (fun vk vi wr => ∃ (i m r : Nat), vi = .int .i64 i ∧ vk = .int .i64 m ∧ 0 < m ∧ i ≤ ls.length ∧ Hid (r = rem ls i) ∧ Hid (m + r = k + rem ls 0) ∧ m + r ≤ 100000000 ∧ Hid ((marksS k ls).drop i = marksS m (ls.drop i)) ∧ Hid (Below w.heap.size w wr)) (fun _ vi _ => ls.length - (intOf vi).toNat)
  case atStart => exact ⟨0, k, rem ls 0, rfl, rfl, h0, Nat.zero_le _, rfl, rfl, hk, rfl, Below.refl _ _⟩
  case round =>
    obtain ⟨i, m, r, rfl, rfl, hmp, hi, HR, HRK, hmr, HD, HB⟩ := hrel
    by_cases hlt : i < ls.length
    · have hlm : i < (marksS k ls).length := by rw [marksS_len]; exact hlt
      obtain ⟨hat, hdr⟩ := marksS_at k m i ls HD.out hlt hlm
      obtain ⟨l, hl⟩ : ∃ l, ls[i] = l := ⟨_, rfl⟩
      obtain ⟨r2, hr2⟩ : ∃ r2, rem ls (i + 1) = r2 := ⟨_, rfl⟩
      have hrr := HRM.out i hlt
      rw [hl, hr2] at hrr
      rw [hl] at hat hdr
      have hrn : r = 2 + 2 * l.s.pts.length + r2 := by rw [HR.out, hrr]
      have HR2 := Lib.hid hr2
      obtain ⟨m1, e1⟩ : ∃ x : Nat, (m : Int) + 1 = (x : Int) := ⟨m + 1, by omega⟩
      obtain ⟨m2, e2⟩ : ∃ x : Nat, (m1 : Int) + 1 = (x : Int) := ⟨m + 2, by omega⟩
      have em1 : m + 1 = m1 := by omega
      have em2 : m + 2 = m2 := by omega
      rw [em1, em2] at hat
      rw [em2] at hdr
      obtain ⟨p0, p1, p2⟩ := (HO.out.kept HB.out).at3 i hlm
      have hown : OwnP wr B (.slice l.a l.s.pts.length l.cap) (mkP m2 l.s.pts.length) := by
        have := (HG.out.kept HB.out).own _ (List.getElem_mem hlm)
        rw [hat] at this
        have e : (mkP m2 l.s.pts.length).length = l.s.pts.length := mkP_len _ _
        simp only at this
        rw [e] at this
        exact this
      rw [hat] at p0 p1 p2
      simp only [mkP_len] at p0 p1 p2
      have HP := Lib.hid hown
      have HDR := Lib.hid hdr
      have hgr := Nat.lt_of_lt_of_le hgw HB.out.size
      clear hrr hr2 hat hdr hl HR hown em1 em2 HD
      have L0 := later_cell hgr p0
      have P1 := Lib.hid p1
      have P2 := Lib.hid p2
      clear p0 p1 p2
      go_wp2_with fail
      refine region_later mixed (by kernel_rfl) ?_
      repeat (quiet_step (first | (go_at_call 79; exact later_call (mark_text m hmp (by omega) _))))
      refine wpQuiet_nil ?_
      intro w1 hw'
      obtain ⟨⟨_, hw1⟩, rfl⟩ := hw'
      clear L0
      have HB1 := Lib.hid (HB.out.trans (hw1.mono HB.out.size))
      have HP1 := Lib.hid (HP.out.kept hw1)
      have hg1 := Nat.lt_of_lt_of_le hgr hw1.size
      have L1 := later_cell hg1 ((hw1.cell (p := ⟨g, i * 3 + 1, none⟩) hgr).trans P1.out)
      have P2' := Lib.hid ((hw1.cell (p := ⟨g, i * 3 + 2, none⟩) hgr).trans P2.out)
      clear hw1
      go_wp2_with fail
      refine region_later mixed (by kernel_rfl) ?_
      repeat (quiet_step (first | (go_at_call 79; exact later_call (mark_text m1 (by omega) (by omega) _))))
      refine wpQuiet_nil ?_
      intro w2 hw'
      obtain ⟨⟨_, hw2⟩, rfl⟩ := hw'
      clear L1
      have HB2 := Lib.hid (HB1.out.trans (hw2.mono HB1.out.size))
      have HP2 := Lib.hid (HP1.out.kept hw2)
      have p2 := (hw2.cell (p := ⟨g, i * 3 + 2, none⟩) hg1).trans P2'.out
      clear hw2 P1 P2 P2' HP HP1 HB HB1
      go_wp2_with fail
      refine (held_points l.s.pts.length l.a l.cap B m2 (by omega) (by omega) w2 HP2.out).mono ?_
      rintro e w3 ⟨rfl, hb3⟩
      have HB3 := Lib.hid (HB2.out.trans (hb3.mono HB2.out.size))
      obtain ⟨m5, hm5⟩ : ∃ m5, m2 + 2 * l.s.pts.length = m5 := ⟨_, rfl⟩
      rw [hm5] at HDR ⊢
      have hb5 : m5 + r2 ≤ 100000000 := by omega
      have HRK5 : Hid (m5 + r2 = k + rem ls 0) := by show _ = _; have := HRK.out; omega
      have hp5' : 0 < m5 := by omega
      clear hb3 hm5 p2 HB2 HP2 HRK
      go_wp2
      go_roundw
      case rel => exact ⟨i + 1, m5, r2, by go_num, rfl, hp5', by omega, HR2.out.symm, HRK5.out, hb5, HDR.out, HB3.out⟩
      case measure => simp [intOf]; omega
    · obtain rfl : i = ls.length := by omega
      have HR0 : Hid (m = k + rem ls 0) := by
        show _ = _
        have h1 := HR.out
        have h2 := HRK.out
        have h3 : rem ls ls.length = 0 := by unfold rem; simp
        omega
      go_wp2
      go_ret
      exact ⟨ret1I (by have := HR0.out; omega), HB.out⟩

end Go.Proofs.Ytimpajhgplkpmaa.Held
