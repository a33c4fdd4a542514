/- Series marked, exactly, and the marks read again: laws.markSeriesS, laws.heldSeriesS. -/
import Derived.Test.YtimpajhgplkpmaaSofL
namespace Go.Proofs.Ytimpajhgplkpmaa.MarkT
open Go.RowKit Go.Sort Go.BigFrame
open Go.Proofs.Ytimpajhgplkpmaa.C1
open Go.Proofs.Ytimpajhgplkpmaa.C2
open Go.Proofs.Ytimpajhgplkpmaa.Smps
open Go.Proofs.Ytimpajhgplkpmaa.Mem
open Go.Proofs.Ytimpajhgplkpmaa.Ser
open Go.Proofs.Ytimpajhgplkpmaa.Ser2
open Go.Proofs.Ytimpajhgplkpmaa.StoL
open Go.Proofs.Ytimpajhgplkpmaa.MarkS
set_option linter.unusedVariables false

/-- The marks of series, from k on. -/
def marksS : Nat → List Sv → List Sv
  | _, [] => []
  | k, l :: r => ⟨⟨markT k, markT (k + 1), mkP (k + 2) l.s.pts.length⟩, l.a, l.cap⟩ :: marksS (k + 2 + 2 * l.s.pts.length) r
set_option maxHeartbeats 2000000 in
set_option maxRecDepth 20000 in
theorem mark_series3 (ls : List Sv) (g cap B C k : Nat) (h0 : 0 < k) (hk : k + rem ls 0 ≤ 100000000) (w : World) (ho : OwnR w B (.slice (some ⟨g, 0, none⟩) ls.length cap) ls) (hg : Ser2.Good w B g ls)
    (hgC : g < C) (hlC : ∀ l ∈ ls, ∀ b o s, l.a = some ⟨b, o, s⟩ → b < C) (hBw : B ≤ w.heap.size) (hm : ls.length ≤ 1048576) :
    Calls Try.prog 30 #[.slice (some ⟨g, 0, none⟩) ls.length cap, .int .i64 k] w fun e w' => ∃ ms : List Sv, e = .returned (.int .i64 ((k + rem ls 0 : Nat) : Int)) ∧ ms = marksS k ls ∧ OwnR w' B (.slice (some ⟨g, 0, none⟩) ls.length cap) ms ∧ Ser2.Good w' B g ms ∧ Within B C w w' := by
  have hBg := ho.lt.1
  have HO := Lib.hid ho
  have HG := Lib.hid hg
  have HLC := Lib.hid hlC
  have HRM := Lib.hid (rem_next ls)
  clear ho hg hlC
  go_enter Try.func30, Try.ntmps30
  go_wp2
  go_loopw [1, 5] (fun vk vi wr => ∃ (i m r : Nat) (ms : List Sv), vi = .int .i64 i ∧ vk = .int .i64 m ∧ 0 < m ∧ i ≤ ls.length ∧ Hid (r = rem ls i) ∧ Hid (m + r = k + rem ls 0) ∧ m + r ≤ 100000000 ∧ Hid (ms.length = ls.length) ∧ Hid ((∀ (j : Nat) (h1 : j < ls.length) (h2 : j < ms.length), i ≤ j → ms[j] = ls[j]) ∧ ms.take i ++ marksS m (ls.drop i) = marksS k ls) ∧ Hid (OwnR wr B (.slice (some ⟨g, 0, none⟩) ls.length cap) ms) ∧ Hid (Ser2.Good wr B g ms) ∧ Hid (Within B C w wr)) (fun _ vi _ => ls.length - (intOf vi).toNat)
  case atStart => exact ⟨0, k, rem ls 0, ls, rfl, rfl, h0, Nat.zero_le _, rfl, rfl, hk, rfl, ⟨fun j h1 h2 _ => rfl, by simp⟩, HO.out, HG.out, Within.refl _ _ _⟩
  case round =>
    obtain ⟨i, m, r, ms, rfl, rfl, hmp, hi, HR, HRK, hmr, HL, HE, HOr, HGr, HWr⟩ := hrel
    by_cases hlt : i < ls.length
    · have hlm : i < ms.length := by have := HL.out; omega
      have hei := HE.out.1 i hlt hlm (Nat.le_refl _)
      obtain ⟨l, hl⟩ : ∃ l, ls[i] = l := ⟨_, rfl⟩
      obtain ⟨r2, hr2⟩ : ∃ r2, rem ls (i + 1) = r2 := ⟨_, rfl⟩
      have hrr := HRM.out i hlt
      rw [hl, hr2] at hrr
      have hrn : r = 2 + 2 * l.s.pts.length + r2 := by rw [HR.out, hrr]
      have HR2 := Lib.hid hr2
      rw [hl] at hei
      obtain ⟨m1, e1⟩ : ∃ x : Nat, (m : Int) + 1 = (x : Int) := ⟨m + 1, by omega⟩
      obtain ⟨m2, e2⟩ : ∃ x : Nat, (m1 : Int) + 1 = (x : Int) := ⟨m + 2, by omega⟩
      have HEI := Lib.hid hei
      have HLL := Lib.hid hl
      clear hrr hr2 hei hl HR
      go_wp2_with fail
      refine (mark_text m hmp (by omega) _).mono ?_
      rintro e w1 ⟨rfl, hb1⟩
      have HO1 := Lib.hid (HOr.out.kept hb1)
      have HG1 := Lib.hid (HGr.out.kept hb1)
      have HW1 := Lib.hid (HWr.out.trans (Within.of_below hb1))
      obtain ⟨p0, p1, p2⟩ := HO1.out.at3 i hlm
      have f0 := HO1.out.frozen (i * 3)
      clear hb1
      rw [HEI.out] at p0 p1 p2
      have HO2 := Lib.hid (OwnR_set HO1.out i 0 (.string (markT m)) ⟨⟨markT m, l.s.met, l.s.pts⟩, l.a, l.cap⟩ hlm (by omega) (by rw [HEI.out]; rfl))
      have HS2 := Lib.hid ((Only.refl g w1).setCell (i * 3 + 0) (.string (markT m)))
      rw [Nat.add_zero] at HO2 HS2
      have HG2 := Lib.hid (HG1.out.only HS2.out)
      have HW2 := Lib.hid (HW1.out.trans (Within.of_only HS2.out hBg hgC))
      clear HO1 HG1 HW1
      go_wp2_with fail
      obtain ⟨w2, hw2⟩ : ∃ w2, w1.setCell ⟨g, i * 3, none⟩ (.string (markT m)) = w2 := ⟨_, rfl⟩
      rw [hw2] at HO2 HG2 HW2 ⊢
      clear HS2 hw2 p0 p1 p2 f0
      refine (mark_text m1 (by omega) (by omega) _).mono ?_
      rintro e w3 ⟨rfl, hb3⟩
      have HO3 := Lib.hid (HO2.out.kept hb3)
      have HG3 := Lib.hid (HG2.out.kept hb3)
      have HW3 := Lib.hid (HW2.out.trans (Within.of_below hb3))
      have hset : i < (ms.set i ⟨⟨markT m, l.s.met, l.s.pts⟩, l.a, l.cap⟩).length := by simpa using hlm
      obtain ⟨p0, p1, p2⟩ := HO3.out.at3 i hset
      have f1 := HO3.out.frozen (i * 3 + 1)
      clear hb3
      rw [List.getElem_set_self] at p0 p1 p2
      simp only at p0 p1 p2
      have HO4 := Lib.hid (OwnR_set HO3.out i 1 (.string (markT m1)) ⟨⟨markT m, markT m1, l.s.pts⟩, l.a, l.cap⟩ hset (by omega) (by rw [List.getElem_set_self]; rfl))
      have HS4 := Lib.hid ((Only.refl g w3).setCell (i * 3 + 1) (.string (markT m1)))
      have HG4 := Lib.hid (HG3.out.only HS4.out)
      have HW4 := Lib.hid (HW3.out.trans (Within.of_only HS4.out hBg hgC))
      rw [List.set_set] at HO4
      clear HO3 HG3 HW3
      go_wp2_with fail
      obtain ⟨w4, hw4⟩ : ∃ w4, w3.setCell ⟨g, i * 3 + 1, none⟩ (.string (markT m1)) = w4 := ⟨_, rfl⟩
      rw [hw4] at HO4 HG4 HW4 ⊢
      clear HS4 hw4 p0 p1 p2 f1
      have hown : OwnP w4 B (.slice l.a l.s.pts.length l.cap) l.s.pts := by
        have := HG4.out.own _ (List.getElem_mem hlm)
        rw [HEI.out] at this
        exact this
      refine (mark_points l.s.pts l.a l.cap B m2 (by omega) (by omega) w4 hown).mono ?_
      rintro e w5 ⟨rfl, hp5, ha5⟩
      have hx5 : OwnP w5 B (.slice l.a (mkP m2 l.s.pts.length).length l.cap) (mkP m2 l.s.pts.length) := by rw [mkP_len]; exact hp5
      have hma : OnlyA ms[i].a w4 w5 := by rw [HEI.out]; exact ha5
      have HG5 := Lib.hid (Good_mark (x := ⟨⟨markT m, markT m1, mkP m2 l.s.pts.length⟩, l.a, l.cap⟩) HG4.out hlm (by rw [HEI.out]) hx5 hma)
      have hoffg : Off g l.a := by
        have := HG4.out.off _ (List.getElem_mem hlm)
        rw [HEI.out] at this
        exact this
      have HO5 : Hid (OwnR w5 B (.slice (some ⟨g, 0, none⟩) ls.length cap) (ms.set i ⟨⟨markT m, markT m1, mkP m2 l.s.pts.length⟩, l.a, l.cap⟩)) := by
        refine OwnR_same (x := ⟨⟨markT m, markT m1, l.s.pts⟩, l.a, l.cap⟩) ?_ (by unfold encV; rw [mkP_len])
        cases hla : l.a with
        | none => rw [ha5.1 hla]; rw [hla] at HO4; exact HO4.out
        | some p =>
          obtain ⟨b, o, s⟩ := p
          rw [← hla]
          exact OwnR_off HO4.out (ha5.2 b o s hla) (fun e => hoffg b o s hla e.symm)
      have HW5 : Hid (Within B C w w5) := by
        cases hla : l.a with
        | none => rw [ha5.1 hla]; exact HW4
        | some p =>
          obtain ⟨b, o, s⟩ := p
          rw [hla] at hown
          exact HW4.out.trans (Within.of_only (ha5.2 b o s hla) hown.lt.1 (HLC.out l (by rw [← HLL.out]; exact List.getElem_mem hlt) b o s hla))
      have HE5 : Hid (∀ (j : Nat) (h1 : j < ls.length) (h2 : j < (ms.set i (⟨⟨markT m, markT m1, mkP m2 l.s.pts.length⟩, l.a, l.cap⟩ : Sv)).length), i + 1 ≤ j → (ms.set i (⟨⟨markT m, markT m1, mkP m2 l.s.pts.length⟩, l.a, l.cap⟩ : Sv))[j] = ls[j]) := fun j h1 h2 hij => by
        rw [List.getElem_set_ne (by omega)]
        exact HE.out.1 j h1 (by simpa using h2) (by omega)
      have HL5 : Hid ((ms.set i (⟨⟨markT m, markT m1, mkP m2 l.s.pts.length⟩, l.a, l.cap⟩ : Sv)).length = ls.length) := by show _ = _; rw [List.length_set]; exact HL.out
      obtain ⟨m5, hm5⟩ : ∃ m5, m2 + 2 * l.s.pts.length = m5 := ⟨_, rfl⟩
      rw [hm5]
      have hb5 : m5 + r2 ≤ 100000000 := by omega
      have HRK5 : Hid (m5 + r2 = k + rem ls 0) := by show _ = _; have := HRK.out; omega
      have HM5 : Hid ((ms.set i (⟨⟨markT m, markT m1, mkP m2 l.s.pts.length⟩, l.a, l.cap⟩ : Sv)).take (i + 1) ++ marksS m5 (ls.drop (i + 1)) = marksS k ls) := by
        show _ = _
        have h1 := HE.out.2
        rw [List.drop_eq_getElem_cons hlt, HLL.out] at h1
        rw [List.take_succ_eq_append_getElem (by simpa using hlm), List.getElem_set_self, List.take_set_of_le (Nat.le_refl _), List.append_assoc, ← h1]
        have em1 : m1 = m + 1 := by omega
        have em2 : m2 = m + 2 := by omega
        have em5 : m5 = m + 2 + 2 * l.s.pts.length := by omega
        rw [em1, em2, em5]
        rfl
      have hp5' : 0 < m5 := by omega
      clear hx5 hma hoffg hp5 ha5 hown hm5 hset HO4 HG4 HW4 HE HL HOr HGr HWr HRK
      go_wp2
      go_roundw
      case rel => exact ⟨i + 1, m5, r2, _, by go_num, rfl, hp5', by omega, HR2.out.symm, HRK5.out, hb5, HL5.out, ⟨HE5.out, HM5.out⟩, HO5.out, HG5.out, HW5.out⟩
      case measure => simp [intOf]; omega
    · obtain rfl : i = ls.length := by omega
      have HF : Hid (ms = marksS k ls) := by
        have h1 := HE.out.2
        rw [List.drop_length, List.take_of_length_le (by rw [HL.out]; exact Nat.le_refl _)] at h1
        have h2 : ms = ms ++ marksS m [] := by simp [marksS]
        exact h2.trans h1
      have HR0 : Hid (m = k + rem ls 0) := by
        show _ = _
        have h1 := HR.out
        have h2 := HRK.out
        have h3 : rem ls ls.length = 0 := by unfold rem; simp
        omega
      go_wp2
      go_ret
      exact ⟨ms, ret1I (by have := HR0.out; omega), HF.out, HOr.out, HGr.out, HWr.out⟩

end Go.Proofs.Ytimpajhgplkpmaa.MarkT
