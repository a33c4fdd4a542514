/- The tactic for drawn regions, imported. -/
import Derived.Test.YtgmdfkmmbcpikaaGreatC1
import Derived.Deep.RegionHeld3
import Derived.Test.YtgmdfkmmbcpikaaGreatPds
import Derived.Test.YtgmdfkmmbcpikaaGreatSofL
import Derived.Test.YtgmdfkmmbcpikaaGreatGls
import Derived.Test.YtgmdfkmmbcpikaaGreatPl
import Derived.Test.YtgmdfkmmbcpikaaGreatNt
import Derived.BigQuiet
import Derived.Test.YtgmdfkmmbcpikaaGreatSet
import Derived.Test.YtgmdfkmmbcpikaaGreatMv
import Derived.Test.YtgmdfkmmbcpikaaGreatHdA
namespace Go.Proofs.YtgmdfkmmbcpikaaGreat.RH
theorem here : True := trivial
end Go.Proofs.YtgmdfkmmbcpikaaGreat.RH

/- laws.markPodS: what is written lies in the list's own block. -/
namespace Go.Proofs.YtgmdfkmmbcpikaaGreat.MarkP
open Go.RowKit Go.Deep
open Go.Proofs.YtgmdfkmmbcpikaaGreat.C1
open Go.Proofs.YtgmdfkmmbcpikaaGreat.C2
open Go.Proofs.YtgmdfkmmbcpikaaGreat.Smps
open Go.Proofs.YtgmdfkmmbcpikaaGreat.Mem
open Go.Proofs.YtgmdfkmmbcpikaaGreat.Pd
open Go.Proofs.YtgmdfkmmbcpikaaGreat.Pds
set_option linter.unusedVariables false

theorem cells_own {w : World} {B g n cap : Nat} {xs : List Pd} (h : OwnD w B (.slice (some ⟨g, 0, none⟩) n cap) xs) (hn : n = xs.length) : CellsW w g (flatP xs) := by
  subst hn
  refine ⟨(World.ownsRow.lt h g rfl).2, fun j hj => ⟨?_, World.ownsRow.frozenAt h j⟩⟩
  have hl := flatP_len xs
  rw [World.ownsRow.cellAt h j (by omega), List.getElem?_eq_getElem hj]
set_option maxHeartbeats 1000000 in
theorem mark_pods (n g cap k : Nat) (h0 : 0 < k) (hk : k + 4 * n ≤ 100000000) (vs : List Value) (hl : vs.length = 4 * n) (w : World) (h : CellsW w g vs) :
    Calls Tryz.prog 50 #[.slice (some ⟨g, 0, none⟩) n cap, .int .i64 k] w fun e w' => e = .returned (.int .i64 ((k + 4 * n : Nat) : Int)) ∧ Only g w w' := by
  have HO := Lib.hid h
  have HL := Lib.hid hl
  clear h hl
  go_enter Tryz.func50, Tryz.ntmps50
  go_wp2
  go_loopw [1, 5] (fun v i wr => ∃ (j : Nat) (us : List Value), j ≤ n ∧ i = .int .i64 j ∧ v = .int .i64 ((k + 4 * j : Nat) : Int) ∧ Hid (us.length = 4 * n) ∧ Hid (CellsW wr g us) ∧ Hid (Only g w wr)) (fun _ i _ => n - (intOf i).toNat)
  case atStart => exact ⟨0, vs, Nat.zero_le _, rfl, rfl, HL, HO, Only.refl _ _⟩
  case round =>
    obtain ⟨j, us, hj, rfl, rfl, HU, HC, HW⟩ := hrel
    by_cases hlt : j < n
    · obtain ⟨q, hq⟩ : ∃ q : Nat, k + 4 * j = q := ⟨_, rfl⟩
      have hq2 : k + 4 * (j + 1) = q + 4 := by omega
      have hq0 : 0 < q := by omega
      have hq1 : q + 4 ≤ 100000000 := by omega
      rw [hq]
      go_wp2_with (go_at_call 105; refine (mark_text q hq0 (by omega) _).mono ?_; rintro e w2 ⟨rfl, hb2⟩; have HC2 := Lib.hid (HC.out.kept hb2); have HW2 := Lib.hid (HW.out.trans (Only.of_below hb2)); clear hb2; obtain ⟨p0, f0⟩ := HC2.out.2 (j * 4) (by have := HU.out; omega); obtain ⟨p1, f1⟩ := HC2.out.2 (j * 4 + 1) (by have := HU.out; omega); obtain ⟨p2, f2⟩ := HC2.out.2 (j * 4 + 2) (by have := HU.out; omega); obtain ⟨p3, f3⟩ := HC2.out.2 (j * 4 + 3) (by have := HU.out; omega))
      clear p0 p1 p2 p3 f0 f1 f2 f3
      go_roundw
      case rel =>
        refine ⟨j + 1, _, by omega, by go_num, by rw [hq2]; go_num, ?_, Lib.hid ((((HC2.out.set (j * 4) _ (by have := HU.out; omega)).set (j * 4 + 1) _ (by have := HU.out; simp; omega)).set (j * 4 + 2) _ (by have := HU.out; simp; omega)).set (j * 4 + 3) _ (by have := HU.out; simp; omega)), Lib.hid ((((HW2.out.setCell (j * 4) _).setCell (j * 4 + 1) _).setCell (j * 4 + 2) _).setCell (j * 4 + 3) _)⟩
        show _ = _
        simpa using HU.out
      case measure => simp [intOf]; omega
    · obtain rfl : j = n := by omega
      go_wp2
      go_ret
      exact ⟨rfl, HW.out⟩
end Go.Proofs.YtgmdfkmmbcpikaaGreat.MarkP

/- Series marked, exactly, and the marks read again: laws.markSeriesS, laws.heldSeriesS. -/
namespace Go.Proofs.YtgmdfkmmbcpikaaGreat.MarkT
open Go.RowKit Go.Sort Go.BigFrame
open Go.Proofs.YtgmdfkmmbcpikaaGreat.C1
open Go.Proofs.YtgmdfkmmbcpikaaGreat.C2
open Go.Proofs.YtgmdfkmmbcpikaaGreat.Smps
open Go.Proofs.YtgmdfkmmbcpikaaGreat.Mem
open Go.Proofs.YtgmdfkmmbcpikaaGreat.Ser
open Go.Proofs.YtgmdfkmmbcpikaaGreat.Ser2
open Go.Proofs.YtgmdfkmmbcpikaaGreat.StoL
open Go.Proofs.YtgmdfkmmbcpikaaGreat.MarkS
set_option linter.unusedVariables false

/-- The marks of series, from k on. -/
def marksS : Nat → List Sv → List Sv
  | _, [] => []
  | k, l :: r => ⟨⟨markT k, markT (k + 1), mkP (k + 2) l.s.pts.length⟩, l.a, l.cap⟩ :: marksS (k + 2 + 2 * l.s.pts.length) r
set_option maxHeartbeats 2000000 in
set_option maxRecDepth 20000 in
theorem mark_series3 (ls : List Sv) (g cap B C k : Nat) (h0 : 0 < k) (hk : k + rem ls 0 ≤ 100000000) (w : World) (ho : OwnR w B (.slice (some ⟨g, 0, none⟩) ls.length cap) ls) (hg : Ser2.Good w B g ls)
    (hgC : g < C) (hlC : ∀ l ∈ ls, ∀ b o s, l.a = some ⟨b, o, s⟩ → b < C) (hBw : B ≤ w.heap.size) (hm : ls.length ≤ 1048576) :
    Calls Tryz.prog 51 #[.slice (some ⟨g, 0, none⟩) ls.length cap, .int .i64 k] w fun e w' => ∃ ms : List Sv, e = .returned (.int .i64 ((k + rem ls 0 : Nat) : Int)) ∧ ms = marksS k ls ∧ OwnR w' B (.slice (some ⟨g, 0, none⟩) ls.length cap) ms ∧ Ser2.Good w' B g ms ∧ Within B C w w' := by
  have hBg := ho.lt.1
  have HO := Lib.hid ho
  have HG := Lib.hid hg
  have HLC := Lib.hid hlC
  have HRM := Lib.hid (rem_next ls)
  clear ho hg hlC
  go_enter Tryz.func51, Tryz.ntmps51
  go_wp2
  go_loopw [1, 5] (fun vk vi wr => ∃ (i m r : Nat) (ms : List Sv), vi = .int .i64 i ∧ vk = .int .i64 m ∧ 0 < m ∧ i ≤ ls.length ∧ Hid (r = rem ls i) ∧ Hid (m + r = k + rem ls 0) ∧ m + r ≤ 100000000 ∧ Hid (ms.length = ls.length) ∧ Hid ((∀ (j : Nat) (h1 : j < ls.length) (h2 : j < ms.length), i ≤ j → ms[j] = ls[j]) ∧ ms.take i ++ marksS m (ls.drop i) = marksS k ls) ∧ Hid (OwnR wr B (.slice (some ⟨g, 0, none⟩) ls.length cap) ms) ∧ Hid (Ser2.Good wr B g ms) ∧ Hid (Within B C w wr)) (fun _ vi _ => ls.length - (intOf vi).toNat)
  case atStart => exact ⟨0, k, rem ls 0, ls, rfl, rfl, h0, Nat.zero_le _, rfl, rfl, hk, rfl, ⟨fun j h1 h2 _ => rfl, by simp⟩, HO.out, HG.out, Within.refl _ _ _⟩
  case round =>
    obtain ⟨i, m, r, ms, rfl, rfl, hmp, hi, HR, HRK, hmr, HL, HE, HOr, HGr, HWr⟩ := hrel
    by_cases hlt : i < ls.length
    · have hlm : i < ms.length := by have := HL.out; omega
      have hei := HE.out.1 i hlt hlm (Nat.le_refl _)
      obtain ⟨l, hl⟩ : ∃ l, ls[i] = l := ⟨_, rfl⟩
      obtain ⟨r2, hr2⟩ : ∃ r2, rem ls (i + 1) = r2 := ⟨_, rfl⟩
      have hrr := HRM.out i hlt
      rw [hl, hr2] at hrr
      have hrn : r = 2 + 2 * l.s.pts.length + r2 := by rw [HR.out, hrr]
      have HR2 := Lib.hid hr2
      rw [hl] at hei
      obtain ⟨m1, e1⟩ : ∃ x : Nat, (m : Int) + 1 = (x : Int) := ⟨m + 1, by omega⟩
      obtain ⟨m2, e2⟩ : ∃ x : Nat, (m1 : Int) + 1 = (x : Int) := ⟨m + 2, by omega⟩
      have HEI := Lib.hid hei
      have HLL := Lib.hid hl
      clear hrr hr2 hei hl HR
      go_wp2_with fail
      refine (mark_text m hmp (by omega) _).mono ?_
      rintro e w1 ⟨rfl, hb1⟩
      have HO1 := Lib.hid (HOr.out.kept hb1)
      have HG1 := Lib.hid (HGr.out.kept hb1)
      have HW1 := Lib.hid (HWr.out.trans (Within.of_below hb1))
      obtain ⟨p0, p1, p2⟩ := HO1.out.at3 i hlm
      have f0 := HO1.out.frozen (i * 3)
      clear hb1
      rw [HEI.out] at p0 p1 p2
      have HO2 := Lib.hid (OwnR_set HO1.out i 0 (.string (markT m)) ⟨⟨markT m, l.s.met, l.s.pts⟩, l.a, l.cap⟩ hlm (by omega) (by rw [HEI.out]; rfl))
      have HS2 := Lib.hid ((Only.refl g w1).setCell (i * 3 + 0) (.string (markT m)))
      rw [Nat.add_zero] at HO2 HS2
      have HG2 := Lib.hid (HG1.out.only HS2.out)
      have HW2 := Lib.hid (HW1.out.trans (Within.of_only HS2.out hBg hgC))
      clear HO1 HG1 HW1
      go_wp2_with fail
      obtain ⟨w2, hw2⟩ : ∃ w2, w1.setCell ⟨g, i * 3, none⟩ (.string (markT m)) = w2 := ⟨_, rfl⟩
      rw [hw2] at HO2 HG2 HW2 ⊢
      clear HS2 hw2 p0 p1 p2 f0
      refine (mark_text m1 (by omega) (by omega) _).mono ?_
      rintro e w3 ⟨rfl, hb3⟩
      have HO3 := Lib.hid (HO2.out.kept hb3)
      have HG3 := Lib.hid (HG2.out.kept hb3)
      have HW3 := Lib.hid (HW2.out.trans (Within.of_below hb3))
      have hset : i < (ms.set i ⟨⟨markT m, l.s.met, l.s.pts⟩, l.a, l.cap⟩).length := by simpa using hlm
      obtain ⟨p0, p1, p2⟩ := HO3.out.at3 i hset
      have f1 := HO3.out.frozen (i * 3 + 1)
      clear hb3
      rw [List.getElem_set_self] at p0 p1 p2
      simp only at p0 p1 p2
      have HO4 := Lib.hid (OwnR_set HO3.out i 1 (.string (markT m1)) ⟨⟨markT m, markT m1, l.s.pts⟩, l.a, l.cap⟩ hset (by omega) (by rw [List.getElem_set_self]; rfl))
      have HS4 := Lib.hid ((Only.refl g w3).setCell (i * 3 + 1) (.string (markT m1)))
      have HG4 := Lib.hid (HG3.out.only HS4.out)
      have HW4 := Lib.hid (HW3.out.trans (Within.of_only HS4.out hBg hgC))
      rw [List.set_set] at HO4
      clear HO3 HG3 HW3
      go_wp2_with fail
      obtain ⟨w4, hw4⟩ : ∃ w4, w3.setCell ⟨g, i * 3 + 1, none⟩ (.string (markT m1)) = w4 := ⟨_, rfl⟩
      rw [hw4] at HO4 HG4 HW4 ⊢
      clear HS4 hw4 p0 p1 p2 f1
      have hown : OwnP w4 B (.slice l.a l.s.pts.length l.cap) l.s.pts := by
        have := HG4.out.own _ (List.getElem_mem hlm)
        rw [HEI.out] at this
        exact this
      refine (mark_points l.s.pts l.a l.cap B m2 (by omega) (by omega) w4 hown).mono ?_
      rintro e w5 ⟨rfl, hp5, ha5⟩
      have hx5 : OwnP w5 B (.slice l.a (mkP m2 l.s.pts.length).length l.cap) (mkP m2 l.s.pts.length) := by rw [mkP_len]; exact hp5
      have hma : OnlyA ms[i].a w4 w5 := by rw [HEI.out]; exact ha5
      have HG5 := Lib.hid (Good_mark (x := ⟨⟨markT m, markT m1, mkP m2 l.s.pts.length⟩, l.a, l.cap⟩) HG4.out hlm (by rw [HEI.out]) hx5 hma)
      have hoffg : Off g l.a := by
        have := HG4.out.off _ (List.getElem_mem hlm)
        rw [HEI.out] at this
        exact this
      have HO5 : Hid (OwnR w5 B (.slice (some ⟨g, 0, none⟩) ls.length cap) (ms.set i ⟨⟨markT m, markT m1, mkP m2 l.s.pts.length⟩, l.a, l.cap⟩)) := by
        refine OwnR_same (x := ⟨⟨markT m, markT m1, l.s.pts⟩, l.a, l.cap⟩) ?_ (by unfold encV; rw [mkP_len])
        cases hla : l.a with
        | none => rw [ha5.1 hla]; rw [hla] at HO4; exact HO4.out
        | some p =>
          obtain ⟨b, o, s⟩ := p
          rw [← hla]
          exact OwnR_off HO4.out (ha5.2 b o s hla) (fun e => hoffg b o s hla e.symm)
      have HW5 : Hid (Within B C w w5) := by
        cases hla : l.a with
        | none => rw [ha5.1 hla]; exact HW4
        | some p =>
          obtain ⟨b, o, s⟩ := p
          rw [hla] at hown
          exact HW4.out.trans (Within.of_only (ha5.2 b o s hla) hown.lt.1 (HLC.out l (by rw [← HLL.out]; exact List.getElem_mem hlt) b o s hla))
      have HE5 : Hid (∀ (j : Nat) (h1 : j < ls.length) (h2 : j < (ms.set i (⟨⟨markT m, markT m1, mkP m2 l.s.pts.length⟩, l.a, l.cap⟩ : Sv)).length), i + 1 ≤ j → (ms.set i (⟨⟨markT m, markT m1, mkP m2 l.s.pts.length⟩, l.a, l.cap⟩ : Sv))[j] = ls[j]) := fun j h1 h2 hij => by
        rw [List.getElem_set_ne (by omega)]
        exact HE.out.1 j h1 (by simpa using h2) (by omega)
      have HL5 : Hid ((ms.set i (⟨⟨markT m, markT m1, mkP m2 l.s.pts.length⟩, l.a, l.cap⟩ : Sv)).length = ls.length) := by show _ = _; rw [List.length_set]; exact HL.out
      obtain ⟨m5, hm5⟩ : ∃ m5, m2 + 2 * l.s.pts.length = m5 := ⟨_, rfl⟩
      rw [hm5]
      have hb5 : m5 + r2 ≤ 100000000 := by omega
      have HRK5 : Hid (m5 + r2 = k + rem ls 0) := by show _ = _; have := HRK.out; omega
      have HM5 : Hid ((ms.set i (⟨⟨markT m, markT m1, mkP m2 l.s.pts.length⟩, l.a, l.cap⟩ : Sv)).take (i + 1) ++ marksS m5 (ls.drop (i + 1)) = marksS k ls) := by
        show _ = _
        have h1 := HE.out.2
        rw [List.drop_eq_getElem_cons hlt, HLL.out] at h1
        rw [List.take_succ_eq_append_getElem (by simpa using hlm), List.getElem_set_self, List.take_set_of_le (Nat.le_refl _), List.append_assoc, ← h1]
        have em1 : m1 = m + 1 := by omega
        have em2 : m2 = m + 2 := by omega
        have em5 : m5 = m + 2 + 2 * l.s.pts.length := by omega
        rw [em1, em2, em5]
        rfl
      have hp5' : 0 < m5 := by omega
      clear hx5 hma hoffg hp5 ha5 hown hm5 hset HO4 HG4 HW4 HE HL HOr HGr HWr HRK
      go_wp2
      go_roundw
      case rel => exact ⟨i + 1, m5, r2, _, by go_num, rfl, hp5', by omega, HR2.out.symm, HRK5.out, hb5, HL5.out, ⟨HE5.out, HM5.out⟩, HO5.out, HG5.out, HW5.out⟩
      case measure => simp [intOf]; omega
    · obtain rfl : i = ls.length := by omega
      have HF : Hid (ms = marksS k ls) := by
        have h1 := HE.out.2
        rw [List.drop_length, List.take_of_length_le (by rw [HL.out]; exact Nat.le_refl _)] at h1
        have h2 : ms = ms ++ marksS m [] := by simp [marksS]
        exact h2.trans h1
      have HR0 : Hid (m = k + rem ls 0) := by
        show _ = _
        have h1 := HR.out
        have h2 := HRK.out
        have h3 : rem ls ls.length = 0 := by unfold rem; simp
        omega
      go_wp2
      go_ret
      exact ⟨ms, ret1I (by have := HR0.out; omega), HF.out, HOr.out, HGr.out, HWr.out⟩

end Go.Proofs.YtgmdfkmmbcpikaaGreat.MarkT

/- Marks of policies and of goals (rows of three cells). -/
namespace Go.Proofs.YtgmdfkmmbcpikaaGreat.Mk
open Go.RowKit Go.Deep
open Go.ChangeShapes Go.WideShapes
open Go.Proofs.YtgmdfkmmbcpikaaGreat.C1
open Go.Proofs.YtgmdfkmmbcpikaaGreat.C2
open Go.Proofs.YtgmdfkmmbcpikaaGreat.Smps
open Go.Proofs.YtgmdfkmmbcpikaaGreat.Mem
open Go.Proofs.YtgmdfkmmbcpikaaGreat.Gl
open Go.Proofs.YtgmdfkmmbcpikaaGreat.Gls
open Go.Proofs.YtgmdfkmmbcpikaaGreat.Pl
set_option linter.unusedVariables false

def OnlyA (a : Option Addr) (w w' : World) : Prop := (a = none → w' = w) ∧ ∀ b o s, a = some ⟨b, o, s⟩ → Only b w w'
theorem onlyA_none (w : World) : OnlyA none w w := ⟨fun _ => rfl, fun b o s e => by cases e⟩
theorem onlyA_some {g : Nat} {w w' : World} (h : Only g w w') : OnlyA (some ⟨g, 0, none⟩) w w' := by
  refine ⟨fun e => ?_, fun b o s e => ?_⟩
  · cases e
  · cases e; exact h
def mkL (k n : Nat) : List Pl := (List.range n).map fun i => ⟨((k + 3 * i : Nat) : Int), ((k + 3 * i + 1 : Nat) : Int), ((k + 3 * i + 2 : Nat) : Int)⟩
theorem mkL_len (k n : Nat) : (mkL k n).length = n := by simp [mkL]
theorem mkL_get (k n i : Nat) (h : i < (mkL k n).length) : (mkL k n)[i] = ⟨((k + 3 * i : Nat) : Int), ((k + 3 * i + 1 : Nat) : Int), ((k + 3 * i + 2 : Nat) : Int)⟩ := by simp [mkL]
def halfL (k : Nat) (ps : List Pl) (i : Nat) : List Pl := (mkL k ps.length).take i ++ ps.drop i
theorem halfL_len (k : Nat) (ps : List Pl) (i : Nat) (h : i ≤ ps.length) : (halfL k ps i).length = ps.length := by unfold halfL; simp [mkL_len]; omega
theorem halfL_set (k : Nat) (ps : List Pl) (i : Nat) (h : i < ps.length) : (halfL k ps i).set i ⟨((k + 3 * i : Nat) : Int), ((k + 3 * i + 1 : Nat) : Int), ((k + 3 * i + 2 : Nat) : Int)⟩ = halfL k ps (i + 1) := by
  unfold halfL
  have e2 : i - ((mkL k ps.length).take i).length = 0 := by simp [mkL_len]; omega
  rw [List.set_append, if_neg (by simp [mkL_len]; omega), e2, List.drop_eq_getElem_cons h, List.set_cons_zero, List.take_succ_eq_append_getElem (by rw [mkL_len]; exact h), List.append_assoc, mkL_get]
  rfl
theorem halfL_all (k : Nat) (ps : List Pl) : halfL k ps ps.length = mkL k ps.length := by
  unfold halfL
  rw [List.take_of_length_le (by rw [mkL_len]; exact Nat.le_refl _)]; simp
theorem halfL_none (k : Nat) (ps : List Pl) : halfL k ps 0 = ps := by unfold halfL; simp
set_option maxHeartbeats 1000000 in
set_option maxRecDepth 20000 in
theorem mark_policies (ps : List Pl) (a : Option Addr) (cap B k : Nat) (h0 : 0 < k) (hk : k + 3 * ps.length ≤ 100000000) (w : World) (h : OwnL w B (.slice a ps.length cap) ps) :
    Calls Tryz.prog 172 #[.slice a ps.length cap, .int .i64 k] w fun e w' => e = .returned (.int .i64 ((k + 3 * ps.length : Nat) : Int)) ∧ OwnL w' B (.slice a ps.length cap) (mkL k ps.length) ∧ OnlyA a w w' := by
  rcases h.2 with ⟨hv, h0'⟩ | ⟨g, cap', cur, hv, _, _, _, _⟩
  · obtain rfl : ps = [] := List.length_eq_zero_iff.1 h0'
    simp only [List.length_nil, Value.slice.injEq] at hv
    obtain ⟨rfl, -, rfl⟩ := hv
    have HO := Lib.hid h
    clear h
    show Calls Tryz.prog 172 #[.slice none 0 0, .int .i64 k] w _
    go_enter Tryz.func172, Tryz.ntmps172
    go_wp2
    go_loop [1, 5] (fun v i => v = .int .i64 k ∧ i = .int .i64 0) (fun _ _ => 0)
    case atStart => exact ⟨rfl, rfl⟩
    case round =>
      obtain ⟨rfl, rfl⟩ := hrel
      go_wp2
      go_ret
      exact ⟨rfl, HO.out, onlyA_none _⟩
  · cases hv
    have HO0 := Lib.hid h
    clear h
    go_enter Tryz.func172, Tryz.ntmps172
    go_wp2
    go_loopw [1, 5] (fun vk vi wr => ∃ (i m : Nat), vi = .int .i64 i ∧ vk = .int .i64 m ∧ Hid (m = k + 3 * i) ∧ m ≤ 100000000 - 3 * (ps.length - i) ∧ i ≤ ps.length ∧ Hid (OwnL wr B (.slice (some ⟨g, 0, none⟩) ps.length cap) (halfL k ps i)) ∧ Hid (Only g w wr)) (fun _ vi _ => ps.length - (intOf vi).toNat)
    case atStart => exact ⟨0, k, rfl, rfl, by show _ = _; omega, by omega, Nat.zero_le _, by rw [halfL_none]; exact HO0.out, Only.refl _ _⟩
    case round =>
      obtain ⟨i, m, rfl, rfl, HM, hmb, hi, HO, HL⟩ := hrel
      by_cases hlt : i < ps.length
      · obtain ⟨m1, e1⟩ : ∃ x : Nat, (m : Int) + 1 = (x : Int) := ⟨m + 1, by omega⟩
        obtain ⟨m2, e2⟩ : ∃ x : Nat, (m1 : Int) + 1 = (x : Int) := ⟨m + 2, by omega⟩
        obtain ⟨m3, e3⟩ : ∃ x : Nat, (m2 : Int) + 1 = (x : Int) := ⟨m + 3, by omega⟩
        have hhl := halfL_len k ps i hi
        obtain ⟨p0, p1, p2⟩ := HO.out.at3 i (by omega)
        have f0 := HO.out.frozen (i * 3)
        have f1 := HO.out.frozen (i * 3 + 1)
        have f2 := HO.out.frozen (i * 3 + 2)
        have HN : Hid (OwnL (((wr.setCell ⟨g, i * 3, none⟩ (.int .i64 (m : Int))).setCell ⟨g, i * 3 + 1, none⟩ (.int .i64 (m1 : Int))).setCell ⟨g, i * 3 + 2, none⟩ (.int .i64 (m2 : Int))) B (.slice (some ⟨g, 0, none⟩) ps.length cap) (halfL k ps (i + 1))) := by
          have hp := HO.out.put i (by omega) ⟨(m : Int), (m1 : Int), (m2 : Int)⟩
          have hs := halfL_set k ps i hlt
          have em : m = k + 3 * i := HM.out
          have em1 : m1 = k + 3 * i + 1 := by omega
          have em2 : m2 = k + 3 * i + 2 := by omega
          rw [← em2, ← em1, ← em] at hs
          rw [hs] at hp
          exact hp
        have HL2 := Lib.hid (((HL.out.setCell (i * 3) (.int .i64 (m : Int))).setCell (i * 3 + 1) (.int .i64 (m1 : Int))).setCell (i * 3 + 2) (.int .i64 (m2 : Int)))
        go_wp2
        go_roundw
        case rel => exact ⟨i + 1, m3, by go_num, by first | rfl | go_num, by show _ = _; have := HM.out; omega, by omega, by omega, HN, HL2⟩
        case measure => simp [intOf]; omega
      · obtain rfl : i = ps.length := by omega
        have HF : Hid (OwnL wr B (.slice (some ⟨g, 0, none⟩) ps.length cap) (mkL k ps.length)) := by
          have := HO.out
          rw [halfL_all] at this
          exact this
        clear HO
        go_wp2
        go_ret
        exact ⟨ret1I (by have := HM.out; omega), HF.out, onlyA_some HL.out⟩
theorem smps_cells {w : World} {B n cap : Nat} {a : Option Addr} {xs : List Gl} (h : OwnG w B (.slice a n cap) xs) : ∃ b off, (0 < xs.length → a = some ⟨b, off, none⟩) ∧ (0 < xs.length → b < w.heap.size) ∧ ∀ (i : Nat) (h : i < xs.length), GAt w b (off + i * 3) xs[i] := by
  obtain ⟨a', cap', hv, hs⟩ := h.smps
  cases hv
  exact hs.cells
def mkG (k n : Nat) : List Gl := (List.range n).map fun i => ⟨markT (k + 3 * i), ((k + 3 * i + 1 : Nat) : Int), ((k + 3 * i + 2 : Nat) : Int)⟩
theorem mkG_len (k n : Nat) : (mkG k n).length = n := by simp [mkG]
theorem mkG_get (k n i : Nat) (h : i < (mkG k n).length) : (mkG k n)[i] = ⟨markT (k + 3 * i), ((k + 3 * i + 1 : Nat) : Int), ((k + 3 * i + 2 : Nat) : Int)⟩ := by simp [mkG]
def halfG (k : Nat) (ps : List Gl) (i : Nat) : List Gl := (mkG k ps.length).take i ++ ps.drop i
theorem halfG_len (k : Nat) (ps : List Gl) (i : Nat) (h : i ≤ ps.length) : (halfG k ps i).length = ps.length := by unfold halfG; simp [mkG_len]; omega
theorem halfG_set (k : Nat) (ps : List Gl) (i : Nat) (h : i < ps.length) : (halfG k ps i).set i ⟨markT (k + 3 * i), ((k + 3 * i + 1 : Nat) : Int), ((k + 3 * i + 2 : Nat) : Int)⟩ = halfG k ps (i + 1) := by
  unfold halfG
  have e2 : i - ((mkG k ps.length).take i).length = 0 := by simp [mkG_len]; omega
  rw [List.set_append, if_neg (by simp [mkG_len]; omega), e2, List.drop_eq_getElem_cons h, List.set_cons_zero, List.take_succ_eq_append_getElem (by rw [mkG_len]; exact h), List.append_assoc, mkG_get]
  rfl
theorem halfG_all (k : Nat) (ps : List Gl) : halfG k ps ps.length = mkG k ps.length := by
  unfold halfG
  rw [List.take_of_length_le (by rw [mkG_len]; exact Nat.le_refl _)]; simp
theorem halfG_none (k : Nat) (ps : List Gl) : halfG k ps 0 = ps := by unfold halfG; simp
set_option maxHeartbeats 1000000 in
set_option maxRecDepth 20000 in
theorem mark_goals (ps : List Gl) (a : Option Addr) (cap B k : Nat) (h0 : 0 < k) (hk : k + 3 * ps.length ≤ 100000000) (w : World) (h : OwnG w B (.slice a ps.length cap) ps) :
    Calls Tryz.prog 103 #[.slice a ps.length cap, .int .i64 k] w fun e w' => e = .returned (.int .i64 ((k + 3 * ps.length : Nat) : Int)) ∧ OwnG w' B (.slice a ps.length cap) (mkG k ps.length) ∧ OnlyA a w w' := by
  rcases h.2 with ⟨hv, h0'⟩ | ⟨g, cap', cur, hv, _, _, _, _⟩
  · obtain rfl : ps = [] := List.length_eq_zero_iff.1 h0'
    simp only [List.length_nil, Value.slice.injEq] at hv
    obtain ⟨rfl, -, rfl⟩ := hv
    have HO := Lib.hid h
    clear h
    show Calls Tryz.prog 103 #[.slice none 0 0, .int .i64 k] w _
    go_enter Tryz.func103, Tryz.ntmps103
    go_wp2
    go_loop [1, 5] (fun v i => v = .int .i64 k ∧ i = .int .i64 0) (fun _ _ => 0)
    case atStart => exact ⟨rfl, rfl⟩
    case round =>
      obtain ⟨rfl, rfl⟩ := hrel
      go_wp2
      go_ret
      exact ⟨rfl, HO.out, onlyA_none _⟩
  · cases hv
    have HO0 := Lib.hid h
    clear h
    go_enter Tryz.func103, Tryz.ntmps103
    go_wp2
    go_loopw [1, 5] (fun vk vi wr => ∃ (i m : Nat), vi = .int .i64 i ∧ vk = .int .i64 m ∧ Hid (m = k + 3 * i) ∧ m ≤ 100000000 - 3 * (ps.length - i) ∧ i ≤ ps.length ∧ Hid (OwnG wr B (.slice (some ⟨g, 0, none⟩) ps.length cap) (halfG k ps i)) ∧ Hid (Only g w wr)) (fun _ vi _ => ps.length - (intOf vi).toNat)
    case atStart => exact ⟨0, k, rfl, rfl, by show _ = _; omega, by omega, Nat.zero_le _, by rw [halfG_none]; exact HO0.out, Only.refl _ _⟩
    case round =>
      obtain ⟨i, m, rfl, rfl, HM, hmb, hi, HO, HL⟩ := hrel
      by_cases hlt : i < ps.length
      · obtain ⟨m1, e1⟩ : ∃ x : Nat, (m : Int) + 1 = (x : Int) := ⟨m + 1, by omega⟩
        obtain ⟨m2, e2⟩ : ∃ x : Nat, (m1 : Int) + 1 = (x : Int) := ⟨m + 2, by omega⟩
        obtain ⟨m3, e3⟩ : ∃ x : Nat, (m2 : Int) + 1 = (x : Int) := ⟨m + 3, by omega⟩
        have hhl := halfG_len k ps i hi
        have hm0 : 0 < m := by have := HM.out; omega
        go_wp2_with (go_at_call 105; refine (mark_text m hm0 (by omega) _).mono ?_; rintro e w2 ⟨rfl, hb2⟩; have HO2 := Lib.hid (HO.out.kept hb2); have HL1 := Lib.hid (HL.out.trans (Only.of_below hb2)); clear hb2; obtain ⟨⟨p0, p1, p2⟩, hfr⟩ := HO2.out.spot hhl.symm i (by omega); have f0 := hfr (i * 3); have f1 := hfr (i * 3 + 1); have f2 := hfr (i * 3 + 2); clear hfr)
        have HN : Hid (OwnG (((w2.setCell ⟨g, i * 3, none⟩ (.string (markT m))).setCell ⟨g, i * 3 + 1, none⟩ (.int .i64 (m1 : Int))).setCell ⟨g, i * 3 + 2, none⟩ (.int .i64 (m2 : Int))) B (.slice (some ⟨g, 0, none⟩) ps.length cap) (halfG k ps (i + 1))) := by
          have hp := HO2.out.put hhl.symm i (by omega) ⟨markT m, (m1 : Int), (m2 : Int)⟩
          have hs := halfG_set k ps i hlt
          have em : m = k + 3 * i := HM.out
          have em1 : m1 = k + 3 * i + 1 := by omega
          have em2 : m2 = k + 3 * i + 2 := by omega
          rw [← em2, ← em1, ← em] at hs
          rw [hs] at hp
          exact hp
        have HL2 := Lib.hid (((HL1.out.setCell (i * 3) (.string (markT m))).setCell (i * 3 + 1) (.int .i64 (m1 : Int))).setCell (i * 3 + 2) (.int .i64 (m2 : Int)))
        go_roundw
        case rel => exact ⟨i + 1, m3, by go_num, by first | rfl | go_num, by show _ = _; have := HM.out; omega, by omega, by omega, HN, HL2⟩
        case measure => simp [intOf]; omega
      · obtain rfl : i = ps.length := by omega
        have HF : Hid (OwnG wr B (.slice (some ⟨g, 0, none⟩) ps.length cap) (mkG k ps.length)) := by
          have := HO.out
          rw [halfG_all] at this
          exact this
        clear HO
        go_wp2
        go_ret
        exact ⟨ret1I (by have := HM.out; omega), HF.out, onlyA_some HL.out⟩
end Go.Proofs.YtgmdfkmmbcpikaaGreat.Mk

/- Marks of sides, behaviours, setups: their rows, written and read again. -/
namespace Go.Proofs.YtgmdfkmmbcpikaaGreat.MkS
open Go.RowKit Go.Deep
open Go.Proofs.YtgmdfkmmbcpikaaGreat.C1
open Go.Proofs.YtgmdfkmmbcpikaaGreat.C2
open Go.Proofs.YtgmdfkmmbcpikaaGreat.Smps
open Go.Proofs.YtgmdfkmmbcpikaaGreat.Mem
open Go.Proofs.YtgmdfkmmbcpikaaGreat.Gl
open Go.Proofs.YtgmdfkmmbcpikaaGreat.Gls
open Go.Proofs.YtgmdfkmmbcpikaaGreat.Pl
open Go.Proofs.YtgmdfkmmbcpikaaGreat.Mk
open Go.Proofs.YtgmdfkmmbcpikaaGreat.Set
set_option linter.unusedVariables false

/-- Only the block at a may have been written, and blocks may be new. -/
structure Wo (a : Option Addr) (w w' : World) : Prop where
  os : w'.os = w.os
  tape : w'.tape = w.tape
  output : w'.output = w.output
  size : w.heap.size ≤ w'.heap.size
  block : ∀ k, k < w.heap.size → (∀ b o s, a = some ⟨b, o, s⟩ → k ≠ b) → w'.heap[k]? = w.heap[k]?
theorem Wo.of_below {a : Option Addr} {w w' : World} (h : Below w.heap.size w w') : Wo a w w' := ⟨h.os, h.tape, h.output, h.size, fun k hk _ => h.block k hk⟩
theorem Wo.of_only {a : Option Addr} {w w' : World} (h : OnlyA a w w') : Wo a w w' := by
  rcases a with _ | ⟨b, o, s⟩
  · rw [h.1 rfl]
    exact ⟨rfl, rfl, rfl, Nat.le_refl _, fun _ _ _ => rfl⟩
  · have := h.2 b o s rfl
    exact ⟨this.os, this.tape, this.output, this.size, fun k hk hn => this.block k hk (hn b o s rfl)⟩
theorem Wo.trans {a : Option Addr} {u v w : World} (h : Wo a u v) (k : Wo a v w) : Wo a u w :=
  ⟨k.os.trans h.os, k.tape.trans h.tape, k.output.trans h.output, Nat.le_trans h.size k.size, fun i hi hn => (k.block i (Nat.lt_of_lt_of_le hi h.size) hn).trans (h.block i hi hn)⟩
theorem Wo.below {a : Option Addr} {B : Nat} {w w' : World} (h : Wo a w w') (ha : ∀ b o s, a = some ⟨b, o, s⟩ → B ≤ b) (hB : B ≤ w.heap.size) : Below B w w' :=
  ⟨h.os, h.tape, h.output, h.size, fun k hk => h.block k (by omega) (fun b o s e => by have := ha b o s e; omega)⟩
def Apart (a a' : Option Addr) : Prop := ∀ b o s b' o' s', a = some ⟨b, o, s⟩ → a' = some ⟨b', o', s'⟩ → b ≠ b'
theorem Apart.symm {a a' : Option Addr} (h : Apart a a') : Apart a' a := fun b o s b' o' s' e e' => (h b' o' s' b o s e' e).symm
theorem row_wo {B e k n len cap : Nat} {a a' : Option Addr} {l : List Value} {w w' : World} (h : w.ownsRow B e k (.slice a len cap) n l) (hw : Wo a' w w') (hne : Apart a a') : w'.ownsRow B e k (.slice a len cap) n l := by
  obtain ⟨h1, h2⟩ := h
  refine ⟨h1, ?_⟩
  rcases h2 with h2 | ⟨g, cap', cur, hv, hg, hh, r⟩
  · exact .inl h2
  · cases hv
    exact .inr ⟨g, cap, cur, rfl, hg, by rw [hw.block g (Array.getElem?_eq_some_iff.1 hh).1 (fun b o s e => hne g 0 none b o s rfl e)]; exact hh, r⟩
theorem row_base {B e k n len cap : Nat} {a : Option Addr} {l : List Value} {w : World} (h : w.ownsRow B e k (.slice a len cap) n l) : ∀ b o s, a = some ⟨b, o, s⟩ → B ≤ b := by
  intro b o s e'
  rcases h.2 with ⟨hv, _⟩ | ⟨g, cap', cur, hv, hg, _⟩
  · cases hv; cases e'
  · cases hv; cases e'; exact hg
theorem mark_side (n : Nat) (sel win : Int) (ps : List Pl) (hn : ps.length = n) (a : Option Addr) (cap B k : Nat) (h0 : 0 < k) (hk : k + 3 * n ≤ 100000000) (w : World) (h : OwnL w B (.slice a n cap) ps) :
    Calls Tryz.prog 143 #[.agg #[.slice a n cap, .int .i64 sel, .int .i64 win], .int .i64 k] w fun e w' => e = .returned (.int .i64 ((k + 3 * n : Nat) : Int)) ∧ OwnL w' B (.slice a n cap) (mkL k n) ∧ Wo a w w' := by
  subst hn
  have hb := box_below w #[.slice a ps.length cap, .int .i64 sel, .int .i64 win] 44
  have HO := Lib.hid (OwnL.kept h hb)
  have HW := Lib.hid (Wo.of_below (a := a) hb)
  clear h hb
  go_enter Tryz.func143, Tryz.ntmps143
  go_wp2_with (go_at_call 172; refine (mark_policies ps a cap B k h0 hk _ HO.out).mono ?_; rintro e w2 ⟨rfl, ho, hw⟩; have HO2 := Lib.hid ho; have HW2 := Lib.hid (HW.out.trans (Wo.of_only hw)); clear ho hw)
  go_ret
  exact ⟨rfl, HO2.out, HW2.out⟩
/-! ### Behaviours. -/
/-- The two rows of a behaviour, of one's own and apart. -/
def BRows (w : World) (B : Nat) (a1 : Option Addr) (nu c1 : Nat) (a2 : Option Addr) (nd c2 : Nat) (us ds : List Pl) : Prop := OwnL w B (.slice a1 nu c1) us ∧ OwnL w B (.slice a2 nd c2) ds
theorem cells_wo {w w' : World} {g : Nat} {vs : List Value} {a : Option Addr} (h : CellsW w g vs) (hw : Wo a w w') (hne : ∀ b o s, a = some ⟨b, o, s⟩ → g ≠ b) : CellsW w' g vs := by
  have hb := hw.block g h.1 hne
  refine ⟨Nat.lt_of_lt_of_le h.1 hw.size, fun j hj => ⟨(World.cell?_of_block (w := w) hb).trans (h.2 j hj).1, ?_⟩⟩
  have hf := (h.2 j hj).2
  simp only [World.frozen?, hb] at hf ⊢
  exact hf
theorem own_lt {B e k n len cap : Nat} {a : Option Addr} {l : List Value} {w : World} (h : w.ownsRow B e k (.slice a len cap) n l) : ∀ b o s, a = some ⟨b, o, s⟩ → b < w.heap.size := by
  intro b o s e'
  rcases h.2 with ⟨hv, _⟩ | ⟨g, cap', cur, hv, hg, hh, _⟩
  · cases hv; cases e'
  · cases hv; cases e'; exact (Array.getElem?_eq_some_iff.1 hh).1
theorem row_two {B e k n len cap : Nat} {a a1 a2 : Option Addr} {l : List Value} {w w' : World} (h : w.ownsRow B e k (.slice a len cap) n l) (hbl : ∀ g, g < w.heap.size → (∀ b o s, a1 = some ⟨b, o, s⟩ → g ≠ b) → (∀ b o s, a2 = some ⟨b, o, s⟩ → g ≠ b) → w'.heap[g]? = w.heap[g]?) (h1 : Apart a a1) (h2 : Apart a a2) : w'.ownsRow B e k (.slice a len cap) n l := by
  obtain ⟨q1, q2⟩ := h
  refine ⟨q1, ?_⟩
  rcases q2 with q2 | ⟨g, cap', cur, hv, hg, hh, r⟩
  · exact .inl q2
  · cases hv
    exact .inr ⟨g, cap, cur, rfl, hg, by rw [hbl g (Array.getElem?_eq_some_iff.1 hh).1 (fun b o s e => h1 g 0 none b o s rfl e) (fun b o s e => h2 g 0 none b o s rfl e)]; exact hh, r⟩
set_option maxHeartbeats 1000000 in
theorem mark_behave (nu nd : Nat) (us ds : List Pl) (hnu : us.length = nu) (hnd : ds.length = nd) (s1 w1 s2 w2 mn mx : Int) (a1 : Option Addr) (c1 : Nat) (a2 : Option Addr) (c2 : Nat) (hap : Apart a1 a2) (B k : Nat) (h0 : 0 < k) (hk : k + 3 * nu + 3 * nd ≤ 100000000) (w : World) (hB : B ≤ w.heap.size) (h : BRows w B a1 nu c1 a2 nd c2 us ds) :
    Calls Tryz.prog 104 #[.agg #[.slice a1 nu c1, .int .i64 s1, .int .i64 w1, .slice a2 nd c2, .int .i64 s2, .int .i64 w2, .int .i64 mn, .int .i64 mx], .int .i64 k] w fun e w' => e = .returned (.int .i64 ((k + 3 * nu + 3 * nd : Nat) : Int)) ∧ BRows w' B a1 nu c1 a2 nd c2 (mkL k nu) (mkL (k + 3 * nu) nd) ∧ Below B w w' ∧ (∀ g, g < w.heap.size → (∀ b o s, a1 = some ⟨b, o, s⟩ → g ≠ b) → (∀ b o s, a2 = some ⟨b, o, s⟩ → g ≠ b) → w'.heap[g]? = w.heap[g]?) := by
  have hb := box_below w #[.slice a1 nu c1, .int .i64 s1, .int .i64 w1, .slice a2 nd c2, .int .i64 s2, .int .i64 w2, .int .i64 mn, .int .i64 mx] 46
  have hk0 := Ser2.cells_new w #[.slice a1 nu c1, .int .i64 s1, .int .i64 w1, .slice a2 nd c2, .int .i64 s2, .int .i64 w2, .int .i64 mn, .int .i64 mx] 46
  have hl1 := own_lt h.1
  have hl2 := own_lt h.2
  have hB1 := row_base h.1
  have hB2 := row_base h.2
  have HL1 := Lib.hid hl1
  have HL2 := Lib.hid hl2
  have HB1 := Lib.hid hB1
  have HB2 := Lib.hid hB2
  have HO1 := Lib.hid (OwnL.kept h.1 hb)
  have HO2 := Lib.hid (OwnL.kept h.2 hb)
  have HX := Lib.hid hb
  have HAP := Lib.hid hap
  have K0 : Hid (SdT.CW8 _ w.heap.size _ _ _ _ _ _ _ _) := hk0
  obtain ⟨q, hq⟩ : ∃ q, k + 3 * nu = q := ⟨_, rfl⟩
  have hc1 := fun W (h : OwnL W B (.slice a1 nu c1) us) => mark_side nu s1 w1 us hnu a1 c1 B k h0 (by omega) W h
  have hc2 := fun W (h : OwnL W B (.slice a2 nd c2) ds) => mark_side nd s2 w2 ds hnd a2 c2 B q (by omega) (by omega) W h
  rw [hq] at hc1 ⊢
  have HC1 := Lib.hid hc1
  have HC2 := Lib.hid hc2
  have HBB := Lib.hid hB
  clear h hb hk0 hl1 hl2 hB1 hB2 hap hc1 hc2 hq hB
  go_enter Tryz.func104, Tryz.ntmps104
  go_wp2_with fail
  refine (HC1.out _ HO1.out).mono ?_
  rintro e w3 ⟨rfl, ho, hw⟩
  have HR1 := Lib.hid ho
  have HR2 := Lib.hid (row_wo HO2.out hw HAP.out.symm)
  have K1 : Hid (SdT.CW8 w3 w.heap.size _ _ _ _ _ _ _ _) := cells_wo K0.out hw (fun b o s e => by have := HL1.out b o s e; omega)
  have HW1 := Lib.hid hw
  clear ho hw HO1 HO2 K0
  obtain ⟨⟨x0, x1, x2, x3, x4, x5, x6, x7⟩, -⟩ := K1.out.get
  go_wp2_with fail
  refine (HC2.out _ HR2.out).mono ?_
  rintro e w4 ⟨rfl, ho, hw⟩
  have HS1 := Lib.hid (row_wo HR1.out hw HAP.out)
  have HS2 := Lib.hid ho
  have HW2 := Lib.hid hw
  clear ho hw HR1 HR2 K1 x0 x1 x2 x3 x4 x5 x6 x7
  go_wp2
  go_ret
  refine ⟨rfl, ⟨HS1.out, HS2.out⟩, ?_, ?_⟩
  · have e1 := HX.out.size
    have e2 := HW1.out.size
    have b1 : Below B w _ := HX.out.mono HBB.out
    exact (b1.trans (HW1.out.below HB1.out (by have := HBB.out; omega))).trans (HW2.out.below HB2.out (by have := HBB.out; omega))
  · intro g hg g1 g2
    have e1 := HX.out.size
    have e2 := HW1.out.size
    rw [HW2.out.block g (by omega) g2, HW1.out.block g (by omega) g1, HX.out.block g hg]
/-! ### Setups. -/
def SRows (w : World) (B : Nat) (a0 : Option Addr) (ng c0 : Nat) (a1 : Option Addr) (nu c1 : Nat) (a2 : Option Addr) (nd c2 : Nat) (gs : List Gl) (us ds : List Pl) : Prop := OwnG w B (.slice a0 ng c0) gs ∧ BRows w B a1 nu c1 a2 nd c2 us ds
theorem gmark (ps : List Gl) (n : Nat) (hn : ps.length = n) (a : Option Addr) (cap B k : Nat) (h0 : 0 < k) (hk : k + 3 * n ≤ 100000000) (w : World) (h : OwnG w B (.slice a n cap) ps) :
    Calls Tryz.prog 103 #[.slice a n cap, .int .i64 k] w fun e w' => e = .returned (.int .i64 ((k + 3 * n : Nat) : Int)) ∧ OwnG w' B (.slice a n cap) (mkG k n) ∧ OnlyA a w w' := by
  subst hn
  exact mark_goals ps a cap B k h0 hk w h
set_option maxHeartbeats 1000000 in
theorem mark_setup (ng nu nd : Nat) (gs : List Gl) (us ds : List Pl) (hng : gs.length = ng) (hnu : us.length = nu) (hnd : ds.length = nd) (r1 r2 r3 s1 w1 s2 w2 mn mx : Int) (a0 : Option Addr) (c0 : Nat) (a1 : Option Addr) (c1 : Nat) (a2 : Option Addr) (c2 : Nat) (h01 : Apart a0 a1) (h02 : Apart a0 a2) (h12 : Apart a1 a2) (B k : Nat) (h0 : 0 < k) (hk : k + 3 * ng + 3 * nu + 3 * nd ≤ 100000000) (w : World) (hB : B ≤ w.heap.size) (h : SRows w B a0 ng c0 a1 nu c1 a2 nd c2 gs us ds) :
    Calls Tryz.prog 49 #[.agg #[.int .i64 r1, .int .i64 r2, .int .i64 r3, .slice a0 ng c0, .slice a1 nu c1, .int .i64 s1, .int .i64 w1, .slice a2 nd c2, .int .i64 s2, .int .i64 w2, .int .i64 mn, .int .i64 mx], .int .i64 k] w fun e w' => e = .returned (.int .i64 ((k + 3 * ng + 3 * nu + 3 * nd : Nat) : Int)) ∧ SRows w' B a0 ng c0 a1 nu c1 a2 nd c2 (mkG k ng) (mkL (k + 3 * ng) nu) (mkL (k + 3 * ng + 3 * nu) nd) ∧ Below B w w' ∧ (∀ g, g < w.heap.size → (∀ b o s, a0 = some ⟨b, o, s⟩ → g ≠ b) → (∀ b o s, a1 = some ⟨b, o, s⟩ → g ≠ b) → (∀ b o s, a2 = some ⟨b, o, s⟩ → g ≠ b) → w'.heap[g]? = w.heap[g]?) := by
  have hb := box_below w #[.int .i64 r1, .int .i64 r2, .int .i64 r3, .slice a0 ng c0, .slice a1 nu c1, .int .i64 s1, .int .i64 w1, .slice a2 nd c2, .int .i64 s2, .int .i64 w2, .int .i64 mn, .int .i64 mx] 48
  have hk0 := Ser2.cells_new w #[.int .i64 r1, .int .i64 r2, .int .i64 r3, .slice a0 ng c0, .slice a1 nu c1, .int .i64 s1, .int .i64 w1, .slice a2 nd c2, .int .i64 s2, .int .i64 w2, .int .i64 mn, .int .i64 mx] 48
  have HL0 := Lib.hid (own_lt h.1)
  have HL1 := Lib.hid (own_lt h.2.1)
  have HL2 := Lib.hid (own_lt h.2.2)
  have HB0 := Lib.hid (row_base h.1)
  have HO0 := Lib.hid (OwnG.kept h.1 hb)
  have HO1 := Lib.hid (OwnL.kept h.2.1 hb)
  have HO2 := Lib.hid (OwnL.kept h.2.2 hb)
  have HX := Lib.hid hb
  have H01 := Lib.hid h01
  have H02 := Lib.hid h02
  have K0 : Hid (CW12 _ w.heap.size _ _ _ _ _ _ _ _ _ _ _ _) := hk0
  obtain ⟨q, hq⟩ : ∃ q, k + 3 * ng = q := ⟨_, rfl⟩
  have hc0 := fun W (h : OwnG W B (.slice a0 ng c0) gs) => gmark gs ng hng a0 c0 B k h0 (by omega) W h
  have hc1 := fun W (hW : B ≤ W.heap.size) (h : BRows W B a1 nu c1 a2 nd c2 us ds) => mark_behave nu nd us ds hnu hnd s1 w1 s2 w2 mn mx a1 c1 a2 c2 h12 B q (by omega) (by omega) W hW h
  rw [hq] at hc0 ⊢
  have HC0 := Lib.hid hc0
  have HC1 := Lib.hid hc1
  have HBB := Lib.hid hB
  clear h hb hk0 h01 h02 h12 hc0 hc1 hq hB
  go_enter Tryz.func49, Tryz.ntmps49
  go_wp2_with fail
  refine (HC0.out _ HO0.out).mono ?_
  rintro e w3 ⟨rfl, ho, hwo⟩
  have hw := Wo.of_only hwo
  have HR0 := Lib.hid ho
  have HR1 := Lib.hid (row_wo HO1.out hw H01.out.symm)
  have HR2 := Lib.hid (row_wo HO2.out hw H02.out.symm)
  have K1 : Hid (CW12 w3 w.heap.size _ _ _ _ _ _ _ _ _ _ _ _) := cells_wo K0.out hw (fun b o s e => by have := HL0.out b o s e; omega)
  have HW1 := Lib.hid (hw.below HB0.out (by have := HX.out.size; have := HBB.out; omega))
  have HWO := Lib.hid hw
  have HZ1 := Lib.hid hw.size
  clear ho hw hwo HO0 HO1 HO2 K0
  obtain ⟨⟨x0, x1, x2, x3, x4, x5, x6, x7, x8, x9, x10, x11⟩, -⟩ := K1.out.get
  go_wp2_with fail
  refine (HC1.out _ (by have := HX.out.size; have := HBB.out; have := HZ1.out; omega) ⟨HR1.out, HR2.out⟩).mono ?_
  rintro e w4 ⟨rfl, ho, hw, hbl⟩
  have HS0 : Hid (OwnG w4 B (.slice a0 ng c0) (mkG k ng)) := row_two HR0.out (fun g hg h1 h2 => hbl g hg h1 h2) H01.out H02.out
  have HS1 := Lib.hid ho
  have HW2 := Lib.hid hw
  have HBL := Lib.hid hbl
  clear ho hw hbl HR0 HR1 HR2 K1 x0 x1 x2 x3 x4 x5 x6 x7 x8 x9 x10 x11
  go_wp2
  go_ret
  refine ⟨rfl, ⟨HS0.out, HS1.out⟩, ?_, ?_⟩
  · have b1 : Below B w _ := HX.out.mono HBB.out
    exact (b1.trans HW1.out).trans HW2.out
  · intro g hg g0 g1 g2
    have e1 := HX.out.size
    have e2 := HZ1.out
    rw [HBL.out g (by omega) g1 g2, HWO.out.block g (by omega) g0, HX.out.block g hg]
theorem cells_at {w w' : World} {g : Nat} {vs : List Value} (h : CellsW w g vs) (hz : w.heap.size ≤ w'.heap.size) (hb : w'.heap[g]? = w.heap[g]?) : CellsW w' g vs := by
  refine ⟨Nat.lt_of_lt_of_le h.1 hz, fun j hj => ⟨(World.cell?_of_block (w := w) hb).trans (h.2 j hj).1, ?_⟩⟩
  have hf := (h.2 j hj).2
  simp only [World.frozen?, hb] at hf ⊢
  exact hf
end Go.Proofs.YtgmdfkmmbcpikaaGreat.MkS

/- The marks of moves (out of those of notes). -/
namespace Go.Proofs.YtgmdfkmmbcpikaaGreat.MvM
open Go.RowKit Go.Deep
open Go.ChangeShapes Go.WideShapes
open Go.Proofs.YtgmdfkmmbcpikaaGreat.C1
open Go.Proofs.YtgmdfkmmbcpikaaGreat.C2
open Go.Proofs.YtgmdfkmmbcpikaaGreat.Smps
open Go.Proofs.YtgmdfkmmbcpikaaGreat.Mem
open Go.Proofs.YtgmdfkmmbcpikaaGreat.Ser
open Go.Proofs.YtgmdfkmmbcpikaaGreat.Nt (mkP mkP_len mkP_get halfP halfP_len halfP_set halfP_all halfP_none OnlyA onlyA_none onlyA_some)
open Go.Proofs.YtgmdfkmmbcpikaaGreat.Mv (OwnP)
open Go.Proofs.YtgmdfkmmbcpikaaGreat.Ser2 (encP_len zeroP take_set fill_len gf_set2 Off off_lt at2_grown)
set_option linter.unusedVariables false

set_option maxHeartbeats 1000000 in
set_option maxRecDepth 20000 in
theorem mark_points (ps : List Pt) (a : Option Addr) (cap B k : Nat) (h0 : 0 < k) (hk : k + 2 * ps.length ≤ 100000000) (w : World) (h : OwnP w B (.slice a ps.length cap) ps) :
    Calls Tryz.prog 53 #[.slice a ps.length cap, .int .i64 k] w fun e w' => e = .returned (.int .i64 ((k + 2 * ps.length : Nat) : Int)) ∧ OwnP w' B (.slice a ps.length cap) (mkP k ps.length) ∧ OnlyA a w w' := by
  rcases h.2 with ⟨hv, h0'⟩ | ⟨g, cap', cur, hv, _, _, _, _⟩
  · obtain rfl : ps = [] := List.length_eq_zero_iff.1 h0'
    simp only [List.length_nil, Value.slice.injEq] at hv
    obtain ⟨rfl, -, rfl⟩ := hv
    have HO := Lib.hid h
    clear h
    show Calls Tryz.prog 53 #[.slice none 0 0, .int .i64 k] w _
    go_enter Tryz.func53, Tryz.ntmps53
    go_wp2
    go_loop [1, 5] (fun v i => v = .int .i64 k ∧ i = .int .i64 0) (fun _ _ => 0)
    case atStart => exact ⟨rfl, rfl⟩
    case round =>
      obtain ⟨rfl, rfl⟩ := hrel
      go_wp2
      go_ret
      exact ⟨rfl, HO.out, onlyA_none _⟩
  · cases hv
    have HO0 := Lib.hid h
    clear h
    go_enter Tryz.func53, Tryz.ntmps53
    go_wp2
    go_loopw [1, 5] (fun vk vi wr => ∃ (i m : Nat), vi = .int .i64 i ∧ vk = .int .i64 m ∧ Hid (m = k + 2 * i) ∧ m ≤ 100000000 - 2 * (ps.length - i) ∧ i ≤ ps.length ∧ Hid (OwnP wr B (.slice (some ⟨g, 0, none⟩) ps.length cap) (halfP k ps i)) ∧ Hid (Only g w wr)) (fun _ vi _ => ps.length - (intOf vi).toNat)
    case atStart => exact ⟨0, k, rfl, rfl, by show _ = _; omega, by omega, Nat.zero_le _, by rw [halfP_none]; exact HO0.out, Only.refl _ _⟩
    case round =>
      obtain ⟨i, m, rfl, rfl, HM, hmb, hi, HO, HL⟩ := hrel
      by_cases hlt : i < ps.length
      · obtain ⟨m1, e1⟩ : ∃ x : Nat, (m : Int) + 1 = (x : Int) := ⟨m + 1, by omega⟩
        obtain ⟨m2, e2⟩ : ∃ x : Nat, (m1 : Int) + 1 = (x : Int) := ⟨m + 2, by omega⟩
        have hhl := halfP_len k ps i hi
        obtain ⟨p0, p1⟩ := HO.out.at2 i (by omega)
        have f0 := HO.out.frozen (i * 2)
        have f1 := HO.out.frozen (i * 2 + 1)
        have HN : Hid (OwnP ((wr.setCell ⟨g, i * 2, none⟩ (.int .i64 (m : Int))).setCell ⟨g, i * 2 + 1, none⟩ (.int .i64 (m1 : Int))) B (.slice (some ⟨g, 0, none⟩) ps.length cap) (halfP k ps (i + 1))) := by
          have hp := HO.out.put i (by omega) ⟨(m : Int), (m1 : Int)⟩
          have hs := halfP_set k ps i hlt
          have em : m = k + 2 * i := HM.out
          have em1 : m1 = k + 2 * i + 1 := by omega
          rw [← em1, ← em] at hs
          rw [hs] at hp
          exact hp
        have HL2 := Lib.hid ((HL.out.setCell (i * 2) (.int .i64 (m : Int))).setCell (i * 2 + 1) (.int .i64 (m1 : Int)))
        go_wp2
        go_roundw
        case rel => exact ⟨i + 1, m2, by go_num, by first | rfl | go_num, by show _ = _; have := HM.out; omega, by omega, by omega, HN, HL2⟩
        case measure => simp [intOf]; omega
      · obtain rfl : i = ps.length := by omega
        have HF : Hid (OwnP wr B (.slice (some ⟨g, 0, none⟩) ps.length cap) (mkP k ps.length)) := by
          have := HO.out
          rw [halfP_all] at this
          exact this
        clear HO
        go_wp2
        go_ret
        exact ⟨ret1I (by have := HM.out; omega), HF.out, onlyA_some HL.out⟩
end Go.Proofs.YtgmdfkmmbcpikaaGreat.MvM

/- laws.markHerd at a copy of the argument: what is written lies in the herd's own blocks. -/
namespace Go.Proofs.YtgmdfkmmbcpikaaGreat.MkH
open Go.RowKit Go.Deep
open Go.Proofs.YtgmdfkmmbcpikaaGreat.C1
open Go.Proofs.YtgmdfkmmbcpikaaGreat.C2
open Go.Proofs.YtgmdfkmmbcpikaaGreat.Smps
open Go.Proofs.YtgmdfkmmbcpikaaGreat.Mem
open Go.Proofs.YtgmdfkmmbcpikaaGreat.Ser
open Go.Proofs.YtgmdfkmmbcpikaaGreat.Ser2 (cells_new OwnR)
open Go.Proofs.YtgmdfkmmbcpikaaGreat.Pd
open Go.Proofs.YtgmdfkmmbcpikaaGreat.Pds
open Go.Proofs.YtgmdfkmmbcpikaaGreat.Gl
open Go.Proofs.YtgmdfkmmbcpikaaGreat.Gls
open Go.Proofs.YtgmdfkmmbcpikaaGreat.Pl
open Go.Proofs.YtgmdfkmmbcpikaaGreat.Set
open Go.Proofs.YtgmdfkmmbcpikaaGreat.To
open Go.Proofs.YtgmdfkmmbcpikaaGreat.Hd
open Go.Proofs.YtgmdfkmmbcpikaaGreat.MkS
open Go.Proofs.YtgmdfkmmbcpikaaGreat.MarkS (Within rem)
set_option linter.unusedVariables false

theorem cells_up {L g : Nat} {w w' : World} {vs : List Value} (h : CellsW w g vs) (hL : L ≤ g) (hu : Upper L w w') : CellsW w' g vs := by
  have hb := hu.block g hL h.1
  refine ⟨Nat.lt_of_lt_of_le h.1 hu.size, fun j hj => ⟨(World.cell?_of_block (w := w) hb).trans (h.2 j hj).1, ?_⟩⟩
  have hf := (h.2 j hj).2
  simp only [World.frozen?, hb] at hf ⊢
  exact hf
theorem Upper.weak {L L' : Nat} {w w' : World} (h : Upper L w w') (hL : L ≤ L') : Upper L' w w' := ⟨h.size, fun k hk hs => h.block k (Nat.le_trans hL hk) hs⟩
theorem up_only {L g : Nat} {w w' : World} (h : Only g w w') (hg : g < L) : Upper L w w' := ⟨h.size, fun k hk hs => h.block k hs (by omega)⟩
theorem up_onlyN {L g : Nat} {w w' : World} (h : Nt.OnlyA (some ⟨g, 0, none⟩) w w') (hg : g < L) : Upper L w w' := up_only (h.2 g 0 none rfl) hg
theorem up_onlyM {L g : Nat} {w w' : World} (h : Nt.OnlyA (some ⟨g, 0, none⟩) w w') (hg : g < L) : Upper L w w' := up_only (h.2 g 0 none rfl) hg
theorem up_within {B C : Nat} {w w' : World} (h : Within B C w w') : Upper C w w' := ⟨h.size, fun k hk hs => h.block k hs (.inr hk)⟩
theorem below_within {B C : Nat} {w w' : World} (h : Within B C w w') (hB : B ≤ w.heap.size) : Below B w w' := ⟨h.os, h.tape, h.output, h.size, fun k hk => h.block k (by omega) (.inl hk)⟩
theorem rem_len {ss : List Ser} {ms : List Sv} (h : ms.map Sv.s = ss) : ms.length = ss.length := by have := congrArg List.length h; simpa using this
theorem mark_store (ss : List Ser) (ms : List Sv) (hs : ms.map Sv.s = ss) (g B C k : Nat) (h0 : 0 < k) (hk : k ≤ 50000000) (hrem : remS ss ≤ 4194304) (hm : ss.length ≤ 1048576) (w : World) (ho : OwnR w B (.slice (some ⟨g, 0, none⟩) ss.length ss.length) ms) (hg : Ser2.Good w B g ms)
    (hgC : g < C) (hlC : ∀ l ∈ ms, ∀ b o s, l.a = some ⟨b, o, s⟩ → b < C) (hBw : B ≤ w.heap.size) :
    Calls Tryz.prog 51 #[.slice (some ⟨g, 0, none⟩) ss.length ss.length, .int .i64 k] w fun e w' => ∃ m : Nat, e = .returned (.int .i64 ((k + m : Nat) : Int)) ∧ m ≤ 4194304 ∧ Within B C w w' := by
  subst hs
  rw [List.length_map] at *
  have hr := rem_eq ms
  refine (MarkT.mark_series3 ms g ms.length B C k h0 (by omega) w ho hg hgC hlC hBw (by omega)).mono ?_
  rintro e w' ⟨_, he, _, _, _, hw⟩
  exact ⟨_, he, by omega, hw⟩
set_option maxHeartbeats 4000000 in
set_option maxRecDepth 20000 in
theorem mark_herd (h : Hd) (hs : h.small) (A : Ad) (B T1 T2 T3 T4 T5 C : Nat) (w : World) (k : HdOwn w B h A T1 T2 T3 T4 T5) (hcap : A.c4 = h.ss.length) (hC : T5 ≤ C) (hCw : C ≤ w.heap.size) :
    Calls Tryz.prog 14 #[hdV h A, .int .i64 1] w fun e w' => ∃ m : Nat, e = .returned (.int .i64 m) ∧ Below B w w' ∧ Upper C w w' := by
  obtain ⟨a0, c0, a1, c1, a2, c2, a3, c3, a4, c4, a5, c5, a6, c6⟩ := A
  obtain ⟨g, u, d, ⟨g0, g1, g2, e0, e1, e2, l01, l12, l2⟩, p, ⟨g3, e3, l3⟩, ⟨g4, ls, e4, els, so, sg, l4, sl⟩, n, ⟨g5, e5, l5⟩, m, ⟨g6, e6, l6⟩, ⟨o1, o2, o3, o4, o5, o6⟩⟩ := k
  simp only at g u d e0 e1 e2 p e3 e4 so n e5 m e6 hcap
  subst e0 e1 e2 e3 e4 e5 e6 hcap
  have b0 := own_base g _ _ _ rfl
  have b3 := own_base p _ _ _ rfl
  have b5 := own_base n _ _ _ rfl
  have b6 := own_base m _ _ _ rfl
  obtain ⟨s1, s2, s3, -⟩ := hs.st
  have s4 := hs.ps
  have s5 := hs.ss
  have s6 := hs.rm
  have s7 := hs.ns
  have s8 := hs.ms
  clear hs
  have hb := box_below w #[.int .i64 h.st.rl.dl, .int .i64 h.st.rl.fr, .int .i64 h.st.rl.wi, .slice (some ⟨g0, 0, none⟩) h.st.gs.length c0, .slice (some ⟨g1, 0, none⟩) h.st.bh.up.ps.length c1, .int .i64 h.st.bh.up.sel, .int .i64 h.st.bh.up.win, .slice (some ⟨g2, 0, none⟩) h.st.bh.dn.ps.length c2, .int .i64 h.st.bh.dn.sel, .int .i64 h.st.bh.dn.win, .int .i64 h.st.bh.mn, .int .i64 h.st.bh.mx, .int .i64 h.now, .int .i64 h.cnt, .int .i64 h.rev, .slice (some ⟨g3, 0, none⟩) h.ps.length c3, .slice (some ⟨g4, 0, none⟩) h.ss.length h.ss.length, .slice (some ⟨g5, 0, none⟩) h.ns.length c5, .slice (some ⟨g6, 0, none⟩) h.ms.length c6, .int .i64 h.cnd, .int .i64 h.flt] 54
  have hk := cells_new w #[.int .i64 h.st.rl.dl, .int .i64 h.st.rl.fr, .int .i64 h.st.rl.wi, .slice (some ⟨g0, 0, none⟩) h.st.gs.length c0, .slice (some ⟨g1, 0, none⟩) h.st.bh.up.ps.length c1, .int .i64 h.st.bh.up.sel, .int .i64 h.st.bh.up.win, .slice (some ⟨g2, 0, none⟩) h.st.bh.dn.ps.length c2, .int .i64 h.st.bh.dn.sel, .int .i64 h.st.bh.dn.win, .int .i64 h.st.bh.mn, .int .i64 h.st.bh.mx, .int .i64 h.now, .int .i64 h.cnt, .int .i64 h.rev, .slice (some ⟨g3, 0, none⟩) h.ps.length c3, .slice (some ⟨g4, 0, none⟩) h.ss.length h.ss.length, .slice (some ⟨g5, 0, none⟩) h.ns.length c5, .slice (some ⟨g6, 0, none⟩) h.ms.length c6, .int .i64 h.cnd, .int .i64 h.flt] 54
  have HSR : Hid (SRows _ B (some ⟨g0, 0, none⟩) h.st.gs.length c0 (some ⟨g1, 0, none⟩) h.st.bh.up.ps.length c1 (some ⟨g2, 0, none⟩) h.st.bh.dn.ps.length c2 h.st.gs h.st.bh.up.ps h.st.bh.dn.ps) := ⟨row_kept g hb, row_kept u hb, row_kept d hb⟩
  have HP := Lib.hid (row_kept p hb)
  have HS := Lib.hid (row_kept so hb)
  have HG := Lib.hid (sg.kept hb)
  have HN := Lib.hid (row_kept n hb)
  have HM := Lib.hid (row_kept m hb)
  have HB := Lib.hid (hb.mono (show B ≤ w.heap.size by omega))
  have HU : Hid (Upper C w _) := Lib.hid ((Upper.refl C w).below hb)
  have K0 : Hid (CW21 _ w.heap.size _ _ _ _ _ _ _ _ _ _ _ _ _ _ _ _ _ _ _ _ _) := hk
  have hz := hb.size
  have hzz : ∃ z : Nat, z = w.heap.size := ⟨_, rfl⟩
  dsimp only [hdV]
  clear hb hk g u d p so sg n m
  go_enter Tryz.func14, Tryz.ntmps14
  go_wp2_with fail
  refine (mark_setup h.st.gs.length h.st.bh.up.ps.length h.st.bh.dn.ps.length h.st.gs h.st.bh.up.ps h.st.bh.dn.ps rfl rfl rfl _ _ _ _ _ _ _ _ _ (some ⟨g0, 0, none⟩) c0 (some ⟨g1, 0, none⟩) c1 (some ⟨g2, 0, none⟩) c2 (fun b o s b' o' s' e e' => by cases e; cases e'; omega) (fun b o s b' o' s' e e' => by cases e; cases e'; omega) (fun b o s b' o' s' e e' => by cases e; cases e'; omega) B 1 (by omega) (by omega) _ (by omega) HSR.out).mono ?_
  rintro e w1 ⟨rfl, -, hb, hfr⟩
  have hu : Upper T1 _ w1 := ⟨hb.size, fun k hk hs => hfr k hs (fun b o s e => by cases e; omega) (fun b o s e => by cases e; omega) (fun b o s e => by cases e; omega)⟩
  obtain ⟨q1, hq1, hq1b⟩ : ∃ q : Nat, 1 + 3 * h.st.gs.length + 3 * h.st.bh.up.ps.length + 3 * h.st.bh.dn.ps.length = q ∧ 0 < q ∧ q ≤ 10000000 := ⟨_, rfl, by omega, by omega⟩
  rw [hq1]
  obtain ⟨hq1b, hq1c⟩ := hq1b
  clear hfr hq1
  have K0n : Hid (CW21 _ w.heap.size _ _ _ _ _ _ _ _ _ _ _ _ _ _ _ _ _ _ _ _ _) := cells_up K0.out (by omega) hu
  have HPn := Lib.hid (row_up HP.out (by omega) hu)
  have HSn := Lib.hid (row_up HS.out (by omega) hu)
  have HGn := Lib.hid (good_up HG.out (by omega) hu)
  have HNn := Lib.hid (row_up HN.out (by omega) hu)
  have HMn := Lib.hid (row_up HM.out (by omega) hu)
  have HBn := Lib.hid (HB.out.trans hb)
  have HUn := Lib.hid (HU.out.trans (Upper.weak hu (by omega)))
  have hzn := hu.size
  clear K0 HB HU hb hu HP HS HG HN HM
  have K0 := K0n
  clear K0n
  have HB := HBn
  clear HBn
  have HU := HUn
  clear HUn
  have HP := HPn
  clear HPn
  have HS := HSn
  clear HSn
  have HG := HGn
  clear HGn
  have HN := HNn
  clear HNn
  have HM := HMn
  clear HMn
  obtain ⟨⟨p0, p1, p2, p3, p4, p5, p6, p7, p8, p9, p10, p11, p12, p13, p14, p15, p16, p17, p18, p19, p20⟩, -⟩ := K0.out.get
  go_wp2_with fail
  refine (MarkP.mark_pods h.ps.length g3 c3 q1 hq1b (by omega) (flatP h.ps) (by rw [flatP_len]; omega) w1 (MarkP.cells_own HP.out rfl)).mono ?_
  rintro e w2 ⟨rfl, ho⟩
  have hb := Only.below ho b3 (show T1 ≤ w1.heap.size by omega)
  have hb := hb.mono o1
  have hu := up_only ho l3
  obtain ⟨q2, hq2, hq2b, hq2c⟩ : ∃ q : Nat, q1 + 4 * h.ps.length = q ∧ 0 < q ∧ q ≤ 20000000 := ⟨_, rfl, by omega, by omega⟩
  rw [hq2]
  clear ho hq2 HP p0 p1 p2 p3 p4 p5 p6 p7 p8 p9 p10 p11 p12 p13 p14 p15 p16 p17 p18 p19 p20
  have K0n : Hid (CW21 _ w.heap.size _ _ _ _ _ _ _ _ _ _ _ _ _ _ _ _ _ _ _ _ _) := cells_up K0.out (by omega) hu
  have HSn := Lib.hid (row_up HS.out (by omega) hu)
  have HGn := Lib.hid (good_up HG.out (by omega) hu)
  have HNn := Lib.hid (row_up HN.out (by omega) hu)
  have HMn := Lib.hid (row_up HM.out (by omega) hu)
  have HBn := Lib.hid (HB.out.trans hb)
  have HUn := Lib.hid (HU.out.trans (Upper.weak hu (by omega)))
  have hzn := hu.size
  clear K0 HB HU hb hu HS HG HN HM
  have K0 := K0n
  clear K0n
  have HB := HBn
  clear HBn
  have HU := HUn
  clear HUn
  have HS := HSn
  clear HSn
  have HG := HGn
  clear HGn
  have HN := HNn
  clear HNn
  have HM := HMn
  clear HMn
  obtain ⟨⟨p0, p1, p2, p3, p4, p5, p6, p7, p8, p9, p10, p11, p12, p13, p14, p15, p16, p17, p18, p19, p20⟩, -⟩ := K0.out.get
  go_wp2_with fail
  refine (mark_store h.ss ls els g4 T2 T3 q2 hq2b (by omega) s6 s5 w2 HS.out HG.out l4 sl (by omega)).mono ?_
  rintro e w3 ⟨m3, rfl, hm3, ho⟩
  have hb := (below_within ho (show T2 ≤ w2.heap.size by omega)).mono (show B ≤ T2 by omega)
  have hu := up_within ho
  obtain ⟨q3, hq3, hq3b, hq3c⟩ : ∃ q : Nat, q2 + m3 = q ∧ 0 < q ∧ q ≤ 30000000 := ⟨_, rfl, by omega, by omega⟩
  rw [hq3]
  clear ho hq3 HS HG p0 p1 p2 p3 p4 p5 p6 p7 p8 p9 p10 p11 p12 p13 p14 p15 p16 p17 p18 p19 p20
  have K0n : Hid (CW21 _ w.heap.size _ _ _ _ _ _ _ _ _ _ _ _ _ _ _ _ _ _ _ _ _) := cells_up K0.out (by omega) hu
  have HNn := Lib.hid (row_up HN.out (by omega) hu)
  have HMn := Lib.hid (row_up HM.out (by omega) hu)
  have HBn := Lib.hid (HB.out.trans hb)
  have HUn := Lib.hid (HU.out.trans (Upper.weak hu (by omega)))
  have hzn := hu.size
  clear K0 HB HU hb hu HN HM
  have K0 := K0n
  clear K0n
  have HB := HBn
  clear HBn
  have HU := HUn
  clear HUn
  have HN := HNn
  clear HNn
  have HM := HMn
  clear HMn
  obtain ⟨⟨p0, p1, p2, p3, p4, p5, p6, p7, p8, p9, p10, p11, p12, p13, p14, p15, p16, p17, p18, p19, p20⟩, -⟩ := K0.out.get
  go_wp2_with fail
  refine (Nt.mark_points h.ns (some ⟨g5, 0, none⟩) c5 T3 q3 hq3b (by omega) w3 HN.out).mono ?_
  rintro e w4 ⟨rfl, -, ho⟩
  have hb := (Only.below (ho.2 g5 0 none rfl) b5 (show T3 ≤ w3.heap.size by omega)).mono (show B ≤ T3 by omega)
  have hu := up_onlyN ho l5
  obtain ⟨q4, hq4, hq4b, hq4c⟩ : ∃ q : Nat, q3 + 2 * h.ns.length = q ∧ 0 < q ∧ q ≤ 40000000 := ⟨_, rfl, by omega, by omega⟩
  rw [hq4]
  clear ho hq4 HN p0 p1 p2 p3 p4 p5 p6 p7 p8 p9 p10 p11 p12 p13 p14 p15 p16 p17 p18 p19 p20
  have K0n : Hid (CW21 _ w.heap.size _ _ _ _ _ _ _ _ _ _ _ _ _ _ _ _ _ _ _ _ _) := cells_up K0.out (by omega) hu
  have HMn := Lib.hid (row_up HM.out (by omega) hu)
  have HBn := Lib.hid (HB.out.trans hb)
  have HUn := Lib.hid (HU.out.trans (Upper.weak hu (by omega)))
  have hzn := hu.size
  clear K0 HB HU hb hu HM
  have K0 := K0n
  clear K0n
  have HB := HBn
  clear HBn
  have HU := HUn
  clear HUn
  have HM := HMn
  clear HMn
  obtain ⟨⟨p0, p1, p2, p3, p4, p5, p6, p7, p8, p9, p10, p11, p12, p13, p14, p15, p16, p17, p18, p19, p20⟩, -⟩ := K0.out.get
  go_wp2_with fail
  refine (MvM.mark_points h.ms (some ⟨g6, 0, none⟩) c6 T4 q4 hq4b (by omega) w4 HM.out).mono ?_
  rintro e w5 ⟨rfl, -, ho⟩
  have hb := (Only.below (ho.2 g6 0 none rfl) b6 (show T4 ≤ w4.heap.size by omega)).mono (show B ≤ T4 by omega)
  have hu := up_onlyM ho l6
  have HBn := Lib.hid (HB.out.trans hb)
  have HUn := Lib.hid (HU.out.trans (Upper.weak hu hC))
  clear ho HM p0 p1 p2 p3 p4 p5 p6 p7 p8 p9 p10 p11 p12 p13 p14 p15 p16 p17 p18 p19 p20 hb hu HB HU
  go_wp2
  go_ret
  exact ⟨_, rfl, HBn.out, HUn.out⟩
end Go.Proofs.YtgmdfkmmbcpikaaGreat.MkH
