/- For every input that can be read, the Go function laws.FnBounds returns true and leaves its arguments as they read: the statement Rows.FnBoundsSaid, without a condition of ours. -/
import Derived.Test.YtcjjdnfikccnmaaRows
import Derived.WalkKit
import Derived.ProofKit
import Derived.OpenShut
import Derived.ShutString
import Derived.ChangeOld
import Derived.Below
import Derived.Test.YtcjjdnfikccnmaaC1
import Derived.Test.YtcjjdnfikccnmaaInts
import Derived.Test.YtcjjdnfikccnmaaC2
import Derived.Test.YtcjjdnfikccnmaaSmps
import Derived.Test.YtcjjdnfikccnmaaMem
import Derived.Test.YtcjjdnfikccnmaaSer
import Derived.Test.YtcjjdnfikccnmaaSer2
import Derived.Test.YtcjjdnfikccnmaaNt
import Derived.Test.YtcjjdnfikccnmaaMv
import Derived.Test.YtcjjdnfikccnmaaPl
import Derived.Test.YtcjjdnfikccnmaaBhM
import Derived.Test.YtcjjdnfikccnmaaLogS
import Derived.Test.YtcjjdnfikccnmaaBhI
import Derived.Test.YtcjjdnfikccnmaaLogI
import Derived.Test.YtcjjdnfikccnmaaSdS
import Derived.Test.YtcjjdnfikccnmaaSdI
import Derived.Test.YtcjjdnfikccnmaaSdT
import Derived.Test.YtcjjdnfikccnmaaItr
import Derived.Test.YtcjjdnfikccnmaaTail
import Derived.Test.YtcjjdnfikccnmaaWin
import Derived.Test.YtcjjdnfikccnmaaExt
import Derived.Test.YtcjjdnfikccnmaaCons
import Derived.Test.YtcjjdnfikccnmaaStd
import Derived.Test.YtcjjdnfikccnmaaMvd
import Derived.Test.YtcjjdnfikccnmaaBndS
import Derived.Test.YtcjjdnfikccnmaaBndD
import Derived.Test.YtcjjdnfikccnmaaBndI
import Derived.Test.YtcjjdnfikccnmaaBndJ
import Derived.Test.YtcjjdnfikccnmaaBndU
import Derived.Test.YtcjjdnfikccnmaaLimS
import Derived.Test.YtcjjdnfikccnmaaLimI
import Derived.Test.YtcjjdnfikccnmaaDec
import Derived.Test.YtcjjdnfikccnmaaLaw6
import Derived.Test.YtcjjdnfikccnmaaDraw
import Derived.Test.YtcjjdnfikccnmaaDraw1
import Derived.Test.YtcjjdnfikccnmaaEx
import Derived.Test.YtcjjdnfikccnmaaDrw
import Derived.Test.YtcjjdnfikccnmaaDraw6
import Derived.Test.YtcjjdnfikccnmaaDraw6N
import Derived.Test.YtcjjdnfikccnmaaDraw6S
namespace Go.Proofs.Ytcjjdnfikccnmaa.fnBounds
open Go.ChangeShapes Go.WideShapes Go.ChangeAt Go.RowKit
open Go.ChangeMaps (open_string shut_string)
open Go.Proofs.Ytcjjdnfikccnmaa.C1
open Go.Proofs.Ytcjjdnfikccnmaa.Ints
open Go.Proofs.Ytcjjdnfikccnmaa.C2
open Go.Proofs.Ytcjjdnfikccnmaa.Smps
open Go.Proofs.Ytcjjdnfikccnmaa.Mem
open Go.Proofs.Ytcjjdnfikccnmaa.Ser
open Go.Proofs.Ytcjjdnfikccnmaa.Ser2
open Go.Proofs.Ytcjjdnfikccnmaa.Nt
open Go.Proofs.Ytcjjdnfikccnmaa.Mv
open Go.Proofs.Ytcjjdnfikccnmaa.Pl
open Go.Proofs.Ytcjjdnfikccnmaa.BhM
open Go.Proofs.Ytcjjdnfikccnmaa.LogS
open Go.Proofs.Ytcjjdnfikccnmaa.BhI
open Go.Proofs.Ytcjjdnfikccnmaa.LogI
open Go.Proofs.Ytcjjdnfikccnmaa.SdS
open Go.Proofs.Ytcjjdnfikccnmaa.SdI
open Go.Proofs.Ytcjjdnfikccnmaa.SdT
open Go.Proofs.Ytcjjdnfikccnmaa.Itr
open Go.Proofs.Ytcjjdnfikccnmaa.Tail
open Go.Proofs.Ytcjjdnfikccnmaa.Win
open Go.Proofs.Ytcjjdnfikccnmaa.Ext
open Go.Proofs.Ytcjjdnfikccnmaa.Cons
open Go.Proofs.Ytcjjdnfikccnmaa.Std
open Go.Proofs.Ytcjjdnfikccnmaa.Mvd
open Go.Proofs.Ytcjjdnfikccnmaa.BndS
open Go.Proofs.Ytcjjdnfikccnmaa.BndD
open Go.Proofs.Ytcjjdnfikccnmaa.BndI
open Go.Proofs.Ytcjjdnfikccnmaa.BndJ
open Go.Proofs.Ytcjjdnfikccnmaa.BndU
open Go.Proofs.Ytcjjdnfikccnmaa.LimS
open Go.Proofs.Ytcjjdnfikccnmaa.LimI
open Go.Proofs.Ytcjjdnfikccnmaa.Dec
open Go.Proofs.Ytcjjdnfikccnmaa.Law6
open Go.Proofs.Ytcjjdnfikccnmaa.Draw
open Go.Proofs.Ytcjjdnfikccnmaa.Draw1
open Go.Proofs.Ytcjjdnfikccnmaa.Ex
open Go.Proofs.Ytcjjdnfikccnmaa.Drw
open Go.Proofs.Ytcjjdnfikccnmaa.Draw6
open Go.Proofs.Ytcjjdnfikccnmaa.Draw6N
open Go.Proofs.Ytcjjdnfikccnmaa.Draw6S
set_option linter.unusedVariables false

theorem own : ownKnob Try.prog.godebug = none := by kernel_rfl
theorem laidOut : laidOutB Try.prog = true := by kernel_rfl
def IsRow (k : IntKind) (w : World) (a : Option Addr) (len cap : Nat) (zs : List Int) : Prop :=
  (a = none ∧ len = 0 ∧ cap = 0 ∧ zs = []) ∨
  ∃ x, a = some x ∧ len ≤ cap ∧ cap ≤ maxLen ∧ zs.length = cap ∧ (∀ i, i < zs.length → w.cell? (x.add i) = some (.int k (zs.getD i 0))) ∧ ∀ n ∈ zs, (Lit.int k n).wf = true
set_option maxHeartbeats 4000000 in
set_option maxRecDepth 100000 in
theorem walk (a0 : Option Addr) (len0 cap0 : Nat) (z0 : List Int) (w : World) (w0 : IsRow .u8 w a0 len0 cap0 z0)  :
    Calls Try.prog 4 #[.slice a0 len0 cap0] w fun e w' => e = .returned (.bool true) ∧ Below w.heap.size w w' := by
  have hby := of_row_bytes w0
  by_cases hbig : 1048576 < len0
  · go_enter Try.func4, Try.ntmps4
    go_wp2
    go_ret
    exact ⟨rfl, Below.refl _ _⟩
  · have Hb := Lib.hid hby
    have hlen : len0 ≤ 1048576 := by omega
    have hlen2 : len0 ≤ 2097152 := by omega
    clear hby w0 hbig
    go_enter Try.func4, Try.ntmps4
    go_wp2_with (first | (go_at_call 8; refine (big_no _ _ _ _ hlen).mono ?_; rintro e w' ⟨rfl, rfl⟩))
    refine (draw_decide _ _ _ _ Hb.out hlen2).mono ?_
    rintro e w1 ⟨b, a1, c1, a2, c2, ns, a3, c3, ms, a4, c4, now, count, want, ⟨l1, l2, l3, l4⟩, hU, hV, hN, hM, rfl, hB1⟩
    unfold Pl.bhV
    have HB1 := Lib.hid hB1
    clear Hb hB1
    have m1 : b.up.ps.length ≤ 1048576 := by omega
    have m2 : b.dn.ps.length ≤ 1048576 := by omega
    have m3 : ns.length ≤ 1048576 := by omega
    have m4 : ms.length ≤ 1048576 := by omega
    have hci := fun W h1 h2 h3 h4 => impl_decide b a1 c1 a2 c2 ns a3 c3 ms a4 c4 now count want W h1 h2 h3 h4 m1 m2 m3 m4
    have hcs := fun W h1 h2 h3 h4 => spec_decide b a1 c1 a2 c2 ns a3 c3 ms a4 c4 now count want W h1 h2 h3 h4 m1 m2 m3 m4
    have hui := fun W h1 h2 => impl_up b.up a1 c1 ms a4 c4 now count W h1 h2 m1 m4
    have hus := fun W h1 h2 => spec_up b.up a1 c1 ms a4 c4 now count W h1 h2 m1 m4
    have hdi := fun W h1 h2 => impl_dn b.dn a2 c2 ms a4 c4 now count W h1 h2 m2 m4
    have hds := fun W h1 h2 => spec_dn b.dn a2 c2 ms a4 c4 now count W h1 h2 m2 m4
    have hlaw := Law6.bounds_law b ns ms now count want
    obtain ⟨v, hv⟩ : ∃ v, decideV b ns ms now count want = v := ⟨_, rfl⟩
    obtain ⟨p, hp⟩ : ∃ v, upV b.up ms now count = v := ⟨_, rfl⟩
    obtain ⟨d, hd⟩ : ∃ v, dnV b.dn ms now count = v := ⟨_, rfl⟩
    rw [hv, hp, hd] at hlaw
    simp only [hv] at hci hcs
    simp only [hp] at hui hus
    simp only [hd] at hdi hds
    unfold Pl.bhV at hci hcs
    (try unfold Pl.sdV at hui)
    (try unfold Pl.sdV at hus)
    (try unfold Pl.sdV at hdi)
    (try unfold Pl.sdV at hds)
    have hvv : (v != v) = false := by simp
    have hpp : (p != p) = false := by simp
    have hdd : (d != d) = false := by simp
    have HCI := Lib.hid hci
    have HCS := Lib.hid hcs
    have HUI := Lib.hid hui
    have HUS := Lib.hid hus
    have HDI := Lib.hid hdi
    have HDS := Lib.hid hds
    have HLW := Lib.hid hlaw
    have HU := Lib.hid hU
    have HV := Lib.hid hV
    have HN := Lib.hid hN
    have HM := Lib.hid hM
    have K_0 := Lib.hid (Ser2.cells_new w1 #[.slice a1 b.up.ps.length c1, .int .i64 b.up.sel, .int .i64 b.up.win, .slice a2 b.dn.ps.length c2, .int .i64 b.dn.sel, .int .i64 b.dn.win, .int .i64 b.mn, .int .i64 b.mx] 28)
    have HW_0 := Lib.hid (show Below w1.heap.size w1 (w1.alloc (.cells #[.slice a1 b.up.ps.length c1, .int .i64 b.up.sel, .int .i64 b.up.win, .slice a2 b.dn.ps.length c2, .int .i64 b.dn.sel, .int .i64 b.dn.win, .int .i64 b.mn, .int .i64 b.mx] 28)) from (Below.refl _ _).alloc (Nat.le_refl _) _)
    obtain ⟨W0, hW0⟩ : ∃ W0, w1.alloc (.cells #[.slice a1 b.up.ps.length c1, .int .i64 b.up.sel, .int .i64 b.up.win, .slice a2 b.dn.ps.length c2, .int .i64 b.dn.sel, .int .i64 b.dn.win, .int .i64 b.mn, .int .i64 b.mx] 28) = W0 := ⟨_, rfl⟩
    obtain ⟨G, hG⟩ : ∃ G, w1.heap.size = G := ⟨_, rfl⟩
    rw [hW0] at K_0 HW_0
    rw [hG] at K_0
    have HWE := Lib.hid hW0
    have HG := Lib.hid hG
    clear hci hcs hui hus hdi hds hlaw hv hp hd hU hV hN hM hW0 hG
    go_wp2_with fail
    rw [HWE.out]
    refine (HCI.out _ (HU.out.kept HW_0.out) (HV.out.kept HW_0.out) (HN.out.kept HW_0.out) (HM.out.kept HW_0.out)).mono ?_
    rintro e w2 ⟨rfl, hb⟩
    have K_1 := Lib.hid (K_0.out.kept hb)
    have HW_1 := Lib.hid (HW_0.out.trans (hb.mono HW_0.out.size))
    clear hb K_0 HW_0 HWE
    rw [HG.out]
    obtain ⟨x0, fx0⟩ := K_1.out.2 0 (by simp)
    obtain ⟨x1, fx1⟩ := K_1.out.2 1 (by simp)
    obtain ⟨x2, fx2⟩ := K_1.out.2 2 (by simp)
    obtain ⟨x3, fx3⟩ := K_1.out.2 3 (by simp)
    obtain ⟨x4, fx4⟩ := K_1.out.2 4 (by simp)
    obtain ⟨x5, fx5⟩ := K_1.out.2 5 (by simp)
    obtain ⟨x6, fx6⟩ := K_1.out.2 6 (by simp)
    obtain ⟨x7, fx7⟩ := K_1.out.2 7 (by simp)
    simp only [List.getElem_cons_zero, List.getElem_cons_succ] at x0 x1 x2 x3 x4 x5 x6 x7
    go_wp2_with fail
    refine (HCS.out _ (HU.out.kept HW_1.out) (HV.out.kept HW_1.out) (HN.out.kept HW_1.out) (HM.out.kept HW_1.out)).mono ?_
    rintro e w3 ⟨rfl, hb⟩
    have K_2 := Lib.hid (K_1.out.kept hb)
    have HW_2 := Lib.hid (HW_1.out.trans (hb.mono HW_1.out.size))
    clear hb K_1 HW_1 x0 fx0 x1 fx1 x2 fx2 x3 fx3 x4 fx4 x5 fx5 x6 fx6 x7 fx7
    obtain ⟨x0, fx0⟩ := K_2.out.2 0 (by simp)
    obtain ⟨x1, fx1⟩ := K_2.out.2 1 (by simp)
    obtain ⟨x2, fx2⟩ := K_2.out.2 2 (by simp)
    obtain ⟨x3, fx3⟩ := K_2.out.2 3 (by simp)
    obtain ⟨x4, fx4⟩ := K_2.out.2 4 (by simp)
    obtain ⟨x5, fx5⟩ := K_2.out.2 5 (by simp)
    obtain ⟨x6, fx6⟩ := K_2.out.2 6 (by simp)
    obtain ⟨x7, fx7⟩ := K_2.out.2 7 (by simp)
    simp only [List.getElem_cons_zero, List.getElem_cons_succ] at x0 x1 x2 x3 x4 x5 x6 x7
    go_wp2_with fail
    refine (HUI.out _ (HU.out.kept HW_2.out) (HM.out.kept HW_2.out)).mono ?_
    rintro e w4 ⟨rfl, hb⟩
    have K_3 := Lib.hid (K_2.out.kept hb)
    have HW_3 := Lib.hid (HW_2.out.trans (hb.mono HW_2.out.size))
    clear hb K_2 HW_2 x0 fx0 x1 fx1 x2 fx2 x3 fx3 x4 fx4 x5 fx5 x6 fx6 x7 fx7
    obtain ⟨x0, fx0⟩ := K_3.out.2 0 (by simp)
    obtain ⟨x1, fx1⟩ := K_3.out.2 1 (by simp)
    obtain ⟨x2, fx2⟩ := K_3.out.2 2 (by simp)
    obtain ⟨x3, fx3⟩ := K_3.out.2 3 (by simp)
    obtain ⟨x4, fx4⟩ := K_3.out.2 4 (by simp)
    obtain ⟨x5, fx5⟩ := K_3.out.2 5 (by simp)
    obtain ⟨x6, fx6⟩ := K_3.out.2 6 (by simp)
    obtain ⟨x7, fx7⟩ := K_3.out.2 7 (by simp)
    simp only [List.getElem_cons_zero, List.getElem_cons_succ] at x0 x1 x2 x3 x4 x5 x6 x7
    go_wp2_with fail
    refine (HDI.out _ (HV.out.kept HW_3.out) (HM.out.kept HW_3.out)).mono ?_
    rintro e w5 ⟨rfl, hb⟩
    have K_4 := Lib.hid (K_3.out.kept hb)
    have HW_4 := Lib.hid (HW_3.out.trans (hb.mono HW_3.out.size))
    clear hb K_3 HW_3 x0 fx0 x1 fx1 x2 fx2 x3 fx3 x4 fx4 x5 fx5 x6 fx6 x7 fx7
    obtain ⟨x0, fx0⟩ := K_4.out.2 0 (by simp)
    obtain ⟨x1, fx1⟩ := K_4.out.2 1 (by simp)
    obtain ⟨x2, fx2⟩ := K_4.out.2 2 (by simp)
    obtain ⟨x3, fx3⟩ := K_4.out.2 3 (by simp)
    obtain ⟨x4, fx4⟩ := K_4.out.2 4 (by simp)
    obtain ⟨x5, fx5⟩ := K_4.out.2 5 (by simp)
    obtain ⟨x6, fx6⟩ := K_4.out.2 6 (by simp)
    obtain ⟨x7, fx7⟩ := K_4.out.2 7 (by simp)
    simp only [List.getElem_cons_zero, List.getElem_cons_succ] at x0 x1 x2 x3 x4 x5 x6 x7
    go_wp2_with fail
    refine (HUS.out _ (HU.out.kept HW_4.out) (HM.out.kept HW_4.out)).mono ?_
    rintro e w6 ⟨rfl, hb⟩
    have K_5 := Lib.hid (K_4.out.kept hb)
    have HW_5 := Lib.hid (HW_4.out.trans (hb.mono HW_4.out.size))
    clear hb K_4 HW_4 x0 fx0 x1 fx1 x2 fx2 x3 fx3 x4 fx4 x5 fx5 x6 fx6 x7 fx7
    obtain ⟨x0, fx0⟩ := K_5.out.2 0 (by simp)
    obtain ⟨x1, fx1⟩ := K_5.out.2 1 (by simp)
    obtain ⟨x2, fx2⟩ := K_5.out.2 2 (by simp)
    obtain ⟨x3, fx3⟩ := K_5.out.2 3 (by simp)
    obtain ⟨x4, fx4⟩ := K_5.out.2 4 (by simp)
    obtain ⟨x5, fx5⟩ := K_5.out.2 5 (by simp)
    obtain ⟨x6, fx6⟩ := K_5.out.2 6 (by simp)
    obtain ⟨x7, fx7⟩ := K_5.out.2 7 (by simp)
    simp only [List.getElem_cons_zero, List.getElem_cons_succ] at x0 x1 x2 x3 x4 x5 x6 x7
    go_wp2_with fail
    refine (HDS.out _ (HV.out.kept HW_5.out) (HM.out.kept HW_5.out)).mono ?_
    rintro e w7 ⟨rfl, hb⟩
    have K_6 := Lib.hid (K_5.out.kept hb)
    have HW_6 := Lib.hid (HW_5.out.trans (hb.mono HW_5.out.size))
    clear hb K_5 HW_5 x0 fx0 x1 fx1 x2 fx2 x3 fx3 x4 fx4 x5 fx5 x6 fx6 x7 fx7
    obtain ⟨x0, fx0⟩ := K_6.out.2 0 (by simp)
    obtain ⟨x1, fx1⟩ := K_6.out.2 1 (by simp)
    obtain ⟨x2, fx2⟩ := K_6.out.2 2 (by simp)
    obtain ⟨x3, fx3⟩ := K_6.out.2 3 (by simp)
    obtain ⟨x4, fx4⟩ := K_6.out.2 4 (by simp)
    obtain ⟨x5, fx5⟩ := K_6.out.2 5 (by simp)
    obtain ⟨x6, fx6⟩ := K_6.out.2 6 (by simp)
    obtain ⟨x7, fx7⟩ := K_6.out.2 7 (by simp)
    simp only [List.getElem_cons_zero, List.getElem_cons_succ] at x0 x1 x2 x3 x4 x5 x6 x7
    have HBE := Lib.hid (HB1.out.trans (HW_6.out.mono HB1.out.size))
    rcases HLW.out with rfl | ⟨g0, g1, g2, g3, g4, g5, g6, g7, g8⟩
    · clear HLW
      go_wp2
      go_ret
      exact ⟨rfl, HBE.out⟩
    · clear HLW
      have k0 : ¬ v < 0 := by omega
      have k1 : ¬ p < count := by omega
      have k2 : ¬ count < d := by omega
      have k5 : ¬ v < b.mn := by omega
      have k6 : ¬ b.mx < v := by omega
      have G3 : Hid ((b.up.sel == 2) = true → (p != count) = false) := fun h => by have := g3 (by simpa using h); simp [this]
      have G4 : Hid ((b.dn.sel == 2) = true → (d != count) = false) := fun h => by have := g4 (by simpa using h); simp [this]
      have G7 : Hid (¬ v ≤ p → (v == b.mn) = true) := fun h => by have : v = b.mn := by omega
                                                                  simp [this]
      have G8 : Hid (¬ d ≤ v → (v == b.mx) = true) := fun h => by have : v = b.mx := by omega
                                                                  simp [this]
      clear g3 g4 g7 g8 g0 g1 g2 g5 g6
      cases q1 : (b.up.sel == 2)
      all_goals cases q2 : (b.dn.sel == 2)
      all_goals (try have r1 := G3.out q1)
      all_goals (try have r2 := G4.out q2)
      all_goals by_cases s1 : v ≤ p
      all_goals by_cases s2 : d ≤ v
      all_goals (try have t1 := G7.out s1)
      all_goals (try have t2 := G8.out s2)
      all_goals clear G3 G4 G7 G8
      all_goals go_wp2
      all_goals go_ret
      all_goals exact ⟨ret1B (by first | rfl | simp_all | (simp; omega)), HBE.out⟩

set_option maxRecDepth 100000 in
theorem lifted (os : Os) (started : os.Started) (H : Type) (enc : TypeId × Value → H) :
    ReturnsInHanded {} Try.checked os 4 .any (Rows.fnBoundsSpec.pre6 enc Try.prog Try.f4 Rows.fnBoundsRow.domain false) (Rows.fnBoundsSpec.post enc Try.prog Try.f4 false true false false) := by
  refine returnsInHanded_of_change (C := Try.checked) own started (by kernel_rfl) Try.func4
    (ChangeSpec.witness6 (enc := enc) (C := Try.checked) false ⟨#[], #[.slice none 0 0], []⟩ 8 (by kernel_rfl) (by kernel_rfl) (by kernel_rfl) (by kernel_rfl)) ?_
  intro W base args ds gs before hval0 hW hcnd _
  have hval : ∀ (j : Nat) t v, Try.f4.params[j]? = some t → args[j]? = some v → Value.okWide Try.prog W .any base t v := hval0
  clear hval0
  have hW' := hW
  obtain ⟨p, q, hA0, hV, rfl, hfz, hnd⟩ := hW
  have hA : DataW.TrodAll enc Try.prog W 0 (fun _ => true) true Try.f4.params.toList args.toList ds p := hA0
  rw [Try.params4] at hA hval
  obtain ⟨v0, vs0, d0, ds0, p0, q0, hargs, rfl, rfl, h0, r0⟩ := trodAll_cons hA
  obtain ⟨rfl, rfl, rfl⟩ := trodAll_nil r0
  obtain rfl : args = #[v0] := by cases args; simp_all
  obtain ⟨rfl, rfl⟩ := trodVars_none hV
  have k0 := h0
  have lt0 : ∀ x ∈ p0, x.block < W.heap.size := by obtain ⟨m, hm⟩ := k0; exact DataW.trod_lt m _ _ _ hm
  obtain ⟨a0, len0, cap0, rfl⟩ := okWide_slice Try.underlying22 (hval 0 22 v0 rfl rfl)
  obtain ⟨z0, w0⟩ : ∃ zs, IsRow .u8 W a0 len0 cap0 zs := by
    obtain ⟨fuel, hf⟩ := h0
    rcases open_ints Try.underlying22 Try.underlying5 (by kernel_rfl) hf with ⟨hcs, _⟩ | ⟨x, l, c, zs, hcs, _, hl, hm, hz, _, hcell, hwz⟩
    · simp [Value.cells] at hcs
      obtain ⟨rfl, rfl, rfl⟩ := hcs
      exact ⟨[], .inl ⟨rfl, rfl, rfl, rfl⟩⟩
    · simp [Value.cells] at hcs
      obtain ⟨rfl, rfl, rfl⟩ := hcs
      exact ⟨zs, .inr ⟨_, rfl, hl, hm, by simpa using hz, hcell, hwz⟩⟩
  clear hA0
  refine (walk a0 len0 cap0 z0 W w0).mono fun e W' ⟨he, bel⟩ => ?_
  subst he
  exact ⟨_, rfl, _, _, _, [], _, [], hW', trodAll_mk1 (shut_bool Try.underlying4 _), (trodAll_cons_mk (Below.trod laidOut (by kernel_rfl) (of_decide_eq_true (by kernel_rfl)) k0 bel lt0) trodAll_mk0), rfl, bel.frame _, fun h => by cases h⟩

theorem over : Rows.fnBoundsRow.holds Try.pinned (OpenSpec.ofChange Rows.fnBoundsSpec) :=
  OpenClaim.holds_of_wide 4 Try.f4 rfl rfl rfl rfl rfl rfl rfl ⟨rfl, rfl, rfl, rfl, rfl⟩ rfl rfl rfl rfl rfl (by kernel_rfl) Try.func4 (by kernel_rfl)
    (of_decide_eq_true (by kernel_rfl)) (by unfold Func.isWrapper; first | (rw [if_pos (by decide +kernel)]; kernel_rfl) | (rw [if_neg (by decide +kernel)]; exact ⟨rfl, rfl⟩))
    (fun os started H enc _ => lifted os started H enc)

/-- THE STATEMENT. -/
theorem proved : Rows.FnBoundsSaid := over
end Go.Proofs.Ytcjjdnfikccnmaa.fnBounds
