/- For every input that can be read, the Go function laws.FnExactTrimNotes returns true and leaves its arguments as they read: the statement Rows.FnExactTrimNotesSaid, without a condition of ours. -/
import Derived.Test.YtkehidjdlefojabRows
import Derived.WalkKit
import Derived.ProofKit
import Derived.OpenShut
import Derived.ShutString
import Derived.ChangeOld
import Derived.Below
import Derived.Test.YtkehidjdlefojabC1
import Derived.Test.YtkehidjdlefojabC2
import Derived.Test.YtkehidjdlefojabSmps
import Derived.Test.YtkehidjdlefojabMem
import Derived.Test.YtkehidjdlefojabSer
import Derived.Test.YtkehidjdlefojabSer2
import Derived.Test.YtkehidjdlefojabNt
import Derived.Test.YtkehidjdlefojabPl
import Derived.Test.YtkehidjdlefojabBhM
import Derived.Test.YtkehidjdlefojabLogS
import Derived.Test.YtkehidjdlefojabBhI
import Derived.Test.YtkehidjdlefojabLogI
import Derived.Test.YtkehidjdlefojabTrm
import Derived.Test.YtkehidjdlefojabTrmI
import Derived.Test.YtkehidjdlefojabTrmL
namespace Go.Proofs.Ytkehidjdlefojab.fnExactTrimNotes
open Go.ChangeShapes Go.WideShapes Go.ChangeAt Go.RowKit
open Go.ChangeMaps (open_string shut_string)
open Go.Proofs.Ytkehidjdlefojab.C1
open Go.Proofs.Ytkehidjdlefojab.C2
open Go.Proofs.Ytkehidjdlefojab.Smps
open Go.Proofs.Ytkehidjdlefojab.Mem
open Go.Proofs.Ytkehidjdlefojab.Ser
open Go.Proofs.Ytkehidjdlefojab.Ser2
open Go.Proofs.Ytkehidjdlefojab.Nt
open Go.Proofs.Ytkehidjdlefojab.Pl
open Go.Proofs.Ytkehidjdlefojab.BhM
open Go.Proofs.Ytkehidjdlefojab.LogS
open Go.Proofs.Ytkehidjdlefojab.BhI
open Go.Proofs.Ytkehidjdlefojab.LogI
open Go.Proofs.Ytkehidjdlefojab.Trm
open Go.Proofs.Ytkehidjdlefojab.TrmI
open Go.Proofs.Ytkehidjdlefojab.TrmL
set_option linter.unusedVariables false

theorem own : ownKnob Try.prog.godebug = none := by kernel_rfl
theorem laidOut : laidOutB Try.prog = true := by kernel_rfl
set_option maxHeartbeats 4000000 in
set_option maxRecDepth 100000 in
theorem walk (a0 : Option Addr) (len0 cap0 : Nat) (z0 : List Ser.Pt) (a1 : Int) (a2 : Int) (w : World) (w0 : Pl.IsPts w a0 len0 cap0 z0) (w1 : (Lit.int .i64 a1).wf = true) (w2 : (Lit.int .i64 a2).wf = true)  :
    Calls Try.prog 7 #[.slice a0 len0 cap0, .int .i64 a1, .int .i64 a2] w fun e w' => e = .returned (.bool true) ∧ Below w.heap.size w w' := by
  obtain ⟨hl, hmax, hwf, hS⟩ := w0
  subst hl
  have hml : z0.length ≤ 9223372036854775807 := by unfold maxLen at hmax; omega
  have HS := Lib.hid hS
  clear hwf hS
  by_cases hn : z0.length ≤ 1048576
  · have hsz := fun w => Nt.sz_points z0.length a0 cap0 hml 1048576 (by omega) (by omega) w
    obtain ⟨L, hL, hL0⟩ : ∃ L : Int, 1048576 - (z0.length : Int) = L ∧ 0 ≤ L := ⟨_, rfl, by omega⟩
    simp only [if_neg (show ¬ (1048576 : Int) < z0.length by omega), hL] at hsz
    have HSZ := Lib.hid hsz
    clear hsz hL
    obtain ⟨ns, hns⟩ : ∃ ns, Trm.trmV z0 a1 a2 = ns := ⟨_, rfl⟩
    have hnl : ns.length ≤ 1048576 := by rw [← hns]; exact Nat.le_trans (Trm.trm_le _ _ _) hn
    have HNS := Lib.hid hns
    obtain ⟨q, hq⟩ : ∃ q : Nat, 1 + 2 * ns.length = q := ⟨_, rfl⟩
    have hqb : q ≤ 100000000 := by omega
    obtain ⟨p, hp⟩ : ∃ p : Nat, 1 + 2 * z0.length = p := ⟨_, rfl⟩
    have hpb : p ≤ 100000000 := by omega
    have HQ := Lib.hid hq
    have HP := Lib.hid hp
    clear hns hq hp
    have hp0 : decide ((p : Int) < 0) = false := decide_eq_false (by omega)
    have hq0 : decide ((q : Int) < 0) = false := decide_eq_false (by omega)
    have hqn : ((q : Int) != (q : Int)) = false := by simp
    go_enter Try.func7, Try.ntmps7
    go_wp2_with fail
    refine (HSZ.out _).mono ?_
    rintro e u1 ⟨rfl, rfl⟩
    go_wp2_with fail
    refine (Nt.to_points z0 _ _ _ HS.out hn).mono ?_
    rintro e u2 ⟨g2, rfl, ho2, hb⟩
    have HI2 := Lib.hid (Nt.OwnP.pts ho2)
    have HB2 := Lib.hid hb
    clear ho2 hb
    go_wp2_with fail
    refine (TrmL.spec_trim2 z0 _ _ a1 a2 _ HI2.out hn ns HNS.out).mono ?_
    rintro e u3 ⟨⟨aw, cw, rfl, ho3⟩, hb⟩
    have HB3 := Lib.hid (HB2.out.trans (hb.mono HB2.out.size))
    have HPW := Lib.hid (Nt.OwnP.pts ho3)
    clear ho3 hb
    go_wp2_with fail
    refine (Nt.to_points z0 _ _ _ (HS.out.kept HB3.out) hn).mono ?_
    rintro e u4 ⟨g4, rfl, ho4, hb⟩
    have HX4 := Lib.hid ho4
    have HD4 := Lib.hid hb
    have HG4 := Lib.hid ho4.lt
    clear ho4 hb
    go_wp2_with fail
    refine (TrmL.impl_trim2 z0 _ _ a1 a2 _ (Nt.OwnP.pts HX4.out) hn ns HNS.out).mono ?_
    rintro e u5 ⟨⟨ag, cg, rfl, ho5⟩, hb⟩
    have HZ5 : Hid (u4.heap.size ≤ u5.heap.size) := hb.size
    have HY5 := Lib.hid ho5
    have HX5 := Lib.hid (HX4.out.kept hb)
    have HD5 := Lib.hid (HD4.out.trans (hb.mono HD4.out.size))
    clear ho5 hb
    go_wp2_with fail
    refine (Nt.eq_points ns ag aw _ _ _ (Nt.OwnP.pts HY5.out) (HPW.out.kept HD5.out) hnl).mono ?_
    rintro e u6 ⟨rfl, hb⟩
    have HZ6 : Hid (u4.heap.size ≤ u6.heap.size) := Nat.le_trans HZ5.out hb.size
    have HY6 := Lib.hid (HY5.out.kept hb)
    have HX6 := Lib.hid (HX5.out.kept hb)
    have HD6 := Lib.hid (HD5.out.trans (hb.mono HD5.out.size))
    clear hb
    go_wp2_with fail
    refine (Nt.to_points z0 _ _ _ (HS.out.kept (HB3.out.trans (HD6.out.mono HB3.out.size))) hn).mono ?_
    rintro e u7 ⟨g7, rfl, ho7, hb⟩
    have HI7 := Lib.hid (Nt.OwnP.pts ho7)
    have HZ7 : Hid (u4.heap.size ≤ u7.heap.size) := Nat.le_trans HZ6.out hb.size
    have HY7 := Lib.hid (HY6.out.kept hb)
    have HX7 := Lib.hid (HX6.out.kept hb)
    have HD7 := Lib.hid (HD6.out.trans (hb.mono HD6.out.size))
    clear ho7 hb
    go_wp2_with fail
    refine (Nt.eq_points z0 _ _ _ _ _ (Nt.OwnP.pts HX7.out) HI7.out hn).mono ?_
    rintro e u8 ⟨rfl, hb⟩
    have HZ8 : Hid (u4.heap.size ≤ u8.heap.size) := Nat.le_trans HZ7.out hb.size
    have HY8 := Lib.hid (HY7.out.kept hb)
    have HX8 := Lib.hid (HX7.out.kept hb)
    have HD8 := Lib.hid (HD7.out.trans (hb.mono HD7.out.size))
    clear hb
    go_wp2_with fail
    refine (TrmL.mark2 z0 _ _ _ p HP.out hpb _ HX8.out).mono ?_
    rintro e u9 ⟨rfl, _, ha⟩
    have HZ9 : Hid (u4.heap.size ≤ u9.heap.size) := Nat.le_trans HZ8.out (ha.2 _ _ _ rfl).size
    have HY9 := Lib.hid (TrmL.own_off HY8.out ha HG4.out.2)
    have HD9 := Lib.hid (TrmL.only_below ha HD8.out (fun c o s e => by cases e; exact HG4.out.1) HD8.out.size)
    clear ha
    go_wp2_with fail
    refine (Nt.eq_points ns ag aw _ _ _ (Nt.OwnP.pts HY9.out) (HPW.out.kept HD9.out) hnl).mono ?_
    rintro e u10 ⟨rfl, hb⟩
    have HZ10 : Hid (u4.heap.size ≤ u10.heap.size) := Nat.le_trans HZ9.out hb.size
    have HY10 := Lib.hid (HY9.out.kept hb)
    have HD10 := Lib.hid (HD9.out.trans (hb.mono HD9.out.size))
    clear hb
    go_wp2_with fail
    refine (TrmL.mark2 ns _ _ _ q HQ.out hqb _ HY10.out).mono ?_
    rintro e u11 ⟨rfl, ho11, ha⟩
    have HY11 := Lib.hid ho11
    have HD11 := Lib.hid (TrmL.only_below ha HD10.out (fun c o s e => Nat.le_trans HD4.out.size (TrmL.own_blk HY10.out c o s e)) HD10.out.size)
    clear ho11 ha
    go_wp2_with fail
    refine (TrmL.held2 ns.length _ _ _ q HQ.out hqb _ HY11.out).mono ?_
    rintro e u12 ⟨rfl, hb⟩
    have HY12 := Lib.hid (HY11.out.kept hb)
    have HD12 := Lib.hid (HD11.out.trans (hb.mono HD11.out.size))
    clear hb
    go_wp2_with fail
    refine (Nt.to_points z0 _ _ _ (HS.out.kept (HB3.out.trans (HD12.out.mono HB3.out.size))) hn).mono ?_
    rintro e u13 ⟨g13, rfl, ho13, hb⟩
    have HI13 := Lib.hid (Nt.OwnP.pts ho13)
    have HY13 := Lib.hid (HY12.out.kept hb)
    have HD13 := Lib.hid (HD12.out.trans (hb.mono HD12.out.size))
    clear ho13 hb
    go_wp2_with fail
    refine (TrmL.impl_trim2 z0 _ _ a1 a2 _ HI13.out hn ns HNS.out).mono ?_
    rintro e u14 ⟨⟨ah, ch, rfl, ho14⟩, hb⟩
    have HH14 := Lib.hid (Nt.OwnP.pts ho14)
    have HY14 := Lib.hid (HY13.out.kept hb)
    have HD14 := Lib.hid (HD13.out.trans (hb.mono HD13.out.size))
    clear ho14 hb
    go_wp2_with fail
    refine (Nt.eq_points ns ah aw _ _ _ HH14.out (HPW.out.kept HD14.out) hnl).mono ?_
    rintro e u15 ⟨rfl, hb⟩
    have HY15 := Lib.hid (HY14.out.kept hb)
    have HD15 := Lib.hid (HD14.out.trans (hb.mono HD14.out.size))
    clear hb
    go_wp2_with fail
    refine (TrmL.held2 ns.length _ _ _ q HQ.out hqb _ HY15.out).mono ?_
    rintro e u16 ⟨rfl, hb⟩
    have HB16 := Lib.hid (HB3.out.trans ((HD15.out.trans (hb.mono HD15.out.size)).mono HB3.out.size))
    clear hb
    go_wp2
    go_ret
    exact ⟨rfl, HB16.out⟩
  · have hsz := fun w => Nt.sz_points z0.length a0 cap0 hml 1048576 (by omega) (by omega) w
    simp only [if_pos (show (1048576 : Int) < z0.length by omega)] at hsz
    have HSZ := Lib.hid hsz
    clear hsz
    go_enter Try.func7, Try.ntmps7
    go_wp2_with fail
    refine (HSZ.out _).mono ?_
    rintro e u1 ⟨rfl, rfl⟩
    go_wp2
    go_ret
    exact ⟨rfl, Below.refl _ _⟩

set_option maxRecDepth 100000 in
theorem lifted (os : Os) (started : os.Started) (H : Type) (enc : TypeId × Value → H) :
    ReturnsInHanded {} Try.checked os 7 .any (Rows.fnExactTrimNotesSpec.pre6 enc Try.prog Try.f7 Rows.fnExactTrimNotesRow.domain false) (Rows.fnExactTrimNotesSpec.post enc Try.prog Try.f7 false true false false) := by
  refine returnsInHanded_of_change (C := Try.checked) own started (by kernel_rfl) Try.func7
    (ChangeSpec.witness6 (enc := enc) (C := Try.checked) false ⟨#[], #[.slice none 0 0, .int .i64 0, .int .i64 0], []⟩ 8 (by kernel_rfl) (by kernel_rfl) (by kernel_rfl) (by kernel_rfl)) ?_
  intro W base args ds gs before hval0 hW hcnd _
  have hval : ∀ (j : Nat) t v, Try.f7.params[j]? = some t → args[j]? = some v → Value.okWide Try.prog W .any base t v := hval0
  clear hval0
  have hW' := hW
  obtain ⟨p, q, hA0, hV, rfl, hfz, hnd⟩ := hW
  have hA : DataW.TrodAll enc Try.prog W 0 (fun _ => true) true Try.f7.params.toList args.toList ds p := hA0
  rw [Try.params7] at hA hval
  obtain ⟨v0, vs0, d0, ds0, p0, q0, hargs, rfl, rfl, h0, r0⟩ := trodAll_cons hA
  obtain ⟨v1, vs1, d1, ds1, p1, q1, rfl, rfl, rfl, h1, r1⟩ := trodAll_cons r0
  obtain ⟨v2, vs2, d2, ds2, p2, q2, rfl, rfl, rfl, h2, r2⟩ := trodAll_cons r1
  obtain ⟨rfl, rfl, rfl⟩ := trodAll_nil r2
  obtain rfl : args = #[v0, v1, v2] := by cases args; simp_all
  obtain ⟨rfl, rfl⟩ := trodVars_none hV
  have k0 := h0
  have lt0 : ∀ x ∈ p0, x.block < W.heap.size := by obtain ⟨m, hm⟩ := k0; exact DataW.trod_lt m _ _ _ hm
  have k1 := h1
  have lt1 : ∀ x ∈ p1, x.block < W.heap.size := by obtain ⟨m, hm⟩ := k1; exact DataW.trod_lt m _ _ _ hm
  have k2 := h2
  have lt2 : ∀ x ∈ p2, x.block < W.heap.size := by obtain ⟨m, hm⟩ := k2; exact DataW.trod_lt m _ _ _ hm
  obtain ⟨a0, len0, cap0, rfl⟩ := okWide_slice Try.underlying47 (hval 0 47 v0 rfl rfl)
  obtain ⟨z0, w0⟩ : ∃ zs, Pl.IsPts W a0 len0 cap0 zs := by
    obtain ⟨fuel, hf⟩ := h0
    exact Pl.open_row2 Try.underlying47 Try.underlying92 (by kernel_rfl) (by kernel_rfl) ⟨rfl, rfl⟩ Try.underlying3 hf
  obtain ⟨a1, rfl, rfl, rfl, w1⟩ := open_int Try.underlying3 (hval 1 3 v1 rfl rfl) h1
  obtain ⟨a2, rfl, rfl, rfl, w2⟩ := open_int Try.underlying3 (hval 2 3 v2 rfl rfl) h2
  clear hA0
  refine (walk a0 len0 cap0 z0 a1 a2 W w0 w1 w2).mono fun e W' ⟨he, bel⟩ => ?_
  subst he
  exact ⟨_, rfl, _, _, _, [], _, [], hW', trodAll_mk1 (shut_bool Try.underlying4 _), (trodAll_cons_mk (Below.trod laidOut (by kernel_rfl) (of_decide_eq_true (by kernel_rfl)) k0 bel lt0) (trodAll_cons_mk (shut_int Try.underlying3 w1) (trodAll_cons_mk (shut_int Try.underlying3 w2) trodAll_mk0))), rfl, bel.frame _, fun h => by cases h⟩

theorem over : Rows.fnExactTrimNotesRow.holds Try.pinned (OpenSpec.ofChange Rows.fnExactTrimNotesSpec) :=
  OpenClaim.holds_of_wide 7 Try.f7 rfl rfl rfl rfl rfl rfl rfl ⟨rfl, rfl, rfl, rfl, rfl⟩ rfl rfl rfl rfl rfl (by kernel_rfl) Try.func7 (by kernel_rfl)
    (of_decide_eq_true (by kernel_rfl)) (by unfold Func.isWrapper; first | (rw [if_pos (by decide +kernel)]; kernel_rfl) | (rw [if_neg (by decide +kernel)]; exact ⟨rfl, rfl⟩))
    (fun os started H enc _ => lifted os started H enc)

/-- THE STATEMENT. -/
theorem proved : Rows.FnExactTrimNotesSaid := over
end Go.Proofs.Ytkehidjdlefojab.fnExactTrimNotes
