/- For every input that can be read, the Go function laws.FnExactSideText returns true and leaves its arguments as they read: the tied card Rows.FnExactSideTextCardSaid; the row lists 4 variables of Go's own library with what they hold, and the card ties that to the text of the pruned copy of the program. -/
import Derived.Test.YtcjjdnfikccnmaaDoorCards
import Derived.Test.YtcjjdnfikccnmaaDoorTie
import Derived.WalkKit
import Derived.ProofKit
import Derived.OpenShut
import Derived.ShutString
import Derived.ChangeOld
import Derived.Below
import Derived.Deep.DeepHandedRow
import Derived.Lib.LaidTab
import Derived.Deep.DeepWitnessRowRef
import Derived.Stop.LaidErr
import Derived.OpenVars
import Derived.OpenShut
import Derived.LaidMore
import Derived.Test.YtcjjdnfikccnmaaDoorC1
import Derived.Test.YtcjjdnfikccnmaaDoorC2
import Derived.Test.YtcjjdnfikccnmaaDoorMem
import Derived.Test.YtcjjdnfikccnmaaDoorPl
import Derived.Test.YtcjjdnfikccnmaaDoorBhM
import Derived.Test.YtcjjdnfikccnmaaDoorMilli
import Derived.Test.YtcjjdnfikccnmaaDoorMt
import Derived.Test.YtcjjdnfikccnmaaDoorSdT
import Derived.Test.YtcjjdnfikccnmaaDoorTxt
import Derived.Test.YtcjjdnfikccnmaaDoorWSide
import Derived.Test.YtcjjdnfikccnmaaDoorRH
namespace Go.Proofs.YtcjjdnfikccnmaaDoor.fnExactSideText
open Go.ChangeShapes Go.WideShapes Go.ChangeAt Go.RowKit
open Go.ChangeMaps (open_string shut_string)
open Go.Proofs.YtcjjdnfikccnmaaDoor.C1
open Go.Proofs.YtcjjdnfikccnmaaDoor.C2
open Go.Proofs.YtcjjdnfikccnmaaDoor.Mem
open Go.Proofs.YtcjjdnfikccnmaaDoor.Pl
open Go.Proofs.YtcjjdnfikccnmaaDoor.BhM
open Go.Proofs.YtcjjdnfikccnmaaDoor.Milli
open Go.Proofs.YtcjjdnfikccnmaaDoor.Mt
open Go.Proofs.YtcjjdnfikccnmaaDoor.SdT
open Go.Proofs.YtcjjdnfikccnmaaDoor.Txt
open Go.Proofs.YtcjjdnfikccnmaaDoor.WSide
open Go.Proofs.YtcjjdnfikccnmaaDoor.RH
set_option linter.unusedVariables false

theorem own : ownKnob Tryd.prog.godebug = none := by kernel_rfl
theorem laidOut : laidOutB Tryd.prog = true := by kernel_rfl
theorem powType : (Tryd.prog.globals[1]?).map (·.type) = some 98 := by kernel_rfl
theorem cellsA : Tryd.prog.cellsOf 98 = 20 := by kernel_rfl
theorem cellsU : Tryd.prog.cellsOf 88 = 1 := by kernel_rfl
theorem powData : (Rows.laid_internal_strconv_uint64pow10 : DataW Unit) = Lib.tabData .u64 Lib.pow10Tab := by kernel_rfl
theorem met_of {W : World} (h : laidMetH Tryd.prog Rows.fnExactSideTextRow.laid W) : laidMet Tryd.prog Rows.fnExactSideTextRow.laid W := h
theorem tab_of {W : World} (h : laidMet Tryd.prog Rows.fnExactSideTextRow.laid W) : Lib.TabIs Tryd.prog W "internal/strconv.uint64pow10" .u64 Lib.pow10Tab := by
  have h1 : laidMet Tryd.prog (("internal/strconv.uint64pow10", Lib.tabData .u64 Lib.pow10Tab) :: [("loop.example/g00808/impl.errSetup", Rows.laid_loop_example_g00808_impl_errSetup)]) W := by
    rw [← powData]
    exact h.tail.tail
  exact Lib.tabIs_of_head gPow powType Tryd.underlying98 Tryd.underlying88 cellsU cellsA h1
theorem cellsE : Tryd.prog.cellsOf 129 = 1 := by kernel_rfl
theorem cellsS : Tryd.prog.cellsOf 9 = 1 := by kernel_rfl
theorem star : "*" ++ "errors.errorString" = "*errors.errorString" := by decide
theorem oneRow (u : TypeId) (h : Tryd.prog.typeName? 3 u = some "*errors.errorString") : u = 106 :=
  typeName_ptr_named (nm := "errors.errorString") (by rw [star]; kernel_rfl) (by kernel_rfl) (by decide) u (by rw [star]; exact h)
theorem gSen : Tryd.prog.globalNamed "loop.example/g00808/impl.errSetup" = some 0 := by kernel_rfl
theorem senType : (Tryd.prog.globals[0]?).map (·.type) = some 47 := by kernel_rfl
theorem sen_of {W : World} (h : laidMet Tryd.prog Rows.fnExactSideTextRow.laid W) : ∃ a, Rec.Sen a W := by
  obtain ⟨a0, s0, hv0, -, -, -⟩ := laid_sentinel (h.tail.tail.tail) gSen senType Tryd.underlying47 oneRow Tryd.underlying106 Tryd.underlying129 rfl rfl Tryd.underlying9 cellsE cellsS
  have hc : W.cell? ⟨0, 0, none⟩ = some (.iface 106 (.pointer (some a0))) := by simpa using World.var?_cell gSen hv0 0
  refine ⟨a0, ?_, hc⟩
  by_cases hn : 0 < W.heap.size
  · exact hn
  · have hx : W.heap[0]? = none := Array.getElem?_eq_none (by omega)
    simp [World.cell?, hx] at hc
set_option maxHeartbeats 4000000 in
set_option maxRecDepth 100000 in
theorem walk (x0 : Pl.Sd) (a0 : Option Addr) (cap0 : Nat) (w : World) (w0 : x0.wf ∧ Pl.Pls w a0 x0.ps) (hE : Env w) (hSn : ∃ a, Rec.Sen a w) :
    Calls Tryd.prog 3 #[Pl.sdV x0 a0 cap0] w fun e w' => e = .returned (.bool true) ∧ Below w.heap.size w w' := by
  obtain ⟨X, hSen⟩ := hSn
  have HE := Lib.hid hE
  have HSN := Lib.hid hSen
  clear hE hSen
  obtain ⟨wf0, hp0⟩ := w0
  have hml0 : x0.ps.length ≤ 9223372036854775807 := by have := wf0.len; unfold maxLen at this; omega
  have HP0 := Lib.hid hp0
  have HW0 := Lib.hid wf0
  clear wf0 hp0
  have hsz0 := fun w => sz_side x0 HW0.out a0 cap0 1048576 (by omega) (by omega) w
  by_cases hs0 : (1048576 : Int) < x0.ps.length
  · simp only [if_pos hs0] at hsz0
    have HSZ0 := Lib.hid hsz0
    clear hsz0
    unfold Pl.sdV
    go_enter Tryd.func3, Tryd.ntmps3
    go_wp2_with fail
    refine (HSZ0.out _).mono ?_
    rintro e u1 ⟨rfl, hb⟩
    obtain ⟨k0, hB, hz⟩ := one_read hb
    have K_1 : Hid (SdT.CW3 u1 w.heap.size (.slice a0 x0.ps.length cap0) (.int .i64 x0.sel) (.int .i64 x0.win)) := k0
    have B_1 := Lib.hid hB
    clear k0 hB hz hb
    obtain ⟨⟨ck0, ck1, ck2⟩, -⟩ := K_1.out.get
    go_wp2
    go_ret
    exact ⟨rfl, B_1.out⟩
  · obtain ⟨l0, hl0, hl0a, hl0b⟩ : ∃ l : Int, (1048576 : Int) - x0.ps.length = l ∧ 0 ≤ l ∧ l ≤ 1048576 := ⟨_, rfl, by omega, by omega⟩
    simp only [if_neg hs0, hl0] at hsz0
    have HSZ0 := Lib.hid hsz0
    clear hsz0
    have hn0 : x0.ps.length ≤ 1048576 := by omega
    have hsp := fun a c w h => spec_text x0 a c w h hml0
    have him := fun a c w he hS h => impl_text x0 a c X w he hS h hml0
    obtain ⟨v, hv⟩ : ∃ v, mk (sideT x0) = v := ⟨_, rfl⟩
    simp only [hv] at hsp him
    clear hv
    have HSP := Lib.hid hsp
    have HIM := Lib.hid him
    clear hsp him
    clear hl0 hs0
    unfold Pl.sdV
    go_enter Tryd.func3, Tryd.ntmps3
    go_wp2_with fail
    refine (HSZ0.out _).mono ?_
    rintro e u1 ⟨rfl, hb⟩
    obtain ⟨k0, hB, hz⟩ := one_read hb
    have K_1 : Hid (SdT.CW3 u1 w.heap.size (.slice a0 x0.ps.length cap0) (.int .i64 x0.sel) (.int .i64 x0.win)) := k0
    have B_1 := Lib.hid hB
    clear k0 hB hz hb
    obtain ⟨⟨ck0, ck1, ck2⟩, -⟩ := K_1.out.get
    go_wp2_with fail
    refine (SdT.to_side x0 hn0 _ _ _ (HP0.out.kept B_1.out)).mono ?_
    rintro e u2 ⟨gq0, rfl, hg, hq, hb⟩
    have B_2 := Lib.hid (B_1.out.trans (hb.mono B_1.out.size))
    have K_2 := Lib.hid (K_1.out.kept hb)
    clear B_1 K_1 ck0 ck1 ck2 hb
    clear hg
    have Q0_2 := Lib.hid hq
    clear hq
    obtain ⟨⟨ck0, ck1, ck2⟩, -⟩ := K_2.out.get
    go_wp2_with fail
    refine (HSP.out _ _ _ Q0_2.out).mono ?_
    rintro e u3 ⟨rfl, hb⟩
    have B_3 := Lib.hid (B_2.out.trans (hb.mono B_2.out.size))
    have K_3 := Lib.hid (K_2.out.kept hb)
    have Q0_3 := Lib.hid (Q0_2.out.kept hb)
    clear B_2 K_2 Q0_2 ck0 ck1 ck2 hb
    clear Q0_3
    obtain ⟨⟨ck0, ck1, ck2⟩, -⟩ := K_3.out.get
    go_wp2_with fail
    refine (SdT.to_side x0 hn0 _ _ _ (HP0.out.kept B_3.out)).mono ?_
    rintro e u4 ⟨gq0, rfl, hg, hq, hb⟩
    have B_4 := Lib.hid (B_3.out.trans (hb.mono B_3.out.size))
    have K_4 := Lib.hid (K_3.out.kept hb)
    clear B_3 K_3 ck0 ck1 ck2 hb
    clear hg
    have Q0_4 := Lib.hid hq
    clear hq
    have hb := box_below u4 #[.slice (some ⟨gq0, 0, none⟩) x0.ps.length x0.ps.length, .int .i64 x0.sel, .int .i64 x0.win] 29
    have B_5 := Lib.hid (B_4.out.trans (hb.mono B_4.out.size))
    have K_5 := Lib.hid (K_4.out.kept hb)
    have Q0_5 := Lib.hid (Q0_4.out.kept hb)
    clear B_4 K_4 Q0_4 hb
    have KX_5 : Hid (SdT.CW3 (u4.alloc (.cells #[.slice (some ⟨gq0, 0, none⟩) x0.ps.length x0.ps.length, .int .i64 x0.sel, .int .i64 x0.win] 29)) u4.heap.size (.slice (some ⟨gq0, 0, none⟩) x0.ps.length x0.ps.length) (.int .i64 x0.sel) (.int .i64 x0.win)) := Ser2.cells_new u4 #[.slice (some ⟨gq0, 0, none⟩) x0.ps.length x0.ps.length, .int .i64 x0.sel, .int .i64 x0.win] 29
    go_wp2_with fail
    obtain ⟨u5, hu5⟩ : ∃ y, u4.alloc (.cells #[.slice (some ⟨gq0, 0, none⟩) x0.ps.length x0.ps.length, .int .i64 x0.sel, .int .i64 x0.win] 29) = y := ⟨_, rfl⟩
    rw [hu5] at B_5 K_5 Q0_5 KX_5 ⊢
    clear hu5
    refine (HIM.out _ _ _ (HE.out.kept B_5.out) (HSN.out.kept B_5.out) Q0_5.out).mono ?_
    rintro e u6 ⟨rfl, hb⟩
    have B_6 := Lib.hid (B_5.out.trans (hb.mono B_5.out.size))
    have K_6 := Lib.hid (K_5.out.kept hb)
    have Q0_6 := Lib.hid (Q0_5.out.kept hb)
    have KX_6 := Lib.hid (KX_5.out.kept hb)
    clear B_5 K_5 Q0_5 KX_5 hb
    have HJ : ∀ W, Hid (SdT.CW3 W w.heap.size (.slice a0 x0.ps.length cap0) (.int .i64 x0.sel) (.int .i64 x0.win)) → Hid (SdT.CW3 W u4.heap.size (.slice (some ⟨gq0, 0, none⟩) x0.ps.length x0.ps.length) (.int .i64 x0.sel) (.int .i64 x0.win)) → (W.cell? ⟨w.heap.size, 0, none⟩ = some (.slice a0 x0.ps.length cap0) ∧ W.cell? ⟨w.heap.size, 1, none⟩ = some (.int .i64 x0.sel) ∧ W.cell? ⟨w.heap.size, 2, none⟩ = some (.int .i64 x0.win) ∧ W.cell? ⟨u4.heap.size, 0, none⟩ = some (.slice (some ⟨gq0, 0, none⟩) x0.ps.length x0.ps.length) ∧ W.cell? ⟨u4.heap.size, 1, none⟩ = some (.int .i64 x0.sel) ∧ W.cell? ⟨u4.heap.size, 2, none⟩ = some (.int .i64 x0.win)) := fun W h1 h2 => by
      obtain ⟨⟨y0, y1, y2⟩, -⟩ := h1.out.get
      obtain ⟨⟨z0, z1, z2⟩, -⟩ := h2.out.get
      exact ⟨y0, y1, y2, z0, z1, z2⟩
    have HJJ := Lib.hid HJ
    clear HJ
    go_wp2_with fail
    have hb : Below u6.heap.size u6 u6.drew := (Below.refl _ _).drew
    have B_7 := Lib.hid (B_6.out.trans (hb.mono B_6.out.size))
    have K_7 := Lib.hid (K_6.out.kept hb)
    have Q0_7 := Lib.hid (Q0_6.out.kept hb)
    have KX_7 := Lib.hid (KX_6.out.kept hb)
    clear B_6 K_6 Q0_6 KX_6 hb
    go_region_held3 (fun w' => w'.cell? ⟨w.heap.size, 0, none⟩ = some (.slice a0 x0.ps.length cap0) ∧ w'.cell? ⟨w.heap.size, 1, none⟩ = some (.int .i64 x0.sel) ∧ w'.cell? ⟨w.heap.size, 2, none⟩ = some (.int .i64 x0.win) ∧ w'.cell? ⟨u4.heap.size, 0, none⟩ = some (.slice (some ⟨gq0, 0, none⟩) x0.ps.length x0.ps.length) ∧ w'.cell? ⟨u4.heap.size, 1, none⟩ = some (.int .i64 x0.sel) ∧ w'.cell? ⟨u4.heap.size, 2, none⟩ = some (.int .i64 x0.win))
      (with_reducible (first | exact HJJ.out _ K_9 KX_9 | exact HJJ.out _ K_8 KX_8 | exact HJJ.out _ K_7 KX_7))
      (first
        | (go_at_call 6; refine (SdT.to_side x0 hn0 _ _ _ (HP0.out.kept B_7.out)).mono ?_; rintro e u8 ⟨gz, rfl, hg, hqz, hb⟩; have B_8 := Lib.hid (B_7.out.trans (hb.mono B_7.out.size)); have K_8 := Lib.hid (K_7.out.kept hb); have Q0_8 := Lib.hid (Q0_7.out.kept hb); have KX_8 := Lib.hid (KX_7.out.kept hb); have QZ := Lib.hid hqz; clear hg; clear hqz hb)
        | (go_at_call 8; refine (SdT.eq_side x0 _ _ _ _ _ Q0_8.out QZ.out hn0).mono ?_; rintro e u9 ⟨rfl, hb⟩; have B_9 := Lib.hid (B_8.out.trans (hb.mono B_8.out.size)); have K_9 := Lib.hid (K_8.out.kept hb); have Q0_9 := Lib.hid (Q0_8.out.kept hb); have KX_9 := Lib.hid (KX_8.out.kept hb); clear hb))
    go_wp2
    go_ret
    exact ⟨rfl, B_9.out⟩

set_option maxRecDepth 100000 in
theorem contract (H : Type) (enc : TypeId × Value → H) (W : World) (base : Nat) (args : Array Value) (ds gs : List (DataW H)) (before : List MemPlace)
    (hval : ∀ (j : Nat) t v, Tryd.f3.params[j]? = some t → args[j]? = some v → Value.okWide Tryd.prog W .any base t v)
    (hW : DataW.Whole enc Tryd.prog Tryd.f3.params.toList Rows.fnExactSideTextSpec.vars false W args.toList ds gs before) (hL : laidMetH Tryd.prog Rows.fnExactSideTextRow.laid W) (hsh : W.ShapedOpen Tryd.prog) :
    Calls Tryd.prog 3 args W fun e W' => ∃ v, e = .returned v ∧ Rows.fnExactSideTextSpec.post enc Tryd.prog Tryd.f3 false true false false W args v W' := by
  have hW' := hW
  obtain ⟨p, q, hA0, hV, rfl, hfz, hnd⟩ := hW
  have hA : DataW.TrodAll enc Tryd.prog W 0 (fun _ => true) true Tryd.f3.params.toList args.toList ds p := hA0
  rw [Tryd.params3] at hA hval
  obtain ⟨v0, vs0, d0, ds0, p0, q0, hargs, rfl, rfl, h0, r0⟩ := trodAll_cons hA
  obtain ⟨rfl, rfl, rfl⟩ := trodAll_nil r0
  obtain rfl : args = #[v0] := by cases args; simp_all
  obtain ⟨g9, t9, cs9, fu9, d9, p9, rfl, -⟩ := trodVars_one hV
  have k0 := h0
  have lt0 : ∀ x ∈ p0, x.block < W.heap.size := by obtain ⟨m, hm⟩ := k0; exact DataW.trod_lt m _ _ _ hm
  obtain ⟨x0, a0, cap0, rfl, wf0, ws0⟩ := Pl.open_side Tryd.underlying24 (by kernel_rfl) (by kernel_rfl) ⟨rfl, rfl, rfl⟩ Tryd.underlying22 Tryd.underlying45 (by kernel_rfl) (by kernel_rfl) ⟨rfl, rfl, rfl⟩ Tryd.underlying3 (hval 0 24 v0 rfl rfl) h0
  have w0 := And.intro wf0 ws0
  have hE : Env W := ⟨tab_of (met_of hL), hsh⟩
  clear hA0
  refine (walk x0 a0 cap0 W w0 hE (sen_of (met_of hL))).mono fun e W' ⟨he, bel⟩ => ?_
  subst he
  exact ⟨_, rfl, _, _, _, [], _, q, hW', trodAll_mk1 (shut_bool Tryd.underlying4 _), (trodAll_cons_mk (Below.trod laidOut (by kernel_rfl) (of_decide_eq_true (by kernel_rfl)) k0 bel lt0) trodAll_mk0), bel.trodVars laidOut (by kernel_rfl) hV, bel.frame _, fun h => by cases h⟩

/-- A world for the witness: the settled one, each listed variable laid. -/
noncomputable def laidWorld (os : Os) : World :=
  { World.holding Tryd.prog os ⟨#[.cells #[.string ⟨#[105, 110, 118, 97, 108, 105, 100, 32, 99, 111, 110, 102, 105, 103, 117, 114, 97, 116, 105, 111, 110]⟩] 129], #[], []⟩ with heap := (((((World.holding Tryd.prog os ⟨#[.cells #[.string ⟨#[105, 110, 118, 97, 108, 105, 100, 32, 99, 111, 110, 102, 105, 103, 117, 114, 97, 116, 105, 111, 110]⟩] 129], #[], []⟩).heap.modify 3 fun
      | .cells _ t frozen => .cells #[.int .u8 0, .int .u8 1, .int .u8 28, .int .u8 2, .int .u8 29, .int .u8 14, .int .u8 24, .int .u8 3, .int .u8 30, .int .u8 22, .int .u8 20, .int .u8 15, .int .u8 25, .int .u8 17, .int .u8 4, .int .u8 8, .int .u8 31, .int .u8 27, .int .u8 13, .int .u8 23, .int .u8 21, .int .u8 19, .int .u8 16, .int .u8 7, .int .u8 26, .int .u8 12, .int .u8 18, .int .u8 6, .int .u8 11, .int .u8 5, .int .u8 10, .int .u8 9] t frozen
      | o => o).modify 4 fun
      | .cells _ t frozen => .cells #[.int .u8 0, .int .u8 1, .int .u8 56, .int .u8 2, .int .u8 57, .int .u8 49, .int .u8 28, .int .u8 3, .int .u8 61, .int .u8 58, .int .u8 42, .int .u8 50, .int .u8 38, .int .u8 29, .int .u8 17, .int .u8 4, .int .u8 62, .int .u8 47, .int .u8 59, .int .u8 36, .int .u8 45, .int .u8 43, .int .u8 51, .int .u8 22, .int .u8 53, .int .u8 39, .int .u8 33, .int .u8 30, .int .u8 24, .int .u8 18, .int .u8 12, .int .u8 5, .int .u8 63, .int .u8 55, .int .u8 48, .int .u8 27, .int .u8 60, .int .u8 41, .int .u8 37, .int .u8 16, .int .u8 46, .int .u8 35, .int .u8 44, .int .u8 21, .int .u8 52, .int .u8 32, .int .u8 23, .int .u8 11, .int .u8 54, .int .u8 26, .int .u8 40, .int .u8 15, .int .u8 34, .int .u8 20, .int .u8 31, .int .u8 10, .int .u8 25, .int .u8 14, .int .u8 19, .int .u8 9, .int .u8 13, .int .u8 8, .int .u8 7, .int .u8 6] t frozen
      | o => o).modify 1 fun
      | .cells _ t frozen => .cells #[.int .u64 1, .int .u64 10, .int .u64 100, .int .u64 1000, .int .u64 10000, .int .u64 100000, .int .u64 1000000, .int .u64 10000000, .int .u64 100000000, .int .u64 1000000000, .int .u64 10000000000, .int .u64 100000000000, .int .u64 1000000000000, .int .u64 10000000000000, .int .u64 100000000000000, .int .u64 1000000000000000, .int .u64 10000000000000000, .int .u64 100000000000000000, .int .u64 1000000000000000000, .int .u64 10000000000000000000] t frozen
      | o => o).modify 0 fun
      | .cells _ t frozen => .cells #[.iface 106 (.pointer (some ⟨(World.holding Tryd.prog default ⟨#[], #[], []⟩).heap.size + 0, 0, none⟩))] t frozen
      | o => o) }
theorem laid_met (os : Os) : laidMet Tryd.prog Rows.fnExactSideTextRow.laid ((laidWorld os).forCall (fun _ _ => 0) ⟨#[], #[.agg #[.slice none 0 0, .int .i64 0, .int .i64 0]], []⟩).memory :=
  laidMet_of_run' 8 (by kernel_rfl) (by kernel_rfl)
theorem reads (os : Os) {H : Type} (enc : TypeId × Value → H) : ∃ places, DataW.whole enc Tryd.prog ((laidWorld os).forCall (fun _ _ => 0) ⟨#[], #[.agg #[.slice none 0 0, .int .i64 0, .int .i64 0]], []⟩).memory Tryd.f3.params.toList Rows.fnExactSideTextSpec.vars false (#[.agg #[.slice none 0 0, .int .i64 0, .int .i64 0]] : Array Value).toList 8 = some ([.agg [.nil, .lit (.int .i64 0), .lit (.int .i64 0)]], [.held (enc (106, .pointer (some ⟨(World.holding Tryd.prog default ⟨#[], #[], []⟩).heap.size + 0, 0, none⟩)))], places) :=
  ⟨MemPlace.row ⟨0, 0, none⟩ 1 ++ [] ++ [], by kernel_rfl⟩

set_option maxRecDepth 100000 in
theorem lifted (os : Os) (started : os.Started) (H : Type) (enc : TypeId × Value → H) (F : Stop.Interp) :
    ReturnsInHanded {} Tryd.checked os 3 .any ((OpenSpec.ofChange Rows.fnExactSideTextSpec).preRow enc Tryd.prog Tryd.f3 Rows.fnExactSideTextRow.domain false Rows.fnExactSideTextRow.laid) (((OpenSpec.ofChange Rows.fnExactSideTextSpec).at F).post enc Tryd.prog Tryd.f3 false true false false) := by
  obtain ⟨places, hx⟩ := reads os enc
  refine returnsInHanded_of_row (C := Tryd.checked) (s := OpenSpec.ofChange Rows.fnExactSideTextSpec) own started (by kernel_rfl) Tryd.func3
    (witness_row_atRef (enc := enc) (C := Tryd.checked) false (laidWorld os) #[.agg #[.slice none 0 0, .int .i64 0, .int .i64 0]] rfl (by kernel_rfl) (by kernel_rfl) (by kernel_rfl)
      (OpenSpec.preRow_of_cond 8 hx (by kernel_rfl) (fun k hk => by cases hk) (by kernel_rfl) (laid_met os))) ?_
  intro W base args ds gs before hval hW _ _ _ hL hsh _
  exact contract H enc W base args ds gs before hval hW hL hsh

theorem said : Rows.FnExactSideTextSaid :=
  OpenClaim.holds_of_cond 3 Tryd.f3 rfl rfl rfl rfl rfl rfl rfl ⟨rfl, rfl, rfl, rfl, rfl⟩ rfl rfl rfl rfl rfl (by kernel_rfl) Tryd.func3 (by kernel_rfl)
    (of_decide_eq_true (by kernel_rfl)) (by unfold Func.isWrapper; first | (rw [if_pos (by decide +kernel)]; kernel_rfl) | (rw [if_neg (by decide +kernel)]; exact ⟨rfl, rfl⟩))
    (fun os started H enc _ F => by rw [OpenClaim.pre_eq_preRow]; exact lifted os started H enc F)

theorem plain (f : FuncId) (fn : Func) (hf : Tryd.pinned.checked.prog.funcNamed "loop.example/g00808/laws.FnExactSideText" = some f) (hfn : Tryd.pinned.checked.prog.funcs[f]? = some fn) :
    true = Tryd.pinned.checked.prog.looks [] ∧ ∀ (j : Nat) t, fn.params[j]? = some t → Tryd.pinned.checked.prog.wantsStandIn t = false := by
  obtain rfl : f = 3 := Option.some.inj ((show Tryd.prog.funcNamed "loop.example/g00808/laws.FnExactSideText" = some 3 by kernel_rfl).symm.trans hf) |>.symm
  obtain rfl : fn = Tryd.f3 := (Option.some.inj (Tryd.func3.symm.trans hfn)).symm
  refine ⟨by kernel_rfl, fun j t ht => ?_⟩
  rw [Tryd.params3] at ht
  have hm := Array.mem_of_getElem? ht
  simp at hm
  subst hm
  exact (show Tryd.prog.wantsStandIn 24 = false by kernel_rfl)
/-- THE CARD. -/
theorem proved : Rows.FnExactSideTextCardSaid :=
  Claim7.holds_tied_plain_at .later [] _ _ _ _ said (fun _ h => by cases h) (by kernel_rfl) (fun _ h => by cases h) fnExactSideText_row_tie rfl ⟨rfl, rfl⟩ (by kernel_rfl) rfl plain (by kernel_rfl)
end Go.Proofs.YtcjjdnfikccnmaaDoor.fnExactSideText
