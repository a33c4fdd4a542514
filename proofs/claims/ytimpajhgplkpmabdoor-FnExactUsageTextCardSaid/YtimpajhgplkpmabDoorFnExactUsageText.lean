/- For every input that can be read, the Go function laws.FnExactUsageText returns true and leaves its arguments as they read: the tied card Rows.FnExactUsageTextCardSaid; the row lists 5 variables of Go's own library with what they hold, and the card ties that to the text of the pruned copy of the program. -/
import Derived.Test.YtimpajhgplkpmabDoorCards
import Derived.Test.YtimpajhgplkpmabDoorTie
import Derived.WalkKit
import Derived.ProofKit
import Derived.OpenShut
import Derived.ShutString
import Derived.ChangeOld
import Derived.Below
import Derived.Lib.SmallJoins
import Derived.Deep.DeepHandedRow
import Derived.Lib.LaidTab
import Derived.Stop.LaidErr
import Derived.Test.YtimpajhgplkpmabDoorC1
import Derived.Test.YtimpajhgplkpmabDoorC2
import Derived.Test.YtimpajhgplkpmabDoorSmps
import Derived.Test.YtimpajhgplkpmabDoorPd
import Derived.Test.YtimpajhgplkpmabDoorGl
import Derived.Test.YtimpajhgplkpmabDoorBd
import Derived.Test.YtimpajhgplkpmabDoorMilli
import Derived.Test.YtimpajhgplkpmabDoorMt
import Derived.Test.YtimpajhgplkpmabDoorLine
import Derived.Test.YtimpajhgplkpmabDoorGLine
import Derived.Test.YtimpajhgplkpmabDoorRH
namespace Go.Proofs.YtimpajhgplkpmabDoor.fnExactUsageText
open Go.ChangeShapes Go.WideShapes Go.ChangeAt Go.RowKit Go.Joins
open Go.ChangeMaps (open_string shut_string)
open Go.Proofs.YtimpajhgplkpmabDoor.C1
open Go.Proofs.YtimpajhgplkpmabDoor.C2
open Go.Proofs.YtimpajhgplkpmabDoor.Smps
open Go.Proofs.YtimpajhgplkpmabDoor.Pd
open Go.Proofs.YtimpajhgplkpmabDoor.Gl
open Go.Proofs.YtimpajhgplkpmabDoor.Bd
open Go.Proofs.YtimpajhgplkpmabDoor.Milli
open Go.Proofs.YtimpajhgplkpmabDoor.Mt
open Go.Proofs.YtimpajhgplkpmabDoor.Line
open Go.Proofs.YtimpajhgplkpmabDoor.GLine
open Go.Proofs.YtimpajhgplkpmabDoor.RH
set_option linter.unusedVariables false

theorem own : ownKnob Tryd.prog.godebug = none := by kernel_rfl
theorem laidOut : laidOutB Tryd.prog = true := by kernel_rfl
theorem powType : (Tryd.prog.globals[2]?).map (·.type) = some 101 := by kernel_rfl
theorem cellsA : Tryd.prog.cellsOf 101 = 20 := by kernel_rfl
theorem cellsU : Tryd.prog.cellsOf 62 = 1 := by kernel_rfl
theorem powData : (Rows.laid_internal_strconv_uint64pow10 : DataW Unit) = Lib.tabData .u64 Lib.pow10Tab := by kernel_rfl
theorem met_of {W : World} (h : laidMetH Tryd.prog Rows.fnExactUsageTextRow.laid W) : laidMet Tryd.prog Rows.fnExactUsageTextRow.laid W := h
theorem tab_of {W : World} (h : laidMet Tryd.prog Rows.fnExactUsageTextRow.laid W) : Lib.TabIs Tryd.prog W "internal/strconv.uint64pow10" .u64 Lib.pow10Tab := by
  have h1 : laidMet Tryd.prog (("internal/strconv.uint64pow10", Lib.tabData .u64 Lib.pow10Tab) :: [("unicode/utf8.acceptRanges", Rows.laid_unicode_utf8_acceptRanges), ("unicode/utf8.first", Rows.laid_unicode_utf8_first)]) W := by
    rw [← powData]
    exact h.tail.tail
  exact Lib.tabIs_of_head gPow powType Tryd.underlying101 Tryd.underlying62 cellsU cellsA h1
set_option maxHeartbeats 4000000 in
set_option maxRecDepth 100000 in
theorem walk (x0 : Ty) (x1 : Gl) (w : World) (w0 : x0.wf) (w1 : x1.wf) (hE : Env w) :
    Calls Tryd.prog 3 #[tyV x0, glV x1] w fun e w' => e = .returned (.bool true) ∧ Below w.heap.size w w' := by
  obtain ⟨hp, -, -⟩ := id w1
  unfold maxLen at hp
  obtain ⟨hA, hB⟩ := box2_cells w #[.int .i64 x0.rdy, .int .i64 x0.unr, .int .i64 x0.mis, .int .i64 x0.sum] #[.string x1.met, .int .i64 x1.tar, .int .i64 x1.tol] 23 25
  have HA := Lib.hid hA
  have HB := Lib.hid hB
  have H0 := Lib.hid (box2_below w (.cells #[.int .i64 x0.rdy, .int .i64 x0.unr, .int .i64 x0.mis, .int .i64 x0.sum] 23) (.cells #[.string x1.met, .int .i64 x1.tar, .int .i64 x1.tol] 25))
  obtain ⟨W0, hW0⟩ : ∃ W0, (w.alloc (.cells #[.int .i64 x0.rdy, .int .i64 x0.unr, .int .i64 x0.mis, .int .i64 x0.sum] 23)).alloc (.cells #[.string x1.met, .int .i64 x1.tar, .int .i64 x1.tol] 25) = W0 := ⟨_, rfl⟩
  rw [hW0] at HA HB H0
  have HW := Lib.hid hW0
  clear hA hB hW0
  obtain ⟨z0, z1, z2⟩ := cells3 HB.out
  unfold tyV glV
  by_cases hbig : (1048576 : Int) < x1.met.size
  · go_enter Tryd.func3, Tryd.ntmps3
    go_wp2_with fail
    rw [HW.out]
    refine (sz_goal x1 w1 1048576 (by omega) (by omega) _).mono ?_
    rw [if_pos (show (1048576 : Int) < x1.met.size by omega)]
    rintro e u1 ⟨rfl, hb⟩
    have HB1 := Lib.hid (H0.out.trans (hb.mono H0.out.size))
    clear hb
    go_wp2
    go_ret
    exact ⟨rfl, HB1.out⟩
  · obtain ⟨L, hL, hL0⟩ : ∃ L : Int, L = 1048576 - x1.met.size ∧ 0 ≤ L := ⟨_, rfl, by omega⟩
    obtain ⟨v, hv⟩ : ∃ v, mk (usV x0 x1) = v := ⟨_, rfl⟩
    have hsr := fun W => spec_usage x0 x1 w1 W
    have hir := fun W hW => impl_usage x0 x1 w1 W hW
    have hvn : (v.toList != v.toList) = false := by simp
    rw [hv] at hsr hir
    have HE := Lib.hid hE
    clear hv hE
    have hty := fun W => to_tally x0 W
    have hgl := fun W => to_goal x1 W
    unfold tyV glV at hsr hir
    unfold tyV at hty
    unfold glV at hgl
    go_enter Tryd.func3, Tryd.ntmps3
    go_wp2_with fail
    rw [HW.out]
    refine (sz_goal x1 w1 1048576 (by omega) (by omega) _).mono ?_
    rw [if_neg (show ¬ (1048576 : Int) < x1.met.size by omega), ← hL]
    rintro e u1 ⟨rfl, hb⟩
    have HB1 := Lib.hid (H0.out.trans (hb.mono H0.out.size))
    have HT1 := Lib.hid (HA.out.kept hb)
    have HG1 := Lib.hid (HB.out.kept hb)
    clear hb z0 z1 z2 hL
    have HT : Hid (∀ W, Hid (Below u1.heap.size u1 W) → (W.cell? ⟨w.heap.size, 0, none⟩ = some (.int .i64 x0.rdy) ∧ W.cell? ⟨w.heap.size, 1, none⟩ = some (.int .i64 x0.unr) ∧ W.cell? ⟨w.heap.size, 2, none⟩ = some (.int .i64 x0.mis) ∧ W.cell? ⟨w.heap.size, 3, none⟩ = some (.int .i64 x0.sum) ∧ W.cell? ⟨w.heap.size + 1, 0, none⟩ = some (.string x1.met) ∧ W.cell? ⟨w.heap.size + 1, 1, none⟩ = some (.int .i64 x1.tar) ∧ W.cell? ⟨w.heap.size + 1, 2, none⟩ = some (.int .i64 x1.tol))) := fun W hW => by
      obtain ⟨p0, p1, p2, p3⟩ := cells4 (HT1.out.kept hW.out)
      obtain ⟨r0, r1, r2⟩ := cells3 (HG1.out.kept hW.out)
      exact ⟨p0, p1, p2, p3, r0, r1, r2⟩
    have HBD : Hid (Below u1.heap.size u1 u1.drew) := (Below.refl _ _).drew
    go_wp2_with fail
    go_region_held3 (fun w' => w'.cell? ⟨w.heap.size, 0, none⟩ = some (.int .i64 x0.rdy) ∧ w'.cell? ⟨w.heap.size, 1, none⟩ = some (.int .i64 x0.unr) ∧ w'.cell? ⟨w.heap.size, 2, none⟩ = some (.int .i64 x0.mis) ∧ w'.cell? ⟨w.heap.size, 3, none⟩ = some (.int .i64 x0.sum) ∧ w'.cell? ⟨w.heap.size + 1, 0, none⟩ = some (.string x1.met) ∧ w'.cell? ⟨w.heap.size + 1, 1, none⟩ = some (.int .i64 x1.tar) ∧ w'.cell? ⟨w.heap.size + 1, 2, none⟩ = some (.int .i64 x1.tol))
      (first | exact HT.out _ HV3 | exact HT.out _ HV2 | exact HT.out _ HV1 | exact HT.out _ HBD)
      (first
        | (go_at_call 8; refine (hty _).mono ?_; rintro e v1 ⟨rfl, hb⟩; have HV1 := Lib.hid (HBD.out.trans (hb.mono HBD.out.size)); clear hb)
        | (go_at_call 9; refine (hgl _).mono ?_; rintro e v2 ⟨rfl, hb⟩; have HV2 := Lib.hid (HV1.out.trans (hb.mono HV1.out.size)); clear hb)
        | (go_at_call 7; refine (hsr _).mono ?_; rintro e v3 ⟨rfl, hb⟩; have HV3 := Lib.hid (HV2.out.trans (hb.mono HV2.out.size)); clear hb))
    have HBE : Hid (Below u1.heap.size u1 v3.drew) := HV3.out.drew
    clear HV1 HV2
    go_wp2_with fail
    go_region_held3 (fun w' => w'.cell? ⟨w.heap.size, 0, none⟩ = some (.int .i64 x0.rdy) ∧ w'.cell? ⟨w.heap.size, 1, none⟩ = some (.int .i64 x0.unr) ∧ w'.cell? ⟨w.heap.size, 2, none⟩ = some (.int .i64 x0.mis) ∧ w'.cell? ⟨w.heap.size, 3, none⟩ = some (.int .i64 x0.sum) ∧ w'.cell? ⟨w.heap.size + 1, 0, none⟩ = some (.string x1.met) ∧ w'.cell? ⟨w.heap.size + 1, 1, none⟩ = some (.int .i64 x1.tar) ∧ w'.cell? ⟨w.heap.size + 1, 2, none⟩ = some (.int .i64 x1.tol))
      (first | exact HT.out _ HV6 | exact HT.out _ HV5 | exact HT.out _ HV4 | exact HT.out _ HBE)
      (first
        | (go_at_call 8; refine (hty _).mono ?_; rintro e v4 ⟨rfl, hb⟩; have HV4 := Lib.hid (HBE.out.trans (hb.mono HBE.out.size)); clear hb)
        | (go_at_call 9; refine (hgl _).mono ?_; rintro e v5 ⟨rfl, hb⟩; have HV5 := Lib.hid (HV4.out.trans (hb.mono HV4.out.size)); clear hb)
        | (go_at_call 10; refine (hir _ (HE.out.kept (HB1.out.trans (HV5.out.mono HB1.out.size)))).mono ?_; rintro e v6 ⟨rfl, hb⟩; have HV6 := Lib.hid (HV5.out.trans (hb.mono HV5.out.size)); clear hb))
    have HBX := Lib.hid (HB1.out.trans (HV6.out.mono HB1.out.size))
    go_wp2
    go_ret
    exact ⟨rfl, HBX.out⟩

set_option maxRecDepth 100000 in
theorem contract (H : Type) (enc : TypeId × Value → H) (W : World) (base : Nat) (args : Array Value) (ds gs : List (DataW H)) (before : List MemPlace)
    (hval : ∀ (j : Nat) t v, Tryd.f3.params[j]? = some t → args[j]? = some v → Value.okWide Tryd.prog W .any base t v)
    (hW : DataW.Whole enc Tryd.prog Tryd.f3.params.toList Rows.fnExactUsageTextSpec.vars false W args.toList ds gs before) (hL : laidMetH Tryd.prog Rows.fnExactUsageTextRow.laid W) (hsh : W.ShapedOpen Tryd.prog) :
    Calls Tryd.prog 3 args W fun e W' => ∃ v, e = .returned v ∧ Rows.fnExactUsageTextSpec.post enc Tryd.prog Tryd.f3 false true false false W args v W' := by
  have hW' := hW
  obtain ⟨p, q, hA0, hV, rfl, hfz, hnd⟩ := hW
  have hA : DataW.TrodAll enc Tryd.prog W 0 (fun _ => true) true Tryd.f3.params.toList args.toList ds p := hA0
  rw [Tryd.params3] at hA hval
  obtain ⟨v0, vs0, d0, ds0, p0, q0, hargs, rfl, rfl, h0, r0⟩ := trodAll_cons hA
  obtain ⟨v1, vs1, d1, ds1, p1, q1, rfl, rfl, rfl, h1, r1⟩ := trodAll_cons r0
  obtain ⟨rfl, rfl, rfl⟩ := trodAll_nil r1
  obtain rfl : args = #[v0, v1] := by cases args; simp_all
  obtain ⟨rfl, rfl⟩ := trodVars_none hV
  have k0 := h0
  have lt0 : ∀ x ∈ p0, x.block < W.heap.size := by obtain ⟨m, hm⟩ := k0; exact DataW.trod_lt m _ _ _ hm
  have k1 := h1
  have lt1 : ∀ x ∈ p1, x.block < W.heap.size := by obtain ⟨m, hm⟩ := k1; exact DataW.trod_lt m _ _ _ hm
  obtain ⟨c0_0, c1_0, c2_0, c3_0, y0_0, y1_0, y2_0, y3_0, m_0, rfl, rfl, rfl, g0_0, g1_0, g2_0, g3_0⟩ := open_agg4 Tryd.underlying23 (by kernel_rfl) (by kernel_rfl) (hval 0 23 v0 rfl rfl) h0
  obtain ⟨p0, e0_0, rfl, u0_0⟩ := DataW.trod_int Tryd.underlying3 g0_0
  obtain ⟨q0, e1_0, rfl, u1_0⟩ := DataW.trod_int Tryd.underlying3 g1_0
  obtain ⟨v0, e2_0, rfl, u2_0⟩ := DataW.trod_int Tryd.underlying3 g2_0
  obtain ⟨t0, e3_0, rfl, u3_0⟩ := DataW.trod_int Tryd.underlying3 g3_0
  simp at e0_0 e1_0 e2_0 e3_0
  subst e0_0 e1_0 e2_0 e3_0
  have w0 : Ty.wf ⟨p0, q0, v0, t0⟩ := ⟨bounds_i64 u0_0, bounds_i64 u1_0, bounds_i64 u2_0, bounds_i64 u3_0⟩
  obtain ⟨c0_1, c1_1, c2_1, y0_1, y1_1, y2_1, m_1, rfl, rfl, rfl, g0_1, g1_1, g2_1⟩ := open_agg3 Tryd.underlying25 (by kernel_rfl) (by kernel_rfl) (hval 1 25 v1 rfl rfl) h1
  obtain ⟨p1, e0_1, rfl, u0_1⟩ := DataW.trod_string Tryd.underlying9 g0_1
  obtain ⟨q1, e1_1, rfl, u1_1⟩ := DataW.trod_int Tryd.underlying3 g1_1
  obtain ⟨v1, e2_1, rfl, u2_1⟩ := DataW.trod_int Tryd.underlying3 g2_1
  simp at e0_1 e1_1 e2_1
  subst e0_1 e1_1 e2_1
  have w1 : Gl.wf ⟨p1, q1, v1⟩ := ⟨u0_1, bounds_i64 u1_1, bounds_i64 u2_1⟩
  have hE : Env W := ⟨tab_of (met_of hL), hsh⟩
  clear hA0
  refine (walk ⟨p0, q0, v0, t0⟩ ⟨p1, q1, v1⟩ W w0 w1 hE).mono fun e W' ⟨he, bel⟩ => ?_
  subst he
  exact ⟨_, rfl, _, _, _, [], _, [], hW', trodAll_mk1 (shut_bool Tryd.underlying4 _), (trodAll_cons_mk (Below.trod laidOut (by kernel_rfl) (of_decide_eq_true (by kernel_rfl)) k0 bel lt0) (trodAll_cons_mk (Below.trod laidOut (by kernel_rfl) (of_decide_eq_true (by kernel_rfl)) k1 bel lt1) trodAll_mk0)), rfl, bel.frame _, fun h => by cases h⟩

/-- A world for the witness: the settled one, each listed variable laid. -/
noncomputable def laidWorld (os : Os) : World :=
  { World.holding Tryd.prog os ⟨#[], #[], []⟩ with heap := ((((((World.holding Tryd.prog os ⟨#[], #[], []⟩).heap.modify 4 fun
      | .cells _ t frozen => .cells #[.int .u8 0, .int .u8 1, .int .u8 28, .int .u8 2, .int .u8 29, .int .u8 14, .int .u8 24, .int .u8 3, .int .u8 30, .int .u8 22, .int .u8 20, .int .u8 15, .int .u8 25, .int .u8 17, .int .u8 4, .int .u8 8, .int .u8 31, .int .u8 27, .int .u8 13, .int .u8 23, .int .u8 21, .int .u8 19, .int .u8 16, .int .u8 7, .int .u8 26, .int .u8 12, .int .u8 18, .int .u8 6, .int .u8 11, .int .u8 5, .int .u8 10, .int .u8 9] t frozen
      | o => o).modify 5 fun
      | .cells _ t frozen => .cells #[.int .u8 0, .int .u8 1, .int .u8 56, .int .u8 2, .int .u8 57, .int .u8 49, .int .u8 28, .int .u8 3, .int .u8 61, .int .u8 58, .int .u8 42, .int .u8 50, .int .u8 38, .int .u8 29, .int .u8 17, .int .u8 4, .int .u8 62, .int .u8 47, .int .u8 59, .int .u8 36, .int .u8 45, .int .u8 43, .int .u8 51, .int .u8 22, .int .u8 53, .int .u8 39, .int .u8 33, .int .u8 30, .int .u8 24, .int .u8 18, .int .u8 12, .int .u8 5, .int .u8 63, .int .u8 55, .int .u8 48, .int .u8 27, .int .u8 60, .int .u8 41, .int .u8 37, .int .u8 16, .int .u8 46, .int .u8 35, .int .u8 44, .int .u8 21, .int .u8 52, .int .u8 32, .int .u8 23, .int .u8 11, .int .u8 54, .int .u8 26, .int .u8 40, .int .u8 15, .int .u8 34, .int .u8 20, .int .u8 31, .int .u8 10, .int .u8 25, .int .u8 14, .int .u8 19, .int .u8 9, .int .u8 13, .int .u8 8, .int .u8 7, .int .u8 6] t frozen
      | o => o).modify 2 fun
      | .cells _ t frozen => .cells #[.int .u64 1, .int .u64 10, .int .u64 100, .int .u64 1000, .int .u64 10000, .int .u64 100000, .int .u64 1000000, .int .u64 10000000, .int .u64 100000000, .int .u64 1000000000, .int .u64 10000000000, .int .u64 100000000000, .int .u64 1000000000000, .int .u64 10000000000000, .int .u64 100000000000000, .int .u64 1000000000000000, .int .u64 10000000000000000, .int .u64 100000000000000000, .int .u64 1000000000000000000, .int .u64 10000000000000000000] t frozen
      | o => o).modify 7 fun
      | .cells _ t frozen => .cells #[.int .u8 128, .int .u8 191, .int .u8 160, .int .u8 191, .int .u8 128, .int .u8 159, .int .u8 144, .int .u8 191, .int .u8 128, .int .u8 143, .int .u8 0, .int .u8 0, .int .u8 0, .int .u8 0, .int .u8 0, .int .u8 0, .int .u8 0, .int .u8 0, .int .u8 0, .int .u8 0, .int .u8 0, .int .u8 0, .int .u8 0, .int .u8 0, .int .u8 0, .int .u8 0, .int .u8 0, .int .u8 0, .int .u8 0, .int .u8 0, .int .u8 0, .int .u8 0] t frozen
      | o => o).modify 6 fun
      | .cells _ t frozen => .cells (Go.Pinned.utf8FirstZ.map fun z : Nat => Value.int .u8 (z : Int)).toArray t frozen
      | o => o) }
theorem laid_met (os : Os) : laidMet Tryd.prog Rows.fnExactUsageTextRow.laid ((laidWorld os).forCall (fun _ _ => 0) ⟨#[], #[.agg #[.int .i64 0, .int .i64 0, .int .i64 0, .int .i64 0], .agg #[.string ⟨#[]⟩, .int .i64 0, .int .i64 0]], []⟩).memory :=
  laidMet_of_run' 8 (by kernel_rfl) (by kernel_rfl)
theorem reads (os : Os) {H : Type} (enc : TypeId × Value → H) : ∃ places, DataW.whole enc Tryd.prog ((laidWorld os).forCall (fun _ _ => 0) ⟨#[], #[.agg #[.int .i64 0, .int .i64 0, .int .i64 0, .int .i64 0], .agg #[.string ⟨#[]⟩, .int .i64 0, .int .i64 0]], []⟩).memory Tryd.f3.params.toList Rows.fnExactUsageTextSpec.vars false (#[.agg #[.int .i64 0, .int .i64 0, .int .i64 0, .int .i64 0], .agg #[.string ⟨#[]⟩, .int .i64 0, .int .i64 0]] : Array Value).toList 8 = some ([.agg [.lit (.int .i64 0), .lit (.int .i64 0), .lit (.int .i64 0), .lit (.int .i64 0)], .agg [.lit (.string []), .lit (.int .i64 0), .lit (.int .i64 0)]], [], places) :=
  ⟨[], by kernel_rfl⟩

set_option maxRecDepth 100000 in
theorem lifted (os : Os) (started : os.Started) (H : Type) (enc : TypeId × Value → H) (F : Stop.Interp) :
    ReturnsInHanded {} Tryd.checked os 3 .any ((OpenSpec.ofChange Rows.fnExactUsageTextSpec).preRow enc Tryd.prog Tryd.f3 Rows.fnExactUsageTextRow.domain false Rows.fnExactUsageTextRow.laid) (((OpenSpec.ofChange Rows.fnExactUsageTextSpec).at F).post enc Tryd.prog Tryd.f3 false true false false) := by
  obtain ⟨places, hx⟩ := reads os enc
  refine returnsInHanded_of_row (C := Tryd.checked) (s := OpenSpec.ofChange Rows.fnExactUsageTextSpec) own started (by kernel_rfl) Tryd.func3
    (witness_row_at (enc := enc) (C := Tryd.checked) false (laidWorld os) #[.agg #[.int .i64 0, .int .i64 0, .int .i64 0, .int .i64 0], .agg #[.string ⟨#[]⟩, .int .i64 0, .int .i64 0]] rfl (by kernel_rfl) (by kernel_rfl) (by kernel_rfl)
      (OpenSpec.preRow_of_cond 8 hx (by kernel_rfl) (fun k hk => by cases hk) (by kernel_rfl) (laid_met os))) ?_
  intro W base args ds gs before hval hW _ _ _ hL hsh _
  exact contract H enc W base args ds gs before hval hW hL hsh

theorem said : Rows.FnExactUsageTextSaid :=
  OpenClaim.holds_of_cond 3 Tryd.f3 rfl rfl rfl rfl rfl rfl rfl ⟨rfl, rfl, rfl, rfl, rfl⟩ rfl rfl rfl rfl rfl (by kernel_rfl) Tryd.func3 (by kernel_rfl)
    (of_decide_eq_true (by kernel_rfl)) (by unfold Func.isWrapper; first | (rw [if_pos (by decide +kernel)]; kernel_rfl) | (rw [if_neg (by decide +kernel)]; exact ⟨rfl, rfl⟩))
    (fun os started H enc _ F => by rw [OpenClaim.pre_eq_preRow]; exact lifted os started H enc F)

theorem plain (f : FuncId) (fn : Func) (hf : Tryd.pinned.checked.prog.funcNamed "loop.example/g00808/laws.FnExactUsageText" = some f) (hfn : Tryd.pinned.checked.prog.funcs[f]? = some fn) :
    true = Tryd.pinned.checked.prog.looks [] ∧ ∀ (j : Nat) t, fn.params[j]? = some t → Tryd.pinned.checked.prog.wantsStandIn t = false := by
  obtain rfl : f = 3 := Option.some.inj ((show Tryd.prog.funcNamed "loop.example/g00808/laws.FnExactUsageText" = some 3 by kernel_rfl).symm.trans hf) |>.symm
  obtain rfl : fn = Tryd.f3 := (Option.some.inj (Tryd.func3.symm.trans hfn)).symm
  refine ⟨by kernel_rfl, fun j t ht => ?_⟩
  rw [Tryd.params3] at ht
  have hm := Array.mem_of_getElem? ht
  simp at hm
  rcases hm with rfl | rfl
  · exact (show Tryd.prog.wantsStandIn 23 = false by kernel_rfl)
  · exact (show Tryd.prog.wantsStandIn 25 = false by kernel_rfl)
/-- THE CARD. -/
theorem proved : Rows.FnExactUsageTextCardSaid :=
  Claim7.holds_tied_plain_at .later [] _ _ _ _ said (fun _ h => by cases h) (by kernel_rfl) (fun _ h => by cases h) fnExactUsageText_row_tie rfl ⟨rfl, rfl⟩ (by kernel_rfl) rfl plain (by kernel_rfl)
end Go.Proofs.YtimpajhgplkpmabDoor.fnExactUsageText
