/- For every input that can be read, the Go function laws.FnExactCondName returns true and leaves its arguments as they read: the tied card Rows.FnExactCondNameCardSaid; the row lists 1 variables of Go's own library with what they hold, and the card ties that to the text of the pruned copy of the program. -/
import Derived.Test.YtgmdfkmmbcpikaaDoorCards
import Derived.Test.YtgmdfkmmbcpikaaDoorTie
import Derived.WalkKit
import Derived.ProofKit
import Derived.OpenShut
import Derived.ShutString
import Derived.ChangeOld
import Derived.Below
import Derived.Deep.DeepHandedRow
import Derived.Lib.LaidTab
import Derived.Stop.LaidErr
import Derived.OpenVars
import Derived.OpenShut
import Derived.LaidMore
import Derived.Test.YtgmdfkmmbcpikaaDoorC1
import Derived.Test.YtgmdfkmmbcpikaaDoorC2
import Derived.Test.YtgmdfkmmbcpikaaDoorMilli
import Derived.Test.YtgmdfkmmbcpikaaDoorMt
import Derived.Test.YtgmdfkmmbcpikaaDoorCnd
namespace Go.Proofs.YtgmdfkmmbcpikaaDoor.fnExactCondName
open Go.ChangeShapes Go.WideShapes Go.ChangeAt Go.RowKit
open Go.ChangeMaps (open_string shut_string)
open Go.Proofs.YtgmdfkmmbcpikaaDoor.C1
open Go.Proofs.YtgmdfkmmbcpikaaDoor.C2
open Go.Proofs.YtgmdfkmmbcpikaaDoor.Milli
open Go.Proofs.YtgmdfkmmbcpikaaDoor.Mt
open Go.Proofs.YtgmdfkmmbcpikaaDoor.Cnd
set_option linter.unusedVariables false

theorem own : ownKnob Tryd.prog.godebug = none := by kernel_rfl
theorem laidOut : laidOutB Tryd.prog = true := by kernel_rfl
theorem met_of {W : World} (h : laidMetH Tryd.prog Rows.fnExactCondNameRow.laid W) : laidMet Tryd.prog Rows.fnExactCondNameRow.laid W := h
theorem listN {α : Type} {l : List α} (h : l.length = 6) : ∃ a0 a1 a2 a3 a4 a5, l = [a0, a1, a2, a3, a4, a5] := by
  match l, h with
  | [a0, a1, a2, a3, a4, a5], _ => exact ⟨a0, a1, a2, a3, a4, a5, rfl⟩
theorem condsC : Tryd.prog.cellsOf 9 = 1 := by kernel_rfl
theorem condsA : Tryd.prog.cellsOf 40 = 6 := by kernel_rfl
set_option maxRecDepth 100000 in
theorem conds_of {W : World} (h : laidMet Tryd.prog Rows.fnExactCondNameRow.laid W) : Cnd.Conds W := by
  have h1 : laidMet Tryd.prog (("loop.example/g00808/impl.condNames", Rows.laid_loop_example_g00808_impl_condNames) :: []) W := h
  obtain ⟨ps, ⟨g, t, cs, fuel, p, q, hg, ht, hv, hd, _, _⟩, _, _⟩ := h1
  obtain rfl := Option.some.inj ((show Tryd.prog.globalNamed "loop.example/g00808/impl.condNames" = some 0 by kernel_rfl).symm.trans hg)
  obtain rfl := Option.some.inj ((show (Tryd.prog.globals[0]?).map (·.type) = some 40 by kernel_rfl).symm.trans ht)
  obtain ⟨xs, m, _, ex, hlen, hl, hel⟩ := DataW.trod_array Tryd.underlying40 hd
  rw [condsA] at hlen
  obtain ⟨l⟩ := cs
  have hcs : W.var? Tryd.prog "loop.example/g00808/impl.condNames" = some #[.string (Milli.mk (Cnd.condL 0)), .string (Milli.mk (Cnd.condL 1)), .string (Milli.mk (Cnd.condL 2)), .string (Milli.mk (Cnd.condL 3)), .string (Milli.mk (Cnd.condL 4)), .string (Milli.mk (Cnd.condL 5))] := by
        obtain ⟨a0, a1, a2, a3, a4, a5, rfl⟩ := listN (show l.length = 6 from hlen)
        obtain ⟨x0, x1, x2, x3, x4, x5, rfl⟩ := listN hl
        have e3 := (DataW.agg.inj (Prod.mk.inj ex).1)
        simp only [List.map_cons, List.map_nil, List.cons.injEq, and_true] at e3
        have k0 := hel 0 (by omega); have k1 := hel 1 (by omega); have k2 := hel 2 (by omega); have k3 := hel 3 (by omega); have k4 := hel 4 (by omega); have k5 := hel 5 (by omega)
        rw [condsC] at k0 k1 k2 k3 k4 k5
        obtain ⟨z0, q0, b0, _⟩ := DataW.trod_string Tryd.underlying9 k0
        obtain ⟨z1, q1, b1, _⟩ := DataW.trod_string Tryd.underlying9 k1
        obtain ⟨z2, q2, b2, _⟩ := DataW.trod_string Tryd.underlying9 k2
        obtain ⟨z3, q3, b3, _⟩ := DataW.trod_string Tryd.underlying9 k3
        obtain ⟨z4, q4, b4, _⟩ := DataW.trod_string Tryd.underlying9 k4
        obtain ⟨z5, q5, b5, _⟩ := DataW.trod_string Tryd.underlying9 k5
        rw [hv]
        obtain ⟨e0_, e1_, e2_, e3_, e4_, e5_⟩ := e3
        rw [b0] at e0_
        rw [b1] at e1_
        rw [b2] at e2_
        rw [b3] at e3_
        rw [b4] at e4_
        rw [b5] at e5_
        have f0 : z0 = Milli.mk (Cnd.condL 0) := by rw [← Milli.mk_of z0, ← Lit.string.inj (DataW.lit.inj e0_)]; rfl
        have f1 : z1 = Milli.mk (Cnd.condL 1) := by rw [← Milli.mk_of z1, ← Lit.string.inj (DataW.lit.inj e1_)]; rfl
        have f2 : z2 = Milli.mk (Cnd.condL 2) := by rw [← Milli.mk_of z2, ← Lit.string.inj (DataW.lit.inj e2_)]; rfl
        have f3 : z3 = Milli.mk (Cnd.condL 3) := by rw [← Milli.mk_of z3, ← Lit.string.inj (DataW.lit.inj e3_)]; rfl
        have f4 : z4 = Milli.mk (Cnd.condL 4) := by rw [← Milli.mk_of z4, ← Lit.string.inj (DataW.lit.inj e4_)]; rfl
        have f5 : z5 = Milli.mk (Cnd.condL 5) := by rw [← Milli.mk_of z5, ← Lit.string.inj (DataW.lit.inj e5_)]; rfl
        have g0 : a0 = .string z0 := (List.cons.inj (show [a0] = [Value.string z0] from q0)).1
        have g1 : a1 = .string z1 := (List.cons.inj (show [a1] = [Value.string z1] from q1)).1
        have g2 : a2 = .string z2 := (List.cons.inj (show [a2] = [Value.string z2] from q2)).1
        have g3 : a3 = .string z3 := (List.cons.inj (show [a3] = [Value.string z3] from q3)).1
        have g4 : a4 = .string z4 := (List.cons.inj (show [a4] = [Value.string z4] from q4)).1
        have g5 : a5 = .string z5 := (List.cons.inj (show [a5] = [Value.string z5] from q5)).1
        rw [g0, g1, g2, g3, g4, g5, f0, f1, f2, f3, f4, f5]
  have hlt : 0 < W.heap.size := by
    have hc := World.var?_cell (show Tryd.prog.globalNamed "loop.example/g00808/impl.condNames" = some 0 by kernel_rfl) hcs 0
    by_cases hn : 0 < W.heap.size
    · exact hn
    · have hx : W.heap[0]? = none := Array.getElem?_eq_none (by omega)
      simp [World.cell?, hx] at hc
  refine ⟨hlt, fun k hk => ?_⟩
  rw [World.var?_cell (show Tryd.prog.globalNamed "loop.example/g00808/impl.condNames" = some 0 by kernel_rfl) hcs k]
  have : k = 0 ∨ k = 1 ∨ k = 2 ∨ k = 3 ∨ k = 4 ∨ k = 5 := by omega
  rcases this with rfl | rfl | rfl | rfl | rfl | rfl <;> rfl
set_option maxHeartbeats 4000000 in
set_option maxRecDepth 100000 in
theorem walk (a0 : Int) (w : World) (w0 : (Lit.int .i64 a0).wf = true) (hCd : Cnd.Conds w) :
    Calls Tryd.prog 3 #[.int .i64 a0] w fun e w' => e = .returned (.bool true) ∧ Below w.heap.size w w' := by
  have HCD := Lib.hid hCd
  clear hCd
  have hsp := fun w => spec_cond a0 w
  have him := fun w hc => impl_cond a0 w hc
  obtain ⟨v, hv⟩ : ∃ v, mk (condT a0) = v := ⟨_, rfl⟩
  simp only [hv] at hsp him
  have HSP := Lib.hid hsp
  have HIM := Lib.hid him
  clear hv hsp him
  go_enter Tryd.func3, Tryd.ntmps3
  go_wp2_with (first
    | (go_at_call 6; refine (HSP.out _).mono ?_; rintro e w1 ⟨rfl, hb1⟩)
    | (go_at_call 7; refine (HIM.out _ (HCD.out.kept hb1)).mono ?_; rintro e w2 ⟨rfl, hb2⟩))
  go_ret
  exact ⟨rfl, hb1.trans (hb2.mono hb1.size)⟩

set_option maxRecDepth 100000 in
theorem contract (H : Type) (enc : TypeId × Value → H) (W : World) (base : Nat) (args : Array Value) (ds gs : List (DataW H)) (before : List MemPlace)
    (hval : ∀ (j : Nat) t v, Tryd.f3.params[j]? = some t → args[j]? = some v → Value.okWide Tryd.prog W .any base t v)
    (hW : DataW.Whole enc Tryd.prog Tryd.f3.params.toList Rows.fnExactCondNameSpec.vars false W args.toList ds gs before) (hL : laidMetH Tryd.prog Rows.fnExactCondNameRow.laid W) (hsh : W.ShapedOpen Tryd.prog) :
    Calls Tryd.prog 3 args W fun e W' => ∃ v, e = .returned v ∧ Rows.fnExactCondNameSpec.post enc Tryd.prog Tryd.f3 false true false false W args v W' := by
  have hW' := hW
  obtain ⟨p, q, hA0, hV, rfl, hfz, hnd⟩ := hW
  have hA : DataW.TrodAll enc Tryd.prog W 0 (fun _ => true) true Tryd.f3.params.toList args.toList ds p := hA0
  rw [Tryd.params3] at hA hval
  obtain ⟨v0, vs0, d0, ds0, p0, q0, hargs, rfl, rfl, h0, r0⟩ := trodAll_cons hA
  obtain ⟨rfl, rfl, rfl⟩ := trodAll_nil r0
  obtain rfl : args = #[v0] := by cases args; simp_all
  obtain ⟨g9, t9, cs9, fu9, d9, p9, rfl, -⟩ := trodVars_one hV
  have k0 := h0
  have lt0 : ∀ x ∈ p0, x.block < W.heap.size := by obtain ⟨m, hm⟩ := k0; exact DataW.trod_lt m _ _ _ hm
  obtain ⟨a0, rfl, rfl, rfl, w0⟩ := open_int Tryd.underlying3 (hval 0 3 v0 rfl rfl) h0
  clear hA0
  refine (walk a0 W w0 (conds_of (met_of hL))).mono fun e W' ⟨he, bel⟩ => ?_
  subst he
  exact ⟨_, rfl, _, _, _, [], _, q, hW', trodAll_mk1 (shut_bool Tryd.underlying4 _), (trodAll_cons_mk (shut_int Tryd.underlying3 w0) trodAll_mk0), bel.trodVars laidOut (by kernel_rfl) hV, bel.frame _, fun h => by cases h⟩

/-- A world for the witness: the settled one, each listed variable laid. -/
noncomputable def laidWorld (os : Os) : World :=
  { World.holding Tryd.prog os ⟨#[], #[], []⟩ with heap := ((World.holding Tryd.prog os ⟨#[], #[], []⟩).heap.modify 0 fun
      | .cells _ t frozen => .cells #[.string ⟨#[110, 111, 110, 101]⟩, .string ⟨#[111, 102, 102]⟩, .string ⟨#[98, 108, 105, 110, 100]⟩, .string ⟨#[115, 116, 101, 97, 100, 121]⟩, .string ⟨#[109, 111, 118, 101, 100]⟩, .string ⟨#[102, 97, 117, 108, 116]⟩] t frozen
      | o => o) }
theorem laid_met (os : Os) : laidMet Tryd.prog Rows.fnExactCondNameRow.laid ((laidWorld os).forCall (fun _ _ => 0) ⟨#[], #[.int .i64 0], []⟩).memory :=
  laidMet_of_run' 8 (by kernel_rfl) (by kernel_rfl)
theorem reads (os : Os) {H : Type} (enc : TypeId × Value → H) : ∃ places, DataW.whole enc Tryd.prog ((laidWorld os).forCall (fun _ _ => 0) ⟨#[], #[.int .i64 0], []⟩).memory Tryd.f3.params.toList Rows.fnExactCondNameSpec.vars false (#[.int .i64 0] : Array Value).toList 8 = some ([.lit (.int .i64 0)], [Rows.laid_loop_example_g00808_impl_condNames], places) :=
  ⟨MemPlace.row ⟨0, 0, none⟩ 6 ++ [], by kernel_rfl⟩

set_option maxRecDepth 100000 in
theorem lifted (os : Os) (started : os.Started) (H : Type) (enc : TypeId × Value → H) (F : Stop.Interp) :
    ReturnsInHanded {} Tryd.checked os 3 .any ((OpenSpec.ofChange Rows.fnExactCondNameSpec).preRow enc Tryd.prog Tryd.f3 Rows.fnExactCondNameRow.domain false Rows.fnExactCondNameRow.laid) (((OpenSpec.ofChange Rows.fnExactCondNameSpec).at F).post enc Tryd.prog Tryd.f3 false true false false) := by
  obtain ⟨places, hx⟩ := reads os enc
  refine returnsInHanded_of_row (C := Tryd.checked) (s := OpenSpec.ofChange Rows.fnExactCondNameSpec) own started (by kernel_rfl) Tryd.func3
    (witness_row_at (enc := enc) (C := Tryd.checked) false (laidWorld os) #[.int .i64 0] rfl (by kernel_rfl) (by kernel_rfl) (by kernel_rfl)
      (OpenSpec.preRow_of_cond 8 hx (by kernel_rfl) (fun k hk => by cases hk) (by kernel_rfl) (laid_met os))) ?_
  intro W base args ds gs before hval hW _ _ _ hL hsh _
  exact contract H enc W base args ds gs before hval hW hL hsh

theorem said : Rows.FnExactCondNameSaid :=
  OpenClaim.holds_of_cond 3 Tryd.f3 rfl rfl rfl rfl rfl rfl rfl ⟨rfl, rfl, rfl, rfl, rfl⟩ rfl rfl rfl rfl rfl (by kernel_rfl) Tryd.func3 (by kernel_rfl)
    (of_decide_eq_true (by kernel_rfl)) (by unfold Func.isWrapper; first | (rw [if_pos (by decide +kernel)]; kernel_rfl) | (rw [if_neg (by decide +kernel)]; exact ⟨rfl, rfl⟩))
    (fun os started H enc _ F => by rw [OpenClaim.pre_eq_preRow]; exact lifted os started H enc F)

theorem plain (f : FuncId) (fn : Func) (hf : Tryd.pinned.checked.prog.funcNamed "loop.example/g00808/laws.FnExactCondName" = some f) (hfn : Tryd.pinned.checked.prog.funcs[f]? = some fn) :
    true = Tryd.pinned.checked.prog.looks [] ∧ ∀ (j : Nat) t, fn.params[j]? = some t → Tryd.pinned.checked.prog.wantsStandIn t = false := by
  obtain rfl : f = 3 := Option.some.inj ((show Tryd.prog.funcNamed "loop.example/g00808/laws.FnExactCondName" = some 3 by kernel_rfl).symm.trans hf) |>.symm
  obtain rfl : fn = Tryd.f3 := (Option.some.inj (Tryd.func3.symm.trans hfn)).symm
  refine ⟨by kernel_rfl, fun j t ht => ?_⟩
  rw [Tryd.params3] at ht
  have hm := Array.mem_of_getElem? ht
  simp at hm
  subst hm
  exact (show Tryd.prog.wantsStandIn 3 = false by kernel_rfl)
/-- THE CARD. -/
theorem proved : Rows.FnExactCondNameCardSaid :=
  Claim7.holds_tied_plain_at .later [] _ _ _ _ said (fun _ h => by cases h) (by kernel_rfl) (fun _ h => by cases h) fnExactCondName_row_tie rfl ⟨rfl, rfl⟩ (by kernel_rfl) rfl plain (by kernel_rfl)
end Go.Proofs.YtgmdfkmmbcpikaaDoor.fnExactCondName
