/- For every input that can be read, the Go function laws.FnMillis returns true and leaves its arguments as they read: the tied card Rows.FnMillisCardSaid; the row lists 7 variables of Go's own library with what they hold, and the card ties that to the text of the pruned copy of the program. -/
import Derived.Test.YtnojeoeccohhlaaDoorCards
import Derived.Test.YtnojeoeccohhlaaDoorTie
import Derived.WalkKit
import Derived.ProofKit
import Derived.OpenShut
import Derived.ShutString
import Derived.ChangeOld
import Derived.Below
import Derived.Deep.DeepHandedRow
import Derived.Lib.LaidTab
import Derived.Deep.DeepWitnessRowRef
import Derived.Stop.LaidErr
import Derived.Test.YtnojeoeccohhlaaDoorC1
import Derived.Test.YtnojeoeccohhlaaDoorInts
import Derived.Test.YtnojeoeccohhlaaDoorC1L
import Derived.Test.YtnojeoeccohhlaaDoorMilli
import Derived.Test.YtnojeoeccohhlaaDoorMilliP
import Derived.Test.YtnojeoeccohhlaaDoorMt
import Derived.Test.YtnojeoeccohhlaaDoorMp
import Derived.Test.YtnojeoeccohhlaaDoorDraw
import Derived.Test.YtnojeoeccohhlaaDoorDraw2
import Derived.Test.YtnojeoeccohhlaaDoorEx2
namespace Go.Proofs.YtnojeoeccohhlaaDoor.fnMillis
open Go.ChangeShapes Go.WideShapes Go.ChangeAt Go.RowKit
open Go.ChangeMaps (open_string shut_string)
open Go.Proofs.YtnojeoeccohhlaaDoor.C1
open Go.Proofs.YtnojeoeccohhlaaDoor.Ints
open Go.Proofs.YtnojeoeccohhlaaDoor.C1L
open Go.Proofs.YtnojeoeccohhlaaDoor.Milli
open Go.Proofs.YtnojeoeccohhlaaDoor.MilliP
open Go.Proofs.YtnojeoeccohhlaaDoor.Mt
open Go.Proofs.YtnojeoeccohhlaaDoor.Mp
open Go.Proofs.YtnojeoeccohhlaaDoor.Draw
open Go.Proofs.YtnojeoeccohhlaaDoor.Draw2
open Go.Proofs.YtnojeoeccohhlaaDoor.Ex2
set_option linter.unusedVariables false

theorem own : ownKnob Tryd.prog.godebug = none := by kernel_rfl
theorem laidOut : laidOutB Tryd.prog = true := by kernel_rfl
def IsRow (k : IntKind) (w : World) (a : Option Addr) (len cap : Nat) (zs : List Int) : Prop :=
  (a = none ∧ len = 0 ∧ cap = 0 ∧ zs = []) ∨
  ∃ x, a = some x ∧ len ≤ cap ∧ cap ≤ maxLen ∧ zs.length = cap ∧ (∀ i, i < zs.length → w.cell? (x.add i) = some (.int k (zs.getD i 0))) ∧ ∀ n ∈ zs, (Lit.int k n).wf = true
theorem powType : (Tryd.prog.globals[3]?).map (·.type) = some 97 := by kernel_rfl
theorem cellsA : Tryd.prog.cellsOf 97 = 20 := by kernel_rfl
theorem cellsU : Tryd.prog.cellsOf 47 = 1 := by kernel_rfl
theorem powData : (Rows.laid_internal_strconv_uint64pow10 : DataW Unit) = Lib.tabData .u64 Lib.pow10Tab := by kernel_rfl
theorem met_of {W : World} (h : laidMetH Tryd.prog Rows.fnMillisRow.laid W) : laidMet Tryd.prog Rows.fnMillisRow.laid W := h
theorem tab_of {W : World} (h : laidMet Tryd.prog Rows.fnMillisRow.laid W) : Lib.TabIs Tryd.prog W "internal/strconv.uint64pow10" .u64 Lib.pow10Tab := by
  have h1 : laidMet Tryd.prog (("internal/strconv.uint64pow10", Lib.tabData .u64 Lib.pow10Tab) :: [("unicode/utf8.acceptRanges", Rows.laid_unicode_utf8_acceptRanges), ("strconv.ErrRange", Rows.laid_strconv_ErrRange), ("strconv.ErrSyntax", Rows.laid_strconv_ErrSyntax), ("unicode/utf8.first", Rows.laid_unicode_utf8_first)]) W := by
    rw [← powData]
    exact h.tail.tail
  exact Lib.tabIs_of_head gPow powType Tryd.underlying97 Tryd.underlying47 cellsU cellsA h1
theorem cellsE : Tryd.prog.cellsOf 107 = 1 := by kernel_rfl
theorem cellsS : Tryd.prog.cellsOf 9 = 1 := by kernel_rfl
theorem star : "*" ++ "errors.errorString" = "*errors.errorString" := by decide
theorem oneRow (u : TypeId) (h : Tryd.prog.typeName? 3 u = some "*errors.errorString") : u = 105 :=
  typeName_ptr_named (nm := "errors.errorString") (by rw [star]; kernel_rfl) (by kernel_rfl) (by decide) u (by rw [star]; exact h)
theorem syn_ofType : (Tryd.prog.globals[1]?).map (·.type) = some 49 := by kernel_rfl
theorem syn_of {W : World} (h : laidMet Tryd.prog Rows.fnMillisRow.laid W) : ∃ tp p, W.var? Tryd.prog "strconv.ErrSyntax" = some #[.iface tp p] := by
  obtain ⟨a0, s0, hv0, -, -, -⟩ := laid_sentinel (h.tail.tail.tail.tail.tail) gSyn syn_ofType Tryd.underlying49 oneRow Tryd.underlying105 Tryd.underlying107 rfl rfl Tryd.underlying9 cellsE cellsS
  exact ⟨_, _, hv0⟩
theorem rng_ofType : (Tryd.prog.globals[2]?).map (·.type) = some 49 := by kernel_rfl
theorem rng_of {W : World} (h : laidMet Tryd.prog Rows.fnMillisRow.laid W) : ∃ tp p, W.var? Tryd.prog "strconv.ErrRange" = some #[.iface tp p] := by
  obtain ⟨a0, s0, hv0, -, -, -⟩ := laid_sentinel (h.tail.tail.tail.tail) gRng rng_ofType Tryd.underlying49 oneRow Tryd.underlying105 Tryd.underlying107 rfl rfl Tryd.underlying9 cellsE cellsS
  exact ⟨_, _, hv0⟩
set_option maxHeartbeats 4000000 in
set_option maxRecDepth 100000 in
theorem walk (a0 : Option Addr) (len0 cap0 : Nat) (z0 : List Int) (w : World) (w0 : IsRow .u8 w a0 len0 cap0 z0) (hE : Env2 w) :
    Calls Tryd.prog 3 #[.slice a0 len0 cap0] w fun e w' => e = .returned (.bool true) ∧ Below w.heap.size w w' := by
  have hby := of_row_bytes w0
  by_cases hbig : 1048576 < len0
  · go_enter Tryd.func3, Tryd.ntmps3
    go_wp2
    go_ret
    exact ⟨rfl, Below.refl _ _⟩
  · have Hb := Lib.hid hby
    have hlen : len0 ≤ 1048576 := by omega
    have hlen2 : len0 ≤ 2097152 := by omega
    have HE := Lib.hid hE
    clear hby w0 hE
    go_enter Tryd.func3, Tryd.ntmps3
    go_wp2_with (first | (go_at_call 6; refine (big_no _ _ _ _ hlen).mono ?_; rintro e w' ⟨rfl, rfl⟩) | (go_at_call 7; refine (draw_milli _ _ _ _ Hb.out hlen2).mono ?_; rintro e w1 ⟨v, v1, v2, rfl, hB1⟩))
    have HB1 := Lib.hid hB1
    have Hb1 := Lib.hid (Hb.out.kept hB1)
    have HE1 := Lib.hid (HE.out.kept hB1)
    clear hB1 HE
    go_wp2_with (go_at_call 8; refine (impl_milli _ _ HE1.out.env).mono ?_; rintro e w2 ⟨rfl, hB2⟩)
    have HB2 := Lib.hid (HB1.out.trans (hB2.mono HB1.out.size))
    have Hb2 := Lib.hid (Hb1.out.kept hB2)
    have HE2 := Lib.hid (HE1.out.kept hB2)
    clear hB2 HE1
    obtain ⟨hms, hvw⟩ := milli_cases v v1 v2
    go_wp2_with (go_at_call 9; refine (impl_parse _ hms _ HE2.out).mono ?_; rw [mk_list]; rintro e w3 ⟨rfl, hB3⟩)
    have HB3 := Lib.hid (HB2.out.trans (hB3.mono HB2.out.size))
    have Hb3 := Lib.hid (Hb2.out.kept hB3)
    clear hB3
    rcases hvw with ⟨c1, c2, c3⟩ | ⟨c1, c2, c3, c4, c5⟩ | ⟨c1, c2, c3, c4, c5, c6⟩ | ⟨c1, c2, c3⟩
    all_goals
      go_wp2_with (go_at_call 10; refine (spec_milli _ _).mono ?_; rintro e w4 ⟨rfl, hB4⟩)
      have HB4 := Lib.hid (HB3.out.trans (hB4.mono HB3.out.size))
      have Hb4 := Lib.hid (Hb3.out.kept hB4)
      clear hB4
      go_wp2_with (go_at_call 12; refine (alt_any _ _ _ _ _ Hb4.out hlen (by omega) (by omega)).mono ?_; rintro e w5 ⟨a2, n2, cap2, rfl, hn2, hb2, hB5⟩)
      have HB5 := Lib.hid (HB4.out.trans (hB5.mono HB4.out.size))
      have HD5 := Lib.hid hb2
      clear hB5 hb2
      go_wp2_with (go_at_call 11; refine (draw_mean _ _ _ _ HD5.out hn2).mono ?_; rintro e w6 ⟨al, xs, cl, rfl, hxl, hI, hB6⟩)
      have HB6 := Lib.hid (HB5.out.trans (hB6.mono HB5.out.size))
      have HI := Lib.hid hI
      have hx35 : xs.length ≤ 35184372088832 := by omega
      clear hB6 hI
      rcases mean_ways xs with ⟨g1, g2, g3, g4⟩ | ⟨g1, g2, g3, g4⟩ | ⟨g1, g3, g4⟩
      · have G2 := Lib.hid g2
        have G3 := Lib.hid g3
        clear g2 g3
        go_wp2_with (first | (go_at_call 13; refine (impl_mean xs _ _ _ HI.out hx35).mono ?_; rintro e w' ⟨rfl, rfl⟩; obtain ⟨b, off, hcs⟩ := Ints.cells HI.out; obtain rfl := hcs.1 g1; have hc0 := first_cell hcs g1; have HCS := Lib.hid hcs; clear hcs) | (go_at_call 14; refine (spec_mean xs _ _ _ HI.out hx35).mono ?_; rintro e w' ⟨rfl, rfl⟩))
        have hx0 : xs[0] ≤ xs[0] := Int.le_refl _
        go_loop [12, 13, 14] (fun l m i => ∃ (k : Nat) (L M : Int), k ≤ xs.length ∧ i = .int .i64 k ∧ l = .int .i64 L ∧ m = .int .i64 M ∧ Hid (∀ j (hj : j < xs.length), j < k → L ≤ xs[j] ∧ xs[j] ≤ M)) (fun _ _ i => xs.length - (intOf i).toNat)
        case atStart => exact ⟨0, _, _, Nat.zero_le _, rfl, rfl, rfl, fun j hj h => by omega⟩
        case round =>
          obtain ⟨k, L, M, hk, rfl, rfl, rfl, hLM⟩ := hrel
          by_cases hlt : k < xs.length
          · have hck := HCS.out.2 k hlt
            by_cases hq1 : xs[k] < L
            all_goals
              by_cases hq2 : M < xs[k]
              all_goals
                go_wp2
                go_round
                case rel =>
                  refine ⟨k + 1, _, _, by omega, by go_num, rfl, rfl, fun j hj h => ?_⟩
                  by_cases e : j = k
                  · subst e; omega
                  · have := hLM.out j hj (by omega); omega
                case measure => simp [intOf]; omega
          · have hmb := mean_between g1 G2.out (L := L) (M := M) (fun j hj => hLM.out j hj (by omega))
            rw [← G3.out] at hmb
            obtain ⟨hm1, hm2⟩ := hmb
            clear hLM
            go_wp2_with (first | (go_at_call 15; refine (impl_add xs _ _ _ HI.out hx35).mono ?_; rintro e w' ⟨rfl, rfl⟩) | (go_at_call 16; refine (spec_add xs _ _ _ HI.out hx35).mono ?_; rintro e w' ⟨rfl, rfl⟩) | (go_at_call 17; refine (impl_near _ _ _ _).mono ?_; rintro e w' ⟨rfl, rfl⟩))
            go_ret
            exact ⟨rfl, HB6.out⟩
      · have G2 := Lib.hid g2
        have G3 := Lib.hid g3
        clear g2 g3
        go_wp2_with (first | (go_at_call 13; refine (impl_mean xs _ _ _ HI.out hx35).mono ?_; rintro e w' ⟨rfl, rfl⟩) | (go_at_call 14; refine (spec_mean xs _ _ _ HI.out hx35).mono ?_; rintro e w' ⟨rfl, rfl⟩) | (go_at_call 15; refine (impl_add xs _ _ _ HI.out hx35).mono ?_; rintro e w' ⟨rfl, rfl⟩) | (go_at_call 16; refine (spec_add xs _ _ _ HI.out hx35).mono ?_; rintro e w' ⟨rfl, rfl⟩) | (go_at_call 17; refine (impl_near _ _ _ _).mono ?_; rintro e w' ⟨rfl, rfl⟩))
        go_ret
        exact ⟨rfl, HB6.out⟩
      · obtain rfl : xs = [] := List.length_eq_zero_iff.1 g1
        clear g1 g3
        go_wp2_with (first | (go_at_call 13; refine (impl_mean [] _ _ _ HI.out hx35).mono ?_; rintro e w' ⟨rfl, rfl⟩) | (go_at_call 14; refine (spec_mean [] _ _ _ HI.out hx35).mono ?_; rintro e w' ⟨rfl, rfl⟩) | (go_at_call 15; refine (impl_add [] _ _ _ HI.out hx35).mono ?_; rintro e w' ⟨rfl, rfl⟩) | (go_at_call 16; refine (spec_add [] _ _ _ HI.out hx35).mono ?_; rintro e w' ⟨rfl, rfl⟩) | (go_at_call 17; refine (impl_near _ _ _ _).mono ?_; rintro e w' ⟨rfl, rfl⟩))
        go_ret
        exact ⟨rfl, HB6.out⟩

set_option maxRecDepth 100000 in
theorem contract (H : Type) (enc : TypeId × Value → H) (W : World) (base : Nat) (args : Array Value) (ds gs : List (DataW H)) (before : List MemPlace)
    (hval : ∀ (j : Nat) t v, Tryd.f3.params[j]? = some t → args[j]? = some v → Value.okWide Tryd.prog W .any base t v)
    (hW : DataW.Whole enc Tryd.prog Tryd.f3.params.toList Rows.fnMillisSpec.vars false W args.toList ds gs before) (hL : laidMetH Tryd.prog Rows.fnMillisRow.laid W) (hsh : W.ShapedOpen Tryd.prog) :
    Calls Tryd.prog 3 args W fun e W' => ∃ v, e = .returned v ∧ Rows.fnMillisSpec.post enc Tryd.prog Tryd.f3 false true false false W args v W' := by
  have hW' := hW
  obtain ⟨p, q, hA0, hV, rfl, hfz, hnd⟩ := hW
  have hA : DataW.TrodAll enc Tryd.prog W 0 (fun _ => true) true Tryd.f3.params.toList args.toList ds p := hA0
  rw [Tryd.params3] at hA hval
  obtain ⟨v0, vs0, d0, ds0, p0, q0, hargs, rfl, rfl, h0, r0⟩ := trodAll_cons hA
  obtain ⟨rfl, rfl, rfl⟩ := trodAll_nil r0
  obtain rfl : args = #[v0] := by cases args; simp_all
  obtain ⟨rfl, rfl⟩ := trodVars_none hV
  have k0 := h0
  have lt0 : ∀ x ∈ p0, x.block < W.heap.size := by obtain ⟨m, hm⟩ := k0; exact DataW.trod_lt m _ _ _ hm
  obtain ⟨a0, len0, cap0, rfl⟩ := okWide_slice Tryd.underlying22 (hval 0 22 v0 rfl rfl)
  obtain ⟨z0, w0⟩ : ∃ zs, IsRow .u8 W a0 len0 cap0 zs := by
    obtain ⟨fuel, hf⟩ := h0
    rcases open_ints Tryd.underlying22 Tryd.underlying5 (by kernel_rfl) hf with ⟨hcs, _⟩ | ⟨x, l, c, zs, hcs, _, hl, hm, hz, _, hcell, hwz⟩
    · simp [Value.cells] at hcs
      obtain ⟨rfl, rfl, rfl⟩ := hcs
      exact ⟨[], .inl ⟨rfl, rfl, rfl, rfl⟩⟩
    · simp [Value.cells] at hcs
      obtain ⟨rfl, rfl, rfl⟩ := hcs
      exact ⟨zs, .inr ⟨_, rfl, hl, hm, by simpa using hz, hcell, hwz⟩⟩
  have hE : Env2 W := ⟨⟨tab_of (met_of hL), hsh⟩, syn_of (met_of hL), rng_of (met_of hL)⟩
  clear hA0
  refine (walk a0 len0 cap0 z0 W w0 hE).mono fun e W' ⟨he, bel⟩ => ?_
  subst he
  exact ⟨_, rfl, _, _, _, [], _, [], hW', trodAll_mk1 (shut_bool Tryd.underlying4 _), (trodAll_cons_mk (Below.trod laidOut (by kernel_rfl) (of_decide_eq_true (by kernel_rfl)) k0 bel lt0) trodAll_mk0), rfl, bel.frame _, fun h => by cases h⟩

/-- A world for the witness: the settled one, each listed variable laid. -/
noncomputable def laidWorld (os : Os) : World :=
  { World.holding Tryd.prog os ⟨#[.cells #[.string ⟨#[118, 97, 108, 117, 101, 32, 111, 117, 116, 32, 111, 102, 32, 114, 97, 110, 103, 101]⟩] 107, .cells #[.string ⟨#[105, 110, 118, 97, 108, 105, 100, 32, 115, 121, 110, 116, 97, 120]⟩] 107], #[], []⟩ with heap := ((((((((World.holding Tryd.prog os ⟨#[.cells #[.string ⟨#[118, 97, 108, 117, 101, 32, 111, 117, 116, 32, 111, 102, 32, 114, 97, 110, 103, 101]⟩] 107, .cells #[.string ⟨#[105, 110, 118, 97, 108, 105, 100, 32, 115, 121, 110, 116, 97, 120]⟩] 107], #[], []⟩).heap.modify 4 fun
      | .cells _ t frozen => .cells #[.int .u8 0, .int .u8 1, .int .u8 28, .int .u8 2, .int .u8 29, .int .u8 14, .int .u8 24, .int .u8 3, .int .u8 30, .int .u8 22, .int .u8 20, .int .u8 15, .int .u8 25, .int .u8 17, .int .u8 4, .int .u8 8, .int .u8 31, .int .u8 27, .int .u8 13, .int .u8 23, .int .u8 21, .int .u8 19, .int .u8 16, .int .u8 7, .int .u8 26, .int .u8 12, .int .u8 18, .int .u8 6, .int .u8 11, .int .u8 5, .int .u8 10, .int .u8 9] t frozen
      | o => o).modify 5 fun
      | .cells _ t frozen => .cells #[.int .u8 0, .int .u8 1, .int .u8 56, .int .u8 2, .int .u8 57, .int .u8 49, .int .u8 28, .int .u8 3, .int .u8 61, .int .u8 58, .int .u8 42, .int .u8 50, .int .u8 38, .int .u8 29, .int .u8 17, .int .u8 4, .int .u8 62, .int .u8 47, .int .u8 59, .int .u8 36, .int .u8 45, .int .u8 43, .int .u8 51, .int .u8 22, .int .u8 53, .int .u8 39, .int .u8 33, .int .u8 30, .int .u8 24, .int .u8 18, .int .u8 12, .int .u8 5, .int .u8 63, .int .u8 55, .int .u8 48, .int .u8 27, .int .u8 60, .int .u8 41, .int .u8 37, .int .u8 16, .int .u8 46, .int .u8 35, .int .u8 44, .int .u8 21, .int .u8 52, .int .u8 32, .int .u8 23, .int .u8 11, .int .u8 54, .int .u8 26, .int .u8 40, .int .u8 15, .int .u8 34, .int .u8 20, .int .u8 31, .int .u8 10, .int .u8 25, .int .u8 14, .int .u8 19, .int .u8 9, .int .u8 13, .int .u8 8, .int .u8 7, .int .u8 6] t frozen
      | o => o).modify 3 fun
      | .cells _ t frozen => .cells #[.int .u64 1, .int .u64 10, .int .u64 100, .int .u64 1000, .int .u64 10000, .int .u64 100000, .int .u64 1000000, .int .u64 10000000, .int .u64 100000000, .int .u64 1000000000, .int .u64 10000000000, .int .u64 100000000000, .int .u64 1000000000000, .int .u64 10000000000000, .int .u64 100000000000000, .int .u64 1000000000000000, .int .u64 10000000000000000, .int .u64 100000000000000000, .int .u64 1000000000000000000, .int .u64 10000000000000000000] t frozen
      | o => o).modify 7 fun
      | .cells _ t frozen => .cells #[.int .u8 128, .int .u8 191, .int .u8 160, .int .u8 191, .int .u8 128, .int .u8 159, .int .u8 144, .int .u8 191, .int .u8 128, .int .u8 143, .int .u8 0, .int .u8 0, .int .u8 0, .int .u8 0, .int .u8 0, .int .u8 0, .int .u8 0, .int .u8 0, .int .u8 0, .int .u8 0, .int .u8 0, .int .u8 0, .int .u8 0, .int .u8 0, .int .u8 0, .int .u8 0, .int .u8 0, .int .u8 0, .int .u8 0, .int .u8 0, .int .u8 0, .int .u8 0] t frozen
      | o => o).modify 2 fun
      | .cells _ t frozen => .cells #[.iface 105 (.pointer (some ⟨(World.holding Tryd.prog default ⟨#[], #[], []⟩).heap.size + 0, 0, none⟩))] t frozen
      | o => o).modify 1 fun
      | .cells _ t frozen => .cells #[.iface 105 (.pointer (some ⟨(World.holding Tryd.prog default ⟨#[], #[], []⟩).heap.size + 1, 0, none⟩))] t frozen
      | o => o).modify 6 fun
      | .cells _ t frozen => .cells (Go.Pinned.utf8FirstZ.map fun z : Nat => Value.int .u8 (z : Int)).toArray t frozen
      | o => o) }
theorem laid_met (os : Os) : laidMet Tryd.prog Rows.fnMillisRow.laid ((laidWorld os).forCall (fun _ _ => 0) ⟨#[], #[.slice none 0 0], []⟩).memory :=
  laidMet_of_run' 8 (by kernel_rfl) (by kernel_rfl)
theorem reads (os : Os) {H : Type} (enc : TypeId × Value → H) : ∃ places, DataW.whole enc Tryd.prog ((laidWorld os).forCall (fun _ _ => 0) ⟨#[], #[.slice none 0 0], []⟩).memory Tryd.f3.params.toList Rows.fnMillisSpec.vars false (#[.slice none 0 0] : Array Value).toList 8 = some ([.nil], [], places) :=
  ⟨[], by kernel_rfl⟩

set_option maxRecDepth 100000 in
theorem lifted (os : Os) (started : os.Started) (H : Type) (enc : TypeId × Value → H) (F : Stop.Interp) :
    ReturnsInHanded {} Tryd.checked os 3 .any ((OpenSpec.ofChange Rows.fnMillisSpec).preRow enc Tryd.prog Tryd.f3 Rows.fnMillisRow.domain false Rows.fnMillisRow.laid) (((OpenSpec.ofChange Rows.fnMillisSpec).at F).post enc Tryd.prog Tryd.f3 false true false false) := by
  obtain ⟨places, hx⟩ := reads os enc
  refine returnsInHanded_of_row (C := Tryd.checked) (s := OpenSpec.ofChange Rows.fnMillisSpec) own started (by kernel_rfl) Tryd.func3
    (witness_row_atRef (enc := enc) (C := Tryd.checked) false (laidWorld os) #[.slice none 0 0] rfl (by kernel_rfl) (by kernel_rfl) (by kernel_rfl)
      (OpenSpec.preRow_of_cond 8 hx (by kernel_rfl) (fun k hk => by cases hk) (by kernel_rfl) (laid_met os))) ?_
  intro W base args ds gs before hval hW _ _ _ hL hsh _
  exact contract H enc W base args ds gs before hval hW hL hsh

theorem said : Rows.FnMillisSaid :=
  OpenClaim.holds_of_cond 3 Tryd.f3 rfl rfl rfl rfl rfl rfl rfl ⟨rfl, rfl, rfl, rfl, rfl⟩ rfl rfl rfl rfl rfl (by kernel_rfl) Tryd.func3 (by kernel_rfl)
    (of_decide_eq_true (by kernel_rfl)) (by unfold Func.isWrapper; first | (rw [if_pos (by decide +kernel)]; kernel_rfl) | (rw [if_neg (by decide +kernel)]; exact ⟨rfl, rfl⟩))
    (fun os started H enc _ F => by rw [OpenClaim.pre_eq_preRow]; exact lifted os started H enc F)

theorem plain (f : FuncId) (fn : Func) (hf : Tryd.pinned.checked.prog.funcNamed "loop.example/g00808/laws.FnMillis" = some f) (hfn : Tryd.pinned.checked.prog.funcs[f]? = some fn) :
    true = Tryd.pinned.checked.prog.looks [] ∧ ∀ (j : Nat) t, fn.params[j]? = some t → Tryd.pinned.checked.prog.wantsStandIn t = false := by
  obtain rfl : f = 3 := Option.some.inj ((show Tryd.prog.funcNamed "loop.example/g00808/laws.FnMillis" = some 3 by kernel_rfl).symm.trans hf) |>.symm
  obtain rfl : fn = Tryd.f3 := (Option.some.inj (Tryd.func3.symm.trans hfn)).symm
  refine ⟨by kernel_rfl, fun j t ht => ?_⟩
  rw [Tryd.params3] at ht
  have hm := Array.mem_of_getElem? ht
  simp at hm
  subst hm
  exact (show Tryd.prog.wantsStandIn 22 = false by kernel_rfl)
/-- THE CARD. -/
theorem proved : Rows.FnMillisCardSaid :=
  Claim7.holds_tied_plain_at .later [] _ _ _ _ said (fun _ h => by cases h) (by kernel_rfl) (fun _ h => by cases h) fnMillis_row_tie rfl ⟨rfl, rfl⟩ (by kernel_rfl) rfl plain (by kernel_rfl)
end Go.Proofs.YtnojeoeccohhlaaDoor.fnMillis
