/- For every input that can be read, the Go function laws.FnMissing returns true and leaves its arguments as they read: the statement Rows.FnMissingSaid, without a condition of ours. The frame was written by the kit's skeleton program, the walk by hand. -/
import Derived.Test.YtimpajhgplkpmaaRows
import Derived.WalkKit
import Derived.ProofKit
import Derived.OpenShut
import Derived.ShutString
import Derived.ChangeOld
import Derived.Below
import Derived.Test.YtimpajhgplkpmaaC1
import Derived.Test.YtimpajhgplkpmaaInts
import Derived.Test.YtimpajhgplkpmaaC1L
import Derived.Test.YtimpajhgplkpmaaFlt
import Derived.Test.YtimpajhgplkpmaaC2
import Derived.Test.YtimpajhgplkpmaaSmps
import Derived.Test.YtimpajhgplkpmaaMem
import Derived.Test.YtimpajhgplkpmaaPd
import Derived.Test.YtimpajhgplkpmaaGl
import Derived.Test.YtimpajhgplkpmaaRs
import Derived.Test.YtimpajhgplkpmaaBd
import Derived.Test.YtimpajhgplkpmaaRf
import Derived.Test.YtimpajhgplkpmaaOnce
import Derived.Test.YtimpajhgplkpmaaWant
import Derived.Test.YtimpajhgplkpmaaWantS
import Derived.Test.YtimpajhgplkpmaaDraw
import Derived.Test.YtimpajhgplkpmaaDraw1
import Derived.Test.YtimpajhgplkpmaaEx
import Derived.Test.YtimpajhgplkpmaaDraw5
import Derived.Test.YtimpajhgplkpmaaDraw5W
import Derived.Test.YtimpajhgplkpmaaLaw5
import Derived.Test.YtimpajhgplkpmaaRH
namespace Go.Proofs.Ytimpajhgplkpmaa.fnMissing
open Go.ChangeShapes Go.WideShapes Go.ChangeAt Go.RowKit
open Go.ChangeMaps (open_string shut_string)
open Go.Proofs.Ytimpajhgplkpmaa.C1
open Go.Proofs.Ytimpajhgplkpmaa.Ints
open Go.Proofs.Ytimpajhgplkpmaa.C1L
open Go.Proofs.Ytimpajhgplkpmaa.Flt
open Go.Proofs.Ytimpajhgplkpmaa.C2
open Go.Proofs.Ytimpajhgplkpmaa.Smps
open Go.Proofs.Ytimpajhgplkpmaa.Mem
open Go.Proofs.Ytimpajhgplkpmaa.Pd
open Go.Proofs.Ytimpajhgplkpmaa.Gl
open Go.Proofs.Ytimpajhgplkpmaa.Rs
open Go.Proofs.Ytimpajhgplkpmaa.Bd
open Go.Proofs.Ytimpajhgplkpmaa.Rf
open Go.Proofs.Ytimpajhgplkpmaa.Once
open Go.Proofs.Ytimpajhgplkpmaa.Want
open Go.Proofs.Ytimpajhgplkpmaa.WantS
open Go.Proofs.Ytimpajhgplkpmaa.Draw
open Go.Proofs.Ytimpajhgplkpmaa.Draw1
open Go.Proofs.Ytimpajhgplkpmaa.Ex
open Go.Proofs.Ytimpajhgplkpmaa.Draw5
open Go.Proofs.Ytimpajhgplkpmaa.Draw5W
open Go.Proofs.Ytimpajhgplkpmaa.Law5
open Go.Proofs.Ytimpajhgplkpmaa.RH
set_option linter.unusedVariables false

theorem own : ownKnob Try.prog.godebug = none := by kernel_rfl
theorem laidOut : laidOutB Try.prog = true := by kernel_rfl

/-- WHAT THE WALK IS TOLD OF A SLICE OF INTEGERS THAT CAME IN: it is nil; or it leads to a row of 'cap' cells, the numbers 'zs' (the first 'len' are its elements, the rest its spare room), each fitting its kind. -/
def IsRow (k : IntKind) (w : World) (a : Option Addr) (len cap : Nat) (zs : List Int) : Prop :=
  (a = none ∧ len = 0 ∧ cap = 0 ∧ zs = []) ∨
  ∃ x, a = some x ∧ len ≤ cap ∧ cap ≤ maxLen ∧ zs.length = cap ∧ (∀ i, i < zs.length → w.cell? (x.add i) = some (.int k (zs.getD i 0))) ∧ ∀ n ∈ zs, (Lit.int k n).wf = true

/-! ### STEP 1: THE WALK: the Go text returns true, AND WRITES NOTHING THAT WAS THERE: 'Below w.heap.size w w'' (Derived/Below.lean: '.refl', '.alloc', '.drew', '.setCell' at a new block, '.trans'). Open each 'IsRow' by 'rcases' AHEAD of 'go_enter'; part every test ahead of the walk. -/
set_option maxHeartbeats 4000000 in
set_option maxRecDepth 100000 in
theorem walk (a0 : Option Addr) (len0 cap0 : Nat) (z0 : List Int) (w : World) (w0 : IsRow .u8 w a0 len0 cap0 z0) :
    Calls Try.prog 4 #[.slice a0 len0 cap0] w fun e w' => e = .returned (.bool true) ∧ Below w.heap.size w w' := by
-- env: none
  have hby := of_row_bytes w0
  by_cases hbig : 1048576 < len0
  · go_enter Try.func4, Try.ntmps4
    go_wp2
    go_ret
    exact ⟨rfl, Below.refl _ _⟩
  · have Hb := Lib.hid hby
    have hlen : len0 ≤ 1048576 := by omega
    have hlen2 : len0 ≤ 2097152 := by omega
    clear hby w0
    go_enter Try.func4, Try.ntmps4
    go_wp2_with (first | (go_at_call 12; refine (big_no _ _ _ _ hlen).mono ?_; rintro e w' ⟨rfl, rfl⟩))
    refine (draw_want _ _ _ _ Hb.out hlen2).mono ?_
    rintro e w1 ⟨c, t, g, ⟨hc, ht, hg⟩, rfl, hB1⟩
    have HB1 := Lib.hid hB1
    clear hB1 Hb
    have hgw : g.wf := by
      unfold GlB at hg
      exact ⟨by unfold maxLen; omega, by omega, by omega⟩
    obtain ⟨v, hv⟩ : ∃ v, wantV c t g = v := ⟨_, rfl⟩
    obtain ⟨v0, hv0⟩ : ∃ v0, wantV c (allT t) g = v0 := ⟨_, rfl⟩
    have hci := fun W => impl_wantof c t g hgw v hv W
    have hcs := fun W => spec_wantof c t g hgw v hv W
    have hci0 := fun W => impl_wantof c (allT t) g hgw v0 hv0 W
    have hcs0 := fun W => spec_wantof c (allT t) g hgw v0 hv0 W
    have key : v = -1 ∨ (0 ≤ v ∧ ((v0 ≤ c ∧ v0 ≤ v ∧ v ≤ c) ∨ (c ≤ v0 ∧ c ≤ v ∧ v ≤ v0))) := by
      by_cases h : inB c 0 1000 = true ∧ okU t = true ∧ okG g = true
      · obtain ⟨h1, h2, h3⟩ := h
        rw [want_yes h1 h2 h3] at hv
        rw [want_yes h1 (allU h2) h3] at hv0
        subst hv
        subst hv0
        exact .inr ⟨(band_law h1 h2 h3).1.1, miss_law h1 h2 h3⟩
      · refine .inl (hv.symm.trans (want_no ?_))
        cases e1 : inB c 0 1000
        · exact .inl rfl
        · cases e2 : okU t
          · exact .inr (.inl rfl)
          · cases e3 : okG g
            · exact .inr (.inr rfl)
            · exact absurd ⟨e1, e2, e3⟩ h
    unfold tyV allT at hci0 hcs0
    unfold tyV glV at hci hcs
    unfold glV at hci0 hcs0
    have HCI := Lib.hid hci
    have HCS := Lib.hid hcs
    have HCI0 := Lib.hid hci0
    have HCS0 := Lib.hid hcs0
    clear hci hcs hci0 hcs0 hv hv0 hgw hg ht hc
    obtain ⟨hA, hG⟩ := box2_cells w1 #[.int .i64 t.rdy, .int .i64 t.unr, .int .i64 t.mis, .int .i64 t.sum] #[.string g.met, .int .i64 g.tar, .int .i64 g.tol] 25 27
    have hbx := box2_below w1 (.cells #[.int .i64 t.rdy, .int .i64 t.unr, .int .i64 t.mis, .int .i64 t.sum] 25) (.cells #[.string g.met, .int .i64 g.tar, .int .i64 g.tol] 27)
    have HB2 := Lib.hid (HB1.out.trans (hbx.mono HB1.out.size))
    have HA := Lib.hid hA
    have HG := Lib.hid hG
    obtain ⟨b, hb⟩ : ∃ b, w1.heap.size = b := ⟨_, rfl⟩
    obtain ⟨W2, hW2⟩ : ∃ W2, (w1.alloc (.cells #[.int .i64 t.rdy, .int .i64 t.unr, .int .i64 t.mis, .int .i64 t.sum] 25)).alloc (.cells #[.string g.met, .int .i64 g.tar, .int .i64 g.tol] 27) = W2 := ⟨_, rfl⟩
    rw [hW2] at HB2 HA HG
    rw [hb] at HA HG
    have HW2 := Lib.hid hW2
    have HBb := Lib.hid hb
    clear hA hG hbx hW2 hb
    unfold tyV glV
    go_wp2_with fail
    rw [HW2.out, HBb.out]
    refine (HCI.out _).mono ?_
    rintro e w2 ⟨rfl, hb2⟩
    have HA2 := Lib.hid (HA.out.kept hb2)
    have HG2 := Lib.hid (HG.out.kept hb2)
    have HB3 := Lib.hid (HB2.out.trans (hb2.mono HB2.out.size))
    clear hb2 HA HG HB2 HW2 HCI
    rcases key with rfl | ⟨hv0, hor⟩
    · obtain ⟨z0, z1, z2, z3⟩ := cells4 HA2.out
      obtain ⟨y0, y1, y2⟩ := cells3 HG2.out
      go_wp2_with fail
      refine (HCS.out _).mono ?_
      rintro e w3 ⟨rfl, hb3⟩
      have HB4 := Lib.hid (HB3.out.trans (hb3.mono HB3.out.size))
      clear hb3
      go_wp2
      go_ret
      exact ⟨rfl, HB4.out⟩
    · have hbx7 := box_below w2 #[.int .i64 t.rdy, .int .i64 0, .int .i64 0, .int .i64 t.sum] 25
      have H7 := Lib.hid (cells_new w2 #[.int .i64 t.rdy, .int .i64 0, .int .i64 0, .int .i64 t.sum] 25)
      have HG7 := Lib.hid (HG2.out.kept hbx7)
      have HB7 := Lib.hid (HB3.out.trans (hbx7.mono HB3.out.size))
      clear hbx7
      obtain ⟨z0, z1, z2, z3⟩ := cells4 HA2.out
      obtain ⟨y0, y1, y2⟩ := cells3 HG7.out
      go_wp2_with fail
      refine (HCI0.out _).mono ?_
      rintro e w3 ⟨rfl, hb3⟩
      have HA3 := Lib.hid (H7.out.kept hb3)
      have HG3 := Lib.hid (HG7.out.kept hb3)
      have HB4 := Lib.hid (HB7.out.trans (hb3.mono HB7.out.size))
      clear hb3 z0 z1 z2 z3 y0 y1 y2 H7 HG7 HB7 HCI0 HA2 HG2 HB3
      obtain ⟨z0, z1, z2, z3⟩ := cells4 HA3.out
      obtain ⟨y0, y1, y2⟩ := cells3 HG3.out
      have h00 : (v0 == v0) = true := by simp
      rcases hor with ⟨o1, o2, o3⟩ | ⟨o1, o2, o3⟩
      · go_wp2_with fail
        refine (HCS0.out _).mono ?_
        rintro e w4 ⟨rfl, hb4⟩
        have HB5 := Lib.hid (HB4.out.trans (hb4.mono HB4.out.size))
        clear hb4 z0 z1 z2 z3 y0 y1 y2 HA3 HG3
        go_wp2
        go_ret
        exact ⟨by simp [*], HB5.out⟩
      · by_cases hq : v0 ≤ c
        · have hq2 : v0 = c := by omega
          have hq3 : v = c := by omega
          subst hq2
          subst hq3
          go_wp2_with fail
          refine (HCS0.out _).mono ?_
          rintro e w4 ⟨rfl, hb4⟩
          have HB5 := Lib.hid (HB4.out.trans (hb4.mono HB4.out.size))
          clear hb4 z0 z1 z2 z3 y0 y1 y2 HA3 HG3
          go_wp2
          go_ret
          exact ⟨by simp [*], HB5.out⟩
        · go_wp2_with fail
          refine (HCS0.out _).mono ?_
          rintro e w4 ⟨rfl, hb4⟩
          have HB5 := Lib.hid (HB4.out.trans (hb4.mono HB4.out.size))
          clear hb4 z0 z1 z2 z3 y0 y1 y2 HA3 HG3
          go_wp2
          go_ret
          exact ⟨by simp [*], HB5.out⟩

/-! ### THE ROW's STEP: WRITTEN OUT: LEAVE IT -/
set_option maxRecDepth 100000 in
theorem lifted (os : Os) (started : os.Started) (H : Type) (enc : TypeId × Value → H) :
    ReturnsInHanded {} Try.checked os 4 .any (Rows.fnMissingSpec.pre6 enc Try.prog Try.f4 Rows.fnMissingRow.domain false) (Rows.fnMissingSpec.post enc Try.prog Try.f4 false true false false) := by
  refine returnsInHanded_of_change (C := Try.checked) own started (by kernel_rfl) Try.func4
    (ChangeSpec.witness6 (enc := enc) (C := Try.checked) false ⟨#[], #[.slice none 0 0], []⟩ 8 (by kernel_rfl) (by kernel_rfl) (by kernel_rfl) (by kernel_rfl)) ?_
  intro W base args ds gs before hval0 hW hcnd _
  have hval : ∀ (j : Nat) t v, Try.f4.params[j]? = some t → args[j]? = some v → Value.okWide Try.prog W .any base t v := hval0
  have hW' := hW
  obtain ⟨p, q, hA0, hV, rfl, hfz, hnd⟩ := hW
  have hA : DataW.TrodAll enc Try.prog W 0 (fun _ => true) true Try.f4.params.toList args.toList ds p := hA0
  rw [Try.params4] at hA hval
  obtain ⟨v0, vs0, d0, ds0, p0, q0, hargs, rfl, rfl, h0, r0⟩ := trodAll_cons hA
  obtain ⟨rfl, rfl, rfl⟩ := trodAll_nil r0
  obtain rfl : args = #[v0] := by cases args; simp_all
  obtain ⟨rfl, rfl⟩ := trodVars_none hV
  obtain ⟨a0, len0, cap0, rfl⟩ := okWide_slice Try.underlying22 (hval 0 22 v0 rfl rfl)
  have k0 := h0
  have lt0 : ∀ x ∈ p0, x.block < W.heap.size := by obtain ⟨m, hm⟩ := k0; exact DataW.trod_lt m _ _ _ hm
  obtain ⟨z0, w0⟩ : ∃ zs, IsRow .u8 W a0 len0 cap0 zs := by
    obtain ⟨fuel, hf⟩ := h0
    rcases open_ints Try.underlying22 Try.underlying5 (by kernel_rfl) hf with ⟨hcs, _⟩ | ⟨x, l, c, zs, hcs, _, hl, hm, hz, _, hcell, hwz⟩
    · simp [Value.cells] at hcs
      obtain ⟨rfl, rfl, rfl⟩ := hcs
      exact ⟨[], .inl ⟨rfl, rfl, rfl, rfl⟩⟩
    · simp [Value.cells] at hcs
      obtain ⟨rfl, rfl, rfl⟩ := hcs
      exact ⟨zs, .inr ⟨_, rfl, hl, hm, by simpa using hz, hcell, hwz⟩⟩
  clear hA0 hval0
  refine (walk a0 len0 cap0 z0 W w0).mono fun e W' ⟨he, bel⟩ => ?_
  subst he
  exact ⟨_, rfl, _, _, _, [], _, [], hW', trodAll_mk1 (shut_bool Try.underlying4 _), (trodAll_cons_mk (Below.trod laidOut (by kernel_rfl) (of_decide_eq_true (by kernel_rfl)) k0 bel lt0) trodAll_mk0), rfl, bel.frame _, fun h => by cases h⟩

theorem over : Rows.fnMissingRow.holds Try.pinned (OpenSpec.ofChange Rows.fnMissingSpec) :=
  OpenClaim.holds_of_wide 4 Try.f4 rfl rfl rfl rfl rfl rfl rfl ⟨rfl, rfl, rfl, rfl, rfl⟩ rfl rfl rfl rfl rfl (by kernel_rfl) Try.func4 (by kernel_rfl)
    (of_decide_eq_true (by kernel_rfl)) (by unfold Func.isWrapper; first | (rw [if_pos (by decide +kernel)]; kernel_rfl) | (rw [if_neg (by decide +kernel)]; exact ⟨rfl, rfl⟩))
    (fun os started H enc _ => lifted os started H enc)

/-- ████ THE STATEMENT ████ -/
theorem proved : Rows.FnMissingSaid := over
end Go.Proofs.Ytimpajhgplkpmaa.fnMissing
