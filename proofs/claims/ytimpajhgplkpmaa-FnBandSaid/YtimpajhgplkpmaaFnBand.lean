/- For every input that can be read, the Go function laws.FnBand returns true and leaves its arguments as they read: the statement Rows.FnBandSaid, without a condition of ours. The frame was written by the kit's skeleton program, the walk by hand. -/
import Derived.Test.YtimpajhgplkpmaaRows
import Derived.WalkKit
import Derived.ProofKit
import Derived.OpenShut
import Derived.ShutString
import Derived.ChangeOld
import Derived.Below
import Derived.Test.YtimpajhgplkpmaaC1
import Derived.Test.YtimpajhgplkpmaaInts
import Derived.Test.YtimpajhgplkpmaaC1L
import Derived.Test.YtimpajhgplkpmaaFlt
import Derived.Test.YtimpajhgplkpmaaC2
import Derived.Test.YtimpajhgplkpmaaSmps
import Derived.Test.YtimpajhgplkpmaaMem
import Derived.Test.YtimpajhgplkpmaaPd
import Derived.Test.YtimpajhgplkpmaaGl
import Derived.Test.YtimpajhgplkpmaaRs
import Derived.Test.YtimpajhgplkpmaaBd
import Derived.Test.YtimpajhgplkpmaaRf
import Derived.Test.YtimpajhgplkpmaaOnce
import Derived.Test.YtimpajhgplkpmaaWant
import Derived.Test.YtimpajhgplkpmaaWantS
import Derived.Test.YtimpajhgplkpmaaDraw
import Derived.Test.YtimpajhgplkpmaaDraw1
import Derived.Test.YtimpajhgplkpmaaEx
import Derived.Test.YtimpajhgplkpmaaDraw5
import Derived.Test.YtimpajhgplkpmaaDraw5W
import Derived.Test.YtimpajhgplkpmaaLaw5
import Derived.Test.YtimpajhgplkpmaaRH
namespace Go.Proofs.Ytimpajhgplkpmaa.fnBand
open Go.ChangeShapes Go.WideShapes Go.ChangeAt Go.RowKit
open Go.ChangeMaps (open_string shut_string)
open Go.Proofs.Ytimpajhgplkpmaa.C1
open Go.Proofs.Ytimpajhgplkpmaa.Ints
open Go.Proofs.Ytimpajhgplkpmaa.C1L
open Go.Proofs.Ytimpajhgplkpmaa.Flt
open Go.Proofs.Ytimpajhgplkpmaa.C2
open Go.Proofs.Ytimpajhgplkpmaa.Smps
open Go.Proofs.Ytimpajhgplkpmaa.Mem
open Go.Proofs.Ytimpajhgplkpmaa.Pd
open Go.Proofs.Ytimpajhgplkpmaa.Gl
open Go.Proofs.Ytimpajhgplkpmaa.Rs
open Go.Proofs.Ytimpajhgplkpmaa.Bd
open Go.Proofs.Ytimpajhgplkpmaa.Rf
open Go.Proofs.Ytimpajhgplkpmaa.Once
open Go.Proofs.Ytimpajhgplkpmaa.Want
open Go.Proofs.Ytimpajhgplkpmaa.WantS
open Go.Proofs.Ytimpajhgplkpmaa.Draw
open Go.Proofs.Ytimpajhgplkpmaa.Draw1
open Go.Proofs.Ytimpajhgplkpmaa.Ex
open Go.Proofs.Ytimpajhgplkpmaa.Draw5
open Go.Proofs.Ytimpajhgplkpmaa.Draw5W
open Go.Proofs.Ytimpajhgplkpmaa.Law5
open Go.Proofs.Ytimpajhgplkpmaa.RH
set_option linter.unusedVariables false

theorem own : ownKnob Try.prog.godebug = none := by kernel_rfl
theorem laidOut : laidOutB Try.prog = true := by kernel_rfl

/-- WHAT THE WALK IS TOLD OF A SLICE OF INTEGERS THAT CAME IN: it is nil; or it leads to a row of 'cap' cells, the numbers 'zs' (the first 'len' are its elements, the rest its spare room), each fitting its kind. -/
def IsRow (k : IntKind) (w : World) (a : Option Addr) (len cap : Nat) (zs : List Int) : Prop :=
  (a = none ∧ len = 0 ∧ cap = 0 ∧ zs = []) ∨
  ∃ x, a = some x ∧ len ≤ cap ∧ cap ≤ maxLen ∧ zs.length = cap ∧ (∀ i, i < zs.length → w.cell? (x.add i) = some (.int k (zs.getD i 0))) ∧ ∀ n ∈ zs, (Lit.int k n).wf = true

/-! ### STEP 1: THE WALK: the Go text returns true, AND WRITES NOTHING THAT WAS THERE: 'Below w.heap.size w w'' (Derived/Below.lean: '.refl', '.alloc', '.drew', '.setCell' at a new block, '.trans'). Open each 'IsRow' by 'rcases' AHEAD of 'go_enter'; part every test ahead of the walk. -/
set_option maxHeartbeats 4000000 in
set_option maxRecDepth 100000 in
theorem walk (a0 : Option Addr) (len0 cap0 : Nat) (z0 : List Int) (w : World) (w0 : IsRow .u8 w a0 len0 cap0 z0) :
    Calls Try.prog 3 #[.slice a0 len0 cap0] w fun e w' => e = .returned (.bool true) ∧ Below w.heap.size w w' := by
-- env: none
  have hby := of_row_bytes w0
  by_cases hbig : 1048576 < len0
  · go_enter Try.func3, Try.ntmps3
    go_wp2
    go_ret
    exact ⟨rfl, Below.refl _ _⟩
  · have Hb := Lib.hid hby
    have hlen : len0 ≤ 1048576 := by omega
    have hlen2 : len0 ≤ 2097152 := by omega
    clear hby w0
    go_enter Try.func3, Try.ntmps3
    go_wp2_with (first | (go_at_call 12; refine (big_no _ _ _ _ hlen).mono ?_; rintro e w' ⟨rfl, rfl⟩))
    refine (draw_want _ _ _ _ Hb.out hlen2).mono ?_
    rintro e w1 ⟨c, t, g, ⟨hc, ht, hg⟩, rfl, hB1⟩
    have HB1 := Lib.hid hB1
    clear hB1 Hb
    have hgw : g.wf := by
      unfold GlB at hg
      exact ⟨by unfold maxLen; omega, by omega, by omega⟩
    obtain ⟨v, hv⟩ : ∃ v, wantV c t g = v := ⟨_, rfl⟩
    obtain ⟨S, hS⟩ : ∃ S, rf1 t g = S := ⟨_, rfl⟩
    obtain ⟨M, hM⟩ : ∃ M, rf2 t g = M := ⟨_, rfl⟩
    obtain ⟨s, hs⟩ : ∃ s, rsV t.sum t.rdy g.tar = s := ⟨_, rfl⟩
    obtain ⟨bo, hbo⟩ : ∃ bo, bandV t.sum t.rdy g = bo := ⟨_, rfl⟩
    have hci := fun W => impl_wantof c t g hgw v hv W
    have hcs := fun W => spec_wantof c t g hgw v hv W
    have hri := fun W => impl_refillof t g hgw S M hS hM W
    have hrs := fun W => spec_refillof t g hgw S M hS hM W
    have hbi := fun W => impl_inband t.sum t.rdy g hgw W
    have hsi := fun W => impl_ratio t.sum t.rdy g.tar W
    rw [hbo] at hbi
    rw [hs] at hsi
    have key : v = -1 ∨ ((0 ≤ v ∧ v ≤ 1000) ∧ (0 ≤ v * g.tar ∧ v * g.tar ≤ 1000000000) ∧ (-1000000 ≤ (v - 1) * g.tar ∧ (v - 1) * g.tar ≤ 1000000000) ∧ ((bo = true ∧ v = c ∧ (s = -1 ∨ s = 0 ∨ s = 1)) ∨ (bo = false ∧ s = -1 ∧ v ≤ c) ∨ (bo = false ∧ s = 1 ∧ c ≤ v)) ∧ (v = c ∨ v = 1000 ∨ (S ≤ v * g.tar ∧ (v - 1) * g.tar < S))) := by
      by_cases h : inB c 0 1000 = true ∧ okU t = true ∧ okG g = true
      · obtain ⟨h1, h2, h3⟩ := h
        rw [want_yes h1 h2 h3] at hv
        rw [(rf_yes h2 h3).1] at hS
        subst hv
        subst hS
        subst hs
        subst hbo
        exact .inr (band_law h1 h2 h3)
      · refine .inl (hv.symm.trans (want_no ?_))
        cases e1 : inB c 0 1000
        · exact .inl rfl
        · cases e2 : okU t
          · exact .inr (.inl rfl)
          · cases e3 : okG g
            · exact .inr (.inr rfl)
            · exact absurd ⟨e1, e2, e3⟩ h
    unfold tyV glV at hci hcs hri hrs
    unfold glV at hbi
    have HCI := Lib.hid hci
    have HCS := Lib.hid hcs
    have HRI := Lib.hid hri
    have HRS := Lib.hid hrs
    have HBI := Lib.hid hbi
    have HSI := Lib.hid hsi
    clear hci hcs hri hrs hbi hsi hv hS hM hs hbo hgw hg ht hc
    obtain ⟨hA, hG⟩ := box2_cells w1 #[.int .i64 t.rdy, .int .i64 t.unr, .int .i64 t.mis, .int .i64 t.sum] #[.string g.met, .int .i64 g.tar, .int .i64 g.tol] 25 27
    have hbx := box2_below w1 (.cells #[.int .i64 t.rdy, .int .i64 t.unr, .int .i64 t.mis, .int .i64 t.sum] 25) (.cells #[.string g.met, .int .i64 g.tar, .int .i64 g.tol] 27)
    have HB2 := Lib.hid (HB1.out.trans (hbx.mono HB1.out.size))
    have HA := Lib.hid hA
    have HG := Lib.hid hG
    obtain ⟨b, hb⟩ : ∃ b, w1.heap.size = b := ⟨_, rfl⟩
    obtain ⟨W2, hW2⟩ : ∃ W2, (w1.alloc (.cells #[.int .i64 t.rdy, .int .i64 t.unr, .int .i64 t.mis, .int .i64 t.sum] 25)).alloc (.cells #[.string g.met, .int .i64 g.tar, .int .i64 g.tol] 27) = W2 := ⟨_, rfl⟩
    rw [hW2] at HB2 HA HG
    rw [hb] at HA HG
    have HW2 := Lib.hid hW2
    have HBb := Lib.hid hb
    clear hA hG hbx hW2 hb
    unfold tyV glV
    go_wp2_with fail
    rw [HW2.out, HBb.out]
    refine (HCI.out _).mono ?_
    rintro e w2 ⟨rfl, hb2⟩
    have HA2 := Lib.hid (HA.out.kept hb2)
    have HG2 := Lib.hid (HG.out.kept hb2)
    have HB3 := Lib.hid (HB2.out.trans (hb2.mono HB2.out.size))
    clear hb2 HA HG HB2 HW2 HCI
    obtain ⟨z0, z1, z2, z3⟩ := cells4 HA2.out
    obtain ⟨y0, y1, y2⟩ := cells3 HG2.out
    have hvv : (v != v) = false := by simp
    go_wp2_with fail
    refine (HCS.out _).mono ?_
    rintro e w3 ⟨rfl, hb3⟩
    have HA3 := Lib.hid (HA2.out.kept hb3)
    have HG3 := Lib.hid (HG2.out.kept hb3)
    have HB4 := Lib.hid (HB3.out.trans (hb3.mono HB3.out.size))
    clear hb3 HA2 HG2 HB3 HCS z0 z1 z2 z3 y0 y1 y2
    rcases key with rfl | ⟨⟨v1, v2⟩, ⟨p1, p2⟩, ⟨q1, q2⟩, hband, htail⟩
    · go_wp2
      go_ret
      exact ⟨rfl, HB4.out⟩
    · obtain ⟨z0, z1, z2, z3⟩ := cells4 HA3.out
      obtain ⟨y0, y1, y2⟩ := cells3 HG3.out
      have HP := Lib.hid (And.intro p1 p2)
      have HQ := Lib.hid (And.intro q1 q2)
      have HTL := Lib.hid htail
      have HBD := Lib.hid hband
      clear p1 p2 q1 q2 htail hband
      go_wp2_with fail
      refine (HSI.out _).mono ?_
      rintro e w4 ⟨rfl, hb4⟩
      have HA4 := Lib.hid (HA3.out.kept hb4)
      have HG4 := Lib.hid (HG3.out.kept hb4)
      have HB5 := Lib.hid (HB4.out.trans (hb4.mono HB4.out.size))
      clear hb4 HA3 HG3 HB4 HSI z0 z1 z2 z3 y0 y1 y2
      obtain ⟨z0, z1, z2, z3⟩ := cells4 HA4.out
      obtain ⟨y0, y1, y2⟩ := cells3 HG4.out
      go_wp2_with fail
      refine (HBI.out _).mono ?_
      rintro e w5 ⟨rfl, hb5⟩
      have HA5 := Lib.hid (HA4.out.kept hb5)
      have HG5 := Lib.hid (HG4.out.kept hb5)
      have HB6 := Lib.hid (HB5.out.trans (hb5.mono HB5.out.size))
      clear hb5 HA4 HG4 HB5 HBI z0 z1 z2 z3 y0 y1 y2
      obtain ⟨z0, z1, z2, z3⟩ := cells4 HA5.out
      obtain ⟨y0, y1, y2⟩ := cells3 HG5.out
      have hSS : (S == S) = true := by simp
      have hMM : (M == M) = true := by simp
      have hfin : Hid (v = c ∨ (v ≠ c ∧ v = 1000) ∨ (v ≠ c ∧ v ≠ 1000 ∧ S ≤ v * g.tar ∧ (v - 1) * g.tar < S)) := by
        have := HTL.out
        exact Lib.hid (by omega)
      clear HTL
      rcases HBD.out with ⟨rfl, hvc, hss⟩ | ⟨rfl, rfl, hle⟩ | ⟨rfl, rfl, hle⟩
      · clear HBD HP HQ hfin
        subst hvc
        have hl1 : ¬ v < v := by omega
        have heq : (v == v) = true := by simp
        rcases hss with rfl | rfl | rfl
        all_goals
          go_wp2_with fail
          refine (HRI.out _).mono ?_
          rintro e w6 ⟨rfl, hb6⟩
          have HA6 := Lib.hid (HA5.out.kept hb6)
          have HG6 := Lib.hid (HG5.out.kept hb6)
          have HB7 := Lib.hid (HB6.out.trans (hb6.mono HB6.out.size))
          clear hb6 HA5 HG5 HB6 HRI z0 z1 z2 z3 y0 y1 y2
          obtain ⟨z0, z1, z2, z3⟩ := cells4 HA6.out
          obtain ⟨y0, y1, y2⟩ := cells3 HG6.out
          go_wp2_with fail
          refine (HRS.out _).mono ?_
          rintro e w7 ⟨rfl, hb7⟩
          have HB8 := Lib.hid (HB7.out.trans (hb7.mono HB7.out.size))
          clear hb7 HA6 HG6 HB7 HRS z0 z1 z2 z3 y0 y1 y2
          go_wp2
          go_ret
          exact ⟨by simp [*], HB8.out⟩
      all_goals
        clear HBD
        go_wp2_with fail
        refine (HRI.out _).mono ?_
        rintro e w6 ⟨rfl, hb6⟩
        have HA6 := Lib.hid (HA5.out.kept hb6)
        have HG6 := Lib.hid (HG5.out.kept hb6)
        have HB7 := Lib.hid (HB6.out.trans (hb6.mono HB6.out.size))
        clear hb6 HA5 HG5 HB6 HRI z0 z1 z2 z3 y0 y1 y2
        obtain ⟨z0, z1, z2, z3⟩ := cells4 HA6.out
        obtain ⟨y0, y1, y2⟩ := cells3 HG6.out
        go_wp2_with fail
        refine (HRS.out _).mono ?_
        rintro e w7 ⟨rfl, hb7⟩
        have HG7 := Lib.hid (HG6.out.kept hb7)
        have HB8 := Lib.hid (HB7.out.trans (hb7.mono HB7.out.size))
        clear hb7 HA6 HG6 HB7 HRS z0 z1 z2 z3 y0 y1 y2
        rcases hfin.out with hvc | ⟨hvc, hv1⟩ | ⟨hvc, hv1, hi1, hi2⟩
        · have hvc' : (v == c) = true := by simpa using hvc
          clear hfin HP HQ
          go_wp2
          go_ret
          exact ⟨by simp [*], HB8.out⟩
        · have hvc' : (v == c) = false := by simpa using hvc
          have hv1' : (v == 1000) = true := by simpa using hv1
          clear hfin HP HQ
          go_wp2
          go_ret
          exact ⟨by simp [*], HB8.out⟩
        · have hvc' : (v == c) = false := by simpa using hvc
          have hv1' : (v == 1000) = false := by simpa using hv1
          obtain ⟨p1, p2⟩ := HP.out
          obtain ⟨q1, q2⟩ := HQ.out
          obtain ⟨y0, y1, y2⟩ := cells3 HG7.out
          clear hfin HP HQ
          go_wp2
          go_ret
          exact ⟨by simp [*], HB8.out⟩

/-! ### THE ROW's STEP: WRITTEN OUT: LEAVE IT -/
set_option maxRecDepth 100000 in
theorem lifted (os : Os) (started : os.Started) (H : Type) (enc : TypeId × Value → H) :
    ReturnsInHanded {} Try.checked os 3 .any (Rows.fnBandSpec.pre6 enc Try.prog Try.f3 Rows.fnBandRow.domain false) (Rows.fnBandSpec.post enc Try.prog Try.f3 false true false false) := by
  refine returnsInHanded_of_change (C := Try.checked) own started (by kernel_rfl) Try.func3
    (ChangeSpec.witness6 (enc := enc) (C := Try.checked) false ⟨#[], #[.slice none 0 0], []⟩ 8 (by kernel_rfl) (by kernel_rfl) (by kernel_rfl) (by kernel_rfl)) ?_
  intro W base args ds gs before hval0 hW hcnd _
  have hval : ∀ (j : Nat) t v, Try.f3.params[j]? = some t → args[j]? = some v → Value.okWide Try.prog W .any base t v := hval0
  have hW' := hW
  obtain ⟨p, q, hA0, hV, rfl, hfz, hnd⟩ := hW
  have hA : DataW.TrodAll enc Try.prog W 0 (fun _ => true) true Try.f3.params.toList args.toList ds p := hA0
  rw [Try.params3] at hA hval
  obtain ⟨v0, vs0, d0, ds0, p0, q0, hargs, rfl, rfl, h0, r0⟩ := trodAll_cons hA
  obtain ⟨rfl, rfl, rfl⟩ := trodAll_nil r0
  obtain rfl : args = #[v0] := by cases args; simp_all
  obtain ⟨rfl, rfl⟩ := trodVars_none hV
  obtain ⟨a0, len0, cap0, rfl⟩ := okWide_slice Try.underlying22 (hval 0 22 v0 rfl rfl)
  have k0 := h0
  have lt0 : ∀ x ∈ p0, x.block < W.heap.size := by obtain ⟨m, hm⟩ := k0; exact DataW.trod_lt m _ _ _ hm
  obtain ⟨z0, w0⟩ : ∃ zs, IsRow .u8 W a0 len0 cap0 zs := by
    obtain ⟨fuel, hf⟩ := h0
    rcases open_ints Try.underlying22 Try.underlying5 (by kernel_rfl) hf with ⟨hcs, _⟩ | ⟨x, l, c, zs, hcs, _, hl, hm, hz, _, hcell, hwz⟩
    · simp [Value.cells] at hcs
      obtain ⟨rfl, rfl, rfl⟩ := hcs
      exact ⟨[], .inl ⟨rfl, rfl, rfl, rfl⟩⟩
    · simp [Value.cells] at hcs
      obtain ⟨rfl, rfl, rfl⟩ := hcs
      exact ⟨zs, .inr ⟨_, rfl, hl, hm, by simpa using hz, hcell, hwz⟩⟩
  clear hA0 hval0
  refine (walk a0 len0 cap0 z0 W w0).mono fun e W' ⟨he, bel⟩ => ?_
  subst he
  exact ⟨_, rfl, _, _, _, [], _, [], hW', trodAll_mk1 (shut_bool Try.underlying4 _), (trodAll_cons_mk (Below.trod laidOut (by kernel_rfl) (of_decide_eq_true (by kernel_rfl)) k0 bel lt0) trodAll_mk0), rfl, bel.frame _, fun h => by cases h⟩

theorem over : Rows.fnBandRow.holds Try.pinned (OpenSpec.ofChange Rows.fnBandSpec) :=
  OpenClaim.holds_of_wide 3 Try.f3 rfl rfl rfl rfl rfl rfl rfl ⟨rfl, rfl, rfl, rfl, rfl⟩ rfl rfl rfl rfl rfl (by kernel_rfl) Try.func3 (by kernel_rfl)
    (of_decide_eq_true (by kernel_rfl)) (by unfold Func.isWrapper; first | (rw [if_pos (by decide +kernel)]; kernel_rfl) | (rw [if_neg (by decide +kernel)]; exact ⟨rfl, rfl⟩))
    (fun os started H enc _ => lifted os started H enc)

/-- ████ THE STATEMENT ████ -/
theorem proved : Rows.FnBandSaid := over
end Go.Proofs.Ytimpajhgplkpmaa.fnBand
