/- The text of a side, and the model's SideText. -/
import Derived.Test.YtcjjdnfikccnmaaDoorSdS
import Derived.Test.YtcjjdnfikccnmaaDoorLine
namespace Go.Proofs.YtcjjdnfikccnmaaDoor.Txt
open Go.RowKit
open Go.Proofs.YtcjjdnfikccnmaaDoor.C1
open Go.Proofs.YtcjjdnfikccnmaaDoor.C2
open Go.Proofs.YtcjjdnfikccnmaaDoor.Smps
open Go.Proofs.YtcjjdnfikccnmaaDoor.Mem
open Go.Proofs.YtcjjdnfikccnmaaDoor.Ser2 (cells_new)
open Go.Proofs.YtcjjdnfikccnmaaDoor.Milli
open Go.Proofs.YtcjjdnfikccnmaaDoor.Mt
open Go.Proofs.YtcjjdnfikccnmaaDoor.Line
open Go.Proofs.YtcjjdnfikccnmaaDoor.Pl
open Go.Proofs.YtcjjdnfikccnmaaDoor.BhM
open Go.Proofs.YtcjjdnfikccnmaaDoor.LogS
open Go.Proofs.YtcjjdnfikccnmaaDoor.SdS
set_option linter.unusedVariables false

def polJ (p : Pl) : List UInt8 := Lib.itoa p.kd ++ ([58] ++ Lib.itoa p.va) ++ ([58] ++ Lib.itoa p.pe)
def polT (p : Pl) : List UInt8 := [32] ++ polJ p
def headT (s : Sd) : List UInt8 := Lib.itoa s.sel ++ ([32] ++ Lib.itoa s.win)
def sumT (s : Sd) (k : Nat) : List UInt8 := headT s ++ (s.ps.take k).flatMap polT
def sideT (s : Sd) : List UInt8 := if sideV s then sumT s s.ps.length else []
theorem sumT_succ (s : Sd) (k : Nat) (h : k < s.ps.length) : sumT s (k + 1) = sumT s k ++ polT s.ps[k] := by
  unfold sumT
  rw [List.take_succ_eq_append_getElem h, List.flatMap_append]
  simp
theorem size_in {v a b : Int} (h : inV v a b = true) (ha : 0 ≤ a) (hb : b ≤ 1000) : sizeV v = true := by
  rw [inV_iff] at h
  unfold sizeV
  exact decide_eq_true (by omega)
theorem pol_in {p : Pl} (h : polV p = true) : sizeV p.kd = true ∧ sizeV p.va = true ∧ sizeV p.pe = true := by
  unfold polV at h
  simp only [Bool.and_eq_true] at h
  refine ⟨?_, ?_, ?_⟩ <;> first | exact size_in h.1 (by omega) (by omega) | exact size_in h.1.1 (by omega) (by omega) | exact size_in h.1.2 (by omega) (by omega) | exact size_in h.2.1 (by omega) (by omega) | exact size_in h.2.2 (by omega) (by omega) | exact size_in h.2 (by omega) (by omega)
theorem side_in {s : Sd} (h : sideV s = true) : s.ps.length ≤ 3 ∧ sizeV s.sel = true ∧ sizeV s.win = true ∧ ∀ p ∈ s.ps, polV p = true := by
  simp only [sideV, Bool.and_eq_true, decide_eq_true_eq, List.all_eq_true] at h
  refine ⟨?_, ?_, ?_, ?_⟩
  · first | exact h.1 | exact h.1.1 | exact h.1.1.1
  · first | exact size_in h.1.1.2 (by omega) (by omega) | exact size_in h.1.2 (by omega) (by omega) | exact size_in h.2.1 (by omega) (by omega)
  · first | exact size_in h.1.2 (by omega) (by omega) | exact size_in h.2.2.1 (by omega) (by omega) | exact size_in h.2.2 (by omega) (by omega)
  · first | exact h.2 | exact h.2.2 | exact h.2.2.2
theorem polT_len {p : Pl} (h : polV p = true) : (polT p).length ≤ 70 := by
  obtain ⟨h0, h1, h2⟩ := pol_in h
  have l0 := itoa_len h0
  have l1 := itoa_len h1
  have l2 := itoa_len h2
  unfold polT polJ
  simp only [List.length_append, List.length_cons, List.length_nil]
  omega
theorem flat_bound : ∀ (xs : List Pl), (∀ p ∈ xs, polV p = true) → (xs.flatMap polT).length ≤ 70 * xs.length
  | [], _ => by simp
  | p :: r, h => by
    have ih := flat_bound r fun q hq => h q (List.mem_cons_of_mem _ hq)
    have hl := polT_len (h p (by simp))
    rw [List.flatMap_cons, List.length_append, List.length_cons]
    omega
theorem sumT_len {s : Sd} (h : sideV s = true) (k : Nat) : (sumT s k).length ≤ 300 := by
  obtain ⟨h0, h1, h2, h3⟩ := side_in h
  have l1 := itoa_len h1
  have l2 := itoa_len h2
  have l3 := flat_bound (s.ps.take k) fun p hp => h3 p (List.mem_of_mem_take hp)
  rw [List.length_take] at l3
  unfold sumT headT
  simp only [List.length_append, List.length_cons, List.length_nil]
  omega
theorem retSx {l : List UInt8} {s : Sd} (h : l = sideT s) : Ending.returned (.string (mk l)) = .returned (.string (mk (sideT s))) := by rw [h]
theorem text_no {s : Sd} (h : sideV s = false) : ([] : List UInt8) = sideT s := by unfold sideT; rw [h]; rfl
theorem text_yes {s : Sd} (h : sideV s = true) : sumT s s.ps.length = sideT s := by unfold sideT; rw [if_pos h]
set_option maxHeartbeats 2000000 in
set_option maxRecDepth 20000 in
theorem spec_text (s : Sd) (a : Option Addr) (cap : Nat) (w : World) (h : Pls w a s.ps) (hm : s.ps.length ≤ 9223372036854775807) :
    Calls Tryd.prog 5 #[sdV s a cap] w fun e w' => e = .returned (.string (mk (sideT s))) ∧ Below w.heap.size w w' := by
  have mixed : Tryd.prog.follows .mixedOrders = true := by kernel_rfl
  have HH := Lib.hid (h.kept (box_below w #[.slice a s.ps.length cap, .int .i64 s.sel, .int .i64 s.win] 29))
  have hok := fun w h => spec_sideok s a cap w h hm
  obtain ⟨b, off, ha, hb, hcell⟩ := h.cells
  unfold sdV at hok ⊢
  cases hv : sideV s
  · rw [hv] at hok
    have HOK := Lib.hid hok
    have HN := Lib.hid (text_no hv)
    clear hok hv h ha hb hcell
    go_enter Tryd.func5, Tryd.ntmps5
    go_wp2_with (go_at_call 10; refine (HOK.out _ HH.out).mono ?_; rintro e w2 ⟨rfl, hb2⟩; obtain ⟨k0, hB, hz⟩ := one_read hb2; have HB2 := Lib.hid hB; clear k0 hB hb2 hz)
    go_ret
    exact ⟨retSx HN.out, HB2.out⟩
  · rw [hv] at hok
    have HOK := Lib.hid hok
    obtain ⟨h0, h1, h2, h3⟩ := side_in hv
    have l1 := itoa_len h1
    have l2 := itoa_len h2
    have t1 := size_of h1
    have t2 := size_of h2
    have hms := mk_size
    obtain ⟨A1, hA1⟩ : ∃ x, mk (Lib.itoa s.sel) ++ ({ data := #[32] } : ByteArray) = x := ⟨_, rfl⟩
    obtain ⟨A2, hA2⟩ : ∃ x, A1 ++ mk (Lib.itoa s.win) = x := ⟨_, rfl⟩
    have z0 : ({ data := #[32] } : ByteArray).size = 1 := rfl
    have z1 : A1.size = (Lib.itoa s.sel).length + 1 := by rw [← hA1, ByteArray.size_append, z0, mk_size]
    have a1 := add_at Tryd.prog (mk (Lib.itoa s.sel)) { data := #[32] } (by rw [z0, mk_size]; omega)
    have a2 := add_at Tryd.prog A1 (mk (Lib.itoa s.win)) (by rw [mk_size]; omega)
    rw [hA1] at a1
    rw [hA2] at a2
    have hA : A2 = mk (sumT s 0) := by
      rw [← hA2, ← hA1, show ({ data := #[32] } : ByteArray) = mk [32] from rfl, mk_append, mk_append]
      unfold sumT headT
      simp
    have HA := Lib.hid hA
    have HV := Lib.hid hv
    have HP := Lib.hid h3
    have HM := Lib.hid (show s.ps.length ≤ 3 from h0)
    have Hc := Lib.hid hcell
    have Ha := Lib.hid ha
    have Hb := Lib.hid hb
    clear hok hv h ha hb hcell h1 h2 h3 z0 z1 hA1 hA2 hA l1 l2
    go_enter Tryd.func5, Tryd.ntmps5
    go_wp2_with (go_at_call 10; refine (HOK.out _ HH.out).mono ?_; rintro e w2 ⟨rfl, hb2⟩; obtain ⟨k0, hB, hz⟩ := one_read hb2; have HB2 := Lib.hid hB; have K2 := Lib.hid k0; clear k0 hB hb2)
    obtain ⟨c0, -⟩ := K2.out.2 0 (by simp)
    obtain ⟨c1, -⟩ := K2.out.2 1 (by simp)
    obtain ⟨c2, -⟩ := K2.out.2 2 (by simp)
    simp at c0 c1 c2
    have k0 := Line.later_cell hz c0
    have k1 := Line.later_cell hz c1
    have k2 := Line.later_cell hz c2
    refine Line.region_later mixed (by kernel_rfl) ?_
    repeat (quiet_step (first | (go_at_call 11; exact Line.later_call (spec_num _ _ (by omega) (by omega)))))
    refine wpQuiet_nil ?_
    intro wL hw'
    have hwl : Below w2.heap.size w2 wL := by
      obtain ⟨⟨wl, hq⟩, hwe⟩ := hw'
      rw [hwe]; exact hq
    clear hw'
    have HBL := Lib.hid (HB2.out.trans (hwl.mono (Nat.le_of_lt hz)))
    have KL := Lib.hid (K2.out.kept hwl)
    clear hwl hz k0 k1 k2 c0 c1 c2 a1 a2 t1 t2
    rw [HA.out]
    clear HA
    go_wp2_with fail
    go_loopw [3, 4] (fun t i wr => ∃ k : Nat, k ≤ s.ps.length ∧ i = .int .i64 k ∧ t = .string (mk (sumT s k)) ∧ Hid (Below wL.heap.size wL wr)) (fun _ i _ => s.ps.length - (intOf i).toNat)
    case atStart => exact ⟨0, Nat.zero_le _, rfl, rfl, Below.refl _ _⟩
    case round =>
      obtain ⟨k, hk, rfl, rfl, HB⟩ := hrel
      have HKr := Lib.hid (KL.out.kept HB.out)
      obtain ⟨c0, -⟩ := HKr.out.2 0 (by simp)
      simp at c0
      by_cases hlt : k < s.ps.length
      · obtain rfl := Ha.out (by omega)
        obtain ⟨l, hl⟩ : ∃ l, s.ps[k] = l := ⟨_, rfl⟩
        have hbw := Hb.out (by omega)
        have hq := ((Hc.out k hlt).kept HBL.out hbw).kept HB.out (Nat.lt_of_lt_of_le hbw HBL.out.size)
        have HN := Lib.hid (sumT_succ s k hlt)
        have hpl := HP.out _ (List.getElem_mem hlt)
        rw [hl] at hq HN hpl
        obtain ⟨q0, q1, q2⟩ := hq
        have htl := sumT_len HV.out k
        obtain ⟨T0, hT⟩ : ∃ T, sumT s k = T := ⟨_, rfl⟩
        rw [hT] at HN htl ⊢
        obtain ⟨p0, p1, p2⟩ := pol_in hpl
        have l0 := itoa_len p0
        have l1 := itoa_len p1
        have l2 := itoa_len p2
        obtain ⟨s00, s01⟩ := size_of p0
        obtain ⟨s10, s11⟩ := size_of p1
        obtain ⟨s20, s21⟩ := size_of p2
        obtain ⟨T, hTT⟩ : ∃ x, mk T0 = x := ⟨_, rfl⟩
        have zT : T.size = T0.length := by rw [← hTT, mk_size]
        have y0 : ({ data := #[32] } : ByteArray).size = 1 := rfl
        have y1 : ({ data := #[58] } : ByteArray).size = 1 := rfl
        obtain ⟨B1, hB1⟩ : ∃ x, T ++ ({ data := #[32] } : ByteArray) = x := ⟨_, rfl⟩
        have a1 := add_at Tryd.prog T { data := #[32] } (by rw [zT, y0]; omega)
        rw [hB1] at a1
        have z1 : B1.size = T0.length + 1 := by rw [← hB1, ByteArray.size_append, zT, y0]
        obtain ⟨B2, hB2⟩ : ∃ x, B1 ++ mk (Lib.itoa l.kd) = x := ⟨_, rfl⟩
        have a2 := add_at Tryd.prog B1 (mk (Lib.itoa l.kd)) (by rw [z1, mk_size]; omega)
        rw [hB2] at a2
        have z2 : B2.size = T0.length + 1 + (Lib.itoa l.kd).length := by rw [← hB2, ByteArray.size_append, z1, mk_size]
        obtain ⟨B3, hB3⟩ : ∃ x, B2 ++ ({ data := #[58] } : ByteArray) = x := ⟨_, rfl⟩
        have a3 := add_at Tryd.prog B2 { data := #[58] } (by rw [z2, y1]; omega)
        rw [hB3] at a3
        have z3 : B3.size = T0.length + 1 + (Lib.itoa l.kd).length + 1 := by rw [← hB3, ByteArray.size_append, z2, y1]
        obtain ⟨B4, hB4⟩ : ∃ x, B3 ++ mk (Lib.itoa l.va) = x := ⟨_, rfl⟩
        have a4 := add_at Tryd.prog B3 (mk (Lib.itoa l.va)) (by rw [z3, mk_size]; omega)
        rw [hB4] at a4
        have z4 : B4.size = T0.length + 1 + (Lib.itoa l.kd).length + 1 + (Lib.itoa l.va).length := by rw [← hB4, ByteArray.size_append, z3, mk_size]
        obtain ⟨B5, hB5⟩ : ∃ x, B4 ++ ({ data := #[58] } : ByteArray) = x := ⟨_, rfl⟩
        have a5 := add_at Tryd.prog B4 { data := #[58] } (by rw [z4, y1]; omega)
        rw [hB5] at a5
        have z5 : B5.size = T0.length + 1 + (Lib.itoa l.kd).length + 1 + (Lib.itoa l.va).length + 1 := by rw [← hB5, ByteArray.size_append, z4, y1]
        obtain ⟨B6, hB6⟩ : ∃ x, B5 ++ mk (Lib.itoa l.pe) = x := ⟨_, rfl⟩
        have a6 := add_at Tryd.prog B5 (mk (Lib.itoa l.pe)) (by rw [z5, mk_size]; omega)
        rw [hB6] at a6
        have z6 : B6.size = T0.length + 1 + (Lib.itoa l.kd).length + 1 + (Lib.itoa l.va).length + 1 + (Lib.itoa l.pe).length := by rw [← hB6, ByteArray.size_append, z5, mk_size]
        have HL : Hid (B6 = mk (sumT s (k + 1))) := by
          show B6 = _
          rw [HN.out, ← hB6, ← hB5, ← hB4, ← hB3, ← hB2, ← hB1, ← hTT, show ({ data := #[32] } : ByteArray) = mk [32] from rfl, show ({ data := #[58] } : ByteArray) = mk [58] from rfl]
          simp only [mk_append]
          unfold polT polJ
          simp only [List.append_assoc]
        rw [hTT]
        have r1 : wr.heap.size < (wr.alloc (.cells #[.int .i64 l.kd, .int .i64 l.va, .int .i64 l.pe] 37)).heap.size := by simp
        have HBX := Lib.hid (HB.out.alloc HB.out.size (.cells #[.int .i64 l.kd, .int .i64 l.va, .int .i64 l.pe] 37))
        obtain ⟨W, hW⟩ : ∃ W, wr.alloc (.cells #[.int .i64 l.kd, .int .i64 l.va, .int .i64 l.pe] 37) = W := ⟨_, rfl⟩
        have d := (cells_new wr #[.int .i64 l.kd, .int .i64 l.va, .int .i64 l.pe] 37).2
        obtain ⟨d0, -⟩ := d 0 (by simp)
        obtain ⟨d1, -⟩ := d 1 (by simp)
        obtain ⟨d2, -⟩ := d 2 (by simp)
        rw [hW] at r1 HBX d0 d1 d2
        simp at d0 d1 d2
        have k0 := Line.later_cell r1 d0
        have k1 := Line.later_cell r1 d1
        have k2 := Line.later_cell r1 d2
        have R1 := Lib.hid r1
        clear d d0 d1 d2 hT hTT zT y0 y1 z1 z2 z3 z4 z5 z6 hB1 hB2 hB3 hB4 hB5 hB6 hbw hl hpl p0 p1 p2 htl l0 l1 l2 r1
        go_wp2_with fail
        try rw [hW]
        refine Line.region_later mixed (by kernel_rfl) ?_
        repeat (quiet_step (first | (go_at_call 11; exact Line.later_call (spec_num _ _ (by omega) (by omega)))))
        refine wpQuiet_nil ?_
        intro wM hw'
        have hwm : Below W.heap.size W wM := by
          obtain ⟨⟨wm, hq⟩, hwe⟩ := hw'
          rw [hwe]; exact hq
        have HBM : Hid (Below wL.heap.size wL wM) := HBX.out.trans (hwm.mono HBX.out.size)
        clear hw' hwm k0 k1 k2 a1 a2 a3 a4 a5 a6 s00 s01 s10 s11 s20 s21 q0 q1 q2 hW
        rw [HL.out]
        go_wp2_with fail
        go_roundw
        case rel => exact ⟨k + 1, by omega, by go_num, rfl, HBM.out⟩
        case measure => simp [intOf]; omega
      · obtain rfl : k = s.ps.length := by omega
        have HF := Lib.hid (text_yes HV.out)
        have HBZ := Lib.hid (HBL.out.trans (HB.out.mono HBL.out.size))
        go_wp2
        go_ret
        exact ⟨retSx HF.out, HBZ.out⟩
end Go.Proofs.YtcjjdnfikccnmaaDoor.Txt
