/- GoalLine, UsageText of chapter 5: the model's and the program's. -/
import Derived.Test.YtimpajhgplkpmabDoorGl
import Derived.Test.YtimpajhgplkpmabDoorBd
import Derived.Test.YtimpajhgplkpmabDoorLine
namespace Go.Proofs.YtimpajhgplkpmabDoor.GLine
open Go.RowKit
open Go.Proofs.YtimpajhgplkpmabDoor.C1
open Go.Proofs.YtimpajhgplkpmabDoor.C2
open Go.Proofs.YtimpajhgplkpmabDoor.Smps (box2_below)
open Go.Proofs.YtimpajhgplkpmabDoor.Milli
open Go.Proofs.YtimpajhgplkpmabDoor.Mt
open Go.Proofs.YtimpajhgplkpmabDoor.Line
open Go.Proofs.YtimpajhgplkpmabDoor.Pd
open Go.Proofs.YtimpajhgplkpmabDoor.Gl
open Go.Proofs.YtimpajhgplkpmabDoor.Bd
set_option linter.unusedVariables false

def glineL (g : Gl) : List UInt8 := g.met.data.toList ++ 32 :: (milli g.tar ++ 32 :: Lib.itoa g.tol)
/-- What GoalLine writes. -/
def glineV (g : Gl) : List UInt8 := if okG g then glineL g else []
theorem okg_parts {g : Gl} (h : okG g = true) : nameV g.met.data.toList = true ∧ sizeV g.tar = true ∧ sizeV g.tol = true := by
  obtain ⟨h1, ⟨t1, t2⟩, o1, o2⟩ := (okG_iff g).1 h
  refine ⟨h1, ?_, ?_⟩
  · unfold sizeV; simp only [decide_eq_true_eq]; omega
  · unfold sizeV; simp only [decide_eq_true_eq]; omega
theorem gline_eq (n : ByteArray) (a b : List UInt8) : n ++ { data := #[32] } ++ mk a ++ { data := #[32] } ++ mk b = mk (n.data.toList ++ 32 :: (a ++ 32 :: b)) := by
  have e : ({ data := #[32] } : ByteArray) = mk [32] := rfl
  rw [e, ← mk_of n, mk_append, mk_append, mk_append, mk_append]
  simp [mk_list]
theorem name_size {n : ByteArray} (h : nameV n.data.toList = true) : n.size ≤ 12 := by
  have l1 := name_len h
  have : n.data.toList.length = n.size := by simp
  omega
/-- The sums that both sides form. -/
theorem gline_sums (g : Gl) (h : okG g = true) : ∃ A1 A2 A3 A4 : ByteArray, (∀ w, (Op.stringOp .add g.met { data := #[32] }).run Tryd.prog w = .ok (.string A1) w) ∧ (∀ w, (Op.stringOp .add A1 (mk (milli g.tar))).run Tryd.prog w = .ok (.string A2) w) ∧ (∀ w, (Op.stringOp .add A2 { data := #[32] }).run Tryd.prog w = .ok (.string A3) w) ∧ (∀ w, (Op.stringOp .add A3 (mk (Lib.itoa g.tol))).run Tryd.prog w = .ok (.string A4) w) ∧ A4 = mk (glineL g) := by
  obtain ⟨n1, n2, n3⟩ := okg_parts h
  have hp := name_size n1
  have l3 := milli_len n2
  have l4 := itoa_len n3
  obtain ⟨A1, hA1⟩ : ∃ x, g.met ++ ({ data := #[32] } : ByteArray) = x := ⟨_, rfl⟩
  obtain ⟨A2, hA2⟩ : ∃ x, A1 ++ mk (milli g.tar) = x := ⟨_, rfl⟩
  obtain ⟨A3, hA3⟩ : ∃ x, A2 ++ ({ data := #[32] } : ByteArray) = x := ⟨_, rfl⟩
  obtain ⟨A4, hA4⟩ : ∃ x, A3 ++ mk (Lib.itoa g.tol) = x := ⟨_, rfl⟩
  have z0 : ({ data := #[32] } : ByteArray).size = 1 := rfl
  have z1 : A1.size = g.met.size + 1 := by rw [← hA1, ByteArray.size_append, z0]
  have z2 : A2.size = g.met.size + 1 + (milli g.tar).length := by rw [← hA2, ByteArray.size_append, z1, mk_size]
  have z3 : A3.size = g.met.size + 1 + (milli g.tar).length + 1 := by rw [← hA3, ByteArray.size_append, z2, z0]
  have a1 := add_at Tryd.prog g.met { data := #[32] } (by rw [z0]; omega)
  have a2 := add_at Tryd.prog A1 (mk (milli g.tar)) (by rw [mk_size]; omega)
  have a3 := add_at Tryd.prog A2 { data := #[32] } (by rw [z0]; omega)
  have a4 := add_at Tryd.prog A3 (mk (Lib.itoa g.tol)) (by rw [mk_size]; omega)
  rw [hA1] at a1
  rw [hA2] at a2
  rw [hA3] at a3
  rw [hA4] at a4
  refine ⟨A1, A2, A3, A4, a1, a2, a3, a4, ?_⟩
  rw [← hA4, ← hA3, ← hA2, ← hA1]
  exact gline_eq g.met (milli g.tar) (Lib.itoa g.tol)
theorem spec_gline (g : Gl) (hs : g.wf) (w : World) :
    Calls Tryd.prog 11 #[glV g] w fun e w' => e = .returned (.string (mk (glineV g))) ∧ Below w.heap.size w w' := by
  have mixed : Tryd.prog.follows .mixedOrders = true := by kernel_rfl
  have hc := fun w => spec_goalok g hs w
  unfold glineV
  cases hok : okG g
  · rw [hok] at hc
    unfold glV at hc ⊢
    go_enter Tryd.func11, Tryd.ntmps11
    go_wp2_with (go_at_call 17; refine (hc _).mono ?_; rintro e w1 ⟨rfl, hb1⟩; obtain ⟨r1, r2, q0, q1, q2⟩ := box_read3 hb1; clear hb1)
    go_ret
    exact ⟨rfl, r2⟩
  · rw [hok] at hc
    obtain ⟨A1, A2, A3, A4, a1, a2, a3, a4, hL⟩ := gline_sums g hok
    have HL := Lib.hid hL
    obtain ⟨-, ⟨t1, t2⟩, o1, o2⟩ := (okG_iff g).1 hok
    clear hL hok
    unfold glV at hc ⊢
    go_enter Tryd.func11, Tryd.ntmps11
    go_wp2_with (go_at_call 17; refine (hc _).mono ?_; rintro e w1 ⟨rfl, hb1⟩; obtain ⟨r1, r2, q0, q1, q2⟩ := box_read3 hb1; clear hb1)
    have k0 := later_cell r1 q0
    have k1 := later_cell r1 q1
    have k2 := later_cell r1 q2
    clear hc
    refine region_later mixed (by kernel_rfl) ?_
    repeat (quiet_step (first | (go_at_call 18; exact later_call (spec_milli _ _)) | (go_at_call 23; exact later_call (spec_num _ _ (by omega) (by omega)))))
    refine wpQuiet_nil ?_
    intro _ hw'
    obtain ⟨⟨wl, hwl⟩, rfl⟩ := hw'
    go_wp2
    go_ret
    exact ⟨ret1S (by exact HL.out), r2.trans (hwl.mono (Nat.le_of_lt r1))⟩
theorem impl_gline (g : Gl) (hs : g.wf) (w : World) (he : Env w) :
    Calls Tryd.prog 12 #[glV g] w fun e w' => e = .returned (.string (mk (glineV g))) ∧ Below w.heap.size w w' := by
  have mixed : Tryd.prog.follows .mixedOrders = true := by kernel_rfl
  have hc := fun w => impl_goalok g hs w
  unfold glineV
  cases hok : okG g
  · rw [hok] at hc
    unfold glV at hc ⊢
    go_enter Tryd.func12, Tryd.ntmps12
    go_wp2_with (go_at_call 20; refine (hc _).mono ?_; rintro e w1 ⟨rfl, hb1⟩; obtain ⟨r1, r2, q0, q1, q2⟩ := box_read3 hb1; clear hb1)
    go_ret
    exact ⟨rfl, r2⟩
  · rw [hok] at hc
    obtain ⟨A1, A2, A3, A4, a1, a2, a3, a4, hL⟩ := gline_sums g hok
    have HL := Lib.hid hL
    obtain ⟨-, ⟨t1, t2⟩, o1, o2⟩ := (okG_iff g).1 hok
    clear hL hok
    unfold glV at hc ⊢
    go_enter Tryd.func12, Tryd.ntmps12
    go_wp2_with (go_at_call 20; refine (hc _).mono ?_; rintro e w1 ⟨rfl, hb1⟩; obtain ⟨r1, r2, q0, q1, q2⟩ := box_read3 hb1; clear hb1)
    have HE1 := Lib.hid (he.kept r2)
    have k0 := later_cell r1 q0
    have k1 := later_cell r1 q1
    have k2 := later_cell r1 q2
    clear hc
    refine region_later mixed (by kernel_rfl) ?_
    repeat (quiet_step (first | (go_at_call 21; exact later_call (impl_milli _ _ (HE1.out.kept (Later.h _)))) | (go_at_call 24; exact later_call (itoa_int _ (by omega) (by omega) _ (HE1.out.kept (Later.h _))))))
    refine wpQuiet_nil ?_
    intro _ hw'
    obtain ⟨⟨wl, hwl⟩, rfl⟩ := hw'
    go_wp2
    go_ret
    exact ⟨ret1S (by exact HL.out), r2.trans (hwl.mono (Nat.le_of_lt r1))⟩
/-! ### UsageText. -/
def usL (t : Ty) (g : Gl) : List UInt8 := milli (t.sum / t.rdy) ++ 47 :: milli g.tar
def usV (t : Ty) (g : Gl) : List UInt8 := if (okU t && okG g) = true then usL t g else [45]
theorem us_no {t : Ty} {g : Gl} (h : okU t = false ∨ okG g = false) : usV t g = [45] := by
  unfold usV
  rw [if_neg]
  rcases h with h | h <;> rw [h] <;> simp
theorem us_yes {t : Ty} {g : Gl} (h : okU t = true) (h2 : okG g = true) : usV t g = usL t g := by
  unfold usV
  rw [h, h2]
  rfl
theorem us_div {t : Ty} (h : okU t = true) : t.sum.tdiv t.rdy = t.sum / t.rdy ∧ flD t.sum t.rdy = t.sum / t.rdy ∧ 0 ≤ t.sum / t.rdy ∧ t.sum / t.rdy ≤ 1000000000 := by
  obtain ⟨⟨r1, r2⟩, -, -, s1, s2⟩ := (okU_iff t).1 h
  refine ⟨Int.tdiv_eq_ediv_of_nonneg s1, ?_, Int.ediv_nonneg s1 (by omega), Int.le_trans (Int.ediv_le_self _ s1) s2⟩
  unfold flD
  rw [if_neg (by omega)]
theorem us_sums (t : Ty) (g : Gl) (h1 : okU t = true) (h2 : okG g = true) : ∃ A1 A2 : ByteArray, (∀ w, (Op.stringOp .add (mk (milli (t.sum / t.rdy))) { data := #[47] }).run Tryd.prog w = .ok (.string A1) w) ∧ (∀ w, (Op.stringOp .add A1 (mk (milli g.tar))).run Tryd.prog w = .ok (.string A2) w) ∧ A2 = mk (usL t g) := by
  obtain ⟨-, n2, -⟩ := okg_parts h2
  obtain ⟨-, -, d1, d2⟩ := us_div h1
  have l3 := milli_len n2
  have l4 := milli_len (v := t.sum / t.rdy) (by unfold sizeV; simp only [decide_eq_true_eq]; exact ⟨d1, d2⟩)
  obtain ⟨A1, hA1⟩ : ∃ x, mk (milli (t.sum / t.rdy)) ++ ({ data := #[47] } : ByteArray) = x := ⟨_, rfl⟩
  obtain ⟨A2, hA2⟩ : ∃ x, A1 ++ mk (milli g.tar) = x := ⟨_, rfl⟩
  have z0 : ({ data := #[47] } : ByteArray).size = 1 := rfl
  have z1 : A1.size = (milli (t.sum / t.rdy)).length + 1 := by rw [← hA1, ByteArray.size_append, z0, mk_size]
  have a1 := add_at Tryd.prog (mk (milli (t.sum / t.rdy))) { data := #[47] } (by rw [z0, mk_size]; omega)
  have a2 := add_at Tryd.prog A1 (mk (milli g.tar)) (by rw [mk_size]; omega)
  rw [hA1] at a1
  rw [hA2] at a2
  refine ⟨A1, A2, a1, a2, ?_⟩
  have e : ({ data := #[47] } : ByteArray) = mk [47] := rfl
  rw [← hA2, ← hA1, e, mk_append, mk_append]
  unfold usL
  simp
set_option maxHeartbeats 1000000 in
theorem spec_usage (t : Ty) (g : Gl) (hs : g.wf) (w : World) :
    Calls Tryd.prog 7 #[tyV t, glV g] w fun e w' => e = .returned (.string (mk (usV t g))) ∧ Below w.heap.size w w' := by
  have mixed : Tryd.prog.follows .mixedOrders = true := by kernel_rfl
  have hus := fun W => spec_usable t W
  have hgo := fun W => spec_goalok g hs W
  unfold tyV glV
  unfold tyV at hus
  unfold glV at hgo
  have HA := Lib.hid (box2_cells w #[.int .i64 t.rdy, .int .i64 t.unr, .int .i64 t.mis, .int .i64 t.sum] #[.string g.met, .int .i64 g.tar, .int .i64 g.tol] 28 30)
  have H0 := Lib.hid (box2_below w (.cells #[.int .i64 t.rdy, .int .i64 t.unr, .int .i64 t.mis, .int .i64 t.sum] 28) (.cells #[.string g.met, .int .i64 g.tar, .int .i64 g.tol] 30))
  obtain ⟨W0, hW0⟩ : ∃ W0, (w.alloc (.cells #[.int .i64 t.rdy, .int .i64 t.unr, .int .i64 t.mis, .int .i64 t.sum] 28)).alloc (.cells #[.string g.met, .int .i64 g.tar, .int .i64 g.tol] 30) = W0 := ⟨_, rfl⟩
  rw [hW0] at HA H0
  have HW := Lib.hid hW0
  clear hW0
  obtain ⟨y0, y1, y2, y3⟩ := cells4 HA.out.1
  cases c1 : okU t
  · rw [c1] at hus
    rw [us_no (.inl c1)]
    go_enter Tryd.func7, Tryd.ntmps7
    go_wp2_with fail
    rw [HW.out]
    refine (hus _).mono ?_
    rintro e w1 ⟨rfl, hb1⟩
    have HB := Lib.hid (H0.out.trans (hb1.mono H0.out.size))
    clear hb1
    go_wp2
    go_ret
    exact ⟨rfl, HB.out⟩
  · rw [c1] at hus
    have C1 := Lib.hid c1
    clear c1
    go_enter Tryd.func7, Tryd.ntmps7
    go_wp2_with fail
    rw [HW.out]
    refine (hus _).mono ?_
    rintro e w1 ⟨rfl, hb1⟩
    have HB1 := Lib.hid (H0.out.trans (hb1.mono H0.out.size))
    have HT1 := Lib.hid (HA.out.1.kept hb1)
    have HG1 := Lib.hid (HA.out.2.kept hb1)
    clear hb1 y0 y1 y2 y3
    obtain ⟨z0, z1, z2⟩ := cells3 HG1.out
    cases c2 : okG g
    · rw [c2] at hgo
      have HN := Lib.hid (us_no (t := t) (.inr c2))
      clear c2
      go_wp2_with fail
      refine (hgo _).mono ?_
      rintro e w2 ⟨rfl, hb2⟩
      have HB2 := Lib.hid (HB1.out.trans (hb2.mono HB1.out.size))
      clear hb2
      go_wp2
      go_ret
      exact ⟨ret1S (by rw [HN.out]; rfl), HB2.out⟩
    · rw [c2] at hgo
      obtain ⟨A1, A2, a1, a2, hL⟩ := us_sums t g C1.out c2
      have HY := Lib.hid (us_yes C1.out c2)
      have HL := Lib.hid hL
      obtain ⟨td, -, d1, d2⟩ := us_div C1.out
      obtain ⟨⟨r1, r2⟩, -, -, s1, s2⟩ := (okU_iff t).1 C1.out
      have hr0 : ¬ t.rdy = 0 := by omega
      obtain ⟨q, hq⟩ : ∃ q, t.sum / t.rdy = q := ⟨_, rfl⟩
      rw [hq] at td a1 d1 d2
      have hwq : IntKind.i64.wrap q = q := by rw [IntKind.wrap_i64]; omega
      clear c2 hL hq
      go_wp2_with fail
      refine (hgo _).mono ?_
      rintro e w2 ⟨rfl, hb2⟩
      have HB2 := Lib.hid (HB1.out.trans (hb2.mono HB1.out.size))
      have hT2 := (HT1.out.kept hb2)
      have hG2 := (HG1.out.kept hb2)
      have k3 := later_cell hT2.1 (cells4 hT2).2.2.2
      have k0 := later_cell hT2.1 (cells4 hT2).1
      have g1 := later_cell hG2.1 (cells3 hG2).2.1
      clear hb2 z0 z1 z2 hT2 hG2
      go_wp2_with fail
      refine region_later mixed (by kernel_rfl) ?_
      repeat (quiet_step (first | (go_at_call 18; exact later_call (spec_milli _ _))))
      refine wpQuiet_nil ?_
      intro _ hw'
      obtain ⟨⟨wl, hwl⟩, rfl⟩ := hw'
      go_wp2
      go_ret
      exact ⟨ret1S (by rw [HY.out]; exact HL.out), HB2.out.trans (hwl.mono HB2.out.size)⟩
set_option maxHeartbeats 1000000 in
theorem impl_usage (t : Ty) (g : Gl) (hs : g.wf) (w : World) (he : Env w) :
    Calls Tryd.prog 10 #[tyV t, glV g] w fun e w' => e = .returned (.string (mk (usV t g))) ∧ Below w.heap.size w w' := by
  have mixed : Tryd.prog.follows .mixedOrders = true := by kernel_rfl
  have hus := fun W => impl_usable t W
  have hgo := fun W => impl_goalok g hs W
  have HE := Lib.hid he
  clear he
  unfold tyV glV
  unfold tyV at hus
  unfold glV at hgo
  have HA := Lib.hid (box2_cells w #[.int .i64 t.rdy, .int .i64 t.unr, .int .i64 t.mis, .int .i64 t.sum] #[.string g.met, .int .i64 g.tar, .int .i64 g.tol] 28 30)
  have H0 := Lib.hid (box2_below w (.cells #[.int .i64 t.rdy, .int .i64 t.unr, .int .i64 t.mis, .int .i64 t.sum] 28) (.cells #[.string g.met, .int .i64 g.tar, .int .i64 g.tol] 30))
  obtain ⟨W0, hW0⟩ : ∃ W0, (w.alloc (.cells #[.int .i64 t.rdy, .int .i64 t.unr, .int .i64 t.mis, .int .i64 t.sum] 28)).alloc (.cells #[.string g.met, .int .i64 g.tar, .int .i64 g.tol] 30) = W0 := ⟨_, rfl⟩
  rw [hW0] at HA H0
  have HW := Lib.hid hW0
  clear hW0
  obtain ⟨y0, y1, y2, y3⟩ := cells4 HA.out.1
  cases c1 : okU t
  · rw [c1] at hus
    rw [us_no (.inl c1)]
    go_enter Tryd.func10, Tryd.ntmps10
    go_wp2_with fail
    rw [HW.out]
    refine (hus _).mono ?_
    rintro e w1 ⟨rfl, hb1⟩
    have HB := Lib.hid (H0.out.trans (hb1.mono H0.out.size))
    clear hb1
    go_wp2
    go_ret
    exact ⟨rfl, HB.out⟩
  · rw [c1] at hus
    have C1 := Lib.hid c1
    clear c1
    go_enter Tryd.func10, Tryd.ntmps10
    go_wp2_with fail
    rw [HW.out]
    refine (hus _).mono ?_
    rintro e w1 ⟨rfl, hb1⟩
    have HB1 := Lib.hid (H0.out.trans (hb1.mono H0.out.size))
    have HT1 := Lib.hid (HA.out.1.kept hb1)
    have HG1 := Lib.hid (HA.out.2.kept hb1)
    clear hb1 y0 y1 y2 y3
    obtain ⟨z0, z1, z2⟩ := cells3 HG1.out
    cases c2 : okG g
    · rw [c2] at hgo
      have HN := Lib.hid (us_no (t := t) (.inr c2))
      clear c2
      go_wp2_with fail
      refine (hgo _).mono ?_
      rintro e w2 ⟨rfl, hb2⟩
      have HB2 := Lib.hid (HB1.out.trans (hb2.mono HB1.out.size))
      clear hb2
      go_wp2
      go_ret
      exact ⟨ret1S (by rw [HN.out]; rfl), HB2.out⟩
    · rw [c2] at hgo
      obtain ⟨A1, A2, a1, a2, hL⟩ := us_sums t g C1.out c2
      have HY := Lib.hid (us_yes C1.out c2)
      have HL := Lib.hid hL
      obtain ⟨-, fd, d1, d2⟩ := us_div C1.out
      obtain ⟨⟨r1, r2⟩, -, -, s1, s2⟩ := (okU_iff t).1 C1.out
      obtain ⟨q, hq⟩ : ∃ q, t.sum / t.rdy = q := ⟨_, rfl⟩
      rw [hq] at fd a1 d1 d2
      have hfl := fun W => impl_floor t.sum t.rdy W ⟨by omega, by omega⟩
      rw [fd] at hfl
      clear c2 hL hq fd
      go_wp2_with fail
      refine (hgo _).mono ?_
      rintro e w2 ⟨rfl, hb2⟩
      have HB2 := Lib.hid (HB1.out.trans (hb2.mono HB1.out.size))
      have HE2 := Lib.hid (HE.out.kept HB2.out)
      have hT2 := (HT1.out.kept hb2)
      have hG2 := (HG1.out.kept hb2)
      have k3 := later_cell hT2.1 (cells4 hT2).2.2.2
      have k0 := later_cell hT2.1 (cells4 hT2).1
      have g1 := later_cell hG2.1 (cells3 hG2).2.1
      have HFL : Hid (∀ p : Later w2, Calls Tryd.prog 22 #[.int .i64 t.sum, .int .i64 t.rdy] p.u fun e w' => e = .returned (.int .i64 q) ∧ ∃ q : Later w2, w' = q.u) := fun p => later_call ((hfl p.u).mono fun e w' ⟨h1, h2⟩ => ⟨h1, by rw [← h2]; exact Below.refl _ _⟩)
      clear hb2 z0 z1 z2 hT2 hG2 hfl
      go_wp2_with fail
      refine region_later mixed (by kernel_rfl) ?_
      repeat (quiet_step (first | (go_at_call 22; exact HFL.out _) | (go_at_call 21; exact later_call (impl_milli _ _ (HE2.out.kept (Later.h _))))))
      refine wpQuiet_nil ?_
      intro _ hw'
      obtain ⟨⟨wl, hwl⟩, rfl⟩ := hw'
      go_wp2
      go_ret
      exact ⟨ret1S (by rw [HY.out]; exact HL.out), HB2.out.trans (hwl.mono HB2.out.size)⟩
end Go.Proofs.YtimpajhgplkpmabDoor.GLine
