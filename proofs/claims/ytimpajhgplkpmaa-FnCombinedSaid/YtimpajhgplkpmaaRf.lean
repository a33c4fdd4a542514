/- RefillOf: both sides; readyLoad, refill. -/
import Derived.Test.YtimpajhgplkpmaaBd
import Derived.Deep.RegionHeld3
namespace Go.Proofs.Ytimpajhgplkpmaa.Rf
open Go.RowKit
open Go.Proofs.Ytimpajhgplkpmaa.C1
open Go.Proofs.Ytimpajhgplkpmaa.C2
open Go.Proofs.Ytimpajhgplkpmaa.Smps
open Go.Proofs.Ytimpajhgplkpmaa.Mem
open Go.Proofs.Ytimpajhgplkpmaa.Pd
open Go.Proofs.Ytimpajhgplkpmaa.Gl
open Go.Proofs.Ytimpajhgplkpmaa.Rs
open Go.Proofs.Ytimpajhgplkpmaa.Bd
set_option linter.unusedVariables false

/-- The refilled load. -/
def rS (t : Ty) (x : Int) : Int := if rsV t.sum t.rdy x = -1 then t.sum + t.mis * x else t.sum
def rN (t : Ty) (x : Int) : Int := if rsV t.sum t.rdy x = -1 then t.rdy + t.mis else if rsV t.sum t.rdy x = 1 then t.rdy + (t.unr + t.mis) else t.rdy
theorem cellsF2 {w : World} {g : Nat} {a b : Value} (h : CellsW w g [a, b]) : w.frozen? ⟨g, 0, none⟩ = false ∧ w.frozen? ⟨g, 1, none⟩ = false :=
  ⟨(h.2 0 (by simp)).2, (h.2 1 (by simp)).2⟩
theorem CellsW.off {w : World} {g c j : Nat} {vs : List Value} (h : CellsW w g vs) (u : Value) (hne : g ≠ c) : CellsW (w.setCell ⟨c, j, none⟩ u) g vs :=
  ⟨by simpa [World.setCell] using h.1, fun i hi => ⟨by rw [World.cell?_setCell_other (h := show (⟨c, j, none⟩ : Addr) ≠ ⟨g, i, none⟩ by intro hh; cases hh; exact hne rfl)]; exact (h.2 i hi).1, by rw [World.frozen?_setCell]; exact (h.2 i hi).2⟩⟩
/-- A result that is a load's cells. -/
theorem ret_load {fn : Func} {k : Nat} (hr : fn.results = #[.cell k 100]) {W : World} {g : Nat} {s n : Int} {tmps : Array Value} (h : CellsW W g [.int .i64 s, .int .i64 n]) (h2 : tmps.getD k undef = .pointer (some ⟨g, 0, none⟩)) :
    (results fn tmps).run Try.prog W = .ok (ldV s n) W := by
  obtain ⟨c0, c1⟩ := cells2 h
  have hp' : tmps[k]?.getD undef = .pointer (some ⟨g, 0, none⟩) := by simpa using h2
  simp [results, hr, hp', asAddr, go_sem, c0, c1, ldV]
/-- The two stores of a load into its variable. -/
theorem ld_set {w : World} {g : Nat} {u0 u1 : Value} (h : CellsW w g [u0, u1]) (s n : Int) {B : Nat} (hB : B ≤ g) {a : World} (hb : Below B a w) :
    CellsW ((w.setCell ⟨g, 0, none⟩ (.int .i64 s)).setCell ⟨g, 1, none⟩ (.int .i64 n)) g [.int .i64 s, .int .i64 n] ∧ Below B a ((w.setCell ⟨g, 0, none⟩ (.int .i64 s)).setCell ⟨g, 1, none⟩ (.int .i64 n)) :=
  ⟨(h.set 0 (.int .i64 s) (by simp)).set 1 (.int .i64 n) (by simp), (hb.setCell (p := ⟨g, 0, none⟩) hB _).setCell (p := ⟨g, 1, none⟩) hB _⟩
theorem impl_ready (t : Ty) (w : World) :
    Calls Try.prog 96 #[tyV t] w fun e w' => e = .returned (ldV t.sum t.rdy) ∧ Below w.heap.size w w' := by
  unfold tyV
  go_enter Try.func96, Try.ntmps96
  go_wp2
  have k1 := (box2_cells w #[.int .i64 t.rdy, .int .i64 t.unr, .int .i64 t.mis, .int .i64 t.sum] #[.int .i64 t.sum, .int .i64 t.rdy] 25 100).2
  exact bodyPost_ret (ret_load rfl k1 rfl) rfl ⟨rfl, box2_below _ _ _⟩
set_option maxHeartbeats 2000000 in
theorem impl_refill (t : Ty) (x : Int) (hu : okU t = true) (hx : inB x 1 1000000 = true) (w : World) :
    Calls Try.prog 61 #[tyV t, .int .i64 x] w fun e w' => e = .returned (ldV (rS t x) (rN t x)) ∧ Below w.heap.size w w' := by
  have hrd := fun W => impl_ready t W
  have hsg := fun W => impl_lsign t.sum t.rdy x W
  obtain ⟨⟨r1, r2⟩, ⟨u1, u2⟩, ⟨m1, m2⟩, s1, s2⟩ := (okU_iff t).1 hu
  obtain ⟨x1, x2⟩ := in_iff.1 hx
  have hl : ldOk t.sum t.rdy = true := (ldOk_iff _ _).2 ⟨⟨s1, s2⟩, r1, by omega⟩
  have hmx : 0 ≤ t.mis * x ∧ t.mis * x ≤ 12000000 := by
    refine ⟨Int.mul_nonneg m1 (by omega), ?_⟩
    have := Int.mul_le_mul m2 x2 (by omega) (by omega)
    omega
  obtain ⟨mx1, mx2⟩ := hmx
  obtain ⟨S, hS⟩ : ∃ S, rS t x = S := ⟨_, rfl⟩
  obtain ⟨M, hM⟩ : ∃ M, rN t x = M := ⟨_, rfl⟩
  have HS := Lib.hid hS
  have HM := Lib.hid hM
  rw [hS, hM]
  have hrs := rs_good hl hx
  unfold rS at HS
  unfold rN at HM
  obtain ⟨q, hq⟩ : ∃ q, rsV t.sum t.rdy x = q := ⟨_, rfl⟩
  rw [hq] at hsg hrs HS HM
  have HRS := Lib.hid hrs
  clear hu hx hl hS hM hrs hq
  unfold tyV at hrd ⊢
  unfold ldV at hrd hsg ⊢
  have HA := Lib.hid (box2_cells w #[.int .i64 t.rdy, .int .i64 t.unr, .int .i64 t.mis, .int .i64 t.sum] #[.int .i64 0, .int .i64 0] 25 100)
  have H0 := Lib.hid (box2_below w (.cells #[.int .i64 t.rdy, .int .i64 t.unr, .int .i64 t.mis, .int .i64 t.sum] 25) (.cells #[.int .i64 0, .int .i64 0] 100))
  obtain ⟨W0, hW0⟩ : ∃ W0, (w.alloc (.cells #[.int .i64 t.rdy, .int .i64 t.unr, .int .i64 t.mis, .int .i64 t.sum] 25)).alloc (.cells #[.int .i64 0, .int .i64 0] 100) = W0 := ⟨_, rfl⟩
  rw [hW0] at HA H0
  have HW := Lib.hid hW0
  clear hW0
  obtain ⟨y0, y1, y2, y3⟩ := cells4 HA.out.1
  go_enter Try.func61, Try.ntmps61
  go_wp2_with fail
  rw [HW.out]
  refine (hrd _).mono ?_
  rintro e w1 ⟨rfl, hb1⟩
  have HB1 := Lib.hid (H0.out.trans (hb1.mono H0.out.size))
  have HT1 := Lib.hid (HA.out.1.kept hb1)
  have HR1 := Lib.hid (HA.out.2.kept hb1)
  clear hb1 y0 y1 y2 y3
  have HL1 := Lib.hid (cells_new w1 #[.int .i64 t.sum, .int .i64 t.rdy] 100)
  have hbx := box_below w1 #[.int .i64 t.sum, .int .i64 t.rdy] 100
  have HT2 := Lib.hid (HT1.out.kept hbx)
  have HR2 := Lib.hid (HR1.out.kept hbx)
  have HB2 := Lib.hid (HB1.out.trans (hbx.mono HB1.out.size))
  have hgt := HR1.out.1
  obtain ⟨W1, hW1⟩ : ∃ W1, w1.alloc (.cells #[.int .i64 t.sum, .int .i64 t.rdy] 100) = W1 := ⟨_, rfl⟩
  obtain ⟨g, hg⟩ : ∃ g, w1.heap.size = g := ⟨_, rfl⟩
  obtain ⟨b, hb⟩ : ∃ b, w.heap.size = b := ⟨_, rfl⟩
  have HWW := Lib.hid hW1
  have HGG := Lib.hid hg
  have HBB := Lib.hid hb
  rw [hW1] at HL1 HT2 HR2 HB2
  rw [hb] at HT2 HR2 hgt
  rw [hg] at HL1 hgt
  clear hbx HB1 HT1 HR1 HA H0 HW hg hW1 hb
  obtain ⟨l0, l1⟩ := cells2 HL1.out
  go_wp2_with fail
  rw [HWW.out]
  refine (hsg _).mono ?_
  rintro e w2 ⟨rfl, hb2⟩
  have HB3 := Lib.hid (HB2.out.trans (hb2.mono HB2.out.size))
  have HT3 := Lib.hid (HT2.out.kept hb2)
  have HR3 := Lib.hid (HR2.out.kept hb2)
  have HL3 := Lib.hid (HL1.out.kept hb2)
  clear hb2 l0 l1 HT2 HR2 HL1 HB2
  obtain ⟨l0, l1⟩ := cells2 HL3.out
  obtain ⟨fl0, fl1⟩ := cellsF2 HL3.out
  obtain ⟨fr0, fr1⟩ := cellsF2 HR3.out
  obtain ⟨y0, y1, y2, y3⟩ := cells4 HT3.out
  obtain ⟨z0, z1⟩ := cells2 HR3.out
  rw [HBB.out, HGG.out]
  have hbg := HBB.out
  have n1 : ¬ b = g := by omega
  have n2 : ¬ g = b := by omega
  have n3 : ¬ b + 1 = g := by omega
  have n4 : ¬ g = b + 1 := by omega
  clear hbg
  rcases HRS.out with ⟨-, rfl⟩ | ⟨-, rfl⟩ | ⟨-, rfl⟩
  · obtain rfl : t.sum + t.mis * x = S := by rw [← HS.out, if_pos rfl]
    obtain rfl : t.rdy + t.mis = M := by rw [← HM.out, if_pos rfl]
    go_wp2
    have hbg := HBB.out
    have hr := CellsW.off (j := 1) (CellsW.off (j := 0) HR3.out (.int .i64 (t.sum + t.mis * x)) n3) (.int .i64 (t.rdy + t.mis)) n3
    have hb := ((HB3.out.setCell (p := ⟨g, 0, none⟩) (by show _ ≤ g; omega) (.int .i64 (t.sum + t.mis * x))).setCell (p := ⟨g, 1, none⟩) (by show _ ≤ g; omega) (.int .i64 (t.rdy + t.mis)))
    obtain ⟨k1, k2⟩ := ld_set hr (t.sum + t.mis * x) (t.rdy + t.mis) (by omega) hb
    exact bodyPost_ret (ret_load rfl k1 rfl) rfl ⟨rfl, k2⟩
  · obtain rfl : t.sum = S := by rw [← HS.out, if_neg (by decide)]
    obtain rfl : t.rdy + (t.unr + t.mis) = M := by rw [← HM.out, if_neg (by decide), if_pos rfl]
    go_wp2
    have hbg := HBB.out
    have hr := CellsW.off (j := 1) HR3.out (.int .i64 (t.rdy + (t.unr + t.mis))) n3
    have hb := HB3.out.setCell (p := ⟨g, 1, none⟩) (by show _ ≤ g; omega) (.int .i64 (t.rdy + (t.unr + t.mis)))
    obtain ⟨k1, k2⟩ := ld_set hr t.sum (t.rdy + (t.unr + t.mis)) (by omega) hb
    exact bodyPost_ret (ret_load rfl k1 rfl) rfl ⟨rfl, k2⟩
  · obtain rfl : t.sum = S := by rw [← HS.out, if_neg (by decide)]
    obtain rfl : t.rdy = M := by rw [← HM.out, if_neg (by decide), if_neg (by decide)]
    go_wp2
    have hbg := HBB.out
    obtain ⟨k1, k2⟩ := ld_set HR3.out t.sum t.rdy (by omega) HB3.out
    exact bodyPost_ret (ret_load rfl k1 rfl) rfl ⟨rfl, k2⟩

/-! ### RefillOf. -/
theorem bd_refill (t : Ty) (x : Int) (hu : okU t = true) (hx : inB x 1 1000000 = true) : 0 ≤ rS t x ∧ rS t x ≤ 1012000000 ∧ 1 ≤ rN t x ∧ rN t x ≤ 36 ∧ 0 ≤ t.mis * x ∧ t.mis * x ≤ 12000000 := by
  obtain ⟨⟨r1, r2⟩, ⟨u1, u2⟩, ⟨m1, m2⟩, s1, s2⟩ := (okU_iff t).1 hu
  obtain ⟨x1, x2⟩ := in_iff.1 hx
  have h1 := Int.mul_nonneg m1 (show 0 ≤ x by omega)
  have h2 := Int.mul_le_mul m2 x2 (by omega) (by omega)
  unfold rS rN
  split
  · omega
  · split <;> omega
theorem ret2I {a b c d : Int} (h1 : a = c) (h2 : b = d) : Ending.returned (.tuple #[.int .i64 a, .int .i64 b]) = .returned (.tuple #[.int .i64 c, .int .i64 d]) := by rw [h1, h2]
def rf1 (t : Ty) (g : Gl) : Int := if okU t = true ∧ okG g = true then rS t g.tar else 0
def rf2 (t : Ty) (g : Gl) : Int := if okU t = true ∧ okG g = true then rN t g.tar else 0
theorem rf_no {t : Ty} {g : Gl} (h : okU t = false ∨ okG g = false) : rf1 t g = 0 ∧ rf2 t g = 0 := by
  unfold rf1 rf2
  rcases h with h | h <;> rw [h] <;> simp
theorem rf_yes {t : Ty} {g : Gl} (h : okU t = true) (h2 : okG g = true) : rf1 t g = rS t g.tar ∧ rf2 t g = rN t g.tar := by
  unfold rf1 rf2
  rw [if_pos ⟨h, h2⟩, if_pos ⟨h, h2⟩]
  exact ⟨rfl, rfl⟩
set_option maxHeartbeats 2000000 in
theorem impl_refillof (t : Ty) (g : Gl) (hg : g.wf) (S M : Int) (hS : rf1 t g = S) (hM : rf2 t g = M) (w : World) :
    Calls Try.prog 18 #[tyV t, glV g] w fun e w' => e = .returned (.tuple #[.int .i64 S, .int .i64 M]) ∧ Below w.heap.size w w' := by
  have hus := fun W => impl_usable t W
  have hgo := fun W => impl_goalok g hg W
  have HS := Lib.hid hS
  have HM := Lib.hid hM
  clear hS hM
  unfold tyV glV
  unfold tyV at hus
  unfold glV at hgo
  have HA := Lib.hid (box2_cells w #[.int .i64 t.rdy, .int .i64 t.unr, .int .i64 t.mis, .int .i64 t.sum] #[.string g.met, .int .i64 g.tar, .int .i64 g.tol] 25 27)
  have H0 := Lib.hid (box2_below w (.cells #[.int .i64 t.rdy, .int .i64 t.unr, .int .i64 t.mis, .int .i64 t.sum] 25) (.cells #[.string g.met, .int .i64 g.tar, .int .i64 g.tol] 27))
  obtain ⟨W0, hW0⟩ : ∃ W0, (w.alloc (.cells #[.int .i64 t.rdy, .int .i64 t.unr, .int .i64 t.mis, .int .i64 t.sum] 25)).alloc (.cells #[.string g.met, .int .i64 g.tar, .int .i64 g.tol] 27) = W0 := ⟨_, rfl⟩
  rw [hW0] at HA H0
  have HW := Lib.hid hW0
  clear hW0
  obtain ⟨y0, y1, y2, y3⟩ := cells4 HA.out.1
  obtain ⟨z0, z1, z2⟩ := cells3 HA.out.2
  cases c1 : okU t
  · rw [c1] at hus
    obtain rfl : 0 = S := (rf_no (.inl c1)).1.symm.trans HS.out
    obtain rfl : 0 = M := (rf_no (.inl c1)).2.symm.trans HM.out
    clear c1
    go_enter Try.func18, Try.ntmps18
    go_wp2_with fail
    rw [HW.out]
    refine (hus _).mono ?_
    rintro e w1 ⟨rfl, hb1⟩
    have HB := Lib.hid (H0.out.trans (hb1.mono H0.out.size))
    clear hb1
    go_wp2
    go_ret2
    exact ⟨rfl, HB.out⟩
  · rw [c1] at hus
    have C1 := Lib.hid c1
    clear c1
    go_enter Try.func18, Try.ntmps18
    go_wp2_with fail
    rw [HW.out]
    refine (hus _).mono ?_
    rintro e w1 ⟨rfl, hb1⟩
    have HB1 := Lib.hid (H0.out.trans (hb1.mono H0.out.size))
    have HT1 := Lib.hid (HA.out.1.kept hb1)
    have HG1 := Lib.hid (HA.out.2.kept hb1)
    clear hb1 y0 y1 y2 y3 z0 z1 z2
    obtain ⟨z0, z1, z2⟩ := cells3 HG1.out
    cases c2 : okG g
    · rw [c2] at hgo
      obtain rfl : 0 = S := (rf_no (.inr c2)).1.symm.trans HS.out
      obtain rfl : 0 = M := (rf_no (.inr c2)).2.symm.trans HM.out
      clear c2
      go_wp2_with fail
      refine (hgo _).mono ?_
      rintro e w2 ⟨rfl, hb2⟩
      have HB2 := Lib.hid (HB1.out.trans (hb2.mono HB1.out.size))
      clear hb2
      go_wp2
      go_ret2
      exact ⟨rfl, HB2.out⟩
    · rw [c2] at hgo
      obtain ⟨-, ⟨t1, t2⟩, -⟩ := (okG_iff g).1 c2
      have hrf := fun W => impl_refill t g.tar C1.out (in_yes t1 t2) W
      have e1 : rS t g.tar = S := (rf_yes C1.out c2).1.symm.trans HS.out
      have e2 : rN t g.tar = M := (rf_yes C1.out c2).2.symm.trans HM.out
      rw [e1, e2] at hrf
      unfold tyV ldV at hrf
      clear HS HM c2 e1 e2
      go_wp2_with fail
      refine (hgo _).mono ?_
      rintro e w2 ⟨rfl, hb2⟩
      have HB2 := Lib.hid (HB1.out.trans (hb2.mono HB1.out.size))
      have HT2 := Lib.hid (HT1.out.kept hb2)
      have HG2 := Lib.hid (HG1.out.kept hb2)
      clear hb2 z0 z1 z2
      obtain ⟨y0, y1, y2, y3⟩ := cells4 HT2.out
      obtain ⟨z0, z1, z2⟩ := cells3 HG2.out
      go_wp2_with fail
      refine (hrf _).mono ?_
      rintro e w3 ⟨rfl, hb3⟩
      have HB3 := Lib.hid ((HB2.out.trans (hb3.mono HB2.out.size)).alloc (Nat.le_trans HB2.out.size hb3.size) (.cells #[.int .i64 S, .int .i64 M] 100))
      obtain ⟨l0, l1⟩ := cells2 (cells_new w3 #[.int .i64 S, .int .i64 M] 100)
      obtain ⟨W3, hW3⟩ : ∃ W3, w3.alloc (.cells #[.int .i64 S, .int .i64 M] 100) = W3 := ⟨_, rfl⟩
      obtain ⟨gl, hgl⟩ : ∃ gl, w3.heap.size = gl := ⟨_, rfl⟩
      have HW3 := Lib.hid hW3
      have HGL := Lib.hid hgl
      rw [hW3] at HB3 l0 l1
      rw [hgl] at l0 l1
      clear hb3 y0 y1 y2 y3 z0 z1 z2 hW3 hgl
      go_wp2_with fail
      rw [HW3.out, HGL.out]
      go_quiet (fail)
      go_wp2
      go_ret2
      exact ⟨rfl, below_drewN HB3.out _⟩
/-! ### The model. -/
set_option maxHeartbeats 2000000 in
theorem spec_refillof (t : Ty) (g : Gl) (hg : g.wf) (S M : Int) (hS : rf1 t g = S) (hM : rf2 t g = M) (w : World) :
    Calls Try.prog 19 #[tyV t, glV g] w fun e w' => e = .returned (.tuple #[.int .i64 S, .int .i64 M]) ∧ Below w.heap.size w w' := by
  have hus := fun W => spec_usable t W
  have hgo := fun W => spec_goalok g hg W
  have HS := Lib.hid hS
  have HM := Lib.hid hM
  clear hS hM
  unfold tyV glV
  unfold tyV at hus
  unfold glV at hgo
  have HA := Lib.hid (box2_cells w #[.int .i64 t.rdy, .int .i64 t.unr, .int .i64 t.mis, .int .i64 t.sum] #[.string g.met, .int .i64 g.tar, .int .i64 g.tol] 25 27)
  have H0 := Lib.hid (box2_below w (.cells #[.int .i64 t.rdy, .int .i64 t.unr, .int .i64 t.mis, .int .i64 t.sum] 25) (.cells #[.string g.met, .int .i64 g.tar, .int .i64 g.tol] 27))
  obtain ⟨W0, hW0⟩ : ∃ W0, (w.alloc (.cells #[.int .i64 t.rdy, .int .i64 t.unr, .int .i64 t.mis, .int .i64 t.sum] 25)).alloc (.cells #[.string g.met, .int .i64 g.tar, .int .i64 g.tol] 27) = W0 := ⟨_, rfl⟩
  rw [hW0] at HA H0
  have HW := Lib.hid hW0
  clear hW0
  obtain ⟨y0, y1, y2, y3⟩ := cells4 HA.out.1
  obtain ⟨z0, z1, z2⟩ := cells3 HA.out.2
  cases c1 : okU t
  · rw [c1] at hus
    obtain rfl : 0 = S := (rf_no (.inl c1)).1.symm.trans HS.out
    obtain rfl : 0 = M := (rf_no (.inl c1)).2.symm.trans HM.out
    clear c1
    go_enter Try.func19, Try.ntmps19
    go_wp2_with fail
    rw [HW.out]
    refine (hus _).mono ?_
    rintro e w1 ⟨rfl, hb1⟩
    have HB := Lib.hid (H0.out.trans (hb1.mono H0.out.size))
    clear hb1
    go_wp2
    go_ret2
    exact ⟨rfl, HB.out⟩
  · rw [c1] at hus
    have C1 := Lib.hid c1
    clear c1
    go_enter Try.func19, Try.ntmps19
    go_wp2_with fail
    rw [HW.out]
    refine (hus _).mono ?_
    rintro e w1 ⟨rfl, hb1⟩
    have HB1 := Lib.hid (H0.out.trans (hb1.mono H0.out.size))
    have HT1 := Lib.hid (HA.out.1.kept hb1)
    have HG1 := Lib.hid (HA.out.2.kept hb1)
    clear hb1 y0 y1 y2 y3 z0 z1 z2
    obtain ⟨z0, z1, z2⟩ := cells3 HG1.out
    cases c2 : okG g
    · rw [c2] at hgo
      obtain rfl : 0 = S := (rf_no (.inr c2)).1.symm.trans HS.out
      obtain rfl : 0 = M := (rf_no (.inr c2)).2.symm.trans HM.out
      clear c2
      go_wp2_with fail
      refine (hgo _).mono ?_
      rintro e w2 ⟨rfl, hb2⟩
      have HB2 := Lib.hid (HB1.out.trans (hb2.mono HB1.out.size))
      clear hb2
      go_wp2
      go_ret2
      exact ⟨rfl, HB2.out⟩
    · rw [c2] at hgo
      obtain ⟨-, ⟨t1, t2⟩, -⟩ := (okG_iff g).1 c2
      obtain ⟨hS1, hS2⟩ := rf_yes C1.out c2
      have HS2 := Lib.hid (hS1.symm.trans HS.out)
      have HM2 := Lib.hid (hS2.symm.trans HM.out)
      obtain ⟨⟨r1, r2⟩, ⟨u1, u2⟩, ⟨m1, m2⟩, s1, s2⟩ := (okU_iff t).1 C1.out
      obtain ⟨_, _, _, _, x1, x2⟩ := bd_refill t g.tar C1.out (in_yes t1 t2)
      have hl : ldOk t.sum t.rdy = true := (ldOk_iff _ _).2 ⟨⟨s1, s2⟩, r1, by omega⟩
      have hrs := rs_good hl (in_yes t1 t2)
      have hsg := fun W => spec_sign t.sum t.rdy g.tar W
      unfold rS at HS2
      unfold rN at HM2
      obtain ⟨q, hq⟩ : ∃ q, rsV t.sum t.rdy g.tar = q := ⟨_, rfl⟩
      rw [hq] at hsg hrs HS2 HM2
      have HRS := Lib.hid hrs
      clear hl hrs hq HS HM c2 hS1 hS2
      go_wp2_with fail
      refine (hgo _).mono ?_
      rintro e w2 ⟨rfl, hb2⟩
      have HB2 := Lib.hid (HB1.out.trans (hb2.mono HB1.out.size))
      have HT2 := Lib.hid (HT1.out.kept hb2)
      have HG2 := Lib.hid (HG1.out.kept hb2)
      clear hb2 z0 z1 z2
      obtain ⟨y0, y1, y2, y3⟩ := cells4 HT2.out
      obtain ⟨z0, z1, z2⟩ := cells3 HG2.out
      by_cases h0 : t.unr + t.mis = 0
      · have hb0 : (t.unr + t.mis == 0) = true := by rw [beq_iff_eq]; exact h0
        obtain rfl : t.sum = S := by
          rw [← HS2.out]
          have : t.mis = 0 := by omega
          rw [this, Int.zero_mul, Int.add_zero, ite_self]
        obtain rfl : t.rdy = M := by
          rw [← HM2.out]
          have e1 : t.mis = 0 := by omega
          have e2 : t.unr = 0 := by omega
          rw [e1, e2]
          simp
        go_wp2_with fail
        go_quiet (fail)
        go_wp2
        go_ret2
        exact ⟨rfl, below_drewN HB2.out _⟩
      · have hb0 : (t.unr + t.mis == 0) = false := by rw [beq_eq_false_iff_ne]; exact h0
        rcases HRS.out with ⟨-, rfl⟩ | ⟨-, rfl⟩ | ⟨-, rfl⟩
        · obtain rfl : t.sum + t.mis * g.tar = S := by rw [← HS2.out, if_pos rfl]
          obtain rfl : t.rdy + t.mis = M := by rw [← HM2.out, if_pos rfl]
          go_wp2_with (go_at_call 45; refine (hsg _).mono ?_; rintro e w' ⟨rfl, rfl⟩)
          go_quiet (fail)
          go_wp2
          go_ret2
          exact ⟨rfl, below_drewN HB2.out _⟩
        · obtain rfl : t.sum = S := by rw [← HS2.out, if_neg (by decide)]
          obtain rfl : t.rdy + (t.unr + t.mis) = M := by rw [← HM2.out, if_neg (by decide), if_pos rfl]
          go_wp2_with (go_at_call 45; refine (hsg _).mono ?_; rintro e w' ⟨rfl, rfl⟩)
          go_quiet (fail)
          go_wp2
          go_ret2
          exact ⟨ret2I (a := t.sum) (b := t.rdy + t.unr + t.mis) rfl (by omega), below_drewN HB2.out _⟩
        · obtain rfl : t.sum = S := by rw [← HS2.out, if_neg (by decide)]
          obtain rfl : t.rdy = M := by rw [← HM2.out, if_neg (by decide), if_neg (by decide)]
          go_wp2_with (go_at_call 45; refine (hsg _).mono ?_; rintro e w' ⟨rfl, rfl⟩)
          go_quiet (fail)
          go_wp2
          go_ret2
          exact ⟨rfl, below_drewN HB2.out _⟩
end Go.Proofs.Ytimpajhgplkpmaa.Rf
