/- WantOf: both sides. -/
import Derived.Test.YtimpajhgplkpmaaOnce
import Derived.BigQuiet
import Derived.Deep.RegionHeld3
import Derived.WalkMore
import Derived.ScopeJumps
namespace Go.Proofs.Ytimpajhgplkpmaa.Want
open Go.RowKit Go.Sort Go.BigFrame
open Go.Proofs.Ytimpajhgplkpmaa.C1
open Go.Proofs.Ytimpajhgplkpmaa.C2
open Go.Proofs.Ytimpajhgplkpmaa.Smps
open Go.Proofs.Ytimpajhgplkpmaa.Mem
open Go.Proofs.Ytimpajhgplkpmaa.Pd
open Go.Proofs.Ytimpajhgplkpmaa.Gl
open Go.Proofs.Ytimpajhgplkpmaa.Rs
open Go.Proofs.Ytimpajhgplkpmaa.Bd
open Go.Proofs.Ytimpajhgplkpmaa.Rf
open Go.Proofs.Ytimpajhgplkpmaa.Once
set_option linter.unusedVariables false

theorem CellsW.only {w w' : World} {g c : Nat} {vs : List Value} (h : CellsW w g vs) (ho : Only c w w') (hne : g ≠ c) : CellsW w' g vs := by
  have hb := ho.block g h.1 hne
  refine ⟨Nat.lt_of_lt_of_le h.1 ho.size, fun j hj => ⟨(World.cell?_of_block (w := w) hb).trans (h.2 j hj).1, ?_⟩⟩
  have hf := (h.2 j hj).2
  simp only [World.frozen?, hb] at hf ⊢
  exact hf
set_option maxHeartbeats 1600000 in
theorem impl_dir (s n : Int) (g : Gl) (hg : g.wf) (a : Nat) (k : Int) (l : Value) (hk : k = 0 ∨ (k = 1 ∧ l = lawF g)) (w : World) (h : CellsW w a (ctlV g k l)) :
    Calls Try.prog 95 #[.pointer (some ⟨a, 0, none⟩), ldV s n] w fun e w' => e = .returned (.int .i64 (jdV s n g)) ∧ Only a w w' ∧ CellsW w' a (ctlV g 1 (lawF g)) := by
  have mixed : Try.prog.follows .mixedOrders = true := by kernel_rfl
  have hmf : ∀ (fn : Fn) (first cap : Array Value) (w : World), (Instr.makeFunc fn first cap).run Try.prog w = .ok (.func fn first cap) w := fun _ _ _ _ => rfl
  have hdo : ∀ W, CellsW W a (ctlV g k l) → Calls Try.prog 117 #[.pointer (some ⟨a, 3, none⟩), makeF a] W fun e w' => e = .returned (.tuple #[]) ∧ Only a W w' ∧ CellsW w' a (ctlV g 1 (lawF g)) := fun W hW => by
    rcases hk with rfl | ⟨rfl, rfl⟩
    · exact do_first g a l W hW
    · refine (do_done g a _ _ W hW).mono ?_
      rintro e w' ⟨rfl, rfl⟩
      exact ⟨rfl, Only.refl _ _, hW⟩
  have HJ := Lib.hid (fun W => impl_judge s n g hg W)
  unfold makeF at hdo
  obtain ⟨v, hv⟩ : ∃ v, jdV s n g = v := ⟨_, rfl⟩
  rw [hv] at HJ ⊢
  unfold ldV at HJ ⊢
  have hbx := box_below w #[.int .i64 s, .int .i64 n] 100
  have HL := Lib.hid (cells_new w #[.int .i64 s, .int .i64 n] 100)
  have HC := Lib.hid (h.kept hbx)
  have HO := Lib.hid (Only.of_below (c := a) hbx)
  have hne : w.heap.size ≠ a := by have := h.1; omega
  obtain ⟨b, hb⟩ : ∃ b, w.heap.size = b := ⟨_, rfl⟩
  obtain ⟨W0, hW0⟩ : ∃ W0, w.alloc (.cells #[.int .i64 s, .int .i64 n] 100) = W0 := ⟨_, rfl⟩
  have HB := Lib.hid hb
  have HW := Lib.hid hW0
  rw [hW0] at HL HC HO
  rw [hb] at HL hne
  clear hbx h hk hv hb hW0
  go_enter Try.func95, Try.ntmps95
  go_wp2_with fail
  rw [HW.out]
  refine (hdo _ HC.out).mono ?_
  rintro e w1 ⟨rfl, ho1, hc1⟩
  have HO1 := Lib.hid (HO.out.trans ho1)
  have HL1 := Lib.hid (CellsW.only HL.out ho1 hne)
  have HC1 := Lib.hid hc1
  rw [HB.out]
  have kb := HL1.out.1
  have ka := HC1.out.1
  obtain ⟨y0, y1⟩ := cells2 HL1.out
  have k0 := later_cell kb y0
  have k1 := later_cell kb y1
  have k6 := later_cell ka (cells7 HC1.out).2.2.2.2.2.2
  unfold lawF at k6
  have HK : Hid (∀ p : Later w1, Calls Try.prog 135 #[glV g, .agg #[.int .i64 s, .int .i64 n]] p.u fun e w' => e = .returned (.int .i64 v) ∧ ∃ q : Later w1, w' = q.u) := fun p => later_call (HJ.out p.u)
  clear ho1 hc1 y0 y1 kb ka HO HL HC hdo
  go_wp2_with fail
  refine region_later mixed (by kernel_rfl) ?_
  repeat (go_big_quiet_step (first | (go_at_call 135; exact HK.out _)))
  refine wpQuiet_nil ?_
  intro w2 hw'
  obtain ⟨⟨_, hw2⟩, rfl⟩ := hw'
  have HO2 := Lib.hid (HO1.out.trans (Only.of_below hw2))
  have HC2 := Lib.hid (HC1.out.kept hw2)
  clear hw2 k0 k1 k6
  go_wp2
  go_ret
  exact ⟨rfl, HO2.out, HC2.out⟩
/-! ### want. -/
/-- The desired count of a usable tally, a valid goal and a count. -/
def wV (c : Int) (t : Ty) (g : Gl) : Int :=
  if c = 0 ∨ jdV (rS t g.tar) (rN t g.tar) g = 0 ∨ jdV (rS t g.tar) (rN t g.tar) g ≠ jdV t.sum t.rdy g then c
  else if jdV (rS t g.tar) (rN t g.tar) g = 1 then max (min (clD (rS t g.tar) g.tar) 1000) c else min (min (clD (rS t g.tar) g.tar) 1000) c
set_option maxHeartbeats 4000000 in
theorem impl_want (c : Int) (t : Ty) (g : Gl) (hg : g.wf) (hu : okU t = true) (hgo : okG g = true) (hc : inB c 0 1000 = true) (a : Nat) (l : Value) (w : World) (h : CellsW w a (ctlV g 0 l)) :
    Calls Try.prog 55 #[.pointer (some ⟨a, 0, none⟩), .int .i64 c, tyV t] w fun e w' => e = .returned (.int .i64 (wV c t g)) ∧ Only a w w' := by
  have mixed : Try.prog.follows .mixedOrders = true := by kernel_rfl
  obtain ⟨-, ⟨t1, t2⟩, -⟩ := (okG_iff g).1 hgo
  obtain ⟨s1, s2, n1, n2, -, -⟩ := bd_refill t g.tar hu (in_yes t1 t2)
  have HRF := Lib.hid (fun W => impl_refill t g.tar hu (in_yes t1 t2) W)
  have HRD := Lib.hid (fun W => impl_ready t W)
  have HD1 := Lib.hid (fun W (hW : CellsW W a (ctlV g 0 l)) => impl_dir (rS t g.tar) (rN t g.tar) g hg a 0 l (.inl rfl) W hW)
  have HD2 := Lib.hid (fun W (hW : CellsW W a (ctlV g 1 (lawF g))) => impl_dir t.sum t.rdy g hg a 1 (lawF g) (.inr ⟨rfl, rfl⟩) W hW)
  obtain ⟨S, hS⟩ : ∃ S, rS t g.tar = S := ⟨_, rfl⟩
  obtain ⟨M, hM⟩ : ∃ M, rN t g.tar = M := ⟨_, rfl⟩
  obtain ⟨j, hj⟩ : ∃ j, jdV S M g = j := ⟨_, rfl⟩
  obtain ⟨j2, hj2⟩ : ∃ j2, jdV t.sum t.rdy g = j2 := ⟨_, rfl⟩
  obtain ⟨v, hv⟩ : ∃ v, wV c t g = v := ⟨_, rfl⟩
  have HV : Hid ((if c = 0 ∨ j = 0 ∨ j ≠ j2 then c else if j = 1 then max (min (clD S g.tar) 1000) c else min (min (clD S g.tar) 1000) c) = v) := by
    show _ = _
    rw [← hv]
    unfold wV
    rw [hS, hM, hj, hj2]
  obtain ⟨y, hy⟩ : ∃ y, clD S g.tar = y := ⟨_, rfl⟩
  have hcd := fun W => impl_ceil S g.tar W ⟨by omega, by omega⟩
  rw [hy] at hcd HV
  have HCD := Lib.hid hcd
  clear hy hcd
  rw [hS, hM] at HRF HD1
  rw [hS] at s1 s2
  rw [hj] at HD1
  rw [hj2] at HD2
  rw [hv]
  unfold tyV ldV at HRF HRD
  unfold ldV at HD1 HD2
  unfold tyV
  clear hS hM hj hj2 hv hu hgo
  have hbx := box_below w #[.int .i64 t.rdy, .int .i64 t.unr, .int .i64 t.mis, .int .i64 t.sum] 25
  have HT := Lib.hid (cells_new w #[.int .i64 t.rdy, .int .i64 t.unr, .int .i64 t.mis, .int .i64 t.sum] 25)
  have HC := Lib.hid (h.kept hbx)
  have HO := Lib.hid (Only.of_below (c := a) hbx)
  have hne : w.heap.size ≠ a := by have := h.1; omega
  obtain ⟨b, hb⟩ : ∃ b, w.heap.size = b := ⟨_, rfl⟩
  obtain ⟨W0, hW0⟩ : ∃ W0, w.alloc (.cells #[.int .i64 t.rdy, .int .i64 t.unr, .int .i64 t.mis, .int .i64 t.sum] 25) = W0 := ⟨_, rfl⟩
  have HB := Lib.hid hb
  have HW := Lib.hid hW0
  rw [hW0] at HT HC HO
  rw [hb] at HT hne
  clear hbx h hb hW0
  have HK : Hid (∀ W, Hid (Below W0.heap.size W0 W) → (W.cell? ⟨b, 0, none⟩ = some (.int .i64 t.rdy) ∧ W.cell? ⟨b, 1, none⟩ = some (.int .i64 t.unr) ∧ W.cell? ⟨b, 2, none⟩ = some (.int .i64 t.mis) ∧ W.cell? ⟨b, 3, none⟩ = some (.int .i64 t.sum) ∧ W.cell? ⟨a, 1, none⟩ = some (.int .i64 g.tar))) := fun W h => by
    obtain ⟨p0, p1, p2, p3⟩ := cells4 (HT.out.kept h.out)
    exact ⟨p0, p1, p2, p3, (cells7 (HC.out.kept h.out)).2.1⟩
  have HBc : Hid (Below W0.heap.size W0 W0.drew) := (Below.refl _ _).drew
  have HDS : Hid (W0.drew.heap.size = W0.heap.size) := Lib.hid rfl
  go_enter Try.func55, Try.ntmps55
  go_wp2_with fail
  rw [HW.out, HB.out]
  go_region_held3 (fun w' => w'.cell? ⟨b, 0, none⟩ = some (.int .i64 t.rdy) ∧ w'.cell? ⟨b, 1, none⟩ = some (.int .i64 t.unr) ∧ w'.cell? ⟨b, 2, none⟩ = some (.int .i64 t.mis) ∧ w'.cell? ⟨b, 3, none⟩ = some (.int .i64 t.sum) ∧ w'.cell? ⟨a, 1, none⟩ = some (.int .i64 g.tar))
    (first | exact HK.out _ HBc | exact HK.out _ (Lib.hid (HBc.out.alloc HBc.out.size _)) | exact HK.out _ (Lib.hid ((HBc.out.setCell (p := ⟨W0.heap.size, 0, none⟩) (Nat.le_refl _) _).setCell (p := ⟨W0.heap.size, 1, none⟩) (Nat.le_refl _) _)))
    (first
      | (go_at_call 61; (first
          | (refine (HRF.out _).mono ?_; rintro e w1 ⟨rfl, hb⟩; have HBc := Lib.hid (HBc.out.trans (hb.mono HBc.out.size)); clear hb)
          | (have HVw := Lib.hid ((fun {v : World} (_ : Below W0.heap.size W0 v) => cells_new v #[.int .i64 0, .int .i64 0] 100) HBc.out); have HLw := Lib.hid HBc.out.size; have HBw := Lib.hid (HBc.out.alloc HBc.out.size (.cells #[.int .i64 0, .int .i64 0] 100)); refine (HRF.out _).mono ?_; rintro e w1 ⟨rfl, hb⟩; have HBc := Lib.hid (HBw.out.trans (hb.mono HBw.out.size)); have HVc := Lib.hid (HVw.out.kept hb); have HLc := HLw; (try rw [HDS.out] at HVc HLc); obtain ⟨q0, q1⟩ := cells2 HVc.out; obtain ⟨f0, f1⟩ := cellsF2 HVc.out; clear hb))))
  all_goals (
    first
      | (obtain ⟨hv, hb⟩ := ld_set (B := W0.heap.size) HVc.out S M HLc.out HBc.out; have HBt := Lib.hid hb; have HVt := Lib.hid hv; clear hv hb q0 q1 f0 f1)
      | (have HVt := Lib.hid (cells_new w1 #[.int .i64 S, .int .i64 M] 100); have HBt := Lib.hid (HBc.out.alloc HBc.out.size (.cells #[.int .i64 S, .int .i64 M] 100)))
    have HT2 := Lib.hid (HT.out.kept HBt.out)
    have HC2 := Lib.hid (HC.out.kept HBt.out)
    have HO2 := Lib.hid (HO.out.trans (Only.of_below HBt.out))
    have HA0 := Lib.hid HC.out.1
    clear HK HT HC HO HRF
    obtain ⟨y0, y1⟩ := cells2 HVt.out
    go_wp2_with fail
    refine (HD1.out _ HC2.out).mono ?_
    rintro e w2 ⟨rfl, ho2, hc2⟩
    have HC3 := Lib.hid hc2
    have HT3 := Lib.hid (CellsW.only HT2.out ho2 hne)
    have HV3 : Hid (CellsW w2 _ [.int .i64 S, .int .i64 M]) := Lib.hid (CellsW.only HVt.out ho2 (by have h2 := HA0.out; have h3 := HBc.out.size; omega))
    have HO3 := Lib.hid (HO2.out.trans ho2)
    clear HD1 HBt HVt HC2 HT2 HO2 y0 y1 ho2 hc2 HW HB HDS
    by_cases hc0 : c = 0
    · have hcb : (c == 0) = true := by rw [beq_iff_eq]; exact hc0
      obtain rfl : c = v := by rw [← HV.out, if_pos (.inl hc0)]
      clear hc0 HV
      go_wp2
      go_ret
      exact ⟨rfl, HO3.out⟩
    · have hcb : (c == 0) = false := by rw [beq_eq_false_iff_ne]; exact hc0
      by_cases hj0 : j = 0
      · have hjb : (j == 0) = true := by rw [beq_iff_eq]; exact hj0
        obtain rfl : c = v := by rw [← HV.out, if_pos (.inr (.inl hj0))]
        clear hc0 hj0 HV
        go_wp2
        go_ret
        exact ⟨rfl, HO3.out⟩
      · have hjb : (j == 0) = false := by rw [beq_eq_false_iff_ne]; exact hj0
        have HZ : Hid (¬ c = 0 ∧ ¬ j = 0) := ⟨hc0, hj0⟩
        clear hc0 hj0
        obtain ⟨x0, x1, x2, x3⟩ := cells4 HT3.out
        go_wp2_with fail
        refine (HRD.out _).mono ?_
        rintro e w3 ⟨rfl, hb3⟩
        have HC4 := Lib.hid (HC3.out.kept hb3)
        have HV4 := Lib.hid (HV3.out.kept hb3)
        have HO4 := Lib.hid (HO3.out.trans (Only.of_below hb3))
        clear hb3 x0 x1 x2 x3 HC3 HV3 HO3 HT3
        go_wp2_with fail
        refine (HD2.out _ HC4.out).mono ?_
        rintro e w4 ⟨rfl, ho4, hc4⟩
        have HC5 := Lib.hid hc4
        have HV5 := Lib.hid (CellsW.only HV4.out ho4 (by have h2 := HA0.out; have h3 := HBc.out.size; omega))
        have HO5 := Lib.hid (HO4.out.trans ho4)
        clear ho4 hc4 HC4 HV4 HO4 HD2
        by_cases hjj : j = j2
        · have hjn : (j != j2) = false := by rw [hjj]; simp
          have kv := HV5.out.1
          have kc := HC5.out.1
          obtain ⟨y0, y1⟩ := cells2 HV5.out
          have k0 := later_cell kv y0
          have k1 := later_cell kc (cells7 HC5.out).2.1
          have HCL : Hid (∀ p : Later w4, Calls Try.prog 97 #[.int .i64 S, .int .i64 g.tar] p.u fun e w' => e = .returned (.int .i64 y) ∧ ∃ q : Later w4, w' = q.u) := fun p => later_call ((HCD.out p.u).mono fun e w' ⟨h1, h2⟩ => ⟨h1, by rw [← h2]; exact Below.refl _ _⟩)
          have HJJ : Hid ((if j = 1 then max (min y 1000) c else min (min y 1000) c) = v) := by
            have hneg : ¬ (c = 0 ∨ j = 0 ∨ j ≠ j2) := by
              rintro (h | h | h)
              · exact HZ.out.1 h
              · exact HZ.out.2 h
              · exact h hjj
            exact (if_neg hneg).symm.trans HV.out
          clear hjj y0 y1 kv kc HV HZ
          go_wp2_with fail
          refine region_later mixed (by kernel_rfl) ?_
          repeat (go_big_quiet_step (first | (go_at_call 97; exact HCL.out _)))
          refine wpQuiet_nil ?_
          intro w5 hw'
          obtain ⟨⟨_, hw5⟩, rfl⟩ := hw'
          have HO6 := Lib.hid (HO5.out.trans (Only.of_below hw5))
          clear hw5 k0 k1 HCL
          obtain ⟨X, hX⟩ : ∃ X, (if 1000 < y then 1000 else y) = X := ⟨_, rfl⟩
          rw [hX]
          have HX : Hid (X = min y 1000) := by
            show _ = _
            rw [← hX]
            split <;> omega
          clear hX
          by_cases hj1 : j = 1
          · have hjb1 : (j == 1) = true := by rw [beq_iff_eq]; exact hj1
            have HJ2 := Lib.hid (HJJ.out.symm.trans (if_pos hj1))
            clear hj1 HJJ
            go_wp2
            all_goals
              go_ret
              exact ⟨ret1I (by rw [HJ2.out, ← HX.out]; omega), HO6.out⟩
          · have hjb1 : (j == 1) = false := by rw [beq_eq_false_iff_ne]; exact hj1
            have HJ2 := Lib.hid (HJJ.out.symm.trans (if_neg hj1))
            clear hj1 HJJ
            go_wp2
            all_goals
              go_ret
              exact ⟨ret1I (by rw [HJ2.out, ← HX.out]; omega), HO6.out⟩
        · have hjn : (j != j2) = true := by simp [hjj]
          obtain rfl : c = v := by rw [← HV.out, if_pos (.inr (.inr hjj))]
          clear hjj HV
          go_wp2
          go_ret
          exact ⟨rfl, HO5.out⟩)
/-! ### WantOf. -/
/-- WantOf. -/
def wantV (c : Int) (t : Ty) (g : Gl) : Int := if (inB c 0 1000 && okU t && okG g) = true then wV c t g else -1
theorem want_no {c : Int} {t : Ty} {g : Gl} (h : inB c 0 1000 = false ∨ okU t = false ∨ okG g = false) : wantV c t g = -1 := by
  unfold wantV
  rw [if_neg]
  rcases h with h | h | h <;> rw [h] <;> simp
theorem want_yes {c : Int} {t : Ty} {g : Gl} (h1 : inB c 0 1000 = true) (h2 : okU t = true) (h3 : okG g = true) : wantV c t g = wV c t g := by
  unfold wantV
  rw [h1, h2, h3]
  rfl
theorem impl_count (n : Int) (w : World) :
    Calls Try.prog 53 #[.int .i64 n] w fun e w' => e = .returned (.bool (inB n 0 1000)) ∧ w = w' := by
  rcases in_ways n 0 1000 with ⟨h1, h2, e⟩ | ⟨h1 | h1, e⟩
  all_goals
    rw [e]
    clear e
    go_enter Try.func53, Try.ntmps53
    go_wp2
    go_ret
    exact ⟨ret1B (by first | rfl | (simp; try omega)), rfl⟩
theorem box3_cells (w : World) (A B C : Array Value) (t t' t'' : TypeId) : CellsW (((w.alloc (.cells A t)).alloc (.cells B t')).alloc (.cells C t'')) w.heap.size A.toList ∧ CellsW (((w.alloc (.cells A t)).alloc (.cells B t')).alloc (.cells C t'')) (w.heap.size + 1) B.toList ∧ CellsW (((w.alloc (.cells A t)).alloc (.cells B t')).alloc (.cells C t'')) (w.heap.size + 2) C.toList := by
  obtain ⟨h1, h2⟩ := box2_cells w A B t t'
  have hb : Below ((w.alloc (.cells A t)).alloc (.cells B t')).heap.size ((w.alloc (.cells A t)).alloc (.cells B t')) (((w.alloc (.cells A t)).alloc (.cells B t')).alloc (.cells C t'')) := box_below _ _ _
  refine ⟨h1.kept hb, h2.kept hb, ?_⟩
  have h := cells_new ((w.alloc (.cells A t)).alloc (.cells B t')) C t''
  have e : ((w.alloc (.cells A t)).alloc (.cells B t')).heap.size = w.heap.size + 2 := by simp
  rw [e] at h
  exact h
theorem jump_ret {l : Nat} {J : Act → World → Prop} {Q : Exit → Act → World → Prop} {a : Act} {w : World} (h : Q .ret a w) : Exit.jump l J Q .ret a w := h
theorem jump_goto {l : Nat} {J : Act → World → Prop} {Q : Exit → Act → World → Prop} {a : Act} {w : World} (h : J a w) : Exit.jump l J Q (.goto l) a w := ⟨rfl, h⟩
/-- What holds at the jump to the end: the answer's variable (slot 8) holds -1. -/
def AtEnd (c : Int) (t : Ty) (g : Gl) (w : World) (act : Act) (w' : World) : Prop :=
  (∃ x9 x10 x11 x12 x13 x14 x15 x16 x17 x18 x19 x20 x21 x22 x23 x24 x25 x26 x27 : Value, act = { tmps := #[.int .i64 c, .agg #[.int .i64 t.rdy, .int .i64 t.unr, .int .i64 t.mis, .int .i64 t.sum], .agg #[.string g.met, .int .i64 g.tar, .int .i64 g.tol], undef, .pointer (some ⟨w.heap.size, 0, none⟩), .pointer (some ⟨w.heap.size + 1, 0, none⟩), .int .i64 0, .pointer (some ⟨w.heap.size + 2, 0, none⟩), .int .i64 (-1), x9, x10, x11, x12, x13, x14, x15, x16, x17, x18, x19, x20, x21, x22, x23, x24, x25, x26, x27], defers := [] }) ∧ Below w.heap.size w w'
set_option maxHeartbeats 2000000 in
theorem impl_wantof (c : Int) (t : Ty) (g : Gl) (hg : g.wf) (v : Int) (hv : wantV c t g = v) (w : World) :
    Calls Try.prog 14 #[.int .i64 c, tyV t, glV g] w fun e w' => e = .returned (.int .i64 v) ∧ Below w.heap.size w w' := by
  have hus := fun W => impl_usable t W
  have hgo := fun W => impl_goalok g hg W
  have HV := Lib.hid hv
  clear hv
  unfold tyV glV
  unfold tyV at hus
  unfold glV at hgo
  have HA := Lib.hid (box3_cells w #[.int .i64 t.rdy, .int .i64 t.unr, .int .i64 t.mis, .int .i64 t.sum] #[.string g.met, .int .i64 g.tar, .int .i64 g.tol] #[.string g.met, .int .i64 g.tar, .int .i64 g.tol, .int .u32 0, .int .i32 0, .int .u32 0, .nilFunc] 25 27 94)
  have H0 := Lib.hid (box3_below w (.cells #[.int .i64 t.rdy, .int .i64 t.unr, .int .i64 t.mis, .int .i64 t.sum] 25) (.cells #[.string g.met, .int .i64 g.tar, .int .i64 g.tol] 27) (.cells #[.string g.met, .int .i64 g.tar, .int .i64 g.tol, .int .u32 0, .int .i32 0, .int .u32 0, .nilFunc] 94))
  obtain ⟨W0, hW0⟩ : ∃ W0, ((w.alloc (.cells #[.int .i64 t.rdy, .int .i64 t.unr, .int .i64 t.mis, .int .i64 t.sum] 25)).alloc (.cells #[.string g.met, .int .i64 g.tar, .int .i64 g.tol] 27)).alloc (.cells #[.string g.met, .int .i64 g.tar, .int .i64 g.tol, .int .u32 0, .int .i32 0, .int .u32 0, .nilFunc] 94) = W0 := ⟨_, rfl⟩
  rw [hW0] at HA H0
  have HW := Lib.hid hW0
  clear hW0
  by_cases hgood : inB c 0 1000 = true ∧ okU t = true ∧ okG g = true
  · obtain ⟨c1, c2, c3⟩ := hgood
    rw [c2] at hus
    rw [c3] at hgo
    have hwn := fun W (hW : CellsW W (w.heap.size + 2) (ctlV g 0 .nilFunc)) => impl_want c t g hg c2 c3 c1 (w.heap.size + 2) .nilFunc W hW
    rw [(want_yes c1 c2 c3).symm.trans HV.out] at hwn
    unfold tyV ctlV at hwn
    clear c2 c3 HV
    obtain ⟨y0, y1, y2, y3⟩ := cells4 HA.out.1
    go_enter Try.func14, Try.ntmps14
    go_wp2_with fail
    apply wp_scope_straight
    go_wp2_with (go_at_call 53; refine (impl_count _ _).mono ?_; rintro e w' ⟨rfl, rfl⟩)
    rw [HW.out]
    refine (hus _).mono ?_
    rintro e w1 ⟨rfl, hb1⟩
    have HB1 := Lib.hid (H0.out.trans (hb1.mono H0.out.size))
    have HT1 := Lib.hid (HA.out.1.kept hb1)
    have HG1 := Lib.hid (HA.out.2.1.kept hb1)
    have HC1 := Lib.hid (HA.out.2.2.kept hb1)
    clear hb1 y0 y1 y2 y3
    obtain ⟨z0, z1, z2⟩ := cells3 HG1.out
    go_wp2_with fail
    refine (hgo _).mono ?_
    rintro e w2 ⟨rfl, hb2⟩
    have HB2 := Lib.hid (HB1.out.trans (hb2.mono HB1.out.size))
    have HT2 := Lib.hid (HT1.out.kept hb2)
    have HC2 := Lib.hid (HC1.out.kept hb2)
    clear hb2 z0 z1 z2
    obtain ⟨y0, y1, y2, y3⟩ := cells4 HT2.out
    go_wp2_with fail
    refine (hwn _ HC2.out).mono ?_
    rintro e w3 ⟨rfl, ho3⟩
    have HB3 := Lib.hid (HB2.out.trans (ho3.below (by omega) HB2.out.size))
    clear ho3 y0 y1 y2 y3
    go_wp2
    go_step3
    go_wp2
    rw [Exit.noGoto_ret]
    go_ret
    exact ⟨rfl, HB3.out⟩
  · obtain rfl : -1 = v := by
      rw [← HV.out]
      refine (want_no ?_).symm
      cases h1 : inB c 0 1000
      · exact .inl rfl
      · cases h2 : okU t
        · exact .inr (.inl rfl)
        · cases h3 : okG g
          · exact .inr (.inr rfl)
          · exact absurd ⟨h1, h2, h3⟩ hgood
    clear HV
    have HGD := Lib.hid hgood
    clear hgood
    go_enter Try.func14, Try.ntmps14
    go_wp2_with fail
    refine wp_scope_jumps 0 (AtEnd c t g w) (fun _ _ => 0) rfl ?_ ?_
    · obtain ⟨y0, y1, y2, y3⟩ := cells4 HA.out.1
      cases c1 : inB c 0 1000
      · go_wp2_with (go_at_call 53; refine (impl_count _ _).mono ?_; rintro e w' ⟨rfl, rfl⟩)
        rw [HW.out]
        go_step3
        exact ⟨rfl, ⟨⟨_, _, _, _, _, _, _, _, _, _, _, _, _, _, _, _, _, _, _, rfl⟩, H0.out⟩⟩
      · cases c2 : okU t
        · rw [c2] at hus
          go_wp2_with (go_at_call 53; refine (impl_count _ _).mono ?_; rintro e w' ⟨rfl, rfl⟩)
          rw [HW.out]
          refine (hus _).mono ?_
          rintro e w1 ⟨rfl, hb1⟩
          have HB1 := Lib.hid (H0.out.trans (hb1.mono H0.out.size))
          clear hb1
          go_wp2
          go_step3
          exact ⟨rfl, ⟨⟨_, _, _, _, _, _, _, _, _, _, _, _, _, _, _, _, _, _, _, rfl⟩, HB1.out⟩⟩
        · rw [c2] at hus
          have c3 : okG g = false := by
            cases h : okG g
            · rfl
            · exact absurd ⟨c1, c2, h⟩ HGD.out
          rw [c3] at hgo
          go_wp2_with (go_at_call 53; refine (impl_count _ _).mono ?_; rintro e w' ⟨rfl, rfl⟩)
          rw [HW.out]
          refine (hus _).mono ?_
          rintro e w1 ⟨rfl, hb1⟩
          have HB1 := Lib.hid (H0.out.trans (hb1.mono H0.out.size))
          have HG1 := Lib.hid (HA.out.2.1.kept hb1)
          clear hb1 y0 y1 y2 y3
          obtain ⟨z0, z1, z2⟩ := cells3 HG1.out
          go_wp2_with fail
          refine (hgo _).mono ?_
          rintro e w2 ⟨rfl, hb2⟩
          have HB2 := Lib.hid (HB1.out.trans (hb2.mono HB1.out.size))
          clear hb2 z0 z1 z2
          go_wp2
          go_step3
          exact ⟨rfl, ⟨⟨_, _, _, _, _, _, _, _, _, _, _, _, _, _, _, _, _, _, _, rfl⟩, HB2.out⟩⟩
    · rintro act w1 ⟨⟨x9, x10, x11, x12, x13, x14, x15, x16, x17, x18, x19, x20, x21, x22, x23, x24, x25, x26, x27, rfl⟩, hb⟩
      have HB := Lib.hid hb
      clear hb
      go_wp2
      refine jump_ret ?_
      go_ret
      exact ⟨rfl, HB.out⟩
/-! ### The model. -/
theorem spec_count (n : Int) (w : World) :
    Calls Try.prog 56 #[.int .i64 n] w fun e w' => e = .returned (.bool (inB n 0 1000)) ∧ w = w' := by
  go_enter Try.func56, Try.ntmps56
  go_wp2_with (go_at_call 66; refine (C1.spec_in _ _ _ _).mono ?_; rintro e w' ⟨rfl, rfl⟩)
  go_ret
  exact ⟨rfl, rfl⟩
/-- The model's words for a valid call. -/
def smV (c : Int) (t : Ty) (g : Gl) : Int :=
  if c = 0 ∨ bandV t.sum t.rdy g = true ∨ bandV (rS t g.tar) (rN t g.tar) g = true ∨ rsV t.sum t.rdy g.tar ≠ rsV (rS t g.tar) (rN t g.tar) g.tar then c
  else
    if rsV (rS t g.tar) (rN t g.tar) g.tar = 1 ∧ min (clD (rS t g.tar) g.tar) 1000 < c ∨ rsV (rS t g.tar) (rN t g.tar) g.tar = -1 ∧ c < min (clD (rS t g.tar) g.tar) 1000 then c else min (clD (rS t g.tar) g.tar) 1000
theorem sm_same (c : Int) (t : Ty) (g : Gl) (hu : okU t = true) (hg : okG g = true) : smV c t g = wV c t g := by
  obtain ⟨-, ⟨t1, t2⟩, -⟩ := (okG_iff g).1 hg
  obtain ⟨⟨r1, r2⟩, ⟨u1, u2⟩, ⟨m1, m2⟩, s1, s2⟩ := (okU_iff t).1 hu
  have hx := in_yes t1 t2
  have hl : ldOk t.sum t.rdy = true := (ldOk_iff _ _).2 ⟨⟨s1, s2⟩, r1, by omega⟩
  have hl2 : ldOk (rS t g.tar) (rN t g.tar) = true := by
    rw [ldOk_iff]
    obtain ⟨a1, a2, a3, a4, a5, a6⟩ := bd_refill t g.tar hu hx
    refine ⟨⟨a1, ?_⟩, a3, by omega⟩
    unfold rS
    split
    · rename_i h
      rcases rs_good hl hx with ⟨h1, h2⟩ | ⟨h1, h2⟩ | ⟨h1, h2⟩
      · have := Int.mul_le_mul r2 t2 (by omega) (by omega)
        omega
      · rw [h2] at h; cases h
      · rw [h2] at h; cases h
    · exact s2
  unfold smV wV jdV
  obtain ⟨q1, hq1⟩ : ∃ q, rsV t.sum t.rdy g.tar = q := ⟨_, rfl⟩
  obtain ⟨q2, hq2⟩ : ∃ q, rsV (rS t g.tar) (rN t g.tar) g.tar = q := ⟨_, rfl⟩
  have z1 := rs_good hl hx
  have z2 := rs_good hl2 hx
  have b1 : bandV t.sum t.rdy g = false → q1 ≠ 0 := fun h e => by
    rw [hq1] at z1
    rcases z1 with ⟨_, z⟩ | ⟨_, z⟩ | ⟨z, _⟩
    · omega
    · omega
    · rw [band_same hl hg z] at h; cases h
  have b2 : bandV (rS t g.tar) (rN t g.tar) g = false → q2 ≠ 0 := fun h e => by
    rw [hq2] at z2
    rcases z2 with ⟨_, z⟩ | ⟨_, z⟩ | ⟨z, _⟩
    · omega
    · omega
    · rw [band_same hl2 hg z] at h; cases h
  have z2' : q2 = -1 ∨ q2 = 1 ∨ q2 = 0 := by
    rw [hq2] at z2
    rcases z2 with ⟨_, z⟩ | ⟨_, z⟩ | ⟨_, z⟩
    · exact .inl z
    · exact .inr (.inl z)
    · exact .inr (.inr z)
  rw [hq1, hq2]
  clear hq1 hq2 z1 z2 hl hl2 hu hg hx
  generalize clD (rS t g.tar) g.tar = y
  cases e1 : bandV t.sum t.rdy g
  · have := b1 e1
    cases e2 : bandV (rS t g.tar) (rN t g.tar) g
    · have := b2 e2
      simp only [Bool.false_eq_true, if_false, false_or]
      clear b1 b2 e1 e2 t1 t2 r1 r2 u1 u2 m1 m2 s1 s2
      (repeat' split) <;> first | rfl | omega
    · rw [if_pos (.inr (.inr (.inl rfl))), if_pos (.inr (.inl (by simp)))]
  · rw [if_pos (.inr (.inl rfl))]
    cases e2 : bandV (rS t g.tar) (rN t g.tar) g
    · have := b2 e2
      rw [if_pos]
      simp only [Bool.false_eq_true, if_false, if_true]
      omega
    · rw [if_pos (.inr (.inl (by simp)))]
end Go.Proofs.Ytimpajhgplkpmaa.Want
