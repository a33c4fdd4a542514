/- WantOf: both sides. -/
import Derived.Test.YtgmdfkmmbcpikaaGreatCtA
import Derived.BigQuiet
import Derived.Deep.RegionHeld3
import Derived.WalkMore
import Derived.ScopeJumps
import Derived.Test.YtgmdfkmmbcpikaaGreatC1L
import Derived.Test.YtgmdfkmmbcpikaaGreatInts
namespace Go.Proofs.YtgmdfkmmbcpikaaGreat.Want
open Go.RowKit Go.Sort Go.BigFrame
open Go.Proofs.YtgmdfkmmbcpikaaGreat.C1
open Go.Proofs.YtgmdfkmmbcpikaaGreat.C2
open Go.Proofs.YtgmdfkmmbcpikaaGreat.Smps
open Go.Proofs.YtgmdfkmmbcpikaaGreat.Mem
open Go.Proofs.YtgmdfkmmbcpikaaGreat.Pd
open Go.Proofs.YtgmdfkmmbcpikaaGreat.Gl
open Go.Proofs.YtgmdfkmmbcpikaaGreat.Rs
open Go.Proofs.YtgmdfkmmbcpikaaGreat.Bd
open Go.Proofs.YtgmdfkmmbcpikaaGreat.Rf
open Go.Proofs.YtgmdfkmmbcpikaaGreat.Once
set_option linter.unusedVariables false

theorem CellsW.only {w w' : World} {g c : Nat} {vs : List Value} (h : CellsW w g vs) (ho : Only c w w') (hne : g ≠ c) : CellsW w' g vs := by
  have hb := ho.block g h.1 hne
  refine ⟨Nat.lt_of_lt_of_le h.1 ho.size, fun j hj => ⟨(World.cell?_of_block (w := w) hb).trans (h.2 j hj).1, ?_⟩⟩
  have hf := (h.2 j hj).2
  simp only [World.frozen?, hb] at hf ⊢
  exact hf
set_option maxHeartbeats 1600000 in
theorem impl_dir (s n : Int) (g : Gl) (hg : g.wf) (a : Nat) (k : Int) (l : Value) (hk : k = 0 ∨ (k = 1 ∧ l = lawF g)) (w : World) (h : CellsW w a (ctlV g k l)) :
    Calls Tryz.prog 203 #[.pointer (some ⟨a, 0, none⟩), ldV s n] w fun e w' => e = .returned (.int .i64 (jdV s n g)) ∧ Only a w w' ∧ CellsW w' a (ctlV g 1 (lawF g)) := by
  have mixed : Tryz.prog.follows .mixedOrders = true := by kernel_rfl
  have hmf : ∀ (fn : Fn) (first cap : Array Value) (w : World), (Instr.makeFunc fn first cap).run Tryz.prog w = .ok (.func fn first cap) w := fun _ _ _ _ => rfl
  have hdo : ∀ W, CellsW W a (ctlV g k l) → Calls Tryz.prog 220 #[.pointer (some ⟨a, 3, none⟩), makeF a] W fun e w' => e = .returned (.tuple #[]) ∧ Only a W w' ∧ CellsW w' a (ctlV g 1 (lawF g)) := fun W hW => by
    rcases hk with rfl | ⟨rfl, rfl⟩
    · exact do_first g a l W hW
    · refine (do_done g a _ _ W hW).mono ?_
      rintro e w' ⟨rfl, rfl⟩
      exact ⟨rfl, Only.refl _ _, hW⟩
  have HJ := Lib.hid (fun W => impl_judge s n g hg W)
  unfold makeF at hdo
  obtain ⟨v, hv⟩ : ∃ v, jdV s n g = v := ⟨_, rfl⟩
  rw [hv] at HJ ⊢
  unfold ldV at HJ ⊢
  have hbx := box_below w #[.int .i64 s, .int .i64 n] 267
  have HL := Lib.hid (cells_new w #[.int .i64 s, .int .i64 n] 267)
  have HC := Lib.hid (h.kept hbx)
  have HO := Lib.hid (Only.of_below (c := a) hbx)
  have hne : w.heap.size ≠ a := by have := h.1; omega
  obtain ⟨b, hb⟩ : ∃ b, w.heap.size = b := ⟨_, rfl⟩
  obtain ⟨W0, hW0⟩ : ∃ W0, w.alloc (.cells #[.int .i64 s, .int .i64 n] 267) = W0 := ⟨_, rfl⟩
  have HB := Lib.hid hb
  have HW := Lib.hid hW0
  rw [hW0] at HL HC HO
  rw [hb] at HL hne
  clear hbx h hk hv hb hW0
  go_enter Tryz.func203, Tryz.ntmps203
  go_wp2_with fail
  rw [HW.out]
  refine (hdo _ HC.out).mono ?_
  rintro e w1 ⟨rfl, ho1, hc1⟩
  have HO1 := Lib.hid (HO.out.trans ho1)
  have HL1 := Lib.hid (CellsW.only HL.out ho1 hne)
  have HC1 := Lib.hid hc1
  rw [HB.out]
  have kb := HL1.out.1
  have ka := HC1.out.1
  obtain ⟨y0, y1⟩ := cells2 HL1.out
  have k0 := later_cell kb y0
  have k1 := later_cell kb y1
  have k6 := later_cell ka (cells7 HC1.out).2.2.2.2.2.2
  unfold lawF at k6
  have HK : Hid (∀ p : Later w1, Calls Tryz.prog 241 #[glV g, .agg #[.int .i64 s, .int .i64 n]] p.u fun e w' => e = .returned (.int .i64 v) ∧ ∃ q : Later w1, w' = q.u) := fun p => later_call (HJ.out p.u)
  clear ho1 hc1 y0 y1 kb ka HO HL HC hdo
  go_wp2_with fail
  refine region_later mixed (by kernel_rfl) ?_
  repeat (go_big_quiet_step (first | (go_at_call 241; exact HK.out _)))
  refine wpQuiet_nil ?_
  intro w2 hw'
  obtain ⟨⟨_, hw2⟩, rfl⟩ := hw'
  have HO2 := Lib.hid (HO1.out.trans (Only.of_below hw2))
  have HC2 := Lib.hid (HC1.out.kept hw2)
  clear hw2 k0 k1 k6
  go_wp2
  go_ret
  exact ⟨rfl, HO2.out, HC2.out⟩
/-! ### want. -/
/-- The desired count of a usable tally, a valid goal and a count. -/
def wV (c : Int) (t : Ty) (g : Gl) : Int :=
  if c = 0 ∨ jdV (rS t g.tar) (rN t g.tar) g = 0 ∨ jdV (rS t g.tar) (rN t g.tar) g ≠ jdV t.sum t.rdy g then c
  else if jdV (rS t g.tar) (rN t g.tar) g = 1 then max (min (clD (rS t g.tar) g.tar) 1000) c else min (min (clD (rS t g.tar) g.tar) 1000) c
set_option maxHeartbeats 4000000 in
theorem impl_want (c : Int) (t : Ty) (g : Gl) (hg : g.wf) (hu : okU t = true) (hgo : okG g = true) (hc : inB c 0 1000 = true) (a : Nat) (l : Value) (w : World) (h : CellsW w a (ctlV g 0 l)) :
    Calls Tryz.prog 171 #[.pointer (some ⟨a, 0, none⟩), .int .i64 c, tyV t] w fun e w' => e = .returned (.int .i64 (wV c t g)) ∧ Only a w w' := by
  have mixed : Tryz.prog.follows .mixedOrders = true := by kernel_rfl
  obtain ⟨-, ⟨t1, t2⟩, -⟩ := (okG_iff g).1 hgo
  obtain ⟨s1, s2, n1, n2, -, -⟩ := bd_refill t g.tar hu (in_yes t1 t2)
  have HRF := Lib.hid (fun W => impl_refill t g.tar hu (in_yes t1 t2) W)
  have HRD := Lib.hid (fun W => impl_ready t W)
  have HD1 := Lib.hid (fun W (hW : CellsW W a (ctlV g 0 l)) => impl_dir (rS t g.tar) (rN t g.tar) g hg a 0 l (.inl rfl) W hW)
  have HD2 := Lib.hid (fun W (hW : CellsW W a (ctlV g 1 (lawF g))) => impl_dir t.sum t.rdy g hg a 1 (lawF g) (.inr ⟨rfl, rfl⟩) W hW)
  obtain ⟨S, hS⟩ : ∃ S, rS t g.tar = S := ⟨_, rfl⟩
  obtain ⟨M, hM⟩ : ∃ M, rN t g.tar = M := ⟨_, rfl⟩
  obtain ⟨j, hj⟩ : ∃ j, jdV S M g = j := ⟨_, rfl⟩
  obtain ⟨j2, hj2⟩ : ∃ j2, jdV t.sum t.rdy g = j2 := ⟨_, rfl⟩
  obtain ⟨v, hv⟩ : ∃ v, wV c t g = v := ⟨_, rfl⟩
  have HV : Hid ((if c = 0 ∨ j = 0 ∨ j ≠ j2 then c else if j = 1 then max (min (clD S g.tar) 1000) c else min (min (clD S g.tar) 1000) c) = v) := by
    show _ = _
    rw [← hv]
    unfold wV
    rw [hS, hM, hj, hj2]
  obtain ⟨y, hy⟩ : ∃ y, clD S g.tar = y := ⟨_, rfl⟩
  have hcd := fun W => impl_ceil S g.tar W ⟨by omega, by omega⟩
  rw [hy] at hcd HV
  have HCD := Lib.hid hcd
  clear hy hcd
  rw [hS, hM] at HRF HD1
  rw [hS] at s1 s2
  rw [hj] at HD1
  rw [hj2] at HD2
  rw [hv]
  unfold tyV ldV at HRF HRD
  unfold ldV at HD1 HD2
  unfold tyV
  clear hS hM hj hj2 hv hu hgo
  have hbx := box_below w #[.int .i64 t.rdy, .int .i64 t.unr, .int .i64 t.mis, .int .i64 t.sum] 150
  have HT := Lib.hid (cells_new w #[.int .i64 t.rdy, .int .i64 t.unr, .int .i64 t.mis, .int .i64 t.sum] 150)
  have HC := Lib.hid (h.kept hbx)
  have HO := Lib.hid (Only.of_below (c := a) hbx)
  have hne : w.heap.size ≠ a := by have := h.1; omega
  obtain ⟨b, hb⟩ : ∃ b, w.heap.size = b := ⟨_, rfl⟩
  obtain ⟨W0, hW0⟩ : ∃ W0, w.alloc (.cells #[.int .i64 t.rdy, .int .i64 t.unr, .int .i64 t.mis, .int .i64 t.sum] 150) = W0 := ⟨_, rfl⟩
  have HB := Lib.hid hb
  have HW := Lib.hid hW0
  rw [hW0] at HT HC HO
  rw [hb] at HT hne
  clear hbx h hb hW0
  have HK : Hid (∀ W, Hid (Below W0.heap.size W0 W) → (W.cell? ⟨b, 0, none⟩ = some (.int .i64 t.rdy) ∧ W.cell? ⟨b, 1, none⟩ = some (.int .i64 t.unr) ∧ W.cell? ⟨b, 2, none⟩ = some (.int .i64 t.mis) ∧ W.cell? ⟨b, 3, none⟩ = some (.int .i64 t.sum) ∧ W.cell? ⟨a, 1, none⟩ = some (.int .i64 g.tar))) := fun W h => by
    obtain ⟨p0, p1, p2, p3⟩ := cells4 (HT.out.kept h.out)
    exact ⟨p0, p1, p2, p3, (cells7 (HC.out.kept h.out)).2.1⟩
  have HBc : Hid (Below W0.heap.size W0 W0.drew) := (Below.refl _ _).drew
  have HDS : Hid (W0.drew.heap.size = W0.heap.size) := Lib.hid rfl
  go_enter Tryz.func171, Tryz.ntmps171
  go_wp2_with fail
  rw [HW.out, HB.out]
  go_region_held3 (fun w' => w'.cell? ⟨b, 0, none⟩ = some (.int .i64 t.rdy) ∧ w'.cell? ⟨b, 1, none⟩ = some (.int .i64 t.unr) ∧ w'.cell? ⟨b, 2, none⟩ = some (.int .i64 t.mis) ∧ w'.cell? ⟨b, 3, none⟩ = some (.int .i64 t.sum) ∧ w'.cell? ⟨a, 1, none⟩ = some (.int .i64 g.tar))
    (first | exact HK.out _ HBc | exact HK.out _ (Lib.hid (HBc.out.alloc HBc.out.size _)) | exact HK.out _ (Lib.hid ((HBc.out.setCell (p := ⟨W0.heap.size, 0, none⟩) (Nat.le_refl _) _).setCell (p := ⟨W0.heap.size, 1, none⟩) (Nat.le_refl _) _)))
    (first
      | (go_at_call 202; (first
          | (refine (HRF.out _).mono ?_; rintro e w1 ⟨rfl, hb⟩; have HBc := Lib.hid (HBc.out.trans (hb.mono HBc.out.size)); clear hb)
          | (have HVw := Lib.hid ((fun {v : World} (_ : Below W0.heap.size W0 v) => cells_new v #[.int .i64 0, .int .i64 0] 267) HBc.out); have HLw := Lib.hid HBc.out.size; have HBw := Lib.hid (HBc.out.alloc HBc.out.size (.cells #[.int .i64 0, .int .i64 0] 267)); refine (HRF.out _).mono ?_; rintro e w1 ⟨rfl, hb⟩; have HBc := Lib.hid (HBw.out.trans (hb.mono HBw.out.size)); have HVc := Lib.hid (HVw.out.kept hb); have HLc := HLw; (try rw [HDS.out] at HVc HLc); obtain ⟨q0, q1⟩ := cells2 HVc.out; obtain ⟨f0, f1⟩ := cellsF2 HVc.out; clear hb))))
  all_goals (
    first
      | (obtain ⟨hv, hb⟩ := ld_set (B := W0.heap.size) HVc.out S M HLc.out HBc.out; have HBt := Lib.hid hb; have HVt := Lib.hid hv; clear hv hb q0 q1 f0 f1)
      | (have HVt := Lib.hid (cells_new w1 #[.int .i64 S, .int .i64 M] 267); have HBt := Lib.hid (HBc.out.alloc HBc.out.size (.cells #[.int .i64 S, .int .i64 M] 267)))
    have HT2 := Lib.hid (HT.out.kept HBt.out)
    have HC2 := Lib.hid (HC.out.kept HBt.out)
    have HO2 := Lib.hid (HO.out.trans (Only.of_below HBt.out))
    have HA0 := Lib.hid HC.out.1
    clear HK HT HC HO HRF
    obtain ⟨y0, y1⟩ := cells2 HVt.out
    go_wp2_with fail
    refine (HD1.out _ HC2.out).mono ?_
    rintro e w2 ⟨rfl, ho2, hc2⟩
    have HC3 := Lib.hid hc2
    have HT3 := Lib.hid (CellsW.only HT2.out ho2 hne)
    have HV3 : Hid (CellsW w2 _ [.int .i64 S, .int .i64 M]) := Lib.hid (CellsW.only HVt.out ho2 (by have h2 := HA0.out; have h3 := HBc.out.size; omega))
    have HO3 := Lib.hid (HO2.out.trans ho2)
    clear HD1 HBt HVt HC2 HT2 HO2 y0 y1 ho2 hc2 HW HB HDS
    by_cases hc0 : c = 0
    · have hcb : (c == 0) = true := by rw [beq_iff_eq]; exact hc0
      obtain rfl : c = v := by rw [← HV.out, if_pos (.inl hc0)]
      clear hc0 HV
      go_wp2
      go_ret
      exact ⟨rfl, HO3.out⟩
    · have hcb : (c == 0) = false := by rw [beq_eq_false_iff_ne]; exact hc0
      by_cases hj0 : j = 0
      · have hjb : (j == 0) = true := by rw [beq_iff_eq]; exact hj0
        obtain rfl : c = v := by rw [← HV.out, if_pos (.inr (.inl hj0))]
        clear hc0 hj0 HV
        go_wp2
        go_ret
        exact ⟨rfl, HO3.out⟩
      · have hjb : (j == 0) = false := by rw [beq_eq_false_iff_ne]; exact hj0
        have HZ : Hid (¬ c = 0 ∧ ¬ j = 0) := ⟨hc0, hj0⟩
        clear hc0 hj0
        obtain ⟨x0, x1, x2, x3⟩ := cells4 HT3.out
        go_wp2_with fail
        refine (HRD.out _).mono ?_
        rintro e w3 ⟨rfl, hb3⟩
        have HC4 := Lib.hid (HC3.out.kept hb3)
        have HV4 := Lib.hid (HV3.out.kept hb3)
        have HO4 := Lib.hid (HO3.out.trans (Only.of_below hb3))
        clear hb3 x0 x1 x2 x3 HC3 HV3 HO3 HT3
        go_wp2_with fail
        refine (HD2.out _ HC4.out).mono ?_
        rintro e w4 ⟨rfl, ho4, hc4⟩
        have HC5 := Lib.hid hc4
        have HV5 := Lib.hid (CellsW.only HV4.out ho4 (by have h2 := HA0.out; have h3 := HBc.out.size; omega))
        have HO5 := Lib.hid (HO4.out.trans ho4)
        clear ho4 hc4 HC4 HV4 HO4 HD2
        by_cases hjj : j = j2
        · have hjn : (j != j2) = false := by rw [hjj]; simp
          have kv := HV5.out.1
          have kc := HC5.out.1
          obtain ⟨y0, y1⟩ := cells2 HV5.out
          have k0 := later_cell kv y0
          have k1 := later_cell kc (cells7 HC5.out).2.1
          have HCL : Hid (∀ p : Later w4, Calls Tryz.prog 205 #[.int .i64 S, .int .i64 g.tar] p.u fun e w' => e = .returned (.int .i64 y) ∧ ∃ q : Later w4, w' = q.u) := fun p => later_call ((HCD.out p.u).mono fun e w' ⟨h1, h2⟩ => ⟨h1, by rw [← h2]; exact Below.refl _ _⟩)
          have HJJ : Hid ((if j = 1 then max (min y 1000) c else min (min y 1000) c) = v) := by
            have hneg : ¬ (c = 0 ∨ j = 0 ∨ j ≠ j2) := by
              rintro (h | h | h)
              · exact HZ.out.1 h
              · exact HZ.out.2 h
              · exact h hjj
            exact (if_neg hneg).symm.trans HV.out
          clear hjj y0 y1 kv kc HV HZ
          go_wp2_with fail
          refine region_later mixed (by kernel_rfl) ?_
          repeat (go_big_quiet_step (first | (go_at_call 205; exact HCL.out _)))
          refine wpQuiet_nil ?_
          intro w5 hw'
          obtain ⟨⟨_, hw5⟩, rfl⟩ := hw'
          have HO6 := Lib.hid (HO5.out.trans (Only.of_below hw5))
          clear hw5 k0 k1 HCL
          obtain ⟨X, hX⟩ : ∃ X, (if 1000 < y then 1000 else y) = X := ⟨_, rfl⟩
          rw [hX]
          have HX : Hid (X = min y 1000) := by
            show _ = _
            rw [← hX]
            split <;> omega
          clear hX
          by_cases hj1 : j = 1
          · have hjb1 : (j == 1) = true := by rw [beq_iff_eq]; exact hj1
            have HJ2 := Lib.hid (HJJ.out.symm.trans (if_pos hj1))
            clear hj1 HJJ
            go_wp2
            all_goals
              go_ret
              exact ⟨ret1I (by rw [HJ2.out, ← HX.out]; omega), HO6.out⟩
          · have hjb1 : (j == 1) = false := by rw [beq_eq_false_iff_ne]; exact hj1
            have HJ2 := Lib.hid (HJJ.out.symm.trans (if_neg hj1))
            clear hj1 HJJ
            go_wp2
            all_goals
              go_ret
              exact ⟨ret1I (by rw [HJ2.out, ← HX.out]; omega), HO6.out⟩
        · have hjn : (j != j2) = true := by simp [hjj]
          obtain rfl : c = v := by rw [← HV.out, if_pos (.inr (.inr hjj))]
          clear hjj HV
          go_wp2
          go_ret
          exact ⟨rfl, HO5.out⟩)
/-! ### WantOf. -/
/-- WantOf. -/
def wantV (c : Int) (t : Ty) (g : Gl) : Int := if (inB c 0 1000 && okU t && okG g) = true then wV c t g else -1
theorem want_no {c : Int} {t : Ty} {g : Gl} (h : inB c 0 1000 = false ∨ okU t = false ∨ okG g = false) : wantV c t g = -1 := by
  unfold wantV
  rw [if_neg]
  rcases h with h | h | h <;> rw [h] <;> simp
theorem want_yes {c : Int} {t : Ty} {g : Gl} (h1 : inB c 0 1000 = true) (h2 : okU t = true) (h3 : okG g = true) : wantV c t g = wV c t g := by
  unfold wantV
  rw [h1, h2, h3]
  rfl
theorem impl_count (n : Int) (w : World) :
    Calls Tryz.prog 80 #[.int .i64 n] w fun e w' => e = .returned (.bool (inB n 0 1000)) ∧ w = w' := by
  rcases in_ways n 0 1000 with ⟨h1, h2, e⟩ | ⟨h1 | h1, e⟩
  all_goals
    rw [e]
    clear e
    go_enter Tryz.func80, Tryz.ntmps80
    go_wp2
    go_ret
    exact ⟨ret1B (by first | rfl | (simp; try omega)), rfl⟩
theorem box3_cells (w : World) (A B C : Array Value) (t t' t'' : TypeId) : CellsW (((w.alloc (.cells A t)).alloc (.cells B t')).alloc (.cells C t'')) w.heap.size A.toList ∧ CellsW (((w.alloc (.cells A t)).alloc (.cells B t')).alloc (.cells C t'')) (w.heap.size + 1) B.toList ∧ CellsW (((w.alloc (.cells A t)).alloc (.cells B t')).alloc (.cells C t'')) (w.heap.size + 2) C.toList := by
  obtain ⟨h1, h2⟩ := box2_cells w A B t t'
  have hb : Below ((w.alloc (.cells A t)).alloc (.cells B t')).heap.size ((w.alloc (.cells A t)).alloc (.cells B t')) (((w.alloc (.cells A t)).alloc (.cells B t')).alloc (.cells C t'')) := box_below _ _ _
  refine ⟨h1.kept hb, h2.kept hb, ?_⟩
  have h := cells_new ((w.alloc (.cells A t)).alloc (.cells B t')) C t''
  have e : ((w.alloc (.cells A t)).alloc (.cells B t')).heap.size = w.heap.size + 2 := by simp
  rw [e] at h
  exact h
theorem jump_ret {l : Nat} {J : Act → World → Prop} {Q : Exit → Act → World → Prop} {a : Act} {w : World} (h : Q .ret a w) : Exit.jump l J Q .ret a w := h
theorem jump_goto {l : Nat} {J : Act → World → Prop} {Q : Exit → Act → World → Prop} {a : Act} {w : World} (h : J a w) : Exit.jump l J Q (.goto l) a w := ⟨rfl, h⟩
/-- What holds at the jump to the end: the answer's variable (slot 8) holds -1. -/
def AtEnd (c : Int) (t : Ty) (g : Gl) (w : World) (act : Act) (w' : World) : Prop :=
  (∃ x9 x10 x11 x12 x13 x14 x15 x16 x17 x18 x19 x20 x21 x22 x23 x24 x25 x26 x27 : Value, act = { tmps := #[.int .i64 c, .agg #[.int .i64 t.rdy, .int .i64 t.unr, .int .i64 t.mis, .int .i64 t.sum], .agg #[.string g.met, .int .i64 g.tar, .int .i64 g.tol], undef, .pointer (some ⟨w.heap.size, 0, none⟩), .pointer (some ⟨w.heap.size + 1, 0, none⟩), .int .i64 0, .pointer (some ⟨w.heap.size + 2, 0, none⟩), .int .i64 (-1), x9, x10, x11, x12, x13, x14, x15, x16, x17, x18, x19, x20, x21, x22, x23, x24, x25, x26, x27], defers := [] }) ∧ Below w.heap.size w w'
set_option maxHeartbeats 2000000 in
theorem impl_wantof (c : Int) (t : Ty) (g : Gl) (hg : g.wf) (v : Int) (hv : wantV c t g = v) (w : World) :
    Calls Tryz.prog 142 #[.int .i64 c, tyV t, glV g] w fun e w' => e = .returned (.int .i64 v) ∧ Below w.heap.size w w' := by
  have hus := fun W => impl_usable t W
  have hgo := fun W => impl_goalok g hg W
  have HV := Lib.hid hv
  clear hv
  unfold tyV glV
  unfold tyV at hus
  unfold glV at hgo
  have HA := Lib.hid (box3_cells w #[.int .i64 t.rdy, .int .i64 t.unr, .int .i64 t.mis, .int .i64 t.sum] #[.string g.met, .int .i64 g.tar, .int .i64 g.tol] #[.string g.met, .int .i64 g.tar, .int .i64 g.tol, .int .u32 0, .int .i32 0, .int .u32 0, .nilFunc] 150 113 232)
  have H0 := Lib.hid (box3_below w (.cells #[.int .i64 t.rdy, .int .i64 t.unr, .int .i64 t.mis, .int .i64 t.sum] 150) (.cells #[.string g.met, .int .i64 g.tar, .int .i64 g.tol] 113) (.cells #[.string g.met, .int .i64 g.tar, .int .i64 g.tol, .int .u32 0, .int .i32 0, .int .u32 0, .nilFunc] 232))
  obtain ⟨W0, hW0⟩ : ∃ W0, ((w.alloc (.cells #[.int .i64 t.rdy, .int .i64 t.unr, .int .i64 t.mis, .int .i64 t.sum] 150)).alloc (.cells #[.string g.met, .int .i64 g.tar, .int .i64 g.tol] 113)).alloc (.cells #[.string g.met, .int .i64 g.tar, .int .i64 g.tol, .int .u32 0, .int .i32 0, .int .u32 0, .nilFunc] 232) = W0 := ⟨_, rfl⟩
  rw [hW0] at HA H0
  have HW := Lib.hid hW0
  clear hW0
  by_cases hgood : inB c 0 1000 = true ∧ okU t = true ∧ okG g = true
  · obtain ⟨c1, c2, c3⟩ := hgood
    rw [c2] at hus
    rw [c3] at hgo
    have hwn := fun W (hW : CellsW W (w.heap.size + 2) (ctlV g 0 .nilFunc)) => impl_want c t g hg c2 c3 c1 (w.heap.size + 2) .nilFunc W hW
    rw [(want_yes c1 c2 c3).symm.trans HV.out] at hwn
    unfold tyV ctlV at hwn
    clear c2 c3 HV
    obtain ⟨y0, y1, y2, y3⟩ := cells4 HA.out.1
    go_enter Tryz.func142, Tryz.ntmps142
    go_wp2_with fail
    apply wp_scope_straight
    go_wp2_with (go_at_call 80; refine (impl_count _ _).mono ?_; rintro e w' ⟨rfl, rfl⟩)
    rw [HW.out]
    refine (hus _).mono ?_
    rintro e w1 ⟨rfl, hb1⟩
    have HB1 := Lib.hid (H0.out.trans (hb1.mono H0.out.size))
    have HT1 := Lib.hid (HA.out.1.kept hb1)
    have HG1 := Lib.hid (HA.out.2.1.kept hb1)
    have HC1 := Lib.hid (HA.out.2.2.kept hb1)
    clear hb1 y0 y1 y2 y3
    obtain ⟨z0, z1, z2⟩ := cells3 HG1.out
    go_wp2_with fail
    refine (hgo _).mono ?_
    rintro e w2 ⟨rfl, hb2⟩
    have HB2 := Lib.hid (HB1.out.trans (hb2.mono HB1.out.size))
    have HT2 := Lib.hid (HT1.out.kept hb2)
    have HC2 := Lib.hid (HC1.out.kept hb2)
    clear hb2 z0 z1 z2
    obtain ⟨y0, y1, y2, y3⟩ := cells4 HT2.out
    go_wp2_with fail
    refine (hwn _ HC2.out).mono ?_
    rintro e w3 ⟨rfl, ho3⟩
    have HB3 := Lib.hid (HB2.out.trans (ho3.below (by omega) HB2.out.size))
    clear ho3 y0 y1 y2 y3
    go_wp2
    go_step3
    go_wp2
    rw [Exit.noGoto_ret]
    go_ret
    exact ⟨rfl, HB3.out⟩
  · obtain rfl : -1 = v := by
      rw [← HV.out]
      refine (want_no ?_).symm
      cases h1 : inB c 0 1000
      · exact .inl rfl
      · cases h2 : okU t
        · exact .inr (.inl rfl)
        · cases h3 : okG g
          · exact .inr (.inr rfl)
          · exact absurd ⟨h1, h2, h3⟩ hgood
    clear HV
    have HGD := Lib.hid hgood
    clear hgood
    go_enter Tryz.func142, Tryz.ntmps142
    go_wp2_with fail
    refine wp_scope_jumps 0 (AtEnd c t g w) (fun _ _ => 0) rfl ?_ ?_
    · obtain ⟨y0, y1, y2, y3⟩ := cells4 HA.out.1
      cases c1 : inB c 0 1000
      · go_wp2_with (go_at_call 80; refine (impl_count _ _).mono ?_; rintro e w' ⟨rfl, rfl⟩)
        rw [HW.out]
        go_step3
        exact ⟨rfl, ⟨⟨_, _, _, _, _, _, _, _, _, _, _, _, _, _, _, _, _, _, _, rfl⟩, H0.out⟩⟩
      · cases c2 : okU t
        · rw [c2] at hus
          go_wp2_with (go_at_call 80; refine (impl_count _ _).mono ?_; rintro e w' ⟨rfl, rfl⟩)
          rw [HW.out]
          refine (hus _).mono ?_
          rintro e w1 ⟨rfl, hb1⟩
          have HB1 := Lib.hid (H0.out.trans (hb1.mono H0.out.size))
          clear hb1
          go_wp2
          go_step3
          exact ⟨rfl, ⟨⟨_, _, _, _, _, _, _, _, _, _, _, _, _, _, _, _, _, _, _, rfl⟩, HB1.out⟩⟩
        · rw [c2] at hus
          have c3 : okG g = false := by
            cases h : okG g
            · rfl
            · exact absurd ⟨c1, c2, h⟩ HGD.out
          rw [c3] at hgo
          go_wp2_with (go_at_call 80; refine (impl_count _ _).mono ?_; rintro e w' ⟨rfl, rfl⟩)
          rw [HW.out]
          refine (hus _).mono ?_
          rintro e w1 ⟨rfl, hb1⟩
          have HB1 := Lib.hid (H0.out.trans (hb1.mono H0.out.size))
          have HG1 := Lib.hid (HA.out.2.1.kept hb1)
          clear hb1 y0 y1 y2 y3
          obtain ⟨z0, z1, z2⟩ := cells3 HG1.out
          go_wp2_with fail
          refine (hgo _).mono ?_
          rintro e w2 ⟨rfl, hb2⟩
          have HB2 := Lib.hid (HB1.out.trans (hb2.mono HB1.out.size))
          clear hb2 z0 z1 z2
          go_wp2
          go_step3
          exact ⟨rfl, ⟨⟨_, _, _, _, _, _, _, _, _, _, _, _, _, _, _, _, _, _, _, rfl⟩, HB2.out⟩⟩
    · rintro act w1 ⟨⟨x9, x10, x11, x12, x13, x14, x15, x16, x17, x18, x19, x20, x21, x22, x23, x24, x25, x26, x27, rfl⟩, hb⟩
      have HB := Lib.hid hb
      clear hb
      go_wp2
      refine jump_ret ?_
      go_ret
      exact ⟨rfl, HB.out⟩
/-! ### The model. -/
theorem spec_count (n : Int) (w : World) :
    Calls Tryz.prog 26 #[.int .i64 n] w fun e w' => e = .returned (.bool (inB n 0 1000)) ∧ w = w' := by
  go_enter Tryz.func26, Tryz.ntmps26
  go_wp2_with (go_at_call 31; refine (C1.spec_in _ _ _ _).mono ?_; rintro e w' ⟨rfl, rfl⟩)
  go_ret
  exact ⟨rfl, rfl⟩
/-- The model's words for a valid call. -/
def smV (c : Int) (t : Ty) (g : Gl) : Int :=
  if c = 0 ∨ bandV t.sum t.rdy g = true ∨ bandV (rS t g.tar) (rN t g.tar) g = true ∨ rsV t.sum t.rdy g.tar ≠ rsV (rS t g.tar) (rN t g.tar) g.tar then c
  else
    if rsV (rS t g.tar) (rN t g.tar) g.tar = 1 ∧ min (clD (rS t g.tar) g.tar) 1000 < c ∨ rsV (rS t g.tar) (rN t g.tar) g.tar = -1 ∧ c < min (clD (rS t g.tar) g.tar) 1000 then c else min (clD (rS t g.tar) g.tar) 1000
theorem sm_same (c : Int) (t : Ty) (g : Gl) (hu : okU t = true) (hg : okG g = true) : smV c t g = wV c t g := by
  obtain ⟨-, ⟨t1, t2⟩, -⟩ := (okG_iff g).1 hg
  obtain ⟨⟨r1, r2⟩, ⟨u1, u2⟩, ⟨m1, m2⟩, s1, s2⟩ := (okU_iff t).1 hu
  have hx := in_yes t1 t2
  have hl : ldOk t.sum t.rdy = true := (ldOk_iff _ _).2 ⟨⟨s1, s2⟩, r1, by omega⟩
  have hl2 : ldOk (rS t g.tar) (rN t g.tar) = true := by
    rw [ldOk_iff]
    obtain ⟨a1, a2, a3, a4, a5, a6⟩ := bd_refill t g.tar hu hx
    refine ⟨⟨a1, ?_⟩, a3, by omega⟩
    unfold rS
    split
    · rename_i h
      rcases rs_good hl hx with ⟨h1, h2⟩ | ⟨h1, h2⟩ | ⟨h1, h2⟩
      · have := Int.mul_le_mul r2 t2 (by omega) (by omega)
        omega
      · rw [h2] at h; cases h
      · rw [h2] at h; cases h
    · exact s2
  unfold smV wV jdV
  obtain ⟨q1, hq1⟩ : ∃ q, rsV t.sum t.rdy g.tar = q := ⟨_, rfl⟩
  obtain ⟨q2, hq2⟩ : ∃ q, rsV (rS t g.tar) (rN t g.tar) g.tar = q := ⟨_, rfl⟩
  have z1 := rs_good hl hx
  have z2 := rs_good hl2 hx
  have b1 : bandV t.sum t.rdy g = false → q1 ≠ 0 := fun h e => by
    rw [hq1] at z1
    rcases z1 with ⟨_, z⟩ | ⟨_, z⟩ | ⟨z, _⟩
    · omega
    · omega
    · rw [band_same hl hg z] at h; cases h
  have b2 : bandV (rS t g.tar) (rN t g.tar) g = false → q2 ≠ 0 := fun h e => by
    rw [hq2] at z2
    rcases z2 with ⟨_, z⟩ | ⟨_, z⟩ | ⟨z, _⟩
    · omega
    · omega
    · rw [band_same hl2 hg z] at h; cases h
  have z2' : q2 = -1 ∨ q2 = 1 ∨ q2 = 0 := by
    rw [hq2] at z2
    rcases z2 with ⟨_, z⟩ | ⟨_, z⟩ | ⟨_, z⟩
    · exact .inl z
    · exact .inr (.inl z)
    · exact .inr (.inr z)
  rw [hq1, hq2]
  clear hq1 hq2 z1 z2 hl hl2 hu hg hx
  generalize clD (rS t g.tar) g.tar = y
  cases e1 : bandV t.sum t.rdy g
  · have := b1 e1
    cases e2 : bandV (rS t g.tar) (rN t g.tar) g
    · have := b2 e2
      simp only [Bool.false_eq_true, if_false, false_or]
      clear b1 b2 e1 e2 t1 t2 r1 r2 u1 u2 m1 m2 s1 s2
      (repeat' split) <;> first | rfl | omega
    · rw [if_pos (.inr (.inr (.inl rfl))), if_pos (.inr (.inl (by simp)))]
  · rw [if_pos (.inr (.inl rfl))]
    cases e2 : bandV (rS t g.tar) (rN t g.tar) g
    · have := b2 e2
      rw [if_pos]
      simp only [Bool.false_eq_true, if_false, if_true]
      omega
    · rw [if_pos (.inr (.inl (by simp)))]
end Go.Proofs.YtgmdfkmmbcpikaaGreat.Want

/- WantOf: the model's side. -/
namespace Go.Proofs.YtgmdfkmmbcpikaaGreat.WantS
open Go.RowKit
open Go.Proofs.YtgmdfkmmbcpikaaGreat.C1
open Go.Proofs.YtgmdfkmmbcpikaaGreat.C2
open Go.Proofs.YtgmdfkmmbcpikaaGreat.Smps
open Go.Proofs.YtgmdfkmmbcpikaaGreat.Mem
open Go.Proofs.YtgmdfkmmbcpikaaGreat.Pd
open Go.Proofs.YtgmdfkmmbcpikaaGreat.Gl
open Go.Proofs.YtgmdfkmmbcpikaaGreat.Rs
open Go.Proofs.YtgmdfkmmbcpikaaGreat.Bd
open Go.Proofs.YtgmdfkmmbcpikaaGreat.Rf
open Go.Proofs.YtgmdfkmmbcpikaaGreat.Want
set_option linter.unusedVariables false

set_option maxHeartbeats 4000000 in
theorem spec_wantof (c : Int) (t : Ty) (g : Gl) (hg : g.wf) (v : Int) (hv : wantV c t g = v) (w : World) :
    Calls Tryz.prog 101 #[.int .i64 c, tyV t, glV g] w fun e w' => e = .returned (.int .i64 v) ∧ Below w.heap.size w w' := by
  have hus := fun W => spec_usable t W
  have hgo := fun W => spec_goalok g hg W
  have HV := Lib.hid hv
  clear hv
  unfold tyV glV
  unfold tyV at hus
  unfold glV at hgo
  have HA := Lib.hid (box2_cells w #[.int .i64 t.rdy, .int .i64 t.unr, .int .i64 t.mis, .int .i64 t.sum] #[.string g.met, .int .i64 g.tar, .int .i64 g.tol] 150 113)
  have H0 := Lib.hid (box2_below w (.cells #[.int .i64 t.rdy, .int .i64 t.unr, .int .i64 t.mis, .int .i64 t.sum] 150) (.cells #[.string g.met, .int .i64 g.tar, .int .i64 g.tol] 113))
  obtain ⟨W0, hW0⟩ : ∃ W0, (w.alloc (.cells #[.int .i64 t.rdy, .int .i64 t.unr, .int .i64 t.mis, .int .i64 t.sum] 150)).alloc (.cells #[.string g.met, .int .i64 g.tar, .int .i64 g.tol] 113) = W0 := ⟨_, rfl⟩
  rw [hW0] at HA H0
  have HW := Lib.hid hW0
  clear hW0
  obtain ⟨y0, y1, y2, y3⟩ := cells4 HA.out.1
  cases c1 : inB c 0 1000
  · obtain rfl : -1 = v := by rw [← HV.out, want_no (.inl c1)]
    have hb0 := H0.out
    go_enter Tryz.func101, Tryz.ntmps101
    go_wp2_with (go_at_call 26; refine (spec_count _ _).mono ?_; rintro e w' ⟨rfl, rfl⟩)
    rw [HW.out]
    go_ret
    exact ⟨rfl, H0.out⟩
  · cases c2 : okU t
    · obtain rfl : -1 = v := by rw [← HV.out, want_no (.inr (.inl c2))]
      rw [c2] at hus
      clear c2
      go_enter Tryz.func101, Tryz.ntmps101
      go_wp2_with (go_at_call 26; refine (spec_count _ _).mono ?_; rintro e w' ⟨rfl, rfl⟩)
      rw [HW.out]
      refine (hus _).mono ?_
      rintro e w1 ⟨rfl, hb1⟩
      have HB1 := Lib.hid (H0.out.trans (hb1.mono H0.out.size))
      clear hb1
      go_wp2
      go_ret
      exact ⟨rfl, HB1.out⟩
    · rw [c2] at hus
      have C2 := Lib.hid c2
      clear c2
      go_enter Tryz.func101, Tryz.ntmps101
      go_wp2_with (go_at_call 26; refine (spec_count _ _).mono ?_; rintro e w' ⟨rfl, rfl⟩)
      rw [HW.out]
      refine (hus _).mono ?_
      rintro e w1 ⟨rfl, hb1⟩
      have HB1 := Lib.hid (H0.out.trans (hb1.mono H0.out.size))
      have HT1 := Lib.hid (HA.out.1.kept hb1)
      have HG1 := Lib.hid (HA.out.2.kept hb1)
      clear hb1 y0 y1 y2 y3
      obtain ⟨z0, z1, z2⟩ := cells3 HG1.out
      cases c3 : okG g
      · obtain rfl : -1 = v := by rw [← HV.out, want_no (.inr (.inr c3))]
        rw [c3] at hgo
        clear c3
        go_wp2_with fail
        refine (hgo _).mono ?_
        rintro e w2 ⟨rfl, hb2⟩
        have HB2 := Lib.hid (HB1.out.trans (hb2.mono HB1.out.size))
        clear hb2
        go_wp2
        go_ret
        exact ⟨rfl, HB2.out⟩
      · rw [c3] at hgo
        have hV : smV c t g = v := by rw [sm_same c t g C2.out c3, ← want_yes c1 C2.out c3]; exact HV.out
        obtain ⟨-, ⟨t1, t2⟩, -⟩ := (okG_iff g).1 c3
        obtain ⟨s1, s2, n1, n2, -, -⟩ := bd_refill t g.tar C2.out (in_yes t1 t2)
        have hrf := fun W => spec_refillof t g hg _ _ (rf_yes C2.out c3).1 (rf_yes C2.out c3).2 W
        have hq1 := fun W => spec_sign t.sum t.rdy g.tar W
        have hq2 := fun W => spec_sign (rS t g.tar) (rN t g.tar) g.tar W
        have hb1 := fun W => spec_inband t.sum t.rdy g hg W
        have hb2 := fun W => spec_inband (rS t g.tar) (rN t g.tar) g hg W
        have hcd := fun W => spec_ceil (rS t g.tar) g.tar W ⟨by omega, by omega⟩
        unfold smV at hV
        generalize rsV t.sum t.rdy g.tar = q1 at hq1 hV
        generalize rsV (rS t g.tar) (rN t g.tar) g.tar = q2 at hq2 hV
        generalize bandV t.sum t.rdy g = e1 at hb1 hV
        generalize bandV (rS t g.tar) (rN t g.tar) g = e2 at hb2 hV
        generalize clD (rS t g.tar) g.tar = y at hcd hV
        generalize rS t g.tar = S at *
        generalize rN t g.tar = M at *
        have HVV := Lib.hid hV
        have HRF := Lib.hid hrf
        have HQ1 := Lib.hid hq1
        have HQ2 := Lib.hid hq2
        have HE1 := Lib.hid hb1
        have HE2 := Lib.hid hb2
        have HCD := Lib.hid hcd
        unfold tyV glV at HRF
        unfold glV at HE1 HE2
        clear hV hrf hq1 hq2 hb1 hb2 hcd c3 HV C2
        go_wp2_with fail
        refine (hgo _).mono ?_
        rintro e w2 ⟨rfl, hb⟩
        have HB2 := Lib.hid (HB1.out.trans (hb.mono HB1.out.size))
        have HT2 := Lib.hid (HT1.out.kept hb)
        have HG2 := Lib.hid (HG1.out.kept hb)
        clear hb z0 z1 z2
        obtain ⟨y0, y1, y2, y3⟩ := cells4 HT2.out
        obtain ⟨z0, z1, z2⟩ := cells3 HG2.out
        go_wp2_with fail
        refine (HRF.out _).mono ?_
        rintro e w3 ⟨rfl, hb⟩
        have HB3 := Lib.hid (HB2.out.trans (hb.mono HB2.out.size))
        have HT3 := Lib.hid (HT2.out.kept hb)
        have HG3 := Lib.hid (HG2.out.kept hb)
        clear hb z0 z1 z2 y0 y1 y2 y3
        obtain ⟨y0, y1, y2, y3⟩ := cells4 HT3.out
        obtain ⟨z0, z1, z2⟩ := cells3 HG3.out
        go_wp2_with fail
        refine (HQ1.out _).mono ?_
        rintro e w' ⟨rfl, rfl⟩
        go_wp2_with fail
        refine (HQ2.out _).mono ?_
        rintro e w' ⟨rfl, rfl⟩
        by_cases hc0 : c = 0
        · have hcb : (c == 0) = true := by rw [beq_iff_eq]; exact hc0
          obtain rfl : c = v := by rw [← HVV.out, if_pos (.inl hc0)]
          clear hc0 HVV
          go_wp2
          go_ret
          exact ⟨rfl, HB3.out⟩
        · have hcb : (c == 0) = false := by rw [beq_eq_false_iff_ne]; exact hc0
          have HC0 := Lib.hid hc0
          clear hc0
          cases e1
          · go_wp2_with fail
            refine (HE1.out _).mono ?_
            rintro e w4 ⟨rfl, hb⟩
            have HB4 := Lib.hid (HB3.out.trans (hb.mono HB3.out.size))
            have HG4 := Lib.hid (HG3.out.kept hb)
            clear hb z0 z1 z2 y0 y1 y2 y3
            obtain ⟨z0, z1, z2⟩ := cells3 HG4.out
            cases e2
            · go_wp2_with fail
              refine (HE2.out _).mono ?_
              rintro e w5 ⟨rfl, hb⟩
              have HB5 := Lib.hid (HB4.out.trans (hb.mono HB4.out.size))
              have HG5 := Lib.hid (HG4.out.kept hb)
              clear hb z0 z1 z2
              by_cases hqq : q1 = q2
              · have hqn : (q1 != q2) = false := by rw [hqq]; simp
                have HVN : Hid ((if q2 = 1 ∧ min y 1000 < c ∨ q2 = -1 ∧ c < min y 1000 then c else min y 1000) = v) := by
                  have hneg : ¬ (c = 0 ∨ false = true ∨ false = true ∨ q1 ≠ q2) := by
                    rintro (h | h | h | h)
                    · exact HC0.out h
                    · cases h
                    · cases h
                    · exact h hqq
                  exact (if_neg hneg).symm.trans HVV.out
                obtain ⟨z0, z1, z2⟩ := cells3 HG5.out
                clear hqq HVV
                go_wp2_with fail
                refine (HCD.out _).mono ?_
                rintro e w' ⟨rfl, rfl⟩
                by_cases hy : 1000 < y
                · have HY : Hid (min y 1000 = 1000) := by show _ = _; omega
                  rw [HY.out] at HVN
                  by_cases a1 : q2 = 1
                  · have b1 : (q2 == 1) = true := by rw [beq_iff_eq]; exact a1
                    have b2 : (q2 == -1) = false := by rw [beq_eq_false_iff_ne]; omega
                    have A1 := Lib.hid a1
                    clear a1
                    by_cases a3 : 1000 < c
                    all_goals
                      go_wp2
                      go_ret
                      exact ⟨ret1I (by rw [← HVN.out]; have := A1.out; split <;> omega), HB5.out⟩
                  · have b1 : (q2 == 1) = false := by rw [beq_eq_false_iff_ne]; exact a1
                    have A1 := Lib.hid a1
                    clear a1
                    by_cases a2 : q2 = -1
                    · have b2 : (q2 == -1) = true := by rw [beq_iff_eq]; exact a2
                      have A2 := Lib.hid a2
                      clear a2
                      by_cases a3 : c < 1000
                      all_goals
                        go_wp2
                        go_ret
                        exact ⟨ret1I (by rw [← HVN.out]; have := A1.out; have := A2.out; split <;> omega), HB5.out⟩
                    · have b2 : (q2 == -1) = false := by rw [beq_eq_false_iff_ne]; exact a2
                      have A2 := Lib.hid a2
                      clear a2
                      go_wp2
                      go_ret
                      exact ⟨ret1I (by rw [← HVN.out]; have := A1.out; have := A2.out; split <;> omega), HB5.out⟩
                · have HY : Hid (min y 1000 = y) := by show _ = _; omega
                  rw [HY.out] at HVN
                  by_cases a1 : q2 = 1
                  · have b1 : (q2 == 1) = true := by rw [beq_iff_eq]; exact a1
                    have b2 : (q2 == -1) = false := by rw [beq_eq_false_iff_ne]; omega
                    have A1 := Lib.hid a1
                    clear a1
                    by_cases a3 : y < c
                    all_goals
                      go_wp2
                      go_ret
                      exact ⟨ret1I (by rw [← HVN.out]; have := A1.out; split <;> omega), HB5.out⟩
                  · have b1 : (q2 == 1) = false := by rw [beq_eq_false_iff_ne]; exact a1
                    have A1 := Lib.hid a1
                    clear a1
                    by_cases a2 : q2 = -1
                    · have b2 : (q2 == -1) = true := by rw [beq_iff_eq]; exact a2
                      have A2 := Lib.hid a2
                      clear a2
                      by_cases a3 : c < y
                      all_goals
                        go_wp2
                        go_ret
                        exact ⟨ret1I (by rw [← HVN.out]; have := A1.out; have := A2.out; split <;> omega), HB5.out⟩
                    · have b2 : (q2 == -1) = false := by rw [beq_eq_false_iff_ne]; exact a2
                      have A2 := Lib.hid a2
                      clear a2
                      go_wp2
                      go_ret
                      exact ⟨ret1I (by rw [← HVN.out]; have := A1.out; have := A2.out; split <;> omega), HB5.out⟩
              · have hqn : (q1 != q2) = true := by simp [hqq]
                obtain rfl : c = v := by rw [← HVV.out, if_pos (.inr (.inr (.inr hqq)))]
                clear hqq HVV
                go_wp2
                go_ret
                exact ⟨rfl, HB5.out⟩
            · obtain rfl : c = v := by rw [← HVV.out, if_pos (.inr (.inr (.inl rfl)))]
              clear HVV
              go_wp2_with fail
              refine (HE2.out _).mono ?_
              rintro e w5 ⟨rfl, hb⟩
              have HB5 := Lib.hid (HB4.out.trans (hb.mono HB4.out.size))
              clear hb z0 z1 z2
              go_wp2
              go_ret
              exact ⟨rfl, HB5.out⟩
          · obtain rfl : c = v := by rw [← HVV.out, if_pos (.inr (.inl rfl))]
            clear HVV
            go_wp2_with fail
            refine (HE1.out _).mono ?_
            rintro e w4 ⟨rfl, hb⟩
            have HB4 := Lib.hid (HB3.out.trans (hb.mono HB3.out.size))
            clear hb z0 z1 z2 y0 y1 y2 y3
            go_wp2
            go_ret
            exact ⟨rfl, HB4.out⟩
end Go.Proofs.YtgmdfkmmbcpikaaGreat.WantS

/- CombineWants: both sides; slices.Max, slices.Contains at ints. -/
namespace Go.Proofs.YtgmdfkmmbcpikaaGreat.Comb
open Go.RowKit
open Go.Proofs.YtgmdfkmmbcpikaaGreat.C1
open Go.Proofs.YtgmdfkmmbcpikaaGreat.Ints
open Go.Proofs.YtgmdfkmmbcpikaaGreat.C1L
open Go.Proofs.YtgmdfkmmbcpikaaGreat.Gl
open Go.Proofs.YtgmdfkmmbcpikaaGreat.Want
set_option linter.unusedVariables false

/-! ### Plain mathematics. -/
def wOk (x : Int) : Bool := inB x (-1) 1000
def wsOk (xs : List Int) : Bool := decide (1 ≤ xs.length ∧ xs.length ≤ 300) && xs.all wOk
def mxS (m x : Int) : Int := if m < x then x else m
def mxL (xs : List Int) : Int := xs.foldl mxS (-1)
def has (xs : List Int) (v : Int) : Bool := xs.any (· == v)
def combV (c : Int) (xs : List Int) : Int := if (inB c 0 1000 && wsOk xs) = true then (if mxL xs < 0 ∨ (has xs (-1) = true ∧ mxL xs < c) then c else mxL xs) else -1
theorem comb_no {c : Int} {xs : List Int} (h : inB c 0 1000 = false ∨ wsOk xs = false) : combV c xs = -1 := by
  unfold combV
  rw [if_neg]
  rcases h with h | h <;> rw [h] <;> simp
theorem comb_yes {c : Int} {xs : List Int} (h1 : inB c 0 1000 = true) (h2 : wsOk xs = true) : combV c xs = (if mxL xs < 0 ∨ (has xs (-1) = true ∧ mxL xs < c) then c else mxL xs) := by
  unfold combV
  rw [h1, h2]
  rfl
theorem ws_len {xs : List Int} (h : ¬ (1 ≤ xs.length ∧ xs.length ≤ 300)) : wsOk xs = false := by
  unfold wsOk
  rw [decide_eq_false h]
  rfl
theorem ws_no {xs : List Int} (k : Nat) (hk : k < xs.length) (h : wOk xs[k] = false) : wsOk xs = false := by
  unfold wsOk
  have : xs.all wOk = false := by
    rw [Bool.eq_false_iff]
    intro ha
    have := List.all_eq_true.1 ha _ (List.getElem_mem hk)
    rw [h] at this
    cases this
  rw [this, Bool.and_false]
theorem ws_yes {xs : List Int} (h0 : 1 ≤ xs.length ∧ xs.length ≤ 300) (h : ∀ k (hk : k < xs.length), wOk xs[k] = true) : wsOk xs = true := by
  unfold wsOk
  rw [decide_eq_true h0, Bool.true_and, List.all_eq_true]
  intro x hx
  obtain ⟨k, hk, rfl⟩ := List.getElem_of_mem hx
  exact h k hk
theorem ws_parts {xs : List Int} (h : wsOk xs = true) : (1 ≤ xs.length ∧ xs.length ≤ 300) ∧ ∀ k (hk : k < xs.length), -1 ≤ xs[k] ∧ xs[k] ≤ 1000 := by
  unfold wsOk at h
  rw [Bool.and_eq_true, decide_eq_true_eq, List.all_eq_true] at h
  refine ⟨h.1, fun k hk => ?_⟩
  have := h.2 _ (List.getElem_mem hk)
  unfold wOk at this
  exact in_iff.1 this
theorem mx_snoc (xs : List Int) (k : Nat) (h : k < xs.length) : mxL (xs.take (k + 1)) = mxS (mxL (xs.take k)) xs[k] := by
  unfold mxL
  rw [List.take_succ_eq_append_getElem h, List.foldl_append]
  rfl
theorem mx_low : ∀ (xs : List Int) (m : Int), -1 ≤ m → -1 ≤ xs.foldl mxS m
  | [], m, h => h
  | x :: r, m, h => by
    rw [List.foldl_cons]
    refine mx_low r _ ?_
    unfold mxS
    split <;> omega
theorem mx_high : ∀ (xs : List Int) (m : Int), m ≤ 1000 → (∀ x ∈ xs, x ≤ 1000) → xs.foldl mxS m ≤ 1000
  | [], m, h, _ => h
  | x :: r, m, h, hx => by
    rw [List.foldl_cons]
    refine mx_high r _ ?_ fun y hy => hx y (List.mem_cons_of_mem _ hy)
    unfold mxS
    have := hx x (List.mem_cons_self ..)
    split <;> omega
theorem mx_ge : ∀ (xs : List Int) (m : Int), m ≤ xs.foldl mxS m ∧ ∀ x ∈ xs, x ≤ xs.foldl mxS m
  | [], m => ⟨Int.le_refl _, fun x h => absurd h (by simp)⟩
  | x :: r, m => by
    rw [List.foldl_cons]
    obtain ⟨h1, h2⟩ := mx_ge r (mxS m x)
    have h3 : m ≤ mxS m x ∧ x ≤ mxS m x := by unfold mxS; split <;> omega
    refine ⟨by omega, fun y hy => ?_⟩
    rcases List.mem_cons.1 hy with rfl | hy
    · omega
    · exact h2 y hy
theorem has_no {xs : List Int} {v : Int} (h : ∀ k (hk : k < xs.length), ¬ xs[k] = v) : has xs v = false := by
  unfold has
  rw [Bool.eq_false_iff]
  intro ha
  obtain ⟨x, hx, e⟩ := List.any_eq_true.1 ha
  obtain ⟨k, hk, rfl⟩ := List.getElem_of_mem hx
  exact h k hk (by simpa using e)
theorem has_yes {xs : List Int} {v : Int} (k : Nat) (hk : k < xs.length) (h : xs[k] = v) : has xs v = true := by
  unfold has
  rw [List.any_eq_true]
  exact ⟨_, List.getElem_mem hk, by simpa using h⟩
theorem has_snoc (xs : List Int) (v : Int) (k : Nat) (h : k < xs.length) : has (xs.take (k + 1)) v = (has (xs.take k) v || xs[k] == v) := by
  unfold has
  rw [List.take_succ_eq_append_getElem h, List.any_append]
  simp
/-- Without an unknown one the greatest is no less than 0. -/
theorem mx_known {xs : List Int} (h : wsOk xs = true) (hn : has xs (-1) = false) : 0 ≤ mxL xs := by
  obtain ⟨⟨h1, -⟩, h2⟩ := ws_parts h
  have h3 := h2 0 (by omega)
  have h4 : ¬ xs[0] = -1 := fun e => by rw [has_yes 0 (by omega) e] at hn; cases hn
  have h5 := (mx_ge xs (-1)).2 _ (List.getElem_mem (show 0 < xs.length by omega))
  unfold mxL
  omega
/-! ### The program. -/
theorem wants_ok (xs : List Int) (a : Option Addr) (cap : Nat) (w : World) (h : Ints w a xs) (hm : xs.length ≤ 35184372088832) :
    Calls Tryz.prog 144 #[.slice a xs.length cap] w fun e w' => e = .returned (.bool (wsOk xs)) ∧ w = w' := by
  obtain ⟨b, off, hc⟩ := Ints.cells h
  by_cases hl : 1 ≤ xs.length ∧ xs.length ≤ 300
  · have hl0 : ((xs.length : Int) == 0) = false := by rw [beq_eq_false_iff_ne]; omega
    obtain ⟨l1, l2⟩ := id hl
    have HL := Lib.hid hl
    clear hl
    go_enter Tryz.func144, Tryz.ntmps144
    go_wp2
    go_loop [15] (fun i => ∃ k : Nat, k ≤ xs.length ∧ i = .int .i64 k ∧ Hid (∀ j (hj : j < xs.length), j < k → wOk xs[j] = true)) (fun i => xs.length - (intOf i).toNat)
    case atStart => exact ⟨0, Nat.zero_le _, rfl, fun j hj h => by omega⟩
    case round =>
      obtain ⟨k, hk, rfl, HA⟩ := hrel
      by_cases hlt : k < xs.length
      · obtain rfl := hc.1 (by omega)
        have hx := hc.2 k hlt
        have HC := Lib.hid hc
        clear hc
        by_cases e1 : xs[k] = -1
        · have eb : (xs[k] != -1) = false := by rw [e1]; rfl
          have hw : wOk xs[k] = true := by rw [e1]; rfl
          have HN : Hid (∀ j (hj : j < xs.length), j < k + 1 → wOk xs[j] = true) := fun j hj h => by
            by_cases e : j = k
            · subst e; exact hw
            · exact HA.out j hj (by omega)
          clear e1 hw HA
          go_wp2
          go_round
          case rel => exact ⟨k + 1, by omega, by go_num, HN⟩
          case measure => simp [intOf]; omega
        · have eb : (xs[k] != -1) = true := by simp [e1]
          cases hB : inB xs[k] 0 1000
          · have HN : Hid (wsOk xs = false) := ws_no k hlt (by unfold wOk; rw [in_not] at hB ⊢; omega)
            clear e1 HA
            go_wp2_with (go_at_call 80; refine (impl_count _ _).mono ?_; rintro e w' ⟨rfl, rfl⟩)
            go_ret
            exact ⟨ret1B HN.out.symm, rfl⟩
          · have hw : wOk xs[k] = true := by unfold wOk; rw [in_iff] at hB ⊢; omega
            have HN : Hid (∀ j (hj : j < xs.length), j < k + 1 → wOk xs[j] = true) := fun j hj h => by
              by_cases e : j = k
              · subst e; exact hw
              · exact HA.out j hj (by omega)
            clear e1 hw HA
            go_wp2_with (go_at_call 80; refine (impl_count _ _).mono ?_; rintro e w' ⟨rfl, rfl⟩)
            go_round
            case rel => exact ⟨k + 1, by omega, by go_num, HN⟩
            case measure => simp [intOf]; omega
      · have HN : Hid (wsOk xs = true) := ws_yes HL.out fun j hj => HA.out j hj (by omega)
        go_wp2
        go_ret
        exact ⟨ret1B HN.out.symm, rfl⟩
  · rw [ws_len hl]
    by_cases h0 : xs.length = 0
    · have hl0 : ((xs.length : Int) == 0) = true := by rw [beq_iff_eq]; omega
      clear h0 hl
      go_enter Tryz.func144, Tryz.ntmps144
      go_wp2
      go_ret
      exact ⟨rfl, rfl⟩
    · have hl0 : ((xs.length : Int) == 0) = false := by rw [beq_eq_false_iff_ne]; omega
      have hl3 : (300 : Int) < (xs.length : Int) := by omega
      clear h0 hl
      go_enter Tryz.func144, Tryz.ntmps144
      go_wp2
      go_ret
      exact ⟨rfl, rfl⟩
theorem max_of (xs : List Int) (a : Option Addr) (cap : Nat) (w : World) (h : Ints w a xs) (hok : wsOk xs = true) :
    Calls Tryz.prog 107 #[.slice a xs.length cap] w fun e w' => e = .returned (.int .i64 (mxL xs)) ∧ w = w' := by
  obtain ⟨b, off, hc⟩ := Ints.cells h
  obtain ⟨⟨l1, l2⟩, hall⟩ := ws_parts hok
  have HA := Lib.hid hall
  have hx0 := hc.2 0 (by omega)
  rw [Nat.add_zero] at hx0
  obtain rfl := hc.1 (by omega)
  have HS : Hid (xs[0] = mxL (xs.take 1)) := by
    show _ = _
    have := mx_snoc xs 0 (by omega)
    rw [Nat.zero_add] at this
    rw [this]
    have h0 := hall 0 (by omega)
    show _ = mxS (-1) _
    unfold mxS
    split <;> omega
  have hl0 : (0 : Int) < (xs.length : Int) := by omega
  obtain ⟨x0, hx⟩ : ∃ x0, xs[0] = x0 := ⟨_, rfl⟩
  rw [hx] at hx0 HS
  clear hall hok h hx
  go_enter Tryz.func107, Tryz.ntmps107
  go_wp2
  go_loop [3, 4] (fun m i => ∃ k : Nat, 1 ≤ k ∧ k ≤ xs.length ∧ i = .int .i64 k ∧ ∃ q : Int, Hid (q = mxL (xs.take k)) ∧ m = .int .i64 q) (fun _ i => xs.length - (intOf i).toNat)
  case atStart => exact ⟨1, Nat.le_refl _, l1, rfl, x0, HS, rfl⟩
  case round =>
    obtain ⟨k, hk1, hk, rfl, q, HQ, rfl⟩ := hrel
    by_cases hlt : k < xs.length
    · have hxk := hc.2 k hlt
      have HN : Hid (mxL (xs.take (k + 1)) = mxS q xs[k]) := by
        show _ = _
        rw [mx_snoc xs k hlt, ← HQ.out]
      have HC := Lib.hid hc
      clear hc
      unfold mxS at HN
      by_cases hq : q < xs[k]
      · rw [if_pos hq] at HN
        go_wp2
        all_goals
          go_round
          case rel => exact ⟨k + 1, by omega, by omega, by go_num, xs[k], HN.out.symm, by first | rfl | (congr 1; omega)⟩
          case measure => simp [intOf]; omega
      · rw [if_neg hq] at HN
        go_wp2
        all_goals
          go_round
          case rel => exact ⟨k + 1, by omega, by omega, by go_num, q, HN.out.symm, by first | rfl | (congr 1; omega)⟩
          case measure => simp [intOf]; omega
    · obtain rfl : k = xs.length := by omega
      have hqe := HQ.out
      rw [List.take_length] at hqe
      have HF := Lib.hid hqe
      clear hqe HQ
      go_wp2
      go_ret
      exact ⟨ret1I HF.out, rfl⟩
theorem index_of (xs : List Int) (a : Option Addr) (cap : Nat) (v : Int) (w : World) (h : Ints w a xs) (hm : xs.length ≤ 35184372088832) :
    Calls Tryz.prog 173 #[.slice a xs.length cap, .int .i64 v] w fun e w' => (∃ r : Int, e = .returned (.int .i64 r) ∧ (decide (0 ≤ r) = has xs v)) ∧ w = w' := by
  obtain ⟨b, off, hc⟩ := Ints.cells h
  go_enter Tryz.func173, Tryz.ntmps173
  go_wp2
  go_loop [8] (fun i => ∃ k : Nat, k ≤ xs.length ∧ i = .int .i64 k ∧ Hid (∀ j (hj : j < xs.length), j < k → ¬ xs[j] = v)) (fun i => xs.length - (intOf i).toNat)
  case atStart => exact ⟨0, Nat.zero_le _, rfl, fun j hj h => by omega⟩
  case round =>
    obtain ⟨k, hk, rfl, HA⟩ := hrel
    by_cases hlt : k < xs.length
    · obtain rfl := hc.1 (by omega)
      have hx := hc.2 k hlt
      have HC := Lib.hid hc
      clear hc
      by_cases e1 : xs[k] = v
      · have eb : (v == xs[k]) = true := by rw [e1]; simp
        have HN : Hid (decide (0 ≤ (k : Int)) = has xs v) := by
          show _ = _
          rw [has_yes k hlt e1, decide_eq_true (by omega)]
        clear e1 HA
        go_wp2
        go_ret
        exact ⟨⟨_, rfl, HN.out⟩, rfl⟩
      · have eb : (v == xs[k]) = false := by rw [beq_eq_false_iff_ne]; exact fun e => e1 e.symm
        have HN : Hid (∀ j (hj : j < xs.length), j < k + 1 → ¬ xs[j] = v) := fun j hj h => by
          by_cases e : j = k
          · subst e; exact e1
          · exact HA.out j hj (by omega)
        clear e1 HA
        go_wp2
        go_round
        case rel => exact ⟨k + 1, by omega, by go_num, HN⟩
        case measure => simp [intOf]; omega
    · have HN : Hid (decide (0 ≤ (-1 : Int)) = has xs v) := by
        show _ = _
        rw [has_no fun j hj => HA.out j hj (by omega)]
        rfl
      go_wp2
      go_ret
      exact ⟨⟨_, rfl, HN.out⟩, rfl⟩
theorem contains_of (xs : List Int) (a : Option Addr) (cap : Nat) (v : Int) (w : World) (h : Ints w a xs) (hm : xs.length ≤ 35184372088832) :
    Calls Tryz.prog 145 #[.slice a xs.length cap, .int .i64 v] w fun e w' => e = .returned (.bool (has xs v)) ∧ w = w' := by
  obtain ⟨bo, hbo⟩ : ∃ bo, has xs v = bo := ⟨_, rfl⟩
  have HI := Lib.hid (index_of xs a cap v w h hm)
  rw [hbo] at HI ⊢
  clear hbo h
  go_enter Tryz.func145, Tryz.ntmps145
  go_wp2_with fail
  refine HI.out.mono ?_
  rintro e w' ⟨⟨r, rfl, hr⟩, rfl⟩
  subst hr
  go_wp2
  go_ret
  exact ⟨rfl, rfl⟩
/-! ### CombineWants. -/
theorem impl_comb (c : Int) (xs : List Int) (a : Option Addr) (cap : Nat) (w : World) (h : Ints w a xs) (hm : xs.length ≤ 35184372088832) :
    Calls Tryz.prog 108 #[.int .i64 c, .slice a xs.length cap] w fun e w' => e = .returned (.int .i64 (combV c xs)) ∧ w = w' := by
  obtain ⟨v, hv⟩ : ∃ v, combV c xs = v := ⟨_, rfl⟩
  have HV := Lib.hid hv
  rw [hv]
  clear hv
  have hwo := wants_ok xs a cap w h hm
  by_cases hgood : inB c 0 1000 = true ∧ wsOk xs = true
  · obtain ⟨c1, c2⟩ := hgood
    rw [c2] at hwo
    have HWO := Lib.hid hwo
    have HMX := Lib.hid (max_of xs a cap w h c2)
    have HCO := Lib.hid (contains_of xs a cap (-1) w h hm)
    have HVV : Hid ((if mxL xs < 0 ∨ (has xs (-1) = true ∧ mxL xs < c) then c else mxL xs) = v) := (comb_yes c1 c2).symm.trans HV.out
    have HKN := Lib.hid (fun h => mx_known c2 h)
    obtain ⟨m1, m2⟩ := in_iff.1 c1
    generalize mxL xs = m at HMX HVV HKN
    generalize has xs (-1) = n at HCO HVV HKN
    clear HV hwo h c2
    go_enter Tryz.func108, Tryz.ntmps108
    go_wp2_with fail
    apply wp_scope_straight
    go_wp2_with (first | (go_at_call 80; refine (impl_count _ _).mono ?_; rintro e w' ⟨rfl, rfl⟩) | (go_at_call 144; refine HWO.out.mono ?_; rintro e w' ⟨rfl, rfl⟩) | (go_at_call 107; refine HMX.out.mono ?_; rintro e w' ⟨rfl, rfl⟩))
    refine HCO.out.mono ?_
    rintro e w' ⟨rfl, rfl⟩
    cases n
    · have h0 := HKN.out rfl
      obtain rfl : m = v := by
        rw [← HVV.out, if_neg]
        rintro (h | ⟨h, -⟩)
        · omega
        · cases h
      clear HVV HKN
      go_wp2
      go_step3
      go_wp2
      rw [Exit.noGoto_ret]
      go_ret
      exact ⟨rfl, rfl⟩
    · by_cases hmc : m < c
      · obtain rfl : c = v := by rw [← HVV.out, if_pos (.inr ⟨rfl, hmc⟩)]
        clear HVV HKN
        go_wp2
        all_goals
          go_step3
          go_wp2
          rw [Exit.noGoto_ret]
          go_ret
          exact ⟨ret1I (by omega), rfl⟩
      · have hv : m = v ∨ (m < 0 ∧ c = v) := by
          rw [← HVV.out]
          by_cases h0 : m < 0
          · rw [if_pos (.inl h0)]; exact .inr ⟨h0, rfl⟩
          · rw [if_neg]
            · exact .inl rfl
            · rintro (h | ⟨-, h⟩) <;> omega
        have HVE : Hid (m = v) := by
          show _ = _
          omega
        clear HVV HKN hv
        go_wp2
        all_goals
          go_step3
          go_wp2
          rw [Exit.noGoto_ret]
          go_ret
          exact ⟨ret1I (by first | omega | exact HVE.out | (rw [← HVE.out]; omega)), rfl⟩
  · obtain rfl : -1 = v := by
      rw [← HV.out]
      refine (comb_no ?_).symm
      cases h1 : inB c 0 1000
      · exact .inl rfl
      · cases h2 : wsOk xs
        · exact .inr rfl
        · exact absurd ⟨h1, h2⟩ hgood
    have HGD := Lib.hid hgood
    have HWO := Lib.hid hwo
    clear HV hgood hwo h
    go_enter Tryz.func108, Tryz.ntmps108
    go_wp2_with fail
    refine wp_scope_jumps 0 (fun act w' => w' = w ∧ ∃ y0 y6 y7 y8 y9 y10 y11 y12 y13 y14 y15 y16 y17 y18 y19 y20 y21 : Value, act = { tmps := #[y0, .slice a xs.length cap, undef, undef, .int .i64 0, .int .i64 (-1), y6, y7, y8, y9, y10, y11, y12, y13, y14, y15, y16, y17, y18, y19, y20, y21], defers := [] }) (fun _ _ => 0) rfl ?_ ?_
    · cases c1 : inB c 0 1000
      · go_wp2_with (go_at_call 80; refine (impl_count _ _).mono ?_; rintro e w' ⟨rfl, rfl⟩)
        go_step3
        exact ⟨rfl, rfl, _, _, _, _, _, _, _, _, _, _, _, _, _, _, _, _, _, rfl⟩
      · have c2 : wsOk xs = false := by
          cases h2 : wsOk xs
          · rfl
          · exact absurd ⟨c1, h2⟩ HGD.out
        rw [c2] at HWO
        go_wp2_with (first | (go_at_call 80; refine (impl_count _ _).mono ?_; rintro e w' ⟨rfl, rfl⟩) | (go_at_call 144; refine HWO.out.mono ?_; rintro e w' ⟨rfl, rfl⟩))
        go_step3
        exact ⟨rfl, rfl, _, _, _, _, _, _, _, _, _, _, _, _, _, _, _, _, _, rfl⟩
    · rintro act w1 ⟨rfl, y0, y6, y7, y8, y9, y10, y11, y12, y13, y14, y15, y16, y17, y18, y19, y20, y21, rfl⟩
      go_wp2
      refine jump_ret ?_
      go_ret
      exact ⟨rfl, rfl⟩
/-! ### The model. -/
theorem spec_comb (c : Int) (xs : List Int) (a : Option Addr) (cap : Nat) (w : World) (h : Ints w a xs) (hm : xs.length ≤ 35184372088832) :
    Calls Tryz.prog 55 #[.int .i64 c, .slice a xs.length cap] w fun e w' => e = .returned (.int .i64 (combV c xs)) ∧ w = w' := by
  obtain ⟨b, off, hc⟩ := Ints.cells h
  obtain ⟨v, hv⟩ : ∃ v, combV c xs = v := ⟨_, rfl⟩
  have HV := Lib.hid hv
  rw [hv]
  clear hv h
  cases c1 : inB c 0 1000
  · obtain rfl : -1 = v := by rw [← HV.out, comb_no (.inl c1)]
    clear HV
    go_enter Tryz.func55, Tryz.ntmps55
    go_wp2_with (go_at_call 26; refine (spec_count _ _).mono ?_; rintro e w' ⟨rfl, rfl⟩)
    go_ret
    exact ⟨rfl, rfl⟩
  · cases c2 : inB (xs.length : Int) 1 300
    · obtain rfl : -1 = v := by rw [← HV.out, comb_no (.inr (ws_len (by rw [in_not] at c2; omega)))]
      clear HV
      go_enter Tryz.func55, Tryz.ntmps55
      go_wp2_with (first | (go_at_call 26; refine (spec_count _ _).mono ?_; rintro e w' ⟨rfl, rfl⟩) | (go_at_call 31; refine (C1.spec_in _ _ _ _).mono ?_; rintro e w' ⟨rfl, rfl⟩))
      go_ret
      exact ⟨rfl, rfl⟩
    · obtain ⟨l1, l2⟩ := in_iff.1 c2
      have HC1 := Lib.hid c1
      have HL : Hid (1 ≤ xs.length ∧ xs.length ≤ 300) := ⟨by omega, by omega⟩
      go_enter Tryz.func55, Tryz.ntmps55
      go_wp2_with (first | (go_at_call 26; refine (spec_count _ _).mono ?_; rintro e w' ⟨rfl, rfl⟩) | (go_at_call 31; refine (C1.spec_in _ _ _ _).mono ?_; rintro e w' ⟨rfl, rfl⟩))
      go_loop [5, 6, 7] (fun m f i => ∃ k : Nat, k ≤ xs.length ∧ i = .int .i64 k ∧ ∃ (q : Int) (n : Bool), Hid (q = mxL (xs.take k)) ∧ Hid (n = has (xs.take k) (-1)) ∧ Hid (∀ j (hj : j < xs.length), j < k → wOk xs[j] = true) ∧ m = .int .i64 q ∧ f = .bool n) (fun _ _ i => xs.length - (intOf i).toNat)
      case atStart => exact ⟨0, Nat.zero_le _, rfl, -1, false, rfl, rfl, fun j hj h => by omega, rfl, rfl⟩
      case round =>
        obtain ⟨k, hk, rfl, q, n, HQ, HN, HA, rfl, rfl⟩ := hrel
        by_cases hlt : k < xs.length
        · obtain rfl := hc.1 (by omega)
          have hx := hc.2 k hlt
          have HC := Lib.hid hc
          clear hc
          cases hB : inB xs[k] (-1) 1000
          · obtain rfl : -1 = v := by rw [← HV.out, comb_no (.inr (ws_no k hlt hB))]
            clear HV HA HQ HN
            go_wp2_with (go_at_call 31; refine (C1.spec_in _ _ _ _).mono ?_; rintro e w' ⟨rfl, rfl⟩)
            go_ret
            exact ⟨rfl, rfl⟩
          · obtain ⟨x1, x2⟩ := in_iff.1 hB
            have HA2 : Hid (∀ j (hj : j < xs.length), j < k + 1 → wOk xs[j] = true) := fun j hj h => by
              by_cases e : j = k
              · subst e; exact hB
              · exact HA.out j hj (by omega)
            have HQ2 : Hid (mxL (xs.take (k + 1)) = mxS q xs[k]) := by
              show _ = _
              rw [mx_snoc xs k hlt, ← HQ.out]
            have HN2 : Hid (has (xs.take (k + 1)) (-1) = (n || xs[k] == -1)) := by
              show _ = _
              rw [has_snoc xs (-1) k hlt, ← HN.out]
            unfold mxS at HQ2
            clear HA HQ HN
            by_cases hq : q < xs[k]
            · rw [if_pos hq] at HQ2
              by_cases h0 : xs[k] < 0
              · rw [show (xs[k] == -1) = true by rw [beq_iff_eq]; omega, Bool.or_true] at HN2
                go_wp2_with (go_at_call 31; refine (C1.spec_in _ _ _ _).mono ?_; rintro e w' ⟨rfl, rfl⟩)
                go_round
                case rel => exact ⟨k + 1, by omega, by go_num, _, _, HQ2.out.symm, HN2.out.symm, HA2, rfl, rfl⟩
                case measure => simp [intOf]; omega
              · rw [show (xs[k] == -1) = false by rw [beq_eq_false_iff_ne]; omega, Bool.or_false] at HN2
                go_wp2_with (go_at_call 31; refine (C1.spec_in _ _ _ _).mono ?_; rintro e w' ⟨rfl, rfl⟩)
                go_round
                case rel => exact ⟨k + 1, by omega, by go_num, _, _, HQ2.out.symm, HN2.out.symm, HA2, rfl, rfl⟩
                case measure => simp [intOf]; omega
            · rw [if_neg hq] at HQ2
              by_cases h0 : xs[k] < 0
              · rw [show (xs[k] == -1) = true by rw [beq_iff_eq]; omega, Bool.or_true] at HN2
                go_wp2_with (go_at_call 31; refine (C1.spec_in _ _ _ _).mono ?_; rintro e w' ⟨rfl, rfl⟩)
                go_round
                case rel => exact ⟨k + 1, by omega, by go_num, _, _, HQ2.out.symm, HN2.out.symm, HA2, rfl, rfl⟩
                case measure => simp [intOf]; omega
              · rw [show (xs[k] == -1) = false by rw [beq_eq_false_iff_ne]; omega, Bool.or_false] at HN2
                go_wp2_with (go_at_call 31; refine (C1.spec_in _ _ _ _).mono ?_; rintro e w' ⟨rfl, rfl⟩)
                go_round
                case rel => exact ⟨k + 1, by omega, by go_num, _, _, HQ2.out.symm, HN2.out.symm, HA2, rfl, rfl⟩
                case measure => simp [intOf]; omega
        · obtain rfl : k = xs.length := by omega
          have hqe := HQ.out
          have hne := HN.out
          rw [List.take_length] at hqe hne
          have hws := ws_yes HL.out fun j hj => HA.out j hj hj
          have hV := (comb_yes HC1.out hws).symm.trans HV.out
          rw [← hqe, ← hne] at hV
          have HVV := Lib.hid hV
          clear hqe hne hws hV HV HQ HN HA
          by_cases h0 : q < 0
          · obtain rfl : c = v := by rw [← HVV.out, if_pos (.inl h0)]
            clear HVV
            go_wp2
            go_ret
            exact ⟨rfl, rfl⟩
          · cases n
            · obtain rfl : q = v := by
                rw [← HVV.out, if_neg]
                rintro (h | ⟨h, -⟩)
                · exact h0 h
                · cases h
              clear HVV
              go_wp2
              go_ret
              exact ⟨rfl, rfl⟩
            · by_cases hqc : q < c
              · obtain rfl : c = v := by rw [← HVV.out, if_pos (.inr ⟨rfl, hqc⟩)]
                clear HVV
                go_wp2
                go_ret
                exact ⟨rfl, rfl⟩
              · obtain rfl : q = v := by
                  rw [← HVV.out, if_neg]
                  rintro (h | ⟨-, h⟩)
                  · exact h0 h
                  · exact hqc h
                clear HVV
                go_wp2
                go_ret
                exact ⟨rfl, rfl⟩
end Go.Proofs.YtgmdfkmmbcpikaaGreat.Comb
