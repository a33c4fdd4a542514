/- ClassesOf: both sides. -/
import Derived.Test.YtihhbgihejjmeaaGreatClsI
import Derived.Test.YtihhbgihejjmeaaGreatPokI
import Derived.Test.YtihhbgihejjmeaaGreatOwnI
namespace Go.Proofs.YtihhbgihejjmeaaGreat.Clss
open Go.RowKit Go.Sort
open Go.Proofs.YtihhbgihejjmeaaGreat.C1
open Go.Proofs.YtihhbgihejjmeaaGreat.C2
open Go.Proofs.YtihhbgihejjmeaaGreat.Smps
open Go.Proofs.YtihhbgihejjmeaaGreat.Mem
open Go.Proofs.YtihhbgihejjmeaaGreat.Ser
open Go.Proofs.YtihhbgihejjmeaaGreat.Ser2
open Go.Proofs.YtihhbgihejjmeaaGreat.Key
open Go.Proofs.YtihhbgihejjmeaaGreat.Sto
open Go.Proofs.YtihhbgihejjmeaaGreat.StoL
open Go.Proofs.YtihhbgihejjmeaaGreat.Lat
open Go.Proofs.YtihhbgihejjmeaaGreat.Pd
open Go.Proofs.YtihhbgihejjmeaaGreat.Pds
open Go.Proofs.YtihhbgihejjmeaaGreat.Ros
open Go.Proofs.YtihhbgihejjmeaaGreat.Pok
open Go.Proofs.YtihhbgihejjmeaaGreat.PokI
open Go.Proofs.YtihhbgihejjmeaaGreat.Cls
open Go.Proofs.YtihhbgihejjmeaaGreat.ClsI
open Go.Proofs.YtihhbgihejjmeaaGreat.OwnI
set_option linter.unusedVariables false

def coreI (xs : List Ser) (m : ByteArray) (now : Int) (r : Rl) (p : Pd) : Int := (coreV p xs m now r : Int)
noncomputable def classesV (ls : List Pd) (xs : List Ser) (m : ByteArray) (now : Int) (r : Rl) : List Int := if (podsV ls && viewV xs now r) = true then ls.map (coreI xs m now r) else []
theorem classes_no {ls : List Pd} {xs : List Ser} {m : ByteArray} {now : Int} {r : Rl} (h : (podsV ls && viewV xs now r) = false) : classesV ls xs m now r = [] := by unfold classesV; rw [if_neg (by rw [h]; exact Bool.false_ne_true)]
theorem classes_yes {ls : List Pd} {xs : List Ser} {m : ByteArray} {now : Int} {r : Rl} (h1 : podsV ls = true) (h2 : viewV xs now r = true) : classesV ls xs m now r = ls.map (coreI xs m now r) := by unfold classesV; rw [if_pos (by rw [h1, h2]; rfl)]
theorem map_next {ls : List Pd} (f : Pd → Int) (k : Nat) (h : k < ls.length) {p : Pd} (hp : ls[k] = p) : (ls.take (k + 1)).map f = (ls.take k).map f ++ [f p] := by
  rw [List.take_succ_eq_append_getElem h, List.map_append, hp]
  rfl
theorem class_view {p : Pd} {xs : List Ser} {m : ByteArray} {now : Int} {r : Rl} (h : okP p = true) : classV p xs m now r = if viewV xs now r = true then coreI xs m now r p else -1 := by
  unfold classV coreI; rw [h]; rfl
theorem bsz {B : Nat} {W0 W : World} (e : Hid (W0.heap.size = B)) (h : Below B W0 W) : B ≤ W.heap.size := by rw [← e.out]; exact h.size
set_option maxHeartbeats 4000000 in
set_option maxRecDepth 20000 in
theorem spec_classes (ls : List Pd) (hwp : ∀ p ∈ ls, p.wf) (ap : Option Addr) (capp : Nat) (ss : List Sv) (a : Option Addr) (cap : Nat) (m : ByteArray) (now : Int) (r : Rl) (w : World) (hp : Pds w ap ls) (hmp : ls.length ≤ 1048576) (hwf : ∀ l ∈ ss, l.s.wf) (hpl : ∀ l ∈ ss, l.s.pts.length ≤ 1048576) (h : Srs w a ss) (hm : ss.length ≤ 1048576) :
    Calls Tryz.prog 7 #[.slice ap ls.length capp, .slice a ss.length cap, .string m, .int .i64 now, rlV r] w fun e w' => (∃ v, e = .returned v ∧ OwnI w' w.heap.size v (classesV ls (ss.map Sv.s) m now r)) ∧ Below w.heap.size w w' := by
  have HCP : Hid (∀ w, Pds w ap ls → Calls Tryz.prog 24 #[.slice ap ls.length capp] w fun e w' => e = .returned (.bool (podsV ls)) ∧ Below w.heap.size w w') := fun w h => spec_podsok ls hwp ap capp w h hmp
  have HCC : Hid (∀ (p : Pd), p ∈ ls → ∀ w, Srs w a ss → Calls Tryz.prog 25 #[podV p, .slice a ss.length cap, .string m, .int .i64 now, rlV r] w fun e w' => e = .returned (.int .i64 (classV p (ss.map Sv.s) m now r)) ∧ Below w.heap.size w w') := fun p hpm w h => spec_class p (hwp p hpm) ss a cap m now r w hwf hpl h hm
  obtain ⟨b, off, ha, hb, hcell⟩ := hp.cells
  have Hc := Lib.hid hcell
  have Ha := Lib.hid ha
  have Hb := Lib.hid hb
  have HP := Lib.hid hp
  have HS := Lib.hid h
  clear hcell ha hb hp h hwf hpl hwp
  obtain ⟨cs, hcs⟩ : ∃ cs, classesV ls (ss.map Sv.s) m now r = cs := ⟨_, rfl⟩
  have HV := Lib.hid hcs
  rw [hcs]
  clear hcs
  unfold rlV at HCC
  unfold rlV
  have HR := Lib.hid (cells_new w #[.int .i64 r.dl, .int .i64 r.fr, .int .i64 r.wi] 34)
  have H0 := Lib.hid (box_below w #[.int .i64 r.dl, .int .i64 r.fr, .int .i64 r.wi] 34)
  obtain ⟨W0, hW0⟩ : ∃ W0, w.alloc (.cells #[.int .i64 r.dl, .int .i64 r.fr, .int .i64 r.wi] 34) = W0 := ⟨_, rfl⟩
  have HE : Hid (W0.heap.size = w.heap.size + 1) := by rw [← hW0]; exact Lib.hid (by simp)
  have hN := OwnI.new W0 (B := w.heap.size + 1) (by rw [HE.out]; exact Nat.le_refl _)
  have hbx := box_below W0 #[] 3
  rw [HE.out] at hN hbx
  rw [hW0] at HR H0
  have HN0 := Lib.hid hN
  have H1 := Lib.hid hbx
  have HP1 := Lib.hid ((HP.out.kept H0.out).kept (by rw [HE.out]; exact hbx))
  have HS1 := Lib.hid (HS.out.kept H0.out)
  have HWE := Lib.hid hW0
  clear hN hbx hW0
  cases c1 : podsV ls
  · rw [c1] at HCP
    have HN : Hid (cs = []) := by rw [← HV.out, classes_no (by rw [c1]; rfl)]; exact Lib.hid rfl
    clear c1
    go_enter Tryz.func7, Tryz.ntmps7
    go_wp2_with fail
    rw [HWE.out]
    refine (HCP.out _ HP1.out).mono ?_
    rintro e w1 ⟨rfl, hb1⟩
    have HB1 := Lib.hid (H0.out.trans ((H1.out.trans (hb1.mono (bsz HE H1.out))).mono (Nat.le_succ _)))
    clear hb1
    go_wp2
    go_ret
    exact ⟨⟨_, rfl, by rw [HN.out]; exact OwnI.nil _ _⟩, HB1.out⟩
  · rw [c1] at HCP
    have HOK := Lib.hid ((podsV_iff ls).1 c1).2.1
    have hl12 := ((podsV_iff ls).1 c1).1
    have HK1 := Lib.hid c1
    clear c1
    go_enter Tryz.func7, Tryz.ntmps7
    go_wp2_with fail
    rw [HWE.out]
    refine (HCP.out _ HP1.out).mono ?_
    rintro e w1 ⟨rfl, hb1⟩
    have HB1 := Lib.hid (H1.out.trans (hb1.mono (bsz HE H1.out)))
    have HN2 := Lib.hid (HN0.out.kept hb1)
    clear hb1 HN0 HP1 H1
    go_wp2
    obtain ⟨vv, hvv⟩ : ∃ vv, viewV (ss.map Sv.s) now r = vv := ⟨_, rfl⟩
    have HVV := Lib.hid hvv
    clear hvv
    obtain ⟨i0, hi, hz0, hz1, hz2⟩ := info_int
    go_loopw [11, 12] (fun v i wr => ∃ k : Nat, k ≤ ls.length ∧ i = .int .i64 k ∧ (k = 0 ∨ vv = true) ∧ Hid (OwnI wr (w.heap.size + 1) v ((ls.take k).map (coreI (ss.map Sv.s) m now r))) ∧ Hid (Below (w.heap.size + 1) W0 wr)) (fun _ i _ => ls.length - (intOf i).toNat)
    case atStart => exact ⟨0, Nat.zero_le _, rfl, .inl rfl, HN2, HB1.out⟩
    case round =>
      obtain ⟨k, hk, rfl, hkv, HO, HB⟩ := hrel
      by_cases hlt : k < ls.length
      · obtain ⟨p, hp⟩ : ∃ p, ls[k] = p := ⟨_, rfl⟩
        have hpm : p ∈ ls := by rw [← hp]; exact List.getElem_mem hlt
        have hq := (Hc.out k hlt).kept H0.out (Hb.out (by omega))
        have hbl := Hb.out (by omega)
        obtain rfl := Ha.out (by omega)
        rw [hp] at hq
        have HC1 := Lib.hid (HCC.out p hpm)
        have HMN := Lib.hid (map_next (coreI (ss.map Sv.s) m now r) k hlt hp)
        obtain ⟨ci, hci⟩ : ∃ ci, classV p (ss.map Sv.s) m now r = ci := ⟨_, rfl⟩
        have HCL : Hid (ci = if vv = true then coreI (ss.map Sv.s) m now r p else -1) := by rw [← HVV.out, ← hci]; exact Lib.hid (class_view (HOK.out p hpm))
        unfold podV at HC1
        rw [hci] at HC1
        clear hp hpm hci
        have HT : Hid (∀ W, Hid (Below (w.heap.size + 1) W0 W) → (W.cell? ⟨b, off + k * 4, none⟩ = some (.string p.nm) ∧ W.cell? ⟨b, off + k * 4 + 1, none⟩ = some (.int .i64 p.born) ∧ W.cell? ⟨b, off + k * 4 + 2, none⟩ = some (.int .i64 p.ph) ∧ W.cell? ⟨b, off + k * 4 + 3, none⟩ = some (.bool p.rdy) ∧ W.cell? ⟨w.heap.size, 0, none⟩ = some (.int .i64 r.dl) ∧ W.cell? ⟨w.heap.size, 1, none⟩ = some (.int .i64 r.fr) ∧ W.cell? ⟨w.heap.size, 2, none⟩ = some (.int .i64 r.wi))) := fun W hW => by
          obtain ⟨p0, p1, p2, p3⟩ := hq.kept hW.out (by omega)
          obtain ⟨r0, r1, r2⟩ := cells3 (HR.out.kept (by rw [HE.out]; exact hW.out))
          exact ⟨p0, p1, p2, p3, r0, r1, r2⟩
        have HBD : Hid (Below (w.heap.size + 1) W0 wr.drew) := HB.out.drew
        have HBS : Hid (Srs wr.drew a ss) := HS1.out.kept (by rw [HE.out]; exact HBD.out)
        have HOD : Hid (OwnI wr.drew (w.heap.size + 1) _ ((ls.take k).map (coreI (ss.map Sv.s) m now r))) := HO
        clear hq
        have hlk : ((ls.take k).map (coreI (ss.map Sv.s) m now r)).length ≤ 12 := by rw [List.length_map, List.length_take]; omega
        have HLK := Lib.hid hlk
        clear hlk HO
        obtain ⟨q0, q1, q2, q3, -, -, -⟩ := HT.out wr HB
        clear q0 q1 q2 q3
        go_wp2_with fail
        go_region_held3 (fun w' => w'.cell? ⟨b, off + k * 4, none⟩ = some (.string p.nm) ∧ w'.cell? ⟨b, off + k * 4 + 1, none⟩ = some (.int .i64 p.born) ∧ w'.cell? ⟨b, off + k * 4 + 2, none⟩ = some (.int .i64 p.ph) ∧ w'.cell? ⟨b, off + k * 4 + 3, none⟩ = some (.bool p.rdy) ∧ w'.cell? ⟨w.heap.size, 0, none⟩ = some (.int .i64 r.dl) ∧ w'.cell? ⟨w.heap.size, 1, none⟩ = some (.int .i64 r.fr) ∧ w'.cell? ⟨w.heap.size, 2, none⟩ = some (.int .i64 r.wi))
          (first | exact HT.out _ HV1 | exact HT.out _ HBD)
          (first
            | (go_at_call 25; refine (HC1.out _ HBS.out).mono ?_; rintro e v1 ⟨rfl, hb⟩; have HO1 := Lib.hid (HOD.out.kept hb); have HV1 := Lib.hid (HBD.out.trans (hb.mono (bsz HE HBD.out))); clear hb))
        clear HC1 HBD HBS HOD
        cases vv
        · obtain rfl : k = 0 := by rcases hkv with h | h; exact h; cases h
          have HN : Hid (cs = []) := by rw [← HV.out, classes_no (by rw [HVV.out, HK1.out]; rfl)]; exact Lib.hid rfl
          have hc0 : ci = -1 := by rw [HCL.out]; rfl
          subst hc0
          have HVB := Lib.hid (H0.out.trans (HV1.out.mono (Nat.le_succ _)))
          go_wp2
          go_ret
          exact ⟨⟨_, rfl, by rw [HN.out]; exact OwnI.nil _ _⟩, HVB.out⟩
        · obtain ⟨q, hq, hq0⟩ : ∃ q : Nat, coreI (ss.map Sv.s) m now r p = (q : Int) ∧ q ≤ 3 := ⟨_, rfl, core_lt _ _ _ _ _⟩
          obtain ⟨ys, hys⟩ : ∃ ys, (ls.take k).map (coreI (ss.map Sv.s) m now r) = ys := ⟨_, rfl⟩
          have hc0 : ci = (q : Int) := by rw [HCL.out, ← hq]; rfl
          rw [hys, hq] at HMN
          rw [hys] at HO1 HLK
          subst hc0
          clear hys hq HCL
          have hyl := HLK.out
          have HSX := Lib.hid (HV1.out.alloc (bsz HE HV1.out) (.cells #[.int .i64 (q : Int)] 3))
          have HSE := Lib.hid (bsz HE HSX.out)
          go_wp2_with (at_builtin; refine wpList_append_own _ rfl _ _ 28 rfl (w.heap.size + 1) 3 i0 (.int .i64 0) 1 8 Tryz.underlying28 hi hz0 hz1 hz2 rfl (by decide) _ _ _ rfl (World.ownsRow.alloc HO1.out _) ⟨v1.heap.size, 0, none⟩ 1 1 [.int .i64 (q : Int)] rfl rfl (one_cell _ _ _) (by intro u hu; simp at hu; subst hu; rfl) (by unfold maxLen; omega) (by omega) HSE.out ?_)
          intro v' w8 hown' hgrow _
          have HO8 := Lib.hid (OwnI.snoc hown')
          have HB8 := Lib.hid (HSX.out.grown hgrow HSE.out (fun g hg => (World.ownsRow.lt HO1.out g hg).1))
          clear hown' hgrow
          go_wp2
          go_roundw
          case rel => exact ⟨k + 1, by omega, by go_num, by simp, by rw [HMN.out]; exact HO8, HB8⟩
          case measure => simp [intOf]; omega
      · obtain rfl : k = ls.length := by omega
        have HF : Hid (cs = (ls.take ls.length).map (coreI (ss.map Sv.s) m now r)) := by
          rw [← HV.out, List.take_of_length_le (Nat.le_refl _)]
          rcases hkv with h | h
          · have e : ls = [] := List.length_eq_zero_iff.1 h
            subst e
            cases hb : viewV (ss.map Sv.s) now r
            · rw [classes_no (by rw [hb, Bool.and_false])]; exact Lib.hid rfl
            · rw [classes_yes HK1.out hb]; exact Lib.hid rfl
          · rw [classes_yes HK1.out (HVV.out.trans h)]; exact Lib.hid rfl
        have HBF := Lib.hid (H0.out.trans (HB.out.mono (Nat.le_succ _)))
        go_wp2
        go_ret
        exact ⟨⟨_, rfl, by rw [HF.out]; exact HO.out.mono (Nat.le_succ _)⟩, HBF.out⟩
set_option maxHeartbeats 4000000 in
set_option maxRecDepth 20000 in
theorem impl_classes (ls : List Pd) (hwp : ∀ p ∈ ls, p.wf) (ap : Option Addr) (capp : Nat) (ss : List Sv) (a : Option Addr) (cap : Nat) (m : ByteArray) (now : Int) (r : Rl) (w : World) (hp : Pds w ap ls) (hmp : ls.length ≤ 1048576) (hwf : ∀ l ∈ ss, l.s.wf) (hpl : ∀ l ∈ ss, l.s.pts.length ≤ 1048576) (h : Srs w a ss) (hm : ss.length ≤ 1048576) :
    Calls Tryz.prog 11 #[.slice ap ls.length capp, .slice a ss.length cap, .string m, .int .i64 now, rlV r] w fun e w' => (∃ v, e = .returned v ∧ OwnI w' w.heap.size v (classesV ls (ss.map Sv.s) m now r)) ∧ Below w.heap.size w w' := by
  have HCP : Hid (∀ w, Pds w ap ls → Calls Tryz.prog 28 #[.slice ap ls.length capp] w fun e w' => e = .returned (.bool (podsV ls)) ∧ Below w.heap.size w w') := fun w h => impl_podsok ls hwp ap capp w h hmp
  have HCV : Hid (∀ w, Srs w a ss → Calls Tryz.prog 29 #[.agg #[.slice a ss.length cap, .string m, .int .i64 now, .int .i64 r.dl, .int .i64 r.fr, .int .i64 r.wi]] w fun e w' => e = .returned (.bool (viewV (ss.map Sv.s) now r)) ∧ Below w.heap.size w w') := fun w h => view_ok ss a cap m now r w hwf hpl h hm
  have HCC : Hid (viewV (ss.map Sv.s) now r = true → ∀ (p : Pd), okP p = true → ∀ w, Srs w a ss → Calls Tryz.prog 30 #[.agg #[.slice a ss.length cap, .string m, .int .i64 now, .int .i64 r.dl, .int .i64 r.fr, .int .i64 r.wi], podV p] w fun e w' => e = .returned (classI (coreV p (ss.map Sv.s) m now r) (lastV (ss.map Sv.s) p.nm m).val) ∧ Below w.heap.size w w') := fun h2 p h1 w h => by
    unfold viewV at h2
    simp only [Bool.and_eq_true] at h2
    exact class_of p ss a cap m now r w hwf hpl h hm h1 h2.1.1 h2.1.2
  obtain ⟨b, off, ha, hb, hcell⟩ := hp.cells
  have Hc := Lib.hid hcell
  have Ha := Lib.hid ha
  have Hb := Lib.hid hb
  have HP := Lib.hid hp
  have HS := Lib.hid h
  clear hcell ha hb hp h hwf hpl hwp
  obtain ⟨cs, hcs⟩ : ∃ cs, classesV ls (ss.map Sv.s) m now r = cs := ⟨_, rfl⟩
  have HV := Lib.hid hcs
  rw [hcs]
  clear hcs
  unfold rlV
  have HR := Lib.hid (box2_cells w #[.int .i64 r.dl, .int .i64 r.fr, .int .i64 r.wi] #[.slice a ss.length cap, .string m, .int .i64 now, .int .i64 r.dl, .int .i64 r.fr, .int .i64 r.wi] 34 64).2
  have H0 := Lib.hid (box2_below w (.cells #[.int .i64 r.dl, .int .i64 r.fr, .int .i64 r.wi] 34) (.cells #[.slice a ss.length cap, .string m, .int .i64 now, .int .i64 r.dl, .int .i64 r.fr, .int .i64 r.wi] 64))
  obtain ⟨W0, hW0⟩ : ∃ W0, (w.alloc (.cells #[.int .i64 r.dl, .int .i64 r.fr, .int .i64 r.wi] 34)).alloc (.cells #[.slice a ss.length cap, .string m, .int .i64 now, .int .i64 r.dl, .int .i64 r.fr, .int .i64 r.wi] 64) = W0 := ⟨_, rfl⟩
  have HE : Hid (W0.heap.size = w.heap.size + 2) := by rw [← hW0]; exact Lib.hid (by simp)
  rw [hW0] at HR H0
  have HP1 := Lib.hid (HP.out.kept H0.out)
  have HS1 := Lib.hid (HS.out.kept H0.out)
  have HWE := Lib.hid hW0
  clear hW0
  cases c1 : podsV ls
  · rw [c1] at HCP
    have HN : Hid (cs = []) := by rw [← HV.out, classes_no (by rw [c1]; rfl)]; exact Lib.hid rfl
    clear c1
    go_enter Tryz.func11, Tryz.ntmps11
    go_wp2_with fail
    rw [HWE.out]
    refine (HCP.out _ HP1.out).mono ?_
    rintro e w1 ⟨rfl, hb1⟩
    have HB1 := Lib.hid (H0.out.trans (hb1.mono H0.out.size))
    clear hb1
    go_wp2
    go_ret
    exact ⟨⟨_, rfl, by rw [HN.out]; exact OwnI.nil _ _⟩, HB1.out⟩
  · rw [c1] at HCP
    have HOK := Lib.hid ((podsV_iff ls).1 c1).2.1
    have hl12 := ((podsV_iff ls).1 c1).1
    have HK1 := Lib.hid c1
    clear c1
    go_enter Tryz.func11, Tryz.ntmps11
    go_wp2_with fail
    rw [HWE.out]
    refine (HCP.out _ HP1.out).mono ?_
    rintro e w1 ⟨rfl, hb1⟩
    rw [HE.out] at hb1
    have HB1 := Lib.hid hb1
    have HR1 := Lib.hid (HR.out.kept (by rw [HE.out]; exact hb1))
    have HS2 := Lib.hid (HS1.out.kept (by rw [HE.out]; exact hb1))
    clear hb1
    obtain ⟨v0, v1, v2, v3, v4, v5⟩ := cells6 HR1.out
    go_wp2_with fail
    refine (HCV.out _ HS2.out).mono ?_
    rintro e w2 ⟨rfl, hb2⟩
    have HB2 := Lib.hid (HB1.out.trans (hb2.mono (bsz HE HB1.out)))
    clear hb2 v0 v1 v2 v3 v4 v5 HR1 HS2
    cases c2 : viewV (ss.map Sv.s) now r
    · have HN : Hid (cs = []) := by rw [← HV.out, classes_no (by rw [c2, Bool.and_false])]; exact Lib.hid rfl
      have HBF := Lib.hid (H0.out.trans (HB2.out.mono (by omega)))
      go_wp2
      go_ret
      exact ⟨⟨_, rfl, by rw [HN.out]; exact OwnI.nil _ _⟩, HBF.out⟩
    · have HN : Hid (cs = ls.map (coreI (ss.map Sv.s) m now r)) := by rw [← HV.out, classes_yes HK1.out c2]; exact Lib.hid rfl
      have HD := Lib.hid (HCC.out c2)
      clear c2 HCC HCV HCP HV
      obtain ⟨i0, hi, hz0, hz1, hz2⟩ := info_int
      have HSB := Lib.hid (bsz HE HB2.out)
      go_wp2_with (first
        | (at_make; refine wpList_make_own _ rfl _ _ 28 rfl (w.heap.size + 2) 3 i0 (.int .i64 0) 1 Tryz.underlying28 hi hz0 hz1 _ _ _ ls.length rfl rfl rfl (by rw [hz2]; omega) (by unfold maxLen; omega) HSB.out ?_; intro w3 hrow3 hg3; have HO3 := Lib.hid hrow3; have HB3 := Lib.hid (HB2.out.grown hg3 HSB.out (fun j hj => by cases hj)); clear hrow3 hg3)
        | go_in)
      go_loopw [12, 33] (fun v i wr => ∃ k : Nat, k ≤ ls.length ∧ i = .int .i64 k ∧ Hid (OwnI wr (w.heap.size + 2) v ((ls.take k).map (coreI (ss.map Sv.s) m now r))) ∧ Hid (Below (w.heap.size + 2) W0 wr)) (fun _ i _ => ls.length - (intOf i).toNat)
      case atStart => exact ⟨0, Nat.zero_le _, rfl, HO3, HB3⟩
      case round =>
        obtain ⟨k, hk, rfl, HO, HB⟩ := hrel
        by_cases hlt : k < ls.length
        · obtain ⟨p, hp⟩ : ∃ p, ls[k] = p := ⟨_, rfl⟩
          have hpm : p ∈ ls := by rw [← hp]; exact List.getElem_mem hlt
          have hq := ((Hc.out k hlt).kept H0.out (Hb.out (by omega))).kept HB.out (by have := Hb.out (by omega); omega)
          obtain rfl := Ha.out (by omega)
          rw [hp] at hq
          obtain ⟨q0, q1, q2, q3⟩ := hq
          have HC1 := Lib.hid (HD.out p (HOK.out p hpm))
          have HMN := Lib.hid (map_next (coreI (ss.map Sv.s) m now r) k hlt hp)
          have hlt3 := core_lt p (ss.map Sv.s) m now r
          unfold podV at HC1
          obtain ⟨c, hc⟩ : ∃ c, coreV p (ss.map Sv.s) m now r = c := ⟨_, rfl⟩
          obtain ⟨u, hu⟩ : ∃ u, (lastV (ss.map Sv.s) p.nm m).val = u := ⟨_, rfl⟩
          have HCI : Hid (coreI (ss.map Sv.s) m now r p = (c : Int)) := by unfold coreI; rw [hc]; exact Lib.hid rfl
          rw [hc, hu] at HC1
          rw [hc] at hlt3
          obtain ⟨ys, hys⟩ : ∃ ys, (ls.take k).map (coreI (ss.map Sv.s) m now r) = ys := ⟨_, rfl⟩
          have hyl : ys.length ≤ 12 := by rw [← hys, List.length_map, List.length_take]; omega
          rw [hys, HCI.out] at HMN
          rw [hys] at HO
          clear hp hpm hc hu hys HCI
          have HBX := Lib.hid (HB.out.alloc (bsz HE HB.out) (.cells #[.string p.nm, .int .i64 p.born, .int .i64 p.ph, .bool p.rdy] 57))
          have HOX := Lib.hid (OwnI.kept HO.out (box_below wr #[.string p.nm, .int .i64 p.born, .int .i64 p.ph, .bool p.rdy] 57))
          have HSX1 := Lib.hid (HS1.out.kept (by rw [HE.out]; exact HBX.out))
          obtain ⟨c0, c1, c2, c3⟩ := cells4 (cells_new wr #[.string p.nm, .int .i64 p.born, .int .i64 p.ph, .bool p.rdy] 57)
          obtain ⟨v0, v1, v2, v3, v4, v5⟩ := cells6 (HR.out.kept (by rw [HE.out]; exact HBX.out))
          have HCX := Lib.hid (HC1.out _ HSX1.out)
          clear HC1
          go_wp2_with fail
          clear q0 q1 q2 q3 v0 v1 v2 v3 v4 v5
          refine HCX.out.mono ?_
          rintro e v1 ⟨rfl, hb⟩
          have HO1 := Lib.hid (HOX.out.kept hb)
          have HV1 := Lib.hid (HBX.out.trans (hb.mono (bsz HE HBX.out)))
          clear hb HCX HOX HBX HSX1 HO HB
          have e3 : c = 3 ∨ c = 2 ∨ c = 1 ∨ c = 0 := by omega
          clear hlt3
          have m1 := meth_ign u
          have m2 := meth_mis u
          have m3 := meth_unr u
          have m4 := meth_rdy u
          rcases e3 with rfl | rfl | rfl | rfl
          · unfold classI
            go_wp2_with (first
              | (go_at_call 152; refine (num_ign u _).mono ?_; rintro e v2 ⟨rfl, hb⟩; have HO2 := Lib.hid (HO1.out.kept hb); have HV2 := Lib.hid (HV1.out.trans (hb.mono (bsz HE HV1.out))); have HSX := Lib.hid (HV2.out.alloc (bsz HE HV2.out) (.cells #[.int .i64 3] 3)); have HSE := Lib.hid (bsz HE HSX.out); clear hb)
              | (at_builtin; refine wpList_append_own _ rfl _ _ 28 rfl (w.heap.size + 2) 3 i0 (.int .i64 0) 1 8 Tryz.underlying28 hi hz0 hz1 hz2 rfl (by decide) _ _ _ rfl (World.ownsRow.alloc HO2.out _) ⟨v2.heap.size, 0, none⟩ 1 1 [.int .i64 3] rfl rfl (one_cell _ _ _) (by intro u hu; simp at hu; subst hu; rfl) (by unfold maxLen; omega) (by omega) HSE.out ?_; intro v' w8 hown' hgrow _; have HO8 := Lib.hid (OwnI.snoc hown'); have HB8 := Lib.hid (HSX.out.grown hgrow HSE.out (fun g hg => (World.ownsRow.lt HO2.out g hg).1)); clear hown' hgrow)
              | go_in)
            clear c0 c1 c2 c3
            go_roundw
            case rel => exact ⟨k + 1, by omega, by go_num, by rw [HMN.out]; exact HO8, HB8⟩
            case measure => simp [intOf]; omega
          · unfold classI
            go_wp2_with (first
              | (go_at_call 153; refine (num_mis u _).mono ?_; rintro e v2 ⟨rfl, hb⟩; have HO2 := Lib.hid (HO1.out.kept hb); have HV2 := Lib.hid (HV1.out.trans (hb.mono (bsz HE HV1.out))); have HSX := Lib.hid (HV2.out.alloc (bsz HE HV2.out) (.cells #[.int .i64 2] 3)); have HSE := Lib.hid (bsz HE HSX.out); clear hb)
              | (at_builtin; refine wpList_append_own _ rfl _ _ 28 rfl (w.heap.size + 2) 3 i0 (.int .i64 0) 1 8 Tryz.underlying28 hi hz0 hz1 hz2 rfl (by decide) _ _ _ rfl (World.ownsRow.alloc HO2.out _) ⟨v2.heap.size, 0, none⟩ 1 1 [.int .i64 2] rfl rfl (one_cell _ _ _) (by intro u hu; simp at hu; subst hu; rfl) (by unfold maxLen; omega) (by omega) HSE.out ?_; intro v' w8 hown' hgrow _; have HO8 := Lib.hid (OwnI.snoc hown'); have HB8 := Lib.hid (HSX.out.grown hgrow HSE.out (fun g hg => (World.ownsRow.lt HO2.out g hg).1)); clear hown' hgrow)
              | go_in)
            clear c0 c1 c2 c3
            go_roundw
            case rel => exact ⟨k + 1, by omega, by go_num, by rw [HMN.out]; exact HO8, HB8⟩
            case measure => simp [intOf]; omega
          · unfold classI
            go_wp2_with (first
              | (go_at_call 154; refine (num_unr u _).mono ?_; rintro e v2 ⟨rfl, hb⟩; have HO2 := Lib.hid (HO1.out.kept hb); have HV2 := Lib.hid (HV1.out.trans (hb.mono (bsz HE HV1.out))); have HSX := Lib.hid (HV2.out.alloc (bsz HE HV2.out) (.cells #[.int .i64 1] 3)); have HSE := Lib.hid (bsz HE HSX.out); clear hb)
              | (at_builtin; refine wpList_append_own _ rfl _ _ 28 rfl (w.heap.size + 2) 3 i0 (.int .i64 0) 1 8 Tryz.underlying28 hi hz0 hz1 hz2 rfl (by decide) _ _ _ rfl (World.ownsRow.alloc HO2.out _) ⟨v2.heap.size, 0, none⟩ 1 1 [.int .i64 1] rfl rfl (one_cell _ _ _) (by intro u hu; simp at hu; subst hu; rfl) (by unfold maxLen; omega) (by omega) HSE.out ?_; intro v' w8 hown' hgrow _; have HO8 := Lib.hid (OwnI.snoc hown'); have HB8 := Lib.hid (HSX.out.grown hgrow HSE.out (fun g hg => (World.ownsRow.lt HO2.out g hg).1)); clear hown' hgrow)
              | go_in)
            clear c0 c1 c2 c3
            go_roundw
            case rel => exact ⟨k + 1, by omega, by go_num, by rw [HMN.out]; exact HO8, HB8⟩
            case measure => simp [intOf]; omega
          · unfold classI
            go_wp2_with (first
              | (go_at_call 155; refine (num_rdy u _).mono ?_; rintro e v2 ⟨rfl, hb⟩; have HO2 := Lib.hid (HO1.out.kept hb); have HV2 := Lib.hid (HV1.out.trans (hb.mono (bsz HE HV1.out))); have HSX := Lib.hid (HV2.out.alloc (bsz HE HV2.out) (.cells #[.int .i64 0] 3)); have HSE := Lib.hid (bsz HE HSX.out); clear hb)
              | (at_builtin; refine wpList_append_own _ rfl _ _ 28 rfl (w.heap.size + 2) 3 i0 (.int .i64 0) 1 8 Tryz.underlying28 hi hz0 hz1 hz2 rfl (by decide) _ _ _ rfl (World.ownsRow.alloc HO2.out _) ⟨v2.heap.size, 0, none⟩ 1 1 [.int .i64 0] rfl rfl (one_cell _ _ _) (by intro u hu; simp at hu; subst hu; rfl) (by unfold maxLen; omega) (by omega) HSE.out ?_; intro v' w8 hown' hgrow _; have HO8 := Lib.hid (OwnI.snoc hown'); have HB8 := Lib.hid (HSX.out.grown hgrow HSE.out (fun g hg => (World.ownsRow.lt HO2.out g hg).1)); clear hown' hgrow)
              | go_in)
            clear c0 c1 c2 c3
            go_roundw
            case rel => exact ⟨k + 1, by omega, by go_num, by rw [HMN.out]; exact HO8, HB8⟩
            case measure => simp [intOf]; omega
        · obtain rfl : k = ls.length := by omega
          have HF : Hid (cs = (ls.take ls.length).map (coreI (ss.map Sv.s) m now r)) := by
            rw [HN.out, List.take_of_length_le (Nat.le_refl _)]
            exact Lib.hid rfl
          have HBF := Lib.hid (H0.out.trans (HB.out.mono (by omega)))
          go_wp2
          go_ret
          exact ⟨⟨_, rfl, by rw [HF.out]; exact HO.out.mono (by omega)⟩, HBF.out⟩
/-! ### At a copy of the store. -/
theorem spec_classes2 (ls : List Pd) (hwp : ∀ p ∈ ls, p.wf) (ap : Option Addr) (capp : Nat) (ss ms : List Sv) (hs : ms.map Sv.s = ss.map Sv.s) (a : Option Addr) (cap : Nat) (m : ByteArray) (now : Int) (r : Rl) (w : World) (hp : Pds w ap ls) (hmp : ls.length ≤ 1048576) (hwf : ∀ l ∈ ss, l.s.wf) (hpl : ∀ l ∈ ss, l.s.pts.length ≤ 1048576) (h : Srs w a ms) (hm : ss.length ≤ 1048576) {cs : List Int} (hcs : classesV ls (ss.map Sv.s) m now r = cs) :
    Calls Tryz.prog 7 #[.slice ap ls.length capp, .slice a ss.length cap, .string m, .int .i64 now, rlV r] w fun e w' => (∃ a cap, e = .returned (.slice a cs.length cap) ∧ OwnI w' w.heap.size (.slice a cs.length cap) cs) ∧ Below w.heap.size w w' := by
  have hl := map_len hs
  have := spec_classes ls hwp ap capp ms a cap m now r w hp hmp (map_all hs hwf) (map_all (P := fun s => s.pts.length ≤ 1048576) hs hpl) h (by omega)
  rw [hl, hs, hcs] at this
  refine this.mono fun e w' ⟨⟨v, he, ho⟩, hb⟩ => ⟨?_, hb⟩
  obtain ⟨a, cap, hv, ho2, -⟩ := ho.form
  exact ⟨a, cap, by rw [he, hv], ho2⟩
theorem impl_classes2 (ls : List Pd) (hwp : ∀ p ∈ ls, p.wf) (ap : Option Addr) (capp : Nat) (ss ms : List Sv) (hs : ms.map Sv.s = ss.map Sv.s) (a : Option Addr) (cap : Nat) (m : ByteArray) (now : Int) (r : Rl) (w : World) (hp : Pds w ap ls) (hmp : ls.length ≤ 1048576) (hwf : ∀ l ∈ ss, l.s.wf) (hpl : ∀ l ∈ ss, l.s.pts.length ≤ 1048576) (h : Srs w a ms) (hm : ss.length ≤ 1048576) {cs : List Int} (hcs : classesV ls (ss.map Sv.s) m now r = cs) :
    Calls Tryz.prog 11 #[.slice ap ls.length capp, .slice a ss.length cap, .string m, .int .i64 now, rlV r] w fun e w' => (∃ a cap, e = .returned (.slice a cs.length cap) ∧ OwnI w' w.heap.size (.slice a cs.length cap) cs) ∧ Below w.heap.size w w' := by
  have hl := map_len hs
  have := impl_classes ls hwp ap capp ms a cap m now r w hp hmp (map_all hs hwf) (map_all (P := fun s => s.pts.length ≤ 1048576) hs hpl) h (by omega)
  rw [hl, hs, hcs] at this
  refine this.mono fun e w' ⟨⟨v, he, ho⟩, hb⟩ => ⟨?_, hb⟩
  obtain ⟨a, cap, hv, ho2, -⟩ := ho.form
  exact ⟨a, cap, by rw [he, hv], ho2⟩
end Go.Proofs.YtihhbgihejjmeaaGreat.Clss
