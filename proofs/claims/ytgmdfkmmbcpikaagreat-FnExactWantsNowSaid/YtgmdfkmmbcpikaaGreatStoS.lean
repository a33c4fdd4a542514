/- The model's StoreOk. -/
import Derived.Test.YtgmdfkmmbcpikaaGreatSto
namespace Go.Proofs.YtgmdfkmmbcpikaaGreat.StoS
open Go.RowKit Go.Sort Go.BigFrame
open Go.Proofs.YtgmdfkmmbcpikaaGreat.C1
open Go.Proofs.YtgmdfkmmbcpikaaGreat.C2
open Go.Proofs.YtgmdfkmmbcpikaaGreat.Smps
open Go.Proofs.YtgmdfkmmbcpikaaGreat.Mem
open Go.Proofs.YtgmdfkmmbcpikaaGreat.Ser
open Go.Proofs.YtgmdfkmmbcpikaaGreat.Ser2
open Go.Proofs.YtgmdfkmmbcpikaaGreat.Key
open Go.Proofs.YtgmdfkmmbcpikaaGreat.Sto
set_option linter.unusedVariables false

theorem new_box {w : World} {A : Array Value} {t : TypeId} : CellsW (w.alloc (.cells A t)) w.heap.size A.toList := cells_new w A t
/-- The points before the k-th are in order, and valid. -/
def PtAt (ps : List Pt) (k : Nat) (h : k < ps.length) : Prop := ptOk ps[k] = true ∧ ∀ h0 : 0 < k, ps[k - 1].tick < ps[k].tick
theorem pts_iff (ps : List Pt) : PtsOk ps ↔ (1 ≤ ps.length ∧ ps.length ≤ 12) ∧ ∀ (k : Nat) (h : k < ps.length), PtAt ps k h := by
  constructor
  · intro h
    refine ⟨⟨h.one, h.most⟩, fun k hk => ⟨h.ok _ (List.getElem_mem hk), fun h0 => ?_⟩⟩
    have := h.asc (k - 1) (by omega)
    have e : k - 1 + 1 = k := by omega
    simpa only [e] using this
  · intro ⟨⟨h1, h2⟩, h3⟩
    refine ⟨h1, h2, fun p hp => ?_, fun i hi => ?_⟩
    · obtain ⟨k, hk, rfl⟩ := List.mem_iff_getElem.1 hp
      exact (h3 k hk).1
    · have := (h3 (i + 1) hi).2 (by omega)
      simpa using this
set_option maxHeartbeats 4000000 in
set_option maxRecDepth 20000 in
theorem spec_store (ls : List Sv) (a : Option Addr) (cap : Nat) (w : World) (hwf : ∀ l ∈ ls, l.s.wf) (h : Srs w a ls) (hm : ls.length ≤ 1048576) :
    Calls Tryz.prog 28 #[.slice a ls.length cap] w fun e w' => e = .returned (.bool (storeV (ls.map Sv.s))) ∧ Below w.heap.size w w' := by
  obtain ⟨b, off, ha, hb, hcell⟩ := h.cells
  have mixed : Tryz.prog.follows .mixedOrders = true := by kernel_rfl
  by_cases hbig : 24 < ls.length
  · have HN := Lib.hid (store_no (ls := ls) (fun h => by omega))
    go_enter Tryz.func28, Tryz.ntmps28
    go_wp2
    go_ret
    exact ⟨ret1B HN.out.symm, Below.refl _ _⟩
  · have Hc := Lib.hid hcell
    have Ha := Lib.hid ha
    have Hw := Lib.hid hwf
    have Hb := Lib.hid hb
    clear hcell ha hwf hb h
    go_enter Tryz.func28, Tryz.ntmps28
    go_wp2
    go_loopw [3] (fun i wr => ∃ k : Nat, k ≤ ls.length ∧ i = .int .i64 k ∧ Hid (∀ (j : Nat) (hj : j < ls.length), j < k → OkAt ls j hj) ∧ Hid (Below w.heap.size w wr)) (fun i _ => ls.length - (intOf i).toNat)
    case atStart => exact ⟨0, Nat.zero_le _, rfl, fun j hj h => absurd h (by omega), Below.refl _ _⟩
    case round =>
      obtain ⟨k, hk, rfl, HS, HB⟩ := hrel
      by_cases hlt : k < ls.length
      · obtain rfl := Ha.out (by omega)
        obtain ⟨l, hl⟩ : ∃ l, ls[k] = l := ⟨_, rfl⟩
        have HNO : Hid (¬ (SerOk l.s ∧ ∀ h0 : 0 < k, Ahead ls[k - 1].s l.s) → storeV (ls.map Sv.s) = false) := fun hn => store_no fun h => hn (by have := h.2 k hlt; unfold OkAt at this; rw [hl] at this; exact this)
        have HOK : Hid ((SerOk l.s ∧ ∀ h0 : 0 < k, Ahead ls[k - 1].s l.s) → OkAt ls k hlt) := fun h => by unfold OkAt; rw [hl]; exact h
        obtain ⟨⟨q0, q1, q2⟩, hpt⟩ := Hc.out k hlt
        have hq := (Hc.out k hlt).1.kept HB.out (Hb.out (by omega))
        have hwl := Hw.out ls[k] (List.getElem_mem hlt)
        rw [hl] at hwl hpt hq
        clear q0 q1 q2
        obtain ⟨q0, q1, q2⟩ := hq
        have HPt := Lib.hid (hpt.kept HB.out)
        obtain ⟨wp, wm, wn, -⟩ := hwl
        unfold maxLen at wp wm wn
        have HL := Lib.hid hl
        clear hl hpt
        have HB0 : Hid (Below w.heap.size w (wr.alloc (.cells #[.string l.s.pod, .string l.s.met, .slice l.a l.s.pts.length l.cap] 119))) := HB.out.alloc HB.out.size _
        have HP0 := Lib.hid (HPt.out.kept (box_below wr #[.string l.s.pod, .string l.s.met, .slice l.a l.s.pts.length l.cap] 119))
        have HC0 := Lib.hid (cells_new wr #[.string l.s.pod, .string l.s.met, .slice l.a l.s.pts.length l.cap] 119)
        go_wp2_with fail
        obtain ⟨W, hW⟩ : ∃ W, wr.alloc (.cells #[.string l.s.pod, .string l.s.met, .slice l.a l.s.pts.length l.cap] 119) = W := ⟨_, rfl⟩
        rw [hW] at HB0 HP0 HC0 ⊢
        have HWr : Hid (wr.heap.size < W.heap.size) := by rw [← hW]; exact Lib.hid (by simp)
        have HWB : Hid (Below wr.heap.size wr W) := by rw [← hW]; exact Lib.hid (box_below _ _ _)
        clear hW q0 q1 q2 HPt
        have V0 := later_cell HWr.out (HC0.out.2 0 (by simp)).1
        have V1 := later_cell HWr.out (HC0.out.2 1 (by simp)).1
        have V2 := later_cell HWr.out (HC0.out.2 2 (by simp)).1
        simp only [List.getElem_cons_zero, List.getElem_cons_succ] at V0 V1 V2
        cases c1 : nameV l.s.pod.data.toList
        · have HA := Lib.hid (name_later (W := W) l.s.pod (by omega) c1)
          have HC1 := Lib.hid c1
          clear c1
          refine region_later mixed (by kernel_rfl) ?_
          repeat (go_big_quiet_step (first | (go_at_call_of 66 (Value.string l.s.pod); exact later_call (HA.out _)) | (go_at_call_of 66 (Value.string l.s.met); exact later_call (HM.out _)) | (go_at_call 31; exact later_call (HI.out _)) | (go_at_call 67; exact later_call (HK.out _))))
          refine wpQuiet_nil ?_
          intro w1 hw'
          obtain ⟨⟨_, hw1⟩, rfl⟩ := hw'
          have HB1 := Lib.hid (HB0.out.trans (hw1.mono HB0.out.size))
          clear hw1
          go_wp2
          go_ret
          exact ⟨ret1B (HNO.out (fun h => by have := h.1.pod; rw [HC1.out] at this; exact Bool.false_ne_true this)).symm, HB1.out⟩
        · have HA := Lib.hid (name_later (W := W) l.s.pod (by omega) c1)
          have HC1 := Lib.hid c1
          clear c1
          cases c2 : nameV l.s.met.data.toList
          · have HM := Lib.hid (name_later (W := W) l.s.met (by omega) c2)
            have HC2 := Lib.hid c2
            clear c2
            refine region_later mixed (by kernel_rfl) ?_
            repeat (go_big_quiet_step (first | (go_at_call_of 66 (Value.string l.s.pod); exact later_call (HA.out _)) | (go_at_call_of 66 (Value.string l.s.met); exact later_call (HM.out _)) | (go_at_call 31; exact later_call (HI.out _)) | (go_at_call 67; exact later_call (HK.out _))))
            refine wpQuiet_nil ?_
            intro w1 hw'
            obtain ⟨⟨_, hw1⟩, rfl⟩ := hw'
            have HB1 := Lib.hid (HB0.out.trans (hw1.mono HB0.out.size))
            clear hw1
            go_wp2
            go_ret
            exact ⟨ret1B (HNO.out (fun h => by have := h.1.met; rw [HC2.out] at this; exact Bool.false_ne_true this)).symm, HB1.out⟩
          · have HM := Lib.hid (name_later (W := W) l.s.met (by omega) c2)
            have HC2 := Lib.hid c2
            clear c2
            cases c3 : decide ((1 : Int) ≤ (l.s.pts.length : Int) ∧ (l.s.pts.length : Int) ≤ 12)
            · have HI := Lib.hid (in_later (W := W) (l.s.pts.length : Int) 1 12 c3)
              have HC3 : Hid (¬ (1 ≤ l.s.pts.length ∧ l.s.pts.length ≤ 12)) := by
                have := of_decide_eq_false c3
                exact Lib.hid (by omega)
              clear c3
              refine region_later mixed (by kernel_rfl) ?_
              repeat (go_big_quiet_step (first | (go_at_call_of 66 (Value.string l.s.pod); exact later_call (HA.out _)) | (go_at_call_of 66 (Value.string l.s.met); exact later_call (HM.out _)) | (go_at_call 31; exact later_call (HI.out _)) | (go_at_call 67; exact later_call (HK.out _))))
              refine wpQuiet_nil ?_
              intro w1 hw'
              obtain ⟨⟨_, hw1⟩, rfl⟩ := hw'
              have HB1 := Lib.hid (HB0.out.trans (hw1.mono HB0.out.size))
              clear hw1
              go_wp2
              go_ret
              exact ⟨ret1B (HNO.out (fun h => HC3.out ⟨h.1.pts.one, h.1.pts.most⟩)).symm, HB1.out⟩
            · have HI := Lib.hid (in_later (W := W) (l.s.pts.length : Int) 1 12 c3)
              have HC3 : Hid (1 ≤ l.s.pts.length ∧ l.s.pts.length ≤ 12) := by
                have := of_decide_eq_true c3
                exact Lib.hid (by omega)
              clear c3
              have hA : (¬ 0 < k ∧ decide ((0 : Int) < (k : Int)) = false) ∨ (0 < k ∧ decide ((0 : Int) < (k : Int)) = true) := by
                by_cases h : 0 < k
                · exact .inr ⟨h, decide_eq_true (by omega)⟩
                · exact .inl ⟨h, decide_eq_false (by omega)⟩
              rcases hA with ⟨k0, d0⟩ | ⟨k0, d0⟩
              · have HORD : Hid (∀ h0 : 0 < k, Ahead ls[k - 1].s l.s) := fun h => absurd h k0
                refine region_later mixed (by kernel_rfl) ?_
                repeat (go_big_quiet_step (first | (go_at_call_of 66 (Value.string l.s.pod); exact later_call (HA.out _)) | (go_at_call_of 66 (Value.string l.s.met); exact later_call (HM.out _)) | (go_at_call 31; exact later_call (HI.out _)) | (go_at_call 67; exact later_call (HK.out _))))
                refine wpQuiet_nil ?_
                intro w1 hw'
                obtain ⟨⟨_, hw1⟩, rfl⟩ := hw'
                have HB1 := Lib.hid (HB0.out.trans (hw1.mono HB0.out.size))
                have HSK : Hid (∀ h0 : 0 < k, Ahead ls[k - 1].s l.s) := HORD
                have HNM : Hid (nameV l.s.pod.data.toList = true ∧ nameV l.s.met.data.toList = true) := ⟨HC1.out, HC2.out⟩
                have HPt1 := Lib.hid (HP0.out.kept hw1)
                obtain ⟨g, hg⟩ : ∃ g, wr.heap.size = g := ⟨_, rfl⟩
                have hgw := Nat.lt_of_lt_of_le HWr.out hw1.size
                have hv2 : w1.cell? ⟨wr.heap.size, 2, none⟩ = some (.slice l.a l.s.pts.length l.cap) := (hw1.cell (p := ⟨wr.heap.size, 2, none⟩) HWr.out).trans (by have := (HC0.out.2 2 (by simp)).1; simpa using this)
                rw [hg] at hv2 hgw ⊢
                clear d0 V0 V1 V2 HA HM HI HC1 HC2 HP0 HC0 HB0 HB HWr HWB hg hw1
                clear W
                have HV2 := Lib.hid hv2
                have HGW := Lib.hid hgw
                obtain ⟨bp, op, hpa, hpb, hpc⟩ := HPt1.out.cells
                have HPA := Lib.hid hpa
                have HPB := Lib.hid hpb
                have HPC := Lib.hid hpc
                clear hpa hpb hpc HPt1 hv2 hgw
                revert wr
                intro wz
                go_wp2
                go_loopw [5] (fun kk wr => ∃ j : Nat, j ≤ l.s.pts.length ∧ kk = .int .i64 j ∧ Hid (∀ (i : Nat) (hi : i < l.s.pts.length), i < j → PtAt l.s.pts i hi) ∧ Hid (Below w1.heap.size w1 wr)) (fun kk _ => l.s.pts.length - (intOf kk).toNat)
                case atStart => exact ⟨0, Nat.zero_le _, rfl, fun i hi h => absurd h (by omega), Below.refl _ _⟩
                case round =>
                  obtain ⟨j, hj, rfl, HPS, HBi⟩ := hrel
                  by_cases hjl : j < l.s.pts.length
                  · have hla := HPA.out (by omega)
                    have v2 := HV2.out
                    rw [hla] at v2
                    obtain ⟨pt, hpt⟩ : ∃ pt, l.s.pts[j] = pt := ⟨_, rfl⟩
                    have hbp := HPB.out (by omega)
                    have hc2 := HPC.out j hjl
                    rw [hpt] at hc2
                    obtain ⟨y0, y1⟩ := hc2
                    have hbpr := Nat.lt_of_lt_of_le hbp HBi.out.size
                    have L2 := later_cell (Nat.lt_of_lt_of_le HGW.out HBi.out.size) ((HBi.out.cell (p := ⟨g, 2, none⟩) HGW.out).trans v2)
                    have Y0 := later_cell hbpr ((HBi.out.cell (p := ⟨bp, op + j * 2, none⟩) hbp).trans y0)
                    have Y1 := later_cell hbpr ((HBi.out.cell (p := ⟨bp, op + j * 2 + 1, none⟩) hbp).trans y1)
                    have HNP : Hid (¬ (ptOk pt = true ∧ ∀ h0 : 0 < j, l.s.pts[j - 1].tick < pt.tick) → storeV (ls.map Sv.s) = false) := fun hn => HNO.out fun h => hn (by have := ((pts_iff _).1 h.1.pts).2 j hjl; unfold PtAt at this; rw [hpt] at this; exact this)
                    have HOP : Hid ((ptOk pt = true ∧ ∀ h0 : 0 < j, l.s.pts[j - 1].tick < pt.tick) → PtAt l.s.pts j hjl) := fun h => by unfold PtAt; rw [hpt]; exact h
                    have HBP := Lib.hid hbp
                    have HBPR := Lib.hid hbpr
                    have l2 := (HBi.out.cell (p := ⟨g, 2, none⟩) HGW.out).trans v2
                    clear y0 y1 v2 hla hpt hbp hbpr
                    go_wp2_with fail
                    clear l2
                    cases e1 : sizeV pt.tick
                    · have HT := Lib.hid (tick_later (W := wr) pt.tick e1)
                      have HE1 := Lib.hid e1
                      clear e1
                      refine region_later mixed (by kernel_rfl) ?_
                      repeat (go_big_quiet_step (first | (go_at_call 25; exact later_call (HT.out _)) | (go_at_call 68; exact later_call (HV.out _))))
                      refine wpQuiet_nil ?_
                      intro w2 hw'
                      obtain ⟨⟨_, hw2⟩, rfl⟩ := hw'
                      have HB2 := Lib.hid (HBi.out.trans (hw2.mono HBi.out.size))
                      have HB3 := Lib.hid (HB1.out.trans (HB2.out.mono HB1.out.size))
                      clear hw2
                      go_wp2
                      go_ret
                      exact ⟨ret1B (HNP.out ((fun h => by have := h.1; unfold ptOk at this; rw [HE1.out] at this; exact Bool.false_ne_true this))).symm, HB3.out⟩
                    · have HT := Lib.hid (tick_later (W := wr) pt.tick e1)
                      have HE1 := Lib.hid e1
                      clear e1
                      cases e2 : sizeV pt.val
                      · have HV := Lib.hid (amt_later (W := wr) pt.val e2)
                        have HE2 := Lib.hid e2
                        clear e2
                        refine region_later mixed (by kernel_rfl) ?_
                        repeat (go_big_quiet_step (first | (go_at_call 25; exact later_call (HT.out _)) | (go_at_call 68; exact later_call (HV.out _))))
                        refine wpQuiet_nil ?_
                        intro w2 hw'
                        obtain ⟨⟨_, hw2⟩, rfl⟩ := hw'
                        have HB2 := Lib.hid (HBi.out.trans (hw2.mono HBi.out.size))
                        have HB3 := Lib.hid (HB1.out.trans (HB2.out.mono HB1.out.size))
                        clear hw2
                        go_wp2
                        go_ret
                        exact ⟨ret1B (HNP.out ((fun h => by have := h.1; unfold ptOk at this; rw [HE2.out, Bool.and_false] at this; exact Bool.false_ne_true this))).symm, HB3.out⟩
                      · have HV := Lib.hid (amt_later (W := wr) pt.val e2)
                        have HE2 := Lib.hid e2
                        clear e2
                        have hB : (¬ 0 < j ∧ decide ((0 : Int) < (j : Int)) = false) ∨ (0 < j ∧ decide ((0 : Int) < (j : Int)) = true) := by
                          by_cases h : 0 < j
                          · exact .inr ⟨h, decide_eq_true (by omega)⟩
                          · exact .inl ⟨h, decide_eq_false (by omega)⟩
                        rcases hB with ⟨j0, f0⟩ | ⟨j0, f0⟩
                        · have HTK : Hid (∀ h0 : 0 < j, l.s.pts[j - 1].tick < pt.tick) := fun h => absurd h j0
                          refine region_later mixed (by kernel_rfl) ?_
                          repeat (go_big_quiet_step (first | (go_at_call 25; exact later_call (HT.out _)) | (go_at_call 68; exact later_call (HV.out _))))
                          refine wpQuiet_nil ?_
                          intro w2 hw'
                          obtain ⟨⟨_, hw2⟩, rfl⟩ := hw'
                          have HB2 := Lib.hid (HBi.out.trans (hw2.mono HBi.out.size))
                          have HPN : Hid (∀ (i : Nat) (hi : i < l.s.pts.length), i < j + 1 → PtAt l.s.pts i hi) := fun i hi h => by
                            by_cases e : i = j
                            · subst e; exact HOP.out ⟨by unfold ptOk; rw [HE1.out, HE2.out]; rfl, HTK.out⟩
                            · exact HPS.out i hi (by omega)
                          clear hw2 L2 Y0 Y1 HT HV
                          go_wp2
                          go_roundw
                          case rel => exact ⟨j + 1, by omega, by go_num, HPN.out, HB2.out⟩
                          case measure => simp [intOf]; omega
                        · obtain ⟨q, hq⟩ : ∃ q : Nat, (j : Int) - 1 = (q : Int) := ⟨j - 1, by omega⟩
                          have hkq : j - 1 = q := by omega
                          have hql : q < l.s.pts.length := by omega
                          obtain ⟨pt0, hpt0⟩ : ∃ pt0, l.s.pts[q] = pt0 := ⟨_, rfl⟩
                          have HPQ : Hid (∀ h : j - 1 < l.s.pts.length, l.s.pts[j - 1] = pt0) := fun h => by subst hkq; exact hpt0
                          have hc3 := HPC.out q hql
                          rw [hpt0] at hc3
                          have X0 := later_cell HBPR.out ((HBi.out.cell (p := ⟨bp, op + q * 2, none⟩) HBP.out).trans hc3.1)
                          clear hc3 hpt0 hkq
                          by_cases e3 : pt.tick ≤ pt0.tick
                          · have f3 : decide (pt.tick ≤ pt0.tick) = true := decide_eq_true e3
                            have HE3 := Lib.hid e3
                            have HJ0 := Lib.hid j0
                            refine region_later mixed (by kernel_rfl) ?_
                            repeat (go_big_quiet_step (first | (go_at_call 25; exact later_call (HT.out _)) | (go_at_call 68; exact later_call (HV.out _))))
                            refine wpQuiet_nil ?_
                            intro w2 hw'
                            obtain ⟨⟨_, hw2⟩, rfl⟩ := hw'
                            have HB2 := Lib.hid (HBi.out.trans (hw2.mono HBi.out.size))
                            have HB3 := Lib.hid (HB1.out.trans (HB2.out.mono HB1.out.size))
                            clear hw2
                            go_wp2
                            go_ret
                            exact ⟨ret1B (HNP.out ((fun h => by have := h.2 HJ0.out; rw [HPQ.out (by omega)] at this; have := HE3.out; omega))).symm, HB3.out⟩
                          · have f3 : decide (pt.tick ≤ pt0.tick) = false := decide_eq_false e3
                            have HTK : Hid (∀ h0 : 0 < j, l.s.pts[j - 1].tick < pt.tick) := fun h => by rw [HPQ.out (by omega)]; exact Int.lt_of_not_ge e3
                            refine region_later mixed (by kernel_rfl) ?_
                            repeat (go_big_quiet_step (first | (go_at_call 25; exact later_call (HT.out _)) | (go_at_call 68; exact later_call (HV.out _))))
                            refine wpQuiet_nil ?_
                            intro w2 hw'
                            obtain ⟨⟨_, hw2⟩, rfl⟩ := hw'
                            have HB2 := Lib.hid (HBi.out.trans (hw2.mono HBi.out.size))
                            have HPN : Hid (∀ (i : Nat) (hi : i < l.s.pts.length), i < j + 1 → PtAt l.s.pts i hi) := fun i hi h => by
                              by_cases e : i = j
                              · subst e; exact HOP.out ⟨by unfold ptOk; rw [HE1.out, HE2.out]; rfl, HTK.out⟩
                              · exact HPS.out i hi (by omega)
                            clear hw2 L2 Y0 Y1 X0 HT HV
                            go_wp2
                            go_roundw
                            case rel => exact ⟨j + 1, by omega, by go_num, HPN.out, HB2.out⟩
                            case measure => simp [intOf]; omega
                  · have hjj : j = l.s.pts.length := by omega
                    have HOKK : Hid (OkAt ls k hlt) := HOK.out ⟨⟨HNM.out.1, HNM.out.2, (pts_iff _).2 ⟨HC3.out, fun i hi => HPS.out i hi (by omega)⟩⟩, HSK.out⟩
                    have HSN : Hid (∀ (j : Nat) (hj : j < ls.length), j < k + 1 → OkAt ls j hj) := fun i hi h => by
                      by_cases e : i = k
                      · subst e; exact HOKK.out
                      · exact HS.out i hi (by omega)
                    have l2 := (HBi.out.cell (p := ⟨g, 2, none⟩) HGW.out).trans HV2.out
                    have HBN := Lib.hid (HB1.out.trans (HBi.out.mono HB1.out.size))
                    go_wp2
                    go_roundw
                    case rel => exact ⟨k + 1, by omega, by go_num, HSN.out, HBN.out⟩
                    case measure => simp [intOf]; omega
              · obtain ⟨p, hp⟩ : ∃ p : Nat, (k : Int) - 1 = (p : Int) := ⟨k - 1, by omega⟩
                have hkp : k - 1 = p := by omega
                have hpl : p < ls.length := by omega
                obtain ⟨l0, hl0⟩ : ∃ l0, ls[p] = l0 := ⟨_, rfl⟩
                have HEQ : Hid (∀ h : k - 1 < ls.length, ls[k - 1] = l0) := fun h => by subst hkp; exact hl0
                have hw0 := Hw.out ls[p] (List.getElem_mem hpl)
                obtain ⟨⟨r0, r1, r2⟩, -⟩ := Hc.out p hpl
                rw [hl0] at hw0 r0 r1 r2
                obtain ⟨wp0, wm0, -, -⟩ := hw0
                unfold maxLen at wp0 wm0
                have hbW : b < W.heap.size := Nat.lt_of_lt_of_le (Hb.out (by omega)) (Nat.le_trans HB.out.size (Nat.le_of_lt HWr.out))
                have hBW := HB.out.trans (HWB.out.mono HB.out.size)
                have R0 := later_cell hbW ((hBW.cell (p := ⟨b, off + p * 3, none⟩) (Hb.out (by omega))).trans r0)
                have R1 := later_cell hbW ((hBW.cell (p := ⟨b, off + p * 3 + 1, none⟩) (Hb.out (by omega))).trans r1)
                have HHB := Lib.hid hBW
                clear hl0 hkp r0 r1 r2 hBW hbW
                cases c5 : decide (keyLt l0.s.pod l0.s.met l.s.pod l.s.met)
                · have HK := Lib.hid (before_later (W := W) l0.s.pod l0.s.met l.s.pod l.s.met (by omega) (by omega) (by omega) (by omega) c5)
                  have HC5 := Lib.hid (of_decide_eq_false c5)
                  have HK0 := Lib.hid k0
                  clear c5
                  refine region_later mixed (by kernel_rfl) ?_
                  repeat (go_big_quiet_step (first | (go_at_call_of 66 (Value.string l.s.pod); exact later_call (HA.out _)) | (go_at_call_of 66 (Value.string l.s.met); exact later_call (HM.out _)) | (go_at_call 31; exact later_call (HI.out _)) | (go_at_call 67; exact later_call (HK.out _))))
                  refine wpQuiet_nil ?_
                  intro w1 hw'
                  obtain ⟨⟨_, hw1⟩, rfl⟩ := hw'
                  have HB1 := Lib.hid (HB0.out.trans (hw1.mono HB0.out.size))
                  clear hw1
                  go_wp2
                  go_ret
                  exact ⟨ret1B (HNO.out (fun h => HC5.out (by have := h.2 HK0.out; unfold Ahead at this; rw [HEQ.out (by omega)] at this; exact this))).symm, HB1.out⟩
                · have HK := Lib.hid (before_later (W := W) l0.s.pod l0.s.met l.s.pod l.s.met (by omega) (by omega) (by omega) (by omega) c5)
                  have HORD : Hid (∀ h0 : 0 < k, Ahead ls[k - 1].s l.s) := fun h => by unfold Ahead; rw [HEQ.out (by omega)]; exact of_decide_eq_true c5
                  clear c5
                  refine region_later mixed (by kernel_rfl) ?_
                  repeat (go_big_quiet_step (first | (go_at_call_of 66 (Value.string l.s.pod); exact later_call (HA.out _)) | (go_at_call_of 66 (Value.string l.s.met); exact later_call (HM.out _)) | (go_at_call 31; exact later_call (HI.out _)) | (go_at_call 67; exact later_call (HK.out _))))
                  refine wpQuiet_nil ?_
                  intro w1 hw'
                  obtain ⟨⟨_, hw1⟩, rfl⟩ := hw'
                  have HB1 := Lib.hid (HB0.out.trans (hw1.mono HB0.out.size))
                  have HSK : Hid (∀ h0 : 0 < k, Ahead ls[k - 1].s l.s) := HORD
                  have HNM : Hid (nameV l.s.pod.data.toList = true ∧ nameV l.s.met.data.toList = true) := ⟨HC1.out, HC2.out⟩
                  have HPt1 := Lib.hid (HP0.out.kept hw1)
                  obtain ⟨g, hg⟩ : ∃ g, wr.heap.size = g := ⟨_, rfl⟩
                  have hgw := Nat.lt_of_lt_of_le HWr.out hw1.size
                  have hv2 : w1.cell? ⟨wr.heap.size, 2, none⟩ = some (.slice l.a l.s.pts.length l.cap) := (hw1.cell (p := ⟨wr.heap.size, 2, none⟩) HWr.out).trans (by have := (HC0.out.2 2 (by simp)).1; simpa using this)
                  rw [hg] at hv2 hgw ⊢
                  clear d0 R0 R1 HHB HK V0 V1 V2 HA HM HI HC1 HC2 HP0 HC0 HB0 HB HWr HWB hg hw1
                  clear W
                  have HV2 := Lib.hid hv2
                  have HGW := Lib.hid hgw
                  obtain ⟨bp, op, hpa, hpb, hpc⟩ := HPt1.out.cells
                  have HPA := Lib.hid hpa
                  have HPB := Lib.hid hpb
                  have HPC := Lib.hid hpc
                  clear hpa hpb hpc HPt1 hv2 hgw
                  revert wr
                  intro wz
                  go_wp2
                  go_loopw [5] (fun kk wr => ∃ j : Nat, j ≤ l.s.pts.length ∧ kk = .int .i64 j ∧ Hid (∀ (i : Nat) (hi : i < l.s.pts.length), i < j → PtAt l.s.pts i hi) ∧ Hid (Below w1.heap.size w1 wr)) (fun kk _ => l.s.pts.length - (intOf kk).toNat)
                  case atStart => exact ⟨0, Nat.zero_le _, rfl, fun i hi h => absurd h (by omega), Below.refl _ _⟩
                  case round =>
                    obtain ⟨j, hj, rfl, HPS, HBi⟩ := hrel
                    by_cases hjl : j < l.s.pts.length
                    · have hla := HPA.out (by omega)
                      have v2 := HV2.out
                      rw [hla] at v2
                      obtain ⟨pt, hpt⟩ : ∃ pt, l.s.pts[j] = pt := ⟨_, rfl⟩
                      have hbp := HPB.out (by omega)
                      have hc2 := HPC.out j hjl
                      rw [hpt] at hc2
                      obtain ⟨y0, y1⟩ := hc2
                      have hbpr := Nat.lt_of_lt_of_le hbp HBi.out.size
                      have L2 := later_cell (Nat.lt_of_lt_of_le HGW.out HBi.out.size) ((HBi.out.cell (p := ⟨g, 2, none⟩) HGW.out).trans v2)
                      have Y0 := later_cell hbpr ((HBi.out.cell (p := ⟨bp, op + j * 2, none⟩) hbp).trans y0)
                      have Y1 := later_cell hbpr ((HBi.out.cell (p := ⟨bp, op + j * 2 + 1, none⟩) hbp).trans y1)
                      have HNP : Hid (¬ (ptOk pt = true ∧ ∀ h0 : 0 < j, l.s.pts[j - 1].tick < pt.tick) → storeV (ls.map Sv.s) = false) := fun hn => HNO.out fun h => hn (by have := ((pts_iff _).1 h.1.pts).2 j hjl; unfold PtAt at this; rw [hpt] at this; exact this)
                      have HOP : Hid ((ptOk pt = true ∧ ∀ h0 : 0 < j, l.s.pts[j - 1].tick < pt.tick) → PtAt l.s.pts j hjl) := fun h => by unfold PtAt; rw [hpt]; exact h
                      have HBP := Lib.hid hbp
                      have HBPR := Lib.hid hbpr
                      have l2 := (HBi.out.cell (p := ⟨g, 2, none⟩) HGW.out).trans v2
                      clear y0 y1 v2 hla hpt hbp hbpr
                      go_wp2_with fail
                      clear l2
                      cases e1 : sizeV pt.tick
                      · have HT := Lib.hid (tick_later (W := wr) pt.tick e1)
                        have HE1 := Lib.hid e1
                        clear e1
                        refine region_later mixed (by kernel_rfl) ?_
                        repeat (go_big_quiet_step (first | (go_at_call 25; exact later_call (HT.out _)) | (go_at_call 68; exact later_call (HV.out _))))
                        refine wpQuiet_nil ?_
                        intro w2 hw'
                        obtain ⟨⟨_, hw2⟩, rfl⟩ := hw'
                        have HB2 := Lib.hid (HBi.out.trans (hw2.mono HBi.out.size))
                        have HB3 := Lib.hid (HB1.out.trans (HB2.out.mono HB1.out.size))
                        clear hw2
                        go_wp2
                        go_ret
                        exact ⟨ret1B (HNP.out ((fun h => by have := h.1; unfold ptOk at this; rw [HE1.out] at this; exact Bool.false_ne_true this))).symm, HB3.out⟩
                      · have HT := Lib.hid (tick_later (W := wr) pt.tick e1)
                        have HE1 := Lib.hid e1
                        clear e1
                        cases e2 : sizeV pt.val
                        · have HV := Lib.hid (amt_later (W := wr) pt.val e2)
                          have HE2 := Lib.hid e2
                          clear e2
                          refine region_later mixed (by kernel_rfl) ?_
                          repeat (go_big_quiet_step (first | (go_at_call 25; exact later_call (HT.out _)) | (go_at_call 68; exact later_call (HV.out _))))
                          refine wpQuiet_nil ?_
                          intro w2 hw'
                          obtain ⟨⟨_, hw2⟩, rfl⟩ := hw'
                          have HB2 := Lib.hid (HBi.out.trans (hw2.mono HBi.out.size))
                          have HB3 := Lib.hid (HB1.out.trans (HB2.out.mono HB1.out.size))
                          clear hw2
                          go_wp2
                          go_ret
                          exact ⟨ret1B (HNP.out ((fun h => by have := h.1; unfold ptOk at this; rw [HE2.out, Bool.and_false] at this; exact Bool.false_ne_true this))).symm, HB3.out⟩
                        · have HV := Lib.hid (amt_later (W := wr) pt.val e2)
                          have HE2 := Lib.hid e2
                          clear e2
                          have hB : (¬ 0 < j ∧ decide ((0 : Int) < (j : Int)) = false) ∨ (0 < j ∧ decide ((0 : Int) < (j : Int)) = true) := by
                            by_cases h : 0 < j
                            · exact .inr ⟨h, decide_eq_true (by omega)⟩
                            · exact .inl ⟨h, decide_eq_false (by omega)⟩
                          rcases hB with ⟨j0, f0⟩ | ⟨j0, f0⟩
                          · have HTK : Hid (∀ h0 : 0 < j, l.s.pts[j - 1].tick < pt.tick) := fun h => absurd h j0
                            refine region_later mixed (by kernel_rfl) ?_
                            repeat (go_big_quiet_step (first | (go_at_call 25; exact later_call (HT.out _)) | (go_at_call 68; exact later_call (HV.out _))))
                            refine wpQuiet_nil ?_
                            intro w2 hw'
                            obtain ⟨⟨_, hw2⟩, rfl⟩ := hw'
                            have HB2 := Lib.hid (HBi.out.trans (hw2.mono HBi.out.size))
                            have HPN : Hid (∀ (i : Nat) (hi : i < l.s.pts.length), i < j + 1 → PtAt l.s.pts i hi) := fun i hi h => by
                              by_cases e : i = j
                              · subst e; exact HOP.out ⟨by unfold ptOk; rw [HE1.out, HE2.out]; rfl, HTK.out⟩
                              · exact HPS.out i hi (by omega)
                            clear hw2 L2 Y0 Y1 HT HV
                            go_wp2
                            go_roundw
                            case rel => exact ⟨j + 1, by omega, by go_num, HPN.out, HB2.out⟩
                            case measure => simp [intOf]; omega
                          · obtain ⟨q, hq⟩ : ∃ q : Nat, (j : Int) - 1 = (q : Int) := ⟨j - 1, by omega⟩
                            have hkq : j - 1 = q := by omega
                            have hql : q < l.s.pts.length := by omega
                            obtain ⟨pt0, hpt0⟩ : ∃ pt0, l.s.pts[q] = pt0 := ⟨_, rfl⟩
                            have HPQ : Hid (∀ h : j - 1 < l.s.pts.length, l.s.pts[j - 1] = pt0) := fun h => by subst hkq; exact hpt0
                            have hc3 := HPC.out q hql
                            rw [hpt0] at hc3
                            have X0 := later_cell HBPR.out ((HBi.out.cell (p := ⟨bp, op + q * 2, none⟩) HBP.out).trans hc3.1)
                            clear hc3 hpt0 hkq
                            by_cases e3 : pt.tick ≤ pt0.tick
                            · have f3 : decide (pt.tick ≤ pt0.tick) = true := decide_eq_true e3
                              have HE3 := Lib.hid e3
                              have HJ0 := Lib.hid j0
                              refine region_later mixed (by kernel_rfl) ?_
                              repeat (go_big_quiet_step (first | (go_at_call 25; exact later_call (HT.out _)) | (go_at_call 68; exact later_call (HV.out _))))
                              refine wpQuiet_nil ?_
                              intro w2 hw'
                              obtain ⟨⟨_, hw2⟩, rfl⟩ := hw'
                              have HB2 := Lib.hid (HBi.out.trans (hw2.mono HBi.out.size))
                              have HB3 := Lib.hid (HB1.out.trans (HB2.out.mono HB1.out.size))
                              clear hw2
                              go_wp2
                              go_ret
                              exact ⟨ret1B (HNP.out ((fun h => by have := h.2 HJ0.out; rw [HPQ.out (by omega)] at this; have := HE3.out; omega))).symm, HB3.out⟩
                            · have f3 : decide (pt.tick ≤ pt0.tick) = false := decide_eq_false e3
                              have HTK : Hid (∀ h0 : 0 < j, l.s.pts[j - 1].tick < pt.tick) := fun h => by rw [HPQ.out (by omega)]; exact Int.lt_of_not_ge e3
                              refine region_later mixed (by kernel_rfl) ?_
                              repeat (go_big_quiet_step (first | (go_at_call 25; exact later_call (HT.out _)) | (go_at_call 68; exact later_call (HV.out _))))
                              refine wpQuiet_nil ?_
                              intro w2 hw'
                              obtain ⟨⟨_, hw2⟩, rfl⟩ := hw'
                              have HB2 := Lib.hid (HBi.out.trans (hw2.mono HBi.out.size))
                              have HPN : Hid (∀ (i : Nat) (hi : i < l.s.pts.length), i < j + 1 → PtAt l.s.pts i hi) := fun i hi h => by
                                by_cases e : i = j
                                · subst e; exact HOP.out ⟨by unfold ptOk; rw [HE1.out, HE2.out]; rfl, HTK.out⟩
                                · exact HPS.out i hi (by omega)
                              clear hw2 L2 Y0 Y1 X0 HT HV
                              go_wp2
                              go_roundw
                              case rel => exact ⟨j + 1, by omega, by go_num, HPN.out, HB2.out⟩
                              case measure => simp [intOf]; omega
                    · have hjj : j = l.s.pts.length := by omega
                      have HOKK : Hid (OkAt ls k hlt) := HOK.out ⟨⟨HNM.out.1, HNM.out.2, (pts_iff _).2 ⟨HC3.out, fun i hi => HPS.out i hi (by omega)⟩⟩, HSK.out⟩
                      have HSN : Hid (∀ (j : Nat) (hj : j < ls.length), j < k + 1 → OkAt ls j hj) := fun i hi h => by
                        by_cases e : i = k
                        · subst e; exact HOKK.out
                        · exact HS.out i hi (by omega)
                      have l2 := (HBi.out.cell (p := ⟨g, 2, none⟩) HGW.out).trans HV2.out
                      have HBN := Lib.hid (HB1.out.trans (HBi.out.mono HB1.out.size))
                      go_wp2
                      go_roundw
                      case rel => exact ⟨k + 1, by omega, by go_num, HSN.out, HBN.out⟩
                      case measure => simp [intOf]; omega
      · obtain rfl : k = ls.length := by omega
        have HY := Lib.hid (store_yes (ls := ls) ⟨by omega, fun j hj => HS.out j hj hj⟩)
        go_wp2
        go_ret
        exact ⟨ret1B HY.out.symm, HB.out⟩
end Go.Proofs.YtgmdfkmmbcpikaaGreat.StoS
