/- The program's StoreOk. -/
import Derived.Test.YtgmdfkmmbcpikaaGreatAsc
namespace Go.Proofs.YtgmdfkmmbcpikaaGreat.StoI
open Go.RowKit Go.Sort Go.BigFrame
open Go.Proofs.YtgmdfkmmbcpikaaGreat.C1
open Go.Proofs.YtgmdfkmmbcpikaaGreat.C2
open Go.Proofs.YtgmdfkmmbcpikaaGreat.Smps
open Go.Proofs.YtgmdfkmmbcpikaaGreat.Mem
open Go.Proofs.YtgmdfkmmbcpikaaGreat.Ser
open Go.Proofs.YtgmdfkmmbcpikaaGreat.Ser2
open Go.Proofs.YtgmdfkmmbcpikaaGreat.Key
open Go.Proofs.YtgmdfkmmbcpikaaGreat.Sto
open Go.Proofs.YtgmdfkmmbcpikaaGreat.Ring
open Go.Proofs.YtgmdfkmmbcpikaaGreat.Asc
set_option linter.unusedVariables false

theorem impl_point (p : Pt) (w : World) :
    Calls Tryz.prog 156 #[ptV p] w fun e w' => e = .returned (.bool (ptOk p)) ∧ Below w.heap.size w w' := by
  unfold ptV ptOk
  cases e1 : sizeV p.tick
  · go_enter Tryz.func156, Tryz.ntmps156
    go_wp2_with (go_at_call 79; refine (impl_tick p.tick _).mono ?_; rintro e w' ⟨rfl, rfl⟩)
    go_ret
    exact ⟨ret1B (by simp), box_below _ _ _⟩
  · cases e2 : sizeV p.val
    all_goals
      go_enter Tryz.func156, Tryz.ntmps156
      go_wp2_with (first | (go_at_call 79; refine (impl_tick p.tick _).mono ?_; rintro e w' ⟨rfl, rfl⟩) | (go_at_call 187; refine (C2.impl_size p.val _).mono ?_; rintro e w' ⟨rfl, rfl⟩))
      go_ret
      exact ⟨ret1B (by simp), box_below _ _ _⟩
theorem impl_points (ps : List Pt) (hm : ps.length ≤ 1048576) (a : Option Addr) (cap : Nat) (w : World) (h : Pts w a ps) :
    Calls Tryz.prog 123 #[.slice a ps.length cap] w fun e w' => e = .returned (.bool (ptsV ps)) ∧ Below w.heap.size w w' := by
  unfold ptsV
  by_cases h1 : ps.length < 1
  · go_enter Tryz.func123, Tryz.ntmps123
    go_wp2
    go_ret
    exact ⟨ret1B (by rw [decide_eq_false (by omega)]; rfl), Below.refl _ _⟩
  · by_cases h12 : 12 < ps.length
    · go_enter Tryz.func123, Tryz.ntmps123
      go_wp2
      go_ret
      exact ⟨ret1B (by rw [decide_eq_false (by omega)]; rfl), Below.refl _ _⟩
    · rw [decide_eq_true (by omega), Bool.true_and]
      obtain ⟨b, off, ha, hb, hcell⟩ := h.cells
      have HP := Lib.hid h
      have Hc := Lib.hid hcell
      have Ha := Lib.hid ha
      have Hb := Lib.hid hb
      clear hcell ha hb h
      go_enter Tryz.func123, Tryz.ntmps123
      go_wp2
      go_loopw [15] (fun i wr => ∃ k : Nat, k ≤ ps.length ∧ i = .int .i64 k ∧ Hid (∀ (j : Nat) (hj : j < ps.length), j < k → ptOk ps[j] = true) ∧ Hid (Below w.heap.size w wr)) (fun i _ => ps.length - (intOf i).toNat)
      case atStart => exact ⟨0, Nat.zero_le _, rfl, fun j hj h => by omega, Below.refl _ _⟩
      case round =>
        obtain ⟨k, hk, rfl, HS, HB⟩ := hrel
        by_cases hlt : k < ps.length
        · have hak := Ha.out (by omega)
          obtain ⟨q0, q1⟩ := (Hc.out k hlt).kept HB.out (Hb.out (by omega))
          obtain ⟨p, hp⟩ : ∃ p, ps[k] = p := ⟨_, rfl⟩
          rw [hp] at q0 q1
          have HPK := Lib.hid hp
          have HB0 : Hid (Below w.heap.size w (wr.alloc (.cells #[.int .i64 p.tick, .int .i64 p.val] 123))) := HB.out.alloc HB.out.size _
          subst hak
          clear hp
          cases hv : ptOk p
          · have HN : Hid ((ps.all ptOk && ascV ps) = false) := by
              show _ = _
              have : ps.all ptOk = false := by
                rw [List.all_eq_false]
                exact ⟨ps[k], List.getElem_mem hlt, by rw [HPK.out, hv]; exact Bool.false_ne_true⟩
              rw [this]; rfl
            go_wp2_with (go_at_call 156; refine (impl_point p _).mono ?_; rw [hv]; rintro e w2 ⟨rfl, hb2⟩; have HB2 := Lib.hid (HB0.out.trans (hb2.mono HB0.out.size)); clear hb2)
            go_ret
            exact ⟨ret1B HN.out.symm, HB2.out⟩
          · have HSN : Hid (∀ (j : Nat) (hj : j < ps.length), j < k + 1 → ptOk ps[j] = true) := fun j hj h => by
              by_cases e : j = k
              · subst e; rw [HPK.out]; exact hv
              · exact HS.out j hj (by omega)
            go_wp2_with (go_at_call 156; refine (impl_point p _).mono ?_; rw [hv]; rintro e w2 ⟨rfl, hb2⟩; have HB2 := Lib.hid (HB0.out.trans (hb2.mono HB0.out.size)); clear hb2)
            go_roundw
            case rel => exact ⟨k + 1, by omega, by go_num, HSN, HB2⟩
            case measure => simp [intOf]; omega
        · obtain rfl : k = ps.length := by omega
          have HALL : Hid (ps.all ptOk = true) := by
            show _ = _
            rw [List.all_eq_true]
            intro p hp
            obtain ⟨j, hj, rfl⟩ := List.mem_iff_getElem.1 hp
            exact HS.out j hj hj
          go_wp2_with (go_at_call 157; refine (impl_ascend ps (by omega) (by omega) _ _ _ (HP.out.kept HB.out)).mono ?_; rintro e w2 ⟨rfl, hb2⟩; have HB2 := Lib.hid (HB.out.trans (hb2.mono HB.out.size)); clear hb2)
          go_ret
          exact ⟨ret1B (by rw [HALL.out, Bool.true_and]), HB2.out⟩
theorem impl_series (l : Sv) (hwf : l.s.wf) (hm : l.s.pts.length ≤ 1048576) (w : World) (h : Pts w l.a l.s.pts) :
    Calls Tryz.prog 87 #[svV l] w fun e w' => e = .returned (.bool (serV l.s)) ∧ Below w.heap.size w w' := by
  unfold svV serV
  obtain ⟨wp, wm, -, -⟩ := hwf
  unfold maxLen at wp wm
  have HP := Lib.hid h
  clear h
  have hbx := box_below w #[.string l.s.pod, .string l.s.met, .slice l.a l.s.pts.length l.cap] 119
  have HBX := Lib.hid hbx
  have HC0 := Lib.hid (cells_new w #[.string l.s.pod, .string l.s.met, .slice l.a l.s.pts.length l.cap] 119)
  clear hbx
  cases c1 : nameV l.s.pod.data.toList
  · go_enter Tryz.func87, Tryz.ntmps87
    go_wp2_with (go_at_call 120; refine (impl_name _ (by omega) _).mono ?_; rw [c1]; rintro e w1 ⟨rfl, hb1⟩; have HB1 := Lib.hid (HBX.out.trans (hb1.mono HBX.out.size)); clear hb1)
    go_ret
    exact ⟨ret1B (by simp), HB1.out⟩
  · have HC1 := Lib.hid c1
    clear c1
    go_enter Tryz.func87, Tryz.ntmps87
    go_wp2_with (go_at_call_of 120 (Value.string l.s.pod); refine (impl_name _ (by omega) _).mono ?_; rw [HC1.out]; rintro e w1 ⟨rfl, hb1⟩; have HB1 := Lib.hid (HBX.out.trans (hb1.mono HBX.out.size)); have HC2 := Lib.hid (HC0.out.kept hb1); have HP1 := Lib.hid ((HP.out.kept HBX.out).kept hb1); obtain ⟨c1, -⟩ := cellsW_get HC2.out (j := 1) rfl; obtain ⟨c2, -⟩ := cellsW_get HC2.out (j := 2) rfl; clear hb1)
    cases d1 : nameV l.s.met.data.toList
    · go_wp2_with (go_at_call 120; refine (impl_name _ (by omega) _).mono ?_; rw [d1]; rintro e w2 ⟨rfl, hb2⟩; have HB2 := Lib.hid (HB1.out.trans (hb2.mono HB1.out.size)); clear hb2)
      go_ret
      exact ⟨ret1B (by simp [d1]), HB2.out⟩
    · have HD1 := Lib.hid d1
      clear d1
      go_wp2_with (first
        | (go_at_call 120; refine (impl_name _ (by omega) _).mono ?_; rw [HD1.out]; rintro e w2 ⟨rfl, hb2⟩; have HB2 := Lib.hid (HB1.out.trans (hb2.mono HB1.out.size)); have HP2 := Lib.hid (HP1.out.kept hb2); obtain ⟨e2, -⟩ := cellsW_get (HC2.out.kept hb2) (j := 2) rfl; clear hb2)
        | (go_at_call 123; refine (impl_points l.s.pts hm _ _ _ HP2.out).mono ?_; rintro e w3 ⟨rfl, hb3⟩; have HB3 := Lib.hid (HB2.out.trans (hb3.mono HB2.out.size)); clear hb3))
      go_ret
      exact ⟨ret1B (by simp [HD1.out]), HB3.out⟩

set_option maxHeartbeats 4000000 in
set_option maxRecDepth 20000 in
theorem impl_store (ls : List Sv) (a : Option Addr) (cap : Nat) (w : World) (hwf : ∀ l ∈ ls, l.s.wf) (hpl : ∀ l ∈ ls, l.s.pts.length ≤ 1048576) (h : Srs w a ls) (hm : ls.length ≤ 1048576) :
    Calls Tryz.prog 40 #[.slice a ls.length cap] w fun e w' => e = .returned (.bool (storeV (ls.map Sv.s))) ∧ Below w.heap.size w w' := by
  obtain ⟨b, off, ha, hb, hcell⟩ := h.cells
  have mixed : Tryz.prog.follows .mixedOrders = true := by kernel_rfl
  by_cases hbig : 24 < ls.length
  · have HN := Lib.hid (store_no (ls := ls) (fun h => by omega))
    go_enter Tryz.func40, Tryz.ntmps40
    go_wp2
    go_ret
    exact ⟨ret1B HN.out.symm, Below.refl _ _⟩
  · have Hc := Lib.hid hcell
    have Ha := Lib.hid ha
    have Hw := Lib.hid hwf
    have Hp := Lib.hid hpl
    have Hb := Lib.hid hb
    clear hcell ha hwf hb h hpl
    go_enter Tryz.func40, Tryz.ntmps40
    go_wp2
    go_loopw [10] (fun i wr => ∃ k : Nat, k ≤ ls.length ∧ i = .int .i64 k ∧ Hid (∀ (j : Nat) (hj : j < ls.length), j < k → OkAt ls j hj) ∧ Hid (Below w.heap.size w wr)) (fun i _ => ls.length - (intOf i).toNat)
    case atStart => exact ⟨0, Nat.zero_le _, rfl, fun j hj h => absurd h (by omega), Below.refl _ _⟩
    case round =>
      obtain ⟨k, hk, rfl, HS, HB⟩ := hrel
      by_cases hlt : k < ls.length
      · obtain rfl := Ha.out (by omega)
        obtain ⟨l, hl⟩ : ∃ l, ls[k] = l := ⟨_, rfl⟩
        have HNO : Hid (¬ (SerOk l.s ∧ ∀ h0 : 0 < k, Ahead ls[k - 1].s l.s) → storeV (ls.map Sv.s) = false) := fun hn => store_no fun h => hn (by have := h.2 k hlt; unfold OkAt at this; rw [hl] at this; exact this)
        have HOK : Hid ((SerOk l.s ∧ ∀ h0 : 0 < k, Ahead ls[k - 1].s l.s) → OkAt ls k hlt) := fun h => by unfold OkAt; rw [hl]; exact h
        have hpt := (Hc.out k hlt).2
        have hq := (Hc.out k hlt).1.kept HB.out (Hb.out (by omega))
        have hwl := Hw.out ls[k] (List.getElem_mem hlt)
        have hpp := Hp.out ls[k] (List.getElem_mem hlt)
        rw [hl] at hwl hpt hq hpp
        obtain ⟨q0, q1, q2⟩ := hq
        have HPt := Lib.hid (hpt.kept HB.out)
        have HWL := Lib.hid hwl
        have HL := Lib.hid hl
        clear hl hpt hwl
        have HB0 : Hid (Below w.heap.size w (wr.alloc (.cells #[.string l.s.pod, .string l.s.met, .slice l.a l.s.pts.length l.cap] 119))) := HB.out.alloc HB.out.size _
        have HP0 := Lib.hid (HPt.out.kept (box_below wr #[.string l.s.pod, .string l.s.met, .slice l.a l.s.pts.length l.cap] 119))
        have HC0 := Lib.hid (cells_new wr #[.string l.s.pod, .string l.s.met, .slice l.a l.s.pts.length l.cap] 119)
        go_wp2_with fail
        obtain ⟨W, hW⟩ : ∃ W, wr.alloc (.cells #[.string l.s.pod, .string l.s.met, .slice l.a l.s.pts.length l.cap] 119) = W := ⟨_, rfl⟩
        rw [hW] at HB0 HP0 HC0 ⊢
        have HWr : Hid (wr.heap.size < W.heap.size) := by rw [← hW]; exact Lib.hid (by simp)
        have HWB : Hid (Below wr.heap.size wr W) := by rw [← hW]; exact Lib.hid (box_below _ _ _)
        clear hW q0 q1 q2 HPt
        have V0 := later_cell HWr.out (HC0.out.2 0 (by simp)).1
        have V1 := later_cell HWr.out (HC0.out.2 1 (by simp)).1
        have V2 := later_cell HWr.out (HC0.out.2 2 (by simp)).1
        simp only [List.getElem_cons_zero, List.getElem_cons_succ] at V0 V1 V2
        have hser : ∀ p : Later W, Calls Tryz.prog 87 #[svV l] p.u fun e w' => e = .returned (.bool (serV l.s)) ∧ Below p.u.heap.size p.u w' := fun p => impl_series l HWL.out hpp p.u (HP0.out.kept p.h)
        unfold svV at hser
        cases c1 : serV l.s
        · rw [c1] at hser
          have HA := Lib.hid hser
          have HC1 := Lib.hid c1
          clear c1 hser
          refine region_later mixed (by kernel_rfl) ?_
          repeat (go_big_quiet_step (first | (go_at_call 87; exact later_call (HA.out _)) | (go_at_call 88; exact later_call (HK.out _))))
          refine wpQuiet_nil ?_
          intro w1 hw'
          obtain ⟨⟨_, hw1⟩, rfl⟩ := hw'
          have HB1 := Lib.hid (HB0.out.trans (hw1.mono HB0.out.size))
          clear hw1
          go_wp2
          go_ret
          exact ⟨ret1B (HNO.out (fun h => by have := (serV_iff _).2 h.1; rw [HC1.out] at this; exact Bool.false_ne_true this)).symm, HB1.out⟩
        · rw [c1] at hser
          have HA := Lib.hid hser
          have HSV := Lib.hid c1
          clear c1 hser
          have hA : (¬ 0 < k ∧ decide ((0 : Int) < (k : Int)) = false) ∨ (0 < k ∧ decide ((0 : Int) < (k : Int)) = true) := by
            by_cases h : 0 < k
            · exact .inr ⟨h, decide_eq_true (by omega)⟩
            · exact .inl ⟨h, decide_eq_false (by omega)⟩
          rcases hA with ⟨k0, d0⟩ | ⟨k0, d0⟩
          · have HORD : Hid (∀ h0 : 0 < k, Ahead ls[k - 1].s l.s) := fun h => absurd h k0
            have HSN : Hid (∀ (j : Nat) (hj : j < ls.length), j < k + 1 → OkAt ls j hj) := fun i hi h => by
              by_cases e : i = k
              · subst e; exact HOK.out ⟨(serV_iff _).1 HSV.out, HORD.out⟩
              · exact HS.out i hi (by omega)
            refine region_later mixed (by kernel_rfl) ?_
            repeat (go_big_quiet_step (first | (go_at_call 87; exact later_call (HA.out _)) | (go_at_call 88; exact later_call (HK.out _))))
            refine wpQuiet_nil ?_
            intro w1 hw'
            obtain ⟨⟨_, hw1⟩, rfl⟩ := hw'
            have HB1 := Lib.hid (HB0.out.trans (hw1.mono HB0.out.size))
            clear hw1
            clear V0 V1 V2 HA
            go_wp2
            go_roundw
            case rel => exact ⟨k + 1, by omega, by go_num, HSN.out, HB1.out⟩
            case measure => simp [intOf]; omega
          · obtain ⟨p, hp⟩ : ∃ p : Nat, (k : Int) - 1 = (p : Int) := ⟨k - 1, by omega⟩
            have hkp : k - 1 = p := by omega
            have hpl : p < ls.length := by omega
            obtain ⟨l0, hl0⟩ : ∃ l0, ls[p] = l0 := ⟨_, rfl⟩
            have HEQ : Hid (∀ h : k - 1 < ls.length, ls[k - 1] = l0) := fun h => by subst hkp; exact hl0
            obtain ⟨⟨r0, r1, r2⟩, -⟩ := Hc.out p hpl
            rw [hl0] at r0 r1 r2
            have hbW : b < W.heap.size := Nat.lt_of_lt_of_le (Hb.out (by omega)) (Nat.le_trans HB.out.size (Nat.le_of_lt HWr.out))
            have hBW := HB.out.trans (HWB.out.mono HB.out.size)
            have R0 := later_cell hbW ((hBW.cell (p := ⟨b, off + p * 3, none⟩) (Hb.out (by omega))).trans r0)
            have R1 := later_cell hbW ((hBW.cell (p := ⟨b, off + p * 3 + 1, none⟩) (Hb.out (by omega))).trans r1)
            have R2 := later_cell hbW ((hBW.cell (p := ⟨b, off + p * 3 + 2, none⟩) (Hb.out (by omega))).trans r2)
            have hcmp : ∀ q : Later W, Calls Tryz.prog 88 #[svV l0, svV l] q.u fun e w' => e = .returned (.int .i64 (kc l0.s.pod l0.s.met l.s.pod l.s.met)) ∧ Below q.u.heap.size q.u w' := fun q => (cmp_series l0 l q.u).mono fun e w' ⟨he, n, os, hw⟩ => ⟨he, by rw [hw]; exact below_grow (Below.refl _ _) (Nat.le_refl _) n os⟩
            unfold svV at hcmp
            have HK := Lib.hid hcmp
            have HKC := Lib.hid (kc_neg l0.s.pod l0.s.met l.s.pod l.s.met)
            obtain ⟨z, hz⟩ : ∃ z, kc l0.s.pod l0.s.met l.s.pod l.s.met = z := ⟨_, rfl⟩
            rw [hz] at HK HKC
            clear hl0 hkp r0 r1 r2 hBW hbW hcmp hz
            by_cases c5 : (0 : Int) ≤ z
            · have d5 : decide ((0 : Int) ≤ z) = true := decide_eq_true c5
              have HK0 := Lib.hid k0
              have HC5 := Lib.hid c5
              refine region_later mixed (by kernel_rfl) ?_
              repeat (go_big_quiet_step (first | (go_at_call 87; exact later_call (HA.out _)) | (go_at_call 88; exact later_call (HK.out _))))
              refine wpQuiet_nil ?_
              intro w1 hw'
              obtain ⟨⟨_, hw1⟩, rfl⟩ := hw'
              have HB1 := Lib.hid (HB0.out.trans (hw1.mono HB0.out.size))
              clear hw1
              go_wp2
              go_ret
              exact ⟨ret1B (HNO.out (fun h => by have h2 := h.2 HK0.out; unfold Ahead at h2; rw [HEQ.out (by omega)] at h2; have := HKC.out.2 h2; have := HC5.out; omega)).symm, HB1.out⟩
            · have d5 : decide ((0 : Int) ≤ z) = false := decide_eq_false c5
              have HORD : Hid (∀ h0 : 0 < k, Ahead ls[k - 1].s l.s) := fun h => by unfold Ahead; rw [HEQ.out (by omega)]; exact HKC.out.1 (by omega)
              have HSN : Hid (∀ (j : Nat) (hj : j < ls.length), j < k + 1 → OkAt ls j hj) := fun i hi h => by
                by_cases e : i = k
                · subst e; exact HOK.out ⟨(serV_iff _).1 HSV.out, HORD.out⟩
                · exact HS.out i hi (by omega)
              refine region_later mixed (by kernel_rfl) ?_
              repeat (go_big_quiet_step (first | (go_at_call 87; exact later_call (HA.out _)) | (go_at_call 88; exact later_call (HK.out _))))
              refine wpQuiet_nil ?_
              intro w1 hw'
              obtain ⟨⟨_, hw1⟩, rfl⟩ := hw'
              have HB1 := Lib.hid (HB0.out.trans (hw1.mono HB0.out.size))
              clear hw1
              clear V0 V1 V2 HA
              go_wp2
              go_roundw
              case rel => exact ⟨k + 1, by omega, by go_num, HSN.out, HB1.out⟩
              case measure => simp [intOf]; omega
      · obtain rfl : k = ls.length := by omega
        have HY := Lib.hid (store_yes (ls := ls) ⟨by omega, fun j hj => HS.out j hj hj⟩)
        go_wp2
        go_ret
        exact ⟨ret1B HY.out.symm, HB.out⟩
end Go.Proofs.YtgmdfkmmbcpikaaGreat.StoI
