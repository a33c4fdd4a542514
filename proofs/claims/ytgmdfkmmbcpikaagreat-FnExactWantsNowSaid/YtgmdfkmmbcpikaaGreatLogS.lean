/- The model's NotesOk and MovesOk. -/
import Derived.Test.YtgmdfkmmbcpikaaGreatBhM
import Derived.BigQuiet
import Derived.BigFrame
namespace Go.Proofs.YtgmdfkmmbcpikaaGreat.LogS
open Go.RowKit Go.Sort Go.BigFrame
open Go.Proofs.YtgmdfkmmbcpikaaGreat.C1
open Go.Proofs.YtgmdfkmmbcpikaaGreat.C2
open Go.Proofs.YtgmdfkmmbcpikaaGreat.Smps
open Go.Proofs.YtgmdfkmmbcpikaaGreat.Mem
open Go.Proofs.YtgmdfkmmbcpikaaGreat.Ser
open Go.Proofs.YtgmdfkmmbcpikaaGreat.BhM
set_option linter.unusedVariables false

theorem tick_later {W : World} (x : Int) {b : Bool} (hb : tickV x = b) (q : Later W) :
    Calls Tryz.prog 25 #[.int .i64 x] q.u fun e w' => e = .returned (.bool b) ∧ Below q.u.heap.size q.u w' :=
  (C2.spec_tick x q.u).mono fun e w' ⟨he, hw⟩ => ⟨by rw [he, ← hb]; rfl, by rw [← hw]; exact Below.refl _ _⟩
theorem in_later {W : World} (x a c : Int) {b : Bool} (hb : inV x a c = b) (q : Later W) :
    Calls Tryz.prog 31 #[.int .i64 x, .int .i64 a, .int .i64 c] q.u fun e w' => e = .returned (.bool b) ∧ Below q.u.heap.size q.u w' :=
  (C2.spec_in x a c q.u).mono fun e w' ⟨he, hw⟩ => ⟨by rw [he, ← hb]; rfl, by rw [← hw]; exact Below.refl _ _⟩
theorem spec_in6 (x a c : Int) (w : World) : Calls Tryz.prog 31 #[.int .i64 x, .int .i64 a, .int .i64 c] w fun e w' => e = .returned (.bool (inV x a c)) ∧ w = w' := C2.spec_in x a c w
theorem spec_tick6 (x : Int) (w : World) : Calls Tryz.prog 25 #[.int .i64 x] w fun e w' => e = .returned (.bool (tickV x)) ∧ w = w' := C2.spec_tick x w
theorem spec_count6 (x : Int) (w : World) :
    Calls Tryz.prog 26 #[.int .i64 x] w fun e w' => e = .returned (.bool (countV x)) ∧ w = w' := by
  go_enter Tryz.func26, Tryz.ntmps26
  go_wp2_with (go_at_call 31; refine (spec_in6 _ _ _ _).mono ?_; rintro e w' ⟨rfl, rfl⟩)
  go_ret
  exact ⟨rfl, rfl⟩
theorem count_later {W : World} (x : Int) {b : Bool} (hb : countV x = b) (q : Later W) :
    Calls Tryz.prog 26 #[.int .i64 x] q.u fun e w' => e = .returned (.bool b) ∧ Below q.u.heap.size q.u w' :=
  (spec_count6 x q.u).mono fun e w' ⟨he, hw⟩ => ⟨by rw [he, ← hb], by rw [← hw]; exact Below.refl _ _⟩
set_option maxHeartbeats 1000000 in
set_option maxRecDepth 20000 in
theorem spec_notesok (ls : List Pt) (a : Option Addr) (cap : Nat) (w : World) (h : Pts w a ls) (hm : ls.length ≤ 1048576) :
    Calls Tryz.prog 29 #[.slice a ls.length cap] w fun e w' => e = .returned (.bool (logV noteV ls)) ∧ Below w.heap.size w w' := by
  obtain ⟨b, off, ha, hb, hcell⟩ := h.cells
  have mixed : Tryz.prog.follows .mixedOrders = true := by kernel_rfl
  by_cases hbig : 200 < ls.length
  · have HN := Lib.hid (logV_no (ok := noteV) (ls := ls) (fun h => by omega))
    go_enter Tryz.func29, Tryz.ntmps29
    go_wp2
    go_ret
    exact ⟨ret1B HN.out.symm, Below.refl _ _⟩
  · have Hc := Lib.hid hcell
    have Ha := Lib.hid ha
    have Hb := Lib.hid hb
    clear hcell ha hb h
    go_enter Tryz.func29, Tryz.ntmps29
    go_wp2
    go_loopw [3] (fun i wr => ∃ k : Nat, k ≤ ls.length ∧ i = .int .i64 k ∧ Hid (∀ (j : Nat) (hj : j < ls.length), j < k → noteV ls[j] = true ∧ prevT 0 ls j ≤ ls[j].tick) ∧ Hid (Below w.heap.size w wr)) (fun i _ => ls.length - (intOf i).toNat)
    case atStart => exact ⟨0, Nat.zero_le _, rfl, fun j hj h => absurd h (by omega), Below.refl _ _⟩
    case round =>
      obtain ⟨k, hk, rfl, HS, HB⟩ := hrel
      by_cases hlt : k < ls.length
      · obtain rfl := Ha.out (by omega)
        obtain ⟨l, hl⟩ : ∃ l, ls[k] = l := ⟨_, rfl⟩
        have HNO : Hid (¬ (noteV l = true ∧ prevT 0 ls k ≤ l.tick) → logV noteV ls = false) := fun hn => logV_no fun h => hn (by have := h.2 k hlt; rw [hl] at this; exact this)
        have HOK : Hid ((noteV l = true ∧ prevT 0 ls k ≤ l.tick) → ∀ (j : Nat) (hj : j < ls.length), j < k + 1 → noteV ls[j] = true ∧ prevT 0 ls j ≤ ls[j].tick) := fun h i hi hik => by
          by_cases e : i = k
          · subst e; rw [hl]; exact h
          · exact HS.out i hi (by omega)
        have hq := (Hc.out k hlt).kept HB.out (Hb.out (by omega))
        rw [hl] at hq
        obtain ⟨q0, q1⟩ := hq
        have hbr := Nat.lt_of_lt_of_le (Hb.out (by omega)) HB.out.size
        have V0 := later_cell hbr q0
        have V1 := later_cell hbr q1
        have HBR := Lib.hid hbr
        clear hl hbr
        go_wp2_with fail
        clear q0 q1
        cases c1 : tickV l.tick
        · have HT := Lib.hid (tick_later (W := wr) l.tick c1)
          have HC1 := Lib.hid c1
          clear c1
          refine region_later mixed (by kernel_rfl) ?_
          repeat (go_big_quiet_step (first | (go_at_call 25; exact later_call (HT.out _)) | (go_at_call 26; exact later_call (HV.out _))))
          refine wpQuiet_nil ?_
          intro w1 hw'
          obtain ⟨⟨_, hw1⟩, rfl⟩ := hw'
          have HB1 := Lib.hid (HB.out.trans (hw1.mono HB.out.size))
          clear hw1
          go_wp2
          go_ret
          exact ⟨ret1B (HNO.out (fun h => by have := h.1; simp only [noteV, Bool.and_eq_true] at this; rw [HC1.out] at this; exact Bool.false_ne_true this.1)).symm, HB1.out⟩
        · have HT := Lib.hid (tick_later (W := wr) l.tick c1)
          have HC1 := Lib.hid c1
          clear c1
          cases c2 : countV l.val
          · have HV := Lib.hid (count_later (W := wr) l.val c2)
            have HC2 := Lib.hid c2
            clear c2
            refine region_later mixed (by kernel_rfl) ?_
            repeat (go_big_quiet_step (first | (go_at_call 25; exact later_call (HT.out _)) | (go_at_call 26; exact later_call (HV.out _))))
            refine wpQuiet_nil ?_
            intro w1 hw'
            obtain ⟨⟨_, hw1⟩, rfl⟩ := hw'
            have HB1 := Lib.hid (HB.out.trans (hw1.mono HB.out.size))
            clear hw1
            go_wp2
            go_ret
            exact ⟨ret1B (HNO.out (fun h => by have := h.1; simp only [noteV, Bool.and_eq_true] at this; rw [HC2.out] at this; exact Bool.false_ne_true this.2)).symm, HB1.out⟩
          · have HV := Lib.hid (count_later (W := wr) l.val c2)
            have HOKL : Hid (noteV l = true) := by show _ = _; unfold noteV; rw [HC1.out, c2]; rfl
            clear c2
            have hA : (¬ 0 < k ∧ decide ((0 : Int) < (k : Int)) = false) ∨ (0 < k ∧ decide ((0 : Int) < (k : Int)) = true) := by
              by_cases h : 0 < k
              · exact .inr ⟨h, decide_eq_true (by omega)⟩
              · exact .inl ⟨h, decide_eq_false (by omega)⟩
            rcases hA with ⟨k0, d0⟩ | ⟨k0, d0⟩
            · have HSN := Lib.hid (HOK.out ⟨HOKL.out, by
                obtain rfl : k = 0 := by omega
                have := HC1.out
                simp only [tickV, inV_iff] at this
                exact this.1⟩)
              refine region_later mixed (by kernel_rfl) ?_
              repeat (go_big_quiet_step (first | (go_at_call 25; exact later_call (HT.out _)) | (go_at_call 26; exact later_call (HV.out _))))
              refine wpQuiet_nil ?_
              intro w1 hw'
              obtain ⟨⟨_, hw1⟩, rfl⟩ := hw'
              have HB1 := Lib.hid (HB.out.trans (hw1.mono HB.out.size))
              clear hw1 d0 V0 V1 HT HV
              go_wp2
              go_roundw
              case rel => exact ⟨k + 1, by omega, by go_num, HSN.out, HB1.out⟩
              case measure => simp [intOf]; omega
            · obtain ⟨p, hp⟩ : ∃ p : Nat, (k : Int) - 1 = (p : Int) := ⟨k - 1, by omega⟩
              have hkp : k = p + 1 := by omega
              have hpl : p < ls.length := by omega
              obtain ⟨l0, hl0⟩ : ∃ l0, ls[p] = l0 := ⟨_, rfl⟩
              have HEQ : Hid (prevT 0 ls k = l0.tick) := by
                show _ = _
                rw [hkp]
                simp [prevT, hpl, hl0]
              obtain ⟨r0, -⟩ := (Hc.out p hpl).kept HB.out (Hb.out (by omega))
              rw [hl0] at r0
              have R0 := later_cell HBR.out r0
              clear hl0 hkp r0
              by_cases c5 : l.tick < l0.tick
              · have f5 : decide (l.tick < l0.tick) = true := decide_eq_true c5
                have HC5 := Lib.hid c5
                refine region_later mixed (by kernel_rfl) ?_
                repeat (go_big_quiet_step (first | (go_at_call 25; exact later_call (HT.out _)) | (go_at_call 26; exact later_call (HV.out _))))
                refine wpQuiet_nil ?_
                intro w1 hw'
                obtain ⟨⟨_, hw1⟩, rfl⟩ := hw'
                have HB1 := Lib.hid (HB.out.trans (hw1.mono HB.out.size))
                clear hw1
                go_wp2
                go_ret
                exact ⟨ret1B (HNO.out (fun h => by have h2 := h.2; rw [HEQ.out] at h2; have := HC5.out; omega)).symm, HB1.out⟩
              · have f5 : decide (l.tick < l0.tick) = false := decide_eq_false c5
                have HSN := Lib.hid (HOK.out ⟨HOKL.out, by rw [HEQ.out]; omega⟩)
                refine region_later mixed (by kernel_rfl) ?_
                repeat (go_big_quiet_step (first | (go_at_call 25; exact later_call (HT.out _)) | (go_at_call 26; exact later_call (HV.out _))))
                refine wpQuiet_nil ?_
                intro w1 hw'
                obtain ⟨⟨_, hw1⟩, rfl⟩ := hw'
                have HB1 := Lib.hid (HB.out.trans (hw1.mono HB.out.size))
                clear hw1 d0 f5 V0 V1 R0 HT HV
                go_wp2
                go_roundw
                case rel => exact ⟨k + 1, by omega, by go_num, HSN.out, HB1.out⟩
                case measure => simp [intOf]; omega
      · obtain rfl : k = ls.length := by omega
        have HF := Lib.hid (logV_of (ok := noteV) (ls := ls) (by omega) (fun j hj => HS.out j hj hj))
        go_wp2
        go_ret
        exact ⟨ret1B HF.out.symm, HB.out⟩
set_option maxHeartbeats 1000000 in
set_option maxRecDepth 20000 in
theorem spec_movesok (ls : List Pt) (a : Option Addr) (cap : Nat) (w : World) (h : Pts w a ls) (hm : ls.length ≤ 1048576) :
    Calls Tryz.prog 30 #[.slice a ls.length cap] w fun e w' => e = .returned (.bool (logV moveV ls)) ∧ Below w.heap.size w w' := by
  obtain ⟨b, off, ha, hb, hcell⟩ := h.cells
  have mixed : Tryz.prog.follows .mixedOrders = true := by kernel_rfl
  by_cases hbig : 200 < ls.length
  · have HN := Lib.hid (logV_no (ok := moveV) (ls := ls) (fun h => by omega))
    go_enter Tryz.func30, Tryz.ntmps30
    go_wp2
    go_ret
    exact ⟨ret1B HN.out.symm, Below.refl _ _⟩
  · have Hc := Lib.hid hcell
    have Ha := Lib.hid ha
    have Hb := Lib.hid hb
    clear hcell ha hb h
    go_enter Tryz.func30, Tryz.ntmps30
    go_wp2
    go_loopw [3] (fun i wr => ∃ k : Nat, k ≤ ls.length ∧ i = .int .i64 k ∧ Hid (∀ (j : Nat) (hj : j < ls.length), j < k → moveV ls[j] = true ∧ prevT 0 ls j ≤ ls[j].tick) ∧ Hid (Below w.heap.size w wr)) (fun i _ => ls.length - (intOf i).toNat)
    case atStart => exact ⟨0, Nat.zero_le _, rfl, fun j hj h => absurd h (by omega), Below.refl _ _⟩
    case round =>
      obtain ⟨k, hk, rfl, HS, HB⟩ := hrel
      by_cases hlt : k < ls.length
      · obtain rfl := Ha.out (by omega)
        obtain ⟨l, hl⟩ : ∃ l, ls[k] = l := ⟨_, rfl⟩
        have HNO : Hid (¬ (moveV l = true ∧ prevT 0 ls k ≤ l.tick) → logV moveV ls = false) := fun hn => logV_no fun h => hn (by have := h.2 k hlt; rw [hl] at this; exact this)
        have HOK : Hid ((moveV l = true ∧ prevT 0 ls k ≤ l.tick) → ∀ (j : Nat) (hj : j < ls.length), j < k + 1 → moveV ls[j] = true ∧ prevT 0 ls j ≤ ls[j].tick) := fun h i hi hik => by
          by_cases e : i = k
          · subst e; rw [hl]; exact h
          · exact HS.out i hi (by omega)
        have hq := (Hc.out k hlt).kept HB.out (Hb.out (by omega))
        rw [hl] at hq
        obtain ⟨q0, q1⟩ := hq
        have hbr := Nat.lt_of_lt_of_le (Hb.out (by omega)) HB.out.size
        have V0 := later_cell hbr q0
        have V1 := later_cell hbr q1
        have HBR := Lib.hid hbr
        clear hl hbr
        go_wp2_with fail
        clear q0 q1
        cases c1 : tickV l.tick
        · have HT := Lib.hid (tick_later (W := wr) l.tick c1)
          have HC1 := Lib.hid c1
          clear c1
          refine region_later mixed (by kernel_rfl) ?_
          repeat (go_big_quiet_step (first | (go_at_call 25; exact later_call (HT.out _)) | (go_at_call 31; exact later_call (HV.out _))))
          refine wpQuiet_nil ?_
          intro w1 hw'
          obtain ⟨⟨_, hw1⟩, rfl⟩ := hw'
          have HB1 := Lib.hid (HB.out.trans (hw1.mono HB.out.size))
          clear hw1
          go_wp2
          go_ret
          exact ⟨ret1B (HNO.out (fun h => by have := h.1; simp only [moveV, Bool.and_eq_true] at this; rw [HC1.out] at this; exact Bool.false_ne_true this.1)).symm, HB1.out⟩
        · have HT := Lib.hid (tick_later (W := wr) l.tick c1)
          have HC1 := Lib.hid c1
          clear c1
          cases c2 : inV l.val (-1000) 1000
          · have HV := Lib.hid (in_later (W := wr) l.val (-1000) 1000 c2)
            have HC2 := Lib.hid c2
            clear c2
            refine region_later mixed (by kernel_rfl) ?_
            repeat (go_big_quiet_step (first | (go_at_call 25; exact later_call (HT.out _)) | (go_at_call 31; exact later_call (HV.out _))))
            refine wpQuiet_nil ?_
            intro w1 hw'
            obtain ⟨⟨_, hw1⟩, rfl⟩ := hw'
            have HB1 := Lib.hid (HB.out.trans (hw1.mono HB.out.size))
            clear hw1
            go_wp2
            go_ret
            exact ⟨ret1B (HNO.out (fun h => by have := h.1; simp only [moveV, Bool.and_eq_true] at this; rw [HC2.out] at this; exact Bool.false_ne_true this.2)).symm, HB1.out⟩
          · have HV := Lib.hid (in_later (W := wr) l.val (-1000) 1000 c2)
            have HOKL : Hid (moveV l = true) := by show _ = _; unfold moveV; rw [HC1.out, c2]; rfl
            clear c2
            have hA : (¬ 0 < k ∧ decide ((0 : Int) < (k : Int)) = false) ∨ (0 < k ∧ decide ((0 : Int) < (k : Int)) = true) := by
              by_cases h : 0 < k
              · exact .inr ⟨h, decide_eq_true (by omega)⟩
              · exact .inl ⟨h, decide_eq_false (by omega)⟩
            rcases hA with ⟨k0, d0⟩ | ⟨k0, d0⟩
            · have HSN := Lib.hid (HOK.out ⟨HOKL.out, by
                obtain rfl : k = 0 := by omega
                have := HC1.out
                simp only [tickV, inV_iff] at this
                exact this.1⟩)
              refine region_later mixed (by kernel_rfl) ?_
              repeat (go_big_quiet_step (first | (go_at_call 25; exact later_call (HT.out _)) | (go_at_call 31; exact later_call (HV.out _))))
              refine wpQuiet_nil ?_
              intro w1 hw'
              obtain ⟨⟨_, hw1⟩, rfl⟩ := hw'
              have HB1 := Lib.hid (HB.out.trans (hw1.mono HB.out.size))
              clear hw1 d0 V0 V1 HT HV
              go_wp2
              go_roundw
              case rel => exact ⟨k + 1, by omega, by go_num, HSN.out, HB1.out⟩
              case measure => simp [intOf]; omega
            · obtain ⟨p, hp⟩ : ∃ p : Nat, (k : Int) - 1 = (p : Int) := ⟨k - 1, by omega⟩
              have hkp : k = p + 1 := by omega
              have hpl : p < ls.length := by omega
              obtain ⟨l0, hl0⟩ : ∃ l0, ls[p] = l0 := ⟨_, rfl⟩
              have HEQ : Hid (prevT 0 ls k = l0.tick) := by
                show _ = _
                rw [hkp]
                simp [prevT, hpl, hl0]
              obtain ⟨r0, -⟩ := (Hc.out p hpl).kept HB.out (Hb.out (by omega))
              rw [hl0] at r0
              have R0 := later_cell HBR.out r0
              clear hl0 hkp r0
              by_cases c5 : l.tick < l0.tick
              · have f5 : decide (l.tick < l0.tick) = true := decide_eq_true c5
                have HC5 := Lib.hid c5
                refine region_later mixed (by kernel_rfl) ?_
                repeat (go_big_quiet_step (first | (go_at_call 25; exact later_call (HT.out _)) | (go_at_call 31; exact later_call (HV.out _))))
                refine wpQuiet_nil ?_
                intro w1 hw'
                obtain ⟨⟨_, hw1⟩, rfl⟩ := hw'
                have HB1 := Lib.hid (HB.out.trans (hw1.mono HB.out.size))
                clear hw1
                go_wp2
                go_ret
                exact ⟨ret1B (HNO.out (fun h => by have h2 := h.2; rw [HEQ.out] at h2; have := HC5.out; omega)).symm, HB1.out⟩
              · have f5 : decide (l.tick < l0.tick) = false := decide_eq_false c5
                have HSN := Lib.hid (HOK.out ⟨HOKL.out, by rw [HEQ.out]; omega⟩)
                refine region_later mixed (by kernel_rfl) ?_
                repeat (go_big_quiet_step (first | (go_at_call 25; exact later_call (HT.out _)) | (go_at_call 31; exact later_call (HV.out _))))
                refine wpQuiet_nil ?_
                intro w1 hw'
                obtain ⟨⟨_, hw1⟩, rfl⟩ := hw'
                have HB1 := Lib.hid (HB.out.trans (hw1.mono HB.out.size))
                clear hw1 d0 f5 V0 V1 R0 HT HV
                go_wp2
                go_roundw
                case rel => exact ⟨k + 1, by omega, by go_num, HSN.out, HB1.out⟩
                case measure => simp [intOf]; omega
      · obtain rfl : k = ls.length := by omega
        have HF := Lib.hid (logV_of (ok := moveV) (ls := ls) (by omega) (fun j hj => HS.out j hj hj))
        go_wp2
        go_ret
        exact ⟨ret1B HF.out.symm, HB.out⟩
end Go.Proofs.YtgmdfkmmbcpikaaGreat.LogS
