/- The program's logOk at notes and at moves. -/
import Derived.Test.YtgmdfkmmbcpikaaGreatBhI
import Derived.BigQuiet
import Derived.BigFrame
namespace Go.Proofs.YtgmdfkmmbcpikaaGreat.LogI
open Go.RowKit Go.Sort Go.BigFrame
open Go.Proofs.YtgmdfkmmbcpikaaGreat.C1
open Go.Proofs.YtgmdfkmmbcpikaaGreat.C2
open Go.Proofs.YtgmdfkmmbcpikaaGreat.Smps
open Go.Proofs.YtgmdfkmmbcpikaaGreat.Mem
open Go.Proofs.YtgmdfkmmbcpikaaGreat.Ser
open Go.Proofs.YtgmdfkmmbcpikaaGreat.Pl (one_read two_read)
open Go.Proofs.YtgmdfkmmbcpikaaGreat.BhM
open Go.Proofs.YtgmdfkmmbcpikaaGreat.BhI
set_option linter.unusedVariables false


/-! ### Notes. -/
theorem note_ok (p : Pt) (w : World) :
    Calls Tryz.prog 295 #[.agg #[.int .i64 p.tick, .int .i64 p.val]] w fun e w' => e = .returned (.bool (noteV p)) ∧ Below w.heap.size w w' := by
  unfold noteV
  cases c1 : tickV p.tick
  all_goals
    go_enter Tryz.func295, Tryz.ntmps295
    go_wp2_with (first | (go_at_call 79; refine (impl_tick6 _ _).mono ?_; rw [c1]; rintro e w' ⟨rfl, rfl⟩) | (go_at_call 80; refine (impl_count6 _ _).mono ?_; rintro e w' ⟨rfl, rfl⟩))
    go_ret
    exact ⟨ret1B (by simp), box_below _ _ _⟩
theorem note_tick (p : Pt) (w : World) :
    Calls Tryz.prog 296 #[.agg #[.int .i64 p.tick, .int .i64 p.val]] w fun e w' => e = .returned (.int .i64 p.tick) ∧ Below w.heap.size w w' := by
  go_enter Tryz.func296, Tryz.ntmps296
  go_wp2
  go_ret
  exact ⟨rfl, box_below _ _ _⟩
theorem note_mok (p : Pt) (w : World) : (method 439 70 (.agg #[.int .i64 p.tick, .int .i64 p.val]) "loop.example/g00808/impl.ok").run Tryz.prog w = .ok (295, .agg #[.int .i64 p.tick, .int .i64 p.val]) w := by kernel_rfl
theorem note_mtick (p : Pt) (w : World) : (method 439 70 (.agg #[.int .i64 p.tick, .int .i64 p.val]) "loop.example/g00808/impl.tick").run Tryz.prog w = .ok (296, .agg #[.int .i64 p.tick, .int .i64 p.val]) w := by kernel_rfl
set_option maxHeartbeats 1000000 in
set_option maxRecDepth 20000 in
theorem impl_logNote (ls : List Pt) (a : Option Addr) (cap : Nat) (w : World) (h : Pts w a ls) (hm : ls.length ≤ 1048576) :
    Calls Tryz.prog 126 #[.slice a ls.length cap] w fun e w' => e = .returned (.bool (logV noteV ls)) ∧ Below w.heap.size w w' := by
  obtain ⟨b, off, ha, hb, hcell⟩ := h.cells
  by_cases hbig : 200 < ls.length
  · have HN := Lib.hid (logV_no (ok := noteV) (ls := ls) (fun h => by omega))
    go_enter Tryz.func126, Tryz.ntmps126
    go_wp2
    go_ret
    exact ⟨ret1B HN.out.symm, Below.refl _ _⟩
  · have Hc := Lib.hid hcell
    have Ha := Lib.hid ha
    have Hb := Lib.hid hb
    clear hcell ha hb h
    go_enter Tryz.func126, Tryz.ntmps126
    go_wp2
    go_loopw [3, 11] (fun v i wr => ∃ (k : Nat) (lt : Int), k ≤ ls.length ∧ i = .int .i64 k ∧ v = .int .i64 lt ∧ Hid (prevT 0 ls k = lt) ∧ Hid (∀ (j : Nat) (hj : j < ls.length), j < k → noteV ls[j] = true ∧ prevT 0 ls j ≤ ls[j].tick) ∧ Hid (Below w.heap.size w wr)) (fun _ i _ => ls.length - (intOf i).toNat)
    case atStart => exact ⟨0, 0, Nat.zero_le _, rfl, rfl, rfl, fun j hj h => absurd h (by omega), Below.refl _ _⟩
    case round =>
      obtain ⟨k, lt, hk, rfl, rfl, HLT, HS, HB⟩ := hrel
      by_cases hlt : k < ls.length
      · obtain rfl := Ha.out (by omega)
        obtain ⟨l, hl⟩ : ∃ l, ls[k] = l := ⟨_, rfl⟩
        have HNO : Hid (¬ (noteV l = true ∧ lt ≤ l.tick) → logV noteV ls = false) := fun hn => logV_no fun h => hn (by have := h.2 k hlt; rw [hl, HLT.out] at this; exact this)
        have HOK : Hid ((noteV l = true ∧ lt ≤ l.tick) → ∀ (j : Nat) (hj : j < ls.length), j < k + 1 → noteV ls[j] = true ∧ prevT 0 ls j ≤ ls[j].tick) := fun h i hi hik => by
          by_cases e : i = k
          · subst e; rw [hl, HLT.out]; exact h
          · exact HS.out i hi (by omega)
        have HNX : Hid (prevT 0 ls (k + 1) = l.tick) := by show _ = _; simp [prevT, hlt, hl]
        have hq := (Hc.out k hlt).kept HB.out (Hb.out (by omega))
        rw [hl] at hq
        obtain ⟨q0, q1⟩ := hq
        have m1 := note_mok l
        have m2 := note_mtick l
        clear hl
        cases c1 : noteV l
        · have HC1 := Lib.hid c1
          have hok := fun w => note_ok l w
          rw [c1] at hok
          have HOKC := Lib.hid hok
          clear hok c1
          go_wp2_with (go_at_call 295; refine (HOKC.out _).mono ?_; rintro e w2 ⟨rfl, hb2⟩; obtain ⟨k0, hB, hz⟩ := one_read hb2; have HB2 := Lib.hid (HB.out.trans (hB.mono HB.out.size)); obtain ⟨c0, f0⟩ := k0.2 0 (by simp); obtain ⟨c1, f1⟩ := k0.2 1 (by simp); simp at c0 c1; clear k0 hB hb2 q0 q1)
          go_ret
          exact ⟨ret1B (HNO.out (fun h => by have := h.1; rw [HC1.out] at this; exact Bool.false_ne_true this)).symm, HB2.out⟩
        · have HC1 := Lib.hid c1
          have hok := fun w => note_ok l w
          rw [c1] at hok
          have HOKC := Lib.hid hok
          clear hok c1
          by_cases c2 : l.tick < lt
          · have HC2 := Lib.hid c2
            go_wp2_with (first
              | (go_at_call 295; refine (HOKC.out _).mono ?_; rintro e w2 ⟨rfl, hb2⟩; obtain ⟨k0, hB, hz⟩ := one_read hb2; have HB2 := Lib.hid (HB.out.trans (hB.mono HB.out.size)); obtain ⟨c0, f0⟩ := k0.2 0 (by simp); obtain ⟨c1, f1⟩ := k0.2 1 (by simp); simp at c0 c1; clear k0 hB hb2 q0 q1)
              | (go_at_call 296; refine (note_tick l _).mono ?_; rintro e w3 ⟨rfl, hb3⟩; have HB3 := Lib.hid (HB2.out.trans (hb3.mono HB2.out.size)); clear hb3))
            go_ret
            exact ⟨ret1B (HNO.out (fun h => by have := h.2; have := HC2.out; omega)).symm, HB3.out⟩
          · have HSN := Lib.hid (HOK.out ⟨HC1.out, by omega⟩)
            go_wp2_with (go_at_call 295; refine (HOKC.out _).mono ?_; rintro e w2 ⟨rfl, hb2⟩; obtain ⟨k0, hB, hz⟩ := one_read hb2; have HB2 := Lib.hid (HB.out.trans (hB.mono HB.out.size)); have HK2 := Lib.hid k0; have HZ2 := Lib.hid hz; obtain ⟨c0, f0⟩ := k0.2 0 (by simp); obtain ⟨c1, f1⟩ := k0.2 1 (by simp); simp at c0 c1; clear k0 hB hb2 q0 q1 hz)
            refine (note_tick l _).mono ?_
            rintro e w3 ⟨rfl, hb3⟩
            have HB3 := Lib.hid (HB2.out.trans (hb3.mono HB2.out.size))
            have HK3 := Lib.hid (HK2.out.kept hb3)
            obtain ⟨d0, g0⟩ := HK3.out.2 0 (by simp)
            obtain ⟨d1, g1⟩ := HK3.out.2 1 (by simp)
            simp at d0 d1
            clear hb3 c0 c1 f0 f1
            go_wp2_with (go_at_call 296; refine (note_tick l _).mono ?_; rintro e w4 ⟨rfl, hb4⟩; have HB4 := Lib.hid (HB3.out.trans (hb4.mono HB3.out.size)); clear hb4)
            go_roundw
            case rel => exact ⟨k + 1, l.tick, by omega, by go_num, rfl, HNX.out, HSN.out, HB4.out⟩
            case measure => simp [intOf]; omega
      · obtain rfl : k = ls.length := by omega
        have HF := Lib.hid (logV_of (ok := noteV) (ls := ls) (by omega) (fun j hj => HS.out j hj hj))
        go_wp2
        go_ret
        exact ⟨ret1B HF.out.symm, HB.out⟩
theorem impl_notesok (ls : List Pt) (a : Option Addr) (cap : Nat) (w : World) (h : Pts w a ls) (hm : ls.length ≤ 1048576) :
    Calls Tryz.prog 89 #[.slice a ls.length cap] w fun e w' => e = .returned (.bool (logV noteV ls)) ∧ Below w.heap.size w w' := by
  have H := Lib.hid h
  clear h
  go_enter Tryz.func89, Tryz.ntmps89
  go_wp2_with (go_at_call 126; refine (impl_logNote ls _ _ _ H.out hm).mono ?_; rintro e w2 ⟨rfl, hb2⟩; have HB2 := Lib.hid hb2; clear hb2)
  go_ret
  exact ⟨rfl, HB2.out⟩

/-! ### Moves. -/
theorem move_ok (p : Pt) (w : World) :
    Calls Tryz.prog 297 #[.agg #[.int .i64 p.tick, .int .i64 p.val]] w fun e w' => e = .returned (.bool (moveV p)) ∧ Below w.heap.size w w' := by
  unfold moveV
  cases c1 : tickV p.tick
  · go_enter Tryz.func297, Tryz.ntmps297
    go_wp2_with (go_at_call 79; refine (impl_tick6 _ _).mono ?_; rw [c1]; rintro e w' ⟨rfl, rfl⟩)
    go_ret
    exact ⟨ret1B (by simp), box_below _ _ _⟩
  · rcases inV_ways p.val (-1000) 1000 with ⟨h1, h2, e⟩ | ⟨h1, e⟩ | ⟨h1, h2, e⟩
    all_goals
      rw [e]
      clear e
      go_enter Tryz.func297, Tryz.ntmps297
      go_wp2_with (go_at_call 79; refine (impl_tick6 _ _).mono ?_; rw [c1]; rintro e w' ⟨rfl, rfl⟩)
      go_ret
      exact ⟨ret1B (by first | rfl | (simp; try omega)), box_below _ _ _⟩
theorem move_tick (p : Pt) (w : World) :
    Calls Tryz.prog 298 #[.agg #[.int .i64 p.tick, .int .i64 p.val]] w fun e w' => e = .returned (.int .i64 p.tick) ∧ Below w.heap.size w w' := by
  go_enter Tryz.func298, Tryz.ntmps298
  go_wp2
  go_ret
  exact ⟨rfl, box_below _ _ _⟩
theorem move_mok (p : Pt) (w : World) : (method 439 72 (.agg #[.int .i64 p.tick, .int .i64 p.val]) "loop.example/g00808/impl.ok").run Tryz.prog w = .ok (297, .agg #[.int .i64 p.tick, .int .i64 p.val]) w := by kernel_rfl
theorem move_mtick (p : Pt) (w : World) : (method 439 72 (.agg #[.int .i64 p.tick, .int .i64 p.val]) "loop.example/g00808/impl.tick").run Tryz.prog w = .ok (298, .agg #[.int .i64 p.tick, .int .i64 p.val]) w := by kernel_rfl
set_option maxHeartbeats 1000000 in
set_option maxRecDepth 20000 in
theorem impl_logMove (ls : List Pt) (a : Option Addr) (cap : Nat) (w : World) (h : Pts w a ls) (hm : ls.length ≤ 1048576) :
    Calls Tryz.prog 127 #[.slice a ls.length cap] w fun e w' => e = .returned (.bool (logV moveV ls)) ∧ Below w.heap.size w w' := by
  obtain ⟨b, off, ha, hb, hcell⟩ := h.cells
  by_cases hbig : 200 < ls.length
  · have HN := Lib.hid (logV_no (ok := moveV) (ls := ls) (fun h => by omega))
    go_enter Tryz.func127, Tryz.ntmps127
    go_wp2
    go_ret
    exact ⟨ret1B HN.out.symm, Below.refl _ _⟩
  · have Hc := Lib.hid hcell
    have Ha := Lib.hid ha
    have Hb := Lib.hid hb
    clear hcell ha hb h
    go_enter Tryz.func127, Tryz.ntmps127
    go_wp2
    go_loopw [3, 11] (fun v i wr => ∃ (k : Nat) (lt : Int), k ≤ ls.length ∧ i = .int .i64 k ∧ v = .int .i64 lt ∧ Hid (prevT 0 ls k = lt) ∧ Hid (∀ (j : Nat) (hj : j < ls.length), j < k → moveV ls[j] = true ∧ prevT 0 ls j ≤ ls[j].tick) ∧ Hid (Below w.heap.size w wr)) (fun _ i _ => ls.length - (intOf i).toNat)
    case atStart => exact ⟨0, 0, Nat.zero_le _, rfl, rfl, rfl, fun j hj h => absurd h (by omega), Below.refl _ _⟩
    case round =>
      obtain ⟨k, lt, hk, rfl, rfl, HLT, HS, HB⟩ := hrel
      by_cases hlt : k < ls.length
      · obtain rfl := Ha.out (by omega)
        obtain ⟨l, hl⟩ : ∃ l, ls[k] = l := ⟨_, rfl⟩
        have HNO : Hid (¬ (moveV l = true ∧ lt ≤ l.tick) → logV moveV ls = false) := fun hn => logV_no fun h => hn (by have := h.2 k hlt; rw [hl, HLT.out] at this; exact this)
        have HOK : Hid ((moveV l = true ∧ lt ≤ l.tick) → ∀ (j : Nat) (hj : j < ls.length), j < k + 1 → moveV ls[j] = true ∧ prevT 0 ls j ≤ ls[j].tick) := fun h i hi hik => by
          by_cases e : i = k
          · subst e; rw [hl, HLT.out]; exact h
          · exact HS.out i hi (by omega)
        have HNX : Hid (prevT 0 ls (k + 1) = l.tick) := by show _ = _; simp [prevT, hlt, hl]
        have hq := (Hc.out k hlt).kept HB.out (Hb.out (by omega))
        rw [hl] at hq
        obtain ⟨q0, q1⟩ := hq
        have m1 := move_mok l
        have m2 := move_mtick l
        clear hl
        cases c1 : moveV l
        · have HC1 := Lib.hid c1
          have hok := fun w => move_ok l w
          rw [c1] at hok
          have HOKC := Lib.hid hok
          clear hok c1
          go_wp2_with (go_at_call 297; refine (HOKC.out _).mono ?_; rintro e w2 ⟨rfl, hb2⟩; obtain ⟨k0, hB, hz⟩ := one_read hb2; have HB2 := Lib.hid (HB.out.trans (hB.mono HB.out.size)); obtain ⟨c0, f0⟩ := k0.2 0 (by simp); obtain ⟨c1, f1⟩ := k0.2 1 (by simp); simp at c0 c1; clear k0 hB hb2 q0 q1)
          go_ret
          exact ⟨ret1B (HNO.out (fun h => by have := h.1; rw [HC1.out] at this; exact Bool.false_ne_true this)).symm, HB2.out⟩
        · have HC1 := Lib.hid c1
          have hok := fun w => move_ok l w
          rw [c1] at hok
          have HOKC := Lib.hid hok
          clear hok c1
          by_cases c2 : l.tick < lt
          · have HC2 := Lib.hid c2
            go_wp2_with (first
              | (go_at_call 297; refine (HOKC.out _).mono ?_; rintro e w2 ⟨rfl, hb2⟩; obtain ⟨k0, hB, hz⟩ := one_read hb2; have HB2 := Lib.hid (HB.out.trans (hB.mono HB.out.size)); obtain ⟨c0, f0⟩ := k0.2 0 (by simp); obtain ⟨c1, f1⟩ := k0.2 1 (by simp); simp at c0 c1; clear k0 hB hb2 q0 q1)
              | (go_at_call 298; refine (move_tick l _).mono ?_; rintro e w3 ⟨rfl, hb3⟩; have HB3 := Lib.hid (HB2.out.trans (hb3.mono HB2.out.size)); clear hb3))
            go_ret
            exact ⟨ret1B (HNO.out (fun h => by have := h.2; have := HC2.out; omega)).symm, HB3.out⟩
          · have HSN := Lib.hid (HOK.out ⟨HC1.out, by omega⟩)
            go_wp2_with (go_at_call 297; refine (HOKC.out _).mono ?_; rintro e w2 ⟨rfl, hb2⟩; obtain ⟨k0, hB, hz⟩ := one_read hb2; have HB2 := Lib.hid (HB.out.trans (hB.mono HB.out.size)); have HK2 := Lib.hid k0; have HZ2 := Lib.hid hz; obtain ⟨c0, f0⟩ := k0.2 0 (by simp); obtain ⟨c1, f1⟩ := k0.2 1 (by simp); simp at c0 c1; clear k0 hB hb2 q0 q1 hz)
            refine (move_tick l _).mono ?_
            rintro e w3 ⟨rfl, hb3⟩
            have HB3 := Lib.hid (HB2.out.trans (hb3.mono HB2.out.size))
            have HK3 := Lib.hid (HK2.out.kept hb3)
            obtain ⟨d0, g0⟩ := HK3.out.2 0 (by simp)
            obtain ⟨d1, g1⟩ := HK3.out.2 1 (by simp)
            simp at d0 d1
            clear hb3 c0 c1 f0 f1
            go_wp2_with (go_at_call 298; refine (move_tick l _).mono ?_; rintro e w4 ⟨rfl, hb4⟩; have HB4 := Lib.hid (HB3.out.trans (hb4.mono HB3.out.size)); clear hb4)
            go_roundw
            case rel => exact ⟨k + 1, l.tick, by omega, by go_num, rfl, HNX.out, HSN.out, HB4.out⟩
            case measure => simp [intOf]; omega
      · obtain rfl : k = ls.length := by omega
        have HF := Lib.hid (logV_of (ok := moveV) (ls := ls) (by omega) (fun j hj => HS.out j hj hj))
        go_wp2
        go_ret
        exact ⟨ret1B HF.out.symm, HB.out⟩
theorem impl_movesok (ls : List Pt) (a : Option Addr) (cap : Nat) (w : World) (h : Pts w a ls) (hm : ls.length ≤ 1048576) :
    Calls Tryz.prog 90 #[.slice a ls.length cap] w fun e w' => e = .returned (.bool (logV moveV ls)) ∧ Below w.heap.size w w' := by
  have H := Lib.hid h
  clear h
  go_enter Tryz.func90, Tryz.ntmps90
  go_wp2_with (go_at_call 127; refine (impl_logMove ls _ _ _ H.out hm).mono ?_; rintro e w2 ⟨rfl, hb2⟩; have HB2 := Lib.hid hb2; clear hb2)
  go_ret
  exact ⟨rfl, HB2.out⟩
end Go.Proofs.YtgmdfkmmbcpikaaGreat.LogI
