/- The iterator 'within' at notes and at moves: its contract. -/
import Derived.Test.YtcjjdnfikccnmaaItr
import Derived.Test.YtcjjdnfikccnmaaTail
import Derived.Test.YtcjjdnfikccnmaaLogI
namespace Go.Proofs.Ytcjjdnfikccnmaa.Win
open Go.RowKit Go.Shelf Go.BigFrame
open Go.Proofs.Ytcjjdnfikccnmaa.C1
open Go.Proofs.Ytcjjdnfikccnmaa.C2
open Go.Proofs.Ytcjjdnfikccnmaa.Smps
open Go.Proofs.Ytcjjdnfikccnmaa.Mem
open Go.Proofs.Ytcjjdnfikccnmaa.Ser
open Go.Proofs.Ytcjjdnfikccnmaa.BhM
open Go.Proofs.Ytcjjdnfikccnmaa.LogI
open Go.Proofs.Ytcjjdnfikccnmaa.Itr
open Go.Proofs.Ytcjjdnfikccnmaa.Tail
attribute [local go_sem] Oper.semAt_some
set_option linter.unusedVariables false

theorem win_prefix (now span : Int) (ls : List Pt) (k : Nat) : winL now span (ls.take k) <+: winL now span ls := by
  unfold winL
  exact (List.take_prefix k ls).filter _
/-- The block of a slice that holds something. -/
def InBlock (a : Option Addr) (n k : Nat) : Prop := 0 < n ∧ ∃ o s, a = some ⟨k, o, s⟩
theorem sv_of_alloc {U : Nat → Prop} (w : World) (o : Obj) : Sv U w (w.alloc o) := Sv.of_below ((Below.refl _ w).alloc (Nat.le_refl _) o)

/-! ### Notes. -/
theorem within_note (a : Option Addr) (len cap : Nat) (now span : Int) (n : Nat) (w : World) :
    CallsIn Fence.wide n Try.prog 110 #[.slice a len cap, .int .i64 now, .int .i64 span] w fun e w' =>
      e = .returned (.func (.func 152) #[] #[.pointer (some ⟨w.heap.size, 0, none⟩), .pointer (some ⟨w.heap.size + 1, 0, none⟩), .pointer (some ⟨w.heap.size + 2, 0, none⟩)]) ∧
      w' = ((w.alloc (.cells #[.slice a len cap] 29)).alloc (.cells #[.int .i64 now] 3)).alloc (.cells #[.int .i64 span] 3) := by
  refine callsIn_wide.2 ?_
  go_enter Try.func110, Try.ntmps110
  go_wp2
  go_ret
  exact ⟨rfl, rfl⟩
theorem enters_note : ∀ args w, (callFunc 152 args).run Try.prog w = .ok (.enter 152 args) w := enters_of Try.func152 (by kernel_rfl) rfl
set_option maxRecDepth 100000 in
set_option maxHeartbeats 4000000 in
theorem iter_note (ls : List Pt) (a : Option Addr) (cap : Nat) (now span : Int) (hn : 0 ≤ now ∧ now ≤ 1000000000) (hs : 0 ≤ span ∧ span ≤ 1000) (hl : ls.length ≤ 200) (b0 b1 b2 : Nat) (w : World)
    (h0 : b0 < w.heap.size) (h1 : b1 < w.heap.size) (h2 : b2 < w.heap.size) (c0 : w.cell? ⟨b0, 0, none⟩ = some (.slice a ls.length cap)) (c1 : w.cell? ⟨b1, 0, none⟩ = some (.int .i64 now)) (c2 : w.cell? ⟨b2, 0, none⟩ = some (.int .i64 span)) (hp : Pts w a ls) :
    Iter Try.prog 152 #[.pointer (some ⟨b0, 0, none⟩), .pointer (some ⟨b1, 0, none⟩), .pointer (some ⟨b2, 0, none⟩)] (fun x : Pt => #[.agg #[.int .i64 x.tick, .int .i64 x.val]]) (fun k => k = b0 ∨ k = b1 ∨ k = b2 ∨ InBlock a ls.length k) (winL now span ls) w := by
  intro l U J Jx W hW hU hJ hJx hY hj n
  obtain ⟨hn1, hn2⟩ := hn
  obtain ⟨hs1, hs2⟩ := hs
  have g0 := (hW.cell (p := ⟨b0, 0, none⟩) h0).trans c0
  have HW := Lib.hid hW
  have HU := Lib.hid hU
  have HJ := Lib.hid hJ
  have HJx := Lib.hid hJx
  have HY := Lib.hid hY
  have HP := Lib.hid (hp.kept hW)
  have HC1 := Lib.hid ((hW.cell (p := ⟨b1, 0, none⟩) h1).trans c1)
  have HC2 := Lib.hid ((hW.cell (p := ⟨b2, 0, none⟩) h2).trans c2)
  have H1 := Lib.hid (Nat.lt_of_lt_of_le h1 hW.size)
  have H2 := Lib.hid (Nat.lt_of_lt_of_le h2 hW.size)
  have HN1 : Hid (¬ U b1) := fun h => (hU b1 h).2 (.inr (.inl rfl))
  have HN2 : Hid (¬ U b2) := fun h => (hU b2 h).2 (.inr (.inr (.inl rfl)))
  have HNA : Hid (∀ k o s, 0 < ls.length → a = some ⟨k, o, s⟩ → ¬ U k) := fun k o s hl e h => (hU k h).2 (.inr (.inr (.inr ⟨hl, o, s, e⟩)))
  have Hj := Lib.hid hj
  clear hW hU hJ hJx hY hp c0 c1 c2 hj h0 h1 h2
  have mixed : Try.prog.follows .mixedOrders = true := by kernel_rfl
  show CallsIn Fence.wide n Try.prog 152 #[.func (.yield l) #[] #[], .pointer (some ⟨b0, 0, none⟩), .pointer (some ⟨b1, 0, none⟩), .pointer (some ⟨b2, 0, none⟩)] W _
  refine callsIn_of_wp Try.func152 rfl trivial ?_ rfl
  simp only [Try.ntmps152, List.size_toArray, List.length_cons, List.length_nil, Nat.reduceAdd, Nat.reduceSub, Array.replicate_succ, Array.replicate_zero, List.push_toArray, List.append_toArray, List.nil_append, List.cons_append]
  gi_wp2
  clear g0
  gi_loopw [9] (fun i wr => ∃ k : Nat, k ≤ ls.length ∧ i = .int .i64 k ∧ Hid (J (winL now span (ls.take k)) wr) ∧ Hid (Sv U W wr)) (fun i _ => ls.length - (intOf i).toNat)
  case atStart => exact ⟨0, Nat.zero_le _, rfl, by simpa [winL] using Hj, Sv.refl _ _⟩
  case round =>
    clear Hj
    obtain ⟨k, hk, rfl, HJk, HS⟩ := hrel
    by_cases hlt : k < ls.length
    · obtain ⟨b, off, ha, hbb, hcell⟩ := HP.out.cells
      obtain rfl := ha (by omega)
      have hbW := hbb (by omega)
      obtain ⟨x, hx⟩ : ∃ x, ls[k] = x := ⟨_, rfl⟩
      have hbU : ¬ U b := HNA.out b off none (by omega) rfl
      have hq := hcell k hlt
      rw [hx] at hq
      have q0 := (HS.out.cell (j := off + k * 2) hbW hbU).trans hq.1
      have q1 := (HS.out.cell (j := off + k * 2 + 1) hbW hbU).trans hq.2
      have HX1 : Hid (winL now span (ls.take k) ++ [x] = winL now span (ls.take (k + 1)) ∨ winB now span x = false) := by
        cases c : winB now span x
        · exact .inr rfl
        · exact .inl (by rw [winL_in hlt (by rw [hx]; exact c), hx])
      have HX0 : Hid (winB now span x = false → winL now span (ls.take (k + 1)) = winL now span (ls.take k)) := fun c => winL_out hlt (by rw [hx]; exact c)
      clear hcell hq ha hbb hbW hbU hx
      have hz := HS.out.size
      obtain ⟨w3, hw3⟩ : ∃ w3, wr.alloc (.cells #[.int .i64 x.tick, .int .i64 x.val] 93) = w3 := ⟨_, rfl⟩
      have HB3 : Hid (Below wr.heap.size wr w3) := by rw [← hw3]; exact Lib.hid (box_below _ _ _)
      have HK3 : Hid (CellsW w3 wr.heap.size [.int .i64 x.tick, .int .i64 x.val]) := by rw [← hw3]; exact Lib.hid (Ser2.cells_new _ _ _)
      have e0 := later_cell HK3.out.1 (HK3.out.2 0 (by simp)).1
      have e1 := later_cell HK3.out.1 (HK3.out.2 1 (by simp)).1
      have e2 := later_cell (w := w3) (b := b1) (j := 0) (v := .int .i64 now) (by have := H1.out; have := HB3.out.size; omega) ((HB3.out.cell (p := ⟨b1, 0, none⟩) (by show b1 < wr.heap.size; have := H1.out; omega)).trans ((HS.out.cell H1.out HN1.out).trans HC1.out))
      have e3 := later_cell (w := w3) (b := b2) (j := 0) (v := .int .i64 span) (by have := H2.out; have := HB3.out.size; omega) ((HB3.out.cell (p := ⟨b2, 0, none⟩) (by show b2 < wr.heap.size; have := H2.out; omega)).trans ((HS.out.cell H2.out HN2.out).trans HC2.out))
      simp only [List.getElem_cons_zero, List.getElem_cons_succ] at e0 e1
      have hwrap : IntKind.i64.wrap (now - span) = now - span := IntWalk.i64_in _ (by omega)
      have m2 := note_mtick x
      have HT : Hid (∀ q : Later w3, Calls Try.prog 228 #[.agg #[.int .i64 x.tick, .int .i64 x.val]] q.u fun e w' => e = .returned (.int .i64 x.tick) ∧ Below q.u.heap.size q.u w') := fun q => note_tick x q.u
      gi_wp2
      try rw [hw3]
      clear hw3 q0 q1
      cases c1 : decide (now - span < x.tick)
      · have HNO : Hid (winB now span x = false) := by show _ = _; unfold winB; rw [c1]; rfl
        refine region_tail (C := fun w' => ∃ p : Later w3, w' = p.u) 17 mixed (by kernel_rfl) ⟨⟨w3.drew, (Below.refl _ _).drew⟩, rfl⟩ ?_
        simp only [List.take_succ_cons, List.take_zero, List.drop_succ_cons, List.drop_zero]
        repeat (go_big_quiet_step (first | (go_at_call 228; exact later_call (HT.out _))))
        refine wpQuiet_nil ?_
        intro w4 hw'
        obtain ⟨⟨_, hw4⟩, rfl⟩ := hw'
        have HB4 := Lib.hid (HB3.out.trans (hw4.mono HB3.out.size))
        have HJ4 : Hid (J (winL now span (ls.take (k + 1))) w4) := by rw [HX0.out HNO.out]; exact Lib.hid (HJ.out _ _ _ HJk.out (HB4.out.mono (by omega)))
        have HS4 := Lib.hid (HS.out.trans (Sv.of_below (U := U) HB4.out))
        clear hw4 e0 e1 e2 e3 m2 HT hwrap c1
        gi_wp2
        refine ⟨fun _ h => (by cases h), ?_⟩
        gi_wp2
        go_roundw
        case rel => exact ⟨k + 1, by omega, by go_num, HJ4.out, HS4.out⟩
        case measure => simp [intOf]; omega
      · cases c2 : decide (x.tick ≤ now)
        · have HNO : Hid (winB now span x = false) := by show _ = _; unfold winB; rw [c1, c2]; rfl
          refine region_tail (C := fun w' => ∃ p : Later w3, w' = p.u) 17 mixed (by kernel_rfl) ⟨⟨w3.drew, (Below.refl _ _).drew⟩, rfl⟩ ?_
          simp only [List.take_succ_cons, List.take_zero, List.drop_succ_cons, List.drop_zero]
          repeat (go_big_quiet_step (first | (go_at_call 228; exact later_call (HT.out _))))
          refine wpQuiet_nil ?_
          intro w4 hw'
          obtain ⟨⟨_, hw4⟩, rfl⟩ := hw'
          have HB4 := Lib.hid (HB3.out.trans (hw4.mono HB3.out.size))
          have HJ4 : Hid (J (winL now span (ls.take (k + 1))) w4) := by rw [HX0.out HNO.out]; exact Lib.hid (HJ.out _ _ _ HJk.out (HB4.out.mono (by omega)))
          have HS4 := Lib.hid (HS.out.trans (Sv.of_below (U := U) HB4.out))
          clear hw4 e0 e1 e2 e3 m2 HT hwrap c1 c2
          gi_wp2
          refine ⟨fun _ h => (by cases h), ?_⟩
          gi_wp2
          go_roundw
          case rel => exact ⟨k + 1, by omega, by go_num, HJ4.out, HS4.out⟩
          case measure => simp [intOf]; omega
        · have HYES : Hid (winL now span (ls.take k) ++ [x] = winL now span (ls.take (k + 1))) := by
            rcases HX1.out with h | h
            · exact h
            · exfalso; unfold winB at h; rw [c1, c2] at h; cases h
          refine region_tail (C := fun w' => ∃ p : Later w3, w' = p.u) 17 mixed (by kernel_rfl) ⟨⟨w3.drew, (Below.refl _ _).drew⟩, rfl⟩ ?_
          simp only [List.take_succ_cons, List.take_zero, List.drop_succ_cons, List.drop_zero]
          repeat (go_big_quiet_step (first | (go_at_call 228; exact later_call (HT.out _))))
          refine wpQuiet_nil ?_
          intro w4 hw'
          obtain ⟨⟨_, hw4⟩, rfl⟩ := hw'
          have HB4 := Lib.hid (HB3.out.trans (hw4.mono HB3.out.size))
          have hj4 : J (winL now span (ls.take k)) w4 := HJ.out _ _ _ HJk.out (HB4.out.mono (by omega))
          have hpre : winL now span (ls.take k) ++ [x] <+: winL now span ls := by rw [HYES.out]; exact win_prefix _ _ _ _
          obtain ⟨fn, tmps, assign, body, hy, hR⟩ := HY.out _ x w4 hj4 hpre (n - 1)
          have HR := Lib.hid hR
          clear hw4 e0 e1 e2 e3 m2 HT hwrap c1 c2 hj4 hpre hR
          gi_wp2
          refine ⟨fun h => by simp [Fence.wide] at h, HR.out.mono ?_⟩
          rintro e w5 (⟨rfl, hJ5, hS5⟩ | ⟨rfl, hJx5, -⟩)
          · have HJ5 : Hid (J (winL now span (ls.take (k + 1))) w5) := by rw [← HYES.out]; exact Lib.hid hJ5
            have HS5 := Lib.hid ((HS.out.trans (Sv.of_below (U := U) HB4.out)).trans hS5)
            clear hJ5 hS5 hy
            gi_wp2
            go_roundw
            case rel => exact ⟨k + 1, by omega, by go_num, HJ5.out, HS5.out⟩
            case measure => simp [intOf]; omega
          · have HJ5 := Lib.hid hJx5
            clear hJx5 hy
            gi_wp2
            refine bodyPost_ret (results_none rfl _ _ _) rfl ?_
            exact ⟨⟨_, rfl⟩, .inr ⟨_, by rw [HYES.out]; exact win_prefix _ _ _ _, HJ5.out⟩⟩
    · obtain rfl : k = ls.length := by omega
      have HJ6 : Hid (J (winL now span ls) wr) := by have := HJk.out; rw [List.take_length] at this; exact this
      gi_wp2
      go_end0
      exact ⟨⟨_, rfl⟩, .inl HJ6.out⟩

/-! ### Moves. -/
theorem within_move (a : Option Addr) (len cap : Nat) (now span : Int) (n : Nat) (w : World) :
    CallsIn Fence.wide n Try.prog 178 #[.slice a len cap, .int .i64 now, .int .i64 span] w fun e w' =>
      e = .returned (.func (.func 186) #[] #[.pointer (some ⟨w.heap.size, 0, none⟩), .pointer (some ⟨w.heap.size + 1, 0, none⟩), .pointer (some ⟨w.heap.size + 2, 0, none⟩)]) ∧
      w' = ((w.alloc (.cells #[.slice a len cap] 33)).alloc (.cells #[.int .i64 now] 3)).alloc (.cells #[.int .i64 span] 3) := by
  refine callsIn_wide.2 ?_
  go_enter Try.func178, Try.ntmps178
  go_wp2
  go_ret
  exact ⟨rfl, rfl⟩
theorem enters_move : ∀ args w, (callFunc 186 args).run Try.prog w = .ok (.enter 186 args) w := enters_of Try.func186 (by kernel_rfl) rfl
set_option maxRecDepth 100000 in
set_option maxHeartbeats 4000000 in
theorem iter_move (ls : List Pt) (a : Option Addr) (cap : Nat) (now span : Int) (hn : 0 ≤ now ∧ now ≤ 1000000000) (hs : 0 ≤ span ∧ span ≤ 1000) (hl : ls.length ≤ 200) (b0 b1 b2 : Nat) (w : World)
    (h0 : b0 < w.heap.size) (h1 : b1 < w.heap.size) (h2 : b2 < w.heap.size) (c0 : w.cell? ⟨b0, 0, none⟩ = some (.slice a ls.length cap)) (c1 : w.cell? ⟨b1, 0, none⟩ = some (.int .i64 now)) (c2 : w.cell? ⟨b2, 0, none⟩ = some (.int .i64 span)) (hp : Pts w a ls) :
    Iter Try.prog 186 #[.pointer (some ⟨b0, 0, none⟩), .pointer (some ⟨b1, 0, none⟩), .pointer (some ⟨b2, 0, none⟩)] (fun x : Pt => #[.agg #[.int .i64 x.tick, .int .i64 x.val]]) (fun k => k = b0 ∨ k = b1 ∨ k = b2 ∨ InBlock a ls.length k) (winL now span ls) w := by
  intro l U J Jx W hW hU hJ hJx hY hj n
  obtain ⟨hn1, hn2⟩ := hn
  obtain ⟨hs1, hs2⟩ := hs
  have g0 := (hW.cell (p := ⟨b0, 0, none⟩) h0).trans c0
  have HW := Lib.hid hW
  have HU := Lib.hid hU
  have HJ := Lib.hid hJ
  have HJx := Lib.hid hJx
  have HY := Lib.hid hY
  have HP := Lib.hid (hp.kept hW)
  have HC1 := Lib.hid ((hW.cell (p := ⟨b1, 0, none⟩) h1).trans c1)
  have HC2 := Lib.hid ((hW.cell (p := ⟨b2, 0, none⟩) h2).trans c2)
  have H1 := Lib.hid (Nat.lt_of_lt_of_le h1 hW.size)
  have H2 := Lib.hid (Nat.lt_of_lt_of_le h2 hW.size)
  have HN1 : Hid (¬ U b1) := fun h => (hU b1 h).2 (.inr (.inl rfl))
  have HN2 : Hid (¬ U b2) := fun h => (hU b2 h).2 (.inr (.inr (.inl rfl)))
  have HNA : Hid (∀ k o s, 0 < ls.length → a = some ⟨k, o, s⟩ → ¬ U k) := fun k o s hl e h => (hU k h).2 (.inr (.inr (.inr ⟨hl, o, s, e⟩)))
  have Hj := Lib.hid hj
  clear hW hU hJ hJx hY hp c0 c1 c2 hj h0 h1 h2
  have mixed : Try.prog.follows .mixedOrders = true := by kernel_rfl
  show CallsIn Fence.wide n Try.prog 186 #[.func (.yield l) #[] #[], .pointer (some ⟨b0, 0, none⟩), .pointer (some ⟨b1, 0, none⟩), .pointer (some ⟨b2, 0, none⟩)] W _
  refine callsIn_of_wp Try.func186 rfl trivial ?_ rfl
  simp only [Try.ntmps186, List.size_toArray, List.length_cons, List.length_nil, Nat.reduceAdd, Nat.reduceSub, Array.replicate_succ, Array.replicate_zero, List.push_toArray, List.append_toArray, List.nil_append, List.cons_append]
  gi_wp2
  clear g0
  gi_loopw [9] (fun i wr => ∃ k : Nat, k ≤ ls.length ∧ i = .int .i64 k ∧ Hid (J (winL now span (ls.take k)) wr) ∧ Hid (Sv U W wr)) (fun i _ => ls.length - (intOf i).toNat)
  case atStart => exact ⟨0, Nat.zero_le _, rfl, by simpa [winL] using Hj, Sv.refl _ _⟩
  case round =>
    clear Hj
    obtain ⟨k, hk, rfl, HJk, HS⟩ := hrel
    by_cases hlt : k < ls.length
    · obtain ⟨b, off, ha, hbb, hcell⟩ := HP.out.cells
      obtain rfl := ha (by omega)
      have hbW := hbb (by omega)
      obtain ⟨x, hx⟩ : ∃ x, ls[k] = x := ⟨_, rfl⟩
      have hbU : ¬ U b := HNA.out b off none (by omega) rfl
      have hq := hcell k hlt
      rw [hx] at hq
      have q0 := (HS.out.cell (j := off + k * 2) hbW hbU).trans hq.1
      have q1 := (HS.out.cell (j := off + k * 2 + 1) hbW hbU).trans hq.2
      have HX1 : Hid (winL now span (ls.take k) ++ [x] = winL now span (ls.take (k + 1)) ∨ winB now span x = false) := by
        cases c : winB now span x
        · exact .inr rfl
        · exact .inl (by rw [winL_in hlt (by rw [hx]; exact c), hx])
      have HX0 : Hid (winB now span x = false → winL now span (ls.take (k + 1)) = winL now span (ls.take k)) := fun c => winL_out hlt (by rw [hx]; exact c)
      clear hcell hq ha hbb hbW hbU hx
      have hz := HS.out.size
      obtain ⟨w3, hw3⟩ : ∃ w3, wr.alloc (.cells #[.int .i64 x.tick, .int .i64 x.val] 157) = w3 := ⟨_, rfl⟩
      have HB3 : Hid (Below wr.heap.size wr w3) := by rw [← hw3]; exact Lib.hid (box_below _ _ _)
      have HK3 : Hid (CellsW w3 wr.heap.size [.int .i64 x.tick, .int .i64 x.val]) := by rw [← hw3]; exact Lib.hid (Ser2.cells_new _ _ _)
      have e0 := later_cell HK3.out.1 (HK3.out.2 0 (by simp)).1
      have e1 := later_cell HK3.out.1 (HK3.out.2 1 (by simp)).1
      have e2 := later_cell (w := w3) (b := b1) (j := 0) (v := .int .i64 now) (by have := H1.out; have := HB3.out.size; omega) ((HB3.out.cell (p := ⟨b1, 0, none⟩) (by show b1 < wr.heap.size; have := H1.out; omega)).trans ((HS.out.cell H1.out HN1.out).trans HC1.out))
      have e3 := later_cell (w := w3) (b := b2) (j := 0) (v := .int .i64 span) (by have := H2.out; have := HB3.out.size; omega) ((HB3.out.cell (p := ⟨b2, 0, none⟩) (by show b2 < wr.heap.size; have := H2.out; omega)).trans ((HS.out.cell H2.out HN2.out).trans HC2.out))
      simp only [List.getElem_cons_zero, List.getElem_cons_succ] at e0 e1
      have hwrap : IntKind.i64.wrap (now - span) = now - span := IntWalk.i64_in _ (by omega)
      have m2 := move_mtick x
      have HT : Hid (∀ q : Later w3, Calls Try.prog 231 #[.agg #[.int .i64 x.tick, .int .i64 x.val]] q.u fun e w' => e = .returned (.int .i64 x.tick) ∧ Below q.u.heap.size q.u w') := fun q => move_tick x q.u
      gi_wp2
      try rw [hw3]
      clear hw3 q0 q1
      cases c1 : decide (now - span < x.tick)
      · have HNO : Hid (winB now span x = false) := by show _ = _; unfold winB; rw [c1]; rfl
        refine region_tail (C := fun w' => ∃ p : Later w3, w' = p.u) 17 mixed (by kernel_rfl) ⟨⟨w3.drew, (Below.refl _ _).drew⟩, rfl⟩ ?_
        simp only [List.take_succ_cons, List.take_zero, List.drop_succ_cons, List.drop_zero]
        repeat (go_big_quiet_step (first | (go_at_call 231; exact later_call (HT.out _))))
        refine wpQuiet_nil ?_
        intro w4 hw'
        obtain ⟨⟨_, hw4⟩, rfl⟩ := hw'
        have HB4 := Lib.hid (HB3.out.trans (hw4.mono HB3.out.size))
        have HJ4 : Hid (J (winL now span (ls.take (k + 1))) w4) := by rw [HX0.out HNO.out]; exact Lib.hid (HJ.out _ _ _ HJk.out (HB4.out.mono (by omega)))
        have HS4 := Lib.hid (HS.out.trans (Sv.of_below (U := U) HB4.out))
        clear hw4 e0 e1 e2 e3 m2 HT hwrap c1
        gi_wp2
        refine ⟨fun _ h => (by cases h), ?_⟩
        gi_wp2
        go_roundw
        case rel => exact ⟨k + 1, by omega, by go_num, HJ4.out, HS4.out⟩
        case measure => simp [intOf]; omega
      · cases c2 : decide (x.tick ≤ now)
        · have HNO : Hid (winB now span x = false) := by show _ = _; unfold winB; rw [c1, c2]; rfl
          refine region_tail (C := fun w' => ∃ p : Later w3, w' = p.u) 17 mixed (by kernel_rfl) ⟨⟨w3.drew, (Below.refl _ _).drew⟩, rfl⟩ ?_
          simp only [List.take_succ_cons, List.take_zero, List.drop_succ_cons, List.drop_zero]
          repeat (go_big_quiet_step (first | (go_at_call 231; exact later_call (HT.out _))))
          refine wpQuiet_nil ?_
          intro w4 hw'
          obtain ⟨⟨_, hw4⟩, rfl⟩ := hw'
          have HB4 := Lib.hid (HB3.out.trans (hw4.mono HB3.out.size))
          have HJ4 : Hid (J (winL now span (ls.take (k + 1))) w4) := by rw [HX0.out HNO.out]; exact Lib.hid (HJ.out _ _ _ HJk.out (HB4.out.mono (by omega)))
          have HS4 := Lib.hid (HS.out.trans (Sv.of_below (U := U) HB4.out))
          clear hw4 e0 e1 e2 e3 m2 HT hwrap c1 c2
          gi_wp2
          refine ⟨fun _ h => (by cases h), ?_⟩
          gi_wp2
          go_roundw
          case rel => exact ⟨k + 1, by omega, by go_num, HJ4.out, HS4.out⟩
          case measure => simp [intOf]; omega
        · have HYES : Hid (winL now span (ls.take k) ++ [x] = winL now span (ls.take (k + 1))) := by
            rcases HX1.out with h | h
            · exact h
            · exfalso; unfold winB at h; rw [c1, c2] at h; cases h
          refine region_tail (C := fun w' => ∃ p : Later w3, w' = p.u) 17 mixed (by kernel_rfl) ⟨⟨w3.drew, (Below.refl _ _).drew⟩, rfl⟩ ?_
          simp only [List.take_succ_cons, List.take_zero, List.drop_succ_cons, List.drop_zero]
          repeat (go_big_quiet_step (first | (go_at_call 231; exact later_call (HT.out _))))
          refine wpQuiet_nil ?_
          intro w4 hw'
          obtain ⟨⟨_, hw4⟩, rfl⟩ := hw'
          have HB4 := Lib.hid (HB3.out.trans (hw4.mono HB3.out.size))
          have hj4 : J (winL now span (ls.take k)) w4 := HJ.out _ _ _ HJk.out (HB4.out.mono (by omega))
          have hpre : winL now span (ls.take k) ++ [x] <+: winL now span ls := by rw [HYES.out]; exact win_prefix _ _ _ _
          obtain ⟨fn, tmps, assign, body, hy, hR⟩ := HY.out _ x w4 hj4 hpre (n - 1)
          have HR := Lib.hid hR
          clear hw4 e0 e1 e2 e3 m2 HT hwrap c1 c2 hj4 hpre hR
          gi_wp2
          refine ⟨fun h => by simp [Fence.wide] at h, HR.out.mono ?_⟩
          rintro e w5 (⟨rfl, hJ5, hS5⟩ | ⟨rfl, hJx5, -⟩)
          · have HJ5 : Hid (J (winL now span (ls.take (k + 1))) w5) := by rw [← HYES.out]; exact Lib.hid hJ5
            have HS5 := Lib.hid ((HS.out.trans (Sv.of_below (U := U) HB4.out)).trans hS5)
            clear hJ5 hS5 hy
            gi_wp2
            go_roundw
            case rel => exact ⟨k + 1, by omega, by go_num, HJ5.out, HS5.out⟩
            case measure => simp [intOf]; omega
          · have HJ5 := Lib.hid hJx5
            clear hJx5 hy
            gi_wp2
            refine bodyPost_ret (results_none rfl _ _ _) rfl ?_
            exact ⟨⟨_, rfl⟩, .inr ⟨_, by rw [HYES.out]; exact win_prefix _ _ _ _, HJ5.out⟩⟩
    · obtain rfl : k = ls.length := by omega
      have HJ6 : Hid (J (winL now span ls) wr) := by have := HJk.out; rw [List.take_length] at this; exact this
      gi_wp2
      go_end0
      exact ⟨⟨_, rfl⟩, .inl HJ6.out⟩
end Go.Proofs.Ytcjjdnfikccnmaa.Win
