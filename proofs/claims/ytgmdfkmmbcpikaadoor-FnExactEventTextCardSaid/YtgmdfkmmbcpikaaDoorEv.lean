/- EventText: the model's and the program's. -/
import Derived.Test.YtgmdfkmmbcpikaaDoorPd
import Derived.Test.YtgmdfkmmbcpikaaDoorGl
import Derived.Test.YtgmdfkmmbcpikaaDoorLine
namespace Go.Proofs.YtgmdfkmmbcpikaaDoor.Ev
open Go.RowKit
open Go.Proofs.YtgmdfkmmbcpikaaDoor.C1
open Go.Proofs.YtgmdfkmmbcpikaaDoor.C2
open Go.Proofs.YtgmdfkmmbcpikaaDoor.Milli
open Go.Proofs.YtgmdfkmmbcpikaaDoor.Mt
open Go.Proofs.YtgmdfkmmbcpikaaDoor.Line
set_option linter.unusedVariables false

structure Ev where
  kd : Int
  tk : Int
  a : Int
  b : Int
def evV (e : Ev) : Value := .agg #[.int .i64 e.kd, .int .i64 e.tk, .int .i64 e.a, .int .i64 e.b]
structure Ev.wf (e : Ev) : Prop where
  kd : -9223372036854775808 ≤ e.kd ∧ e.kd ≤ 9223372036854775807
  tk : -9223372036854775808 ≤ e.tk ∧ e.tk ≤ 9223372036854775807
  a : -9223372036854775808 ≤ e.a ∧ e.a ≤ 9223372036854775807
  b : -9223372036854775808 ≤ e.b ∧ e.b ≤ 9223372036854775807
theorem to_event (e : Ev) (w : World) : Calls Tryd.prog 9 #[evV e] w fun x w' => x = .returned (evV e) ∧ Below w.heap.size w w' := by
  unfold evV
  go_enter Tryd.func9, Tryd.ntmps9
  go_wp2
  exact bodyPost_ret (v := .agg #[.int .i64 e.kd, .int .i64 e.tk, .int .i64 e.a, .int .i64 e.b]) (by simp [results, Tryd.results9, go_sem]) rfl ⟨rfl, box3_below _ _ _ _⟩
theorem itoa_short (v : Int) (h1 : -9223372036854775808 ≤ v) (h2 : v ≤ 9223372036854775807) : (Lib.itoa v).length ≤ 20 := by
  by_cases hv : v = 0
  · subst hv; simp [itoa_zero]
  · rw [itoa_of v hv]
    have := dd_le v h1 h2
    split <;> simp <;> omega
theorem cat {x y : ByteArray} {m n : Nat} (hx : x.size ≤ m) (hy : y.size ≤ n) : (x ++ y).size ≤ m + n := by rw [ByteArray.size_append]; omega
/-- What stands behind the tick. -/
def wordL (e : Ev) : List UInt8 := if e.kd = 0 then [115, 99, 114, 97, 112, 101, 100, 32] ++ (Lib.itoa e.a ++ ([32, 98, 97, 100, 32] ++ Lib.itoa e.b)) else if e.kd = 1 then [109, 111, 118, 101, 100, 32] ++ (Lib.itoa e.a ++ ([32, 116, 111, 32] ++ Lib.itoa e.b)) else if e.kd = 2 then [102, 97, 105, 108, 101, 100, 32] ++ (Lib.itoa e.a ++ ([32, 116, 111, 32] ++ Lib.itoa e.b)) else if e.kd = 3 then [114, 101, 115, 116, 97, 114, 116] else if e.kd = 4 then [104, 97, 110, 100, 115, 32] ++ (Lib.itoa e.a ++ ([32, 116, 111, 32] ++ Lib.itoa e.b)) else []
def evT (e : Ev) : List UInt8 := if wordL e = [] then [] else Lib.itoa e.tk ++ ([58, 32] ++ wordL e)
theorem kinds (k : Int) : k = 0 ∨ k = 1 ∨ k = 2 ∨ k = 3 ∨ k = 4 ∨ ((k == 0) = false ∧ (k == 1) = false ∧ (k == 2) = false ∧ (k == 3) = false ∧ (k == 4) = false) := by
  by_cases h0 : k = 0
  · exact .inl h0
  · by_cases h1 : k = 1
    · exact .inr (.inl h1)
    · by_cases h2 : k = 2
      · exact .inr (.inr (.inl h2))
      · by_cases h3 : k = 3
        · exact .inr (.inr (.inr (.inl h3)))
        · by_cases h4 : k = 4
          · exact .inr (.inr (.inr (.inr (.inl h4))))
          · exact .inr (.inr (.inr (.inr (.inr ⟨by simpa using h0, by simpa using h1, by simpa using h2, by simpa using h3, by simpa using h4⟩))))
theorem none_of {e : Ev} (h : (e.kd == 0) = false ∧ (e.kd == 1) = false ∧ (e.kd == 2) = false ∧ (e.kd == 3) = false ∧ (e.kd == 4) = false) : wordL e = [] := by
  obtain ⟨h0, h1, h2, h3, h4⟩ := h
  simp at h0 h1 h2 h3 h4
  simp [wordL, h0, h1, h2, h3, h4]
set_option maxRecDepth 20000 in
set_option maxHeartbeats 4000000 in
theorem spec_event (e : Ev) (hw : e.wf) (w : World) :
    Calls Tryd.prog 8 #[evV e] w fun x w' => x = .returned (.string (mk (evT e))) ∧ Below w.heap.size w w' := by
  have mixed : Tryd.prog.follows .mixedOrders = true := by kernel_rfl
  obtain ⟨kd, tk, a, b⟩ := e
  obtain ⟨-, htk, ha, hb⟩ := hw
  simp only at htk ha hb
  have sI0 : (mk (Lib.itoa tk)).size ≤ 20 := by rw [mk_size]; exact itoa_short _ htk.1 htk.2
  obtain ⟨I0, hI0⟩ : ∃ z, mk (Lib.itoa tk) = z := ⟨_, rfl⟩
  rw [hI0] at sI0
  have sIA : (mk (Lib.itoa a)).size ≤ 20 := by rw [mk_size]; exact itoa_short _ ha.1 ha.2
  obtain ⟨IA, hIA⟩ : ∃ z, mk (Lib.itoa a) = z := ⟨_, rfl⟩
  rw [hIA] at sIA
  have sIB : (mk (Lib.itoa b)).size ≤ 20 := by rw [mk_size]; exact itoa_short _ hb.1 hb.2
  obtain ⟨IB, hIB⟩ : ∃ z, mk (Lib.itoa b) = z := ⟨_, rfl⟩
  rw [hIB] at sIB
  have hn0 := fun w => spec_num tk w htk.1 htk.2
  have hna := fun w => spec_num a w ha.1 ha.2
  have hnb := fun w => spec_num b w hb.1 hb.2
  rw [hI0] at hn0
  rw [hIA] at hna
  rw [hIB] at hnb
  have HN0 := Lib.hid hn0
  have HNA := Lib.hid hna
  have HNB := Lib.hid hnb
  clear hn0 hna hnb
  obtain ⟨A1, hA1⟩ : ∃ z, I0 ++ ({ data := #[58, 32] } : ByteArray) = z := ⟨_, rfl⟩
  have sA1 := cat sI0 (Nat.le_of_eq (show ({ data := #[58, 32] } : ByteArray).size = 2 from rfl))
  rw [hA1] at sA1
  have aA1 := add_at Tryd.prog I0 ({ data := #[58, 32] } : ByteArray) (Nat.le_trans (Nat.le_of_eq (ByteArray.size_append).symm) (by rw [hA1]; omega))
  rw [hA1] at aA1
  obtain ⟨T1, hT1⟩ : ∃ z, ({ data := #[32] } : ByteArray) ++ IA = z := ⟨_, rfl⟩
  have sT1 := cat (Nat.le_of_eq (show ({ data := #[32] } : ByteArray).size = 1 from rfl)) sIA
  rw [hT1] at sT1
  have aT1 := add_at Tryd.prog ({ data := #[32] } : ByteArray) IA (Nat.le_trans (Nat.le_of_eq (ByteArray.size_append).symm) (by rw [hT1]; omega))
  rw [hT1] at aT1
  obtain ⟨T2, hT2⟩ : ∃ z, T1 ++ ({ data := #[32, 116, 111, 32] } : ByteArray) = z := ⟨_, rfl⟩
  have sT2 := cat sT1 (Nat.le_of_eq (show ({ data := #[32, 116, 111, 32] } : ByteArray).size = 4 from rfl))
  rw [hT2] at sT2
  have aT2 := add_at Tryd.prog T1 ({ data := #[32, 116, 111, 32] } : ByteArray) (Nat.le_trans (Nat.le_of_eq (ByteArray.size_append).symm) (by rw [hT2]; omega))
  rw [hT2] at aT2
  obtain ⟨T3, hT3⟩ : ∃ z, T2 ++ IB = z := ⟨_, rfl⟩
  have sT3 := cat sT2 sIB
  rw [hT3] at sT3
  have aT3 := add_at Tryd.prog T2 IB (Nat.le_trans (Nat.le_of_eq (ByteArray.size_append).symm) (by rw [hT3]; omega))
  rw [hT3] at aT3
  unfold evV
  rcases kinds kd with rfl | rfl | rfl | rfl | rfl | hk
  · obtain ⟨B1, hB1⟩ : ∃ z, A1 ++ ({ data := #[115, 99, 114, 97, 112, 101, 100, 32] } : ByteArray) = z := ⟨_, rfl⟩
    have sB1 := cat sA1 (Nat.le_of_eq (show ({ data := #[115, 99, 114, 97, 112, 101, 100, 32] } : ByteArray).size = 8 from rfl))
    rw [hB1] at sB1
    have aB1 := add_at Tryd.prog A1 ({ data := #[115, 99, 114, 97, 112, 101, 100, 32] } : ByteArray) (Nat.le_trans (Nat.le_of_eq (ByteArray.size_append).symm) (by rw [hB1]; omega))
    rw [hB1] at aB1
    obtain ⟨B2, hB2⟩ : ∃ z, B1 ++ IA = z := ⟨_, rfl⟩
    have sB2 := cat sB1 sIA
    rw [hB2] at sB2
    have aB2 := add_at Tryd.prog B1 IA (Nat.le_trans (Nat.le_of_eq (ByteArray.size_append).symm) (by rw [hB2]; omega))
    rw [hB2] at aB2
    obtain ⟨B3, hB3⟩ : ∃ z, B2 ++ ({ data := #[32, 98, 97, 100, 32] } : ByteArray) = z := ⟨_, rfl⟩
    have sB3 := cat sB2 (Nat.le_of_eq (show ({ data := #[32, 98, 97, 100, 32] } : ByteArray).size = 5 from rfl))
    rw [hB3] at sB3
    have aB3 := add_at Tryd.prog B2 ({ data := #[32, 98, 97, 100, 32] } : ByteArray) (Nat.le_trans (Nat.le_of_eq (ByteArray.size_append).symm) (by rw [hB3]; omega))
    rw [hB3] at aB3
    obtain ⟨B4, hB4⟩ : ∃ z, B3 ++ IB = z := ⟨_, rfl⟩
    have sB4 := cat sB3 sIB
    rw [hB4] at sB4
    have aB4 := add_at Tryd.prog B3 IB (Nat.le_trans (Nat.le_of_eq (ByteArray.size_append).symm) (by rw [hB4]; omega))
    rw [hB4] at aB4
    have HL : Hid (B4 = mk (evT ⟨0, tk, a, b⟩)) := by
      show _ = _
      rw [← hB4]
      rw [← hB3]
      rw [← hB2]
      rw [← hB1]
      rw [← hA1]
      rw [← hI0]
      rw [← hIA]
      rw [← hIB]
      apply ByteArray.ext
      apply Array.ext'
      simp [evT, wordL, mk]
    clear hI0 hIA hIB hA1 hT1 hT2 hT3 sI0 sIA sIB sA1 sT1 sT2 sT3 hB1 sB1 hB2 sB2 hB3 sB3 hB4 sB4
    go_enter Tryd.func8, Tryd.ntmps8
    go_wp2_with (go_at_call 18; refine (HN0.out _).mono ?_; rintro e w1 ⟨rfl, hb1⟩; obtain ⟨r1, r2, q0, q1, q2, q3⟩ := box_read hb1; clear hb1)
    have l0 := later_cell r1 q0
    have l1 := later_cell r1 q1
    have l2 := later_cell r1 q2
    have l3 := later_cell r1 q3
    refine region_later mixed (by kernel_rfl) ?_
    repeat (quiet_step (first | (go_at_call_of 18 (Value.int .i64 a); exact later_call (HNA.out _)) | (go_at_call_of 18 (Value.int .i64 b); exact later_call (HNB.out _))))
    refine wpQuiet_nil ?_
    intro wl hw'
    obtain ⟨⟨wl, hwl⟩, rfl⟩ := hw'
    have q0 := l0 ⟨wl, hwl⟩
    have q2 := l2 ⟨wl, hwl⟩
    have q3 := l3 ⟨wl, hwl⟩
    simp only at q0 q2 q3
    have R2 := r2.trans (hwl.mono (Nat.le_of_lt r1))
    have r3 := Nat.lt_of_lt_of_le r1 hwl.size
    clear l0 l1 l2 l3 hwl q1
    go_wp2_with fail
    have l2 := later_cell r3 q2
    have l3 := later_cell r3 q3
    refine region_later mixed (by kernel_rfl) ?_
    repeat (quiet_step (first | (go_at_call_of 18 (Value.int .i64 a); exact later_call (HNA.out _)) | (go_at_call_of 18 (Value.int .i64 b); exact later_call (HNB.out _))))
    refine wpQuiet_nil ?_
    intro wl hw'
    obtain ⟨⟨wm, hwl⟩, rfl⟩ := hw'
    have R3 := R2.trans (hwl.mono (Nat.le_of_lt r3))
    clear l2 l3 hwl
    go_wp2
    go_ret
    exact ⟨ret1S HL.out, R3⟩
  · obtain ⟨B1, hB1⟩ : ∃ z, A1 ++ ({ data := #[109, 111, 118, 101, 100] } : ByteArray) = z := ⟨_, rfl⟩
    have sB1 := cat sA1 (Nat.le_of_eq (show ({ data := #[109, 111, 118, 101, 100] } : ByteArray).size = 5 from rfl))
    rw [hB1] at sB1
    have aB1 := add_at Tryd.prog A1 ({ data := #[109, 111, 118, 101, 100] } : ByteArray) (Nat.le_trans (Nat.le_of_eq (ByteArray.size_append).symm) (by rw [hB1]; omega))
    rw [hB1] at aB1
    obtain ⟨B2, hB2⟩ : ∃ z, B1 ++ T3 = z := ⟨_, rfl⟩
    have sB2 := cat sB1 sT3
    rw [hB2] at sB2
    have aB2 := add_at Tryd.prog B1 T3 (Nat.le_trans (Nat.le_of_eq (ByteArray.size_append).symm) (by rw [hB2]; omega))
    rw [hB2] at aB2
    have HL : Hid (B2 = mk (evT ⟨1, tk, a, b⟩)) := by
      show _ = _
      rw [← hB2]
      rw [← hB1]
      rw [← hT3]
      rw [← hT2]
      rw [← hT1]
      rw [← hA1]
      rw [← hI0]
      rw [← hIA]
      rw [← hIB]
      apply ByteArray.ext
      apply Array.ext'
      simp [evT, wordL, mk]
    clear hI0 hIA hIB hA1 hT1 hT2 hT3 sI0 sIA sIB sA1 sT1 sT2 sT3 hB1 sB1 hB2 sB2
    go_enter Tryd.func8, Tryd.ntmps8
    go_wp2_with (go_at_call 18; refine (HN0.out _).mono ?_; rintro e w1 ⟨rfl, hb1⟩; obtain ⟨r1, r2, q0, q1, q2, q3⟩ := box_read hb1; clear hb1)
    have l0 := later_cell r1 q0
    have l1 := later_cell r1 q1
    have l2 := later_cell r1 q2
    have l3 := later_cell r1 q3
    refine region_later mixed (by kernel_rfl) ?_
    repeat (quiet_step (first | (go_at_call_of 18 (Value.int .i64 a); exact later_call (HNA.out _)) | (go_at_call_of 18 (Value.int .i64 b); exact later_call (HNB.out _))))
    refine wpQuiet_nil ?_
    intro wl hw'
    obtain ⟨⟨wl, hwl⟩, rfl⟩ := hw'
    have q0 := l0 ⟨wl, hwl⟩
    have q2 := l2 ⟨wl, hwl⟩
    have q3 := l3 ⟨wl, hwl⟩
    simp only at q0 q2 q3
    have R2 := r2.trans (hwl.mono (Nat.le_of_lt r1))
    have r3 := Nat.lt_of_lt_of_le r1 hwl.size
    clear l0 l1 l2 l3 hwl q1
    go_wp2
    go_ret
    exact ⟨ret1S HL.out, R2⟩
  · obtain ⟨B1, hB1⟩ : ∃ z, A1 ++ ({ data := #[102, 97, 105, 108, 101, 100] } : ByteArray) = z := ⟨_, rfl⟩
    have sB1 := cat sA1 (Nat.le_of_eq (show ({ data := #[102, 97, 105, 108, 101, 100] } : ByteArray).size = 6 from rfl))
    rw [hB1] at sB1
    have aB1 := add_at Tryd.prog A1 ({ data := #[102, 97, 105, 108, 101, 100] } : ByteArray) (Nat.le_trans (Nat.le_of_eq (ByteArray.size_append).symm) (by rw [hB1]; omega))
    rw [hB1] at aB1
    obtain ⟨B2, hB2⟩ : ∃ z, B1 ++ T3 = z := ⟨_, rfl⟩
    have sB2 := cat sB1 sT3
    rw [hB2] at sB2
    have aB2 := add_at Tryd.prog B1 T3 (Nat.le_trans (Nat.le_of_eq (ByteArray.size_append).symm) (by rw [hB2]; omega))
    rw [hB2] at aB2
    have HL : Hid (B2 = mk (evT ⟨2, tk, a, b⟩)) := by
      show _ = _
      rw [← hB2]
      rw [← hB1]
      rw [← hT3]
      rw [← hT2]
      rw [← hT1]
      rw [← hA1]
      rw [← hI0]
      rw [← hIA]
      rw [← hIB]
      apply ByteArray.ext
      apply Array.ext'
      simp [evT, wordL, mk]
    clear hI0 hIA hIB hA1 hT1 hT2 hT3 sI0 sIA sIB sA1 sT1 sT2 sT3 hB1 sB1 hB2 sB2
    go_enter Tryd.func8, Tryd.ntmps8
    go_wp2_with (go_at_call 18; refine (HN0.out _).mono ?_; rintro e w1 ⟨rfl, hb1⟩; obtain ⟨r1, r2, q0, q1, q2, q3⟩ := box_read hb1; clear hb1)
    have l0 := later_cell r1 q0
    have l1 := later_cell r1 q1
    have l2 := later_cell r1 q2
    have l3 := later_cell r1 q3
    refine region_later mixed (by kernel_rfl) ?_
    repeat (quiet_step (first | (go_at_call_of 18 (Value.int .i64 a); exact later_call (HNA.out _)) | (go_at_call_of 18 (Value.int .i64 b); exact later_call (HNB.out _))))
    refine wpQuiet_nil ?_
    intro wl hw'
    obtain ⟨⟨wl, hwl⟩, rfl⟩ := hw'
    have q0 := l0 ⟨wl, hwl⟩
    have q2 := l2 ⟨wl, hwl⟩
    have q3 := l3 ⟨wl, hwl⟩
    simp only at q0 q2 q3
    have R2 := r2.trans (hwl.mono (Nat.le_of_lt r1))
    have r3 := Nat.lt_of_lt_of_le r1 hwl.size
    clear l0 l1 l2 l3 hwl q1
    go_wp2
    go_ret
    exact ⟨ret1S HL.out, R2⟩
  · obtain ⟨B1, hB1⟩ : ∃ z, A1 ++ ({ data := #[114, 101, 115, 116, 97, 114, 116] } : ByteArray) = z := ⟨_, rfl⟩
    have sB1 := cat sA1 (Nat.le_of_eq (show ({ data := #[114, 101, 115, 116, 97, 114, 116] } : ByteArray).size = 7 from rfl))
    rw [hB1] at sB1
    have aB1 := add_at Tryd.prog A1 ({ data := #[114, 101, 115, 116, 97, 114, 116] } : ByteArray) (Nat.le_trans (Nat.le_of_eq (ByteArray.size_append).symm) (by rw [hB1]; omega))
    rw [hB1] at aB1
    have HL : Hid (B1 = mk (evT ⟨3, tk, a, b⟩)) := by
      show _ = _
      rw [← hB1]
      rw [← hA1]
      rw [← hI0]
      apply ByteArray.ext
      apply Array.ext'
      simp [evT, wordL, mk]
    clear hI0 hIA hIB hA1 hT1 hT2 hT3 sI0 sIA sIB sA1 sT1 sT2 sT3 hB1 sB1
    go_enter Tryd.func8, Tryd.ntmps8
    go_wp2_with (go_at_call 18; refine (HN0.out _).mono ?_; rintro e w1 ⟨rfl, hb1⟩; obtain ⟨r1, r2, q0, q1, q2, q3⟩ := box_read hb1; clear hb1)
    have l0 := later_cell r1 q0
    have l1 := later_cell r1 q1
    have l2 := later_cell r1 q2
    have l3 := later_cell r1 q3
    refine region_later mixed (by kernel_rfl) ?_
    repeat (quiet_step (first | (go_at_call_of 18 (Value.int .i64 a); exact later_call (HNA.out _)) | (go_at_call_of 18 (Value.int .i64 b); exact later_call (HNB.out _))))
    refine wpQuiet_nil ?_
    intro wl hw'
    obtain ⟨⟨wl, hwl⟩, rfl⟩ := hw'
    have q0 := l0 ⟨wl, hwl⟩
    have q2 := l2 ⟨wl, hwl⟩
    have q3 := l3 ⟨wl, hwl⟩
    simp only at q0 q2 q3
    have R2 := r2.trans (hwl.mono (Nat.le_of_lt r1))
    have r3 := Nat.lt_of_lt_of_le r1 hwl.size
    clear l0 l1 l2 l3 hwl q1
    go_wp2
    go_ret
    exact ⟨ret1S HL.out, R2⟩
  · obtain ⟨B1, hB1⟩ : ∃ z, A1 ++ ({ data := #[104, 97, 110, 100, 115] } : ByteArray) = z := ⟨_, rfl⟩
    have sB1 := cat sA1 (Nat.le_of_eq (show ({ data := #[104, 97, 110, 100, 115] } : ByteArray).size = 5 from rfl))
    rw [hB1] at sB1
    have aB1 := add_at Tryd.prog A1 ({ data := #[104, 97, 110, 100, 115] } : ByteArray) (Nat.le_trans (Nat.le_of_eq (ByteArray.size_append).symm) (by rw [hB1]; omega))
    rw [hB1] at aB1
    obtain ⟨B2, hB2⟩ : ∃ z, B1 ++ T3 = z := ⟨_, rfl⟩
    have sB2 := cat sB1 sT3
    rw [hB2] at sB2
    have aB2 := add_at Tryd.prog B1 T3 (Nat.le_trans (Nat.le_of_eq (ByteArray.size_append).symm) (by rw [hB2]; omega))
    rw [hB2] at aB2
    have HL : Hid (B2 = mk (evT ⟨4, tk, a, b⟩)) := by
      show _ = _
      rw [← hB2]
      rw [← hB1]
      rw [← hT3]
      rw [← hT2]
      rw [← hT1]
      rw [← hA1]
      rw [← hI0]
      rw [← hIA]
      rw [← hIB]
      apply ByteArray.ext
      apply Array.ext'
      simp [evT, wordL, mk]
    clear hI0 hIA hIB hA1 hT1 hT2 hT3 sI0 sIA sIB sA1 sT1 sT2 sT3 hB1 sB1 hB2 sB2
    go_enter Tryd.func8, Tryd.ntmps8
    go_wp2_with (go_at_call 18; refine (HN0.out _).mono ?_; rintro e w1 ⟨rfl, hb1⟩; obtain ⟨r1, r2, q0, q1, q2, q3⟩ := box_read hb1; clear hb1)
    have l0 := later_cell r1 q0
    have l1 := later_cell r1 q1
    have l2 := later_cell r1 q2
    have l3 := later_cell r1 q3
    refine region_later mixed (by kernel_rfl) ?_
    repeat (quiet_step (first | (go_at_call_of 18 (Value.int .i64 a); exact later_call (HNA.out _)) | (go_at_call_of 18 (Value.int .i64 b); exact later_call (HNB.out _))))
    refine wpQuiet_nil ?_
    intro wl hw'
    obtain ⟨⟨wl, hwl⟩, rfl⟩ := hw'
    have q0 := l0 ⟨wl, hwl⟩
    have q2 := l2 ⟨wl, hwl⟩
    have q3 := l3 ⟨wl, hwl⟩
    simp only at q0 q2 q3
    have R2 := r2.trans (hwl.mono (Nat.le_of_lt r1))
    have r3 := Nat.lt_of_lt_of_le r1 hwl.size
    clear l0 l1 l2 l3 hwl q1
    go_wp2
    go_ret
    exact ⟨ret1S HL.out, R2⟩
  · have HL : Hid (mk [] = mk (evT ⟨kd, tk, a, b⟩)) := by
      show _ = _
      unfold evT
      rw [if_pos (none_of hk)]
    obtain ⟨k0, k1, k2, k3, k4⟩ := hk
    clear hI0 hIA hIB hA1 hT1 hT2 hT3 sI0 sIA sIB sA1 sT1 sT2 sT3 
    go_enter Tryd.func8, Tryd.ntmps8
    go_wp2_with (go_at_call 18; refine (HN0.out _).mono ?_; rintro e w1 ⟨rfl, hb1⟩; obtain ⟨r1, r2, q0, q1, q2, q3⟩ := box_read hb1; clear hb1)
    have l0 := later_cell r1 q0
    have l1 := later_cell r1 q1
    have l2 := later_cell r1 q2
    have l3 := later_cell r1 q3
    refine region_later mixed (by kernel_rfl) ?_
    repeat (quiet_step (first | (go_at_call_of 18 (Value.int .i64 a); exact later_call (HNA.out _)) | (go_at_call_of 18 (Value.int .i64 b); exact later_call (HNB.out _))))
    refine wpQuiet_nil ?_
    intro wl hw'
    obtain ⟨⟨wl, hwl⟩, rfl⟩ := hw'
    have q0 := l0 ⟨wl, hwl⟩
    have q2 := l2 ⟨wl, hwl⟩
    have q3 := l3 ⟨wl, hwl⟩
    simp only at q0 q2 q3
    have R2 := r2.trans (hwl.mono (Nat.le_of_lt r1))
    have r3 := Nat.lt_of_lt_of_le r1 hwl.size
    clear l0 l1 l2 l3 hwl q1
    go_wp2
    go_ret
    exact ⟨ret1S HL.out, R2⟩
set_option maxRecDepth 20000 in
set_option maxHeartbeats 4000000 in
theorem impl_words (e : Ev) (hw : e.wf) (w : World) (he : Env w) :
    Calls Tryd.prog 19 #[evV e] w fun x w' => x = .returned (.string (mk (wordL e))) ∧ Below w.heap.size w w' := by
  have mixed : Tryd.prog.follows .mixedOrders = true := by kernel_rfl
  obtain ⟨kd, tk, a, b⟩ := e
  obtain ⟨-, htk, ha, hb⟩ := hw
  simp only at htk ha hb
  have sIA : (mk (Lib.itoa a)).size ≤ 20 := by rw [mk_size]; exact itoa_short _ ha.1 ha.2
  obtain ⟨IA, hIA⟩ : ∃ z, mk (Lib.itoa a) = z := ⟨_, rfl⟩
  rw [hIA] at sIA
  have sIB : (mk (Lib.itoa b)).size ≤ 20 := by rw [mk_size]; exact itoa_short _ hb.1 hb.2
  obtain ⟨IB, hIB⟩ : ∃ z, mk (Lib.itoa b) = z := ⟨_, rfl⟩
  rw [hIB] at sIB
  have hna := fun w he => itoa_int a ha.1 ha.2 w he
  have hnb := fun w he => itoa_int b hb.1 hb.2 w he
  rw [hIA] at hna
  rw [hIB] at hnb
  have HNA := Lib.hid hna
  have HNB := Lib.hid hnb
  clear hna hnb
  unfold evV
  have hbx := box_below w #[.int .i64 kd, .int .i64 tk, .int .i64 a, .int .i64 b] 27
  have hc : (w.alloc (.cells #[.int .i64 kd, .int .i64 tk, .int .i64 a, .int .i64 b] 27)).cell? ⟨w.heap.size, 0, none⟩ = some (.int .i64 kd) ∧ (w.alloc (.cells #[.int .i64 kd, .int .i64 tk, .int .i64 a, .int .i64 b] 27)).cell? ⟨w.heap.size, 2, none⟩ = some (.int .i64 a) ∧ (w.alloc (.cells #[.int .i64 kd, .int .i64 tk, .int .i64 a, .int .i64 b] 27)).cell? ⟨w.heap.size, 3, none⟩ = some (.int .i64 b) := ⟨by simp, by simp, by simp⟩
  have hz : (w.alloc (.cells #[.int .i64 kd, .int .i64 tk, .int .i64 a, .int .i64 b] 27)).heap.size = w.heap.size + 1 := by simp
  have HE := Lib.hid (he.kept hbx)
  obtain ⟨W0, hW0⟩ : ∃ W0, w.alloc (.cells #[.int .i64 kd, .int .i64 tk, .int .i64 a, .int .i64 b] 27) = W0 := ⟨_, rfl⟩
  rw [hW0] at hbx hc hz HE
  have HW0 := Lib.hid hW0
  have HBX := Lib.hid hbx
  obtain ⟨c0, c2, c3⟩ := hc
  clear he hW0 hbx
  rcases kinds kd with rfl | rfl | rfl | rfl | rfl | hk
  · obtain ⟨B1, hB1⟩ : ∃ z, ({ data := #[115, 99, 114, 97, 112, 101, 100, 32] } : ByteArray) ++ IA = z := ⟨_, rfl⟩
    have sB1 := cat (Nat.le_of_eq (show ({ data := #[115, 99, 114, 97, 112, 101, 100, 32] } : ByteArray).size = 8 from rfl)) sIA
    rw [hB1] at sB1
    have aB1 := add_at Tryd.prog ({ data := #[115, 99, 114, 97, 112, 101, 100, 32] } : ByteArray) IA (Nat.le_trans (Nat.le_of_eq (ByteArray.size_append).symm) (by rw [hB1]; omega))
    rw [hB1] at aB1
    obtain ⟨B2, hB2⟩ : ∃ z, B1 ++ ({ data := #[32, 98, 97, 100, 32] } : ByteArray) = z := ⟨_, rfl⟩
    have sB2 := cat sB1 (Nat.le_of_eq (show ({ data := #[32, 98, 97, 100, 32] } : ByteArray).size = 5 from rfl))
    rw [hB2] at sB2
    have aB2 := add_at Tryd.prog B1 ({ data := #[32, 98, 97, 100, 32] } : ByteArray) (Nat.le_trans (Nat.le_of_eq (ByteArray.size_append).symm) (by rw [hB2]; omega))
    rw [hB2] at aB2
    obtain ⟨B3, hB3⟩ : ∃ z, B2 ++ IB = z := ⟨_, rfl⟩
    have sB3 := cat sB2 sIB
    rw [hB3] at sB3
    have aB3 := add_at Tryd.prog B2 IB (Nat.le_trans (Nat.le_of_eq (ByteArray.size_append).symm) (by rw [hB3]; omega))
    rw [hB3] at aB3
    have HL : Hid (B3 = mk (wordL ⟨0, tk, a, b⟩)) := by
      show _ = _
      rw [← hB3]
      rw [← hB2]
      rw [← hB1]
      rw [← hIA]
      rw [← hIB]
      apply ByteArray.ext
      apply Array.ext'
      simp [wordL, mk]
    clear hIA hIB sIA sIB hB1 sB1 hB2 sB2 hB3 sB3
    go_enter Tryd.func19, Tryd.ntmps19
    go_wp2_with fail
    rw [HW0.out]
    have l0 := later_cell (w := W0) (by omega) c0
    have l2 := later_cell (w := W0) (by omega) c2
    have l3 := later_cell (w := W0) (by omega) c3
    refine region_later mixed (by kernel_rfl) ?_
    repeat (quiet_step (first | (go_at_call_of 20 (Value.int .i64 a); exact later_call (HNA.out _ (HE.out.kept (Later.h _)))) | (go_at_call_of 20 (Value.int .i64 b); exact later_call (HNB.out _ (HE.out.kept (Later.h _))))))
    refine wpQuiet_nil ?_
    intro wl hw'
    obtain ⟨⟨wl, hwl⟩, rfl⟩ := hw'
    have q0 := l0 ⟨wl, hwl⟩
    simp only at q0
    have R2 := HBX.out.trans (hwl.mono HBX.out.size)
    clear l0 l2 l3 hwl c0 c2 c3
    go_wp2
    go_ret
    exact ⟨ret1S HL.out, R2⟩
  · obtain ⟨B1, hB1⟩ : ∃ z, ({ data := #[109, 111, 118, 101, 100, 32] } : ByteArray) ++ IA = z := ⟨_, rfl⟩
    have sB1 := cat (Nat.le_of_eq (show ({ data := #[109, 111, 118, 101, 100, 32] } : ByteArray).size = 6 from rfl)) sIA
    rw [hB1] at sB1
    have aB1 := add_at Tryd.prog ({ data := #[109, 111, 118, 101, 100, 32] } : ByteArray) IA (Nat.le_trans (Nat.le_of_eq (ByteArray.size_append).symm) (by rw [hB1]; omega))
    rw [hB1] at aB1
    obtain ⟨B2, hB2⟩ : ∃ z, B1 ++ ({ data := #[32, 116, 111, 32] } : ByteArray) = z := ⟨_, rfl⟩
    have sB2 := cat sB1 (Nat.le_of_eq (show ({ data := #[32, 116, 111, 32] } : ByteArray).size = 4 from rfl))
    rw [hB2] at sB2
    have aB2 := add_at Tryd.prog B1 ({ data := #[32, 116, 111, 32] } : ByteArray) (Nat.le_trans (Nat.le_of_eq (ByteArray.size_append).symm) (by rw [hB2]; omega))
    rw [hB2] at aB2
    obtain ⟨B3, hB3⟩ : ∃ z, B2 ++ IB = z := ⟨_, rfl⟩
    have sB3 := cat sB2 sIB
    rw [hB3] at sB3
    have aB3 := add_at Tryd.prog B2 IB (Nat.le_trans (Nat.le_of_eq (ByteArray.size_append).symm) (by rw [hB3]; omega))
    rw [hB3] at aB3
    have HL : Hid (B3 = mk (wordL ⟨1, tk, a, b⟩)) := by
      show _ = _
      rw [← hB3]
      rw [← hB2]
      rw [← hB1]
      rw [← hIA]
      rw [← hIB]
      apply ByteArray.ext
      apply Array.ext'
      simp [wordL, mk]
    clear hIA hIB sIA sIB hB1 sB1 hB2 sB2 hB3 sB3
    go_enter Tryd.func19, Tryd.ntmps19
    go_wp2_with fail
    rw [HW0.out]
    have l0 := later_cell (w := W0) (by omega) c0
    have l2 := later_cell (w := W0) (by omega) c2
    have l3 := later_cell (w := W0) (by omega) c3
    refine region_later mixed (by kernel_rfl) ?_
    repeat (quiet_step (first | (go_at_call_of 20 (Value.int .i64 a); exact later_call (HNA.out _ (HE.out.kept (Later.h _)))) | (go_at_call_of 20 (Value.int .i64 b); exact later_call (HNB.out _ (HE.out.kept (Later.h _))))))
    refine wpQuiet_nil ?_
    intro wl hw'
    obtain ⟨⟨wl, hwl⟩, rfl⟩ := hw'
    have q0 := l0 ⟨wl, hwl⟩
    simp only at q0
    have R2 := HBX.out.trans (hwl.mono HBX.out.size)
    clear l0 l2 l3 hwl c0 c2 c3
    go_wp2
    go_ret
    exact ⟨ret1S HL.out, R2⟩
  · obtain ⟨B1, hB1⟩ : ∃ z, ({ data := #[102, 97, 105, 108, 101, 100, 32] } : ByteArray) ++ IA = z := ⟨_, rfl⟩
    have sB1 := cat (Nat.le_of_eq (show ({ data := #[102, 97, 105, 108, 101, 100, 32] } : ByteArray).size = 7 from rfl)) sIA
    rw [hB1] at sB1
    have aB1 := add_at Tryd.prog ({ data := #[102, 97, 105, 108, 101, 100, 32] } : ByteArray) IA (Nat.le_trans (Nat.le_of_eq (ByteArray.size_append).symm) (by rw [hB1]; omega))
    rw [hB1] at aB1
    obtain ⟨B2, hB2⟩ : ∃ z, B1 ++ ({ data := #[32, 116, 111, 32] } : ByteArray) = z := ⟨_, rfl⟩
    have sB2 := cat sB1 (Nat.le_of_eq (show ({ data := #[32, 116, 111, 32] } : ByteArray).size = 4 from rfl))
    rw [hB2] at sB2
    have aB2 := add_at Tryd.prog B1 ({ data := #[32, 116, 111, 32] } : ByteArray) (Nat.le_trans (Nat.le_of_eq (ByteArray.size_append).symm) (by rw [hB2]; omega))
    rw [hB2] at aB2
    obtain ⟨B3, hB3⟩ : ∃ z, B2 ++ IB = z := ⟨_, rfl⟩
    have sB3 := cat sB2 sIB
    rw [hB3] at sB3
    have aB3 := add_at Tryd.prog B2 IB (Nat.le_trans (Nat.le_of_eq (ByteArray.size_append).symm) (by rw [hB3]; omega))
    rw [hB3] at aB3
    have HL : Hid (B3 = mk (wordL ⟨2, tk, a, b⟩)) := by
      show _ = _
      rw [← hB3]
      rw [← hB2]
      rw [← hB1]
      rw [← hIA]
      rw [← hIB]
      apply ByteArray.ext
      apply Array.ext'
      simp [wordL, mk]
    clear hIA hIB sIA sIB hB1 sB1 hB2 sB2 hB3 sB3
    go_enter Tryd.func19, Tryd.ntmps19
    go_wp2_with fail
    rw [HW0.out]
    have l0 := later_cell (w := W0) (by omega) c0
    have l2 := later_cell (w := W0) (by omega) c2
    have l3 := later_cell (w := W0) (by omega) c3
    refine region_later mixed (by kernel_rfl) ?_
    repeat (quiet_step (first | (go_at_call_of 20 (Value.int .i64 a); exact later_call (HNA.out _ (HE.out.kept (Later.h _)))) | (go_at_call_of 20 (Value.int .i64 b); exact later_call (HNB.out _ (HE.out.kept (Later.h _))))))
    refine wpQuiet_nil ?_
    intro wl hw'
    obtain ⟨⟨wl, hwl⟩, rfl⟩ := hw'
    have q0 := l0 ⟨wl, hwl⟩
    simp only at q0
    have R2 := HBX.out.trans (hwl.mono HBX.out.size)
    clear l0 l2 l3 hwl c0 c2 c3
    go_wp2
    go_ret
    exact ⟨ret1S HL.out, R2⟩
  · have HL : Hid (({ data := #[114, 101, 115, 116, 97, 114, 116] } : ByteArray) = mk (wordL ⟨3, tk, a, b⟩)) := Lib.hid rfl
    clear hIA hIB sIA sIB 
    go_enter Tryd.func19, Tryd.ntmps19
    go_wp2_with fail
    rw [HW0.out]
    have l0 := later_cell (w := W0) (by omega) c0
    have l2 := later_cell (w := W0) (by omega) c2
    have l3 := later_cell (w := W0) (by omega) c3
    refine region_later mixed (by kernel_rfl) ?_
    repeat (quiet_step (first | (go_at_call_of 20 (Value.int .i64 a); exact later_call (HNA.out _ (HE.out.kept (Later.h _)))) | (go_at_call_of 20 (Value.int .i64 b); exact later_call (HNB.out _ (HE.out.kept (Later.h _))))))
    refine wpQuiet_nil ?_
    intro wl hw'
    obtain ⟨⟨wl, hwl⟩, rfl⟩ := hw'
    have q0 := l0 ⟨wl, hwl⟩
    simp only at q0
    have R2 := HBX.out.trans (hwl.mono HBX.out.size)
    clear l0 l2 l3 hwl c0 c2 c3
    go_wp2
    go_ret
    exact ⟨ret1S HL.out, R2⟩
  · obtain ⟨B1, hB1⟩ : ∃ z, ({ data := #[104, 97, 110, 100, 115, 32] } : ByteArray) ++ IA = z := ⟨_, rfl⟩
    have sB1 := cat (Nat.le_of_eq (show ({ data := #[104, 97, 110, 100, 115, 32] } : ByteArray).size = 6 from rfl)) sIA
    rw [hB1] at sB1
    have aB1 := add_at Tryd.prog ({ data := #[104, 97, 110, 100, 115, 32] } : ByteArray) IA (Nat.le_trans (Nat.le_of_eq (ByteArray.size_append).symm) (by rw [hB1]; omega))
    rw [hB1] at aB1
    obtain ⟨B2, hB2⟩ : ∃ z, B1 ++ ({ data := #[32, 116, 111, 32] } : ByteArray) = z := ⟨_, rfl⟩
    have sB2 := cat sB1 (Nat.le_of_eq (show ({ data := #[32, 116, 111, 32] } : ByteArray).size = 4 from rfl))
    rw [hB2] at sB2
    have aB2 := add_at Tryd.prog B1 ({ data := #[32, 116, 111, 32] } : ByteArray) (Nat.le_trans (Nat.le_of_eq (ByteArray.size_append).symm) (by rw [hB2]; omega))
    rw [hB2] at aB2
    obtain ⟨B3, hB3⟩ : ∃ z, B2 ++ IB = z := ⟨_, rfl⟩
    have sB3 := cat sB2 sIB
    rw [hB3] at sB3
    have aB3 := add_at Tryd.prog B2 IB (Nat.le_trans (Nat.le_of_eq (ByteArray.size_append).symm) (by rw [hB3]; omega))
    rw [hB3] at aB3
    have HL : Hid (B3 = mk (wordL ⟨4, tk, a, b⟩)) := by
      show _ = _
      rw [← hB3]
      rw [← hB2]
      rw [← hB1]
      rw [← hIA]
      rw [← hIB]
      apply ByteArray.ext
      apply Array.ext'
      simp [wordL, mk]
    clear hIA hIB sIA sIB hB1 sB1 hB2 sB2 hB3 sB3
    go_enter Tryd.func19, Tryd.ntmps19
    go_wp2_with fail
    rw [HW0.out]
    have l0 := later_cell (w := W0) (by omega) c0
    have l2 := later_cell (w := W0) (by omega) c2
    have l3 := later_cell (w := W0) (by omega) c3
    refine region_later mixed (by kernel_rfl) ?_
    repeat (quiet_step (first | (go_at_call_of 20 (Value.int .i64 a); exact later_call (HNA.out _ (HE.out.kept (Later.h _)))) | (go_at_call_of 20 (Value.int .i64 b); exact later_call (HNB.out _ (HE.out.kept (Later.h _))))))
    refine wpQuiet_nil ?_
    intro wl hw'
    obtain ⟨⟨wl, hwl⟩, rfl⟩ := hw'
    have q0 := l0 ⟨wl, hwl⟩
    simp only at q0
    have R2 := HBX.out.trans (hwl.mono HBX.out.size)
    clear l0 l2 l3 hwl c0 c2 c3
    go_wp2
    go_ret
    exact ⟨ret1S HL.out, R2⟩
  · have HL : Hid (mk [] = mk (wordL ⟨kd, tk, a, b⟩)) := by
      show _ = _
      rw [none_of hk]
    obtain ⟨k0, k1, k2, k3, k4⟩ := hk
    clear hIA hIB sIA sIB 
    go_enter Tryd.func19, Tryd.ntmps19
    go_wp2_with fail
    rw [HW0.out]
    have l0 := later_cell (w := W0) (by omega) c0
    have l2 := later_cell (w := W0) (by omega) c2
    have l3 := later_cell (w := W0) (by omega) c3
    refine region_later mixed (by kernel_rfl) ?_
    repeat (quiet_step (first | (go_at_call_of 20 (Value.int .i64 a); exact later_call (HNA.out _ (HE.out.kept (Later.h _)))) | (go_at_call_of 20 (Value.int .i64 b); exact later_call (HNB.out _ (HE.out.kept (Later.h _))))))
    refine wpQuiet_nil ?_
    intro wl hw'
    obtain ⟨⟨wl, hwl⟩, rfl⟩ := hw'
    have q0 := l0 ⟨wl, hwl⟩
    simp only at q0
    have R2 := HBX.out.trans (hwl.mono HBX.out.size)
    clear l0 l2 l3 hwl c0 c2 c3
    go_wp2
    go_ret
    exact ⟨ret1S HL.out, R2⟩
set_option maxRecDepth 20000 in
set_option maxHeartbeats 4000000 in
theorem impl_event (e : Ev) (hw : e.wf) (w : World) (he : Env w) :
    Calls Tryd.prog 10 #[evV e] w fun x w' => x = .returned (.string (mk (evT e))) ∧ Below w.heap.size w w' := by
  have hwo := fun w he => impl_words e hw w he
  have hwl : (wordL e).length ≤ 100 := by
    obtain ⟨-, -, ha, hb⟩ := hw
    have h1 := itoa_short e.a ha.1 ha.2
    have h2 := itoa_short e.b hb.1 hb.2
    unfold wordL
    split
    · simp; omega
    · split
      · simp; omega
      · split
        · simp; omega
        · split
          · simp
          · split <;> simp <;> omega
  have hno := fun w he => itoa_int e.tk hw.tk.1 hw.tk.2 w he
  have sI0 : (mk (Lib.itoa e.tk)).size ≤ 20 := by rw [mk_size]; exact itoa_short _ hw.tk.1 hw.tk.2
  have hT : evT e = if wordL e = [] then [] else Lib.itoa e.tk ++ ([58, 32] ++ wordL e) := rfl
  obtain ⟨l, hl⟩ : ∃ l, wordL e = l := ⟨_, rfl⟩
  rw [hl] at hwo hwl hT
  obtain ⟨T, hTT⟩ : ∃ T, evT e = T := ⟨_, rfl⟩
  rw [hTT] at hT
  rw [hTT]
  clear hl hTT
  obtain ⟨kd, tk, a, b⟩ := e
  simp only at hno hT sI0
  obtain ⟨I0, hI0⟩ : ∃ z, mk (Lib.itoa tk) = z := ⟨_, rfl⟩
  rw [hI0] at sI0 hno
  have HE0 := Lib.hid he
  have HE := Lib.hid (he.kept (box_below w #[.int .i64 kd, .int .i64 tk, .int .i64 a, .int .i64 b] 27))
  unfold evV at hwo ⊢
  have HWO := Lib.hid hwo
  have HNO := Lib.hid hno
  clear hwo hno hw he
  cases l with
  | nil =>
    have HL : Hid (mk [] = mk T) := by show _ = _; rw [hT]; rfl
    clear hT hI0 sI0 hwl
    have hem : (mk []).toList.isEmpty = true := by rw [ByteArray.toList_eq]; rfl
    go_enter Tryd.func10, Tryd.ntmps10
    go_wp2_with (go_at_call 19; refine (HWO.out _ HE.out).mono ?_; rintro e w1 ⟨rfl, hb1⟩; obtain ⟨r1, r2, q0, q1, q2, q3⟩ := box_read hb1; clear hb1)
    go_ret
    exact ⟨ret1S HL.out, r2⟩
  | cons c r =>
    have sX : (mk (c :: r)).size ≤ 100 := by rw [mk_size]; exact hwl
    have hem : (mk (c :: r)).toList.isEmpty = false := by rw [ByteArray.toList_eq, mk_list]; rfl
    obtain ⟨X, hX⟩ : ∃ z, mk (c :: r) = z := ⟨_, rfl⟩
    rw [hX] at sX hem HWO
    obtain ⟨B1, hB1⟩ : ∃ z, I0 ++ ({ data := #[58, 32] } : ByteArray) = z := ⟨_, rfl⟩
    have sB1 := cat sI0 (Nat.le_of_eq (show ({ data := #[58, 32] } : ByteArray).size = 2 from rfl))
    rw [hB1] at sB1
    have aB1 := add_at Tryd.prog I0 ({ data := #[58, 32] } : ByteArray) (Nat.le_trans (Nat.le_of_eq (ByteArray.size_append).symm) (by rw [hB1]; omega))
    rw [hB1] at aB1
    obtain ⟨B2, hB2⟩ : ∃ z, B1 ++ X = z := ⟨_, rfl⟩
    have sB2 := cat sB1 sX
    rw [hB2] at sB2
    have aB2 := add_at Tryd.prog B1 X (Nat.le_trans (Nat.le_of_eq (ByteArray.size_append).symm) (by rw [hB2]; omega))
    rw [hB2] at aB2
    have HL : Hid (B2 = mk T) := by
      show _ = _
      rw [hT, if_neg (by simp), ← hB2, ← hB1, ← hX, ← hI0]
      apply ByteArray.ext
      apply Array.ext'
      simp [mk]
    clear hT hI0 sI0 hwl hX sX hB1 sB1 hB2 sB2
    go_enter Tryd.func10, Tryd.ntmps10
    go_wp2_with (go_at_call 19; refine (HWO.out _ HE.out).mono ?_; rintro e w1 ⟨rfl, hb1⟩; obtain ⟨r1, r2, q0, q1, q2, q3⟩ := box_read hb1; clear hb1)
    go_wp2_with (go_at_call 20; refine (HNO.out _ (HE0.out.kept r2)).mono ?_; rintro e w2 ⟨rfl, hb2⟩)
    go_ret
    exact ⟨ret1S HL.out, r2.trans (hb2.mono (Nat.le_of_lt r1))⟩
end Go.Proofs.YtgmdfkmmbcpikaaDoor.Ev
