/- PodsIn, what its law asks of the other calls: laws.eqStringS, laws.markStringS, laws.heldStringS. -/
import Derived.Test.YtahhemgmlmhbjaaPods
namespace Go.Proofs.Ytahhemgmlmhbjaa.PodsT
open Go.RowKit Go.Sort
open Go.Proofs.Ytahhemgmlmhbjaa.C1
open Go.Proofs.Ytahhemgmlmhbjaa.C2
open Go.Proofs.Ytahhemgmlmhbjaa.Smps
open Go.Proofs.Ytahhemgmlmhbjaa.Pods
open Go.Proofs.Ytahhemgmlmhbjaa.Mark
set_option linter.unusedVariables false

/-! ### laws.eqStringS, markStringS, heldStringS. -/
theorem val_at {w : World} {b off : Nat} {ls : List (List UInt8)} (h : ∀ (i : Nat) (h : i < (ls.map encT).length), w.cell? ⟨b, off + i, none⟩ = some (ls.map encT)[i]) (k : Nat) (hk : k < ls.length) : w.cell? ⟨b, off + k, none⟩ = some (.string ⟨ls[k].toArray⟩) := by
  rw [h k (by simpa using hk)]; simp [encT]
set_option maxHeartbeats 1600000 in
theorem eq_strs (ls : List (List UInt8)) (n : Nat) (hn : n = ls.length) (a a' : Option Addr) (cap cap' : Nat) (w : World) (h : Vals w a (ls.map encT)) (h' : Vals w a' (ls.map encT)) (hm : n ≤ 1048576) :
    Calls Try.prog 23 #[.slice a n cap, .slice a' n cap'] w fun e w' => e = .returned (.bool true) ∧ Below w.heap.size w w' := by
  subst hn
  have mixed : Try.prog.follows .mixedOrders = true := by kernel_rfl
  obtain ⟨b, off, ha, hb, hcell⟩ := h.cells
  obtain ⟨b', off', ha', hb', hcell'⟩ := h'.cells
  rw [List.length_map] at ha hb ha' hb'
  have Hc := Lib.hid (val_at hcell)
  have Ha := Lib.hid ha
  have Hb := Lib.hid hb
  have Hc' := Lib.hid (val_at hcell')
  have Ha' := Lib.hid ha'
  have Hb' := Lib.hid hb'
  clear hcell ha hb hcell' ha' hb' h h'
  go_enter Try.func23, Try.ntmps23
  go_wp2
  go_loopw [5] (fun i wr => ∃ k : Nat, k ≤ ls.length ∧ i = .int .i64 k ∧ Hid (Below w.heap.size w wr)) (fun i _ => ls.length - (intOf i).toNat)
  case atStart => exact ⟨0, Nat.zero_le _, rfl, Below.refl _ _⟩
  case round =>
    obtain ⟨k, hk, rfl, HB⟩ := hrel
    by_cases hlt : k < ls.length
    · obtain rfl := Ha.out (by omega)
      obtain rfl := Ha'.out (by omega)
      have q0 := (HB.out.cell (p := ⟨b, off + k, none⟩) (Hb.out (by omega))).trans (Hc.out k hlt)
      have p0 := (HB.out.cell (p := ⟨b', off' + k, none⟩) (Hb'.out (by omega))).trans (Hc'.out k hlt)
      go_wp2_with fail
      go_quiet (fail)
      go_wp2
      go_roundw
      case rel => exact ⟨k + 1, by omega, by go_num, below_grow HB.out HB.out.size _ #[]⟩
      case measure => simp [intOf]; omega
    · obtain rfl : k = ls.length := by omega
      go_wp2
      go_ret
      exact ⟨rfl, HB.out⟩

/-- The marks of n texts, from k on. -/
def marksT (k n : Nat) : List Value := (List.range n).map fun i => .string (markT (k + i))
theorem marksT_len (k n : Nat) : (marksT k n).length = n := by simp [marksT]
theorem marksT_get (k n i : Nat) (h : i < (marksT k n).length) : (marksT k n)[i] = .string (markT (k + i)) := by simp [marksT]
def halfT (k : Nat) (vs : List Value) (i : Nat) : List Value := (marksT k vs.length).take i ++ vs.drop i
theorem halfT_len (k : Nat) (vs : List Value) (i : Nat) (h : i ≤ vs.length) : (halfT k vs i).length = vs.length := by unfold halfT; simp [marksT_len]; omega
theorem halfT_set (k : Nat) (vs : List Value) (i : Nat) (h : i < vs.length) : (halfT k vs i).set i (.string (markT (k + i))) = halfT k vs (i + 1) := by
  unfold halfT
  have e2 : i - ((marksT k vs.length).take i).length = 0 := by simp [marksT_len]; omega
  rw [List.set_append, if_neg (by simp [marksT_len]; omega), e2, List.drop_eq_getElem_cons h, List.set_cons_zero, List.take_succ_eq_append_getElem (by rw [marksT_len]; exact h), List.append_assoc, marksT_get]
  rfl
theorem halfT_all (k : Nat) (vs : List Value) : halfT k vs vs.length = marksT k vs.length := by
  unfold halfT
  rw [List.take_of_length_le (by rw [marksT_len]; exact Nat.le_refl _)]; simp

set_option maxHeartbeats 1600000 in
theorem mark_strs (g n cap k : Nat) (h0 : 0 < k) (vs : List Value) (hn : n = vs.length) (hk : k + vs.length ≤ 100000000) (w : World) (h : CellsW w g vs) :
    Calls Try.prog 24 #[.slice (some ⟨g, 0, none⟩) n cap, .int .i64 k] w fun e w' => e = .returned (.int .i64 ((k + n : Nat) : Int)) ∧ CellsW w' g (marksT k n) ∧ Only g w w' := by
  subst hn
  have HC0 := Lib.hid h
  clear h
  go_enter Try.func24, Try.ntmps24
  go_wp2
  go_loopw [1, 5] (fun vk vi wr => ∃ (i m : Nat), vi = .int .i64 i ∧ vk = .int .i64 m ∧ m = k + i ∧ i ≤ vs.length ∧ Hid (CellsW wr g (halfT k vs i) ∧ Only g w wr)) (fun _ vi _ => vs.length - (intOf vi).toNat)
  case atStart => exact ⟨0, k, rfl, rfl, by omega, Nat.zero_le _, by show CellsW _ _ (halfT k vs 0); unfold halfT; simpa using HC0.out, Only.refl _ _⟩
  case round =>
    obtain ⟨i, m, rfl, rfl, hm, hi, H⟩ := hrel
    have HM := Lib.hid hm
    have hmb : m ≤ 100000000 - (vs.length - i) := by omega
    have hmp : 0 < m := by omega
    clear hm
    by_cases hlt : i < vs.length
    · obtain ⟨m1, e1⟩ : ∃ x : Nat, (m : Int) + 1 = (x : Int) := ⟨m + 1, by omega⟩
      have HL := Lib.hid (halfT_len k vs i hi)
      have HC := Lib.hid H.out.1
      have HO := Lib.hid H.out.2
      clear H
      go_wp2_with (go_at_call 39; refine (mark_text m hmp (by omega) _).mono ?_; rintro e w1 ⟨rfl, hb1⟩; have HC1 := Lib.hid (HC.out.kept hb1); have HO1 := Lib.hid (HO.out.trans (Only.of_below hb1)); obtain ⟨p0, f0⟩ := HC1.out.2 i (by rw [HL.out]; exact hlt); clear hb1)
      have HC2 := Lib.hid (HC1.out.set i (.string (markT m)) (by rw [HL.out]; exact hlt))
      have HO2 := Lib.hid (HO1.out.setCell i (.string (markT m)))
      have HN : Hid (CellsW (w1.setCell ⟨g, i, none⟩ (.string (markT m))) g (halfT k vs (i + 1))) := by
        have h := HC2.out
        have hh := halfT_set k vs i hlt
        rw [← HM.out] at hh
        rw [hh] at h
        exact h
      go_wp2
      go_roundw
      case rel => exact ⟨i + 1, m1, by go_num, by first | rfl | go_num, by have := HM.out; omega, by omega, HN.out, HO2.out⟩
      case measure => simp [intOf]; omega
    · obtain rfl : i = vs.length := by omega
      have HF : Hid (CellsW wr g (marksT k vs.length)) := by
        have := H.out.1
        rw [halfT_all] at this
        exact this
      have HO := Lib.hid H.out.2
      clear H
      go_wp2
      go_ret
      exact ⟨ret1I (by have := HM.out; omega), HF.out, HO.out⟩

set_option maxHeartbeats 1600000 in
theorem held_strs (g k n cap : Nat) (h0 : 0 < k) (hk : k + n ≤ 100000000) (w : World) (h : CellsW w g (marksT k n)) :
    Calls Try.prog 25 #[.slice (some ⟨g, 0, none⟩) n cap, .int .i64 k] w fun e w' => e = .returned (.int .i64 ((k + n : Nat) : Int)) ∧ Below w.heap.size w w' := by
  have mixed : Try.prog.follows .mixedOrders = true := by kernel_rfl
  have HC0 := Lib.hid h
  clear h
  go_enter Try.func25, Try.ntmps25
  go_wp2
  go_loopw [1, 5] (fun vk vi wr => ∃ (i m : Nat), vi = .int .i64 i ∧ vk = .int .i64 m ∧ m = k + i ∧ i ≤ n ∧ Hid (Below w.heap.size w wr)) (fun _ vi _ => n - (intOf vi).toNat)
  case atStart => exact ⟨0, k, rfl, rfl, by omega, Nat.zero_le _, Below.refl _ _⟩
  case round =>
    obtain ⟨i, m, rfl, rfl, hm, hi, HB⟩ := hrel
    have HM := Lib.hid hm
    have hmb : m ≤ 100000000 - (n - i) := by omega
    have hmp : 0 < m := by omega
    by_cases hlt : i < n
    · obtain ⟨m1, e1⟩ : ∃ x : Nat, (m : Int) + 1 = (x : Int) := ⟨m + 1, by omega⟩
      have c0 := (HC0.out.2 i (by rw [marksT_len]; exact hlt)).1
      rw [marksT_get, ← hm] at c0
      have hg : g < w.heap.size := HC0.out.1
      have c0' := (HB.out.cell (p := ⟨g, i, none⟩) hg).trans c0
      have hgr := Nat.lt_of_lt_of_le hg HB.out.size
      have L0 := later_cell hgr c0'
      clear c0 c0' hg hgr hm
      go_wp2_with fail
      refine region_later mixed (by kernel_rfl) ?_
      repeat (quiet_step (first | (go_at_call 39; exact later_call (mark_text m hmp (by omega) _))))
      refine wpQuiet_nil ?_
      intro _ hw'
      obtain ⟨⟨w1, hw1⟩, rfl⟩ := hw'
      clear L0
      have HB1 := Lib.hid (HB.out.trans (hw1.mono HB.out.size))
      clear hw1
      go_wp2
      go_roundw
      case rel => exact ⟨i + 1, m1, by go_num, by first | rfl | go_num, by have := HM.out; omega, by omega, HB1⟩
      case measure => simp [intOf]; omega
    · obtain rfl : i = n := by omega
      clear hm
      go_wp2
      go_ret
      exact ⟨ret1I (by have := HM.out; omega), HB.out⟩
theorem mark_none (cap : Nat) (a : Option Addr) (k : Int) (w : World) : Calls Try.prog 24 #[.slice a 0 cap, .int .i64 k] w fun e w' => e = .returned (.int .i64 k) ∧ w' = w := by
  go_enter Try.func24, Try.ntmps24
  go_wp2
  go_loop [1, 5] (fun v i => v = .int .i64 k ∧ i = .int .i64 0) (fun _ _ => 0)
  case atStart => exact ⟨rfl, rfl⟩
  case round =>
    obtain ⟨rfl, rfl⟩ := hrel
    go_wp2
    go_ret
    exact ⟨rfl, rfl⟩
theorem held_none (cap : Nat) (a : Option Addr) (k : Int) (w : World) : Calls Try.prog 25 #[.slice a 0 cap, .int .i64 k] w fun e w' => e = .returned (.int .i64 k) ∧ w' = w := by
  go_enter Try.func25, Try.ntmps25
  go_wp2
  go_loop [1, 5] (fun v i => v = .int .i64 k ∧ i = .int .i64 0) (fun _ _ => 0)
  case atStart => exact ⟨rfl, rfl⟩
  case round =>
    obtain ⟨rfl, rfl⟩ := hrel
    go_wp2
    go_ret
    exact ⟨rfl, rfl⟩
end Go.Proofs.Ytahhemgmlmhbjaa.PodsT
