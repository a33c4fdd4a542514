/- Marks of policies and of goals (rows of three cells). -/
import Derived.Test.YtcjjdnfikccnmaaGls
import Derived.Test.YtcjjdnfikccnmaaPl
import Derived.Test.YtcjjdnfikccnmaaNt
import Derived.BigQuiet
namespace Go.Proofs.Ytcjjdnfikccnmaa.Mk
open Go.RowKit Go.Deep
open Go.ChangeShapes Go.WideShapes
open Go.Proofs.Ytcjjdnfikccnmaa.C1
open Go.Proofs.Ytcjjdnfikccnmaa.C2
open Go.Proofs.Ytcjjdnfikccnmaa.Smps
open Go.Proofs.Ytcjjdnfikccnmaa.Mem
open Go.Proofs.Ytcjjdnfikccnmaa.Gl
open Go.Proofs.Ytcjjdnfikccnmaa.Gls
open Go.Proofs.Ytcjjdnfikccnmaa.Pl
set_option linter.unusedVariables false

def OnlyA (a : Option Addr) (w w' : World) : Prop := (a = none → w' = w) ∧ ∀ b o s, a = some ⟨b, o, s⟩ → Only b w w'
theorem onlyA_none (w : World) : OnlyA none w w := ⟨fun _ => rfl, fun b o s e => by cases e⟩
theorem onlyA_some {g : Nat} {w w' : World} (h : Only g w w') : OnlyA (some ⟨g, 0, none⟩) w w' := by
  refine ⟨fun e => ?_, fun b o s e => ?_⟩
  · cases e
  · cases e; exact h
def mkL (k n : Nat) : List Pl := (List.range n).map fun i => ⟨((k + 3 * i : Nat) : Int), ((k + 3 * i + 1 : Nat) : Int), ((k + 3 * i + 2 : Nat) : Int)⟩
theorem mkL_len (k n : Nat) : (mkL k n).length = n := by simp [mkL]
theorem mkL_get (k n i : Nat) (h : i < (mkL k n).length) : (mkL k n)[i] = ⟨((k + 3 * i : Nat) : Int), ((k + 3 * i + 1 : Nat) : Int), ((k + 3 * i + 2 : Nat) : Int)⟩ := by simp [mkL]
def halfL (k : Nat) (ps : List Pl) (i : Nat) : List Pl := (mkL k ps.length).take i ++ ps.drop i
theorem halfL_len (k : Nat) (ps : List Pl) (i : Nat) (h : i ≤ ps.length) : (halfL k ps i).length = ps.length := by unfold halfL; simp [mkL_len]; omega
theorem halfL_set (k : Nat) (ps : List Pl) (i : Nat) (h : i < ps.length) : (halfL k ps i).set i ⟨((k + 3 * i : Nat) : Int), ((k + 3 * i + 1 : Nat) : Int), ((k + 3 * i + 2 : Nat) : Int)⟩ = halfL k ps (i + 1) := by
  unfold halfL
  have e2 : i - ((mkL k ps.length).take i).length = 0 := by simp [mkL_len]; omega
  rw [List.set_append, if_neg (by simp [mkL_len]; omega), e2, List.drop_eq_getElem_cons h, List.set_cons_zero, List.take_succ_eq_append_getElem (by rw [mkL_len]; exact h), List.append_assoc, mkL_get]
  rfl
theorem halfL_all (k : Nat) (ps : List Pl) : halfL k ps ps.length = mkL k ps.length := by
  unfold halfL
  rw [List.take_of_length_le (by rw [mkL_len]; exact Nat.le_refl _)]; simp
theorem halfL_none (k : Nat) (ps : List Pl) : halfL k ps 0 = ps := by unfold halfL; simp
set_option maxHeartbeats 1000000 in
set_option maxRecDepth 20000 in
theorem mark_policies (ps : List Pl) (a : Option Addr) (cap B k : Nat) (h0 : 0 < k) (hk : k + 3 * ps.length ≤ 100000000) (w : World) (h : OwnL w B (.slice a ps.length cap) ps) :
    Calls Try.prog 176 #[.slice a ps.length cap, .int .i64 k] w fun e w' => e = .returned (.int .i64 ((k + 3 * ps.length : Nat) : Int)) ∧ OwnL w' B (.slice a ps.length cap) (mkL k ps.length) ∧ OnlyA a w w' := by
  rcases h.2 with ⟨hv, h0'⟩ | ⟨g, cap', cur, hv, _, _, _, _⟩
  · obtain rfl : ps = [] := List.length_eq_zero_iff.1 h0'
    simp only [List.length_nil, Value.slice.injEq] at hv
    obtain ⟨rfl, -, rfl⟩ := hv
    have HO := Lib.hid h
    clear h
    show Calls Try.prog 176 #[.slice none 0 0, .int .i64 k] w _
    go_enter Try.func176, Try.ntmps176
    go_wp2
    go_loop [1, 5] (fun v i => v = .int .i64 k ∧ i = .int .i64 0) (fun _ _ => 0)
    case atStart => exact ⟨rfl, rfl⟩
    case round =>
      obtain ⟨rfl, rfl⟩ := hrel
      go_wp2
      go_ret
      exact ⟨rfl, HO.out, onlyA_none _⟩
  · cases hv
    have HO0 := Lib.hid h
    clear h
    go_enter Try.func176, Try.ntmps176
    go_wp2
    go_loopw [1, 5] (fun vk vi wr => ∃ (i m : Nat), vi = .int .i64 i ∧ vk = .int .i64 m ∧ Hid (m = k + 3 * i) ∧ m ≤ 100000000 - 3 * (ps.length - i) ∧ i ≤ ps.length ∧ Hid (OwnL wr B (.slice (some ⟨g, 0, none⟩) ps.length cap) (halfL k ps i)) ∧ Hid (Only g w wr)) (fun _ vi _ => ps.length - (intOf vi).toNat)
    case atStart => exact ⟨0, k, rfl, rfl, by show _ = _; omega, by omega, Nat.zero_le _, by rw [halfL_none]; exact HO0.out, Only.refl _ _⟩
    case round =>
      obtain ⟨i, m, rfl, rfl, HM, hmb, hi, HO, HL⟩ := hrel
      by_cases hlt : i < ps.length
      · obtain ⟨m1, e1⟩ : ∃ x : Nat, (m : Int) + 1 = (x : Int) := ⟨m + 1, by omega⟩
        obtain ⟨m2, e2⟩ : ∃ x : Nat, (m1 : Int) + 1 = (x : Int) := ⟨m + 2, by omega⟩
        obtain ⟨m3, e3⟩ : ∃ x : Nat, (m2 : Int) + 1 = (x : Int) := ⟨m + 3, by omega⟩
        have hhl := halfL_len k ps i hi
        obtain ⟨p0, p1, p2⟩ := HO.out.at3 i (by omega)
        have f0 := HO.out.frozen (i * 3)
        have f1 := HO.out.frozen (i * 3 + 1)
        have f2 := HO.out.frozen (i * 3 + 2)
        have HN : Hid (OwnL (((wr.setCell ⟨g, i * 3, none⟩ (.int .i64 (m : Int))).setCell ⟨g, i * 3 + 1, none⟩ (.int .i64 (m1 : Int))).setCell ⟨g, i * 3 + 2, none⟩ (.int .i64 (m2 : Int))) B (.slice (some ⟨g, 0, none⟩) ps.length cap) (halfL k ps (i + 1))) := by
          have hp := HO.out.put i (by omega) ⟨(m : Int), (m1 : Int), (m2 : Int)⟩
          have hs := halfL_set k ps i hlt
          have em : m = k + 3 * i := HM.out
          have em1 : m1 = k + 3 * i + 1 := by omega
          have em2 : m2 = k + 3 * i + 2 := by omega
          rw [← em2, ← em1, ← em] at hs
          rw [hs] at hp
          exact hp
        have HL2 := Lib.hid (((HL.out.setCell (i * 3) (.int .i64 (m : Int))).setCell (i * 3 + 1) (.int .i64 (m1 : Int))).setCell (i * 3 + 2) (.int .i64 (m2 : Int)))
        go_wp2
        go_roundw
        case rel => exact ⟨i + 1, m3, by go_num, by first | rfl | go_num, by show _ = _; have := HM.out; omega, by omega, by omega, HN, HL2⟩
        case measure => simp [intOf]; omega
      · obtain rfl : i = ps.length := by omega
        have HF : Hid (OwnL wr B (.slice (some ⟨g, 0, none⟩) ps.length cap) (mkL k ps.length)) := by
          have := HO.out
          rw [halfL_all] at this
          exact this
        clear HO
        go_wp2
        go_ret
        exact ⟨ret1I (by have := HM.out; omega), HF.out, onlyA_some HL.out⟩
set_option maxHeartbeats 1000000 in
set_option maxRecDepth 20000 in
theorem held_policies (n : Nat) (a : Option Addr) (cap B k : Nat) (h0 : 0 < k) (hk : k + 3 * n ≤ 100000000) (w : World) (h : OwnL w B (.slice a n cap) (mkL k n)) :
    Calls Try.prog 177 #[.slice a n cap, .int .i64 k] w fun e w' => e = .returned (.int .i64 ((k + 3 * n : Nat) : Int)) ∧ Below w.heap.size w w' := by
  obtain ⟨b, off, ha, hb, hcell⟩ := h.pts.cells
  have hml := mkL_len k n
  have Hc := Lib.hid hcell
  have Ha := Lib.hid ha
  have Hb := Lib.hid hb
  clear hcell ha hb h
  go_enter Try.func177, Try.ntmps177
  go_wp2
  go_loopw [1, 5] (fun vk vi wr => ∃ (i m : Nat), vi = .int .i64 i ∧ vk = .int .i64 m ∧ Hid (m = k + 3 * i) ∧ m ≤ 100000000 - 3 * (n - i) ∧ i ≤ n ∧ Hid (Below w.heap.size w wr)) (fun _ vi _ => n - (intOf vi).toNat)
  case atStart => exact ⟨0, k, rfl, rfl, by show _ = _; omega, by omega, Nat.zero_le _, Below.refl _ _⟩
  case round =>
    obtain ⟨i, m, rfl, rfl, HM, hmb, hi, HB⟩ := hrel
    by_cases hlt : i < n
    · obtain rfl := Ha.out (by omega)
      obtain ⟨m1, e1⟩ : ∃ x : Nat, (m : Int) + 1 = (x : Int) := ⟨m + 1, by omega⟩
      obtain ⟨m2, e2⟩ : ∃ x : Nat, (m1 : Int) + 1 = (x : Int) := ⟨m + 2, by omega⟩
      obtain ⟨m3, e3⟩ : ∃ x : Nat, (m2 : Int) + 1 = (x : Int) := ⟨m + 3, by omega⟩
      have hq := (Hc.out i (by omega)).kept HB.out (Hb.out (by omega))
      rw [mkL_get] at hq
      have em : k + 3 * i = m := HM.out.symm
      have em1 : k + 3 * i + 1 = m1 := by omega
      have em2 : k + 3 * i + 2 = m2 := by omega
      rw [em2, em1, em] at hq
      obtain ⟨q0, q1, q2⟩ := hq
      simp only at q0 q1 q2
      clear em em1 em2
      go_wp2
      go_roundw
      case rel => exact ⟨i + 1, m3, by go_num, by first | rfl | go_num, by show _ = _; have := HM.out; omega, by omega, by omega, HB⟩
      case measure => simp [intOf]; omega
    · obtain rfl : i = n := by omega
      go_wp2
      go_ret
      exact ⟨ret1I (by have := HM.out; omega), HB.out⟩

theorem smps_cells {w : World} {B n cap : Nat} {a : Option Addr} {xs : List Gl} (h : OwnG w B (.slice a n cap) xs) : ∃ b off, (0 < xs.length → a = some ⟨b, off, none⟩) ∧ (0 < xs.length → b < w.heap.size) ∧ ∀ (i : Nat) (h : i < xs.length), GAt w b (off + i * 3) xs[i] := by
  obtain ⟨a', cap', hv, hs⟩ := h.smps
  cases hv
  exact hs.cells
def mkG (k n : Nat) : List Gl := (List.range n).map fun i => ⟨markT (k + 3 * i), ((k + 3 * i + 1 : Nat) : Int), ((k + 3 * i + 2 : Nat) : Int)⟩
theorem mkG_len (k n : Nat) : (mkG k n).length = n := by simp [mkG]
theorem mkG_get (k n i : Nat) (h : i < (mkG k n).length) : (mkG k n)[i] = ⟨markT (k + 3 * i), ((k + 3 * i + 1 : Nat) : Int), ((k + 3 * i + 2 : Nat) : Int)⟩ := by simp [mkG]
def halfG (k : Nat) (ps : List Gl) (i : Nat) : List Gl := (mkG k ps.length).take i ++ ps.drop i
theorem halfG_len (k : Nat) (ps : List Gl) (i : Nat) (h : i ≤ ps.length) : (halfG k ps i).length = ps.length := by unfold halfG; simp [mkG_len]; omega
theorem halfG_set (k : Nat) (ps : List Gl) (i : Nat) (h : i < ps.length) : (halfG k ps i).set i ⟨markT (k + 3 * i), ((k + 3 * i + 1 : Nat) : Int), ((k + 3 * i + 2 : Nat) : Int)⟩ = halfG k ps (i + 1) := by
  unfold halfG
  have e2 : i - ((mkG k ps.length).take i).length = 0 := by simp [mkG_len]; omega
  rw [List.set_append, if_neg (by simp [mkG_len]; omega), e2, List.drop_eq_getElem_cons h, List.set_cons_zero, List.take_succ_eq_append_getElem (by rw [mkG_len]; exact h), List.append_assoc, mkG_get]
  rfl
theorem halfG_all (k : Nat) (ps : List Gl) : halfG k ps ps.length = mkG k ps.length := by
  unfold halfG
  rw [List.take_of_length_le (by rw [mkG_len]; exact Nat.le_refl _)]; simp
theorem halfG_none (k : Nat) (ps : List Gl) : halfG k ps 0 = ps := by unfold halfG; simp
set_option maxHeartbeats 1000000 in
set_option maxRecDepth 20000 in
theorem mark_goals (ps : List Gl) (a : Option Addr) (cap B k : Nat) (h0 : 0 < k) (hk : k + 3 * ps.length ≤ 100000000) (w : World) (h : OwnG w B (.slice a ps.length cap) ps) :
    Calls Try.prog 99 #[.slice a ps.length cap, .int .i64 k] w fun e w' => e = .returned (.int .i64 ((k + 3 * ps.length : Nat) : Int)) ∧ OwnG w' B (.slice a ps.length cap) (mkG k ps.length) ∧ OnlyA a w w' := by
  rcases h.2 with ⟨hv, h0'⟩ | ⟨g, cap', cur, hv, _, _, _, _⟩
  · obtain rfl : ps = [] := List.length_eq_zero_iff.1 h0'
    simp only [List.length_nil, Value.slice.injEq] at hv
    obtain ⟨rfl, -, rfl⟩ := hv
    have HO := Lib.hid h
    clear h
    show Calls Try.prog 99 #[.slice none 0 0, .int .i64 k] w _
    go_enter Try.func99, Try.ntmps99
    go_wp2
    go_loop [1, 5] (fun v i => v = .int .i64 k ∧ i = .int .i64 0) (fun _ _ => 0)
    case atStart => exact ⟨rfl, rfl⟩
    case round =>
      obtain ⟨rfl, rfl⟩ := hrel
      go_wp2
      go_ret
      exact ⟨rfl, HO.out, onlyA_none _⟩
  · cases hv
    have HO0 := Lib.hid h
    clear h
    go_enter Try.func99, Try.ntmps99
    go_wp2
    go_loopw [1, 5] (fun vk vi wr => ∃ (i m : Nat), vi = .int .i64 i ∧ vk = .int .i64 m ∧ Hid (m = k + 3 * i) ∧ m ≤ 100000000 - 3 * (ps.length - i) ∧ i ≤ ps.length ∧ Hid (OwnG wr B (.slice (some ⟨g, 0, none⟩) ps.length cap) (halfG k ps i)) ∧ Hid (Only g w wr)) (fun _ vi _ => ps.length - (intOf vi).toNat)
    case atStart => exact ⟨0, k, rfl, rfl, by show _ = _; omega, by omega, Nat.zero_le _, by rw [halfG_none]; exact HO0.out, Only.refl _ _⟩
    case round =>
      obtain ⟨i, m, rfl, rfl, HM, hmb, hi, HO, HL⟩ := hrel
      by_cases hlt : i < ps.length
      · obtain ⟨m1, e1⟩ : ∃ x : Nat, (m : Int) + 1 = (x : Int) := ⟨m + 1, by omega⟩
        obtain ⟨m2, e2⟩ : ∃ x : Nat, (m1 : Int) + 1 = (x : Int) := ⟨m + 2, by omega⟩
        obtain ⟨m3, e3⟩ : ∃ x : Nat, (m2 : Int) + 1 = (x : Int) := ⟨m + 3, by omega⟩
        have hhl := halfG_len k ps i hi
        have hm0 : 0 < m := by have := HM.out; omega
        go_wp2_with (go_at_call 83; refine (mark_text m hm0 (by omega) _).mono ?_; rintro e w2 ⟨rfl, hb2⟩; have HO2 := Lib.hid (HO.out.kept hb2); have HL1 := Lib.hid (HL.out.trans (Only.of_below hb2)); clear hb2; obtain ⟨⟨p0, p1, p2⟩, hfr⟩ := HO2.out.spot hhl.symm i (by omega); have f0 := hfr (i * 3); have f1 := hfr (i * 3 + 1); have f2 := hfr (i * 3 + 2); clear hfr)
        have HN : Hid (OwnG (((w2.setCell ⟨g, i * 3, none⟩ (.string (markT m))).setCell ⟨g, i * 3 + 1, none⟩ (.int .i64 (m1 : Int))).setCell ⟨g, i * 3 + 2, none⟩ (.int .i64 (m2 : Int))) B (.slice (some ⟨g, 0, none⟩) ps.length cap) (halfG k ps (i + 1))) := by
          have hp := HO2.out.put hhl.symm i (by omega) ⟨markT m, (m1 : Int), (m2 : Int)⟩
          have hs := halfG_set k ps i hlt
          have em : m = k + 3 * i := HM.out
          have em1 : m1 = k + 3 * i + 1 := by omega
          have em2 : m2 = k + 3 * i + 2 := by omega
          rw [← em2, ← em1, ← em] at hs
          rw [hs] at hp
          exact hp
        have HL2 := Lib.hid (((HL1.out.setCell (i * 3) (.string (markT m))).setCell (i * 3 + 1) (.int .i64 (m1 : Int))).setCell (i * 3 + 2) (.int .i64 (m2 : Int)))
        go_roundw
        case rel => exact ⟨i + 1, m3, by go_num, by first | rfl | go_num, by show _ = _; have := HM.out; omega, by omega, by omega, HN, HL2⟩
        case measure => simp [intOf]; omega
      · obtain rfl : i = ps.length := by omega
        have HF : Hid (OwnG wr B (.slice (some ⟨g, 0, none⟩) ps.length cap) (mkG k ps.length)) := by
          have := HO.out
          rw [halfG_all] at this
          exact this
        clear HO
        go_wp2
        go_ret
        exact ⟨ret1I (by have := HM.out; omega), HF.out, onlyA_some HL.out⟩
set_option maxHeartbeats 1000000 in
set_option maxRecDepth 20000 in
theorem held_goals (n : Nat) (a : Option Addr) (cap B k : Nat) (h0 : 0 < k) (hk : k + 3 * n ≤ 100000000) (w : World) (h : OwnG w B (.slice a n cap) (mkG k n)) :
    Calls Try.prog 101 #[.slice a n cap, .int .i64 k] w fun e w' => e = .returned (.int .i64 ((k + 3 * n : Nat) : Int)) ∧ Below w.heap.size w w' := by
  obtain ⟨b, off, ha, hb, hcell⟩ := (smps_cells h)
  have hml := mkG_len k n
  have mixed : Try.prog.follows .mixedOrders = true := by kernel_rfl
  have Hc := Lib.hid hcell
  have Ha := Lib.hid ha
  have Hb := Lib.hid hb
  clear hcell ha hb h
  go_enter Try.func101, Try.ntmps101
  go_wp2
  go_loopw [1, 5] (fun vk vi wr => ∃ (i m : Nat), vi = .int .i64 i ∧ vk = .int .i64 m ∧ Hid (m = k + 3 * i) ∧ m ≤ 100000000 - 3 * (n - i) ∧ i ≤ n ∧ Hid (Below w.heap.size w wr)) (fun _ vi _ => n - (intOf vi).toNat)
  case atStart => exact ⟨0, k, rfl, rfl, by show _ = _; omega, by omega, Nat.zero_le _, Below.refl _ _⟩
  case round =>
    obtain ⟨i, m, rfl, rfl, HM, hmb, hi, HB⟩ := hrel
    by_cases hlt : i < n
    · obtain rfl := Ha.out (by omega)
      obtain ⟨m1, e1⟩ : ∃ x : Nat, (m : Int) + 1 = (x : Int) := ⟨m + 1, by omega⟩
      obtain ⟨m2, e2⟩ : ∃ x : Nat, (m1 : Int) + 1 = (x : Int) := ⟨m + 2, by omega⟩
      obtain ⟨m3, e3⟩ : ∃ x : Nat, (m2 : Int) + 1 = (x : Int) := ⟨m + 3, by omega⟩
      have hq := (Hc.out i (by omega)).kept HB.out (Hb.out (by omega))
      rw [mkG_get] at hq
      have em : k + 3 * i = m := HM.out.symm
      have em1 : k + 3 * i + 1 = m1 := by omega
      have em2 : k + 3 * i + 2 = m2 := by omega
      rw [em2, em1, em] at hq
      obtain ⟨q0, q1, q2⟩ := hq
      simp only at q0 q1 q2
      clear em em1 em2
      have hm0 : 0 < m := by have := HM.out; omega
      have hbr := Nat.lt_of_lt_of_le (Hb.out (by omega)) HB.out.size
      have L0 := later_cell hbr q0
      have HQ := Lib.hid (show GAt wr b (off + i * 3) ⟨markT m, (m1 : Int), (m2 : Int)⟩ from ⟨q0, q1, q2⟩)
      clear q0 q1 q2
      go_wp2_with fail
      refine region_later mixed (by kernel_rfl) ?_
      repeat (go_big_quiet_step (first | (go_at_call 83; exact later_call (mark_text m hm0 (by omega) _))))
      refine wpQuiet_nil ?_
      intro _ hw'
      obtain ⟨⟨w2, hw2⟩, rfl⟩ := hw'
      have HB2 := Lib.hid (HB.out.trans (hw2.mono HB.out.size))
      obtain ⟨-, q1, q2⟩ := HQ.out.kept hw2 hbr
      simp only at q1 q2
      clear hw2 L0 hbr
      go_wp2
      go_roundw
      case rel => exact ⟨i + 1, m3, by go_num, by first | rfl | go_num, by show _ = _; have := HM.out; omega, by omega, by omega, HB2⟩
      case measure => simp [intOf]; omega
    · obtain rfl : i = n := by omega
      go_wp2
      go_ret
      exact ⟨ret1I (by have := HM.out; omega), HB.out⟩

end Go.Proofs.Ytcjjdnfikccnmaa.Mk
