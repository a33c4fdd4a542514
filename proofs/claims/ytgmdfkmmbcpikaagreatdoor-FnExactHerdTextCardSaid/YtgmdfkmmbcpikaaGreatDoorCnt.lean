/- CountPoints: the model's and the program's. -/
import Derived.Test.YtgmdfkmmbcpikaaGreatDoorStoL
namespace Go.Proofs.YtgmdfkmmbcpikaaGreatDoor.Cnt
open Go.RowKit Go.Sort
open Go.Proofs.YtgmdfkmmbcpikaaGreatDoor.C1
open Go.Proofs.YtgmdfkmmbcpikaaGreatDoor.C2
open Go.Proofs.YtgmdfkmmbcpikaaGreatDoor.Smps
open Go.Proofs.YtgmdfkmmbcpikaaGreatDoor.Mem
open Go.Proofs.YtgmdfkmmbcpikaaGreatDoor.Ser
open Go.Proofs.YtgmdfkmmbcpikaaGreatDoor.Ser2
open Go.Proofs.YtgmdfkmmbcpikaaGreatDoor.Key
open Go.Proofs.YtgmdfkmmbcpikaaGreatDoor.Sto
open Go.Proofs.YtgmdfkmmbcpikaaGreatDoor.StoL
set_option linter.unusedVariables false

def cnt (xs : List Ser) (k : Nat) : Nat := ((xs.take k).map fun s => s.pts.length).sum
theorem cnt_next (xs : List Ser) (k : Nat) (h : k < xs.length) : cnt xs (k + 1) = cnt xs k + xs[k].pts.length := by
  unfold cnt
  rw [List.take_succ_eq_append_getElem h, List.map_append, List.sum_append]
  simp only [List.map_cons, List.map_nil, List.sum_cons, List.sum_nil, Nat.add_zero]
theorem cnt_all (xs : List Ser) : cnt xs xs.length = (xs.map fun s => s.pts.length).sum := by unfold cnt; rw [List.take_of_length_le (Nat.le_refl _)]
def countV (xs : List Ser) : Int := if storeV xs = true then (((xs.map fun s => s.pts.length).sum : Nat) : Int) else -1
theorem store_pts {ls : List Sv} (h : storeV (ls.map Sv.s) = true) (k : Nat) (hk : k < ls.length) : ls[k].s.pts.length ≤ 12 ∧ 1 ≤ ls[k].s.pts.length := by
  have := (((storeV_iff _).1 h).ok ls[k].s (List.mem_map.2 ⟨_, List.getElem_mem hk, rfl⟩)).pts
  exact ⟨this.most, this.one⟩
theorem store_len {ls : List Sv} (h : storeV (ls.map Sv.s) = true) : ls.length ≤ 24 := by
  have := ((storeV_iff _).1 h).most
  simpa using this
theorem cnt_sv {ls : List Sv} (k : Nat) (h : k < ls.length) : cnt (ls.map Sv.s) (k + 1) = cnt (ls.map Sv.s) k + ls[k].s.pts.length := by
  have := cnt_next (ls.map Sv.s) k (by simpa using h)
  simpa using this
theorem spec_count (ls : List Sv) (a : Option Addr) (cap : Nat) (w : World) (hwf : ∀ l ∈ ls, l.s.wf) (h : Srs w a ls) (hm : ls.length ≤ 1048576) :
    Calls Tryz.prog 36 #[.slice a ls.length cap] w fun e w' => e = .returned (.int .i64 (countV (ls.map Sv.s))) ∧ Below w.heap.size w w' := by
  have HW := Lib.hid hwf
  have HH := Lib.hid h
  cases hv : storeV (ls.map Sv.s)
  · have HC : Hid (countV (ls.map Sv.s) = -1) := by show _ = _; unfold countV; rw [hv]; rfl
    have HV := Lib.hid hv
    clear hv h hwf
    go_enter Tryz.func36, Tryz.ntmps36
    go_wp2_with (go_at_call 93; refine (spec_store2 ls ls rfl a cap _ HW.out HH.out hm).mono ?_; rw [HV.out]; rintro e u1 ⟨rfl, hb1⟩)
    go_ret
    exact ⟨ret1I (by rw [HC.out]), hb1⟩
  · have HC : Hid (countV (ls.map Sv.s) = ((cnt (ls.map Sv.s) ls.length : Nat) : Int)) := by
      show _ = _
      have e := cnt_all (ls.map Sv.s)
      rw [List.length_map] at e
      unfold countV
      rw [hv, if_pos rfl, e]
    have HV := Lib.hid hv
    have hl24 := store_len hv
    obtain ⟨b, off, ha, hb, hcell⟩ := h.cells
    have Hc := Lib.hid hcell
    have Ha := Lib.hid ha
    have Hb := Lib.hid hb
    clear hv h hwf hcell ha hb
    go_enter Tryz.func36, Tryz.ntmps36
    go_wp2_with (go_at_call 93; refine (spec_store2 ls ls rfl a cap _ HW.out HH.out hm).mono ?_; rw [HV.out]; rintro e u1 ⟨rfl, hb1⟩; have HB1 := Lib.hid hb1; clear hb1)
    go_loopw [3, 4] (fun v i wr => ∃ (k n : Nat), k ≤ ls.length ∧ i = .int .i64 k ∧ v = .int .i64 n ∧ n ≤ 12 * k ∧ Hid (n = cnt (ls.map Sv.s) k) ∧ Hid (Below w.heap.size w wr)) (fun _ i _ => ls.length - (intOf i).toNat)
    case atStart => exact ⟨0, 0, Nat.zero_le _, rfl, rfl, by omega, rfl, HB1.out⟩
    case round =>
      obtain ⟨k, n, hk, rfl, rfl, hn, HN, HB⟩ := hrel
      by_cases hlt : k < ls.length
      · obtain rfl := Ha.out (by omega)
        obtain ⟨q0, q1, q2⟩ := (Hc.out k hlt).1.kept HB.out (Hb.out (by omega))
        obtain ⟨m, hm2⟩ : ∃ m, ls[k].s.pts.length = m := ⟨_, rfl⟩
        have hm12 := (store_pts HV.out k hlt).1
        have HN2 : Hid (n + m = cnt (ls.map Sv.s) (k + 1)) := by show _ = _; rw [cnt_sv k hlt, HN.out, hm2]
        rw [hm2] at hm12 q2
        clear hm2
        go_wp2
        go_roundw
        case rel => exact ⟨k + 1, n + m, by omega, by go_num, by go_num, by omega, HN2, HB⟩
        case measure => simp [intOf]; omega
      · obtain rfl : k = ls.length := by omega
        go_wp2
        go_ret
        exact ⟨ret1I (by rw [HC.out, HN.out]), HB.out⟩
theorem impl_count (ls : List Sv) (a : Option Addr) (cap : Nat) (w : World) (hwf : ∀ l ∈ ls, l.s.wf) (hpl : ∀ l ∈ ls, l.s.pts.length ≤ 1048576) (h : Srs w a ls) (hm : ls.length ≤ 1048576) :
    Calls Tryz.prog 44 #[.slice a ls.length cap] w fun e w' => e = .returned (.int .i64 (countV (ls.map Sv.s))) ∧ Below w.heap.size w w' := by
  have HW := Lib.hid hwf
  have HP := Lib.hid hpl
  have HH := Lib.hid h
  cases hv : storeV (ls.map Sv.s)
  · have HC : Hid (countV (ls.map Sv.s) = -1) := by show _ = _; unfold countV; rw [hv]; rfl
    have HV := Lib.hid hv
    clear hv h hwf hpl
    go_enter Tryz.func44, Tryz.ntmps44
    go_wp2_with (go_at_call 104; refine (impl_store2 ls ls rfl a cap _ HW.out HP.out HH.out hm).mono ?_; rw [HV.out]; rintro e u1 ⟨rfl, hb1⟩)
    go_ret
    exact ⟨ret1I (by rw [HC.out]), hb1⟩
  · have HC : Hid (countV (ls.map Sv.s) = ((cnt (ls.map Sv.s) ls.length : Nat) : Int)) := by
      show _ = _
      have e := cnt_all (ls.map Sv.s)
      rw [List.length_map] at e
      unfold countV
      rw [hv, if_pos rfl, e]
    have HV := Lib.hid hv
    have hl24 := store_len hv
    obtain ⟨b, off, ha, hb, hcell⟩ := h.cells
    have Hc := Lib.hid hcell
    have Ha := Lib.hid ha
    have Hb := Lib.hid hb
    clear hv h hwf hcell ha hb hpl
    go_enter Tryz.func44, Tryz.ntmps44
    go_wp2_with (go_at_call 104; refine (impl_store2 ls ls rfl a cap _ HW.out HP.out HH.out hm).mono ?_; rw [HV.out]; rintro e u1 ⟨rfl, hb1⟩; have HB1 := Lib.hid hb1; clear hb1)
    go_loopw [3, 11] (fun v i wr => ∃ (k n : Nat), k ≤ ls.length ∧ i = .int .i64 k ∧ v = .int .i64 n ∧ n ≤ 12 * k ∧ Hid (n = cnt (ls.map Sv.s) k) ∧ Hid (Below w.heap.size w wr)) (fun _ i _ => ls.length - (intOf i).toNat)
    case atStart => exact ⟨0, 0, Nat.zero_le _, rfl, rfl, by omega, rfl, HB1.out⟩
    case round =>
      obtain ⟨k, n, hk, rfl, rfl, hn, HN, HB⟩ := hrel
      by_cases hlt : k < ls.length
      · have hak := Ha.out (by omega)
        obtain ⟨q0, q1, q2⟩ := (Hc.out k hlt).1.kept HB.out (Hb.out (by omega))
        obtain ⟨m, hm2⟩ : ∃ m, ls[k].s.pts.length = m := ⟨_, rfl⟩
        have hm12 := (store_pts HV.out k hlt).1
        have HN2 : Hid (n + m = cnt (ls.map Sv.s) (k + 1)) := by show _ = _; rw [cnt_sv k hlt, HN.out, hm2]
        have HB2 : Hid (Below w.heap.size w (wr.alloc (.cells #[.string ls[k].s.pod, .string ls[k].s.met, .slice ls[k].a m ls[k].cap] 152))) := HB.out.alloc HB.out.size _
        rw [hm2] at hm12 q2
        subst hak
        clear hm2
        go_wp2
        go_roundw
        case rel => exact ⟨k + 1, n + m, by omega, by go_num, by go_num, by omega, HN2, HB2⟩
        case measure => simp [intOf]; omega
      · obtain rfl : k = ls.length := by omega
        go_wp2
        go_ret
        exact ⟨ret1I (by rw [HC.out, HN.out]), HB.out⟩
theorem spec_count2 (ls ms : List Sv) (hs : ms.map Sv.s = ls.map Sv.s) (a : Option Addr) (cap : Nat) (w : World) (hwf : ∀ l ∈ ls, l.s.wf) (h : Srs w a ms) (hm : ls.length ≤ 1048576) :
    Calls Tryz.prog 36 #[.slice a ls.length cap] w fun e w' => e = .returned (.int .i64 (countV (ls.map Sv.s))) ∧ Below w.heap.size w w' := by
  have hl := map_len hs
  have := spec_count ms a cap w (map_all hs hwf) h (by omega)
  rw [hl, hs] at this
  exact this
theorem impl_count2 (ls ms : List Sv) (hs : ms.map Sv.s = ls.map Sv.s) (a : Option Addr) (cap : Nat) (w : World) (hwf : ∀ l ∈ ls, l.s.wf) (hpl : ∀ l ∈ ls, l.s.pts.length ≤ 1048576) (h : Srs w a ms) (hm : ls.length ≤ 1048576) :
    Calls Tryz.prog 44 #[.slice a ls.length cap] w fun e w' => e = .returned (.int .i64 (countV (ls.map Sv.s))) ∧ Below w.heap.size w w' := by
  have hl := map_len hs
  have := impl_count ms a cap w (map_all hs hwf) (map_all (P := fun s => s.pts.length ≤ 1048576) hs hpl) h (by omega)
  rw [hl, hs] at this
  exact this
end Go.Proofs.YtgmdfkmmbcpikaaGreatDoor.Cnt
