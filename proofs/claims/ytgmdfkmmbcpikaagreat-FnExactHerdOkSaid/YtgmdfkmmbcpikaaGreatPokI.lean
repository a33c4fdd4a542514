/- PodsOk: the program's: slices.Equal at pods; the whole. -/
import Derived.Test.YtgmdfkmmbcpikaaGreatRosP
import Derived.Test.YtgmdfkmmbcpikaaGreatPok
namespace Go.Proofs.YtgmdfkmmbcpikaaGreat.PokI
open Go.RowKit Go.Sort Go.Maps
open Go.Proofs.YtgmdfkmmbcpikaaGreat.C1
open Go.Proofs.YtgmdfkmmbcpikaaGreat.C2
open Go.Proofs.YtgmdfkmmbcpikaaGreat.Smps
open Go.Proofs.YtgmdfkmmbcpikaaGreat.Mem
open Go.Proofs.YtgmdfkmmbcpikaaGreat.Pd
open Go.Proofs.YtgmdfkmmbcpikaaGreat.Pds
open Go.Proofs.YtgmdfkmmbcpikaaGreat.Key
open Go.Proofs.YtgmdfkmmbcpikaaGreat.Ros
open Go.Proofs.YtgmdfkmmbcpikaaGreat.RosI
open Go.Proofs.YtgmdfkmmbcpikaaGreat.RosP
open Go.Proofs.YtgmdfkmmbcpikaaGreat.Pok
set_option linter.unusedVariables false

def pdE (x y : Pd) : Bool := x.nm.toList == y.nm.toList && (x.born == y.born && (x.ph == y.ph && x.rdy == y.rdy))
theorem pdE_iff (x y : Pd) : pdE x y = true ↔ x = y := by
  obtain ⟨a, b, c, d⟩ := x
  obtain ⟨a', b', c', d'⟩ := y
  simp only [pdE, Bool.and_eq_true, beq_iff_eq, Pd.mk.injEq, ByteArray.toList_eq]
  exact ⟨fun ⟨h1, h2, h3, h4⟩ => ⟨nm_eq h1, h2, h3, h4⟩, fun ⟨h1, h2, h3, h4⟩ => ⟨by rw [h1], h2, h3, h4⟩⟩
theorem eq_pd (x y : Pd) (w : World) : (Op.equalIn 10000 115 (podV x) (podV y)).run Tryz.prog w = .ok (pdE x y) w := by
  have u3 := Tryz.underlying3
  have a3 := Tryz.isAgg3
  have z3 := Tryz.sizeOf3
  have u9 := Tryz.underlying9
  have a9 := Tryz.isAgg9
  have z9 := Tryz.sizeOf9
  have u4 := Tryz.underlying4
  have a4 := Tryz.isAgg4
  have z4 := Tryz.sizeOf4
  have hS : Tryz.prog.underlying 115 = some (.struct (Tryz.prog.fieldsOf 115)) := by kernel_rfl
  have hp : Tryz.prog.stoodInHeld 115 = false := by kernel_rfl
  unfold podV pdE
  rw [show (10000 : Nat) = 9999 + 1 from rfl, run_equalIn_agg w 9999 115 _ _ hS hp]
  simp only [Program.fieldsOf, Tryz.underlying115]
  go_simp
  cases e0 : x.nm.toList == y.nm.toList <;> by_cases h1 : x.born = y.born <;> by_cases h2 : x.ph = y.ph <;> cases h3 : x.rdy == y.rdy <;> simp_all
theorem neq_pd : NeqAt Tryz.prog 115 (fun x => .agg (encD x).toArray) pdE :=
  ⟨fun x y w => by
    show (binOp .neq 115 (.agg (encD x).toArray) (.agg (encD y).toArray)).run Tryz.prog w = _
    rw [run_neq_struct]
    have := eq_pd x y w
    unfold podV at this
    unfold encD
    rw [this]
    rfl, GuardAt.agg _ (by kernel_rfl)⟩
theorem allEq_iff : ∀ xs ys : List Pd, Lib.allEq pdE xs ys = true ↔ xs = ys
  | [], [] => by simp [Lib.allEq]
  | [], y :: ys => by simp [Lib.allEq]
  | x :: xs, [] => by simp [Lib.allEq]
  | x :: xs, y :: ys => by
    simp only [Lib.allEq, Bool.and_eq_true, pdE_iff, allEq_iff xs ys, List.cons.injEq]
theorem cells_pds {w : World} {b off : Nat} {xs : List Pd} (h : ∀ (i : Nat) (h : i < xs.length), PAt w b (off + i * 4) xs[i]) : ∀ j, j < xs.length → ∀ i v, (encD xs[j]!)[i]? = some v → w.cell? ⟨b, off + j * 4 + i, none⟩ = some v := by
  intro j hj i v hv
  obtain ⟨c0, c1, c2, c3⟩ := h j hj
  rw [getElem!_pos xs j hj] at hv
  match i, hv with
  | 0, hv => cases hv; exact c0
  | 1, hv => cases hv; exact c1
  | 2, hv => cases hv; exact c2
  | 3, hv => cases hv; exact c3
theorem equal_pods (qs ls : List Pd) (g cap : Nat) (a : Option Addr) (cap' : Nat) (w : World) (hq : Pds w (some ⟨g, 0, none⟩) qs) (h : Pds w a ls) (hm : qs.length ≤ 1048576) (hm' : ls.length ≤ 1048576) :
    Calls Tryz.prog 84 #[.slice (some ⟨g, 0, none⟩) qs.length cap, .slice a ls.length cap'] w fun e w' => ∃ r : Bool, e = .returned (.bool r) ∧ (r = true ↔ qs = ls) ∧ Below w.heap.size w w' := by
  by_cases hne : qs.length = ls.length
  · by_cases h0 : ls.length = 0
    · have e1 : ls = [] := List.length_eq_zero_iff.1 h0
      have e2 : qs = [] := List.length_eq_zero_iff.1 (hne.trans h0)
      subst e1 e2
      clear hne h0 hq h hm hm'
      go_enter Tryz.func84, Tryz.ntmps84
      go_wp2
      refine wp_loop_rounds 1 ?_
      rw [rounds_succ]
      go_wp2
      go_ret
      exact ⟨true, rfl, by simp, Below.refl _ _⟩
    · rcases h with h | ⟨b, off, rfl, hb, hc⟩
      · rw [h] at h0; simp at h0
      · rcases hq with hq | ⟨b', off', ea, hb', hc'⟩
        · rw [hq] at hne; simp at hne; omega
        · cases ea
          have hcon := Tryz.slices_Equal 4 Tryz.isAgg115 Tryz.sizeOf115 encD encD_len pdE neq_pd g 0 qs.length cap b off ls.length cap' qs ls w (Nat.le_refl _) (Nat.le_refl _) (by omega) (by omega) (cells_pds hc') (cells_pds hc)
          refine hcon.mono fun e w' ⟨he, q, hw⟩ => ⟨_, he, ?_, by rw [hw]; exact Sto.below_drewN _ _ _⟩
          rw [List.take_of_length_le (Nat.le_refl _), List.take_of_length_le (Nat.le_refl _)]
          exact allEq_iff _ _
  · go_enter Tryz.func84, Tryz.ntmps84
    have hd : ((qs.length : Int) != (ls.length : Int)) = true := by simp; omega
    go_wp2
    go_ret
    exact ⟨false, rfl, by simp; intro e; exact hne (by rw [e]), Below.refl _ _⟩
set_option maxHeartbeats 1000000 in
theorem impl_podsok (ls : List Pd) (hwf : ∀ p ∈ ls, p.wf) (a : Option Addr) (cap : Nat) (w : World) (h : Pds w a ls) (hm : ls.length ≤ 1048576) :
    Calls Tryz.prog 39 #[.slice a ls.length cap] w fun e w' => e = .returned (.bool (podsV ls)) ∧ Below w.heap.size w w' := by
  obtain ⟨b, off, ha, hb, hcell⟩ := h.cells
  by_cases hbig : 12 < ls.length
  · have HN := Lib.hid (pods_no (ls := ls) (fun h => by omega))
    go_enter Tryz.func39, Tryz.ntmps39
    go_wp2
    go_ret
    exact ⟨ret1B HN.out.symm, Below.refl _ _⟩
  · have Hc := Lib.hid hcell
    have Ha := Lib.hid ha
    have Hw := Lib.hid hwf
    have Hb := Lib.hid hb
    have HH := Lib.hid h
    clear hcell ha hwf hb h
    go_enter Tryz.func39, Tryz.ntmps39
    go_wp2
    go_loopw [10] (fun i wr => ∃ k : Nat, k ≤ ls.length ∧ i = .int .i64 k ∧ Hid (∀ (j : Nat) (hj : j < ls.length), j < k → okP ls[j] = true) ∧ Hid (Below w.heap.size w wr)) (fun i _ => ls.length - (intOf i).toNat)
    case atStart => exact ⟨0, Nat.zero_le _, rfl, fun j hj h => absurd h (by omega), Below.refl _ _⟩
    case round =>
      obtain ⟨k, hk, rfl, HS, HB⟩ := hrel
      by_cases hlt : k < ls.length
      · obtain rfl := Ha.out (by omega)
        obtain ⟨l, hl⟩ : ∃ l, ls[k] = l := ⟨_, rfl⟩
        have hq := (Hc.out k hlt).kept HB.out (Hb.out (by omega))
        have hwl := Hw.out ls[k] (List.getElem_mem hlt)
        have HNO : Hid (okP l = false → podsV ls = false) := fun hn => pods_no fun h => by have := (h.2 k hlt).1; rw [hl, hn] at this; cases this
        have HOK : Hid (okP l = true → ∀ (j : Nat) (hj : j < ls.length), j < k + 1 → okP ls[j] = true) := fun h i hi hik => by
          by_cases e : i = k
          · subst e; rw [hl]; exact h
          · exact HS.out i hi (by omega)
        rw [hl] at hwl hq
        obtain ⟨q0, q1, q2, q3⟩ := hq
        have HWL := Lib.hid hwl
        have HBX := Lib.hid (HB.out.alloc HB.out.size (.cells #[.string l.nm, .int .i64 l.born, .int .i64 l.ph, .bool l.rdy] 115))
        have hcon := impl_podok l hwl
        unfold podV at hcon
        have HCON := Lib.hid hcon
        clear hl hwl hcon
        cases c1 : okP l
        · have HN := Lib.hid (HNO.out c1)
          rw [c1] at HCON
          clear c1
          go_wp2_with (go_at_call 83; refine (HCON.out _).mono ?_; rintro e w2 ⟨rfl, hb2⟩; have HB2 := Lib.hid (HBX.out.trans (hb2.mono HBX.out.size)); clear hb2)
          go_ret
          exact ⟨ret1B HN.out.symm, HB2.out⟩
        · have HSN := Lib.hid (HOK.out c1)
          rw [c1] at HCON
          clear c1
          go_wp2_with (go_at_call 83; refine (HCON.out _).mono ?_; rintro e w2 ⟨rfl, hb2⟩; have HB2 := Lib.hid (HBX.out.trans (hb2.mono HBX.out.size)); clear hb2)
          clear q0 q1 q2 q3
          go_wp2
          go_roundw
          case rel => exact ⟨k + 1, by omega, by go_num, HSN.out, HB2.out⟩
          case measure => simp [intOf]; omega
      · obtain rfl : k = ls.length := by omega
        have HPD := Lib.hid (HH.out.kept HB.out)
        have hl12 : (ros ls).length ≤ 12 := by have := ros_len ls; omega
        have HAL : Hid (∀ p ∈ ls, okP p = true) := fun p hp => by
          obtain ⟨j, hj, rfl⟩ := List.mem_iff_getElem.1 hp
          exact HS.out j hj hj
        clear HS
        go_wp2_with (go_at_call 85; refine (roster_of ls Hw.out _ _ _ HPD.out (by omega)).mono ?_; rintro e w1 ⟨D, rfl, ho1, hi1, hb1⟩; have HO1 := Lib.hid ho1; have HI1 := Lib.hid hi1; have HB1 := Lib.hid (HB.out.trans (hb1.mono HB.out.size)); have HP1 := Lib.hid (HPD.out.kept hb1); clear ho1 hi1 hb1)
        go_wp2_with (go_at_call 86; refine (impl_pods _ _ D (ros ls) _ HO1.out HI1.out hl12).mono ?_; rintro e w2 ⟨g, cp, qs, rfl, hg, hpm, hup, hpd, hb2⟩; have HPM := Lib.hid hpm; have HUP := Lib.hid hup; have HQ := Lib.hid hpd; have HB2 := Lib.hid (HB1.out.trans (hb2.mono HB1.out.size)); have HP2 := Lib.hid (HP1.out.kept hb2); clear hg hpm hup hpd hb2)
        have hql : qs.length ≤ 12 := by have := HPM.out.length_eq; omega
        go_wp2_with (go_at_call 84; refine (equal_pods qs ls _ _ _ _ _ HQ.out HP2.out (by omega) (by omega)).mono ?_; rintro e w3 ⟨r, rfl, hr, hb3⟩; have HR := Lib.hid hr; have HB3 := Lib.hid (HB2.out.trans (hb3.mono HB2.out.size)); clear hr hb3)
        go_ret
        refine ⟨ret1B ?_, HB3.out⟩
        have hiff : r = true ↔ podsV ls = true := by
          rw [HR.out, sorted_is HPM.out HUP.out, podsV_iff]
          exact ⟨fun h => ⟨by omega, HAL.out, h⟩, fun h => h.2.2⟩
        cases r <;> cases hv : podsV ls <;> simp_all
end Go.Proofs.YtgmdfkmmbcpikaaGreat.PokI
