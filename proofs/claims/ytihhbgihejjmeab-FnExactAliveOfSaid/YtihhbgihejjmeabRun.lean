/- The program's running (a roster from which a range deletes), AliveOf: both sides. -/
import Derived.Test.YtihhbgihejjmeabPokI
namespace Go.Proofs.Ytihhbgihejjmeab.Run
open Go.RowKit Go.Sort Go.Maps
open Go.Proofs.Ytihhbgihejjmeab.C1
open Go.Proofs.Ytihhbgihejjmeab.C2
open Go.Proofs.Ytihhbgihejjmeab.Smps
open Go.Proofs.Ytihhbgihejjmeab.Mem
open Go.Proofs.Ytihhbgihejjmeab.Pd
open Go.Proofs.Ytihhbgihejjmeab.Pds
open Go.Proofs.Ytihhbgihejjmeab.Key
open Go.Proofs.Ytihhbgihejjmeab.Ros
open Go.Proofs.Ytihhbgihejjmeab.RosI
open Go.Proofs.Ytihhbgihejjmeab.RosP
open Go.Proofs.Ytihhbgihejjmeab.Pok
open Go.Proofs.Ytihhbgihejjmeab.PokI
set_option linter.unusedVariables false

set_option maxRecDepth 100000 in
set_option maxHeartbeats 1000000 in
theorem impl_delete (b n : Nat) (D0 : DataW Unit) (ps : List Pd) (w : World) (hown : RM w b n D0) (his : Is D0 ps) :
    Calls Try.prog 21 #[.map (some b)] w fun e w' => e = .returned (.tuple #[]) ∧ ∃ D, RM w' b n D ∧ Is D (ps.filter runs) ∧ w.grownBy w' (some b) := by
  go_enter Try.func21, Try.ntmps21
  go_wp2_with (first
    | (at_range; refine wpList_range_own _ rfl _ 36 rfl 9 33 keyed map_t podR b n D0 rfl hown ?_; intro w0 hrg0 hg0 hs0)
    | go_in)
  go_frame
  have HI := Lib.hid his
  go_loopw [2] (fun _ wr => ∃ (left : Lit → Bool) (cnt : Nat) (D : DataW Unit), Hid (RG wr b w.heap.size n D left cnt) ∧ Hid (Is D (ps.filter (stay left))) ∧ Hid (w.grownBy wr (some b)))
    (fun _ wr => wr.rangeLeft b w.heap.size)
  case atStart => exact ⟨_, _, D0, Lib.hid hrg0, by rw [stay_start his]; exact Lib.hid his, Lib.hid (hg0.but _)⟩
  case round =>
    obtain ⟨left, cnt, D, HRG, HD, HG⟩ := hrel
    have hrg := HRG.out
    go_wp2_with (first
      | (at_next; refine wpList_next_ranges _ rfl _ rfl 9 keyed podR encStr mkP invK invP b w.heap.size n D left cnt rfl hrg ?_ ?_)
      | go_in)
    · intro _ hl0
      have HF := Lib.hid hrg.owns
      have HE : Hid (Is D (ps.filter runs)) := by rw [← stay_end hl0]; exact HD
      clear hrg0 hg0 hs0 hown hrg HRG HD
      go_wp2
      go_end0
      exact ⟨rfl, D, HF.out, HE.out, HG.out⟩
    · intro x c kl yd yp w2 cnt2 hkey hlk hv hat hrg2 hlt hg2 hs2 hen
      have hv2 : yd = podD c := by
        have := podR_mk c
        have h3 := this.symm.trans hv
        exact (congrArg Prod.fst (Option.some.inj h3)).symm
      subst hv2
      obtain ⟨hcp, rfl⟩ := HD.out.find (has_true_of_atKey hat) hat
      have hcp2 := (List.mem_filter.1 hcp).1
      have HG2 := Lib.hid (HG.out.andThen hg2 (fun j hj => by cases hj; exact Or.inl (Nat.le_refl _)))
      have HG3 := Lib.hid (HG2.out.andThen (World.grownBy_alloc w2 (.cells #[.string c.nm, .int .i64 c.born, .int .i64 c.ph, .bool c.rdy] 33) none) (fun j hj => by cases hj))
      have HR3 := Lib.hid (World.ranges.alloc hrg2 (.cells #[.string c.nm, .int .i64 c.born, .int .i64 c.ph, .bool c.rdy] 33))
      have HL := Lib.hid hlt
      have HLE := Lib.hid hrg.left_eq
      have HKY := Lib.hid hkey
      unfold mkP at hen
      cases hr : runs c
      · have HSK : Hid (Is (D.del (pk c)) (ps.filter (stay fun z => left z && !z.sameKey (pk c)))) := by rw [stay_strike hr HI.out.apart hcp2]; exact Lib.hid (HD.out.del c)
        have hne : (c.ph != 0) = true := by unfold runs at hr; simp only [bne, hr, Bool.not_false]
        clear hr hs2 hg2 hrg2 hlt hkey hlk hv hat hown hrg0 hg0 hs0 HRG hcp hcp2 hrg
        go_wp2_with (first
          | (at_delete; refine wpList_delete_ranges _ rfl _ _ 36 9 rfl 33 keyed map_t podR b w.heap.size n D _ cnt2 rfl HR3.out (encStr x) (pk c) rfl HKY.out ?_; intro w3 cnt3 hrg3 hle hturn; go_frame)
          | go_in)
        rw [strike_twice] at hrg3
        have HR4 := Lib.hid hrg3
        have HG4 := Lib.hid (HG3.out.andThen hturn.grown (fun j hj => by cases hj; exact Or.inr rfl))
        go_roundw
        case rel => exact ⟨_, cnt3, _, HR4, HSK, HG4⟩
        case measure => rw [HR4.out.left_eq, HLE.out]; have := HL.out; omega
      · have HSK : Hid (Is D (ps.filter (stay fun z => left z && !z.sameKey (pk c)))) := by rw [stay_keep HI.out.apart hcp2 hr]; exact HD
        have hne : (c.ph != 0) = false := by unfold runs at hr; simp only [bne, hr, Bool.not_true]
        clear hr hs2 hg2 hrg2 hlt hkey hlk hv hat hown hrg0 hg0 hs0 HRG hcp hcp2 hrg
        go_wp2
        go_roundw
        case rel => exact ⟨_, cnt2, _, HR3, HSK, HG3⟩
        case measure => rw [HR3.out.left_eq, HLE.out]; exact HL.out
theorem impl_running (ls : List Pd) (hwf : ∀ p ∈ ls, p.wf) (a : Option Addr) (cap : Nat) (w : World) (h : Pds w a ls) (hm : ls.length ≤ 1048576) :
    Calls Try.prog 13 #[.slice a ls.length cap] w fun e w' => ∃ D, e = .returned (.map (some w.heap.size)) ∧ RM w' w.heap.size ls.length D ∧ Is D ((ros ls).filter runs) ∧ Below w.heap.size w w' := by
  have HC := Lib.hid (roster_of ls hwf a cap w h hm)
  clear h hwf
  go_enter Try.func13, Try.ntmps13
  go_wp2_with (go_at_call 19; refine HC.out.mono ?_; rintro e w1 ⟨D, rfl, ho1, hi1, hb1⟩; have HO1 := Lib.hid ho1; have HI1 := Lib.hid hi1; have HB1 := Lib.hid hb1; clear ho1 hi1 hb1)
  go_wp2_with (go_at_call 21; refine (impl_delete _ _ D (ros ls) _ HO1.out HI1.out).mono ?_; rintro e w2 ⟨rfl, D2, ho2, hi2, hg2⟩; have HO2 := Lib.hid ho2; have HI2 := Lib.hid hi2; have HB2 := Lib.hid (HB1.out.grown hg2 HB1.out.size (fun j hj => by cases hj; exact Nat.le_refl _)); clear ho2 hi2 hg2)
  go_ret
  exact ⟨D2, rfl, HO2.out, HI2.out, HB2.out⟩

/-! ### AliveOf. -/
noncomputable def aliveV (ls : List Pd) : Int := if podsV ls = true then ((ls.filter runs).length : Int) else -1
theorem run_next {ls : List Pd} (k : Nat) (h : k < ls.length) : ((ls.take (k + 1)).filter runs).length = ((ls.take k).filter runs).length + (if runs ls[k] = true then 1 else 0) := by
  rw [List.take_succ_eq_append_getElem h, List.filter_append, List.length_append]
  congr 1
  cases hr : runs ls[k]
  · rw [List.filter_cons_of_neg (by rw [hr]; exact Bool.false_ne_true)]; simp
  · rw [List.filter_cons_of_pos hr]; simp
set_option maxHeartbeats 1000000 in
theorem spec_alive (ls : List Pd) (hwf : ∀ p ∈ ls, p.wf) (a : Option Addr) (cap : Nat) (w : World) (h : Pds w a ls) (hm : ls.length ≤ 1048576) :
    Calls Try.prog 5 #[.slice a ls.length cap] w fun e w' => e = .returned (.int .i64 (aliveV ls)) ∧ Below w.heap.size w w' := by
  obtain ⟨b, off, ha, hb, hcell⟩ := h.cells
  have HC := Lib.hid (spec_podsok ls hwf a cap w h hm)
  have Hc := Lib.hid hcell
  have Ha := Lib.hid ha
  have Hb := Lib.hid hb
  clear hcell ha hb h hwf
  obtain ⟨c, hc⟩ : ∃ c, aliveV ls = c := ⟨_, rfl⟩
  rw [hc]
  cases hv : podsV ls
  · have HN : Hid (c = -1) := by rw [← hc]; unfold aliveV; rw [hv]; exact Lib.hid rfl
    rw [hv] at HC
    clear hv hc
    go_enter Try.func5, Try.ntmps5
    go_wp2_with (go_at_call 10; refine HC.out.mono ?_; rintro e w1 ⟨rfl, hb1⟩; have HB1 := Lib.hid hb1; clear hb1)
    go_ret
    exact ⟨ret1I HN.out.symm, HB1.out⟩
  · have HN : Hid (c = ((ls.filter runs).length : Int)) := by rw [← hc]; unfold aliveV; rw [hv]; exact Lib.hid rfl
    rw [hv] at HC
    clear hv hc
    go_enter Try.func5, Try.ntmps5
    go_wp2_with (go_at_call 10; refine HC.out.mono ?_; rintro e w1 ⟨rfl, hb1⟩; have HB1 := Lib.hid hb1; clear hb1)
    go_loopw [3, 4] (fun v i wr => ∃ k m : Nat, k ≤ ls.length ∧ i = .int .i64 k ∧ v = .int .i64 m ∧ m ≤ k ∧ Hid (m = ((ls.take k).filter runs).length) ∧ Hid (Below w.heap.size w wr)) (fun _ i _ => ls.length - (intOf i).toNat)
    case atStart => exact ⟨0, 0, Nat.zero_le _, rfl, rfl, Nat.le_refl _, rfl, HB1.out⟩
    case round =>
      obtain ⟨k, m, hk, rfl, rfl, hmk, HM, HB⟩ := hrel
      by_cases hlt : k < ls.length
      · obtain rfl := Ha.out (by omega)
        obtain ⟨p, hp⟩ : ∃ p, ls[k] = p := ⟨_, rfl⟩
        obtain ⟨q0, q1, q2, q3⟩ := (Hc.out k hlt).kept HB.out (Hb.out (by omega))
        have hnx := run_next k hlt
        rw [hp] at hnx q0 q1 q2 q3
        rw [← HM.out] at hnx
        clear hp q0 q1 q3 HM
        cases hr : runs p
        · rw [hr] at hnx
          have HX := Lib.hid hnx.symm
          have hne : (p.ph == 0) = false := by unfold runs at hr; exact hr
          clear hnx hr
          go_wp2
          go_roundw
          case rel => exact ⟨k + 1, m, by omega, by go_num, rfl, by omega, HX.out, HB⟩
          case measure => simp [intOf]; omega
        · rw [hr] at hnx
          have HX := Lib.hid hnx.symm
          have hne : (p.ph == 0) = true := by unfold runs at hr; exact hr
          clear hnx hr
          go_wp2
          go_roundw
          case rel => exact ⟨k + 1, m + 1, by omega, by go_num, by go_num, by omega, HX.out, HB⟩
          case measure => simp [intOf]; omega
      · obtain rfl : k = ls.length := by omega
        have HF : Hid (c = (m : Int)) := by show _ = _; rw [HN.out, HM.out, List.take_of_length_le (Nat.le_refl _)]
        go_wp2
        go_ret
        exact ⟨ret1I HF.out.symm, HB.out⟩
theorem impl_alive (ls : List Pd) (hwf : ∀ p ∈ ls, p.wf) (a : Option Addr) (cap : Nat) (w : World) (h : Pds w a ls) (hm : ls.length ≤ 1048576) :
    Calls Try.prog 7 #[.slice a ls.length cap] w fun e w' => e = .returned (.int .i64 (aliveV ls)) ∧ Below w.heap.size w w' := by
  have HC := Lib.hid (impl_podsok ls hwf a cap w h hm)
  have HD : Hid (∀ w, Pds w a ls → Calls Try.prog 13 #[.slice a ls.length cap] w fun e w' => ∃ D, e = .returned (.map (some w.heap.size)) ∧ RM w' w.heap.size ls.length D ∧ Is D ((ros ls).filter runs) ∧ Below w.heap.size w w') := fun w h => impl_running ls hwf a cap w h hm
  have HS := Lib.hid h
  clear h hwf
  obtain ⟨c, hc⟩ : ∃ c, aliveV ls = c := ⟨_, rfl⟩
  rw [hc]
  cases hv : podsV ls
  · have HN : Hid (c = -1) := by rw [← hc]; unfold aliveV; rw [hv]; exact Lib.hid rfl
    rw [hv] at HC
    clear hv hc
    go_enter Try.func7, Try.ntmps7
    go_wp2_with (go_at_call 12; refine HC.out.mono ?_; rintro e w1 ⟨rfl, hb1⟩; have HB1 := Lib.hid hb1; clear hb1)
    go_ret
    exact ⟨ret1I HN.out.symm, HB1.out⟩
  · have HN : Hid (c = (((ros ls).filter runs).length : Int)) := by rw [← hc, ros_self ((podsV_iff ls).1 hv).2.2.apart]; unfold aliveV; rw [hv]; exact Lib.hid rfl
    rw [hv] at HC
    clear hv hc
    go_enter Try.func7, Try.ntmps7
    go_wp2_with (go_at_call 12; refine HC.out.mono ?_; rintro e w1 ⟨rfl, hb1⟩; have HB1 := Lib.hid hb1; have HS1 := Lib.hid (HS.out.kept hb1); clear hb1)
    go_wp2_with (first
      | (go_at_call 13; refine (HD.out _ HS1.out).mono ?_; rintro e w2 ⟨D, rfl, ho2, hi2, hb2⟩; have HO2 := Lib.hid ho2; have HI2 := Lib.hid hi2; have HB2 := Lib.hid (HB1.out.trans (hb2.mono HB1.out.size)); clear ho2 hi2 hb2)
      | (at_len; refine wpList_len_own _ rfl _ 36 rfl 9 33 map_t podR w1.heap.size ls.length D rfl HO2.out ?_)
      | go_in)
    go_ret
    exact ⟨ret1I (by rw [HN.out, HI2.out.size]), HB2.out⟩
theorem spec_alive2 (ls : List Pd) (hwf : ∀ p ∈ ls, p.wf) (a : Option Addr) (cap : Nat) (w : World) (h : Pds w a ls) (hm : ls.length ≤ 1048576) {c : Int} (hc : aliveV ls = c) :
    Calls Try.prog 5 #[.slice a ls.length cap] w fun e w' => e = .returned (.int .i64 c) ∧ Below w.heap.size w w' := by
  have := spec_alive ls hwf a cap w h hm
  rw [hc] at this
  exact this
theorem impl_alive2 (ls : List Pd) (hwf : ∀ p ∈ ls, p.wf) (a : Option Addr) (cap : Nat) (w : World) (h : Pds w a ls) (hm : ls.length ≤ 1048576) {c : Int} (hc : aliveV ls = c) :
    Calls Try.prog 7 #[.slice a ls.length cap] w fun e w' => e = .returned (.int .i64 c) ∧ Below w.heap.size w w' := by
  have := impl_alive ls hwf a cap w h hm
  rw [hc] at this
  exact this
end Go.Proofs.Ytihhbgihejjmeab.Run
