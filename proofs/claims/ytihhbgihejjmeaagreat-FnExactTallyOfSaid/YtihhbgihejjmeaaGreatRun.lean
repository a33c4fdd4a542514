/- The program's running (a roster from which a range deletes), AliveOf: both sides. -/
import Derived.Test.YtihhbgihejjmeaaGreatPokI
namespace Go.Proofs.YtihhbgihejjmeaaGreat.Run
open Go.RowKit Go.Sort Go.Maps
open Go.Proofs.YtihhbgihejjmeaaGreat.C1
open Go.Proofs.YtihhbgihejjmeaaGreat.C2
open Go.Proofs.YtihhbgihejjmeaaGreat.Smps
open Go.Proofs.YtihhbgihejjmeaaGreat.Mem
open Go.Proofs.YtihhbgihejjmeaaGreat.Pd
open Go.Proofs.YtihhbgihejjmeaaGreat.Pds
open Go.Proofs.YtihhbgihejjmeaaGreat.Key
open Go.Proofs.YtihhbgihejjmeaaGreat.Ros
open Go.Proofs.YtihhbgihejjmeaaGreat.RosI
open Go.Proofs.YtihhbgihejjmeaaGreat.RosP
open Go.Proofs.YtihhbgihejjmeaaGreat.Pok
open Go.Proofs.YtihhbgihejjmeaaGreat.PokI
set_option linter.unusedVariables false

set_option maxRecDepth 100000 in
set_option maxHeartbeats 1000000 in
theorem impl_delete (b n : Nat) (D0 : DataW Unit) (ps : List Pd) (w : World) (hown : RM w b n D0) (his : Is D0 ps) :
    Calls Tryz.prog 63 #[.map (some b)] w fun e w' => e = .returned (.tuple #[]) ∧ ∃ D, RM w' b n D ∧ Is D (ps.filter runs) ∧ w.grownBy w' (some b) := by
  go_enter Tryz.func63, Tryz.ntmps63
  go_wp2_with (first
    | (at_range; refine wpList_range_own _ rfl _ 83 rfl 9 57 keyed map_t podR b n D0 rfl hown ?_; intro w0 hrg0 hg0 hs0)
    | go_in)
  go_frame
  have HI := Lib.hid his
  go_loopw [2] (fun _ wr => ∃ (left : Lit → Bool) (cnt : Nat) (D : DataW Unit), Hid (RG wr b w.heap.size n D left cnt) ∧ Hid (Is D (ps.filter (stay left))) ∧ Hid (w.grownBy wr (some b)))
    (fun _ wr => wr.rangeLeft b w.heap.size)
  case atStart => exact ⟨_, _, D0, Lib.hid hrg0, by rw [stay_start his]; exact Lib.hid his, Lib.hid (hg0.but _)⟩
  case round =>
    obtain ⟨left, cnt, D, HRG, HD, HG⟩ := hrel
    have hrg := HRG.out
    go_wp2_with (first
      | (at_next; refine wpList_next_ranges _ rfl _ rfl 9 keyed podR encStr mkP invK invP b w.heap.size n D left cnt rfl hrg ?_ ?_)
      | go_in)
    · intro _ hl0
      have HF := Lib.hid hrg.owns
      have HE : Hid (Is D (ps.filter runs)) := by rw [← stay_end hl0]; exact HD
      clear hrg0 hg0 hs0 hown hrg HRG HD
      go_wp2
      go_end0
      exact ⟨rfl, D, HF.out, HE.out, HG.out⟩
    · intro x c kl yd yp w2 cnt2 hkey hlk hv hat hrg2 hlt hg2 hs2 hen
      have hv2 : yd = podD c := by
        have := podR_mk c
        have h3 := this.symm.trans hv
        exact (congrArg Prod.fst (Option.some.inj h3)).symm
      subst hv2
      obtain ⟨hcp, rfl⟩ := HD.out.find (has_true_of_atKey hat) hat
      have hcp2 := (List.mem_filter.1 hcp).1
      have HG2 := Lib.hid (HG.out.andThen hg2 (fun j hj => by cases hj; exact Or.inl (Nat.le_refl _)))
      have HG3 := Lib.hid (HG2.out.andThen (World.grownBy_alloc w2 (.cells #[.string c.nm, .int .i64 c.born, .int .i64 c.ph, .bool c.rdy] 57) none) (fun j hj => by cases hj))
      have HR3 := Lib.hid (World.ranges.alloc hrg2 (.cells #[.string c.nm, .int .i64 c.born, .int .i64 c.ph, .bool c.rdy] 57))
      have HL := Lib.hid hlt
      have HLE := Lib.hid hrg.left_eq
      have HKY := Lib.hid hkey
      unfold mkP at hen
      cases hr : runs c
      · have HSK : Hid (Is (D.del (pk c)) (ps.filter (stay fun z => left z && !z.sameKey (pk c)))) := by rw [stay_strike hr HI.out.apart hcp2]; exact Lib.hid (HD.out.del c)
        have hne : (c.ph != 0) = true := by unfold runs at hr; simp only [bne, hr, Bool.not_false]
        clear hr hs2 hg2 hrg2 hlt hkey hlk hv hat hown hrg0 hg0 hs0 HRG hcp hcp2 hrg
        go_wp2_with (first
          | (at_delete; refine wpList_delete_ranges _ rfl _ _ 83 9 rfl 57 keyed map_t podR b w.heap.size n D _ cnt2 rfl HR3.out (encStr x) (pk c) rfl HKY.out ?_; intro w3 cnt3 hrg3 hle hturn; go_frame)
          | go_in)
        rw [strike_twice] at hrg3
        have HR4 := Lib.hid hrg3
        have HG4 := Lib.hid (HG3.out.andThen hturn.grown (fun j hj => by cases hj; exact Or.inr rfl))
        go_roundw
        case rel => exact ⟨_, cnt3, _, HR4, HSK, HG4⟩
        case measure => rw [HR4.out.left_eq, HLE.out]; have := HL.out; omega
      · have HSK : Hid (Is D (ps.filter (stay fun z => left z && !z.sameKey (pk c)))) := by rw [stay_keep HI.out.apart hcp2 hr]; exact HD
        have hne : (c.ph != 0) = false := by unfold runs at hr; simp only [bne, hr, Bool.not_true]
        clear hr hs2 hg2 hrg2 hlt hkey hlk hv hat hown hrg0 hg0 hs0 HRG hcp hcp2 hrg
        go_wp2
        go_roundw
        case rel => exact ⟨_, cnt2, _, HR3, HSK, HG3⟩
        case measure => rw [HR3.out.left_eq, HLE.out]; exact HL.out
theorem impl_running (ls : List Pd) (hwf : ∀ p ∈ ls, p.wf) (a : Option Addr) (cap : Nat) (w : World) (h : Pds w a ls) (hm : ls.length ≤ 1048576) :
    Calls Tryz.prog 40 #[.slice a ls.length cap] w fun e w' => ∃ D, e = .returned (.map (some w.heap.size)) ∧ RM w' w.heap.size ls.length D ∧ Is D ((ros ls).filter runs) ∧ Below w.heap.size w w' := by
  have HC := Lib.hid (roster_of ls hwf a cap w h hm)
  clear h hwf
  go_enter Tryz.func40, Tryz.ntmps40
  go_wp2_with (go_at_call 51; refine HC.out.mono ?_; rintro e w1 ⟨D, rfl, ho1, hi1, hb1⟩; have HO1 := Lib.hid ho1; have HI1 := Lib.hid hi1; have HB1 := Lib.hid hb1; clear ho1 hi1 hb1)
  go_wp2_with (go_at_call 63; refine (impl_delete _ _ D (ros ls) _ HO1.out HI1.out).mono ?_; rintro e w2 ⟨rfl, D2, ho2, hi2, hg2⟩; have HO2 := Lib.hid ho2; have HI2 := Lib.hid hi2; have HB2 := Lib.hid (HB1.out.grown hg2 HB1.out.size (fun j hj => by cases hj; exact Nat.le_refl _)); clear ho2 hi2 hg2)
  go_ret
  exact ⟨D2, rfl, HO2.out, HI2.out, HB2.out⟩

/-! ### AliveOf. -/
noncomputable def aliveV (ls : List Pd) : Int := if podsV ls = true then ((ls.filter runs).length : Int) else -1
theorem run_next {ls : List Pd} (k : Nat) (h : k < ls.length) : ((ls.take (k + 1)).filter runs).length = ((ls.take k).filter runs).length + (if runs ls[k] = true then 1 else 0) := by
  rw [List.take_succ_eq_append_getElem h, List.filter_append, List.length_append]
  congr 1
  cases hr : runs ls[k]
  · rw [List.filter_cons_of_neg (by rw [hr]; exact Bool.false_ne_true)]; simp
  · rw [List.filter_cons_of_pos hr]; simp
end Go.Proofs.YtihhbgihejjmeaaGreat.Run
