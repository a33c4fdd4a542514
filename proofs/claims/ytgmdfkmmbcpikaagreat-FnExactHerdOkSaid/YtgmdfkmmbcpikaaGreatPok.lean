/- PodsOk: the model's. -/
import Derived.Test.YtgmdfkmmbcpikaaGreatRos
import Derived.Test.YtgmdfkmmbcpikaaGreatSto
namespace Go.Proofs.YtgmdfkmmbcpikaaGreat.Pok
open Go.RowKit Go.Sort Go.BigFrame
open Go.Proofs.YtgmdfkmmbcpikaaGreat.C1
open Go.Proofs.YtgmdfkmmbcpikaaGreat.C2
open Go.Proofs.YtgmdfkmmbcpikaaGreat.Smps
open Go.Proofs.YtgmdfkmmbcpikaaGreat.Mem
open Go.Proofs.YtgmdfkmmbcpikaaGreat.Pd
open Go.Proofs.YtgmdfkmmbcpikaaGreat.Pds
open Go.Proofs.YtgmdfkmmbcpikaaGreat.Key
open Go.Proofs.YtgmdfkmmbcpikaaGreat.Sto
open Go.Proofs.YtgmdfkmmbcpikaaGreat.Ros
set_option linter.unusedVariables false

def PokAt (ls : List Pd) (j : Nat) (h : j < ls.length) : Prop := okP ls[j] = true ∧ ∀ h0 : 0 < j, lessV ls[j - 1].nm ls[j].nm = true
theorem podsV_at (ls : List Pd) : podsV ls = true ↔ ls.length ≤ 12 ∧ ∀ (j : Nat) (h : j < ls.length), PokAt ls j h := by
  rw [podsV_iff, up_iff]
  constructor
  · intro ⟨h1, h2, h3⟩
    refine ⟨h1, fun j hj => ⟨h2 _ (List.getElem_mem hj), fun h0 => ?_⟩⟩
    have := h3 (j - 1) (by omega)
    have e : j - 1 + 1 = j := by omega
    simpa only [e] using this
  · intro ⟨h1, h2⟩
    refine ⟨h1, fun p hp => ?_, fun i hi => ?_⟩
    · obtain ⟨j, hj, rfl⟩ := List.mem_iff_getElem.1 hp
      exact (h2 j hj).1
    · have := (h2 (i + 1) hi).2 (by omega)
      simpa using this
theorem pods_no {ls : List Pd} (h : ¬ (ls.length ≤ 12 ∧ ∀ (j : Nat) (h : j < ls.length), PokAt ls j h)) : podsV ls = false := by
  cases hb : podsV ls
  · rfl
  · exact absurd ((podsV_at ls).1 hb) h
theorem podok_later {W : World} (p : Pd) (h : p.wf) {b : Bool} (hb : okP p = b) (q : Later W) :
    Calls Tryz.prog 64 #[.agg #[.string p.nm, .int .i64 p.born, .int .i64 p.ph, .bool p.rdy]] q.u fun e w' => e = .returned (.bool b) ∧ Below q.u.heap.size q.u w' :=
  (spec_podok p h q.u).mono fun e w' ⟨he, hw⟩ => ⟨by rw [he, hb], hw⟩
theorem less_later {W : World} (a c : ByteArray) (ha : a.size ≤ 9223372036854775807) (hc : c.size ≤ 9223372036854775807) {b : Bool} (hb : lessV a c = b) (q : Later W) :
    Calls Tryz.prog 65 #[.string a, .string c] q.u fun e w' => e = .returned (.bool b) ∧ Below q.u.heap.size q.u w' :=
  (spec_less a c ha hc q.u).mono fun e w' ⟨he, n, hw⟩ => ⟨by rw [he, hb], by rw [hw]; exact Sto.below_drewN _ _ n⟩
set_option maxHeartbeats 4000000 in
set_option maxRecDepth 20000 in
theorem spec_podsok (ls : List Pd) (hwf : ∀ p ∈ ls, p.wf) (a : Option Addr) (cap : Nat) (w : World) (h : Pds w a ls) (hm : ls.length ≤ 1048576) :
    Calls Tryz.prog 27 #[.slice a ls.length cap] w fun e w' => e = .returned (.bool (podsV ls)) ∧ Below w.heap.size w w' := by
  obtain ⟨b, off, ha, hb, hcell⟩ := h.cells
  have mixed : Tryz.prog.follows .mixedOrders = true := by kernel_rfl
  by_cases hbig : 12 < ls.length
  · have HN := Lib.hid (pods_no (ls := ls) (fun h => by omega))
    go_enter Tryz.func27, Tryz.ntmps27
    go_wp2
    go_ret
    exact ⟨ret1B HN.out.symm, Below.refl _ _⟩
  · have Hc := Lib.hid hcell
    have Ha := Lib.hid ha
    have Hw := Lib.hid hwf
    have Hb := Lib.hid hb
    clear hcell ha hwf hb h
    go_enter Tryz.func27, Tryz.ntmps27
    go_wp2
    go_loopw [3] (fun i wr => ∃ k : Nat, k ≤ ls.length ∧ i = .int .i64 k ∧ Hid (∀ (j : Nat) (hj : j < ls.length), j < k → PokAt ls j hj) ∧ Hid (Below w.heap.size w wr)) (fun i _ => ls.length - (intOf i).toNat)
    case atStart => exact ⟨0, Nat.zero_le _, rfl, fun j hj h => absurd h (by omega), Below.refl _ _⟩
    case round =>
      obtain ⟨k, hk, rfl, HS, HB⟩ := hrel
      by_cases hlt : k < ls.length
      · obtain rfl := Ha.out (by omega)
        obtain ⟨l, hl⟩ : ∃ l, ls[k] = l := ⟨_, rfl⟩
        have HNO : Hid (¬ (okP l = true ∧ ∀ h0 : 0 < k, lessV ls[k - 1].nm l.nm = true) → podsV ls = false) := fun hn => pods_no fun h => hn (by have := h.2 k hlt; unfold PokAt at this; rw [hl] at this; exact this)
        have HOK : Hid ((okP l = true ∧ ∀ h0 : 0 < k, lessV ls[k - 1].nm l.nm = true) → ∀ (j : Nat) (hj : j < ls.length), j < k + 1 → PokAt ls j hj) := fun h i hi hik => by
          by_cases e : i = k
          · subst e; unfold PokAt; rw [hl]; exact h
          · exact HS.out i hi (by omega)
        have hq := (Hc.out k hlt).kept HB.out (Hb.out (by omega))
        have hwl := Hw.out ls[k] (List.getElem_mem hlt)
        rw [hl] at hwl hq
        obtain ⟨q0, q1, q2, q3⟩ := hq
        have hbr := Nat.lt_of_lt_of_le (Hb.out (by omega)) HB.out.size
        have V0 := later_cell hbr q0
        have V1 := later_cell hbr q1
        have V2 := later_cell hbr q2
        have V3 := later_cell hbr q3
        have HWL := Lib.hid hwl
        have hln := hwl.nm
        unfold maxLen at hln
        clear hl q0 q1 q2 q3 hwl
        go_wp2_with fail
        cases c1 : okP l
        · have HA := Lib.hid (podok_later (W := wr) l HWL.out c1)
          have HC1 := Lib.hid c1
          clear c1
          refine region_later mixed (by kernel_rfl) ?_
          repeat (go_big_quiet_step (first | (go_at_call 64; exact later_call (HA.out _)) | (go_at_call 65; exact later_call (HK.out _))))
          refine wpQuiet_nil ?_
          intro w1 hw'
          obtain ⟨⟨_, hw1⟩, rfl⟩ := hw'
          have HB1 := Lib.hid (HB.out.trans (hw1.mono HB.out.size))
          clear hw1
          go_wp2
          go_ret
          exact ⟨ret1B (HNO.out (fun h => by have := h.1; rw [HC1.out] at this; exact Bool.false_ne_true this)).symm, HB1.out⟩
        · have HA := Lib.hid (podok_later (W := wr) l HWL.out c1)
          have HC1 := Lib.hid c1
          clear c1
          have hA : (¬ 0 < k ∧ decide ((0 : Int) < (k : Int)) = false) ∨ (0 < k ∧ decide ((0 : Int) < (k : Int)) = true) := by
            by_cases h : 0 < k
            · exact .inr ⟨h, decide_eq_true (by omega)⟩
            · exact .inl ⟨h, decide_eq_false (by omega)⟩
          rcases hA with ⟨k0, d0⟩ | ⟨k0, d0⟩
          · have HSN := Lib.hid (HOK.out ⟨HC1.out, fun h => absurd h k0⟩)
            refine region_later mixed (by kernel_rfl) ?_
            repeat (go_big_quiet_step (first | (go_at_call 64; exact later_call (HA.out _)) | (go_at_call 65; exact later_call (HK.out _))))
            refine wpQuiet_nil ?_
            intro w1 hw'
            obtain ⟨⟨_, hw1⟩, rfl⟩ := hw'
            have HB1 := Lib.hid (HB.out.trans (hw1.mono HB.out.size))
            clear hw1 d0 V0 V1 V2 V3 HA
            go_wp2
            go_roundw
            case rel => exact ⟨k + 1, by omega, by go_num, HSN.out, HB1.out⟩
            case measure => simp [intOf]; omega
          · obtain ⟨p, hp⟩ : ∃ p : Nat, (k : Int) - 1 = (p : Int) := ⟨k - 1, by omega⟩
            have hkp : k - 1 = p := by omega
            have hpl : p < ls.length := by omega
            obtain ⟨l0, hl0⟩ : ∃ l0, ls[p] = l0 := ⟨_, rfl⟩
            have HEQ : Hid (∀ h : k - 1 < ls.length, ls[k - 1] = l0) := fun h => by subst hkp; exact hl0
            have hw0 := Hw.out ls[p] (List.getElem_mem hpl)
            obtain ⟨r0, -, -, -⟩ := (Hc.out p hpl).kept HB.out (Hb.out (by omega))
            rw [hl0] at hw0 r0
            have wp0 := hw0.nm
            unfold maxLen at wp0
            have R0 := later_cell hbr r0
            clear hl0 hkp r0 hw0
            cases c5 : lessV l0.nm l.nm
            · have HK := Lib.hid (less_later (W := wr) l0.nm l.nm (by omega) (by omega) c5)
              have HC5 := Lib.hid c5
              have HK0 := Lib.hid k0
              clear c5
              refine region_later mixed (by kernel_rfl) ?_
              repeat (go_big_quiet_step (first | (go_at_call 64; exact later_call (HA.out _)) | (go_at_call 65; exact later_call (HK.out _))))
              refine wpQuiet_nil ?_
              intro w1 hw'
              obtain ⟨⟨_, hw1⟩, rfl⟩ := hw'
              have HB1 := Lib.hid (HB.out.trans (hw1.mono HB.out.size))
              clear hw1
              go_wp2
              go_ret
              exact ⟨ret1B (HNO.out (fun h => by have := h.2 HK0.out; rw [HEQ.out (by omega), HC5.out] at this; exact Bool.false_ne_true this)).symm, HB1.out⟩
            · have HK := Lib.hid (less_later (W := wr) l0.nm l.nm (by omega) (by omega) c5)
              have HSN := Lib.hid (HOK.out ⟨HC1.out, fun h => by rw [HEQ.out (by omega)]; exact c5⟩)
              clear c5
              refine region_later mixed (by kernel_rfl) ?_
              repeat (go_big_quiet_step (first | (go_at_call 64; exact later_call (HA.out _)) | (go_at_call 65; exact later_call (HK.out _))))
              refine wpQuiet_nil ?_
              intro w1 hw'
              obtain ⟨⟨_, hw1⟩, rfl⟩ := hw'
              have HB1 := Lib.hid (HB.out.trans (hw1.mono HB.out.size))
              clear hw1 d0 V0 V1 V2 V3 R0 HA HK
              go_wp2
              go_roundw
              case rel => exact ⟨k + 1, by omega, by go_num, HSN.out, HB1.out⟩
              case measure => simp [intOf]; omega
      · obtain rfl : k = ls.length := by omega
        have HF : Hid (podsV ls = true) := (podsV_at ls).2 ⟨by omega, fun j hj => HS.out j hj hj⟩
        go_wp2
        go_ret
        exact ⟨ret1B HF.out.symm, HB.out⟩
end Go.Proofs.YtgmdfkmmbcpikaaGreat.Pok
