/- PodsOk: the model's. -/
import Derived.Test.YtgmdfkmmbcpikaaGreatDoorRosA
import Derived.Test.YtgmdfkmmbcpikaaGreatDoorSto
namespace Go.Proofs.YtgmdfkmmbcpikaaGreatDoor.Pok
open Go.RowKit Go.Sort Go.BigFrame
open Go.Proofs.YtgmdfkmmbcpikaaGreatDoor.C1
open Go.Proofs.YtgmdfkmmbcpikaaGreatDoor.C2
open Go.Proofs.YtgmdfkmmbcpikaaGreatDoor.Smps
open Go.Proofs.YtgmdfkmmbcpikaaGreatDoor.Mem
open Go.Proofs.YtgmdfkmmbcpikaaGreatDoor.Pd
open Go.Proofs.YtgmdfkmmbcpikaaGreatDoor.Pds
open Go.Proofs.YtgmdfkmmbcpikaaGreatDoor.Key
open Go.Proofs.YtgmdfkmmbcpikaaGreatDoor.Sto
open Go.Proofs.YtgmdfkmmbcpikaaGreatDoor.Ros
set_option linter.unusedVariables false

def PokAt (ls : List Pd) (j : Nat) (h : j < ls.length) : Prop := okP ls[j] = true ∧ ∀ h0 : 0 < j, lessV ls[j - 1].nm ls[j].nm = true
theorem podsV_at (ls : List Pd) : podsV ls = true ↔ ls.length ≤ 12 ∧ ∀ (j : Nat) (h : j < ls.length), PokAt ls j h := by
  rw [podsV_iff, up_iff]
  constructor
  · intro ⟨h1, h2, h3⟩
    refine ⟨h1, fun j hj => ⟨h2 _ (List.getElem_mem hj), fun h0 => ?_⟩⟩
    have := h3 (j - 1) (by omega)
    have e : j - 1 + 1 = j := by omega
    simpa only [e] using this
  · intro ⟨h1, h2⟩
    refine ⟨h1, fun p hp => ?_, fun i hi => ?_⟩
    · obtain ⟨j, hj, rfl⟩ := List.mem_iff_getElem.1 hp
      exact (h2 j hj).1
    · have := (h2 (i + 1) hi).2 (by omega)
      simpa using this
theorem pods_no {ls : List Pd} (h : ¬ (ls.length ≤ 12 ∧ ∀ (j : Nat) (h : j < ls.length), PokAt ls j h)) : podsV ls = false := by
  cases hb : podsV ls
  · rfl
  · exact absurd ((podsV_at ls).1 hb) h
theorem podok_later {W : World} (p : Pd) (h : p.wf) {b : Bool} (hb : okP p = b) (q : Later W) :
    Calls Tryz.prog 156 #[.agg #[.string p.nm, .int .i64 p.born, .int .i64 p.ph, .bool p.rdy]] q.u fun e w' => e = .returned (.bool b) ∧ Below q.u.heap.size q.u w' :=
  (spec_podok p h q.u).mono fun e w' ⟨he, hw⟩ => ⟨by rw [he, hb], hw⟩
theorem less_later {W : World} (a c : ByteArray) (ha : a.size ≤ 9223372036854775807) (hc : c.size ≤ 9223372036854775807) {b : Bool} (hb : lessV a c = b) (q : Later W) :
    Calls Tryz.prog 157 #[.string a, .string c] q.u fun e w' => e = .returned (.bool b) ∧ Below q.u.heap.size q.u w' :=
  (spec_less a c ha hc q.u).mono fun e w' ⟨he, n, hw⟩ => ⟨by rw [he, hb], by rw [hw]; exact Sto.below_drewN _ _ n⟩
set_option maxHeartbeats 4000000 in
set_option maxRecDepth 20000 in
theorem spec_podsok (ls : List Pd) (hwf : ∀ p ∈ ls, p.wf) (a : Option Addr) (cap : Nat) (w : World) (h : Pds w a ls) (hm : ls.length ≤ 1048576) :
    Calls Tryz.prog 92 #[.slice a ls.length cap] w fun e w' => e = .returned (.bool (podsV ls)) ∧ Below w.heap.size w w' := by
  obtain ⟨b, off, ha, hb, hcell⟩ := h.cells
  have mixed : Tryz.prog.follows .mixedOrders = true := by kernel_rfl
  by_cases hbig : 12 < ls.length
  · have HN := Lib.hid (pods_no (ls := ls) (fun h => by omega))
    go_enter Tryz.func92, Tryz.ntmps92
    go_wp2
    go_ret
    exact ⟨ret1B HN.out.symm, Below.refl _ _⟩
  · have Hc := Lib.hid hcell
    have Ha := Lib.hid ha
    have Hw := Lib.hid hwf
    have Hb := Lib.hid hb
    clear hcell ha hwf hb h
    go_enter Tryz.func92, Tryz.ntmps92
    go_wp2
    go_loopw [3] (fun i wr => ∃ k : Nat, k ≤ ls.length ∧ i = .int .i64 k ∧ Hid (∀ (j : Nat) (hj : j < ls.length), j < k → PokAt ls j hj) ∧ Hid (Below w.heap.size w wr)) (fun i _ => ls.length - (intOf i).toNat)
    case atStart => exact ⟨0, Nat.zero_le _, rfl, fun j hj h => absurd h (by omega), Below.refl _ _⟩
    case round =>
      obtain ⟨k, hk, rfl, HS, HB⟩ := hrel
      by_cases hlt : k < ls.length
      · obtain rfl := Ha.out (by omega)
        obtain ⟨l, hl⟩ : ∃ l, ls[k] = l := ⟨_, rfl⟩
        have HNO : Hid (¬ (okP l = true ∧ ∀ h0 : 0 < k, lessV ls[k - 1].nm l.nm = true) → podsV ls = false) := fun hn => pods_no fun h => hn (by have := h.2 k hlt; unfold PokAt at this; rw [hl] at this; exact this)
        have HOK : Hid ((okP l = true ∧ ∀ h0 : 0 < k, lessV ls[k - 1].nm l.nm = true) → ∀ (j : Nat) (hj : j < ls.length), j < k + 1 → PokAt ls j hj) := fun h i hi hik => by
          by_cases e : i = k
          · subst e; unfold PokAt; rw [hl]; exact h
          · exact HS.out i hi (by omega)
        have hq := (Hc.out k hlt).kept HB.out (Hb.out (by omega))
        have hwl := Hw.out ls[k] (List.getElem_mem hlt)
        rw [hl] at hwl hq
        obtain ⟨q0, q1, q2, q3⟩ := hq
        have hbr := Nat.lt_of_lt_of_le (Hb.out (by omega)) HB.out.size
        have V0 := later_cell hbr q0
        have V1 := later_cell hbr q1
        have V2 := later_cell hbr q2
        have V3 := later_cell hbr q3
        have HWL := Lib.hid hwl
        have hln := hwl.nm
        unfold maxLen at hln
        clear hl q0 q1 q2 q3 hwl
        go_wp2_with fail
        cases c1 : okP l
        · have HA := Lib.hid (podok_later (W := wr) l HWL.out c1)
          have HC1 := Lib.hid c1
          clear c1
          refine region_later mixed (by kernel_rfl) ?_
          repeat (go_big_quiet_step (first | (go_at_call 156; exact later_call (HA.out _)) | (go_at_call 157; exact later_call (HK.out _))))
          refine wpQuiet_nil ?_
          intro w1 hw'
          obtain ⟨⟨_, hw1⟩, rfl⟩ := hw'
          have HB1 := Lib.hid (HB.out.trans (hw1.mono HB.out.size))
          clear hw1
          go_wp2
          go_ret
          exact ⟨ret1B (HNO.out (fun h => by have := h.1; rw [HC1.out] at this; exact Bool.false_ne_true this)).symm, HB1.out⟩
        · have HA := Lib.hid (podok_later (W := wr) l HWL.out c1)
          have HC1 := Lib.hid c1
          clear c1
          have hA : (¬ 0 < k ∧ decide ((0 : Int) < (k : Int)) = false) ∨ (0 < k ∧ decide ((0 : Int) < (k : Int)) = true) := by
            by_cases h : 0 < k
            · exact .inr ⟨h, decide_eq_true (by omega)⟩
            · exact .inl ⟨h, decide_eq_false (by omega)⟩
          rcases hA with ⟨k0, d0⟩ | ⟨k0, d0⟩
          · have HSN := Lib.hid (HOK.out ⟨HC1.out, fun h => absurd h k0⟩)
            refine region_later mixed (by kernel_rfl) ?_
            repeat (go_big_quiet_step (first | (go_at_call 156; exact later_call (HA.out _)) | (go_at_call 157; exact later_call (HK.out _))))
            refine wpQuiet_nil ?_
            intro w1 hw'
            obtain ⟨⟨_, hw1⟩, rfl⟩ := hw'
            have HB1 := Lib.hid (HB.out.trans (hw1.mono HB.out.size))
            clear hw1 d0 V0 V1 V2 V3 HA
            go_wp2
            go_roundw
            case rel => exact ⟨k + 1, by omega, by go_num, HSN.out, HB1.out⟩
            case measure => simp [intOf]; omega
          · obtain ⟨p, hp⟩ : ∃ p : Nat, (k : Int) - 1 = (p : Int) := ⟨k - 1, by omega⟩
            have hkp : k - 1 = p := by omega
            have hpl : p < ls.length := by omega
            obtain ⟨l0, hl0⟩ : ∃ l0, ls[p] = l0 := ⟨_, rfl⟩
            have HEQ : Hid (∀ h : k - 1 < ls.length, ls[k - 1] = l0) := fun h => by subst hkp; exact hl0
            have hw0 := Hw.out ls[p] (List.getElem_mem hpl)
            obtain ⟨r0, -, -, -⟩ := (Hc.out p hpl).kept HB.out (Hb.out (by omega))
            rw [hl0] at hw0 r0
            have wp0 := hw0.nm
            unfold maxLen at wp0
            have R0 := later_cell hbr r0
            clear hl0 hkp r0 hw0
            cases c5 : lessV l0.nm l.nm
            · have HK := Lib.hid (less_later (W := wr) l0.nm l.nm (by omega) (by omega) c5)
              have HC5 := Lib.hid c5
              have HK0 := Lib.hid k0
              clear c5
              refine region_later mixed (by kernel_rfl) ?_
              repeat (go_big_quiet_step (first | (go_at_call 156; exact later_call (HA.out _)) | (go_at_call 157; exact later_call (HK.out _))))
              refine wpQuiet_nil ?_
              intro w1 hw'
              obtain ⟨⟨_, hw1⟩, rfl⟩ := hw'
              have HB1 := Lib.hid (HB.out.trans (hw1.mono HB.out.size))
              clear hw1
              go_wp2
              go_ret
              exact ⟨ret1B (HNO.out (fun h => by have := h.2 HK0.out; rw [HEQ.out (by omega), HC5.out] at this; exact Bool.false_ne_true this)).symm, HB1.out⟩
            · have HK := Lib.hid (less_later (W := wr) l0.nm l.nm (by omega) (by omega) c5)
              have HSN := Lib.hid (HOK.out ⟨HC1.out, fun h => by rw [HEQ.out (by omega)]; exact c5⟩)
              clear c5
              refine region_later mixed (by kernel_rfl) ?_
              repeat (go_big_quiet_step (first | (go_at_call 156; exact later_call (HA.out _)) | (go_at_call 157; exact later_call (HK.out _))))
              refine wpQuiet_nil ?_
              intro w1 hw'
              obtain ⟨⟨_, hw1⟩, rfl⟩ := hw'
              have HB1 := Lib.hid (HB.out.trans (hw1.mono HB.out.size))
              clear hw1 d0 V0 V1 V2 V3 R0 HA HK
              go_wp2
              go_roundw
              case rel => exact ⟨k + 1, by omega, by go_num, HSN.out, HB1.out⟩
              case measure => simp [intOf]; omega
      · obtain rfl : k = ls.length := by omega
        have HF : Hid (podsV ls = true) := (podsV_at ls).2 ⟨by omega, fun j hj => HS.out j hj hj⟩
        go_wp2
        go_ret
        exact ⟨ret1B HF.out.symm, HB.out⟩
end Go.Proofs.YtgmdfkmmbcpikaaGreatDoor.Pok

/- PodsOk: the program's: slices.Equal at pods; the whole. -/
namespace Go.Proofs.YtgmdfkmmbcpikaaGreatDoor.PokI
open Go.RowKit Go.Sort Go.Maps
open Go.Proofs.YtgmdfkmmbcpikaaGreatDoor.C1
open Go.Proofs.YtgmdfkmmbcpikaaGreatDoor.C2
open Go.Proofs.YtgmdfkmmbcpikaaGreatDoor.Smps
open Go.Proofs.YtgmdfkmmbcpikaaGreatDoor.Mem
open Go.Proofs.YtgmdfkmmbcpikaaGreatDoor.Pd
open Go.Proofs.YtgmdfkmmbcpikaaGreatDoor.Pds
open Go.Proofs.YtgmdfkmmbcpikaaGreatDoor.Key
open Go.Proofs.YtgmdfkmmbcpikaaGreatDoor.Ros
open Go.Proofs.YtgmdfkmmbcpikaaGreatDoor.RosI
open Go.Proofs.YtgmdfkmmbcpikaaGreatDoor.RosP
open Go.Proofs.YtgmdfkmmbcpikaaGreatDoor.Pok
set_option linter.unusedVariables false

def pdE (x y : Pd) : Bool := x.nm.toList == y.nm.toList && (x.born == y.born && (x.ph == y.ph && x.rdy == y.rdy))
theorem pdE_iff (x y : Pd) : pdE x y = true ↔ x = y := by
  obtain ⟨a, b, c, d⟩ := x
  obtain ⟨a', b', c', d'⟩ := y
  simp only [pdE, Bool.and_eq_true, beq_iff_eq, Pd.mk.injEq, ByteArray.toList_eq]
  exact ⟨fun ⟨h1, h2, h3, h4⟩ => ⟨nm_eq h1, h2, h3, h4⟩, fun ⟨h1, h2, h3, h4⟩ => ⟨by rw [h1], h2, h3, h4⟩⟩
theorem eq_pd (x y : Pd) (w : World) : (Op.equalIn 10000 153 (podV x) (podV y)).run Tryz.prog w = .ok (pdE x y) w := by
  have u3 := Tryz.underlying3
  have a3 := Tryz.isAgg3
  have z3 := Tryz.sizeOf3
  have u9 := Tryz.underlying9
  have a9 := Tryz.isAgg9
  have z9 := Tryz.sizeOf9
  have u4 := Tryz.underlying4
  have a4 := Tryz.isAgg4
  have z4 := Tryz.sizeOf4
  have hS : Tryz.prog.underlying 153 = some (.struct (Tryz.prog.fieldsOf 153)) := by kernel_rfl
  have hp : Tryz.prog.stoodInHeld 153 = false := by kernel_rfl
  unfold podV pdE
  rw [show (10000 : Nat) = 9999 + 1 from rfl, run_equalIn_agg w 9999 153 _ _ hS hp]
  simp only [Program.fieldsOf, Tryz.underlying153]
  go_simp
  cases e0 : x.nm.toList == y.nm.toList <;> by_cases h1 : x.born = y.born <;> by_cases h2 : x.ph = y.ph <;> cases h3 : x.rdy == y.rdy <;> simp_all
theorem neq_pd : NeqAt Tryz.prog 153 (fun x => .agg (encD x).toArray) pdE :=
  ⟨fun x y w => by
    show (binOp .neq 153 (.agg (encD x).toArray) (.agg (encD y).toArray)).run Tryz.prog w = _
    rw [run_neq_struct]
    have := eq_pd x y w
    unfold podV at this
    unfold encD
    rw [this]
    rfl, GuardAt.agg _ (by kernel_rfl)⟩
theorem allEq_iff : ∀ xs ys : List Pd, Lib.allEq pdE xs ys = true ↔ xs = ys
  | [], [] => by simp [Lib.allEq]
  | [], y :: ys => by simp [Lib.allEq]
  | x :: xs, [] => by simp [Lib.allEq]
  | x :: xs, y :: ys => by
    simp only [Lib.allEq, Bool.and_eq_true, pdE_iff, allEq_iff xs ys, List.cons.injEq]
theorem cells_pds {w : World} {b off : Nat} {xs : List Pd} (h : ∀ (i : Nat) (h : i < xs.length), PAt w b (off + i * 4) xs[i]) : ∀ j, j < xs.length → ∀ i v, (encD xs[j]!)[i]? = some v → w.cell? ⟨b, off + j * 4 + i, none⟩ = some v := by
  intro j hj i v hv
  obtain ⟨c0, c1, c2, c3⟩ := h j hj
  rw [getElem!_pos xs j hj] at hv
  match i, hv with
  | 0, hv => cases hv; exact c0
  | 1, hv => cases hv; exact c1
  | 2, hv => cases hv; exact c2
  | 3, hv => cases hv; exact c3
theorem equal_pods (qs ls : List Pd) (g cap : Nat) (a : Option Addr) (cap' : Nat) (w : World) (hq : Pds w (some ⟨g, 0, none⟩) qs) (h : Pds w a ls) (hm : qs.length ≤ 1048576) (hm' : ls.length ≤ 1048576) :
    Calls Tryz.prog 168 #[.slice (some ⟨g, 0, none⟩) qs.length cap, .slice a ls.length cap'] w fun e w' => ∃ r : Bool, e = .returned (.bool r) ∧ (r = true ↔ qs = ls) ∧ Below w.heap.size w w' := by
  by_cases hne : qs.length = ls.length
  · by_cases h0 : ls.length = 0
    · have e1 : ls = [] := List.length_eq_zero_iff.1 h0
      have e2 : qs = [] := List.length_eq_zero_iff.1 (hne.trans h0)
      subst e1 e2
      clear hne h0 hq h hm hm'
      go_enter Tryz.func168, Tryz.ntmps168
      go_wp2
      refine wp_loop_rounds 1 ?_
      rw [rounds_succ]
      go_wp2
      go_ret
      exact ⟨true, rfl, by simp, Below.refl _ _⟩
    · rcases h with h | ⟨b, off, rfl, hb, hc⟩
      · rw [h] at h0; simp at h0
      · rcases hq with hq | ⟨b', off', ea, hb', hc'⟩
        · rw [hq] at hne; simp at hne; omega
        · cases ea
          have hcon := Tryz.slices_Equal 4 Tryz.isAgg153 Tryz.sizeOf153 encD encD_len pdE neq_pd g 0 qs.length cap b off ls.length cap' qs ls w (Nat.le_refl _) (Nat.le_refl _) (by omega) (by omega) (cells_pds hc') (cells_pds hc)
          refine hcon.mono fun e w' ⟨he, q, hw⟩ => ⟨_, he, ?_, by rw [hw]; exact Sto.below_drewN _ _ _⟩
          rw [List.take_of_length_le (Nat.le_refl _), List.take_of_length_le (Nat.le_refl _)]
          exact allEq_iff _ _
  · go_enter Tryz.func168, Tryz.ntmps168
    have hd : ((qs.length : Int) != (ls.length : Int)) = true := by simp; omega
    go_wp2
    go_ret
    exact ⟨false, rfl, by simp; intro e; exact hne (by rw [e]), Below.refl _ _⟩
set_option maxHeartbeats 1000000 in
theorem impl_podsok (ls : List Pd) (hwf : ∀ p ∈ ls, p.wf) (a : Option Addr) (cap : Nat) (w : World) (h : Pds w a ls) (hm : ls.length ≤ 1048576) :
    Calls Tryz.prog 103 #[.slice a ls.length cap] w fun e w' => e = .returned (.bool (podsV ls)) ∧ Below w.heap.size w w' := by
  obtain ⟨b, off, ha, hb, hcell⟩ := h.cells
  by_cases hbig : 12 < ls.length
  · have HN := Lib.hid (pods_no (ls := ls) (fun h => by omega))
    go_enter Tryz.func103, Tryz.ntmps103
    go_wp2
    go_ret
    exact ⟨ret1B HN.out.symm, Below.refl _ _⟩
  · have Hc := Lib.hid hcell
    have Ha := Lib.hid ha
    have Hw := Lib.hid hwf
    have Hb := Lib.hid hb
    have HH := Lib.hid h
    clear hcell ha hwf hb h
    go_enter Tryz.func103, Tryz.ntmps103
    go_wp2
    go_loopw [10] (fun i wr => ∃ k : Nat, k ≤ ls.length ∧ i = .int .i64 k ∧ Hid (∀ (j : Nat) (hj : j < ls.length), j < k → okP ls[j] = true) ∧ Hid (Below w.heap.size w wr)) (fun i _ => ls.length - (intOf i).toNat)
    case atStart => exact ⟨0, Nat.zero_le _, rfl, fun j hj h => absurd h (by omega), Below.refl _ _⟩
    case round =>
      obtain ⟨k, hk, rfl, HS, HB⟩ := hrel
      by_cases hlt : k < ls.length
      · obtain rfl := Ha.out (by omega)
        obtain ⟨l, hl⟩ : ∃ l, ls[k] = l := ⟨_, rfl⟩
        have hq := (Hc.out k hlt).kept HB.out (Hb.out (by omega))
        have hwl := Hw.out ls[k] (List.getElem_mem hlt)
        have HNO : Hid (okP l = false → podsV ls = false) := fun hn => pods_no fun h => by have := (h.2 k hlt).1; rw [hl, hn] at this; cases this
        have HOK : Hid (okP l = true → ∀ (j : Nat) (hj : j < ls.length), j < k + 1 → okP ls[j] = true) := fun h i hi hik => by
          by_cases e : i = k
          · subst e; rw [hl]; exact h
          · exact HS.out i hi (by omega)
        rw [hl] at hwl hq
        obtain ⟨q0, q1, q2, q3⟩ := hq
        have HWL := Lib.hid hwl
        have HBX := Lib.hid (HB.out.alloc HB.out.size (.cells #[.string l.nm, .int .i64 l.born, .int .i64 l.ph, .bool l.rdy] 153))
        have hcon := impl_podok l hwl
        unfold podV at hcon
        have HCON := Lib.hid hcon
        clear hl hwl hcon
        cases c1 : okP l
        · have HN := Lib.hid (HNO.out c1)
          rw [c1] at HCON
          clear c1
          go_wp2_with (go_at_call 167; refine (HCON.out _).mono ?_; rintro e w2 ⟨rfl, hb2⟩; have HB2 := Lib.hid (HBX.out.trans (hb2.mono HBX.out.size)); clear hb2)
          go_ret
          exact ⟨ret1B HN.out.symm, HB2.out⟩
        · have HSN := Lib.hid (HOK.out c1)
          rw [c1] at HCON
          clear c1
          go_wp2_with (go_at_call 167; refine (HCON.out _).mono ?_; rintro e w2 ⟨rfl, hb2⟩; have HB2 := Lib.hid (HBX.out.trans (hb2.mono HBX.out.size)); clear hb2)
          clear q0 q1 q2 q3
          go_wp2
          go_roundw
          case rel => exact ⟨k + 1, by omega, by go_num, HSN.out, HB2.out⟩
          case measure => simp [intOf]; omega
      · obtain rfl : k = ls.length := by omega
        have HPD := Lib.hid (HH.out.kept HB.out)
        have hl12 : (ros ls).length ≤ 12 := by have := ros_len ls; omega
        have HAL : Hid (∀ p ∈ ls, okP p = true) := fun p hp => by
          obtain ⟨j, hj, rfl⟩ := List.mem_iff_getElem.1 hp
          exact HS.out j hj hj
        clear HS
        go_wp2_with (go_at_call 169; refine (roster_of ls Hw.out _ _ _ HPD.out (by omega)).mono ?_; rintro e w1 ⟨D, rfl, ho1, hi1, hb1⟩; have HO1 := Lib.hid ho1; have HI1 := Lib.hid hi1; have HB1 := Lib.hid (HB.out.trans (hb1.mono HB.out.size)); have HP1 := Lib.hid (HPD.out.kept hb1); clear ho1 hi1 hb1)
        go_wp2_with (go_at_call 170; refine (impl_pods _ _ D (ros ls) _ HO1.out HI1.out hl12).mono ?_; rintro e w2 ⟨g, cp, qs, rfl, hg, hpm, hup, hpd, hb2⟩; have HPM := Lib.hid hpm; have HUP := Lib.hid hup; have HQ := Lib.hid hpd; have HB2 := Lib.hid (HB1.out.trans (hb2.mono HB1.out.size)); have HP2 := Lib.hid (HP1.out.kept hb2); clear hg hpm hup hpd hb2)
        have hql : qs.length ≤ 12 := by have := HPM.out.length_eq; omega
        go_wp2_with (go_at_call 168; refine (equal_pods qs ls _ _ _ _ _ HQ.out HP2.out (by omega) (by omega)).mono ?_; rintro e w3 ⟨r, rfl, hr, hb3⟩; have HR := Lib.hid hr; have HB3 := Lib.hid (HB2.out.trans (hb3.mono HB2.out.size)); clear hr hb3)
        go_ret
        refine ⟨ret1B ?_, HB3.out⟩
        have hiff : r = true ↔ podsV ls = true := by
          rw [HR.out, sorted_is HPM.out HUP.out, podsV_iff]
          exact ⟨fun h => ⟨by omega, HAL.out, h⟩, fun h => h.2.2⟩
        cases r <;> cases hv : podsV ls <;> simp_all
end Go.Proofs.YtgmdfkmmbcpikaaGreatDoor.PokI
