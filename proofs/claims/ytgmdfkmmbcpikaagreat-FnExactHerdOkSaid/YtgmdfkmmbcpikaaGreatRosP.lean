/- The program's pods: a roster's pods, collected in whatever order, sorted by their names; slices.Equal at pods. -/
import Derived.Test.YtgmdfkmmbcpikaaGreatRosI
import Derived.Sort.OwnSorted
import Derived.Laws.StructEq
import Derived.ChangeKeysEq
namespace Go.Proofs.YtgmdfkmmbcpikaaGreat.RosP
open Go.RowKit Go.Sort Go.Maps
open Go.Proofs.YtgmdfkmmbcpikaaGreat.C1
open Go.Proofs.YtgmdfkmmbcpikaaGreat.C2
open Go.Proofs.YtgmdfkmmbcpikaaGreat.Smps
open Go.Proofs.YtgmdfkmmbcpikaaGreat.Mem
open Go.Proofs.YtgmdfkmmbcpikaaGreat.Pd
open Go.Proofs.YtgmdfkmmbcpikaaGreat.Pds
open Go.Proofs.YtgmdfkmmbcpikaaGreat.Key
open Go.Proofs.YtgmdfkmmbcpikaaGreat.Ros
open Go.Proofs.YtgmdfkmmbcpikaaGreat.RosI
set_option linter.unusedVariables false

/-! ### Sorted by name. -/
theorem cmp_pods (x y : Pd) (w : World) :
    Calls Tryz.prog 122 #[podV x, podV y] w fun e w' => e = .returned (.int .i64 (cmpB x.nm.data.toList y.nm.data.toList)) ∧ ∃ q os', w' = grow (w.drewN q) os' := by
  unfold podV
  go_enter Tryz.func122, Tryz.ntmps122
  go_wp2_with (go_at_call 125; refine (cmp_str x.nm y.nm _).mono ?_; rintro e w' ⟨rfl, rfl⟩)
  go_ret
  exact ⟨rfl, 0, _, grown2 _ _ _⟩
def cfN (x y : Pd) : Int := cmpB x.nm.data.toList y.nm.data.toList
theorem lt_nm (x y : Pd) : ltOf cfN x y = decide (x.nm.data.toList < y.nm.data.toList) := by
  unfold ltOf cfN cmpB
  by_cases h1 : x.nm.data.toList < y.nm.data.toList
  · simp [h1]
  · by_cases h2 : y.nm.data.toList < x.nm.data.toList <;> simp [h1, h2]
theorem swo_nm : SWO (ltOf cfN) where
  irrefl x := by rw [lt_nm]; exact decide_eq_false (List.lt_irrefl _)
  trans x y z h1 h2 := by
    rw [lt_nm] at *
    exact decide_eq_true (List.lt_trans (of_decide_eq_true h1) (of_decide_eq_true h2))
  ntrans x y z h1 h2 := by
    rw [lt_nm] at *
    refine decide_eq_false fun h => ?_
    have g1 := of_decide_eq_false h1
    have g2 := of_decide_eq_false h2
    rcases Std.lt_trichotomy x.nm.data.toList y.nm.data.toList with k | k | k
    · exact g1 k
    · rw [k] at h; exact g2 h
    · exact g2 (List.lt_trans k h)
theorem encD_len (p : Pd) : (encD p).length = 4 := rfl
theorem sort_pods (ps : List Pd) (h12 : ps.length ≤ 12) (g cap : Nat) (w : World) (hg : g < w.heap.size) (h : HoldsK encD 4 w g 0 ps.toArray) :
    Calls Tryz.prog 121 #[.slice (some ⟨g, 0, none⟩) ps.length cap, .func (.func 122) #[] #[]] w fun e w' => e = .returned (.tuple #[]) ∧ ∃ (d' : Array Pd) (n : Nat) (os : Array Obj), PermIn 0 ps.length ps.toArray d' ∧ SortedIn (ltOf cfN) 0 ps.length d' ∧ w' = sortWorldK encD 4 w g 0 n d' os := by
  have eg : ∀ args w, (callFunc 122 args).run Tryz.prog w = .ok (.enter 122 args) w := enters_of Tryz.func122 (by kernel_rfl) rfl
  have hcon := Tryz.slices_SortFunc_small_sorted_f121 4 Tryz.isAgg115 Tryz.sizeOf115 encD encD_len (fun x v hv => by simp [encD] at hv; rcases hv with rfl | rfl | rfl | rfl <;> rfl) cfN 122 #[] swo_nm g 0 cap ps.toArray w eg
    (fun m os dk hs x y => cmp_pods x y _) h hg (by simpa using h12) (fun n W hn => (Tryz.bits_Len n W (by omega) (by omega)).mono fun _ _ ⟨he, hw⟩ => ⟨⟨_, he⟩, hw⟩)
  simpa using hcon
theorem sorted_up {ps : List Pd} {d' : Array Pd} (hap : Apart ps) (hp : PermIn 0 ps.length ps.toArray d') (hs : SortedIn (ltOf cfN) 0 ps.length d') : d'.toList.Perm ps ∧ Up d'.toList := by
  obtain ⟨h1, _, h3⟩ := hp
  have h1' : d'.size = ps.length := by simpa using h1
  have e1 : d'.extract 0 ps.length = d' := by rw [← h1']; simp
  have e2 : ps.toArray.extract 0 ps.length = ps.toArray := by have : ps.length = ps.toArray.size := by simp
                                                              rw [this]; simp
  rw [e1, e2] at h3
  have h4 : d'.toList.Perm ps := h3
  refine ⟨h4, ?_⟩
  have ha : Apart d'.toList := (h4.pairwise_iff (R := fun x y : Pd => x.nm ≠ y.nm) (fun h => Ne.symm h)).2 hap
  unfold Up
  rw [List.pairwise_iff_getElem]
  intro i j hi hj hij
  have hi' : i < d'.size := by simpa using hi
  have hj' : j < d'.size := by simpa using hj
  have := hs i j (Nat.zero_le _) hij (by omega)
  rw [lt_nm, getElem!_pos d' i hi', getElem!_pos d' j hj'] at this
  have h5 := of_decide_eq_false this
  have h6 := List.pairwise_iff_getElem.1 ha i j hi hj hij
  simp only [Array.getElem_toList] at h6 ⊢
  rcases Std.lt_trichotomy d'[i].nm.data.toList d'[j].nm.data.toList with k | k | k
  · exact k
  · exact absurd (nm_eq k) h6
  · exact absurd k h5
theorem holds_own {w : World} {B g n cap : Nat} {ps : List Pd} (h : OwnD w B (.slice (some ⟨g, 0, none⟩) n cap) ps) (hn : n = ps.length) : HoldsK encD 4 w g 0 ps.toArray := by
  intro j hj
  have hj2 : j < ps.toArray.size * 4 := by simpa using hj
  have hi : j / 4 < ps.length := by simp at hj2; omega
  obtain ⟨⟨c0, c1, c2, c3⟩, hf⟩ := h.spot hn (j / 4) hi
  rw [get_flatK encD 4 ps.toArray j hj2, Nat.zero_add]
  have eg : ps.toArray[j / 4]! = ps[j / 4] := by simp [hi]
  rw [eg]
  have e0 : j = j / 4 * 4 + j % 4 := by omega
  rcases (by omega : j % 4 = 0 ∨ j % 4 = 1 ∨ j % 4 = 2 ∨ j % 4 = 3) with h | h | h | h
  · have e : j / 4 * 4 = j := by omega
    rw [e] at c0
    rw [h]
    exact ⟨c0, hf j⟩
  · have e : j / 4 * 4 + 1 = j := by omega
    rw [e] at c1
    rw [h]
    exact ⟨c1, hf j⟩
  · have e : j / 4 * 4 + 2 = j := by omega
    rw [e] at c2
    rw [h]
    exact ⟨c2, hf j⟩
  · have e : j / 4 * 4 + 3 = j := by omega
    rw [e] at c3
    rw [h]
    exact ⟨c3, hf j⟩
theorem sorted_pds {w : World} {g : Nat} {ps : List Pd} (h : HoldsK encD 4 w g 0 ps.toArray) (hg : g < w.heap.size) (d' : Array Pd) (hs : d'.size = ps.length) (n : Nat) (os : Array Obj) :
    Pds (sortWorldK encD 4 w g 0 n d' os) (some ⟨g, 0, none⟩) d'.toList ∧ Only g w (sortWorldK encD 4 w g 0 n d' os) := by
  have hK := holdsK_sortWorldK_c encD 4 w g 0 ps.toArray d' n os h hg (by simpa using hs)
  have hsz : w.heap.size ≤ (sortWorldK encD 4 w g 0 n d' os).heap.size := size_sortWorldK_c encD 4 w g 0 n d' os
  refine ⟨.inr ⟨g, 0, rfl, Nat.lt_of_lt_of_le hg hsz, fun i hi => ?_⟩, ⟨rfl, rfl, rfl, hsz, fun k hk hne => ?_⟩⟩
  · have hi2 : i < d'.size := by simpa using hi
    have c0 := (hK.cell hi2 (show 0 < 4 by omega)).1
    have c1 := (hK.cell hi2 (show 1 < 4 by omega)).1
    have c2 := (hK.cell hi2 (show 2 < 4 by omega)).1
    have c3 := (hK.cell hi2 (show 3 < 4 by omega)).1
    rw [getElem!_pos d' i hi2] at c0 c1 c2 c3
    simp only [Array.getElem_toList]
    exact ⟨c0, c1, c2, c3⟩
  · unfold sortWorldK
    rw [heap_grow_old _ _ (by unfold putRowK; rw [size_putRow]; exact hk)]
    show ((Sort.ahead w n).heap.modify g _)[k]? = _
    rw [Array.getElem?_modify, if_neg (fun e => hne e.symm)]
    rfl

/-! ### Collecting. -/
theorem info_pd2 : ∃ i, Tryz.prog.info? 115 = some i ∧ i.zero = some (podV zeroD) ∧ i.size = 4 ∧ i.bytes = 40 := by
  obtain ⟨i, hi, hz⟩ := Option.map_eq_some_iff.1 info_pd
  simp only [Prod.mk.injEq] at hz
  exact ⟨i, hi, hz.1, hz.2.1, hz.2.2⟩
theorem four_one (p : Pd) : ∀ u ∈ [Value.string p.nm, .int .i64 p.born, .int .i64 p.ph, .bool p.rdy], u.oneCell' = true := by
  intro u hu
  simp at hu
  rcases hu with rfl | rfl | rfl | rfl <;> rfl
theorem four_cells (w : World) (p : Pd) (t : TypeId) : ∀ (j : Nat) (u : Value), [Value.string p.nm, .int .i64 p.born, .int .i64 p.ph, .bool p.rdy][j]? = some u → (w.alloc (.cells #[.string p.nm, .int .i64 p.born, .int .i64 p.ph, .bool p.rdy] t)).cell? ((⟨w.heap.size, 0, none⟩ : Addr).add j) = some u := by
  intro j u hj
  obtain ⟨-, -, c0, c1, c2, c3⟩ := box_read (Below.refl _ (w.alloc (.cells #[.string p.nm, .int .i64 p.born, .int .i64 p.ph, .bool p.rdy] t)))
  match j, hj with
  | 0, hj => cases hj; exact c0
  | 1, hj => cases hj; exact c1
  | 2, hj => cases hj; exact c2
  | 3, hj => cases hj; exact c3
theorem OwnD_snoc {w : World} {B : Nat} {v : Value} {ps : List Pd} {p : Pd} (h : w.ownsRow B 115 4 v (ps.length + 1) (flatP ps ++ [.string p.nm, .int .i64 p.born, .int .i64 p.ph, .bool p.rdy])) : OwnD w B v (ps ++ [p]) := by
  unfold OwnD
  rw [List.length_append, flatP_append]
  exact h
theorem OwnD.row {w : World} {B : Nat} {v : Value} {ps : List Pd} (h : OwnD w B v ps) : w.ownsRow B 115 4 v ps.length (flatP ps) := h
def mkP (p : Pd) : Value := .agg #[.string p.nm, .int .i64 p.born, .int .i64 p.ph, .bool p.rdy]
theorem invP (v : Value) (y : DataW Unit × List MemPlace) (h : podR v = some y) : ∃ p, v = mkP p := by
  obtain ⟨p, hp, _⟩ := podR_inv h
  exact ⟨p, hp⟩
theorem invK (key : Value) (kl : Lit) (h : keyOf Tryz.prog 9 key = some kl) : ∃ x, key = encStr x := by
  obtain ⟨x, hx, _⟩ := Maps.keyOf_str Tryz.underlying9 h
  exact ⟨x, hx⟩
abbrev RG (w : World) (b r n : Nat) (D : DataW Unit) (left : Lit → Bool) (cnt : Nat) : Prop := w.ranges Tryz.prog 9 podR b r n D left cnt
set_option maxRecDepth 100000 in
set_option maxHeartbeats 1000000 in
theorem impl_pods (b n : Nat) (D : DataW Unit) (ps : List Pd) (w : World) (hown : RM w b n D) (his : Is D ps) (h12 : ps.length ≤ 12) :
    Calls Tryz.prog 86 #[.map (some b)] w fun e w' => ∃ (g cap : Nat) (qs : List Pd), e = .returned (.slice (some ⟨g, 0, none⟩) qs.length cap) ∧ w.heap.size ≤ g ∧ qs.Perm ps ∧ Up qs ∧ Pds w' (some ⟨g, 0, none⟩) qs ∧ Below w.heap.size w w' := by
  obtain ⟨i0, hi, hz0, hz1, hz2⟩ := info_pd2
  have hbl := hown.lt
  have HSZ := Lib.hid his.size
  go_enter Tryz.func86, Tryz.ntmps86
  go_wp2_with (first
    | (at_len; refine wpList_len_own _ rfl _ 135 rfl 9 115 map_t podR b n D rfl hown ?_)
    | (at_make; refine wpList_make_own _ rfl _ _ 49 rfl w.heap.size 115 i0 (podV zeroD) 4 Tryz.underlying49 hi hz0 hz1 _ _ _ (Maps.size D) rfl rfl rfl (by rw [hz2, HSZ.out]; omega) (by rw [HSZ.out]; unfold maxLen; omega) (Nat.le_refl _) ?_; intro w1 hrow1 hg1)
    | (at_range; refine wpList_range_own _ rfl _ 135 rfl 9 115 keyed map_t podR b n D rfl (hown.kept hg1 (by simp)) ?_; intro w0 hrg0 hg0 hs0)
    | go_in)
  go_frame
  have HI := Lib.hid his
  go_loopw [3] (fun v wr => ∃ (left : Lit → Bool) (cnt : Nat) (ss : List Pd), Hid (RG wr b w1.heap.size n D left cnt) ∧ ss.length + cnt ≤ 12 ∧ Hid (OwnD wr w.heap.size v ss) ∧ Hid (v ≠ .slice none 0 0) ∧ Hid (Met ps left ss) ∧ Hid (Below w.heap.size w wr))
    (fun _ wr => wr.rangeLeft b w1.heap.size)
  case atStart =>
    refine ⟨_, _, [], Lib.hid hrg0, by rw [HSZ.out]; simpa using h12, Lib.hid ?_, Lib.hid (by simp), Lib.hid (Met.start his), Lib.hid (((Below.refl _ _).grown hg1 (Nat.le_refl _) (fun j hj => by cases hj)).grown hg0 hg1.size (fun j hj => by cases hj))⟩
    exact hrow1.kept hg0 (Or.inr (by simp [Value.ownBlock]))
  case round =>
    obtain ⟨left, cnt, ss, HRG, hcs, HO, HN, HM, HB⟩ := hrel
    have hrg := HRG.out
    go_wp2_with (first
      | (at_next; refine wpList_next_ranges _ rfl _ rfl 9 keyed podR encStr mkP invK invP b w1.heap.size n D left cnt rfl hrg ?_ ?_)
      | go_in)
    · intro hc0 hl0
      have hO := HO.out
      rcases hO.2 with ⟨hnil, _⟩ | ⟨g, cap, cur, rfl, hbase, hb, h1, h2, h3, h4⟩
      · exact absurd hnil HN.out
      have hgl : g < wr.heap.size := (Array.getElem?_eq_some_iff.1 hb).1
      have hH := holds_own hO rfl
      have hl12 : ss.length ≤ 12 := by omega
      have hap := HM.out.apart
      have hpm := HM.out.perm HI.out.apart hl0
      have HC := Lib.hid (sort_pods ss hl12 g cap wr hgl hH)
      have HH := Lib.hid hH
      have HAP := Lib.hid hap
      have HPM := Lib.hid hpm
      have HGL := Lib.hid hgl
      have HBS := Lib.hid hbase
      clear hH hap hpm hb h1 h2 h3 h4 hO hgl hbase HRG hrg hown hrow1 hg1 hrg0 hg0 hs0
      go_wp2_with (go_at_call 121; refine HC.out.mono ?_; rintro e w' ⟨rfl, d', nn, os, hp, hs, hw'⟩; have HP := Lib.hid hp; have HS := Lib.hid hs; have HW' := Lib.hid hw'; clear hp hs hw')
      go_ret
      obtain ⟨k1, k2⟩ := sorted_up HAP.out HP.out HS.out
      have hds : d'.size = ss.length := by simpa using HP.out.1
      obtain ⟨k3, k4⟩ := sorted_pds HH.out HGL.out d' hds nn os
      rw [← HW'.out] at k3 k4
      have hlen : d'.toList.length = ss.length := by simpa using hds
      exact ⟨g, cap, d'.toList, by rw [hlen]; rfl, HBS.out, k1.trans HPM.out, k2, k3, HB.out.trans (k4.below HBS.out HB.out.size)⟩
    · intro x c kl yd yp w2 cnt2 hkey hlk hv hat hrg2 hlt hg2 hs2 hen
      have hv2 : yd = podD c := by
        have := podR_mk c
        have h3 := this.symm.trans hv
        exact (congrArg Prod.fst (Option.some.inj h3)).symm
      subst hv2
      obtain ⟨hcp, rfl⟩ := HI.out.find (has_true_of_atKey hat) hat
      have HMY := Lib.hid (HM.out.step HI.out.apart hcp hlk)
      have hrow2 : w2.ownsRow w.heap.size 115 4 _ ss.length (flatP ss) := World.ownsRow.kept HO.out hg2 (Or.inr (row_ne_iter HO.out hrg).symm)
      have HB2 := Lib.hid (HB.out.grown hg2 HB.out.size (fun j hj => by cases hj; exact hg1.size))
      have HRG2 := Lib.hid hrg2
      have HR2 := Lib.hid hrow2
      have HCB := Lib.hid (HB2.out.alloc HB2.out.size (.cells #[.string c.nm, .int .i64 c.born, .int .i64 c.ph, .bool c.rdy] 115))
      have HCC := Lib.hid (HCB.out.alloc HCB.out.size (.cells #[.string c.nm, .int .i64 c.born, .int .i64 c.ph, .bool c.rdy] 115))
      have HSC := Lib.hid HCC.out.size
      have hss : ss.length ≤ 12 := by omega
      have HL := Lib.hid hlt
      have HV := Lib.hid (hrg.left_eq)
      unfold mkP at hen
      clear hs2 hg2 hrow2 hrg2 hlt hkey hlk hv hat hown hrow1 hrg0 hg0 hs0 HRG
      go_wp2_with (first
        | (at_builtin; refine wpList_append_own _ rfl _ _ 49 rfl w.heap.size 115 i0 (podV zeroD) 4 40 Tryz.underlying49 hi hz0 hz1 hz2 rfl (by decide) _ ss.length (flatP ss) rfl ((World.ownsRow.alloc HR2.out _).alloc _) ⟨w2.heap.size + 1, 0, none⟩ 1 1 [.string c.nm, .int .i64 c.born, .int .i64 c.ph, .bool c.rdy] rfl rfl ?e1 (four_one c) (by unfold maxLen; omega) (by omega) HSC.out ?_)
        | go_in)
      case e1 =>
        have h := four_cells (w2.alloc (.cells #[.string c.nm, .int .i64 c.born, .int .i64 c.ph, .bool c.rdy] 115)) c 115
        have e : (w2.alloc (.cells #[.string c.nm, .int .i64 c.born, .int .i64 c.ph, .bool c.rdy] 115)).heap.size = w2.heap.size + 1 := by simp
        rw [e] at h
        exact h
      intro v' w3 hown' hg3 hnil3
      have hrow4 := World.ownsRow.alloc (World.ownsRow.alloc HR2.out (.cells #[.string c.nm, .int .i64 c.born, .int .i64 c.ph, .bool c.rdy] 115)) (.cells #[.string c.nm, .int .i64 c.born, .int .i64 c.ph, .bool c.rdy] 115)
      have hrg4 := World.ranges.alloc (World.ranges.alloc HRG2.out (.cells #[.string c.nm, .int .i64 c.born, .int .i64 c.ph, .bool c.rdy] 115)) (.cells #[.string c.nm, .int .i64 c.born, .int .i64 c.ph, .bool c.rdy] 115)
      have HR4 := Lib.hid (hrg4.kept hg3 (row_ne_low hrow4 hbl) (row_ne_iter hrow4 hrg4))
      have HO4 := Lib.hid (OwnD_snoc hown')
      have HN4 : Hid (v' ≠ .slice none 0 0) := fun hv' => by first | exact hnil3 hv' | (have := (hnil3.1 hv').2; omega)
      have HB4 := Lib.hid (HCC.out.grown hg3 HSC.out (fun j hj => (hrow4.lt j hj).1))
      clear hown' hg3 hnil3 hrow4 hrg4 HCC HCB HSC HR2 HRG2 HB2 hen
      go_wp2
      go_roundw
      case rel => exact ⟨_, cnt2, ss ++ [c], HR4, by have := HL.out; rw [List.length_append, List.length_singleton]; omega, HO4, HN4, HMY, HB4⟩
      case measure => rw [HR4.out.left_eq, HV.out]; exact HL.out
end Go.Proofs.YtgmdfkmmbcpikaaGreat.RosP
