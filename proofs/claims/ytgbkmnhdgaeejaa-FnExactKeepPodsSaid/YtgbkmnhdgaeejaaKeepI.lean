/- impl.KeepPods. (ShelfB: tools/shelf.py SEAT slices_Contains_string, laid under another name.) -/
import Derived.Test.YtgbkmnhdgaeejaaKeepS
import Derived.Test.YtgbkmnhdgaeejaaShelfB
namespace Go.Proofs.Ytgbkmnhdgaeejaa.KeepI
open Go.RowKit Go.Sort Go.BigFrame
open Go.Proofs.Ytgbkmnhdgaeejaa.C1
open Go.Proofs.Ytgbkmnhdgaeejaa.C2
open Go.Proofs.Ytgbkmnhdgaeejaa.Smps
open Go.Proofs.Ytgbkmnhdgaeejaa.Mem
open Go.Proofs.Ytgbkmnhdgaeejaa.Ser
open Go.Proofs.Ytgbkmnhdgaeejaa.Ser2
open Go.Proofs.Ytgbkmnhdgaeejaa.Sto
open Go.Proofs.Ytgbkmnhdgaeejaa.StoL
open Go.Proofs.Ytgbkmnhdgaeejaa.MarkS
open Go.Proofs.Ytgbkmnhdgaeejaa.From
open Go.Proofs.Ytgbkmnhdgaeejaa.CopyI
open Go.Proofs.Ytgbkmnhdgaeejaa.CopyS
open Go.Proofs.Ytgbkmnhdgaeejaa.FgtI
open Go.Proofs.Ytgbkmnhdgaeejaa.FgtL
open Go.Proofs.Ytgbkmnhdgaeejaa.KeepS
set_option linter.unusedVariables false

theorem contains_pod (qs : List ByteArray) (p : ByteArray) : Lib.containsS qs p = hasPod qs p := by
  rw [Bool.eq_iff_iff, Lib.containsS_iff]
  unfold hasPod
  rw [List.any_eq_true]
  constructor
  · intro h
    exact ⟨p, h, by simp⟩
  · rintro ⟨q, hq, e⟩
    rw [ByteArray.toList_eq, ByteArray.toList_eq] at e
    have e2 : q = p := by
      have := eq_of_beq e
      cases q with | mk d => cases p with | mk d' => simp only at this; congr 1; exact Array.toList_inj.1 this
    rw [← e2]; exact hq
theorem contains (qs : List ByteArray) (p : ByteArray) (a : Option Addr) (c : Nat) (w : World) (h : Txts w a qs) (hm : qs.length ≤ 1048576) :
    Calls Try.prog 77 #[.slice a qs.length c, .string p] w fun e w' => e = .returned (.bool (hasPod qs p)) ∧ w' = w := by
  rcases h with rfl | ⟨b, off, rfl, hb, hc⟩
  · exact Try.slices_Contains_string_empty a c p w
  · refine (Try.slices_Contains_string b off qs.length c qs p w (Nat.le_refl _) (by omega) (fun j hj => ?_)).mono ?_
    · rw [hc j hj]; simp [List.getD, hj]
    · rintro e w' ⟨rfl, rfl⟩
      rw [List.take_of_length_le (Nat.le_refl _), contains_pod]
      exact ⟨rfl, rfl⟩
set_option maxHeartbeats 4000000 in
set_option maxRecDepth 20000 in
theorem impl_keep (ls : List Sv) (gs cap B : Nat) (qs : List ByteArray) (aq : Option Addr) (capq : Nat) (w : World) (ho : OwnR w B (.slice (some ⟨gs, 0, none⟩) ls.length cap) ls) (hg : Ser2.Good w B gs ls) (hq : Txts w aq qs) (hm : ls.length ≤ 1048576) (hqm : qs.length ≤ 1048576) (hwf : ∀ l ∈ ls, l.s.wf) (hpl : ∀ l ∈ ls, l.s.pts.length ≤ 1048576) :
    Calls Try.prog 47 #[.slice (some ⟨gs, 0, none⟩) ls.length cap, .slice aq qs.length capq] w fun e w' => KeepP qs (ls.map Sv.s) w.heap.size w' e ∧ Below w.heap.size w w' := by
  have HO := Lib.hid ho
  have HG := Lib.hid hg
  have HQ := Lib.hid hq
  have HW := Lib.hid hwf
  have HPL := Lib.hid hpl
  have hgs := ho.lt.2
  clear ho hg hwf hpl hq
  go_enter Try.func47, Try.ntmps47
  cases hv : storeV (ls.map Sv.s)
  · have HV := Lib.hid hv
    clear hv
    have HK : Hid (keepB qs (ls.map Sv.s) = false) := by show _ = _; unfold keepB; rw [HV.out]; rfl
    go_wp2_with fail
    refine (impl_store2 ls ls rfl _ cap w HW.out HPL.out (srs_of HO.out HG.out) hm).mono ?_
    rw [HV.out]
    rintro e w1 ⟨rfl, hb1⟩
    have HO1 := Lib.hid (HO.out.kept hb1)
    have HG1 := Lib.hid (HG.out.kept hb1)
    have HB1 := Lib.hid hb1
    clear hb1
    go_wp2_with fail
    refine (impl_copy ls gs cap B w1 HO1.out HG1.out hm HPL.out).mono ?_
    rintro e w2 ⟨g, ms, rfl, hms, ho2, hg2, hb2⟩
    have HB2 := Lib.hid (HB1.out.trans (hb2.mono HB1.out.size))
    have HMS := Lib.hid hms
    have HH := Lib.hid ((Has.of ho2 hg2).mono HB1.out.size)
    clear hms ho2 hg2 hb2
    go_wp2
    go_ret2
    exact ⟨⟨_, ms, HH.out, by rw [HK.out]; rfl, by unfold keepA; rw [HK.out]; exact HMS.out⟩, HB2.out⟩
  · have HV := Lib.hid hv
    clear hv
    by_cases hbig : 300 < qs.length
    · have HK : Hid (keepB qs (ls.map Sv.s) = false) := by show _ = _; unfold keepB; rw [HV.out, Bool.true_and]; exact decide_eq_false (by omega)
      go_wp2_with fail
      refine (impl_store2 ls ls rfl _ cap w HW.out HPL.out (srs_of HO.out HG.out) hm).mono ?_
      rw [HV.out]
      rintro e w1 ⟨rfl, hb1⟩
      have HO1 := Lib.hid (HO.out.kept hb1)
      have HG1 := Lib.hid (HG.out.kept hb1)
      have HB1 := Lib.hid hb1
      clear hb1
      go_wp2_with fail
      refine (impl_copy ls gs cap B w1 HO1.out HG1.out hm HPL.out).mono ?_
      rintro e w2 ⟨g, ms, rfl, hms, ho2, hg2, hb2⟩
      have HB2 := Lib.hid (HB1.out.trans (hb2.mono HB1.out.size))
      have HMS := Lib.hid hms
      have HH := Lib.hid ((Has.of ho2 hg2).mono HB1.out.size)
      clear hms ho2 hg2 hb2
      go_wp2
      go_ret2
      exact ⟨⟨_, ms, HH.out, by rw [HK.out]; rfl, by unfold keepA; rw [HK.out]; exact HMS.out⟩, HB2.out⟩
    · have HK : Hid (keepB qs (ls.map Sv.s) = true) := by show _ = _; unfold keepB; rw [HV.out, Bool.true_and]; exact decide_eq_true (by omega)
      go_wp2_with fail
      refine (impl_store2 ls ls rfl _ cap w HW.out HPL.out (srs_of HO.out HG.out) hm).mono ?_
      rw [HV.out]
      rintro e w1 ⟨rfl, hb1⟩
      have HB1 := Lib.hid hb1
      clear hb1
      go_wp2
      go_loopw [6, 21] (fun v i wr => ∃ (k : Nat) (ms : List Sv), k ≤ ls.length ∧ i = .int .i64 k ∧ Hid (ms.map Sv.s = keepV qs ((ls.take k).map Sv.s)) ∧ ms.length ≤ k ∧ Hid (Has wr w.heap.size v ms) ∧ Hid (Below w.heap.size w wr)) (fun _ i _ => ls.length - (intOf i).toNat)
      case atStart => exact ⟨0, [], Nat.zero_le _, rfl, rfl, Nat.le_refl _, Has.nil _ _ (by have := HB1.out.size; omega), HB1.out⟩
      case round =>
        obtain ⟨k, ms, hk, rfl, HM, hml, HH, HB⟩ := hrel
        by_cases hlt : k < ls.length
        · obtain ⟨l, hl⟩ : ∃ l, ls[k] = l := ⟨_, rfl⟩
          have hq := (HO.out.kept HB.out).at3 k hlt
          have hown := (HG.out.kept HB.out).own _ (List.getElem_mem hlt)
          have hpp := HPL.out _ (List.getElem_mem hlt)
          have HT : Hid (ls.take (k + 1) = ls.take k ++ [l]) := by show _ = _; rw [List.take_succ_eq_append_getElem hlt, hl]
          rw [hl] at hq hown hpp
          obtain ⟨q0, q1, q2⟩ := hq
          have HOWN := Lib.hid hown
          have HPP := Lib.hid hpp
          clear hown hl hpp
          have HBV := Lib.hid (box_below wr #[.string l.s.pod, .string l.s.met, .slice l.a l.s.pts.length l.cap] 79)
          have HCV := Lib.hid (cells_new wr #[.string l.s.pod, .string l.s.met, .slice l.a l.s.pts.length l.cap] 79)
          have HQT := Lib.hid (HQ.out.kept (HB.out.trans (HBV.out.mono HB.out.size)))
          go_wp2_with fail
          obtain ⟨w2, hW⟩ : ∃ W, wr.alloc (.cells #[.string l.s.pod, .string l.s.met, .slice l.a l.s.pts.length l.cap] 79) = W := ⟨_, rfl⟩
          rw [hW] at HBV HCV HQT ⊢
          have hWs : Hid (w2.heap.size = wr.heap.size + 1) := by rw [← hW]; exact Lib.hid (by simp)
          clear hW q0 q1 q2
          have HBW := HBV
          have HB2 := Lib.hid (Below.refl w2.heap.size w2)
          refine (contains qs l.s.pod aq capq w2 HQT.out hqm).mono ?_
          have hC2 := HCV.out
          have c0 := (hC2.2 0 (by simp)).1
          have c1 := (hC2.2 1 (by simp)).1
          have c2 := (hC2.2 2 (by simp)).1
          simp only [List.getElem_cons_zero, List.getElem_cons_succ] at c0 c1 c2
          have HC2 := Lib.hid hC2
          clear hC2
          cases hb0 : hasPod qs l.s.pod
          · rintro e w2' ⟨rfl, hw2⟩
            have HN := Lib.hid hb0
            clear hb0
            subst hw2
            have HM2 : Hid (ms.map Sv.s = keepV qs ((ls.take (k + 1)).map Sv.s)) := by
              show _ = _
              rw [HT.out, List.map_append, List.map_cons, List.map_nil, keep_snoc_no _ _ _ HN.out]
              exact HM.out
            have HH2 := Lib.hid (HH.out.kept HBW.out)
            have HB3 := Lib.hid (HB.out.trans (HBW.out.mono HB.out.size))
            clear HM HH
            go_wp2
            go_roundw
            case rel => exact ⟨k + 1, ms, by omega, by go_num, HM2.out, by omega, HH2.out, HB3.out⟩
            case measure => simp [intOf]; omega
          · rintro e w2' ⟨rfl, hw2⟩
            have HN := Lib.hid hb0
            clear hb0
            subst hw2
            go_wp2_with fail
            clear c0 c1 c2
            refine (points_from l.s.pts 0 (by rcases Nat.eq_zero_or_pos l.s.pts.length with h | h; exact .inr ⟨rfl, List.length_eq_zero_iff.1 h⟩; exact .inl h) HPP.out l.a l.cap B w2' (HOWN.out.kept HBV.out)).mono ?_
            rintro e w3 ⟨g, rfl, ho3, hb3⟩
            obtain ⟨ps, hps⟩ : ∃ ps, l.s.pts = ps := ⟨_, rfl⟩
            rw [Nat.sub_zero, List.drop_zero, hps] at ho3
            rw [Nat.sub_zero, hps]
            have hC3 := HC2.out.kept hb3
            have hC4 := hC3.set 2 (.slice (some ⟨g, 0, none⟩) ps.length ps.length) (by simp)
            have hgl := ho3.lt
            have hb4 := (HBW.out.trans (hb3.mono HBW.out.size)).setCell (p := ⟨wr.heap.size, 2, none⟩) (Nat.le_refl _) (.slice (some ⟨g, 0, none⟩) ps.length ps.length)
            have hW2 : wr.heap.size + 1 ≤ w2'.heap.size := by have := hWs.out; have := HB2.out.size; omega
            have hp4 := (ho3.mono (show wr.heap.size ≤ w2'.heap.size by omega)).set (c := wr.heap.size) (j := 2) (.slice (some ⟨g, 0, none⟩) ps.length ps.length) (off_lt (by omega))
            have d2 := (hC3.2 2 (by simp)).1
            have fr := (hC3.2 2 (by simp)).2
            have c0 := (hC4.2 0 (by simp)).1
            have c1 := (hC4.2 1 (by simp)).1
            have c2 := (hC4.2 2 (by simp)).1
            simp only [List.getElem_cons_zero, List.getElem_cons_succ, List.set_cons_zero, List.set_cons_succ] at c0 c1 c2 d2
            have HM2 : Hid ((ms ++ [(⟨⟨l.s.pod, l.s.met, ps⟩, some ⟨g, 0, none⟩, ps.length⟩ : Sv)]).map Sv.s = keepV qs ((ls.take (k + 1)).map Sv.s)) := by
              show _ = _
              rw [HT.out, List.map_append, List.map_append, List.map_cons, List.map_nil, List.map_cons, List.map_nil, keep_snoc_yes _ _ _ HN.out, HM.out, ← hps]
            have HB4 := Lib.hid hb4
            have HP4 := Lib.hid hp4
            have hal := box_below (w3.setCell ⟨wr.heap.size, 2, none⟩ (.slice (some ⟨g, 0, none⟩) ps.length ps.length)) #[.string l.s.pod, .string l.s.met, .slice (some ⟨g, 0, none⟩) ps.length ps.length] 79
            have HOA := Lib.hid ((HH.out.1.kept hb4).kept hal)
            have HCN := Lib.hid (three_cells (w3.setCell ⟨wr.heap.size, 2, none⟩ (.slice (some ⟨g, 0, none⟩) ps.length ps.length)) ⟨⟨l.s.pod, l.s.met, ps⟩, some ⟨g, 0, none⟩, ps.length⟩ 79)
            have HBA := Lib.hid ((HB.out.trans (hb4.mono HB.out.size)).alloc (HB.out.trans (hb4.mono HB.out.size)).size (.cells #[.string l.s.pod, .string l.s.met, .slice (some ⟨g, 0, none⟩) ps.length ps.length] 79))
            have HSA := Lib.hid HBA.out.size
            have HWB := Lib.hid HB.out.size
            obtain ⟨i0, hi0, hz0, hz1, hz2⟩ := info_sr2
            have hml3 : ms.length ≤ 1048576 := by omega
            clear hC3 hC4 hgl hb4 hW2 hp4 hal hps ho3 hb3 HM
            go_wp2_with (at_builtin; refine wpList_append_lies _ (by rfl) _ _ 25 (by rfl) w.heap.size 79 i0 (svV zeroV) 3 56 Try.underlying25 hi0 hz0 hz1 hz2 rfl (by decide) _ ms.length (gf encV ms) (by rfl) HOA.out ⟨w3.heap.size, 0, none⟩ 1 1 [.string l.s.pod, .string l.s.met, .slice (some ⟨g, 0, none⟩) ps.length ps.length] (by rfl) rfl ?e1 ?e2 (by omega) ?e3 ?e4 ?e5 _ rfl ?_)
            case e1 =>
              have h := HCN.out
              rw [size_set] at h
              exact h
            case e2 => exact three_one ⟨⟨l.s.pod, l.s.met, ps⟩, some ⟨g, 0, none⟩, ps.length⟩
            case e3 => unfold maxLen; omega
            case e4 => omega
            case e5 => exact HSA.out
            intro g8 c8 w8 hown hgrow hat hlt8
            have HH8 := Lib.hid (HH.out.more (l := ⟨⟨l.s.pod, l.s.met, ps⟩, some ⟨g, 0, none⟩, ps.length⟩) HB4.out HWB.out HP4.out hown hgrow (hat.imp id fun e => by rw [e]; simp))
            have HB8 := Lib.hid (HBA.out.grown hgrow HSA.out (fun g hg => (World.ownsRow.lt HH.out.1 g hg).1))
            have hl8 : (ms ++ [(⟨⟨l.s.pod, l.s.met, ps⟩, some ⟨g, 0, none⟩, ps.length⟩ : Sv)]).length ≤ k + 1 := by rw [List.length_append, List.length_singleton]; omega
            have HL8 := Lib.hid hl8
            clear hown hgrow hat hlt8 hl8 HOA HCN HBA HSA HWB HP4 HB4 HH c0 c1 c2 d2 fr
            go_wp2
            go_roundw
            case rel => exact ⟨k + 1, _, by omega, by go_num, HM2.out, HL8.out, HH8.out, HB8.out⟩
            case measure => simp [intOf]; omega
        · obtain rfl : k = ls.length := by omega
          have HF : Hid (ms.map Sv.s = keepV qs (ls.map Sv.s)) := by
            have := HM.out
            rw [List.take_of_length_le (Nat.le_refl _)] at this
            exact this
          have HHF := HH
          have HBF := HB
          clear HM HH HB
          go_wp2
          go_ret2
          exact ⟨⟨_, ms, HHF.out, by rw [HK.out]; rfl, by unfold keepA; rw [HK.out]; exact HF.out⟩, HBF.out⟩
end Go.Proofs.Ytgbkmnhdgaeejaa.KeepI
