/- spec.ForgetBefore. -/
import Derived.Test.YtgbkmnhdgaeejaaFgtI
namespace Go.Proofs.Ytgbkmnhdgaeejaa.FgtS
open Go.RowKit Go.Sort Go.BigFrame
open Go.Proofs.Ytgbkmnhdgaeejaa.C1
open Go.Proofs.Ytgbkmnhdgaeejaa.C2
open Go.Proofs.Ytgbkmnhdgaeejaa.Smps
open Go.Proofs.Ytgbkmnhdgaeejaa.Mem
open Go.Proofs.Ytgbkmnhdgaeejaa.Ser
open Go.Proofs.Ytgbkmnhdgaeejaa.Ser2
open Go.Proofs.Ytgbkmnhdgaeejaa.Sto
open Go.Proofs.Ytgbkmnhdgaeejaa.Sof
open Go.Proofs.Ytgbkmnhdgaeejaa.StoL
open Go.Proofs.Ytgbkmnhdgaeejaa.MarkS
open Go.Proofs.Ytgbkmnhdgaeejaa.CopyS
open Go.Proofs.Ytgbkmnhdgaeejaa.Fgt
open Go.Proofs.Ytgbkmnhdgaeejaa.FgtI
set_option linter.unusedVariables false

theorem since_snoc_yes (t : Int) (ps : List Pt) (p : Pt) (h : t ≤ p.tick) : since t (ps ++ [p]) = since t ps ++ [p] := by
  unfold since
  rw [List.filter_append]
  simp [h]
theorem since_snoc_no (t : Int) (ps : List Pt) (p : Pt) (h : ¬ t ≤ p.tick) : since t (ps ++ [p]) = since t ps := by
  unfold since
  rw [List.filter_append]
  simp [h]
theorem since_le (t : Int) (ps : List Pt) : (since t ps).length ≤ ps.length := List.length_filter_le _ _
set_option maxHeartbeats 4000000 in
set_option maxRecDepth 20000 in
theorem spec_forget (ls : List Sv) (a : Option Addr) (cap : Nat) (t : Int) (w : World) (h : Srs w a ls) (hm : ls.length ≤ 1048576) (hwf : ∀ l ∈ ls, l.s.wf) (hpl : ∀ l ∈ ls, l.s.pts.length ≤ 1048576) :
    Calls Try.prog 42 #[.slice a ls.length cap, .int .i64 t] w fun e w' => FgtP t (ls.map Sv.s) w.heap.size w' e ∧ Below w.heap.size w w' := by
  have HSR := Lib.hid h
  have HW := Lib.hid hwf
  have HPL := Lib.hid hpl
  obtain ⟨b, off, ha, hb, hcell⟩ := h.cells
  have Hc := Lib.hid hcell
  have Ha := Lib.hid ha
  have Hb := Lib.hid hb
  clear h hwf hpl hcell ha hb
  go_enter Try.func42, Try.ntmps42
  cases hv : storeV (ls.map Sv.s)
  · have HV := Lib.hid hv
    clear hv
    go_wp2_with fail
    refine (spec_store2 ls ls rfl _ cap w HW.out HSR.out hm).mono ?_
    rw [HV.out]
    rintro e w1 ⟨rfl, hb1⟩
    have HB1 := Lib.hid hb1
    clear hb1
    go_wp2_with fail
    refine (spec_copy ls a cap w1 (HSR.out.kept HB1.out) hm HPL.out).mono ?_
    rintro e w2 ⟨g, cap', ms, rfl, hms, ho2, hg2, hb2⟩
    have HB2 := Lib.hid (HB1.out.trans (hb2.mono HB1.out.size))
    have HMS := Lib.hid hms
    have HH := Lib.hid ((Has.of ho2 hg2).mono HB1.out.size)
    clear hms ho2 hg2 hb2
    go_wp2
    go_ret2
    exact ⟨⟨_, ms, HH.out, by rw [HV.out]; rfl, by rw [HV.out]; exact HMS.out⟩, HB2.out⟩
  · have HV := Lib.hid hv
    clear hv
    go_wp2_with fail
    refine (spec_store2 ls ls rfl _ cap w HW.out HSR.out hm).mono ?_
    rw [HV.out]
    rintro e w1 ⟨rfl, hb1⟩
    have HB1 := Lib.hid hb1
    have HS1 := Lib.hid (((Has.of (new_rowR w1) (Good.nil _ _ _)).mono hb1.size))
    have HBA := Lib.hid (hb1.alloc hb1.size (.cells #[] 79))
    clear hb1
    go_wp2
    go_loopw [6, 7] (fun v i wr => ∃ (k : Nat) (ms : List Sv), k ≤ ls.length ∧ i = .int .i64 k ∧ Hid (ms.map Sv.s = forgetV t ((ls.take k).map Sv.s)) ∧ ms.length ≤ k ∧ Hid (Has wr w.heap.size v ms) ∧ Hid (Below w.heap.size w wr)) (fun _ i _ => ls.length - (intOf i).toNat)
    case atStart => exact ⟨0, [], Nat.zero_le _, rfl, rfl, Nat.le_refl _, HS1.out, HBA.out⟩
    case round =>
      obtain ⟨k, ms, hk, rfl, HM, hml, HH, HB⟩ := hrel
      obtain ⟨wz, hz⟩ : ∃ wz : World, wz = wr := ⟨_, rfl⟩
      subst hz
      by_cases hlt : k < ls.length
      · obtain rfl := Ha.out (by omega)
        obtain ⟨l, hl⟩ : ∃ l, ls[k] = l := ⟨_, rfl⟩
        have HKW : Hid (∀ W, Below w.heap.size w W → W.cell? ⟨b, off + k * 3, none⟩ = some (.string l.s.pod) ∧ W.cell? ⟨b, off + k * 3 + 1, none⟩ = some (.string l.s.met) ∧ W.cell? ⟨b, off + k * 3 + 2, none⟩ = some (.slice l.a l.s.pts.length l.cap)) := fun W hW => by
          have h := (Hc.out k hlt).1.kept hW (Hb.out (by omega))
          rw [hl] at h
          exact h
        have HKS : Hid (∀ W, Below wz.heap.size wz W → W.cell? ⟨b, off + k * 3, none⟩ = some (.string l.s.pod) ∧ W.cell? ⟨b, off + k * 3 + 1, none⟩ = some (.string l.s.met) ∧ W.cell? ⟨b, off + k * 3 + 2, none⟩ = some (.slice l.a l.s.pts.length l.cap)) := fun W hW => HKW.out W (HB.out.trans (hW.mono HB.out.size))
        have hP : ∀ W, Below wz.heap.size wz W → Pts W l.a l.s.pts := fun W hW => by
          have h := (Hc.out k hlt).2.kept (HB.out.trans (hW.mono HB.out.size))
          rw [hl] at h
          exact h
        have HPP : Hid (l.s.pts.length ≤ 1048576) := by
          have h := HPL.out _ (List.getElem_mem hlt)
          rw [hl] at h
          exact h
        have HT : Hid (ls.take (k + 1) = ls.take k ++ [l]) := by show _ = _; rw [List.take_succ_eq_append_getElem hlt, hl]
        obtain ⟨pb, po, pa, pbw, pcell⟩ := (hP wz (Below.refl _ _)).cells
        have HPA := Lib.hid pa
        have HPC := Lib.hid (fun (j : Nat) (hj : j < l.s.pts.length) (W : World) (hW : Below wz.heap.size wz W) => (pcell j hj).kept hW (pbw (by omega)))
        clear hP pa pbw pcell hl
        have HNP := Lib.hid (new_rowP wz)
        have HNB := Lib.hid (box_below wz #[] 57)
        go_wp2
        go_loopw [8, 9] (fun v i wr => ∃ (j : Nat), j ≤ l.s.pts.length ∧ i = .int .i64 j ∧ Hid (OwnP wr wz.heap.size v (since t (l.s.pts.take j))) ∧ Hid (Below wz.heap.size wz wr)) (fun _ i _ => l.s.pts.length - (intOf i).toNat)
        case atStart => exact ⟨0, Nat.zero_le _, rfl, HNP.out, HNB.out⟩
        case round =>
          obtain ⟨j, hj, rfl, HOP, HBI⟩ := hrel
          obtain ⟨q0, q1, q2⟩ := HKS.out wr HBI.out
          by_cases hjt : j < l.s.pts.length
          · obtain hla := HPA.out (by omega)
            obtain ⟨p, hp⟩ : ∃ p, l.s.pts[j] = p := ⟨_, rfl⟩
            have hpq := HPC.out j hjt wr HBI.out
            rw [hp] at hpq
            obtain ⟨r0, r1⟩ := hpq
            rw [hla] at q2
            have HTJ : Hid (l.s.pts.take (j + 1) = l.s.pts.take j ++ [p]) := by show _ = _; rw [List.take_succ_eq_append_getElem hjt, hp]
            have HPB := HPP.out
            have hsl : (since t (l.s.pts.take j)).length ≤ 1048576 := Nat.le_trans (since_le _ _) (by simp; omega)
            obtain ⟨i0, hi0, hz0, hz1, hz2⟩ := info_pt2
            have hwr := HBI.out.size
            clear hp hla
            by_cases htt : t ≤ p.tick
            · have hdt : decide (t ≤ p.tick) = true := decide_eq_true htt
              have HS : Hid (since t (l.s.pts.take (j + 1)) = since t (l.s.pts.take j) ++ [p]) := by show _ = _; rw [HTJ.out, since_snoc_yes _ _ _ htt]
              obtain ⟨xs, hxs⟩ : ∃ xs, since t (l.s.pts.take j) = xs := ⟨_, rfl⟩
              rw [hxs] at HOP hsl HS
              clear hxs
              go_wp2_with (at_builtin; refine wpList_append_own _ rfl _ _ 50 rfl wz.heap.size 57 i0 (ptV zeroP) 2 16 Try.underlying50 hi0 hz0 hz1 hz2 rfl (by decide) _ _ _ rfl (World.ownsRow.alloc HOP.out _) ⟨wr.heap.size, 0, none⟩ 1 1 [.int .i64 p.tick, .int .i64 p.val] rfl rfl ?e1 ?e2 ?e3 ?e4 ?e5 ?_)
              case e1 => exact two_cells wr p _
              case e2 => exact two_one p
              case e3 => unfold maxLen; omega
              case e4 => omega
              case e5 => first | omega | (simp; omega)
              intro v' w8 hown' hgrow _
              have HO8 : Hid (OwnP w8 wz.heap.size v' (since t (l.s.pts.take (j + 1)))) := by rw [HS.out]; exact OwnP_snoc hown'
              have hrow : ∀ g, Value.ownBlock _ = some g → wz.heap.size ≤ g := fun g hg => (World.ownsRow.lt HOP.out g hg).1
              have HB8 := Lib.hid ((HBI.out.alloc HBI.out.size _).grown hgrow (by have := HBI.out.size; simp; omega) hrow)
              clear hown' hgrow hrow hdt htt q0 q1 q2 r0 r1 HBI HOP
              go_wp2
              go_roundw
              case rel => exact ⟨j + 1, by omega, by go_num, HO8, HB8⟩
              case measure => simp [intOf]; omega
            · have hdt : decide (t ≤ p.tick) = false := decide_eq_false htt
              have HS : Hid (since t (l.s.pts.take (j + 1)) = since t (l.s.pts.take j)) := by show _ = _; rw [HTJ.out, since_snoc_no _ _ _ htt]
              have HO8 := HOP
              rw [← HS.out] at HO8
              clear HOP
              go_wp2
              go_roundw
              case rel => exact ⟨j + 1, by omega, by go_num, HO8, HBI⟩
              case measure => simp [intOf]; omega
          · obtain rfl : j = l.s.pts.length := by omega
            have hof := HOP.out
            rw [List.take_of_length_le (Nat.le_refl _)] at hof
            obtain ⟨a', c', rfl⟩ := OwnP_form hof
            obtain ⟨xs, hxs⟩ : ∃ xs, since t l.s.pts = xs := ⟨_, rfl⟩
            have hxl : xs.length ≤ 1048576 := by rw [← hxs]; exact Nat.le_trans (since_le _ _) HPP.out
            rw [hxs] at hof ⊢
            rcases Nat.eq_zero_or_pos xs.length with hx0 | hx0
            · obtain rfl := List.length_eq_zero_iff.1 hx0
              have HM2 : Hid (ms.map Sv.s = forgetV t ((ls.take (k + 1)).map Sv.s)) := by
                show _ = _
                rw [HT.out, List.map_append, List.map_cons, List.map_nil, forget_snoc_no t _ _ hxs]
                exact HM.out
              have HH2 := Lib.hid (HH.out.kept HBI.out)
              have HB3 := Lib.hid (HB.out.trans (HBI.out.mono HB.out.size))
              clear hof hxs HM HH HOP HB hx0
              go_wp2
              go_roundw
              case rel => exact ⟨k + 1, ms, by omega, by go_num, HM2.out, by omega, HH2.out, HB3.out⟩
              case measure => simp [intOf]; omega
            · have hne : xs ≠ [] := by intro e; rw [e] at hx0; exact absurd hx0 (by simp)
              have HM2 : Hid ((ms ++ [(⟨⟨l.s.pod, l.s.met, xs⟩, a', c'⟩ : Sv)]).map Sv.s = forgetV t ((ls.take (k + 1)).map Sv.s)) := by
                show _ = _
                rw [HT.out, List.map_append, List.map_append, List.map_cons, List.map_nil, List.map_cons, List.map_nil, forget_snoc_yes t _ _ (by rw [hxs]; exact hne), HM.out]
                unfold cutS
                rw [hxs]
              have HOF := Lib.hid hof
              obtain ⟨i0, hi0, hz0, hz1, hz2⟩ := info_sr2
              have hml3 : ms.length ≤ 1048576 := by omega
              have HBD := Lib.hid (HBI.out.drew)
              have HBE := Lib.hid (HB.out.trans (HBD.out.mono HB.out.size))
              have HBA := Lib.hid (HBD.out.alloc HBD.out.size (.cells #[.string l.s.pod, .string l.s.met, .slice a' xs.length c'] 79))
              have HBF := Lib.hid (HBE.out.alloc HBE.out.size (.cells #[.string l.s.pod, .string l.s.met, .slice a' xs.length c'] 79))
              have HSA := Lib.hid HBF.out.size
              have HWB := Lib.hid HB.out.size
              have hal := box_below wr.drew #[.string l.s.pod, .string l.s.met, .slice a' xs.length c'] 79
              have HOA := Lib.hid ((HH.out.1.kept HBD.out).kept hal)
              have HCN := Lib.hid (three_cells wr.drew ⟨⟨l.s.pod, l.s.met, xs⟩, a', c'⟩ 79)
              have HOD : Hid (OwnP wr.drew wz.heap.size (.slice a' xs.length c') xs) := hof
              clear hof hxs hne hal HOP HM
              go_wp2_with fail
              go_region_held_law (fun w' => w'.cell? ⟨b, off + k * 3, none⟩ = some (.string l.s.pod) ∧ w'.cell? ⟨b, off + k * 3 + 1, none⟩ = some (.string l.s.met))
                (first | exact ⟨(HKW.out _ HBG.out).1, (HKW.out _ HBG.out).2.1⟩ | exact ⟨(HKW.out _ HBF.out).1, (HKW.out _ HBF.out).2.1⟩ | exact ⟨(HKW.out _ HBE.out).1, (HKW.out _ HBE.out).2.1⟩)
                (first
                  | (refine step_append_lies _ (by rfl) _ _ 25 (by rfl) w.heap.size 79 i0 (svV zeroV) 3 56 Try.underlying25 hi0 hz0 hz1 hz2 (by rfl) (by decide) _ ms.length (gf encV ms) (by rfl) HOA.out ⟨wr.heap.size, 0, none⟩ 1 1 [.string l.s.pod, .string l.s.met, .slice a' xs.length c'] (by rfl) rfl HCN.out (three_one ⟨⟨l.s.pod, l.s.met, xs⟩, a', c'⟩) (by omega) (by unfold maxLen; omega) (by omega) HSA.out _ rfl ?_
                     intro g8 c8 w8 hown hgrow hat hlt8
                     have HH8 := Lib.hid (HH.out.more (l := ⟨⟨l.s.pod, l.s.met, xs⟩, a', c'⟩) HBD.out HWB.out HOD.out hown hgrow hat)
                     have HBG := Lib.hid (HBF.out.grown hgrow HSA.out (fun g hg => (World.ownsRow.lt HH.out.1 g hg).1))
                     clear hown hgrow hat hlt8))
              have hl8 : (ms ++ [(⟨⟨l.s.pod, l.s.met, xs⟩, a', c'⟩ : Sv)]).length ≤ k + 1 := by rw [List.length_append, List.length_singleton]; omega
              have HL8 := Lib.hid hl8
              clear hl8 HOA HCN HBA HBF HSA HWB HOD HBD HBE HH HOF HB HBI
              go_wp2
              go_roundw
              case rel => exact ⟨k + 1, _, by omega, by go_num, HM2.out, HL8.out, HH8.out, HBG.out⟩
              case measure => simp [intOf]; omega
      · obtain rfl : k = ls.length := by omega
        have HF : Hid (ms.map Sv.s = forgetV t (ls.map Sv.s)) := by
          have := HM.out
          rw [List.take_of_length_le (Nat.le_refl _)] at this
          exact this
        clear HM
        go_wp2
        go_ret2
        exact ⟨⟨_, ms, HH.out, by rw [HV.out]; rfl, by rw [HV.out]; exact HF.out⟩, HB.out⟩
end Go.Proofs.Ytgbkmnhdgaeejaa.FgtS
