/- impl.ForgetBefore. -/
import Derived.Test.YtgbkmnhdgaeejaaFgt
namespace Go.Proofs.Ytgbkmnhdgaeejaa.FgtI
open Go.RowKit Go.Sort Go.BigFrame
open Go.Proofs.Ytgbkmnhdgaeejaa.C1
open Go.Proofs.Ytgbkmnhdgaeejaa.C2
open Go.Proofs.Ytgbkmnhdgaeejaa.Smps
open Go.Proofs.Ytgbkmnhdgaeejaa.Mem
open Go.Proofs.Ytgbkmnhdgaeejaa.Ser
open Go.Proofs.Ytgbkmnhdgaeejaa.Ser2
open Go.Proofs.Ytgbkmnhdgaeejaa.Sto
open Go.Proofs.Ytgbkmnhdgaeejaa.StoL
open Go.Proofs.Ytgbkmnhdgaeejaa.MarkS
open Go.Proofs.Ytgbkmnhdgaeejaa.From
open Go.Proofs.Ytgbkmnhdgaeejaa.CopyI
open Go.Proofs.Ytgbkmnhdgaeejaa.CopyS
open Go.Proofs.Ytgbkmnhdgaeejaa.Fgt
set_option linter.unusedVariables false

/-- A list of series of one's own, perhaps nil. -/
def Has (w : World) (B : Nat) (v : Value) (ms : List Sv) : Prop := OwnR w B v ms ∧ ∃ g, Ser2.Good w B g ms ∧ g < w.heap.size ∧ (v.ownBlock = some g ∨ v.ownBlock = none)
theorem Has.kept {w w' : World} {B : Nat} {v : Value} {ms : List Sv} (h : Has w B v ms) (hb : Below w.heap.size w w') : Has w' B v ms := by
  obtain ⟨h1, g, h2, h3, h4⟩ := h
  exact ⟨h1.kept hb, g, h2.kept hb, Nat.lt_of_lt_of_le h3 hb.size, h4⟩
theorem OwnR_mono {w : World} {B B' : Nat} {v : Value} {ms : List Sv} (h : OwnR w B v ms) (hB : B' ≤ B) : OwnR w B' v ms := by
  obtain ⟨h1, h2⟩ := h
  refine ⟨h1, ?_⟩
  rcases h2 with h2 | ⟨g, cap, cur, hv, hg, r⟩
  · exact .inl h2
  · exact .inr ⟨g, cap, cur, hv, by omega, r⟩
theorem Has.mono {w : World} {B B' : Nat} {v : Value} {ms : List Sv} (h : Has w B v ms) (hB : B' ≤ B) : Has w B' v ms := by
  obtain ⟨h1, g, h2, h3, h4⟩ := h
  exact ⟨OwnR_mono h1 hB, g, ⟨fun l hl => (h2.own l hl).mono hB, h2.off, h2.apart⟩, h3, h4⟩
theorem Has.nil (w : World) (B : Nat) (h : 0 < w.heap.size) : Has w B (.slice none 0 0) [] := ⟨⟨rfl, .inl ⟨rfl, rfl⟩⟩, 0, Good.nil _ _ _, h, .inr rfl⟩
theorem Has.of {w : World} {B g n cap : Nat} {ms : List Sv} (h : OwnR w B (.slice (some ⟨g, 0, none⟩) n cap) ms) (hg : Ser2.Good w B g ms) : Has w B (.slice (some ⟨g, 0, none⟩) n cap) ms := ⟨h, g, hg, h.lt.2, .inl rfl⟩
/-- One more series appended, whose points are new. -/
theorem Has.more {w w1 w8 : World} {B g8 c8 : Nat} {v : Value} {ms : List Sv} {l : Sv} {o : Obj} (h : Has w B v ms) (hb : Below w.heap.size w w1) (hB : B ≤ w.heap.size) (hl : OwnP w1 w.heap.size (.slice l.a l.s.pts.length l.cap) l.s.pts)
    (hown : w8.ownsRow B 79 3 (.slice (some ⟨g8, 0, none⟩) (ms.length + 1) c8) (ms.length + 1) (gf encV ms ++ [.string l.s.pod, .string l.s.met, .slice l.a l.s.pts.length l.cap]))
    (hgrow : (w1.alloc o).grownBy w8 v.ownBlock) (hat : v.ownBlock = some g8 ∨ g8 = (w1.alloc o).heap.size) : Has w8 B (.slice (some ⟨g8, 0, none⟩) (ms.length + 1) c8) (ms ++ [l]) := by
  obtain ⟨h1, g, h2, h3, h4⟩ := h
  have hG := h2.more hb hB h3 l hl
  have hal : Below w1.heap.size w1 (w1.alloc o) := (Below.refl _ _).alloc (Nat.le_refl _) _
  have hG2 := hG.kept hal
  have hgr : (w1.alloc o).grownBy w8 (some g) := by
    rcases h4 with h4 | h4
    · rw [← h4]; exact hgrow
    · rw [h4] at hgrow
      exact ⟨hgrow.os, hgrow.tape, hgrow.output, hgrow.size, fun k hk _ => hgrow.block k hk (by simp)⟩
  refine .of (OwnR_snoc hown) (Good_grown hG2 hgr ?_)
  rcases hat with hat | hat
  · rcases h4 with h4 | h4
    · rw [h4] at hat; exact .inl hat
    · rw [h4] at hat; exact absurd hat (by simp)
  · exact .inr hat
theorem size_set (w : World) (p : Addr) (v : Value) : (w.setCell p v).heap.size = w.heap.size := by simp [World.setCell]
/-- What ForgetBefore answers. -/
def FgtP (t : Int) (ss : List Ser) (B : Nat) (w' : World) (e : Ending) : Prop :=
  ∃ v ms, Has w' B v ms ∧ e = .returned (.tuple #[v, .bool (storeV ss)]) ∧ ms.map Sv.s = (if storeV ss then forgetV t ss else ss)
set_option maxHeartbeats 4000000 in
set_option maxRecDepth 20000 in
theorem impl_forget (ls : List Sv) (gs cap B : Nat) (t : Int) (w : World) (ho : OwnR w B (.slice (some ⟨gs, 0, none⟩) ls.length cap) ls) (hg : Ser2.Good w B gs ls) (hm : ls.length ≤ 1048576) (hwf : ∀ l ∈ ls, l.s.wf) (hpl : ∀ l ∈ ls, l.s.pts.length ≤ 1048576) :
    Calls Try.prog 43 #[.slice (some ⟨gs, 0, none⟩) ls.length cap, .int .i64 t] w fun e w' => FgtP t (ls.map Sv.s) w.heap.size w' e ∧ Below w.heap.size w w' := by
  have hB0 := box_below w #[.int .i64 t] 3
  have hC0 := (cells_new w #[.int .i64 t] 3).2 0 (by simp)
  have hS0 : (w.alloc (.cells #[.int .i64 t] 3)).heap.size = w.heap.size + 1 := by simp
  have hc0 := hC0.1
  simp only [List.getElem_cons_zero] at hc0
  have HC0 := Lib.hid hc0
  have HB0 := Lib.hid hB0
  have HS0 := Lib.hid hS0
  have HO := Lib.hid (ho.kept hB0)
  have HG := Lib.hid (hg.kept hB0)
  have HO0 := Lib.hid ho
  have HG0 := Lib.hid hg
  have HW := Lib.hid hwf
  have HPL := Lib.hid hpl
  have hgs := ho.lt.2
  clear hC0 hc0 hB0 hS0 ho hg hwf hpl
  go_enter Try.func43, Try.ntmps43
  obtain ⟨w0, hw0⟩ : ∃ w0, w.alloc (.cells #[.int .i64 t] 3) = w0 := ⟨_, rfl⟩
  cases hv : storeV (ls.map Sv.s)
  · have HV := Lib.hid hv
    clear hv
    go_wp2_with fail
    rw [hw0] at HB0 HC0 HO HG HS0
    clear hw0
    refine (impl_store2 ls ls rfl _ cap w0 HW.out HPL.out (srs_of HO.out HG.out) hm).mono ?_
    rw [HV.out]
    rintro e w1 ⟨rfl, hb1⟩
    have HO1 := Lib.hid (HO.out.kept hb1)
    have HG1 := Lib.hid (HG.out.kept hb1)
    have HB1 := Lib.hid (HB0.out.trans (hb1.mono HB0.out.size))
    clear hb1 HO HG HB0
    go_wp2_with fail
    refine (impl_copy ls gs cap B w1 HO1.out HG1.out hm HPL.out).mono ?_
    rintro e w2 ⟨g, ms, rfl, hms, ho2, hg2, hb2⟩
    have HB2 := Lib.hid (HB1.out.trans (hb2.mono HB1.out.size))
    have HMS := Lib.hid hms
    have HH := Lib.hid ((Has.of ho2 hg2).mono HB1.out.size)
    clear hms ho2 hg2 hb2
    go_wp2
    go_ret2
    exact ⟨⟨_, ms, HH.out, by rw [HV.out]; rfl, by rw [HV.out]; exact HMS.out⟩, HB2.out⟩
  · have HV := Lib.hid hv
    clear hv
    go_wp2_with fail
    rw [hw0] at HB0 HC0 HO HG HS0
    clear hw0
    refine (impl_store2 ls ls rfl _ cap w0 HW.out HPL.out (srs_of HO.out HG.out) hm).mono ?_
    rw [HV.out]
    rintro e w1 ⟨rfl, hb1⟩
    have HO1 := Lib.hid (HO.out.kept hb1)
    have HG1 := Lib.hid (HG.out.kept hb1)
    have HB1 := Lib.hid hb1
    clear hb1
    go_wp2
    go_loopw [6, 17] (fun v i wr => ∃ (k : Nat) (ms : List Sv), k ≤ ls.length ∧ i = .int .i64 k ∧ Hid (ms.map Sv.s = forgetV t ((ls.take k).map Sv.s)) ∧ ms.length ≤ k ∧ Hid (Has wr w0.heap.size v ms) ∧ Hid (Below w0.heap.size w0 wr)) (fun _ i _ => ls.length - (intOf i).toNat)
    case atStart => exact ⟨0, [], Nat.zero_le _, rfl, rfl, Nat.le_refl _, Has.nil _ _ (by have := HB1.out.size; have := HS0.out; omega), HB1.out⟩
    case round =>
      obtain ⟨k, ms, hk, rfl, HM, hml, HH, HB⟩ := hrel
      by_cases hlt : k < ls.length
      · obtain ⟨l, hl⟩ : ∃ l, ls[k] = l := ⟨_, rfl⟩
        have hq := (HO.out.kept HB.out).at3 k hlt
        have hown := (HG.out.kept HB.out).own _ (List.getElem_mem hlt)
        have hpp := HPL.out _ (List.getElem_mem hlt)
        have hok := ((storeV_iff _).1 HV.out).ok ls[k].s (List.mem_map.2 ⟨_, List.getElem_mem hlt, rfl⟩)
        have HT : Hid (ls.take (k + 1) = ls.take k ++ [l]) := by show _ = _; rw [List.take_succ_eq_append_getElem hlt, hl]
        rw [hl] at hq hown hpp hok
        obtain ⟨q0, q1, q2⟩ := hq
        have HOWN := Lib.hid hown
        have HPP := Lib.hid hpp
        have HOK := Lib.hid hok
        clear hown hl hpp hok
        have HBV := Lib.hid (box_below wr #[.string l.s.pod, .string l.s.met, .slice l.a l.s.pts.length l.cap] 79)
        have HCV := Lib.hid (cells_new wr #[.string l.s.pod, .string l.s.met, .slice l.a l.s.pts.length l.cap] 79)
        have hcu := HB.out.trans (HBV.out.mono HB.out.size)
        have HCT := Lib.hid ((hcu.cell (p := ⟨w.heap.size, 0, none⟩) (by have := HS0.out; show w.heap.size < _; omega)).trans HC0.out)
        have HSW := Lib.hid hcu.size
        clear hcu
        go_wp2_with fail
        obtain ⟨W, hW⟩ : ∃ W, wr.alloc (.cells #[.string l.s.pod, .string l.s.met, .slice l.a l.s.pts.length l.cap] 79) = W := ⟨_, rfl⟩
        rw [hW] at HBV HCV HCT HSW ⊢
        have hWs : Hid (W.heap.size = wr.heap.size + 1) := by rw [← hW]; exact Lib.hid (by simp)
        clear hW q0 q1 q2
        refine (first_at t l.s.pts HOK.out.pts l.a l.cap w.heap.size W (HOWN.out.kept HBV.out).pts (by have := HSW.out; have := HS0.out; omega) HCT.out).mono ?_
        rintro e w2 ⟨⟨r, rfl, hr⟩, hb2⟩
        have HB2 := Lib.hid hb2
        have HBW := Lib.hid (HBV.out.trans (hb2.mono HBV.out.size))
        clear hb2
        rcases hr with ⟨rfl, hnone⟩ | ⟨j, rfl, hj, hdrop⟩
        · have HN := Lib.hid hnone
          clear hnone
          have HM2 : Hid (ms.map Sv.s = forgetV t ((ls.take (k + 1)).map Sv.s)) := by
            show _ = _
            rw [HT.out, List.map_append, List.map_cons, List.map_nil, forget_snoc_no t _ _ HN.out]
            exact HM.out
          have HH2 := Lib.hid (HH.out.kept HBW.out)
          have HB3 := Lib.hid (HB.out.trans (HBW.out.mono HB.out.size))
          clear HM HH
          go_wp2
          go_roundw
          case rel => exact ⟨k + 1, ms, by omega, by go_num, HM2.out, by omega, HH2.out, HB3.out⟩
          case measure => simp [intOf]; omega
        · have hC2 := HCV.out.kept HB2.out
          have c0 := (hC2.2 0 (by simp)).1
          have c1 := (hC2.2 1 (by simp)).1
          have c2 := (hC2.2 2 (by simp)).1
          simp only [List.getElem_cons_zero, List.getElem_cons_succ] at c0 c1 c2
          have HC2 := Lib.hid hC2
          have HD := Lib.hid hdrop
          clear hC2 hdrop
          go_wp2_with fail
          clear c0 c1 c2
          refine (points_from l.s.pts j (.inl hj) HPP.out l.a l.cap B w2 ((HOWN.out.kept HBV.out).kept HB2.out)).mono ?_
          rintro e w3 ⟨g, rfl, ho3, hb3⟩
          obtain ⟨ps, hps⟩ : ∃ ps, since t l.s.pts = ps := ⟨_, rfl⟩
          have hdr : l.s.pts.drop j = ps := by rw [← hps, HD.out]
          have hlen : l.s.pts.length - j = ps.length := by rw [← hdr, List.length_drop]
          have hne : ps ≠ [] := by intro e; rw [e] at hlen; simp at hlen; omega
          rw [hdr, hlen] at ho3
          rw [hlen]
          have hC3 := HC2.out.kept hb3
          have hC4 := hC3.set 2 (.slice (some ⟨g, 0, none⟩) ps.length ps.length) (by simp)
          have hgl := ho3.lt
          have hb4 := (HBW.out.trans (hb3.mono HBW.out.size)).setCell (p := ⟨wr.heap.size, 2, none⟩) (Nat.le_refl _) (.slice (some ⟨g, 0, none⟩) ps.length ps.length)
          have hW2 : wr.heap.size + 1 ≤ w2.heap.size := by have := hWs.out; have := HB2.out.size; omega
          have hp4 := (ho3.mono (show wr.heap.size ≤ w2.heap.size by omega)).set (c := wr.heap.size) (j := 2) (.slice (some ⟨g, 0, none⟩) ps.length ps.length) (off_lt (by omega))
          have d2 := (hC3.2 2 (by simp)).1
          have fr := (hC3.2 2 (by simp)).2
          have c0 := (hC4.2 0 (by simp)).1
          have c1 := (hC4.2 1 (by simp)).1
          have c2 := (hC4.2 2 (by simp)).1
          simp only [List.getElem_cons_zero, List.getElem_cons_succ, List.set_cons_zero, List.set_cons_succ] at c0 c1 c2 d2
          have HM2 : Hid ((ms ++ [(⟨⟨l.s.pod, l.s.met, ps⟩, some ⟨g, 0, none⟩, ps.length⟩ : Sv)]).map Sv.s = forgetV t ((ls.take (k + 1)).map Sv.s)) := by
            show _ = _
            rw [HT.out, List.map_append, List.map_append, List.map_cons, List.map_nil, List.map_cons, List.map_nil, forget_snoc_yes t _ _ (by rw [hps]; exact hne), HM.out]
            unfold cutS
            rw [hps]
          have HB4 := Lib.hid hb4
          have HP4 := Lib.hid hp4
          have hal := box_below (w3.setCell ⟨wr.heap.size, 2, none⟩ (.slice (some ⟨g, 0, none⟩) ps.length ps.length)) #[.string l.s.pod, .string l.s.met, .slice (some ⟨g, 0, none⟩) ps.length ps.length] 79
          have HOA := Lib.hid ((HH.out.1.kept hb4).kept hal)
          have HCN := Lib.hid (three_cells (w3.setCell ⟨wr.heap.size, 2, none⟩ (.slice (some ⟨g, 0, none⟩) ps.length ps.length)) ⟨⟨l.s.pod, l.s.met, ps⟩, some ⟨g, 0, none⟩, ps.length⟩ 79)
          have HBA := Lib.hid ((HB.out.trans (hb4.mono HB.out.size)).alloc (HB.out.trans (hb4.mono HB.out.size)).size (.cells #[.string l.s.pod, .string l.s.met, .slice (some ⟨g, 0, none⟩) ps.length ps.length] 79))
          have HSA := Lib.hid HBA.out.size
          have HWB := Lib.hid HB.out.size
          obtain ⟨i0, hi0, hz0, hz1, hz2⟩ := info_sr2
          have hml3 : ms.length ≤ 1048576 := by omega
          clear hC3 hC4 hgl hb4 hW2 hp4 hal hps hdr hlen hne ho3 hb3 HM
          go_wp2_with (at_builtin; refine wpList_append_lies _ (by rfl) _ _ 25 (by rfl) w0.heap.size 79 i0 (svV zeroV) 3 56 Try.underlying25 hi0 hz0 hz1 hz2 rfl (by decide) _ ms.length (gf encV ms) (by rfl) HOA.out ⟨w3.heap.size, 0, none⟩ 1 1 [.string l.s.pod, .string l.s.met, .slice (some ⟨g, 0, none⟩) ps.length ps.length] (by rfl) rfl ?e1 ?e2 (by omega) ?e3 ?e4 ?e5 _ rfl ?_)
          case e1 =>
            have h := HCN.out
            rw [size_set] at h
            exact h
          case e2 => exact three_one ⟨⟨l.s.pod, l.s.met, ps⟩, some ⟨g, 0, none⟩, ps.length⟩
          case e3 => unfold maxLen; omega
          case e4 => omega
          case e5 => exact HSA.out
          intro g8 c8 w8 hown hgrow hat hlt8
          have HH8 := Lib.hid (HH.out.more (l := ⟨⟨l.s.pod, l.s.met, ps⟩, some ⟨g, 0, none⟩, ps.length⟩) HB4.out HWB.out HP4.out hown hgrow (hat.imp id fun e => by rw [e]; simp))
          have HB8 := Lib.hid (HBA.out.grown hgrow HSA.out (fun g hg => (World.ownsRow.lt HH.out.1 g hg).1))
          have hl8 : (ms ++ [(⟨⟨l.s.pod, l.s.met, ps⟩, some ⟨g, 0, none⟩, ps.length⟩ : Sv)]).length ≤ k + 1 := by rw [List.length_append, List.length_singleton]; omega
          have HL8 := Lib.hid hl8
          clear hown hgrow hat hlt8 hl8 HOA HCN HBA HSA HWB HP4 HB4 HH c0 c1 c2 d2 fr
          go_wp2
          go_roundw
          case rel => exact ⟨k + 1, _, by omega, by go_num, HM2.out, HL8.out, HH8.out, HB8.out⟩
          case measure => simp [intOf]; omega
      · obtain rfl : k = ls.length := by omega
        have HF : Hid (ms.map Sv.s = forgetV t (ls.map Sv.s)) := by
          have := HM.out
          rw [List.take_of_length_le (Nat.le_refl _)] at this
          exact this
        have HHF := Lib.hid (HH.out.mono (show w.heap.size ≤ w0.heap.size by have := HS0.out; omega))
        have HBF := Lib.hid (HB0.out.trans (HB.out.mono (show w.heap.size ≤ w0.heap.size by have := HS0.out; omega)))
        clear HM HH HB
        go_wp2
        go_ret2
        exact ⟨⟨_, ms, HHF.out, by rw [HV.out]; rfl, by rw [HV.out]; exact HF.out⟩, HBF.out⟩
end Go.Proofs.Ytgbkmnhdgaeejaa.FgtI
