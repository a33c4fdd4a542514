/- spec.l03Copy: a copy of a list of series. -/
import Derived.Test.YtimpajhgplkpmaaCopyI
import Derived.Deep.RegionHeldLaw
import Derived.Deep.AppendLies
namespace Go.Proofs.Ytimpajhgplkpmaa.CopyS
open Go.RowKit Go.Sort Go.BigFrame
open Go.Proofs.Ytimpajhgplkpmaa.C1
open Go.Proofs.Ytimpajhgplkpmaa.C2
open Go.Proofs.Ytimpajhgplkpmaa.Smps
open Go.Proofs.Ytimpajhgplkpmaa.Mem
open Go.Proofs.Ytimpajhgplkpmaa.Ser
open Go.Proofs.Ytimpajhgplkpmaa.Ser2
open Go.Proofs.Ytimpajhgplkpmaa.Sof
open Go.Proofs.Ytimpajhgplkpmaa.StoL
open Go.Proofs.Ytimpajhgplkpmaa.MarkS
open Go.Proofs.Ytimpajhgplkpmaa.From
set_option linter.unusedVariables false

theorem OwnP_form {w : World} {B : Nat} {v : Value} {ps : List Pt} (h : OwnP w B v ps) : ∃ a cap, v = .slice a ps.length cap := by
  rcases h.2 with ⟨hv, h0⟩ | ⟨g, cap, cur, hv, _⟩
  · exact ⟨none, 0, by rw [hv, h0]⟩
  · exact ⟨_, cap, hv⟩
theorem spec_points2 (ps : List Pt) (a : Option Addr) (cap : Nat) (w : World) (h : Pts w a ps) (hm : ps.length ≤ 1048576) :
    Calls Try.prog 72 #[.slice a ps.length cap] w fun e w' => ∃ a' cap', e = .returned (.slice a' ps.length cap') ∧ OwnP w' w.heap.size (.slice a' ps.length cap') ps ∧ Below w.heap.size w w' := by
  refine (spec_points ps a cap w h hm).mono ?_
  rintro e w' ⟨v, rfl, ho, hb⟩
  obtain ⟨a', cap', rfl⟩ := OwnP_form ho
  exact ⟨a', cap', rfl, ho, hb⟩
theorem Good_grown {w w' : World} {B g g' : Nat} {ls : List Sv} (h : Ser2.Good w B g ls) (hw : w.grownBy w' (some g)) (hat : some g = some g' ∨ g' = w.heap.size) : Ser2.Good w' B g' ls := by
  refine ⟨fun l hl => ?_, fun l hl => ?_, h.apart⟩
  · have ho := h.own l hl
    have hoff := h.off l hl
    obtain ⟨h1, h2⟩ := ho
    refine ⟨h1, ?_⟩
    rcases h2 with h2 | ⟨b, cap, cur, hv, hb, hh, r⟩
    · exact .inl h2
    · refine .inr ⟨b, cap, cur, hv, hb, ?_, r⟩
      rw [hw.block b (Array.getElem?_eq_some_iff.1 hh).1 (by simp only [Value.slice.injEq] at hv; intro e; cases e; exact absurd rfl (hoff _ _ _ hv.1))]
      exact hh
  · intro b o s e
    have ho := h.own l hl
    have hoff := h.off l hl b o s e
    rw [e] at ho
    have := ho.lt.2
    rcases hat with hat | hat
    · cases hat; exact hoff
    · omega
theorem OwnR_snoc {w : World} {B : Nat} {v : Value} {ls : List Sv} {l : Sv} (h : w.ownsRow B 120 3 v (ls.length + 1) (gf encV ls ++ [.string l.s.pod, .string l.s.met, .slice l.a l.s.pts.length l.cap])) : OwnR w B v (ls ++ [l]) := by
  unfold OwnR
  rw [List.length_append, gf_append]
  exact h
theorem three_one (l : Sv) : ∀ u ∈ [Value.string l.s.pod, .string l.s.met, .slice l.a l.s.pts.length l.cap], u.oneCell' = true := by
  intro u hu
  simp at hu
  rcases hu with rfl | rfl | rfl <;> rfl
theorem three_cells (w : World) (l : Sv) (t : TypeId) : ∀ (j : Nat) (u : Value), [Value.string l.s.pod, .string l.s.met, .slice l.a l.s.pts.length l.cap][j]? = some u → (w.alloc (.cells #[.string l.s.pod, .string l.s.met, .slice l.a l.s.pts.length l.cap] t)).cell? ((⟨w.heap.size, 0, none⟩ : Addr).add j) = some u := by
  intro j u hj
  have hc := cells_new w #[.string l.s.pod, .string l.s.met, .slice l.a l.s.pts.length l.cap] t
  match j, hj with
  | 0, hj => cases hj; exact (hc.2 0 (by simp)).1
  | 1, hj => cases hj; exact (hc.2 1 (by simp)).1
  | 2, hj => cases hj; exact (hc.2 2 (by simp)).1
  | n + 3, hj => simp at hj
theorem info_sr2 : ∃ i, Try.prog.info? 120 = some i ∧ i.zero = some (svV zeroV) ∧ i.size = 3 ∧ i.bytes = 56 := by
  obtain ⟨i, hi, hz⟩ := Option.map_eq_some_iff.1 info_sr
  simp only [Prod.mk.injEq] at hz
  exact ⟨i, hi, hz.1, hz.2.1, hz.2.2⟩
theorem new_rowR (w : World) : OwnR (w.alloc (.cells #[] 120)) w.heap.size (.slice (some ⟨w.heap.size, 0, none⟩) 0 0) [] := World.ownsRow_lit (e := 120) (size := 3) (base := w.heap.size) w #[] 0 (Nat.le_refl _) (by unfold maxLen; omega) (by simp)
theorem OwnRk {w : World} {B g c k : Nat} {ms : List Sv} (hl : ms.length = k) (h : OwnR w B (.slice (some ⟨g, 0, none⟩) k c) ms) : w.ownsRow B 120 3 (.slice (some ⟨g, 0, none⟩) k c) k (gf encV ms) := by
  subst hl
  exact h
theorem OwnRs {w : World} {B k : Nat} {v : Value} {ls : List Sv} {l : Sv} (hl : ls.length = k) (h : w.ownsRow B 120 3 v (k + 1) (gf encV ls ++ [.string l.s.pod, .string l.s.met, .slice l.a l.s.pts.length l.cap])) : OwnR w B v (ls ++ [l]) := by
  subst hl
  exact OwnR_snoc h
theorem rowlt {w : World} {B g c k : Nat} {ms : List Sv} (h : OwnR w B (.slice (some ⟨g, 0, none⟩) k c) ms) : ∀ j, (Value.slice (some ⟨g, 0, none⟩) k c).ownBlock = some j → B ≤ j := fun j hj => by
  cases hj
  exact h.lt.1
set_option maxHeartbeats 4000000 in
set_option maxRecDepth 20000 in
theorem spec_copy (ls : List Sv) (a : Option Addr) (cap : Nat) (w : World) (h : Srs w a ls) (hm : ls.length ≤ 1048576) (hpl : ∀ l ∈ ls, l.s.pts.length ≤ 1048576) :
    Calls Try.prog 68 #[.slice a ls.length cap] w fun e w' => ∃ g cap' ms, e = .returned (.slice (some ⟨g, 0, none⟩) ls.length cap') ∧ ms.map Sv.s = ls.map Sv.s ∧ OwnR w' w.heap.size (.slice (some ⟨g, 0, none⟩) ls.length cap') ms ∧ Ser2.Good w' w.heap.size g ms ∧ Below w.heap.size w w' := by
  obtain ⟨b, off, ha, hb, hcell⟩ := h.cells
  obtain ⟨i0, hi0, hz0, hz1, hz2⟩ := info_sr2
  have Hc := Lib.hid hcell
  have Ha := Lib.hid ha
  have Hb := Lib.hid hb
  have Hp := Lib.hid hpl
  have HS0 := Lib.hid (new_rowR w)
  have hbel : Hid (Below w.heap.size w (w.alloc (.cells #[] 120))) := (Below.refl _ _).alloc (Nat.le_refl _) _
  clear hcell ha hb h hpl
  go_enter Try.func68, Try.ntmps68
  go_wp2
  go_loopw [3, 4] (fun v i wr => ∃ (k g c : Nat) (ms : List Sv), k ≤ ls.length ∧ i = .int .i64 k ∧ v = .slice (some ⟨g, 0, none⟩) k c ∧ Hid (ms.length = k) ∧ Hid (ms.map Sv.s = (ls.take k).map Sv.s) ∧ Hid (OwnR wr w.heap.size (.slice (some ⟨g, 0, none⟩) k c) ms) ∧ Hid (Ser2.Good wr w.heap.size g ms) ∧ Hid (Below w.heap.size w wr)) (fun _ i _ => ls.length - (intOf i).toNat)
  case atStart => exact ⟨0, _, 0, [], Nat.zero_le _, rfl, rfl, rfl, rfl, HS0.out, Good.nil _ _ _, hbel⟩
  case round =>
    obtain ⟨k, g, c, ms, hk, rfl, rfl, HL, HM, HO, HG, HB⟩ := hrel
    by_cases hlt : k < ls.length
    · obtain rfl := Ha.out (by omega)
      obtain ⟨l, hl⟩ : ∃ l, ls[k] = l := ⟨_, rfl⟩
      have HKS : Hid (∀ W, Below w.heap.size w W → W.cell? ⟨b, off + k * 3, none⟩ = some (.string l.s.pod) ∧ W.cell? ⟨b, off + k * 3 + 1, none⟩ = some (.string l.s.met) ∧ W.cell? ⟨b, off + k * 3 + 2, none⟩ = some (.slice l.a l.s.pts.length l.cap)) := fun W hW => by
        have h := (Hc.out k hlt).1.kept hW (Hb.out (by omega))
        rw [hl] at h
        exact h
      have HPT : Hid (∀ W, Below w.heap.size w W → Pts W l.a l.s.pts) := fun W hW => by
        have h := (Hc.out k hlt).2.kept hW
        rw [hl] at h
        exact h
      have HPP : Hid (l.s.pts.length ≤ 1048576) := by
        have h := Hp.out _ (List.getElem_mem hlt)
        rw [hl] at h
        exact h
      have HBD : Hid (Below w.heap.size w wr.drew) := HB.out.drew
      have HSD : Hid (wr.drew.heap.size = wr.heap.size) := rfl
      obtain ⟨q0, q1, q2⟩ := HKS.out wr HB.out
      go_wp2_with fail
      have HKP : ∀ W, Hid (Below w.heap.size w W) → (W.cell? ⟨b, off + k * 3, none⟩ = some (.string l.s.pod) ∧ W.cell? ⟨b, off + k * 3 + 1, none⟩ = some (.string l.s.met) ∧ W.cell? ⟨b, off + k * 3 + 2, none⟩ = some (.slice l.a l.s.pts.length l.cap)) := fun W h => HKS.out W h.out
      have HT := Lib.hid HKP
      clear HKP q0 q1 q2
      go_region_held_law (fun w' => w'.cell? ⟨b, off + k * 3, none⟩ = some (.string l.s.pod) ∧ w'.cell? ⟨b, off + k * 3 + 1, none⟩ = some (.string l.s.met) ∧ w'.cell? ⟨b, off + k * 3 + 2, none⟩ = some (.slice l.a l.s.pts.length l.cap))
        (first | exact HT.out _ HB8 | exact HT.out _ HBA | exact HT.out _ HB1 | exact HT.out _ HBD)
        (first
          | (refine step_append_lies _ (by rfl) _ _ 44 (by rfl) w.heap.size 120 i0 (svV zeroV) 3 56 Try.underlying44 hi0 hz0 hz1 hz2 (by rfl) (by decide) (.slice (some ⟨g, 0, none⟩) k c) k (gf encV ms) (by rfl) HOA.out ⟨w1.heap.size, 0, none⟩ 1 1 [.string l.s.pod, .string l.s.met, .slice a' l.s.pts.length cap'] (by rfl) rfl (three_cells w1 ⟨l.s, a', cap'⟩ _) (three_one ⟨l.s, a', cap'⟩) (by omega) (by unfold maxLen; omega) (by omega) HSA.out _ rfl ?_
             intro g8 c8 w8 hown hgrow hat hlt8
             have HB8 := Lib.hid (HBA.out.grown hgrow HSA.out HRW.out)
             have HO8 := Lib.hid (Hk.out w8 _ hown)
             have HG8 := Lib.hid (Good_grown HGA.out hgrow hat)
             clear hown hgrow hat hlt8)
          | (go_at_call 72
             refine (spec_points2 l.s.pts l.a l.cap _ (HPT.out _ HBD.out) HPP.out).mono ?_
             rintro e w1 ⟨a', cap', rfl, ho, hb1⟩
             have HB1 := Lib.hid (HBD.out.trans (hb1.mono HBD.out.size))
             have HBA := Lib.hid (HB1.out.alloc HB1.out.size (.cells #[.string l.s.pod, .string l.s.met, .slice a' l.s.pts.length cap'] 120))
             have HOD : Hid (OwnR wr.drew w.heap.size (.slice (some ⟨g, 0, none⟩) k c) ms) := HO.out
             have HGD : Hid (Ser2.Good wr.drew w.heap.size g ms) := ⟨HG.out.own, HG.out.off, HG.out.apart⟩
             have HG1 := Lib.hid (HGD.out.more hb1 HBD.out.size HOD.out.lt.2 ⟨l.s, a', cap'⟩ ho)
             have HGA := Lib.hid (HG1.out.kept (box_below w1 #[.string l.s.pod, .string l.s.met, .slice a' l.s.pts.length cap'] 120))
             have HOA := Lib.hid (OwnRk HL.out ((HOD.out.kept hb1).kept (box_below w1 #[.string l.s.pod, .string l.s.met, .slice a' l.s.pts.length cap'] 120)))
             have HSA := Lib.hid HBA.out.size
             have HRW := Lib.hid (rowlt HO.out)
             have Hk := Lib.hid (fun (w8 : World) (v : Value) => OwnRs (w := w8) (B := w.heap.size) (v := v) (ls := ms) (l := ⟨l.s, a', cap'⟩) HL.out)
             clear ho hb1 HOD HGD HG1))
      have HL8 : Hid ((ms ++ [(⟨l.s, a', cap'⟩ : Sv)]).length = k + 1) := by show _ = _; rw [List.length_append, HL.out]; rfl
      have HM8 : Hid ((ms ++ [(⟨l.s, a', cap'⟩ : Sv)]).map Sv.s = (ls.take (k + 1)).map Sv.s) := by
        show _ = _
        rw [List.take_succ_eq_append_getElem hlt, List.map_append, List.map_append, HM.out, hl]; rfl
      clear hl HL HM HO HG HB
      go_wp2
      go_roundw
      case rel => exact ⟨k + 1, g8, c8, _, by omega, by go_num, by first | rfl | go_num, HL8.out, HM8.out, HO8.out, HG8.out, HB8.out⟩
      case measure => simp [intOf]; omega
    · obtain rfl : k = ls.length := by omega
      have HF : Hid (ms.map Sv.s = ls.map Sv.s) := by
        have := HM.out
        rw [List.take_of_length_le (Nat.le_refl _)] at this
        exact this
      clear HM
      go_wp2
      go_ret
      exact ⟨g, c, ms, rfl, HF.out, HO.out, HG.out, HB.out⟩
end Go.Proofs.Ytimpajhgplkpmaa.CopyS
