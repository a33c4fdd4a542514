/- impl.copySeries: a copy of a list of series. -/
import Derived.Test.YtimpajhgplkpmaaHeld
namespace Go.Proofs.Ytimpajhgplkpmaa.CopyI
open Go.RowKit Go.Sort Go.BigFrame
open Go.Proofs.Ytimpajhgplkpmaa.C1
open Go.Proofs.Ytimpajhgplkpmaa.C2
open Go.Proofs.Ytimpajhgplkpmaa.Smps
open Go.Proofs.Ytimpajhgplkpmaa.Mem
open Go.Proofs.Ytimpajhgplkpmaa.Ser
open Go.Proofs.Ytimpajhgplkpmaa.Ser2
open Go.Proofs.Ytimpajhgplkpmaa.StoL
open Go.Proofs.Ytimpajhgplkpmaa.MarkS
open Go.Proofs.Ytimpajhgplkpmaa.From
set_option linter.unusedVariables false

set_option maxHeartbeats 2000000 in
set_option maxRecDepth 20000 in
theorem impl_copy (ls : List Sv) (gs cap B : Nat) (w : World) (ho : OwnR w B (.slice (some ⟨gs, 0, none⟩) ls.length cap) ls) (hg : Ser2.Good w B gs ls) (hm : ls.length ≤ 1048576) (hpl : ∀ l ∈ ls, l.s.pts.length ≤ 1048576) :
    Calls Try.prog 76 #[.slice (some ⟨gs, 0, none⟩) ls.length cap] w fun e w' => ∃ g ms, e = .returned (.slice (some ⟨g, 0, none⟩) ls.length ls.length) ∧ ms.map Sv.s = ls.map Sv.s ∧ OwnR w' w.heap.size (.slice (some ⟨g, 0, none⟩) ls.length ls.length) ms ∧ Ser2.Good w' w.heap.size g ms ∧ Below w.heap.size w w' := by
  have hmk := make_srs ls.length hm
  have hmade : OwnR (w.alloc (.cells (madeCells (svV zeroV).cells (ls.length * 3)) 120)) w.heap.size (.slice (some ⟨w.heap.size, 0, none⟩) ls.length ls.length) (sofar ls.length []) := by
    have := made_srs ls.length hm w
    simpa [sofar] using this
  have hbel : Below w.heap.size w (w.alloc (.cells (madeCells (svV zeroV).cells (ls.length * 3)) 120)) := (Below.refl _ _).alloc (Nat.le_refl _) _
  have hsz : w.heap.size < (w.alloc (.cells (madeCells (svV zeroV).cells (ls.length * 3)) 120)).heap.size := by simp
  have hgs := ho.lt.2
  have Hm := Lib.hid hmade
  have HSO := Lib.hid ho
  have HSG := Lib.hid hg
  have Hp := Lib.hid hpl
  clear hmade ho hg hpl
  generalize hM : madeCells (svV zeroV).cells (ls.length * 3) = M at hmk hbel Hm hsz
  go_enter Try.func76, Try.ntmps76
  go_wp2
  go_loopw [11] (fun i wr => ∃ (k : Nat) (dn : List Sv), k ≤ ls.length ∧ i = .int .i64 k ∧ Hid (dn.length = k) ∧ Hid (dn.map Sv.s = (ls.take k).map Sv.s) ∧ Hid (OwnR wr w.heap.size (.slice (some ⟨w.heap.size, 0, none⟩) ls.length ls.length) (sofar ls.length dn)) ∧ Hid (Ser2.Good wr w.heap.size w.heap.size dn) ∧ Hid (Below w.heap.size w wr ∧ w.heap.size < wr.heap.size))
    (fun i _ => ls.length - (intOf i).toNat)
  case atStart => exact ⟨0, [], Nat.zero_le _, rfl, rfl, rfl, Hm.out, Good.nil _ _ _, hbel, hsz⟩
  case round =>
    clear hmk hbel hsz
    obtain ⟨k, dn, hk, rfl, HL, HM, HO, HG, HB⟩ := hrel
    by_cases hlt : k < ls.length
    · obtain ⟨l, hl⟩ : ∃ l, ls[k] = l := ⟨_, rfl⟩
      have hq := (HSO.out.kept HB.out.1).at3 k hlt
      have hown := (HSG.out.kept HB.out.1).own _ (List.getElem_mem hlt)
      have hpp := Hp.out _ (List.getElem_mem hlt)
      rw [hl] at hq hown hpp
      obtain ⟨q0, q1, q2⟩ := hq
      have HOWN := Lib.hid hown
      have HLL := Lib.hid hl
      have HPP := Lib.hid hpp
      clear hown hl hpp
      have HB0 := Lib.hid (box_below wr #[.string l.s.pod, .string l.s.met, .slice l.a l.s.pts.length l.cap] 120)
      have HC0 := Lib.hid (cells_new wr #[.string l.s.pod, .string l.s.met, .slice l.a l.s.pts.length l.cap] 120)
      go_wp2_with fail
      obtain ⟨W, hW⟩ : ∃ W, wr.alloc (.cells #[.string l.s.pod, .string l.s.met, .slice l.a l.s.pts.length l.cap] 120) = W := ⟨_, rfl⟩
      rw [hW] at HB0 HC0 ⊢
      have hWs : W.heap.size = wr.heap.size + 1 := by rw [← hW]; simp
      clear hW q0 q1 q2
      refine (points_from l.s.pts 0 (by rcases Nat.eq_zero_or_pos l.s.pts.length with h | h; exact .inr ⟨rfl, List.length_eq_zero_iff.1 h⟩; exact .inl h) HPP.out l.a l.cap B W (HOWN.out.kept HB0.out)).mono ?_
      rintro e w2 ⟨g, rfl, ho2, hb2⟩
      rw [Nat.sub_zero, List.drop_zero] at ho2
      rw [Nat.sub_zero]
      have hC2 := HC0.out.kept hb2
      have hC3 := hC2.set 2 (.slice (some ⟨g, 0, none⟩) l.s.pts.length l.s.pts.length) (by simp)
      have hgl := ho2.lt
      have HB4 := Lib.hid ((HB0.out.trans (hb2.mono HB0.out.size)).setCell (p := ⟨wr.heap.size, 2, none⟩) (Nat.le_refl _) (.slice (some ⟨g, 0, none⟩) l.s.pts.length l.s.pts.length))
      have HO3 := Lib.hid (OwnR_off ((HO.out.kept HB0.out).kept hb2) ((Only.refl wr.heap.size w2).setCell 2 (.slice (some ⟨g, 0, none⟩) l.s.pts.length l.s.pts.length)) (by have := HB.out.2; omega))
      have HP3 := Lib.hid ((ho2.mono (show wr.heap.size ≤ W.heap.size by omega)).set (c := wr.heap.size) (j := 2) (.slice (some ⟨g, 0, none⟩) l.s.pts.length l.s.pts.length) (off_lt (by omega)))
      have HG3 := Lib.hid (HG.out.more HB4.out HB.out.1.size HB.out.2 ⟨l.s, some ⟨g, 0, none⟩, l.s.pts.length⟩ HP3.out)
      have hsl : k < (sofar ls.length dn).length := by rw [sofar_len _ _ (by have := HL.out; omega)]; exact hlt
      obtain ⟨p0, p1, p2⟩ := HO3.out.at3 k hsl
      have f0 := HO3.out.frozen (k * 3)
      have f1 := HO3.out.frozen (k * 3 + 1)
      have f2 := HO3.out.frozen (k * 3 + 2)
      have HO4 := Lib.hid (HO3.out.put k hsl ⟨l.s, some ⟨g, 0, none⟩, l.s.pts.length⟩)
      have HG4 := Lib.hid (HG3.out.only (only_put3 (Only.refl w.heap.size _) (k * 3) (k * 3 + 1) (k * 3 + 2) (.string l.s.pod) (.string l.s.met) (.slice (some ⟨g, 0, none⟩) l.s.pts.length l.s.pts.length)))
      have HB5 := Lib.hid (below_put3 (HB.out.1.trans (HB4.out.mono HB.out.1.size)) (Nat.le_refl w.heap.size) (k * 3) (k * 3 + 1) (k * 3 + 2) (.string l.s.pod) (.string l.s.met) (.slice (some ⟨g, 0, none⟩) l.s.pts.length l.s.pts.length))
      have hsz4 := HB4.out.size
      have fr := (hC2.2 2 (by simp)).2
      have d2 := (hC2.2 2 (by simp)).1
      have c0 := (hC3.2 0 (by simp)).1
      have c1 := (hC3.2 1 (by simp)).1
      have c2 := (hC3.2 2 (by simp)).1
      simp only [List.getElem_cons_zero, List.getElem_cons_succ, List.set_cons_zero, List.set_cons_succ] at c0 c1 c2 d2
      have HS3 : Hid (w.heap.size < ((((w2.setCell ⟨wr.heap.size, 2, none⟩ (.slice (some ⟨g, 0, none⟩) l.s.pts.length l.s.pts.length)).setCell ⟨w.heap.size, k * 3, none⟩ (.string l.s.pod)).setCell ⟨w.heap.size, k * 3 + 1, none⟩ (.string l.s.met)).setCell ⟨w.heap.size, k * 3 + 2, none⟩ (.slice (some ⟨g, 0, none⟩) l.s.pts.length l.s.pts.length)).heap.size) := by
        have : w.heap.size < (w2.setCell ⟨wr.heap.size, 2, none⟩ (.slice (some ⟨g, 0, none⟩) l.s.pts.length l.s.pts.length)).heap.size := by have := HB.out.2; omega
        exact Lib.hid (by simpa [World.setCell] using this)
      have HN : Hid ((dn ++ [(⟨l.s, some ⟨g, 0, none⟩, l.s.pts.length⟩ : Sv)]).map Sv.s = (ls.take (k + 1)).map Sv.s) := by
        show _ = _
        rw [List.take_succ_eq_append_getElem hlt, List.map_append, List.map_append, HM.out, HLL.out]; rfl
      have HO5 : Hid (OwnR ((((w2.setCell ⟨wr.heap.size, 2, none⟩ (.slice (some ⟨g, 0, none⟩) l.s.pts.length l.s.pts.length)).setCell ⟨w.heap.size, k * 3, none⟩ (.string l.s.pod)).setCell ⟨w.heap.size, k * 3 + 1, none⟩ (.string l.s.met)).setCell ⟨w.heap.size, k * 3 + 2, none⟩ (.slice (some ⟨g, 0, none⟩) l.s.pts.length l.s.pts.length)) w.heap.size (.slice (some ⟨w.heap.size, 0, none⟩) ls.length ls.length) (sofar ls.length (dn ++ [(⟨l.s, some ⟨g, 0, none⟩, l.s.pts.length⟩ : Sv)]))) := by
        have hd := HL.out
        have hs := sofar_set ls.length dn (by omega) ⟨l.s, some ⟨g, 0, none⟩, l.s.pts.length⟩
        rw [hd] at hs
        have := HO4.out
        rw [hs] at this
        exact this
      clear HO HG HO3 HO4 HG3 HP3 HB4 hC2 hC3 hb2 ho2 hsz4 hWs hgl
      go_wp2
      go_roundw
      case rel => exact ⟨k + 1, _, by omega, by go_num, by show _ = _; rw [List.length_append, HL.out]; rfl, HN.out, HO5.out, HG4.out, HB5.out, HS3.out⟩
      case measure => simp [intOf]; omega
    · obtain rfl : k = ls.length := by omega
      have HF : Hid (dn.map Sv.s = ls.map Sv.s) := by
        have := HM.out
        rw [List.take_of_length_le (Nat.le_refl _)] at this
        exact this
      have HO2 : Hid (OwnR wr w.heap.size (.slice (some ⟨w.heap.size, 0, none⟩) ls.length ls.length) dn) := by
        have := HO.out
        rw [sofar_all _ _ HL.out] at this
        exact this
      clear HO HM
      go_wp2
      go_ret
      exact ⟨w.heap.size, dn, rfl, HF.out, HO2.out, HG.out, HB.out.1⟩
end Go.Proofs.Ytimpajhgplkpmaa.CopyI
