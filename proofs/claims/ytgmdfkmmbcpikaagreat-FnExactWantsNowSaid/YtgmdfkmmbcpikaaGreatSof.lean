/- The model's l03Points and SeriesOf; LatestOf, the model's and the program's. -/
import Derived.Test.YtgmdfkmmbcpikaaGreatFind
namespace Go.Proofs.YtgmdfkmmbcpikaaGreat.Sof
open Go.RowKit Go.Sort Go.BigFrame
open Go.Proofs.YtgmdfkmmbcpikaaGreat.C1
open Go.Proofs.YtgmdfkmmbcpikaaGreat.C2
open Go.Proofs.YtgmdfkmmbcpikaaGreat.Smps
open Go.Proofs.YtgmdfkmmbcpikaaGreat.Mem
open Go.Proofs.YtgmdfkmmbcpikaaGreat.Ser
open Go.Proofs.YtgmdfkmmbcpikaaGreat.Ser2
open Go.Proofs.YtgmdfkmmbcpikaaGreat.Key
open Go.Proofs.YtgmdfkmmbcpikaaGreat.Sto
open Go.Proofs.YtgmdfkmmbcpikaaGreat.StoL
open Go.Proofs.YtgmdfkmmbcpikaaGreat.Cnt
open Go.Proofs.YtgmdfkmmbcpikaaGreat.Find
set_option linter.unusedVariables false

theorem info_pt2 : ∃ i, Tryz.prog.info? 123 = some i ∧ i.zero = some (ptV zeroP) ∧ i.size = 2 ∧ i.bytes = 16 := by
  obtain ⟨i, hi, hz⟩ := Option.map_eq_some_iff.1 info_pt
  simp only [Prod.mk.injEq] at hz
  exact ⟨i, hi, hz.1, hz.2.1, hz.2.2⟩
theorem OwnP_snoc {w : World} {B : Nat} {v : Value} {ps : List Pt} {p : Pt} (h : w.ownsRow B 123 2 v (ps.length + 1) (gf encP ps ++ [.int .i64 p.tick, .int .i64 p.val])) : OwnP w B v (ps ++ [p]) := by
  unfold OwnP
  rw [List.length_append, gf_append]
  exact h
theorem two_one (p : Pt) : ∀ u ∈ [Value.int .i64 p.tick, .int .i64 p.val], u.oneCell' = true := by
  intro u hu
  simp at hu
  rcases hu with rfl | rfl <;> rfl
theorem two_cells (w : World) (p : Pt) (t : TypeId) : ∀ (j : Nat) (u : Value), [Value.int .i64 p.tick, .int .i64 p.val][j]? = some u → (w.alloc (.cells #[.int .i64 p.tick, .int .i64 p.val] t)).cell? ((⟨w.heap.size, 0, none⟩ : Addr).add j) = some u := by
  intro j u hj
  match j, hj with
  | 0, hj => simp at hj; subst hj; simp [Addr.add]
  | 1, hj => simp at hj; subst hj; simp [Addr.add]
theorem new_rowP (w : World) : OwnP (w.alloc (.cells #[] 123)) w.heap.size (.slice (some ⟨w.heap.size, 0, none⟩) 0 0) [] := World.ownsRow_lit (e := 123) (size := 2) (base := w.heap.size) w #[] 0 (Nat.le_refl _) (by unfold maxLen; omega) rfl
set_option maxHeartbeats 1000000 in
set_option maxRecDepth 20000 in
theorem spec_points (ps : List Pt) (a : Option Addr) (cap : Nat) (w : World) (h : Pts w a ps) (hm : ps.length ≤ 1048576) :
    Calls Tryz.prog 195 #[.slice a ps.length cap] w fun e w' => ∃ v, e = .returned v ∧ OwnP w' w.heap.size v ps ∧ Below w.heap.size w w' := by
  obtain ⟨b, off, ha, hb, hcell⟩ := h.cells
  obtain ⟨i0, hi0, hz0, hz1, hz2⟩ := info_pt2
  have Hc := Lib.hid hcell
  have Ha := Lib.hid ha
  have Hb := Lib.hid hb
  have HS0 := Lib.hid (new_rowP w)
  have hbel : Hid (Below w.heap.size w (w.alloc (.cells #[] 123))) := (Below.refl _ _).alloc (Nat.le_refl _) _
  clear hcell ha hb h
  go_enter Tryz.func195, Tryz.ntmps195
  go_wp2
  go_loopw [3, 4] (fun v i wr => ∃ k : Nat, k ≤ ps.length ∧ i = .int .i64 k ∧ Hid (OwnP wr w.heap.size v (ps.take k)) ∧ Hid (Below w.heap.size w wr)) (fun _ i _ => ps.length - (intOf i).toNat)
  case atStart => exact ⟨0, Nat.zero_le _, rfl, HS0.out, hbel⟩
  case round =>
    obtain ⟨k, hk, rfl, HO, HB⟩ := hrel
    by_cases hlt : k < ps.length
    · obtain rfl := Ha.out (by omega)
      obtain ⟨q0, q1⟩ := (Hc.out k hlt).kept HB.out (Hb.out (by omega))
      obtain ⟨p, hp⟩ : ∃ p, ps[k] = p := ⟨_, rfl⟩
      rw [hp] at q0 q1
      have HT : Hid (ps.take (k + 1) = ps.take k ++ [p]) := by show _ = _; rw [List.take_succ_eq_append_getElem hlt, hp]
      obtain ⟨ts, hts⟩ : ∃ ts, ps.take k = ts := ⟨_, rfl⟩
      have htl : ts.length = k := by rw [← hts]; simp; omega
      have htl3 : ts.length ≤ 1048576 := by omega
      rw [hts] at HO HT
      have hwr := HB.out.size
      clear hp hts htl
      go_wp2_with (at_builtin; refine wpList_append_own _ rfl _ _ 117 rfl w.heap.size 123 i0 (ptV zeroP) 2 16 Tryz.underlying117 hi0 hz0 hz1 hz2 rfl (by decide) _ _ _ rfl (World.ownsRow.alloc HO.out _) ⟨wr.heap.size, 0, none⟩ 1 1 [.int .i64 p.tick, .int .i64 p.val] rfl rfl ?e1 ?e2 ?e3 ?e4 ?e5 ?_)
      case e2 => first | exact two_one _ | exact ⟨rfl, rfl⟩
      case e3 => unfold maxLen; omega
      case e4 => omega
      case e5 => first | omega | (simp; omega)
      intro v' w8 hown' hgrow _
      have HO8 : Hid (OwnP w8 w.heap.size v' (ps.take (k + 1))) := by rw [HT.out]; exact OwnP_snoc hown'
      have hrow : ∀ g, Value.ownBlock _ = some g → w.heap.size ≤ g := fun g hg => (World.ownsRow.lt HO.out g hg).1
      have HB8 := Lib.hid ((HB.out.alloc HB.out.size _).grown hgrow (by have := HB.out.size; simp; omega) hrow)
      clear hown' hgrow hrow
      go_wp2
      go_roundw
      case rel => exact ⟨k + 1, by omega, by go_num, HO8, HB8⟩
      case measure => simp [intOf]; omega
    · obtain rfl : k = ps.length := by omega
      have HF := HO.out
      rw [List.take_of_length_le (Nat.le_refl _)] at HF
      have HFH := Lib.hid HF
      clear HF HO
      go_wp2
      go_ret
      exact ⟨_, rfl, HFH.out, HB.out⟩
/-- What SeriesOf answers: the points in memory of the call's own. -/
def SofP (xs : List Ser) (p m : ByteArray) (B : Nat) (w' : World) (e : Ending) : Prop :=
  (findV xs p m = none ∧ e = .returned (.tuple #[.slice none 0 0, .bool false])) ∨
  ∃ (s : Ser) (v : Value), findV xs p m = some s ∧ storeV xs = true ∧ e = .returned (.tuple #[v, .bool true]) ∧ OwnP w' B v s.pts
set_option maxHeartbeats 1000000 in
set_option maxRecDepth 20000 in
theorem spec_sof (ls : List Sv) (a : Option Addr) (cap : Nat) (p m : ByteArray) (w : World) (hwf : ∀ l ∈ ls, l.s.wf) (hpl : ∀ l ∈ ls, l.s.pts.length ≤ 1048576) (h : Srs w a ls) (hm : ls.length ≤ 1048576) :
    Calls Tryz.prog 162 #[.slice a ls.length cap, .string p, .string m] w fun e w' => SofP (ls.map Sv.s) p m w.heap.size w' e ∧ Below w.heap.size w w' := by
  have HW := Lib.hid hwf
  have HP := Lib.hid hpl
  have HH := Lib.hid h
  obtain ⟨b, off, ha, hb, hcell⟩ := h.cells
  have Hc := Lib.hid hcell
  have Ha := Lib.hid ha
  have Hb := Lib.hid hb
  clear hwf hpl h hcell ha hb
  go_enter Tryz.func162, Tryz.ntmps162
  go_wp2_with (go_at_call 194; refine (spec_at ls a cap p m _ HH.out hm).mono ?_; rintro e u1 ⟨hat, hb1⟩; have HB1 := Lib.hid hb1; clear hb1; rcases hat with ⟨i, hi, hf, rfl⟩ | ⟨hf, rfl⟩)
  · have HF := Lib.hid hf
    clear hf
    cases hv : storeV (ls.map Sv.s)
    · have HV := Lib.hid hv
      have HN : Hid (findV (ls.map Sv.s) p m = none) := by show _ = _; unfold findV; rw [hv]; rfl
      clear hv
      go_wp2_with (go_at_call 28; refine (spec_store2 ls ls rfl a cap _ HW.out (HH.out.kept HB1.out) hm).mono ?_; rw [HV.out]; rintro e u2 ⟨rfl, hb2⟩; have HB2 := Lib.hid (HB1.out.trans (hb2.mono HB1.out.size)); clear hb2)
      go_ret2
      exact ⟨.inl ⟨HN.out, rfl⟩, HB2.out⟩
    · have HV := Lib.hid hv
      have HN : Hid (findV (ls.map Sv.s) p m = some ls[i].s) := by show _ = _; unfold findV; rw [hv, if_pos rfl]; exact HF.out
      obtain rfl := Ha.out (by omega)
      clear hv
      have g0 : decide ((i : Int) < 0) = false := decide_eq_false (by omega)
      go_wp2_with (go_at_call 28; refine (spec_store2 ls ls rfl _ cap _ HW.out (HH.out.kept HB1.out) hm).mono ?_; rw [HV.out]; rintro e u2 ⟨rfl, hb2⟩; have HB2 := Lib.hid (HB1.out.trans (hb2.mono HB1.out.size)); obtain ⟨q0, q1, q2⟩ := (Hc.out i hi).1.kept HB2.out (Hb.out (by omega)); have HPt := Lib.hid ((Hc.out i hi).2.kept HB2.out); clear hb2)
      go_wp2_with (go_at_call 195; refine (spec_points ls[i].s.pts _ _ _ HPt.out (HP.out _ (List.getElem_mem hi))).mono ?_; rintro e u3 ⟨v, rfl, ho, hb3⟩; have HB3 := Lib.hid (HB2.out.trans (hb3.mono HB2.out.size)); have HO := Lib.hid (ho.mono HB2.out.size); clear ho hb3)
      go_ret2
      exact ⟨.inr ⟨ls[i].s, v, HN.out, HV.out, rfl, HO.out⟩, HB3.out⟩
  · have HN : Hid (findV (ls.map Sv.s) p m = none) := by show _ = _; unfold findV; rw [hf]; simp
    clear hf
    cases hv : storeV (ls.map Sv.s)
    all_goals
      have HV := Lib.hid hv
      clear hv
      go_wp2_with (go_at_call 28; refine (spec_store2 ls ls rfl a cap _ HW.out (HH.out.kept HB1.out) hm).mono ?_; rw [HV.out]; rintro e u2 ⟨rfl, hb2⟩; have HB2 := Lib.hid (HB1.out.trans (hb2.mono HB1.out.size)); clear hb2)
      go_ret2
      exact ⟨.inl ⟨HN.out, rfl⟩, HB2.out⟩
end Go.Proofs.YtgmdfkmmbcpikaaGreat.Sof
