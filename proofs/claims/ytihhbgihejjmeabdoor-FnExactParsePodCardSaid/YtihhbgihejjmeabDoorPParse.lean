/- ParsePod of chapter 4: the model's and the program's. -/
import Derived.Test.YtihhbgihejjmeabDoorPParseP
import Derived.Test.YtihhbgihejjmeabDoorParse
import Derived.Deep.RegionHeld3
namespace Go.Proofs.YtihhbgihejjmeabDoor.PParse
open Go.RowKit
open Go.Proofs.YtihhbgihejjmeabDoor.C1
open Go.Proofs.YtihhbgihejjmeabDoor.C2
open Go.Proofs.YtihhbgihejjmeabDoor.Smps
open Go.Proofs.YtihhbgihejjmeabDoor.Milli
open Go.Proofs.YtihhbgihejjmeabDoor.Mt
open Go.Proofs.YtihhbgihejjmeabDoor.Mp
open Go.Proofs.YtihhbgihejjmeabDoor.Line
open Go.Proofs.YtihhbgihejjmeabDoor.Split
open Go.Proofs.YtihhbgihejjmeabDoor.Read
open Go.Proofs.YtihhbgihejjmeabDoor.Pd
open Go.Proofs.YtihhbgihejjmeabDoor.PLine
open Go.Proofs.YtihhbgihejjmeabDoor.PParseP
open Go.Proofs.YtihhbgihejjmeabDoor.ParseP (parts_join)
open Go.Proofs.YtihhbgihejjmeabDoor.Parse (four_of four_read atoi_yes atoi_no)
set_option linter.unusedVariables false

def zP : Pd := ⟨⟨#[]⟩, 0, 0, false⟩
theorem zP_wf : zP.wf := ⟨by unfold maxLen; decide, by decide, by decide⟩
/-- A variable of type Pod in a block of its own. -/
structure PBox (w : World) (g : Nat) (s : Pd) : Prop where
  lt : g < w.heap.size
  c0 : w.cell? ⟨g, 0, none⟩ = some (.string s.nm)
  c1 : w.cell? ⟨g, 1, none⟩ = some (.int .i64 s.born)
  c2 : w.cell? ⟨g, 2, none⟩ = some (.int .i64 s.ph)
  c3 : w.cell? ⟨g, 3, none⟩ = some (.bool s.rdy)
  f : ∀ j, w.frozen? ⟨g, j, none⟩ = false
theorem PBox.kept {w w' : World} {g : Nat} {s : Pd} (h : PBox w g s) (hb : Below w.heap.size w w') : PBox w' g s := by
  have hc : ∀ j, w'.cell? ⟨g, j, none⟩ = w.cell? ⟨g, j, none⟩ := fun j => hb.cell (p := ⟨g, j, none⟩) h.lt
  exact ⟨Nat.lt_of_lt_of_le h.lt hb.size, by rw [hc]; exact h.c0, by rw [hc]; exact h.c1, by rw [hc]; exact h.c2, by rw [hc]; exact h.c3, fun j => by rw [hb.frozen (p := ⟨g, j, none⟩) h.lt]; exact h.f j⟩
def POut (l : List UInt8) (w w' : World) (e : Ending) : Prop := ∃ (s : Pd) (b : Bool), e = .returned (.tuple #[podV s, .bool b]) ∧ PPicks l s b ∧ s.wf ∧ Below w.heap.size w w'
theorem pout_of {l : List UInt8} {w w' : World} {e : Ending} (s : Pd) (b : Bool) (h : e = .returned (.tuple #[podV s, .bool b])) (p : PPicks l s b) (hw : s.wf) (hb : Below w.heap.size w w') : POut l w w' e := ⟨s, b, h, p, hw, hb⟩
theorem pbox_new (w : World) : PBox (w.alloc (.cells #[.string ⟨#[]⟩, .int .i64 0, .int .i64 0, .bool false] 26)) w.heap.size zP := by
  refine ⟨by simp, ?_, ?_, ?_, ?_, fun j => ?_⟩ <;> simp [zP]
theorem pbox2_new (w : World) : Below w.heap.size w ((w.alloc (.cells #[.string ⟨#[]⟩, .int .i64 0, .int .i64 0, .bool false] 26)).alloc (.cells #[.string ⟨#[]⟩, .int .i64 0, .int .i64 0, .bool false] 26)) ∧ PBox ((w.alloc (.cells #[.string ⟨#[]⟩, .int .i64 0, .int .i64 0, .bool false] 26)).alloc (.cells #[.string ⟨#[]⟩, .int .i64 0, .int .i64 0, .bool false] 26)) w.heap.size zP ∧ PBox ((w.alloc (.cells #[.string ⟨#[]⟩, .int .i64 0, .int .i64 0, .bool false] 26)).alloc (.cells #[.string ⟨#[]⟩, .int .i64 0, .int .i64 0, .bool false] 26)) (w.heap.size + 1) zP := by
  have h1 := box_below w #[.string ⟨#[]⟩, .int .i64 0, .int .i64 0, .bool false] 26
  have h2 := box_below (w.alloc (.cells #[.string ⟨#[]⟩, .int .i64 0, .int .i64 0, .bool false] 26)) #[.string ⟨#[]⟩, .int .i64 0, .int .i64 0, .bool false] 26
  have hz : (w.alloc (.cells #[.string ⟨#[]⟩, .int .i64 0, .int .i64 0, .bool false] 26)).heap.size = w.heap.size + 1 := by simp
  have h3 := pbox_new (w.alloc (.cells #[.string ⟨#[]⟩, .int .i64 0, .int .i64 0, .bool false] 26))
  rw [hz] at h3
  exact ⟨h1.trans (h2.mono h1.size), (pbox_new w).kept h2, h3⟩
theorem pbox_set {w : World} {g : Nat} {s0 : Pd} (s : Pd) (h : PBox w g s0) {B : Nat} (hB : B ≤ g) : PBox ((((w.setCell ⟨g, 0, none⟩ (.string s.nm)).setCell ⟨g, 1, none⟩ (.int .i64 s.born)).setCell ⟨g, 2, none⟩ (.int .i64 s.ph)).setCell ⟨g, 3, none⟩ (.bool s.rdy)) g s ∧ Below B w ((((w.setCell ⟨g, 0, none⟩ (.string s.nm)).setCell ⟨g, 1, none⟩ (.int .i64 s.born)).setCell ⟨g, 2, none⟩ (.int .i64 s.ph)).setCell ⟨g, 3, none⟩ (.bool s.rdy)) := by
  obtain ⟨h1, c0, c1, c2, c3, f⟩ := h
  refine ⟨⟨by simpa [World.setCell] using h1, ?_, ?_, ?_, ?_, fun j => ?_⟩, ((((Below.refl B w).setCell (p := ⟨g, 0, none⟩) hB _).setCell (p := ⟨g, 1, none⟩) hB _).setCell (p := ⟨g, 2, none⟩) hB _).setCell (p := ⟨g, 3, none⟩) hB _⟩
  · rw [World.cell?_setCell_other (h := by simp), World.cell?_setCell_other (h := by simp), World.cell?_setCell_other (h := by simp), World.cell?_setCell_same (h := c0)]
  · rw [World.cell?_setCell_other (h := by simp), World.cell?_setCell_other (h := by simp), World.cell?_setCell_same (h := by rw [World.cell?_setCell_other (h := by simp)]; exact c1)]
  · rw [World.cell?_setCell_other (h := by simp), World.cell?_setCell_same (h := by rw [World.cell?_setCell_other (h := by simp), World.cell?_setCell_other (h := by simp)]; exact c2)]
  · rw [World.cell?_setCell_same (h := by rw [World.cell?_setCell_other (h := by simp), World.cell?_setCell_other (h := by simp), World.cell?_setCell_other (h := by simp)]; exact c3)]
  · rw [World.frozen?_setCell, World.frozen?_setCell, World.frozen?_setCell, World.frozen?_setCell]; exact f j
theorem pret_box {fn : Func} (hr : fn.results = #[.cell 2 26, .tmp 3]) {W : World} {g : Nat} {s : Pd} {b : Bool} {tmps : Array Value} (h : PBox W g s) (h2 : tmps.getD 2 undef = .pointer (some ⟨g, 0, none⟩)) (h3 : tmps.getD 3 undef = .bool b) :
    (results fn tmps).run Tryd.prog W = .ok (.tuple #[podV s, .bool b]) W := by
  obtain ⟨_, c0, c1, c2, c3, _⟩ := h
  rw [results_cell_tmp hr, h2, h3]
  simp [go_sem, c0, c1, c2, c3, podV]

set_option maxHeartbeats 6400000 in
set_option maxRecDepth 20000 in
theorem spec_ppod (s : ByteArray) (hs : s.size ≤ 1048576) (w : World) :
    Calls Tryd.prog 9 #[.string s] w fun e w' => POut s.data.toList w w' e := by
  have hl : s.data.toList.length = s.size := by simp
  obtain ⟨b0, x0, x1⟩ := pbox2_new w
  have B0 := Lib.hid b0
  have X0 := Lib.hid x0
  have X1 := Lib.hid x1
  clear b0 x0 x1
  by_cases hbig : 50 < s.size
  · have HN : Hid (PNever s.data.toList) := pnever_long (by omega)
    clear hl
    go_enter Tryd.func9, Tryd.ntmps9
    go_wp2
    refine bodyPost_ret (v := .tuple #[podV zP, .bool false]) (by simp [results, Tryd.results9, go_sem, podV, zP]) rfl ?_
    exact pout_of _ _ rfl (ppicks_no HN.out) zP_wf B0.out
  · have hle : s.size ≤ 50 := by omega
    obtain ⟨ps, hps⟩ : ∃ ps, parts 32 s.data.toList = ps := ⟨_, rfl⟩
    have HPS := Lib.hid hps
    clear hl hbig hps
    by_cases h4 : ps.length = 4
    · obtain ⟨a, b, d, e, rfl⟩ := four_of h4
      clear h4
      have HSZ : Hid (a.length ≤ 50 ∧ b.length ≤ 50) := by
        have := congrArg List.length (parts_join 32 _ HPS.out)
        simp only [List.length_append, List.length_cons, Array.length_toList] at this
        have hz : s.data.size = s.size := rfl
        show _ ∧ _
        omega
      have HRD : Hid ((mk b).size ≤ 1048576) := by show _ ≤ _; rw [mk_size]; have := HSZ.out; omega
      have HME := Lib.hid (mk_list b)
      go_enter Tryd.func9, Tryd.ntmps9
      go_wp2_with (go_at_call 17; refine (spec_parts 32 32 rfl s hs _).mono ?_; rintro e1 w1 ⟨v, rfl, ho, hb⟩; rw [HPS.out] at ho; obtain ⟨g, off, cap, rfl, hg, c0, c1, c2, c3⟩ := four_read ho.reads; have B1 := Lib.hid (B0.out.trans (hb.mono B0.out.size)); have Y0 := Lib.hid (X0.out.kept hb); have Y1 := Lib.hid (X1.out.kept hb); have HG := Lib.hid hg; have C0 := Lib.hid c0; clear ho hb hg c0 c2 c3)
      go_wp2_with fail
      refine (spec_read (mk b) HRD.out _).mono ?_
      rw [HME.out]
      rintro e1 w3 ⟨x, bx, rfl, hrd, hb⟩
      have RD := Lib.hid hrd
      have B3 := Lib.hid (B1.out.trans (hb.mono B1.out.size))
      have U0 := Lib.hid (Y0.out.kept hb)
      have U1 := Lib.hid (Y1.out.kept hb)
      have E0 := Lib.hid ((hb.cell (p := ⟨g, off, none⟩) HG.out).trans C0.out)
      have HG3 := Lib.hid (Nat.lt_of_lt_of_le HG.out hb.size)
      clear hb hrd c1 B1 Y0 Y1 X0 X1 B0 C0 HG
      cases bx
      · have HN : Hid (PNever s.data.toList) := pnever_read HPS.out RD.out
        obtain ⟨_, p0, p1, p2, p3, _⟩ := U1.out
        obtain ⟨_, r0, r1, r2, r3, f⟩ := U0.out
        have f0 := f 0
        have f1 := f 1
        have f2 := f 2
        have f3 := f 3
        clear f
        go_wp2
        obtain ⟨k1, k2⟩ := pbox_set zP U0.out (Nat.le_refl _)
        refine bodyPost_ret (pret_box rfl k1 rfl rfl) rfl ?_
        exact pout_of _ _ rfl (ppicks_no HN.out) zP_wf (B3.out.trans k2)
      · have hxl : -9223372036854775808 ≤ x ∧ x ≤ 9223372036854775807 := by have := RD.out.lo; have := RD.out.hi; omega
        have HWF : Hid (∀ (f : Nat) (r : Bool), f < 3 → (⟨mk a, x, (f : Int), r⟩ : Pd).wf) := fun f r hf => by
          refine ⟨?_, hxl, ⟨by simp only; omega, by simp only; omega⟩⟩
          show (mk a).size ≤ maxLen
          have := HSZ.out
          rw [mk_size]; unfold maxLen; omega
        clear hxl
        go_wp2
        go_loopw [8] (fun i wr => ∃ f : Nat, f ≤ 3 ∧ i = .int .i64 f ∧ Hid (∀ (f' : Nat) (r : Bool), f' < f → plineV ⟨mk a, x, (f' : Int), r⟩ ≠ s.data.toList) ∧ Hid (Below w3.heap.size w3 wr)) (fun i _ => 3 - (intOf i).toNat)
        case atStart => exact ⟨0, Nat.zero_le _, rfl, fun f' r h => absurd h (by omega), Below.refl _ _⟩
        case round =>
          obtain ⟨f, hf, rfl, HT, HB⟩ := hrel
          by_cases hlt : f < 3
          · have hltI : (f : Int) < 3 := by omega
            revert wr
            intro wz HB
            intros
            go_wp2
            go_loopw [9] (fun kk wr => ∃ k : Nat, k ≤ 2 ∧ kk = .int .i64 k ∧ Hid ((1 ≤ k → plineV ⟨mk a, x, (f : Int), false⟩ ≠ s.data.toList) ∧ (2 ≤ k → plineV ⟨mk a, x, (f : Int), true⟩ ≠ s.data.toList)) ∧ Hid (Below w3.heap.size w3 wr)) (fun kk _ => 2 - (intOf kk).toNat)
            case atStart => exact ⟨0, Nat.zero_le _, rfl, ⟨fun h => absurd h (by omega), fun h => absurd h (by omega)⟩, HB.out⟩
            case round =>
              obtain ⟨k, hk, rfl, HK, HBi⟩ := hrel
              by_cases hk2 : k < 2
              · have hk2I : (k : Int) < 2 := by omega
                by_cases hk1 : k = 1
                · have hd1 : ((k : Int) == 1) = true := by rw [beq_iff_eq]; omega
                  have hd2 : (k : Int) = 1 := by omega
                  have hd3 : decide ((k : Int) = 1) = true := by simp; omega
                  obtain ⟨P, hP⟩ : ∃ P : Pd, P = ⟨mk a, x, (f : Int), true⟩ := ⟨_, rfl⟩
                  have HP := Lib.hid hP
                  have HWP : Hid (P.wf) := by rw [hP]; exact HWF.out f true hlt
                  clear hP
                  have q0 := (HBi.out.cell (p := ⟨g, off, none⟩) HG3.out).trans E0.out
                  have hgr := Nat.lt_of_lt_of_le HG3.out HBi.out.size
                  have hcall := spec_pline P HWP.out
                  rw [HP.out] at hcall
                  unfold podV at hcall
                  simp only at hcall
                  rw [← HP.out] at hcall
                  have HC := Lib.hid hcall
                  clear hcall
                  go_wp2_with fail
                  refine (HC.out _).mono ?_
                  rintro e1 w5 ⟨rfl, hb⟩
                  have ha := box_below wr #[.string (mk a), .int .i64 x, .int .i64 (f : Int), .bool true] 26
                  have hBi := HBi.out.trans (ha.mono HBi.out.size)
                  have HB5 := Lib.hid (hBi.trans (hb.mono hBi.size))
                  have hX : PBox (wr.alloc (.cells #[.string (mk a), .int .i64 x, .int .i64 (f : Int), .bool true] 26)) wr.heap.size P := by
                    rw [HP.out]
                    refine ⟨by simp, ?_, ?_, ?_, ?_, fun j => ?_⟩ <;> simp
                  have HX := Lib.hid (hX.kept hb)
                  have HU := Lib.hid (U0.out.kept HB5.out)
                  clear ha hBi hX hb q0 hgr HC
                  obtain ⟨L, hL⟩ : ∃ L, plineV P = L := ⟨_, rfl⟩
                  have HLV := Lib.hid hL
                  rw [hL]
                  clear hL
                  by_cases hln : L = s.data.toList
                  · have hcmp : ((mk L).toList == s.toList) = true := by rw [beq_iff_eq, ByteArray.toList_eq, ByteArray.toList_eq, mk_list]; exact hln
                    have HPK : Hid (PPicks s.data.toList P true) := ppicks_line HPS.out (HLV.out.trans hln)
                    clear hln
                    obtain ⟨_, t0, t1, t2, t3, _⟩ := HX.out
                    obtain ⟨_, r0, r1, r2, r3, fz⟩ := HU.out
                    have f0 := fz 0
                    have f1 := fz 1
                    have f2 := fz 2
                    have f3 := fz 3
                    clear fz
                    go_wp2
                    obtain ⟨k1, k2⟩ := pbox_set P HU.out (Nat.le_refl _)
                    refine bodyPost_ret (pret_box rfl k1 rfl rfl) rfl ?_
                    exact pout_of _ _ rfl HPK.out HWP.out (B3.out.trans ((HB5.out.mono B3.out.size).trans k2))
                  · have hcmp : ((mk L).toList == s.toList) = false := by rw [beq_eq_false_iff_ne, ByteArray.toList_eq, ByteArray.toList_eq, mk_list]; exact hln
                    have HNE : Hid (plineV ⟨mk a, x, (f : Int), true⟩ ≠ s.data.toList) := by show _ ≠ _; rw [← HP.out, HLV.out]; exact hln
                    clear hln
                    go_wp2
                    go_roundw
                    case rel => exact ⟨k + 1, by omega, by go_num, ⟨fun _ => HK.out.1 (by omega), fun _ => HNE.out⟩, HB5.out⟩
                    case measure => simp [intOf]; omega
                · have hd1 : ((k : Int) == 1) = false := by rw [beq_eq_false_iff_ne]; omega
                  have hd2 : ¬ (k : Int) = 1 := by omega
                  have hd3 : decide ((k : Int) = 1) = false := by simp; omega
                  obtain ⟨P, hP⟩ : ∃ P : Pd, P = ⟨mk a, x, (f : Int), false⟩ := ⟨_, rfl⟩
                  have HP := Lib.hid hP
                  have HWP : Hid (P.wf) := by rw [hP]; exact HWF.out f false hlt
                  clear hP
                  have q0 := (HBi.out.cell (p := ⟨g, off, none⟩) HG3.out).trans E0.out
                  have hgr := Nat.lt_of_lt_of_le HG3.out HBi.out.size
                  have hcall := spec_pline P HWP.out
                  rw [HP.out] at hcall
                  unfold podV at hcall
                  simp only at hcall
                  rw [← HP.out] at hcall
                  have HC := Lib.hid hcall
                  clear hcall
                  go_wp2_with fail
                  refine (HC.out _).mono ?_
                  rintro e1 w5 ⟨rfl, hb⟩
                  have ha := box_below wr #[.string (mk a), .int .i64 x, .int .i64 (f : Int), .bool false] 26
                  have hBi := HBi.out.trans (ha.mono HBi.out.size)
                  have HB5 := Lib.hid (hBi.trans (hb.mono hBi.size))
                  have hX : PBox (wr.alloc (.cells #[.string (mk a), .int .i64 x, .int .i64 (f : Int), .bool false] 26)) wr.heap.size P := by
                    rw [HP.out]
                    refine ⟨by simp, ?_, ?_, ?_, ?_, fun j => ?_⟩ <;> simp
                  have HX := Lib.hid (hX.kept hb)
                  have HU := Lib.hid (U0.out.kept HB5.out)
                  clear ha hBi hX hb q0 hgr HC
                  obtain ⟨L, hL⟩ : ∃ L, plineV P = L := ⟨_, rfl⟩
                  have HLV := Lib.hid hL
                  rw [hL]
                  clear hL
                  by_cases hln : L = s.data.toList
                  · have hcmp : ((mk L).toList == s.toList) = true := by rw [beq_iff_eq, ByteArray.toList_eq, ByteArray.toList_eq, mk_list]; exact hln
                    have HPK : Hid (PPicks s.data.toList P true) := ppicks_line HPS.out (HLV.out.trans hln)
                    clear hln
                    obtain ⟨_, t0, t1, t2, t3, _⟩ := HX.out
                    obtain ⟨_, r0, r1, r2, r3, fz⟩ := HU.out
                    have f0 := fz 0
                    have f1 := fz 1
                    have f2 := fz 2
                    have f3 := fz 3
                    clear fz
                    go_wp2
                    obtain ⟨k1, k2⟩ := pbox_set P HU.out (Nat.le_refl _)
                    refine bodyPost_ret (pret_box rfl k1 rfl rfl) rfl ?_
                    exact pout_of _ _ rfl HPK.out HWP.out (B3.out.trans ((HB5.out.mono B3.out.size).trans k2))
                  · have hcmp : ((mk L).toList == s.toList) = false := by rw [beq_eq_false_iff_ne, ByteArray.toList_eq, ByteArray.toList_eq, mk_list]; exact hln
                    have HNE : Hid (plineV ⟨mk a, x, (f : Int), false⟩ ≠ s.data.toList) := by show _ ≠ _; rw [← HP.out, HLV.out]; exact hln
                    clear hln
                    go_wp2
                    go_roundw
                    case rel => exact ⟨k + 1, by omega, by go_num, ⟨fun _ => HNE.out, fun h => absurd h (by omega)⟩, HB5.out⟩
                    case measure => simp [intOf]; omega
              · have hk2I : ¬ (k : Int) < 2 := by omega
                have HTN : Hid (∀ (f' : Nat) (r : Bool), f' < f + 1 → plineV ⟨mk a, x, (f' : Int), r⟩ ≠ s.data.toList) := fun f' r h => by
                  by_cases e : f' = f
                  · subst e
                    cases r
                    · exact HK.out.1 (by omega)
                    · exact HK.out.2 (by omega)
                  · exact HT.out f' r (by omega)
                go_wp2
                go_roundw
                case rel => exact ⟨f + 1, by omega, by go_num, HTN.out, HBi.out⟩
                case measure => simp [intOf]; omega
          · have hltI : ¬ (f : Int) < 3 := by omega
            have HN : Hid (PNever s.data.toList) := pnever_tried HPS.out RD.out fun f' r h => HT.out f' r (by omega)
            have HU := Lib.hid (U0.out.kept HB.out)
            obtain ⟨_, p0, p1, p2, p3, _⟩ := U1.out.kept HB.out
            obtain ⟨_, r0, r1, r2, r3, fz⟩ := HU.out
            have f0 := fz 0
            have f1 := fz 1
            have f2 := fz 2
            have f3 := fz 3
            clear fz
            go_wp2
            obtain ⟨k1, k2⟩ := pbox_set zP HU.out (Nat.le_refl _)
            refine bodyPost_ret (pret_box rfl k1 rfl rfl) rfl ?_
            exact pout_of _ _ rfl (ppicks_no HN.out) zP_wf (B3.out.trans ((HB.out.mono B3.out.size).trans k2))
    · have HN : Hid (PNever s.data.toList) := pnever_four (by rw [HPS.out]; exact h4)
      have hd : ((ps.length : Int) == 4) = false := by rw [beq_eq_false_iff_ne]; omega
      have hd2 : ¬ (ps.length : Int) = 4 := by omega
      go_enter Tryd.func9, Tryd.ntmps9
      go_wp2_with (go_at_call 17; refine (spec_parts 32 32 rfl s hs _).mono ?_; rintro e1 w1 ⟨v, rfl, ho, hb⟩; rw [HPS.out] at ho; obtain ⟨ad, cap, rfl, _⟩ := ho.reads; have B1 := Lib.hid (B0.out.trans (hb.mono B0.out.size)); have Y0 := Lib.hid (X0.out.kept hb); obtain ⟨_, q0, q1, q2, q3, _⟩ := X1.out.kept hb; obtain ⟨_, r0, r1, r2, r3, f⟩ := X0.out.kept hb; have f0 := f 0; have f1 := f 1; have f2 := f 2; have f3 := f 3; clear ho hb f h4)
      obtain ⟨k1, k2⟩ := pbox_set zP Y0.out (Nat.le_refl _)
      refine bodyPost_ret (pret_box rfl k1 rfl rfl) rfl ?_
      exact pout_of _ _ rfl (ppicks_no HN.out) zP_wf (B1.out.trans k2)

theorem phW_of {l : List UInt8} (z : Nat) (hz : z < 3) (hn : ∀ j, j < z → phL j ≠ l) (h : phL z = l) : phW l = z := by rw [← h]; exact ph_word z hz
theorem phW_none {l : List UInt8} (hn : ∀ j, j < 3 → phL j ≠ l) : phW l = -1 := by
  unfold phW
  rw [if_neg (hn 0 (by omega)), if_neg (hn 1 (by omega)), if_neg (hn 2 (by omega))]
set_option maxHeartbeats 3200000 in
set_option maxRecDepth 20000 in
theorem phase_of (d : ByteArray) (w : World) (hw : Words w) :
    Calls Tryd.prog 21 #[.string d] w fun e w' => e = .returned (.int .i64 (phW d.data.toList)) ∧ w' = w := by
  have c0 := hw.cell 0 (by omega)
  have c1 := hw.cell 1 (by omega)
  have c2 := hw.cell 2 (by omega)
  clear hw
  obtain ⟨P0, h0⟩ : ∃ P, mk (phL 0) = P := ⟨_, rfl⟩
  obtain ⟨P1, h1⟩ : ∃ P, mk (phL 1) = P := ⟨_, rfl⟩
  obtain ⟨P2, h2⟩ : ∃ P, mk (phL 2) = P := ⟨_, rfl⟩
  rw [h0] at c0
  rw [h1] at c1
  rw [h2] at c2
  have H0 : Hid (phL 0 = P0.data.toList) := Lib.hid (by rw [← h0, mk_list])
  have H1 : Hid (phL 1 = P1.data.toList) := Lib.hid (by rw [← h1, mk_list])
  have H2 : Hid (phL 2 = P2.data.toList) := Lib.hid (by rw [← h2, mk_list])
  clear h0 h1 h2
  have i0 : ∀ w, (Instr.index 36 (.agg #[.string P0, .string P1, .string P2]) (.int .i64 0)).run Tryd.prog w = .ok (.string P0) w := fun _ => by kernel_rfl
  have i1 : ∀ w, (Instr.index 36 (.agg #[.string P0, .string P1, .string P2]) (.int .i64 1)).run Tryd.prog w = .ok (.string P1) w := fun _ => by kernel_rfl
  have i2 : ∀ w, (Instr.index 36 (.agg #[.string P0, .string P1, .string P2]) (.int .i64 2)).run Tryd.prog w = .ok (.string P2) w := fun _ => by kernel_rfl
  go_enter Tryd.func21, Tryd.ntmps21
  go_wp2
  go_loopw [6] (fun v wr => ∃ z : Int, (z = 0 ∨ z = 1 ∨ z = 2 ∨ z = 3) ∧ v = .int .i64 z ∧ Hid (∀ j : Nat, (j : Int) < z → phL j ≠ d.data.toList) ∧ wr = w) (fun v _ => 3 - (intOf v).toNat)
  case atStart => exact ⟨0, .inl rfl, rfl, fun j h => absurd h (by omega), rfl⟩
  case round =>
    obtain ⟨z, hz, rfl, HT, rfl⟩ := hrel
    rcases hz with rfl | rfl | rfl | rfl
    · by_cases hm : P0.data.toList = d.data.toList
      · have hcmp : (P0.toList == d.toList) = true := by rw [beq_iff_eq, ByteArray.toList_eq, ByteArray.toList_eq]; exact hm
        have HR : Hid (phW d.data.toList = 0) := phW_of 0 (by omega) (fun j h => HT.out j (by omega)) (H0.out.trans hm)
        clear hm
        go_wp2
        go_ret
        exact ⟨ret1I HR.out.symm, rfl⟩
      · have hcmp : (P0.toList == d.toList) = false := by rw [beq_eq_false_iff_ne, ByteArray.toList_eq, ByteArray.toList_eq]; exact hm
        have HN : Hid (∀ j : Nat, (j : Int) < 1 → phL j ≠ d.data.toList) := fun j h => by
          obtain rfl : j = 0 := by omega
          rw [H0.out]; exact hm
        clear hm
        go_wp2
        go_roundw
        case rel => exact ⟨1, by simp, rfl, HN.out, trivial⟩
        case measure => simp [intOf]
    · by_cases hm : P1.data.toList = d.data.toList
      · have hcmp : (P1.toList == d.toList) = true := by rw [beq_iff_eq, ByteArray.toList_eq, ByteArray.toList_eq]; exact hm
        have HR : Hid (phW d.data.toList = 1) := phW_of 1 (by omega) (fun j h => HT.out j (by omega)) (H1.out.trans hm)
        clear hm
        go_wp2
        go_ret
        exact ⟨ret1I HR.out.symm, rfl⟩
      · have hcmp : (P1.toList == d.toList) = false := by rw [beq_eq_false_iff_ne, ByteArray.toList_eq, ByteArray.toList_eq]; exact hm
        have HN : Hid (∀ j : Nat, (j : Int) < 2 → phL j ≠ d.data.toList) := fun j h => by
          by_cases e : j = 1
          · subst e; rw [H1.out]; exact hm
          · exact HT.out j (by omega)
        clear hm
        go_wp2
        go_roundw
        case rel => exact ⟨2, by simp, rfl, HN.out, trivial⟩
        case measure => simp [intOf]
    · by_cases hm : P2.data.toList = d.data.toList
      · have hcmp : (P2.toList == d.toList) = true := by rw [beq_iff_eq, ByteArray.toList_eq, ByteArray.toList_eq]; exact hm
        have HR : Hid (phW d.data.toList = 2) := phW_of 2 (by omega) (fun j h => HT.out j (by omega)) (H2.out.trans hm)
        clear hm
        go_wp2
        go_ret
        exact ⟨ret1I HR.out.symm, rfl⟩
      · have hcmp : (P2.toList == d.toList) = false := by rw [beq_eq_false_iff_ne, ByteArray.toList_eq, ByteArray.toList_eq]; exact hm
        have HN : Hid (∀ j : Nat, (j : Int) < 3 → phL j ≠ d.data.toList) := fun j h => by
          by_cases e : j = 2
          · subst e; rw [H2.out]; exact hm
          · exact HT.out j (by omega)
        clear hm
        go_wp2
        go_roundw
        case rel => exact ⟨3, by simp, rfl, HN.out, trivial⟩
        case measure => simp [intOf]
    · have HR : Hid (phW d.data.toList = -1) := phW_none fun j h => HT.out j (by omega)
      go_wp2
      go_ret
      exact ⟨ret1I HR.out.symm, rfl⟩

set_option maxHeartbeats 6400000 in
set_option maxRecDepth 20000 in
theorem impl_ppod (s : ByteArray) (hs : s.size ≤ 1048576) (w : World) (he : Env2 w) (hw : Words w) :
    Calls Tryd.prog 10 #[.string s] w fun e w' => POut s.data.toList w w' e := by
  have B0 : Hid (Below w.heap.size w (w.alloc (.cells #[.string ⟨#[]⟩, .int .i64 0, .int .i64 0, .bool false] 26))) := Lib.hid (box_below _ _ _)
  have X0 := Lib.hid (pbox_new w)
  have HE := Lib.hid he
  have HW := Lib.hid hw
  clear he hw
  obtain ⟨ps, hps⟩ : ∃ ps, parts 32 s.data.toList = ps := ⟨_, rfl⟩
  have HPS := Lib.hid hps
  clear hps
  by_cases h4 : ps.length = 4
  · obtain ⟨a, b, d, e, rfl⟩ := four_of h4
    clear h4
    have HSZ : Hid (a.length ≤ 1048576 ∧ b.length ≤ 1048576) := by
      have := congrArg List.length (parts_join 32 _ HPS.out)
      simp only [List.length_append, List.length_cons, Array.length_toList] at this
      have hz : s.data.size = s.size := rfl
      show _ ∧ _
      omega
    have HSB : Hid ((mk b).size ≤ 1048576) := by show _ ≤ _; rw [mk_size]; exact HSZ.out.2
    go_enter Tryd.func10, Tryd.ntmps10
    go_wp2_with (go_at_call 19; refine (cut_at 32 (by decide) 32 rfl s hs _).mono ?_; rintro e1 w1 ⟨v, rfl, ho, hb⟩; rw [HPS.out] at ho; obtain ⟨g, off, cap, rfl, hg, c0, c1, c2, c3⟩ := four_read ho.reads; have B1 := Lib.hid (B0.out.trans (hb.mono B0.out.size)); have Y0 := Lib.hid (X0.out.kept hb); have HG := Lib.hid hg; have C0 := Lib.hid c0; have C2 := Lib.hid c2; have C3 := Lib.hid c3; clear ho hb hg c0 c2 c3)
    by_cases hat : ∃ y, Lib.atoiAll b = .ok y
    · obtain ⟨y, hy⟩ := hat
      have HAT := Lib.hid hy
      clear hy
      go_wp2_with fail
      refine (atoi_yes b HSB.out y HAT.out _).mono ?_
      rintro e1 w3 ⟨rfl, hb⟩
      have B3 := Lib.hid (B1.out.trans (hb.mono B1.out.size))
      have U0 := Lib.hid (Y0.out.kept hb)
      have E0 := Lib.hid ((hb.cell (p := ⟨g, off, none⟩) HG.out).trans C0.out)
      have E2 := Lib.hid ((hb.cell (p := ⟨g, off + 2, none⟩) HG.out).trans C2.out)
      have E3 := Lib.hid ((hb.cell (p := ⟨g, off + 3, none⟩) HG.out).trans C3.out)
      have HG3 := Lib.hid (Nat.lt_of_lt_of_le HG.out hb.size)
      clear hb c1 B1 Y0 X0 B0 C0 C2 C3 HG
      have hyr := ParseP.atoi_range HAT.out
      obtain ⟨F, hF⟩ : ∃ F, phW d = F := ⟨_, rfl⟩
      obtain ⟨R, hR⟩ : ∃ R, rdW e = R := ⟨_, rfl⟩
      have hcmp : ((mk e).toList == [114, 101, 97, 100, 121]) = R := by
        rw [← hR, ByteArray.toList_eq, mk_list]
        unfold rdW
        by_cases h : e = rdL true
        · rw [decide_eq_true h, beq_iff_eq]; exact h
        · rw [decide_eq_false h, beq_eq_false_iff_ne]; exact h
      have HC : Hid (∀ W, Words W → Calls Tryd.prog 21 #[.string (mk d)] W fun e w' => e = .returned (.int .i64 F) ∧ w' = W) := fun W h => by
        have := phase_of (mk d) W h
        rw [mk_list, hF] at this
        exact this
      have hFr : -1 ≤ F ∧ F ≤ 2 := by
        rw [← hF]; unfold phW
        split
        · omega
        · split
          · omega
          · split <;> omega
      have HWD : Hid (Words w3.drew) := HW.out.kept B3.out.drew
      have BD : Hid (Below w3.heap.size w3 w3.drew) := Lib.hid (Below.refl _ _).drew
      have G0 : Hid (w3.drew.cell? ⟨g, off, none⟩ = some (.string (mk a)) ∧ w3.drew.cell? ⟨g, off + 2, none⟩ = some (.string (mk d)) ∧ w3.drew.cell? ⟨g, off + 3, none⟩ = some (.string (mk e))) := ⟨(BD.out.cell (p := ⟨g, off, none⟩) HG3.out).trans E0.out, (BD.out.cell (p := ⟨g, off + 2, none⟩) HG3.out).trans E2.out, (BD.out.cell (p := ⟨g, off + 3, none⟩) HG3.out).trans E3.out⟩
      have GA : Hid (∀ o, (w3.drew.alloc o).cell? ⟨g, off, none⟩ = some (.string (mk a)) ∧ (w3.drew.alloc o).cell? ⟨g, off + 2, none⟩ = some (.string (mk d)) ∧ (w3.drew.alloc o).cell? ⟨g, off + 3, none⟩ = some (.string (mk e))) := fun o => by
        have hb : Below w3.drew.heap.size w3.drew (w3.drew.alloc o) := (Below.refl _ _).alloc (Nat.le_refl _) _
        have hg : g < w3.drew.heap.size := HG3.out
        exact ⟨(hb.cell (p := ⟨g, off, none⟩) hg).trans G0.out.1, (hb.cell (p := ⟨g, off + 2, none⟩) hg).trans G0.out.2.1, (hb.cell (p := ⟨g, off + 3, none⟩) hg).trans G0.out.2.2⟩
      go_wp2_with fail
      go_region_held3 (fun w' => w'.cell? ⟨g, off, none⟩ = some (.string (mk a)) ∧ w'.cell? ⟨g, off + 2, none⟩ = some (.string (mk d)) ∧ w'.cell? ⟨g, off + 3, none⟩ = some (.string (mk e)))
        (first | exact G0.out | exact GA.out _)
        (first
          | (go_at_call 21; refine (HC.out _ (by first | exact HWD.out | exact HWD.out.kept (box_below _ _ _))).mono ?_; rintro e1 w4 ⟨rfl, rfl⟩))
      all_goals
        clear hcmp
        have hA : Below w3.heap.size w3 ((w3.alloc (.cells #[.string (mk a), .int .i64 y, .int .i64 F, .bool R] 26)).drew) := ((Below.refl _ _).alloc (Nat.le_refl _) _).drew
        obtain ⟨P, hP⟩ : ∃ P : Pd, P = ⟨mk a, y, F, R⟩ := ⟨_, rfl⟩
        have HP := Lib.hid hP
        have HWP : Hid (P.wf) := by
          rw [hP]
          refine ⟨?_, hyr, ⟨by simp only; omega, by simp only; omega⟩⟩
          show (mk a).size ≤ maxLen
          have := HSZ.out
          rw [mk_size]; unfold maxLen; omega
        clear hP
        have hX : PBox ((w3.alloc (.cells #[.string (mk a), .int .i64 y, .int .i64 F, .bool R] 26)).drew) w3.heap.size P := by
          rw [HP.out]
          refine ⟨by simp, ?_, ?_, ?_, ?_, fun j => ?_⟩ <;> simp
        obtain ⟨G, hG⟩ : ∃ G, w3.heap.size = G := ⟨_, rfl⟩
        obtain ⟨W, hW⟩ : ∃ W, (w3.alloc (.cells #[.string (mk a), .int .i64 y, .int .i64 F, .bool R] 26)).drew = W := ⟨_, rfl⟩
        have B4 := Lib.hid (B3.out.trans (hA.mono B3.out.size))
        have Z0 := Lib.hid (U0.out.kept hA)
        rw [hG] at hX
        rw [hW] at B4 Z0 hX
        rw [hG, hW]
        have ZX := Lib.hid hX
        have HPL : Hid (plineV P ≠ s.data.toList → PNever s.data.toList) := fun h => pnever_line HPS.out HAT.out (by rw [HP.out] at h; rw [hF, hR]; exact h)
        have hcall := fun W h1 h2 => impl_pline P HWP.out W h1 h2
        rw [HP.out] at hcall
        unfold podV at hcall
        simp only at hcall
        rw [← HP.out] at hcall
        have HCL := Lib.hid hcall
        clear hcall hA hX hG hW hF hR HC HWD BD G0 GA E0 E2 E3 HG3 U0 hyr hFr
        obtain ⟨L, hL⟩ : ∃ L, plineV P = L := ⟨_, rfl⟩
        have HLV := Lib.hid hL
        clear hL
        obtain ⟨_, t0, t1, t2, t3, _⟩ := ZX.out
        rw [HP.out] at t0 t1 t2 t3
        simp only at t0 t1 t2 t3
        go_wp2_with fail
        refine (HCL.out _ (HE.out.kept B4.out).env (HW.out.kept B4.out)).mono ?_
        rw [HLV.out]
        rintro e1 w5 ⟨rfl, hb⟩
        have B5 := Lib.hid (B4.out.trans (hb.mono B4.out.size))
        have K0 := Lib.hid (Z0.out.kept hb)
        have KX := Lib.hid (ZX.out.kept hb)
        clear t0 t1 t2 t3 hb
        obtain ⟨_, t0, t1, t2, t3, _⟩ := KX.out
        obtain ⟨_, r0, r1, r2, r3, fz⟩ := K0.out
        have f0 := fz 0
        have f1 := fz 1
        have f2 := fz 2
        have f3 := fz 3
        clear fz
        by_cases hln : L = s.data.toList
        · have hcmp : ((mk L).toList == s.toList) = true := by rw [beq_iff_eq, ByteArray.toList_eq, ByteArray.toList_eq, mk_list]; exact hln
          have HPK : Hid (PPicks s.data.toList P true) := ppicks_line HPS.out (HLV.out.trans hln)
          clear hln
          go_wp2
          obtain ⟨k1, k2⟩ := pbox_set P K0.out (Nat.le_refl _)
          refine bodyPost_ret (pret_box rfl k1 rfl rfl) rfl ?_
          exact pout_of _ _ rfl HPK.out HWP.out (B5.out.trans k2)
        · have hcmp : ((mk L).toList == s.toList) = false := by rw [beq_eq_false_iff_ne, ByteArray.toList_eq, ByteArray.toList_eq, mk_list]; exact hln
          have HN : Hid (PNever s.data.toList) := HPL.out (by rw [HLV.out]; exact hln)
          clear hln
          go_wp2
          obtain ⟨k1, k2⟩ := pbox_set zP K0.out (Nat.le_refl _)
          refine bodyPost_ret (pret_box rfl k1 rfl rfl) rfl ?_
          exact pout_of _ _ rfl (ppicks_no HN.out) zP_wf (B5.out.trans k2)
    · have HNA : Hid (∀ y, Lib.atoiAll b ≠ .ok y) := fun y hy => hat ⟨y, hy⟩
      have HN : Hid (PNever s.data.toList) := pnever_atoi HPS.out HNA.out
      clear hat
      go_wp2_with fail
      refine (atoi_no b HSB.out HNA.out _ (HE.out.kept B1.out)).mono ?_
      rintro e1 w3 ⟨y, N, rfl, hb⟩
      have B3 := Lib.hid (B1.out.trans (hb.mono B1.out.size))
      have U0 := Lib.hid (Y0.out.kept hb)
      clear hb c1
      obtain ⟨_, r0, r1, r2, r3, fz⟩ := U0.out
      have f0 := fz 0
      have f1 := fz 1
      have f2 := fz 2
      have f3 := fz 3
      clear fz
      go_wp2
      obtain ⟨k1, k2⟩ := pbox_set zP U0.out (Nat.le_refl _)
      refine bodyPost_ret (pret_box rfl k1 rfl rfl) rfl ?_
      exact pout_of _ _ rfl (ppicks_no HN.out) zP_wf (B3.out.trans k2)
  · have HN : Hid (PNever s.data.toList) := pnever_four (by rw [HPS.out]; exact h4)
    have hd : ((ps.length : Int) == 4) = false := by rw [beq_eq_false_iff_ne]; omega
    have hd2 : ¬ (ps.length : Int) = 4 := by omega
    go_enter Tryd.func10, Tryd.ntmps10
    go_wp2_with (go_at_call 19; refine (cut_at 32 (by decide) 32 rfl s hs _).mono ?_; rintro e1 w1 ⟨v, rfl, ho, hb⟩; rw [HPS.out] at ho; obtain ⟨ad, cap, rfl, _⟩ := ho.reads; have B1 := Lib.hid (B0.out.trans (hb.mono B0.out.size)); have Y0 := Lib.hid (X0.out.kept hb); obtain ⟨_, r0, r1, r2, r3, f⟩ := X0.out.kept hb; have f0 := f 0; have f1 := f 1; have f2 := f 2; have f3 := f 3; clear ho hb f h4)
    obtain ⟨k1, k2⟩ := pbox_set zP Y0.out (Nat.le_refl _)
    refine bodyPost_ret (pret_box rfl k1 rfl rfl) rfl ?_
    exact pout_of _ _ rfl (ppicks_no HN.out) zP_wf (B1.out.trans k2)
end Go.Proofs.YtihhbgihejjmeabDoor.PParse
