/- spec.KeepPods. -/
import Derived.Test.YtgbkmnhdgaeejaaFgtL
namespace Go.Proofs.Ytgbkmnhdgaeejaa.KeepS
open Go.RowKit Go.Sort Go.BigFrame
open Go.Proofs.Ytgbkmnhdgaeejaa.C1
open Go.Proofs.Ytgbkmnhdgaeejaa.C2
open Go.Proofs.Ytgbkmnhdgaeejaa.Smps
open Go.Proofs.Ytgbkmnhdgaeejaa.Mem
open Go.Proofs.Ytgbkmnhdgaeejaa.Ser
open Go.Proofs.Ytgbkmnhdgaeejaa.Ser2
open Go.Proofs.Ytgbkmnhdgaeejaa.Sto
open Go.Proofs.Ytgbkmnhdgaeejaa.StoL
open Go.Proofs.Ytgbkmnhdgaeejaa.MarkS
open Go.Proofs.Ytgbkmnhdgaeejaa.CopyS
open Go.Proofs.Ytgbkmnhdgaeejaa.FgtI
open Go.Proofs.Ytgbkmnhdgaeejaa.FgtL
set_option linter.unusedVariables false

/-- A list of strings as it lies. -/
def Txts (w : World) (a : Option Addr) (qs : List ByteArray) : Prop := qs = [] ∨ ∃ b off, a = some ⟨b, off, none⟩ ∧ b < w.heap.size ∧ ∀ (i : Nat) (h : i < qs.length), w.cell? ⟨b, off + i, none⟩ = some (.string qs[i])
theorem Txts.kept {w w' : World} {a : Option Addr} {qs : List ByteArray} (h : Txts w a qs) (hb : Below w.heap.size w w') : Txts w' a qs := by
  rcases h with h | ⟨b, off, ha, hw, h⟩
  · exact .inl h
  · exact .inr ⟨b, off, ha, Nat.lt_of_lt_of_le hw hb.size, fun i hi => (hb.cell (p := ⟨b, off + i, none⟩) hw).trans (h i hi)⟩
theorem Txts.cells {w : World} {a : Option Addr} {qs : List ByteArray} (h : Txts w a qs) : ∃ b off, (0 < qs.length → a = some ⟨b, off, none⟩) ∧ (0 < qs.length → b < w.heap.size) ∧ ∀ (i : Nat) (h : i < qs.length), w.cell? ⟨b, off + i, none⟩ = some (.string qs[i]) := by
  rcases h with h | ⟨b, off, ha, hw, h⟩
  · subst h; exact ⟨0, 0, fun h => absurd h (by simp), fun h => absurd h (by simp), fun i h => absurd h (by simp)⟩
  · exact ⟨b, off, fun _ => ha, fun _ => hw, h⟩
def hasPod (qs : List ByteArray) (p : ByteArray) : Bool := qs.any fun q => (q.toList == p.toList)
def keepV (qs : List ByteArray) (ss : List Ser) : List Ser := ss.filter fun s => hasPod qs s.pod
def keepB (qs : List ByteArray) (ss : List Ser) : Bool := storeV ss && decide (qs.length ≤ 300)
def keepA (qs : List ByteArray) (ss : List Ser) : List Ser := if keepB qs ss then keepV qs ss else ss
def KeepP (qs : List ByteArray) (ss : List Ser) (B : Nat) (w' : World) (e : Ending) : Prop :=
  ∃ v ms, Has w' B v ms ∧ e = .returned (.tuple #[v, .bool (keepB qs ss)]) ∧ ms.map Sv.s = keepA qs ss
theorem hasPod_snoc (qs : List ByteArray) (q p : ByteArray) : hasPod (qs ++ [q]) p = (hasPod qs p || (q.toList == p.toList)) := by
  unfold hasPod; rw [List.any_append]; simp
theorem keep_snoc_yes (qs : List ByteArray) (ss : List Ser) (s : Ser) (h : hasPod qs s.pod = true) : keepV qs (ss ++ [s]) = keepV qs ss ++ [s] := by
  unfold keepV; rw [List.filter_append]; simp [h]
theorem keep_snoc_no (qs : List ByteArray) (ss : List Ser) (s : Ser) (h : hasPod qs s.pod = false) : keepV qs (ss ++ [s]) = keepV qs ss := by
  unfold keepV; rw [List.filter_append]; simp [h]
theorem has_sub {w3 wr : World} {B g : Nat} {v : Value} {ms ns : List Sv} (hg : Ser2.Good w3 B g ms) (hb : Below w3.heap.size w3 wr) (hs : ns.Sublist ms) (hB : B ≤ w3.heap.size) (h0 : 0 < w3.heap.size) (h : OwnR wr w3.heap.size v ns) : Has wr B v ns := by
  have hm := OwnR_mono h hB
  have h2 := h.2
  rcases h2 with ⟨hv, hn⟩ | ⟨gg, cap, cur, hv, hgg, hh, r⟩
  · obtain rfl := List.length_eq_zero_iff.1 hn
    subst hv
    exact ⟨hm, 0, Good.nil _ _ _, Nat.lt_of_lt_of_le h0 hb.size, .inr rfl⟩
  · subst hv
    refine ⟨hm, gg, ⟨fun l hl => (hg.own l (hs.mem hl)).kept hb, fun l hl => ?_, hg.apart.sublist hs⟩, (Array.getElem?_eq_some_iff.1 hh).1, .inl rfl⟩
    intro b o s e
    have := hg.own l (hs.mem hl)
    rw [e] at this
    have := this.lt.2
    omega
theorem cell_lt {w : World} {a : Addr} {v : Value} (h : w.cell? a = some v) : a.block < w.heap.size := by
  unfold World.cell? at h
  rcases Nat.lt_or_ge a.block w.heap.size with hlt | hge
  · exact hlt
  · rw [Array.getElem?_eq_none hge] at h; simp at h
set_option maxHeartbeats 4000000 in
set_option maxRecDepth 20000 in
theorem spec_keep (ls : List Sv) (a : Option Addr) (cap : Nat) (qs : List ByteArray) (aq : Option Addr) (capq : Nat) (w : World) (h : Srs w a ls) (hq : Txts w aq qs) (hm : ls.length ≤ 1048576) (hqm : qs.length ≤ 1048576) (hwf : ∀ l ∈ ls, l.s.wf) (hpl : ∀ l ∈ ls, l.s.pts.length ≤ 1048576) :
    Calls Try.prog 45 #[.slice a ls.length cap, .slice aq qs.length capq] w fun e w' => KeepP qs (ls.map Sv.s) w.heap.size w' e ∧ Below w.heap.size w w' := by
  have HSR := Lib.hid h
  have HW := Lib.hid hwf
  have HPL := Lib.hid hpl
  have mixed : Try.prog.follows .mixedOrders = true := by kernel_rfl
  obtain ⟨qb, qo, qa, qbw, qcell⟩ := hq.cells
  have HQA := Lib.hid qa
  have HQC := Lib.hid (fun (j : Nat) (hj : j < qs.length) (W : World) (hW : Below w.heap.size w W) => (hW.cell (p := ⟨qb, qo + j, none⟩) (qbw (by omega))).trans (qcell j hj))
  clear h hwf hpl hq qa qbw qcell
  go_enter Try.func45, Try.ntmps45
  go_wp2_with fail
  refine (spec_copy ls a cap w HSR.out hm HPL.out).mono ?_
  rintro e w1 ⟨g, cap', ms, rfl, hms, ho1, hg1, hb1⟩
  have hml := map_len hms
  have HMS := Lib.hid hms
  have HB1 := Lib.hid hb1
  have HG1 := Lib.hid hg1
  have HO1 := Lib.hid ho1
  clear hms hb1 hg1 ho1
  have hno : keepB qs (ls.map Sv.s) = false → KeepP qs (ls.map Sv.s) w.heap.size w1 (.returned (.tuple #[.slice (some ⟨g, 0, none⟩) ls.length cap', .bool false])) := fun hk => ⟨_, ms, Has.of HO1.out HG1.out, by rw [hk], by unfold keepA; rw [hk]; exact HMS.out⟩
  have HNO := Lib.hid hno
  clear hno
  go_wp2_with fail
  cases hv : storeV (ls.map Sv.s)
  · have HV := Lib.hid hv
    clear hv
    refine (spec_store2 ls ls rfl _ cap w1 HW.out (HSR.out.kept HB1.out) hm).mono ?_
    rw [HV.out]
    rintro e w2 ⟨rfl, hb2⟩
    have HB2 := Lib.hid (HB1.out.trans (hb2.mono HB1.out.size))
    have HH := Lib.hid ((Has.of HO1.out HG1.out).kept hb2)
    clear hb2
    have HK : Hid (keepB qs (ls.map Sv.s) = false) := by show _ = _; unfold keepB; rw [HV.out]; rfl
    go_wp2
    go_ret2
    exact ⟨⟨_, ms, HH.out, by rw [HK.out]; rfl, by unfold keepA; rw [HK.out]; exact HMS.out⟩, HB2.out⟩
  · have HV := Lib.hid hv
    clear hv
    refine (spec_store2 ls ls rfl _ cap w1 HW.out (HSR.out.kept HB1.out) hm).mono ?_
    rw [HV.out]
    rintro e w2 ⟨rfl, hb2⟩
    have HB2 := Lib.hid (HB1.out.trans (hb2.mono HB1.out.size))
    have HO2 := Lib.hid (HO1.out.kept hb2)
    have HG2 := Lib.hid (HG1.out.kept hb2)
    have hS2 := Nat.le_trans HB1.out.size hb2.size
    clear hb2
    by_cases hbig : 300 < qs.length
    · have HK : Hid (keepB qs (ls.map Sv.s) = false) := by show _ = _; unfold keepB; rw [HV.out, Bool.true_and]; exact decide_eq_false (by omega)
      go_wp2
      go_ret2
      exact ⟨⟨_, ms, Has.of HO2.out HG2.out, by rw [HK.out]; rfl, by unfold keepA; rw [HK.out]; exact HMS.out⟩, HB2.out⟩
    · have HK : Hid (keepB qs (ls.map Sv.s) = true) := by show _ = _; unfold keepB; rw [HV.out, Bool.true_and]; exact decide_eq_true (by omega)
      have HNR := Lib.hid (new_rowR w2)
      have HNB := Lib.hid (box_below w2 #[] 79)
      have hg2 := HO2.out.lt.2
      go_wp2
      go_loopw [7, 8] (fun v i wr => ∃ (k : Nat) (ns : List Sv), k ≤ ls.length ∧ i = .int .i64 k ∧ Hid (ns.map Sv.s = keepV qs ((ms.take k).map Sv.s)) ∧ Hid (ns.Sublist (ms.take k)) ∧ ns.length ≤ k ∧ Hid (OwnR wr w2.heap.size v ns) ∧ Hid (Below w2.heap.size w2 wr)) (fun _ i _ => ls.length - (intOf i).toNat)
      case atStart => exact ⟨0, [], Nat.zero_le _, rfl, rfl, List.nil_sublist _, Nat.le_refl _, HNR.out, HNB.out⟩
      case round =>
        obtain ⟨k, ns, hk, rfl, HM, HS, hnl, HO, HB⟩ := hrel
        obtain ⟨wz, hz⟩ : ∃ wz : World, wz = wr := ⟨_, rfl⟩
        subst hz
        by_cases hlt : k < ls.length
        · have hlm : k < ms.length := by omega
          obtain ⟨l, hl⟩ : ∃ l, ms[k] = l := ⟨_, rfl⟩
          have HT : Hid (ms.take (k + 1) = ms.take k ++ [l]) := by show _ = _; rw [List.take_succ_eq_append_getElem hlm, hl]
          have HKS : Hid (∀ W, Below w2.heap.size w2 W → W.cell? ⟨g, k * 3, none⟩ = some (.string l.s.pod) ∧ W.cell? ⟨g, k * 3 + 1, none⟩ = some (.string l.s.met) ∧ W.cell? ⟨g, k * 3 + 2, none⟩ = some (.slice l.a l.s.pts.length l.cap)) := fun W hW => by
            have h := (HO2.out.kept hW).at3 k hlm
            rw [hl] at h
            exact h
          clear hl
          go_wp2
          go_loopw [9, 10] (fun v i wr => ∃ (j : Nat), j ≤ qs.length ∧ i = .int .i64 j ∧ v = .bool (hasPod (qs.take j) l.s.pod) ∧ Hid (Below wz.heap.size wz wr)) (fun _ i _ => qs.length - (intOf i).toNat)
          case atStart => exact ⟨0, Nat.zero_le _, rfl, rfl, Below.refl _ _⟩
          case round =>
            obtain ⟨j, hj, rfl, rfl, HBI⟩ := hrel
            have hwz := HB.out.trans (HBI.out.mono HB.out.size)
            obtain ⟨q0, q1, q2⟩ := HKS.out wr hwz
            by_cases hjt : j < qs.length
            · obtain rfl := HQA.out (by omega)
              have r0 := HQC.out j hjt wr (HB2.out.trans (hwz.mono HB2.out.size))
              obtain ⟨q, hq⟩ : ∃ q, qs[j] = q := ⟨_, rfl⟩
              have HN : Hid (hasPod (qs.take (j + 1)) l.s.pod = (hasPod (qs.take j) l.s.pod || (q.toList == l.s.pod.toList))) := by show _ = _; rw [List.take_succ_eq_append_getElem hjt, hasPod_snoc, hq]
              rw [hq] at r0
              clear hq
              have L0 : ∀ p : Later wr, p.u.cell? ⟨g, k * 3, none⟩ = some (.string l.s.pod) := fun p => (HKS.out p.u (hwz.trans (p.h.mono hwz.size))).1
              have L1 : ∀ p : Later wr, p.u.cell? ⟨qb, qo + j, none⟩ = some (.string q) := fun p => (p.h.cell (p := ⟨qb, qo + j, none⟩) (cell_lt r0)).trans r0
              clear r0 q0 q1 q2
              have HWZ := Lib.hid hwz
              clear hwz
              cases hb0 : hasPod (qs.take j) l.s.pod
              · rw [hb0] at HN
                have HN2 := HN.out
                rw [Bool.false_or] at HN2
                have HN3 := Lib.hid HN2
                clear HN HN2 hb0
                cases e1 : (q.toList == l.s.pod.toList)
                all_goals
                  rw [e1] at HN3
                  go_wp2_with fail
                  refine region_later mixed (by kernel_rfl) ?_
                  repeat (go_big_quiet_step (fail))
                  refine wpQuiet_nil ?_
                  intro w5 hw'
                  obtain ⟨⟨_, hw5⟩, rfl⟩ := hw'
                  have HBJ := Lib.hid (HBI.out.trans (hw5.mono HBI.out.size))
                  clear L0 L1 hw5 e1
                  go_wp2
                  go_roundw
                  case rel => exact ⟨j + 1, by omega, by go_num, by rw [HN3.out], HBJ⟩
                  case measure => simp [intOf]; omega
              · rw [hb0] at HN
                have HN2 := HN.out
                rw [Bool.true_or] at HN2
                have HN3 := Lib.hid HN2
                clear HN HN2 hb0
                go_wp2_with fail
                refine region_later mixed (by kernel_rfl) ?_
                repeat (go_big_quiet_step (fail))
                refine wpQuiet_nil ?_
                intro w5 hw'
                obtain ⟨⟨_, hw5⟩, rfl⟩ := hw'
                have HBJ := Lib.hid (HBI.out.trans (hw5.mono HBI.out.size))
                clear L0 L1 hw5
                go_wp2
                go_roundw
                case rel => exact ⟨j + 1, by omega, by go_num, by rw [HN3.out], HBJ⟩
                case measure => simp [intOf]; omega
            · obtain rfl : j = qs.length := by omega
              have htk : qs.take qs.length = qs := List.take_of_length_le (Nat.le_refl _)
              rw [htk]
              have HWZ := Lib.hid hwz
              clear hwz htk
              cases hb0 : hasPod qs l.s.pod
              · have HM2 : Hid (ns.map Sv.s = keepV qs ((ms.take (k + 1)).map Sv.s)) := by
                  show _ = _
                  rw [HT.out, List.map_append, List.map_cons, List.map_nil, keep_snoc_no _ _ _ hb0]
                  exact HM.out
                have HS2 : Hid (ns.Sublist (ms.take (k + 1))) := by show List.Sublist _ _; rw [HT.out]; exact HS.out.trans (List.sublist_append_left _ _)
                have HO3 := Lib.hid (HO.out.kept HBI.out)
                clear hb0 HM HS HO
                go_wp2
                go_roundw
                case rel => exact ⟨k + 1, ns, by omega, by go_num, HM2.out, HS2.out, by omega, HO3.out, HWZ.out⟩
                case measure => simp [intOf]; omega
              · have HM2 : Hid ((ns ++ [l]).map Sv.s = keepV qs ((ms.take (k + 1)).map Sv.s)) := by
                  show _ = _
                  rw [HT.out, List.map_append, List.map_append, List.map_cons, List.map_nil, keep_snoc_yes _ _ _ hb0, HM.out]
                have HS2 : Hid ((ns ++ [l]).Sublist (ms.take (k + 1))) := by show List.Sublist _ _; rw [HT.out]; exact HS.out.append (List.Sublist.refl _)
                obtain ⟨i0, hi0, hz0, hz1, hz2⟩ := info_sr2
                have hnl3 : ns.length ≤ 1048576 := by omega
                have hal := box_below wr #[.string l.s.pod, .string l.s.met, .slice l.a l.s.pts.length l.cap] 79
                have HOA := Lib.hid ((HO.out.kept HBI.out).kept hal)
                have HBA := Lib.hid (HWZ.out.alloc HWZ.out.size (.cells #[.string l.s.pod, .string l.s.met, .slice l.a l.s.pts.length l.cap] 79))
                have HSA := Lib.hid HBA.out.size
                have HCN := Lib.hid (three_cells wr l 79)
                clear hb0 HM HS hal
                go_wp2_with (at_builtin; refine wpList_append_own _ rfl _ _ 25 rfl w2.heap.size 79 i0 (svV zeroV) 3 56 Try.underlying25 hi0 hz0 hz1 hz2 rfl (by decide) _ ns.length (gf encV ns) rfl HOA.out ⟨wr.heap.size, 0, none⟩ 1 1 [.string l.s.pod, .string l.s.met, .slice l.a l.s.pts.length l.cap] rfl rfl ?e1 ?e2 ?e3 ?e4 ?e5 ?_)
                case e1 => exact HCN.out
                case e2 => exact three_one l
                case e3 => unfold maxLen; omega
                case e4 => omega
                case e5 => exact HSA.out
                intro v' w8 hown' hgrow _
                have HO8 : Hid (OwnR w8 w2.heap.size v' (ns ++ [l])) := OwnR_snoc hown'
                have HB8 := Lib.hid (HBA.out.grown hgrow HSA.out (fun g hg => (World.ownsRow.lt HO.out g hg).1))
                have hl8 : (ns ++ [l]).length ≤ k + 1 := by rw [List.length_append, List.length_singleton]; omega
                have HL8 := Lib.hid hl8
                clear hown' hgrow hl8 HOA HBA HSA HCN HO q0 q1 q2
                go_wp2
                go_roundw
                case rel => exact ⟨k + 1, _, by omega, by go_num, HM2.out, HS2.out, HL8.out, HO8.out, HB8.out⟩
                case measure => simp [intOf]; omega
        · obtain rfl : k = ls.length := by omega
          have HF : Hid (ns.map Sv.s = keepV qs (ls.map Sv.s)) := by
            have := HM.out
            rw [List.take_of_length_le (by omega), HMS.out] at this
            exact this
          have HSF : Hid (ns.Sublist ms) := HS.out.trans (List.take_sublist _ _)
          have HHF := Lib.hid (has_sub HG2.out HB.out HSF.out hS2 (by omega) HO.out)
          have HBF := Lib.hid (HB2.out.trans (HB.out.mono hS2))
          clear HM HS HO HB
          go_wp2
          go_ret2
          exact ⟨⟨_, ns, HHF.out, by rw [HK.out]; rfl, by unfold keepA; rw [HK.out]; exact HF.out⟩, HBF.out⟩
end Go.Proofs.Ytgbkmnhdgaeejaa.KeepS
