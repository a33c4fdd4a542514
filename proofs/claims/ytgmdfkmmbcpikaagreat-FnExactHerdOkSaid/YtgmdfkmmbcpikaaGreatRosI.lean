/- The program's rosters: rosterOf, pods (collected in whatever order, then sorted). -/
import Derived.Test.YtgmdfkmmbcpikaaGreatRos
import Derived.Test.YtgmdfkmmbcpikaaGreatShelf
import Derived.Maps.AppendAt
namespace Go.Proofs.YtgmdfkmmbcpikaaGreat.RosI
open Go.RowKit Go.Sort Go.Maps
open Go.Proofs.YtgmdfkmmbcpikaaGreat.C1
open Go.Proofs.YtgmdfkmmbcpikaaGreat.C2
open Go.Proofs.YtgmdfkmmbcpikaaGreat.Smps
open Go.Proofs.YtgmdfkmmbcpikaaGreat.Mem
open Go.Proofs.YtgmdfkmmbcpikaaGreat.Pd
open Go.Proofs.YtgmdfkmmbcpikaaGreat.Pds
open Go.Proofs.YtgmdfkmmbcpikaaGreat.Key
open Go.Proofs.YtgmdfkmmbcpikaaGreat.Ros
set_option linter.unusedVariables false

theorem keyed : Keyed Tryz.prog 9 := string_keyed Tryz.underlying9
theorem map_t : Tryz.prog.underlying 135 = some (.map 9 115) := by kernel_rfl
theorem key_of (p : Pd) (h : p.nm.size ≤ maxLen) : keyOf Tryz.prog 9 (.string p.nm) = some (pk p) := WideMaps.keyOf_string_mk Tryz.underlying9 h
theorem make_map (n : Nat) (w : World) : (Instr.makeMap 135 (some (.int .i64 (n : Int)))).run Tryz.prog w = .ok (.map (some w.heap.size)) (w.alloc (.map #[] 0)) := by
  simp [Instr.makeMap, run_underlying map_t, asInt, asIntOf, Result.andThen]
abbrev RM (w : World) (b n : Nat) (D : DataW Unit) : Prop := w.ownsMap Tryz.prog 9 podR b n D
set_option maxHeartbeats 1000000 in
theorem roster_of (ls : List Pd) (hwf : ∀ p ∈ ls, p.wf) (a : Option Addr) (cap : Nat) (w : World) (h : Pds w a ls) (hm : ls.length ≤ 1048576) :
    Calls Tryz.prog 85 #[.slice a ls.length cap] w fun e w' => ∃ D, e = .returned (.map (some w.heap.size)) ∧ RM w' w.heap.size ls.length D ∧ Is D (ros ls) ∧ Below w.heap.size w w' := by
  obtain ⟨b, off, ha, hb, hcell⟩ := h.cells
  have hmk := make_map ls.length
  have hmade := World.ownsMap_made w Tryz.prog 9 podR
  have hbel : Below w.heap.size w (w.alloc (.map #[] 0)) := (Below.refl _ _).alloc (Nat.le_refl _) _
  have HM := Lib.hid hmade
  have HBL := Lib.hid hbel
  have Hc := Lib.hid hcell
  have Ha := Lib.hid ha
  have Hb := Lib.hid hb
  have HW := Lib.hid hwf
  clear hmade hbel hcell ha hb h hwf
  go_enter Tryz.func85, Tryz.ntmps85
  go_wp2
  go_loopw [11] (fun i wr => ∃ (k : Nat) (D : DataW Unit), k ≤ ls.length ∧ i = .int .i64 k ∧ Hid (RM wr w.heap.size k D) ∧ Hid (Is D (ros (ls.take k))) ∧ Hid (Below w.heap.size w wr)) (fun i _ => ls.length - (intOf i).toNat)
  case atStart => exact ⟨0, .map [], Nat.zero_le _, rfl, HM.out, Is.empty, HBL.out⟩
  case round =>
    clear hmk
    obtain ⟨k, D, hk, rfl, HO, HI, HB⟩ := hrel
    by_cases hlt : k < ls.length
    · obtain ⟨p, hp⟩ : ∃ p, ls[k] = p := ⟨_, rfl⟩
      have hwp := HW.out _ (List.getElem_mem hlt)
      have hq := (Hc.out k hlt).kept HB.out (Hb.out (by omega))
      obtain rfl := Ha.out (by omega)
      have HT : Hid (ls.take (k + 1) = ls.take k ++ [p]) := by show _ = _; rw [List.take_succ_eq_append_getElem hlt, hp]
      rw [hp] at hwp hq
      obtain ⟨q0, q1, q2, q3⟩ := hq
      clear hp
      have hkey := key_of p hwp.nm
      have hval : podR (.agg #[.string p.nm, .int .i64 p.born, .int .i64 p.ph, .bool p.rdy]) = some (podD p, []) := podR_mk p
      have HBX := Lib.hid (HB.out.alloc HB.out.size (.cells #[.string p.nm, .int .i64 p.born, .int .i64 p.ph, .bool p.rdy] 115))
      have HOX := Lib.hid (World.ownsMap.alloc HO.out (.cells #[.string p.nm, .int .i64 p.born, .int .i64 p.ph, .bool p.rdy] 115))
      have HIX : Hid (Is (D.put (pk p) (podD p)) (ros (ls.take (k + 1)))) := by
        show Is _ _
        rw [HT.out, ros_snoc]
        exact HI.out.put p
      have hkm : k < maxLen := by unfold maxLen; omega
      clear hwp
      go_wp2_with (at_mapUpdate; refine wpList_mapUpdate_own _ rfl _ _ _ 135 rfl 9 115 keyed map_t podR w.heap.size k D rfl HOX.out hkm _ _ (pk p) rfl rfl hkey (podD p) [] hval ?_; intro w1 hown1 hgrow1; have HO1 := Lib.hid hown1; have HB1 := Lib.hid (HBX.out.grown hgrow1 HBX.out.size (fun j hj => by cases hj; exact Nat.le_refl _)); clear hown1 hgrow1)
      clear q0 q1 q2 q3 hkey hval
      go_wp2
      go_roundw
      case rel => exact ⟨k + 1, _, by omega, by go_num, HO1.out, HIX.out, HB1.out⟩
      case measure => simp [intOf]; omega
    · obtain rfl : k = ls.length := by omega
      have HIX : Hid (Is D (ros ls)) := by
        have := HI.out
        rw [List.take_of_length_le (Nat.le_refl _)] at this
        exact this
      clear HI
      go_wp2
      go_ret
      exact ⟨D, rfl, HO.out, HIX.out, HB.out⟩
end Go.Proofs.YtgmdfkmmbcpikaaGreat.RosI
