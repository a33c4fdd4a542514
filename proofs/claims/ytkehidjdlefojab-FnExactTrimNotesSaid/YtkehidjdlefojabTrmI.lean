/- The program's TrimNotes. -/
import Derived.Test.YtkehidjdlefojabTrm
import Derived.Test.YtkehidjdlefojabBhI
namespace Go.Proofs.Ytkehidjdlefojab.TrmI
open Go.RowKit Go.Sort Go.BigFrame
open Go.Proofs.Ytkehidjdlefojab.C1
open Go.Proofs.Ytkehidjdlefojab.C2
open Go.Proofs.Ytkehidjdlefojab.Smps
open Go.Proofs.Ytkehidjdlefojab.Mem
open Go.Proofs.Ytkehidjdlefojab.Ser
open Go.Proofs.Ytkehidjdlefojab.Ser2 (encP_len zeroP)
open Go.Proofs.Ytkehidjdlefojab.Nt
open Go.Proofs.Ytkehidjdlefojab.BhM
open Go.Proofs.Ytkehidjdlefojab.BhI
open Go.Proofs.Ytkehidjdlefojab.LogS
open Go.Proofs.Ytkehidjdlefojab.LogI
open Go.Proofs.Ytkehidjdlefojab.Trm
set_option linter.unusedVariables false

set_option maxHeartbeats 2000000 in
set_option maxRecDepth 20000 in
theorem impl_trim (ms : List Pt) (a : Option Addr) (cap : Nat) (now per : Int) (w : World) (h : Pts w a ms) (hm : ms.length ≤ 1048576) :
    Calls Try.prog 29 #[.slice a ms.length cap, .int .i64 now, .int .i64 per] w fun e w' => ∃ v, e = .returned v ∧ OwnP w' w.heap.size v (trmV ms now per) ∧ Below w.heap.size w w' := by
  have hsp := fun w h => impl_notesok ms a cap w h hm
  have HH := Lib.hid h
  have h0P := Lib.hid (fun (W : World) (hW : Below w.heap.size w W) => h.kept hW)
  clear h
  cases d1 : logV noteV ms
  · have HR : Hid (trmV ms now per = []) := by show _ = _; unfold trmV trmG; rw [d1]; rfl
    simp only [d1] at hsp
    have HSP := Lib.hid hsp
    rw [HR.out]
    clear hsp d1
    go_enter Try.func29, Try.ntmps29
    go_wp2_with (go_at_call 63; refine (HSP.out _ HH.out).mono ?_; rintro e w2 ⟨rfl, hb⟩; have HB := Lib.hid hb; clear hb)
    go_ret
    exact ⟨_, rfl, own_nil _ _, HB.out⟩
  · simp only [d1] at hsp
    have HSP := Lib.hid hsp
    clear hsp
    cases d2 : tickV now
    · have HR : Hid (trmV ms now per = []) := by show _ = _; unfold trmV trmG; rw [d1, d2]; rfl
      rw [HR.out]
      clear d1
      go_enter Try.func29, Try.ntmps29
      go_wp2_with (first | (go_at_call 63; refine (HSP.out _ HH.out).mono ?_; rintro e w2 ⟨rfl, hb⟩; have HB := Lib.hid hb; clear hb) | (go_at_call 64; refine (impl_tick6 _ _).mono ?_; rw [d2]; rintro e w' ⟨rfl, rfl⟩))
      go_ret
      exact ⟨_, rfl, own_nil _ _, HB.out⟩
    · cases d3 : inV per 0 1000
      · have HR : Hid (trmV ms now per = []) := by show _ = _; unfold trmV trmG; rw [d1, d2, d3]; rfl
        rw [HR.out]
        clear d1
        go_enter Try.func29, Try.ntmps29
        go_wp2_with (first | (go_at_call 63; refine (HSP.out _ HH.out).mono ?_; rintro e w2 ⟨rfl, hb⟩; have HB := Lib.hid hb; clear hb) | (go_at_call 64; refine (impl_tick6 _ _).mono ?_; rw [d2]; rintro e w' ⟨rfl, rfl⟩) | (go_at_call 65; refine (impl_span _ _).mono ?_; rw [d3]; rintro e w' ⟨rfl, rfl⟩))
        go_ret
        exact ⟨_, rfl, own_nil _ _, HB.out⟩
      · have HR : Hid (trmV ms now per = lateV (now - per) ms) := by show _ = _; unfold trmV trmG; rw [d1, d2, d3]; rfl
        have hl := (logV_yes d1).1
        have hnow : 0 ≤ now ∧ now ≤ 1000000000 := by simpa [tickV, inV_iff] using d2
        have hper : 0 ≤ per ∧ per ≤ 1000 := by simpa [inV_iff] using d3
        rw [HR.out]
        clear d1
        go_enter Try.func29, Try.ntmps29
        go_wp2_with (first | (go_at_call 63; refine (HSP.out _ HH.out).mono ?_; rintro e w2 ⟨rfl, hb⟩; have HB := Lib.hid hb; have HO := Lib.hid (own_nil w2 w.heap.size); have HH2 := Lib.hid (HH.out.kept hb); clear hb) | (go_at_call 64; refine (impl_tick6 _ _).mono ?_; rw [d2]; rintro e w' ⟨rfl, rfl⟩) | (go_at_call 65; refine (impl_span _ _).mono ?_; rw [d3]; rintro e w' ⟨rfl, rfl⟩))
        clear d2 d3
        go_loopw [7, 25] (fun v i wr => ∃ (k : Nat), k ≤ ms.length ∧ i = .int .i64 k ∧ Hid (OwnP wr w.heap.size v (lateV (now - per) (ms.take k))) ∧ Hid (Below w.heap.size w wr) ∧ Hid (Pts wr a ms)) (fun _ i _ => ms.length - (intOf i).toNat)
        case atStart => exact ⟨0, Nat.zero_le _, rfl, HO.out, HB.out, HH2.out⟩
        case round =>
          clear HO HB HH2 HH
          obtain ⟨k, hk, rfl, HO, HB, HP⟩ := hrel
          by_cases hlt : k < ms.length
          · obtain ⟨b, off, ha, hbb, hcell⟩ := HP.out.cells
            obtain rfl := ha (by omega)
            obtain ⟨p, hp⟩ : ∃ p, ms[k] = p := ⟨_, rfl⟩
            have hq := hcell k hlt
            rw [hp] at hq
            obtain ⟨r0, r1⟩ := hq
            have HTJ := Lib.hid (take_snoc hlt hp)
            have hsl : (lateV (now - per) (ms.take k)).length ≤ 1048576 := Nat.le_trans (late_le _ _) (by simp; omega)
            obtain ⟨i0, hi0, hz0, hz1, hz2⟩ := info_nt2
            have hwr := HB.out.size
            have hwp := hbb (by omega)
            clear hp ha hbb hcell
            by_cases htt : now - per < p.tick
            · have hdt : decide (now - per < p.tick) = true := decide_eq_true htt
              have HS : Hid (lateV (now - per) (ms.take (k + 1)) = lateV (now - per) (ms.take k) ++ [p]) := by show _ = _; rw [HTJ.out, late_snoc_yes _ _ _ htt]
              obtain ⟨xs, hxs⟩ : ∃ xs, lateV (now - per) (ms.take k) = xs := ⟨_, rfl⟩
              rw [hxs] at HO hsl HS
              clear hxs
              have HOA := Lib.hid (HO.out.kept (box_below wr #[.int .i64 p.tick, .int .i64 p.val] 90))
              have HBA := Lib.hid (HB.out.alloc HB.out.size (.cells #[.int .i64 p.tick, .int .i64 p.val] 90))
              have hsz : (wr.alloc (.cells #[.int .i64 p.tick, .int .i64 p.val] 90)).heap.size = wr.heap.size + 1 := by simp
              have hcn := fun t => pt_cells (wr.alloc (.cells #[.int .i64 p.tick, .int .i64 p.val] 90)) p t
              rw [hsz] at hcn
              have HCN := Lib.hid hcn
              clear hcn hsz
              go_wp2_with (at_builtin; go_loud (refine wpList_append_own _ rfl _ _ 50 rfl w.heap.size 90 i0 (ptV zeroP) 2 16 Try.underlying50 hi0 hz0 hz1 hz2 rfl (by decide) _ _ _ rfl (World.ownsRow.alloc HOA.out _) ⟨wr.heap.size + 1, 0, none⟩ 1 1 [.int .i64 p.tick, .int .i64 p.val] rfl rfl (HCN.out _) (pt_one p) (by unfold maxLen; omega) (by omega) (by first | omega | (simp; omega)) ?_))
              intro v' w8 hown' hgrow _
              have HO8 : Hid (OwnP w8 w.heap.size v' (lateV (now - per) (ms.take (k + 1)))) := by rw [HS.out]; exact own_snoc hown'
              have hrow : ∀ g, Value.ownBlock _ = some g → w.heap.size ≤ g := fun g hg => (World.ownsRow.lt HO.out g hg).1
              have HB8 := Lib.hid ((HBA.out.alloc HBA.out.size _).grown hgrow (by have := HB.out.size; simp; omega) hrow)
              have HP8 := Lib.hid (h0P.out _ HB8.out)
              clear hown' hgrow hrow hdt htt r0 r1 HB HO HP
              go_wp2
              go_roundw
              case rel => exact ⟨k + 1, by omega, by go_num, HO8, HB8, HP8⟩
              case measure => simp [intOf]; omega
            · have hdt : decide (now - per < p.tick) = false := decide_eq_false htt
              have HS : Hid (lateV (now - per) (ms.take (k + 1)) = lateV (now - per) (ms.take k)) := by show _ = _; rw [HTJ.out, late_snoc_no _ _ _ htt]
              have HO8 := Lib.hid (HO.out.kept (box_below wr #[.int .i64 p.tick, .int .i64 p.val] 90))
              rw [← HS.out] at HO8
              have HB8 := Lib.hid (HB.out.alloc HB.out.size (.cells #[.int .i64 p.tick, .int .i64 p.val] 90))
              have HP8 := Lib.hid (h0P.out _ HB8.out)
              clear HO HB HP
              go_wp2
              go_roundw
              case rel => exact ⟨k + 1, by omega, by go_num, HO8, HB8, HP8⟩
              case measure => simp [intOf]; omega
          · obtain rfl : k = ms.length := by omega
            have hof := HO.out
            rw [List.take_of_length_le (Nat.le_refl _)] at hof
            have HOF := Lib.hid hof
            clear hof HO
            go_wp2
            go_ret
            exact ⟨_, rfl, HOF.out, HB.out⟩
end Go.Proofs.Ytkehidjdlefojab.TrmI
