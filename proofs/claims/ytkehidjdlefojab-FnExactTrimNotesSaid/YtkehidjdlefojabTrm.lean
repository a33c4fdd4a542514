/- TrimNotes: the model's and the program's. -/
import Derived.Test.YtkehidjdlefojabLogS
import Derived.Test.YtkehidjdlefojabNt
import Derived.Test.YtkehidjdlefojabLogI
namespace Go.Proofs.Ytkehidjdlefojab.Trm
open Go.RowKit Go.Sort Go.BigFrame
open Go.Proofs.Ytkehidjdlefojab.C1
open Go.Proofs.Ytkehidjdlefojab.C2
open Go.Proofs.Ytkehidjdlefojab.Smps
open Go.Proofs.Ytkehidjdlefojab.Mem
open Go.Proofs.Ytkehidjdlefojab.Ser
open Go.Proofs.Ytkehidjdlefojab.Ser2 (encP_len zeroP)
open Go.Proofs.Ytkehidjdlefojab.Nt
open Go.Proofs.Ytkehidjdlefojab.BhM
open Go.Proofs.Ytkehidjdlefojab.BhI
open Go.Proofs.Ytkehidjdlefojab.LogS
open Go.Proofs.Ytkehidjdlefojab.LogI
set_option linter.unusedVariables false

def lateV (t : Int) (ps : List Pt) : List Pt := ps.filter fun p => decide (t < p.tick)
theorem late_snoc_yes (t : Int) (ps : List Pt) (p : Pt) (h : t < p.tick) : lateV t (ps ++ [p]) = lateV t ps ++ [p] := by
  unfold lateV
  rw [List.filter_append]
  simp [h]
theorem late_snoc_no (t : Int) (ps : List Pt) (p : Pt) (h : ¬ t < p.tick) : lateV t (ps ++ [p]) = lateV t ps := by
  unfold lateV
  rw [List.filter_append]
  simp [h]
theorem late_le (t : Int) (ps : List Pt) : (lateV t ps).length ≤ ps.length := List.length_filter_le _ _
def trmG (ns : List Pt) (now win : Int) : Bool := logV noteV ns && (tickV now && inV win 0 1000)
def trmV (ns : List Pt) (now win : Int) : List Pt := if trmG ns now win = true then lateV (now - win) ns else []
theorem trm_le (ns : List Pt) (now win : Int) : (trmV ns now win).length ≤ ns.length := by
  unfold trmV
  split
  · exact late_le _ _
  · simp
theorem info_nt2 : ∃ i, Try.prog.info? 90 = some i ∧ i.zero = some (ptV zeroP) ∧ i.size = 2 ∧ i.bytes = 16 := by
  obtain ⟨i, hi, hz⟩ := Option.map_eq_some_iff.1 info_pt
  simp only [Prod.mk.injEq] at hz
  exact ⟨i, hi, hz.1, hz.2.1, hz.2.2⟩
theorem own_snoc {w : World} {B : Nat} {v : Value} {ps : List Pt} {p : Pt} (h : w.ownsRow B 90 2 v (ps.length + 1) (gf encP ps ++ [.int .i64 p.tick, .int .i64 p.val])) : OwnP w B v (ps ++ [p]) := by
  unfold OwnP
  rw [List.length_append, gf_append]
  exact h
theorem own_nil (w : World) (B : Nat) : OwnP w B (.slice none 0 0) [] := ⟨by simp [gf], .inl ⟨rfl, rfl⟩⟩
theorem own_form {w : World} {B : Nat} {v : Value} {ps : List Pt} (h : OwnP w B v ps) : ∃ a cap, v = .slice a ps.length cap := by
  rcases h.2 with ⟨hv, h0⟩ | ⟨g, cap', cur, hv, _⟩
  · exact ⟨none, 0, by rw [hv, h0]⟩
  · exact ⟨_, _, hv⟩
theorem pt_one (p : Pt) : ∀ u ∈ [Value.int .i64 p.tick, .int .i64 p.val], u.oneCell' = true := by
  intro u hu
  simp at hu
  rcases hu with rfl | rfl <;> rfl
theorem pt_cells (w : World) (p : Pt) (t : TypeId) : ∀ (j : Nat) (u : Value), [Value.int .i64 p.tick, .int .i64 p.val][j]? = some u → (w.alloc (.cells #[.int .i64 p.tick, .int .i64 p.val] t)).cell? ((⟨w.heap.size, 0, none⟩ : Addr).add j) = some u := by
  intro j u hj
  match j, hj with
  | 0, hj => simp at hj; subst hj; simp [Addr.add]
  | 1, hj => simp at hj; subst hj; simp [Addr.add]
theorem new_row (w : World) : OwnP (w.alloc (.cells #[] 90)) w.heap.size (.slice (some ⟨w.heap.size, 0, none⟩) 0 0) [] := World.ownsRow_lit (e := 90) (size := 2) (base := w.heap.size) w #[] 0 (Nat.le_refl _) (by unfold maxLen; omega) rfl
theorem take_snoc {ls : List Pt} {k : Nat} {x : Pt} (h : k < ls.length) (hx : ls[k] = x) : ls.take (k + 1) = ls.take k ++ [x] := by
  rw [List.take_succ_eq_append_getElem h, hx]
set_option maxHeartbeats 2000000 in
set_option maxRecDepth 20000 in
theorem spec_trim (ms : List Pt) (a : Option Addr) (cap : Nat) (now per : Int) (w : World) (h : Pts w a ms) (hm : ms.length ≤ 1048576) :
    Calls Try.prog 28 #[.slice a ms.length cap, .int .i64 now, .int .i64 per] w fun e w' => ∃ v, e = .returned v ∧ OwnP w' w.heap.size v (trmV ms now per) ∧ Below w.heap.size w w' := by
  have hsp := fun w h => spec_notesok ms a cap w h hm
  have hbx := box_below w #[] 90
  have HBX := Lib.hid hbx
  have HH := Lib.hid (h.kept hbx)
  have HN := Lib.hid (new_row w)
  have h0P := Lib.hid (fun (W : World) (hW : Below w.heap.size w W) => h.kept hW)
  clear h hbx
  cases d1 : logV noteV ms
  · have HR : Hid (trmV ms now per = []) := by show _ = _; unfold trmV trmG; rw [d1]; rfl
    simp only [d1] at hsp
    have HSP := Lib.hid hsp
    rw [HR.out]
    clear hsp d1
    go_enter Try.func28, Try.ntmps28
    go_wp2_with (go_at_call 61; refine (HSP.out _ HH.out).mono ?_; rintro e w2 ⟨rfl, hb⟩; have HB := Lib.hid (HBX.out.trans (hb.mono HBX.out.size)); clear hb)
    go_ret
    exact ⟨_, rfl, own_nil _ _, HB.out⟩
  · simp only [d1] at hsp
    have HSP := Lib.hid hsp
    clear hsp
    cases d2 : tickV now
    · have HR : Hid (trmV ms now per = []) := by show _ = _; unfold trmV trmG; rw [d1, d2]; rfl
      rw [HR.out]
      clear d1
      go_enter Try.func28, Try.ntmps28
      go_wp2_with (first | (go_at_call 61; refine (HSP.out _ HH.out).mono ?_; rintro e w2 ⟨rfl, hb⟩; have HB := Lib.hid (HBX.out.trans (hb.mono HBX.out.size)); clear hb) | (go_at_call 51; refine (spec_tick6 _ _).mono ?_; rw [d2]; rintro e w' ⟨rfl, rfl⟩))
      go_ret
      exact ⟨_, rfl, own_nil _ _, HB.out⟩
    · cases d3 : inV per 0 1000
      · have HR : Hid (trmV ms now per = []) := by show _ = _; unfold trmV trmG; rw [d1, d2, d3]; rfl
        rw [HR.out]
        clear d1
        go_enter Try.func28, Try.ntmps28
        go_wp2_with (first | (go_at_call 61; refine (HSP.out _ HH.out).mono ?_; rintro e w2 ⟨rfl, hb⟩; have HB := Lib.hid (HBX.out.trans (hb.mono HBX.out.size)); clear hb) | (go_at_call 51; refine (spec_tick6 _ _).mono ?_; rw [d2]; rintro e w' ⟨rfl, rfl⟩) | (go_at_call 62; refine (spec_in6 _ _ _ _).mono ?_; rw [d3]; rintro e w' ⟨rfl, rfl⟩))
        go_ret
        exact ⟨_, rfl, own_nil _ _, HB.out⟩
      · have HR : Hid (trmV ms now per = lateV (now - per) ms) := by show _ = _; unfold trmV trmG; rw [d1, d2, d3]; rfl
        have hl := (logV_yes d1).1
        have hnow : 0 ≤ now ∧ now ≤ 1000000000 := by simpa [tickV, inV_iff] using d2
        have hper : 0 ≤ per ∧ per ≤ 1000 := by simpa [inV_iff] using d3
        rw [HR.out]
        clear d1
        go_enter Try.func28, Try.ntmps28
        go_wp2_with (first | (go_at_call 61; refine (HSP.out _ HH.out).mono ?_; rintro e w2 ⟨rfl, hb⟩; have HB := Lib.hid (HBX.out.trans (hb.mono HBX.out.size)); have HO := Lib.hid (HN.out.kept hb); have HH2 := Lib.hid (HH.out.kept hb); clear hb) | (go_at_call 51; refine (spec_tick6 _ _).mono ?_; rw [d2]; rintro e w' ⟨rfl, rfl⟩) | (go_at_call 62; refine (spec_in6 _ _ _ _).mono ?_; rw [d3]; rintro e w' ⟨rfl, rfl⟩))
        clear d2 d3
        go_loopw [7, 8] (fun v i wr => ∃ (k : Nat), k ≤ ms.length ∧ i = .int .i64 k ∧ Hid (OwnP wr w.heap.size v (lateV (now - per) (ms.take k))) ∧ Hid (Below w.heap.size w wr) ∧ Hid (Pts wr a ms)) (fun _ i _ => ms.length - (intOf i).toNat)
        case atStart => exact ⟨0, Nat.zero_le _, rfl, HO.out, HB.out, HH2.out⟩
        case round =>
          clear HO HB HH2 HBX HH HN
          obtain ⟨k, hk, rfl, HO, HB, HP⟩ := hrel
          by_cases hlt : k < ms.length
          · obtain ⟨b, off, ha, hbb, hcell⟩ := HP.out.cells
            obtain rfl := ha (by omega)
            obtain ⟨p, hp⟩ : ∃ p, ms[k] = p := ⟨_, rfl⟩
            have hq := hcell k hlt
            rw [hp] at hq
            obtain ⟨r0, r1⟩ := hq
            have HTJ := Lib.hid (take_snoc hlt hp)
            have hsl : (lateV (now - per) (ms.take k)).length ≤ 1048576 := Nat.le_trans (late_le _ _) (by simp; omega)
            obtain ⟨i0, hi0, hz0, hz1, hz2⟩ := info_nt2
            have hwr := HB.out.size
            have hwp := hbb (by omega)
            clear hp ha hbb hcell
            by_cases htt : now - per < p.tick
            · have hdt : decide (now - per < p.tick) = true := decide_eq_true htt
              have HS : Hid (lateV (now - per) (ms.take (k + 1)) = lateV (now - per) (ms.take k) ++ [p]) := by show _ = _; rw [HTJ.out, late_snoc_yes _ _ _ htt]
              obtain ⟨xs, hxs⟩ : ∃ xs, lateV (now - per) (ms.take k) = xs := ⟨_, rfl⟩
              rw [hxs] at HO hsl HS
              clear hxs
              go_wp2_with (at_builtin; refine wpList_append_own _ rfl _ _ 50 rfl w.heap.size 90 i0 (ptV zeroP) 2 16 Try.underlying50 hi0 hz0 hz1 hz2 rfl (by decide) _ _ _ rfl (World.ownsRow.alloc HO.out _) ⟨wr.heap.size, 0, none⟩ 1 1 [.int .i64 p.tick, .int .i64 p.val] rfl rfl ?e1 ?e2 ?e3 ?e4 ?e5 ?_)
              case e1 => exact pt_cells wr p _
              case e2 => exact pt_one p
              case e3 => unfold maxLen; omega
              case e4 => omega
              case e5 => first | omega | (simp; omega)
              intro v' w8 hown' hgrow _
              have HO8 : Hid (OwnP w8 w.heap.size v' (lateV (now - per) (ms.take (k + 1)))) := by rw [HS.out]; exact own_snoc hown'
              have hrow : ∀ g, Value.ownBlock _ = some g → w.heap.size ≤ g := fun g hg => (World.ownsRow.lt HO.out g hg).1
              have HB8 := Lib.hid ((HB.out.alloc HB.out.size _).grown hgrow (by have := HB.out.size; simp; omega) hrow)
              have HP8 := Lib.hid (h0P.out _ HB8.out)
              clear hown' hgrow hrow hdt htt r0 r1 HB HO HP
              go_wp2
              go_roundw
              case rel => exact ⟨k + 1, by omega, by go_num, HO8, HB8, HP8⟩
              case measure => simp [intOf]; omega
            · have hdt : decide (now - per < p.tick) = false := decide_eq_false htt
              have HS : Hid (lateV (now - per) (ms.take (k + 1)) = lateV (now - per) (ms.take k)) := by show _ = _; rw [HTJ.out, late_snoc_no _ _ _ htt]
              have HO8 := HO
              rw [← HS.out] at HO8
              clear HO
              go_wp2
              go_roundw
              case rel => exact ⟨k + 1, by omega, by go_num, HO8, HB, HP⟩
              case measure => simp [intOf]; omega
          · obtain rfl : k = ms.length := by omega
            have hof := HO.out
            rw [List.take_of_length_le (Nat.le_refl _)] at hof
            have HOF := Lib.hid hof
            clear hof HO
            go_wp2
            go_ret
            exact ⟨_, rfl, HOF.out, HB.out⟩
end Go.Proofs.Ytkehidjdlefojab.Trm
