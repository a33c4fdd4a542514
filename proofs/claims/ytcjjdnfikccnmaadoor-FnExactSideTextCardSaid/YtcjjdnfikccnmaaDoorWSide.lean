/- impl.writeSide and SideText, both ways. -/
import Derived.Test.YtcjjdnfikccnmaaDoorTxt
import Derived.Test.YtcjjdnfikccnmaaDoorJd
import Derived.Test.YtcjjdnfikccnmaaDoorRec
namespace Go.Proofs.YtcjjdnfikccnmaaDoor.WSide
open Go.RowKit
open Go.Proofs.YtcjjdnfikccnmaaDoor.C1
open Go.Proofs.YtcjjdnfikccnmaaDoor.C2
open Go.Proofs.YtcjjdnfikccnmaaDoor.Smps
open Go.Proofs.YtcjjdnfikccnmaaDoor.Mem
open Go.Proofs.YtcjjdnfikccnmaaDoor.Ser2 (cells_new)
open Go.Proofs.YtcjjdnfikccnmaaDoor.Milli
open Go.Proofs.YtcjjdnfikccnmaaDoor.Mt
open Go.Proofs.YtcjjdnfikccnmaaDoor.Line
open Go.Proofs.YtcjjdnfikccnmaaDoor.Pl
open Go.Proofs.YtcjjdnfikccnmaaDoor.BhM
open Go.Proofs.YtcjjdnfikccnmaaDoor.SdI
open Go.Proofs.YtcjjdnfikccnmaaDoor.Jd
open Go.Proofs.YtcjjdnfikccnmaaDoor.Rec
open Go.Proofs.YtcjjdnfikccnmaaDoor.Txt
set_option linter.unusedVariables false

set_option maxHeartbeats 1000000 in
set_option maxRecDepth 20000 in
theorem write_no (s : Sd) (hv : sideV s = false) (a : Option Addr) (cap : Nat) (x : Addr) (w : World) (hS : Sen x w) (h : Pls w a s.ps) (hm : s.ps.length ≤ 9223372036854775807) :
    Calls Tryd.prog 14 #[sdV s a cap] w fun e w' => e = .panicked [{ v := errV x, recovered := false }] ∧ Below w.heap.size w w' := by
  have HH := Lib.hid (h.kept (box_below w #[.slice a s.ps.length cap, .int .i64 s.sel, .int .i64 s.win] 29))
  have hok := fun w h => impl_sideok s a cap w h hm
  rw [hv] at hok
  have HOK := Lib.hid hok
  have HS := Lib.hid hS
  unfold sdV
  clear hok hv h hS
  go_enter Tryd.func14, Tryd.ntmps14
  go_wp2_with (go_at_call 21; refine (HOK.out _ HH.out).mono ?_; rintro e w2 ⟨rfl, hb2⟩; obtain ⟨k0, hB, hz⟩ := one_read hb2; have HB2 := Lib.hid hB; clear k0 hB hb2 hz)
  refine (require_no x _ (HS.out.kept HB2.out)).mono ?_
  rintro e w3 ⟨rfl, rfl⟩
  go_wp2
  exact ⟨rfl, rfl, HB2.out⟩
set_option maxHeartbeats 2000000 in
set_option maxRecDepth 20000 in
theorem write_yes (s : Sd) (hv : sideV s = true) (a : Option Addr) (cap : Nat) (w : World) (he : Env w) (h : Pls w a s.ps) (hm : s.ps.length ≤ 9223372036854775807) :
    Calls Tryd.prog 14 #[sdV s a cap] w fun e w' => e = .returned (.string (mk (sideT s))) ∧ Below w.heap.size w w' := by
  have HH := Lib.hid (h.kept (box_below w #[.slice a s.ps.length cap, .int .i64 s.sel, .int .i64 s.win] 29))
  have hok := fun w h => impl_sideok s a cap w h hm
  rw [hv] at hok
  have HOK := Lib.hid hok
  obtain ⟨b, off, ha, hb, hcell⟩ := h.cells
  obtain ⟨h0, h1, h2, h3⟩ := side_in hv
  have HV := Lib.hid hv
  have HP := Lib.hid h3
  have HSZ := Lib.hid (And.intro h1 h2)
  have Hc := Lib.hid hcell
  have Ha := Lib.hid ha
  have Hb := Lib.hid hb
  have HE := Lib.hid he
  unfold sdV
  clear hok hv h ha hb hcell h1 h2 h3 he
  go_enter Tryd.func14, Tryd.ntmps14
  go_wp2_with (go_at_call 21; refine (HOK.out _ HH.out).mono ?_; rintro e w2 ⟨rfl, hb2⟩; obtain ⟨k0, hB, hz⟩ := one_read hb2; have HB2 := Lib.hid hB; have K2 := Lib.hid k0; obtain ⟨c0, -⟩ := K2.out.2 0 (by simp); obtain ⟨c1, -⟩ := K2.out.2 1 (by simp); obtain ⟨c2, -⟩ := K2.out.2 2 (by simp); simp at c0 c1 c2; clear k0 hB hb2)
  refine (require_ok _).mono ?_
  rintro e w3 ⟨rfl, hww⟩
  rw [hww]
  clear hww w3
  have hbx := box_below w2 #[.int .i64 s.sel, .int .i64 s.win] 3
  have hd := cells_new w2 #[.int .i64 s.sel, .int .i64 s.win] 3
  have HJ : Hid (Calls Tryd.prog 22 #[.string (mk [32]), .slice (some ⟨w2.heap.size, 0, none⟩) 2 2] (w2.alloc (.cells #[.int .i64 s.sel, .int .i64 s.win] 3)) fun e w' => e = .returned (.string (mk (headT s))) ∧ Below (w2.alloc (.cells #[.int .i64 s.sel, .int .i64 s.win] 3)).heap.size (w2.alloc (.cells #[.int .i64 s.sel, .int .i64 s.win] 3)) w') :=
    joined2 w2.heap.size 32 _ (HE.out.kept (HB2.out.trans (hbx.mono HB2.out.size))) (by simp) s.sel HSZ.out.1 (hd.2 0 (by simp)).1 s.win HSZ.out.2 (hd.2 1 (by simp)).1
  have HBX := Lib.hid hbx
  clear hbx hd
  go_wp2_with fail
  refine HJ.out.mono ?_
  rintro e wL ⟨rfl, hbl⟩
  have hq := HBX.out.trans (hbl.mono HBX.out.size)
  have HBL := Lib.hid (HB2.out.trans (hq.mono HB2.out.size))
  have KL := Lib.hid (K2.out.kept hq)
  clear hq hbl c0 c1 c2
  obtain ⟨c0, -⟩ := KL.out.2 0 (by simp)
  simp at c0
  have hT0 : headT s = sumT s 0 := by unfold sumT; simp
  rw [hT0]
  clear hT0 hz
  go_wp2_with fail
  go_loopw [3, 18] (fun t i wr => ∃ k : Nat, k ≤ s.ps.length ∧ i = .int .i64 k ∧ t = .string (mk (sumT s k)) ∧ Hid (Below wL.heap.size wL wr)) (fun _ i _ => s.ps.length - (intOf i).toNat)
  case atStart => exact ⟨0, Nat.zero_le _, rfl, rfl, Below.refl _ _⟩
  case round =>
    obtain ⟨k, hk, rfl, rfl, HB⟩ := hrel
    by_cases hlt : k < s.ps.length
    · obtain rfl := Ha.out (by omega)
      obtain ⟨l, hl⟩ : ∃ l, s.ps[k] = l := ⟨_, rfl⟩
      have hbw := Hb.out (by omega)
      have hq := ((Hc.out k hlt).kept HBL.out hbw).kept HB.out (Nat.lt_of_lt_of_le hbw HBL.out.size)
      have HN := Lib.hid (sumT_succ s k hlt)
      have hpl := HP.out _ (List.getElem_mem hlt)
      rw [hl] at hq HN hpl
      obtain ⟨q0, q1, q2⟩ := hq
      have htl := sumT_len HV.out k
      obtain ⟨T0, hT⟩ : ∃ T, sumT s k = T := ⟨_, rfl⟩
      rw [hT] at HN htl ⊢
      obtain ⟨p0, p1, p2⟩ := pol_in hpl
      have hpt := polT_len hpl
      obtain ⟨J, hJ⟩ : ∃ J, polJ l = J := ⟨_, rfl⟩
      have hpJ : J.length ≤ 70 := by unfold polT at hpt; rw [hJ] at hpt; simp at hpt; omega
      have a1 := add_at Tryd.prog { data := #[32] } (mk J) (by rw [mk_size]; have : ({ data := #[32] } : ByteArray).size = 1 := rfl; omega)
      have a2 := add_at Tryd.prog (mk T0) ({ data := #[32] } ++ mk J) (by rw [ByteArray.size_append, mk_size, mk_size]; have : ({ data := #[32] } : ByteArray).size = 1 := rfl; omega)
      have HL : Hid (mk T0 ++ (({ data := #[32] } : ByteArray) ++ mk J) = mk (sumT s (k + 1))) := by
        show _ = _
        rw [HN.out, show ({ data := #[32] } : ByteArray) = mk [32] from rfl]
        simp only [mk_append]
        unfold polT
        rw [hJ]
      obtain ⟨o1, ho1⟩ : ∃ o : Obj, o = .cells #[.int .i64 l.kd, .int .i64 l.va, .int .i64 l.pe] 37 := ⟨_, rfl⟩
      have e1 : (wr.alloc o1).heap.size = wr.heap.size + 1 := by simp
      have hbx := HB.out.alloc HB.out.size o1
      have hby := box_below (wr.alloc o1) #[.int .i64 l.kd, .int .i64 l.va, .int .i64 l.pe] 3
      have HBY := Lib.hid (hbx.trans (hby.mono hbx.size))
      have hd := cells_new (wr.alloc o1) #[.int .i64 l.kd, .int .i64 l.va, .int .i64 l.pe] 3
      rw [e1] at hd
      have hj := joined3 (wr.heap.size + 1) 58 _ (HE.out.kept (HBL.out.trans (HBY.out.mono HBL.out.size))) (by simp) l.kd p0 (hd.2 0 (by simp)).1 l.va p1 (hd.2 1 (by simp)).1 l.pe p2 (hd.2 2 (by simp)).1
      rw [show Lib.itoa l.kd ++ ([58] ++ Lib.itoa l.va) ++ ([58] ++ Lib.itoa l.pe) = J from hJ] at hj
      subst ho1
      have HJJ := Lib.hid hj
      clear hj hd hby hbx e1 hJ hpt hpJ p0 p1 p2 hpl htl hT hl hbw
      go_wp2_with fail
      refine HJJ.out.mono ?_
      rintro e wM ⟨rfl, hbm⟩
      have HBM := Lib.hid (HBY.out.trans (hbm.mono HBY.out.size))
      clear hbm q0 q1 q2
      go_wp2_with fail
      rw [HL.out]
      go_roundw
      case rel => exact ⟨k + 1, by omega, by go_num, rfl, HBM.out⟩
      case measure => simp [intOf]; omega
    · obtain rfl : k = s.ps.length := by omega
      have HF := Lib.hid (text_yes HV.out)
      have HBZ := Lib.hid (HBL.out.trans (HB.out.mono HBL.out.size))
      go_wp2
      go_ret
      exact ⟨retSx HF.out, HBZ.out⟩
/-- SideText of the program. -/
theorem impl_text (s : Sd) (a : Option Addr) (cap : Nat) (x : Addr) (w : World) (he : Env w) (hS : Sen x w) (h : Pls w a s.ps) (hm : s.ps.length ≤ 9223372036854775807) :
    Calls Tryd.prog 7 #[sdV s a cap] w fun e w' => e = .returned (.string (mk (sideT s))) ∧ Below w.heap.size w w' := by
  cases hv : sideV s
  · have e : (⟨#[]⟩ : ByteArray) = mk (sideT s) := by rw [← text_no hv]; rfl
    rw [← e]
    exact side_no s a cap x w hS fun w1 hb => write_no s hv a cap x w1 (hS.kept hb) (h.kept hb) hm
  · exact side_ok s a cap _ x w hS fun w1 hb => write_yes s hv a cap w1 (he.kept hb) (h.kept hb) hm
end Go.Proofs.YtcjjdnfikccnmaaDoor.WSide
