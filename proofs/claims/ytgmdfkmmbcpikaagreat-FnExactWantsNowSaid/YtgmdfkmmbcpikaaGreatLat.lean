/- LatestOf and AverageOf: the model's and the program's. -/
import Derived.Test.YtgmdfkmmbcpikaaGreatSof
import Derived.Test.YtgmdfkmmbcpikaaGreatC1L
namespace Go.Proofs.YtgmdfkmmbcpikaaGreat.Lat
open Go.RowKit Go.Sort Go.BigFrame
open Go.Proofs.YtgmdfkmmbcpikaaGreat.C1
open Go.Proofs.YtgmdfkmmbcpikaaGreat.C2
open Go.Proofs.YtgmdfkmmbcpikaaGreat.Ints
open Go.Proofs.YtgmdfkmmbcpikaaGreat.C1L
open Go.Proofs.YtgmdfkmmbcpikaaGreat.Smps
open Go.Proofs.YtgmdfkmmbcpikaaGreat.Mem
open Go.Proofs.YtgmdfkmmbcpikaaGreat.Ser
open Go.Proofs.YtgmdfkmmbcpikaaGreat.Ser2
open Go.Proofs.YtgmdfkmmbcpikaaGreat.Key
open Go.Proofs.YtgmdfkmmbcpikaaGreat.Sto
open Go.Proofs.YtgmdfkmmbcpikaaGreat.StoL
open Go.Proofs.YtgmdfkmmbcpikaaGreat.Cnt
open Go.Proofs.YtgmdfkmmbcpikaaGreat.Ring
open Go.Proofs.YtgmdfkmmbcpikaaGreat.Find
open Go.Proofs.YtgmdfkmmbcpikaaGreat.Sof
set_option linter.unusedVariables false

def lastV (xs : List Ser) (p m : ByteArray) : Pt := match findV xs p m with
  | some s => s.pts.getLast?.getD zeroP
  | none => zeroP
def lastB (xs : List Ser) (p m : ByteArray) : Bool := (findV xs p m).isSome
theorem last_some {xs : List Ser} {p m : ByteArray} {s : Ser} (h : findV xs p m = some s) {n : Nat} (hn : n + 1 = s.pts.length) : lastV xs p m = s.pts[n] ∧ lastB xs p m = true := by
  unfold lastV lastB
  rw [h]
  refine ⟨?_, rfl⟩
  show s.pts.getLast?.getD zeroP = _
  rw [List.getLast?_eq_getElem?, show s.pts.length - 1 = n by omega, List.getElem?_eq_getElem (by omega)]
  rfl
theorem last_none {xs : List Ser} {p m : ByteArray} (h : findV xs p m = none) : lastV xs p m = zeroP ∧ lastB xs p m = false := by
  unfold lastV lastB
  rw [h]
  exact ⟨rfl, rfl⟩
theorem find_ok {xs : List Ser} {p m : ByteArray} {s : Ser} (h : findV xs p m = some s) (hv : storeV xs = true) : SerOk s := by
  unfold findV at h
  rw [hv, if_pos rfl] at h
  exact ((storeV_iff _).1 hv).ok s (List.mem_of_find?_eq_some h)
theorem ret_pt {fn : Func} (hr : fn.results = #[.cell 6 123, .tmp 7]) {W : World} {g : Nat} {p : Pt} {b : Bool} {tmps : Array Value} (h : CellsW W g [.int .i64 p.tick, .int .i64 p.val]) (h2 : tmps.getD 6 undef = .pointer (some ⟨g, 0, none⟩)) (h3 : tmps.getD 7 undef = .bool b) :
    (results fn tmps).run Tryz.prog W = .ok (.tuple #[ptV p, .bool b]) W := by
  have c0 := (cellsW_get h (j := 0) rfl).1
  have c1 := (cellsW_get h (j := 1) rfl).1
  rw [results_cell_tmp hr, h2, h3]
  simp [go_sem, c0, c1, ptV]
/-- The two stores of a point into its variable. -/
theorem pt_set {w : World} {g : Nat} {u0 u1 : Value} (h : CellsW w g [u0, u1]) (p : Pt) {B : Nat} (hB : B ≤ g) {a : World} (hb : Below B a w) :
    CellsW ((w.setCell ⟨g, 0, none⟩ (.int .i64 p.tick)).setCell ⟨g, 1, none⟩ (.int .i64 p.val)) g [.int .i64 p.tick, .int .i64 p.val] ∧ Below B a ((w.setCell ⟨g, 0, none⟩ (.int .i64 p.tick)).setCell ⟨g, 1, none⟩ (.int .i64 p.val)) :=
  ⟨(h.set 0 (.int .i64 p.tick) (by simp)).set 1 (.int .i64 p.val) (by simp), (hb.setCell (p := ⟨g, 0, none⟩) hB _).setCell (p := ⟨g, 1, none⟩) hB _⟩
theorem last_of (ps : List Pt) (n : Nat) (hn : n + 1 = ps.length) (hm : ps.length ≤ 1048576) (a : Option Addr) (cap : Nat) (w : World) (h : Pts w a ps) :
    Calls Tryz.prog 233 #[.slice a ps.length cap] w fun e w' => e = .returned (ptV (ps[n]'(by omega))) ∧ Below w.heap.size w w' := by
  obtain ⟨b, off, ha, hb, hcell⟩ := h.cells
  have hnl : n < ps.length := by omega
  obtain rfl := ha (by omega)
  have hq := (hcell n hnl).kept (box_below w #[.int .i64 0, .int .i64 0] 123) (hb (by omega))
  obtain ⟨p, hp⟩ : ∃ p, ps[n] = p := ⟨_, rfl⟩
  rw [hp] at hq ⊢
  obtain ⟨q0, q1⟩ := hq
  have he : (ps.length : Int) - 1 = (n : Int) := by omega
  have hwn : IntKind.i64.wrap (n : Int) = (n : Int) := by rw [IntKind.wrap_i64]; omega
  have HC := Lib.hid (cells_new w #[.int .i64 0, .int .i64 0] 123)
  have HBX := Lib.hid (box_below w #[.int .i64 0, .int .i64 0] 123)
  clear hcell ha hb hp h
  unfold ptV
  go_enter Tryz.func233, Tryz.ntmps233
  go_wp2
  exact bodyPost_ret (v := .agg #[.int .i64 p.tick, .int .i64 p.val]) (by simp [results, Tryz.results233, go_sem]) rfl ⟨rfl, box_below _ _ _⟩
set_option maxHeartbeats 1000000 in
set_option maxRecDepth 20000 in
theorem spec_latest (ls : List Sv) (a : Option Addr) (cap : Nat) (p m : ByteArray) (w : World) (hwf : ∀ l ∈ ls, l.s.wf) (hpl : ∀ l ∈ ls, l.s.pts.length ≤ 1048576) (h : Srs w a ls) (hm : ls.length ≤ 1048576) :
    Calls Tryz.prog 134 #[.slice a ls.length cap, .string p, .string m] w fun e w' => e = .returned (.tuple #[ptV (lastV (ls.map Sv.s) p m), .bool (lastB (ls.map Sv.s) p m)]) ∧ Below w.heap.size w w' := by
  have hbx := box_below w #[.int .i64 0, .int .i64 0] 123
  have HBX := Lib.hid hbx
  have HC := Lib.hid (cells_new w #[.int .i64 0, .int .i64 0] 123)
  have hcon := spec_sof ls a cap p m (w.alloc (.cells #[.int .i64 0, .int .i64 0] 123)) hwf hpl (h.kept hbx) hm
  have HCON := Lib.hid hcon
  clear hcon hbx hwf hpl h
  go_enter Tryz.func134, Tryz.ntmps134
  go_wp2_with fail
  refine HCON.out.mono ?_
  rintro e u1 ⟨hs, hb1⟩
  have HB1 := Lib.hid (HBX.out.trans (hb1.mono HBX.out.size))
  have HC1 := Lib.hid (HC.out.kept hb1)
  clear hb1
  rcases hs with ⟨hf, rfl⟩ | ⟨s, v, hf, hv, rfl, ho⟩
  · obtain ⟨c0, f0⟩ := cellsW_get HC1.out (j := 0) rfl
    obtain ⟨c1, f1⟩ := cellsW_get HC1.out (j := 1) rfl
    obtain ⟨e1, e2⟩ := last_none hf
    have HE1 := Lib.hid e1
    have HE2 := Lib.hid e2
    clear hf e1 e2
    go_wp2
    obtain ⟨k1, k2⟩ := pt_set HC1.out zeroP (Nat.le_refl w.heap.size) HB1.out
    rw [HE1.out, HE2.out]
    exact bodyPost_ret (ret_pt rfl k1 rfl rfl) rfl ⟨rfl, k2⟩
  · have hone := (find_ok hf hv).pts.one
    have hmost := (find_ok hf hv).pts.most
    obtain ⟨n, hn⟩ : ∃ n, n + 1 = s.pts.length := ⟨s.pts.length - 1, by omega⟩
    have hnl : n < s.pts.length := by omega
    obtain ⟨g, cap', rfl⟩ : ∃ g cap', v = .slice (some ⟨g, 0, none⟩) s.pts.length cap' := by
      rcases ho.2 with ⟨hv, h0⟩ | ⟨g, cap', cur, hv, _⟩
      · omega
      · exact ⟨g, cap', hv⟩
    obtain ⟨q0, q1⟩ := ho.at2 n hnl
    obtain ⟨e1, e2⟩ := last_some hf hn
    obtain ⟨x, hx⟩ : ∃ x, s.pts[n] = x := ⟨_, rfl⟩
    rw [hx] at q0 q1 e1
    have he : (s.pts.length : Int) - 1 = (n : Int) := by omega
    have hwn : IntKind.i64.wrap (n : Int) = (n : Int) := by rw [IntKind.wrap_i64]; omega
    obtain ⟨c0, f0⟩ := cellsW_get HC1.out (j := 0) rfl
    obtain ⟨c1, f1⟩ := cellsW_get HC1.out (j := 1) rfl
    have HE1 := Lib.hid e1
    have HE2 := Lib.hid e2
    clear hf hv ho hx e1 e2 hn
    go_wp2
    obtain ⟨k1, k2⟩ := pt_set HC1.out x (Nat.le_refl w.heap.size) HB1.out
    rw [HE1.out, HE2.out]
    exact bodyPost_ret (ret_pt rfl k1 rfl rfl) rfl ⟨rfl, k2⟩
set_option maxHeartbeats 1000000 in
set_option maxRecDepth 20000 in
theorem impl_latest (ls : List Sv) (a : Option Addr) (cap : Nat) (p m : ByteArray) (w : World) (hwf : ∀ l ∈ ls, l.s.wf) (hpl : ∀ l ∈ ls, l.s.pts.length ≤ 1048576) (h : Srs w a ls) (hm : ls.length ≤ 1048576) :
    Calls Tryz.prog 215 #[.slice a ls.length cap, .string p, .string m] w fun e w' => e = .returned (.tuple #[ptV (lastV (ls.map Sv.s) p m), .bool (lastB (ls.map Sv.s) p m)]) ∧ Below w.heap.size w w' := by
  have hbx := box_below w #[.int .i64 0, .int .i64 0] 123
  have HBX := Lib.hid hbx
  have HC := Lib.hid (cells_new w #[.int .i64 0, .int .i64 0] 123)
  have hcon := impl_find ls a cap p m (w.alloc (.cells #[.int .i64 0, .int .i64 0] 123)) hwf hpl (h.kept hbx) hm
  have HCON := Lib.hid hcon
  have HH := Lib.hid (h.kept hbx)
  have HP := Lib.hid hpl
  clear hcon hbx hwf hpl h
  go_enter Tryz.func215, Tryz.ntmps215
  go_wp2_with fail
  refine HCON.out.mono ?_
  rintro e u1 ⟨hs, hb1⟩
  have HB1 := Lib.hid (HBX.out.trans (hb1.mono HBX.out.size))
  have HC1 := Lib.hid (HC.out.kept hb1)
  have HH1 := Lib.hid (HH.out.kept hb1)
  clear hb1
  rcases hs with ⟨hf, rfl⟩ | ⟨i, hi, hf, hv, rfl⟩
  · obtain ⟨c0, f0⟩ := cellsW_get HC1.out (j := 0) rfl
    obtain ⟨c1, f1⟩ := cellsW_get HC1.out (j := 1) rfl
    obtain ⟨e1, e2⟩ := last_none hf
    have HE1 := Lib.hid e1
    have HE2 := Lib.hid e2
    clear hf e1 e2
    go_wp2
    obtain ⟨k1, k2⟩ := pt_set HC1.out zeroP (Nat.le_refl w.heap.size) HB1.out
    rw [HE1.out, HE2.out]
    exact bodyPost_ret (ret_pt rfl k1 rfl rfl) rfl ⟨rfl, k2⟩
  · have hone := (find_ok hf hv).pts.one
    obtain ⟨n, hn⟩ : ∃ n, n + 1 = ls[i].s.pts.length := ⟨ls[i].s.pts.length - 1, by omega⟩
    have hpt : Pts u1 ls[i].a ls[i].s.pts := by
      rcases HH1.out with h | ⟨b, off, _, _, h⟩
      · subst h; simp at hi
      · exact (h i hi).2
    obtain ⟨e1, e2⟩ := last_some hf hn
    have hlast := last_of ls[i].s.pts n hn (HP.out _ (List.getElem_mem hi)) ls[i].a ls[i].cap u1 hpt
    obtain ⟨x, hx⟩ : ∃ x, ls[i].s.pts[n]'(by omega) = x := ⟨_, rfl⟩
    rw [hx] at e1 hlast
    have HE1 := Lib.hid e1
    have HE2 := Lib.hid e2
    have HL := Lib.hid hlast
    clear hf hv e1 e2 hlast hpt hx
    unfold ptV at HL
    go_wp2_with (go_at_call 233; refine HL.out.mono ?_; rintro e u2 ⟨rfl, hb2⟩; have HB2 := Lib.hid (HB1.out.trans (hb2.mono HB1.out.size)); have HC2 := Lib.hid (HC1.out.kept hb2); obtain ⟨c0, f0⟩ := cellsW_get HC2.out (j := 0) rfl; obtain ⟨c1, f1⟩ := cellsW_get HC2.out (j := 1) rfl; clear hb2)
    obtain ⟨k1, k2⟩ := pt_set HC2.out x (Nat.le_refl w.heap.size) HB2.out
    rw [HE1.out, HE2.out]
    exact bodyPost_ret (ret_pt rfl k1 rfl rfl) rfl ⟨rfl, k2⟩
end Go.Proofs.YtgmdfkmmbcpikaaGreat.Lat
