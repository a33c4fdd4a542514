/- LatestOf and AverageOf: the model's and the program's. -/
import Derived.Test.YtimpajhgplkpmaaSof
import Derived.Test.YtimpajhgplkpmaaC1L
namespace Go.Proofs.Ytimpajhgplkpmaa.Lat
open Go.RowKit Go.Sort Go.BigFrame
open Go.Proofs.Ytimpajhgplkpmaa.C1
open Go.Proofs.Ytimpajhgplkpmaa.C2
open Go.Proofs.Ytimpajhgplkpmaa.Ints
open Go.Proofs.Ytimpajhgplkpmaa.C1L
open Go.Proofs.Ytimpajhgplkpmaa.Smps
open Go.Proofs.Ytimpajhgplkpmaa.Mem
open Go.Proofs.Ytimpajhgplkpmaa.Ser
open Go.Proofs.Ytimpajhgplkpmaa.Ser2
open Go.Proofs.Ytimpajhgplkpmaa.Key
open Go.Proofs.Ytimpajhgplkpmaa.Sto
open Go.Proofs.Ytimpajhgplkpmaa.StoL
open Go.Proofs.Ytimpajhgplkpmaa.Cnt
open Go.Proofs.Ytimpajhgplkpmaa.Ring
open Go.Proofs.Ytimpajhgplkpmaa.Find
open Go.Proofs.Ytimpajhgplkpmaa.Sof
set_option linter.unusedVariables false

def lastV (xs : List Ser) (p m : ByteArray) : Pt := match findV xs p m with
  | some s => s.pts.getLast?.getD zeroP
  | none => zeroP
def lastB (xs : List Ser) (p m : ByteArray) : Bool := (findV xs p m).isSome
theorem last_some {xs : List Ser} {p m : ByteArray} {s : Ser} (h : findV xs p m = some s) {n : Nat} (hn : n + 1 = s.pts.length) : lastV xs p m = s.pts[n] ∧ lastB xs p m = true := by
  unfold lastV lastB
  rw [h]
  refine ⟨?_, rfl⟩
  show s.pts.getLast?.getD zeroP = _
  rw [List.getLast?_eq_getElem?, show s.pts.length - 1 = n by omega, List.getElem?_eq_getElem (by omega)]
  rfl
theorem last_none {xs : List Ser} {p m : ByteArray} (h : findV xs p m = none) : lastV xs p m = zeroP ∧ lastB xs p m = false := by
  unfold lastV lastB
  rw [h]
  exact ⟨rfl, rfl⟩
theorem find_ok {xs : List Ser} {p m : ByteArray} {s : Ser} (h : findV xs p m = some s) (hv : storeV xs = true) : SerOk s := by
  unfold findV at h
  rw [hv, if_pos rfl] at h
  exact ((storeV_iff _).1 hv).ok s (List.mem_of_find?_eq_some h)
theorem ret_pt {fn : Func} (hr : fn.results = #[.cell 6 116, .tmp 7]) {W : World} {g : Nat} {p : Pt} {b : Bool} {tmps : Array Value} (h : CellsW W g [.int .i64 p.tick, .int .i64 p.val]) (h2 : tmps.getD 6 undef = .pointer (some ⟨g, 0, none⟩)) (h3 : tmps.getD 7 undef = .bool b) :
    (results fn tmps).run Try.prog W = .ok (.tuple #[ptV p, .bool b]) W := by
  have c0 := (cellsW_get h (j := 0) rfl).1
  have c1 := (cellsW_get h (j := 1) rfl).1
  rw [results_cell_tmp hr, h2, h3]
  simp [go_sem, c0, c1, ptV]
/-- The two stores of a point into its variable. -/
theorem pt_set {w : World} {g : Nat} {u0 u1 : Value} (h : CellsW w g [u0, u1]) (p : Pt) {B : Nat} (hB : B ≤ g) {a : World} (hb : Below B a w) :
    CellsW ((w.setCell ⟨g, 0, none⟩ (.int .i64 p.tick)).setCell ⟨g, 1, none⟩ (.int .i64 p.val)) g [.int .i64 p.tick, .int .i64 p.val] ∧ Below B a ((w.setCell ⟨g, 0, none⟩ (.int .i64 p.tick)).setCell ⟨g, 1, none⟩ (.int .i64 p.val)) :=
  ⟨(h.set 0 (.int .i64 p.tick) (by simp)).set 1 (.int .i64 p.val) (by simp), (hb.setCell (p := ⟨g, 0, none⟩) hB _).setCell (p := ⟨g, 1, none⟩) hB _⟩
theorem last_of (ps : List Pt) (n : Nat) (hn : n + 1 = ps.length) (hm : ps.length ≤ 1048576) (a : Option Addr) (cap : Nat) (w : World) (h : Pts w a ps) :
    Calls Try.prog 112 #[.slice a ps.length cap] w fun e w' => e = .returned (ptV (ps[n]'(by omega))) ∧ Below w.heap.size w w' := by
  obtain ⟨b, off, ha, hb, hcell⟩ := h.cells
  have hnl : n < ps.length := by omega
  obtain rfl := ha (by omega)
  have hq := (hcell n hnl).kept (box_below w #[.int .i64 0, .int .i64 0] 116) (hb (by omega))
  obtain ⟨p, hp⟩ : ∃ p, ps[n] = p := ⟨_, rfl⟩
  rw [hp] at hq ⊢
  obtain ⟨q0, q1⟩ := hq
  have he : (ps.length : Int) - 1 = (n : Int) := by omega
  have hwn : IntKind.i64.wrap (n : Int) = (n : Int) := by rw [IntKind.wrap_i64]; omega
  have HC := Lib.hid (cells_new w #[.int .i64 0, .int .i64 0] 116)
  have HBX := Lib.hid (box_below w #[.int .i64 0, .int .i64 0] 116)
  clear hcell ha hb hp h
  unfold ptV
  go_enter Try.func112, Try.ntmps112
  go_wp2
  exact bodyPost_ret (v := .agg #[.int .i64 p.tick, .int .i64 p.val]) (by simp [results, Try.results112, go_sem]) rfl ⟨rfl, box_below _ _ _⟩
end Go.Proofs.Ytimpajhgplkpmaa.Lat
