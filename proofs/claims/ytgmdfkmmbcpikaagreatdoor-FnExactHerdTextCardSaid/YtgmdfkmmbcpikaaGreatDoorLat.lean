/- LatestOf and AverageOf: the model's and the program's. -/
import Derived.Test.YtgmdfkmmbcpikaaGreatDoorSof
import Derived.Test.YtgmdfkmmbcpikaaGreatDoorC1L
namespace Go.Proofs.YtgmdfkmmbcpikaaGreatDoor.Lat
open Go.RowKit Go.Sort Go.BigFrame
open Go.Proofs.YtgmdfkmmbcpikaaGreatDoor.C1
open Go.Proofs.YtgmdfkmmbcpikaaGreatDoor.C2
open Go.Proofs.YtgmdfkmmbcpikaaGreatDoor.Ints
open Go.Proofs.YtgmdfkmmbcpikaaGreatDoor.C1L
open Go.Proofs.YtgmdfkmmbcpikaaGreatDoor.Smps
open Go.Proofs.YtgmdfkmmbcpikaaGreatDoor.Mem
open Go.Proofs.YtgmdfkmmbcpikaaGreatDoor.Ser
open Go.Proofs.YtgmdfkmmbcpikaaGreatDoor.Ser2
open Go.Proofs.YtgmdfkmmbcpikaaGreatDoor.Key
open Go.Proofs.YtgmdfkmmbcpikaaGreatDoor.Sto
open Go.Proofs.YtgmdfkmmbcpikaaGreatDoor.StoL
open Go.Proofs.YtgmdfkmmbcpikaaGreatDoor.Cnt
open Go.Proofs.YtgmdfkmmbcpikaaGreatDoor.Ring
open Go.Proofs.YtgmdfkmmbcpikaaGreatDoor.Find
open Go.Proofs.YtgmdfkmmbcpikaaGreatDoor.Sof
set_option linter.unusedVariables false

def lastV (xs : List Ser) (p m : ByteArray) : Pt := match findV xs p m with
  | some s => s.pts.getLast?.getD zeroP
  | none => zeroP
def lastB (xs : List Ser) (p m : ByteArray) : Bool := (findV xs p m).isSome
theorem last_some {xs : List Ser} {p m : ByteArray} {s : Ser} (h : findV xs p m = some s) {n : Nat} (hn : n + 1 = s.pts.length) : lastV xs p m = s.pts[n] ∧ lastB xs p m = true := by
  unfold lastV lastB
  rw [h]
  refine ⟨?_, rfl⟩
  show s.pts.getLast?.getD zeroP = _
  rw [List.getLast?_eq_getElem?, show s.pts.length - 1 = n by omega, List.getElem?_eq_getElem (by omega)]
  rfl
theorem last_none {xs : List Ser} {p m : ByteArray} (h : findV xs p m = none) : lastV xs p m = zeroP ∧ lastB xs p m = false := by
  unfold lastV lastB
  rw [h]
  exact ⟨rfl, rfl⟩
theorem find_ok {xs : List Ser} {p m : ByteArray} {s : Ser} (h : findV xs p m = some s) (hv : storeV xs = true) : SerOk s := by
  unfold findV at h
  rw [hv, if_pos rfl] at h
  exact ((storeV_iff _).1 hv).ok s (List.mem_of_find?_eq_some h)
theorem ret_pt {fn : Func} (hr : fn.results = #[.cell 6 215, .tmp 7]) {W : World} {g : Nat} {p : Pt} {b : Bool} {tmps : Array Value} (h : CellsW W g [.int .i64 p.tick, .int .i64 p.val]) (h2 : tmps.getD 6 undef = .pointer (some ⟨g, 0, none⟩)) (h3 : tmps.getD 7 undef = .bool b) :
    (results fn tmps).run Tryz.prog W = .ok (.tuple #[ptV p, .bool b]) W := by
  have c0 := (cellsW_get h (j := 0) rfl).1
  have c1 := (cellsW_get h (j := 1) rfl).1
  rw [results_cell_tmp hr, h2, h3]
  simp [go_sem, c0, c1, ptV]
/-- The two stores of a point into its variable. -/
theorem pt_set {w : World} {g : Nat} {u0 u1 : Value} (h : CellsW w g [u0, u1]) (p : Pt) {B : Nat} (hB : B ≤ g) {a : World} (hb : Below B a w) :
    CellsW ((w.setCell ⟨g, 0, none⟩ (.int .i64 p.tick)).setCell ⟨g, 1, none⟩ (.int .i64 p.val)) g [.int .i64 p.tick, .int .i64 p.val] ∧ Below B a ((w.setCell ⟨g, 0, none⟩ (.int .i64 p.tick)).setCell ⟨g, 1, none⟩ (.int .i64 p.val)) :=
  ⟨(h.set 0 (.int .i64 p.tick) (by simp)).set 1 (.int .i64 p.val) (by simp), (hb.setCell (p := ⟨g, 0, none⟩) hB _).setCell (p := ⟨g, 1, none⟩) hB _⟩
end Go.Proofs.YtgmdfkmmbcpikaaGreatDoor.Lat
