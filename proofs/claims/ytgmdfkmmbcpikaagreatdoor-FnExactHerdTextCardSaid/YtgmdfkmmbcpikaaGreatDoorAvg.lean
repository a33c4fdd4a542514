/- AverageOf: the model's and the program's. -/
import Derived.Test.YtgmdfkmmbcpikaaGreatDoorLat
import Derived.Maps.AppendAt
namespace Go.Proofs.YtgmdfkmmbcpikaaGreatDoor.Avg
open Go.RowKit Go.Sort Go.BigFrame
open Go.Proofs.YtgmdfkmmbcpikaaGreatDoor.C1
open Go.Proofs.YtgmdfkmmbcpikaaGreatDoor.C2
open Go.Proofs.YtgmdfkmmbcpikaaGreatDoor.Ints
open Go.Proofs.YtgmdfkmmbcpikaaGreatDoor.C1L
open Go.Proofs.YtgmdfkmmbcpikaaGreatDoor.Smps
open Go.Proofs.YtgmdfkmmbcpikaaGreatDoor.Mem
open Go.Proofs.YtgmdfkmmbcpikaaGreatDoor.Ser
open Go.Proofs.YtgmdfkmmbcpikaaGreatDoor.Ser2
open Go.Proofs.YtgmdfkmmbcpikaaGreatDoor.Key
open Go.Proofs.YtgmdfkmmbcpikaaGreatDoor.Sto
open Go.Proofs.YtgmdfkmmbcpikaaGreatDoor.StoL
open Go.Proofs.YtgmdfkmmbcpikaaGreatDoor.Cnt
open Go.Proofs.YtgmdfkmmbcpikaaGreatDoor.Ring
open Go.Proofs.YtgmdfkmmbcpikaaGreatDoor.Find
open Go.Proofs.YtgmdfkmmbcpikaaGreatDoor.Sof
open Go.Proofs.YtgmdfkmmbcpikaaGreatDoor.Lat
set_option linter.unusedVariables false

theorem info_i : ∃ i, Tryz.prog.info? 3 = some i ∧ i.zero = some (.int .i64 0) ∧ i.size = 1 ∧ i.bytes = 8 := by
  have h : (Tryz.prog.info? 3).map (fun i => (i.zero, i.size, i.bytes)) = some (some (.int .i64 0), 1, 8) := by kernel_rfl
  obtain ⟨i, hi, hz⟩ := Option.map_eq_some_iff.1 h
  simp only [Prod.mk.injEq] at hz
  exact ⟨i, hi, hz.1, hz.2.1, hz.2.2⟩
def OwnI (w : World) (B : Nat) (v : Value) (xs : List Int) : Prop := w.ownsRow B 3 1 v xs.length (xs.map (Value.int .i64))
theorem OwnI.snoc {w : World} {B : Nat} {v : Value} {xs : List Int} {x : Int} (h : w.ownsRow B 3 1 v (xs.length + 1) (xs.map (Value.int .i64) ++ [.int .i64 x])) : OwnI w B v (xs ++ [x]) := by
  unfold OwnI
  rw [List.length_append, List.map_append]
  exact h
theorem OwnI.ints {w : World} {B : Nat} {v : Value} {xs : List Int} (h : OwnI w B v xs) : ∃ a cap, v = .slice a xs.length cap ∧ Ints w a xs := by
  have h' := h
  rcases h.2 with ⟨hv, h0⟩ | ⟨g, cap, cur, hv, r⟩
  · exact ⟨none, 0, by rw [hv, h0], .inl (List.length_eq_zero_iff.1 h0)⟩
  · subst hv
    exact ⟨_, cap, rfl, owned_ints h' rfl⟩
theorem new_rowI (w : World) : OwnI (w.alloc (.cells #[] 3)) w.heap.size (.slice (some ⟨w.heap.size, 0, none⟩) 0 0) [] := World.ownsRow_lit (e := 3) (size := 1) (base := w.heap.size) w #[] 0 (Nat.le_refl _) (by unfold maxLen; omega) rfl
theorem nil_rowI (w : World) (B : Nat) : OwnI w B (.slice none 0 0) [] := ⟨rfl, .inl ⟨rfl, rfl⟩⟩
theorem one_cell (w : World) (v : Value) (t : TypeId) : ∀ (j : Nat) (u : Value), [v][j]? = some u → (w.alloc (.cells #[v] t)).cell? ((⟨w.heap.size, 0, none⟩ : Addr).add j) = some u := by
  intro j u hj
  match j, hj with
  | 0, hj => simp at hj; subst hj; simp [Addr.add]
def inT (f t : Int) (p : Pt) : Bool := decide (f < p.tick) && decide (p.tick ≤ t)
def pick (f t : Int) (ps : List Pt) : List Int := (ps.filter (inT f t)).map Pt.val
theorem pick_yes {f t : Int} {ps : List Pt} {k : Nat} (hk : k < ps.length) (h : inT f t ps[k] = true) : pick f t (ps.take (k + 1)) = pick f t (ps.take k) ++ [ps[k].val] := by
  unfold pick
  rw [List.take_succ_eq_append_getElem hk, List.filter_append, List.map_append]
  simp [h]
theorem pick_no {f t : Int} {ps : List Pt} {k : Nat} (hk : k < ps.length) (h : inT f t ps[k] = false) : pick f t (ps.take (k + 1)) = pick f t (ps.take k) := by
  unfold pick
  rw [List.take_succ_eq_append_getElem hk, List.filter_append, List.map_append]
  simp [h]
theorem pick_len (f t : Int) (ps : List Pt) : (pick f t ps).length ≤ ps.length := by
  unfold pick
  rw [List.length_map]
  exact List.length_filter_le _ _
def ptsOf (xs : List Ser) (p m : ByteArray) : List Pt := match findV xs p m with
  | some s => s.pts
  | none => []
theorem ptsOf_some {xs : List Ser} {p m : ByteArray} {s : Ser} (h : findV xs p m = some s) : ptsOf xs p m = s.pts := by unfold ptsOf; rw [h]
theorem ptsOf_none {xs : List Ser} {p m : ByteArray} (h : findV xs p m = none) : ptsOf xs p m = [] := by unfold ptsOf; rw [h]
/-- The average asked for. -/
def avgL (xs : List Ser) (p m : ByteArray) (f t : Int) : List Int := pick f t (ptsOf xs p m)
theorem at2_far {w w' : World} {row : Option Nat} (hg : w.grownBy w' row) {b o : Nat} {p : Pt} (h : At2 w b o p) (hne : some b ≠ row) : At2 w' b o p := ⟨hg.cell h.1 hne, hg.cell h.2 hne⟩
end Go.Proofs.YtgmdfkmmbcpikaaGreatDoor.Avg
