/- CountPoints: the model's and the program's. -/
import Derived.Test.YtgmdfkmmbcpikaaGreatStoL
namespace Go.Proofs.YtgmdfkmmbcpikaaGreat.Cnt
open Go.RowKit Go.Sort
open Go.Proofs.YtgmdfkmmbcpikaaGreat.C1
open Go.Proofs.YtgmdfkmmbcpikaaGreat.C2
open Go.Proofs.YtgmdfkmmbcpikaaGreat.Smps
open Go.Proofs.YtgmdfkmmbcpikaaGreat.Mem
open Go.Proofs.YtgmdfkmmbcpikaaGreat.Ser
open Go.Proofs.YtgmdfkmmbcpikaaGreat.Ser2
open Go.Proofs.YtgmdfkmmbcpikaaGreat.Key
open Go.Proofs.YtgmdfkmmbcpikaaGreat.Sto
open Go.Proofs.YtgmdfkmmbcpikaaGreat.StoL
set_option linter.unusedVariables false

def cnt (xs : List Ser) (k : Nat) : Nat := ((xs.take k).map fun s => s.pts.length).sum
theorem cnt_next (xs : List Ser) (k : Nat) (h : k < xs.length) : cnt xs (k + 1) = cnt xs k + xs[k].pts.length := by
  unfold cnt
  rw [List.take_succ_eq_append_getElem h, List.map_append, List.sum_append]
  simp only [List.map_cons, List.map_nil, List.sum_cons, List.sum_nil, Nat.add_zero]
theorem cnt_all (xs : List Ser) : cnt xs xs.length = (xs.map fun s => s.pts.length).sum := by unfold cnt; rw [List.take_of_length_le (Nat.le_refl _)]
def countV (xs : List Ser) : Int := if storeV xs = true then (((xs.map fun s => s.pts.length).sum : Nat) : Int) else -1
theorem store_pts {ls : List Sv} (h : storeV (ls.map Sv.s) = true) (k : Nat) (hk : k < ls.length) : ls[k].s.pts.length ≤ 12 ∧ 1 ≤ ls[k].s.pts.length := by
  have := (((storeV_iff _).1 h).ok ls[k].s (List.mem_map.2 ⟨_, List.getElem_mem hk, rfl⟩)).pts
  exact ⟨this.most, this.one⟩
theorem store_len {ls : List Sv} (h : storeV (ls.map Sv.s) = true) : ls.length ≤ 24 := by
  have := ((storeV_iff _).1 h).most
  simpa using this
theorem cnt_sv {ls : List Sv} (k : Nat) (h : k < ls.length) : cnt (ls.map Sv.s) (k + 1) = cnt (ls.map Sv.s) k + ls[k].s.pts.length := by
  have := cnt_next (ls.map Sv.s) k (by simpa using h)
  simpa using this
end Go.Proofs.YtgmdfkmmbcpikaaGreat.Cnt
