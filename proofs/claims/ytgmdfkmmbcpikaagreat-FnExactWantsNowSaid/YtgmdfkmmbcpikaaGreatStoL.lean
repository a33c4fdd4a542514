/- StoreOk of a copy, as the laws meet it. -/
import Derived.Test.YtgmdfkmmbcpikaaGreatStoS
import Derived.Test.YtgmdfkmmbcpikaaGreatStoI
namespace Go.Proofs.YtgmdfkmmbcpikaaGreat.StoL
open Go.RowKit Go.Sort
open Go.Proofs.YtgmdfkmmbcpikaaGreat.C1
open Go.Proofs.YtgmdfkmmbcpikaaGreat.C2
open Go.Proofs.YtgmdfkmmbcpikaaGreat.Smps
open Go.Proofs.YtgmdfkmmbcpikaaGreat.Mem
open Go.Proofs.YtgmdfkmmbcpikaaGreat.Ser
open Go.Proofs.YtgmdfkmmbcpikaaGreat.Ser2
open Go.Proofs.YtgmdfkmmbcpikaaGreat.Key
open Go.Proofs.YtgmdfkmmbcpikaaGreat.Sto
open Go.Proofs.YtgmdfkmmbcpikaaGreat.StoS
open Go.Proofs.YtgmdfkmmbcpikaaGreat.StoI
set_option linter.unusedVariables false

theorem map_all {ls ms : List Sv} (h : ms.map Sv.s = ls.map Sv.s) {P : Ser → Prop} (hp : ∀ l ∈ ls, P l.s) : ∀ l ∈ ms, P l.s := fun l hl => by
  have h1 : l.s ∈ ms.map Sv.s := List.mem_map.2 ⟨l, hl, rfl⟩
  rw [h] at h1
  obtain ⟨l2, hl2, e⟩ := List.mem_map.1 h1
  rw [← e]
  exact hp l2 hl2
theorem map_len {ls ms : List Sv} (h : ms.map Sv.s = ls.map Sv.s) : ms.length = ls.length := by have := congrArg List.length h; simpa using this
theorem sum_pts {ls : List Sv} (h : ∀ l ∈ ls, l.s.sum ≤ 1048576) : ∀ l ∈ ls, l.s.pts.length ≤ 1048576 := fun l hl => by
  have := h l hl
  unfold Ser.sum at this
  omega
theorem spec_store2 (ls ms : List Sv) (hs : ms.map Sv.s = ls.map Sv.s) (a : Option Addr) (cap : Nat) (w : World) (hwf : ∀ l ∈ ls, l.s.wf) (h : Srs w a ms) (hm : ls.length ≤ 1048576) :
    Calls Tryz.prog 28 #[.slice a ls.length cap] w fun e w' => e = .returned (.bool (storeV (ls.map Sv.s))) ∧ Below w.heap.size w w' := by
  have hl := map_len hs
  have := spec_store ms a cap w (map_all hs hwf) h (by omega)
  rw [hl, hs] at this
  exact this
theorem impl_store2 (ls ms : List Sv) (hs : ms.map Sv.s = ls.map Sv.s) (a : Option Addr) (cap : Nat) (w : World) (hwf : ∀ l ∈ ls, l.s.wf) (hpl : ∀ l ∈ ls, l.s.pts.length ≤ 1048576) (h : Srs w a ms) (hm : ls.length ≤ 1048576) :
    Calls Tryz.prog 40 #[.slice a ls.length cap] w fun e w' => e = .returned (.bool (storeV (ls.map Sv.s))) ∧ Below w.heap.size w w' := by
  have hl := map_len hs
  have := impl_store ms a cap w (map_all hs hwf) (map_all (P := fun s => s.pts.length ≤ 1048576) hs hpl) h (by omega)
  rw [hl, hs] at this
  exact this
/-- The comparison at the law's end: two copies of one list. -/
theorem eq_series2 (ls ms ns : List Sv) (hs : ms.map Sv.s = ls.map Sv.s) (hs' : ns.map Sv.s = ls.map Sv.s) (a a' : Option Addr) (cap cap' : Nat) (w : World) (h : Srs w a ms) (h' : Srs w a' ns) (hm : ls.length ≤ 1048576) (hp : ∀ l ∈ ls, l.s.pts.length ≤ 1048576) :
    Calls Tryz.prog 44 #[.slice a ls.length cap, .slice a' ls.length cap'] w fun e w' => e = .returned (.bool true) ∧ Below w.heap.size w w' := by
  have hl := map_len hs
  have := eq_series ms ns a a' cap cap' w (hs'.trans hs.symm) h h' (by omega) (map_all (P := fun s => s.pts.length ≤ 1048576) hs hp)
  rw [hl] at this
  exact this
end Go.Proofs.YtgmdfkmmbcpikaaGreat.StoL
