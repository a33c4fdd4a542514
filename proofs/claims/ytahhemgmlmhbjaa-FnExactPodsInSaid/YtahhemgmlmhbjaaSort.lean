/- slices.SortStableFunc at samples: its exchanges, rotations, symmetric merges and blocks, by contracts over the plain mathematics of StM. -/
import Derived.Test.YtahhemgmlmhbjaaCmp
import Derived.Test.YtahhemgmlmhbjaaStM
import Derived.Shelf.SlSortCmp.InsertionK
import Derived.Shelf.SlSortFuncK.SWK
namespace Go.Proofs.Ytahhemgmlmhbjaa.Sort
open Go.Shelf Go.RowKit Go.Lib Go.Sort
open Go.Proofs.Ytahhemgmlmhbjaa.C1
open Go.Proofs.Ytahhemgmlmhbjaa.C2
open Go.Proofs.Ytahhemgmlmhbjaa.Smps
open Go.Proofs.Ytahhemgmlmhbjaa.StM
open Go.Proofs.Ytahhemgmlmhbjaa.Cmp
set_option linter.unusedVariables false

/-- The element i of the row that is sorted is the sample xs i: rows are told by places of origin. -/
def encX (xs : List Smp) (i : Nat) : List Value := encS (xs.getD i default)
theorem encX_len (xs : List Smp) (i : Nat) : (encX xs i).length = 4 := rfl
theorem encX_one (xs : List Smp) (i : Nat) : ∀ v ∈ encX xs i, v.oneCell' = true := by
  intro v hv
  simp [encX, encS] at hv
  rcases hv with rfl | rfl | rfl | rfl <;> rfl

variable (xs : List Smp)

structure Row (w0 : World) (blk off : Nat) (d0 : Array Nat) : Prop where
  hH : HoldsK (encX xs) 4 w0 blk off d0
  hblk : blk < w0.heap.size
  hsz : d0.size ≤ 1000

/-- The cells of an element, as the walk reads and writes them. -/
def Spot (W : World) (blk o : Nat) (s : Smp) : Prop :=
  (W.cell? ⟨blk, o, none⟩ = some (.string s.pod) ∧ W.cell? ⟨blk, o + 1, none⟩ = some (.string s.met) ∧ W.cell? ⟨blk, o + 2, none⟩ = some (.int .i64 s.val) ∧ W.cell? ⟨blk, o + 3, none⟩ = some (.int .i64 s.tick)) ∧
  W.frozen? ⟨blk, o, none⟩ = false ∧ W.frozen? ⟨blk, o + 1, none⟩ = false ∧ W.frozen? ⟨blk, o + 2, none⟩ = false ∧ W.frozen? ⟨blk, o + 3, none⟩ = false
theorem spot_of {xs : List Smp} {W : World} {blk off : Nat} {d : Array Nat} (h : HoldsK (encX xs) 4 W blk off d) {i : Nat} (hi : i < d.size) : Spot W blk (off + i * 4) (xs.getD d[i]! default) := by
  have c0 := h.cell hi (show 0 < 4 by omega)
  have c1 := h.cell hi (show 1 < 4 by omega)
  have c2 := h.cell hi (show 2 < 4 by omega)
  have c3 := h.cell hi (show 3 < 4 by omega)
  exact ⟨⟨c0.1, c1.1, c2.1, c3.1⟩, c0.2, c1.2, c2.2, c3.2⟩
theorem swp_world {w0 wr : World} {blk off : Nat} {dk : Array Nat} (S : SWK (encX xs) 4 w0 blk off dk wr) (hblk : blk < w0.heap.size) (i j : Nat) (hi : i < dk.size) (hj : j < dk.size) {si sj : Smp} (hsi : xs.getD dk[i]! default = si) (hsj : xs.getD dk[j]! default = sj) :
    SWK (encX xs) 4 w0 blk off (swp dk i j) ((((((((wr.setCell ⟨blk, off + i * 4, none⟩ (.string sj.pod)).setCell ⟨blk, off + i * 4 + 1, none⟩ (.string sj.met)).setCell ⟨blk, off + i * 4 + 2, none⟩ (.int .i64 sj.val)).setCell ⟨blk, off + i * 4 + 3, none⟩ (.int .i64 sj.tick)).setCell
      ⟨blk, off + j * 4, none⟩ (.string si.pod)).setCell ⟨blk, off + j * 4 + 1, none⟩ (.string si.met)).setCell ⟨blk, off + j * 4 + 2, none⟩ (.int .i64 si.val)).setCell ⟨blk, off + j * 4 + 3, none⟩ (.int .i64 si.tick)).drew := by
  subst hsi hsj
  exact (S.swap (encX_len xs) hblk i j hi hj).drewN 1

set_option maxHeartbeats 4000000 in
set_option maxRecDepth 100000 in
theorem swap_range (w0 : World) (blk off cap : Nat) (d0 d : Array Nat) (R : Row xs w0 blk off d0) (hd : d.size = d0.size) (a b n : Nat) (h1 : a + n ≤ b) (h2 : b + n ≤ d.size) (F : Value) (w : World) (S : SWK (encX xs) 4 w0 blk off d w) :
    Calls Try.prog 78 #[.slice (some ⟨blk, off, none⟩) d.size cap, .int .i64 a, .int .i64 b, .int .i64 n, F] w fun e w' => e = .returned (.tuple #[]) ∧ SWK (encX xs) 4 w0 blk off (mapIx d (swf a b n)) w' := by
  have mixed : Try.prog.follows .mixedOrders = true := by kernel_rfl
  have hsz := R.hsz
  have HS0 : Hid (SWK (encX xs) 4 w0 blk off (mapIx d (swf a b 0)) w) := by show SWK _ _ _ _ _ _ _; rw [swf_zero]; exact S
  clear S
  obtain ⟨D, hD⟩ : ∃ D, D = d.size := ⟨_, rfl⟩
  rw [← hD] at h2 hd ⊢
  go_enter Try.func78, Try.ntmps78
  go_wp2
  go_loopw [10] (fun vi wr => ∃ k : Nat, k ≤ n ∧ vi = .int .i64 k ∧ Hid (SWK (encX xs) 4 w0 blk off (mapIx d (swf a b k)) wr)) (fun vi _ => n - (intOf vi).toNat)
  case atStart => exact ⟨0, Nat.zero_le _, rfl, HS0⟩
  case round =>
    obtain ⟨k, hk, rfl, HS⟩ := hrel
    by_cases hlt : k < n
    · obtain ⟨i, ei⟩ : ∃ i : Nat, (a : Int) + (k : Int) = (i : Int) := ⟨a + k, by omega⟩
      obtain ⟨j, ej⟩ : ∃ j : Nat, (b : Int) + (k : Int) = (j : Int) := ⟨b + k, by omega⟩
      have hi : i < D := by omega
      have hj : j < D := by omega
      have hdk : (mapIx d (swf a b k)).size = D := by rw [size_mapIx, hD]
      have HH : HoldsK (encX xs) 4 wr blk off (mapIx d (swf a b k)) := HS.out.holds R.hblk R.hH (by rw [hdk, hd])
      obtain ⟨si, hsi⟩ : ∃ x, xs.getD (mapIx d (swf a b k))[i]! default = x := ⟨_, rfl⟩
      obtain ⟨sj, hsj⟩ : ∃ x, xs.getD (mapIx d (swf a b k))[j]! default = x := ⟨_, rfl⟩
      obtain ⟨⟨u0, u1, u2, u3⟩, v0, v1, v2, v3⟩ := spot_of HH (show i < _ by omega)
      obtain ⟨⟨y0, y1, y2, y3⟩, z0, z1, z2, z3⟩ := spot_of HH (show j < _ by omega)
      rw [hsi] at u0 u1 u2 u3
      rw [hsj] at y0 y1 y2 y3
      have HN : Hid _ := swp_world xs HS.out R.hblk i j (by omega) (by omega) hsi hsj
      clear HH hsi hsj
      go_wp2_with fail
      go_big_region_o
      all_goals go_wp2
      go_roundw
      case rel =>
        have e := swf_step d a b k n hlt h1 (by omega)
        rw [show a + k = i by omega, show b + k = j by omega] at e
        exact ⟨k + 1, by omega, by go_num, by rw [← e]; exact HN⟩
      case measure => simp [intOf]; omega
    · obtain rfl : k = n := by omega
      go_wp2
      go_end0
      exact ⟨rfl, HS.out⟩

end Go.Proofs.Ytahhemgmlmhbjaa.Sort
