/- DefaultSetup: both sides. -/
import Derived.Test.YtcjjdnfikccnmaaMkS
namespace Go.Proofs.Ytcjjdnfikccnmaa.Def
open Go.RowKit Go.Deep
open Go.Proofs.Ytcjjdnfikccnmaa.C1
open Go.Proofs.Ytcjjdnfikccnmaa.C2
open Go.Proofs.Ytcjjdnfikccnmaa.Smps
open Go.Proofs.Ytcjjdnfikccnmaa.Mem
open Go.Proofs.Ytcjjdnfikccnmaa.Pd
open Go.Proofs.Ytcjjdnfikccnmaa.Gl
open Go.Proofs.Ytcjjdnfikccnmaa.Gls
open Go.Proofs.Ytcjjdnfikccnmaa.Pl
open Go.Proofs.Ytcjjdnfikccnmaa.Mk
open Go.Proofs.Ytcjjdnfikccnmaa.Set
open Go.Proofs.Ytcjjdnfikccnmaa.MkS
set_option linter.unusedVariables false

def defS : St := ⟨⟨5, 30, 10⟩, [⟨⟨#[99, 112, 117]⟩, 1000, 100⟩], ⟨⟨[⟨1, 100, 15⟩], 0, 0⟩, ⟨[⟨1, 50, 30⟩], 0, 20⟩, 1, 10⟩⟩
def DefP (w : World) (e : Ending) (w' : World) : Prop := ∃ g, e = .returned (stV defS (some ⟨g, 0, none⟩) 1 (some ⟨g + 1, 0, none⟩) 1 (some ⟨g + 2, 0, none⟩) 1) ∧ w.heap.size < g ∧ SRows w' (w.heap.size + 1) (some ⟨g, 0, none⟩) 1 1 (some ⟨g + 1, 0, none⟩) 1 1 (some ⟨g + 2, 0, none⟩) 1 1 defS.gs defS.bh.up.ps defS.bh.dn.ps ∧ Below w.heap.size w w'
def defW (w : World) : World := (((w.alloc (.cells #[.int .i64 5, .int .i64 30, .int .i64 10, .slice (some ⟨w.heap.size + 1, 0, none⟩) 1 1, .slice (some ⟨w.heap.size + 1 + 1, 0, none⟩) 1 1, .int .i64 0, .int .i64 0, .slice (some ⟨w.heap.size + 1 + 1 + 1, 0, none⟩) 1 1, .int .i64 0, .int .i64 20, .int .i64 1, .int .i64 10] 71)).alloc (.cells #[.string ⟨#[99, 112, 117]⟩, .int .i64 1000, .int .i64 100] 137)).alloc (.cells #[.int .i64 1, .int .i64 100, .int .i64 15] 106)).alloc (.cells #[.int .i64 1, .int .i64 50, .int .i64 30] 106)
theorem def_rows (w : World) : SRows (defW w) (w.heap.size + 1) (some ⟨w.heap.size + 1, 0, none⟩) 1 1 (some ⟨w.heap.size + 1 + 1, 0, none⟩) 1 1 (some ⟨w.heap.size + 1 + 2, 0, none⟩) 1 1 defS.gs defS.bh.up.ps defS.bh.dn.ps ∧ Below w.heap.size w (defW w) := by
  unfold defW
  obtain ⟨w1, hw1⟩ : ∃ w1, w.alloc (.cells #[.int .i64 5, .int .i64 30, .int .i64 10, .slice (some ⟨w.heap.size + 1, 0, none⟩) 1 1, .slice (some ⟨w.heap.size + 1 + 1, 0, none⟩) 1 1, .int .i64 0, .int .i64 0, .slice (some ⟨w.heap.size + 1 + 1 + 1, 0, none⟩) 1 1, .int .i64 0, .int .i64 20, .int .i64 1, .int .i64 10] 71) = w1 := ⟨_, rfl⟩
  have hs : w1.heap.size = w.heap.size + 1 := by rw [← hw1]; simp
  have hb : Below w.heap.size w w1 := by rw [← hw1]; exact (Below.refl _ _).alloc (Nat.le_refl _) _
  rw [hw1]
  clear hw1
  have s2 : (w1.alloc (.cells #[.string ⟨#[99, 112, 117]⟩, .int .i64 1000, .int .i64 100] 137)).heap.size = w.heap.size + 2 := by simp; omega
  have s3 : ((w1.alloc (.cells #[.string ⟨#[99, 112, 117]⟩, .int .i64 1000, .int .i64 100] 137)).alloc (.cells #[.int .i64 1, .int .i64 100, .int .i64 15] 106)).heap.size = w.heap.size + 3 := by simp; omega
  have r1 := World.ownsRow_lit (e := 137) (size := 3) (base := w.heap.size + 1) w1 #[.string ⟨#[99, 112, 117]⟩, .int .i64 1000, .int .i64 100] 1 (by omega) (by unfold maxLen; omega) rfl
  have r2 := World.ownsRow_lit (e := 106) (size := 3) (base := w.heap.size + 1) (w1.alloc (.cells #[.string ⟨#[99, 112, 117]⟩, .int .i64 1000, .int .i64 100] 137)) #[.int .i64 1, .int .i64 100, .int .i64 15] 1 (by omega) (by unfold maxLen; omega) rfl
  have r3 := World.ownsRow_lit (e := 106) (size := 3) (base := w.heap.size + 1) ((w1.alloc (.cells #[.string ⟨#[99, 112, 117]⟩, .int .i64 1000, .int .i64 100] 137)).alloc (.cells #[.int .i64 1, .int .i64 100, .int .i64 15] 106)) #[.int .i64 1, .int .i64 50, .int .i64 30] 1 (by omega) (by unfold maxLen; omega) rfl
  rw [hs] at r1
  rw [s2] at r2
  rw [s3] at r3
  refine ⟨⟨World.ownsRow.alloc (World.ownsRow.alloc r1 _) _, World.ownsRow.alloc r2 _, r3⟩, ?_⟩
  exact ((hb.alloc hb.size _).alloc (by have := hb.size; simp; omega) _).alloc (by have := hb.size; simp; omega) _
theorem impl_def (w : World) :
    Calls Try.prog 39 #[] w (DefP w) := by
  have HR := Lib.hid (def_rows w)
  go_enter Try.func39, Try.ntmps39
  go_wp2
  exact bodyPost_ret (v := stV defS (some ⟨w.heap.size + 1, 0, none⟩) 1 (some ⟨w.heap.size + 1 + 1, 0, none⟩) 1 (some ⟨w.heap.size + 1 + 1 + 1, 0, none⟩) 1) (by simp [results, Try.results39, go_sem, stV, defS]) rfl ⟨w.heap.size + 1, rfl, by omega, HR.out.1, HR.out.2⟩
theorem spec_def (w : World) :
    Calls Try.prog 38 #[] w (DefP w) := by
  have HR := Lib.hid (def_rows w)
  go_enter Try.func38, Try.ntmps38
  go_wp2
  exact bodyPost_ret (v := stV defS (some ⟨w.heap.size + 1, 0, none⟩) 1 (some ⟨w.heap.size + 1 + 1, 0, none⟩) 1 (some ⟨w.heap.size + 1 + 1 + 1, 0, none⟩) 1) (by simp [results, Try.results38, go_sem, stV, defS]) rfl ⟨w.heap.size + 1, rfl, by omega, HR.out.1, HR.out.2⟩
/-- The answer in terms of its own lengths. -/
def DefQ (s : St) (w : World) (e : Ending) (w' : World) : Prop := ∃ g, e = .returned (stV s (some ⟨g, 0, none⟩) s.gs.length (some ⟨g + 1, 0, none⟩) s.bh.up.ps.length (some ⟨g + 2, 0, none⟩) s.bh.dn.ps.length) ∧ w.heap.size < g ∧ SRows w' (w.heap.size + 1) (some ⟨g, 0, none⟩) s.gs.length s.gs.length (some ⟨g + 1, 0, none⟩) s.bh.up.ps.length s.bh.up.ps.length (some ⟨g + 2, 0, none⟩) s.bh.dn.ps.length s.bh.dn.ps.length s.gs s.bh.up.ps s.bh.dn.ps ∧ Below w.heap.size w w'
theorem impl_def2 (w : World) : Calls Try.prog 39 #[] w (DefQ defS w) := impl_def w
theorem spec_def2 (w : World) : Calls Try.prog 38 #[] w (DefQ defS w) := spec_def w
theorem srows_of2 {w : World} {B g g1 g2 : Nat} {s : St} (h : SRows w B (some ⟨g, 0, none⟩) s.gs.length s.gs.length (some ⟨g1, 0, none⟩) s.bh.up.ps.length s.bh.up.ps.length (some ⟨g2, 0, none⟩) s.bh.dn.ps.length s.bh.dn.ps.length s.gs s.bh.up.ps s.bh.dn.ps) : Gls w (some ⟨g, 0, none⟩) s.gs ∧ Pls w (some ⟨g1, 0, none⟩) s.bh.up.ps ∧ Pls w (some ⟨g2, 0, none⟩) s.bh.dn.ps := by
  refine ⟨?_, OwnL.pts h.2.1, OwnL.pts h.2.2⟩
  obtain ⟨a, cap, hv, hs⟩ := OwnG.smps h.1
  cases hv
  exact hs
theorem def_apart (g h : Nat) (hn : g ≠ h) : Apart (some ⟨g, 0, none⟩) (some ⟨h, 0, none⟩) := fun b o s b' o' s' e e' => by cases e; cases e'; exact hn
theorem def_small : defS.small := ⟨by show 1 ≤ _; omega, by show 1 ≤ _; omega, by show 1 ≤ _; omega, fun g hg => by simp [defS] at hg; subst hg; decide⟩
theorem srows_of {w : World} {B g : Nat} (h : SRows w B (some ⟨g, 0, none⟩) 1 1 (some ⟨g + 1, 0, none⟩) 1 1 (some ⟨g + 2, 0, none⟩) 1 1 defS.gs defS.bh.up.ps defS.bh.dn.ps) : Gls w (some ⟨g, 0, none⟩) defS.gs ∧ Pls w (some ⟨g + 1, 0, none⟩) defS.bh.up.ps ∧ Pls w (some ⟨g + 2, 0, none⟩) defS.bh.dn.ps := by
  refine ⟨?_, OwnL.pts h.2.1, OwnL.pts h.2.2⟩
  obtain ⟨a, cap, hv, hs⟩ := OwnG.smps h.1
  cases hv
  exact hs
theorem SRows.kept {w w' : World} {B : Nat} {a0 : Option Addr} {ng c0 : Nat} {a1 : Option Addr} {nu c1 : Nat} {a2 : Option Addr} {nd c2 : Nat} {gs : List Gl} {us ds : List Pl} (h : SRows w B a0 ng c0 a1 nu c1 a2 nd c2 gs us ds) (hb : Below w.heap.size w w') : SRows w' B a0 ng c0 a1 nu c1 a2 nd c2 gs us ds := ⟨OwnG.kept h.1 hb, OwnL.kept h.2.1 hb, OwnL.kept h.2.2 hb⟩
end Go.Proofs.Ytcjjdnfikccnmaa.Def
