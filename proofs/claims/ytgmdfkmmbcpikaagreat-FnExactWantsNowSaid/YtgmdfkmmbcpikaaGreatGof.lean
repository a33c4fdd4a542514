/- GoalOf: both sides; findGoal; the goals of a setup. -/
import Derived.Test.YtgmdfkmmbcpikaaGreatSet
namespace Go.Proofs.YtgmdfkmmbcpikaaGreat.Gof
open Go.RowKit Go.Deep
open Go.Proofs.YtgmdfkmmbcpikaaGreat.C1
open Go.Proofs.YtgmdfkmmbcpikaaGreat.C2
open Go.Proofs.YtgmdfkmmbcpikaaGreat.Smps
open Go.Proofs.YtgmdfkmmbcpikaaGreat.Mem
open Go.Proofs.YtgmdfkmmbcpikaaGreat.Ser2 (cells_new)
open Go.Proofs.YtgmdfkmmbcpikaaGreat.Gl
open Go.Proofs.YtgmdfkmmbcpikaaGreat.Gls
open Go.Proofs.YtgmdfkmmbcpikaaGreat.Pl
open Go.Proofs.YtgmdfkmmbcpikaaGreat.Set
set_option linter.unusedVariables false

def mtG (g : Gl) (m : ByteArray) : Bool := g.met.toList == m.toList
def hasG (gs : List Gl) (m : ByteArray) : Bool := gs.any fun g => mtG g m
def getG (gs : List Gl) (m : ByteArray) : Gl := (gs.find? fun g => mtG g m).getD zeroG
theorem find_at {gs : List Gl} {m : ByteArray} {k : Nat} (hk : k < gs.length) (h : ∀ (j : Nat) (hj : j < gs.length), j < k → mtG gs[j] m = false) (hm : mtG gs[k] m = true) : getG gs m = gs[k] ∧ hasG gs m = true := by
  have h1 : gs.find? (fun g => mtG g m) = some gs[k] := by
    rw [List.find?_eq_some_iff_getElem]
    refine ⟨hm, k, hk, rfl, fun j hj => ?_⟩
    rw [h j (by omega) hj]
    rfl
  refine ⟨by unfold getG; rw [h1]; rfl, ?_⟩
  unfold hasG
  rw [List.any_eq_true]
  exact ⟨_, List.getElem_mem hk, hm⟩
theorem find_none {gs : List Gl} {m : ByteArray} (h : ∀ (j : Nat) (hj : j < gs.length), mtG gs[j] m = false) : getG gs m = zeroG ∧ hasG gs m = false := by
  have hx : ∀ x ∈ gs, mtG x m = false := fun x hx => by
    obtain ⟨j, hj, rfl⟩ := List.mem_iff_getElem.1 hx
    exact h j hj
  refine ⟨?_, ?_⟩
  · unfold getG
    rw [List.find?_eq_none.2 (fun x hxm => by rw [hx x hxm]; exact Bool.false_ne_true)]
    rfl
  · unfold hasG
    cases c : gs.any fun g => mtG g m
    · rfl
    · rw [List.any_eq_true] at c
      obtain ⟨x, h1, h2⟩ := c
      rw [hx x h1] at h2
      cases h2
theorem Gls.take {w : World} {a : Option Addr} {gs : List Gl} (h : Gls w a gs) (k : Nat) : Gls w a (gs.take k) := by
  rcases h with h | ⟨b, off, h1, h2, h3⟩
  · exact .inl (by simp [h])
  · refine .inr ⟨b, off, h1, h2, fun i hi => ?_⟩
    have hi' : i < gs.length := by simp at hi; omega
    rw [List.getElem_take]
    exact h3 i hi'
theorem ret_gl2 {fn : Func} {k : Nat} (hr : fn.results = #[.cell k 113, .tmp (k + 1)]) {W : World} {b : Nat} {g : Gl} {t : Bool} {tmps : Array Value} (h : CellsW W b [.string g.met, .int .i64 g.tar, .int .i64 g.tol]) (h2 : tmps.getD k undef = .pointer (some ⟨b, 0, none⟩)) (h3 : tmps.getD (k + 1) undef = .bool t) :
    (results fn tmps).run Tryz.prog W = .ok (.tuple #[glV g, .bool t]) W := by
  obtain ⟨c0, -⟩ := h.2 0 (by simp)
  obtain ⟨c1, -⟩ := h.2 1 (by simp)
  obtain ⟨c2, -⟩ := h.2 2 (by simp)
  have hp' : tmps[k]?.getD undef = .pointer (some ⟨b, 0, none⟩) := by simpa using h2
  have hq' : tmps[k + 1]?.getD undef = .bool t := by simpa using h3
  simp at c0 c1 c2
  simp [results, hr, hp', hq', asAddr, go_sem, c0, c1, c2, glV]
theorem gl_set {w a : World} {b B : Nat} {u0 u1 u2 : Value} (h : CellsW w b [u0, u1, u2]) (g : Gl) (hB : B ≤ b) (hb : Below B a w) :
    CellsW (((w.setCell ⟨b, 0, none⟩ (.string g.met)).setCell ⟨b, 1, none⟩ (.int .i64 g.tar)).setCell ⟨b, 2, none⟩ (.int .i64 g.tol)) b [.string g.met, .int .i64 g.tar, .int .i64 g.tol] ∧ Below B a (((w.setCell ⟨b, 0, none⟩ (.string g.met)).setCell ⟨b, 1, none⟩ (.int .i64 g.tar)).setCell ⟨b, 2, none⟩ (.int .i64 g.tol)) :=
  ⟨((h.set 0 (.string g.met) (by simp)).set 1 (.int .i64 g.tar) (by simp)).set 2 (.int .i64 g.tol) (by simp), ((hb.setCell (p := ⟨b, 0, none⟩) hB _).setCell (p := ⟨b, 1, none⟩) hB _).setCell (p := ⟨b, 2, none⟩) hB _⟩
set_option maxHeartbeats 1000000 in
theorem impl_find (gs : List Gl) (m : ByteArray) (a : Option Addr) (cap : Nat) (w : World) (h : Gls w a gs) (hm : gs.length ≤ 1048576) :
    Calls Tryz.prog 117 #[.slice a gs.length cap, .string m] w fun e w' => e = .returned (.tuple #[glV (getG gs m), .bool (hasG gs m)]) ∧ Below w.heap.size w w' := by
  have hbx := box_below w #[.string ⟨#[]⟩, .int .i64 0, .int .i64 0] 113
  have HBX := Lib.hid hbx
  have HC := Lib.hid (cells_new w #[.string ⟨#[]⟩, .int .i64 0, .int .i64 0] 113)
  obtain ⟨b, off, ha, hb, hcell⟩ := (h.kept hbx).cells
  have Hc := Lib.hid hcell
  have Ha := Lib.hid ha
  have Hb := Lib.hid hb
  clear hcell ha hb h hbx
  go_enter Tryz.func117, Tryz.ntmps117
  go_wp2
  obtain ⟨w1, hw1⟩ : ∃ w1, w.alloc (.cells #[.string ⟨#[]⟩, .int .i64 0, .int .i64 0] 113) = w1 := ⟨_, rfl⟩
  rw [hw1] at HBX HC Hc Hb ⊢
  clear hw1
  go_loopw [10] (fun i wr => ∃ k : Nat, k ≤ gs.length ∧ i = .int .i64 k ∧ Hid (∀ (j : Nat) (hj : j < gs.length), j < k → mtG gs[j] m = false) ∧ Hid (Below w1.heap.size w1 wr)) (fun i _ => gs.length - (intOf i).toNat)
  case atStart => exact ⟨0, Nat.zero_le _, rfl, fun j hj h => absurd h (by omega), Below.refl _ _⟩
  case round =>
    obtain ⟨k, hk, rfl, HS, HB⟩ := hrel
    by_cases hlt : k < gs.length
    · obtain rfl := Ha.out (by omega)
      obtain ⟨g, hg⟩ : ∃ g, gs[k] = g := ⟨_, rfl⟩
      have hq := (Hc.out k hlt).kept HB.out (Hb.out (by omega))
      rw [hg] at hq
      obtain ⟨q0, q1, q2⟩ := hq
      have HB2 := Lib.hid ((HBX.out.trans (HB.out.mono HBX.out.size)).alloc (HBX.out.trans (HB.out.mono HBX.out.size)).size (.cells #[.string g.met, .int .i64 g.tar, .int .i64 g.tol] 113))
      have HB3 := Lib.hid (HB.out.alloc HB.out.size (.cells #[.string g.met, .int .i64 g.tar, .int .i64 g.tol] 113))
      have HC2 := Lib.hid (HC.out.kept HB3.out)
      cases c1 : (g.met.toList == m.toList)
      · have HN : Hid (∀ (j : Nat) (hj : j < gs.length), j < k + 1 → mtG gs[j] m = false) := fun j hj h => by
          by_cases e : j = k
          · subst e; rw [hg]; exact c1
          · exact HS.out j hj (by omega)
        clear hg HS
        go_wp2
        go_roundw
        case rel => exact ⟨k + 1, by omega, by go_num, HN, HB3⟩
        case measure => simp [intOf]; omega
      · have hf := find_at hlt HS.out (show mtG gs[k] m = true by rw [hg]; exact c1)
        rw [hg] at hf
        have HF := Lib.hid hf
        obtain ⟨r0, f0⟩ := HC2.out.2 0 (by simp)
        obtain ⟨r1, f1⟩ := HC2.out.2 1 (by simp)
        obtain ⟨r2, f2⟩ := HC2.out.2 2 (by simp)
        simp at r0 r1 r2
        clear hg HS hf
        go_wp2
        obtain ⟨k1, k2⟩ := gl_set HC2.out g (Nat.le_refl w.heap.size) HB2.out
        rw [HF.out.1, HF.out.2]
        exact bodyPost_ret (ret_gl2 rfl k1 rfl rfl) rfl ⟨rfl, k2⟩
    · obtain rfl : k = gs.length := by omega
      have HF := Lib.hid (find_none (fun j hj => HS.out j hj hj))
      have HC2 := Lib.hid (HC.out.kept HB.out)
      have HB2 := Lib.hid (HBX.out.trans (HB.out.mono HBX.out.size))
      obtain ⟨r0, f0⟩ := HC2.out.2 0 (by simp)
      obtain ⟨r1, f1⟩ := HC2.out.2 1 (by simp)
      obtain ⟨r2, f2⟩ := HC2.out.2 2 (by simp)
      simp at r0 r1 r2
      clear HS
      go_wp2
      obtain ⟨k1, k2⟩ := gl_set HC2.out zeroG (Nat.le_refl w.heap.size) HB2.out
      rw [HF.out.1, HF.out.2]
      exact bodyPost_ret (ret_gl2 rfl k1 rfl rfl) rfl ⟨rfl, k2⟩
theorem two_new {w : World} {A1 A2 : Array Value} {t1 t2 : TypeId} :
    CellsW ((w.alloc (.cells A1 t1)).alloc (.cells A2 t2)) w.heap.size A1.toList ∧ CellsW ((w.alloc (.cells A1 t1)).alloc (.cells A2 t2)) (w.heap.size + 1) A2.toList ∧ Below w.heap.size w ((w.alloc (.cells A1 t1)).alloc (.cells A2 t2)) := by
  obtain ⟨h1, h2, h3, -⟩ := two_read (w2 := (w.alloc (.cells A1 t1)).alloc (.cells A2 t2)) (Below.refl _ _)
  exact ⟨h1, h2, h3⟩
end Go.Proofs.YtgmdfkmmbcpikaaGreat.Gof
