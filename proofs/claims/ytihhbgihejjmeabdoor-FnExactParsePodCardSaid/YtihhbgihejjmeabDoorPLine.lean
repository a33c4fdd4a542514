/- PodLine of chapter 4: the model's and the program's; both write plineV. -/
import Derived.Test.YtihhbgihejjmeabDoorPd
import Derived.Test.YtihhbgihejjmeabDoorLine
namespace Go.Proofs.YtihhbgihejjmeabDoor.PLine
open Go.RowKit
open Go.Proofs.YtihhbgihejjmeabDoor.C1
open Go.Proofs.YtihhbgihejjmeabDoor.C2
open Go.Proofs.YtihhbgihejjmeabDoor.Milli
open Go.Proofs.YtihhbgihejjmeabDoor.Mt
open Go.Proofs.YtihhbgihejjmeabDoor.Line
open Go.Proofs.YtihhbgihejjmeabDoor.Pd
set_option linter.unusedVariables false

/-- The words of the phases, and of the readiness. -/
def phL (k : Nat) : List UInt8 := if k = 0 then [114, 117, 110, 115] else if k = 1 then [102, 97, 105, 108, 101, 100] else [100, 101, 108, 101, 116, 101, 100]
def rdL (b : Bool) : List UInt8 := if b then [114, 101, 97, 100, 121] else [117, 110, 114, 101, 97, 100, 121]
def plineL (p : Pd) : List UInt8 := p.nm.data.toList ++ 32 :: (Lib.itoa p.born ++ 32 :: (phL p.ph.toNat ++ 32 :: rdL p.rdy))
/-- What PodLine writes. -/
def plineV (p : Pd) : List UInt8 := if okP p then plineL p else []
theorem ph_len (k : Nat) : (phL k).length ≤ 7 := by
  unfold phL
  split
  · simp
  · split <;> simp
theorem rd_len (b : Bool) : (rdL b).length ≤ 7 := by cases b <;> simp [rdL]
theorem okp_parts {p : Pd} (h : okP p = true) : nameV p.nm.data.toList = true ∧ sizeV p.born = true ∧ 0 ≤ p.ph ∧ p.ph ≤ 2 := by
  unfold okP phV at h
  simp only [Bool.and_eq_true, decide_eq_true_eq] at h
  exact ⟨h.1.1, h.1.2, h.2.1, h.2.2⟩
theorem pline_eq (n : ByteArray) (a b c : List UInt8) : n ++ { data := #[32] } ++ mk a ++ { data := #[32] } ++ mk b ++ { data := #[32] } ++ mk c = mk (n.data.toList ++ 32 :: (a ++ 32 :: (b ++ 32 :: c))) := by
  have e : ({ data := #[32] } : ByteArray) = mk [32] := rfl
  rw [e, ← mk_of n, mk_append, mk_append, mk_append, mk_append, mk_append, mk_append]
  simp [mk_list]
theorem pline_eq2 (n : ByteArray) (a b c : List UInt8) : n ++ { data := #[32] } ++ mk a ++ { data := #[32] } ++ mk b ++ mk c = mk (n.data.toList ++ 32 :: (a ++ 32 :: (b ++ c))) := by
  have e : ({ data := #[32] } : ByteArray) = mk [32] := rfl
  rw [e, ← mk_of n, mk_append, mk_append, mk_append, mk_append, mk_append]
  simp [mk_list]
theorem name_size {n : ByteArray} (h : nameV n.data.toList = true) : n.size ≤ 12 := by
  have l1 := name_len h
  have : n.data.toList.length = n.size := by simp
  omega

set_option maxRecDepth 20000 in
set_option maxHeartbeats 4000000 in
theorem spec_pline (p : Pd) (hs : p.wf) (w : World) :
    Calls Tryd.prog 6 #[podV p] w fun e w' => e = .returned (.string (mk (plineV p))) ∧ Below w.heap.size w w' := by
  have mixed : Tryd.prog.follows .mixedOrders = true := by kernel_rfl
  have hc := fun w => spec_podok p hs w
  unfold plineV
  cases hok : okP p
  · rw [hok] at hc
    unfold podV at hc ⊢
    go_enter Tryd.func6, Tryd.ntmps6
    go_wp2_with (go_at_call 12; refine (hc _).mono ?_; rintro e w1 ⟨rfl, hb1⟩; obtain ⟨r1, r2, q0, q1, q2, q3⟩ := box_read hb1; clear hb1)
    go_ret
    exact ⟨rfl, r2⟩
  · rw [hok] at hc
    obtain ⟨n1, n2, n3, n4⟩ := okp_parts hok
    have hp := name_size n1
    have l4 := itoa_len n2
    obtain ⟨t1, t2⟩ := size_of n2
    have hms := mk_size
    clear n1 n2 hok
    obtain ⟨nm, born, ph, rdy⟩ := p
    simp only at n3 n4 hp l4 t1 t2
    obtain ⟨k, rfl⟩ : ∃ k : Nat, ph = (k : Int) := ⟨ph.toNat, by omega⟩
    have hk : k < 3 := by omega
    have hk2 : (k : Int) < 3 := by omega
    have hkw : IntKind.i64.wrap (k : Int) = k := by rw [IntKind.wrap_i64]; omega
    have l5 := ph_len k
    obtain ⟨A1, hA1⟩ : ∃ x, nm ++ ({ data := #[32] } : ByteArray) = x := ⟨_, rfl⟩
    obtain ⟨A2, hA2⟩ : ∃ x, A1 ++ mk (Lib.itoa born) = x := ⟨_, rfl⟩
    obtain ⟨A3, hA3⟩ : ∃ x, A2 ++ ({ data := #[32] } : ByteArray) = x := ⟨_, rfl⟩
    obtain ⟨A4, hA4⟩ : ∃ x, A3 ++ mk (phL k) = x := ⟨_, rfl⟩
    have z0 : ({ data := #[32] } : ByteArray).size = 1 := rfl
    have z1 : A1.size = nm.size + 1 := by rw [← hA1, ByteArray.size_append, z0]
    have z2 : A2.size = nm.size + 1 + (Lib.itoa born).length := by rw [← hA2, ByteArray.size_append, z1, mk_size]
    have z3 : A3.size = nm.size + 1 + (Lib.itoa born).length + 1 := by rw [← hA3, ByteArray.size_append, z2, z0]
    have z4 : A4.size ≤ 100 := by rw [← hA4, ByteArray.size_append, z3, mk_size]; omega
    have a1 := add_at Tryd.prog nm { data := #[32] } (by rw [z0]; omega)
    have a2 := add_at Tryd.prog A1 (mk (Lib.itoa born)) (by rw [mk_size]; omega)
    have a3 := add_at Tryd.prog A2 { data := #[32] } (by rw [z0]; omega)
    have a4 := add_at Tryd.prog A3 (mk (phL k)) (by rw [mk_size]; omega)
    have z5 : ({ data := #[32, 114, 101, 97, 100, 121] } : ByteArray).size = 6 := rfl
    have z6 : ({ data := #[32, 117, 110, 114, 101, 97, 100, 121] } : ByteArray).size = 8 := rfl
    have a5 := add_at Tryd.prog A4 { data := #[32, 114, 101, 97, 100, 121] } (by rw [z5]; omega)
    have a6 := add_at Tryd.prog A4 { data := #[32, 117, 110, 114, 101, 97, 100, 121] } (by rw [z6]; omega)
    rw [hA1] at a1
    rw [hA2] at a2
    rw [hA3] at a3
    rw [hA4] at a4
    have HL : ∀ c, Hid (A4 ++ mk c = mk (nm.data.toList ++ 32 :: (Lib.itoa born ++ 32 :: (phL k ++ c)))) := fun c => by
      show A4 ++ mk c = _
      rw [← hA4, ← hA3, ← hA2, ← hA1]
      exact pline_eq2 nm (Lib.itoa born) (phL k) c
    clear z0 z1 z2 z3 z4 z5 z6 hA1 hA2 hA3 hA4 l4 l5 hp
    have HLT := Lib.hid (HL (32 :: rdL true)).out
    have HLF := Lib.hid (HL (32 :: rdL false)).out
    clear HL
    unfold podV at hc ⊢
    go_enter Tryd.func6, Tryd.ntmps6
    go_wp2_with (go_at_call 12; refine (hc _).mono ?_; rintro e w1 ⟨rfl, hb1⟩; obtain ⟨r1, r2, q0, q1, q2, q3⟩ := box_read hb1; clear hb1)
    have hx : (w1.alloc (.cells #[.string { data := #[114, 117, 110, 115] }, .string { data := #[102, 97, 105, 108, 101, 100] }, .string { data := #[100, 101, 108, 101, 116, 101, 100] }] 9)).cell? ⟨w1.heap.size, k, none⟩ = some (.string (mk (phL k))) := by
      have : k = 0 ∨ k = 1 ∨ k = 2 := by omega
      rcases this with rfl | rfl | rfl <;> simp [phL] <;> rfl
    have hb := box_below w1 #[.string { data := #[114, 117, 110, 115] }, .string { data := #[102, 97, 105, 108, 101, 100] }, .string { data := #[100, 101, 108, 101, 116, 101, 100] }] 9
    have hz : (w1.alloc (.cells #[.string { data := #[114, 117, 110, 115] }, .string { data := #[102, 97, 105, 108, 101, 100] }, .string { data := #[100, 101, 108, 101, 116, 101, 100] }] 9)).heap.size = w1.heap.size + 1 := by simp
    obtain ⟨W1, hW1⟩ : ∃ W1, w1.alloc (.cells #[.string { data := #[114, 117, 110, 115] }, .string { data := #[102, 97, 105, 108, 101, 100] }, .string { data := #[100, 101, 108, 101, 116, 101, 100] }] 9) = W1 := ⟨_, rfl⟩
    rw [hW1] at hx hb hz ⊢
    clear hW1
    obtain ⟨s1, q0, q1, q2, q3⟩ := keep4 r1 hb q0 q1 q2 q3
    have R2 := Lib.hid (r2.trans (hb.mono (Nat.le_of_lt r1)))
    have k0 := later_cell s1 q0
    have k1 := later_cell s1 q1
    have k2 := later_cell s1 q2
    have k3 := later_cell s1 q3
    have kx := later_cell (by omega) hx
    clear hc q0 q1 q2 q3 hx hb hz r1 r2
    refine region_later mixed (by kernel_rfl) ?_
    repeat (quiet_step (first | (go_at_call 13; exact later_call (spec_num _ _ (by omega) (by omega)))))
    refine wpQuiet_nil ?_
    intro wl hw'
    obtain ⟨⟨_, hwl⟩, rfl⟩ := hw'
    have q3 := k3 ⟨wl, hwl⟩
    simp only at q3
    clear k0 k1 k2 k3 kx
    cases rdy
    · go_wp2
      go_ret
      exact ⟨ret1S (by exact HLF.out), R2.out.trans (hwl.mono (Nat.le_of_lt s1))⟩
    · go_wp2
      go_ret
      exact ⟨ret1S (by exact HLT.out), R2.out.trans (hwl.mono (Nat.le_of_lt s1))⟩

/-- The table of the phases' words stands. -/
structure Words (w : World) : Prop where
  lt : 0 < w.heap.size
  cell : ∀ k, k < 3 → w.cell? ⟨0, k, none⟩ = some (.string (mk (phL k)))
theorem Words.kept {w w' : World} (h : Words w) (hb : Below w.heap.size w w') : Words w' :=
  ⟨Nat.lt_of_lt_of_le h.lt hb.size, fun k hk => (hb.cell (p := ⟨_, k, none⟩) h.lt).trans (h.cell k hk)⟩
theorem impl_ready (b : Bool) (w : World) :
    Calls Tryd.prog 16 #[.bool b] w fun e w' => e = .returned (.string (mk (rdL b))) ∧ Below w.heap.size w w' := by
  cases b
  all_goals
    go_enter Tryd.func16, Tryd.ntmps16
    go_wp2
    go_ret
    exact ⟨rfl, Below.refl _ _⟩

set_option maxRecDepth 20000 in
set_option maxHeartbeats 4000000 in
theorem impl_pline (p : Pd) (hs : p.wf) (w : World) (he : Env w) (hw : Words w) :
    Calls Tryd.prog 8 #[podV p] w fun e w' => e = .returned (.string (mk (plineV p))) ∧ Below w.heap.size w w' := by
  have mixed : Tryd.prog.follows .mixedOrders = true := by kernel_rfl
  have hc := fun w => impl_podok p hs w
  unfold plineV
  cases hok : okP p
  · rw [hok] at hc
    unfold podV at hc ⊢
    go_enter Tryd.func8, Tryd.ntmps8
    go_wp2_with (go_at_call 14; refine (hc _).mono ?_; rintro e w1 ⟨rfl, hb1⟩; obtain ⟨r1, r2, q0, q1, q2, q3⟩ := box_read hb1; clear hb1)
    go_ret
    exact ⟨rfl, r2⟩
  · rw [hok] at hc
    obtain ⟨n1, n2, n3, n4⟩ := okp_parts hok
    have hp := name_size n1
    have l4 := itoa_len n2
    obtain ⟨t1, t2⟩ := size_of n2
    have hms := mk_size
    clear n1 n2 hok
    obtain ⟨nm, born, ph, rdy⟩ := p
    simp only at n3 n4 hp l4 t1 t2
    obtain ⟨k, rfl⟩ : ∃ k : Nat, ph = (k : Int) := ⟨ph.toNat, by omega⟩
    have hk : k < 3 := by omega
    have hk2 : (k : Int) < 3 := by omega
    have hkw : IntKind.i64.wrap (k : Int) = k := by rw [IntKind.wrap_i64]; omega
    have l5 := ph_len k
    have l6 := rd_len rdy
    obtain ⟨A1, hA1⟩ : ∃ x, nm ++ ({ data := #[32] } : ByteArray) = x := ⟨_, rfl⟩
    obtain ⟨A2, hA2⟩ : ∃ x, A1 ++ mk (Lib.itoa born) = x := ⟨_, rfl⟩
    obtain ⟨A3, hA3⟩ : ∃ x, A2 ++ ({ data := #[32] } : ByteArray) = x := ⟨_, rfl⟩
    obtain ⟨A4, hA4⟩ : ∃ x, A3 ++ mk (phL k) = x := ⟨_, rfl⟩
    obtain ⟨A5, hA5⟩ : ∃ x, A4 ++ ({ data := #[32] } : ByteArray) = x := ⟨_, rfl⟩
    obtain ⟨A6, hA6⟩ : ∃ x, A5 ++ mk (rdL rdy) = x := ⟨_, rfl⟩
    have z0 : ({ data := #[32] } : ByteArray).size = 1 := rfl
    have z1 : A1.size = nm.size + 1 := by rw [← hA1, ByteArray.size_append, z0]
    have z2 : A2.size = nm.size + 1 + (Lib.itoa born).length := by rw [← hA2, ByteArray.size_append, z1, mk_size]
    have z3 : A3.size = nm.size + 1 + (Lib.itoa born).length + 1 := by rw [← hA3, ByteArray.size_append, z2, z0]
    have z4 : A4.size = nm.size + 1 + (Lib.itoa born).length + 1 + (phL k).length := by rw [← hA4, ByteArray.size_append, z3, mk_size]
    have z5 : A5.size = nm.size + 1 + (Lib.itoa born).length + 1 + (phL k).length + 1 := by rw [← hA5, ByteArray.size_append, z4, z0]
    have a1 := add_at Tryd.prog nm { data := #[32] } (by rw [z0]; omega)
    have a2 := add_at Tryd.prog A1 (mk (Lib.itoa born)) (by rw [mk_size]; omega)
    have a3 := add_at Tryd.prog A2 { data := #[32] } (by rw [z0]; omega)
    have a4 := add_at Tryd.prog A3 (mk (phL k)) (by rw [mk_size]; omega)
    have a5 := add_at Tryd.prog A4 { data := #[32] } (by rw [z0]; omega)
    have a6 := add_at Tryd.prog A5 (mk (rdL rdy)) (by rw [mk_size]; omega)
    rw [hA1] at a1
    rw [hA2] at a2
    rw [hA3] at a3
    rw [hA4] at a4
    rw [hA5] at a5
    rw [hA6] at a6
    have HL : Hid (A6 = mk (nm.data.toList ++ 32 :: (Lib.itoa born ++ 32 :: (phL k ++ 32 :: rdL rdy)))) := by
      show A6 = _
      rw [← hA6, ← hA5, ← hA4, ← hA3, ← hA2, ← hA1]
      exact pline_eq nm (Lib.itoa born) (phL k) (rdL rdy)
    clear z0 z1 z2 z3 z4 z5 hA1 hA2 hA3 hA4 hA5 hA6 l4 l5 l6 hp
    unfold podV at hc ⊢
    go_enter Tryd.func8, Tryd.ntmps8
    go_wp2_with (go_at_call 14; refine (hc _).mono ?_; rintro e w1 ⟨rfl, hb1⟩; obtain ⟨r1, r2, q0, q1, q2, q3⟩ := box_read hb1; clear hb1)
    have HE1 := Lib.hid (he.kept r2)
    have hw1 := hw.kept r2
    have k0 := later_cell r1 q0
    have k1 := later_cell r1 q1
    have k2 := later_cell r1 q2
    have k3 := later_cell r1 q3
    have kx := later_cell hw1.lt (hw1.cell k hk)
    clear hc hw hw1 he
    refine region_later mixed (by kernel_rfl) ?_
    repeat (quiet_step (first | (go_at_call 15; exact later_call (itoa_int _ (by omega) (by omega) _ (HE1.out.kept (Later.h _)))) | (go_at_call 16; exact later_call (impl_ready _ _))))
    refine wpQuiet_nil ?_
    intro wl hw'
    obtain ⟨⟨_, hwl⟩, rfl⟩ := hw'
    go_wp2
    go_ret
    exact ⟨ret1S (by exact HL.out), r2.trans (hwl.mono (Nat.le_of_lt r1))⟩
end Go.Proofs.YtihhbgihejjmeabDoor.PLine
