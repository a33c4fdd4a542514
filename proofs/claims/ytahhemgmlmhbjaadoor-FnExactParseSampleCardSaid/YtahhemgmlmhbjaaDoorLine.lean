/- SampleLine of chapter 2: the model's and the program's; both write lineV. -/
import Derived.Test.YtahhemgmlmhbjaaDoorC2
import Derived.Test.YtahhemgmlmhbjaaDoorMt
import Derived.Deep.QuietTactic
namespace Go.Proofs.YtahhemgmlmhbjaaDoor.Line
open Go.RowKit
open Go.Proofs.YtahhemgmlmhbjaaDoor.C1
open Go.Proofs.YtahhemgmlmhbjaaDoor.C2
open Go.Proofs.YtahhemgmlmhbjaaDoor.Milli
open Go.Proofs.YtahhemgmlmhbjaaDoor.Mt
set_option linter.unusedVariables false

/-- A world in which all that lies in w lies as it did. -/
structure Later (w : World) where
  u : World
  h : Below w.heap.size w u
instance (w : World) : Inhabited (Later w) := ⟨⟨w, Below.refl _ _⟩⟩
theorem region_later {P : Program} {id : Nat} {Q : Exit → Act → World → Prop} {a : Act} {w : World} {l : List Oper} (hm : P.follows .mixedOrders = true) (hB : Region.lexB .any l.toArray = true)
    (h : wpQuiet P l.toArray (fun w' => ∃ p : Later w, w' = p.u) (fun a' => ∀ w', (∃ p : Later w, w' = p.u) → Q .normal a' w') l a) : (Code.region id l.toArray true).wp P Q a w :=
  wp_region_quiet (C := fun w' => ∃ p : Later w, w' = p.u) hm hB ⟨⟨w.drew, (Below.refl _ _).drew⟩, rfl⟩ (by simpa using h)
theorem later_call {P : Program} {f : FuncId} {args : Array Value} {w : World} {v : Value} {p : Later w} (h : Calls P f args p.u fun e w' => e = .returned v ∧ Below p.u.heap.size p.u w') :
    Calls P f args p.u fun e w' => e = .returned v ∧ ∃ q : Later w, w' = q.u :=
  h.mono fun e w' ⟨he, hb⟩ => ⟨he, ⟨w', p.h.trans (hb.mono p.h.size)⟩, rfl⟩
theorem later_cell {w : World} {b j : Nat} {v : Value} (hb : b < w.heap.size) (h : w.cell? ⟨b, j, none⟩ = some v) (p : Later w) : p.u.cell? ⟨b, j, none⟩ = some v := by
  rw [p.h.cell (p := ⟨b, j, none⟩) hb]; exact h

def lineL (s : Smp) : List UInt8 := s.pod.data.toList ++ 32 :: (s.met.data.toList ++ 32 :: (milli s.val ++ 32 :: Lib.itoa s.tick))
/-- What SampleLine writes. -/
def lineV (s : Smp) : List UInt8 := if okV s then lineL s else []
theorem line_eq (p m : ByteArray) (a b : List UInt8) : p ++ { data := #[32] } ++ m ++ { data := #[32] } ++ mk a ++ { data := #[32] } ++ mk b = mk (p.data.toList ++ 32 :: (m.data.toList ++ 32 :: (a ++ 32 :: b))) := by
  have e : ({ data := #[32] } : ByteArray) = mk [32] := rfl
  rw [e, ← mk_of p, ← mk_of m, mk_append, mk_append, mk_append, mk_append, mk_append, mk_append]
  simp [mk_list]
theorem name_len {l : List UInt8} (h : nameV l = true) : 1 ≤ l.length ∧ l.length ≤ 12 := by
  unfold nameV at h
  simp only [Bool.and_eq_true, decide_eq_true_eq] at h
  exact h.1
theorem size_of {v : Int} (h : sizeV v = true) : 0 ≤ v ∧ v ≤ 1000000000 := by unfold sizeV at h; simpa using h
theorem ok_parts {s : Smp} (h : okV s = true) : nameV s.pod.data.toList = true ∧ nameV s.met.data.toList = true ∧ sizeV s.val = true ∧ sizeV s.tick = true := by
  unfold okV at h
  simp only [Bool.and_eq_true] at h
  exact ⟨h.1.1.1, h.1.1.2, h.1.2, h.2⟩
theorem milli_len {v : Int} (h : sizeV v = true) : (milli v).length ≤ 20 := by
  obtain ⟨h0, h1⟩ := size_of h
  obtain ⟨u, rfl⟩ : ∃ u : Nat, v = (u : Int) := ⟨v.toNat, by omega⟩
  rw [milli_pos (by omega)]
  exact mPos_len (by omega)
theorem itoa_zero : Lib.itoa 0 = [48] := by decide +kernel
theorem itoa_len {v : Int} (h : sizeV v = true) : (Lib.itoa v).length ≤ 20 := by
  obtain ⟨h0, h1⟩ := size_of h
  by_cases hv : v = 0
  · subst hv; simp [itoa_zero]
  · rw [itoa_of v hv, if_neg (by omega)]
    have := dd_le v (by omega) (by omega)
    simp; omega

theorem add_at (P : Program) (x y : ByteArray) (h : x.size + y.size ≤ 1000) : ∀ w, (Op.stringOp .add x y).run P w = .ok (.string (x ++ y)) w := fun w => run_string_add_sum w x y (by omega)
theorem spec_line (s : Smp) (hs : s.wf) (w : World) :
    Calls Tryd.prog 7 #[smpV s] w fun e w' => e = .returned (.string (mk (lineV s))) ∧ Below w.heap.size w w' := by
  have mixed : Tryd.prog.follows .mixedOrders = true := by kernel_rfl
  unfold lineV
  cases hok : okV s
  · have hc := fun w => spec_ok s hs w
    rw [hok] at hc
    unfold smpV at hc ⊢
    go_enter Tryd.func7, Tryd.ntmps7
    go_wp2_with (go_at_call 18; refine (hc _).mono ?_; rintro e w1 ⟨rfl, hb1⟩; obtain ⟨r1, r2, q0, q1, q2, q3⟩ := box_read hb1; clear hb1)
    go_ret
    exact ⟨rfl, r2⟩
  · have hc := fun w => spec_ok s hs w
    rw [hok] at hc
    obtain ⟨n1, n2, n3, n4⟩ := ok_parts hok
    have l1 := name_len n1
    have l2 := name_len n2
    have l3 := milli_len n3
    have l4 := itoa_len n4
    have t4 := size_of n4
    have hp : s.pod.size ≤ 12 := by have : s.pod.data.toList.length = s.pod.size := by simp
                                    omega
    have hm : s.met.size ≤ 12 := by have : s.met.data.toList.length = s.met.size := by simp
                                    omega
    have hms := mk_size
    obtain ⟨t1, t2⟩ := t4
    clear n1 n2 n3 n4 l1 l2
    obtain ⟨A1, hA1⟩ : ∃ x, s.pod ++ ({ data := #[32] } : ByteArray) = x := ⟨_, rfl⟩
    obtain ⟨A2, hA2⟩ : ∃ x, A1 ++ s.met = x := ⟨_, rfl⟩
    obtain ⟨A3, hA3⟩ : ∃ x, A2 ++ ({ data := #[32] } : ByteArray) = x := ⟨_, rfl⟩
    obtain ⟨A4, hA4⟩ : ∃ x, A3 ++ mk (milli s.val) = x := ⟨_, rfl⟩
    obtain ⟨A5, hA5⟩ : ∃ x, A4 ++ ({ data := #[32] } : ByteArray) = x := ⟨_, rfl⟩
    obtain ⟨A6, hA6⟩ : ∃ x, A5 ++ mk (Lib.itoa s.tick) = x := ⟨_, rfl⟩
    have z0 : ({ data := #[32] } : ByteArray).size = 1 := rfl
    have z1 : A1.size = s.pod.size + 1 := by rw [← hA1, ByteArray.size_append, z0]
    have z2 : A2.size = s.pod.size + 1 + s.met.size := by rw [← hA2, ByteArray.size_append, z1]
    have z3 : A3.size = s.pod.size + 1 + s.met.size + 1 := by rw [← hA3, ByteArray.size_append, z2, z0]
    have z4 : A4.size = s.pod.size + 1 + s.met.size + 1 + (milli s.val).length := by rw [← hA4, ByteArray.size_append, z3, mk_size]
    have z5 : A5.size = s.pod.size + 1 + s.met.size + 1 + (milli s.val).length + 1 := by rw [← hA5, ByteArray.size_append, z4, z0]
    have a1 := add_at Tryd.prog s.pod { data := #[32] } (by rw [z0]; omega)
    have a2 := add_at Tryd.prog A1 s.met (by omega)
    have a3 := add_at Tryd.prog A2 { data := #[32] } (by rw [z0]; omega)
    have a4 := add_at Tryd.prog A3 (mk (milli s.val)) (by rw [mk_size]; omega)
    have a5 := add_at Tryd.prog A4 { data := #[32] } (by rw [z0]; omega)
    have a6 := add_at Tryd.prog A5 (mk (Lib.itoa s.tick)) (by rw [mk_size]; omega)
    rw [hA1] at a1
    rw [hA2] at a2
    rw [hA3] at a3
    rw [hA4] at a4
    rw [hA5] at a5
    rw [hA6] at a6
    have HL : Hid (A6 = mk (lineL s)) := by
      show A6 = _
      rw [← hA6, ← hA5, ← hA4, ← hA3, ← hA2, ← hA1]
      exact line_eq s.pod s.met (milli s.val) (Lib.itoa s.tick)
    clear z0 z1 z2 z3 z4 z5 hA1 hA2 hA3 hA4 hA5 hA6
    unfold smpV at hc ⊢
    go_enter Tryd.func7, Tryd.ntmps7
    go_wp2_with (go_at_call 18; refine (hc _).mono ?_; rintro e w1 ⟨rfl, hb1⟩; obtain ⟨r1, r2, q0, q1, q2, q3⟩ := box_read hb1; clear hb1)
    have k0 := later_cell r1 q0
    have k1 := later_cell r1 q1
    have k2 := later_cell r1 q2
    have k3 := later_cell r1 q3
    clear hc
    refine region_later mixed (by kernel_rfl) ?_
    repeat (quiet_step (first | (go_at_call 19; exact later_call (spec_milli _ _)) | (go_at_call 20; exact later_call (spec_num _ _ (by omega) (by omega)))))
    refine wpQuiet_nil ?_
    intro _ hw'
    obtain ⟨⟨wl, hwl⟩, rfl⟩ := hw'
    go_wp2
    go_ret
    exact ⟨ret1S (by rw [HL.out]), r2.trans (hwl.mono (Nat.le_of_lt r1))⟩

theorem itoa_int (n : Int) (h0 : -9223372036854775808 ≤ n) (h1 : n ≤ 9223372036854775807) (w : World) (he : Env w) :
    Calls Tryd.prog 23 #[.int .i64 n] w fun e w' => e = .returned (.string (mk (Lib.itoa n))) ∧ Below w.heap.size w w' :=
  (Tryd.strconv_Itoa n h0 h1 w he.tab).mono fun e w' ⟨e1, k, os, e2⟩ => by
    subst e2
    exact ⟨e1, Lib.below_grow w.heap.size w (Nat.le_refl _) k os⟩
theorem impl_line (s : Smp) (hs : s.wf) (w : World) (he : Env w) :
    Calls Tryd.prog 9 #[smpV s] w fun e w' => e = .returned (.string (mk (lineV s))) ∧ Below w.heap.size w w' := by
  have mixed : Tryd.prog.follows .mixedOrders = true := by kernel_rfl
  unfold lineV
  cases hok : okV s
  · have hc := fun w => impl_ok s hs w
    rw [hok] at hc
    unfold smpV at hc ⊢
    go_enter Tryd.func9, Tryd.ntmps9
    go_wp2_with (go_at_call 21; refine (hc _).mono ?_; rintro e w1 ⟨rfl, hb1⟩; obtain ⟨r1, r2, q0, q1, q2, q3⟩ := box_read hb1; clear hb1)
    go_ret
    exact ⟨rfl, r2⟩
  · have hc := fun w => impl_ok s hs w
    rw [hok] at hc
    obtain ⟨n1, n2, n3, n4⟩ := ok_parts hok
    have l1 := name_len n1
    have l2 := name_len n2
    have l3 := milli_len n3
    have l4 := itoa_len n4
    have t4 := size_of n4
    have hp : s.pod.size ≤ 12 := by have : s.pod.data.toList.length = s.pod.size := by simp
                                    omega
    have hm : s.met.size ≤ 12 := by have : s.met.data.toList.length = s.met.size := by simp
                                    omega
    have hms := mk_size
    obtain ⟨t1, t2⟩ := t4
    clear n1 n2 n3 n4 l1 l2
    obtain ⟨A1, hA1⟩ : ∃ x, s.pod ++ ({ data := #[32] } : ByteArray) = x := ⟨_, rfl⟩
    obtain ⟨A2, hA2⟩ : ∃ x, A1 ++ s.met = x := ⟨_, rfl⟩
    obtain ⟨A3, hA3⟩ : ∃ x, A2 ++ ({ data := #[32] } : ByteArray) = x := ⟨_, rfl⟩
    obtain ⟨A4, hA4⟩ : ∃ x, A3 ++ mk (milli s.val) = x := ⟨_, rfl⟩
    obtain ⟨A5, hA5⟩ : ∃ x, A4 ++ ({ data := #[32] } : ByteArray) = x := ⟨_, rfl⟩
    obtain ⟨A6, hA6⟩ : ∃ x, A5 ++ mk (Lib.itoa s.tick) = x := ⟨_, rfl⟩
    have z0 : ({ data := #[32] } : ByteArray).size = 1 := rfl
    have z1 : A1.size = s.pod.size + 1 := by rw [← hA1, ByteArray.size_append, z0]
    have z2 : A2.size = s.pod.size + 1 + s.met.size := by rw [← hA2, ByteArray.size_append, z1]
    have z3 : A3.size = s.pod.size + 1 + s.met.size + 1 := by rw [← hA3, ByteArray.size_append, z2, z0]
    have z4 : A4.size = s.pod.size + 1 + s.met.size + 1 + (milli s.val).length := by rw [← hA4, ByteArray.size_append, z3, mk_size]
    have z5 : A5.size = s.pod.size + 1 + s.met.size + 1 + (milli s.val).length + 1 := by rw [← hA5, ByteArray.size_append, z4, z0]
    have a1 := add_at Tryd.prog s.pod { data := #[32] } (by rw [z0]; omega)
    have a2 := add_at Tryd.prog A1 s.met (by omega)
    have a3 := add_at Tryd.prog A2 { data := #[32] } (by rw [z0]; omega)
    have a4 := add_at Tryd.prog A3 (mk (milli s.val)) (by rw [mk_size]; omega)
    have a5 := add_at Tryd.prog A4 { data := #[32] } (by rw [z0]; omega)
    have a6 := add_at Tryd.prog A5 (mk (Lib.itoa s.tick)) (by rw [mk_size]; omega)
    rw [hA1] at a1
    rw [hA2] at a2
    rw [hA3] at a3
    rw [hA4] at a4
    rw [hA5] at a5
    rw [hA6] at a6
    have HL : Hid (A6 = mk (lineL s)) := by
      show A6 = _
      rw [← hA6, ← hA5, ← hA4, ← hA3, ← hA2, ← hA1]
      exact line_eq s.pod s.met (milli s.val) (Lib.itoa s.tick)
    clear z0 z1 z2 z3 z4 z5 hA1 hA2 hA3 hA4 hA5 hA6
    unfold smpV at hc ⊢
    go_enter Tryd.func9, Tryd.ntmps9
    go_wp2_with (go_at_call 21; refine (hc _).mono ?_; rintro e w1 ⟨rfl, hb1⟩; obtain ⟨r1, r2, q0, q1, q2, q3⟩ := box_read hb1; clear hb1)
    have HE1 := Lib.hid (he.kept r2)
    have k0 := later_cell r1 q0
    have k1 := later_cell r1 q1
    have k2 := later_cell r1 q2
    have k3 := later_cell r1 q3
    clear hc
    refine region_later mixed (by kernel_rfl) ?_
    repeat (quiet_step (first | (go_at_call 22; exact later_call (impl_milli _ _ (HE1.out.kept (Later.h _)))) | (go_at_call 23; exact later_call (itoa_int _ (by omega) (by omega) _ (HE1.out.kept (Later.h _))))))
    refine wpQuiet_nil ?_
    intro _ hw'
    obtain ⟨⟨wl, hwl⟩, rfl⟩ := hw'
    go_wp2
    go_ret
    exact ⟨ret1S (by rw [HL.out]), r2.trans (hwl.mono (Nat.le_of_lt r1))⟩

end Go.Proofs.YtahhemgmlmhbjaaDoor.Line
