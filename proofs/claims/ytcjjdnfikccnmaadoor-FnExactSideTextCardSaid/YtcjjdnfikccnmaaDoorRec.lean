/- The sentinel errSetup, require, attempt (a deferred function recovers), checked. -/
import Derived.Test.YtcjjdnfikccnmaaDoorIs
import Derived.Test.YtcjjdnfikccnmaaDoorSdI
import Derived.Defers
import Derived.Recover
namespace Go.Proofs.YtcjjdnfikccnmaaDoor.Rec
open Go.RowKit
open Go.Proofs.YtcjjdnfikccnmaaDoor.C2 (box_below)
open Go.Proofs.YtcjjdnfikccnmaaDoor.Mem
open Go.Proofs.YtcjjdnfikccnmaaDoor.Is
open Go.Proofs.YtcjjdnfikccnmaaDoor.BhM
open Go.Proofs.YtcjjdnfikccnmaaDoor.Pl
set_option linter.unusedVariables false

/-- errSetup holds the pointer a. -/
structure Sen (a : Addr) (w : World) : Prop where
  lt : 0 < w.heap.size
  cell : w.cell? ⟨0, 0, none⟩ = some (.iface 106 (.pointer (some a)))
theorem Sen.kept {a : Addr} {w w' : World} (h : Sen a w) (hb : Below w.heap.size w w') : Sen a w' :=
  ⟨Nat.lt_of_lt_of_le h.lt hb.size, (hb.cell (p := ⟨0, 0, none⟩) h.lt).trans h.cell⟩
def errV (a : Addr) : Value := .iface 106 (.pointer (some a))
theorem require_ok (w : World) : Calls Tryd.prog 20 #[.bool true] w fun e w' => e = .returned (.tuple #[]) ∧ w' = w := by
  go_enter Tryd.func20, Tryd.ntmps20
  go_wp2
  go_end0
  exact ⟨rfl, rfl⟩
theorem require_no (a : Addr) (w : World) (h : Sen a w) : Calls Tryd.prog 20 #[.bool false] w fun e w' => e = .panicked [{ v := errV a, recovered := false }] ∧ w' = w := by
  have hc := h.cell
  go_enter Tryd.func20, Tryd.ntmps20
  go_wp2
  exact ⟨rfl, rfl, rfl⟩
/-- The deferred closure in a frame that panics: recover takes it, err becomes errSetup. -/
theorem catch_panicking (a p : Addr) (v : Value) (u : TypeId) (pv : Value) (older : List PanicEntry) (w : World) (h : Sen a w) (hc : w.cell? p = some v) (hz : w.frozen? p = false) :
    CallsD Tryd.prog 24 #[.pointer (some p)] (.panicking ({ v := .iface u pv, recovered := false } :: older)) w fun e u' w' =>
      e = .returned (.tuple #[]) ∧ u' = .panicking ({ v := .iface u pv, recovered := true } :: older) ∧ w' = w.setCell p (errV a) := by
  have hg := h.cell
  refine callsD_of_wpS Tryd.func24 rfl fun c₀ cs hu => ?_
  apply wpS_seq
  apply wpS_region
  simp [wpOpsS, go_sem, recoverD, hu, Tryd.ntmps24, Exit.thenS]
  refine wpS_cond (t := true) (by simp [Act.eval, Array.replicate]) ?_
  simp only [if_true]
  apply wpS_region
  simp [wpOpsS, go_sem, hc, hz, hg, bodyPostS, results, Tryd.results24, errV]
theorem catch_idle (p : Addr) (w : World) :
    CallsD Tryd.prog 24 #[.pointer (some p)] .returning w fun e u' w' => e = .returned (.tuple #[]) ∧ u' = .returning ∧ w' = w := by
  refine callsD_of_wpS Tryd.func24 rfl fun c₀ cs hu => ?_
  apply wpS_seq
  apply wpS_region
  simp [wpOpsS, go_sem, recoverD, hu, Tryd.ntmps24, Exit.thenS]
  refine wpS_cond (t := false) (by simp [Act.eval, Array.replicate]) ?_
  simp only [Bool.false_eq_true, if_false]
  refine wpS_of_wp (wp_skip ?_)
  cases c₀
  simp_all [bodyPostS, results, Tryd.results24]
theorem two_boxes (w : World) (o1 : Obj) (v : Value) (t : TypeId) : ∀ w2 : World, w2 = (w.alloc o1).alloc (.cells #[v] t) →
    Below w.heap.size w w2 ∧ ∀ w3, Below w2.heap.size w2 w3 → w3.cell? ⟨w.heap.size + 1, 0, none⟩ = some v ∧ w3.frozen? ⟨w.heap.size + 1, 0, none⟩ = false ∧ Below w.heap.size w w3 := by
  rintro w2 rfl
  have b1 : Below w.heap.size w (w.alloc o1) := (Below.refl _ _).alloc (Nat.le_refl _) _
  have b2 : Below w.heap.size w ((w.alloc o1).alloc (.cells #[v] t)) := b1.alloc b1.size _
  refine ⟨b2, fun w3 h => ⟨?_, ?_, b2.trans (h.mono b2.size)⟩⟩
  · rw [h.cell (by simp)]; simp [go_sem]
  · rw [h.frozen (by simp)]; simp [go_sem]
/-- attempt where the call returns. -/
theorem attempt_ok (s : Sd) (a : Option Addr) (cap : Nat) (b : ByteArray) (w : World)
    (H : ∀ w1, Below w.heap.size w w1 → Calls Tryd.prog 14 #[sdV s a cap] w1 fun e w' => e = .returned (.string b) ∧ Below w1.heap.size w1 w') :
    Calls Tryd.prog 18 #[.func (.func 14) #[] #[], sdV s a cap] w fun e w' => e = .returned (.tuple #[.string b, .nilIface]) ∧ Below w.heap.size w w' := by
  unfold sdV at *
  obtain ⟨w2, hw2⟩ : ∃ w2, w2 = (w.alloc (.cells #[.slice a s.ps.length cap, .int .i64 s.sel, .int .i64 s.win] 29)).alloc (.cells #[.nilIface] 47) := ⟨_, rfl⟩
  have h2 := two_boxes w _ _ _ w2 hw2
  have HC := Lib.hid (H w2 h2.1)
  rw [hw2] at HC
  rw [hw2] at h2
  have H2 := Lib.hid h2.2
  clear H h2 hw2 w2
  have hmf : ∀ (fn : Fn) (first cap : Array Value) (w : World), (Instr.makeFunc fn first cap).run Tryd.prog w = .ok (.func fn first cap) w := fun _ _ _ _ => rfl
  go_enter_defers Tryd.func18, Tryd.ntmps18
  go_wp2_with fail
  refine HC.out.mono ?_
  rintro e w3 ⟨rfl, hb⟩
  obtain ⟨c0, f0, hB⟩ := H2.out w3 hb
  have HB := Lib.hid hB
  clear hb hB
  go_wp2
  refine leaves_cons (f := 24) (args := #[.pointer (some ⟨w.heap.size + 1, 0, none⟩)]) (by simp) (by simp [go_sem]) ?_
  refine (catch_idle ⟨w.heap.size + 1, 0, none⟩ _).mono ?_
  rintro e u' w'' ⟨rfl, rfl, rfl⟩
  simp [Leaves, settle, results, Tryd.results18, go_sem, c0]
  exact HB.out.setCell (by simp) _
/-- attempt where the call panics with errSetup. -/
theorem attempt_no (s : Sd) (a : Option Addr) (cap : Nat) (x : Addr) (w : World) (hS : Sen x w)
    (H : ∀ w1, Below w.heap.size w w1 → Calls Tryd.prog 14 #[sdV s a cap] w1 fun e w' => e = .panicked [{ v := errV x, recovered := false }] ∧ Below w1.heap.size w1 w') :
    Calls Tryd.prog 18 #[.func (.func 14) #[] #[], sdV s a cap] w fun e w' => e = .returned (.tuple #[.string ⟨#[]⟩, errV x]) ∧ Below w.heap.size w w' := by
  unfold sdV at *
  obtain ⟨w2, hw2⟩ : ∃ w2, w2 = (w.alloc (.cells #[.slice a s.ps.length cap, .int .i64 s.sel, .int .i64 s.win] 29)).alloc (.cells #[.nilIface] 47) := ⟨_, rfl⟩
  have h2 := two_boxes w _ _ _ w2 hw2
  have HC := Lib.hid (H w2 h2.1)
  rw [hw2] at HC
  rw [hw2] at h2
  have H2 := Lib.hid h2.2
  have HS := Lib.hid hS
  clear H h2 hw2 w2 hS
  have hmf : ∀ (fn : Fn) (first cap : Array Value) (w : World), (Instr.makeFunc fn first cap).run Tryd.prog w = .ok (.func fn first cap) w := fun _ _ _ _ => rfl
  go_enter_defers Tryd.func18, Tryd.ntmps18
  go_wp2_with fail
  refine HC.out.mono ?_
  rintro e w3 ⟨rfl, hb⟩
  obtain ⟨c0, f0, hB⟩ := H2.out w3 hb
  have HB := Lib.hid hB
  clear hb hB
  go_wp2
  refine leaves_cons (f := 24) (args := #[.pointer (some ⟨w.heap.size + 1, 0, none⟩)]) (by simp) (by simp [go_sem]) ?_
  refine (catch_panicking x ⟨w.heap.size + 1, 0, none⟩ _ _ _ [] _ (HS.out.kept HB.out) c0 f0).mono ?_
  rintro e u' w'' ⟨rfl, rfl, rfl⟩
  simp [Leaves, settle, results, Tryd.results18, go_sem, c0]
  exact HB.out.setCell (by simp) _
theorem checked_ok (s : Sd) (a : Option Addr) (cap : Nat) (b : ByteArray) (x : Addr) (w : World) (hS : Sen x w)
    (H : ∀ w1, Below w.heap.size w w1 → Calls Tryd.prog 14 #[sdV s a cap] w1 fun e w' => e = .returned (.string b) ∧ Below w1.heap.size w1 w') :
    Calls Tryd.prog 13 #[.func (.func 14) #[] #[], sdV s a cap] w fun e w' => e = .returned (.tuple #[.string b, .bool true]) ∧ Below w.heap.size w w' := by
  have hbx := box_below w #[.slice a s.ps.length cap, .int .i64 s.sel, .int .i64 s.win] 29
  have H1 : Hid (∀ w1, Below (w.alloc (.cells #[.slice a s.ps.length cap, .int .i64 s.sel, .int .i64 s.win] 29)).heap.size (w.alloc (.cells #[.slice a s.ps.length cap, .int .i64 s.sel, .int .i64 s.win] 29)) w1 → Calls Tryd.prog 14 #[sdV s a cap] w1 fun e w' => e = .returned (.string b) ∧ Below w1.heap.size w1 w') :=
    fun w1 h => H w1 (hbx.trans (h.mono hbx.size))
  have HS1 := Lib.hid (hS.kept hbx)
  have HBX := Lib.hid hbx
  have hatt := (attempt_ok s a cap b _ H1.out)
  unfold sdV at hatt ⊢
  have HA := Lib.hid hatt
  clear hatt hbx H H1 hS
  go_enter Tryd.func13, Tryd.ntmps13
  go_wp2_with fail
  refine HA.out.mono ?_
  rintro e w2 ⟨rfl, hb⟩
  have HS2 := Lib.hid (HS1.out.kept hb)
  have HB := Lib.hid (HBX.out.trans (hb.mono HBX.out.size))
  have hc := HS2.out.cell
  unfold errV at *
  clear hb
  go_wp2_with (go_at_call 19; refine (is_nil _ _).mono ?_; rintro e w' ⟨rfl, rfl⟩)
  go_ret2
  exact ⟨rfl, HB.out⟩
theorem side_ok (s : Sd) (a : Option Addr) (cap : Nat) (b : ByteArray) (x : Addr) (w : World) (hS : Sen x w)
    (H : ∀ w1, Below w.heap.size w w1 → Calls Tryd.prog 14 #[sdV s a cap] w1 fun e w' => e = .returned (.string b) ∧ Below w1.heap.size w1 w') :
    Calls Tryd.prog 7 #[sdV s a cap] w fun e w' => e = .returned (.string b) ∧ Below w.heap.size w w' := by
  have hbx := box_below w #[.slice a s.ps.length cap, .int .i64 s.sel, .int .i64 s.win] 29
  have H1 : Hid (∀ w1, Below (w.alloc (.cells #[.slice a s.ps.length cap, .int .i64 s.sel, .int .i64 s.win] 29)).heap.size (w.alloc (.cells #[.slice a s.ps.length cap, .int .i64 s.sel, .int .i64 s.win] 29)) w1 → Calls Tryd.prog 14 #[sdV s a cap] w1 fun e w' => e = .returned (.string b) ∧ Below w1.heap.size w1 w') :=
    fun w1 h => H w1 (hbx.trans (h.mono hbx.size))
  have HS1 := Lib.hid (hS.kept hbx)
  have HBX := Lib.hid hbx
  have hatt := checked_ok s a cap b x _ HS1.out H1.out
  unfold sdV at hatt ⊢
  have HA := Lib.hid hatt
  clear hatt hbx H H1 hS
  go_enter Tryd.func7, Tryd.ntmps7
  go_wp2_with fail
  refine HA.out.mono ?_
  rintro e w2 ⟨rfl, hb⟩
  have HB := Lib.hid (HBX.out.trans (hb.mono HBX.out.size))
  clear hb
  go_wp2
  go_ret
  exact ⟨rfl, HB.out⟩
theorem checked_no (s : Sd) (a : Option Addr) (cap : Nat) (x : Addr) (w : World) (hS : Sen x w)
    (H : ∀ w1, Below w.heap.size w w1 → Calls Tryd.prog 14 #[sdV s a cap] w1 fun e w' => e = .panicked [{ v := errV x, recovered := false }] ∧ Below w1.heap.size w1 w') :
    Calls Tryd.prog 13 #[.func (.func 14) #[] #[], sdV s a cap] w fun e w' => e = .returned (.tuple #[.string ⟨#[]⟩, .bool false]) ∧ Below w.heap.size w w' := by
  have hbx := box_below w #[.slice a s.ps.length cap, .int .i64 s.sel, .int .i64 s.win] 29
  have H1 : Hid (∀ w1, Below (w.alloc (.cells #[.slice a s.ps.length cap, .int .i64 s.sel, .int .i64 s.win] 29)).heap.size (w.alloc (.cells #[.slice a s.ps.length cap, .int .i64 s.sel, .int .i64 s.win] 29)) w1 → Calls Tryd.prog 14 #[sdV s a cap] w1 fun e w' => e = .panicked [{ v := errV x, recovered := false }] ∧ Below w1.heap.size w1 w') :=
    fun w1 h => H w1 (hbx.trans (h.mono hbx.size))
  have HS1 := Lib.hid (hS.kept hbx)
  have HBX := Lib.hid hbx
  have hatt := (attempt_no s a cap x _ HS1.out H1.out)
  unfold sdV at hatt ⊢
  have HA := Lib.hid hatt
  clear hatt hbx H H1 hS
  go_enter Tryd.func13, Tryd.ntmps13
  go_wp2_with fail
  refine HA.out.mono ?_
  rintro e w2 ⟨rfl, hb⟩
  have HS2 := Lib.hid (HS1.out.kept hb)
  have HB := Lib.hid (HBX.out.trans (hb.mono HBX.out.size))
  have hc := HS2.out.cell
  unfold errV at *
  clear hb
  go_wp2_with (go_at_call 19; refine (is_same _ _).mono ?_; rintro e w' ⟨rfl, rfl⟩)
  go_ret2
  exact ⟨rfl, HB.out⟩
theorem side_no (s : Sd) (a : Option Addr) (cap : Nat) (x : Addr) (w : World) (hS : Sen x w)
    (H : ∀ w1, Below w.heap.size w w1 → Calls Tryd.prog 14 #[sdV s a cap] w1 fun e w' => e = .panicked [{ v := errV x, recovered := false }] ∧ Below w1.heap.size w1 w') :
    Calls Tryd.prog 7 #[sdV s a cap] w fun e w' => e = .returned (.string ⟨#[]⟩) ∧ Below w.heap.size w w' := by
  have hbx := box_below w #[.slice a s.ps.length cap, .int .i64 s.sel, .int .i64 s.win] 29
  have H1 : Hid (∀ w1, Below (w.alloc (.cells #[.slice a s.ps.length cap, .int .i64 s.sel, .int .i64 s.win] 29)).heap.size (w.alloc (.cells #[.slice a s.ps.length cap, .int .i64 s.sel, .int .i64 s.win] 29)) w1 → Calls Tryd.prog 14 #[sdV s a cap] w1 fun e w' => e = .panicked [{ v := errV x, recovered := false }] ∧ Below w1.heap.size w1 w') :=
    fun w1 h => H w1 (hbx.trans (h.mono hbx.size))
  have HS1 := Lib.hid (hS.kept hbx)
  have HBX := Lib.hid hbx
  have hatt := checked_no s a cap x _ HS1.out H1.out
  unfold sdV at hatt ⊢
  have HA := Lib.hid hatt
  clear hatt hbx H H1 hS
  go_enter Tryd.func7, Tryd.ntmps7
  go_wp2_with fail
  refine HA.out.mono ?_
  rintro e w2 ⟨rfl, hb⟩
  have HB := Lib.hid (HBX.out.trans (hb.mono HBX.out.size))
  clear hb
  go_wp2
  go_ret
  exact ⟨rfl, HB.out⟩
end Go.Proofs.YtcjjdnfikccnmaaDoor.Rec
