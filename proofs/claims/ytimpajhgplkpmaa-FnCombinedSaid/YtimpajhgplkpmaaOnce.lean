/- sync.Once and the law of a control: createLaw once, then the law. One goroutine. -/
import Derived.Test.YtimpajhgplkpmaaRf
import Derived.Tactics
import Derived.Tactics2
import Derived.Defers
import Derived.Laws.Pointers
import Derived.Laws.LoneSync
import Derived.Laws.NewBlocks
import Derived.RegionTactic
import Derived.RegionCalls
import Derived.ChangeAlike
import Derived.Laws.EntriesVeiled
import Derived.Deep.RegionWith
namespace Go.Proofs.Ytimpajhgplkpmaa.Once
open Go.RowKit
open Go.Proofs.Ytimpajhgplkpmaa.C1
open Go.Proofs.Ytimpajhgplkpmaa.C2
open Go.Proofs.Ytimpajhgplkpmaa.Smps
open Go.Proofs.Ytimpajhgplkpmaa.Mem
open Go.Proofs.Ytimpajhgplkpmaa.Pd
open Go.Proofs.Ytimpajhgplkpmaa.Gl
open Go.Proofs.Ytimpajhgplkpmaa.Rs
open Go.Proofs.Ytimpajhgplkpmaa.Bd
open Go.Proofs.Ytimpajhgplkpmaa.Rf
set_option linter.unusedVariables false

theorem disable (w : World) : (callFunc 159 #[]).run Try.prog w = .ok (.value (.tuple #[])) w := run_call_mark0 Try.func159 (by kernel_rfl) (by kernel_rfl) (by kernel_rfl) .disable (by kernel_rfl) w
theorem enable (w : World) : (callFunc 161 #[]).run Try.prog w = .ok (.value (.tuple #[])) w := run_call_mark0 Try.func161 (by kernel_rfl) (by kernel_rfl) (by kernel_rfl) .enable (by kernel_rfl) w
theorem acquire (a : Addr) (w : World) : (callFunc 162 #[.pointer (some a)]).run Try.prog w = .ok (.value (.tuple #[])) w := run_call_marked Try.func162 (by kernel_rfl) (by kernel_rfl) (by kernel_rfl) .acquire (by kernel_rfl) a w
theorem releaseMerge (a : Addr) (w : World) : (callFunc 164 #[.pointer (some a)]).run Try.prog w = .ok (.value (.tuple #[])) w := run_call_marked Try.func164 (by kernel_rfl) (by kernel_rfl) (by kernel_rfl) .releaseMerge (by kernel_rfl) a w
/-- '(*sync/atomic.Bool).Store(true)', entered as a deferred call: the cell holds 1. -/
theorem store_deferred (a : Addr) (x : Value) (u : FrameMode) (w : World) (hc : w.cell? a = some x) (hz : w.frozen? a = false) :
    CallsD Try.prog 145 #[.pointer (some a), .bool true] u w fun e u' w' => u' = u ∧ (e = .returned (.tuple #[]) ∧ w' = w.drew.setCell a (.int .u32 1)) := by
  have hc' : w.drew.cell? a = some x := by go_simp
  have hz' : w.drew.frozen? a = false := by go_simp
  have hst := run_call_store (P := Try.prog) Try.func154 (by kernel_rfl) (by kernel_rfl) (by kernel_rfl) (by kernel_rfl) (k := .u32) (y := 1) hc' hz'
  go_enter_d Try.func145, Try.ntmps145
  go_wp2
  go_region_calls
  all_goals (go_end0; exact ⟨rfl, rfl⟩)
set_option maxRecDepth 100000 in
set_option maxHeartbeats 1600000 in
/-- '(*sync.Mutex).Unlock', entered as a deferred call, the lock held and nobody waiting (state 1): state 0. -/
theorem unlock_deferred (a : Addr) (u : FrameMode) (w : World) (hc : w.cell? a = some (.int .i32 1)) (hz : w.frozen? a = false) :
    CallsD Try.prog 144 #[.pointer (some a)] u w fun e u' w' => u' = u ∧ (e = .returned (.tuple #[]) ∧ w' = w.setCell a (.int .i32 0)) := by
  have hd := disable
  have he := enable
  have hr := releaseMerge
  have hadd := run_call_add (P := Try.prog) Try.func165 (by kernel_rfl) (by kernel_rfl) (by kernel_rfl) .i32 (by kernel_rfl) (y := -1) (s := 0) hc hz (by simp [go_sem]; rfl)
  have hcv := run_convert_to_unsafe (P := Try.prog) (src := 191) (dst := 195) Try.underlying191 Try.underlying195 (by kernel_rfl) hc
  go_enter_d Try.func144, Try.ntmps144
  go_wp2
  go_end0
  go_wp2
  go_end0
  exact ⟨rfl, rfl⟩
set_option maxRecDepth 100000 in
set_option maxHeartbeats 1600000 in
/-- '(*sync.Mutex).Lock', the lock free (state 0): state 1. -/
theorem lock_free (a : Addr) (w : World) (hc : w.cell? a = some (.int .i32 0)) (hz : w.frozen? a = false) :
    Calls Try.prog 143 #[.pointer (some a)] w fun e w' => e = .returned (.tuple #[]) ∧ w' = w.setCell a (.int .i32 1) := by
  have hd := disable
  have he := enable
  have ha := acquire
  have hcas := run_call_cas_hit (P := Try.prog) Try.func160 (by kernel_rfl) (by kernel_rfl) (by kernel_rfl) .i32 (by kernel_rfl) (y := 1) hc hz
  have hc' : (w.setCell a (.int .i32 1)).cell? a = some (.int .i32 1) := World.cell?_setCell_same w a _ hc
  have hcv := run_convert_to_unsafe (P := Try.prog) (src := 191) (dst := 195) Try.underlying191 Try.underlying195 (by kernel_rfl) hc'
  go_enter Try.func143, Try.ntmps143
  go_wp2
  first | go_end0 | (simp only [Exit.inBlock, Exit.then]; refine bodyPost_ret (results_none rfl _ _ _) rfl ?_) | refine bodyPost_ret (results_none rfl _ _ _) rfl ?_
  go_wp2
  go_end0
  exact ⟨rfl, rfl⟩
/-! ### A control in memory: goal (3 cells), once (done, lock, sema), law. -/
def lawF (g : Gl) : Value := .func (.func 135) #[glV g] #[]
/-- A control that has its law (k = 1) or not yet (k = 0). -/
def ctlV (g : Gl) (k : Int) (l : Value) : List Value := [.string g.met, .int .i64 g.tar, .int .i64 g.tol, .int .u32 k, .int .i32 0, .int .u32 0, l]
def makeF (a : Nat) : Value := .func (.func 118) #[.pointer (some ⟨a, 0, none⟩)] #[]
theorem cells7 {w : World} {a : Nat} {v0 v1 v2 v3 v4 v5 v6 : Value} (h : CellsW w a [v0, v1, v2, v3, v4, v5, v6]) : w.cell? ⟨a, 0, none⟩ = some v0 ∧ w.cell? ⟨a, 1, none⟩ = some v1 ∧ w.cell? ⟨a, 2, none⟩ = some v2 ∧ w.cell? ⟨a, 3, none⟩ = some v3 ∧ w.cell? ⟨a, 4, none⟩ = some v4 ∧ w.cell? ⟨a, 5, none⟩ = some v5 ∧ w.cell? ⟨a, 6, none⟩ = some v6 :=
  ⟨(h.2 0 (by simp)).1, (h.2 1 (by simp)).1, (h.2 2 (by simp)).1, (h.2 3 (by simp)).1, (h.2 4 (by simp)).1, (h.2 5 (by simp)).1, (h.2 6 (by simp)).1⟩
theorem cellsF7 {w : World} {a : Nat} {v0 v1 v2 v3 v4 v5 v6 : Value} (h : CellsW w a [v0, v1, v2, v3, v4, v5, v6]) : w.frozen? ⟨a, 3, none⟩ = false ∧ w.frozen? ⟨a, 4, none⟩ = false ∧ w.frozen? ⟨a, 6, none⟩ = false :=
  ⟨(h.2 3 (by simp)).2, (h.2 4 (by simp)).2, (h.2 6 (by simp)).2⟩
theorem make_law (g : Gl) (a : Nat) (x3 x4 x5 l : Value) (w : World) (h : CellsW w a [.string g.met, .int .i64 g.tar, .int .i64 g.tol, x3, x4, x5, l]) :
    Calls Try.prog 118 #[.pointer (some ⟨a, 0, none⟩)] w fun e w' => e = .returned (.tuple #[]) ∧ w' = w.setCell ⟨a, 6, none⟩ (lawF g) := by
  have hmf : ∀ (fn : Fn) (first cap : Array Value) (w : World), (Instr.makeFunc fn first cap).run Try.prog w = .ok (.func fn first cap) w := fun _ _ _ _ => rfl
  obtain ⟨c0, c1, c2, c3, c4, c5, c6⟩ := cells7 h
  obtain ⟨f3, f4, f6⟩ := cellsF7 h
  unfold lawF glV
  go_enter Try.func118, Try.ntmps118
  go_wp2
  go_end0
  exact ⟨rfl, rfl⟩
/-! ### sync.Once. -/
set_option maxRecDepth 100000 in
set_option maxHeartbeats 1600000 in
theorem slow_any (g : Gl) (a : Nat) (l : Value) (w : World) (h : CellsW w a (ctlV g 0 l)) :
    Calls Try.prog 134 #[.pointer (some ⟨a, 3, none⟩), makeF a] w fun e w' => e = .returned (.tuple #[]) ∧
      w' = (((w.setCell ⟨a, 4, none⟩ (.int .i32 1)).setCell ⟨a, 6, none⟩ (lawF g)).drew.setCell ⟨a, 3, none⟩ (.int .u32 1)).setCell ⟨a, 4, none⟩ (.int .i32 0) := by
  have h1 : CellsW (w.setCell ⟨a, 4, none⟩ (.int .i32 1)) a [.string g.met, .int .i64 g.tar, .int .i64 g.tol, .int .u32 0, .int .i32 1, .int .u32 0, l] := h.set 4 (.int .i32 1) (by simp [ctlV])
  have h2 : CellsW ((w.setCell ⟨a, 4, none⟩ (.int .i32 1)).setCell ⟨a, 6, none⟩ (lawF g)) a [.string g.met, .int .i64 g.tar, .int .i64 g.tol, .int .u32 0, .int .i32 1, .int .u32 0, lawF g] := h1.set 6 (lawF g) (by simp)
  have hl := run_call_load (P := Try.prog) Try.func142 (by kernel_rfl) (by kernel_rfl) (by kernel_rfl) .u32 (by kernel_rfl) (w := w.setCell ⟨a, 4, none⟩ (.int .i32 1)) (a := ⟨a, 3, none⟩) (x := 0) (cells7 h1).2.2.2.1
  have hnot : ∀ (x : Bool) (w : World), (Op.unary .not (.bool x)).run Try.prog w = .ok (.bool (!x)) w := fun _ _ => rfl
  have H2 := Lib.hid h2
  have H1 := Lib.hid h1
  have h4 := (cells7 h).2.2.2.2.1
  have f4 := (cellsF7 h).2.1
  unfold makeF
  clear h1 h2
  go_enter_defers Try.func134, Try.ntmps134
  go_wp2_with (go_at_call 143; refine (lock_free ⟨a, 4, none⟩ _ h4 f4).mono ?_; rintro e w' ⟨rfl, rfl⟩)
  go_wp2_with (first | (go_at_call 133; go_in) | (go_at_call 118; refine (make_law g a _ _ _ _ _ H1.out).mono ?_; rintro e w' ⟨rfl, rfl⟩))
  -- two deferred calls, the last laid first
  refine leaves_cons (f := 145) (args := #[.pointer (some ⟨a, 3, none⟩), .bool true]) (by simp) (by simp [go_sem]) ?_
  refine (store_deferred ⟨a, 3, none⟩ (.int .u32 0) .returning _ (cells7 H2.out).2.2.2.1 (cellsF7 H2.out).1).mono ?_
  rintro e u' w'' ⟨rfl, rfl, rfl⟩
  have h3 := ((H2.out.kept ((Below.refl _ _).drew : Below ((w.setCell ⟨a, 4, none⟩ (.int .i32 1)).setCell ⟨a, 6, none⟩ (lawF g)).heap.size _ ((w.setCell ⟨a, 4, none⟩ (.int .i32 1)).setCell ⟨a, 6, none⟩ (lawF g)).drew)).set 3 (.int .u32 1) (by simp))
  refine leaves_cons (f := 144) (args := #[.pointer (some ⟨a, 4, none⟩)]) (by simp [settle]) (by simp [go_sem]) ?_
  refine (unlock_deferred ⟨a, 4, none⟩ _ _ (h3.2 4 (by simp)).1 (h3.2 4 (by simp)).2).mono ?_
  rintro e u' w'' ⟨rfl, rfl, rfl⟩
  simp [Leaves, settle, results, Try.results134]
set_option maxRecDepth 100000 in
set_option maxHeartbeats 1600000 in
theorem do_first (g : Gl) (a : Nat) (l : Value) (w : World) (h : CellsW w a (ctlV g 0 l)) :
    Calls Try.prog 117 #[.pointer (some ⟨a, 3, none⟩), makeF a] w fun e w' => e = .returned (.tuple #[]) ∧ Only a w w' ∧ CellsW w' a (ctlV g 1 (lawF g)) := by
  have hs := slow_any g a l w h
  have hl := run_call_load (P := Try.prog) Try.func142 (by kernel_rfl) (by kernel_rfl) (by kernel_rfl) .u32 (by kernel_rfl) (w := w) (a := ⟨a, 3, none⟩) (x := 0) (cells7 h).2.2.2.1
  have hnot : ∀ (x : Bool) (w : World), (Op.unary .not (.bool x)).run Try.prog w = .ok (.bool (!x)) w := fun _ _ => rfl
  have H := Lib.hid h
  unfold makeF at hs ⊢
  have HS := Lib.hid hs
  clear h hs
  go_enter Try.func117, Try.ntmps117
  go_wp2_with (first | (go_at_call 134; refine HS.out.mono ?_; rintro e w' ⟨rfl, hw⟩; have HW := Lib.hid hw; clear hw) | (go_at_call 133; go_in))
  go_end0
  refine ⟨rfl, ?_, ?_⟩
  · rw [HW.out]
    exact (((((Only.refl a w).setCell 4 (.int .i32 1)).setCell 6 (lawF g)).trans (Only.of_below (Below.refl _ _).drew)).setCell 3 (.int .u32 1)).setCell 4 (.int .i32 0)
  · rw [HW.out]
    have h1 := (H.out.set 4 (.int .i32 1) (by simp [ctlV])).set 6 (lawF g) (by simp [ctlV])
    exact ((h1.kept (Below.refl _ _).drew).set 3 (.int .u32 1) (by simp [ctlV])).set 4 (.int .i32 0) (by simp [ctlV])
theorem do_done (g : Gl) (a : Nat) (l fv : Value) (w : World) (h : CellsW w a (ctlV g 1 l)) :
    Calls Try.prog 117 #[.pointer (some ⟨a, 3, none⟩), fv] w fun e w' => e = .returned (.tuple #[]) ∧ w' = w := by
  have hl := run_call_load (P := Try.prog) Try.func142 (by kernel_rfl) (by kernel_rfl) (by kernel_rfl) .u32 (by kernel_rfl) (w := w) (a := ⟨a, 3, none⟩) (x := 1) (cells7 h).2.2.2.1
  have hnot : ∀ (x : Bool) (w : World), (Op.unary .not (.bool x)).run Try.prog w = .ok (.bool (!x)) w := fun _ _ => rfl
  clear h
  go_enter Try.func117, Try.ntmps117
  go_wp2_with (go_at_call 133; go_in)
  go_end0
  exact ⟨rfl, rfl⟩
/-! ### The law. -/
theorem impl_judge (s n : Int) (g : Gl) (hg : g.wf) (w : World) :
    Calls Try.prog 135 #[glV g, ldV s n] w fun e w' => e = .returned (.int .i64 (jdV s n g)) ∧ Below w.heap.size w w' := by
  have hbd := fun W => impl_band s n g hg W
  have hsg := fun W => impl_lsign s n g.tar W
  have HA := Lib.hid (box2_cells w #[.string g.met, .int .i64 g.tar, .int .i64 g.tol] #[.int .i64 s, .int .i64 n] 27 100)
  have H0 := Lib.hid (box2_below w (.cells #[.string g.met, .int .i64 g.tar, .int .i64 g.tol] 27) (.cells #[.int .i64 s, .int .i64 n] 100))
  obtain ⟨z0, z1, z2⟩ := cells3 HA.out.1
  obtain ⟨y0, y1⟩ := cells2 HA.out.2
  obtain ⟨v, hv⟩ : ∃ v, jdV s n g = v := ⟨_, rfl⟩
  have HV := Lib.hid hv
  rw [hv]
  unfold glV ldV at hbd ⊢
  unfold ldV at hsg
  obtain ⟨W0, hW0⟩ : ∃ W0, (w.alloc (.cells #[.string g.met, .int .i64 g.tar, .int .i64 g.tol] 27)).alloc (.cells #[.int .i64 s, .int .i64 n] 100) = W0 := ⟨_, rfl⟩
  rw [hW0] at HA H0 z0 z1 z2 y0 y1
  have HW := Lib.hid hW0
  clear hv hW0
  go_enter Try.func135, Try.ntmps135
  go_wp2_with fail
  rw [HW.out]
  refine (hbd _).mono ?_
  rintro e w1 ⟨rfl, hb1⟩
  have HB1 := Lib.hid (H0.out.trans (hb1.mono H0.out.size))
  have HC1 := Lib.hid (HA.out.1.kept hb1)
  have HD1 := Lib.hid (HA.out.2.kept hb1)
  clear hb1 z0 z1 z2 y0 y1
  cases e1 : bandV s n g
  · obtain rfl : rsV s n g.tar = v := by rw [← HV.out]; unfold jdV; rw [e1]; rfl
    obtain ⟨z0, z1, z2⟩ := cells3 HC1.out
    obtain ⟨y0, y1⟩ := cells2 HD1.out
    clear e1 HV
    go_wp2_with fail
    refine (hsg _).mono ?_
    rintro e w2 ⟨rfl, hb2⟩
    have HB2 := Lib.hid (HB1.out.trans (hb2.mono HB1.out.size))
    clear hb2
    go_wp2
    go_ret
    exact ⟨rfl, HB2.out⟩
  · obtain rfl : 0 = v := by rw [← HV.out]; unfold jdV; rw [e1]; rfl
    clear e1 HV
    go_wp2
    go_ret
    exact ⟨rfl, HB1.out⟩
end Go.Proofs.Ytimpajhgplkpmaa.Once
