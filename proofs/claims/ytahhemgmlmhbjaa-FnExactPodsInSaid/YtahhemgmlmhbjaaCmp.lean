/- Comparing samples: cmp.Compare at strings and at integers, cmp.Or, impl.compareSamples. -/
import Derived.Test.YtahhemgmlmhbjaaSmps
import Derived.Sort.LotA
import Derived.Sort.Walk0
import Derived.StillTailTactics
import Derived.Shelf.SlSortCmp.QuietGrown
namespace Go.Proofs.Ytahhemgmlmhbjaa.Cmp
open Go.RowKit Go.Sort
open Go.Proofs.Ytahhemgmlmhbjaa.C1
open Go.Proofs.Ytahhemgmlmhbjaa.C2
open Go.Proofs.Ytahhemgmlmhbjaa.Smps
set_option linter.unusedVariables false

def cmpB (x y : List UInt8) : Int := if x < y then -1 else if y < x then 1 else 0
def cmpI (x y : Int) : Int := if x < y then -1 else if y < x then 1 else 0
def orV (x y z : Int) : Int := if x = 0 then (if y = 0 then z else y) else x
/-- compareSamples. -/
def cfS (a b : Smp) : Int := orV (cmpB a.pod.data.toList b.pod.data.toList) (cmpB a.met.data.toList b.met.data.toList) (cmpI a.tick b.tick)

theorem less_yes {x y : ByteArray} (h : x.data.toList < y.data.toList) : Op.bytesLess x.toList y.toList = true := by
  rw [bytesLess_eq, ByteArray.toList_eq, ByteArray.toList_eq, decide_eq_true h]
theorem less_no {x y : ByteArray} (h : ¬ x.data.toList < y.data.toList) : Op.bytesLess x.toList y.toList = false := by
  rw [bytesLess_eq, ByteArray.toList_eq, ByteArray.toList_eq, decide_eq_false h]

theorem nan_str (x : ByteArray) (w : World) : Calls Try.prog 57 #[.string x] w fun e w' => e = .returned (.bool false) ∧ w = w' := by
  go_enter Try.func57, Try.ntmps57
  go_wp2
  go_ret
  exact ⟨ret1B (by simp), rfl⟩
theorem nan_int (x : Int) (w : World) : Calls Try.prog 58 #[.int .i64 x] w fun e w' => e = .returned (.bool false) ∧ w = w' := by
  go_enter Try.func58, Try.ntmps58
  go_wp2
  go_ret
  exact ⟨ret1B (by simp), rfl⟩
theorem cmp_str (x y : ByteArray) (w : World) : Calls Try.prog 47 #[.string x, .string y] w fun e w' => e = .returned (.int .i64 (cmpB x.data.toList y.data.toList)) ∧ w' = w := by
  unfold cmpB
  by_cases h1 : x.data.toList < y.data.toList
  · rw [if_pos h1]
    have l1 := less_yes h1
    clear h1
    go_enter Try.func47, Try.ntmps47
    go_wp2_with (go_at_call 57; refine (nan_str _ _).mono ?_; rintro e w' ⟨rfl, rfl⟩)
    go_ret
    exact ⟨rfl, rfl⟩
  · rw [if_neg h1]
    have l1 := less_no h1
    by_cases h2 : y.data.toList < x.data.toList
    · rw [if_pos h2]
      have l2 : (x.toList == y.toList) = false := by
        rw [ByteArray.toList_eq, ByteArray.toList_eq, beq_eq_false_iff_ne]
        intro e
        rw [e] at h2
        exact List.lt_irrefl _ h2
      clear h2
      go_enter Try.func47, Try.ntmps47
      go_wp2_with (go_at_call 57; refine (nan_str _ _).mono ?_; rintro e w' ⟨rfl, rfl⟩)
      go_ret
      exact ⟨rfl, rfl⟩
    · rw [if_neg h2]
      have l2 : (x.toList == y.toList) = true := by
        rw [ByteArray.toList_eq, ByteArray.toList_eq, beq_iff_eq]
        exact List.le_antisymm (List.not_lt.1 h2) (List.not_lt.1 h1)
      clear h2
      go_enter Try.func47, Try.ntmps47
      go_wp2_with (go_at_call 57; refine (nan_str _ _).mono ?_; rintro e w' ⟨rfl, rfl⟩)
      go_ret
      exact ⟨rfl, rfl⟩
theorem cmp_int (x y : Int) (w : World) : Calls Try.prog 48 #[.int .i64 x, .int .i64 y] w fun e w' => e = .returned (.int .i64 (cmpI x y)) ∧ w' = w := by
  unfold cmpI
  by_cases h1 : x < y
  · rw [if_pos h1]
    go_enter Try.func48, Try.ntmps48
    go_wp2_with (go_at_call 58; refine (nan_int _ _).mono ?_; rintro e w' ⟨rfl, rfl⟩)
    go_ret
    exact ⟨rfl, rfl⟩
  · rw [if_neg h1]
    by_cases h2 : y < x
    all_goals
      first | rw [if_pos h2] | rw [if_neg h2]
      go_enter Try.func48, Try.ntmps48
      go_wp2_with (go_at_call 58; refine (nan_int _ _).mono ?_; rintro e w' ⟨rfl, rfl⟩)
      go_ret
      exact ⟨rfl, rfl⟩

theorem cmp_or (x y z : Int) (b c : Nat) (w : World) (q0 : w.cell? ⟨b, 0, none⟩ = some (.int .i64 x)) (q1 : w.cell? ⟨b, 1, none⟩ = some (.int .i64 y)) (q2 : w.cell? ⟨b, 2, none⟩ = some (.int .i64 z)) :
    Calls Try.prog 46 #[.slice (some ⟨b, 0, none⟩) 3 c] w fun e w' => e = .returned (.int .i64 (orV x y z)) ∧ w' = w := by
  go_enter Try.func46, Try.ntmps46
  go_wp2
  go_loop [8] (fun i => ∃ k : Nat, k ≤ 3 ∧ i = .int .i64 k ∧ Hid ((1 ≤ k → x = 0) ∧ (2 ≤ k → y = 0) ∧ (3 ≤ k → z = 0))) (fun i => 3 - (intOf i).toNat)
  case atStart => exact ⟨0, by omega, rfl, ⟨fun h => by omega, fun h => by omega, fun h => by omega⟩⟩
  case round =>
    obtain ⟨k, hk, rfl, H⟩ := hrel
    rcases (by omega : k = 0 ∨ k = 1 ∨ k = 2 ∨ k = 3) with rfl | rfl | rfl | rfl
    · cases h : (x != 0)
      · have hx := Lib.hid (show x = 0 by simpa using h)
        go_wp2
        go_round
        case rel => exact ⟨1, by omega, rfl, ⟨fun _ => hx.out, fun h => by omega, fun h => by omega⟩⟩
        case measure => simp [intOf]
      · have hx := Lib.hid (show ¬ x = 0 by simpa using h)
        go_wp2
        go_ret
        exact ⟨ret1I (by unfold orV; rw [if_neg hx.out]), rfl⟩
    · cases h : (y != 0)
      · have hx := Lib.hid (show y = 0 by simpa using h)
        go_wp2
        go_round
        case rel => exact ⟨2, by omega, rfl, ⟨fun _ => H.out.1 (by omega), fun _ => hx.out, fun h => by omega⟩⟩
        case measure => simp [intOf]
      · have hx := Lib.hid (show ¬ y = 0 by simpa using h)
        go_wp2
        go_ret
        exact ⟨ret1I (by unfold orV; rw [if_pos (H.out.1 (by omega)), if_neg hx.out]), rfl⟩
    · cases h : (z != 0)
      · have hx := Lib.hid (show z = 0 by simpa using h)
        go_wp2
        go_round
        case rel => exact ⟨3, by omega, rfl, ⟨fun _ => H.out.1 (by omega), fun _ => H.out.2.1 (by omega), fun _ => hx.out⟩⟩
        case measure => simp [intOf]
      · have hx := Lib.hid (show ¬ z = 0 by simpa using h)
        go_wp2
        go_ret
        exact ⟨ret1I (by unfold orV; rw [if_pos (H.out.1 (by omega)), if_pos (H.out.2.1 (by omega))]), rfl⟩
    · go_wp2
      go_ret
      exact ⟨ret1I (by unfold orV; rw [if_pos (H.out.1 (by omega)), if_pos (H.out.2.1 (by omega)), H.out.2.2 (by omega)]), rfl⟩

theorem cmp_samples (a b : Smp) (w : World) :
    Calls Try.prog 37 #[smpV a, smpV b] w fun e w' => e = .returned (.int .i64 (cfS a b)) ∧ ∃ q os', w' = grow (w.drewN q) os' := by
  have mixed : Try.prog.follows .mixedOrders = true := by kernel_rfl
  unfold smpV cfS
  obtain ⟨x, hx⟩ : ∃ x, cmpB a.pod.data.toList b.pod.data.toList = x := ⟨_, rfl⟩
  obtain ⟨y, hy⟩ : ∃ x, cmpB a.met.data.toList b.met.data.toList = x := ⟨_, rfl⟩
  obtain ⟨z, hz⟩ : ∃ x, cmpI a.tick b.tick = x := ⟨_, rfl⟩
  have c1 := fun w => cmp_str a.pod b.pod w
  have c2 := fun w => cmp_str a.met b.met w
  have c3 := fun w => cmp_int a.tick b.tick w
  rw [hx] at c1 ⊢
  rw [hy] at c2 ⊢
  rw [hz] at c3 ⊢
  clear hx hy hz
  go_enter Try.func37, Try.ntmps37
  obtain ⟨W, hW⟩ : ∃ W, W = (w.alloc (.cells #[.string a.pod, .string a.met, .int .i64 a.val, .int .i64 a.tick] 27)).alloc (.cells #[.string b.pod, .string b.met, .int .i64 b.val, .int .i64 b.tick] 27) := ⟨_, rfl⟩
  have g1 : W.heap[w.heap.size]? = some (.cells #[.string a.pod, .string a.met, .int .i64 a.val, .int .i64 a.tick] 27) := by
    rw [hW, Below.heap_alloc _ _ _ (by simp)]
    exact heap_alloc_new w _
  have g2 : W.heap[w.heap.size + 1]? = some (.cells #[.string b.pod, .string b.met, .int .i64 b.val, .int .i64 b.tick] 27) := by
    have := heap_alloc_new (w.alloc (.cells #[.string a.pod, .string a.met, .int .i64 a.val, .int .i64 a.tick] 27)) (.cells #[.string b.pod, .string b.met, .int .i64 b.val, .int .i64 b.tick] 27)
    rw [hW]
    simpa using this
  have p0 : W.cell? ⟨w.heap.size, 0, none⟩ = some (.string a.pod) := by simp only [World.cell?, g1]; rfl
  have p1 : W.cell? ⟨w.heap.size, 1, none⟩ = some (.string a.met) := by simp only [World.cell?, g1]; rfl
  have p3 : W.cell? ⟨w.heap.size, 3, none⟩ = some (.int .i64 a.tick) := by simp only [World.cell?, g1]; rfl
  have r0 : W.cell? ⟨w.heap.size + 1, 0, none⟩ = some (.string b.pod) := by simp only [World.cell?, g2]; rfl
  have r1 : W.cell? ⟨w.heap.size + 1, 1, none⟩ = some (.string b.met) := by simp only [World.cell?, g2]; rfl
  have r3 : W.cell? ⟨w.heap.size + 1, 3, none⟩ = some (.int .i64 b.tick) := by simp only [World.cell?, g2]; rfl
  clear g1 g2
  have HW := Lib.hid hW
  go_wp2
  rw [← HW.out]
  clear hW
  go_still_tail 15, mixed
  still_call (c1 _)
  repeat still_step
  still_call (c2 _)
  repeat still_step
  still_call (c3 _)
  try refine wpStill_nil ?_
  change wpList _ _ _ _ _ W.drew
  clear p0 p1 p3 r0 r1 r3
  generalize hw2 : W.drew = w2
  have HW2 := Lib.hid hw2
  clear hw2
  go_wp2_with (go_at_call 46; refine (cmp_or x y z _ _ _ (by rw [World.cell?_alloc_new]; rfl) (by rw [World.cell?_alloc_new]; rfl) (by rw [World.cell?_alloc_new]; rfl)).mono ?_; rintro e w' ⟨rfl, rfl⟩)
  go_ret
  refine ⟨rfl, 1, #[.cells #[.string a.pod, .string a.met, .int .i64 a.val, .int .i64 a.tick] 27, .cells #[.string b.pod, .string b.met, .int .i64 b.val, .int .i64 b.tick] 27, .cells #[.int .i64 x, .int .i64 y, .int .i64 z] 3], ?_⟩
  rw [← HW2.out, HW.out, alloc_eq_grow, alloc_eq_grow, alloc_eq_grow, grow_grow, drew_grow, grow_grow]
  rfl
end Go.Proofs.Ytahhemgmlmhbjaa.Cmp
