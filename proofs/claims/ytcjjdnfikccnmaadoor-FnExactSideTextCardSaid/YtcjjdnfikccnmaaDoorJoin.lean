/- strings.Builder.Grow at a new builder, strings.Join of two and of three strings. -/
import Derived.Test.YtcjjdnfikccnmaaDoorBld
import Derived.Lib.MakeNoZero
import Derived.Laws.IdiomCopy
namespace Go.Proofs.YtcjjdnfikccnmaaDoor.Join
open Go.RowKit
open Go.Proofs.YtcjjdnfikccnmaaDoor.C1
open Go.Proofs.YtcjjdnfikccnmaaDoor.Bld
open Go.Proofs.YtcjjdnfikccnmaaDoor.Milli
set_option linter.unusedVariables false

theorem size_byte : (Tryd.prog.info? 5).map (·.size) = some 1 := by kernel_rfl
set_option maxHeartbeats 2000000 in
set_option maxRecDepth 100000 in
theorem grow_new (B b n : Nat) (w : World) (hB : B ≤ b) (hbk : w.heap[b]? = some (.cells #[.pointer (some ⟨b, 0, none⟩), .slice none 0 0] 80 (0, 0))) (hBw : B ≤ w.heap.size) (hn : n ≤ 281474976710656) :
    Calls Tryd.prog 40 #[.pointer (some ⟨b, 0, none⟩), .int .i64 n] w fun e w' => e = .returned (.tuple #[]) ∧ (Lib.BuilderAt 80 5 B b (.pointer (some ⟨b, 0, none⟩)) [] w' ∧ Below B w w') := by
  obtain ⟨cs, hrun, hle, hmax⟩ := Lib.run_makeNoZero (P := Tryd.prog) w.drew #[3] 43 5 Tryd.underlying43 n hn
  have hw : IntKind.i64.wrap (IntKind.i64.wrap 0 + (n : Int)) = n := by
    rw [IntKind.wrap_i64, IntKind.wrap_i64]
    omega
  have hcall : (callFunc 46 #[.int .i64 (IntKind.i64.wrap (IntKind.i64.wrap 0 + (n : Int)))]).run Tryd.prog w.drew = .ok (.value (.slice (some ⟨w.drew.heap.size, 0, none⟩) n cs.size)) (w.drew.drew.drew.alloc (.cells cs 5)) := by
    rw [hw, run_callFunc_extern Tryd.func46 (by kernel_rfl) (by kernel_rfl) (by kernel_rfl) (e := Extern.BytealgMakeNoZero.makeNoZero #[3] #[43]) (by kernel_rfl), hrun]
    rfl
  have hlt : b < w.heap.size := by
    rcases Nat.lt_or_ge b w.heap.size with h' | h'
    · exact h'
    · simp [Array.getElem?_eq_none h'] at hbk
  have hold : (w.alloc (.cells cs 5)).heap[b]? = _ := (Lib.alloc_old w _ b hlt).trans hbk
  have c1 : w.drew.cell? ⟨b, 1, none⟩ = some (.slice none 0 0) := by
    have : w.drew.heap[b]? = _ := hbk
    rw [Lib.cell_of_heap this]; rfl
  have c2 : (w.alloc (.cells cs 5)).cell? ⟨b, 1, none⟩ = some (.slice none 0 0) := by rw [Lib.cell_of_heap hold]; rfl
  have f2 : (w.alloc (.cells cs 5)).frozen? ⟨b, 1, none⟩ = false := Lib.frozen_of_heap hold 1
  have hcopy : ∀ W : World, (Builtin.copy_ #[43, 43] 3 #[.slice (some ⟨w.heap.size, 0, none⟩) 0 cs.size, .slice none 0 0]).run Tryd.prog W = .ok (goInt 0) W :=
    fun W => run_copy_none W 43 43 3 5 _ _ 0 cs.size 0 0 Tryd.underlying43 size_byte rfl
  have hfin := Lib.grown_fresh (T := 80) (e := 5) (cs := cs) hB hbk hBw (hmax (by unfold maxLen; omega)) (by decide)
  have mixed : Tryd.prog.follows .mixedOrders = true := by kernel_rfl
  clear hw hold hlt
  go_enter Tryd.func40, Tryd.ntmps40
  go_wp2
  go_region_o
  all_goals (go_wp2; go_end0; exact ⟨rfl, hfin⟩)
set_option maxHeartbeats 2000000 in
set_option maxRecDepth 100000 in
theorem grow_fresh (B b n : Nat) (w : World) (hB : B ≤ b) (hbk : w.heap[b]? = some (.cells #[.pointer none, .slice none 0 0] 80 (0, 0))) (hBw : B ≤ w.heap.size) (hn : n ≤ 281474976710656) :
    Calls Tryd.prog 34 #[.pointer (some ⟨b, 0, none⟩), .int .i64 n] w fun e w' => e = .returned (.tuple #[]) ∧ (Lib.IsBuilder 80 5 B b [] w' ∧ Below B w w') := by
  have hbk1 : (w.setCell ⟨b, 0, none⟩ (.pointer (some ⟨b, 0, none⟩))).heap[b]? = some (.cells #[.pointer (some ⟨b, 0, none⟩), .slice none 0 0] 80 (0, 0)) := by
    simp [World.setCell, Array.getElem?_modify, hbk]
  have c1 : (w.setCell ⟨b, 0, none⟩ (.pointer (some ⟨b, 0, none⟩))).cell? ⟨b, 1, none⟩ = some (.slice none 0 0) := by rw [Lib.cell_of_heap hbk1]; rfl
  have c1' : (w.setCell ⟨b, 0, none⟩ (.pointer (some ⟨b, 0, none⟩))).drew.cell? ⟨b, 1, none⟩ = some (.slice none 0 0) := c1
  have hb1 : Below B w (w.setCell ⟨b, 0, none⟩ (.pointer (some ⟨b, 0, none⟩))) := (Below.refl B w).setCell (p := ⟨b, 0, none⟩) hB _
  have hU : Lib.BuilderAt 80 5 B b (.pointer (some ⟨b, 0, none⟩)) [] (w.setCell ⟨b, 0, none⟩ (.pointer (some ⟨b, 0, none⟩))) := ⟨hB, .slice none 0 0, hbk1, World.ownsRow_nil _ _ _ _, by simp [Value.ownBlock]⟩
  have mixed : Tryd.prog.follows .mixedOrders = true := by kernel_rfl
  go_enter Tryd.func34, Tryd.ntmps34
  go_wp2_with (go_at_call 39; refine (check_fresh b w (by rw [Lib.cell_of_heap hbk]; rfl) (by simp [World.shape?, hbk]) (Lib.frozen_of_heap hbk 0)).mono ?_; rintro e w' ⟨rfl, rfl⟩)
  go_region_o
  all_goals go_wp2_with (go_at_call 40; refine (grow_new B b n (w.setCell ⟨b, 0, none⟩ (.pointer (some ⟨b, 0, none⟩))).drew hB hbk1 (by simpa [World.setCell, World.drew, -World.drew_eq] using hBw) hn).mono ?_; rintro e w' ⟨rfl, h1, h2⟩)
  all_goals first
    | (go_end0; exact ⟨rfl, .inr h1, hb1.drew.trans h2⟩)
    | (go_end0; exact ⟨rfl, .inr hU.drew, hb1.drew⟩)
theorem write_more (B b : Nat) (l m : List UInt8) (w : World) (h : Lib.IsBuilder 80 5 B b (Lib.byteCells l) w) (hl : l.length + m.length ≤ 140737488355328) (hBw : B ≤ w.heap.size) :
    Calls Tryd.prog 35 #[.pointer (some ⟨b, 0, none⟩), .string (mk m)] w fun e w' => e = .returned (.tuple #[.int .i64 (mk m).size, .nilIface]) ∧ Lib.IsBuilder 80 5 B b (Lib.byteCells (l ++ m)) w' ∧ Below B w w' := by
  refine (write_string B b _ (mk m) w h (by rw [mk_size, Lib.byteCells_length]; exact hl) hBw).mono ?_
  rintro e w' ⟨rfl, h1, h2⟩
  exact ⟨rfl, by rw [← cells_snoc]; exact h1, h2⟩
/-! joins -/
set_option maxHeartbeats 2000000 in
set_option maxRecDepth 100000 in
theorem join2 (bk : Nat) (a b : List UInt8) (d : UInt8) (w : World) (hbk : bk < w.heap.size) (h0 : w.cell? ⟨bk, 0, none⟩ = some (.string (mk a))) (h1 : w.cell? ⟨bk, 1, none⟩ = some (.string (mk b))) (l0 : a.length ≤ 1000) (l1 : b.length ≤ 1000) :
    Calls Tryd.prog 30 #[.slice (some ⟨bk, 0, none⟩) 2 2, .string (mk [d])] w fun e w' => e = .returned (.string (mk (a ++ (d :: b)))) ∧ Below w.heap.size w w' := by
  have s0 := mk_size a
  have s1 := mk_size b
  have sd := mk_size [d]
  have HBK := Lib.hid hbk
  have H0 := Lib.hid h0
  have H1 := Lib.hid h1
  have mixed : Tryd.prog.follows .mixedOrders = true := by kernel_rfl
  clear hbk
  go_enter Tryd.func30, Tryd.ntmps30
  go_wp2_with fail
  refine wp_loop_rounds 3 ?_
  rw [rounds_succ]
  go_wp2_with fail
  rw [rounds_succ]
  go_wp2_with fail
  rw [rounds_succ]
  go_wp2_with fail
  have hn : (1 + ↑a.length + ↑b.length : Int) = ((1 + a.length + b.length : Nat) : Int) := by omega
  rw [hn]
  refine (grow_fresh w.heap.size w.heap.size (1 + a.length + b.length) _ (Nat.le_refl _) (heap_alloc_new w _) (by simp) (by omega)).mono ?_
  rintro e v1 ⟨rfl, x1, hb1⟩
  have B1 := Lib.hid ((C2.box_below w _ _).trans hb1)
  have X1 : Hid (Lib.IsBuilder 80 5 w.heap.size w.heap.size (Lib.byteCells []) v1) := x1
  clear x1 hb1 hn
  clear h0
  have h0 := (B1.out.cell (p := ⟨bk, 0, none⟩) HBK.out).trans H0.out
  clear h1
  have h1 := (B1.out.cell (p := ⟨bk, 1, none⟩) HBK.out).trans H1.out
  go_wp2_with fail
  refine (write_more w.heap.size w.heap.size ([]) (a) v1 X1.out (by simp <;> omega) B1.out.size).mono ?_
  rintro e v2 ⟨rfl, x2, hb2⟩
  have B2 := Lib.hid (B1.out.trans hb2)
  have X2 := Lib.hid x2
  clear x2
  clear h0
  have h0 := (B2.out.cell (p := ⟨bk, 0, none⟩) HBK.out).trans H0.out
  clear h1
  have h1 := (B2.out.cell (p := ⟨bk, 1, none⟩) HBK.out).trans H1.out
  clear hb2
  go_wp2_with fail
  refine wp_loop_rounds 2 ?_
  rw [rounds_succ]
  go_wp2_with fail
  refine (write_more w.heap.size w.heap.size ([] ++ a) ([d]) v2 X2.out (by simp <;> omega) B2.out.size).mono ?_
  rintro e v3 ⟨rfl, x3, hb3⟩
  have B3 := Lib.hid (B2.out.trans hb3)
  have X3 := Lib.hid x3
  clear x3
  clear h0
  have h0 := (B3.out.cell (p := ⟨bk, 0, none⟩) HBK.out).trans H0.out
  clear h1
  have h1 := (B3.out.cell (p := ⟨bk, 1, none⟩) HBK.out).trans H1.out
  clear hb3
  go_wp2_with fail
  refine (write_more w.heap.size w.heap.size ([] ++ a ++ [d]) (b) v3 X3.out (by simp <;> omega) B3.out.size).mono ?_
  rintro e v4 ⟨rfl, x4, hb4⟩
  have B4 := Lib.hid (B3.out.trans hb4)
  have X4 := Lib.hid x4
  clear x4
  clear h0
  have h0 := (B4.out.cell (p := ⟨bk, 0, none⟩) HBK.out).trans H0.out
  clear h1
  have h1 := (B4.out.cell (p := ⟨bk, 1, none⟩) HBK.out).trans H1.out
  clear hb4
  go_wp2_with fail
  rw [rounds_succ]
  go_wp2_with fail
  refine (Tryd.Builder_String_any w.heap.size w.heap.size _ v4 X4.out B4.out.size).mono ?_
  rintro e u ⟨rfl, hbu⟩
  have BU := Lib.hid (B4.out.trans hbu)
  clear hbu
  go_wp2
  go_ret
  exact ⟨by simp [mk], BU.out⟩
set_option maxHeartbeats 2000000 in
set_option maxRecDepth 100000 in
theorem join3 (bk : Nat) (a b c : List UInt8) (d : UInt8) (w : World) (hbk : bk < w.heap.size) (h0 : w.cell? ⟨bk, 0, none⟩ = some (.string (mk a))) (h1 : w.cell? ⟨bk, 1, none⟩ = some (.string (mk b))) (h2 : w.cell? ⟨bk, 2, none⟩ = some (.string (mk c))) (l0 : a.length ≤ 1000) (l1 : b.length ≤ 1000) (l2 : c.length ≤ 1000) :
    Calls Tryd.prog 30 #[.slice (some ⟨bk, 0, none⟩) 3 3, .string (mk [d])] w fun e w' => e = .returned (.string (mk (a ++ (d :: b) ++ (d :: c)))) ∧ Below w.heap.size w w' := by
  have s0 := mk_size a
  have s1 := mk_size b
  have s2 := mk_size c
  have sd := mk_size [d]
  have HBK := Lib.hid hbk
  have H0 := Lib.hid h0
  have H1 := Lib.hid h1
  have H2 := Lib.hid h2
  have mixed : Tryd.prog.follows .mixedOrders = true := by kernel_rfl
  clear hbk
  go_enter Tryd.func30, Tryd.ntmps30
  go_wp2_with fail
  refine wp_loop_rounds 4 ?_
  rw [rounds_succ]
  go_wp2_with fail
  rw [rounds_succ]
  go_wp2_with fail
  rw [rounds_succ]
  go_wp2_with fail
  rw [rounds_succ]
  go_wp2_with fail
  have hn : (2 + ↑a.length + ↑b.length + ↑c.length : Int) = ((2 + a.length + b.length + c.length : Nat) : Int) := by omega
  rw [hn]
  refine (grow_fresh w.heap.size w.heap.size (2 + a.length + b.length + c.length) _ (Nat.le_refl _) (heap_alloc_new w _) (by simp) (by omega)).mono ?_
  rintro e v1 ⟨rfl, x1, hb1⟩
  have B1 := Lib.hid ((C2.box_below w _ _).trans hb1)
  have X1 : Hid (Lib.IsBuilder 80 5 w.heap.size w.heap.size (Lib.byteCells []) v1) := x1
  clear x1 hb1 hn
  clear h0
  have h0 := (B1.out.cell (p := ⟨bk, 0, none⟩) HBK.out).trans H0.out
  clear h1
  have h1 := (B1.out.cell (p := ⟨bk, 1, none⟩) HBK.out).trans H1.out
  clear h2
  have h2 := (B1.out.cell (p := ⟨bk, 2, none⟩) HBK.out).trans H2.out
  go_wp2_with fail
  refine (write_more w.heap.size w.heap.size ([]) (a) v1 X1.out (by simp <;> omega) B1.out.size).mono ?_
  rintro e v2 ⟨rfl, x2, hb2⟩
  have B2 := Lib.hid (B1.out.trans hb2)
  have X2 := Lib.hid x2
  clear x2
  clear h0
  have h0 := (B2.out.cell (p := ⟨bk, 0, none⟩) HBK.out).trans H0.out
  clear h1
  have h1 := (B2.out.cell (p := ⟨bk, 1, none⟩) HBK.out).trans H1.out
  clear h2
  have h2 := (B2.out.cell (p := ⟨bk, 2, none⟩) HBK.out).trans H2.out
  clear hb2
  go_wp2_with fail
  refine wp_loop_rounds 3 ?_
  rw [rounds_succ]
  go_wp2_with fail
  refine (write_more w.heap.size w.heap.size ([] ++ a) ([d]) v2 X2.out (by simp <;> omega) B2.out.size).mono ?_
  rintro e v3 ⟨rfl, x3, hb3⟩
  have B3 := Lib.hid (B2.out.trans hb3)
  have X3 := Lib.hid x3
  clear x3
  clear h0
  have h0 := (B3.out.cell (p := ⟨bk, 0, none⟩) HBK.out).trans H0.out
  clear h1
  have h1 := (B3.out.cell (p := ⟨bk, 1, none⟩) HBK.out).trans H1.out
  clear h2
  have h2 := (B3.out.cell (p := ⟨bk, 2, none⟩) HBK.out).trans H2.out
  clear hb3
  go_wp2_with fail
  refine (write_more w.heap.size w.heap.size ([] ++ a ++ [d]) (b) v3 X3.out (by simp <;> omega) B3.out.size).mono ?_
  rintro e v4 ⟨rfl, x4, hb4⟩
  have B4 := Lib.hid (B3.out.trans hb4)
  have X4 := Lib.hid x4
  clear x4
  clear h0
  have h0 := (B4.out.cell (p := ⟨bk, 0, none⟩) HBK.out).trans H0.out
  clear h1
  have h1 := (B4.out.cell (p := ⟨bk, 1, none⟩) HBK.out).trans H1.out
  clear h2
  have h2 := (B4.out.cell (p := ⟨bk, 2, none⟩) HBK.out).trans H2.out
  clear hb4
  go_wp2_with fail
  rw [rounds_succ]
  go_wp2_with fail
  refine (write_more w.heap.size w.heap.size ([] ++ a ++ [d] ++ b) ([d]) v4 X4.out (by simp <;> omega) B4.out.size).mono ?_
  rintro e v5 ⟨rfl, x5, hb5⟩
  have B5 := Lib.hid (B4.out.trans hb5)
  have X5 := Lib.hid x5
  clear x5
  clear h0
  have h0 := (B5.out.cell (p := ⟨bk, 0, none⟩) HBK.out).trans H0.out
  clear h1
  have h1 := (B5.out.cell (p := ⟨bk, 1, none⟩) HBK.out).trans H1.out
  clear h2
  have h2 := (B5.out.cell (p := ⟨bk, 2, none⟩) HBK.out).trans H2.out
  clear hb5
  go_wp2_with fail
  refine (write_more w.heap.size w.heap.size ([] ++ a ++ [d] ++ b ++ [d]) (c) v5 X5.out (by simp <;> omega) B5.out.size).mono ?_
  rintro e v6 ⟨rfl, x6, hb6⟩
  have B6 := Lib.hid (B5.out.trans hb6)
  have X6 := Lib.hid x6
  clear x6
  clear h0
  have h0 := (B6.out.cell (p := ⟨bk, 0, none⟩) HBK.out).trans H0.out
  clear h1
  have h1 := (B6.out.cell (p := ⟨bk, 1, none⟩) HBK.out).trans H1.out
  clear h2
  have h2 := (B6.out.cell (p := ⟨bk, 2, none⟩) HBK.out).trans H2.out
  clear hb6
  go_wp2_with fail
  rw [rounds_succ]
  go_wp2_with fail
  refine (Tryd.Builder_String_any w.heap.size w.heap.size _ v6 X6.out B6.out.size).mono ?_
  rintro e u ⟨rfl, hbu⟩
  have BU := Lib.hid (B6.out.trans hbu)
  clear hbu
  go_wp2
  go_ret
  exact ⟨by simp [mk], BU.out⟩
end Go.Proofs.YtcjjdnfikccnmaaDoor.Join
