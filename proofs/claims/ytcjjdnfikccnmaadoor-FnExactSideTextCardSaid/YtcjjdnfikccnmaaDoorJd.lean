/- impl.joined of two and of three numbers. -/
import Derived.Test.YtcjjdnfikccnmaaDoorJoin
import Derived.Test.YtcjjdnfikccnmaaDoorSer2
namespace Go.Proofs.YtcjjdnfikccnmaaDoor.Jd
open Go.RowKit
open Go.Proofs.YtcjjdnfikccnmaaDoor.C1
open Go.Proofs.YtcjjdnfikccnmaaDoor.C2
open Go.Proofs.YtcjjdnfikccnmaaDoor.Mem
open Go.Proofs.YtcjjdnfikccnmaaDoor.Ser2 (cells_new)
open Go.Proofs.YtcjjdnfikccnmaaDoor.Milli
open Go.Proofs.YtcjjdnfikccnmaaDoor.Mt
open Go.Proofs.YtcjjdnfikccnmaaDoor.Line
open Go.Proofs.YtcjjdnfikccnmaaDoor.Join
set_option linter.unusedVariables false

theorem info_st : (Tryd.prog.info? 9).map (fun i => (i.zero, i.size, i.bytes)) = some (some (.string ⟨#[]⟩), 1, 16) := by kernel_rfl
theorem make_st (n : Nat) (hn : n ≤ 1048576) : ∀ w : World, (Instr.makeSlice 64 (.int .i64 (n : Int)) (.int .i64 (n : Int))).run Tryd.prog w = .ok (.slice (some ⟨w.heap.size, 0, none⟩) n n) (w.alloc (.cells (madeCells #[Value.string ⟨#[]⟩] n) 9)) := by
  obtain ⟨i, hi, hzz⟩ := Option.map_eq_some_iff.1 info_st
  simp only [Prod.mk.injEq] at hzz
  obtain ⟨hz, hs, hby⟩ := hzz
  have := fun w : World => run_make (P := Tryd.prog) w 64 9 i (.string ⟨#[]⟩) Tryd.underlying64 hi hz .i64 .i64 (n : Int) (n : Int) (by omega) (by omega) (by rw [hby]; omega) (by omega)
  intro w
  rw [this w, hs]
  simp [Value.cells]
theorem made2 : madeCells #[Value.string ⟨#[]⟩] 2 = #[.string ⟨#[]⟩, .string ⟨#[]⟩] := Array.ext' (by rw [toList_madeCells_one]; rfl)
set_option maxHeartbeats 2000000 in
set_option maxRecDepth 20000 in
theorem joined2 (bk : Nat) (d : UInt8) (w : World) (he : Env w) (hbk : bk < w.heap.size) (x0 : Int) (z0 : sizeV x0 = true) (h0 : w.cell? ⟨bk, 0, none⟩ = some (.int .i64 x0)) (x1 : Int) (z1 : sizeV x1 = true) (h1 : w.cell? ⟨bk, 1, none⟩ = some (.int .i64 x1)) :
    Calls Tryd.prog 22 #[.string (mk [d]), .slice (some ⟨bk, 0, none⟩) 2 2] w fun e w' => e = .returned (.string (mk (Lib.itoa x0 ++ ([d] ++ Lib.itoa x1)))) ∧ Below w.heap.size w w' := by
  have hmk : ∀ w : World, (Instr.makeSlice 64 (.int .i64 2) (.int .i64 2)).run Tryd.prog w = .ok (.slice (some ⟨w.heap.size, 0, none⟩) 2 2) (w.alloc (.cells #[.string ⟨#[]⟩, .string ⟨#[]⟩] 9)) := fun w => by rw [← made2]; exact make_st 2 (by omega) w
  have HBK := Lib.hid hbk
  have H0 := Lib.hid h0
  have t0 : (Lib.itoa x0).length ≤ 1000 := by have := itoa_len z0; omega
  obtain ⟨L0, hL0⟩ : ∃ L, Lib.itoa x0 = L := ⟨_, rfl⟩
  have C0 := Lib.hid (fun w h => itoa_int x0 (by have := size_of z0; omega) (by have := size_of z0; omega) w h)
  rw [hL0] at C0 t0 ⊢
  have T0 := Lib.hid t0
  clear t0 hL0
  have H1 := Lib.hid h1
  have t1 : (Lib.itoa x1).length ≤ 1000 := by have := itoa_len z1; omega
  obtain ⟨L1, hL1⟩ : ∃ L, Lib.itoa x1 = L := ⟨_, rfl⟩
  have C1 := Lib.hid (fun w h => itoa_int x1 (by have := size_of z1; omega) (by have := size_of z1; omega) w h)
  rw [hL1] at C1 t1 ⊢
  have T1 := Lib.hid t1
  clear t1 hL1
  have B0 := Lib.hid (box_below w #[.string ⟨#[]⟩, .string ⟨#[]⟩] 9)
  have K0 : Hid (CellsW (w.alloc (.cells #[.string ⟨#[]⟩, .string ⟨#[]⟩] 9)) w.heap.size [.string ⟨#[]⟩, .string ⟨#[]⟩]) := cells_new w #[.string ⟨#[]⟩, .string ⟨#[]⟩] 9
  have HE := Lib.hid he
  clear hbk he
  clear h0
  have h0 := (B0.out.cell (p := ⟨bk, 0, none⟩) HBK.out).trans H0.out
  clear h1
  have h1 := (B0.out.cell (p := ⟨bk, 1, none⟩) HBK.out).trans H1.out
  go_enter Tryd.func22, Tryd.ntmps22
  go_wp2_with fail
  refine wp_loop_rounds 3 ?_
  rw [rounds_succ]
  go_wp2_with fail
  refine (C0.out _ (HE.out.kept B0.out)).mono ?_
  rintro e v1 ⟨rfl, hb⟩
  have B1 := Lib.hid (B0.out.trans (hb.mono B0.out.size))
  have K1 : Hid (CellsW v1 w.heap.size [.string ⟨#[]⟩, .string ⟨#[]⟩]) := K0.out.kept hb
  obtain ⟨c0, f0⟩ := K1.out.2 0 (by simp)
  simp at c0
  have S1 := Lib.hid (B1.out.setCell (p := ⟨w.heap.size, 0, none⟩) (Nat.le_refl _) (.string (mk L0)))
  have KS1 : Hid (CellsW (v1.setCell ⟨w.heap.size, 0, none⟩ (.string (mk L0))) w.heap.size [.string (mk L0), .string ⟨#[]⟩]) := K1.out.set 0 (.string (mk L0)) (by simp)
  clear h0
  have h0 := (S1.out.cell (p := ⟨bk, 0, none⟩) HBK.out).trans H0.out
  clear h1
  have h1 := (S1.out.cell (p := ⟨bk, 1, none⟩) HBK.out).trans H1.out
  clear hb
  go_wp2_with fail
  rw [rounds_succ]
  go_wp2_with fail
  refine (C1.out _ (HE.out.kept S1.out)).mono ?_
  rintro e v2 ⟨rfl, hb⟩
  have B2 := Lib.hid (S1.out.trans (hb.mono S1.out.size))
  have K2 : Hid (CellsW v2 w.heap.size [.string (mk L0), .string ⟨#[]⟩]) := KS1.out.kept hb
  obtain ⟨c1, f1⟩ := K2.out.2 1 (by simp)
  simp at c1
  have S2 := Lib.hid (B2.out.setCell (p := ⟨w.heap.size, 1, none⟩) (Nat.le_refl _) (.string (mk L1)))
  have KS2 : Hid (CellsW (v2.setCell ⟨w.heap.size, 1, none⟩ (.string (mk L1))) w.heap.size [.string (mk L0), .string (mk L1)]) := K2.out.set 1 (.string (mk L1)) (by simp)
  clear h0
  have h0 := (S2.out.cell (p := ⟨bk, 0, none⟩) HBK.out).trans H0.out
  clear h1
  have h1 := (S2.out.cell (p := ⟨bk, 1, none⟩) HBK.out).trans H1.out
  clear hb
  go_wp2_with fail
  rw [rounds_succ]
  go_wp2_with fail
  have g0 := (KS2.out.2 0 (by simp)).1
  have g1 := (KS2.out.2 1 (by simp)).1
  refine (join2 w.heap.size L0 L1 d _ KS2.out.1 g0 g1 T0.out T1.out).mono ?_
  rintro e u ⟨rfl, hbu⟩
  have BU := Lib.hid (S2.out.trans (hbu.mono S2.out.size))
  clear hbu
  go_wp2
  go_ret
  exact ⟨by simp, BU.out⟩
theorem made3 : madeCells #[Value.string ⟨#[]⟩] 3 = #[.string ⟨#[]⟩, .string ⟨#[]⟩, .string ⟨#[]⟩] := Array.ext' (by rw [toList_madeCells_one]; rfl)
set_option maxHeartbeats 2000000 in
set_option maxRecDepth 20000 in
theorem joined3 (bk : Nat) (d : UInt8) (w : World) (he : Env w) (hbk : bk < w.heap.size) (x0 : Int) (z0 : sizeV x0 = true) (h0 : w.cell? ⟨bk, 0, none⟩ = some (.int .i64 x0)) (x1 : Int) (z1 : sizeV x1 = true) (h1 : w.cell? ⟨bk, 1, none⟩ = some (.int .i64 x1)) (x2 : Int) (z2 : sizeV x2 = true) (h2 : w.cell? ⟨bk, 2, none⟩ = some (.int .i64 x2)) :
    Calls Tryd.prog 22 #[.string (mk [d]), .slice (some ⟨bk, 0, none⟩) 3 3] w fun e w' => e = .returned (.string (mk (Lib.itoa x0 ++ ([d] ++ Lib.itoa x1) ++ ([d] ++ Lib.itoa x2)))) ∧ Below w.heap.size w w' := by
  have hmk : ∀ w : World, (Instr.makeSlice 64 (.int .i64 3) (.int .i64 3)).run Tryd.prog w = .ok (.slice (some ⟨w.heap.size, 0, none⟩) 3 3) (w.alloc (.cells #[.string ⟨#[]⟩, .string ⟨#[]⟩, .string ⟨#[]⟩] 9)) := fun w => by rw [← made3]; exact make_st 3 (by omega) w
  have HBK := Lib.hid hbk
  have H0 := Lib.hid h0
  have t0 : (Lib.itoa x0).length ≤ 1000 := by have := itoa_len z0; omega
  obtain ⟨L0, hL0⟩ : ∃ L, Lib.itoa x0 = L := ⟨_, rfl⟩
  have C0 := Lib.hid (fun w h => itoa_int x0 (by have := size_of z0; omega) (by have := size_of z0; omega) w h)
  rw [hL0] at C0 t0 ⊢
  have T0 := Lib.hid t0
  clear t0 hL0
  have H1 := Lib.hid h1
  have t1 : (Lib.itoa x1).length ≤ 1000 := by have := itoa_len z1; omega
  obtain ⟨L1, hL1⟩ : ∃ L, Lib.itoa x1 = L := ⟨_, rfl⟩
  have C1 := Lib.hid (fun w h => itoa_int x1 (by have := size_of z1; omega) (by have := size_of z1; omega) w h)
  rw [hL1] at C1 t1 ⊢
  have T1 := Lib.hid t1
  clear t1 hL1
  have H2 := Lib.hid h2
  have t2 : (Lib.itoa x2).length ≤ 1000 := by have := itoa_len z2; omega
  obtain ⟨L2, hL2⟩ : ∃ L, Lib.itoa x2 = L := ⟨_, rfl⟩
  have C2 := Lib.hid (fun w h => itoa_int x2 (by have := size_of z2; omega) (by have := size_of z2; omega) w h)
  rw [hL2] at C2 t2 ⊢
  have T2 := Lib.hid t2
  clear t2 hL2
  have B0 := Lib.hid (box_below w #[.string ⟨#[]⟩, .string ⟨#[]⟩, .string ⟨#[]⟩] 9)
  have K0 : Hid (CellsW (w.alloc (.cells #[.string ⟨#[]⟩, .string ⟨#[]⟩, .string ⟨#[]⟩] 9)) w.heap.size [.string ⟨#[]⟩, .string ⟨#[]⟩, .string ⟨#[]⟩]) := cells_new w #[.string ⟨#[]⟩, .string ⟨#[]⟩, .string ⟨#[]⟩] 9
  have HE := Lib.hid he
  clear hbk he
  clear h0
  have h0 := (B0.out.cell (p := ⟨bk, 0, none⟩) HBK.out).trans H0.out
  clear h1
  have h1 := (B0.out.cell (p := ⟨bk, 1, none⟩) HBK.out).trans H1.out
  clear h2
  have h2 := (B0.out.cell (p := ⟨bk, 2, none⟩) HBK.out).trans H2.out
  go_enter Tryd.func22, Tryd.ntmps22
  go_wp2_with fail
  refine wp_loop_rounds 4 ?_
  rw [rounds_succ]
  go_wp2_with fail
  refine (C0.out _ (HE.out.kept B0.out)).mono ?_
  rintro e v1 ⟨rfl, hb⟩
  have B1 := Lib.hid (B0.out.trans (hb.mono B0.out.size))
  have K1 : Hid (CellsW v1 w.heap.size [.string ⟨#[]⟩, .string ⟨#[]⟩, .string ⟨#[]⟩]) := K0.out.kept hb
  obtain ⟨c0, f0⟩ := K1.out.2 0 (by simp)
  simp at c0
  have S1 := Lib.hid (B1.out.setCell (p := ⟨w.heap.size, 0, none⟩) (Nat.le_refl _) (.string (mk L0)))
  have KS1 : Hid (CellsW (v1.setCell ⟨w.heap.size, 0, none⟩ (.string (mk L0))) w.heap.size [.string (mk L0), .string ⟨#[]⟩, .string ⟨#[]⟩]) := K1.out.set 0 (.string (mk L0)) (by simp)
  clear h0
  have h0 := (S1.out.cell (p := ⟨bk, 0, none⟩) HBK.out).trans H0.out
  clear h1
  have h1 := (S1.out.cell (p := ⟨bk, 1, none⟩) HBK.out).trans H1.out
  clear h2
  have h2 := (S1.out.cell (p := ⟨bk, 2, none⟩) HBK.out).trans H2.out
  clear hb
  go_wp2_with fail
  rw [rounds_succ]
  go_wp2_with fail
  refine (C1.out _ (HE.out.kept S1.out)).mono ?_
  rintro e v2 ⟨rfl, hb⟩
  have B2 := Lib.hid (S1.out.trans (hb.mono S1.out.size))
  have K2 : Hid (CellsW v2 w.heap.size [.string (mk L0), .string ⟨#[]⟩, .string ⟨#[]⟩]) := KS1.out.kept hb
  obtain ⟨c1, f1⟩ := K2.out.2 1 (by simp)
  simp at c1
  have S2 := Lib.hid (B2.out.setCell (p := ⟨w.heap.size, 1, none⟩) (Nat.le_refl _) (.string (mk L1)))
  have KS2 : Hid (CellsW (v2.setCell ⟨w.heap.size, 1, none⟩ (.string (mk L1))) w.heap.size [.string (mk L0), .string (mk L1), .string ⟨#[]⟩]) := K2.out.set 1 (.string (mk L1)) (by simp)
  clear h0
  have h0 := (S2.out.cell (p := ⟨bk, 0, none⟩) HBK.out).trans H0.out
  clear h1
  have h1 := (S2.out.cell (p := ⟨bk, 1, none⟩) HBK.out).trans H1.out
  clear h2
  have h2 := (S2.out.cell (p := ⟨bk, 2, none⟩) HBK.out).trans H2.out
  clear hb
  go_wp2_with fail
  rw [rounds_succ]
  go_wp2_with fail
  refine (C2.out _ (HE.out.kept S2.out)).mono ?_
  rintro e v3 ⟨rfl, hb⟩
  have B3 := Lib.hid (S2.out.trans (hb.mono S2.out.size))
  have K3 : Hid (CellsW v3 w.heap.size [.string (mk L0), .string (mk L1), .string ⟨#[]⟩]) := KS2.out.kept hb
  obtain ⟨c2, f2⟩ := K3.out.2 2 (by simp)
  simp at c2
  have S3 := Lib.hid (B3.out.setCell (p := ⟨w.heap.size, 2, none⟩) (Nat.le_refl _) (.string (mk L2)))
  have KS3 : Hid (CellsW (v3.setCell ⟨w.heap.size, 2, none⟩ (.string (mk L2))) w.heap.size [.string (mk L0), .string (mk L1), .string (mk L2)]) := K3.out.set 2 (.string (mk L2)) (by simp)
  clear h0
  have h0 := (S3.out.cell (p := ⟨bk, 0, none⟩) HBK.out).trans H0.out
  clear h1
  have h1 := (S3.out.cell (p := ⟨bk, 1, none⟩) HBK.out).trans H1.out
  clear h2
  have h2 := (S3.out.cell (p := ⟨bk, 2, none⟩) HBK.out).trans H2.out
  clear hb
  go_wp2_with fail
  rw [rounds_succ]
  go_wp2_with fail
  have g0 := (KS3.out.2 0 (by simp)).1
  have g1 := (KS3.out.2 1 (by simp)).1
  have g2 := (KS3.out.2 2 (by simp)).1
  refine (join3 w.heap.size L0 L1 L2 d _ KS3.out.1 g0 g1 g2 T0.out T1.out T2.out).mono ?_
  rintro e u ⟨rfl, hbu⟩
  have BU := Lib.hid (S3.out.trans (hbu.mono S3.out.size))
  clear hbu
  go_wp2
  go_ret
  exact ⟨by simp, BU.out⟩
end Go.Proofs.YtcjjdnfikccnmaaDoor.Jd
