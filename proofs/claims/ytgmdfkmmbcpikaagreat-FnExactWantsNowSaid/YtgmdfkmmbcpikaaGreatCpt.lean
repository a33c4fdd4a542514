/- slices.CompactFunc over points by impl.sameTime: what it leaves where no two neighbours are at one tick, and that it shortens elsewhere. -/
import Derived.Test.YtgmdfkmmbcpikaaGreatRing
import Derived.Lib.SliceRun
namespace Go.Proofs.YtgmdfkmmbcpikaaGreat.Cpt
open Go.RowKit Go.Sort
open Go.Proofs.YtgmdfkmmbcpikaaGreat.C1
open Go.Proofs.YtgmdfkmmbcpikaaGreat.C2
open Go.Proofs.YtgmdfkmmbcpikaaGreat.Smps
open Go.Proofs.YtgmdfkmmbcpikaaGreat.Mem
open Go.Proofs.YtgmdfkmmbcpikaaGreat.Ser
open Go.Proofs.YtgmdfkmmbcpikaaGreat.Ser2
open Go.Proofs.YtgmdfkmmbcpikaaGreat.Key
open Go.Proofs.YtgmdfkmmbcpikaaGreat.Sto
open Go.Proofs.YtgmdfkmmbcpikaaGreat.Ring
set_option linter.unusedVariables false

theorem row_at {w : World} {g : Nat} {ds : List Pt} {rest : List Value} (h : CellsW w g (gf encP ds ++ rest)) (i : Nat) (hi : i < ds.length) : At2 w g (i * 2) ds[i] ∧ w.frozen? ⟨g, i * 2, none⟩ = false ∧ w.frozen? ⟨g, i * 2 + 1, none⟩ = false := by
  have hl := gf_len encP 2 encP_len ds
  have h0 := gf_get encP 2 encP_len ds i 0 hi (by omega)
  have h1 := gf_get encP 2 encP_len ds i 1 hi (by omega)
  have a0 : (gf encP ds ++ rest)[i * 2]? = some (.int .i64 ds[i].tick) := by rw [List.getElem?_append_left (by omega)]; exact h0
  have a1 : (gf encP ds ++ rest)[i * 2 + 1]? = some (.int .i64 ds[i].val) := by rw [List.getElem?_append_left (by omega)]; exact h1
  exact ⟨⟨(cellsW_get h a0).1, (cellsW_get h a1).1⟩, (cellsW_get h a0).2, (cellsW_get h a1).2⟩
theorem row_set {w : World} {g : Nat} {ds : List Pt} {rest : List Value} (h : CellsW w g (gf encP ds ++ rest)) (i : Nat) (hi : i < ds.length) (p : Pt) :
    CellsW ((w.setCell ⟨g, i * 2, none⟩ (.int .i64 p.tick)).setCell ⟨g, i * 2 + 1, none⟩ (.int .i64 p.val)) g (gf encP (ds.set i p) ++ rest) := by
  have hl := gf_len encP 2 encP_len ds
  have h1 := (h.set (i * 2) (.int .i64 p.tick) (by simp; omega)).set (i * 2 + 1) (.int .i64 p.val) (by simp; omega)
  rw [List.set_append_left _ _ (by omega), List.set_append_left _ _ (by simp; omega), gf_set2 ds i p hi] at h1
  exact h1
/-- 'clear' of a part of a row of points. -/
theorem clear_pts (w : World) (g o n c : Nat) (hn : 0 < n) (hc : ∀ j, j < n * 2 → (w.cell? ⟨g, o + j, none⟩).isSome = true) (hf : ∀ j, j < n * 2 → w.frozen? ⟨g, o + j, none⟩ = false) :
    ∃ us, ∀ ty : TypeId, (Builtin.clear_ #[117] ty #[.slice (some ⟨g, o, none⟩) n c]).run Tryz.prog w = .ok (.tuple #[]) (w.setCells g o us) := by
  obtain ⟨us, hus⟩ : ∃ us, (Builtin.zeroCells (Value.agg #[Value.int IntKind.i64 0, Value.int IntKind.i64 0]).cells n).toList = us := ⟨_, rfl⟩
  have hlen : us.length = n * 2 := by
    rw [← hus]
    simp [Builtin.zeroCells, Value.cells]
  have hone : ∀ v ∈ us, v.oneCell' = true := by
    rw [← hus]
    intro v hv
    simp only [Builtin.zeroCells, Value.cells] at hv
    simp at hv
    obtain ⟨i, _, rfl⟩ := hv
    rcases (by omega : i % 2 = 0 ∨ i % 2 = 1) with h | h <;> (simp [h]; try rfl)
  have hst := run_storeCells_cells (P := Tryz.prog) g o us 0 w (by rw [hlen]; simpa using hc) (by rw [hlen]; simpa using hf) hone
  simp only [Nat.add_zero] at hst
  refine ⟨us, fun ty => ?_⟩
  obtain ⟨m, rfl⟩ : ∃ m, n = m + 1 := ⟨n - 1, by omega⟩
  simp [Builtin.clear_, run_underlying Tryz.underlying117, hus, hst]

set_option maxHeartbeats 1000000 in
set_option maxRecDepth 20000 in
/-- No two neighbours at one tick: as it was. -/
theorem compact_same (ds : List Pt) (g cap : Nat) (hm : ds.length ≤ 1048576) (w : World) (hg : g < w.heap.size) (h : ∀ (i : Nat) (hi : i < ds.length), At2 w g (i * 2) ds[i]) (hne : ∀ (i : Nat) (hi : i + 1 < ds.length), ds[i + 1].tick ≠ ds[i].tick) :
    Calls Tryz.prog 191 #[.slice (some ⟨g, 0, none⟩) ds.length cap, .func (.func 192) #[] #[]] w fun e w' => e = .returned (.slice (some ⟨g, 0, none⟩) ds.length cap) ∧ Below w.heap.size w w' := by
  have mixed : Tryz.prog.follows .mixedOrders = true := by kernel_rfl
  have HC := Lib.hid h
  have HN := Lib.hid hne
  clear h hne
  by_cases h2 : ds.length < 2
  · go_enter Tryz.func191, Tryz.ntmps191
    go_wp2
    go_ret
    exact ⟨rfl, Below.refl _ _⟩
  · go_enter Tryz.func191, Tryz.ntmps191
    go_wp2
    go_loopw [5] (fun i wr => ∃ k : Nat, 1 ≤ k ∧ k ≤ ds.length ∧ i = .int .i64 k ∧ Hid (Below w.heap.size w wr)) (fun i _ => ds.length - (intOf i).toNat)
    case atStart => exact ⟨1, Nat.le_refl _, by omega, rfl, Below.refl _ _⟩
    case round =>
      obtain ⟨k, hk1, hk, rfl, HB⟩ := hrel
      by_cases hlt : k < ds.length
      · obtain ⟨p, hp⟩ : ∃ p : Nat, (k : Int) - 1 = (p : Int) := ⟨k - 1, by omega⟩
        have hkp : k = p + 1 := by omega
        have hpl : p < ds.length := by omega
        have hwp : IntKind.i64.wrap (p : Int) = (p : Int) := by rw [IntKind.wrap_i64]; omega
        have hgr := Nat.lt_of_lt_of_le hg HB.out.size
        obtain ⟨x, hx⟩ : ∃ x, ds[k] = x := ⟨_, rfl⟩
        obtain ⟨y, hy⟩ : ∃ y, ds[p] = y := ⟨_, rfl⟩
        have hd : (x.tick == y.tick) = false := by
          have := HN.out p (by omega)
          rw [← hx, ← hy, beq_eq_false_iff_ne]
          subst hkp
          exact this
        obtain ⟨q0, q1⟩ := at2_grown ((HC.out k hlt).kept HB.out hg) hgr
        obtain ⟨r0, r1⟩ := at2_grown ((HC.out p hpl).kept HB.out hg) hgr
        rw [hx] at q0 q1
        rw [hy] at r0 r1
        have hcall : ∀ n' os', Calls Tryz.prog 192 #[.agg #[.int .i64 x.tick, .int .i64 x.val], .agg #[.int .i64 y.tick, .int .i64 y.val]] (Go.Sort.grow (wr.drewN n') os') _ := fun n' os' => by
          have := same_time x y (Go.Sort.grow (wr.drewN n') os')
          rw [hd] at this
          exact this
        clear hx hy hd hgr hkp
        go_wp2_with fail
        go_quiet_grown (first | (go_at_call 192; refine Calls.grown_of (hcall _ _)))
        have HB2 := Lib.hid (below_grow HB.out HB.out.size nq osq)
        clear hcall q0 q1 r0 r1
        go_wp2
        go_roundw
        case rel => exact ⟨k + 1, by omega, by omega, by go_num, HB2⟩
        case measure => simp [intOf]; omega
      · obtain rfl : k = ds.length := by omega
        go_wp2
        go_ret
        exact ⟨rfl, HB.out⟩

set_option maxHeartbeats 2000000 in
set_option maxRecDepth 20000 in
/-- Two neighbours at one tick: it is shortened; only the row was written. -/
theorem compact_less (ds : List Pt) (g : Nat) (rest : List Value) (hm : ds.length ≤ 1048576) (w : World) (h : CellsW w g (gf encP ds ++ rest)) (hex : ∃ (i : Nat) (hi : i + 1 < ds.length), ds[i + 1].tick = ds[i].tick) :
    Calls Tryz.prog 191 #[.slice (some ⟨g, 0, none⟩) ds.length ds.length, .func (.func 192) #[] #[]] w fun e w' => ∃ m, m < ds.length ∧ e = .returned (.slice (some ⟨g, 0, none⟩) m ds.length) ∧ Only g w w' := by
  have mixed : Tryz.prog.follows .mixedOrders = true := by kernel_rfl
  have HC := Lib.hid h
  have HX := Lib.hid hex
  have h2 : ¬ ds.length < 2 := by obtain ⟨i, hi, _⟩ := hex; omega
  have HG := Lib.hid h.1
  clear h hex
  go_enter Tryz.func191, Tryz.ntmps191
  go_wp2
  go_loopw [5] (fun i wr => ∃ k : Nat, 1 ≤ k ∧ k ≤ ds.length ∧ i = .int .i64 k ∧ Hid (Below w.heap.size w wr) ∧ Hid (∀ (i : Nat) (hi : i + 1 < ds.length), i + 1 < k → ds[i + 1].tick ≠ ds[i].tick)) (fun i _ => ds.length - (intOf i).toNat)
  case atStart => exact ⟨1, Nat.le_refl _, by omega, rfl, Below.refl _ _, fun i hi h => by omega⟩
  case round =>
    obtain ⟨k, hk1, hk, rfl, HB, HN⟩ := hrel
    by_cases hlt : k < ds.length
    · obtain ⟨p, hp⟩ : ∃ p : Nat, (k : Int) - 1 = (p : Int) := ⟨k - 1, by omega⟩
      have hkp : k = p + 1 := by omega
      have hpl : p < ds.length := by omega
      have hwp : IntKind.i64.wrap (p : Int) = (p : Int) := by rw [IntKind.wrap_i64]; omega
      have hgr := Nat.lt_of_lt_of_le HG.out HB.out.size
      obtain ⟨x, hx⟩ : ∃ x, ds[k] = x := ⟨_, rfl⟩
      obtain ⟨y, hy⟩ : ∃ y, ds[p] = y := ⟨_, rfl⟩
      obtain ⟨q0, q1⟩ := at2_grown ((row_at HC.out k hlt).1.kept HB.out HG.out) hgr
      obtain ⟨r0, r1⟩ := at2_grown ((row_at HC.out p hpl).1.kept HB.out HG.out) hgr
      rw [hx] at q0 q1
      rw [hy] at r0 r1
      have HXY : Hid (∀ (i : Nat) (hi : i + 1 < ds.length), i = p → (ds[i + 1].tick = ds[i].tick ↔ x.tick = y.tick)) := fun i hi e => by subst e; subst hkp; rw [hx, hy]
      clear hx hy hgr
      cases hd : (x.tick == y.tick)
      · have hcall : ∀ n' os', Calls Tryz.prog 192 #[.agg #[.int .i64 x.tick, .int .i64 x.val], .agg #[.int .i64 y.tick, .int .i64 y.val]] (Go.Sort.grow (wr.drewN n') os') _ := fun n' os' => by
          have := same_time x y (Go.Sort.grow (wr.drewN n') os')
          rw [hd] at this
          exact this
        have HN2 : Hid (∀ (i : Nat) (hi : i + 1 < ds.length), i + 1 < k + 1 → ds[i + 1].tick ≠ ds[i].tick) := fun i hi h => by
          by_cases e : i = p
          · rw [Ne, HXY.out i hi e]; simpa using hd
          · exact HN.out i hi (by omega)
        clear hd hkp HXY
        go_wp2_with fail
        go_quiet_grown (first | (go_at_call 192; refine Calls.grown_of (hcall _ _)))
        have HB2 := Lib.hid (below_grow HB.out HB.out.size nq osq)
        clear hcall q0 q1 r0 r1
        go_wp2
        go_roundw
        case rel => exact ⟨k + 1, by omega, by omega, by go_num, HB2, HN2⟩
        case measure => simp [intOf]; omega
      · have hcall : ∀ n' os', Calls Tryz.prog 192 #[.agg #[.int .i64 x.tick, .int .i64 x.val], .agg #[.int .i64 y.tick, .int .i64 y.val]] (Go.Sort.grow (wr.drewN n') os') _ := fun n' os' => by
          have := same_time x y (Go.Sort.grow (wr.drewN n') os')
          rw [hd] at this
          exact this
        clear hd hkp HXY
        go_wp2_with fail
        go_quiet_grown (first | (go_at_call 192; refine Calls.grown_of (hcall _ _)))
        obtain ⟨w1, hw1⟩ : ∃ w1, Go.Sort.grow (wr.drewN nq) osq = w1 := ⟨_, rfl⟩
        have HB1 := Lib.hid (below_grow HB.out HB.out.size nq osq)
        rw [hw1] at HB1 ⊢
        have HC1 := Lib.hid (HC.out.kept HB1.out)
        clear hcall q0 q1 r0 r1 hw1 HB
        clear wr
        go_wp2
        go_loopw [5, 7] (fun v5 v7 wr => ∃ (a b : Nat) (es : List Pt), v5 = .int .i64 a ∧ v7 = .int .i64 b ∧ 1 ≤ b ∧ a + 1 ≤ k + b ∧ k + b ≤ ds.length ∧ es.length = ds.length ∧ Hid (CellsW wr g (gf encP es ++ rest)) ∧ Hid (Only g w1 wr)) (fun _ v7 _ => ds.length - (intOf v7).toNat)
        case atStart => exact ⟨k, 1, ds, rfl, rfl, Nat.le_refl _, by omega, by omega, rfl, HC1.out, Only.refl _ _⟩
        case round =>
          obtain ⟨a, b, es, rfl, rfl, hb1, hab, hbn, hes, HCE, HOE⟩ := hrel
          by_cases hl2 : k + b < ds.length
          · obtain ⟨q, hq⟩ : ∃ q : Nat, (b : Int) - 1 = (q : Int) := ⟨b - 1, by omega⟩
            have hbq : b = q + 1 := by omega
            have hwq : IntKind.i64.wrap (q : Int) = (q : Int) := by rw [IntKind.wrap_i64]; omega
            have hql : k + q < es.length := by omega
            have hqn : q < ds.length - k := by omega
            have hbl : k + b < es.length := by omega
            have hal : a < es.length := by omega
            obtain ⟨x2, hx2⟩ : ∃ x2, es[k + b] = x2 := ⟨_, rfl⟩
            obtain ⟨y2, hy2⟩ : ∃ y2, es[k + q] = y2 := ⟨_, rfl⟩
            have rx := (row_at HCE.out (k + b) hbl).1
            have ry := (row_at HCE.out (k + q) hql).1
            rw [hx2, Nat.add_mul] at rx
            rw [hy2, Nat.add_mul] at ry
            obtain ⟨q0, q1⟩ := at2_grown rx HCE.out.1
            obtain ⟨r0, r1⟩ := at2_grown ry HCE.out.1
            have HRX := Lib.hid rx
            clear rx ry hx2 hy2 hbq
            cases hd2 : (x2.tick == y2.tick)
            · have hcall : ∀ n' os', Calls Tryz.prog 192 #[.agg #[.int .i64 x2.tick, .int .i64 x2.val], .agg #[.int .i64 y2.tick, .int .i64 y2.val]] (Go.Sort.grow (wr.drewN n') os') _ := fun n' os' => by
                have := same_time x2 y2 (Go.Sort.grow (wr.drewN n') os')
                rw [hd2] at this
                exact this
              clear hd2
              go_wp2_with fail
              go_quiet_grown (first | (go_at_call 192; refine Calls.grown_of (hcall _ _)))
              obtain ⟨w2, hw2⟩ : ∃ w2, Go.Sort.grow (wr.drewN nq) osq = w2 := ⟨_, rfl⟩
              have hb2 : Below wr.heap.size wr w2 := by rw [← hw2]; exact below_grow (Below.refl _ _) (Nat.le_refl _) nq osq
              rw [hw2]
              have HC2 := Lib.hid (HCE.out.kept hb2)
              have HO2 := Lib.hid (HOE.out.trans (Only.of_below hb2))
              obtain ⟨u0, u1⟩ := HRX.out.kept hb2 HCE.out.1
              obtain ⟨⟨c0, c1⟩, f0, f1⟩ := row_at HC2.out a hal
              clear hcall q0 q1 r0 r1 hw2 hb2 HCE HOE HRX
              clear wr
              have HC3 := Lib.hid (row_set HC2.out a hal x2)
              have HO3 := Lib.hid ((HO2.out.setCell (a * 2) (.int .i64 x2.tick)).setCell (a * 2 + 1) (.int .i64 x2.val))
              go_wp2
              go_roundw
              case rel => exact ⟨a + 1, b + 1, es.set a x2, by go_num, by go_num, by omega, by omega, by omega, by rw [List.length_set]; exact hes, HC3, HO3⟩
              case measure => simp [intOf]; omega
            · have hcall : ∀ n' os', Calls Tryz.prog 192 #[.agg #[.int .i64 x2.tick, .int .i64 x2.val], .agg #[.int .i64 y2.tick, .int .i64 y2.val]] (Go.Sort.grow (wr.drewN n') os') _ := fun n' os' => by
                have := same_time x2 y2 (Go.Sort.grow (wr.drewN n') os')
                rw [hd2] at this
                exact this
              clear hd2
              go_wp2_with fail
              go_quiet_grown (first | (go_at_call 192; refine Calls.grown_of (hcall _ _)))
              obtain ⟨w2, hw2⟩ : ∃ w2, Go.Sort.grow (wr.drewN nq) osq = w2 := ⟨_, rfl⟩
              have hb2 : Below wr.heap.size wr w2 := by rw [← hw2]; exact below_grow (Below.refl _ _) (Nat.le_refl _) nq osq
              rw [hw2]
              have HC2 := Lib.hid (HCE.out.kept hb2)
              have HO2 := Lib.hid (HOE.out.trans (Only.of_below hb2))
              clear hcall q0 q1 r0 r1 hw2 hb2 HCE HOE HRX
              clear wr
              go_wp2
              go_roundw
              case rel => exact ⟨a, b + 1, es, rfl, by go_num, by omega, by omega, by omega, hes, HC2, HO2⟩
              case measure => simp [intOf]; omega
          · have hal : a < ds.length := by omega
            obtain ⟨us, hclr⟩ := clear_pts wr g (a * 2) (ds.length - a) (ds.length - a) (by omega) (fun j hj => by
                have hj2 : a * 2 + j < (gf encP es ++ rest).length := by rw [List.length_append, gf_len encP 2 encP_len]; omega
                rw [(HCE.out.2 _ hj2).1]; rfl) (fun j hj => by
                have hj2 : a * 2 + j < (gf encP es ++ rest).length := by rw [List.length_append, gf_len encP 2 encP_len]; omega
                exact (HCE.out.2 _ hj2).2)
            have HOF := Lib.hid (((Only.of_below (c := g) HB1.out).trans HOE.out).trans (only_setCells g us (a * 2) wr wr (Only.refl g wr)))
            go_wp2
            go_ret
            exact ⟨a, hal, rfl, HOF.out⟩
    · exfalso
      obtain ⟨i, hi, he⟩ := HX.out
      exact HN.out i hi (by omega) he
end Go.Proofs.YtgmdfkmmbcpikaaGreat.Cpt
