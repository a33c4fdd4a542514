/- ClassOf: the program's view, its classes (values of an interface type), the whole. -/
import Derived.Test.YtihhbgihejjmeaaGreatCls
import Derived.Deep.RegionHeld3
namespace Go.Proofs.YtihhbgihejjmeaaGreat.ClsI
open Go.RowKit Go.Sort
open Go.Proofs.YtihhbgihejjmeaaGreat.C1
open Go.Proofs.YtihhbgihejjmeaaGreat.C2
open Go.Proofs.YtihhbgihejjmeaaGreat.Smps
open Go.Proofs.YtihhbgihejjmeaaGreat.Mem
open Go.Proofs.YtihhbgihejjmeaaGreat.Ser
open Go.Proofs.YtihhbgihejjmeaaGreat.Ser2
open Go.Proofs.YtihhbgihejjmeaaGreat.Key
open Go.Proofs.YtihhbgihejjmeaaGreat.Sto
open Go.Proofs.YtihhbgihejjmeaaGreat.StoL
open Go.Proofs.YtihhbgihejjmeaaGreat.Find
open Go.Proofs.YtihhbgihejjmeaaGreat.Lat
open Go.Proofs.YtihhbgihejjmeaaGreat.Pd
open Go.Proofs.YtihhbgihejjmeaaGreat.Cls
set_option linter.unusedVariables false

theorem cells6 {w : World} {g : Nat} {a b c d e f : Value} (h : CellsW w g [a, b, c, d, e, f]) : w.cell? ⟨g, 0, none⟩ = some a ∧ w.cell? ⟨g, 1, none⟩ = some b ∧ w.cell? ⟨g, 2, none⟩ = some c ∧ w.cell? ⟨g, 3, none⟩ = some d ∧ w.cell? ⟨g, 4, none⟩ = some e ∧ w.cell? ⟨g, 5, none⟩ = some f :=
  ⟨(h.2 0 (by simp)).1, (h.2 1 (by simp)).1, (h.2 2 (by simp)).1, (h.2 3 (by simp)).1, (h.2 4 (by simp)).1, (h.2 5 (by simp)).1⟩
def classI (c : Nat) (u : Int) : Value :=
  if c = 3 then .iface 94 (.agg #[]) else if c = 2 then .iface 95 (.agg #[]) else if c = 1 then .iface 96 (.agg #[]) else .iface 98 (.agg #[.int .i64 u])
set_option maxHeartbeats 1000000 in
set_option maxRecDepth 20000 in
theorem view_ok (ls : List Sv) (a : Option Addr) (cap : Nat) (m : ByteArray) (now : Int) (r : Rl) (w : World) (hwf : ∀ l ∈ ls, l.s.wf) (hpl : ∀ l ∈ ls, l.s.pts.length ≤ 1048576) (h : Srs w a ls) (hm : ls.length ≤ 1048576) :
    Calls Tryz.prog 29 #[.agg #[.slice a ls.length cap, .string m, .int .i64 now, .int .i64 r.dl, .int .i64 r.fr, .int .i64 r.wi]] w fun e w' => e = .returned (.bool (viewV (ls.map Sv.s) now r)) ∧ Below w.heap.size w w' := by
  have HC2 : Hid (∀ w, Calls Tryz.prog 52 #[rlV r] w fun e w' => e = .returned (.bool (okR r)) ∧ Below w.heap.size w w') := fun w => impl_rules r w
  have HC4 : Hid (∀ w, Srs w a ls → Calls Tryz.prog 54 #[.slice a ls.length cap] w fun e w' => e = .returned (.bool (storeV (ls.map Sv.s))) ∧ Below w.heap.size w w') := fun w h => impl_store2 ls ls rfl a cap w hwf hpl h hm
  have HS := Lib.hid h
  unfold rlV at HC2
  obtain ⟨c, hc⟩ : ∃ c, viewV (ls.map Sv.s) now r = c := ⟨_, rfl⟩
  have HV := Lib.hid hc
  rw [hc]
  clear hc hwf hpl h
  have HA := Lib.hid (cells_new w #[.slice a ls.length cap, .string m, .int .i64 now, .int .i64 r.dl, .int .i64 r.fr, .int .i64 r.wi] 64)
  have H0 := Lib.hid (box_below w #[.slice a ls.length cap, .string m, .int .i64 now, .int .i64 r.dl, .int .i64 r.fr, .int .i64 r.wi] 64)
  go_enter Tryz.func29, Tryz.ntmps29
  go_wp2_with fail
  cases c2 : okR r
  · rw [c2] at HC2
    have HN : Hid (c = false) := by rw [← HV.out]; unfold viewV; rw [c2]; exact Lib.hid rfl
    clear c2
    refine (HC2.out _).mono ?_
    rintro e w2 ⟨rfl, hb2⟩
    have HB2 := Lib.hid (H0.out.trans (hb2.mono H0.out.size))
    clear hb2
    go_wp2
    go_ret
    exact ⟨ret1B HN.out.symm, HB2.out⟩
  · rw [c2] at HC2
    have HK2 := Lib.hid c2
    clear c2
    refine (HC2.out _).mono ?_
    rintro e w2 ⟨rfl, hb2⟩
    have HB2 := Lib.hid (H0.out.trans (hb2.mono H0.out.size))
    have HA2 := Lib.hid (HA.out.kept hb2)
    have HS2 := Lib.hid (HS.out.kept HB2.out)
    clear hb2
    obtain ⟨q0, q1, q2, -, -, -⟩ := cells6 HA2.out
    go_wp2_with fail
    cases c3 : sizeV now
    · have HN : Hid (c = false) := by rw [← HV.out]; unfold viewV; rw [c3, HK2.out]; exact Lib.hid rfl
      refine (impl_tick _ _).mono ?_
      rw [c3]
      clear c3
      rintro e w' ⟨rfl, rfl⟩
      go_wp2
      go_ret
      exact ⟨ret1B HN.out.symm, HB2.out⟩
    · have HN : Hid (c = storeV (ls.map Sv.s)) := by rw [← HV.out]; unfold viewV; rw [c3, HK2.out]; exact Lib.hid rfl
      refine (impl_tick _ _).mono ?_
      rw [c3]
      clear c3
      rintro e w' ⟨rfl, rfl⟩
      go_wp2_with fail
      refine (HC4.out _ HS2.out).mono ?_
      rintro e w3 ⟨rfl, hb3⟩
      have HB3 := Lib.hid (HB2.out.trans (hb3.mono HB2.out.size))
      clear hb3
      go_wp2
      go_ret
      exact ⟨ret1B HN.out.symm, HB3.out⟩
set_option maxHeartbeats 4000000 in
set_option maxRecDepth 20000 in
theorem class_of (p : Pd) (ls : List Sv) (a : Option Addr) (cap : Nat) (m : ByteArray) (now : Int) (r : Rl) (w : World) (hwf : ∀ l ∈ ls, l.s.wf) (hpl : ∀ l ∈ ls, l.s.pts.length ≤ 1048576) (h : Srs w a ls) (hm : ls.length ≤ 1048576) (hp : okP p = true) (hr : okR r = true) (hn : sizeV now = true) :
    Calls Tryz.prog 30 #[.agg #[.slice a ls.length cap, .string m, .int .i64 now, .int .i64 r.dl, .int .i64 r.fr, .int .i64 r.wi], podV p] w fun e w' => e = .returned (classI (coreV p (ls.map Sv.s) m now r) (lastV (ls.map Sv.s) p.nm m).val) ∧ Below w.heap.size w w' := by
  have HC5 : Hid (∀ w, Srs w a ls → Calls Tryz.prog 55 #[.slice a ls.length cap, .string p.nm, .string m] w fun e w' => e = .returned (.tuple #[ptV (lastV (ls.map Sv.s) p.nm m), .bool (lastB (ls.map Sv.s) p.nm m)]) ∧ Below w.heap.size w w') := fun w h => impl_latest ls a cap p.nm m w hwf hpl h hm
  obtain ⟨hb1, hb2, -, -⟩ := last_bd (ls.map Sv.s) p.nm m
  obtain ⟨f1, f2, f3, f4⟩ := phOk hp
  obtain ⟨g1, g2, g3, g4, -, -⟩ := rlOk hr
  obtain ⟨t1, t2⟩ := sizeOk hn
  have HS := Lib.hid h
  unfold ptV at HC5
  unfold podV
  obtain ⟨c, hc⟩ : ∃ c, coreV p (ls.map Sv.s) m now r = c := ⟨_, rfl⟩
  obtain ⟨x, hx⟩ : ∃ x, lastV (ls.map Sv.s) p.nm m = x := ⟨_, rfl⟩
  obtain ⟨y, hy⟩ : ∃ y, lastB (ls.map Sv.s) p.nm m = y := ⟨_, rfl⟩
  have HV := Lib.hid hc
  have HX := Lib.hid hx
  have HY := Lib.hid hy
  rw [hx] at hb1 hb2 HC5
  rw [hy] at HC5
  rw [hc, hx]
  clear hx hy hc hp hr hn hwf hpl h
  obtain ⟨hA, hB⟩ := box2_cells w #[.slice a ls.length cap, .string m, .int .i64 now, .int .i64 r.dl, .int .i64 r.fr, .int .i64 r.wi] #[.string p.nm, .int .i64 p.born, .int .i64 p.ph, .bool p.rdy] 64 57
  have HA := Lib.hid hA
  have HB := Lib.hid hB
  have H0 := Lib.hid (box2_below w (.cells #[.slice a ls.length cap, .string m, .int .i64 now, .int .i64 r.dl, .int .i64 r.fr, .int .i64 r.wi] 64) (.cells #[.string p.nm, .int .i64 p.born, .int .i64 p.ph, .bool p.rdy] 57))
  clear hA hB
  cases c5 : p.ph != 0
  · have HK5 := Lib.hid c5
    have HS1 := Lib.hid (HS.out.kept H0.out)
    go_enter Tryz.func30, Tryz.ntmps30
    go_wp2_with fail
    refine (HC5.out _ HS1.out).mono ?_
    rintro e w5 ⟨rfl, hb5⟩
    have HB5 := Lib.hid (H0.out.trans (hb5.mono H0.out.size))
    have hbx := box_below w5 #[.int .i64 x.tick, .int .i64 x.val] 77
    have HB6 := Lib.hid (HB5.out.trans (hbx.mono HB5.out.size))
    have HX6 := Lib.hid (cells_new w5 #[.int .i64 x.tick, .int .i64 x.val] 77)
    have HP6 := Lib.hid ((HB.out.kept hb5).kept hbx)
    have HR6 := Lib.hid ((HA.out.kept hb5).kept hbx)
    clear hb5 hbx c5
    obtain ⟨p0, p1, p2, p3⟩ := cells4 HP6.out
    obtain ⟨r0, r1, r2, r3, r4, r5⟩ := cells6 HR6.out
    cases y
    · have HN : Hid (c = 2) := by rw [← HV.out, core2 HK5.out (.inl HY.out)]; exact Lib.hid rfl
      go_wp2
      go_ret
      exact ⟨by rw [HN.out]; rfl, HB6.out⟩
    · cases c6 : decide (x.tick + r.fr < now)
      · have HK6 : Hid (decide ((lastV (ls.map Sv.s) p.nm m).tick + r.fr < now) = false) := by rw [HX.out]; exact Lib.hid c6
        cases c7 : p.rdy
        · have HN : Hid (c = 1) := by rw [← HV.out, core1 HK5.out HY.out HK6.out (.inl c7)]; exact Lib.hid rfl
          rw [c7] at p3
          go_wp2
          go_ret
          exact ⟨by rw [HN.out]; rfl, HB6.out⟩
        · have HK7 := Lib.hid c7
          rw [c7] at p3
          clear c7
          cases c8 : decide (now < p.born + r.dl)
          · have HN : Hid (c = 0) := by rw [← HV.out, core0 HK5.out HY.out HK6.out HK7.out c8]; exact Lib.hid rfl
            go_wp2
            go_ret
            exact ⟨by rw [HN.out]; rfl, HB6.out⟩
          · have HN : Hid (c = 1) := by rw [← HV.out, core1 HK5.out HY.out HK6.out (.inr c8)]; exact Lib.hid rfl
            go_wp2
            go_ret
            exact ⟨by rw [HN.out]; rfl, HB6.out⟩
      · have HN : Hid (c = 2) := by rw [← HV.out, core2 HK5.out (.inr (by rw [HX.out]; exact c6))]; exact Lib.hid rfl
        go_wp2
        go_ret
        exact ⟨by rw [HN.out]; rfl, HB6.out⟩
  · have HN : Hid (c = 3) := by rw [← HV.out, core3 c5]; exact Lib.hid rfl
    go_enter Tryz.func30, Tryz.ntmps30
    go_wp2
    go_ret
    exact ⟨by rw [HN.out]; rfl, H0.out⟩
theorem num_ign (u : Int) (w : World) : Calls Tryz.prog 152 #[.agg #[]] w fun e w' => e = .returned (.int .i64 3) ∧ Below w.heap.size w w' := by
  go_enter Tryz.func152, Tryz.ntmps152
  go_wp2
  go_ret
  exact ⟨rfl, box_below _ _ _⟩
theorem meth_ign (u : Int) (w : World) : (method 288 94 (.agg #[]) "loop.example/g00808/impl.number").run Tryz.prog w = .ok (152, .agg #[]) w := by kernel_rfl
theorem num_mis (u : Int) (w : World) : Calls Tryz.prog 153 #[.agg #[]] w fun e w' => e = .returned (.int .i64 2) ∧ Below w.heap.size w w' := by
  go_enter Tryz.func153, Tryz.ntmps153
  go_wp2
  go_ret
  exact ⟨rfl, box_below _ _ _⟩
theorem meth_mis (u : Int) (w : World) : (method 288 95 (.agg #[]) "loop.example/g00808/impl.number").run Tryz.prog w = .ok (153, .agg #[]) w := by kernel_rfl
theorem num_unr (u : Int) (w : World) : Calls Tryz.prog 154 #[.agg #[]] w fun e w' => e = .returned (.int .i64 1) ∧ Below w.heap.size w w' := by
  go_enter Tryz.func154, Tryz.ntmps154
  go_wp2
  go_ret
  exact ⟨rfl, box_below _ _ _⟩
theorem meth_unr (u : Int) (w : World) : (method 288 96 (.agg #[]) "loop.example/g00808/impl.number").run Tryz.prog w = .ok (154, .agg #[]) w := by kernel_rfl
theorem num_rdy (u : Int) (w : World) : Calls Tryz.prog 155 #[.agg #[.int .i64 u]] w fun e w' => e = .returned (.int .i64 0) ∧ Below w.heap.size w w' := by
  go_enter Tryz.func155, Tryz.ntmps155
  go_wp2
  go_ret
  exact ⟨rfl, box_below _ _ _⟩
theorem meth_rdy (u : Int) (w : World) : (method 288 98 (.agg #[.int .i64 u]) "loop.example/g00808/impl.number").run Tryz.prog w = .ok (155, .agg #[.int .i64 u]) w := by kernel_rfl
theorem box3_cells (w : World) (A B C : Array Value) (t t' t'' : TypeId) : CellsW (((w.alloc (.cells A t)).alloc (.cells B t')).alloc (.cells C t'')) w.heap.size A.toList ∧ CellsW (((w.alloc (.cells A t)).alloc (.cells B t')).alloc (.cells C t'')) (w.heap.size + 1) B.toList ∧ CellsW (((w.alloc (.cells A t)).alloc (.cells B t')).alloc (.cells C t'')) (w.heap.size + 2) C.toList := by
  obtain ⟨h1, h2⟩ := box2_cells w A B t t'
  have h := cells_new ((w.alloc (.cells A t)).alloc (.cells B t')) C t''
  have e : ((w.alloc (.cells A t)).alloc (.cells B t')).heap.size = w.heap.size + 2 := by simp
  rw [e] at h
  exact ⟨h1.kept (box_below _ _ _), h2.kept (box_below _ _ _), h⟩
theorem core_lt (p : Pd) (xs : List Ser) (m : ByteArray) (now : Int) (r : Rl) : coreV p xs m now r ≤ 3 := by
  unfold coreV
  split
  · omega
  · split
    · omega
    · split <;> omega
/-! ### At a copy of the list. -/
theorem spec_class2 (ls ms : List Sv) (hs : ms.map Sv.s = ls.map Sv.s) (p : Pd) (hp : p.wf) (a : Option Addr) (cap : Nat) (m : ByteArray) (now : Int) (r : Rl) (w : World) (hwf : ∀ l ∈ ls, l.s.wf) (hpl : ∀ l ∈ ls, l.s.pts.length ≤ 1048576) (h : Srs w a ms) (hm : ls.length ≤ 1048576) {c : Int} (hc : classV p (ls.map Sv.s) m now r = c) :
    Calls Tryz.prog 25 #[podV p, .slice a ls.length cap, .string m, .int .i64 now, rlV r] w fun e w' => e = .returned (.int .i64 c) ∧ Below w.heap.size w w' := by
  have hl := map_len hs
  have := spec_class p hp ms a cap m now r w (map_all hs hwf) (map_all (P := fun s => s.pts.length ≤ 1048576) hs hpl) h (by omega)
  rw [hl, hs, hc] at this
  exact this
end Go.Proofs.YtihhbgihejjmeaaGreat.ClsI
