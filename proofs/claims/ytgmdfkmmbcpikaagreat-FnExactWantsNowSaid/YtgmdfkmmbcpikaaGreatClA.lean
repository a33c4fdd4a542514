/- ClassOf: the model's. -/
import Derived.Test.YtgmdfkmmbcpikaaGreatLat
import Derived.Test.YtgmdfkmmbcpikaaGreatPd
import Derived.Deep.RegionHeld3
import Derived.Test.YtgmdfkmmbcpikaaGreatC1L
import Derived.Test.YtgmdfkmmbcpikaaGreatRosA
import Derived.Test.YtgmdfkmmbcpikaaGreatOwnI
namespace Go.Proofs.YtgmdfkmmbcpikaaGreat.Cls
open Go.RowKit Go.Sort
open Go.Proofs.YtgmdfkmmbcpikaaGreat.C1
open Go.Proofs.YtgmdfkmmbcpikaaGreat.C2
open Go.Proofs.YtgmdfkmmbcpikaaGreat.Smps
open Go.Proofs.YtgmdfkmmbcpikaaGreat.Mem
open Go.Proofs.YtgmdfkmmbcpikaaGreat.Ser
open Go.Proofs.YtgmdfkmmbcpikaaGreat.Ser2
open Go.Proofs.YtgmdfkmmbcpikaaGreat.Key
open Go.Proofs.YtgmdfkmmbcpikaaGreat.Sto
open Go.Proofs.YtgmdfkmmbcpikaaGreat.StoL
open Go.Proofs.YtgmdfkmmbcpikaaGreat.Find
open Go.Proofs.YtgmdfkmmbcpikaaGreat.Lat
open Go.Proofs.YtgmdfkmmbcpikaaGreat.Pd
set_option linter.unusedVariables false

/-- The class of a pod, all being valid. -/
def coreV (p : Pd) (xs : List Ser) (m : ByteArray) (now : Int) (r : Rl) : Nat :=
  if (p.ph != 0) = true then 3 else if lastB xs p.nm m = false ∨ decide ((lastV xs p.nm m).tick + r.fr < now) = true then 2 else if p.rdy = false ∨ decide (now < p.born + r.dl) = true then 1 else 0
def viewV (xs : List Ser) (now : Int) (r : Rl) : Bool := okR r && sizeV now && storeV xs
def classV (p : Pd) (xs : List Ser) (m : ByteArray) (now : Int) (r : Rl) : Int := if (okP p && viewV xs now r) = true then (coreV p xs m now r : Int) else -1
theorem core3 {p : Pd} {xs : List Ser} {m : ByteArray} {now : Int} {r : Rl} (h : (p.ph != 0) = true) : coreV p xs m now r = 3 := by unfold coreV; rw [if_pos h]
theorem core2 {p : Pd} {xs : List Ser} {m : ByteArray} {now : Int} {r : Rl} (h : (p.ph != 0) = false) (h2 : lastB xs p.nm m = false ∨ decide ((lastV xs p.nm m).tick + r.fr < now) = true) : coreV p xs m now r = 2 := by
  unfold coreV; rw [if_neg (by rw [h]; exact Bool.false_ne_true), if_pos h2]
theorem core1 {p : Pd} {xs : List Ser} {m : ByteArray} {now : Int} {r : Rl} (h : (p.ph != 0) = false) (h2 : lastB xs p.nm m = true) (h3 : decide ((lastV xs p.nm m).tick + r.fr < now) = false) (h4 : p.rdy = false ∨ decide (now < p.born + r.dl) = true) : coreV p xs m now r = 1 := by
  unfold coreV; rw [if_neg (by rw [h]; exact Bool.false_ne_true), if_neg (by rw [h2, h3]; simp), if_pos h4]
theorem core0 {p : Pd} {xs : List Ser} {m : ByteArray} {now : Int} {r : Rl} (h : (p.ph != 0) = false) (h2 : lastB xs p.nm m = true) (h3 : decide ((lastV xs p.nm m).tick + r.fr < now) = false) (h4 : p.rdy = true) (h5 : decide (now < p.born + r.dl) = false) : coreV p xs m now r = 0 := by
  unfold coreV; rw [if_neg (by rw [h]; exact Bool.false_ne_true), if_neg (by rw [h2, h3]; simp), if_neg (by rw [h4, h5]; simp)]
theorem class_no {p : Pd} {xs : List Ser} {m : ByteArray} {now : Int} {r : Rl} (h : (okP p && viewV xs now r) = false) : classV p xs m now r = -1 := by unfold classV; rw [if_neg (by rw [h]; exact Bool.false_ne_true)]
theorem class_yes {p : Pd} {xs : List Ser} {m : ByteArray} {now : Int} {r : Rl} (h1 : okP p = true) (h2 : okR r = true) (h3 : sizeV now = true) (h4 : storeV xs = true) {c : Nat} (h : coreV p xs m now r = c) : classV p xs m now r = (c : Int) := by
  unfold classV viewV; rw [h1, h2, h3, h4, h]; rfl
theorem last_bd (xs : List Ser) (p m : ByteArray) : 0 ≤ (lastV xs p m).tick ∧ (lastV xs p m).tick ≤ 1000000000 ∧ 0 ≤ (lastV xs p m).val ∧ (lastV xs p m).val ≤ 1000000000 := by
  cases hf : findV xs p m with
  | none => rw [(last_none hf).1]; exact ⟨Int.le_refl _, by decide, Int.le_refl _, by decide⟩
  | some s =>
    have hv : storeV xs = true := by
      unfold findV at hf
      cases hs : storeV xs
      · rw [hs] at hf; simp at hf
      · rfl
    have hok := (find_ok hf hv).pts
    have h1 := hok.one
    obtain ⟨n, hn⟩ : ∃ n, n + 1 = s.pts.length := ⟨s.pts.length - 1, by omega⟩
    rw [(last_some hf hn).1]
    have := hok.ok _ (List.getElem_mem (show n < s.pts.length by omega))
    unfold ptOk sizeV at this
    simp only [Bool.and_eq_true, decide_eq_true_eq] at this
    exact ⟨this.1.1, this.1.2, this.2.1, this.2.2⟩
theorem cells4 {w : World} {g : Nat} {a b c d : Value} (h : CellsW w g [a, b, c, d]) : w.cell? ⟨g, 0, none⟩ = some a ∧ w.cell? ⟨g, 1, none⟩ = some b ∧ w.cell? ⟨g, 2, none⟩ = some c ∧ w.cell? ⟨g, 3, none⟩ = some d :=
  ⟨(h.2 0 (by simp)).1, (h.2 1 (by simp)).1, (h.2 2 (by simp)).1, (h.2 3 (by simp)).1⟩
theorem cells3 {w : World} {g : Nat} {a b c : Value} (h : CellsW w g [a, b, c]) : w.cell? ⟨g, 0, none⟩ = some a ∧ w.cell? ⟨g, 1, none⟩ = some b ∧ w.cell? ⟨g, 2, none⟩ = some c :=
  ⟨(h.2 0 (by simp)).1, (h.2 1 (by simp)).1, (h.2 2 (by simp)).1⟩
theorem box2_cells (w : World) (A B : Array Value) (t t' : TypeId) : CellsW ((w.alloc (.cells A t)).alloc (.cells B t')) w.heap.size A.toList ∧ CellsW ((w.alloc (.cells A t)).alloc (.cells B t')) (w.heap.size + 1) B.toList := by
  refine ⟨(cells_new w A t).kept (box_below _ _ _), ?_⟩
  have h := cells_new (w.alloc (.cells A t)) B t'
  have e : (w.alloc (.cells A t)).heap.size = w.heap.size + 1 := by simp
  rw [e] at h
  exact h
theorem phOk {p : Pd} (h : okP p = true) : 0 ≤ p.born ∧ p.born ≤ 1000000000 ∧ 0 ≤ p.ph ∧ p.ph ≤ 2 := by
  unfold okP sizeV phV at h
  simp only [Bool.and_eq_true, decide_eq_true_eq] at h
  exact ⟨h.1.2.1, h.1.2.2, h.2.1, h.2.2⟩
theorem rlOk {r : Rl} (h : okR r = true) : 0 ≤ r.dl ∧ r.dl ≤ 1000 ∧ 0 ≤ r.fr ∧ r.fr ≤ 1000 ∧ 0 ≤ r.wi ∧ r.wi ≤ 1000 := by
  unfold okR ruleV at h
  simp only [Bool.and_eq_true, decide_eq_true_eq] at h
  exact ⟨h.1.1.1, h.1.1.2, h.1.2.1, h.1.2.2, h.2.1, h.2.2⟩
theorem sizeOk {x : Int} (h : sizeV x = true) : 0 ≤ x ∧ x ≤ 1000000000 := by unfold sizeV at h; exact of_decide_eq_true h
set_option maxHeartbeats 4000000 in
set_option maxRecDepth 20000 in
theorem spec_class (p : Pd) (hp : p.wf) (ls : List Sv) (a : Option Addr) (cap : Nat) (m : ByteArray) (now : Int) (r : Rl) (w : World) (hwf : ∀ l ∈ ls, l.s.wf) (hpl : ∀ l ∈ ls, l.s.pts.length ≤ 1048576) (h : Srs w a ls) (hm : ls.length ≤ 1048576) :
    Calls Tryz.prog 161 #[podV p, .slice a ls.length cap, .string m, .int .i64 now, rlV r] w fun e w' => e = .returned (.int .i64 (classV p (ls.map Sv.s) m now r)) ∧ Below w.heap.size w w' := by
  have HC1 : Hid (∀ w, Calls Tryz.prog 64 #[podV p] w fun e w' => e = .returned (.bool (okP p)) ∧ Below w.heap.size w w') := fun w => spec_podok p hp w
  have HC2 : Hid (∀ w, Calls Tryz.prog 61 #[rlV r] w fun e w' => e = .returned (.bool (okR r)) ∧ Below w.heap.size w w') := fun w => spec_rules r w
  have HC4 : Hid (∀ w, Srs w a ls → Calls Tryz.prog 28 #[.slice a ls.length cap] w fun e w' => e = .returned (.bool (storeV (ls.map Sv.s))) ∧ Below w.heap.size w w') := fun w h => spec_store2 ls ls rfl a cap w hwf h hm
  have HC5 : Hid (∀ w, Srs w a ls → Calls Tryz.prog 134 #[.slice a ls.length cap, .string p.nm, .string m] w fun e w' => e = .returned (.tuple #[ptV (lastV (ls.map Sv.s) p.nm m), .bool (lastB (ls.map Sv.s) p.nm m)]) ∧ Below w.heap.size w w') := fun w h => spec_latest ls a cap p.nm m w hwf hpl h hm
  obtain ⟨hb1, hb2, -, -⟩ := last_bd (ls.map Sv.s) p.nm m
  have HS := Lib.hid h
  unfold podV at HC1
  unfold rlV at HC2
  unfold ptV at HC5
  unfold podV rlV
  obtain ⟨c, hc⟩ : ∃ c, classV p (ls.map Sv.s) m now r = c := ⟨_, rfl⟩
  have HV := Lib.hid hc
  rw [hc]
  clear hc hp hwf hpl h
  obtain ⟨hA, hB⟩ := box2_cells w #[.string p.nm, .int .i64 p.born, .int .i64 p.ph, .bool p.rdy] #[.int .i64 r.dl, .int .i64 r.fr, .int .i64 r.wi] 115 40
  have HA := Lib.hid hA
  have HB := Lib.hid hB
  have H0 := Lib.hid (box2_below w (.cells #[.string p.nm, .int .i64 p.born, .int .i64 p.ph, .bool p.rdy] 115) (.cells #[.int .i64 r.dl, .int .i64 r.fr, .int .i64 r.wi] 40))
  clear hA hB
  cases c1 : okP p
  · rw [c1] at HC1
    have HN : Hid (c = -1) := by rw [← HV.out, class_no (by rw [c1]; rfl)]; exact Lib.hid rfl
    clear c1
    go_enter Tryz.func161, Tryz.ntmps161
    go_wp2_with (go_at_call 64; refine (HC1.out _).mono ?_; rintro e w1 ⟨rfl, hb1⟩; have HB1 := Lib.hid (H0.out.trans (hb1.mono H0.out.size)); clear hb1)
    go_ret
    exact ⟨ret1I HN.out.symm, HB1.out⟩
  · rw [c1] at HC1
    have HK1 := Lib.hid c1
    obtain ⟨f1, f2, f3, f4⟩ := phOk c1
    clear c1
    go_enter Tryz.func161, Tryz.ntmps161
    go_wp2_with fail
    refine (HC1.out _).mono ?_
    rintro e w1 ⟨rfl, hb1⟩
    have HB1 := Lib.hid (H0.out.trans (hb1.mono H0.out.size))
    have HP1 := Lib.hid (HA.out.kept hb1)
    have HR1 := Lib.hid (HB.out.kept hb1)
    clear hb1 HA HB
    obtain ⟨r0, r1, r2⟩ := cells3 HR1.out
    go_wp2_with fail
    cases c2 : okR r
    · rw [c2] at HC2
      have HN : Hid (c = -1) := by rw [← HV.out, class_no (by unfold viewV; rw [c2, HK1.out]; rfl)]; exact Lib.hid rfl
      clear c2
      refine (HC2.out _).mono ?_
      rintro e w2 ⟨rfl, hb2⟩
      have HB2 := Lib.hid (HB1.out.trans (hb2.mono HB1.out.size))
      clear hb2
      go_wp2
      go_ret
      exact ⟨ret1I HN.out.symm, HB2.out⟩
    · rw [c2] at HC2
      have HK2 := Lib.hid c2
      obtain ⟨g1, g2, g3, g4, -, -⟩ := rlOk c2
      clear c2
      refine (HC2.out _).mono ?_
      rintro e w2 ⟨rfl, hb2⟩
      have HB2 := Lib.hid (HB1.out.trans (hb2.mono HB1.out.size))
      have HP2 := Lib.hid (HP1.out.kept hb2)
      have HR2 := Lib.hid (HR1.out.kept hb2)
      clear hb2 r0 r1 r2 HP1 HR1
      go_wp2_with fail
      cases c3 : sizeV now
      · have HN : Hid (c = -1) := by rw [← HV.out, class_no (by unfold viewV; rw [c3, HK1.out, HK2.out]; rfl)]; exact Lib.hid rfl
        refine (spec_tick _ _).mono ?_
        rw [c3]
        clear c3
        rintro e w' ⟨rfl, rfl⟩
        go_wp2
        go_ret
        exact ⟨ret1I HN.out.symm, HB2.out⟩
      · have HK3 := Lib.hid c3
        obtain ⟨t1, t2⟩ := sizeOk c3
        refine (spec_tick _ _).mono ?_
        rw [c3]
        clear c3
        rintro e w' ⟨rfl, rfl⟩
        have HS2 := Lib.hid (HS.out.kept HB2.out)
        go_wp2_with fail
        cases c4 : storeV (ls.map Sv.s)
        · rw [c4] at HC4
          have HN : Hid (c = -1) := by rw [← HV.out, class_no (by unfold viewV; rw [c4, HK1.out, HK2.out, HK3.out]; rfl)]; exact Lib.hid rfl
          clear c4
          refine (HC4.out _ HS2.out).mono ?_
          rintro e w3 ⟨rfl, hb3⟩
          have HB3 := Lib.hid (HB2.out.trans (hb3.mono HB2.out.size))
          clear hb3
          go_wp2
          go_ret
          exact ⟨ret1I HN.out.symm, HB3.out⟩
        · rw [c4] at HC4
          have HVY : Hid (∀ k : Nat, coreV p (ls.map Sv.s) m now r = k → c = (k : Int)) := fun k hk => by rw [← HV.out]; exact class_yes HK1.out HK2.out HK3.out c4 hk
          clear c4
          refine (HC4.out _ HS2.out).mono ?_
          rintro e w3 ⟨rfl, hb3⟩
          have HB3 := Lib.hid (HB2.out.trans (hb3.mono HB2.out.size))
          have HP3 := Lib.hid (HP2.out.kept hb3)
          have HR3 := Lib.hid (HR2.out.kept hb3)
          have HS3 := Lib.hid (HS2.out.kept hb3)
          clear hb3 HP2 HR2 HS2 HK1 HK2 HK3 HV
          obtain ⟨p0, p1, p2, p3⟩ := cells4 HP3.out
          cases c5 : p.ph != 0
          · have HK5 := Lib.hid c5
            obtain ⟨x, hx⟩ : ∃ x, lastV (ls.map Sv.s) p.nm m = x := ⟨_, rfl⟩
            obtain ⟨y, hy⟩ : ∃ y, lastB (ls.map Sv.s) p.nm m = y := ⟨_, rfl⟩
            have HX := Lib.hid hx
            have HY := Lib.hid hy
            rw [hx] at hb1 hb2 HC5
            rw [hy] at HC5
            clear hx hy
            go_wp2_with fail
            refine (HC5.out _ HS3.out).mono ?_
            rintro e w5 ⟨rfl, hb5⟩
            have HB5 := Lib.hid (HB3.out.trans (hb5.mono HB3.out.size))
            have hbx := box_below w5 #[.int .i64 x.tick, .int .i64 x.val] 123
            have HB6 := Lib.hid (HB5.out.trans (hbx.mono HB5.out.size))
            have HX6 := Lib.hid (cells_new w5 #[.int .i64 x.tick, .int .i64 x.val] 123)
            have HP6 := Lib.hid ((HP3.out.kept hb5).kept hbx)
            have HR6 := Lib.hid ((HR3.out.kept hb5).kept hbx)
            clear hb5 hbx p0 p1 p2 p3 c5 HP3 HR3
            obtain ⟨p0, p1, p2, p3⟩ := cells4 HP6.out
            obtain ⟨r0, r1, r2⟩ := cells3 HR6.out
            cases y
            · have HN := Lib.hid (HVY.out 2 (core2 HK5.out (.inl HY.out)))
              go_wp2
              go_ret
              exact ⟨ret1I HN.out.symm, HB6.out⟩
            · cases c6 : decide (x.tick + r.fr < now)
              · have HK6 : Hid (decide ((lastV (ls.map Sv.s) p.nm m).tick + r.fr < now) = false) := by rw [HX.out]; exact Lib.hid c6
                cases c7 : p.rdy
                · have HN := Lib.hid (HVY.out 1 (core1 HK5.out HY.out HK6.out (.inl c7)))
                  rw [c7] at p3
                  go_wp2
                  go_ret
                  exact ⟨ret1I HN.out.symm, HB6.out⟩
                · have HK7 := Lib.hid c7
                  rw [c7] at p3
                  clear c7
                  cases c8 : decide (now < p.born + r.dl)
                  · have HN := Lib.hid (HVY.out 0 (core0 HK5.out HY.out HK6.out HK7.out c8))
                    go_wp2
                    go_ret
                    exact ⟨ret1I HN.out.symm, HB6.out⟩
                  · have HN := Lib.hid (HVY.out 1 (core1 HK5.out HY.out HK6.out (.inr c8)))
                    go_wp2
                    go_ret
                    exact ⟨ret1I HN.out.symm, HB6.out⟩
              · have HN := Lib.hid (HVY.out 2 (core2 HK5.out (.inr (by rw [HX.out]; exact c6))))
                go_wp2
                go_ret
                exact ⟨ret1I HN.out.symm, HB6.out⟩
          · have HN := Lib.hid (HVY.out 3 (core3 c5))
            go_wp2
            go_ret
            exact ⟨ret1I HN.out.symm, HB3.out⟩
end Go.Proofs.YtgmdfkmmbcpikaaGreat.Cls

/- ClassOf: the program's view, its classes (values of an interface type), the whole. -/
namespace Go.Proofs.YtgmdfkmmbcpikaaGreat.ClsI
open Go.RowKit Go.Sort
open Go.Proofs.YtgmdfkmmbcpikaaGreat.C1
open Go.Proofs.YtgmdfkmmbcpikaaGreat.C2
open Go.Proofs.YtgmdfkmmbcpikaaGreat.Smps
open Go.Proofs.YtgmdfkmmbcpikaaGreat.Mem
open Go.Proofs.YtgmdfkmmbcpikaaGreat.Ser
open Go.Proofs.YtgmdfkmmbcpikaaGreat.Ser2
open Go.Proofs.YtgmdfkmmbcpikaaGreat.Key
open Go.Proofs.YtgmdfkmmbcpikaaGreat.Sto
open Go.Proofs.YtgmdfkmmbcpikaaGreat.StoL
open Go.Proofs.YtgmdfkmmbcpikaaGreat.Find
open Go.Proofs.YtgmdfkmmbcpikaaGreat.Lat
open Go.Proofs.YtgmdfkmmbcpikaaGreat.Pd
open Go.Proofs.YtgmdfkmmbcpikaaGreat.Cls
set_option linter.unusedVariables false

theorem cells6 {w : World} {g : Nat} {a b c d e f : Value} (h : CellsW w g [a, b, c, d, e, f]) : w.cell? ⟨g, 0, none⟩ = some a ∧ w.cell? ⟨g, 1, none⟩ = some b ∧ w.cell? ⟨g, 2, none⟩ = some c ∧ w.cell? ⟨g, 3, none⟩ = some d ∧ w.cell? ⟨g, 4, none⟩ = some e ∧ w.cell? ⟨g, 5, none⟩ = some f :=
  ⟨(h.2 0 (by simp)).1, (h.2 1 (by simp)).1, (h.2 2 (by simp)).1, (h.2 3 (by simp)).1, (h.2 4 (by simp)).1, (h.2 5 (by simp)).1⟩
def classI (c : Nat) (u : Int) : Value :=
  if c = 3 then .iface 278 (.agg #[]) else if c = 2 then .iface 264 (.agg #[]) else if c = 1 then .iface 263 (.agg #[]) else .iface 261 (.agg #[.int .i64 u])
set_option maxHeartbeats 1000000 in
set_option maxRecDepth 20000 in
theorem view_ok (ls : List Sv) (a : Option Addr) (cap : Nat) (m : ByteArray) (now : Int) (r : Rl) (w : World) (hwf : ∀ l ∈ ls, l.s.wf) (hpl : ∀ l ∈ ls, l.s.pts.length ≤ 1048576) (h : Srs w a ls) (hm : ls.length ≤ 1048576) :
    Calls Tryz.prog 167 #[.agg #[.slice a ls.length cap, .string m, .int .i64 now, .int .i64 r.dl, .int .i64 r.fr, .int .i64 r.wi]] w fun e w' => e = .returned (.bool (viewV (ls.map Sv.s) now r)) ∧ Below w.heap.size w w' := by
  have HC2 : Hid (∀ w, Calls Tryz.prog 76 #[rlV r] w fun e w' => e = .returned (.bool (okR r)) ∧ Below w.heap.size w w') := fun w => impl_rules r w
  have HC4 : Hid (∀ w, Srs w a ls → Calls Tryz.prog 40 #[.slice a ls.length cap] w fun e w' => e = .returned (.bool (storeV (ls.map Sv.s))) ∧ Below w.heap.size w w') := fun w h => impl_store2 ls ls rfl a cap w hwf hpl h hm
  have HS := Lib.hid h
  unfold rlV at HC2
  obtain ⟨c, hc⟩ : ∃ c, viewV (ls.map Sv.s) now r = c := ⟨_, rfl⟩
  have HV := Lib.hid hc
  rw [hc]
  clear hc hwf hpl h
  have HA := Lib.hid (cells_new w #[.slice a ls.length cap, .string m, .int .i64 now, .int .i64 r.dl, .int .i64 r.fr, .int .i64 r.wi] 216)
  have H0 := Lib.hid (box_below w #[.slice a ls.length cap, .string m, .int .i64 now, .int .i64 r.dl, .int .i64 r.fr, .int .i64 r.wi] 216)
  go_enter Tryz.func167, Tryz.ntmps167
  go_wp2_with fail
  cases c2 : okR r
  · rw [c2] at HC2
    have HN : Hid (c = false) := by rw [← HV.out]; unfold viewV; rw [c2]; exact Lib.hid rfl
    clear c2
    refine (HC2.out _).mono ?_
    rintro e w2 ⟨rfl, hb2⟩
    have HB2 := Lib.hid (H0.out.trans (hb2.mono H0.out.size))
    clear hb2
    go_wp2
    go_ret
    exact ⟨ret1B HN.out.symm, HB2.out⟩
  · rw [c2] at HC2
    have HK2 := Lib.hid c2
    clear c2
    refine (HC2.out _).mono ?_
    rintro e w2 ⟨rfl, hb2⟩
    have HB2 := Lib.hid (H0.out.trans (hb2.mono H0.out.size))
    have HA2 := Lib.hid (HA.out.kept hb2)
    have HS2 := Lib.hid (HS.out.kept HB2.out)
    clear hb2
    obtain ⟨q0, q1, q2, -, -, -⟩ := cells6 HA2.out
    go_wp2_with fail
    cases c3 : sizeV now
    · have HN : Hid (c = false) := by rw [← HV.out]; unfold viewV; rw [c3, HK2.out]; exact Lib.hid rfl
      refine (impl_tick _ _).mono ?_
      rw [c3]
      clear c3
      rintro e w' ⟨rfl, rfl⟩
      go_wp2
      go_ret
      exact ⟨ret1B HN.out.symm, HB2.out⟩
    · have HN : Hid (c = storeV (ls.map Sv.s)) := by rw [← HV.out]; unfold viewV; rw [c3, HK2.out]; exact Lib.hid rfl
      refine (impl_tick _ _).mono ?_
      rw [c3]
      clear c3
      rintro e w' ⟨rfl, rfl⟩
      go_wp2_with fail
      refine (HC4.out _ HS2.out).mono ?_
      rintro e w3 ⟨rfl, hb3⟩
      have HB3 := Lib.hid (HB2.out.trans (hb3.mono HB2.out.size))
      clear hb3
      go_wp2
      go_ret
      exact ⟨ret1B HN.out.symm, HB3.out⟩
set_option maxHeartbeats 4000000 in
set_option maxRecDepth 20000 in
theorem class_of (p : Pd) (ls : List Sv) (a : Option Addr) (cap : Nat) (m : ByteArray) (now : Int) (r : Rl) (w : World) (hwf : ∀ l ∈ ls, l.s.wf) (hpl : ∀ l ∈ ls, l.s.pts.length ≤ 1048576) (h : Srs w a ls) (hm : ls.length ≤ 1048576) (hp : okP p = true) (hr : okR r = true) (hn : sizeV now = true) :
    Calls Tryz.prog 197 #[.agg #[.slice a ls.length cap, .string m, .int .i64 now, .int .i64 r.dl, .int .i64 r.fr, .int .i64 r.wi], podV p] w fun e w' => e = .returned (classI (coreV p (ls.map Sv.s) m now r) (lastV (ls.map Sv.s) p.nm m).val) ∧ Below w.heap.size w w' := by
  have HC5 : Hid (∀ w, Srs w a ls → Calls Tryz.prog 215 #[.slice a ls.length cap, .string p.nm, .string m] w fun e w' => e = .returned (.tuple #[ptV (lastV (ls.map Sv.s) p.nm m), .bool (lastB (ls.map Sv.s) p.nm m)]) ∧ Below w.heap.size w w') := fun w h => impl_latest ls a cap p.nm m w hwf hpl h hm
  obtain ⟨hb1, hb2, -, -⟩ := last_bd (ls.map Sv.s) p.nm m
  obtain ⟨f1, f2, f3, f4⟩ := phOk hp
  obtain ⟨g1, g2, g3, g4, -, -⟩ := rlOk hr
  obtain ⟨t1, t2⟩ := sizeOk hn
  have HS := Lib.hid h
  unfold ptV at HC5
  unfold podV
  obtain ⟨c, hc⟩ : ∃ c, coreV p (ls.map Sv.s) m now r = c := ⟨_, rfl⟩
  obtain ⟨x, hx⟩ : ∃ x, lastV (ls.map Sv.s) p.nm m = x := ⟨_, rfl⟩
  obtain ⟨y, hy⟩ : ∃ y, lastB (ls.map Sv.s) p.nm m = y := ⟨_, rfl⟩
  have HV := Lib.hid hc
  have HX := Lib.hid hx
  have HY := Lib.hid hy
  rw [hx] at hb1 hb2 HC5
  rw [hy] at HC5
  rw [hc, hx]
  clear hx hy hc hp hr hn hwf hpl h
  obtain ⟨hA, hB⟩ := box2_cells w #[.slice a ls.length cap, .string m, .int .i64 now, .int .i64 r.dl, .int .i64 r.fr, .int .i64 r.wi] #[.string p.nm, .int .i64 p.born, .int .i64 p.ph, .bool p.rdy] 216 115
  have HA := Lib.hid hA
  have HB := Lib.hid hB
  have H0 := Lib.hid (box2_below w (.cells #[.slice a ls.length cap, .string m, .int .i64 now, .int .i64 r.dl, .int .i64 r.fr, .int .i64 r.wi] 216) (.cells #[.string p.nm, .int .i64 p.born, .int .i64 p.ph, .bool p.rdy] 115))
  clear hA hB
  cases c5 : p.ph != 0
  · have HK5 := Lib.hid c5
    have HS1 := Lib.hid (HS.out.kept H0.out)
    go_enter Tryz.func197, Tryz.ntmps197
    go_wp2_with fail
    refine (HC5.out _ HS1.out).mono ?_
    rintro e w5 ⟨rfl, hb5⟩
    have HB5 := Lib.hid (H0.out.trans (hb5.mono H0.out.size))
    have hbx := box_below w5 #[.int .i64 x.tick, .int .i64 x.val] 123
    have HB6 := Lib.hid (HB5.out.trans (hbx.mono HB5.out.size))
    have HX6 := Lib.hid (cells_new w5 #[.int .i64 x.tick, .int .i64 x.val] 123)
    have HP6 := Lib.hid ((HB.out.kept hb5).kept hbx)
    have HR6 := Lib.hid ((HA.out.kept hb5).kept hbx)
    clear hb5 hbx c5
    obtain ⟨p0, p1, p2, p3⟩ := cells4 HP6.out
    obtain ⟨r0, r1, r2, r3, r4, r5⟩ := cells6 HR6.out
    cases y
    · have HN : Hid (c = 2) := by rw [← HV.out, core2 HK5.out (.inl HY.out)]; exact Lib.hid rfl
      go_wp2
      go_ret
      exact ⟨by rw [HN.out]; rfl, HB6.out⟩
    · cases c6 : decide (x.tick + r.fr < now)
      · have HK6 : Hid (decide ((lastV (ls.map Sv.s) p.nm m).tick + r.fr < now) = false) := by rw [HX.out]; exact Lib.hid c6
        cases c7 : p.rdy
        · have HN : Hid (c = 1) := by rw [← HV.out, core1 HK5.out HY.out HK6.out (.inl c7)]; exact Lib.hid rfl
          rw [c7] at p3
          go_wp2
          go_ret
          exact ⟨by rw [HN.out]; rfl, HB6.out⟩
        · have HK7 := Lib.hid c7
          rw [c7] at p3
          clear c7
          cases c8 : decide (now < p.born + r.dl)
          · have HN : Hid (c = 0) := by rw [← HV.out, core0 HK5.out HY.out HK6.out HK7.out c8]; exact Lib.hid rfl
            go_wp2
            go_ret
            exact ⟨by rw [HN.out]; rfl, HB6.out⟩
          · have HN : Hid (c = 1) := by rw [← HV.out, core1 HK5.out HY.out HK6.out (.inr c8)]; exact Lib.hid rfl
            go_wp2
            go_ret
            exact ⟨by rw [HN.out]; rfl, HB6.out⟩
      · have HN : Hid (c = 2) := by rw [← HV.out, core2 HK5.out (.inr (by rw [HX.out]; exact c6))]; exact Lib.hid rfl
        go_wp2
        go_ret
        exact ⟨by rw [HN.out]; rfl, HB6.out⟩
  · have HN : Hid (c = 3) := by rw [← HV.out, core3 c5]; exact Lib.hid rfl
    go_enter Tryz.func197, Tryz.ntmps197
    go_wp2
    go_ret
    exact ⟨by rw [HN.out]; rfl, H0.out⟩
theorem box3_cells (w : World) (A B C : Array Value) (t t' t'' : TypeId) : CellsW (((w.alloc (.cells A t)).alloc (.cells B t')).alloc (.cells C t'')) w.heap.size A.toList ∧ CellsW (((w.alloc (.cells A t)).alloc (.cells B t')).alloc (.cells C t'')) (w.heap.size + 1) B.toList ∧ CellsW (((w.alloc (.cells A t)).alloc (.cells B t')).alloc (.cells C t'')) (w.heap.size + 2) C.toList := by
  obtain ⟨h1, h2⟩ := box2_cells w A B t t'
  have h := cells_new ((w.alloc (.cells A t)).alloc (.cells B t')) C t''
  have e : ((w.alloc (.cells A t)).alloc (.cells B t')).heap.size = w.heap.size + 2 := by simp
  rw [e] at h
  exact ⟨h1.kept (box_below _ _ _), h2.kept (box_below _ _ _), h⟩
theorem core_lt (p : Pd) (xs : List Ser) (m : ByteArray) (now : Int) (r : Rl) : coreV p xs m now r ≤ 3 := by
  unfold coreV
  split
  · omega
  · split
    · omega
    · split <;> omega
/-! ### At a copy of the list. -/
theorem spec_class2 (ls ms : List Sv) (hs : ms.map Sv.s = ls.map Sv.s) (p : Pd) (hp : p.wf) (a : Option Addr) (cap : Nat) (m : ByteArray) (now : Int) (r : Rl) (w : World) (hwf : ∀ l ∈ ls, l.s.wf) (hpl : ∀ l ∈ ls, l.s.pts.length ≤ 1048576) (h : Srs w a ms) (hm : ls.length ≤ 1048576) {c : Int} (hc : classV p (ls.map Sv.s) m now r = c) :
    Calls Tryz.prog 161 #[podV p, .slice a ls.length cap, .string m, .int .i64 now, rlV r] w fun e w' => e = .returned (.int .i64 c) ∧ Below w.heap.size w w' := by
  have hl := map_len hs
  have := spec_class p hp ms a cap m now r w (map_all hs hwf) (map_all (P := fun s => s.pts.length ≤ 1048576) hs hpl) h (by omega)
  rw [hl, hs, hc] at this
  exact this
end Go.Proofs.YtgmdfkmmbcpikaaGreat.ClsI

/- CountClass: the model's and the program's. -/
namespace Go.Proofs.YtgmdfkmmbcpikaaGreat.Cc
open Go.RowKit Go.Deep
open Go.Proofs.YtgmdfkmmbcpikaaGreat.C1 Go.Proofs.YtgmdfkmmbcpikaaGreat.Ints Go.Proofs.YtgmdfkmmbcpikaaGreat.C1L
set_option linter.unusedVariables false

def ctn (xs : List Int) (c : Int) : Nat := xs.countP (fun x => x == c)
theorem ctn_next (xs : List Int) (k : Nat) (h : k < xs.length) (c : Int) : ctn (xs.take (k + 1)) c = ctn (xs.take k) c + (if xs[k] == c then 1 else 0) := by
  unfold ctn
  rw [List.take_succ_eq_append_getElem h, List.countP_append, List.countP_singleton]
theorem ctn_le (xs : List Int) (k : Nat) (c : Int) : ctn (xs.take k) c ≤ k := by
  unfold ctn
  exact Nat.le_trans List.countP_le_length (by rw [List.length_take]; omega)
theorem spec_countclass (xs : List Int) (c : Int) (a : Option Addr) (cap : Nat) (w : World) (h : Ints w a xs) (hm : xs.length ≤ 35184372088832) :
    Calls Tryz.prog 132 #[.slice a xs.length cap, .int .i64 c] w fun e w' => e = .returned (.int .i64 (ctn xs c)) ∧ w = w' := by
  obtain ⟨b, off, hc⟩ := Ints.cells h
  go_enter Tryz.func132, Tryz.ntmps132
  go_wp2
  go_loop [5, 6] (fun v i => ∃ k n : Nat, k ≤ xs.length ∧ i = .int .i64 k ∧ v = .int .i64 n ∧ n ≤ k ∧ Hid (n = ctn (xs.take k) c)) (fun _ i => xs.length - (intOf i).toNat)
  case atStart => exact ⟨0, 0, Nat.zero_le _, rfl, rfl, Nat.le_refl _, rfl⟩
  case round =>
    obtain ⟨k, n, hk, rfl, rfl, hn, HN⟩ := hrel
    by_cases hlt : k < xs.length
    · obtain rfl := hc.1 (by omega)
      have hx := hc.2 k hlt
      have hnx := ctn_next xs k hlt c
      rw [← HN.out] at hnx
      have HC := Lib.hid hc
      clear hc HN
      cases he : xs[k] == c
      · rw [he] at hnx
        have HX := Lib.hid hnx.symm
        clear hnx
        go_wp2
        go_round
        case rel => exact ⟨k + 1, n, by omega, by go_num, rfl, by omega, HX.out⟩
        case measure => simp [intOf]; omega
      · rw [he] at hnx
        have HX := Lib.hid hnx.symm
        clear hnx
        go_wp2
        go_round
        case rel => exact ⟨k + 1, n + 1, by omega, by go_num, by go_num, by omega, HX.out⟩
        case measure => simp [intOf]; omega
    · obtain rfl : k = xs.length := by omega
      have HF : Hid (ctn xs c = n) := by show _ = _; rw [HN.out, List.take_of_length_le (Nat.le_refl _)]
      clear HN
      go_wp2
      go_ret
      exact ⟨ret1I (by rw [HF.out]), rfl⟩
end Go.Proofs.YtgmdfkmmbcpikaaGreat.Cc

/- ClassesOf: both sides. -/
namespace Go.Proofs.YtgmdfkmmbcpikaaGreat.Clss
open Go.RowKit Go.Sort
open Go.Proofs.YtgmdfkmmbcpikaaGreat.C1
open Go.Proofs.YtgmdfkmmbcpikaaGreat.C2
open Go.Proofs.YtgmdfkmmbcpikaaGreat.Smps
open Go.Proofs.YtgmdfkmmbcpikaaGreat.Mem
open Go.Proofs.YtgmdfkmmbcpikaaGreat.Ser
open Go.Proofs.YtgmdfkmmbcpikaaGreat.Ser2
open Go.Proofs.YtgmdfkmmbcpikaaGreat.Key
open Go.Proofs.YtgmdfkmmbcpikaaGreat.Sto
open Go.Proofs.YtgmdfkmmbcpikaaGreat.StoL
open Go.Proofs.YtgmdfkmmbcpikaaGreat.Lat
open Go.Proofs.YtgmdfkmmbcpikaaGreat.Pd
open Go.Proofs.YtgmdfkmmbcpikaaGreat.Pds
open Go.Proofs.YtgmdfkmmbcpikaaGreat.Ros
open Go.Proofs.YtgmdfkmmbcpikaaGreat.Pok
open Go.Proofs.YtgmdfkmmbcpikaaGreat.PokI
open Go.Proofs.YtgmdfkmmbcpikaaGreat.Cls
open Go.Proofs.YtgmdfkmmbcpikaaGreat.ClsI
open Go.Proofs.YtgmdfkmmbcpikaaGreat.OwnI
set_option linter.unusedVariables false

def coreI (xs : List Ser) (m : ByteArray) (now : Int) (r : Rl) (p : Pd) : Int := (coreV p xs m now r : Int)
noncomputable def classesV (ls : List Pd) (xs : List Ser) (m : ByteArray) (now : Int) (r : Rl) : List Int := if (podsV ls && viewV xs now r) = true then ls.map (coreI xs m now r) else []
theorem classes_no {ls : List Pd} {xs : List Ser} {m : ByteArray} {now : Int} {r : Rl} (h : (podsV ls && viewV xs now r) = false) : classesV ls xs m now r = [] := by unfold classesV; rw [if_neg (by rw [h]; exact Bool.false_ne_true)]
theorem classes_yes {ls : List Pd} {xs : List Ser} {m : ByteArray} {now : Int} {r : Rl} (h1 : podsV ls = true) (h2 : viewV xs now r = true) : classesV ls xs m now r = ls.map (coreI xs m now r) := by unfold classesV; rw [if_pos (by rw [h1, h2]; rfl)]
theorem map_next {ls : List Pd} (f : Pd → Int) (k : Nat) (h : k < ls.length) {p : Pd} (hp : ls[k] = p) : (ls.take (k + 1)).map f = (ls.take k).map f ++ [f p] := by
  rw [List.take_succ_eq_append_getElem h, List.map_append, hp]
  rfl
theorem class_view {p : Pd} {xs : List Ser} {m : ByteArray} {now : Int} {r : Rl} (h : okP p = true) : classV p xs m now r = if viewV xs now r = true then coreI xs m now r p else -1 := by
  unfold classV coreI; rw [h]; rfl
theorem bsz {B : Nat} {W0 W : World} (e : Hid (W0.heap.size = B)) (h : Below B W0 W) : B ≤ W.heap.size := by rw [← e.out]; exact h.size
set_option maxHeartbeats 4000000 in
set_option maxRecDepth 20000 in
theorem spec_classes (ls : List Pd) (hwp : ∀ p ∈ ls, p.wf) (ap : Option Addr) (capp : Nat) (ss : List Sv) (a : Option Addr) (cap : Nat) (m : ByteArray) (now : Int) (r : Rl) (w : World) (hp : Pds w ap ls) (hmp : ls.length ≤ 1048576) (hwf : ∀ l ∈ ss, l.s.wf) (hpl : ∀ l ∈ ss, l.s.pts.length ≤ 1048576) (h : Srs w a ss) (hm : ss.length ≤ 1048576) :
    Calls Tryz.prog 131 #[.slice ap ls.length capp, .slice a ss.length cap, .string m, .int .i64 now, rlV r] w fun e w' => (∃ v, e = .returned v ∧ OwnI w' w.heap.size v (classesV ls (ss.map Sv.s) m now r)) ∧ Below w.heap.size w w' := by
  have HCP : Hid (∀ w, Pds w ap ls → Calls Tryz.prog 27 #[.slice ap ls.length capp] w fun e w' => e = .returned (.bool (podsV ls)) ∧ Below w.heap.size w w') := fun w h => spec_podsok ls hwp ap capp w h hmp
  have HCC : Hid (∀ (p : Pd), p ∈ ls → ∀ w, Srs w a ss → Calls Tryz.prog 161 #[podV p, .slice a ss.length cap, .string m, .int .i64 now, rlV r] w fun e w' => e = .returned (.int .i64 (classV p (ss.map Sv.s) m now r)) ∧ Below w.heap.size w w') := fun p hpm w h => spec_class p (hwp p hpm) ss a cap m now r w hwf hpl h hm
  obtain ⟨b, off, ha, hb, hcell⟩ := hp.cells
  have Hc := Lib.hid hcell
  have Ha := Lib.hid ha
  have Hb := Lib.hid hb
  have HP := Lib.hid hp
  have HS := Lib.hid h
  clear hcell ha hb hp h hwf hpl hwp
  obtain ⟨cs, hcs⟩ : ∃ cs, classesV ls (ss.map Sv.s) m now r = cs := ⟨_, rfl⟩
  have HV := Lib.hid hcs
  rw [hcs]
  clear hcs
  unfold rlV at HCC
  unfold rlV
  have HR := Lib.hid (cells_new w #[.int .i64 r.dl, .int .i64 r.fr, .int .i64 r.wi] 40)
  have H0 := Lib.hid (box_below w #[.int .i64 r.dl, .int .i64 r.fr, .int .i64 r.wi] 40)
  obtain ⟨W0, hW0⟩ : ∃ W0, w.alloc (.cells #[.int .i64 r.dl, .int .i64 r.fr, .int .i64 r.wi] 40) = W0 := ⟨_, rfl⟩
  have HE : Hid (W0.heap.size = w.heap.size + 1) := by rw [← hW0]; exact Lib.hid (by simp)
  have hN := OwnI.new W0 (B := w.heap.size + 1) (by rw [HE.out]; exact Nat.le_refl _)
  have hbx := box_below W0 #[] 3
  rw [HE.out] at hN hbx
  rw [hW0] at HR H0
  have HN0 := Lib.hid hN
  have H1 := Lib.hid hbx
  have HP1 := Lib.hid ((HP.out.kept H0.out).kept (by rw [HE.out]; exact hbx))
  have HS1 := Lib.hid (HS.out.kept H0.out)
  have HWE := Lib.hid hW0
  clear hN hbx hW0
  cases c1 : podsV ls
  · rw [c1] at HCP
    have HN : Hid (cs = []) := by rw [← HV.out, classes_no (by rw [c1]; rfl)]; exact Lib.hid rfl
    clear c1
    go_enter Tryz.func131, Tryz.ntmps131
    go_wp2_with fail
    rw [HWE.out]
    refine (HCP.out _ HP1.out).mono ?_
    rintro e w1 ⟨rfl, hb1⟩
    have HB1 := Lib.hid (H0.out.trans ((H1.out.trans (hb1.mono (bsz HE H1.out))).mono (Nat.le_succ _)))
    clear hb1
    go_wp2
    go_ret
    exact ⟨⟨_, rfl, by rw [HN.out]; exact OwnI.nil _ _⟩, HB1.out⟩
  · rw [c1] at HCP
    have HOK := Lib.hid ((podsV_iff ls).1 c1).2.1
    have hl12 := ((podsV_iff ls).1 c1).1
    have HK1 := Lib.hid c1
    clear c1
    go_enter Tryz.func131, Tryz.ntmps131
    go_wp2_with fail
    rw [HWE.out]
    refine (HCP.out _ HP1.out).mono ?_
    rintro e w1 ⟨rfl, hb1⟩
    have HB1 := Lib.hid (H1.out.trans (hb1.mono (bsz HE H1.out)))
    have HN2 := Lib.hid (HN0.out.kept hb1)
    clear hb1 HN0 HP1 H1
    go_wp2
    obtain ⟨vv, hvv⟩ : ∃ vv, viewV (ss.map Sv.s) now r = vv := ⟨_, rfl⟩
    have HVV := Lib.hid hvv
    clear hvv
    obtain ⟨i0, hi, hz0, hz1, hz2⟩ := info_int
    go_loopw [11, 12] (fun v i wr => ∃ k : Nat, k ≤ ls.length ∧ i = .int .i64 k ∧ (k = 0 ∨ vv = true) ∧ Hid (OwnI wr (w.heap.size + 1) v ((ls.take k).map (coreI (ss.map Sv.s) m now r))) ∧ Hid (Below (w.heap.size + 1) W0 wr)) (fun _ i _ => ls.length - (intOf i).toNat)
    case atStart => exact ⟨0, Nat.zero_le _, rfl, .inl rfl, HN2, HB1.out⟩
    case round =>
      obtain ⟨k, hk, rfl, hkv, HO, HB⟩ := hrel
      by_cases hlt : k < ls.length
      · obtain ⟨p, hp⟩ : ∃ p, ls[k] = p := ⟨_, rfl⟩
        have hpm : p ∈ ls := by rw [← hp]; exact List.getElem_mem hlt
        have hq := (Hc.out k hlt).kept H0.out (Hb.out (by omega))
        have hbl := Hb.out (by omega)
        obtain rfl := Ha.out (by omega)
        rw [hp] at hq
        have HC1 := Lib.hid (HCC.out p hpm)
        have HMN := Lib.hid (map_next (coreI (ss.map Sv.s) m now r) k hlt hp)
        obtain ⟨ci, hci⟩ : ∃ ci, classV p (ss.map Sv.s) m now r = ci := ⟨_, rfl⟩
        have HCL : Hid (ci = if vv = true then coreI (ss.map Sv.s) m now r p else -1) := by rw [← HVV.out, ← hci]; exact Lib.hid (class_view (HOK.out p hpm))
        unfold podV at HC1
        rw [hci] at HC1
        clear hp hpm hci
        have HT : Hid (∀ W, Hid (Below (w.heap.size + 1) W0 W) → (W.cell? ⟨b, off + k * 4, none⟩ = some (.string p.nm) ∧ W.cell? ⟨b, off + k * 4 + 1, none⟩ = some (.int .i64 p.born) ∧ W.cell? ⟨b, off + k * 4 + 2, none⟩ = some (.int .i64 p.ph) ∧ W.cell? ⟨b, off + k * 4 + 3, none⟩ = some (.bool p.rdy) ∧ W.cell? ⟨w.heap.size, 0, none⟩ = some (.int .i64 r.dl) ∧ W.cell? ⟨w.heap.size, 1, none⟩ = some (.int .i64 r.fr) ∧ W.cell? ⟨w.heap.size, 2, none⟩ = some (.int .i64 r.wi))) := fun W hW => by
          obtain ⟨p0, p1, p2, p3⟩ := hq.kept hW.out (by omega)
          obtain ⟨r0, r1, r2⟩ := cells3 (HR.out.kept (by rw [HE.out]; exact hW.out))
          exact ⟨p0, p1, p2, p3, r0, r1, r2⟩
        have HBD : Hid (Below (w.heap.size + 1) W0 wr.drew) := HB.out.drew
        have HBS : Hid (Srs wr.drew a ss) := HS1.out.kept (by rw [HE.out]; exact HBD.out)
        have HOD : Hid (OwnI wr.drew (w.heap.size + 1) _ ((ls.take k).map (coreI (ss.map Sv.s) m now r))) := HO
        clear hq
        have hlk : ((ls.take k).map (coreI (ss.map Sv.s) m now r)).length ≤ 12 := by rw [List.length_map, List.length_take]; omega
        have HLK := Lib.hid hlk
        clear hlk HO
        obtain ⟨q0, q1, q2, q3, -, -, -⟩ := HT.out wr HB
        clear q0 q1 q2 q3
        go_wp2_with fail
        go_region_held3 (fun w' => w'.cell? ⟨b, off + k * 4, none⟩ = some (.string p.nm) ∧ w'.cell? ⟨b, off + k * 4 + 1, none⟩ = some (.int .i64 p.born) ∧ w'.cell? ⟨b, off + k * 4 + 2, none⟩ = some (.int .i64 p.ph) ∧ w'.cell? ⟨b, off + k * 4 + 3, none⟩ = some (.bool p.rdy) ∧ w'.cell? ⟨w.heap.size, 0, none⟩ = some (.int .i64 r.dl) ∧ w'.cell? ⟨w.heap.size, 1, none⟩ = some (.int .i64 r.fr) ∧ w'.cell? ⟨w.heap.size, 2, none⟩ = some (.int .i64 r.wi))
          (first | exact HT.out _ HV1 | exact HT.out _ HBD)
          (first
            | (go_at_call 161; refine (HC1.out _ HBS.out).mono ?_; rintro e v1 ⟨rfl, hb⟩; have HO1 := Lib.hid (HOD.out.kept hb); have HV1 := Lib.hid (HBD.out.trans (hb.mono (bsz HE HBD.out))); clear hb))
        clear HC1 HBD HBS HOD
        cases vv
        · obtain rfl : k = 0 := by rcases hkv with h | h; exact h; cases h
          have HN : Hid (cs = []) := by rw [← HV.out, classes_no (by rw [HVV.out, HK1.out]; rfl)]; exact Lib.hid rfl
          have hc0 : ci = -1 := by rw [HCL.out]; rfl
          subst hc0
          have HVB := Lib.hid (H0.out.trans (HV1.out.mono (Nat.le_succ _)))
          go_wp2
          go_ret
          exact ⟨⟨_, rfl, by rw [HN.out]; exact OwnI.nil _ _⟩, HVB.out⟩
        · obtain ⟨q, hq, hq0⟩ : ∃ q : Nat, coreI (ss.map Sv.s) m now r p = (q : Int) ∧ q ≤ 3 := ⟨_, rfl, core_lt _ _ _ _ _⟩
          obtain ⟨ys, hys⟩ : ∃ ys, (ls.take k).map (coreI (ss.map Sv.s) m now r) = ys := ⟨_, rfl⟩
          have hc0 : ci = (q : Int) := by rw [HCL.out, ← hq]; rfl
          rw [hys, hq] at HMN
          rw [hys] at HO1 HLK
          subst hc0
          clear hys hq HCL
          have hyl := HLK.out
          have HSX := Lib.hid (HV1.out.alloc (bsz HE HV1.out) (.cells #[.int .i64 (q : Int)] 3))
          have HSE := Lib.hid (bsz HE HSX.out)
          go_wp2_with (at_builtin; refine wpList_append_own _ rfl _ _ 58 rfl (w.heap.size + 1) 3 i0 (.int .i64 0) 1 8 Tryz.underlying58 hi hz0 hz1 hz2 rfl (by decide) _ _ _ rfl (World.ownsRow.alloc HO1.out _) ⟨v1.heap.size, 0, none⟩ 1 1 [.int .i64 (q : Int)] rfl rfl (one_cell _ _ _) (by intro u hu; simp at hu; subst hu; rfl) (by unfold maxLen; omega) (by omega) HSE.out ?_)
          intro v' w8 hown' hgrow _
          have HO8 := Lib.hid (OwnI.snoc hown')
          have HB8 := Lib.hid (HSX.out.grown hgrow HSE.out (fun g hg => (World.ownsRow.lt HO1.out g hg).1))
          clear hown' hgrow
          go_wp2
          go_roundw
          case rel => exact ⟨k + 1, by omega, by go_num, by simp, by rw [HMN.out]; exact HO8, HB8⟩
          case measure => simp [intOf]; omega
      · obtain rfl : k = ls.length := by omega
        have HF : Hid (cs = (ls.take ls.length).map (coreI (ss.map Sv.s) m now r)) := by
          rw [← HV.out, List.take_of_length_le (Nat.le_refl _)]
          rcases hkv with h | h
          · have e : ls = [] := List.length_eq_zero_iff.1 h
            subst e
            cases hb : viewV (ss.map Sv.s) now r
            · rw [classes_no (by rw [hb, Bool.and_false])]; exact Lib.hid rfl
            · rw [classes_yes HK1.out hb]; exact Lib.hid rfl
          · rw [classes_yes HK1.out (HVV.out.trans h)]; exact Lib.hid rfl
        have HBF := Lib.hid (H0.out.trans (HB.out.mono (Nat.le_succ _)))
        go_wp2
        go_ret
        exact ⟨⟨_, rfl, by rw [HF.out]; exact HO.out.mono (Nat.le_succ _)⟩, HBF.out⟩
/-! ### At a copy of the store. -/
theorem spec_classes2 (ls : List Pd) (hwp : ∀ p ∈ ls, p.wf) (ap : Option Addr) (capp : Nat) (ss ms : List Sv) (hs : ms.map Sv.s = ss.map Sv.s) (a : Option Addr) (cap : Nat) (m : ByteArray) (now : Int) (r : Rl) (w : World) (hp : Pds w ap ls) (hmp : ls.length ≤ 1048576) (hwf : ∀ l ∈ ss, l.s.wf) (hpl : ∀ l ∈ ss, l.s.pts.length ≤ 1048576) (h : Srs w a ms) (hm : ss.length ≤ 1048576) {cs : List Int} (hcs : classesV ls (ss.map Sv.s) m now r = cs) :
    Calls Tryz.prog 131 #[.slice ap ls.length capp, .slice a ss.length cap, .string m, .int .i64 now, rlV r] w fun e w' => (∃ a cap, e = .returned (.slice a cs.length cap) ∧ OwnI w' w.heap.size (.slice a cs.length cap) cs) ∧ Below w.heap.size w w' := by
  have hl := map_len hs
  have := spec_classes ls hwp ap capp ms a cap m now r w hp hmp (map_all hs hwf) (map_all (P := fun s => s.pts.length ≤ 1048576) hs hpl) h (by omega)
  rw [hl, hs, hcs] at this
  refine this.mono fun e w' ⟨⟨v, he, ho⟩, hb⟩ => ⟨?_, hb⟩
  obtain ⟨a, cap, hv, ho2, -⟩ := ho.form
  exact ⟨a, cap, by rw [he, hv], ho2⟩
end Go.Proofs.YtgmdfkmmbcpikaaGreat.Clss
