/- ClassOf: the model's. -/
import Derived.Test.YtihhbgihejjmeaaGreatLat
import Derived.Test.YtihhbgihejjmeaaGreatPd
namespace Go.Proofs.YtihhbgihejjmeaaGreat.Cls
open Go.RowKit Go.Sort
open Go.Proofs.YtihhbgihejjmeaaGreat.C1
open Go.Proofs.YtihhbgihejjmeaaGreat.C2
open Go.Proofs.YtihhbgihejjmeaaGreat.Smps
open Go.Proofs.YtihhbgihejjmeaaGreat.Mem
open Go.Proofs.YtihhbgihejjmeaaGreat.Ser
open Go.Proofs.YtihhbgihejjmeaaGreat.Ser2
open Go.Proofs.YtihhbgihejjmeaaGreat.Key
open Go.Proofs.YtihhbgihejjmeaaGreat.Sto
open Go.Proofs.YtihhbgihejjmeaaGreat.StoL
open Go.Proofs.YtihhbgihejjmeaaGreat.Find
open Go.Proofs.YtihhbgihejjmeaaGreat.Lat
open Go.Proofs.YtihhbgihejjmeaaGreat.Pd
set_option linter.unusedVariables false

/-- The class of a pod, all being valid. -/
def coreV (p : Pd) (xs : List Ser) (m : ByteArray) (now : Int) (r : Rl) : Nat :=
  if (p.ph != 0) = true then 3 else if lastB xs p.nm m = false ∨ decide ((lastV xs p.nm m).tick + r.fr < now) = true then 2 else if p.rdy = false ∨ decide (now < p.born + r.dl) = true then 1 else 0
def viewV (xs : List Ser) (now : Int) (r : Rl) : Bool := okR r && sizeV now && storeV xs
def classV (p : Pd) (xs : List Ser) (m : ByteArray) (now : Int) (r : Rl) : Int := if (okP p && viewV xs now r) = true then (coreV p xs m now r : Int) else -1
theorem core3 {p : Pd} {xs : List Ser} {m : ByteArray} {now : Int} {r : Rl} (h : (p.ph != 0) = true) : coreV p xs m now r = 3 := by unfold coreV; rw [if_pos h]
theorem core2 {p : Pd} {xs : List Ser} {m : ByteArray} {now : Int} {r : Rl} (h : (p.ph != 0) = false) (h2 : lastB xs p.nm m = false ∨ decide ((lastV xs p.nm m).tick + r.fr < now) = true) : coreV p xs m now r = 2 := by
  unfold coreV; rw [if_neg (by rw [h]; exact Bool.false_ne_true), if_pos h2]
theorem core1 {p : Pd} {xs : List Ser} {m : ByteArray} {now : Int} {r : Rl} (h : (p.ph != 0) = false) (h2 : lastB xs p.nm m = true) (h3 : decide ((lastV xs p.nm m).tick + r.fr < now) = false) (h4 : p.rdy = false ∨ decide (now < p.born + r.dl) = true) : coreV p xs m now r = 1 := by
  unfold coreV; rw [if_neg (by rw [h]; exact Bool.false_ne_true), if_neg (by rw [h2, h3]; simp), if_pos h4]
theorem core0 {p : Pd} {xs : List Ser} {m : ByteArray} {now : Int} {r : Rl} (h : (p.ph != 0) = false) (h2 : lastB xs p.nm m = true) (h3 : decide ((lastV xs p.nm m).tick + r.fr < now) = false) (h4 : p.rdy = true) (h5 : decide (now < p.born + r.dl) = false) : coreV p xs m now r = 0 := by
  unfold coreV; rw [if_neg (by rw [h]; exact Bool.false_ne_true), if_neg (by rw [h2, h3]; simp), if_neg (by rw [h4, h5]; simp)]
theorem class_no {p : Pd} {xs : List Ser} {m : ByteArray} {now : Int} {r : Rl} (h : (okP p && viewV xs now r) = false) : classV p xs m now r = -1 := by unfold classV; rw [if_neg (by rw [h]; exact Bool.false_ne_true)]
theorem class_yes {p : Pd} {xs : List Ser} {m : ByteArray} {now : Int} {r : Rl} (h1 : okP p = true) (h2 : okR r = true) (h3 : sizeV now = true) (h4 : storeV xs = true) {c : Nat} (h : coreV p xs m now r = c) : classV p xs m now r = (c : Int) := by
  unfold classV viewV; rw [h1, h2, h3, h4, h]; rfl
theorem last_bd (xs : List Ser) (p m : ByteArray) : 0 ≤ (lastV xs p m).tick ∧ (lastV xs p m).tick ≤ 1000000000 ∧ 0 ≤ (lastV xs p m).val ∧ (lastV xs p m).val ≤ 1000000000 := by
  cases hf : findV xs p m with
  | none => rw [(last_none hf).1]; exact ⟨Int.le_refl _, by decide, Int.le_refl _, by decide⟩
  | some s =>
    have hv : storeV xs = true := by
      unfold findV at hf
      cases hs : storeV xs
      · rw [hs] at hf; simp at hf
      · rfl
    have hok := (find_ok hf hv).pts
    have h1 := hok.one
    obtain ⟨n, hn⟩ : ∃ n, n + 1 = s.pts.length := ⟨s.pts.length - 1, by omega⟩
    rw [(last_some hf hn).1]
    have := hok.ok _ (List.getElem_mem (show n < s.pts.length by omega))
    unfold ptOk sizeV at this
    simp only [Bool.and_eq_true, decide_eq_true_eq] at this
    exact ⟨this.1.1, this.1.2, this.2.1, this.2.2⟩
theorem cells4 {w : World} {g : Nat} {a b c d : Value} (h : CellsW w g [a, b, c, d]) : w.cell? ⟨g, 0, none⟩ = some a ∧ w.cell? ⟨g, 1, none⟩ = some b ∧ w.cell? ⟨g, 2, none⟩ = some c ∧ w.cell? ⟨g, 3, none⟩ = some d :=
  ⟨(h.2 0 (by simp)).1, (h.2 1 (by simp)).1, (h.2 2 (by simp)).1, (h.2 3 (by simp)).1⟩
theorem cells3 {w : World} {g : Nat} {a b c : Value} (h : CellsW w g [a, b, c]) : w.cell? ⟨g, 0, none⟩ = some a ∧ w.cell? ⟨g, 1, none⟩ = some b ∧ w.cell? ⟨g, 2, none⟩ = some c :=
  ⟨(h.2 0 (by simp)).1, (h.2 1 (by simp)).1, (h.2 2 (by simp)).1⟩
theorem box2_cells (w : World) (A B : Array Value) (t t' : TypeId) : CellsW ((w.alloc (.cells A t)).alloc (.cells B t')) w.heap.size A.toList ∧ CellsW ((w.alloc (.cells A t)).alloc (.cells B t')) (w.heap.size + 1) B.toList := by
  refine ⟨(cells_new w A t).kept (box_below _ _ _), ?_⟩
  have h := cells_new (w.alloc (.cells A t)) B t'
  have e : (w.alloc (.cells A t)).heap.size = w.heap.size + 1 := by simp
  rw [e] at h
  exact h
theorem phOk {p : Pd} (h : okP p = true) : 0 ≤ p.born ∧ p.born ≤ 1000000000 ∧ 0 ≤ p.ph ∧ p.ph ≤ 2 := by
  unfold okP sizeV phV at h
  simp only [Bool.and_eq_true, decide_eq_true_eq] at h
  exact ⟨h.1.2.1, h.1.2.2, h.2.1, h.2.2⟩
theorem rlOk {r : Rl} (h : okR r = true) : 0 ≤ r.dl ∧ r.dl ≤ 1000 ∧ 0 ≤ r.fr ∧ r.fr ≤ 1000 ∧ 0 ≤ r.wi ∧ r.wi ≤ 1000 := by
  unfold okR ruleV at h
  simp only [Bool.and_eq_true, decide_eq_true_eq] at h
  exact ⟨h.1.1.1, h.1.1.2, h.1.2.1, h.1.2.2, h.2.1, h.2.2⟩
theorem sizeOk {x : Int} (h : sizeV x = true) : 0 ≤ x ∧ x ≤ 1000000000 := by unfold sizeV at h; exact of_decide_eq_true h
set_option maxHeartbeats 4000000 in
set_option maxRecDepth 20000 in
theorem spec_class (p : Pd) (hp : p.wf) (ls : List Sv) (a : Option Addr) (cap : Nat) (m : ByteArray) (now : Int) (r : Rl) (w : World) (hwf : ∀ l ∈ ls, l.s.wf) (hpl : ∀ l ∈ ls, l.s.pts.length ≤ 1048576) (h : Srs w a ls) (hm : ls.length ≤ 1048576) :
    Calls Tryz.prog 25 #[podV p, .slice a ls.length cap, .string m, .int .i64 now, rlV r] w fun e w' => e = .returned (.int .i64 (classV p (ls.map Sv.s) m now r)) ∧ Below w.heap.size w w' := by
  have HC1 : Hid (∀ w, Calls Tryz.prog 43 #[podV p] w fun e w' => e = .returned (.bool (okP p)) ∧ Below w.heap.size w w') := fun w => spec_podok p hp w
  have HC2 : Hid (∀ w, Calls Tryz.prog 45 #[rlV r] w fun e w' => e = .returned (.bool (okR r)) ∧ Below w.heap.size w w') := fun w => spec_rules r w
  have HC4 : Hid (∀ w, Srs w a ls → Calls Tryz.prog 47 #[.slice a ls.length cap] w fun e w' => e = .returned (.bool (storeV (ls.map Sv.s))) ∧ Below w.heap.size w w') := fun w h => spec_store2 ls ls rfl a cap w hwf h hm
  have HC5 : Hid (∀ w, Srs w a ls → Calls Tryz.prog 37 #[.slice a ls.length cap, .string p.nm, .string m] w fun e w' => e = .returned (.tuple #[ptV (lastV (ls.map Sv.s) p.nm m), .bool (lastB (ls.map Sv.s) p.nm m)]) ∧ Below w.heap.size w w') := fun w h => spec_latest ls a cap p.nm m w hwf hpl h hm
  obtain ⟨hb1, hb2, -, -⟩ := last_bd (ls.map Sv.s) p.nm m
  have HS := Lib.hid h
  unfold podV at HC1
  unfold rlV at HC2
  unfold ptV at HC5
  unfold podV rlV
  obtain ⟨c, hc⟩ : ∃ c, classV p (ls.map Sv.s) m now r = c := ⟨_, rfl⟩
  have HV := Lib.hid hc
  rw [hc]
  clear hc hp hwf hpl h
  obtain ⟨hA, hB⟩ := box2_cells w #[.string p.nm, .int .i64 p.born, .int .i64 p.ph, .bool p.rdy] #[.int .i64 r.dl, .int .i64 r.fr, .int .i64 r.wi] 57 34
  have HA := Lib.hid hA
  have HB := Lib.hid hB
  have H0 := Lib.hid (box2_below w (.cells #[.string p.nm, .int .i64 p.born, .int .i64 p.ph, .bool p.rdy] 57) (.cells #[.int .i64 r.dl, .int .i64 r.fr, .int .i64 r.wi] 34))
  clear hA hB
  cases c1 : okP p
  · rw [c1] at HC1
    have HN : Hid (c = -1) := by rw [← HV.out, class_no (by rw [c1]; rfl)]; exact Lib.hid rfl
    clear c1
    go_enter Tryz.func25, Tryz.ntmps25
    go_wp2_with (go_at_call 43; refine (HC1.out _).mono ?_; rintro e w1 ⟨rfl, hb1⟩; have HB1 := Lib.hid (H0.out.trans (hb1.mono H0.out.size)); clear hb1)
    go_ret
    exact ⟨ret1I HN.out.symm, HB1.out⟩
  · rw [c1] at HC1
    have HK1 := Lib.hid c1
    obtain ⟨f1, f2, f3, f4⟩ := phOk c1
    clear c1
    go_enter Tryz.func25, Tryz.ntmps25
    go_wp2_with fail
    refine (HC1.out _).mono ?_
    rintro e w1 ⟨rfl, hb1⟩
    have HB1 := Lib.hid (H0.out.trans (hb1.mono H0.out.size))
    have HP1 := Lib.hid (HA.out.kept hb1)
    have HR1 := Lib.hid (HB.out.kept hb1)
    clear hb1 HA HB
    obtain ⟨r0, r1, r2⟩ := cells3 HR1.out
    go_wp2_with fail
    cases c2 : okR r
    · rw [c2] at HC2
      have HN : Hid (c = -1) := by rw [← HV.out, class_no (by unfold viewV; rw [c2, HK1.out]; rfl)]; exact Lib.hid rfl
      clear c2
      refine (HC2.out _).mono ?_
      rintro e w2 ⟨rfl, hb2⟩
      have HB2 := Lib.hid (HB1.out.trans (hb2.mono HB1.out.size))
      clear hb2
      go_wp2
      go_ret
      exact ⟨ret1I HN.out.symm, HB2.out⟩
    · rw [c2] at HC2
      have HK2 := Lib.hid c2
      obtain ⟨g1, g2, g3, g4, -, -⟩ := rlOk c2
      clear c2
      refine (HC2.out _).mono ?_
      rintro e w2 ⟨rfl, hb2⟩
      have HB2 := Lib.hid (HB1.out.trans (hb2.mono HB1.out.size))
      have HP2 := Lib.hid (HP1.out.kept hb2)
      have HR2 := Lib.hid (HR1.out.kept hb2)
      clear hb2 r0 r1 r2 HP1 HR1
      go_wp2_with fail
      cases c3 : sizeV now
      · have HN : Hid (c = -1) := by rw [← HV.out, class_no (by unfold viewV; rw [c3, HK1.out, HK2.out]; rfl)]; exact Lib.hid rfl
        refine (spec_tick _ _).mono ?_
        rw [c3]
        clear c3
        rintro e w' ⟨rfl, rfl⟩
        go_wp2
        go_ret
        exact ⟨ret1I HN.out.symm, HB2.out⟩
      · have HK3 := Lib.hid c3
        obtain ⟨t1, t2⟩ := sizeOk c3
        refine (spec_tick _ _).mono ?_
        rw [c3]
        clear c3
        rintro e w' ⟨rfl, rfl⟩
        have HS2 := Lib.hid (HS.out.kept HB2.out)
        go_wp2_with fail
        cases c4 : storeV (ls.map Sv.s)
        · rw [c4] at HC4
          have HN : Hid (c = -1) := by rw [← HV.out, class_no (by unfold viewV; rw [c4, HK1.out, HK2.out, HK3.out]; rfl)]; exact Lib.hid rfl
          clear c4
          refine (HC4.out _ HS2.out).mono ?_
          rintro e w3 ⟨rfl, hb3⟩
          have HB3 := Lib.hid (HB2.out.trans (hb3.mono HB2.out.size))
          clear hb3
          go_wp2
          go_ret
          exact ⟨ret1I HN.out.symm, HB3.out⟩
        · rw [c4] at HC4
          have HVY : Hid (∀ k : Nat, coreV p (ls.map Sv.s) m now r = k → c = (k : Int)) := fun k hk => by rw [← HV.out]; exact class_yes HK1.out HK2.out HK3.out c4 hk
          clear c4
          refine (HC4.out _ HS2.out).mono ?_
          rintro e w3 ⟨rfl, hb3⟩
          have HB3 := Lib.hid (HB2.out.trans (hb3.mono HB2.out.size))
          have HP3 := Lib.hid (HP2.out.kept hb3)
          have HR3 := Lib.hid (HR2.out.kept hb3)
          have HS3 := Lib.hid (HS2.out.kept hb3)
          clear hb3 HP2 HR2 HS2 HK1 HK2 HK3 HV
          obtain ⟨p0, p1, p2, p3⟩ := cells4 HP3.out
          cases c5 : p.ph != 0
          · have HK5 := Lib.hid c5
            obtain ⟨x, hx⟩ : ∃ x, lastV (ls.map Sv.s) p.nm m = x := ⟨_, rfl⟩
            obtain ⟨y, hy⟩ : ∃ y, lastB (ls.map Sv.s) p.nm m = y := ⟨_, rfl⟩
            have HX := Lib.hid hx
            have HY := Lib.hid hy
            rw [hx] at hb1 hb2 HC5
            rw [hy] at HC5
            clear hx hy
            go_wp2_with fail
            refine (HC5.out _ HS3.out).mono ?_
            rintro e w5 ⟨rfl, hb5⟩
            have HB5 := Lib.hid (HB3.out.trans (hb5.mono HB3.out.size))
            have hbx := box_below w5 #[.int .i64 x.tick, .int .i64 x.val] 77
            have HB6 := Lib.hid (HB5.out.trans (hbx.mono HB5.out.size))
            have HX6 := Lib.hid (cells_new w5 #[.int .i64 x.tick, .int .i64 x.val] 77)
            have HP6 := Lib.hid ((HP3.out.kept hb5).kept hbx)
            have HR6 := Lib.hid ((HR3.out.kept hb5).kept hbx)
            clear hb5 hbx p0 p1 p2 p3 c5 HP3 HR3
            obtain ⟨p0, p1, p2, p3⟩ := cells4 HP6.out
            obtain ⟨r0, r1, r2⟩ := cells3 HR6.out
            cases y
            · have HN := Lib.hid (HVY.out 2 (core2 HK5.out (.inl HY.out)))
              go_wp2
              go_ret
              exact ⟨ret1I HN.out.symm, HB6.out⟩
            · cases c6 : decide (x.tick + r.fr < now)
              · have HK6 : Hid (decide ((lastV (ls.map Sv.s) p.nm m).tick + r.fr < now) = false) := by rw [HX.out]; exact Lib.hid c6
                cases c7 : p.rdy
                · have HN := Lib.hid (HVY.out 1 (core1 HK5.out HY.out HK6.out (.inl c7)))
                  rw [c7] at p3
                  go_wp2
                  go_ret
                  exact ⟨ret1I HN.out.symm, HB6.out⟩
                · have HK7 := Lib.hid c7
                  rw [c7] at p3
                  clear c7
                  cases c8 : decide (now < p.born + r.dl)
                  · have HN := Lib.hid (HVY.out 0 (core0 HK5.out HY.out HK6.out HK7.out c8))
                    go_wp2
                    go_ret
                    exact ⟨ret1I HN.out.symm, HB6.out⟩
                  · have HN := Lib.hid (HVY.out 1 (core1 HK5.out HY.out HK6.out (.inr c8)))
                    go_wp2
                    go_ret
                    exact ⟨ret1I HN.out.symm, HB6.out⟩
              · have HN := Lib.hid (HVY.out 2 (core2 HK5.out (.inr (by rw [HX.out]; exact c6))))
                go_wp2
                go_ret
                exact ⟨ret1I HN.out.symm, HB6.out⟩
          · have HN := Lib.hid (HVY.out 3 (core3 c5))
            go_wp2
            go_ret
            exact ⟨ret1I HN.out.symm, HB3.out⟩
end Go.Proofs.YtihhbgihejjmeaaGreat.Cls
