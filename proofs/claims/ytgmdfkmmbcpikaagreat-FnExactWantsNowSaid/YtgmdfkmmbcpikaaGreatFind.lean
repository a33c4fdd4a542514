/- A series by its key: slices.BinarySearchFunc over series, impl.placeOf, impl.find; the model's l03At, l03Points, SeriesOf. -/
import Derived.Test.YtgmdfkmmbcpikaaGreatCnt
import Derived.Test.YtgmdfkmmbcpikaaGreatRing
namespace Go.Proofs.YtgmdfkmmbcpikaaGreat.Find
open Go.RowKit Go.Sort Go.BigFrame
open Go.Proofs.YtgmdfkmmbcpikaaGreat.C1
open Go.Proofs.YtgmdfkmmbcpikaaGreat.C2
open Go.Proofs.YtgmdfkmmbcpikaaGreat.Smps
open Go.Proofs.YtgmdfkmmbcpikaaGreat.Mem
open Go.Proofs.YtgmdfkmmbcpikaaGreat.Ser
open Go.Proofs.YtgmdfkmmbcpikaaGreat.Ser2
open Go.Proofs.YtgmdfkmmbcpikaaGreat.Key
open Go.Proofs.YtgmdfkmmbcpikaaGreat.Sto
open Go.Proofs.YtgmdfkmmbcpikaaGreat.StoL
open Go.Proofs.YtgmdfkmmbcpikaaGreat.Cnt
open Go.Proofs.YtgmdfkmmbcpikaaGreat.Ring
set_option linter.unusedVariables false

/-! ### Keys in order. -/
theorem key_trans {p m p2 m2 p3 m3 : ByteArray} (h1 : keyLt p m p2 m2) (h2 : keyLt p2 m2 p3 m3) : keyLt p m p3 m3 := by
  rcases h1 with h1 | ⟨e1, h1⟩
  · rcases h2 with h2 | ⟨e2, h2⟩
    · exact Or.inl (List.lt_trans h1 h2)
    · exact Or.inl (by rw [← e2]; exact h1)
  · rcases h2 with h2 | ⟨e2, h2⟩
    · exact Or.inl (by rw [e1]; exact h2)
    · exact Or.inr ⟨e1.trans e2, List.lt_trans h1 h2⟩
theorem key_irr (p m : ByteArray) : ¬ keyLt p m p m := by
  rintro (h | ⟨_, h⟩) <;> exact List.lt_irrefl _ h
theorem ahead_le {xs : List Ser} (h : Store xs) : ∀ (j i : Nat) (hj : j < xs.length) (hi : i < j), Ahead xs[i] xs[j]
  | 0, i, _, hi => absurd hi (by omega)
  | j + 1, i, hj, hi => by
    have h1 := h.order j hj
    by_cases e : i = j
    · subst e; exact h1
    · exact key_trans (ahead_le h j i (by omega) (by omega)) h1
/-- A place found by halves: all ahead of it are less than the key, none from it on. -/
structure Place (xs : List Ser) (p m : ByteArray) (i : Nat) : Prop where
  le : i ≤ xs.length
  less : ∀ (j : Nat) (h : j < xs.length), j < i → keyLt xs[j].pod xs[j].met p m
  more : ∀ (j : Nat) (h : j < xs.length), i ≤ j → ¬ keyLt xs[j].pod xs[j].met p m
def matches_ (p m : ByteArray) (s : Ser) : Bool := s.pod.data.toList == p.data.toList && s.met.data.toList == m.data.toList
theorem ba_ext {a b : ByteArray} (h : a.data.toList = b.data.toList) : a = b := by
  cases a; cases b; congr 1; exact Array.toList_inj.1 h
theorem matches_iff (p m : ByteArray) (s : Ser) : matches_ p m s = true ↔ s.pod = p ∧ s.met = m := by
  unfold matches_
  rw [Bool.and_eq_true, beq_iff_eq, beq_iff_eq]
  exact ⟨fun h => ⟨ba_ext h.1, ba_ext h.2⟩, fun h => by rw [h.1, h.2]; exact ⟨rfl, rfl⟩⟩
/-- The series with a key in a store. -/
def findV (xs : List Ser) (p m : ByteArray) : Option Ser := if storeV xs = true then xs.find? (matches_ p m) else none
theorem find_at {xs : List Ser} {p m : ByteArray} {k : Nat} (hk : k < xs.length) (h : matches_ p m xs[k] = true) (hn : ∀ (j : Nat) (hj : j < xs.length), j < k → matches_ p m xs[j] = false) : xs.find? (matches_ p m) = some xs[k] := by
  rw [List.find?_eq_some_iff_getElem]
  exact ⟨h, k, hk, rfl, fun j hj => by simp [hn j (by omega) hj]⟩
theorem find_no {xs : List Ser} {p m : ByteArray} (hn : ∀ (j : Nat) (hj : j < xs.length), matches_ p m xs[j] = false) : xs.find? (matches_ p m) = none := by
  rw [List.find?_eq_none]
  intro x hx
  obtain ⟨j, hj, rfl⟩ := List.mem_iff_getElem.1 hx
  rw [hn j hj]; exact Bool.false_ne_true
theorem place_yes {xs : List Ser} {p m : ByteArray} {i : Nat} (hp : Place xs p m i) (hi : i < xs.length) (h : kc xs[i].pod xs[i].met p m = 0) : xs.find? (matches_ p m) = some xs[i] := by
  obtain ⟨e1, e2⟩ := (kc_zero _ _ _ _).1 h
  refine find_at hi ((matches_iff _ _ _).2 ⟨e1, e2⟩) fun j hj hlt => ?_
  cases hm : matches_ p m xs[j]
  · rfl
  · obtain ⟨f1, f2⟩ := (matches_iff _ _ _).1 hm
    have := hp.less j hj hlt
    rw [f1, f2] at this
    exact absurd this (key_irr _ _)
theorem place_no {xs : List Ser} {p m : ByteArray} {i : Nat} (hs : Store xs) (hp : Place xs p m i) (h : ¬ ∃ hi : i < xs.length, kc xs[i].pod xs[i].met p m = 0) : xs.find? (matches_ p m) = none := by
  refine find_no fun j hj => ?_
  cases hm : matches_ p m xs[j]
  · rfl
  · obtain ⟨f1, f2⟩ := (matches_iff _ _ _).1 hm
    exfalso
    by_cases hji : j < i
    · have := hp.less j hj hji
      rw [f1, f2] at this
      exact key_irr _ _ this
    · have hi : i < xs.length := by omega
      by_cases e : j = i
      · subst e
        exact h ⟨hj, (kc_zero _ _ _ _).2 ⟨f1, f2⟩⟩
      · have h1 : Ahead xs[i] xs[j] := ahead_le hs j i hj (by omega)
        unfold Ahead at h1
        rw [f1, f2] at h1
        exact hp.more i hi (Nat.le_refl _) h1

/-! ### slices.BinarySearchFunc. -/
set_option maxHeartbeats 4000000 in
set_option maxRecDepth 20000 in
theorem search_series (ls : List Sv) (hs : Store (ls.map Sv.s)) (a : Option Addr) (cap : Nat) (t : Sv) (w : World) (h : Srs w a ls) :
    Calls Tryz.prog 256 #[.slice a ls.length cap, svV t, .func (.func 88) #[] #[]] w
      fun e w' => ∃ i : Nat, Place (ls.map Sv.s) t.s.pod t.s.met i ∧ e = .returned (.tuple #[.int .i64 i, .bool (decide (∃ hi : i < ls.length, kc ls[i].s.pod ls[i].s.met t.s.pod t.s.met = 0))]) ∧ Below w.heap.size w w' := by
  obtain ⟨b, off, ha, hb, hcell⟩ := h.cells
  have mixed : Tryz.prog.follows .mixedOrders = true := by kernel_rfl
  have h24 : ls.length ≤ 24 := by have := hs.most; simpa using this
  have Hc := Lib.hid hcell
  have Ha := Lib.hid ha
  have Hb := Lib.hid hb
  have HSt := Lib.hid hs
  clear hcell ha hb h hs
  unfold svV
  have hbx := box_below w #[.string t.s.pod, .string t.s.met, .slice t.a t.s.pts.length t.cap] 119
  have HBX := Lib.hid hbx
  have HC0 := Lib.hid (cells_new w #[.string t.s.pod, .string t.s.met, .slice t.a t.s.pts.length t.cap] 119)
  clear hbx
  go_enter Tryz.func256, Tryz.ntmps256
  go_wp2
  go_loopw [9, 10] (fun vi vj wr => ∃ (i j : Nat), vi = .int .i64 i ∧ vj = .int .i64 j ∧ i ≤ j ∧ j ≤ ls.length ∧ Hid (∀ (q : Nat) (hq : q < ls.length), q < i → keyLt ls[q].s.pod ls[q].s.met t.s.pod t.s.met) ∧ Hid (∀ (q : Nat) (hq : q < ls.length), j ≤ q → ¬ keyLt ls[q].s.pod ls[q].s.met t.s.pod t.s.met) ∧ Hid (CellsW wr w.heap.size [.string t.s.pod, .string t.s.met, .slice t.a t.s.pts.length t.cap] ∧ Below w.heap.size w wr)) (fun vi vj _ => (intOf vj).toNat - (intOf vi).toNat)
  case atStart => exact ⟨0, ls.length, rfl, rfl, Nat.zero_le _, Nat.le_refl _, fun q hq h => by omega, fun q hq h => by omega, HC0.out, HBX.out⟩
  case round =>
    obtain ⟨i, j, rfl, rfl, hij, hj, HLo, HHi, HB⟩ := hrel
    by_cases hlt : i < j
    · obtain ⟨k, hk⟩ : ∃ k : Nat, ((i : Int) + (j : Int)) / 2 = (k : Int) := ⟨(i + j) / 2, by omega⟩
      have hki : i ≤ k := by omega
      have hkj : k < j := by omega
      have hkl : k < ls.length := by omega
      obtain rfl := Ha.out (by omega)
      have HBw := Lib.hid HB.out.2
      have HCw := Lib.hid HB.out.1
      have hbw := Nat.lt_of_lt_of_le (Hb.out (by omega)) HBw.out.size
      obtain ⟨l, hl⟩ : ∃ l, ls[k] = l := ⟨_, rfl⟩
      obtain ⟨q0, q1, q2⟩ := (Hc.out k hkl).1.kept HBw.out (Hb.out (by omega))
      rw [hl] at q0 q1 q2
      have L0 := later_cell hbw q0
      have L1 := later_cell hbw q1
      have L2 := later_cell hbw q2
      have T0 := later_cell HCw.out.1 (cellsW_get HCw.out (j := 0) rfl).1
      have T1 := later_cell HCw.out.1 (cellsW_get HCw.out (j := 1) rfl).1
      have T2 := later_cell HCw.out.1 (cellsW_get HCw.out (j := 2) rfl).1
      have hcmp : ∀ q : Later wr, Calls Tryz.prog 88 #[svV l, svV t] q.u fun e w' => e = .returned (.int .i64 (kc l.s.pod l.s.met t.s.pod t.s.met)) ∧ Below q.u.heap.size q.u w' := fun q => (cmp_series l t q.u).mono fun e w' ⟨he, n, os, hw⟩ => ⟨he, by rw [hw]; exact below_grow (Below.refl _ _) (Nat.le_refl _) n os⟩
      unfold svV at hcmp
      obtain ⟨z, hz⟩ : ∃ z, kc l.s.pod l.s.met t.s.pod t.s.met = z := ⟨_, rfl⟩
      rw [hz] at hcmp
      have HK := Lib.hid hcmp
      have HL := Lib.hid hl
      have HZ := Lib.hid hz
      clear q0 q1 q2 hcmp hl hz hbw HB
      have HKC := Lib.hid (kc_neg l.s.pod l.s.met t.s.pod t.s.met)
      rw [HZ.out] at HKC
      go_wp2_with fail
      by_cases hz0 : z < 0
      · have d0 : decide (z < 0) = true := decide_eq_true hz0
        have HN : Hid (∀ (q : Nat) (hq : q < ls.length), q < k + 1 → keyLt ls[q].s.pod ls[q].s.met t.s.pod t.s.met) := fun q hq h => by
          have h1 : keyLt ls[k].s.pod ls[k].s.met t.s.pod t.s.met := by rw [HL.out]; exact HKC.out.1 hz0
          by_cases e : q = k
          · subst e; exact h1
          · have h2 := ahead_le HSt.out k q (by simpa using hkl) (by omega)
            simp only [List.getElem_map] at h2
            exact key_trans h2 h1
        refine region_later mixed (by kernel_rfl) ?_
        repeat (go_big_quiet_step (first | (go_at_call 88; exact later_call (HK.out _))))
        refine wpQuiet_nil ?_
        intro w1 hw'
        obtain ⟨⟨_, hw1⟩, rfl⟩ := hw'
        have HB1 := Lib.hid (HBw.out.trans (hw1.mono HBw.out.size))
        have HC1 := Lib.hid (HCw.out.kept hw1)
        clear hw1 L0 L1 L2 T0 T1 T2 HK
        clear HKC
        go_wp2
        go_roundw
        case rel => exact ⟨k + 1, j, by go_num, rfl, by omega, hj, HN, HHi, HC1.out, HB1.out⟩
        case measure => simp [intOf]; omega
      · have d0 : decide (z < 0) = false := decide_eq_false hz0
        have HN : Hid (∀ (q : Nat) (hq : q < ls.length), k ≤ q → ¬ keyLt ls[q].s.pod ls[q].s.met t.s.pod t.s.met) := fun q hq h hlt2 => by
          have h1 : ¬ keyLt ls[k].s.pod ls[k].s.met t.s.pod t.s.met := by rw [HL.out]; exact fun h => hz0 (HKC.out.2 h)
          by_cases e : q = k
          · subst e; exact h1 hlt2
          · have h2 := ahead_le HSt.out q k (by simpa using hq) (by omega)
            simp only [List.getElem_map] at h2
            exact h1 (key_trans h2 hlt2)
        refine region_later mixed (by kernel_rfl) ?_
        repeat (go_big_quiet_step (first | (go_at_call 88; exact later_call (HK.out _))))
        refine wpQuiet_nil ?_
        intro w1 hw'
        obtain ⟨⟨_, hw1⟩, rfl⟩ := hw'
        have HB1 := Lib.hid (HBw.out.trans (hw1.mono HBw.out.size))
        have HC1 := Lib.hid (HCw.out.kept hw1)
        clear hw1 L0 L1 L2 T0 T1 T2 HK
        clear HKC
        go_wp2
        go_roundw
        case rel => exact ⟨i, k, rfl, rfl, by omega, by omega, HLo, HN, HC1.out, HB1.out⟩
        case measure => simp [intOf]; omega
    · have hije : i = j := by omega
      have HPL : Hid (Place (ls.map Sv.s) t.s.pod t.s.met i) := ⟨by simp; omega, fun q hq h => by have := HLo.out q (by simpa using hq) h; simpa using this, fun q hq h => by have := HHi.out q (by simpa using hq) (by omega); simpa using this⟩
      by_cases hil : i < ls.length
      · have hkl : i < ls.length := hil
        have g0 : decide ((i : Int) < (ls.length : Int)) = true := decide_eq_true (by omega)
        obtain rfl := Ha.out (by omega)
        have HBw := Lib.hid HB.out.2
        have HCw := Lib.hid HB.out.1
        have hbw := Nat.lt_of_lt_of_le (Hb.out (by omega)) HBw.out.size
        obtain ⟨l, hl⟩ : ∃ l, ls[i] = l := ⟨_, rfl⟩
        obtain ⟨q0, q1, q2⟩ := (Hc.out i hkl).1.kept HBw.out (Hb.out (by omega))
        rw [hl] at q0 q1 q2
        have L0 := later_cell hbw q0
        have L1 := later_cell hbw q1
        have L2 := later_cell hbw q2
        have T0 := later_cell HCw.out.1 (cellsW_get HCw.out (j := 0) rfl).1
        have T1 := later_cell HCw.out.1 (cellsW_get HCw.out (j := 1) rfl).1
        have T2 := later_cell HCw.out.1 (cellsW_get HCw.out (j := 2) rfl).1
        have hcmp : ∀ q : Later wr, Calls Tryz.prog 88 #[svV l, svV t] q.u fun e w' => e = .returned (.int .i64 (kc l.s.pod l.s.met t.s.pod t.s.met)) ∧ Below q.u.heap.size q.u w' := fun q => (cmp_series l t q.u).mono fun e w' ⟨he, n, os, hw⟩ => ⟨he, by rw [hw]; exact below_grow (Below.refl _ _) (Nat.le_refl _) n os⟩
        unfold svV at hcmp
        obtain ⟨z, hz⟩ : ∃ z, kc l.s.pod l.s.met t.s.pod t.s.met = z := ⟨_, rfl⟩
        rw [hz] at hcmp
        have HK := Lib.hid hcmp
        have HL := Lib.hid hl
        have HZ := Lib.hid hz
        clear q0 q1 q2 hcmp hl hz hbw HB
        have HF : Hid ((z == 0) = decide (∃ hi : i < ls.length, kc ls[i].s.pod ls[i].s.met t.s.pod t.s.met = 0)) := by
          show _ = _
          rw [Bool.eq_iff_iff, beq_iff_eq, decide_eq_true_eq]
          exact ⟨fun h => ⟨hil, by rw [HL.out, HZ.out, h]⟩, fun ⟨_, h⟩ => by rw [HL.out, HZ.out] at h; exact h⟩
        clear hije
        go_wp2_with fail
        cases hz0 : (z == 0)
        · have HZ0 := Lib.hid hz0
          refine region_later mixed (by kernel_rfl) ?_
          repeat (go_big_quiet_step (first | (go_at_call 88; exact later_call (HK.out _))))
          refine wpQuiet_nil ?_
          intro w1 hw'
          obtain ⟨⟨_, hw1⟩, rfl⟩ := hw'
          have HB1 := Lib.hid (HBw.out.trans (hw1.mono HBw.out.size))
          have HC1 := Lib.hid (HCw.out.kept hw1)
          clear hw1 L0 L1 L2 T0 T1 T2 HK
          rw [hz0] at HF
          go_wp2
          go_ret2
          refine ⟨i, HPL.out, ?_, HB1.out⟩
          rw [← HF.out]
          rfl
        · have HZ0 := Lib.hid hz0
          refine region_later mixed (by kernel_rfl) ?_
          repeat (go_big_quiet_step (first | (go_at_call 88; exact later_call (HK.out _))))
          refine wpQuiet_nil ?_
          intro w1 hw'
          obtain ⟨⟨_, hw1⟩, rfl⟩ := hw'
          have HB1 := Lib.hid (HBw.out.trans (hw1.mono HBw.out.size))
          have HC1 := Lib.hid (HCw.out.kept hw1)
          clear hw1 L0 L1 L2 T0 T1 T2 HK
          rw [hz0] at HF
          go_wp2
          go_ret2
          refine ⟨i, HPL.out, ?_, HB1.out⟩
          rw [← HF.out]
          rfl
      · have g0 : decide ((i : Int) < (ls.length : Int)) = false := decide_eq_false (by omega)
        have HF : Hid (decide (∃ hi : i < ls.length, kc ls[i].s.pod ls[i].s.met t.s.pod t.s.met = 0) = false) := by
          show _ = _
          rw [decide_eq_false_iff_not]
          exact fun ⟨h, _⟩ => hil h
        have HB1 := Lib.hid HB.out.2
        clear hije HB
        go_wp2_with fail
        refine region_later mixed (by kernel_rfl) ?_
        repeat (go_big_quiet_step (fail))
        refine wpQuiet_nil ?_
        intro w1 hw'
        obtain ⟨⟨_, hw1⟩, rfl⟩ := hw'
        have HB2 := Lib.hid (HB1.out.trans (hw1.mono HB1.out.size))
        clear hw1
        go_wp2
        go_ret2
        refine ⟨i, HPL.out, ?_, HB2.out⟩
        rw [HF.out]
        rfl

/-! ### impl.placeOf, impl.find. -/
theorem place_of (ls : List Sv) (hs : Store (ls.map Sv.s)) (a : Option Addr) (cap : Nat) (p m : ByteArray) (w : World) (h : Srs w a ls) :
    Calls Tryz.prog 245 #[.slice a ls.length cap, .string p, .string m] w
      fun e w' => ∃ i : Nat, Place (ls.map Sv.s) p m i ∧ e = .returned (.tuple #[.int .i64 i, .bool (decide (∃ hi : i < ls.length, kc ls[i].s.pod ls[i].s.met p m = 0))]) ∧ Below w.heap.size w w' := by
  have hcon := fun W (hW : Srs W a ls) => search_series ls hs a cap ⟨⟨p, m, []⟩, none, 0⟩ W hW
  unfold svV at hcon
  have HC := Lib.hid hcon
  have HH := Lib.hid h
  clear hcon h hs
  go_enter Tryz.func245, Tryz.ntmps245
  go_wp2_with (go_at_call 256; refine (HC.out _ HH.out).mono ?_; rintro e w1 ⟨i, hp, rfl, hb⟩)
  go_ret2
  exact ⟨i, hp, rfl, hb⟩
/-- What find answers: the points of the series with the key, not copied. -/
def FindsP (ls : List Sv) (p m : ByteArray) (e : Ending) : Prop :=
  (findV (ls.map Sv.s) p m = none ∧ e = .returned (.tuple #[.slice none 0 0, .bool false])) ∨
  ∃ (i : Nat) (hi : i < ls.length), findV (ls.map Sv.s) p m = some ls[i].s ∧ storeV (ls.map Sv.s) = true ∧ e = .returned (.tuple #[.slice ls[i].a ls[i].s.pts.length ls[i].cap, .bool true])
set_option maxHeartbeats 1000000 in
set_option maxRecDepth 20000 in
theorem impl_find (ls : List Sv) (a : Option Addr) (cap : Nat) (p m : ByteArray) (w : World) (hwf : ∀ l ∈ ls, l.s.wf) (hpl : ∀ l ∈ ls, l.s.pts.length ≤ 1048576) (h : Srs w a ls) (hm : ls.length ≤ 1048576) :
    Calls Tryz.prog 232 #[.slice a ls.length cap, .string p, .string m] w fun e w' => FindsP ls p m e ∧ Below w.heap.size w w' := by
  have HW := Lib.hid hwf
  have HP := Lib.hid hpl
  have HH := Lib.hid h
  clear hwf hpl
  cases hv : storeV (ls.map Sv.s)
  · have HN : Hid (findV (ls.map Sv.s) p m = none) := by show _ = _; unfold findV; rw [hv]; rfl
    have HV := Lib.hid hv
    clear hv h
    go_enter Tryz.func232, Tryz.ntmps232
    go_wp2_with (go_at_call 40; refine (impl_store2 ls ls rfl a cap _ HW.out HP.out HH.out hm).mono ?_; rw [HV.out]; rintro e u1 ⟨rfl, hb1⟩)
    go_ret2
    exact ⟨.inl ⟨HN.out, rfl⟩, hb1⟩
  · have HF : Hid (findV (ls.map Sv.s) p m = (ls.map Sv.s).find? (matches_ p m)) := by show _ = _; unfold findV; rw [hv]; rfl
    have HV := Lib.hid hv
    have HSt := Lib.hid ((storeV_iff _).1 hv)
    obtain ⟨b, off, ha, hb, hcell⟩ := h.cells
    have Hc := Lib.hid hcell
    have Ha := Lib.hid ha
    have Hb := Lib.hid hb
    clear hv h hcell ha hb
    go_enter Tryz.func232, Tryz.ntmps232
    go_wp2_with (go_at_call 40; refine (impl_store2 ls ls rfl a cap _ HW.out HP.out HH.out hm).mono ?_; rw [HV.out]; rintro e u1 ⟨rfl, hb1⟩; have HB1 := Lib.hid hb1; clear hb1)
    refine (place_of ls HSt.out a cap p m _ (HH.out.kept HB1.out)).mono ?_
    rintro e u2 ⟨i, hp, rfl, hb2⟩
    have HB2 := Lib.hid (HB1.out.trans (hb2.mono HB1.out.size))
    have HPL := Lib.hid hp
    clear hb2 hp
    by_cases hex : ∃ hi : i < ls.length, kc ls[i].s.pod ls[i].s.met p m = 0
    · obtain ⟨hil, hkz⟩ := id hex
      have hd : decide (∃ hi : i < ls.length, kc ls[i].s.pod ls[i].s.met p m = 0) = true := decide_eq_true hex
      have HG : Hid (findV (ls.map Sv.s) p m = some ls[i].s) := by
        show _ = _
        rw [HF.out]
        have := place_yes HPL.out (by simpa using hil) (by simpa using hkz)
        rw [this]
        simp
      rw [hd]
      obtain rfl := Ha.out (by omega)
      obtain ⟨q0, q1, q2⟩ := (Hc.out i hil).1.kept HB2.out (Hb.out (by omega))
      clear hex hkz hd
      go_wp2
      go_ret2
      exact ⟨.inr ⟨i, hil, HG.out, HV.out, rfl⟩, HB2.out⟩
    · have hd : decide (∃ hi : i < ls.length, kc ls[i].s.pod ls[i].s.met p m = 0) = false := decide_eq_false hex
      have HG : Hid (findV (ls.map Sv.s) p m = none) := by
        show _ = _
        rw [HF.out]
        exact place_no HSt.out HPL.out (fun ⟨h1, h2⟩ => hex ⟨by simpa using h1, by simpa using h2⟩)
      rw [hd]
      clear hex hd
      go_wp2
      go_ret2
      exact ⟨.inl ⟨HG.out, rfl⟩, HB2.out⟩

/-! ### The model: l03At, l03Points, SeriesOf. -/
def AtP (ls : List Sv) (p m : ByteArray) (e : Ending) : Prop :=
  (∃ (i : Nat) (hi : i < ls.length), (ls.map Sv.s).find? (matches_ p m) = some ls[i].s ∧ e = .returned (.int .i64 i)) ∨ ((ls.map Sv.s).find? (matches_ p m) = none ∧ e = .returned (.int .i64 (-1)))
theorem atP_yes {ls : List Sv} {p m : ByteArray} (i : Nat) (hi : i < ls.length) (h : (ls.map Sv.s).find? (matches_ p m) = some ls[i].s) : AtP ls p m (.returned (.int .i64 i)) := .inl ⟨i, hi, h, rfl⟩
theorem atP_no {ls : List Sv} {p m : ByteArray} (h : (ls.map Sv.s).find? (matches_ p m) = none) : AtP ls p m (.returned (.int .i64 (-1))) := .inr ⟨h, rfl⟩
set_option maxHeartbeats 1000000 in
set_option maxRecDepth 20000 in
theorem spec_at (ls : List Sv) (a : Option Addr) (cap : Nat) (p m : ByteArray) (w : World) (h : Srs w a ls) (hm : ls.length ≤ 1048576) :
    Calls Tryz.prog 194 #[.slice a ls.length cap, .string p, .string m] w
      fun e w' => AtP ls p m e ∧ Below w.heap.size w w' := by
  obtain ⟨b, off, ha, hb, hcell⟩ := h.cells
  have mixed : Tryz.prog.follows .mixedOrders = true := by kernel_rfl
  have Hc := Lib.hid hcell
  have Ha := Lib.hid ha
  have Hb := Lib.hid hb
  clear hcell ha hb h
  go_enter Tryz.func194, Tryz.ntmps194
  go_wp2
  go_loopw [7] (fun i wr => ∃ k : Nat, k ≤ ls.length ∧ i = .int .i64 k ∧ Hid (∀ (j : Nat) (hj : j < ls.length), j < k → matches_ p m ls[j].s = false) ∧ Hid (Below w.heap.size w wr)) (fun i _ => ls.length - (intOf i).toNat)
  case atStart => exact ⟨0, Nat.zero_le _, rfl, fun j hj h => by omega, Below.refl _ _⟩
  case round =>
    obtain ⟨k, hk, rfl, HS, HB⟩ := hrel
    by_cases hlt : k < ls.length
    · obtain rfl := Ha.out (by omega)
      obtain ⟨q0, q1, q2⟩ := (Hc.out k hlt).1.kept HB.out (Hb.out (by omega))
      have HNX : Hid (matches_ p m ls[k].s = false → ∀ (j : Nat) (hj : j < ls.length), j < k + 1 → matches_ p m ls[j].s = false) := fun hn j hj h => by
        by_cases e : j = k
        · subst e; exact hn
        · exact HS.out j hj (by omega)
      have HYX : Hid (matches_ p m ls[k].s = true → (ls.map Sv.s).find? (matches_ p m) = some ls[k].s) := fun hn => by
        have := find_at (xs := ls.map Sv.s) (p := p) (m := m) (k := k) (by simpa using hlt) (by simpa using hn) (fun j hj h => by have := HS.out j (by simpa using hj) h; simpa using this)
        rw [this]; simp
      cases e1 : (ls[k].s.pod.toList == p.toList)
      · have HM : Hid (matches_ p m ls[k].s = false) := by
          show _ = _
          rw [ByteArray.toList_eq, ByteArray.toList_eq] at e1
          unfold matches_; rw [e1]; rfl
        go_wp2
        go_roundw
        case rel => exact ⟨k + 1, by omega, by go_num, HNX.out HM.out, HB⟩
        case measure => simp [intOf]; omega
      · cases e2 : (ls[k].s.met.toList == m.toList)
        · have HM : Hid (matches_ p m ls[k].s = false) := by
            show _ = _
            rw [ByteArray.toList_eq, ByteArray.toList_eq] at e2
            unfold matches_; rw [e2, Bool.and_false]
          go_wp2
          go_roundw
          case rel => exact ⟨k + 1, by omega, by go_num, HNX.out HM.out, HB⟩
          case measure => simp [intOf]; omega
        · have HM : Hid (matches_ p m ls[k].s = true) := by
            show _ = _
            rw [ByteArray.toList_eq, ByteArray.toList_eq] at e1 e2
            unfold matches_; rw [e1, e2]; rfl
          go_wp2
          go_ret
          exact ⟨atP_yes k hlt (HYX.out HM.out), HB.out⟩
    · obtain rfl : k = ls.length := by omega
      have HN : Hid ((ls.map Sv.s).find? (matches_ p m) = none) := find_no fun j hj => by have := HS.out j (by simpa using hj) (by simpa using hj); simpa using this
      go_wp2
      go_ret
      exact ⟨atP_no HN.out, HB.out⟩
end Go.Proofs.YtgmdfkmmbcpikaaGreat.Find
