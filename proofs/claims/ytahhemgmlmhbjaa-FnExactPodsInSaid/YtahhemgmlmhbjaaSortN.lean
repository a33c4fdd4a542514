/- slices.SortStableFunc at samples: the symmetric merge, whole. -/
import Derived.Test.YtahhemgmlmhbjaaSortM
import Derived.Deep.RegionWith
namespace Go.Proofs.Ytahhemgmlmhbjaa.SortN
open Go.Shelf Go.RowKit Go.Lib Go.Sort
open Go.Proofs.Ytahhemgmlmhbjaa.C1
open Go.Proofs.Ytahhemgmlmhbjaa.C2
open Go.Proofs.Ytahhemgmlmhbjaa.Smps
open Go.Proofs.Ytahhemgmlmhbjaa.StM
open Go.Proofs.Ytahhemgmlmhbjaa.Cmp
open Go.Proofs.Ytahhemgmlmhbjaa.Sort
open Go.Proofs.Ytahhemgmlmhbjaa.SortR
open Go.Proofs.Ytahhemgmlmhbjaa.SortM
set_option linter.unusedVariables false
variable (xs : List Smp)

/-- What the merge of [a, m) and [m, b) does, for rows of D elements. -/
def Merges (w0 : World) (blk off cap D : Nat) (d : Array Nat) (a m b : Nat) : Prop :=
  ∀ w, SWK (encX xs) 4 w0 blk off d w → Calls Try.prog 56 #[.slice (some ⟨blk, off, none⟩) D cap, .int .i64 a, .int .i64 m, .int .i64 b, FX] w fun e w' => e = .returned (.tuple #[]) ∧ ∃ d', PermIn a b d d' ∧ SortedIn (TX xs) a b d' ∧ SWK (encX xs) 4 w0 blk off d' w'

set_option maxHeartbeats 1600000 in
set_option maxRecDepth 100000 in
theorem merge_mid (hT : SWO (TX xs)) (w0 : World) (blk off cap D : Nat) (d0 d : Array Nat) (R : Row xs w0 blk off d0) (hd : d.size = D) (hd0 : d0.size = D) (a m b : Nat) (h1 : a + 1 < m) (h2 : m + 1 < b) (h3 : b ≤ D) (s1 : SortedIn (TX xs) a m d) (s2 : SortedIn (TX xs) m b d) (hA : Ahd (ltX xs) (TX xs) a m b d)
    (ih : ∀ (d : Array Nat) (a' m' b' : Nat), d.size = D → a' < m' → m' < b' → b' ≤ D → b' - a' < b - a → SortedIn (TX xs) a' m' d → SortedIn (TX xs) m' b' d → Ahd (ltX xs) (TX xs) a' m' b' d → Merges xs w0 blk off cap D d a' m' b') : Merges xs w0 blk off cap D d a m b := by
  intro w S
  have mixed : Try.prog.follows .mixedOrders = true := by kernel_rfl
  have hsz : D ≤ 1000 := by have := R.hsz; omega
  have HD := Lib.hid hd
  have HDD := Lib.hid (hd.trans hd0.symm)
  have HS0 := Lib.hid S
  have HA := Lib.hid hA
  have HS1 := Lib.hid s1
  have HS2 := Lib.hid s2
  have HI := Lib.hid ih
  clear hd hd0 S hA s1 s2 ih
  have hma : ((m : Int) - (a : Int) == 1) = false := by simp; omega
  have hbm : ((b : Int) - (m : Int) == 1) = false := by simp; omega
  obtain ⟨mid, em⟩ : ∃ x : Nat, ((a : Int) + (b : Int)) / 2 = (x : Int) := ⟨(a + b) / 2, by omega⟩
  obtain ⟨n, en⟩ : ∃ x : Nat, (mid : Int) + (m : Int) = (x : Int) := ⟨mid + m, by omega⟩
  obtain ⟨p, ep⟩ : ∃ x : Nat, (n : Int) - 1 = (x : Int) := ⟨n - 1, by omega⟩
  obtain ⟨s0, r0, hs0, hsel⟩ : ∃ s0 r0 : Nat, (m > mid → (n : Int) - (b : Int) = (s0 : Int)) ∧ (m > mid ∧ s0 + b = n ∧ r0 = mid ∨ m ≤ mid ∧ s0 = a ∧ r0 = m) := by
    by_cases h : m > mid
    · exact ⟨n - b, mid, fun _ => by omega, .inl ⟨h, by omega, rfl⟩⟩
    · exact ⟨a, m, fun h' => absurd h' h, .inr ⟨by omega, rfl, rfl⟩⟩
  have emN : mid = (a + b) / 2 := by omega
  have HE := Lib.hid emN
  have hrel0 : a ≤ s0 ∧ s0 ≤ r0 ∧ r0 ≤ m ∧ r0 ≤ mid := by omega
  obtain ⟨z1, z2, z3, z4⟩ := hrel0
  have hmidb : mid < b := by omega
  have hamid : a ≤ mid := by omega
  have HSEL := Lib.hid hsel
  clear emN
  have after : ∀ (s e : Nat) (wr : World), s0 ≤ s → s ≤ r0 → (n : Int) - (s : Int) = (e : Int) → (s = s0 ∨ TX xs d[n - s]! d[s - 1]! = false) → (s = r0 ∨ TX xs d[p - s]! d[s]! = true) → Cross (TX xs) a m b s e d ∧ s + (e - m) = mid := by
    intro s e wr h4 h5 h6 h7 h8
    have hsel := HSEL.out
    have hE := HE.out
    have e1 : e = n - s := by omega
    subst e1
    refine ⟨found hT HS1.out HS2.out (by have := HD.out; omega) (by omega) (by omega) (by omega) (by omega) (by omega) (by omega) (by omega) (by omega) (fun h9 h10 => ?_) (fun h9 h10 => ?_), by omega⟩
    · rcases h7 with h7 | h7
      · omega
      · exact h7
    · rcases h8 with h8 | h8
      · omega
      · rw [show n - 1 - s = p - s by omega]; exact h8
  have AFT := Lib.hid after
  clear after
  by_cases hmm : m > mid
  all_goals
    first
    | (have hq := hs0 hmm
       have hmm' : (mid : Int) < (m : Int) := by omega
       have hsv : s0 + b = n ∧ r0 = mid := by omega
       clear hs0 hsel)
    | (have hmm' : ¬ (mid : Int) < (m : Int) := by omega
       have hsv : s0 = a ∧ r0 = m := by omega
       clear hs0 hsel)
    have HSV := Lib.hid hsv
    clear hsv
    go_enter Try.func56, Try.ntmps56
    go_wp2
    go_loopw [20, 21] (fun vi vj wr => ∃ (s r : Nat), vi = .int .i64 s ∧ vj = .int .i64 r ∧ s0 ≤ s ∧ s ≤ r ∧ r ≤ r0 ∧ Hid ((s = s0 ∨ TX xs d[n - s]! d[s - 1]! = false) ∧ (r = r0 ∨ TX xs d[p - r]! d[r]! = true) ∧ SWK (encX xs) 4 w0 blk off d wr)) (fun vi vj _ => (intOf vj).toNat - (intOf vi).toNat)
    case atStart => exact ⟨s0, r0, by first | rfl | exact int_eq (by have := HSV.out; omega), by first | rfl | exact int_eq (by have := HSV.out; omega), by omega, by omega, by omega, .inl rfl, .inl rfl, HS0.out⟩
    case round =>
      obtain ⟨s, r, rfl, rfl, hs, hsr, hr, H⟩ := hrel
      by_cases hlt : s < r
      · obtain ⟨c, ec⟩ : ∃ h : Nat, ((s : Int) + (r : Int)) / 2 = (h : Int) := ⟨(s + r) / 2, by omega⟩
        have hc1 : s ≤ c := by omega
        have hc2 : c < r := by omega
        obtain ⟨pc, epc⟩ : ∃ h : Nat, (p : Int) - (c : Int) = (h : Int) := ⟨p - c, by have := HSEL.out; omega⟩
        have hin : a ≤ c ∧ c < m ∧ m ≤ pc ∧ pc < b := by have := HSEL.out; have := HE.out; omega
        have hag := Lib.hid (HA.out c pc hin.1 hin.2.1 hin.2.2.1 hin.2.2.2)
        have hcD : c < D := by omega
        have hpD : pc < D := by omega
        clear hin
        have hwp : IntKind.i64.wrap (pc : Int) = (pc : Int) := by rw [IntKind.wrap_i64]; omega
        obtain ⟨q0, q1, q2, q3, p0, p1, p2, p3⟩ := two_spots xs R H.out.2.2 HDD.out (h := pc) (a := c) (by have := HD.out; omega) (by have := HD.out; omega)
        have hcall := cmp_at xs d[pc]! d[c]! wr
        generalize hcv : cfX xs d[pc]! d[c]! = cv at hcall
        have HC := Lib.hid hcv
        clear hcv
        by_cases hc : cv < 0
        · have HN : Hid ((s = s0 ∨ TX xs d[n - s]! d[s - 1]! = false) ∧ (c = r0 ∨ TX xs d[p - c]! d[c]! = true) ∧ SWK (encX xs) 4 w0 blk off d wr) := ⟨H.out.1, .inr (by
            rw [show p - c = pc by omega, ← hag.out]; unfold ltX; rw [HC.out]; exact decide_eq_true hc), H.out.2.2⟩
          clear H
          go_wp2_with fail
          go_quiet_grown (first | (go_at_call 37; refine Calls.grown_of (hcall _ _)))
          have HN2 : Hid (SWK (encX xs) 4 w0 blk off d (grow (wr.drewN nq) osq)) := swk_grown HN.out.2.2 nq osq
          clear hcall q0 q1 q2 q3 p0 p1 p2 p3
          go_wp2
          go_roundw
          case rel => exact ⟨s, c, rfl, rfl, by omega, by omega, by omega, HN.out.1, HN.out.2.1, HN2.out⟩
          case measure => simp [intOf]; omega
        · have HN : Hid ((c + 1 = s0 ∨ TX xs d[n - (c + 1)]! d[c + 1 - 1]! = false) ∧ (r = r0 ∨ TX xs d[p - r]! d[r]! = true) ∧ SWK (encX xs) 4 w0 blk off d wr) := ⟨.inr (by
            rw [show n - (c + 1) = pc by omega, Nat.add_sub_cancel, ← hag.out]; unfold ltX; rw [HC.out]; exact decide_eq_false hc), H.out.2.1, H.out.2.2⟩
          have hcd : decide (cv < 0) = false := decide_eq_false hc
          clear H
          go_wp2_with fail
          go_quiet_grown (first | (go_at_call 37; refine Calls.grown_of (hcall _ _)))
          have HN2 : Hid (SWK (encX xs) 4 w0 blk off d (grow (wr.drewN nq) osq)) := swk_grown HN.out.2.2 nq osq
          clear hcall q0 q1 q2 q3 p0 p1 p2 p3
          go_wp2
          go_roundw
          case rel => exact ⟨c + 1, r, by go_num, rfl, by omega, by omega, by omega, HN.out.1, HN.out.2.1, HN2.out⟩
          case measure => simp [intOf]; omega
      · obtain rfl : s = r := by omega
        obtain ⟨e, ee⟩ : ∃ e : Nat, (n : Int) - (s : Int) = (e : Int) := ⟨n - s, by have := HSEL.out; omega⟩
        obtain ⟨hx, hmid⟩ := AFT.out s e wr hs hr ee H.out.1 H.out.2.1
        have HX := Lib.hid hx
        have HMID := Lib.hid hmid
        have HSW := Lib.hid H.out.2.2
        have k1 := hx.has; have k2 := hx.hsm; have k3 := hx.hme; have k4 := hx.heb
        have k5 : s ≤ mid := by omega
        have k6 : (e : Int) - (m : Int) = (mid : Int) - (s : Int) := by omega
        have K6 := Lib.hid k6
        clear H hx hmid k6
        have hz1 := size_mapIx d (rof s m e)
        have HZ1 := Lib.hid hz1
        clear hz1
        have PCX := Lib.hid (parts_cross hT HX.out HS1.out HS2.out)
        have LS := Lib.hid (left_sorted hT HX.out HS1.out HS2.out)
        have RS : Hid (∀ d2, PermIn a mid (mapIx d (rof s m e)) d2 → (∀ i j, s ≤ i → i < m → e ≤ j → j < b → TX xs d[j]! d[i]! = false) → SortedIn (TX xs) mid b d2) := by
          intro d2 hp hx
          have h := right_sorted hT HX.out HS1.out HS2.out hx
          rw [HMID.out] at h
          intro i j hi hij hj
          rw [hp.2.1 i (Or.inr hi), hp.2.1 j (Or.inr (by omega))]
          exact h i j hi hij hj
        rcases Nat.lt_or_ge s m with hA | hA <;> rcases Nat.lt_or_ge m e with hB | hB <;> rcases Nat.lt_or_ge a s with hC | hC <;> rcases Nat.lt_or_ge e b with hE | hE
        · have hA1 : s < m := by assumption
          have f1 : (s : Int) < (m : Int) := by omega
          have f2 : (m : Int) < (e : Int) := by omega
          have f3 : (a : Int) < (s : Int) := by omega
          have f4 : (s : Int) < (mid : Int) := by have := K6.out; omega
          have f5 : (mid : Int) < (e : Int) := by have := K6.out; omega
          have f6 : (e : Int) < (b : Int) := by omega
          have hc := Lib.hid (rotate xs w0 blk off cap d0 d R HDD.out s m e hA hB (by have := HD.out; omega) FX wr HSW.out)
          have hc2 : Hid (Calls Try.prog 72 #[.slice (some ⟨blk, off, none⟩) D cap, .int .i64 s, .int .i64 m, .int .i64 e, FX] wr fun e1 w' => e1 = .returned (.tuple #[]) ∧ SWK (encX xs) 4 w0 blk off (mapIx d (rof s m e)) w' ∧ PermIn s e d (mapIx d (rof s m e))) := by have := hc.out; rw [HD.out] at this; exact this
          clear hc
          go_wp2_with (go_at_call 72; refine hc2.out.mono ?_; rintro e1 w1 ⟨rfl, hS1, hP1⟩; have HW1 := Lib.hid hS1; have HP1 := Lib.hid (permIn_mono _ _ _ _ a b k1 k4 (by have := HD.out; omega) hP1); clear hS1 hP1)
          all_goals
            have hl := Lib.hid (HI.out (mapIx d (rof s m e)) a s mid (HZ1.out.trans HD.out) hC (by omega) (by omega) (by omega) (sorted_ls HX.out HS1.out) (by have := sorted_lm HX.out HS2.out; rw [HMID.out] at this; exact this) (by have := ahd_left HX.out HA.out; rw [HMID.out] at this; exact this) _ HW1.out)
            go_wp2_with (go_at_call_of 56 (Value.int IntKind.i64 (s : Int)); refine hl.out.mono ?_; rintro e2 w2 ⟨rfl, d2, hP2, hT2, hS2⟩; have HW2 := Lib.hid hS2; have HP2 := Lib.hid hP2; have HT2 := Lib.hid hT2; clear hS2 hP2 hT2)
            all_goals
              have hr2 := Lib.hid (HI.out d2 mid e b (HP2.out.1.trans (HZ1.out.trans HD.out)) (by have := K6.out; omega) hE (by omega) (by omega) (by have := sorted_rm HX.out HS1.out (by rw [HMID.out]; exact HP2.out); rw [HMID.out] at this; exact this) (sorted_rb HX.out HS2.out (by rw [HMID.out]; exact HP2.out)) (by have := ahd_right HX.out HA.out (by rw [HMID.out]; exact HP2.out); rw [HMID.out] at this; exact this) _ HW2.out)
              go_wp2_with (go_at_call_of 56 (Value.int IntKind.i64 (e : Int)); refine hr2.out.mono ?_; rintro e3 w3 ⟨rfl, d3, hP3, hT3, hS3⟩; have HW3 := Lib.hid hS3; have HP3 := Lib.hid hP3; have HT3 := Lib.hid hT3; clear hS3 hP3 hT3)
              all_goals
                go_end0
                have hM := merged hT (d1 := mapIx d (rof s m e)) hamid (by omega) (by have := HD.out; have := HZ1.out; omega) (fun p q g1 g2 g3 g4 => PCX.out p q g1 (by have := HMID.out; omega) (by have := HMID.out; omega) g4) HP2.out HT2.out HP3.out HT3.out
                exact ⟨rfl, _, permIn_trans _ _ _ _ _ HP1.out hM.1, hM.2, HW3.out⟩
        · have hA1 : s < m := by assumption
          have f1 : (s : Int) < (m : Int) := by omega
          have f2 : (m : Int) < (e : Int) := by omega
          have f3 : (a : Int) < (s : Int) := by omega
          have f4 : (s : Int) < (mid : Int) := by have := K6.out; omega
          have f5 : (mid : Int) < (e : Int) := by have := K6.out; omega
          have f6 : ¬ (e : Int) < (b : Int) := by omega
          have hc := Lib.hid (rotate xs w0 blk off cap d0 d R HDD.out s m e hA hB (by have := HD.out; omega) FX wr HSW.out)
          have hc2 : Hid (Calls Try.prog 72 #[.slice (some ⟨blk, off, none⟩) D cap, .int .i64 s, .int .i64 m, .int .i64 e, FX] wr fun e1 w' => e1 = .returned (.tuple #[]) ∧ SWK (encX xs) 4 w0 blk off (mapIx d (rof s m e)) w' ∧ PermIn s e d (mapIx d (rof s m e))) := by have := hc.out; rw [HD.out] at this; exact this
          clear hc
          go_wp2_with (go_at_call 72; refine hc2.out.mono ?_; rintro e1 w1 ⟨rfl, hS1, hP1⟩; have HW1 := Lib.hid hS1; have HP1 := Lib.hid (permIn_mono _ _ _ _ a b k1 k4 (by have := HD.out; omega) hP1); clear hS1 hP1)
          all_goals
            have hl := Lib.hid (HI.out (mapIx d (rof s m e)) a s mid (HZ1.out.trans HD.out) hC (by omega) (by omega) (by omega) (sorted_ls HX.out HS1.out) (by have := sorted_lm HX.out HS2.out; rw [HMID.out] at this; exact this) (by have := ahd_left HX.out HA.out; rw [HMID.out] at this; exact this) _ HW1.out)
            go_wp2_with (go_at_call_of 56 (Value.int IntKind.i64 (s : Int)); refine hl.out.mono ?_; rintro e2 w2 ⟨rfl, d2, hP2, hT2, hS2⟩; have HW2 := Lib.hid hS2; have HP2 := Lib.hid hP2; have HT2 := Lib.hid hT2; clear hS2 hP2 hT2)
            all_goals
              have HW3 := HW2
              have HP3 : Hid (PermIn mid b d2 d2) := permIn_refl _ _ _
              have HT3 : Hid (SortedIn (TX xs) mid b d2) := RS.out d2 HP2.out (fun i j _ _ _ _ => by omega)
              go_wp2
              all_goals
                go_end0
                have hM := merged hT (d1 := mapIx d (rof s m e)) hamid (by omega) (by have := HD.out; have := HZ1.out; omega) (fun p q g1 g2 g3 g4 => PCX.out p q g1 (by have := HMID.out; omega) (by have := HMID.out; omega) g4) HP2.out HT2.out HP3.out HT3.out
                exact ⟨rfl, _, permIn_trans _ _ _ _ _ HP1.out hM.1, hM.2, HW3.out⟩
        · have hA1 : s < m := by assumption
          have f1 : (s : Int) < (m : Int) := by omega
          have f2 : (m : Int) < (e : Int) := by omega
          have f3 : ¬ (a : Int) < (s : Int) := by omega
          have f4 : (s : Int) < (mid : Int) := by have := K6.out; omega
          have f5 : (mid : Int) < (e : Int) := by have := K6.out; omega
          have f6 : (e : Int) < (b : Int) := by omega
          have hc := Lib.hid (rotate xs w0 blk off cap d0 d R HDD.out s m e hA hB (by have := HD.out; omega) FX wr HSW.out)
          have hc2 : Hid (Calls Try.prog 72 #[.slice (some ⟨blk, off, none⟩) D cap, .int .i64 s, .int .i64 m, .int .i64 e, FX] wr fun e1 w' => e1 = .returned (.tuple #[]) ∧ SWK (encX xs) 4 w0 blk off (mapIx d (rof s m e)) w' ∧ PermIn s e d (mapIx d (rof s m e))) := by have := hc.out; rw [HD.out] at this; exact this
          clear hc
          go_wp2_with (go_at_call 72; refine hc2.out.mono ?_; rintro e1 w1 ⟨rfl, hS1, hP1⟩; have HW1 := Lib.hid hS1; have HP1 := Lib.hid (permIn_mono _ _ _ _ a b k1 k4 (by have := HD.out; omega) hP1); clear hS1 hP1)
          all_goals
            have HW2 := HW1
            have HP2 : Hid (PermIn a mid (mapIx d (rof s m e)) (mapIx d (rof s m e))) := permIn_refl _ _ _
            have HT2 : Hid (SortedIn (TX xs) a mid (mapIx d (rof s m e))) := by have := LS.out (fun i j _ _ _ _ => by omega); rw [HMID.out] at this; exact this
            have hr2 := Lib.hid (HI.out (mapIx d (rof s m e)) mid e b (HP2.out.1.trans (HZ1.out.trans HD.out)) (by have := K6.out; omega) hE (by omega) (by omega) (by have := sorted_rm HX.out HS1.out (by rw [HMID.out]; exact HP2.out); rw [HMID.out] at this; exact this) (sorted_rb HX.out HS2.out (by rw [HMID.out]; exact HP2.out)) (by have := ahd_right HX.out HA.out (by rw [HMID.out]; exact HP2.out); rw [HMID.out] at this; exact this) _ HW2.out)
            go_wp2_with (go_at_call_of 56 (Value.int IntKind.i64 (e : Int)); refine hr2.out.mono ?_; rintro e3 w3 ⟨rfl, d3, hP3, hT3, hS3⟩; have HW3 := Lib.hid hS3; have HP3 := Lib.hid hP3; have HT3 := Lib.hid hT3; clear hS3 hP3 hT3)
            all_goals
              go_end0
              have hM := merged hT (d1 := mapIx d (rof s m e)) hamid (by omega) (by have := HD.out; have := HZ1.out; omega) (fun p q g1 g2 g3 g4 => PCX.out p q g1 (by have := HMID.out; omega) (by have := HMID.out; omega) g4) HP2.out HT2.out HP3.out HT3.out
              exact ⟨rfl, _, permIn_trans _ _ _ _ _ HP1.out hM.1, hM.2, HW3.out⟩
        · have hA1 : s < m := by assumption
          have f1 : (s : Int) < (m : Int) := by omega
          have f2 : (m : Int) < (e : Int) := by omega
          have f3 : ¬ (a : Int) < (s : Int) := by omega
          have f4 : (s : Int) < (mid : Int) := by have := K6.out; omega
          have f5 : (mid : Int) < (e : Int) := by have := K6.out; omega
          have f6 : ¬ (e : Int) < (b : Int) := by omega
          have hc := Lib.hid (rotate xs w0 blk off cap d0 d R HDD.out s m e hA hB (by have := HD.out; omega) FX wr HSW.out)
          have hc2 : Hid (Calls Try.prog 72 #[.slice (some ⟨blk, off, none⟩) D cap, .int .i64 s, .int .i64 m, .int .i64 e, FX] wr fun e1 w' => e1 = .returned (.tuple #[]) ∧ SWK (encX xs) 4 w0 blk off (mapIx d (rof s m e)) w' ∧ PermIn s e d (mapIx d (rof s m e))) := by have := hc.out; rw [HD.out] at this; exact this
          clear hc
          go_wp2_with (go_at_call 72; refine hc2.out.mono ?_; rintro e1 w1 ⟨rfl, hS1, hP1⟩; have HW1 := Lib.hid hS1; have HP1 := Lib.hid (permIn_mono _ _ _ _ a b k1 k4 (by have := HD.out; omega) hP1); clear hS1 hP1)
          all_goals
            have HW2 := HW1
            have HP2 : Hid (PermIn a mid (mapIx d (rof s m e)) (mapIx d (rof s m e))) := permIn_refl _ _ _
            have HT2 : Hid (SortedIn (TX xs) a mid (mapIx d (rof s m e))) := by have := LS.out (fun i j _ _ _ _ => by omega); rw [HMID.out] at this; exact this
            have HW3 := HW2
            have HP3 : Hid (PermIn mid b (mapIx d (rof s m e)) (mapIx d (rof s m e))) := permIn_refl _ _ _
            have HT3 : Hid (SortedIn (TX xs) mid b (mapIx d (rof s m e))) := RS.out (mapIx d (rof s m e)) HP2.out (fun i j _ _ _ _ => by omega)
            go_wp2
            all_goals
              go_end0
              have hM := merged hT (d1 := mapIx d (rof s m e)) hamid (by omega) (by have := HD.out; have := HZ1.out; omega) (fun p q g1 g2 g3 g4 => PCX.out p q g1 (by have := HMID.out; omega) (by have := HMID.out; omega) g4) HP2.out HT2.out HP3.out HT3.out
              exact ⟨rfl, _, permIn_trans _ _ _ _ _ HP1.out hM.1, hM.2, HW3.out⟩
        · have hA1 : s < m := by assumption
          have f1 : (s : Int) < (m : Int) := by omega
          have f2 : ¬ (m : Int) < (e : Int) := by omega
          have f3 : (a : Int) < (s : Int) := by omega
          have f4 : ¬ (s : Int) < (mid : Int) := by have := K6.out; omega
          have f5 : (mid : Int) < (e : Int) := by have := K6.out; omega
          have f6 : (e : Int) < (b : Int) := by omega
          have hid1 : mapIx d (rof s m e) = d := mapIx_id d _ fun q _ => by unfold rof; (repeat' split) <;> omega
          have HW1 : Hid (SWK (encX xs) 4 w0 blk off (mapIx d (rof s m e)) wr) := by rw [hid1]; exact HSW.out
          have HP1 : Hid (PermIn a b d (mapIx d (rof s m e))) := by rw [hid1]; exact permIn_refl _ _ _
          clear hid1
          have HW2 := HW1
          have HP2 : Hid (PermIn a mid (mapIx d (rof s m e)) (mapIx d (rof s m e))) := permIn_refl _ _ _
          have HT2 : Hid (SortedIn (TX xs) a mid (mapIx d (rof s m e))) := by have := LS.out (fun i j _ _ _ _ => by omega); rw [HMID.out] at this; exact this
          have hr2 := Lib.hid (HI.out (mapIx d (rof s m e)) mid e b (HP2.out.1.trans (HZ1.out.trans HD.out)) (by have := K6.out; omega) hE (by omega) (by omega) (by have := sorted_rm HX.out HS1.out (by rw [HMID.out]; exact HP2.out); rw [HMID.out] at this; exact this) (sorted_rb HX.out HS2.out (by rw [HMID.out]; exact HP2.out)) (by have := ahd_right HX.out HA.out (by rw [HMID.out]; exact HP2.out); rw [HMID.out] at this; exact this) _ HW2.out)
          go_wp2_with (go_at_call_of 56 (Value.int IntKind.i64 (e : Int)); refine hr2.out.mono ?_; rintro e3 w3 ⟨rfl, d3, hP3, hT3, hS3⟩; have HW3 := Lib.hid hS3; have HP3 := Lib.hid hP3; have HT3 := Lib.hid hT3; clear hS3 hP3 hT3)
          all_goals
            go_end0
            have hM := merged hT (d1 := mapIx d (rof s m e)) hamid (by omega) (by have := HD.out; have := HZ1.out; omega) (fun p q g1 g2 g3 g4 => PCX.out p q g1 (by have := HMID.out; omega) (by have := HMID.out; omega) g4) HP2.out HT2.out HP3.out HT3.out
            exact ⟨rfl, _, permIn_trans _ _ _ _ _ HP1.out hM.1, hM.2, HW3.out⟩
        · have hA1 : s < m := by assumption
          have f1 : (s : Int) < (m : Int) := by omega
          have f2 : ¬ (m : Int) < (e : Int) := by omega
          have f3 : (a : Int) < (s : Int) := by omega
          have f4 : ¬ (s : Int) < (mid : Int) := by have := K6.out; omega
          have f5 : (mid : Int) < (e : Int) := by have := K6.out; omega
          have f6 : ¬ (e : Int) < (b : Int) := by omega
          have hid1 : mapIx d (rof s m e) = d := mapIx_id d _ fun q _ => by unfold rof; (repeat' split) <;> omega
          have HW1 : Hid (SWK (encX xs) 4 w0 blk off (mapIx d (rof s m e)) wr) := by rw [hid1]; exact HSW.out
          have HP1 : Hid (PermIn a b d (mapIx d (rof s m e))) := by rw [hid1]; exact permIn_refl _ _ _
          clear hid1
          have HW2 := HW1
          have HP2 : Hid (PermIn a mid (mapIx d (rof s m e)) (mapIx d (rof s m e))) := permIn_refl _ _ _
          have HT2 : Hid (SortedIn (TX xs) a mid (mapIx d (rof s m e))) := by have := LS.out (fun i j _ _ _ _ => by omega); rw [HMID.out] at this; exact this
          have HW3 := HW2
          have HP3 : Hid (PermIn mid b (mapIx d (rof s m e)) (mapIx d (rof s m e))) := permIn_refl _ _ _
          have HT3 : Hid (SortedIn (TX xs) mid b (mapIx d (rof s m e))) := RS.out (mapIx d (rof s m e)) HP2.out (fun i j _ _ _ _ => by omega)
          go_wp2
          all_goals
            go_end0
            have hM := merged hT (d1 := mapIx d (rof s m e)) hamid (by omega) (by have := HD.out; have := HZ1.out; omega) (fun p q g1 g2 g3 g4 => PCX.out p q g1 (by have := HMID.out; omega) (by have := HMID.out; omega) g4) HP2.out HT2.out HP3.out HT3.out
            exact ⟨rfl, _, permIn_trans _ _ _ _ _ HP1.out hM.1, hM.2, HW3.out⟩
        · have hA1 : s < m := by assumption
          have f1 : (s : Int) < (m : Int) := by omega
          have f2 : ¬ (m : Int) < (e : Int) := by omega
          have f3 : ¬ (a : Int) < (s : Int) := by omega
          have f4 : ¬ (s : Int) < (mid : Int) := by have := K6.out; omega
          have f5 : (mid : Int) < (e : Int) := by have := K6.out; omega
          have f6 : (e : Int) < (b : Int) := by omega
          have hid1 : mapIx d (rof s m e) = d := mapIx_id d _ fun q _ => by unfold rof; (repeat' split) <;> omega
          have HW1 : Hid (SWK (encX xs) 4 w0 blk off (mapIx d (rof s m e)) wr) := by rw [hid1]; exact HSW.out
          have HP1 : Hid (PermIn a b d (mapIx d (rof s m e))) := by rw [hid1]; exact permIn_refl _ _ _
          clear hid1
          have HW2 := HW1
          have HP2 : Hid (PermIn a mid (mapIx d (rof s m e)) (mapIx d (rof s m e))) := permIn_refl _ _ _
          have HT2 : Hid (SortedIn (TX xs) a mid (mapIx d (rof s m e))) := by have := LS.out (fun i j _ _ _ _ => by omega); rw [HMID.out] at this; exact this
          have hr2 := Lib.hid (HI.out (mapIx d (rof s m e)) mid e b (HP2.out.1.trans (HZ1.out.trans HD.out)) (by have := K6.out; omega) hE (by omega) (by omega) (by have := sorted_rm HX.out HS1.out (by rw [HMID.out]; exact HP2.out); rw [HMID.out] at this; exact this) (sorted_rb HX.out HS2.out (by rw [HMID.out]; exact HP2.out)) (by have := ahd_right HX.out HA.out (by rw [HMID.out]; exact HP2.out); rw [HMID.out] at this; exact this) _ HW2.out)
          go_wp2_with (go_at_call_of 56 (Value.int IntKind.i64 (e : Int)); refine hr2.out.mono ?_; rintro e3 w3 ⟨rfl, d3, hP3, hT3, hS3⟩; have HW3 := Lib.hid hS3; have HP3 := Lib.hid hP3; have HT3 := Lib.hid hT3; clear hS3 hP3 hT3)
          all_goals
            go_end0
            have hM := merged hT (d1 := mapIx d (rof s m e)) hamid (by omega) (by have := HD.out; have := HZ1.out; omega) (fun p q g1 g2 g3 g4 => PCX.out p q g1 (by have := HMID.out; omega) (by have := HMID.out; omega) g4) HP2.out HT2.out HP3.out HT3.out
            exact ⟨rfl, _, permIn_trans _ _ _ _ _ HP1.out hM.1, hM.2, HW3.out⟩
        · have hA1 : s < m := by assumption
          have f1 : (s : Int) < (m : Int) := by omega
          have f2 : ¬ (m : Int) < (e : Int) := by omega
          have f3 : ¬ (a : Int) < (s : Int) := by omega
          have f4 : ¬ (s : Int) < (mid : Int) := by have := K6.out; omega
          have f5 : (mid : Int) < (e : Int) := by have := K6.out; omega
          have f6 : ¬ (e : Int) < (b : Int) := by omega
          have hid1 : mapIx d (rof s m e) = d := mapIx_id d _ fun q _ => by unfold rof; (repeat' split) <;> omega
          have HW1 : Hid (SWK (encX xs) 4 w0 blk off (mapIx d (rof s m e)) wr) := by rw [hid1]; exact HSW.out
          have HP1 : Hid (PermIn a b d (mapIx d (rof s m e))) := by rw [hid1]; exact permIn_refl _ _ _
          clear hid1
          have HW2 := HW1
          have HP2 : Hid (PermIn a mid (mapIx d (rof s m e)) (mapIx d (rof s m e))) := permIn_refl _ _ _
          have HT2 : Hid (SortedIn (TX xs) a mid (mapIx d (rof s m e))) := by have := LS.out (fun i j _ _ _ _ => by omega); rw [HMID.out] at this; exact this
          have HW3 := HW2
          have HP3 : Hid (PermIn mid b (mapIx d (rof s m e)) (mapIx d (rof s m e))) := permIn_refl _ _ _
          have HT3 : Hid (SortedIn (TX xs) mid b (mapIx d (rof s m e))) := RS.out (mapIx d (rof s m e)) HP2.out (fun i j _ _ _ _ => by omega)
          go_wp2
          all_goals
            go_end0
            have hM := merged hT (d1 := mapIx d (rof s m e)) hamid (by omega) (by have := HD.out; have := HZ1.out; omega) (fun p q g1 g2 g3 g4 => PCX.out p q g1 (by have := HMID.out; omega) (by have := HMID.out; omega) g4) HP2.out HT2.out HP3.out HT3.out
            exact ⟨rfl, _, permIn_trans _ _ _ _ _ HP1.out hM.1, hM.2, HW3.out⟩
        · have hA1 : m ≤ s := by assumption
          have f1 : ¬ (s : Int) < (m : Int) := by omega
          have f2 : (m : Int) < (e : Int) := by omega
          have f3 : (a : Int) < (s : Int) := by omega
          have f4 : (s : Int) < (mid : Int) := by have := K6.out; omega
          have f5 : ¬ (mid : Int) < (e : Int) := by have := K6.out; omega
          have f6 : (e : Int) < (b : Int) := by omega
          have hid1 : mapIx d (rof s m e) = d := mapIx_id d _ fun q _ => by unfold rof; (repeat' split) <;> omega
          have HW1 : Hid (SWK (encX xs) 4 w0 blk off (mapIx d (rof s m e)) wr) := by rw [hid1]; exact HSW.out
          have HP1 : Hid (PermIn a b d (mapIx d (rof s m e))) := by rw [hid1]; exact permIn_refl _ _ _
          clear hid1
          have hl := Lib.hid (HI.out (mapIx d (rof s m e)) a s mid (HZ1.out.trans HD.out) hC (by omega) (by omega) (by omega) (sorted_ls HX.out HS1.out) (by have := sorted_lm HX.out HS2.out; rw [HMID.out] at this; exact this) (by have := ahd_left HX.out HA.out; rw [HMID.out] at this; exact this) _ HW1.out)
          go_wp2_with (go_at_call_of 56 (Value.int IntKind.i64 (s : Int)); refine hl.out.mono ?_; rintro e2 w2 ⟨rfl, d2, hP2, hT2, hS2⟩; have HW2 := Lib.hid hS2; have HP2 := Lib.hid hP2; have HT2 := Lib.hid hT2; clear hS2 hP2 hT2)
          all_goals
            have HW3 := HW2
            have HP3 : Hid (PermIn mid b d2 d2) := permIn_refl _ _ _
            have HT3 : Hid (SortedIn (TX xs) mid b d2) := RS.out d2 HP2.out (fun i j _ _ _ _ => by omega)
            go_wp2
            all_goals
              go_end0
              have hM := merged hT (d1 := mapIx d (rof s m e)) hamid (by omega) (by have := HD.out; have := HZ1.out; omega) (fun p q g1 g2 g3 g4 => PCX.out p q g1 (by have := HMID.out; omega) (by have := HMID.out; omega) g4) HP2.out HT2.out HP3.out HT3.out
              exact ⟨rfl, _, permIn_trans _ _ _ _ _ HP1.out hM.1, hM.2, HW3.out⟩
        · have hA1 : m ≤ s := by assumption
          have f1 : ¬ (s : Int) < (m : Int) := by omega
          have f2 : (m : Int) < (e : Int) := by omega
          have f3 : (a : Int) < (s : Int) := by omega
          have f4 : (s : Int) < (mid : Int) := by have := K6.out; omega
          have f5 : ¬ (mid : Int) < (e : Int) := by have := K6.out; omega
          have f6 : ¬ (e : Int) < (b : Int) := by omega
          have hid1 : mapIx d (rof s m e) = d := mapIx_id d _ fun q _ => by unfold rof; (repeat' split) <;> omega
          have HW1 : Hid (SWK (encX xs) 4 w0 blk off (mapIx d (rof s m e)) wr) := by rw [hid1]; exact HSW.out
          have HP1 : Hid (PermIn a b d (mapIx d (rof s m e))) := by rw [hid1]; exact permIn_refl _ _ _
          clear hid1
          have hl := Lib.hid (HI.out (mapIx d (rof s m e)) a s mid (HZ1.out.trans HD.out) hC (by omega) (by omega) (by omega) (sorted_ls HX.out HS1.out) (by have := sorted_lm HX.out HS2.out; rw [HMID.out] at this; exact this) (by have := ahd_left HX.out HA.out; rw [HMID.out] at this; exact this) _ HW1.out)
          go_wp2_with (go_at_call_of 56 (Value.int IntKind.i64 (s : Int)); refine hl.out.mono ?_; rintro e2 w2 ⟨rfl, d2, hP2, hT2, hS2⟩; have HW2 := Lib.hid hS2; have HP2 := Lib.hid hP2; have HT2 := Lib.hid hT2; clear hS2 hP2 hT2)
          all_goals
            have HW3 := HW2
            have HP3 : Hid (PermIn mid b d2 d2) := permIn_refl _ _ _
            have HT3 : Hid (SortedIn (TX xs) mid b d2) := RS.out d2 HP2.out (fun i j _ _ _ _ => by omega)
            go_wp2
            all_goals
              go_end0
              have hM := merged hT (d1 := mapIx d (rof s m e)) hamid (by omega) (by have := HD.out; have := HZ1.out; omega) (fun p q g1 g2 g3 g4 => PCX.out p q g1 (by have := HMID.out; omega) (by have := HMID.out; omega) g4) HP2.out HT2.out HP3.out HT3.out
              exact ⟨rfl, _, permIn_trans _ _ _ _ _ HP1.out hM.1, hM.2, HW3.out⟩
        · have hA1 : m ≤ s := by assumption
          have f1 : ¬ (s : Int) < (m : Int) := by omega
          have f2 : (m : Int) < (e : Int) := by omega
          have f3 : ¬ (a : Int) < (s : Int) := by omega
          have f4 : (s : Int) < (mid : Int) := by have := K6.out; omega
          have f5 : ¬ (mid : Int) < (e : Int) := by have := K6.out; omega
          have f6 : (e : Int) < (b : Int) := by omega
          have hid1 : mapIx d (rof s m e) = d := mapIx_id d _ fun q _ => by unfold rof; (repeat' split) <;> omega
          have HW1 : Hid (SWK (encX xs) 4 w0 blk off (mapIx d (rof s m e)) wr) := by rw [hid1]; exact HSW.out
          have HP1 : Hid (PermIn a b d (mapIx d (rof s m e))) := by rw [hid1]; exact permIn_refl _ _ _
          clear hid1
          have HW2 := HW1
          have HP2 : Hid (PermIn a mid (mapIx d (rof s m e)) (mapIx d (rof s m e))) := permIn_refl _ _ _
          have HT2 : Hid (SortedIn (TX xs) a mid (mapIx d (rof s m e))) := by have := LS.out (fun i j _ _ _ _ => by omega); rw [HMID.out] at this; exact this
          have HW3 := HW2
          have HP3 : Hid (PermIn mid b (mapIx d (rof s m e)) (mapIx d (rof s m e))) := permIn_refl _ _ _
          have HT3 : Hid (SortedIn (TX xs) mid b (mapIx d (rof s m e))) := RS.out (mapIx d (rof s m e)) HP2.out (fun i j _ _ _ _ => by omega)
          go_wp2
          all_goals
            go_end0
            have hM := merged hT (d1 := mapIx d (rof s m e)) hamid (by omega) (by have := HD.out; have := HZ1.out; omega) (fun p q g1 g2 g3 g4 => PCX.out p q g1 (by have := HMID.out; omega) (by have := HMID.out; omega) g4) HP2.out HT2.out HP3.out HT3.out
            exact ⟨rfl, _, permIn_trans _ _ _ _ _ HP1.out hM.1, hM.2, HW3.out⟩
        · have hA1 : m ≤ s := by assumption
          have f1 : ¬ (s : Int) < (m : Int) := by omega
          have f2 : (m : Int) < (e : Int) := by omega
          have f3 : ¬ (a : Int) < (s : Int) := by omega
          have f4 : (s : Int) < (mid : Int) := by have := K6.out; omega
          have f5 : ¬ (mid : Int) < (e : Int) := by have := K6.out; omega
          have f6 : ¬ (e : Int) < (b : Int) := by omega
          have hid1 : mapIx d (rof s m e) = d := mapIx_id d _ fun q _ => by unfold rof; (repeat' split) <;> omega
          have HW1 : Hid (SWK (encX xs) 4 w0 blk off (mapIx d (rof s m e)) wr) := by rw [hid1]; exact HSW.out
          have HP1 : Hid (PermIn a b d (mapIx d (rof s m e))) := by rw [hid1]; exact permIn_refl _ _ _
          clear hid1
          have HW2 := HW1
          have HP2 : Hid (PermIn a mid (mapIx d (rof s m e)) (mapIx d (rof s m e))) := permIn_refl _ _ _
          have HT2 : Hid (SortedIn (TX xs) a mid (mapIx d (rof s m e))) := by have := LS.out (fun i j _ _ _ _ => by omega); rw [HMID.out] at this; exact this
          have HW3 := HW2
          have HP3 : Hid (PermIn mid b (mapIx d (rof s m e)) (mapIx d (rof s m e))) := permIn_refl _ _ _
          have HT3 : Hid (SortedIn (TX xs) mid b (mapIx d (rof s m e))) := RS.out (mapIx d (rof s m e)) HP2.out (fun i j _ _ _ _ => by omega)
          go_wp2
          all_goals
            go_end0
            have hM := merged hT (d1 := mapIx d (rof s m e)) hamid (by omega) (by have := HD.out; have := HZ1.out; omega) (fun p q g1 g2 g3 g4 => PCX.out p q g1 (by have := HMID.out; omega) (by have := HMID.out; omega) g4) HP2.out HT2.out HP3.out HT3.out
            exact ⟨rfl, _, permIn_trans _ _ _ _ _ HP1.out hM.1, hM.2, HW3.out⟩
        · have hA1 : m ≤ s := by assumption
          have f1 : ¬ (s : Int) < (m : Int) := by omega
          have f2 : ¬ (m : Int) < (e : Int) := by omega
          have f3 : (a : Int) < (s : Int) := by omega
          have f4 : ¬ (s : Int) < (mid : Int) := by have := K6.out; omega
          have f5 : ¬ (mid : Int) < (e : Int) := by have := K6.out; omega
          have f6 : (e : Int) < (b : Int) := by omega
          have hid1 : mapIx d (rof s m e) = d := mapIx_id d _ fun q _ => by unfold rof; (repeat' split) <;> omega
          have HW1 : Hid (SWK (encX xs) 4 w0 blk off (mapIx d (rof s m e)) wr) := by rw [hid1]; exact HSW.out
          have HP1 : Hid (PermIn a b d (mapIx d (rof s m e))) := by rw [hid1]; exact permIn_refl _ _ _
          clear hid1
          have HW2 := HW1
          have HP2 : Hid (PermIn a mid (mapIx d (rof s m e)) (mapIx d (rof s m e))) := permIn_refl _ _ _
          have HT2 : Hid (SortedIn (TX xs) a mid (mapIx d (rof s m e))) := by have := LS.out (fun i j _ _ _ _ => by omega); rw [HMID.out] at this; exact this
          have HW3 := HW2
          have HP3 : Hid (PermIn mid b (mapIx d (rof s m e)) (mapIx d (rof s m e))) := permIn_refl _ _ _
          have HT3 : Hid (SortedIn (TX xs) mid b (mapIx d (rof s m e))) := RS.out (mapIx d (rof s m e)) HP2.out (fun i j _ _ _ _ => by omega)
          go_wp2
          all_goals
            go_end0
            have hM := merged hT (d1 := mapIx d (rof s m e)) hamid (by omega) (by have := HD.out; have := HZ1.out; omega) (fun p q g1 g2 g3 g4 => PCX.out p q g1 (by have := HMID.out; omega) (by have := HMID.out; omega) g4) HP2.out HT2.out HP3.out HT3.out
            exact ⟨rfl, _, permIn_trans _ _ _ _ _ HP1.out hM.1, hM.2, HW3.out⟩
        · have hA1 : m ≤ s := by assumption
          have f1 : ¬ (s : Int) < (m : Int) := by omega
          have f2 : ¬ (m : Int) < (e : Int) := by omega
          have f3 : (a : Int) < (s : Int) := by omega
          have f4 : ¬ (s : Int) < (mid : Int) := by have := K6.out; omega
          have f5 : ¬ (mid : Int) < (e : Int) := by have := K6.out; omega
          have f6 : ¬ (e : Int) < (b : Int) := by omega
          have hid1 : mapIx d (rof s m e) = d := mapIx_id d _ fun q _ => by unfold rof; (repeat' split) <;> omega
          have HW1 : Hid (SWK (encX xs) 4 w0 blk off (mapIx d (rof s m e)) wr) := by rw [hid1]; exact HSW.out
          have HP1 : Hid (PermIn a b d (mapIx d (rof s m e))) := by rw [hid1]; exact permIn_refl _ _ _
          clear hid1
          have HW2 := HW1
          have HP2 : Hid (PermIn a mid (mapIx d (rof s m e)) (mapIx d (rof s m e))) := permIn_refl _ _ _
          have HT2 : Hid (SortedIn (TX xs) a mid (mapIx d (rof s m e))) := by have := LS.out (fun i j _ _ _ _ => by omega); rw [HMID.out] at this; exact this
          have HW3 := HW2
          have HP3 : Hid (PermIn mid b (mapIx d (rof s m e)) (mapIx d (rof s m e))) := permIn_refl _ _ _
          have HT3 : Hid (SortedIn (TX xs) mid b (mapIx d (rof s m e))) := RS.out (mapIx d (rof s m e)) HP2.out (fun i j _ _ _ _ => by omega)
          go_wp2
          all_goals
            go_end0
            have hM := merged hT (d1 := mapIx d (rof s m e)) hamid (by omega) (by have := HD.out; have := HZ1.out; omega) (fun p q g1 g2 g3 g4 => PCX.out p q g1 (by have := HMID.out; omega) (by have := HMID.out; omega) g4) HP2.out HT2.out HP3.out HT3.out
            exact ⟨rfl, _, permIn_trans _ _ _ _ _ HP1.out hM.1, hM.2, HW3.out⟩
        · have hA1 : m ≤ s := by assumption
          have f1 : ¬ (s : Int) < (m : Int) := by omega
          have f2 : ¬ (m : Int) < (e : Int) := by omega
          have f3 : ¬ (a : Int) < (s : Int) := by omega
          have f4 : ¬ (s : Int) < (mid : Int) := by have := K6.out; omega
          have f5 : ¬ (mid : Int) < (e : Int) := by have := K6.out; omega
          have f6 : (e : Int) < (b : Int) := by omega
          have hid1 : mapIx d (rof s m e) = d := mapIx_id d _ fun q _ => by unfold rof; (repeat' split) <;> omega
          have HW1 : Hid (SWK (encX xs) 4 w0 blk off (mapIx d (rof s m e)) wr) := by rw [hid1]; exact HSW.out
          have HP1 : Hid (PermIn a b d (mapIx d (rof s m e))) := by rw [hid1]; exact permIn_refl _ _ _
          clear hid1
          have HW2 := HW1
          have HP2 : Hid (PermIn a mid (mapIx d (rof s m e)) (mapIx d (rof s m e))) := permIn_refl _ _ _
          have HT2 : Hid (SortedIn (TX xs) a mid (mapIx d (rof s m e))) := by have := LS.out (fun i j _ _ _ _ => by omega); rw [HMID.out] at this; exact this
          have HW3 := HW2
          have HP3 : Hid (PermIn mid b (mapIx d (rof s m e)) (mapIx d (rof s m e))) := permIn_refl _ _ _
          have HT3 : Hid (SortedIn (TX xs) mid b (mapIx d (rof s m e))) := RS.out (mapIx d (rof s m e)) HP2.out (fun i j _ _ _ _ => by omega)
          go_wp2
          all_goals
            go_end0
            have hM := merged hT (d1 := mapIx d (rof s m e)) hamid (by omega) (by have := HD.out; have := HZ1.out; omega) (fun p q g1 g2 g3 g4 => PCX.out p q g1 (by have := HMID.out; omega) (by have := HMID.out; omega) g4) HP2.out HT2.out HP3.out HT3.out
            exact ⟨rfl, _, permIn_trans _ _ _ _ _ HP1.out hM.1, hM.2, HW3.out⟩
        · have hA1 : m ≤ s := by assumption
          have f1 : ¬ (s : Int) < (m : Int) := by omega
          have f2 : ¬ (m : Int) < (e : Int) := by omega
          have f3 : ¬ (a : Int) < (s : Int) := by omega
          have f4 : ¬ (s : Int) < (mid : Int) := by have := K6.out; omega
          have f5 : ¬ (mid : Int) < (e : Int) := by have := K6.out; omega
          have f6 : ¬ (e : Int) < (b : Int) := by omega
          have hid1 : mapIx d (rof s m e) = d := mapIx_id d _ fun q _ => by unfold rof; (repeat' split) <;> omega
          have HW1 : Hid (SWK (encX xs) 4 w0 blk off (mapIx d (rof s m e)) wr) := by rw [hid1]; exact HSW.out
          have HP1 : Hid (PermIn a b d (mapIx d (rof s m e))) := by rw [hid1]; exact permIn_refl _ _ _
          clear hid1
          have HW2 := HW1
          have HP2 : Hid (PermIn a mid (mapIx d (rof s m e)) (mapIx d (rof s m e))) := permIn_refl _ _ _
          have HT2 : Hid (SortedIn (TX xs) a mid (mapIx d (rof s m e))) := by have := LS.out (fun i j _ _ _ _ => by omega); rw [HMID.out] at this; exact this
          have HW3 := HW2
          have HP3 : Hid (PermIn mid b (mapIx d (rof s m e)) (mapIx d (rof s m e))) := permIn_refl _ _ _
          have HT3 : Hid (SortedIn (TX xs) mid b (mapIx d (rof s m e))) := RS.out (mapIx d (rof s m e)) HP2.out (fun i j _ _ _ _ => by omega)
          go_wp2
          all_goals
            go_end0
            have hM := merged hT (d1 := mapIx d (rof s m e)) hamid (by omega) (by have := HD.out; have := HZ1.out; omega) (fun p q g1 g2 g3 g4 => PCX.out p q g1 (by have := HMID.out; omega) (by have := HMID.out; omega) g4) HP2.out HT2.out HP3.out HT3.out
            exact ⟨rfl, _, permIn_trans _ _ _ _ _ HP1.out hM.1, hM.2, HW3.out⟩

theorem merges (hT : SWO (TX xs)) (w0 : World) (blk off cap D : Nat) (d0 : Array Nat) (R : Row xs w0 blk off d0) (hd0 : d0.size = D) : ∀ (N : Nat) (d : Array Nat) (a m b : Nat), d.size = D → b - a ≤ N → a < m → m < b → b ≤ D → SortedIn (TX xs) a m d → SortedIn (TX xs) m b d → Ahd (ltX xs) (TX xs) a m b d → Merges xs w0 blk off cap D d a m b
  | 0, d, a, m, b, hd, hN, h1, h2, _, _, _, _ => by omega
  | N + 1, d, a, m, b, hd, hN, h1, h2, h3, s1, s2, hA => by
    by_cases e1 : m = a + 1
    · subst e1
      intro w S
      have := one_at_left xs hT w0 blk off cap d0 d R (hd.trans hd0.symm) a b h2 (by omega) s2 hA w S
      rw [hd] at this
      exact this
    · by_cases e2 : b = m + 1
      · subst e2
        intro w S
        have := one_at_right xs hT w0 blk off cap d0 d R (hd.trans hd0.symm) a m (by omega) (by omega) s1 hA w S
        rw [hd] at this
        exact this
      · exact merge_mid xs hT w0 blk off cap D d0 d R hd hd0 a m b (by omega) (by omega) h3 s1 s2 hA fun d' a' m' b' g1 g2 g3 g4 g5 g6 g7 g8 =>
          merges hT w0 blk off cap D d0 R hd0 N d' a' m' b' g1 (by omega) g2 g3 g4 g6 g7 g8
end Go.Proofs.Ytahhemgmlmhbjaa.SortN
