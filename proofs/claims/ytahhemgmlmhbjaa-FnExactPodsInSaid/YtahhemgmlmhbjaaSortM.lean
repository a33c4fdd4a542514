/- slices.SortStableFunc at samples: the symmetric merge of two neighbouring sorted rows. -/
import Derived.Test.YtahhemgmlmhbjaaSortR
namespace Go.Proofs.Ytahhemgmlmhbjaa.SortM
open Go.Shelf Go.RowKit Go.Lib Go.Sort
open Go.Proofs.Ytahhemgmlmhbjaa.C1
open Go.Proofs.Ytahhemgmlmhbjaa.C2
open Go.Proofs.Ytahhemgmlmhbjaa.Smps
open Go.Proofs.Ytahhemgmlmhbjaa.StM
open Go.Proofs.Ytahhemgmlmhbjaa.Cmp
open Go.Proofs.Ytahhemgmlmhbjaa.Sort
open Go.Proofs.Ytahhemgmlmhbjaa.SortR
set_option linter.unusedVariables false
variable (xs : List Smp)

def cfX (i j : Nat) : Int := cfS (xs.getD i default) (xs.getD j default)
def ltX (i j : Nat) : Bool := decide (cfX xs i j < 0)
/-- Ties are broken by the place of origin. -/
def TX (i j : Nat) : Bool := ltX xs i j || (!ltX xs j i && decide (i < j))
abbrev FX : Value := .func (.func 37) #[] #[]

theorem swk_grown {α : Type} [Inhabited α] {enc : α → List Value} {k : Nat} {w0 W : World} {blk off : Nat} {dk : Array α} (S : SWK enc k w0 blk off dk W) (n : Nat) (os : Array Obj) : SWK enc k w0 blk off dk (grow (W.drewN n) os) := by
  obtain ⟨n0, os0, rfl⟩ := S
  exact ⟨_, _, sortWorldK_grown_c enc k w0 blk off n0 n dk os0 os⟩

theorem cmp_at (x y : Nat) (wr : World) (n : Nat) (os : Array Obj) : Calls Try.prog 37 #[.agg #[.string (xs.getD x default).pod, .string (xs.getD x default).met, .int .i64 (xs.getD x default).val, .int .i64 (xs.getD x default).tick],
    .agg #[.string (xs.getD y default).pod, .string (xs.getD y default).met, .int .i64 (xs.getD y default).val, .int .i64 (xs.getD y default).tick]] (grow (wr.drewN n) os) fun e w' => e = .returned (.int .i64 (cfX xs x y)) ∧ ∃ q os', w' = grow ((grow (wr.drewN n) os).drewN q) os' :=
  cmp_samples _ _ _

theorem two_spots {w0 wr : World} {blk off : Nat} {d0 d : Array Nat} (R : Row xs w0 blk off d0) (S : SWK (encX xs) 4 w0 blk off d wr) (hd : d.size = d0.size) {h a : Nat} (hh : h < d.size) (ha : a < d.size) :
    (∀ n os, (grow (wr.drewN n) os).cell? ⟨blk, off + h * 4, none⟩ = some (.string (xs.getD d[h]! default).pod)) ∧ (∀ n os, (grow (wr.drewN n) os).cell? ⟨blk, off + h * 4 + 1, none⟩ = some (.string (xs.getD d[h]! default).met)) ∧
      (∀ n os, (grow (wr.drewN n) os).cell? ⟨blk, off + h * 4 + 2, none⟩ = some (.int .i64 (xs.getD d[h]! default).val)) ∧ (∀ n os, (grow (wr.drewN n) os).cell? ⟨blk, off + h * 4 + 3, none⟩ = some (.int .i64 (xs.getD d[h]! default).tick)) ∧
    (∀ n os, (grow (wr.drewN n) os).cell? ⟨blk, off + a * 4, none⟩ = some (.string (xs.getD d[a]! default).pod)) ∧ (∀ n os, (grow (wr.drewN n) os).cell? ⟨blk, off + a * 4 + 1, none⟩ = some (.string (xs.getD d[a]! default).met)) ∧
      (∀ n os, (grow (wr.drewN n) os).cell? ⟨blk, off + a * 4 + 2, none⟩ = some (.int .i64 (xs.getD d[a]! default).val)) ∧ (∀ n os, (grow (wr.drewN n) os).cell? ⟨blk, off + a * 4 + 3, none⟩ = some (.int .i64 (xs.getD d[a]! default).tick)) := by
  have HH : HoldsK (encX xs) 4 wr blk off d := S.holds R.hblk R.hH hd
  have h1 : At4 wr blk (off + h * 4) (xs.getD d[h]! default) := (spot_of HH hh).1
  have h2 : At4 wr blk (off + a * 4) (xs.getD d[a]! default) := (spot_of HH ha).1
  obtain ⟨a0, a1, a2, a3⟩ := h1.grown (S.lt R.hblk)
  obtain ⟨b0, b1, b2, b3⟩ := h2.grown (S.lt R.hblk)
  exact ⟨a0, a1, a2, a3, b0, b1, b2, b3⟩

set_option maxHeartbeats 800000 in
set_option maxRecDepth 100000 in
theorem one_at_left (hT : SWO (TX xs)) (w0 : World) (blk off cap : Nat) (d0 d : Array Nat) (R : Row xs w0 blk off d0) (hd : d.size = d0.size) (a b : Nat) (h2 : a + 1 < b) (h3 : b ≤ d.size) (s2 : SortedIn (TX xs) (a + 1) b d) (hA : Ahd (ltX xs) (TX xs) a (a + 1) b d) (w : World) (S : SWK (encX xs) 4 w0 blk off d w) :
    Calls Try.prog 56 #[.slice (some ⟨blk, off, none⟩) d.size cap, .int .i64 a, .int .i64 ((a + 1 : Nat) : Int), .int .i64 b, FX] w fun e w' => e = .returned (.tuple #[]) ∧ ∃ d', PermIn a b d d' ∧ SortedIn (TX xs) a b d' ∧ SWK (encX xs) 4 w0 blk off d' w' := by
  have mixed : Try.prog.follows .mixedOrders = true := by kernel_rfl
  have hsz := R.hsz
  obtain ⟨D, hD⟩ : ∃ D, D = d.size := ⟨_, rfl⟩
  rw [← hD] at h3 ⊢
  rw [← hd, ← hD] at hsz
  have HD := Lib.hid hD
  have HDD := Lib.hid hd
  have HS0 := Lib.hid S
  have HA := Lib.hid hA
  have HS2 := Lib.hid s2
  clear hd hD S hA s2
  obtain ⟨m, hm⟩ : ∃ m : Nat, m = a + 1 := ⟨_, rfl⟩
  have hma : ((m : Int) - (a : Int) == 1) = true := by simp; omega
  rw [← hm]
  have h2' : m < b := by omega
  have ham : a < m := by omega
  have HM := Lib.hid hm
  clear hm h2
  go_enter Try.func56, Try.ntmps56
  go_wp2
  go_loopw [10, 11] (fun vi vj wr => ∃ (i j : Nat), vi = .int .i64 i ∧ vj = .int .i64 j ∧ m ≤ i ∧ i ≤ j ∧ j ≤ b ∧ Hid ((∀ q, m ≤ q → q < i → TX xs d[q]! d[a]! = true) ∧ (∀ q, j ≤ q → q < b → TX xs d[q]! d[a]! = false) ∧ SWK (encX xs) 4 w0 blk off d wr)) (fun vi vj _ => (intOf vj).toNat - (intOf vi).toNat)
  case atStart => exact ⟨m, b, rfl, rfl, by omega, by omega, by omega, fun q h1 h2 => by omega, fun q h1 h2 => by omega, HS0.out⟩
  case round =>
    obtain ⟨i, j, rfl, rfl, hi, hij, hjb, H⟩ := hrel
    by_cases hlt : i < j
    · obtain ⟨h, eh⟩ : ∃ h : Nat, ((i : Int) + (j : Int)) / 2 = (h : Int) := ⟨(i + j) / 2, by omega⟩
      have hh1 : i ≤ h := by omega
      have hh2 : h < j := by omega
      have hhD : h < D := by omega
      have haD : a < D := by omega
      obtain ⟨q0, q1, q2, q3, p0, p1, p2, p3⟩ := two_spots xs R H.out.2.2 HDD.out (h := h) (a := a) (by have := HD.out; omega) (by have := HD.out; omega)
      have hcall := cmp_at xs d[h]! d[a]! wr
      have hag := Lib.hid (HA.out a h (by omega) (by omega) (by have := HM.out; omega) (by omega))
      generalize hcv : cfX xs d[h]! d[a]! = c at hcall
      have HC := Lib.hid hcv
      clear hcv
      by_cases hc : c < 0
      · have HN : Hid ((∀ q, m ≤ q → q < h + 1 → TX xs d[q]! d[a]! = true) ∧ (∀ q, j ≤ q → q < b → TX xs d[q]! d[a]! = false) ∧ SWK (encX xs) 4 w0 blk off d wr) := ⟨fun q h1 h2 => by
          have ht : TX xs d[h]! d[a]! = true := by rw [← hag.out]; unfold ltX; rw [HC.out]; exact decide_eq_true hc
          exact le_lt hT (le_of hT HS2.out q h (by have := HM.out; omega) (by omega) (by omega)) ht, H.out.2.1, H.out.2.2⟩
        clear H
        go_wp2_with fail
        go_quiet_grown (first | (go_at_call 37; refine Calls.grown_of (hcall _ _)))
        have HN2 : Hid (SWK (encX xs) 4 w0 blk off d (grow (wr.drewN nq) osq)) := swk_grown HN.out.2.2 nq osq
        clear hcall q0 q1 q2 q3 p0 p1 p2 p3
        go_wp2
        go_roundw
        case rel => exact ⟨h + 1, j, by go_num, rfl, by omega, by omega, by omega, HN.out.1, HN.out.2.1, HN2.out⟩
        case measure => simp [intOf]; omega
      · have HN : Hid ((∀ q, m ≤ q → q < i → TX xs d[q]! d[a]! = true) ∧ (∀ q, h ≤ q → q < b → TX xs d[q]! d[a]! = false) ∧ SWK (encX xs) 4 w0 blk off d wr) := ⟨H.out.1, fun q h1 h2 => by
          have ht : TX xs d[h]! d[a]! = false := by rw [← hag.out]; unfold ltX; rw [HC.out]; exact decide_eq_false hc
          exact hT.ntrans _ _ _ (le_of hT HS2.out h q (by have := HM.out; omega) h1 h2) ht, H.out.2.2⟩
        clear H
        go_wp2_with fail
        go_quiet_grown (first | (go_at_call 37; refine Calls.grown_of (hcall _ _)))
        have HN2 : Hid (SWK (encX xs) 4 w0 blk off d (grow (wr.drewN nq) osq)) := swk_grown HN.out.2.2 nq osq
        clear hcall q0 q1 q2 q3 p0 p1 p2 p3
        go_wp2
        go_roundw
        case rel => exact ⟨i, h, rfl, rfl, by omega, by omega, by omega, HN.out.1, HN.out.2.1, HN2.out⟩
        case measure => simp [intOf]; omega
    · obtain rfl : i = j := by omega
      have hfin := Lib.hid (one_left hT HS2.out (i := i) (by have := HM.out; omega) (by omega) (by have := HD.out; omega) (fun q h1 h2 => H.out.1 q (by have := HM.out; omega) h2) H.out.2.1)
      have hst := Lib.hid H.out.2.2
      clear H
      go_wp2
      go_loopw [13] (fun vk wr => ∃ k : Nat, vk = .int .i64 k ∧ a ≤ k ∧ k + 1 ≤ i ∧ Hid (SWK (encX xs) 4 w0 blk off (mapIx d (rof a (a + 1) (k + 1))) wr)) (fun vk _ => i - (intOf vk).toNat)
      case atStart => exact ⟨a, rfl, by omega, by omega, by show SWK _ _ _ _ _ _ _; rw [up_zero]; exact hst.out⟩
      case round =>
        obtain ⟨k, rfl, hak, hki, H⟩ := hrel
        by_cases hk : (k : Int) < (i : Int) - 1
        · obtain ⟨k1, ek⟩ : ∃ k1 : Nat, (k : Int) + 1 = (k1 : Int) := ⟨k + 1, by omega⟩
          have hz : (mapIx d (rof a (a + 1) (k + 1))).size = d.size := size_mapIx _ _
          have HH : HoldsK (encX xs) 4 wr blk off (mapIx d (rof a (a + 1) (k + 1))) := H.out.holds R.hblk R.hH (hz.trans HDD.out)
          obtain ⟨si, hsi⟩ : ∃ x, xs.getD (mapIx d (rof a (a + 1) (k + 1)))[k]! default = x := ⟨_, rfl⟩
          obtain ⟨sj, hsj⟩ : ∃ x, xs.getD (mapIx d (rof a (a + 1) (k + 1)))[k1]! default = x := ⟨_, rfl⟩
          have hb1 : k < (mapIx d (rof a (a + 1) (k + 1))).size := by rw [hz]; have := HD.out; omega
          have hb2 : k1 < (mapIx d (rof a (a + 1) (k + 1))).size := by rw [hz]; have := HD.out; omega
          obtain ⟨⟨u0, u1, u2, u3⟩, v0, v1, v2, v3⟩ := spot_of HH hb1
          obtain ⟨⟨y0, y1, y2, y3⟩, z0, z1, z2, z3⟩ := spot_of HH hb2
          rw [hsi] at u0 u1 u2 u3
          rw [hsj] at y0 y1 y2 y3
          have HN : Hid _ := swp_world xs H.out R.hblk k k1 hb1 hb2 hsi hsj
          have e := Lib.hid (up_step d a k hak (by have := HD.out; omega))
          have hkD : k < D := by omega
          have hkD1 : k1 < D := by omega
          clear HH hsi hsj hz hb1 hb2 H
          go_wp2_with fail
          go_big_region_o
          all_goals go_wp2
          go_roundw
          case rel =>
            have ek1 : k + 1 = k1 := by omega
            have e' : swp (mapIx d (rof a (a + 1) (k + 1))) k k1 = mapIx d (rof a (a + 1) (k1 + 1)) := by rw [← ek1]; exact e.out
            exact ⟨k1, rfl, by omega, by omega, by rw [← e']; exact HN⟩
          case measure => simp [intOf]; omega
        · have hki2 : k + 1 = i := by omega
          have hP := Lib.hid (up_permIn d a b a k (Nat.le_refl _) hak (by omega) (by have := HD.out; omega))
          have HF : Hid (SortedIn (TX xs) a b (mapIx d (rof a (a + 1) (k + 1)))) := by rw [hki2]; exact hfin.out
          clear hki2
          go_wp2
          (try simp only [Exit.inBlock, Exit.then])
          refine bodyPost_ret (results_none rfl _ _ _) rfl ?_
          exact ⟨rfl, _, hP.out, HF.out, H.out⟩

set_option maxHeartbeats 800000 in
set_option maxRecDepth 100000 in
theorem one_at_right (hT : SWO (TX xs)) (w0 : World) (blk off cap : Nat) (d0 d : Array Nat) (R : Row xs w0 blk off d0) (hd : d.size = d0.size) (a m : Nat) (h2 : a + 1 < m) (h3 : m + 1 ≤ d.size) (s1 : SortedIn (TX xs) a m d) (hA : Ahd (ltX xs) (TX xs) a m (m + 1) d) (w : World) (S : SWK (encX xs) 4 w0 blk off d w) :
    Calls Try.prog 56 #[.slice (some ⟨blk, off, none⟩) d.size cap, .int .i64 a, .int .i64 m, .int .i64 ((m + 1 : Nat) : Int), FX] w fun e w' => e = .returned (.tuple #[]) ∧ ∃ d', PermIn a (m + 1) d d' ∧ SortedIn (TX xs) a (m + 1) d' ∧ SWK (encX xs) 4 w0 blk off d' w' := by
  have mixed : Try.prog.follows .mixedOrders = true := by kernel_rfl
  have hsz := R.hsz
  obtain ⟨D, hD⟩ : ∃ D, D = d.size := ⟨_, rfl⟩
  rw [← hD] at h3 ⊢
  rw [← hd, ← hD] at hsz
  have HD := Lib.hid hD
  have HDD := Lib.hid hd
  have HS0 := Lib.hid S
  have HA := Lib.hid hA
  have HS1 := Lib.hid s1
  clear hd hD S hA s1
  obtain ⟨b, hb⟩ : ∃ b : Nat, b = m + 1 := ⟨_, rfl⟩
  have hma : ((m : Int) - (a : Int) == 1) = false := by simp; omega
  have hbm : ((b : Int) - (m : Int) == 1) = true := by simp; omega
  rw [← hb]
  have hmb : m < b := by omega
  have hbD : b ≤ D := by omega
  have HM := Lib.hid hb
  clear hb h3
  go_enter Try.func56, Try.ntmps56
  go_wp2
  go_loopw [14, 15] (fun vi vj wr => ∃ (i j : Nat), vi = .int .i64 i ∧ vj = .int .i64 j ∧ a ≤ i ∧ i ≤ j ∧ j ≤ m ∧ Hid ((∀ q, a ≤ q → q < i → TX xs d[m]! d[q]! = false) ∧ (∀ q, j ≤ q → q < m → TX xs d[m]! d[q]! = true) ∧ SWK (encX xs) 4 w0 blk off d wr)) (fun vi vj _ => (intOf vj).toNat - (intOf vi).toNat)
  case atStart => exact ⟨a, m, rfl, rfl, by omega, by omega, by omega, fun q h1 h2 => by omega, fun q h1 h2 => by omega, HS0.out⟩
  case round =>
    obtain ⟨i, j, rfl, rfl, hi, hij, hjb, H⟩ := hrel
    by_cases hlt : i < j
    · obtain ⟨h, eh⟩ : ∃ h : Nat, ((i : Int) + (j : Int)) / 2 = (h : Int) := ⟨(i + j) / 2, by omega⟩
      have hh1 : i ≤ h := by omega
      have hh2 : h < j := by omega
      have hhD : h < D := by omega
      have hmD : m < D := by omega
      obtain ⟨q0, q1, q2, q3, p0, p1, p2, p3⟩ := two_spots xs R H.out.2.2 HDD.out (h := m) (a := h) (by have := HD.out; omega) (by have := HD.out; omega)
      have hcall := cmp_at xs d[m]! d[h]! wr
      have hag := Lib.hid (HA.out h m (by omega) (by omega) (by omega) (by omega))
      generalize hcv : cfX xs d[m]! d[h]! = c at hcall
      have HC := Lib.hid hcv
      clear hcv
      by_cases hc : c < 0
      · have HN : Hid ((∀ q, a ≤ q → q < i → TX xs d[m]! d[q]! = false) ∧ (∀ q, h ≤ q → q < m → TX xs d[m]! d[q]! = true) ∧ SWK (encX xs) 4 w0 blk off d wr) := ⟨H.out.1, fun q h1 h2 => by
          have ht : TX xs d[m]! d[h]! = true := by rw [← hag.out]; unfold ltX; rw [HC.out]; exact decide_eq_true hc
          exact lt_le hT ht (le_of hT HS1.out h q (by omega) h1 h2), H.out.2.2⟩
        clear H
        go_wp2_with fail
        go_quiet_grown (first | (go_at_call 37; refine Calls.grown_of (hcall _ _)))
        have HN2 : Hid (SWK (encX xs) 4 w0 blk off d (grow (wr.drewN nq) osq)) := swk_grown HN.out.2.2 nq osq
        clear hcall q0 q1 q2 q3 p0 p1 p2 p3
        go_wp2
        go_roundw
        case rel => exact ⟨i, h, rfl, rfl, by omega, by omega, by omega, HN.out.1, HN.out.2.1, HN2.out⟩
        case measure => simp [intOf]; omega
      · have HN : Hid ((∀ q, a ≤ q → q < h + 1 → TX xs d[m]! d[q]! = false) ∧ (∀ q, j ≤ q → q < m → TX xs d[m]! d[q]! = true) ∧ SWK (encX xs) 4 w0 blk off d wr) := ⟨fun q h1 h2 => by
          have ht : TX xs d[m]! d[h]! = false := by rw [← hag.out]; unfold ltX; rw [HC.out]; exact decide_eq_false hc
          exact hT.ntrans _ _ _ ht (le_of hT HS1.out q h (by omega) (by omega) (by omega)), H.out.2.1, H.out.2.2⟩
        have hcd : decide (c < 0) = false := decide_eq_false hc
        clear H
        go_wp2_with fail
        go_quiet_grown (first | (go_at_call 37; refine Calls.grown_of (hcall _ _)))
        have HN2 : Hid (SWK (encX xs) 4 w0 blk off d (grow (wr.drewN nq) osq)) := swk_grown HN.out.2.2 nq osq
        clear hcall q0 q1 q2 q3 p0 p1 p2 p3
        go_wp2
        go_roundw
        case rel => exact ⟨h + 1, j, by go_num, rfl, by omega, by omega, by omega, HN.out.1, HN.out.2.1, HN2.out⟩
        case measure => simp [intOf]; omega
    · obtain rfl : i = j := by omega
      have hfin := Lib.hid (one_right hT HS1.out (i := i) hi hjb (by have := HD.out; have := HM.out; omega) H.out.1 H.out.2.1)
      have hst := Lib.hid H.out.2.2
      clear H
      go_wp2
      go_loopw [17] (fun vk wr => ∃ k : Nat, vk = .int .i64 k ∧ i ≤ k ∧ k ≤ m ∧ Hid (SWK (encX xs) 4 w0 blk off (mapIx d (rof k m (m + 1))) wr)) (fun vk _ => (intOf vk).toNat)
      case atStart => exact ⟨m, rfl, by omega, by omega, by show SWK _ _ _ _ _ _ _; rw [down_zero]; exact hst.out⟩
      case round =>
        obtain ⟨k, rfl, hik, hkm, H⟩ := hrel
        by_cases hk : (i : Int) < (k : Int)
        · obtain ⟨k1, ek⟩ : ∃ k1 : Nat, (k : Int) - 1 = (k1 : Int) := ⟨k - 1, by omega⟩
          have hz : (mapIx d (rof k m (m + 1))).size = d.size := size_mapIx _ _
          have HH : HoldsK (encX xs) 4 wr blk off (mapIx d (rof k m (m + 1))) := H.out.holds R.hblk R.hH (hz.trans HDD.out)
          obtain ⟨si, hsi⟩ : ∃ x, xs.getD (mapIx d (rof k m (m + 1)))[k]! default = x := ⟨_, rfl⟩
          obtain ⟨sj, hsj⟩ : ∃ x, xs.getD (mapIx d (rof k m (m + 1)))[k1]! default = x := ⟨_, rfl⟩
          have hb1 : k < (mapIx d (rof k m (m + 1))).size := by rw [hz]; have := HD.out; omega
          have hb2 : k1 < (mapIx d (rof k m (m + 1))).size := by rw [hz]; have := HD.out; omega
          obtain ⟨⟨u0, u1, u2, u3⟩, v0, v1, v2, v3⟩ := spot_of HH hb1
          obtain ⟨⟨y0, y1, y2, y3⟩, z0, z1, z2, z3⟩ := spot_of HH hb2
          rw [hsi] at u0 u1 u2 u3
          rw [hsj] at y0 y1 y2 y3
          have HN : Hid _ := swp_world xs H.out R.hblk k k1 hb1 hb2 hsi hsj
          have e := Lib.hid (down_step d m k (by omega) hkm (by have := HD.out; omega))
          have hkD : k < D := by omega
          have hkD1 : k1 < D := by omega
          clear HH hsi hsj hz hb1 hb2 H
          go_wp2_with fail
          go_big_region_o
          all_goals go_wp2
          go_roundw
          case rel =>
            have ek1 : k - 1 = k1 := by omega
            have e' : swp (mapIx d (rof k m (m + 1))) k k1 = mapIx d (rof k1 m (m + 1)) := by rw [← ek1]; exact e.out
            exact ⟨k1, rfl, by omega, by omega, by rw [← e']; exact HN⟩
          case measure => simp [intOf]; omega
        · have hki2 : k = i := by omega
          have hP := Lib.hid (down_permIn d a b m (by omega) (by have := HD.out; omega) (m - k) k (by omega) (by omega))
          have HF : Hid (SortedIn (TX xs) a b (mapIx d (rof k m (m + 1)))) := by rw [hki2, HM.out]; exact hfin.out
          clear hki2
          go_wp2
          (try simp only [Exit.inBlock, Exit.then])
          refine bodyPost_ret (results_none rfl _ _ _) rfl ?_
          exact ⟨rfl, _, hP.out, HF.out, H.out⟩
end Go.Proofs.Ytahhemgmlmhbjaa.SortM
