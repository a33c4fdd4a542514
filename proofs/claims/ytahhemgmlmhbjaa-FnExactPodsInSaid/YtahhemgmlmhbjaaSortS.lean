/- slices.SortStableFunc and impl.SortSamples. -/
import Derived.Test.YtahhemgmlmhbjaaSortN
import Derived.Test.YtahhemgmlmhbjaaSortP
namespace Go.Proofs.Ytahhemgmlmhbjaa.SortS
open Go.Shelf Go.RowKit Go.Lib Go.Sort
open Go.Proofs.Ytahhemgmlmhbjaa.C1
open Go.Proofs.Ytahhemgmlmhbjaa.C2
open Go.Proofs.Ytahhemgmlmhbjaa.Smps
open Go.Proofs.Ytahhemgmlmhbjaa.StM
open Go.Proofs.Ytahhemgmlmhbjaa.Cmp
open Go.Proofs.Ytahhemgmlmhbjaa.Sort
open Go.Proofs.Ytahhemgmlmhbjaa.SortM
open Go.Proofs.Ytahhemgmlmhbjaa.SortN
open Go.Proofs.Ytahhemgmlmhbjaa.SortP
set_option linter.unusedVariables false

def renI : Go.Shelf.Ren := ⟨fun | 20 => 55 | n => n, fun | 22 => 32 | 24 => 27 | 25 => 52 | n => n, fun n => n⟩
theorem laysI : Go.Proofs.SlLaysF0.n20 Try.prog renI := {
  mixed := by kernel_rfl
  f20 := ⟨Try.f55.name, by kernel_rfl, Try.func55.trans (congrArg some (by kernel_rfl))⟩
  t0 := Try.underlying0
  a0 := Try.isAgg0
  z0 := Try.sizeOf0
  v0 := Try.zeroValue0
  t3 := Try.underlying3
  a3 := Try.isAgg3
  z3 := Try.sizeOf3
  v3 := Try.zeroValue3
  t4 := Try.underlying4
  a4 := Try.isAgg4
  z4 := Try.sizeOf4
  v4 := Try.zeroValue4
  t22 := Try.underlying32
  a22 := Try.isAgg32
  z22 := Try.sizeOf32
  v22 := Try.zeroValue32
  t25 := Try.underlying52
  a25 := Try.isAgg52
  z25 := Try.sizeOf52
  v25 := Try.zeroValue52 }

variable (xs : List Smp)

theorem insertion (w0 : World) (blk off cap D : Nat) (d0 d : Array Nat) (R : Row xs w0 blk off d0) (hd : d.size = D) (hd0 : d0.size = D) (a b : Nat) (hab : a ≤ b) (hb : b ≤ D) (hag : ∀ p q, a ≤ p → p < q → q < b → ltX xs d[q]! d[p]! = TX xs d[q]! d[p]!) (w : World) (S : SWK (encX xs) 4 w0 blk off d w) :
    Calls Try.prog 55 #[.slice (some ⟨blk, off, none⟩) D cap, .int .i64 a, .int .i64 b, FX] w fun e w' => e = .returned (.tuple #[]) ∧ ∃ d', PermIn a b d d' ∧ SortedIn (TX xs) a b d' ∧ SWK (encX xs) 4 w0 blk off d' w' := by
  have hsz := R.hsz
  have eg : ∀ args w, (callFunc 37 args).run Try.prog w = .ok (.enter 37 args) w := enters_of Try.func37 (by kernel_rfl) rfl
  have hcmp : CmpLays Try.prog 37 #[] (encX xs) 4 (cfX xs) blk off d.size w := fun m os dk hdk x y => cmp_samples _ _ _
  have hc := AnyQ.insertionSortCmpFunc laysI 4 Try.isAgg27 Try.sizeOf27 (encX xs) (encX_len xs) (encX_one xs) (cfX xs) 37 #[] blk off cap a b d w eg hcmp (S.holds R.hblk R.hH (hd.trans hd0.symm)) (S.lt R.hblk) hab (by omega) (by omega)
  have he : insertionSort (ltOf (cfX xs)) d a b = insertionSort (TX xs) d a b := insertion_eq (lt := ltX xs) a b d (by omega) hag
  have hh := insertionSort_holds (lt := TX xs) (swoT xs) d a b hab (by omega)
  rw [he, hd] at hc
  refine hc.mono ?_
  rintro e w' ⟨he1, n, os, rfl⟩
  exact ⟨he1, _, hh.1, hh.2, S.on R.hblk n _ os hh.1.1⟩

set_option maxHeartbeats 1600000 in
set_option maxRecDepth 100000 in
theorem stable (w0 : World) (blk off cap D : Nat) (hD : D ≤ 1000) (R : Row xs w0 blk off (Array.range D)) :
    Calls Try.prog 45 #[.slice (some ⟨blk, off, none⟩) D cap, .int .i64 D, FX] w0 fun e w' => e = .returned (.tuple #[]) ∧ ∃ d', PermIn 0 D (Array.range D) d' ∧ SortedIn (TX xs) 0 D d' ∧ SWK (encX xs) 4 w0 blk off d' w' := by
  have hr0 : (Array.range D).size = D := by simp
  have HINS : Hid (∀ (d : Array Nat) (a b : Nat), d.size = D → a ≤ b → b ≤ D → (∀ p q, a ≤ p → p < q → q < b → ltX xs d[q]! d[p]! = TX xs d[q]! d[p]!) → ∀ w, SWK (encX xs) 4 w0 blk off d w → Calls Try.prog 55 #[.slice (some ⟨blk, off, none⟩) D cap, .int .i64 a, .int .i64 b, FX] w fun e w' => e = .returned (.tuple #[]) ∧ ∃ d', PermIn a b d d' ∧ SortedIn (TX xs) a b d' ∧ SWK (encX xs) 4 w0 blk off d' w') :=
    fun d a b h1 h2 h3 h4 w S => insertion xs w0 blk off cap D _ d R h1 hr0 a b h2 h3 h4 w S
  have HMRG : Hid (∀ (d : Array Nat) (a m b : Nat), d.size = D → a < m → m < b → b ≤ D → SortedIn (TX xs) a m d → SortedIn (TX xs) m b d → Ahd (ltX xs) (TX xs) a m b d → Merges xs w0 blk off cap D d a m b) :=
    fun d a m b h1 h2 h3 h4 h5 h6 h7 => merges xs (swoT xs) w0 blk off cap D _ R hr0 (b - a) d a m b h1 (Nat.le_refl _) h2 h3 h4 h5 h6 h7
  have HS0 : Hid (SWK (encX xs) 4 w0 blk off (Array.range D) w0) := SWK.start R.hH
  clear hr0 R
  go_enter Try.func45, Try.ntmps45
  go_wp2
  go_loopw [7, 8] (fun va vb wr => ∃ (a b : Nat) (d : Array Nat), va = .int .i64 a ∧ vb = .int .i64 b ∧ b = a + 20 ∧ a ≤ D ∧ Hid (PartI (TX xs) D a d ∧ SWK (encX xs) 4 w0 blk off d wr)) (fun va _ _ => D - (intOf va).toNat)
  case atStart => exact ⟨0, 20, Array.range D, rfl, rfl, rfl, Nat.zero_le _, partI_start, HS0.out⟩
  case round =>
    obtain ⟨a, b, d, rfl, rfl, hab, haD, H⟩ := hrel
    have HAB := Lib.hid hab
    by_cases hle : (b : Int) ≤ (D : Int)
    · have hc := Lib.hid (HINS.out d a b H.out.1.sz (by omega) (by omega) (fun p q h1 h2 h3 => by
        have hz := H.out.1.fresh
        rw [hz p h1 (by omega), hz q (by omega) (by omega)]
        exact agree xs p q h2) wr H.out.2)
      clear hab
      go_wp2_with (go_at_call 55; refine hc.out.mono ?_; rintro e1 w1 ⟨rfl, d1, hP1, hT1, hS1⟩; have HW1 := Lib.hid hS1; have HP1 := Lib.hid hP1; have HT1 := Lib.hid hT1; clear hS1 hP1 hT1)
      go_roundw
      case rel =>
        have h20 : a + 20 ≤ D := by have := HAB.out; omega
        refine ⟨b, b + 20, d1, rfl, by go_num, rfl, by omega, ?_, HW1.out⟩
        have hp := HP1.out
        have ht := HT1.out
        rw [HAB.out] at hp ht ⊢
        exact partI_step H.out.1 h20 hp ht
      case measure => have := HAB.out; simp [intOf]; omega
    · have hc := Lib.hid (HINS.out d a D H.out.1.sz haD (Nat.le_refl _) (fun p q h1 h2 h3 => by
        have hz := H.out.1.fresh
        rw [hz p h1 (by omega), hz q (by omega) (by omega)]
        exact agree xs p q h2) wr H.out.2)
      clear hab
      go_wp2_with (go_at_call 55; refine hc.out.mono ?_; rintro e1 w1 ⟨rfl, d1, hP1, hT1, hS1⟩; have HW1 := Lib.hid hS1; have HP1 := Lib.hid hP1; have HT1 := Lib.hid hT1; clear hS1 hP1 hT1)
      have HF := Lib.hid (partI_end H.out.1 haD (by have := HAB.out; omega) HP1.out HT1.out)
      clear H hc HP1 HT1
      go_loopw [6, 7, 8, 9] (fun vs _ _ _ wr => ∃ (bs : Nat) (d : Array Nat), vs = .int .i64 bs ∧ 1 ≤ bs ∧ bs ≤ 2000 ∧ Hid (Full (TX xs) D bs d ∧ SWK (encX xs) 4 w0 blk off d wr)) (fun vs _ _ _ _ => D - (intOf vs).toNat)
      case atStart => exact ⟨20, d1, rfl, by omega, by omega, HF.out, HW1.out⟩
      case round =>
        obtain ⟨bs, d2, rfl, hb1, hb2, H2⟩ := hrel
        by_cases hlt : (bs : Int) < (D : Int)
        · obtain ⟨bb, ebb⟩ : ∃ bb : Nat, 2 * (bs : Int) = (bb : Int) := ⟨2 * bs, by omega⟩
          have ebb2 : (bs : Int) * 2 = (bb : Int) := by omega
          have HBB : Hid (bb = 2 * bs) := by show bb = _; omega
          go_wp2
          go_loopw [7, 8] (fun va vb wr => ∃ (a b : Nat) (d : Array Nat), va = .int .i64 a ∧ vb = .int .i64 b ∧ a ≤ D ∧ b ≤ D + bb ∧ Hid (b = a + bb ∧ Part (TX xs) D bs a d ∧ SWK (encX xs) 4 w0 blk off d wr)) (fun va _ _ => D - (intOf va).toNat)
          case atStart => exact ⟨0, bb, d2, rfl, rfl, Nat.zero_le _, by omega, by omega, part_start H2.out.1, H2.out.2⟩
          case round =>
            obtain ⟨a3, b3, d3, rfl, rfl, ha3, hb3, H3⟩ := hrel
            by_cases hle3 : (b3 : Int) ≤ (D : Int)
            · obtain ⟨m3, em3⟩ : ∃ m : Nat, (a3 : Int) + (bs : Int) = (m : Int) := ⟨a3 + bs, by omega⟩
              have hbnd : a3 < m3 ∧ m3 < b3 ∧ b3 ≤ D ∧ m3 = a3 + bs ∧ b3 = a3 + 2 * bs := by have := H3.out.1; have := HBB.out; omega
              have hc3 := Lib.hid (HMRG.out d3 a3 m3 b3 H3.out.2.1.sz hbnd.1 hbnd.2.1 hbnd.2.2.1 (by rw [hbnd.2.2.2.1]; exact (part_halves H3.out.2.1 (b := b3) hbnd.2.2.1 (by omega) (by omega)).1)
                (by rw [hbnd.2.2.2.1]; exact (part_halves H3.out.2.1 (b := b3) hbnd.2.2.1 (by omega) (by omega)).2) (by rw [hbnd.2.2.2.1]; exact part_ahd H3.out.2.1 (by omega) hbnd.2.2.1 (agree xs)) wr H3.out.2.2)
              have HBND := Lib.hid hbnd
              clear hbnd
              go_wp2_with (go_at_call 56; refine hc3.out.mono ?_; rintro e4 w4 ⟨rfl, d4, hP4, hT4, hS4⟩; have HW4 := Lib.hid hS4; have HP4 := Lib.hid hP4; have HT4 := Lib.hid hT4; clear hS4 hP4 hT4)
              go_roundw
              case rel =>
                refine ⟨b3, b3 + bb, d4, rfl, by go_num, by omega, by omega, rfl, ?_, HW4.out⟩
                have hp := HP4.out
                have ht := HT4.out
                have hbd := HBND.out
                rw [hbd.2.2.2.2] at hp ht ⊢
                exact part_step H3.out.2.1 (by omega) (by omega) hp ht
              case measure => have := HBND.out; simp [intOf]; omega
            · obtain ⟨m3, em3⟩ : ∃ m : Nat, (a3 : Int) + (bs : Int) = (m : Int) := ⟨a3 + bs, by omega⟩
              by_cases hm3 : (m3 : Int) < (D : Int)
              · have hbnd : a3 < m3 ∧ m3 < D ∧ m3 = a3 + bs ∧ D < a3 + 2 * bs := by have := H3.out.1; have := HBB.out; omega
                have hc3 := Lib.hid (HMRG.out d3 a3 m3 D H3.out.2.1.sz hbnd.1 hbnd.2.1 (Nat.le_refl _) (by rw [hbnd.2.2.1]; exact (part_halves H3.out.2.1 (b := D) (Nat.le_refl _) (by omega) (by omega)).1)
                  (by rw [hbnd.2.2.1]; exact (part_halves H3.out.2.1 (b := D) (Nat.le_refl _) (by omega) (by omega)).2) (by rw [hbnd.2.2.1]; exact part_ahd H3.out.2.1 (by omega) (Nat.le_refl _) (agree xs)) wr H3.out.2.2)
                have HBND := Lib.hid hbnd
                clear hbnd
                go_wp2_with (go_at_call 56; refine hc3.out.mono ?_; rintro e4 w4 ⟨rfl, d4, hP4, hT4, hS4⟩; have HW4 := Lib.hid hS4; have HP4 := Lib.hid hP4; have HT4 := Lib.hid hT4; clear hS4 hP4 hT4)
                go_roundw
                case rel =>
                  have hf := part_end H3.out.2.1 (by omega) ha3 HBND.out.2.2.2 HP4.out HT4.out
                  refine ⟨bb, d4, by first | rfl | go_num, by omega, by omega, ?_, HW4.out⟩
                  rw [HBB.out]
                  exact hf
                case measure => simp [intOf]; omega
              · have hf := Lib.hid (part_end H3.out.2.1 (by omega) ha3 (by have := H3.out.1; have := HBB.out; omega) (permIn_refl _ _ _) (part_last H3.out.2.1 (by omega)))
                go_wp2
                go_roundw
                case rel =>
                  refine ⟨bb, d3, by first | rfl | go_num, by omega, by omega, ?_, H3.out.2.2⟩
                  rw [HBB.out]
                  exact hf.out
                case measure => simp [intOf]; omega
        · have hs := Lib.hid (full_sorted H2.out.1 (by omega))
          go_wp2
          go_end0
          exact ⟨rfl, d2, H2.out.1.perm, hs.out, H2.out.2⟩
end Go.Proofs.Ytahhemgmlmhbjaa.SortS
