/- Marks of sides, behaviours, setups: their rows, written and read again. -/
import Derived.Test.YtcjjdnfikccnmaaMk
import Derived.Test.YtcjjdnfikccnmaaSet
namespace Go.Proofs.Ytcjjdnfikccnmaa.MkS
open Go.RowKit Go.Deep
open Go.Proofs.Ytcjjdnfikccnmaa.C1
open Go.Proofs.Ytcjjdnfikccnmaa.C2
open Go.Proofs.Ytcjjdnfikccnmaa.Smps
open Go.Proofs.Ytcjjdnfikccnmaa.Mem
open Go.Proofs.Ytcjjdnfikccnmaa.Gl
open Go.Proofs.Ytcjjdnfikccnmaa.Gls
open Go.Proofs.Ytcjjdnfikccnmaa.Pl
open Go.Proofs.Ytcjjdnfikccnmaa.Mk
open Go.Proofs.Ytcjjdnfikccnmaa.Set
set_option linter.unusedVariables false

/-- Only the block at a may have been written, and blocks may be new. -/
structure Wo (a : Option Addr) (w w' : World) : Prop where
  os : w'.os = w.os
  tape : w'.tape = w.tape
  output : w'.output = w.output
  size : w.heap.size ≤ w'.heap.size
  block : ∀ k, k < w.heap.size → (∀ b o s, a = some ⟨b, o, s⟩ → k ≠ b) → w'.heap[k]? = w.heap[k]?
theorem Wo.of_below {a : Option Addr} {w w' : World} (h : Below w.heap.size w w') : Wo a w w' := ⟨h.os, h.tape, h.output, h.size, fun k hk _ => h.block k hk⟩
theorem Wo.of_only {a : Option Addr} {w w' : World} (h : OnlyA a w w') : Wo a w w' := by
  rcases a with _ | ⟨b, o, s⟩
  · rw [h.1 rfl]
    exact ⟨rfl, rfl, rfl, Nat.le_refl _, fun _ _ _ => rfl⟩
  · have := h.2 b o s rfl
    exact ⟨this.os, this.tape, this.output, this.size, fun k hk hn => this.block k hk (hn b o s rfl)⟩
theorem Wo.trans {a : Option Addr} {u v w : World} (h : Wo a u v) (k : Wo a v w) : Wo a u w :=
  ⟨k.os.trans h.os, k.tape.trans h.tape, k.output.trans h.output, Nat.le_trans h.size k.size, fun i hi hn => (k.block i (Nat.lt_of_lt_of_le hi h.size) hn).trans (h.block i hi hn)⟩
theorem Wo.below {a : Option Addr} {B : Nat} {w w' : World} (h : Wo a w w') (ha : ∀ b o s, a = some ⟨b, o, s⟩ → B ≤ b) (hB : B ≤ w.heap.size) : Below B w w' :=
  ⟨h.os, h.tape, h.output, h.size, fun k hk => h.block k (by omega) (fun b o s e => by have := ha b o s e; omega)⟩
def Apart (a a' : Option Addr) : Prop := ∀ b o s b' o' s', a = some ⟨b, o, s⟩ → a' = some ⟨b', o', s'⟩ → b ≠ b'
theorem Apart.symm {a a' : Option Addr} (h : Apart a a') : Apart a' a := fun b o s b' o' s' e e' => (h b' o' s' b o s e' e).symm
theorem row_wo {B e k n len cap : Nat} {a a' : Option Addr} {l : List Value} {w w' : World} (h : w.ownsRow B e k (.slice a len cap) n l) (hw : Wo a' w w') (hne : Apart a a') : w'.ownsRow B e k (.slice a len cap) n l := by
  obtain ⟨h1, h2⟩ := h
  refine ⟨h1, ?_⟩
  rcases h2 with h2 | ⟨g, cap', cur, hv, hg, hh, r⟩
  · exact .inl h2
  · cases hv
    exact .inr ⟨g, cap, cur, rfl, hg, by rw [hw.block g (Array.getElem?_eq_some_iff.1 hh).1 (fun b o s e => hne g 0 none b o s rfl e)]; exact hh, r⟩
theorem row_base {B e k n len cap : Nat} {a : Option Addr} {l : List Value} {w : World} (h : w.ownsRow B e k (.slice a len cap) n l) : ∀ b o s, a = some ⟨b, o, s⟩ → B ≤ b := by
  intro b o s e'
  rcases h.2 with ⟨hv, _⟩ | ⟨g, cap', cur, hv, hg, _⟩
  · cases hv; cases e'
  · cases hv; cases e'; exact hg
theorem mark_side (n : Nat) (sel win : Int) (ps : List Pl) (hn : ps.length = n) (a : Option Addr) (cap B k : Nat) (h0 : 0 < k) (hk : k + 3 * n ≤ 100000000) (w : World) (h : OwnL w B (.slice a n cap) ps) :
    Calls Try.prog 148 #[.agg #[.slice a n cap, .int .i64 sel, .int .i64 win], .int .i64 k] w fun e w' => e = .returned (.int .i64 ((k + 3 * n : Nat) : Int)) ∧ OwnL w' B (.slice a n cap) (mkL k n) ∧ Wo a w w' := by
  subst hn
  have hb := box_below w #[.slice a ps.length cap, .int .i64 sel, .int .i64 win] 26
  have HO := Lib.hid (OwnL.kept h hb)
  have HW := Lib.hid (Wo.of_below (a := a) hb)
  clear h hb
  go_enter Try.func148, Try.ntmps148
  go_wp2_with (go_at_call 176; refine (mark_policies ps a cap B k h0 hk _ HO.out).mono ?_; rintro e w2 ⟨rfl, ho, hw⟩; have HO2 := Lib.hid ho; have HW2 := Lib.hid (HW.out.trans (Wo.of_only hw)); clear ho hw)
  go_ret
  exact ⟨rfl, HO2.out, HW2.out⟩
theorem held_side (n : Nat) (sel win : Int) (a : Option Addr) (cap B k : Nat) (h0 : 0 < k) (hk : k + 3 * n ≤ 100000000) (w : World) (h : OwnL w B (.slice a n cap) (mkL k n)) :
    Calls Try.prog 149 #[.agg #[.slice a n cap, .int .i64 sel, .int .i64 win], .int .i64 k] w fun e w' => e = .returned (.int .i64 ((k + 3 * n : Nat) : Int)) ∧ Below w.heap.size w w' := by
  have hb := box_below w #[.slice a n cap, .int .i64 sel, .int .i64 win] 26
  have HO := Lib.hid (OwnL.kept h hb)
  have HB := Lib.hid hb
  have hm0 : ¬ ((k + 3 * n : Nat) : Int) < 0 := by omega
  obtain ⟨q, hq⟩ : ∃ q, k + 3 * n = q := ⟨_, rfl⟩
  have hc := fun W (h : OwnL W B (.slice a n cap) (mkL k n)) => held_policies n a cap B k h0 hk W h
  rw [hq] at hc hm0 ⊢
  have HC := Lib.hid hc
  clear h hb hc hq
  go_enter Try.func149, Try.ntmps149
  go_wp2_with (go_at_call 177; refine (HC.out _ HO.out).mono ?_; rintro e w2 ⟨rfl, hw⟩; have HB2 := Lib.hid (HB.out.trans (hw.mono HB.out.size)); clear hw)
  go_ret
  exact ⟨rfl, HB2.out⟩
/-! ### Behaviours. -/
/-- The two rows of a behaviour, of one's own and apart. -/
def BRows (w : World) (B : Nat) (a1 : Option Addr) (nu c1 : Nat) (a2 : Option Addr) (nd c2 : Nat) (us ds : List Pl) : Prop := OwnL w B (.slice a1 nu c1) us ∧ OwnL w B (.slice a2 nd c2) ds
theorem cells_wo {w w' : World} {g : Nat} {vs : List Value} {a : Option Addr} (h : CellsW w g vs) (hw : Wo a w w') (hne : ∀ b o s, a = some ⟨b, o, s⟩ → g ≠ b) : CellsW w' g vs := by
  have hb := hw.block g h.1 hne
  refine ⟨Nat.lt_of_lt_of_le h.1 hw.size, fun j hj => ⟨(World.cell?_of_block (w := w) hb).trans (h.2 j hj).1, ?_⟩⟩
  have hf := (h.2 j hj).2
  simp only [World.frozen?, hb] at hf ⊢
  exact hf
theorem own_lt {B e k n len cap : Nat} {a : Option Addr} {l : List Value} {w : World} (h : w.ownsRow B e k (.slice a len cap) n l) : ∀ b o s, a = some ⟨b, o, s⟩ → b < w.heap.size := by
  intro b o s e'
  rcases h.2 with ⟨hv, _⟩ | ⟨g, cap', cur, hv, hg, hh, _⟩
  · cases hv; cases e'
  · cases hv; cases e'; exact (Array.getElem?_eq_some_iff.1 hh).1
theorem row_two {B e k n len cap : Nat} {a a1 a2 : Option Addr} {l : List Value} {w w' : World} (h : w.ownsRow B e k (.slice a len cap) n l) (hbl : ∀ g, g < w.heap.size → (∀ b o s, a1 = some ⟨b, o, s⟩ → g ≠ b) → (∀ b o s, a2 = some ⟨b, o, s⟩ → g ≠ b) → w'.heap[g]? = w.heap[g]?) (h1 : Apart a a1) (h2 : Apart a a2) : w'.ownsRow B e k (.slice a len cap) n l := by
  obtain ⟨q1, q2⟩ := h
  refine ⟨q1, ?_⟩
  rcases q2 with q2 | ⟨g, cap', cur, hv, hg, hh, r⟩
  · exact .inl q2
  · cases hv
    exact .inr ⟨g, cap, cur, rfl, hg, by rw [hbl g (Array.getElem?_eq_some_iff.1 hh).1 (fun b o s e => h1 g 0 none b o s rfl e) (fun b o s e => h2 g 0 none b o s rfl e)]; exact hh, r⟩
set_option maxHeartbeats 1000000 in
theorem mark_behave (nu nd : Nat) (us ds : List Pl) (hnu : us.length = nu) (hnd : ds.length = nd) (s1 w1 s2 w2 mn mx : Int) (a1 : Option Addr) (c1 : Nat) (a2 : Option Addr) (c2 : Nat) (hap : Apart a1 a2) (B k : Nat) (h0 : 0 < k) (hk : k + 3 * nu + 3 * nd ≤ 100000000) (w : World) (hB : B ≤ w.heap.size) (h : BRows w B a1 nu c1 a2 nd c2 us ds) :
    Calls Try.prog 100 #[.agg #[.slice a1 nu c1, .int .i64 s1, .int .i64 w1, .slice a2 nd c2, .int .i64 s2, .int .i64 w2, .int .i64 mn, .int .i64 mx], .int .i64 k] w fun e w' => e = .returned (.int .i64 ((k + 3 * nu + 3 * nd : Nat) : Int)) ∧ BRows w' B a1 nu c1 a2 nd c2 (mkL k nu) (mkL (k + 3 * nu) nd) ∧ Below B w w' ∧ (∀ g, g < w.heap.size → (∀ b o s, a1 = some ⟨b, o, s⟩ → g ≠ b) → (∀ b o s, a2 = some ⟨b, o, s⟩ → g ≠ b) → w'.heap[g]? = w.heap[g]?) := by
  have hb := box_below w #[.slice a1 nu c1, .int .i64 s1, .int .i64 w1, .slice a2 nd c2, .int .i64 s2, .int .i64 w2, .int .i64 mn, .int .i64 mx] 28
  have hk0 := Ser2.cells_new w #[.slice a1 nu c1, .int .i64 s1, .int .i64 w1, .slice a2 nd c2, .int .i64 s2, .int .i64 w2, .int .i64 mn, .int .i64 mx] 28
  have hl1 := own_lt h.1
  have hl2 := own_lt h.2
  have hB1 := row_base h.1
  have hB2 := row_base h.2
  have HL1 := Lib.hid hl1
  have HL2 := Lib.hid hl2
  have HB1 := Lib.hid hB1
  have HB2 := Lib.hid hB2
  have HO1 := Lib.hid (OwnL.kept h.1 hb)
  have HO2 := Lib.hid (OwnL.kept h.2 hb)
  have HX := Lib.hid hb
  have HAP := Lib.hid hap
  have K0 : Hid (SdT.CW8 _ w.heap.size _ _ _ _ _ _ _ _) := hk0
  obtain ⟨q, hq⟩ : ∃ q, k + 3 * nu = q := ⟨_, rfl⟩
  have hc1 := fun W (h : OwnL W B (.slice a1 nu c1) us) => mark_side nu s1 w1 us hnu a1 c1 B k h0 (by omega) W h
  have hc2 := fun W (h : OwnL W B (.slice a2 nd c2) ds) => mark_side nd s2 w2 ds hnd a2 c2 B q (by omega) (by omega) W h
  rw [hq] at hc1 ⊢
  have HC1 := Lib.hid hc1
  have HC2 := Lib.hid hc2
  have HBB := Lib.hid hB
  clear h hb hk0 hl1 hl2 hB1 hB2 hap hc1 hc2 hq hB
  go_enter Try.func100, Try.ntmps100
  go_wp2_with fail
  refine (HC1.out _ HO1.out).mono ?_
  rintro e w3 ⟨rfl, ho, hw⟩
  have HR1 := Lib.hid ho
  have HR2 := Lib.hid (row_wo HO2.out hw HAP.out.symm)
  have K1 : Hid (SdT.CW8 w3 w.heap.size _ _ _ _ _ _ _ _) := cells_wo K0.out hw (fun b o s e => by have := HL1.out b o s e; omega)
  have HW1 := Lib.hid hw
  clear ho hw HO1 HO2 K0
  obtain ⟨⟨x0, x1, x2, x3, x4, x5, x6, x7⟩, -⟩ := K1.out.get
  go_wp2_with fail
  refine (HC2.out _ HR2.out).mono ?_
  rintro e w4 ⟨rfl, ho, hw⟩
  have HS1 := Lib.hid (row_wo HR1.out hw HAP.out)
  have HS2 := Lib.hid ho
  have HW2 := Lib.hid hw
  clear ho hw HR1 HR2 K1 x0 x1 x2 x3 x4 x5 x6 x7
  go_wp2
  go_ret
  refine ⟨rfl, ⟨HS1.out, HS2.out⟩, ?_, ?_⟩
  · have e1 := HX.out.size
    have e2 := HW1.out.size
    have b1 : Below B w _ := HX.out.mono HBB.out
    exact (b1.trans (HW1.out.below HB1.out (by have := HBB.out; omega))).trans (HW2.out.below HB2.out (by have := HBB.out; omega))
  · intro g hg g1 g2
    have e1 := HX.out.size
    have e2 := HW1.out.size
    rw [HW2.out.block g (by omega) g2, HW1.out.block g (by omega) g1, HX.out.block g hg]
set_option maxHeartbeats 1000000 in
theorem held_behave (nu nd : Nat) (s1 w1 s2 w2 mn mx : Int) (a1 : Option Addr) (c1 : Nat) (a2 : Option Addr) (c2 : Nat) (B k : Nat) (h0 : 0 < k) (hk : k + 3 * nu + 3 * nd ≤ 100000000) (w : World) (h : BRows w B a1 nu c1 a2 nd c2 (mkL k nu) (mkL (k + 3 * nu) nd)) :
    Calls Try.prog 102 #[.agg #[.slice a1 nu c1, .int .i64 s1, .int .i64 w1, .slice a2 nd c2, .int .i64 s2, .int .i64 w2, .int .i64 mn, .int .i64 mx], .int .i64 k] w fun e w' => e = .returned (.int .i64 ((k + 3 * nu + 3 * nd : Nat) : Int)) ∧ Below w.heap.size w w' := by
  have hb := box_below w #[.slice a1 nu c1, .int .i64 s1, .int .i64 w1, .slice a2 nd c2, .int .i64 s2, .int .i64 w2, .int .i64 mn, .int .i64 mx] 28
  have hk0 := Ser2.cells_new w #[.slice a1 nu c1, .int .i64 s1, .int .i64 w1, .slice a2 nd c2, .int .i64 s2, .int .i64 w2, .int .i64 mn, .int .i64 mx] 28
  have HO1 := Lib.hid (OwnL.kept h.1 hb)
  have HO2 := Lib.hid (OwnL.kept h.2 hb)
  have HX := Lib.hid hb
  have K0 : Hid (SdT.CW8 _ w.heap.size _ _ _ _ _ _ _ _) := hk0
  obtain ⟨q, hq⟩ : ∃ q, k + 3 * nu = q := ⟨_, rfl⟩
  obtain ⟨r, hr⟩ : ∃ r, q + 3 * nd = r := ⟨_, rfl⟩
  have hc1 := fun W (h : OwnL W B (.slice a1 nu c1) (mkL k nu)) => held_side nu s1 w1 a1 c1 B k h0 (by omega) W h
  have hc2 := fun W (h : OwnL W B (.slice a2 nd c2) (mkL q nd)) => held_side nd s2 w2 a2 c2 B q (by omega) (by omega) W h
  rw [hq] at hc1 HO2
  rw [hr] at hc2
  rw [hq, hr]
  have HC1 := Lib.hid hc1
  have HC2 := Lib.hid hc2
  have hq0 : ¬ (q : Int) < 0 := by omega
  have hr0 : ¬ (r : Int) < 0 := by omega
  clear h hb hk0 hc1 hc2 hq hr
  go_enter Try.func102, Try.ntmps102
  go_wp2_with fail
  refine (HC1.out _ HO1.out).mono ?_
  rintro e w3 ⟨rfl, hw⟩
  have HR2 := Lib.hid (OwnL.kept HO2.out hw)
  have K1 : Hid (SdT.CW8 w3 w.heap.size _ _ _ _ _ _ _ _) := CellsW.kept K0.out hw
  have HX1 := Lib.hid (HX.out.trans (hw.mono HX.out.size))
  clear hw HO1 HO2 K0
  obtain ⟨⟨x0, x1, x2, x3, x4, x5, x6, x7⟩, -⟩ := K1.out.get
  go_wp2_with fail
  refine (HC2.out _ HR2.out).mono ?_
  rintro e w4 ⟨rfl, hw⟩
  have HX2 := Lib.hid (HX1.out.trans (hw.mono HX1.out.size))
  clear hw HR2 K1 x0 x1 x2 x3 x4 x5 x6 x7
  go_wp2
  go_ret
  exact ⟨rfl, HX2.out⟩
/-! ### Setups. -/
def SRows (w : World) (B : Nat) (a0 : Option Addr) (ng c0 : Nat) (a1 : Option Addr) (nu c1 : Nat) (a2 : Option Addr) (nd c2 : Nat) (gs : List Gl) (us ds : List Pl) : Prop := OwnG w B (.slice a0 ng c0) gs ∧ BRows w B a1 nu c1 a2 nd c2 us ds
theorem gmark (ps : List Gl) (n : Nat) (hn : ps.length = n) (a : Option Addr) (cap B k : Nat) (h0 : 0 < k) (hk : k + 3 * n ≤ 100000000) (w : World) (h : OwnG w B (.slice a n cap) ps) :
    Calls Try.prog 99 #[.slice a n cap, .int .i64 k] w fun e w' => e = .returned (.int .i64 ((k + 3 * n : Nat) : Int)) ∧ OwnG w' B (.slice a n cap) (mkG k n) ∧ OnlyA a w w' := by
  subst hn
  exact mark_goals ps a cap B k h0 hk w h
set_option maxHeartbeats 1000000 in
theorem mark_setup (ng nu nd : Nat) (gs : List Gl) (us ds : List Pl) (hng : gs.length = ng) (hnu : us.length = nu) (hnd : ds.length = nd) (r1 r2 r3 s1 w1 s2 w2 mn mx : Int) (a0 : Option Addr) (c0 : Nat) (a1 : Option Addr) (c1 : Nat) (a2 : Option Addr) (c2 : Nat) (h01 : Apart a0 a1) (h02 : Apart a0 a2) (h12 : Apart a1 a2) (B k : Nat) (h0 : 0 < k) (hk : k + 3 * ng + 3 * nu + 3 * nd ≤ 100000000) (w : World) (hB : B ≤ w.heap.size) (h : SRows w B a0 ng c0 a1 nu c1 a2 nd c2 gs us ds) :
    Calls Try.prog 40 #[.agg #[.int .i64 r1, .int .i64 r2, .int .i64 r3, .slice a0 ng c0, .slice a1 nu c1, .int .i64 s1, .int .i64 w1, .slice a2 nd c2, .int .i64 s2, .int .i64 w2, .int .i64 mn, .int .i64 mx], .int .i64 k] w fun e w' => e = .returned (.int .i64 ((k + 3 * ng + 3 * nu + 3 * nd : Nat) : Int)) ∧ SRows w' B a0 ng c0 a1 nu c1 a2 nd c2 (mkG k ng) (mkL (k + 3 * ng) nu) (mkL (k + 3 * ng + 3 * nu) nd) ∧ Below B w w' ∧ (∀ g, g < w.heap.size → (∀ b o s, a0 = some ⟨b, o, s⟩ → g ≠ b) → (∀ b o s, a1 = some ⟨b, o, s⟩ → g ≠ b) → (∀ b o s, a2 = some ⟨b, o, s⟩ → g ≠ b) → w'.heap[g]? = w.heap[g]?) := by
  have hb := box_below w #[.int .i64 r1, .int .i64 r2, .int .i64 r3, .slice a0 ng c0, .slice a1 nu c1, .int .i64 s1, .int .i64 w1, .slice a2 nd c2, .int .i64 s2, .int .i64 w2, .int .i64 mn, .int .i64 mx] 71
  have hk0 := Ser2.cells_new w #[.int .i64 r1, .int .i64 r2, .int .i64 r3, .slice a0 ng c0, .slice a1 nu c1, .int .i64 s1, .int .i64 w1, .slice a2 nd c2, .int .i64 s2, .int .i64 w2, .int .i64 mn, .int .i64 mx] 71
  have HL0 := Lib.hid (own_lt h.1)
  have HL1 := Lib.hid (own_lt h.2.1)
  have HL2 := Lib.hid (own_lt h.2.2)
  have HB0 := Lib.hid (row_base h.1)
  have HO0 := Lib.hid (OwnG.kept h.1 hb)
  have HO1 := Lib.hid (OwnL.kept h.2.1 hb)
  have HO2 := Lib.hid (OwnL.kept h.2.2 hb)
  have HX := Lib.hid hb
  have H01 := Lib.hid h01
  have H02 := Lib.hid h02
  have K0 : Hid (CW12 _ w.heap.size _ _ _ _ _ _ _ _ _ _ _ _) := hk0
  obtain ⟨q, hq⟩ : ∃ q, k + 3 * ng = q := ⟨_, rfl⟩
  have hc0 := fun W (h : OwnG W B (.slice a0 ng c0) gs) => gmark gs ng hng a0 c0 B k h0 (by omega) W h
  have hc1 := fun W (hW : B ≤ W.heap.size) (h : BRows W B a1 nu c1 a2 nd c2 us ds) => mark_behave nu nd us ds hnu hnd s1 w1 s2 w2 mn mx a1 c1 a2 c2 h12 B q (by omega) (by omega) W hW h
  rw [hq] at hc0 ⊢
  have HC0 := Lib.hid hc0
  have HC1 := Lib.hid hc1
  have HBB := Lib.hid hB
  clear h hb hk0 h01 h02 h12 hc0 hc1 hq hB
  go_enter Try.func40, Try.ntmps40
  go_wp2_with fail
  refine (HC0.out _ HO0.out).mono ?_
  rintro e w3 ⟨rfl, ho, hwo⟩
  have hw := Wo.of_only hwo
  have HR0 := Lib.hid ho
  have HR1 := Lib.hid (row_wo HO1.out hw H01.out.symm)
  have HR2 := Lib.hid (row_wo HO2.out hw H02.out.symm)
  have K1 : Hid (CW12 w3 w.heap.size _ _ _ _ _ _ _ _ _ _ _ _) := cells_wo K0.out hw (fun b o s e => by have := HL0.out b o s e; omega)
  have HW1 := Lib.hid (hw.below HB0.out (by have := HX.out.size; have := HBB.out; omega))
  have HWO := Lib.hid hw
  have HZ1 := Lib.hid hw.size
  clear ho hw hwo HO0 HO1 HO2 K0
  obtain ⟨⟨x0, x1, x2, x3, x4, x5, x6, x7, x8, x9, x10, x11⟩, -⟩ := K1.out.get
  go_wp2_with fail
  refine (HC1.out _ (by have := HX.out.size; have := HBB.out; have := HZ1.out; omega) ⟨HR1.out, HR2.out⟩).mono ?_
  rintro e w4 ⟨rfl, ho, hw, hbl⟩
  have HS0 : Hid (OwnG w4 B (.slice a0 ng c0) (mkG k ng)) := row_two HR0.out (fun g hg h1 h2 => hbl g hg h1 h2) H01.out H02.out
  have HS1 := Lib.hid ho
  have HW2 := Lib.hid hw
  have HBL := Lib.hid hbl
  clear ho hw hbl HR0 HR1 HR2 K1 x0 x1 x2 x3 x4 x5 x6 x7 x8 x9 x10 x11
  go_wp2
  go_ret
  refine ⟨rfl, ⟨HS0.out, HS1.out⟩, ?_, ?_⟩
  · have b1 : Below B w _ := HX.out.mono HBB.out
    exact (b1.trans HW1.out).trans HW2.out
  · intro g hg g0 g1 g2
    have e1 := HX.out.size
    have e2 := HZ1.out
    rw [HBL.out g (by omega) g1 g2, HWO.out.block g (by omega) g0, HX.out.block g hg]
theorem cells_at {w w' : World} {g : Nat} {vs : List Value} (h : CellsW w g vs) (hz : w.heap.size ≤ w'.heap.size) (hb : w'.heap[g]? = w.heap[g]?) : CellsW w' g vs := by
  refine ⟨Nat.lt_of_lt_of_le h.1 hz, fun j hj => ⟨(World.cell?_of_block (w := w) hb).trans (h.2 j hj).1, ?_⟩⟩
  have hf := (h.2 j hj).2
  simp only [World.frozen?, hb] at hf ⊢
  exact hf
set_option maxHeartbeats 1000000 in
theorem held_setup (ng nu nd : Nat) (r1 r2 r3 s1 w1 s2 w2 mn mx : Int) (a0 : Option Addr) (c0 : Nat) (a1 : Option Addr) (c1 : Nat) (a2 : Option Addr) (c2 : Nat) (B k : Nat) (h0 : 0 < k) (hk : k + 3 * ng + 3 * nu + 3 * nd ≤ 100000000) (w : World) (h : SRows w B a0 ng c0 a1 nu c1 a2 nd c2 (mkG k ng) (mkL (k + 3 * ng) nu) (mkL (k + 3 * ng + 3 * nu) nd)) :
    Calls Try.prog 41 #[.agg #[.int .i64 r1, .int .i64 r2, .int .i64 r3, .slice a0 ng c0, .slice a1 nu c1, .int .i64 s1, .int .i64 w1, .slice a2 nd c2, .int .i64 s2, .int .i64 w2, .int .i64 mn, .int .i64 mx], .int .i64 k] w fun e w' => e = .returned (.int .i64 ((k + 3 * ng + 3 * nu + 3 * nd : Nat) : Int)) ∧ Below w.heap.size w w' := by
  have hb := box_below w #[.int .i64 r1, .int .i64 r2, .int .i64 r3, .slice a0 ng c0, .slice a1 nu c1, .int .i64 s1, .int .i64 w1, .slice a2 nd c2, .int .i64 s2, .int .i64 w2, .int .i64 mn, .int .i64 mx] 71
  have hk0 := Ser2.cells_new w #[.int .i64 r1, .int .i64 r2, .int .i64 r3, .slice a0 ng c0, .slice a1 nu c1, .int .i64 s1, .int .i64 w1, .slice a2 nd c2, .int .i64 s2, .int .i64 w2, .int .i64 mn, .int .i64 mx] 71
  have HO0 := Lib.hid (OwnG.kept h.1 hb)
  have HO1 := Lib.hid (OwnL.kept h.2.1 hb)
  have HO2 := Lib.hid (OwnL.kept h.2.2 hb)
  have HX := Lib.hid hb
  have K0 : Hid (CW12 _ w.heap.size _ _ _ _ _ _ _ _ _ _ _ _) := hk0
  obtain ⟨q, hq⟩ : ∃ q, k + 3 * ng = q := ⟨_, rfl⟩
  obtain ⟨r, hr⟩ : ∃ r, q + 3 * nu + 3 * nd = r := ⟨_, rfl⟩
  have hc0 := fun W (h : OwnG W B (.slice a0 ng c0) (mkG k ng)) => held_goals ng a0 c0 B k h0 (by omega) W h
  have hc1 := fun W (h : BRows W B a1 nu c1 a2 nd c2 (mkL q nu) (mkL (q + 3 * nu) nd)) => held_behave nu nd s1 w1 s2 w2 mn mx a1 c1 a2 c2 B q (by omega) (by omega) W h
  rw [hq] at hc0 HO1 HO2
  rw [hr] at hc1
  rw [hq, hr]
  have HC0 := Lib.hid hc0
  have HC1 := Lib.hid hc1
  have hq0 : ¬ (q : Int) < 0 := by omega
  have hr0 : ¬ (r : Int) < 0 := by omega
  clear h hb hk0 hc0 hc1 hq hr
  go_enter Try.func41, Try.ntmps41
  go_wp2_with fail
  refine (HC0.out _ HO0.out).mono ?_
  rintro e w3 ⟨rfl, hw⟩
  have HR1 := Lib.hid (OwnL.kept HO1.out hw)
  have HR2 := Lib.hid (OwnL.kept HO2.out hw)
  have K1 : Hid (CW12 w3 w.heap.size _ _ _ _ _ _ _ _ _ _ _ _) := CellsW.kept K0.out hw
  have HX1 := Lib.hid (HX.out.trans (hw.mono HX.out.size))
  clear hw HO0 HO1 HO2 K0
  obtain ⟨⟨x0, x1, x2, x3, x4, x5, x6, x7, x8, x9, x10, x11⟩, -⟩ := K1.out.get
  go_wp2_with fail
  refine (HC1.out _ ⟨HR1.out, HR2.out⟩).mono ?_
  rintro e w4 ⟨rfl, hw⟩
  have HX2 := Lib.hid (HX1.out.trans (hw.mono HX1.out.size))
  clear hw HR1 HR2 K1 x0 x1 x2 x3 x4 x5 x6 x7 x8 x9 x10 x11
  go_wp2
  go_ret
  exact ⟨rfl, HX2.out⟩
end Go.Proofs.Ytcjjdnfikccnmaa.MkS
