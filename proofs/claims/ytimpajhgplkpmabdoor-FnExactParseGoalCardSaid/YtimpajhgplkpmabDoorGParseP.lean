/- ParseGoal, plain mathematics: the line of a valid goal comes apart into its three words, and only it does. -/
import Derived.Test.YtimpajhgplkpmabDoorParseP
import Derived.Test.YtimpajhgplkpmabDoorGLine
namespace Go.Proofs.YtimpajhgplkpmabDoor.GParseP
open Go.RowKit
open Go.Proofs.YtimpajhgplkpmabDoor.C1
open Go.Proofs.YtimpajhgplkpmabDoor.C2
open Go.Proofs.YtimpajhgplkpmabDoor.Milli
open Go.Proofs.YtimpajhgplkpmabDoor.MilliP
open Go.Proofs.YtimpajhgplkpmabDoor.Line
open Go.Proofs.YtimpajhgplkpmabDoor.Split
open Go.Proofs.YtimpajhgplkpmabDoor.Read
open Go.Proofs.YtimpajhgplkpmabDoor.Gl
open Go.Proofs.YtimpajhgplkpmabDoor.GLine
open Go.Proofs.YtimpajhgplkpmabDoor.ParseP (spl_word parts_last joinT spl_join name_no dig_no milli_no val_of milli_ne tick_inj atoi_tick parts_nil pm_back)
set_option linter.unusedVariables false

theorem parts_three {c : UInt8} {a b d : List UInt8} (ha : c ∉ a) (hb : c ∉ b) (hd : c ∉ d) : parts c (a ++ c :: (b ++ c :: d)) = [a, b, d] := by
  obtain ⟨l, hl⟩ : ∃ l, a ++ c :: (b ++ c :: d) = l := ⟨_, rfl⟩
  rw [hl]
  have s0 : spl c l ([] : List UInt8).length = ([], ([] : List UInt8).length) := rfl
  have s1 := spl_word (pre := []) (p := a) (r := b ++ c :: d) (by rw [← hl]; rfl) s0 ha
  have s2 := spl_word (pre := [] ++ (a ++ [c])) (p := b) (r := d) (by rw [← hl]; simp) s1 hb
  have s3 := parts_last (p := d) (by rw [← hl]; simp) s2 hd
  rw [s3]; rfl
theorem parts_join3 (c : UInt8) (l : List UInt8) {a b d : List UInt8} (h : parts c l = [a, b, d]) : l = a ++ c :: (b ++ c :: d) := by
  rw [cut_last] at h
  have hj := spl_join c l l.length (Nat.le_refl _)
  have hle := (spl_le c l l.length).1
  obtain ⟨o, ho⟩ : ∃ o, (spl c l l.length).1 = o := ⟨_, rfl⟩
  obtain ⟨k, hk⟩ : ∃ k, (spl c l l.length).2 = k := ⟨_, rfl⟩
  rw [ho, hk] at h hj
  rw [hk] at hle
  have h2 : o = [a, b] ∧ (l.drop k).take (l.length - k) = d := by
    have : o ++ [(l.drop k).take (l.length - k)] = [a, b] ++ [d] := by rw [h]; rfl
    have := List.append_inj' this rfl
    exact ⟨this.1, by simpa using this.2⟩
  obtain ⟨rfl, h3⟩ := h2
  rw [List.take_of_length_le (by simp)] at h3
  have h4 : l = l.take k ++ l.drop k := (List.take_append_drop k l).symm
  rw [← hj, h3] at h4
  rw [h4]
  simp [joinT]
theorem gline_parts {g : Gl} (h : okG g = true) : parts 32 (glineL g) = [g.met.data.toList, milli g.tar, Lib.itoa g.tol] := by
  obtain ⟨h1, h2, h3⟩ := okg_parts h
  obtain ⟨t1, t2⟩ := size_of h3
  unfold glineL
  exact parts_three (name_no h1) (milli_no (val_of h2)) (dig_no (itoa_tick t1 t2).1)
theorem gwords {g : Gl} (h : okG g = true) {a b d : List UInt8} (hl : parts 32 (glineL g) = [a, b, d]) : g.met = mk a ∧ pmB b = true ∧ pmV b = g.tar ∧ Lib.itoa g.tol = d ∧ 0 ≤ g.tol ∧ g.tol ≤ 1000000000 := by
  obtain ⟨h1, h2, h3⟩ := okg_parts h
  rw [gline_parts h] at hl
  simp only [List.cons.injEq, and_true] at hl
  obtain ⟨e1, e2, e3⟩ := hl
  obtain ⟨g1, g2⟩ := pm_of e2 (by rw [← e2]; exact milli_ne (val_of h2))
  obtain ⟨t1, t2⟩ := size_of h3
  exact ⟨by rw [← e1]; rfl, g1, g2, e3, t1, t2⟩
theorem gl_ext {s t : Gl} (h1 : s.met = t.met) (h2 : s.tar = t.tar) (h3 : s.tol = t.tol) : s = t := by
  cases s; cases t
  simp only at h1 h2 h3
  rw [h1, h2, h3]
theorem gline_inj {s t : Gl} (hs : okG s = true) (ht : okG t = true) (e : glineL s = glineL t) : s = t := by
  have hp := gline_parts ht
  rw [← e] at hp
  obtain ⟨e1, _, e2, e3, t1, t2⟩ := gwords hs hp
  have hq := gline_parts ht
  obtain ⟨f1, _, f2, f3, u1, u2⟩ := gwords ht hq
  exact gl_ext (e1.trans f1.symm) (e2.symm.trans f2) (tick_inj t1 t2 u1 u2 e3)
def zG : Gl := ⟨⟨#[]⟩, 0, 0⟩
theorem zG_wf : zG.wf := ⟨by unfold maxLen; decide, by decide, by decide⟩
/-- What ParseGoal says of the line l. -/
structure GPicks (l : List UInt8) (s : Gl) (ok : Bool) : Prop where
  yes : ok = true → okG s = true ∧ glineL s = l
  no : ok = false → s = zG ∧ ∀ t, okG t = true → glineL t ≠ l
theorem gpicks_one {l : List UInt8} {s t : Gl} {a b : Bool} (h : GPicks l s a) (k : GPicks l t b) : s = t ∧ a = b := by
  cases a <;> cases b
  · exact ⟨(h.no rfl).1.trans (k.no rfl).1.symm, rfl⟩
  · obtain ⟨k1, k2⟩ := k.yes rfl
    exact absurd k2 ((h.no rfl).2 t k1)
  · obtain ⟨k1, k2⟩ := h.yes rfl
    exact absurd k2 ((k.no rfl).2 s k1)
  · obtain ⟨h1, h2⟩ := h.yes rfl
    obtain ⟨k1, k2⟩ := k.yes rfl
    exact ⟨gline_inj h1 k1 (h2.trans k2.symm), rfl⟩
def GNever (l : List UInt8) : Prop := ∀ t, okG t = true → glineL t ≠ l
theorem gpicks_no {l : List UInt8} (h : GNever l) : GPicks l zG false := ⟨fun e => by simp at e, fun _ => ⟨rfl, h⟩⟩
theorem gpicks_yes {l : List UInt8} {s : Gl} (h : okG s = true) (e : glineL s = l) : GPicks l s true := ⟨fun _ => ⟨h, e⟩, fun e => by simp at e⟩
theorem gnever_three {l : List UInt8} (h : (parts 32 l).length ≠ 3) : GNever l := fun t ht e => by
  rw [← e, gline_parts ht] at h
  exact h rfl
theorem gnever_long {l : List UInt8} (h : 40 < l.length) : GNever l := fun t ht e => by
  obtain ⟨h1, h2, h3⟩ := okg_parts ht
  have l1 := name_len h1
  obtain ⟨_, _, _, l3, _⟩ := scan_milli (val_of h2)
  obtain ⟨t1, t2⟩ := size_of h3
  have l4 := (itoa_tick t1 t2).2.2.2
  rw [← e] at h
  unfold glineL at h
  simp only [List.length_append, List.length_cons] at h
  omega
theorem gnever_pm {l a b d : List UInt8} (hp : parts 32 l = [a, b, d]) (h : pmB b = false) : GNever l := fun t ht el => by
  subst el
  have := (gwords ht hp).2.1
  rw [h] at this
  cases this
theorem gnever_read {l a b d : List UInt8} (hp : parts 32 l = [a, b, d]) {x : Int} (h : Reads d x false) : GNever l := fun t ht el => by
  subst el
  obtain ⟨_, _, _, e4, t1, t2⟩ := gwords ht hp
  have := (h.all t.tol t1 t2 e4).2
  cases this
theorem gnever_ok {l a b d : List UInt8} (hp : parts 32 l = [a, b, d]) {x : Int} {bx : Bool} (h : Reads d x bx) (ho : okG ⟨mk a, pmV b, x⟩ = false) : GNever l := fun t ht el => by
  subst el
  obtain ⟨e1, _, e3, e4, t1, t2⟩ := gwords ht hp
  have hx := (h.all t.tol t1 t2 e4).1
  have : t = ⟨mk a, pmV b, x⟩ := gl_ext e1 e3.symm hx.symm
  rw [← this, ht] at ho
  cases ho
theorem gline_of {l a b d : List UInt8} (hp : parts 32 l = [a, b, d]) (hd : pmB b = true) {x : Int} (he : Lib.itoa x = d) : glineL ⟨mk a, pmV b, x⟩ = l := by
  rw [parts_join3 32 l hp]
  unfold glineL
  simp only
  rw [pm_back hd, he]
  rfl
theorem gnever_atoi {l a b d : List UInt8} (hp : parts 32 l = [a, b, d]) (h : ∀ y, Lib.atoiAll d ≠ .ok y) : GNever l := fun t ht el => by
  subst el
  obtain ⟨_, _, _, e4, t1, t2⟩ := gwords ht hp
  exact h t.tol (by rw [← e4]; exact atoi_tick t1 t2)
theorem gpicks_line {l a b d : List UInt8} (hp : parts 32 l = [a, b, d]) {y : Int} (h : glineV ⟨mk a, pmV b, y⟩ = l) : GPicks l ⟨mk a, pmV b, y⟩ true := by
  cases ho : okG ⟨mk a, pmV b, y⟩
  · unfold glineV at h
    rw [ho] at h
    subst h
    have := hp.symm.trans parts_nil
    cases this
  · unfold glineV at h
    rw [if_pos ho] at h
    exact gpicks_yes ho h
theorem gnever_line {l a b d : List UInt8} (hp : parts 32 l = [a, b, d]) {y : Int} (hy : Lib.atoiAll d = .ok y) (h : glineV ⟨mk a, pmV b, y⟩ ≠ l) : GNever l := fun t ht el => by
  subst el
  obtain ⟨e1, _, e3, e4, t1, t2⟩ := gwords ht hp
  rw [← e4, atoi_tick t1 t2] at hy
  injection hy with hy
  apply h
  rw [show (⟨mk a, pmV b, y⟩ : Gl) = t from gl_ext e1.symm e3 hy.symm]
  unfold glineV
  rw [if_pos ht]
end Go.Proofs.YtimpajhgplkpmabDoor.GParseP
