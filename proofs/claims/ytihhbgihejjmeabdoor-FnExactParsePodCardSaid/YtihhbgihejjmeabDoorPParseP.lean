/- ParsePod, plain mathematics: the line of a valid pod comes apart into its four words, and only it does. -/
import Derived.Test.YtihhbgihejjmeabDoorParseP
import Derived.Test.YtihhbgihejjmeabDoorPLine
namespace Go.Proofs.YtihhbgihejjmeabDoor.PParseP
open Go.RowKit
open Go.Proofs.YtihhbgihejjmeabDoor.C2
open Go.Proofs.YtihhbgihejjmeabDoor.Milli
open Go.Proofs.YtihhbgihejjmeabDoor.Line
open Go.Proofs.YtihhbgihejjmeabDoor.Split
open Go.Proofs.YtihhbgihejjmeabDoor.Read
open Go.Proofs.YtihhbgihejjmeabDoor.Pd
open Go.Proofs.YtihhbgihejjmeabDoor.PLine
open Go.Proofs.YtihhbgihejjmeabDoor.ParseP (parts_four parts_join name_no dig_no tick_inj atoi_tick parts_nil)
set_option linter.unusedVariables false

theorem ph_no (k : Nat) : (32 : UInt8) ∉ phL k := by
  unfold phL
  split
  · decide
  · split <;> decide
theorem rd_no (b : Bool) : (32 : UInt8) ∉ rdL b := by cases b <;> decide
theorem ph_inj {j k : Nat} (hj : j < 3) (hk : k < 3) (e : phL j = phL k) : j = k := by
  have h1 : j = 0 ∨ j = 1 ∨ j = 2 := by omega
  have h2 : k = 0 ∨ k = 1 ∨ k = 2 := by omega
  rcases h1 with rfl | rfl | rfl <;> rcases h2 with rfl | rfl | rfl <;> first | rfl | (revert e; decide)
theorem rd_inj {a b : Bool} (e : rdL a = rdL b) : a = b := by cases a <;> cases b <;> first | rfl | (revert e; decide)
theorem pline_parts {p : Pd} (h : okP p = true) : parts 32 (plineL p) = [p.nm.data.toList, Lib.itoa p.born, phL p.ph.toNat, rdL p.rdy] := by
  obtain ⟨h1, h2, _, _⟩ := okp_parts h
  obtain ⟨t1, t2⟩ := size_of h2
  unfold plineL
  exact parts_four (name_no h1) (dig_no (itoa_tick t1 t2).1) (ph_no _) (rd_no _)
theorem pwords {p : Pd} (h : okP p = true) {a b d e : List UInt8} (hl : parts 32 (plineL p) = [a, b, d, e]) : p.nm = mk a ∧ Lib.itoa p.born = b ∧ 0 ≤ p.born ∧ p.born ≤ 1000000000 ∧ phL p.ph.toNat = d ∧ rdL p.rdy = e ∧ 0 ≤ p.ph ∧ p.ph ≤ 2 := by
  obtain ⟨h1, h2, h3, h4⟩ := okp_parts h
  obtain ⟨t1, t2⟩ := size_of h2
  rw [pline_parts h] at hl
  simp only [List.cons.injEq, and_true] at hl
  obtain ⟨e1, e2, e3, e4⟩ := hl
  exact ⟨by rw [← e1]; rfl, e2, t1, t2, e3, e4, h3, h4⟩
theorem pd_ext {s t : Pd} (h1 : s.nm = t.nm) (h2 : s.born = t.born) (h3 : s.ph = t.ph) (h4 : s.rdy = t.rdy) : s = t := by
  cases s; cases t
  simp only at h1 h2 h3 h4
  rw [h1, h2, h3, h4]
theorem pline_inj {s t : Pd} (hs : okP s = true) (ht : okP t = true) (e : plineL s = plineL t) : s = t := by
  have hp := pline_parts ht
  rw [← e] at hp
  obtain ⟨e1, e2, t1, t2, e3, e4, p1, p2⟩ := pwords hs hp
  have hq := pline_parts ht
  obtain ⟨f1, f2, u1, u2, f3, f4, q1, q2⟩ := pwords ht hq
  have h3 := ph_inj (by omega) (by omega) e3
  exact pd_ext (e1.trans f1.symm) (tick_inj t1 t2 u1 u2 e2) (by omega) (rd_inj e4)
/-- What ParsePod says of the line l. -/
structure PPicks (l : List UInt8) (s : Pd) (ok : Bool) : Prop where
  yes : ok = true → okP s = true ∧ plineL s = l
  no : ok = false → s = ⟨⟨#[]⟩, 0, 0, false⟩ ∧ ∀ t, okP t = true → plineL t ≠ l
theorem ppicks_one {l : List UInt8} {s t : Pd} {a b : Bool} (h : PPicks l s a) (k : PPicks l t b) : s = t ∧ a = b := by
  cases a <;> cases b
  · exact ⟨(h.no rfl).1.trans (k.no rfl).1.symm, rfl⟩
  · obtain ⟨k1, k2⟩ := k.yes rfl
    exact absurd k2 ((h.no rfl).2 t k1)
  · obtain ⟨k1, k2⟩ := h.yes rfl
    exact absurd k2 ((k.no rfl).2 s k1)
  · obtain ⟨h1, h2⟩ := h.yes rfl
    obtain ⟨k1, k2⟩ := k.yes rfl
    exact ⟨pline_inj h1 k1 (h2.trans k2.symm), rfl⟩
def PNever (l : List UInt8) : Prop := ∀ t, okP t = true → plineL t ≠ l
theorem ppicks_no {l : List UInt8} (h : PNever l) : PPicks l ⟨⟨#[]⟩, 0, 0, false⟩ false := ⟨fun e => by simp at e, fun _ => ⟨rfl, h⟩⟩
theorem ppicks_yes {l : List UInt8} {s : Pd} (h : okP s = true) (e : plineL s = l) : PPicks l s true := ⟨fun _ => ⟨h, e⟩, fun e => by simp at e⟩
theorem pnever_four {l : List UInt8} (h : (parts 32 l).length ≠ 4) : PNever l := fun t ht e => by
  rw [← e, pline_parts ht] at h
  exact h rfl
theorem pnever_long {l : List UInt8} (h : 50 < l.length) : PNever l := fun t ht e => by
  obtain ⟨h1, h2, _, _⟩ := okp_parts ht
  have l1 := name_len h1
  obtain ⟨t1, t2⟩ := size_of h2
  have l2 := (itoa_tick t1 t2).2.2.2
  have l3 := ph_len t.ph.toNat
  have l4 := rd_len t.rdy
  rw [← e] at h
  unfold plineL at h
  simp only [List.length_append, List.length_cons] at h
  omega
theorem pnever_read {l a b d e : List UInt8} (hp : parts 32 l = [a, b, d, e]) {x : Int} (h : Reads b x false) : PNever l := fun t ht el => by
  subst el
  obtain ⟨_, e2, t1, t2, _⟩ := pwords ht hp
  have := (h.all t.born t1 t2 e2).2
  cases this
theorem ppicks_line {l a b d e : List UInt8} (hp : parts 32 l = [a, b, d, e]) {p : Pd} (h : plineV p = l) : PPicks l p true := by
  cases ho : okP p
  · unfold plineV at h
    rw [ho] at h
    subst h
    have := hp.symm.trans parts_nil
    cases this
  · unfold plineV at h
    rw [if_pos ho] at h
    exact ppicks_yes ho h
/-- None of the six pods that the model tries writes l: nobody does. -/
theorem pnever_tried {l a b d e : List UInt8} (hp : parts 32 l = [a, b, d, e]) {x : Int} {bx : Bool} (h : Reads b x bx) (hn : ∀ (f : Nat) (r : Bool), f < 3 → plineV ⟨mk a, x, (f : Int), r⟩ ≠ l) : PNever l := fun t ht el => by
  obtain ⟨e1, e2, t1, t2, _, _, p1, p2⟩ := pwords ht (by rw [el]; exact hp)
  have hx := (h.all t.born t1 t2 e2).1
  apply hn t.ph.toNat t.rdy (by omega)
  rw [show (⟨mk a, x, (t.ph.toNat : Int), t.rdy⟩ : Pd) = t from pd_ext e1.symm hx (by simp only; omega) rfl]
  unfold plineV
  rw [if_pos ht, el]
/-- The phase that a word names, or -1; whether a word says that a pod is ready. -/
def phW (d : List UInt8) : Int := if phL 0 = d then 0 else if phL 1 = d then 1 else if phL 2 = d then 2 else -1
def rdW (e : List UInt8) : Bool := decide (e = rdL true)
theorem ph_word (k : Nat) (hk : k < 3) : phW (phL k) = k := by
  have h2 : k = 0 ∨ k = 1 ∨ k = 2 := by omega
  rcases h2 with rfl | rfl | rfl <;> decide
theorem rd_word (b : Bool) : rdW (rdL b) = b := by cases b <;> decide
theorem pnever_atoi {l a b d e : List UInt8} (hp : parts 32 l = [a, b, d, e]) (h : ∀ y, Lib.atoiAll b ≠ .ok y) : PNever l := fun t ht el => by
  subst el
  obtain ⟨_, e2, t1, t2, _⟩ := pwords ht hp
  exact h t.born (by rw [← e2]; exact atoi_tick t1 t2)
theorem pnever_line {l a b d e : List UInt8} (hp : parts 32 l = [a, b, d, e]) {y : Int} (hy : Lib.atoiAll b = .ok y) (h : plineV ⟨mk a, y, phW d, rdW e⟩ ≠ l) : PNever l := fun t ht el => by
  subst el
  obtain ⟨e1, e2, t1, t2, e3, e4, p1, p2⟩ := pwords ht hp
  rw [← e2, atoi_tick t1 t2] at hy
  injection hy with hy
  apply h
  rw [show (⟨mk a, y, phW d, rdW e⟩ : Pd) = t from pd_ext e1.symm hy.symm (by show phW d = t.ph; rw [← e3, ph_word _ (by omega)]; omega) (by show rdW e = t.rdy; rw [← e4, rd_word])]
  unfold plineV
  rw [if_pos ht]
end Go.Proofs.YtihhbgihejjmeabDoor.PParseP
