/- Slices of samples: 'Smps w a xs' says that the slice at a holds the samples xs; how such an argument is opened; the contracts of laws.szSampleS, laws.toSampleS (a copy), laws.eqSampleS (a comparison). -/
import Derived.Test.YtgmdfkmmbcpikaaGreatC2
import Derived.Test.YtgmdfkmmbcpikaaGreatInts
import Derived.Deep.OwnRows
import Derived.Deep.Slices
import Derived.Deep.Fields
import Derived.ChangeSame
import Derived.Lib.SmallJoins
import Derived.Shelf.SlSortCmp.QuietGrown
namespace Go.Proofs.YtgmdfkmmbcpikaaGreat.Smps
open Go.RowKit Go.Deep
open Go.ChangeShapes Go.WideShapes
open Go.Proofs.YtgmdfkmmbcpikaaGreat.C1
open Go.Proofs.YtgmdfkmmbcpikaaGreat.C2
set_option linter.unusedVariables false

theorem int_eq {k : IntKind} {a b : Int} (h : a = b) : Value.int k a = .int k b := by rw [h]
/-- The four cells of a sample at ⟨b, o⟩. -/
def At4 (w : World) (b o : Nat) (s : Smp) : Prop :=
  w.cell? ⟨b, o, none⟩ = some (.string s.pod) ∧ w.cell? ⟨b, o + 1, none⟩ = some (.string s.met) ∧ w.cell? ⟨b, o + 2, none⟩ = some (.int .i64 s.val) ∧ w.cell? ⟨b, o + 3, none⟩ = some (.int .i64 s.tick)
theorem At4.kept {w w' : World} {b o : Nat} {s : Smp} (h : At4 w b o s) {B : Nat} (hb : Below B w w') (hlt : b < B) : At4 w' b o s := by
  have hc : ∀ j, w'.cell? ⟨b, j, none⟩ = w.cell? ⟨b, j, none⟩ := fun j => hb.cell (p := ⟨b, j, none⟩) hlt
  exact ⟨by rw [hc]; exact h.1, by rw [hc]; exact h.2.1, by rw [hc]; exact h.2.2.1, by rw [hc]; exact h.2.2.2⟩

/-- The slice at a holds the samples xs (in a block that the world has). -/
def Smps (w : World) (a : Option Addr) (xs : List Smp) : Prop :=
  xs = [] ∨ ∃ b off, a = some ⟨b, off, none⟩ ∧ b < w.heap.size ∧ ∀ (i : Nat) (h : i < xs.length), At4 w b (off + i * 4) xs[i]
theorem Smps.kept {w w' : World} {a : Option Addr} {xs : List Smp} (h : Smps w a xs) (hb : Below w.heap.size w w') : Smps w' a xs := by
  rcases h with h | ⟨b, off, h1, h2, h3⟩
  · exact .inl h
  · exact .inr ⟨b, off, h1, Nat.lt_of_lt_of_le h2 hb.size, fun i hi => (h3 i hi).kept hb h2⟩
theorem Smps.cells {w : World} {a : Option Addr} {xs : List Smp} (h : Smps w a xs) : ∃ b off, (0 < xs.length → a = some ⟨b, off, none⟩) ∧ (0 < xs.length → b < w.heap.size) ∧ ∀ (i : Nat) (h : i < xs.length), At4 w b (off + i * 4) xs[i] := by
  rcases h with h | ⟨b, off, h1, h2, h3⟩
  · subst h
    exact ⟨0, 0, by simp, by simp, fun i h => absurd h (by simp)⟩
  · exact ⟨b, off, fun _ => h1, fun _ => h2, h3⟩

/-! ### An argument that is a slice of samples, opened. -/
section
variable {H : Type} {enc : TypeId × Value → H} {P : Program} {w : World} {base : Nat} {spare : Nat → Bool} {held : Bool}
def IsSmps (w : World) (a : Option Addr) (len cap : Nat) (xs : List Smp) : Prop := xs.length = len ∧ len ≤ cap ∧ cap ≤ maxLen ∧ (∀ s ∈ xs, s.wf) ∧ Smps w a xs

theorem open_smps {t e : TypeId} {f0 f1 f2 f3 : Field} {fuel : Nat} {a : Option Addr} {len cap : Nat} {x : DataW H × List MemPlace} (ht : P.underlying t = some (.slice e)) (he : P.underlying e = some (.struct #[f0, f1, f2, f3]))
    (hone : oneCellFields P #[f0, f1, f2, f3] = true) (hC : P.cellsOf e = 4) {ts ti : TypeId} (hf : f0.type = ts ∧ f1.type = ts ∧ f2.type = ti ∧ f3.type = ti) (hts : P.underlying ts = some .string) (hti : P.underlying ti = some (.int .i64))
    (h : DataW.trod enc P w base (fun _ => true) held fuel t (Value.slice a len cap).cells.toList = some x) : ∃ xs, IsSmps w a len cap xs := by
  obtain ⟨z0, z1, z2, z3⟩ := hf
  rcases open_slice ht h with ⟨hcs, _⟩ | ⟨x, l, c, m, n, D, Pl, hcs, _, hl, hm, hmm, _, hi⟩
  · simp [Value.cells] at hcs
    obtain ⟨rfl, rfl, rfl⟩ := hcs
    exact ⟨[], rfl, Nat.le_refl _, Nat.zero_le _, fun _ h => absurd h (by simp), .inl rfl⟩
  · simp [Value.cells] at hcs
    obtain ⟨rfl, rfl, rfl⟩ := hcs
    have key : ∀ i, i < len → ∃ s : Smp, s.wf ∧ w.cell? (x.add (i * 4)) = some (.string s.pod) ∧ w.cell? ((x.add (i * 4)).add 1) = some (.string s.met) ∧ w.cell? ((x.add (i * 4)).add 2) = some (.int .i64 s.val) ∧ w.cell? ((x.add (i * 4)).add 3) = some (.int .i64 s.tick) := by
      intro i hil
      obtain ⟨cs', hc, ht'⟩ := hi i (by rw [hmm]; simp; omega)
      rw [hC] at hc
      obtain ⟨_, hcl, hat⟩ := World.cells?_some hc
      obtain ⟨y0, y1, y2, y3, n', _, _, g0, g1, g2, g3⟩ := Go.Joins.trod_struct4 he ht'
      obtain ⟨o0, k0⟩ := hone_of hone 0 f0 rfl
      obtain ⟨o1, k1⟩ := hone_of hone 1 f1 rfl
      obtain ⟨o2, k2⟩ := hone_of hone 2 f2 rfl
      obtain ⟨o3, k3⟩ := hone_of hone 3 f3 rfl
      rw [o0, k0, z0] at g0
      rw [o1, k1, z1] at g1
      rw [o2, k2, z2] at g2
      rw [o3, k3, z3] at g3
      match cs', hcl with
      | [c0, c1, c2, c3], _ =>
        obtain ⟨p, e0, _, u0⟩ := DataW.trod_string hts g0
        obtain ⟨q, e1, _, u1⟩ := DataW.trod_string hts g1
        obtain ⟨v, e2, _, u2⟩ := DataW.trod_int hti g2
        obtain ⟨t, e3, _, u3⟩ := DataW.trod_int hti g3
        simp at e0 e1 e2 e3
        subst e0 e1 e2 e3
        refine ⟨⟨p, q, v, t⟩, ⟨u0, u1, bounds_i64 u2, bounds_i64 u3⟩, ?_, ?_, ?_, ?_⟩
        · have := hat 0 (by omega); simpa [Addr.add] using this
        · have := hat 1 (by omega); simpa using this
        · have := hat 2 (by omega); simpa using this
        · have := hat 3 (by omega); simpa using this
    obtain ⟨f, hf⟩ := choose_lt key
    refine ⟨(List.range len).map f, by simp, hl, hm, fun s hs => ?_, ?_⟩
    · obtain ⟨i, hi2, rfl⟩ := List.mem_map.1 hs
      exact (hf i (List.mem_range.1 hi2)).1
    · by_cases h0 : len = 0
      · exact .inl (by simp [h0])
      · obtain ⟨b, off, spot⟩ := x
        have hspot : spot = none := by
          have := (hf 0 (by omega)).2.1
          simpa [Addr.add] using World.cell?_spot this
        subst hspot
        refine .inr ⟨b, off, rfl, ?_, fun i hi2 => ?_⟩
        · have := (hf 0 (by omega)).2.1
          simp [Addr.add] at this
          exact World.block_lt_of_cell? _ _ this
        · have hil : i < len := by simpa using hi2
          obtain ⟨_, c0, c1, c2, c3⟩ := hf i hil
          rw [Go.WideShapes.add_plain] at c0 c1 c2 c3
          rw [Go.WideShapes.add_plain] at c1 c2 c3
          simp only [List.getElem_map, List.getElem_range]
          exact ⟨c0, c1, c2, c3⟩
end

/-! ### Owned rows of samples. -/
def flat (xs : List Smp) : List Value := xs.flatMap encS
theorem flat_len (xs : List Smp) : (flat xs).length = xs.length * 4 := by
  induction xs with
  | nil => rfl
  | cons s r ih => simp only [flat, List.flatMap_cons, List.length_append, List.length_cons] at ih ⊢; simp only [encS, List.length_cons, List.length_nil]; omega
theorem flat_get : ∀ (xs : List Smp) (i j : Nat) (hi : i < xs.length), j < 4 → (flat xs)[i * 4 + j]? = (encS xs[i])[j]?
  | s :: r, 0, j, _, hj => by
    show (encS s ++ flat r)[0 * 4 + j]? = _
    rw [List.getElem?_append_left (by simp only [encS, List.length_cons, List.length_nil]; omega)]
    simp
  | s :: r, i + 1, j, hi, hj => by
    show (encS s ++ flat r)[(i + 1) * 4 + j]? = _
    rw [List.getElem?_append_right (by simp only [encS, List.length_cons, List.length_nil]; omega)]
    have e : (i + 1) * 4 + j - (encS s).length = i * 4 + j := by simp only [encS, List.length_cons, List.length_nil]; omega
    rw [e]
    exact flat_get r i j (by simpa using hi) hj
theorem flat_set : ∀ (xs : List Smp) (i : Nat) (s : Smp), i < xs.length → (((((flat xs).set (i * 4) (.string s.pod)).set (i * 4 + 1) (.string s.met)).set (i * 4 + 2) (.int .i64 s.val)).set (i * 4 + 3) (.int .i64 s.tick)) = flat (xs.set i s)
  | x :: r, 0, s, _ => by simp [flat, encS]
  | x :: r, i + 1, s, hi => by
    have ih := flat_set r i s (by simpa using hi)
    have e : (i + 1) * 4 = i * 4 + 4 := by omega
    show ((((encS x ++ flat r).set _ _).set _ _).set _ _).set _ _ = encS x ++ flat (r.set i s)
    rw [← ih, e]
    simp [encS]
theorem flat_append (xs ys : List Smp) : flat (xs ++ ys) = flat xs ++ flat ys := by simp [flat]

theorem below_put {B : Nat} {w0 w : World} (h : Below B w0 w) {g : Nat} (hg : B ≤ g) (k : Nat) (u0 u1 u2 u3 : Value) :
    Below B w0 ((((w.setCell ⟨g, k * 4, none⟩ u0).setCell ⟨g, k * 4 + 1, none⟩ u1).setCell ⟨g, k * 4 + 2, none⟩ u2).setCell ⟨g, k * 4 + 3, none⟩ u3) :=
  (((h.setCell hg u0).setCell hg u1).setCell hg u2).setCell hg u3

/-! ### laws.toSampleS: a copy. -/
def zeroS : Smp := ⟨⟨#[]⟩, ⟨#[]⟩, 0, 0⟩
theorem cells_made (n : Nat) : (madeCells (smpV zeroS).cells (n * 4)).toList = flat (List.replicate n zeroS) := by
  apply List.ext_getElem?
  intro j
  by_cases hj : j < n * 4
  · have hl : j < (madeCells (smpV zeroS).cells (n * 4)).toList.length := by simpa [size_madeCells] using hj
    have e : j = j / 4 * 4 + j % 4 := by omega
    rw [e, flat_get _ _ _ (by simp; omega) (by omega), ← e]
    have hj4 : j % 4 < 4 := by omega
    simp only [madeCells, smpV, Value.cells]
    simp [hj, encS, zeroS]
    rcases (by omega : j % 4 = 0 ∨ j % 4 = 1 ∨ j % 4 = 2 ∨ j % 4 = 3) with h | h | h | h <;> simp [h]
  · rw [List.getElem?_eq_none (by simp [size_madeCells]; omega), List.getElem?_eq_none (by rw [flat_len]; simp; omega)]

def fillS (xs : List Smp) (k : Nat) : List Smp := xs.take k ++ List.replicate (xs.length - k) zeroS
theorem fillS_len (xs : List Smp) (k : Nat) (hk : k ≤ xs.length) : (fillS xs k).length = xs.length := by unfold fillS; simp; omega
theorem fillS_set (xs : List Smp) (k : Nat) (hk : k < xs.length) : (fillS xs k).set k xs[k] = fillS xs (k + 1) := by
  unfold fillS
  have e : xs.length - k = (xs.length - (k + 1)) + 1 := by omega
  have e2 : k - (xs.take k).length = 0 := by simp; omega
  rw [List.set_append, if_neg (by simp; omega), e, List.replicate_succ, e2, List.set_cons_zero, List.take_succ_eq_append_getElem hk, List.append_assoc]
  rfl
theorem fillS_all (xs : List Smp) : fillS xs xs.length = xs := by unfold fillS; simp
theorem fillS_none (xs : List Smp) : fillS xs 0 = List.replicate xs.length zeroS := by unfold fillS; simp

/-! ### laws.eqSample, laws.eqSampleS at equals. -/
theorem box2_below (w : World) (o1 o2 : Obj) : Below w.heap.size w ((w.alloc o1).alloc o2) := by
  have h1 : Below w.heap.size w (w.alloc o1) := (Below.refl _ _).alloc (Nat.le_refl _) _
  exact h1.alloc h1.size _
theorem grown2 (W : World) (o1 o2 : Obj) : (W.alloc o1).alloc o2 = Go.Sort.grow (W.drewN 0) #[o1, o2] := by
  rw [Go.Sort.alloc_eq_grow, Go.Sort.alloc_eq_grow, Go.Sort.grow_grow]; rfl
theorem below_grow {B : Nat} {w wr : World} (h : Below B w wr) (hB : B ≤ wr.heap.size) (n : Nat) (os : Array Obj) : Below B w (Go.Sort.grow (wr.drewN n) os) :=
  h.trans ⟨rfl, rfl, rfl, by rw [Go.Sort.size_grow]; exact Nat.le_add_right _ _, fun k hk => Go.Sort.heap_grow_old _ _ (Nat.lt_of_lt_of_le hk hB)⟩
theorem At4.grown {w : World} {b o : Nat} {s : Smp} (h : At4 w b o s) (hb : b < w.heap.size) :
    (∀ n os, (Go.Sort.grow (w.drewN n) os).cell? ⟨b, o, none⟩ = some (.string s.pod)) ∧ (∀ n os, (Go.Sort.grow (w.drewN n) os).cell? ⟨b, o + 1, none⟩ = some (.string s.met)) ∧
      (∀ n os, (Go.Sort.grow (w.drewN n) os).cell? ⟨b, o + 2, none⟩ = some (.int .i64 s.val)) ∧ (∀ n os, (Go.Sort.grow (w.drewN n) os).cell? ⟨b, o + 3, none⟩ = some (.int .i64 s.tick)) :=
  ⟨fun n os => cell_grown hb h.1 n os, fun n os => cell_grown hb h.2.1 n os, fun n os => cell_grown hb h.2.2.1 n os, fun n os => cell_grown hb h.2.2.2 n os⟩
end Go.Proofs.YtgmdfkmmbcpikaaGreat.Smps
