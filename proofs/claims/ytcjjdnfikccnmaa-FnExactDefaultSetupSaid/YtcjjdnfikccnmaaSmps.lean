/- Slices of samples: 'Smps w a xs' says that the slice at a holds the samples xs; how such an argument is opened; the contracts of laws.szSampleS, laws.toSampleS (a copy), laws.eqSampleS (a comparison). -/
import Derived.Test.YtcjjdnfikccnmaaC2
import Derived.Test.YtcjjdnfikccnmaaInts
import Derived.Deep.OwnRows
import Derived.Deep.Slices
import Derived.Deep.Fields
import Derived.ChangeSame
import Derived.Lib.SmallJoins
import Derived.Shelf.SlSortCmp.QuietGrown
namespace Go.Proofs.Ytcjjdnfikccnmaa.Smps
open Go.RowKit Go.Deep
open Go.ChangeShapes Go.WideShapes
open Go.Proofs.Ytcjjdnfikccnmaa.C1
open Go.Proofs.Ytcjjdnfikccnmaa.C2
set_option linter.unusedVariables false

theorem int_eq {k : IntKind} {a b : Int} (h : a = b) : Value.int k a = .int k b := by rw [h]
/-- The four cells of a sample at ⟨b, o⟩. -/
def At4 (w : World) (b o : Nat) (s : Smp) : Prop :=
  w.cell? ⟨b, o, none⟩ = some (.string s.pod) ∧ w.cell? ⟨b, o + 1, none⟩ = some (.string s.met) ∧ w.cell? ⟨b, o + 2, none⟩ = some (.int .i64 s.val) ∧ w.cell? ⟨b, o + 3, none⟩ = some (.int .i64 s.tick)
theorem At4.kept {w w' : World} {b o : Nat} {s : Smp} (h : At4 w b o s) {B : Nat} (hb : Below B w w') (hlt : b < B) : At4 w' b o s := by
  have hc : ∀ j, w'.cell? ⟨b, j, none⟩ = w.cell? ⟨b, j, none⟩ := fun j => hb.cell (p := ⟨b, j, none⟩) hlt
  exact ⟨by rw [hc]; exact h.1, by rw [hc]; exact h.2.1, by rw [hc]; exact h.2.2.1, by rw [hc]; exact h.2.2.2⟩

/-- The slice at a holds the samples xs (in a block that the world has). -/
def Smps (w : World) (a : Option Addr) (xs : List Smp) : Prop :=
  xs = [] ∨ ∃ b off, a = some ⟨b, off, none⟩ ∧ b < w.heap.size ∧ ∀ (i : Nat) (h : i < xs.length), At4 w b (off + i * 4) xs[i]
theorem Smps.kept {w w' : World} {a : Option Addr} {xs : List Smp} (h : Smps w a xs) (hb : Below w.heap.size w w') : Smps w' a xs := by
  rcases h with h | ⟨b, off, h1, h2, h3⟩
  · exact .inl h
  · exact .inr ⟨b, off, h1, Nat.lt_of_lt_of_le h2 hb.size, fun i hi => (h3 i hi).kept hb h2⟩
theorem Smps.cells {w : World} {a : Option Addr} {xs : List Smp} (h : Smps w a xs) : ∃ b off, (0 < xs.length → a = some ⟨b, off, none⟩) ∧ (0 < xs.length → b < w.heap.size) ∧ ∀ (i : Nat) (h : i < xs.length), At4 w b (off + i * 4) xs[i] := by
  rcases h with h | ⟨b, off, h1, h2, h3⟩
  · subst h
    exact ⟨0, 0, by simp, by simp, fun i h => absurd h (by simp)⟩
  · exact ⟨b, off, fun _ => h1, fun _ => h2, h3⟩

/-! ### An argument that is a slice of samples, opened. -/
section
variable {H : Type} {enc : TypeId × Value → H} {P : Program} {w : World} {base : Nat} {spare : Nat → Bool} {held : Bool}
def IsSmps (w : World) (a : Option Addr) (len cap : Nat) (xs : List Smp) : Prop := xs.length = len ∧ len ≤ cap ∧ cap ≤ maxLen ∧ (∀ s ∈ xs, s.wf) ∧ Smps w a xs

theorem open_smps {t e : TypeId} {f0 f1 f2 f3 : Field} {fuel : Nat} {a : Option Addr} {len cap : Nat} {x : DataW H × List MemPlace} (ht : P.underlying t = some (.slice e)) (he : P.underlying e = some (.struct #[f0, f1, f2, f3]))
    (hone : oneCellFields P #[f0, f1, f2, f3] = true) (hC : P.cellsOf e = 4) {ts ti : TypeId} (hf : f0.type = ts ∧ f1.type = ts ∧ f2.type = ti ∧ f3.type = ti) (hts : P.underlying ts = some .string) (hti : P.underlying ti = some (.int .i64))
    (h : DataW.trod enc P w base (fun _ => true) held fuel t (Value.slice a len cap).cells.toList = some x) : ∃ xs, IsSmps w a len cap xs := by
  obtain ⟨z0, z1, z2, z3⟩ := hf
  rcases open_slice ht h with ⟨hcs, _⟩ | ⟨x, l, c, m, n, D, Pl, hcs, _, hl, hm, hmm, _, hi⟩
  · simp [Value.cells] at hcs
    obtain ⟨rfl, rfl, rfl⟩ := hcs
    exact ⟨[], rfl, Nat.le_refl _, Nat.zero_le _, fun _ h => absurd h (by simp), .inl rfl⟩
  · simp [Value.cells] at hcs
    obtain ⟨rfl, rfl, rfl⟩ := hcs
    have key : ∀ i, i < len → ∃ s : Smp, s.wf ∧ w.cell? (x.add (i * 4)) = some (.string s.pod) ∧ w.cell? ((x.add (i * 4)).add 1) = some (.string s.met) ∧ w.cell? ((x.add (i * 4)).add 2) = some (.int .i64 s.val) ∧ w.cell? ((x.add (i * 4)).add 3) = some (.int .i64 s.tick) := by
      intro i hil
      obtain ⟨cs', hc, ht'⟩ := hi i (by rw [hmm]; simp; omega)
      rw [hC] at hc
      obtain ⟨_, hcl, hat⟩ := World.cells?_some hc
      obtain ⟨y0, y1, y2, y3, n', _, _, g0, g1, g2, g3⟩ := Go.Joins.trod_struct4 he ht'
      obtain ⟨o0, k0⟩ := hone_of hone 0 f0 rfl
      obtain ⟨o1, k1⟩ := hone_of hone 1 f1 rfl
      obtain ⟨o2, k2⟩ := hone_of hone 2 f2 rfl
      obtain ⟨o3, k3⟩ := hone_of hone 3 f3 rfl
      rw [o0, k0, z0] at g0
      rw [o1, k1, z1] at g1
      rw [o2, k2, z2] at g2
      rw [o3, k3, z3] at g3
      match cs', hcl with
      | [c0, c1, c2, c3], _ =>
        obtain ⟨p, e0, _, u0⟩ := DataW.trod_string hts g0
        obtain ⟨q, e1, _, u1⟩ := DataW.trod_string hts g1
        obtain ⟨v, e2, _, u2⟩ := DataW.trod_int hti g2
        obtain ⟨t, e3, _, u3⟩ := DataW.trod_int hti g3
        simp at e0 e1 e2 e3
        subst e0 e1 e2 e3
        refine ⟨⟨p, q, v, t⟩, ⟨u0, u1, bounds_i64 u2, bounds_i64 u3⟩, ?_, ?_, ?_, ?_⟩
        · have := hat 0 (by omega); simpa [Addr.add] using this
        · have := hat 1 (by omega); simpa using this
        · have := hat 2 (by omega); simpa using this
        · have := hat 3 (by omega); simpa using this
    obtain ⟨f, hf⟩ := choose_lt key
    refine ⟨(List.range len).map f, by simp, hl, hm, fun s hs => ?_, ?_⟩
    · obtain ⟨i, hi2, rfl⟩ := List.mem_map.1 hs
      exact (hf i (List.mem_range.1 hi2)).1
    · by_cases h0 : len = 0
      · exact .inl (by simp [h0])
      · obtain ⟨b, off, spot⟩ := x
        have hspot : spot = none := by
          have := (hf 0 (by omega)).2.1
          simpa [Addr.add] using World.cell?_spot this
        subst hspot
        refine .inr ⟨b, off, rfl, ?_, fun i hi2 => ?_⟩
        · have := (hf 0 (by omega)).2.1
          simp [Addr.add] at this
          exact World.block_lt_of_cell? _ _ this
        · have hil : i < len := by simpa using hi2
          obtain ⟨_, c0, c1, c2, c3⟩ := hf i hil
          rw [Go.WideShapes.add_plain] at c0 c1 c2 c3
          rw [Go.WideShapes.add_plain] at c1 c2 c3
          simp only [List.getElem_map, List.getElem_range]
          exact ⟨c0, c1, c2, c3⟩
end

theorem sz_samples (xs : List Smp) (hwf : ∀ s ∈ xs, s.wf) (a : Option Addr) (cap : Nat) (hm : xs.length ≤ 9223372036854775807) (w : World) (h : Smps w a xs) :
    Calls Try.prog 20 #[.slice a xs.length cap, .int .i64 1048576] w fun e w' => ∃ r : Int, e = .returned (.int .i64 r) ∧ Below w.heap.size w w' ∧ (r < 0 ∨ 0 ≤ r ∧ xs.length ≤ 1048576 ∧ ∀ s ∈ xs, (s.pod.size : Int) + s.met.size ≤ 1048576) := by
  obtain ⟨b, off, ha, hb, hcell⟩ := h.cells
  by_cases hbig : 1048576 < xs.length
  · go_enter Try.func20, Try.ntmps20
    go_wp2
    go_ret
    exact ⟨_, rfl, Below.refl _ _, .inl (by omega)⟩
  · have Hc := Lib.hid hcell
    have Ha := Lib.hid ha
    have Hw := Lib.hid hwf
    have Hb := Lib.hid hb
    clear hcell ha hwf hb h
    go_enter Try.func20, Try.ntmps20
    go_wp2
    go_loopw [1, 5] (fun l i wr => ∃ (k : Nat) (r : Int), k ≤ xs.length ∧ i = .int .i64 k ∧ l = .int .i64 r ∧ 0 ≤ r ∧ r ≤ 1048576 ∧ Below w.heap.size w wr ∧ Hid (∀ (j : Nat) (hj : j < xs.length), j < k → (xs[j].pod.size : Int) + xs[j].met.size ≤ 1048576)) (fun _ i _ => xs.length - (intOf i).toNat)
    case atStart => exact ⟨0, 1048576 - xs.length, Nat.zero_le _, rfl, rfl, by omega, by omega, Below.refl _ _, fun j hj h => absurd h (by omega)⟩
    case round =>
      obtain ⟨k, r, hk, rfl, rfl, hr0, hr1, hbw, HS⟩ := hrel
      by_cases hlt : k < xs.length
      · obtain rfl := Ha.out (by omega)
        obtain ⟨q0, q1, q2, q3⟩ := (Hc.out k hlt).kept hbw (Hb.out (by omega))
        have hw1 := Lib.hid (Hw.out xs[k] (List.getElem_mem hlt))
        have hlw := hbw.size
        by_cases hc : r < xs[k].pod.size + xs[k].met.size
        · go_wp2_with (go_at_call 73; refine (sz_sample xs[k] hw1.out r hr0 hr1 _).mono ?_; rw [if_pos hc]; rintro e w2 ⟨rfl, hb2⟩)
          go_ret
          exact ⟨_, rfl, hbw.trans (hb2.mono hlw), .inl (by omega)⟩
        · obtain ⟨r2, hr2, hr3, hr4⟩ : ∃ r2 : Int, r2 = r - (xs[k].pod.size + xs[k].met.size) ∧ 0 ≤ r2 ∧ r2 ≤ 1048576 := ⟨_, rfl, by omega, by omega⟩
          have HN : Hid (∀ (j : Nat) (hj : j < xs.length), j < k + 1 → (xs[j].pod.size : Int) + xs[j].met.size ≤ 1048576) := fun j hj h => by
            by_cases e : j = k
            · subst e; omega
            · exact HS.out j hj (by omega)
          go_wp2_with (go_at_call 73; refine (sz_sample xs[k] hw1.out r hr0 hr1 _).mono ?_; rw [if_neg hc, ← hr2]; rintro e w2 ⟨rfl, hb2⟩)
          go_roundw
          case rel => exact ⟨k + 1, r2, by omega, by go_num, int_eq hr2.symm, hr3, hr4, hbw.trans (hb2.mono hlw), HN⟩
          case measure => simp [intOf]; omega
      · obtain rfl : k = xs.length := by omega
        go_wp2
        go_ret
        exact ⟨_, rfl, hbw, .inr ⟨hr0, by omega, fun s hs => by
          obtain ⟨j, hj, rfl⟩ := List.mem_iff_getElem.1 hs
          exact HS.out j hj hj⟩⟩

/-! ### Owned rows of samples. -/
def flat (xs : List Smp) : List Value := xs.flatMap encS
theorem flat_len (xs : List Smp) : (flat xs).length = xs.length * 4 := by
  induction xs with
  | nil => rfl
  | cons s r ih => simp only [flat, List.flatMap_cons, List.length_append, List.length_cons] at ih ⊢; simp only [encS, List.length_cons, List.length_nil]; omega
theorem flat_get : ∀ (xs : List Smp) (i j : Nat) (hi : i < xs.length), j < 4 → (flat xs)[i * 4 + j]? = (encS xs[i])[j]?
  | s :: r, 0, j, _, hj => by
    show (encS s ++ flat r)[0 * 4 + j]? = _
    rw [List.getElem?_append_left (by simp only [encS, List.length_cons, List.length_nil]; omega)]
    simp
  | s :: r, i + 1, j, hi, hj => by
    show (encS s ++ flat r)[(i + 1) * 4 + j]? = _
    rw [List.getElem?_append_right (by simp only [encS, List.length_cons, List.length_nil]; omega)]
    have e : (i + 1) * 4 + j - (encS s).length = i * 4 + j := by simp only [encS, List.length_cons, List.length_nil]; omega
    rw [e]
    exact flat_get r i j (by simpa using hi) hj
theorem flat_set : ∀ (xs : List Smp) (i : Nat) (s : Smp), i < xs.length → (((((flat xs).set (i * 4) (.string s.pod)).set (i * 4 + 1) (.string s.met)).set (i * 4 + 2) (.int .i64 s.val)).set (i * 4 + 3) (.int .i64 s.tick)) = flat (xs.set i s)
  | x :: r, 0, s, _ => by simp [flat, encS]
  | x :: r, i + 1, s, hi => by
    have ih := flat_set r i s (by simpa using hi)
    have e : (i + 1) * 4 = i * 4 + 4 := by omega
    show ((((encS x ++ flat r).set _ _).set _ _).set _ _).set _ _ = encS x ++ flat (r.set i s)
    rw [← ih, e]
    simp [encS]
theorem flat_append (xs ys : List Smp) : flat (xs ++ ys) = flat xs ++ flat ys := by simp [flat]

/-- v is a slice of samples in a block that is new (not below B) and may be written. -/
def OwnS (w : World) (B : Nat) (v : Value) (xs : List Smp) : Prop := w.ownsRow B 120 4 v xs.length (flat xs)
theorem OwnS.at4 {w : World} {B g cap : Nat} {xs : List Smp} (h : OwnS w B (.slice (some ⟨g, 0, none⟩) xs.length cap) xs) (i : Nat) (hi : i < xs.length) : At4 w g (0 + i * 4) xs[i] := by
  have hc : ∀ j, j < 4 → w.cell? ⟨g, i * 4 + j, none⟩ = (encS xs[i])[j]? := fun j hj => by
    have := World.ownsRow.cellAt h (i * 4 + j) (by omega)
    rw [this, flat_get xs i j hi hj]
  rw [Nat.zero_add]
  exact ⟨hc 0 (by omega), hc 1 (by omega), hc 2 (by omega), hc 3 (by omega)⟩
theorem OwnS.smps {w : World} {B : Nat} {v : Value} {xs : List Smp} (h : OwnS w B v xs) : ∃ a cap, v = .slice a xs.length cap ∧ Smps w a xs := by
  have h' : w.ownsRow B 120 4 v xs.length (flat xs) := h
  rcases h.2 with ⟨hv, h0⟩ | ⟨g, cap, cur, hv, hg, hh, _⟩
  · exact ⟨none, 0, by rw [hv, h0], .inl (List.length_eq_zero_iff.1 h0)⟩
  · subst hv
    exact ⟨_, cap, rfl, .inr ⟨g, 0, rfl, (Array.getElem?_eq_some_iff.1 hh).1, fun i hi => OwnS.at4 h' i hi⟩⟩
theorem OwnS.new {w : World} {B g n cap : Nat} {xs : List Smp} (h : OwnS w B (.slice (some ⟨g, 0, none⟩) n cap) xs) : B ≤ g ∧ g < w.heap.size := World.ownsRow.lt h g rfl

theorem OwnS.kept {w w' : World} {B : Nat} {v : Value} {xs : List Smp} (h : OwnS w B v xs) (hb : Below w.heap.size w w') : OwnS w' B v xs := by
  obtain ⟨h1, h2⟩ := h
  refine ⟨h1, ?_⟩
  rcases h2 with h2 | ⟨g, cap, cur, hv, hg, hh, r⟩
  · exact .inl h2
  · exact .inr ⟨g, cap, cur, hv, hg, by rw [hb.block g (Array.getElem?_eq_some_iff.1 hh).1]; exact hh, r⟩
theorem OwnS.spot {w : World} {B g n cap : Nat} {xs : List Smp} (h : OwnS w B (.slice (some ⟨g, 0, none⟩) n cap) xs) (hn : n = xs.length) (k : Nat) (hk : k < xs.length) : At4 w g (k * 4) xs[k] ∧ ∀ j, w.frozen? ⟨g, j, none⟩ = false := by
  subst hn
  have := h.at4 k hk
  rw [Nat.zero_add] at this
  exact ⟨this, fun j => World.ownsRow.frozenAt h j⟩
/-- The four stores of a sample. -/
theorem OwnS.put {w : World} {B g n cap : Nat} {xs : List Smp} (h : OwnS w B (.slice (some ⟨g, 0, none⟩) n cap) xs) (hn : n = xs.length) (k : Nat) (hk : k < xs.length) (s : Smp) :
    OwnS ((((w.setCell ⟨g, k * 4, none⟩ (.string s.pod)).setCell ⟨g, k * 4 + 1, none⟩ (.string s.met)).setCell ⟨g, k * 4 + 2, none⟩ (.int .i64 s.val)).setCell ⟨g, k * 4 + 3, none⟩ (.int .i64 s.tick)) B (.slice (some ⟨g, 0, none⟩) n cap) (xs.set k s) := by
  subst hn
  have h1 := (World.ownsRow.stored h (k * 4) (.string s.pod)).1
  have h2 := (World.ownsRow.stored h1 (k * 4 + 1) (.string s.met)).1
  have h3 := (World.ownsRow.stored h2 (k * 4 + 2) (.int .i64 s.val)).1
  have h4 := (World.ownsRow.stored h3 (k * 4 + 3) (.int .i64 s.tick)).1
  rw [flat_set xs k s hk] at h4
  unfold OwnS
  rw [List.length_set]
  exact h4
theorem below_put {B : Nat} {w0 w : World} (h : Below B w0 w) {g : Nat} (hg : B ≤ g) (k : Nat) (u0 u1 u2 u3 : Value) :
    Below B w0 ((((w.setCell ⟨g, k * 4, none⟩ u0).setCell ⟨g, k * 4 + 1, none⟩ u1).setCell ⟨g, k * 4 + 2, none⟩ u2).setCell ⟨g, k * 4 + 3, none⟩ u3) :=
  (((h.setCell hg u0).setCell hg u1).setCell hg u2).setCell hg u3

/-! ### laws.toSampleS: a copy. -/
def zeroS : Smp := ⟨⟨#[]⟩, ⟨#[]⟩, 0, 0⟩
theorem info_smp : (Try.prog.info? 120).map (fun i => (i.zero, i.size, i.bytes)) = some (some (smpV zeroS), 4, 48) := by kernel_rfl
theorem cells_made (n : Nat) : (madeCells (smpV zeroS).cells (n * 4)).toList = flat (List.replicate n zeroS) := by
  apply List.ext_getElem?
  intro j
  by_cases hj : j < n * 4
  · have hl : j < (madeCells (smpV zeroS).cells (n * 4)).toList.length := by simpa [size_madeCells] using hj
    have e : j = j / 4 * 4 + j % 4 := by omega
    rw [e, flat_get _ _ _ (by simp; omega) (by omega), ← e]
    have hj4 : j % 4 < 4 := by omega
    simp only [madeCells, smpV, Value.cells]
    simp [hj, encS, zeroS]
    rcases (by omega : j % 4 = 0 ∨ j % 4 = 1 ∨ j % 4 = 2 ∨ j % 4 = 3) with h | h | h | h <;> simp [h]
  · rw [List.getElem?_eq_none (by simp [size_madeCells]; omega), List.getElem?_eq_none (by rw [flat_len]; simp; omega)]

def fillS (xs : List Smp) (k : Nat) : List Smp := xs.take k ++ List.replicate (xs.length - k) zeroS
theorem fillS_len (xs : List Smp) (k : Nat) (hk : k ≤ xs.length) : (fillS xs k).length = xs.length := by unfold fillS; simp; omega
theorem fillS_set (xs : List Smp) (k : Nat) (hk : k < xs.length) : (fillS xs k).set k xs[k] = fillS xs (k + 1) := by
  unfold fillS
  have e : xs.length - k = (xs.length - (k + 1)) + 1 := by omega
  have e2 : k - (xs.take k).length = 0 := by simp; omega
  rw [List.set_append, if_neg (by simp; omega), e, List.replicate_succ, e2, List.set_cons_zero, List.take_succ_eq_append_getElem hk, List.append_assoc]
  rfl
theorem fillS_all (xs : List Smp) : fillS xs xs.length = xs := by unfold fillS; simp
theorem fillS_none (xs : List Smp) : fillS xs 0 = List.replicate xs.length zeroS := by unfold fillS; simp

set_option maxHeartbeats 1000000 in
theorem to_samples (xs : List Smp) (a : Option Addr) (cap : Nat) (w : World) (h : Smps w a xs) (hm : xs.length ≤ 1048576) :
    Calls Try.prog 23 #[.slice a xs.length cap] w fun e w' => ∃ g, e = .returned (.slice (some ⟨g, 0, none⟩) xs.length xs.length) ∧ OwnS w' w.heap.size (.slice (some ⟨g, 0, none⟩) xs.length xs.length) xs ∧ Below w.heap.size w w' := by
  obtain ⟨b, off, ha, hb, hcell⟩ := h.cells
  have hmk : ∀ w : World, (Instr.makeSlice 47 (.int .i64 (xs.length : Int)) (.int .i64 (xs.length : Int))).run Try.prog w = .ok (.slice (some ⟨w.heap.size, 0, none⟩) xs.length xs.length) (w.alloc (.cells (madeCells (smpV zeroS).cells (xs.length * 4)) 120)) := by
    obtain ⟨i, hi, hzz⟩ := Option.map_eq_some_iff.1 info_smp
    simp only [Prod.mk.injEq] at hzz
    obtain ⟨hz, hs, hby⟩ := hzz
    have := fun w : World => run_make (P := Try.prog) w 47 120 i (smpV zeroS) Try.underlying47 hi hz .i64 .i64 (xs.length : Int) (xs.length : Int) (by omega) (by omega) (by rw [hby]; omega) (by omega)
    intro w
    rw [this w, hs]
    simp
  have hmade : OwnS (w.alloc (.cells (madeCells (smpV zeroS).cells (xs.length * 4)) 120)) w.heap.size (.slice (some ⟨w.heap.size, 0, none⟩) xs.length xs.length) (fillS xs 0) := by
    unfold OwnS
    rw [fillS_len xs 0 (by omega), fillS_none, ← cells_made]
    exact World.ownsRow_lit (e := 120) (size := 4) (base := w.heap.size) w (madeCells (smpV zeroS).cells (xs.length * 4)) xs.length (Nat.le_refl _) (by unfold maxLen; omega) (by rw [size_madeCells])
  have hbel : Below w.heap.size w (w.alloc (.cells (madeCells (smpV zeroS).cells (xs.length * 4)) 120)) := (Below.refl _ _).alloc (Nat.le_refl _) _
  have Hm := Lib.hid hmade
  have Hc := Lib.hid hcell
  have Ha := Lib.hid ha
  have Hb := Lib.hid hb
  clear hmade hcell ha hb h
  generalize hM : madeCells (smpV zeroS).cells (xs.length * 4) = M at hmk hbel Hm
  go_enter Try.func23, Try.ntmps23
  go_wp2
  go_loopw [4] (fun i wr => ∃ k : Nat, k ≤ xs.length ∧ i = .int .i64 k ∧ OwnS wr w.heap.size (.slice (some ⟨w.heap.size, 0, none⟩) xs.length xs.length) (fillS xs k) ∧ Below w.heap.size w wr)
    (fun i _ => xs.length - (intOf i).toNat)
  case atStart => exact ⟨0, Nat.zero_le _, rfl, Hm.out, hbel⟩
  case round =>
    clear hmk hbel
    obtain ⟨k, hk, rfl, hown, hbw⟩ := hrel
    by_cases hlt : k < xs.length
    · obtain rfl := Ha.out (by omega)
      obtain ⟨q0, q1, q2, q3⟩ := (Hc.out k hlt).kept hbw (Hb.out (by omega))
      have HB := Lib.hid hbw
      have HO := Lib.hid hown
      clear hbw hown
      have hxl := fillS_len xs k hk
      go_wp2_with (go_at_call 77; refine (to_sample xs[k] _).mono ?_; unfold smpV; rintro e w2 ⟨rfl, hb2⟩; obtain ⟨⟨p0, p1, p2, p3⟩, hfr⟩ := (HO.out.kept hb2).spot hxl.symm k (by omega); have f0 := hfr (k * 4); have f1 := hfr (k * 4 + 1); have f2 := hfr (k * 4 + 2); have f3 := hfr (k * 4 + 3); clear hfr)
      have HO2 := Lib.hid ((HO.out.kept hb2).put hxl.symm k (by omega) xs[k])
      have HB2 := Lib.hid (below_put (HB.out.trans (hb2.mono HB.out.size)) (Nat.le_refl w.heap.size) k (.string xs[k].pod) (.string xs[k].met) (.int .i64 xs[k].val) (.int .i64 xs[k].tick))
      have hso := fillS_set xs k hlt
      go_roundw
      case rel => exact ⟨k + 1, by omega, by go_num, by rw [← hso]; exact HO2.out, HB2.out⟩
      case measure => simp [intOf]; omega
    · obtain rfl : k = xs.length := by omega
      rw [fillS_all] at hown
      have HO := Lib.hid hown
      have HB := Lib.hid hbw
      clear hown hbw
      go_wp2
      go_ret
      exact ⟨w.heap.size, rfl, HO.out, HB.out⟩

/-! ### laws.eqSample, laws.eqSampleS at equals. -/
theorem box2_below (w : World) (o1 o2 : Obj) : Below w.heap.size w ((w.alloc o1).alloc o2) := by
  have h1 : Below w.heap.size w (w.alloc o1) := (Below.refl _ _).alloc (Nat.le_refl _) _
  exact h1.alloc h1.size _
theorem eq_sample (s : Smp) (w : World) :
    Calls Try.prog 82 #[smpV s, smpV s] w fun e w' => e = .returned (.bool true) ∧ Below w.heap.size w w' := by
  unfold smpV
  go_enter Try.func82, Try.ntmps82
  go_wp2
  go_ret
  exact ⟨rfl, box2_below _ _ _⟩
theorem grown2 (W : World) (o1 o2 : Obj) : (W.alloc o1).alloc o2 = Go.Sort.grow (W.drewN 0) #[o1, o2] := by
  rw [Go.Sort.alloc_eq_grow, Go.Sort.alloc_eq_grow, Go.Sort.grow_grow]; rfl
theorem below_grow {B : Nat} {w wr : World} (h : Below B w wr) (hB : B ≤ wr.heap.size) (n : Nat) (os : Array Obj) : Below B w (Go.Sort.grow (wr.drewN n) os) :=
  h.trans ⟨rfl, rfl, rfl, by rw [Go.Sort.size_grow]; exact Nat.le_add_right _ _, fun k hk => Go.Sort.heap_grow_old _ _ (Nat.lt_of_lt_of_le hk hB)⟩
theorem eq_sample_g (s : Smp) (w : World) :
    Calls Try.prog 82 #[smpV s, smpV s] w fun e w' => e = .returned (.bool true) ∧ ∃ q os', w' = Go.Sort.grow (w.drewN q) os' := by
  unfold smpV
  go_enter Try.func82, Try.ntmps82
  go_wp2
  go_ret
  exact ⟨rfl, 0, _, grown2 _ _ _⟩
theorem At4.grown {w : World} {b o : Nat} {s : Smp} (h : At4 w b o s) (hb : b < w.heap.size) :
    (∀ n os, (Go.Sort.grow (w.drewN n) os).cell? ⟨b, o, none⟩ = some (.string s.pod)) ∧ (∀ n os, (Go.Sort.grow (w.drewN n) os).cell? ⟨b, o + 1, none⟩ = some (.string s.met)) ∧
      (∀ n os, (Go.Sort.grow (w.drewN n) os).cell? ⟨b, o + 2, none⟩ = some (.int .i64 s.val)) ∧ (∀ n os, (Go.Sort.grow (w.drewN n) os).cell? ⟨b, o + 3, none⟩ = some (.int .i64 s.tick)) :=
  ⟨fun n os => cell_grown hb h.1 n os, fun n os => cell_grown hb h.2.1 n os, fun n os => cell_grown hb h.2.2.1 n os, fun n os => cell_grown hb h.2.2.2 n os⟩
theorem eq_samples (xs : List Smp) (a a' : Option Addr) (cap cap' : Nat) (w : World) (h : Smps w a xs) (h' : Smps w a' xs) (hm : xs.length ≤ 1048576) :
    Calls Try.prog 27 #[.slice a xs.length cap, .slice a' xs.length cap'] w fun e w' => e = .returned (.bool true) ∧ Below w.heap.size w w' := by
  obtain ⟨b, off, ha, hb, hcell⟩ := h.cells
  obtain ⟨b', off', ha', hb', hcell'⟩ := h'.cells
  have Hc := Lib.hid hcell
  have Ha := Lib.hid ha
  have Hb := Lib.hid hb
  have Hc' := Lib.hid hcell'
  have Ha' := Lib.hid ha'
  have Hb' := Lib.hid hb'
  clear hcell ha hb hcell' ha' hb' h h'
  go_enter Try.func27, Try.ntmps27
  go_wp2
  go_loopw [5] (fun i wr => ∃ k : Nat, k ≤ xs.length ∧ i = .int .i64 k ∧ Hid (Below w.heap.size w wr)) (fun i _ => xs.length - (intOf i).toNat)
  case atStart => exact ⟨0, Nat.zero_le _, rfl, Below.refl _ _⟩
  case round =>
    obtain ⟨k, hk, rfl, HB⟩ := hrel
    by_cases hlt : k < xs.length
    · obtain rfl := Ha.out (by omega)
      obtain rfl := Ha'.out (by omega)
      have hbb := Nat.lt_of_lt_of_le (Hb.out (by omega)) HB.out.size
      have hbb' := Nat.lt_of_lt_of_le (Hb'.out (by omega)) HB.out.size
      obtain ⟨q0, q1, q2, q3⟩ := ((Hc.out k hlt).kept HB.out (Hb.out (by omega))).grown hbb
      obtain ⟨p0, p1, p2, p3⟩ := ((Hc'.out k hlt).kept HB.out (Hb'.out (by omega))).grown hbb'
      clear hbb hbb'
      have hcall : ∀ n' os', Calls Try.prog 82 #[.agg #[.string xs[k].pod, .string xs[k].met, .int .i64 xs[k].val, .int .i64 xs[k].tick], .agg #[.string xs[k].pod, .string xs[k].met, .int .i64 xs[k].val, .int .i64 xs[k].tick]] (Go.Sort.grow (wr.drewN n') os') _ := fun n' os' => eq_sample_g xs[k] _
      have mixed : Try.prog.follows .mixedOrders = true := by kernel_rfl
      go_wp2_with fail
      go_quiet_grown (first | (go_at_call 82; refine Calls.grown_of (hcall _ _)))
      have HB2 := Lib.hid (below_grow HB.out HB.out.size nq osq)
      clear hcall q0 q1 q2 q3 p0 p1 p2 p3
      go_wp2
      go_roundw
      case rel => exact ⟨k + 1, by omega, by go_num, HB2⟩
      case measure => simp [intOf]; omega
    · obtain rfl : k = xs.length := by omega
      go_wp2
      go_ret
      exact ⟨rfl, HB.out⟩
end Go.Proofs.Ytcjjdnfikccnmaa.Smps
