/- Slices of pods: 'Pds w a xs' says that the slice at a holds the pods xs; how such an argument is opened; the contracts of laws.szPodS, laws.toPodS (a copy), laws.eqPodS (a comparison). After Smps. -/
import Derived.Test.YtgmdfkmmbcpikaaGreatSmps
import Derived.Test.YtgmdfkmmbcpikaaGreatPd
namespace Go.Proofs.YtgmdfkmmbcpikaaGreat.Pds
open Go.RowKit Go.Deep
open Go.ChangeShapes Go.WideShapes
open Go.Proofs.YtgmdfkmmbcpikaaGreat.C1
open Go.Proofs.YtgmdfkmmbcpikaaGreat.C2
open Go.Proofs.YtgmdfkmmbcpikaaGreat.Smps
open Go.Proofs.YtgmdfkmmbcpikaaGreat.Mem
open Go.Proofs.YtgmdfkmmbcpikaaGreat.Pd
set_option linter.unusedVariables false

/-- The four cells of a sample at ⟨b, o⟩. -/
def PAt (w : World) (b o : Nat) (s : Pd) : Prop :=
  w.cell? ⟨b, o, none⟩ = some (.string s.nm) ∧ w.cell? ⟨b, o + 1, none⟩ = some (.int .i64 s.born) ∧ w.cell? ⟨b, o + 2, none⟩ = some (.int .i64 s.ph) ∧ w.cell? ⟨b, o + 3, none⟩ = some (.bool s.rdy)
theorem PAt.kept {w w' : World} {b o : Nat} {s : Pd} (h : PAt w b o s) {B : Nat} (hb : Below B w w') (hlt : b < B) : PAt w' b o s := by
  have hc : ∀ j, w'.cell? ⟨b, j, none⟩ = w.cell? ⟨b, j, none⟩ := fun j => hb.cell (p := ⟨b, j, none⟩) hlt
  exact ⟨by rw [hc]; exact h.1, by rw [hc]; exact h.2.1, by rw [hc]; exact h.2.2.1, by rw [hc]; exact h.2.2.2⟩

/-- The slice at a holds the samples xs (in a block that the world has). -/
def Pds (w : World) (a : Option Addr) (xs : List Pd) : Prop :=
  xs = [] ∨ ∃ b off, a = some ⟨b, off, none⟩ ∧ b < w.heap.size ∧ ∀ (i : Nat) (h : i < xs.length), PAt w b (off + i * 4) xs[i]
theorem Pds.kept {w w' : World} {a : Option Addr} {xs : List Pd} (h : Pds w a xs) (hb : Below w.heap.size w w') : Pds w' a xs := by
  rcases h with h | ⟨b, off, h1, h2, h3⟩
  · exact .inl h
  · exact .inr ⟨b, off, h1, Nat.lt_of_lt_of_le h2 hb.size, fun i hi => (h3 i hi).kept hb h2⟩
theorem Pds.cells {w : World} {a : Option Addr} {xs : List Pd} (h : Pds w a xs) : ∃ b off, (0 < xs.length → a = some ⟨b, off, none⟩) ∧ (0 < xs.length → b < w.heap.size) ∧ ∀ (i : Nat) (h : i < xs.length), PAt w b (off + i * 4) xs[i] := by
  rcases h with h | ⟨b, off, h1, h2, h3⟩
  · subst h
    exact ⟨0, 0, by simp, by simp, fun i h => absurd h (by simp)⟩
  · exact ⟨b, off, fun _ => h1, fun _ => h2, h3⟩

/-! ### An argument that is a slice of samples, opened. -/
section
variable {H : Type} {enc : TypeId × Value → H} {P : Program} {w : World} {base : Nat} {spare : Nat → Bool} {held : Bool}
def IsPds (w : World) (a : Option Addr) (len cap : Nat) (xs : List Pd) : Prop := xs.length = len ∧ len ≤ cap ∧ cap ≤ maxLen ∧ (∀ s ∈ xs, s.wf) ∧ Pds w a xs

theorem open_pds {t e : TypeId} {f0 f1 f2 f3 : Field} {fuel : Nat} {a : Option Addr} {len cap : Nat} {x : DataW H × List MemPlace} (ht : P.underlying t = some (.slice e)) (he : P.underlying e = some (.struct #[f0, f1, f2, f3]))
    (hone : oneCellFields P #[f0, f1, f2, f3] = true) (hC : P.cellsOf e = 4) {ts ti tb : TypeId} (hf : f0.type = ts ∧ f1.type = ti ∧ f2.type = ti ∧ f3.type = tb) (hts : P.underlying ts = some .string) (hti : P.underlying ti = some (.int .i64)) (htb : P.underlying tb = some .bool)
    (h : DataW.trod enc P w base (fun _ => true) held fuel t (Value.slice a len cap).cells.toList = some x) : ∃ xs, IsPds w a len cap xs := by
  obtain ⟨z0, z1, z2, z3⟩ := hf
  rcases open_slice ht h with ⟨hcs, _⟩ | ⟨x, l, c, m, n, D, Pl, hcs, _, hl, hm, hmm, _, hi⟩
  · simp [Value.cells] at hcs
    obtain ⟨rfl, rfl, rfl⟩ := hcs
    exact ⟨[], rfl, Nat.le_refl _, Nat.zero_le _, fun _ h => absurd h (by simp), .inl rfl⟩
  · simp [Value.cells] at hcs
    obtain ⟨rfl, rfl, rfl⟩ := hcs
    have key : ∀ i, i < len → ∃ s : Pd, s.wf ∧ w.cell? (x.add (i * 4)) = some (.string s.nm) ∧ w.cell? ((x.add (i * 4)).add 1) = some (.int .i64 s.born) ∧ w.cell? ((x.add (i * 4)).add 2) = some (.int .i64 s.ph) ∧ w.cell? ((x.add (i * 4)).add 3) = some (.bool s.rdy) := by
      intro i hil
      obtain ⟨cs', hc, ht'⟩ := hi i (by rw [hmm]; simp; omega)
      rw [hC] at hc
      obtain ⟨_, hcl, hat⟩ := World.cells?_some hc
      obtain ⟨y0, y1, y2, y3, n', _, _, g0, g1, g2, g3⟩ := Go.Joins.trod_struct4 he ht'
      obtain ⟨o0, k0⟩ := hone_of hone 0 f0 rfl
      obtain ⟨o1, k1⟩ := hone_of hone 1 f1 rfl
      obtain ⟨o2, k2⟩ := hone_of hone 2 f2 rfl
      obtain ⟨o3, k3⟩ := hone_of hone 3 f3 rfl
      rw [o0, k0, z0] at g0
      rw [o1, k1, z1] at g1
      rw [o2, k2, z2] at g2
      rw [o3, k3, z3] at g3
      match cs', hcl with
      | [c0, c1, c2, c3], _ =>
        obtain ⟨p, e0, _, u0⟩ := DataW.trod_string hts g0
        obtain ⟨q, e1, _, u1⟩ := DataW.trod_int hti g1
        obtain ⟨v, e2, _, u2⟩ := DataW.trod_int hti g2
        obtain ⟨t, e3, _⟩ := DataW.trod_bool htb g3
        simp at e0 e1 e2 e3
        subst e0 e1 e2 e3
        refine ⟨⟨p, q, v, t⟩, ⟨u0, bounds_i64 u1, bounds_i64 u2⟩, ?_, ?_, ?_, ?_⟩
        · have := hat 0 (by omega); simpa [Addr.add] using this
        · have := hat 1 (by omega); simpa using this
        · have := hat 2 (by omega); simpa using this
        · have := hat 3 (by omega); simpa using this
    obtain ⟨f, hf⟩ := choose_lt key
    refine ⟨(List.range len).map f, by simp, hl, hm, fun s hs => ?_, ?_⟩
    · obtain ⟨i, hi2, rfl⟩ := List.mem_map.1 hs
      exact (hf i (List.mem_range.1 hi2)).1
    · by_cases h0 : len = 0
      · exact .inl (by simp [h0])
      · obtain ⟨b, off, spot⟩ := x
        have hspot : spot = none := by
          have := (hf 0 (by omega)).2.1
          simpa [Addr.add] using World.cell?_spot this
        subst hspot
        refine .inr ⟨b, off, rfl, ?_, fun i hi2 => ?_⟩
        · have := (hf 0 (by omega)).2.1
          simp [Addr.add] at this
          exact World.block_lt_of_cell? _ _ this
        · have hil : i < len := by simpa using hi2
          obtain ⟨_, c0, c1, c2, c3⟩ := hf i hil
          rw [Go.WideShapes.add_plain] at c0 c1 c2 c3
          rw [Go.WideShapes.add_plain] at c1 c2 c3
          simp only [List.getElem_map, List.getElem_range]
          exact ⟨c0, c1, c2, c3⟩
end

theorem sz_pods (xs : List Pd) (hwf : ∀ s ∈ xs, s.wf) (a : Option Addr) (cap : Nat) (hm : xs.length ≤ 9223372036854775807) (w : World) (h : Pds w a xs) :
    Calls Tryz.prog 20 #[.slice a xs.length cap, .int .i64 1048576] w fun e w' => ∃ r : Int, e = .returned (.int .i64 r) ∧ Below w.heap.size w w' ∧ (r < 0 ∨ 0 ≤ r ∧ r ≤ 1048576 ∧ xs.length ≤ 1048576 ∧ ∀ s ∈ xs, (s.nm.size : Int) ≤ 1048576) := by
  obtain ⟨b, off, ha, hb, hcell⟩ := h.cells
  by_cases hbig : 1048576 < xs.length
  · go_enter Tryz.func20, Tryz.ntmps20
    go_wp2
    go_ret
    exact ⟨_, rfl, Below.refl _ _, .inl (by omega)⟩
  · have Hc := Lib.hid hcell
    have Ha := Lib.hid ha
    have Hw := Lib.hid hwf
    have Hb := Lib.hid hb
    clear hcell ha hwf hb h
    go_enter Tryz.func20, Tryz.ntmps20
    go_wp2
    go_loopw [1, 5] (fun l i wr => ∃ (k : Nat) (r : Int), k ≤ xs.length ∧ i = .int .i64 k ∧ l = .int .i64 r ∧ 0 ≤ r ∧ r ≤ 1048576 ∧ Below w.heap.size w wr ∧ Hid (∀ (j : Nat) (hj : j < xs.length), j < k → (xs[j].nm.size : Int) ≤ 1048576)) (fun _ i _ => xs.length - (intOf i).toNat)
    case atStart => exact ⟨0, 1048576 - xs.length, Nat.zero_le _, rfl, rfl, by omega, by omega, Below.refl _ _, fun j hj h => absurd h (by omega)⟩
    case round =>
      obtain ⟨k, r, hk, rfl, rfl, hr0, hr1, hbw, HS⟩ := hrel
      by_cases hlt : k < xs.length
      · obtain rfl := Ha.out (by omega)
        obtain ⟨q0, q1, q2, q3⟩ := (Hc.out k hlt).kept hbw (Hb.out (by omega))
        have hw1 := Lib.hid (Hw.out xs[k] (List.getElem_mem hlt))
        have hlw := hbw.size
        by_cases hc : r < xs[k].nm.size
        · go_wp2_with (go_at_call 59; refine (sz_pod xs[k] hw1.out r hr0 hr1 _).mono ?_; rw [if_pos hc]; rintro e w2 ⟨rfl, hb2⟩)
          go_ret
          exact ⟨_, rfl, hbw.trans (hb2.mono hlw), .inl (by omega)⟩
        · obtain ⟨r2, hr2, hr3, hr4⟩ : ∃ r2 : Int, r2 = r - xs[k].nm.size ∧ 0 ≤ r2 ∧ r2 ≤ 1048576 := ⟨_, rfl, by omega, by omega⟩
          have HN : Hid (∀ (j : Nat) (hj : j < xs.length), j < k + 1 → (xs[j].nm.size : Int) ≤ 1048576) := fun j hj h => by
            by_cases e : j = k
            · subst e; omega
            · exact HS.out j hj (by omega)
          go_wp2_with (go_at_call 59; refine (sz_pod xs[k] hw1.out r hr0 hr1 _).mono ?_; rw [if_neg hc, ← hr2]; rintro e w2 ⟨rfl, hb2⟩)
          go_roundw
          case rel => exact ⟨k + 1, r2, by omega, by go_num, int_eq hr2.symm, hr3, hr4, hbw.trans (hb2.mono hlw), HN⟩
          case measure => simp [intOf]; omega
      · obtain rfl : k = xs.length := by omega
        go_wp2
        go_ret
        exact ⟨_, rfl, hbw, .inr ⟨hr0, hr1, by omega, fun s hs => by
          obtain ⟨j, hj, rfl⟩ := List.mem_iff_getElem.1 hs
          exact HS.out j hj hj⟩⟩

/-! ### Owned rows of samples. -/
def flatP (xs : List Pd) : List Value := xs.flatMap encD
theorem flatP_len (xs : List Pd) : (flatP xs).length = xs.length * 4 := by
  induction xs with
  | nil => rfl
  | cons s r ih => simp only [flatP, List.flatMap_cons, List.length_append, List.length_cons] at ih ⊢; simp only [encD, List.length_cons, List.length_nil]; omega
theorem flatP_get : ∀ (xs : List Pd) (i j : Nat) (hi : i < xs.length), j < 4 → (flatP xs)[i * 4 + j]? = (encD xs[i])[j]?
  | s :: r, 0, j, _, hj => by
    show (encD s ++ flatP r)[0 * 4 + j]? = _
    rw [List.getElem?_append_left (by simp only [encD, List.length_cons, List.length_nil]; omega)]
    simp
  | s :: r, i + 1, j, hi, hj => by
    show (encD s ++ flatP r)[(i + 1) * 4 + j]? = _
    rw [List.getElem?_append_right (by simp only [encD, List.length_cons, List.length_nil]; omega)]
    have e : (i + 1) * 4 + j - (encD s).length = i * 4 + j := by simp only [encD, List.length_cons, List.length_nil]; omega
    rw [e]
    exact flatP_get r i j (by simpa using hi) hj
theorem flatP_set : ∀ (xs : List Pd) (i : Nat) (s : Pd), i < xs.length → (((((flatP xs).set (i * 4) (.string s.nm)).set (i * 4 + 1) (.int .i64 s.born)).set (i * 4 + 2) (.int .i64 s.ph)).set (i * 4 + 3) (.bool s.rdy)) = flatP (xs.set i s)
  | x :: r, 0, s, _ => by simp [flatP, encD]
  | x :: r, i + 1, s, hi => by
    have ih := flatP_set r i s (by simpa using hi)
    have e : (i + 1) * 4 = i * 4 + 4 := by omega
    show ((((encD x ++ flatP r).set _ _).set _ _).set _ _).set _ _ = encD x ++ flatP (r.set i s)
    rw [← ih, e]
    simp [encD]
theorem flatP_append (xs ys : List Pd) : flatP (xs ++ ys) = flatP xs ++ flatP ys := by simp [flatP]

/-- v is a slice of samples in a block that is new (not below B) and may be written. -/
def OwnD (w : World) (B : Nat) (v : Value) (xs : List Pd) : Prop := w.ownsRow B 115 4 v xs.length (flatP xs)
theorem OwnD.at4 {w : World} {B g cap : Nat} {xs : List Pd} (h : OwnD w B (.slice (some ⟨g, 0, none⟩) xs.length cap) xs) (i : Nat) (hi : i < xs.length) : PAt w g (0 + i * 4) xs[i] := by
  have hc : ∀ j, j < 4 → w.cell? ⟨g, i * 4 + j, none⟩ = (encD xs[i])[j]? := fun j hj => by
    have := World.ownsRow.cellAt h (i * 4 + j) (by omega)
    rw [this, flatP_get xs i j hi hj]
  rw [Nat.zero_add]
  exact ⟨hc 0 (by omega), hc 1 (by omega), hc 2 (by omega), hc 3 (by omega)⟩
theorem OwnD.smps {w : World} {B : Nat} {v : Value} {xs : List Pd} (h : OwnD w B v xs) : ∃ a cap, v = .slice a xs.length cap ∧ Pds w a xs := by
  have h' : w.ownsRow B 115 4 v xs.length (flatP xs) := h
  rcases h.2 with ⟨hv, h0⟩ | ⟨g, cap, cur, hv, hg, hh, _⟩
  · exact ⟨none, 0, by rw [hv, h0], .inl (List.length_eq_zero_iff.1 h0)⟩
  · subst hv
    exact ⟨_, cap, rfl, .inr ⟨g, 0, rfl, (Array.getElem?_eq_some_iff.1 hh).1, fun i hi => OwnD.at4 h' i hi⟩⟩
theorem OwnD.new {w : World} {B g n cap : Nat} {xs : List Pd} (h : OwnD w B (.slice (some ⟨g, 0, none⟩) n cap) xs) : B ≤ g ∧ g < w.heap.size := World.ownsRow.lt h g rfl

theorem OwnD.kept {w w' : World} {B : Nat} {v : Value} {xs : List Pd} (h : OwnD w B v xs) (hb : Below w.heap.size w w') : OwnD w' B v xs := by
  obtain ⟨h1, h2⟩ := h
  refine ⟨h1, ?_⟩
  rcases h2 with h2 | ⟨g, cap, cur, hv, hg, hh, r⟩
  · exact .inl h2
  · exact .inr ⟨g, cap, cur, hv, hg, by rw [hb.block g (Array.getElem?_eq_some_iff.1 hh).1]; exact hh, r⟩
theorem OwnD.spot {w : World} {B g n cap : Nat} {xs : List Pd} (h : OwnD w B (.slice (some ⟨g, 0, none⟩) n cap) xs) (hn : n = xs.length) (k : Nat) (hk : k < xs.length) : PAt w g (k * 4) xs[k] ∧ ∀ j, w.frozen? ⟨g, j, none⟩ = false := by
  subst hn
  have := h.at4 k hk
  rw [Nat.zero_add] at this
  exact ⟨this, fun j => World.ownsRow.frozenAt h j⟩
/-- The four stores of a sample. -/
theorem OwnD.put {w : World} {B g n cap : Nat} {xs : List Pd} (h : OwnD w B (.slice (some ⟨g, 0, none⟩) n cap) xs) (hn : n = xs.length) (k : Nat) (hk : k < xs.length) (s : Pd) :
    OwnD ((((w.setCell ⟨g, k * 4, none⟩ (.string s.nm)).setCell ⟨g, k * 4 + 1, none⟩ (.int .i64 s.born)).setCell ⟨g, k * 4 + 2, none⟩ (.int .i64 s.ph)).setCell ⟨g, k * 4 + 3, none⟩ (.bool s.rdy)) B (.slice (some ⟨g, 0, none⟩) n cap) (xs.set k s) := by
  subst hn
  have h1 := (World.ownsRow.stored h (k * 4) (.string s.nm)).1
  have h2 := (World.ownsRow.stored h1 (k * 4 + 1) (.int .i64 s.born)).1
  have h3 := (World.ownsRow.stored h2 (k * 4 + 2) (.int .i64 s.ph)).1
  have h4 := (World.ownsRow.stored h3 (k * 4 + 3) (.bool s.rdy)).1
  rw [flatP_set xs k s hk] at h4
  unfold OwnD
  rw [List.length_set]
  exact h4
/-! ### laws.toSampleS: a copy. -/
def zeroD : Pd := ⟨⟨#[]⟩, 0, 0, false⟩
theorem info_pd : (Tryz.prog.info? 115).map (fun i => (i.zero, i.size, i.bytes)) = some (some (podV zeroD), 4, 40) := by kernel_rfl
theorem cellsP_made (n : Nat) : (madeCells (podV zeroD).cells (n * 4)).toList = flatP (List.replicate n zeroD) := by
  apply List.ext_getElem?
  intro j
  by_cases hj : j < n * 4
  · have hl : j < (madeCells (podV zeroD).cells (n * 4)).toList.length := by simpa [size_madeCells] using hj
    have e : j = j / 4 * 4 + j % 4 := by omega
    rw [e, flatP_get _ _ _ (by simp; omega) (by omega), ← e]
    have hj4 : j % 4 < 4 := by omega
    simp only [madeCells, podV, Value.cells]
    simp [hj, encD, zeroD]
    rcases (by omega : j % 4 = 0 ∨ j % 4 = 1 ∨ j % 4 = 2 ∨ j % 4 = 3) with h | h | h | h <;> simp [h]
  · rw [List.getElem?_eq_none (by simp [size_madeCells]; omega), List.getElem?_eq_none (by rw [flatP_len]; simp; omega)]

def fillD (xs : List Pd) (k : Nat) : List Pd := xs.take k ++ List.replicate (xs.length - k) zeroD
theorem fillD_len (xs : List Pd) (k : Nat) (hk : k ≤ xs.length) : (fillD xs k).length = xs.length := by unfold fillD; simp; omega
theorem fillD_set (xs : List Pd) (k : Nat) (hk : k < xs.length) : (fillD xs k).set k xs[k] = fillD xs (k + 1) := by
  unfold fillD
  have e : xs.length - k = (xs.length - (k + 1)) + 1 := by omega
  have e2 : k - (xs.take k).length = 0 := by simp; omega
  rw [List.set_append, if_neg (by simp; omega), e, List.replicate_succ, e2, List.set_cons_zero, List.take_succ_eq_append_getElem hk, List.append_assoc]
  rfl
theorem fillD_all (xs : List Pd) : fillD xs xs.length = xs := by unfold fillD; simp
theorem fillD_none (xs : List Pd) : fillD xs 0 = List.replicate xs.length zeroD := by unfold fillD; simp

set_option maxHeartbeats 1000000 in
theorem to_pods (xs : List Pd) (a : Option Addr) (cap : Nat) (w : World) (h : Pds w a xs) (hm : xs.length ≤ 1048576) :
    Calls Tryz.prog 33 #[.slice a xs.length cap] w fun e w' => ∃ g, e = .returned (.slice (some ⟨g, 0, none⟩) xs.length xs.length) ∧ OwnD w' w.heap.size (.slice (some ⟨g, 0, none⟩) xs.length xs.length) xs ∧ Below w.heap.size w w' := by
  obtain ⟨b, off, ha, hb, hcell⟩ := h.cells
  have hmk : ∀ w : World, (Instr.makeSlice 49 (.int .i64 (xs.length : Int)) (.int .i64 (xs.length : Int))).run Tryz.prog w = .ok (.slice (some ⟨w.heap.size, 0, none⟩) xs.length xs.length) (w.alloc (.cells (madeCells (podV zeroD).cells (xs.length * 4)) 115)) := by
    obtain ⟨i, hi, hzz⟩ := Option.map_eq_some_iff.1 info_pd
    simp only [Prod.mk.injEq] at hzz
    obtain ⟨hz, hs, hby⟩ := hzz
    have := fun w : World => run_make (P := Tryz.prog) w 49 115 i (podV zeroD) Tryz.underlying49 hi hz .i64 .i64 (xs.length : Int) (xs.length : Int) (by omega) (by omega) (by rw [hby]; omega) (by omega)
    intro w
    rw [this w, hs]
    simp
  have hmade : OwnD (w.alloc (.cells (madeCells (podV zeroD).cells (xs.length * 4)) 115)) w.heap.size (.slice (some ⟨w.heap.size, 0, none⟩) xs.length xs.length) (fillD xs 0) := by
    unfold OwnD
    rw [fillD_len xs 0 (by omega), fillD_none, ← cellsP_made]
    exact World.ownsRow_lit (e := 115) (size := 4) (base := w.heap.size) w (madeCells (podV zeroD).cells (xs.length * 4)) xs.length (Nat.le_refl _) (by unfold maxLen; omega) (by rw [size_madeCells])
  have hbel : Below w.heap.size w (w.alloc (.cells (madeCells (podV zeroD).cells (xs.length * 4)) 115)) := (Below.refl _ _).alloc (Nat.le_refl _) _
  have Hm := Lib.hid hmade
  have Hc := Lib.hid hcell
  have Ha := Lib.hid ha
  have Hb := Lib.hid hb
  clear hmade hcell ha hb h
  generalize hM : madeCells (podV zeroD).cells (xs.length * 4) = M at hmk hbel Hm
  go_enter Tryz.func33, Tryz.ntmps33
  go_wp2
  go_loopw [4] (fun i wr => ∃ k : Nat, k ≤ xs.length ∧ i = .int .i64 k ∧ OwnD wr w.heap.size (.slice (some ⟨w.heap.size, 0, none⟩) xs.length xs.length) (fillD xs k) ∧ Below w.heap.size w wr)
    (fun i _ => xs.length - (intOf i).toNat)
  case atStart => exact ⟨0, Nat.zero_le _, rfl, Hm.out, hbel⟩
  case round =>
    clear hmk hbel
    obtain ⟨k, hk, rfl, hown, hbw⟩ := hrel
    by_cases hlt : k < xs.length
    · obtain rfl := Ha.out (by omega)
      obtain ⟨q0, q1, q2, q3⟩ := (Hc.out k hlt).kept hbw (Hb.out (by omega))
      have HB := Lib.hid hbw
      have HO := Lib.hid hown
      clear hbw hown
      have hxl := fillD_len xs k hk
      go_wp2_with (go_at_call 72; refine (to_pod xs[k] _).mono ?_; unfold podV; rintro e w2 ⟨rfl, hb2⟩; obtain ⟨⟨p0, p1, p2, p3⟩, hfr⟩ := (HO.out.kept hb2).spot hxl.symm k (by omega); have f0 := hfr (k * 4); have f1 := hfr (k * 4 + 1); have f2 := hfr (k * 4 + 2); have f3 := hfr (k * 4 + 3); clear hfr)
      have HO2 := Lib.hid ((HO.out.kept hb2).put hxl.symm k (by omega) xs[k])
      have HB2 := Lib.hid (below_put (HB.out.trans (hb2.mono HB.out.size)) (Nat.le_refl w.heap.size) k (.string xs[k].nm) (.int .i64 xs[k].born) (.int .i64 xs[k].ph) (.bool xs[k].rdy))
      have hso := fillD_set xs k hlt
      go_roundw
      case rel => exact ⟨k + 1, by omega, by go_num, by rw [← hso]; exact HO2.out, HB2.out⟩
      case measure => simp [intOf]; omega
    · obtain rfl : k = xs.length := by omega
      rw [fillD_all] at hown
      have HO := Lib.hid hown
      have HB := Lib.hid hbw
      clear hown hbw
      go_wp2
      go_ret
      exact ⟨w.heap.size, rfl, HO.out, HB.out⟩

/-! ### laws.eqSample, laws.eqSampleS at equals. -/
theorem PAt.grown {w : World} {b o : Nat} {s : Pd} (h : PAt w b o s) (hb : b < w.heap.size) :
    (∀ n os, (Go.Sort.grow (w.drewN n) os).cell? ⟨b, o, none⟩ = some (.string s.nm)) ∧ (∀ n os, (Go.Sort.grow (w.drewN n) os).cell? ⟨b, o + 1, none⟩ = some (.int .i64 s.born)) ∧
      (∀ n os, (Go.Sort.grow (w.drewN n) os).cell? ⟨b, o + 2, none⟩ = some (.int .i64 s.ph)) ∧ (∀ n os, (Go.Sort.grow (w.drewN n) os).cell? ⟨b, o + 3, none⟩ = some (.bool s.rdy)) :=
  ⟨fun n os => cell_grown hb h.1 n os, fun n os => cell_grown hb h.2.1 n os, fun n os => cell_grown hb h.2.2.1 n os, fun n os => cell_grown hb h.2.2.2 n os⟩
theorem eq_pods (xs : List Pd) (a a' : Option Addr) (cap cap' : Nat) (w : World) (h : Pds w a xs) (h' : Pds w a' xs) (hm : xs.length ≤ 1048576) :
    Calls Tryz.prog 43 #[.slice a xs.length cap, .slice a' xs.length cap'] w fun e w' => e = .returned (.bool true) ∧ Below w.heap.size w w' := by
  obtain ⟨b, off, ha, hb, hcell⟩ := h.cells
  obtain ⟨b', off', ha', hb', hcell'⟩ := h'.cells
  have Hc := Lib.hid hcell
  have Ha := Lib.hid ha
  have Hb := Lib.hid hb
  have Hc' := Lib.hid hcell'
  have Ha' := Lib.hid ha'
  have Hb' := Lib.hid hb'
  clear hcell ha hb hcell' ha' hb' h h'
  go_enter Tryz.func43, Tryz.ntmps43
  go_wp2
  go_loopw [5] (fun i wr => ∃ k : Nat, k ≤ xs.length ∧ i = .int .i64 k ∧ Hid (Below w.heap.size w wr)) (fun i _ => xs.length - (intOf i).toNat)
  case atStart => exact ⟨0, Nat.zero_le _, rfl, Below.refl _ _⟩
  case round =>
    obtain ⟨k, hk, rfl, HB⟩ := hrel
    by_cases hlt : k < xs.length
    · obtain rfl := Ha.out (by omega)
      obtain rfl := Ha'.out (by omega)
      have hbb := Nat.lt_of_lt_of_le (Hb.out (by omega)) HB.out.size
      have hbb' := Nat.lt_of_lt_of_le (Hb'.out (by omega)) HB.out.size
      obtain ⟨q0, q1, q2, q3⟩ := ((Hc.out k hlt).kept HB.out (Hb.out (by omega))).grown hbb
      obtain ⟨p0, p1, p2, p3⟩ := ((Hc'.out k hlt).kept HB.out (Hb'.out (by omega))).grown hbb'
      clear hbb hbb'
      have hcall : ∀ n' os', Calls Tryz.prog 96 #[.agg #[.string xs[k].nm, .int .i64 xs[k].born, .int .i64 xs[k].ph, .bool xs[k].rdy], .agg #[.string xs[k].nm, .int .i64 xs[k].born, .int .i64 xs[k].ph, .bool xs[k].rdy]] (Go.Sort.grow (wr.drewN n') os') _ := fun n' os' => eq_pod_g xs[k] _
      have mixed : Tryz.prog.follows .mixedOrders = true := by kernel_rfl
      go_wp2_with fail
      go_quiet_grown (first | (go_at_call 96; refine Calls.grown_of (hcall _ _)))
      have HB2 := Lib.hid (below_grow HB.out HB.out.size nq osq)
      clear hcall q0 q1 q2 q3 p0 p1 p2 p3
      go_wp2
      go_roundw
      case rel => exact ⟨k + 1, by omega, by go_num, HB2⟩
      case measure => simp [intOf]; omega
    · obtain rfl : k = xs.length := by omega
      go_wp2
      go_ret
      exact ⟨rfl, HB.out⟩
theorem pds_of {w : World} {B g : Nat} {xs : List Pd} (h : OwnD w B (.slice (some ⟨g, 0, none⟩) xs.length xs.length) xs) : Pds w (some ⟨g, 0, none⟩) xs := by
  obtain ⟨a, cap, hv, hs⟩ := h.smps
  cases hv
  exact hs
end Go.Proofs.YtgmdfkmmbcpikaaGreat.Pds
