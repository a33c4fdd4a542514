/- Slices of goals: 'Gls w a xs' says that the slice at a holds the goals xs; how such an argument is opened; the contracts of laws.szGoalS, laws.toGoalS (a copy), laws.eqGoalS (a comparison). After Smps. -/
import Derived.Test.YtgmdfkmmbcpikaaGreatSmps
import Derived.Test.YtgmdfkmmbcpikaaGreatGl
namespace Go.Proofs.YtgmdfkmmbcpikaaGreat.Gls
open Go.RowKit Go.Deep
open Go.ChangeShapes Go.WideShapes
open Go.Proofs.YtgmdfkmmbcpikaaGreat.C1
open Go.Proofs.YtgmdfkmmbcpikaaGreat.C2
open Go.Proofs.YtgmdfkmmbcpikaaGreat.Smps
open Go.Proofs.YtgmdfkmmbcpikaaGreat.Mem
open Go.Proofs.YtgmdfkmmbcpikaaGreat.Gl
set_option linter.unusedVariables false

instance : Inhabited Gl := ⟨⟨⟨#[]⟩, 0, 0⟩⟩
/-- The three cells of a goal at ⟨b, o⟩. -/
def GAt (w : World) (b o : Nat) (s : Gl) : Prop :=
  w.cell? ⟨b, o, none⟩ = some (.string s.met) ∧ w.cell? ⟨b, o + 1, none⟩ = some (.int .i64 s.tar) ∧ w.cell? ⟨b, o + 2, none⟩ = some (.int .i64 s.tol)
theorem GAt.kept {w w' : World} {b o : Nat} {s : Gl} (h : GAt w b o s) {B : Nat} (hb : Below B w w') (hlt : b < B) : GAt w' b o s := by
  have hc : ∀ j, w'.cell? ⟨b, j, none⟩ = w.cell? ⟨b, j, none⟩ := fun j => hb.cell (p := ⟨b, j, none⟩) hlt
  exact ⟨by rw [hc]; exact h.1, by rw [hc]; exact h.2.1, by rw [hc]; exact h.2.2⟩

/-- The slice at a holds the samples xs (in a block that the world has). -/
def Gls (w : World) (a : Option Addr) (xs : List Gl) : Prop :=
  xs = [] ∨ ∃ b off, a = some ⟨b, off, none⟩ ∧ b < w.heap.size ∧ ∀ (i : Nat) (h : i < xs.length), GAt w b (off + i * 3) xs[i]
theorem Gls.kept {w w' : World} {a : Option Addr} {xs : List Gl} (h : Gls w a xs) (hb : Below w.heap.size w w') : Gls w' a xs := by
  rcases h with h | ⟨b, off, h1, h2, h3⟩
  · exact .inl h
  · exact .inr ⟨b, off, h1, Nat.lt_of_lt_of_le h2 hb.size, fun i hi => (h3 i hi).kept hb h2⟩
theorem Gls.cells {w : World} {a : Option Addr} {xs : List Gl} (h : Gls w a xs) : ∃ b off, (0 < xs.length → a = some ⟨b, off, none⟩) ∧ (0 < xs.length → b < w.heap.size) ∧ ∀ (i : Nat) (h : i < xs.length), GAt w b (off + i * 3) xs[i] := by
  rcases h with h | ⟨b, off, h1, h2, h3⟩
  · subst h
    exact ⟨0, 0, by simp, by simp, fun i h => absurd h (by simp)⟩
  · exact ⟨b, off, fun _ => h1, fun _ => h2, h3⟩

/-! ### An argument that is a slice of samples, opened. -/
section
variable {H : Type} {enc : TypeId × Value → H} {P : Program} {w : World} {base : Nat} {spare : Nat → Bool} {held : Bool}
theorem open_gls {t e : TypeId} {f0 f1 f2 : Field} {fuel : Nat} {v : Value} {x : DataW H × List MemPlace} (ht : P.underlying t = some (.slice e)) (he : P.underlying e = some (.struct #[f0, f1, f2]))
    (hone : oneCellFields P #[f0, f1, f2] = true) (hC : P.cellsOf e = 3) {ts ti : TypeId} (hf : f0.type = ts ∧ f1.type = ti ∧ f2.type = ti) (hts : P.underlying ts = some .string) (hti : P.underlying ti = some (.int .i64))
    (h : DataW.trod enc P w base (fun _ => true) held fuel t [v] = some x) : ∃ a len cap ps, v = .slice a len cap ∧ ps.length = len ∧ len ≤ maxLen ∧ (∀ p ∈ ps, p.wf) ∧ Gls w a ps := by
  obtain ⟨z0, z1, z2⟩ := hf
  rcases open_slice ht h with ⟨hcs, _⟩ | ⟨x, l, c, m, n, D, pls, hcs, _, hl, hm, hmm, _, hi⟩
  · simp at hcs
    subst hcs
    exact ⟨none, 0, 0, [], rfl, rfl, Nat.zero_le _, fun _ h => absurd h (by simp), .inl rfl⟩
  · simp at hcs
    subst hcs
    have key : ∀ i, i < l → ∃ p : Gl, p.wf ∧ w.cell? (x.add (i * 3)) = some (.string p.met) ∧ w.cell? ((x.add (i * 3)).add 1) = some (.int .i64 p.tar) ∧ w.cell? ((x.add (i * 3)).add 2) = some (.int .i64 p.tol) := by
      intro i hil
      obtain ⟨cs', hc, ht'⟩ := hi i (by rw [hmm]; simp; omega)
      rw [hC] at hc
      obtain ⟨_, hcl, hat⟩ := World.cells?_some hc
      obtain ⟨y0, y1, y2, n', _, _, g0, g1, g2⟩ := trod_struct3 he ht'
      obtain ⟨o0, k0⟩ := hone_of hone 0 f0 rfl
      obtain ⟨o1, k1⟩ := hone_of hone 1 f1 rfl
      obtain ⟨o2, k2⟩ := hone_of hone 2 f2 rfl
      rw [o0, k0, z0] at g0
      rw [o1, k1, z1] at g1
      rw [o2, k2, z2] at g2
      match cs', hcl with
      | [c0, c1, c2], _ =>
        obtain ⟨p, e0, _, u0⟩ := DataW.trod_string hts g0
        obtain ⟨q, e1, _, u1⟩ := DataW.trod_int hti g1
        obtain ⟨r, e2, _, u2⟩ := DataW.trod_int hti g2
        simp at e0 e1 e2
        subst e0 e1 e2
        refine ⟨⟨p, q, r⟩, ⟨u0, bounds_i64 u1, bounds_i64 u2⟩, ?_, ?_, ?_⟩
        · have := hat 0 (by omega); simpa [Addr.add] using this
        · have := hat 1 (by omega); simpa using this
        · have := hat 2 (by omega); simpa using this
    obtain ⟨f, hf⟩ := choose_lt key
    refine ⟨some x, l, c, (List.range l).map f, rfl, by simp, Nat.le_trans hl hm, fun s hs => ?_, ?_⟩
    · obtain ⟨i, hi2, rfl⟩ := List.mem_map.1 hs
      exact (hf i (List.mem_range.1 hi2)).1
    · by_cases h0 : l = 0
      · exact .inl (by simp [h0])
      · obtain ⟨b, off, spot⟩ := x
        have hspot : spot = none := by
          have := (hf 0 (by omega)).2.1
          simpa [Addr.add] using World.cell?_spot this
        subst hspot
        refine .inr ⟨b, off, rfl, ?_, fun i hi2 => ?_⟩
        · have := (hf 0 (by omega)).2.1
          simp [Addr.add] at this
          exact World.block_lt_of_cell? _ _ this
        · have hil : i < l := by simpa using hi2
          obtain ⟨_, c0, c1, c2⟩ := hf i hil
          rw [Go.WideShapes.add_plain] at c0 c1 c2
          rw [Go.WideShapes.add_plain] at c1 c2
          simp only [List.getElem_map, List.getElem_range]
          exact ⟨c0, c1, c2⟩
end

theorem sz_goals (xs : List Gl) (hwf : ∀ s ∈ xs, s.wf) (a : Option Addr) (cap : Nat) (hm : xs.length ≤ 9223372036854775807) (w : World) (h : Gls w a xs) :
    Calls Tryz.prog 57 #[.slice a xs.length cap, .int .i64 1048576] w fun e w' => ∃ r : Int, e = .returned (.int .i64 r) ∧ Below w.heap.size w w' ∧ (r < 0 ∨ 0 ≤ r ∧ r ≤ 1048576 ∧ xs.length ≤ 1048576 ∧ ∀ s ∈ xs, (s.met.size : Int) ≤ 1048576) := by
  obtain ⟨b, off, ha, hb, hcell⟩ := h.cells
  by_cases hbig : 1048576 < xs.length
  · go_enter Tryz.func57, Tryz.ntmps57
    go_wp2
    go_ret
    exact ⟨_, rfl, Below.refl _ _, .inl (by omega)⟩
  · have Hc := Lib.hid hcell
    have Ha := Lib.hid ha
    have Hw := Lib.hid hwf
    have Hb := Lib.hid hb
    clear hcell ha hwf hb h
    go_enter Tryz.func57, Tryz.ntmps57
    go_wp2
    go_loopw [1, 5] (fun l i wr => ∃ (k : Nat) (r : Int), k ≤ xs.length ∧ i = .int .i64 k ∧ l = .int .i64 r ∧ 0 ≤ r ∧ r ≤ 1048576 ∧ Below w.heap.size w wr ∧ Hid (∀ (j : Nat) (hj : j < xs.length), j < k → (xs[j].met.size : Int) ≤ 1048576)) (fun _ i _ => xs.length - (intOf i).toNat)
    case atStart => exact ⟨0, 1048576 - xs.length, Nat.zero_le _, rfl, rfl, by omega, by omega, Below.refl _ _, fun j hj h => absurd h (by omega)⟩
    case round =>
      obtain ⟨k, r, hk, rfl, rfl, hr0, hr1, hbw, HS⟩ := hrel
      by_cases hlt : k < xs.length
      · obtain rfl := Ha.out (by omega)
        obtain ⟨q0, q1, q2⟩ := (Hc.out k hlt).kept hbw (Hb.out (by omega))
        have hw1 := Lib.hid (Hw.out xs[k] (List.getElem_mem hlt))
        have hlw := hbw.size
        by_cases hc : r < xs[k].met.size
        · go_wp2_with (go_at_call 109; refine (sz_goal xs[k] hw1.out r hr0 hr1 _).mono ?_; rw [if_pos hc]; rintro e w2 ⟨rfl, hb2⟩)
          go_ret
          exact ⟨_, rfl, hbw.trans (hb2.mono hlw), .inl (by omega)⟩
        · obtain ⟨r2, hr2, hr3, hr4⟩ : ∃ r2 : Int, r2 = r - xs[k].met.size ∧ 0 ≤ r2 ∧ r2 ≤ 1048576 := ⟨_, rfl, by omega, by omega⟩
          have HN : Hid (∀ (j : Nat) (hj : j < xs.length), j < k + 1 → (xs[j].met.size : Int) ≤ 1048576) := fun j hj h => by
            by_cases e : j = k
            · subst e; omega
            · exact HS.out j hj (by omega)
          go_wp2_with (go_at_call 109; refine (sz_goal xs[k] hw1.out r hr0 hr1 _).mono ?_; rw [if_neg hc, ← hr2]; rintro e w2 ⟨rfl, hb2⟩)
          go_roundw
          case rel => exact ⟨k + 1, r2, by omega, by go_num, int_eq hr2.symm, hr3, hr4, hbw.trans (hb2.mono hlw), HN⟩
          case measure => simp [intOf]; omega
      · obtain rfl : k = xs.length := by omega
        go_wp2
        go_ret
        exact ⟨_, rfl, hbw, .inr ⟨hr0, hr1, by omega, fun s hs => by
          obtain ⟨j, hj, rfl⟩ := List.mem_iff_getElem.1 hs
          exact HS.out j hj hj⟩⟩

/-! ### Owned rows of samples. -/
def encG (g : Gl) : List Value := [.string g.met, .int .i64 g.tar, .int .i64 g.tol]
def flatG (xs : List Gl) : List Value := xs.flatMap encG
theorem flatG_len (xs : List Gl) : (flatG xs).length = xs.length * 3 := by
  induction xs with
  | nil => rfl
  | cons s r ih => simp only [flatG, List.flatMap_cons, List.length_append, List.length_cons] at ih ⊢; simp only [encG, List.length_cons, List.length_nil]; omega
theorem flatG_get : ∀ (xs : List Gl) (i j : Nat) (hi : i < xs.length), j < 3 → (flatG xs)[i * 3 + j]? = (encG xs[i])[j]?
  | s :: r, 0, j, _, hj => by
    show (encG s ++ flatG r)[0 * 3 + j]? = _
    rw [List.getElem?_append_left (by simp only [encG, List.length_cons, List.length_nil]; omega)]
    simp
  | s :: r, i + 1, j, hi, hj => by
    show (encG s ++ flatG r)[(i + 1) * 3 + j]? = _
    rw [List.getElem?_append_right (by simp only [encG, List.length_cons, List.length_nil]; omega)]
    have e : (i + 1) * 3 + j - (encG s).length = i * 3 + j := by simp only [encG, List.length_cons, List.length_nil]; omega
    rw [e]
    exact flatG_get r i j (by simpa using hi) hj
theorem flatG_set : ∀ (xs : List Gl) (i : Nat) (s : Gl), i < xs.length → ((((flatG xs).set (i * 3) (.string s.met)).set (i * 3 + 1) (.int .i64 s.tar)).set (i * 3 + 2) (.int .i64 s.tol)) = flatG (xs.set i s)
  | x :: r, 0, s, _ => by simp [flatG, encG]
  | x :: r, i + 1, s, hi => by
    have ih := flatG_set r i s (by simpa using hi)
    have e : (i + 1) * 3 = i * 3 + 3 := by omega
    show (((encG x ++ flatG r).set _ _).set _ _).set _ _ = encG x ++ flatG (r.set i s)
    rw [← ih, e]
    simp [encG]
theorem flatG_append (xs ys : List Gl) : flatG (xs ++ ys) = flatG xs ++ flatG ys := by simp [flatG]

/-- v is a slice of samples in a block that is new (not below B) and may be written. -/
def OwnG (w : World) (B : Nat) (v : Value) (xs : List Gl) : Prop := w.ownsRow B 113 3 v xs.length (flatG xs)
theorem OwnG.at3 {w : World} {B g cap : Nat} {xs : List Gl} (h : OwnG w B (.slice (some ⟨g, 0, none⟩) xs.length cap) xs) (i : Nat) (hi : i < xs.length) : GAt w g (0 + i * 3) xs[i] := by
  have hc : ∀ j, j < 3 → w.cell? ⟨g, i * 3 + j, none⟩ = (encG xs[i])[j]? := fun j hj => by
    have := World.ownsRow.cellAt h (i * 3 + j) (by omega)
    rw [this, flatG_get xs i j hi hj]
  rw [Nat.zero_add]
  exact ⟨hc 0 (by omega), hc 1 (by omega), hc 2 (by omega)⟩
theorem OwnG.smps {w : World} {B : Nat} {v : Value} {xs : List Gl} (h : OwnG w B v xs) : ∃ a cap, v = .slice a xs.length cap ∧ Gls w a xs := by
  have h' : w.ownsRow B 113 3 v xs.length (flatG xs) := h
  rcases h.2 with ⟨hv, h0⟩ | ⟨g, cap, cur, hv, hg, hh, _⟩
  · exact ⟨none, 0, by rw [hv, h0], .inl (List.length_eq_zero_iff.1 h0)⟩
  · subst hv
    exact ⟨_, cap, rfl, .inr ⟨g, 0, rfl, (Array.getElem?_eq_some_iff.1 hh).1, fun i hi => OwnG.at3 h' i hi⟩⟩
theorem OwnG.new {w : World} {B g n cap : Nat} {xs : List Gl} (h : OwnG w B (.slice (some ⟨g, 0, none⟩) n cap) xs) : B ≤ g ∧ g < w.heap.size := World.ownsRow.lt h g rfl

theorem OwnG.kept {w w' : World} {B : Nat} {v : Value} {xs : List Gl} (h : OwnG w B v xs) (hb : Below w.heap.size w w') : OwnG w' B v xs := by
  obtain ⟨h1, h2⟩ := h
  refine ⟨h1, ?_⟩
  rcases h2 with h2 | ⟨g, cap, cur, hv, hg, hh, r⟩
  · exact .inl h2
  · exact .inr ⟨g, cap, cur, hv, hg, by rw [hb.block g (Array.getElem?_eq_some_iff.1 hh).1]; exact hh, r⟩
theorem OwnG.spot {w : World} {B g n cap : Nat} {xs : List Gl} (h : OwnG w B (.slice (some ⟨g, 0, none⟩) n cap) xs) (hn : n = xs.length) (k : Nat) (hk : k < xs.length) : GAt w g (k * 3) xs[k] ∧ ∀ j, w.frozen? ⟨g, j, none⟩ = false := by
  subst hn
  have := h.at3 k hk
  rw [Nat.zero_add] at this
  exact ⟨this, fun j => World.ownsRow.frozenAt h j⟩
/-- The four stores of a sample. -/
theorem OwnG.put {w : World} {B g n cap : Nat} {xs : List Gl} (h : OwnG w B (.slice (some ⟨g, 0, none⟩) n cap) xs) (hn : n = xs.length) (k : Nat) (hk : k < xs.length) (s : Gl) :
    OwnG (((w.setCell ⟨g, k * 3, none⟩ (.string s.met)).setCell ⟨g, k * 3 + 1, none⟩ (.int .i64 s.tar)).setCell ⟨g, k * 3 + 2, none⟩ (.int .i64 s.tol)) B (.slice (some ⟨g, 0, none⟩) n cap) (xs.set k s) := by
  subst hn
  have h1 := (World.ownsRow.stored h (k * 3) (.string s.met)).1
  have h2 := (World.ownsRow.stored h1 (k * 3 + 1) (.int .i64 s.tar)).1
  have h3 := (World.ownsRow.stored h2 (k * 3 + 2) (.int .i64 s.tol)).1
  rw [flatG_set xs k s hk] at h3
  unfold OwnG
  rw [List.length_set]
  exact h3
/-! ### laws.toSampleS: a copy. -/
def zeroG : Gl := ⟨⟨#[]⟩, 0, 0⟩
theorem info_gl : (Tryz.prog.info? 113).map (fun i => (i.zero, i.size, i.bytes)) = some (some (glV zeroG), 3, 32) := by kernel_rfl
theorem cellsG_made (n : Nat) : (madeCells (glV zeroG).cells (n * 3)).toList = flatG (List.replicate n zeroG) := by
  apply List.ext_getElem?
  intro j
  by_cases hj : j < n * 3
  · have hl : j < (madeCells (glV zeroG).cells (n * 3)).toList.length := by simpa [size_madeCells] using hj
    have e : j = j / 3 * 3 + j % 3 := by omega
    rw [e, flatG_get _ _ _ (by simp; omega) (by omega), ← e]
    have hj4 : j % 3 < 3 := by omega
    simp only [madeCells, glV, Value.cells]
    simp [hj, encG, zeroG]
    rcases (by omega : j % 3 = 0 ∨ j % 3 = 1 ∨ j % 3 = 2) with h | h | h <;> simp [h]
  · rw [List.getElem?_eq_none (by simp [size_madeCells]; omega), List.getElem?_eq_none (by rw [flatG_len]; simp; omega)]

def fillG (xs : List Gl) (k : Nat) : List Gl := xs.take k ++ List.replicate (xs.length - k) zeroG
theorem fillG_len (xs : List Gl) (k : Nat) (hk : k ≤ xs.length) : (fillG xs k).length = xs.length := by unfold fillG; simp; omega
theorem fillG_set (xs : List Gl) (k : Nat) (hk : k < xs.length) : (fillG xs k).set k xs[k] = fillG xs (k + 1) := by
  unfold fillG
  have e : xs.length - k = (xs.length - (k + 1)) + 1 := by omega
  have e2 : k - (xs.take k).length = 0 := by simp; omega
  rw [List.set_append, if_neg (by simp; omega), e, List.replicate_succ, e2, List.set_cons_zero, List.take_succ_eq_append_getElem hk, List.append_assoc]
  rfl
theorem fillG_all (xs : List Gl) : fillG xs xs.length = xs := by unfold fillG; simp
theorem fillG_none (xs : List Gl) : fillG xs 0 = List.replicate xs.length zeroG := by unfold fillG; simp

set_option maxHeartbeats 1000000 in
theorem to_goals (xs : List Gl) (a : Option Addr) (cap : Nat) (w : World) (h : Gls w a xs) (hm : xs.length ≤ 1048576) :
    Calls Tryz.prog 70 #[.slice a xs.length cap] w fun e w' => ∃ g, e = .returned (.slice (some ⟨g, 0, none⟩) xs.length xs.length) ∧ OwnG w' w.heap.size (.slice (some ⟨g, 0, none⟩) xs.length xs.length) xs ∧ Below w.heap.size w w' := by
  obtain ⟨b, off, ha, hb, hcell⟩ := h.cells
  have hmk : ∀ w : World, (Instr.makeSlice 41 (.int .i64 (xs.length : Int)) (.int .i64 (xs.length : Int))).run Tryz.prog w = .ok (.slice (some ⟨w.heap.size, 0, none⟩) xs.length xs.length) (w.alloc (.cells (madeCells (glV zeroG).cells (xs.length * 3)) 113)) := by
    obtain ⟨i, hi, hzz⟩ := Option.map_eq_some_iff.1 info_gl
    simp only [Prod.mk.injEq] at hzz
    obtain ⟨hz, hs, hby⟩ := hzz
    have := fun w : World => run_make (P := Tryz.prog) w 41 113 i (glV zeroG) Tryz.underlying41 hi hz .i64 .i64 (xs.length : Int) (xs.length : Int) (by omega) (by omega) (by rw [hby]; omega) (by omega)
    intro w
    rw [this w, hs]
    simp
  have hmade : OwnG (w.alloc (.cells (madeCells (glV zeroG).cells (xs.length * 3)) 113)) w.heap.size (.slice (some ⟨w.heap.size, 0, none⟩) xs.length xs.length) (fillG xs 0) := by
    unfold OwnG
    rw [fillG_len xs 0 (by omega), fillG_none, ← cellsG_made]
    exact World.ownsRow_lit (e := 113) (size := 3) (base := w.heap.size) w (madeCells (glV zeroG).cells (xs.length * 3)) xs.length (Nat.le_refl _) (by unfold maxLen; omega) (by rw [size_madeCells])
  have hbel : Below w.heap.size w (w.alloc (.cells (madeCells (glV zeroG).cells (xs.length * 3)) 113)) := (Below.refl _ _).alloc (Nat.le_refl _) _
  have Hm := Lib.hid hmade
  have Hc := Lib.hid hcell
  have Ha := Lib.hid ha
  have Hb := Lib.hid hb
  clear hmade hcell ha hb h
  generalize hM : madeCells (glV zeroG).cells (xs.length * 3) = M at hmk hbel Hm
  go_enter Tryz.func70, Tryz.ntmps70
  go_wp2
  go_loopw [4] (fun i wr => ∃ k : Nat, k ≤ xs.length ∧ i = .int .i64 k ∧ OwnG wr w.heap.size (.slice (some ⟨w.heap.size, 0, none⟩) xs.length xs.length) (fillG xs k) ∧ Below w.heap.size w wr)
    (fun i _ => xs.length - (intOf i).toNat)
  case atStart => exact ⟨0, Nat.zero_le _, rfl, Hm.out, hbel⟩
  case round =>
    clear hmk hbel
    obtain ⟨k, hk, rfl, hown, hbw⟩ := hrel
    by_cases hlt : k < xs.length
    · obtain rfl := Ha.out (by omega)
      obtain ⟨q0, q1, q2⟩ := (Hc.out k hlt).kept hbw (Hb.out (by omega))
      have HB := Lib.hid hbw
      have HO := Lib.hid hown
      clear hbw hown
      have hxl := fillG_len xs k hk
      go_wp2_with (go_at_call 113; refine (to_goal xs[k] _).mono ?_; unfold glV; rintro e w2 ⟨rfl, hb2⟩; obtain ⟨⟨p0, p1, p2⟩, hfr⟩ := (HO.out.kept hb2).spot hxl.symm k (by omega); have f0 := hfr (k * 3); have f1 := hfr (k * 3 + 1); have f2 := hfr (k * 3 + 2); clear hfr)
      have HO2 := Lib.hid ((HO.out.kept hb2).put hxl.symm k (by omega) xs[k])
      have HB2 := Lib.hid ((((HB.out.trans (hb2.mono HB.out.size)).setCell (p := ⟨w.heap.size, k * 3, none⟩) (Nat.le_refl w.heap.size) (.string xs[k].met)).setCell (p := ⟨w.heap.size, k * 3 + 1, none⟩) (Nat.le_refl w.heap.size) (.int .i64 xs[k].tar)).setCell (p := ⟨w.heap.size, k * 3 + 2, none⟩) (Nat.le_refl w.heap.size) (.int .i64 xs[k].tol))
      have hso := fillG_set xs k hlt
      go_roundw
      case rel => exact ⟨k + 1, by omega, by go_num, by rw [← hso]; exact HO2.out, HB2.out⟩
      case measure => simp [intOf]; omega
    · obtain rfl : k = xs.length := by omega
      rw [fillG_all] at hown
      have HO := Lib.hid hown
      have HB := Lib.hid hbw
      clear hown hbw
      go_wp2
      go_ret
      exact ⟨w.heap.size, rfl, HO.out, HB.out⟩

/-! ### laws.eqSample, laws.eqSampleS at equals. -/
theorem GAt.grown {w : World} {b o : Nat} {s : Gl} (h : GAt w b o s) (hb : b < w.heap.size) :
    (∀ n os, (Go.Sort.grow (w.drewN n) os).cell? ⟨b, o, none⟩ = some (.string s.met)) ∧ (∀ n os, (Go.Sort.grow (w.drewN n) os).cell? ⟨b, o + 1, none⟩ = some (.int .i64 s.tar)) ∧ (∀ n os, (Go.Sort.grow (w.drewN n) os).cell? ⟨b, o + 2, none⟩ = some (.int .i64 s.tol)) :=
  ⟨fun n os => cell_grown hb h.1 n os, fun n os => cell_grown hb h.2.1 n os, fun n os => cell_grown hb h.2.2 n os⟩
theorem eq_goal_g (p : Gl) (w : World) :
    Calls Tryz.prog 128 #[glV p, glV p] w fun e w' => e = .returned (.bool true) ∧ ∃ q os', w' = Go.Sort.grow (w.drewN q) os' := by
  unfold glV
  go_enter Tryz.func128, Tryz.ntmps128
  go_wp2
  go_ret
  exact ⟨rfl, 0, _, grown2 _ _ _⟩
theorem eq_goals (xs : List Gl) (a a' : Option Addr) (cap cap' : Nat) (w : World) (h : Gls w a xs) (h' : Gls w a' xs) (hm : xs.length ≤ 1048576) :
    Calls Tryz.prog 94 #[.slice a xs.length cap, .slice a' xs.length cap'] w fun e w' => e = .returned (.bool true) ∧ Below w.heap.size w w' := by
  obtain ⟨b, off, ha, hb, hcell⟩ := h.cells
  obtain ⟨b', off', ha', hb', hcell'⟩ := h'.cells
  have Hc := Lib.hid hcell
  have Ha := Lib.hid ha
  have Hb := Lib.hid hb
  have Hc' := Lib.hid hcell'
  have Ha' := Lib.hid ha'
  have Hb' := Lib.hid hb'
  clear hcell ha hb hcell' ha' hb' h h'
  go_enter Tryz.func94, Tryz.ntmps94
  go_wp2
  go_loopw [5] (fun i wr => ∃ k : Nat, k ≤ xs.length ∧ i = .int .i64 k ∧ Hid (Below w.heap.size w wr)) (fun i _ => xs.length - (intOf i).toNat)
  case atStart => exact ⟨0, Nat.zero_le _, rfl, Below.refl _ _⟩
  case round =>
    obtain ⟨k, hk, rfl, HB⟩ := hrel
    by_cases hlt : k < xs.length
    · obtain rfl := Ha.out (by omega)
      obtain rfl := Ha'.out (by omega)
      have hbb := Nat.lt_of_lt_of_le (Hb.out (by omega)) HB.out.size
      have hbb' := Nat.lt_of_lt_of_le (Hb'.out (by omega)) HB.out.size
      obtain ⟨q0, q1, q2⟩ := ((Hc.out k hlt).kept HB.out (Hb.out (by omega))).grown hbb
      obtain ⟨p0, p1, p2⟩ := ((Hc'.out k hlt).kept HB.out (Hb'.out (by omega))).grown hbb'
      clear hbb hbb'
      have hcall : ∀ n' os', Calls Tryz.prog 128 #[.agg #[.string xs[k].met, .int .i64 xs[k].tar, .int .i64 xs[k].tol], .agg #[.string xs[k].met, .int .i64 xs[k].tar, .int .i64 xs[k].tol]] (Go.Sort.grow (wr.drewN n') os') _ := fun n' os' => eq_goal_g xs[k] _
      have mixed : Tryz.prog.follows .mixedOrders = true := by kernel_rfl
      go_wp2_with fail
      go_quiet_grown (first | (go_at_call 128; refine Calls.grown_of (hcall _ _)))
      have HB2 := Lib.hid (below_grow HB.out HB.out.size nq osq)
      clear hcall q0 q1 q2 p0 p1 p2
      go_wp2
      go_roundw
      case rel => exact ⟨k + 1, by omega, by go_num, HB2⟩
      case measure => simp [intOf]; omega
    · obtain rfl : k = xs.length := by omega
      go_wp2
      go_ret
      exact ⟨rfl, HB.out⟩
theorem gls_of {w : World} {B g : Nat} {xs : List Gl} (h : OwnG w B (.slice (some ⟨g, 0, none⟩) xs.length xs.length) xs) : Gls w (some ⟨g, 0, none⟩) xs := by
  obtain ⟨a, cap, hv, hs⟩ := h.smps
  cases hv
  exact hs
end Go.Proofs.YtgmdfkmmbcpikaaGreat.Gls
