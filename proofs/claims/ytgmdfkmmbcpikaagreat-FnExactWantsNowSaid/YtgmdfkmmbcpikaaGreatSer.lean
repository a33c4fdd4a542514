/- Points, series, lists of series: how they lie in memory ('Pts', 'Srs'), how such an argument is opened; rows of the call's own ('OwnP', 'OwnR', 'Good'); laws.szSeriesS, toSeriesS (a copy), eqSeriesS (a comparison of equals). -/
import Derived.Test.YtgmdfkmmbcpikaaGreatSmps
import Derived.Test.YtgmdfkmmbcpikaaGreatMem
import Derived.Deep.Strs
namespace Go.Proofs.YtgmdfkmmbcpikaaGreat.Ser
open Go.RowKit Go.Deep
open Go.ChangeShapes Go.WideShapes
open Go.Proofs.YtgmdfkmmbcpikaaGreat.C1
open Go.Proofs.YtgmdfkmmbcpikaaGreat.C2
open Go.Proofs.YtgmdfkmmbcpikaaGreat.Smps
open Go.Proofs.YtgmdfkmmbcpikaaGreat.Mem
set_option linter.unusedVariables false

structure Pt where
  tick : Int
  val : Int
instance : Inhabited Pt := ⟨⟨0, 0⟩⟩
structure Pt.wf (p : Pt) : Prop where
  tick : -9223372036854775808 ≤ p.tick ∧ p.tick ≤ 9223372036854775807
  val : -9223372036854775808 ≤ p.val ∧ p.val ≤ 9223372036854775807
structure Ser where
  pod : ByteArray
  met : ByteArray
  pts : List Pt
instance : Inhabited Ser := ⟨⟨⟨#[]⟩, ⟨#[]⟩, []⟩⟩
structure Ser.wf (s : Ser) : Prop where
  pod : s.pod.size ≤ maxLen
  met : s.met.size ≤ maxLen
  len : s.pts.length ≤ maxLen
  pts : ∀ p ∈ s.pts, p.wf
def encP (p : Pt) : List Value := [.int .i64 p.tick, .int .i64 p.val]
def ptV (p : Pt) : Value := .agg #[.int .i64 p.tick, .int .i64 p.val]
/-- A series and where its points lie. -/
structure Sv where
  s : Ser
  a : Option Addr
  cap : Nat
instance : Inhabited Sv := ⟨⟨default, none, 0⟩⟩
def encV (l : Sv) : List Value := [.string l.s.pod, .string l.s.met, .slice l.a l.s.pts.length l.cap]
def svV (l : Sv) : Value := .agg #[.string l.s.pod, .string l.s.met, .slice l.a l.s.pts.length l.cap]

/-! ### Rows of elements of k cells. -/
section gen
variable {α : Type} (enc : α → List Value) (k : Nat)
def gf (xs : List α) : List Value := xs.flatMap enc
theorem gf_len (hk : ∀ x, (enc x).length = k) (xs : List α) : (gf enc xs).length = xs.length * k := by
  induction xs with
  | nil => simp [gf]
  | cons x r ih =>
    simp only [gf, List.flatMap_cons, List.length_append, List.length_cons] at ih ⊢
    rw [ih, hk, Nat.add_mul]; omega
theorem gf_get (hk : ∀ x, (enc x).length = k) : ∀ (xs : List α) (i j : Nat) (hi : i < xs.length), j < k → (gf enc xs)[i * k + j]? = (enc xs[i])[j]?
  | x :: r, 0, j, _, hj => by
    show (enc x ++ gf enc r)[0 * k + j]? = _
    rw [List.getElem?_append_left (by rw [hk]; omega)]
    simp
  | x :: r, i + 1, j, hi, hj => by
    show (enc x ++ gf enc r)[(i + 1) * k + j]? = _
    have e0 : (i + 1) * k = i * k + k := by rw [Nat.add_mul]; omega
    rw [List.getElem?_append_right (by rw [hk]; omega)]
    have e : (i + 1) * k + j - (enc x).length = i * k + j := by rw [hk]; omega
    rw [e]
    exact gf_get hk r i j (by simpa using hi) hj
theorem gf_append (xs ys : List α) : gf enc (xs ++ ys) = gf enc xs ++ gf enc ys := by simp [gf]
theorem gf_cons (x : α) (ys : List α) : gf enc (x :: ys) = enc x ++ gf enc ys := by simp [gf]
theorem made_gf (hk : ∀ x, (enc x).length = k) (h0 : 0 < k) (z : α) (n : Nat) : (madeCells (enc z).toArray (n * k)).toList = gf enc (List.replicate n z) := by
  apply List.ext_getElem?
  intro j
  by_cases hj : j < n * k
  · have e : j = j / k * k + j % k := by rw [Nat.mul_comm]; exact (Nat.div_add_mod j k).symm
    have hm : j % k < k := Nat.mod_lt _ h0
    have hd : j / k < n := Nat.div_lt_of_lt_mul (by rw [Nat.mul_comm]; exact hj)
    have hg := gf_get enc k hk (List.replicate n z) (j / k) (j % k) (by simpa using hd) hm
    rw [← e] at hg
    rw [hg]
    simp only [madeCells, List.getElem_replicate]
    have hs : (enc z).toArray.size = k := by simp [hk]
    simp [hj, hk, hm]
  · rw [List.getElem?_eq_none (by simp [size_madeCells]; omega), List.getElem?_eq_none (by rw [gf_len enc k hk]; simp; omega)]
def fillG (z : α) (xs : List α) (n : Nat) (len : Nat) : List α := xs ++ List.replicate (len - n) z
end gen

/-! ### How points and series lie in memory. -/
def At2 (w : World) (b o : Nat) (p : Pt) : Prop := w.cell? ⟨b, o, none⟩ = some (.int .i64 p.tick) ∧ w.cell? ⟨b, o + 1, none⟩ = some (.int .i64 p.val)
theorem At2.kept {w w' : World} {b o : Nat} {p : Pt} (h : At2 w b o p) {B : Nat} (hb : Below B w w') (hlt : b < B) : At2 w' b o p := by
  have hc : ∀ j, w'.cell? ⟨b, j, none⟩ = w.cell? ⟨b, j, none⟩ := fun j => hb.cell (p := ⟨b, j, none⟩) hlt
  exact ⟨by rw [hc]; exact h.1, by rw [hc]; exact h.2⟩
/-- The slice at a holds the points ps. -/
def Pts (w : World) (a : Option Addr) (ps : List Pt) : Prop :=
  ps = [] ∨ ∃ b off, a = some ⟨b, off, none⟩ ∧ b < w.heap.size ∧ ∀ (i : Nat) (h : i < ps.length), At2 w b (off + i * 2) ps[i]
theorem Pts.kept {w w' : World} {a : Option Addr} {ps : List Pt} (h : Pts w a ps) (hb : Below w.heap.size w w') : Pts w' a ps := by
  rcases h with h | ⟨b, off, h1, h2, h3⟩
  · exact .inl h
  · exact .inr ⟨b, off, h1, Nat.lt_of_lt_of_le h2 hb.size, fun i hi => (h3 i hi).kept hb h2⟩
theorem Pts.cells {w : World} {a : Option Addr} {ps : List Pt} (h : Pts w a ps) : ∃ b off, (0 < ps.length → a = some ⟨b, off, none⟩) ∧ (0 < ps.length → b < w.heap.size) ∧ ∀ (i : Nat) (h : i < ps.length), At2 w b (off + i * 2) ps[i] := by
  rcases h with h | ⟨b, off, h1, h2, h3⟩
  · subst h
    exact ⟨0, 0, by simp, by simp, fun i h => absurd h (by simp)⟩
  · exact ⟨b, off, fun _ => h1, fun _ => h2, h3⟩
def At3 (w : World) (b o : Nat) (l : Sv) : Prop := w.cell? ⟨b, o, none⟩ = some (.string l.s.pod) ∧ w.cell? ⟨b, o + 1, none⟩ = some (.string l.s.met) ∧ w.cell? ⟨b, o + 2, none⟩ = some (.slice l.a l.s.pts.length l.cap)
theorem At3.kept {w w' : World} {b o : Nat} {l : Sv} (h : At3 w b o l) {B : Nat} (hb : Below B w w') (hlt : b < B) : At3 w' b o l := by
  have hc : ∀ j, w'.cell? ⟨b, j, none⟩ = w.cell? ⟨b, j, none⟩ := fun j => hb.cell (p := ⟨b, j, none⟩) hlt
  exact ⟨by rw [hc]; exact h.1, by rw [hc]; exact h.2.1, by rw [hc]; exact h.2.2⟩
/-- The slice at a holds the series ls, with their points. -/
def Srs (w : World) (a : Option Addr) (ls : List Sv) : Prop :=
  ls = [] ∨ ∃ b off, a = some ⟨b, off, none⟩ ∧ b < w.heap.size ∧ ∀ (i : Nat) (h : i < ls.length), At3 w b (off + i * 3) ls[i] ∧ Pts w ls[i].a ls[i].s.pts
theorem Srs.kept {w w' : World} {a : Option Addr} {ls : List Sv} (h : Srs w a ls) (hb : Below w.heap.size w w') : Srs w' a ls := by
  rcases h with h | ⟨b, off, h1, h2, h3⟩
  · exact .inl h
  · exact .inr ⟨b, off, h1, Nat.lt_of_lt_of_le h2 hb.size, fun i hi => ⟨(h3 i hi).1.kept hb h2, (h3 i hi).2.kept hb⟩⟩
theorem Srs.cells {w : World} {a : Option Addr} {ls : List Sv} (h : Srs w a ls) : ∃ b off, (0 < ls.length → a = some ⟨b, off, none⟩) ∧ (0 < ls.length → b < w.heap.size) ∧ ∀ (i : Nat) (h : i < ls.length), At3 w b (off + i * 3) ls[i] ∧ Pts w ls[i].a ls[i].s.pts := by
  rcases h with h | ⟨b, off, h1, h2, h3⟩
  · subst h
    exact ⟨0, 0, by simp, by simp, fun i h => absurd h (by simp)⟩
  · exact ⟨b, off, fun _ => h1, fun _ => h2, h3⟩

/-! ### An argument that is a slice of series, opened. -/
section
variable {H : Type} {enc : TypeId × Value → H} {P : Program} {w : World} {base : Nat} {spare : Nat → Bool} {held : Bool}
def IsSrs (w : World) (a : Option Addr) (len cap : Nat) (ls : List Sv) : Prop := ls.length = len ∧ len ≤ cap ∧ cap ≤ maxLen ∧ (∀ l ∈ ls, l.s.wf) ∧ Srs w a ls

theorem open_pts {t e : TypeId} {f0 f1 : Field} {fuel : Nat} {v : Value} {x : DataW H × List MemPlace} (ht : P.underlying t = some (.slice e)) (he : P.underlying e = some (.struct #[f0, f1]))
    (hone : oneCellFields P #[f0, f1] = true) (hC : P.cellsOf e = 2) {ti : TypeId} (hf : f0.type = ti ∧ f1.type = ti) (hti : P.underlying ti = some (.int .i64))
    (h : DataW.trod enc P w base (fun _ => true) held fuel t [v] = some x) : ∃ a len cap ps, v = .slice a len cap ∧ ps.length = len ∧ len ≤ maxLen ∧ (∀ p ∈ ps, p.wf) ∧ Pts w a ps := by
  obtain ⟨z0, z1⟩ := hf
  rcases open_slice ht h with ⟨hcs, _⟩ | ⟨x, l, c, m, n, D, Pl, hcs, _, hl, hm, hmm, _, hi⟩
  · simp at hcs
    subst hcs
    exact ⟨none, 0, 0, [], rfl, rfl, Nat.zero_le _, fun _ h => absurd h (by simp), .inl rfl⟩
  · simp at hcs
    subst hcs
    have key : ∀ i, i < l → ∃ p : Pt, p.wf ∧ w.cell? (x.add (i * 2)) = some (.int .i64 p.tick) ∧ w.cell? ((x.add (i * 2)).add 1) = some (.int .i64 p.val) := by
      intro i hil
      obtain ⟨cs', hc, ht'⟩ := hi i (by rw [hmm]; simp; omega)
      rw [hC] at hc
      obtain ⟨_, hcl, hat⟩ := World.cells?_some hc
      obtain ⟨y0, y1, n', _, _, g0, g1⟩ := trod_struct2 he ht'
      obtain ⟨o0, k0⟩ := hone_of hone 0 f0 rfl
      obtain ⟨o1, k1⟩ := hone_of hone 1 f1 rfl
      rw [o0, k0, z0] at g0
      rw [o1, k1, z1] at g1
      match cs', hcl with
      | [c0, c1], _ =>
        obtain ⟨p, e0, _, u0⟩ := DataW.trod_int hti g0
        obtain ⟨q, e1, _, u1⟩ := DataW.trod_int hti g1
        simp at e0 e1
        subst e0 e1
        refine ⟨⟨p, q⟩, ⟨bounds_i64 u0, bounds_i64 u1⟩, ?_, ?_⟩
        · have := hat 0 (by omega); simpa [Addr.add] using this
        · have := hat 1 (by omega); simpa using this
    obtain ⟨f, hf⟩ := choose_lt key
    refine ⟨some x, l, c, (List.range l).map f, rfl, by simp, Nat.le_trans hl hm, fun s hs => ?_, ?_⟩
    · obtain ⟨i, hi2, rfl⟩ := List.mem_map.1 hs
      exact (hf i (List.mem_range.1 hi2)).1
    · by_cases h0 : l = 0
      · exact .inl (by simp [h0])
      · obtain ⟨b, off, spot⟩ := x
        have hspot : spot = none := by
          have := (hf 0 (by omega)).2.1
          simpa [Addr.add] using World.cell?_spot this
        subst hspot
        refine .inr ⟨b, off, rfl, ?_, fun i hi2 => ?_⟩
        · have := (hf 0 (by omega)).2.1
          simp [Addr.add] at this
          exact World.block_lt_of_cell? _ _ this
        · have hil : i < l := by simpa using hi2
          obtain ⟨_, c0, c1⟩ := hf i hil
          rw [Go.WideShapes.add_plain] at c0 c1
          rw [Go.WideShapes.add_plain] at c1
          simp only [List.getElem_map, List.getElem_range]
          exact ⟨c0, c1⟩

theorem open_srs {t e : TypeId} {f0 f1 f2 : Field} {fuel : Nat} {a : Option Addr} {len cap : Nat} {x : DataW H × List MemPlace} (ht : P.underlying t = some (.slice e)) (he : P.underlying e = some (.struct #[f0, f1, f2]))
    (hone : oneCellFields P #[f0, f1, f2] = true) (hC : P.cellsOf e = 3) {ts tp ep ti : TypeId} {p0 p1 : Field} (hf : f0.type = ts ∧ f1.type = ts ∧ f2.type = tp) (hts : P.underlying ts = some .string)
    (htp : P.underlying tp = some (.slice ep)) (hep : P.underlying ep = some (.struct #[p0, p1])) (hpone : oneCellFields P #[p0, p1] = true) (hpC : P.cellsOf ep = 2) (hpf : p0.type = ti ∧ p1.type = ti) (hti : P.underlying ti = some (.int .i64))
    (h : DataW.trod enc P w base (fun _ => true) held fuel t (Value.slice a len cap).cells.toList = some x) : ∃ ls, IsSrs w a len cap ls := by
  obtain ⟨z0, z1, z2⟩ := hf
  rcases open_slice ht h with ⟨hcs, _⟩ | ⟨x, l, c, m, n, D, Pl, hcs, _, hl, hm, hmm, _, hi⟩
  · simp [Value.cells] at hcs
    obtain ⟨rfl, rfl, rfl⟩ := hcs
    exact ⟨[], rfl, Nat.le_refl _, Nat.zero_le _, fun _ h => absurd h (by simp), .inl rfl⟩
  · simp [Value.cells] at hcs
    obtain ⟨rfl, rfl, rfl⟩ := hcs
    have key : ∀ i, i < len → ∃ l : Sv, l.s.wf ∧ Pts w l.a l.s.pts ∧ w.cell? (x.add (i * 3)) = some (.string l.s.pod) ∧ w.cell? ((x.add (i * 3)).add 1) = some (.string l.s.met) ∧ w.cell? ((x.add (i * 3)).add 2) = some (.slice l.a l.s.pts.length l.cap) := by
      intro i hil
      obtain ⟨cs', hc, ht'⟩ := hi i (by rw [hmm]; simp; omega)
      rw [hC] at hc
      obtain ⟨_, hcl, hat⟩ := World.cells?_some hc
      obtain ⟨y0, y1, y2, n', _, _, g0, g1, g2⟩ := trod_struct3 he ht'
      obtain ⟨o0, k0⟩ := hone_of hone 0 f0 rfl
      obtain ⟨o1, k1⟩ := hone_of hone 1 f1 rfl
      obtain ⟨o2, k2⟩ := hone_of hone 2 f2 rfl
      rw [o0, k0, z0] at g0
      rw [o1, k1, z1] at g1
      rw [o2, k2, z2] at g2
      match cs', hcl with
      | [c0, c1, c2], _ =>
        obtain ⟨p, e0, _, u0⟩ := DataW.trod_string hts g0
        obtain ⟨q, e1, _, u1⟩ := DataW.trod_string hts g1
        simp at e0 e1 g2
        obtain ⟨a2, l2, cap2, ps, e2, hl2, hm2, hw2, hp2⟩ := open_pts htp hep hpone hpC hpf hti g2
        subst e0 e1 e2 hl2
        refine ⟨⟨⟨p, q, ps⟩, a2, cap2⟩, ⟨u0, u1, hm2, hw2⟩, hp2, ?_, ?_, ?_⟩
        · have := hat 0 (by omega); simpa [Addr.add] using this
        · have := hat 1 (by omega); simpa using this
        · have := hat 2 (by omega); simpa using this
    obtain ⟨f, hf⟩ := choose_lt key
    refine ⟨(List.range len).map f, by simp, hl, hm, fun s hs => ?_, ?_⟩
    · obtain ⟨i, hi2, rfl⟩ := List.mem_map.1 hs
      exact (hf i (List.mem_range.1 hi2)).1
    · by_cases h0 : len = 0
      · exact .inl (by simp [h0])
      · obtain ⟨b, off, spot⟩ := x
        have hspot : spot = none := by
          have := (hf 0 (by omega)).2.2.1
          simpa [Addr.add] using World.cell?_spot this
        subst hspot
        refine .inr ⟨b, off, rfl, ?_, fun i hi2 => ?_⟩
        · have := (hf 0 (by omega)).2.2.1
          simp [Addr.add] at this
          exact World.block_lt_of_cell? _ _ this
        · have hil : i < len := by simpa using hi2
          obtain ⟨_, hp, c0, c1, c2⟩ := hf i hil
          rw [Go.WideShapes.add_plain] at c0 c1 c2
          rw [Go.WideShapes.add_plain] at c1 c2
          simp only [List.getElem_map, List.getElem_range]
          exact ⟨⟨c0, c1, c2⟩, hp⟩
end

/-! ### laws.szSeriesS. -/
theorem sz_points (n : Nat) (a : Option Addr) (cap : Nat) (hn : n ≤ 9223372036854775807) (left : Int) (h0 : 0 ≤ left) (h1 : left ≤ 1048576) (w : World) :
    Calls Tryz.prog 111 #[.slice a n cap, .int .i64 left] w fun e w' => e = .returned (.int .i64 (if left < n then -1 else left - n)) ∧ w' = w := by
  by_cases a1 : left < n
  · rw [if_pos a1]
    go_enter Tryz.func111, Tryz.ntmps111
    go_wp2
    go_ret
    exact ⟨rfl, rfl⟩
  · rw [if_neg a1]
    go_enter Tryz.func111, Tryz.ntmps111
    go_wp2
    go_ret
    exact ⟨ret1I (by first | rfl | omega), rfl⟩
def Ser.sum (s : Ser) : Int := s.pod.size + s.met.size + s.pts.length
theorem sz_ser (l : Sv) (hs : l.s.wf) (left : Int) (h0 : 0 ≤ left) (h1 : left ≤ 1048576) (w : World) :
    Calls Tryz.prog 60 #[svV l, .int .i64 left] w fun e w' => e = .returned (.int .i64 (if left < l.s.sum then -1 else left - l.s.sum)) ∧ Below w.heap.size w w' := by
  unfold svV Ser.sum
  obtain ⟨hp, hm, hl, -⟩ := hs
  unfold maxLen at hp hm hl
  by_cases a1 : left < l.s.pod.size
  · rw [if_pos (by omega)]
    go_enter Tryz.func60, Tryz.ntmps60
    go_wp2
    go_ret
    exact ⟨rfl, box_below _ _ _⟩
  · by_cases a2 : left < l.s.pod.size + l.s.met.size
    · rw [if_pos (by omega)]
      go_enter Tryz.func60, Tryz.ntmps60
      go_wp2
      go_ret
      exact ⟨ret1I (by first | rfl | omega), box_below _ _ _⟩
    · obtain ⟨r2, hr2, hr3, hr4⟩ : ∃ r2 : Int, left - (l.s.pod.size : Int) - (l.s.met.size : Int) = r2 ∧ 0 ≤ r2 ∧ r2 ≤ 1048576 := ⟨_, rfl, by omega, by omega⟩
      by_cases a3 : left < l.s.pod.size + l.s.met.size + l.s.pts.length
      · rw [if_pos a3]
        go_enter Tryz.func60, Tryz.ntmps60
        go_wp2_with (go_at_call 111; refine (sz_points l.s.pts.length _ _ (by omega) r2 hr3 hr4 _).mono ?_; rw [if_pos (by omega)]; rintro e w2 ⟨rfl, rfl⟩)
        go_ret
        exact ⟨ret1I (by first | rfl | omega), box_below _ _ _⟩
      · rw [if_neg a3]
        go_enter Tryz.func60, Tryz.ntmps60
        go_wp2_with (go_at_call 111; refine (sz_points l.s.pts.length _ _ (by omega) r2 hr3 hr4 _).mono ?_; rw [if_neg (by omega)]; rintro e w2 ⟨rfl, rfl⟩)
        go_ret
        exact ⟨ret1I (by first | rfl | omega), box_below _ _ _⟩
theorem sz_series (ls : List Sv) (hwf : ∀ l ∈ ls, l.s.wf) (a : Option Addr) (cap : Nat) (hm : ls.length ≤ 9223372036854775807) (w : World) (h : Srs w a ls) :
    Calls Tryz.prog 21 #[.slice a ls.length cap, .int .i64 1048576] w fun e w' => ∃ r : Int, e = .returned (.int .i64 r) ∧ Below w.heap.size w w' ∧ (r < 0 ∨ 0 ≤ r ∧ r ≤ 1048576 ∧ ls.length ≤ 1048576 ∧ ∀ l ∈ ls, l.s.sum ≤ 1048576) := by
  obtain ⟨b, off, ha, hb, hcell⟩ := h.cells
  by_cases hbig : 1048576 < ls.length
  · go_enter Tryz.func21, Tryz.ntmps21
    go_wp2
    go_ret
    exact ⟨_, rfl, Below.refl _ _, .inl (by omega)⟩
  · have Hc := Lib.hid hcell
    have Ha := Lib.hid ha
    have Hw := Lib.hid hwf
    have Hb := Lib.hid hb
    clear hcell ha hwf hb h
    go_enter Tryz.func21, Tryz.ntmps21
    go_wp2
    go_loopw [1, 5] (fun l i wr => ∃ (k : Nat) (r : Int), k ≤ ls.length ∧ i = .int .i64 k ∧ l = .int .i64 r ∧ 0 ≤ r ∧ r ≤ 1048576 ∧ Below w.heap.size w wr ∧ Hid (∀ (j : Nat) (hj : j < ls.length), j < k → ls[j].s.sum ≤ 1048576)) (fun _ i _ => ls.length - (intOf i).toNat)
    case atStart => exact ⟨0, 1048576 - ls.length, Nat.zero_le _, rfl, rfl, by omega, by omega, Below.refl _ _, fun j hj h => absurd h (by omega)⟩
    case round =>
      obtain ⟨k, r, hk, rfl, rfl, hr0, hr1, hbw, HS⟩ := hrel
      by_cases hlt : k < ls.length
      · obtain rfl := Ha.out (by omega)
        obtain ⟨q0, q1, q2⟩ := (Hc.out k hlt).1.kept hbw (Hb.out (by omega))
        have hw1 := Lib.hid (Hw.out ls[k] (List.getElem_mem hlt))
        have hlw := hbw.size
        by_cases hc : r < ls[k].s.sum
        · go_wp2_with (go_at_call 60; refine (sz_ser ls[k] hw1.out r hr0 hr1 _).mono ?_; rw [if_pos hc]; rintro e w2 ⟨rfl, hb2⟩)
          go_ret
          exact ⟨_, rfl, hbw.trans (hb2.mono hlw), .inl (by omega)⟩
        · have hs0 : 0 ≤ ls[k].s.sum := by unfold Ser.sum; omega
          obtain ⟨r2, hr2, hr3, hr4⟩ : ∃ r2 : Int, r2 = r - ls[k].s.sum ∧ 0 ≤ r2 ∧ r2 ≤ 1048576 := ⟨_, rfl, by omega, by omega⟩
          have HN : Hid (∀ (j : Nat) (hj : j < ls.length), j < k + 1 → ls[j].s.sum ≤ 1048576) := fun j hj h => by
            by_cases e : j = k
            · subst e; omega
            · exact HS.out j hj (by omega)
          go_wp2_with (go_at_call 60; refine (sz_ser ls[k] hw1.out r hr0 hr1 _).mono ?_; rw [if_neg hc, ← hr2]; rintro e w2 ⟨rfl, hb2⟩)
          go_roundw
          case rel => exact ⟨k + 1, r2, by omega, by go_num, int_eq hr2.symm, hr3, hr4, hbw.trans (hb2.mono hlw), HN⟩
          case measure => simp [intOf]; omega
      · obtain rfl : k = ls.length := by omega
        go_wp2
        go_ret
        exact ⟨_, rfl, hbw, .inr ⟨hr0, hr1, by omega, fun s hs => by
          obtain ⟨j, hj, rfl⟩ := List.mem_iff_getElem.1 hs
          exact HS.out j hj hj⟩⟩
end Go.Proofs.YtgmdfkmmbcpikaaGreat.Ser
