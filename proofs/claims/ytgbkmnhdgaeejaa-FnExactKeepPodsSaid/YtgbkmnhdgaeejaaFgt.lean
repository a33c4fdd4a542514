/- ForgetBefore: what it answers; the program's closure and slices.IndexFunc at it. -/
import Derived.Test.YtgbkmnhdgaeejaaCopyS
import Derived.Test.YtgbkmnhdgaeejaaShelf
namespace Go.Proofs.Ytgbkmnhdgaeejaa.Fgt
open Go.RowKit Go.Sort Go.BigFrame
open Go.Proofs.Ytgbkmnhdgaeejaa.C1
open Go.Proofs.Ytgbkmnhdgaeejaa.C2
open Go.Proofs.Ytgbkmnhdgaeejaa.Smps
open Go.Proofs.Ytgbkmnhdgaeejaa.Mem
open Go.Proofs.Ytgbkmnhdgaeejaa.Ser
open Go.Proofs.Ytgbkmnhdgaeejaa.Ser2
open Go.Proofs.Ytgbkmnhdgaeejaa.Sto
open Go.Proofs.Ytgbkmnhdgaeejaa.Asc
set_option linter.unusedVariables false

theorem idx_by {α : Type} [Inhabited α] (f : α → Bool) (x : α) : ∀ (l : List α) (i : Nat), (Lib.idxByFrom (fun _ y => f y) x l i = -1 ∧ ∀ (j : Nat) (h : j < l.length), f l[j] = false) ∨ ∃ (k : Nat) (hk : k < l.length), Lib.idxByFrom (fun _ y => f y) x l i = ((i + k : Nat) : Int) ∧ f l[k] = true ∧ ∀ (j : Nat) (h : j < l.length), j < k → f l[j] = false
  | [], _ => .inl ⟨rfl, fun j hj => absurd hj (Nat.not_lt_zero _)⟩
  | y :: r, i => by
    cases h : f y with
    | true => exact .inr ⟨0, by simp, by simp [Lib.idxByFrom, h], h, fun j _ hj => absurd hj (Nat.not_lt_zero _)⟩
    | false =>
      have e : Lib.idxByFrom (fun _ y => f y) x (y :: r) i = Lib.idxByFrom (fun _ y => f y) x r (i + 1) := by simp [Lib.idxByFrom, h]
      rcases idx_by f x r (i + 1) with ⟨h1, h2⟩ | ⟨k, hk, h1, h2, h3⟩
      · refine .inl ⟨by rw [e]; exact h1, fun j hj => ?_⟩
        match j, hj with
        | 0, _ => exact h
        | j + 1, hj => exact h2 j (by simpa using hj)
      · refine .inr ⟨k + 1, by simpa using hk, by rw [e, h1]; omega, h2, fun j hj hjk => ?_⟩
        match j, hj with
        | 0, _ => exact h
        | j + 1, hj => exact h3 j (by simpa using hj) (by omega)
/-- The points of a series from a moment on. -/
def since (t : Int) (ps : List Pt) : List Pt := ps.filter fun p => decide (t ≤ p.tick)
def cutS (t : Int) (s : Ser) : Ser := ⟨s.pod, s.met, since t s.pts⟩
def forgetV (t : Int) (ss : List Ser) : List Ser := (ss.map (cutS t)).filter fun s => !s.pts.isEmpty
theorem forget_snoc_no (t : Int) (ss : List Ser) (s : Ser) (h : since t s.pts = []) : forgetV t (ss ++ [s]) = forgetV t ss := by
  unfold forgetV
  rw [List.map_append, List.filter_append]
  simp [cutS, h]
theorem forget_snoc_yes (t : Int) (ss : List Ser) (s : Ser) (h : since t s.pts ≠ []) : forgetV t (ss ++ [s]) = forgetV t ss ++ [cutS t s] := by
  unfold forgetV
  rw [List.map_append, List.filter_append]
  have : (since t s.pts).isEmpty = false := by simpa using h
  simp [cutS, this]
/-- Of points in order of time those from a moment on are the last ones. -/
theorem since_drop (t : Int) : ∀ (ps : List Pt) (k : Nat) (hk : k < ps.length), (∀ (j i : Nat) (hj : j < ps.length) (hi : i < j), ps[i].tick < ps[j].tick) → t ≤ ps[k].tick → (∀ j (h : j < ps.length), j < k → ¬ t ≤ ps[j].tick) → since t ps = ps.drop k
  | p :: r, 0, hk, ha, h1, _ => by
    unfold since
    rw [List.drop_zero, List.filter_eq_self]
    intro x hx
    obtain ⟨j, hj, rfl⟩ := List.mem_iff_getElem.1 hx
    rcases Nat.eq_zero_or_pos j with rfl | hj0
    · exact decide_eq_true h1
    · have := ha j 0 hj hj0
      exact decide_eq_true (by omega)
  | p :: r, k + 1, hk, ha, h1, h2 => by
    have ih := since_drop t r k (by simpa using hk) (fun j i hj hi => ha (j + 1) (i + 1) (by simpa using hj) (by omega)) h1 (fun j hj hjk => h2 (j + 1) (by simpa using hj) (by omega))
    have h0 : ¬ t ≤ p.tick := h2 0 (by simp) (by omega)
    unfold since at ih ⊢
    rw [List.filter_cons_of_neg (by simpa using h0), List.drop_succ_cons]
    exact ih
theorem since_none (t : Int) (ps : List Pt) (h : ∀ (j : Nat) (hj : j < ps.length), ¬ t ≤ ps[j].tick) : since t ps = [] := by
  unfold since
  rw [List.filter_eq_nil_iff]
  intro x hx
  obtain ⟨j, hj, rfl⟩ := List.mem_iff_getElem.1 hx
  simpa using h j hj
theorem pred_at (t : Int) (bx : Nat) (x : Pt) (W : World) (hc : W.cell? ⟨bx, 0, none⟩ = some (.int .i64 t)) (hb : bx < W.heap.size) :
    Calls Try.prog 76 #[ptV x, .pointer (some ⟨bx, 0, none⟩)] W fun e w' => e = .returned (.bool (decide (t ≤ x.tick))) ∧ Below W.heap.size W w' := by
  have hB := Lib.hid (box_below W #[.int .i64 x.tick, .int .i64 x.val] 57)
  have hc2 := Lib.hid ((hB.out.cell (p := ⟨bx, 0, none⟩) hb).trans hc)
  unfold ptV
  go_enter Try.func76, Try.ntmps76
  have q := hc2.out
  go_wp2
  go_ret
  exact ⟨rfl, hB.out⟩
/-- The first point from a moment on, or none. -/
def FirstAt (t : Int) (ps : List Pt) (r : Int) : Prop := (r = -1 ∧ since t ps = []) ∨ ∃ k : Nat, r = (k : Int) ∧ k < ps.length ∧ since t ps = ps.drop k
theorem first_at (t : Int) (ps : List Pt) (h : PtsOk ps) (a : Option Addr) (cap : Nat) (bx : Nat) (w : World) (hP : Pts w a ps) (hb : bx < w.heap.size) (hc : w.cell? ⟨bx, 0, none⟩ = some (.int .i64 t)) :
    Calls Try.prog 75 #[.slice a ps.length cap, .func (.func 76) #[] #[.pointer (some ⟨bx, 0, none⟩)]] w fun e w' => (∃ r : Int, e = .returned (.int .i64 r) ∧ FirstAt t ps r) ∧ Below w.heap.size w w' := by
  obtain ⟨b, off, ha, hbw, hcell⟩ := hP.cells
  have h1 := h.one
  obtain rfl := ha (by omega)
  have eg : ∀ args w, (callFunc 76 args).run Try.prog w = .ok (.enter 76 args) w := enters_of Try.func76 (by kernel_rfl) rfl
  have hp : PredBelow Try.prog 76 #[.pointer (some ⟨bx, 0, none⟩)] (fun x => .agg (encP x).toArray) (fun x => decide (t ≤ x.tick)) w := fun W x hW =>
    (pred_at t bx x W ((hW.cell (p := ⟨bx, 0, none⟩) hb).trans hc) (Nat.lt_of_lt_of_le hb hW.size)).mono fun e w' ⟨he, hb'⟩ => ⟨he, hW.trans (hb'.mono hW.size)⟩
  refine (Try.slices_IndexFunc 2 Try.isAgg57 Try.sizeOf57 encP encP_len (fun x => decide (t ≤ x.tick)) 76 #[.pointer (some ⟨bx, 0, none⟩)] eg b off ps.length cap ps w hp (Nat.le_refl _) (by have := h.most; omega) (hbw (by omega)) ?_).mono ?_
  · intro j hj i v hv
    have hq := hcell j hj
    rw [getElem!_pos ps j hj] at hv
    match i, hv with
    | 0, hv => simp only [encP, List.getElem?_cons_zero, Option.some.injEq] at hv; rw [← hv]; exact hq.1
    | 1, hv => simp only [encP, List.getElem?_cons_succ, List.getElem?_cons_zero, Option.some.injEq] at hv; rw [← hv]; exact hq.2
    | n + 2, hv => simp [encP] at hv
  · rintro e w' ⟨rfl, hB⟩
    refine ⟨⟨_, rfl, ?_⟩, hB⟩
    rw [List.take_of_length_le (Nat.le_refl _)]
    unfold Lib.idxBy
    rcases idx_by (fun y => decide (t ≤ y.tick)) (default : Pt) ps 0 with ⟨e1, e2⟩ | ⟨k, hk, e1, e2, e3⟩
    · exact .inl ⟨e1, since_none t ps fun j hj => by simpa using e2 j hj⟩
    · exact .inr ⟨k, by rw [e1, Nat.zero_add], hk, since_drop t ps k hk (fun j i hj hi => asc_pairs h.asc j i hj hi) (by simpa using e2) fun j hj hjk => by simpa using e3 j hj hjk⟩
end Go.Proofs.Ytgbkmnhdgaeejaa.Fgt
