/- What a store is ('Store', 'storeV'), in plain mathematics; the model's StoreOk. -/
import Derived.Test.YtgmdfkmmbcpikaaGreatKey
namespace Go.Proofs.YtgmdfkmmbcpikaaGreat.Sto
open Go.RowKit Go.Sort
open Go.Proofs.YtgmdfkmmbcpikaaGreat.C1
open Go.Proofs.YtgmdfkmmbcpikaaGreat.C2
open Go.Proofs.YtgmdfkmmbcpikaaGreat.Smps
open Go.Proofs.YtgmdfkmmbcpikaaGreat.Mem
open Go.Proofs.YtgmdfkmmbcpikaaGreat.Ser
open Go.Proofs.YtgmdfkmmbcpikaaGreat.Ser2
open Go.Proofs.YtgmdfkmmbcpikaaGreat.Key
set_option linter.unusedVariables false

def ptOk (p : Pt) : Bool := sizeV p.tick && sizeV p.val
/-- Points in order of time, no two at one tick. -/
def Asc (ps : List Pt) : Prop := ∀ (i : Nat) (h : i + 1 < ps.length), ps[i].tick < ps[i + 1].tick
structure PtsOk (ps : List Pt) : Prop where
  one : 1 ≤ ps.length
  most : ps.length ≤ 12
  ok : ∀ p ∈ ps, ptOk p = true
  asc : Asc ps
structure SerOk (s : Ser) : Prop where
  pod : nameV s.pod.data.toList = true
  met : nameV s.met.data.toList = true
  pts : PtsOk s.pts
def Ahead (a b : Ser) : Prop := keyLt a.pod a.met b.pod b.met
structure Store (xs : List Ser) : Prop where
  most : xs.length ≤ 24
  ok : ∀ s ∈ xs, SerOk s
  order : ∀ (i : Nat) (h : i + 1 < xs.length), Ahead xs[i] xs[i + 1]
def ascV (ps : List Pt) : Bool := (List.range (ps.length - 1)).all fun i => decide (ps[i]!.tick < ps[i + 1]!.tick)
theorem ascV_iff (ps : List Pt) : ascV ps = true ↔ Asc ps := by
  unfold ascV Asc
  rw [List.all_eq_true]
  constructor
  · intro h i hi
    have := h i (List.mem_range.2 (by omega))
    rw [getElem!_pos ps i (by omega), getElem!_pos ps (i + 1) hi] at this
    exact of_decide_eq_true this
  · intro h i hi
    have hi := List.mem_range.1 hi
    have := h i (by omega)
    rw [getElem!_pos ps i (by omega), getElem!_pos ps (i + 1) (by omega)]
    exact decide_eq_true this
def ptsV (ps : List Pt) : Bool := decide (1 ≤ ps.length ∧ ps.length ≤ 12) && (ps.all ptOk && ascV ps)
theorem ptsV_iff (ps : List Pt) : ptsV ps = true ↔ PtsOk ps := by
  unfold ptsV
  rw [Bool.and_eq_true, Bool.and_eq_true, decide_eq_true_eq, List.all_eq_true, ascV_iff]
  exact ⟨fun h => ⟨h.1.1, h.1.2, h.2.1, h.2.2⟩, fun h => ⟨⟨h.one, h.most⟩, h.ok, h.asc⟩⟩
def serV (s : Ser) : Bool := nameV s.pod.data.toList && (nameV s.met.data.toList && ptsV s.pts)
theorem serV_iff (s : Ser) : serV s = true ↔ SerOk s := by
  unfold serV
  rw [Bool.and_eq_true, Bool.and_eq_true, ptsV_iff]
  exact ⟨fun h => ⟨h.1, h.2.1, h.2.2⟩, fun h => ⟨h.pod, h.met, h.pts⟩⟩
def storeV (xs : List Ser) : Bool := decide (xs.length ≤ 24) && (xs.all serV && (List.range (xs.length - 1)).all fun i => decide (keyLt xs[i]!.pod xs[i]!.met xs[i + 1]!.pod xs[i + 1]!.met))
theorem storeV_iff (xs : List Ser) : storeV xs = true ↔ Store xs := by
  unfold storeV
  rw [Bool.and_eq_true, Bool.and_eq_true, decide_eq_true_eq, List.all_eq_true, List.all_eq_true]
  constructor
  · intro ⟨h1, h2, h3⟩
    refine ⟨h1, fun s hs => (serV_iff s).1 (h2 s hs), fun i hi => ?_⟩
    have := h3 i (List.mem_range.2 (by omega))
    rw [getElem!_pos xs i (by omega), getElem!_pos xs (i + 1) hi] at this
    have h5 := of_decide_eq_true this
    exact h5
  · intro h
    refine ⟨h.most, fun s hs => (serV_iff s).2 (h.ok s hs), fun i hi => ?_⟩
    have hi := List.mem_range.1 hi
    have : keyLt xs[i].pod xs[i].met xs[i + 1].pod xs[i + 1].met := h.order i (by omega)
    rw [getElem!_pos xs i (by omega), getElem!_pos xs (i + 1) (by omega)]
    exact decide_eq_true this
/-- What a walk from the front has seen of the first i series. -/
def OkAt (ls : List Sv) (j : Nat) (h : j < ls.length) : Prop := SerOk ls[j].s ∧ ∀ h0 : 0 < j, Ahead ls[j - 1].s ls[j].s
theorem store_iff (ls : List Sv) : Store (ls.map Sv.s) ↔ ls.length ≤ 24 ∧ ∀ (j : Nat) (h : j < ls.length), OkAt ls j h := by
  constructor
  · intro h
    refine ⟨by have := h.most; simpa using this, fun j hj => ⟨h.ok _ (List.mem_map.2 ⟨ls[j], List.getElem_mem hj, rfl⟩), fun h0 => ?_⟩⟩
    have := h.order (j - 1) (by simp; omega)
    simp only [List.getElem_map] at this
    have e : j - 1 + 1 = j := by omega
    simpa only [e] using this
  · intro ⟨h1, h2⟩
    refine ⟨by simpa using h1, fun s hs => ?_, fun i hi => ?_⟩
    · obtain ⟨l, hl, rfl⟩ := List.mem_map.1 hs
      obtain ⟨j, hj, rfl⟩ := List.mem_iff_getElem.1 hl
      exact (h2 j hj).1
    · have hi' : i + 1 < ls.length := by simpa using hi
      have := (h2 (i + 1) hi').2 (by omega)
      simpa using this
theorem store_no {ls : List Sv} (h : ¬ (ls.length ≤ 24 ∧ ∀ (j : Nat) (h : j < ls.length), OkAt ls j h)) : storeV (ls.map Sv.s) = false := by
  cases hb : storeV (ls.map Sv.s)
  · rfl
  · exact absurd ((store_iff ls).1 ((storeV_iff _).1 hb)) h
theorem store_yes {ls : List Sv} (h : ls.length ≤ 24 ∧ ∀ (j : Nat) (h : j < ls.length), OkAt ls j h) : storeV (ls.map Sv.s) = true := (storeV_iff _).2 ((store_iff ls).2 h)

/-! ### The model's StoreOk. -/
theorem below_drewN (B : Nat) (w : World) (n : Nat) : Below B w (w.drewN n) := ⟨rfl, rfl, rfl, Nat.le_refl _, fun _ _ => rfl⟩
theorem before_later {W : World} (p m p2 m2 : ByteArray) (h0 : p.size ≤ 9223372036854775807) (h1 : m.size ≤ 9223372036854775807) (h2 : p2.size ≤ 9223372036854775807) (h3 : m2.size ≤ 9223372036854775807) {b : Bool} (hb : decide (keyLt p m p2 m2) = b) (q : Later W) :
    Calls Tryz.prog 67 #[.string p, .string m, .string p2, .string m2] q.u fun e w' => e = .returned (.bool b) ∧ Below q.u.heap.size q.u w' :=
  (spec_before p m p2 m2 h0 h1 h2 h3 q.u).mono fun e w' ⟨he, n, hw⟩ => ⟨by rw [he, hb], by rw [hw]; exact below_drewN _ _ n⟩
theorem name_later {W : World} (s : ByteArray) (h : s.size ≤ 9223372036854775807) {b : Bool} (hb : nameV s.data.toList = b) (q : Later W) :
    Calls Tryz.prog 66 #[.string s] q.u fun e w' => e = .returned (.bool b) ∧ Below q.u.heap.size q.u w' :=
  (spec_name s h q.u).mono fun e w' ⟨he, hw⟩ => ⟨by rw [he, hb], by rw [← hw]; exact Below.refl _ _⟩
theorem in_later {W : World} (x a c : Int) {b : Bool} (hb : decide (a ≤ x ∧ x ≤ c) = b) (q : Later W) :
    Calls Tryz.prog 31 #[.int .i64 x, .int .i64 a, .int .i64 c] q.u fun e w' => e = .returned (.bool b) ∧ Below q.u.heap.size q.u w' :=
  (C2.spec_in x a c q.u).mono fun e w' ⟨he, hw⟩ => ⟨by rw [he, hb], by rw [← hw]; exact Below.refl _ _⟩
theorem tick_later {W : World} (x : Int) {b : Bool} (hb : sizeV x = b) (q : Later W) :
    Calls Tryz.prog 25 #[.int .i64 x] q.u fun e w' => e = .returned (.bool b) ∧ Below q.u.heap.size q.u w' :=
  (C2.spec_tick x q.u).mono fun e w' ⟨he, hw⟩ => ⟨by rw [he, hb], by rw [← hw]; exact Below.refl _ _⟩
theorem amt_later {W : World} (x : Int) {b : Bool} (hb : sizeV x = b) (q : Later W) :
    Calls Tryz.prog 68 #[.int .i64 x] q.u fun e w' => e = .returned (.bool b) ∧ Below q.u.heap.size q.u w' :=
  (C2.spec_amt x q.u).mono fun e w' ⟨he, hw⟩ => ⟨by rw [he, hb], by rw [← hw]; exact Below.refl _ _⟩
end Go.Proofs.YtgmdfkmmbcpikaaGreat.Sto
