/- The mathematics of chapter 6: valid logs, sides, behaviours; what a window holds; the sums of moves; low and high; the bounds; what is decided. -/
import Derived.Test.YtgmdfkmmbcpikaaGreatSer
import Derived.Test.YtgmdfkmmbcpikaaGreatPl
namespace Go.Proofs.YtgmdfkmmbcpikaaGreat.BhM
open Go.RowKit
open Go.Proofs.YtgmdfkmmbcpikaaGreat.C1
open Go.Proofs.YtgmdfkmmbcpikaaGreat.Ser
open Go.Proofs.YtgmdfkmmbcpikaaGreat.Pl
set_option linter.unusedVariables false

theorem snoc_ind {α : Type} {P : List α → Prop} (h0 : P []) (h1 : ∀ l x, P l → P (l ++ [x])) : ∀ l, P l := by
  intro l
  suffices h : ∀ r : List α, P r.reverse by simpa using h l.reverse
  intro r
  induction r with
  | nil => simpa using h0
  | cons x r ih => rw [List.reverse_cons]; exact h1 _ _ ih
/-! ### Valid arguments. -/
def inV (x a b : Int) : Bool := decide (a ≤ x ∧ x ≤ b)
def polV (p : Pl) : Bool := inV p.kd 0 1 && (inV p.va 1 1000 && inV p.pe 1 1000)
def sideV (s : Sd) : Bool := decide (s.ps.length ≤ 3) && (inV s.sel 0 2 && (inV s.win 0 1000 && s.ps.all polV))
def behV (b : Bh) : Bool := sideV b.up && (sideV b.dn && (inV b.mx 0 1000 && inV b.mn 0 b.mx))
def tickV (x : Int) : Bool := inV x 0 1000000000
def countV (x : Int) : Bool := inV x 0 1000
def noteV (p : Pt) : Bool := tickV p.tick && countV p.val
def moveV (p : Pt) : Bool := tickV p.tick && inV p.val (-1000) 1000
/-- The entries are valid and their ticks don't fall, beginning with l. -/
def logW (ok : Pt → Bool) : Int → List Pt → Bool
  | _, [] => true
  | l, p :: r => ok p && (decide (l ≤ p.tick) && logW ok p.tick r)
def logV (ok : Pt → Bool) (ls : List Pt) : Bool := decide (ls.length ≤ 200) && logW ok 0 ls
theorem inV_iff {x a b : Int} : inV x a b = true ↔ a ≤ x ∧ x ≤ b := by simp [inV]
theorem inV_no {x a b : Int} : inV x a b = false ↔ ¬ (a ≤ x ∧ x ≤ b) := by simp [inV]
/-- The tick before place j. -/
def prevT (l : Int) (ls : List Pt) (j : Nat) : Int := match j with | 0 => l | k + 1 => (ls[k]?.getD default).tick
theorem logW_at (ok : Pt → Bool) : ∀ (l : Int) (ls : List Pt), logW ok l ls = true ↔ ∀ (j : Nat) (hj : j < ls.length), ok ls[j] = true ∧ prevT l ls j ≤ ls[j].tick
  | l, [] => by simp [logW]
  | l, p :: r => by
    have ih := logW_at ok p.tick r
    simp only [logW, Bool.and_eq_true, decide_eq_true_eq]
    constructor
    · rintro ⟨h1, h2, h3⟩ j hj
      cases j with
      | zero => exact ⟨h1, h2⟩
      | succ k =>
        have := ih.1 h3 k (by simpa using hj)
        refine ⟨by simpa using this.1, ?_⟩
        cases k with
        | zero => simpa [prevT] using this.2
        | succ m => simpa [prevT] using this.2
    · intro h
      refine ⟨(h 0 (by simp)).1, (h 0 (by simp)).2, ih.2 fun j hj => ?_⟩
      have := h (j + 1) (by simpa using hj)
      refine ⟨by simpa using this.1, ?_⟩
      cases j with
      | zero => simpa [prevT] using this.2
      | succ m => simpa [prevT] using this.2
theorem logV_yes {ok : Pt → Bool} {ls : List Pt} (h : logV ok ls = true) : ls.length ≤ 200 ∧ ∀ (j : Nat) (hj : j < ls.length), ok ls[j] = true ∧ prevT 0 ls j ≤ ls[j].tick := by
  unfold logV at h
  simp only [Bool.and_eq_true, decide_eq_true_eq] at h
  exact ⟨h.1, (logW_at ok 0 ls).1 h.2⟩
theorem logV_of {ok : Pt → Bool} {ls : List Pt} (h : ls.length ≤ 200) (h2 : ∀ (j : Nat) (hj : j < ls.length), ok ls[j] = true ∧ prevT 0 ls j ≤ ls[j].tick) : logV ok ls = true := by
  unfold logV
  simp only [Bool.and_eq_true, decide_eq_true_eq]
  exact ⟨h, (logW_at ok 0 ls).2 h2⟩
theorem logV_no {ok : Pt → Bool} {ls : List Pt} (h : ¬ (ls.length ≤ 200 ∧ ∀ (j : Nat) (hj : j < ls.length), ok ls[j] = true ∧ prevT 0 ls j ≤ ls[j].tick)) : logV ok ls = false := by
  cases c : logV ok ls
  · rfl
  · exact absurd (logV_yes c) h
theorem note_bd {p : Pt} (h : noteV p = true) : 0 ≤ p.tick ∧ p.tick ≤ 1000000000 ∧ 0 ≤ p.val ∧ p.val ≤ 1000 := by
  simp only [noteV, Bool.and_eq_true, tickV, countV, inV_iff] at h; omega
theorem move_bd {p : Pt} (h : moveV p = true) : 0 ≤ p.tick ∧ p.tick ≤ 1000000000 ∧ -1000 ≤ p.val ∧ p.val ≤ 1000 := by
  simp only [moveV, Bool.and_eq_true, tickV, inV_iff] at h; omega
theorem logV_mem {ok : Pt → Bool} {ls : List Pt} (h : logV ok ls = true) : ∀ p ∈ ls, ok p = true := fun p hp => by
  obtain ⟨j, hj, rfl⟩ := List.mem_iff_getElem.1 hp
  exact ((logV_yes h).2 j hj).1
theorem pol_bd {p : Pl} (h : polV p = true) : (p.kd = 0 ∨ p.kd = 1) ∧ 1 ≤ p.va ∧ p.va ≤ 1000 ∧ 1 ≤ p.pe ∧ p.pe ≤ 1000 := by
  simp only [polV, Bool.and_eq_true, inV_iff] at h; omega
theorem side_bd {s : Sd} (h : sideV s = true) : s.ps.length ≤ 3 ∧ (s.sel = 0 ∨ s.sel = 1 ∨ s.sel = 2) ∧ 0 ≤ s.win ∧ s.win ≤ 1000 ∧ ∀ p ∈ s.ps, polV p = true := by
  simp only [sideV, Bool.and_eq_true, inV_iff, decide_eq_true_eq, List.all_eq_true] at h
  exact ⟨h.1, by omega, by omega, by omega, h.2.2.2⟩
theorem beh_bd {b : Bh} (h : behV b = true) : sideV b.up = true ∧ sideV b.dn = true ∧ 0 ≤ b.mn ∧ b.mn ≤ b.mx ∧ b.mx ≤ 1000 := by
  simp only [behV, Bool.and_eq_true, inV_iff] at h
  exact ⟨h.1, h.2.1, by omega, by omega, by omega⟩

/-! ### What a window holds. -/
def winB (now span : Int) (p : Pt) : Bool := decide (now - span < p.tick) && decide (p.tick ≤ now)
def winL (now span : Int) (ls : List Pt) : List Pt := ls.filter (winB now span)
theorem winL_take (now span : Int) (ls : List Pt) (k : Nat) (hk : k < ls.length) : winL now span (ls.take (k + 1)) = winL now span (ls.take k) ++ (if winB now span ls[k] = true then [ls[k]] else []) := by
  unfold winL
  rw [List.take_succ_eq_append_getElem hk, List.filter_append]
  cases c : winB now span ls[k] <;> simp [c]
theorem winL_in {now span : Int} {ls : List Pt} {k : Nat} (hk : k < ls.length) (h : winB now span ls[k] = true) : winL now span (ls.take (k + 1)) = winL now span (ls.take k) ++ [ls[k]] := by rw [winL_take _ _ _ _ hk, if_pos h]
theorem winL_out {now span : Int} {ls : List Pt} {k : Nat} (hk : k < ls.length) (h : winB now span ls[k] = false) : winL now span (ls.take (k + 1)) = winL now span (ls.take k) := by rw [winL_take _ _ _ _ hk, if_neg (by rw [h]; simp), List.append_nil]
theorem winL_len (now span : Int) (ls : List Pt) : (winL now span ls).length ≤ ls.length := List.length_filter_le _ _
theorem winL_mem {now span : Int} {ls : List Pt} {p : Pt} (h : p ∈ winL now span ls) : p ∈ ls := (List.mem_filter.1 h).1
/-- The sums of the increases and of the decreases. -/
def riseS (l : List Pt) : Int := l.foldl (fun s p => s + max p.val 0) 0
def fallS (l : List Pt) : Int := l.foldl (fun s p => s + max (-p.val) 0) 0
theorem riseS_snoc (l : List Pt) (p : Pt) : riseS (l ++ [p]) = riseS l + max p.val 0 := by simp [riseS]
theorem fallS_snoc (l : List Pt) (p : Pt) : fallS (l ++ [p]) = fallS l + max (-p.val) 0 := by simp [fallS]
theorem sums_bd : ∀ (l : List Pt), (∀ p ∈ l, -1000 ≤ p.val ∧ p.val ≤ 1000) → 0 ≤ riseS l ∧ riseS l ≤ 1000 * l.length ∧ 0 ≤ fallS l ∧ fallS l ≤ 1000 * l.length := by
  intro l
  induction l using snoc_ind with
  | h0 => intro _; simp [riseS, fallS]
  | h1 l p ih =>
    intro h
    have h1 := ih (fun q hq => h q (List.mem_append_left _ hq))
    have h2 := h p (by simp)
    rw [riseS_snoc, fallS_snoc, List.length_append]
    simp only [List.length_cons, List.length_nil]
    omega
def movedR (ms : List Pt) (now per : Int) : Int := riseS (winL now per ms)
def movedF (ms : List Pt) (now per : Int) : Int := fallS (winL now per ms)
theorem moved_bd {ms : List Pt} (h : logV moveV ms = true) (now per : Int) (k : Nat) : 0 ≤ riseS (winL now per (ms.take k)) ∧ riseS (winL now per (ms.take k)) ≤ 200000 ∧ 0 ≤ fallS (winL now per (ms.take k)) ∧ fallS (winL now per (ms.take k)) ≤ 200000 := by
  have h1 := sums_bd (winL now per (ms.take k)) (fun p hp => by have := move_bd (logV_mem h p (List.mem_of_mem_take (winL_mem hp))); omega)
  have h2 := winL_len now per (ms.take k)
  have h3 := (logV_yes h).1
  have h4 : (ms.take k).length ≤ ms.length := by rw [List.length_take]; omega
  omega
theorem movedRF_bd {ms : List Pt} (h : logV moveV ms = true) (now per : Int) : 0 ≤ movedR ms now per ∧ movedR ms now per ≤ 200000 ∧ 0 ≤ movedF ms now per ∧ movedF ms now per ≤ 200000 := by
  have := moved_bd h now per ms.length
  rw [List.take_length] at this
  exact this
def baseV (ms : List Pt) (now count per : Int) : Int := max (count - movedR ms now per + movedF ms now per) 0
theorem base_bd {ms : List Pt} (h : logV moveV ms = true) (now per : Int) {count : Int} (hc : 0 ≤ count ∧ count ≤ 1000) : 0 ≤ baseV ms now count per ∧ baseV ms now count per ≤ 201000 := by
  have := movedRF_bd h now per
  unfold baseV
  omega

/-! ### The least and the greatest of a row. -/
def leastF (x : Int) (l : List Int) : Int := l.foldl min x
def mostF (x : Int) (l : List Int) : Int := l.foldl max x
theorem leastF_snoc (x : Int) (l : List Int) (y : Int) : leastF x (l ++ [y]) = min (leastF x l) y := by simp [leastF]
theorem mostF_snoc (x : Int) (l : List Int) (y : Int) : mostF x (l ++ [y]) = max (mostF x l) y := by simp [mostF]
theorem leastF_le (x : Int) (l : List Int) : leastF x l ≤ x := by
  induction l using snoc_ind with
  | h0 => simp [leastF]
  | h1 l y ih => rw [leastF_snoc]; omega
theorem le_mostF (x : Int) (l : List Int) : x ≤ mostF x l := by
  induction l using snoc_ind with
  | h0 => simp [mostF]
  | h1 l y ih => rw [mostF_snoc]; omega
theorem leastF_bd (a : Int) (x : Int) (l : List Int) (hx : a ≤ x) (h : ∀ y ∈ l, a ≤ y) : a ≤ leastF x l := by
  induction l using snoc_ind with
  | h0 => simpa [leastF] using hx
  | h1 l y ih =>
    rw [leastF_snoc]
    have := ih (fun z hz => h z (List.mem_append_left _ hz))
    have := h y (by simp)
    omega
theorem mostF_bd (a : Int) (x : Int) (l : List Int) (hx : x ≤ a) (h : ∀ y ∈ l, y ≤ a) : mostF x l ≤ a := by
  induction l using snoc_ind with
  | h0 => simpa [mostF] using hx
  | h1 l y ih =>
    rw [mostF_snoc]
    have := ih (fun z hz => h z (List.mem_append_left _ hz))
    have := h y (by simp)
    omega
def valsL (l : List Pt) : List Int := l.map Pt.val
theorem valsL_snoc (l : List Pt) (p : Pt) : valsL (l ++ [p]) = valsL l ++ [p.val] := by simp [valsL]
def lowV (ns : List Pt) (now win want : Int) : Int := leastF want (valsL (winL now win ns))
def highV (ns : List Pt) (now win want : Int) : Int := mostF want (valsL (winL now win ns))
def cutTo (x least most : Int) : Int := min (max x least) most
theorem cutTo_ways (x least most : Int) (h : least ≤ most) : cutTo x least most = if x < least then least else if x > most then most else x := by
  unfold cutTo
  split
  · omega
  · split <;> omega
theorem low_high (ns : List Pt) (now w1 w2 want : Int) : lowV ns now w1 want ≤ want ∧ want ≤ highV ns now w2 want := ⟨leastF_le _ _, le_mostF _ _⟩
theorem low_bd {ns : List Pt} (h : logV noteV ns = true) (now win : Int) {want : Int} (hw : 0 ≤ want ∧ want ≤ 1000) (k : Nat) : 0 ≤ lowV (ns.take k) now win want ∧ lowV (ns.take k) now win want ≤ 1000 := by
  have h1 := leastF_bd 0 want (valsL (winL now win (ns.take k))) hw.1 (fun y hy => by
    obtain ⟨p, hp, rfl⟩ := List.mem_map.1 hy
    have := note_bd (logV_mem h p (List.mem_of_mem_take (winL_mem hp)))
    omega)
  have h2 := leastF_le want (valsL (winL now win (ns.take k)))
  unfold lowV
  omega
theorem high_bd {ns : List Pt} (h : logV noteV ns = true) (now win : Int) {want : Int} (hw : 0 ≤ want ∧ want ≤ 1000) (k : Nat) : 0 ≤ highV (ns.take k) now win want ∧ highV (ns.take k) now win want ≤ 1000 := by
  have h1 := mostF_bd 1000 want (valsL (winL now win (ns.take k))) hw.2 (fun y hy => by
    obtain ⟨p, hp, rfl⟩ := List.mem_map.1 hy
    have := note_bd (logV_mem h p (List.mem_of_mem_take (winL_mem hp)))
    omega)
  have h2 := le_mostF want (valsL (winL now win (ns.take k)))
  unfold highV
  omega
def steadyG (b : Bh) (ns : List Pt) (now count want : Int) : Bool := behV b && (logV noteV ns && (tickV now && (countV count && countV want)))
def steadyV (b : Bh) (ns : List Pt) (now count want : Int) : Int := if steadyG b ns now count want = true then cutTo count (lowV ns now b.up.win want) (highV ns now b.dn.win want) else -1
theorem steady_bd (b : Bh) (ns : List Pt) (now count want : Int) : -1 ≤ steadyV b ns now count want ∧ steadyV b ns now count want ≤ 1000 := by
  unfold steadyV
  split
  · rename_i h
    simp only [steadyG, Bool.and_eq_true, countV, inV_iff] at h
    have h1 := low_bd h.2.1 now b.up.win h.2.2.2.2 ns.length
    have h2 := high_bd h.2.1 now b.dn.win h.2.2.2.2 ns.length
    rw [List.take_length] at h1 h2
    unfold cutTo
    omega
  · omega

/-! ### The bounds. -/
def upB (p : Pl) (base : Int) : Int := min (base + (if p.kd = 1 then clD (base * p.va) 100 else p.va)) 1000
def dnB (p : Pl) (base0 : Int) : Int := let base := min base0 1000; if p.kd = 1 then flD (base * max (100 - p.va) 0) 100 else max (base - p.va) 0
def pick (x : Int) (l : List Int) (mst : Bool) : Int := if mst = true then mostF x l else leastF x l
def boundsL (f : Pl → Int → Int) (s : Sd) (ms : List Pt) (now count : Int) : List Int := s.ps.map fun p => f p (baseV ms now count p.pe)
def boundG (s : Sd) (ms : List Pt) (now count : Int) : Bool := sideV s && (logV moveV ms && (tickV now && countV count))
def upV (s : Sd) (ms : List Pt) (now count : Int) : Int :=
  if boundG s ms now count = true then
    if s.sel = 2 then count else match boundsL upB s ms now count with
      | [] => 1000
      | x :: r => max (pick x r (decide (s.sel = 0))) count
  else -1
def dnV (s : Sd) (ms : List Pt) (now count : Int) : Int :=
  if boundG s ms now count = true then
    if s.sel = 2 then count else match boundsL dnB s ms now count with
      | [] => 0
      | x :: r => min (pick x r (decide (s.sel = 1))) count
  else -1
def limitG (b : Bh) (ms : List Pt) (now count want : Int) : Bool := behV b && (logV moveV ms && (tickV now && (countV count && countV want)))
def limitV (b : Bh) (ms : List Pt) (now count want : Int) : Int := if limitG b ms now count want = true then cutTo (cutTo want (dnV b.dn ms now count) (upV b.up ms now count)) b.mn b.mx else -1
def decideV (b : Bh) (ns ms : List Pt) (now count want : Int) : Int := limitV b ms now count (steadyV b ns now count want)
theorem upB_bd {p : Pl} (h : polV p = true) {base : Int} (hb : 0 ≤ base ∧ base ≤ 201000) : 0 ≤ upB p base ∧ upB p base ≤ 1000 := by
  obtain ⟨h1, h2, h3, -, -⟩ := pol_bd h
  unfold upB
  have : 0 ≤ (if p.kd = 1 then clD (base * p.va) 100 else p.va) := by
    split
    · unfold clD
      rw [if_neg (by omega)]
      have : 0 ≤ base * p.va := Int.mul_nonneg hb.1 (by omega)
      omega
    · omega
  omega
theorem dnB_bd {p : Pl} (h : polV p = true) {base : Int} (hb : 0 ≤ base) : 0 ≤ dnB p base ∧ dnB p base ≤ 1000 := by
  obtain ⟨h1, h2, h3, -, -⟩ := pol_bd h
  unfold dnB
  simp only
  split
  · unfold flD
    rw [if_neg (by omega)]
    have h4 : 0 ≤ min base 1000 * max (100 - p.va) 0 := Int.mul_nonneg (by omega) (by omega)
    have h5 : min base 1000 * max (100 - p.va) 0 ≤ 1000 * 99 := by
      have := Int.mul_le_mul (show min base 1000 ≤ 1000 by omega) (show max (100 - p.va) 0 ≤ 99 by omega) (by omega) (by omega)
      omega
    omega
  · omega
/-- The model's fold over the bounds. -/
def foldM (mst : Bool) (b x : Int) : Int := if b < 0 then x else if mst = true then max b x else min b x
theorem foldM_all (mst : Bool) (x : Int) (r : List Int) (h : ∀ y ∈ x :: r, 0 ≤ y) : (x :: r).foldl (foldM mst) (-1) = pick x r mst := by
  have h0 : (x :: r).foldl (foldM mst) (-1) = r.foldl (foldM mst) x := by simp [foldM]
  rw [h0]
  have key : ∀ (r : List Int) (z : Int), 0 ≤ z → (∀ y ∈ r, 0 ≤ y) → r.foldl (foldM mst) z = pick z r mst := by
    intro r
    induction r with
    | nil => intro z _ _; cases mst <;> simp [pick, mostF, leastF]
    | cons y r ih =>
      intro z hz hy
      have hy0 := hy y (by simp)
      cases mst
      · have e : foldM false z y = min z y := by unfold foldM; rw [if_neg (by omega)]; simp
        rw [List.foldl_cons, e, ih _ (by omega) (fun q hq => hy q (by simp [hq]))]
        simp [pick, leastF]
      · have e : foldM true z y = max z y := by unfold foldM; rw [if_neg (by omega)]; simp
        rw [List.foldl_cons, e, ih _ (by omega) (fun q hq => hy q (by simp [hq]))]
        simp [pick, mostF]
  exact key r x (h x (by simp)) (fun y hy => h y (by simp [hy]))
theorem boundsL_take (f : Pl → Int → Int) (s : Sd) (ms : List Pt) (now count : Int) (k : Nat) (hk : k < s.ps.length) :
    (boundsL f s ms now count).take (k + 1) = (boundsL f s ms now count).take k ++ [f s.ps[k] (baseV ms now count s.ps[k].pe)] := by
  rw [List.take_succ_eq_append_getElem (by simpa [boundsL] using hk)]
  simp [boundsL]
theorem pick_bd (x : Int) (r : List Int) (mst : Bool) (h : ∀ y ∈ x :: r, 0 ≤ y ∧ y ≤ 1000) : 0 ≤ pick x r mst ∧ pick x r mst ≤ 1000 := by
  have hx := h x (by simp)
  have hr := fun y hy => h y (List.mem_cons_of_mem _ hy)
  cases mst
  · have := leastF_bd 0 x r hx.1 (fun y hy => (hr y hy).1)
    have := leastF_le x r
    simp only [pick]; simp; omega
  · have := mostF_bd 1000 x r hx.2 (fun y hy => (hr y hy).2)
    have := le_mostF x r
    simp only [pick]; simp; omega
theorem bounds_mem {f : Pl → Int → Int} {s : Sd} {ms : List Pt} {now count : Int} (h : boundG s ms now count = true) (hf : ∀ p, polV p = true → ∀ base, 0 ≤ base → base ≤ 201000 → 0 ≤ f p base ∧ f p base ≤ 1000) :
    ∀ y ∈ boundsL f s ms now count, 0 ≤ y ∧ y ≤ 1000 := fun y hy => by
  simp only [boundG, Bool.and_eq_true, countV, inV_iff] at h
  obtain ⟨p, hp, rfl⟩ := List.mem_map.1 hy
  have hb := base_bd h.2.1 now p.pe h.2.2.2
  exact hf p ((side_bd h.1).2.2.2.2 p hp) _ hb.1 hb.2
theorem up_mem {s : Sd} {ms : List Pt} {now count : Int} (h : boundG s ms now count = true) : ∀ y ∈ boundsL upB s ms now count, 0 ≤ y ∧ y ≤ 1000 := bounds_mem h fun p hp base h0 h1 => upB_bd hp ⟨h0, h1⟩
theorem dn_mem {s : Sd} {ms : List Pt} {now count : Int} (h : boundG s ms now count = true) : ∀ y ∈ boundsL dnB s ms now count, 0 ≤ y ∧ y ≤ 1000 := bounds_mem h fun p hp base h0 _ => dnB_bd hp h0
theorem up_bd {s : Sd} {ms : List Pt} {now count : Int} (h : boundG s ms now count = true) : count ≤ upV s ms now count ∧ upV s ms now count ≤ 1000 := by
  have hc : 0 ≤ count ∧ count ≤ 1000 := by simp only [boundG, Bool.and_eq_true, countV, inV_iff] at h; exact h.2.2.2
  have hm := up_mem h
  unfold upV
  rw [if_pos h]
  split
  · omega
  · split
    · omega
    · rename_i x r e
      have := pick_bd x r (decide (s.sel = 0)) (by rw [← e]; exact hm)
      omega
theorem dn_bd {s : Sd} {ms : List Pt} {now count : Int} (h : boundG s ms now count = true) : 0 ≤ dnV s ms now count ∧ dnV s ms now count ≤ count := by
  have hc : 0 ≤ count ∧ count ≤ 1000 := by simp only [boundG, Bool.and_eq_true, countV, inV_iff] at h; exact h.2.2.2
  have hm := dn_mem h
  unfold dnV
  rw [if_pos h]
  split
  · omega
  · split
    · omega
    · rename_i x r e
      have := pick_bd x r (decide (s.sel = 1)) (by rw [← e]; exact hm)
      omega
theorem up_no {s : Sd} {ms : List Pt} {now count : Int} (h : boundG s ms now count = false) : upV s ms now count = -1 := by unfold upV; rw [if_neg (by rw [h]; simp)]
theorem dn_no {s : Sd} {ms : List Pt} {now count : Int} (h : boundG s ms now count = false) : dnV s ms now count = -1 := by unfold dnV; rw [if_neg (by rw [h]; simp)]
theorem up_rng (s : Sd) (ms : List Pt) (now count : Int) : -1 ≤ upV s ms now count ∧ upV s ms now count ≤ 1000 := by
  cases c : boundG s ms now count
  · rw [up_no c]; omega
  · have := up_bd c
    simp only [boundG, Bool.and_eq_true, countV, inV_iff] at c
    omega
theorem dn_rng (s : Sd) (ms : List Pt) (now count : Int) : -1 ≤ dnV s ms now count ∧ dnV s ms now count ≤ 1000 := by
  cases c : boundG s ms now count
  · rw [dn_no c]; omega
  · have := dn_bd c
    simp only [boundG, Bool.and_eq_true, countV, inV_iff] at c
    omega
end Go.Proofs.YtgmdfkmmbcpikaaGreat.BhM
