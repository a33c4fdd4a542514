/- PutSample of chapter 3: what it answers; impl.lastOf. -/
import Derived.Test.YtimpajhgplkpmaaIns
import Derived.Test.YtimpajhgplkpmaaMarkS
import Derived.Test.YtimpajhgplkpmaaCopyI
import Derived.Deep.RegionHeld3
import Derived.BigQuiet
import Derived.Deep.RegionWith
namespace Go.Proofs.Ytimpajhgplkpmaa.PutD
open Go.RowKit Go.Sort Go.BigFrame
open Go.Proofs.Ytimpajhgplkpmaa.C1
open Go.Proofs.Ytimpajhgplkpmaa.C2
open Go.Proofs.Ytimpajhgplkpmaa.Smps
open Go.Proofs.Ytimpajhgplkpmaa.Mem
open Go.Proofs.Ytimpajhgplkpmaa.Ser
open Go.Proofs.Ytimpajhgplkpmaa.Ser2
open Go.Proofs.Ytimpajhgplkpmaa.Key
open Go.Proofs.Ytimpajhgplkpmaa.Sto
open Go.Proofs.Ytimpajhgplkpmaa.StoL
open Go.Proofs.Ytimpajhgplkpmaa.Cnt
open Go.Proofs.Ytimpajhgplkpmaa.Ring
open Go.Proofs.Ytimpajhgplkpmaa.Find
open Go.Proofs.Ytimpajhgplkpmaa.Sof
open Go.Proofs.Ytimpajhgplkpmaa.Lat
open Go.Proofs.Ytimpajhgplkpmaa.From
open Go.Proofs.Ytimpajhgplkpmaa.CopyS
open Go.Proofs.Ytimpajhgplkpmaa.Items
open Go.Proofs.Ytimpajhgplkpmaa.Ins
open Go.Proofs.Ytimpajhgplkpmaa.MarkS
set_option linter.unusedVariables false

/-! ### Plain mathematics. -/
def lastP (ps : List Pt) : Pt := ps.getLast?.getD zeroP
def ptOf (s : Smp) : Pt := ⟨s.tick, s.val⟩
def serOf (s : Smp) : Ser := ⟨s.pod, s.met, [ptOf s]⟩
/-- What a sample that is put makes of a store, and the code. -/
inductive PutIs (xs : List Ser) (s : Smp) : List Ser → Int → Prop
  | bad (h : ¬ (storeV xs = true ∧ okV s = true)) : PutIs xs s xs 3
  | old (h1 : storeV xs = true) (h2 : okV s = true) (i : Nat) (hp : Find.Place xs s.pod s.met i) (hi : i < xs.length) (hk : kc xs[i].pod xs[i].met s.pod s.met = 0) (ht : s.tick ≤ (lastP xs[i].pts).tick) : PutIs xs s xs 1
  | add (h1 : storeV xs = true) (h2 : okV s = true) (i : Nat) (hp : Find.Place xs s.pod s.met i) (hi : i < xs.length) (hk : kc xs[i].pod xs[i].met s.pod s.met = 0) (ht : ¬ s.tick ≤ (lastP xs[i].pts).tick) : PutIs xs s (xs.set i ⟨xs[i].pod, xs[i].met, withV xs[i].pts (ptOf s)⟩) 0
  | full (h1 : storeV xs = true) (h2 : okV s = true) (i : Nat) (hp : Find.Place xs s.pod s.met i) (hk : ¬ ∃ hi : i < xs.length, kc xs[i].pod xs[i].met s.pod s.met = 0) (hl : xs.length = 24) : PutIs xs s xs 2
  | new (h1 : storeV xs = true) (h2 : okV s = true) (i : Nat) (hp : Find.Place xs s.pod s.met i) (hk : ¬ ∃ hi : i < xs.length, kc xs[i].pod xs[i].met s.pod s.met = 0) (hl : xs.length ≠ 24) : PutIs xs s (xs.take i ++ serOf s :: xs.drop i) 0
theorem place_one {xs : List Ser} {p m : ByteArray} {i j : Nat} (h : Find.Place xs p m i) (k : Find.Place xs p m j) : i = j := by
  rcases Nat.lt_trichotomy i j with hh | hh | hh
  · have hi : i < xs.length := Nat.lt_of_lt_of_le hh k.le
    exact absurd (k.less i hi hh) (h.more i hi (Nat.le_refl _))
  · exact hh
  · have hj : j < xs.length := Nat.lt_of_lt_of_le hh h.le
    exact absurd (h.less j hj hh) (k.more j hj (Nat.le_refl _))
theorem put_one {xs : List Ser} {s : Smp} {ys zs : List Ser} {c d : Int} (h : PutIs xs s ys c) (k : PutIs xs s zs d) : ys = zs ∧ c = d := by
  cases h with
  | bad h =>
    cases k with
    | bad => exact ⟨rfl, rfl⟩
    | old h1 h2 => exact absurd ⟨h1, h2⟩ h
    | add h1 h2 => exact absurd ⟨h1, h2⟩ h
    | full h1 h2 => exact absurd ⟨h1, h2⟩ h
    | new h1 h2 => exact absurd ⟨h1, h2⟩ h
  | old h1 h2 i hp hi hk ht =>
    cases k with
    | bad h => exact absurd ⟨h1, h2⟩ h
    | old => exact ⟨rfl, rfl⟩
    | add _ _ j hq hj hk' ht' => obtain rfl := place_one hp hq; exact absurd ht ht'
    | full _ _ j hq hk' hl => obtain rfl := place_one hp hq; exact absurd ⟨hi, hk⟩ hk'
    | new _ _ j hq hk' hl => obtain rfl := place_one hp hq; exact absurd ⟨hi, hk⟩ hk'
  | add h1 h2 i hp hi hk ht =>
    cases k with
    | bad h => exact absurd ⟨h1, h2⟩ h
    | old _ _ j hq hj hk' ht' => obtain rfl := place_one hp hq; exact absurd ht' ht
    | add _ _ j hq hj hk' ht' => obtain rfl := place_one hp hq; exact ⟨rfl, rfl⟩
    | full _ _ j hq hk' hl => obtain rfl := place_one hp hq; exact absurd ⟨hi, hk⟩ hk'
    | new _ _ j hq hk' hl => obtain rfl := place_one hp hq; exact absurd ⟨hi, hk⟩ hk'
  | full h1 h2 i hp hk hl =>
    cases k with
    | bad h => exact absurd ⟨h1, h2⟩ h
    | old _ _ j hq hj hk' ht' => obtain rfl := place_one hp hq; exact absurd ⟨hj, hk'⟩ hk
    | add _ _ j hq hj hk' ht' => obtain rfl := place_one hp hq; exact absurd ⟨hj, hk'⟩ hk
    | full => exact ⟨rfl, rfl⟩
    | new _ _ j hq hk' hl' => exact absurd hl hl'
  | new h1 h2 i hp hk hl =>
    cases k with
    | bad h => exact absurd ⟨h1, h2⟩ h
    | old _ _ j hq hj hk' ht' => obtain rfl := place_one hp hq; exact absurd ⟨hj, hk'⟩ hk
    | add _ _ j hq hj hk' ht' => obtain rfl := place_one hp hq; exact absurd ⟨hj, hk'⟩ hk
    | full _ _ j hq hk' hl' => exact absurd hl' hl
    | new _ _ j hq hk' hl' => obtain rfl := place_one hp hq; exact ⟨rfl, rfl⟩

/-! ### Rows: a series set, a series inserted. -/
theorem Good.set {w w' : World} {B g : Nat} {ls : List Sv} (h : Ser2.Good w B g ls) (hb : Below w.heap.size w w') (hB : B ≤ w.heap.size) (hg : g < w.heap.size) (i : Nat) (hi : i < ls.length) (l : Sv) (hl : OwnP w' w.heap.size (.slice l.a l.s.pts.length l.cap) l.s.pts) : Ser2.Good w' B g (ls.set i l) := by
  have hn : ∀ b o s, l.a = some ⟨b, o, s⟩ → w.heap.size ≤ b := fun b o s e => by rw [e] at hl; exact hl.lt.1
  have hlow : ∀ x ∈ ls, ∀ b o s, x.a = some ⟨b, o, s⟩ → b < w.heap.size := fun x hx b o s e => by
    have h2 := h.own x hx
    rw [e] at h2
    exact h2.lt.2
  refine ⟨fun x hx => ?_, fun x hx => ?_, ?_⟩
  · rcases List.mem_or_eq_of_mem_set hx with hx | rfl
    · exact (h.own x hx).kept hb
    · exact OwnP.low hl hB
  · rcases List.mem_or_eq_of_mem_set hx with hx | rfl
    · exact h.off x hx
    · intro b o s e
      have := hn b o s e
      omega
  · rw [List.pairwise_iff_getElem]
    intro j k hj hk hjk b o s e
    rw [List.length_set] at hj hk
    have hp := List.pairwise_iff_getElem.1 h.apart j k hj hk hjk
    rw [List.getElem_set] at e ⊢
    by_cases e1 : i = k
    · rw [if_pos e1] at e
      have h1 := hn b o s e
      rw [if_neg (by omega)]
      intro b' o' s' e'
      have := hlow _ (List.getElem_mem hj) b' o' s' e'
      omega
    · rw [if_neg e1] at e
      have h2 := hlow _ (List.getElem_mem hk) b o s e
      by_cases e2 : i = j
      · rw [if_pos e2]
        intro b' o' s' e'
        have := hn b' o' s' e'
        omega
      · rw [if_neg e2]
        exact hp b o s e
/-- A series inserted, in a new row; its points lie in a new block too. -/
theorem Good.ins {w w' : World} {B g g' : Nat} {ls : List Sv} (h : Ser2.Good w B g ls) (hb : Below w.heap.size w w') (hB : B ≤ w.heap.size) (hg : w.heap.size ≤ g') (i : Nat) (l : Sv) (hl : OwnP w' w.heap.size (.slice l.a l.s.pts.length l.cap) l.s.pts) (ho : Off g' l.a) : Ser2.Good w' B g' (ls.take i ++ l :: ls.drop i) := by
  have hn : ∀ b o s, l.a = some ⟨b, o, s⟩ → w.heap.size ≤ b := fun b o s e => by rw [e] at hl; exact hl.lt.1
  have hlow : ∀ x ∈ ls, ∀ b o s, x.a = some ⟨b, o, s⟩ → b < w.heap.size := fun x hx b o s e => by
    have h2 := h.own x hx
    rw [e] at h2
    exact h2.lt.2
  have hmem : ∀ x ∈ ls.take i ++ l :: ls.drop i, x ∈ ls ∨ x = l := fun x hx => by
    rcases List.mem_append.1 hx with hx | hx
    · exact .inl (List.mem_of_mem_take hx)
    · rcases List.mem_cons.1 hx with hx | hx
      · exact .inr hx
      · exact .inl (List.mem_of_mem_drop hx)
  refine ⟨fun x hx => ?_, fun x hx => ?_, ?_⟩
  · rcases hmem x hx with hx | rfl
    · exact (h.own x hx).kept hb
    · exact OwnP.low hl hB
  · rcases hmem x hx with hx | rfl
    · intro b o s e
      have := hlow x hx b o s e
      omega
    · exact ho
  · have hap := h.apart
    rw [← List.take_append_drop i ls, List.pairwise_append] at hap
    obtain ⟨p1, p2, p3⟩ := hap
    rw [List.pairwise_append]
    refine ⟨p1, ?_, fun x hx y hy => ?_⟩
    · rw [List.pairwise_cons]
      refine ⟨fun y hy b o s e b' o' s' e' => ?_, p2⟩
      have h1 := hlow y (List.mem_of_mem_drop hy) b o s e
      have h2 := hn b' o' s' e'
      omega
    · rcases List.mem_cons.1 hy with rfl | hy
      · intro b o s e b' o' s' e'
        have h1 := hn b o s e
        have h2 := hlow x (List.mem_of_mem_take hx) b' o' s' e'
        omega
      · exact p3 x hx y hy
theorem OwnR.low {w : World} {B B' : Nat} {v : Value} {ls : List Sv} (h : OwnR w B v ls) (hB : B' ≤ B) : OwnR w B' v ls := by
  obtain ⟨hl, h⟩ := h
  refine ⟨hl, ?_⟩
  rcases h with h | ⟨g, cap', cur, hv, hb, hrest⟩
  · exact .inl h
  · exact .inr ⟨g, cap', cur, hv, Nat.le_trans hB hb, hrest⟩
theorem off_lt' {c g : Nat} (h : c < g) : Off g (some ⟨c, 0, none⟩) := fun b o s e => by cases e; omega
/-! ### impl.put. -/
/-- What put answers: a row of one's own that holds the store as it is now. -/
def PutOut (xs : List Ser) (s : Smp) (B : Nat) (w w' : World) (e : Ending) : Prop :=
  ∃ (g cap : Nat) (ms : List Sv) (c : Int), e = .returned (.tuple #[.slice (some ⟨g, 0, none⟩) ms.length cap, .int .i64 c]) ∧ PutIs xs s (ms.map Sv.s) c ∧ OwnR w' B (.slice (some ⟨g, 0, none⟩) ms.length cap) ms ∧ Ser2.Good w' B g ms ∧ Below B w w'
theorem putOut_of {xs : List Ser} {s : Smp} {B : Nat} {w w' : World} {e : Ending} (g cap : Nat) (ms : List Sv) (c : Int) (h1 : e = .returned (.tuple #[.slice (some ⟨g, 0, none⟩) ms.length cap, .int .i64 c])) (h2 : PutIs xs s (ms.map Sv.s) c) (h3 : OwnR w' B (.slice (some ⟨g, 0, none⟩) ms.length cap) ms) (h4 : Ser2.Good w' B g ms) (h5 : Below B w w') : PutOut xs s B w w' e := ⟨g, cap, ms, c, h1, h2, h3, h4, h5⟩
end Go.Proofs.Ytimpajhgplkpmaa.PutD
