/- A range over a function, where the iterator may itself range over a function or call functions that do: my own contract of an iterator ('Iter'), and the law of its caller ('range_law'). What a round may write is said by the blocks ('Sv U'); what an invariant leans on are the blocks below a bound ('Dep'). -/
import Derived.Test.YtcjjdnfikccnmaaRows
import Derived.RangeFuncNested
import Derived.RangeFuncBound
import Derived.RangeFuncCalls
import Derived.RangeFuncLeaves
import Derived.Shelf.Abstract
import Derived.Shelf.RegionOpen
import Derived.WalkKit
import Derived.OwnWalkIn
import Derived.TacticsInMore
import Derived.LoopNIn
import Derived.LoopIn
namespace Go.Proofs.Ytcjjdnfikccnmaa.Itr
open Go.RowKit Go.Shelf
set_option linter.unusedVariables false

/-- Every block that the world had stands, but those of U. -/
structure Sv (U : Nat → Prop) (w w' : World) : Prop where
  os : w'.os = w.os
  tape : w'.tape = w.tape
  output : w'.output = w.output
  size : w.heap.size ≤ w'.heap.size
  block : ∀ k, k < w.heap.size → ¬ U k → w'.heap[k]? = w.heap[k]?
theorem Sv.refl (U : Nat → Prop) (w : World) : Sv U w w := ⟨rfl, rfl, rfl, Nat.le_refl _, fun _ _ _ => rfl⟩
theorem Sv.trans {U : Nat → Prop} {a b c : World} (h : Sv U a b) (k : Sv U b c) : Sv U a c :=
  ⟨k.os.trans h.os, k.tape.trans h.tape, k.output.trans h.output, Nat.le_trans h.size k.size, fun i hi hu => (k.block i (Nat.lt_of_lt_of_le hi h.size) hu).trans (h.block i hi hu)⟩
theorem Sv.mono {U U' : Nat → Prop} {a b : World} (h : Sv U a b) (hu : ∀ k, U k → U' k) : Sv U' a b := ⟨h.os, h.tape, h.output, h.size, fun k hk hn => h.block k hk (fun e => hn (hu k e))⟩
theorem Sv.of_below {U : Nat → Prop} {w w' : World} (h : Below w.heap.size w w') : Sv U w w' := ⟨h.os, h.tape, h.output, h.size, fun k hk _ => h.block k hk⟩
theorem Sv.below {U : Nat → Prop} {w w' : World} (h : Sv U w w') {B : Nat} (hu : ∀ k, U k → B ≤ k) (hB : B ≤ w.heap.size) : Below B w w' :=
  ⟨h.os, h.tape, h.output, h.size, fun k hk => h.block k (by omega) (fun e => by have := hu k e; omega)⟩
theorem Sv.setCell {U : Nat → Prop} {a w : World} (h : Sv U a w) {b : Nat} (hb : U b) (j : Nat) (u : Value) : Sv U a (w.setCell ⟨b, j, none⟩ u) :=
  h.trans ⟨rfl, rfl, rfl, by simp [World.setCell], fun k hk hc => Below.heap_setCell _ _ _ _ (fun e => hc (by have : k = b := e; rw [this]; exact hb))⟩
theorem Sv.alloc {U : Nat → Prop} {a w : World} (h : Sv U a w) (o : Obj) : Sv U a (w.alloc o) := h.trans (Sv.of_below ((Below.refl _ w).alloc (Nat.le_refl _) o))
theorem Sv.putObj {U : Nat → Prop} {a w : World} (h : Sv U a w) {b : Nat} (hb : U b) (o : Obj) : Sv U a (w.putObj b o) :=
  h.trans ⟨rfl, rfl, rfl, by simp [World.putObj], fun k hk hc => World.putObj_heap_other (fun e => hc (by rw [e]; exact hb))⟩
theorem Sv.cell {U : Nat → Prop} {w w' : World} (h : Sv U w w') {b j : Nat} (hb : b < w.heap.size) (hu : ¬ U b) : w'.cell? ⟨b, j, none⟩ = w.cell? ⟨b, j, none⟩ := World.cell?_of_block (w := w) (h.block b hb hu)
theorem Sv.frozen {U : Nat → Prop} {w w' : World} (h : Sv U w w') {b j : Nat} (hb : b < w.heap.size) (hu : ¬ U b) : w'.frozen? ⟨b, j, none⟩ = w.frozen? ⟨b, j, none⟩ := World.frozen?_of_block (w := w) (h.block b hb hu)

/-- What is said leans on blocks below B alone. -/
def Dep {α : Type} (B : Nat) (J : List α → World → Prop) : Prop := ∀ s A C, J s A → Below B A C → J s C
theorem Dep.mono {α : Type} {B B' : Nat} {J : List α → World → Prop} (h : Dep B J) (hB : B ≤ B') : Dep B' J := fun s A C hj hb => h s A C hj (hb.mono hB)
theorem Dep.and {α : Type} {B : Nat} {J J' : List α → World → Prop} (h : Dep B J) (h' : Dep B J') : Dep B (fun s W => J s W ∧ J' s W) := fun s A C hj hb => ⟨h s A C hj.1 hb, h' s A C hj.2 hb⟩
theorem putObj_below {B l : Nat} {w : World} (hl : B ≤ l) (o : Obj) : Below B w (w.putObj l o) := ⟨rfl, rfl, rfl, by simp [World.putObj], fun k hk => World.putObj_heap_other (by omega)⟩

/-- THE CONTRACT OF AN ITERATOR: it hands on the elements of xs, in their order, till a round says 'no more'; 'mine' are the blocks that it reads, which no round may write. -/
def Iter {α : Type} (P : Program) (g : Nat) (lb : Array Value) (encs : α → Array Value) (mine : Nat → Prop) (xs : List α) (w : World) : Prop :=
  ∀ (l : Nat) (U : Nat → Prop) (J Jx : List α → World → Prop) (W : World), Below w.heap.size w W → (∀ k, U k → k < W.heap.size ∧ ¬ mine k) → Dep W.heap.size J → Dep W.heap.size Jx →
    (∀ pre x W1, J pre W1 → pre ++ [x] <+: xs → ∀ n, YieldAt Fence.wide n P l (encs x) W1 fun e W' =>
      (e = .returned (.bool true) ∧ J (pre ++ [x]) W' ∧ Sv U W1 W') ∨ (e = .returned (.bool false) ∧ Jx (pre ++ [x]) W' ∧ Sv U W1 W')) →
    J [] W → ∀ n, CallsIn Fence.wide n P g (#[.func (.yield l) #[] #[]] ++ lb) W fun e W' => (∃ v, e = .returned v) ∧ (J xs W' ∨ ∃ pre, pre <+: xs ∧ Jx pre W')

/-- How the body of a round may be left. -/
def ownPost {α : Type} (own : Nat → Prop) (I Ix : List α → World → Prop) (xs : List α) (W : World) : Exit → Act → World → Prop
  | .normal, _, W' => Sv own W W' ∧ I xs W'
  | .ret, _, W' => Sv own W W' ∧ Ix xs W'
  | _, _, _ => False

/-- THE LAW OF THE CALLER. 'own': the blocks that its rounds write. -/
theorem range_law {α : Type} {P : Program} {g : Operand} {ps : Array Tmp} {assign body : Code} {Q : Exit → Act → World → Prop} {a : Act} {w : World} {n : Nat}
    {gf : Nat} {lb : Array Value} (hg : a.eval g = .func (.func gf) #[] lb) (eg : ∀ args w, (callFunc gf args).run P w = .ok (.enter gf args) w)
    {encs : α → Array Value} {mine : Nat → Prop} {xs : List α} {w0 : World} (hit : Iter P gf lb encs mine xs w0) (hb0 : Below w0.heap.size w0 w) (hmine : ∀ k, mine k → k < w.heap.size) (hps : ∀ x, (encs x).size = ps.size)
    (own : Nat → Prop) (hown : ∀ k, own k → k < w.heap.size ∧ ¬ mine k) (I Ix : List α → World → Prop) (hI : Dep w.heap.size I) (hIx : Dep w.heap.size Ix) (h0 : I [] w)
    (Ax : α → Act → World → Prop) (hAx : ∀ x a' A (l : Nat) (r r' : Loop), Ax x a' A → A.heap[l]? = some (.loop r) → Ax x a' (A.putObj l (.loop r')))
    (hassign : ∀ (l : Nat) (pre : List α) (x : α) (W : World) (K : Act → World → Prop), w.heap.size < W.heap.size → I pre W → (∀ a' W', Sv own W W' → I pre W' → Ax x a' W' → K a' W') →
      assign.wpIn (Fence.wide.inRound l) n P (Exit.then K (fun _ _ _ => False)) { tmps := (ps.zip (encs x)).foldl (fun t (p, v) => t.setIfInBounds p v) a.tmps, defers := [] } W)
    (hbody : ∀ (l : Nat) (pre : List α) (x : α) (a' : Act) (W : World), w.heap.size < W.heap.size → I pre W → Ax x a' W → pre ++ [x] <+: xs → body.wpIn (Fence.wide.inRound l) n P (ownPost own I Ix (pre ++ [x]) W) a' W)
    (hdone : ∀ (W : World), I xs W → W.heap[w.heap.size]? = some (.deferred (some [])) → Q .normal { a with defers := { target := .collected w.heap.size, args := #[] } :: a.defers } W)
    (hstop : ∀ (pre : List α) (W : World), pre <+: xs → Ix pre W → W.heap[w.heap.size]? = some (.deferred (some [])) → Code.ret.wpIn Fence.wide n P Q { a with defers := { target := .collected w.heap.size, args := #[] } :: a.defers } W) :
    (Code.rangeFunc g ps assign body).wpIn Fence.wide n P Q a w := by
  refine wpIn_rangeFunc ?_
  intro fn hfn
  obtain ⟨rec, hrec⟩ : ∃ rec : LoopState → Option Code → Loop, rec = fun st pe => { state := st, pending := pe, fn, tmps := a.tmps, params := ps, assign, body, defers := w.heap.size } := ⟨_, rfl⟩
  obtain ⟨W1, hW1⟩ : ∃ W1, (w.alloc (.deferred (some []))).alloc (.loop (rec .ready none)) = W1 := ⟨_, rfl⟩
  have hs1 : W1.heap.size = w.heap.size + 1 + 1 := by rw [← hW1]; simp
  have hL1 : W1.heap[w.heap.size + 1]? = some (.loop (rec .ready none)) := by
    rw [← hW1]; have := World.alloc_heap_new (w.alloc (.deferred (some []))) (.loop (rec .ready none)); rwa [World.size_alloc] at this
  have hbw : Below w.heap.size w W1 := by
    rw [← hW1]; exact ((Below.refl _ w).alloc (Nat.le_refl _) _).alloc (by simp) _
  have hK1 : W1.heap[w.heap.size]? = some (.deferred (some [])) := by
    rw [← hW1]; exact (Below.heap_alloc _ _ _ (by simp)).trans (World.alloc_heap_new w _)
  refine ⟨w.heap.size + 1, [{ target := .collected w.heap.size, args := #[] }], W1, { target := .fn (.func gf) lb, args := #[.func (.yield (w.heap.size + 1)) #[] #[]] }, W1, gf,
    #[.func (.yield (w.heap.size + 1)) #[] #[]] ++ lb, W1, ?_, ?_, ?_, ?_, fun h => by simp [Fence.wide] at h, ?_⟩
  · rw [← hW1, hrec]; exact run_enterLoop_outer _ _ _ _ _
  · simp only [resolve, hg]
    simp [go_sem]
  · intro f' hf'; exact trivial
  · simp [invoke, go_sem, eg]
  · refine (hit (w.heap.size + 1) (fun k => own k ∨ k = w.heap.size + 1)
      (fun pre W => I pre W ∧ W.heap[w.heap.size + 1]? = some (.loop (rec .ready none)) ∧ W.heap[w.heap.size]? = some (.deferred (some [])) ∧ w.heap.size + 1 < W.heap.size)
      (fun pre W => Ix pre W ∧ W.heap[w.heap.size + 1]? = some (.loop (rec .done (some .ret))) ∧ W.heap[w.heap.size]? = some (.deferred (some [])) ∧ w.heap.size + 1 < W.heap.size)
      W1 (hb0.trans (hbw.mono hb0.size)) ?_ ?_ ?_ ?_ ⟨hI _ _ _ h0 hbw, hL1, hK1, by omega⟩ (n - 1)).mono ?_
    · rintro k (hk | hk)
      · have := hown k hk
        exact ⟨by omega, this.2⟩
      · exact ⟨by omega, fun hm => by have := hmine k hm; omega⟩
    · intro s A C ⟨hi, hl, hk, hz⟩ hb
      exact ⟨hI s A C hi (hb.mono (by omega)), (hb.block _ (by omega)).trans hl, (hb.block _ (by omega)).trans hk, Nat.lt_of_lt_of_le hz hb.size⟩
    · intro s A C ⟨hi, hl, hk, hz⟩ hb
      exact ⟨hIx s A C hi (hb.mono (by omega)), (hb.block _ (by omega)).trans hl, (hb.block _ (by omega)).trans hk, Nat.lt_of_lt_of_le hz hb.size⟩
    · rintro pre x W ⟨hi, hl, hk, hz⟩ hpre m
      have hy := run_yield (P := P) (args := encs x) hl (by rw [hrec]; exact hps x)
      rw [hrec] at hy
      have hnl : ∀ k, own k → k ≠ w.heap.size + 1 := fun k h e => by have := (hown k h).1; omega
      have hnk : ∀ k, own k → k ≠ w.heap.size := fun k h e => by have := (hown k h).1; omega
      have key : RoundIn Fence.wide n P (w.heap.size + 1) fn ((ps.zip (encs x)).foldl (fun t (p, v) => t.setIfInBounds p v) a.tmps) assign body W fun e W' =>
          (e = .returned (.bool true) ∧ (I (pre ++ [x]) W' ∧ W'.heap[w.heap.size + 1]? = some (.loop (rec .ready none)) ∧ W'.heap[w.heap.size]? = some (.deferred (some [])) ∧ w.heap.size + 1 < W'.heap.size) ∧ Sv (fun k => own k ∨ k = w.heap.size + 1) W W') ∨
          (e = .returned (.bool false) ∧ (Ix (pre ++ [x]) W' ∧ W'.heap[w.heap.size + 1]? = some (.loop (rec .done (some .ret))) ∧ W'.heap[w.heap.size]? = some (.deferred (some [])) ∧ w.heap.size + 1 < W'.heap.size) ∧ Sv (fun k => own k ∨ k = w.heap.size + 1) W W') := by
        refine roundIn_of_wpIn hfn (hassign _ pre x W _ (by omega) hi ?_)
        intro a' Wa hsa hia hax
        have hla := (hsa.block _ hz (fun h => hnl _ h rfl)).trans hl
        have hka := (hsa.block _ (by omega) (fun h => hnk _ h rfl)).trans hk
        have hza := Nat.lt_of_lt_of_le hz hsa.size
        refine ⟨_, run_beginRound hla (by rw [hrec]), ?_⟩
        have hl2 : (Wa.putObj (w.heap.size + 1) (.loop { rec .ready none with state := .busy })).heap[w.heap.size + 1]? = some (.loop { rec .ready none with state := .busy }) := World.putObj_heap_same hza
        have hk2 : (Wa.putObj (w.heap.size + 1) (.loop { rec .ready none with state := .busy })).heap[w.heap.size]? = some (.deferred (some [])) := (World.putObj_heap_other (by omega)).trans hka
        have hz2 : w.heap.size + 1 < (Wa.putObj (w.heap.size + 1) (.loop { rec .ready none with state := .busy })).heap.size := by simpa [World.putObj] using hza
        have hz4 : ∀ o, w.heap.size < (Wa.putObj (w.heap.size + 1) o).heap.size := fun o => by
          have : w.heap.size < Wa.heap.size := by omega
          simpa [World.putObj] using this
        refine wpIn_mono (hbody _ pre x a' _ (hz4 _) (hI _ _ _ hia (putObj_below (by omega) _)) (hAx _ _ _ _ _ _ hax hla) hpre) ?_
        rintro e a3 W3 hp
        cases e with
        | normal =>
          obtain ⟨hs3, hi3⟩ := hp
          have hl3 := (hs3.block _ hz2 (fun h => hnl _ h rfl)).trans hl2
          have hk3 := (hs3.block _ (hz4 _) (fun h => hnk _ h rfl)).trans hk2
          have hz3 := Nat.lt_of_lt_of_le hz2 hs3.size
          refine ⟨_, _, run_endRound none hl3, .inl ⟨rfl, ⟨hI _ _ _ hi3 (putObj_below (by omega) _), ?_, (World.putObj_heap_other (by omega)).trans hk3, by simpa [World.putObj] using hz3⟩, ?_⟩⟩
          · rw [World.putObj_heap_same hz3, hrec]; rfl
          · exact ((((hsa.mono fun k h => .inl h).putObj (U := fun k => own k ∨ k = w.heap.size + 1) (.inr rfl) _).trans (hs3.mono fun k h => .inl h)).putObj (U := fun k => own k ∨ k = w.heap.size + 1) (.inr rfl) _)
        | ret =>
          obtain ⟨hs3, hi3⟩ := hp
          have hl3 := (hs3.block _ hz2 (fun h => hnl _ h rfl)).trans hl2
          have hk3 := (hs3.block _ (hz4 _) (fun h => hnk _ h rfl)).trans hk2
          have hz3 := Nat.lt_of_lt_of_le hz2 hs3.size
          refine ⟨_, _, run_endRound (some .ret) hl3, .inr ⟨rfl, ⟨hIx _ _ _ hi3 (putObj_below (by omega) _), ?_, (World.putObj_heap_other (by omega)).trans hk3, by simpa [World.putObj] using hz3⟩, ?_⟩⟩
          · rw [World.putObj_heap_same hz3, hrec]; rfl
          · exact ((((hsa.mono fun k h => .inl h).putObj (U := fun k => own k ∨ k = w.heap.size + 1) (.inr rfl) _).trans (hs3.mono fun k h => .inl h)).putObj (U := fun k => own k ∨ k = w.heap.size + 1) (.inr rfl) _)
        | exit id => exact hp.elim
        | goto t => exact hp.elim
        | panic ch => exact hp.elim
        | outgrown => exact hp.elim
      refine ⟨fn, _, assign, body, hy, ⟨hfn, fun c cs _ => ?_⟩⟩
      exact key.2 c cs (fun d hd => by simp [Fence.wide] at hd)
    · rintro e W2 ⟨⟨v, rfl⟩, (⟨hi, hl, hk, hz⟩ | ⟨pre, hpre, hi, hl, hk, hz⟩)⟩
      · exact ⟨none, _, by have := run_endLoop (P := P) hl (by rw [hrec]; simp); rw [hrec] at this; exact this, hdone _ (hI _ _ _ hi (putObj_below (by omega) _)) ((World.putObj_heap_other (by omega)).trans hk)⟩
      · exact ⟨some .ret, _, by have := run_endLoop (P := P) hl (by rw [hrec]; simp); rw [hrec] at this; exact this, hstop pre _ hpre (hIx _ _ _ hi (putObj_below (by omega) _)) ((World.putObj_heap_other (by omega)).trans hk)⟩
end Go.Proofs.Ytcjjdnfikccnmaa.Itr
