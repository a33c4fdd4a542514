/- extremes over an iterator; the iterator 'considered'. -/
import Derived.Test.YtcjjdnfikccnmaaItr
import Derived.Test.YtcjjdnfikccnmaaTail
import Derived.Test.YtcjjdnfikccnmaaLogI
namespace Go.Proofs.Ytcjjdnfikccnmaa.Ext
open Go.RowKit Go.Shelf Go.BigFrame
open Go.Proofs.Ytcjjdnfikccnmaa.C1
open Go.Proofs.Ytcjjdnfikccnmaa.C2
open Go.Proofs.Ytcjjdnfikccnmaa.Smps
open Go.Proofs.Ytcjjdnfikccnmaa.Mem
open Go.Proofs.Ytcjjdnfikccnmaa.Ser
open Go.Proofs.Ytcjjdnfikccnmaa.BhM
open Go.Proofs.Ytcjjdnfikccnmaa.Itr
open Go.Proofs.Ytcjjdnfikccnmaa.Tail
attribute [local go_sem] Oper.semAt_some
set_option linter.unusedVariables false

theorem cells_dep {w w' : World} {g B : Nat} {vs : List Value} (h : CellsW w g vs) (hb : Below B w w') (hg : g < B) : CellsW w' g vs :=
  ⟨Nat.lt_of_lt_of_le h.1 hb.size, fun j hj => ⟨(hb.cell (p := ⟨g, j, none⟩) hg).trans (h.2 j hj).1, (hb.frozen (p := ⟨g, j, none⟩) hg).trans (h.2 j hj).2⟩⟩
theorem cells_one {w : World} {g : Nat} {v : Value} (h : CellsW w g [v]) : w.cell? ⟨g, 0, none⟩ = some v ∧ w.frozen? ⟨g, 0, none⟩ = false := h.2 0 (by simp)
theorem cells_off1 {w : World} {g c : Nat} {v : Value} (h : CellsW w g [v]) (u : Value) (hne : g ≠ c) : CellsW (w.setCell ⟨c, 0, none⟩ u) g [v] := by
  refine ⟨by simpa [World.setCell] using h.1, fun i hi => ⟨?_, by rw [World.frozen?_setCell]; exact (h.2 i hi).2⟩⟩
  rw [World.cell?_setCell_other (h := show (⟨c, 0, none⟩ : Addr) ≠ ⟨g, i, none⟩ by intro hh; cases hh; exact hne rfl)]
  exact (h.2 i hi).1
theorem cells_set1 {w : World} {g : Nat} {v : Value} (h : CellsW w g [v]) (u : Value) : CellsW (w.setCell ⟨g, 0, none⟩ u) g [u] := by
  have := h.set 0 u (by simp)
  simpa using this
/-- The three variables of extremes, when pre has come. -/
def St (g : Nat) (pre : List Int) (W : World) : Prop :=
  ∃ (a b : Int) (f : Bool), CellsW W g [.int .i64 a] ∧ CellsW W (g + 1) [.int .i64 b] ∧ CellsW W (g + 2) [.bool f] ∧ ((pre = [] ∧ f = true) ∨ ∃ x r, pre = x :: r ∧ f = false ∧ a = leastF x r ∧ b = mostF x r)
theorem St.dep {g B : Nat} (h : g + 2 < B) : Dep B (St g) := fun s A C ⟨a, b, f, h1, h2, h3, h4⟩ hb => ⟨a, b, f, cells_dep h1 hb (by omega), cells_dep h2 hb (by omega), cells_dep h3 hb h, h4⟩
set_option maxRecDepth 100000 in
set_option maxHeartbeats 4000000 in
theorem extremes_of (gf : Nat) (lb : Array Value) (mine : Nat → Prop) (x0 : Int) (r : List Int) (w : World) (hit : Iter Try.prog gf lb (fun x : Int => #[.int .i64 x]) mine (x0 :: r) w) (eg : ∀ args w, (callFunc gf args).run Try.prog w = .ok (.enter gf args) w) (hm : ∀ k, mine k → k < w.heap.size) :
    Calls Try.prog 51 #[.func (.func gf) #[] lb] w fun e w' => e = .returned (.tuple #[.int .i64 (leastF x0 r), .int .i64 (mostF x0 r)]) ∧ Below w.heap.size w w' := by
  refine (callsIn_wide (n := 3)).1 ?_
  have mixed : Try.prog.follows .mixedOrders = true := by kernel_rfl
  have HIT := Lib.hid hit
  have HM := Lib.hid hm
  have HEG := Lib.hid eg
  clear hit hm eg
  refine callsIn_of_wp_marks Try.func51 rfl trivial ?_ rfl
  simp only [Try.ntmps51, List.size_toArray, List.length_cons, List.length_nil, Nat.reduceAdd, Nat.reduceSub, Array.replicate_succ, Array.replicate_zero, List.push_toArray, List.append_toArray, List.nil_append, List.cons_append]
  gi_wp2
  have hB0 : Below w.heap.size w (((w.alloc (.cells #[.int .i64 0] 3)).alloc (.cells #[.int .i64 0] 3)).alloc (.cells #[.bool true] 4)) := box3_below _ _ _ _
  have hz : (((w.alloc (.cells #[.int .i64 0] 3)).alloc (.cells #[.int .i64 0] 3)).alloc (.cells #[.bool true] 4)).heap.size = w.heap.size + 3 := by simp
  have hS0 : St w.heap.size [] (((w.alloc (.cells #[.int .i64 0] 3)).alloc (.cells #[.int .i64 0] 3)).alloc (.cells #[.bool true] 4)) := by
    have k1 := Ser2.cells_new w #[.int .i64 0] 3
    have k2 := Ser2.cells_new (w.alloc (.cells #[.int .i64 0] 3)) #[.int .i64 0] 3
    have k3 := Ser2.cells_new ((w.alloc (.cells #[.int .i64 0] 3)).alloc (.cells #[.int .i64 0] 3)) #[.bool true] 4
    rw [World.size_alloc] at k2
    rw [World.size_alloc, World.size_alloc] at k3
    exact ⟨0, 0, true, (k1.kept (box_below _ _ _)).kept (box_below _ _ _), k2.kept (box_below _ _ _), k3, .inl ⟨rfl, rfl⟩⟩
  obtain ⟨W0, hW0⟩ : ∃ W0, (((w.alloc (.cells #[.int .i64 0] 3)).alloc (.cells #[.int .i64 0] 3)).alloc (.cells #[.bool true] 4)) = W0 := ⟨_, rfl⟩
  rw [hW0] at hB0 hz hS0 ⊢
  clear hW0
  have HB0 := Lib.hid hB0
  have HS0 := Lib.hid hS0
  have HZ := Lib.hid hz
  clear hB0 hS0 hz
  refine range_law (gf := gf) (lb := lb) (n := 3) rfl HEG.out HIT.out HB0.out (fun k hk => by have := HM.out k hk; have := HZ.out; omega) (fun _ => rfl)
    (fun k => k = w.heap.size ∨ k = w.heap.size + 1 ∨ k = w.heap.size + 2) (fun k hk => ⟨by have := HZ.out; omega, fun h => by have := HM.out k h; omega⟩)
    (fun pre W => St w.heap.size pre W ∧ Below w.heap.size w W) (fun _ _ => False) ((St.dep (by have := HZ.out; omega)).and (fun s A C h hb => h.trans (hb.mono (by have := HZ.out; omega)))) (fun _ _ _ h _ => h) ⟨HS0.out, HB0.out⟩
    (fun x a' _ => a' = { tmps := #[.func (.func gf) #[] lb, undef, .int .i64 0, .int .i64 0, .pointer (some ⟨w.heap.size, 0, none⟩), .pointer (some ⟨w.heap.size + 1, 0, none⟩), .pointer (some ⟨w.heap.size + 1 + 1, 0, none⟩), .int .i64 x, .func (.func gf) #[] lb, .int .i64 x, undef, undef, undef, undef, undef, undef, undef, undef, undef, undef, undef], defers := [] }) (fun _ _ _ _ _ _ h _ => h) ?assign ?body ?done ?stop
  case assign =>
    intro l pre x W K hzW hI hK
    gi_wp2
    exact hK _ _ (Sv.refl _ _) hI rfl
  case body =>
    rintro l pre x a' W hzW ⟨⟨a, b, f, k1, k2, k3, hst⟩, hB⟩ rfl hpre
    obtain ⟨c1, f1⟩ := cells_one k1
    obtain ⟨c2, f2⟩ := cells_one k2
    obtain ⟨c3, f3⟩ := cells_one k3
    have K1 := Lib.hid k1
    have K2 := Lib.hid k2
    have K3 := Lib.hid k3
    have HB := Lib.hid hB
    have HST := Lib.hid hst
    clear k1 k2 k3 hB hst
    cases f
    · have HF : Hid (∀ u v : Int, u = min a x → v = max b x → Sv (fun k => k = w.heap.size ∨ k = w.heap.size + 1 ∨ k = w.heap.size + 2) W (((W.setCell ⟨w.heap.size, 0, none⟩ (.int .i64 u)).setCell ⟨w.heap.size + 1, 0, none⟩ (.int .i64 v)).drew) ∧ St w.heap.size (pre ++ [x]) (((W.setCell ⟨w.heap.size, 0, none⟩ (.int .i64 u)).setCell ⟨w.heap.size + 1, 0, none⟩ (.int .i64 v)).drew) ∧ Below w.heap.size w (((W.setCell ⟨w.heap.size, 0, none⟩ (.int .i64 u)).setCell ⟨w.heap.size + 1, 0, none⟩ (.int .i64 v)).drew)) := fun u v hu hv => by
        refine ⟨?_, ?_, ?_⟩
        · exact (((Sv.refl _ W).setCell (.inl rfl) 0 _).setCell (.inr (.inl rfl)) 0 _).trans (Sv.of_below ((Below.refl _ _).drew))
        · have hd : ∀ (V : World) g v, CellsW V g [v] → CellsW V.drew g [v] := fun V g v h => h.kept ((Below.refl _ _).drew)
          refine ⟨u, v, false, hd _ _ _ (cells_off1 (cells_set1 K1.out _) _ (by omega)), hd _ _ _ (cells_set1 (cells_off1 K2.out _ (by omega)) _), hd _ _ _ (cells_off1 (cells_off1 K3.out _ (by omega)) _ (by omega)), .inr ?_⟩
          rcases HST.out with ⟨-, h⟩ | ⟨y, q, h1, -, h2, h3⟩
          · cases h
          · exact ⟨y, q ++ [x], by rw [h1]; rfl, rfl, by rw [leastF_snoc, ← h2, hu], by rw [mostF_snoc, ← h3, hv]⟩
        · exact (((HB.out.setCell (p := ⟨w.heap.size, 0, none⟩) (Nat.le_refl _) _).setCell (p := ⟨w.heap.size + 1, 0, none⟩) (Nat.le_add_right w.heap.size 1) _)).trans (Below.refl _ _).drew
      gi_wp2
      gi_region
      all_goals exact HF.out _ _ (by first | omega | (split <;> omega)) (by first | omega | (split <;> omega))
    · have HF : Hid (Sv (fun k => k = w.heap.size ∨ k = w.heap.size + 1 ∨ k = w.heap.size + 2) W ((((((W.setCell ⟨w.heap.size, 0, none⟩ (.int .i64 x)).setCell ⟨w.heap.size + 1, 0, none⟩ (.int .i64 x)).setCell ⟨w.heap.size + 2, 0, none⟩ (.bool false)).setCell ⟨w.heap.size, 0, none⟩ (.int .i64 x)).setCell ⟨w.heap.size + 1, 0, none⟩ (.int .i64 x)).drew) ∧ St w.heap.size (pre ++ [x]) ((((((W.setCell ⟨w.heap.size, 0, none⟩ (.int .i64 x)).setCell ⟨w.heap.size + 1, 0, none⟩ (.int .i64 x)).setCell ⟨w.heap.size + 2, 0, none⟩ (.bool false)).setCell ⟨w.heap.size, 0, none⟩ (.int .i64 x)).setCell ⟨w.heap.size + 1, 0, none⟩ (.int .i64 x)).drew) ∧ Below w.heap.size w ((((((W.setCell ⟨w.heap.size, 0, none⟩ (.int .i64 x)).setCell ⟨w.heap.size + 1, 0, none⟩ (.int .i64 x)).setCell ⟨w.heap.size + 2, 0, none⟩ (.bool false)).setCell ⟨w.heap.size, 0, none⟩ (.int .i64 x)).setCell ⟨w.heap.size + 1, 0, none⟩ (.int .i64 x)).drew)) := by
        refine ⟨?_, ?_, ?_⟩
        · exact ((((((Sv.refl _ W).setCell (.inl rfl) 0 _).setCell (.inr (.inl rfl)) 0 _).setCell (.inr (.inr rfl)) 0 _).setCell (.inl rfl) 0 _).setCell (.inr (.inl rfl)) 0 _).trans (Sv.of_below ((Below.refl _ _).drew))
        · have hd : ∀ (V : World) g v, CellsW V g [v] → CellsW V.drew g [v] := fun V g v h => h.kept ((Below.refl _ _).drew)
          refine ⟨x, x, false, hd _ _ _ (cells_off1 (cells_set1 (cells_off1 (cells_off1 (cells_set1 K1.out (.int .i64 x)) _ (by omega)) _ (by omega)) _) _ (by omega)), hd _ _ _ (cells_set1 (cells_off1 (cells_off1 (cells_set1 (cells_off1 K2.out _ (by omega)) (.int .i64 x)) _ (by omega)) _ (by omega)) _), hd _ _ _ (cells_off1 (cells_off1 (cells_set1 (cells_off1 (cells_off1 K3.out _ (by omega)) _ (by omega)) _) _ (by omega)) _ (by omega)), .inr ?_⟩
          rcases HST.out with ⟨h, -⟩ | ⟨y, q, -, h, -⟩
          · exact ⟨x, [], by rw [h]; rfl, rfl, rfl, rfl⟩
          · cases h
        · exact (((((HB.out.setCell (p := ⟨w.heap.size, 0, none⟩) (Nat.le_refl _) _).setCell (p := ⟨w.heap.size + 1, 0, none⟩) (Nat.le_add_right w.heap.size 1) _).setCell (p := ⟨w.heap.size + 2, 0, none⟩) (Nat.le_add_right w.heap.size 2) _).setCell (p := ⟨w.heap.size, 0, none⟩) (Nat.le_refl _) _).setCell (p := ⟨w.heap.size + 1, 0, none⟩) (Nat.le_add_right w.heap.size 1) _).trans (Below.refl _ _).drew
      gi_wp2
      gi_region
      all_goals exact HF.out
  case done =>
    rintro W ⟨⟨a, b, f, k1, k2, k3, hst⟩, hB⟩ hK
    obtain ⟨c1, f1⟩ := cells_one k1
    obtain ⟨c2, f2⟩ := cells_one k2
    have hab : a = leastF x0 r ∧ b = mostF x0 r := by
      rcases hst with ⟨h, -⟩ | ⟨y, q, h, -, h1, h2⟩
      · cases h
      · cases h; exact ⟨h1, h2⟩
    have HK := Lib.hid hK
    have HB := Lib.hid hB
    have HAB := Lib.hid hab
    clear k1 k2 k3 hst hB hab
    obtain ⟨rfl, rfl⟩ := HAB.out
    clear HAB
    gi_wp2
    gi_region
    gi_wp2
    refine ⟨by simp, .inl ⟨_, _, rfl, run_takeDeferred (show W.drew.heap[W0.heap.size]? = _ from HK.out), ?_⟩⟩
    refine ⟨.tuple #[.int .i64 (leastF x0 r), .int .i64 (mostF x0 r)], ?_, rfl, ?_⟩
    · simp [results, Try.results51, go_sem]
    · exact (HB.out.trans (Below.refl _ _).drew).trans (putObj_below (by have := HB0.out.size; have := HZ.out; omega) _)
  case stop =>
    rintro pre W _ h _
    exact h.elim
end Go.Proofs.Ytcjjdnfikccnmaa.Ext
