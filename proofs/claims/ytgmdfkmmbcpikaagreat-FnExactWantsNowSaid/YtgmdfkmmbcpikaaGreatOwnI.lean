/- Rows of numbers of the call's own ('OwnI'), one number appended; laws.markIntS, laws.heldIntS. -/
import Derived.Test.YtgmdfkmmbcpikaaGreatInts
import Derived.Test.YtgmdfkmmbcpikaaGreatMem
import Derived.Deep.RegionHeld3
namespace Go.Proofs.YtgmdfkmmbcpikaaGreat.OwnI
open Go.RowKit Go.Deep
open Go.Proofs.YtgmdfkmmbcpikaaGreat.C1
open Go.Proofs.YtgmdfkmmbcpikaaGreat.C2
open Go.Proofs.YtgmdfkmmbcpikaaGreat.Ints
open Go.Proofs.YtgmdfkmmbcpikaaGreat.Smps
open Go.Proofs.YtgmdfkmmbcpikaaGreat.Mem
set_option linter.unusedVariables false

/-- A row of the call's own whose cells are numbers. -/
def OwnI (w : World) (B : Nat) (v : Value) (xs : List Int) : Prop := w.ownsRow B 3 1 v xs.length (xs.map (Value.int .i64))
theorem OwnI.ints {w : World} {B : Nat} {v : Value} {xs : List Int} (h : OwnI w B v xs) : ∃ a cap, v = .slice a xs.length cap ∧ Ints w a xs := by
  have h' : w.ownsRow B 3 1 v xs.length (xs.map (Value.int .i64)) := h
  rcases h.2 with ⟨hv, h0⟩ | ⟨g, cap, cur, hv, _⟩
  · exact ⟨none, 0, by rw [hv, h0], .inl (List.length_eq_zero_iff.1 h0)⟩
  · rw [hv] at h'
    exact ⟨_, cap, hv, owned_ints h' rfl⟩
theorem OwnI.snoc {w : World} {B : Nat} {v : Value} {xs : List Int} {x : Int} (h : w.ownsRow B 3 1 v (xs.length + 1) (xs.map (Value.int .i64) ++ [.int .i64 x])) : OwnI w B v (xs ++ [x]) := by
  unfold OwnI
  rw [List.length_append, List.map_append]
  exact h
theorem OwnI.kept {w w' : World} {B : Nat} {v : Value} {xs : List Int} (h : OwnI w B v xs) (hb : Below w.heap.size w w') : OwnI w' B v xs := by
  obtain ⟨h1, h2⟩ := h
  refine ⟨h1, ?_⟩
  rcases h2 with h2 | ⟨g, cap, cur, hv, hg, hh, r⟩
  · exact .inl h2
  · exact .inr ⟨g, cap, cur, hv, hg, by rw [hb.block g (Array.getElem?_eq_some_iff.1 hh).1]; exact hh, r⟩
/-- The one new cell that an append of one number reads. -/
theorem one_cell (w : World) (x : Int) (t : TypeId) : ∀ (j : Nat) (u : Value), [Value.int .i64 x][j]? = some u → (w.alloc (.cells #[.int .i64 x] t)).cell? ((⟨w.heap.size, 0, none⟩ : Addr).add j) = some u := by
  intro j u hj
  match j, hj with
  | 0, hj => simp at hj; subst hj; simp [Addr.add]
theorem info_int : ∃ i, Tryz.prog.info? 3 = some i ∧ i.zero = some (.int .i64 0) ∧ i.size = 1 ∧ i.bytes = 8 := by
  obtain ⟨i, hi, hz⟩ := Option.map_eq_some_iff.1 info3
  simp only [Prod.mk.injEq] at hz
  exact ⟨i, hi, hz.1, hz.2.1, hz.2.2⟩

theorem OwnI.nil (w : World) (B : Nat) : OwnI w B (.slice none 0 0) [] := ⟨rfl, .inl ⟨rfl, rfl⟩⟩
theorem OwnI.new (w : World) {B : Nat} (hB : B ≤ w.heap.size) : OwnI (w.alloc (.cells #[] 3)) B (.slice (some ⟨w.heap.size, 0, none⟩) 0 0) [] := World.ownsRow_lit (e := 3) (size := 1) (base := B) w #[] 0 hB (by unfold maxLen; omega) rfl
theorem OwnI.form {w : World} {B : Nat} {v : Value} {xs : List Int} (h : OwnI w B v xs) : ∃ a cap, v = .slice a xs.length cap ∧ OwnI w B (.slice a xs.length cap) xs ∧ ∀ c o s, a = some ⟨c, o, s⟩ → B ≤ c ∧ c < w.heap.size := by
  have h' := h
  rcases h.2 with ⟨hv, h0⟩ | ⟨g, cap, cur, hv, hg, hh, _⟩
  · refine ⟨none, 0, by rw [hv, h0], ?_, fun c o s e => by cases e⟩
    rw [hv] at h'
    rw [h0]
    exact h'
  · rw [hv] at h'
    exact ⟨_, cap, hv, h', fun c o s e => by cases e; exact ⟨hg, (Array.getElem?_eq_some_iff.1 hh).1⟩⟩
theorem OwnI.mono {w : World} {B B' : Nat} {v : Value} {xs : List Int} (h : OwnI w B v xs) (hB : B' ≤ B) : OwnI w B' v xs := by
  obtain ⟨h1, h2⟩ := h
  refine ⟨h1, ?_⟩
  rcases h2 with h2 | ⟨g, cap, cur, hv, hg, r⟩
  · exact .inl h2
  · exact .inr ⟨g, cap, cur, hv, Nat.le_trans hB hg, r⟩

/-! ### The marks of numbers. -/
def mkI (k n : Nat) : List Int := (List.range n).map fun i => ((k + i : Nat) : Int)
theorem mkI_len (k n : Nat) : (mkI k n).length = n := by simp [mkI]
theorem mkI_get (k n i : Nat) (h : i < (mkI k n).length) : (mkI k n)[i] = ((k + i : Nat) : Int) := by simp [mkI]
def halfI (k : Nat) (ps : List Int) (i : Nat) : List Int := (mkI k ps.length).take i ++ ps.drop i
theorem halfI_len (k : Nat) (ps : List Int) (i : Nat) (h : i ≤ ps.length) : (halfI k ps i).length = ps.length := by unfold halfI; simp [mkI_len]; omega
theorem halfI_set (k : Nat) (ps : List Int) (i : Nat) (h : i < ps.length) : (halfI k ps i).set i ((k + i : Nat) : Int) = halfI k ps (i + 1) := by
  unfold halfI
  have hl : i < (mkI k ps.length).length := by rw [mkI_len]; exact h
  rw [List.set_append, if_neg (by simp [mkI_len]; omega), List.drop_eq_getElem_cons h, List.take_succ_eq_append_getElem hl, mkI_get]
  have e : i - ((mkI k ps.length).take i).length = 0 := by simp [mkI_len]; omega
  rw [e, List.set_cons_zero, List.append_assoc]
  rfl
theorem halfI_all (k : Nat) (ps : List Int) : halfI k ps ps.length = mkI k ps.length := by
  unfold halfI
  rw [List.drop_length, List.append_nil, List.take_of_length_le (by rw [mkI_len]; exact Nat.le_refl _)]
theorem halfI_none (k : Nat) (ps : List Int) : halfI k ps 0 = ps := by unfold halfI; simp
theorem OwnI.cell {w : World} {B g cap : Nat} {xs : List Int} (h : OwnI w B (.slice (some ⟨g, 0, none⟩) xs.length cap) xs) (i : Nat) (hi : i < xs.length) : w.cell? ⟨g, i, none⟩ = some (.int .i64 xs[i]) ∧ w.frozen? ⟨g, i, none⟩ = false := by
  refine ⟨?_, World.ownsRow.frozenAt h i⟩
  rw [World.ownsRow.cellAt h i (by omega)]
  simp [hi]
theorem OwnI.put {w : World} {B g cap n : Nat} {xs : List Int} (h : OwnI w B (.slice (some ⟨g, 0, none⟩) n cap) xs) (hn : n = xs.length) (i : Nat) (hi : i < xs.length) (x : Int) : OwnI (w.setCell ⟨g, i, none⟩ (.int .i64 x)) B (.slice (some ⟨g, 0, none⟩) n cap) (xs.set i x) := by
  subst hn
  have h1 := (World.ownsRow.stored h i (.int .i64 x)).1
  unfold OwnI
  rw [List.length_set, List.map_set]
  exact h1
/-- Nothing but the block of a may have been written. -/
def OnlyI (a : Option Addr) (w w' : World) : Prop := (a = none → w' = w) ∧ ∀ b o s, a = some ⟨b, o, s⟩ → Only b w w'
theorem onlyI_none (w : World) : OnlyI none w w := ⟨fun _ => rfl, fun b o s e => by cases e⟩
theorem onlyI_below {a : Option Addr} {w w' : World} (h : OnlyI a w w') {b : Nat} {x : World} (hb : Below b x w) (hlt : ∀ c o s, a = some ⟨c, o, s⟩ → b ≤ c) (h2 : b ≤ w.heap.size) : Below b x w' := by
  cases ha : a with
  | none => rw [h.1 ha]; exact hb
  | some p =>
    obtain ⟨c, o, s⟩ := p
    exact hb.trans ((h.2 c o s ha).below (hlt c o s ha) h2)
set_option maxHeartbeats 1000000 in
theorem mark_ints (xs : List Int) (a : Option Addr) (cap B k : Nat) (hk : k + xs.length ≤ 100000000) (w : World) (h : OwnI w B (.slice a xs.length cap) xs) :
    Calls Tryz.prog 15 #[.slice a xs.length cap, .int .i64 k] w fun e w' => e = .returned (.int .i64 ((k + xs.length : Nat) : Int)) ∧ OwnI w' B (.slice a xs.length cap) (mkI k xs.length) ∧ OnlyI a w w' := by
  rcases h.2 with ⟨hv, h0⟩ | ⟨g, cp, cur, hv, hg, hh, _⟩
  · have e : xs = [] := List.length_eq_zero_iff.1 h0
    subst e
    obtain ⟨rfl, rfl⟩ : a = none ∧ cap = 0 := by simpa using hv
    clear h h0 hv
    go_enter Tryz.func15, Tryz.ntmps15
    go_wp2
    refine wp_loop_rounds 1 ?_
    rw [rounds_succ]
    go_wp2
    go_ret
    exact ⟨rfl, OwnI.nil _ _, onlyI_none _⟩
  · obtain ⟨rfl, rfl⟩ : a = some ⟨g, 0, none⟩ ∧ cap = cp := by simpa using hv
    have HO := Lib.hid h
    have HG := Lib.hid hg
    clear h hg hh
    go_enter Tryz.func15, Tryz.ntmps15
    go_wp2
    go_loopw [1, 5] (fun v i wr => ∃ j : Nat, j ≤ xs.length ∧ i = .int .i64 j ∧ v = .int .i64 ((k + j : Nat) : Int) ∧ Hid (OwnI wr B (.slice (some ⟨g, 0, none⟩) xs.length cap) (halfI k xs j)) ∧ Hid (Only g w wr)) (fun _ i _ => xs.length - (intOf i).toNat)
    case atStart => exact ⟨0, Nat.zero_le _, rfl, rfl, by rw [halfI_none]; exact HO, Only.refl _ _⟩
    case round =>
      obtain ⟨j, hj, rfl, rfl, HR, HW⟩ := hrel
      by_cases hlt : j < xs.length
      · have hl := halfI_len k xs j hj
        have ho2 : OwnI wr B (.slice (some ⟨g, 0, none⟩) (halfI k xs j).length cap) (halfI k xs j) := by rw [hl]; exact HR.out
        obtain ⟨z, c0⟩ : ∃ z, wr.cell? ⟨g, j, none⟩ = some (.int .i64 z) := ⟨_, (ho2.cell j (by omega)).1⟩
        have f0 := (ho2.cell j (by omega)).2
        have hp := (HR.out.put hl.symm j (by omega) ((k + j : Nat) : Int))
        rw [halfI_set k xs j hlt] at hp
        have HP := Lib.hid hp
        have HW2 := Lib.hid (HW.out.setCell j (.int .i64 ((k + j : Nat) : Int)))
        obtain ⟨q, hq⟩ : ∃ q : Nat, k + j = q := ⟨_, rfl⟩
        have hq2 : k + (j + 1) = q + 1 := by omega
        rw [hq] at HP HW2 ⊢
        clear ho2 hp hl
        go_wp2
        go_roundw
        case rel => exact ⟨j + 1, by omega, by go_num, by rw [hq2]; go_num, HP, HW2⟩
        case measure => simp [intOf]; omega
      · obtain rfl : j = xs.length := by omega
        have HF : Hid (OwnI wr B (.slice (some ⟨g, 0, none⟩) xs.length cap) (mkI k xs.length)) := by rw [← halfI_all]; exact HR
        go_wp2
        go_ret
        exact ⟨rfl, HF.out, ⟨fun e => (by cases e), fun b o s e => (by cases e; exact HW.out)⟩⟩
set_option maxHeartbeats 1000000 in
theorem held_ints (n : Nat) (a : Option Addr) (cap B k : Nat) (hk : k + n ≤ 100000000) (w : World) (h : OwnI w B (.slice a n cap) (mkI k n)) :
    Calls Tryz.prog 16 #[.slice a n cap, .int .i64 k] w fun e w' => e = .returned (.int .i64 ((k + n : Nat) : Int)) ∧ Below w.heap.size w w' := by
  have hl0 := mkI_len k n
  rcases h.2 with ⟨hv, h0⟩ | ⟨g, cp, cur, hv, hg, hh, _⟩
  · obtain rfl : n = 0 := by omega
    obtain ⟨rfl, rfl⟩ : a = none ∧ cap = 0 := by simpa using hv
    clear h h0 hv hl0
    go_enter Tryz.func16, Tryz.ntmps16
    go_wp2
    refine wp_loop_rounds 1 ?_
    rw [rounds_succ]
    go_wp2
    go_ret
    exact ⟨rfl, Below.refl _ _⟩
  · obtain ⟨rfl, -, rfl⟩ : a = some ⟨g, 0, none⟩ ∧ n = (mkI k n).length ∧ cap = cp := by simpa using hv
    have hl := mkI_len k n
    have ho2 : OwnI w B (.slice (some ⟨g, 0, none⟩) (mkI k n).length cap) (mkI k n) := by rw [hl]; exact h
    have HO := Lib.hid ho2
    have HGL := Lib.hid (Array.getElem?_eq_some_iff.1 hh).1
    clear h hg hh ho2
    go_enter Tryz.func16, Tryz.ntmps16
    go_wp2
    go_loopw [1, 5] (fun v i wr => ∃ j : Nat, j ≤ n ∧ i = .int .i64 j ∧ v = .int .i64 ((k + j : Nat) : Int) ∧ Hid (Below w.heap.size w wr)) (fun _ i _ => n - (intOf i).toNat)
    case atStart => exact ⟨0, Nat.zero_le _, rfl, rfl, Below.refl _ _⟩
    case round =>
      obtain ⟨j, hj, rfl, rfl, HB⟩ := hrel
      by_cases hlt : j < n
      · have c0 := (HO.out.cell j (by omega)).1
        rw [mkI_get] at c0
        have c1 := (HB.out.cell (p := ⟨g, j, none⟩) HGL.out).trans c0
        obtain ⟨q, hq⟩ : ∃ q : Nat, k + j = q := ⟨_, rfl⟩
        have hq2 : k + (j + 1) = q + 1 := by omega
        rw [hq] at c1 ⊢
        have hne : ((q : Int) != (q : Int)) = false := by simp
        clear c0
        go_wp2
        go_roundw
        case rel => exact ⟨j + 1, by omega, by go_num, by rw [hq2]; go_num, HB⟩
        case measure => simp [intOf]; omega
      · obtain rfl : j = n := by omega
        go_wp2
        go_ret
        exact ⟨rfl, HB.out⟩
end Go.Proofs.YtgmdfkmmbcpikaaGreat.OwnI
