/- SumOfMetric of chapter 2: the values of the samples with that Metric and At, collected in a row of the call's own and added. -/
import Derived.Test.YtahhemgmlmhbjaaSmps
import Derived.Test.YtahhemgmlmhbjaaC1L
namespace Go.Proofs.Ytahhemgmlmhbjaa.Sum
open Go.RowKit Go.Deep
open Go.Proofs.Ytahhemgmlmhbjaa.C1
open Go.Proofs.Ytahhemgmlmhbjaa.Ints
open Go.Proofs.Ytahhemgmlmhbjaa.C1L
open Go.Proofs.Ytahhemgmlmhbjaa.C2
open Go.Proofs.Ytahhemgmlmhbjaa.Smps
set_option linter.unusedVariables false

def selP (m : ByteArray) (t : Int) (s : Smp) : Bool := (s.met.toList == m.toList) && (s.tick == t)
def sel (xs : List Smp) (m : ByteArray) (t : Int) : List Int := (xs.filter (selP m t)).map (·.val)
theorem sel_yes {xs : List Smp} {m : ByteArray} {t : Int} {k : Nat} (hk : k < xs.length) (h : selP m t xs[k] = true) : sel (xs.take (k + 1)) m t = sel (xs.take k) m t ++ [xs[k].val] := by
  unfold sel
  rw [List.take_succ_eq_append_getElem hk, List.filter_append, List.map_append]
  simp [h]
theorem sel_no {xs : List Smp} {m : ByteArray} {t : Int} {k : Nat} (hk : k < xs.length) (h : selP m t xs[k] = false) : sel (xs.take (k + 1)) m t = sel (xs.take k) m t := by
  unfold sel
  rw [List.take_succ_eq_append_getElem hk, List.filter_append, List.map_append]
  simp [h]
theorem sel_len (xs : List Smp) (m : ByteArray) (t : Int) : (sel xs m t).length ≤ xs.length := by
  unfold sel
  rw [List.length_map]
  exact List.length_filter_le _ _

/-- A row of the call's own whose cells are numbers. -/
def OwnI (w : World) (B : Nat) (v : Value) (xs : List Int) : Prop := w.ownsRow B 3 1 v xs.length (xs.map (Value.int .i64))
theorem OwnI.ints {w : World} {B : Nat} {v : Value} {xs : List Int} (h : OwnI w B v xs) : ∃ a cap, v = .slice a xs.length cap ∧ Ints w a xs := by
  have h' : w.ownsRow B 3 1 v xs.length (xs.map (Value.int .i64)) := h
  rcases h.2 with ⟨hv, h0⟩ | ⟨g, cap, cur, hv, _⟩
  · exact ⟨none, 0, by rw [hv, h0], .inl (List.length_eq_zero_iff.1 h0)⟩
  · rw [hv] at h'
    exact ⟨_, cap, hv, owned_ints h' rfl⟩
theorem OwnI.snoc {w : World} {B : Nat} {v : Value} {xs : List Int} {x : Int} (h : w.ownsRow B 3 1 v (xs.length + 1) (xs.map (Value.int .i64) ++ [.int .i64 x])) : OwnI w B v (xs ++ [x]) := by
  unfold OwnI
  rw [List.length_append, List.map_append]
  exact h
theorem OwnI.kept {w w' : World} {B : Nat} {v : Value} {xs : List Int} (h : OwnI w B v xs) (hb : Below w.heap.size w w') : OwnI w' B v xs := by
  obtain ⟨h1, h2⟩ := h
  refine ⟨h1, ?_⟩
  rcases h2 with h2 | ⟨g, cap, cur, hv, hg, hh, r⟩
  · exact .inl h2
  · exact .inr ⟨g, cap, cur, hv, hg, by rw [hb.block g (Array.getElem?_eq_some_iff.1 hh).1]; exact hh, r⟩
/-- The one new cell that an append of one number reads. -/
theorem one_cell (w : World) (x : Int) (t : TypeId) : ∀ (j : Nat) (u : Value), [Value.int .i64 x][j]? = some u → (w.alloc (.cells #[.int .i64 x] t)).cell? ((⟨w.heap.size, 0, none⟩ : Addr).add j) = some u := by
  intro j u hj
  match j, hj with
  | 0, hj => simp at hj; subst hj; simp [Addr.add]
theorem info_int : ∃ i, Try.prog.info? 3 = some i ∧ i.zero = some (.int .i64 0) ∧ i.size = 1 ∧ i.bytes = 8 := by
  obtain ⟨i, hi, hz⟩ := Option.map_eq_some_iff.1 info3
  simp only [Prod.mk.injEq] at hz
  exact ⟨i, hi, hz.1, hz.2.1, hz.2.2⟩

set_option maxHeartbeats 4000000 in
theorem spec_sum (xs : List Smp) (a : Option Addr) (cap : Nat) (m : ByteArray) (t : Int) (w : World) (h : Smps w a xs) (hm : xs.length ≤ 1048576) :
    Calls Try.prog 26 #[.slice a xs.length cap, .string m, .int .i64 t] w fun e w' => e = .returned (.tuple #[.int .i64 (addV (sel xs m t)), .bool (addB (sel xs m t))]) ∧ Below w.heap.size w w' := by
  obtain ⟨b, off, ha, hb, hcell⟩ := h.cells
  obtain ⟨i0, hi, hz0, hz1, hz2⟩ := info_int
  have Hc := Lib.hid hcell
  have Ha := Lib.hid ha
  have Hb := Lib.hid hb
  clear hcell ha hb h
  have hstart : Hid (OwnI (w.alloc (.cells #[] 3)) w.heap.size (.slice (some ⟨w.heap.size, 0, none⟩) 0 0) []) := World.ownsRow_lit (e := 3) (size := 1) (base := w.heap.size) w #[] 0 (Nat.le_refl _) (by unfold maxLen; omega) rfl
  have hbel : Hid (Below w.heap.size w (w.alloc (.cells #[] 3))) := (Below.refl _ _).alloc (Nat.le_refl _) _
  go_enter Try.func26, Try.ntmps26
  go_wp2
  go_loopw [8, 9] (fun v i wr => ∃ k : Nat, k ≤ xs.length ∧ i = .int .i64 k ∧ OwnI wr w.heap.size v (sel (xs.take k) m t) ∧ Hid (Below w.heap.size w wr)) (fun _ i _ => xs.length - (intOf i).toNat)
  case atStart => exact ⟨0, Nat.zero_le _, rfl, hstart.out, hbel⟩
  case round =>
    obtain ⟨k, hk, rfl, hown, HB⟩ := hrel
    have HO := Lib.hid hown
    clear hown
    by_cases hlt : k < xs.length
    · obtain rfl := Ha.out (by omega)
      obtain ⟨q0, q1, q2, q3⟩ := (Hc.out k hlt).kept HB.out (Hb.out (by omega))
      have hys : (sel (xs.take k) m t).length ≤ 1048576 := Nat.le_trans (sel_len _ _ _) (by simp; omega)
      have HY := Lib.hid hys
      clear hys
      cases c1 : (xs[k].met.toList == m.toList)
      · have HN : Hid (sel (xs.take (k + 1)) m t = sel (xs.take k) m t) := sel_no hlt (by unfold selP; rw [c1]; rfl)
        go_wp2
        go_roundw
        case rel => exact ⟨k + 1, by omega, by go_num, by rw [HN.out]; exact HO.out, HB⟩
        case measure => simp [intOf]; omega
      · cases c2 : (xs[k].tick == t)
        · have HN : Hid (sel (xs.take (k + 1)) m t = sel (xs.take k) m t) := sel_no hlt (by unfold selP; rw [c1, c2]; rfl)
          go_wp2
          go_roundw
          case rel => exact ⟨k + 1, by omega, by go_num, by rw [HN.out]; exact HO.out, HB⟩
          case measure => simp [intOf]; omega
        · have HN : Hid (sel (xs.take (k + 1)) m t = sel (xs.take k) m t ++ [xs[k].val]) := sel_yes hlt (by unfold selP; rw [c1, c2]; rfl)
          obtain ⟨ys, hys⟩ : ∃ ys, sel (xs.take k) m t = ys := ⟨_, rfl⟩
          rw [hys] at HO HY HN
          clear hys
          go_wp2_with (at_builtin; refine wpList_append_own _ rfl _ _ 56 rfl w.heap.size 3 i0 (.int .i64 0) 1 8 Try.underlying56 hi hz0 hz1 hz2 rfl (by decide) _ _ _ rfl (World.ownsRow.alloc HO.out _) ⟨wr.heap.size, 0, none⟩ 1 1 [.int .i64 xs[k].val] rfl rfl ?e1 ?e2 ?e3 ?e4 ?e5 ?_)
          case e2 => first | rfl | (intro u hu; simp at hu; subst hu; rfl)
          case e3 => have := HY.out; unfold maxLen; omega
          case e4 => have := HY.out; omega
          case e5 => have := HB.out.size; first | omega | (simp; omega)
          intro v' w8 hown' hgrow _
          have HO8 := Lib.hid (OwnI.snoc hown')
          have hrow : ∀ g, Value.ownBlock _ = some g → w.heap.size ≤ g := fun g hg => (World.ownsRow.lt HO.out g hg).1
          have HB8 := Lib.hid ((HB.out.alloc HB.out.size _).grown hgrow (by have := HB.out.size; simp; omega) hrow)
          clear hown' hgrow hrow
          go_wp2
          go_roundw
          case rel => exact ⟨k + 1, by omega, by go_num, by rw [HN.out]; exact HO8.out, HB8⟩
          case measure => simp [intOf]; omega
    · obtain rfl : k = xs.length := by omega
      rw [List.take_length] at HO
      obtain ⟨a2, cap2, rfl, hI⟩ := HO.out.ints
      have HI := Lib.hid hI
      have HL : Hid ((sel xs m t).length ≤ 35184372088832) := Nat.le_trans (sel_len _ _ _) (by omega)
      clear hI HO
      go_wp2_with (go_at_call 42; refine (spec_add (sel xs m t) _ _ _ HI.out HL.out).mono ?_; rintro e w' ⟨rfl, rfl⟩)
      go_ret2
      exact ⟨rfl, HB.out⟩

set_option maxHeartbeats 4000000 in
theorem impl_sum (xs : List Smp) (a : Option Addr) (cap : Nat) (m : ByteArray) (t : Int) (w : World) (h : Smps w a xs) (hm : xs.length ≤ 1048576) :
    Calls Try.prog 27 #[.slice a xs.length cap, .string m, .int .i64 t] w fun e w' => e = .returned (.tuple #[.int .i64 (addV (sel xs m t)), .bool (addB (sel xs m t))]) ∧ Below w.heap.size w w' := by
  obtain ⟨b, off, ha, hb, hcell⟩ := h.cells
  obtain ⟨i0, hi, hz0, hz1, hz2⟩ := info_int
  have Hc := Lib.hid hcell
  have Ha := Lib.hid ha
  have Hb := Lib.hid hb
  clear hcell ha hb h
  have hstart : Hid (OwnI w w.heap.size (.slice none 0 0) []) := ⟨rfl, .inl ⟨rfl, rfl⟩⟩
  go_enter Try.func27, Try.ntmps27
  go_wp2
  go_loopw [8, 13] (fun v i wr => ∃ k : Nat, k ≤ xs.length ∧ i = .int .i64 k ∧ OwnI wr w.heap.size v (sel (xs.take k) m t) ∧ Hid (Below w.heap.size w wr)) (fun _ i _ => xs.length - (intOf i).toNat)
  case atStart => exact ⟨0, Nat.zero_le _, rfl, hstart.out, Below.refl _ _⟩
  case round =>
    obtain ⟨k, hk, rfl, hown, HB⟩ := hrel
    have HO := Lib.hid hown
    clear hown
    by_cases hlt : k < xs.length
    · obtain rfl := Ha.out (by omega)
      obtain ⟨q0, q1, q2, q3⟩ := (Hc.out k hlt).kept HB.out (Hb.out (by omega))
      have hys : (sel (xs.take k) m t).length ≤ 1048576 := Nat.le_trans (sel_len _ _ _) (by simp; omega)
      have HY := Lib.hid hys
      have HBX : Hid (Below w.heap.size w (wr.alloc (.cells #[.string xs[k].pod, .string xs[k].met, .int .i64 xs[k].val, .int .i64 xs[k].tick] 27))) := HB.out.alloc HB.out.size _
      have HOX : Hid (OwnI (wr.alloc (.cells #[.string xs[k].pod, .string xs[k].met, .int .i64 xs[k].val, .int .i64 xs[k].tick] 27)) w.heap.size u8 (sel (xs.take k) m t)) := HO.out.kept (box_below _ _ _)
      clear hys
      cases c1 : (xs[k].met.toList == m.toList)
      · have HN : Hid (sel (xs.take (k + 1)) m t = sel (xs.take k) m t) := sel_no hlt (by unfold selP; rw [c1]; rfl)
        go_wp2
        go_roundw
        case rel => exact ⟨k + 1, by omega, by go_num, by rw [HN.out]; exact HOX.out, HBX⟩
        case measure => simp [intOf]; omega
      · cases c2 : (xs[k].tick == t)
        · have HN : Hid (sel (xs.take (k + 1)) m t = sel (xs.take k) m t) := sel_no hlt (by unfold selP; rw [c1, c2]; rfl)
          go_wp2
          go_roundw
          case rel => exact ⟨k + 1, by omega, by go_num, by rw [HN.out]; exact HOX.out, HBX⟩
          case measure => simp [intOf]; omega
        · have HN : Hid (sel (xs.take (k + 1)) m t = sel (xs.take k) m t ++ [xs[k].val]) := sel_yes hlt (by unfold selP; rw [c1, c2]; rfl)
          obtain ⟨ys, hys⟩ : ∃ ys, sel (xs.take k) m t = ys := ⟨_, rfl⟩
          rw [hys] at HOX HY HN
          clear hys
          go_wp2_with (at_builtin; refine wpList_append_own _ rfl _ _ 56 rfl w.heap.size 3 i0 (.int .i64 0) 1 8 Try.underlying56 hi hz0 hz1 hz2 rfl (by decide) _ _ _ rfl (World.ownsRow.alloc HOX.out _) ⟨wr.heap.size + 1, 0, none⟩ 1 1 [.int .i64 xs[k].val] rfl rfl ?e1 ?e2 ?e3 ?e4 ?e5 ?_)
          case e2 => first | rfl | (intro u hu; simp at hu; subst hu; rfl)
          case e3 => have := HY.out; unfold maxLen; omega
          case e4 => have := HY.out; omega
          case e5 => have := HB.out.size; first | omega | (simp; omega)
          intro v' w8 hown' hgrow _
          have HO8 := Lib.hid (OwnI.snoc hown')
          have hrow : ∀ g, Value.ownBlock _ = some g → w.heap.size ≤ g := fun g hg => (World.ownsRow.lt HOX.out g hg).1
          have HB8 := Lib.hid ((HBX.out.alloc HBX.out.size _).grown hgrow (by have := HB.out.size; simp; omega) hrow)
          clear hown' hgrow hrow
          go_wp2
          go_roundw
          case rel => exact ⟨k + 1, by omega, by go_num, by rw [HN.out]; exact HO8.out, HB8⟩
          case measure => simp [intOf]; omega
    · obtain rfl : k = xs.length := by omega
      rw [List.take_length] at HO
      obtain ⟨a2, cap2, rfl, hI⟩ := HO.out.ints
      have HI := Lib.hid hI
      have HL : Hid ((sel xs m t).length ≤ 35184372088832) := Nat.le_trans (sel_len _ _ _) (by omega)
      clear hI HO
      go_wp2_with (go_at_call 43; refine (impl_add (sel xs m t) _ _ _ HI.out HL.out).mono ?_; rintro e w' ⟨rfl, rfl⟩)
      go_ret2
      exact ⟨rfl, HB.out⟩
end Go.Proofs.Ytahhemgmlmhbjaa.Sum
