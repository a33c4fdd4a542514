/- Texts in parts at a byte: plain mathematics; slices of texts; the model's l01Parts, the program's cutAt. -/
import Derived.Test.YtimpajhgplkpmabDoorSmps
import Derived.Test.YtimpajhgplkpmabDoorMilli
import Derived.Lib.OthersKept
import Derived.Lib.TrimByte
import Derived.WalkSmall
namespace Go.Proofs.YtimpajhgplkpmabDoor.Split
open Go.RowKit
open Go.Proofs.YtimpajhgplkpmabDoor.C1
open Go.Proofs.YtimpajhgplkpmabDoor.C2
open Go.Proofs.YtimpajhgplkpmabDoor.Smps
open Go.Proofs.YtimpajhgplkpmabDoor.Milli
set_option linter.unusedVariables false

/-! ### Plain mathematics. -/
/-- After the first i places (the end counts as a place): the parts, and where the next one begins. -/
def spl (c : UInt8) (l : List UInt8) : Nat → List (List UInt8) × Nat
  | 0 => ([], 0)
  | i + 1 => if i = l.length ∨ l[i]? = some c then ((spl c l i).1 ++ [(l.drop (spl c l i).2).take (i - (spl c l i).2)], i + 1) else spl c l i
def parts (c : UInt8) (l : List UInt8) : List (List UInt8) := (spl c l (l.length + 1)).1
theorem spl_yes {c : UInt8} {l : List UInt8} {i : Nat} (h : i = l.length ∨ l[i]? = some c) : spl c l (i + 1) = ((spl c l i).1 ++ [(l.drop (spl c l i).2).take (i - (spl c l i).2)], i + 1) := by
  rw [spl, if_pos h]
theorem spl_no {c : UInt8} {l : List UInt8} {i : Nat} (h1 : i ≠ l.length) (h2 : l[i]? ≠ some c) : spl c l (i + 1) = spl c l i := by
  rw [spl, if_neg (by simp [h1, h2])]
theorem spl_jump {c : UInt8} {l : List UInt8} {i : Nat} : ∀ q, i + q ≤ l.length → (∀ j, i ≤ j → j < i + q → l[j]? ≠ some c) → spl c l (i + q) = spl c l i
  | 0, _, _ => rfl
  | q + 1, h1, h2 => by
    rw [← Nat.add_assoc, spl_no (by omega) (h2 (i + q) (by omega) (by omega)), spl_jump q (by omega) fun j h3 h4 => h2 j h3 (by omega)]
theorem spl_le (c : UInt8) (l : List UInt8) : ∀ i, (spl c l i).2 ≤ i ∧ (spl c l i).1.length ≤ i
  | 0 => by simp [spl]
  | i + 1 => by
    have := spl_le c l i
    rw [spl]
    split
    · refine ⟨Nat.le_refl _, ?_⟩
      rw [List.length_append]
      simp only [List.length_cons, List.length_nil]
      omega
    · omega
theorem cont_high (x : Nat) (h : x / 64 = 2) : 128 ≤ x := by omega
theorem decode_cont (s : ByteArray) (i : Nat) : i < s.size → i + (Utf8.decode s i).2 ≤ s.size ∧ ∀ j, 1 ≤ j → j < (Utf8.decode s i).2 → 128 ≤ (s.get! (i + j)).toNat := by
  intro hi
  unfold Utf8.decode
  simp only
  split
  · exact ⟨by omega, fun j h1 h2 => by omega⟩
  split
  · rename_i _ h
    simp only [Bool.and_eq_true, decide_eq_true_eq, beq_iff_eq] at h
    split
    · refine ⟨by simp only; omega, fun j h1 h2 => ?_⟩
      obtain rfl : j = 1 := by simp only at h2; omega
      exact cont_high _ h.2.2
    · exact ⟨by omega, fun j h1 h2 => by simp only at h2; omega⟩
  split
  · rename_i _ _ h
    simp only [Bool.and_eq_true, decide_eq_true_eq, beq_iff_eq] at h
    split
    · refine ⟨by simp only; omega, fun j h1 h2 => ?_⟩
      simp only at h2
      rcases (by omega : j = 1 ∨ j = 2) with rfl | rfl
      · exact cont_high _ h.1.2.2
      · exact cont_high _ h.2.2
    · exact ⟨by omega, fun j h1 h2 => by simp only at h2; omega⟩
  split
  · rename_i _ _ _ h
    simp only [Bool.and_eq_true, decide_eq_true_eq, beq_iff_eq] at h
    split
    · refine ⟨by simp only; omega, fun j h1 h2 => ?_⟩
      simp only at h2
      rcases (by omega : j = 1 ∨ j = 2 ∨ j = 3) with rfl | rfl | rfl
      · exact cont_high _ h.1.1.2.2
      · exact cont_high _ h.1.2.2
      · exact cont_high _ h.2.2
    · exact ⟨by omega, fun j h1 h2 => by simp only at h2; omega⟩
  · exact ⟨by omega, fun j h1 h2 => by simp only at h2; omega⟩
theorem get_list {s : ByteArray} {k : Nat} (h : k < s.size) : s.data.toList[k]? = some s[k] := by
  have hl : s.data.toList.length = s.size := by simp
  rw [List.getElem?_eq_getElem (by omega)]
  rfl
theorem getB_list {s : ByteArray} {k : Nat} (h : k < s.size) : s.data.toList[k]? = some (s.get! k) := by
  rw [get_list h]
  simp [ByteArray.get!, getElem!_pos, h]
  rfl
/-- A rune of a byte from 128 on is no separator, nor is a byte in it. -/
theorem rune_jump {c : UInt8} (hc : c.toNat < 128) {s : ByteArray} {k : Nat} (h : k < s.size) (ha : 128 ≤ s[k].toNat) :
    spl c s.data.toList (k + (Utf8.decode s k).2) = spl c s.data.toList k ∧ k + (Utf8.decode s k).2 ≤ s.size := by
  have hl : s.data.toList.length = s.size := by simp
  obtain ⟨h1, h2⟩ := decode_cont s k h
  refine ⟨spl_jump _ (by omega) fun j h3 h4 => ?_, h1⟩
  intro e
  by_cases hj : j = k
  · subst hj
    rw [get_list h] at e
    cases e
    omega
  · have := h2 (j - k) (by omega) (by omega)
    rw [show k + (j - k) = j by omega] at this
    rw [getB_list (by omega)] at e
    cases e
    omega
theorem part_at (s : ByteArray) (a i : Nat) : s.extract a i = mk ((s.data.toList.drop a).take (i - a)) := by
  have := Lib.extract_mk s.data.toList a i
  exact this
theorem part_end (s : ByteArray) (a : Nat) : s.extract a s.size = mk ((s.data.toList.drop a).take (s.data.toList.length - a)) := by
  have hl : s.data.toList.length = s.size := by simp
  rw [hl]; exact part_at s a s.size

/-! ### Slices of texts. -/
def encT (l : List UInt8) : Value := .string (mk l)
def OwnT (w : World) (B : Nat) (v : Value) (ls : List (List UInt8)) : Prop := w.ownsRow B 9 1 v ls.length (ls.map encT)
theorem OwnT.snoc {w : World} {B : Nat} {v : Value} {ls : List (List UInt8)} {l : List UInt8} (h : w.ownsRow B 9 1 v (ls.length + 1) (ls.map encT ++ [encT l])) : OwnT w B v (ls ++ [l]) := by
  unfold OwnT
  rw [List.length_append, List.map_append]
  exact h
theorem OwnT.kept {w w' : World} {B : Nat} {v : Value} {ls : List (List UInt8)} (h : OwnT w B v ls) (hb : Below w.heap.size w w') : OwnT w' B v ls := by
  obtain ⟨h1, h2⟩ := h
  refine ⟨h1, ?_⟩
  rcases h2 with h2 | ⟨g, cap, cur, hv, hg, hh, r⟩
  · exact .inl h2
  · exact .inr ⟨g, cap, cur, hv, hg, by rw [hb.block g (Array.getElem?_eq_some_iff.1 hh).1]; exact hh, r⟩
theorem info_str : ∃ i, Tryd.prog.info? 9 = some i ∧ i.zero = some (.string ⟨#[]⟩) ∧ i.size = 1 ∧ i.bytes = 16 := by
  have h : (Tryd.prog.info? 9).map (fun i => (i.zero, i.size, i.bytes)) = some (some (.string ⟨#[]⟩), 1, 16) := by kernel_rfl
  obtain ⟨i, hi, hz⟩ := Option.map_eq_some_iff.1 h
  simp only [Prod.mk.injEq] at hz
  exact ⟨i, hi, hz.1, hz.2.1, hz.2.2⟩
theorem new_rowT (w : World) : OwnT (w.alloc (.cells #[] 9)) w.heap.size (.slice (some ⟨w.heap.size, 0, none⟩) 0 0) [] := World.ownsRow_lit (e := 9) (size := 1) (base := w.heap.size) w #[] 0 (Nat.le_refl _) (by unfold maxLen; omega) rfl
theorem one_cell (w : World) (v : Value) (t : TypeId) : ∀ (j : Nat) (u : Value), [v][j]? = some u → (w.alloc (.cells #[v] t)).cell? ((⟨w.heap.size, 0, none⟩ : Addr).add j) = some u := by
  intro j u hj
  match j, hj with
  | 0, hj => simp at hj; subst hj; simp [Addr.add]
/-- A slice of texts, as it reads. -/
def IsT (w : World) (v : Value) (ls : List (List UInt8)) : Prop := ∃ a cap, v = .slice a ls.length cap ∧ ∀ (i : Nat) (h : i < ls.length), ∃ b off, a = some ⟨b, off, none⟩ ∧ b < w.heap.size ∧ w.cell? ⟨b, off + i, none⟩ = some (encT ls[i])
theorem OwnT.reads {w : World} {B : Nat} {v : Value} {ls : List (List UInt8)} (h : OwnT w B v ls) : IsT w v ls := by
  have h' : w.ownsRow B 9 1 v ls.length (ls.map encT) := h
  rcases h.2 with ⟨hv, hz⟩ | ⟨g, cap, cur, hv, hg, hh, hc, _⟩
  · exact ⟨none, 0, by rw [hv, hz], fun i hi => by omega⟩
  · subst hv
    refine ⟨_, cap, rfl, fun i hi => ⟨g, 0, rfl, (Array.getElem?_eq_some_iff.1 hh).1, ?_⟩⟩
    rw [Nat.zero_add, World.ownsRow.cellAt h' i (by simpa using hi)]
    rw [List.getElem?_map, List.getElem?_eq_getElem hi]; rfl

set_option maxHeartbeats 1600000 in
set_option maxRecDepth 20000 in
theorem spec_parts (c : UInt8) (cv : Int) (hcv : cv = c.toNat) (s : ByteArray) (hs : s.size ≤ 1048576) (w : World) :
    Calls Tryd.prog 25 #[.string s, .int .u8 cv] w fun e w' => ∃ v, e = .returned v ∧ OwnT w' w.heap.size v (parts c s.data.toList) ∧ Below w.heap.size w w' := by
  have hl : s.data.toList.length = s.size := by simp
  obtain ⟨l, hll⟩ : ∃ l, s.data.toList = l := ⟨_, rfl⟩
  rw [hll] at hl ⊢
  obtain ⟨i0, hi0, hz0, hz1, hz2⟩ := info_str
  have HS0 := Lib.hid (new_rowT w)
  have HB0 : Hid (Below w.heap.size w (w.alloc (.cells #[] 9))) := (Below.refl _ _).alloc (Nat.le_refl _) _
  have HL := Lib.hid hl
  have HLL := Lib.hid hll
  have HCV := Lib.hid hcv
  clear hl hll hcv
  go_enter Tryd.func25, Tryd.ntmps25
  go_wp2
  go_loopw [5, 6, 7] (fun v at' i wr => ∃ k a : Nat, k ≤ s.size + 1 ∧ i = .int .i64 k ∧ at' = .int .i64 a ∧ a ≤ k ∧ Hid (OwnT wr w.heap.size v (spl c l k).1) ∧ Hid (a = (spl c l k).2) ∧ Hid (Below w.heap.size w wr)) (fun _ _ i _ => s.size + 1 - (intOf i).toNat)
  case atStart => exact ⟨0, 0, Nat.zero_le _, rfl, rfl, Nat.le_refl _, HS0.out, rfl, HB0⟩
  case round =>
    obtain ⟨k, a, hk, rfl, rfl, hak, HO, HA, HB⟩ := hrel
    by_cases hlt : k < s.size + 1
    · have hA := HA.out
      by_cases he : k = s.size
      · have HNX : Hid ((spl c l (k + 1)).1 = (spl c l k).1 ++ [(l.drop a).take (k - a)]) := by show _ = _; rw [spl_yes (.inl (by rw [HL.out]; exact he)), ← hA]
        have HNX2 : Hid ((spl c l (k + 1)).2 = k + 1) := by show _ = _; rw [spl_yes (.inl (by rw [HL.out]; exact he))]
        have HEX : Hid (s.extract a k = mk ((l.drop a).take (k - a))) := by show _ = _; rw [← HLL.out]; exact part_at s a k
        have hd : ((k : Int) == (s.size : Int)) = true := by rw [beq_iff_eq]; omega
        have hle : k ≤ s.size := by omega
        clear hA he hlt
        have HUL := Lib.hid (spl_le c l k).2
        obtain ⟨ls, hls⟩ : ∃ ls, (spl c l k).1 = ls := ⟨_, rfl⟩
        rw [hls] at HO HNX HUL
        clear hls
        go_wp2_with (at_builtin; refine wpList_append_own _ rfl _ _ 43 rfl w.heap.size 9 i0 (.string ⟨#[]⟩) 1 16 Tryd.underlying43 hi0 hz0 hz1 hz2 rfl (by decide) _ _ _ rfl (World.ownsRow.alloc HO.out _) ⟨wr.heap.size, 0, none⟩ 1 1 [.string (s.extract a k)] rfl rfl ?e1 ?e2 ?e3 ?e4 ?e5 ?_)
        case e1 => exact one_cell _ _ _
        case e2 => first | rfl | (intro u hu; simp at hu; subst hu; rfl)
        case e3 => unfold maxLen; have := HUL.out; omega
        case e4 => have := HUL.out; omega
        case e5 => have := HB.out.size; first | omega | (simp; omega)
        intro v' w8 hown' hgrow _
        rw [HEX.out] at hown'
        have HO8 := Lib.hid (OwnT.snoc hown')
        have hrow : ∀ g, Value.ownBlock _ = some g → w.heap.size ≤ g := fun g hg => (World.ownsRow.lt HO.out g hg).1
        have HB8 := Lib.hid ((HB.out.alloc HB.out.size _).grown hgrow (by have := HB.out.size; simp; omega) hrow)
        clear hown' hgrow hrow
        go_wp2
        go_roundw
        case rel => exact ⟨k + 1, k + 1, by omega, by go_num, by go_num, Nat.le_refl _, by show OwnT _ _ _ _; rw [HNX.out]; exact HO8.out, by show _ = _; rw [HNX2.out], HB8⟩
        case measure => simp [intOf]; omega
      · have hlt2 : k < s.size := by omega
        have hd : ((k : Int) == (s.size : Int)) = false := by rw [beq_eq_false_iff_ne]; omega
        have hg := get_list hlt2
        rw [HLL.out] at hg
        by_cases hc : s[k] = c
        · have hd2 : ((s[k].toNat : Int) == cv) = true := by rw [beq_iff_eq, HCV.out, hc]
          have HNX : Hid ((spl c l (k + 1)).1 = (spl c l k).1 ++ [(l.drop a).take (k - a)]) := by show _ = _; rw [spl_yes (.inr (by rw [hg, hc])), ← hA]
          have HNX2 : Hid ((spl c l (k + 1)).2 = k + 1) := by show _ = _; rw [spl_yes (.inr (by rw [hg, hc]))]
          have HEX : Hid (s.extract a k = mk ((l.drop a).take (k - a))) := by show _ = _; rw [← HLL.out]; exact part_at s a k
          have hle : k ≤ s.size := by omega
          clear hA he hg hc hlt
          have HUL := Lib.hid (spl_le c l k).2
          obtain ⟨ls, hls⟩ : ∃ ls, (spl c l k).1 = ls := ⟨_, rfl⟩
          rw [hls] at HO HNX HUL
          clear hls
          go_wp2_with (at_builtin; refine wpList_append_own _ rfl _ _ 43 rfl w.heap.size 9 i0 (.string ⟨#[]⟩) 1 16 Tryd.underlying43 hi0 hz0 hz1 hz2 rfl (by decide) _ _ _ rfl (World.ownsRow.alloc HO.out _) ⟨wr.heap.size, 0, none⟩ 1 1 [.string (s.extract a k)] rfl rfl ?e1 ?e2 ?e3 ?e4 ?e5 ?_)
          case e1 => exact one_cell _ _ _
          case e2 => first | rfl | (intro u hu; simp at hu; subst hu; rfl)
          case e3 => unfold maxLen; have := HUL.out; omega
          case e4 => have := HUL.out; omega
          case e5 => have := HB.out.size; first | omega | (simp; omega)
          intro v' w8 hown' hgrow _
          rw [HEX.out] at hown'
          have HO8 := Lib.hid (OwnT.snoc hown')
          have hrow : ∀ g, Value.ownBlock _ = some g → w.heap.size ≤ g := fun g hg => (World.ownsRow.lt HO.out g hg).1
          have HB8 := Lib.hid ((HB.out.alloc HB.out.size _).grown hgrow (by have := HB.out.size; simp; omega) hrow)
          clear hown' hgrow hrow
          go_wp2
          go_roundw
          case rel => exact ⟨k + 1, k + 1, by omega, by go_num, by go_num, Nat.le_refl _, by show OwnT _ _ _ _; rw [HNX.out]; exact HO8.out, by show _ = _; rw [HNX2.out], HB8⟩
          case measure => simp [intOf]; omega
        · have hd2 : ((s[k].toNat : Int) == cv) = false := by
            rw [beq_eq_false_iff_ne, HCV.out]
            intro e
            exact hc (UInt8.toNat_inj.1 (by omega))
          have HNX : Hid (spl c l (k + 1) = spl c l k) := by
            show _ = _
            exact spl_no (by rw [HL.out]; exact he) (by rw [hg]; intro e; cases e; exact hc rfl)
          clear hA he hg hc hlt
          go_wp2
          go_roundw
          case rel => exact ⟨k + 1, a, by omega, by go_num, rfl, by omega, by show OwnT _ _ _ _; rw [HNX.out]; exact HO.out, by show _ = _; rw [HNX.out]; exact HA.out, HB⟩
          case measure => simp [intOf]; omega
    · have hke : k = s.size + 1 := by omega
      have hgt : s.size < k := by omega
      have HF : Hid (OwnT wr w.heap.size u5 (parts c l)) := by show OwnT _ _ _ _; unfold parts; rw [HL.out, ← hke]; exact HO.out
      clear hlt hk hke
      go_wp2
      go_ret
      exact ⟨_, rfl, HF.out, HB.out⟩

theorem heap_alloc_old (w : World) (o : Obj) {k : Nat} (h : k < w.heap.size) : (w.alloc o).heap[k]? = w.heap[k]? := by
  show (w.heap.push o)[k]? = _
  rw [Array.getElem?_push, if_neg (by omega)]
theorem cut_last (c : UInt8) (l : List UInt8) : parts c l = (spl c l l.length).1 ++ [(l.drop (spl c l l.length).2).take (l.length - (spl c l l.length).2)] := by
  unfold parts
  rw [spl_yes (.inl rfl)]
set_option maxHeartbeats 3200000 in
set_option maxRecDepth 20000 in
theorem cut_at (c : UInt8) (hc128 : c.toNat < 128) (cv : Int) (hcv : cv = c.toNat) (s : ByteArray) (hs : s.size ≤ 1048576) (w : World) :
    Calls Tryd.prog 28 #[.string s, .int .i32 cv] w fun e w' => ∃ v, e = .returned v ∧ OwnT w' (w.heap.size + 1) v (parts c s.data.toList) ∧ Below w.heap.size w w' := by
  have hl : s.data.toList.length = s.size := by simp
  obtain ⟨l, hll⟩ : ∃ l, s.data.toList = l := ⟨_, rfl⟩
  rw [hll] at hl ⊢
  obtain ⟨i0, hi0, hz0, hz1, hz2⟩ := info_str
  have HL := Lib.hid hl
  have HLL := Lib.hid hll
  have HCV := Lib.hid hcv
  have HIT0 : Hid ((w.iter s 0).heap[w.heap.size]? = some (.stringIter s 0)) := World.iter_heap w s 0
  have HB0 : Hid (Below w.heap.size w (w.iter s 0)) := iter_below w s 0
  have HSZ0 : Hid (w.heap.size + 1 ≤ (w.iter s 0).heap.size) := by show _ ≤ _; simp [World.iter]
  have HO0 : Hid (OwnT (w.iter s 0) (w.heap.size + 1) (.slice none 0 0) []) := ⟨rfl, .inl ⟨rfl, rfl⟩⟩
  clear hl hll hcv
  go_enter Tryd.func28, Tryd.ntmps28
  go_wp2
  go_loopw [5, 6, 7, 8] (fun v at' _ _ wr => ∃ k a : Nat, k ≤ s.size ∧ at' = .int .i64 a ∧ a ≤ k ∧ Hid (OwnT wr (w.heap.size + 1) v (spl c l k).1) ∧ Hid (a = (spl c l k).2) ∧ Hid (Below w.heap.size w wr) ∧ Hid (wr.heap[w.heap.size]? = some (.stringIter s k)) ∧ Hid (w.heap.size + 1 ≤ wr.heap.size)) (fun _ _ _ _ wr => s.size - wr.iterPos w.heap.size)
  case atStart => exact ⟨0, 0, Nat.zero_le _, rfl, Nat.le_refl _, HO0.out, rfl, HB0, HIT0, HSZ0⟩
  case round =>
    revert wr
    intro wz hrel
    obtain ⟨k, a, hk, rfl, hak, HO, HA, HB, HIT, HSZ⟩ := hrel
    have hA := HA.out
    by_cases hlt : k < s.size
    · have hnx : ∀ ty, (Instr.next (.pointer (some ⟨w.heap.size, 0, none⟩)) true ty).run Tryd.prog wz = _ := fun ty => Lib.run_next_any_at wz w.heap.size s k ty HIT.out hlt
      have hle := decode_le s k
      have hit2 := fun q => Lib.iterAt_heap wz w.heap.size s k q HIT.out
      have hb2 := fun q => Lib.below_iterAt HB.out (k := w.heap.size) (Nat.le_refl _) s q
      have ho2 := fun q => Go.ownsRow_iterAt HO.out (k := w.heap.size) (Nat.lt_succ_self _) s q
      have hsz2 := fun q => (Lib.iterAt_size wz w.heap.size s q)
      have hmz : wz.iterPos w.heap.size = k := Go.iterPos_of HIT.out
      have HMZ := Lib.hid hmz
      clear hmz
      by_cases a1 : s[k].toNat < 128
      · have e := decode_ascii s k hlt a1
        rw [e] at hnx hle
        simp only at hnx hle
        obtain ⟨W, hW⟩ : ∃ W, wz.iterAt w.heap.size s (k + 1) = W := ⟨_, rfl⟩
        have hit3 := hit2 (k + 1)
        have hb3 := hb2 (k + 1)
        have ho3 := ho2 (k + 1)
        have hsz3 := hsz2 (k + 1)
        rw [hW] at hnx hit3 hb3 ho3 hsz3
        have HMW := Lib.hid (Go.iterPos_of hit3)
        have HIT2 := Lib.hid hit3
        have HB2 := Lib.hid hb3
        have HO2 : Hid (OwnT W (w.heap.size + 1) u5 (spl c l k).1) := ho3
        have HSZ2 : Hid (w.heap.size + 1 ≤ W.heap.size) := by show _ ≤ _; rw [hsz3]; exact HSZ.out
        clear hit2 hb2 ho2 hsz2 hit3 hb3 ho3 hsz3 hW e HO HB HIT HSZ
        have HIT := HIT2
        have HSZ := HSZ2
        have hg := get_list hlt
        rw [HLL.out] at hg
        by_cases hc : s[k] = c
        · have hd2 : ((s[k].toNat : Int) == cv) = true := by rw [beq_iff_eq, HCV.out, hc]
          have HNX : Hid ((spl c l (k + 1)).1 = (spl c l k).1 ++ [(l.drop a).take (k - a)]) := by show _ = _; rw [spl_yes (.inr (by rw [hg, hc])), ← hA]
          have HNX2 : Hid ((spl c l (k + 1)).2 = k + 1) := by show _ = _; rw [spl_yes (.inr (by rw [hg, hc]))]
          have HEX : Hid (s.extract a k = mk ((l.drop a).take (k - a))) := by show _ = _; rw [← HLL.out]; exact part_at s a k
          have hle2 : k ≤ s.size := by omega
          clear hA hg hc
          have HUL := Lib.hid (spl_le c l k).2
          obtain ⟨ls, hls⟩ : ∃ ls, (spl c l k).1 = ls := ⟨_, rfl⟩
          rw [hls] at HO2 HNX HUL
          clear hls
          go_wp2_with (at_builtin; refine wpList_append_own _ rfl _ _ 43 rfl (w.heap.size + 1) 9 i0 (.string ⟨#[]⟩) 1 16 Tryd.underlying43 hi0 hz0 hz1 hz2 rfl (by decide) _ _ _ rfl (World.ownsRow.alloc HO2.out _) ⟨W.heap.size, 0, none⟩ 1 1 [.string (s.extract a k)] rfl rfl ?e1 ?e2 ?e3 ?e4 ?e5 ?_)
          case e1 => exact one_cell _ _ _
          case e2 => first | rfl | (intro u hu; simp at hu; subst hu; rfl)
          case e3 => unfold maxLen; have := HUL.out; omega
          case e4 => have := HUL.out; omega
          case e5 => have := HSZ.out; first | omega | (simp; omega)
          intro v' w8 hown' hgrow _
          rw [HEX.out] at hown'
          have HO8 := Lib.hid (OwnT.snoc hown')
          have hrow : ∀ g, Value.ownBlock _ = some g → w.heap.size + 1 ≤ g := fun g hg => (World.ownsRow.lt HO2.out g hg).1
          have HB8 := Lib.hid ((HB2.out.alloc HB2.out.size _).grown hgrow (by have := HB2.out.size; simp; omega) (fun g hg => Nat.le_of_succ_le (hrow g hg)))
          have HSZ8 : Hid (w.heap.size + 1 ≤ w8.heap.size) := Nat.le_trans HSZ.out (Nat.le_trans (by simp) hgrow.size)
          have HIT8 : Hid (w8.heap[w.heap.size]? = some (.stringIter s (k + 1))) := by
            show _ = _
            rw [hgrow.block _ (by have := HSZ.out; simp; omega) (fun e => by have := hrow _ e.symm; omega), heap_alloc_old _ _ (by have := HSZ.out; omega)]
            exact HIT.out
          clear hown' hgrow hrow
          go_wp2
          go_roundw
          case rel => exact ⟨k + 1, k + 1, by omega, by go_num, Nat.le_refl _, by show OwnT _ _ _ _; rw [HNX.out]; exact HO8.out, by show _ = _; rw [HNX2.out], HB8, HIT8, HSZ8⟩
          case measure =>
            have h1 := HMZ.out
            have h2 := Go.iterPos_of HIT8.out
            omega
        · have hd2 : ((s[k].toNat : Int) == cv) = false := by
            rw [beq_eq_false_iff_ne, HCV.out]
            intro e
            exact hc (UInt8.toNat_inj.1 (by omega))
          have HNX : Hid (spl c l (k + 1) = spl c l k) := by
            show _ = _
            exact spl_no (by rw [HL.out]; omega) (by rw [hg]; intro e; cases e; exact hc rfl)
          clear hA hg hc
          go_wp2
          go_roundw
          case rel => exact ⟨k + 1, a, by omega, rfl, by omega, by show OwnT _ _ _ _; rw [HNX.out]; exact HO2.out, by show _ = _; rw [HNX.out]; exact HA.out, HB2, HIT2, HSZ2⟩
          case measure =>
            have h1 := HMZ.out
            have h2 := HMW.out
            omega
      · obtain ⟨hj1, hj2⟩ := rune_jump (c := c) hc128 hlt (by omega)
        obtain ⟨h128, hq1⟩ := decode_high s k hlt (by omega)
        rw [HLL.out] at hj1
        obtain ⟨r, hr⟩ : ∃ r, (Utf8.decode s k).1 = r := ⟨_, rfl⟩
        obtain ⟨q, hq⟩ : ∃ q, (Utf8.decode s k).2 = q := ⟨_, rfl⟩
        rw [hr] at h128 hle
        rw [hq] at hj1 hj2 hq1
        rw [hr, hq] at hnx
        obtain ⟨W, hW⟩ : ∃ W, wz.iterAt w.heap.size s (k + q) = W := ⟨_, rfl⟩
        have hit3 := hit2 (k + q)
        have hb3 := hb2 (k + q)
        have ho3 := ho2 (k + q)
        have hsz3 := hsz2 (k + q)
        rw [hW] at hnx hit3 hb3 ho3 hsz3
        have HMW := Lib.hid (Go.iterPos_of hit3)
        have HIT2 := Lib.hid hit3
        have HB2 := Lib.hid hb3
        have HO2 : Hid (OwnT W (w.heap.size + 1) u5 (spl c l k).1) := ho3
        have HSZ2 : Hid (w.heap.size + 1 ≤ W.heap.size) := by show _ ≤ _; rw [hsz3]; exact HSZ.out
        have hd2 : ((r : Int) == cv) = false := by rw [beq_eq_false_iff_ne, HCV.out]; omega
        have HNX := Lib.hid hj1
        have HJ2 := Lib.hid hj2
        have HQ1 := Lib.hid hq1
        clear hit2 hb2 ho2 hsz2 hit3 hb3 ho3 hsz3 hW HO HB HIT HSZ hA hr hq hj1 hj2 hq1 h128
        go_wp2
        go_roundw
        case rel => exact ⟨k + q, a, HJ2.out, rfl, by omega, by show OwnT _ _ _ _; rw [HNX.out]; exact HO2.out, by show _ = _; rw [HNX.out]; exact HA.out, HB2, HIT2, HSZ2⟩
        case measure =>
          have h1 := HMZ.out
          have h2 := HMW.out
          have h3 := HQ1.out
          omega
    · have hke : k = s.size := by omega
      have hnx : ∀ ty, (Instr.next (.pointer (some ⟨w.heap.size, 0, none⟩)) true ty).run Tryd.prog wz = _ := fun ty => Lib.run_next_end_at wz w.heap.size s k ty HIT.out hlt
      have HNX : Hid (parts c l = (spl c l k).1 ++ [(l.drop a).take (l.length - a)]) := by show _ = _; rw [cut_last, hA, hke, HL.out]
      have HEX : Hid (s.extract a s.size = mk ((l.drop a).take (l.length - a))) := by show _ = _; rw [← HLL.out]; exact part_end s a
      have hle2 : a ≤ s.size := by omega
      clear hA hke hlt
      have HUL := Lib.hid (spl_le c l k).2
      obtain ⟨ls, hls⟩ : ∃ ls, (spl c l k).1 = ls := ⟨_, rfl⟩
      rw [hls] at HO HNX HUL
      clear hls
      go_wp2_with (at_builtin; refine wpList_append_own _ rfl _ _ 43 rfl (w.heap.size + 1) 9 i0 (.string ⟨#[]⟩) 1 16 Tryd.underlying43 hi0 hz0 hz1 hz2 rfl (by decide) _ _ _ rfl (World.ownsRow.alloc HO.out _) ⟨wz.heap.size, 0, none⟩ 1 1 [.string (s.extract a s.size)] rfl rfl ?e1 ?e2 ?e3 ?e4 ?e5 ?_)
      case e1 => exact one_cell _ _ _
      case e2 => first | rfl | (intro u hu; simp at hu; subst hu; rfl)
      case e3 => unfold maxLen; have := HUL.out; omega
      case e4 => have := HUL.out; omega
      case e5 => have := HSZ.out; first | omega | (simp; omega)
      intro v' w8 hown' hgrow _
      rw [HEX.out] at hown'
      have HO8 := Lib.hid (OwnT.snoc hown')
      have hrow : ∀ g, Value.ownBlock _ = some g → w.heap.size + 1 ≤ g := fun g hg => (World.ownsRow.lt HO.out g hg).1
      have HB8 := Lib.hid ((HB.out.alloc HB.out.size _).grown hgrow (by have := HB.out.size; simp; omega) (fun g hg => Nat.le_of_succ_le (hrow g hg)))
      have HSZ8 : Hid (w.heap.size + 1 ≤ w8.heap.size) := Nat.le_trans HSZ.out (Nat.le_trans (by simp) hgrow.size)
      clear hown' hgrow hrow
      go_wp2
      go_ret
      exact ⟨_, rfl, by rw [HNX.out]; exact HO8.out, HB8.out⟩
end Go.Proofs.YtimpajhgplkpmabDoor.Split
