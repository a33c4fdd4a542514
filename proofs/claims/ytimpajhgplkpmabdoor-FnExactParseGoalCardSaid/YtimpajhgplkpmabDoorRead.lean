/- The model's l01Read: a word that writes a number as it is answered. -/
import Derived.Test.YtimpajhgplkpmabDoorSplit
import Derived.Test.YtimpajhgplkpmabDoorLine
namespace Go.Proofs.YtimpajhgplkpmabDoor.Read
open Go.RowKit
open Go.Proofs.YtimpajhgplkpmabDoor.C1
open Go.Proofs.YtimpajhgplkpmabDoor.C2
open Go.Proofs.YtimpajhgplkpmabDoor.Milli
open Go.Proofs.YtimpajhgplkpmabDoor.Mt
open Go.Proofs.YtimpajhgplkpmabDoor.Split
set_option linter.unusedVariables false

/-! ### Plain mathematics. -/
/-- No tick writes the word l. -/
def NV (l : List UInt8) : Prop := ∀ v : Int, 0 ≤ v → v ≤ 1000000000 → Lib.itoa v ≠ l
theorem itoa_pos {v : Int} (h : 0 ≤ v) : Lib.itoa v = Lib.decDigits v.toNat := by unfold Lib.itoa; rw [if_neg (by omega)]
theorem itoa_tick {v : Int} (h0 : 0 ≤ v) (h1 : v ≤ 1000000000) : (∀ c ∈ Lib.itoa v, isDig c) ∧ foldD 0 (Lib.itoa v) = v.toNat ∧ 1 ≤ (Lib.itoa v).length ∧ (Lib.itoa v).length ≤ 10 := by
  rw [itoa_pos h0]
  obtain ⟨d1, d2, d3⟩ := dec_digits v.toNat
  refine ⟨d1, d2, ?_, dec_length_le v.toNat 9 (by omega)⟩
  cases hq : Lib.decDigits v.toNat
  · exact absurd hq d3
  · simp
theorem nv_len {l : List UInt8} (h : ¬ (1 ≤ l.length ∧ l.length ≤ 10)) : NV l := fun v h0 h1 e => by
  obtain ⟨_, _, a, b⟩ := itoa_tick h0 h1
  rw [e] at a b
  exact h ⟨a, b⟩
theorem nv_digit {l : List UInt8} {c : UInt8} (hc : c ∈ l) (h : ¬ isDig c) : NV l := fun v h0 h1 e => by
  obtain ⟨a, _⟩ := itoa_tick h0 h1
  rw [e] at a
  exact h (a c hc)
theorem fold_lt : ∀ (l : List UInt8), (∀ c ∈ l, isDig c) → ∀ x, foldD x l < (x + 1) * 10 ^ l.length
  | [], _, x => by simp [foldD]
  | c :: l, h, x => by
    rw [foldD_cons]
    have hc := h c (by simp)
    unfold isDig at hc
    have ih := fold_lt l (fun d hd => h d (List.mem_cons_of_mem _ hd)) (10 * x + (c.toNat - 48))
    refine Nat.lt_of_lt_of_le ih ?_
    rw [List.length_cons, Nat.pow_succ, Nat.mul_comm (10 ^ l.length) 10, ← Nat.mul_assoc]
    exact Nat.mul_le_mul_right _ (by omega)
theorem fold_small {l : List UInt8} (h : ∀ c ∈ l, isDig c) (k : Nat) (hk : l.length ≤ k) : foldD 0 l < 10 ^ k := by
  have := fold_lt l h 0
  rw [Nat.zero_add, Nat.one_mul] at this
  exact Nat.lt_of_lt_of_le this (Nat.pow_le_pow_right (by omega) hk)
theorem itoa_inj_tick {v : Int} (h0 : 0 ≤ v) (h1 : v ≤ 1000000000) {l : List UInt8} (e : Lib.itoa v = l) : foldD 0 l = v.toNat := by rw [← e]; exact (itoa_tick h0 h1).2.1
theorem fold_next (l : List UInt8) (k : Nat) (h : k < l.length) : foldD 0 (l.take (k + 1)) = 10 * foldD 0 (l.take k) + (l[k].toNat - 48) := by
  rw [List.take_succ_eq_append_getElem h, foldD_append, foldD_cons, foldD_nil]
/-- What l01Read says of the word l. -/
structure Reads (l : List UInt8) (x : Int) (b : Bool) : Prop where
  lo : -9999999999 ≤ x
  hi : x ≤ 9999999999
  yes : b = true → Lib.itoa x = l
  all : ∀ v : Int, 0 ≤ v → v ≤ 1000000000 → Lib.itoa v = l → x = v ∧ b = true
theorem Reads.no {l : List UInt8} (h : NV l) : Reads l 0 false := ⟨by omega, by omega, fun h => by simp at h, fun v h0 h1 e => absurd e (h v h0 h1)⟩

def Out (l : List UInt8) (w w' : World) (e : Ending) : Prop := ∃ (x : Int) (b : Bool), e = .returned (.tuple #[.int .i64 x, .bool b]) ∧ Reads l x b ∧ Below w.heap.size w w'
theorem out_of {l : List UInt8} {w w' : World} {e : Ending} (x : Int) (b : Bool) (h : e = .returned (.tuple #[.int .i64 x, .bool b])) (r : Reads l x b) (hb : Below w.heap.size w w') : Out l w w' e := ⟨x, b, h, r, hb⟩

set_option maxHeartbeats 3200000 in
set_option maxRecDepth 20000 in
theorem spec_read (s : ByteArray) (hs : s.size ≤ 1048576) (w : World) :
    Calls Tryd.prog 27 #[.string s] w fun e w' => Out s.data.toList w w' e := by
  have hl : s.data.toList.length = s.size := by simp
  by_cases h0 : s.size = 0
  · have hg : ¬ (0 : Int) < (s.size : Int) := by omega
    have hin : ¬ (1 ≤ s.size ∧ s.size ≤ 10) := by omega
    have hdi : decide ((1 : Int) ≤ (s.size : Int) ∧ (s.size : Int) ≤ 10) = false := by simp; omega
    have HNV : Hid (NV s.data.toList) := nv_len (by rw [hl]; exact hin)
    have hdj : decide ((1 : Int) ≤ 0 ∧ (0 : Int) ≤ 10) = false := by decide
    clear hl hin
    go_enter Tryd.func27, Tryd.ntmps27
    go_wp2_with (go_at_call 31; refine (C2.spec_in _ _ _ _).mono ?_; rintro e w' ⟨rfl, rfl⟩)
    go_ret2
    exact out_of _ _ rfl (Reads.no HNV.out) (Below.refl _ _)
  · have hp : 0 < s.size := by omega
    have hpi : (0 : Int) < (s.size : Int) := by omega
    by_cases hm : s[0].toNat = 45
    · have hm2 : ((s[0].toNat : Int) == 45) = true := by rw [beq_iff_eq]; omega
      have NVW : Hid (NV s.data.toList) := nv_digit (c := s[0]) (List.getElem_mem (by omega : 0 < s.data.toList.length)) (by unfold isDig; omega)
      obtain ⟨D, hD⟩ : ∃ D, s.extract 1 s.size = D := ⟨_, rfl⟩
      have HDZ : Hid (D.size = s.size - 1) := by show _ = _; rw [← hD]; simp
      have hle1 : 1 ≤ s.size := hp
      clear hm h0
      by_cases hin : 1 ≤ D.size ∧ D.size ≤ 10
      · obtain ⟨h1, h2⟩ := hin
        have hdi : decide ((1 : Int) ≤ (D.size : Int) ∧ (D.size : Int) ≤ 10) = true := by simp; omega
        have HDL : Hid (D.data.toList.length = D.size) := by show _ = _; simp
        have HSL := Lib.hid hl
        clear hl
        go_enter Tryd.func27, Tryd.ntmps27
        go_wp2_with (go_at_call 31; refine (C2.spec_in _ _ _ _).mono ?_; rintro e w' ⟨rfl, rfl⟩)
        go_loopw [5, 6] (fun x i wr => ∃ k X : Nat, k ≤ D.size ∧ i = .int .i64 k ∧ x = .int .i64 X ∧ X ≤ 9999999999 ∧ wr = w ∧ Hid (X = foldD 0 (D.data.toList.take k)) ∧ Hid (∀ c ∈ D.data.toList.take k, isDig c)) (fun _ i _ => D.size - (intOf i).toNat)
        case atStart => exact ⟨0, 0, Nat.zero_le _, rfl, rfl, by omega, rfl, rfl, fun c hc => by simp at hc⟩
        case round =>
          obtain ⟨k, X, hk, rfl, rfl, hX, rfl, HX, HG⟩ := hrel
          by_cases hlt : k < D.size
          · have hlt2 : k < D.data.toList.length := by rw [HDL.out]; exact hlt
            have hgk : D.data.toList[k] = (D[k]'hlt) := rfl
            by_cases c1 : (D[k]'hlt).toNat < 48
            · have HNV : Hid (NV s.data.toList) := by
                show NV _
                exact NVW.out
              clear hgk hlt2
              go_wp2
              go_ret2
              exact out_of _ _ rfl (Reads.no HNV.out) (Below.refl _ _)
            · by_cases c2 : 57 < (D[k]'hlt).toNat
              · have c3 : 48 ≤ (D[k]'hlt).toNat := by omega
                have HNV : Hid (NV s.data.toList) := by
                  show NV _
                  exact NVW.out
                clear hgk hlt2 c1
                go_wp2
                go_ret2
                exact out_of _ _ rfl (Reads.no HNV.out) (Below.refl _ _)
              · have c3 : 48 ≤ (D[k]'hlt).toNat := by omega
                have c4 : (D[k]'hlt).toNat ≤ 57 := by omega
                have hfn := fold_next D.data.toList k hlt2
                rw [← HX.out, hgk] at hfn
                have HG2 : Hid (∀ c ∈ D.data.toList.take (k + 1), isDig c) := fun c hc => by
                  rw [List.take_succ_eq_append_getElem hlt2, List.mem_append, List.mem_singleton] at hc
                  rcases hc with hc | rfl
                  · exact HG.out c hc
                  · rw [hgk]; exact ⟨c3, c4⟩
                have hfs := fold_small HG2.out 10 (by rw [List.length_take, HDL.out]; omega)
                rw [hfn] at hfs
                obtain ⟨Y, hY⟩ : ∃ Y : Nat, Y = 10 * X + ((D[k]'hlt).toNat - 48) := ⟨_, rfl⟩
                have hY2 : Y ≤ 9999999999 := by omega
                have HY : Hid (Y = foldD 0 (D.data.toList.take (k + 1))) := by show _ = _; rw [hfn, hY]
                have hsub : 10 * (X : Int) + ((D[k]'hlt).toNat : Int) - 48 = (Y : Int) := by omega
                have hwp : IntKind.i64.wrap (Y : Int) = (Y : Int) := by rw [IntKind.wrap_i64]; omega
                have hw2 : IntKind.i64.wrap (10 * (X : Int) + ((D[k]'hlt).toNat : Int) - 48) = (Y : Int) := by rw [hsub]; exact hwp
                clear hgk hlt2 c1 c2 hfn hfs hY
                go_wp2
                go_roundw
                case rel => exact ⟨k + 1, Y, by omega, by go_num, by first | rfl | go_num | (simp only [hsub]) | (rw [hsub]), hY2, by first | trivial | rfl, HY, HG2⟩
                case measure => simp [intOf]; omega
          · have hke : k = D.size := by omega
            have HXE : Hid (X = foldD 0 D.data.toList) := by
              show _ = _
              have := HX.out
              rw [hke, List.take_of_length_le (by rw [HDL.out]; exact Nat.le_refl _)] at this
              exact this
            have hdd : (D.size : Int) < (s.size : Int) := by have := HDZ.out; omega
            have hng : -(X : Int) = -(X : Int) := rfl
            clear hke hng
            go_wp2_with (go_at_call 23; refine (spec_num _ _ (by omega) (by omega)).mono ?_; rintro e w1 ⟨rfl, hb1⟩)
            go_ret2
            refine out_of _ _ rfl ⟨by omega, by omega, fun h => ?_, fun v h0 h1 e => absurd e (NVW.out v h0 h1)⟩ hb1
            have h' : (mk (Lib.itoa (-(X : Int)))).toList = s.toList := by simpa using h
            rw [ByteArray.toList_eq, ByteArray.toList_eq, mk_list] at h'
            exact h'
      · have hdi : decide ((1 : Int) ≤ (D.size : Int) ∧ (D.size : Int) ≤ 10) = false := by simp; omega
        have HNV : Hid (NV s.data.toList) := NVW.out
        clear hl hin
        go_enter Tryd.func27, Tryd.ntmps27
        go_wp2_with (go_at_call 31; refine (C2.spec_in _ _ _ _).mono ?_; rintro e w' ⟨rfl, rfl⟩)
        go_ret2
        exact out_of _ _ rfl (Reads.no HNV.out) (Below.refl _ _)
    · have hm2 : ((s[0].toNat : Int) == 45) = false := by rw [beq_eq_false_iff_ne]; omega
      clear hm
      by_cases hin : 1 ≤ s.size ∧ s.size ≤ 10
      · obtain ⟨h1, h2⟩ := hin
        have hdi : decide ((1 : Int) ≤ (s.size : Int) ∧ (s.size : Int) ≤ 10) = true := by simp; omega
        have HDL : Hid (s.data.toList.length = s.size) := by show _ = _; simp
        have HSL := Lib.hid hl
        clear hl
        go_enter Tryd.func27, Tryd.ntmps27
        go_wp2_with (go_at_call 31; refine (C2.spec_in _ _ _ _).mono ?_; rintro e w' ⟨rfl, rfl⟩)
        go_loopw [5, 6] (fun x i wr => ∃ k X : Nat, k ≤ s.size ∧ i = .int .i64 k ∧ x = .int .i64 X ∧ X ≤ 9999999999 ∧ wr = w ∧ Hid (X = foldD 0 (s.data.toList.take k)) ∧ Hid (∀ c ∈ s.data.toList.take k, isDig c)) (fun _ i _ => s.size - (intOf i).toNat)
        case atStart => exact ⟨0, 0, Nat.zero_le _, rfl, rfl, by omega, rfl, rfl, fun c hc => by simp at hc⟩
        case round =>
          obtain ⟨k, X, hk, rfl, rfl, hX, rfl, HX, HG⟩ := hrel
          by_cases hlt : k < s.size
          · have hlt2 : k < s.data.toList.length := by rw [HDL.out]; exact hlt
            have hgk : s.data.toList[k] = (s[k]'hlt) := rfl
            by_cases c1 : (s[k]'hlt).toNat < 48
            · have HNV : Hid (NV s.data.toList) := by
                show NV _
                exact nv_digit (List.getElem_mem hlt2) (by rw [hgk]; unfold isDig; omega)
              clear hgk hlt2
              go_wp2
              go_ret2
              exact out_of _ _ rfl (Reads.no HNV.out) (Below.refl _ _)
            · by_cases c2 : 57 < (s[k]'hlt).toNat
              · have c3 : 48 ≤ (s[k]'hlt).toNat := by omega
                have HNV : Hid (NV s.data.toList) := by
                  show NV _
                  exact nv_digit (List.getElem_mem hlt2) (by rw [hgk]; unfold isDig; omega)
                clear hgk hlt2 c1
                go_wp2
                go_ret2
                exact out_of _ _ rfl (Reads.no HNV.out) (Below.refl _ _)
              · have c3 : 48 ≤ (s[k]'hlt).toNat := by omega
                have c4 : (s[k]'hlt).toNat ≤ 57 := by omega
                have hfn := fold_next s.data.toList k hlt2
                rw [← HX.out, hgk] at hfn
                have HG2 : Hid (∀ c ∈ s.data.toList.take (k + 1), isDig c) := fun c hc => by
                  rw [List.take_succ_eq_append_getElem hlt2, List.mem_append, List.mem_singleton] at hc
                  rcases hc with hc | rfl
                  · exact HG.out c hc
                  · rw [hgk]; exact ⟨c3, c4⟩
                have hfs := fold_small HG2.out 10 (by rw [List.length_take, HDL.out]; omega)
                rw [hfn] at hfs
                obtain ⟨Y, hY⟩ : ∃ Y : Nat, Y = 10 * X + ((s[k]'hlt).toNat - 48) := ⟨_, rfl⟩
                have hY2 : Y ≤ 9999999999 := by omega
                have HY : Hid (Y = foldD 0 (s.data.toList.take (k + 1))) := by show _ = _; rw [hfn, hY]
                have hsub : 10 * (X : Int) + ((s[k]'hlt).toNat : Int) - 48 = (Y : Int) := by omega
                have hwp : IntKind.i64.wrap (Y : Int) = (Y : Int) := by rw [IntKind.wrap_i64]; omega
                have hw2 : IntKind.i64.wrap (10 * (X : Int) + ((s[k]'hlt).toNat : Int) - 48) = (Y : Int) := by rw [hsub]; exact hwp
                clear hgk hlt2 c1 c2 hfn hfs hY
                go_wp2
                go_roundw
                case rel => exact ⟨k + 1, Y, by omega, by go_num, by first | rfl | go_num | (simp only [hsub]) | (rw [hsub]), hY2, by first | trivial | rfl, HY, HG2⟩
                case measure => simp [intOf]; omega
          · have hke : k = s.size := by omega
            have HXE : Hid (X = foldD 0 s.data.toList) := by
              show _ = _
              have := HX.out
              rw [hke, List.take_of_length_le (by rw [HDL.out]; exact Nat.le_refl _)] at this
              exact this
            have hdd : ¬ (s.size : Int) < (s.size : Int) := by omega
            clear hke hdd
            go_wp2_with (go_at_call 23; refine (spec_num _ _ (by omega) (by omega)).mono ?_; rintro e w1 ⟨rfl, hb1⟩)
            go_ret2
            refine out_of _ _ rfl ⟨by omega, by omega, fun h => ?_, fun v h0 h1 e => ?_⟩ hb1
            · have h' : (mk (Lib.itoa (X : Int))).toList = s.toList := by simpa using h
              rw [ByteArray.toList_eq, ByteArray.toList_eq, mk_list] at h'
              exact h'
            · have hf := itoa_inj_tick h0 h1 e
              rw [← HXE.out] at hf
              have hxv : (X : Int) = v := by omega
              refine ⟨hxv, ?_⟩
              rw [beq_iff_eq, ByteArray.toList_eq, ByteArray.toList_eq, mk_list, hxv]
              exact e
      · have hdi : decide ((1 : Int) ≤ (s.size : Int) ∧ (s.size : Int) ≤ 10) = false := by simp; omega
        have HNV : Hid (NV s.data.toList) := nv_len (by rw [hl]; exact hin)
        clear hl hin
        go_enter Tryd.func27, Tryd.ntmps27
        go_wp2_with (go_at_call 31; refine (C2.spec_in _ _ _ _).mono ?_; rintro e w' ⟨rfl, rfl⟩)
        go_ret2
        exact out_of _ _ rfl (Reads.no HNV.out) (Below.refl _ _)
end Go.Proofs.YtimpajhgplkpmabDoor.Read
