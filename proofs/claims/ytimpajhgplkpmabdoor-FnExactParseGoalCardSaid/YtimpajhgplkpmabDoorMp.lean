/- Contracts of ParseMilli: the program's and the model's. -/
import Derived.Test.YtimpajhgplkpmabDoorMt
import Derived.Test.YtimpajhgplkpmabDoorMilliP
import Derived.Lib.AtoiErrMem
import Derived.Lib.ParseIntBCases
namespace Go.Proofs.YtimpajhgplkpmabDoor.Mp
set_option linter.unusedVariables false
open Go.RowKit
open Go.Proofs.YtimpajhgplkpmabDoor.C1 Go.Proofs.YtimpajhgplkpmabDoor.Milli Go.Proofs.YtimpajhgplkpmabDoor.MilliP Go.Proofs.YtimpajhgplkpmabDoor.Mt

/-- What the calls read of the library's variables, the two errors of strconv besides. -/
structure Env2 (w : World) : Prop where
  env : Env w
  syn : ∃ tp p, w.var? Tryd.prog "strconv.ErrSyntax" = some #[.iface tp p]
  rng : ∃ tp p, w.var? Tryd.prog "strconv.ErrRange" = some #[.iface tp p]
theorem gSyn : Tryd.prog.globalNamed "strconv.ErrSyntax" = some 0 := by kernel_rfl
theorem gRng : Tryd.prog.globalNamed "strconv.ErrRange" = some 1 := by kernel_rfl
theorem Env2.kept {w w' : World} (h : Env2 w) (hb : Below w.heap.size w w') : Env2 w' := by
  obtain ⟨h1, ⟨t1, p1, h2⟩, ⟨t2, p2, h3⟩⟩ := h
  exact ⟨h1.kept hb, ⟨t1, p1, Joins.var_stays gSyn h2 hb (Nat.le_refl _)⟩, ⟨t2, p2, Joins.var_stays gRng h3 hb (Nat.le_refl _)⟩⟩

theorem cut_prefix_c (s : ByteArray) (w : World) :
    Calls Tryd.prog 43 #[.string s, .string { data := #[45] }] w fun e w' => e = .returned (.tuple #[.string (mk (Lib.trimPrefix s.data.toList [45])), .bool (Lib.hasPrefix s.data.toList [45])]) ∧ w = w' :=
  (Tryd.strings_CutPrefix s { data := #[45] } w).mono fun e w' ⟨e1, e2⟩ => ⟨e1, e2.symm⟩
theorem cut_c (l : List UInt8) (w : World) (he : Env2 w) (hl : l.length ≤ 1048576) :
    Calls Tryd.prog 44 #[.string (mk l), .string { data := #[46] }] w fun e w' => e = .returned (.tuple #[.string (mk (Lib.cut l [46]).1), .string (mk (Lib.cut l [46]).2.1), .bool (Lib.cut l [46]).2.2]) ∧ Below w.heap.size w w' ∧ Env2 w' :=
  (Tryd.strings_Cut_shaped (mk l) { data := #[46] } w he.env.shaped (by rw [mk_size]; omega)).mono fun e w' ⟨e1, n, e2⟩ => by
    have hb : Below w.heap.size w w' := by rw [e2]; exact below_drewN (Below.refl _ _) n
    refine ⟨?_, hb, he.kept hb⟩
    rw [e1, mk_list]
    rfl
theorem parse_ok (l : List UInt8) (u : Nat) (h : Lib.parseUintB 32 l = .ok u) (hl : l.length ≤ 2097152) (w : World) :
    Calls Tryd.prog 45 #[.string (mk l), .int .i64 10, .int .i64 32] w fun e w' => e = .returned (.tuple #[.int .u64 u, .nilIface]) ∧ Below w.heap.size w w' :=
  (Tryd.strconv_ParseUint_10_at32_ok (mk l) (by rw [mk_size]; omega) u (by rw [mk_list]; exact h) w).mono fun e w' ⟨e1, e2⟩ => by
    refine ⟨e1, ?_⟩
    rcases e2 with rfl | rfl
    · exact Below.refl _ _
    · exact Lib.bytesWorld_below w _ _
theorem parse_bad (l : List UInt8) (h : ∀ u, Lib.parseUintB 32 l ≠ .ok u) (hl : l.length ≤ 2097152) (w : World) (he : Env2 w) :
    Calls Tryd.prog 45 #[.string (mk l), .int .i64 10, .int .i64 32] w fun e w' => ∃ (x : Int) (N : Nat), e = .returned (.tuple #[.int .u64 x, .iface 72 (.pointer (some ⟨N, 0, none⟩))]) ∧ Below w.heap.size w w' := by
  obtain ⟨-, ⟨t1, p1, h2⟩, ⟨t2, p2, h3⟩⟩ := he
  cases hp : Lib.parseUintB 32 l
  · exact absurd hp (h _)
  · have hc : Calls Tryd.prog 45 #[.string (mk l), .int .i64 10, .int .i64 32] w fun e w' => ∃ N, e = .returned (.tuple #[.int .u64 0, .iface 72 (.pointer (some ⟨N, 0, none⟩))]) ∧ w.heap.size ≤ N ∧ w'.heap[N]? = some (.cells #[.string ⟨#[80, 97, 114, 115, 101, 85, 105, 110, 116]⟩, .string (mk l), .iface t1 p1] 93 (0, 0)) ∧ Below w.heap.size w w' :=
      Any.strconv_ParseUint_10_at32_syntax_var Tryd.laysPu14 (mk l) (by rw [mk_size]; omega) (by rw [mk_list]; exact hp) t1 p1 w h2
    exact hc.mono fun e w' ⟨N, e1, _, _, e2⟩ => ⟨_, N, e1, e2⟩
  · have hc : Calls Tryd.prog 45 #[.string (mk l), .int .i64 10, .int .i64 32] w fun e w' => ∃ N, e = .returned (.tuple #[.int .u64 4294967295, .iface 72 (.pointer (some ⟨N, 0, none⟩))]) ∧ w.heap.size ≤ N ∧ w'.heap[N]? = some (.cells #[.string ⟨#[80, 97, 114, 115, 101, 85, 105, 110, 116]⟩, .string (mk l), .iface t2 p2] 93 (0, 0)) ∧ Below w.heap.size w w' :=
      Any.strconv_ParseUint_10_at32_range_var Tryd.laysPu14 (mk l) (by rw [mk_size]; omega) (by rw [mk_list]; exact hp) t2 p2 w h3
    exact hc.mono fun e w' ⟨N, e1, _, _, e2⟩ => ⟨_, N, e1, e2⟩

theorem first_three (l : List UInt8) : (mk l ++ { data := #[48, 48, 48] }).extract 0 3 = mk ((l ++ [48, 48, 48]).take 3) := by
  have : ({ data := #[48, 48, 48] } : ByteArray) = mk [48, 48, 48] := rfl
  rw [this, mk_append]
  unfold mk
  rw [Lib.extract_mk]
  rfl

theorem trim_len (l : List UInt8) : (Lib.trimPrefix l [45]).length ≤ l.length := by
  unfold Lib.trimPrefix
  split
  · simp
  · exact Nat.le_refl _
theorem cut_len (l : List UInt8) : (Lib.cut l [46]).1.length ≤ l.length ∧ (Lib.cut l [46]).2.1.length ≤ l.length := by
  unfold Lib.cut
  split
  · simp only [List.length_take, List.length_drop]; omega
  · simp


theorem same_yes {l : List UInt8} {s : ByteArray} (h : l = s.data.toList) : ((mk l).toList == s.toList) = true := by
  rw [ByteArray.toList_eq, ByteArray.toList_eq, mk_list, h]
  simp
theorem same_no {l : List UInt8} {s : ByteArray} (h : l ≠ s.data.toList) : ((mk l).toList == s.toList) = false := by
  rw [ByteArray.toList_eq, ByteArray.toList_eq, mk_list]
  simp [h]

set_option maxRecDepth 100000 in
theorem impl_parse_ok (s : ByteArray) (hs : s.size ≤ 1048576) (neg : Bool) (hneg : Lib.hasPrefix s.data.toList [45] = neg) (u : Nat) (hu : Lib.parseUintB 32 (handed s.data.toList) = .ok u) (w : World) (he : Env2 w) :
    Calls Tryd.prog 29 #[.string s] w fun e w' => e = .returned (.tuple #[.int .i64 (pmV s.data.toList), .bool (pmB s.data.toList)]) ∧ Below w.heap.size w w' := by
  have h1 := trim_len s.data.toList
  obtain ⟨h2, h3⟩ := cut_len (Lib.trimPrefix s.data.toList [45])
  have hsl : s.data.toList.length ≤ 1048576 := hs
  have hms := mk_size
  have hu32 : u ≤ 4294967295 := Lib.parseUintB_le hu
  have HN := Lib.hid hneg
  have HU := Lib.hid hu
  have hr := pm_result s.data.toList u hu
  rw [hneg] at hr
  have hhl : (handed s.data.toList).length ≤ 2097152 := by unfold handed; rw [List.length_append, List.length_take]; omega
  clear hneg hu
  cases neg
  all_goals
    first
    | (have hx := hr (u : Int) rfl)
    | (have hx := hr (-(u : Int)) rfl)
    clear hr
    rcases hx with ⟨g1, g2, g3⟩ | ⟨g1, g2, g3⟩
    all_goals
      first
      | (have ht := same_yes g1)
      | (have ht := same_no g1)
      rw [g2, g3]
      clear g1 g2 g3
      go_enter Tryd.func29, Tryd.ntmps29
      go_wp2_with (go_at_call 43; refine (cut_prefix_c _ _).mono ?_; rw [HN.out]; rintro e w' ⟨rfl, rfl⟩)
      go_wp2_with (go_at_call 44; refine (cut_c _ _ he (by omega)).mono ?_; rintro e w1 ⟨rfl, hb1, he1⟩)
      have HB := Lib.hid hb1
      have HE := Lib.hid he1
      clear hb1 he1
      go_wp2_with (go_at_call 45; rw [first_three, mk_append]; refine (parse_ok (handed s.data.toList) u HU.out hhl _).mono ?_; rintro e w2 ⟨rfl, hb2⟩)
      have HE2 := Lib.hid (HE.out.kept hb2)
      have HB2 := Lib.hid (HB.out.trans (hb2.mono HB.out.size))
      clear hb2
      go_wp2_with (go_at_call 21; refine (impl_milli _ _ HE2.out.env).mono ?_; rintro e w3 ⟨rfl, hb3⟩)
      go_ret2
      exact ⟨rfl, HB2.out.trans (hb3.mono HB2.out.size)⟩

set_option maxRecDepth 100000 in
theorem impl_parse (s : ByteArray) (hs : s.size ≤ 1048576) (w : World) (he : Env2 w) :
    Calls Tryd.prog 29 #[.string s] w fun e w' => e = .returned (.tuple #[.int .i64 (pmV s.data.toList), .bool (pmB s.data.toList)]) ∧ Below w.heap.size w w' := by
  by_cases hex : ∃ u, Lib.parseUintB 32 (handed s.data.toList) = .ok u
  · obtain ⟨u, hu⟩ := hex
    exact impl_parse_ok s hs _ rfl u hu w he
  · have hno : ∀ u, Lib.parseUintB 32 (handed s.data.toList) ≠ .ok u := fun u h => hex ⟨u, h⟩
    obtain ⟨g2, g3⟩ := pm_bad _ hno
    rw [g2, g3]
    have h1 := trim_len s.data.toList
    obtain ⟨h2, h3⟩ := cut_len (Lib.trimPrefix s.data.toList [45])
    have hsl : s.data.toList.length ≤ 1048576 := hs
    have hms := mk_size
    have HNo := Lib.hid hno
    have hhl : (handed s.data.toList).length ≤ 2097152 := by unfold handed; rw [List.length_append, List.length_take]; omega
    clear g2 g3 hex hno
    go_enter Tryd.func29, Tryd.ntmps29
    go_wp2_with (go_at_call 43; refine (cut_prefix_c _ _).mono ?_; rintro e w' ⟨rfl, rfl⟩)
    go_wp2_with (go_at_call 44; refine (cut_c _ _ he (by omega)).mono ?_; rintro e w1 ⟨rfl, hb1, he1⟩)
    have HB := Lib.hid hb1
    have HE := Lib.hid he1
    clear hb1 he1
    go_wp2_with (go_at_call 45; rw [first_three, mk_append]; refine (parse_bad (handed s.data.toList) HNo.out hhl _ HE.out).mono ?_; rintro e w2 ⟨x, N, rfl, hb2⟩)
    have HB2 := Lib.hid (HB.out.trans (hb2.mono HB.out.size))
    clear hb2
    go_wp2
    go_ret2
    exact ⟨rfl, HB2.out⟩

/-! ### the model's -/
theorem take_snoc_b (s : ByteArray) (k : Nat) (h : k < s.size) : s.data.toList.take (k + 1) = s.data.toList.take k ++ [s[k]] := by
  rw [List.take_succ_eq_append_getElem (by simpa using h)]; rfl
theorem int_eq' {k : IntKind} {a b : Int} (h : a = b) : Value.int k a = .int k b := by rw [h]
theorem head_yes {s : ByteArray} (h : 0 < s.size) (hc : s[0].toNat = 45) : (if s.data.toList.head? = some 45 then (-1 : Int) else 1) = -1 := by
  have h2 : 0 < s.data.toList.length := by simpa using h
  have e : s.data.toList.head? = some s[0] := by rw [List.head?_eq_getElem?, List.getElem?_eq_getElem h2]; rfl
  rw [e, if_pos]
  congr 1
  exact UInt8.toNat_inj.1 hc
theorem head_no {s : ByteArray} (h : 0 < s.size) (hc : ¬ s[0].toNat = 45) : (if s.data.toList.head? = some 45 then (-1 : Int) else 1) = 1 := by
  have h2 : 0 < s.data.toList.length := by simpa using h
  have e : s.data.toList.head? = some s[0] := by rw [List.head?_eq_getElem?, List.getElem?_eq_getElem h2]; rfl
  rw [e, if_neg]
  intro g
  injection g with g
  rw [g] at hc
  exact hc rfl
theorem pow_sum {Y X m b0 : Nat} (h : Y * 10 ^ (3 - m) = X * 10 ^ (3 - b0)) (hX : X ≤ 20000000000000) (hm : m < 3) : Y ≤ 2000000000000000 ∧ 10 * Y * 10 ^ (3 - (m + 1)) = X * 10 ^ (3 - b0) := by
  have h1 : 10 ^ (3 - b0) ≤ 1000 := Nat.pow_le_pow_right (by omega : 0 < 10) (by omega : 3 - b0 ≤ 3)
  have h2 : X * 10 ^ (3 - b0) ≤ 20000000000000 * 1000 := Nat.mul_le_mul hX h1
  have h3 : 10 ^ (3 - m) = 10 * 10 ^ (3 - (m + 1)) := by
    have : 3 - m = (3 - (m + 1)) + 1 := by omega
    rw [this, Nat.pow_succ, Nat.mul_comm]
  have h4 : 1 ≤ 10 ^ (3 - (m + 1)) := Nat.one_le_pow _ _ (by omega)
  have h5 : Y * 10 * 1 ≤ Y * 10 * 10 ^ (3 - (m + 1)) := Nat.mul_le_mul_left _ h4
  rw [h3, ← Nat.mul_assoc] at h
  have h6 : Y * 10 * 10 ^ (3 - (m + 1)) = 10 * Y * 10 ^ (3 - (m + 1)) := by rw [Nat.mul_comm Y 10]
  omega
theorem pow_le (k : Nat) (h : k ≤ 13) : 10 ^ k ≤ 10000000000000 := Nat.pow_le_pow_right (by omega) h
theorem scan_next {s : ByteArray} {k : Nat} {X : Nat} {D : Int} (hk : k < s.size) (h : scan (s.data.toList.take k) = some (k, X, D)) {st : Option (Nat × Nat × Int)} (hs : stepP (some (k, X, D)) s[k] = st) : scan (s.data.toList.take (k + 1)) = st := by
  rw [take_snoc_b s k hk, scan_snoc, h, hs]

set_option maxHeartbeats 2000000 in
set_option maxRecDepth 100000 in
theorem spec_parse (s : ByteArray) (w : World) :
    Calls Tryd.prog 26 #[.string s] w fun e w' => e = .returned (.tuple #[.int .i64 (pmV s.data.toList), .bool (pmB s.data.toList)]) ∧ Below w.heap.size w w' := by
  by_cases hbig : 13 < s.size
  · obtain ⟨e1, e2⟩ : pmB s.data.toList = false ∧ pmV s.data.toList = 0 := pm_none fun v hv e => by
      obtain ⟨_, _, _, h, _⟩ := scan_milli hv
      rw [e] at h
      have : s.data.toList.length = s.size := by simp
      omega
    rw [e1, e2]
    clear e1 e2
    go_enter Tryd.func26, Tryd.ntmps26
    go_wp2
    go_ret2
    exact ⟨rfl, Below.refl _ _⟩
  · go_enter Tryd.func26, Tryd.ntmps26
    go_wp2
    go_loop [4, 5, 6] (fun x d i => ∃ (k X : Nat) (D : Int), k ≤ s.size ∧ i = .int .i64 k ∧ x = .int .i64 (X : Int) ∧ d = .int .i64 D ∧ X ≤ 20000000000000 ∧ -1 ≤ D ∧ D ≤ 13 ∧ Hid (scan (s.data.toList.take k) = some (k, X, D))) (fun _ _ i => s.size - (intOf i).toNat)
    case atStart => exact ⟨0, 0, -1, Nat.zero_le _, rfl, rfl, rfl, by omega, by omega, by omega, rfl⟩
    case round =>
      obtain ⟨k, X, D, hk, rfl, rfl, rfl, hX, hD1, hD2, hsc⟩ := hrel
      by_cases hlt : k < s.size
      · have hX2 : X ≤ 1000000000000 := by
          have h1 := (scan_bd _ hsc.out).2.2
          have h2 : (s.data.toList.take k).length = k := by simp; omega
          rw [h2] at h1
          have : 10 ^ k ≤ 1000000000000 := Nat.pow_le_pow_right (by omega : 0 < 10) (by omega : k ≤ 12)
          omega
        have nx := Lib.hid (fun st hs => scan_next (st := st) hlt hsc.out hs)
        rcases step_ways k X D s[k] with ⟨c1, c2, e⟩ | ⟨c1, c2, c3, e⟩ | ⟨c1, c2, e⟩ | ⟨c1, c2, c3, e⟩
        · have HE := Lib.hid (nx.out _ e)
          have d1 : 45 ≤ s[k].toNat := by omega
          have d2 : s[k].toNat ≤ 45 := by omega
          have d3 : k ≤ 0 := by omega
          clear e c1 c2 hsc nx
          go_wp2
          go_round
          case rel => exact ⟨k + 1, X, D, by omega, by go_num, rfl, rfl, hX, hD1, hD2, HE.out⟩
          case measure => simp [intOf]; omega
        · have HE := Lib.hid (nx.out _ e)
          have d1 : 46 ≤ s[k].toNat := by omega
          have d2 : s[k].toNat ≤ 46 := by omega
          clear e c1 c2 hsc nx
          go_wp2
          go_round
          case rel => exact ⟨k + 1, X, (k : Int), by omega, by go_num, rfl, rfl, hX, by omega, by omega, HE.out⟩
          case measure => simp [intOf]; omega
        · have HE := Lib.hid (nx.out _ e)
          clear e hsc nx
          go_wp2
          go_round
          case rel => exact ⟨k + 1, 10 * X + (s[k].toNat - 48), D, by omega, by go_num, int_eq' (by omega), rfl, by omega, hD1, hD2, HE.out⟩
          case measure => simp [intOf]; omega
        · have HE := Lib.hid (pm_stop (scan_none (nx.out _ e)))
          clear e hsc nx
          by_cases q1 : s[k].toNat = 45
          · have d1 : 45 ≤ s[k].toNat := by omega
            have d2 : s[k].toNat ≤ 45 := by omega
            have d3 : 0 < k := by omega
            clear c1 c2 c3 q1
            go_wp2
            go_ret2
            exact ⟨retIB HE.out.2.symm HE.out.1.symm, Below.refl _ _⟩
          · by_cases q2 : s[k].toNat = 46
            · have d1 : 46 ≤ s[k].toNat := by omega
              have d2 : s[k].toNat ≤ 46 := by omega
              have d3 : 0 ≤ D := by omega
              clear c1 c2 c3 q1 q2
              go_wp2
              go_ret2
              exact ⟨retIB HE.out.2.symm HE.out.1.symm, Below.refl _ _⟩
            · by_cases q3 : s[k].toNat < 48
              · clear c1 c2 c3
                go_wp2
                go_ret2
                exact ⟨retIB HE.out.2.symm HE.out.1.symm, Below.refl _ _⟩
              · have d1 : 57 < s[k].toNat := by omega
                clear c1 c2 c3 q1 q2 q3
                go_wp2
                go_ret2
                exact ⟨retIB HE.out.2.symm HE.out.1.symm, Below.refl _ _⟩
      · have hl : s.data.toList.length = s.size := by simp
        have hfull : scan s.data.toList = some (k, X, D) := by
          have := hsc.out
          rw [List.take_of_length_le (by omega)] at this
          exact this
        have hX13 := hX
        obtain ⟨_, hD3, _⟩ := scan_bd _ hfull
        clear hsc hX
        have hways : (∃ b0 : Nat, b0 ≤ 3 ∧ (D < 0 ∧ b0 = 0 ∨ 0 ≤ D ∧ (b0 : Int) = (s.size : Int) - D - 1) ∧ fin s.data.toList = (if s.data.toList.head? = some 45 then -1 else 1) * ((X * 10 ^ (3 - b0) : Nat) : Int)) ∨ (0 ≤ D ∧ 3 < (s.size : Int) - D - 1 ∧ (pmB s.data.toList = false ∧ pmV s.data.toList = 0)) := by
          by_cases hd : D < 0
          · exact .inl ⟨0, by omega, .inl ⟨hd, rfl⟩, fin_of hfull 0 (by rw [if_pos hd])⟩
          · by_cases hf : 3 < s.data.toList.length - D.toNat - 1
            · exact .inr ⟨by omega, by omega, pm_far hfull (by omega) hf⟩
            · exact .inl ⟨s.data.toList.length - D.toNat - 1, by omega, .inr ⟨by omega, by omega⟩, fin_of hfull _ (by rw [if_neg hd])⟩
        clear hD3 hfull hl
        rcases hways with ⟨b0, hb3, hbd, hfin⟩ | ⟨hf1, hf2, hpm⟩
        · have HF := Lib.hid hfin
          clear hfin
          rcases hbd with ⟨hd, rfl⟩ | ⟨hd, hb0⟩
          all_goals
            go_wp2
            first
            | go_loop [4, 7] (fun x b => ∃ (m Y : Nat), m ≤ 3 ∧ b = .int .i64 m ∧ x = .int .i64 (Y : Int) ∧ Y ≤ 20000000000000000 ∧ Hid (Y * 10 ^ (3 - m) = X * 10 ^ (3 - b0))) (fun _ b => 3 - (intOf b).toNat)
            | go_loop [4, 7] (fun x b => ∃ (m Y : Nat), m ≤ 3 ∧ b = .int .i64 m ∧ x = .int .i64 (Y : Int) ∧ Y ≤ 20000000000000000 ∧ Hid (Y * 10 ^ (3 - m) = X * 10 ^ (3 - 0))) (fun _ b => 3 - (intOf b).toNat)
            case atStart => first | exact ⟨b0, X, hb3, int_eq' hb0.symm, rfl, by omega, rfl⟩ | exact ⟨0, X, hb3, rfl, rfl, by omega, rfl⟩
            case round =>
              obtain ⟨m, Y, hm, rfl, rfl, hY, hYX⟩ := hrel
              by_cases hm3 : m < 3
              · obtain ⟨q1, q2⟩ := pow_sum hYX.out hX13 hm3
                have HQ := Lib.hid q2
                clear q2
                go_wp2
                go_round
                case rel => exact ⟨m + 1, 10 * Y, by omega, by go_num, int_eq' (by omega), by omega, HQ.out⟩
                case measure => simp [intOf]; omega
              · obtain rfl : m = 3 := by omega
                have hf2 := HF.out
                have hYX2 := hYX.out
                rw [Nat.sub_self, Nat.pow_zero, Nat.mul_one] at hYX2
                rw [← hYX2] at hf2
                have HF2 := Lib.hid hf2
                clear hf2 hYX2
                by_cases h0 : 0 < s.size
                · have hem : s.toList.isEmpty = false := by
                    rw [ByteArray.toList_eq]
                    have h2 : 0 < s.data.toList.length := by simpa using h0
                    cases hq : s.data.toList with
                    | nil => rw [hq] at h2; simp at h2
                    | cons a b => rfl
                  have hne : s.data.toList ≠ [] := by
                    intro hq
                    have h2 : 0 < s.data.toList.length := by simpa using h0
                    rw [hq] at h2
                    simp at h2
                  by_cases hc : s[0].toNat = 45
                  · have hz := HF2.out
                    rw [head_yes h0 hc] at hz
                    have hz2 : fin s.data.toList = -(Y : Int) := by omega
                    have d1 : 45 ≤ s[0].toNat := by omega
                    have d2 : s[0].toNat ≤ 45 := by omega
                    by_cases hmi : milli (-(Y : Int)) = s.data.toList
                    · have ht := same_yes hmi
                      have HP := Lib.hid (pm_yes hne (by rw [hz2]; exact hmi))
                      have HZ := Lib.hid hz2
                      clear hz hz2 hmi hc hne
                      go_wp2_with (go_at_call 18; refine (spec_milli _ _).mono ?_; rintro e w1 ⟨rfl, hb1⟩)
                      go_ret2
                      exact ⟨retIB (by rw [HP.out.2, HZ.out]) HP.out.1.symm, hb1⟩
                    · have ht := same_no hmi
                      have HP := Lib.hid (pm_no (l := s.data.toList) (by rw [hz2]; exact fun h => hmi h.2))
                      clear hz hz2 hmi hc hne
                      go_wp2_with (go_at_call 18; refine (spec_milli _ _).mono ?_; rintro e w1 ⟨rfl, hb1⟩)
                      go_ret2
                      exact ⟨retIB HP.out.2.symm HP.out.1.symm, hb1⟩
                  · have hz := HF2.out
                    rw [head_no h0 hc] at hz
                    have hz2 : fin s.data.toList = (Y : Int) := by omega
                    by_cases hmi : milli (Y : Int) = s.data.toList
                    · have ht := same_yes hmi
                      have HP := Lib.hid (pm_yes hne (by rw [hz2]; exact hmi))
                      have HZ := Lib.hid hz2
                      clear hz hz2 hmi hne
                      go_wp2_with (go_at_call 18; refine (spec_milli _ _).mono ?_; rintro e w1 ⟨rfl, hb1⟩)
                      go_ret2
                      exact ⟨retIB (by rw [HP.out.2, HZ.out]) HP.out.1.symm, hb1⟩
                    · have ht := same_no hmi
                      have HP := Lib.hid (pm_no (l := s.data.toList) (by rw [hz2]; exact fun h => hmi h.2))
                      clear hz hz2 hmi hne
                      go_wp2_with (go_at_call 18; refine (spec_milli _ _).mono ?_; rintro e w1 ⟨rfl, hb1⟩)
                      go_ret2
                      exact ⟨retIB HP.out.2.symm HP.out.1.symm, hb1⟩
                · have hnil : s.data.toList = [] := List.length_eq_zero_iff.1 (by have hq : s.data.toList.length = s.size := rfl; omega)
                  have hem : s.toList.isEmpty = true := by rw [ByteArray.toList_eq, hnil]; rfl
                  have HP := Lib.hid (pm_no (l := s.data.toList) (fun h => h.1 hnil))
                  by_cases hmi : milli (Y : Int) = s.data.toList
                  all_goals
                    first
                    | (have ht := same_yes hmi)
                    | (have ht := same_no hmi)
                    clear hmi hnil
                    go_wp2_with (go_at_call 18; refine (spec_milli _ _).mono ?_; rintro e w1 ⟨rfl, hb1⟩)
                    go_ret2
                    exact ⟨retIB HP.out.2.symm HP.out.1.symm, hb1⟩
        · have HE := Lib.hid hpm
          clear hpm
          go_wp2
          go_ret2
          exact ⟨retIB HE.out.2.symm HE.out.1.symm, Below.refl _ _⟩
end Go.Proofs.YtimpajhgplkpmabDoor.Mp
