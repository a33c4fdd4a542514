/- Keys of series: pod and metric compared: the model's l02Less and l03Before, cmp.Compare at strings and integers, cmp.Or, impl.compareSeries. -/
import Derived.Test.YtgmdfkmmbcpikaaGreatSer2
import Derived.Sort.LotA
import Derived.Sort.Walk0
import Derived.StillTailTactics
import Derived.BigQuiet
import Derived.Shelf.SlSortCmp.QuietGrown
import Derived.Lib.SmallJoins
namespace Go.Proofs.YtgmdfkmmbcpikaaGreat.Key
open Go.RowKit Go.Sort
open Go.Proofs.YtgmdfkmmbcpikaaGreat.C1
open Go.Proofs.YtgmdfkmmbcpikaaGreat.C2
open Go.Proofs.YtgmdfkmmbcpikaaGreat.Smps
open Go.Proofs.YtgmdfkmmbcpikaaGreat.Mem
open Go.Proofs.YtgmdfkmmbcpikaaGreat.Ser
open Go.Proofs.YtgmdfkmmbcpikaaGreat.Ser2
set_option linter.unusedVariables false

/-! ### Texts byte by byte. -/
theorem lt_at : ∀ (k : Nat) (x y : List UInt8) (hx : k < x.length) (hy : k < y.length), x.take k = y.take k → x[k] ≠ y[k] → (x < y ↔ x[k] < y[k])
  | 0, a :: x, b :: y, _, _, _, h => by
    simp only [List.getElem_cons_zero] at h ⊢
    rw [List.cons_lt_cons_iff]
    exact ⟨fun g => by rcases g with g | ⟨g, _⟩; exact g; exact absurd g h, fun g => .inl g⟩
  | k + 1, a :: x, b :: y, hx, hy, h1, h2 => by
    simp only [List.take_succ_cons, List.cons.injEq] at h1
    simp only [List.getElem_cons_succ] at h2 ⊢
    rw [List.cons_lt_cons_iff, ← lt_at k x y (by simpa using hx) (by simpa using hy) h1.2 h2]
    exact ⟨fun g => by
      rcases g with g | ⟨_, g⟩
      · rw [h1.1] at g; exact absurd g (UInt8.lt_irrefl b)
      · exact g, fun g => .inr ⟨h1.1, g⟩⟩
theorem lt_end : ∀ (k : Nat) (x y : List UInt8), k ≤ x.length → k ≤ y.length → x.take k = y.take k → (k = x.length ∨ k = y.length) → (x < y ↔ x.length < y.length)
  | 0, [], [], _, _, _, _ => by simp
  | 0, [], b :: y, _, _, _, _ => by simp
  | 0, a :: x, [], _, _, _, _ => by simp
  | 0, a :: x, b :: y, _, _, _, h => by simp at h
  | k + 1, a :: x, b :: y, hx, hy, h1, h2 => by
    simp only [List.take_succ_cons, List.cons.injEq] at h1
    rw [List.cons_lt_cons_iff]
    have ih := lt_end k x y (by simpa using hx) (by simpa using hy) h1.2 (by simpa using h2)
    simp only [List.length_cons, Nat.add_lt_add_iff_right, ← ih]
    exact ⟨fun g => by
      rcases g with g | ⟨_, g⟩
      · rw [h1.1] at g; exact absurd g (UInt8.lt_irrefl b)
      · exact g, fun g => .inr ⟨h1.1, g⟩⟩

def lessV (a b : ByteArray) : Bool := decide (a.data.toList < b.data.toList)
theorem get_list (s : ByteArray) (k : Nat) (h : k < s.size) : s.data.toList[k]'(by simpa using h) = s[k] := by simp [ByteArray.getElem_eq_getElem_data]
theorem take_next {a b : ByteArray} {k : Nat} (ha : k < a.size) (hb : k < b.size) (h : a.data.toList.take k = b.data.toList.take k) (he : a[k] = b[k]) : a.data.toList.take (k + 1) = b.data.toList.take (k + 1) := by
  rw [List.take_succ_eq_append_getElem (by simpa using ha), List.take_succ_eq_append_getElem (by simpa using hb), h, get_list a k ha, get_list b k hb, he]

theorem drew3 (w : World) (q a b : Nat) : ∃ q', ((w.drewN q).drewN a).drewN b = w.drewN q' := ⟨q + (a + b), by rw [World.drewN_drewN, World.drewN_drewN]⟩
theorem less_at {a b : ByteArray} {k : Nat} (h1 : k < a.size) (h2 : k < b.size) (hT : a.data.toList.take k = b.data.toList.take k) (h3 : ¬ a[k] = b[k]) : (a.data.toList < b.data.toList) ↔ (a[k].toNat < b[k].toNat) := by
  have hl := lt_at k a.data.toList b.data.toList (by simpa using h1) (by simpa using h2) hT (by rw [get_list a k h1, get_list b k h2]; exact h3)
  rw [get_list a k h1, get_list b k h2] at hl
  rw [hl, UInt8.lt_iff_toNat_lt]
theorem spec_less (a b : ByteArray) (ha : a.size ≤ 9223372036854775807) (hb : b.size ≤ 9223372036854775807) (w : World) :
    Calls Tryz.prog 65 #[.string a, .string b] w fun e w' => e = .returned (.bool (lessV a b)) ∧ ∃ q, w' = w.drewN q := by
  have hla : a.data.toList.length = a.size := by simp
  have hlb : b.data.toList.length = b.size := by simp
  have HLA := Lib.hid hla
  have HLB := Lib.hid hlb
  clear hla hlb
  go_enter Tryz.func65, Tryz.ntmps65
  go_wp2
  go_loopw [5] (fun i wr => ∃ k : Nat, i = .int .i64 k ∧ k ≤ a.size ∧ k ≤ b.size ∧ Hid (a.data.toList.take k = b.data.toList.take k) ∧ ∃ q, wr = w.drewN q) (fun i _ => a.size - (intOf i).toNat)
  case atStart => exact ⟨0, rfl, Nat.zero_le _, Nat.zero_le _, by show _ = _; simp, 0, rfl⟩
  case round =>
    obtain ⟨k, rfl, hka, hkb, HT, q, rfl⟩ := hrel
    by_cases h1 : k < a.size
    · by_cases h2 : k < b.size
      · by_cases h3 : a[k] = b[k]
        · have hne : ((a[k].toNat : Int) != (b[k].toNat : Int)) = false := by rw [h3]; simp
          have HN : Hid _ := take_next h1 h2 HT.out h3
          clear HT h3
          go_wp2_with fail
          go_quiet (fail)
          go_wp2
          go_roundw
          case rel => exact ⟨k + 1, by go_num, by omega, by omega, HN, q + nq, rfl⟩
          case measure => simp [intOf]; omega
        · have hn : ¬ a[k].toNat = b[k].toNat := fun g => h3 (UInt8.toNat_inj.1 g)
          have hne : ((a[k].toNat : Int) != (b[k].toNat : Int)) = true := by simp; omega
          have hl2 := less_at h1 h2 HT.out h3
          have HV : Hid (decide ((a[k].toNat : Int) < (b[k].toNat : Int)) = lessV a b) := by
            show _ = _
            unfold lessV
            rw [decide_eq_decide, hl2]
            omega
          clear hl2 HT h3
          go_wp2_with fail
          go_quiet (fail)
          go_wp2_with fail
          go_quiet (fail)
          go_wp2
          go_ret
          exact ⟨ret1B (by rw [← HV.out]; simp), drew3 _ _ _ _⟩
      · have HV : Hid (decide ((a.size : Int) < (b.size : Int)) = lessV a b) := by
          show _ = _
          have := lt_end k a.data.toList b.data.toList (by rw [HLA.out]; exact hka) (by rw [HLB.out]; exact hkb) HT.out (.inr (by rw [HLB.out]; omega))
          unfold lessV
          rw [decide_eq_decide, this, HLA.out, HLB.out]
          omega
        go_wp2
        go_ret
        exact ⟨ret1B (by rw [← HV.out]; simp), q, rfl⟩
    · have HV : Hid (decide ((a.size : Int) < (b.size : Int)) = lessV a b) := by
        show _ = _
        have := lt_end k a.data.toList b.data.toList (by rw [HLA.out]; exact hka) (by rw [HLB.out]; exact hkb) HT.out (.inl (by rw [HLA.out]; omega))
        unfold lessV
        rw [decide_eq_decide, this, HLA.out, HLB.out]
        omega
      go_wp2
      go_ret
      exact ⟨ret1B (by rw [← HV.out]; simp), q, rfl⟩

def cmpB (x y : List UInt8) : Int := if x < y then -1 else if y < x then 1 else 0
def cmpI (x y : Int) : Int := if x < y then -1 else if y < x then 1 else 0

theorem less_yes {x y : ByteArray} (h : x.data.toList < y.data.toList) : Op.bytesLess x.toList y.toList = true := by
  rw [bytesLess_eq, ByteArray.toList_eq, ByteArray.toList_eq, decide_eq_true h]
theorem less_no {x y : ByteArray} (h : ¬ x.data.toList < y.data.toList) : Op.bytesLess x.toList y.toList = false := by
  rw [bytesLess_eq, ByteArray.toList_eq, ByteArray.toList_eq, decide_eq_false h]

theorem nan_str (x : ByteArray) (w : World) : Calls Tryz.prog 158 #[.string x] w fun e w' => e = .returned (.bool false) ∧ w = w' := by
  go_enter Tryz.func158, Tryz.ntmps158
  go_wp2
  go_ret
  exact ⟨ret1B (by simp), rfl⟩
theorem nan_int (x : Int) (w : World) : Calls Tryz.prog 231 #[.int .i64 x] w fun e w' => e = .returned (.bool false) ∧ w = w' := by
  go_enter Tryz.func231, Tryz.ntmps231
  go_wp2
  go_ret
  exact ⟨ret1B (by simp), rfl⟩
theorem cmp_str (x y : ByteArray) (w : World) : Calls Tryz.prog 125 #[.string x, .string y] w fun e w' => e = .returned (.int .i64 (cmpB x.data.toList y.data.toList)) ∧ w' = w := by
  unfold cmpB
  by_cases h1 : x.data.toList < y.data.toList
  · rw [if_pos h1]
    have l1 := less_yes h1
    clear h1
    go_enter Tryz.func125, Tryz.ntmps125
    go_wp2_with (go_at_call 158; refine (nan_str _ _).mono ?_; rintro e w' ⟨rfl, rfl⟩)
    go_ret
    exact ⟨rfl, rfl⟩
  · rw [if_neg h1]
    have l1 := less_no h1
    by_cases h2 : y.data.toList < x.data.toList
    · rw [if_pos h2]
      have l2 : (x.toList == y.toList) = false := by
        rw [ByteArray.toList_eq, ByteArray.toList_eq, beq_eq_false_iff_ne]
        intro e
        rw [e] at h2
        exact List.lt_irrefl _ h2
      clear h2
      go_enter Tryz.func125, Tryz.ntmps125
      go_wp2_with (go_at_call 158; refine (nan_str _ _).mono ?_; rintro e w' ⟨rfl, rfl⟩)
      go_ret
      exact ⟨rfl, rfl⟩
    · rw [if_neg h2]
      have l2 : (x.toList == y.toList) = true := by
        rw [ByteArray.toList_eq, ByteArray.toList_eq, beq_iff_eq]
        exact List.le_antisymm (List.not_lt.1 h2) (List.not_lt.1 h1)
      clear h2
      go_enter Tryz.func125, Tryz.ntmps125
      go_wp2_with (go_at_call 158; refine (nan_str _ _).mono ?_; rintro e w' ⟨rfl, rfl⟩)
      go_ret
      exact ⟨rfl, rfl⟩
theorem cmp_int (x y : Int) (w : World) : Calls Tryz.prog 214 #[.int .i64 x, .int .i64 y] w fun e w' => e = .returned (.int .i64 (cmpI x y)) ∧ w' = w := by
  unfold cmpI
  by_cases h1 : x < y
  · rw [if_pos h1]
    go_enter Tryz.func214, Tryz.ntmps214
    go_wp2_with (go_at_call 231; refine (nan_int _ _).mono ?_; rintro e w' ⟨rfl, rfl⟩)
    go_ret
    exact ⟨rfl, rfl⟩
  · rw [if_neg h1]
    by_cases h2 : y < x
    all_goals
      first | rw [if_pos h2] | rw [if_neg h2]
      go_enter Tryz.func214, Tryz.ntmps214
      go_wp2_with (go_at_call 231; refine (nan_int _ _).mono ?_; rintro e w' ⟨rfl, rfl⟩)
      go_ret
      exact ⟨rfl, rfl⟩

/-- Pod and metric come ahead. -/
def keyLt (p m p2 m2 : ByteArray) : Prop := p.data.toList < p2.data.toList ∨ p.data.toList = p2.data.toList ∧ m.data.toList < m2.data.toList
instance (p m p2 m2 : ByteArray) : Decidable (keyLt p m p2 m2) := by unfold keyLt; infer_instance
theorem spec_before (p m p2 m2 : ByteArray) (h0 : p.size ≤ 9223372036854775807) (h1 : m.size ≤ 9223372036854775807) (h2 : p2.size ≤ 9223372036854775807) (h3 : m2.size ≤ 9223372036854775807) (w : World) :
    Calls Tryz.prog 67 #[.string p, .string m, .string p2, .string m2] w fun e w' => e = .returned (.bool (decide (keyLt p m p2 m2))) ∧ ∃ q, w' = w.drewN q := by
  by_cases e1 : p.data.toList = p2.data.toList
  · have t1 : (p.toList == p2.toList) = true := by rw [ByteArray.toList_eq, ByteArray.toList_eq, e1]; simp
    have HV : Hid (lessV m m2 = decide (keyLt p m p2 m2)) := by
      show _ = _
      unfold lessV
      rw [decide_eq_decide]
      exact ⟨fun h => Or.inr ⟨e1, h⟩, fun h => by
        rcases h with h | ⟨_, h⟩
        · rw [e1] at h; exact absurd h (List.lt_irrefl _)
        · exact h⟩
    clear e1
    go_enter Tryz.func67, Tryz.ntmps67
    go_wp2_with (go_at_call 65; refine (spec_less _ _ (by omega) (by omega) _).mono ?_; rintro e w1 ⟨rfl, q, rfl⟩)
    go_ret
    exact ⟨ret1B HV.out, q, rfl⟩
  · have t1 : (p.toList == p2.toList) = false := by rw [ByteArray.toList_eq, ByteArray.toList_eq, beq_eq_false_iff_ne]; exact e1
    have HV : Hid (lessV p p2 = decide (keyLt p m p2 m2)) := by
      show _ = _
      unfold lessV
      rw [decide_eq_decide]
      exact ⟨fun h => Or.inl h, fun h => by
        rcases h with h | ⟨h, _⟩
        · exact h
        · exact absurd h e1⟩
    clear e1
    go_enter Tryz.func67, Tryz.ntmps67
    go_wp2_with (go_at_call 65; refine (spec_less _ _ (by omega) (by omega) _).mono ?_; rintro e w1 ⟨rfl, q, rfl⟩)
    go_ret
    exact ⟨ret1B HV.out, q, rfl⟩

def or2 (x y : Int) : Int := if x = 0 then y else x
/-- compareSeries. -/
def kc (p m p2 m2 : ByteArray) : Int := or2 (cmpB p.data.toList p2.data.toList) (cmpB m.data.toList m2.data.toList)
theorem kc_neg (p m p2 m2 : ByteArray) : kc p m p2 m2 < 0 ↔ keyLt p m p2 m2 := by
  unfold kc keyLt or2 cmpB
  rcases Std.lt_trichotomy p.data.toList p2.data.toList with h | h | h
  · rw [if_pos h]
    exact ⟨fun _ => .inl h, fun _ => by simp⟩
  · have n1 : ¬ p.data.toList < p2.data.toList := by rw [h]; exact List.lt_irrefl _
    have n2 : ¬ p2.data.toList < p.data.toList := by rw [h]; exact List.lt_irrefl _
    rw [if_neg n1, if_neg n2, if_pos rfl]
    by_cases g : m.data.toList < m2.data.toList
    · rw [if_pos g]
      exact ⟨fun _ => .inr ⟨h, g⟩, fun _ => by simp⟩
    · rw [if_neg g]
      refine ⟨fun k => ?_, fun k => ?_⟩
      · split at k <;> simp at k
      · rcases k with k | ⟨_, k⟩
        · exact absurd k n1
        · exact absurd k g
  · have n1 : ¬ p.data.toList < p2.data.toList := fun g => List.lt_asymm h g
    rw [if_neg n1, if_pos h]
    refine ⟨fun k => by simp at k, fun k => ?_⟩
    rcases k with k | ⟨k, _⟩
    · exact absurd k n1
    · rw [k] at h; exact absurd h (List.lt_irrefl _)
theorem kc_zero (p m p2 m2 : ByteArray) : kc p m p2 m2 = 0 ↔ p = p2 ∧ m = m2 := by
  have ext : ∀ a b : ByteArray, a.data.toList = b.data.toList → a = b := fun a b h => by
    cases a; cases b; congr 1; exact Array.toList_inj.1 h
  unfold kc or2 cmpB
  rcases Std.lt_trichotomy p.data.toList p2.data.toList with h | h | h
  · rw [if_pos h]
    refine ⟨fun k => by simp at k, fun k => ?_⟩
    rw [k.1] at h; exact absurd h (List.lt_irrefl _)
  · have n1 : ¬ p.data.toList < p2.data.toList := by rw [h]; exact List.lt_irrefl _
    have n2 : ¬ p2.data.toList < p.data.toList := by rw [h]; exact List.lt_irrefl _
    rw [if_neg n1, if_neg n2, if_pos rfl]
    rcases Std.lt_trichotomy m.data.toList m2.data.toList with g | g | g
    · rw [if_pos g]
      refine ⟨fun k => by simp at k, fun k => ?_⟩
      rw [k.2] at g; exact absurd g (List.lt_irrefl _)
    · rw [if_neg (by rw [g]; exact List.lt_irrefl _), if_neg (by rw [g]; exact List.lt_irrefl _)]
      exact ⟨fun _ => ⟨ext _ _ h, ext _ _ g⟩, fun _ => rfl⟩
    · rw [if_neg (fun k => List.lt_asymm g k), if_pos g]
      refine ⟨fun k => by simp at k, fun k => ?_⟩
      rw [k.2] at g; exact absurd g (List.lt_irrefl _)
  · have n1 : ¬ p.data.toList < p2.data.toList := fun g => List.lt_asymm h g
    rw [if_neg n1, if_pos h]
    refine ⟨fun k => by simp at k, fun k => ?_⟩
    rw [k.1] at h; exact absurd h (List.lt_irrefl _)

theorem cmp_or2 (x y : Int) (b c : Nat) (w : World) (q0 : w.cell? ⟨b, 0, none⟩ = some (.int .i64 x)) (q1 : w.cell? ⟨b, 1, none⟩ = some (.int .i64 y)) :
    Calls Tryz.prog 124 #[.slice (some ⟨b, 0, none⟩) 2 c] w fun e w' => e = .returned (.int .i64 (or2 x y)) ∧ w' = w := by
  go_enter Tryz.func124, Tryz.ntmps124
  go_wp2
  go_loop [8] (fun i => ∃ k : Nat, k ≤ 2 ∧ i = .int .i64 k ∧ Hid ((1 ≤ k → x = 0) ∧ (2 ≤ k → y = 0))) (fun i => 2 - (intOf i).toNat)
  case atStart => exact ⟨0, by omega, rfl, ⟨fun h => by omega, fun h => by omega⟩⟩
  case round =>
    obtain ⟨k, hk, rfl, H⟩ := hrel
    rcases (by omega : k = 0 ∨ k = 1 ∨ k = 2) with rfl | rfl | rfl
    · cases h : (x != 0)
      · have hx := Lib.hid (show x = 0 by simpa using h)
        go_wp2
        go_round
        case rel => exact ⟨1, by omega, rfl, ⟨fun _ => hx.out, fun h => by omega⟩⟩
        case measure => simp [intOf]
      · have hx := Lib.hid (show ¬ x = 0 by simpa using h)
        go_wp2
        go_ret
        exact ⟨ret1I (by unfold or2; rw [if_neg hx.out]), rfl⟩
    · cases h : (y != 0)
      · have hx := Lib.hid (show y = 0 by simpa using h)
        go_wp2
        go_round
        case rel => exact ⟨2, by omega, rfl, ⟨fun _ => H.out.1 (by omega), fun _ => hx.out⟩⟩
        case measure => simp [intOf]
      · have hx := Lib.hid (show ¬ y = 0 by simpa using h)
        go_wp2
        go_ret
        exact ⟨ret1I (by unfold or2; rw [if_pos (H.out.1 (by omega))]), rfl⟩
    · go_wp2
      go_ret
      exact ⟨ret1I (by unfold or2; rw [if_pos (H.out.1 (by omega)), H.out.2 (by omega)]), rfl⟩

set_option maxRecDepth 20000 in
theorem cmp_series (a b : Sv) (w : World) :
    Calls Tryz.prog 88 #[svV a, svV b] w fun e w' => e = .returned (.int .i64 (kc a.s.pod a.s.met b.s.pod b.s.met)) ∧ ∃ q os', w' = grow (w.drewN q) os' := by
  have mixed : Tryz.prog.follows .mixedOrders = true := by kernel_rfl
  unfold svV kc
  obtain ⟨x, hx⟩ : ∃ x, cmpB a.s.pod.data.toList b.s.pod.data.toList = x := ⟨_, rfl⟩
  obtain ⟨y, hy⟩ : ∃ x, cmpB a.s.met.data.toList b.s.met.data.toList = x := ⟨_, rfl⟩
  have c1 := fun w => cmp_str a.s.pod b.s.pod w
  have c2 := fun w => cmp_str a.s.met b.s.met w
  rw [hx] at c1 ⊢
  rw [hy] at c2 ⊢
  clear hx hy
  go_enter Tryz.func88, Tryz.ntmps88
  obtain ⟨W, hW⟩ : ∃ W, W = (w.alloc (.cells #[.string a.s.pod, .string a.s.met, .slice a.a a.s.pts.length a.cap] 119)).alloc (.cells #[.string b.s.pod, .string b.s.met, .slice b.a b.s.pts.length b.cap] 119) := ⟨_, rfl⟩
  have g1 : W.heap[w.heap.size]? = some (.cells #[.string a.s.pod, .string a.s.met, .slice a.a a.s.pts.length a.cap] 119) := by
    rw [hW, Below.heap_alloc _ _ _ (by simp)]
    exact heap_alloc_new w _
  have g2 : W.heap[w.heap.size + 1]? = some (.cells #[.string b.s.pod, .string b.s.met, .slice b.a b.s.pts.length b.cap] 119) := by
    have := heap_alloc_new (w.alloc (.cells #[.string a.s.pod, .string a.s.met, .slice a.a a.s.pts.length a.cap] 119)) (.cells #[.string b.s.pod, .string b.s.met, .slice b.a b.s.pts.length b.cap] 119)
    rw [hW]
    simpa using this
  have p0 : W.cell? ⟨w.heap.size, 0, none⟩ = some (.string a.s.pod) := by simp only [World.cell?, g1]; rfl
  have p1 : W.cell? ⟨w.heap.size, 1, none⟩ = some (.string a.s.met) := by simp only [World.cell?, g1]; rfl
  have r0 : W.cell? ⟨w.heap.size + 1, 0, none⟩ = some (.string b.s.pod) := by simp only [World.cell?, g2]; rfl
  have r1 : W.cell? ⟨w.heap.size + 1, 1, none⟩ = some (.string b.s.met) := by simp only [World.cell?, g2]; rfl
  clear g1 g2
  have HW := Lib.hid hW
  go_wp2
  rw [← HW.out]
  clear hW
  go_still_tail 10, mixed
  still_call (c1 _)
  repeat still_step
  still_call (c2 _)
  try refine wpStill_nil ?_
  change wpList _ _ _ _ _ W.drew
  clear p0 p1 r0 r1
  generalize hw2 : W.drew = w2
  have HW2 := Lib.hid hw2
  clear hw2
  go_wp2_with (go_at_call 124; refine (cmp_or2 x y _ _ _ (by rw [World.cell?_alloc_new]; rfl) (by rw [World.cell?_alloc_new]; rfl)).mono ?_; rintro e w' ⟨rfl, rfl⟩)
  go_ret
  refine ⟨rfl, 1, #[.cells #[.string a.s.pod, .string a.s.met, .slice a.a a.s.pts.length a.cap] 119, .cells #[.string b.s.pod, .string b.s.met, .slice b.a b.s.pts.length b.cap] 119, .cells #[.int .i64 x, .int .i64 y] 3], ?_⟩
  rw [← HW2.out, HW.out, alloc_eq_grow, alloc_eq_grow, alloc_eq_grow, grow_grow, drew_grow, grow_grow]
  rfl
end Go.Proofs.YtgmdfkmmbcpikaaGreat.Key
