/- Lists of strings as the laws handle them: laws.szStringS, toStringS, eqStringS, markStringS. -/
import Derived.Test.YtgbkmnhdgaeejaaKeepI
namespace Go.Proofs.Ytgbkmnhdgaeejaa.Strs
open Go.RowKit Go.Sort Go.BigFrame
open Go.Proofs.Ytgbkmnhdgaeejaa.C1
open Go.Proofs.Ytgbkmnhdgaeejaa.C2
open Go.Proofs.Ytgbkmnhdgaeejaa.Smps
open Go.Proofs.Ytgbkmnhdgaeejaa.Mem
open Go.Proofs.Ytgbkmnhdgaeejaa.KeepS
set_option linter.unusedVariables false

set_option maxHeartbeats 1600000 in
theorem eq_strs (qs : List ByteArray) (a a' : Option Addr) (cap cap' : Nat) (w : World) (h : Txts w a qs) (h' : Txts w a' qs) (hm : qs.length ≤ 1048576) :
    Calls Try.prog 48 #[.slice a qs.length cap, .slice a' qs.length cap'] w fun e w' => e = .returned (.bool true) ∧ Below w.heap.size w w' := by
  have mixed : Try.prog.follows .mixedOrders = true := by kernel_rfl
  obtain ⟨b, off, ha, hb, hcell⟩ := h.cells
  obtain ⟨b', off', ha', hb', hcell'⟩ := h'.cells
  have Hc := Lib.hid hcell
  have Ha := Lib.hid ha
  have Hb := Lib.hid hb
  have Hc' := Lib.hid hcell'
  have Ha' := Lib.hid ha'
  have Hb' := Lib.hid hb'
  clear hcell ha hb hcell' ha' hb' h h'
  go_enter Try.func48, Try.ntmps48
  go_wp2
  go_loopw [5] (fun i wr => ∃ k : Nat, k ≤ qs.length ∧ i = .int .i64 k ∧ Hid (Below w.heap.size w wr)) (fun i _ => qs.length - (intOf i).toNat)
  case atStart => exact ⟨0, Nat.zero_le _, rfl, Below.refl _ _⟩
  case round =>
    obtain ⟨k, hk, rfl, HB⟩ := hrel
    by_cases hlt : k < qs.length
    · obtain rfl := Ha.out (by omega)
      obtain rfl := Ha'.out (by omega)
      have q0 := (HB.out.cell (p := ⟨b, off + k, none⟩) (Hb.out (by omega))).trans (Hc.out k hlt)
      have p0 := (HB.out.cell (p := ⟨b', off' + k, none⟩) (Hb'.out (by omega))).trans (Hc'.out k hlt)
      go_wp2_with fail
      go_quiet (fail)
      go_wp2
      go_roundw
      case rel => exact ⟨k + 1, by omega, by go_num, below_grow HB.out HB.out.size _ #[]⟩
      case measure => simp [intOf]; omega
    · obtain rfl : k = qs.length := by omega
      go_wp2
      go_ret
      exact ⟨rfl, HB.out⟩

/-- The marks of n texts, from k on. -/
def marksT (k n : Nat) : List Value := (List.range n).map fun i => .string (markT (k + i))
theorem marksT_len (k n : Nat) : (marksT k n).length = n := by simp [marksT]
theorem marksT_get (k n i : Nat) (h : i < (marksT k n).length) : (marksT k n)[i] = .string (markT (k + i)) := by simp [marksT]
def halfT (k : Nat) (vs : List Value) (i : Nat) : List Value := (marksT k vs.length).take i ++ vs.drop i
theorem halfT_len (k : Nat) (vs : List Value) (i : Nat) (h : i ≤ vs.length) : (halfT k vs i).length = vs.length := by unfold halfT; simp [marksT_len]; omega
theorem halfT_set (k : Nat) (vs : List Value) (i : Nat) (h : i < vs.length) : (halfT k vs i).set i (.string (markT (k + i))) = halfT k vs (i + 1) := by
  unfold halfT
  have e2 : i - ((marksT k vs.length).take i).length = 0 := by simp [marksT_len]; omega
  rw [List.set_append, if_neg (by simp [marksT_len]; omega), e2, List.drop_eq_getElem_cons h, List.set_cons_zero, List.take_succ_eq_append_getElem (by rw [marksT_len]; exact h), List.append_assoc, marksT_get]
  rfl
theorem halfT_all (k : Nat) (vs : List Value) : halfT k vs vs.length = marksT k vs.length := by
  unfold halfT
  rw [List.take_of_length_le (by rw [marksT_len]; exact Nat.le_refl _)]; simp

set_option maxHeartbeats 1600000 in
theorem mark_strs (g n cap k : Nat) (h0 : 0 < k) (vs : List Value) (hn : n = vs.length) (hk : k + vs.length ≤ 100000000) (w : World) (h : CellsW w g vs) :
    Calls Try.prog 49 #[.slice (some ⟨g, 0, none⟩) n cap, .int .i64 k] w fun e w' => e = .returned (.int .i64 ((k + n : Nat) : Int)) ∧ CellsW w' g (marksT k n) ∧ Only g w w' := by
  subst hn
  have HC0 := Lib.hid h
  clear h
  go_enter Try.func49, Try.ntmps49
  go_wp2
  go_loopw [1, 5] (fun vk vi wr => ∃ (i m : Nat), vi = .int .i64 i ∧ vk = .int .i64 m ∧ m = k + i ∧ i ≤ vs.length ∧ Hid (CellsW wr g (halfT k vs i) ∧ Only g w wr)) (fun _ vi _ => vs.length - (intOf vi).toNat)
  case atStart => exact ⟨0, k, rfl, rfl, by omega, Nat.zero_le _, by show CellsW _ _ (halfT k vs 0); unfold halfT; simpa using HC0.out, Only.refl _ _⟩
  case round =>
    obtain ⟨i, m, rfl, rfl, hm, hi, H⟩ := hrel
    have HM := Lib.hid hm
    have hmb : m ≤ 100000000 - (vs.length - i) := by omega
    have hmp : 0 < m := by omega
    clear hm
    by_cases hlt : i < vs.length
    · obtain ⟨m1, e1⟩ : ∃ x : Nat, (m : Int) + 1 = (x : Int) := ⟨m + 1, by omega⟩
      have HL := Lib.hid (halfT_len k vs i hi)
      have HC := Lib.hid H.out.1
      have HO := Lib.hid H.out.2
      clear H
      go_wp2_with (go_at_call 68; refine (mark_text m hmp (by omega) _).mono ?_; rintro e w1 ⟨rfl, hb1⟩; have HC1 := Lib.hid (HC.out.kept hb1); have HO1 := Lib.hid (HO.out.trans (Only.of_below hb1)); obtain ⟨p0, f0⟩ := HC1.out.2 i (by rw [HL.out]; exact hlt); clear hb1)
      have HC2 := Lib.hid (HC1.out.set i (.string (markT m)) (by rw [HL.out]; exact hlt))
      have HO2 := Lib.hid (HO1.out.setCell i (.string (markT m)))
      have HN : Hid (CellsW (w1.setCell ⟨g, i, none⟩ (.string (markT m))) g (halfT k vs (i + 1))) := by
        have h := HC2.out
        have hh := halfT_set k vs i hlt
        rw [← HM.out] at hh
        rw [hh] at h
        exact h
      go_wp2
      go_roundw
      case rel => exact ⟨i + 1, m1, by go_num, by first | rfl | go_num, by have := HM.out; omega, by omega, HN.out, HO2.out⟩
      case measure => simp [intOf]; omega
    · obtain rfl : i = vs.length := by omega
      have HF : Hid (CellsW wr g (marksT k vs.length)) := by
        have := H.out.1
        rw [halfT_all] at this
        exact this
      have HO := Lib.hid H.out.2
      clear H
      go_wp2
      go_ret
      exact ⟨ret1I (by have := HM.out; omega), HF.out, HO.out⟩

theorem mark_none (cap : Nat) (a : Option Addr) (k : Int) (w : World) : Calls Try.prog 49 #[.slice a 0 cap, .int .i64 k] w fun e w' => e = .returned (.int .i64 k) ∧ w' = w := by
  go_enter Try.func49, Try.ntmps49
  go_wp2
  go_loop [1, 5] (fun v i => v = .int .i64 k ∧ i = .int .i64 0) (fun _ _ => 0)
  case atStart => exact ⟨rfl, rfl⟩
  case round =>
    obtain ⟨rfl, rfl⟩ := hrel
    go_wp2
    go_ret
    exact ⟨rfl, rfl⟩

/-! ### laws.toStringS. -/
def fillS (n : Nat) (dn : List ByteArray) : List Value := dn.map Value.string ++ List.replicate (n - dn.length) (.string ⟨#[]⟩)
theorem fillS_len (n : Nat) (dn : List ByteArray) (h : dn.length ≤ n) : (fillS n dn).length = n := by unfold fillS; simp; omega
theorem fillS_set (n : Nat) (dn : List ByteArray) (h : dn.length < n) (q : ByteArray) : (fillS n dn).set dn.length (.string q) = fillS n (dn ++ [q]) := by
  unfold fillS
  have e : n - dn.length = (n - (dn.length + 1)) + 1 := by omega
  rw [List.set_append, if_neg (by simp), List.length_map, Nat.sub_self, e, List.replicate_succ, List.set_cons_zero, List.map_append, List.append_assoc, List.length_append]
  rfl
theorem fillS_all (n : Nat) (dn : List ByteArray) (h : dn.length = n) : fillS n dn = dn.map Value.string := by unfold fillS; simp [h]
theorem info_st : (Try.prog.info? 9).map (fun i => (i.zero, i.size, i.bytes)) = some (some (.string ⟨#[]⟩), 1, 16) := by kernel_rfl
theorem make_st (n : Nat) (hn : n ≤ 1048576) : ∀ w : World, (Instr.makeSlice 67 (.int .i64 (n : Int)) (.int .i64 (n : Int))).run Try.prog w = .ok (.slice (some ⟨w.heap.size, 0, none⟩) n n) (w.alloc (.cells (madeCells #[Value.string ⟨#[]⟩] n) 9)) := by
  obtain ⟨i, hi, hzz⟩ := Option.map_eq_some_iff.1 info_st
  simp only [Prod.mk.injEq] at hzz
  obtain ⟨hz, hs, hby⟩ := hzz
  have := fun w : World => run_make (P := Try.prog) w 67 9 i (.string ⟨#[]⟩) Try.underlying67 hi hz .i64 .i64 (n : Int) (n : Int) (by omega) (by omega) (by rw [hby]; omega) (by omega)
  intro w
  rw [this w, hs]
  simp [Value.cells]
theorem made_st (n : Nat) (hn : n ≤ 1048576) (w : World) : (w.alloc (.cells (madeCells #[Value.string ⟨#[]⟩] n) 9)).ownsRow w.heap.size 9 1 (.slice (some ⟨w.heap.size, 0, none⟩) n n) n (fillS n []) := by
  have := World.ownsRow_lit (e := 9) (size := 1) (base := w.heap.size) w (madeCells #[Value.string ⟨#[]⟩] n) n (Nat.le_refl _) (by unfold maxLen; omega) (by simp [madeCells])
  rw [toList_madeCells_one] at this
  exact this
/-- A list of strings of one's own. -/
def MineT (w : World) (B g : Nat) (qs : List ByteArray) : Prop := B ≤ g ∧ CellsW w g (qs.map Value.string)
theorem MineT.txts {w : World} {B g : Nat} {qs : List ByteArray} (h : MineT w B g qs) : Txts w (some ⟨g, 0, none⟩) qs :=
  .inr ⟨g, 0, rfl, h.2.1, fun i hi => by rw [Nat.zero_add]; have := (h.2.2 i (by simpa using hi)).1; simpa using this⟩
theorem MineT.kept {w w' : World} {B g : Nat} {qs : List ByteArray} (h : MineT w B g qs) (hb : Below w.heap.size w w') : MineT w' B g qs := ⟨h.1, h.2.kept hb⟩
theorem mine_of {w : World} {B g n : Nat} {qs : List ByteArray} (hl : qs.length = n) (h : w.ownsRow B 9 1 (.slice (some ⟨g, 0, none⟩) n n) n (qs.map Value.string)) : MineT w B g qs := by
  obtain ⟨h1, h2⟩ := h.lt g rfl
  refine ⟨h1, h2, fun j hj => ⟨?_, h.frozenAt j⟩⟩
  rw [h.cellAt j (by simp at hj; omega), List.getElem?_eq_getElem hj]
set_option maxHeartbeats 1000000 in
theorem to_strs (qs : List ByteArray) (a : Option Addr) (cap : Nat) (w : World) (h : Txts w a qs) (hm : qs.length ≤ 1048576) :
    Calls Try.prog 46 #[.slice a qs.length cap] w fun e w' => ∃ g, e = .returned (.slice (some ⟨g, 0, none⟩) qs.length qs.length) ∧ MineT w' w.heap.size g qs ∧ Below w.heap.size w w' := by
  obtain ⟨b, off, ha, hb, hcell⟩ := h.cells
  have hmk := make_st qs.length hm
  have Hm := Lib.hid (made_st qs.length hm w)
  have hbel : Below w.heap.size w (w.alloc (.cells (madeCells #[Value.string ⟨#[]⟩] qs.length) 9)) := (Below.refl _ _).alloc (Nat.le_refl _) _
  have HBL := Lib.hid hbel
  have Hc := Lib.hid hcell
  have Ha := Lib.hid ha
  have Hb := Lib.hid hb
  clear hcell ha hb h hbel
  generalize hM : madeCells #[Value.string ⟨#[]⟩] qs.length = M at hmk HBL Hm
  go_enter Try.func46, Try.ntmps46
  go_wp2
  go_loopw [4] (fun i wr => ∃ (k : Nat) (dn : List ByteArray), k ≤ qs.length ∧ i = .int .i64 k ∧ Hid (dn.length = k) ∧ Hid (dn = qs.take k) ∧ Hid (wr.ownsRow w.heap.size 9 1 (.slice (some ⟨w.heap.size, 0, none⟩) qs.length qs.length) qs.length (fillS qs.length dn)) ∧ Hid (Below w.heap.size w wr)) (fun i _ => qs.length - (intOf i).toNat)
  case atStart => exact ⟨0, [], Nat.zero_le _, rfl, rfl, rfl, Hm.out, HBL.out⟩
  case round =>
    clear hmk
    obtain ⟨k, dn, hk, rfl, HL, HD, HO, HB⟩ := hrel
    by_cases hlt : k < qs.length
    · obtain rfl := Ha.out (by omega)
      have q0 := (HB.out.cell (p := ⟨b, off + k, none⟩) (Hb.out (by omega))).trans (Hc.out k hlt)
      obtain ⟨q, hq⟩ : ∃ q, qs[k] = q := ⟨_, rfl⟩
      rw [hq] at q0
      have HT : Hid (dn ++ [q] = qs.take (k + 1)) := by show _ = _; rw [List.take_succ_eq_append_getElem hlt, hq, HD.out]
      have hfl := fillS_len qs.length dn (by have := HL.out; omega)
      have p0 : wr.cell? ⟨w.heap.size, k, none⟩ = some ((fillS qs.length dn)[k]'(by omega)) := by rw [HO.out.cellAt k (by omega), List.getElem?_eq_getElem]
      have f0 := HO.out.frozenAt k
      have HO2 := Lib.hid (HO.out.stored k (.string q)).1
      have HO3 : Hid ((wr.setCell ⟨w.heap.size, k, none⟩ (.string q)).ownsRow w.heap.size 9 1 (.slice (some ⟨w.heap.size, 0, none⟩) qs.length qs.length) qs.length (fillS qs.length (dn ++ [q]))) := by
        have hs := fillS_set qs.length dn (by have := HL.out; omega) q
        rw [HL.out] at hs
        have := HO2.out
        rw [hs] at this
        exact this
      have HB3 := Lib.hid (HB.out.setCell (p := ⟨w.heap.size, k, none⟩) (Nat.le_refl _) (.string q))
      have HL3 : Hid ((dn ++ [q]).length = k + 1) := by show _ = _; rw [List.length_append, HL.out]; rfl
      clear HO HO2 hq
      go_wp2
      go_roundw
      case rel => exact ⟨k + 1, _, by omega, by go_num, HL3.out, HT.out, HO3.out, HB3.out⟩
      case measure => simp [intOf]; omega
    · obtain rfl : k = qs.length := by omega
      have HF : Hid (MineT wr w.heap.size w.heap.size qs) := by
        have hd : dn = qs := by rw [HD.out, List.take_of_length_le (Nat.le_refl _)]
        have := HO.out
        rw [fillS_all _ _ HL.out, hd] at this
        exact mine_of rfl this
      clear HO
      go_wp2
      go_ret
      exact ⟨w.heap.size, rfl, HF.out, HB.out⟩

/-! ### The argument, and its size. -/

def IsTxts (w : World) (a : Option Addr) (len cap : Nat) (qs : List ByteArray) : Prop := qs.length = len ∧ len ≤ cap ∧ cap ≤ maxLen ∧ (∀ q ∈ qs, q.size ≤ maxLen) ∧ Txts w a qs
def sumS (qs : List ByteArray) : Int := (qs.map fun q => (q.size : Int)).sum
set_option maxRecDepth 20000 in
theorem sz_strs (qs : List ByteArray) (hwf : ∀ q ∈ qs, q.size ≤ maxLen) (a : Option Addr) (cap : Nat) (r : Int) (h0 : 0 ≤ r) (h1 : r ≤ 1048576) (hm : qs.length ≤ 9223372036854775807) (w : World) (h : Txts w a qs) :
    Calls Try.prog 44 #[.slice a qs.length cap, .int .i64 r] w fun e w' => ∃ r' : Int, e = .returned (.int .i64 r') ∧ Below w.heap.size w w' ∧ (r' < 0 ∨ 0 ≤ r' ∧ qs.length ≤ 1048576) := by
  obtain ⟨b, off, ha, hb, hcell⟩ := h.cells
  by_cases hbig : r < qs.length
  · go_enter Try.func44, Try.ntmps44
    go_wp2
    go_ret
    exact ⟨_, rfl, Below.refl _ _, .inl (by omega)⟩
  · have Hc := Lib.hid hcell
    have Ha := Lib.hid ha
    have Hw := Lib.hid hwf
    have Hb := Lib.hid hb
    clear hcell ha hwf hb h
    go_enter Try.func44, Try.ntmps44
    go_wp2
    go_loopw [1, 5] (fun l i wr => ∃ (k : Nat) (r : Int), k ≤ qs.length ∧ i = .int .i64 k ∧ l = .int .i64 r ∧ 0 ≤ r ∧ r ≤ 1048576 ∧ Below w.heap.size w wr) (fun _ i _ => qs.length - (intOf i).toNat)
    case atStart => exact ⟨0, r - qs.length, Nat.zero_le _, rfl, rfl, by omega, by omega, Below.refl _ _⟩
    case round =>
      obtain ⟨k, r, hk, rfl, rfl, hr0, hr1, hbw⟩ := hrel
      by_cases hlt : k < qs.length
      · obtain rfl := Ha.out (by omega)
        have q0 := (hbw.cell (p := ⟨b, off + k, none⟩) (Hb.out (by omega))).trans (Hc.out k hlt)
        obtain ⟨q, hq⟩ : ∃ q, qs[k] = q := ⟨_, rfl⟩
        have hsz := Hw.out qs[k] (List.getElem_mem hlt)
        rw [hq] at q0 hsz
        unfold maxLen at hsz
        clear hq
        by_cases hneg : r < q.size
        · go_wp2
          go_ret
          exact ⟨_, rfl, hbw, .inl (by omega)⟩
        · go_wp2
          go_roundw
          case rel => exact ⟨k + 1, r - q.size, by omega, by go_num, by first | rfl | go_num, by omega, by omega, hbw⟩
          case measure => simp [intOf]; omega
      · go_wp2
        go_ret
        exact ⟨r, rfl, hbw, .inr ⟨hr0, by omega⟩⟩
end Go.Proofs.Ytgbkmnhdgaeejaa.Strs
