/- EventText: the model's and the program's. -/
import Derived.Test.YtgmdfkmmbcpikaaGreatDoorPd
import Derived.Test.YtgmdfkmmbcpikaaGreatDoorGl
import Derived.Test.YtgmdfkmmbcpikaaGreatDoorTnA
import Derived.Test.YtgmdfkmmbcpikaaGreatDoorC2
import Derived.Test.YtgmdfkmmbcpikaaGreatDoorHokA
import Derived.Test.YtgmdfkmmbcpikaaGreatDoorCnt
namespace Go.Proofs.YtgmdfkmmbcpikaaGreatDoor.Ev
open Go.RowKit
open Go.Proofs.YtgmdfkmmbcpikaaGreatDoor.C1
open Go.Proofs.YtgmdfkmmbcpikaaGreatDoor.C2
open Go.Proofs.YtgmdfkmmbcpikaaGreatDoor.Milli
open Go.Proofs.YtgmdfkmmbcpikaaGreatDoor.Mt
open Go.Proofs.YtgmdfkmmbcpikaaGreatDoor.Line
set_option linter.unusedVariables false

structure Ev where
  kd : Int
  tk : Int
  a : Int
  b : Int
def evV (e : Ev) : Value := .agg #[.int .i64 e.kd, .int .i64 e.tk, .int .i64 e.a, .int .i64 e.b]
structure Ev.wf (e : Ev) : Prop where
  kd : -9223372036854775808 ≤ e.kd ∧ e.kd ≤ 9223372036854775807
  tk : -9223372036854775808 ≤ e.tk ∧ e.tk ≤ 9223372036854775807
  a : -9223372036854775808 ≤ e.a ∧ e.a ≤ 9223372036854775807
  b : -9223372036854775808 ≤ e.b ∧ e.b ≤ 9223372036854775807
theorem itoa_short (v : Int) (h1 : -9223372036854775808 ≤ v) (h2 : v ≤ 9223372036854775807) : (Lib.itoa v).length ≤ 20 := by
  by_cases hv : v = 0
  · subst hv; simp [itoa_zero]
  · rw [itoa_of v hv]
    have := dd_le v h1 h2
    split <;> simp <;> omega
theorem cat {x y : ByteArray} {m n : Nat} (hx : x.size ≤ m) (hy : y.size ≤ n) : (x ++ y).size ≤ m + n := by rw [ByteArray.size_append]; omega
/-- What stands behind the tick. -/
def wordL (e : Ev) : List UInt8 := if e.kd = 0 then [115, 99, 114, 97, 112, 101, 100, 32] ++ (Lib.itoa e.a ++ ([32, 98, 97, 100, 32] ++ Lib.itoa e.b)) else if e.kd = 1 then [109, 111, 118, 101, 100, 32] ++ (Lib.itoa e.a ++ ([32, 116, 111, 32] ++ Lib.itoa e.b)) else if e.kd = 2 then [102, 97, 105, 108, 101, 100, 32] ++ (Lib.itoa e.a ++ ([32, 116, 111, 32] ++ Lib.itoa e.b)) else if e.kd = 3 then [114, 101, 115, 116, 97, 114, 116] else if e.kd = 4 then [104, 97, 110, 100, 115, 32] ++ (Lib.itoa e.a ++ ([32, 116, 111, 32] ++ Lib.itoa e.b)) else []
def evT (e : Ev) : List UInt8 := if wordL e = [] then [] else Lib.itoa e.tk ++ ([58, 32] ++ wordL e)
theorem kinds (k : Int) : k = 0 ∨ k = 1 ∨ k = 2 ∨ k = 3 ∨ k = 4 ∨ ((k == 0) = false ∧ (k == 1) = false ∧ (k == 2) = false ∧ (k == 3) = false ∧ (k == 4) = false) := by
  by_cases h0 : k = 0
  · exact .inl h0
  · by_cases h1 : k = 1
    · exact .inr (.inl h1)
    · by_cases h2 : k = 2
      · exact .inr (.inr (.inl h2))
      · by_cases h3 : k = 3
        · exact .inr (.inr (.inr (.inl h3)))
        · by_cases h4 : k = 4
          · exact .inr (.inr (.inr (.inr (.inl h4))))
          · exact .inr (.inr (.inr (.inr (.inr ⟨by simpa using h0, by simpa using h1, by simpa using h2, by simpa using h3, by simpa using h4⟩))))
theorem none_of {e : Ev} (h : (e.kd == 0) = false ∧ (e.kd == 1) = false ∧ (e.kd == 2) = false ∧ (e.kd == 3) = false ∧ (e.kd == 4) = false) : wordL e = [] := by
  obtain ⟨h0, h1, h2, h3, h4⟩ := h
  simp at h0 h1 h2 h3 h4
  simp [wordL, h0, h1, h2, h3, h4]
end Go.Proofs.YtgmdfkmmbcpikaaGreatDoor.Ev

/- CondName: the model's and the program's. -/
namespace Go.Proofs.YtgmdfkmmbcpikaaGreatDoor.Cnd
open Go.RowKit
open Go.Proofs.YtgmdfkmmbcpikaaGreatDoor.C1
open Go.Proofs.YtgmdfkmmbcpikaaGreatDoor.C2
open Go.Proofs.YtgmdfkmmbcpikaaGreatDoor.Milli
open Go.Proofs.YtgmdfkmmbcpikaaGreatDoor.Mt
set_option linter.unusedVariables false

/-- The names of the conditions. -/
def condL (k : Nat) : List UInt8 := if k = 0 then [110, 111, 110, 101] else if k = 1 then [111, 102, 102] else if k = 2 then [98, 108, 105, 110, 100] else if k = 3 then [115, 116, 101, 97, 100, 121] else if k = 4 then [109, 111, 118, 101, 100] else [102, 97, 117, 108, 116]
def condT (c : Int) : List UInt8 := if 0 ≤ c ∧ c ≤ 5 then condL c.toNat else []
/-- The program's table stands. -/
structure Conds (w : World) : Prop where
  lt : 0 < w.heap.size
  cell : ∀ k, k < 6 → w.cell? ⟨0, k, none⟩ = some (.string (mk (condL k)))
theorem Conds.kept {w w' : World} (h : Conds w) (hb : Below w.heap.size w w') : Conds w' :=
  ⟨Nat.lt_of_lt_of_le h.lt hb.size, fun k hk => (hb.cell (p := ⟨_, k, none⟩) h.lt).trans (h.cell k hk)⟩
theorem cond_some (k : Nat) (h : k < 6) : mk (condL k) = mk (condT (k : Int)) := by unfold condT; rw [if_pos (by omega)]; simp
theorem cond_none {c : Int} (h : ¬ (0 ≤ c ∧ c ≤ 5)) : mk [] = mk (condT c) := by unfold condT; rw [if_neg h]
theorem spec_cond (c : Int) (w : World) :
    Calls Tryz.prog 37 #[.int .i64 c] w fun e w' => e = .returned (.string (mk (condT c))) ∧ Below w.heap.size w w' := by
  have hb := box_below w #[.string { data := #[110, 111, 110, 101] }, .string { data := #[111, 102, 102] }, .string { data := #[98, 108, 105, 110, 100] }, .string { data := #[115, 116, 101, 97, 100, 121] }, .string { data := #[109, 111, 118, 101, 100] }, .string { data := #[102, 97, 117, 108, 116] }] 9
  have hin := fun w => C2.spec_in c 0 5 w
  by_cases h : 0 ≤ c ∧ c ≤ 5
  · obtain ⟨k, rfl⟩ : ∃ k : Nat, c = (k : Int) := ⟨c.toNat, by omega⟩
    have hk : k < 6 := by omega
    have hk2 : (k : Int) < 6 := by omega
    have hkw : IntKind.i64.wrap (k : Int) = k := by rw [IntKind.wrap_i64]; omega
    simp only [decide_eq_true h] at hin
    have HIN := Lib.hid hin
    have HL := Lib.hid (cond_some k hk)
    have hx : (w.alloc (.cells #[.string { data := #[110, 111, 110, 101] }, .string { data := #[111, 102, 102] }, .string { data := #[98, 108, 105, 110, 100] }, .string { data := #[115, 116, 101, 97, 100, 121] }, .string { data := #[109, 111, 118, 101, 100] }, .string { data := #[102, 97, 117, 108, 116] }] 9)).cell? ⟨w.heap.size, k, none⟩ = some (.string (mk (condL k))) := by
      have : k = 0 ∨ k = 1 ∨ k = 2 ∨ k = 3 ∨ k = 4 ∨ k = 5 := by omega
      rcases this with rfl | rfl | rfl | rfl | rfl | rfl <;> simp [condL] <;> rfl
    have HB := Lib.hid hb
    clear hin hb h
    go_enter Tryz.func37, Tryz.ntmps37
    go_wp2_with (go_at_call 96; refine (HIN.out _).mono ?_; rintro e w1 ⟨rfl, rfl⟩)
    go_ret
    exact ⟨ret1S HL.out, HB.out⟩
  · simp only [decide_eq_false h] at hin
    have HIN := Lib.hid hin
    have HL := Lib.hid (cond_none h)
    have HB := Lib.hid hb
    clear hin hb h
    go_enter Tryz.func37, Tryz.ntmps37
    go_wp2_with (go_at_call 96; refine (HIN.out _).mono ?_; rintro e w1 ⟨rfl, rfl⟩)
    go_ret
    exact ⟨ret1S HL.out, HB.out⟩
theorem impl_condok (c : Int) (w : World) : Calls Tryz.prog 107 #[.int .i64 c] w fun e w' => e = .returned (.bool (decide (0 ≤ c ∧ c ≤ 5))) ∧ w = w' := by
  by_cases h1 : 0 ≤ c
  · by_cases h2 : c ≤ 5
    all_goals
      go_enter Tryz.func107, Tryz.ntmps107
      go_wp2
      go_ret
      exact ⟨ret1B (by simp; omega), rfl⟩
  · go_enter Tryz.func107, Tryz.ntmps107
    go_wp2
    go_ret
    exact ⟨ret1B (by simp; omega), rfl⟩
theorem impl_cond (c : Int) (w : World) (hc : Conds w) :
    Calls Tryz.prog 45 #[.int .i64 c] w fun e w' => e = .returned (.string (mk (condT c))) ∧ Below w.heap.size w w' := by
  have hin := fun w => impl_condok c w
  by_cases h : 0 ≤ c ∧ c ≤ 5
  · obtain ⟨k, rfl⟩ : ∃ k : Nat, c = (k : Int) := ⟨c.toNat, by omega⟩
    have hk : k < 6 := by omega
    have hk2 : (k : Int) < 6 := by omega
    have hkw : IntKind.i64.wrap (k : Int) = k := by rw [IntKind.wrap_i64]; omega
    simp only [decide_eq_true h] at hin
    have HIN := Lib.hid hin
    have HL := Lib.hid (cond_some k hk)
    have hx := hc.cell k hk
    clear hin hc h
    go_enter Tryz.func45, Tryz.ntmps45
    go_wp2_with (go_at_call 107; refine (HIN.out _).mono ?_; rintro e w1 ⟨rfl, rfl⟩)
    go_ret
    exact ⟨ret1S HL.out, Below.refl _ _⟩
  · simp only [decide_eq_false h] at hin
    have HIN := Lib.hid hin
    have HL := Lib.hid (cond_none h)
    clear hin h
    go_enter Tryz.func45, Tryz.ntmps45
    go_wp2_with (go_at_call 107; refine (HIN.out _).mono ?_; rintro e w1 ⟨rfl, rfl⟩)
    go_ret
    exact ⟨ret1S HL.out, Below.refl _ _⟩
end Go.Proofs.YtgmdfkmmbcpikaaGreatDoor.Cnd

/- HerdText: the model's and the program's. -/
namespace Go.Proofs.YtgmdfkmmbcpikaaGreatDoor.Htx
open Go.RowKit Go.Deep
open Go.Proofs.YtgmdfkmmbcpikaaGreatDoor.C1
open Go.Proofs.YtgmdfkmmbcpikaaGreatDoor.C2
open Go.Proofs.YtgmdfkmmbcpikaaGreatDoor.Smps
open Go.Proofs.YtgmdfkmmbcpikaaGreatDoor.Mem
open Go.Proofs.YtgmdfkmmbcpikaaGreatDoor.Ser
open Go.Proofs.YtgmdfkmmbcpikaaGreatDoor.Ser2 (cells_new)
open Go.Proofs.YtgmdfkmmbcpikaaGreatDoor.Pd
open Go.Proofs.YtgmdfkmmbcpikaaGreatDoor.Pds
open Go.Proofs.YtgmdfkmmbcpikaaGreatDoor.Milli
open Go.Proofs.YtgmdfkmmbcpikaaGreatDoor.Mt
open Go.Proofs.YtgmdfkmmbcpikaaGreatDoor.Line (add_at itoa_int)
open Go.Proofs.YtgmdfkmmbcpikaaGreatDoor.Set
open Go.Proofs.YtgmdfkmmbcpikaaGreatDoor.Hd
open Go.Proofs.YtgmdfkmmbcpikaaGreatDoor.Hok
open Go.Proofs.YtgmdfkmmbcpikaaGreatDoor.Ev (itoa_short cat)
open Go.Proofs.YtgmdfkmmbcpikaaGreatDoor.Cnd
set_option linter.unusedVariables false

noncomputable def textL (h : Hd) : List UInt8 := Lib.itoa h.now ++ ([32, 99, 111, 117, 110, 116, 32] ++ (Lib.itoa h.cnt ++ ([32, 114, 101, 118, 32] ++ (Lib.itoa h.rev ++ ([32, 112, 111, 100, 115, 32] ++ (Lib.itoa h.ps.length ++ ([32, 112, 111, 105, 110, 116, 115, 32] ++ (Lib.itoa (Cnt.countV h.ss) ++ ([32] ++ condT h.cnd)))))))))
noncomputable def textV (h : Hd) : List UInt8 := if herdV h = true then textL h else []
theorem text_no {h : Hd} (c : herdV h = false) : mk [] = mk (textV h) := by unfold textV; rw [if_neg (by rw [c]; exact Bool.false_ne_true)]
theorem text_yes {h : Hd} (c : herdV h = true) : mk (textL h) = mk (textV h) := by unfold textV; rw [if_pos c]
theorem cnt_bd {h : Hd} (hs : h.small) : -9223372036854775808 ≤ Cnt.countV h.ss ∧ Cnt.countV h.ss ≤ 9223372036854775807 := by
  have e : ∀ l : List Ser, (l.map fun s => s.pts.length).sum ≤ (l.map fun s => 2 + 2 * s.pts.length).sum := fun l => by
    induction l with
    | nil => simp
    | cons a r ih => simp only [List.map_cons, List.sum_cons]; omega
  have h1 := e h.ss
  have h2 := hs.rm
  unfold remS at h2
  unfold Cnt.countV
  split <;> omega
theorem cond_len (c : Int) : (mk (condT c)).size ≤ 20 := by
  rw [mk_size]
  unfold condT condL
  split
  · split
    · simp
    · split
      · simp
      · split
        · simp
        · split
          · simp
          · split <;> simp
  · simp
theorem spec_countS (ss : List Ser) (ms : List Sv) (hs : ms.map Sv.s = ss) (hwf : ∀ s ∈ ss, s.wf) (a : Option Addr) (cap : Nat) (w : World) (h : Srs w a ms) (hm : ss.length ≤ 1048576) :
    Calls Tryz.prog 36 #[.slice a ss.length cap] w fun e w' => e = .returned (.int .i64 (Cnt.countV ss)) ∧ Below w.heap.size w w' := by
  subst hs
  rw [List.length_map] at *
  exact Cnt.spec_count ms a cap w (fun l hl => hwf _ (List.mem_map_of_mem hl)) h hm
theorem impl_countS (ss : List Ser) (ms : List Sv) (hs : ms.map Sv.s = ss) (hwf : ∀ s ∈ ss, s.wf) (hpl : ∀ s ∈ ss, s.pts.length ≤ 1048576) (a : Option Addr) (cap : Nat) (w : World) (h : Srs w a ms) (hm : ss.length ≤ 1048576) :
    Calls Tryz.prog 44 #[.slice a ss.length cap] w fun e w' => e = .returned (.int .i64 (Cnt.countV ss)) ∧ Below w.heap.size w w' := by
  subst hs
  rw [List.length_map] at *
  exact Cnt.impl_count ms a cap w (fun l hl => hwf _ (List.mem_map_of_mem hl)) (fun l hl => hpl _ (List.mem_map_of_mem hl)) h hm
set_option maxHeartbeats 4000000 in
set_option maxRecDepth 20000 in
theorem spec_htext (h : Hd) (hw : h.wf) (hs : h.small) (A : Ad) (w : World) (k : HdAt w h A) :
    Calls Tryz.prog 8 #[hdV h A] w fun e w' => e = .returned (.string (mk (textV h))) ∧ Below w.heap.size w w' := by
  have mixed : Tryz.prog.follows .mixedOrders = true := by kernel_rfl
  have hok := fun W kk => spec_herdok h hw hs A W kk
  have hW := hw
  have hpl := hs.ps
  have hv4 := cnt_bd hs
  obtain ⟨ms, hms, hsr⟩ := k.s
  have hcn := fun W hp => spec_countS h.ss ms hms hw.ss A.a4 A.c4 W hp hs.ss
  have hcond := fun W => spec_cond h.cnd W
  have HT : Hid (textL h = Lib.itoa h.now ++ ([32, 99, 111, 117, 110, 116, 32] ++ (Lib.itoa h.cnt ++ ([32, 114, 101, 118, 32] ++ (Lib.itoa h.rev ++ ([32, 112, 111, 100, 115, 32] ++ (Lib.itoa (h.ps.length : Int) ++ ([32, 112, 111, 105, 110, 116, 115, 32] ++ (Lib.itoa (Cnt.countV h.ss) ++ ([32] ++ condT h.cnd)))))))))) := Lib.hid rfl
  obtain ⟨v4, hv⟩ : ∃ v, Cnt.countV h.ss = v := ⟨_, rfl⟩
  rw [hv] at hv4 hcn HT
  clear hv
  have sC := cond_len h.cnd
  obtain ⟨CL, hCL⟩ : ∃ l, condT h.cnd = l := ⟨_, rfl⟩
  rw [hCL] at sC hcond HT
  obtain ⟨C, hC⟩ : ∃ z, mk CL = z := ⟨_, rfl⟩
  rw [hC] at sC hcond
  have sI0 : (mk (Lib.itoa h.now)).size ≤ 20 := by rw [mk_size]; exact itoa_short _ hW.now.1 hW.now.2
  have hI0N := fun W => spec_num h.now W hW.now.1 hW.now.2
  obtain ⟨I0, hI0⟩ : ∃ z, mk (Lib.itoa h.now) = z := ⟨_, rfl⟩
  rw [hI0] at sI0 hI0N
  have HI0 := Lib.hid hI0N
  clear hI0N
  have sI1 : (mk (Lib.itoa h.cnt)).size ≤ 20 := by rw [mk_size]; exact itoa_short _ hW.cnt.1 hW.cnt.2
  have hI1N := fun W => spec_num h.cnt W hW.cnt.1 hW.cnt.2
  obtain ⟨I1, hI1⟩ : ∃ z, mk (Lib.itoa h.cnt) = z := ⟨_, rfl⟩
  rw [hI1] at sI1 hI1N
  have HI1 := Lib.hid hI1N
  clear hI1N
  have sI2 : (mk (Lib.itoa h.rev)).size ≤ 20 := by rw [mk_size]; exact itoa_short _ hW.rev.1 hW.rev.2
  have hI2N := fun W => spec_num h.rev W hW.rev.1 hW.rev.2
  obtain ⟨I2, hI2⟩ : ∃ z, mk (Lib.itoa h.rev) = z := ⟨_, rfl⟩
  rw [hI2] at sI2 hI2N
  have HI2 := Lib.hid hI2N
  clear hI2N
  have sI3 : (mk (Lib.itoa (h.ps.length : Int))).size ≤ 20 := by rw [mk_size]; exact itoa_short _ (by omega) (by omega)
  have hI3N := fun W => spec_num (h.ps.length : Int) W (by omega) (by omega)
  obtain ⟨I3, hI3⟩ : ∃ z, mk (Lib.itoa (h.ps.length : Int)) = z := ⟨_, rfl⟩
  rw [hI3] at sI3 hI3N
  have HI3 := Lib.hid hI3N
  clear hI3N
  have sI4 : (mk (Lib.itoa v4)).size ≤ 20 := by rw [mk_size]; exact itoa_short _ hv4.1 hv4.2
  have hI4N := fun W => spec_num v4 W hv4.1 hv4.2
  obtain ⟨I4, hI4⟩ : ∃ z, mk (Lib.itoa v4) = z := ⟨_, rfl⟩
  rw [hI4] at sI4 hI4N
  have HI4 := Lib.hid hI4N
  clear hI4N
  obtain ⟨B1, hB1⟩ : ∃ z, I0 ++ ({ data := #[32, 99, 111, 117, 110, 116, 32] } : ByteArray) = z := ⟨_, rfl⟩
  have sB1 := cat sI0 (Nat.le_of_eq (show ({ data := #[32, 99, 111, 117, 110, 116, 32] } : ByteArray).size = 7 from rfl))
  rw [hB1] at sB1
  have aB1 := add_at Tryz.prog I0 ({ data := #[32, 99, 111, 117, 110, 116, 32] } : ByteArray) (Nat.le_trans (Nat.le_of_eq (ByteArray.size_append).symm) (by rw [hB1]; omega))
  rw [hB1] at aB1
  obtain ⟨B2, hB2⟩ : ∃ z, B1 ++ I1 = z := ⟨_, rfl⟩
  have sB2 := cat sB1 sI1
  rw [hB2] at sB2
  have aB2 := add_at Tryz.prog B1 I1 (Nat.le_trans (Nat.le_of_eq (ByteArray.size_append).symm) (by rw [hB2]; omega))
  rw [hB2] at aB2
  obtain ⟨B3, hB3⟩ : ∃ z, B2 ++ ({ data := #[32, 114, 101, 118, 32] } : ByteArray) = z := ⟨_, rfl⟩
  have sB3 := cat sB2 (Nat.le_of_eq (show ({ data := #[32, 114, 101, 118, 32] } : ByteArray).size = 5 from rfl))
  rw [hB3] at sB3
  have aB3 := add_at Tryz.prog B2 ({ data := #[32, 114, 101, 118, 32] } : ByteArray) (Nat.le_trans (Nat.le_of_eq (ByteArray.size_append).symm) (by rw [hB3]; omega))
  rw [hB3] at aB3
  obtain ⟨B4, hB4⟩ : ∃ z, B3 ++ I2 = z := ⟨_, rfl⟩
  have sB4 := cat sB3 sI2
  rw [hB4] at sB4
  have aB4 := add_at Tryz.prog B3 I2 (Nat.le_trans (Nat.le_of_eq (ByteArray.size_append).symm) (by rw [hB4]; omega))
  rw [hB4] at aB4
  obtain ⟨B5, hB5⟩ : ∃ z, B4 ++ ({ data := #[32, 112, 111, 100, 115, 32] } : ByteArray) = z := ⟨_, rfl⟩
  have sB5 := cat sB4 (Nat.le_of_eq (show ({ data := #[32, 112, 111, 100, 115, 32] } : ByteArray).size = 6 from rfl))
  rw [hB5] at sB5
  have aB5 := add_at Tryz.prog B4 ({ data := #[32, 112, 111, 100, 115, 32] } : ByteArray) (Nat.le_trans (Nat.le_of_eq (ByteArray.size_append).symm) (by rw [hB5]; omega))
  rw [hB5] at aB5
  obtain ⟨B6, hB6⟩ : ∃ z, B5 ++ I3 = z := ⟨_, rfl⟩
  have sB6 := cat sB5 sI3
  rw [hB6] at sB6
  have aB6 := add_at Tryz.prog B5 I3 (Nat.le_trans (Nat.le_of_eq (ByteArray.size_append).symm) (by rw [hB6]; omega))
  rw [hB6] at aB6
  obtain ⟨B7, hB7⟩ : ∃ z, B6 ++ ({ data := #[32, 112, 111, 105, 110, 116, 115, 32] } : ByteArray) = z := ⟨_, rfl⟩
  have sB7 := cat sB6 (Nat.le_of_eq (show ({ data := #[32, 112, 111, 105, 110, 116, 115, 32] } : ByteArray).size = 8 from rfl))
  rw [hB7] at sB7
  have aB7 := add_at Tryz.prog B6 ({ data := #[32, 112, 111, 105, 110, 116, 115, 32] } : ByteArray) (Nat.le_trans (Nat.le_of_eq (ByteArray.size_append).symm) (by rw [hB7]; omega))
  rw [hB7] at aB7
  obtain ⟨B8, hB8⟩ : ∃ z, B7 ++ I4 = z := ⟨_, rfl⟩
  have sB8 := cat sB7 sI4
  rw [hB8] at sB8
  have aB8 := add_at Tryz.prog B7 I4 (Nat.le_trans (Nat.le_of_eq (ByteArray.size_append).symm) (by rw [hB8]; omega))
  rw [hB8] at aB8
  obtain ⟨B9, hB9⟩ : ∃ z, B8 ++ ({ data := #[32] } : ByteArray) = z := ⟨_, rfl⟩
  have sB9 := cat sB8 (Nat.le_of_eq (show ({ data := #[32] } : ByteArray).size = 1 from rfl))
  rw [hB9] at sB9
  have aB9 := add_at Tryz.prog B8 ({ data := #[32] } : ByteArray) (Nat.le_trans (Nat.le_of_eq (ByteArray.size_append).symm) (by rw [hB9]; omega))
  rw [hB9] at aB9
  obtain ⟨BX, hBX⟩ : ∃ z, B9 ++ C = z := ⟨_, rfl⟩
  have sBX := cat sB9 sC
  rw [hBX] at sBX
  have aBX := add_at Tryz.prog B9 C (Nat.le_trans (Nat.le_of_eq (ByteArray.size_append).symm) (by rw [hBX]; omega))
  rw [hBX] at aBX
  have HL : Hid (BX = mk (textL h)) := by
    show _ = _
    rw [HT.out]
    rw [← hBX]
    rw [← hB9]
    rw [← hB8]
    rw [← hB7]
    rw [← hB6]
    rw [← hB5]
    rw [← hB4]
    rw [← hB3]
    rw [← hB2]
    rw [← hB1]
    rw [← hI0]
    rw [← hI1]
    rw [← hI2]
    rw [← hI3]
    rw [← hI4]
    rw [← hC]
    apply ByteArray.ext
    apply Array.ext'
    simp [mk]
  clear hI0 hI1 hI2 hI3 hI4 hC hCL sI0 sI1 sI2 sI3 sI4 sC hB1 sB1 hB2 sB2 hB3 sB3 hB4 sB4 hB5 sB5 hB6 sB6 hB7 sB7 hB8 sB8 hB9 sB9 hBX sBX
  have HN := Lib.hid (text_no (h := h))
  have HY := Lib.hid (text_yes (h := h))
  have HMS := Lib.hid hsr
  have HAT := Lib.hid k
  have HCN := Lib.hid hcn
  have HCO := Lib.hid hcond
  have hb := box_below w #[.int .i64 h.st.rl.dl, .int .i64 h.st.rl.fr, .int .i64 h.st.rl.wi, .slice A.a0 h.st.gs.length A.c0, .slice A.a1 h.st.bh.up.ps.length A.c1, .int .i64 h.st.bh.up.sel, .int .i64 h.st.bh.up.win, .slice A.a2 h.st.bh.dn.ps.length A.c2, .int .i64 h.st.bh.dn.sel, .int .i64 h.st.bh.dn.win, .int .i64 h.st.bh.mn, .int .i64 h.st.bh.mx, .int .i64 h.now, .int .i64 h.cnt, .int .i64 h.rev, .slice A.a3 h.ps.length A.c3, .slice A.a4 h.ss.length A.c4, .slice A.a5 h.ns.length A.c5, .slice A.a6 h.ms.length A.c6, .int .i64 h.cnd, .int .i64 h.flt] 54
  have hk := cells_new w #[.int .i64 h.st.rl.dl, .int .i64 h.st.rl.fr, .int .i64 h.st.rl.wi, .slice A.a0 h.st.gs.length A.c0, .slice A.a1 h.st.bh.up.ps.length A.c1, .int .i64 h.st.bh.up.sel, .int .i64 h.st.bh.up.win, .slice A.a2 h.st.bh.dn.ps.length A.c2, .int .i64 h.st.bh.dn.sel, .int .i64 h.st.bh.dn.win, .int .i64 h.st.bh.mn, .int .i64 h.st.bh.mx, .int .i64 h.now, .int .i64 h.cnt, .int .i64 h.rev, .slice A.a3 h.ps.length A.c3, .slice A.a4 h.ss.length A.c4, .slice A.a5 h.ns.length A.c5, .slice A.a6 h.ms.length A.c6, .int .i64 h.cnd, .int .i64 h.flt] 54
  have HB := Lib.hid hb
  have K0 : Hid (CW21 _ w.heap.size _ _ _ _ _ _ _ _ _ _ _ _ _ _ _ _ _ _ _ _ _) := hk
  clear hb hk HT hv4 hW hw hs hms hsr k hcn hcond
  unfold hdV at hok ⊢
  have HOK := Lib.hid hok
  clear hok
  have info_hd2 := info_hd
  go_enter Tryz.func8, Tryz.ntmps8
  go_wp2_with (first | (refine wpList_load_mid rfl 54 _ rfl w.heap.size 0 rfl [.int .i64 h.st.rl.dl, .int .i64 h.st.rl.fr, .int .i64 h.st.rl.wi, .slice A.a0 h.st.gs.length A.c0, .slice A.a1 h.st.bh.up.ps.length A.c1, .int .i64 h.st.bh.up.sel, .int .i64 h.st.bh.up.win, .slice A.a2 h.st.bh.dn.ps.length A.c2, .int .i64 h.st.bh.dn.sel, .int .i64 h.st.bh.dn.win, .int .i64 h.st.bh.mn, .int .i64 h.st.bh.mx, .int .i64 h.now, .int .i64 h.cnt, .int .i64 h.rev, .slice A.a3 h.ps.length A.c3, .slice A.a4 h.ss.length A.c4, .slice A.a5 h.ns.length A.c5, .slice A.a6 h.ms.length A.c6, .int .i64 h.cnd, .int .i64 h.flt] _ (range_all K0.out) Tryz.underlying54 rfl info_hd ?_))
  refine (HOK.out _ (HAT.out.kept HB.out)).mono ?_
  rintro e u1 ⟨rfl, hb⟩
  have HBn := Lib.hid (HB.out.trans (hb.mono HB.out.size))
  have K1 : Hid (CW21 u1 w.heap.size _ _ _ _ _ _ _ _ _ _ _ _ _ _ _ _ _ _ _ _ _) := CW21.kept K0.out hb
  clear HB K0 hb HOK
  have HB := HBn
  clear HBn
  cases hv : herdV h
  · have HX := Lib.hid (HN.out hv)
    clear hv
    go_wp2
    go_ret
    exact ⟨ret1S HX.out, HB.out⟩
  · skip
    have HX := Lib.hid (HL.out.trans (HY.out hv))
    clear hv HL HY HN
    obtain ⟨⟨p0, p1, p2, p3, p4, p5, p6, p7, p8, p9, p10, p11, p12, p13, p14, p15, p16, p17, p18, p19, p20⟩, -⟩ := K1.out.get
    go_wp2_with fail
    clear p0 p1 p2 p3 p4 p5 p6 p7 p8 p9 p10 p11 p12 p13 p14 p15 p16 p17 p18 p19 p20
    have kk := K1.out
    unfold CW21 at kk
    have l12 := later_cell kk.1 (kk.2 12 (by simp)).1
    simp only [List.getElem_cons_zero, List.getElem_cons_succ] at l12
    have l13 := later_cell kk.1 (kk.2 13 (by simp)).1
    simp only [List.getElem_cons_zero, List.getElem_cons_succ] at l13
    have l14 := later_cell kk.1 (kk.2 14 (by simp)).1
    simp only [List.getElem_cons_zero, List.getElem_cons_succ] at l14
    have l15 := later_cell kk.1 (kk.2 15 (by simp)).1
    simp only [List.getElem_cons_zero, List.getElem_cons_succ] at l15
    have l16 := later_cell kk.1 (kk.2 16 (by simp)).1
    simp only [List.getElem_cons_zero, List.getElem_cons_succ] at l16
    have l19 := later_cell kk.1 (kk.2 19 (by simp)).1
    simp only [List.getElem_cons_zero, List.getElem_cons_succ] at l19
    clear kk
    refine region_later mixed (by kernel_rfl) ?_
    repeat (quiet_step (first | (go_at_call_of 35 (Value.int .i64 h.now); exact later_call (HI0.out _)) | (go_at_call_of 35 (Value.int .i64 h.cnt); exact later_call (HI1.out _)) | (go_at_call_of 35 (Value.int .i64 h.rev); exact later_call (HI2.out _)) | (go_at_call_of 35 (Value.int .i64 (h.ps.length : Int)); exact later_call (HI3.out _)) | (go_at_call_of 35 (Value.int .i64 v4); exact later_call (HI4.out _)) | (go_at_call 36; exact later_call (HCN.out _ (HMS.out.kept (HB.out.trans ((Later.h _).mono HB.out.size))))) | (go_at_call 37; exact later_call (HCO.out _))))
    refine wpQuiet_nil ?_
    intro wa hw'
    obtain ⟨⟨wa, hwl⟩, rfl⟩ := hw'
    have HBn := Lib.hid (HB.out.trans (hwl.mono HB.out.size))
    have K1n : Hid (CW21 wa w.heap.size _ _ _ _ _ _ _ _ _ _ _ _ _ _ _ _ _ _ _ _ _) := CW21.kept K1.out hwl
    clear HB K1 hwl l12 l13 l14 l15 l16 l19
    have HB := HBn
    have K1 := K1n
    clear HBn K1n
    go_wp2
    go_ret
    exact ⟨ret1S HX.out, HB.out⟩
set_option maxHeartbeats 4000000 in
set_option maxRecDepth 20000 in
theorem impl_htext (h : Hd) (hw : h.wf) (hs : h.small) (A : Ad) (w : World) (k : HdAt w h A) (hcap : h.st.gs.length ≤ A.c0) (he : Env w) (hcd : Conds w) :
    Calls Tryz.prog 10 #[hdV h A] w fun e w' => e = .returned (.string (mk (textV h))) ∧ Below w.heap.size w w' := by
  have mixed : Tryz.prog.follows .mixedOrders = true := by kernel_rfl
  have hok := fun W kk => impl_herdok h hw hs A W kk hcap
  have hW := hw
  have hpl := hs.ps
  have hv4 := cnt_bd hs
  obtain ⟨ms, hms, hsr⟩ := k.s
  have hcn := fun W hp => impl_countS h.ss ms hms hw.ss hs.pt A.a4 A.c4 W hp hs.ss
  have hcond := fun W hc => Cnd.impl_cond h.cnd W hc
  have HT : Hid (textL h = Lib.itoa h.now ++ ([32, 99, 111, 117, 110, 116, 32] ++ (Lib.itoa h.cnt ++ ([32, 114, 101, 118, 32] ++ (Lib.itoa h.rev ++ ([32, 112, 111, 100, 115, 32] ++ (Lib.itoa (h.ps.length : Int) ++ ([32, 112, 111, 105, 110, 116, 115, 32] ++ (Lib.itoa (Cnt.countV h.ss) ++ ([32] ++ condT h.cnd)))))))))) := Lib.hid rfl
  obtain ⟨v4, hv⟩ : ∃ v, Cnt.countV h.ss = v := ⟨_, rfl⟩
  rw [hv] at hv4 hcn HT
  clear hv
  have sC := cond_len h.cnd
  obtain ⟨CL, hCL⟩ : ∃ l, condT h.cnd = l := ⟨_, rfl⟩
  rw [hCL] at sC hcond HT
  obtain ⟨C, hC⟩ : ∃ z, mk CL = z := ⟨_, rfl⟩
  rw [hC] at sC hcond
  have sI0 : (mk (Lib.itoa h.now)).size ≤ 20 := by rw [mk_size]; exact itoa_short _ hW.now.1 hW.now.2
  have hI0N := fun W hE => itoa_int h.now hW.now.1 hW.now.2 W hE
  obtain ⟨I0, hI0⟩ : ∃ z, mk (Lib.itoa h.now) = z := ⟨_, rfl⟩
  rw [hI0] at sI0 hI0N
  have HI0 := Lib.hid hI0N
  clear hI0N
  have sI1 : (mk (Lib.itoa h.cnt)).size ≤ 20 := by rw [mk_size]; exact itoa_short _ hW.cnt.1 hW.cnt.2
  have hI1N := fun W hE => itoa_int h.cnt hW.cnt.1 hW.cnt.2 W hE
  obtain ⟨I1, hI1⟩ : ∃ z, mk (Lib.itoa h.cnt) = z := ⟨_, rfl⟩
  rw [hI1] at sI1 hI1N
  have HI1 := Lib.hid hI1N
  clear hI1N
  have sI2 : (mk (Lib.itoa h.rev)).size ≤ 20 := by rw [mk_size]; exact itoa_short _ hW.rev.1 hW.rev.2
  have hI2N := fun W hE => itoa_int h.rev hW.rev.1 hW.rev.2 W hE
  obtain ⟨I2, hI2⟩ : ∃ z, mk (Lib.itoa h.rev) = z := ⟨_, rfl⟩
  rw [hI2] at sI2 hI2N
  have HI2 := Lib.hid hI2N
  clear hI2N
  have sI3 : (mk (Lib.itoa (h.ps.length : Int))).size ≤ 20 := by rw [mk_size]; exact itoa_short _ (by omega) (by omega)
  have hI3N := fun W hE => itoa_int (h.ps.length : Int) (by omega) (by omega) W hE
  obtain ⟨I3, hI3⟩ : ∃ z, mk (Lib.itoa (h.ps.length : Int)) = z := ⟨_, rfl⟩
  rw [hI3] at sI3 hI3N
  have HI3 := Lib.hid hI3N
  clear hI3N
  have sI4 : (mk (Lib.itoa v4)).size ≤ 20 := by rw [mk_size]; exact itoa_short _ hv4.1 hv4.2
  have hI4N := fun W hE => itoa_int v4 hv4.1 hv4.2 W hE
  obtain ⟨I4, hI4⟩ : ∃ z, mk (Lib.itoa v4) = z := ⟨_, rfl⟩
  rw [hI4] at sI4 hI4N
  have HI4 := Lib.hid hI4N
  clear hI4N
  obtain ⟨B1, hB1⟩ : ∃ z, I0 ++ ({ data := #[32, 99, 111, 117, 110, 116, 32] } : ByteArray) = z := ⟨_, rfl⟩
  have sB1 := cat sI0 (Nat.le_of_eq (show ({ data := #[32, 99, 111, 117, 110, 116, 32] } : ByteArray).size = 7 from rfl))
  rw [hB1] at sB1
  have aB1 := add_at Tryz.prog I0 ({ data := #[32, 99, 111, 117, 110, 116, 32] } : ByteArray) (Nat.le_trans (Nat.le_of_eq (ByteArray.size_append).symm) (by rw [hB1]; omega))
  rw [hB1] at aB1
  obtain ⟨B2, hB2⟩ : ∃ z, B1 ++ I1 = z := ⟨_, rfl⟩
  have sB2 := cat sB1 sI1
  rw [hB2] at sB2
  have aB2 := add_at Tryz.prog B1 I1 (Nat.le_trans (Nat.le_of_eq (ByteArray.size_append).symm) (by rw [hB2]; omega))
  rw [hB2] at aB2
  obtain ⟨B3, hB3⟩ : ∃ z, B2 ++ ({ data := #[32, 114, 101, 118, 32] } : ByteArray) = z := ⟨_, rfl⟩
  have sB3 := cat sB2 (Nat.le_of_eq (show ({ data := #[32, 114, 101, 118, 32] } : ByteArray).size = 5 from rfl))
  rw [hB3] at sB3
  have aB3 := add_at Tryz.prog B2 ({ data := #[32, 114, 101, 118, 32] } : ByteArray) (Nat.le_trans (Nat.le_of_eq (ByteArray.size_append).symm) (by rw [hB3]; omega))
  rw [hB3] at aB3
  obtain ⟨B4, hB4⟩ : ∃ z, B3 ++ I2 = z := ⟨_, rfl⟩
  have sB4 := cat sB3 sI2
  rw [hB4] at sB4
  have aB4 := add_at Tryz.prog B3 I2 (Nat.le_trans (Nat.le_of_eq (ByteArray.size_append).symm) (by rw [hB4]; omega))
  rw [hB4] at aB4
  obtain ⟨D1, hD1⟩ : ∃ z, ({ data := #[32, 112, 111, 100, 115, 32] } : ByteArray) ++ I3 = z := ⟨_, rfl⟩
  have sD1 := cat (Nat.le_of_eq (show ({ data := #[32, 112, 111, 100, 115, 32] } : ByteArray).size = 6 from rfl)) sI3
  rw [hD1] at sD1
  have aD1 := add_at Tryz.prog ({ data := #[32, 112, 111, 100, 115, 32] } : ByteArray) I3 (Nat.le_trans (Nat.le_of_eq (ByteArray.size_append).symm) (by rw [hD1]; omega))
  rw [hD1] at aD1
  obtain ⟨D2, hD2⟩ : ∃ z, D1 ++ ({ data := #[32, 112, 111, 105, 110, 116, 115, 32] } : ByteArray) = z := ⟨_, rfl⟩
  have sD2 := cat sD1 (Nat.le_of_eq (show ({ data := #[32, 112, 111, 105, 110, 116, 115, 32] } : ByteArray).size = 8 from rfl))
  rw [hD2] at sD2
  have aD2 := add_at Tryz.prog D1 ({ data := #[32, 112, 111, 105, 110, 116, 115, 32] } : ByteArray) (Nat.le_trans (Nat.le_of_eq (ByteArray.size_append).symm) (by rw [hD2]; omega))
  rw [hD2] at aD2
  obtain ⟨D3, hD3⟩ : ∃ z, D2 ++ I4 = z := ⟨_, rfl⟩
  have sD3 := cat sD2 sI4
  rw [hD3] at sD3
  have aD3 := add_at Tryz.prog D2 I4 (Nat.le_trans (Nat.le_of_eq (ByteArray.size_append).symm) (by rw [hD3]; omega))
  rw [hD3] at aD3
  obtain ⟨B5, hB5⟩ : ∃ z, B4 ++ D3 = z := ⟨_, rfl⟩
  have sB5 := cat sB4 sD3
  rw [hB5] at sB5
  have aB5 := add_at Tryz.prog B4 D3 (Nat.le_trans (Nat.le_of_eq (ByteArray.size_append).symm) (by rw [hB5]; omega))
  rw [hB5] at aB5
  obtain ⟨B6, hB6⟩ : ∃ z, B5 ++ ({ data := #[32] } : ByteArray) = z := ⟨_, rfl⟩
  have sB6 := cat sB5 (Nat.le_of_eq (show ({ data := #[32] } : ByteArray).size = 1 from rfl))
  rw [hB6] at sB6
  have aB6 := add_at Tryz.prog B5 ({ data := #[32] } : ByteArray) (Nat.le_trans (Nat.le_of_eq (ByteArray.size_append).symm) (by rw [hB6]; omega))
  rw [hB6] at aB6
  obtain ⟨BX, hBX⟩ : ∃ z, B6 ++ C = z := ⟨_, rfl⟩
  have sBX := cat sB6 sC
  rw [hBX] at sBX
  have aBX := add_at Tryz.prog B6 C (Nat.le_trans (Nat.le_of_eq (ByteArray.size_append).symm) (by rw [hBX]; omega))
  rw [hBX] at aBX
  have HL : Hid (BX = mk (textL h)) := by
    show _ = _
    rw [HT.out]
    rw [← hBX]
    rw [← hB6]
    rw [← hB5]
    rw [← hD3]
    rw [← hD2]
    rw [← hD1]
    rw [← hB4]
    rw [← hB3]
    rw [← hB2]
    rw [← hB1]
    rw [← hI0]
    rw [← hI1]
    rw [← hI2]
    rw [← hI3]
    rw [← hI4]
    rw [← hC]
    apply ByteArray.ext
    apply Array.ext'
    simp [mk]
  clear hI0 hI1 hI2 hI3 hI4 hC hCL sI0 sI1 sI2 sI3 sI4 sC hB1 sB1 hB2 sB2 hB3 sB3 hB4 sB4 hD1 sD1 hD2 sD2 hD3 sD3 hB5 sB5 hB6 sB6 hBX sBX
  have HN := Lib.hid (text_no (h := h))
  have HY := Lib.hid (text_yes (h := h))
  have HMS := Lib.hid hsr
  have HAT := Lib.hid k
  have HCN := Lib.hid hcn
  have HCO := Lib.hid hcond
  have HE := Lib.hid he
  have HCD := Lib.hid hcd
  clear he hcd hcap
  have hb := box_below w #[.int .i64 h.st.rl.dl, .int .i64 h.st.rl.fr, .int .i64 h.st.rl.wi, .slice A.a0 h.st.gs.length A.c0, .slice A.a1 h.st.bh.up.ps.length A.c1, .int .i64 h.st.bh.up.sel, .int .i64 h.st.bh.up.win, .slice A.a2 h.st.bh.dn.ps.length A.c2, .int .i64 h.st.bh.dn.sel, .int .i64 h.st.bh.dn.win, .int .i64 h.st.bh.mn, .int .i64 h.st.bh.mx, .int .i64 h.now, .int .i64 h.cnt, .int .i64 h.rev, .slice A.a3 h.ps.length A.c3, .slice A.a4 h.ss.length A.c4, .slice A.a5 h.ns.length A.c5, .slice A.a6 h.ms.length A.c6, .int .i64 h.cnd, .int .i64 h.flt] 54
  have hk := cells_new w #[.int .i64 h.st.rl.dl, .int .i64 h.st.rl.fr, .int .i64 h.st.rl.wi, .slice A.a0 h.st.gs.length A.c0, .slice A.a1 h.st.bh.up.ps.length A.c1, .int .i64 h.st.bh.up.sel, .int .i64 h.st.bh.up.win, .slice A.a2 h.st.bh.dn.ps.length A.c2, .int .i64 h.st.bh.dn.sel, .int .i64 h.st.bh.dn.win, .int .i64 h.st.bh.mn, .int .i64 h.st.bh.mx, .int .i64 h.now, .int .i64 h.cnt, .int .i64 h.rev, .slice A.a3 h.ps.length A.c3, .slice A.a4 h.ss.length A.c4, .slice A.a5 h.ns.length A.c5, .slice A.a6 h.ms.length A.c6, .int .i64 h.cnd, .int .i64 h.flt] 54
  have HB := Lib.hid hb
  have K0 : Hid (CW21 _ w.heap.size _ _ _ _ _ _ _ _ _ _ _ _ _ _ _ _ _ _ _ _ _) := hk
  clear hb hk HT hv4 hW hw hs hms hsr k hcn hcond
  unfold hdV at hok ⊢
  have HOK := Lib.hid hok
  clear hok
  have info_hd2 := info_hd
  go_enter Tryz.func10, Tryz.ntmps10
  go_wp2_with (first | (refine wpList_load_mid rfl 54 _ rfl w.heap.size 0 rfl [.int .i64 h.st.rl.dl, .int .i64 h.st.rl.fr, .int .i64 h.st.rl.wi, .slice A.a0 h.st.gs.length A.c0, .slice A.a1 h.st.bh.up.ps.length A.c1, .int .i64 h.st.bh.up.sel, .int .i64 h.st.bh.up.win, .slice A.a2 h.st.bh.dn.ps.length A.c2, .int .i64 h.st.bh.dn.sel, .int .i64 h.st.bh.dn.win, .int .i64 h.st.bh.mn, .int .i64 h.st.bh.mx, .int .i64 h.now, .int .i64 h.cnt, .int .i64 h.rev, .slice A.a3 h.ps.length A.c3, .slice A.a4 h.ss.length A.c4, .slice A.a5 h.ns.length A.c5, .slice A.a6 h.ms.length A.c6, .int .i64 h.cnd, .int .i64 h.flt] _ (range_all K0.out) Tryz.underlying54 rfl info_hd ?_))
  refine (HOK.out _ (HAT.out.kept HB.out)).mono ?_
  rintro e u1 ⟨rfl, hb⟩
  have HBn := Lib.hid (HB.out.trans (hb.mono HB.out.size))
  have K1 : Hid (CW21 u1 w.heap.size _ _ _ _ _ _ _ _ _ _ _ _ _ _ _ _ _ _ _ _ _) := CW21.kept K0.out hb
  clear HB K0 hb HOK
  have HB := HBn
  clear HBn
  cases hv : herdV h
  · have HX := Lib.hid (HN.out hv)
    clear hv
    go_wp2
    go_ret
    exact ⟨ret1S HX.out, HB.out⟩
  · skip
    have HX := Lib.hid (HL.out.trans (HY.out hv))
    clear hv HL HY HN
    obtain ⟨⟨p0, p1, p2, p3, p4, p5, p6, p7, p8, p9, p10, p11, p12, p13, p14, p15, p16, p17, p18, p19, p20⟩, -⟩ := K1.out.get
    go_wp2_with fail
    clear p0 p1 p2 p3 p4 p5 p6 p7 p8 p9 p10 p11 p12 p13 p14 p15 p16 p17 p18 p19 p20
    have kk := K1.out
    unfold CW21 at kk
    have l12 := later_cell kk.1 (kk.2 12 (by simp)).1
    simp only [List.getElem_cons_zero, List.getElem_cons_succ] at l12
    have l13 := later_cell kk.1 (kk.2 13 (by simp)).1
    simp only [List.getElem_cons_zero, List.getElem_cons_succ] at l13
    have l14 := later_cell kk.1 (kk.2 14 (by simp)).1
    simp only [List.getElem_cons_zero, List.getElem_cons_succ] at l14
    clear kk
    refine region_later mixed (by kernel_rfl) ?_
    repeat (quiet_step (first | (go_at_call_of 43 (Value.int .i64 h.now); exact later_call (HI0.out _ (HE.out.kept (HB.out.trans ((Later.h _).mono HB.out.size))))) | (go_at_call_of 43 (Value.int .i64 h.cnt); exact later_call (HI1.out _ (HE.out.kept (HB.out.trans ((Later.h _).mono HB.out.size))))) | (go_at_call_of 43 (Value.int .i64 h.rev); exact later_call (HI2.out _ (HE.out.kept (HB.out.trans ((Later.h _).mono HB.out.size)))))))
    refine wpQuiet_nil ?_
    intro wa hw'
    obtain ⟨⟨wa, hwl⟩, rfl⟩ := hw'
    have HBn := Lib.hid (HB.out.trans (hwl.mono HB.out.size))
    have K1n : Hid (CW21 wa w.heap.size _ _ _ _ _ _ _ _ _ _ _ _ _ _ _ _ _ _ _ _ _) := CW21.kept K1.out hwl
    clear HB K1 hwl l12 l13 l14
    have HB := HBn
    have K1 := K1n
    clear HBn K1n
    obtain ⟨⟨p0, p1, p2, p3, p4, p5, p6, p7, p8, p9, p10, p11, p12, p13, p14, p15, p16, p17, p18, p19, p20⟩, -⟩ := K1.out.get
    go_wp2_with fail
    clear p0 p1 p2 p3 p4 p5 p6 p7 p8 p9 p10 p11 p12 p13 p14 p15 p16 p17 p18 p19 p20
    have kk := K1.out
    unfold CW21 at kk
    have l15 := later_cell kk.1 (kk.2 15 (by simp)).1
    simp only [List.getElem_cons_zero, List.getElem_cons_succ] at l15
    have l16 := later_cell kk.1 (kk.2 16 (by simp)).1
    simp only [List.getElem_cons_zero, List.getElem_cons_succ] at l16
    clear kk
    refine region_later mixed (by kernel_rfl) ?_
    repeat (quiet_step (first | (go_at_call_of 43 (Value.int .i64 (h.ps.length : Int)); exact later_call (HI3.out _ (HE.out.kept (HB.out.trans ((Later.h _).mono HB.out.size))))) | (go_at_call_of 43 (Value.int .i64 v4); exact later_call (HI4.out _ (HE.out.kept (HB.out.trans ((Later.h _).mono HB.out.size))))) | (go_at_call 44; exact later_call (HCN.out _ (HMS.out.kept (HB.out.trans ((Later.h _).mono HB.out.size)))))))
    refine wpQuiet_nil ?_
    intro wb hw'
    obtain ⟨⟨wb, hwl⟩, rfl⟩ := hw'
    have HBn := Lib.hid (HB.out.trans (hwl.mono HB.out.size))
    have K1n : Hid (CW21 wb w.heap.size _ _ _ _ _ _ _ _ _ _ _ _ _ _ _ _ _ _ _ _ _) := CW21.kept K1.out hwl
    clear HB K1 hwl l15 l16
    have HB := HBn
    have K1 := K1n
    clear HBn K1n
    obtain ⟨⟨p0, p1, p2, p3, p4, p5, p6, p7, p8, p9, p10, p11, p12, p13, p14, p15, p16, p17, p18, p19, p20⟩, -⟩ := K1.out.get
    go_wp2_with fail
    refine (HCO.out _ (HCD.out.kept HB.out)).mono ?_
    rintro e u9 ⟨rfl, hb⟩
    have HBn := Lib.hid (HB.out.trans (hb.mono HB.out.size))
    clear hb p0 p1 p2 p3 p4 p5 p6 p7 p8 p9 p10 p11 p12 p13 p14 p15 p16 p17 p18 p19 p20
    go_wp2
    go_ret
    exact ⟨ret1S HX.out, HBn.out⟩
end Go.Proofs.YtgmdfkmmbcpikaaGreatDoor.Htx
