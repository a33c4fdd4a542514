/- The counts that policies allow: the program's most, least, bounds and its iterator. -/
import Derived.Test.YtcjjdnfikccnmaaBndI
namespace Go.Proofs.Ytcjjdnfikccnmaa.BndJ
open Go.RowKit Go.Shelf Go.BigFrame
open Go.Proofs.Ytcjjdnfikccnmaa.C1
open Go.Proofs.Ytcjjdnfikccnmaa.C2
open Go.Proofs.Ytcjjdnfikccnmaa.Smps
open Go.Proofs.Ytcjjdnfikccnmaa.Mem
open Go.Proofs.Ytcjjdnfikccnmaa.Ser
open Go.Proofs.Ytcjjdnfikccnmaa.Pl
open Go.Proofs.Ytcjjdnfikccnmaa.BhM
open Go.Proofs.Ytcjjdnfikccnmaa.BhI
open Go.Proofs.Ytcjjdnfikccnmaa.LogI
open Go.Proofs.Ytcjjdnfikccnmaa.Itr
open Go.Proofs.Ytcjjdnfikccnmaa.Tail
open Go.Proofs.Ytcjjdnfikccnmaa.Win
open Go.Proofs.Ytcjjdnfikccnmaa.Ext
open Go.Proofs.Ytcjjdnfikccnmaa.Cons
open Go.Proofs.Ytcjjdnfikccnmaa.Mvd
attribute [local go_sem] Oper.semAt_some
open Go.Proofs.Ytcjjdnfikccnmaa.BndI
set_option linter.unusedVariables false


theorem bounds_fn (a : Option Addr) (len cap : Nat) (am : Option Addr) (lm cm : Nat) (now cnt : Int) (K : Nat) (w : World) :
    Calls Try.prog 64 #[.slice a len cap, .agg #[.slice am lm cm, .int .i64 now, .int .i64 cnt], .func (.func K) #[] #[]] w fun e w' =>
      e = .returned (.func (.func 117) #[] #[.pointer (some ⟨w.heap.size, 0, none⟩), .pointer (some ⟨w.heap.size + 2, 0, none⟩), .pointer (some ⟨w.heap.size + 1, 0, none⟩)]) ∧
      w' = ((w.alloc (.cells #[.slice a len cap] 96)).alloc (.cells #[.slice am lm cm, .int .i64 now, .int .i64 cnt] 101)).alloc (.cells #[.func (.func K) #[] #[]] 103) := by
  go_enter Try.func64, Try.ntmps64
  go_wp2
  go_ret
  exact ⟨rfl, rfl⟩
theorem enters_bounds : ∀ args w, (callFunc 117 args).run Try.prog w = .ok (.enter 117 args) w := enters_of Try.func117 (by kernel_rfl) rfl
def bvL (f : Pl → Int → Int) (ps : List Pl) (ms : List Pt) (now count : Int) : List Int := ps.map fun p => f p (baseV ms now count p.pe)
theorem bv_take {f : Pl → Int → Int} {ps : List Pl} {ms : List Pt} {now count : Int} {k : Nat} (h : k < ps.length) {x : Pl} (hx : ps[k] = x) : bvL f (ps.take (k + 1)) ms now count = bvL f (ps.take k) ms now count ++ [f x (baseV ms now count x.pe)] := by
  unfold bvL
  rw [List.take_succ_eq_append_getElem h, hx, List.map_append]
  rfl
theorem bv_prefix (f : Pl → Int → Int) (ps : List Pl) (ms : List Pt) (now count : Int) (k : Nat) : bvL f (ps.take k) ms now count <+: bvL f ps ms now count := by
  unfold bvL
  exact (List.take_prefix k ps).map _

set_option maxRecDepth 100000 in
set_option maxHeartbeats 4000000 in
theorem iter_most (ps : List Pl) (a : Option Addr) (cap : Nat) (ms : List Pt) (am : Option Addr) (cm : Nat) (now cnt : Int) (hv : logV moveV ms = true) (hn : 0 ≤ now ∧ now ≤ 1000000000) (hc : 0 ≤ cnt ∧ cnt ≤ 1000) (hl : ps.length ≤ 3) (hpol : ∀ p ∈ ps, polV p = true) (b0 b1 b2 : Nat) (w : World)
    (k0 : CellsW w b0 [.slice a ps.length cap]) (k1 : CellsW w b1 [.func (.func 65) #[] #[]]) (k2 : CellsW w b2 [.slice am ms.length cm, .int .i64 now, .int .i64 cnt]) (hu : Pls w a ps) (hp : Pts w am ms) :
    Iter Try.prog 117 #[.pointer (some ⟨b0, 0, none⟩), .pointer (some ⟨b1, 0, none⟩), .pointer (some ⟨b2, 0, none⟩)] (fun x : Int => #[.int .i64 x]) (fun k => k = b0 ∨ k = b1 ∨ k = b2 ∨ InBlock a ps.length k ∨ InBlock am ms.length k) (bvL upB ps ms now cnt) w := by
  intro l U J Jx W hW hU hJ hJx hY hj n
  have K0 := k0.kept hW
  obtain ⟨g0, -⟩ := cells_one K0
  have HK1 := Lib.hid (k1.kept hW)
  have HK2 := Lib.hid (k2.kept hW)
  have HJ := Lib.hid hJ
  have HJx := Lib.hid hJx
  have HY := Lib.hid hY
  have HUP := Lib.hid (hu.kept hW)
  have HP := Lib.hid (hp.kept hW)
  have HN1 : Hid (¬ U b1) := fun h => (hU b1 h).2 (.inr (.inl rfl))
  have HN2 : Hid (¬ U b2) := fun h => (hU b2 h).2 (.inr (.inr (.inl rfl)))
  have HNA : Hid (∀ k o s, 0 < ps.length → a = some ⟨k, o, s⟩ → ¬ U k) := fun k o s hl e h => (hU k h).2 (.inr (.inr (.inr (.inl ⟨hl, o, s, e⟩))))
  have HNM : Hid (∀ k, InBlock am ms.length k → ¬ U k) := fun k hk h => (hU k h).2 (.inr (.inr (.inr (.inr hk))))
  have Hj := Lib.hid hj
  have HPOL := Lib.hid hpol
  clear hW hU hJ hJx hY hu hp k0 k1 k2 K0 hj hpol
  have mixed : Try.prog.follows .mixedOrders = true := by kernel_rfl
  show CallsIn Fence.wide n Try.prog 117 #[.func (.yield l) #[] #[], .pointer (some ⟨b0, 0, none⟩), .pointer (some ⟨b1, 0, none⟩), .pointer (some ⟨b2, 0, none⟩)] W _
  refine callsIn_of_wp Try.func117 rfl trivial ?_ rfl
  simp only [Try.ntmps117, List.size_toArray, List.length_cons, List.length_nil, Nat.reduceAdd, Nat.reduceSub, Array.replicate_succ, Array.replicate_zero, List.push_toArray, List.append_toArray, List.nil_append, List.cons_append]
  gi_wp2
  clear g0
  gi_loopw [9] (fun i wr => ∃ k : Nat, k ≤ ps.length ∧ i = .int .i64 k ∧ Hid (J (bvL upB (ps.take k) ms now cnt) wr) ∧ Hid (Sv U W wr)) (fun i _ => ps.length - (intOf i).toNat)
  case atStart => exact ⟨0, Nat.zero_le _, rfl, by simpa [bvL] using Hj, Sv.refl _ _⟩
  case round =>
    clear Hj
    obtain ⟨k, hk, rfl, HJk, HS⟩ := hrel
    by_cases hlt : k < ps.length
    · obtain ⟨b, off, ha, hbb, hcell⟩ := HUP.out.cells
      obtain rfl := ha (by omega)
      have hbW := hbb (by omega)
      obtain ⟨x, hx⟩ : ∃ x, ps[k] = x := ⟨_, rfl⟩
      have hbU : ¬ U b := HNA.out b off none (by omega) rfl
      have hq := hcell k hlt
      have hpl := HPOL.out ps[k] (List.getElem_mem hlt)
      rw [hx] at hq hpl
      have q0 := (HS.out.cell (j := off + k * 3) hbW hbU).trans hq.1
      have q1 := (HS.out.cell (j := off + k * 3 + 1) hbW hbU).trans hq.2.1
      have q2 := (HS.out.cell (j := off + k * 3 + 2) hbW hbU).trans hq.2.2
      have HT := Lib.hid (bv_take (f := upB) (ms := ms) (now := now) (count := cnt) hlt hx)
      have hz := HS.out.size
      obtain ⟨w3, hw3⟩ : ∃ w3, wr.alloc (.cells #[.int .i64 x.kd, .int .i64 x.va, .int .i64 x.pe] 106) = w3 := ⟨_, rfl⟩
      have HB3 : Hid (Below wr.heap.size wr w3) := by rw [← hw3]; exact Lib.hid (box_below _ _ _)
      have HK3 : Hid (CellsW w3 wr.heap.size [.int .i64 x.kd, .int .i64 x.va, .int .i64 x.pe]) := by rw [← hw3]; exact Lib.hid (Ser2.cells_new _ _ _)
      have HF3 := Lib.hid ((cells_sv HK1.out HS.out HN1.out).kept HB3.out)
      have HP3 := Lib.hid ((cells_sv HK2.out HS.out HN2.out).kept HB3.out)
      have HPT := Lib.hid ((pts_sv HP.out HS.out HNM.out).kept HB3.out)
      have e0 := later_cell HK3.out.1 (HK3.out.2 0 (by simp)).1
      have e1 := later_cell HK3.out.1 (HK3.out.2 1 (by simp)).1
      have e2 := later_cell HK3.out.1 (HK3.out.2 2 (by simp)).1
      have e3 := later_cell HF3.out.1 (HF3.out.2 0 (by simp)).1
      have e4 := later_cell HP3.out.1 (HP3.out.2 0 (by simp)).1
      have e5 := later_cell HP3.out.1 (HP3.out.2 1 (by simp)).1
      have e6 := later_cell HP3.out.1 (HP3.out.2 2 (by simp)).1
      simp only [List.getElem_cons_zero, List.getElem_cons_succ] at e0 e1 e2 e3 e4 e5 e6
      obtain ⟨hkd, hva0, hva1, hpe0, hpe1⟩ := pol_bd hpl
      have hbd := base_bd hv now x.pe hc
      obtain ⟨base, hbase⟩ : ∃ base, baseV ms now cnt x.pe = base := ⟨_, rfl⟩
      have HBS : Hid (∀ q : Later w3, Calls Try.prog 118 #[.agg #[.slice am ms.length cm, .int .i64 now, .int .i64 cnt], .int .i64 x.pe] q.u fun e w' => e = .returned (.int .i64 base) ∧ Below q.u.heap.size q.u w') := fun q => by
        have := impl_base ms am cm now cnt x.pe hv hn ⟨by omega, by omega⟩ hc q.u (HPT.out.kept q.h)
        rw [hbase] at this
        exact this
      rw [hbase] at HT hbd
      have HAL : Hid (∀ q : Later w3, Calls Try.prog 65 #[.agg #[.int .i64 x.kd, .int .i64 x.va, .int .i64 x.pe], .int .i64 base] q.u fun e w' => e = .returned (.int .i64 (upB x base)) ∧ Below q.u.heap.size q.u w') := fun q => impl_most x hpl base hbd q.u
      obtain ⟨y, hy0⟩ : ∃ y, upB x base = y := ⟨_, rfl⟩
      rw [hy0] at HT HAL
      clear hcell hq ha hbb hbW hbU hx hpl hkd hva0 hva1 hpe0 hpe1 hbd hbase hy0
      gi_wp2
      try rw [hw3]
      clear hw3 q0 q1 q2
      refine region_tail (C := fun w' => ∃ p : Later w3, w' = p.u) 8 mixed (by kernel_rfl) ⟨⟨w3.drew, (Below.refl _ _).drew⟩, rfl⟩ ?_
      simp only [List.take_succ_cons, List.take_zero, List.drop_succ_cons, List.drop_zero]
      repeat (go_big_quiet_step (first | (go_at_call 118; exact later_call (HBS.out _)) | (go_at_call 65; exact later_call (HAL.out _))))
      refine wpQuiet_nil ?_
      intro w4 hw'
      obtain ⟨⟨_, hw4⟩, rfl⟩ := hw'
      have HB4 := Lib.hid (HB3.out.trans (hw4.mono HB3.out.size))
      have hj4 : J (bvL upB (ps.take k) ms now cnt) w4 := HJ.out _ _ _ HJk.out (HB4.out.mono (by omega))
      have hpre : bvL upB (ps.take k) ms now cnt ++ [y] <+: bvL upB ps ms now cnt := by rw [← HT.out]; exact bv_prefix _ _ _ _ _ _
      obtain ⟨fn, tmps, assign, body, hy, hR⟩ := HY.out _ y w4 hj4 hpre (n - 1)
      have HR := Lib.hid hR
      clear hw4 e0 e1 e2 e3 e4 e5 e6 HBS HAL hj4 hpre hR
      gi_wp2
      refine ⟨fun h => by simp [Fence.wide] at h, HR.out.mono ?_⟩
      rintro e w5 (⟨rfl, hJ5, hS5⟩ | ⟨rfl, hJx5, -⟩)
      · have HJ5 : Hid (J (bvL upB (ps.take (k + 1)) ms now cnt) w5) := by rw [HT.out]; exact Lib.hid hJ5
        have HS5 := Lib.hid ((HS.out.trans (Sv.of_below (U := U) HB4.out)).trans hS5)
        clear hJ5 hS5 hy
        gi_wp2
        go_roundw
        case rel => exact ⟨k + 1, by omega, by go_num, HJ5.out, HS5.out⟩
        case measure => simp [intOf]; omega
      · have HJ5 := Lib.hid hJx5
        clear hJx5 hy
        gi_wp2
        refine bodyPost_ret (results_none rfl _ _ _) rfl ?_
        exact ⟨⟨_, rfl⟩, .inr ⟨_, by rw [← HT.out]; exact bv_prefix _ _ _ _ _ _, HJ5.out⟩⟩
    · obtain rfl : k = ps.length := by omega
      have HJ6 : Hid (J (bvL upB ps ms now cnt) wr) := by have := HJk.out; rw [List.take_length] at this; exact this
      gi_wp2
      go_end0
      exact ⟨⟨_, rfl⟩, .inl HJ6.out⟩

set_option maxRecDepth 100000 in
set_option maxHeartbeats 4000000 in
theorem iter_least (ps : List Pl) (a : Option Addr) (cap : Nat) (ms : List Pt) (am : Option Addr) (cm : Nat) (now cnt : Int) (hv : logV moveV ms = true) (hn : 0 ≤ now ∧ now ≤ 1000000000) (hc : 0 ≤ cnt ∧ cnt ≤ 1000) (hl : ps.length ≤ 3) (hpol : ∀ p ∈ ps, polV p = true) (b0 b1 b2 : Nat) (w : World)
    (k0 : CellsW w b0 [.slice a ps.length cap]) (k1 : CellsW w b1 [.func (.func 67) #[] #[]]) (k2 : CellsW w b2 [.slice am ms.length cm, .int .i64 now, .int .i64 cnt]) (hu : Pls w a ps) (hp : Pts w am ms) :
    Iter Try.prog 117 #[.pointer (some ⟨b0, 0, none⟩), .pointer (some ⟨b1, 0, none⟩), .pointer (some ⟨b2, 0, none⟩)] (fun x : Int => #[.int .i64 x]) (fun k => k = b0 ∨ k = b1 ∨ k = b2 ∨ InBlock a ps.length k ∨ InBlock am ms.length k) (bvL dnB ps ms now cnt) w := by
  intro l U J Jx W hW hU hJ hJx hY hj n
  have K0 := k0.kept hW
  obtain ⟨g0, -⟩ := cells_one K0
  have HK1 := Lib.hid (k1.kept hW)
  have HK2 := Lib.hid (k2.kept hW)
  have HJ := Lib.hid hJ
  have HJx := Lib.hid hJx
  have HY := Lib.hid hY
  have HUP := Lib.hid (hu.kept hW)
  have HP := Lib.hid (hp.kept hW)
  have HN1 : Hid (¬ U b1) := fun h => (hU b1 h).2 (.inr (.inl rfl))
  have HN2 : Hid (¬ U b2) := fun h => (hU b2 h).2 (.inr (.inr (.inl rfl)))
  have HNA : Hid (∀ k o s, 0 < ps.length → a = some ⟨k, o, s⟩ → ¬ U k) := fun k o s hl e h => (hU k h).2 (.inr (.inr (.inr (.inl ⟨hl, o, s, e⟩))))
  have HNM : Hid (∀ k, InBlock am ms.length k → ¬ U k) := fun k hk h => (hU k h).2 (.inr (.inr (.inr (.inr hk))))
  have Hj := Lib.hid hj
  have HPOL := Lib.hid hpol
  clear hW hU hJ hJx hY hu hp k0 k1 k2 K0 hj hpol
  have mixed : Try.prog.follows .mixedOrders = true := by kernel_rfl
  show CallsIn Fence.wide n Try.prog 117 #[.func (.yield l) #[] #[], .pointer (some ⟨b0, 0, none⟩), .pointer (some ⟨b1, 0, none⟩), .pointer (some ⟨b2, 0, none⟩)] W _
  refine callsIn_of_wp Try.func117 rfl trivial ?_ rfl
  simp only [Try.ntmps117, List.size_toArray, List.length_cons, List.length_nil, Nat.reduceAdd, Nat.reduceSub, Array.replicate_succ, Array.replicate_zero, List.push_toArray, List.append_toArray, List.nil_append, List.cons_append]
  gi_wp2
  clear g0
  gi_loopw [9] (fun i wr => ∃ k : Nat, k ≤ ps.length ∧ i = .int .i64 k ∧ Hid (J (bvL dnB (ps.take k) ms now cnt) wr) ∧ Hid (Sv U W wr)) (fun i _ => ps.length - (intOf i).toNat)
  case atStart => exact ⟨0, Nat.zero_le _, rfl, by simpa [bvL] using Hj, Sv.refl _ _⟩
  case round =>
    clear Hj
    obtain ⟨k, hk, rfl, HJk, HS⟩ := hrel
    by_cases hlt : k < ps.length
    · obtain ⟨b, off, ha, hbb, hcell⟩ := HUP.out.cells
      obtain rfl := ha (by omega)
      have hbW := hbb (by omega)
      obtain ⟨x, hx⟩ : ∃ x, ps[k] = x := ⟨_, rfl⟩
      have hbU : ¬ U b := HNA.out b off none (by omega) rfl
      have hq := hcell k hlt
      have hpl := HPOL.out ps[k] (List.getElem_mem hlt)
      rw [hx] at hq hpl
      have q0 := (HS.out.cell (j := off + k * 3) hbW hbU).trans hq.1
      have q1 := (HS.out.cell (j := off + k * 3 + 1) hbW hbU).trans hq.2.1
      have q2 := (HS.out.cell (j := off + k * 3 + 2) hbW hbU).trans hq.2.2
      have HT := Lib.hid (bv_take (f := dnB) (ms := ms) (now := now) (count := cnt) hlt hx)
      have hz := HS.out.size
      obtain ⟨w3, hw3⟩ : ∃ w3, wr.alloc (.cells #[.int .i64 x.kd, .int .i64 x.va, .int .i64 x.pe] 106) = w3 := ⟨_, rfl⟩
      have HB3 : Hid (Below wr.heap.size wr w3) := by rw [← hw3]; exact Lib.hid (box_below _ _ _)
      have HK3 : Hid (CellsW w3 wr.heap.size [.int .i64 x.kd, .int .i64 x.va, .int .i64 x.pe]) := by rw [← hw3]; exact Lib.hid (Ser2.cells_new _ _ _)
      have HF3 := Lib.hid ((cells_sv HK1.out HS.out HN1.out).kept HB3.out)
      have HP3 := Lib.hid ((cells_sv HK2.out HS.out HN2.out).kept HB3.out)
      have HPT := Lib.hid ((pts_sv HP.out HS.out HNM.out).kept HB3.out)
      have e0 := later_cell HK3.out.1 (HK3.out.2 0 (by simp)).1
      have e1 := later_cell HK3.out.1 (HK3.out.2 1 (by simp)).1
      have e2 := later_cell HK3.out.1 (HK3.out.2 2 (by simp)).1
      have e3 := later_cell HF3.out.1 (HF3.out.2 0 (by simp)).1
      have e4 := later_cell HP3.out.1 (HP3.out.2 0 (by simp)).1
      have e5 := later_cell HP3.out.1 (HP3.out.2 1 (by simp)).1
      have e6 := later_cell HP3.out.1 (HP3.out.2 2 (by simp)).1
      simp only [List.getElem_cons_zero, List.getElem_cons_succ] at e0 e1 e2 e3 e4 e5 e6
      obtain ⟨hkd, hva0, hva1, hpe0, hpe1⟩ := pol_bd hpl
      have hbd := base_bd hv now x.pe hc
      obtain ⟨base, hbase⟩ : ∃ base, baseV ms now cnt x.pe = base := ⟨_, rfl⟩
      have HBS : Hid (∀ q : Later w3, Calls Try.prog 118 #[.agg #[.slice am ms.length cm, .int .i64 now, .int .i64 cnt], .int .i64 x.pe] q.u fun e w' => e = .returned (.int .i64 base) ∧ Below q.u.heap.size q.u w') := fun q => by
        have := impl_base ms am cm now cnt x.pe hv hn ⟨by omega, by omega⟩ hc q.u (HPT.out.kept q.h)
        rw [hbase] at this
        exact this
      rw [hbase] at HT hbd
      have HAL : Hid (∀ q : Later w3, Calls Try.prog 67 #[.agg #[.int .i64 x.kd, .int .i64 x.va, .int .i64 x.pe], .int .i64 base] q.u fun e w' => e = .returned (.int .i64 (dnB x base)) ∧ Below q.u.heap.size q.u w') := fun q => impl_least x hpl base hbd q.u
      obtain ⟨y, hy0⟩ : ∃ y, dnB x base = y := ⟨_, rfl⟩
      rw [hy0] at HT HAL
      clear hcell hq ha hbb hbW hbU hx hpl hkd hva0 hva1 hpe0 hpe1 hbd hbase hy0
      gi_wp2
      try rw [hw3]
      clear hw3 q0 q1 q2
      refine region_tail (C := fun w' => ∃ p : Later w3, w' = p.u) 8 mixed (by kernel_rfl) ⟨⟨w3.drew, (Below.refl _ _).drew⟩, rfl⟩ ?_
      simp only [List.take_succ_cons, List.take_zero, List.drop_succ_cons, List.drop_zero]
      repeat (go_big_quiet_step (first | (go_at_call 118; exact later_call (HBS.out _)) | (go_at_call 67; exact later_call (HAL.out _))))
      refine wpQuiet_nil ?_
      intro w4 hw'
      obtain ⟨⟨_, hw4⟩, rfl⟩ := hw'
      have HB4 := Lib.hid (HB3.out.trans (hw4.mono HB3.out.size))
      have hj4 : J (bvL dnB (ps.take k) ms now cnt) w4 := HJ.out _ _ _ HJk.out (HB4.out.mono (by omega))
      have hpre : bvL dnB (ps.take k) ms now cnt ++ [y] <+: bvL dnB ps ms now cnt := by rw [← HT.out]; exact bv_prefix _ _ _ _ _ _
      obtain ⟨fn, tmps, assign, body, hy, hR⟩ := HY.out _ y w4 hj4 hpre (n - 1)
      have HR := Lib.hid hR
      clear hw4 e0 e1 e2 e3 e4 e5 e6 HBS HAL hj4 hpre hR
      gi_wp2
      refine ⟨fun h => by simp [Fence.wide] at h, HR.out.mono ?_⟩
      rintro e w5 (⟨rfl, hJ5, hS5⟩ | ⟨rfl, hJx5, -⟩)
      · have HJ5 : Hid (J (bvL dnB (ps.take (k + 1)) ms now cnt) w5) := by rw [HT.out]; exact Lib.hid hJ5
        have HS5 := Lib.hid ((HS.out.trans (Sv.of_below (U := U) HB4.out)).trans hS5)
        clear hJ5 hS5 hy
        gi_wp2
        go_roundw
        case rel => exact ⟨k + 1, by omega, by go_num, HJ5.out, HS5.out⟩
        case measure => simp [intOf]; omega
      · have HJ5 := Lib.hid hJx5
        clear hJx5 hy
        gi_wp2
        refine bodyPost_ret (results_none rfl _ _ _) rfl ?_
        exact ⟨⟨_, rfl⟩, .inr ⟨_, by rw [← HT.out]; exact bv_prefix _ _ _ _ _ _, HJ5.out⟩⟩
    · obtain rfl : k = ps.length := by omega
      have HJ6 : Hid (J (bvL dnB ps ms now cnt) wr) := by have := HJk.out; rw [List.take_length] at this; exact this
      gi_wp2
      go_end0
      exact ⟨⟨_, rfl⟩, .inl HJ6.out⟩
end Go.Proofs.Ytcjjdnfikccnmaa.BndJ
