/- The iterator 'considered': the desired count, then the counts of the notes that a window holds. -/
import Derived.Test.YtcjjdnfikccnmaaExt
import Derived.Test.YtcjjdnfikccnmaaWin
namespace Go.Proofs.Ytcjjdnfikccnmaa.Cons
open Go.RowKit Go.Shelf Go.BigFrame
open Go.Proofs.Ytcjjdnfikccnmaa.C1
open Go.Proofs.Ytcjjdnfikccnmaa.C2
open Go.Proofs.Ytcjjdnfikccnmaa.Smps
open Go.Proofs.Ytcjjdnfikccnmaa.Mem
open Go.Proofs.Ytcjjdnfikccnmaa.Ser
open Go.Proofs.Ytcjjdnfikccnmaa.BhM
open Go.Proofs.Ytcjjdnfikccnmaa.Itr
open Go.Proofs.Ytcjjdnfikccnmaa.Tail
open Go.Proofs.Ytcjjdnfikccnmaa.Win
open Go.Proofs.Ytcjjdnfikccnmaa.Ext
attribute [local go_sem] Oper.semAt_some
set_option linter.unusedVariables false

/-- Cells stand when a block without cells turns. -/
theorem cells_put {w : World} {g l : Nat} {vs : List Value} {r : Loop} (h : CellsW w g vs) (h0 : 0 < vs.length) (hl : w.heap[l]? = some (.loop r)) (o : Obj) : CellsW (w.putObj l o) g vs := by
  have hne : g ≠ l := fun e => by
    subst e
    have := (h.2 0 h0).1
    simp [World.cell?, hl] at this
  have hb : (w.putObj l o).heap[g]? = w.heap[g]? := World.putObj_heap_other hne
  refine ⟨by simpa [World.putObj] using h.1, fun j hj => ⟨(World.cell?_of_block (w := w) hb).trans (h.2 j hj).1, (World.frozen?_of_block (w := w) hb).trans (h.2 j hj).2⟩⟩
theorem cells_sv {U : Nat → Prop} {w w' : World} {g : Nat} {vs : List Value} (h : CellsW w g vs) (hs : Sv U w w') (hu : ¬ U g) : CellsW w' g vs :=
  ⟨Nat.lt_of_lt_of_le h.1 hs.size, fun j hj => ⟨(hs.cell h.1 hu).trans (h.2 j hj).1, (hs.frozen h.1 hu).trans (h.2 j hj).2⟩⟩
theorem pts_sv {U : Nat → Prop} {w w' : World} {a : Option Addr} {ps : List Pt} (h : Pts w a ps) (hs : Sv U w w') (hu : ∀ k, InBlock a ps.length k → ¬ U k) : Pts w' a ps := by
  rcases h with h | ⟨b, off, h1, h2, h3⟩
  · exact .inl h
  · by_cases h0 : 0 < ps.length
    · have hb : ¬ U b := hu b ⟨h0, off, none, h1⟩
      exact .inr ⟨b, off, h1, Nat.lt_of_lt_of_le h2 hs.size, fun i hi => ⟨(hs.cell h2 hb).trans (h3 i hi).1, (hs.cell h2 hb).trans (h3 i hi).2⟩⟩
    · exact .inl (List.length_eq_zero_iff.1 (by omega))
theorem considered_fn (a : Option Addr) (len cap : Nat) (now win want : Int) (w : World) :
    Calls Try.prog 52 #[.slice a len cap, .int .i64 now, .int .i64 win, .int .i64 want] w fun e w' =>
      e = .returned (.func (.func 109) #[] #[.pointer (some ⟨w.heap.size + 3, 0, none⟩), .pointer (some ⟨w.heap.size, 0, none⟩), .pointer (some ⟨w.heap.size + 1, 0, none⟩), .pointer (some ⟨w.heap.size + 2, 0, none⟩)]) ∧
      w' = (((w.alloc (.cells #[.slice a len cap] 29)).alloc (.cells #[.int .i64 now] 3)).alloc (.cells #[.int .i64 win] 3)).alloc (.cells #[.int .i64 want] 3) := by
  go_enter Try.func52, Try.ntmps52
  go_wp2
  go_ret
  exact ⟨rfl, rfl⟩
theorem enters_cons : ∀ args w, (callFunc 109 args).run Try.prog w = .ok (.enter 109 args) w := enters_of Try.func109 (by kernel_rfl) rfl
/-- What within's boxes hold. -/
theorem three_boxes {w w' : World} {v0 v1 v2 : Value} {t0 t1 t2 : TypeId} (h : w' = ((w.alloc (.cells #[v0] t0)).alloc (.cells #[v1] t1)).alloc (.cells #[v2] t2)) :
    CellsW w' w.heap.size [v0] ∧ CellsW w' (w.heap.size + 1) [v1] ∧ CellsW w' (w.heap.size + 2) [v2] ∧ Below w.heap.size w w' ∧ w'.heap.size = w.heap.size + 3 := by
  subst h
  have k1 := Ser2.cells_new w #[v0] t0
  have k2 := Ser2.cells_new (w.alloc (.cells #[v0] t0)) #[v1] t1
  have k3 := Ser2.cells_new ((w.alloc (.cells #[v0] t0)).alloc (.cells #[v1] t1)) #[v2] t2
  rw [World.size_alloc] at k2
  rw [World.size_alloc, World.size_alloc] at k3
  exact ⟨(k1.kept (box_below _ _ _)).kept (box_below _ _ _), k2.kept (box_below _ _ _), k3, box3_below _ _ _ _, by simp⟩
set_option maxRecDepth 100000 in
set_option maxHeartbeats 4000000 in
theorem iter_cons (ns : List Pt) (a : Option Addr) (cap : Nat) (now win want : Int) (hn : 0 ≤ now ∧ now ≤ 1000000000) (hs : 0 ≤ win ∧ win ≤ 1000) (hl : ns.length ≤ 200) (bw b0 b1 b2 : Nat) (w : World)
    (kw : CellsW w bw [.int .i64 want]) (k0 : CellsW w b0 [.slice a ns.length cap]) (k1 : CellsW w b1 [.int .i64 now]) (k2 : CellsW w b2 [.int .i64 win]) (hp : Pts w a ns) :
    Iter Try.prog 109 #[.pointer (some ⟨bw, 0, none⟩), .pointer (some ⟨b0, 0, none⟩), .pointer (some ⟨b1, 0, none⟩), .pointer (some ⟨b2, 0, none⟩)] (fun x : Int => #[.int .i64 x]) (fun k => k = bw ∨ k = b0 ∨ k = b1 ∨ k = b2 ∨ InBlock a ns.length k) (want :: valsL (winL now win ns)) w := by
  intro l U J Jx W hW hU hJ hJx hY hj n
  have kwW := kw.kept hW
  have k0W := k0.kept hW
  have k1W := k1.kept hW
  have k2W := k2.kept hW
  have hpW := hp.kept hW
  have hUw : ¬ U bw := fun h => (hU bw h).2 (.inl rfl)
  have hU0 : ¬ U b0 := fun h => (hU b0 h).2 (.inr (.inl rfl))
  have hU1 : ¬ U b1 := fun h => (hU b1 h).2 (.inr (.inr (.inl rfl)))
  have hU2 : ¬ U b2 := fun h => (hU b2 h).2 (.inr (.inr (.inr (.inl rfl))))
  have hUA : ∀ k, InBlock a ns.length k → ¬ U k := fun k hk h => (hU k h).2 (.inr (.inr (.inr (.inr hk))))
  have hULT : ∀ k, U k → k < W.heap.size := fun k h => (hU k h).1
  have hba := box_below W #[.func (.yield l) #[] #[]] 85
  have kY := Ser2.cells_new W #[.func (.yield l) #[] #[]] 85
  obtain ⟨Wa, hWa⟩ : ∃ Wa, W.alloc (.cells #[.func (.yield l) #[] #[]] 85) = Wa := ⟨_, rfl⟩
  rw [hWa] at hba kY
  have hja := hJ _ _ _ hj hba
  obtain ⟨fn, tmps, assign, body, hy, hR⟩ := hY [] want Wa hja ⟨valsL (winL now win ns), rfl⟩ (n - 1)
  have KW := Lib.hid (kwW.kept hba)
  have K0 := Lib.hid (k0W.kept hba)
  have K1 := Lib.hid (k1W.kept hba)
  have K2 := Lib.hid (k2W.kept hba)
  have KY := Lib.hid kY
  have HP := Lib.hid (hpW.kept hba)
  have HR := Lib.hid hR
  have HJ := Lib.hid hJ
  have HJx := Lib.hid hJx
  have HY := Lib.hid hY
  have HUw := Lib.hid hUw
  have HU0 := Lib.hid hU0
  have HU1 := Lib.hid hU1
  have HU2 := Lib.hid hU2
  have HUA := Lib.hid hUA
  have HUL := Lib.hid hULT
  have HBA := Lib.hid hba
  have HWA := Lib.hid hWa
  obtain ⟨cw, -⟩ := cells_one (kwW.kept hba)
  clear hW hU hJ hJx hY hj kw k0 k1 k2 hp kwW k0W k1W k2W hpW hUw hU0 hU1 hU2 hUA hULT hba kY hja hR
  show CallsIn Fence.wide n Try.prog 109 #[.func (.yield l) #[] #[], .pointer (some ⟨bw, 0, none⟩), .pointer (some ⟨b0, 0, none⟩), .pointer (some ⟨b1, 0, none⟩), .pointer (some ⟨b2, 0, none⟩)] W _
  refine callsIn_of_wp_marks Try.func109 rfl trivial ?_ rfl
  simp only [Try.ntmps109, List.size_toArray, List.length_cons, List.length_nil, Nat.reduceAdd, Nat.reduceSub, Array.replicate_succ, Array.replicate_zero, List.push_toArray, List.append_toArray, List.nil_append, List.cons_append]
  obtain ⟨cy, -⟩ := cells_one KY.out
  gi_wp2
  try rw [hWa]
  refine ⟨fun h => by simp [Fence.wide] at h, HR.out.mono ?_⟩
  clear hWa hy cw cy
  rintro e W3 (⟨rfl, hJ3, hS3⟩ | ⟨rfl, hJx3, -⟩)
  · have K03 := Lib.hid (cells_sv K0.out hS3 HU0.out)
    have K13 := Lib.hid (cells_sv K1.out hS3 HU1.out)
    have K23 := Lib.hid (cells_sv K2.out hS3 HU2.out)
    have hnY : ¬ U W.heap.size := fun h => Nat.lt_irrefl _ (HUL.out _ h)
    have KY3 := Lib.hid (cells_sv KY.out hS3 hnY)
    have HP3 := Lib.hid (pts_sv HP.out hS3 HUA.out)
    have HJ3 := Lib.hid hJ3
    have HNY := Lib.hid hnY
    have HZ3 : Hid (W.heap.size ≤ W3.heap.size) := Nat.le_trans HBA.out.size hS3.size
    obtain ⟨c0, -⟩ := cells_one K03.out
    obtain ⟨c1, -⟩ := cells_one K13.out
    obtain ⟨c2, -⟩ := cells_one K23.out
    clear hJ3 hS3 hnY
    gi_wp2
    refine ⟨trivial, fun h => by simp [Fence.wide] at h, (within_note _ _ _ _ _ _ _).mono ?_⟩
    rintro e W4 ⟨rfl, hw4⟩
    obtain ⟨y0, y1, y2, hB4, hz4⟩ := three_boxes hw4
    have Y0 := Lib.hid y0
    have Y1 := Lib.hid y1
    have Y2 := Lib.hid y2
    have HB4 := Lib.hid hB4
    have HZ4 := Lib.hid hz4
    have KY4 := Lib.hid (KY3.out.kept hB4)
    have HP4 := Lib.hid (HP3.out.kept hB4)
    have HJ4 := Lib.hid (HJ.out _ _ _ HJ3.out (hB4.mono HZ3.out))
    have HZ34 : Hid (W.heap.size ≤ W4.heap.size) := Nat.le_trans HZ3.out hB4.size
    clear y0 y1 y2 hB4 hz4 hw4 c0 c1 c2
    gi_wp2
    refine range_law (gf := 152) (lb := #[.pointer (some ⟨W3.heap.size, 0, none⟩), .pointer (some ⟨W3.heap.size + 1, 0, none⟩), .pointer (some ⟨W3.heap.size + 2, 0, none⟩)]) (n := n) rfl enters_note
      (iter_note ns a cap now win hn hs hl W3.heap.size (W3.heap.size + 1) (W3.heap.size + 2) W4 Y0.out.1 Y1.out.1 Y2.out.1 (cells_one Y0.out).1 (cells_one Y1.out).1 (cells_one Y2.out).1 HP4.out) (Below.refl _ W4)
      (fun k hk => by
        rcases hk with rfl | rfl | rfl | ⟨hk, o, s, e⟩
        · exact Y0.out.1
        · exact Y1.out.1
        · exact Y2.out.1
        · rcases HP4.out with h | ⟨b, off, h1, h2, h3⟩
          · rw [h] at hk; simp at hk
          · rw [h1] at e; cases e; exact h2) (fun _ => rfl)
      U (fun k hk => ⟨Nat.lt_of_lt_of_le (HUL.out k hk) HZ34.out, fun h => by
        have := HUL.out k hk
        have := HZ3.out
        rcases h with rfl | rfl | rfl | h
        · omega
        · omega
        · omega
        · exact HUA.out k h hk⟩)
      (fun pre Wx => J (want :: valsL pre) Wx ∧ CellsW Wx W.heap.size [.func (.yield l) #[] #[]]) (fun pre Wx => Jx (want :: valsL pre) Wx)
      (fun s A C h hb => ⟨HJ.out _ _ _ h.1 (hb.mono HZ34.out), cells_dep h.2 hb (by have := KY3.out.1; have := HB4.out.size; have := HZ4.out; omega)⟩) (fun s A C h hb => HJx.out _ _ _ h (hb.mono HZ34.out)) ⟨HJ4.out, KY4.out⟩
      (fun x a' Wx => ∃ Bx, W4.heap.size ≤ Bx ∧ CellsW Wx Bx [.int .i64 x.tick, .int .i64 x.val] ∧ a' = { tmps := #[.func (.yield l) #[] #[], .pointer (some ⟨bw, 0, none⟩), .pointer (some ⟨b0, 0, none⟩), .pointer (some ⟨b1, 0, none⟩), .pointer (some ⟨b2, 0, none⟩), .pointer (some ⟨W.heap.size, 0, none⟩), .pointer (some ⟨Bx, 0, none⟩), .func (.yield l) #[] #[], .int .i64 want, .bool true, .bool false, .slice a ns.length cap, .int .i64 now, .int .i64 win, .func (.func 152) #[] #[.pointer (some ⟨W3.heap.size, 0, none⟩), .pointer (some ⟨W3.heap.size + 1, 0, none⟩), .pointer (some ⟨W3.heap.size + 2, 0, none⟩)], .agg #[.int .i64 x.tick, .int .i64 x.val], undef, undef, undef, undef, undef], defers := [] })
      (fun x a' A l r r' ⟨Bx, hB, h, e⟩ hl => ⟨Bx, hB, cells_put h (by simp) hl _, e⟩) ?assign ?body ?done ?stop
    case assign =>
      intro l' pre x Wx K hzW hI hK
      have HI := Lib.hid hI
      have HKK := Lib.hid hK
      clear hI hK
      gi_wp2
      refine HKK.out _ _ (sv_of_alloc Wx _) ⟨HJ.out _ _ _ HI.out.1 ((box_below Wx _ _).mono (by have := HZ34.out; omega)), HI.out.2.kept (box_below Wx _ _)⟩ ⟨Wx.heap.size, by omega, Ser2.cells_new Wx _ _, rfl⟩
    case body =>
      rintro l' pre x a' Wx hzW ⟨hi, ky⟩ ⟨Bx, hBx, kx, rfl⟩ hpre
      obtain ⟨fn, tmps, assign, body, hy, hR⟩ := HY.out (want :: valsL pre) x.val Wx hi (by
        have h1 : want :: valsL (pre ++ [x]) <+: want :: valsL (winL now win ns) := by
          obtain ⟨q, hq⟩ := hpre
          exact ⟨valsL q, by rw [← hq]; simp [valsL]⟩
        rw [valsL_snoc] at h1
        exact h1) (n - 1)
      have HR := Lib.hid hR
      have KYx := Lib.hid ky
      obtain ⟨cy, -⟩ := cells_one ky
      have cx := (kx.2 1 (by simp)).1
      simp at cx
      have HE : Hid (want :: valsL (pre ++ [x]) = (want :: valsL pre) ++ [x.val]) := by show _ = _; rw [valsL_snoc]; rfl
      clear hR ky kx hi hpre
      gi_wp2
      refine ⟨fun h => by simp [Fence.wide] at h, HR.out.mono ?_⟩
      rintro e W5 (⟨rfl, hJ5, hS5⟩ | ⟨rfl, hJx5, hS5⟩)
      · have HJ5 := Lib.hid hJ5
        have HS5 := Lib.hid hS5
        clear hJ5 hS5 hy cy cx
        gi_wp2
        exact ⟨HS5.out, by rw [HE.out]; exact HJ5.out, cells_sv KYx.out HS5.out HNY.out⟩
      · have HJ5 := Lib.hid hJx5
        have HS5 := Lib.hid hS5
        clear hJx5 hS5 hy cy cx
        gi_wp2
        exact ⟨HS5.out, by show Jx (want :: valsL (pre ++ [x])) W5; rw [HE.out]; exact HJ5.out⟩
    case done =>
      rintro Wx ⟨hi, ky⟩ hK
      have HI := Lib.hid hi
      have HK := Lib.hid hK
      clear hi ky
      gi_wp2
      refine ⟨by simp, .inl ⟨_, _, rfl, run_takeDeferred HK.out, ?_⟩⟩
      exact ⟨_, results_none rfl _ _ _, ⟨_, rfl⟩, .inl (HJ.out _ _ _ HI.out (putObj_below HZ34.out _))⟩
    case stop =>
      rintro pre Wx hpre hi hK
      have HI := Lib.hid hi
      have HK := Lib.hid hK
      clear hi
      gi_wp2
      refine ⟨by simp, .inl ⟨_, _, rfl, run_takeDeferred HK.out, ?_⟩⟩
      refine ⟨_, results_none rfl _ _ _, ⟨_, rfl⟩, .inr ⟨want :: valsL pre, ?_, HJx.out _ _ _ HI.out (putObj_below HZ34.out _)⟩⟩
      obtain ⟨q, hq⟩ := hpre
      exact ⟨valsL q, by rw [← hq]; simp [valsL]⟩
  · have HJ5 := Lib.hid hJx3
    clear hJx3
    gi_wp2
    exact ⟨_, results_none rfl _ _ _, ⟨_, rfl⟩, .inr ⟨[want], ⟨_, rfl⟩, HJ5.out⟩⟩
end Go.Proofs.Ytcjjdnfikccnmaa.Cons
