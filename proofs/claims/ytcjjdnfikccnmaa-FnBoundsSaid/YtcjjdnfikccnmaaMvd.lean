/- The sums of moves in a period: the model's MovedIn and the program's (past).moved, countBefore, MovedIn. -/
import Derived.Test.YtcjjdnfikccnmaaCons
import Derived.Test.YtcjjdnfikccnmaaLogS
namespace Go.Proofs.Ytcjjdnfikccnmaa.Mvd
open Go.RowKit Go.Shelf Go.BigFrame
open Go.Proofs.Ytcjjdnfikccnmaa.C1
open Go.Proofs.Ytcjjdnfikccnmaa.C2
open Go.Proofs.Ytcjjdnfikccnmaa.Smps
open Go.Proofs.Ytcjjdnfikccnmaa.Mem
open Go.Proofs.Ytcjjdnfikccnmaa.Ser
open Go.Proofs.Ytcjjdnfikccnmaa.Pl (one_read two_read)
open Go.Proofs.Ytcjjdnfikccnmaa.BhM
open Go.Proofs.Ytcjjdnfikccnmaa.BhI
open Go.Proofs.Ytcjjdnfikccnmaa.LogS
open Go.Proofs.Ytcjjdnfikccnmaa.LogI
open Go.Proofs.Ytcjjdnfikccnmaa.Itr
open Go.Proofs.Ytcjjdnfikccnmaa.Tail
open Go.Proofs.Ytcjjdnfikccnmaa.Win
open Go.Proofs.Ytcjjdnfikccnmaa.Ext
open Go.Proofs.Ytcjjdnfikccnmaa.Cons
attribute [local go_sem] Oper.semAt_some
set_option linter.unusedVariables false

def movedG (ms : List Pt) (now per : Int) : Bool := logV moveV ms && (tickV now && inV per 0 1000)
def mvR (ms : List Pt) (now per : Int) : Int := if movedG ms now per = true then movedR ms now per else 0
def mvF (ms : List Pt) (now per : Int) : Int := if movedG ms now per = true then movedF ms now per else 0
/-! ### The model's. -/
set_option maxHeartbeats 2000000 in
set_option maxRecDepth 20000 in
theorem spec_moved (ms : List Pt) (a : Option Addr) (cap : Nat) (now per : Int) (w : World) (h : Pts w a ms) (hm : ms.length ≤ 1048576) :
    Calls Try.prog 121 #[.slice a ms.length cap, .int .i64 now, .int .i64 per] w fun e w' => e = .returned (.tuple #[.int .i64 (mvR ms now per), .int .i64 (mvF ms now per)]) ∧ Below w.heap.size w w' := by
  have hsp := fun w h => spec_movesok ms a cap w h hm
  cases d1 : logV moveV ms
  · have HR : Hid (mvR ms now per = 0 ∧ mvF ms now per = 0) := by unfold mvR mvF movedG; rw [d1]; exact ⟨rfl, rfl⟩
    simp only [d1] at hsp
    have HSP := Lib.hid hsp
    have HH := Lib.hid h
    rw [HR.out.1, HR.out.2]
    clear hsp h d1
    go_enter Try.func121, Try.ntmps121
    go_wp2_with (go_at_call 112; refine (HSP.out _ HH.out).mono ?_; rintro e w2 ⟨rfl, hb⟩; have HB := Lib.hid hb; clear hb)
    go_ret2
    exact ⟨rfl, HB.out⟩
  · simp only [d1] at hsp
    have HSP := Lib.hid hsp
    have HH := Lib.hid h
    clear hsp h
    cases d2 : tickV now
    · have HR : Hid (mvR ms now per = 0 ∧ mvF ms now per = 0) := by unfold mvR mvF movedG; rw [d1, d2]; exact ⟨rfl, rfl⟩
      rw [HR.out.1, HR.out.2]
      clear d1
      go_enter Try.func121, Try.ntmps121
      go_wp2_with (first | (go_at_call 112; refine (HSP.out _ HH.out).mono ?_; rintro e w2 ⟨rfl, hb⟩; have HB := Lib.hid hb; clear hb) | (go_at_call 56; refine (spec_tick6 _ _).mono ?_; rw [d2]; rintro e w' ⟨rfl, rfl⟩))
      go_ret2
      exact ⟨rfl, HB.out⟩
    · cases d3 : inV per 0 1000
      · have HR : Hid (mvR ms now per = 0 ∧ mvF ms now per = 0) := by unfold mvR mvF movedG; rw [d1, d2, d3]; exact ⟨rfl, rfl⟩
        rw [HR.out.1, HR.out.2]
        clear d1
        go_enter Try.func121, Try.ntmps121
        go_wp2_with (first | (go_at_call 112; refine (HSP.out _ HH.out).mono ?_; rintro e w2 ⟨rfl, hb⟩; have HB := Lib.hid hb; clear hb) | (go_at_call 56; refine (spec_tick6 _ _).mono ?_; rw [d2]; rintro e w' ⟨rfl, rfl⟩) | (go_at_call 89; refine (spec_in6 _ _ _ _).mono ?_; rw [d3]; rintro e w' ⟨rfl, rfl⟩))
        go_ret2
        exact ⟨rfl, HB.out⟩
      · have HR : Hid (mvR ms now per = movedR ms now per ∧ mvF ms now per = movedF ms now per) := by unfold mvR mvF movedG; rw [d1, d2, d3]; exact ⟨rfl, rfl⟩
        have hl := (logV_yes d1).1
        have hnow : 0 ≤ now ∧ now ≤ 1000000000 := by simpa [tickV, inV_iff] using d2
        have hper : 0 ≤ per ∧ per ≤ 1000 := by simpa [inV_iff] using d3
        have D1 := Lib.hid d1
        rw [HR.out.1, HR.out.2]
        clear d1
        go_enter Try.func121, Try.ntmps121
        go_wp2_with (first | (go_at_call 112; refine (HSP.out _ HH.out).mono ?_; rintro e w2 ⟨rfl, hb⟩; have HB := Lib.hid hb; have HH2 := Lib.hid (HH.out.kept hb); clear hb) | (go_at_call 56; refine (spec_tick6 _ _).mono ?_; rw [d2]; rintro e w' ⟨rfl, rfl⟩) | (go_at_call 89; refine (spec_in6 _ _ _ _).mono ?_; rw [d3]; rintro e w' ⟨rfl, rfl⟩))
        clear d2 d3
        obtain ⟨b, off, ha, hbb, hcell⟩ := HH2.out.cells
        have Hc := Lib.hid hcell
        have Ha := Lib.hid ha
        clear hcell ha hbb
        go_loop [8, 9, 10] (fun r f i => ∃ (k : Nat) (rv fv : Int), k ≤ ms.length ∧ i = .int .i64 k ∧ r = .int .i64 rv ∧ f = .int .i64 fv ∧ Hid (rv = riseS (winL now per (ms.take k)) ∧ fv = fallS (winL now per (ms.take k))) ∧ 0 ≤ rv ∧ rv ≤ 200000 ∧ 0 ≤ fv ∧ fv ≤ 200000) (fun _ _ i => ms.length - (intOf i).toNat)
        case atStart => exact ⟨0, 0, 0, Nat.zero_le _, rfl, rfl, rfl, by simp [winL, riseS, fallS, Hid], by omega, by omega, by omega, by omega⟩
        case round =>
          obtain ⟨k, rv, fv, hk, rfl, rfl, rfl, HV, hr0, hr1, hf0, hf1⟩ := hrel
          by_cases hlt : k < ms.length
          · obtain rfl := Ha.out (by omega)
            obtain ⟨x, hx⟩ : ∃ x, ms[k] = x := ⟨_, rfl⟩
            have hq := Hc.out k hlt
            rw [hx] at hq
            obtain ⟨q0, q1⟩ := hq
            have hmv := move_bd (logV_mem D1.out ms[k] (List.getElem_mem hlt))
            rw [hx] at hmv
            obtain ⟨hx0, hx1, hx2, hx3⟩ := hmv
            have HB1 := Lib.hid (moved_bd D1.out now per (k + 1))
            have HIN : Hid (winB now per x = true → winL now per (ms.take (k + 1)) = winL now per (ms.take k) ++ [x]) := fun h => by rw [winL_in hlt (by rw [hx]; exact h), hx]
            have HOUT : Hid (winB now per x = false → winL now per (ms.take (k + 1)) = winL now per (ms.take k)) := fun h => winL_out hlt (by rw [hx]; exact h)
            clear hx
            by_cases e1 : x.tick ≤ now - per
            · have HN : Hid (rv = riseS (winL now per (ms.take (k + 1))) ∧ fv = fallS (winL now per (ms.take (k + 1)))) := by
                show _ ∧ _
                rw [HOUT.out (by unfold winB; simp; omega)]; exact HV.out
              go_wp2
              go_round
              case rel => exact ⟨k + 1, rv, fv, by omega, by go_num, rfl, rfl, HN, hr0, hr1, hf0, hf1⟩
              case measure => simp [intOf]; omega
            · by_cases e2 : now < x.tick
              · have HN : Hid (rv = riseS (winL now per (ms.take (k + 1))) ∧ fv = fallS (winL now per (ms.take (k + 1)))) := by
                  show _ ∧ _
                  rw [HOUT.out (by unfold winB; simp; omega)]; exact HV.out
                go_wp2
                go_round
                case rel => exact ⟨k + 1, rv, fv, by omega, by go_num, rfl, rfl, HN, hr0, hr1, hf0, hf1⟩
                case measure => simp [intOf]; omega
              · have HE := Lib.hid (HIN.out (by unfold winB; simp; omega))
                have hb1 := HB1.out
                rw [HE.out, riseS_snoc, fallS_snoc, ← HV.out.1, ← HV.out.2] at hb1
                by_cases e3 : 0 < x.val
                · have HN : Hid (rv + x.val = riseS (winL now per (ms.take (k + 1))) ∧ fv = fallS (winL now per (ms.take (k + 1)))) := by
                    show _ ∧ _
                    rw [HE.out, riseS_snoc, fallS_snoc, ← HV.out.1, ← HV.out.2]; omega
                  have hb2 : rv + x.val ≤ 200000 := by omega
                  clear hb1
                  go_wp2
                  go_round
                  case rel => exact ⟨k + 1, rv + x.val, fv, by omega, by go_num, rfl, rfl, HN, by omega, hb2, hf0, hf1⟩
                  case measure => simp [intOf]; omega
                · have HN : Hid (rv = riseS (winL now per (ms.take (k + 1))) ∧ fv - x.val = fallS (winL now per (ms.take (k + 1)))) := by
                    show _ ∧ _
                    rw [HE.out, riseS_snoc, fallS_snoc, ← HV.out.1, ← HV.out.2]; omega
                  have hb2 : fv - x.val ≤ 200000 := by omega
                  clear hb1
                  go_wp2
                  go_round
                  case rel => exact ⟨k + 1, rv, fv - x.val, by omega, by go_num, rfl, rfl, HN, hr0, hr1, by omega, hb2⟩
                  case measure => simp [intOf]; omega
          · obtain rfl : k = ms.length := by omega
            have HE : Hid (rv = movedR ms now per ∧ fv = movedF ms now per) := by
              have := HV.out
              rw [List.take_length] at this
              exact this
            obtain ⟨h1, h2⟩ := HE.out
            clear HV HE
            go_wp2
            go_ret2
            exact ⟨rfl, HB.out⟩
/-! ### The program's. -/
set_option maxRecDepth 100000 in
set_option maxHeartbeats 4000000 in
theorem impl_moved (ms : List Pt) (a : Option Addr) (cap : Nat) (now cnt per : Int) (hv : logV moveV ms = true) (hn : 0 ≤ now ∧ now ≤ 1000000000) (hs : 0 ≤ per ∧ per ≤ 1000) (w : World) (hp : Pts w a ms) :
    Calls Try.prog 155 #[.agg #[.slice a ms.length cap, .int .i64 now, .int .i64 cnt], .int .i64 per] w fun e w' => e = .returned (.tuple #[.int .i64 (movedR ms now per), .int .i64 (movedF ms now per)]) ∧ Below w.heap.size w w' := by
  refine (callsIn_wide (n := 3)).1 ?_
  have hl := (logV_yes hv).1
  have mixed : Try.prog.follows .mixedOrders = true := by kernel_rfl
  have hB0 : Below w.heap.size w (((w.alloc (.cells #[.slice a ms.length cap, .int .i64 now, .int .i64 cnt] 101)).alloc (.cells #[.int .i64 0] 3)).alloc (.cells #[.int .i64 0] 3)) := box3_below _ _ _ _
  have hz : (((w.alloc (.cells #[.slice a ms.length cap, .int .i64 now, .int .i64 cnt] 101)).alloc (.cells #[.int .i64 0] 3)).alloc (.cells #[.int .i64 0] 3)).heap.size = w.heap.size + 3 := by simp
  have k2 := Ser2.cells_new (w.alloc (.cells #[.slice a ms.length cap, .int .i64 now, .int .i64 cnt] 101)) #[.int .i64 0] 3
  have k3 := Ser2.cells_new ((w.alloc (.cells #[.slice a ms.length cap, .int .i64 now, .int .i64 cnt] 101)).alloc (.cells #[.int .i64 0] 3)) #[.int .i64 0] 3
  rw [World.size_alloc] at k2
  rw [World.size_alloc, World.size_alloc] at k3
  have K1 := Lib.hid (k2.kept (box_below _ #[.int .i64 0] 3))
  have K2 := Lib.hid k3
  have HOWN : Hid (∀ k, InBlock a ms.length k → ¬ (k = w.heap.size + 1 ∨ k = w.heap.size + 2)) := fun k ⟨hk, o, s, e⟩ h => by
    rcases hp with h1 | ⟨b, off, h1, h2, h3⟩
    · rw [h1] at hk; simp at hk
    · rw [h1] at e; cases e; omega
  have HP := Lib.hid (hp.kept hB0)
  have HB0 := Lib.hid hB0
  have HZ := Lib.hid hz
  have HV := Lib.hid hv
  clear k2 k3 hp hB0 hz hv
  refine callsIn_of_wp_marks Try.func155 rfl trivial ?_ rfl
  simp only [Try.ntmps155, List.size_toArray, List.length_cons, List.length_nil, Nat.reduceAdd, Nat.reduceSub, Array.replicate_succ, Array.replicate_zero, List.push_toArray, List.append_toArray, List.nil_append, List.cons_append]
  gi_wp2
  refine ⟨trivial, (within_move _ _ _ _ _ _ _).mono ?_⟩
  obtain ⟨W0, hW0⟩ : ∃ W0, (((w.alloc (.cells #[.slice a ms.length cap, .int .i64 now, .int .i64 cnt] 101)).alloc (.cells #[.int .i64 0] 3)).alloc (.cells #[.int .i64 0] 3)) = W0 := ⟨_, rfl⟩
  rw [hW0] at K1 K2 HP HB0 HZ ⊢
  clear hW0
  rintro e W4 ⟨rfl, hw4⟩
  obtain ⟨y0, y1, y2, hB4, hz4⟩ := three_boxes hw4
  have Y0 := Lib.hid y0
  have Y1 := Lib.hid y1
  have Y2 := Lib.hid y2
  have HZ4 : Hid (W4.heap.size = w.heap.size + 6) := by have := HZ.out; exact Lib.hid (by omega)
  have HZ3 := Lib.hid hz4
  have K14 := Lib.hid (K1.out.kept hB4)
  have K24 := Lib.hid (K2.out.kept hB4)
  have HP4 := Lib.hid (HP.out.kept hB4)
  have HB4 := Lib.hid (HB0.out.trans (hB4.mono HB0.out.size))
  have HLT : Hid (∀ b off, 0 < ms.length → a = some ⟨b, off, none⟩ → True) := fun _ _ _ _ => trivial
  clear y0 y1 y2 hB4 hz4 hw4
  gi_wp2
  have hblk : ∀ k, InBlock a ms.length k → k < W0.heap.size ∧ k < W4.heap.size := fun k ⟨hk, o, s, e⟩ => by
    have h1 := HP.out
    rcases h1 with h | ⟨b, off, h1, h2, h3⟩
    · rw [h] at hk; simp at hk
    · rw [h1] at e; cases e; exact ⟨h2, by have := HZ3.out; omega⟩
  have HBLK := Lib.hid hblk
  clear hblk
  refine range_law (gf := 186) (lb := #[.pointer (some ⟨W0.heap.size, 0, none⟩), .pointer (some ⟨W0.heap.size + 1, 0, none⟩), .pointer (some ⟨W0.heap.size + 2, 0, none⟩)]) (n := 3) rfl enters_move
    (iter_move ms a cap now per hn hs hl W0.heap.size (W0.heap.size + 1) (W0.heap.size + 2) W4 Y0.out.1 Y1.out.1 Y2.out.1 (cells_one Y0.out).1 (cells_one Y1.out).1 (cells_one Y2.out).1 HP4.out) (Below.refl _ W4)
    (fun k hk => by
      rcases hk with rfl | rfl | rfl | h
      · exact Y0.out.1
      · exact Y1.out.1
      · exact Y2.out.1
      · exact (HBLK.out k h).2) (fun _ => rfl)
    (fun k => k = w.heap.size + 1 ∨ k = w.heap.size + 2) (fun k hk => ⟨by have := HZ4.out; omega, fun h => by
      have := HZ.out
      rcases h with rfl | rfl | rfl | h
      · omega
      · omega
      · omega
      · exact HOWN.out k h hk⟩)
    (fun pre Wx => (CellsW Wx (w.heap.size + 1) [.int .i64 (riseS pre)] ∧ CellsW Wx (w.heap.size + 2) [.int .i64 (fallS pre)]) ∧ Below w.heap.size w Wx) (fun _ _ => False)
    (fun s A C h hb => ⟨⟨cells_dep h.1.1 hb (by have := HZ4.out; omega), cells_dep h.1.2 hb (by have := HZ4.out; omega)⟩, h.2.trans (hb.mono (by have := HZ4.out; omega))⟩) (fun _ _ _ h _ => h) ⟨⟨K14.out, K24.out⟩, HB4.out⟩
    (fun x a' Wx => ∃ Bx, W4.heap.size ≤ Bx ∧ CellsW Wx Bx [.int .i64 x.tick, .int .i64 x.val] ∧ a' = { tmps := #[.agg #[.slice a ms.length cap, .int .i64 now, .int .i64 cnt], .int .i64 per, .pointer (some ⟨w.heap.size, 0, none⟩), undef, .int .i64 0, .int .i64 0, .pointer (some ⟨w.heap.size + 1, 0, none⟩), .pointer (some ⟨w.heap.size + 1 + 1, 0, none⟩), .pointer (some ⟨Bx, 0, none⟩), .pointer (some ⟨w.heap.size, 0, none⟩), .slice a ms.length cap, .pointer (some ⟨w.heap.size, 1, none⟩), .int .i64 now, .int .i64 per, .func (.func 186) #[] #[.pointer (some ⟨W0.heap.size, 0, none⟩), .pointer (some ⟨W0.heap.size + 1, 0, none⟩), .pointer (some ⟨W0.heap.size + 2, 0, none⟩)], .agg #[.int .i64 x.tick, .int .i64 x.val], undef, undef, undef, undef, undef, undef, undef, undef, undef, undef, undef, undef, undef], defers := [] })
    (fun x a' A l r r' ⟨Bx, hB, h, e⟩ hl => ⟨Bx, hB, cells_put h (by simp) hl _, e⟩) ?assign ?body ?done ?stop
  case assign =>
    intro l' pre x Wx K hzW hI hK
    have HI := Lib.hid hI
    have HKK := Lib.hid hK
    clear hI hK
    gi_wp2
    refine HKK.out _ _ (sv_of_alloc Wx _) ⟨⟨HI.out.1.1.kept (box_below Wx _ _), HI.out.1.2.kept (box_below Wx _ _)⟩, HI.out.2.alloc HI.out.2.size _⟩ ⟨Wx.heap.size, by omega, Ser2.cells_new Wx _ _, rfl⟩
  case body =>
    rintro l' pre x a' Wx hzW ⟨⟨k1, k2⟩, hB⟩ ⟨Bx, hBx, kx, rfl⟩ hpre
    have hbd : (0 ≤ riseS pre ∧ riseS pre ≤ 200000 ∧ 0 ≤ fallS pre ∧ fallS pre ≤ 200000) ∧ -1000 ≤ x.val ∧ x.val ≤ 1000 := by
      obtain ⟨q, hq⟩ := hpre
      have hmem : ∀ p ∈ winL now per ms, -1000 ≤ p.val ∧ p.val ≤ 1000 := fun p hp => by have := move_bd (logV_mem HV.out p (winL_mem hp)); omega
      have h1 := sums_bd pre (fun p hp => hmem p (by rw [← hq]; simp [hp]))
      have h2 := hmem x (by rw [← hq]; simp)
      have h3 : pre.length ≤ (winL now per ms).length := by rw [← hq]; simp <;> omega
      have h4 := winL_len now per ms
      omega
    obtain ⟨⟨hr0, hr1, hf0, hf1⟩, hx0, hx1⟩ := hbd
    obtain ⟨c1, f1⟩ := cells_one k1
    obtain ⟨c2, f2⟩ := cells_one k2
    have cx := (kx.2 1 (by simp)).1
    simp at cx
    have HF : Hid (∀ u v : Int, u = riseS pre + max x.val 0 → v = fallS pre + max (-x.val) 0 → Sv (fun k => k = w.heap.size + 1 ∨ k = w.heap.size + 2) Wx ((Wx.setCell ⟨w.heap.size + 1, 0, none⟩ (.int .i64 u)).setCell ⟨w.heap.size + 2, 0, none⟩ (.int .i64 v)) ∧ (CellsW ((Wx.setCell ⟨w.heap.size + 1, 0, none⟩ (.int .i64 u)).setCell ⟨w.heap.size + 2, 0, none⟩ (.int .i64 v)) (w.heap.size + 1) [.int .i64 (riseS (pre ++ [x]))] ∧ CellsW ((Wx.setCell ⟨w.heap.size + 1, 0, none⟩ (.int .i64 u)).setCell ⟨w.heap.size + 2, 0, none⟩ (.int .i64 v)) (w.heap.size + 2) [.int .i64 (fallS (pre ++ [x]))]) ∧ Below w.heap.size w ((Wx.setCell ⟨w.heap.size + 1, 0, none⟩ (.int .i64 u)).setCell ⟨w.heap.size + 2, 0, none⟩ (.int .i64 v))) := fun u v hu hv => by
      refine ⟨((Sv.refl _ Wx).setCell (.inl rfl) 0 _).setCell (.inr rfl) 0 _, ⟨?_, ?_⟩, ?_⟩
      · rw [riseS_snoc, ← hu]; exact cells_off1 (cells_set1 k1 _) _ (by omega)
      · rw [fallS_snoc, ← hv]; exact cells_set1 (cells_off1 k2 _ (by omega)) _
      · exact (hB.setCell (p := ⟨w.heap.size + 1, 0, none⟩) (Nat.le_add_right w.heap.size 1) _).setCell (p := ⟨w.heap.size + 2, 0, none⟩) (Nat.le_add_right w.heap.size 2) _
    obtain ⟨rv, hrv⟩ : ∃ rv, riseS pre = rv := ⟨_, rfl⟩
    obtain ⟨fv, hfv⟩ : ∃ fv, fallS pre = fv := ⟨_, rfl⟩
    rw [hrv] at c1 hr0 hr1 HF
    rw [hfv] at c2 hf0 hf1 HF
    clear hrv hfv k1 k2 kx hB hpre
    have hway : (x.val < 0 ∧ ¬ -x.val < 0) ∨ (¬ x.val < 0 ∧ -x.val < 0) ∨ (¬ x.val < 0 ∧ ¬ -x.val < 0) := by omega
    rcases hway with ⟨h1, h2⟩ | ⟨h1, h2⟩ | ⟨h1, h2⟩
    all_goals
      gi_wp2
      exact HF.out _ _ (by first | omega | (split <;> omega)) (by first | omega | (split <;> omega))
  case done =>
    rintro Wx ⟨⟨k1, k2⟩, hB⟩ hK
    obtain ⟨c1, f1⟩ := cells_one k1
    obtain ⟨c2, f2⟩ := cells_one k2
    have HK := Lib.hid hK
    have HB := Lib.hid hB
    clear k1 k2 hB
    gi_wp2
    gi_region
    gi_wp2
    refine ⟨by simp, .inl ⟨_, _, rfl, run_takeDeferred (show Wx.drew.heap[W4.heap.size]? = _ from HK.out), ?_⟩⟩
    refine ⟨.tuple #[.int .i64 (movedR ms now per), .int .i64 (movedF ms now per)], ?_, rfl, ?_⟩
    · simp [results, Try.results155, go_sem, movedR, movedF]
    · exact (HB.out.trans (Below.refl _ _).drew).trans (putObj_below (by have := HZ4.out; omega) _)
  case stop =>
    rintro pre W _ h _
    exact h.elim
theorem impl_base (ms : List Pt) (a : Option Addr) (cap : Nat) (now cnt per : Int) (hv : logV moveV ms = true) (hn : 0 ≤ now ∧ now ≤ 1000000000) (hs : 0 ≤ per ∧ per ≤ 1000) (hc : 0 ≤ cnt ∧ cnt ≤ 1000) (w : World) (hp : Pts w a ms) :
    Calls Try.prog 118 #[.agg #[.slice a ms.length cap, .int .i64 now, .int .i64 cnt], .int .i64 per] w fun e w' => e = .returned (.int .i64 (baseV ms now cnt per)) ∧ Below w.heap.size w w' := by
  have HM := Lib.hid (fun w hp => impl_moved ms a cap now cnt per hv hn hs w hp)
  have hbd := movedRF_bd hv now per
  have HP := Lib.hid (hp.kept (box_below w #[.slice a ms.length cap, .int .i64 now, .int .i64 cnt] 101))
  clear hp hv
  unfold baseV
  obtain ⟨rv, hrv⟩ : ∃ rv, movedR ms now per = rv := ⟨_, rfl⟩
  obtain ⟨fv, hfv⟩ : ∃ fv, movedF ms now per = fv := ⟨_, rfl⟩
  rw [hrv, hfv] at hbd HM ⊢
  clear hrv hfv
  obtain ⟨h1, h2, h3, h4⟩ := hbd
  have hways : (cnt - rv + fv < 0 ∧ max (cnt - rv + fv) 0 = 0) ∨ (0 ≤ cnt - rv + fv ∧ max (cnt - rv + fv) 0 = cnt - rv + fv) := by omega
  rcases hways with ⟨h5, e⟩ | ⟨h5, e⟩
  all_goals
    rw [e]
    clear e
    go_enter Try.func118, Try.ntmps118
    go_wp2_with (go_at_call 155; refine (HM.out _ HP.out).mono ?_; rintro e w2 ⟨rfl, hb2⟩; obtain ⟨k0, hB, hz⟩ := one_read hb2; have HB2 := Lib.hid hB; obtain ⟨c2, f2⟩ := k0.2 2 (by simp); simp at c2; clear k0 hB hb2 hz)
    go_ret
    exact ⟨ret1I (by first | rfl | omega | (split <;> omega)), HB2.out⟩
end Go.Proofs.Ytcjjdnfikccnmaa.Mvd
