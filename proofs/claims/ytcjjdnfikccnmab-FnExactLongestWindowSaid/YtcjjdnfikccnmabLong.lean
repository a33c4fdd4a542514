/- LongestWindow: both sides. -/
import Derived.Test.YtcjjdnfikccnmabSdI
import Derived.Test.YtcjjdnfikccnmabSdT
import Derived.Test.YtcjjdnfikccnmabSum
import Derived.BigQuiet
import Derived.Deep.RegionHeld3
namespace Go.Proofs.Ytcjjdnfikccnmab.Long
open Go.RowKit Go.Deep
open Go.Proofs.Ytcjjdnfikccnmab.C1
open Go.Proofs.Ytcjjdnfikccnmab.C2
open Go.Proofs.Ytcjjdnfikccnmab.Smps
open Go.Proofs.Ytcjjdnfikccnmab.Mem
open Go.Proofs.Ytcjjdnfikccnmab.Ser2 (cells_new)
open Go.Proofs.Ytcjjdnfikccnmab.Pl
open Go.Proofs.Ytcjjdnfikccnmab.BhM
open Go.Proofs.Ytcjjdnfikccnmab.SdS
open Go.Proofs.Ytcjjdnfikccnmab.SdI
open Go.Proofs.Ytcjjdnfikccnmab.SdT
open Go.Proofs.Ytcjjdnfikccnmab.Sum (OwnI)
set_option linter.unusedVariables false

def pesL (ps : List Pl) : List Int := ps.map (·.pe)
theorem pes_take {ps : List Pl} {k : Nat} {l : Pl} (h : k < ps.length) (hl : ps[k] = l) : pesL (ps.take (k + 1)) = pesL (ps.take k) ++ [l.pe] := by
  unfold pesL
  rw [List.take_succ_eq_append_getElem h, List.map_append, hl]
  rfl
theorem pes_len (ps : List Pl) : (pesL ps).length = ps.length := by simp [pesL]
def longS (s : Sd) : Int := mostF s.win (pesL s.ps)
def longV (b : Bh) : Int := if behV b = true then max (longS b.up) (longS b.dn) else -1
theorem mostF_max (l : List Int) : ∀ a b : Int, mostF (max a b) l = max a (mostF b l) := by
  induction l with
  | nil => intro a b; rfl
  | cons x r ih => intro a b; show mostF (max (max a b) x) r = max a (mostF (max b x) r); rw [← ih, Int.max_assoc]
theorem mostF_append (a : Int) (l r : List Int) : mostF a (l ++ r) = mostF (mostF a l) r := by simp [mostF]
theorem long_list (u d : Int) (us ds : List Int) : mostF u ([d] ++ us ++ ds) = max (mostF u us) (mostF d ds) := by
  rw [mostF_append, mostF_append]
  have e : mostF u [d] = max u d := rfl
  rw [e, Int.max_comm u d, mostF_max, Int.max_comm d, mostF_max]
theorem long_no {b : Bh} (h : behV b = false) : longV b = -1 := by unfold longV; rw [h]; rfl
theorem long_yes {b : Bh} (h : behV b = true) : longV b = max (longS b.up) (longS b.dn) := by unfold longV; rw [h]; rfl
set_option maxHeartbeats 1000000 in
theorem impl_longest (s : Sd) (a : Option Addr) (cap : Nat) (w : World) (h : Pls w a s.ps) (hm : s.ps.length ≤ 1048576) :
    Calls Try.prog 26 #[sdV s a cap] w fun e w' => e = .returned (.int .i64 (longS s)) ∧ Below w.heap.size w w' := by
  obtain ⟨b, off, ha, hb, hcell⟩ := h.cells
  unfold sdV
  have Hc := Lib.hid hcell
  have Ha := Lib.hid ha
  have Hb := Lib.hid hb
  have HB0 := Lib.hid (box_below w #[.slice a s.ps.length cap, .int .i64 s.sel, .int .i64 s.win] 41)
  clear h hcell ha hb
  go_enter Try.func26, Try.ntmps26
  go_wp2
  obtain ⟨w1, hw1⟩ : ∃ w1, w.alloc (.cells #[.slice a s.ps.length cap, .int .i64 s.sel, .int .i64 s.win] 41) = w1 := ⟨_, rfl⟩
  rw [hw1] at HB0 ⊢
  clear hw1
  go_loopw [3, 11] (fun m i wr => ∃ k : Nat, k ≤ s.ps.length ∧ i = .int .i64 k ∧ m = .int .i64 (mostF s.win (pesL (s.ps.take k))) ∧ Hid (Below w1.heap.size w1 wr)) (fun _ i _ => s.ps.length - (intOf i).toNat)
  case atStart => exact ⟨0, Nat.zero_le _, rfl, rfl, Below.refl _ _⟩
  case round =>
    obtain ⟨k, hk, rfl, rfl, HB⟩ := hrel
    by_cases hlt : k < s.ps.length
    · obtain rfl := Ha.out (by omega)
      obtain ⟨l, hl⟩ : ∃ l, s.ps[k] = l := ⟨_, rfl⟩
      have hbw := Hb.out (by omega)
      have hq := ((Hc.out k hlt).kept HB0.out hbw).kept HB.out (Nat.lt_of_lt_of_le hbw HB0.out.size)
      rw [hl] at hq
      obtain ⟨q0, q1, q2⟩ := hq
      have HN := Lib.hid (show mostF s.win (pesL (s.ps.take (k + 1))) = max (mostF s.win (pesL (s.ps.take k))) l.pe by rw [pes_take hlt hl, mostF_snoc])
      obtain ⟨m, hm'⟩ : ∃ m, mostF s.win (pesL (s.ps.take k)) = m := ⟨_, rfl⟩
      rw [hm'] at HN ⊢
      have HBX := Lib.hid (HB.out.alloc HB.out.size (.cells #[.int .i64 l.kd, .int .i64 l.va, .int .i64 l.pe] 65))
      clear hl hbw hm'
      by_cases hc : m < l.pe
      · have e : max m l.pe = l.pe := by omega
        rw [e] at HN
        go_wp2
        go_roundw
        case rel => exact ⟨k + 1, by omega, by go_num, int_eq HN.out.symm, HBX⟩
        case measure => simp [intOf]; omega
      · have e : max m l.pe = m := by omega
        rw [e] at HN
        go_wp2
        go_roundw
        case rel => exact ⟨k + 1, by omega, by go_num, int_eq HN.out.symm, HBX⟩
        case measure => simp [intOf]; omega
    · obtain rfl : k = s.ps.length := by omega
      rw [List.take_length]
      have HBZ := Lib.hid (HB0.out.trans (HB.out.mono HB0.out.size))
      go_wp2
      go_ret
      exact ⟨rfl, HBZ.out⟩
theorem long_form (b : Bh) (h : behV b = true) : mostF b.up.win ([b.dn.win] ++ pesL b.up.ps ++ pesL b.dn.ps) = longV b := by
  rw [long_yes h, long_list]
  rfl
def numsL (d : Int) (us ds : List Pl) : List Int := [d] ++ pesL us ++ pesL ds
theorem nums_up {d : Int} {us : List Pl} {k : Nat} {l : Pl} (h : k < us.length) (hl : us[k] = l) : numsL d (us.take (k + 1)) [] = numsL d (us.take k) [] ++ [l.pe] := by
  unfold numsL
  rw [pes_take h hl]
  simp [pesL]
theorem nums_dn {d : Int} {us ds : List Pl} {k : Nat} {l : Pl} (h : k < ds.length) (hl : ds[k] = l) : numsL d us (ds.take (k + 1)) = numsL d us (ds.take k) ++ [l.pe] := by
  unfold numsL
  rw [pes_take h hl]
  simp
theorem nums_len (d : Int) (us ds : List Pl) : (numsL d us ds).length = 1 + us.length + ds.length := by unfold numsL pesL; simp; omega
theorem most_take {u : Int} {xs : List Int} {k : Nat} {x : Int} (h : k < xs.length) (hx : xs[k] = x) : mostF u (xs.take (k + 1)) = max (mostF u (xs.take k)) x := by
  rw [List.take_succ_eq_append_getElem h, mostF_snoc, hx]
set_option maxHeartbeats 4000000 in
set_option maxRecDepth 20000 in
theorem spec_long (b : Bh) (a : Option Addr) (c : Nat) (a' : Option Addr) (c' : Nat) (w : World) (hu : Pls w a b.up.ps) (hd : Pls w a' b.dn.ps) (m1 : b.up.ps.length ≤ 1048576) (m2 : b.dn.ps.length ≤ 1048576) :
    Calls Try.prog 12 #[bhV b a c a' c'] w fun e w' => e = .returned (.int .i64 (longV b)) ∧ Below w.heap.size w w' := by
  have hsp := fun w h1 h2 => spec_behok b a c a' c' w h1 h2 (by omega) (by omega)
  obtain ⟨i0, hi, hz0, hz1, hz2⟩ := Sum.info_int
  unfold bhV at hsp ⊢
  have hbx := box_below w #[.slice a b.up.ps.length c, .int .i64 b.up.sel, .int .i64 b.up.win, .slice a' b.dn.ps.length c', .int .i64 b.dn.sel, .int .i64 b.dn.win, .int .i64 b.mn, .int .i64 b.mx] 43
  have HU := Lib.hid (hu.kept hbx)
  have HD := Lib.hid (hd.kept hbx)
  clear hu hd hbx
  cases d1 : behV b
  · rw [long_no d1]
    simp only [d1] at hsp
    have HSP := Lib.hid hsp
    clear hsp d1
    go_enter Try.func12, Try.ntmps12
    go_wp2_with (go_at_call 23; refine (HSP.out _ HU.out HD.out).mono ?_; rintro e w2 ⟨rfl, hb2⟩; obtain ⟨k0, hB, hz⟩ := one_read hb2; have HB2 := Lib.hid hB; have HK2 : Hid (CW8 w2 w.heap.size _ _ _ _ _ _ _ _) := k0; have HU2 := Lib.hid (HU.out.kept hb2); have HD2 := Lib.hid (HD.out.kept hb2); obtain ⟨⟨c0, c1, c2, c3, c4, c5, c6, c7⟩, -⟩ := HK2.out.get; clear k0 hB hb2 hz)
    go_ret
    exact ⟨rfl, HB2.out⟩
  · have HF := Lib.hid (long_form b d1)
    simp only [d1] at hsp
    have HSP := Lib.hid hsp
    obtain ⟨V, hV⟩ : ∃ V, longV b = V := ⟨_, rfl⟩
    rw [hV] at HF ⊢
    clear hsp d1 hV
    go_enter Try.func12, Try.ntmps12
    go_wp2_with (go_at_call 23; refine (HSP.out _ HU.out HD.out).mono ?_; rintro e w2 ⟨rfl, hb2⟩; obtain ⟨k0, hB, hz⟩ := one_read hb2; have HB2 := Lib.hid hB; have HK2 : Hid (CW8 w2 w.heap.size _ _ _ _ _ _ _ _) := k0; have HU2 := Lib.hid (HU.out.kept hb2); have HD2 := Lib.hid (HD.out.kept hb2); obtain ⟨⟨c0, c1, c2, c3, c4, c5, c6, c7⟩, -⟩ := HK2.out.get; clear k0 hB hb2 hz)
    clear c0 c1 c2 c3 c4 c5 c6 c7 HU HD HSP
    have hst : OwnI (w2.alloc (.cells #[.int .i64 b.dn.win] 3)) w2.heap.size (.slice (some ⟨w2.heap.size, 0, none⟩) 1 1) [b.dn.win] := World.ownsRow_lit (e := 3) (size := 1) (base := w2.heap.size) w2 #[.int .i64 b.dn.win] 1 (Nat.le_refl _) (by unfold maxLen; omega) rfl
    have hal : Below w2.heap.size w2 (w2.alloc (.cells #[.int .i64 b.dn.win] 3)) := (Below.refl _ _).alloc (Nat.le_refl _) _
    have HO3 := Lib.hid hst
    have HS3 := Lib.hid hal
    clear hst hal
    obtain ⟨w3, hw3⟩ : ∃ w3, w2.alloc (.cells #[.int .i64 b.dn.win] 3) = w3 := ⟨_, rfl⟩
    rw [hw3] at HO3 HS3 ⊢
    clear hw3
    go_loopw [4, 5] (fun v i wr => ∃ k : Nat, k ≤ b.up.ps.length ∧ i = .int .i64 k ∧ Hid (OwnI wr w2.heap.size v (numsL b.dn.win (b.up.ps.take k) [])) ∧ Hid (Below w2.heap.size w2 wr)) (fun _ i _ => b.up.ps.length - (intOf i).toNat)
    case atStart => exact ⟨0, Nat.zero_le _, rfl, HO3.out, HS3.out⟩
    case round =>
      clear HO3 HS3
      obtain ⟨k, hk, rfl, HO, HB⟩ := hrel
      by_cases hlt : k < b.up.ps.length
      · obtain ⟨⟨c0, -⟩, -⟩ := (HK2.out.kept HB.out).get
        obtain ⟨bb, off, ha, hbb, hcell⟩ := HU2.out.cells
        obtain rfl := ha (by omega)
        obtain ⟨l, hl⟩ : ∃ l, b.up.ps[k] = l := ⟨_, rfl⟩
        have hq := (hcell k hlt).kept HB.out (hbb (by omega))
        rw [hl] at hq
        obtain ⟨q0, q1, q2⟩ := hq
        have HN := Lib.hid (nums_up (d := b.dn.win) hlt hl)
        have hys : (numsL b.dn.win (b.up.ps.take k) []).length ≤ 3145728 := by rw [nums_len]; simp; omega
        obtain ⟨ys, hye⟩ : ∃ ys, numsL b.dn.win (b.up.ps.take k) [] = ys := ⟨_, rfl⟩
        rw [hye] at HO HN hys
        have HY := Lib.hid hys
        clear ha hbb hcell hl hye hys
        go_wp2_with (at_builtin; refine wpList_append_own _ rfl _ _ 63 rfl w2.heap.size 3 i0 (.int .i64 0) 1 8 Try.underlying63 hi hz0 hz1 hz2 rfl (by decide) _ _ _ rfl (World.ownsRow.alloc HO.out _) ⟨wr.heap.size, 0, none⟩ 1 1 [.int .i64 l.pe] rfl rfl ?e1 ?e2 ?e3 ?e4 ?e5 ?_)
        case e1 => exact Sum.one_cell _ _ _
        case e2 => first | rfl | (intro u hu; simp at hu; subst hu; rfl)
        case e3 => have := HY.out; unfold maxLen; omega
        case e4 => have := HY.out; omega
        case e5 => have := HB.out.size; first | omega | (simp; omega)
        intro v' w8 hown' hgrow _
        have HO8 := Lib.hid (OwnI.snoc hown')
        have hrow : ∀ g, Value.ownBlock _ = some g → w2.heap.size ≤ g := fun g hg => (World.ownsRow.lt HO.out g hg).1
        have HB8 := Lib.hid ((HB.out.alloc HB.out.size _).grown hgrow (by have := HB.out.size; simp; omega) hrow)
        clear hown' hgrow hrow HO HB
        go_wp2
        go_roundw
        case rel => exact ⟨k + 1, by omega, by go_num, by rw [HN.out]; exact HO8, HB8⟩
        case measure => simp [intOf]; omega
      · obtain rfl : k = b.up.ps.length := by omega
        rw [List.take_length] at HO
        obtain ⟨⟨c0, -⟩, -⟩ := (HK2.out.kept HB.out).get
        have HO4 := HO
        have HB4 := HB
        clear HO HB
        go_wp2
        go_loopw [4, 6] (fun v i wr => ∃ k : Nat, k ≤ b.dn.ps.length ∧ i = .int .i64 k ∧ Hid (OwnI wr w2.heap.size v (numsL b.dn.win b.up.ps (b.dn.ps.take k))) ∧ Hid (Below w2.heap.size w2 wr)) (fun _ i _ => b.dn.ps.length - (intOf i).toNat)
        case atStart => exact ⟨0, Nat.zero_le _, rfl, by rw [show numsL b.dn.win b.up.ps (b.dn.ps.take 0) = numsL b.dn.win b.up.ps [] from rfl]; exact HO4, HB4⟩
        case round =>
          clear HO4 HB4 c0
          obtain ⟨k, hk, rfl, HO, HB⟩ := hrel
          by_cases hlt : k < b.dn.ps.length
          · obtain ⟨⟨-, -, -, c3, -⟩, -⟩ := (HK2.out.kept HB.out).get
            obtain ⟨bb, off, ha, hbb, hcell⟩ := HD2.out.cells
            obtain rfl := ha (by omega)
            obtain ⟨l, hl⟩ : ∃ l, b.dn.ps[k] = l := ⟨_, rfl⟩
            have hq := (hcell k hlt).kept HB.out (hbb (by omega))
            rw [hl] at hq
            obtain ⟨q0, q1, q2⟩ := hq
            have HN := Lib.hid (nums_dn (d := b.dn.win) (us := b.up.ps) hlt hl)
            have hys : (numsL b.dn.win b.up.ps (b.dn.ps.take k)).length ≤ 3145728 := by rw [nums_len]; simp; omega
            obtain ⟨ys, hye⟩ : ∃ ys, numsL b.dn.win b.up.ps (b.dn.ps.take k) = ys := ⟨_, rfl⟩
            rw [hye] at HO HN hys
            have HY := Lib.hid hys
            clear ha hbb hcell hl hye hys
            go_wp2_with (at_builtin; refine wpList_append_own _ rfl _ _ 63 rfl w2.heap.size 3 i0 (.int .i64 0) 1 8 Try.underlying63 hi hz0 hz1 hz2 rfl (by decide) _ _ _ rfl (World.ownsRow.alloc HO.out _) ⟨wr.heap.size, 0, none⟩ 1 1 [.int .i64 l.pe] rfl rfl ?e1 ?e2 ?e3 ?e4 ?e5 ?_)
            case e1 => exact Sum.one_cell _ _ _
            case e2 => first | rfl | (intro u hu; simp at hu; subst hu; rfl)
            case e3 => have := HY.out; unfold maxLen; omega
            case e4 => have := HY.out; omega
            case e5 => have := HB.out.size; first | omega | (simp; omega)
            intro v' w8 hown' hgrow _
            have HO8 := Lib.hid (OwnI.snoc hown')
            have hrow : ∀ g, Value.ownBlock _ = some g → w2.heap.size ≤ g := fun g hg => (World.ownsRow.lt HO.out g hg).1
            have HB8 := Lib.hid ((HB.out.alloc HB.out.size _).grown hgrow (by have := HB.out.size; simp; omega) hrow)
            clear hown' hgrow hrow HO HB
            go_wp2
            go_roundw
            case rel => exact ⟨k + 1, by omega, by go_num, by rw [HN.out]; exact HO8, HB8⟩
            case measure => simp [intOf]; omega
          · obtain rfl : k = b.dn.ps.length := by omega
            rw [List.take_length] at HO
            have hys : (numsL b.dn.win b.up.ps b.dn.ps).length ≤ 3145728 := by rw [nums_len]; omega
            have HF2 : Hid (mostF b.up.win (numsL b.dn.win b.up.ps b.dn.ps) = V) := HF
            obtain ⟨ys, hye⟩ : ∃ ys, numsL b.dn.win b.up.ps b.dn.ps = ys := ⟨_, rfl⟩
            rw [hye] at HO hys HF2
            obtain ⟨g, cap2, rfl, hI⟩ := HO.out.ints
            obtain ⟨bb, off, hc⟩ := C1L.Ints.cells hI
            have HZ := Lib.hid (HB2.out.trans (HB.out.mono HB2.out.size))
            obtain ⟨⟨-, c1, c2, c3, -⟩, -⟩ := (HK2.out.kept HB.out).get
            clear hye HO HB hI HF
            go_wp2
            go_loop [3, 7] (fun m i => ∃ k : Nat, k ≤ ys.length ∧ i = .int .i64 k ∧ m = .int .i64 (mostF b.up.win (ys.take k))) (fun _ i => ys.length - (intOf i).toNat)
            case atStart => exact ⟨0, Nat.zero_le _, rfl, rfl⟩
            case round =>
              obtain ⟨k, hk, rfl, rfl⟩ := hrel
              by_cases hlt : k < ys.length
              · obtain rfl := hc.1 (by omega)
                have hx := hc.2 k hlt
                obtain ⟨x, hxx⟩ : ∃ x, ys[k] = x := ⟨_, rfl⟩
                rw [hxx] at hx
                have HN := Lib.hid (most_take (u := b.up.win) hlt hxx)
                obtain ⟨m, hm⟩ : ∃ m, mostF b.up.win (ys.take k) = m := ⟨_, rfl⟩
                rw [hm] at HN ⊢
                clear hc hxx hm
                by_cases hmx : m < x
                · have e : max m x = x := by omega
                  rw [e] at HN
                  go_wp2
                  go_round
                  case rel => exact ⟨k + 1, by omega, by go_num, by rw [HN.out]⟩
                  case measure => simp [intOf]; omega
                · have e : max m x = m := by omega
                  rw [e] at HN
                  go_wp2
                  go_round
                  case rel => exact ⟨k + 1, by omega, by go_num, by rw [HN.out]⟩
                  case measure => simp [intOf]; omega
              · obtain rfl : k = ys.length := by omega
                rw [List.take_length, HF2.out]
                clear hc
                go_wp2
                go_ret
                exact ⟨rfl, HZ.out⟩
theorem impl_long (b : Bh) (a : Option Addr) (c : Nat) (a' : Option Addr) (c' : Nat) (w : World) (hu : Pls w a b.up.ps) (hd : Pls w a' b.dn.ps) (m1 : b.up.ps.length ≤ 1048576) (m2 : b.dn.ps.length ≤ 1048576) :
    Calls Try.prog 14 #[bhV b a c a' c'] w fun e w' => e = .returned (.int .i64 (longV b)) ∧ Below w.heap.size w w' := by
  have hsp := fun w h1 h2 => impl_behok b a c a' c' w h1 h2 (by omega) (by omega)
  have mixed : Try.prog.follows .mixedOrders = true := by kernel_rfl
  unfold bhV at hsp ⊢
  have hbx := box_below w #[.slice a b.up.ps.length c, .int .i64 b.up.sel, .int .i64 b.up.win, .slice a' b.dn.ps.length c', .int .i64 b.dn.sel, .int .i64 b.dn.win, .int .i64 b.mn, .int .i64 b.mx] 43
  have HU := Lib.hid (hu.kept hbx)
  have HD := Lib.hid (hd.kept hbx)
  clear hu hd hbx
  cases d1 : behV b
  · rw [long_no d1]
    simp only [d1] at hsp
    have HSP := Lib.hid hsp
    clear hsp d1
    go_enter Try.func14, Try.ntmps14
    go_wp2_with (go_at_call 25; refine (HSP.out _ HU.out HD.out).mono ?_; rintro e w2 ⟨rfl, hb2⟩; obtain ⟨k0, hB, hz⟩ := one_read hb2; have HB2 := Lib.hid hB; have HK2 : Hid (CW8 w2 w.heap.size _ _ _ _ _ _ _ _) := k0; have HU2 := Lib.hid (HU.out.kept hb2); have HD2 := Lib.hid (HD.out.kept hb2); obtain ⟨⟨c0, c1, c2, c3, c4, c5, c6, c7⟩, -⟩ := HK2.out.get; clear k0 hB hb2 hz)
    go_ret
    exact ⟨rfl, HB2.out⟩
  · rw [long_yes d1]
    simp only [d1] at hsp
    have HSP := Lib.hid hsp
    clear hsp d1
    have hl1 := fun W h => impl_longest b.up a c W h m1
    have hl2 := fun W h => impl_longest b.dn a' c' W h m2
    obtain ⟨x, hx⟩ : ∃ x, longS b.up = x := ⟨_, rfl⟩
    obtain ⟨y, hy⟩ : ∃ y, longS b.dn = y := ⟨_, rfl⟩
    unfold sdV at hl1 hl2
    rw [hx] at hl1 ⊢
    rw [hy] at hl2 ⊢
    have HL1 := Lib.hid hl1
    have HL2 := Lib.hid hl2
    clear hl1 hl2 hx hy
    go_enter Try.func14, Try.ntmps14
    go_wp2_with (go_at_call 25; refine (HSP.out _ HU.out HD.out).mono ?_; rintro e w2 ⟨rfl, hb2⟩; obtain ⟨k0, hB, hz⟩ := one_read hb2; have HB2 := Lib.hid hB; have HK2 : Hid (CW8 w2 w.heap.size _ _ _ _ _ _ _ _) := k0; have HU2 := Lib.hid (HU.out.kept hb2); have HD2 := Lib.hid (HD.out.kept hb2); obtain ⟨⟨c0, c1, c2, c3, c4, c5, c6, c7⟩, -⟩ := HK2.out.get; clear k0 hB hb2 hz)
    have k0 := later_cell HK2.out.1 (HK2.out.2 0 (by simp)).1
    have k1 := later_cell HK2.out.1 (HK2.out.2 1 (by simp)).1
    have k2 := later_cell HK2.out.1 (HK2.out.2 2 (by simp)).1
    have k3 := later_cell HK2.out.1 (HK2.out.2 3 (by simp)).1
    have k4 := later_cell HK2.out.1 (HK2.out.2 4 (by simp)).1
    have k5 := later_cell HK2.out.1 (HK2.out.2 5 (by simp)).1
    simp only [List.getElem_cons_zero, List.getElem_cons_succ] at k0 k1 k2 k3 k4 k5
    have Q1 := Lib.hid (fun q : Later w2 => HL1.out q.u (HU2.out.kept q.h))
    have Q2 := Lib.hid (fun q : Later w2 => HL2.out q.u (HD2.out.kept q.h))
    clear c0 c1 c2 c3 c4 c5 c6 c7
    by_cases hxy : x < y
    all_goals
      refine region_later mixed (by kernel_rfl) ?_
      repeat (go_big_quiet_step (first | (go_at_call_of 26 (Value.int IntKind.i64 b.up.win); exact later_call (Q1.out _)) | (go_at_call_of 26 (Value.int IntKind.i64 b.dn.win); exact later_call (Q2.out _))))
      refine wpQuiet_nil ?_
      intro w4 hw'
      obtain ⟨⟨_, hw4⟩, rfl⟩ := hw'
      have HB4 := Lib.hid (HB2.out.trans (hw4.mono HB2.out.size))
      clear hw4 k0 k1 k2 k3 k4 k5
      go_wp2
      go_ret
      exact ⟨ret1I (by omega), HB4.out⟩
end Go.Proofs.Ytcjjdnfikccnmab.Long
