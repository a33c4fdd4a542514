/- AverageOf: the model's and the program's. -/
import Derived.Test.YtgmdfkmmbcpikaaGreatLat
import Derived.Maps.AppendAt
namespace Go.Proofs.YtgmdfkmmbcpikaaGreat.Avg
open Go.RowKit Go.Sort Go.BigFrame
open Go.Proofs.YtgmdfkmmbcpikaaGreat.C1
open Go.Proofs.YtgmdfkmmbcpikaaGreat.C2
open Go.Proofs.YtgmdfkmmbcpikaaGreat.Ints
open Go.Proofs.YtgmdfkmmbcpikaaGreat.C1L
open Go.Proofs.YtgmdfkmmbcpikaaGreat.Smps
open Go.Proofs.YtgmdfkmmbcpikaaGreat.Mem
open Go.Proofs.YtgmdfkmmbcpikaaGreat.Ser
open Go.Proofs.YtgmdfkmmbcpikaaGreat.Ser2
open Go.Proofs.YtgmdfkmmbcpikaaGreat.Key
open Go.Proofs.YtgmdfkmmbcpikaaGreat.Sto
open Go.Proofs.YtgmdfkmmbcpikaaGreat.StoL
open Go.Proofs.YtgmdfkmmbcpikaaGreat.Cnt
open Go.Proofs.YtgmdfkmmbcpikaaGreat.Ring
open Go.Proofs.YtgmdfkmmbcpikaaGreat.Find
open Go.Proofs.YtgmdfkmmbcpikaaGreat.Sof
open Go.Proofs.YtgmdfkmmbcpikaaGreat.Lat
set_option linter.unusedVariables false

theorem info_i : ∃ i, Tryz.prog.info? 3 = some i ∧ i.zero = some (.int .i64 0) ∧ i.size = 1 ∧ i.bytes = 8 := by
  have h : (Tryz.prog.info? 3).map (fun i => (i.zero, i.size, i.bytes)) = some (some (.int .i64 0), 1, 8) := by kernel_rfl
  obtain ⟨i, hi, hz⟩ := Option.map_eq_some_iff.1 h
  simp only [Prod.mk.injEq] at hz
  exact ⟨i, hi, hz.1, hz.2.1, hz.2.2⟩
def OwnI (w : World) (B : Nat) (v : Value) (xs : List Int) : Prop := w.ownsRow B 3 1 v xs.length (xs.map (Value.int .i64))
theorem OwnI.snoc {w : World} {B : Nat} {v : Value} {xs : List Int} {x : Int} (h : w.ownsRow B 3 1 v (xs.length + 1) (xs.map (Value.int .i64) ++ [.int .i64 x])) : OwnI w B v (xs ++ [x]) := by
  unfold OwnI
  rw [List.length_append, List.map_append]
  exact h
theorem OwnI.ints {w : World} {B : Nat} {v : Value} {xs : List Int} (h : OwnI w B v xs) : ∃ a cap, v = .slice a xs.length cap ∧ Ints w a xs := by
  have h' := h
  rcases h.2 with ⟨hv, h0⟩ | ⟨g, cap, cur, hv, r⟩
  · exact ⟨none, 0, by rw [hv, h0], .inl (List.length_eq_zero_iff.1 h0)⟩
  · subst hv
    exact ⟨_, cap, rfl, owned_ints h' rfl⟩
theorem new_rowI (w : World) : OwnI (w.alloc (.cells #[] 3)) w.heap.size (.slice (some ⟨w.heap.size, 0, none⟩) 0 0) [] := World.ownsRow_lit (e := 3) (size := 1) (base := w.heap.size) w #[] 0 (Nat.le_refl _) (by unfold maxLen; omega) rfl
theorem nil_rowI (w : World) (B : Nat) : OwnI w B (.slice none 0 0) [] := ⟨rfl, .inl ⟨rfl, rfl⟩⟩
theorem one_cell (w : World) (v : Value) (t : TypeId) : ∀ (j : Nat) (u : Value), [v][j]? = some u → (w.alloc (.cells #[v] t)).cell? ((⟨w.heap.size, 0, none⟩ : Addr).add j) = some u := by
  intro j u hj
  match j, hj with
  | 0, hj => simp at hj; subst hj; simp [Addr.add]
def inT (f t : Int) (p : Pt) : Bool := decide (f < p.tick) && decide (p.tick ≤ t)
def pick (f t : Int) (ps : List Pt) : List Int := (ps.filter (inT f t)).map Pt.val
theorem pick_yes {f t : Int} {ps : List Pt} {k : Nat} (hk : k < ps.length) (h : inT f t ps[k] = true) : pick f t (ps.take (k + 1)) = pick f t (ps.take k) ++ [ps[k].val] := by
  unfold pick
  rw [List.take_succ_eq_append_getElem hk, List.filter_append, List.map_append]
  simp [h]
theorem pick_no {f t : Int} {ps : List Pt} {k : Nat} (hk : k < ps.length) (h : inT f t ps[k] = false) : pick f t (ps.take (k + 1)) = pick f t (ps.take k) := by
  unfold pick
  rw [List.take_succ_eq_append_getElem hk, List.filter_append, List.map_append]
  simp [h]
theorem pick_len (f t : Int) (ps : List Pt) : (pick f t ps).length ≤ ps.length := by
  unfold pick
  rw [List.length_map]
  exact List.length_filter_le _ _
def ptsOf (xs : List Ser) (p m : ByteArray) : List Pt := match findV xs p m with
  | some s => s.pts
  | none => []
theorem ptsOf_some {xs : List Ser} {p m : ByteArray} {s : Ser} (h : findV xs p m = some s) : ptsOf xs p m = s.pts := by unfold ptsOf; rw [h]
theorem ptsOf_none {xs : List Ser} {p m : ByteArray} (h : findV xs p m = none) : ptsOf xs p m = [] := by unfold ptsOf; rw [h]
/-- The average asked for. -/
def avgL (xs : List Ser) (p m : ByteArray) (f t : Int) : List Int := pick f t (ptsOf xs p m)
theorem at2_far {w w' : World} {row : Option Nat} (hg : w.grownBy w' row) {b o : Nat} {p : Pt} (h : At2 w b o p) (hne : some b ≠ row) : At2 w' b o p := ⟨hg.cell h.1 hne, hg.cell h.2 hne⟩
set_option maxHeartbeats 2000000 in
set_option maxRecDepth 20000 in
theorem spec_avg (ls : List Sv) (a : Option Addr) (cap : Nat) (p m : ByteArray) (f t : Int) (w : World) (hwf : ∀ l ∈ ls, l.s.wf) (hpl : ∀ l ∈ ls, l.s.pts.length ≤ 1048576) (h : Srs w a ls) (hm : ls.length ≤ 1048576) :
    Calls Tryz.prog 133 #[.slice a ls.length cap, .string p, .string m, .int .i64 f, .int .i64 t] w fun e w' => e = .returned (.tuple #[.int .i64 (meanV (avgL (ls.map Sv.s) p m f t)), .bool (meanOk (avgL (ls.map Sv.s) p m f t))]) ∧ Below w.heap.size w w' := by
  have hbx : Below w.heap.size w (w.alloc (.cells #[] 3)) := (Below.refl _ _).alloc (Nat.le_refl _) _
  have HBX := Lib.hid hbx
  have HO0 := Lib.hid (new_rowI w)
  have hcon := spec_sof ls a cap p m (w.alloc (.cells #[] 3)) hwf hpl (h.kept hbx) hm
  have HCON := Lib.hid hcon
  obtain ⟨i0, hi0, hz0, hz1, hz2⟩ := info_i
  obtain ⟨zs, has⟩ : ∃ zs, avgL (ls.map Sv.s) p m f t = zs := ⟨_, rfl⟩
  rw [has]
  have HAS := Lib.hid has
  clear hcon hbx hwf hpl h has
  go_enter Tryz.func133, Tryz.ntmps133
  go_wp2_with fail
  refine HCON.out.mono ?_
  rintro e u1 ⟨hs, hb1⟩
  have HB1 := Lib.hid (HBX.out.trans (hb1.mono HBX.out.size))
  have HO1 := Lib.hid (HO0.out)
  have HOV : Hid (OwnI u1 w.heap.size (.slice (some ⟨w.heap.size, 0, none⟩) 0 0) []) := by
    obtain ⟨x1, x2⟩ := HO0.out
    refine ⟨x1, ?_⟩
    rcases x2 with x2 | ⟨g, cap, cur, hv, hg, hh, r⟩
    · exact .inl x2
    · exact .inr ⟨g, cap, cur, hv, hg, by rw [hb1.block g (Array.getElem?_eq_some_iff.1 hh).1]; exact hh, r⟩
  obtain ⟨ap, capp, ps, bb, rfl, hps, hcell⟩ : ∃ (ap : Option Addr) (capp : Nat) (ps : List Pt) (bb : Bool), e = .returned (.tuple #[.slice ap ps.length capp, .bool bb]) ∧ (pick f t ps = zs ∧ ps.length ≤ 1048576) ∧ (0 < ps.length → ∃ bp, ap = some ⟨bp, 0, none⟩ ∧ w.heap.size < bp ∧ bp < u1.heap.size ∧ ∀ (i : Nat) (hi : i < ps.length), At2 u1 bp (i * 2) ps[i]) := by
    rcases hs with ⟨hf, rfl⟩ | ⟨s, v, hf, hv, rfl, ho⟩
    · refine ⟨none, 0, [], false, rfl, ⟨?_, by simp⟩, fun h => absurd h (by simp)⟩
      rw [← HAS.out]
      unfold avgL
      rw [ptsOf_none hf]
    · have hone := (find_ok hf hv).pts.one
      have hmost := (find_ok hf hv).pts.most
      have hpk : pick f t s.pts = zs := by
        rw [← HAS.out]
        unfold avgL
        rw [ptsOf_some hf]
      rcases ho.2 with ⟨_, h0⟩ | ⟨g, cap', cur, hv2, hg, hh, _⟩
      · omega
      · refine ⟨some ⟨g, 0, none⟩, cap', s.pts, true, by rw [hv2], ⟨hpk, by omega⟩, fun _ => ⟨g, rfl, by (have := hg; simp at this; omega), (Array.getElem?_eq_some_iff.1 hh).1, fun i hi => ?_⟩⟩
        have ho2 := ho
        rw [hv2] at ho2
        exact ho2.at2 i hi
  obtain ⟨hps1, hps2⟩ := hps
  have HPS := Lib.hid hps1
  have HCL := Lib.hid hcell
  have HU := Lib.hid (hb1.size)
  clear hps1 hcell hs hb1 HCON
  go_wp2
  go_loopw [12, 15] (fun v i wr => ∃ k : Nat, k ≤ ps.length ∧ i = .int .i64 k ∧ Hid (OwnI wr w.heap.size v (pick f t (ps.take k))) ∧ Hid (Below w.heap.size w wr) ∧ Hid (0 < ps.length → ∃ bp, ap = some ⟨bp, 0, none⟩ ∧ bp < wr.heap.size ∧ v.ownBlock ≠ some bp ∧ ∀ (i : Nat) (hi : i < ps.length), At2 wr bp (i * 2) ps[i])) (fun _ i _ => ps.length - (intOf i).toNat)
  case atStart =>
    refine ⟨0, Nat.zero_le _, rfl, HOV.out, HB1.out, fun h => ?_⟩
    obtain ⟨bp, e1, e2, e3, e4⟩ := HCL.out h
    refine ⟨bp, e1, e3, ?_, e4⟩
    show some w.heap.size ≠ some bp
    intro e
    cases e
    omega
  case round =>
    obtain ⟨k, hk, rfl, HO, HB, HC⟩ := hrel
    by_cases hlt : k < ps.length
    · obtain ⟨bp, rfl, hbp, hne, hat⟩ := HC.out (by omega)
      obtain ⟨q0, q1⟩ := hat k hlt
      obtain ⟨x, hx⟩ : ∃ x, ps[k] = x := ⟨_, rfl⟩
      rw [hx] at q0 q1
      have HNE := Lib.hid hne
      have HAT := Lib.hid hat
      have HBP := Lib.hid hbp
      have HPY : Hid (inT f t x = true → pick f t (ps.take (k + 1)) = pick f t (ps.take k) ++ [x.val]) := fun h => by have := pick_yes (f := f) (t := t) hlt (by rw [hx]; exact h); rw [hx] at this; exact this
      have HPN : Hid (inT f t x = false → pick f t (ps.take (k + 1)) = pick f t (ps.take k)) := fun h => pick_no hlt (by rw [hx]; exact h)
      obtain ⟨ts, hts⟩ : ∃ ts, pick f t (ps.take k) = ts := ⟨_, rfl⟩
      have htl : ts.length ≤ 1048576 := by
        rw [← hts]
        have := pick_len f t (ps.take k)
        rw [List.length_take] at this
        omega
      rw [hts] at HO HPY HPN
      have hwr := HB.out.size
      clear hts hx hne hat
      by_cases c1 : f < x.tick
      · have d1 : decide (f < x.tick) = true := decide_eq_true c1
        by_cases c2 : x.tick ≤ t
        · have d2 : decide (x.tick ≤ t) = true := decide_eq_true c2
          have HIN : Hid (pick f t (ps.take (k + 1)) = ts ++ [x.val]) := HPY.out (by unfold inT; rw [d1, d2]; rfl)
          go_wp2_with (at_builtin; refine wpList_append_own_at _ rfl _ _ 58 rfl w.heap.size 3 i0 (.int .i64 0) 1 8 Tryz.underlying58 hi0 hz0 hz1 hz2 rfl (by decide) _ _ _ rfl (World.ownsRow.alloc HO.out _) ⟨wr.heap.size, 0, none⟩ 1 1 [.int .i64 x.val] rfl rfl ?e1 ?e2 ?e3 ?e4 ?e5 ?_)
          case e1 => exact one_cell _ _ _
          case e2 => first | rfl | (intro u hu; simp at hu; subst hu; rfl)
          case e3 => unfold maxLen; omega
          case e4 => omega
          case e5 => first | omega | (simp; omega)
          intro v' w8 hown' hgrow _ hob
          have HO8 : Hid (OwnI w8 w.heap.size v' (pick f t (ps.take (k + 1)))) := by rw [HIN.out]; exact OwnI.snoc hown'
          have hrow : ∀ g, Value.ownBlock _ = some g → w.heap.size ≤ g := fun g hg => (World.ownsRow.lt HO.out g hg).1
          have HB8 := Lib.hid ((HB.out.alloc HB.out.size _).grown hgrow (by have := HB.out.size; simp; omega) hrow)
          have hal : Below wr.heap.size wr (wr.alloc (.cells #[.int .i64 x.val] 3)) := (Below.refl _ _).alloc (Nat.le_refl _) _
          have HC8 : Hid (0 < ps.length → ∃ bp', (some ⟨bp, 0, none⟩ : Option Addr) = some ⟨bp', 0, none⟩ ∧ bp' < w8.heap.size ∧ v'.ownBlock ≠ some bp' ∧ ∀ (i : Nat) (hi : i < ps.length), At2 w8 bp' (i * 2) ps[i]) := fun _ => by
            refine ⟨bp, rfl, Nat.lt_of_lt_of_le HBP.out (Nat.le_trans hal.size hgrow.size), ?_, fun i hi => at2_far hgrow ((HAT.out i hi).kept hal HBP.out) HNE.out.symm⟩
            rcases hob with e | e
            · rw [e]; exact HNE.out
            · rw [e]
              intro e2
              cases e2
              have := HBP.out
              try simp at this
              try omega
          clear hown' hgrow hrow hob hal d1 d2 c1 c2
          go_wp2
          go_roundw
          case rel => exact ⟨k + 1, by omega, by go_num, HO8, HB8, HC8⟩
          case measure => simp [intOf]; omega
        · have d2 : decide (x.tick ≤ t) = false := decide_eq_false c2
          have HIN : Hid (pick f t (ps.take (k + 1)) = ts) := HPN.out (by unfold inT; rw [d1, d2]; rfl)
          rw [← HIN.out] at HO
          clear htl
          go_wp2
          go_roundw
          case rel => exact ⟨k + 1, by omega, by go_num, HO, HB, HC⟩
          case measure => simp [intOf]; omega
      · have d1 : decide (f < x.tick) = false := decide_eq_false c1
        have HIN : Hid (pick f t (ps.take (k + 1)) = ts) := HPN.out (by unfold inT; rw [d1]; rfl)
        rw [← HIN.out] at HO
        clear htl
        go_wp2
        go_roundw
        case rel => exact ⟨k + 1, by omega, by go_num, HO, HB, HC⟩
        case measure => simp [intOf]; omega
    · obtain rfl : k = ps.length := by omega
      have hO := HO.out
      rw [List.take_of_length_le (Nat.le_refl _), HPS.out] at hO
      have hal : zs.length ≤ 1048576 := by
        rw [← HPS.out]
        exact Nat.le_trans (pick_len f t ps) hps2
      obtain ⟨av, cv, rfl, hints⟩ := hO.ints
      have HI := Lib.hid hints
      clear hO hints HO HC
      go_wp2_with (go_at_call 163; refine (C1L.spec_mean zs av cv _ HI.out (by omega)).mono ?_; rintro e u4 ⟨rfl, rfl⟩)
      go_ret2
      exact ⟨rfl, HB.out⟩
set_option maxHeartbeats 2000000 in
set_option maxRecDepth 20000 in
theorem impl_avg (ls : List Sv) (a : Option Addr) (cap : Nat) (p m : ByteArray) (f t : Int) (w : World) (hwf : ∀ l ∈ ls, l.s.wf) (hpl : ∀ l ∈ ls, l.s.pts.length ≤ 1048576) (h : Srs w a ls) (hm : ls.length ≤ 1048576) :
    Calls Tryz.prog 216 #[.slice a ls.length cap, .string p, .string m, .int .i64 f, .int .i64 t] w fun e w' => e = .returned (.tuple #[.int .i64 (meanV (avgL (ls.map Sv.s) p m f t)), .bool (meanOk (avgL (ls.map Sv.s) p m f t))]) ∧ Below w.heap.size w w' := by
  have hcon := impl_find ls a cap p m w hwf hpl h hm
  have HCON := Lib.hid hcon
  obtain ⟨i0, hi0, hz0, hz1, hz2⟩ := info_i
  obtain ⟨zs, has⟩ : ∃ zs, avgL (ls.map Sv.s) p m f t = zs := ⟨_, rfl⟩
  rw [has]
  have HAS := Lib.hid has
  have HH := Lib.hid h
  have HPL := Lib.hid hpl
  clear hcon hwf hpl h has
  go_enter Tryz.func216, Tryz.ntmps216
  go_wp2_with fail
  refine HCON.out.mono ?_
  rintro e u1 ⟨hs, hb1⟩
  obtain ⟨ap, capp, ps, bb, rfl, hps, hcell⟩ : ∃ (ap : Option Addr) (capp : Nat) (ps : List Pt) (bb : Bool), e = .returned (.tuple #[.slice ap ps.length capp, .bool bb]) ∧ (pick f t ps = zs ∧ ps.length ≤ 1048576) ∧ Pts w ap ps := by
    rcases hs with ⟨hf, rfl⟩ | ⟨i, hi, hf, hv, rfl⟩
    · refine ⟨none, 0, [], false, rfl, ⟨?_, by simp⟩, .inl rfl⟩
      rw [← HAS.out]
      unfold avgL
      rw [ptsOf_none hf]
    · refine ⟨ls[i].a, ls[i].cap, ls[i].s.pts, true, rfl, ⟨?_, HPL.out _ (List.getElem_mem hi)⟩, ?_⟩
      · rw [← HAS.out]
        unfold avgL
        rw [ptsOf_some hf]
      · rcases HH.out with h | ⟨b, off, _, _, h⟩
        · subst h; simp at hi
        · exact (h i hi).2
  obtain ⟨hps1, hps2⟩ := hps
  obtain ⟨bp, op, hpa, hpb, hpc⟩ := hcell.cells
  have HPA := Lib.hid hpa
  have HPB := Lib.hid hpb
  have HPC := Lib.hid hpc
  have HPS := Lib.hid hps1
  have HB1 := Lib.hid hb1
  clear hps1 hcell hs hb1 HCON hpa hpb hpc
  go_wp2
  go_loopw [14, 26] (fun v i wr => ∃ k : Nat, k ≤ ps.length ∧ i = .int .i64 k ∧ Hid (OwnI wr w.heap.size v (pick f t (ps.take k))) ∧ Hid (Below w.heap.size w wr)) (fun _ i _ => ps.length - (intOf i).toNat)
  case atStart => exact ⟨0, Nat.zero_le _, rfl, nil_rowI u1 w.heap.size, HB1.out⟩
  case round =>
    obtain ⟨k, hk, rfl, HO, HB⟩ := hrel
    by_cases hlt : k < ps.length
    · obtain rfl := HPA.out (by omega)
      obtain ⟨q0, q1⟩ := (HPC.out k hlt).kept HB.out (HPB.out (by omega))
      obtain ⟨x, hx⟩ : ∃ x, ps[k] = x := ⟨_, rfl⟩
      rw [hx] at q0 q1
      have HPY : Hid (inT f t x = true → pick f t (ps.take (k + 1)) = pick f t (ps.take k) ++ [x.val]) := fun h => by have := pick_yes (f := f) (t := t) hlt (by rw [hx]; exact h); rw [hx] at this; exact this
      have HPN : Hid (inT f t x = false → pick f t (ps.take (k + 1)) = pick f t (ps.take k)) := fun h => pick_no hlt (by rw [hx]; exact h)
      obtain ⟨ts, hts⟩ : ∃ ts, pick f t (ps.take k) = ts := ⟨_, rfl⟩
      have htl : ts.length ≤ 1048576 := by
        rw [← hts]
        have := pick_len f t (ps.take k)
        rw [List.length_take] at this
        omega
      rw [hts] at HO HPY HPN
      have hbx := box_below wr #[.int .i64 x.tick, .int .i64 x.val] 123
      have HB0 := Lib.hid (HB.out.trans (hbx.mono HB.out.size))
      have HO0 : Hid (OwnI (wr.alloc (.cells #[.int .i64 x.tick, .int .i64 x.val] 123)) w.heap.size _ ts) := World.ownsRow.alloc HO.out _
      have hwr := HB0.out.size
      clear hts hx hbx
      by_cases c1 : f < x.tick
      · have d1 : decide (f < x.tick) = true := decide_eq_true c1
        by_cases c2 : x.tick ≤ t
        · have d2 : decide (x.tick ≤ t) = true := decide_eq_true c2
          have HIN : Hid (pick f t (ps.take (k + 1)) = ts ++ [x.val]) := HPY.out (by unfold inT; rw [d1, d2]; rfl)
          go_wp2_with (at_builtin; refine wpList_append_own_at _ rfl _ _ 58 rfl w.heap.size 3 i0 (.int .i64 0) 1 8 Tryz.underlying58 hi0 hz0 hz1 hz2 rfl (by decide) _ _ _ rfl (World.ownsRow.alloc HO0.out _) ⟨_, 0, none⟩ 1 1 [.int .i64 x.val] rfl rfl ?e1 ?e2 ?e3 ?e4 ?e5 ?_)
          case e2 => first | rfl | (intro u hu; simp at hu; subst hu; rfl)
          case e3 => unfold maxLen; omega
          case e4 => omega
          case e5 => first | omega | (simp at hwr ⊢; omega)
          intro v' w8 hown' hgrow _ hob
          have HO8 : Hid (OwnI w8 w.heap.size v' (pick f t (ps.take (k + 1)))) := by rw [HIN.out]; exact OwnI.snoc hown'
          have hrow : ∀ g, Value.ownBlock _ = some g → w.heap.size ≤ g := fun g hg => (World.ownsRow.lt HO0.out g hg).1
          have HB8 := Lib.hid ((HB0.out.alloc HB0.out.size _).grown hgrow (by simp at hwr ⊢; omega) hrow)
          clear hown' hgrow hrow hob d1 d2 c1 c2
          go_wp2
          go_roundw
          case rel => exact ⟨k + 1, by omega, by go_num, HO8, HB8⟩
          case measure => simp [intOf]; omega
        · have d2 : decide (x.tick ≤ t) = false := decide_eq_false c2
          have HIN : Hid (pick f t (ps.take (k + 1)) = ts) := HPN.out (by unfold inT; rw [d1, d2]; rfl)
          rw [← HIN.out] at HO0
          clear htl
          go_wp2
          go_roundw
          case rel => exact ⟨k + 1, by omega, by go_num, HO0, HB0⟩
          case measure => simp [intOf]; omega
      · have d1 : decide (f < x.tick) = false := decide_eq_false c1
        have HIN : Hid (pick f t (ps.take (k + 1)) = ts) := HPN.out (by unfold inT; rw [d1]; rfl)
        rw [← HIN.out] at HO0
        clear htl
        go_wp2
        go_roundw
        case rel => exact ⟨k + 1, by omega, by go_num, HO0, HB0⟩
        case measure => simp [intOf]; omega
    · obtain rfl : k = ps.length := by omega
      have hO := HO.out
      rw [List.take_of_length_le (Nat.le_refl _), HPS.out] at hO
      have hal : zs.length ≤ 1048576 := by
        rw [← HPS.out]
        exact Nat.le_trans (pick_len f t ps) hps2
      obtain ⟨av, cv, rfl, hints⟩ := hO.ints
      have HI := Lib.hid hints
      clear hO hints HO
      go_wp2_with (go_at_call 234; refine (C1L.impl_mean zs av cv _ HI.out (by omega)).mono ?_; rintro e u4 ⟨rfl, rfl⟩)
      go_ret2
      exact ⟨rfl, HB.out⟩
end Go.Proofs.YtgmdfkmmbcpikaaGreat.Avg
