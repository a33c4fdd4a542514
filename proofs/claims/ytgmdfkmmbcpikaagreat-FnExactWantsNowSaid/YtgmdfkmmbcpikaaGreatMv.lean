/- Slices of moves (rows of two integers, as points lie): sizes, copies, comparisons of equals. -/
import Derived.Test.YtgmdfkmmbcpikaaGreatSer2
namespace Go.Proofs.YtgmdfkmmbcpikaaGreat.Mv
open Go.RowKit Go.Deep
open Go.ChangeShapes Go.WideShapes
open Go.Proofs.YtgmdfkmmbcpikaaGreat.C1
open Go.Proofs.YtgmdfkmmbcpikaaGreat.C2
open Go.Proofs.YtgmdfkmmbcpikaaGreat.Smps
open Go.Proofs.YtgmdfkmmbcpikaaGreat.Mem
open Go.Proofs.YtgmdfkmmbcpikaaGreat.Ser
open Go.Proofs.YtgmdfkmmbcpikaaGreat.Ser2 (encP_len zeroP take_set fill_len gf_set2 Off off_lt at2_grown)
set_option linter.unusedVariables false

theorem sz_points (n : Nat) (a : Option Addr) (cap : Nat) (hn : n ≤ 9223372036854775807) (left : Int) (h0 : 0 ≤ left) (h1 : left ≤ 1048576) (w : World) :
    Calls Tryz.prog 23 #[.slice a n cap, .int .i64 left] w fun e w' => e = .returned (.int .i64 (if left < n then -1 else left - n)) ∧ w' = w := by
  by_cases a1 : left < n
  · rw [if_pos a1]
    go_enter Tryz.func23, Tryz.ntmps23
    go_wp2
    go_ret
    exact ⟨rfl, rfl⟩
  · rw [if_neg a1]
    go_enter Tryz.func23, Tryz.ntmps23
    go_wp2
    go_ret
    exact ⟨ret1I (by first | rfl | omega), rfl⟩
def OwnP (w : World) (B : Nat) (v : Value) (ps : List Pt) : Prop := w.ownsRow B 72 2 v ps.length (gf encP ps)
theorem OwnP.len {w : World} {B n cap : Nat} {a : Option Addr} {ps : List Pt} (h : OwnP w B (.slice a n cap) ps) : n = ps.length := by
  rcases h.2 with ⟨hv, h0⟩ | ⟨g, cap', cur, hv, hg, hh, _⟩
  · cases hv; exact h0.symm
  · cases hv; rfl
theorem OwnP.at2 {w : World} {B g n cap : Nat} {ps : List Pt} (h : OwnP w B (.slice (some ⟨g, 0, none⟩) n cap) ps) (i : Nat) (hi : i < ps.length) : At2 w g (i * 2) ps[i] := by
  obtain rfl := h.len
  have hc : ∀ j, j < 2 → w.cell? ⟨g, i * 2 + j, none⟩ = (encP ps[i])[j]? := fun j hj => by
    have := World.ownsRow.cellAt h (i * 2 + j) (by omega)
    rw [this, gf_get encP 2 encP_len ps i j hi hj]
  exact ⟨hc 0 (by omega), hc 1 (by omega)⟩
theorem OwnP.frozen {w : World} {B g n cap : Nat} {ps : List Pt} (h : OwnP w B (.slice (some ⟨g, 0, none⟩) n cap) ps) (j : Nat) : w.frozen? ⟨g, j, none⟩ = false := by
  obtain rfl := h.len
  exact World.ownsRow.frozenAt h j
theorem OwnP.pts {w : World} {B n cap : Nat} {a : Option Addr} {ps : List Pt} (h : OwnP w B (.slice a n cap) ps) : Pts w a ps := by
  have h' : w.ownsRow B 72 2 (.slice a n cap) ps.length (gf encP ps) := h
  rcases h.2 with ⟨hv, h0⟩ | ⟨g, cap', cur, hv, hg, hh, _⟩
  · exact .inl (List.length_eq_zero_iff.1 h0)
  · cases hv
    exact .inr ⟨g, 0, rfl, (Array.getElem?_eq_some_iff.1 hh).1, fun i hi => by rw [Nat.zero_add]; exact OwnP.at2 h' i hi⟩
theorem OwnP.kept {w w' : World} {B : Nat} {v : Value} {ps : List Pt} (h : OwnP w B v ps) (hb : Below w.heap.size w w') : OwnP w' B v ps := by
  obtain ⟨h1, h2⟩ := h
  refine ⟨h1, ?_⟩
  rcases h2 with h2 | ⟨g, cap, cur, hv, hg, hh, r⟩
  · exact .inl h2
  · exact .inr ⟨g, cap, cur, hv, hg, by rw [hb.block g (Array.getElem?_eq_some_iff.1 hh).1]; exact hh, r⟩
theorem OwnP.off {w w' : World} {B n cap g : Nat} {a : Option Addr} {ps : List Pt} (h : OwnP w B (.slice a n cap) ps) (ho : Only g w w') (hg : Off g a) : OwnP w' B (.slice a n cap) ps := by
  obtain ⟨h1, h2⟩ := h
  refine ⟨h1, ?_⟩
  rcases h2 with h2 | ⟨g', cap, cur, hv, hg', hh, r⟩
  · exact .inl h2
  · cases hv
    exact .inr ⟨g', cap, cur, rfl, hg', by rw [ho.block g' (Array.getElem?_eq_some_iff.1 hh).1 (hg _ _ _ rfl)]; exact hh, r⟩
theorem OwnP.lt {w : World} {B n cap b o : Nat} {s} {ps : List Pt} (h : OwnP w B (.slice (some ⟨b, o, s⟩) n cap) ps) : B ≤ b ∧ b < w.heap.size := by
  rcases h.2 with ⟨hv, h0⟩ | ⟨g, cap', cur, hv, hg, hh, _⟩
  · cases hv
  · cases hv
    exact ⟨hg, (Array.getElem?_eq_some_iff.1 hh).1⟩
theorem to_point (p : Pt) (w : World) :
    Calls Tryz.prog 75 #[ptV p] w fun e w' => e = .returned (ptV p) ∧ Below w.heap.size w w' := by
  unfold ptV
  go_enter Tryz.func75, Tryz.ntmps75
  go_wp2
  exact bodyPost_ret (v := .agg #[.int .i64 p.tick, .int .i64 p.val]) (by simp [results, Tryz.results75, go_sem]) rfl ⟨rfl, box3_below _ _ _ _⟩
theorem info_pt : (Tryz.prog.info? 72).map (fun i => (i.zero, i.size, i.bytes)) = some (some (ptV zeroP), 2, 16) := by kernel_rfl
theorem make_pts (n : Nat) (hn : n ≤ 1048576) : ∀ w : World, (Instr.makeSlice 52 (.int .i64 (n : Int)) (.int .i64 (n : Int))).run Tryz.prog w = .ok (.slice (some ⟨w.heap.size, 0, none⟩) n n) (w.alloc (.cells (madeCells (ptV zeroP).cells (n * 2)) 72)) := by
  obtain ⟨i, hi, hzz⟩ := Option.map_eq_some_iff.1 info_pt
  simp only [Prod.mk.injEq] at hzz
  obtain ⟨hz, hs, hby⟩ := hzz
  have := fun w : World => run_make (P := Tryz.prog) w 52 72 i (ptV zeroP) Tryz.underlying52 hi hz .i64 .i64 (n : Int) (n : Int) (by omega) (by omega) (by rw [hby]; omega) (by omega)
  intro w
  rw [this w, hs]
  simp
theorem made_pts (n : Nat) (hn : n ≤ 1048576) (w : World) : OwnP (w.alloc (.cells (madeCells (ptV zeroP).cells (n * 2)) 72)) w.heap.size (.slice (some ⟨w.heap.size, 0, none⟩) n n) (List.replicate n zeroP) := by
  unfold OwnP
  rw [List.length_replicate, ← made_gf encP 2 encP_len (by omega) zeroP n]
  exact World.ownsRow_lit (e := 72) (size := 2) (base := w.heap.size) w (madeCells (ptV zeroP).cells (n * 2)) n (Nat.le_refl _) (by unfold maxLen; omega) (by rw [size_madeCells])
theorem OwnP.put {w : World} {B g n cap : Nat} {ps : List Pt} (h : OwnP w B (.slice (some ⟨g, 0, none⟩) n cap) ps) (k : Nat) (hk : k < ps.length) (p : Pt) :
    OwnP ((w.setCell ⟨g, k * 2, none⟩ (.int .i64 p.tick)).setCell ⟨g, k * 2 + 1, none⟩ (.int .i64 p.val)) B (.slice (some ⟨g, 0, none⟩) n cap) (ps.set k p) := by
  obtain rfl := h.len
  have h1 := (World.ownsRow.stored h (k * 2) (.int .i64 p.tick)).1
  have h2 := (World.ownsRow.stored h1 (k * 2 + 1) (.int .i64 p.val)).1
  rw [gf_set2 ps k p hk] at h2
  unfold OwnP
  rw [List.length_set]
  exact h2
set_option maxHeartbeats 1000000 in
theorem to_points (ps : List Pt) (a : Option Addr) (cap : Nat) (w : World) (h : Pts w a ps) (hm : ps.length ≤ 1048576) :
    Calls Tryz.prog 36 #[.slice a ps.length cap] w fun e w' => ∃ g, e = .returned (.slice (some ⟨g, 0, none⟩) ps.length ps.length) ∧ OwnP w' w.heap.size (.slice (some ⟨g, 0, none⟩) ps.length ps.length) ps ∧ Below w.heap.size w w' := by
  obtain ⟨b, off, ha, hb, hcell⟩ := h.cells
  have hmk := make_pts ps.length hm
  have hmade : OwnP (w.alloc (.cells (madeCells (ptV zeroP).cells (ps.length * 2)) 72)) w.heap.size (.slice (some ⟨w.heap.size, 0, none⟩) ps.length ps.length) (ps.take 0 ++ List.replicate (ps.length - 0) zeroP) := by
    have := made_pts ps.length hm w
    simpa using this
  have hbel : Below w.heap.size w (w.alloc (.cells (madeCells (ptV zeroP).cells (ps.length * 2)) 72)) := (Below.refl _ _).alloc (Nat.le_refl _) _
  have Hm := Lib.hid hmade
  have Hc := Lib.hid hcell
  have Ha := Lib.hid ha
  have Hb := Lib.hid hb
  clear hmade hcell ha hb h
  generalize hM : madeCells (ptV zeroP).cells (ps.length * 2) = M at hmk hbel Hm
  go_enter Tryz.func36, Tryz.ntmps36
  go_wp2
  go_loopw [4] (fun i wr => ∃ k : Nat, k ≤ ps.length ∧ i = .int .i64 k ∧ OwnP wr w.heap.size (.slice (some ⟨w.heap.size, 0, none⟩) ps.length ps.length) (ps.take k ++ List.replicate (ps.length - k) zeroP) ∧ Below w.heap.size w wr)
    (fun i _ => ps.length - (intOf i).toNat)
  case atStart => exact ⟨0, Nat.zero_le _, rfl, Hm.out, hbel⟩
  case round =>
    clear hmk hbel
    obtain ⟨k, hk, rfl, hown, hbw⟩ := hrel
    by_cases hlt : k < ps.length
    · obtain rfl := Ha.out (by omega)
      obtain ⟨q0, q1⟩ := (Hc.out k hlt).kept hbw (Hb.out (by omega))
      have HB := Lib.hid hbw
      have HO := Lib.hid hown
      clear hbw hown
      have hxl := fill_len ps zeroP k hk
      go_wp2_with (go_at_call 75; refine (to_point ps[k] _).mono ?_; unfold ptV; rintro e w2 ⟨rfl, hb2⟩; obtain ⟨p0, p1⟩ := (HO.out.kept hb2).at2 k (by omega); have f0 := (HO.out.kept hb2).frozen (k * 2); have f1 := (HO.out.kept hb2).frozen (k * 2 + 1))
      have HO2 := Lib.hid ((HO.out.kept hb2).put k (by omega) ps[k])
      have HB2 := Lib.hid (((HB.out.trans (hb2.mono HB.out.size)).setCell (p := ⟨w.heap.size, k * 2, none⟩) (Nat.le_refl w.heap.size) (.int .i64 ps[k].tick)).setCell (p := ⟨w.heap.size, k * 2 + 1, none⟩) (Nat.le_refl w.heap.size) (.int .i64 ps[k].val))
      have hso := take_set ps zeroP k hlt
      go_roundw
      case rel => exact ⟨k + 1, by omega, by go_num, by rw [← hso]; exact HO2.out, HB2.out⟩
      case measure => simp [intOf]; omega
    · obtain rfl : k = ps.length := by omega
      have HO : Hid (OwnP wr w.heap.size (.slice (some ⟨w.heap.size, 0, none⟩) ps.length ps.length) ps) := by
        show OwnP wr w.heap.size (.slice (some ⟨w.heap.size, 0, none⟩) ps.length ps.length) ps
        simpa using hown
      have HB := Lib.hid hbw
      clear hown hbw
      go_wp2
      go_ret
      exact ⟨w.heap.size, rfl, HO.out, HB.out⟩

theorem OwnP.mono {w : World} {B B' : Nat} {v : Value} {ps : List Pt} (h : OwnP w B v ps) (hB : B' ≤ B) : OwnP w B' v ps := by
  obtain ⟨h1, h2⟩ := h
  refine ⟨h1, ?_⟩
  rcases h2 with h2 | ⟨g, cap, cur, hv, hg, r⟩
  · exact .inl h2
  · exact .inr ⟨g, cap, cur, hv, by omega, r⟩
theorem OwnP.set {w : World} {B n cap c j : Nat} {a : Option Addr} {ps : List Pt} (h : OwnP w B (.slice a n cap) ps) (u : Value) (hg : Off c a) : OwnP (w.setCell ⟨c, j, none⟩ u) B (.slice a n cap) ps := h.off ((Only.refl c w).setCell j u) hg
theorem eq_point_g (p : Pt) (w : World) :
    Calls Tryz.prog 99 #[ptV p, ptV p] w fun e w' => e = .returned (.bool true) ∧ ∃ q os', w' = Go.Sort.grow (w.drewN q) os' := by
  unfold ptV
  go_enter Tryz.func99, Tryz.ntmps99
  go_wp2
  go_ret
  exact ⟨rfl, 0, _, grown2 _ _ _⟩
theorem eq_point (p : Pt) (w : World) : Calls Tryz.prog 99 #[ptV p, ptV p] w fun e w' => e = .returned (.bool true) ∧ Below w.heap.size w w' :=
  (eq_point_g p w).mono fun e w' ⟨he, q, os, hw⟩ => ⟨he, by rw [hw]; exact below_grow (Below.refl _ _) (Nat.le_refl _) q os⟩
theorem eq_points (ps : List Pt) (a a' : Option Addr) (cap cap' : Nat) (w : World) (h : Pts w a ps) (h' : Pts w a' ps) (hm : ps.length ≤ 1048576) :
    Calls Tryz.prog 46 #[.slice a ps.length cap, .slice a' ps.length cap'] w fun e w' => e = .returned (.bool true) ∧ Below w.heap.size w w' := by
  obtain ⟨b, off, ha, hb, hcell⟩ := h.cells
  obtain ⟨b', off', ha', hb', hcell'⟩ := h'.cells
  have Hc := Lib.hid hcell
  have Ha := Lib.hid ha
  have Hb := Lib.hid hb
  have Hc' := Lib.hid hcell'
  have Ha' := Lib.hid ha'
  have Hb' := Lib.hid hb'
  clear hcell ha hb hcell' ha' hb' h h'
  go_enter Tryz.func46, Tryz.ntmps46
  go_wp2
  go_loopw [5] (fun i wr => ∃ k : Nat, k ≤ ps.length ∧ i = .int .i64 k ∧ Hid (Below w.heap.size w wr)) (fun i _ => ps.length - (intOf i).toNat)
  case atStart => exact ⟨0, Nat.zero_le _, rfl, Below.refl _ _⟩
  case round =>
    obtain ⟨k, hk, rfl, HB⟩ := hrel
    by_cases hlt : k < ps.length
    · obtain rfl := Ha.out (by omega)
      obtain rfl := Ha'.out (by omega)
      have hbb := Nat.lt_of_lt_of_le (Hb.out (by omega)) HB.out.size
      have hbb' := Nat.lt_of_lt_of_le (Hb'.out (by omega)) HB.out.size
      obtain ⟨q0, q1⟩ := at2_grown ((Hc.out k hlt).kept HB.out (Hb.out (by omega))) hbb
      obtain ⟨p0, p1⟩ := at2_grown ((Hc'.out k hlt).kept HB.out (Hb'.out (by omega))) hbb'
      clear hbb hbb'
      have hcall : ∀ n' os', Calls Tryz.prog 99 #[.agg #[.int .i64 ps[k].tick, .int .i64 ps[k].val], .agg #[.int .i64 ps[k].tick, .int .i64 ps[k].val]] (Go.Sort.grow (wr.drewN n') os') _ := fun n' os' => eq_point_g ps[k] _
      have mixed : Tryz.prog.follows .mixedOrders = true := by kernel_rfl
      go_wp2_with fail
      go_quiet_grown (first | (go_at_call 99; refine Calls.grown_of (hcall _ _)))
      have HB2 := Lib.hid (below_grow HB.out HB.out.size nq osq)
      clear hcall q0 q1 p0 p1
      go_wp2
      go_roundw
      case rel => exact ⟨k + 1, by omega, by go_num, HB2⟩
      case measure => simp [intOf]; omega
    · obtain rfl : k = ps.length := by omega
      go_wp2
      go_ret
      exact ⟨rfl, HB.out⟩
end Go.Proofs.YtgmdfkmmbcpikaaGreat.Mv
