/- Slices of notes (rows of two integers, as points lie): sizes, copies, comparisons of equals. -/
import Derived.Test.YtgmdfkmmbcpikaaGreatSer2
namespace Go.Proofs.YtgmdfkmmbcpikaaGreat.Nt
open Go.RowKit Go.Deep
open Go.ChangeShapes Go.WideShapes
open Go.Proofs.YtgmdfkmmbcpikaaGreat.C1
open Go.Proofs.YtgmdfkmmbcpikaaGreat.C2
open Go.Proofs.YtgmdfkmmbcpikaaGreat.Smps
open Go.Proofs.YtgmdfkmmbcpikaaGreat.Mem
open Go.Proofs.YtgmdfkmmbcpikaaGreat.Ser
open Go.Proofs.YtgmdfkmmbcpikaaGreat.Ser2 (encP_len zeroP take_set fill_len gf_set2 Off off_lt at2_grown)
set_option linter.unusedVariables false

theorem sz_points (n : Nat) (a : Option Addr) (cap : Nat) (hn : n ≤ 9223372036854775807) (left : Int) (h0 : 0 ≤ left) (h1 : left ≤ 1048576) (w : World) :
    Calls Tryz.prog 22 #[.slice a n cap, .int .i64 left] w fun e w' => e = .returned (.int .i64 (if left < n then -1 else left - n)) ∧ w' = w := by
  by_cases a1 : left < n
  · rw [if_pos a1]
    go_enter Tryz.func22, Tryz.ntmps22
    go_wp2
    go_ret
    exact ⟨rfl, rfl⟩
  · rw [if_neg a1]
    go_enter Tryz.func22, Tryz.ntmps22
    go_wp2
    go_ret
    exact ⟨ret1I (by first | rfl | omega), rfl⟩
def OwnP (w : World) (B : Nat) (v : Value) (ps : List Pt) : Prop := w.ownsRow B 70 2 v ps.length (gf encP ps)
theorem OwnP.len {w : World} {B n cap : Nat} {a : Option Addr} {ps : List Pt} (h : OwnP w B (.slice a n cap) ps) : n = ps.length := by
  rcases h.2 with ⟨hv, h0⟩ | ⟨g, cap', cur, hv, hg, hh, _⟩
  · cases hv; exact h0.symm
  · cases hv; rfl
theorem OwnP.at2 {w : World} {B g n cap : Nat} {ps : List Pt} (h : OwnP w B (.slice (some ⟨g, 0, none⟩) n cap) ps) (i : Nat) (hi : i < ps.length) : At2 w g (i * 2) ps[i] := by
  obtain rfl := h.len
  have hc : ∀ j, j < 2 → w.cell? ⟨g, i * 2 + j, none⟩ = (encP ps[i])[j]? := fun j hj => by
    have := World.ownsRow.cellAt h (i * 2 + j) (by omega)
    rw [this, gf_get encP 2 encP_len ps i j hi hj]
  exact ⟨hc 0 (by omega), hc 1 (by omega)⟩
theorem OwnP.frozen {w : World} {B g n cap : Nat} {ps : List Pt} (h : OwnP w B (.slice (some ⟨g, 0, none⟩) n cap) ps) (j : Nat) : w.frozen? ⟨g, j, none⟩ = false := by
  obtain rfl := h.len
  exact World.ownsRow.frozenAt h j
theorem OwnP.pts {w : World} {B n cap : Nat} {a : Option Addr} {ps : List Pt} (h : OwnP w B (.slice a n cap) ps) : Pts w a ps := by
  have h' : w.ownsRow B 70 2 (.slice a n cap) ps.length (gf encP ps) := h
  rcases h.2 with ⟨hv, h0⟩ | ⟨g, cap', cur, hv, hg, hh, _⟩
  · exact .inl (List.length_eq_zero_iff.1 h0)
  · cases hv
    exact .inr ⟨g, 0, rfl, (Array.getElem?_eq_some_iff.1 hh).1, fun i hi => by rw [Nat.zero_add]; exact OwnP.at2 h' i hi⟩
theorem OwnP.kept {w w' : World} {B : Nat} {v : Value} {ps : List Pt} (h : OwnP w B v ps) (hb : Below w.heap.size w w') : OwnP w' B v ps := by
  obtain ⟨h1, h2⟩ := h
  refine ⟨h1, ?_⟩
  rcases h2 with h2 | ⟨g, cap, cur, hv, hg, hh, r⟩
  · exact .inl h2
  · exact .inr ⟨g, cap, cur, hv, hg, by rw [hb.block g (Array.getElem?_eq_some_iff.1 hh).1]; exact hh, r⟩
theorem OwnP.off {w w' : World} {B n cap g : Nat} {a : Option Addr} {ps : List Pt} (h : OwnP w B (.slice a n cap) ps) (ho : Only g w w') (hg : Off g a) : OwnP w' B (.slice a n cap) ps := by
  obtain ⟨h1, h2⟩ := h
  refine ⟨h1, ?_⟩
  rcases h2 with h2 | ⟨g', cap, cur, hv, hg', hh, r⟩
  · exact .inl h2
  · cases hv
    exact .inr ⟨g', cap, cur, rfl, hg', by rw [ho.block g' (Array.getElem?_eq_some_iff.1 hh).1 (hg _ _ _ rfl)]; exact hh, r⟩
theorem OwnP.lt {w : World} {B n cap b o : Nat} {s} {ps : List Pt} (h : OwnP w B (.slice (some ⟨b, o, s⟩) n cap) ps) : B ≤ b ∧ b < w.heap.size := by
  rcases h.2 with ⟨hv, h0⟩ | ⟨g, cap', cur, hv, hg, hh, _⟩
  · cases hv
  · cases hv
    exact ⟨hg, (Array.getElem?_eq_some_iff.1 hh).1⟩
theorem to_point (p : Pt) (w : World) :
    Calls Tryz.prog 74 #[ptV p] w fun e w' => e = .returned (ptV p) ∧ Below w.heap.size w w' := by
  unfold ptV
  go_enter Tryz.func74, Tryz.ntmps74
  go_wp2
  exact bodyPost_ret (v := .agg #[.int .i64 p.tick, .int .i64 p.val]) (by simp [results, Tryz.results74, go_sem]) rfl ⟨rfl, box3_below _ _ _ _⟩
theorem info_pt : (Tryz.prog.info? 70).map (fun i => (i.zero, i.size, i.bytes)) = some (some (ptV zeroP), 2, 16) := by kernel_rfl
theorem make_pts (n : Nat) (hn : n ≤ 1048576) : ∀ w : World, (Instr.makeSlice 51 (.int .i64 (n : Int)) (.int .i64 (n : Int))).run Tryz.prog w = .ok (.slice (some ⟨w.heap.size, 0, none⟩) n n) (w.alloc (.cells (madeCells (ptV zeroP).cells (n * 2)) 70)) := by
  obtain ⟨i, hi, hzz⟩ := Option.map_eq_some_iff.1 info_pt
  simp only [Prod.mk.injEq] at hzz
  obtain ⟨hz, hs, hby⟩ := hzz
  have := fun w : World => run_make (P := Tryz.prog) w 51 70 i (ptV zeroP) Tryz.underlying51 hi hz .i64 .i64 (n : Int) (n : Int) (by omega) (by omega) (by rw [hby]; omega) (by omega)
  intro w
  rw [this w, hs]
  simp
theorem made_pts (n : Nat) (hn : n ≤ 1048576) (w : World) : OwnP (w.alloc (.cells (madeCells (ptV zeroP).cells (n * 2)) 70)) w.heap.size (.slice (some ⟨w.heap.size, 0, none⟩) n n) (List.replicate n zeroP) := by
  unfold OwnP
  rw [List.length_replicate, ← made_gf encP 2 encP_len (by omega) zeroP n]
  exact World.ownsRow_lit (e := 70) (size := 2) (base := w.heap.size) w (madeCells (ptV zeroP).cells (n * 2)) n (Nat.le_refl _) (by unfold maxLen; omega) (by rw [size_madeCells])
theorem OwnP.put {w : World} {B g n cap : Nat} {ps : List Pt} (h : OwnP w B (.slice (some ⟨g, 0, none⟩) n cap) ps) (k : Nat) (hk : k < ps.length) (p : Pt) :
    OwnP ((w.setCell ⟨g, k * 2, none⟩ (.int .i64 p.tick)).setCell ⟨g, k * 2 + 1, none⟩ (.int .i64 p.val)) B (.slice (some ⟨g, 0, none⟩) n cap) (ps.set k p) := by
  obtain rfl := h.len
  have h1 := (World.ownsRow.stored h (k * 2) (.int .i64 p.tick)).1
  have h2 := (World.ownsRow.stored h1 (k * 2 + 1) (.int .i64 p.val)).1
  rw [gf_set2 ps k p hk] at h2
  unfold OwnP
  rw [List.length_set]
  exact h2
set_option maxHeartbeats 1000000 in
theorem to_points (ps : List Pt) (a : Option Addr) (cap : Nat) (w : World) (h : Pts w a ps) (hm : ps.length ≤ 1048576) :
    Calls Tryz.prog 35 #[.slice a ps.length cap] w fun e w' => ∃ g, e = .returned (.slice (some ⟨g, 0, none⟩) ps.length ps.length) ∧ OwnP w' w.heap.size (.slice (some ⟨g, 0, none⟩) ps.length ps.length) ps ∧ Below w.heap.size w w' := by
  obtain ⟨b, off, ha, hb, hcell⟩ := h.cells
  have hmk := make_pts ps.length hm
  have hmade : OwnP (w.alloc (.cells (madeCells (ptV zeroP).cells (ps.length * 2)) 70)) w.heap.size (.slice (some ⟨w.heap.size, 0, none⟩) ps.length ps.length) (ps.take 0 ++ List.replicate (ps.length - 0) zeroP) := by
    have := made_pts ps.length hm w
    simpa using this
  have hbel : Below w.heap.size w (w.alloc (.cells (madeCells (ptV zeroP).cells (ps.length * 2)) 70)) := (Below.refl _ _).alloc (Nat.le_refl _) _
  have Hm := Lib.hid hmade
  have Hc := Lib.hid hcell
  have Ha := Lib.hid ha
  have Hb := Lib.hid hb
  clear hmade hcell ha hb h
  generalize hM : madeCells (ptV zeroP).cells (ps.length * 2) = M at hmk hbel Hm
  go_enter Tryz.func35, Tryz.ntmps35
  go_wp2
  go_loopw [4] (fun i wr => ∃ k : Nat, k ≤ ps.length ∧ i = .int .i64 k ∧ OwnP wr w.heap.size (.slice (some ⟨w.heap.size, 0, none⟩) ps.length ps.length) (ps.take k ++ List.replicate (ps.length - k) zeroP) ∧ Below w.heap.size w wr)
    (fun i _ => ps.length - (intOf i).toNat)
  case atStart => exact ⟨0, Nat.zero_le _, rfl, Hm.out, hbel⟩
  case round =>
    clear hmk hbel
    obtain ⟨k, hk, rfl, hown, hbw⟩ := hrel
    by_cases hlt : k < ps.length
    · obtain rfl := Ha.out (by omega)
      obtain ⟨q0, q1⟩ := (Hc.out k hlt).kept hbw (Hb.out (by omega))
      have HB := Lib.hid hbw
      have HO := Lib.hid hown
      clear hbw hown
      have hxl := fill_len ps zeroP k hk
      go_wp2_with (go_at_call 74; refine (to_point ps[k] _).mono ?_; unfold ptV; rintro e w2 ⟨rfl, hb2⟩; obtain ⟨p0, p1⟩ := (HO.out.kept hb2).at2 k (by omega); have f0 := (HO.out.kept hb2).frozen (k * 2); have f1 := (HO.out.kept hb2).frozen (k * 2 + 1))
      have HO2 := Lib.hid ((HO.out.kept hb2).put k (by omega) ps[k])
      have HB2 := Lib.hid (((HB.out.trans (hb2.mono HB.out.size)).setCell (p := ⟨w.heap.size, k * 2, none⟩) (Nat.le_refl w.heap.size) (.int .i64 ps[k].tick)).setCell (p := ⟨w.heap.size, k * 2 + 1, none⟩) (Nat.le_refl w.heap.size) (.int .i64 ps[k].val))
      have hso := take_set ps zeroP k hlt
      go_roundw
      case rel => exact ⟨k + 1, by omega, by go_num, by rw [← hso]; exact HO2.out, HB2.out⟩
      case measure => simp [intOf]; omega
    · obtain rfl : k = ps.length := by omega
      have HO : Hid (OwnP wr w.heap.size (.slice (some ⟨w.heap.size, 0, none⟩) ps.length ps.length) ps) := by
        show OwnP wr w.heap.size (.slice (some ⟨w.heap.size, 0, none⟩) ps.length ps.length) ps
        simpa using hown
      have HB := Lib.hid hbw
      clear hown hbw
      go_wp2
      go_ret
      exact ⟨w.heap.size, rfl, HO.out, HB.out⟩

theorem OwnP.mono {w : World} {B B' : Nat} {v : Value} {ps : List Pt} (h : OwnP w B v ps) (hB : B' ≤ B) : OwnP w B' v ps := by
  obtain ⟨h1, h2⟩ := h
  refine ⟨h1, ?_⟩
  rcases h2 with h2 | ⟨g, cap, cur, hv, hg, r⟩
  · exact .inl h2
  · exact .inr ⟨g, cap, cur, hv, by omega, r⟩
theorem OwnP.set {w : World} {B n cap c j : Nat} {a : Option Addr} {ps : List Pt} (h : OwnP w B (.slice a n cap) ps) (u : Value) (hg : Off c a) : OwnP (w.setCell ⟨c, j, none⟩ u) B (.slice a n cap) ps := h.off ((Only.refl c w).setCell j u) hg
theorem eq_point_g (p : Pt) (w : World) :
    Calls Tryz.prog 98 #[ptV p, ptV p] w fun e w' => e = .returned (.bool true) ∧ ∃ q os', w' = Go.Sort.grow (w.drewN q) os' := by
  unfold ptV
  go_enter Tryz.func98, Tryz.ntmps98
  go_wp2
  go_ret
  exact ⟨rfl, 0, _, grown2 _ _ _⟩
theorem eq_point (p : Pt) (w : World) : Calls Tryz.prog 98 #[ptV p, ptV p] w fun e w' => e = .returned (.bool true) ∧ Below w.heap.size w w' :=
  (eq_point_g p w).mono fun e w' ⟨he, q, os, hw⟩ => ⟨he, by rw [hw]; exact below_grow (Below.refl _ _) (Nat.le_refl _) q os⟩
theorem eq_points (ps : List Pt) (a a' : Option Addr) (cap cap' : Nat) (w : World) (h : Pts w a ps) (h' : Pts w a' ps) (hm : ps.length ≤ 1048576) :
    Calls Tryz.prog 45 #[.slice a ps.length cap, .slice a' ps.length cap'] w fun e w' => e = .returned (.bool true) ∧ Below w.heap.size w w' := by
  obtain ⟨b, off, ha, hb, hcell⟩ := h.cells
  obtain ⟨b', off', ha', hb', hcell'⟩ := h'.cells
  have Hc := Lib.hid hcell
  have Ha := Lib.hid ha
  have Hb := Lib.hid hb
  have Hc' := Lib.hid hcell'
  have Ha' := Lib.hid ha'
  have Hb' := Lib.hid hb'
  clear hcell ha hb hcell' ha' hb' h h'
  go_enter Tryz.func45, Tryz.ntmps45
  go_wp2
  go_loopw [5] (fun i wr => ∃ k : Nat, k ≤ ps.length ∧ i = .int .i64 k ∧ Hid (Below w.heap.size w wr)) (fun i _ => ps.length - (intOf i).toNat)
  case atStart => exact ⟨0, Nat.zero_le _, rfl, Below.refl _ _⟩
  case round =>
    obtain ⟨k, hk, rfl, HB⟩ := hrel
    by_cases hlt : k < ps.length
    · obtain rfl := Ha.out (by omega)
      obtain rfl := Ha'.out (by omega)
      have hbb := Nat.lt_of_lt_of_le (Hb.out (by omega)) HB.out.size
      have hbb' := Nat.lt_of_lt_of_le (Hb'.out (by omega)) HB.out.size
      obtain ⟨q0, q1⟩ := at2_grown ((Hc.out k hlt).kept HB.out (Hb.out (by omega))) hbb
      obtain ⟨p0, p1⟩ := at2_grown ((Hc'.out k hlt).kept HB.out (Hb'.out (by omega))) hbb'
      clear hbb hbb'
      have hcall : ∀ n' os', Calls Tryz.prog 98 #[.agg #[.int .i64 ps[k].tick, .int .i64 ps[k].val], .agg #[.int .i64 ps[k].tick, .int .i64 ps[k].val]] (Go.Sort.grow (wr.drewN n') os') _ := fun n' os' => eq_point_g ps[k] _
      have mixed : Tryz.prog.follows .mixedOrders = true := by kernel_rfl
      go_wp2_with fail
      go_quiet_grown (first | (go_at_call 98; refine Calls.grown_of (hcall _ _)))
      have HB2 := Lib.hid (below_grow HB.out HB.out.size nq osq)
      clear hcall q0 q1 p0 p1
      go_wp2
      go_roundw
      case rel => exact ⟨k + 1, by omega, by go_num, HB2⟩
      case measure => simp [intOf]; omega
    · obtain rfl : k = ps.length := by omega
      go_wp2
      go_ret
      exact ⟨rfl, HB.out⟩
def mkP (k n : Nat) : List Pt := (List.range n).map fun i => ⟨((k + 2 * i : Nat) : Int), ((k + 2 * i + 1 : Nat) : Int)⟩
theorem mkP_len (k n : Nat) : (mkP k n).length = n := by simp [mkP]
theorem mkP_get (k n i : Nat) (h : i < (mkP k n).length) : (mkP k n)[i] = ⟨((k + 2 * i : Nat) : Int), ((k + 2 * i + 1 : Nat) : Int)⟩ := by simp [mkP]
def halfP (k : Nat) (ps : List Pt) (i : Nat) : List Pt := (mkP k ps.length).take i ++ ps.drop i
theorem halfP_len (k : Nat) (ps : List Pt) (i : Nat) (h : i ≤ ps.length) : (halfP k ps i).length = ps.length := by unfold halfP; simp [mkP_len]; omega
theorem halfP_set (k : Nat) (ps : List Pt) (i : Nat) (h : i < ps.length) : (halfP k ps i).set i ⟨((k + 2 * i : Nat) : Int), ((k + 2 * i + 1 : Nat) : Int)⟩ = halfP k ps (i + 1) := by
  unfold halfP
  have e2 : i - ((mkP k ps.length).take i).length = 0 := by simp [mkP_len]; omega
  rw [List.set_append, if_neg (by simp [mkP_len]; omega), e2, List.drop_eq_getElem_cons h, List.set_cons_zero, List.take_succ_eq_append_getElem (by rw [mkP_len]; exact h), List.append_assoc, mkP_get]
  rfl
theorem halfP_all (k : Nat) (ps : List Pt) : halfP k ps ps.length = mkP k ps.length := by
  unfold halfP
  rw [List.take_of_length_le (by rw [mkP_len]; exact Nat.le_refl _)]; simp
theorem halfP_none (k : Nat) (ps : List Pt) : halfP k ps 0 = ps := by unfold halfP; simp
def OnlyA (a : Option Addr) (w w' : World) : Prop := (a = none → w' = w) ∧ ∀ b o s, a = some ⟨b, o, s⟩ → Only b w w'
theorem onlyA_none (w : World) : OnlyA none w w := ⟨fun _ => rfl, fun b o s e => by cases e⟩
theorem onlyA_some {g : Nat} {w w' : World} (h : Only g w w') : OnlyA (some ⟨g, 0, none⟩) w w' := by
  refine ⟨fun e => ?_, fun b o s e => ?_⟩
  · cases e
  · cases e; exact h
set_option maxHeartbeats 1000000 in
set_option maxRecDepth 20000 in
theorem mark_points (ps : List Pt) (a : Option Addr) (cap B k : Nat) (h0 : 0 < k) (hk : k + 2 * ps.length ≤ 100000000) (w : World) (h : OwnP w B (.slice a ps.length cap) ps) :
    Calls Tryz.prog 52 #[.slice a ps.length cap, .int .i64 k] w fun e w' => e = .returned (.int .i64 ((k + 2 * ps.length : Nat) : Int)) ∧ OwnP w' B (.slice a ps.length cap) (mkP k ps.length) ∧ OnlyA a w w' := by
  rcases h.2 with ⟨hv, h0'⟩ | ⟨g, cap', cur, hv, _, _, _, _⟩
  · obtain rfl : ps = [] := List.length_eq_zero_iff.1 h0'
    simp only [List.length_nil, Value.slice.injEq] at hv
    obtain ⟨rfl, -, rfl⟩ := hv
    have HO := Lib.hid h
    clear h
    show Calls Tryz.prog 52 #[.slice none 0 0, .int .i64 k] w _
    go_enter Tryz.func52, Tryz.ntmps52
    go_wp2
    go_loop [1, 5] (fun v i => v = .int .i64 k ∧ i = .int .i64 0) (fun _ _ => 0)
    case atStart => exact ⟨rfl, rfl⟩
    case round =>
      obtain ⟨rfl, rfl⟩ := hrel
      go_wp2
      go_ret
      exact ⟨rfl, HO.out, onlyA_none _⟩
  · cases hv
    have HO0 := Lib.hid h
    clear h
    go_enter Tryz.func52, Tryz.ntmps52
    go_wp2
    go_loopw [1, 5] (fun vk vi wr => ∃ (i m : Nat), vi = .int .i64 i ∧ vk = .int .i64 m ∧ Hid (m = k + 2 * i) ∧ m ≤ 100000000 - 2 * (ps.length - i) ∧ i ≤ ps.length ∧ Hid (OwnP wr B (.slice (some ⟨g, 0, none⟩) ps.length cap) (halfP k ps i)) ∧ Hid (Only g w wr)) (fun _ vi _ => ps.length - (intOf vi).toNat)
    case atStart => exact ⟨0, k, rfl, rfl, by show _ = _; omega, by omega, Nat.zero_le _, by rw [halfP_none]; exact HO0.out, Only.refl _ _⟩
    case round =>
      obtain ⟨i, m, rfl, rfl, HM, hmb, hi, HO, HL⟩ := hrel
      by_cases hlt : i < ps.length
      · obtain ⟨m1, e1⟩ : ∃ x : Nat, (m : Int) + 1 = (x : Int) := ⟨m + 1, by omega⟩
        obtain ⟨m2, e2⟩ : ∃ x : Nat, (m1 : Int) + 1 = (x : Int) := ⟨m + 2, by omega⟩
        have hhl := halfP_len k ps i hi
        obtain ⟨p0, p1⟩ := HO.out.at2 i (by omega)
        have f0 := HO.out.frozen (i * 2)
        have f1 := HO.out.frozen (i * 2 + 1)
        have HN : Hid (OwnP ((wr.setCell ⟨g, i * 2, none⟩ (.int .i64 (m : Int))).setCell ⟨g, i * 2 + 1, none⟩ (.int .i64 (m1 : Int))) B (.slice (some ⟨g, 0, none⟩) ps.length cap) (halfP k ps (i + 1))) := by
          have hp := HO.out.put i (by omega) ⟨(m : Int), (m1 : Int)⟩
          have hs := halfP_set k ps i hlt
          have em : m = k + 2 * i := HM.out
          have em1 : m1 = k + 2 * i + 1 := by omega
          rw [← em1, ← em] at hs
          rw [hs] at hp
          exact hp
        have HL2 := Lib.hid ((HL.out.setCell (i * 2) (.int .i64 (m : Int))).setCell (i * 2 + 1) (.int .i64 (m1 : Int)))
        go_wp2
        go_roundw
        case rel => exact ⟨i + 1, m2, by go_num, by first | rfl | go_num, by show _ = _; have := HM.out; omega, by omega, by omega, HN, HL2⟩
        case measure => simp [intOf]; omega
      · obtain rfl : i = ps.length := by omega
        have HF : Hid (OwnP wr B (.slice (some ⟨g, 0, none⟩) ps.length cap) (mkP k ps.length)) := by
          have := HO.out
          rw [halfP_all] at this
          exact this
        clear HO
        go_wp2
        go_ret
        exact ⟨ret1I (by have := HM.out; omega), HF.out, onlyA_some HL.out⟩
end Go.Proofs.YtgmdfkmmbcpikaaGreat.Nt
