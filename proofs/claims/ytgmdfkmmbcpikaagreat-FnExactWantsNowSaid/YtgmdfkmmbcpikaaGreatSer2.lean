/- Rows of points and series in memory of the call's own; laws.toSeriesS (a copy), laws.eqSeriesS (a comparison of equals). -/
import Derived.Test.YtgmdfkmmbcpikaaGreatSer
namespace Go.Proofs.YtgmdfkmmbcpikaaGreat.Ser2
open Go.RowKit Go.Deep
open Go.ChangeShapes Go.WideShapes
open Go.Proofs.YtgmdfkmmbcpikaaGreat.C1
open Go.Proofs.YtgmdfkmmbcpikaaGreat.C2
open Go.Proofs.YtgmdfkmmbcpikaaGreat.Smps
open Go.Proofs.YtgmdfkmmbcpikaaGreat.Mem
open Go.Proofs.YtgmdfkmmbcpikaaGreat.Ser
set_option linter.unusedVariables false

theorem encP_len (p : Pt) : (encP p).length = 2 := rfl
theorem encV_len (l : Sv) : (encV l).length = 3 := rfl
/-- v is a slice of points in a block that is new (not below B) and may be written. -/
def OwnP (w : World) (B : Nat) (v : Value) (ps : List Pt) : Prop := w.ownsRow B 123 2 v ps.length (gf encP ps)
def OwnR (w : World) (B : Nat) (v : Value) (ls : List Sv) : Prop := w.ownsRow B 119 3 v ls.length (gf encV ls)
theorem OwnP.len {w : World} {B n cap : Nat} {a : Option Addr} {ps : List Pt} (h : OwnP w B (.slice a n cap) ps) : n = ps.length := by
  rcases h.2 with ⟨hv, h0⟩ | ⟨g, cap', cur, hv, hg, hh, _⟩
  · cases hv; exact h0.symm
  · cases hv; rfl
theorem OwnR.len {w : World} {B n cap : Nat} {a : Option Addr} {ls : List Sv} (h : OwnR w B (.slice a n cap) ls) : n = ls.length := by
  rcases h.2 with ⟨hv, h0⟩ | ⟨g, cap', cur, hv, hg, hh, _⟩
  · cases hv; exact h0.symm
  · cases hv; rfl
theorem OwnP.at2 {w : World} {B g n cap : Nat} {ps : List Pt} (h : OwnP w B (.slice (some ⟨g, 0, none⟩) n cap) ps) (i : Nat) (hi : i < ps.length) : At2 w g (i * 2) ps[i] := by
  obtain rfl := h.len
  have hc : ∀ j, j < 2 → w.cell? ⟨g, i * 2 + j, none⟩ = (encP ps[i])[j]? := fun j hj => by
    have := World.ownsRow.cellAt h (i * 2 + j) (by omega)
    rw [this, gf_get encP 2 encP_len ps i j hi hj]
  exact ⟨hc 0 (by omega), hc 1 (by omega)⟩
theorem OwnR.at3 {w : World} {B g n cap : Nat} {ls : List Sv} (h : OwnR w B (.slice (some ⟨g, 0, none⟩) n cap) ls) (i : Nat) (hi : i < ls.length) : At3 w g (i * 3) ls[i] := by
  obtain rfl := h.len
  have hc : ∀ j, j < 3 → w.cell? ⟨g, i * 3 + j, none⟩ = (encV ls[i])[j]? := fun j hj => by
    have := World.ownsRow.cellAt h (i * 3 + j) (by omega)
    rw [this, gf_get encV 3 encV_len ls i j hi hj]
  exact ⟨hc 0 (by omega), hc 1 (by omega), hc 2 (by omega)⟩
theorem OwnP.frozen {w : World} {B g n cap : Nat} {ps : List Pt} (h : OwnP w B (.slice (some ⟨g, 0, none⟩) n cap) ps) (j : Nat) : w.frozen? ⟨g, j, none⟩ = false := by
  obtain rfl := h.len
  exact World.ownsRow.frozenAt h j
theorem OwnR.frozen {w : World} {B g n cap : Nat} {ls : List Sv} (h : OwnR w B (.slice (some ⟨g, 0, none⟩) n cap) ls) (j : Nat) : w.frozen? ⟨g, j, none⟩ = false := by
  obtain rfl := h.len
  exact World.ownsRow.frozenAt h j
theorem OwnP.pts {w : World} {B n cap : Nat} {a : Option Addr} {ps : List Pt} (h : OwnP w B (.slice a n cap) ps) : Pts w a ps := by
  have h' : w.ownsRow B 123 2 (.slice a n cap) ps.length (gf encP ps) := h
  rcases h.2 with ⟨hv, h0⟩ | ⟨g, cap', cur, hv, hg, hh, _⟩
  · exact .inl (List.length_eq_zero_iff.1 h0)
  · cases hv
    exact .inr ⟨g, 0, rfl, (Array.getElem?_eq_some_iff.1 hh).1, fun i hi => by rw [Nat.zero_add]; exact OwnP.at2 h' i hi⟩
theorem OwnP.kept {w w' : World} {B : Nat} {v : Value} {ps : List Pt} (h : OwnP w B v ps) (hb : Below w.heap.size w w') : OwnP w' B v ps := by
  obtain ⟨h1, h2⟩ := h
  refine ⟨h1, ?_⟩
  rcases h2 with h2 | ⟨g, cap, cur, hv, hg, hh, r⟩
  · exact .inl h2
  · exact .inr ⟨g, cap, cur, hv, hg, by rw [hb.block g (Array.getElem?_eq_some_iff.1 hh).1]; exact hh, r⟩
theorem OwnR.kept {w w' : World} {B : Nat} {v : Value} {ls : List Sv} (h : OwnR w B v ls) (hb : Below w.heap.size w w') : OwnR w' B v ls := by
  obtain ⟨h1, h2⟩ := h
  refine ⟨h1, ?_⟩
  rcases h2 with h2 | ⟨g, cap, cur, hv, hg, hh, r⟩
  · exact .inl h2
  · exact .inr ⟨g, cap, cur, hv, hg, by rw [hb.block g (Array.getElem?_eq_some_iff.1 hh).1]; exact hh, r⟩
/-- The block of an address. -/
def Off (g : Nat) (a : Option Addr) : Prop := ∀ b o s, a = some ⟨b, o, s⟩ → b ≠ g
theorem OwnP.off {w w' : World} {B n cap g : Nat} {a : Option Addr} {ps : List Pt} (h : OwnP w B (.slice a n cap) ps) (ho : Only g w w') (hg : Off g a) : OwnP w' B (.slice a n cap) ps := by
  obtain ⟨h1, h2⟩ := h
  refine ⟨h1, ?_⟩
  rcases h2 with h2 | ⟨g', cap, cur, hv, hg', hh, r⟩
  · exact .inl h2
  · cases hv
    exact .inr ⟨g', cap, cur, rfl, hg', by rw [ho.block g' (Array.getElem?_eq_some_iff.1 hh).1 (hg _ _ _ rfl)]; exact hh, r⟩
theorem OwnP.lt {w : World} {B n cap b o : Nat} {s} {ps : List Pt} (h : OwnP w B (.slice (some ⟨b, o, s⟩) n cap) ps) : B ≤ b ∧ b < w.heap.size := by
  rcases h.2 with ⟨hv, h0⟩ | ⟨g, cap', cur, hv, hg, hh, _⟩
  · cases hv
  · cases hv
    exact ⟨hg, (Array.getElem?_eq_some_iff.1 hh).1⟩
theorem OwnR.lt {w : World} {B n cap b o : Nat} {s} {ls : List Sv} (h : OwnR w B (.slice (some ⟨b, o, s⟩) n cap) ls) : B ≤ b ∧ b < w.heap.size := by
  rcases h.2 with ⟨hv, h0⟩ | ⟨g, cap', cur, hv, hg, hh, _⟩
  · cases hv
  · cases hv
    exact ⟨hg, (Array.getElem?_eq_some_iff.1 hh).1⟩
/-- The points of each series are the call's own, in blocks of their own, none of them g. -/
structure Good (w : World) (B g : Nat) (ls : List Sv) : Prop where
  own : ∀ l ∈ ls, OwnP w B (.slice l.a l.s.pts.length l.cap) l.s.pts
  off : ∀ l ∈ ls, Off g l.a
  apart : ls.Pairwise fun x y => ∀ b o s, y.a = some ⟨b, o, s⟩ → Off b x.a
theorem Good.nil (w : World) (B g : Nat) : Good w B g [] := ⟨fun _ h => absurd h (by simp), fun _ h => absurd h (by simp), .nil⟩
theorem Good.kept {w w' : World} {B g : Nat} {ls : List Sv} (h : Good w B g ls) (hb : Below w.heap.size w w') : Good w' B g ls := ⟨fun l hl => (h.own l hl).kept hb, h.off, h.apart⟩
theorem Good.only {w w' : World} {B g : Nat} {ls : List Sv} (h : Good w B g ls) (ho : Only g w w') : Good w' B g ls := ⟨fun l hl => (h.own l hl).off ho (h.off l hl), h.off, h.apart⟩
/-- One more series, whose points lie in a new block (not below the world's size). -/
theorem Good.more {w w' : World} {B g : Nat} {ls : List Sv} (h : Good w B g ls) (hb : Below w.heap.size w w') (hB : B ≤ w.heap.size) (hg : g < w.heap.size) (l : Sv) (hl : OwnP w' w.heap.size (.slice l.a l.s.pts.length l.cap) l.s.pts) : Good w' B g (ls ++ [l]) := by
  have hn : ∀ b o s, l.a = some ⟨b, o, s⟩ → w.heap.size ≤ b := fun b o s e => by rw [e] at hl; exact hl.lt.1
  have hl' : OwnP w' B (.slice l.a l.s.pts.length l.cap) l.s.pts := by
    obtain ⟨h1, h2⟩ := hl
    refine ⟨h1, ?_⟩
    rcases h2 with h2 | ⟨g, cap, cur, hv, hg, r⟩
    · exact .inl h2
    · exact .inr ⟨g, cap, cur, hv, by omega, r⟩
  refine ⟨fun x hx => ?_, fun x hx => ?_, ?_⟩
  · rcases List.mem_append.1 hx with hx | hx
    · exact (h.own x hx).kept hb
    · obtain rfl := List.mem_singleton.1 hx; exact hl'
  · rcases List.mem_append.1 hx with hx | hx
    · exact h.off x hx
    · obtain rfl := List.mem_singleton.1 hx
      intro b o s e
      have := hn b o s e
      omega
  · rw [List.pairwise_append]
    refine ⟨h.apart, List.pairwise_singleton _ _, fun x hx y hy => ?_⟩
    obtain rfl := List.mem_singleton.1 hy
    intro b o s e b' o' s' e'
    have h1 := hn b o s e
    have h2 := h.own x hx
    rw [e'] at h2
    have := h2.lt.2
    omega
theorem srs_of {w : World} {B g n cap : Nat} {ls : List Sv} (h : OwnR w B (.slice (some ⟨g, 0, none⟩) n cap) ls) (hg : Good w B g ls) : Srs w (some ⟨g, 0, none⟩) ls :=
  .inr ⟨g, 0, rfl, h.lt.2, fun i hi => ⟨by rw [Nat.zero_add]; exact h.at3 i hi, (hg.own _ (List.getElem_mem hi)).pts⟩⟩

/-! ### laws.toPointS: a copy. -/
theorem to_point (p : Pt) (w : World) :
    Calls Tryz.prog 148 #[ptV p] w fun e w' => e = .returned (ptV p) ∧ Below w.heap.size w w' := by
  unfold ptV
  go_enter Tryz.func148, Tryz.ntmps148
  go_wp2
  exact bodyPost_ret (v := .agg #[.int .i64 p.tick, .int .i64 p.val]) (by simp [results, Tryz.results148, go_sem]) rfl ⟨rfl, box3_below _ _ _ _⟩
def zeroP : Pt := ⟨0, 0⟩
theorem info_pt : (Tryz.prog.info? 123).map (fun i => (i.zero, i.size, i.bytes)) = some (some (ptV zeroP), 2, 16) := by kernel_rfl
theorem make_pts (n : Nat) (hn : n ≤ 1048576) : ∀ w : World, (Instr.makeSlice 117 (.int .i64 (n : Int)) (.int .i64 (n : Int))).run Tryz.prog w = .ok (.slice (some ⟨w.heap.size, 0, none⟩) n n) (w.alloc (.cells (madeCells (ptV zeroP).cells (n * 2)) 123)) := by
  obtain ⟨i, hi, hzz⟩ := Option.map_eq_some_iff.1 info_pt
  simp only [Prod.mk.injEq] at hzz
  obtain ⟨hz, hs, hby⟩ := hzz
  have := fun w : World => run_make (P := Tryz.prog) w 117 123 i (ptV zeroP) Tryz.underlying117 hi hz .i64 .i64 (n : Int) (n : Int) (by omega) (by omega) (by rw [hby]; omega) (by omega)
  intro w
  rw [this w, hs]
  simp
theorem made_pts (n : Nat) (hn : n ≤ 1048576) (w : World) : OwnP (w.alloc (.cells (madeCells (ptV zeroP).cells (n * 2)) 123)) w.heap.size (.slice (some ⟨w.heap.size, 0, none⟩) n n) (List.replicate n zeroP) := by
  unfold OwnP
  rw [List.length_replicate, ← made_gf encP 2 encP_len (by omega) zeroP n]
  exact World.ownsRow_lit (e := 123) (size := 2) (base := w.heap.size) w (madeCells (ptV zeroP).cells (n * 2)) n (Nat.le_refl _) (by unfold maxLen; omega) (by rw [size_madeCells])
theorem gf_set2 : ∀ (ps : List Pt) (i : Nat) (p : Pt), i < ps.length → (((gf encP ps).set (i * 2) (.int .i64 p.tick)).set (i * 2 + 1) (.int .i64 p.val)) = gf encP (ps.set i p)
  | x :: r, 0, s, _ => by simp [gf, encP]
  | x :: r, i + 1, s, hi => by
    have ih := gf_set2 r i s (by simpa using hi)
    have e : (i + 1) * 2 = i * 2 + 2 := by omega
    show ((encP x ++ gf encP r).set _ _).set _ _ = encP x ++ gf encP (r.set i s)
    rw [← ih, e]
    simp [encP]
theorem OwnP.put {w : World} {B g n cap : Nat} {ps : List Pt} (h : OwnP w B (.slice (some ⟨g, 0, none⟩) n cap) ps) (k : Nat) (hk : k < ps.length) (p : Pt) :
    OwnP ((w.setCell ⟨g, k * 2, none⟩ (.int .i64 p.tick)).setCell ⟨g, k * 2 + 1, none⟩ (.int .i64 p.val)) B (.slice (some ⟨g, 0, none⟩) n cap) (ps.set k p) := by
  obtain rfl := h.len
  have h1 := (World.ownsRow.stored h (k * 2) (.int .i64 p.tick)).1
  have h2 := (World.ownsRow.stored h1 (k * 2 + 1) (.int .i64 p.val)).1
  rw [gf_set2 ps k p hk] at h2
  unfold OwnP
  rw [List.length_set]
  exact h2
theorem take_set {α : Type} [Inhabited α] (xs : List α) (z : α) (k : Nat) (hk : k < xs.length) : (xs.take k ++ List.replicate (xs.length - k) z).set k xs[k] = xs.take (k + 1) ++ List.replicate (xs.length - (k + 1)) z := by
  have e : xs.length - k = (xs.length - (k + 1)) + 1 := by omega
  have e2 : k - (xs.take k).length = 0 := by simp; omega
  rw [List.set_append, if_neg (by simp; omega), e, List.replicate_succ, e2, List.set_cons_zero, List.take_succ_eq_append_getElem hk, List.append_assoc]
  rfl
theorem fill_len {α : Type} (xs : List α) (z : α) (k : Nat) (hk : k ≤ xs.length) : (xs.take k ++ List.replicate (xs.length - k) z).length = xs.length := by simp; omega
set_option maxHeartbeats 1000000 in
theorem to_points (ps : List Pt) (a : Option Addr) (cap : Nat) (w : World) (h : Pts w a ps) (hm : ps.length ≤ 1048576) :
    Calls Tryz.prog 115 #[.slice a ps.length cap] w fun e w' => ∃ g, e = .returned (.slice (some ⟨g, 0, none⟩) ps.length ps.length) ∧ OwnP w' w.heap.size (.slice (some ⟨g, 0, none⟩) ps.length ps.length) ps ∧ Below w.heap.size w w' := by
  obtain ⟨b, off, ha, hb, hcell⟩ := h.cells
  have hmk := make_pts ps.length hm
  have hmade : OwnP (w.alloc (.cells (madeCells (ptV zeroP).cells (ps.length * 2)) 123)) w.heap.size (.slice (some ⟨w.heap.size, 0, none⟩) ps.length ps.length) (ps.take 0 ++ List.replicate (ps.length - 0) zeroP) := by
    have := made_pts ps.length hm w
    simpa using this
  have hbel : Below w.heap.size w (w.alloc (.cells (madeCells (ptV zeroP).cells (ps.length * 2)) 123)) := (Below.refl _ _).alloc (Nat.le_refl _) _
  have Hm := Lib.hid hmade
  have Hc := Lib.hid hcell
  have Ha := Lib.hid ha
  have Hb := Lib.hid hb
  clear hmade hcell ha hb h
  generalize hM : madeCells (ptV zeroP).cells (ps.length * 2) = M at hmk hbel Hm
  go_enter Tryz.func115, Tryz.ntmps115
  go_wp2
  go_loopw [4] (fun i wr => ∃ k : Nat, k ≤ ps.length ∧ i = .int .i64 k ∧ OwnP wr w.heap.size (.slice (some ⟨w.heap.size, 0, none⟩) ps.length ps.length) (ps.take k ++ List.replicate (ps.length - k) zeroP) ∧ Below w.heap.size w wr)
    (fun i _ => ps.length - (intOf i).toNat)
  case atStart => exact ⟨0, Nat.zero_le _, rfl, Hm.out, hbel⟩
  case round =>
    clear hmk hbel
    obtain ⟨k, hk, rfl, hown, hbw⟩ := hrel
    by_cases hlt : k < ps.length
    · obtain rfl := Ha.out (by omega)
      obtain ⟨q0, q1⟩ := (Hc.out k hlt).kept hbw (Hb.out (by omega))
      have HB := Lib.hid hbw
      have HO := Lib.hid hown
      clear hbw hown
      have hxl := fill_len ps zeroP k hk
      go_wp2_with (go_at_call 148; refine (to_point ps[k] _).mono ?_; unfold ptV; rintro e w2 ⟨rfl, hb2⟩; obtain ⟨p0, p1⟩ := (HO.out.kept hb2).at2 k (by omega); have f0 := (HO.out.kept hb2).frozen (k * 2); have f1 := (HO.out.kept hb2).frozen (k * 2 + 1))
      have HO2 := Lib.hid ((HO.out.kept hb2).put k (by omega) ps[k])
      have HB2 := Lib.hid (((HB.out.trans (hb2.mono HB.out.size)).setCell (p := ⟨w.heap.size, k * 2, none⟩) (Nat.le_refl w.heap.size) (.int .i64 ps[k].tick)).setCell (p := ⟨w.heap.size, k * 2 + 1, none⟩) (Nat.le_refl w.heap.size) (.int .i64 ps[k].val))
      have hso := take_set ps zeroP k hlt
      go_roundw
      case rel => exact ⟨k + 1, by omega, by go_num, by rw [← hso]; exact HO2.out, HB2.out⟩
      case measure => simp [intOf]; omega
    · obtain rfl : k = ps.length := by omega
      have HO : Hid (OwnP wr w.heap.size (.slice (some ⟨w.heap.size, 0, none⟩) ps.length ps.length) ps) := by
        show OwnP wr w.heap.size (.slice (some ⟨w.heap.size, 0, none⟩) ps.length ps.length) ps
        simpa using hown
      have HB := Lib.hid hbw
      clear hown hbw
      go_wp2
      go_ret
      exact ⟨w.heap.size, rfl, HO.out, HB.out⟩

/-! ### laws.toSeries, laws.toSeriesS: copies. -/
theorem cells_new (w : World) (A : Array Value) (t : TypeId) : CellsW (w.alloc (.cells A t)) w.heap.size A.toList :=
  ⟨by simp, fun j hj => by simp at hj; simp [hj]⟩
theorem tri_read {w w2 : World} {o1 : Obj} {A2 A3 : Array Value} {t2 t3 : TypeId} (h : Below (((w.alloc o1).alloc (.cells A2 t2)).alloc (.cells A3 t3)).heap.size (((w.alloc o1).alloc (.cells A2 t2)).alloc (.cells A3 t3)) w2) :
    CellsW w2 (w.heap.size + 1) A2.toList ∧ CellsW w2 (w.heap.size + 1 + 1) A3.toList ∧ Below w.heap.size w w2 ∧ w.heap.size ≤ (((w.alloc o1).alloc (.cells A2 t2)).alloc (.cells A3 t3)).heap.size := by
  have b1 : Below w.heap.size w (w.alloc o1) := (Below.refl _ _).alloc (Nat.le_refl _) _
  have b2 : Below (w.alloc o1).heap.size (w.alloc o1) ((w.alloc o1).alloc (.cells A2 t2)) := (Below.refl _ _).alloc (Nat.le_refl _) _
  have b3 : Below ((w.alloc o1).alloc (.cells A2 t2)).heap.size ((w.alloc o1).alloc (.cells A2 t2)) (((w.alloc o1).alloc (.cells A2 t2)).alloc (.cells A3 t3)) := (Below.refl _ _).alloc (Nat.le_refl _) _
  have e1 : (w.alloc o1).heap.size = w.heap.size + 1 := by simp
  have e2 : ((w.alloc o1).alloc (.cells A2 t2)).heap.size = w.heap.size + 1 + 1 := by simp
  have k2 := cells_new (w.alloc o1) A2 t2
  have k3 := cells_new ((w.alloc o1).alloc (.cells A2 t2)) A3 t3
  rw [e1] at k2
  rw [e2] at k3
  have hs := h.size
  refine ⟨(k2.kept b3).kept h, k3.kept h, ?_, ?_⟩
  · exact b1.trans ((b2.mono b1.size).trans ((b3.mono (by omega)).trans (h.mono (by simp; omega))))
  · simp; omega
theorem OwnP.mono {w : World} {B B' : Nat} {v : Value} {ps : List Pt} (h : OwnP w B v ps) (hB : B' ≤ B) : OwnP w B' v ps := by
  obtain ⟨h1, h2⟩ := h
  refine ⟨h1, ?_⟩
  rcases h2 with h2 | ⟨g, cap, cur, hv, hg, r⟩
  · exact .inl h2
  · exact .inr ⟨g, cap, cur, hv, by omega, r⟩
/-- Blocks below B and apart from c stand. -/
theorem OwnP.set {w : World} {B n cap c j : Nat} {a : Option Addr} {ps : List Pt} (h : OwnP w B (.slice a n cap) ps) (u : Value) (hg : Off c a) : OwnP (w.setCell ⟨c, j, none⟩ u) B (.slice a n cap) ps := h.off ((Only.refl c w).setCell j u) hg
theorem off_lt {c g n : Nat} (h : c < g) : Off c (some ⟨g, n, none⟩) := fun b o s e => by cases e; omega
theorem to_ser (l : Sv) (hm : l.s.pts.length ≤ 1048576) (w : World) (h : Pts w l.a l.s.pts) :
    Calls Tryz.prog 73 #[svV l] w fun e w' => ∃ g, e = .returned (svV ⟨l.s, some ⟨g, 0, none⟩, l.s.pts.length⟩) ∧ OwnP w' w.heap.size (.slice (some ⟨g, 0, none⟩) l.s.pts.length l.s.pts.length) l.s.pts ∧ Below w.heap.size w w' := by
  unfold svV
  have HP := Lib.hid h
  clear h
  go_enter Tryz.func73, Tryz.ntmps73
  go_wp2_with (go_at_call 115; refine (to_points l.s.pts _ _ _ (HP.out.kept (box3_below _ _ _ _)) hm).mono ?_; rintro e w2 ⟨g, rfl, ho, hb⟩; obtain ⟨k1, k2, hB, hle⟩ := tri_read hb; have hgl := ho.lt; have HO := Lib.hid (ho.mono hle); obtain ⟨c0, f0⟩ := k1.2 0 (by simp); obtain ⟨c1, f1⟩ := k1.2 1 (by simp); obtain ⟨c2, f2⟩ := k1.2 2 (by simp); obtain ⟨d0, e0⟩ := k2.2 0 (by simp); obtain ⟨d1, e1⟩ := k2.2 1 (by simp); obtain ⟨d2, e2⟩ := k2.2 2 (by simp); have HGL := Lib.hid hgl; have HB := Lib.hid hB; clear hb ho k1 k2 hB hgl; simp only [List.getElem_cons_zero, List.getElem_cons_succ] at c0 c1 c2 d0 d1 d2)
  have hg : w.heap.size + 1 + 1 < g := by
    have := HGL.out.1
    simp at this
    omega
  refine bodyPost_ret (v := .agg #[.string l.s.pod, .string l.s.met, .slice (some ⟨g, 0, none⟩) l.s.pts.length l.s.pts.length]) (by simp [results, Tryz.results73, go_sem, c0, c1, c2]) rfl ⟨g, rfl, ?_, ?_⟩
  · exact (((HO.out.set _ (off_lt (by omega))).set _ (off_lt (by omega))).set _ (off_lt (by omega))).set _ (off_lt (by omega))
  · exact (((HB.out.setCell (p := ⟨w.heap.size + 1 + 1, 2, none⟩) (by show _ ≤ w.heap.size + 1 + 1; omega) _).setCell (p := ⟨w.heap.size + 1, 0, none⟩) (by show _ ≤ w.heap.size + 1; omega) _).setCell (p := ⟨w.heap.size + 1, 1, none⟩) (by show _ ≤ w.heap.size + 1; omega) _).setCell (p := ⟨w.heap.size + 1, 2, none⟩) (by show _ ≤ w.heap.size + 1; omega) _
def zeroV : Sv := ⟨⟨⟨#[]⟩, ⟨#[]⟩, []⟩, none, 0⟩
theorem info_sr : (Tryz.prog.info? 119).map (fun i => (i.zero, i.size, i.bytes)) = some (some (svV zeroV), 3, 56) := by kernel_rfl
theorem make_srs (n : Nat) (hn : n ≤ 1048576) : ∀ w : World, (Instr.makeSlice 50 (.int .i64 (n : Int)) (.int .i64 (n : Int))).run Tryz.prog w = .ok (.slice (some ⟨w.heap.size, 0, none⟩) n n) (w.alloc (.cells (madeCells (svV zeroV).cells (n * 3)) 119)) := by
  obtain ⟨i, hi, hzz⟩ := Option.map_eq_some_iff.1 info_sr
  simp only [Prod.mk.injEq] at hzz
  obtain ⟨hz, hs, hby⟩ := hzz
  have := fun w : World => run_make (P := Tryz.prog) w 50 119 i (svV zeroV) Tryz.underlying50 hi hz .i64 .i64 (n : Int) (n : Int) (by omega) (by omega) (by rw [hby]; omega) (by omega)
  intro w
  rw [this w, hs]
  simp
theorem made_srs (n : Nat) (hn : n ≤ 1048576) (w : World) : OwnR (w.alloc (.cells (madeCells (svV zeroV).cells (n * 3)) 119)) w.heap.size (.slice (some ⟨w.heap.size, 0, none⟩) n n) (List.replicate n zeroV) := by
  unfold OwnR
  rw [List.length_replicate, ← made_gf encV 3 encV_len (by omega) zeroV n]
  exact World.ownsRow_lit (e := 119) (size := 3) (base := w.heap.size) w (madeCells (svV zeroV).cells (n * 3)) n (Nat.le_refl _) (by unfold maxLen; omega) (by rw [size_madeCells])
theorem gf_set3 : ∀ (ls : List Sv) (i : Nat) (l : Sv), i < ls.length → ((((gf encV ls).set (i * 3) (.string l.s.pod)).set (i * 3 + 1) (.string l.s.met)).set (i * 3 + 2) (.slice l.a l.s.pts.length l.cap)) = gf encV (ls.set i l)
  | x :: r, 0, s, _ => by simp [gf, encV]
  | x :: r, i + 1, s, hi => by
    have ih := gf_set3 r i s (by simpa using hi)
    have e : (i + 1) * 3 = i * 3 + 3 := by omega
    show (((encV x ++ gf encV r).set _ _).set _ _).set _ _ = encV x ++ gf encV (r.set i s)
    rw [← ih, e]
    simp [encV]
theorem OwnR.put {w : World} {B g n cap : Nat} {ls : List Sv} (h : OwnR w B (.slice (some ⟨g, 0, none⟩) n cap) ls) (k : Nat) (hk : k < ls.length) (l : Sv) :
    OwnR (((w.setCell ⟨g, k * 3, none⟩ (.string l.s.pod)).setCell ⟨g, k * 3 + 1, none⟩ (.string l.s.met)).setCell ⟨g, k * 3 + 2, none⟩ (.slice l.a l.s.pts.length l.cap)) B (.slice (some ⟨g, 0, none⟩) n cap) (ls.set k l) := by
  obtain rfl := h.len
  have h1 := (World.ownsRow.stored h (k * 3) (.string l.s.pod)).1
  have h2 := (World.ownsRow.stored h1 (k * 3 + 1) (.string l.s.met)).1
  have h3 := (World.ownsRow.stored h2 (k * 3 + 2) (.slice l.a l.s.pts.length l.cap)).1
  rw [gf_set3 ls k l hk] at h3
  unfold OwnR
  rw [List.length_set]
  exact h3
theorem only_put3 {g : Nat} {w0 w : World} (h : Only g w0 w) (j0 j1 j2 : Nat) (u0 u1 u2 : Value) : Only g w0 (((w.setCell ⟨g, j0, none⟩ u0).setCell ⟨g, j1, none⟩ u1).setCell ⟨g, j2, none⟩ u2) := ((h.setCell j0 u0).setCell j1 u1).setCell j2 u2
theorem below_put3 {B : Nat} {w0 w : World} (h : Below B w0 w) {g : Nat} (hg : B ≤ g) (j0 j1 j2 : Nat) (u0 u1 u2 : Value) : Below B w0 (((w.setCell ⟨g, j0, none⟩ u0).setCell ⟨g, j1, none⟩ u1).setCell ⟨g, j2, none⟩ u2) :=
  ((h.setCell (p := ⟨g, j0, none⟩) hg u0).setCell (p := ⟨g, j1, none⟩) hg u1).setCell (p := ⟨g, j2, none⟩) hg u2
/-- The row so far: the series done, then zeros. -/
def sofar (n : Nat) (dn : List Sv) : List Sv := dn ++ List.replicate (n - dn.length) zeroV
theorem sofar_len (n : Nat) (dn : List Sv) (h : dn.length ≤ n) : (sofar n dn).length = n := by unfold sofar; simp; omega
theorem sofar_set (n : Nat) (dn : List Sv) (h : dn.length < n) (l : Sv) : (sofar n dn).set dn.length l = sofar n (dn ++ [l]) := by
  unfold sofar
  have e : n - dn.length = (n - (dn.length + 1)) + 1 := by omega
  rw [List.set_append, if_neg (by omega), Nat.sub_self, e, List.replicate_succ, List.set_cons_zero, List.append_assoc, List.length_append]
  rfl
theorem sofar_all (n : Nat) (dn : List Sv) (h : dn.length = n) : sofar n dn = dn := by unfold sofar; simp [h]
set_option maxHeartbeats 1000000 in
theorem to_series (ls : List Sv) (a : Option Addr) (cap : Nat) (w : World) (h : Srs w a ls) (hm : ls.length ≤ 1048576) (hp : ∀ l ∈ ls, l.s.pts.length ≤ 1048576) :
    Calls Tryz.prog 34 #[.slice a ls.length cap] w fun e w' => ∃ g ms, e = .returned (.slice (some ⟨g, 0, none⟩) ls.length ls.length) ∧ ms.map Sv.s = ls.map Sv.s ∧ OwnR w' w.heap.size (.slice (some ⟨g, 0, none⟩) ls.length ls.length) ms ∧ Good w' w.heap.size g ms ∧ Below w.heap.size w w' := by
  obtain ⟨b, off, ha, hb, hcell⟩ := h.cells
  have hmk := make_srs ls.length hm
  have hmade : OwnR (w.alloc (.cells (madeCells (svV zeroV).cells (ls.length * 3)) 119)) w.heap.size (.slice (some ⟨w.heap.size, 0, none⟩) ls.length ls.length) (sofar ls.length []) := by
    have := made_srs ls.length hm w
    simpa [sofar] using this
  have hbel : Below w.heap.size w (w.alloc (.cells (madeCells (svV zeroV).cells (ls.length * 3)) 119)) := (Below.refl _ _).alloc (Nat.le_refl _) _
  have hsz : w.heap.size < (w.alloc (.cells (madeCells (svV zeroV).cells (ls.length * 3)) 119)).heap.size := by simp
  have Hm := Lib.hid hmade
  have Hc := Lib.hid hcell
  have Ha := Lib.hid ha
  have Hb := Lib.hid hb
  have Hp := Lib.hid hp
  clear hmade hcell ha hb h hp
  generalize hM : madeCells (svV zeroV).cells (ls.length * 3) = M at hmk hbel Hm hsz
  go_enter Tryz.func34, Tryz.ntmps34
  go_wp2
  go_loopw [4] (fun i wr => ∃ (k : Nat) (dn : List Sv), k ≤ ls.length ∧ i = .int .i64 k ∧ Hid (dn.length = k) ∧ Hid (dn.map Sv.s = (ls.take k).map Sv.s) ∧ Hid (OwnR wr w.heap.size (.slice (some ⟨w.heap.size, 0, none⟩) ls.length ls.length) (sofar ls.length dn)) ∧ Hid (Good wr w.heap.size w.heap.size dn) ∧ Hid (Below w.heap.size w wr ∧ w.heap.size < wr.heap.size))
    (fun i _ => ls.length - (intOf i).toNat)
  case atStart => exact ⟨0, [], Nat.zero_le _, rfl, rfl, rfl, Hm.out, Good.nil _ _ _, hbel, hsz⟩
  case round =>
    clear hmk hbel hsz
    obtain ⟨k, dn, hk, rfl, HL, HM, HO, HG, HB⟩ := hrel
    by_cases hlt : k < ls.length
    · obtain rfl := Ha.out (by omega)
      obtain ⟨q0, q1, q2⟩ := (Hc.out k hlt).1.kept HB.out.1 (Hb.out (by omega))
      have HPt := Lib.hid ((Hc.out k hlt).2.kept HB.out.1)
      have hpl := Lib.hid (Hp.out ls[k] (List.getElem_mem hlt))
      go_wp2_with (go_at_call 73; refine (to_ser ls[k] hpl.out _ HPt.out).mono ?_; unfold svV; rintro e w2 ⟨g, rfl, ho, hb2⟩; obtain ⟨p0, p1, p2⟩ := (HO.out.kept hb2).at3 k (by rw [sofar_len _ _ (by have := HL.out; omega)]; exact hlt); have f0 := (HO.out.kept hb2).frozen (k * 3); have f1 := (HO.out.kept hb2).frozen (k * 3 + 1); have f2 := (HO.out.kept hb2).frozen (k * 3 + 2); have HOP := Lib.hid ho; have HB2 := Lib.hid hb2; clear ho hb2)
      have HO2 := Lib.hid ((HO.out.kept HB2.out).put k (by rw [sofar_len _ _ (by have := HL.out; omega)]; exact hlt) ⟨ls[k].s, some ⟨g, 0, none⟩, ls[k].s.pts.length⟩)
      have HG2 := Lib.hid ((HG.out.more HB2.out HB.out.1.size HB.out.2 ⟨ls[k].s, some ⟨g, 0, none⟩, ls[k].s.pts.length⟩ HOP.out).only (only_put3 (Only.refl w.heap.size w2) (k * 3) (k * 3 + 1) (k * 3 + 2) (.string ls[k].s.pod) (.string ls[k].s.met) (.slice (some ⟨g, 0, none⟩) ls[k].s.pts.length ls[k].s.pts.length)))
      have HB3 := Lib.hid (below_put3 (HB.out.1.trans (HB2.out.mono HB.out.1.size)) (Nat.le_refl w.heap.size) (k * 3) (k * 3 + 1) (k * 3 + 2) (.string ls[k].s.pod) (.string ls[k].s.met) (.slice (some ⟨g, 0, none⟩) ls[k].s.pts.length ls[k].s.pts.length))
      have HS3 : Hid (w.heap.size < (((w2.setCell ⟨w.heap.size, k * 3, none⟩ (.string ls[k].s.pod)).setCell ⟨w.heap.size, k * 3 + 1, none⟩ (.string ls[k].s.met)).setCell ⟨w.heap.size, k * 3 + 2, none⟩ (.slice (some ⟨g, 0, none⟩) ls[k].s.pts.length ls[k].s.pts.length)).heap.size) := by
        have h1 := HB.out.2
        have h2 := HB2.out.size
        have : w.heap.size < w2.heap.size := by omega
        exact Lib.hid (by simpa [World.setCell] using this)
      have HN : Hid ((dn ++ [(⟨ls[k].s, some ⟨g, 0, none⟩, ls[k].s.pts.length⟩ : Sv)]).map Sv.s = (ls.take (k + 1)).map Sv.s) := by
        show _ = _
        rw [List.take_succ_eq_append_getElem hlt, List.map_append, List.map_append, HM.out]; rfl
      have HO3 : Hid (OwnR (((w2.setCell ⟨w.heap.size, k * 3, none⟩ (.string ls[k].s.pod)).setCell ⟨w.heap.size, k * 3 + 1, none⟩ (.string ls[k].s.met)).setCell ⟨w.heap.size, k * 3 + 2, none⟩ (.slice (some ⟨g, 0, none⟩) ls[k].s.pts.length ls[k].s.pts.length)) w.heap.size (.slice (some ⟨w.heap.size, 0, none⟩) ls.length ls.length) (sofar ls.length (dn ++ [(⟨ls[k].s, some ⟨g, 0, none⟩, ls[k].s.pts.length⟩ : Sv)]))) := by
        have hd := HL.out
        have hs := sofar_set ls.length dn (by omega) ⟨ls[k].s, some ⟨g, 0, none⟩, ls[k].s.pts.length⟩
        rw [hd] at hs
        have := HO2.out
        rw [hs] at this
        exact this
      clear HO HG HO2
      go_roundw
      case rel => exact ⟨k + 1, _, by omega, by go_num, by show _ = _; rw [List.length_append, HL.out]; rfl, HN.out, HO3.out, HG2.out, HB3.out, HS3.out⟩
      case measure => simp [intOf]; omega
    · obtain rfl : k = ls.length := by omega
      have HF : Hid (dn.map Sv.s = ls.map Sv.s) := by
        have := HM.out
        rw [List.take_of_length_le (Nat.le_refl _)] at this
        exact this
      have HO2 : Hid (OwnR wr w.heap.size (.slice (some ⟨w.heap.size, 0, none⟩) ls.length ls.length) dn) := by
        have := HO.out
        rw [sofar_all _ _ HL.out] at this
        exact this
      clear HO HM
      go_wp2
      go_ret
      exact ⟨w.heap.size, dn, rfl, HF.out, HO2.out, HG.out, HB.out.1⟩

/-! ### laws.eqPoint, eqPointS, eqSeries, eqSeriesS at equals. -/
theorem eq_point_g (p : Pt) (w : World) :
    Calls Tryz.prog 160 #[ptV p, ptV p] w fun e w' => e = .returned (.bool true) ∧ ∃ q os', w' = Go.Sort.grow (w.drewN q) os' := by
  unfold ptV
  go_enter Tryz.func160, Tryz.ntmps160
  go_wp2
  go_ret
  exact ⟨rfl, 0, _, grown2 _ _ _⟩
theorem eq_point (p : Pt) (w : World) : Calls Tryz.prog 160 #[ptV p, ptV p] w fun e w' => e = .returned (.bool true) ∧ Below w.heap.size w w' :=
  (eq_point_g p w).mono fun e w' ⟨he, q, os, hw⟩ => ⟨he, by rw [hw]; exact below_grow (Below.refl _ _) (Nat.le_refl _) q os⟩
theorem at2_grown {w : World} {b o : Nat} {p : Pt} (h : At2 w b o p) (hb : b < w.heap.size) :
    (∀ n os, (Go.Sort.grow (w.drewN n) os).cell? ⟨b, o, none⟩ = some (.int .i64 p.tick)) ∧ (∀ n os, (Go.Sort.grow (w.drewN n) os).cell? ⟨b, o + 1, none⟩ = some (.int .i64 p.val)) :=
  ⟨fun n os => cell_grown hb h.1 n os, fun n os => cell_grown hb h.2 n os⟩
theorem eq_points (ps : List Pt) (a a' : Option Addr) (cap cap' : Nat) (w : World) (h : Pts w a ps) (h' : Pts w a' ps) (hm : ps.length ≤ 1048576) :
    Calls Tryz.prog 130 #[.slice a ps.length cap, .slice a' ps.length cap'] w fun e w' => e = .returned (.bool true) ∧ Below w.heap.size w w' := by
  obtain ⟨b, off, ha, hb, hcell⟩ := h.cells
  obtain ⟨b', off', ha', hb', hcell'⟩ := h'.cells
  have Hc := Lib.hid hcell
  have Ha := Lib.hid ha
  have Hb := Lib.hid hb
  have Hc' := Lib.hid hcell'
  have Ha' := Lib.hid ha'
  have Hb' := Lib.hid hb'
  clear hcell ha hb hcell' ha' hb' h h'
  go_enter Tryz.func130, Tryz.ntmps130
  go_wp2
  go_loopw [5] (fun i wr => ∃ k : Nat, k ≤ ps.length ∧ i = .int .i64 k ∧ Hid (Below w.heap.size w wr)) (fun i _ => ps.length - (intOf i).toNat)
  case atStart => exact ⟨0, Nat.zero_le _, rfl, Below.refl _ _⟩
  case round =>
    obtain ⟨k, hk, rfl, HB⟩ := hrel
    by_cases hlt : k < ps.length
    · obtain rfl := Ha.out (by omega)
      obtain rfl := Ha'.out (by omega)
      have hbb := Nat.lt_of_lt_of_le (Hb.out (by omega)) HB.out.size
      have hbb' := Nat.lt_of_lt_of_le (Hb'.out (by omega)) HB.out.size
      obtain ⟨q0, q1⟩ := at2_grown ((Hc.out k hlt).kept HB.out (Hb.out (by omega))) hbb
      obtain ⟨p0, p1⟩ := at2_grown ((Hc'.out k hlt).kept HB.out (Hb'.out (by omega))) hbb'
      clear hbb hbb'
      have hcall : ∀ n' os', Calls Tryz.prog 160 #[.agg #[.int .i64 ps[k].tick, .int .i64 ps[k].val], .agg #[.int .i64 ps[k].tick, .int .i64 ps[k].val]] (Go.Sort.grow (wr.drewN n') os') _ := fun n' os' => eq_point_g ps[k] _
      have mixed : Tryz.prog.follows .mixedOrders = true := by kernel_rfl
      go_wp2_with fail
      go_quiet_grown (first | (go_at_call 160; refine Calls.grown_of (hcall _ _)))
      have HB2 := Lib.hid (below_grow HB.out HB.out.size nq osq)
      clear hcall q0 q1 p0 p1
      go_wp2
      go_roundw
      case rel => exact ⟨k + 1, by omega, by go_num, HB2⟩
      case measure => simp [intOf]; omega
    · obtain rfl : k = ps.length := by omega
      go_wp2
      go_ret
      exact ⟨rfl, HB.out⟩
theorem eq_ser (s : Ser) (a a' : Option Addr) (cap cap' : Nat) (w : World) (h : Pts w a s.pts) (h' : Pts w a' s.pts) (hm : s.pts.length ≤ 1048576) :
    Calls Tryz.prog 97 #[svV ⟨s, a, cap⟩, svV ⟨s, a', cap'⟩] w fun e w' => e = .returned (.bool true) ∧ Below w.heap.size w w' := by
  unfold svV
  have H := Lib.hid h
  have H' := Lib.hid h'
  clear h h'
  go_enter Tryz.func97, Tryz.ntmps97
  go_wp2_with (go_at_call 130; refine (eq_points s.pts a a' cap cap' _ (H.out.kept (box2_below _ _ _)) (H'.out.kept (box2_below _ _ _)) hm).mono ?_; rintro e w2 ⟨rfl, hb⟩; have HB := Lib.hid ((box2_below _ _ _).trans (hb.mono (box2_below _ _ _).size)); clear hb)
  go_ret
  exact ⟨rfl, HB.out⟩
theorem eq_series (ls ms : List Sv) (a a' : Option Addr) (cap cap' : Nat) (w : World) (hs : ms.map Sv.s = ls.map Sv.s) (h : Srs w a ls) (h' : Srs w a' ms) (hm : ls.length ≤ 1048576) (hp : ∀ l ∈ ls, l.s.pts.length ≤ 1048576) :
    Calls Tryz.prog 44 #[.slice a ls.length cap, .slice a' ls.length cap'] w fun e w' => e = .returned (.bool true) ∧ Below w.heap.size w w' := by
  have hl : ms.length = ls.length := by have := congrArg List.length hs; simpa using this
  have heq : ∀ (k : Nat) (h1 : k < ls.length) (h2 : k < ms.length), ms[k].s = ls[k].s := fun k h1 h2 => by
    have h3 : (ms.map Sv.s)[k]? = (ls.map Sv.s)[k]? := by rw [hs]
    simpa [h1, h2] using h3
  obtain ⟨b, off, ha, hb, hcell⟩ := h.cells
  obtain ⟨b', off', ha', hb', hcell'⟩ := h'.cells
  have HE := Lib.hid heq
  have HP := Lib.hid hp
  have HLen := Lib.hid hl
  have Hc := Lib.hid hcell
  have Ha := Lib.hid ha
  have Hb := Lib.hid hb
  have Hc' := Lib.hid hcell'
  have Ha' := Lib.hid ha'
  have Hb' := Lib.hid hb'
  clear hcell ha hb hcell' ha' hb' h h' hs heq hl hp
  have mixed : Tryz.prog.follows .mixedOrders = true := by kernel_rfl
  go_enter Tryz.func44, Tryz.ntmps44
  go_wp2
  go_loopw [5] (fun i wr => ∃ k : Nat, k ≤ ls.length ∧ i = .int .i64 k ∧ Hid (Below w.heap.size w wr)) (fun i _ => ls.length - (intOf i).toNat)
  case atStart => exact ⟨0, Nat.zero_le _, rfl, Below.refl _ _⟩
  case round =>
    obtain ⟨k, hk, rfl, HB⟩ := hrel
    by_cases hlt : k < ls.length
    · have hlt' : k < ms.length := by have := HLen.out; omega
      obtain rfl := Ha.out (by omega)
      obtain rfl := Ha'.out (by omega)
      have hbb := Nat.lt_of_lt_of_le (Hb.out (by omega)) HB.out.size
      have hbb' := Nat.lt_of_lt_of_le (Hb'.out (by omega)) HB.out.size
      obtain ⟨⟨q0, q1, q2⟩, hpt⟩ := Hc.out k hlt
      obtain ⟨⟨p0, p1, p2⟩, hpt'⟩ := Hc'.out k hlt'
      have hc : ∀ {bb j v}, bb < w.heap.size → w.cell? ⟨bb, j, none⟩ = some v → wr.cell? ⟨bb, j, none⟩ = some v := fun hb hv => (HB.out.cell (p := ⟨_, _, none⟩) hb).trans hv
      have Q0 := later_cell hbb (hc (Hb.out (by omega)) q0)
      have Q1 := later_cell hbb (hc (Hb.out (by omega)) q1)
      have Q2 := later_cell hbb (hc (Hb.out (by omega)) q2)
      rw [HE.out k hlt hlt'] at p0 p1 p2 hpt'
      have P0 := later_cell hbb' (hc (Hb'.out (by omega)) p0)
      have P1 := later_cell hbb' (hc (Hb'.out (by omega)) p1)
      have P2 := later_cell hbb' (hc (Hb'.out (by omega)) p2)
      have hpl := HP.out ls[k] (List.getElem_mem hlt)
      have hcall : ∀ p : Later wr, Calls Tryz.prog 97 #[.agg #[.string ls[k].s.pod, .string ls[k].s.met, .slice ls[k].a ls[k].s.pts.length ls[k].cap], .agg #[.string ls[k].s.pod, .string ls[k].s.met, .slice ms[k].a ls[k].s.pts.length ms[k].cap]] p.u fun e w' => e = .returned (.bool true) ∧ Below p.u.heap.size p.u w' :=
        fun p => eq_ser ls[k].s ls[k].a ms[k].a ls[k].cap ms[k].cap p.u ((hpt.kept HB.out).kept p.h) ((hpt'.kept HB.out).kept p.h) hpl
      have HCALL := Lib.hid hcall
      clear q0 q1 q2 p0 p1 p2 hpt hpt' hc hbb hbb' hpl hcall
      go_wp2_with fail
      refine region_later mixed (by kernel_rfl) ?_
      repeat (quiet_step (first | (go_at_call 97; exact later_call (HCALL.out _))))
      refine wpQuiet_nil ?_
      intro _ hw'
      obtain ⟨⟨w1, hw1⟩, rfl⟩ := hw'
      have HB2 := Lib.hid (HB.out.trans (hw1.mono HB.out.size))
      clear hw1 Q0 Q1 Q2 P0 P1 P2 HCALL
      go_wp2
      go_roundw
      case rel => exact ⟨k + 1, by omega, by go_num, HB2⟩
      case measure => simp [intOf]; omega
    · obtain rfl : k = ls.length := by omega
      go_wp2
      go_ret
      exact ⟨rfl, HB.out⟩
end Go.Proofs.YtgmdfkmmbcpikaaGreat.Ser2
