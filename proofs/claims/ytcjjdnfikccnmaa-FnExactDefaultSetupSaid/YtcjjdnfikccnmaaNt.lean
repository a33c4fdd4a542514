/- Slices of notes (rows of two integers, as points lie): sizes, copies, comparisons of equals. -/
import Derived.Test.YtcjjdnfikccnmaaSer2
namespace Go.Proofs.Ytcjjdnfikccnmaa.Nt
open Go.RowKit Go.Deep
open Go.ChangeShapes Go.WideShapes
open Go.Proofs.Ytcjjdnfikccnmaa.C1
open Go.Proofs.Ytcjjdnfikccnmaa.C2
open Go.Proofs.Ytcjjdnfikccnmaa.Smps
open Go.Proofs.Ytcjjdnfikccnmaa.Mem
open Go.Proofs.Ytcjjdnfikccnmaa.Ser
open Go.Proofs.Ytcjjdnfikccnmaa.Ser2 (encP_len zeroP take_set fill_len gf_set2 Off off_lt at2_grown)
set_option linter.unusedVariables false

def OwnP (w : World) (B : Nat) (v : Value) (ps : List Pt) : Prop := w.ownsRow B 93 2 v ps.length (gf encP ps)
theorem OwnP.len {w : World} {B n cap : Nat} {a : Option Addr} {ps : List Pt} (h : OwnP w B (.slice a n cap) ps) : n = ps.length := by
  rcases h.2 with ⟨hv, h0⟩ | ⟨g, cap', cur, hv, hg, hh, _⟩
  · cases hv; exact h0.symm
  · cases hv; rfl
theorem OwnP.at2 {w : World} {B g n cap : Nat} {ps : List Pt} (h : OwnP w B (.slice (some ⟨g, 0, none⟩) n cap) ps) (i : Nat) (hi : i < ps.length) : At2 w g (i * 2) ps[i] := by
  obtain rfl := h.len
  have hc : ∀ j, j < 2 → w.cell? ⟨g, i * 2 + j, none⟩ = (encP ps[i])[j]? := fun j hj => by
    have := World.ownsRow.cellAt h (i * 2 + j) (by omega)
    rw [this, gf_get encP 2 encP_len ps i j hi hj]
  exact ⟨hc 0 (by omega), hc 1 (by omega)⟩
theorem OwnP.frozen {w : World} {B g n cap : Nat} {ps : List Pt} (h : OwnP w B (.slice (some ⟨g, 0, none⟩) n cap) ps) (j : Nat) : w.frozen? ⟨g, j, none⟩ = false := by
  obtain rfl := h.len
  exact World.ownsRow.frozenAt h j
theorem OwnP.pts {w : World} {B n cap : Nat} {a : Option Addr} {ps : List Pt} (h : OwnP w B (.slice a n cap) ps) : Pts w a ps := by
  have h' : w.ownsRow B 93 2 (.slice a n cap) ps.length (gf encP ps) := h
  rcases h.2 with ⟨hv, h0⟩ | ⟨g, cap', cur, hv, hg, hh, _⟩
  · exact .inl (List.length_eq_zero_iff.1 h0)
  · cases hv
    exact .inr ⟨g, 0, rfl, (Array.getElem?_eq_some_iff.1 hh).1, fun i hi => by rw [Nat.zero_add]; exact OwnP.at2 h' i hi⟩
theorem OwnP.kept {w w' : World} {B : Nat} {v : Value} {ps : List Pt} (h : OwnP w B v ps) (hb : Below w.heap.size w w') : OwnP w' B v ps := by
  obtain ⟨h1, h2⟩ := h
  refine ⟨h1, ?_⟩
  rcases h2 with h2 | ⟨g, cap, cur, hv, hg, hh, r⟩
  · exact .inl h2
  · exact .inr ⟨g, cap, cur, hv, hg, by rw [hb.block g (Array.getElem?_eq_some_iff.1 hh).1]; exact hh, r⟩
theorem OwnP.off {w w' : World} {B n cap g : Nat} {a : Option Addr} {ps : List Pt} (h : OwnP w B (.slice a n cap) ps) (ho : Only g w w') (hg : Off g a) : OwnP w' B (.slice a n cap) ps := by
  obtain ⟨h1, h2⟩ := h
  refine ⟨h1, ?_⟩
  rcases h2 with h2 | ⟨g', cap, cur, hv, hg', hh, r⟩
  · exact .inl h2
  · cases hv
    exact .inr ⟨g', cap, cur, rfl, hg', by rw [ho.block g' (Array.getElem?_eq_some_iff.1 hh).1 (hg _ _ _ rfl)]; exact hh, r⟩
theorem OwnP.lt {w : World} {B n cap b o : Nat} {s} {ps : List Pt} (h : OwnP w B (.slice (some ⟨b, o, s⟩) n cap) ps) : B ≤ b ∧ b < w.heap.size := by
  rcases h.2 with ⟨hv, h0⟩ | ⟨g, cap', cur, hv, hg, hh, _⟩
  · cases hv
  · cases hv
    exact ⟨hg, (Array.getElem?_eq_some_iff.1 hh).1⟩
theorem info_pt : (Try.prog.info? 93).map (fun i => (i.zero, i.size, i.bytes)) = some (some (ptV zeroP), 2, 16) := by kernel_rfl
theorem make_pts (n : Nat) (hn : n ≤ 1048576) : ∀ w : World, (Instr.makeSlice 29 (.int .i64 (n : Int)) (.int .i64 (n : Int))).run Try.prog w = .ok (.slice (some ⟨w.heap.size, 0, none⟩) n n) (w.alloc (.cells (madeCells (ptV zeroP).cells (n * 2)) 93)) := by
  obtain ⟨i, hi, hzz⟩ := Option.map_eq_some_iff.1 info_pt
  simp only [Prod.mk.injEq] at hzz
  obtain ⟨hz, hs, hby⟩ := hzz
  have := fun w : World => run_make (P := Try.prog) w 29 93 i (ptV zeroP) Try.underlying29 hi hz .i64 .i64 (n : Int) (n : Int) (by omega) (by omega) (by rw [hby]; omega) (by omega)
  intro w
  rw [this w, hs]
  simp
theorem made_pts (n : Nat) (hn : n ≤ 1048576) (w : World) : OwnP (w.alloc (.cells (madeCells (ptV zeroP).cells (n * 2)) 93)) w.heap.size (.slice (some ⟨w.heap.size, 0, none⟩) n n) (List.replicate n zeroP) := by
  unfold OwnP
  rw [List.length_replicate, ← made_gf encP 2 encP_len (by omega) zeroP n]
  exact World.ownsRow_lit (e := 93) (size := 2) (base := w.heap.size) w (madeCells (ptV zeroP).cells (n * 2)) n (Nat.le_refl _) (by unfold maxLen; omega) (by rw [size_madeCells])
theorem OwnP.put {w : World} {B g n cap : Nat} {ps : List Pt} (h : OwnP w B (.slice (some ⟨g, 0, none⟩) n cap) ps) (k : Nat) (hk : k < ps.length) (p : Pt) :
    OwnP ((w.setCell ⟨g, k * 2, none⟩ (.int .i64 p.tick)).setCell ⟨g, k * 2 + 1, none⟩ (.int .i64 p.val)) B (.slice (some ⟨g, 0, none⟩) n cap) (ps.set k p) := by
  obtain rfl := h.len
  have h1 := (World.ownsRow.stored h (k * 2) (.int .i64 p.tick)).1
  have h2 := (World.ownsRow.stored h1 (k * 2 + 1) (.int .i64 p.val)).1
  rw [gf_set2 ps k p hk] at h2
  unfold OwnP
  rw [List.length_set]
  exact h2
theorem OwnP.mono {w : World} {B B' : Nat} {v : Value} {ps : List Pt} (h : OwnP w B v ps) (hB : B' ≤ B) : OwnP w B' v ps := by
  obtain ⟨h1, h2⟩ := h
  refine ⟨h1, ?_⟩
  rcases h2 with h2 | ⟨g, cap, cur, hv, hg, r⟩
  · exact .inl h2
  · exact .inr ⟨g, cap, cur, hv, by omega, r⟩
theorem OwnP.set {w : World} {B n cap c j : Nat} {a : Option Addr} {ps : List Pt} (h : OwnP w B (.slice a n cap) ps) (u : Value) (hg : Off c a) : OwnP (w.setCell ⟨c, j, none⟩ u) B (.slice a n cap) ps := h.off ((Only.refl c w).setCell j u) hg
def mkP (k n : Nat) : List Pt := (List.range n).map fun i => ⟨((k + 2 * i : Nat) : Int), ((k + 2 * i + 1 : Nat) : Int)⟩
theorem mkP_len (k n : Nat) : (mkP k n).length = n := by simp [mkP]
theorem mkP_get (k n i : Nat) (h : i < (mkP k n).length) : (mkP k n)[i] = ⟨((k + 2 * i : Nat) : Int), ((k + 2 * i + 1 : Nat) : Int)⟩ := by simp [mkP]
def halfP (k : Nat) (ps : List Pt) (i : Nat) : List Pt := (mkP k ps.length).take i ++ ps.drop i
theorem halfP_len (k : Nat) (ps : List Pt) (i : Nat) (h : i ≤ ps.length) : (halfP k ps i).length = ps.length := by unfold halfP; simp [mkP_len]; omega
theorem halfP_set (k : Nat) (ps : List Pt) (i : Nat) (h : i < ps.length) : (halfP k ps i).set i ⟨((k + 2 * i : Nat) : Int), ((k + 2 * i + 1 : Nat) : Int)⟩ = halfP k ps (i + 1) := by
  unfold halfP
  have e2 : i - ((mkP k ps.length).take i).length = 0 := by simp [mkP_len]; omega
  rw [List.set_append, if_neg (by simp [mkP_len]; omega), e2, List.drop_eq_getElem_cons h, List.set_cons_zero, List.take_succ_eq_append_getElem (by rw [mkP_len]; exact h), List.append_assoc, mkP_get]
  rfl
theorem halfP_all (k : Nat) (ps : List Pt) : halfP k ps ps.length = mkP k ps.length := by
  unfold halfP
  rw [List.take_of_length_le (by rw [mkP_len]; exact Nat.le_refl _)]; simp
theorem halfP_none (k : Nat) (ps : List Pt) : halfP k ps 0 = ps := by unfold halfP; simp
def OnlyA (a : Option Addr) (w w' : World) : Prop := (a = none → w' = w) ∧ ∀ b o s, a = some ⟨b, o, s⟩ → Only b w w'
theorem onlyA_none (w : World) : OnlyA none w w := ⟨fun _ => rfl, fun b o s e => by cases e⟩
theorem onlyA_some {g : Nat} {w w' : World} (h : Only g w w') : OnlyA (some ⟨g, 0, none⟩) w w' := by
  refine ⟨fun e => ?_, fun b o s e => ?_⟩
  · cases e
  · cases e; exact h
end Go.Proofs.Ytcjjdnfikccnmaa.Nt
