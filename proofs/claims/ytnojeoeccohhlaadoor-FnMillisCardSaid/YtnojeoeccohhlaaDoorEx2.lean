/- Plain facts behind the law FnMillis: a mean lies between the least and the greatest. -/
import Derived.Test.YtnojeoeccohhlaaDoorDraw2
import Derived.Test.YtnojeoeccohhlaaDoorC1L
import Derived.Test.YtnojeoeccohhlaaDoorMp
namespace Go.Proofs.YtnojeoeccohhlaaDoor.Ex2
open Go.RowKit Go.Deep
open Go.Proofs.YtnojeoeccohhlaaDoor.C1 Go.Proofs.YtnojeoeccohhlaaDoor.C1L Go.Proofs.YtnojeoeccohhlaaDoor.Draw Go.Proofs.YtnojeoeccohhlaaDoor.Milli Go.Proofs.YtnojeoeccohhlaaDoor.MilliP
set_option linter.unusedVariables false

def isum : List Int → Int
  | [] => 0
  | x :: l => x + isum l
theorem fold_exact (l : List Int) : ∀ p : Int × Bool, (l.foldl sumStep p).2 = false → p.2 = false ∧ (l.foldl sumStep p).1 = p.1 + isum l := by
  induction l with
  | nil => intro p h; exact ⟨h, by simp [isum]⟩
  | cons x l ih =>
    intro p h
    rw [List.foldl_cons] at h ⊢
    obtain ⟨h1, h2⟩ := ih _ h
    unfold sumStep at h1
    simp only [Bool.or_eq_false_iff] at h1
    rcases cut_ways (p.1 + x) with ⟨_, _, e⟩ | ⟨_, _, e⟩ | ⟨_, _, e, _⟩
    · rw [e] at h1; cases h1.2
    · rw [e] at h1; cases h1.2
    · refine ⟨h1.1, ?_⟩
      rw [h2]
      show cutV (p.1 + x) + isum l = p.1 + (x + isum l)
      rw [e]
      omega
theorem isum_bd {L M : Int} (l : List Int) (h : ∀ x ∈ l, L ≤ x ∧ x ≤ M) : L * l.length ≤ isum l ∧ isum l ≤ M * l.length := by
  induction l with
  | nil => simp [isum]
  | cons x l ih =>
    have h1 := ih fun y hy => h y (by simp [hy])
    have h2 := h x (by simp)
    have e1 : L * ((x :: l).length : Int) = L * l.length + L := by rw [List.length_cons, Int.natCast_add, Int.mul_add]; simp
    have e2 : M * ((x :: l).length : Int) = M * l.length + M := by rw [List.length_cons, Int.natCast_add, Int.mul_add]; simp
    rw [e1, e2]
    show L * l.length + L ≤ x + isum l ∧ x + isum l ≤ M * l.length + M
    omega
theorem mean_between {xs : List Int} {L M : Int} (hp : 0 < xs.length) (hb : addB xs = false) (h : ∀ j (hj : j < xs.length), L ≤ xs[j] ∧ xs[j] ≤ M) : L ≤ flD (addV xs) xs.length ∧ flD (addV xs) xs.length ≤ M := by
  have hok : addOk xs = true := by
    cases g : addOk xs with
    | true => rfl
    | false => unfold addB at hb; rw [g] at hb; cases hb
  have hs : addV xs = isum xs := by
    unfold addB at hb
    rw [hok] at hb
    unfold addV
    rw [hok]
    have := (fold_exact xs (0, false) hb).2
    simpa [sumL] using this
  obtain ⟨b1, b2⟩ := isum_bd (L := L) (M := M) xs (fun x hx => by obtain ⟨j, hj, rfl⟩ := List.getElem_of_mem hx; exact h j hj)
  have hn : 0 < (xs.length : Int) := by omega
  unfold flD
  rw [if_neg (by omega), hs]
  exact ⟨Int.le_ediv_of_mul_le hn b1, Int.ediv_le_of_le_mul hn b2⟩

theorem milli_cases (v : Int) (h1 : -1000000001 ≤ v) (h2 : v ≤ 1000000001) :
    ((mk (milli v)).size ≤ 1048576) ∧
    ((v < -1000000000 ∧ pmB (milli v) = false ∧ (mk (milli v)).toList.isEmpty = true) ∨
     (-1000000000 ≤ v ∧ v < 0 ∧ pmB (milli v) = true ∧ pmV (milli v) = v ∧ (mk (milli v)).toList.isEmpty = false) ∨
     (0 ≤ v ∧ v ≤ 1000000000 ∧ pmB (milli v) = true ∧ pmV (milli v) = v ∧ (mk (milli v)).toList.isEmpty = false ∧ nbV v v 0 = true) ∨
     (1000000000 < v ∧ pmB (milli v) = false ∧ (mk (milli v)).toList.isEmpty = true)) := by
  have good : isVal v = true → (mk (milli v)).size ≤ 1048576 ∧ pmB (milli v) = true ∧ pmV (milli v) = v ∧ (mk (milli v)).toList.isEmpty = false := by
    intro hv
    obtain ⟨_, _, _, hl, hne, _⟩ := scan_milli hv
    obtain ⟨p1, p2⟩ := pm_of rfl hne
    refine ⟨by rw [mk_size]; omega, p1, p2, ?_⟩
    rw [ByteArray.toList_eq, mk_list]
    cases h : milli v with
    | nil => exact absurd h hne
    | cons a b => rfl
  have bad : isVal v = false → (mk (milli v)).size ≤ 1048576 ∧ pmB (milli v) = false ∧ (mk (milli v)).toList.isEmpty = true := by
    intro hv
    have hm : milli v = [] := by unfold milli; rw [hv]; rfl
    rw [hm]
    exact ⟨by rw [mk_size]; simp, (pm_no (by simp)).1, by rw [ByteArray.toList_eq, mk_list]; rfl⟩
  by_cases hv : -1000000000 ≤ v ∧ v ≤ 1000000000
  · have hi : isVal v = true := by unfold isVal; simp [hv.1, hv.2]
    obtain ⟨g1, g2, g3, g4⟩ := good hi
    refine ⟨g1, ?_⟩
    by_cases hn : v < 0
    · exact .inr (.inl ⟨hv.1, hn, g2, g3, g4⟩)
    · refine .inr (.inr (.inl ⟨by omega, hv.2, g2, g3, g4, ?_⟩))
      have hb : nbOk v v 0 = true := by unfold nbOk inB; simp; omega
      unfold nbV
      rw [hb]
      simp
  · have hi : isVal v = false := by unfold isVal; simp; omega
    obtain ⟨g1, g2, g3⟩ := bad hi
    refine ⟨g1, ?_⟩
    by_cases hn : v < 0
    · exact .inl ⟨by omega, g2, g3⟩
    · exact .inr (.inr (.inr ⟨by omega, g2, g3⟩))
/-- The frame's word of a slice of bytes that came in, in these. -/
theorem of_row_bytes {w : World} {a : Option Addr} {len cap : Nat} {zs : List Int}
    (h : (a = none ∧ len = 0 ∧ cap = 0 ∧ zs = []) ∨ ∃ x, a = some x ∧ len ≤ cap ∧ cap ≤ maxLen ∧ zs.length = cap ∧ (∀ i, i < zs.length → w.cell? (x.add i) = some (.int .u8 (zs.getD i 0))) ∧ ∀ n ∈ zs, (Lit.int .u8 n).wf = true) :
    BytesAt w a len := by
  rcases h with ⟨rfl, rfl, rfl, rfl⟩ | ⟨x, rfl, h1, h2, h3, h4, h5⟩
  · exact .inl rfl
  · by_cases hp : 0 < zs.length
    · obtain ⟨b, off, rfl, hc⟩ := ints_at h4 hp
      refine .inr ⟨b, off, rfl, World.block_lt_of_cell? _ _ (hc 0 hp), fun i hi => ?_⟩
      have hi2 : i < zs.length := by omega
      have hb := bounds_u8 (h5 _ (List.getElem_mem hi2))
      exact ⟨zs[i], hb.1, hb.2, by rw [hc i hi2]; simp [hi2]⟩
    · exact .inl (by omega)
end Go.Proofs.YtnojeoeccohhlaaDoor.Ex2
