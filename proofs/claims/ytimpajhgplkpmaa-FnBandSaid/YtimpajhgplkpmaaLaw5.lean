/- Chapter 5's laws: the arithmetic behind them. -/
import Derived.Test.YtimpajhgplkpmaaWantS
namespace Go.Proofs.Ytimpajhgplkpmaa.Law5
open Go.RowKit Go.Deep
open Go.Proofs.Ytimpajhgplkpmaa.C1 Go.Proofs.Ytimpajhgplkpmaa.Gl Go.Proofs.Ytimpajhgplkpmaa.Rf Go.Proofs.Ytimpajhgplkpmaa.Want
set_option linter.unusedVariables false

theorem cl_two (a b : Int) (hb : 1 ≤ b) : a ≤ clD a b * b ∧ (clD a b - 1) * b < a := by
  unfold clD
  rw [if_neg (by omega)]
  have h1 := Int.mul_ediv_add_emod (-a) b
  have h2 := Int.emod_nonneg (-a) (show b ≠ 0 by omega)
  have h3 := Int.emod_lt_of_pos (-a) (show 0 < b by omega)
  generalize (-a) / b = q at h1
  have e1 : (-q) * b = -(b * q) := by rw [Int.neg_mul, Int.mul_comm]
  have e2 : (-q - 1) * b = -(b * q) - b := by rw [Int.sub_mul, e1, Int.one_mul]
  rw [e1, e2]
  omega
theorem cl_nonneg {a b : Int} (ha : 0 ≤ a) (hb : 1 ≤ b) : 0 ≤ clD a b := by
  have h := (cl_two a b hb).1
  apply Decidable.byContradiction
  intro hn
  have h2 := Int.mul_le_mul_of_nonneg_right (show clD a b ≤ -1 by omega) (show (0 : Int) ≤ b by omega)
  omega
theorem cl_mono {a a' b : Int} (h : a ≤ a') (hb : 1 ≤ b) : clD a b ≤ clD a' b := by
  unfold clD
  rw [if_neg (by omega), if_neg (by omega)]
  have := Int.ediv_le_ediv (show 0 < b by omega) (show -a' ≤ -a by omega)
  omega
theorem jd_ways {s n : Int} {g : Gl} (h1 : ldOk s n = true) (h2 : okG g = true) (hx : inB g.tar 1 1000000 = true) :
    (bandV s n g = true ∧ jdV s n g = 0 ∧ (rsV s n g.tar = -1 ∨ rsV s n g.tar = 0 ∨ rsV s n g.tar = 1)) ∨ (bandV s n g = false ∧ jdV s n g = rsV s n g.tar ∧ (rsV s n g.tar = -1 ∨ rsV s n g.tar = 1)) := by
  unfold jdV
  have hr := rs_good h1 hx
  cases e : bandV s n g
  · refine .inr ⟨rfl, by simp, ?_⟩
    rcases hr with ⟨_, z⟩ | ⟨_, z⟩ | ⟨z, _⟩
    · exact .inl z
    · exact .inr z
    · rw [band_same h1 h2 z] at e; cases e
  · refine .inl ⟨rfl, by simp, ?_⟩
    rcases hr with ⟨_, z⟩ | ⟨_, z⟩ | ⟨_, z⟩
    · exact .inl z
    · exact .inr (.inr z)
    · exact .inr (.inl z)
theorem band_law {c : Int} {t : Ty} {g : Gl} (h1 : inB c 0 1000 = true) (h2 : okU t = true) (h3 : okG g = true) :
    (0 ≤ wV c t g ∧ wV c t g ≤ 1000) ∧ (0 ≤ wV c t g * g.tar ∧ wV c t g * g.tar ≤ 1000000000) ∧ (-1000000 ≤ (wV c t g - 1) * g.tar ∧ (wV c t g - 1) * g.tar ≤ 1000000000) ∧
    ((bandV t.sum t.rdy g = true ∧ wV c t g = c ∧ (rsV t.sum t.rdy g.tar = -1 ∨ rsV t.sum t.rdy g.tar = 0 ∨ rsV t.sum t.rdy g.tar = 1)) ∨ (bandV t.sum t.rdy g = false ∧ rsV t.sum t.rdy g.tar = -1 ∧ wV c t g ≤ c) ∨ (bandV t.sum t.rdy g = false ∧ rsV t.sum t.rdy g.tar = 1 ∧ c ≤ wV c t g)) ∧
    (wV c t g = c ∨ wV c t g = 1000 ∨ (rS t g.tar ≤ wV c t g * g.tar ∧ (wV c t g - 1) * g.tar < rS t g.tar)) := by
  obtain ⟨-, ⟨t1, t2⟩, -⟩ := (okG_iff g).1 h3
  obtain ⟨⟨r1, r2⟩, ⟨u1, u2⟩, ⟨m1, m2⟩, s1, s2⟩ := (okU_iff t).1 h2
  obtain ⟨c1, c2⟩ := in_iff.1 h1
  have hx := in_yes t1 t2
  have hl : ldOk t.sum t.rdy = true := (ldOk_iff _ _).2 ⟨⟨s1, s2⟩, r1, by omega⟩
  have hj := jd_ways hl h3 hx
  obtain ⟨a1, a2, -⟩ := bd_refill t g.tar h2 hx
  have k0 := cl_nonneg a1 t1
  have k1 := cl_two (rS t g.tar) g.tar t1
  have key : (0 ≤ wV c t g ∧ wV c t g ≤ 1000) ∧ (wV c t g = c ∨ ((jdV t.sum t.rdy g = 1 ∧ c ≤ wV c t g ∨ jdV t.sum t.rdy g ≠ 0 ∧ jdV t.sum t.rdy g ≠ 1 ∧ wV c t g ≤ c) ∧ (wV c t g = 1000 ∨ wV c t g = clD (rS t g.tar) g.tar))) := by
    unfold wV
    generalize jdV (rS t g.tar) (rN t g.tar) g = j2
    generalize jdV t.sum t.rdy g = j1 at *
    generalize clD (rS t g.tar) g.tar = y at *
    clear hj hl k1
    split
    · exact ⟨⟨c1, c2⟩, .inl rfl⟩
    · rename_i hn
      split
      · rename_i hj
        refine ⟨by omega, ?_⟩
        by_cases e : max (min y 1000) c = c
        · exact .inl e
        · refine .inr ⟨.inl ⟨by omega, by omega⟩, by omega⟩
      · rename_i hj
        refine ⟨by omega, ?_⟩
        by_cases e : min (min y 1000) c = c
        · exact .inl e
        · refine .inr ⟨.inr ⟨by omega, by omega, by omega⟩, by omega⟩
  obtain ⟨⟨v1, v2⟩, hv⟩ := key
  generalize wV c t g = v at *
  have p1 := Int.mul_le_mul_of_nonneg_right v2 (show (0 : Int) ≤ g.tar by omega)
  have p0 := Int.mul_nonneg v1 (show (0 : Int) ≤ g.tar by omega)
  have e2 : (v - 1) * g.tar = v * g.tar - g.tar := by rw [Int.sub_mul, Int.one_mul]
  refine ⟨⟨v1, v2⟩, ⟨p0, by omega⟩, by omega, ?_, ?_⟩
  · rcases hv with rfl | ⟨hv, -⟩
    · rcases hj with ⟨b, -, r⟩ | ⟨b, -, r | r⟩
      · exact .inl ⟨b, rfl, r⟩
      · exact .inr (.inl ⟨b, r, Int.le_refl _⟩)
      · exact .inr (.inr ⟨b, r, Int.le_refl _⟩)
    · rcases hj with ⟨b, j, r⟩ | ⟨b, j, r⟩
      · omega
      · rcases hv with ⟨q1, q2⟩ | ⟨q0, q1, q2⟩
        · exact .inr (.inr ⟨b, by omega, q2⟩)
        · exact .inr (.inl ⟨b, by omega, q2⟩)
  · rcases hv with hv | ⟨-, hv | rfl⟩
    · exact .inl hv
    · exact .inr (.inl hv)
    · exact .inr (.inr k1)
/-- The tally without who is missing or unready. -/
def allT (t : Ty) : Ty := ⟨t.rdy, 0, 0, t.sum⟩
theorem allU {t : Ty} (h : okU t = true) : okU (allT t) = true := by
  obtain ⟨h1, h2, h3, h4⟩ := (okU_iff t).1 h
  exact (okU_iff _).2 ⟨h1, by simp [allT], by simp [allT], h4⟩
theorem miss_law {c : Int} {t : Ty} {g : Gl} (h1 : inB c 0 1000 = true) (h2 : okU t = true) (h3 : okG g = true) :
    (wV c (allT t) g ≤ c ∧ wV c (allT t) g ≤ wV c t g ∧ wV c t g ≤ c) ∨ (c ≤ wV c (allT t) g ∧ c ≤ wV c t g ∧ wV c t g ≤ wV c (allT t) g) := by
  obtain ⟨-, ⟨t1, t2⟩, -⟩ := (okG_iff g).1 h3
  obtain ⟨⟨r1, r2⟩, ⟨u1, u2⟩, ⟨m1, m2⟩, s1, s2⟩ := (okU_iff t).1 h2
  have hx := in_yes t1 t2
  have hl : ldOk t.sum t.rdy = true := (ldOk_iff _ _).2 ⟨⟨s1, s2⟩, r1, by omega⟩
  have hj := jd_ways hl h3 hx
  have hS0 : rS (allT t) g.tar = t.sum := by unfold rS allT; simp
  have hN0 : rN (allT t) g.tar = t.rdy := by unfold rN allT; simp
  have hm := Int.mul_nonneg m1 (show (0 : Int) ≤ g.tar by omega)
  have hS : (rsV t.sum t.rdy g.tar = -1 ∧ t.sum ≤ rS t g.tar) ∨ (rsV t.sum t.rdy g.tar ≠ -1 ∧ rS t g.tar = t.sum) := by
    unfold rS
    split
    · rename_i h; exact .inl ⟨h, by omega⟩
    · rename_i h; exact .inr ⟨h, rfl⟩
  unfold wV
  rw [hS0, hN0, show (allT t).sum = t.sum from rfl, show (allT t).rdy = t.rdy from rfl]
  have hmo : t.sum ≤ rS t g.tar → clD t.sum g.tar ≤ clD (rS t g.tar) g.tar := fun h => cl_mono h t1
  have heq : rS t g.tar = t.sum → clD (rS t g.tar) g.tar = clD t.sum g.tar := fun h => by rw [h]
  generalize jdV (rS t g.tar) (rN t g.tar) g = j2
  generalize jdV t.sum t.rdy g = j1 at *
  generalize clD (rS t g.tar) g.tar = y at *
  generalize clD t.sum g.tar = z at *
  generalize rsV t.sum t.rdy g.tar = r at *
  have hyz : (r = -1 ∧ z ≤ y) ∨ (r ≠ -1 ∧ y = z) := by
    rcases hS with ⟨a, b⟩ | ⟨a, b⟩
    · exact .inl ⟨a, hmo b⟩
    · exact .inr ⟨a, heq b⟩
  have hjr : j1 = 0 ∨ (j1 = r ∧ (r = -1 ∨ r = 1)) := by
    rcases hj with ⟨-, a, -⟩ | ⟨-, a, b⟩
    · exact .inl a
    · exact .inr ⟨a, b⟩
  clear hmo heq hS hj hS0 hN0 hl hx hm
  (repeat' split) <;> omega
end Go.Proofs.Ytimpajhgplkpmaa.Law5
