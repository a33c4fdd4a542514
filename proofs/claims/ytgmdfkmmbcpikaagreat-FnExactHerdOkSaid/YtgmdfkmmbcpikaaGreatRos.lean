/- Rosters (maps of pods by their names), as the proofs read them: 'Is D ps': the map's datum D has just the pods ps; 'ros ls': what a roster of the list ls has; valid lists of pods. Plain mathematics. -/
import Derived.Test.YtgmdfkmmbcpikaaGreatPds
import Derived.Test.YtgmdfkmmbcpikaaGreatKey
import Derived.Maps.RangeWalk
import Derived.Sort.KeysCollected
namespace Go.Proofs.YtgmdfkmmbcpikaaGreat.Ros
open Go.RowKit Go.Sort
open Go.Proofs.YtgmdfkmmbcpikaaGreat.C1
open Go.Proofs.YtgmdfkmmbcpikaaGreat.C2
open Go.Proofs.YtgmdfkmmbcpikaaGreat.Smps
open Go.Proofs.YtgmdfkmmbcpikaaGreat.Mem
open Go.Proofs.YtgmdfkmmbcpikaaGreat.Pd
open Go.Proofs.YtgmdfkmmbcpikaaGreat.Pds
open Go.Proofs.YtgmdfkmmbcpikaaGreat.Key
set_option linter.unusedVariables false

def podD (p : Pd) : DataW Unit := .agg [.lit (.string p.nm.data.toList), .lit (.int .i64 p.born), .lit (.int .i64 p.ph), .lit (.bool p.rdy)]
theorem nm_eq {x y : ByteArray} (h : x.data.toList = y.data.toList) : x = y := ByteArray.ext (Array.toList_inj.1 h)
theorem podD_inj {p q : Pd} (h : podD p = podD q) : p = q := by
  obtain ⟨a, b, c, d⟩ := p
  obtain ⟨a', b', c', d'⟩ := q
  simp only [podD, DataW.agg.injEq, List.cons.injEq, DataW.lit.injEq, Lit.string.injEq, Lit.int.injEq, Lit.bool.injEq, true_and, and_true] at h
  obtain ⟨h1, h2, h3, h4⟩ := h
  rw [nm_eq h1, h2, h3, h4]
theorem podV_inj {p q : Pd} (h : podV p = podV q) : p = q := by
  obtain ⟨a, b, c, d⟩ := p
  obtain ⟨a', b', c', d'⟩ := q
  simp only [podV, Value.agg.injEq, Array.mk.injEq, List.cons.injEq, Value.string.injEq, Value.int.injEq, Value.bool.injEq, true_and, and_true] at h
  obtain ⟨h1, h2, h3, h4⟩ := h
  rw [h1, h2, h3, h4]
open Classical in
noncomputable def podR (v : Value) : Option (DataW Unit × List MemPlace) := if h : ∃ p, v = podV p then some (podD h.choose, []) else none
theorem podR_mk (p : Pd) : podR (podV p) = some (podD p, []) := by
  have h : ∃ q, podV p = podV q := ⟨p, rfl⟩
  unfold podR
  rw [dif_pos h, podV_inj h.choose_spec.symm]
theorem podR_inv {v : Value} {y : DataW Unit × List MemPlace} (h : podR v = some y) : ∃ p, v = podV p ∧ y = (podD p, []) := by
  unfold podR at h
  split at h
  · rename_i h1
    obtain ⟨p, rfl⟩ := h1
    have := podR_mk p
    unfold podR at this
    rw [dif_pos ⟨p, rfl⟩] at this
    exact ⟨p, rfl, (Option.some.inj h).symm.trans (Option.some.inj this)⟩
  · cases h

def pk (p : Pd) : Lit := .string p.nm.data.toList
theorem pk_key (p : Pd) : WideAt.IsKeyLit (pk p) := trivial
theorem pk_inj {p q : Pd} (h : pk p = pk q) : p.nm = q.nm := nm_eq (Lit.string.inj h)
theorem pk_ne {p q : Pd} (h : p.nm ≠ q.nm) : pk p ≠ pk q := fun e => h (pk_inj e)
theorem pk_eq {p q : Pd} (h : p.nm = q.nm) : pk p = pk q := by unfold pk; rw [h]
def notNm (x : Pd) (p : Pd) : Bool := decide (p.nm.data.toList ≠ x.nm.data.toList)
theorem notNm_yes {x p : Pd} : notNm x p = true ↔ p.nm ≠ x.nm := by
  unfold notNm
  rw [decide_eq_true_eq]
  exact ⟨fun h e => h (by rw [e]), fun h e => h (nm_eq e)⟩
/-- Without the pod of that name. -/
def wo (x : Pd) (ps : List Pd) : List Pd := ps.filter (notNm x)
theorem wo_mem {x p : Pd} {ps : List Pd} : p ∈ wo x ps ↔ p ∈ ps ∧ p.nm ≠ x.nm := by
  unfold wo
  rw [List.mem_filter, notNm_yes]
def Apart (ps : List Pd) : Prop := ps.Pairwise (fun p q => p.nm ≠ q.nm)
theorem Apart.wo {ps : List Pd} (h : Apart ps) (x : Pd) : Apart (wo x ps) := h.filter _
theorem wo_self {x : Pd} {ps : List Pd} (h : ∀ p ∈ ps, p.nm ≠ x.nm) : wo x ps = ps := List.filter_eq_self.2 fun p hp => notNm_yes.2 (h p hp)
theorem wo_len {x : Pd} : ∀ {ps : List Pd}, Apart ps → ((∃ p ∈ ps, p.nm = x.nm) → (wo x ps).length + 1 = ps.length) ∧ ((¬ ∃ p ∈ ps, p.nm = x.nm) → (wo x ps).length = ps.length)
  | [], _ => ⟨fun ⟨p, hp, _⟩ => by simp at hp, fun _ => rfl⟩
  | y :: r, h => by
    obtain ⟨h1, h2⟩ := List.pairwise_cons.1 h
    obtain ⟨i1, i2⟩ := wo_len (x := x) h2
    by_cases e : y.nm = x.nm
    · have hr : ¬ ∃ p ∈ r, p.nm = x.nm := fun ⟨p, hp, ep⟩ => h1 p hp (e.trans ep.symm)
      have hw : wo x (y :: r) = wo x r := by
        unfold wo
        rw [List.filter_cons_of_neg (by rw [Bool.not_eq_true]; unfold notNm; simp [e])]
      refine ⟨fun _ => by rw [hw, i2 hr]; simp, fun hn => absurd ⟨y, by simp, e⟩ hn⟩
    · have hw : wo x (y :: r) = y :: wo x r := by
        unfold wo
        rw [List.filter_cons_of_pos (notNm_yes.2 e)]
      refine ⟨fun ⟨p, hp, ep⟩ => ?_, fun hn => ?_⟩
      · rcases List.mem_cons.1 hp with rfl | hp
        · exact absurd ep e
        · have := i1 ⟨p, hp, ep⟩
          rw [hw]
          simp only [List.length_cons]
          omega
      · have := i2 (fun ⟨p, hp, ep⟩ => hn ⟨p, by simp [hp], ep⟩)
        rw [hw]
        simp only [List.length_cons]
        omega

/-- The map that reads as D has just the pods ps, each under its name. -/
structure Is (D : DataW Unit) (ps : List Pd) : Prop where
  tidy : Maps.Tidy D
  apart : Apart ps
  has : ∀ kl, Maps.has D kl = true ↔ ∃ p ∈ ps, kl = pk p
  at_ : ∀ p ∈ ps, ∀ zd, D.atKey (pk p) zd = podD p
  size : Maps.size D = ps.length
theorem Is.empty : Is (.map []) [] := ⟨Maps.tidy_empty, List.Pairwise.nil, fun kl => by simp [Maps.has], fun p hp => by simp at hp, rfl⟩
theorem apart_snoc {ps : List Pd} (h : Apart ps) (x : Pd) : Apart (wo x ps ++ [x]) := by
  refine List.pairwise_append.2 ⟨h.wo x, List.pairwise_singleton _ _, fun a ha b hb => ?_⟩
  rw [List.mem_singleton] at hb
  subst hb
  exact (wo_mem.1 ha).2
theorem Is.put {D : DataW Unit} {ps : List Pd} (h : Is D ps) (x : Pd) : Is (D.put (pk x) (podD x)) (wo x ps ++ [x]) := by
  refine ⟨h.tidy.put (pk_key x) _, apart_snoc h.apart x, fun kl => ?_, fun p hp zd => ?_, ?_⟩
  · by_cases e : kl = pk x
    · subst e
      rw [Maps.has_put_same h.tidy.isMap (pk_key x)]
      exact ⟨fun _ => ⟨x, by simp, rfl⟩, fun _ => rfl⟩
    · rw [Maps.has_put_other e, h.has]
      constructor
      · rintro ⟨p, hp, rfl⟩
        exact ⟨p, List.mem_append_left _ (wo_mem.2 ⟨hp, fun e2 => e (pk_eq e2)⟩), rfl⟩
      · rintro ⟨p, hp, rfl⟩
        rcases List.mem_append.1 hp with hp | hp
        · exact ⟨p, (wo_mem.1 hp).1, rfl⟩
        · rw [List.mem_singleton] at hp
          subst hp
          exact absurd rfl e
  · rcases List.mem_append.1 hp with hp | hp
    · obtain ⟨h1, h2⟩ := wo_mem.1 hp
      rw [Maps.atKey_put_other (pk_ne h2)]
      exact h.at_ p h1 zd
    · rw [List.mem_singleton] at hp
      subst hp
      exact Maps.atKey_put_same h.tidy.isMap (pk_key p) _ _
  · rw [Maps.size_put h.tidy, h.size]
    obtain ⟨i1, i2⟩ := wo_len (x := x) h.apart
    rw [List.length_append, List.length_singleton]
    by_cases e : ∃ p ∈ ps, p.nm = x.nm
    · obtain ⟨p, hp, ep⟩ := e
      rw [if_pos ((h.has _).2 ⟨p, hp, (pk_eq ep).symm⟩)]
      exact (i1 ⟨p, hp, ep⟩).symm
    · rw [if_neg (fun hh => by
        obtain ⟨p, hp, ep⟩ := (h.has _).1 hh
        exact e ⟨p, hp, (pk_inj ep).symm⟩), i2 e]
theorem Is.del {D : DataW Unit} {ps : List Pd} (h : Is D ps) (x : Pd) : Is (D.del (pk x)) (wo x ps) := by
  refine ⟨h.tidy.del _, h.apart.wo x, fun kl => ?_, fun p hp zd => ?_, ?_⟩
  · by_cases e : kl = pk x
    · subst e
      rw [Maps.has_del_same]
      refine Iff.intro (fun hh => Bool.noConfusion hh) (fun hh => ?_)
      obtain ⟨p, hp, ep⟩ := hh
      exact absurd (pk_inj ep).symm (wo_mem.1 hp).2
    · rw [Maps.has_del_other e, h.has]
      constructor
      · rintro ⟨p, hp, rfl⟩
        exact ⟨p, wo_mem.2 ⟨hp, fun e2 => e (pk_eq e2)⟩, rfl⟩
      · rintro ⟨p, hp, rfl⟩
        exact ⟨p, (wo_mem.1 hp).1, rfl⟩
  · obtain ⟨h1, h2⟩ := wo_mem.1 hp
    rw [Maps.atKey_del_other (pk_ne h2)]
    exact h.at_ p h1 zd
  · have := Maps.size_del (k := pk x) h.tidy
    rw [h.size] at this
    obtain ⟨i1, i2⟩ := wo_len (x := x) h.apart
    by_cases e : ∃ p ∈ ps, p.nm = x.nm
    · obtain ⟨p, hp, ep⟩ := e
      rw [if_pos ((h.has _).2 ⟨p, hp, (pk_eq ep).symm⟩)] at this
      have := i1 ⟨p, hp, ep⟩
      omega
    · rw [if_neg (fun hh => by
        obtain ⟨p, hp, ep⟩ := (h.has _).1 hh
        exact e ⟨p, hp, (pk_inj ep).symm⟩)] at this
      have := i2 e
      omega
/-- What a key of the map leads to. -/
theorem Is.find {D : DataW Unit} {ps : List Pd} (h : Is D ps) {kl : Lit} (hk : Maps.has D kl = true) {q : Pd} (hat : ∀ zd, D.atKey kl zd = podD q) : q ∈ ps ∧ kl = pk q := by
  obtain ⟨p, hp, rfl⟩ := (h.has kl).1 hk
  have := h.at_ p hp .nil
  rw [hat .nil] at this
  rw [podD_inj this]
  exact ⟨hp, rfl⟩

/-- What the roster of a list has. -/
def ros (ls : List Pd) : List Pd := ls.foldl (fun ps p => wo p ps ++ [p]) []
theorem ros_snoc (ls : List Pd) (p : Pd) : ros (ls ++ [p]) = wo p (ros ls) ++ [p] := by unfold ros; rw [List.foldl_append]; rfl
theorem ros_self_go : ∀ (ls acc : List Pd), Apart (acc ++ ls) → ls.foldl (fun ps p => wo p ps ++ [p]) acc = acc ++ ls
  | [], acc, _ => by simp
  | p :: r, acc, h => by
    have h1 : wo p acc = acc := wo_self fun q hq => (List.pairwise_append.1 h).2.2 q hq p (by simp)
    show r.foldl _ (wo p acc ++ [p]) = _
    rw [h1, ros_self_go r (acc ++ [p]) (by simpa using h)]
    simp
theorem ros_self {ls : List Pd} (h : Apart ls) : ros ls = ls := by
  have := ros_self_go ls [] (by simpa using h)
  simpa [ros] using this
theorem ros_len_go : ∀ (ls acc : List Pd), (ls.foldl (fun ps p => wo p ps ++ [p]) acc).length ≤ acc.length + ls.length
  | [], acc => by simp
  | p :: r, acc => by
    have h1 := ros_len_go r (wo p acc ++ [p])
    have h2 : (wo p acc).length ≤ acc.length := List.length_filter_le _ _
    simp only [List.foldl_cons, List.length_append, List.length_cons, List.length_nil] at h1 ⊢
    omega
theorem ros_len (ls : List Pd) : (ros ls).length ≤ ls.length := by
  have := ros_len_go ls []
  unfold ros
  simpa using this

/-! ### Valid lists. -/
def Up (ls : List Pd) : Prop := ls.Pairwise (fun p q => p.nm.data.toList < q.nm.data.toList)
theorem Up.apart {ls : List Pd} (h : Up ls) : Apart ls := h.imp (fun {p q} h e => by rw [e] at h; exact List.lt_irrefl _ h)
/-- Sorted, with the pods of the roster of ls: ls itself just if ls was sorted without repeats. -/
theorem sorted_is {qs ls : List Pd} (hp : qs.Perm (ros ls)) (hs : Up qs) : qs = ls ↔ Up ls := by
  constructor
  · rintro rfl; exact hs
  · intro h
    rw [ros_self h.apart] at hp
    exact List.Perm.eq_of_pairwise (le := fun p q : Pd => p.nm.data.toList < q.nm.data.toList) (fun a b _ _ h1 h2 => absurd (List.lt_trans h1 h2) (List.lt_irrefl _)) hs h hp
theorem up_pairs {ls : List Pd} (h : ∀ (i : Nat) (hi : i + 1 < ls.length), ls[i].nm.data.toList < ls[i + 1].nm.data.toList) : ∀ (j i : Nat) (hj : j < ls.length) (hi : i < j), ls[i].nm.data.toList < ls[j].nm.data.toList
  | 0, i, _, hi => absurd hi (by omega)
  | j + 1, i, hj, hi => by
    have h1 := h j hj
    by_cases e : i = j
    · subst e; exact h1
    · exact List.lt_trans (up_pairs h j i (by omega) (by omega)) h1
theorem up_iff {ls : List Pd} : Up ls ↔ ∀ (i : Nat) (hi : i + 1 < ls.length), lessV ls[i].nm ls[i + 1].nm = true := by
  unfold Up
  rw [List.pairwise_iff_getElem]
  constructor
  · intro h i hi
    exact decide_eq_true (h i (i + 1) (by omega) hi (by omega))
  · intro h i j hi hj hij
    exact up_pairs (fun i hi => of_decide_eq_true (h i hi)) j i hj hij
/-- A valid list of pods. -/
noncomputable def podsV (ls : List Pd) : Bool := @decide (ls.length ≤ 12 ∧ (∀ p ∈ ls, okP p = true) ∧ Up ls) (Classical.propDecidable _)
theorem podsV_iff (ls : List Pd) : podsV ls = true ↔ ls.length ≤ 12 ∧ (∀ p ∈ ls, okP p = true) ∧ Up ls := by unfold podsV; exact @decide_eq_true_iff _ (Classical.propDecidable _)
theorem podsV_no {ls : List Pd} (h : ¬ (ls.length ≤ 12 ∧ (∀ p ∈ ls, okP p = true) ∧ Up ls)) : podsV ls = false := by
  cases hv : podsV ls
  · rfl
  · exact absurd ((podsV_iff ls).1 hv) h
/-- Those that run. -/
def runs (p : Pd) : Bool := p.ph == 0
theorem runs_up {ls : List Pd} (h : Up ls) : Up (ls.filter runs) := h.filter _
theorem sorted_runs {qs ls : List Pd} (hp : qs.Perm ((ros ls).filter runs)) (hs : Up qs) (h : Up ls) : qs = ls.filter runs := by
  rw [ros_self h.apart] at hp
  exact List.Perm.eq_of_pairwise (le := fun p q : Pd => p.nm.data.toList < q.nm.data.toList) (fun a b _ _ h1 h2 => absurd (List.lt_trans h1 h2) (List.lt_irrefl _)) hs (runs_up h) hp

/-! ### A roster under a range: the pods met so far. -/
structure Met (ps : List Pd) (left : Lit → Bool) (ss : List Pd) : Prop where
  apart : Apart ss
  of : ∀ p ∈ ss, p ∈ ps ∧ left (pk p) = false
  all : ∀ p ∈ ps, left (pk p) = false → p ∈ ss
theorem Met.start {D : DataW Unit} {ps : List Pd} (h : Is D ps) : Met ps (Maps.has D) [] :=
  ⟨List.Pairwise.nil, fun p hp => by simp at hp, fun p hp hl => by rw [(h.has _).2 ⟨p, hp, rfl⟩] at hl; cases hl⟩
theorem Met.step {ps : List Pd} {left : Lit → Bool} {ss : List Pd} (h : Met ps left ss) (ha : Apart ps) {q : Pd} (hq : q ∈ ps) (hl : left (pk q) = true) : Met ps (fun z => left z && !z.sameKey (pk q)) (ss ++ [q]) := by
  refine ⟨List.pairwise_append.2 ⟨h.apart, List.pairwise_singleton _ _, fun a ha b hb e => ?_⟩, fun p hp => ?_, fun p hp hf => ?_⟩
  · rw [List.mem_singleton] at hb
    subst hb
    have := (h.of a ha).2
    rw [pk_eq e, hl] at this
    cases this
  · rcases List.mem_append.1 hp with hp | hp
    · exact ⟨(h.of p hp).1, by rw [(h.of p hp).2]; rfl⟩
    · rw [List.mem_singleton] at hp
      subst hp
      exact ⟨hq, by rw [WideAt.sameKey_self (pk_key p)]; simp⟩
  · cases hlp : left (pk p)
    · exact List.mem_append_left _ (h.all p hp hlp)
    · rw [hlp, Bool.true_and, Bool.not_eq_false'] at hf
      have e := pk_inj (WideAt.sameKey_eq hf)
      have : p = q := by
        obtain ⟨i, hi, rfl⟩ := List.mem_iff_getElem.1 hp
        obtain ⟨j, hj, rfl⟩ := List.mem_iff_getElem.1 hq
        have hg := List.pairwise_iff_getElem.1 ha
        rcases Nat.lt_trichotomy i j with h | h | h
        · exact absurd e (hg i j hi hj h)
        · subst h; rfl
        · exact absurd e.symm (hg j i hj hi h)
      subst this
      simp
theorem Apart.nodup {ps : List Pd} (h : Apart ps) : ps.Nodup := h.imp (fun {p q} h e => h (by rw [e]))
theorem Met.perm {ps : List Pd} {left : Lit → Bool} {ss : List Pd} (h : Met ps left ss) (ha : Apart ps) (hl : ∀ kl, left kl = false) : ss.Perm ps :=
  (List.perm_ext_iff_of_nodup h.apart.nodup ha.nodup).2 fun p => ⟨fun hp => (h.of p hp).1, fun hp => h.all p hp (hl _)⟩

/-! ### A roster from which a range deletes. -/
def stay (left : Lit → Bool) (p : Pd) : Bool := runs p || left (pk p)
theorem stay_start {D : DataW Unit} {ps : List Pd} (h : Is D ps) : ps.filter (stay (Maps.has D)) = ps :=
  List.filter_eq_self.2 fun p hp => by unfold stay; rw [(h.has _).2 ⟨p, hp, rfl⟩, Bool.or_true]
theorem stay_end {ps : List Pd} {left : Lit → Bool} (hl : ∀ kl, left kl = false) : ps.filter (stay left) = ps.filter runs :=
  List.filter_congr fun p _ => by unfold stay; rw [hl, Bool.or_false]
theorem stay_keep {ps : List Pd} {left : Lit → Bool} {q : Pd} (ha : Apart ps) (hq : q ∈ ps) (hr : runs q = true) : ps.filter (stay fun z => left z && !z.sameKey (pk q)) = ps.filter (stay left) :=
  List.filter_congr fun p hp => by
    unfold stay
    by_cases e : p.nm = q.nm
    · have : p = q := by
        obtain ⟨i, hi, rfl⟩ := List.mem_iff_getElem.1 hp
        obtain ⟨j, hj, rfl⟩ := List.mem_iff_getElem.1 hq
        have hg := List.pairwise_iff_getElem.1 ha
        rcases Nat.lt_trichotomy i j with h | h | h
        · exact absurd e (hg i j hi hj h)
        · subst h; rfl
        · exact absurd e.symm (hg j i hj hi h)
      subst this
      rw [hr]; rfl
    · simp only [Maps.sameKey_ne (pk_ne e)]
      simp
theorem stay_strike {ps : List Pd} {left : Lit → Bool} {q : Pd} (hr : runs q = false) (ha : Apart ps) (hq : q ∈ ps) : ps.filter (stay fun z => left z && !z.sameKey (pk q)) = wo q (ps.filter (stay left)) := by
  unfold wo
  rw [List.filter_filter]
  refine List.filter_congr fun p hp => ?_
  unfold stay
  by_cases e : p.nm = q.nm
  · have : p = q := by
      obtain ⟨i, hi, rfl⟩ := List.mem_iff_getElem.1 hp
      obtain ⟨j, hj, rfl⟩ := List.mem_iff_getElem.1 hq
      have hg := List.pairwise_iff_getElem.1 ha
      rcases Nat.lt_trichotomy i j with h | h | h
      · exact absurd e (hg i j hi hj h)
      · subst h; rfl
      · exact absurd e.symm (hg j i hj hi h)
    subst this
    have hn : notNm p p = false := by unfold notNm; simp
    simp only [hr, hn, WideAt.sameKey_self (pk_key p)]
    simp
  · simp only [Maps.sameKey_ne (pk_ne e), notNm_yes.2 e]
    simp
end Go.Proofs.YtgmdfkmmbcpikaaGreat.Ros
