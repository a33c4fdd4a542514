/- Rosters (maps of pods by their names), as the proofs read them: 'Is D ps': the map's datum D has just the pods ps; 'ros ls': what a roster of the list ls has; valid lists of pods. Plain mathematics. -/
import Derived.Test.YtgmdfkmmbcpikaaGreatPds
import Derived.Test.YtgmdfkmmbcpikaaGreatKey
import Derived.Maps.RangeWalk
import Derived.Sort.KeysCollected
import Derived.Test.YtgmdfkmmbcpikaaGreatShelf
import Derived.Maps.AppendAt
import Derived.Sort.OwnSorted
import Derived.Laws.StructEq
import Derived.ChangeKeysEq
import Derived.Test.YtgmdfkmmbcpikaaGreatSto
namespace Go.Proofs.YtgmdfkmmbcpikaaGreat.Ros
open Go.RowKit Go.Sort
open Go.Proofs.YtgmdfkmmbcpikaaGreat.C1
open Go.Proofs.YtgmdfkmmbcpikaaGreat.C2
open Go.Proofs.YtgmdfkmmbcpikaaGreat.Smps
open Go.Proofs.YtgmdfkmmbcpikaaGreat.Mem
open Go.Proofs.YtgmdfkmmbcpikaaGreat.Pd
open Go.Proofs.YtgmdfkmmbcpikaaGreat.Pds
open Go.Proofs.YtgmdfkmmbcpikaaGreat.Key
set_option linter.unusedVariables false

def podD (p : Pd) : DataW Unit := .agg [.lit (.string p.nm.data.toList), .lit (.int .i64 p.born), .lit (.int .i64 p.ph), .lit (.bool p.rdy)]
theorem nm_eq {x y : ByteArray} (h : x.data.toList = y.data.toList) : x = y := ByteArray.ext (Array.toList_inj.1 h)
theorem podD_inj {p q : Pd} (h : podD p = podD q) : p = q := by
  obtain ⟨a, b, c, d⟩ := p
  obtain ⟨a', b', c', d'⟩ := q
  simp only [podD, DataW.agg.injEq, List.cons.injEq, DataW.lit.injEq, Lit.string.injEq, Lit.int.injEq, Lit.bool.injEq, true_and, and_true] at h
  obtain ⟨h1, h2, h3, h4⟩ := h
  rw [nm_eq h1, h2, h3, h4]
theorem podV_inj {p q : Pd} (h : podV p = podV q) : p = q := by
  obtain ⟨a, b, c, d⟩ := p
  obtain ⟨a', b', c', d'⟩ := q
  simp only [podV, Value.agg.injEq, Array.mk.injEq, List.cons.injEq, Value.string.injEq, Value.int.injEq, Value.bool.injEq, true_and, and_true] at h
  obtain ⟨h1, h2, h3, h4⟩ := h
  rw [h1, h2, h3, h4]
open Classical in
noncomputable def podR (v : Value) : Option (DataW Unit × List MemPlace) := if h : ∃ p, v = podV p then some (podD h.choose, []) else none
theorem podR_mk (p : Pd) : podR (podV p) = some (podD p, []) := by
  have h : ∃ q, podV p = podV q := ⟨p, rfl⟩
  unfold podR
  rw [dif_pos h, podV_inj h.choose_spec.symm]
theorem podR_inv {v : Value} {y : DataW Unit × List MemPlace} (h : podR v = some y) : ∃ p, v = podV p ∧ y = (podD p, []) := by
  unfold podR at h
  split at h
  · rename_i h1
    obtain ⟨p, rfl⟩ := h1
    have := podR_mk p
    unfold podR at this
    rw [dif_pos ⟨p, rfl⟩] at this
    exact ⟨p, rfl, (Option.some.inj h).symm.trans (Option.some.inj this)⟩
  · cases h

def pk (p : Pd) : Lit := .string p.nm.data.toList
theorem pk_key (p : Pd) : WideAt.IsKeyLit (pk p) := trivial
theorem pk_inj {p q : Pd} (h : pk p = pk q) : p.nm = q.nm := nm_eq (Lit.string.inj h)
theorem pk_ne {p q : Pd} (h : p.nm ≠ q.nm) : pk p ≠ pk q := fun e => h (pk_inj e)
theorem pk_eq {p q : Pd} (h : p.nm = q.nm) : pk p = pk q := by unfold pk; rw [h]
def notNm (x : Pd) (p : Pd) : Bool := decide (p.nm.data.toList ≠ x.nm.data.toList)
theorem notNm_yes {x p : Pd} : notNm x p = true ↔ p.nm ≠ x.nm := by
  unfold notNm
  rw [decide_eq_true_eq]
  exact ⟨fun h e => h (by rw [e]), fun h e => h (nm_eq e)⟩
/-- Without the pod of that name. -/
def wo (x : Pd) (ps : List Pd) : List Pd := ps.filter (notNm x)
theorem wo_mem {x p : Pd} {ps : List Pd} : p ∈ wo x ps ↔ p ∈ ps ∧ p.nm ≠ x.nm := by
  unfold wo
  rw [List.mem_filter, notNm_yes]
def Apart (ps : List Pd) : Prop := ps.Pairwise (fun p q => p.nm ≠ q.nm)
theorem Apart.wo {ps : List Pd} (h : Apart ps) (x : Pd) : Apart (wo x ps) := h.filter _
theorem wo_self {x : Pd} {ps : List Pd} (h : ∀ p ∈ ps, p.nm ≠ x.nm) : wo x ps = ps := List.filter_eq_self.2 fun p hp => notNm_yes.2 (h p hp)
theorem wo_len {x : Pd} : ∀ {ps : List Pd}, Apart ps → ((∃ p ∈ ps, p.nm = x.nm) → (wo x ps).length + 1 = ps.length) ∧ ((¬ ∃ p ∈ ps, p.nm = x.nm) → (wo x ps).length = ps.length)
  | [], _ => ⟨fun ⟨p, hp, _⟩ => by simp at hp, fun _ => rfl⟩
  | y :: r, h => by
    obtain ⟨h1, h2⟩ := List.pairwise_cons.1 h
    obtain ⟨i1, i2⟩ := wo_len (x := x) h2
    by_cases e : y.nm = x.nm
    · have hr : ¬ ∃ p ∈ r, p.nm = x.nm := fun ⟨p, hp, ep⟩ => h1 p hp (e.trans ep.symm)
      have hw : wo x (y :: r) = wo x r := by
        unfold wo
        rw [List.filter_cons_of_neg (by rw [Bool.not_eq_true]; unfold notNm; simp [e])]
      refine ⟨fun _ => by rw [hw, i2 hr]; simp, fun hn => absurd ⟨y, by simp, e⟩ hn⟩
    · have hw : wo x (y :: r) = y :: wo x r := by
        unfold wo
        rw [List.filter_cons_of_pos (notNm_yes.2 e)]
      refine ⟨fun ⟨p, hp, ep⟩ => ?_, fun hn => ?_⟩
      · rcases List.mem_cons.1 hp with rfl | hp
        · exact absurd ep e
        · have := i1 ⟨p, hp, ep⟩
          rw [hw]
          simp only [List.length_cons]
          omega
      · have := i2 (fun ⟨p, hp, ep⟩ => hn ⟨p, by simp [hp], ep⟩)
        rw [hw]
        simp only [List.length_cons]
        omega

/-- The map that reads as D has just the pods ps, each under its name. -/
structure Is (D : DataW Unit) (ps : List Pd) : Prop where
  tidy : Maps.Tidy D
  apart : Apart ps
  has : ∀ kl, Maps.has D kl = true ↔ ∃ p ∈ ps, kl = pk p
  at_ : ∀ p ∈ ps, ∀ zd, D.atKey (pk p) zd = podD p
  size : Maps.size D = ps.length
theorem Is.empty : Is (.map []) [] := ⟨Maps.tidy_empty, List.Pairwise.nil, fun kl => by simp [Maps.has], fun p hp => by simp at hp, rfl⟩
theorem apart_snoc {ps : List Pd} (h : Apart ps) (x : Pd) : Apart (wo x ps ++ [x]) := by
  refine List.pairwise_append.2 ⟨h.wo x, List.pairwise_singleton _ _, fun a ha b hb => ?_⟩
  rw [List.mem_singleton] at hb
  subst hb
  exact (wo_mem.1 ha).2
theorem Is.put {D : DataW Unit} {ps : List Pd} (h : Is D ps) (x : Pd) : Is (D.put (pk x) (podD x)) (wo x ps ++ [x]) := by
  refine ⟨h.tidy.put (pk_key x) _, apart_snoc h.apart x, fun kl => ?_, fun p hp zd => ?_, ?_⟩
  · by_cases e : kl = pk x
    · subst e
      rw [Maps.has_put_same h.tidy.isMap (pk_key x)]
      exact ⟨fun _ => ⟨x, by simp, rfl⟩, fun _ => rfl⟩
    · rw [Maps.has_put_other e, h.has]
      constructor
      · rintro ⟨p, hp, rfl⟩
        exact ⟨p, List.mem_append_left _ (wo_mem.2 ⟨hp, fun e2 => e (pk_eq e2)⟩), rfl⟩
      · rintro ⟨p, hp, rfl⟩
        rcases List.mem_append.1 hp with hp | hp
        · exact ⟨p, (wo_mem.1 hp).1, rfl⟩
        · rw [List.mem_singleton] at hp
          subst hp
          exact absurd rfl e
  · rcases List.mem_append.1 hp with hp | hp
    · obtain ⟨h1, h2⟩ := wo_mem.1 hp
      rw [Maps.atKey_put_other (pk_ne h2)]
      exact h.at_ p h1 zd
    · rw [List.mem_singleton] at hp
      subst hp
      exact Maps.atKey_put_same h.tidy.isMap (pk_key p) _ _
  · rw [Maps.size_put h.tidy, h.size]
    obtain ⟨i1, i2⟩ := wo_len (x := x) h.apart
    rw [List.length_append, List.length_singleton]
    by_cases e : ∃ p ∈ ps, p.nm = x.nm
    · obtain ⟨p, hp, ep⟩ := e
      rw [if_pos ((h.has _).2 ⟨p, hp, (pk_eq ep).symm⟩)]
      exact (i1 ⟨p, hp, ep⟩).symm
    · rw [if_neg (fun hh => by
        obtain ⟨p, hp, ep⟩ := (h.has _).1 hh
        exact e ⟨p, hp, (pk_inj ep).symm⟩), i2 e]
theorem Is.del {D : DataW Unit} {ps : List Pd} (h : Is D ps) (x : Pd) : Is (D.del (pk x)) (wo x ps) := by
  refine ⟨h.tidy.del _, h.apart.wo x, fun kl => ?_, fun p hp zd => ?_, ?_⟩
  · by_cases e : kl = pk x
    · subst e
      rw [Maps.has_del_same]
      refine Iff.intro (fun hh => Bool.noConfusion hh) (fun hh => ?_)
      obtain ⟨p, hp, ep⟩ := hh
      exact absurd (pk_inj ep).symm (wo_mem.1 hp).2
    · rw [Maps.has_del_other e, h.has]
      constructor
      · rintro ⟨p, hp, rfl⟩
        exact ⟨p, wo_mem.2 ⟨hp, fun e2 => e (pk_eq e2)⟩, rfl⟩
      · rintro ⟨p, hp, rfl⟩
        exact ⟨p, (wo_mem.1 hp).1, rfl⟩
  · obtain ⟨h1, h2⟩ := wo_mem.1 hp
    rw [Maps.atKey_del_other (pk_ne h2)]
    exact h.at_ p h1 zd
  · have := Maps.size_del (k := pk x) h.tidy
    rw [h.size] at this
    obtain ⟨i1, i2⟩ := wo_len (x := x) h.apart
    by_cases e : ∃ p ∈ ps, p.nm = x.nm
    · obtain ⟨p, hp, ep⟩ := e
      rw [if_pos ((h.has _).2 ⟨p, hp, (pk_eq ep).symm⟩)] at this
      have := i1 ⟨p, hp, ep⟩
      omega
    · rw [if_neg (fun hh => by
        obtain ⟨p, hp, ep⟩ := (h.has _).1 hh
        exact e ⟨p, hp, (pk_inj ep).symm⟩)] at this
      have := i2 e
      omega
/-- What a key of the map leads to. -/
theorem Is.find {D : DataW Unit} {ps : List Pd} (h : Is D ps) {kl : Lit} (hk : Maps.has D kl = true) {q : Pd} (hat : ∀ zd, D.atKey kl zd = podD q) : q ∈ ps ∧ kl = pk q := by
  obtain ⟨p, hp, rfl⟩ := (h.has kl).1 hk
  have := h.at_ p hp .nil
  rw [hat .nil] at this
  rw [podD_inj this]
  exact ⟨hp, rfl⟩

/-- What the roster of a list has. -/
def ros (ls : List Pd) : List Pd := ls.foldl (fun ps p => wo p ps ++ [p]) []
theorem ros_snoc (ls : List Pd) (p : Pd) : ros (ls ++ [p]) = wo p (ros ls) ++ [p] := by unfold ros; rw [List.foldl_append]; rfl
theorem ros_self_go : ∀ (ls acc : List Pd), Apart (acc ++ ls) → ls.foldl (fun ps p => wo p ps ++ [p]) acc = acc ++ ls
  | [], acc, _ => by simp
  | p :: r, acc, h => by
    have h1 : wo p acc = acc := wo_self fun q hq => (List.pairwise_append.1 h).2.2 q hq p (by simp)
    show r.foldl _ (wo p acc ++ [p]) = _
    rw [h1, ros_self_go r (acc ++ [p]) (by simpa using h)]
    simp
theorem ros_self {ls : List Pd} (h : Apart ls) : ros ls = ls := by
  have := ros_self_go ls [] (by simpa using h)
  simpa [ros] using this
theorem ros_len_go : ∀ (ls acc : List Pd), (ls.foldl (fun ps p => wo p ps ++ [p]) acc).length ≤ acc.length + ls.length
  | [], acc => by simp
  | p :: r, acc => by
    have h1 := ros_len_go r (wo p acc ++ [p])
    have h2 : (wo p acc).length ≤ acc.length := List.length_filter_le _ _
    simp only [List.foldl_cons, List.length_append, List.length_cons, List.length_nil] at h1 ⊢
    omega
theorem ros_len (ls : List Pd) : (ros ls).length ≤ ls.length := by
  have := ros_len_go ls []
  unfold ros
  simpa using this

/-! ### Valid lists. -/
def Up (ls : List Pd) : Prop := ls.Pairwise (fun p q => p.nm.data.toList < q.nm.data.toList)
theorem Up.apart {ls : List Pd} (h : Up ls) : Apart ls := h.imp (fun {p q} h e => by rw [e] at h; exact List.lt_irrefl _ h)
/-- Sorted, with the pods of the roster of ls: ls itself just if ls was sorted without repeats. -/
theorem sorted_is {qs ls : List Pd} (hp : qs.Perm (ros ls)) (hs : Up qs) : qs = ls ↔ Up ls := by
  constructor
  · rintro rfl; exact hs
  · intro h
    rw [ros_self h.apart] at hp
    exact List.Perm.eq_of_pairwise (le := fun p q : Pd => p.nm.data.toList < q.nm.data.toList) (fun a b _ _ h1 h2 => absurd (List.lt_trans h1 h2) (List.lt_irrefl _)) hs h hp
theorem up_pairs {ls : List Pd} (h : ∀ (i : Nat) (hi : i + 1 < ls.length), ls[i].nm.data.toList < ls[i + 1].nm.data.toList) : ∀ (j i : Nat) (hj : j < ls.length) (hi : i < j), ls[i].nm.data.toList < ls[j].nm.data.toList
  | 0, i, _, hi => absurd hi (by omega)
  | j + 1, i, hj, hi => by
    have h1 := h j hj
    by_cases e : i = j
    · subst e; exact h1
    · exact List.lt_trans (up_pairs h j i (by omega) (by omega)) h1
theorem up_iff {ls : List Pd} : Up ls ↔ ∀ (i : Nat) (hi : i + 1 < ls.length), lessV ls[i].nm ls[i + 1].nm = true := by
  unfold Up
  rw [List.pairwise_iff_getElem]
  constructor
  · intro h i hi
    exact decide_eq_true (h i (i + 1) (by omega) hi (by omega))
  · intro h i j hi hj hij
    exact up_pairs (fun i hi => of_decide_eq_true (h i hi)) j i hj hij
/-- A valid list of pods. -/
noncomputable def podsV (ls : List Pd) : Bool := @decide (ls.length ≤ 12 ∧ (∀ p ∈ ls, okP p = true) ∧ Up ls) (Classical.propDecidable _)
theorem podsV_iff (ls : List Pd) : podsV ls = true ↔ ls.length ≤ 12 ∧ (∀ p ∈ ls, okP p = true) ∧ Up ls := by unfold podsV; exact @decide_eq_true_iff _ (Classical.propDecidable _)
theorem podsV_no {ls : List Pd} (h : ¬ (ls.length ≤ 12 ∧ (∀ p ∈ ls, okP p = true) ∧ Up ls)) : podsV ls = false := by
  cases hv : podsV ls
  · rfl
  · exact absurd ((podsV_iff ls).1 hv) h
/-- Those that run. -/
def runs (p : Pd) : Bool := p.ph == 0
theorem runs_up {ls : List Pd} (h : Up ls) : Up (ls.filter runs) := h.filter _
theorem sorted_runs {qs ls : List Pd} (hp : qs.Perm ((ros ls).filter runs)) (hs : Up qs) (h : Up ls) : qs = ls.filter runs := by
  rw [ros_self h.apart] at hp
  exact List.Perm.eq_of_pairwise (le := fun p q : Pd => p.nm.data.toList < q.nm.data.toList) (fun a b _ _ h1 h2 => absurd (List.lt_trans h1 h2) (List.lt_irrefl _)) hs (runs_up h) hp

/-! ### A roster under a range: the pods met so far. -/
structure Met (ps : List Pd) (left : Lit → Bool) (ss : List Pd) : Prop where
  apart : Apart ss
  of : ∀ p ∈ ss, p ∈ ps ∧ left (pk p) = false
  all : ∀ p ∈ ps, left (pk p) = false → p ∈ ss
theorem Met.start {D : DataW Unit} {ps : List Pd} (h : Is D ps) : Met ps (Maps.has D) [] :=
  ⟨List.Pairwise.nil, fun p hp => by simp at hp, fun p hp hl => by rw [(h.has _).2 ⟨p, hp, rfl⟩] at hl; cases hl⟩
theorem Met.step {ps : List Pd} {left : Lit → Bool} {ss : List Pd} (h : Met ps left ss) (ha : Apart ps) {q : Pd} (hq : q ∈ ps) (hl : left (pk q) = true) : Met ps (fun z => left z && !z.sameKey (pk q)) (ss ++ [q]) := by
  refine ⟨List.pairwise_append.2 ⟨h.apart, List.pairwise_singleton _ _, fun a ha b hb e => ?_⟩, fun p hp => ?_, fun p hp hf => ?_⟩
  · rw [List.mem_singleton] at hb
    subst hb
    have := (h.of a ha).2
    rw [pk_eq e, hl] at this
    cases this
  · rcases List.mem_append.1 hp with hp | hp
    · exact ⟨(h.of p hp).1, by rw [(h.of p hp).2]; rfl⟩
    · rw [List.mem_singleton] at hp
      subst hp
      exact ⟨hq, by rw [WideAt.sameKey_self (pk_key p)]; simp⟩
  · cases hlp : left (pk p)
    · exact List.mem_append_left _ (h.all p hp hlp)
    · rw [hlp, Bool.true_and, Bool.not_eq_false'] at hf
      have e := pk_inj (WideAt.sameKey_eq hf)
      have : p = q := by
        obtain ⟨i, hi, rfl⟩ := List.mem_iff_getElem.1 hp
        obtain ⟨j, hj, rfl⟩ := List.mem_iff_getElem.1 hq
        have hg := List.pairwise_iff_getElem.1 ha
        rcases Nat.lt_trichotomy i j with h | h | h
        · exact absurd e (hg i j hi hj h)
        · subst h; rfl
        · exact absurd e.symm (hg j i hj hi h)
      subst this
      simp
theorem Apart.nodup {ps : List Pd} (h : Apart ps) : ps.Nodup := h.imp (fun {p q} h e => h (by rw [e]))
theorem Met.perm {ps : List Pd} {left : Lit → Bool} {ss : List Pd} (h : Met ps left ss) (ha : Apart ps) (hl : ∀ kl, left kl = false) : ss.Perm ps :=
  (List.perm_ext_iff_of_nodup h.apart.nodup ha.nodup).2 fun p => ⟨fun hp => (h.of p hp).1, fun hp => h.all p hp (hl _)⟩

/-! ### A roster from which a range deletes. -/
def stay (left : Lit → Bool) (p : Pd) : Bool := runs p || left (pk p)
theorem stay_start {D : DataW Unit} {ps : List Pd} (h : Is D ps) : ps.filter (stay (Maps.has D)) = ps :=
  List.filter_eq_self.2 fun p hp => by unfold stay; rw [(h.has _).2 ⟨p, hp, rfl⟩, Bool.or_true]
theorem stay_end {ps : List Pd} {left : Lit → Bool} (hl : ∀ kl, left kl = false) : ps.filter (stay left) = ps.filter runs :=
  List.filter_congr fun p _ => by unfold stay; rw [hl, Bool.or_false]
theorem stay_keep {ps : List Pd} {left : Lit → Bool} {q : Pd} (ha : Apart ps) (hq : q ∈ ps) (hr : runs q = true) : ps.filter (stay fun z => left z && !z.sameKey (pk q)) = ps.filter (stay left) :=
  List.filter_congr fun p hp => by
    unfold stay
    by_cases e : p.nm = q.nm
    · have : p = q := by
        obtain ⟨i, hi, rfl⟩ := List.mem_iff_getElem.1 hp
        obtain ⟨j, hj, rfl⟩ := List.mem_iff_getElem.1 hq
        have hg := List.pairwise_iff_getElem.1 ha
        rcases Nat.lt_trichotomy i j with h | h | h
        · exact absurd e (hg i j hi hj h)
        · subst h; rfl
        · exact absurd e.symm (hg j i hj hi h)
      subst this
      rw [hr]; rfl
    · simp only [Maps.sameKey_ne (pk_ne e)]
      simp
theorem stay_strike {ps : List Pd} {left : Lit → Bool} {q : Pd} (hr : runs q = false) (ha : Apart ps) (hq : q ∈ ps) : ps.filter (stay fun z => left z && !z.sameKey (pk q)) = wo q (ps.filter (stay left)) := by
  unfold wo
  rw [List.filter_filter]
  refine List.filter_congr fun p hp => ?_
  unfold stay
  by_cases e : p.nm = q.nm
  · have : p = q := by
      obtain ⟨i, hi, rfl⟩ := List.mem_iff_getElem.1 hp
      obtain ⟨j, hj, rfl⟩ := List.mem_iff_getElem.1 hq
      have hg := List.pairwise_iff_getElem.1 ha
      rcases Nat.lt_trichotomy i j with h | h | h
      · exact absurd e (hg i j hi hj h)
      · subst h; rfl
      · exact absurd e.symm (hg j i hj hi h)
    subst this
    have hn : notNm p p = false := by unfold notNm; simp
    simp only [hr, hn, WideAt.sameKey_self (pk_key p)]
    simp
  · simp only [Maps.sameKey_ne (pk_ne e), notNm_yes.2 e]
    simp
end Go.Proofs.YtgmdfkmmbcpikaaGreat.Ros

/- The program's rosters: rosterOf, pods (collected in whatever order, then sorted). -/
namespace Go.Proofs.YtgmdfkmmbcpikaaGreat.RosI
open Go.RowKit Go.Sort Go.Maps
open Go.Proofs.YtgmdfkmmbcpikaaGreat.C1
open Go.Proofs.YtgmdfkmmbcpikaaGreat.C2
open Go.Proofs.YtgmdfkmmbcpikaaGreat.Smps
open Go.Proofs.YtgmdfkmmbcpikaaGreat.Mem
open Go.Proofs.YtgmdfkmmbcpikaaGreat.Pd
open Go.Proofs.YtgmdfkmmbcpikaaGreat.Pds
open Go.Proofs.YtgmdfkmmbcpikaaGreat.Key
open Go.Proofs.YtgmdfkmmbcpikaaGreat.Ros
set_option linter.unusedVariables false

theorem keyed : Keyed Tryz.prog 9 := string_keyed Tryz.underlying9
theorem map_t : Tryz.prog.underlying 135 = some (.map 9 115) := by kernel_rfl
theorem key_of (p : Pd) (h : p.nm.size ≤ maxLen) : keyOf Tryz.prog 9 (.string p.nm) = some (pk p) := WideMaps.keyOf_string_mk Tryz.underlying9 h
theorem make_map (n : Nat) (w : World) : (Instr.makeMap 135 (some (.int .i64 (n : Int)))).run Tryz.prog w = .ok (.map (some w.heap.size)) (w.alloc (.map #[] 0)) := by
  simp [Instr.makeMap, run_underlying map_t, asInt, asIntOf, Result.andThen]
abbrev RM (w : World) (b n : Nat) (D : DataW Unit) : Prop := w.ownsMap Tryz.prog 9 podR b n D
set_option maxHeartbeats 1000000 in
theorem roster_of (ls : List Pd) (hwf : ∀ p ∈ ls, p.wf) (a : Option Addr) (cap : Nat) (w : World) (h : Pds w a ls) (hm : ls.length ≤ 1048576) :
    Calls Tryz.prog 85 #[.slice a ls.length cap] w fun e w' => ∃ D, e = .returned (.map (some w.heap.size)) ∧ RM w' w.heap.size ls.length D ∧ Is D (ros ls) ∧ Below w.heap.size w w' := by
  obtain ⟨b, off, ha, hb, hcell⟩ := h.cells
  have hmk := make_map ls.length
  have hmade := World.ownsMap_made w Tryz.prog 9 podR
  have hbel : Below w.heap.size w (w.alloc (.map #[] 0)) := (Below.refl _ _).alloc (Nat.le_refl _) _
  have HM := Lib.hid hmade
  have HBL := Lib.hid hbel
  have Hc := Lib.hid hcell
  have Ha := Lib.hid ha
  have Hb := Lib.hid hb
  have HW := Lib.hid hwf
  clear hmade hbel hcell ha hb h hwf
  go_enter Tryz.func85, Tryz.ntmps85
  go_wp2
  go_loopw [11] (fun i wr => ∃ (k : Nat) (D : DataW Unit), k ≤ ls.length ∧ i = .int .i64 k ∧ Hid (RM wr w.heap.size k D) ∧ Hid (Is D (ros (ls.take k))) ∧ Hid (Below w.heap.size w wr)) (fun i _ => ls.length - (intOf i).toNat)
  case atStart => exact ⟨0, .map [], Nat.zero_le _, rfl, HM.out, Is.empty, HBL.out⟩
  case round =>
    clear hmk
    obtain ⟨k, D, hk, rfl, HO, HI, HB⟩ := hrel
    by_cases hlt : k < ls.length
    · obtain ⟨p, hp⟩ : ∃ p, ls[k] = p := ⟨_, rfl⟩
      have hwp := HW.out _ (List.getElem_mem hlt)
      have hq := (Hc.out k hlt).kept HB.out (Hb.out (by omega))
      obtain rfl := Ha.out (by omega)
      have HT : Hid (ls.take (k + 1) = ls.take k ++ [p]) := by show _ = _; rw [List.take_succ_eq_append_getElem hlt, hp]
      rw [hp] at hwp hq
      obtain ⟨q0, q1, q2, q3⟩ := hq
      clear hp
      have hkey := key_of p hwp.nm
      have hval : podR (.agg #[.string p.nm, .int .i64 p.born, .int .i64 p.ph, .bool p.rdy]) = some (podD p, []) := podR_mk p
      have HBX := Lib.hid (HB.out.alloc HB.out.size (.cells #[.string p.nm, .int .i64 p.born, .int .i64 p.ph, .bool p.rdy] 115))
      have HOX := Lib.hid (World.ownsMap.alloc HO.out (.cells #[.string p.nm, .int .i64 p.born, .int .i64 p.ph, .bool p.rdy] 115))
      have HIX : Hid (Is (D.put (pk p) (podD p)) (ros (ls.take (k + 1)))) := by
        show Is _ _
        rw [HT.out, ros_snoc]
        exact HI.out.put p
      have hkm : k < maxLen := by unfold maxLen; omega
      clear hwp
      go_wp2_with (at_mapUpdate; refine wpList_mapUpdate_own _ rfl _ _ _ 135 rfl 9 115 keyed map_t podR w.heap.size k D rfl HOX.out hkm _ _ (pk p) rfl rfl hkey (podD p) [] hval ?_; intro w1 hown1 hgrow1; have HO1 := Lib.hid hown1; have HB1 := Lib.hid (HBX.out.grown hgrow1 HBX.out.size (fun j hj => by cases hj; exact Nat.le_refl _)); clear hown1 hgrow1)
      clear q0 q1 q2 q3 hkey hval
      go_wp2
      go_roundw
      case rel => exact ⟨k + 1, _, by omega, by go_num, HO1.out, HIX.out, HB1.out⟩
      case measure => simp [intOf]; omega
    · obtain rfl : k = ls.length := by omega
      have HIX : Hid (Is D (ros ls)) := by
        have := HI.out
        rw [List.take_of_length_le (Nat.le_refl _)] at this
        exact this
      clear HI
      go_wp2
      go_ret
      exact ⟨D, rfl, HO.out, HIX.out, HB.out⟩
end Go.Proofs.YtgmdfkmmbcpikaaGreat.RosI

/- The program's pods: a roster's pods, collected in whatever order, sorted by their names; slices.Equal at pods. -/
namespace Go.Proofs.YtgmdfkmmbcpikaaGreat.RosP
open Go.RowKit Go.Sort Go.Maps
open Go.Proofs.YtgmdfkmmbcpikaaGreat.C1
open Go.Proofs.YtgmdfkmmbcpikaaGreat.C2
open Go.Proofs.YtgmdfkmmbcpikaaGreat.Smps
open Go.Proofs.YtgmdfkmmbcpikaaGreat.Mem
open Go.Proofs.YtgmdfkmmbcpikaaGreat.Pd
open Go.Proofs.YtgmdfkmmbcpikaaGreat.Pds
open Go.Proofs.YtgmdfkmmbcpikaaGreat.Key
open Go.Proofs.YtgmdfkmmbcpikaaGreat.Ros
open Go.Proofs.YtgmdfkmmbcpikaaGreat.RosI
set_option linter.unusedVariables false

/-! ### Sorted by name. -/
theorem cmp_pods (x y : Pd) (w : World) :
    Calls Tryz.prog 122 #[podV x, podV y] w fun e w' => e = .returned (.int .i64 (cmpB x.nm.data.toList y.nm.data.toList)) ∧ ∃ q os', w' = grow (w.drewN q) os' := by
  unfold podV
  go_enter Tryz.func122, Tryz.ntmps122
  go_wp2_with (go_at_call 125; refine (cmp_str x.nm y.nm _).mono ?_; rintro e w' ⟨rfl, rfl⟩)
  go_ret
  exact ⟨rfl, 0, _, grown2 _ _ _⟩
def cfN (x y : Pd) : Int := cmpB x.nm.data.toList y.nm.data.toList
theorem lt_nm (x y : Pd) : ltOf cfN x y = decide (x.nm.data.toList < y.nm.data.toList) := by
  unfold ltOf cfN cmpB
  by_cases h1 : x.nm.data.toList < y.nm.data.toList
  · simp [h1]
  · by_cases h2 : y.nm.data.toList < x.nm.data.toList <;> simp [h1, h2]
theorem swo_nm : SWO (ltOf cfN) where
  irrefl x := by rw [lt_nm]; exact decide_eq_false (List.lt_irrefl _)
  trans x y z h1 h2 := by
    rw [lt_nm] at *
    exact decide_eq_true (List.lt_trans (of_decide_eq_true h1) (of_decide_eq_true h2))
  ntrans x y z h1 h2 := by
    rw [lt_nm] at *
    refine decide_eq_false fun h => ?_
    have g1 := of_decide_eq_false h1
    have g2 := of_decide_eq_false h2
    rcases Std.lt_trichotomy x.nm.data.toList y.nm.data.toList with k | k | k
    · exact g1 k
    · rw [k] at h; exact g2 h
    · exact g2 (List.lt_trans k h)
theorem encD_len (p : Pd) : (encD p).length = 4 := rfl
theorem sort_pods (ps : List Pd) (h12 : ps.length ≤ 12) (g cap : Nat) (w : World) (hg : g < w.heap.size) (h : HoldsK encD 4 w g 0 ps.toArray) :
    Calls Tryz.prog 121 #[.slice (some ⟨g, 0, none⟩) ps.length cap, .func (.func 122) #[] #[]] w fun e w' => e = .returned (.tuple #[]) ∧ ∃ (d' : Array Pd) (n : Nat) (os : Array Obj), PermIn 0 ps.length ps.toArray d' ∧ SortedIn (ltOf cfN) 0 ps.length d' ∧ w' = sortWorldK encD 4 w g 0 n d' os := by
  have eg : ∀ args w, (callFunc 122 args).run Tryz.prog w = .ok (.enter 122 args) w := enters_of Tryz.func122 (by kernel_rfl) rfl
  have hcon := Tryz.slices_SortFunc_small_sorted_f121 4 Tryz.isAgg115 Tryz.sizeOf115 encD encD_len (fun x v hv => by simp [encD] at hv; rcases hv with rfl | rfl | rfl | rfl <;> rfl) cfN 122 #[] swo_nm g 0 cap ps.toArray w eg
    (fun m os dk hs x y => cmp_pods x y _) h hg (by simpa using h12) (fun n W hn => (Tryz.bits_Len n W (by omega) (by omega)).mono fun _ _ ⟨he, hw⟩ => ⟨⟨_, he⟩, hw⟩)
  simpa using hcon
theorem sorted_up {ps : List Pd} {d' : Array Pd} (hap : Apart ps) (hp : PermIn 0 ps.length ps.toArray d') (hs : SortedIn (ltOf cfN) 0 ps.length d') : d'.toList.Perm ps ∧ Up d'.toList := by
  obtain ⟨h1, _, h3⟩ := hp
  have h1' : d'.size = ps.length := by simpa using h1
  have e1 : d'.extract 0 ps.length = d' := by rw [← h1']; simp
  have e2 : ps.toArray.extract 0 ps.length = ps.toArray := by have : ps.length = ps.toArray.size := by simp
                                                              rw [this]; simp
  rw [e1, e2] at h3
  have h4 : d'.toList.Perm ps := h3
  refine ⟨h4, ?_⟩
  have ha : Apart d'.toList := (h4.pairwise_iff (R := fun x y : Pd => x.nm ≠ y.nm) (fun h => Ne.symm h)).2 hap
  unfold Up
  rw [List.pairwise_iff_getElem]
  intro i j hi hj hij
  have hi' : i < d'.size := by simpa using hi
  have hj' : j < d'.size := by simpa using hj
  have := hs i j (Nat.zero_le _) hij (by omega)
  rw [lt_nm, getElem!_pos d' i hi', getElem!_pos d' j hj'] at this
  have h5 := of_decide_eq_false this
  have h6 := List.pairwise_iff_getElem.1 ha i j hi hj hij
  simp only [Array.getElem_toList] at h6 ⊢
  rcases Std.lt_trichotomy d'[i].nm.data.toList d'[j].nm.data.toList with k | k | k
  · exact k
  · exact absurd (nm_eq k) h6
  · exact absurd k h5
theorem holds_own {w : World} {B g n cap : Nat} {ps : List Pd} (h : OwnD w B (.slice (some ⟨g, 0, none⟩) n cap) ps) (hn : n = ps.length) : HoldsK encD 4 w g 0 ps.toArray := by
  intro j hj
  have hj2 : j < ps.toArray.size * 4 := by simpa using hj
  have hi : j / 4 < ps.length := by simp at hj2; omega
  obtain ⟨⟨c0, c1, c2, c3⟩, hf⟩ := h.spot hn (j / 4) hi
  rw [get_flatK encD 4 ps.toArray j hj2, Nat.zero_add]
  have eg : ps.toArray[j / 4]! = ps[j / 4] := by simp [hi]
  rw [eg]
  have e0 : j = j / 4 * 4 + j % 4 := by omega
  rcases (by omega : j % 4 = 0 ∨ j % 4 = 1 ∨ j % 4 = 2 ∨ j % 4 = 3) with h | h | h | h
  · have e : j / 4 * 4 = j := by omega
    rw [e] at c0
    rw [h]
    exact ⟨c0, hf j⟩
  · have e : j / 4 * 4 + 1 = j := by omega
    rw [e] at c1
    rw [h]
    exact ⟨c1, hf j⟩
  · have e : j / 4 * 4 + 2 = j := by omega
    rw [e] at c2
    rw [h]
    exact ⟨c2, hf j⟩
  · have e : j / 4 * 4 + 3 = j := by omega
    rw [e] at c3
    rw [h]
    exact ⟨c3, hf j⟩
theorem sorted_pds {w : World} {g : Nat} {ps : List Pd} (h : HoldsK encD 4 w g 0 ps.toArray) (hg : g < w.heap.size) (d' : Array Pd) (hs : d'.size = ps.length) (n : Nat) (os : Array Obj) :
    Pds (sortWorldK encD 4 w g 0 n d' os) (some ⟨g, 0, none⟩) d'.toList ∧ Only g w (sortWorldK encD 4 w g 0 n d' os) := by
  have hK := holdsK_sortWorldK_c encD 4 w g 0 ps.toArray d' n os h hg (by simpa using hs)
  have hsz : w.heap.size ≤ (sortWorldK encD 4 w g 0 n d' os).heap.size := size_sortWorldK_c encD 4 w g 0 n d' os
  refine ⟨.inr ⟨g, 0, rfl, Nat.lt_of_lt_of_le hg hsz, fun i hi => ?_⟩, ⟨rfl, rfl, rfl, hsz, fun k hk hne => ?_⟩⟩
  · have hi2 : i < d'.size := by simpa using hi
    have c0 := (hK.cell hi2 (show 0 < 4 by omega)).1
    have c1 := (hK.cell hi2 (show 1 < 4 by omega)).1
    have c2 := (hK.cell hi2 (show 2 < 4 by omega)).1
    have c3 := (hK.cell hi2 (show 3 < 4 by omega)).1
    rw [getElem!_pos d' i hi2] at c0 c1 c2 c3
    simp only [Array.getElem_toList]
    exact ⟨c0, c1, c2, c3⟩
  · unfold sortWorldK
    rw [heap_grow_old _ _ (by unfold putRowK; rw [size_putRow]; exact hk)]
    show ((Sort.ahead w n).heap.modify g _)[k]? = _
    rw [Array.getElem?_modify, if_neg (fun e => hne e.symm)]
    rfl

/-! ### Collecting. -/
theorem info_pd2 : ∃ i, Tryz.prog.info? 115 = some i ∧ i.zero = some (podV zeroD) ∧ i.size = 4 ∧ i.bytes = 40 := by
  obtain ⟨i, hi, hz⟩ := Option.map_eq_some_iff.1 info_pd
  simp only [Prod.mk.injEq] at hz
  exact ⟨i, hi, hz.1, hz.2.1, hz.2.2⟩
theorem four_one (p : Pd) : ∀ u ∈ [Value.string p.nm, .int .i64 p.born, .int .i64 p.ph, .bool p.rdy], u.oneCell' = true := by
  intro u hu
  simp at hu
  rcases hu with rfl | rfl | rfl | rfl <;> rfl
theorem four_cells (w : World) (p : Pd) (t : TypeId) : ∀ (j : Nat) (u : Value), [Value.string p.nm, .int .i64 p.born, .int .i64 p.ph, .bool p.rdy][j]? = some u → (w.alloc (.cells #[.string p.nm, .int .i64 p.born, .int .i64 p.ph, .bool p.rdy] t)).cell? ((⟨w.heap.size, 0, none⟩ : Addr).add j) = some u := by
  intro j u hj
  obtain ⟨-, -, c0, c1, c2, c3⟩ := box_read (Below.refl _ (w.alloc (.cells #[.string p.nm, .int .i64 p.born, .int .i64 p.ph, .bool p.rdy] t)))
  match j, hj with
  | 0, hj => cases hj; exact c0
  | 1, hj => cases hj; exact c1
  | 2, hj => cases hj; exact c2
  | 3, hj => cases hj; exact c3
theorem OwnD_snoc {w : World} {B : Nat} {v : Value} {ps : List Pd} {p : Pd} (h : w.ownsRow B 115 4 v (ps.length + 1) (flatP ps ++ [.string p.nm, .int .i64 p.born, .int .i64 p.ph, .bool p.rdy])) : OwnD w B v (ps ++ [p]) := by
  unfold OwnD
  rw [List.length_append, flatP_append]
  exact h
theorem OwnD.row {w : World} {B : Nat} {v : Value} {ps : List Pd} (h : OwnD w B v ps) : w.ownsRow B 115 4 v ps.length (flatP ps) := h
def mkP (p : Pd) : Value := .agg #[.string p.nm, .int .i64 p.born, .int .i64 p.ph, .bool p.rdy]
theorem invP (v : Value) (y : DataW Unit × List MemPlace) (h : podR v = some y) : ∃ p, v = mkP p := by
  obtain ⟨p, hp, _⟩ := podR_inv h
  exact ⟨p, hp⟩
theorem invK (key : Value) (kl : Lit) (h : keyOf Tryz.prog 9 key = some kl) : ∃ x, key = encStr x := by
  obtain ⟨x, hx, _⟩ := Maps.keyOf_str Tryz.underlying9 h
  exact ⟨x, hx⟩
abbrev RG (w : World) (b r n : Nat) (D : DataW Unit) (left : Lit → Bool) (cnt : Nat) : Prop := w.ranges Tryz.prog 9 podR b r n D left cnt
set_option maxRecDepth 100000 in
set_option maxHeartbeats 1000000 in
theorem impl_pods (b n : Nat) (D : DataW Unit) (ps : List Pd) (w : World) (hown : RM w b n D) (his : Is D ps) (h12 : ps.length ≤ 12) :
    Calls Tryz.prog 86 #[.map (some b)] w fun e w' => ∃ (g cap : Nat) (qs : List Pd), e = .returned (.slice (some ⟨g, 0, none⟩) qs.length cap) ∧ w.heap.size ≤ g ∧ qs.Perm ps ∧ Up qs ∧ Pds w' (some ⟨g, 0, none⟩) qs ∧ Below w.heap.size w w' := by
  obtain ⟨i0, hi, hz0, hz1, hz2⟩ := info_pd2
  have hbl := hown.lt
  have HSZ := Lib.hid his.size
  go_enter Tryz.func86, Tryz.ntmps86
  go_wp2_with (first
    | (at_len; refine wpList_len_own _ rfl _ 135 rfl 9 115 map_t podR b n D rfl hown ?_)
    | (at_make; refine wpList_make_own _ rfl _ _ 49 rfl w.heap.size 115 i0 (podV zeroD) 4 Tryz.underlying49 hi hz0 hz1 _ _ _ (Maps.size D) rfl rfl rfl (by rw [hz2, HSZ.out]; omega) (by rw [HSZ.out]; unfold maxLen; omega) (Nat.le_refl _) ?_; intro w1 hrow1 hg1)
    | (at_range; refine wpList_range_own _ rfl _ 135 rfl 9 115 keyed map_t podR b n D rfl (hown.kept hg1 (by simp)) ?_; intro w0 hrg0 hg0 hs0)
    | go_in)
  go_frame
  have HI := Lib.hid his
  go_loopw [3] (fun v wr => ∃ (left : Lit → Bool) (cnt : Nat) (ss : List Pd), Hid (RG wr b w1.heap.size n D left cnt) ∧ ss.length + cnt ≤ 12 ∧ Hid (OwnD wr w.heap.size v ss) ∧ Hid (v ≠ .slice none 0 0) ∧ Hid (Met ps left ss) ∧ Hid (Below w.heap.size w wr))
    (fun _ wr => wr.rangeLeft b w1.heap.size)
  case atStart =>
    refine ⟨_, _, [], Lib.hid hrg0, by rw [HSZ.out]; simpa using h12, Lib.hid ?_, Lib.hid (by simp), Lib.hid (Met.start his), Lib.hid (((Below.refl _ _).grown hg1 (Nat.le_refl _) (fun j hj => by cases hj)).grown hg0 hg1.size (fun j hj => by cases hj))⟩
    exact hrow1.kept hg0 (Or.inr (by simp [Value.ownBlock]))
  case round =>
    obtain ⟨left, cnt, ss, HRG, hcs, HO, HN, HM, HB⟩ := hrel
    have hrg := HRG.out
    go_wp2_with (first
      | (at_next; refine wpList_next_ranges _ rfl _ rfl 9 keyed podR encStr mkP invK invP b w1.heap.size n D left cnt rfl hrg ?_ ?_)
      | go_in)
    · intro hc0 hl0
      have hO := HO.out
      rcases hO.2 with ⟨hnil, _⟩ | ⟨g, cap, cur, rfl, hbase, hb, h1, h2, h3, h4⟩
      · exact absurd hnil HN.out
      have hgl : g < wr.heap.size := (Array.getElem?_eq_some_iff.1 hb).1
      have hH := holds_own hO rfl
      have hl12 : ss.length ≤ 12 := by omega
      have hap := HM.out.apart
      have hpm := HM.out.perm HI.out.apart hl0
      have HC := Lib.hid (sort_pods ss hl12 g cap wr hgl hH)
      have HH := Lib.hid hH
      have HAP := Lib.hid hap
      have HPM := Lib.hid hpm
      have HGL := Lib.hid hgl
      have HBS := Lib.hid hbase
      clear hH hap hpm hb h1 h2 h3 h4 hO hgl hbase HRG hrg hown hrow1 hg1 hrg0 hg0 hs0
      go_wp2_with (go_at_call 121; refine HC.out.mono ?_; rintro e w' ⟨rfl, d', nn, os, hp, hs, hw'⟩; have HP := Lib.hid hp; have HS := Lib.hid hs; have HW' := Lib.hid hw'; clear hp hs hw')
      go_ret
      obtain ⟨k1, k2⟩ := sorted_up HAP.out HP.out HS.out
      have hds : d'.size = ss.length := by simpa using HP.out.1
      obtain ⟨k3, k4⟩ := sorted_pds HH.out HGL.out d' hds nn os
      rw [← HW'.out] at k3 k4
      have hlen : d'.toList.length = ss.length := by simpa using hds
      exact ⟨g, cap, d'.toList, by rw [hlen]; rfl, HBS.out, k1.trans HPM.out, k2, k3, HB.out.trans (k4.below HBS.out HB.out.size)⟩
    · intro x c kl yd yp w2 cnt2 hkey hlk hv hat hrg2 hlt hg2 hs2 hen
      have hv2 : yd = podD c := by
        have := podR_mk c
        have h3 := this.symm.trans hv
        exact (congrArg Prod.fst (Option.some.inj h3)).symm
      subst hv2
      obtain ⟨hcp, rfl⟩ := HI.out.find (has_true_of_atKey hat) hat
      have HMY := Lib.hid (HM.out.step HI.out.apart hcp hlk)
      have hrow2 : w2.ownsRow w.heap.size 115 4 _ ss.length (flatP ss) := World.ownsRow.kept HO.out hg2 (Or.inr (row_ne_iter HO.out hrg).symm)
      have HB2 := Lib.hid (HB.out.grown hg2 HB.out.size (fun j hj => by cases hj; exact hg1.size))
      have HRG2 := Lib.hid hrg2
      have HR2 := Lib.hid hrow2
      have HCB := Lib.hid (HB2.out.alloc HB2.out.size (.cells #[.string c.nm, .int .i64 c.born, .int .i64 c.ph, .bool c.rdy] 115))
      have HCC := Lib.hid (HCB.out.alloc HCB.out.size (.cells #[.string c.nm, .int .i64 c.born, .int .i64 c.ph, .bool c.rdy] 115))
      have HSC := Lib.hid HCC.out.size
      have hss : ss.length ≤ 12 := by omega
      have HL := Lib.hid hlt
      have HV := Lib.hid (hrg.left_eq)
      unfold mkP at hen
      clear hs2 hg2 hrow2 hrg2 hlt hkey hlk hv hat hown hrow1 hrg0 hg0 hs0 HRG
      go_wp2_with (first
        | (at_builtin; refine wpList_append_own _ rfl _ _ 49 rfl w.heap.size 115 i0 (podV zeroD) 4 40 Tryz.underlying49 hi hz0 hz1 hz2 rfl (by decide) _ ss.length (flatP ss) rfl ((World.ownsRow.alloc HR2.out _).alloc _) ⟨w2.heap.size + 1, 0, none⟩ 1 1 [.string c.nm, .int .i64 c.born, .int .i64 c.ph, .bool c.rdy] rfl rfl ?e1 (four_one c) (by unfold maxLen; omega) (by omega) HSC.out ?_)
        | go_in)
      case e1 =>
        have h := four_cells (w2.alloc (.cells #[.string c.nm, .int .i64 c.born, .int .i64 c.ph, .bool c.rdy] 115)) c 115
        have e : (w2.alloc (.cells #[.string c.nm, .int .i64 c.born, .int .i64 c.ph, .bool c.rdy] 115)).heap.size = w2.heap.size + 1 := by simp
        rw [e] at h
        exact h
      intro v' w3 hown' hg3 hnil3
      have hrow4 := World.ownsRow.alloc (World.ownsRow.alloc HR2.out (.cells #[.string c.nm, .int .i64 c.born, .int .i64 c.ph, .bool c.rdy] 115)) (.cells #[.string c.nm, .int .i64 c.born, .int .i64 c.ph, .bool c.rdy] 115)
      have hrg4 := World.ranges.alloc (World.ranges.alloc HRG2.out (.cells #[.string c.nm, .int .i64 c.born, .int .i64 c.ph, .bool c.rdy] 115)) (.cells #[.string c.nm, .int .i64 c.born, .int .i64 c.ph, .bool c.rdy] 115)
      have HR4 := Lib.hid (hrg4.kept hg3 (row_ne_low hrow4 hbl) (row_ne_iter hrow4 hrg4))
      have HO4 := Lib.hid (OwnD_snoc hown')
      have HN4 : Hid (v' ≠ .slice none 0 0) := fun hv' => by first | exact hnil3 hv' | (have := (hnil3.1 hv').2; omega)
      have HB4 := Lib.hid (HCC.out.grown hg3 HSC.out (fun j hj => (hrow4.lt j hj).1))
      clear hown' hg3 hnil3 hrow4 hrg4 HCC HCB HSC HR2 HRG2 HB2 hen
      go_wp2
      go_roundw
      case rel => exact ⟨_, cnt2, ss ++ [c], HR4, by have := HL.out; rw [List.length_append, List.length_singleton]; omega, HO4, HN4, HMY, HB4⟩
      case measure => rw [HR4.out.left_eq, HV.out]; exact HL.out
end Go.Proofs.YtgmdfkmmbcpikaaGreat.RosP

/- PodsOk: the model's. -/
namespace Go.Proofs.YtgmdfkmmbcpikaaGreat.Pok
open Go.RowKit Go.Sort Go.BigFrame
open Go.Proofs.YtgmdfkmmbcpikaaGreat.C1
open Go.Proofs.YtgmdfkmmbcpikaaGreat.C2
open Go.Proofs.YtgmdfkmmbcpikaaGreat.Smps
open Go.Proofs.YtgmdfkmmbcpikaaGreat.Mem
open Go.Proofs.YtgmdfkmmbcpikaaGreat.Pd
open Go.Proofs.YtgmdfkmmbcpikaaGreat.Pds
open Go.Proofs.YtgmdfkmmbcpikaaGreat.Key
open Go.Proofs.YtgmdfkmmbcpikaaGreat.Sto
open Go.Proofs.YtgmdfkmmbcpikaaGreat.Ros
set_option linter.unusedVariables false

def PokAt (ls : List Pd) (j : Nat) (h : j < ls.length) : Prop := okP ls[j] = true ∧ ∀ h0 : 0 < j, lessV ls[j - 1].nm ls[j].nm = true
theorem podsV_at (ls : List Pd) : podsV ls = true ↔ ls.length ≤ 12 ∧ ∀ (j : Nat) (h : j < ls.length), PokAt ls j h := by
  rw [podsV_iff, up_iff]
  constructor
  · intro ⟨h1, h2, h3⟩
    refine ⟨h1, fun j hj => ⟨h2 _ (List.getElem_mem hj), fun h0 => ?_⟩⟩
    have := h3 (j - 1) (by omega)
    have e : j - 1 + 1 = j := by omega
    simpa only [e] using this
  · intro ⟨h1, h2⟩
    refine ⟨h1, fun p hp => ?_, fun i hi => ?_⟩
    · obtain ⟨j, hj, rfl⟩ := List.mem_iff_getElem.1 hp
      exact (h2 j hj).1
    · have := (h2 (i + 1) hi).2 (by omega)
      simpa using this
theorem pods_no {ls : List Pd} (h : ¬ (ls.length ≤ 12 ∧ ∀ (j : Nat) (h : j < ls.length), PokAt ls j h)) : podsV ls = false := by
  cases hb : podsV ls
  · rfl
  · exact absurd ((podsV_at ls).1 hb) h
theorem podok_later {W : World} (p : Pd) (h : p.wf) {b : Bool} (hb : okP p = b) (q : Later W) :
    Calls Tryz.prog 64 #[.agg #[.string p.nm, .int .i64 p.born, .int .i64 p.ph, .bool p.rdy]] q.u fun e w' => e = .returned (.bool b) ∧ Below q.u.heap.size q.u w' :=
  (spec_podok p h q.u).mono fun e w' ⟨he, hw⟩ => ⟨by rw [he, hb], hw⟩
theorem less_later {W : World} (a c : ByteArray) (ha : a.size ≤ 9223372036854775807) (hc : c.size ≤ 9223372036854775807) {b : Bool} (hb : lessV a c = b) (q : Later W) :
    Calls Tryz.prog 65 #[.string a, .string c] q.u fun e w' => e = .returned (.bool b) ∧ Below q.u.heap.size q.u w' :=
  (spec_less a c ha hc q.u).mono fun e w' ⟨he, n, hw⟩ => ⟨by rw [he, hb], by rw [hw]; exact Sto.below_drewN _ _ n⟩
set_option maxHeartbeats 4000000 in
set_option maxRecDepth 20000 in
theorem spec_podsok (ls : List Pd) (hwf : ∀ p ∈ ls, p.wf) (a : Option Addr) (cap : Nat) (w : World) (h : Pds w a ls) (hm : ls.length ≤ 1048576) :
    Calls Tryz.prog 27 #[.slice a ls.length cap] w fun e w' => e = .returned (.bool (podsV ls)) ∧ Below w.heap.size w w' := by
  obtain ⟨b, off, ha, hb, hcell⟩ := h.cells
  have mixed : Tryz.prog.follows .mixedOrders = true := by kernel_rfl
  by_cases hbig : 12 < ls.length
  · have HN := Lib.hid (pods_no (ls := ls) (fun h => by omega))
    go_enter Tryz.func27, Tryz.ntmps27
    go_wp2
    go_ret
    exact ⟨ret1B HN.out.symm, Below.refl _ _⟩
  · have Hc := Lib.hid hcell
    have Ha := Lib.hid ha
    have Hw := Lib.hid hwf
    have Hb := Lib.hid hb
    clear hcell ha hwf hb h
    go_enter Tryz.func27, Tryz.ntmps27
    go_wp2
    go_loopw [3] (fun i wr => ∃ k : Nat, k ≤ ls.length ∧ i = .int .i64 k ∧ Hid (∀ (j : Nat) (hj : j < ls.length), j < k → PokAt ls j hj) ∧ Hid (Below w.heap.size w wr)) (fun i _ => ls.length - (intOf i).toNat)
    case atStart => exact ⟨0, Nat.zero_le _, rfl, fun j hj h => absurd h (by omega), Below.refl _ _⟩
    case round =>
      obtain ⟨k, hk, rfl, HS, HB⟩ := hrel
      by_cases hlt : k < ls.length
      · obtain rfl := Ha.out (by omega)
        obtain ⟨l, hl⟩ : ∃ l, ls[k] = l := ⟨_, rfl⟩
        have HNO : Hid (¬ (okP l = true ∧ ∀ h0 : 0 < k, lessV ls[k - 1].nm l.nm = true) → podsV ls = false) := fun hn => pods_no fun h => hn (by have := h.2 k hlt; unfold PokAt at this; rw [hl] at this; exact this)
        have HOK : Hid ((okP l = true ∧ ∀ h0 : 0 < k, lessV ls[k - 1].nm l.nm = true) → ∀ (j : Nat) (hj : j < ls.length), j < k + 1 → PokAt ls j hj) := fun h i hi hik => by
          by_cases e : i = k
          · subst e; unfold PokAt; rw [hl]; exact h
          · exact HS.out i hi (by omega)
        have hq := (Hc.out k hlt).kept HB.out (Hb.out (by omega))
        have hwl := Hw.out ls[k] (List.getElem_mem hlt)
        rw [hl] at hwl hq
        obtain ⟨q0, q1, q2, q3⟩ := hq
        have hbr := Nat.lt_of_lt_of_le (Hb.out (by omega)) HB.out.size
        have V0 := later_cell hbr q0
        have V1 := later_cell hbr q1
        have V2 := later_cell hbr q2
        have V3 := later_cell hbr q3
        have HWL := Lib.hid hwl
        have hln := hwl.nm
        unfold maxLen at hln
        clear hl q0 q1 q2 q3 hwl
        go_wp2_with fail
        cases c1 : okP l
        · have HA := Lib.hid (podok_later (W := wr) l HWL.out c1)
          have HC1 := Lib.hid c1
          clear c1
          refine region_later mixed (by kernel_rfl) ?_
          repeat (go_big_quiet_step (first | (go_at_call 64; exact later_call (HA.out _)) | (go_at_call 65; exact later_call (HK.out _))))
          refine wpQuiet_nil ?_
          intro w1 hw'
          obtain ⟨⟨_, hw1⟩, rfl⟩ := hw'
          have HB1 := Lib.hid (HB.out.trans (hw1.mono HB.out.size))
          clear hw1
          go_wp2
          go_ret
          exact ⟨ret1B (HNO.out (fun h => by have := h.1; rw [HC1.out] at this; exact Bool.false_ne_true this)).symm, HB1.out⟩
        · have HA := Lib.hid (podok_later (W := wr) l HWL.out c1)
          have HC1 := Lib.hid c1
          clear c1
          have hA : (¬ 0 < k ∧ decide ((0 : Int) < (k : Int)) = false) ∨ (0 < k ∧ decide ((0 : Int) < (k : Int)) = true) := by
            by_cases h : 0 < k
            · exact .inr ⟨h, decide_eq_true (by omega)⟩
            · exact .inl ⟨h, decide_eq_false (by omega)⟩
          rcases hA with ⟨k0, d0⟩ | ⟨k0, d0⟩
          · have HSN := Lib.hid (HOK.out ⟨HC1.out, fun h => absurd h k0⟩)
            refine region_later mixed (by kernel_rfl) ?_
            repeat (go_big_quiet_step (first | (go_at_call 64; exact later_call (HA.out _)) | (go_at_call 65; exact later_call (HK.out _))))
            refine wpQuiet_nil ?_
            intro w1 hw'
            obtain ⟨⟨_, hw1⟩, rfl⟩ := hw'
            have HB1 := Lib.hid (HB.out.trans (hw1.mono HB.out.size))
            clear hw1 d0 V0 V1 V2 V3 HA
            go_wp2
            go_roundw
            case rel => exact ⟨k + 1, by omega, by go_num, HSN.out, HB1.out⟩
            case measure => simp [intOf]; omega
          · obtain ⟨p, hp⟩ : ∃ p : Nat, (k : Int) - 1 = (p : Int) := ⟨k - 1, by omega⟩
            have hkp : k - 1 = p := by omega
            have hpl : p < ls.length := by omega
            obtain ⟨l0, hl0⟩ : ∃ l0, ls[p] = l0 := ⟨_, rfl⟩
            have HEQ : Hid (∀ h : k - 1 < ls.length, ls[k - 1] = l0) := fun h => by subst hkp; exact hl0
            have hw0 := Hw.out ls[p] (List.getElem_mem hpl)
            obtain ⟨r0, -, -, -⟩ := (Hc.out p hpl).kept HB.out (Hb.out (by omega))
            rw [hl0] at hw0 r0
            have wp0 := hw0.nm
            unfold maxLen at wp0
            have R0 := later_cell hbr r0
            clear hl0 hkp r0 hw0
            cases c5 : lessV l0.nm l.nm
            · have HK := Lib.hid (less_later (W := wr) l0.nm l.nm (by omega) (by omega) c5)
              have HC5 := Lib.hid c5
              have HK0 := Lib.hid k0
              clear c5
              refine region_later mixed (by kernel_rfl) ?_
              repeat (go_big_quiet_step (first | (go_at_call 64; exact later_call (HA.out _)) | (go_at_call 65; exact later_call (HK.out _))))
              refine wpQuiet_nil ?_
              intro w1 hw'
              obtain ⟨⟨_, hw1⟩, rfl⟩ := hw'
              have HB1 := Lib.hid (HB.out.trans (hw1.mono HB.out.size))
              clear hw1
              go_wp2
              go_ret
              exact ⟨ret1B (HNO.out (fun h => by have := h.2 HK0.out; rw [HEQ.out (by omega), HC5.out] at this; exact Bool.false_ne_true this)).symm, HB1.out⟩
            · have HK := Lib.hid (less_later (W := wr) l0.nm l.nm (by omega) (by omega) c5)
              have HSN := Lib.hid (HOK.out ⟨HC1.out, fun h => by rw [HEQ.out (by omega)]; exact c5⟩)
              clear c5
              refine region_later mixed (by kernel_rfl) ?_
              repeat (go_big_quiet_step (first | (go_at_call 64; exact later_call (HA.out _)) | (go_at_call 65; exact later_call (HK.out _))))
              refine wpQuiet_nil ?_
              intro w1 hw'
              obtain ⟨⟨_, hw1⟩, rfl⟩ := hw'
              have HB1 := Lib.hid (HB.out.trans (hw1.mono HB.out.size))
              clear hw1 d0 V0 V1 V2 V3 R0 HA HK
              go_wp2
              go_roundw
              case rel => exact ⟨k + 1, by omega, by go_num, HSN.out, HB1.out⟩
              case measure => simp [intOf]; omega
      · obtain rfl : k = ls.length := by omega
        have HF : Hid (podsV ls = true) := (podsV_at ls).2 ⟨by omega, fun j hj => HS.out j hj hj⟩
        go_wp2
        go_ret
        exact ⟨ret1B HF.out.symm, HB.out⟩
end Go.Proofs.YtgmdfkmmbcpikaaGreat.Pok

/- PodsOk: the program's: slices.Equal at pods; the whole. -/
namespace Go.Proofs.YtgmdfkmmbcpikaaGreat.PokI
open Go.RowKit Go.Sort Go.Maps
open Go.Proofs.YtgmdfkmmbcpikaaGreat.C1
open Go.Proofs.YtgmdfkmmbcpikaaGreat.C2
open Go.Proofs.YtgmdfkmmbcpikaaGreat.Smps
open Go.Proofs.YtgmdfkmmbcpikaaGreat.Mem
open Go.Proofs.YtgmdfkmmbcpikaaGreat.Pd
open Go.Proofs.YtgmdfkmmbcpikaaGreat.Pds
open Go.Proofs.YtgmdfkmmbcpikaaGreat.Key
open Go.Proofs.YtgmdfkmmbcpikaaGreat.Ros
open Go.Proofs.YtgmdfkmmbcpikaaGreat.RosI
open Go.Proofs.YtgmdfkmmbcpikaaGreat.RosP
open Go.Proofs.YtgmdfkmmbcpikaaGreat.Pok
set_option linter.unusedVariables false

def pdE (x y : Pd) : Bool := x.nm.toList == y.nm.toList && (x.born == y.born && (x.ph == y.ph && x.rdy == y.rdy))
theorem pdE_iff (x y : Pd) : pdE x y = true ↔ x = y := by
  obtain ⟨a, b, c, d⟩ := x
  obtain ⟨a', b', c', d'⟩ := y
  simp only [pdE, Bool.and_eq_true, beq_iff_eq, Pd.mk.injEq, ByteArray.toList_eq]
  exact ⟨fun ⟨h1, h2, h3, h4⟩ => ⟨nm_eq h1, h2, h3, h4⟩, fun ⟨h1, h2, h3, h4⟩ => ⟨by rw [h1], h2, h3, h4⟩⟩
theorem eq_pd (x y : Pd) (w : World) : (Op.equalIn 10000 115 (podV x) (podV y)).run Tryz.prog w = .ok (pdE x y) w := by
  have u3 := Tryz.underlying3
  have a3 := Tryz.isAgg3
  have z3 := Tryz.sizeOf3
  have u9 := Tryz.underlying9
  have a9 := Tryz.isAgg9
  have z9 := Tryz.sizeOf9
  have u4 := Tryz.underlying4
  have a4 := Tryz.isAgg4
  have z4 := Tryz.sizeOf4
  have hS : Tryz.prog.underlying 115 = some (.struct (Tryz.prog.fieldsOf 115)) := by kernel_rfl
  have hp : Tryz.prog.stoodInHeld 115 = false := by kernel_rfl
  unfold podV pdE
  rw [show (10000 : Nat) = 9999 + 1 from rfl, run_equalIn_agg w 9999 115 _ _ hS hp]
  simp only [Program.fieldsOf, Tryz.underlying115]
  go_simp
  cases e0 : x.nm.toList == y.nm.toList <;> by_cases h1 : x.born = y.born <;> by_cases h2 : x.ph = y.ph <;> cases h3 : x.rdy == y.rdy <;> simp_all
theorem neq_pd : NeqAt Tryz.prog 115 (fun x => .agg (encD x).toArray) pdE :=
  ⟨fun x y w => by
    show (binOp .neq 115 (.agg (encD x).toArray) (.agg (encD y).toArray)).run Tryz.prog w = _
    rw [run_neq_struct]
    have := eq_pd x y w
    unfold podV at this
    unfold encD
    rw [this]
    rfl, GuardAt.agg _ (by kernel_rfl)⟩
theorem allEq_iff : ∀ xs ys : List Pd, Lib.allEq pdE xs ys = true ↔ xs = ys
  | [], [] => by simp [Lib.allEq]
  | [], y :: ys => by simp [Lib.allEq]
  | x :: xs, [] => by simp [Lib.allEq]
  | x :: xs, y :: ys => by
    simp only [Lib.allEq, Bool.and_eq_true, pdE_iff, allEq_iff xs ys, List.cons.injEq]
theorem cells_pds {w : World} {b off : Nat} {xs : List Pd} (h : ∀ (i : Nat) (h : i < xs.length), PAt w b (off + i * 4) xs[i]) : ∀ j, j < xs.length → ∀ i v, (encD xs[j]!)[i]? = some v → w.cell? ⟨b, off + j * 4 + i, none⟩ = some v := by
  intro j hj i v hv
  obtain ⟨c0, c1, c2, c3⟩ := h j hj
  rw [getElem!_pos xs j hj] at hv
  match i, hv with
  | 0, hv => cases hv; exact c0
  | 1, hv => cases hv; exact c1
  | 2, hv => cases hv; exact c2
  | 3, hv => cases hv; exact c3
theorem equal_pods (qs ls : List Pd) (g cap : Nat) (a : Option Addr) (cap' : Nat) (w : World) (hq : Pds w (some ⟨g, 0, none⟩) qs) (h : Pds w a ls) (hm : qs.length ≤ 1048576) (hm' : ls.length ≤ 1048576) :
    Calls Tryz.prog 84 #[.slice (some ⟨g, 0, none⟩) qs.length cap, .slice a ls.length cap'] w fun e w' => ∃ r : Bool, e = .returned (.bool r) ∧ (r = true ↔ qs = ls) ∧ Below w.heap.size w w' := by
  by_cases hne : qs.length = ls.length
  · by_cases h0 : ls.length = 0
    · have e1 : ls = [] := List.length_eq_zero_iff.1 h0
      have e2 : qs = [] := List.length_eq_zero_iff.1 (hne.trans h0)
      subst e1 e2
      clear hne h0 hq h hm hm'
      go_enter Tryz.func84, Tryz.ntmps84
      go_wp2
      refine wp_loop_rounds 1 ?_
      rw [rounds_succ]
      go_wp2
      go_ret
      exact ⟨true, rfl, by simp, Below.refl _ _⟩
    · rcases h with h | ⟨b, off, rfl, hb, hc⟩
      · rw [h] at h0; simp at h0
      · rcases hq with hq | ⟨b', off', ea, hb', hc'⟩
        · rw [hq] at hne; simp at hne; omega
        · cases ea
          have hcon := Tryz.slices_Equal 4 Tryz.isAgg115 Tryz.sizeOf115 encD encD_len pdE neq_pd g 0 qs.length cap b off ls.length cap' qs ls w (Nat.le_refl _) (Nat.le_refl _) (by omega) (by omega) (cells_pds hc') (cells_pds hc)
          refine hcon.mono fun e w' ⟨he, q, hw⟩ => ⟨_, he, ?_, by rw [hw]; exact Sto.below_drewN _ _ _⟩
          rw [List.take_of_length_le (Nat.le_refl _), List.take_of_length_le (Nat.le_refl _)]
          exact allEq_iff _ _
  · go_enter Tryz.func84, Tryz.ntmps84
    have hd : ((qs.length : Int) != (ls.length : Int)) = true := by simp; omega
    go_wp2
    go_ret
    exact ⟨false, rfl, by simp; intro e; exact hne (by rw [e]), Below.refl _ _⟩
set_option maxHeartbeats 1000000 in
theorem impl_podsok (ls : List Pd) (hwf : ∀ p ∈ ls, p.wf) (a : Option Addr) (cap : Nat) (w : World) (h : Pds w a ls) (hm : ls.length ≤ 1048576) :
    Calls Tryz.prog 39 #[.slice a ls.length cap] w fun e w' => e = .returned (.bool (podsV ls)) ∧ Below w.heap.size w w' := by
  obtain ⟨b, off, ha, hb, hcell⟩ := h.cells
  by_cases hbig : 12 < ls.length
  · have HN := Lib.hid (pods_no (ls := ls) (fun h => by omega))
    go_enter Tryz.func39, Tryz.ntmps39
    go_wp2
    go_ret
    exact ⟨ret1B HN.out.symm, Below.refl _ _⟩
  · have Hc := Lib.hid hcell
    have Ha := Lib.hid ha
    have Hw := Lib.hid hwf
    have Hb := Lib.hid hb
    have HH := Lib.hid h
    clear hcell ha hwf hb h
    go_enter Tryz.func39, Tryz.ntmps39
    go_wp2
    go_loopw [10] (fun i wr => ∃ k : Nat, k ≤ ls.length ∧ i = .int .i64 k ∧ Hid (∀ (j : Nat) (hj : j < ls.length), j < k → okP ls[j] = true) ∧ Hid (Below w.heap.size w wr)) (fun i _ => ls.length - (intOf i).toNat)
    case atStart => exact ⟨0, Nat.zero_le _, rfl, fun j hj h => absurd h (by omega), Below.refl _ _⟩
    case round =>
      obtain ⟨k, hk, rfl, HS, HB⟩ := hrel
      by_cases hlt : k < ls.length
      · obtain rfl := Ha.out (by omega)
        obtain ⟨l, hl⟩ : ∃ l, ls[k] = l := ⟨_, rfl⟩
        have hq := (Hc.out k hlt).kept HB.out (Hb.out (by omega))
        have hwl := Hw.out ls[k] (List.getElem_mem hlt)
        have HNO : Hid (okP l = false → podsV ls = false) := fun hn => pods_no fun h => by have := (h.2 k hlt).1; rw [hl, hn] at this; cases this
        have HOK : Hid (okP l = true → ∀ (j : Nat) (hj : j < ls.length), j < k + 1 → okP ls[j] = true) := fun h i hi hik => by
          by_cases e : i = k
          · subst e; rw [hl]; exact h
          · exact HS.out i hi (by omega)
        rw [hl] at hwl hq
        obtain ⟨q0, q1, q2, q3⟩ := hq
        have HWL := Lib.hid hwl
        have HBX := Lib.hid (HB.out.alloc HB.out.size (.cells #[.string l.nm, .int .i64 l.born, .int .i64 l.ph, .bool l.rdy] 115))
        have hcon := impl_podok l hwl
        unfold podV at hcon
        have HCON := Lib.hid hcon
        clear hl hwl hcon
        cases c1 : okP l
        · have HN := Lib.hid (HNO.out c1)
          rw [c1] at HCON
          clear c1
          go_wp2_with (go_at_call 83; refine (HCON.out _).mono ?_; rintro e w2 ⟨rfl, hb2⟩; have HB2 := Lib.hid (HBX.out.trans (hb2.mono HBX.out.size)); clear hb2)
          go_ret
          exact ⟨ret1B HN.out.symm, HB2.out⟩
        · have HSN := Lib.hid (HOK.out c1)
          rw [c1] at HCON
          clear c1
          go_wp2_with (go_at_call 83; refine (HCON.out _).mono ?_; rintro e w2 ⟨rfl, hb2⟩; have HB2 := Lib.hid (HBX.out.trans (hb2.mono HBX.out.size)); clear hb2)
          clear q0 q1 q2 q3
          go_wp2
          go_roundw
          case rel => exact ⟨k + 1, by omega, by go_num, HSN.out, HB2.out⟩
          case measure => simp [intOf]; omega
      · obtain rfl : k = ls.length := by omega
        have HPD := Lib.hid (HH.out.kept HB.out)
        have hl12 : (ros ls).length ≤ 12 := by have := ros_len ls; omega
        have HAL : Hid (∀ p ∈ ls, okP p = true) := fun p hp => by
          obtain ⟨j, hj, rfl⟩ := List.mem_iff_getElem.1 hp
          exact HS.out j hj hj
        clear HS
        go_wp2_with (go_at_call 85; refine (roster_of ls Hw.out _ _ _ HPD.out (by omega)).mono ?_; rintro e w1 ⟨D, rfl, ho1, hi1, hb1⟩; have HO1 := Lib.hid ho1; have HI1 := Lib.hid hi1; have HB1 := Lib.hid (HB.out.trans (hb1.mono HB.out.size)); have HP1 := Lib.hid (HPD.out.kept hb1); clear ho1 hi1 hb1)
        go_wp2_with (go_at_call 86; refine (impl_pods _ _ D (ros ls) _ HO1.out HI1.out hl12).mono ?_; rintro e w2 ⟨g, cp, qs, rfl, hg, hpm, hup, hpd, hb2⟩; have HPM := Lib.hid hpm; have HUP := Lib.hid hup; have HQ := Lib.hid hpd; have HB2 := Lib.hid (HB1.out.trans (hb2.mono HB1.out.size)); have HP2 := Lib.hid (HP1.out.kept hb2); clear hg hpm hup hpd hb2)
        have hql : qs.length ≤ 12 := by have := HPM.out.length_eq; omega
        go_wp2_with (go_at_call 84; refine (equal_pods qs ls _ _ _ _ _ HQ.out HP2.out (by omega) (by omega)).mono ?_; rintro e w3 ⟨r, rfl, hr, hb3⟩; have HR := Lib.hid hr; have HB3 := Lib.hid (HB2.out.trans (hb3.mono HB2.out.size)); clear hr hb3)
        go_ret
        refine ⟨ret1B ?_, HB3.out⟩
        have hiff : r = true ↔ podsV ls = true := by
          rw [HR.out, sorted_is HPM.out HUP.out, podsV_iff]
          exact ⟨fun h => ⟨by omega, HAL.out, h⟩, fun h => h.2.2⟩
        cases r <;> cases hv : podsV ls <;> simp_all
end Go.Proofs.YtgmdfkmmbcpikaaGreat.PokI
