/- Rosters (maps of pods by their names), as the proofs read them: 'Is D ps': the map's datum D has just the pods ps; 'ros ls': what a roster of the list ls has; valid lists of pods. Plain mathematics. -/
import Derived.Test.YtgmdfkmmbcpikaaGreatDoorPds
import Derived.Test.YtgmdfkmmbcpikaaGreatDoorKey
import Derived.Maps.RangeWalk
import Derived.Sort.KeysCollected
import Derived.Test.YtgmdfkmmbcpikaaGreatDoorShelf
import Derived.Maps.AppendAt
import Derived.Sort.OwnSorted
import Derived.Laws.StructEq
import Derived.ChangeKeysEq
namespace Go.Proofs.YtgmdfkmmbcpikaaGreatDoor.Ros
open Go.RowKit Go.Sort
open Go.Proofs.YtgmdfkmmbcpikaaGreatDoor.C1
open Go.Proofs.YtgmdfkmmbcpikaaGreatDoor.C2
open Go.Proofs.YtgmdfkmmbcpikaaGreatDoor.Smps
open Go.Proofs.YtgmdfkmmbcpikaaGreatDoor.Mem
open Go.Proofs.YtgmdfkmmbcpikaaGreatDoor.Pd
open Go.Proofs.YtgmdfkmmbcpikaaGreatDoor.Pds
open Go.Proofs.YtgmdfkmmbcpikaaGreatDoor.Key
set_option linter.unusedVariables false

def podD (p : Pd) : DataW Unit := .agg [.lit (.string p.nm.data.toList), .lit (.int .i64 p.born), .lit (.int .i64 p.ph), .lit (.bool p.rdy)]
theorem nm_eq {x y : ByteArray} (h : x.data.toList = y.data.toList) : x = y := ByteArray.ext (Array.toList_inj.1 h)
theorem podD_inj {p q : Pd} (h : podD p = podD q) : p = q := by
  obtain ⟨a, b, c, d⟩ := p
  obtain ⟨a', b', c', d'⟩ := q
  simp only [podD, DataW.agg.injEq, List.cons.injEq, DataW.lit.injEq, Lit.string.injEq, Lit.int.injEq, Lit.bool.injEq, true_and, and_true] at h
  obtain ⟨h1, h2, h3, h4⟩ := h
  rw [nm_eq h1, h2, h3, h4]
theorem podV_inj {p q : Pd} (h : podV p = podV q) : p = q := by
  obtain ⟨a, b, c, d⟩ := p
  obtain ⟨a', b', c', d'⟩ := q
  simp only [podV, Value.agg.injEq, Array.mk.injEq, List.cons.injEq, Value.string.injEq, Value.int.injEq, Value.bool.injEq, true_and, and_true] at h
  obtain ⟨h1, h2, h3, h4⟩ := h
  rw [h1, h2, h3, h4]
open Classical in
noncomputable def podR (v : Value) : Option (DataW Unit × List MemPlace) := if h : ∃ p, v = podV p then some (podD h.choose, []) else none
theorem podR_mk (p : Pd) : podR (podV p) = some (podD p, []) := by
  have h : ∃ q, podV p = podV q := ⟨p, rfl⟩
  unfold podR
  rw [dif_pos h, podV_inj h.choose_spec.symm]
theorem podR_inv {v : Value} {y : DataW Unit × List MemPlace} (h : podR v = some y) : ∃ p, v = podV p ∧ y = (podD p, []) := by
  unfold podR at h
  split at h
  · rename_i h1
    obtain ⟨p, rfl⟩ := h1
    have := podR_mk p
    unfold podR at this
    rw [dif_pos ⟨p, rfl⟩] at this
    exact ⟨p, rfl, (Option.some.inj h).symm.trans (Option.some.inj this)⟩
  · cases h

def pk (p : Pd) : Lit := .string p.nm.data.toList
theorem pk_key (p : Pd) : WideAt.IsKeyLit (pk p) := trivial
theorem pk_inj {p q : Pd} (h : pk p = pk q) : p.nm = q.nm := nm_eq (Lit.string.inj h)
theorem pk_ne {p q : Pd} (h : p.nm ≠ q.nm) : pk p ≠ pk q := fun e => h (pk_inj e)
theorem pk_eq {p q : Pd} (h : p.nm = q.nm) : pk p = pk q := by unfold pk; rw [h]
def notNm (x : Pd) (p : Pd) : Bool := decide (p.nm.data.toList ≠ x.nm.data.toList)
theorem notNm_yes {x p : Pd} : notNm x p = true ↔ p.nm ≠ x.nm := by
  unfold notNm
  rw [decide_eq_true_eq]
  exact ⟨fun h e => h (by rw [e]), fun h e => h (nm_eq e)⟩
/-- Without the pod of that name. -/
def wo (x : Pd) (ps : List Pd) : List Pd := ps.filter (notNm x)
theorem wo_mem {x p : Pd} {ps : List Pd} : p ∈ wo x ps ↔ p ∈ ps ∧ p.nm ≠ x.nm := by
  unfold wo
  rw [List.mem_filter, notNm_yes]
def Apart (ps : List Pd) : Prop := ps.Pairwise (fun p q => p.nm ≠ q.nm)
theorem Apart.wo {ps : List Pd} (h : Apart ps) (x : Pd) : Apart (wo x ps) := h.filter _
theorem wo_self {x : Pd} {ps : List Pd} (h : ∀ p ∈ ps, p.nm ≠ x.nm) : wo x ps = ps := List.filter_eq_self.2 fun p hp => notNm_yes.2 (h p hp)
theorem wo_len {x : Pd} : ∀ {ps : List Pd}, Apart ps → ((∃ p ∈ ps, p.nm = x.nm) → (wo x ps).length + 1 = ps.length) ∧ ((¬ ∃ p ∈ ps, p.nm = x.nm) → (wo x ps).length = ps.length)
  | [], _ => ⟨fun ⟨p, hp, _⟩ => by simp at hp, fun _ => rfl⟩
  | y :: r, h => by
    obtain ⟨h1, h2⟩ := List.pairwise_cons.1 h
    obtain ⟨i1, i2⟩ := wo_len (x := x) h2
    by_cases e : y.nm = x.nm
    · have hr : ¬ ∃ p ∈ r, p.nm = x.nm := fun ⟨p, hp, ep⟩ => h1 p hp (e.trans ep.symm)
      have hw : wo x (y :: r) = wo x r := by
        unfold wo
        rw [List.filter_cons_of_neg (by rw [Bool.not_eq_true]; unfold notNm; simp [e])]
      refine ⟨fun _ => by rw [hw, i2 hr]; simp, fun hn => absurd ⟨y, by simp, e⟩ hn⟩
    · have hw : wo x (y :: r) = y :: wo x r := by
        unfold wo
        rw [List.filter_cons_of_pos (notNm_yes.2 e)]
      refine ⟨fun ⟨p, hp, ep⟩ => ?_, fun hn => ?_⟩
      · rcases List.mem_cons.1 hp with rfl | hp
        · exact absurd ep e
        · have := i1 ⟨p, hp, ep⟩
          rw [hw]
          simp only [List.length_cons]
          omega
      · have := i2 (fun ⟨p, hp, ep⟩ => hn ⟨p, by simp [hp], ep⟩)
        rw [hw]
        simp only [List.length_cons]
        omega

/-- The map that reads as D has just the pods ps, each under its name. -/
structure Is (D : DataW Unit) (ps : List Pd) : Prop where
  tidy : Maps.Tidy D
  apart : Apart ps
  has : ∀ kl, Maps.has D kl = true ↔ ∃ p ∈ ps, kl = pk p
  at_ : ∀ p ∈ ps, ∀ zd, D.atKey (pk p) zd = podD p
  size : Maps.size D = ps.length
theorem Is.empty : Is (.map []) [] := ⟨Maps.tidy_empty, List.Pairwise.nil, fun kl => by simp [Maps.has], fun p hp => by simp at hp, rfl⟩
theorem apart_snoc {ps : List Pd} (h : Apart ps) (x : Pd) : Apart (wo x ps ++ [x]) := by
  refine List.pairwise_append.2 ⟨h.wo x, List.pairwise_singleton _ _, fun a ha b hb => ?_⟩
  rw [List.mem_singleton] at hb
  subst hb
  exact (wo_mem.1 ha).2
theorem Is.put {D : DataW Unit} {ps : List Pd} (h : Is D ps) (x : Pd) : Is (D.put (pk x) (podD x)) (wo x ps ++ [x]) := by
  refine ⟨h.tidy.put (pk_key x) _, apart_snoc h.apart x, fun kl => ?_, fun p hp zd => ?_, ?_⟩
  · by_cases e : kl = pk x
    · subst e
      rw [Maps.has_put_same h.tidy.isMap (pk_key x)]
      exact ⟨fun _ => ⟨x, by simp, rfl⟩, fun _ => rfl⟩
    · rw [Maps.has_put_other e, h.has]
      constructor
      · rintro ⟨p, hp, rfl⟩
        exact ⟨p, List.mem_append_left _ (wo_mem.2 ⟨hp, fun e2 => e (pk_eq e2)⟩), rfl⟩
      · rintro ⟨p, hp, rfl⟩
        rcases List.mem_append.1 hp with hp | hp
        · exact ⟨p, (wo_mem.1 hp).1, rfl⟩
        · rw [List.mem_singleton] at hp
          subst hp
          exact absurd rfl e
  · rcases List.mem_append.1 hp with hp | hp
    · obtain ⟨h1, h2⟩ := wo_mem.1 hp
      rw [Maps.atKey_put_other (pk_ne h2)]
      exact h.at_ p h1 zd
    · rw [List.mem_singleton] at hp
      subst hp
      exact Maps.atKey_put_same h.tidy.isMap (pk_key p) _ _
  · rw [Maps.size_put h.tidy, h.size]
    obtain ⟨i1, i2⟩ := wo_len (x := x) h.apart
    rw [List.length_append, List.length_singleton]
    by_cases e : ∃ p ∈ ps, p.nm = x.nm
    · obtain ⟨p, hp, ep⟩ := e
      rw [if_pos ((h.has _).2 ⟨p, hp, (pk_eq ep).symm⟩)]
      exact (i1 ⟨p, hp, ep⟩).symm
    · rw [if_neg (fun hh => by
        obtain ⟨p, hp, ep⟩ := (h.has _).1 hh
        exact e ⟨p, hp, (pk_inj ep).symm⟩), i2 e]
theorem Is.del {D : DataW Unit} {ps : List Pd} (h : Is D ps) (x : Pd) : Is (D.del (pk x)) (wo x ps) := by
  refine ⟨h.tidy.del _, h.apart.wo x, fun kl => ?_, fun p hp zd => ?_, ?_⟩
  · by_cases e : kl = pk x
    · subst e
      rw [Maps.has_del_same]
      refine Iff.intro (fun hh => Bool.noConfusion hh) (fun hh => ?_)
      obtain ⟨p, hp, ep⟩ := hh
      exact absurd (pk_inj ep).symm (wo_mem.1 hp).2
    · rw [Maps.has_del_other e, h.has]
      constructor
      · rintro ⟨p, hp, rfl⟩
        exact ⟨p, wo_mem.2 ⟨hp, fun e2 => e (pk_eq e2)⟩, rfl⟩
      · rintro ⟨p, hp, rfl⟩
        exact ⟨p, (wo_mem.1 hp).1, rfl⟩
  · obtain ⟨h1, h2⟩ := wo_mem.1 hp
    rw [Maps.atKey_del_other (pk_ne h2)]
    exact h.at_ p h1 zd
  · have := Maps.size_del (k := pk x) h.tidy
    rw [h.size] at this
    obtain ⟨i1, i2⟩ := wo_len (x := x) h.apart
    by_cases e : ∃ p ∈ ps, p.nm = x.nm
    · obtain ⟨p, hp, ep⟩ := e
      rw [if_pos ((h.has _).2 ⟨p, hp, (pk_eq ep).symm⟩)] at this
      have := i1 ⟨p, hp, ep⟩
      omega
    · rw [if_neg (fun hh => by
        obtain ⟨p, hp, ep⟩ := (h.has _).1 hh
        exact e ⟨p, hp, (pk_inj ep).symm⟩)] at this
      have := i2 e
      omega
/-- What a key of the map leads to. -/
theorem Is.find {D : DataW Unit} {ps : List Pd} (h : Is D ps) {kl : Lit} (hk : Maps.has D kl = true) {q : Pd} (hat : ∀ zd, D.atKey kl zd = podD q) : q ∈ ps ∧ kl = pk q := by
  obtain ⟨p, hp, rfl⟩ := (h.has kl).1 hk
  have := h.at_ p hp .nil
  rw [hat .nil] at this
  rw [podD_inj this]
  exact ⟨hp, rfl⟩

/-- What the roster of a list has. -/
def ros (ls : List Pd) : List Pd := ls.foldl (fun ps p => wo p ps ++ [p]) []
theorem ros_snoc (ls : List Pd) (p : Pd) : ros (ls ++ [p]) = wo p (ros ls) ++ [p] := by unfold ros; rw [List.foldl_append]; rfl
theorem ros_self_go : ∀ (ls acc : List Pd), Apart (acc ++ ls) → ls.foldl (fun ps p => wo p ps ++ [p]) acc = acc ++ ls
  | [], acc, _ => by simp
  | p :: r, acc, h => by
    have h1 : wo p acc = acc := wo_self fun q hq => (List.pairwise_append.1 h).2.2 q hq p (by simp)
    show r.foldl _ (wo p acc ++ [p]) = _
    rw [h1, ros_self_go r (acc ++ [p]) (by simpa using h)]
    simp
theorem ros_self {ls : List Pd} (h : Apart ls) : ros ls = ls := by
  have := ros_self_go ls [] (by simpa using h)
  simpa [ros] using this
theorem ros_len_go : ∀ (ls acc : List Pd), (ls.foldl (fun ps p => wo p ps ++ [p]) acc).length ≤ acc.length + ls.length
  | [], acc => by simp
  | p :: r, acc => by
    have h1 := ros_len_go r (wo p acc ++ [p])
    have h2 : (wo p acc).length ≤ acc.length := List.length_filter_le _ _
    simp only [List.foldl_cons, List.length_append, List.length_cons, List.length_nil] at h1 ⊢
    omega
theorem ros_len (ls : List Pd) : (ros ls).length ≤ ls.length := by
  have := ros_len_go ls []
  unfold ros
  simpa using this

/-! ### Valid lists. -/
def Up (ls : List Pd) : Prop := ls.Pairwise (fun p q => p.nm.data.toList < q.nm.data.toList)
theorem Up.apart {ls : List Pd} (h : Up ls) : Apart ls := h.imp (fun {p q} h e => by rw [e] at h; exact List.lt_irrefl _ h)
/-- Sorted, with the pods of the roster of ls: ls itself just if ls was sorted without repeats. -/
theorem sorted_is {qs ls : List Pd} (hp : qs.Perm (ros ls)) (hs : Up qs) : qs = ls ↔ Up ls := by
  constructor
  · rintro rfl; exact hs
  · intro h
    rw [ros_self h.apart] at hp
    exact List.Perm.eq_of_pairwise (le := fun p q : Pd => p.nm.data.toList < q.nm.data.toList) (fun a b _ _ h1 h2 => absurd (List.lt_trans h1 h2) (List.lt_irrefl _)) hs h hp
theorem up_pairs {ls : List Pd} (h : ∀ (i : Nat) (hi : i + 1 < ls.length), ls[i].nm.data.toList < ls[i + 1].nm.data.toList) : ∀ (j i : Nat) (hj : j < ls.length) (hi : i < j), ls[i].nm.data.toList < ls[j].nm.data.toList
  | 0, i, _, hi => absurd hi (by omega)
  | j + 1, i, hj, hi => by
    have h1 := h j hj
    by_cases e : i = j
    · subst e; exact h1
    · exact List.lt_trans (up_pairs h j i (by omega) (by omega)) h1
theorem up_iff {ls : List Pd} : Up ls ↔ ∀ (i : Nat) (hi : i + 1 < ls.length), lessV ls[i].nm ls[i + 1].nm = true := by
  unfold Up
  rw [List.pairwise_iff_getElem]
  constructor
  · intro h i hi
    exact decide_eq_true (h i (i + 1) (by omega) hi (by omega))
  · intro h i j hi hj hij
    exact up_pairs (fun i hi => of_decide_eq_true (h i hi)) j i hj hij
/-- A valid list of pods. -/
noncomputable def podsV (ls : List Pd) : Bool := @decide (ls.length ≤ 12 ∧ (∀ p ∈ ls, okP p = true) ∧ Up ls) (Classical.propDecidable _)
theorem podsV_iff (ls : List Pd) : podsV ls = true ↔ ls.length ≤ 12 ∧ (∀ p ∈ ls, okP p = true) ∧ Up ls := by unfold podsV; exact @decide_eq_true_iff _ (Classical.propDecidable _)
theorem podsV_no {ls : List Pd} (h : ¬ (ls.length ≤ 12 ∧ (∀ p ∈ ls, okP p = true) ∧ Up ls)) : podsV ls = false := by
  cases hv : podsV ls
  · rfl
  · exact absurd ((podsV_iff ls).1 hv) h
/-- Those that run. -/
def runs (p : Pd) : Bool := p.ph == 0
theorem runs_up {ls : List Pd} (h : Up ls) : Up (ls.filter runs) := h.filter _
theorem sorted_runs {qs ls : List Pd} (hp : qs.Perm ((ros ls).filter runs)) (hs : Up qs) (h : Up ls) : qs = ls.filter runs := by
  rw [ros_self h.apart] at hp
  exact List.Perm.eq_of_pairwise (le := fun p q : Pd => p.nm.data.toList < q.nm.data.toList) (fun a b _ _ h1 h2 => absurd (List.lt_trans h1 h2) (List.lt_irrefl _)) hs (runs_up h) hp

/-! ### A roster under a range: the pods met so far. -/
structure Met (ps : List Pd) (left : Lit → Bool) (ss : List Pd) : Prop where
  apart : Apart ss
  of : ∀ p ∈ ss, p ∈ ps ∧ left (pk p) = false
  all : ∀ p ∈ ps, left (pk p) = false → p ∈ ss
theorem Met.start {D : DataW Unit} {ps : List Pd} (h : Is D ps) : Met ps (Maps.has D) [] :=
  ⟨List.Pairwise.nil, fun p hp => by simp at hp, fun p hp hl => by rw [(h.has _).2 ⟨p, hp, rfl⟩] at hl; cases hl⟩
theorem Met.step {ps : List Pd} {left : Lit → Bool} {ss : List Pd} (h : Met ps left ss) (ha : Apart ps) {q : Pd} (hq : q ∈ ps) (hl : left (pk q) = true) : Met ps (fun z => left z && !z.sameKey (pk q)) (ss ++ [q]) := by
  refine ⟨List.pairwise_append.2 ⟨h.apart, List.pairwise_singleton _ _, fun a ha b hb e => ?_⟩, fun p hp => ?_, fun p hp hf => ?_⟩
  · rw [List.mem_singleton] at hb
    subst hb
    have := (h.of a ha).2
    rw [pk_eq e, hl] at this
    cases this
  · rcases List.mem_append.1 hp with hp | hp
    · exact ⟨(h.of p hp).1, by rw [(h.of p hp).2]; rfl⟩
    · rw [List.mem_singleton] at hp
      subst hp
      exact ⟨hq, by rw [WideAt.sameKey_self (pk_key p)]; simp⟩
  · cases hlp : left (pk p)
    · exact List.mem_append_left _ (h.all p hp hlp)
    · rw [hlp, Bool.true_and, Bool.not_eq_false'] at hf
      have e := pk_inj (WideAt.sameKey_eq hf)
      have : p = q := by
        obtain ⟨i, hi, rfl⟩ := List.mem_iff_getElem.1 hp
        obtain ⟨j, hj, rfl⟩ := List.mem_iff_getElem.1 hq
        have hg := List.pairwise_iff_getElem.1 ha
        rcases Nat.lt_trichotomy i j with h | h | h
        · exact absurd e (hg i j hi hj h)
        · subst h; rfl
        · exact absurd e.symm (hg j i hj hi h)
      subst this
      simp
theorem Apart.nodup {ps : List Pd} (h : Apart ps) : ps.Nodup := h.imp (fun {p q} h e => h (by rw [e]))
theorem Met.perm {ps : List Pd} {left : Lit → Bool} {ss : List Pd} (h : Met ps left ss) (ha : Apart ps) (hl : ∀ kl, left kl = false) : ss.Perm ps :=
  (List.perm_ext_iff_of_nodup h.apart.nodup ha.nodup).2 fun p => ⟨fun hp => (h.of p hp).1, fun hp => h.all p hp (hl _)⟩

/-! ### A roster from which a range deletes. -/
def stay (left : Lit → Bool) (p : Pd) : Bool := runs p || left (pk p)
theorem stay_start {D : DataW Unit} {ps : List Pd} (h : Is D ps) : ps.filter (stay (Maps.has D)) = ps :=
  List.filter_eq_self.2 fun p hp => by unfold stay; rw [(h.has _).2 ⟨p, hp, rfl⟩, Bool.or_true]
theorem stay_end {ps : List Pd} {left : Lit → Bool} (hl : ∀ kl, left kl = false) : ps.filter (stay left) = ps.filter runs :=
  List.filter_congr fun p _ => by unfold stay; rw [hl, Bool.or_false]
theorem stay_keep {ps : List Pd} {left : Lit → Bool} {q : Pd} (ha : Apart ps) (hq : q ∈ ps) (hr : runs q = true) : ps.filter (stay fun z => left z && !z.sameKey (pk q)) = ps.filter (stay left) :=
  List.filter_congr fun p hp => by
    unfold stay
    by_cases e : p.nm = q.nm
    · have : p = q := by
        obtain ⟨i, hi, rfl⟩ := List.mem_iff_getElem.1 hp
        obtain ⟨j, hj, rfl⟩ := List.mem_iff_getElem.1 hq
        have hg := List.pairwise_iff_getElem.1 ha
        rcases Nat.lt_trichotomy i j with h | h | h
        · exact absurd e (hg i j hi hj h)
        · subst h; rfl
        · exact absurd e.symm (hg j i hj hi h)
      subst this
      rw [hr]; rfl
    · simp only [Maps.sameKey_ne (pk_ne e)]
      simp
theorem stay_strike {ps : List Pd} {left : Lit → Bool} {q : Pd} (hr : runs q = false) (ha : Apart ps) (hq : q ∈ ps) : ps.filter (stay fun z => left z && !z.sameKey (pk q)) = wo q (ps.filter (stay left)) := by
  unfold wo
  rw [List.filter_filter]
  refine List.filter_congr fun p hp => ?_
  unfold stay
  by_cases e : p.nm = q.nm
  · have : p = q := by
      obtain ⟨i, hi, rfl⟩ := List.mem_iff_getElem.1 hp
      obtain ⟨j, hj, rfl⟩ := List.mem_iff_getElem.1 hq
      have hg := List.pairwise_iff_getElem.1 ha
      rcases Nat.lt_trichotomy i j with h | h | h
      · exact absurd e (hg i j hi hj h)
      · subst h; rfl
      · exact absurd e.symm (hg j i hj hi h)
    subst this
    have hn : notNm p p = false := by unfold notNm; simp
    simp only [hr, hn, WideAt.sameKey_self (pk_key p)]
    simp
  · simp only [Maps.sameKey_ne (pk_ne e), notNm_yes.2 e]
    simp
end Go.Proofs.YtgmdfkmmbcpikaaGreatDoor.Ros

/- The program's rosters: rosterOf, pods (collected in whatever order, then sorted). -/
namespace Go.Proofs.YtgmdfkmmbcpikaaGreatDoor.RosI
open Go.RowKit Go.Sort Go.Maps
open Go.Proofs.YtgmdfkmmbcpikaaGreatDoor.C1
open Go.Proofs.YtgmdfkmmbcpikaaGreatDoor.C2
open Go.Proofs.YtgmdfkmmbcpikaaGreatDoor.Smps
open Go.Proofs.YtgmdfkmmbcpikaaGreatDoor.Mem
open Go.Proofs.YtgmdfkmmbcpikaaGreatDoor.Pd
open Go.Proofs.YtgmdfkmmbcpikaaGreatDoor.Pds
open Go.Proofs.YtgmdfkmmbcpikaaGreatDoor.Key
open Go.Proofs.YtgmdfkmmbcpikaaGreatDoor.Ros
set_option linter.unusedVariables false

theorem keyed : Keyed Tryz.prog 9 := string_keyed Tryz.underlying9
theorem map_t : Tryz.prog.underlying 219 = some (.map 9 153) := by kernel_rfl
theorem key_of (p : Pd) (h : p.nm.size ≤ maxLen) : keyOf Tryz.prog 9 (.string p.nm) = some (pk p) := WideMaps.keyOf_string_mk Tryz.underlying9 h
theorem make_map (n : Nat) (w : World) : (Instr.makeMap 219 (some (.int .i64 (n : Int)))).run Tryz.prog w = .ok (.map (some w.heap.size)) (w.alloc (.map #[] 0)) := by
  simp [Instr.makeMap, run_underlying map_t, asInt, asIntOf, Result.andThen]
abbrev RM (w : World) (b n : Nat) (D : DataW Unit) : Prop := w.ownsMap Tryz.prog 9 podR b n D
set_option maxHeartbeats 1000000 in
theorem roster_of (ls : List Pd) (hwf : ∀ p ∈ ls, p.wf) (a : Option Addr) (cap : Nat) (w : World) (h : Pds w a ls) (hm : ls.length ≤ 1048576) :
    Calls Tryz.prog 169 #[.slice a ls.length cap] w fun e w' => ∃ D, e = .returned (.map (some w.heap.size)) ∧ RM w' w.heap.size ls.length D ∧ Is D (ros ls) ∧ Below w.heap.size w w' := by
  obtain ⟨b, off, ha, hb, hcell⟩ := h.cells
  have hmk := make_map ls.length
  have hmade := World.ownsMap_made w Tryz.prog 9 podR
  have hbel : Below w.heap.size w (w.alloc (.map #[] 0)) := (Below.refl _ _).alloc (Nat.le_refl _) _
  have HM := Lib.hid hmade
  have HBL := Lib.hid hbel
  have Hc := Lib.hid hcell
  have Ha := Lib.hid ha
  have Hb := Lib.hid hb
  have HW := Lib.hid hwf
  clear hmade hbel hcell ha hb h hwf
  go_enter Tryz.func169, Tryz.ntmps169
  go_wp2
  go_loopw [11] (fun i wr => ∃ (k : Nat) (D : DataW Unit), k ≤ ls.length ∧ i = .int .i64 k ∧ Hid (RM wr w.heap.size k D) ∧ Hid (Is D (ros (ls.take k))) ∧ Hid (Below w.heap.size w wr)) (fun i _ => ls.length - (intOf i).toNat)
  case atStart => exact ⟨0, .map [], Nat.zero_le _, rfl, HM.out, Is.empty, HBL.out⟩
  case round =>
    clear hmk
    obtain ⟨k, D, hk, rfl, HO, HI, HB⟩ := hrel
    by_cases hlt : k < ls.length
    · obtain ⟨p, hp⟩ : ∃ p, ls[k] = p := ⟨_, rfl⟩
      have hwp := HW.out _ (List.getElem_mem hlt)
      have hq := (Hc.out k hlt).kept HB.out (Hb.out (by omega))
      obtain rfl := Ha.out (by omega)
      have HT : Hid (ls.take (k + 1) = ls.take k ++ [p]) := by show _ = _; rw [List.take_succ_eq_append_getElem hlt, hp]
      rw [hp] at hwp hq
      obtain ⟨q0, q1, q2, q3⟩ := hq
      clear hp
      have hkey := key_of p hwp.nm
      have hval : podR (.agg #[.string p.nm, .int .i64 p.born, .int .i64 p.ph, .bool p.rdy]) = some (podD p, []) := podR_mk p
      have HBX := Lib.hid (HB.out.alloc HB.out.size (.cells #[.string p.nm, .int .i64 p.born, .int .i64 p.ph, .bool p.rdy] 153))
      have HOX := Lib.hid (World.ownsMap.alloc HO.out (.cells #[.string p.nm, .int .i64 p.born, .int .i64 p.ph, .bool p.rdy] 153))
      have HIX : Hid (Is (D.put (pk p) (podD p)) (ros (ls.take (k + 1)))) := by
        show Is _ _
        rw [HT.out, ros_snoc]
        exact HI.out.put p
      have hkm : k < maxLen := by unfold maxLen; omega
      clear hwp
      go_wp2_with (at_mapUpdate; refine wpList_mapUpdate_own _ rfl _ _ _ 219 rfl 9 153 keyed map_t podR w.heap.size k D rfl HOX.out hkm _ _ (pk p) rfl rfl hkey (podD p) [] hval ?_; intro w1 hown1 hgrow1; have HO1 := Lib.hid hown1; have HB1 := Lib.hid (HBX.out.grown hgrow1 HBX.out.size (fun j hj => by cases hj; exact Nat.le_refl _)); clear hown1 hgrow1)
      clear q0 q1 q2 q3 hkey hval
      go_wp2
      go_roundw
      case rel => exact ⟨k + 1, _, by omega, by go_num, HO1.out, HIX.out, HB1.out⟩
      case measure => simp [intOf]; omega
    · obtain rfl : k = ls.length := by omega
      have HIX : Hid (Is D (ros ls)) := by
        have := HI.out
        rw [List.take_of_length_le (Nat.le_refl _)] at this
        exact this
      clear HI
      go_wp2
      go_ret
      exact ⟨D, rfl, HO.out, HIX.out, HB.out⟩
end Go.Proofs.YtgmdfkmmbcpikaaGreatDoor.RosI

/- The program's pods: a roster's pods, collected in whatever order, sorted by their names; slices.Equal at pods. -/
namespace Go.Proofs.YtgmdfkmmbcpikaaGreatDoor.RosP
open Go.RowKit Go.Sort Go.Maps
open Go.Proofs.YtgmdfkmmbcpikaaGreatDoor.C1
open Go.Proofs.YtgmdfkmmbcpikaaGreatDoor.C2
open Go.Proofs.YtgmdfkmmbcpikaaGreatDoor.Smps
open Go.Proofs.YtgmdfkmmbcpikaaGreatDoor.Mem
open Go.Proofs.YtgmdfkmmbcpikaaGreatDoor.Pd
open Go.Proofs.YtgmdfkmmbcpikaaGreatDoor.Pds
open Go.Proofs.YtgmdfkmmbcpikaaGreatDoor.Key
open Go.Proofs.YtgmdfkmmbcpikaaGreatDoor.Ros
open Go.Proofs.YtgmdfkmmbcpikaaGreatDoor.RosI
set_option linter.unusedVariables false

/-! ### Sorted by name. -/
theorem cmp_pods (x y : Pd) (w : World) :
    Calls Tryz.prog 220 #[podV x, podV y] w fun e w' => e = .returned (.int .i64 (cmpB x.nm.data.toList y.nm.data.toList)) ∧ ∃ q os', w' = grow (w.drewN q) os' := by
  unfold podV
  go_enter Tryz.func220, Tryz.ntmps220
  go_wp2_with (go_at_call 223; refine (cmp_str x.nm y.nm _).mono ?_; rintro e w' ⟨rfl, rfl⟩)
  go_ret
  exact ⟨rfl, 0, _, grown2 _ _ _⟩
def cfN (x y : Pd) : Int := cmpB x.nm.data.toList y.nm.data.toList
theorem lt_nm (x y : Pd) : ltOf cfN x y = decide (x.nm.data.toList < y.nm.data.toList) := by
  unfold ltOf cfN cmpB
  by_cases h1 : x.nm.data.toList < y.nm.data.toList
  · simp [h1]
  · by_cases h2 : y.nm.data.toList < x.nm.data.toList <;> simp [h1, h2]
theorem swo_nm : SWO (ltOf cfN) where
  irrefl x := by rw [lt_nm]; exact decide_eq_false (List.lt_irrefl _)
  trans x y z h1 h2 := by
    rw [lt_nm] at *
    exact decide_eq_true (List.lt_trans (of_decide_eq_true h1) (of_decide_eq_true h2))
  ntrans x y z h1 h2 := by
    rw [lt_nm] at *
    refine decide_eq_false fun h => ?_
    have g1 := of_decide_eq_false h1
    have g2 := of_decide_eq_false h2
    rcases Std.lt_trichotomy x.nm.data.toList y.nm.data.toList with k | k | k
    · exact g1 k
    · rw [k] at h; exact g2 h
    · exact g2 (List.lt_trans k h)
theorem encD_len (p : Pd) : (encD p).length = 4 := rfl
theorem sort_pods (ps : List Pd) (h12 : ps.length ≤ 12) (g cap : Nat) (w : World) (hg : g < w.heap.size) (h : HoldsK encD 4 w g 0 ps.toArray) :
    Calls Tryz.prog 219 #[.slice (some ⟨g, 0, none⟩) ps.length cap, .func (.func 220) #[] #[]] w fun e w' => e = .returned (.tuple #[]) ∧ ∃ (d' : Array Pd) (n : Nat) (os : Array Obj), PermIn 0 ps.length ps.toArray d' ∧ SortedIn (ltOf cfN) 0 ps.length d' ∧ w' = sortWorldK encD 4 w g 0 n d' os := by
  have eg : ∀ args w, (callFunc 220 args).run Tryz.prog w = .ok (.enter 220 args) w := enters_of Tryz.func220 (by kernel_rfl) rfl
  have hcon := Tryz.slices_SortFunc_small_sorted_f219 4 Tryz.isAgg153 Tryz.sizeOf153 encD encD_len (fun x v hv => by simp [encD] at hv; rcases hv with rfl | rfl | rfl | rfl <;> rfl) cfN 220 #[] swo_nm g 0 cap ps.toArray w eg
    (fun m os dk hs x y => cmp_pods x y _) h hg (by simpa using h12) (fun n W hn => (Tryz.bits_Len n W (by omega) (by omega)).mono fun _ _ ⟨he, hw⟩ => ⟨⟨_, he⟩, hw⟩)
  simpa using hcon
theorem sorted_up {ps : List Pd} {d' : Array Pd} (hap : Apart ps) (hp : PermIn 0 ps.length ps.toArray d') (hs : SortedIn (ltOf cfN) 0 ps.length d') : d'.toList.Perm ps ∧ Up d'.toList := by
  obtain ⟨h1, _, h3⟩ := hp
  have h1' : d'.size = ps.length := by simpa using h1
  have e1 : d'.extract 0 ps.length = d' := by rw [← h1']; simp
  have e2 : ps.toArray.extract 0 ps.length = ps.toArray := by have : ps.length = ps.toArray.size := by simp
                                                              rw [this]; simp
  rw [e1, e2] at h3
  have h4 : d'.toList.Perm ps := h3
  refine ⟨h4, ?_⟩
  have ha : Apart d'.toList := (h4.pairwise_iff (R := fun x y : Pd => x.nm ≠ y.nm) (fun h => Ne.symm h)).2 hap
  unfold Up
  rw [List.pairwise_iff_getElem]
  intro i j hi hj hij
  have hi' : i < d'.size := by simpa using hi
  have hj' : j < d'.size := by simpa using hj
  have := hs i j (Nat.zero_le _) hij (by omega)
  rw [lt_nm, getElem!_pos d' i hi', getElem!_pos d' j hj'] at this
  have h5 := of_decide_eq_false this
  have h6 := List.pairwise_iff_getElem.1 ha i j hi hj hij
  simp only [Array.getElem_toList] at h6 ⊢
  rcases Std.lt_trichotomy d'[i].nm.data.toList d'[j].nm.data.toList with k | k | k
  · exact k
  · exact absurd (nm_eq k) h6
  · exact absurd k h5
theorem holds_own {w : World} {B g n cap : Nat} {ps : List Pd} (h : OwnD w B (.slice (some ⟨g, 0, none⟩) n cap) ps) (hn : n = ps.length) : HoldsK encD 4 w g 0 ps.toArray := by
  intro j hj
  have hj2 : j < ps.toArray.size * 4 := by simpa using hj
  have hi : j / 4 < ps.length := by simp at hj2; omega
  obtain ⟨⟨c0, c1, c2, c3⟩, hf⟩ := h.spot hn (j / 4) hi
  rw [get_flatK encD 4 ps.toArray j hj2, Nat.zero_add]
  have eg : ps.toArray[j / 4]! = ps[j / 4] := by simp [hi]
  rw [eg]
  have e0 : j = j / 4 * 4 + j % 4 := by omega
  rcases (by omega : j % 4 = 0 ∨ j % 4 = 1 ∨ j % 4 = 2 ∨ j % 4 = 3) with h | h | h | h
  · have e : j / 4 * 4 = j := by omega
    rw [e] at c0
    rw [h]
    exact ⟨c0, hf j⟩
  · have e : j / 4 * 4 + 1 = j := by omega
    rw [e] at c1
    rw [h]
    exact ⟨c1, hf j⟩
  · have e : j / 4 * 4 + 2 = j := by omega
    rw [e] at c2
    rw [h]
    exact ⟨c2, hf j⟩
  · have e : j / 4 * 4 + 3 = j := by omega
    rw [e] at c3
    rw [h]
    exact ⟨c3, hf j⟩
theorem sorted_pds {w : World} {g : Nat} {ps : List Pd} (h : HoldsK encD 4 w g 0 ps.toArray) (hg : g < w.heap.size) (d' : Array Pd) (hs : d'.size = ps.length) (n : Nat) (os : Array Obj) :
    Pds (sortWorldK encD 4 w g 0 n d' os) (some ⟨g, 0, none⟩) d'.toList ∧ Only g w (sortWorldK encD 4 w g 0 n d' os) := by
  have hK := holdsK_sortWorldK_c encD 4 w g 0 ps.toArray d' n os h hg (by simpa using hs)
  have hsz : w.heap.size ≤ (sortWorldK encD 4 w g 0 n d' os).heap.size := size_sortWorldK_c encD 4 w g 0 n d' os
  refine ⟨.inr ⟨g, 0, rfl, Nat.lt_of_lt_of_le hg hsz, fun i hi => ?_⟩, ⟨rfl, rfl, rfl, hsz, fun k hk hne => ?_⟩⟩
  · have hi2 : i < d'.size := by simpa using hi
    have c0 := (hK.cell hi2 (show 0 < 4 by omega)).1
    have c1 := (hK.cell hi2 (show 1 < 4 by omega)).1
    have c2 := (hK.cell hi2 (show 2 < 4 by omega)).1
    have c3 := (hK.cell hi2 (show 3 < 4 by omega)).1
    rw [getElem!_pos d' i hi2] at c0 c1 c2 c3
    simp only [Array.getElem_toList]
    exact ⟨c0, c1, c2, c3⟩
  · unfold sortWorldK
    rw [heap_grow_old _ _ (by unfold putRowK; rw [size_putRow]; exact hk)]
    show ((Sort.ahead w n).heap.modify g _)[k]? = _
    rw [Array.getElem?_modify, if_neg (fun e => hne e.symm)]
    rfl

/-! ### Collecting. -/
theorem info_pd2 : ∃ i, Tryz.prog.info? 153 = some i ∧ i.zero = some (podV zeroD) ∧ i.size = 4 ∧ i.bytes = 40 := by
  obtain ⟨i, hi, hz⟩ := Option.map_eq_some_iff.1 info_pd
  simp only [Prod.mk.injEq] at hz
  exact ⟨i, hi, hz.1, hz.2.1, hz.2.2⟩
theorem four_one (p : Pd) : ∀ u ∈ [Value.string p.nm, .int .i64 p.born, .int .i64 p.ph, .bool p.rdy], u.oneCell' = true := by
  intro u hu
  simp at hu
  rcases hu with rfl | rfl | rfl | rfl <;> rfl
theorem four_cells (w : World) (p : Pd) (t : TypeId) : ∀ (j : Nat) (u : Value), [Value.string p.nm, .int .i64 p.born, .int .i64 p.ph, .bool p.rdy][j]? = some u → (w.alloc (.cells #[.string p.nm, .int .i64 p.born, .int .i64 p.ph, .bool p.rdy] t)).cell? ((⟨w.heap.size, 0, none⟩ : Addr).add j) = some u := by
  intro j u hj
  obtain ⟨-, -, c0, c1, c2, c3⟩ := box_read (Below.refl _ (w.alloc (.cells #[.string p.nm, .int .i64 p.born, .int .i64 p.ph, .bool p.rdy] t)))
  match j, hj with
  | 0, hj => cases hj; exact c0
  | 1, hj => cases hj; exact c1
  | 2, hj => cases hj; exact c2
  | 3, hj => cases hj; exact c3
theorem OwnD_snoc {w : World} {B : Nat} {v : Value} {ps : List Pd} {p : Pd} (h : w.ownsRow B 153 4 v (ps.length + 1) (flatP ps ++ [.string p.nm, .int .i64 p.born, .int .i64 p.ph, .bool p.rdy])) : OwnD w B v (ps ++ [p]) := by
  unfold OwnD
  rw [List.length_append, flatP_append]
  exact h
theorem OwnD.row {w : World} {B : Nat} {v : Value} {ps : List Pd} (h : OwnD w B v ps) : w.ownsRow B 153 4 v ps.length (flatP ps) := h
def mkP (p : Pd) : Value := .agg #[.string p.nm, .int .i64 p.born, .int .i64 p.ph, .bool p.rdy]
theorem invP (v : Value) (y : DataW Unit × List MemPlace) (h : podR v = some y) : ∃ p, v = mkP p := by
  obtain ⟨p, hp, _⟩ := podR_inv h
  exact ⟨p, hp⟩
theorem invK (key : Value) (kl : Lit) (h : keyOf Tryz.prog 9 key = some kl) : ∃ x, key = encStr x := by
  obtain ⟨x, hx, _⟩ := Maps.keyOf_str Tryz.underlying9 h
  exact ⟨x, hx⟩
abbrev RG (w : World) (b r n : Nat) (D : DataW Unit) (left : Lit → Bool) (cnt : Nat) : Prop := w.ranges Tryz.prog 9 podR b r n D left cnt
set_option maxRecDepth 100000 in
set_option maxHeartbeats 1000000 in
theorem impl_pods (b n : Nat) (D : DataW Unit) (ps : List Pd) (w : World) (hown : RM w b n D) (his : Is D ps) (h12 : ps.length ≤ 12) :
    Calls Tryz.prog 170 #[.map (some b)] w fun e w' => ∃ (g cap : Nat) (qs : List Pd), e = .returned (.slice (some ⟨g, 0, none⟩) qs.length cap) ∧ w.heap.size ≤ g ∧ qs.Perm ps ∧ Up qs ∧ Pds w' (some ⟨g, 0, none⟩) qs ∧ Below w.heap.size w w' := by
  obtain ⟨i0, hi, hz0, hz1, hz2⟩ := info_pd2
  have hbl := hown.lt
  have HSZ := Lib.hid his.size
  go_enter Tryz.func170, Tryz.ntmps170
  go_wp2_with (first
    | (at_len; refine wpList_len_own _ rfl _ 219 rfl 9 153 map_t podR b n D rfl hown ?_)
    | (at_make; refine wpList_make_own _ rfl _ _ 49 rfl w.heap.size 153 i0 (podV zeroD) 4 Tryz.underlying49 hi hz0 hz1 _ _ _ (Maps.size D) rfl rfl rfl (by rw [hz2, HSZ.out]; omega) (by rw [HSZ.out]; unfold maxLen; omega) (Nat.le_refl _) ?_; intro w1 hrow1 hg1)
    | (at_range; refine wpList_range_own _ rfl _ 219 rfl 9 153 keyed map_t podR b n D rfl (hown.kept hg1 (by simp)) ?_; intro w0 hrg0 hg0 hs0)
    | go_in)
  go_frame
  have HI := Lib.hid his
  go_loopw [3] (fun v wr => ∃ (left : Lit → Bool) (cnt : Nat) (ss : List Pd), Hid (RG wr b w1.heap.size n D left cnt) ∧ ss.length + cnt ≤ 12 ∧ Hid (OwnD wr w.heap.size v ss) ∧ Hid (v ≠ .slice none 0 0) ∧ Hid (Met ps left ss) ∧ Hid (Below w.heap.size w wr))
    (fun _ wr => wr.rangeLeft b w1.heap.size)
  case atStart =>
    refine ⟨_, _, [], Lib.hid hrg0, by rw [HSZ.out]; simpa using h12, Lib.hid ?_, Lib.hid (by simp), Lib.hid (Met.start his), Lib.hid (((Below.refl _ _).grown hg1 (Nat.le_refl _) (fun j hj => by cases hj)).grown hg0 hg1.size (fun j hj => by cases hj))⟩
    exact hrow1.kept hg0 (Or.inr (by simp [Value.ownBlock]))
  case round =>
    obtain ⟨left, cnt, ss, HRG, hcs, HO, HN, HM, HB⟩ := hrel
    have hrg := HRG.out
    go_wp2_with (first
      | (at_next; refine wpList_next_ranges _ rfl _ rfl 9 keyed podR encStr mkP invK invP b w1.heap.size n D left cnt rfl hrg ?_ ?_)
      | go_in)
    · intro hc0 hl0
      have hO := HO.out
      rcases hO.2 with ⟨hnil, _⟩ | ⟨g, cap, cur, rfl, hbase, hb, h1, h2, h3, h4⟩
      · exact absurd hnil HN.out
      have hgl : g < wr.heap.size := (Array.getElem?_eq_some_iff.1 hb).1
      have hH := holds_own hO rfl
      have hl12 : ss.length ≤ 12 := by omega
      have hap := HM.out.apart
      have hpm := HM.out.perm HI.out.apart hl0
      have HC := Lib.hid (sort_pods ss hl12 g cap wr hgl hH)
      have HH := Lib.hid hH
      have HAP := Lib.hid hap
      have HPM := Lib.hid hpm
      have HGL := Lib.hid hgl
      have HBS := Lib.hid hbase
      clear hH hap hpm hb h1 h2 h3 h4 hO hgl hbase HRG hrg hown hrow1 hg1 hrg0 hg0 hs0
      go_wp2_with (go_at_call 219; refine HC.out.mono ?_; rintro e w' ⟨rfl, d', nn, os, hp, hs, hw'⟩; have HP := Lib.hid hp; have HS := Lib.hid hs; have HW' := Lib.hid hw'; clear hp hs hw')
      go_ret
      obtain ⟨k1, k2⟩ := sorted_up HAP.out HP.out HS.out
      have hds : d'.size = ss.length := by simpa using HP.out.1
      obtain ⟨k3, k4⟩ := sorted_pds HH.out HGL.out d' hds nn os
      rw [← HW'.out] at k3 k4
      have hlen : d'.toList.length = ss.length := by simpa using hds
      exact ⟨g, cap, d'.toList, by rw [hlen]; rfl, HBS.out, k1.trans HPM.out, k2, k3, HB.out.trans (k4.below HBS.out HB.out.size)⟩
    · intro x c kl yd yp w2 cnt2 hkey hlk hv hat hrg2 hlt hg2 hs2 hen
      have hv2 : yd = podD c := by
        have := podR_mk c
        have h3 := this.symm.trans hv
        exact (congrArg Prod.fst (Option.some.inj h3)).symm
      subst hv2
      obtain ⟨hcp, rfl⟩ := HI.out.find (has_true_of_atKey hat) hat
      have HMY := Lib.hid (HM.out.step HI.out.apart hcp hlk)
      have hrow2 : w2.ownsRow w.heap.size 153 4 _ ss.length (flatP ss) := World.ownsRow.kept HO.out hg2 (Or.inr (row_ne_iter HO.out hrg).symm)
      have HB2 := Lib.hid (HB.out.grown hg2 HB.out.size (fun j hj => by cases hj; exact hg1.size))
      have HRG2 := Lib.hid hrg2
      have HR2 := Lib.hid hrow2
      have HCB := Lib.hid (HB2.out.alloc HB2.out.size (.cells #[.string c.nm, .int .i64 c.born, .int .i64 c.ph, .bool c.rdy] 153))
      have HCC := Lib.hid (HCB.out.alloc HCB.out.size (.cells #[.string c.nm, .int .i64 c.born, .int .i64 c.ph, .bool c.rdy] 153))
      have HSC := Lib.hid HCC.out.size
      have hss : ss.length ≤ 12 := by omega
      have HL := Lib.hid hlt
      have HV := Lib.hid (hrg.left_eq)
      unfold mkP at hen
      clear hs2 hg2 hrow2 hrg2 hlt hkey hlk hv hat hown hrow1 hrg0 hg0 hs0 HRG
      go_wp2_with (first
        | (at_builtin; refine wpList_append_own _ rfl _ _ 49 rfl w.heap.size 153 i0 (podV zeroD) 4 40 Tryz.underlying49 hi hz0 hz1 hz2 rfl (by decide) _ ss.length (flatP ss) rfl ((World.ownsRow.alloc HR2.out _).alloc _) ⟨w2.heap.size + 1, 0, none⟩ 1 1 [.string c.nm, .int .i64 c.born, .int .i64 c.ph, .bool c.rdy] rfl rfl ?e1 (four_one c) (by unfold maxLen; omega) (by omega) HSC.out ?_)
        | go_in)
      case e1 =>
        have h := four_cells (w2.alloc (.cells #[.string c.nm, .int .i64 c.born, .int .i64 c.ph, .bool c.rdy] 153)) c 153
        have e : (w2.alloc (.cells #[.string c.nm, .int .i64 c.born, .int .i64 c.ph, .bool c.rdy] 153)).heap.size = w2.heap.size + 1 := by simp
        rw [e] at h
        exact h
      intro v' w3 hown' hg3 hnil3
      have hrow4 := World.ownsRow.alloc (World.ownsRow.alloc HR2.out (.cells #[.string c.nm, .int .i64 c.born, .int .i64 c.ph, .bool c.rdy] 153)) (.cells #[.string c.nm, .int .i64 c.born, .int .i64 c.ph, .bool c.rdy] 153)
      have hrg4 := World.ranges.alloc (World.ranges.alloc HRG2.out (.cells #[.string c.nm, .int .i64 c.born, .int .i64 c.ph, .bool c.rdy] 153)) (.cells #[.string c.nm, .int .i64 c.born, .int .i64 c.ph, .bool c.rdy] 153)
      have HR4 := Lib.hid (hrg4.kept hg3 (row_ne_low hrow4 hbl) (row_ne_iter hrow4 hrg4))
      have HO4 := Lib.hid (OwnD_snoc hown')
      have HN4 : Hid (v' ≠ .slice none 0 0) := fun hv' => by first | exact hnil3 hv' | (have := (hnil3.1 hv').2; omega)
      have HB4 := Lib.hid (HCC.out.grown hg3 HSC.out (fun j hj => (hrow4.lt j hj).1))
      clear hown' hg3 hnil3 hrow4 hrg4 HCC HCB HSC HR2 HRG2 HB2 hen
      go_wp2
      go_roundw
      case rel => exact ⟨_, cnt2, ss ++ [c], HR4, by have := HL.out; rw [List.length_append, List.length_singleton]; omega, HO4, HN4, HMY, HB4⟩
      case measure => rw [HR4.out.left_eq, HV.out]; exact HL.out
end Go.Proofs.YtgmdfkmmbcpikaaGreatDoor.RosP
