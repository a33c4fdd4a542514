/- The marks that the laws write into series and points, and read again: laws.markPointS, heldPointS, markSeriesS; the total of sizes. -/
import Derived.Test.YtgmdfkmmbcpikaaGreatFrom
namespace Go.Proofs.YtgmdfkmmbcpikaaGreat.MarkS
open Go.RowKit Go.Sort Go.BigFrame
open Go.Proofs.YtgmdfkmmbcpikaaGreat.C1
open Go.Proofs.YtgmdfkmmbcpikaaGreat.C2
open Go.Proofs.YtgmdfkmmbcpikaaGreat.Smps
open Go.Proofs.YtgmdfkmmbcpikaaGreat.Mem
open Go.Proofs.YtgmdfkmmbcpikaaGreat.Ser
open Go.Proofs.YtgmdfkmmbcpikaaGreat.Ser2
open Go.Proofs.YtgmdfkmmbcpikaaGreat.StoL
set_option linter.unusedVariables false

/-- The marks of n points, from k on. -/
def mkP (k n : Nat) : List Pt := (List.range n).map fun i => ⟨((k + 2 * i : Nat) : Int), ((k + 2 * i + 1 : Nat) : Int)⟩
theorem mkP_len (k n : Nat) : (mkP k n).length = n := by simp [mkP]
theorem mkP_get (k n i : Nat) (h : i < (mkP k n).length) : (mkP k n)[i] = ⟨((k + 2 * i : Nat) : Int), ((k + 2 * i + 1 : Nat) : Int)⟩ := by simp [mkP]
def halfP (k : Nat) (ps : List Pt) (i : Nat) : List Pt := (mkP k ps.length).take i ++ ps.drop i
theorem halfP_len (k : Nat) (ps : List Pt) (i : Nat) (h : i ≤ ps.length) : (halfP k ps i).length = ps.length := by unfold halfP; simp [mkP_len]; omega
theorem halfP_set (k : Nat) (ps : List Pt) (i : Nat) (h : i < ps.length) : (halfP k ps i).set i ⟨((k + 2 * i : Nat) : Int), ((k + 2 * i + 1 : Nat) : Int)⟩ = halfP k ps (i + 1) := by
  unfold halfP
  have e2 : i - ((mkP k ps.length).take i).length = 0 := by simp [mkP_len]; omega
  rw [List.set_append, if_neg (by simp [mkP_len]; omega), e2, List.drop_eq_getElem_cons h, List.set_cons_zero, List.take_succ_eq_append_getElem (by rw [mkP_len]; exact h), List.append_assoc, mkP_get]
  rfl
theorem halfP_all (k : Nat) (ps : List Pt) : halfP k ps ps.length = mkP k ps.length := by
  unfold halfP
  rw [List.take_of_length_le (by rw [mkP_len]; exact Nat.le_refl _)]; simp
theorem halfP_none (k : Nat) (ps : List Pt) : halfP k ps 0 = ps := by unfold halfP; simp
/-- What a call has written that writes only into the block of an address. -/
def OnlyA (a : Option Addr) (w w' : World) : Prop := (a = none → w' = w) ∧ ∀ b o s, a = some ⟨b, o, s⟩ → Only b w w'
theorem onlyA_none (w : World) : OnlyA none w w := ⟨fun _ => rfl, fun b o s e => by cases e⟩
theorem onlyA_some {g : Nat} {w w' : World} (h : Only g w w') : OnlyA (some ⟨g, 0, none⟩) w w' := by
  refine ⟨fun e => ?_, fun b o s e => ?_⟩
  · cases e
  · cases e; exact h
set_option maxHeartbeats 1000000 in
set_option maxRecDepth 20000 in
theorem mark_points (ps : List Pt) (a : Option Addr) (cap B k : Nat) (h0 : 0 < k) (hk : k + 2 * ps.length ≤ 100000000) (w : World) (h : OwnP w B (.slice a ps.length cap) ps) :
    Calls Tryz.prog 106 #[.slice a ps.length cap, .int .i64 k] w fun e w' => e = .returned (.int .i64 ((k + 2 * ps.length : Nat) : Int)) ∧ OwnP w' B (.slice a ps.length cap) (mkP k ps.length) ∧ OnlyA a w w' := by
  rcases h.2 with ⟨hv, h0'⟩ | ⟨g, cap', cur, hv, _, _, _, _⟩
  · obtain rfl : ps = [] := List.length_eq_zero_iff.1 h0'
    simp only [List.length_nil, Value.slice.injEq] at hv
    obtain ⟨rfl, -, rfl⟩ := hv
    have HO := Lib.hid h
    clear h
    show Calls Tryz.prog 106 #[.slice none 0 0, .int .i64 k] w _
    go_enter Tryz.func106, Tryz.ntmps106
    go_wp2
    go_loop [1, 5] (fun v i => v = .int .i64 k ∧ i = .int .i64 0) (fun _ _ => 0)
    case atStart => exact ⟨rfl, rfl⟩
    case round =>
      obtain ⟨rfl, rfl⟩ := hrel
      go_wp2
      go_ret
      exact ⟨rfl, HO.out, onlyA_none _⟩
  · cases hv
    have HO0 := Lib.hid h
    clear h
    go_enter Tryz.func106, Tryz.ntmps106
    go_wp2
    go_loopw [1, 5] (fun vk vi wr => ∃ (i m : Nat), vi = .int .i64 i ∧ vk = .int .i64 m ∧ Hid (m = k + 2 * i) ∧ m ≤ 100000000 - 2 * (ps.length - i) ∧ i ≤ ps.length ∧ Hid (OwnP wr B (.slice (some ⟨g, 0, none⟩) ps.length cap) (halfP k ps i)) ∧ Hid (Only g w wr)) (fun _ vi _ => ps.length - (intOf vi).toNat)
    case atStart => exact ⟨0, k, rfl, rfl, by show _ = _; omega, by omega, Nat.zero_le _, by rw [halfP_none]; exact HO0.out, Only.refl _ _⟩
    case round =>
      obtain ⟨i, m, rfl, rfl, HM, hmb, hi, HO, HL⟩ := hrel
      by_cases hlt : i < ps.length
      · obtain ⟨m1, e1⟩ : ∃ x : Nat, (m : Int) + 1 = (x : Int) := ⟨m + 1, by omega⟩
        obtain ⟨m2, e2⟩ : ∃ x : Nat, (m1 : Int) + 1 = (x : Int) := ⟨m + 2, by omega⟩
        have hhl := halfP_len k ps i hi
        obtain ⟨p0, p1⟩ := HO.out.at2 i (by omega)
        have f0 := HO.out.frozen (i * 2)
        have f1 := HO.out.frozen (i * 2 + 1)
        have HN : Hid (OwnP ((wr.setCell ⟨g, i * 2, none⟩ (.int .i64 (m : Int))).setCell ⟨g, i * 2 + 1, none⟩ (.int .i64 (m1 : Int))) B (.slice (some ⟨g, 0, none⟩) ps.length cap) (halfP k ps (i + 1))) := by
          have hp := HO.out.put i (by omega) ⟨(m : Int), (m1 : Int)⟩
          have hs := halfP_set k ps i hlt
          have em : m = k + 2 * i := HM.out
          have em1 : m1 = k + 2 * i + 1 := by omega
          rw [← em1, ← em] at hs
          rw [hs] at hp
          exact hp
        have HL2 := Lib.hid ((HL.out.setCell (i * 2) (.int .i64 (m : Int))).setCell (i * 2 + 1) (.int .i64 (m1 : Int)))
        go_wp2
        go_roundw
        case rel => exact ⟨i + 1, m2, by go_num, by first | rfl | go_num, by show _ = _; have := HM.out; omega, by omega, by omega, HN, HL2⟩
        case measure => simp [intOf]; omega
      · obtain rfl : i = ps.length := by omega
        have HF : Hid (OwnP wr B (.slice (some ⟨g, 0, none⟩) ps.length cap) (mkP k ps.length)) := by
          have := HO.out
          rw [halfP_all] at this
          exact this
        clear HO
        go_wp2
        go_ret
        exact ⟨ret1I (by have := HM.out; omega), HF.out, onlyA_some HL.out⟩
/-! ### Series marked. -/
theorem gf_set1 {α : Type} (enc : α → List Value) (n : Nat) (hn : ∀ x, (enc x).length = n) : ∀ (ms : List α) (i c : Nat) (v : Value) (x : α) (hi : i < ms.length), c < n → (enc ms[i]).set c v = enc x → (gf enc ms).set (i * n + c) v = gf enc (ms.set i x)
  | y :: r, 0, c, v, x, _, hc, h => by
    show (enc y ++ gf enc r).set (0 * n + c) v = enc x ++ gf enc r
    rw [Nat.zero_mul, Nat.zero_add, List.set_append_left _ _ (by rw [hn]; exact hc)]
    have h' : (enc y).set c v = enc x := h
    rw [h']
  | y :: r, i + 1, c, v, x, hi, hc, h => by
    have ih := gf_set1 enc n hn r i c v x (by simpa using hi) hc (by simpa using h)
    show (enc y ++ gf enc r).set ((i + 1) * n + c) v = enc y ++ gf enc (r.set i x)
    have e : (i + 1) * n + c - (enc y).length = i * n + c := by rw [hn, Nat.add_mul]; omega
    rw [List.set_append_right _ _ (by rw [hn, Nat.add_mul]; omega), e, ih]
theorem OwnR_set {w : World} {B g n cap : Nat} {ms : List Sv} (h : OwnR w B (.slice (some ⟨g, 0, none⟩) n cap) ms) (i c : Nat) (v : Value) (x : Sv) (hi : i < ms.length) (hc : c < 3) (he : (encV ms[i]).set c v = encV x) : OwnR (w.setCell ⟨g, i * 3 + c, none⟩ v) B (.slice (some ⟨g, 0, none⟩) n cap) (ms.set i x) := by
  obtain rfl := h.len
  have h1 := (World.ownsRow.stored h (i * 3 + c) v).1
  rw [gf_set1 encV 3 encV_len ms i c v x hi hc he] at h1
  unfold OwnR
  rw [List.length_set]
  exact h1
theorem OwnR_off {w w' : World} {B n cap g c : Nat} {ms : List Sv} (h : OwnR w B (.slice (some ⟨g, 0, none⟩) n cap) ms) (ho : Only c w w') (hne : g ≠ c) : OwnR w' B (.slice (some ⟨g, 0, none⟩) n cap) ms := by
  obtain ⟨h1, h2⟩ := h
  refine ⟨h1, ?_⟩
  rcases h2 with h2 | ⟨g', cap, cur, hv, hg', hh, r⟩
  · exact .inl h2
  · cases hv
    exact .inr ⟨g, cap, cur, rfl, hg', by rw [ho.block g (Array.getElem?_eq_some_iff.1 hh).1 hne]; exact hh, r⟩
theorem OwnR_same {w : World} {B : Nat} {v : Value} {ms : List Sv} {i : Nat} {x y : Sv} (h : OwnR w B v (ms.set i x)) (he : encV x = encV y) : OwnR w B v (ms.set i y) := by
  have hg : gf encV (ms.set i x) = gf encV (ms.set i y) := by
    unfold gf
    rw [List.flatMap_def, List.flatMap_def, List.map_set, List.map_set, he]
  unfold OwnR at h ⊢
  rw [List.length_set] at h ⊢
  rw [← hg]
  exact h
/-- Blocks below B, and those from C on, stand. -/
structure Within (B C : Nat) (w w' : World) : Prop where
  os : w'.os = w.os
  tape : w'.tape = w.tape
  output : w'.output = w.output
  size : w.heap.size ≤ w'.heap.size
  block : ∀ k, k < w.heap.size → (k < B ∨ C ≤ k) → w'.heap[k]? = w.heap[k]?
theorem Within.refl (B C : Nat) (w : World) : Within B C w w := ⟨rfl, rfl, rfl, Nat.le_refl _, fun _ _ _ => rfl⟩
theorem Within.trans {B C : Nat} {a b d : World} (h : Within B C a b) (k : Within B C b d) : Within B C a d :=
  ⟨k.os.trans h.os, k.tape.trans h.tape, k.output.trans h.output, Nat.le_trans h.size k.size, fun i hi hc => (k.block i (Nat.lt_of_lt_of_le hi h.size) hc).trans (h.block i hi hc)⟩
theorem Within.of_below {B C : Nat} {w w' : World} (h : Below w.heap.size w w') : Within B C w w' := ⟨h.os, h.tape, h.output, h.size, fun k hk _ => h.block k hk⟩
theorem Within.of_only {B C g : Nat} {w w' : World} (h : Only g w w') (h1 : B ≤ g) (h2 : g < C) : Within B C w w' := ⟨h.os, h.tape, h.output, h.size, fun k hk hc => h.block k hk (by omega)⟩
theorem Within.below {B C b : Nat} {a w w' : World} (h : Within B C w w') (hb : Below b a w) (h1 : b ≤ B) (h2 : b ≤ w.heap.size) : Below b a w' :=
  hb.trans ⟨h.os, h.tape, h.output, h.size, fun k hk => h.block k (by omega) (.inl (by omega))⟩
theorem OwnP_within {B C : Nat} {w w' : World} {v : Value} {ps : List Pt} (h : OwnP w C v ps) (hw : Within B C w w') : OwnP w' C v ps := by
  obtain ⟨h1, h2⟩ := h
  refine ⟨h1, ?_⟩
  rcases h2 with h2 | ⟨g, cap, cur, hv, hg, hh, r⟩
  · exact .inl h2
  · exact .inr ⟨g, cap, cur, hv, hg, by rw [hw.block g (Array.getElem?_eq_some_iff.1 hh).1 (.inr hg)]; exact hh, r⟩
theorem Good_mark {w w' : World} {B g i : Nat} {ms : List Sv} {x : Sv} (h : Ser2.Good w B g ms) (hi : i < ms.length) (ha : x.a = ms[i].a) (hx : OwnP w' B (.slice x.a x.s.pts.length x.cap) x.s.pts) (ho : OnlyA ms[i].a w w') : Ser2.Good w' B g (ms.set i x) := by
  have hap := List.pairwise_iff_getElem.1 h.apart
  refine ⟨fun l hl => ?_, fun l hl => ?_, ?_⟩
  · obtain ⟨j, hj, rfl⟩ := List.mem_iff_getElem.1 hl
    have hj' : j < ms.length := by simpa using hj
    rw [List.getElem_set]
    split
    · exact hx
    · rename_i hne
      have ho' := h.own ms[j] (List.getElem_mem hj')
      cases hma : ms[i].a with
      | none => rw [ho.1 hma]; exact ho'
      | some p =>
        obtain ⟨b, o, s⟩ := p
        refine ho'.off (ho.2 b o s hma) ?_
        rcases Nat.lt_or_gt_of_ne hne with hlt | hlt
        · intro b' o' s' e'
          have := hap i j hi hj' hlt b' o' s' e' b o s hma
          omega
        · exact hap j i hj' hi hlt b o s hma
  · obtain ⟨j, hj, rfl⟩ := List.mem_iff_getElem.1 hl
    have hj' : j < ms.length := by simpa using hj
    rw [List.getElem_set]
    split
    · rw [ha]; exact h.off _ (List.getElem_mem hi)
    · exact h.off _ (List.getElem_mem hj')
  · rw [List.pairwise_iff_getElem]
    intro j k hj hk hjk
    have hj' : j < ms.length := by simpa using hj
    have hk' : k < ms.length := by simpa using hk
    have := hap j k hj' hk' hjk
    rw [List.getElem_set, List.getElem_set]
    split
    · rename_i e
      subst e
      split
      · rename_i e2; omega
      · rw [ha]; exact this
    · split
      · rename_i e2
        subst e2
        rw [ha]; exact this
      · exact this
def rem (ls : List Sv) (i : Nat) : Nat := ((ls.drop i).map fun l => 2 + 2 * l.s.pts.length).sum
theorem rem_next (ls : List Sv) (i : Nat) (h : i < ls.length) : rem ls i = 2 + 2 * ls[i].s.pts.length + rem ls (i + 1) := by
  unfold rem
  rw [List.drop_eq_getElem_cons h, List.map_cons, List.sum_cons]
set_option maxHeartbeats 2000000 in
set_option maxRecDepth 20000 in
theorem mark_series (ls : List Sv) (g cap B C k : Nat) (h0 : 0 < k) (hk : k + rem ls 0 ≤ 100000000) (w : World) (ho : OwnR w B (.slice (some ⟨g, 0, none⟩) ls.length cap) ls) (hg : Ser2.Good w B g ls)
    (hgC : g < C) (hlC : ∀ l ∈ ls, ∀ b o s, l.a = some ⟨b, o, s⟩ → b < C) (hBw : B ≤ w.heap.size) (hm : ls.length ≤ 1048576) :
    Calls Tryz.prog 51 #[.slice (some ⟨g, 0, none⟩) ls.length cap, .int .i64 k] w fun e w' => ∃ m : Nat, e = .returned (.int .i64 m) ∧ Within B C w w' := by
  have hBg := ho.lt.1
  have HO := Lib.hid ho
  have HG := Lib.hid hg
  have HLC := Lib.hid hlC
  have HRM := Lib.hid (rem_next ls)
  clear ho hg hlC
  go_enter Tryz.func51, Tryz.ntmps51
  go_wp2
  go_loopw [1, 5] (fun vk vi wr => ∃ (i m r : Nat) (ms : List Sv), vi = .int .i64 i ∧ vk = .int .i64 m ∧ 0 < m ∧ i ≤ ls.length ∧ Hid (r = rem ls i) ∧ m + r ≤ 100000000 ∧ Hid (ms.length = ls.length) ∧ Hid (∀ (j : Nat) (h1 : j < ls.length) (h2 : j < ms.length), i ≤ j → ms[j] = ls[j]) ∧ Hid (OwnR wr B (.slice (some ⟨g, 0, none⟩) ls.length cap) ms) ∧ Hid (Ser2.Good wr B g ms) ∧ Hid (Within B C w wr)) (fun _ vi _ => ls.length - (intOf vi).toNat)
  case atStart => exact ⟨0, k, rem ls 0, ls, rfl, rfl, h0, Nat.zero_le _, rfl, hk, rfl, fun j h1 h2 _ => rfl, HO.out, HG.out, Within.refl _ _ _⟩
  case round =>
    obtain ⟨i, m, r, ms, rfl, rfl, hmp, hi, HR, hmr, HL, HE, HOr, HGr, HWr⟩ := hrel
    by_cases hlt : i < ls.length
    · have hlm : i < ms.length := by have := HL.out; omega
      have hei := HE.out i hlt hlm (Nat.le_refl _)
      obtain ⟨l, hl⟩ : ∃ l, ls[i] = l := ⟨_, rfl⟩
      obtain ⟨r2, hr2⟩ : ∃ r2, rem ls (i + 1) = r2 := ⟨_, rfl⟩
      have hrr := HRM.out i hlt
      rw [hl, hr2] at hrr
      have hrn : r = 2 + 2 * l.s.pts.length + r2 := by rw [HR.out, hrr]
      have HR2 := Lib.hid hr2
      rw [hl] at hei
      obtain ⟨m1, e1⟩ : ∃ x : Nat, (m : Int) + 1 = (x : Int) := ⟨m + 1, by omega⟩
      obtain ⟨m2, e2⟩ : ∃ x : Nat, (m1 : Int) + 1 = (x : Int) := ⟨m + 2, by omega⟩
      have HEI := Lib.hid hei
      have HLL := Lib.hid hl
      clear hrr hr2 hei hl HR
      go_wp2_with fail
      refine (mark_text m hmp (by omega) _).mono ?_
      rintro e w1 ⟨rfl, hb1⟩
      have HO1 := Lib.hid (HOr.out.kept hb1)
      have HG1 := Lib.hid (HGr.out.kept hb1)
      have HW1 := Lib.hid (HWr.out.trans (Within.of_below hb1))
      obtain ⟨p0, p1, p2⟩ := HO1.out.at3 i hlm
      have f0 := HO1.out.frozen (i * 3)
      clear hb1
      rw [HEI.out] at p0 p1 p2
      have HO2 := Lib.hid (OwnR_set HO1.out i 0 (.string (markT m)) ⟨⟨markT m, l.s.met, l.s.pts⟩, l.a, l.cap⟩ hlm (by omega) (by rw [HEI.out]; rfl))
      have HS2 := Lib.hid ((Only.refl g w1).setCell (i * 3 + 0) (.string (markT m)))
      rw [Nat.add_zero] at HO2 HS2
      have HG2 := Lib.hid (HG1.out.only HS2.out)
      have HW2 := Lib.hid (HW1.out.trans (Within.of_only HS2.out hBg hgC))
      clear HO1 HG1 HW1
      go_wp2_with fail
      obtain ⟨w2, hw2⟩ : ∃ w2, w1.setCell ⟨g, i * 3, none⟩ (.string (markT m)) = w2 := ⟨_, rfl⟩
      rw [hw2] at HO2 HG2 HW2 ⊢
      clear HS2 hw2 p0 p1 p2 f0
      refine (mark_text m1 (by omega) (by omega) _).mono ?_
      rintro e w3 ⟨rfl, hb3⟩
      have HO3 := Lib.hid (HO2.out.kept hb3)
      have HG3 := Lib.hid (HG2.out.kept hb3)
      have HW3 := Lib.hid (HW2.out.trans (Within.of_below hb3))
      have hset : i < (ms.set i ⟨⟨markT m, l.s.met, l.s.pts⟩, l.a, l.cap⟩).length := by simpa using hlm
      obtain ⟨p0, p1, p2⟩ := HO3.out.at3 i hset
      have f1 := HO3.out.frozen (i * 3 + 1)
      clear hb3
      rw [List.getElem_set_self] at p0 p1 p2
      simp only at p0 p1 p2
      have HO4 := Lib.hid (OwnR_set HO3.out i 1 (.string (markT m1)) ⟨⟨markT m, markT m1, l.s.pts⟩, l.a, l.cap⟩ hset (by omega) (by rw [List.getElem_set_self]; rfl))
      have HS4 := Lib.hid ((Only.refl g w3).setCell (i * 3 + 1) (.string (markT m1)))
      have HG4 := Lib.hid (HG3.out.only HS4.out)
      have HW4 := Lib.hid (HW3.out.trans (Within.of_only HS4.out hBg hgC))
      rw [List.set_set] at HO4
      clear HO3 HG3 HW3
      go_wp2_with fail
      obtain ⟨w4, hw4⟩ : ∃ w4, w3.setCell ⟨g, i * 3 + 1, none⟩ (.string (markT m1)) = w4 := ⟨_, rfl⟩
      rw [hw4] at HO4 HG4 HW4 ⊢
      clear HS4 hw4 p0 p1 p2 f1
      have hown : OwnP w4 B (.slice l.a l.s.pts.length l.cap) l.s.pts := by
        have := HG4.out.own _ (List.getElem_mem hlm)
        rw [HEI.out] at this
        exact this
      refine (mark_points l.s.pts l.a l.cap B m2 (by omega) (by omega) w4 hown).mono ?_
      rintro e w5 ⟨rfl, hp5, ha5⟩
      have hx5 : OwnP w5 B (.slice l.a (mkP m2 l.s.pts.length).length l.cap) (mkP m2 l.s.pts.length) := by rw [mkP_len]; exact hp5
      have hma : OnlyA ms[i].a w4 w5 := by rw [HEI.out]; exact ha5
      have HG5 := Lib.hid (Good_mark (x := ⟨⟨markT m, markT m1, mkP m2 l.s.pts.length⟩, l.a, l.cap⟩) HG4.out hlm (by rw [HEI.out]) hx5 hma)
      have hoffg : Off g l.a := by
        have := HG4.out.off _ (List.getElem_mem hlm)
        rw [HEI.out] at this
        exact this
      have HO5 : Hid (OwnR w5 B (.slice (some ⟨g, 0, none⟩) ls.length cap) (ms.set i ⟨⟨markT m, markT m1, mkP m2 l.s.pts.length⟩, l.a, l.cap⟩)) := by
        refine OwnR_same (x := ⟨⟨markT m, markT m1, l.s.pts⟩, l.a, l.cap⟩) ?_ (by unfold encV; rw [mkP_len])
        cases hla : l.a with
        | none => rw [ha5.1 hla]; rw [hla] at HO4; exact HO4.out
        | some p =>
          obtain ⟨b, o, s⟩ := p
          rw [← hla]
          exact OwnR_off HO4.out (ha5.2 b o s hla) (fun e => hoffg b o s hla e.symm)
      have HW5 : Hid (Within B C w w5) := by
        cases hla : l.a with
        | none => rw [ha5.1 hla]; exact HW4
        | some p =>
          obtain ⟨b, o, s⟩ := p
          rw [hla] at hown
          exact HW4.out.trans (Within.of_only (ha5.2 b o s hla) hown.lt.1 (HLC.out l (by rw [← HLL.out]; exact List.getElem_mem hlt) b o s hla))
      have HE5 : Hid (∀ (j : Nat) (h1 : j < ls.length) (h2 : j < (ms.set i (⟨⟨markT m, markT m1, mkP m2 l.s.pts.length⟩, l.a, l.cap⟩ : Sv)).length), i + 1 ≤ j → (ms.set i (⟨⟨markT m, markT m1, mkP m2 l.s.pts.length⟩, l.a, l.cap⟩ : Sv))[j] = ls[j]) := fun j h1 h2 hij => by
        rw [List.getElem_set_ne (by omega)]
        exact HE.out j h1 (by simpa using h2) (by omega)
      have HL5 : Hid ((ms.set i (⟨⟨markT m, markT m1, mkP m2 l.s.pts.length⟩, l.a, l.cap⟩ : Sv)).length = ls.length) := by show _ = _; rw [List.length_set]; exact HL.out
      obtain ⟨m5, hm5⟩ : ∃ m5, m2 + 2 * l.s.pts.length = m5 := ⟨_, rfl⟩
      rw [hm5]
      have hb5 : m5 + r2 ≤ 100000000 := by omega
      have hp5' : 0 < m5 := by omega
      clear hx5 hma hoffg hp5 ha5 hown hm5 hset HO4 HG4 HW4 HE HL HOr HGr HWr
      go_wp2
      go_roundw
      case rel => exact ⟨i + 1, m5, r2, _, by go_num, rfl, hp5', by omega, HR2.out.symm, hb5, HL5.out, HE5.out, HO5.out, HG5.out, HW5.out⟩
      case measure => simp [intOf]; omega
    · go_wp2
      go_ret
      exact ⟨m, rfl, HWr.out⟩

/-! ### The total of sizes. -/
def totS (ls : List Sv) (k : Nat) : Int := ((ls.take k).map fun l => l.s.sum).sum
theorem totS_next (ls : List Sv) (k : Nat) (h : k < ls.length) : totS ls (k + 1) = totS ls k + ls[k].s.sum := by
  unfold totS
  rw [List.take_succ_eq_append_getElem h, List.map_append, List.sum_append]
  simp only [List.map_cons, List.map_nil, List.sum_cons, List.sum_nil, Int.add_zero]
theorem rem_le (ls : List Sv) : ((rem ls 0 : Nat) : Int) ≤ 2 * ls.length + 2 * totS ls ls.length := by
  unfold rem totS
  rw [List.take_of_length_le (Nat.le_refl _), List.drop_zero]
  induction ls with
  | nil => simp
  | cons l r ih =>
    simp only [List.map_cons, List.sum_cons, List.length_cons]
    have : (l.s.pts.length : Int) ≤ l.s.sum := by unfold Ser.sum; omega
    omega
theorem totS_mono (ls : List Sv) : ∀ k, k ≤ ls.length → 0 ≤ totS ls k ∧ ∀ j (hj : j < ls.length), j < k → ls[j].s.sum ≤ totS ls k
  | 0, _ => ⟨by simp [totS], fun j _ h => absurd h (by omega)⟩
  | k + 1, hk => by
    obtain ⟨h1, h2⟩ := totS_mono ls k (by omega)
    have hn := totS_next ls k (by omega)
    have hs : 0 ≤ ls[k].s.sum := by unfold Ser.sum; omega
    refine ⟨by omega, fun j hj hjk => ?_⟩
    by_cases e : j = k
    · subst e; omega
    · have := h2 j hj (by omega); omega
theorem tot_start (ls : List Sv) : Hid ((1048576 - (ls.length : Int)) + totS ls 0 + ls.length = 1048576) := by
  show _ = _
  have : totS ls 0 = 0 := by simp [totS]
  omega
set_option maxRecDepth 20000 in
theorem sz_total (ls : List Sv) (hwf : ∀ l ∈ ls, l.s.wf) (a : Option Addr) (cap : Nat) (hm : ls.length ≤ 9223372036854775807) (w : World) (h : Srs w a ls) :
    Calls Tryz.prog 21 #[.slice a ls.length cap, .int .i64 1048576] w fun e w' => ∃ r : Int, e = .returned (.int .i64 r) ∧ Below w.heap.size w w' ∧ (r < 0 ∨ 0 ≤ r ∧ r ≤ 1048576 ∧ ls.length ≤ 1048576 ∧ (∀ l ∈ ls, l.s.pts.length ≤ 1048576) ∧ rem ls 0 ≤ 4194304) := by
  obtain ⟨b, off, ha, hb, hcell⟩ := h.cells
  by_cases hbig : 1048576 < ls.length
  · go_enter Tryz.func21, Tryz.ntmps21
    go_wp2
    go_ret
    exact ⟨_, rfl, Below.refl _ _, .inl (by omega)⟩
  · have Hc := Lib.hid hcell
    have Ha := Lib.hid ha
    have Hw := Lib.hid hwf
    have Hb := Lib.hid hb
    clear hcell ha hwf hb h
    go_enter Tryz.func21, Tryz.ntmps21
    go_wp2
    go_loopw [1, 5] (fun l i wr => ∃ (k : Nat) (r : Int), k ≤ ls.length ∧ i = .int .i64 k ∧ l = .int .i64 r ∧ 0 ≤ r ∧ r ≤ 1048576 ∧ Below w.heap.size w wr ∧ Hid (r + totS ls k + ls.length = 1048576)) (fun _ i _ => ls.length - (intOf i).toNat)
    case atStart => exact ⟨0, 1048576 - ls.length, Nat.zero_le _, rfl, rfl, by omega, by omega, Below.refl _ _, tot_start ls⟩
    case round =>
      obtain ⟨k, r, hk, rfl, rfl, hr0, hr1, hbw, HS⟩ := hrel
      by_cases hlt : k < ls.length
      · obtain rfl := Ha.out (by omega)
        obtain ⟨q0, q1, q2⟩ := (Hc.out k hlt).1.kept hbw (Hb.out (by omega))
        have hw1 := Lib.hid (Hw.out ls[k] (List.getElem_mem hlt))
        have hlw := hbw.size
        by_cases hc : r < ls[k].s.sum
        · go_wp2_with (go_at_call 60; refine (sz_ser ls[k] hw1.out r hr0 hr1 _).mono ?_; rw [if_pos hc]; rintro e w2 ⟨rfl, hb2⟩)
          go_ret
          exact ⟨_, rfl, hbw.trans (hb2.mono hlw), .inl (by omega)⟩
        · have hs0 : 0 ≤ ls[k].s.sum := by unfold Ser.sum; omega
          obtain ⟨r2, hr2, hr3, hr4⟩ : ∃ r2 : Int, r2 = r - ls[k].s.sum ∧ 0 ≤ r2 ∧ r2 ≤ 1048576 := ⟨_, rfl, by omega, by omega⟩
          have HN : Hid (r2 + totS ls (k + 1) + ls.length = 1048576) := by
            show _ = _
            have h1 := totS_next ls k hlt
            have h2 := HS.out
            omega
          go_wp2_with (go_at_call 60; refine (sz_ser ls[k] hw1.out r hr0 hr1 _).mono ?_; rw [if_neg hc, ← hr2]; rintro e w2 ⟨rfl, hb2⟩)
          go_roundw
          case rel => exact ⟨k + 1, r2, by omega, by go_num, int_eq hr2.symm, hr3, hr4, hbw.trans (hb2.mono hlw), HN⟩
          case measure => simp [intOf]; omega
      · obtain rfl : k = ls.length := by omega
        go_wp2
        go_ret
        refine ⟨_, rfl, hbw, .inr ⟨hr0, hr1, by omega, fun s hs => ?_, ?_⟩⟩
        · obtain ⟨j, hj, rfl⟩ := List.mem_iff_getElem.1 hs
          have h1 := (totS_mono ls ls.length (Nat.le_refl _)).2 j hj hj
          have h2 := HS.out
          unfold Ser.sum at h1
          omega
        · have h1 := rem_le ls
          have h2 := HS.out
          omega
end Go.Proofs.YtgmdfkmmbcpikaaGreat.MarkS
