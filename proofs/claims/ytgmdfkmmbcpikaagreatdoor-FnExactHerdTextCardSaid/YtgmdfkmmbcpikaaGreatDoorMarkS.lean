/- The marks that the laws write into series and points, and read again: laws.markPointS, heldPointS, markSeriesS; the total of sizes. -/
import Derived.Test.YtgmdfkmmbcpikaaGreatDoorFrom
namespace Go.Proofs.YtgmdfkmmbcpikaaGreatDoor.MarkS
open Go.RowKit Go.Sort Go.BigFrame
open Go.Proofs.YtgmdfkmmbcpikaaGreatDoor.C1
open Go.Proofs.YtgmdfkmmbcpikaaGreatDoor.C2
open Go.Proofs.YtgmdfkmmbcpikaaGreatDoor.Smps
open Go.Proofs.YtgmdfkmmbcpikaaGreatDoor.Mem
open Go.Proofs.YtgmdfkmmbcpikaaGreatDoor.Ser
open Go.Proofs.YtgmdfkmmbcpikaaGreatDoor.Ser2
open Go.Proofs.YtgmdfkmmbcpikaaGreatDoor.StoL
set_option linter.unusedVariables false

/-- The marks of n points, from k on. -/
def mkP (k n : Nat) : List Pt := (List.range n).map fun i => ⟨((k + 2 * i : Nat) : Int), ((k + 2 * i + 1 : Nat) : Int)⟩
theorem mkP_len (k n : Nat) : (mkP k n).length = n := by simp [mkP]
theorem mkP_get (k n i : Nat) (h : i < (mkP k n).length) : (mkP k n)[i] = ⟨((k + 2 * i : Nat) : Int), ((k + 2 * i + 1 : Nat) : Int)⟩ := by simp [mkP]
def halfP (k : Nat) (ps : List Pt) (i : Nat) : List Pt := (mkP k ps.length).take i ++ ps.drop i
theorem halfP_len (k : Nat) (ps : List Pt) (i : Nat) (h : i ≤ ps.length) : (halfP k ps i).length = ps.length := by unfold halfP; simp [mkP_len]; omega
theorem halfP_set (k : Nat) (ps : List Pt) (i : Nat) (h : i < ps.length) : (halfP k ps i).set i ⟨((k + 2 * i : Nat) : Int), ((k + 2 * i + 1 : Nat) : Int)⟩ = halfP k ps (i + 1) := by
  unfold halfP
  have e2 : i - ((mkP k ps.length).take i).length = 0 := by simp [mkP_len]; omega
  rw [List.set_append, if_neg (by simp [mkP_len]; omega), e2, List.drop_eq_getElem_cons h, List.set_cons_zero, List.take_succ_eq_append_getElem (by rw [mkP_len]; exact h), List.append_assoc, mkP_get]
  rfl
theorem halfP_all (k : Nat) (ps : List Pt) : halfP k ps ps.length = mkP k ps.length := by
  unfold halfP
  rw [List.take_of_length_le (by rw [mkP_len]; exact Nat.le_refl _)]; simp
theorem halfP_none (k : Nat) (ps : List Pt) : halfP k ps 0 = ps := by unfold halfP; simp
/-- What a call has written that writes only into the block of an address. -/
def OnlyA (a : Option Addr) (w w' : World) : Prop := (a = none → w' = w) ∧ ∀ b o s, a = some ⟨b, o, s⟩ → Only b w w'
theorem onlyA_none (w : World) : OnlyA none w w := ⟨fun _ => rfl, fun b o s e => by cases e⟩
theorem onlyA_some {g : Nat} {w w' : World} (h : Only g w w') : OnlyA (some ⟨g, 0, none⟩) w w' := by
  refine ⟨fun e => ?_, fun b o s e => ?_⟩
  · cases e
  · cases e; exact h
/-! ### Series marked. -/
theorem gf_set1 {α : Type} (enc : α → List Value) (n : Nat) (hn : ∀ x, (enc x).length = n) : ∀ (ms : List α) (i c : Nat) (v : Value) (x : α) (hi : i < ms.length), c < n → (enc ms[i]).set c v = enc x → (gf enc ms).set (i * n + c) v = gf enc (ms.set i x)
  | y :: r, 0, c, v, x, _, hc, h => by
    show (enc y ++ gf enc r).set (0 * n + c) v = enc x ++ gf enc r
    rw [Nat.zero_mul, Nat.zero_add, List.set_append_left _ _ (by rw [hn]; exact hc)]
    have h' : (enc y).set c v = enc x := h
    rw [h']
  | y :: r, i + 1, c, v, x, hi, hc, h => by
    have ih := gf_set1 enc n hn r i c v x (by simpa using hi) hc (by simpa using h)
    show (enc y ++ gf enc r).set ((i + 1) * n + c) v = enc y ++ gf enc (r.set i x)
    have e : (i + 1) * n + c - (enc y).length = i * n + c := by rw [hn, Nat.add_mul]; omega
    rw [List.set_append_right _ _ (by rw [hn, Nat.add_mul]; omega), e, ih]
theorem OwnR_set {w : World} {B g n cap : Nat} {ms : List Sv} (h : OwnR w B (.slice (some ⟨g, 0, none⟩) n cap) ms) (i c : Nat) (v : Value) (x : Sv) (hi : i < ms.length) (hc : c < 3) (he : (encV ms[i]).set c v = encV x) : OwnR (w.setCell ⟨g, i * 3 + c, none⟩ v) B (.slice (some ⟨g, 0, none⟩) n cap) (ms.set i x) := by
  obtain rfl := h.len
  have h1 := (World.ownsRow.stored h (i * 3 + c) v).1
  rw [gf_set1 encV 3 encV_len ms i c v x hi hc he] at h1
  unfold OwnR
  rw [List.length_set]
  exact h1
theorem OwnR_off {w w' : World} {B n cap g c : Nat} {ms : List Sv} (h : OwnR w B (.slice (some ⟨g, 0, none⟩) n cap) ms) (ho : Only c w w') (hne : g ≠ c) : OwnR w' B (.slice (some ⟨g, 0, none⟩) n cap) ms := by
  obtain ⟨h1, h2⟩ := h
  refine ⟨h1, ?_⟩
  rcases h2 with h2 | ⟨g', cap, cur, hv, hg', hh, r⟩
  · exact .inl h2
  · cases hv
    exact .inr ⟨g, cap, cur, rfl, hg', by rw [ho.block g (Array.getElem?_eq_some_iff.1 hh).1 hne]; exact hh, r⟩
theorem OwnR_same {w : World} {B : Nat} {v : Value} {ms : List Sv} {i : Nat} {x y : Sv} (h : OwnR w B v (ms.set i x)) (he : encV x = encV y) : OwnR w B v (ms.set i y) := by
  have hg : gf encV (ms.set i x) = gf encV (ms.set i y) := by
    unfold gf
    rw [List.flatMap_def, List.flatMap_def, List.map_set, List.map_set, he]
  unfold OwnR at h ⊢
  rw [List.length_set] at h ⊢
  rw [← hg]
  exact h
/-- Blocks below B, and those from C on, stand. -/
structure Within (B C : Nat) (w w' : World) : Prop where
  os : w'.os = w.os
  tape : w'.tape = w.tape
  output : w'.output = w.output
  size : w.heap.size ≤ w'.heap.size
  block : ∀ k, k < w.heap.size → (k < B ∨ C ≤ k) → w'.heap[k]? = w.heap[k]?
theorem Within.refl (B C : Nat) (w : World) : Within B C w w := ⟨rfl, rfl, rfl, Nat.le_refl _, fun _ _ _ => rfl⟩
theorem Within.trans {B C : Nat} {a b d : World} (h : Within B C a b) (k : Within B C b d) : Within B C a d :=
  ⟨k.os.trans h.os, k.tape.trans h.tape, k.output.trans h.output, Nat.le_trans h.size k.size, fun i hi hc => (k.block i (Nat.lt_of_lt_of_le hi h.size) hc).trans (h.block i hi hc)⟩
theorem Within.of_below {B C : Nat} {w w' : World} (h : Below w.heap.size w w') : Within B C w w' := ⟨h.os, h.tape, h.output, h.size, fun k hk _ => h.block k hk⟩
theorem Within.of_only {B C g : Nat} {w w' : World} (h : Only g w w') (h1 : B ≤ g) (h2 : g < C) : Within B C w w' := ⟨h.os, h.tape, h.output, h.size, fun k hk hc => h.block k hk (by omega)⟩
theorem Within.below {B C b : Nat} {a w w' : World} (h : Within B C w w') (hb : Below b a w) (h1 : b ≤ B) (h2 : b ≤ w.heap.size) : Below b a w' :=
  hb.trans ⟨h.os, h.tape, h.output, h.size, fun k hk => h.block k (by omega) (.inl (by omega))⟩
theorem OwnP_within {B C : Nat} {w w' : World} {v : Value} {ps : List Pt} (h : OwnP w C v ps) (hw : Within B C w w') : OwnP w' C v ps := by
  obtain ⟨h1, h2⟩ := h
  refine ⟨h1, ?_⟩
  rcases h2 with h2 | ⟨g, cap, cur, hv, hg, hh, r⟩
  · exact .inl h2
  · exact .inr ⟨g, cap, cur, hv, hg, by rw [hw.block g (Array.getElem?_eq_some_iff.1 hh).1 (.inr hg)]; exact hh, r⟩
theorem Good_mark {w w' : World} {B g i : Nat} {ms : List Sv} {x : Sv} (h : Ser2.Good w B g ms) (hi : i < ms.length) (ha : x.a = ms[i].a) (hx : OwnP w' B (.slice x.a x.s.pts.length x.cap) x.s.pts) (ho : OnlyA ms[i].a w w') : Ser2.Good w' B g (ms.set i x) := by
  have hap := List.pairwise_iff_getElem.1 h.apart
  refine ⟨fun l hl => ?_, fun l hl => ?_, ?_⟩
  · obtain ⟨j, hj, rfl⟩ := List.mem_iff_getElem.1 hl
    have hj' : j < ms.length := by simpa using hj
    rw [List.getElem_set]
    split
    · exact hx
    · rename_i hne
      have ho' := h.own ms[j] (List.getElem_mem hj')
      cases hma : ms[i].a with
      | none => rw [ho.1 hma]; exact ho'
      | some p =>
        obtain ⟨b, o, s⟩ := p
        refine ho'.off (ho.2 b o s hma) ?_
        rcases Nat.lt_or_gt_of_ne hne with hlt | hlt
        · intro b' o' s' e'
          have := hap i j hi hj' hlt b' o' s' e' b o s hma
          omega
        · exact hap j i hj' hi hlt b o s hma
  · obtain ⟨j, hj, rfl⟩ := List.mem_iff_getElem.1 hl
    have hj' : j < ms.length := by simpa using hj
    rw [List.getElem_set]
    split
    · rw [ha]; exact h.off _ (List.getElem_mem hi)
    · exact h.off _ (List.getElem_mem hj')
  · rw [List.pairwise_iff_getElem]
    intro j k hj hk hjk
    have hj' : j < ms.length := by simpa using hj
    have hk' : k < ms.length := by simpa using hk
    have := hap j k hj' hk' hjk
    rw [List.getElem_set, List.getElem_set]
    split
    · rename_i e
      subst e
      split
      · rename_i e2; omega
      · rw [ha]; exact this
    · split
      · rename_i e2
        subst e2
        rw [ha]; exact this
      · exact this
def rem (ls : List Sv) (i : Nat) : Nat := ((ls.drop i).map fun l => 2 + 2 * l.s.pts.length).sum
theorem rem_next (ls : List Sv) (i : Nat) (h : i < ls.length) : rem ls i = 2 + 2 * ls[i].s.pts.length + rem ls (i + 1) := by
  unfold rem
  rw [List.drop_eq_getElem_cons h, List.map_cons, List.sum_cons]
/-! ### The total of sizes. -/
def totS (ls : List Sv) (k : Nat) : Int := ((ls.take k).map fun l => l.s.sum).sum
theorem totS_next (ls : List Sv) (k : Nat) (h : k < ls.length) : totS ls (k + 1) = totS ls k + ls[k].s.sum := by
  unfold totS
  rw [List.take_succ_eq_append_getElem h, List.map_append, List.sum_append]
  simp only [List.map_cons, List.map_nil, List.sum_cons, List.sum_nil, Int.add_zero]
theorem rem_le (ls : List Sv) : ((rem ls 0 : Nat) : Int) ≤ 2 * ls.length + 2 * totS ls ls.length := by
  unfold rem totS
  rw [List.take_of_length_le (Nat.le_refl _), List.drop_zero]
  induction ls with
  | nil => simp
  | cons l r ih =>
    simp only [List.map_cons, List.sum_cons, List.length_cons]
    have : (l.s.pts.length : Int) ≤ l.s.sum := by unfold Ser.sum; omega
    omega
theorem totS_mono (ls : List Sv) : ∀ k, k ≤ ls.length → 0 ≤ totS ls k ∧ ∀ j (hj : j < ls.length), j < k → ls[j].s.sum ≤ totS ls k
  | 0, _ => ⟨by simp [totS], fun j _ h => absurd h (by omega)⟩
  | k + 1, hk => by
    obtain ⟨h1, h2⟩ := totS_mono ls k (by omega)
    have hn := totS_next ls k (by omega)
    have hs : 0 ≤ ls[k].s.sum := by unfold Ser.sum; omega
    refine ⟨by omega, fun j hj hjk => ?_⟩
    by_cases e : j = k
    · subst e; omega
    · have := h2 j hj (by omega); omega
theorem tot_start (ls : List Sv) : Hid ((1048576 - (ls.length : Int)) + totS ls 0 + ls.length = 1048576) := by
  show _ = _
  have : totS ls 0 = 0 := by simp [totS]
  omega
set_option maxRecDepth 20000 in
theorem sz_total (ls : List Sv) (hwf : ∀ l ∈ ls, l.s.wf) (a : Option Addr) (cap : Nat) (hm : ls.length ≤ 9223372036854775807) (w : World) (h : Srs w a ls) :
    Calls Tryz.prog 31 #[.slice a ls.length cap, .int .i64 1048576] w fun e w' => ∃ r : Int, e = .returned (.int .i64 r) ∧ Below w.heap.size w w' ∧ (r < 0 ∨ 0 ≤ r ∧ r ≤ 1048576 ∧ ls.length ≤ 1048576 ∧ (∀ l ∈ ls, l.s.pts.length ≤ 1048576) ∧ rem ls 0 ≤ 4194304) := by
  obtain ⟨b, off, ha, hb, hcell⟩ := h.cells
  by_cases hbig : 1048576 < ls.length
  · go_enter Tryz.func31, Tryz.ntmps31
    go_wp2
    go_ret
    exact ⟨_, rfl, Below.refl _ _, .inl (by omega)⟩
  · have Hc := Lib.hid hcell
    have Ha := Lib.hid ha
    have Hw := Lib.hid hwf
    have Hb := Lib.hid hb
    clear hcell ha hwf hb h
    go_enter Tryz.func31, Tryz.ntmps31
    go_wp2
    go_loopw [1, 5] (fun l i wr => ∃ (k : Nat) (r : Int), k ≤ ls.length ∧ i = .int .i64 k ∧ l = .int .i64 r ∧ 0 ≤ r ∧ r ≤ 1048576 ∧ Below w.heap.size w wr ∧ Hid (r + totS ls k + ls.length = 1048576)) (fun _ i _ => ls.length - (intOf i).toNat)
    case atStart => exact ⟨0, 1048576 - ls.length, Nat.zero_le _, rfl, rfl, by omega, by omega, Below.refl _ _, tot_start ls⟩
    case round =>
      obtain ⟨k, r, hk, rfl, rfl, hr0, hr1, hbw, HS⟩ := hrel
      by_cases hlt : k < ls.length
      · obtain rfl := Ha.out (by omega)
        obtain ⟨q0, q1, q2⟩ := (Hc.out k hlt).1.kept hbw (Hb.out (by omega))
        have hw1 := Lib.hid (Hw.out ls[k] (List.getElem_mem hlt))
        have hlw := hbw.size
        by_cases hc : r < ls[k].s.sum
        · go_wp2_with (go_at_call 89; refine (sz_ser ls[k] hw1.out r hr0 hr1 _).mono ?_; rw [if_pos hc]; rintro e w2 ⟨rfl, hb2⟩)
          go_ret
          exact ⟨_, rfl, hbw.trans (hb2.mono hlw), .inl (by omega)⟩
        · have hs0 : 0 ≤ ls[k].s.sum := by unfold Ser.sum; omega
          obtain ⟨r2, hr2, hr3, hr4⟩ : ∃ r2 : Int, r2 = r - ls[k].s.sum ∧ 0 ≤ r2 ∧ r2 ≤ 1048576 := ⟨_, rfl, by omega, by omega⟩
          have HN : Hid (r2 + totS ls (k + 1) + ls.length = 1048576) := by
            show _ = _
            have h1 := totS_next ls k hlt
            have h2 := HS.out
            omega
          go_wp2_with (go_at_call 89; refine (sz_ser ls[k] hw1.out r hr0 hr1 _).mono ?_; rw [if_neg hc, ← hr2]; rintro e w2 ⟨rfl, hb2⟩)
          go_roundw
          case rel => exact ⟨k + 1, r2, by omega, by go_num, int_eq hr2.symm, hr3, hr4, hbw.trans (hb2.mono hlw), HN⟩
          case measure => simp [intOf]; omega
      · obtain rfl : k = ls.length := by omega
        go_wp2
        go_ret
        refine ⟨_, rfl, hbw, .inr ⟨hr0, hr1, by omega, fun s hs => ?_, ?_⟩⟩
        · obtain ⟨j, hj, rfl⟩ := List.mem_iff_getElem.1 hs
          have h1 := (totS_mono ls ls.length (Nat.le_refl _)).2 j hj hj
          have h2 := HS.out
          unfold Ser.sum at h1
          omega
        · have h1 := rem_le ls
          have h2 := HS.out
          omega
end Go.Proofs.YtgmdfkmmbcpikaaGreatDoor.MarkS
