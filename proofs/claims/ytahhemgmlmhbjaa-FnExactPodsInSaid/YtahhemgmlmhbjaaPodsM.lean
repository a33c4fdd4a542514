/- PodsIn, the model's: the samples sorted, repeats of pods dropped: podsV. -/
import Derived.Test.YtahhemgmlmhbjaaPods
import Derived.Maps.AppendAt
namespace Go.Proofs.Ytahhemgmlmhbjaa.PodsM
open Go.RowKit Go.Sort
open Go.Proofs.Ytahhemgmlmhbjaa.C1
open Go.Proofs.Ytahhemgmlmhbjaa.C2
open Go.Proofs.Ytahhemgmlmhbjaa.Smps
open Go.Proofs.Ytahhemgmlmhbjaa.StM
open Go.Proofs.Ytahhemgmlmhbjaa.SortP
open Go.Proofs.Ytahhemgmlmhbjaa.SortI
open Go.Proofs.Ytahhemgmlmhbjaa.SortL
open Go.Proofs.Ytahhemgmlmhbjaa.Pods
open Go.Proofs.Ytahhemgmlmhbjaa.Mark
set_option linter.unusedVariables false

theorem new_rowT (w : World) : OwnT (w.alloc (.cells #[] 9)) w.heap.size (.slice (some ⟨w.heap.size, 0, none⟩) 0 0) [] := World.ownsRow_lit (e := 9) (size := 1) (base := w.heap.size) w #[] 0 (Nat.le_refl _) (by unfold maxLen; omega) rfl
/-- The pods kept of the first k of the sorted samples. -/
def upT (ss : List Smp) (k : Nat) : List (List UInt8) := Lib.compactUpTo (ss.map podL).toArray k
theorem upT_all (xs : List Smp) : upT (sortS xs) (sortS xs).length = podsV xs := by unfold upT podsV Lib.compact; rw [List.length_map]
theorem upT_len (ss : List Smp) (k : Nat) : (upT ss k).length ≤ k := by
  unfold upT Lib.compactUpTo
  rw [List.length_map]
  exact Nat.le_trans (List.length_filter_le _ _) (by simp)
theorem podL_at (ss : List Smp) (k : Nat) (h : k < ss.length) : (ss.map podL).toArray[k]! = podL ss[k] := by
  rw [getElem!_pos _ k (by simpa using h)]; simp
theorem upT_new (ss : List Smp) (k : Nat) (hk : k < ss.length) (h : k = 0 ∨ ∃ (p : Nat) (hp : p < ss.length), p + 1 = k ∧ podL ss[k] ≠ podL ss[p]) : upT ss (k + 1) = upT ss k ++ [podL ss[k]] := by
  unfold upT
  rw [Lib.compactUpTo_succ]
  have : Lib.keeps (ss.map podL).toArray k = true := by
    rcases h with rfl | ⟨p, hp, rfl, h⟩
    · simp [Lib.keeps]
    · refine Lib.keeps_pos ?_
      rw [Nat.add_sub_cancel, podL_at ss _ hk, podL_at ss _ hp]
      exact h
  rw [this, podL_at ss k hk]; rfl
theorem upT_old (ss : List Smp) (k p : Nat) (hk : k < ss.length) (hp : p < ss.length) (e : p + 1 = k) (h : podL ss[k] = podL ss[p]) : upT ss (k + 1) = upT ss k := by
  subst e
  unfold upT
  rw [Lib.compactUpTo_succ]
  have : Lib.keeps (ss.map podL).toArray (p + 1) = false := by
    refine Lib.keeps_neg (by omega) ?_
    rw [Nat.add_sub_cancel, podL_at ss _ hk, podL_at ss _ hp]
    exact h
  rw [this]; simp

theorem one_cell (w : World) (v : Value) (t : TypeId) : ∀ (j : Nat) (u : Value), [v][j]? = some u → (w.alloc (.cells #[v] t)).cell? ((⟨w.heap.size, 0, none⟩ : Addr).add j) = some u := by
  intro j u hj
  match j, hj with
  | 0, hj => simp at hj; subst hj; simp [Addr.add]
theorem At4.far {w w' : World} {row : Option Nat} (hg : w.grownBy w' row) {b o : Nat} {s : Smp} (h : At4 w b o s) (hne : some b ≠ row) : At4 w' b o s :=
  ⟨hg.cell h.1 hne, hg.cell h.2.1 hne, hg.cell h.2.2.1 hne, hg.cell h.2.2.2 hne⟩

set_option maxHeartbeats 1600000 in
theorem spec_pods (xs : List Smp) (hwf : ∀ s ∈ xs, s.wf) (a : Option Addr) (cap : Nat) (w : World) (h : Smps w a xs) (hm : xs.length ≤ 1048576) :
    Calls Try.prog 21 #[.slice a xs.length cap] w fun e w' => (300 < xs.length ∧ (∃ a' cap', e = .returned (.slice a' 0 cap')) ∨ xs.length ≤ 300 ∧ ∃ v, e = .returned v ∧ OwnT w' w.heap.size v (podsV xs)) ∧ Below w.heap.size w w' := by
  have hbel : Hid (Below w.heap.size w (w.alloc (.cells #[] 9))) := (Below.refl _ _).alloc (Nat.le_refl _) _
  have hS := Lib.hid (h.kept hbel.out)
  clear h
  by_cases hbig : 300 < xs.length
  · go_enter Try.func21, Try.ntmps21
    go_wp2_with (go_at_call 15; refine (spec_gt xs hwf _ _ _ hS.out hbig hm).mono ?_; rintro e u3 ⟨rfl, hb3⟩; have B3 := Lib.hid (hbel.out.trans (hb3.mono hbel.out.size)); clear hb3)
    go_loop [3, 5] (fun v i => v = .slice (some ⟨w.heap.size, 0, none⟩) 0 0 ∧ i = .int .i64 0) (fun _ _ => 0)
    case atStart => exact ⟨rfl, rfl⟩
    case round =>
      obtain ⟨rfl, rfl⟩ := hrel
      go_wp2
      go_ret
      first | exact ⟨.inl ⟨hbig, _, _, rfl⟩, B3.out⟩ | exact ⟨.inl ⟨_, _, rfl⟩, B3.out⟩
  · have mixed : Try.prog.follows .mixedOrders = true := by kernel_rfl
    have hm2 : xs.length ≤ 300 := by omega
    obtain ⟨i0, hi0, hz0, hz1, hz2⟩ := info_str
    have HS0 := Lib.hid (new_rowT w)
    have HW := Lib.hid hwf
    clear hbig hwf
    go_enter Try.func21, Try.ntmps21
    go_wp2_with (go_at_call 15; refine (spec_le xs HW.out _ _ _ hS.out hm2).mono ?_; rintro e w2 ⟨a', cap', rfl, hs2, hg2, hb2⟩; have HB2 := Lib.hid (hbel.out.trans (hb2.mono hbel.out.size)); have HO2 := Lib.hid (HS0.out.kept hb2); have HS2 := Lib.hid hs2; have HG2 := Lib.hid hg2; have HL2 := Lib.hid hb2.size; clear hs2 hg2 hb2)
    obtain ⟨ss, hss⟩ : ∃ ss, sortS xs = ss := ⟨_, rfl⟩
    have hsl : xs.length = ss.length := by rw [← hss, sortS_len]
    have hF : Hid (∃ b, (0 < ss.length → a' = some ⟨b, 0, none⟩ ∧ w.heap.size < b ∧ b < w2.heap.size) ∧ ∀ (i : Nat) (h : i < ss.length), At4 w2 b (0 + i * 4) ss[i]) := by
      show ∃ _, _
      have h1 := HS2.out
      have h2 := HG2.out
      rw [hss] at h1 h2
      rcases h2 with h2 | ⟨g, e, hg1, hg2⟩
      · exact ⟨0, fun h => by rw [h2] at h; simp at h, fun i h => by rw [h2] at h; simp at h⟩
      · rcases h1 with h1 | ⟨b, off, e1, hb, hc⟩
        · exact ⟨0, fun h => by rw [h1] at h; simp at h, fun i h => by rw [h1] at h; simp at h⟩
        · rw [e] at e1
          cases e1
          refine ⟨g, fun _ => ⟨e, ?_, hg2⟩, hc⟩
          simp at hg1
          omega
    have HP : Hid (podsV xs = upT ss ss.length) := by show _ = _; rw [← hss, upT_all]
    have HL : Hid (ss.length ≤ 300) := by show _ ≤ _; omega
    have HXL : Hid (xs.length ≤ 300) := hm2
    obtain ⟨b, hb, hc⟩ := hF.out
    have Hb := Lib.hid hb
    have Hc := Lib.hid hc
    have hn : ss.length ≤ 300 := HL.out
    rw [hsl]
    clear hF hb hc hss hsl HS2 HG2 hm2 hm
    go_loopw [3, 5] (fun v i wr => ∃ k : Nat, k ≤ ss.length ∧ i = .int .i64 k ∧ Hid (OwnT wr w.heap.size v (upT ss k)) ∧ Hid (Below w.heap.size w wr) ∧ Hid (w2.heap.size ≤ wr.heap.size ∧ (0 < ss.length → v.ownBlock ≠ some b ∧ ∀ (i : Nat) (h : i < ss.length), At4 wr b (0 + i * 4) ss[i]))) (fun _ i _ => ss.length - (intOf i).toNat)
    case atStart =>
      refine ⟨0, Nat.zero_le _, rfl, HO2.out, HB2, Nat.le_refl _, fun h => ⟨?_, Hc.out⟩⟩
      have := (Hb.out h).2.1
      show some w.heap.size ≠ some b
      intro e
      cases e
      omega
    case round =>
      obtain ⟨k, hk, rfl, HO, HB, HC⟩ := hrel
      by_cases hlt : k < ss.length
      · obtain ⟨rfl, hbw, hb2⟩ := Hb.out (by omega)
        have hbr : b < wr.heap.size := Nat.lt_of_lt_of_le hb2 HC.out.1
        obtain ⟨q0, q1, q2, q3⟩ := (HC.out.2 (by omega)).2 k hlt
        have HNE := Lib.hid (HC.out.2 (by omega)).1
        have HBR := Lib.hid hbr
        obtain ⟨x, hx⟩ : ∃ x, ss[k] = x := ⟨_, rfl⟩
        have HQ : Hid (At4 wr b (0 + k * 4) x) := by rw [← hx]; exact (HC.out.2 (by omega)).2 k hlt
        rw [hx] at q0 q1 q2 q3
        simp only [Nat.zero_add] at q0 q1 q2 q3
        have HUL := Lib.hid (upT_len ss k)
        rcases Nat.eq_zero_or_pos k with h0 | h0
        · have HN : Hid (upT ss (k + 1) = upT ss k ++ [podL x]) := by show _ = _; rw [← hx]; exact upT_new ss k hlt (.inl h0)
          subst h0
          clear hx
          have hd : (((0 : Nat) : Int) == 0) = true := rfl
          go_wp2_with fail
          go_quiet (fail)
          generalize hW : World.drewN wr _ = W
          have hbW : Below wr.heap.size wr W := by rw [← hW]; exact below_grow (Below.refl _ _) (Nat.le_refl _) _ #[]
          have HOW1 := Lib.hid (HO.out.kept hbW)
          have HBW1 := Lib.hid (HB.out.trans (hbW.mono HB.out.size))
          have HCW1 : Hid (∀ (i : Nat) (h : i < ss.length), At4 W b (0 + i * 4) ss[i]) := fun i h => ((HC.out.2 (by omega)).2 i h).kept hbW HBR.out
          have HBRW : Hid (b < W.heap.size) := Nat.lt_of_lt_of_le HBR.out hbW.size
          have HSW : Hid (w2.heap.size ≤ W.heap.size) := Nat.le_trans HC.out.1 hbW.size
          obtain ⟨y0, y1, y2, y3⟩ := HQ.out.kept hbW HBR.out
          simp only [Nat.zero_add] at y0 y1 y2 y3
          have hlW := HBW1.out.size
          clear hW hbW
          go_wp2_with (at_builtin; refine wpList_append_own_at _ rfl _ _ 38 rfl w.heap.size 9 i0 (.string ⟨#[]⟩) 1 16 Try.underlying38 hi0 hz0 hz1 hz2 rfl (by decide) _ _ _ rfl (World.ownsRow.alloc HOW1.out _) ⟨W.heap.size, 0, none⟩ 1 1 [.string x.pod] rfl rfl ?e1 ?e2 ?e3 ?e4 ?e5 ?_)
          case e1 => exact one_cell _ _ _
          case e2 => first | rfl | (intro u hu; simp at hu; subst hu; rfl)
          case e3 => unfold maxLen; have := HUL.out; omega
          case e4 => have := HUL.out; omega
          case e5 => first | omega | (simp; omega)
          intro v' w8 hown' hgrow _ hob
          have HO8 := Lib.hid (OwnT.snoc (l := podL x) hown')
          have hrow : ∀ g, Value.ownBlock _ = some g → w.heap.size ≤ g := fun g hg => (World.ownsRow.lt HOW1.out g hg).1
          have HB8 := Lib.hid ((HBW1.out.alloc HBW1.out.size _).grown hgrow (by have := HBW1.out.size; simp; omega) hrow)
          have hal : Below W.heap.size W (W.alloc (.cells #[.string x.pod] 9)) := (Below.refl _ _).alloc (Nat.le_refl _) _
          have HC8 : Hid (w2.heap.size ≤ w8.heap.size ∧ (0 < ss.length → v'.ownBlock ≠ some b ∧ ∀ (i : Nat) (h : i < ss.length), At4 w8 b (0 + i * 4) ss[i])) := by
            refine ⟨Nat.le_trans HSW.out (Nat.le_trans hal.size hgrow.size), fun _ => ⟨?_, fun i h => At4.far hgrow ((HCW1.out i h).kept hal HBRW.out) HNE.out.symm⟩⟩
            rcases hob with e | e
            · rw [e]; exact HNE.out
            · rw [e]
              intro e2
              cases e2
              have := HBRW.out
              try simp at this
              try omega
          clear hown' hgrow hrow hob hal
          go_wp2
          go_roundw
          case rel => exact ⟨0 + 1, by omega, by go_num, by show OwnT _ _ _ _; rw [HN.out]; exact HO8.out, HB8, HC8.out⟩
          case measure => simp [intOf]; omega
        · obtain ⟨p, hp⟩ : ∃ p : Nat, p + 1 = k := ⟨k - 1, by omega⟩
          have hpl : p < ss.length := by omega
          have epc : (k : Int) - 1 = (p : Int) := by omega
          have hwp : IntKind.i64.wrap (p : Int) = (p : Int) := by rw [IntKind.wrap_i64]; omega
          obtain ⟨y, hy⟩ : ∃ y, ss[p] = y := ⟨_, rfl⟩
          obtain ⟨z0, z1, z2, z3⟩ := (HC.out.2 (by omega)).2 p hpl
          rw [hy] at z0 z1 z2 z3
          simp only [Nat.zero_add] at z0 z1 z2 z3
          have hne : ¬ k = 0 := by omega
          have hd : ((k : Int) == 0) = false := by rw [beq_eq_false_iff_ne]; omega
          have hd2 : decide ((k : Int) = 0) = false := by rw [decide_eq_false_iff_not]; omega
          clear hne
          by_cases he : podL x = podL y
          · have HN : Hid (upT ss (k + 1) = upT ss k) := upT_old ss k p hlt hpl hp (by rw [hx, hy]; exact he)
            have l2 : (x.pod.toList == y.pod.toList) = true := by
              rw [beq_iff_eq, ByteArray.toList_eq, ByteArray.toList_eq]; exact he
            clear hx hy hp he hpl h0
            go_wp2_with fail
            go_quiet (fail)
            generalize hW : World.drewN wr _ = W
            have hbW : Below wr.heap.size wr W := by rw [← hW]; exact below_grow (Below.refl _ _) (Nat.le_refl _) _ #[]
            have HO1 := Lib.hid (HO.out.kept hbW)
            have HB1 := Lib.hid (HB.out.trans (hbW.mono HB.out.size))
            have HC1 : Hid (w2.heap.size ≤ W.heap.size ∧ (0 < ss.length → u3.ownBlock ≠ some b ∧ ∀ (i : Nat) (h : i < ss.length), At4 W b (0 + i * 4) ss[i])) := ⟨Nat.le_trans HC.out.1 hbW.size, fun h => ⟨HNE.out, fun i hi => ((HC.out.2 h).2 i hi).kept hbW HBR.out⟩⟩
            clear hbW
            go_wp2
            go_roundw
            case rel => exact ⟨k + 1, by omega, by go_num, by show OwnT _ _ _ _; rw [HN.out]; exact HO1.out, HB1, HC1.out⟩
            case measure => simp [intOf]; omega
          · have HN : Hid (upT ss (k + 1) = upT ss k ++ [podL x]) := by show _ = _; rw [← hx]; exact upT_new ss k hlt (.inr ⟨p, hpl, hp, by rw [hx, hy]; exact he⟩)
            have l2 : (x.pod.toList == y.pod.toList) = false := by
              rw [beq_eq_false_iff_ne, ByteArray.toList_eq, ByteArray.toList_eq]; exact he
            clear hx hy hp he hpl h0
            go_wp2_with fail
            go_quiet (fail)
            generalize hW : World.drewN wr _ = W
            have hbW : Below wr.heap.size wr W := by rw [← hW]; exact below_grow (Below.refl _ _) (Nat.le_refl _) _ #[]
            have HOW1 := Lib.hid (HO.out.kept hbW)
            have HBW1 := Lib.hid (HB.out.trans (hbW.mono HB.out.size))
            have HCW1 : Hid (∀ (i : Nat) (h : i < ss.length), At4 W b (0 + i * 4) ss[i]) := fun i h => ((HC.out.2 (by omega)).2 i h).kept hbW HBR.out
            have HBRW : Hid (b < W.heap.size) := Nat.lt_of_lt_of_le HBR.out hbW.size
            have HSW : Hid (w2.heap.size ≤ W.heap.size) := Nat.le_trans HC.out.1 hbW.size
            obtain ⟨y0, y1, y2, y3⟩ := HQ.out.kept hbW HBR.out
            simp only [Nat.zero_add] at y0 y1 y2 y3
            have hlW := HBW1.out.size
            clear hW hbW
            go_wp2_with (at_builtin; refine wpList_append_own_at _ rfl _ _ 38 rfl w.heap.size 9 i0 (.string ⟨#[]⟩) 1 16 Try.underlying38 hi0 hz0 hz1 hz2 rfl (by decide) _ _ _ rfl (World.ownsRow.alloc HOW1.out _) ⟨W.heap.size, 0, none⟩ 1 1 [.string x.pod] rfl rfl ?e1 ?e2 ?e3 ?e4 ?e5 ?_)
            case e1 => exact one_cell _ _ _
            case e2 => first | rfl | (intro u hu; simp at hu; subst hu; rfl)
            case e3 => unfold maxLen; have := HUL.out; omega
            case e4 => have := HUL.out; omega
            case e5 => first | omega | (simp; omega)
            intro v' w8 hown' hgrow _ hob
            have HO8 := Lib.hid (OwnT.snoc (l := podL x) hown')
            have hrow : ∀ g, Value.ownBlock _ = some g → w.heap.size ≤ g := fun g hg => (World.ownsRow.lt HOW1.out g hg).1
            have HB8 := Lib.hid ((HBW1.out.alloc HBW1.out.size _).grown hgrow (by have := HBW1.out.size; simp; omega) hrow)
            have hal : Below W.heap.size W (W.alloc (.cells #[.string x.pod] 9)) := (Below.refl _ _).alloc (Nat.le_refl _) _
            have HC8 : Hid (w2.heap.size ≤ w8.heap.size ∧ (0 < ss.length → v'.ownBlock ≠ some b ∧ ∀ (i : Nat) (h : i < ss.length), At4 w8 b (0 + i * 4) ss[i])) := by
              refine ⟨Nat.le_trans HSW.out (Nat.le_trans hal.size hgrow.size), fun _ => ⟨?_, fun i h => At4.far hgrow ((HCW1.out i h).kept hal HBRW.out) HNE.out.symm⟩⟩
              rcases hob with e | e
              · rw [e]; exact HNE.out
              · rw [e]
                intro e2
                cases e2
                have := HBRW.out
                try simp at this
                try omega
            clear hown' hgrow hrow hob hal
            go_wp2
            go_roundw
            case rel => exact ⟨k + 1, by omega, by go_num, by show OwnT _ _ _ _; rw [HN.out]; exact HO8.out, HB8, HC8.out⟩
            case measure => simp [intOf]; omega
      · obtain rfl : k = ss.length := by omega
        have HF : Hid (OwnT wr w.heap.size u3 (podsV xs)) := by show OwnT _ _ _ _; rw [HP.out]; exact HO.out
        clear hlt
        go_wp2
        go_ret
        exact ⟨.inr ⟨HXL.out, _, rfl, HF.out⟩, HB.out⟩
end Go.Proofs.Ytahhemgmlmhbjaa.PodsM
