/- As the laws meet it: sizes from whatever is left; rows that outlast marks in other blocks. -/
import Derived.Test.YtgmdfkmmbcpikaaGreatSofL
import Derived.Test.YtgmdfkmmbcpikaaGreatOwnI
namespace Go.Proofs.YtgmdfkmmbcpikaaGreat.SzT
open Go.RowKit Go.Sort
open Go.Proofs.YtgmdfkmmbcpikaaGreat.C1
open Go.Proofs.YtgmdfkmmbcpikaaGreat.C2
open Go.Proofs.YtgmdfkmmbcpikaaGreat.Smps
open Go.Proofs.YtgmdfkmmbcpikaaGreat.Mem
open Go.Proofs.YtgmdfkmmbcpikaaGreat.Ser
open Go.Proofs.YtgmdfkmmbcpikaaGreat.Ser2
open Go.Proofs.YtgmdfkmmbcpikaaGreat.MarkS
open Go.Proofs.YtgmdfkmmbcpikaaGreat.SofL
open Go.Proofs.YtgmdfkmmbcpikaaGreat.StoL
open Go.Proofs.YtgmdfkmmbcpikaaGreat.OwnI
open Go.Proofs.YtgmdfkmmbcpikaaGreat.Ints
set_option linter.unusedVariables false

theorem tot_startL (L : Int) (ls : List Sv) : Hid ((L - (ls.length : Int)) + totS ls 0 + ls.length = L) := by
  show _ = _
  have : totS ls 0 = 0 := by simp [totS]
  omega
set_option maxRecDepth 20000 in
theorem sz_totalL (L : Int) (hL0 : 0 ≤ L) (hL1 : L ≤ 1048576) (ls : List Sv) (hwf : ∀ l ∈ ls, l.s.wf) (a : Option Addr) (cap : Nat) (hm : ls.length ≤ 9223372036854775807) (w : World) (h : Srs w a ls) :
    Calls Tryz.prog 21 #[.slice a ls.length cap, .int .i64 L] w fun e w' => ∃ r : Int, e = .returned (.int .i64 r) ∧ Below w.heap.size w w' ∧ (r < 0 ∨ 0 ≤ r ∧ r ≤ 1048576 ∧ ls.length ≤ 1048576 ∧ (∀ l ∈ ls, l.s.pts.length ≤ 1048576) ∧ rem ls 0 ≤ 4194304) := by
  obtain ⟨b, off, ha, hb, hcell⟩ := h.cells
  by_cases hbig : L < ls.length
  · go_enter Tryz.func21, Tryz.ntmps21
    go_wp2
    go_ret
    exact ⟨_, rfl, Below.refl _ _, .inl (by omega)⟩
  · have Hc := Lib.hid hcell
    have Ha := Lib.hid ha
    have Hw := Lib.hid hwf
    have Hb := Lib.hid hb
    clear hcell ha hwf hb h
    go_enter Tryz.func21, Tryz.ntmps21
    go_wp2
    go_loopw [1, 5] (fun l i wr => ∃ (k : Nat) (r : Int), k ≤ ls.length ∧ i = .int .i64 k ∧ l = .int .i64 r ∧ 0 ≤ r ∧ r ≤ 1048576 ∧ Below w.heap.size w wr ∧ Hid (r + totS ls k + ls.length = L)) (fun _ i _ => ls.length - (intOf i).toNat)
    case atStart => exact ⟨0, L - ls.length, Nat.zero_le _, rfl, rfl, by omega, by omega, Below.refl _ _, tot_startL L ls⟩
    case round =>
      obtain ⟨k, r, hk, rfl, rfl, hr0, hr1, hbw, HS⟩ := hrel
      by_cases hlt : k < ls.length
      · obtain rfl := Ha.out (by omega)
        obtain ⟨q0, q1, q2⟩ := (Hc.out k hlt).1.kept hbw (Hb.out (by omega))
        have hw1 := Lib.hid (Hw.out ls[k] (List.getElem_mem hlt))
        have hlw := hbw.size
        by_cases hc : r < ls[k].s.sum
        · go_wp2_with (go_at_call 60; refine (sz_ser ls[k] hw1.out r hr0 hr1 _).mono ?_; rw [if_pos hc]; rintro e w2 ⟨rfl, hb2⟩)
          go_ret
          exact ⟨_, rfl, hbw.trans (hb2.mono hlw), .inl (by omega)⟩
        · have hs0 : 0 ≤ ls[k].s.sum := by unfold Ser.sum; omega
          obtain ⟨r2, hr2, hr3, hr4⟩ : ∃ r2 : Int, r2 = r - ls[k].s.sum ∧ 0 ≤ r2 ∧ r2 ≤ 1048576 := ⟨_, rfl, by omega, by omega⟩
          have HN : Hid (r2 + totS ls (k + 1) + ls.length = L) := by
            show _ = _
            have h1 := totS_next ls k hlt
            have h2 := HS.out
            omega
          go_wp2_with (go_at_call 60; refine (sz_ser ls[k] hw1.out r hr0 hr1 _).mono ?_; rw [if_neg hc, ← hr2]; rintro e w2 ⟨rfl, hb2⟩)
          go_roundw
          case rel => exact ⟨k + 1, r2, by omega, by go_num, int_eq hr2.symm, hr3, hr4, hbw.trans (hb2.mono hlw), HN⟩
          case measure => simp [intOf]; omega
      · obtain rfl : k = ls.length := by omega
        go_wp2
        go_ret
        refine ⟨_, rfl, hbw, .inr ⟨hr0, hr1, by omega, fun s hs => ?_, ?_⟩⟩
        · obtain ⟨j, hj, rfl⟩ := List.mem_iff_getElem.1 hs
          have h1 := (totS_mono ls ls.length (Nat.le_refl _)).2 j hj hj
          have h2 := HS.out
          unfold Ser.sum at h1
          omega
        · have h1 := rem_le ls
          have h2 := HS.out
          omega
theorem OwnI_within {B C : Nat} {w w' : World} {v : Value} {ps : List Int} (h : OwnI w C v ps) (hw : Within B C w w') : OwnI w' C v ps := by
  obtain ⟨h1, h2⟩ := h
  refine ⟨h1, ?_⟩
  rcases h2 with h2 | ⟨g, cap, cur, hv, hg, hh, r⟩
  · exact .inl h2
  · exact .inr ⟨g, cap, cur, hv, hg, by rw [hw.block g (Array.getElem?_eq_some_iff.1 hh).1 (by omega)]; exact hh, r⟩
theorem OwnR_within {B C : Nat} {w w' : World} {v : Value} {ps : List Sv} (h : OwnR w C v ps) (hw : Within B C w w') : OwnR w' C v ps := by
  obtain ⟨h1, h2⟩ := h
  refine ⟨h1, ?_⟩
  rcases h2 with h2 | ⟨g, cap, cur, hv, hg, hh, r⟩
  · exact .inl h2
  · exact .inr ⟨g, cap, cur, hv, hg, by rw [hw.block g (Array.getElem?_eq_some_iff.1 hh).1 (by omega)]; exact hh, r⟩
theorem Good_within {B C g : Nat} {w w' : World} {ms : List Sv} (h : Ser2.Good w C g ms) (hw : Within B C w w') : Ser2.Good w' C g ms :=
  ⟨fun l hl => OwnP_within (h.own l hl) hw, h.off, h.apart⟩
theorem ints_of {w : World} {B cap : Nat} {a : Option Addr} {xs : List Int} (h : OwnI w B (.slice a xs.length cap) xs) : Ints w a xs := by
  obtain ⟨a', c', e, hi⟩ := h.ints
  cases e
  exact hi
theorem base_of {w : World} {B n cap : Nat} {a : Option Addr} {xs : List Int} (h : OwnI w B (.slice a n cap) xs) : ∀ c o s, a = some ⟨c, o, s⟩ → B ≤ c := fun c o s e => by
  subst e
  rcases h.2 with ⟨hv, _⟩ | ⟨g, cap, cur, hv, hg, _⟩
  · cases hv
  · cases hv; exact hg
theorem OwnR_base {w : World} {B g n cap : Nat} {ls : List Sv} (h : OwnR w B (.slice (some ⟨g, 0, none⟩) n cap) ls) : B ≤ g ∧ g < w.heap.size := h.lt
/-- The marks into a copy of the argument, from whatever number on. -/
theorem mark_series4 (ls ms : List Sv) (hs : ms.map Sv.s = ls.map Sv.s) (g B C k : Nat) (h0 : 0 < k) (hk : k ≤ 50000000) (hrem : rem ls 0 ≤ 4194304) (hm : ls.length ≤ 1048576) (w : World) (ho : OwnR w B (.slice (some ⟨g, 0, none⟩) ls.length ls.length) ms) (hg : Ser2.Good w B g ms)
    (hgC : g < C) (hlC : ∀ l ∈ ms, ∀ b o s, l.a = some ⟨b, o, s⟩ → b < C) (hBw : B ≤ w.heap.size) :
    Calls Tryz.prog 51 #[.slice (some ⟨g, 0, none⟩) ls.length ls.length, .int .i64 k] w fun e w' => ∃ m : Nat, e = .returned (.int .i64 m) ∧ Within B C w w' := by
  have hl := map_len hs
  have hr := rem_map hs
  have := mark_series ms g ls.length B C k h0 (by omega) w (by rw [hl]; exact ho) hg hgC hlC hBw (by omega)
  rw [hl] at this
  exact this
end Go.Proofs.YtgmdfkmmbcpikaaGreat.SzT
