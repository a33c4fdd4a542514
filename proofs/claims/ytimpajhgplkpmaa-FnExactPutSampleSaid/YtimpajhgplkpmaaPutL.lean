/- PutSample of chapter 3: what the law needs besides: bounds of what is answered. -/
import Derived.Test.YtimpajhgplkpmaaPutS
import Derived.Test.YtimpajhgplkpmaaPutI
import Derived.Test.YtimpajhgplkpmaaHeld
import Derived.Test.YtimpajhgplkpmaaMarkT
import Derived.Test.YtimpajhgplkpmaaSofL
namespace Go.Proofs.Ytimpajhgplkpmaa.PutL
open Go.RowKit Go.Sort Go.BigFrame
open Go.Proofs.Ytimpajhgplkpmaa.C1 Go.Proofs.Ytimpajhgplkpmaa.C2 Go.Proofs.Ytimpajhgplkpmaa.Ser Go.Proofs.Ytimpajhgplkpmaa.Ser2 Go.Proofs.Ytimpajhgplkpmaa.Sto Go.Proofs.Ytimpajhgplkpmaa.Items Go.Proofs.Ytimpajhgplkpmaa.MarkS Go.Proofs.Ytimpajhgplkpmaa.StoL Go.Proofs.Ytimpajhgplkpmaa.Held Go.Proofs.Ytimpajhgplkpmaa.MarkT Go.Proofs.Ytimpajhgplkpmaa.PutD Go.Proofs.Ytimpajhgplkpmaa.PutS Go.Proofs.Ytimpajhgplkpmaa.PutI
set_option linter.unusedVariables false
def remT (ss : List Ser) : Nat := (ss.map fun s => 2 + 2 * s.pts.length).sum
theorem remT_eq (ms : List Sv) : rem ms 0 = remT (ms.map Sv.s) := by
  unfold rem remT
  rw [List.drop_zero, List.map_map]
  rfl
theorem remT_le : ∀ (ss : List Ser), (∀ s ∈ ss, s.pts.length ≤ 12) → remT ss ≤ 26 * ss.length
  | [], _ => by simp [remT]
  | x :: r, h => by
    have h1 := remT_le r (fun s hs => h s (List.mem_cons_of_mem _ hs))
    have h2 := h x (List.mem_cons_self ..)
    unfold remT at h1 ⊢
    rw [List.map_cons, List.sum_cons, List.length_cons]
    omega
theorem put_bounds {xs ys : List Ser} {s : Smp} {c : Int} (h : PutIs xs s ys c) (hl : xs.length ≤ 1048576) (hp : ∀ x ∈ xs, x.pts.length ≤ 1048576) (hr : remT xs ≤ 4194304) :
    ys.length ≤ 1048576 ∧ (∀ y ∈ ys, y.pts.length ≤ 1048576) ∧ remT ys ≤ 4194304 := by
  have small : ys.length ≤ 25 → (∀ y ∈ ys, y.pts.length ≤ 12) → ys.length ≤ 1048576 ∧ (∀ y ∈ ys, y.pts.length ≤ 1048576) ∧ remT ys ≤ 4194304 := fun h1 h2 =>
    ⟨by omega, fun y hy => by have := h2 y hy; omega, by have := remT_le ys h2; omega⟩
  cases h with
  | bad h => exact ⟨hl, hp, hr⟩
  | old h1 h2 i hpl hi hk ht => exact ⟨hl, hp, hr⟩
  | full h1 h2 i hpl hk hl' => exact ⟨hl, hp, hr⟩
  | add h1 h2 i hpl hi hk ht =>
    have hs := (storeV_iff _).1 h1
    have hm := hs.most
    refine small (by rw [List.length_set]; omega) (fun y hy => ?_)
    rcases List.mem_or_eq_of_mem_set hy with hy | rfl
    · exact (hs.ok y hy).pts.most
    · exact (withV_len _ _ ((hs.ok _ (List.getElem_mem hi)).pts.most)).2
  | new h1 h2 i hpl hk hl' =>
    have hs := (storeV_iff _).1 h1
    have hm := hs.most
    refine small (by simp; omega) (fun y hy => ?_)
    rcases List.mem_append.1 hy with hy | hy
    · exact (hs.ok y (List.mem_of_mem_take hy)).pts.most
    · rcases List.mem_cons.1 hy with rfl | hy
      · show 1 ≤ 12; omega
      · exact (hs.ok y (List.mem_of_mem_drop hy)).pts.most
theorem spec_put2 (ls ms : List Sv) (hs : ms.map Sv.s = ls.map Sv.s) (hwf : ∀ l ∈ ls, l.s.wf) (s : Smp) (hsw : s.wf) (a : Option Addr) (cap : Nat) (w : World) (h : Srs w a ms) (hm : ls.length ≤ 1048576) (hpl : ∀ l ∈ ls, l.s.pts.length ≤ 1048576) :
    Calls Try.prog 25 #[.slice a ls.length cap, smpV s] w fun e w' => PutSp (ls.map Sv.s) s w w' e := by
  have hl := map_len hs
  have := spec_put ms (map_all hs hwf) s hsw a cap w h (by omega) (map_all (P := fun s => s.pts.length ≤ 1048576) hs hpl)
  rw [hl, hs] at this
  exact this
theorem impl_put3 (ls ms : List Sv) (hs : ms.map Sv.s = ls.map Sv.s) (hwf : ∀ l ∈ ls, l.s.wf) (hpl : ∀ l ∈ ls, l.s.pts.length ≤ 1048576) (gs cap B : Nat) (s : Smp) (hsw : s.wf) (zs : List Sv) (c : Int) (hz : PutIs (ls.map Sv.s) s (zs.map Sv.s) c) (w : World) (ho : OwnR w B (.slice (some ⟨gs, 0, none⟩) ls.length cap) ms) (hg : Ser2.Good w B gs ms) (hm : ls.length ≤ 1048576) :
    Calls Try.prog 28 #[.slice (some ⟨gs, 0, none⟩) ls.length cap, smpV s] w fun e w' => ∃ (g cap : Nat) (ns : List Sv), e = .returned (.tuple #[.slice (some ⟨g, 0, none⟩) zs.length cap, .int .i64 c]) ∧ ns.map Sv.s = zs.map Sv.s ∧ OwnR w' w.heap.size (.slice (some ⟨g, 0, none⟩) zs.length cap) ns ∧ Ser2.Good w' w.heap.size g ns ∧ Below w.heap.size w w' := by
  have hl := map_len hs
  rw [← hl] at ho ⊢
  refine (impl_putsample ms (map_all hs hwf) (map_all (P := fun s => s.pts.length ≤ 1048576) hs hpl) gs cap B s hsw w ho hg (by omega)).mono ?_
  rintro e w' ⟨g, cap', ns, c', rfl, hp, ho', hg', hb⟩
  rw [hs] at hp
  obtain ⟨e1, rfl⟩ := put_one hp hz
  have hn := map_len e1
  rw [hn] at ho' ⊢
  exact ⟨g, cap', ns, rfl, e1, ho', hg', hb⟩
theorem mark_zs (ns ms : List Sv) (hs : ms.map Sv.s = ns.map Sv.s) (g c B q : Nat) (hq : 1 + rem ns 0 = q) (hk : q ≤ 100000000) (hm : ns.length ≤ 1048576) (w : World) (hB : B ≤ w.heap.size) (h1 : OwnR w B (.slice (some ⟨g, 0, none⟩) ns.length c) ms) (h2 : Ser2.Good w B g ms) :
    Calls Try.prog 30 #[.slice (some ⟨g, 0, none⟩) ns.length c, .int .i64 1] w fun e w' => e = .returned (.int .i64 q) ∧ OwnR w' B (.slice (some ⟨g, 0, none⟩) ns.length c) (marksS 1 ms) ∧ Ser2.Good w' B g (marksS 1 ms) ∧ Within B w.heap.size w w' := by
  have hl := map_len hs
  have hr : rem ms 0 = rem ns 0 := by rw [remT_eq, remT_eq, hs]
  rw [← hl] at h1 ⊢
  rw [← hr] at hq
  refine (mark_series3 ms g c B w.heap.size 1 (by omega) (by omega) w h1 h2 h1.lt.2 (fun l hl b o s e => by have := h2.own l hl; rw [e] at this; exact this.lt.2) hB (by omega)).mono ?_
  rintro e w' ⟨xs, rfl, rfl, ho, hg, hw⟩
  rw [hq]
  exact ⟨rfl, ho, hg, hw⟩
theorem held_zs (ns ms : List Sv) (hs : ms.map Sv.s = ns.map Sv.s) (g c B q : Nat) (hq : 1 + rem ns 0 = q) (hk : q ≤ 100000000) (hm : ns.length ≤ 1048576) (w : World) (h1 : OwnR w B (.slice (some ⟨g, 0, none⟩) ns.length c) (marksS 1 ms)) (h2 : Ser2.Good w B g (marksS 1 ms)) :
    Calls Try.prog 31 #[.slice (some ⟨g, 0, none⟩) ns.length c, .int .i64 1] w fun e w' => e = .returned (.int .i64 q) ∧ Below w.heap.size w w' := by
  have hl := map_len hs
  have hr : rem ms 0 = rem ns 0 := by rw [remT_eq, remT_eq, hs]
  rw [← hl] at h1 ⊢
  rw [← hr] at hq
  have := held_series ms g c B 1 (by omega) (by omega) w h1 h2 (by omega)
  rw [hq] at this
  exact this
theorem ownP_in {B C : Nat} {w w' : World} {v : Value} {ps : List Pt} (h : OwnP w C v ps) (hw : Within B C w w') : OwnP w' C v ps := by
  obtain ⟨h1, h2⟩ := h
  refine ⟨h1, ?_⟩
  rcases h2 with h2 | ⟨g, cap, cur, hv, hg, hh, r⟩
  · exact .inl h2
  · exact .inr ⟨g, cap, cur, hv, hg, by rw [hw.block g (Array.getElem?_eq_some_iff.1 hh).1 (.inr hg)]; exact hh, r⟩
theorem own_within {B C g : Nat} {w w' : World} {v : Value} {ms : List Sv} (h : OwnR w C v ms) (hg : Ser2.Good w C g ms) (hw : Within B C w w') : OwnR w' C v ms ∧ Ser2.Good w' C g ms := by
  refine ⟨?_, ⟨fun l hl => ownP_in (hg.own l hl) hw, hg.off, hg.apart⟩⟩
  obtain ⟨h1, h2⟩ := h
  refine ⟨h1, ?_⟩
  rcases h2 with h2 | ⟨g, cap, cur, hv, hg, hh, r⟩
  · exact .inl h2
  · exact .inr ⟨g, cap, cur, hv, hg, by rw [hw.block g (Array.getElem?_eq_some_iff.1 hh).1 (.inr hg)]; exact hh, r⟩
end Go.Proofs.Ytimpajhgplkpmaa.PutL
