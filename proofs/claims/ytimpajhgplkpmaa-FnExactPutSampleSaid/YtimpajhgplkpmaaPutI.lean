/- PutSample of chapter 3: the program's side. -/
import Derived.Test.YtimpajhgplkpmaaPutM
import Derived.Test.YtimpajhgplkpmaaPut
import Derived.Deep.RegionHeld3
namespace Go.Proofs.Ytimpajhgplkpmaa.PutI
open Go.RowKit Go.Sort Go.BigFrame
open Go.Proofs.Ytimpajhgplkpmaa.C1 Go.Proofs.Ytimpajhgplkpmaa.C2 Go.Proofs.Ytimpajhgplkpmaa.Smps Go.Proofs.Ytimpajhgplkpmaa.Mem Go.Proofs.Ytimpajhgplkpmaa.Ser Go.Proofs.Ytimpajhgplkpmaa.Ser2 Go.Proofs.Ytimpajhgplkpmaa.Key Go.Proofs.Ytimpajhgplkpmaa.Sto Go.Proofs.Ytimpajhgplkpmaa.StoL Go.Proofs.Ytimpajhgplkpmaa.Find Go.Proofs.Ytimpajhgplkpmaa.CopyI Go.Proofs.Ytimpajhgplkpmaa.PutD Go.Proofs.Ytimpajhgplkpmaa.Put
set_option linter.unusedVariables false
theorem cells4 {w : World} {g : Nat} {a b c d : Value} (h : CellsW w g [a, b, c, d]) : w.cell? ⟨g, 0, none⟩ = some a ∧ w.cell? ⟨g, 1, none⟩ = some b ∧ w.cell? ⟨g, 2, none⟩ = some c ∧ w.cell? ⟨g, 3, none⟩ = some d :=
  ⟨(h.2 0 (by simp)).1, (h.2 1 (by simp)).1, (h.2 2 (by simp)).1, (h.2 3 (by simp)).1⟩
theorem impl_put2 (ls : List Sv) (xs : List Ser) (hx : ls.map Sv.s = xs) (n gs B : Nat) (hn : ls.length = n) (s : Smp) (hs : s.wf) (w : World) (hv : storeV xs = true) (ho : OwnR w B (.slice (some ⟨gs, 0, none⟩) n n) ls) (hg : Ser2.Good w B gs ls) (hB : B ≤ w.heap.size) :
    Calls Try.prog 77 #[.slice (some ⟨gs, 0, none⟩) n n, smpV s] w fun e w' => PutOut xs s B w w' e := by
  subst hn
  subst hx
  exact impl_put ls gs B s hs w hv ho hg hB
set_option maxHeartbeats 4000000 in
set_option maxRecDepth 20000 in
theorem impl_putsample (ls : List Sv) (hwf : ∀ l ∈ ls, l.s.wf) (hpl : ∀ l ∈ ls, l.s.pts.length ≤ 1048576) (gs cap B : Nat) (s : Smp) (hs : s.wf) (w : World) (ho : OwnR w B (.slice (some ⟨gs, 0, none⟩) ls.length cap) ls) (hg : Ser2.Good w B gs ls) (hm : ls.length ≤ 1048576) :
    Calls Try.prog 28 #[.slice (some ⟨gs, 0, none⟩) ls.length cap, smpV s] w fun e w' => PutOut (ls.map Sv.s) s w.heap.size w w' e := by
  have HW := Lib.hid hwf
  have HPL := Lib.hid hpl
  have HS := Lib.hid hs
  have hbx := box_below w #[.string s.pod, .string s.met, .int .i64 s.val, .int .i64 s.tick] 48
  have HO := Lib.hid (ho.kept hbx)
  have HG := Lib.hid (hg.kept hbx)
  have HX := Lib.hid (Ser2.cells_new w #[.string s.pod, .string s.met, .int .i64 s.val, .int .i64 s.tick] 48)
  have HB0 := Lib.hid hbx
  obtain ⟨W0, hW0⟩ : ∃ W0, w.alloc (.cells #[.string s.pod, .string s.met, .int .i64 s.val, .int .i64 s.tick] 48) = W0 := ⟨_, rfl⟩
  rw [hW0] at HO HG HX HB0
  have HW0 := Lib.hid hW0
  clear ho hg hbx hW0 hwf hpl hs
  obtain ⟨bo, hbo⟩ : ∃ bo, storeV (ls.map Sv.s) = bo := ⟨_, rfl⟩
  have hput := fun (ms : List Sv) (hx : ms.map Sv.s = ls.map Sv.s) (g B : Nat) (W : World) hv ho hg hB => impl_put2 ms (ls.map Sv.s) hx ls.length g B (map_len hx) s HS.out W hv ho hg hB
  unfold smpV at hput
  have HPUT := Lib.hid hput
  clear hput
  unfold smpV
  cases bo
  · have HBO := Lib.hid hbo
    clear hbo
    go_enter Try.func28, Try.ntmps28
    go_wp2_with fail
    rw [HW0.out]
    refine (impl_store2 ls ls rfl _ cap _ HW.out HPL.out (srs_of HO.out HG.out) hm).mono ?_
    rw [HBO.out]
    rintro e w2 ⟨rfl, hb2⟩
    have HO2 := Lib.hid (HO.out.kept hb2)
    have HG2 := Lib.hid (HG.out.kept hb2)
    have HB2 := Lib.hid (HB0.out.trans (hb2.mono HB0.out.size))
    clear hb2
    go_wp2_with fail
    refine (impl_copy ls gs cap B _ HO2.out HG2.out hm HPL.out).mono ?_
    rintro e w3 ⟨g, ms, rfl, hms, ho3, hg3, hb3⟩
    have HML := Lib.hid (map_len hms)
    have HP : Hid (PutIs (ls.map Sv.s) s (ms.map Sv.s) 3) := by
      show PutIs _ _ _ _
      rw [hms]
      exact .bad (by rw [HBO.out]; simp)
    have HO3 := Lib.hid (OwnR.low ho3 HB2.out.size)
    have HG3 : Hid (Ser2.Good w3 w.heap.size g ms) := ⟨fun l hl => Items.OwnP.low (hg3.own l hl) HB2.out.size, hg3.off, hg3.apart⟩
    have HB3 := Lib.hid (HB2.out.trans (hb3.mono HB2.out.size))
    clear hms ho3 hg3 hb3
    go_wp2
    go_ret2
    exact putOut_of g ls.length ms 3 (by rw [HML.out]; rfl) HP.out (by rw [HML.out]; exact HO3.out) HG3.out HB3.out
  · have HBO := Lib.hid hbo
    clear hbo
    go_enter Try.func28, Try.ntmps28
    go_wp2_with fail
    rw [HW0.out]
    refine (impl_store2 ls ls rfl _ cap _ HW.out HPL.out (srs_of HO.out HG.out) hm).mono ?_
    rw [HBO.out]
    rintro e w2 ⟨rfl, hb2⟩
    have HO2 := Lib.hid (HO.out.kept hb2)
    have HG2 := Lib.hid (HG.out.kept hb2)
    have HX2 := Lib.hid (HX.out.kept hb2)
    have HB2 := Lib.hid (HB0.out.trans (hb2.mono HB0.out.size))
    clear hb2 HO HG HX
    have hx0 := HX2.out.1
    have HT : Hid (∀ W, Hid (Below w2.heap.size w2 W) → (W.cell? ⟨w.heap.size, 0, none⟩ = some (.string s.pod) ∧ W.cell? ⟨w.heap.size, 1, none⟩ = some (.string s.met) ∧ W.cell? ⟨w.heap.size, 2, none⟩ = some (.int .i64 s.val) ∧ W.cell? ⟨w.heap.size, 3, none⟩ = some (.int .i64 s.tick))) := fun W hW => cells4 (HX2.out.kept hW.out)
    have HBD : Hid (Below w2.heap.size w2 w2.drew) := (Below.refl _ _).drew
    have HOD : Hid (OwnR w2.drew B (.slice (some ⟨gs, 0, none⟩) ls.length cap) ls) := HO2.out
    have HGD : Hid (Ser2.Good w2.drew B gs ls) := ⟨HG2.out.own, HG2.out.off, HG2.out.apart⟩
    go_wp2_with fail
    go_region_held3 (fun w' => w'.cell? ⟨w.heap.size, 0, none⟩ = some (.string s.pod) ∧ w'.cell? ⟨w.heap.size, 1, none⟩ = some (.string s.met) ∧ w'.cell? ⟨w.heap.size, 2, none⟩ = some (.int .i64 s.val) ∧ w'.cell? ⟨w.heap.size, 3, none⟩ = some (.int .i64 s.tick))
      (with_reducible (first | exact HT.out _ HB4 | exact HT.out _ HB3 | exact HT.out _ HBD))
      (first
        | (go_at_call 76; refine (impl_copy ls gs cap B _ HOD.out HGD.out hm HPL.out).mono ?_; rintro e w3 ⟨g, ms, rfl, hms, ho3, hg3, hb3⟩; have HMS := Lib.hid hms; have HO3 := Lib.hid ho3; have HG3 := Lib.hid hg3; have HB3 : Hid (Below w2.heap.size w2 w3) := Lib.hid (HBD.out.trans hb3); have HS3 := Lib.hid hb3.size; clear hms ho3 hg3 hb3)
        | (go_at_call 77; refine (HPUT.out ms HMS.out g _ _ HBO.out HO3.out HG3.out HS3.out).mono ?_; rintro e w4 ⟨g4, c4, ns, cc, rfl, hp4, ho4, hg4, hb4⟩; have HP4 := Lib.hid hp4; have HO4 := Lib.hid ho4; have HG4 := Lib.hid hg4; have HB4 : Hid (Below w2.heap.size w2 w4) := Lib.hid (HB3.out.trans hb4); clear hp4 ho4 hg4 hb4))
    have HO5 := Lib.hid (OwnR.low HO4.out HB2.out.size)
    have HG5 : Hid (Ser2.Good w4 w.heap.size g4 ns) := ⟨fun l hl => Items.OwnP.low (HG4.out.own l hl) HB2.out.size, HG4.out.off, HG4.out.apart⟩
    have HB5 := Lib.hid (HB2.out.trans (HB4.out.mono HB2.out.size))
    go_wp2
    go_ret2
    exact putOut_of g4 c4 ns cc rfl HP4.out HO5.out HG5.out HB5.out
end Go.Proofs.Ytimpajhgplkpmaa.PutI
