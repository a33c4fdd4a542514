/- ParseGoal: the model's and the program's. -/
import Derived.Test.YtimpajhgplkpmabDoorGParseP
import Derived.Test.YtimpajhgplkpmabDoorParse
import Derived.Deep.Cut
namespace Go.Proofs.YtimpajhgplkpmabDoor.GParse
open Go.RowKit
open Go.Proofs.YtimpajhgplkpmabDoor.C1
open Go.Proofs.YtimpajhgplkpmabDoor.C2
open Go.Proofs.YtimpajhgplkpmabDoor.Milli
open Go.Proofs.YtimpajhgplkpmabDoor.MilliP
open Go.Proofs.YtimpajhgplkpmabDoor.Mt
open Go.Proofs.YtimpajhgplkpmabDoor.Mp
open Go.Proofs.YtimpajhgplkpmabDoor.Line
open Go.Proofs.YtimpajhgplkpmabDoor.Split
open Go.Proofs.YtimpajhgplkpmabDoor.Read
open Go.Proofs.YtimpajhgplkpmabDoor.Gl
open Go.Proofs.YtimpajhgplkpmabDoor.GLine
open Go.Proofs.YtimpajhgplkpmabDoor.GParseP
open Go.Proofs.YtimpajhgplkpmabDoor.ParseP (pm_back atoi_range)
open Go.Proofs.YtimpajhgplkpmabDoor.Parse (atoi_yes atoi_no atoi_some)
set_option linter.unusedVariables false

/-- A variable of type Goal in a block of its own. -/
structure GBox (w : World) (g : Nat) (s : Gl) : Prop where
  lt : g < w.heap.size
  c0 : w.cell? ⟨g, 0, none⟩ = some (.string s.met)
  c1 : w.cell? ⟨g, 1, none⟩ = some (.int .i64 s.tar)
  c2 : w.cell? ⟨g, 2, none⟩ = some (.int .i64 s.tol)
  f : ∀ j, w.frozen? ⟨g, j, none⟩ = false
theorem GBox.kept {w w' : World} {g : Nat} {s : Gl} (h : GBox w g s) (hb : Below w.heap.size w w') : GBox w' g s := by
  have hc : ∀ j, w'.cell? ⟨g, j, none⟩ = w.cell? ⟨g, j, none⟩ := fun j => hb.cell (p := ⟨g, j, none⟩) h.lt
  exact ⟨Nat.lt_of_lt_of_le h.lt hb.size, by rw [hc]; exact h.c0, by rw [hc]; exact h.c1, by rw [hc]; exact h.c2, fun j => by rw [hb.frozen (p := ⟨g, j, none⟩) h.lt]; exact h.f j⟩
def GOut (l : List UInt8) (w w' : World) (e : Ending) : Prop := ∃ (s : Gl) (b : Bool), e = .returned (.tuple #[glV s, .bool b]) ∧ GPicks l s b ∧ s.wf ∧ Below w.heap.size w w'
theorem gout_of {l : List UInt8} {w w' : World} {e : Ending} (s : Gl) (b : Bool) (h : e = .returned (.tuple #[glV s, .bool b])) (p : GPicks l s b) (hw : s.wf) (hb : Below w.heap.size w w') : GOut l w w' e := ⟨s, b, h, p, hw, hb⟩
theorem gbox_at (w : World) (s : Gl) : GBox (w.alloc (.cells #[.string s.met, .int .i64 s.tar, .int .i64 s.tol] 30)) w.heap.size s := by
  refine ⟨by simp, ?_, ?_, ?_, fun j => ?_⟩ <;> simp
theorem gbox2_new (w : World) : Below w.heap.size w ((w.alloc (.cells #[.string ⟨#[]⟩, .int .i64 0, .int .i64 0] 30)).alloc (.cells #[.string ⟨#[]⟩, .int .i64 0, .int .i64 0] 30)) ∧ GBox ((w.alloc (.cells #[.string ⟨#[]⟩, .int .i64 0, .int .i64 0] 30)).alloc (.cells #[.string ⟨#[]⟩, .int .i64 0, .int .i64 0] 30)) w.heap.size zG ∧ GBox ((w.alloc (.cells #[.string ⟨#[]⟩, .int .i64 0, .int .i64 0] 30)).alloc (.cells #[.string ⟨#[]⟩, .int .i64 0, .int .i64 0] 30)) (w.heap.size + 1) zG := by
  have h1 : Below w.heap.size w (w.alloc (.cells #[.string ⟨#[]⟩, .int .i64 0, .int .i64 0] 30)) := (Below.refl _ _).alloc (Nat.le_refl _) _
  have h2 : Below (w.alloc (.cells #[.string ⟨#[]⟩, .int .i64 0, .int .i64 0] 30)).heap.size (w.alloc (.cells #[.string ⟨#[]⟩, .int .i64 0, .int .i64 0] 30)) ((w.alloc (.cells #[.string ⟨#[]⟩, .int .i64 0, .int .i64 0] 30)).alloc (.cells #[.string ⟨#[]⟩, .int .i64 0, .int .i64 0] 30)) := (Below.refl _ _).alloc (Nat.le_refl _) _
  have hz : (w.alloc (.cells #[.string ⟨#[]⟩, .int .i64 0, .int .i64 0] 30)).heap.size = w.heap.size + 1 := by simp
  have h3 := gbox_at (w.alloc (.cells #[.string ⟨#[]⟩, .int .i64 0, .int .i64 0] 30)) zG
  rw [hz] at h3
  exact ⟨h1.trans (h2.mono h1.size), (gbox_at w zG).kept h2, h3⟩
theorem gbox_set {w : World} {g : Nat} {s0 : Gl} (s : Gl) (h : GBox w g s0) {B : Nat} (hB : B ≤ g) : GBox (((w.setCell ⟨g, 0, none⟩ (.string s.met)).setCell ⟨g, 1, none⟩ (.int .i64 s.tar)).setCell ⟨g, 2, none⟩ (.int .i64 s.tol)) g s ∧ Below B w (((w.setCell ⟨g, 0, none⟩ (.string s.met)).setCell ⟨g, 1, none⟩ (.int .i64 s.tar)).setCell ⟨g, 2, none⟩ (.int .i64 s.tol)) := by
  obtain ⟨h1, c0, c1, c2, f⟩ := h
  refine ⟨⟨by simpa [World.setCell] using h1, ?_, ?_, ?_, fun j => ?_⟩, (((Below.refl B w).setCell (p := ⟨g, 0, none⟩) hB _).setCell (p := ⟨g, 1, none⟩) hB _).setCell (p := ⟨g, 2, none⟩) hB _⟩
  · rw [World.cell?_setCell_other (h := by simp), World.cell?_setCell_other (h := by simp), World.cell?_setCell_same (h := c0)]
  · rw [World.cell?_setCell_other (h := by simp), World.cell?_setCell_same (h := by rw [World.cell?_setCell_other (h := by simp)]; exact c1)]
  · rw [World.cell?_setCell_same (h := by rw [World.cell?_setCell_other (h := by simp), World.cell?_setCell_other (h := by simp)]; exact c2)]
  · rw [World.frozen?_setCell, World.frozen?_setCell, World.frozen?_setCell]; exact f j
theorem gret_box {fn : Func} (hr : fn.results = #[.cell 2 30, .tmp 3]) {W : World} {g : Nat} {s : Gl} {b : Bool} {tmps : Array Value} (h : GBox W g s) (h2 : tmps.getD 2 undef = .pointer (some ⟨g, 0, none⟩)) (h3 : tmps.getD 3 undef = .bool b) :
    (results fn tmps).run Tryd.prog W = .ok (.tuple #[glV s, .bool b]) W := by
  obtain ⟨_, c0, c1, c2, _⟩ := h
  rw [results_cell_tmp hr, h2, h3]
  simp [go_sem, c0, c1, c2, glV]
theorem three_of {ps : List (List UInt8)} (h : ps.length = 3) : ∃ a b d, ps = [a, b, d] := by
  match ps, h with
  | [a, b, d], _ => exact ⟨a, b, d, rfl⟩
theorem three_read {w : World} {v : Value} {a b d : List UInt8} (h : IsT w v [a, b, d]) : ∃ g off cap, v = .slice (some ⟨g, off, none⟩) 3 cap ∧ g < w.heap.size ∧ w.cell? ⟨g, off, none⟩ = some (.string (mk a)) ∧ w.cell? ⟨g, off + 1, none⟩ = some (.string (mk b)) ∧ w.cell? ⟨g, off + 2, none⟩ = some (.string (mk d)) := by
  obtain ⟨ad, cap, rfl, hc⟩ := h
  obtain ⟨g, off, rfl, hg, c0⟩ := hc 0 (by simp)
  obtain ⟨g1, off1, e1, _, c1⟩ := hc 1 (by simp)
  obtain ⟨g2, off2, e2, _, c2⟩ := hc 2 (by simp)
  cases e1; cases e2
  exact ⟨g, off, cap, rfl, hg, c0, c1, c2⟩

set_option maxHeartbeats 3200000 in
set_option maxRecDepth 20000 in
theorem spec_pgoal (s : ByteArray) (hs : s.size ≤ 1048576) (w : World) :
    Calls Tryd.prog 13 #[.string s] w fun e w' => GOut s.data.toList w w' e := by
  have hl : s.data.toList.length = s.size := by simp
  obtain ⟨b0, x0, x1⟩ := gbox2_new w
  have B0 := Lib.hid b0
  have X0 := Lib.hid x0
  have X1 := Lib.hid x1
  clear b0 x0 x1
  by_cases hbig : 40 < s.size
  · have HN : Hid (GNever s.data.toList) := gnever_long (by omega)
    clear hl
    go_enter Tryd.func13, Tryd.ntmps13
    go_wp2
    refine bodyPost_ret (v := .tuple #[glV zG, .bool false]) (by simp [results, Tryd.results13, go_sem, glV, zG]) rfl ?_
    exact gout_of _ _ rfl (gpicks_no HN.out) zG_wf B0.out
  · have hle : s.size ≤ 40 := by omega
    obtain ⟨ps, hps⟩ : ∃ ps, parts 32 s.data.toList = ps := ⟨_, rfl⟩
    have HPS := Lib.hid hps
    clear hl hbig hps
    by_cases h4 : ps.length = 3
    · obtain ⟨a, b, d, rfl⟩ := three_of h4
      clear h4
      have HSZ : Hid (b.length ≤ 40 ∧ d.length ≤ 40 ∧ a.length ≤ 40) := by
        have := congrArg List.length (parts_join3 32 _ HPS.out)
        simp only [List.length_append, List.length_cons, Array.length_toList] at this
        have hz : s.data.size = s.size := rfl
        show _ ∧ _
        omega
      have HRD : Hid ((mk d).size ≤ 1048576) := by show _ ≤ _; rw [mk_size]; have := HSZ.out; omega
      have HMB := Lib.hid (mk_list b)
      have HMD := Lib.hid (mk_list d)
      go_enter Tryd.func13, Tryd.ntmps13
      go_wp2_with fail
      refine (spec_parts 32 32 rfl s hs _).mono ?_
      rintro e1 w1 ⟨v, rfl, ho, hb⟩
      rw [HPS.out] at ho
      obtain ⟨g, off, cap, rfl, hg, c0, c1, c2⟩ := three_read ho.reads
      have B1 := Lib.hid (B0.out.trans (hb.mono B0.out.size))
      have Y0 := Lib.hid (X0.out.kept hb)
      have Y1 := Lib.hid (X1.out.kept hb)
      have HG := Lib.hid hg
      have C0 := Lib.hid c0
      have C2 := Lib.hid c2
      clear ho hb hg c0 c2
      go_wp2_with fail
      refine (spec_parse (mk b) _).mono ?_
      rw [HMB.out]
      rintro e1 w2 ⟨rfl, hb⟩
      have B2 := Lib.hid (B1.out.trans (hb.mono B1.out.size))
      have V0 := Lib.hid (Y0.out.kept hb)
      have V1 := Lib.hid (Y1.out.kept hb)
      have HG2 := Lib.hid (Nat.lt_of_lt_of_le HG.out hb.size)
      have D0 := Lib.hid ((hb.cell (p := ⟨g, off, none⟩) HG.out).trans C0.out)
      have d2 := (hb.cell (p := ⟨g, off + 2, none⟩) HG.out).trans C2.out
      clear hb c1
      go_wp2_with fail
      refine (spec_read (mk d) HRD.out _).mono ?_
      rw [HMD.out]
      rintro e1 w3 ⟨x, bx, rfl, hrd, hb⟩
      have RD := Lib.hid hrd
      have B3 := Lib.hid (B2.out.trans (hb.mono B2.out.size))
      have U0 := Lib.hid (V0.out.kept hb)
      have U1 := Lib.hid (V1.out.kept hb)
      have e0 := (hb.cell (p := ⟨g, off, none⟩) HG2.out).trans D0.out
      clear hb d2 hrd
      go_upto_region 10 with fail
      have hA : Below w3.heap.size w3 (w3.alloc (.cells #[.string (mk a), .int .i64 (pmV b), .int .i64 x] 30)) := (Below.refl _ _).alloc (Nat.le_refl _) _
      have hX := gbox_at w3 ⟨mk a, pmV b, x⟩
      obtain ⟨G, hG⟩ : ∃ G, w3.heap.size = G := ⟨_, rfl⟩
      obtain ⟨W, hW⟩ : ∃ W, w3.alloc (.cells #[.string (mk a), .int .i64 (pmV b), .int .i64 x] 30) = W := ⟨_, rfl⟩
      have B4 := Lib.hid (B3.out.trans (hA.mono B3.out.size))
      have Z0 := Lib.hid (U0.out.kept hA)
      have Z1 := Lib.hid (U1.out.kept hA)
      simp only at hX
      rw [hG] at hX
      rw [hW] at B4 Z0 Z1 hX
      rw [hG, hW]
      have ZX := Lib.hid hX
      clear hA hX hG hW e0 U0 U1 V0 V1 Y0 Y1 X0 X1 B0 B1 B2 B3 C0 C2 D0 HG HG2
      obtain ⟨_, p0, p1, p2, _⟩ := Z1.out
      obtain ⟨_, r0, r1, r2, f⟩ := Z0.out
      have f0 := f 0
      have f1 := f 1
      have f2 := f 2
      clear f
      cases hpb : pmB b
      · have HN : Hid (GNever s.data.toList) := gnever_pm HPS.out hpb
        clear hpb
        go_wp2
        obtain ⟨k1, k2⟩ := gbox_set zG Z0.out (Nat.le_refl _)
        refine bodyPost_ret (gret_box rfl k1 rfl rfl) rfl ?_
        exact gout_of _ _ rfl (gpicks_no HN.out) zG_wf (B4.out.trans k2)
      · cases bx
        · have HN : Hid (GNever s.data.toList) := gnever_read HPS.out RD.out
          clear hpb
          go_wp2
          obtain ⟨k1, k2⟩ := gbox_set zG Z0.out (Nat.le_refl _)
          refine bodyPost_ret (gret_box rfl k1 rfl rfl) rfl ?_
          exact gout_of _ _ rfl (gpicks_no HN.out) zG_wf (B4.out.trans k2)
        · have hval : isVal (pmV b) = true := by
            have h1 : b ≠ [] ∧ milli (fin b) = b := by unfold pmB at hpb; simpa using hpb
            exact isVal_of (pm_back hpb) h1.1
          have hwf : (⟨mk a, pmV b, x⟩ : Gl).wf := by
            have h2 : -1000000000 ≤ pmV b ∧ pmV b ≤ 1000000000 := by unfold isVal at hval; simpa using hval
            have h3 := RD.out.lo
            have h4 := RD.out.hi
            have h5 := HSZ.out
            refine ⟨?_, ⟨by simp only; omega, by simp only; omega⟩, ⟨by simp only; omega, by simp only; omega⟩⟩
            show (mk a).size ≤ maxLen
            rw [mk_size]; unfold maxLen; omega
          have HWF := Lib.hid hwf
          obtain ⟨_, t0, t1, t2, _⟩ := ZX.out
          simp only at t0 t1 t2
          cases hok : okG ⟨mk a, pmV b, x⟩
          · have HN : Hid (GNever s.data.toList) := gnever_ok HPS.out RD.out hok
            have hc := fun w => spec_goalok ⟨mk a, pmV b, x⟩ HWF.out w
            rw [hok] at hc
            have HC := Lib.hid hc
            clear hc hok hpb hval hwf
            go_wp2_with fail
            refine (HC.out _).mono ?_
            rintro e1 w5 ⟨rfl, hb⟩
            have B5 := Lib.hid (B4.out.trans (hb.mono B4.out.size))
            have K0 := Lib.hid (Z0.out.kept hb)
            clear p0 p1 p2 r0 r1 r2 f0 f1 f2 t0 t1 t2
            obtain ⟨_, p0, p1, p2, _⟩ := Z1.out.kept hb
            obtain ⟨_, r0, r1, r2, f⟩ := Z0.out.kept hb
            have f0 := f 0
            have f1 := f 1
            have f2 := f 2
            clear hb f
            go_wp2
            obtain ⟨k1, k2⟩ := gbox_set zG K0.out (Nat.le_refl _)
            refine bodyPost_ret (gret_box rfl k1 rfl rfl) rfl ?_
            exact gout_of _ _ rfl (gpicks_no HN.out) zG_wf (B5.out.trans k2)
          · have HN : Hid (glineL ⟨mk a, pmV b, x⟩ = s.data.toList) := gline_of HPS.out hpb (RD.out.yes rfl)
            have HOK := Lib.hid hok
            have hc := fun w => spec_goalok ⟨mk a, pmV b, x⟩ HWF.out w
            rw [hok] at hc
            have HC := Lib.hid hc
            clear hc hok hpb hval hwf
            go_wp2_with fail
            refine (HC.out _).mono ?_
            rintro e1 w5 ⟨rfl, hb⟩
            have B5 := Lib.hid (B4.out.trans (hb.mono B4.out.size))
            have K0 := Lib.hid (Z0.out.kept hb)
            clear p0 p1 p2 r0 r1 r2 f0 f1 f2 t0 t1 t2
            obtain ⟨_, t0, t1, t2, _⟩ := ZX.out.kept hb
            obtain ⟨_, r0, r1, r2, f⟩ := Z0.out.kept hb
            have f0 := f 0
            have f1 := f 1
            have f2 := f 2
            clear hb f
            go_wp2
            obtain ⟨k1, k2⟩ := gbox_set ⟨mk a, pmV b, x⟩ K0.out (Nat.le_refl _)
            refine bodyPost_ret (gret_box rfl k1 rfl rfl) rfl ?_
            exact gout_of _ _ rfl (gpicks_yes HOK.out HN.out) HWF.out (B5.out.trans k2)
    · have HN : Hid (GNever s.data.toList) := gnever_three (by rw [HPS.out]; exact h4)
      have hd : ((ps.length : Int) != 3) = true := by simp; omega
      go_enter Tryd.func13, Tryd.ntmps13
      go_wp2_with fail
      refine (spec_parts 32 32 rfl s hs _).mono ?_
      rintro e1 w1 ⟨v, rfl, ho, hb⟩
      rw [HPS.out] at ho
      obtain ⟨ad, cap, rfl, _⟩ := ho.reads
      have B1 := Lib.hid (B0.out.trans (hb.mono B0.out.size))
      have Y0 := Lib.hid (X0.out.kept hb)
      obtain ⟨_, q0, q1, q2, _⟩ := X1.out.kept hb
      obtain ⟨_, r0, r1, r2, f⟩ := X0.out.kept hb
      have f0 := f 0
      have f1 := f 1
      have f2 := f 2
      clear ho hb f h4
      go_wp2
      obtain ⟨k1, k2⟩ := gbox_set zG Y0.out (Nat.le_refl _)
      refine bodyPost_ret (gret_box rfl k1 rfl rfl) rfl ?_
      exact gout_of _ _ rfl (gpicks_no HN.out) zG_wf (B1.out.trans k2)

set_option maxHeartbeats 3200000 in
set_option maxRecDepth 20000 in
theorem impl_pgoal (s : ByteArray) (hs : s.size ≤ 1048576) (w : World) (he : Env2 w) :
    Calls Tryd.prog 14 #[.string s] w fun e w' => GOut s.data.toList w w' e := by
  have B0 : Hid (Below w.heap.size w (w.alloc (.cells #[.string ⟨#[]⟩, .int .i64 0, .int .i64 0] 30))) := (Below.refl _ _).alloc (Nat.le_refl _) _
  have X0 : Hid (GBox (w.alloc (.cells #[.string ⟨#[]⟩, .int .i64 0, .int .i64 0] 30)) w.heap.size zG) := gbox_at w zG
  have HE := Lib.hid he
  clear he
  obtain ⟨ps, hps⟩ : ∃ ps, parts 32 s.data.toList = ps := ⟨_, rfl⟩
  have HPS := Lib.hid hps
  clear hps
  by_cases h4 : ps.length = 3
  · obtain ⟨a, b, d, rfl⟩ := three_of h4
    clear h4
    have HSZ : Hid (b.length ≤ 1048576 ∧ d.length ≤ 1048576 ∧ a.length ≤ 1048576) := by
      have := congrArg List.length (parts_join3 32 _ HPS.out)
      simp only [List.length_append, List.length_cons, Array.length_toList] at this
      have hz : s.data.size = s.size := rfl
      show _ ∧ _
      omega
    have HSB : Hid ((mk b).size ≤ 1048576) := by show _ ≤ _; rw [mk_size]; exact HSZ.out.1
    have HSD : Hid ((mk d).size ≤ 1048576) := by show _ ≤ _; rw [mk_size]; exact HSZ.out.2.1
    have HMB := Lib.hid (mk_list b)
    go_enter Tryd.func14, Tryd.ntmps14
    go_wp2_with fail
    refine (cut_at 32 (by decide) 32 rfl s hs _).mono ?_
    rintro e1 w1 ⟨v, rfl, ho, hb⟩
    rw [HPS.out] at ho
    obtain ⟨g, off, cap, rfl, hg, c0, c1, c2⟩ := three_read ho.reads
    have B1 := Lib.hid (B0.out.trans (hb.mono B0.out.size))
    have Y0 := Lib.hid (X0.out.kept hb)
    have HG := Lib.hid hg
    have C0 := Lib.hid c0
    have C2 := Lib.hid c2
    clear ho hb hg c0 c2
    cases hpb : pmB b
    · have HN : Hid (GNever s.data.toList) := gnever_pm HPS.out hpb
      have HPB := Lib.hid hpb
      clear hpb
      go_wp2_with fail
      refine (impl_parse (mk b) HSB.out _ (HE.out.kept B1.out)).mono ?_
      rw [HMB.out, HPB.out]
      rintro e1 w2 ⟨rfl, hb⟩
      have B2 := Lib.hid (B1.out.trans (hb.mono B1.out.size))
      have V0 := Lib.hid (Y0.out.kept hb)
      have d2 := (hb.cell (p := ⟨g, off + 2, none⟩) HG.out).trans C2.out
      clear hb c1
      go_wp2_with fail
      refine (atoi_some d HSD.out _ (HE.out.kept B2.out)).mono ?_
      rintro e1 w3 ⟨y, ev, rfl, hb⟩
      have B3 := Lib.hid (B2.out.trans (hb.mono B2.out.size))
      have U0 := Lib.hid (V0.out.kept hb)
      obtain ⟨_, r0, r1, r2, f⟩ := U0.out
      have f0 := f 0
      have f1 := f 1
      have f2 := f 2
      clear hb d2 f
      go_wp2
      obtain ⟨k1, k2⟩ := gbox_set zG U0.out (Nat.le_refl _)
      refine bodyPost_ret (gret_box rfl k1 rfl rfl) rfl ?_
      exact gout_of _ _ rfl (gpicks_no HN.out) zG_wf (B3.out.trans k2)
    · have HPB := Lib.hid hpb
      have HVAL : Hid (isVal (pmV b) = true) := by
        have h1 : b ≠ [] ∧ milli (fin b) = b := by unfold pmB at hpb; simpa using hpb
        exact isVal_of (pm_back hpb) h1.1
      clear hpb
      go_wp2_with fail
      refine (impl_parse (mk b) HSB.out _ (HE.out.kept B1.out)).mono ?_
      rw [HMB.out, HPB.out]
      rintro e1 w2 ⟨rfl, hb⟩
      have B2 := Lib.hid (B1.out.trans (hb.mono B1.out.size))
      have V0 := Lib.hid (Y0.out.kept hb)
      have HG2 := Lib.hid (Nat.lt_of_lt_of_le HG.out hb.size)
      have D0 := Lib.hid ((hb.cell (p := ⟨g, off, none⟩) HG.out).trans C0.out)
      have d2 := (hb.cell (p := ⟨g, off + 2, none⟩) HG.out).trans C2.out
      clear hb c1
      by_cases hat : ∃ y, Lib.atoiAll d = .ok y
      · obtain ⟨y, hat⟩ := hat
        have HAT := Lib.hid hat
        have HWF : Hid ((⟨mk a, pmV b, y⟩ : Gl).wf) := by
          have h2 : -1000000000 ≤ pmV b ∧ pmV b ≤ 1000000000 := by have := HVAL.out; unfold isVal at this; simpa using this
          have h3 := atoi_range hat
          have h5 := HSZ.out
          refine ⟨?_, ⟨by simp only; omega, by simp only; omega⟩, h3⟩
          show (mk a).size ≤ maxLen
          rw [mk_size]; unfold maxLen; omega
        obtain ⟨L, hL⟩ : ∃ L, glineV ⟨mk a, pmV b, y⟩ = L := ⟨_, rfl⟩
        have HLV := Lib.hid hL
        clear hat hL
        go_wp2_with fail
        refine (atoi_yes d HSD.out y HAT.out _).mono ?_
        rintro e1 w3 ⟨rfl, hb⟩
        have B3 := Lib.hid (B2.out.trans (hb.mono B2.out.size))
        have U0 := Lib.hid (V0.out.kept hb)
        have e0 := (hb.cell (p := ⟨g, off, none⟩) HG2.out).trans D0.out
        have hA : Below w3.heap.size w3 (w3.alloc (.cells #[.string (mk a), .int .i64 (pmV b), .int .i64 y] 30)) := (Below.refl _ _).alloc (Nat.le_refl _) _
        have ZX := Lib.hid (gbox_at w3 ⟨mk a, pmV b, y⟩)
        have B4 := Lib.hid (B3.out.trans (hA.mono B3.out.size))
        have Z0 := Lib.hid (U0.out.kept hA)
        clear hb d2 hA
        have hcl := fun W h => impl_gline ⟨mk a, pmV b, y⟩ HWF.out W h
        rw [HLV.out] at hcl
        unfold glV at hcl
        simp only at hcl
        have HCL := Lib.hid hcl
        clear hcl
        go_wp2_with fail
        refine (HCL.out _ (HE.out.kept B4.out).env).mono ?_
        rintro e1 w5 ⟨rfl, hb⟩
        have B5 := Lib.hid (B4.out.trans (hb.mono B4.out.size))
        have K0 := Lib.hid (Z0.out.kept hb)
        obtain ⟨_, t0, t1, t2, _⟩ := ZX.out.kept hb
        obtain ⟨_, r0, r1, r2, f⟩ := Z0.out.kept hb
        have f0 := f 0
        have f1 := f 1
        have f2 := f 2
        simp only at t0 t1 t2
        clear hb f e0
        by_cases hln : L = s.data.toList
        · have HP : Hid (GPicks s.data.toList ⟨mk a, pmV b, y⟩ true) := gpicks_line HPS.out (HLV.out.trans hln)
          have hcmp : ((mk L).toList == s.toList) = true := by rw [beq_iff_eq, ByteArray.toList_eq, ByteArray.toList_eq, mk_list]; exact hln
          have hcmp2 : ((mk L).toList != s.toList) = false := by simp [bne, hcmp]
          clear hln
          go_wp2
          obtain ⟨k1, k2⟩ := gbox_set ⟨mk a, pmV b, y⟩ K0.out (Nat.le_refl _)
          refine bodyPost_ret (gret_box rfl k1 rfl rfl) rfl ?_
          exact gout_of _ _ rfl HP.out HWF.out (B5.out.trans k2)
        · have HN : Hid (GNever s.data.toList) := gnever_line HPS.out HAT.out (by rw [HLV.out]; exact hln)
          have hcmp : ((mk L).toList == s.toList) = false := by rw [beq_eq_false_iff_ne, ByteArray.toList_eq, ByteArray.toList_eq, mk_list]; exact hln
          have hcmp2 : ((mk L).toList != s.toList) = true := by simp [bne, hcmp]
          clear hln
          go_wp2
          obtain ⟨k1, k2⟩ := gbox_set zG K0.out (Nat.le_refl _)
          refine bodyPost_ret (gret_box rfl k1 rfl rfl) rfl ?_
          exact gout_of _ _ rfl (gpicks_no HN.out) zG_wf (B5.out.trans k2)
      · have HNA : Hid (∀ y, Lib.atoiAll d ≠ .ok y) := fun y hy => hat ⟨y, hy⟩
        have HN : Hid (GNever s.data.toList) := gnever_atoi HPS.out HNA.out
        clear hat
        go_wp2_with fail
        refine (atoi_no d HSD.out HNA.out _ (HE.out.kept B2.out)).mono ?_
        rintro e1 w3 ⟨y, N, rfl, hb⟩
        have B3 := Lib.hid (B2.out.trans (hb.mono B2.out.size))
        have U0 := Lib.hid (V0.out.kept hb)
        obtain ⟨_, r0, r1, r2, f⟩ := U0.out
        have f0 := f 0
        have f1 := f 1
        have f2 := f 2
        clear hb d2 f
        go_wp2
        obtain ⟨k1, k2⟩ := gbox_set zG U0.out (Nat.le_refl _)
        refine bodyPost_ret (gret_box rfl k1 rfl rfl) rfl ?_
        exact gout_of _ _ rfl (gpicks_no HN.out) zG_wf (B3.out.trans k2)
  · have HN : Hid (GNever s.data.toList) := gnever_three (by rw [HPS.out]; exact h4)
    have hd : ((ps.length : Int) != 3) = true := by simp; omega
    go_enter Tryd.func14, Tryd.ntmps14
    go_wp2_with fail
    refine (cut_at 32 (by decide) 32 rfl s hs _).mono ?_
    rintro e1 w1 ⟨v, rfl, ho, hb⟩
    rw [HPS.out] at ho
    obtain ⟨ad, cap, rfl, _⟩ := ho.reads
    have B1 := Lib.hid (B0.out.trans (hb.mono B0.out.size))
    have Y0 := Lib.hid (X0.out.kept hb)
    obtain ⟨_, r0, r1, r2, f⟩ := X0.out.kept hb
    have f0 := f 0
    have f1 := f 1
    have f2 := f 2
    clear ho hb f h4
    go_wp2
    obtain ⟨k1, k2⟩ := gbox_set zG Y0.out (Nat.le_refl _)
    refine bodyPost_ret (gret_box rfl k1 rfl rfl) rfl ?_
    exact gout_of _ _ rfl (gpicks_no HN.out) zG_wf (B1.out.trans k2)
end Go.Proofs.YtimpajhgplkpmabDoor.GParse
