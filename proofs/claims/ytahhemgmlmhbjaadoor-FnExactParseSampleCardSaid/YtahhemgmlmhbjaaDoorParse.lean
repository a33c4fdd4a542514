/- ParseSample of chapter 2: the model's and the program's. -/
import Derived.Test.YtahhemgmlmhbjaaDoorParseP
import Derived.Test.YtahhemgmlmhbjaaDoorMp
import Derived.Laws.ResultCell
import Derived.Lib.AtoiErrMem
namespace Go.Proofs.YtahhemgmlmhbjaaDoor.Parse
open Go.RowKit
open Go.Proofs.YtahhemgmlmhbjaaDoor.C1
open Go.Proofs.YtahhemgmlmhbjaaDoor.C2
open Go.Proofs.YtahhemgmlmhbjaaDoor.Smps
open Go.Proofs.YtahhemgmlmhbjaaDoor.Milli
open Go.Proofs.YtahhemgmlmhbjaaDoor.MilliP
open Go.Proofs.YtahhemgmlmhbjaaDoor.Mt
open Go.Proofs.YtahhemgmlmhbjaaDoor.Mp
open Go.Proofs.YtahhemgmlmhbjaaDoor.Line
open Go.Proofs.YtahhemgmlmhbjaaDoor.Split
open Go.Proofs.YtahhemgmlmhbjaaDoor.Read
open Go.Proofs.YtahhemgmlmhbjaaDoor.ParseP
set_option linter.unusedVariables false

def zS : Smp := ⟨⟨#[]⟩, ⟨#[]⟩, 0, 0⟩
/-- A variable of type Sample in a block of its own. -/
structure Box (w : World) (g : Nat) (s : Smp) : Prop where
  lt : g < w.heap.size
  c0 : w.cell? ⟨g, 0, none⟩ = some (.string s.pod)
  c1 : w.cell? ⟨g, 1, none⟩ = some (.string s.met)
  c2 : w.cell? ⟨g, 2, none⟩ = some (.int .i64 s.val)
  c3 : w.cell? ⟨g, 3, none⟩ = some (.int .i64 s.tick)
  f : ∀ j, w.frozen? ⟨g, j, none⟩ = false
theorem Box.kept {w w' : World} {g : Nat} {s : Smp} (h : Box w g s) (hb : Below w.heap.size w w') : Box w' g s := by
  have hc : ∀ j, w'.cell? ⟨g, j, none⟩ = w.cell? ⟨g, j, none⟩ := fun j => hb.cell (p := ⟨g, j, none⟩) h.lt
  exact ⟨Nat.lt_of_lt_of_le h.lt hb.size, by rw [hc]; exact h.c0, by rw [hc]; exact h.c1, by rw [hc]; exact h.c2, by rw [hc]; exact h.c3, fun j => by rw [hb.frozen (p := ⟨g, j, none⟩) h.lt]; exact h.f j⟩
def Out (l : List UInt8) (w w' : World) (e : Ending) : Prop := ∃ (s : Smp) (b : Bool), e = .returned (.tuple #[smpV s, .bool b]) ∧ Picks l s b ∧ s.wf ∧ Below w.heap.size w w'
theorem out_of {l : List UInt8} {w w' : World} {e : Ending} (s : Smp) (b : Bool) (h : e = .returned (.tuple #[smpV s, .bool b])) (p : Picks l s b) (hw : s.wf) (hb : Below w.heap.size w w') : Out l w w' e := ⟨s, b, h, p, hw, hb⟩
theorem zS_wf : zS.wf := ⟨by unfold maxLen; decide, by unfold maxLen; decide, by decide, by decide⟩
theorem box_new (w : World) : Box (w.alloc (.cells #[.string ⟨#[]⟩, .string ⟨#[]⟩, .int .i64 0, .int .i64 0] 26)) w.heap.size zS := by
  refine ⟨by simp, ?_, ?_, ?_, ?_, fun j => ?_⟩ <;> simp [zS]
theorem box2_new (w : World) : Below w.heap.size w ((w.alloc (.cells #[.string ⟨#[]⟩, .string ⟨#[]⟩, .int .i64 0, .int .i64 0] 26)).alloc (.cells #[.string ⟨#[]⟩, .string ⟨#[]⟩, .int .i64 0, .int .i64 0] 26)) ∧ Box ((w.alloc (.cells #[.string ⟨#[]⟩, .string ⟨#[]⟩, .int .i64 0, .int .i64 0] 26)).alloc (.cells #[.string ⟨#[]⟩, .string ⟨#[]⟩, .int .i64 0, .int .i64 0] 26)) w.heap.size zS ∧ Box ((w.alloc (.cells #[.string ⟨#[]⟩, .string ⟨#[]⟩, .int .i64 0, .int .i64 0] 26)).alloc (.cells #[.string ⟨#[]⟩, .string ⟨#[]⟩, .int .i64 0, .int .i64 0] 26)) (w.heap.size + 1) zS := by
  have h1 : Below w.heap.size w (w.alloc (.cells #[.string ⟨#[]⟩, .string ⟨#[]⟩, .int .i64 0, .int .i64 0] 26)) := (Below.refl _ _).alloc (Nat.le_refl _) _
  have h2 : Below (w.alloc (.cells #[.string ⟨#[]⟩, .string ⟨#[]⟩, .int .i64 0, .int .i64 0] 26)).heap.size (w.alloc (.cells #[.string ⟨#[]⟩, .string ⟨#[]⟩, .int .i64 0, .int .i64 0] 26)) ((w.alloc (.cells #[.string ⟨#[]⟩, .string ⟨#[]⟩, .int .i64 0, .int .i64 0] 26)).alloc (.cells #[.string ⟨#[]⟩, .string ⟨#[]⟩, .int .i64 0, .int .i64 0] 26)) := (Below.refl _ _).alloc (Nat.le_refl _) _
  have hz : (w.alloc (.cells #[.string ⟨#[]⟩, .string ⟨#[]⟩, .int .i64 0, .int .i64 0] 26)).heap.size = w.heap.size + 1 := by simp
  have h3 := box_new (w.alloc (.cells #[.string ⟨#[]⟩, .string ⟨#[]⟩, .int .i64 0, .int .i64 0] 26))
  rw [hz] at h3
  exact ⟨h1.trans (h2.mono h1.size), (box_new w).kept h2, h3⟩
theorem box_set {w : World} {g : Nat} {s0 : Smp} (s : Smp) (h : Box w g s0) {B : Nat} (hB : B ≤ g) : Box ((((w.setCell ⟨g, 0, none⟩ (.string s.pod)).setCell ⟨g, 1, none⟩ (.string s.met)).setCell ⟨g, 2, none⟩ (.int .i64 s.val)).setCell ⟨g, 3, none⟩ (.int .i64 s.tick)) g s ∧ Below B w ((((w.setCell ⟨g, 0, none⟩ (.string s.pod)).setCell ⟨g, 1, none⟩ (.string s.met)).setCell ⟨g, 2, none⟩ (.int .i64 s.val)).setCell ⟨g, 3, none⟩ (.int .i64 s.tick)) := by
  obtain ⟨h1, c0, c1, c2, c3, f⟩ := h
  refine ⟨⟨by simpa [World.setCell] using h1, ?_, ?_, ?_, ?_, fun j => ?_⟩, ((((Below.refl B w).setCell (p := ⟨g, 0, none⟩) hB _).setCell (p := ⟨g, 1, none⟩) hB _).setCell (p := ⟨g, 2, none⟩) hB _).setCell (p := ⟨g, 3, none⟩) hB _⟩
  · rw [World.cell?_setCell_other (h := by simp), World.cell?_setCell_other (h := by simp), World.cell?_setCell_other (h := by simp), World.cell?_setCell_same (h := c0)]
  · rw [World.cell?_setCell_other (h := by simp), World.cell?_setCell_other (h := by simp), World.cell?_setCell_same (h := by rw [World.cell?_setCell_other (h := by simp)]; exact c1)]
  · rw [World.cell?_setCell_other (h := by simp), World.cell?_setCell_same (h := by rw [World.cell?_setCell_other (h := by simp), World.cell?_setCell_other (h := by simp)]; exact c2)]
  · rw [World.cell?_setCell_same (h := by rw [World.cell?_setCell_other (h := by simp), World.cell?_setCell_other (h := by simp), World.cell?_setCell_other (h := by simp)]; exact c3)]
  · rw [World.frozen?_setCell, World.frozen?_setCell, World.frozen?_setCell, World.frozen?_setCell]; exact f j
theorem ret_box {fn : Func} (hr : fn.results = #[.cell 2 26, .tmp 3]) {W : World} {g : Nat} {s : Smp} {b : Bool} {tmps : Array Value} (h : Box W g s) (h2 : tmps.getD 2 undef = .pointer (some ⟨g, 0, none⟩)) (h3 : tmps.getD 3 undef = .bool b) :
    (results fn tmps).run Tryd.prog W = .ok (.tuple #[smpV s, .bool b]) W := by
  obtain ⟨_, c0, c1, c2, c3, _⟩ := h
  rw [results_cell_tmp hr, h2, h3]
  simp [go_sem, c0, c1, c2, c3, smpV]
theorem four_of {ps : List (List UInt8)} (h : ps.length = 4) : ∃ a b d e, ps = [a, b, d, e] := by
  match ps, h with
  | [a, b, d, e], _ => exact ⟨a, b, d, e, rfl⟩
theorem four_read {w : World} {v : Value} {a b d e : List UInt8} (h : IsT w v [a, b, d, e]) : ∃ g off cap, v = .slice (some ⟨g, off, none⟩) 4 cap ∧ g < w.heap.size ∧ w.cell? ⟨g, off, none⟩ = some (.string (mk a)) ∧ w.cell? ⟨g, off + 1, none⟩ = some (.string (mk b)) ∧ w.cell? ⟨g, off + 2, none⟩ = some (.string (mk d)) ∧ w.cell? ⟨g, off + 3, none⟩ = some (.string (mk e)) := by
  obtain ⟨ad, cap, rfl, hc⟩ := h
  obtain ⟨g, off, rfl, hg, c0⟩ := hc 0 (by simp)
  obtain ⟨g1, off1, e1, _, c1⟩ := hc 1 (by simp)
  obtain ⟨g2, off2, e2, _, c2⟩ := hc 2 (by simp)
  obtain ⟨g3, off3, e3, _, c3⟩ := hc 3 (by simp)
  cases e1; cases e2; cases e3
  exact ⟨g, off, cap, rfl, hg, c0, c1, c2, c3⟩

set_option maxHeartbeats 3200000 in
set_option maxRecDepth 20000 in
theorem spec_sample (s : ByteArray) (hs : s.size ≤ 1048576) (w : World) :
    Calls Tryd.prog 10 #[.string s] w fun e w' => Out s.data.toList w w' e := by
  have hl : s.data.toList.length = s.size := by simp
  obtain ⟨b0, x0, x1⟩ := box2_new w
  have B0 := Lib.hid b0
  have X0 := Lib.hid x0
  have X1 := Lib.hid x1
  clear b0 x0 x1
  by_cases hbig : 60 < s.size
  · have HN : Hid (Never s.data.toList) := never_long (by omega)
    clear hl
    go_enter Tryd.func10, Tryd.ntmps10
    go_wp2
    refine bodyPost_ret (v := .tuple #[smpV zS, .bool false]) (by simp [results, Tryd.results10, go_sem, smpV, zS]) rfl ?_
    exact out_of _ _ rfl (picks_no HN.out) zS_wf B0.out
  · have hle : s.size ≤ 60 := by omega
    obtain ⟨ps, hps⟩ : ∃ ps, parts 32 s.data.toList = ps := ⟨_, rfl⟩
    have HPS := Lib.hid hps
    clear hl hbig hps
    by_cases h4 : ps.length = 4
    · obtain ⟨a, b, d, e, rfl⟩ := four_of h4
      clear h4
      have HSZ : Hid (d.length ≤ 60 ∧ e.length ≤ 60 ∧ a.length ≤ 60 ∧ b.length ≤ 60) := by
        have := congrArg List.length (parts_join 32 _ HPS.out)
        simp only [List.length_append, List.length_cons, Array.length_toList] at this
        have hz : s.data.size = s.size := rfl
        show _ ∧ _
        omega
      have HRD : Hid ((mk e).size ≤ 1048576) := by show _ ≤ _; rw [mk_size]; have := HSZ.out; omega
      have hmd := mk_list d
      have HMD := Lib.hid hmd
      have HME := Lib.hid (mk_list e)
      clear hmd
      go_enter Tryd.func10, Tryd.ntmps10
      go_wp2_with (go_at_call 24; refine (spec_parts 32 32 rfl s hs _).mono ?_; rintro e1 w1 ⟨v, rfl, ho, hb⟩; rw [HPS.out] at ho; obtain ⟨g, off, cap, rfl, hg, c0, c1, c2, c3⟩ := four_read ho.reads; have B1 := Lib.hid (B0.out.trans (hb.mono B0.out.size)); have Y0 := Lib.hid (X0.out.kept hb); have Y1 := Lib.hid (X1.out.kept hb); have HG := Lib.hid hg; have C0 := Lib.hid c0; have C1 := Lib.hid c1; have C3 := Lib.hid c3; clear ho hb hg c0 c1 c3)
      go_wp2_with (go_at_call 25; refine (spec_parse (mk d) _).mono ?_; rw [HMD.out]; rintro e1 w2 ⟨rfl, hb⟩; have B2 := Lib.hid (B1.out.trans (hb.mono B1.out.size)); have V0 := Lib.hid (Y0.out.kept hb); have V1 := Lib.hid (Y1.out.kept hb); have HG2 := Lib.hid (Nat.lt_of_lt_of_le HG.out hb.size); have D0 := Lib.hid ((hb.cell (p := ⟨g, off, none⟩) HG.out).trans C0.out); have D1 := Lib.hid ((hb.cell (p := ⟨g, off + 1, none⟩) HG.out).trans C1.out); have d3 := (hb.cell (p := ⟨g, off + 3, none⟩) HG.out).trans C3.out; clear hb c2)
      go_wp2_with (go_at_call 26; refine (spec_read (mk e) HRD.out _).mono ?_; rw [HME.out]; rintro e1 w3 ⟨x, bx, rfl, hrd, hb⟩; have RD := Lib.hid hrd; have B3 := Lib.hid (B2.out.trans (hb.mono B2.out.size)); have U0 := Lib.hid (V0.out.kept hb); have U1 := Lib.hid (V1.out.kept hb); have E0 := Lib.hid ((hb.cell (p := ⟨g, off, none⟩) HG2.out).trans D0.out); have E1 := Lib.hid ((hb.cell (p := ⟨g, off + 1, none⟩) HG2.out).trans D1.out); have HG3 := Lib.hid (Nat.lt_of_lt_of_le HG2.out hb.size); clear hb d3 hrd)
      have e0 := E0.out
      have e1 := E1.out
      have mixed : Tryd.prog.follows .mixedOrders = true := by kernel_rfl
      have ha : Below w3.heap.size w3 (w3.alloc (.cells #[.string ⟨#[]⟩, .string ⟨#[]⟩, .int .i64 0, .int .i64 0] 26)) := (Below.refl _ _).alloc (Nat.le_refl _) _
      have a0 := (ha.cell (p := ⟨g, off, none⟩) HG3.out).trans e0
      have a1 := (ha.cell (p := ⟨g, off + 1, none⟩) HG3.out).trans e1
      clear ha
      go_region
      have hA : Below w3.heap.size w3 ((w3.alloc (.cells #[.string (mk a), .string (mk b), .int .i64 (pmV d), .int .i64 x] 26)).drew) := ((Below.refl _ _).alloc (Nat.le_refl _) _).drew
      have hX : Box ((w3.alloc (.cells #[.string (mk a), .string (mk b), .int .i64 (pmV d), .int .i64 x] 26)).drew) w3.heap.size ⟨mk a, mk b, pmV d, x⟩ := by
        refine ⟨by simp, ?_, ?_, ?_, ?_, fun j => ?_⟩ <;> simp
      obtain ⟨G, hG⟩ : ∃ G, w3.heap.size = G := ⟨_, rfl⟩
      obtain ⟨W, hW⟩ : ∃ W, (w3.alloc (.cells #[.string (mk a), .string (mk b), .int .i64 (pmV d), .int .i64 x] 26)).drew = W := ⟨_, rfl⟩
      have B4 := Lib.hid (B3.out.trans (hA.mono B3.out.size))
      have Z0 := Lib.hid (U0.out.kept hA)
      have Z1 := Lib.hid (U1.out.kept hA)
      rw [hG] at hX
      rw [hW] at B4 Z0 Z1 hX
      rw [hG, hW]
      have ZX := Lib.hid hX
      have HGB : Hid (w.heap.size ≤ G) := by show _ ≤ _; rw [← hG]; exact B3.out.size
      clear hA hX hG hW e0 e1 a0 a1 E0 E1 U0 U1 V0 V1 Y0 Y1 X0 X1 B0 B1 B2 B3 C0 C1 C3 D0 D1 HG HG2 HG3
      obtain ⟨_, p0, p1, p2, p3, _⟩ := Z1.out
      obtain ⟨_, r0, r1, r2, r3, f⟩ := Z0.out
      have f0 := f 0
      have f1 := f 1
      have f2 := f 2
      have f3 := f 3
      clear f
      cases hpb : pmB d
      · have HN : Hid (Never s.data.toList) := never_pm HPS.out hpb
        clear hpb
        go_wp2
        obtain ⟨k1, k2⟩ := box_set zS Z0.out (Nat.le_refl _)
        refine bodyPost_ret (ret_box rfl k1 rfl rfl) rfl ?_
        exact out_of _ _ rfl (picks_no HN.out) zS_wf (B4.out.trans k2)
      · cases bx
        · have HN : Hid (Never s.data.toList) := never_read HPS.out RD.out
          clear hpb
          go_wp2
          obtain ⟨k1, k2⟩ := box_set zS Z0.out (Nat.le_refl _)
          refine bodyPost_ret (ret_box rfl k1 rfl rfl) rfl ?_
          exact out_of _ _ rfl (picks_no HN.out) zS_wf (B4.out.trans k2)
        · have hval : isVal (pmV d) = true := by
            have h1 : d ≠ [] ∧ milli (fin d) = d := by unfold pmB at hpb; simpa using hpb
            exact isVal_of (pm_back hpb) h1.1
          have hwf : (⟨mk a, mk b, pmV d, x⟩ : Smp).wf := by
            have h2 : -1000000000 ≤ pmV d ∧ pmV d ≤ 1000000000 := by unfold isVal at hval; simpa using hval
            have h3 := RD.out.lo
            have h4 := RD.out.hi
            have h5 := HSZ.out
            refine ⟨?_, ?_, ⟨by simp only; omega, by simp only; omega⟩, ⟨by simp only; omega, by simp only; omega⟩⟩
            · show (mk a).size ≤ maxLen
              rw [mk_size]; unfold maxLen; omega
            · show (mk b).size ≤ maxLen
              rw [mk_size]; unfold maxLen; omega
          have HWF := Lib.hid hwf
          have HPB := Lib.hid hpb
          obtain ⟨_, t0, t1, t2, t3, _⟩ := ZX.out
          simp only at t0 t1 t2 t3
          cases hok : okV ⟨mk a, mk b, pmV d, x⟩
          · have HN : Hid (Never s.data.toList) := never_ok HPS.out RD.out hok
            have hc := fun w => spec_ok ⟨mk a, mk b, pmV d, x⟩ HWF.out w
            rw [hok] at hc
            have HC := Lib.hid hc
            clear hc hok hpb hval hwf
            go_wp2_with (go_at_call 18; refine (HC.out _).mono ?_; rintro e1 w5 ⟨rfl, hb⟩; have B5 := Lib.hid (B4.out.trans (hb.mono B4.out.size)); have K0 := Lib.hid (Z0.out.kept hb); clear p0 p1 p2 p3 r0 r1 r2 r3 f0 f1 f2 f3 t0 t1 t2 t3; obtain ⟨_, p0, p1, p2, p3, _⟩ := Z1.out.kept hb; obtain ⟨_, r0, r1, r2, r3, f⟩ := Z0.out.kept hb; have f0 := f 0; have f1 := f 1; have f2 := f 2; have f3 := f 3; clear hb f)
            obtain ⟨k1, k2⟩ := box_set zS K0.out (Nat.le_refl _)
            refine bodyPost_ret (ret_box rfl k1 rfl rfl) rfl ?_
            exact out_of _ _ rfl (picks_no HN.out) zS_wf (B5.out.trans k2)
          · have HN : Hid (lineL ⟨mk a, mk b, pmV d, x⟩ = s.data.toList) := line_of HPS.out hpb (RD.out.yes rfl)
            have HOK := Lib.hid hok
            have hc := fun w => spec_ok ⟨mk a, mk b, pmV d, x⟩ HWF.out w
            rw [hok] at hc
            have HC := Lib.hid hc
            clear hc hok hpb hval hwf
            go_wp2_with (go_at_call 18; refine (HC.out _).mono ?_; rintro e1 w5 ⟨rfl, hb⟩; have B5 := Lib.hid (B4.out.trans (hb.mono B4.out.size)); have K0 := Lib.hid (Z0.out.kept hb); clear p0 p1 p2 p3 r0 r1 r2 r3 f0 f1 f2 f3 t0 t1 t2 t3; obtain ⟨_, t0, t1, t2, t3, _⟩ := ZX.out.kept hb; obtain ⟨_, r0, r1, r2, r3, f⟩ := Z0.out.kept hb; have f0 := f 0; have f1 := f 1; have f2 := f 2; have f3 := f 3; clear hb f)
            obtain ⟨k1, k2⟩ := box_set ⟨mk a, mk b, pmV d, x⟩ K0.out (Nat.le_refl _)
            refine bodyPost_ret (ret_box rfl k1 rfl rfl) rfl ?_
            exact out_of _ _ rfl (picks_yes HOK.out HN.out) HWF.out (B5.out.trans k2)
    · have HN : Hid (Never s.data.toList) := never_four (by rw [HPS.out]; exact h4)
      have hd : ((ps.length : Int) == 4) = false := by rw [beq_eq_false_iff_ne]; omega
      have hd2 : ¬ (ps.length : Int) = 4 := by omega
      go_enter Tryd.func10, Tryd.ntmps10
      go_wp2_with (go_at_call 24; refine (spec_parts 32 32 rfl s hs _).mono ?_; rintro e1 w1 ⟨v, rfl, ho, hb⟩; rw [HPS.out] at ho; obtain ⟨ad, cap, rfl, _⟩ := ho.reads; have B1 := Lib.hid (B0.out.trans (hb.mono B0.out.size)); have Y0 := Lib.hid (X0.out.kept hb); obtain ⟨_, q0, q1, q2, q3, _⟩ := X1.out.kept hb; obtain ⟨_, r0, r1, r2, r3, f⟩ := X0.out.kept hb; have f0 := f 0; have f1 := f 1; have f2 := f 2; have f3 := f 3; clear ho hb f h4)
      obtain ⟨k1, k2⟩ := box_set zS Y0.out (Nat.le_refl _)
      refine bodyPost_ret (ret_box rfl k1 rfl rfl) rfl ?_
      exact out_of _ _ rfl (picks_no HN.out) zS_wf (B1.out.trans k2)

theorem atoi_yes (e : List UInt8) (he : (mk e).size ≤ 1048576) (y : Int) (h : Lib.atoiAll e = .ok y) (w : World) :
    Calls Tryd.prog 29 #[.string (mk e)] w fun r w' => r = .returned (.tuple #[.int .i64 y, .nilIface]) ∧ Below w.heap.size w w' := by
  have h2 : Lib.atoiAll (mk e).data.toList = .ok y := by rw [mk_list]; exact h
  have h3 : (mk e).size ≤ 9223372036854775806 := by omega
  refine (Tryd.strconv_Atoi_ok (mk e) h3 y h2 w).mono fun r w' hr => ⟨hr.1, ?_⟩
  rcases hr.2 with hw | ⟨t, hw⟩
  · rw [hw]; exact Below.refl _ _
  · rw [hw]; exact Lib.bytesWorld_below _ _ _
theorem atoi_no (e : List UInt8) (he : (mk e).size ≤ 1048576) (h : ∀ y, Lib.atoiAll e ≠ .ok y) (w : World) (hw : Env2 w) :
    Calls Tryd.prog 29 #[.string (mk e)] w fun r w' => ∃ y N, r = .returned (.tuple #[.int .i64 y, .iface 75 (.pointer (some ⟨N, 0, none⟩))]) ∧ Below w.heap.size w w' := by
  have h2 : (mk e).size ≤ 281474976710656 := by omega
  cases hq : Lib.atoiAll e
  · exact absurd hq (h _)
  · obtain ⟨tp, p, hv⟩ := hw.syn
    have hk : Calls Tryd.prog 29 #[.string (mk e)] w fun r w' => ∃ N, r = .returned (.tuple #[.int .i64 0, .iface 75 (.pointer (some ⟨N, 0, none⟩))]) ∧ w.heap.size ≤ N ∧ w'.heap[N]? = some (.cells #[.string ⟨#[65, 116, 111, 105]⟩, .string (mk e), .iface tp p] 98 (0, 0)) ∧ Below w.heap.size w w' :=
      Any.strconv_Atoi_syntax_var Tryd.laysC172 (mk e) h2 (by rw [mk_list]; exact hq) tp p w hv
    refine hk.mono ?_
    rintro r w' ⟨N, rfl, _, _, hb⟩
    exact ⟨_, N, rfl, hb⟩
  · obtain ⟨tp, p, hv⟩ := hw.rng
    refine (Tryd.strconv_Atoi_range_var (mk e) h2 (by rw [mk_list]; exact hq) tp p w hv).mono ?_
    rintro r w' ⟨N, rfl, _, _, hb⟩
    exact ⟨_, N, rfl, hb⟩
theorem atoi_some (e : List UInt8) (he : (mk e).size ≤ 1048576) (w : World) (hw : Env2 w) :
    Calls Tryd.prog 29 #[.string (mk e)] w fun r w' => ∃ y ev, r = .returned (.tuple #[.int .i64 y, ev]) ∧ Below w.heap.size w w' := by
  by_cases h : ∃ y, Lib.atoiAll e = .ok y
  · obtain ⟨y, h⟩ := h
    refine (atoi_yes e he y h w).mono ?_
    rintro r w' ⟨rfl, hb⟩
    exact ⟨_, _, rfl, hb⟩
  · refine (atoi_no e he (fun y hy => h ⟨y, hy⟩) w hw).mono ?_
    rintro r w' ⟨y, N, rfl, hb⟩
    exact ⟨_, _, rfl, hb⟩

set_option maxHeartbeats 3200000 in
set_option maxRecDepth 20000 in
theorem impl_sample (s : ByteArray) (hs : s.size ≤ 1048576) (w : World) (he : Env2 w) :
    Calls Tryd.prog 11 #[.string s] w fun e w' => Out s.data.toList w w' e := by
  have B0 : Hid (Below w.heap.size w (w.alloc (.cells #[.string ⟨#[]⟩, .string ⟨#[]⟩, .int .i64 0, .int .i64 0] 26))) := (Below.refl _ _).alloc (Nat.le_refl _) _
  have X0 := Lib.hid (box_new w)
  have HE := Lib.hid he
  clear he
  obtain ⟨ps, hps⟩ : ∃ ps, parts 32 s.data.toList = ps := ⟨_, rfl⟩
  have HPS := Lib.hid hps
  clear hps
  by_cases h4 : ps.length = 4
  · obtain ⟨a, b, d, e, rfl⟩ := four_of h4
    clear h4
    have HSZ : Hid (d.length ≤ 1048576 ∧ e.length ≤ 1048576 ∧ a.length ≤ 1048576 ∧ b.length ≤ 1048576) := by
      have := congrArg List.length (parts_join 32 _ HPS.out)
      simp only [List.length_append, List.length_cons, Array.length_toList] at this
      have hz : s.data.size = s.size := rfl
      show _ ∧ _
      omega
    have HSD : Hid ((mk d).size ≤ 1048576) := by show _ ≤ _; rw [mk_size]; exact HSZ.out.1
    have HSE : Hid ((mk e).size ≤ 1048576) := by show _ ≤ _; rw [mk_size]; exact HSZ.out.2.1
    have HMD := Lib.hid (mk_list d)
    cases hpb : pmB d
    · have HN : Hid (Never s.data.toList) := never_pm HPS.out hpb
      have HPB := Lib.hid hpb
      clear hpb
      go_enter Tryd.func11, Tryd.ntmps11
      go_wp2_with (go_at_call 27; refine (cut_at 32 (by decide) 32 rfl s hs _).mono ?_; rintro e1 w1 ⟨v, rfl, ho, hb⟩; rw [HPS.out] at ho; obtain ⟨g, off, cap, rfl, hg, c0, c1, c2, c3⟩ := four_read ho.reads; have B1 := Lib.hid (B0.out.trans (hb.mono B0.out.size)); have Y0 := Lib.hid (X0.out.kept hb); have HG := Lib.hid hg; have C0 := Lib.hid c0; have C1 := Lib.hid c1; have C3 := Lib.hid c3; clear ho hb hg c0 c1 c3)
      go_wp2_with (go_at_call 28; refine (impl_parse (mk d) HSD.out _ (HE.out.kept B1.out)).mono ?_; rw [HMD.out, HPB.out]; rintro e1 w2 ⟨rfl, hb⟩; have B2 := Lib.hid (B1.out.trans (hb.mono B1.out.size)); have V0 := Lib.hid (Y0.out.kept hb); have HG2 := Lib.hid (Nat.lt_of_lt_of_le HG.out hb.size); have D0 := Lib.hid ((hb.cell (p := ⟨g, off, none⟩) HG.out).trans C0.out); have D1 := Lib.hid ((hb.cell (p := ⟨g, off + 1, none⟩) HG.out).trans C1.out); have d3 := (hb.cell (p := ⟨g, off + 3, none⟩) HG.out).trans C3.out; clear hb c2)
      go_wp2_with (go_at_call 29; refine (atoi_some e HSE.out _ (HE.out.kept B2.out)).mono ?_; rintro e1 w3 ⟨y, ev, rfl, hb⟩; have B3 := Lib.hid (B2.out.trans (hb.mono B2.out.size)); have U0 := Lib.hid (V0.out.kept hb); have E0 := Lib.hid ((hb.cell (p := ⟨g, off, none⟩) HG2.out).trans D0.out); have E1 := Lib.hid ((hb.cell (p := ⟨g, off + 1, none⟩) HG2.out).trans D1.out); have HG3 := Lib.hid (Nat.lt_of_lt_of_le HG2.out hb.size); obtain ⟨_, r0, r1, r2, r3, f⟩ := V0.out.kept hb; have f0 := f 0; have f1 := f 1; have f2 := f 2; have f3 := f 3; clear hb d3 f)
      obtain ⟨k1, k2⟩ := box_set zS U0.out (Nat.le_refl _)
      refine bodyPost_ret (ret_box rfl k1 rfl rfl) rfl ?_
      exact out_of _ _ rfl (picks_no HN.out) zS_wf (B3.out.trans k2)
    · have HPB := Lib.hid hpb
      have hval : isVal (pmV d) = true := by
        have h1 : d ≠ [] ∧ milli (fin d) = d := by unfold pmB at hpb; simpa using hpb
        exact isVal_of (pm_back hpb) h1.1
      have HVAL := Lib.hid hval
      clear hpb hval
      by_cases hat : ∃ y, Lib.atoiAll e = .ok y
      · obtain ⟨y, hat⟩ := hat
        have HAT := Lib.hid hat
        have hwf : (⟨mk a, mk b, pmV d, y⟩ : Smp).wf := by
          have h2 : -1000000000 ≤ pmV d ∧ pmV d ≤ 1000000000 := by have := HVAL.out; unfold isVal at this; simpa using this
          have h3 := atoi_range hat
          have h5 := HSZ.out
          refine ⟨?_, ?_, ⟨by simp only; omega, by simp only; omega⟩, h3⟩
          · show (mk a).size ≤ maxLen
            rw [mk_size]; unfold maxLen; omega
          · show (mk b).size ≤ maxLen
            rw [mk_size]; unfold maxLen; omega
        have HWF := Lib.hid hwf
        obtain ⟨L, hL⟩ : ∃ L, lineV ⟨mk a, mk b, pmV d, y⟩ = L := ⟨_, rfl⟩
        have HLV := Lib.hid hL
        clear hwf hat
        by_cases hln : L = s.data.toList
        · have HP : Hid (Picks s.data.toList ⟨mk a, mk b, pmV d, y⟩ true) := picks_line HPS.out (hL.trans hln)
          have hcmp : ((mk L).toList == s.toList) = true := by rw [beq_iff_eq, ByteArray.toList_eq, ByteArray.toList_eq, mk_list]; exact hln
          clear hL hln
          go_enter Tryd.func11, Tryd.ntmps11
          go_wp2_with (go_at_call 27; refine (cut_at 32 (by decide) 32 rfl s hs _).mono ?_; rintro e1 w1 ⟨v, rfl, ho, hb⟩; rw [HPS.out] at ho; obtain ⟨g, off, cap, rfl, hg, c0, c1, c2, c3⟩ := four_read ho.reads; have B1 := Lib.hid (B0.out.trans (hb.mono B0.out.size)); have Y0 := Lib.hid (X0.out.kept hb); have HG := Lib.hid hg; have C0 := Lib.hid c0; have C1 := Lib.hid c1; have C3 := Lib.hid c3; clear ho hb hg c0 c1 c3)
          go_wp2_with (go_at_call 28; refine (impl_parse (mk d) HSD.out _ (HE.out.kept B1.out)).mono ?_; rw [HMD.out, HPB.out]; rintro e1 w2 ⟨rfl, hb⟩; have B2 := Lib.hid (B1.out.trans (hb.mono B1.out.size)); have V0 := Lib.hid (Y0.out.kept hb); have HG2 := Lib.hid (Nat.lt_of_lt_of_le HG.out hb.size); have D0 := Lib.hid ((hb.cell (p := ⟨g, off, none⟩) HG.out).trans C0.out); have D1 := Lib.hid ((hb.cell (p := ⟨g, off + 1, none⟩) HG.out).trans C1.out); have d3 := (hb.cell (p := ⟨g, off + 3, none⟩) HG.out).trans C3.out; clear hb c2)
          go_wp2_with (go_at_call 29; refine (atoi_yes e HSE.out y HAT.out _).mono ?_; rintro e1 w3 ⟨rfl, hb⟩; have B3 := Lib.hid (B2.out.trans (hb.mono B2.out.size)); have U0 := Lib.hid (V0.out.kept hb); have E0 := Lib.hid ((hb.cell (p := ⟨g, off, none⟩) HG2.out).trans D0.out); have E1 := Lib.hid ((hb.cell (p := ⟨g, off + 1, none⟩) HG2.out).trans D1.out); have HG3 := Lib.hid (Nat.lt_of_lt_of_le HG2.out hb.size); obtain ⟨_, r0, r1, r2, r3, f⟩ := V0.out.kept hb; have f0 := f 0; have f1 := f 1; have f2 := f 2; have f3 := f 3; clear hb d3 f)
          have e0 := E0.out
          have e1 := E1.out
          have ha : Below w3.heap.size w3 (w3.alloc (.cells #[.string ⟨#[]⟩, .string ⟨#[]⟩, .int .i64 0, .int .i64 0] 26)) := (Below.refl _ _).alloc (Nat.le_refl _) _
          have a0 := (ha.cell (p := ⟨g, off, none⟩) HG3.out).trans e0
          have a1 := (ha.cell (p := ⟨g, off + 1, none⟩) HG3.out).trans e1
          have mixed : Tryd.prog.follows .mixedOrders = true := by kernel_rfl
          clear ha r0 r1 r2 r3 f0 f1 f2 f3
          go_region
          have hA : Below w3.heap.size w3 ((w3.alloc (.cells #[.string (mk a), .string (mk b), .int .i64 (pmV d), .int .i64 y] 26)).drew) := ((Below.refl _ _).alloc (Nat.le_refl _) _).drew
          have hX : Box ((w3.alloc (.cells #[.string (mk a), .string (mk b), .int .i64 (pmV d), .int .i64 y] 26)).drew) w3.heap.size ⟨mk a, mk b, pmV d, y⟩ := by
            refine ⟨by simp, ?_, ?_, ?_, ?_, fun j => ?_⟩ <;> simp
          obtain ⟨G, hG⟩ : ∃ G, w3.heap.size = G := ⟨_, rfl⟩
          obtain ⟨W, hW⟩ : ∃ W, (w3.alloc (.cells #[.string (mk a), .string (mk b), .int .i64 (pmV d), .int .i64 y] 26)).drew = W := ⟨_, rfl⟩
          have B4 := Lib.hid (B3.out.trans (hA.mono B3.out.size))
          have Z0 := Lib.hid (U0.out.kept hA)
          rw [hG] at hX
          rw [hW] at B4 Z0 hX
          rw [hG, hW]
          have ZX := Lib.hid hX
          clear hA hX hG hW e0 e1 a0 a1 E0 E1 U0 V0 Y0 X0 B0 B1 B2 B3 C0 C1 C3 D0 D1 HG HG2 HG3
          obtain ⟨_, t0, t1, t2, t3, _⟩ := ZX.out
          simp only at t0 t1 t2 t3
          go_wp2_with (go_at_call 9; refine (impl_line ⟨mk a, mk b, pmV d, y⟩ HWF.out _ (HE.out.kept B4.out).env).mono ?_; rw [HLV.out]; rintro e1 w5 ⟨rfl, hb⟩; have B5 := Lib.hid (B4.out.trans (hb.mono B4.out.size)); have K0 := Lib.hid (Z0.out.kept hb); clear t0 t1 t2 t3; obtain ⟨_, t0, t1, t2, t3, _⟩ := ZX.out.kept hb; obtain ⟨_, r0, r1, r2, r3, f⟩ := Z0.out.kept hb; have f0 := f 0; have f1 := f 1; have f2 := f 2; have f3 := f 3; clear hb f)
          obtain ⟨k1, k2⟩ := box_set ⟨mk a, mk b, pmV d, y⟩ K0.out (Nat.le_refl _)
          refine bodyPost_ret (ret_box rfl k1 rfl rfl) rfl ?_
          exact out_of _ _ rfl HP.out HWF.out (B5.out.trans k2)
        · have HN : Hid (Never s.data.toList) := never_line HPS.out HAT.out (by rw [hL]; exact hln)
          have hcmp : ((mk L).toList == s.toList) = false := by rw [beq_eq_false_iff_ne, ByteArray.toList_eq, ByteArray.toList_eq, mk_list]; exact hln
          clear hL hln
          go_enter Tryd.func11, Tryd.ntmps11
          go_wp2_with (go_at_call 27; refine (cut_at 32 (by decide) 32 rfl s hs _).mono ?_; rintro e1 w1 ⟨v, rfl, ho, hb⟩; rw [HPS.out] at ho; obtain ⟨g, off, cap, rfl, hg, c0, c1, c2, c3⟩ := four_read ho.reads; have B1 := Lib.hid (B0.out.trans (hb.mono B0.out.size)); have Y0 := Lib.hid (X0.out.kept hb); have HG := Lib.hid hg; have C0 := Lib.hid c0; have C1 := Lib.hid c1; have C3 := Lib.hid c3; clear ho hb hg c0 c1 c3)
          go_wp2_with (go_at_call 28; refine (impl_parse (mk d) HSD.out _ (HE.out.kept B1.out)).mono ?_; rw [HMD.out, HPB.out]; rintro e1 w2 ⟨rfl, hb⟩; have B2 := Lib.hid (B1.out.trans (hb.mono B1.out.size)); have V0 := Lib.hid (Y0.out.kept hb); have HG2 := Lib.hid (Nat.lt_of_lt_of_le HG.out hb.size); have D0 := Lib.hid ((hb.cell (p := ⟨g, off, none⟩) HG.out).trans C0.out); have D1 := Lib.hid ((hb.cell (p := ⟨g, off + 1, none⟩) HG.out).trans C1.out); have d3 := (hb.cell (p := ⟨g, off + 3, none⟩) HG.out).trans C3.out; clear hb c2)
          go_wp2_with (go_at_call 29; refine (atoi_yes e HSE.out y HAT.out _).mono ?_; rintro e1 w3 ⟨rfl, hb⟩; have B3 := Lib.hid (B2.out.trans (hb.mono B2.out.size)); have U0 := Lib.hid (V0.out.kept hb); have E0 := Lib.hid ((hb.cell (p := ⟨g, off, none⟩) HG2.out).trans D0.out); have E1 := Lib.hid ((hb.cell (p := ⟨g, off + 1, none⟩) HG2.out).trans D1.out); have HG3 := Lib.hid (Nat.lt_of_lt_of_le HG2.out hb.size); obtain ⟨_, r0, r1, r2, r3, f⟩ := V0.out.kept hb; have f0 := f 0; have f1 := f 1; have f2 := f 2; have f3 := f 3; clear hb d3 f)
          have e0 := E0.out
          have e1 := E1.out
          have ha : Below w3.heap.size w3 (w3.alloc (.cells #[.string ⟨#[]⟩, .string ⟨#[]⟩, .int .i64 0, .int .i64 0] 26)) := (Below.refl _ _).alloc (Nat.le_refl _) _
          have a0 := (ha.cell (p := ⟨g, off, none⟩) HG3.out).trans e0
          have a1 := (ha.cell (p := ⟨g, off + 1, none⟩) HG3.out).trans e1
          have mixed : Tryd.prog.follows .mixedOrders = true := by kernel_rfl
          clear ha r0 r1 r2 r3 f0 f1 f2 f3
          go_region
          have hA : Below w3.heap.size w3 ((w3.alloc (.cells #[.string (mk a), .string (mk b), .int .i64 (pmV d), .int .i64 y] 26)).drew) := ((Below.refl _ _).alloc (Nat.le_refl _) _).drew
          have hX : Box ((w3.alloc (.cells #[.string (mk a), .string (mk b), .int .i64 (pmV d), .int .i64 y] 26)).drew) w3.heap.size ⟨mk a, mk b, pmV d, y⟩ := by
            refine ⟨by simp, ?_, ?_, ?_, ?_, fun j => ?_⟩ <;> simp
          obtain ⟨G, hG⟩ : ∃ G, w3.heap.size = G := ⟨_, rfl⟩
          obtain ⟨W, hW⟩ : ∃ W, (w3.alloc (.cells #[.string (mk a), .string (mk b), .int .i64 (pmV d), .int .i64 y] 26)).drew = W := ⟨_, rfl⟩
          have B4 := Lib.hid (B3.out.trans (hA.mono B3.out.size))
          have Z0 := Lib.hid (U0.out.kept hA)
          rw [hG] at hX
          rw [hW] at B4 Z0 hX
          rw [hG, hW]
          have ZX := Lib.hid hX
          clear hA hX hG hW e0 e1 a0 a1 E0 E1 U0 V0 Y0 X0 B0 B1 B2 B3 C0 C1 C3 D0 D1 HG HG2 HG3
          obtain ⟨_, t0, t1, t2, t3, _⟩ := ZX.out
          simp only at t0 t1 t2 t3
          go_wp2_with (go_at_call 9; refine (impl_line ⟨mk a, mk b, pmV d, y⟩ HWF.out _ (HE.out.kept B4.out).env).mono ?_; rw [HLV.out]; rintro e1 w5 ⟨rfl, hb⟩; have B5 := Lib.hid (B4.out.trans (hb.mono B4.out.size)); have K0 := Lib.hid (Z0.out.kept hb); clear t0 t1 t2 t3; obtain ⟨_, t0, t1, t2, t3, _⟩ := ZX.out.kept hb; obtain ⟨_, r0, r1, r2, r3, f⟩ := Z0.out.kept hb; have f0 := f 0; have f1 := f 1; have f2 := f 2; have f3 := f 3; clear hb f)
          obtain ⟨k1, k2⟩ := box_set zS K0.out (Nat.le_refl _)
          refine bodyPost_ret (ret_box rfl k1 rfl rfl) rfl ?_
          exact out_of _ _ rfl (picks_no HN.out) zS_wf (B5.out.trans k2)
      · have HNA : Hid (∀ y, Lib.atoiAll e ≠ .ok y) := fun y hy => hat ⟨y, hy⟩
        have HN : Hid (Never s.data.toList) := never_atoi HPS.out HNA.out
        clear hat
        go_enter Tryd.func11, Tryd.ntmps11
        go_wp2_with (go_at_call 27; refine (cut_at 32 (by decide) 32 rfl s hs _).mono ?_; rintro e1 w1 ⟨v, rfl, ho, hb⟩; rw [HPS.out] at ho; obtain ⟨g, off, cap, rfl, hg, c0, c1, c2, c3⟩ := four_read ho.reads; have B1 := Lib.hid (B0.out.trans (hb.mono B0.out.size)); have Y0 := Lib.hid (X0.out.kept hb); have HG := Lib.hid hg; have C0 := Lib.hid c0; have C1 := Lib.hid c1; have C3 := Lib.hid c3; clear ho hb hg c0 c1 c3)
        go_wp2_with (go_at_call 28; refine (impl_parse (mk d) HSD.out _ (HE.out.kept B1.out)).mono ?_; rw [HMD.out, HPB.out]; rintro e1 w2 ⟨rfl, hb⟩; have B2 := Lib.hid (B1.out.trans (hb.mono B1.out.size)); have V0 := Lib.hid (Y0.out.kept hb); have HG2 := Lib.hid (Nat.lt_of_lt_of_le HG.out hb.size); have D0 := Lib.hid ((hb.cell (p := ⟨g, off, none⟩) HG.out).trans C0.out); have D1 := Lib.hid ((hb.cell (p := ⟨g, off + 1, none⟩) HG.out).trans C1.out); have d3 := (hb.cell (p := ⟨g, off + 3, none⟩) HG.out).trans C3.out; clear hb c2)
        go_wp2_with (go_at_call 29; refine (atoi_no e HSE.out HNA.out _ (HE.out.kept B2.out)).mono ?_; rintro e1 w3 ⟨y, N, rfl, hb⟩; have B3 := Lib.hid (B2.out.trans (hb.mono B2.out.size)); have U0 := Lib.hid (V0.out.kept hb); have E0 := Lib.hid ((hb.cell (p := ⟨g, off, none⟩) HG2.out).trans D0.out); have E1 := Lib.hid ((hb.cell (p := ⟨g, off + 1, none⟩) HG2.out).trans D1.out); have HG3 := Lib.hid (Nat.lt_of_lt_of_le HG2.out hb.size); obtain ⟨_, r0, r1, r2, r3, f⟩ := V0.out.kept hb; have f0 := f 0; have f1 := f 1; have f2 := f 2; have f3 := f 3; clear hb d3 f)
        obtain ⟨k1, k2⟩ := box_set zS U0.out (Nat.le_refl _)
        refine bodyPost_ret (ret_box rfl k1 rfl rfl) rfl ?_
        exact out_of _ _ rfl (picks_no HN.out) zS_wf (B3.out.trans k2)
  · have HN : Hid (Never s.data.toList) := never_four (by rw [HPS.out]; exact h4)
    have hd : ((ps.length : Int) == 4) = false := by rw [beq_eq_false_iff_ne]; omega
    have hd2 : ¬ (ps.length : Int) = 4 := by omega
    go_enter Tryd.func11, Tryd.ntmps11
    go_wp2_with (go_at_call 27; refine (cut_at 32 (by decide) 32 rfl s hs _).mono ?_; rintro e1 w1 ⟨v, rfl, ho, hb⟩; rw [HPS.out] at ho; obtain ⟨ad, cap, rfl, _⟩ := ho.reads; have B1 := Lib.hid (B0.out.trans (hb.mono B0.out.size)); have Y0 := Lib.hid (X0.out.kept hb); obtain ⟨_, r0, r1, r2, r3, f⟩ := X0.out.kept hb; have f0 := f 0; have f1 := f 1; have f2 := f 2; have f3 := f 3; clear ho hb f h4)
    obtain ⟨k1, k2⟩ := box_set zS Y0.out (Nat.le_refl _)
    refine bodyPost_ret (ret_box rfl k1 rfl rfl) rfl ?_
    exact out_of _ _ rfl (picks_no HN.out) zS_wf (B1.out.trans k2)
end Go.Proofs.YtahhemgmlmhbjaaDoor.Parse
