/- PutSample of chapter 3: impl.put. -/
import Derived.Test.YtimpajhgplkpmaaPutD
namespace Go.Proofs.Ytimpajhgplkpmaa.Put
open Go.RowKit Go.Sort Go.BigFrame
open Go.Proofs.Ytimpajhgplkpmaa.C1
open Go.Proofs.Ytimpajhgplkpmaa.C2
open Go.Proofs.Ytimpajhgplkpmaa.Smps
open Go.Proofs.Ytimpajhgplkpmaa.Mem
open Go.Proofs.Ytimpajhgplkpmaa.Ser
open Go.Proofs.Ytimpajhgplkpmaa.Ser2
open Go.Proofs.Ytimpajhgplkpmaa.Key
open Go.Proofs.Ytimpajhgplkpmaa.Sto
open Go.Proofs.Ytimpajhgplkpmaa.StoL
open Go.Proofs.Ytimpajhgplkpmaa.Cnt
open Go.Proofs.Ytimpajhgplkpmaa.Ring
open Go.Proofs.Ytimpajhgplkpmaa.Find
open Go.Proofs.Ytimpajhgplkpmaa.Sof
open Go.Proofs.Ytimpajhgplkpmaa.Lat
open Go.Proofs.Ytimpajhgplkpmaa.From
open Go.Proofs.Ytimpajhgplkpmaa.CopyS
open Go.Proofs.Ytimpajhgplkpmaa.Items
open Go.Proofs.Ytimpajhgplkpmaa.Ins
open Go.Proofs.Ytimpajhgplkpmaa.MarkS
open Go.Proofs.Ytimpajhgplkpmaa.PutD
set_option linter.unusedVariables false

set_option maxHeartbeats 8000000 in
set_option maxRecDepth 20000 in
theorem impl_put (ls : List Sv) (gs B : Nat) (s : Smp) (hs : s.wf) (w : World) (hv : storeV (ls.map Sv.s) = true) (ho : OwnR w B (.slice (some ⟨gs, 0, none⟩) ls.length ls.length) ls) (hg : Ser2.Good w B gs ls) (hB : B ≤ w.heap.size) :
    Calls Try.prog 77 #[.slice (some ⟨gs, 0, none⟩) ls.length ls.length, smpV s] w fun e w' => PutOut (ls.map Sv.s) s B w w' e := by
  have mixed : Try.prog.follows .mixedOrders = true := by kernel_rfl
  have hc := fun W => impl_ok s hs W
  have HO := Lib.hid ho
  have HG := Lib.hid hg
  have HBB := Lib.hid hB
  have HV := Lib.hid hv
  have hst := (storeV_iff _).1 hv
  have HST := Lib.hid hst
  have h24 : ls.length ≤ 24 := by have := hst.most; simpa using this
  clear ho hg hB hv hst
  cases hok : okV s
  · rw [hok] at hc
    have HP : Hid (PutIs (ls.map Sv.s) s (ls.map Sv.s) 3) := .bad (by rw [hok]; simp)
    unfold smpV at hc ⊢
    go_enter Try.func77, Try.ntmps77
    go_wp2_with fail
    refine (hc _).mono ?_
    rintro e w1 ⟨rfl, hb1⟩
    obtain ⟨r1, r2, q0, q1, q2, q3⟩ := box_read hb1
    have HO1 := Lib.hid (HO.out.kept r2)
    have HG1 := Lib.hid (HG.out.kept r2)
    have HB1 := Lib.hid (r2.mono HBB.out)
    clear hb1 r1 r2 q0 q1 q2 q3
    go_wp2
    go_ret2
    exact putOut_of gs ls.length ls 3 rfl HP.out HO1.out HG1.out HB1.out
  · rw [hok] at hc
    have HOK := Lib.hid hok
    unfold smpV at hc ⊢
    go_enter Try.func77, Try.ntmps77
    go_wp2_with fail
    refine (hc _).mono ?_
    rintro e w1 ⟨rfl, hb1⟩
    obtain ⟨r1, r2, q0, q1, q2, q3⟩ := box_read hb1
    have hbx := box_below w1 #[.int .i64 s.tick, .int .i64 s.val] 116
    have hw1 := r2.trans (hbx.mono (Nat.le_of_lt r1))
    have HO1 := Lib.hid (HO.out.kept hw1)
    have HG1 := Lib.hid (HG.out.kept hw1)
    have HB1 := Lib.hid hw1
    have HX1 := Lib.hid (cells_new w1 #[.int .i64 s.tick, .int .i64 s.val] 116)
    have HQ1 := Lib.hid (keep4 r1 hbx q0 q1 q2 q3)
    have HR1 := Lib.hid r1
    clear hb1 r2 hbx hw1 hc hok
    go_wp2_with fail
    refine (place_of ls HST.out _ ls.length s.pod s.met _ (srs_of HO1.out HG1.out)).mono ?_
    rintro e w2 ⟨i, hp, rfl, hb2⟩
    have HO2 := Lib.hid (HO1.out.kept hb2)
    have HG2 := Lib.hid (HG1.out.kept hb2)
    have HB2 := Lib.hid (HB1.out.trans (hb2.mono HB1.out.size))
    have HX2 := Lib.hid (HX1.out.kept hb2)
    have HQ2 : Hid (w.heap.size < w2.heap.size ∧ w2.cell? ⟨w.heap.size, 0, none⟩ = some (.string s.pod) ∧ w2.cell? ⟨w.heap.size, 1, none⟩ = some (.string s.met)) := by
      obtain ⟨z, z0, z1, _, _⟩ := keep4 HQ1.out.1 hb2 HQ1.out.2.1 HQ1.out.2.2.1 HQ1.out.2.2.2.1 HQ1.out.2.2.2.2
      exact ⟨z, z0, z1⟩
    have HPL := Lib.hid hp
    obtain ⟨g1, hg1⟩ : ∃ g1, w1.heap.size = g1 := ⟨_, rfl⟩
    have HGL : Hid (w.heap.size ≤ g1 ∧ w.heap.size ≠ g1) := by
      have := HR1.out
      rw [hg1] at this
      exact ⟨Nat.le_of_lt this, Nat.ne_of_lt this⟩
    rw [hg1] at HX2 ⊢
    clear hp hb2 HO1 HG1 HB1 HX1 HQ1 HR1 hg1 r1 q0 q1 q2 q3
    by_cases hex : ∃ hi : i < ls.length, kc ls[i].s.pod ls[i].s.met s.pod s.met = 0
    · obtain ⟨hil, hkz⟩ := id hex
      have hd : decide (∃ hi : i < ls.length, kc ls[i].s.pod ls[i].s.met s.pod s.met = 0) = true := decide_eq_true hex
      rw [hd]
      obtain ⟨l, hl⟩ : ∃ l, ls[i] = l := ⟨_, rfl⟩
      have hmem : l ∈ ls := by rw [← hl]; exact List.getElem_mem hil
      have hso := HST.out.ok l.s (List.mem_map.2 ⟨l, hmem, rfl⟩)
      have h1p := hso.pts.one
      have h12p := hso.pts.most
      obtain ⟨n, hn⟩ : ∃ n, n + 1 = l.s.pts.length := ⟨l.s.pts.length - 1, by omega⟩
      obtain ⟨L, hL⟩ : ∃ L, l.s.pts[n]'(by omega) = L := ⟨_, rfl⟩
      have hlast : lastP l.s.pts = L := by
        unfold lastP
        rw [List.getLast?_eq_getElem?, show l.s.pts.length - 1 = n by omega, List.getElem?_eq_getElem (by omega), hL]
        rfl
      have hq := HO2.out.at3 i hil
      rw [hl] at hq
      obtain ⟨_, _, c2⟩ := hq
      have hgs := HO2.out.lt.2
      have hpts := (HG2.out.own l hmem).pts
      have hpc := cellsW_get HX2.out (j := 0) rfl
      have hpc1 := cellsW_get HX2.out (j := 1) rfl
      have hg1w := HX2.out.1
      have HC2 := Lib.hid c2
      have HPT := Lib.hid hpts
      have HMEM := Lib.hid hmem
      have HL := Lib.hid hl
      have HKM : Hid (kc (ls.map Sv.s)[i]!.pod (ls.map Sv.s)[i]!.met s.pod s.met = 0) := by
        show _ = _
        rw [getElem!_pos _ i (by simpa using hil)]
        simpa using hkz
      have kx := later_cell hgs c2
      have kp := later_cell hg1w hpc.1
      have HLO : Hid (∀ p : Later w2, Calls Try.prog 112 #[.slice l.a l.s.pts.length l.cap] p.u fun e w' => e = .returned (ptV L) ∧ ∃ q : Later w2, w' = q.u) := fun p => by
        have := last_of l.s.pts n hn (by omega) l.a l.cap p.u (HPT.out.kept p.h)
        rw [hL] at this
        exact later_call this
      have hiI : (i : Int) < (ls.length : Int) := by omega
      have hwi : IntKind.i64.wrap (i : Int) = (i : Int) := by rw [IntKind.wrap_i64]; omega
      unfold ptV at HLO
      have hfd : ∀ W, (Instr.field 116 (.agg #[.int .i64 L.tick, .int .i64 L.val]) 0).run Try.prog W = .ok (.int .i64 L.tick) W := fun _ => by kernel_rfl
      by_cases ht : s.tick ≤ L.tick
      · have HP : Hid (PutIs (ls.map Sv.s) s (ls.map Sv.s) 1) := .old HV.out HOK.out i HPL.out (by simpa using hil) (by simpa using hkz) (by simp only [List.getElem_map, HL.out, hlast]; exact ht)
        have hdt : decide (s.tick ≤ L.tick) = true := decide_eq_true ht
        clear c2 hpts hpc hpc1 hmem hl hlast hL hkz hex hd hso
        go_wp2_with fail
        refine region_later mixed (by kernel_rfl) ?_
        repeat (go_big_quiet_step (first | (go_at_call 112; exact HLO.out _)))
        refine wpQuiet_nil ?_
        intro w3 hw'
        obtain ⟨⟨_, hw3⟩, rfl⟩ := hw'
        have HO3 := Lib.hid (HO2.out.kept hw3)
        have HG3 := Lib.hid (HG2.out.kept hw3)
        have HB3 := Lib.hid ((HB2.out.trans (hw3.mono HB2.out.size)).mono HBB.out)
        clear hw3 kx kp
        go_wp2
        go_ret2
        exact putOut_of gs ls.length ls 1 rfl HP.out HO3.out HG3.out HB3.out
      · have hdt : decide (s.tick ≤ L.tick) = false := decide_eq_false ht
        have HP : Hid (PutIs (ls.map Sv.s) s ((ls.map Sv.s).set i ⟨l.s.pod, l.s.met, withV l.s.pts (ptOf s)⟩) 0) := by
          have := PutIs.add (xs := ls.map Sv.s) HV.out HOK.out i HPL.out (by simpa using hil) (by simpa using hkz) (by simp only [List.getElem_map, HL.out, hlast]; exact ht)
          simp only [List.getElem_map, HL.out] at this
          exact this
        clear c2 hpts hpc hpc1 hmem hl hlast hL hkz hex hd hso
        go_wp2_with fail
        refine region_later mixed (by kernel_rfl) ?_
        repeat (go_big_quiet_step (first | (go_at_call 112; exact HLO.out _)))
        refine wpQuiet_nil ?_
        intro w3 hw'
        obtain ⟨⟨_, hw3⟩, rfl⟩ := hw'
        have HO3 := Lib.hid ((HO2.out.kept hw3).kept ((Below.refl _ _).drew : Below w3.heap.size w3 w3.drew))
        have HG3 := Lib.hid ((HG2.out.kept hw3).kept ((Below.refl _ _).drew : Below w3.heap.size w3 w3.drew))
        have HB3 : Hid (Below w.heap.size w w3.drew) := Lib.hid ((HB2.out.trans (hw3.mono HB2.out.size)).drew)
        have HX3 := Lib.hid ((HX2.out.kept hw3).kept ((Below.refl _ _).drew : Below w3.heap.size w3 w3.drew))
        have HC3 : Hid (w3.drew.cell? ⟨gs, i * 3 + 2, none⟩ = some (.slice l.a l.s.pts.length l.cap)) := (hw3.drew.cell (p := ⟨gs, i * 3 + 2, none⟩) hgs).trans HC2.out
        have HPT3 := Lib.hid ((HPT.out.kept hw3).kept ((Below.refl _ _).drew : Below w3.heap.size w3 w3.drew))
        have HGS3 := Lib.hid (HO3.out.lt)
        have c3 := HC3.out
        obtain ⟨X, hX⟩ : ∃ X, withV l.s.pts (ptOf s) = X := ⟨_, rfl⟩
        have HWP : Hid (∀ W, Pts W l.a l.s.pts → Calls Try.prog 113 #[.slice l.a l.s.pts.length l.cap, .agg #[.int .i64 s.tick, .int .i64 s.val]] W fun e w' => ∃ g, e = .returned (.slice (some ⟨g, 0, none⟩) X.length X.length) ∧ OwnP w' W.heap.size (.slice (some ⟨g, 0, none⟩) X.length X.length) X ∧ Below W.heap.size W w') := fun W h => by
          have := with_point l.s.pts (ptOf s) h1p h12p l.a l.cap W h
          rw [hX] at this
          exact this
        have HXX := Lib.hid hX
        clear hw3 kx kp hfd HLO HC2 HPT HX2 HG2 HO2 HB2 hX
        go_wp2_with fail
        have p3 := (cellsW_get HX3.out (j := 0) rfl).1
        have p4 := (cellsW_get HX3.out (j := 1) rfl).1
        go_wp2_with fail
        go_region_with (go_at_call 113; refine (HWP.out _ HPT3.out).mono ?_; rintro e5 w5 ⟨g5, rfl, ho5, hb5⟩; have HP5 := Lib.hid ho5; have HB5 := Lib.hid hb5; have HO5 := Lib.hid (HO3.out.kept hb5); have c5 := (hb5.cell (p := ⟨gs, i * 3 + 2, none⟩) HGS3.out.2).trans HC3.out; have f5 := HO5.out.frozen (i * 3 + 2); clear ho5 hb5)
        all_goals
          clear c3 c5 f5
          obtain ⟨x, hx⟩ : ∃ x : Sv, x = ⟨⟨l.s.pod, l.s.met, X⟩, some ⟨g5, 0, none⟩, X.length⟩ := ⟨_, rfl⟩
          have hpx : OwnP w5 w3.drew.heap.size (.slice x.a x.s.pts.length x.cap) x.s.pts := by rw [hx]; exact HP5.out
          have hgd := Good.set HG3.out HB5.out (Nat.le_trans HBB.out HB3.out.size) HGS3.out.2 i hil x hpx
          have hon := (Only.refl gs w5).setCell (i * 3 + 2) (.slice (some ⟨g5, 0, none⟩) X.length X.length)
          have HGF := Lib.hid (Good.only hgd hon)
          have HOF := Lib.hid (OwnR_set HO5.out i 2 (.slice (some ⟨g5, 0, none⟩) X.length X.length) x hil (by omega) (by rw [HL.out, hx]; rfl))
          have HBF : Hid (Below B w (w5.setCell ⟨gs, i * 3 + 2, none⟩ (.slice (some ⟨g5, 0, none⟩) X.length X.length))) := ((HB3.out.trans (HB5.out.mono HB3.out.size)).mono HBB.out).setCell (p := ⟨gs, i * 3 + 2, none⟩) HO5.out.lt.1 _
          have HMS : Hid ((ls.set i x).map Sv.s = (ls.map Sv.s).set i ⟨l.s.pod, l.s.met, withV l.s.pts (ptOf s)⟩) := by
            show _ = _
            rw [List.map_set, hx, HXX.out]
          have HLN : Hid ((ls.set i x).length = ls.length) := by show _ = _; simp
          clear hpx hgd hon hx
          go_wp2
          go_ret2
          exact putOut_of gs ls.length (ls.set i x) 0 (by rw [HLN.out]; rfl) (by rw [HMS.out]; exact HP.out) (by rw [HLN.out]; exact HOF.out) HGF.out HBF.out
    · have hd : decide (∃ hi : i < ls.length, kc ls[i].s.pod ls[i].s.met s.pod s.met = 0) = false := decide_eq_false hex
      rw [hd]
      have hex2 : ¬ ∃ hi : i < (ls.map Sv.s).length, kc (ls.map Sv.s)[i].pod (ls.map Sv.s)[i].met s.pod s.met = 0 := fun ⟨h1, h2⟩ => hex ⟨by simpa using h1, by simpa using h2⟩
      have hile : i ≤ ls.length := by have := HPL.out.le; simpa using this
      clear hex hd
      go_wp2_with fail
      refine region_later mixed (by kernel_rfl) ?_
      repeat (go_big_quiet_step (fail))
      refine wpQuiet_nil ?_
      intro w3 hw'
      obtain ⟨⟨_, hw3⟩, rfl⟩ := hw'
      have HO3 := Lib.hid (HO2.out.kept hw3)
      have HG3 := Lib.hid (HG2.out.kept hw3)
      have HB3 := Lib.hid (HB2.out.trans (hw3.mono HB2.out.size))
      have HX3 := Lib.hid (HX2.out.kept hw3)
      have z0 := (hw3.cell (p := ⟨w.heap.size, 0, none⟩) HQ2.out.1).trans HQ2.out.2.1
      have z1 := (hw3.cell (p := ⟨w.heap.size, 1, none⟩) HQ2.out.1).trans HQ2.out.2.2
      have p0 := (cellsW_get HX3.out (j := 0) rfl).1
      have p1 := (cellsW_get HX3.out (j := 1) rfl).1
      have hzl := Nat.lt_of_lt_of_le HQ2.out.1 hw3.size
      have hpl := HX3.out.1
      clear hw3 HO2 HG2 HB2 HX2 HQ2
      by_cases h24e : ls.length = 24
      · have HP : Hid (PutIs (ls.map Sv.s) s (ls.map Sv.s) 2) := .full HV.out HOK.out i HPL.out hex2 (by simpa using h24e)
        have hlb : ((ls.length : Int) == 24) = true := by rw [beq_iff_eq]; omega
        have hld : (ls.length : Int) = 24 := by omega
        have HBF := Lib.hid (HB3.out.mono HBB.out)
        clear hex2 h24e
        go_wp2
        go_ret2
        exact putOut_of gs ls.length ls 2 rfl HP.out HO3.out HG3.out HBF.out
      · have HP : Hid (PutIs (ls.map Sv.s) s ((ls.map Sv.s).take i ++ serOf s :: (ls.map Sv.s).drop i) 0) := .new HV.out HOK.out i HPL.out hex2 (by simpa using h24e)
        have hlb : ((ls.length : Int) == 24) = false := by rw [beq_eq_false_iff_ne]; omega
        have hld : ¬ (ls.length : Int) = 24 := by omega
        clear hex2
        obtain ⟨x, hx⟩ : ∃ x : Sv, x = ⟨serOf s, some ⟨w3.heap.size, 0, none⟩, 1⟩ := ⟨_, rfl⟩
        have HX := Lib.hid hx
        have hbA := box_below w3 #[.int .i64 s.tick, .int .i64 s.val] 116
        have hpA : OwnP (w3.alloc (.cells #[.int .i64 s.tick, .int .i64 s.val] 116)) w3.heap.size (.slice (some ⟨w3.heap.size, 0, none⟩) 1 1) [ptOf s] := World.ownsRow_lit (e := 116) (size := 2) (base := w3.heap.size) w3 #[.int .i64 s.tick, .int .i64 s.val] 1 (Nat.le_refl _) (by unfold maxLen; omega) rfl
        obtain ⟨WA, hWA⟩ : ∃ WA, w3.alloc (.cells #[.int .i64 s.tick, .int .i64 s.val] 116) = WA := ⟨_, rfl⟩
        have hszA : WA.heap.size = w3.heap.size + 1 := by rw [← hWA]; simp
        rw [hWA] at hbA hpA
        have hbB := box_below WA #[.string s.pod, .string s.met, .slice (some ⟨w3.heap.size, 0, none⟩) 1 1] 120
        have hcB := cells_new WA #[.string s.pod, .string s.met, .slice (some ⟨w3.heap.size, 0, none⟩) 1 1] 120
        obtain ⟨WB, hWB⟩ : ∃ WB, WA.alloc (.cells #[.string s.pod, .string s.met, .slice (some ⟨w3.heap.size, 0, none⟩) 1 1] 120) = WB := ⟨_, rfl⟩
        have hszB : w3.heap.size < WB.heap.size := by rw [← hWB]; simp; omega
        rw [hWB] at hbB hcB
        have h3A : At3 WB WA.heap.size 0 x := by
          rw [hx]
          exact ⟨(cellsW_get hcB (j := 0) rfl).1, (cellsW_get hcB (j := 1) rfl).1, (cellsW_get hcB (j := 2) rfl).1⟩
        have hvb := hcB.1
        rw [hszA] at h3A hvb
        have hoB := (HO3.out.kept hbA).kept hbB
        have HMS : Hid ((ls.take i ++ x :: ls.drop i).map Sv.s = (ls.map Sv.s).take i ++ serOf s :: (ls.map Sv.s).drop i) := by
          show _ = _
          rw [List.map_append, List.map_cons, List.map_take, List.map_drop, hx]
        have HLN : Hid ((ls.take i ++ x :: ls.drop i).length = ls.length + 1) := by show _ = _; simp; omega
        have HWA := Lib.hid hWA
        have HWB := Lib.hid hWB
        clear hcB hx hWA hWB
        go_wp2_with fail
        rw [HWA.out, HWB.out]
        by_cases hin : i < ls.length
        · clear z0 z1 p0 p1 hlb hld
          refine (insert_mid ls x i hin (by omega) gs B (w3.heap.size + 1) 1 WB hoB h3A hvb).mono ?_
          rintro e7 w7 ⟨c7, rfl, ho7, hb7⟩
          have hb37 := hbA.trans ((hbB.trans (hb7.mono hbB.size)).mono hbA.size)
          have hpx7 : OwnP w7 w3.heap.size (.slice x.a x.s.pts.length x.cap) x.s.pts := by rw [HX.out]; exact (hpA.kept hbB).kept hb7
          have hg7 := Good.ins HG3.out hb37 (Nat.le_trans HBB.out HB3.out.size) (Nat.le_trans hbA.size hbB.size) i x hpx7 (by rw [HX.out]; exact off_lt' hszB)
          have HGF := Lib.hid hg7
          have HOF := Lib.hid (OwnR.low ho7 (Nat.le_trans HBB.out (Nat.le_trans HB3.out.size (Nat.le_trans hbA.size hbB.size))))
          have HBF := Lib.hid ((HB3.out.trans (hb37.mono HB3.out.size)).mono HBB.out)
          clear ho7 hb7 hb37 hpx7 hg7 hbA hbB hpA h3A hszB
          go_wp2
          go_ret2
          exact putOut_of _ c7 (ls.take i ++ x :: ls.drop i) 0 (by rw [HLN.out]; rfl) (by rw [HMS.out]; exact HP.out) (by rw [HLN.out]; exact HOF.out) HGF.out HBF.out
        · obtain rfl : i = ls.length := by omega
          have htd : ls.take ls.length ++ x :: ls.drop ls.length = ls ++ [x] := by simp
          rw [htd] at HMS HLN
          clear z0 z1 p0 p1 hlb hld
          refine (insert_end ls x (by omega) gs B (w3.heap.size + 1) 1 WB hoB h3A).mono ?_
          rintro e7 w7 ⟨c7, rfl, ho7, hb7⟩
          have hb37 := hbA.trans ((hbB.trans (hb7.mono hbB.size)).mono hbA.size)
          have hpx7 : OwnP w7 w3.heap.size (.slice x.a x.s.pts.length x.cap) x.s.pts := by rw [HX.out]; exact (hpA.kept hbB).kept hb7
          have hg7 := Good.ins HG3.out hb37 (Nat.le_trans HBB.out HB3.out.size) (Nat.le_trans hbA.size hbB.size) ls.length x hpx7 (by rw [HX.out]; exact off_lt' hszB)
          rw [htd] at hg7
          have HGF := Lib.hid hg7
          have HOF := Lib.hid (OwnR.low ho7 (Nat.le_trans HBB.out (Nat.le_trans HB3.out.size (Nat.le_trans hbA.size hbB.size))))
          have HBF := Lib.hid ((HB3.out.trans (hb37.mono HB3.out.size)).mono HBB.out)
          clear ho7 hb7 hb37 hpx7 hg7 hbA hbB hpA h3A hszB
          go_wp2
          go_ret2
          exact putOut_of _ c7 (ls ++ [x]) 0 (by rw [HLN.out]; rfl) (by rw [HMS.out]; exact HP.out) (by rw [HLN.out]; exact HOF.out) HGF.out HBF.out
end Go.Proofs.Ytimpajhgplkpmaa.Put
