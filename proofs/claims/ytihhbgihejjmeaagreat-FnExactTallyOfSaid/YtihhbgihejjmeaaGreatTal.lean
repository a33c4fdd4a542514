/- TallyOf: plain mathematics; the model's. -/
import Derived.Test.YtihhbgihejjmeaaGreatClss
import Derived.Test.YtihhbgihejjmeaaGreatAvg
import Derived.Test.YtihhbgihejjmeaaGreatCc
namespace Go.Proofs.YtihhbgihejjmeaaGreat.Tal
open Go.RowKit Go.Sort
open Go.Proofs.YtihhbgihejjmeaaGreat.C1
open Go.Proofs.YtihhbgihejjmeaaGreat.C2
open Go.Proofs.YtihhbgihejjmeaaGreat.Smps
open Go.Proofs.YtihhbgihejjmeaaGreat.Mem
open Go.Proofs.YtihhbgihejjmeaaGreat.Ints
open Go.Proofs.YtihhbgihejjmeaaGreat.Ser
open Go.Proofs.YtihhbgihejjmeaaGreat.Ser2
open Go.Proofs.YtihhbgihejjmeaaGreat.Key
open Go.Proofs.YtihhbgihejjmeaaGreat.Sto
open Go.Proofs.YtihhbgihejjmeaaGreat.StoL
open Go.Proofs.YtihhbgihejjmeaaGreat.Lat
open Go.Proofs.YtihhbgihejjmeaaGreat.Pd
open Go.Proofs.YtihhbgihejjmeaaGreat.Pds
open Go.Proofs.YtihhbgihejjmeaaGreat.Ros
open Go.Proofs.YtihhbgihejjmeaaGreat.Pok
open Go.Proofs.YtihhbgihejjmeaaGreat.Cls
open Go.Proofs.YtihhbgihejjmeaaGreat.ClsI
open Go.Proofs.YtihhbgihejjmeaaGreat.OwnI
open Go.Proofs.YtihhbgihejjmeaaGreat.Clss
open Go.Proofs.YtihhbgihejjmeaaGreat.Cc
set_option linter.unusedVariables false

structure Tl where
  rdy : Int
  unr : Int
  mis : Int
  sum : Int
def tlV (t : Tl) : Value := .agg #[.int .i64 t.rdy, .int .i64 t.unr, .int .i64 t.mis, .int .i64 t.sum]
/-- The usage of a ready pod. -/
def usageV (xs : List Ser) (m : ByteArray) (now : Int) (r : Rl) (p : Pd) : Int :=
  if C1L.meanOk (Avg.avgL xs p.nm m (now - r.wi) now) = true then C1L.meanV (Avg.avgL xs p.nm m (now - r.wi) now) else (lastV xs p.nm m).val
def rdyP (xs : List Ser) (m : ByteArray) (now : Int) (r : Rl) (p : Pd) : Bool := coreI xs m now r p == 0
def useL (ls : List Pd) (xs : List Ser) (m : ByteArray) (now : Int) (r : Rl) : List Int := (ls.filter (rdyP xs m now r)).map (usageV xs m now r)
def cntT (ls : List Pd) (xs : List Ser) (m : ByteArray) (now : Int) (r : Rl) (c : Int) : Nat := ctn (ls.map (coreI xs m now r)) c
noncomputable def tallyOk (ls : List Pd) (xs : List Ser) (m : ByteArray) (now : Int) (r : Rl) : Bool := podsV ls && (ls.isEmpty || viewV xs now r) && !C1L.addB (useL ls xs m now r)
noncomputable def tallyV (ls : List Pd) (xs : List Ser) (m : ByteArray) (now : Int) (r : Rl) : Tl :=
  if tallyOk ls xs m now r = true then ⟨cntT ls xs m now r 0, cntT ls xs m now r 1, cntT ls xs m now r 2, C1L.addV (useL ls xs m now r)⟩ else ⟨0, 0, 0, 0⟩
theorem tally_no {ls : List Pd} {xs : List Ser} {m : ByteArray} {now : Int} {r : Rl} (h : tallyOk ls xs m now r = false) : tallyV ls xs m now r = ⟨0, 0, 0, 0⟩ := by unfold tallyV; rw [if_neg (by rw [h]; exact Bool.false_ne_true)]
theorem tally_yes {ls : List Pd} {xs : List Ser} {m : ByteArray} {now : Int} {r : Rl} (h : tallyOk ls xs m now r = true) : tallyV ls xs m now r = ⟨cntT ls xs m now r 0, cntT ls xs m now r 1, cntT ls xs m now r 2, C1L.addV (useL ls xs m now r)⟩ := by unfold tallyV; rw [if_pos h]
theorem use_len (ls : List Pd) (xs : List Ser) (m : ByteArray) (now : Int) (r : Rl) (k : Nat) : (useL (ls.take k) xs m now r).length ≤ k := by
  unfold useL
  rw [List.length_map]
  exact Nat.le_trans (List.length_filter_le _ _) (by rw [List.length_take]; omega)
theorem use_no {ls : List Pd} {xs : List Ser} {m : ByteArray} {now : Int} {r : Rl} {k : Nat} (h : k < ls.length) {p : Pd} (hp : ls[k] = p) (h2 : rdyP xs m now r p = false) : useL (ls.take (k + 1)) xs m now r = useL (ls.take k) xs m now r := by
  unfold useL
  rw [List.take_succ_eq_append_getElem h, List.filter_append, List.map_append, hp]
  simp [h2]
theorem use_yes {ls : List Pd} {xs : List Ser} {m : ByteArray} {now : Int} {r : Rl} {k : Nat} (h : k < ls.length) {p : Pd} (hp : ls[k] = p) (h2 : rdyP xs m now r p = true) : useL (ls.take (k + 1)) xs m now r = useL (ls.take k) xs m now r ++ [usageV xs m now r p] := by
  unfold useL
  rw [List.take_succ_eq_append_getElem h, List.filter_append, List.map_append, hp]
  simp [h2]
/-- Results that are a tally's cells and a bool. -/
theorem ret_tally {fn : Func} {k j : Nat} (hr : fn.results = #[.cell k 44, .tmp j]) {W : World} {g : Nat} {t : Tl} {b : Bool} {tmps : Array Value} (h : CellsW W g [.int .i64 t.rdy, .int .i64 t.unr, .int .i64 t.mis, .int .i64 t.sum]) (h2 : tmps.getD k undef = .pointer (some ⟨g, 0, none⟩)) (h3 : tmps.getD j undef = .bool b) :
    (results fn tmps).run Tryz.prog W = .ok (.tuple #[tlV t, .bool b]) W := by
  obtain ⟨c0, c1, c2, c3⟩ := cells4 h
  rw [results_cell_tmp hr, h2, h3]
  simp [go_sem, c0, c1, c2, c3, tlV]
theorem CellsW.far {w w' : World} {row : Option Nat} {g : Nat} {vs : List Value} (h : CellsW w g vs) (hg : w.grownBy w' row) (hne : row ≠ some g) : CellsW w' g vs := by
  have hb := hg.block g h.1 (fun e => hne e.symm)
  refine ⟨Nat.lt_of_lt_of_le h.1 hg.size, fun j hj => ⟨(World.cell?_of_block (w := w) hb).trans (h.2 j hj).1, ?_⟩⟩
  have hf := (h.2 j hj).2
  simp only [World.frozen?, hb] at hf ⊢
  exact hf
theorem zero4 : [Value.int .i64 0, .int .i64 0, .int .i64 0, .int .i64 0] = [Value.int .i64 (⟨0, 0, 0, 0⟩ : Tl).rdy, .int .i64 (⟨0, 0, 0, 0⟩ : Tl).unr, .int .i64 (⟨0, 0, 0, 0⟩ : Tl).mis, .int .i64 (⟨0, 0, 0, 0⟩ : Tl).sum] := rfl
/-- The four stores of a tally into its variable. -/
theorem tl_set {w : World} {g : Nat} {u0 u1 u2 u3 : Value} (h : CellsW w g [u0, u1, u2, u3]) (t : Tl) {B : Nat} (hB : B ≤ g) {a : World} (hb : Below B a w) :
    CellsW ((((w.setCell ⟨g, 0, none⟩ (.int .i64 t.rdy)).setCell ⟨g, 1, none⟩ (.int .i64 t.unr)).setCell ⟨g, 2, none⟩ (.int .i64 t.mis)).setCell ⟨g, 3, none⟩ (.int .i64 t.sum)) g [.int .i64 t.rdy, .int .i64 t.unr, .int .i64 t.mis, .int .i64 t.sum] ∧ Below B a ((((w.setCell ⟨g, 0, none⟩ (.int .i64 t.rdy)).setCell ⟨g, 1, none⟩ (.int .i64 t.unr)).setCell ⟨g, 2, none⟩ (.int .i64 t.mis)).setCell ⟨g, 3, none⟩ (.int .i64 t.sum)) :=
  ⟨(((h.set 0 (.int .i64 t.rdy) (by simp)).set 1 (.int .i64 t.unr) (by simp)).set 2 (.int .i64 t.mis) (by simp)).set 3 (.int .i64 t.sum) (by simp), (((hb.setCell (p := ⟨g, 0, none⟩) hB _).setCell (p := ⟨g, 1, none⟩) hB _).setCell (p := ⟨g, 2, none⟩) hB _).setCell (p := ⟨g, 3, none⟩) hB _⟩
theorem cellsF4 {w : World} {g : Nat} {a b c d : Value} (h : CellsW w g [a, b, c, d]) : w.frozen? ⟨g, 0, none⟩ = false ∧ w.frozen? ⟨g, 1, none⟩ = false ∧ w.frozen? ⟨g, 2, none⟩ = false ∧ w.frozen? ⟨g, 3, none⟩ = false :=
  ⟨(h.2 0 (by simp)).2, (h.2 1 (by simp)).2, (h.2 2 (by simp)).2, (h.2 3 (by simp)).2⟩
theorem CellsW.off {w : World} {g c j : Nat} {vs : List Value} (h : CellsW w g vs) (u : Value) (hne : g ≠ c) : CellsW (w.setCell ⟨c, j, none⟩ u) g vs :=
  ⟨by simpa [World.setCell] using h.1, fun i hi => ⟨by rw [World.cell?_setCell_other (h := show (⟨c, j, none⟩ : Addr) ≠ ⟨g, i, none⟩ by intro hh; cases hh; exact hne rfl)]; exact (h.2 i hi).1, by rw [World.frozen?_setCell]; exact (h.2 i hi).2⟩⟩
theorem zT : (⟨0, 0, 0, 0⟩ : Tl).rdy = 0 ∧ (⟨0, 0, 0, 0⟩ : Tl).unr = 0 := ⟨rfl, rfl⟩
set_option maxHeartbeats 8000000 in
set_option maxRecDepth 20000 in
theorem spec_tally (ls : List Pd) (hwp : ∀ p ∈ ls, p.wf) (ap : Option Addr) (capp : Nat) (ss : List Sv) (a : Option Addr) (cap : Nat) (m : ByteArray) (now : Int) (r : Rl) (w : World) (hp : Pds w ap ls) (hmp : ls.length ≤ 1048576) (hwf : ∀ l ∈ ss, l.s.wf) (hpl : ∀ l ∈ ss, l.s.pts.length ≤ 1048576) (h : Srs w a ss) (hm : ss.length ≤ 1048576) :
    Calls Tryz.prog 19 #[.slice ap ls.length capp, .slice a ss.length cap, .string m, .int .i64 now, rlV r] w fun e w' => e = .returned (.tuple #[tlV (tallyV ls (ss.map Sv.s) m now r), .bool (tallyOk ls (ss.map Sv.s) m now r)]) ∧ Below w.heap.size w w' := by
  obtain ⟨cs, hcs⟩ : ∃ cs, classesV ls (ss.map Sv.s) m now r = cs := ⟨_, rfl⟩
  have HCC : Hid (∀ w, Pds w ap ls → Srs w a ss → Calls Tryz.prog 7 #[.slice ap ls.length capp, .slice a ss.length cap, .string m, .int .i64 now, rlV r] w fun e w' => (∃ a cap, e = .returned (.slice a cs.length cap) ∧ OwnI w' w.heap.size (.slice a cs.length cap) cs) ∧ Below w.heap.size w w') := fun w h1 h2 => spec_classes2 ls hwp ap capp ss ss rfl a cap m now r w h1 hmp hwf hpl h2 hm hcs
  have HCP : Hid (∀ w, Pds w ap ls → Calls Tryz.prog 24 #[.slice ap ls.length capp] w fun e w' => e = .returned (.bool (podsV ls)) ∧ Below w.heap.size w w') := fun w h => spec_podsok ls hwp ap capp w h hmp
  have HCA : Hid (∀ (p : ByteArray) w, Srs w a ss → Calls Tryz.prog 36 #[.slice a ss.length cap, .string p, .string m, .int .i64 (now - r.wi), .int .i64 now] w fun e w' => e = .returned (.tuple #[.int .i64 (C1L.meanV (Avg.avgL (ss.map Sv.s) p m (now - r.wi) now)), .bool (C1L.meanOk (Avg.avgL (ss.map Sv.s) p m (now - r.wi) now))]) ∧ Below w.heap.size w w') := fun p w h => Avg.spec_avg ss a cap p m (now - r.wi) now w hwf hpl h hm
  have HCL : Hid (∀ (p : ByteArray) w, Srs w a ss → Calls Tryz.prog 37 #[.slice a ss.length cap, .string p, .string m] w fun e w' => e = .returned (.tuple #[ptV (lastV (ss.map Sv.s) p m), .bool (lastB (ss.map Sv.s) p m)]) ∧ Below w.heap.size w w') := fun p w h => spec_latest ss a cap p m w hwf hpl h hm
  have HCS := Lib.hid hcs
  clear hcs
  obtain ⟨b, off, ha, hb, hcell⟩ := hp.cells
  have Hc := Lib.hid hcell
  have Ha := Lib.hid ha
  have Hb := Lib.hid hb
  have HP := Lib.hid hp
  have HS := Lib.hid h
  clear hcell ha hb hp h hwf hpl hwp
  obtain ⟨T, hT⟩ : ∃ T, tallyV ls (ss.map Sv.s) m now r = T := ⟨_, rfl⟩
  obtain ⟨bo, hbo⟩ : ∃ bo, tallyOk ls (ss.map Sv.s) m now r = bo := ⟨_, rfl⟩
  have HNO : Hid (bo = false → T = ⟨0, 0, 0, 0⟩) := fun e => by rw [← hT]; exact tally_no (hbo.trans e)
  have HYES : Hid (bo = true → T = ⟨cntT ls (ss.map Sv.s) m now r 0, cntT ls (ss.map Sv.s) m now r 1, cntT ls (ss.map Sv.s) m now r 2, C1L.addV (useL ls (ss.map Sv.s) m now r)⟩) := fun e => by rw [← hT]; exact tally_yes (hbo.trans e)
  have HBO : Hid (bo = (podsV ls && (ls.isEmpty || viewV (ss.map Sv.s) now r) && !C1L.addB (useL ls (ss.map Sv.s) m now r))) := by rw [← hbo]; exact Lib.hid rfl
  rw [hT, hbo]
  clear hT hbo
  unfold rlV at HCC
  unfold ptV at HCL
  unfold rlV
  have HR := Lib.hid (box2_cells w #[.int .i64 r.dl, .int .i64 r.fr, .int .i64 r.wi] #[.int .i64 0, .int .i64 0, .int .i64 0, .int .i64 0] 34 44)
  have H0 := Lib.hid (box2_below w (.cells #[.int .i64 r.dl, .int .i64 r.fr, .int .i64 r.wi] 34) (.cells #[.int .i64 0, .int .i64 0, .int .i64 0, .int .i64 0] 44))
  obtain ⟨W0, hW0⟩ : ∃ W0, (w.alloc (.cells #[.int .i64 r.dl, .int .i64 r.fr, .int .i64 r.wi] 34)).alloc (.cells #[.int .i64 0, .int .i64 0, .int .i64 0, .int .i64 0] 44) = W0 := ⟨_, rfl⟩
  have HE : Hid (W0.heap.size = w.heap.size + 2) := by rw [← hW0]; exact Lib.hid (by simp)
  rw [hW0] at HR H0
  have HWE := Lib.hid hW0
  clear hW0
  have HPK : Hid (∀ W, Hid (Below (w.heap.size + 2) W0 W) → Pds W ap ls) := fun W h => (HP.out.kept H0.out).kept (by rw [HE.out]; exact h.out)
  have HSK : Hid (∀ W, Hid (Below (w.heap.size + 2) W0 W) → Srs W a ss) := fun W h => (HS.out.kept H0.out).kept (by rw [HE.out]; exact h.out)
  have HB0 : Hid (Below (w.heap.size + 2) W0 W0) := Below.refl _ _
  obtain ⟨r0, r1, r2⟩ := cells3 HR.out.1
  go_enter Tryz.func19, Tryz.ntmps19
  go_wp2_with fail
  rw [HWE.out]
  clear r0 r1 r2
  refine (HCC.out _ (HPK.out _ HB0) (HSK.out _ HB0)).mono ?_
  rintro e v1 ⟨⟨ac, cc, rfl, hoc⟩, hb⟩
  have HB1 := Lib.hid (HB0.out.trans (hb.mono (bsz HE HB0.out)))
  have HOC := Lib.hid hoc
  clear hb hoc
  go_wp2_with fail
  refine (HCP.out _ (HPK.out _ HB1)).mono ?_
  rintro e v2 ⟨rfl, hb⟩
  have HB2 := Lib.hid (HB1.out.trans (hb.mono (bsz HE HB1.out)))
  have HOC2 := Lib.hid (HOC.out.kept hb)
  clear hb HOC HCC HCP
  have HZ2 := Lib.hid (HR.out.2.kept (by rw [HE.out]; exact HB2.out))
  have HBF2 := Lib.hid (H0.out.trans (HB2.out.mono (by omega)))
  cases c1 : podsV ls
  · have HN : Hid (bo = false) := by rw [HBO.out, c1]; exact Lib.hid rfl
    obtain rfl : T = ⟨0, 0, 0, 0⟩ := HNO.out HN.out
    obtain rfl : bo = false := HN.out
    obtain ⟨z0, z1, z2, z3⟩ := cells4 HZ2.out
    obtain ⟨f0, f1, f2, f3⟩ := cellsF4 HZ2.out
    clear c1 HBO HYES HNO
    go_wp2
    obtain ⟨k1, k2⟩ := tl_set HZ2.out ⟨0, 0, 0, 0⟩ (by omega) HBF2.out
    exact bodyPost_ret (ret_tally rfl k1 rfl rfl) rfl ⟨rfl, k2⟩
  · have HOK := Lib.hid ((podsV_iff ls).1 c1).2.1
    have hl12 := ((podsV_iff ls).1 c1).1
    have HK1 := Lib.hid c1
    clear c1
    by_cases hgood : ls = [] ∨ viewV (ss.map Sv.s) now r = true
    · have HCM : Hid (cs = ls.map (coreI (ss.map Sv.s) m now r)) := by
        rw [← HCS.out]
        rcases hgood with h | h
        · subst h
          cases hb : viewV (ss.map Sv.s) now r
          · rw [classes_no (by rw [hb, Bool.and_false])]; exact Lib.hid rfl
          · rw [classes_yes HK1.out hb]; exact Lib.hid rfl
        · rw [classes_yes HK1.out h]; exact Lib.hid rfl
      have hcl : cs.length = ls.length := by rw [HCM.out, List.length_map]
      have HBO2 : Hid (bo = !C1L.addB (useL ls (ss.map Sv.s) m now r)) := by
        rw [HBO.out, HK1.out]
        rcases hgood with h | h
        · rw [h]; exact Lib.hid rfl
        · rw [h, Bool.or_true]; exact Lib.hid rfl
      have hne : ((cs.length : Int) != (ls.length : Int)) = false := by rw [hcl]; simp
      have HCLN := Lib.hid hcl
      have HGD := Lib.hid hgood
      have HIC := Lib.hid (show Ints v2 ac cs by obtain ⟨a', c', e, hi⟩ := HOC2.out.ints; cases e; exact hi)
      obtain ⟨n0, hn0⟩ : ∃ n0, ctn cs 0 = n0 := ⟨_, rfl⟩
      obtain ⟨n1, hn1⟩ : ∃ n1, ctn cs 1 = n1 := ⟨_, rfl⟩
      obtain ⟨n2, hn2⟩ : ∃ n2, ctn cs 2 = n2 := ⟨_, rfl⟩
      have HCN0 := Lib.hid (spec_countclass cs 0 ac cc v2 HIC.out (by omega))
      have HCN1 := Lib.hid (spec_countclass cs 1 ac cc v2 HIC.out (by omega))
      have HCN2 := Lib.hid (spec_countclass cs 2 ac cc v2 HIC.out (by omega))
      rw [hn0] at HCN0
      rw [hn1] at HCN1
      rw [hn2] at HCN2
      have HNN : Hid (cntT ls (ss.map Sv.s) m now r 0 = n0 ∧ cntT ls (ss.map Sv.s) m now r 1 = n1 ∧ cntT ls (ss.map Sv.s) m now r 2 = n2) := by unfold cntT; rw [← HCM.out]; exact ⟨hn0, hn1, hn2⟩
      clear hcl hgood HBO HCS hn0 hn1 hn2
      go_wp2_with fail
      refine HCN0.out.mono ?_
      rintro e w' ⟨rfl, rfl⟩
      go_wp2_with fail
      refine HCN1.out.mono ?_
      rintro e w' ⟨rfl, rfl⟩
      go_wp2_with fail
      refine HCN2.out.mono ?_
      rintro e w' ⟨rfl, rfl⟩
      clear HCN0 HCN1 HCN2
      have HB3v := Lib.hid (box_below v2 #[.int .i64 (n0 : Int), .int .i64 (n1 : Int), .int .i64 (n2 : Int), .int .i64 0] 44)
      have HT3 := Lib.hid (cells_new v2 #[.int .i64 (n0 : Int), .int .i64 (n1 : Int), .int .i64 (n2 : Int), .int .i64 0] 44)
      obtain ⟨W3, hW3⟩ : ∃ W3, v2.alloc (.cells #[.int .i64 (n0 : Int), .int .i64 (n1 : Int), .int .i64 (n2 : Int), .int .i64 0] 44) = W3 := ⟨_, rfl⟩
      have HE3 : Hid (W3.heap.size = v2.heap.size + 1) := by rw [← hW3]; exact Lib.hid (by simp)
      rw [hW3] at HB3v HT3
      have HW3 := Lib.hid hW3
      have hN := OwnI.new W3 (B := v2.heap.size + 1) (by rw [HE3.out]; exact Nat.le_refl _)
      have hbx := box_below W3 #[] 3
      rw [HE3.out] at hN hbx
      have HN3 := Lib.hid hN
      have HB4 := Lib.hid hbx
      have HV2 := Lib.hid (bsz HE HB2.out)
      have HB3 := Lib.hid (HB2.out.trans (HB3v.out.mono HV2.out))
      clear hN hbx hW3
      obtain ⟨i0, hi, hz0, hz1, hz2⟩ := info_int
      go_wp2
      rw [HW3.out]
      go_loopw [14, 15] (fun v i wr => ∃ k : Nat, k ≤ ls.length ∧ i = .int .i64 k ∧ Hid (OwnI wr (v2.heap.size + 1) v (useL (ls.take k) (ss.map Sv.s) m now r)) ∧ Hid (Below (v2.heap.size + 1) W3 wr)) (fun _ i _ => ls.length - (intOf i).toNat)
      case atStart => exact ⟨0, Nat.zero_le _, rfl, HN3, HB4⟩
      case round =>
        obtain ⟨k, hk, rfl, HO, HB⟩ := hrel
        have HX := Lib.hid (HB3.out.trans (HB.out.mono (by have := HV2.out; omega)))
        by_cases hlt : k < ls.length
        · obtain ⟨p, hp⟩ : ∃ p, ls[k] = p := ⟨_, rfl⟩
          have hpm : p ∈ ls := by rw [← hp]; exact List.getElem_mem hlt
          have hbw := Hb.out (by omega)
          have hq := (Hc.out k hlt).kept H0.out hbw
          have HBW := Lib.hid hbw
          obtain rfl := Ha.out (by omega)
          rw [hp] at hq
          have HNM := Lib.hid hq
          have hic : Ints wr ac cs := HIC.out.kept (HB3v.out.trans (HB.out.mono (Nat.le_succ _)))
          obtain ⟨bc, oc, hcc⟩ := C1L.Ints.cells hic
          obtain rfl := hcc.1 (by have := HCLN.out; omega)
          have hx := hcc.2 k (by have := HCLN.out; omega)
          have hkc : k < cs.length := by have := HCLN.out; omega
          obtain ⟨q, hqq⟩ : ∃ q, cs[k]'(by have := HCLN.out; omega) = q := ⟨_, rfl⟩
          have hqc : q = coreI (ss.map Sv.s) m now r p := by
            rw [← hqq]
            simp only [HCM.out, List.getElem_map, hp]
          rw [hqq] at hx
          clear hqq hcc hic hq
          obtain ⟨ys, hys⟩ : ∃ ys, useL (ls.take k) (ss.map Sv.s) m now r = ys := ⟨_, rfl⟩
          have hyl : ys.length ≤ 12 := by rw [← hys]; exact Nat.le_trans (use_len _ _ _ _ _ _) (by omega)
          cases hr : rdyP (ss.map Sv.s) m now r p
          · have HU := Lib.hid (use_no hlt hp hr)
            have hne : (q != 0) = true := by unfold rdyP at hr; rw [hqc]; simp only [bne, hr, Bool.not_false]
            clear hr hqc hpm hp
            rw [hys] at HU HO
            clear hys
            go_wp2
            go_roundw
            case rel => exact ⟨k + 1, by omega, by go_num, by rw [HU.out]; exact HO, HB⟩
            case measure => simp [intOf]; omega
          · have HU := Lib.hid (use_yes hlt hp hr)
            have hne : (q != 0) = false := by unfold rdyP at hr; rw [hqc]; simp only [bne, hr, Bool.not_true]
            have hvw : viewV (ss.map Sv.s) now r = true := by
              rcases HGD.out with h | h
              · rw [h] at hlt; simp at hlt
              · exact h
            unfold viewV at hvw
            simp only [Bool.and_eq_true] at hvw
            obtain ⟨-, -, -, -, g5, g6⟩ := rlOk hvw.1.1
            obtain ⟨t1, t2⟩ := sizeOk hvw.1.2
            rw [hys] at HU HO
            clear hr hqc hys hvw
            obtain ⟨uu, huu⟩ : ∃ uu, usageV (ss.map Sv.s) m now r p = uu := ⟨_, rfl⟩
            rw [huu] at HU
            have HCA1 := Lib.hid (HCA.out p.nm)
            have HCL1 := Lib.hid (HCL.out p.nm)
            unfold usageV at huu
            obtain ⟨av, hav⟩ : ∃ av, C1L.meanV (Avg.avgL (ss.map Sv.s) p.nm m (now - r.wi) now) = av := ⟨_, rfl⟩
            obtain ⟨ok, hok⟩ : ∃ ok, C1L.meanOk (Avg.avgL (ss.map Sv.s) p.nm m (now - r.wi) now) = ok := ⟨_, rfl⟩
            obtain ⟨x, hxx⟩ : ∃ x, lastV (ss.map Sv.s) p.nm m = x := ⟨_, rfl⟩
            obtain ⟨y, hyy⟩ : ∃ y, lastB (ss.map Sv.s) p.nm m = y := ⟨_, rfl⟩
            rw [hav, hok] at HCA1
            rw [hxx, hyy] at HCL1
            rw [hav, hok, hxx] at huu
            have HUU := Lib.hid huu
            have hwr : IntKind.i64.wrap (now - r.wi) = now - r.wi := by rw [IntKind.wrap_i64]; omega
            clear hav hok hxx hyy huu hpm hp
            have HT : Hid (∀ W, Hid (Below (v2.heap.size + 1) W3 W) → (W.cell? ⟨b, off + k * 4, none⟩ = some (.string p.nm) ∧ W.cell? ⟨w.heap.size, 2, none⟩ = some (.int .i64 r.wi))) := fun W hW => by
              have hX2 := HB3.out.trans (hW.out.mono (by have := HV2.out; omega))
              exact ⟨(HNM.out.kept hX2 (by have := HBW.out; omega)).1, (cells3 (HR.out.1.kept (by rw [HE.out]; exact hX2))).2.2⟩
            have HBD : Hid (Below (v2.heap.size + 1) W3 wr.drew) := HB.out.drew
            have HOD : Hid (OwnI wr.drew (v2.heap.size + 1) _ ys) := HO
            have HSS : Hid (∀ W, Hid (Below (v2.heap.size + 1) W3 W) → Srs W a ss) := fun W hW => HSK.out W (HB3.out.trans (hW.out.mono (by have := HV2.out; omega)))
            have hnm0 := (HT.out wr HB).1
            go_wp2_with fail
            clear hnm0 hx
            go_region_held3 (fun w' => w'.cell? ⟨b, off + k * 4, none⟩ = some (.string p.nm) ∧ w'.cell? ⟨w.heap.size, 2, none⟩ = some (.int .i64 r.wi))
              (first | exact HT.out _ HV3 | exact HT.out _ HBD)
              (first
                | (go_at_call 36; refine (HCA1.out _ (HSS.out _ HBD)).mono ?_; rintro e v3 ⟨rfl, hb⟩; have HO3 := Lib.hid (HOD.out.kept hb); have HV3 := Lib.hid (HBD.out.trans (hb.mono (bsz HE3 HBD.out))); clear hb))
            clear HBD HOD HCA1 HO HB
            cases ok
            · have hnm := (HT.out v3 HV3).1
              go_wp2_with fail
              clear hnm
              refine (HCL1.out _ (HSS.out _ HV3)).mono ?_
              rintro e v4 ⟨rfl, hb⟩
              have hbp := box_below v4 #[.int .i64 x.tick, .int .i64 x.val] 77
              have HO4 := Lib.hid ((HO3.out.kept hb).kept hbp)
              have hV4 := HV3.out.trans (hb.mono (bsz HE3 HV3.out))
              have hV5 := hV4.trans (hbp.mono (bsz HE3 hV4))
              have HSX := Lib.hid (hV5.alloc (bsz HE3 hV5) (.cells #[.int .i64 x.val] 3))
              have HSE := Lib.hid (bsz HE3 HSX.out)
              obtain rfl : x.val = uu := HUU.out
              have hcell := one_cell (v4.alloc (.cells #[.int .i64 x.tick, .int .i64 x.val] 77)) x.val 3
              have hsz : (v4.alloc (.cells #[.int .i64 x.tick, .int .i64 x.val] 77)).heap.size = v4.heap.size + 1 := by simp
              rw [hsz] at hcell
              have HCL9 := Lib.hid hcell
              clear hb hbp hV4 hV5 HCL1 hcell hsz
              go_wp2_with (at_builtin; refine wpList_append_own _ rfl _ _ 28 rfl (v2.heap.size + 1) 3 i0 (.int .i64 0) 1 8 Tryz.underlying28 hi hz0 hz1 hz2 rfl (by decide) _ _ _ rfl (World.ownsRow.alloc HO4.out _) ⟨v4.heap.size + 1, 0, none⟩ 1 1 [.int .i64 x.val] rfl rfl HCL9.out (by intro u hu; simp at hu; subst hu; rfl) (by unfold maxLen; omega) (by omega) HSE.out ?_)
              intro v' w8 hown' hgrow _
              have HO8 := Lib.hid (OwnI.snoc hown')
              have HB8 := Lib.hid (HSX.out.grown hgrow HSE.out (fun g hg => (World.ownsRow.lt HO4.out g hg).1))
              clear hown' hgrow
              go_wp2
              go_roundw
              case rel => exact ⟨k + 1, by omega, by go_num, by rw [HU.out]; exact HO8, HB8⟩
              case measure => simp [intOf]; omega
            · have HSX := Lib.hid (HV3.out.alloc (bsz HE3 HV3.out) (.cells #[.int .i64 av] 3))
              have HSE := Lib.hid (bsz HE3 HSX.out)
              obtain rfl : av = uu := HUU.out
              clear HCL1
              go_wp2_with (at_builtin; refine wpList_append_own _ rfl _ _ 28 rfl (v2.heap.size + 1) 3 i0 (.int .i64 0) 1 8 Tryz.underlying28 hi hz0 hz1 hz2 rfl (by decide) _ _ _ rfl (World.ownsRow.alloc HO3.out _) ⟨v3.heap.size, 0, none⟩ 1 1 [.int .i64 av] rfl rfl (one_cell _ _ _) (by intro u hu; simp at hu; subst hu; rfl) (by unfold maxLen; omega) (by omega) HSE.out ?_)
              intro v' w8 hown' hgrow _
              have HO8 := Lib.hid (OwnI.snoc hown')
              have HB8 := Lib.hid (HSX.out.grown hgrow HSE.out (fun g hg => (World.ownsRow.lt HO3.out g hg).1))
              clear hown' hgrow
              go_wp2
              go_roundw
              case rel => exact ⟨k + 1, by omega, by go_num, by rw [HU.out]; exact HO8, HB8⟩
              case measure => simp [intOf]; omega
        · obtain rfl : k = ls.length := by omega
          obtain ⟨ys, hys⟩ : ∃ ys, useL ls (ss.map Sv.s) m now r = ys := ⟨_, rfl⟩
          have hO := HO.out
          rw [List.take_of_length_le (Nat.le_refl _), hys] at hO
          have hyl : ys.length ≤ 12 := by rw [← hys]; have := use_len ls (ss.map Sv.s) m now r ls.length; rw [List.take_of_length_le (Nat.le_refl _)] at this; omega
          obtain ⟨ay, cy, rfl, hoy, -⟩ := hO.form
          have HIY := Lib.hid (show Ints wr ay ys by obtain ⟨a', c', e, hi⟩ := hoy.ints; cases e; exact hi)
          have hz5 := HR.out.2.kept (by rw [HE.out]; exact HX.out)
          have HZ5 := Lib.hid hz5
          have HT5 := Lib.hid (HT3.out.kept (by rw [HE3.out]; exact HB.out))
          have HBF := Lib.hid (H0.out.trans (HX.out.mono (by omega)))
          have hgz : w.heap.size + 1 ≠ v2.heap.size := by have := HV2.out; omega
          rw [hys] at HBO2 HYES
          obtain ⟨sm, hsm⟩ : ∃ sm, C1L.addV ys = sm := ⟨_, rfl⟩
          obtain ⟨ct, hct⟩ : ∃ ct, C1L.addB ys = ct := ⟨_, rfl⟩
          have HAD := Lib.hid (C1L.spec_add ys ay cy wr HIY.out (by omega))
          rw [hsm, hct] at HAD
          rw [hct] at HBO2
          rw [hsm] at HYES
          clear hys hO hoy hsm hct HO hz5
          go_wp2_with fail
          refine HAD.out.mono ?_
          rintro e w' ⟨rfl, rfl⟩
          cases ct
          · obtain rfl : bo = true := HBO2.out
            obtain rfl : T = ⟨(n0 : Int), (n1 : Int), (n2 : Int), sm⟩ := by rw [HYES.out rfl, HNN.out.1, HNN.out.2.1, HNN.out.2.2]
            obtain ⟨z0, z1, z2, z3⟩ := cells4 HZ5.out
            obtain ⟨f0, f1, f2, f3⟩ := cellsF4 HZ5.out
            obtain ⟨y0, y1, y2, y3⟩ := cells4 HT5.out
            obtain ⟨e0, e1, e2, e3⟩ := cellsF4 HT5.out
            clear HBO2 HYES HNO
            go_wp2
            obtain ⟨k1, k2⟩ := tl_set (CellsW.off (j := 3) HZ5.out (.int .i64 sm) hgz) ⟨(n0 : Int), (n1 : Int), (n2 : Int), sm⟩ (by omega) (HBF.out.setCell (p := ⟨v2.heap.size, 3, none⟩) (show w.heap.size ≤ v2.heap.size by have := HV2.out; omega) _)
            exact bodyPost_ret (ret_tally rfl k1 rfl rfl) rfl ⟨rfl, k2⟩
          · obtain rfl : bo = false := HBO2.out
            obtain rfl : T = ⟨0, 0, 0, 0⟩ := HNO.out rfl
            obtain ⟨z0, z1, z2, z3⟩ := cells4 HZ5.out
            obtain ⟨f0, f1, f2, f3⟩ := cellsF4 HZ5.out
            clear HBO2 HYES HNO
            go_wp2
            obtain ⟨k1, k2⟩ := tl_set HZ5.out ⟨0, 0, 0, 0⟩ (by omega) HBF.out
            exact bodyPost_ret (ret_tally rfl k1 rfl rfl) rfl ⟨rfl, k2⟩
    · have hne : ls ≠ [] := fun e => hgood (.inl e)
      have hvw : viewV (ss.map Sv.s) now r = false := by
        cases hb : viewV (ss.map Sv.s) now r
        · rfl
        · exact absurd (.inr hb) hgood
      have hem : ls.isEmpty = false := by cases ls with
        | nil => exact absurd rfl hne
        | cons x y => rfl
      have HN : Hid (bo = false) := by rw [HBO.out, hvw, hem, HK1.out]; exact Lib.hid rfl
      have hc0 : cs = [] := by rw [← HCS.out]; exact classes_no (by rw [hvw, Bool.and_false])
      subst hc0
      have hlp : 0 < ls.length := List.length_pos_iff.2 hne
      have hnl : ((0 : Int) != (ls.length : Int)) = true := by simp; omega
      obtain rfl : T = ⟨0, 0, 0, 0⟩ := HNO.out HN.out
      obtain rfl : bo = false := HN.out
      obtain ⟨z0, z1, z2, z3⟩ := cells4 HZ2.out
      obtain ⟨f0, f1, f2, f3⟩ := cellsF4 HZ2.out
      clear HBO HYES HNO hne hem hvw hgood
      go_wp2
      obtain ⟨k1, k2⟩ := tl_set HZ2.out ⟨0, 0, 0, 0⟩ (by omega) HBF2.out
      exact bodyPost_ret (ret_tally rfl k1 rfl rfl) rfl ⟨rfl, k2⟩
end Go.Proofs.YtihhbgihejjmeaaGreat.Tal
