/- TallyOf: plain mathematics; the model's. -/
import Derived.Test.YtgmdfkmmbcpikaaGreatClA
import Derived.Test.YtgmdfkmmbcpikaaGreatAvg
import Derived.Test.YtgmdfkmmbcpikaaGreatRosA
import Derived.Test.YtgmdfkmmbcpikaaGreatSzT
namespace Go.Proofs.YtgmdfkmmbcpikaaGreat.Tal
open Go.RowKit Go.Sort
open Go.Proofs.YtgmdfkmmbcpikaaGreat.C1
open Go.Proofs.YtgmdfkmmbcpikaaGreat.C2
open Go.Proofs.YtgmdfkmmbcpikaaGreat.Smps
open Go.Proofs.YtgmdfkmmbcpikaaGreat.Mem
open Go.Proofs.YtgmdfkmmbcpikaaGreat.Ints
open Go.Proofs.YtgmdfkmmbcpikaaGreat.Ser
open Go.Proofs.YtgmdfkmmbcpikaaGreat.Ser2
open Go.Proofs.YtgmdfkmmbcpikaaGreat.Key
open Go.Proofs.YtgmdfkmmbcpikaaGreat.Sto
open Go.Proofs.YtgmdfkmmbcpikaaGreat.StoL
open Go.Proofs.YtgmdfkmmbcpikaaGreat.Lat
open Go.Proofs.YtgmdfkmmbcpikaaGreat.Pd
open Go.Proofs.YtgmdfkmmbcpikaaGreat.Pds
open Go.Proofs.YtgmdfkmmbcpikaaGreat.Ros
open Go.Proofs.YtgmdfkmmbcpikaaGreat.Pok
open Go.Proofs.YtgmdfkmmbcpikaaGreat.Cls
open Go.Proofs.YtgmdfkmmbcpikaaGreat.ClsI
open Go.Proofs.YtgmdfkmmbcpikaaGreat.OwnI
open Go.Proofs.YtgmdfkmmbcpikaaGreat.Clss
open Go.Proofs.YtgmdfkmmbcpikaaGreat.Cc
set_option linter.unusedVariables false

structure Tl where
  rdy : Int
  unr : Int
  mis : Int
  sum : Int
def tlV (t : Tl) : Value := .agg #[.int .i64 t.rdy, .int .i64 t.unr, .int .i64 t.mis, .int .i64 t.sum]
/-- The usage of a ready pod. -/
def usageV (xs : List Ser) (m : ByteArray) (now : Int) (r : Rl) (p : Pd) : Int :=
  if C1L.meanOk (Avg.avgL xs p.nm m (now - r.wi) now) = true then C1L.meanV (Avg.avgL xs p.nm m (now - r.wi) now) else (lastV xs p.nm m).val
def rdyP (xs : List Ser) (m : ByteArray) (now : Int) (r : Rl) (p : Pd) : Bool := coreI xs m now r p == 0
def useL (ls : List Pd) (xs : List Ser) (m : ByteArray) (now : Int) (r : Rl) : List Int := (ls.filter (rdyP xs m now r)).map (usageV xs m now r)
def cntT (ls : List Pd) (xs : List Ser) (m : ByteArray) (now : Int) (r : Rl) (c : Int) : Nat := ctn (ls.map (coreI xs m now r)) c
noncomputable def tallyOk (ls : List Pd) (xs : List Ser) (m : ByteArray) (now : Int) (r : Rl) : Bool := podsV ls && (ls.isEmpty || viewV xs now r) && !C1L.addB (useL ls xs m now r)
noncomputable def tallyV (ls : List Pd) (xs : List Ser) (m : ByteArray) (now : Int) (r : Rl) : Tl :=
  if tallyOk ls xs m now r = true then ⟨cntT ls xs m now r 0, cntT ls xs m now r 1, cntT ls xs m now r 2, C1L.addV (useL ls xs m now r)⟩ else ⟨0, 0, 0, 0⟩
theorem tally_no {ls : List Pd} {xs : List Ser} {m : ByteArray} {now : Int} {r : Rl} (h : tallyOk ls xs m now r = false) : tallyV ls xs m now r = ⟨0, 0, 0, 0⟩ := by unfold tallyV; rw [if_neg (by rw [h]; exact Bool.false_ne_true)]
theorem tally_yes {ls : List Pd} {xs : List Ser} {m : ByteArray} {now : Int} {r : Rl} (h : tallyOk ls xs m now r = true) : tallyV ls xs m now r = ⟨cntT ls xs m now r 0, cntT ls xs m now r 1, cntT ls xs m now r 2, C1L.addV (useL ls xs m now r)⟩ := by unfold tallyV; rw [if_pos h]
theorem use_len (ls : List Pd) (xs : List Ser) (m : ByteArray) (now : Int) (r : Rl) (k : Nat) : (useL (ls.take k) xs m now r).length ≤ k := by
  unfold useL
  rw [List.length_map]
  exact Nat.le_trans (List.length_filter_le _ _) (by rw [List.length_take]; omega)
theorem use_no {ls : List Pd} {xs : List Ser} {m : ByteArray} {now : Int} {r : Rl} {k : Nat} (h : k < ls.length) {p : Pd} (hp : ls[k] = p) (h2 : rdyP xs m now r p = false) : useL (ls.take (k + 1)) xs m now r = useL (ls.take k) xs m now r := by
  unfold useL
  rw [List.take_succ_eq_append_getElem h, List.filter_append, List.map_append, hp]
  simp [h2]
theorem use_yes {ls : List Pd} {xs : List Ser} {m : ByteArray} {now : Int} {r : Rl} {k : Nat} (h : k < ls.length) {p : Pd} (hp : ls[k] = p) (h2 : rdyP xs m now r p = true) : useL (ls.take (k + 1)) xs m now r = useL (ls.take k) xs m now r ++ [usageV xs m now r p] := by
  unfold useL
  rw [List.take_succ_eq_append_getElem h, List.filter_append, List.map_append, hp]
  simp [h2]
/-- Results that are a tally's cells and a bool. -/
theorem ret_tally {fn : Func} {k j : Nat} (hr : fn.results = #[.cell k 150, .tmp j]) {W : World} {g : Nat} {t : Tl} {b : Bool} {tmps : Array Value} (h : CellsW W g [.int .i64 t.rdy, .int .i64 t.unr, .int .i64 t.mis, .int .i64 t.sum]) (h2 : tmps.getD k undef = .pointer (some ⟨g, 0, none⟩)) (h3 : tmps.getD j undef = .bool b) :
    (results fn tmps).run Tryz.prog W = .ok (.tuple #[tlV t, .bool b]) W := by
  obtain ⟨c0, c1, c2, c3⟩ := cells4 h
  rw [results_cell_tmp hr, h2, h3]
  simp [go_sem, c0, c1, c2, c3, tlV]
theorem CellsW.far {w w' : World} {row : Option Nat} {g : Nat} {vs : List Value} (h : CellsW w g vs) (hg : w.grownBy w' row) (hne : row ≠ some g) : CellsW w' g vs := by
  have hb := hg.block g h.1 (fun e => hne e.symm)
  refine ⟨Nat.lt_of_lt_of_le h.1 hg.size, fun j hj => ⟨(World.cell?_of_block (w := w) hb).trans (h.2 j hj).1, ?_⟩⟩
  have hf := (h.2 j hj).2
  simp only [World.frozen?, hb] at hf ⊢
  exact hf
theorem zero4 : [Value.int .i64 0, .int .i64 0, .int .i64 0, .int .i64 0] = [Value.int .i64 (⟨0, 0, 0, 0⟩ : Tl).rdy, .int .i64 (⟨0, 0, 0, 0⟩ : Tl).unr, .int .i64 (⟨0, 0, 0, 0⟩ : Tl).mis, .int .i64 (⟨0, 0, 0, 0⟩ : Tl).sum] := rfl
/-- The four stores of a tally into its variable. -/
theorem tl_set {w : World} {g : Nat} {u0 u1 u2 u3 : Value} (h : CellsW w g [u0, u1, u2, u3]) (t : Tl) {B : Nat} (hB : B ≤ g) {a : World} (hb : Below B a w) :
    CellsW ((((w.setCell ⟨g, 0, none⟩ (.int .i64 t.rdy)).setCell ⟨g, 1, none⟩ (.int .i64 t.unr)).setCell ⟨g, 2, none⟩ (.int .i64 t.mis)).setCell ⟨g, 3, none⟩ (.int .i64 t.sum)) g [.int .i64 t.rdy, .int .i64 t.unr, .int .i64 t.mis, .int .i64 t.sum] ∧ Below B a ((((w.setCell ⟨g, 0, none⟩ (.int .i64 t.rdy)).setCell ⟨g, 1, none⟩ (.int .i64 t.unr)).setCell ⟨g, 2, none⟩ (.int .i64 t.mis)).setCell ⟨g, 3, none⟩ (.int .i64 t.sum)) :=
  ⟨(((h.set 0 (.int .i64 t.rdy) (by simp)).set 1 (.int .i64 t.unr) (by simp)).set 2 (.int .i64 t.mis) (by simp)).set 3 (.int .i64 t.sum) (by simp), (((hb.setCell (p := ⟨g, 0, none⟩) hB _).setCell (p := ⟨g, 1, none⟩) hB _).setCell (p := ⟨g, 2, none⟩) hB _).setCell (p := ⟨g, 3, none⟩) hB _⟩
theorem cellsF4 {w : World} {g : Nat} {a b c d : Value} (h : CellsW w g [a, b, c, d]) : w.frozen? ⟨g, 0, none⟩ = false ∧ w.frozen? ⟨g, 1, none⟩ = false ∧ w.frozen? ⟨g, 2, none⟩ = false ∧ w.frozen? ⟨g, 3, none⟩ = false :=
  ⟨(h.2 0 (by simp)).2, (h.2 1 (by simp)).2, (h.2 2 (by simp)).2, (h.2 3 (by simp)).2⟩
theorem CellsW.off {w : World} {g c j : Nat} {vs : List Value} (h : CellsW w g vs) (u : Value) (hne : g ≠ c) : CellsW (w.setCell ⟨c, j, none⟩ u) g vs :=
  ⟨by simpa [World.setCell] using h.1, fun i hi => ⟨by rw [World.cell?_setCell_other (h := show (⟨c, j, none⟩ : Addr) ≠ ⟨g, i, none⟩ by intro hh; cases hh; exact hne rfl)]; exact (h.2 i hi).1, by rw [World.frozen?_setCell]; exact (h.2 i hi).2⟩⟩
theorem zT : (⟨0, 0, 0, 0⟩ : Tl).rdy = 0 ∧ (⟨0, 0, 0, 0⟩ : Tl).unr = 0 := ⟨rfl, rfl⟩
set_option maxHeartbeats 8000000 in
set_option maxRecDepth 20000 in
theorem spec_tally (ls : List Pd) (hwp : ∀ p ∈ ls, p.wf) (ap : Option Addr) (capp : Nat) (ss : List Sv) (a : Option Addr) (cap : Nat) (m : ByteArray) (now : Int) (r : Rl) (w : World) (hp : Pds w ap ls) (hmp : ls.length ≤ 1048576) (hwf : ∀ l ∈ ss, l.s.wf) (hpl : ∀ l ∈ ss, l.s.pts.length ≤ 1048576) (h : Srs w a ss) (hm : ss.length ≤ 1048576) :
    Calls Tryz.prog 100 #[.slice ap ls.length capp, .slice a ss.length cap, .string m, .int .i64 now, rlV r] w fun e w' => e = .returned (.tuple #[tlV (tallyV ls (ss.map Sv.s) m now r), .bool (tallyOk ls (ss.map Sv.s) m now r)]) ∧ Below w.heap.size w w' := by
  obtain ⟨cs, hcs⟩ : ∃ cs, classesV ls (ss.map Sv.s) m now r = cs := ⟨_, rfl⟩
  have HCC : Hid (∀ w, Pds w ap ls → Srs w a ss → Calls Tryz.prog 131 #[.slice ap ls.length capp, .slice a ss.length cap, .string m, .int .i64 now, rlV r] w fun e w' => (∃ a cap, e = .returned (.slice a cs.length cap) ∧ OwnI w' w.heap.size (.slice a cs.length cap) cs) ∧ Below w.heap.size w w') := fun w h1 h2 => spec_classes2 ls hwp ap capp ss ss rfl a cap m now r w h1 hmp hwf hpl h2 hm hcs
  have HCP : Hid (∀ w, Pds w ap ls → Calls Tryz.prog 27 #[.slice ap ls.length capp] w fun e w' => e = .returned (.bool (podsV ls)) ∧ Below w.heap.size w w') := fun w h => spec_podsok ls hwp ap capp w h hmp
  have HCA : Hid (∀ (p : ByteArray) w, Srs w a ss → Calls Tryz.prog 133 #[.slice a ss.length cap, .string p, .string m, .int .i64 (now - r.wi), .int .i64 now] w fun e w' => e = .returned (.tuple #[.int .i64 (C1L.meanV (Avg.avgL (ss.map Sv.s) p m (now - r.wi) now)), .bool (C1L.meanOk (Avg.avgL (ss.map Sv.s) p m (now - r.wi) now))]) ∧ Below w.heap.size w w') := fun p w h => Avg.spec_avg ss a cap p m (now - r.wi) now w hwf hpl h hm
  have HCL : Hid (∀ (p : ByteArray) w, Srs w a ss → Calls Tryz.prog 134 #[.slice a ss.length cap, .string p, .string m] w fun e w' => e = .returned (.tuple #[ptV (lastV (ss.map Sv.s) p m), .bool (lastB (ss.map Sv.s) p m)]) ∧ Below w.heap.size w w') := fun p w h => spec_latest ss a cap p m w hwf hpl h hm
  have HCS := Lib.hid hcs
  clear hcs
  obtain ⟨b, off, ha, hb, hcell⟩ := hp.cells
  have Hc := Lib.hid hcell
  have Ha := Lib.hid ha
  have Hb := Lib.hid hb
  have HP := Lib.hid hp
  have HS := Lib.hid h
  clear hcell ha hb hp h hwf hpl hwp
  obtain ⟨T, hT⟩ : ∃ T, tallyV ls (ss.map Sv.s) m now r = T := ⟨_, rfl⟩
  obtain ⟨bo, hbo⟩ : ∃ bo, tallyOk ls (ss.map Sv.s) m now r = bo := ⟨_, rfl⟩
  have HNO : Hid (bo = false → T = ⟨0, 0, 0, 0⟩) := fun e => by rw [← hT]; exact tally_no (hbo.trans e)
  have HYES : Hid (bo = true → T = ⟨cntT ls (ss.map Sv.s) m now r 0, cntT ls (ss.map Sv.s) m now r 1, cntT ls (ss.map Sv.s) m now r 2, C1L.addV (useL ls (ss.map Sv.s) m now r)⟩) := fun e => by rw [← hT]; exact tally_yes (hbo.trans e)
  have HBO : Hid (bo = (podsV ls && (ls.isEmpty || viewV (ss.map Sv.s) now r) && !C1L.addB (useL ls (ss.map Sv.s) m now r))) := by rw [← hbo]; exact Lib.hid rfl
  rw [hT, hbo]
  clear hT hbo
  unfold rlV at HCC
  unfold ptV at HCL
  unfold rlV
  have HR := Lib.hid (box2_cells w #[.int .i64 r.dl, .int .i64 r.fr, .int .i64 r.wi] #[.int .i64 0, .int .i64 0, .int .i64 0, .int .i64 0] 40 150)
  have H0 := Lib.hid (box2_below w (.cells #[.int .i64 r.dl, .int .i64 r.fr, .int .i64 r.wi] 40) (.cells #[.int .i64 0, .int .i64 0, .int .i64 0, .int .i64 0] 150))
  obtain ⟨W0, hW0⟩ : ∃ W0, (w.alloc (.cells #[.int .i64 r.dl, .int .i64 r.fr, .int .i64 r.wi] 40)).alloc (.cells #[.int .i64 0, .int .i64 0, .int .i64 0, .int .i64 0] 150) = W0 := ⟨_, rfl⟩
  have HE : Hid (W0.heap.size = w.heap.size + 2) := by rw [← hW0]; exact Lib.hid (by simp)
  rw [hW0] at HR H0
  have HWE := Lib.hid hW0
  clear hW0
  have HPK : Hid (∀ W, Hid (Below (w.heap.size + 2) W0 W) → Pds W ap ls) := fun W h => (HP.out.kept H0.out).kept (by rw [HE.out]; exact h.out)
  have HSK : Hid (∀ W, Hid (Below (w.heap.size + 2) W0 W) → Srs W a ss) := fun W h => (HS.out.kept H0.out).kept (by rw [HE.out]; exact h.out)
  have HB0 : Hid (Below (w.heap.size + 2) W0 W0) := Below.refl _ _
  obtain ⟨r0, r1, r2⟩ := cells3 HR.out.1
  go_enter Tryz.func100, Tryz.ntmps100
  go_wp2_with fail
  rw [HWE.out]
  clear r0 r1 r2
  refine (HCC.out _ (HPK.out _ HB0) (HSK.out _ HB0)).mono ?_
  rintro e v1 ⟨⟨ac, cc, rfl, hoc⟩, hb⟩
  have HB1 := Lib.hid (HB0.out.trans (hb.mono (bsz HE HB0.out)))
  have HOC := Lib.hid hoc
  clear hb hoc
  go_wp2_with fail
  refine (HCP.out _ (HPK.out _ HB1)).mono ?_
  rintro e v2 ⟨rfl, hb⟩
  have HB2 := Lib.hid (HB1.out.trans (hb.mono (bsz HE HB1.out)))
  have HOC2 := Lib.hid (HOC.out.kept hb)
  clear hb HOC HCC HCP
  have HZ2 := Lib.hid (HR.out.2.kept (by rw [HE.out]; exact HB2.out))
  have HBF2 := Lib.hid (H0.out.trans (HB2.out.mono (by omega)))
  cases c1 : podsV ls
  · have HN : Hid (bo = false) := by rw [HBO.out, c1]; exact Lib.hid rfl
    obtain rfl : T = ⟨0, 0, 0, 0⟩ := HNO.out HN.out
    obtain rfl : bo = false := HN.out
    obtain ⟨z0, z1, z2, z3⟩ := cells4 HZ2.out
    obtain ⟨f0, f1, f2, f3⟩ := cellsF4 HZ2.out
    clear c1 HBO HYES HNO
    go_wp2
    obtain ⟨k1, k2⟩ := tl_set HZ2.out ⟨0, 0, 0, 0⟩ (by omega) HBF2.out
    exact bodyPost_ret (ret_tally rfl k1 rfl rfl) rfl ⟨rfl, k2⟩
  · have HOK := Lib.hid ((podsV_iff ls).1 c1).2.1
    have hl12 := ((podsV_iff ls).1 c1).1
    have HK1 := Lib.hid c1
    clear c1
    by_cases hgood : ls = [] ∨ viewV (ss.map Sv.s) now r = true
    · have HCM : Hid (cs = ls.map (coreI (ss.map Sv.s) m now r)) := by
        rw [← HCS.out]
        rcases hgood with h | h
        · subst h
          cases hb : viewV (ss.map Sv.s) now r
          · rw [classes_no (by rw [hb, Bool.and_false])]; exact Lib.hid rfl
          · rw [classes_yes HK1.out hb]; exact Lib.hid rfl
        · rw [classes_yes HK1.out h]; exact Lib.hid rfl
      have hcl : cs.length = ls.length := by rw [HCM.out, List.length_map]
      have HBO2 : Hid (bo = !C1L.addB (useL ls (ss.map Sv.s) m now r)) := by
        rw [HBO.out, HK1.out]
        rcases hgood with h | h
        · rw [h]; exact Lib.hid rfl
        · rw [h, Bool.or_true]; exact Lib.hid rfl
      have hne : ((cs.length : Int) != (ls.length : Int)) = false := by rw [hcl]; simp
      have HCLN := Lib.hid hcl
      have HGD := Lib.hid hgood
      have HIC := Lib.hid (show Ints v2 ac cs by obtain ⟨a', c', e, hi⟩ := HOC2.out.ints; cases e; exact hi)
      obtain ⟨n0, hn0⟩ : ∃ n0, ctn cs 0 = n0 := ⟨_, rfl⟩
      obtain ⟨n1, hn1⟩ : ∃ n1, ctn cs 1 = n1 := ⟨_, rfl⟩
      obtain ⟨n2, hn2⟩ : ∃ n2, ctn cs 2 = n2 := ⟨_, rfl⟩
      have HCN0 := Lib.hid (spec_countclass cs 0 ac cc v2 HIC.out (by omega))
      have HCN1 := Lib.hid (spec_countclass cs 1 ac cc v2 HIC.out (by omega))
      have HCN2 := Lib.hid (spec_countclass cs 2 ac cc v2 HIC.out (by omega))
      rw [hn0] at HCN0
      rw [hn1] at HCN1
      rw [hn2] at HCN2
      have HNN : Hid (cntT ls (ss.map Sv.s) m now r 0 = n0 ∧ cntT ls (ss.map Sv.s) m now r 1 = n1 ∧ cntT ls (ss.map Sv.s) m now r 2 = n2) := by unfold cntT; rw [← HCM.out]; exact ⟨hn0, hn1, hn2⟩
      clear hcl hgood HBO HCS hn0 hn1 hn2
      go_wp2_with fail
      refine HCN0.out.mono ?_
      rintro e w' ⟨rfl, rfl⟩
      go_wp2_with fail
      refine HCN1.out.mono ?_
      rintro e w' ⟨rfl, rfl⟩
      go_wp2_with fail
      refine HCN2.out.mono ?_
      rintro e w' ⟨rfl, rfl⟩
      clear HCN0 HCN1 HCN2
      have HB3v := Lib.hid (box_below v2 #[.int .i64 (n0 : Int), .int .i64 (n1 : Int), .int .i64 (n2 : Int), .int .i64 0] 150)
      have HT3 := Lib.hid (cells_new v2 #[.int .i64 (n0 : Int), .int .i64 (n1 : Int), .int .i64 (n2 : Int), .int .i64 0] 150)
      obtain ⟨W3, hW3⟩ : ∃ W3, v2.alloc (.cells #[.int .i64 (n0 : Int), .int .i64 (n1 : Int), .int .i64 (n2 : Int), .int .i64 0] 150) = W3 := ⟨_, rfl⟩
      have HE3 : Hid (W3.heap.size = v2.heap.size + 1) := by rw [← hW3]; exact Lib.hid (by simp)
      rw [hW3] at HB3v HT3
      have HW3 := Lib.hid hW3
      have hN := OwnI.new W3 (B := v2.heap.size + 1) (by rw [HE3.out]; exact Nat.le_refl _)
      have hbx := box_below W3 #[] 3
      rw [HE3.out] at hN hbx
      have HN3 := Lib.hid hN
      have HB4 := Lib.hid hbx
      have HV2 := Lib.hid (bsz HE HB2.out)
      have HB3 := Lib.hid (HB2.out.trans (HB3v.out.mono HV2.out))
      clear hN hbx hW3
      obtain ⟨i0, hi, hz0, hz1, hz2⟩ := info_int
      go_wp2
      rw [HW3.out]
      go_loopw [14, 15] (fun v i wr => ∃ k : Nat, k ≤ ls.length ∧ i = .int .i64 k ∧ Hid (OwnI wr (v2.heap.size + 1) v (useL (ls.take k) (ss.map Sv.s) m now r)) ∧ Hid (Below (v2.heap.size + 1) W3 wr)) (fun _ i _ => ls.length - (intOf i).toNat)
      case atStart => exact ⟨0, Nat.zero_le _, rfl, HN3, HB4⟩
      case round =>
        obtain ⟨k, hk, rfl, HO, HB⟩ := hrel
        have HX := Lib.hid (HB3.out.trans (HB.out.mono (by have := HV2.out; omega)))
        by_cases hlt : k < ls.length
        · obtain ⟨p, hp⟩ : ∃ p, ls[k] = p := ⟨_, rfl⟩
          have hpm : p ∈ ls := by rw [← hp]; exact List.getElem_mem hlt
          have hbw := Hb.out (by omega)
          have hq := (Hc.out k hlt).kept H0.out hbw
          have HBW := Lib.hid hbw
          obtain rfl := Ha.out (by omega)
          rw [hp] at hq
          have HNM := Lib.hid hq
          have hic : Ints wr ac cs := HIC.out.kept (HB3v.out.trans (HB.out.mono (Nat.le_succ _)))
          obtain ⟨bc, oc, hcc⟩ := C1L.Ints.cells hic
          obtain rfl := hcc.1 (by have := HCLN.out; omega)
          have hx := hcc.2 k (by have := HCLN.out; omega)
          have hkc : k < cs.length := by have := HCLN.out; omega
          obtain ⟨q, hqq⟩ : ∃ q, cs[k]'(by have := HCLN.out; omega) = q := ⟨_, rfl⟩
          have hqc : q = coreI (ss.map Sv.s) m now r p := by
            rw [← hqq]
            simp only [HCM.out, List.getElem_map, hp]
          rw [hqq] at hx
          clear hqq hcc hic hq
          obtain ⟨ys, hys⟩ : ∃ ys, useL (ls.take k) (ss.map Sv.s) m now r = ys := ⟨_, rfl⟩
          have hyl : ys.length ≤ 12 := by rw [← hys]; exact Nat.le_trans (use_len _ _ _ _ _ _) (by omega)
          cases hr : rdyP (ss.map Sv.s) m now r p
          · have HU := Lib.hid (use_no hlt hp hr)
            have hne : (q != 0) = true := by unfold rdyP at hr; rw [hqc]; simp only [bne, hr, Bool.not_false]
            clear hr hqc hpm hp
            rw [hys] at HU HO
            clear hys
            go_wp2
            go_roundw
            case rel => exact ⟨k + 1, by omega, by go_num, by rw [HU.out]; exact HO, HB⟩
            case measure => simp [intOf]; omega
          · have HU := Lib.hid (use_yes hlt hp hr)
            have hne : (q != 0) = false := by unfold rdyP at hr; rw [hqc]; simp only [bne, hr, Bool.not_true]
            have hvw : viewV (ss.map Sv.s) now r = true := by
              rcases HGD.out with h | h
              · rw [h] at hlt; simp at hlt
              · exact h
            unfold viewV at hvw
            simp only [Bool.and_eq_true] at hvw
            obtain ⟨-, -, -, -, g5, g6⟩ := rlOk hvw.1.1
            obtain ⟨t1, t2⟩ := sizeOk hvw.1.2
            rw [hys] at HU HO
            clear hr hqc hys hvw
            obtain ⟨uu, huu⟩ : ∃ uu, usageV (ss.map Sv.s) m now r p = uu := ⟨_, rfl⟩
            rw [huu] at HU
            have HCA1 := Lib.hid (HCA.out p.nm)
            have HCL1 := Lib.hid (HCL.out p.nm)
            unfold usageV at huu
            obtain ⟨av, hav⟩ : ∃ av, C1L.meanV (Avg.avgL (ss.map Sv.s) p.nm m (now - r.wi) now) = av := ⟨_, rfl⟩
            obtain ⟨ok, hok⟩ : ∃ ok, C1L.meanOk (Avg.avgL (ss.map Sv.s) p.nm m (now - r.wi) now) = ok := ⟨_, rfl⟩
            obtain ⟨x, hxx⟩ : ∃ x, lastV (ss.map Sv.s) p.nm m = x := ⟨_, rfl⟩
            obtain ⟨y, hyy⟩ : ∃ y, lastB (ss.map Sv.s) p.nm m = y := ⟨_, rfl⟩
            rw [hav, hok] at HCA1
            rw [hxx, hyy] at HCL1
            rw [hav, hok, hxx] at huu
            have HUU := Lib.hid huu
            have hwr : IntKind.i64.wrap (now - r.wi) = now - r.wi := by rw [IntKind.wrap_i64]; omega
            clear hav hok hxx hyy huu hpm hp
            have HT : Hid (∀ W, Hid (Below (v2.heap.size + 1) W3 W) → (W.cell? ⟨b, off + k * 4, none⟩ = some (.string p.nm) ∧ W.cell? ⟨w.heap.size, 2, none⟩ = some (.int .i64 r.wi))) := fun W hW => by
              have hX2 := HB3.out.trans (hW.out.mono (by have := HV2.out; omega))
              exact ⟨(HNM.out.kept hX2 (by have := HBW.out; omega)).1, (cells3 (HR.out.1.kept (by rw [HE.out]; exact hX2))).2.2⟩
            have HBD : Hid (Below (v2.heap.size + 1) W3 wr.drew) := HB.out.drew
            have HOD : Hid (OwnI wr.drew (v2.heap.size + 1) _ ys) := HO
            have HSS : Hid (∀ W, Hid (Below (v2.heap.size + 1) W3 W) → Srs W a ss) := fun W hW => HSK.out W (HB3.out.trans (hW.out.mono (by have := HV2.out; omega)))
            have hnm0 := (HT.out wr HB).1
            go_wp2_with fail
            clear hnm0 hx
            go_region_held3 (fun w' => w'.cell? ⟨b, off + k * 4, none⟩ = some (.string p.nm) ∧ w'.cell? ⟨w.heap.size, 2, none⟩ = some (.int .i64 r.wi))
              (first | exact HT.out _ HV3 | exact HT.out _ HBD)
              (first
                | (go_at_call 133; refine (HCA1.out _ (HSS.out _ HBD)).mono ?_; rintro e v3 ⟨rfl, hb⟩; have HO3 := Lib.hid (HOD.out.kept hb); have HV3 := Lib.hid (HBD.out.trans (hb.mono (bsz HE3 HBD.out))); clear hb))
            clear HBD HOD HCA1 HO HB
            cases ok
            · have hnm := (HT.out v3 HV3).1
              go_wp2_with fail
              clear hnm
              refine (HCL1.out _ (HSS.out _ HV3)).mono ?_
              rintro e v4 ⟨rfl, hb⟩
              have hbp := box_below v4 #[.int .i64 x.tick, .int .i64 x.val] 123
              have HO4 := Lib.hid ((HO3.out.kept hb).kept hbp)
              have hV4 := HV3.out.trans (hb.mono (bsz HE3 HV3.out))
              have hV5 := hV4.trans (hbp.mono (bsz HE3 hV4))
              have HSX := Lib.hid (hV5.alloc (bsz HE3 hV5) (.cells #[.int .i64 x.val] 3))
              have HSE := Lib.hid (bsz HE3 HSX.out)
              obtain rfl : x.val = uu := HUU.out
              have hcell := one_cell (v4.alloc (.cells #[.int .i64 x.tick, .int .i64 x.val] 123)) x.val 3
              have hsz : (v4.alloc (.cells #[.int .i64 x.tick, .int .i64 x.val] 123)).heap.size = v4.heap.size + 1 := by simp
              rw [hsz] at hcell
              have HCL9 := Lib.hid hcell
              clear hb hbp hV4 hV5 HCL1 hcell hsz
              go_wp2_with (at_builtin; refine wpList_append_own _ rfl _ _ 58 rfl (v2.heap.size + 1) 3 i0 (.int .i64 0) 1 8 Tryz.underlying58 hi hz0 hz1 hz2 rfl (by decide) _ _ _ rfl (World.ownsRow.alloc HO4.out _) ⟨v4.heap.size + 1, 0, none⟩ 1 1 [.int .i64 x.val] rfl rfl HCL9.out (by intro u hu; simp at hu; subst hu; rfl) (by unfold maxLen; omega) (by omega) HSE.out ?_)
              intro v' w8 hown' hgrow _
              have HO8 := Lib.hid (OwnI.snoc hown')
              have HB8 := Lib.hid (HSX.out.grown hgrow HSE.out (fun g hg => (World.ownsRow.lt HO4.out g hg).1))
              clear hown' hgrow
              go_wp2
              go_roundw
              case rel => exact ⟨k + 1, by omega, by go_num, by rw [HU.out]; exact HO8, HB8⟩
              case measure => simp [intOf]; omega
            · have HSX := Lib.hid (HV3.out.alloc (bsz HE3 HV3.out) (.cells #[.int .i64 av] 3))
              have HSE := Lib.hid (bsz HE3 HSX.out)
              obtain rfl : av = uu := HUU.out
              clear HCL1
              go_wp2_with (at_builtin; refine wpList_append_own _ rfl _ _ 58 rfl (v2.heap.size + 1) 3 i0 (.int .i64 0) 1 8 Tryz.underlying58 hi hz0 hz1 hz2 rfl (by decide) _ _ _ rfl (World.ownsRow.alloc HO3.out _) ⟨v3.heap.size, 0, none⟩ 1 1 [.int .i64 av] rfl rfl (one_cell _ _ _) (by intro u hu; simp at hu; subst hu; rfl) (by unfold maxLen; omega) (by omega) HSE.out ?_)
              intro v' w8 hown' hgrow _
              have HO8 := Lib.hid (OwnI.snoc hown')
              have HB8 := Lib.hid (HSX.out.grown hgrow HSE.out (fun g hg => (World.ownsRow.lt HO3.out g hg).1))
              clear hown' hgrow
              go_wp2
              go_roundw
              case rel => exact ⟨k + 1, by omega, by go_num, by rw [HU.out]; exact HO8, HB8⟩
              case measure => simp [intOf]; omega
        · obtain rfl : k = ls.length := by omega
          obtain ⟨ys, hys⟩ : ∃ ys, useL ls (ss.map Sv.s) m now r = ys := ⟨_, rfl⟩
          have hO := HO.out
          rw [List.take_of_length_le (Nat.le_refl _), hys] at hO
          have hyl : ys.length ≤ 12 := by rw [← hys]; have := use_len ls (ss.map Sv.s) m now r ls.length; rw [List.take_of_length_le (Nat.le_refl _)] at this; omega
          obtain ⟨ay, cy, rfl, hoy, -⟩ := hO.form
          have HIY := Lib.hid (show Ints wr ay ys by obtain ⟨a', c', e, hi⟩ := hoy.ints; cases e; exact hi)
          have hz5 := HR.out.2.kept (by rw [HE.out]; exact HX.out)
          have HZ5 := Lib.hid hz5
          have HT5 := Lib.hid (HT3.out.kept (by rw [HE3.out]; exact HB.out))
          have HBF := Lib.hid (H0.out.trans (HX.out.mono (by omega)))
          have hgz : w.heap.size + 1 ≠ v2.heap.size := by have := HV2.out; omega
          rw [hys] at HBO2 HYES
          obtain ⟨sm, hsm⟩ : ∃ sm, C1L.addV ys = sm := ⟨_, rfl⟩
          obtain ⟨ct, hct⟩ : ∃ ct, C1L.addB ys = ct := ⟨_, rfl⟩
          have HAD := Lib.hid (C1L.spec_add ys ay cy wr HIY.out (by omega))
          rw [hsm, hct] at HAD
          rw [hct] at HBO2
          rw [hsm] at HYES
          clear hys hO hoy hsm hct HO hz5
          go_wp2_with fail
          refine HAD.out.mono ?_
          rintro e w' ⟨rfl, rfl⟩
          cases ct
          · obtain rfl : bo = true := HBO2.out
            obtain rfl : T = ⟨(n0 : Int), (n1 : Int), (n2 : Int), sm⟩ := by rw [HYES.out rfl, HNN.out.1, HNN.out.2.1, HNN.out.2.2]
            obtain ⟨z0, z1, z2, z3⟩ := cells4 HZ5.out
            obtain ⟨f0, f1, f2, f3⟩ := cellsF4 HZ5.out
            obtain ⟨y0, y1, y2, y3⟩ := cells4 HT5.out
            obtain ⟨e0, e1, e2, e3⟩ := cellsF4 HT5.out
            clear HBO2 HYES HNO
            go_wp2
            obtain ⟨k1, k2⟩ := tl_set (CellsW.off (j := 3) HZ5.out (.int .i64 sm) hgz) ⟨(n0 : Int), (n1 : Int), (n2 : Int), sm⟩ (by omega) (HBF.out.setCell (p := ⟨v2.heap.size, 3, none⟩) (show w.heap.size ≤ v2.heap.size by have := HV2.out; omega) _)
            exact bodyPost_ret (ret_tally rfl k1 rfl rfl) rfl ⟨rfl, k2⟩
          · obtain rfl : bo = false := HBO2.out
            obtain rfl : T = ⟨0, 0, 0, 0⟩ := HNO.out rfl
            obtain ⟨z0, z1, z2, z3⟩ := cells4 HZ5.out
            obtain ⟨f0, f1, f2, f3⟩ := cellsF4 HZ5.out
            clear HBO2 HYES HNO
            go_wp2
            obtain ⟨k1, k2⟩ := tl_set HZ5.out ⟨0, 0, 0, 0⟩ (by omega) HBF.out
            exact bodyPost_ret (ret_tally rfl k1 rfl rfl) rfl ⟨rfl, k2⟩
    · have hne : ls ≠ [] := fun e => hgood (.inl e)
      have hvw : viewV (ss.map Sv.s) now r = false := by
        cases hb : viewV (ss.map Sv.s) now r
        · rfl
        · exact absurd (.inr hb) hgood
      have hem : ls.isEmpty = false := by cases ls with
        | nil => exact absurd rfl hne
        | cons x y => rfl
      have HN : Hid (bo = false) := by rw [HBO.out, hvw, hem, HK1.out]; exact Lib.hid rfl
      have hc0 : cs = [] := by rw [← HCS.out]; exact classes_no (by rw [hvw, Bool.and_false])
      subst hc0
      have hlp : 0 < ls.length := List.length_pos_iff.2 hne
      have hnl : ((0 : Int) != (ls.length : Int)) = true := by simp; omega
      obtain rfl : T = ⟨0, 0, 0, 0⟩ := HNO.out HN.out
      obtain rfl : bo = false := HN.out
      obtain ⟨z0, z1, z2, z3⟩ := cells4 HZ2.out
      obtain ⟨f0, f1, f2, f3⟩ := cellsF4 HZ2.out
      clear HBO HYES HNO hne hem hvw hgood
      go_wp2
      obtain ⟨k1, k2⟩ := tl_set HZ2.out ⟨0, 0, 0, 0⟩ (by omega) HBF2.out
      exact bodyPost_ret (ret_tally rfl k1 rfl rfl) rfl ⟨rfl, k2⟩
end Go.Proofs.YtgmdfkmmbcpikaaGreat.Tal

/- The program's running (a roster from which a range deletes), AliveOf: both sides. -/
namespace Go.Proofs.YtgmdfkmmbcpikaaGreat.Run
open Go.RowKit Go.Sort Go.Maps
open Go.Proofs.YtgmdfkmmbcpikaaGreat.C1
open Go.Proofs.YtgmdfkmmbcpikaaGreat.C2
open Go.Proofs.YtgmdfkmmbcpikaaGreat.Smps
open Go.Proofs.YtgmdfkmmbcpikaaGreat.Mem
open Go.Proofs.YtgmdfkmmbcpikaaGreat.Pd
open Go.Proofs.YtgmdfkmmbcpikaaGreat.Pds
open Go.Proofs.YtgmdfkmmbcpikaaGreat.Key
open Go.Proofs.YtgmdfkmmbcpikaaGreat.Ros
open Go.Proofs.YtgmdfkmmbcpikaaGreat.RosI
open Go.Proofs.YtgmdfkmmbcpikaaGreat.RosP
open Go.Proofs.YtgmdfkmmbcpikaaGreat.Pok
open Go.Proofs.YtgmdfkmmbcpikaaGreat.PokI
set_option linter.unusedVariables false

set_option maxRecDepth 100000 in
set_option maxHeartbeats 1000000 in
theorem impl_delete (b n : Nat) (D0 : DataW Unit) (ps : List Pd) (w : World) (hown : RM w b n D0) (his : Is D0 ps) :
    Calls Tryz.prog 200 #[.map (some b)] w fun e w' => e = .returned (.tuple #[]) ∧ ∃ D, RM w' b n D ∧ Is D (ps.filter runs) ∧ w.grownBy w' (some b) := by
  go_enter Tryz.func200, Tryz.ntmps200
  go_wp2_with (first
    | (at_range; refine wpList_range_own _ rfl _ 135 rfl 9 115 keyed map_t podR b n D0 rfl hown ?_; intro w0 hrg0 hg0 hs0)
    | go_in)
  go_frame
  have HI := Lib.hid his
  go_loopw [2] (fun _ wr => ∃ (left : Lit → Bool) (cnt : Nat) (D : DataW Unit), Hid (RG wr b w.heap.size n D left cnt) ∧ Hid (Is D (ps.filter (stay left))) ∧ Hid (w.grownBy wr (some b)))
    (fun _ wr => wr.rangeLeft b w.heap.size)
  case atStart => exact ⟨_, _, D0, Lib.hid hrg0, by rw [stay_start his]; exact Lib.hid his, Lib.hid (hg0.but _)⟩
  case round =>
    obtain ⟨left, cnt, D, HRG, HD, HG⟩ := hrel
    have hrg := HRG.out
    go_wp2_with (first
      | (at_next; refine wpList_next_ranges _ rfl _ rfl 9 keyed podR encStr mkP invK invP b w.heap.size n D left cnt rfl hrg ?_ ?_)
      | go_in)
    · intro _ hl0
      have HF := Lib.hid hrg.owns
      have HE : Hid (Is D (ps.filter runs)) := by rw [← stay_end hl0]; exact HD
      clear hrg0 hg0 hs0 hown hrg HRG HD
      go_wp2
      go_end0
      exact ⟨rfl, D, HF.out, HE.out, HG.out⟩
    · intro x c kl yd yp w2 cnt2 hkey hlk hv hat hrg2 hlt hg2 hs2 hen
      have hv2 : yd = podD c := by
        have := podR_mk c
        have h3 := this.symm.trans hv
        exact (congrArg Prod.fst (Option.some.inj h3)).symm
      subst hv2
      obtain ⟨hcp, rfl⟩ := HD.out.find (has_true_of_atKey hat) hat
      have hcp2 := (List.mem_filter.1 hcp).1
      have HG2 := Lib.hid (HG.out.andThen hg2 (fun j hj => by cases hj; exact Or.inl (Nat.le_refl _)))
      have HG3 := Lib.hid (HG2.out.andThen (World.grownBy_alloc w2 (.cells #[.string c.nm, .int .i64 c.born, .int .i64 c.ph, .bool c.rdy] 115) none) (fun j hj => by cases hj))
      have HR3 := Lib.hid (World.ranges.alloc hrg2 (.cells #[.string c.nm, .int .i64 c.born, .int .i64 c.ph, .bool c.rdy] 115))
      have HL := Lib.hid hlt
      have HLE := Lib.hid hrg.left_eq
      have HKY := Lib.hid hkey
      unfold mkP at hen
      cases hr : runs c
      · have HSK : Hid (Is (D.del (pk c)) (ps.filter (stay fun z => left z && !z.sameKey (pk c)))) := by rw [stay_strike hr HI.out.apart hcp2]; exact Lib.hid (HD.out.del c)
        have hne : (c.ph != 0) = true := by unfold runs at hr; simp only [bne, hr, Bool.not_false]
        clear hr hs2 hg2 hrg2 hlt hkey hlk hv hat hown hrg0 hg0 hs0 HRG hcp hcp2 hrg
        go_wp2_with (first
          | (at_delete; refine wpList_delete_ranges _ rfl _ _ 135 9 rfl 115 keyed map_t podR b w.heap.size n D _ cnt2 rfl HR3.out (encStr x) (pk c) rfl HKY.out ?_; intro w3 cnt3 hrg3 hle hturn; go_frame)
          | go_in)
        rw [strike_twice] at hrg3
        have HR4 := Lib.hid hrg3
        have HG4 := Lib.hid (HG3.out.andThen hturn.grown (fun j hj => by cases hj; exact Or.inr rfl))
        go_roundw
        case rel => exact ⟨_, cnt3, _, HR4, HSK, HG4⟩
        case measure => rw [HR4.out.left_eq, HLE.out]; have := HL.out; omega
      · have HSK : Hid (Is D (ps.filter (stay fun z => left z && !z.sameKey (pk c)))) := by rw [stay_keep HI.out.apart hcp2 hr]; exact HD
        have hne : (c.ph != 0) = false := by unfold runs at hr; simp only [bne, hr, Bool.not_true]
        clear hr hs2 hg2 hrg2 hlt hkey hlk hv hat hown hrg0 hg0 hs0 HRG hcp hcp2 hrg
        go_wp2
        go_roundw
        case rel => exact ⟨_, cnt2, _, HR3, HSK, HG3⟩
        case measure => rw [HR3.out.left_eq, HLE.out]; exact HL.out
theorem impl_running (ls : List Pd) (hwf : ∀ p ∈ ls, p.wf) (a : Option Addr) (cap : Nat) (w : World) (h : Pds w a ls) (hm : ls.length ≤ 1048576) :
    Calls Tryz.prog 169 #[.slice a ls.length cap] w fun e w' => ∃ D, e = .returned (.map (some w.heap.size)) ∧ RM w' w.heap.size ls.length D ∧ Is D ((ros ls).filter runs) ∧ Below w.heap.size w w' := by
  have HC := Lib.hid (roster_of ls hwf a cap w h hm)
  clear h hwf
  go_enter Tryz.func169, Tryz.ntmps169
  go_wp2_with (go_at_call 85; refine HC.out.mono ?_; rintro e w1 ⟨D, rfl, ho1, hi1, hb1⟩; have HO1 := Lib.hid ho1; have HI1 := Lib.hid hi1; have HB1 := Lib.hid hb1; clear ho1 hi1 hb1)
  go_wp2_with (go_at_call 200; refine (impl_delete _ _ D (ros ls) _ HO1.out HI1.out).mono ?_; rintro e w2 ⟨rfl, D2, ho2, hi2, hg2⟩; have HO2 := Lib.hid ho2; have HI2 := Lib.hid hi2; have HB2 := Lib.hid (HB1.out.grown hg2 HB1.out.size (fun j hj => by cases hj; exact Nat.le_refl _)); clear ho2 hi2 hg2)
  go_ret
  exact ⟨D2, rfl, HO2.out, HI2.out, HB2.out⟩

/-! ### AliveOf. -/
noncomputable def aliveV (ls : List Pd) : Int := if podsV ls = true then ((ls.filter runs).length : Int) else -1
theorem run_next {ls : List Pd} (k : Nat) (h : k < ls.length) : ((ls.take (k + 1)).filter runs).length = ((ls.take k).filter runs).length + (if runs ls[k] = true then 1 else 0) := by
  rw [List.take_succ_eq_append_getElem h, List.filter_append, List.length_append]
  congr 1
  cases hr : runs ls[k]
  · rw [List.filter_cons_of_neg (by rw [hr]; exact Bool.false_ne_true)]; simp
  · rw [List.filter_cons_of_pos hr]; simp
end Go.Proofs.YtgmdfkmmbcpikaaGreat.Run

/- TallyOf: the program's usageOf, tallyOf. -/
namespace Go.Proofs.YtgmdfkmmbcpikaaGreat.TalI
open Go.RowKit Go.Sort
open Go.Proofs.YtgmdfkmmbcpikaaGreat.C1
open Go.Proofs.YtgmdfkmmbcpikaaGreat.C2
open Go.Proofs.YtgmdfkmmbcpikaaGreat.Smps
open Go.Proofs.YtgmdfkmmbcpikaaGreat.Mem
open Go.Proofs.YtgmdfkmmbcpikaaGreat.Ints
open Go.Proofs.YtgmdfkmmbcpikaaGreat.Ser
open Go.Proofs.YtgmdfkmmbcpikaaGreat.Ser2
open Go.Proofs.YtgmdfkmmbcpikaaGreat.Key
open Go.Proofs.YtgmdfkmmbcpikaaGreat.Sto
open Go.Proofs.YtgmdfkmmbcpikaaGreat.StoL
open Go.Proofs.YtgmdfkmmbcpikaaGreat.Lat
open Go.Proofs.YtgmdfkmmbcpikaaGreat.Pd
open Go.Proofs.YtgmdfkmmbcpikaaGreat.Pds
open Go.Proofs.YtgmdfkmmbcpikaaGreat.Ros
open Go.Proofs.YtgmdfkmmbcpikaaGreat.RosI
open Go.Proofs.YtgmdfkmmbcpikaaGreat.RosP
open Go.Proofs.YtgmdfkmmbcpikaaGreat.Run
open Go.Proofs.YtgmdfkmmbcpikaaGreat.Pok
open Go.Proofs.YtgmdfkmmbcpikaaGreat.Cls
open Go.Proofs.YtgmdfkmmbcpikaaGreat.ClsI
open Go.Proofs.YtgmdfkmmbcpikaaGreat.OwnI
open Go.Proofs.YtgmdfkmmbcpikaaGreat.Clss
open Go.Proofs.YtgmdfkmmbcpikaaGreat.Cc
open Go.Proofs.YtgmdfkmmbcpikaaGreat.Tal
open Go.Proofs.YtgmdfkmmbcpikaaGreat.SzT
open Go.Proofs.YtgmdfkmmbcpikaaGreat.MarkS
set_option linter.unusedVariables false

/-! ### The running pods alone make the tally. -/
theorem core_run {p : Pd} {xs : List Ser} {m : ByteArray} {now : Int} {r : Rl} (h : runs p = false) : coreI xs m now r p = 3 := by
  unfold coreI
  rw [core3 (by unfold runs at h; simp only [bne, h, Bool.not_false])]
  rfl
theorem use_run (ls : List Pd) (xs : List Ser) (m : ByteArray) (now : Int) (r : Rl) : useL (ls.filter runs) xs m now r = useL ls xs m now r := by
  unfold useL
  rw [List.filter_filter]
  congr 1
  refine List.filter_congr fun p _ => ?_
  cases hr : runs p
  · unfold rdyP
    rw [core_run hr]
    rfl
  · rw [Bool.and_true]
theorem cnt_run (ls : List Pd) (xs : List Ser) (m : ByteArray) (now : Int) (r : Rl) (c : Int) (hc : c ≠ 3) : cntT (ls.filter runs) xs m now r c = cntT ls xs m now r c := by
  unfold cntT ctn
  rw [List.countP_map, List.countP_map, List.countP_filter]
  refine List.countP_congr fun p _ => ?_
  cases hr : runs p
  · simp only [Function.comp, core_run hr, Bool.and_false]
    have : ((3 : Int) == c) = false := by simp; omega
    rw [this]
  · simp only [Bool.and_true, Function.comp]
theorem cnt_next {ls : List Pd} (xs : List Ser) (m : ByteArray) (now : Int) (r : Rl) (c : Int) (k : Nat) (h : k < ls.length) {p : Pd} (hp : ls[k] = p) : cntT (ls.take (k + 1)) xs m now r c = cntT (ls.take k) xs m now r c + (if (coreI xs m now r p == c) = true then 1 else 0) := by
  unfold cntT
  rw [map_next _ k h hp]
  unfold ctn
  rw [List.countP_append, List.countP_singleton]
theorem cnt_le (ls : List Pd) (xs : List Ser) (m : ByteArray) (now : Int) (r : Rl) (c : Int) (k : Nat) : cntT (ls.take k) xs m now r c ≤ k := by
  unfold cntT ctn
  exact Nat.le_trans List.countP_le_length (by rw [List.length_map, List.length_take]; omega)
noncomputable def tlyB (qs : List Pd) (xs : List Ser) (m : ByteArray) (now : Int) (r : Rl) : Bool := !C1L.addB (useL qs xs m now r)
noncomputable def tlyT (qs : List Pd) (xs : List Ser) (m : ByteArray) (now : Int) (r : Rl) : Tl := if tlyB qs xs m now r = true then ⟨cntT qs xs m now r 0, cntT qs xs m now r 1, cntT qs xs m now r 2, C1L.addV (useL qs xs m now r)⟩ else ⟨0, 0, 0, 0⟩
theorem CellsW.keptB {w w' : World} {g B : Nat} {vs : List Value} (h : CellsW w g vs) (hb : Below B w w') (hB : g < B) (hs : B ≤ w.heap.size) : CellsW w' g vs :=
  ⟨Nat.lt_of_lt_of_le (Nat.lt_of_lt_of_le hB hs) (Nat.le_trans (by exact Nat.le_refl _) hb.size), fun j hj => ⟨(hb.cell (p := ⟨g, j, none⟩) hB).trans (h.2 j hj).1, (hb.frozen (p := ⟨g, j, none⟩) hB).trans (h.2 j hj).2⟩⟩
set_option maxHeartbeats 1000000 in
set_option maxRecDepth 20000 in
theorem usage_of (p : Pd) (ls : List Sv) (a : Option Addr) (cap : Nat) (m : ByteArray) (now : Int) (r : Rl) (w : World) (hwf : ∀ l ∈ ls, l.s.wf) (hpl : ∀ l ∈ ls, l.s.pts.length ≤ 1048576) (h : Srs w a ls) (hm : ls.length ≤ 1048576) (hr : okR r = true) (hn : sizeV now = true) {u : Int} (hu : (lastV (ls.map Sv.s) p.nm m).val = u) {uu : Int} (huu : usageV (ls.map Sv.s) m now r p = uu) :
    Calls Tryz.prog 198 #[.agg #[.slice a ls.length cap, .string m, .int .i64 now, .int .i64 r.dl, .int .i64 r.fr, .int .i64 r.wi], .string p.nm, .int .i64 u] w fun e w' => e = .returned (.int .i64 uu) ∧ Below w.heap.size w w' := by
  have HCA : Hid (∀ w, Srs w a ls → Calls Tryz.prog 216 #[.slice a ls.length cap, .string p.nm, .string m, .int .i64 (now - r.wi), .int .i64 now] w fun e w' => e = .returned (.tuple #[.int .i64 (C1L.meanV (Avg.avgL (ls.map Sv.s) p.nm m (now - r.wi) now)), .bool (C1L.meanOk (Avg.avgL (ls.map Sv.s) p.nm m (now - r.wi) now))]) ∧ Below w.heap.size w w') := fun w h => Avg.impl_avg ls a cap p.nm m (now - r.wi) now w hwf hpl h hm
  obtain ⟨-, -, -, -, g5, g6⟩ := rlOk hr
  obtain ⟨t1, t2⟩ := sizeOk hn
  have HS := Lib.hid h
  unfold usageV at huu
  obtain ⟨av, hav⟩ : ∃ av, C1L.meanV (Avg.avgL (ls.map Sv.s) p.nm m (now - r.wi) now) = av := ⟨_, rfl⟩
  obtain ⟨ok, hok⟩ : ∃ ok, C1L.meanOk (Avg.avgL (ls.map Sv.s) p.nm m (now - r.wi) now) = ok := ⟨_, rfl⟩
  rw [hav, hok] at HCA
  rw [hav, hok, hu] at huu
  have HUU := Lib.hid huu
  have hwr : IntKind.i64.wrap (now - r.wi) = now - r.wi := by rw [IntKind.wrap_i64]; omega
  clear hav hok huu hr hn hwf hpl h hu
  have HA := Lib.hid (cells_new w #[.slice a ls.length cap, .string m, .int .i64 now, .int .i64 r.dl, .int .i64 r.fr, .int .i64 r.wi] 216)
  have H0 := Lib.hid (box_below w #[.slice a ls.length cap, .string m, .int .i64 now, .int .i64 r.dl, .int .i64 r.fr, .int .i64 r.wi] 216)
  have HS1 := Lib.hid (HS.out.kept H0.out)
  go_enter Tryz.func198, Tryz.ntmps198
  go_wp2_with fail
  refine (HCA.out _ HS1.out).mono ?_
  rintro e w2 ⟨rfl, hb2⟩
  have HB2 := Lib.hid (H0.out.trans (hb2.mono H0.out.size))
  clear hb2
  cases ok
  · obtain rfl : u = uu := HUU.out
    go_wp2
    go_ret
    exact ⟨rfl, HB2.out⟩
  · obtain rfl : av = uu := HUU.out
    go_wp2
    go_ret
    exact ⟨rfl, HB2.out⟩
theorem ta_rdy (T : TypeId) (u : Int) (w : World) : (Instr.typeAssert (.iface 261 (.agg #[.int .i64 u])) 258 261 true).run Tryz.prog w = .ok (.tuple #[.agg #[.int .i64 u], .bool true]) w := by kernel_rfl
theorem ta_unr_rdy (w : World) : (Instr.typeAssert (.iface 263 (.agg #[])) 258 261 true).run Tryz.prog w = .ok (.tuple #[.agg #[.int .i64 0], .bool false]) w := by kernel_rfl
theorem ta_unr (w : World) : (Instr.typeAssert (.iface 263 (.agg #[])) 258 263 true).run Tryz.prog w = .ok (.tuple #[.agg #[], .bool true]) w := by kernel_rfl
theorem ta_mis_rdy (w : World) : (Instr.typeAssert (.iface 264 (.agg #[])) 258 261 true).run Tryz.prog w = .ok (.tuple #[.agg #[.int .i64 0], .bool false]) w := by kernel_rfl
theorem ta_mis_unr (w : World) : (Instr.typeAssert (.iface 264 (.agg #[])) 258 263 true).run Tryz.prog w = .ok (.tuple #[.agg #[], .bool false]) w := by kernel_rfl
theorem ta_mis (w : World) : (Instr.typeAssert (.iface 264 (.agg #[])) 258 264 true).run Tryz.prog w = .ok (.tuple #[.agg #[], .bool true]) w := by kernel_rfl
theorem ta_ign_rdy (w : World) : (Instr.typeAssert (.iface 278 (.agg #[])) 258 261 true).run Tryz.prog w = .ok (.tuple #[.agg #[.int .i64 0], .bool false]) w := by kernel_rfl
theorem ta_ign_unr (w : World) : (Instr.typeAssert (.iface 278 (.agg #[])) 258 263 true).run Tryz.prog w = .ok (.tuple #[.agg #[], .bool false]) w := by kernel_rfl
theorem ta_ign_mis (w : World) : (Instr.typeAssert (.iface 278 (.agg #[])) 258 264 true).run Tryz.prog w = .ok (.tuple #[.agg #[], .bool false]) w := by kernel_rfl
theorem bszL {B : Nat} {W0 W : World} (e : Hid (B ≤ W0.heap.size)) (h : Below B W0 W) : B ≤ W.heap.size := Nat.le_trans e.out h.size
set_option maxHeartbeats 8000000 in
set_option maxRecDepth 20000 in
theorem tally_of (ls : List Pd) (hok : ∀ p ∈ ls, okP p = true) (hl12 : ls.length ≤ 12) (ap : Option Addr) (capp : Nat) (ss : List Sv) (a : Option Addr) (cap : Nat) (m : ByteArray) (now : Int) (r : Rl) (w : World) (hp : Pds w ap ls) (hvw : ls = [] ∨ viewV (ss.map Sv.s) now r = true) (hwf : ∀ l ∈ ss, l.s.wf) (hpl : ∀ l ∈ ss, l.s.pts.length ≤ 1048576) (h : Srs w a ss) (hm : ss.length ≤ 1048576) :
    Calls Tryz.prog 168 #[.agg #[.slice a ss.length cap, .string m, .int .i64 now, .int .i64 r.dl, .int .i64 r.fr, .int .i64 r.wi], .slice ap ls.length capp] w fun e w' => e = .returned (.tuple #[tlV (tlyT ls (ss.map Sv.s) m now r), .bool (tlyB ls (ss.map Sv.s) m now r)]) ∧ Below w.heap.size w w' := by
  have HCC : Hid (viewV (ss.map Sv.s) now r = true → ∀ (p : Pd), okP p = true → ∀ w, Srs w a ss → Calls Tryz.prog 197 #[.agg #[.slice a ss.length cap, .string m, .int .i64 now, .int .i64 r.dl, .int .i64 r.fr, .int .i64 r.wi], podV p] w fun e w' => e = .returned (classI (coreV p (ss.map Sv.s) m now r) (lastV (ss.map Sv.s) p.nm m).val) ∧ Below w.heap.size w w') := fun h2 p h1 w h => by
    unfold viewV at h2
    simp only [Bool.and_eq_true] at h2
    exact class_of p ss a cap m now r w hwf hpl h hm h1 h2.1.1 h2.1.2
  have HCU : Hid (viewV (ss.map Sv.s) now r = true → ∀ (p : Pd) (u uu : Int), (lastV (ss.map Sv.s) p.nm m).val = u → usageV (ss.map Sv.s) m now r p = uu → ∀ w, Srs w a ss → Calls Tryz.prog 198 #[.agg #[.slice a ss.length cap, .string m, .int .i64 now, .int .i64 r.dl, .int .i64 r.fr, .int .i64 r.wi], .string p.nm, .int .i64 u] w fun e w' => e = .returned (.int .i64 uu) ∧ Below w.heap.size w w') := fun h2 p u uu hu huu w h => by
    unfold viewV at h2
    simp only [Bool.and_eq_true] at h2
    exact usage_of p ss a cap m now r w hwf hpl h hm h2.1.1 h2.1.2 hu huu
  obtain ⟨b, off, ha, hb, hcell⟩ := hp.cells
  have Hc := Lib.hid hcell
  have Ha := Lib.hid ha
  have Hb := Lib.hid hb
  have HS := Lib.hid h
  have HOK := Lib.hid hok
  have HVW := Lib.hid hvw
  clear hcell ha hb hp h hwf hpl hok hvw
  obtain ⟨T, hT⟩ : ∃ T, tlyT ls (ss.map Sv.s) m now r = T := ⟨_, rfl⟩
  obtain ⟨bo, hbo⟩ : ∃ bo, tlyB ls (ss.map Sv.s) m now r = bo := ⟨_, rfl⟩
  have HNO : Hid (bo = false → T = ⟨0, 0, 0, 0⟩) := fun e => by rw [← hT]; unfold tlyT; rw [hbo, e]; rfl
  have HYES : Hid (bo = true → T = ⟨cntT ls (ss.map Sv.s) m now r 0, cntT ls (ss.map Sv.s) m now r 1, cntT ls (ss.map Sv.s) m now r 2, C1L.addV (useL ls (ss.map Sv.s) m now r)⟩) := fun e => by rw [← hT]; unfold tlyT; rw [hbo, e]; rfl
  have HBO : Hid (bo = !C1L.addB (useL ls (ss.map Sv.s) m now r)) := hbo.symm
  rw [hT, hbo]
  clear hT hbo
  obtain ⟨hv0, hz0, ht0⟩ := box3_cells w #[.slice a ss.length cap, .string m, .int .i64 now, .int .i64 r.dl, .int .i64 r.fr, .int .i64 r.wi] #[.int .i64 0, .int .i64 0, .int .i64 0, .int .i64 0] #[.int .i64 0, .int .i64 0, .int .i64 0, .int .i64 0] 216 150 150
  have HVC := Lib.hid hv0
  have HZC := Lib.hid hz0
  have HTC := Lib.hid ht0
  have H0 := Lib.hid (box3_below w (.cells #[.slice a ss.length cap, .string m, .int .i64 now, .int .i64 r.dl, .int .i64 r.fr, .int .i64 r.wi] 216) (.cells #[.int .i64 0, .int .i64 0, .int .i64 0, .int .i64 0] 150) (.cells #[.int .i64 0, .int .i64 0, .int .i64 0, .int .i64 0] 150))
  obtain ⟨W0, hW0⟩ : ∃ W0, ((w.alloc (.cells #[.slice a ss.length cap, .string m, .int .i64 now, .int .i64 r.dl, .int .i64 r.fr, .int .i64 r.wi] 216)).alloc (.cells #[.int .i64 0, .int .i64 0, .int .i64 0, .int .i64 0] 150)).alloc (.cells #[.int .i64 0, .int .i64 0, .int .i64 0, .int .i64 0] 150) = W0 := ⟨_, rfl⟩
  have HE : Hid (W0.heap.size = w.heap.size + 3) := by rw [← hW0]; exact Lib.hid (by simp)
  rw [hW0] at HVC HZC HTC H0
  have HWE := Lib.hid hW0
  have HLE : Hid (w.heap.size + 2 ≤ W0.heap.size) := by rw [HE.out]; exact Lib.hid (by omega)
  clear hW0 hv0 hz0 ht0
  have HSK : Hid (∀ W, Hid (Below (w.heap.size + 2) W0 W) → Srs W a ss) := fun W h => HS.out.kept (H0.out.trans (h.out.mono (by omega)))
  obtain ⟨i0, hi, hy0, hy1, hy2⟩ := info_int
  go_enter Tryz.func168, Tryz.ntmps168
  go_wp2
  rw [HWE.out]
  go_loopw [7, 17] (fun v i wr => ∃ (k : Nat) (n0 n1 n2 : Int), k ≤ ls.length ∧ i = .int .i64 k ∧ (0 ≤ n0 ∧ n0 ≤ 12) ∧ (0 ≤ n1 ∧ n1 ≤ 12) ∧ (0 ≤ n2 ∧ n2 ≤ 12) ∧ Hid (n0 = cntT (ls.take k) (ss.map Sv.s) m now r 0 ∧ n1 = cntT (ls.take k) (ss.map Sv.s) m now r 1 ∧ n2 = cntT (ls.take k) (ss.map Sv.s) m now r 2) ∧ Hid (CellsW wr (w.heap.size + 2) [.int .i64 n0, .int .i64 n1, .int .i64 n2, .int .i64 0]) ∧ Hid (OwnI wr (w.heap.size + 3) v (useL (ls.take k) (ss.map Sv.s) m now r)) ∧ Hid (Below (w.heap.size + 2) W0 wr)) (fun _ i _ => ls.length - (intOf i).toNat)
  case atStart => exact ⟨0, 0, 0, 0, Nat.zero_le _, rfl, ⟨by omega, by omega⟩, ⟨by omega, by omega⟩, ⟨by omega, by omega⟩, ⟨rfl, rfl, rfl⟩, HTC, OwnI.nil _ _, Below.refl _ _⟩
  case round =>
    obtain ⟨k, n0, n1, n2, hk, rfl, ⟨hn0, hm0⟩, ⟨hn1, hm1⟩, ⟨hn2, hm2⟩, HNN, HT, HO, HB⟩ := hrel
    by_cases hlt : k < ls.length
    · obtain ⟨p, hp⟩ : ∃ p, ls[k] = p := ⟨_, rfl⟩
      have hpm : p ∈ ls := by rw [← hp]; exact List.getElem_mem hlt
      have hbw := Hb.out (by omega)
      have hq := ((Hc.out k hlt).kept H0.out hbw).kept HB.out (by omega)
      obtain rfl := Ha.out (by omega)
      rw [hp] at hq
      obtain ⟨q0, q1, q2, q3⟩ := hq
      have hvw : viewV (ss.map Sv.s) now r = true := by
        rcases HVW.out with h | h
        · rw [h] at hlt; simp at hlt
        · exact h
      have HC1 := Lib.hid (HCC.out hvw p (HOK.out p hpm))
      have hlt3 := core_lt p (ss.map Sv.s) m now r
      unfold podV at HC1
      obtain ⟨c, hc⟩ : ∃ c, coreV p (ss.map Sv.s) m now r = c := ⟨_, rfl⟩
      obtain ⟨u, hu⟩ : ∃ u, (lastV (ss.map Sv.s) p.nm m).val = u := ⟨_, rfl⟩
      obtain ⟨uu, huu⟩ : ∃ uu, usageV (ss.map Sv.s) m now r p = uu := ⟨_, rfl⟩
      have HU1 := Lib.hid (HCU.out hvw p u uu hu huu)
      have HCI : Hid (coreI (ss.map Sv.s) m now r p = (c : Int)) := by unfold coreI; rw [hc]; exact Lib.hid rfl
      rw [hc, hu] at HC1
      rw [hc] at hlt3
      obtain ⟨ys, hys⟩ : ∃ ys, useL (ls.take k) (ss.map Sv.s) m now r = ys := ⟨_, rfl⟩
      have hyl : ys.length ≤ 12 := by rw [← hys]; exact Nat.le_trans (use_len _ _ _ _ _ _) (by omega)
      have HUN : Hid (c ≠ 0 → useL (ls.take (k + 1)) (ss.map Sv.s) m now r = ys) := fun h => by
        rw [use_no hlt hp (by unfold rdyP; rw [HCI.out]; simp; omega), hys]
      have HUY : Hid (c = 0 → useL (ls.take (k + 1)) (ss.map Sv.s) m now r = ys ++ [uu]) := fun h => by
        rw [use_yes hlt hp (by unfold rdyP; rw [HCI.out, h]; rfl), hys, huu]
      have HCNT : Hid (∀ z : Int, cntT (ls.take (k + 1)) (ss.map Sv.s) m now r z = cntT (ls.take k) (ss.map Sv.s) m now r z + (if ((c : Int) == z) = true then 1 else 0)) := fun z => by
        rw [cnt_next _ _ _ _ z k hlt hp, HCI.out]
      have hle0 := cnt_le ls (ss.map Sv.s) m now r 0 (k + 1)
      have hle1 := cnt_le ls (ss.map Sv.s) m now r 1 (k + 1)
      have hle2 := cnt_le ls (ss.map Sv.s) m now r 2 (k + 1)
      have HLE0 : Hid (cntT (ls.take (k + 1)) (ss.map Sv.s) m now r 0 ≤ 12 ∧ cntT (ls.take (k + 1)) (ss.map Sv.s) m now r 1 ≤ 12 ∧ cntT (ls.take (k + 1)) (ss.map Sv.s) m now r 2 ≤ 12) := ⟨by omega, by omega, by omega⟩
      rw [hys] at HO
      clear hp hpm hc hu hys huu HCI hvw hle0 hle1 hle2
      have HBX := Lib.hid (HB.out.alloc (bszL HLE HB.out) (.cells #[.string p.nm, .int .i64 p.born, .int .i64 p.ph, .bool p.rdy] 115))
      have hbxp := box_below wr #[.string p.nm, .int .i64 p.born, .int .i64 p.ph, .bool p.rdy] 115
      have HOX := Lib.hid (OwnI.kept HO.out hbxp)
      have HTX := Lib.hid (HT.out.kept hbxp)
      have HPX := Lib.hid (cells_new wr #[.string p.nm, .int .i64 p.born, .int .i64 p.ph, .bool p.rdy] 115)
      have hgt : w.heap.size + 2 < wr.heap.size := HT.out.1
      obtain ⟨c0, c1, c2, c3⟩ := cells4 HPX.out
      obtain ⟨v0, v1, v2, v3, v4, v5⟩ := cells6 (CellsW.keptB HVC.out HBX.out (by omega) HLE.out)
      have HCX := Lib.hid (HC1.out _ (HSK.out _ HBX))
      clear HC1 hbxp
      go_wp2_with fail
      clear q0 q1 q2 q3 v0 v1 v2 v3 v4 v5 c0 c1 c2 c3
      refine HCX.out.mono ?_
      rintro e v1 ⟨rfl, hb⟩
      have HO1 := Lib.hid (HOX.out.kept hb)
      have HT1 := Lib.hid (HTX.out.kept hb)
      have HP1 := Lib.hid (HPX.out.kept hb)
      have HV1 := Lib.hid (HBX.out.trans (hb.mono (bszL HLE HBX.out)))
      clear hb HCX HOX HTX HPX HBX HO HB HT
      have e3 : c = 3 ∨ c = 2 ∨ c = 1 ∨ c = 0 := by omega
      clear hlt3
      rcases e3 with rfl | rfl | rfl | rfl
      · have a1 := ta_ign_rdy
        have a2 := ta_ign_unr
        have a3 := ta_ign_mis
        have HU := Lib.hid (HUN.out (by omega))
        have HN : Hid (n0 = (cntT (ls.take (k + 1)) (ss.map Sv.s) m now r 0 : Nat) ∧ n1 = cntT (ls.take (k + 1)) (ss.map Sv.s) m now r 1 ∧ n2 = cntT (ls.take (k + 1)) (ss.map Sv.s) m now r 2) := by
          rw [HCNT.out, HCNT.out, HCNT.out]; exact HNN
        unfold classI
        go_wp2
        go_roundw
        case rel => exact ⟨k + 1, n0, n1, n2, by omega, by go_num, ⟨hn0, hm0⟩, ⟨hn1, hm1⟩, ⟨hn2, hm2⟩, HN.out, HT1, by rw [HU.out]; exact HO1, HV1⟩
        case measure => simp [intOf]; omega
      · have a1 := ta_mis_rdy
        have a2 := ta_mis_unr
        have a3 := ta_mis
        have HU := Lib.hid (HUN.out (by omega))
        have HN : Hid (n0 = (cntT (ls.take (k + 1)) (ss.map Sv.s) m now r 0 : Nat) ∧ n1 = (cntT (ls.take (k + 1)) (ss.map Sv.s) m now r 1 : Nat) ∧ n2 + 1 = (cntT (ls.take (k + 1)) (ss.map Sv.s) m now r 2 : Nat)) := by
          obtain ⟨h1, h2, h3⟩ := HNN.out
          rw [HCNT.out, HCNT.out, HCNT.out, h1, h2, h3]
          exact ⟨by simp, by simp, by simp⟩
        have hl3 := HLE0.out
        have hn3 := HN.out
        have HMX : Hid (n2 + 1 ≤ 12) := by show _ ≤ _; omega
        have hal := box_below v1 #[] 264
        have HT2 := Lib.hid (HT1.out.kept hal)
        have HO2 := Lib.hid (HO1.out.kept hal)
        have HV2 := Lib.hid (HV1.out.trans (hal.mono (bszL HLE HV1.out)))
        clear hal hl3 hn3
        obtain ⟨d0, d1, d2, d3⟩ := cells4 HT2.out
        obtain ⟨f0, f1, f2, f3⟩ := cellsF4 HT2.out
        unfold classI
        go_wp2
        have HT3 := Lib.hid (HT2.out.set 2 (.int .i64 (n2 + 1)) (by simp))
        have HO3 := Lib.hid (OwnI_within HO2.out (Within.of_only (B := w.heap.size + 2) ((Only.refl (w.heap.size + 2) _).setCell 2 (.int .i64 (n2 + 1))) (Nat.le_refl _) (Nat.lt_succ_self _)))
        have HV3 := Lib.hid (HV2.out.setCell (p := ⟨w.heap.size + 2, 2, none⟩) (Nat.le_refl _) (.int .i64 (n2 + 1)))
        clear d0 d1 d2 d3 f0 f1 f2 f3
        go_roundw
        case rel => exact ⟨k + 1, n0, n1, n2 + 1, by omega, by go_num, ⟨hn0, hm0⟩, ⟨hn1, hm1⟩, ⟨by omega, HMX.out⟩, HN.out, HT3, by rw [HU.out]; exact HO3, HV3⟩
        case measure => simp [intOf]; omega
      · have a1 := ta_unr_rdy
        have a2 := ta_unr
        have HU := Lib.hid (HUN.out (by omega))
        have HN : Hid (n0 = (cntT (ls.take (k + 1)) (ss.map Sv.s) m now r 0 : Nat) ∧ n1 + 1 = (cntT (ls.take (k + 1)) (ss.map Sv.s) m now r 1 : Nat) ∧ n2 = (cntT (ls.take (k + 1)) (ss.map Sv.s) m now r 2 : Nat)) := by
          obtain ⟨h1, h2, h3⟩ := HNN.out
          rw [HCNT.out, HCNT.out, HCNT.out, h1, h2, h3]
          exact ⟨by simp, by simp, by simp⟩
        have hl3 := HLE0.out
        have hn3 := HN.out
        have HMX : Hid (n1 + 1 ≤ 12) := by show _ ≤ _; omega
        have hal := box_below v1 #[] 263
        have HT2 := Lib.hid (HT1.out.kept hal)
        have HO2 := Lib.hid (HO1.out.kept hal)
        have HV2 := Lib.hid (HV1.out.trans (hal.mono (bszL HLE HV1.out)))
        clear hal hl3 hn3
        obtain ⟨d0, d1, d2, d3⟩ := cells4 HT2.out
        obtain ⟨f0, f1, f2, f3⟩ := cellsF4 HT2.out
        unfold classI
        go_wp2
        have HT3 := Lib.hid (HT2.out.set 1 (.int .i64 (n1 + 1)) (by simp))
        have HO3 := Lib.hid (OwnI_within HO2.out (Within.of_only (B := w.heap.size + 2) ((Only.refl (w.heap.size + 2) _).setCell 1 (.int .i64 (n1 + 1))) (Nat.le_refl _) (Nat.lt_succ_self _)))
        have HV3 := Lib.hid (HV2.out.setCell (p := ⟨w.heap.size + 2, 1, none⟩) (Nat.le_refl _) (.int .i64 (n1 + 1)))
        clear d0 d1 d2 d3 f0 f1 f2 f3
        go_roundw
        case rel => exact ⟨k + 1, n0, n1 + 1, n2, by omega, by go_num, ⟨hn0, hm0⟩, ⟨by omega, HMX.out⟩, ⟨hn2, hm2⟩, HN.out, HT3, by rw [HU.out]; exact HO3, HV3⟩
        case measure => simp [intOf]; omega
      · have a1 := ta_rdy 0 u
        have HU := Lib.hid (HUY.out rfl)
        have HN : Hid (n0 + 1 = (cntT (ls.take (k + 1)) (ss.map Sv.s) m now r 0 : Nat) ∧ n1 = (cntT (ls.take (k + 1)) (ss.map Sv.s) m now r 1 : Nat) ∧ n2 = (cntT (ls.take (k + 1)) (ss.map Sv.s) m now r 2 : Nat)) := by
          obtain ⟨h1, h2, h3⟩ := HNN.out
          rw [HCNT.out, HCNT.out, HCNT.out, h1, h2, h3]
          exact ⟨by simp, by simp, by simp⟩
        have hl3 := HLE0.out
        have hn3 := HN.out
        have HMX : Hid (n0 + 1 ≤ 12) := by show _ ≤ _; omega
        have hal := box_below v1 #[.int .i64 u] 261
        have HT2 := Lib.hid (HT1.out.kept hal)
        have HO2 := Lib.hid (HO1.out.kept hal)
        have HP2 := Lib.hid (HP1.out.kept hal)
        have HC2 := Lib.hid (cells_new v1 #[.int .i64 u] 261)
        have HV2 := Lib.hid (HV1.out.trans (hal.mono (bszL HLE HV1.out)))
        have hg1 : wr.heap.size ≠ w.heap.size + 2 := by omega
        have hg2 : v1.heap.size ≠ w.heap.size + 2 := by have := HT1.out.1; omega
        have HT3 := Lib.hid (HT2.out.set 0 (.int .i64 (n0 + 1)) (by simp))
        have HO3 := Lib.hid (OwnI_within HO2.out (Within.of_only (B := w.heap.size + 2) ((Only.refl (w.heap.size + 2) _).setCell 0 (.int .i64 (n0 + 1))) (Nat.le_refl _) (Nat.lt_succ_self _)))
        have HV3 := Lib.hid (HV2.out.setCell (p := ⟨w.heap.size + 2, 0, none⟩) (Nat.le_refl _) (.int .i64 (n0 + 1)))
        have HP3 := Lib.hid (CellsW.off (j := 0) HP2.out (.int .i64 (n0 + 1)) hg1)
        have HC3 := Lib.hid (CellsW.off (j := 0) HC2.out (.int .i64 (n0 + 1)) hg2)
        clear hal hl3 hn3 hg1 hg2
        obtain ⟨d0, d1, d2, d3⟩ := cells4 HT2.out
        obtain ⟨f0, f1, f2, f3⟩ := cellsF4 HT2.out
        obtain ⟨c0, c1, c2, c3⟩ := cells4 HP3.out
        have e0 := (HC3.out.2 0 (by simp)).1
        simp only [List.getElem_cons_zero] at e0
        obtain ⟨w0, w1, w2, w3, w4, w5⟩ := cells6 (CellsW.keptB HVC.out HV3.out (by omega) HLE.out)
        unfold classI
        go_wp2_with fail
        clear d0 d1 d2 d3 f0 f1 f2 f3 c0 c1 c2 c3 e0 w0 w1 w2 w3 w4 w5
        refine (HU1.out _ (HSK.out _ HV3)).mono ?_
        rintro e v3 ⟨rfl, hb⟩
        have HT4 := Lib.hid (CellsW.kept HT3.out hb)
        have HO4 := Lib.hid (HO3.out.kept hb)
        have HV4 := Lib.hid (HV3.out.trans (hb.mono (bszL HLE HV3.out)))
        have HSX := Lib.hid (HV4.out.alloc (bszL HLE HV4.out) (.cells #[.int .i64 uu] 3))
        have HTX := Lib.hid (CellsW.kept HT4.out (box_below v3 #[.int .i64 uu] 3))
        have HSE : Hid (w.heap.size + 3 ≤ (v3.alloc (.cells #[.int .i64 uu] 3)).heap.size) := by have := HTX.out.1; exact Lib.hid (by omega)
        clear hb
        go_wp2_with (at_builtin; refine wpList_append_own _ rfl _ _ 58 rfl (w.heap.size + 3) 3 i0 (.int .i64 0) 1 8 Tryz.underlying58 hi hy0 hy1 hy2 rfl (by decide) _ _ _ rfl (World.ownsRow.alloc HO4.out _) ⟨v3.heap.size, 0, none⟩ 1 1 [.int .i64 uu] rfl rfl (one_cell _ _ _) (by intro u hu; simp at hu; subst hu; rfl) (by unfold maxLen; omega) (by omega) HSE.out ?_)
        intro v' w8 hown' hgrow _
        have HO8 := Lib.hid (OwnI.snoc hown')
        have HB8 := Lib.hid (HSX.out.grown hgrow (bszL HLE HSX.out) (fun g hg => by have := (World.ownsRow.lt HO4.out g hg).1; omega))
        have HT8 := Lib.hid (CellsW.far HTX.out hgrow (fun e => by have := (World.ownsRow.lt HO4.out _ e).1; omega))
        clear hown' hgrow
        go_wp2
        go_roundw
        case rel => exact ⟨k + 1, n0 + 1, n1, n2, by omega, by go_num, ⟨by omega, HMX.out⟩, ⟨hn1, hm1⟩, ⟨hn2, hm2⟩, HN.out, HT8, by rw [HU.out]; exact HO8, HB8⟩
        case measure => simp [intOf]; omega
    · obtain rfl : k = ls.length := by omega
      obtain ⟨ys, hys⟩ : ∃ ys, useL ls (ss.map Sv.s) m now r = ys := ⟨_, rfl⟩
      have hO := HO.out
      have hnn := HNN.out
      rw [List.take_of_length_le (Nat.le_refl _)] at hnn
      rw [List.take_of_length_le (Nat.le_refl _), hys] at hO
      have hyl : ys.length ≤ 12 := by rw [← hys]; have := use_len ls (ss.map Sv.s) m now r ls.length; rw [List.take_of_length_le (Nat.le_refl _)] at this; omega
      obtain ⟨ay, cy, rfl, hoy, -⟩ := hO.form
      have HIY := Lib.hid (show Ints wr ay ys by obtain ⟨a', c', e, hi⟩ := hoy.ints; cases e; exact hi)
      have HZ5 := Lib.hid (CellsW.keptB HZC.out HB.out (by omega) HLE.out)
      have HBF := Lib.hid (H0.out.trans (HB.out.mono (by omega)))
      have hgz : w.heap.size + 1 ≠ w.heap.size + 2 := by omega
      rw [hys] at HBO HYES
      obtain ⟨sm, hsm⟩ : ∃ sm, C1L.addV ys = sm := ⟨_, rfl⟩
      obtain ⟨ct, hct⟩ : ∃ ct, C1L.addB ys = ct := ⟨_, rfl⟩
      have HAD := Lib.hid (C1L.impl_add ys ay cy wr HIY.out (by omega))
      rw [hsm, hct] at HAD
      rw [hct] at HBO
      rw [hsm] at HYES
      have HNX := Lib.hid hnn
      clear hys hO hoy hsm hct HO hnn
      go_wp2_with fail
      refine HAD.out.mono ?_
      rintro e w' ⟨rfl, rfl⟩
      cases ct
      · obtain rfl : bo = true := HBO.out
        obtain rfl : T = ⟨n0, n1, n2, sm⟩ := by rw [HYES.out rfl, HNX.out.1, HNX.out.2.1, HNX.out.2.2]
        obtain ⟨z0, z1, z2, z3⟩ := cells4 HZ5.out
        obtain ⟨f0, f1, f2, f3⟩ := cellsF4 HZ5.out
        obtain ⟨y0, y1, y2, y3⟩ := cells4 HT.out
        obtain ⟨e0, e1, e2, e3⟩ := cellsF4 HT.out
        clear HBO HYES HNO
        go_wp2
        obtain ⟨k1, k2⟩ := tl_set (CellsW.off (j := 3) HZ5.out (.int .i64 sm) hgz) ⟨n0, n1, n2, sm⟩ (by omega) (HBF.out.setCell (p := ⟨w.heap.size + 2, 3, none⟩) (show w.heap.size ≤ w.heap.size + 2 by omega) _)
        exact bodyPost_ret (ret_tally rfl k1 rfl rfl) rfl ⟨rfl, k2⟩
      · obtain rfl : bo = false := HBO.out
        obtain rfl : T = ⟨0, 0, 0, 0⟩ := HNO.out rfl
        obtain ⟨z0, z1, z2, z3⟩ := cells4 HZ5.out
        obtain ⟨f0, f1, f2, f3⟩ := cellsF4 HZ5.out
        clear HBO HYES HNO
        go_wp2
        obtain ⟨k1, k2⟩ := tl_set HZ5.out ⟨0, 0, 0, 0⟩ (by omega) HBF.out
        exact bodyPost_ret (ret_tally rfl k1 rfl rfl) rfl ⟨rfl, k2⟩
theorem off4 {w : World} {g c : Nat} {vs : List Value} (h : CellsW w g vs) (hne : g ≠ c) (u0 u1 u2 u3 : Value) : CellsW ((((w.setCell ⟨c, 0, none⟩ u0).setCell ⟨c, 1, none⟩ u1).setCell ⟨c, 2, none⟩ u2).setCell ⟨c, 3, none⟩ u3) g vs :=
  CellsW.off (CellsW.off (CellsW.off (CellsW.off h u0 hne) u1 hne) u2 hne) u3 hne
theorem tly_run {ls : List Pd} (xs : List Ser) (m : ByteArray) (now : Int) (r : Rl) (h1 : podsV ls = true) (h2 : ls = [] ∨ viewV xs now r = true) : tlyB (ls.filter runs) xs m now r = tallyOk ls xs m now r ∧ tlyT (ls.filter runs) xs m now r = tallyV ls xs m now r := by
  have hb : tlyB (ls.filter runs) xs m now r = tallyOk ls xs m now r := by
    unfold tlyB tallyOk
    rw [use_run, h1]
    rcases h2 with h | h
    · rw [h]; rfl
    · rw [h, Bool.or_true]; rfl
  refine ⟨hb, ?_⟩
  unfold tlyT tallyV
  rw [hb, use_run, cnt_run _ _ _ _ _ 0 (by decide), cnt_run _ _ _ _ _ 1 (by decide), cnt_run _ _ _ _ _ 2 (by decide)]
set_option maxHeartbeats 8000000 in
set_option maxRecDepth 20000 in
theorem impl_tally (ls : List Pd) (hwp : ∀ p ∈ ls, p.wf) (ap : Option Addr) (capp : Nat) (ss : List Sv) (a : Option Addr) (cap : Nat) (m : ByteArray) (now : Int) (r : Rl) (w : World) (hp : Pds w ap ls) (hmp : ls.length ≤ 1048576) (hwf : ∀ l ∈ ss, l.s.wf) (hpl : ∀ l ∈ ss, l.s.pts.length ≤ 1048576) (h : Srs w a ss) (hm : ss.length ≤ 1048576) :
    Calls Tryz.prog 141 #[.slice ap ls.length capp, .slice a ss.length cap, .string m, .int .i64 now, rlV r] w fun e w' => e = .returned (.tuple #[tlV (tallyV ls (ss.map Sv.s) m now r), .bool (tallyOk ls (ss.map Sv.s) m now r)]) ∧ Below w.heap.size w w' := by
  have HCP : Hid (∀ w, Pds w ap ls → Calls Tryz.prog 39 #[.slice ap ls.length capp] w fun e w' => e = .returned (.bool (podsV ls)) ∧ Below w.heap.size w w') := fun w h => PokI.impl_podsok ls hwp ap capp w h hmp
  have HCV : Hid (∀ w, Srs w a ss → Calls Tryz.prog 167 #[.agg #[.slice a ss.length cap, .string m, .int .i64 now, .int .i64 r.dl, .int .i64 r.fr, .int .i64 r.wi]] w fun e w' => e = .returned (.bool (viewV (ss.map Sv.s) now r)) ∧ Below w.heap.size w w') := fun w h => view_ok ss a cap m now r w hwf hpl h hm
  have HCR : Hid (∀ w, Pds w ap ls → Calls Tryz.prog 169 #[.slice ap ls.length capp] w fun e w' => ∃ D, e = .returned (.map (some w.heap.size)) ∧ RosI.RM w' w.heap.size ls.length D ∧ Is D ((ros ls).filter runs) ∧ Below w.heap.size w w') := fun w h => Run.impl_running ls hwp ap capp w h hmp
  have HCT : Hid (podsV ls = true → (ls = [] ∨ viewV (ss.map Sv.s) now r = true) → ∀ (aq : Option Addr) (cq : Nat) w, Pds w aq (ls.filter runs) → Srs w a ss → Calls Tryz.prog 168 #[.agg #[.slice a ss.length cap, .string m, .int .i64 now, .int .i64 r.dl, .int .i64 r.fr, .int .i64 r.wi], .slice aq (ls.filter runs).length cq] w fun e w' => e = .returned (.tuple #[tlV (tallyV ls (ss.map Sv.s) m now r), .bool (tallyOk ls (ss.map Sv.s) m now r)]) ∧ Below w.heap.size w w') := fun h1 h2 aq cq w hq h => by
    have h3 := (podsV_iff ls).1 h1
    have := tally_of (ls.filter runs) (fun p hp => h3.2.1 p (List.mem_filter.1 hp).1) (Nat.le_trans (List.length_filter_le _ _) h3.1) aq cq ss a cap m now r w hq (by rcases h2 with h | h; exact .inl (by rw [h]; rfl); exact .inr h) hwf hpl h hm
    obtain ⟨e1, e2⟩ := tly_run (ss.map Sv.s) m now r h1 h2
    rw [e1, e2] at this
    exact this
  have HP := Lib.hid hp
  have HS := Lib.hid h
  clear hp h hwf hpl hwp
  obtain ⟨T, hT⟩ : ∃ T, tallyV ls (ss.map Sv.s) m now r = T := ⟨_, rfl⟩
  obtain ⟨bo, hbo⟩ : ∃ bo, tallyOk ls (ss.map Sv.s) m now r = bo := ⟨_, rfl⟩
  have HNO : Hid (bo = false → T = ⟨0, 0, 0, 0⟩) := fun e => by rw [← hT]; exact tally_no (hbo.trans e)
  have HBO : Hid (bo = (podsV ls && (ls.isEmpty || viewV (ss.map Sv.s) now r) && !C1L.addB (useL ls (ss.map Sv.s) m now r))) := by rw [← hbo]; exact Lib.hid rfl
  rw [hT, hbo] at HCT
  rw [hT, hbo]
  unfold tlV at HCT
  clear hT hbo
  unfold rlV
  obtain ⟨hr0, hz0, hv0⟩ := box3_cells w #[.int .i64 r.dl, .int .i64 r.fr, .int .i64 r.wi] #[.int .i64 0, .int .i64 0, .int .i64 0, .int .i64 0] #[.slice a ss.length cap, .string m, .int .i64 now, .int .i64 r.dl, .int .i64 r.fr, .int .i64 r.wi] 40 150 216
  have HVC := Lib.hid hv0
  have HZC := Lib.hid hz0
  have H0 := Lib.hid (box3_below w (.cells #[.int .i64 r.dl, .int .i64 r.fr, .int .i64 r.wi] 40) (.cells #[.int .i64 0, .int .i64 0, .int .i64 0, .int .i64 0] 150) (.cells #[.slice a ss.length cap, .string m, .int .i64 now, .int .i64 r.dl, .int .i64 r.fr, .int .i64 r.wi] 216))
  obtain ⟨W0, hW0⟩ : ∃ W0, ((w.alloc (.cells #[.int .i64 r.dl, .int .i64 r.fr, .int .i64 r.wi] 40)).alloc (.cells #[.int .i64 0, .int .i64 0, .int .i64 0, .int .i64 0] 150)).alloc (.cells #[.slice a ss.length cap, .string m, .int .i64 now, .int .i64 r.dl, .int .i64 r.fr, .int .i64 r.wi] 216) = W0 := ⟨_, rfl⟩
  have HE : Hid (W0.heap.size = w.heap.size + 3) := by rw [← hW0]; exact Lib.hid (by simp)
  rw [hW0] at HVC HZC H0
  have HWE := Lib.hid hW0
  clear hW0 hr0 hz0 hv0
  have HPK : Hid (∀ W, Hid (Below W0.heap.size W0 W) → Pds W ap ls) := fun W h => (HP.out.kept H0.out).kept h.out
  have HSK : Hid (∀ W, Hid (Below W0.heap.size W0 W) → Srs W a ss) := fun W h => (HS.out.kept H0.out).kept h.out
  have HB0 : Hid (Below W0.heap.size W0 W0) := Below.refl _ _
  have HT : Hid (∀ W, Hid (Below W0.heap.size W0 W) → (W.cell? ⟨w.heap.size + 2, 0, none⟩ = some (.slice a ss.length cap) ∧ W.cell? ⟨w.heap.size + 2, 1, none⟩ = some (.string m) ∧ W.cell? ⟨w.heap.size + 2, 2, none⟩ = some (.int .i64 now) ∧ W.cell? ⟨w.heap.size + 2, 3, none⟩ = some (.int .i64 r.dl) ∧ W.cell? ⟨w.heap.size + 2, 4, none⟩ = some (.int .i64 r.fr) ∧ W.cell? ⟨w.heap.size + 2, 5, none⟩ = some (.int .i64 r.wi))) := fun W h => cells6 (HVC.out.kept h.out)
  go_enter Tryz.func141, Tryz.ntmps141
  go_wp2_with fail
  rw [HWE.out]
  refine (HCP.out _ (HPK.out _ HB0)).mono ?_
  rintro e v1 ⟨rfl, hb⟩
  have HB1 := Lib.hid (HB0.out.trans (hb.mono HB0.out.size))
  clear hb HCP
  cases c1 : podsV ls
  · have HN : Hid (bo = false) := by rw [HBO.out, c1]; exact Lib.hid rfl
    obtain rfl : T = ⟨0, 0, 0, 0⟩ := HNO.out HN.out
    obtain rfl : bo = false := HN.out
    have HZ1 := Lib.hid (HZC.out.kept HB1.out)
    have HBF := Lib.hid (H0.out.trans (HB1.out.mono H0.out.size))
    obtain ⟨z0, z1, z2, z3⟩ := cells4 HZ1.out
    obtain ⟨f0, f1, f2, f3⟩ := cellsF4 HZ1.out
    clear c1 HBO HNO
    go_wp2
    obtain ⟨k1, k2⟩ := tl_set HZ1.out ⟨0, 0, 0, 0⟩ (by omega) HBF.out
    exact bodyPost_ret (ret_tally rfl k1 rfl rfl) rfl ⟨rfl, k2⟩
  · have HD := Lib.hid (HCT.out c1)
    have HUP := Lib.hid ((podsV_iff ls).1 c1).2.2
    have hl12 := ((podsV_iff ls).1 c1).1
    have hr12 : ((ros ls).filter runs).length ≤ 12 := Nat.le_trans (List.length_filter_le _ _) (Nat.le_trans (ros_len ls) hl12)
    have HK1 := Lib.hid c1
    clear c1 HCT
    by_cases h0 : ls = []
    · have hnl : ¬ 0 < ls.length := by rw [h0]; simp
      have HL0 := Lib.hid h0
      clear h0
      have HF := Lib.hid (HD.out (.inl HL0.out))
      have HBD : Hid (Below W0.heap.size W0 v1.drew) := HB1.out.drew
      go_wp2_with fail
      go_region_held3 (fun w' => w'.cell? ⟨w.heap.size + 2, 0, none⟩ = some (.slice a ss.length cap) ∧ w'.cell? ⟨w.heap.size + 2, 1, none⟩ = some (.string m) ∧ w'.cell? ⟨w.heap.size + 2, 2, none⟩ = some (.int .i64 now) ∧ w'.cell? ⟨w.heap.size + 2, 3, none⟩ = some (.int .i64 r.dl) ∧ w'.cell? ⟨w.heap.size + 2, 4, none⟩ = some (.int .i64 r.fr) ∧ w'.cell? ⟨w.heap.size + 2, 5, none⟩ = some (.int .i64 r.wi))
        (first | exact cells6 (off4 (HVC.out.kept HB5.out) (by omega) _ _ _ _) | exact HT.out _ HB5 | exact HT.out _ HB4 | exact HT.out _ HB3 | exact HT.out _ HBD)
        (first
          | (go_at_call 169; refine (HCR.out _ (HPK.out _ HBD)).mono ?_; rintro e v3 ⟨D, rfl, ho, hi, hb⟩; have HO3 := Lib.hid ho; have HI3 := Lib.hid hi; have HB3 := Lib.hid (HBD.out.trans (hb.mono HBD.out.size)); clear ho hi hb)
          | (go_at_call 86; refine (RosP.impl_pods _ _ D ((ros ls).filter runs) _ HO3.out HI3.out hr12).mono ?_; rintro e v4 ⟨g, cp, qs, rfl, hg, hpm, hup, hpd, hb⟩; obtain rfl : qs = ls.filter runs := sorted_runs hpm hup HUP.out; have HQ4 := Lib.hid hpd; have HB4 := Lib.hid (HB3.out.trans (hb.mono HB3.out.size)); clear hg hpm hup hpd hb)
          | (go_at_call 168; refine (HF.out _ _ _ HQ4.out (HSK.out _ HB4)).mono ?_; rintro e v5 ⟨rfl, hb⟩; have HB5 := Lib.hid (HB4.out.trans (hb.mono HB4.out.size)); have HZ5 := Lib.hid (HZC.out.kept HB5.out); obtain ⟨z0, z1, z2, z3⟩ := cells4 HZ5.out; obtain ⟨f0, f1, f2, f3⟩ := cellsF4 HZ5.out; clear hb))
      have HBF := Lib.hid (H0.out.trans (HB5.out.mono H0.out.size))
      clear z0 z1 z2 z3 f0 f1 f2 f3 HNO HBO
      go_wp2
      obtain ⟨k1, k2⟩ := tl_set HZ5.out T (by omega) HBF.out
      exact bodyPost_ret (ret_tally rfl k1 rfl rfl) rfl ⟨rfl, k2⟩
    · have hpos : 0 < ls.length := List.length_pos_iff.2 h0
      have hem : ls.isEmpty = false := by cases ls with
        | nil => exact absurd rfl h0
        | cons x y => rfl
      have hv6 := HT.out v1 HB1
      obtain ⟨y0, y1, y2, y3, y4, y5⟩ := hv6
      go_wp2_with fail
      clear y0 y1 y2 y3 y4 y5
      refine (HCV.out _ (HSK.out _ HB1)).mono ?_
      rintro e v2 ⟨rfl, hb⟩
      have HB2 := Lib.hid (HB1.out.trans (hb.mono HB1.out.size))
      clear hb
      cases c2 : viewV (ss.map Sv.s) now r
      · have HN : Hid (bo = false) := by rw [HBO.out, c2, hem, HK1.out]; exact Lib.hid rfl
        obtain rfl : T = ⟨0, 0, 0, 0⟩ := HNO.out HN.out
        obtain rfl : bo = false := HN.out
        have HZ1 := Lib.hid (HZC.out.kept HB2.out)
        have HBF := Lib.hid (H0.out.trans (HB2.out.mono H0.out.size))
        obtain ⟨z0, z1, z2, z3⟩ := cells4 HZ1.out
        obtain ⟨f0, f1, f2, f3⟩ := cellsF4 HZ1.out
        clear c2 HBO HNO
        go_wp2
        obtain ⟨k1, k2⟩ := tl_set HZ1.out ⟨0, 0, 0, 0⟩ (by omega) HBF.out
        exact bodyPost_ret (ret_tally rfl k1 rfl rfl) rfl ⟨rfl, k2⟩
      · have HGD := Lib.hid c2
        clear c2
        have HF := Lib.hid (HD.out (.inr HGD.out))
        have HBD : Hid (Below W0.heap.size W0 v2.drew) := HB2.out.drew
        go_wp2_with fail
        go_region_held3 (fun w' => w'.cell? ⟨w.heap.size + 2, 0, none⟩ = some (.slice a ss.length cap) ∧ w'.cell? ⟨w.heap.size + 2, 1, none⟩ = some (.string m) ∧ w'.cell? ⟨w.heap.size + 2, 2, none⟩ = some (.int .i64 now) ∧ w'.cell? ⟨w.heap.size + 2, 3, none⟩ = some (.int .i64 r.dl) ∧ w'.cell? ⟨w.heap.size + 2, 4, none⟩ = some (.int .i64 r.fr) ∧ w'.cell? ⟨w.heap.size + 2, 5, none⟩ = some (.int .i64 r.wi))
          (first | exact cells6 (off4 (HVC.out.kept HB5.out) (by omega) _ _ _ _) | exact HT.out _ HB5 | exact HT.out _ HB4 | exact HT.out _ HB3 | exact HT.out _ HBD)
          (first
            | (go_at_call 169; refine (HCR.out _ (HPK.out _ HBD)).mono ?_; rintro e v3 ⟨D, rfl, ho, hi, hb⟩; have HO3 := Lib.hid ho; have HI3 := Lib.hid hi; have HB3 := Lib.hid (HBD.out.trans (hb.mono HBD.out.size)); clear ho hi hb)
            | (go_at_call 86; refine (RosP.impl_pods _ _ D ((ros ls).filter runs) _ HO3.out HI3.out hr12).mono ?_; rintro e v4 ⟨g, cp, qs, rfl, hg, hpm, hup, hpd, hb⟩; obtain rfl : qs = ls.filter runs := sorted_runs hpm hup HUP.out; have HQ4 := Lib.hid hpd; have HB4 := Lib.hid (HB3.out.trans (hb.mono HB3.out.size)); clear hg hpm hup hpd hb)
            | (go_at_call 168; refine (HF.out _ _ _ HQ4.out (HSK.out _ HB4)).mono ?_; rintro e v5 ⟨rfl, hb⟩; have HB5 := Lib.hid (HB4.out.trans (hb.mono HB4.out.size)); have HZ5 := Lib.hid (HZC.out.kept HB5.out); obtain ⟨z0, z1, z2, z3⟩ := cells4 HZ5.out; obtain ⟨f0, f1, f2, f3⟩ := cellsF4 HZ5.out; clear hb))
        have HBF := Lib.hid (H0.out.trans (HB5.out.mono H0.out.size))
        clear z0 z1 z2 z3 f0 f1 f2 f3 HNO HBO
        go_wp2
        obtain ⟨k1, k2⟩ := tl_set HZ5.out T (by omega) HBF.out
        exact bodyPost_ret (ret_tally rfl k1 rfl rfl) rfl ⟨rfl, k2⟩
/-! ### At a copy of the store. -/
theorem spec_tally2 (ls : List Pd) (hwp : ∀ p ∈ ls, p.wf) (ap : Option Addr) (capp : Nat) (ss ms : List Sv) (hs : ms.map Sv.s = ss.map Sv.s) (a : Option Addr) (cap : Nat) (m : ByteArray) (now : Int) (r : Rl) (w : World) (hp : Pds w ap ls) (hmp : ls.length ≤ 1048576) (hwf : ∀ l ∈ ss, l.s.wf) (hpl : ∀ l ∈ ss, l.s.pts.length ≤ 1048576) (h : Srs w a ms) (hm : ss.length ≤ 1048576) {T : Tl} {b : Bool} (hT : tallyV ls (ss.map Sv.s) m now r = T) (hb : tallyOk ls (ss.map Sv.s) m now r = b) :
    Calls Tryz.prog 100 #[.slice ap ls.length capp, .slice a ss.length cap, .string m, .int .i64 now, rlV r] w fun e w' => e = .returned (.tuple #[.agg #[.int .i64 T.rdy, .int .i64 T.unr, .int .i64 T.mis, .int .i64 T.sum], .bool b]) ∧ Below w.heap.size w w' := by
  have hl := map_len hs
  have := spec_tally ls hwp ap capp ms a cap m now r w hp hmp (map_all hs hwf) (map_all (P := fun s => s.pts.length ≤ 1048576) hs hpl) h (by omega)
  rw [hl, hs, hT, hb] at this
  exact this
theorem impl_tally2 (ls : List Pd) (hwp : ∀ p ∈ ls, p.wf) (ap : Option Addr) (capp : Nat) (ss ms : List Sv) (hs : ms.map Sv.s = ss.map Sv.s) (a : Option Addr) (cap : Nat) (m : ByteArray) (now : Int) (r : Rl) (w : World) (hp : Pds w ap ls) (hmp : ls.length ≤ 1048576) (hwf : ∀ l ∈ ss, l.s.wf) (hpl : ∀ l ∈ ss, l.s.pts.length ≤ 1048576) (h : Srs w a ms) (hm : ss.length ≤ 1048576) {T : Tl} {b : Bool} (hT : tallyV ls (ss.map Sv.s) m now r = T) (hb : tallyOk ls (ss.map Sv.s) m now r = b) :
    Calls Tryz.prog 141 #[.slice ap ls.length capp, .slice a ss.length cap, .string m, .int .i64 now, rlV r] w fun e w' => e = .returned (.tuple #[.agg #[.int .i64 T.rdy, .int .i64 T.unr, .int .i64 T.mis, .int .i64 T.sum], .bool b]) ∧ Below w.heap.size w w' := by
  have hl := map_len hs
  have := impl_tally ls hwp ap capp ms a cap m now r w hp hmp (map_all hs hwf) (map_all (P := fun s => s.pts.length ≤ 1048576) hs hpl) h (by omega)
  rw [hl, hs, hT, hb] at this
  exact this
end Go.Proofs.YtgmdfkmmbcpikaaGreat.TalI
