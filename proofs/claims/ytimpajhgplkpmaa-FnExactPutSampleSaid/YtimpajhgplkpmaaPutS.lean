/- PutSample of chapter 3: the model's side. -/
import Derived.Test.YtimpajhgplkpmaaPutM
import Derived.Deep.Cut
import Derived.BigQuiet
import Derived.Deep.RegionHeldLaw
import Derived.Deep.AppendLies
namespace Go.Proofs.Ytimpajhgplkpmaa.PutS
open Go.RowKit Go.Sort Go.BigFrame
open Go.Proofs.Ytimpajhgplkpmaa.Items Go.Proofs.Ytimpajhgplkpmaa.C1 Go.Proofs.Ytimpajhgplkpmaa.C2 Go.Proofs.Ytimpajhgplkpmaa.Smps Go.Proofs.Ytimpajhgplkpmaa.Mem Go.Proofs.Ytimpajhgplkpmaa.Ser Go.Proofs.Ytimpajhgplkpmaa.Ser2 Go.Proofs.Ytimpajhgplkpmaa.Key Go.Proofs.Ytimpajhgplkpmaa.Sto Go.Proofs.Ytimpajhgplkpmaa.StoL Go.Proofs.Ytimpajhgplkpmaa.Find Go.Proofs.Ytimpajhgplkpmaa.Sof Go.Proofs.Ytimpajhgplkpmaa.CopyS Go.Proofs.Ytimpajhgplkpmaa.PutD Go.Proofs.Ytimpajhgplkpmaa.PutM
set_option linter.unusedVariables false
theorem cells4 {w : World} {g : Nat} {a b c d : Value} (h : CellsW w g [a, b, c, d]) : w.cell? ⟨g, 0, none⟩ = some a ∧ w.cell? ⟨g, 1, none⟩ = some b ∧ w.cell? ⟨g, 2, none⟩ = some c ∧ w.cell? ⟨g, 3, none⟩ = some d :=
  ⟨(h.2 0 (by simp)).1, (h.2 1 (by simp)).1, (h.2 2 (by simp)).1, (h.2 3 (by simp)).1⟩
theorem bsz {B : Nat} {a w : World} (e : a.heap.size = B) (h : Below B a w) : B ≤ w.heap.size := e ▸ h.size
theorem form_of {w : World} {B : Nat} {v : Value} {rs : List Sv} (h : OwnR w B v rs) (h0 : 0 < rs.length) : ∃ g cap, v = .slice (some ⟨g, 0, none⟩) rs.length cap := by
  rcases h.2 with ⟨hv, hz⟩ | ⟨g, cap, cur, hv, _⟩
  · omega
  · exact ⟨g, cap, hv⟩
theorem srs_all {w : World} {B g n cap : Nat} {rs : List Sv} (h : OwnR w B (.slice (some ⟨g, 0, none⟩) n cap) rs) (hp : ∀ l ∈ rs, Pts w l.a l.s.pts) : Srs w (some ⟨g, 0, none⟩) rs :=
  .inr ⟨g, 0, rfl, h.lt.2, fun i hi => ⟨by have := h.at3 i hi; simpa using this, hp _ (List.getElem_mem hi)⟩⟩
theorem pts_set {w : World} {g j : Nat} {u : Value} {a : Option Addr} {ps : List Pt} (h : Pts w a ps) (ho : Off g a) : Pts (w.setCell ⟨g, j, none⟩ u) a ps := by
  rcases h with h | ⟨b, off, h1, h2, h3⟩
  · exact .inl h
  · have hne := ho b off none h1
    refine .inr ⟨b, off, h1, by simpa [World.setCell] using h2, fun i hi => ?_⟩
    have hc : ∀ k, (w.setCell ⟨g, j, none⟩ u).cell? ⟨b, k, none⟩ = w.cell? ⟨b, k, none⟩ := fun k => World.cell?_setCell_other _ _ _ _ (show (⟨g, j, none⟩ : Addr) ≠ ⟨b, k, none⟩ by intro hh; cases hh; exact hne rfl)
    exact ⟨(hc _).trans (h3 i hi).1, (hc _).trans (h3 i hi).2⟩
theorem srs_set {w : World} {B g n cap : Nat} {ms : List Sv} (ho : OwnR w B (.slice (some ⟨g, 0, none⟩) n cap) ms) (hg : Ser2.Good w B g ms) (i : Nat) (hi : i < ms.length) (l' : Sv) (hp : l'.s.pod = ms[i].s.pod) (hm : l'.s.met = ms[i].s.met) (hpts : Pts w l'.a l'.s.pts) (hoff : Off g l'.a) :
    Srs (w.setCell ⟨g, i * 3 + 2, none⟩ (.slice l'.a l'.s.pts.length l'.cap)) (some ⟨g, 0, none⟩) (ms.set i l') := by
  refine .inr ⟨g, 0, rfl, by simpa [World.setCell] using ho.lt.2, fun j hj => ?_⟩
  have hj' : j < ms.length := by simpa using hj
  have hq := ho.at3 j hj'
  have hc : ∀ k, k ≠ i * 3 + 2 → (w.setCell ⟨g, i * 3 + 2, none⟩ (.slice l'.a l'.s.pts.length l'.cap)).cell? ⟨g, k, none⟩ = w.cell? ⟨g, k, none⟩ := fun k hk => World.cell?_setCell_other _ _ _ _ (show (⟨g, i * 3 + 2, none⟩ : Addr) ≠ ⟨g, k, none⟩ by intro hh; cases hh; exact hk rfl)
  rw [Nat.zero_add]
  by_cases e : i = j
  · subst e
    have e1 : (ms.set i l')[i] = l' := by simp
    rw [e1]
    refine ⟨⟨?_, ?_, ?_⟩, pts_set hpts hoff⟩
    · rw [hp, hc _ (by omega)]; exact hq.1
    · rw [hm, hc _ (by omega)]; exact hq.2.1
    · exact World.cell?_setCell_same _ _ _ hq.2.2
  · have e1 : (ms.set i l')[j] = ms[j] := by simp [e]
    rw [e1]
    refine ⟨⟨?_, ?_, ?_⟩, pts_set (hg.own _ (List.getElem_mem hj')).pts (hg.off _ (List.getElem_mem hj'))⟩
    · rw [hc _ (by omega)]; exact hq.1
    · rw [hc _ (by omega)]; exact hq.2.1
    · rw [hc _ (by omega)]; exact hq.2.2
theorem pts_drop {w : World} {B g n cap : Nat} {ps : List Pt} (h : OwnP w B (.slice (some ⟨g, 0, none⟩) n cap) ps) : Pts w (some ⟨g, 2, none⟩) (ps.drop 1) := by
  refine .inr ⟨g, 2, rfl, h.lt.2, fun j hj => ?_⟩
  have hj' : j + 1 < ps.length := by simp at hj; omega
  have := h.at2 (j + 1) hj'
  have e : (ps.drop 1)[j] = ps[j + 1] := by simp
  rw [e, show 2 + j * 2 = (j + 1) * 2 by omega]
  exact this
theorem OwnP.most {w : World} {B n cap g : Nat} {ps : List Pt} (h : OwnP w B (.slice (some ⟨g, 0, none⟩) n cap) ps) : n ≤ cap := by
  rcases h.2 with ⟨hv, _⟩ | ⟨g', cap', cur, hv, _, _, h1, _⟩
  · cases hv
  · have hv' := hv
    simp only [Value.slice.injEq] at hv'
    obtain ⟨_, e2, e3⟩ := hv'
    omega
theorem two_later (w : World) (p : Pt) (w6 : World) (h : Below (w.alloc (.cells #[.int .i64 p.tick, .int .i64 p.val] 116)).drew.heap.size (w.alloc (.cells #[.int .i64 p.tick, .int .i64 p.val] 116)).drew w6) :
    ∀ (j : Nat) (u : Value), [Value.int .i64 p.tick, .int .i64 p.val][j]? = some u → w6.cell? ((⟨w.heap.size, 0, none⟩ : Addr).add j) = some u := by
  intro j u hj
  have hsz : (w.alloc (.cells #[.int .i64 p.tick, .int .i64 p.val] 116)).drew.heap.size = w.heap.size + 1 := by show (w.alloc _).heap.size = _; simp
  have hblk : ((⟨w.heap.size, 0, none⟩ : Addr).add j).block = w.heap.size := by unfold Addr.add; split <;> rfl
  rw [h.cell (p := (⟨w.heap.size, 0, none⟩ : Addr).add j) (by rw [hsz, hblk]; omega)]
  exact two_cells w p 116 j u hj
theorem OwnPk {w : World} {B k : Nat} {v : Value} {ps : List Pt} {p : Pt} (hl : ps.length = k) (h : w.ownsRow B 116 2 v (k + 1) (gf encP ps ++ [.int .i64 p.tick, .int .i64 p.val])) : OwnP w B v (ps ++ [p]) := by
  subst hl
  exact OwnP_snoc h
/-- What the model's PutSample answers. -/
def PutSp (xs : List Ser) (s : Smp) (w w' : World) (e : Ending) : Prop :=
  ∃ (g cap : Nat) (zs : List Sv) (c : Int), e = .returned (.tuple #[.slice (some ⟨g, 0, none⟩) zs.length cap, .int .i64 c]) ∧ PutIs xs s (zs.map Sv.s) c ∧ Srs w' (some ⟨g, 0, none⟩) zs ∧ Below w.heap.size w w'
theorem putSp_of {xs : List Ser} {s : Smp} {w w' : World} {e : Ending} (g cap : Nat) (zs : List Sv) (c : Int) (h1 : e = .returned (.tuple #[.slice (some ⟨g, 0, none⟩) zs.length cap, .int .i64 c])) (h2 : PutIs xs s (zs.map Sv.s) c) (h3 : Srs w' (some ⟨g, 0, none⟩) zs) (h4 : Below w.heap.size w w') : PutSp xs s w w' e := ⟨g, cap, zs, c, h1, h2, h3, h4⟩
set_option maxHeartbeats 8000000 in
set_option maxRecDepth 20000 in
theorem spec_put (ls : List Sv) (hwf : ∀ l ∈ ls, l.s.wf) (s : Smp) (hs : s.wf) (a : Option Addr) (cap : Nat) (w : World) (h : Srs w a ls) (hm : ls.length ≤ 1048576) (hpl : ∀ l ∈ ls, l.s.pts.length ≤ 1048576) :
    Calls Try.prog 25 #[.slice a ls.length cap, smpV s] w fun e w' => PutSp (ls.map Sv.s) s w w' e := by
  have mixed : Try.prog.follows .mixedOrders = true := by kernel_rfl
  have hsok := fun W => spec_ok s hs W
  have HW := Lib.hid hwf
  have HPL := Lib.hid hpl
  have hbx := box_below w #[.string s.pod, .string s.met, .int .i64 s.val, .int .i64 s.tick] 48
  have HH := Lib.hid (h.kept hbx)
  have HX := Lib.hid (Ser2.cells_new w #[.string s.pod, .string s.met, .int .i64 s.val, .int .i64 s.tick] 48)
  have HB0 := Lib.hid hbx
  obtain ⟨W0, hW0⟩ : ∃ W0, w.alloc (.cells #[.string s.pod, .string s.met, .int .i64 s.val, .int .i64 s.tick] 48) = W0 := ⟨_, rfl⟩
  have hS0 : W0.heap.size = w.heap.size + 1 := by rw [← hW0]; simp
  rw [hW0] at HH HX HB0
  have HW0 := Lib.hid hW0
  have HS0 := Lib.hid hS0
  clear h hbx hW0 hwf hpl hS0
  unfold smpV at hsok ⊢
  go_enter Try.func25, Try.ntmps25
  go_wp2_with fail
  rw [HW0.out]
  refine (spec_copy ls a cap W0 HH.out hm HPL.out).mono ?_
  rintro e w1 ⟨g, cap', ms, rfl, hms, ho, hgd, hb1⟩
  have HMS := Lib.hid hms
  have HLM := Lib.hid (map_len hms)
  have HO1 := Lib.hid ho
  have HG1 := Lib.hid hgd
  have HB1 := Lib.hid hb1
  clear hms ho hgd hb1 HW0
  cases hst : storeV (ls.map Sv.s)
  · have HP : Hid (PutIs (ls.map Sv.s) s (ms.map Sv.s) 3) := by
      show PutIs _ _ _ _
      rw [HMS.out]
      exact .bad (by rw [hst]; simp)
    have HST := Lib.hid hst
    clear hst
    go_wp2_with fail
    refine (spec_store2 ls ls rfl a cap _ HW.out (HH.out.kept HB1.out) hm).mono ?_
    rw [HST.out]
    rintro e w2 ⟨rfl, hb2⟩
    have HS2 := Lib.hid ((srs_of HO1.out HG1.out).kept hb2)
    have HBF := Lib.hid (HB0.out.trans ((HB1.out.trans (hb2.mono HB1.out.size)).mono HB0.out.size))
    clear hb2
    go_wp2
    go_ret2
    exact putSp_of g cap' ms 3 (by rw [HLM.out]; rfl) HP.out HS2.out HBF.out
  · have HST := Lib.hid hst
    clear hst
    go_wp2_with fail
    refine (spec_store2 ls ls rfl a cap _ HW.out (HH.out.kept HB1.out) hm).mono ?_
    rw [HST.out]
    rintro e w2 ⟨rfl, hb2⟩
    have HO2 := Lib.hid (HO1.out.kept hb2)
    have HG2 := Lib.hid (HG1.out.kept hb2)
    have HB2 := Lib.hid (HB1.out.trans (hb2.mono HB1.out.size))
    have HX2 := Lib.hid (HX.out.kept HB2.out)
    clear hb2 HO1 HG1 HB1 HX
    obtain ⟨x0, x1, x2, x3⟩ := cells4 HX2.out
    cases hok : okV s
    · rw [hok] at hsok
      have HP : Hid (PutIs (ls.map Sv.s) s (ms.map Sv.s) 3) := by
        show PutIs _ _ _ _
        rw [HMS.out]
        exact .bad (by rw [hok]; simp)
      clear hok
      go_wp2_with fail
      refine (hsok _).mono ?_
      rintro e w3 ⟨rfl, hb3⟩
      have HS3 := Lib.hid ((srs_of HO2.out HG2.out).kept hb3)
      have HBF := Lib.hid (HB0.out.trans ((HB2.out.trans (hb3.mono HB2.out.size)).mono HB0.out.size))
      clear hb3 x0 x1 x2 x3
      go_wp2
      go_ret2
      exact putSp_of g cap' ms 3 (by rw [HLM.out]; rfl) HP.out HS3.out HBF.out
    · rw [hok] at hsok
      have HOK := Lib.hid hok
      clear hok
      go_wp2_with fail
      refine (hsok _).mono ?_
      rintro e w3 ⟨rfl, hb3⟩
      have hbp := box_below w3 #[.int .i64 s.tick, .int .i64 s.val] 116
      have HO3 := Lib.hid ((HO2.out.kept hb3).kept hbp)
      have HG3 := Lib.hid ((HG2.out.kept hb3).kept hbp)
      have HX3 := Lib.hid ((HX2.out.kept hb3).kept hbp)
      have hB23 := HB2.out.trans (hb3.mono HB2.out.size)
      have HB3 := Lib.hid (hB23.trans (hbp.mono hB23.size))
      have HXP := Lib.hid (Ser2.cells_new w3 #[.int .i64 s.tick, .int .i64 s.val] 116)
      have hX3' := HX2.out.kept hb3
      obtain ⟨y0, y1, y2, y3⟩ := cells4 hX3'
      obtain ⟨z0, z1, z2, z3⟩ := cells4 HX3.out
      obtain ⟨gp, hgp⟩ : ∃ gp, w3.heap.size = gp := ⟨_, rfl⟩
      have HGP := Lib.hid hgp
      rw [hgp] at HXP
      have hgw : w.heap.size < gp := by have h1 := hX3'.1; omega
      clear hb3 hbp hB23 HO2 HG2 HX2 HB2 hX3' x0 x1 x2 x3 hgp
      go_wp2_with fail
      rw [HGP.out]
      refine (spec_at ls a cap s.pod s.met _ (HH.out.kept HB3.out) hm).mono ?_
      rintro e w5 ⟨hat, hb5⟩
      have HO5 := Lib.hid (HO3.out.kept hb5)
      have HG5 := Lib.hid (HG3.out.kept hb5)
      have HX5 := Lib.hid (HX3.out.kept hb5)
      have HXP5 := Lib.hid (HXP.out.kept hb5)
      have HB5 := Lib.hid (HB3.out.trans (hb5.mono HB3.out.size))
      clear hb5 HO3 HG3 HX3 HB3 HXP y0 y1 y2 y3 z0 z1 z2 z3
      obtain ⟨x0, x1, x2, x3⟩ := cells4 HX5.out
      have hstore := (storeV_iff _).1 HST.out
      have HSTO := Lib.hid hstore
      have h24 : ls.length ≤ 24 := by have := hstore.most; simpa using this
      clear hstore
      rcases hat with ⟨i, hi, hf, rfl⟩ | ⟨hf, rfl⟩
      · have hmt : matches_ s.pod s.met ls[i].s = true := by have := List.find?_some hf; simpa using this
        obtain ⟨hpl, hkz⟩ := place_match HSTO.out (i := i) (by simpa using hi) (by simpa using hmt)
        obtain ⟨b, off, ha, hb, hcell⟩ := HH.out.cells
        obtain rfl := ha (by omega)
        have hc5 := (hcell i hi).1.kept HB5.out (hb (by omega))
        have hp5 := (hcell i hi).2.kept HB5.out
        obtain ⟨l, hl⟩ : ∃ l, ls[i] = l := ⟨_, rfl⟩
        have hmem : l ∈ ls := by rw [← hl]; exact List.getElem_mem hi
        have hso := HSTO.out.ok l.s (List.mem_map.2 ⟨l, hmem, rfl⟩)
        have h1p := hso.pts.one
        have h12p := hso.pts.most
        rw [hl] at hc5 hp5
        obtain ⟨n, hn⟩ : ∃ n, n + 1 = l.s.pts.length := ⟨l.s.pts.length - 1, by omega⟩
        obtain ⟨L, hL⟩ : ∃ L, l.s.pts[n]'(by omega) = L := ⟨_, rfl⟩
        have hlast : lastP l.s.pts = L := by
          unfold lastP
          rw [List.getLast?_eq_getElem?, show l.s.pts.length - 1 = n by omega, List.getElem?_eq_getElem (by omega), hL]
          rfl
        obtain ⟨b2, off2, ha2, hb2, hcl2⟩ := hp5.cells
        have hat := hcl2 n (by omega)
        rw [hL] at hat
        obtain ⟨q0, q1, q2⟩ := hc5
        rw [ha2 (by omega)] at q2
        obtain ⟨t0, t1⟩ := hat
        have HP5 := Lib.hid hp5
        have HA2 := Lib.hid (ha2 (by omega))
        have HML := Lib.hid hmem
        have HL := Lib.hid hl
        obtain ⟨N, hN⟩ : ∃ N, l.s.pts.length = N := ⟨_, rfl⟩
        have hNi : (N : Int) - 1 = (n : Int) := by omega
        have hwn : IntKind.i64.wrap (n : Int) = (n : Int) := by rw [IntKind.wrap_i64]; omega
        have hnN : (n : Int) < (N : Int) := by omega
        rw [hN] at q2
        have HN := Lib.hid hN
        have HHN := Lib.hid hn
        have hiI : (i : Int) < (ls.length : Int) := by omega
        have hNb : N ≤ 12 := by omega
        have hge : (0 : Int) ≤ (i : Int) := by omega
        by_cases ht : s.tick ≤ L.tick
        · have HP : Hid (PutIs (ls.map Sv.s) s (ms.map Sv.s) 1) := by
            show PutIs _ _ _ _
            rw [HMS.out]
            exact .old HST.out HOK.out i hpl (by simpa using hi) hkz (by simp only [List.getElem_map, HL.out, hlast]; exact ht)
          have hdt : decide (s.tick ≤ L.tick) = true := decide_eq_true ht
          clear hmt hpl hkz ha hb hcell hp5 hl hmem hso hL hlast ha2 hb2 hcl2 hn hN hf
          go_wp2_with fail
          go_quiet (fail)
          have HSE := Lib.hid (srs_of HO5.out HG5.out)
          have HBF := Lib.hid (HB0.out.trans (HB5.out.mono HB0.out.size))
          clear q0 q1 q2 t0 t1 x0 x1 x2 x3
          go_wp2
          go_ret2
          exact putSp_of g cap' ms 1 (by rw [HLM.out]; rfl) HP.out (HSE.out.kept (Sto.below_drewN _ _ _)) (HBF.out.trans (Sto.below_drewN _ _ _))
        · have hdt : decide (s.tick ≤ L.tick) = false := decide_eq_false ht
          have HP : Hid (PutIs (ls.map Sv.s) s ((ls.map Sv.s).set i ⟨l.s.pod, l.s.met, withV l.s.pts (ptOf s)⟩) 0) := by
            have := PutIs.add (xs := ls.map Sv.s) HST.out HOK.out i hpl (by simpa using hi) hkz (by simp only [List.getElem_map, HL.out, hlast]; exact ht)
            simp only [List.getElem_map, HL.out] at this
            exact this
          have him : i < ms.length := by rw [HLM.out]; exact hi
          have hmi : ms[i].s = l.s := by
            have e1 : (ms.map Sv.s)[i]'(by simpa using him) = ms[i].s := by rw [List.getElem_map]
            have e2 : (ls.map Sv.s)[i]'(by simpa using hi) = l.s := by rw [List.getElem_map, HL.out]
            rw [← e1, ← e2]
            simp only [HMS.out]
          have HMI := Lib.hid hmi
          have HIM := Lib.hid him
          have p0 := (HXP5.out.2 0 (by simp)).1
          have p1 := (HXP5.out.2 1 (by simp)).1
          simp only [List.getElem_cons_zero, List.getElem_cons_succ] at p0 p1
          have hgg := HO5.out.lt.2
          clear hmt hpl hkz ha hb hcell hp5 hl hmem hso hL hlast ha2 hb2 hcl2 hn hN hf hmi
          go_wp2_with fail
          go_quiet (fail)
          generalize hwq : World.drewN w5 _ = wq
          have hbq : Below w5.heap.size w5 wq := by rw [← hwq]; exact Sto.below_drewN _ _ _
          have HBQ := Lib.hid hbq
          have hPQ := HP5.out.kept hbq
          rw [HA2.out] at hPQ
          have HPQ := Lib.hid hPQ
          have HXQ := Lib.hid (HXP5.out.kept hbq)
          clear hwq hbq hPQ q0 q1 q2 t0 t1 x0 x1 x2 x3 p0 p1
          obtain ⟨i0, hi0, hz0, hz1, hz2⟩ := info_pt2
          have hsp := fun W hW => spec_points2 l.s.pts (some ⟨b2, off2, none⟩) l.cap W hW (by rw [HN.out]; omega)
          rw [HN.out] at hsp
          have HSP := Lib.hid hsp
          clear hsp
          have HT : Hid (∀ W, Hid (Below wq.heap.size wq W) → (W.cell? ⟨gp, 0, none⟩ = some (.int .i64 s.tick) ∧ W.cell? ⟨gp, 1, none⟩ = some (.int .i64 s.val))) := fun W hW => by
            have := HXQ.out.kept hW.out
            exact ⟨(this.2 0 (by simp)).1, (this.2 1 (by simp)).1⟩
          have HBD : Hid (Below wq.heap.size wq wq.drew) := (Below.refl _ _).drew
          have HPD : Hid (Pts wq.drew (some ⟨b2, off2, none⟩) l.s.pts) := HPQ.out.kept HBD.out
          have HBE : Hid (Below wq.heap.size wq (wq.alloc (.cells #[.int .i64 s.tick, .int .i64 s.val] 116)).drew) := ((Below.refl wq.heap.size wq).alloc (Nat.le_refl _) _).drew
          have HPE : Hid (Pts (wq.alloc (.cells #[.int .i64 s.tick, .int .i64 s.val] 116)).drew (some ⟨b2, off2, none⟩) l.s.pts) := HPQ.out.kept HBE.out
          obtain ⟨p0, p1⟩ := HT.out wq (Lib.hid (Below.refl _ _))
          have hN13 : N + 1 ≤ 13 := by omega
          go_wp2_with fail
          clear p0 p1
          go_region_held_law (fun w' => w'.cell? ⟨gp, 0, none⟩ = some (.int .i64 s.tick) ∧ w'.cell? ⟨gp, 1, none⟩ = some (.int .i64 s.val))
            (first | exact HT.out _ HB8 | exact HT.out _ HBA | exact HT.out _ HB6 | exact HT.out _ HBD | exact HT.out _ HBE)
            (first
              | (refine step_append_lies _ (by rfl) _ _ 118 (by rfl) wq.heap.size 116 i0 (ptV zeroP) 2 16 Try.underlying118 hi0 hz0 hz1 hz2 (by rfl) (by decide) (.slice a6 N c6) N (gf encP l.s.pts) (by rfl) HOA.out ⟨w6.heap.size, 0, none⟩ 1 1 [.int .i64 s.tick, .int .i64 s.val] (by rfl) rfl (two_cells w6 (ptOf s) _) (two_one (ptOf s)) (by omega) (by unfold maxLen; omega) (by omega) HSA.out _ rfl ?_
                 intro g8 c8 w8 hown hgrow hat hlt8
                 have HB8 := Lib.hid (HBA.out.grown hgrow HSA.out HRW.out)
                 have HO8 : Hid (OwnP w8 wq.heap.size (.slice (some ⟨g8, 0, none⟩) (N + 1) c8) (l.s.pts ++ [ptOf s])) := OwnPk HN.out hown
                 clear hown hgrow hat hlt8)
              | (refine step_append_lies _ (by rfl) _ _ 118 (by rfl) wq.heap.size 116 i0 (ptV zeroP) 2 16 Try.underlying118 hi0 hz0 hz1 hz2 (by rfl) (by decide) (.slice a6 N c6) N (gf encP l.s.pts) (by rfl) HOB.out ⟨wq.heap.size, 0, none⟩ 1 1 [.int .i64 s.tick, .int .i64 s.val] (by rfl) rfl HCB.out (two_one (ptOf s)) (by omega) (by unfold maxLen; omega) (by omega) HSB.out _ rfl ?_
                 intro g8 c8 w8 hown hgrow hat hlt8
                 have HB8 := Lib.hid (HB6.out.grown hgrow HSB.out HRW.out)
                 have HO8 : Hid (OwnP w8 wq.heap.size (.slice (some ⟨g8, 0, none⟩) (N + 1) c8) (l.s.pts ++ [ptOf s])) := OwnPk HN.out hown
                 clear hown hgrow hat hlt8)
              | (go_at_call 72
                 refine (HSP.out _ HPE.out).mono ?_
                 rintro e w6 ⟨a6, c6, rfl, ho, hb6⟩
                 have HCB := Lib.hid (two_later wq (ptOf s) w6 hb6)
                 have HB6 : Hid (Below wq.heap.size wq w6) := Lib.hid (HBE.out.trans (hb6.mono HBE.out.size))
                 have ho7 := OwnP.mono ho HBE.out.size
                 have HO6 : Hid (w6.ownsRow wq.heap.size 116 2 (.slice a6 N c6) N (gf encP l.s.pts)) := by
                   have h6 : OwnP w6 wq.heap.size (.slice a6 N c6) l.s.pts := ho7
                   unfold OwnP at h6
                   rw [HN.out] at h6
                   exact h6
                 have HOB := HO6
                 have HSB := Lib.hid HB6.out.size
                 have HRW := Lib.hid (fun j hj => (World.ownsRow.lt HO6.out j hj).1)
                 clear ho hb6 ho7)
              | (go_at_call 72
                 refine (HSP.out _ HPD.out).mono ?_
                 rintro e w6 ⟨a6, c6, rfl, ho, hb6⟩
                 have HB6 : Hid (Below wq.heap.size wq w6) := Lib.hid (HBD.out.trans hb6)
                 have HBA := Lib.hid (HB6.out.alloc HB6.out.size (.cells #[.int .i64 s.tick, .int .i64 s.val] 116))
                 have HO6 : Hid (w6.ownsRow wq.heap.size 116 2 (.slice a6 N c6) N (gf encP l.s.pts)) := by
                   have h6 : OwnP w6 wq.heap.size (.slice a6 N c6) l.s.pts := ho
                   unfold OwnP at h6
                   rw [HN.out] at h6
                   exact h6
                 have HOA := Lib.hid (World.ownsRow.alloc HO6.out (.cells #[.int .i64 s.tick, .int .i64 s.val] 116))
                 have HSA := Lib.hid HBA.out.size
                 have HRW := Lib.hid (fun j hj => (World.ownsRow.lt HO6.out j hj).1)
                 clear ho hb6))
          all_goals
            have hB58 : Below w5.heap.size w5 w8 := HBQ.out.trans (HB8.out.mono HBQ.out.size)
            have HO9 := Lib.hid (HO5.out.kept hB58)
            have HG9 := Lib.hid (HG5.out.kept hB58)
            have HBF := Lib.hid (HB0.out.trans ((HB5.out.trans (hB58.mono HB5.out.size)).mono HB0.out.size))
            have hg8 : g < g8 := by have := HO8.out.lt.1; have := HBQ.out.size; omega
            have hq9 := HO9.out.at3 i HIM.out
            obtain ⟨m0, m1, m2⟩ := hq9
            have f2 := HO9.out.frozen (i * 3 + 2)
            have hmost := OwnP.most HO8.out
            have hmI : ((N : Int) + 1) ≤ (c8 : Int) := by omega
            have hwB9 : w.heap.size ≤ g := by have h1 := HO5.out.lt.1; have h2 := HB0.out.size; omega
            clear hB58
            by_cases h12 : N = 12
            · have HWV : Hid (withV l.s.pts (ptOf s) = (l.s.pts ++ [ptOf s]).drop 1) := by
                show _ = _
                unfold withV
                rw [if_neg (by rw [HN.out]; omega)]
                rw [List.drop_append_of_le_length (by rw [HN.out]; omega)]
              subst h12
              have HSR := Lib.hid (srs_set HO9.out HG9.out i HIM.out ⟨⟨l.s.pod, l.s.met, withV l.s.pts (ptOf s)⟩, some ⟨g8, 2, none⟩, c8 - 1⟩ (by rw [HMI.out]) (by rw [HMI.out]) (by rw [HWV.out]; exact pts_drop HO8.out) (fun b o s' e => by cases e; omega))
              have HLW : Hid ((withV l.s.pts (ptOf s)).length = 12) := by show _ = _; rw [HWV.out]; simp [HN.out]
              simp only [HLW.out] at HSR
              have hc13 : 13 ≤ c8 := by omega
              have hc13' : (13 : Int) ≤ (c8 : Int) := by omega
              have hc1 : (1 : Int) ≤ (c8 : Int) := by omega
              go_wp2
              go_ret2
              exact putSp_of g cap' (ms.set i ⟨⟨l.s.pod, l.s.met, withV l.s.pts (ptOf s)⟩, some ⟨g8, 2, none⟩, c8 - 1⟩) 0 (by rw [List.length_set, HLM.out]; rfl) (by rw [List.map_set, HMS.out]; exact HP.out) HSR.out (HBF.out.setCell (p := ⟨g, i * 3 + 2, none⟩) hwB9 _)
            · have HWV : Hid (withV l.s.pts (ptOf s) = l.s.pts ++ [ptOf s]) := by
                show _ = _
                unfold withV
                rw [if_pos (by rw [HN.out]; omega)]
              have HSR := Lib.hid (srs_set HO9.out HG9.out i HIM.out ⟨⟨l.s.pod, l.s.met, withV l.s.pts (ptOf s)⟩, some ⟨g8, 0, none⟩, c8⟩ (by rw [HMI.out]) (by rw [HMI.out]) (by rw [HWV.out]; exact HO8.out.pts) (fun b o s' e => by cases e; omega))
              have HLW : Hid ((withV l.s.pts (ptOf s)).length = N + 1) := by show _ = _; rw [HWV.out]; simp [HN.out]
              simp only [HLW.out] at HSR
              have hn12 : ¬ (12 : Int) < (N : Int) + 1 := by omega
              go_wp2
              go_ret2
              exact putSp_of g cap' (ms.set i ⟨⟨l.s.pod, l.s.met, withV l.s.pts (ptOf s)⟩, some ⟨g8, 0, none⟩, c8⟩) 0 (by rw [List.length_set, HLM.out]; rfl) (by rw [List.map_set, HMS.out]; exact HP.out) HSR.out (HBF.out.setCell (p := ⟨g, i * 3 + 2, none⟩) hwB9 _)
      · have HF := Lib.hid hf
        clear hf
        have hlen : (ls.map Sv.s).length = ls.length := by simp
        by_cases hl24 : ls.length = 24
        · obtain ⟨i, hpl⟩ := place_ex HSTO.out HF.out
          have HP : Hid (PutIs (ls.map Sv.s) s (ms.map Sv.s) 2) := by
            show PutIs _ _ _ _
            rw [HMS.out]
            exact .full HST.out HOK.out i hpl (none_kc HF.out i) (by rw [hlen]; exact hl24)
          have HS5 := Lib.hid (srs_of HO5.out HG5.out)
          have HBF := Lib.hid (HB0.out.trans (HB5.out.mono HB0.out.size))
          have hq : ((ls.length : Int) == 24) = true := by rw [beq_iff_eq]; omega
          clear hl24 hlen hpl x0 x1 x2 x3
          go_wp2
          go_ret2
          exact putSp_of g cap' ms 2 (by rw [HLM.out]; rfl) HP.out HS5.out HBF.out
        · have hq : ((ls.length : Int) == 24) = false := by rw [beq_eq_false_iff_ne]; omega
          have HNE : Hid ((ls.map Sv.s).length ≠ 24) := by show _ ≠ _; rw [hlen]; exact hl24
          obtain ⟨i0, hi0, hz0, hz1, hz2⟩ := info_sr2
          have hxq := (HXP5.out.2 0 (by simp)).1
          have hxq1 := (HXP5.out.2 1 (by simp)).1
          simp only [List.getElem_cons_zero, List.getElem_cons_succ] at hxq hxq1
          have hbA := box_below w5 #[.int .i64 s.tick, .int .i64 s.val] 116
          have hAt := Ser2.cells_new w5 #[.int .i64 s.tick, .int .i64 s.val] 116
          have hbB := box_below (w5.alloc (.cells #[.int .i64 s.tick, .int .i64 s.val] 116)) #[.string s.pod, .string s.met, .slice (some ⟨w5.heap.size, 0, none⟩) 1 1] 120
          have hBt := Ser2.cells_new (w5.alloc (.cells #[.int .i64 s.tick, .int .i64 s.val] 116)) #[.string s.pod, .string s.met, .slice (some ⟨w5.heap.size, 0, none⟩) 1 1] 120
          have hsA : (w5.alloc (.cells #[.int .i64 s.tick, .int .i64 s.val] 116)).heap.size = w5.heap.size + 1 := by simp
          have hb56 := hbA.trans (hbB.mono hbA.size)
          have hAt6 := hAt.kept hbB
          rw [hsA] at hBt
          obtain ⟨W6, hW6⟩ : ∃ W6, (w5.alloc (.cells #[.int .i64 s.tick, .int .i64 s.val] 116)).alloc (.cells #[.string s.pod, .string s.met, .slice (some ⟨w5.heap.size, 0, none⟩) 1 1] 120) = W6 := ⟨_, rfl⟩
          have hs6 : W6.heap.size = w5.heap.size + 2 := by rw [← hW6]; simp
          rw [hW6] at hBt hb56 hAt6
          have hP1 : Pts W6 (some ⟨w5.heap.size, 0, none⟩) [ptOf s] := by
            refine .inr ⟨w5.heap.size, 0, rfl, hAt6.1, fun i hi => ?_⟩
            have hi0 : i = 0 := by simpa using hi
            subst hi0
            exact ⟨(hAt6.2 0 (by simp)).1, (hAt6.2 1 (by simp)).1⟩
          have hG6 := HG5.out.kept hb56
          have HO6 := Lib.hid (HO5.out.kept hb56)
          have HX6 := Lib.hid (HX5.out.kept hb56)
          have HBT := Lib.hid hBt
          have HPM : Hid (∀ l, l ∈ ms ∨ l = (⟨serOf s, some ⟨w5.heap.size, 0, none⟩, 1⟩ : Sv) → Pts W6 l.a l.s.pts) := fun l hl => by
            rcases hl with hl | rfl
            · exact (hG6.own l hl).pts
            · exact hP1
          have HB6 := Lib.hid (HB0.out.trans ((HB5.out.trans (hb56.mono HB5.out.size)).mono HB0.out.size))
          have hnew := new_rowR W6
          have hb67 := (Below.refl W6.heap.size W6).alloc (Nat.le_refl _) (.cells #[] 120)
          rw [hs6] at hnew hb67
          obtain ⟨W7, hW7⟩ : ∃ W7, W6.alloc (.cells #[] 120) = W7 := ⟨_, rfl⟩
          rw [hW7] at hnew hb67
          obtain ⟨B, hB⟩ : ∃ B, w5.heap.size + 2 = B := ⟨_, rfl⟩
          rw [hB] at hnew hb67 hs6
          have HN7 := Lib.hid hnew
          have HB7 := Lib.hid hb67
          have HS6 := Lib.hid hs6
          have HW6 := Lib.hid hW6
          have HW7 := Lib.hid hW7
          have hgB : g < B := by have := HO5.out.lt.2; omega
          have hwB : w.heap.size < B := by have := HX5.out.1; omega
          have hlm : ms.length = ls.length := HLM.out
          have HLM2 := Lib.hid hlm
          clear hbA hAt hbB hBt hsA hb56 hAt6 hP1 hG6 hnew hb67 hs6 hW6 hW7 hl24 hlen HXP5 hlm
          go_upto_region 18 with fail
          rw [HW6.out]
          go_upto_region 20 with fail
          rw [HW7.out]
          clear x0 x1 x2 x3 hxq hxq1
          go_wp2
          go_loopw [12, 13, 14] (fun v b i wr => ∃ (k : Nat) (bo : Bool) (rs : List Sv), k ≤ ls.length ∧ i = .int .i64 k ∧ b = .bool bo ∧ Hid (OwnR wr B v rs) ∧ Hid (Below B W6 wr) ∧ Hid (Mid (ls.map Sv.s) s.pod s.met ms (⟨serOf s, some ⟨w5.heap.size, 0, none⟩, 1⟩ : Sv) k bo rs)) (fun _ _ i _ => ls.length - (intOf i).toNat)
          case atStart => exact ⟨0, false, [], Nat.zero_le _, rfl, rfl, by rw [HS6.out]; exact HN7.out, HB7.out, mid_start _ _ _ _ _⟩
          case round =>
            obtain ⟨k, bo, rs, hk, rfl, rfl, HO, HB, HM⟩ := hrel
            have hrl := mid_len HM.out
            by_cases hlt : k < ls.length
            · have hkm : k < ms.length := by rw [HLM2.out]; exact hlt
              have hkx : k < (ls.map Sv.s).length := by simpa using hlt
              obtain ⟨l, hl⟩ : ∃ l, ms[k] = l := ⟨_, rfl⟩
              have hxl : (ls.map Sv.s)[k] = l.s := by
                have : (ms.map Sv.s)[k]'(by simpa using hkm) = l.s := by rw [List.getElem_map, hl]
                rw [← this]
                simp only [HMS.out]
              have hbW : Below W6.heap.size W6 wr := by rw [HS6.out]; exact HB.out
              have hq := (HO6.out.kept hbW).at3 k hkm
              rw [hl] at hq
              obtain ⟨q0, q1, q2⟩ := hq
              obtain ⟨x0, x1, x2, x3⟩ := cells4 (HX6.out.kept hbW)
              have hgr : g < wr.heap.size := by have := HB.out.size; have := HS6.out; omega
              have hwr : w.heap.size < wr.heap.size := by have := HB.out.size; have := HS6.out; omega
              have k0 := later_cell hgr q0
              have k1 := later_cell hgr q1
              have j0 := later_cell hwr x0
              have j1 := later_cell hwr x1
              have hkI : (k : Int) < (ls.length : Int) := by omega
              have hk0 : (0 : Int) ≤ (k : Int) := by omega
              have HKM := Lib.hid hkm
              have HKX := Lib.hid hkx
              have HXL := Lib.hid hxl
              have HL := Lib.hid hl
              have hwk : IntKind.i64.wrap (k : Int) = (k : Int) := by rw [IntKind.wrap_i64]; omega
              have HQ : Hid (∀ W, Below B W6 W → (W.cell? ⟨g, k * 3, none⟩ = some (.string l.s.pod) ∧ W.cell? ⟨g, k * 3 + 1, none⟩ = some (.string l.s.met) ∧ W.cell? ⟨g, k * 3 + 2, none⟩ = some (.slice l.a l.s.pts.length l.cap))) := fun W hW => by
                have h2 : Below W6.heap.size W6 W := by rw [HS6.out]; exact hW
                have := (HO6.out.kept h2).at3 k HKM.out
                rw [HL.out] at this
                exact this
              have HQ1 : Hid (∀ W, Below B W6 W → (W.cell? ⟨w5.heap.size + 1, 0, none⟩ = some (.string s.pod) ∧ W.cell? ⟨w5.heap.size + 1, 1, none⟩ = some (.string s.met) ∧ W.cell? ⟨w5.heap.size + 1, 2, none⟩ = some (.slice (some ⟨w5.heap.size, 0, none⟩) 1 1))) := fun W hW => by
                have h2 : Below W6.heap.size W6 W := by rw [HS6.out]; exact hW
                have := HBT.out.kept h2
                exact ⟨(this.2 0 (by simp)).1, (this.2 1 (by simp)).1, (this.2 2 (by simp)).1⟩
              have hwp : l.s.pod.size ≤ 9223372036854775807 ∧ l.s.met.size ≤ 9223372036854775807 := by
                have h1 := HW.out ls[k] (List.getElem_mem hlt)
                have h2 : ls[k].s = l.s := by rw [← hxl, List.getElem_map]
                rw [h2] at h1
                have h3 := h1.pod
                have h4 := h1.met
                unfold maxLen at h3 h4
                exact ⟨by omega, by omega⟩
              have hsp : s.pod.size ≤ 9223372036854775807 ∧ s.met.size ≤ 9223372036854775807 := by
                have h3 := hs.pod
                have h4 := hs.met
                unfold maxLen at h3 h4
                exact ⟨by omega, by omega⟩
              have hrl2 : rs.length ≤ 26 := by omega
              clear hxl hl hbW q2 x2 x3 hgr hwr hrl
              cases bo
              · cases hd : decide (keyLt s.pod s.met l.s.pod l.s.met)
                · have HBL := Lib.hid (before_later (W := wr) s.pod s.met l.s.pod l.s.met hsp.1 hsp.2 hwp.1 hwp.2 hd)
                  have HM2 := Lib.hid (mid_no HM.out HKM.out HKX.out (by rw [HXL.out]; exact of_decide_eq_false hd))
                  rw [HL.out] at HM2
                  clear hd hsp hwp HM
                  go_wp2_with fail
                  refine region_later mixed (by kernel_rfl) ?_
                  repeat (go_big_quiet_step (first | (go_at_call 73; exact later_call (HBL.out _))))
                  refine wpQuiet_nil ?_
                  intro w1 hw'
                  obtain ⟨⟨_, hw1⟩, rfl⟩ := hw'
                  clear k0 k1 j0 j1 q0 q1 x0 x1
                  have HOW := Lib.hid (HO.out.kept hw1)
                  have hlb : rs.length ≤ 27 := by first | omega | (simp; omega)
                  have HBW := Lib.hid (HB.out.trans (hw1.mono (bsz HS6.out HB.out)))
                  have hal := box_below w1 #[.string l.s.pod, .string l.s.met, .slice l.a l.s.pts.length l.cap] 120
                  have HOA := Lib.hid (HOW.out.kept hal)
                  have HBA := Lib.hid (HBW.out.alloc (bsz HS6.out HBW.out) (.cells #[.string l.s.pod, .string l.s.met, .slice l.a l.s.pts.length l.cap] 120))
                  have HSA := Lib.hid (bsz HS6.out HBA.out)
                  have HCN := Lib.hid (three_cells w1 l 120)
                  obtain ⟨c0, c1, c2⟩ := HQ.out w1 HBW.out
                  clear hal
                  go_wp2_with (at_builtin; refine wpList_append_own _ rfl _ _ 44 rfl B 120 i0 (svV zeroV) 3 56 Try.underlying44 hi0 hz0 hz1 hz2 rfl (by decide) _ rs.length (gf encV rs) rfl HOA.out ⟨w1.heap.size, 0, none⟩ 1 1 [.string l.s.pod, .string l.s.met, .slice l.a l.s.pts.length l.cap] rfl rfl HCN.out (three_one l) (by unfold maxLen; omega) (by omega) HSA.out ?_; intro v8 w8 hown' hgrow hat8)
                  have HO8 : Hid (OwnR w8 B v8 (rs ++ [l])) := OwnR_snoc hown'
                  have HB8 := Lib.hid (HBA.out.grown hgrow HSA.out (fun g hg => (World.ownsRow.lt HOW.out g hg).1))
                  clear hown' hgrow HOA HBA HSA HCN c0 c1 c2 HOW HBW
                  go_wp2
                  go_roundw
                  case rel => exact ⟨k + 1, false, _, by omega, by go_num, rfl, HO8.out, HB8.out, HM2.out⟩
                  case measure => simp [intOf]; omega
                · have HBL := Lib.hid (before_later (W := wr) s.pod s.met l.s.pod l.s.met hsp.1 hsp.2 hwp.1 hwp.2 hd)
                  have HM2 := Lib.hid (mid_put HSTO.out HF.out HM.out HKM.out HKX.out (by rw [HXL.out]; exact of_decide_eq_true hd))
                  rw [HL.out] at HM2
                  clear hd hsp hwp HM
                  go_wp2_with fail
                  refine region_later mixed (by kernel_rfl) ?_
                  repeat (go_big_quiet_step (first | (go_at_call 73; exact later_call (HBL.out _))))
                  refine wpQuiet_nil ?_
                  intro w1 hw'
                  obtain ⟨⟨_, hw1⟩, rfl⟩ := hw'
                  clear k0 k1 j0 j1 q0 q1 x0 x1
                  have HOW := Lib.hid (HO.out.kept hw1)
                  have hlb : rs.length ≤ 27 := by first | omega | (simp; omega)
                  have HBW := Lib.hid (HB.out.trans (hw1.mono (bsz HS6.out HB.out)))
                  have hal := box_below w1 #[.string s.pod, .string s.met, .slice (some ⟨w5.heap.size, 0, none⟩) 1 1] 120
                  have HOA := Lib.hid (HOW.out.kept hal)
                  have HBA := Lib.hid (HBW.out.alloc (bsz HS6.out HBW.out) (.cells #[.string s.pod, .string s.met, .slice (some ⟨w5.heap.size, 0, none⟩) 1 1] 120))
                  have HSA := Lib.hid (bsz HS6.out HBA.out)
                  have HCN := Lib.hid (three_cells w1 (⟨serOf s, some ⟨w5.heap.size, 0, none⟩, 1⟩ : Sv) 120)
                  obtain ⟨c0, c1, c2⟩ := HQ1.out w1 HBW.out
                  clear hal
                  go_wp2_with (at_builtin; refine wpList_append_own _ rfl _ _ 44 rfl B 120 i0 (svV zeroV) 3 56 Try.underlying44 hi0 hz0 hz1 hz2 rfl (by decide) _ rs.length (gf encV rs) rfl HOA.out ⟨w1.heap.size, 0, none⟩ 1 1 [.string s.pod, .string s.met, .slice (some ⟨w5.heap.size, 0, none⟩) 1 1] rfl rfl HCN.out (three_one (⟨serOf s, some ⟨w5.heap.size, 0, none⟩, 1⟩ : Sv)) (by unfold maxLen; omega) (by omega) HSA.out ?_)
                  intro v8 w8 hown' hgrow hat8
                  have HO7 : Hid (OwnR w8 B v8 (rs ++ [(⟨serOf s, some ⟨w5.heap.size, 0, none⟩, 1⟩ : Sv)])) := OwnR_snoc hown'
                  have HB8' := Lib.hid (HBA.out.grown hgrow HSA.out (fun g hg => (World.ownsRow.lt HOW.out g hg).1))
                  clear hown' hgrow HOA HBA HSA HCN c0 c1 c2 HOW HBW
                  have HOW := Lib.hid (HO7.out)
                  have hlb2 : (rs ++ [(⟨serOf s, some ⟨w5.heap.size, 0, none⟩, 1⟩ : Sv)]).length ≤ 27 := by first | omega | (simp; omega)
                  have HBW := Lib.hid (HB8'.out)
                  have hal := box_below w8 #[.string l.s.pod, .string l.s.met, .slice l.a l.s.pts.length l.cap] 120
                  have HOA := Lib.hid (HOW.out.kept hal)
                  have HBA := Lib.hid (HBW.out.alloc (bsz HS6.out HBW.out) (.cells #[.string l.s.pod, .string l.s.met, .slice l.a l.s.pts.length l.cap] 120))
                  have HSA := Lib.hid (bsz HS6.out HBA.out)
                  have HCN := Lib.hid (three_cells w8 l 120)
                  obtain ⟨c0, c1, c2⟩ := HQ.out w8 HBW.out
                  clear hal
                  go_wp2_with (at_builtin; refine wpList_append_own _ rfl _ _ 44 rfl B 120 i0 (svV zeroV) 3 56 Try.underlying44 hi0 hz0 hz1 hz2 rfl (by decide) _ (rs ++ [(⟨serOf s, some ⟨w5.heap.size, 0, none⟩, 1⟩ : Sv)]).length (gf encV (rs ++ [(⟨serOf s, some ⟨w5.heap.size, 0, none⟩, 1⟩ : Sv)])) rfl HOA.out ⟨w8.heap.size, 0, none⟩ 1 1 [.string l.s.pod, .string l.s.met, .slice l.a l.s.pts.length l.cap] rfl rfl HCN.out (three_one l) (by unfold maxLen; omega) (by omega) HSA.out ?_; intro v9 w9 hown' hgrow hat8)
                  have HO9 : Hid (OwnR w9 B v9 ((rs ++ [(⟨serOf s, some ⟨w5.heap.size, 0, none⟩, 1⟩ : Sv)]) ++ [l])) := OwnR_snoc hown'
                  have HB9 := Lib.hid (HBA.out.grown hgrow HSA.out (fun g hg => (World.ownsRow.lt HOW.out g hg).1))
                  clear hown' hgrow HOA HBA HSA HCN c0 c1 c2 HOW HBW
                  go_wp2
                  go_roundw
                  case rel => exact ⟨k + 1, true, _, by omega, by go_num, rfl, HO9.out, HB9.out, HM2.out⟩
                  case measure => simp [intOf]; omega
              · have HM2 := Lib.hid (mid_on HM.out HKM.out)
                rw [HL.out] at HM2
                clear hsp hwp HM
                go_wp2_with fail
                refine region_later mixed (by kernel_rfl) ?_
                repeat (go_big_quiet_step (fail))
                refine wpQuiet_nil ?_
                intro w1 hw'
                obtain ⟨⟨_, hw1⟩, rfl⟩ := hw'
                clear k0 k1 j0 j1 q0 q1 x0 x1
                have HOW := Lib.hid (HO.out.kept hw1)
                have hlb : rs.length ≤ 27 := by first | omega | (simp; omega)
                have HBW := Lib.hid (HB.out.trans (hw1.mono (bsz HS6.out HB.out)))
                have hal := box_below w1 #[.string l.s.pod, .string l.s.met, .slice l.a l.s.pts.length l.cap] 120
                have HOA := Lib.hid (HOW.out.kept hal)
                have HBA := Lib.hid (HBW.out.alloc (bsz HS6.out HBW.out) (.cells #[.string l.s.pod, .string l.s.met, .slice l.a l.s.pts.length l.cap] 120))
                have HSA := Lib.hid (bsz HS6.out HBA.out)
                have HCN := Lib.hid (three_cells w1 l 120)
                obtain ⟨c0, c1, c2⟩ := HQ.out w1 HBW.out
                clear hal
                go_wp2_with (at_builtin; refine wpList_append_own _ rfl _ _ 44 rfl B 120 i0 (svV zeroV) 3 56 Try.underlying44 hi0 hz0 hz1 hz2 rfl (by decide) _ rs.length (gf encV rs) rfl HOA.out ⟨w1.heap.size, 0, none⟩ 1 1 [.string l.s.pod, .string l.s.met, .slice l.a l.s.pts.length l.cap] rfl rfl HCN.out (three_one l) (by unfold maxLen; omega) (by omega) HSA.out ?_; intro v8 w8 hown' hgrow hat8)
                have HO8 : Hid (OwnR w8 B v8 (rs ++ [l])) := OwnR_snoc hown'
                have HB8 := Lib.hid (HBA.out.grown hgrow HSA.out (fun g hg => (World.ownsRow.lt HOW.out g hg).1))
                clear hown' hgrow HOA HBA HSA HCN c0 c1 c2 HOW HBW
                go_wp2
                go_roundw
                case rel => exact ⟨k + 1, true, _, by omega, by go_num, rfl, HO8.out, HB8.out, HM2.out⟩
                case measure => simp [intOf]; omega
            · obtain rfl : k = ls.length := by omega
              have hme : Mid (ls.map Sv.s) s.pod s.met ms (⟨serOf s, some ⟨w5.heap.size, 0, none⟩, 1⟩ : Sv) ms.length bo rs := by rw [HLM2.out]; exact HM.out
              have hrl2 : rs.length ≤ 26 := by omega
              have HME := Lib.hid hme
              have hbW : Below W6.heap.size W6 wr := by rw [HS6.out]; exact HB.out
              clear hme
              cases bo
              · have HPI := Lib.hid (mid_end_no HST.out HOK.out HF.out HNE.out HMS.out rfl HME.out)
                have HMM := Lib.hid (mid_mem HME.out)
                have HQ1 : Hid (∀ W, Below B W6 W → (W.cell? ⟨w5.heap.size + 1, 0, none⟩ = some (.string s.pod) ∧ W.cell? ⟨w5.heap.size + 1, 1, none⟩ = some (.string s.met) ∧ W.cell? ⟨w5.heap.size + 1, 2, none⟩ = some (.slice (some ⟨w5.heap.size, 0, none⟩) 1 1))) := fun W hW => by
                  have h2 : Below W6.heap.size W6 W := by rw [HS6.out]; exact hW
                  have := HBT.out.kept h2
                  exact ⟨(this.2 0 (by simp)).1, (this.2 1 (by simp)).1, (this.2 2 (by simp)).1⟩
                have HOW := Lib.hid (HO.out)
                have hlb : rs.length ≤ 27 := by first | omega | (simp; omega)
                have HBW := Lib.hid (HB.out)
                have hal := box_below wr #[.string s.pod, .string s.met, .slice (some ⟨w5.heap.size, 0, none⟩) 1 1] 120
                have HOA := Lib.hid (HOW.out.kept hal)
                have HBA := Lib.hid (HBW.out.alloc (bsz HS6.out HBW.out) (.cells #[.string s.pod, .string s.met, .slice (some ⟨w5.heap.size, 0, none⟩) 1 1] 120))
                have HSA := Lib.hid (bsz HS6.out HBA.out)
                have HCN := Lib.hid (three_cells wr (⟨serOf s, some ⟨w5.heap.size, 0, none⟩, 1⟩ : Sv) 120)
                obtain ⟨c0, c1, c2⟩ := HQ1.out wr HBW.out
                clear hal
                go_wp2_with (at_builtin; refine wpList_append_own _ rfl _ _ 44 rfl B 120 i0 (svV zeroV) 3 56 Try.underlying44 hi0 hz0 hz1 hz2 rfl (by decide) _ rs.length (gf encV rs) rfl HOA.out ⟨wr.heap.size, 0, none⟩ 1 1 [.string s.pod, .string s.met, .slice (some ⟨w5.heap.size, 0, none⟩) 1 1] rfl rfl HCN.out (three_one (⟨serOf s, some ⟨w5.heap.size, 0, none⟩, 1⟩ : Sv)) (by unfold maxLen; omega) (by omega) HSA.out ?_)
                intro v8 w8 hown' hgrow hat8
                have HO8 : Hid (OwnR w8 B v8 (rs ++ [(⟨serOf s, some ⟨w5.heap.size, 0, none⟩, 1⟩ : Sv)])) := OwnR_snoc hown'
                have HB8 := Lib.hid (HBA.out.grown hgrow HSA.out (fun g hg => (World.ownsRow.lt HOW.out g hg).1))
                clear hown' hgrow HOA HBA HSA HCN c0 c1 c2 HOW HBW
                obtain ⟨gv, cv, rfl⟩ := form_of HO8.out (by simp)
                have hb8 : Below W6.heap.size W6 w8 := by rw [HS6.out]; exact HB8.out
                have HSR := Lib.hid (srs_all HO8.out (fun l hl => by
                  rcases List.mem_append.1 hl with hl | hl
                  · exact (HPM.out l (HMM.out l hl)).kept hb8
                  · have hl' : l = (⟨serOf s, some ⟨w5.heap.size, 0, none⟩, 1⟩ : Sv) := by simpa using hl
                    exact (HPM.out l (.inr hl')).kept hb8))
                have HBF := Lib.hid (HB6.out.trans (HB8.out.mono (Nat.le_of_lt hwB)))
                clear hb8 hbW
                go_wp2
                go_ret2
                exact putSp_of gv cv _ 0 rfl HPI.out HSR.out HBF.out
              · have HPI := Lib.hid (mid_end_yes HST.out HOK.out HF.out HNE.out HMS.out rfl HME.out)
                have hpos := mid_pos HME.out
                obtain ⟨gv, cv, rfl⟩ := form_of HO.out hpos
                have HSR := Lib.hid (srs_all HO.out (fun l hl => (HPM.out l (mid_mem HME.out l hl)).kept hbW))
                have HBF := Lib.hid (HB6.out.trans (HB.out.mono (Nat.le_of_lt hwB)))
                clear hbW hpos hrl2 hrl
                go_wp2
                go_ret2
                exact putSp_of gv cv rs 0 rfl HPI.out HSR.out HBF.out
end Go.Proofs.Ytimpajhgplkpmaa.PutS
