/- SetupOk: both sides. -/
import Derived.Test.YtgmdfkmmbcpikaaGreatGof
import Derived.Test.YtgmdfkmmbcpikaaGreatSdI
import Derived.BigQuiet
import Derived.Deep.RegionHeld3
import Derived.Deep.RegionWith
namespace Go.Proofs.YtgmdfkmmbcpikaaGreat.Sup
open Go.RowKit Go.Deep
open Go.Proofs.YtgmdfkmmbcpikaaGreat.C1
open Go.Proofs.YtgmdfkmmbcpikaaGreat.C2
open Go.Proofs.YtgmdfkmmbcpikaaGreat.Smps
open Go.Proofs.YtgmdfkmmbcpikaaGreat.Mem
open Go.Proofs.YtgmdfkmmbcpikaaGreat.Ser2 (cells_new)
open Go.Proofs.YtgmdfkmmbcpikaaGreat.Pd
open Go.Proofs.YtgmdfkmmbcpikaaGreat.Gl
open Go.Proofs.YtgmdfkmmbcpikaaGreat.Gls
open Go.Proofs.YtgmdfkmmbcpikaaGreat.Pl
open Go.Proofs.YtgmdfkmmbcpikaaGreat.BhM
open Go.Proofs.YtgmdfkmmbcpikaaGreat.SdS
open Go.Proofs.YtgmdfkmmbcpikaaGreat.SdI
open Go.Proofs.YtgmdfkmmbcpikaaGreat.Set
open Go.Proofs.YtgmdfkmmbcpikaaGreat.Gof
set_option linter.unusedVariables false

/-- Goal number k is valid and none before it has its metric. -/
def goodG (gs : List Gl) (k : Nat) : Bool := okG (gs.getD k zeroG) && !hasG (gs.take k) (gs.getD k zeroG).met
def goalsV (gs : List Gl) : Bool := inV gs.length 1 3 && (List.range gs.length).all (goodG gs)
def setV (s : St) : Bool := okR s.rl && (behV s.bh && goalsV s.gs)
theorem goals_no {gs : List Gl} {k : Nat} (hk : k < gs.length) (h : goodG gs k = false) : goalsV gs = false := by
  cases c : goalsV gs
  · rfl
  · simp only [goalsV, Bool.and_eq_true, List.all_eq_true] at c
    rw [c.2 k (List.mem_range.2 hk)] at h
    cases h
theorem goals_len {gs : List Gl} (h : inV gs.length 1 3 = false) : goalsV gs = false := by unfold goalsV; rw [h]; rfl
theorem goals_yes {gs : List Gl} (h1 : inV gs.length 1 3 = true) (h : ∀ k, k < gs.length → goodG gs k = true) : goalsV gs = true := by
  simp only [goalsV, Bool.and_eq_true, List.all_eq_true]
  exact ⟨h1, fun k hk => h k (List.mem_range.1 hk)⟩
theorem good_of {gs : List Gl} {k : Nat} {g : Gl} (hk : k < gs.length) (hg : gs[k] = g) : goodG gs k = (okG g && !hasG (gs.take k) g.met) := by
  unfold goodG
  rw [List.getD_eq_getElem?_getD, List.getElem?_eq_getElem hk, hg]
  rfl
theorem has_no {gs : List Gl} {m : ByteArray} {k : Nat} (hk : k ≤ gs.length) (h : ∀ (j : Nat) (hj : j < gs.length), j < k → mtG gs[j] m = false) : hasG (gs.take k) m = false :=
  (find_none (fun j hj => by rw [List.getElem_take]; exact h j (by simp at hj; omega) (by simp at hj; omega))).2
theorem has_yes {gs : List Gl} {m : ByteArray} {k j : Nat} (hj : j < gs.length) (hjk : j < k) (h : mtG gs[j] m = true) : hasG (gs.take k) m = true := by
  unfold hasG
  rw [List.any_eq_true]
  refine ⟨gs[j], ?_, h⟩
  rw [List.mem_iff_getElem]
  exact ⟨j, by simp; omega, by rw [List.getElem_take]⟩
theorem set_no {s : St} (h : okR s.rl = false ∨ behV s.bh = false ∨ goalsV s.gs = false) : setV s = false := by
  unfold setV
  rcases h with h | h | h <;> rw [h] <;> simp
theorem set_yes {s : St} (h1 : okR s.rl = true) (h2 : behV s.bh = true) (h3 : goalsV s.gs = true) : setV s = true := by unfold setV; rw [h1, h2, h3]; rfl
set_option maxHeartbeats 2000000 in
theorem impl_goalsok (gs : List Gl) (hw : ∀ g ∈ gs, g.wf) (a : Option Addr) (cap : Nat) (w : World) (h : Gls w a gs) (hm : gs.length ≤ 1048576) (hcap : gs.length ≤ cap) :
    Calls Tryz.prog 77 #[.slice a gs.length cap] w fun e w' => e = .returned (.bool (goalsV gs)) ∧ Below w.heap.size w w' := by
  by_cases h1 : gs.length < 1
  · have HN := Lib.hid (goals_len (gs := gs) (by rw [inV_no]; omega))
    clear h
    go_enter Tryz.func77, Tryz.ntmps77
    go_wp2
    go_ret
    exact ⟨ret1B HN.out.symm, Below.refl _ _⟩
  · by_cases h3 : 3 < gs.length
    · have HN := Lib.hid (goals_len (gs := gs) (by rw [inV_no]; omega))
      clear h
      go_enter Tryz.func77, Tryz.ntmps77
      go_wp2
      go_ret
      exact ⟨ret1B HN.out.symm, Below.refl _ _⟩
    · have HI := Lib.hid (show inV gs.length 1 3 = true by rw [inV_iff]; omega)
      obtain ⟨b, off, ha, hb, hcell⟩ := h.cells
      have HH := Lib.hid h
      have Hc := Lib.hid hcell
      have Ha := Lib.hid ha
      have Hb := Lib.hid hb
      have HW := Lib.hid hw
      clear h hcell ha hb hw
      go_enter Tryz.func77, Tryz.ntmps77
      go_wp2
      go_loopw [17] (fun i wr => ∃ k : Nat, k ≤ gs.length ∧ i = .int .i64 k ∧ Hid (∀ j, j < k → goodG gs j = true) ∧ Hid (Below w.heap.size w wr)) (fun i _ => gs.length - (intOf i).toNat)
      case atStart => exact ⟨0, Nat.zero_le _, rfl, fun j hj => absurd hj (by omega), Below.refl _ _⟩
      case round =>
        obtain ⟨k, hk, rfl, HS, HB⟩ := hrel
        by_cases hlt : k < gs.length
        · obtain rfl := Ha.out (by omega)
          obtain ⟨g, hg⟩ : ∃ g, gs[k] = g := ⟨_, rfl⟩
          have HGW := Lib.hid (show g.wf by rw [← hg]; exact HW.out _ (List.getElem_mem hlt))
          have hq := (Hc.out k hlt).kept HB.out (Hb.out (by omega))
          rw [hg] at hq
          obtain ⟨q0, q1, q2⟩ := hq
          have HGD := Lib.hid (good_of hlt hg)
          have HB1 := Lib.hid (HB.out.alloc HB.out.size (.cells #[.string g.met, .int .i64 g.tar, .int .i64 g.tol] 113))
          have HG1 := Lib.hid (cells_new wr #[.string g.met, .int .i64 g.tar, .int .i64 g.tol] 113)
          have hcall := fun W (hW : Below w.heap.size w W) => impl_find (gs.take k) g.met (some ⟨b, off, none⟩) cap W (Gls.take (HH.out.kept hW) k) (by simp; omega)
          rw [show (gs.take k).length = k by simp; omega] at hcall
          obtain ⟨v, hv⟩ : ∃ v, getG (gs.take k) g.met = v := ⟨_, rfl⟩
          obtain ⟨t, ht⟩ : ∃ t, hasG (gs.take k) g.met = t := ⟨_, rfl⟩
          rw [hv, ht] at hcall
          rw [ht] at HGD
          have HCALL := Lib.hid hcall
          have hkc : k ≤ cap := by omega
          clear hg hcall hv ht
          go_wp2_with fail
          obtain ⟨W1, hW1⟩ : ∃ W1, wr.alloc (.cells #[.string g.met, .int .i64 g.tar, .int .i64 g.tol] 113) = W1 := ⟨_, rfl⟩
          obtain ⟨G, hG⟩ : ∃ G, wr.heap.size = G := ⟨_, rfl⟩
          rw [hW1] at HB1 HG1 ⊢
          rw [hG] at HG1 ⊢
          have HT : Hid (∀ W, Hid (Below W1.heap.size W1 W) → (W.cell? ⟨G, 0, none⟩ = some (.string g.met) ∧ W.cell? ⟨G, 1, none⟩ = some (.int .i64 g.tar) ∧ W.cell? ⟨G, 2, none⟩ = some (.int .i64 g.tol))) := fun W h => by
            have := HG1.out.kept h.out
            exact ⟨(this.2 0 (by simp)).1, (this.2 1 (by simp)).1, (this.2 2 (by simp)).1⟩
          have HL : Hid (∀ W, Hid (Below W1.heap.size W1 W) → Below w.heap.size w W) := fun W h => HB1.out.trans (h.out.mono HB1.out.size)
          have HBc : Hid (Below W1.heap.size W1 W1.drew) := (Below.refl _ _).drew
          have HDS : Hid (W1.drew.heap.size = W1.heap.size) := Lib.hid rfl
          clear hW1 hG q0 q1 q2
          go_region_held3 (fun w' => w'.cell? ⟨G, 0, none⟩ = some (.string g.met) ∧ w'.cell? ⟨G, 1, none⟩ = some (.int .i64 g.tar) ∧ w'.cell? ⟨G, 2, none⟩ = some (.int .i64 g.tol))
            (first | exact HT.out _ HBc | exact HT.out _ (Lib.hid (HBc.out.alloc HBc.out.size _)) | exact HT.out _ (Lib.hid (((HBc.out.setCell (Nat.le_refl W1.heap.size) _).setCell (Nat.le_refl W1.heap.size) _).setCell (Nat.le_refl W1.heap.size) _)))
            (first
              | (go_at_call 117; refine (HCALL.out _ (HL.out _ HBc)).mono ?_; rintro e u5 ⟨rfl, hb⟩; unfold glV; have HBc := Lib.hid (HBc.out.trans (hb.mono HBc.out.size)); clear hb)
              | (go_at_call 117; refine (HCALL.out _ (HL.out _ (Lib.hid (HBc.out.alloc HBc.out.size _)))).mono ?_; rintro e u5 ⟨rfl, hb⟩; unfold glV; have HV := (cells_new W1.drew #[.string ⟨#[]⟩, .int .i64 0, .int .i64 0] 113).kept hb; rw [HDS.out] at HV; obtain ⟨z0, y0⟩ := HV.2 0 (by simp); obtain ⟨z1, y1⟩ := HV.2 1 (by simp); obtain ⟨z2, y2⟩ := HV.2 2 (by simp); simp at z0 z1 z2; have HBc := Lib.hid ((HBc.out.alloc HBc.out.size _).trans (hb.mono (HBc.out.alloc HBc.out.size _).size)); clear hb HV))
          all_goals
            first
              | (have z9 := z0; have HBn := Lib.hid (((HBc.out.setCell (p := ⟨W1.heap.size, 0, none⟩) (Nat.le_refl W1.heap.size) (.string v.met)).setCell (p := ⟨W1.heap.size, 1, none⟩) (Nat.le_refl W1.heap.size) (.int .i64 v.tar)).setCell (p := ⟨W1.heap.size, 2, none⟩) (Nat.le_refl W1.heap.size) (.int .i64 v.tol)); clear z9 z0 z1 z2 y0 y1 y2)
              | (have HBn := Lib.hid (HBc.out.alloc HBc.out.size (.cells #[.string v.met, .int .i64 v.tar, .int .i64 v.tol] 113)))
            clear HBc
            have HF := HL.out _ HBn
            have HFF := Lib.hid HF
            obtain ⟨g0, g1, g2⟩ := HT.out _ HBn
            clear HF HCALL
            cases t
            · have hgok := fun W => impl_goalok g HGW.out W
              unfold glV at hgok
              cases ok : okG g
              · rw [ok] at hgok
                have HN := Lib.hid (goals_no hlt (by rw [HGD.out, ok]; rfl))
                have HGK := Lib.hid hgok
                clear hgok ok
                go_wp2_with (go_at_call 118; refine (HGK.out _).mono ?_; rintro e u6 ⟨rfl, hb⟩; have HB6 := Lib.hid (HFF.out.trans (hb.mono HFF.out.size)); clear hb g0 g1 g2)
                go_ret
                exact ⟨ret1B HN.out.symm, HB6.out⟩
              · rw [ok] at hgok
                have HN : Hid (∀ j, j < k + 1 → goodG gs j = true) := fun j hj => by
                  by_cases e : j = k
                  · subst e; rw [HGD.out, ok]; rfl
                  · exact HS.out j (by omega)
                have HGK := Lib.hid hgok
                clear hgok ok
                go_wp2_with (go_at_call 118; refine (HGK.out _).mono ?_; rintro e u6 ⟨rfl, hb⟩; have HB6 := Lib.hid (HFF.out.trans (hb.mono HFF.out.size)); clear hb g0 g1 g2)
                go_roundw
                case rel => exact ⟨k + 1, by omega, by go_num, HN, HB6⟩
                case measure => simp [intOf]; omega
            · have HN := Lib.hid (goals_no hlt (by rw [HGD.out]; cases okG g <;> rfl))
              clear g0 g1 g2
              go_wp2
              go_ret
              exact ⟨ret1B HN.out.symm, HFF.out⟩
        · obtain rfl : k = gs.length := by omega
          have HN := Lib.hid (goals_yes HI.out HS.out)
          go_wp2
          go_ret
          exact ⟨ret1B HN.out.symm, HB.out⟩
def CapG (s : St) (c : Nat) : Prop := s.gs.length ≤ c
theorem impl_setupok (s : St) (hw : ∀ g ∈ s.gs, g.wf) (a : Option Addr) (c : Nat) (a1 : Option Addr) (c1 : Nat) (a2 : Option Addr) (c2 : Nat) (w : World) (h : Gls w a s.gs) (h1 : Pls w a1 s.bh.up.ps) (h2 : Pls w a2 s.bh.dn.ps) (hn0 : s.gs.length ≤ 1048576) (hn1 : s.bh.up.ps.length ≤ 1048576) (hn2 : s.bh.dn.ps.length ≤ 1048576) (hc : s.gs.length ≤ c) :
    Calls Tryz.prog 37 #[stV s a c a1 c1 a2 c2] w fun e w' => e = .returned (.bool (setV s)) ∧ Below w.heap.size w w' := by
  have hk := cells_new w #[.int .i64 s.rl.dl, .int .i64 s.rl.fr, .int .i64 s.rl.wi, .slice a s.gs.length c, .slice a1 s.bh.up.ps.length c1, .int .i64 s.bh.up.sel, .int .i64 s.bh.up.win, .slice a2 s.bh.dn.ps.length c2, .int .i64 s.bh.dn.sel, .int .i64 s.bh.dn.win, .int .i64 s.bh.mn, .int .i64 s.bh.mx] 48
  have hb := box_below w #[.int .i64 s.rl.dl, .int .i64 s.rl.fr, .int .i64 s.rl.wi, .slice a s.gs.length c, .slice a1 s.bh.up.ps.length c1, .int .i64 s.bh.up.sel, .int .i64 s.bh.up.win, .slice a2 s.bh.dn.ps.length c2, .int .i64 s.bh.dn.sel, .int .i64 s.bh.dn.win, .int .i64 s.bh.mn, .int .i64 s.bh.mx] 48
  have HCR := Lib.hid (fun W => impl_rules s.rl W)
  have HCG := Lib.hid (fun W h => impl_goalsok s.gs hw a c W h hn0 hc)
  have HCB := Lib.hid (fun W h h' => impl_behok s.bh a1 c1 a2 c2 W h h' (by omega) (by omega))
  unfold stV rlV bhV at *
  have HB0 := Lib.hid hb
  have HK0 : Hid (CW12 _ w.heap.size _ _ _ _ _ _ _ _ _ _ _ _) := hk
  have H0 := Lib.hid (h.kept hb)
  have H1 := Lib.hid (h1.kept hb)
  have H2 := Lib.hid (h2.kept hb)
  clear hk hb h h1 h2 hw
  cases d1 : okR s.rl
  · have HN := Lib.hid (set_no (s := s) (.inl d1))
    simp only [d1] at HCR
    clear d1
    go_enter Tryz.func37, Tryz.ntmps37
    go_wp2_with (go_at_call 76; refine (HCR.out _).mono ?_; rintro e u1 ⟨rfl, hb⟩; have HB1 := Lib.hid (HB0.out.trans (hb.mono HB0.out.size)); clear hb)
    go_ret
    exact ⟨ret1B HN.out.symm, HB1.out⟩
  · cases d2 : goalsV s.gs
    · have HN := Lib.hid (set_no (s := s) (.inr (.inr d2)))
      simp only [d1] at HCR
      simp only [d2] at HCG
      clear d1 d2
      go_enter Tryz.func37, Tryz.ntmps37
      go_wp2_with (first
        | (go_at_call 76; refine (HCR.out _).mono ?_; rintro e u1 ⟨rfl, hb⟩; have HB1 := Lib.hid (HB0.out.trans (hb.mono HB0.out.size)); have K1 := Lib.hid (HK0.out.kept hb); have G1 := Lib.hid (H0.out.kept hb); obtain ⟨⟨p0, p1, p2, p3, p4, p5, p6, p7, p8, p9, p10, p11⟩, -⟩ := K1.out.get; clear hb)
        | (go_at_call 77; refine (HCG.out _ G1.out).mono ?_; rintro e u2 ⟨rfl, hb⟩; have HB2 := Lib.hid (HB1.out.trans (hb.mono HB1.out.size)); clear hb))
      go_ret
      exact ⟨ret1B HN.out.symm, HB2.out⟩
    · have HN : Hid (setV s = behV s.bh) := by show _ = _; unfold setV; rw [d1, d2]; cases behV s.bh <;> rfl
      simp only [d1] at HCR
      simp only [d2] at HCG
      obtain ⟨t, ht⟩ : ∃ t, behV s.bh = t := ⟨_, rfl⟩
      rw [ht] at HCB HN
      clear d1 d2 ht
      go_enter Tryz.func37, Tryz.ntmps37
      go_wp2_with (first
        | (go_at_call 76; refine (HCR.out _).mono ?_; rintro e u1 ⟨rfl, hb⟩; have HB1 := Lib.hid (HB0.out.trans (hb.mono HB0.out.size)); have K1 := Lib.hid (HK0.out.kept hb); have G1 := Lib.hid (H0.out.kept hb); have A1 := Lib.hid (H1.out.kept hb); have A2 := Lib.hid (H2.out.kept hb); obtain ⟨⟨p0, p1, p2, p3, p4, p5, p6, p7, p8, p9, p10, p11⟩, -⟩ := K1.out.get; clear hb)
        | (go_at_call 77; refine (HCG.out _ G1.out).mono ?_; rintro e u2 ⟨rfl, hb⟩; have HB2 := Lib.hid (HB1.out.trans (hb.mono HB1.out.size)); have K2 := Lib.hid (K1.out.kept hb); have A3 := Lib.hid (A1.out.kept hb); have A4 := Lib.hid (A2.out.kept hb); clear p0 p1 p2 p3 p4 p5 p6 p7 p8 p9 p10 p11; obtain ⟨⟨p0, p1, p2, p3, p4, p5, p6, p7, p8, p9, p10, p11⟩, -⟩ := K2.out.get; clear hb)
        | (go_at_call 78; refine (HCB.out _ A3.out A4.out).mono ?_; rintro e u3 ⟨rfl, hb⟩; have HB3 := Lib.hid (HB2.out.trans (hb.mono HB2.out.size)); clear hb))
      go_ret
      exact ⟨ret1B HN.out.symm, HB3.out⟩
set_option maxHeartbeats 2000000 in
theorem spec_setupok (s : St) (hw : ∀ g ∈ s.gs, g.wf) (a : Option Addr) (c : Nat) (a1 : Option Addr) (c1 : Nat) (a2 : Option Addr) (c2 : Nat) (w : World) (h : Gls w a s.gs) (h1 : Pls w a1 s.bh.up.ps) (h2 : Pls w a2 s.bh.dn.ps) (hn0 : s.gs.length ≤ 1048576) (hn1 : s.bh.up.ps.length ≤ 1048576) (hn2 : s.bh.dn.ps.length ≤ 1048576) :
    Calls Tryz.prog 24 #[stV s a c a1 c1 a2 c2] w fun e w' => e = .returned (.bool (setV s)) ∧ Below w.heap.size w w' := by
  have mixed : Tryz.prog.follows .mixedOrders = true := by kernel_rfl
  have hk := cells_new w #[.int .i64 s.rl.dl, .int .i64 s.rl.fr, .int .i64 s.rl.wi, .slice a s.gs.length c, .slice a1 s.bh.up.ps.length c1, .int .i64 s.bh.up.sel, .int .i64 s.bh.up.win, .slice a2 s.bh.dn.ps.length c2, .int .i64 s.bh.dn.sel, .int .i64 s.bh.dn.win, .int .i64 s.bh.mn, .int .i64 s.bh.mx] 48
  have hb := box_below w #[.int .i64 s.rl.dl, .int .i64 s.rl.fr, .int .i64 s.rl.wi, .slice a s.gs.length c, .slice a1 s.bh.up.ps.length c1, .int .i64 s.bh.up.sel, .int .i64 s.bh.up.win, .slice a2 s.bh.dn.ps.length c2, .int .i64 s.bh.dn.sel, .int .i64 s.bh.dn.win, .int .i64 s.bh.mn, .int .i64 s.bh.mx] 48
  have HCR := Lib.hid (fun W => spec_rules s.rl W)
  have HCB := Lib.hid (fun W h h' => spec_behok s.bh a1 c1 a2 c2 W h h' (by omega) (by omega))
  have HCI := Lib.hid (fun W => LogS.spec_in6 (s.gs.length : Int) 1 3 W)
  unfold stV rlV bhV at *
  have HB0 := Lib.hid hb
  have HK0 : Hid (CW12 _ w.heap.size _ _ _ _ _ _ _ _ _ _ _ _) := hk
  have H0 := Lib.hid (h.kept hb)
  have H1 := Lib.hid (h1.kept hb)
  have H2 := Lib.hid (h2.kept hb)
  have HW := Lib.hid hw
  clear hk hb h h1 h2 hw
  cases d1 : okR s.rl
  · have HN := Lib.hid (set_no (s := s) (.inl d1))
    simp only [d1] at HCR
    clear d1
    go_enter Tryz.func24, Tryz.ntmps24
    go_wp2_with (first | (go_at_call 61; refine (HCR.out _).mono ?_; rintro e wy1 ⟨rfl, hb⟩; have HB1 := Lib.hid (HB0.out.trans (hb.mono HB0.out.size)); have K1 := Lib.hid (HK0.out.kept hb); have G1 := Lib.hid (H0.out.kept hb); have A1 := Lib.hid (H1.out.kept hb); have A2 := Lib.hid (H2.out.kept hb); obtain ⟨⟨p0, p1, p2, p3, p4, p5, p6, p7, p8, p9, p10, p11⟩, -⟩ := K1.out.get; clear hb))
    go_ret
    exact ⟨ret1B HN.out.symm, HB1.out⟩
  · cases d2 : behV s.bh
    · have HN := Lib.hid (set_no (s := s) (.inr (.inl d2)))
      simp only [d1] at HCR
      simp only [d2] at HCB
      clear d1 d2
      go_enter Tryz.func24, Tryz.ntmps24
      go_wp2_with (first | (go_at_call 61; refine (HCR.out _).mono ?_; rintro e wy1 ⟨rfl, hb⟩; have HB1 := Lib.hid (HB0.out.trans (hb.mono HB0.out.size)); have K1 := Lib.hid (HK0.out.kept hb); have G1 := Lib.hid (H0.out.kept hb); have A1 := Lib.hid (H1.out.kept hb); have A2 := Lib.hid (H2.out.kept hb); obtain ⟨⟨p0, p1, p2, p3, p4, p5, p6, p7, p8, p9, p10, p11⟩, -⟩ := K1.out.get; clear hb) | (go_at_call 62; refine (HCB.out _ A1.out A2.out).mono ?_; rintro e wy2 ⟨rfl, hb⟩; have HB2 := Lib.hid (HB1.out.trans (hb.mono HB1.out.size)); have K2 := Lib.hid (K1.out.kept hb); have G2 := Lib.hid (G1.out.kept hb); clear p0 p1 p2 p3 p4 p5 p6 p7 p8 p9 p10 p11; obtain ⟨⟨p0, p1, p2, p3, p4, p5, p6, p7, p8, p9, p10, p11⟩, -⟩ := K2.out.get; clear hb))
      go_ret
      exact ⟨ret1B HN.out.symm, HB2.out⟩
    · cases d3 : inV s.gs.length 1 3
      · have HN := Lib.hid (set_no (s := s) (.inr (.inr (goals_len d3))))
        simp only [d1] at HCR
        simp only [d2] at HCB
        simp only [d3] at HCI
        clear d1 d2 d3
        go_enter Tryz.func24, Tryz.ntmps24
        go_wp2_with (first | (go_at_call 61; refine (HCR.out _).mono ?_; rintro e wy1 ⟨rfl, hb⟩; have HB1 := Lib.hid (HB0.out.trans (hb.mono HB0.out.size)); have K1 := Lib.hid (HK0.out.kept hb); have G1 := Lib.hid (H0.out.kept hb); have A1 := Lib.hid (H1.out.kept hb); have A2 := Lib.hid (H2.out.kept hb); obtain ⟨⟨p0, p1, p2, p3, p4, p5, p6, p7, p8, p9, p10, p11⟩, -⟩ := K1.out.get; clear hb) | (go_at_call 62; refine (HCB.out _ A1.out A2.out).mono ?_; rintro e wy2 ⟨rfl, hb⟩; have HB2 := Lib.hid (HB1.out.trans (hb.mono HB1.out.size)); have K2 := Lib.hid (K1.out.kept hb); have G2 := Lib.hid (G1.out.kept hb); clear p0 p1 p2 p3 p4 p5 p6 p7 p8 p9 p10 p11; obtain ⟨⟨p0, p1, p2, p3, p4, p5, p6, p7, p8, p9, p10, p11⟩, -⟩ := K2.out.get; clear hb) | (go_at_call 31; refine (HCI.out _).mono ?_; rintro e w' ⟨rfl, rfl⟩))
        go_ret
        exact ⟨ret1B HN.out.symm, HB2.out⟩
      · have D1 := Lib.hid d1
        have D2 := Lib.hid d2
        have D3 := Lib.hid d3
        simp only [d1] at HCR
        simp only [d2] at HCB
        simp only [d3] at HCI
        have HNO : Hid (goalsV s.gs = false → setV s = false) := fun h => set_no (.inr (.inr h))
        have HYES : Hid (goalsV s.gs = true → setV s = true) := fun h => set_yes D1.out D2.out h
        obtain ⟨V, hV⟩ : ∃ V, setV s = V := ⟨_, rfl⟩
        rw [hV] at HNO HYES ⊢
        obtain ⟨gs, hgs⟩ : ∃ gs, s.gs = gs := ⟨_, rfl⟩
        rw [hgs] at HK0 HB0 H0 H1 H2 D3 HW hn0 HNO HYES HCI ⊢
        clear d1 d2 d3 D1 D2 hV hgs
        go_enter Tryz.func24, Tryz.ntmps24
        go_wp2_with (first | (go_at_call 61; refine (HCR.out _).mono ?_; rintro e wy1 ⟨rfl, hb⟩; have HB1 := Lib.hid (HB0.out.trans (hb.mono HB0.out.size)); have K1 := Lib.hid (HK0.out.kept hb); have G1 := Lib.hid (H0.out.kept hb); have A1 := Lib.hid (H1.out.kept hb); have A2 := Lib.hid (H2.out.kept hb); obtain ⟨⟨p0, p1, p2, p3, p4, p5, p6, p7, p8, p9, p10, p11⟩, -⟩ := K1.out.get; clear hb) | (go_at_call 62; refine (HCB.out _ A1.out A2.out).mono ?_; rintro e wy2 ⟨rfl, hb⟩; have HB2 := Lib.hid (HB1.out.trans (hb.mono HB1.out.size)); have K2 := Lib.hid (K1.out.kept hb); have G2 := Lib.hid (G1.out.kept hb); clear p0 p1 p2 p3 p4 p5 p6 p7 p8 p9 p10 p11; obtain ⟨⟨p0, p1, p2, p3, p4, p5, p6, p7, p8, p9, p10, p11⟩, -⟩ := K2.out.get; clear hb) | (go_at_call 31; refine (HCI.out _).mono ?_; rintro e w' ⟨rfl, rfl⟩))
        clear p0 p1 p2 p3 p4 p5 p6 p7 p8 p9 p10 p11 A1 A2 HCR HCB HCI K1 G1 HB1 HB0 HK0 H0 H1 H2
        obtain ⟨b, off, ha, hb, hcell⟩ := G2.out.cells
        have Hc := Lib.hid hcell
        have Ha := Lib.hid ha
        have Hb := Lib.hid hb
        clear hcell ha hb G2
        go_loopw [3] (fun i wr => ∃ n : Nat, n ≤ gs.length ∧ i = .int .i64 n ∧ Hid (∀ j, j < n → goodG gs j = true) ∧ Hid (Below wy2.heap.size wy2 wr)) (fun i _ => gs.length - (intOf i).toNat)
        case atStart => exact ⟨0, Nat.zero_le _, rfl, fun j hj => absurd hj (by omega), Below.refl _ _⟩
        case round =>
          obtain ⟨n, hn, rfl, HS, HB⟩ := hrel
          have HKr := Lib.hid (K2.out.kept HB.out)
          obtain ⟨⟨-, -, -, p3, -⟩, -⟩ := HKr.out.get
          by_cases hlt : n < gs.length
          · obtain rfl := Ha.out (by omega)
            obtain ⟨g, hg⟩ : ∃ g, gs[n] = g := ⟨_, rfl⟩
            have HGW := Lib.hid (show g.wf by rw [← hg]; exact HW.out _ (List.getElem_mem hlt))
            have hq := (Hc.out n hlt).kept HB.out (Hb.out (by omega))
            rw [hg] at hq
            obtain ⟨q0, q1, q2⟩ := hq
            have HGD := Lib.hid (good_of hlt hg)
            have hgok := fun W => spec_goalok g HGW.out W
            unfold glV at hgok
            cases ok : okG g
            · rw [ok] at hgok
              have HN := Lib.hid (HNO.out (goals_no hlt (by rw [HGD.out, ok]; rfl)))
              have HGK := Lib.hid hgok
              have HBZ := Lib.hid (HB2.out.trans (HB.out.mono HB2.out.size))
              clear hgok ok
              go_wp2_with (go_at_call 63; refine (HGK.out _).mono ?_; rintro e wy6 ⟨rfl, hb⟩; have HB6 := Lib.hid (HBZ.out.trans (hb.mono HBZ.out.size)); clear hb q0 q1 q2)
              go_ret
              exact ⟨ret1B HN.out.symm, HB6.out⟩
            · rw [ok] at hgok
              have HGD2 : Hid (goodG gs n = !hasG (gs.take n) g.met) := by show _ = _; rw [HGD.out, ok]; cases hasG (gs.take n) g.met <;> rfl
              have HGK := Lib.hid hgok
              clear hgok ok HGD
              go_wp2_with (go_at_call 63; refine (HGK.out _).mono ?_; rintro e wy6 ⟨rfl, hb⟩; have HB6 := Lib.hid (HB.out.trans (hb.mono HB.out.size)); clear hb q0 q1 q2 p3)
              clear HKr HGK
              have HB7 := HB6
              clear HB6 HB
              obtain ⟨wz, hz⟩ : ∃ wz : World, wz = wy6 := ⟨_, rfl⟩
              subst hz
              go_loopw [4] (fun i wr => ∃ k : Nat, k ≤ n ∧ i = .int .i64 k ∧ Hid (∀ (j : Nat) (hj : j < gs.length), j < k → mtG gs[j] g.met = false) ∧ Hid (Below wy2.heap.size wy2 wr)) (fun i _ => n - (intOf i).toNat)
              case atStart => exact ⟨0, Nat.zero_le _, rfl, fun j hj h => absurd h (by omega), HB7.out⟩
              case round =>
                clear HB7
                obtain ⟨k, hk, rfl, HM, HB⟩ := hrel
                have HKr := Lib.hid (K2.out.kept HB.out)
                by_cases hlk : k < n
                · have hkl : k < gs.length := by omega
                  obtain ⟨g', hg'⟩ : ∃ g, gs[k] = g := ⟨_, rfl⟩
                  have hbb := Nat.lt_of_lt_of_le (Hb.out (by omega)) HB.out.size
                  have hq := (Hc.out n hlt).kept HB.out (Hb.out (by omega))
                  have hq' := (Hc.out k hkl).kept HB.out (Hb.out (by omega))
                  rw [hg] at hq
                  rw [hg'] at hq'
                  have y3 := later_cell HKr.out.1 (HKr.out.2 3 (by simp)).1
                  simp only [List.getElem_cons_zero, List.getElem_cons_succ] at y3
                  have z0 := later_cell hbb hq.1
                  have z1 := later_cell hbb hq'.1
                  clear hq hq' hbb
                  cases c1 : (g'.met.toList == g.met.toList)
                  · have HN : Hid (∀ (j : Nat) (hj : j < gs.length), j < k + 1 → mtG gs[j] g.met = false) := fun j hj h => by
                      by_cases e : j = k
                      · subst e; rw [hg']; exact c1
                      · exact HM.out j hj (by omega)
                    go_wp2_with fail
                    refine region_later mixed (by kernel_rfl) ?_
                    repeat (go_big_quiet_step (fail))
                    refine wpQuiet_nil ?_
                    intro w4 hw'
                    obtain ⟨⟨_, hw4⟩, rfl⟩ := hw'
                    have HB4 := Lib.hid (HB.out.trans (hw4.mono HB.out.size))
                    clear hw4 y3 z0 z1
                    go_wp2
                    go_roundw
                    case rel => exact ⟨k + 1, by omega, by go_num, HN, HB4⟩
                    case measure => simp [intOf]; omega
                  · have HN := Lib.hid (HNO.out (goals_no hlt (by rw [HGD2.out, has_yes hkl hlk (show mtG gs[k] g.met = true by rw [hg']; exact c1)]; rfl)))
                    go_wp2_with fail
                    refine region_later mixed (by kernel_rfl) ?_
                    repeat (go_big_quiet_step (fail))
                    refine wpQuiet_nil ?_
                    intro w4 hw'
                    obtain ⟨⟨_, hw4⟩, rfl⟩ := hw'
                    have HB4 := Lib.hid (HB.out.trans (hw4.mono HB.out.size))
                    have HBZ := Lib.hid (HB2.out.trans (HB4.out.mono HB2.out.size))
                    clear hw4 y3 z0 z1
                    go_wp2
                    go_ret
                    exact ⟨ret1B HN.out.symm, HBZ.out⟩
                · obtain rfl : k = n := by omega
                  have HN : Hid (∀ j, j < k + 1 → goodG gs j = true) := fun j hj => by
                    by_cases e : j = k
                    · subst e; rw [HGD2.out, has_no (Nat.le_of_lt hlt) HM.out]; rfl
                    · exact HS.out j (by omega)
                  go_wp2
                  go_roundw
                  case rel => exact ⟨k + 1, by omega, by go_num, HN, HB⟩
                  case measure => simp [intOf]; omega
          · obtain rfl : n = gs.length := by omega
            have HN := Lib.hid (HYES.out (goals_yes D3.out HS.out))
            have HBZ := Lib.hid (HB2.out.trans (HB.out.mono HB2.out.size))
            go_wp2
            go_ret
            exact ⟨ret1B HN.out.symm, HBZ.out⟩
end Go.Proofs.YtgmdfkmmbcpikaaGreat.Sup
