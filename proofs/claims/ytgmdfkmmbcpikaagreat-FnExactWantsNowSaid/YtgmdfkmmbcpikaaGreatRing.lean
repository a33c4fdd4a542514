/- The ring of points: put, ringOf; the two comparisons by time. -/
import Derived.Test.YtgmdfkmmbcpikaaGreatSto
import Derived.BigRegion
import Derived.Deep.MidRow
import Derived.Deep.Upon
namespace Go.Proofs.YtgmdfkmmbcpikaaGreat.Ring
open Go.RowKit Go.Sort Go.BigFrame
open Go.Proofs.YtgmdfkmmbcpikaaGreat.C1
open Go.Proofs.YtgmdfkmmbcpikaaGreat.C2
open Go.Proofs.YtgmdfkmmbcpikaaGreat.Smps
open Go.Proofs.YtgmdfkmmbcpikaaGreat.Mem
open Go.Proofs.YtgmdfkmmbcpikaaGreat.Ser
open Go.Proofs.YtgmdfkmmbcpikaaGreat.Ser2
open Go.Proofs.YtgmdfkmmbcpikaaGreat.Key
open Go.Proofs.YtgmdfkmmbcpikaaGreat.Sto
set_option linter.unusedVariables false

theorem cmp_times (x y : Pt) (w : World) :
    Calls Tryz.prog 190 #[ptV x, ptV y] w fun e w' => e = .returned (.int .i64 (cmpI x.tick y.tick)) ∧ ∃ q os', w' = grow (w.drewN q) os' := by
  unfold ptV
  go_enter Tryz.func190, Tryz.ntmps190
  go_wp2_with (go_at_call 214; refine (cmp_int x.tick y.tick _).mono ?_; rintro e w' ⟨rfl, rfl⟩)
  go_ret
  exact ⟨rfl, 0, _, grown2 _ _ _⟩
theorem same_time (x y : Pt) (w : World) :
    Calls Tryz.prog 192 #[ptV x, ptV y] w fun e w' => e = .returned (.bool (x.tick == y.tick)) ∧ ∃ q os', w' = grow (w.drewN q) os' := by
  unfold ptV
  go_enter Tryz.func192, Tryz.ntmps192
  go_wp2
  go_ret
  exact ⟨rfl, 0, _, grown2 _ _ _⟩

/-- The cells of a ring: twelve slots, and how many were put. -/
def ringL (sl : List Pt) (k : Nat) : List Value := gf encP sl ++ [.int .i64 (k : Int)]
theorem ringL_len (sl : List Pt) (k : Nat) : (ringL sl k).length = sl.length * 2 + 1 := by unfold ringL; rw [List.length_append, gf_len encP 2 encP_len]; rfl
theorem ringL_pt (sl : List Pt) (k i : Nat) (hi : i < sl.length) : (ringL sl k)[i * 2]? = some (.int .i64 sl[i].tick) ∧ (ringL sl k)[i * 2 + 1]? = some (.int .i64 sl[i].val) := by
  have hl := gf_len encP 2 encP_len sl
  have h0 := gf_get encP 2 encP_len sl i 0 hi (by omega)
  have h1 := gf_get encP 2 encP_len sl i 1 hi (by omega)
  unfold ringL
  rw [List.getElem?_append_left (by omega), List.getElem?_append_left (by omega)]
  exact ⟨by rw [Nat.add_zero] at h0; exact h0, h1⟩
theorem ringL_last (sl : List Pt) (k : Nat) : (ringL sl k)[sl.length * 2]? = some (.int .i64 (k : Int)) := by
  have hl := gf_len encP 2 encP_len sl
  unfold ringL
  rw [List.getElem?_append_right (by omega), hl]
  simp
theorem cellsW_get {w : World} {g : Nat} {vs : List Value} (h : CellsW w g vs) {j : Nat} {v : Value} (hv : vs[j]? = some v) : w.cell? ⟨g, j, none⟩ = some v ∧ w.frozen? ⟨g, j, none⟩ = false := by
  obtain ⟨hj, e⟩ := List.getElem?_eq_some_iff.1 hv
  rw [← e]
  exact h.2 j hj
theorem ringL_put (sl : List Pt) (k i : Nat) (p : Pt) (hi : i < sl.length) : (((ringL sl k).set (i * 2) (.int .i64 p.tick)).set (i * 2 + 1) (.int .i64 p.val)).set (sl.length * 2) (.int .i64 ((k + 1 : Nat) : Int)) = ringL (sl.set i p) (k + 1) := by
  have hl := gf_len encP 2 encP_len sl
  unfold ringL
  rw [List.set_append_left _ _ (by omega), List.set_append_left _ _ (by simp; omega), gf_set2 sl i p hi, List.set_append_right _ _ (by rw [gf_len encP 2 encP_len]; simp), gf_len encP 2 encP_len]
  simp
set_option maxHeartbeats 1000000 in
set_option maxRecDepth 20000 in
theorem ring_put (g : Nat) (sl : List Pt) (h12 : sl.length = 12) (k i : Nat) (hk : k ≤ 100) (hi : i = k % 12) (p : Pt) (w : World) (h : CellsW w g (ringL sl k)) :
    Calls Tryz.prog 212 #[.pointer (some ⟨g, 0, none⟩), ptV p] w fun e w' => e = .returned (.tuple #[]) ∧ CellsW w' g (ringL (sl.set i p) (k + 1)) ∧ Only g w w' := by
  have mixed : Tryz.prog.follows .mixedOrders = true := by kernel_rfl
  unfold ptV
  subst hi
  have hil : k % 12 < sl.length := by omega
  have HC := Lib.hid h
  have HG := Lib.hid h.1
  obtain ⟨t0, t1⟩ := ringL_pt sl k (k % 12) hil
  have t2 := ringL_last sl k
  rw [h12] at t2
  have hb : Below w.heap.size w (w.alloc (.cells #[.int .i64 p.tick, .int .i64 p.val] 123)) := box_below _ _ _
  have HCa := Lib.hid (h.kept hb)
  obtain ⟨c0, f0⟩ := cellsW_get HCa.out t0
  obtain ⟨c1, f1⟩ := cellsW_get HCa.out t1
  obtain ⟨c2, f2⟩ := cellsW_get HCa.out t2
  have HOa := Lib.hid (Only.of_below (c := g) hb)
  have hgn : g ≠ w.heap.size := Nat.ne_of_lt h.1
  clear t0 t1 t2 h hb
  go_enter Tryz.func212, Tryz.ntmps212
  go_wp2_with fail
  go_big_region_o
  obtain ⟨V, hV⟩ : ∃ V, (((w.alloc (.cells #[.int .i64 p.tick, .int .i64 p.val] 123)).setCell ⟨g, k % 12 * 2, none⟩ (.int .i64 p.tick)).setCell ⟨g, k % 12 * 2 + 1, none⟩ (.int .i64 p.val)).drew = V := ⟨_, rfl⟩
  have hlen := ringL_len sl k
  have HV : Hid (CellsW V g (((ringL sl k).set (k % 12 * 2) (.int .i64 p.tick)).set (k % 12 * 2 + 1) (.int .i64 p.val)) ∧ Only g w V) := by
    rw [← hV]
    refine ⟨?_, ?_⟩
    · exact ((HCa.out.set (k % 12 * 2) (.int .i64 p.tick) (by omega)).set (k % 12 * 2 + 1) (.int .i64 p.val) (by simp; omega)).kept (Below.refl _ _).drew
    · exact ((HOa.out.setCell (k % 12 * 2) (.int .i64 p.tick)).setCell (k % 12 * 2 + 1) (.int .i64 p.val)).trans (Only.of_below (Below.refl _ _).drew)
  rw [hV]
  have t2 := ringL_last sl k
  rw [h12] at t2
  have t3 : (((ringL sl k).set (k % 12 * 2) (.int .i64 p.tick)).set (k % 12 * 2 + 1) (.int .i64 p.val))[12 * 2]? = some (.int .i64 (k : Int)) := by
    rw [List.getElem?_set_ne (by omega), List.getElem?_set_ne (by omega)]
    exact t2
  obtain ⟨c3, f3⟩ := cellsW_get HV.out.1 t3
  have HF : Hid (CellsW (V.setCell ⟨g, 24, none⟩ (.int .i64 ((k + 1 : Nat) : Int))) g (ringL (sl.set (k % 12) p) (k + 1)) ∧ Only g w (V.setCell ⟨g, 24, none⟩ (.int .i64 ((k + 1 : Nat) : Int)))) := by
    have h1 := HV.out.1.set 24 (.int .i64 ((k + 1 : Nat) : Int)) (by simp; omega)
    have h2 := ringL_put sl k (k % 12) p hil
    rw [h12] at h2
    rw [h2] at h1
    exact ⟨h1, HV.out.2.setCell 24 _⟩
  clear hV c0 f0 c1 f1 c2 f2 t2 t3 HV HCa HOa hlen
  have e1 : ((k + 1 : Nat) : Int) = (k : Int) + 1 := by omega
  go_wp2
  go_end0
  rw [e1] at HF
  exact ⟨rfl, HF.out.1, HF.out.2⟩

/-! ### impl.ringOf: the slots hold the points in order. -/
def slots (ps : List Pt) (k : Nat) : List Pt := ps.take k ++ List.replicate (12 - k) zeroP
theorem slots_len (ps : List Pt) (k : Nat) (hk : k ≤ ps.length) (h : ps.length ≤ 12) : (slots ps k).length = 12 := by unfold slots; simp; omega
theorem slots_put (ps : List Pt) (k : Nat) (hk : k < ps.length) (h : ps.length ≤ 12) : (slots ps k).set (k % 12) ps[k] = slots ps (k + 1) := by
  have e0 : k % 12 = k := Nat.mod_eq_of_lt (by omega)
  unfold slots
  have e : 12 - k = (12 - (k + 1)) + 1 := by omega
  have e2 : k - (ps.take k).length = 0 := by simp; omega
  rw [e0, List.set_append, if_neg (by simp; omega), e, List.replicate_succ, e2, List.set_cons_zero, List.take_succ_eq_append_getElem hk, List.append_assoc]
  rfl
def ringV (sl : List Pt) (k : Nat) : Value := .agg (ringL sl k).toArray
theorem range_of {w : World} {g : Nat} {vs : List Value} (h : CellsW w g vs) : w.rangeAt g 0 vs := fun j v hv => by rw [Nat.zero_add]; exact (cellsW_get h hv).1
theorem there_of {w : World} {g : Nat} {vs : List Value} (h : CellsW w g vs) : w.there g 0 vs.length := fun j hj => by
  rw [Nat.zero_add]
  exact ⟨by rw [(h.2 j hj).1]; rfl, (h.2 j hj).2⟩
theorem only_setCells (g : Nat) : ∀ (us : List Value) (o : Nat) (a w : World), Only g a w → Only g a (w.setCells g o us)
  | [], _, _, _, h => h
  | u :: r, o, a, w, h => only_setCells g r (o + 1) a _ (h.setCell o u)
/-- A whole row is written over. -/
theorem cellsW_over {w : World} {g : Nat} {vs us : List Value} (h : CellsW w g vs) (hl : us.length = vs.length) : CellsW (w.setCells g 0 us) g us ∧ Only g w (w.setCells g 0 us) := by
  have ho := only_setCells g us 0 w w (Only.refl g w)
  refine ⟨⟨Nat.lt_of_lt_of_le h.1 ho.size, fun j hj => ⟨?_, ?_⟩⟩, ho⟩
  · have := World.cell?_setCells_in g us 0 w (fun j hj => by rw [Nat.zero_add, (h.2 j (by omega)).1]; rfl) j hj
    rw [Nat.zero_add] at this
    exact this
  · rw [World.frozen?_setCells]; exact (h.2 j (by omega)).2
theorem cellsW_off {w w' : World} {g c : Nat} {vs : List Value} (h : CellsW w g vs) (ho : Only c w w') (hne : g ≠ c) : CellsW w' g vs :=
  ⟨Nat.lt_of_lt_of_le h.1 ho.size, fun j hj => ⟨(ho.cell h.1 hne).trans (h.2 j hj).1, (World.frozen?_of_block (w := w) (ho.block g h.1 hne)).trans (h.2 j hj).2⟩⟩
theorem info_ring : (Tryz.prog.info? 249).map (·.size) = some 25 := by kernel_rfl
theorem ret_cell {fn : Func} {p : Tmp} {ty : TypeId} (h : fn.results = #[.cell p ty]) {tmps : Array Value} {w : World} {g : Nat} {v : Value} (hp : tmps.getD p undef = .pointer (some ⟨g, 0, none⟩)) (hld : (loadVar ty ⟨g, 0, none⟩).run Tryz.prog w = .ok v w) :
    (results fn tmps).run Tryz.prog w = .ok v w := by
  have hp' : tmps[p]?.getD undef = .pointer (some ⟨g, 0, none⟩) := by simpa using hp
  simp [results, h, hp', asAddr, hld]
theorem gf_one : ∀ (sl : List Pt), (gf encP sl).all (·.oneCell') = true
  | [] => rfl
  | x :: r => by
    have := gf_one r
    rw [gf_cons, List.all_append, this]
    rfl
theorem ringL_one (sl : List Pt) (k : Nat) : (ringL sl k).toArray.all (·.oneCell') = true := by
  have := gf_one sl
  rw [List.all_toArray]
  unfold ringL
  rw [List.all_append, this]
  rfl
set_option maxHeartbeats 1000000 in
set_option maxRecDepth 20000 in
theorem ring_of (ps : List Pt) (h12 : ps.length ≤ 12) (a : Option Addr) (cap : Nat) (w : World) (h : Pts w a ps) :
    Calls Tryz.prog 188 #[.slice a ps.length cap] w fun e w' => e = .returned (ringV (slots ps ps.length) ps.length) ∧ Below w.heap.size w w' := by
  obtain ⟨b, off, ha, hb, hcell⟩ := h.cells
  have Hc := Lib.hid hcell
  have Ha := Lib.hid ha
  have Hb := Lib.hid hb
  clear hcell ha hb h
  obtain ⟨zs, hzs⟩ : ∃ zs, ringL (slots ps 0) 0 = zs := ⟨_, rfl⟩
  have hz25 : zs.length = 25 := by rw [← hzs, ringL_len, slots_len ps 0 (Nat.zero_le _) h12]
  go_enter Tryz.func188, Tryz.ntmps188
  go_wp2
  go_loopw [8] (fun i wr => ∃ k : Nat, k ≤ ps.length ∧ i = .int .i64 k ∧ Hid (CellsW wr (w.heap.size + 1) (ringL (slots ps k) k)) ∧ Hid (CellsW wr w.heap.size zs) ∧ Hid (Below w.heap.size w wr)) (fun i _ => ps.length - (intOf i).toNat)
  case atStart =>
    refine ⟨0, Nat.zero_le _, rfl, ?_, ?_, ?_⟩
    · subst hzs
      have hsz : ∀ o, (w.alloc o).heap.size = w.heap.size + 1 := fun o => by simp
      rw [← hsz]
      exact cells_new _ _ _
    · subst hzs
      exact (cells_new w _ _).kept (box_below _ _ _)
    · exact box2_below _ _ _
  case round =>
    obtain ⟨k, hk, rfl, HR, HZ, HB⟩ := hrel
    by_cases hlt : k < ps.length
    · obtain rfl := Ha.out (by omega)
      obtain ⟨q0, q1⟩ := (Hc.out k hlt).kept HB.out (Hb.out (by omega))
      obtain ⟨p, hp⟩ : ∃ p, ps[k] = p := ⟨_, rfl⟩
      rw [hp] at q0 q1
      have hput := slots_put ps k hlt h12
      rw [hp] at hput
      have HPUT := Lib.hid hput
      have hbx := box_below wr #[.int .i64 p.tick, .int .i64 p.val] 123
      have HR1 := Lib.hid (HR.out.kept hbx)
      have HZ1 := Lib.hid (HZ.out.kept hbx)
      have HB1 := Lib.hid (HB.out.trans (hbx.mono HB.out.size))
      clear hput hp hbx HR HZ
      go_wp2_with (go_at_call 212; refine (ring_put (w.heap.size + 1) (slots ps k) (slots_len ps k hk h12) k (k % 12) (by omega) rfl p _ HR1.out).mono ?_; rintro e w2 ⟨rfl, hc2, ho2⟩; have HR2 := Lib.hid hc2; have HO2 := Lib.hid ho2; clear hc2 ho2)
      have HZ2 := Lib.hid (cellsW_off HZ1.out HO2.out (by omega))
      have HB2 := Lib.hid (HB1.out.trans (HO2.out.below (Nat.le_succ _) HB1.out.size))
      rw [HPUT.out] at HR2
      clear HR1 HZ1 HB1 HO2
      go_roundw
      case rel => exact ⟨k + 1, by omega, by go_num, HR2, HZ2, HB2⟩
      case measure => simp [intOf]; omega
    · obtain rfl : k = ps.length := by omega
      have hl25 : (ringL (slots ps ps.length) ps.length).length = 25 := by rw [ringL_len, slots_len ps ps.length (Nat.le_refl _) h12]
      obtain ⟨hov, hoo⟩ := cellsW_over (us := ringL (slots ps ps.length) ps.length) HZ.out (by omega)
      have HOV := Lib.hid hov
      have HBF := Lib.hid (HB.out.trans (hoo.below (Nat.le_refl _) HB.out.size))
      clear hov hoo
      have hrng := range_of HR.out
      have hthere := there_of HZ.out
      have hone := ringL_one (slots ps ps.length) ps.length
      obtain ⟨rs, hrs⟩ : ∃ rs, ringL (slots ps ps.length) ps.length = rs := ⟨_, rfl⟩
      have HRS : Hid (ringV (slots ps ps.length) ps.length = .agg rs.toArray) := by show _ = _; unfold ringV; rw [hrs]
      rw [hrs] at HOV HBF hrng hl25 hone
      rw [hz25] at hthere
      have HH := Lib.hid hrng
      have HT := Lib.hid hthere
      clear hrng hthere HR hrs
      go_wp2_with (first
        | refine wpList_load_mid rfl 249 _ rfl (w.heap.size + 1) 0 rfl rs _ HH.out Tryz.underlying249 rfl (by rw [info_ring, hl25]) ?_
        | refine wpList_store_mid rfl 249 _ _ rfl w.heap.size 0 rs.toArray rfl rfl (by simpa [hl25] using HT.out) (by rw [info_ring]; simp [hl25]) hone ?_)
      have hld := run_loadVar_mid (P := Tryz.prog) (wr.setCells w.heap.size 0 rs) w.heap.size 0 249 rs _ (range_of HOV.out) Tryz.underlying249 rfl (by rw [info_ring, hl25])

      rw [← HRS.out] at hld
      exact bodyPost_ret (ret_cell rfl rfl hld) rfl ⟨rfl, HBF.out⟩
end Go.Proofs.YtgmdfkmmbcpikaaGreat.Ring
