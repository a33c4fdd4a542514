/- The model's SortSamples, walked: its list holds sortS. -/
import Derived.Test.YtahhemgmlmhbjaaSortI
namespace Go.Proofs.Ytahhemgmlmhbjaa.SortJ
open Go.Shelf Go.RowKit Go.Lib Go.Sort
open Go.Proofs.Ytahhemgmlmhbjaa.C1
open Go.Proofs.Ytahhemgmlmhbjaa.C2
open Go.Proofs.Ytahhemgmlmhbjaa.Smps
open Go.Proofs.Ytahhemgmlmhbjaa.StM
open Go.Proofs.Ytahhemgmlmhbjaa.Cmp
open Go.Proofs.Ytahhemgmlmhbjaa.Sort
open Go.Proofs.Ytahhemgmlmhbjaa.SortM
open Go.Proofs.Ytahhemgmlmhbjaa.SortP
open Go.Proofs.Ytahhemgmlmhbjaa.SortS
open Go.Proofs.Ytahhemgmlmhbjaa.SortD
open Go.Proofs.Ytahhemgmlmhbjaa.SortI
set_option linter.unusedVariables false

set_option maxHeartbeats 800000 in
theorem spec_sort (xs : List Smp) (hwf : ∀ s ∈ xs, s.wf) (a : Option Addr) (cap : Nat) (w : World) (h : Smps w a xs) (hm : xs.length ≤ 1048576) :
    Calls Try.prog 15 #[.slice a xs.length cap] w fun e w' => (300 < xs.length ∧ e = .returned (.slice none 0 0) ∨ xs.length ≤ 300 ∧ ∃ v, e = .returned v ∧ OwnS w' w.heap.size v (sortS xs)) ∧ Below w.heap.size w w' := by
  have hbel : Hid (Below w.heap.size w (w.alloc (.cells #[] 27))) := (Below.refl _ _).alloc (Nat.le_refl _) _
  by_cases hbig : 300 < xs.length
  · go_enter Try.func15, Try.ntmps15
    go_wp2
    go_ret
    exact ⟨.inl ⟨hbig, rfl⟩, hbel.out⟩
  · have mixed : Try.prog.follows .mixedOrders = true := by kernel_rfl
    have hm2 : xs.length ≤ 300 := by omega
    obtain ⟨b, off, ha, hb, hcell⟩ := h.cells
    obtain ⟨i0, hi0, hz0, hz1, hz2⟩ := info_smp2
    have Hc := Lib.hid hcell
    have Ha := Lib.hid ha
    have Hb := Lib.hid hb
    have HW := Lib.hid hwf
    clear hcell ha hb h hbig hwf
    have HS0 := Lib.hid (new_row w)
    go_enter Try.func15, Try.ntmps15
    go_wp2
    go_loopw [3, 4] (fun v i wr => ∃ k : Nat, k ≤ xs.length ∧ i = .int .i64 k ∧ Hid (OwnS wr w.heap.size v (specS xs k)) ∧ Hid (Below w.heap.size w wr)) (fun _ i _ => xs.length - (intOf i).toNat)
    case atStart => exact ⟨0, Nat.zero_le _, rfl, HS0.out, hbel⟩
    case round =>
      revert wr
      intro wz hrel
      obtain ⟨k, hk, rfl, HO, HB⟩ := hrel
      by_cases hlt : k < xs.length
      · obtain rfl := Ha.out (by omega)
        obtain ⟨ao, co, rfl, hso⟩ := HO.out.smps
        obtain ⟨bo, fo, hao, hbo, hco⟩ := hso.cells
        have HAO := Lib.hid hao
        have HBO := Lib.hid hbo
        have HCO := Lib.hid hco
        obtain ⟨x, hx⟩ : ∃ x, xs[k] = x := ⟨_, rfl⟩
        have hxk : xs.getD k default = x := by simp [List.getD_eq_getElem?_getD, hlt, hx]
        obtain ⟨os, hos⟩ : ∃ os, specS xs k = os := ⟨_, rfl⟩
        have hol : os.length = k := by rw [← hos, specS_len]
        have HOL := Lib.hid hol
        have HNX : Hid (specS xs (k + 1) = insR ltS x os) := by show _ = _; rw [← hxk, ← hos]; rfl
        have HOW : Hid (∀ s ∈ os, s.wf) := by rw [← hos]; exact specS_wf HW.out k hk
        have HXW : Hid x.wf := by rw [← hx]; exact HW.out _ (List.getElem_mem _)
        rw [hos] at HO HAO HBO HCO ⊢
        have HX := Lib.hid hx
        have HB1 : Hid (Below wz.heap.size wz (wz.alloc (.cells #[] 27))) := (Below.refl _ _).alloc (Nat.le_refl _) _
        have HS1 := Lib.hid (new_row wz)
        clear hx hxk hos hol hso hao hbo hco
        have hol3 : os.length ≤ 300 := by have := HOL.out; omega
        go_wp2
        go_loopw [5, 6, 7] (fun vn vp vk wi => ∃ (j : Nat) (p : Bool) (ns : List Smp), vp = .bool p ∧ vk = .int .i64 j ∧ j ≤ os.length ∧ Hid (OwnS wi wz.heap.size vn ns ∧ Below wz.heap.size wz wi ∧ (os.take j).foldl (stepI ltS x) ([], false) = (ns, p))) (fun _ _ vk _ => os.length - (intOf vk).toNat)
        case atStart => exact ⟨0, false, [], rfl, rfl, Nat.zero_le _, HS1.out, HB1.out, by simp⟩
        case round =>
          obtain ⟨j, p, ns, rfl, rfl, hj, HI⟩ := hrel
          have hnl : ns.length ≤ 301 := by
            have := fold_len ltS x (os.take j) ([], false)
            rw [HI.out.2.2] at this
            simp at this
            omega
          by_cases hlt2 : j < os.length
          · obtain rfl := HAO.out (by omega)
            have hwi := HI.out.2.1.size
            obtain ⟨y, hy⟩ : ∃ y, os[j] = y := ⟨_, rfl⟩
            have hbi := Nat.lt_of_lt_of_le (HBO.out (by omega)) hwi
            have hbx := Nat.lt_of_lt_of_le (Hb.out (by omega)) (Nat.le_trans HB.out.size hwi)
            have hcy : At4 wr bo (fo + j * 4) y := by rw [← hy]; exact (HCO.out j hlt2).kept HI.out.2.1 (HBO.out (by omega))
            have hcx : At4 wr b (off + k * 4) x := by rw [← HX.out]; exact ((Hc.out k hlt).kept HB.out (Hb.out (by omega))).kept HI.out.2.1 (Nat.lt_of_lt_of_le (Hb.out (by omega)) HB.out.size)
            have HYW : Hid y.wf := by rw [← hy]; exact HOW.out _ (List.getElem_mem _)
            have hfs : Hid ((os.take (j + 1)).foldl (stepI ltS x) ([], false) = stepI ltS x (ns, p) y) := by
              show _ = _
              rw [List.take_succ_eq_append_getElem hlt2, List.foldl_append, HI.out.2.2, hy]; rfl
            have HIO := Lib.hid HI.out.1
            have HIB := Lib.hid HI.out.2.1
            have HY := Lib.hid hy
            clear HI hy
            obtain ⟨g0, g1, g2, g3⟩ := hcy.grown hbi
            obtain ⟨f0, f1, f2, f3⟩ := hcx.grown hbx
            have HBI := Lib.hid hbi
            have HBX := Lib.hid hbx
            have HCY := Lib.hid hcy
            have HCX := Lib.hid hcx
            clear hbi hbx hcy hcx
            by_cases hp : p = false ∧ ltS x y = true
            · obtain ⟨rfl, hlx⟩ := hp
              have HN : Hid ((os.take (j + 1)).foldl (stepI ltS x) ([], false) = (ns ++ [x] ++ [y], true)) := by
                show _ = _
                rw [hfs.out]; simp [stepI, hlx]
              have hcall : ∀ n os', Calls Try.prog 34 #[.agg #[.string x.pod, .string x.met, .int .i64 x.val, .int .i64 x.tick], .agg #[.string y.pod, .string y.met, .int .i64 y.val, .int .i64 y.tick]] (grow (wr.drewN n) os') fun e w' => e = .returned (.bool true) ∧ ∃ q os'', w' = grow ((grow (wr.drewN n) os').drewN q) os'' := fun n os' => by
                have := spec_ahead x y HXW.out HYW.out (grow (wr.drewN n) os')
                rw [show decide (cfS x y < 0) = true from hlx] at this
                exact this
              clear hlx hfs
              go_wp2_with fail
              go_quiet_grown (first | (go_at_call 34; refine Calls.grown_of (hcall _ _)))
              clear hcall g0 g1 g2 g3 f0 f1 f2 f3
              obtain ⟨W, hW⟩ : ∃ W, grow (wr.drewN nq) osq = W := ⟨_, rfl⟩
              have hbW : Below wr.heap.size wr W := by rw [← hW]; exact below_grow (Below.refl _ _) (Nat.le_refl _) nq osq
              rw [hW]
              have HOW1 := Lib.hid (HIO.out.kept hbW)
              have HBW1 := Lib.hid (HIB.out.trans (hbW.mono HIB.out.size))
              obtain ⟨x0, x1, x2, x3⟩ := HCX.out.kept hbW HBX.out
              have HCY1 := Lib.hid (HCY.out.kept hbW HBI.out)
              have HBI1 := Lib.hid (Nat.lt_of_lt_of_le HBI.out hbW.size)
              have HLW := Lib.hid hbW.size
              clear hW hbW
              go_wp2_with (at_builtin; refine wpList_append_own _ rfl _ _ 32 rfl wz.heap.size 27 i0 (smpV zeroS) 4 48 Try.underlying32 hi0 hz0 hz1 hz2 rfl (by decide) _ _ _ rfl (World.ownsRow.alloc HOW1.out _) ⟨W.heap.size, 0, none⟩ 1 1 [.string x.pod, .string x.met, .int .i64 x.val, .int .i64 x.tick] rfl rfl ?e1 ?e2 ?e3 ?e4 ?e5 ?_)
              case e1 => exact four_cells _ _ _
              case e2 => exact four_one _
              case e3 => unfold maxLen; omega
              case e4 => omega
              case e5 => have := HBW1.out.size; first | omega | (simp; omega)
              intro v' w8 hown' hgrow _
              have HO8 := Lib.hid (OwnS.snoc hown')
              have hrow : ∀ g, Value.ownBlock _ = some g → wz.heap.size ≤ g := fun g hg => (World.ownsRow.lt HOW1.out g hg).1
              have HB8 := Lib.hid ((HBW1.out.alloc HBW1.out.size _).grown hgrow (by have := HBW1.out.size; simp; omega) hrow)
              clear hown' hgrow hrow HOW1 HBW1 HLW HBI1 HCY1 x0 x1 x2 x3
              have hw8 := HB8.out.size
              have hb8 := Nat.lt_of_lt_of_le (HBO.out (by omega)) hw8
              obtain ⟨y0, y1, y2, y3⟩ : At4 w8 bo (fo + j * 4) y := by rw [← HY.out]; exact (HCO.out j hlt2).kept HB8.out (HBO.out (by omega))
              go_wp2_with (at_builtin; refine wpList_append_own _ rfl _ _ 32 rfl wz.heap.size 27 i0 (smpV zeroS) 4 48 Try.underlying32 hi0 hz0 hz1 hz2 rfl (by decide) _ _ _ rfl (World.ownsRow.alloc HO8.out _) ⟨w8.heap.size, 0, none⟩ 1 1 [.string y.pod, .string y.met, .int .i64 y.val, .int .i64 y.tick] rfl rfl ?e1 ?e2 ?e3 ?e4 ?e5 ?_)
              case e1 => exact four_cells _ _ _
              case e2 => exact four_one _
              case e3 => simp; unfold maxLen; omega
              case e4 => simp; omega
              case e5 => first | omega | (simp; omega)
              intro v9 w9 hown9 hgrow9 _
              have HO9 := Lib.hid (OwnS.snoc (xs := ns ++ [x]) (by rw [List.length_append]; exact hown9))
              have hrow9 : ∀ g, Value.ownBlock _ = some g → wz.heap.size ≤ g := fun g hg => (World.ownsRow.lt HO8.out g hg).1
              have HB9 := Lib.hid ((HB8.out.alloc HB8.out.size _).grown hgrow9 (by have := HB8.out.size; simp; omega) hrow9)
              clear hown9 hgrow9 hrow9
              go_wp2
              go_roundw
              case rel => exact ⟨j + 1, true, _, rfl, by go_num, by omega, HO9.out, HB9.out, HN.out⟩
              case measure => simp [intOf]; omega
            · have HN : Hid ((os.take (j + 1)).foldl (stepI ltS x) ([], false) = (ns ++ [y], p)) := by
                show _ = _
                rw [hfs.out]
                unfold stepI
                rw [if_neg]
                intro h
                simp only [Bool.and_eq_true, Bool.not_eq_true'] at h
                exact hp h
              clear hfs
              obtain ⟨hcall, hpf⟩ : (∀ n os', Calls Try.prog 34 #[.agg #[.string x.pod, .string x.met, .int .i64 x.val, .int .i64 x.tick], .agg #[.string y.pod, .string y.met, .int .i64 y.val, .int .i64 y.tick]] (grow (wr.drewN n) os') fun e w' => e = .returned (.bool (ltS x y)) ∧ ∃ q os'', w' = grow ((grow (wr.drewN n) os').drewN q) os'') ∧ (p = true ∨ p = false ∧ ltS x y = false) := by
                refine ⟨fun n os' => spec_ahead x y HXW.out HYW.out (grow (wr.drewN n) os'), ?_⟩
                cases p
                · exact .inr ⟨rfl, by
                    cases hl : ltS x y
                    · rfl
                    · exact absurd ⟨rfl, hl⟩ hp⟩
                · exact .inl rfl
              clear hp
              rcases hpf with rfl | ⟨rfl, hlx⟩
              · clear hcall g0 g1 g2 g3 f0 f1 f2 f3
                go_wp2_with fail
                go_big_region_o
                obtain ⟨W, hW⟩ : ∃ W, wr.drew = W := ⟨_, rfl⟩
                have hbW : Below wr.heap.size wr W := by rw [← hW]; exact (Below.refl _ _).drew
                rw [hW]
                have HOW1 := Lib.hid (HIO.out.kept hbW)
                have HBW1 := Lib.hid (HIB.out.trans (hbW.mono HIB.out.size))
                obtain ⟨y0, y1, y2, y3⟩ := HCY.out.kept hbW HBI.out
                have hlW := HBW1.out.size
                clear hW hbW
                go_wp2_with (at_builtin; refine wpList_append_own _ rfl _ _ 32 rfl wz.heap.size 27 i0 (smpV zeroS) 4 48 Try.underlying32 hi0 hz0 hz1 hz2 rfl (by decide) _ _ _ rfl (World.ownsRow.alloc HOW1.out _) ⟨W.heap.size, 0, none⟩ 1 1 [.string y.pod, .string y.met, .int .i64 y.val, .int .i64 y.tick] rfl rfl ?e1 ?e2 ?e3 ?e4 ?e5 ?_)
                case e1 => exact four_cells _ _ _
                case e2 => exact four_one _
                case e3 => unfold maxLen; omega
                case e4 => omega
                case e5 => first | omega | (simp; omega)
                intro v' w8 hown' hgrow _
                have HO8 := Lib.hid (OwnS.snoc hown')
                have hrow : ∀ g, Value.ownBlock _ = some g → wz.heap.size ≤ g := fun g hg => (World.ownsRow.lt HOW1.out g hg).1
                have HB8 := Lib.hid ((HBW1.out.alloc HBW1.out.size _).grown hgrow (by have := HBW1.out.size; simp; omega) hrow)
                clear hown' hgrow hrow
                go_wp2
                go_roundw
                case rel => exact ⟨j + 1, _, _, rfl, by go_num, by omega, HO8.out, HB8.out, HN.out⟩
                case measure => simp [intOf]; omega
              · rw [hlx] at hcall
                clear hlx
                go_wp2_with fail
                go_quiet_grown (first | (go_at_call 34; refine Calls.grown_of (hcall _ _)))
                clear hcall g0 g1 g2 g3 f0 f1 f2 f3
                obtain ⟨W, hW⟩ : ∃ W, grow (wr.drewN nq) osq = W := ⟨_, rfl⟩
                have hbW : Below wr.heap.size wr W := by rw [← hW]; exact below_grow (Below.refl _ _) (Nat.le_refl _) nq osq
                rw [hW]
                have HOW1 := Lib.hid (HIO.out.kept hbW)
                have HBW1 := Lib.hid (HIB.out.trans (hbW.mono HIB.out.size))
                obtain ⟨y0, y1, y2, y3⟩ := HCY.out.kept hbW HBI.out
                have hlW := HBW1.out.size
                clear hW hbW
                go_wp2_with (at_builtin; refine wpList_append_own _ rfl _ _ 32 rfl wz.heap.size 27 i0 (smpV zeroS) 4 48 Try.underlying32 hi0 hz0 hz1 hz2 rfl (by decide) _ _ _ rfl (World.ownsRow.alloc HOW1.out _) ⟨W.heap.size, 0, none⟩ 1 1 [.string y.pod, .string y.met, .int .i64 y.val, .int .i64 y.tick] rfl rfl ?e1 ?e2 ?e3 ?e4 ?e5 ?_)
                case e1 => exact four_cells _ _ _
                case e2 => exact four_one _
                case e3 => unfold maxLen; omega
                case e4 => omega
                case e5 => first | omega | (simp; omega)
                intro v' w8 hown' hgrow _
                have HO8 := Lib.hid (OwnS.snoc hown')
                have hrow : ∀ g, Value.ownBlock _ = some g → wz.heap.size ≤ g := fun g hg => (World.ownsRow.lt HOW1.out g hg).1
                have HB8 := Lib.hid ((HBW1.out.alloc HBW1.out.size _).grown hgrow (by have := HBW1.out.size; simp; omega) hrow)
                clear hown' hgrow hrow
                go_wp2
                go_roundw
                case rel => exact ⟨j + 1, _, _, rfl, by go_num, by omega, HO8.out, HB8.out, HN.out⟩
                case measure => simp [intOf]; omega
          · have hje : j = os.length := by omega
            have hfin : Hid (specS xs (k + 1) = if p then ns else ns ++ [x]) := by
              show _ = _
              have h1 := fold_ins ltS x os []
              have h2 := HI.out.2.2
              rw [hje, List.take_length] at h2
              rw [h2] at h1
              rw [HNX.out]
              simpa using h1.symm
            have HIO := Lib.hid HI.out.1
            have HIB := Lib.hid HI.out.2.1
            have hlen : specS xs (k + 1) = specS xs (k + 1) := rfl
            clear HI hlen
            have hwi := HIB.out.size
            have hbx := Nat.lt_of_lt_of_le (Hb.out (by omega)) (Nat.le_trans HB.out.size hwi)
            obtain ⟨x0, x1, x2, x3⟩ : At4 wr b (off + k * 4) x := by rw [← HX.out]; exact ((Hc.out k hlt).kept HB.out (Hb.out (by omega))).kept HIB.out (Nat.lt_of_lt_of_le (Hb.out (by omega)) HB.out.size)
            clear hje
            cases p
            · go_wp2_with (at_builtin; refine wpList_append_own _ rfl _ _ 32 rfl wz.heap.size 27 i0 (smpV zeroS) 4 48 Try.underlying32 hi0 hz0 hz1 hz2 rfl (by decide) _ _ _ rfl (World.ownsRow.alloc HIO.out _) ⟨wr.heap.size, 0, none⟩ 1 1 [.string x.pod, .string x.met, .int .i64 x.val, .int .i64 x.tick] rfl rfl ?e1 ?e2 ?e3 ?e4 ?e5 ?_)
              case e1 => exact four_cells _ _ _
              case e2 => exact four_one _
              case e3 => unfold maxLen; omega
              case e4 => omega
              case e5 => first | omega | (simp; omega)
              intro v' w8 hown' hgrow _
              have HO8 := Lib.hid (OwnS.snoc hown')
              have hrow : ∀ g, Value.ownBlock _ = some g → wz.heap.size ≤ g := fun g hg => (World.ownsRow.lt HIO.out g hg).1
              have HB8 := Lib.hid ((HIB.out.alloc HIB.out.size _).grown hgrow (by have := HIB.out.size; simp; omega) hrow)
              clear hown' hgrow hrow
              go_wp2
              go_roundw
              case rel => exact ⟨k + 1, by omega, by go_num, by show OwnS _ _ _ _; rw [hfin.out]; exact Go.Joins.ownsRow_le HO8.out HB.out.size, HB.out.trans (HB8.out.mono HB.out.size)⟩
              case measure => simp [intOf]; omega
            · go_wp2
              go_roundw
              case rel => exact ⟨k + 1, by omega, by go_num, by show OwnS _ _ _ _; rw [hfin.out]; exact Go.Joins.ownsRow_le HIO.out HB.out.size, HB.out.trans (HIB.out.mono HB.out.size)⟩
              case measure => simp [intOf]; omega
      · obtain rfl : k = xs.length := by omega
        have HF : Hid (OwnS wz w.heap.size u3 (sortS xs)) := by rw [← specS_sort]; exact HO.out
        clear HO
        go_wp2
        go_ret
        exact ⟨.inr ⟨hm2, _, rfl, HF.out⟩, HB.out⟩
end Go.Proofs.Ytahhemgmlmhbjaa.SortJ
