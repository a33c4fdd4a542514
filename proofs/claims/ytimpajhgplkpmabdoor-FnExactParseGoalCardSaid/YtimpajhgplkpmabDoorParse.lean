/- ParseSample of chapter 2: the model's and the program's. -/
import Derived.Test.YtimpajhgplkpmabDoorParseP
import Derived.Test.YtimpajhgplkpmabDoorMp
import Derived.Laws.ResultCell
import Derived.Lib.AtoiErrMem
namespace Go.Proofs.YtimpajhgplkpmabDoor.Parse
open Go.RowKit
open Go.Proofs.YtimpajhgplkpmabDoor.C1
open Go.Proofs.YtimpajhgplkpmabDoor.C2
open Go.Proofs.YtimpajhgplkpmabDoor.Smps
open Go.Proofs.YtimpajhgplkpmabDoor.Milli
open Go.Proofs.YtimpajhgplkpmabDoor.MilliP
open Go.Proofs.YtimpajhgplkpmabDoor.Mt
open Go.Proofs.YtimpajhgplkpmabDoor.Mp
open Go.Proofs.YtimpajhgplkpmabDoor.Line
open Go.Proofs.YtimpajhgplkpmabDoor.Split
open Go.Proofs.YtimpajhgplkpmabDoor.Read
open Go.Proofs.YtimpajhgplkpmabDoor.ParseP
set_option linter.unusedVariables false

def zS : Smp := ⟨⟨#[]⟩, ⟨#[]⟩, 0, 0⟩
/-- A variable of type Sample in a block of its own. -/
structure Box (w : World) (g : Nat) (s : Smp) : Prop where
  lt : g < w.heap.size
  c0 : w.cell? ⟨g, 0, none⟩ = some (.string s.pod)
  c1 : w.cell? ⟨g, 1, none⟩ = some (.string s.met)
  c2 : w.cell? ⟨g, 2, none⟩ = some (.int .i64 s.val)
  c3 : w.cell? ⟨g, 3, none⟩ = some (.int .i64 s.tick)
  f : ∀ j, w.frozen? ⟨g, j, none⟩ = false
theorem Box.kept {w w' : World} {g : Nat} {s : Smp} (h : Box w g s) (hb : Below w.heap.size w w') : Box w' g s := by
  have hc : ∀ j, w'.cell? ⟨g, j, none⟩ = w.cell? ⟨g, j, none⟩ := fun j => hb.cell (p := ⟨g, j, none⟩) h.lt
  exact ⟨Nat.lt_of_lt_of_le h.lt hb.size, by rw [hc]; exact h.c0, by rw [hc]; exact h.c1, by rw [hc]; exact h.c2, by rw [hc]; exact h.c3, fun j => by rw [hb.frozen (p := ⟨g, j, none⟩) h.lt]; exact h.f j⟩
def Out (l : List UInt8) (w w' : World) (e : Ending) : Prop := ∃ (s : Smp) (b : Bool), e = .returned (.tuple #[smpV s, .bool b]) ∧ Picks l s b ∧ s.wf ∧ Below w.heap.size w w'
theorem out_of {l : List UInt8} {w w' : World} {e : Ending} (s : Smp) (b : Bool) (h : e = .returned (.tuple #[smpV s, .bool b])) (p : Picks l s b) (hw : s.wf) (hb : Below w.heap.size w w') : Out l w w' e := ⟨s, b, h, p, hw, hb⟩
theorem zS_wf : zS.wf := ⟨by unfold maxLen; decide, by unfold maxLen; decide, by decide, by decide⟩
theorem box_set {w : World} {g : Nat} {s0 : Smp} (s : Smp) (h : Box w g s0) {B : Nat} (hB : B ≤ g) : Box ((((w.setCell ⟨g, 0, none⟩ (.string s.pod)).setCell ⟨g, 1, none⟩ (.string s.met)).setCell ⟨g, 2, none⟩ (.int .i64 s.val)).setCell ⟨g, 3, none⟩ (.int .i64 s.tick)) g s ∧ Below B w ((((w.setCell ⟨g, 0, none⟩ (.string s.pod)).setCell ⟨g, 1, none⟩ (.string s.met)).setCell ⟨g, 2, none⟩ (.int .i64 s.val)).setCell ⟨g, 3, none⟩ (.int .i64 s.tick)) := by
  obtain ⟨h1, c0, c1, c2, c3, f⟩ := h
  refine ⟨⟨by simpa [World.setCell] using h1, ?_, ?_, ?_, ?_, fun j => ?_⟩, ((((Below.refl B w).setCell (p := ⟨g, 0, none⟩) hB _).setCell (p := ⟨g, 1, none⟩) hB _).setCell (p := ⟨g, 2, none⟩) hB _).setCell (p := ⟨g, 3, none⟩) hB _⟩
  · rw [World.cell?_setCell_other (h := by simp), World.cell?_setCell_other (h := by simp), World.cell?_setCell_other (h := by simp), World.cell?_setCell_same (h := c0)]
  · rw [World.cell?_setCell_other (h := by simp), World.cell?_setCell_other (h := by simp), World.cell?_setCell_same (h := by rw [World.cell?_setCell_other (h := by simp)]; exact c1)]
  · rw [World.cell?_setCell_other (h := by simp), World.cell?_setCell_same (h := by rw [World.cell?_setCell_other (h := by simp), World.cell?_setCell_other (h := by simp)]; exact c2)]
  · rw [World.cell?_setCell_same (h := by rw [World.cell?_setCell_other (h := by simp), World.cell?_setCell_other (h := by simp), World.cell?_setCell_other (h := by simp)]; exact c3)]
  · rw [World.frozen?_setCell, World.frozen?_setCell, World.frozen?_setCell, World.frozen?_setCell]; exact f j
theorem four_of {ps : List (List UInt8)} (h : ps.length = 4) : ∃ a b d e, ps = [a, b, d, e] := by
  match ps, h with
  | [a, b, d, e], _ => exact ⟨a, b, d, e, rfl⟩
theorem four_read {w : World} {v : Value} {a b d e : List UInt8} (h : IsT w v [a, b, d, e]) : ∃ g off cap, v = .slice (some ⟨g, off, none⟩) 4 cap ∧ g < w.heap.size ∧ w.cell? ⟨g, off, none⟩ = some (.string (mk a)) ∧ w.cell? ⟨g, off + 1, none⟩ = some (.string (mk b)) ∧ w.cell? ⟨g, off + 2, none⟩ = some (.string (mk d)) ∧ w.cell? ⟨g, off + 3, none⟩ = some (.string (mk e)) := by
  obtain ⟨ad, cap, rfl, hc⟩ := h
  obtain ⟨g, off, rfl, hg, c0⟩ := hc 0 (by simp)
  obtain ⟨g1, off1, e1, _, c1⟩ := hc 1 (by simp)
  obtain ⟨g2, off2, e2, _, c2⟩ := hc 2 (by simp)
  obtain ⟨g3, off3, e3, _, c3⟩ := hc 3 (by simp)
  cases e1; cases e2; cases e3
  exact ⟨g, off, cap, rfl, hg, c0, c1, c2, c3⟩

theorem atoi_yes (e : List UInt8) (he : (mk e).size ≤ 1048576) (y : Int) (h : Lib.atoiAll e = .ok y) (w : World) :
    Calls Tryd.prog 30 #[.string (mk e)] w fun r w' => r = .returned (.tuple #[.int .i64 y, .nilIface]) ∧ Below w.heap.size w w' := by
  have h2 : Lib.atoiAll (mk e).data.toList = .ok y := by rw [mk_list]; exact h
  have h3 : (mk e).size ≤ 9223372036854775806 := by omega
  refine (Tryd.strconv_Atoi_ok (mk e) h3 y h2 w).mono fun r w' hr => ⟨hr.1, ?_⟩
  rcases hr.2 with hw | ⟨t, hw⟩
  · rw [hw]; exact Below.refl _ _
  · rw [hw]; exact Lib.bytesWorld_below _ _ _
theorem atoi_no (e : List UInt8) (he : (mk e).size ≤ 1048576) (h : ∀ y, Lib.atoiAll e ≠ .ok y) (w : World) (hw : Env2 w) :
    Calls Tryd.prog 30 #[.string (mk e)] w fun r w' => ∃ y N, r = .returned (.tuple #[.int .i64 y, .iface 72 (.pointer (some ⟨N, 0, none⟩))]) ∧ Below w.heap.size w w' := by
  have h2 : (mk e).size ≤ 281474976710656 := by omega
  cases hq : Lib.atoiAll e
  · exact absurd hq (h _)
  · obtain ⟨tp, p, hv⟩ := hw.syn
    have hk : Calls Tryd.prog 30 #[.string (mk e)] w fun r w' => ∃ N, r = .returned (.tuple #[.int .i64 0, .iface 72 (.pointer (some ⟨N, 0, none⟩))]) ∧ w.heap.size ≤ N ∧ w'.heap[N]? = some (.cells #[.string ⟨#[65, 116, 111, 105]⟩, .string (mk e), .iface tp p] 93 (0, 0)) ∧ Below w.heap.size w w' :=
      Any.strconv_Atoi_syntax_var Tryd.laysC172 (mk e) h2 (by rw [mk_list]; exact hq) tp p w hv
    refine hk.mono ?_
    rintro r w' ⟨N, rfl, _, _, hb⟩
    exact ⟨_, N, rfl, hb⟩
  · obtain ⟨tp, p, hv⟩ := hw.rng
    refine (Tryd.strconv_Atoi_range_var (mk e) h2 (by rw [mk_list]; exact hq) tp p w hv).mono ?_
    rintro r w' ⟨N, rfl, _, _, hb⟩
    exact ⟨_, N, rfl, hb⟩
theorem atoi_some (e : List UInt8) (he : (mk e).size ≤ 1048576) (w : World) (hw : Env2 w) :
    Calls Tryd.prog 30 #[.string (mk e)] w fun r w' => ∃ y ev, r = .returned (.tuple #[.int .i64 y, ev]) ∧ Below w.heap.size w w' := by
  by_cases h : ∃ y, Lib.atoiAll e = .ok y
  · obtain ⟨y, h⟩ := h
    refine (atoi_yes e he y h w).mono ?_
    rintro r w' ⟨rfl, hb⟩
    exact ⟨_, _, rfl, hb⟩
  · refine (atoi_no e he (fun y hy => h ⟨y, hy⟩) w hw).mono ?_
    rintro r w' ⟨y, N, rfl, hb⟩
    exact ⟨_, _, rfl, hb⟩

end Go.Proofs.YtimpajhgplkpmabDoor.Parse
