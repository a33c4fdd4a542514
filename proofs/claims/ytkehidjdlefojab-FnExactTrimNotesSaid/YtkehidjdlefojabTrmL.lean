/- TrimNotes, as its law meets it. -/
import Derived.Test.YtkehidjdlefojabTrmI
namespace Go.Proofs.Ytkehidjdlefojab.TrmL
open Go.RowKit Go.Sort Go.BigFrame
open Go.Proofs.Ytkehidjdlefojab.C1
open Go.Proofs.Ytkehidjdlefojab.C2
open Go.Proofs.Ytkehidjdlefojab.Mem
open Go.Proofs.Ytkehidjdlefojab.Ser
open Go.Proofs.Ytkehidjdlefojab.Nt
open Go.Proofs.Ytkehidjdlefojab.Trm
open Go.Proofs.Ytkehidjdlefojab.TrmI
set_option linter.unusedVariables false

theorem spec_trim2 (ms : List Pt) (a : Option Addr) (cap : Nat) (now per : Int) (w : World) (h : Pts w a ms) (hm : ms.length ≤ 1048576) (ns : List Pt) (hns : trmV ms now per = ns) :
    Calls Try.prog 28 #[.slice a ms.length cap, .int .i64 now, .int .i64 per] w fun e w' => (∃ aw cw, e = .returned (.slice aw ns.length cw) ∧ OwnP w' w.heap.size (.slice aw ns.length cw) ns) ∧ Below w.heap.size w w' :=
  (spec_trim ms a cap now per w h hm).mono fun e w' ⟨v, he, ho, hb⟩ => by
    rw [hns] at ho
    obtain ⟨aw, cw, rfl⟩ := own_form ho
    exact ⟨⟨aw, cw, he, ho⟩, hb⟩
theorem impl_trim2 (ms : List Pt) (a : Option Addr) (cap : Nat) (now per : Int) (w : World) (h : Pts w a ms) (hm : ms.length ≤ 1048576) (ns : List Pt) (hns : trmV ms now per = ns) :
    Calls Try.prog 29 #[.slice a ms.length cap, .int .i64 now, .int .i64 per] w fun e w' => (∃ aw cw, e = .returned (.slice aw ns.length cw) ∧ OwnP w' w.heap.size (.slice aw ns.length cw) ns) ∧ Below w.heap.size w w' :=
  (impl_trim ms a cap now per w h hm).mono fun e w' ⟨v, he, ho, hb⟩ => by
    rw [hns] at ho
    obtain ⟨aw, cw, rfl⟩ := own_form ho
    exact ⟨⟨aw, cw, he, ho⟩, hb⟩
theorem only_below {a : Option Addr} {w w' : World} (h : OnlyA a w w') {b : Nat} {x : World} (hb : Below b x w) (hlt : ∀ c o s, a = some ⟨c, o, s⟩ → b ≤ c) (h2 : b ≤ w.heap.size) : Below b x w' := by
  cases ha : a with
  | none => rw [h.1 ha]; exact hb
  | some p =>
    obtain ⟨c, o, s⟩ := p
    exact hb.trans ((h.2 c o s ha).below (hlt c o s ha) h2)
theorem own_off {w w' : World} {B g n cap : Nat} {a : Option Addr} {ps : List Pt} (h : OwnP w B (.slice a n cap) ps) (ho : OnlyA (some ⟨g, 0, none⟩) w w') (hg : g < B) : OwnP w' B (.slice a n cap) ps :=
  h.off (ho.2 _ _ _ rfl) (fun b o s e => by rw [e] at h; have := h.lt; omega)
theorem mark2 (ps : List Pt) (a : Option Addr) (cap B q : Nat) (hq : 1 + 2 * ps.length = q) (hk : q ≤ 100000000) (w : World) (h : OwnP w B (.slice a ps.length cap) ps) :
    Calls Try.prog 30 #[.slice a ps.length cap, .int .i64 1] w fun e w' => e = .returned (.int .i64 (q : Int)) ∧ OwnP w' B (.slice a ps.length cap) (mkP 1 ps.length) ∧ OnlyA a w w' := by
  subst hq
  exact mark_points ps a cap B 1 (by omega) (by omega) w h
theorem held2 (n : Nat) (a : Option Addr) (cap B q : Nat) (hq : 1 + 2 * n = q) (hk : q ≤ 100000000) (w : World) (h : OwnP w B (.slice a n cap) (mkP 1 n)) :
    Calls Try.prog 31 #[.slice a n cap, .int .i64 1] w fun e w' => e = .returned (.int .i64 (q : Int)) ∧ Below w.heap.size w w' := by
  subst hq
  exact held_points n a cap B 1 (by omega) (by omega) w h
theorem own_blk {w : World} {B n cap : Nat} {a : Option Addr} {ps : List Pt} (h : OwnP w B (.slice a n cap) ps) : ∀ c o s, a = some ⟨c, o, s⟩ → B ≤ c := fun c o s e => by
  rw [e] at h
  exact h.lt.1
end Go.Proofs.Ytkehidjdlefojab.TrmL
