/- The model's NotesOk and MovesOk. -/
import Derived.Test.YtcjjdnfikccnmaaDoorBhM
import Derived.BigQuiet
import Derived.BigFrame
namespace Go.Proofs.YtcjjdnfikccnmaaDoor.LogS
open Go.RowKit Go.Sort Go.BigFrame
open Go.Proofs.YtcjjdnfikccnmaaDoor.C1
open Go.Proofs.YtcjjdnfikccnmaaDoor.C2
open Go.Proofs.YtcjjdnfikccnmaaDoor.Smps
open Go.Proofs.YtcjjdnfikccnmaaDoor.Mem
open Go.Proofs.YtcjjdnfikccnmaaDoor.Ser
open Go.Proofs.YtcjjdnfikccnmaaDoor.BhM
set_option linter.unusedVariables false

theorem in_later {W : World} (x a c : Int) {b : Bool} (hb : inV x a c = b) (q : Later W) :
    Calls Tryd.prog 16 #[.int .i64 x, .int .i64 a, .int .i64 c] q.u fun e w' => e = .returned (.bool b) ∧ Below q.u.heap.size q.u w' :=
  (C2.spec_in x a c q.u).mono fun e w' ⟨he, hw⟩ => ⟨by rw [he, ← hb]; rfl, by rw [← hw]; exact Below.refl _ _⟩
theorem spec_in6 (x a c : Int) (w : World) : Calls Tryd.prog 16 #[.int .i64 x, .int .i64 a, .int .i64 c] w fun e w' => e = .returned (.bool (inV x a c)) ∧ w = w' := C2.spec_in x a c w
end Go.Proofs.YtcjjdnfikccnmaaDoor.LogS
