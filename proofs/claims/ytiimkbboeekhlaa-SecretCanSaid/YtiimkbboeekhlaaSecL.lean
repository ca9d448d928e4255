/- What the laws of layer 4 show first. -/
import Derived.Test.YtiimkbboeekhlaaSecC
namespace Go.Proofs.Ytiimkbboeekhlaa
open Go.RowKit
set_option linter.unusedVariables false

set_option maxRecDepth 100000 in
set_option maxHeartbeats 2000000 in
theorem shown4_any (w : World) : Calls Try.prog 6 #[] w fun ex w' => ex = .returned (.bool true) ∧ Fr No w w' := by
  have h1 := fun X => can_any 8 11 X
  have h2 := fun X => can_any 8 16 X
  have h3 := fun X => place_any 8 X
  rw [show can 8 11 = true by decide] at h1
  rw [show can 8 16 = false by decide] at h2
  rw [show place 8 = 3 by decide] at h3
  go_enter Try.func6, Try.ntmps6
  go_wp2_with fail
  refine (h1 _).mono ?_
  rintro ex w1 ⟨rfl, hF⟩
  have F1 := Lib.hid hF
  clear hF
  go_wp2_with fail
  refine (h2 _).mono ?_
  rintro ex w2 ⟨rfl, hF⟩
  have F2 := Lib.hid (F1.out.trans hF)
  clear hF
  go_wp2_with fail
  refine (h3 _).mono ?_
  rintro ex w3 ⟨rfl, hF⟩
  have F3 := Lib.hid (F2.out.trans hF)
  clear hF
  go_wp2
  go_ret
  exact ⟨rfl, F3.out⟩
end Go.Proofs.Ytiimkbboeekhlaa
