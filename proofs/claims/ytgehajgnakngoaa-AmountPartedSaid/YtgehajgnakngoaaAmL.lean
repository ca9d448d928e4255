/- What the laws of layer 6 show first. -/
import Derived.Test.YtgehajgnakngoaaAmF
namespace Go.Proofs.Ytgehajgnakngoaa
open Go.RowKit
set_option linter.unusedVariables false

set_option maxRecDepth 100000 in
set_option maxHeartbeats 1000000 in
theorem shown6_any (w : World) : Calls Try.prog 9 #[] w fun e w' => e = .returned (.bool true) ∧ Fr No w w' := by
  have hf := fun X => fee_any 1 1000 5999 X (by decide) (by decide) (by decide)
  rw [show feeN 1 1000 5999 = 6 by decide, show addV 6 = 6 by decide, show addE 6 = 0 by decide] at hf
  have HF := Lib.hid hf
  clear hf
  go_enter Try.func9, Try.ntmps9
  go_wp2_with fail
  refine (HF.out _).mono ?_
  rintro e w1 ⟨rfl, hF⟩
  have HF1 := Lib.hid hF
  clear hF
  go_wp2
  go_ret
  exact ⟨rfl, HF1.out⟩
end Go.Proofs.Ytgehajgnakngoaa
