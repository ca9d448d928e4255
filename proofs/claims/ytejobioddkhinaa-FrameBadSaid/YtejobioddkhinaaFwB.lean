/- 'FrameBad' over what comes in. -/
import Derived.Test.YtejobioddkhinaaFrameBad
namespace Go.Proofs.Ytejobioddkhinaa
open Go.RowKit
set_option linter.unusedVariables false
set_option maxRecDepth 100000

theorem bad8_walk (a b : ByteArray) (n : Nat) (W : World) (hn : (n : Int) ≤ 65535) :
    Calls Try.prog 5 #[.string a, .string b, .int .u16 (n : Int)] W fun e w' => e = .returned (.bool true) ∧ Fr No W w' := by
  have h1 : a = str a.data.toList := rfl
  have h2 : b = str b.data.toList := rfl
  rw [h1, h2]
  exact frame_bad _ _ n W (by omega)
end Go.Proofs.Ytejobioddkhinaa
