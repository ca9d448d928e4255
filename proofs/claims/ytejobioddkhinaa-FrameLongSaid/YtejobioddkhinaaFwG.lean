/- 'FrameLong' over what comes in. -/
import Derived.Test.YtejobioddkhinaaFrameLong
namespace Go.Proofs.Ytejobioddkhinaa
open Go.RowKit
set_option linter.unusedVariables false
set_option maxRecDepth 100000

theorem long8_walk (n c : Nat) (W : World) (hn : (n : Int) ≤ 65535) (hc : (c : Int) ≤ 255) :
    Calls Try.prog 7 #[.int .u16 (n : Int), .int .u8 (c : Int)] W fun e w' => e = .returned (.bool true) ∧ Fr No W w' := by
  have h := frame_long n (UInt8.ofNat c) W (by omega)
  rw [ofNat_toNat c (by omega)] at h
  exact h
end Go.Proofs.Ytejobioddkhinaa
