/- The walk of 'FrameBad'. -/
import Derived.Test.YtejobioddkhinaaFbZ
import Derived.Test.YtejobioddkhinaaFbS
import Derived.Test.YtejobioddkhinaaFbB
namespace Go.Proofs.Ytejobioddkhinaa
open Go.RowKit
set_option linter.unusedVariables false
set_option maxRecDepth 100000

theorem frame_bad (good more : List UInt8) (n : Nat) (w : World) (hn : n < 65536) : Calls Try.prog 5 #[.string (str good), .string (str more), .int .u16 (n : Int)] w fun e w' => e = .returned (.bool true) ∧ Fr No w w' := by
  have h1 := str_size good
  have h2 := str_size more
  by_cases hg : good.length ≤ 300
  · by_cases hm : more.length ≤ 300
    · by_cases h0 : good.length = 0
      · by_cases k0 : n = 0
        · exact bad_zero_no good more n w hg hm k0 h0
        · by_cases k1 : n ≤ 1024
          · exact bad_small_no good more n w hg hm ⟨by omega, k1⟩ h0
          · exact bad_big_no good more n w hg hm ⟨by omega, hn⟩ h0
      · by_cases k0 : n = 0
        · exact bad_zero_yes good more n w hg hm k0 (by omega)
        · by_cases k1 : n ≤ 1024
          · exact bad_small_yes good more n w hg hm ⟨by omega, k1⟩ (by omega)
          · exact bad_big_yes good more n w hg hm ⟨by omega, hn⟩ (by omega)
    · exact bad_long2 _ _ _ w (by omega) (by omega)
  · exact bad_long _ _ _ w (by omega)
end Go.Proofs.Ytejobioddkhinaa
