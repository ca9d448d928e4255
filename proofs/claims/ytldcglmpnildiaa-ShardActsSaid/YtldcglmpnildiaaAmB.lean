/- math/bits: the product of two numbers in 128 bits; a number of 128 bits by a million. -/
import Derived.Test.YtldcglmpnildiaaProg
import Derived.Test.YtldcglmpnildiaaAmM
import Derived.Lib.Mul64
import Derived.Laws.Bits64b
import Derived.IntWalk
import Derived.Deep.QuietTactic
import Derived.BigQuiet
namespace Go.Proofs.Ytldcglmpnildiaa
open Go.RowKit
set_option linter.unusedVariables false
set_option maxRecDepth 100000

theorem wrapU (a : Nat) (h : a < 18446744073709551616) : IntKind.u64.wrap (a : Int) = (a : Int) := by rw [IntKind.wrap_u64]; omega
theorem maskU (a : Nat) (h : a < 18446744073709551616) : bits .and .u64 (a : Int) 4294967295 = ((a % 4294967296 : Nat) : Int) := by
  have h1 := bits_and_u64_nat a 4294967295 h (by omega)
  rw [Nat.and_two_pow_sub_one_eq_mod a 32] at h1
  exact h1

/-- Long division by 1000000 * 2^44, whose lower half is 0: two digits, none of which is to be put right. -/
theorem div_digits (hi lo u v1 q1 r1 e q0 : Nat) (hlo : lo < 18446744073709551616) (h1 : hi < 1000000) (hu : u = hi * 17592186044416 + lo / 1048576) (hv : v1 = lo % 1048576 * 4096)
    (hq : q1 = u / 4096000000) (hr : r1 = u % 4096000000) (he : e = r1 * 4294967296 + v1) (hq0 : q0 = e / 4096000000) :
    q1 * 4294967296 + q0 = (hi * 18446744073709551616 + lo) / 1000000 := by omega

end Go.Proofs.Ytldcglmpnildiaa
