/- Bytes: what the program's table of types says of them. -/
import Derived.Test.YtldcglmpnildiaaProg
import Derived.KernelRfl
namespace Go.Proofs.Ytldcglmpnildiaa

theorem Try.infoU8 : (Try.prog.info? 5).map (fun i => (i.zero, i.size, i.bytes)) = some (some (.int .u8 0), 1, 1) := by kernel_rfl
theorem Try.infoU8' : (Try.prog.info? 5).map (·.size) = some 1 := by kernel_rfl
theorem Try.cellsU8 : Try.prog.cellsOf 5 = 1 := by kernel_rfl

end Go.Proofs.Ytldcglmpnildiaa
