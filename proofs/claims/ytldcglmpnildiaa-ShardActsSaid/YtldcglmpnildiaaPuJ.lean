/- The document's purse: Commit, Release, Move. -/
import Derived.Test.YtldcglmpnildiaaPuF
import Derived.Test.YtldcglmpnildiaaWpO
import Derived.Deep.RegionHeld
namespace Go.Proofs.Ytldcglmpnildiaa
open Go.RowKit
set_option linter.unusedVariables false
set_option maxRecDepth 100000

/-- What Commit, Release and Move answer. -/
def DAct (w : World) (ao : Option Addr) (s' : Ps) (E : Int) (e : Ending) (w' : World) : Prop :=
  ∃ ao' cap', e = .returned (.tuple #[vP ao' s'.b.length cap' s'.h, .int .i64 E]) ∧ DNext w ao ao' ∧ DAt ao' cap' s' w' ∧ Fr No w w'

end Go.Proofs.Ytldcglmpnildiaa
