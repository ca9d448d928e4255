/- strings.Clone: the same bytes; of what was there nothing has turned. -/
import Derived.Test.YtpdnbjaamgfemaaTy8
import Derived.Test.YtpdnbjaamgfemaaProg
import Derived.Test.YtpdnbjaamgfemaaGen
import Derived.Lib.UnsafeStr
import Derived.Lib.BufferWrite
import Derived.Laws.MakeOwn
namespace Go.Proofs.Ytpdnbjaamgfemaa
open Go.RowKit
set_option linter.unusedVariables false
set_option maxRecDepth 100000


end Go.Proofs.Ytpdnbjaamgfemaa
