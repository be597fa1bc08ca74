/- The compiled forms of functions, each checked against the translation. -/
import Derived.Test.YtonpeflncnccdaaAb2
import Derived.Test.YtonpeflncnccdaaProg
namespace Go.Proofs.Ytonpeflncnccdaa.Ab
open Go Go.RowKit Go.Proofs
set_option maxRecDepth 100000

end Go.Proofs.Ytonpeflncnccdaa.Ab
