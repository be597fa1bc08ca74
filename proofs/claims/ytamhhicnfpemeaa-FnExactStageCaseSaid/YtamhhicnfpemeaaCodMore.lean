/- The compiled forms of functions, each checked against the translation. -/
import Derived.Test.YtamhhicnfpemeaaAb2
import Derived.Test.YtamhhicnfpemeaaProg
namespace Go.Proofs.Ytamhhicnfpemeaa.Ab
open Go Go.RowKit Go.Proofs
set_option maxRecDepth 100000

end Go.Proofs.Ytamhhicnfpemeaa.Ab
