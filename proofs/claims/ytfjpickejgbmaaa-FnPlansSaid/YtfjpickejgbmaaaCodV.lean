/- The compiled forms of functions, each checked against the translation. -/
import Derived.Test.YtfjpickejgbmaaaAb2
import Derived.Test.YtfjpickejgbmaaaProg
namespace Go.Proofs.Ytfjpickejgbmaaa.Ab
open Go Go.RowKit Go.Proofs
set_option maxRecDepth 100000

end Go.Proofs.Ytfjpickejgbmaaa.Ab
