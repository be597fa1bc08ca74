/- The compiled forms of functions, each checked against the translation. -/
import Derived.Test.YtiggehfopfpkbabAb2
import Derived.Test.YtiggehfopfpkbabProg
namespace Go.Proofs.Ytiggehfopfpkbab.Ab
open Go Go.RowKit Go.Proofs
set_option maxRecDepth 100000

end Go.Proofs.Ytiggehfopfpkbab.Ab
