/- The table of a library that is asked for: the powers of ten. -/
import Derived.Below
import Derived.Lib.LaidTab
import Derived.Lib.ItoaNum
namespace Go.Proofs.YtolfmoniedgmeaaDoor.Ab
open Go
def tabB : Option (Nat × Array Value) := some (3, (Lib.pow10Tab.map fun z => Value.int .u64 z).toArray)
end Go.Proofs.YtolfmoniedgmeaaDoor.Ab
