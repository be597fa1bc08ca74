/- No table of a library is asked for. -/
import Derived.Below
namespace Go.Proofs.Ytjdallbnbjnghaa.Ab
open Go
def tabB : Option (Nat × Array Value) := none
end Go.Proofs.Ytjdallbnbjnghaa.Ab
