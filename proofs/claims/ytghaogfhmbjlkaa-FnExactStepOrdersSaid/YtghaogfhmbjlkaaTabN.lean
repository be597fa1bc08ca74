/- No table of a library is asked for. -/
import Derived.Below
namespace Go.Proofs.Ytghaogfhmbjlkaa.Ab
open Go
def tabB : Option (Nat × Array Value) := none
end Go.Proofs.Ytghaogfhmbjlkaa.Ab
