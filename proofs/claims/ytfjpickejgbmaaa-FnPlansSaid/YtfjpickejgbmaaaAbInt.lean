/- The laws' helpers over slices of numbers: szIntS, toIntS, eqIntS, markIntS, heldIntS. -/
import Derived.Test.YtfjpickejgbmaaaCodHelp
import Derived.Test.YtfjpickejgbmaaaAbRun
namespace Go.Proofs.Ytfjpickejgbmaaa.Ab
open Go Go.RowKit
set_option linter.unusedVariables false
set_option linter.unusedSimpArgs false

theorem mixed : Try.prog.follows .mixedOrders = true := by kernel_rfl
abbrev V (x : Int) : Value := .int .i64 x
/-- The marks from k on. -/
def imarks (k : Int) (n : Nat) : List Int := (List.range n).map fun (j : Nat) => k + (j : Int)
theorem imarks_len (k : Int) (n : Nat) : (imarks k n).length = n := by simp [imarks]
theorem imarks_at {k : Int} {n j : Nat} (h : j < n) : (imarks k n).getD j 0 = k + j := by simp [imarks, List.getD_eq_getElem?_getD, h]

end Go.Proofs.Ytfjpickejgbmaaa.Ab
