/- FnExactBestBase: for all arguments, impl.BestBase answers as spec.BestBase, leaves its arguments as they were, and the law returns true. No condition. -/
import Derived.Test.YtmjnjhdacliieaaAbLBestBase
import Derived.Test.YtmjnjhdacliieaaAbHead
import Derived.Test.YtmjnjhdacliieaaShell
import Derived.Test.YtmjnjhdacliieaaOpen
import Derived.ShutString
namespace Go.Proofs.Ytmjnjhdacliieaa.exactBestBase
open Go.ChangeShapes Go.WideShapes Go.ChangeAt Go.RowKit
open Go.WideMaps Go.WideElems
open Go.ChangeMaps (open_string shut_string)
set_option linter.unusedVariables false

theorem walk (v0 : Value) (d0 : List It) (x1 : Int) (w : World) (hk0 : ItemsIn w v0 d0) (wx1 : (Lit.int .i64 x1).wf = true) :
    Calls Try.prog 9 #[v0, .int .i64 x1] w fun e w' => e = .returned (.bool true) ∧ Below w.heap.size w w' := by
  obtain ⟨ρ0, _, ⟨p0, g0, n0, rfl⟩, y0, q0, r0⟩ := Ab.argItems (Ab.MRel.start w (Ab.tab_none rfl)) hk0
  exact Ab.law_calls (Ab.law_FnExactBestBase _ d0 y0 x1 r0) g0 (Ab.VL.cons q0 (Ab.VL.cons (.int _ _) (Ab.VL.nil _)))

set_option maxRecDepth 100000 in
theorem facts : joinedFacts Try.prog 9 Try.f9 Rows.fnExactBestBaseSpec Rows.fnExactBestBaseRow = true := by
  unfold joinedFacts
  rw [Ab.enters, Ab.no_finals, Ab.makes]
  kernel_rfl

end Go.Proofs.Ytmjnjhdacliieaa.exactBestBase
