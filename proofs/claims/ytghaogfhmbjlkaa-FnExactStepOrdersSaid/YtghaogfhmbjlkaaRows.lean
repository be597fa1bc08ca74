/-
  No cell of these rows narrows 'for every input' (looked for: loops, veiled, ifaces, maps, wideKeys, modest, calm, conditions, laid).
  DERIVED. THE GIVEN ROWS OF THIS SEAT. 6 by the template 'for every input the law returns true; each argument reads behind the call as it read before'; 0 by the template 'total and deterministic' (their statements: YtghaogfhmbjlkaaTotals.lean).
  GIVEN WITH THE SEED: the statements are not yours to turn. If you find one false, say at which input.
  Laid BY PROGRAM, IN A SANDBOX (cutbox-rows.mjs): the forced cells as the released guide's own fill.sh prints them over the translation 03c4446540cb5845… (all of the seat's roots in one cut). By AI agents, Wed Nov 11 2026. No macro, syntax, notation, axiom, sorry.
-/
import Derived.Test.YtghaogfhmbjlkaaChecked
import GoSem.Claim
import GoSem.ClaimJoined
import GoSem.ClaimMapViews
import Derived.JoinedTies
import Derived.KernelRfl
namespace Go.Proofs.Ytghaogfhmbjlkaa
/- THE CELL 'sum', in the pinned program and in every row, IS THE sha256 OF THE DUMP (.gsa) THAT YtghaogfhmbjlkaaProg.lean LOADS. Nothing in Lean hashes anything: it is a label: what it is worth is what the hold of that sum in a sandbox is worth. -/
noncomputable def Try.pinned : Pinned := { name := "ytghaogfhmbjlkaa", sum := "03c4446540cb584549ecbcd7018b009f008159d166211e7fb9917fe08b310b09", checked := Try.checked }
namespace Rows
def none {H : Type} : Left H := { results := [], args := [] }

/-- 'laws.FnExactJoinCases': WHATEVER THE INPUT: true; the input reads as it did. -/
def fnExactJoinCasesSpec : ChangeSpec := { name := "fnExactJoinCases", fn := fun _ => fun
  | [d1, d2] => { results := [.lit (.bool true)], args := [d1, d2] }
  | _ => none }
def fnExactJoinCasesRow : OpenClaim := { program := "ytghaogfhmbjlkaa", sum := "03c4446540cb584549ecbcd7018b009f008159d166211e7fb9917fe08b310b09", func := "loop.example/g01111/laws.FnExactJoinCases", spec := "fnExactJoinCases", unfollowed := true, recurses := true, apart := false }
def FnExactJoinCasesSaid : Prop := fnExactJoinCasesRow.holds Try.pinned (OpenSpec.ofChange fnExactJoinCasesSpec)

/-- ITS FALSE NEIGHBOUR: 'it returns false'. Refute it at one input. -/
def fnExactJoinCasesWrong : ChangeSpec := { name := "fnExactJoinCases", fn := fun _ => fun
  | [d1, d2] => { results := [.lit (.bool false)], args := [d1, d2] }
  | _ => none }
def FnExactJoinCasesWrongFalsely : Prop := fnExactJoinCasesRow.holds Try.pinned (OpenSpec.ofChange fnExactJoinCasesWrong)

/-- 'laws.FnExactBudgetOrders': WHATEVER THE INPUT: true; the input reads as it did. -/
def fnExactBudgetOrdersSpec : ChangeSpec := { name := "fnExactBudgetOrders", fn := fun _ => fun
  | [d1, d2, d3, d4, d5] => { results := [.lit (.bool true)], args := [d1, d2, d3, d4, d5] }
  | _ => none }
def fnExactBudgetOrdersRow : OpenClaim := { program := "ytghaogfhmbjlkaa", sum := "03c4446540cb584549ecbcd7018b009f008159d166211e7fb9917fe08b310b09", func := "loop.example/g01111/laws.FnExactBudgetOrders", spec := "fnExactBudgetOrders", unfollowed := true, recurses := true, apart := false }
def FnExactBudgetOrdersSaid : Prop := fnExactBudgetOrdersRow.holds Try.pinned (OpenSpec.ofChange fnExactBudgetOrdersSpec)

/-- ITS FALSE NEIGHBOUR: 'it returns false'. Refute it at one input. -/
def fnExactBudgetOrdersWrong : ChangeSpec := { name := "fnExactBudgetOrders", fn := fun _ => fun
  | [d1, d2, d3, d4, d5] => { results := [.lit (.bool false)], args := [d1, d2, d3, d4, d5] }
  | _ => none }
def FnExactBudgetOrdersWrongFalsely : Prop := fnExactBudgetOrdersRow.holds Try.pinned (OpenSpec.ofChange fnExactBudgetOrdersWrong)

/-- 'laws.FnExactStepOrders': WHATEVER THE INPUT: true; the input reads as it did. -/
def fnExactStepOrdersSpec : ChangeSpec := { name := "fnExactStepOrders", fn := fun _ => fun
  | [d1, d2, d3, d4] => { results := [.lit (.bool true)], args := [d1, d2, d3, d4] }
  | _ => none }
def fnExactStepOrdersRow : OpenClaim := { program := "ytghaogfhmbjlkaa", sum := "03c4446540cb584549ecbcd7018b009f008159d166211e7fb9917fe08b310b09", func := "loop.example/g01111/laws.FnExactStepOrders", spec := "fnExactStepOrders", unfollowed := true, recurses := true, apart := false }
def FnExactStepOrdersSaid : Prop := fnExactStepOrdersRow.holds Try.pinned (OpenSpec.ofChange fnExactStepOrdersSpec)

/-- ITS FALSE NEIGHBOUR: 'it returns false'. Refute it at one input. -/
def fnExactStepOrdersWrong : ChangeSpec := { name := "fnExactStepOrders", fn := fun _ => fun
  | [d1, d2, d3, d4] => { results := [.lit (.bool false)], args := [d1, d2, d3, d4] }
  | _ => none }
def FnExactStepOrdersWrongFalsely : Prop := fnExactStepOrdersRow.holds Try.pinned (OpenSpec.ofChange fnExactStepOrdersWrong)

/-- 'laws.FnExactBestNested': WHATEVER THE INPUT: true; the input reads as it did. -/
def fnExactBestNestedSpec : ChangeSpec := { name := "fnExactBestNested", fn := fun _ => fun
  | [d] => { results := [.lit (.bool true)], args := [d] }
  | _ => none }
def fnExactBestNestedRow : OpenClaim := { program := "ytghaogfhmbjlkaa", sum := "03c4446540cb584549ecbcd7018b009f008159d166211e7fb9917fe08b310b09", func := "loop.example/g01111/laws.FnExactBestNested", spec := "fnExactBestNested", unfollowed := true, recurses := true, apart := false }
def FnExactBestNestedSaid : Prop := fnExactBestNestedRow.holds Try.pinned (OpenSpec.ofChange fnExactBestNestedSpec)

/-- ITS FALSE NEIGHBOUR: 'it returns false'. Refute it at one input. -/
def fnExactBestNestedWrong : ChangeSpec := { name := "fnExactBestNested", fn := fun _ => fun
  | [d] => { results := [.lit (.bool false)], args := [d] }
  | _ => none }
def FnExactBestNestedWrongFalsely : Prop := fnExactBestNestedRow.holds Try.pinned (OpenSpec.ofChange fnExactBestNestedWrong)

/-- 'laws.FnExactBestChainCost': WHATEVER THE INPUT: true; the input reads as it did. -/
def fnExactBestChainCostSpec : ChangeSpec := { name := "fnExactBestChainCost", fn := fun _ => fun
  | [d] => { results := [.lit (.bool true)], args := [d] }
  | _ => none }
def fnExactBestChainCostRow : OpenClaim := { program := "ytghaogfhmbjlkaa", sum := "03c4446540cb584549ecbcd7018b009f008159d166211e7fb9917fe08b310b09", func := "loop.example/g01111/laws.FnExactBestChainCost", spec := "fnExactBestChainCost", unfollowed := true, recurses := true, apart := false }
def FnExactBestChainCostSaid : Prop := fnExactBestChainCostRow.holds Try.pinned (OpenSpec.ofChange fnExactBestChainCostSpec)

/-- ITS FALSE NEIGHBOUR: 'it returns false'. Refute it at one input. -/
def fnExactBestChainCostWrong : ChangeSpec := { name := "fnExactBestChainCost", fn := fun _ => fun
  | [d] => { results := [.lit (.bool false)], args := [d] }
  | _ => none }
def FnExactBestChainCostWrongFalsely : Prop := fnExactBestChainCostRow.holds Try.pinned (OpenSpec.ofChange fnExactBestChainCostWrong)

/-- 'laws.FnExactBestAssembly': WHATEVER THE INPUT: true; the input reads as it did. -/
def fnExactBestAssemblySpec : ChangeSpec := { name := "fnExactBestAssembly", fn := fun _ => fun
  | [d1, d2, d3] => { results := [.lit (.bool true)], args := [d1, d2, d3] }
  | _ => none }
def fnExactBestAssemblyRow : OpenClaim := { program := "ytghaogfhmbjlkaa", sum := "03c4446540cb584549ecbcd7018b009f008159d166211e7fb9917fe08b310b09", func := "loop.example/g01111/laws.FnExactBestAssembly", spec := "fnExactBestAssembly", unfollowed := true, recurses := true, apart := false }
def FnExactBestAssemblySaid : Prop := fnExactBestAssemblyRow.holds Try.pinned (OpenSpec.ofChange fnExactBestAssemblySpec)

/-- ITS FALSE NEIGHBOUR: 'it returns false'. Refute it at one input. -/
def fnExactBestAssemblyWrong : ChangeSpec := { name := "fnExactBestAssembly", fn := fun _ => fun
  | [d1, d2, d3] => { results := [.lit (.bool false)], args := [d1, d2, d3] }
  | _ => none }
def FnExactBestAssemblyWrongFalsely : Prop := fnExactBestAssemblyRow.holds Try.pinned (OpenSpec.ofChange fnExactBestAssemblyWrong)

/- THE SECOND FORM. 'bulk': how many values and letters a reading holds, each counted each time it is reached (what is shared counts as often as it is met; a slice's spare places count too). A statement '..UptoSaid' is the law's where the arguments, and the package variables that the reading takes, are together of bulk at most 1048576: NARROWER than '..Said'. Prove '..Said' where nothing that the law and all that it calls make is longer than what came in: it says more and counts as full. Else prove '..UptoSaid'. A law counts once. -/
mutual
def uptoBulk {H : Type} : DataW H → Nat
  | .lit (.string bytes) => bytes.length + 1
  | .lit _ => 1
  | .nil => 1
  | .ptr d => uptoBulk d + 1
  | .slice elems spare => uptoBulkAll elems + uptoBulkAll spare + 1
  | .agg parts => uptoBulkAll parts + 1
  | .iface _ d => uptoBulk d + 1
  | .map entries => uptoBulkEntries entries + 1
  | .held _ => 1
def uptoBulkAll {H : Type} : List (DataW H) → Nat
  | [] => 0
  | d :: r => uptoBulk d + uptoBulkAll r
def uptoBulkEntries {H : Type} : List (Lit × DataW H) → Nat
  | [] => 0
  | x :: r => uptoBulkEntry x + uptoBulkEntries r
def uptoBulkEntry {H : Type} : Lit × DataW H → Nat
  | (.string bytes, d) => bytes.length + uptoBulk d + 1
  | (_, d) => uptoBulk d + 1
 end
def uptoSmall : (H : Type) → List (DataW H) → Bool := fun _ ds => decide (uptoBulkAll ds ≤ 1048576)
def OpenSpec.upto (s : _root_.Go.ChangeSpec) : _root_.Go.OpenSpec := { _root_.Go.OpenSpec.ofChange s with cond := some uptoSmall }

/-- 'laws.FnExactJoinCases', WHERE WHAT IT READS IS OF BULK AT MOST 1048576: true; the input reads as it did. -/
def fnExactJoinCasesUptoRow : OpenClaim := { program := "ytghaogfhmbjlkaa", sum := "03c4446540cb584549ecbcd7018b009f008159d166211e7fb9917fe08b310b09", func := "loop.example/g01111/laws.FnExactJoinCases", spec := "fnExactJoinCases", unfollowed := true, recurses := true, apart := false, narrowed := true }
def FnExactJoinCasesUptoSaid : Prop := fnExactJoinCasesUptoRow.holds Try.pinned (OpenSpec.upto fnExactJoinCasesSpec)

/-- 'laws.FnExactBudgetOrders', WHERE WHAT IT READS IS OF BULK AT MOST 1048576: true; the input reads as it did. -/
def fnExactBudgetOrdersUptoRow : OpenClaim := { program := "ytghaogfhmbjlkaa", sum := "03c4446540cb584549ecbcd7018b009f008159d166211e7fb9917fe08b310b09", func := "loop.example/g01111/laws.FnExactBudgetOrders", spec := "fnExactBudgetOrders", unfollowed := true, recurses := true, apart := false, narrowed := true }
def FnExactBudgetOrdersUptoSaid : Prop := fnExactBudgetOrdersUptoRow.holds Try.pinned (OpenSpec.upto fnExactBudgetOrdersSpec)

/-- 'laws.FnExactStepOrders', WHERE WHAT IT READS IS OF BULK AT MOST 1048576: true; the input reads as it did. -/
def fnExactStepOrdersUptoRow : OpenClaim := { program := "ytghaogfhmbjlkaa", sum := "03c4446540cb584549ecbcd7018b009f008159d166211e7fb9917fe08b310b09", func := "loop.example/g01111/laws.FnExactStepOrders", spec := "fnExactStepOrders", unfollowed := true, recurses := true, apart := false, narrowed := true }
def FnExactStepOrdersUptoSaid : Prop := fnExactStepOrdersUptoRow.holds Try.pinned (OpenSpec.upto fnExactStepOrdersSpec)

/-- 'laws.FnExactBestNested', WHERE WHAT IT READS IS OF BULK AT MOST 1048576: true; the input reads as it did. -/
def fnExactBestNestedUptoRow : OpenClaim := { program := "ytghaogfhmbjlkaa", sum := "03c4446540cb584549ecbcd7018b009f008159d166211e7fb9917fe08b310b09", func := "loop.example/g01111/laws.FnExactBestNested", spec := "fnExactBestNested", unfollowed := true, recurses := true, apart := false, narrowed := true }
def FnExactBestNestedUptoSaid : Prop := fnExactBestNestedUptoRow.holds Try.pinned (OpenSpec.upto fnExactBestNestedSpec)

/-- 'laws.FnExactBestChainCost', WHERE WHAT IT READS IS OF BULK AT MOST 1048576: true; the input reads as it did. -/
def fnExactBestChainCostUptoRow : OpenClaim := { program := "ytghaogfhmbjlkaa", sum := "03c4446540cb584549ecbcd7018b009f008159d166211e7fb9917fe08b310b09", func := "loop.example/g01111/laws.FnExactBestChainCost", spec := "fnExactBestChainCost", unfollowed := true, recurses := true, apart := false, narrowed := true }
def FnExactBestChainCostUptoSaid : Prop := fnExactBestChainCostUptoRow.holds Try.pinned (OpenSpec.upto fnExactBestChainCostSpec)

/-- 'laws.FnExactBestAssembly', WHERE WHAT IT READS IS OF BULK AT MOST 1048576: true; the input reads as it did. -/
def fnExactBestAssemblyUptoRow : OpenClaim := { program := "ytghaogfhmbjlkaa", sum := "03c4446540cb584549ecbcd7018b009f008159d166211e7fb9917fe08b310b09", func := "loop.example/g01111/laws.FnExactBestAssembly", spec := "fnExactBestAssembly", unfollowed := true, recurses := true, apart := false, narrowed := true }
def FnExactBestAssemblyUptoSaid : Prop := fnExactBestAssemblyUptoRow.holds Try.pinned (OpenSpec.upto fnExactBestAssemblySpec)

end Rows
end Go.Proofs.Ytghaogfhmbjlkaa
