/-
  No cell of these rows narrows 'for every input' (looked for: loops, veiled, ifaces, maps, wideKeys, modest, calm, conditions, laid).
  DERIVED. THE GIVEN ROWS OF THIS SEAT. 10 by the template 'for every input the law returns true; each argument reads behind the call as it read before'; 0 by the template 'total and deterministic' (their statements: YtncajinepljdhaaTotals.lean).
  GIVEN WITH THE SEED: the statements are not yours to turn. If you find one false, say at which input.
  Laid BY PROGRAM, IN A SANDBOX (cutbox-rows.mjs): the forced cells as the released guide's own fill.sh prints them over the translation b69e7124e62b16b5… (all of the seat's roots in one cut). By AI agents, Wed Nov 11 2026. No macro, syntax, notation, axiom, sorry.
-/
import Derived.Test.YtncajinepljdhaaChecked
import GoSem.Claim
import GoSem.ClaimJoined
import GoSem.ClaimMapViews
import Derived.JoinedTies
import Derived.KernelRfl
namespace Go.Proofs.Ytncajinepljdhaa
/- THE CELL 'sum', in the pinned program and in every row, IS THE sha256 OF THE DUMP (.gsa) THAT YtncajinepljdhaaProg.lean LOADS. Nothing in Lean hashes anything: it is a label: what it is worth is what the hold of that sum in a sandbox is worth. -/
noncomputable def Try.pinned : Pinned := { name := "ytncajinepljdhaa", sum := "b69e7124e62b16b59df324b6493cd779cabff82b6b7bd8a32ae0391272275d6e", checked := Try.checked }
namespace Rows
def none {H : Type} : Left H := { results := [], args := [] }

/-- 'laws.FnForwardCosts': WHATEVER THE INPUT: true; the input reads as it did. -/
def fnForwardCostsSpec : ChangeSpec := { name := "fnForwardCosts", fn := fun _ => fun
  | [d] => { results := [.lit (.bool true)], args := [d] }
  | _ => none }
def fnForwardCostsRow : OpenClaim := { program := "ytncajinepljdhaa", sum := "b69e7124e62b16b59df324b6493cd779cabff82b6b7bd8a32ae0391272275d6e", func := "loop.example/g01111/laws.FnForwardCosts", spec := "fnForwardCosts", unfollowed := true, recurses := true, apart := false }
def FnForwardCostsSaid : Prop := fnForwardCostsRow.holds Try.pinned (OpenSpec.ofChange fnForwardCostsSpec)

/-- ITS FALSE NEIGHBOUR: 'it returns false'. Refute it at one input. -/
def fnForwardCostsWrong : ChangeSpec := { name := "fnForwardCosts", fn := fun _ => fun
  | [d] => { results := [.lit (.bool false)], args := [d] }
  | _ => none }
def FnForwardCostsWrongFalsely : Prop := fnForwardCostsRow.holds Try.pinned (OpenSpec.ofChange fnForwardCostsWrong)

/-- 'laws.FnHorizons': WHATEVER THE INPUT: true; the input reads as it did. -/
def fnHorizonsSpec : ChangeSpec := { name := "fnHorizons", fn := fun _ => fun
  | [d] => { results := [.lit (.bool true)], args := [d] }
  | _ => none }
def fnHorizonsRow : OpenClaim := { program := "ytncajinepljdhaa", sum := "b69e7124e62b16b59df324b6493cd779cabff82b6b7bd8a32ae0391272275d6e", func := "loop.example/g01111/laws.FnHorizons", spec := "fnHorizons", unfollowed := true, recurses := true, apart := false }
def FnHorizonsSaid : Prop := fnHorizonsRow.holds Try.pinned (OpenSpec.ofChange fnHorizonsSpec)

/-- ITS FALSE NEIGHBOUR: 'it returns false'. Refute it at one input. -/
def fnHorizonsWrong : ChangeSpec := { name := "fnHorizons", fn := fun _ => fun
  | [d] => { results := [.lit (.bool false)], args := [d] }
  | _ => none }
def FnHorizonsWrongFalsely : Prop := fnHorizonsRow.holds Try.pinned (OpenSpec.ofChange fnHorizonsWrong)

/-- 'laws.FnFairPrices': WHATEVER THE INPUT: true; the input reads as it did. -/
def fnFairPricesSpec : ChangeSpec := { name := "fnFairPrices", fn := fun _ => fun
  | [d] => { results := [.lit (.bool true)], args := [d] }
  | _ => none }
def fnFairPricesRow : OpenClaim := { program := "ytncajinepljdhaa", sum := "b69e7124e62b16b59df324b6493cd779cabff82b6b7bd8a32ae0391272275d6e", func := "loop.example/g01111/laws.FnFairPrices", spec := "fnFairPrices", unfollowed := true, recurses := true, apart := false }
def FnFairPricesSaid : Prop := fnFairPricesRow.holds Try.pinned (OpenSpec.ofChange fnFairPricesSpec)

/-- ITS FALSE NEIGHBOUR: 'it returns false'. Refute it at one input. -/
def fnFairPricesWrong : ChangeSpec := { name := "fnFairPrices", fn := fun _ => fun
  | [d] => { results := [.lit (.bool false)], args := [d] }
  | _ => none }
def FnFairPricesWrongFalsely : Prop := fnFairPricesRow.holds Try.pinned (OpenSpec.ofChange fnFairPricesWrong)

/-- 'laws.FnRules': WHATEVER THE INPUT: true; the input reads as it did. -/
def fnRulesSpec : ChangeSpec := { name := "fnRules", fn := fun _ => fun
  | [d] => { results := [.lit (.bool true)], args := [d] }
  | _ => none }
def fnRulesRow : OpenClaim := { program := "ytncajinepljdhaa", sum := "b69e7124e62b16b59df324b6493cd779cabff82b6b7bd8a32ae0391272275d6e", func := "loop.example/g01111/laws.FnRules", spec := "fnRules", unfollowed := true, recurses := true, apart := false }
def FnRulesSaid : Prop := fnRulesRow.holds Try.pinned (OpenSpec.ofChange fnRulesSpec)

/-- ITS FALSE NEIGHBOUR: 'it returns false'. Refute it at one input. -/
def fnRulesWrong : ChangeSpec := { name := "fnRules", fn := fun _ => fun
  | [d] => { results := [.lit (.bool false)], args := [d] }
  | _ => none }
def FnRulesWrongFalsely : Prop := fnRulesRow.holds Try.pinned (OpenSpec.ofChange fnRulesWrong)

/-- 'laws.FnPlans': WHATEVER THE INPUT: true; the input reads as it did. -/
def fnPlansSpec : ChangeSpec := { name := "fnPlans", fn := fun _ => fun
  | [d] => { results := [.lit (.bool true)], args := [d] }
  | _ => none }
def fnPlansRow : OpenClaim := { program := "ytncajinepljdhaa", sum := "b69e7124e62b16b59df324b6493cd779cabff82b6b7bd8a32ae0391272275d6e", func := "loop.example/g01111/laws.FnPlans", spec := "fnPlans", unfollowed := true, recurses := true, apart := false }
def FnPlansSaid : Prop := fnPlansRow.holds Try.pinned (OpenSpec.ofChange fnPlansSpec)

/-- ITS FALSE NEIGHBOUR: 'it returns false'. Refute it at one input. -/
def fnPlansWrong : ChangeSpec := { name := "fnPlans", fn := fun _ => fun
  | [d] => { results := [.lit (.bool false)], args := [d] }
  | _ => none }
def FnPlansWrongFalsely : Prop := fnPlansRow.holds Try.pinned (OpenSpec.ofChange fnPlansWrong)

/-- 'laws.FnBestPlans': WHATEVER THE INPUT: true; the input reads as it did. -/
def fnBestPlansSpec : ChangeSpec := { name := "fnBestPlans", fn := fun _ => fun
  | [d] => { results := [.lit (.bool true)], args := [d] }
  | _ => none }
def fnBestPlansRow : OpenClaim := { program := "ytncajinepljdhaa", sum := "b69e7124e62b16b59df324b6493cd779cabff82b6b7bd8a32ae0391272275d6e", func := "loop.example/g01111/laws.FnBestPlans", spec := "fnBestPlans", unfollowed := true, recurses := true, apart := false }
def FnBestPlansSaid : Prop := fnBestPlansRow.holds Try.pinned (OpenSpec.ofChange fnBestPlansSpec)

/-- ITS FALSE NEIGHBOUR: 'it returns false'. Refute it at one input. -/
def fnBestPlansWrong : ChangeSpec := { name := "fnBestPlans", fn := fun _ => fun
  | [d] => { results := [.lit (.bool false)], args := [d] }
  | _ => none }
def FnBestPlansWrongFalsely : Prop := fnBestPlansRow.holds Try.pinned (OpenSpec.ofChange fnBestPlansWrong)

/-- 'laws.FnLimits': WHATEVER THE INPUT: true; the input reads as it did. -/
def fnLimitsSpec : ChangeSpec := { name := "fnLimits", fn := fun _ => fun
  | [d] => { results := [.lit (.bool true)], args := [d] }
  | _ => none }
def fnLimitsRow : OpenClaim := { program := "ytncajinepljdhaa", sum := "b69e7124e62b16b59df324b6493cd779cabff82b6b7bd8a32ae0391272275d6e", func := "loop.example/g01111/laws.FnLimits", spec := "fnLimits", unfollowed := true, recurses := true, apart := false }
def FnLimitsSaid : Prop := fnLimitsRow.holds Try.pinned (OpenSpec.ofChange fnLimitsSpec)

/-- ITS FALSE NEIGHBOUR: 'it returns false'. Refute it at one input. -/
def fnLimitsWrong : ChangeSpec := { name := "fnLimits", fn := fun _ => fun
  | [d] => { results := [.lit (.bool false)], args := [d] }
  | _ => none }
def FnLimitsWrongFalsely : Prop := fnLimitsRow.holds Try.pinned (OpenSpec.ofChange fnLimitsWrong)

/-- 'laws.FnRegular': WHATEVER THE INPUT: true; the input reads as it did. -/
def fnRegularSpec : ChangeSpec := { name := "fnRegular", fn := fun _ => fun
  | [d] => { results := [.lit (.bool true)], args := [d] }
  | _ => none }
def fnRegularRow : OpenClaim := { program := "ytncajinepljdhaa", sum := "b69e7124e62b16b59df324b6493cd779cabff82b6b7bd8a32ae0391272275d6e", func := "loop.example/g01111/laws.FnRegular", spec := "fnRegular", unfollowed := true, recurses := true, apart := false }
def FnRegularSaid : Prop := fnRegularRow.holds Try.pinned (OpenSpec.ofChange fnRegularSpec)

/-- ITS FALSE NEIGHBOUR: 'it returns false'. Refute it at one input. -/
def fnRegularWrong : ChangeSpec := { name := "fnRegular", fn := fun _ => fun
  | [d] => { results := [.lit (.bool false)], args := [d] }
  | _ => none }
def FnRegularWrongFalsely : Prop := fnRegularRow.holds Try.pinned (OpenSpec.ofChange fnRegularWrong)

/-- 'laws.FnLatePlans': WHATEVER THE INPUT: true; the input reads as it did. -/
def fnLatePlansSpec : ChangeSpec := { name := "fnLatePlans", fn := fun _ => fun
  | [d] => { results := [.lit (.bool true)], args := [d] }
  | _ => none }
def fnLatePlansRow : OpenClaim := { program := "ytncajinepljdhaa", sum := "b69e7124e62b16b59df324b6493cd779cabff82b6b7bd8a32ae0391272275d6e", func := "loop.example/g01111/laws.FnLatePlans", spec := "fnLatePlans", unfollowed := true, recurses := true, apart := false }
def FnLatePlansSaid : Prop := fnLatePlansRow.holds Try.pinned (OpenSpec.ofChange fnLatePlansSpec)

/-- ITS FALSE NEIGHBOUR: 'it returns false'. Refute it at one input. -/
def fnLatePlansWrong : ChangeSpec := { name := "fnLatePlans", fn := fun _ => fun
  | [d] => { results := [.lit (.bool false)], args := [d] }
  | _ => none }
def FnLatePlansWrongFalsely : Prop := fnLatePlansRow.holds Try.pinned (OpenSpec.ofChange fnLatePlansWrong)

/-- 'laws.FnExactJoinCases': WHATEVER THE INPUT: true; the input reads as it did. -/
def fnExactJoinCasesSpec : ChangeSpec := { name := "fnExactJoinCases", fn := fun _ => fun
  | [d1, d2] => { results := [.lit (.bool true)], args := [d1, d2] }
  | _ => none }
def fnExactJoinCasesRow : OpenClaim := { program := "ytncajinepljdhaa", sum := "b69e7124e62b16b59df324b6493cd779cabff82b6b7bd8a32ae0391272275d6e", func := "loop.example/g01111/laws.FnExactJoinCases", spec := "fnExactJoinCases", unfollowed := true, recurses := true, apart := false }
def FnExactJoinCasesSaid : Prop := fnExactJoinCasesRow.holds Try.pinned (OpenSpec.ofChange fnExactJoinCasesSpec)

/-- ITS FALSE NEIGHBOUR: 'it returns false'. Refute it at one input. -/
def fnExactJoinCasesWrong : ChangeSpec := { name := "fnExactJoinCases", fn := fun _ => fun
  | [d1, d2] => { results := [.lit (.bool false)], args := [d1, d2] }
  | _ => none }
def FnExactJoinCasesWrongFalsely : Prop := fnExactJoinCasesRow.holds Try.pinned (OpenSpec.ofChange fnExactJoinCasesWrong)

/- THE SECOND FORM. 'bulk': how many values and letters a reading holds, each counted each time it is reached (what is shared counts as often as it is met; a slice's spare places count too). A statement '..UptoSaid' is the law's where the arguments, and the package variables that the reading takes, are together of bulk at most 1048576: NARROWER than '..Said'. Prove '..Said' where nothing that the law and all that it calls make is longer than what came in: it says more and counts as full. Else prove '..UptoSaid'. A law counts once. -/
mutual
def uptoBulk {H : Type} : DataW H → Nat
  | .lit (.string bytes) => bytes.length + 1
  | .lit _ => 1
  | .nil => 1
  | .ptr d => uptoBulk d + 1
  | .slice elems spare => uptoBulkAll elems + uptoBulkAll spare + 1
  | .agg parts => uptoBulkAll parts + 1
  | .iface _ d => uptoBulk d + 1
  | .map entries => uptoBulkEntries entries + 1
  | .held _ => 1
def uptoBulkAll {H : Type} : List (DataW H) → Nat
  | [] => 0
  | d :: r => uptoBulk d + uptoBulkAll r
def uptoBulkEntries {H : Type} : List (Lit × DataW H) → Nat
  | [] => 0
  | x :: r => uptoBulkEntry x + uptoBulkEntries r
def uptoBulkEntry {H : Type} : Lit × DataW H → Nat
  | (.string bytes, d) => bytes.length + uptoBulk d + 1
  | (_, d) => uptoBulk d + 1
 end
def uptoSmall : (H : Type) → List (DataW H) → Bool := fun _ ds => decide (uptoBulkAll ds ≤ 1048576)
def OpenSpec.upto (s : _root_.Go.ChangeSpec) : _root_.Go.OpenSpec := { _root_.Go.OpenSpec.ofChange s with cond := some uptoSmall }

/-- 'laws.FnForwardCosts', WHERE WHAT IT READS IS OF BULK AT MOST 1048576: true; the input reads as it did. -/
def fnForwardCostsUptoRow : OpenClaim := { program := "ytncajinepljdhaa", sum := "b69e7124e62b16b59df324b6493cd779cabff82b6b7bd8a32ae0391272275d6e", func := "loop.example/g01111/laws.FnForwardCosts", spec := "fnForwardCosts", unfollowed := true, recurses := true, apart := false, narrowed := true }
def FnForwardCostsUptoSaid : Prop := fnForwardCostsUptoRow.holds Try.pinned (OpenSpec.upto fnForwardCostsSpec)

/-- 'laws.FnHorizons', WHERE WHAT IT READS IS OF BULK AT MOST 1048576: true; the input reads as it did. -/
def fnHorizonsUptoRow : OpenClaim := { program := "ytncajinepljdhaa", sum := "b69e7124e62b16b59df324b6493cd779cabff82b6b7bd8a32ae0391272275d6e", func := "loop.example/g01111/laws.FnHorizons", spec := "fnHorizons", unfollowed := true, recurses := true, apart := false, narrowed := true }
def FnHorizonsUptoSaid : Prop := fnHorizonsUptoRow.holds Try.pinned (OpenSpec.upto fnHorizonsSpec)

/-- 'laws.FnFairPrices', WHERE WHAT IT READS IS OF BULK AT MOST 1048576: true; the input reads as it did. -/
def fnFairPricesUptoRow : OpenClaim := { program := "ytncajinepljdhaa", sum := "b69e7124e62b16b59df324b6493cd779cabff82b6b7bd8a32ae0391272275d6e", func := "loop.example/g01111/laws.FnFairPrices", spec := "fnFairPrices", unfollowed := true, recurses := true, apart := false, narrowed := true }
def FnFairPricesUptoSaid : Prop := fnFairPricesUptoRow.holds Try.pinned (OpenSpec.upto fnFairPricesSpec)

/-- 'laws.FnRules', WHERE WHAT IT READS IS OF BULK AT MOST 1048576: true; the input reads as it did. -/
def fnRulesUptoRow : OpenClaim := { program := "ytncajinepljdhaa", sum := "b69e7124e62b16b59df324b6493cd779cabff82b6b7bd8a32ae0391272275d6e", func := "loop.example/g01111/laws.FnRules", spec := "fnRules", unfollowed := true, recurses := true, apart := false, narrowed := true }
def FnRulesUptoSaid : Prop := fnRulesUptoRow.holds Try.pinned (OpenSpec.upto fnRulesSpec)

/-- 'laws.FnPlans', WHERE WHAT IT READS IS OF BULK AT MOST 1048576: true; the input reads as it did. -/
def fnPlansUptoRow : OpenClaim := { program := "ytncajinepljdhaa", sum := "b69e7124e62b16b59df324b6493cd779cabff82b6b7bd8a32ae0391272275d6e", func := "loop.example/g01111/laws.FnPlans", spec := "fnPlans", unfollowed := true, recurses := true, apart := false, narrowed := true }
def FnPlansUptoSaid : Prop := fnPlansUptoRow.holds Try.pinned (OpenSpec.upto fnPlansSpec)

/-- 'laws.FnBestPlans', WHERE WHAT IT READS IS OF BULK AT MOST 1048576: true; the input reads as it did. -/
def fnBestPlansUptoRow : OpenClaim := { program := "ytncajinepljdhaa", sum := "b69e7124e62b16b59df324b6493cd779cabff82b6b7bd8a32ae0391272275d6e", func := "loop.example/g01111/laws.FnBestPlans", spec := "fnBestPlans", unfollowed := true, recurses := true, apart := false, narrowed := true }
def FnBestPlansUptoSaid : Prop := fnBestPlansUptoRow.holds Try.pinned (OpenSpec.upto fnBestPlansSpec)

/-- 'laws.FnLimits', WHERE WHAT IT READS IS OF BULK AT MOST 1048576: true; the input reads as it did. -/
def fnLimitsUptoRow : OpenClaim := { program := "ytncajinepljdhaa", sum := "b69e7124e62b16b59df324b6493cd779cabff82b6b7bd8a32ae0391272275d6e", func := "loop.example/g01111/laws.FnLimits", spec := "fnLimits", unfollowed := true, recurses := true, apart := false, narrowed := true }
def FnLimitsUptoSaid : Prop := fnLimitsUptoRow.holds Try.pinned (OpenSpec.upto fnLimitsSpec)

/-- 'laws.FnRegular', WHERE WHAT IT READS IS OF BULK AT MOST 1048576: true; the input reads as it did. -/
def fnRegularUptoRow : OpenClaim := { program := "ytncajinepljdhaa", sum := "b69e7124e62b16b59df324b6493cd779cabff82b6b7bd8a32ae0391272275d6e", func := "loop.example/g01111/laws.FnRegular", spec := "fnRegular", unfollowed := true, recurses := true, apart := false, narrowed := true }
def FnRegularUptoSaid : Prop := fnRegularUptoRow.holds Try.pinned (OpenSpec.upto fnRegularSpec)

/-- 'laws.FnLatePlans', WHERE WHAT IT READS IS OF BULK AT MOST 1048576: true; the input reads as it did. -/
def fnLatePlansUptoRow : OpenClaim := { program := "ytncajinepljdhaa", sum := "b69e7124e62b16b59df324b6493cd779cabff82b6b7bd8a32ae0391272275d6e", func := "loop.example/g01111/laws.FnLatePlans", spec := "fnLatePlans", unfollowed := true, recurses := true, apart := false, narrowed := true }
def FnLatePlansUptoSaid : Prop := fnLatePlansUptoRow.holds Try.pinned (OpenSpec.upto fnLatePlansSpec)

/-- 'laws.FnExactJoinCases', WHERE WHAT IT READS IS OF BULK AT MOST 1048576: true; the input reads as it did. -/
def fnExactJoinCasesUptoRow : OpenClaim := { program := "ytncajinepljdhaa", sum := "b69e7124e62b16b59df324b6493cd779cabff82b6b7bd8a32ae0391272275d6e", func := "loop.example/g01111/laws.FnExactJoinCases", spec := "fnExactJoinCases", unfollowed := true, recurses := true, apart := false, narrowed := true }
def FnExactJoinCasesUptoSaid : Prop := fnExactJoinCasesUptoRow.holds Try.pinned (OpenSpec.upto fnExactJoinCasesSpec)

end Rows
end Go.Proofs.Ytncajinepljdhaa
