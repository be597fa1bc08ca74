/-
  No cell of these rows narrows 'for every input' (looked for: loops, veiled, ifaces, maps, wideKeys, modest, calm, conditions, laid).
  DERIVED. THE GIVEN ROWS OF THIS SEAT. 15 by the template 'for every input the law returns true; each argument reads behind the call as it read before'; 0 by the template 'total and deterministic' (their statements: YtamhhicnfpemeaaTotals.lean).
  GIVEN WITH THE SEED: the statements are not yours to turn. If you find one false, say at which input.
  Laid BY PROGRAM, IN A SANDBOX (cutbox-rows.mjs): the forced cells as the released guide's own fill.sh prints them over the translation 38513c1f47a6930a… (all of the seat's roots in one cut). By AI agents, Wed Nov 11 2026. No macro, syntax, notation, axiom, sorry.
-/
import Derived.Test.YtamhhicnfpemeaaChecked
import GoSem.Claim
import GoSem.ClaimJoined
import GoSem.ClaimMapViews
import Derived.JoinedTies
import Derived.KernelRfl
namespace Go.Proofs.Ytamhhicnfpemeaa
/- THE CELL 'sum', in the pinned program and in every row, IS THE sha256 OF THE DUMP (.gsa) THAT YtamhhicnfpemeaaProg.lean LOADS. Nothing in Lean hashes anything: it is a label: what it is worth is what the hold of that sum in a sandbox is worth. -/
noncomputable def Try.pinned : Pinned := { name := "ytamhhicnfpemeaa", sum := "38513c1f47a6930a0378766ebfc539cb873c99f901e66a6b8ca33a76d1f9e78a", checked := Try.checked }
namespace Rows
def none {H : Type} : Left H := { results := [], args := [] }

/-- 'laws.FnAssemblies': WHATEVER THE INPUT: true; the input reads as it did. -/
def fnAssembliesSpec : ChangeSpec := { name := "fnAssemblies", fn := fun _ => fun
  | [d] => { results := [.lit (.bool true)], args := [d] }
  | _ => none }
def fnAssembliesRow : OpenClaim := { program := "ytamhhicnfpemeaa", sum := "38513c1f47a6930a0378766ebfc539cb873c99f901e66a6b8ca33a76d1f9e78a", func := "loop.example/g01111/laws.FnAssemblies", spec := "fnAssemblies", unfollowed := true, recurses := true, apart := false }
def FnAssembliesSaid : Prop := fnAssembliesRow.holds Try.pinned (OpenSpec.ofChange fnAssembliesSpec)

/-- ITS FALSE NEIGHBOUR: 'it returns false'. Refute it at one input. -/
def fnAssembliesWrong : ChangeSpec := { name := "fnAssemblies", fn := fun _ => fun
  | [d] => { results := [.lit (.bool false)], args := [d] }
  | _ => none }
def FnAssembliesWrongFalsely : Prop := fnAssembliesRow.holds Try.pinned (OpenSpec.ofChange fnAssembliesWrong)

/-- 'laws.FnExactIsChain': WHATEVER THE INPUT: true; the input reads as it did. -/
def fnExactIsChainSpec : ChangeSpec := { name := "fnExactIsChain", fn := fun _ => fun
  | [d] => { results := [.lit (.bool true)], args := [d] }
  | _ => none }
def fnExactIsChainRow : OpenClaim := { program := "ytamhhicnfpemeaa", sum := "38513c1f47a6930a0378766ebfc539cb873c99f901e66a6b8ca33a76d1f9e78a", func := "loop.example/g01111/laws.FnExactIsChain", spec := "fnExactIsChain", unfollowed := true, recurses := true, apart := false }
def FnExactIsChainSaid : Prop := fnExactIsChainRow.holds Try.pinned (OpenSpec.ofChange fnExactIsChainSpec)

/-- ITS FALSE NEIGHBOUR: 'it returns false'. Refute it at one input. -/
def fnExactIsChainWrong : ChangeSpec := { name := "fnExactIsChain", fn := fun _ => fun
  | [d] => { results := [.lit (.bool false)], args := [d] }
  | _ => none }
def FnExactIsChainWrongFalsely : Prop := fnExactIsChainRow.holds Try.pinned (OpenSpec.ofChange fnExactIsChainWrong)

/-- 'laws.FnExactChainStocks': WHATEVER THE INPUT: true; the input reads as it did. -/
def fnExactChainStocksSpec : ChangeSpec := { name := "fnExactChainStocks", fn := fun _ => fun
  | [d1, d2] => { results := [.lit (.bool true)], args := [d1, d2] }
  | _ => none }
def fnExactChainStocksRow : OpenClaim := { program := "ytamhhicnfpemeaa", sum := "38513c1f47a6930a0378766ebfc539cb873c99f901e66a6b8ca33a76d1f9e78a", func := "loop.example/g01111/laws.FnExactChainStocks", spec := "fnExactChainStocks", unfollowed := true, recurses := true, apart := false }
def FnExactChainStocksSaid : Prop := fnExactChainStocksRow.holds Try.pinned (OpenSpec.ofChange fnExactChainStocksSpec)

/-- ITS FALSE NEIGHBOUR: 'it returns false'. Refute it at one input. -/
def fnExactChainStocksWrong : ChangeSpec := { name := "fnExactChainStocks", fn := fun _ => fun
  | [d1, d2] => { results := [.lit (.bool false)], args := [d1, d2] }
  | _ => none }
def FnExactChainStocksWrongFalsely : Prop := fnExactChainStocksRow.holds Try.pinned (OpenSpec.ofChange fnExactChainStocksWrong)

/-- 'laws.FnExactIsChainPlan': WHATEVER THE INPUT: true; the input reads as it did. -/
def fnExactIsChainPlanSpec : ChangeSpec := { name := "fnExactIsChainPlan", fn := fun _ => fun
  | [d1, d2] => { results := [.lit (.bool true)], args := [d1, d2] }
  | _ => none }
def fnExactIsChainPlanRow : OpenClaim := { program := "ytamhhicnfpemeaa", sum := "38513c1f47a6930a0378766ebfc539cb873c99f901e66a6b8ca33a76d1f9e78a", func := "loop.example/g01111/laws.FnExactIsChainPlan", spec := "fnExactIsChainPlan", unfollowed := true, recurses := true, apart := false }
def FnExactIsChainPlanSaid : Prop := fnExactIsChainPlanRow.holds Try.pinned (OpenSpec.ofChange fnExactIsChainPlanSpec)

/-- ITS FALSE NEIGHBOUR: 'it returns false'. Refute it at one input. -/
def fnExactIsChainPlanWrong : ChangeSpec := { name := "fnExactIsChainPlan", fn := fun _ => fun
  | [d1, d2] => { results := [.lit (.bool false)], args := [d1, d2] }
  | _ => none }
def FnExactIsChainPlanWrongFalsely : Prop := fnExactIsChainPlanRow.holds Try.pinned (OpenSpec.ofChange fnExactIsChainPlanWrong)

/-- 'laws.FnExactChainCost': WHATEVER THE INPUT: true; the input reads as it did. -/
def fnExactChainCostSpec : ChangeSpec := { name := "fnExactChainCost", fn := fun _ => fun
  | [d1, d2] => { results := [.lit (.bool true)], args := [d1, d2] }
  | _ => none }
def fnExactChainCostRow : OpenClaim := { program := "ytamhhicnfpemeaa", sum := "38513c1f47a6930a0378766ebfc539cb873c99f901e66a6b8ca33a76d1f9e78a", func := "loop.example/g01111/laws.FnExactChainCost", spec := "fnExactChainCost", unfollowed := true, recurses := true, apart := false }
def FnExactChainCostSaid : Prop := fnExactChainCostRow.holds Try.pinned (OpenSpec.ofChange fnExactChainCostSpec)

/-- ITS FALSE NEIGHBOUR: 'it returns false'. Refute it at one input. -/
def fnExactChainCostWrong : ChangeSpec := { name := "fnExactChainCost", fn := fun _ => fun
  | [d1, d2] => { results := [.lit (.bool false)], args := [d1, d2] }
  | _ => none }
def FnExactChainCostWrongFalsely : Prop := fnExactChainCostRow.holds Try.pinned (OpenSpec.ofChange fnExactChainCostWrong)

/-- 'laws.FnExactEchelonHolds': WHATEVER THE INPUT: true; the input reads as it did. -/
def fnExactEchelonHoldsSpec : ChangeSpec := { name := "fnExactEchelonHolds", fn := fun _ => fun
  | [d] => { results := [.lit (.bool true)], args := [d] }
  | _ => none }
def fnExactEchelonHoldsRow : OpenClaim := { program := "ytamhhicnfpemeaa", sum := "38513c1f47a6930a0378766ebfc539cb873c99f901e66a6b8ca33a76d1f9e78a", func := "loop.example/g01111/laws.FnExactEchelonHolds", spec := "fnExactEchelonHolds", unfollowed := true, recurses := true, apart := false }
def FnExactEchelonHoldsSaid : Prop := fnExactEchelonHoldsRow.holds Try.pinned (OpenSpec.ofChange fnExactEchelonHoldsSpec)

/-- ITS FALSE NEIGHBOUR: 'it returns false'. Refute it at one input. -/
def fnExactEchelonHoldsWrong : ChangeSpec := { name := "fnExactEchelonHolds", fn := fun _ => fun
  | [d] => { results := [.lit (.bool false)], args := [d] }
  | _ => none }
def FnExactEchelonHoldsWrongFalsely : Prop := fnExactEchelonHoldsRow.holds Try.pinned (OpenSpec.ofChange fnExactEchelonHoldsWrong)

/-- 'laws.FnExactEchelonStocks': WHATEVER THE INPUT: true; the input reads as it did. -/
def fnExactEchelonStocksSpec : ChangeSpec := { name := "fnExactEchelonStocks", fn := fun _ => fun
  | [d1, d2] => { results := [.lit (.bool true)], args := [d1, d2] }
  | _ => none }
def fnExactEchelonStocksRow : OpenClaim := { program := "ytamhhicnfpemeaa", sum := "38513c1f47a6930a0378766ebfc539cb873c99f901e66a6b8ca33a76d1f9e78a", func := "loop.example/g01111/laws.FnExactEchelonStocks", spec := "fnExactEchelonStocks", unfollowed := true, recurses := true, apart := false }
def FnExactEchelonStocksSaid : Prop := fnExactEchelonStocksRow.holds Try.pinned (OpenSpec.ofChange fnExactEchelonStocksSpec)

/-- ITS FALSE NEIGHBOUR: 'it returns false'. Refute it at one input. -/
def fnExactEchelonStocksWrong : ChangeSpec := { name := "fnExactEchelonStocks", fn := fun _ => fun
  | [d1, d2] => { results := [.lit (.bool false)], args := [d1, d2] }
  | _ => none }
def FnExactEchelonStocksWrongFalsely : Prop := fnExactEchelonStocksRow.holds Try.pinned (OpenSpec.ofChange fnExactEchelonStocksWrong)

/-- 'laws.FnExactIsNestedPlan': WHATEVER THE INPUT: true; the input reads as it did. -/
def fnExactIsNestedPlanSpec : ChangeSpec := { name := "fnExactIsNestedPlan", fn := fun _ => fun
  | [d1, d2] => { results := [.lit (.bool true)], args := [d1, d2] }
  | _ => none }
def fnExactIsNestedPlanRow : OpenClaim := { program := "ytamhhicnfpemeaa", sum := "38513c1f47a6930a0378766ebfc539cb873c99f901e66a6b8ca33a76d1f9e78a", func := "loop.example/g01111/laws.FnExactIsNestedPlan", spec := "fnExactIsNestedPlan", unfollowed := true, recurses := true, apart := false }
def FnExactIsNestedPlanSaid : Prop := fnExactIsNestedPlanRow.holds Try.pinned (OpenSpec.ofChange fnExactIsNestedPlanSpec)

/-- ITS FALSE NEIGHBOUR: 'it returns false'. Refute it at one input. -/
def fnExactIsNestedPlanWrong : ChangeSpec := { name := "fnExactIsNestedPlan", fn := fun _ => fun
  | [d1, d2] => { results := [.lit (.bool false)], args := [d1, d2] }
  | _ => none }
def FnExactIsNestedPlanWrongFalsely : Prop := fnExactIsNestedPlanRow.holds Try.pinned (OpenSpec.ofChange fnExactIsNestedPlanWrong)

/-- 'laws.FnExactNestedPlan': WHATEVER THE INPUT: true; the input reads as it did. -/
def fnExactNestedPlanSpec : ChangeSpec := { name := "fnExactNestedPlan", fn := fun _ => fun
  | [d1, d2] => { results := [.lit (.bool true)], args := [d1, d2] }
  | _ => none }
def fnExactNestedPlanRow : OpenClaim := { program := "ytamhhicnfpemeaa", sum := "38513c1f47a6930a0378766ebfc539cb873c99f901e66a6b8ca33a76d1f9e78a", func := "loop.example/g01111/laws.FnExactNestedPlan", spec := "fnExactNestedPlan", unfollowed := true, recurses := true, apart := false }
def FnExactNestedPlanSaid : Prop := fnExactNestedPlanRow.holds Try.pinned (OpenSpec.ofChange fnExactNestedPlanSpec)

/-- ITS FALSE NEIGHBOUR: 'it returns false'. Refute it at one input. -/
def fnExactNestedPlanWrong : ChangeSpec := { name := "fnExactNestedPlan", fn := fun _ => fun
  | [d1, d2] => { results := [.lit (.bool false)], args := [d1, d2] }
  | _ => none }
def FnExactNestedPlanWrongFalsely : Prop := fnExactNestedPlanRow.holds Try.pinned (OpenSpec.ofChange fnExactNestedPlanWrong)

/-- 'laws.FnExactBestNested': WHATEVER THE INPUT: true; the input reads as it did. -/
def fnExactBestNestedSpec : ChangeSpec := { name := "fnExactBestNested", fn := fun _ => fun
  | [d] => { results := [.lit (.bool true)], args := [d] }
  | _ => none }
def fnExactBestNestedRow : OpenClaim := { program := "ytamhhicnfpemeaa", sum := "38513c1f47a6930a0378766ebfc539cb873c99f901e66a6b8ca33a76d1f9e78a", func := "loop.example/g01111/laws.FnExactBestNested", spec := "fnExactBestNested", unfollowed := true, recurses := true, apart := false }
def FnExactBestNestedSaid : Prop := fnExactBestNestedRow.holds Try.pinned (OpenSpec.ofChange fnExactBestNestedSpec)

/-- ITS FALSE NEIGHBOUR: 'it returns false'. Refute it at one input. -/
def fnExactBestNestedWrong : ChangeSpec := { name := "fnExactBestNested", fn := fun _ => fun
  | [d] => { results := [.lit (.bool false)], args := [d] }
  | _ => none }
def FnExactBestNestedWrongFalsely : Prop := fnExactBestNestedRow.holds Try.pinned (OpenSpec.ofChange fnExactBestNestedWrong)

/-- 'laws.FnExactBestChainCost': WHATEVER THE INPUT: true; the input reads as it did. -/
def fnExactBestChainCostSpec : ChangeSpec := { name := "fnExactBestChainCost", fn := fun _ => fun
  | [d] => { results := [.lit (.bool true)], args := [d] }
  | _ => none }
def fnExactBestChainCostRow : OpenClaim := { program := "ytamhhicnfpemeaa", sum := "38513c1f47a6930a0378766ebfc539cb873c99f901e66a6b8ca33a76d1f9e78a", func := "loop.example/g01111/laws.FnExactBestChainCost", spec := "fnExactBestChainCost", unfollowed := true, recurses := true, apart := false }
def FnExactBestChainCostSaid : Prop := fnExactBestChainCostRow.holds Try.pinned (OpenSpec.ofChange fnExactBestChainCostSpec)

/-- ITS FALSE NEIGHBOUR: 'it returns false'. Refute it at one input. -/
def fnExactBestChainCostWrong : ChangeSpec := { name := "fnExactBestChainCost", fn := fun _ => fun
  | [d] => { results := [.lit (.bool false)], args := [d] }
  | _ => none }
def FnExactBestChainCostWrongFalsely : Prop := fnExactBestChainCostRow.holds Try.pinned (OpenSpec.ofChange fnExactBestChainCostWrong)

/-- 'laws.FnExactStageCase': WHATEVER THE INPUT: true; the input reads as it did. -/
def fnExactStageCaseSpec : ChangeSpec := { name := "fnExactStageCase", fn := fun _ => fun
  | [d1, d2] => { results := [.lit (.bool true)], args := [d1, d2] }
  | _ => none }
def fnExactStageCaseRow : OpenClaim := { program := "ytamhhicnfpemeaa", sum := "38513c1f47a6930a0378766ebfc539cb873c99f901e66a6b8ca33a76d1f9e78a", func := "loop.example/g01111/laws.FnExactStageCase", spec := "fnExactStageCase", unfollowed := true, recurses := true, apart := false }
def FnExactStageCaseSaid : Prop := fnExactStageCaseRow.holds Try.pinned (OpenSpec.ofChange fnExactStageCaseSpec)

/-- ITS FALSE NEIGHBOUR: 'it returns false'. Refute it at one input. -/
def fnExactStageCaseWrong : ChangeSpec := { name := "fnExactStageCase", fn := fun _ => fun
  | [d1, d2] => { results := [.lit (.bool false)], args := [d1, d2] }
  | _ => none }
def FnExactStageCaseWrongFalsely : Prop := fnExactStageCaseRow.holds Try.pinned (OpenSpec.ofChange fnExactStageCaseWrong)

/-- 'laws.FnExactChainBound': WHATEVER THE INPUT: true; the input reads as it did. -/
def fnExactChainBoundSpec : ChangeSpec := { name := "fnExactChainBound", fn := fun _ => fun
  | [d] => { results := [.lit (.bool true)], args := [d] }
  | _ => none }
def fnExactChainBoundRow : OpenClaim := { program := "ytamhhicnfpemeaa", sum := "38513c1f47a6930a0378766ebfc539cb873c99f901e66a6b8ca33a76d1f9e78a", func := "loop.example/g01111/laws.FnExactChainBound", spec := "fnExactChainBound", unfollowed := true, recurses := true, apart := false }
def FnExactChainBoundSaid : Prop := fnExactChainBoundRow.holds Try.pinned (OpenSpec.ofChange fnExactChainBoundSpec)

/-- ITS FALSE NEIGHBOUR: 'it returns false'. Refute it at one input. -/
def fnExactChainBoundWrong : ChangeSpec := { name := "fnExactChainBound", fn := fun _ => fun
  | [d] => { results := [.lit (.bool false)], args := [d] }
  | _ => none }
def FnExactChainBoundWrongFalsely : Prop := fnExactChainBoundRow.holds Try.pinned (OpenSpec.ofChange fnExactChainBoundWrong)

/-- 'laws.FnExactStagewisePlan': WHATEVER THE INPUT: true; the input reads as it did. -/
def fnExactStagewisePlanSpec : ChangeSpec := { name := "fnExactStagewisePlan", fn := fun _ => fun
  | [d] => { results := [.lit (.bool true)], args := [d] }
  | _ => none }
def fnExactStagewisePlanRow : OpenClaim := { program := "ytamhhicnfpemeaa", sum := "38513c1f47a6930a0378766ebfc539cb873c99f901e66a6b8ca33a76d1f9e78a", func := "loop.example/g01111/laws.FnExactStagewisePlan", spec := "fnExactStagewisePlan", unfollowed := true, recurses := true, apart := false }
def FnExactStagewisePlanSaid : Prop := fnExactStagewisePlanRow.holds Try.pinned (OpenSpec.ofChange fnExactStagewisePlanSpec)

/-- ITS FALSE NEIGHBOUR: 'it returns false'. Refute it at one input. -/
def fnExactStagewisePlanWrong : ChangeSpec := { name := "fnExactStagewisePlan", fn := fun _ => fun
  | [d] => { results := [.lit (.bool false)], args := [d] }
  | _ => none }
def FnExactStagewisePlanWrongFalsely : Prop := fnExactStagewisePlanRow.holds Try.pinned (OpenSpec.ofChange fnExactStagewisePlanWrong)

/-- 'laws.FnExactBestAssembly': WHATEVER THE INPUT: true; the input reads as it did. -/
def fnExactBestAssemblySpec : ChangeSpec := { name := "fnExactBestAssembly", fn := fun _ => fun
  | [d1, d2, d3] => { results := [.lit (.bool true)], args := [d1, d2, d3] }
  | _ => none }
def fnExactBestAssemblyRow : OpenClaim := { program := "ytamhhicnfpemeaa", sum := "38513c1f47a6930a0378766ebfc539cb873c99f901e66a6b8ca33a76d1f9e78a", func := "loop.example/g01111/laws.FnExactBestAssembly", spec := "fnExactBestAssembly", unfollowed := true, recurses := true, apart := false }
def FnExactBestAssemblySaid : Prop := fnExactBestAssemblyRow.holds Try.pinned (OpenSpec.ofChange fnExactBestAssemblySpec)

/-- ITS FALSE NEIGHBOUR: 'it returns false'. Refute it at one input. -/
def fnExactBestAssemblyWrong : ChangeSpec := { name := "fnExactBestAssembly", fn := fun _ => fun
  | [d1, d2, d3] => { results := [.lit (.bool false)], args := [d1, d2, d3] }
  | _ => none }
def FnExactBestAssemblyWrongFalsely : Prop := fnExactBestAssemblyRow.holds Try.pinned (OpenSpec.ofChange fnExactBestAssemblyWrong)

/- THE SECOND FORM. 'bulk': how many values and letters a reading holds, each counted each time it is reached (what is shared counts as often as it is met; a slice's spare places count too). A statement '..UptoSaid' is the law's where the arguments, and the package variables that the reading takes, are together of bulk at most 1048576: NARROWER than '..Said'. Prove '..Said' where nothing that the law and all that it calls make is longer than what came in: it says more and counts as full. Else prove '..UptoSaid'. A law counts once. -/
mutual
def uptoBulk {H : Type} : DataW H → Nat
  | .lit (.string bytes) => bytes.length + 1
  | .lit _ => 1
  | .nil => 1
  | .ptr d => uptoBulk d + 1
  | .slice elems spare => uptoBulkAll elems + uptoBulkAll spare + 1
  | .agg parts => uptoBulkAll parts + 1
  | .iface _ d => uptoBulk d + 1
  | .map entries => uptoBulkEntries entries + 1
  | .held _ => 1
def uptoBulkAll {H : Type} : List (DataW H) → Nat
  | [] => 0
  | d :: r => uptoBulk d + uptoBulkAll r
def uptoBulkEntries {H : Type} : List (Lit × DataW H) → Nat
  | [] => 0
  | x :: r => uptoBulkEntry x + uptoBulkEntries r
def uptoBulkEntry {H : Type} : Lit × DataW H → Nat
  | (.string bytes, d) => bytes.length + uptoBulk d + 1
  | (_, d) => uptoBulk d + 1
 end
def uptoSmall : (H : Type) → List (DataW H) → Bool := fun _ ds => decide (uptoBulkAll ds ≤ 1048576)
def OpenSpec.upto (s : _root_.Go.ChangeSpec) : _root_.Go.OpenSpec := { _root_.Go.OpenSpec.ofChange s with cond := some uptoSmall }

/-- 'laws.FnAssemblies', WHERE WHAT IT READS IS OF BULK AT MOST 1048576: true; the input reads as it did. -/
def fnAssembliesUptoRow : OpenClaim := { program := "ytamhhicnfpemeaa", sum := "38513c1f47a6930a0378766ebfc539cb873c99f901e66a6b8ca33a76d1f9e78a", func := "loop.example/g01111/laws.FnAssemblies", spec := "fnAssemblies", unfollowed := true, recurses := true, apart := false, narrowed := true }
def FnAssembliesUptoSaid : Prop := fnAssembliesUptoRow.holds Try.pinned (OpenSpec.upto fnAssembliesSpec)

/-- 'laws.FnExactIsChain', WHERE WHAT IT READS IS OF BULK AT MOST 1048576: true; the input reads as it did. -/
def fnExactIsChainUptoRow : OpenClaim := { program := "ytamhhicnfpemeaa", sum := "38513c1f47a6930a0378766ebfc539cb873c99f901e66a6b8ca33a76d1f9e78a", func := "loop.example/g01111/laws.FnExactIsChain", spec := "fnExactIsChain", unfollowed := true, recurses := true, apart := false, narrowed := true }
def FnExactIsChainUptoSaid : Prop := fnExactIsChainUptoRow.holds Try.pinned (OpenSpec.upto fnExactIsChainSpec)

/-- 'laws.FnExactChainStocks', WHERE WHAT IT READS IS OF BULK AT MOST 1048576: true; the input reads as it did. -/
def fnExactChainStocksUptoRow : OpenClaim := { program := "ytamhhicnfpemeaa", sum := "38513c1f47a6930a0378766ebfc539cb873c99f901e66a6b8ca33a76d1f9e78a", func := "loop.example/g01111/laws.FnExactChainStocks", spec := "fnExactChainStocks", unfollowed := true, recurses := true, apart := false, narrowed := true }
def FnExactChainStocksUptoSaid : Prop := fnExactChainStocksUptoRow.holds Try.pinned (OpenSpec.upto fnExactChainStocksSpec)

/-- 'laws.FnExactIsChainPlan', WHERE WHAT IT READS IS OF BULK AT MOST 1048576: true; the input reads as it did. -/
def fnExactIsChainPlanUptoRow : OpenClaim := { program := "ytamhhicnfpemeaa", sum := "38513c1f47a6930a0378766ebfc539cb873c99f901e66a6b8ca33a76d1f9e78a", func := "loop.example/g01111/laws.FnExactIsChainPlan", spec := "fnExactIsChainPlan", unfollowed := true, recurses := true, apart := false, narrowed := true }
def FnExactIsChainPlanUptoSaid : Prop := fnExactIsChainPlanUptoRow.holds Try.pinned (OpenSpec.upto fnExactIsChainPlanSpec)

/-- 'laws.FnExactChainCost', WHERE WHAT IT READS IS OF BULK AT MOST 1048576: true; the input reads as it did. -/
def fnExactChainCostUptoRow : OpenClaim := { program := "ytamhhicnfpemeaa", sum := "38513c1f47a6930a0378766ebfc539cb873c99f901e66a6b8ca33a76d1f9e78a", func := "loop.example/g01111/laws.FnExactChainCost", spec := "fnExactChainCost", unfollowed := true, recurses := true, apart := false, narrowed := true }
def FnExactChainCostUptoSaid : Prop := fnExactChainCostUptoRow.holds Try.pinned (OpenSpec.upto fnExactChainCostSpec)

/-- 'laws.FnExactEchelonHolds', WHERE WHAT IT READS IS OF BULK AT MOST 1048576: true; the input reads as it did. -/
def fnExactEchelonHoldsUptoRow : OpenClaim := { program := "ytamhhicnfpemeaa", sum := "38513c1f47a6930a0378766ebfc539cb873c99f901e66a6b8ca33a76d1f9e78a", func := "loop.example/g01111/laws.FnExactEchelonHolds", spec := "fnExactEchelonHolds", unfollowed := true, recurses := true, apart := false, narrowed := true }
def FnExactEchelonHoldsUptoSaid : Prop := fnExactEchelonHoldsUptoRow.holds Try.pinned (OpenSpec.upto fnExactEchelonHoldsSpec)

/-- 'laws.FnExactEchelonStocks', WHERE WHAT IT READS IS OF BULK AT MOST 1048576: true; the input reads as it did. -/
def fnExactEchelonStocksUptoRow : OpenClaim := { program := "ytamhhicnfpemeaa", sum := "38513c1f47a6930a0378766ebfc539cb873c99f901e66a6b8ca33a76d1f9e78a", func := "loop.example/g01111/laws.FnExactEchelonStocks", spec := "fnExactEchelonStocks", unfollowed := true, recurses := true, apart := false, narrowed := true }
def FnExactEchelonStocksUptoSaid : Prop := fnExactEchelonStocksUptoRow.holds Try.pinned (OpenSpec.upto fnExactEchelonStocksSpec)

/-- 'laws.FnExactIsNestedPlan', WHERE WHAT IT READS IS OF BULK AT MOST 1048576: true; the input reads as it did. -/
def fnExactIsNestedPlanUptoRow : OpenClaim := { program := "ytamhhicnfpemeaa", sum := "38513c1f47a6930a0378766ebfc539cb873c99f901e66a6b8ca33a76d1f9e78a", func := "loop.example/g01111/laws.FnExactIsNestedPlan", spec := "fnExactIsNestedPlan", unfollowed := true, recurses := true, apart := false, narrowed := true }
def FnExactIsNestedPlanUptoSaid : Prop := fnExactIsNestedPlanUptoRow.holds Try.pinned (OpenSpec.upto fnExactIsNestedPlanSpec)

/-- 'laws.FnExactNestedPlan', WHERE WHAT IT READS IS OF BULK AT MOST 1048576: true; the input reads as it did. -/
def fnExactNestedPlanUptoRow : OpenClaim := { program := "ytamhhicnfpemeaa", sum := "38513c1f47a6930a0378766ebfc539cb873c99f901e66a6b8ca33a76d1f9e78a", func := "loop.example/g01111/laws.FnExactNestedPlan", spec := "fnExactNestedPlan", unfollowed := true, recurses := true, apart := false, narrowed := true }
def FnExactNestedPlanUptoSaid : Prop := fnExactNestedPlanUptoRow.holds Try.pinned (OpenSpec.upto fnExactNestedPlanSpec)

/-- 'laws.FnExactBestNested', WHERE WHAT IT READS IS OF BULK AT MOST 1048576: true; the input reads as it did. -/
def fnExactBestNestedUptoRow : OpenClaim := { program := "ytamhhicnfpemeaa", sum := "38513c1f47a6930a0378766ebfc539cb873c99f901e66a6b8ca33a76d1f9e78a", func := "loop.example/g01111/laws.FnExactBestNested", spec := "fnExactBestNested", unfollowed := true, recurses := true, apart := false, narrowed := true }
def FnExactBestNestedUptoSaid : Prop := fnExactBestNestedUptoRow.holds Try.pinned (OpenSpec.upto fnExactBestNestedSpec)

/-- 'laws.FnExactBestChainCost', WHERE WHAT IT READS IS OF BULK AT MOST 1048576: true; the input reads as it did. -/
def fnExactBestChainCostUptoRow : OpenClaim := { program := "ytamhhicnfpemeaa", sum := "38513c1f47a6930a0378766ebfc539cb873c99f901e66a6b8ca33a76d1f9e78a", func := "loop.example/g01111/laws.FnExactBestChainCost", spec := "fnExactBestChainCost", unfollowed := true, recurses := true, apart := false, narrowed := true }
def FnExactBestChainCostUptoSaid : Prop := fnExactBestChainCostUptoRow.holds Try.pinned (OpenSpec.upto fnExactBestChainCostSpec)

/-- 'laws.FnExactStageCase', WHERE WHAT IT READS IS OF BULK AT MOST 1048576: true; the input reads as it did. -/
def fnExactStageCaseUptoRow : OpenClaim := { program := "ytamhhicnfpemeaa", sum := "38513c1f47a6930a0378766ebfc539cb873c99f901e66a6b8ca33a76d1f9e78a", func := "loop.example/g01111/laws.FnExactStageCase", spec := "fnExactStageCase", unfollowed := true, recurses := true, apart := false, narrowed := true }
def FnExactStageCaseUptoSaid : Prop := fnExactStageCaseUptoRow.holds Try.pinned (OpenSpec.upto fnExactStageCaseSpec)

/-- 'laws.FnExactChainBound', WHERE WHAT IT READS IS OF BULK AT MOST 1048576: true; the input reads as it did. -/
def fnExactChainBoundUptoRow : OpenClaim := { program := "ytamhhicnfpemeaa", sum := "38513c1f47a6930a0378766ebfc539cb873c99f901e66a6b8ca33a76d1f9e78a", func := "loop.example/g01111/laws.FnExactChainBound", spec := "fnExactChainBound", unfollowed := true, recurses := true, apart := false, narrowed := true }
def FnExactChainBoundUptoSaid : Prop := fnExactChainBoundUptoRow.holds Try.pinned (OpenSpec.upto fnExactChainBoundSpec)

/-- 'laws.FnExactStagewisePlan', WHERE WHAT IT READS IS OF BULK AT MOST 1048576: true; the input reads as it did. -/
def fnExactStagewisePlanUptoRow : OpenClaim := { program := "ytamhhicnfpemeaa", sum := "38513c1f47a6930a0378766ebfc539cb873c99f901e66a6b8ca33a76d1f9e78a", func := "loop.example/g01111/laws.FnExactStagewisePlan", spec := "fnExactStagewisePlan", unfollowed := true, recurses := true, apart := false, narrowed := true }
def FnExactStagewisePlanUptoSaid : Prop := fnExactStagewisePlanUptoRow.holds Try.pinned (OpenSpec.upto fnExactStagewisePlanSpec)

/-- 'laws.FnExactBestAssembly', WHERE WHAT IT READS IS OF BULK AT MOST 1048576: true; the input reads as it did. -/
def fnExactBestAssemblyUptoRow : OpenClaim := { program := "ytamhhicnfpemeaa", sum := "38513c1f47a6930a0378766ebfc539cb873c99f901e66a6b8ca33a76d1f9e78a", func := "loop.example/g01111/laws.FnExactBestAssembly", spec := "fnExactBestAssembly", unfollowed := true, recurses := true, apart := false, narrowed := true }
def FnExactBestAssemblyUptoSaid : Prop := fnExactBestAssemblyUptoRow.holds Try.pinned (OpenSpec.upto fnExactBestAssemblySpec)

end Rows
end Go.Proofs.Ytamhhicnfpemeaa
