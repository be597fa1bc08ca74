/-
  No cell of these rows narrows 'for every input' (looked for: loops, veiled, ifaces, maps, wideKeys, modest, calm, conditions, laid).
  DERIVED. THE GIVEN ROWS OF THIS SEAT. 19 by the template 'for every input the law returns true; each argument reads behind the call as it read before'; 0 by the template 'total and deterministic' (their statements: YtgomgpfofniloaaTotals.lean).
  GIVEN WITH THE SEED: the statements are not yours to turn. If you find one false, say at which input.
  Laid BY PROGRAM, IN A SANDBOX (cutbox-rows.mjs): the forced cells as the released guide's own fill.sh prints them over the translation f2a5cc45f756ac8b… (all of the seat's roots in one cut). By AI agents, Wed Nov 11 2026. No macro, syntax, notation, axiom, sorry.
-/
import Derived.Test.YtgomgpfofniloaaChecked
import GoSem.Claim
import GoSem.ClaimJoined
import GoSem.ClaimMapViews
import Derived.JoinedTies
import Derived.KernelRfl
namespace Go.Proofs.Ytgomgpfofniloaa
/- THE CELL 'sum', in the pinned program and in every row, IS THE sha256 OF THE DUMP (.gsa) THAT YtgomgpfofniloaaProg.lean LOADS. Nothing in Lean hashes anything: it is a label: what it is worth is what the hold of that sum in a sandbox is worth. -/
noncomputable def Try.pinned : Pinned := { name := "ytgomgpfofniloaa", sum := "f2a5cc45f756ac8beea79df6011cf405b87951fe765995979e20df2744b3d42d", checked := Try.checked }
namespace Rows
def none {H : Type} : Left H := { results := [], args := [] }

/-- 'laws.FnExactRateOf': WHATEVER THE INPUT: true; the input reads as it did. -/
def fnExactRateOfSpec : ChangeSpec := { name := "fnExactRateOf", fn := fun _ => fun
  | [d1, d2, d3] => { results := [.lit (.bool true)], args := [d1, d2, d3] }
  | _ => none }
def fnExactRateOfRow : OpenClaim := { program := "ytgomgpfofniloaa", sum := "f2a5cc45f756ac8beea79df6011cf405b87951fe765995979e20df2744b3d42d", func := "loop.example/g01111/laws.FnExactRateOf", spec := "fnExactRateOf", unfollowed := true, recurses := true, apart := false }
def FnExactRateOfSaid : Prop := fnExactRateOfRow.holds Try.pinned (OpenSpec.ofChange fnExactRateOfSpec)

/-- ITS FALSE NEIGHBOUR: 'it returns false'. Refute it at one input. -/
def fnExactRateOfWrong : ChangeSpec := { name := "fnExactRateOf", fn := fun _ => fun
  | [d1, d2, d3] => { results := [.lit (.bool false)], args := [d1, d2, d3] }
  | _ => none }
def FnExactRateOfWrongFalsely : Prop := fnExactRateOfRow.holds Try.pinned (OpenSpec.ofChange fnExactRateOfWrong)

/-- 'laws.FnExactSpanCost': WHATEVER THE INPUT: true; the input reads as it did. -/
def fnExactSpanCostSpec : ChangeSpec := { name := "fnExactSpanCost", fn := fun _ => fun
  | [d1, d2, d3] => { results := [.lit (.bool true)], args := [d1, d2, d3] }
  | _ => none }
def fnExactSpanCostRow : OpenClaim := { program := "ytgomgpfofniloaa", sum := "f2a5cc45f756ac8beea79df6011cf405b87951fe765995979e20df2744b3d42d", func := "loop.example/g01111/laws.FnExactSpanCost", spec := "fnExactSpanCost", unfollowed := true, recurses := true, apart := false }
def FnExactSpanCostSaid : Prop := fnExactSpanCostRow.holds Try.pinned (OpenSpec.ofChange fnExactSpanCostSpec)

/-- ITS FALSE NEIGHBOUR: 'it returns false'. Refute it at one input. -/
def fnExactSpanCostWrong : ChangeSpec := { name := "fnExactSpanCost", fn := fun _ => fun
  | [d1, d2, d3] => { results := [.lit (.bool false)], args := [d1, d2, d3] }
  | _ => none }
def FnExactSpanCostWrongFalsely : Prop := fnExactSpanCostRow.holds Try.pinned (OpenSpec.ofChange fnExactSpanCostWrong)

/-- 'laws.FnExactForwardCosts': WHATEVER THE INPUT: true; the input reads as it did. -/
def fnExactForwardCostsSpec : ChangeSpec := { name := "fnExactForwardCosts", fn := fun _ => fun
  | [d] => { results := [.lit (.bool true)], args := [d] }
  | _ => none }
def fnExactForwardCostsRow : OpenClaim := { program := "ytgomgpfofniloaa", sum := "f2a5cc45f756ac8beea79df6011cf405b87951fe765995979e20df2744b3d42d", func := "loop.example/g01111/laws.FnExactForwardCosts", spec := "fnExactForwardCosts", unfollowed := true, recurses := true, apart := false }
def FnExactForwardCostsSaid : Prop := fnExactForwardCostsRow.holds Try.pinned (OpenSpec.ofChange fnExactForwardCostsSpec)

/-- ITS FALSE NEIGHBOUR: 'it returns false'. Refute it at one input. -/
def fnExactForwardCostsWrong : ChangeSpec := { name := "fnExactForwardCosts", fn := fun _ => fun
  | [d] => { results := [.lit (.bool false)], args := [d] }
  | _ => none }
def FnExactForwardCostsWrongFalsely : Prop := fnExactForwardCostsRow.holds Try.pinned (OpenSpec.ofChange fnExactForwardCostsWrong)

/-- 'laws.FnExactBackwardCosts': WHATEVER THE INPUT: true; the input reads as it did. -/
def fnExactBackwardCostsSpec : ChangeSpec := { name := "fnExactBackwardCosts", fn := fun _ => fun
  | [d] => { results := [.lit (.bool true)], args := [d] }
  | _ => none }
def fnExactBackwardCostsRow : OpenClaim := { program := "ytgomgpfofniloaa", sum := "f2a5cc45f756ac8beea79df6011cf405b87951fe765995979e20df2744b3d42d", func := "loop.example/g01111/laws.FnExactBackwardCosts", spec := "fnExactBackwardCosts", unfollowed := true, recurses := true, apart := false }
def FnExactBackwardCostsSaid : Prop := fnExactBackwardCostsRow.holds Try.pinned (OpenSpec.ofChange fnExactBackwardCostsSpec)

/-- ITS FALSE NEIGHBOUR: 'it returns false'. Refute it at one input. -/
def fnExactBackwardCostsWrong : ChangeSpec := { name := "fnExactBackwardCosts", fn := fun _ => fun
  | [d] => { results := [.lit (.bool false)], args := [d] }
  | _ => none }
def FnExactBackwardCostsWrongFalsely : Prop := fnExactBackwardCostsRow.holds Try.pinned (OpenSpec.ofChange fnExactBackwardCostsWrong)

/-- 'laws.FnExactLastOrders': WHATEVER THE INPUT: true; the input reads as it did. -/
def fnExactLastOrdersSpec : ChangeSpec := { name := "fnExactLastOrders", fn := fun _ => fun
  | [d] => { results := [.lit (.bool true)], args := [d] }
  | _ => none }
def fnExactLastOrdersRow : OpenClaim := { program := "ytgomgpfofniloaa", sum := "f2a5cc45f756ac8beea79df6011cf405b87951fe765995979e20df2744b3d42d", func := "loop.example/g01111/laws.FnExactLastOrders", spec := "fnExactLastOrders", unfollowed := true, recurses := true, apart := false }
def FnExactLastOrdersSaid : Prop := fnExactLastOrdersRow.holds Try.pinned (OpenSpec.ofChange fnExactLastOrdersSpec)

/-- ITS FALSE NEIGHBOUR: 'it returns false'. Refute it at one input. -/
def fnExactLastOrdersWrong : ChangeSpec := { name := "fnExactLastOrders", fn := fun _ => fun
  | [d] => { results := [.lit (.bool false)], args := [d] }
  | _ => none }
def FnExactLastOrdersWrongFalsely : Prop := fnExactLastOrdersRow.holds Try.pinned (OpenSpec.ofChange fnExactLastOrdersWrong)

/-- 'laws.FnExactTablePeriods': WHATEVER THE INPUT: true; the input reads as it did. -/
def fnExactTablePeriodsSpec : ChangeSpec := { name := "fnExactTablePeriods", fn := fun _ => fun
  | [d] => { results := [.lit (.bool true)], args := [d] }
  | _ => none }
def fnExactTablePeriodsRow : OpenClaim := { program := "ytgomgpfofniloaa", sum := "f2a5cc45f756ac8beea79df6011cf405b87951fe765995979e20df2744b3d42d", func := "loop.example/g01111/laws.FnExactTablePeriods", spec := "fnExactTablePeriods", unfollowed := true, recurses := true, apart := false }
def FnExactTablePeriodsSaid : Prop := fnExactTablePeriodsRow.holds Try.pinned (OpenSpec.ofChange fnExactTablePeriodsSpec)

/-- ITS FALSE NEIGHBOUR: 'it returns false'. Refute it at one input. -/
def fnExactTablePeriodsWrong : ChangeSpec := { name := "fnExactTablePeriods", fn := fun _ => fun
  | [d] => { results := [.lit (.bool false)], args := [d] }
  | _ => none }
def FnExactTablePeriodsWrongFalsely : Prop := fnExactTablePeriodsRow.holds Try.pinned (OpenSpec.ofChange fnExactTablePeriodsWrong)

/-- 'laws.FnExactTurningPeriods': WHATEVER THE INPUT: true; the input reads as it did. -/
def fnExactTurningPeriodsSpec : ChangeSpec := { name := "fnExactTurningPeriods", fn := fun _ => fun
  | [d] => { results := [.lit (.bool true)], args := [d] }
  | _ => none }
def fnExactTurningPeriodsRow : OpenClaim := { program := "ytgomgpfofniloaa", sum := "f2a5cc45f756ac8beea79df6011cf405b87951fe765995979e20df2744b3d42d", func := "loop.example/g01111/laws.FnExactTurningPeriods", spec := "fnExactTurningPeriods", unfollowed := true, recurses := true, apart := false }
def FnExactTurningPeriodsSaid : Prop := fnExactTurningPeriodsRow.holds Try.pinned (OpenSpec.ofChange fnExactTurningPeriodsSpec)

/-- ITS FALSE NEIGHBOUR: 'it returns false'. Refute it at one input. -/
def fnExactTurningPeriodsWrong : ChangeSpec := { name := "fnExactTurningPeriods", fn := fun _ => fun
  | [d] => { results := [.lit (.bool false)], args := [d] }
  | _ => none }
def FnExactTurningPeriodsWrongFalsely : Prop := fnExactTurningPeriodsRow.holds Try.pinned (OpenSpec.ofChange fnExactTurningPeriodsWrong)

/-- 'laws.FnExactHorizonsOf': WHATEVER THE INPUT: true; the input reads as it did. -/
def fnExactHorizonsOfSpec : ChangeSpec := { name := "fnExactHorizonsOf", fn := fun _ => fun
  | [d] => { results := [.lit (.bool true)], args := [d] }
  | _ => none }
def fnExactHorizonsOfRow : OpenClaim := { program := "ytgomgpfofniloaa", sum := "f2a5cc45f756ac8beea79df6011cf405b87951fe765995979e20df2744b3d42d", func := "loop.example/g01111/laws.FnExactHorizonsOf", spec := "fnExactHorizonsOf", unfollowed := true, recurses := true, apart := false }
def FnExactHorizonsOfSaid : Prop := fnExactHorizonsOfRow.holds Try.pinned (OpenSpec.ofChange fnExactHorizonsOfSpec)

/-- ITS FALSE NEIGHBOUR: 'it returns false'. Refute it at one input. -/
def fnExactHorizonsOfWrong : ChangeSpec := { name := "fnExactHorizonsOf", fn := fun _ => fun
  | [d] => { results := [.lit (.bool false)], args := [d] }
  | _ => none }
def FnExactHorizonsOfWrongFalsely : Prop := fnExactHorizonsOfRow.holds Try.pinned (OpenSpec.ofChange fnExactHorizonsOfWrong)

/-- 'laws.FnExactClaimsOf': WHATEVER THE INPUT: true; the input reads as it did. -/
def fnExactClaimsOfSpec : ChangeSpec := { name := "fnExactClaimsOf", fn := fun _ => fun
  | [d1, d2] => { results := [.lit (.bool true)], args := [d1, d2] }
  | _ => none }
def fnExactClaimsOfRow : OpenClaim := { program := "ytgomgpfofniloaa", sum := "f2a5cc45f756ac8beea79df6011cf405b87951fe765995979e20df2744b3d42d", func := "loop.example/g01111/laws.FnExactClaimsOf", spec := "fnExactClaimsOf", unfollowed := true, recurses := true, apart := false }
def FnExactClaimsOfSaid : Prop := fnExactClaimsOfRow.holds Try.pinned (OpenSpec.ofChange fnExactClaimsOfSpec)

/-- ITS FALSE NEIGHBOUR: 'it returns false'. Refute it at one input. -/
def fnExactClaimsOfWrong : ChangeSpec := { name := "fnExactClaimsOf", fn := fun _ => fun
  | [d1, d2] => { results := [.lit (.bool false)], args := [d1, d2] }
  | _ => none }
def FnExactClaimsOfWrongFalsely : Prop := fnExactClaimsOfRow.holds Try.pinned (OpenSpec.ofChange fnExactClaimsOfWrong)

/-- 'laws.FnExactAreFair': WHATEVER THE INPUT: true; the input reads as it did. -/
def fnExactAreFairSpec : ChangeSpec := { name := "fnExactAreFair", fn := fun _ => fun
  | [d1, d2] => { results := [.lit (.bool true)], args := [d1, d2] }
  | _ => none }
def fnExactAreFairRow : OpenClaim := { program := "ytgomgpfofniloaa", sum := "f2a5cc45f756ac8beea79df6011cf405b87951fe765995979e20df2744b3d42d", func := "loop.example/g01111/laws.FnExactAreFair", spec := "fnExactAreFair", unfollowed := true, recurses := true, apart := false }
def FnExactAreFairSaid : Prop := fnExactAreFairRow.holds Try.pinned (OpenSpec.ofChange fnExactAreFairSpec)

/-- ITS FALSE NEIGHBOUR: 'it returns false'. Refute it at one input. -/
def fnExactAreFairWrong : ChangeSpec := { name := "fnExactAreFair", fn := fun _ => fun
  | [d1, d2] => { results := [.lit (.bool false)], args := [d1, d2] }
  | _ => none }
def FnExactAreFairWrongFalsely : Prop := fnExactAreFairRow.holds Try.pinned (OpenSpec.ofChange fnExactAreFairWrong)

/-- 'laws.FnExactFairPrices': WHATEVER THE INPUT: true; the input reads as it did. -/
def fnExactFairPricesSpec : ChangeSpec := { name := "fnExactFairPrices", fn := fun _ => fun
  | [d] => { results := [.lit (.bool true)], args := [d] }
  | _ => none }
def fnExactFairPricesRow : OpenClaim := { program := "ytgomgpfofniloaa", sum := "f2a5cc45f756ac8beea79df6011cf405b87951fe765995979e20df2744b3d42d", func := "loop.example/g01111/laws.FnExactFairPrices", spec := "fnExactFairPrices", unfollowed := true, recurses := true, apart := false }
def FnExactFairPricesSaid : Prop := fnExactFairPricesRow.holds Try.pinned (OpenSpec.ofChange fnExactFairPricesSpec)

/-- ITS FALSE NEIGHBOUR: 'it returns false'. Refute it at one input. -/
def fnExactFairPricesWrong : ChangeSpec := { name := "fnExactFairPrices", fn := fun _ => fun
  | [d] => { results := [.lit (.bool false)], args := [d] }
  | _ => none }
def FnExactFairPricesWrongFalsely : Prop := fnExactFairPricesRow.holds Try.pinned (OpenSpec.ofChange fnExactFairPricesWrong)

/-- 'laws.FnExactIsPriceProof': WHATEVER THE INPUT: true; the input reads as it did. -/
def fnExactIsPriceProofSpec : ChangeSpec := { name := "fnExactIsPriceProof", fn := fun _ => fun
  | [d1, d2, d3] => { results := [.lit (.bool true)], args := [d1, d2, d3] }
  | _ => none }
def fnExactIsPriceProofRow : OpenClaim := { program := "ytgomgpfofniloaa", sum := "f2a5cc45f756ac8beea79df6011cf405b87951fe765995979e20df2744b3d42d", func := "loop.example/g01111/laws.FnExactIsPriceProof", spec := "fnExactIsPriceProof", unfollowed := true, recurses := true, apart := false }
def FnExactIsPriceProofSaid : Prop := fnExactIsPriceProofRow.holds Try.pinned (OpenSpec.ofChange fnExactIsPriceProofSpec)

/-- ITS FALSE NEIGHBOUR: 'it returns false'. Refute it at one input. -/
def fnExactIsPriceProofWrong : ChangeSpec := { name := "fnExactIsPriceProof", fn := fun _ => fun
  | [d1, d2, d3] => { results := [.lit (.bool false)], args := [d1, d2, d3] }
  | _ => none }
def FnExactIsPriceProofWrongFalsely : Prop := fnExactIsPriceProofRow.holds Try.pinned (OpenSpec.ofChange fnExactIsPriceProofWrong)

/-- 'laws.FnExactRulePeriods': WHATEVER THE INPUT: true; the input reads as it did. -/
def fnExactRulePeriodsSpec : ChangeSpec := { name := "fnExactRulePeriods", fn := fun _ => fun
  | [d1, d2] => { results := [.lit (.bool true)], args := [d1, d2] }
  | _ => none }
def fnExactRulePeriodsRow : OpenClaim := { program := "ytgomgpfofniloaa", sum := "f2a5cc45f756ac8beea79df6011cf405b87951fe765995979e20df2744b3d42d", func := "loop.example/g01111/laws.FnExactRulePeriods", spec := "fnExactRulePeriods", unfollowed := true, recurses := true, apart := false }
def FnExactRulePeriodsSaid : Prop := fnExactRulePeriodsRow.holds Try.pinned (OpenSpec.ofChange fnExactRulePeriodsSpec)

/-- ITS FALSE NEIGHBOUR: 'it returns false'. Refute it at one input. -/
def fnExactRulePeriodsWrong : ChangeSpec := { name := "fnExactRulePeriods", fn := fun _ => fun
  | [d1, d2] => { results := [.lit (.bool false)], args := [d1, d2] }
  | _ => none }
def FnExactRulePeriodsWrongFalsely : Prop := fnExactRulePeriodsRow.holds Try.pinned (OpenSpec.ofChange fnExactRulePeriodsWrong)

/-- 'laws.FnExactRuleGap': WHATEVER THE INPUT: true; the input reads as it did. -/
def fnExactRuleGapSpec : ChangeSpec := { name := "fnExactRuleGap", fn := fun _ => fun
  | [d1, d2] => { results := [.lit (.bool true)], args := [d1, d2] }
  | _ => none }
def fnExactRuleGapRow : OpenClaim := { program := "ytgomgpfofniloaa", sum := "f2a5cc45f756ac8beea79df6011cf405b87951fe765995979e20df2744b3d42d", func := "loop.example/g01111/laws.FnExactRuleGap", spec := "fnExactRuleGap", unfollowed := true, recurses := true, apart := false }
def FnExactRuleGapSaid : Prop := fnExactRuleGapRow.holds Try.pinned (OpenSpec.ofChange fnExactRuleGapSpec)

/-- ITS FALSE NEIGHBOUR: 'it returns false'. Refute it at one input. -/
def fnExactRuleGapWrong : ChangeSpec := { name := "fnExactRuleGap", fn := fun _ => fun
  | [d1, d2] => { results := [.lit (.bool false)], args := [d1, d2] }
  | _ => none }
def FnExactRuleGapWrongFalsely : Prop := fnExactRuleGapRow.holds Try.pinned (OpenSpec.ofChange fnExactRuleGapWrong)

/-- 'laws.FnExactSmoothPlan': WHATEVER THE INPUT: true; the input reads as it did. -/
def fnExactSmoothPlanSpec : ChangeSpec := { name := "fnExactSmoothPlan", fn := fun _ => fun
  | [d1, d2] => { results := [.lit (.bool true)], args := [d1, d2] }
  | _ => none }
def fnExactSmoothPlanRow : OpenClaim := { program := "ytgomgpfofniloaa", sum := "f2a5cc45f756ac8beea79df6011cf405b87951fe765995979e20df2744b3d42d", func := "loop.example/g01111/laws.FnExactSmoothPlan", spec := "fnExactSmoothPlan", unfollowed := true, recurses := true, apart := false }
def FnExactSmoothPlanSaid : Prop := fnExactSmoothPlanRow.holds Try.pinned (OpenSpec.ofChange fnExactSmoothPlanSpec)

/-- ITS FALSE NEIGHBOUR: 'it returns false'. Refute it at one input. -/
def fnExactSmoothPlanWrong : ChangeSpec := { name := "fnExactSmoothPlan", fn := fun _ => fun
  | [d1, d2] => { results := [.lit (.bool false)], args := [d1, d2] }
  | _ => none }
def FnExactSmoothPlanWrongFalsely : Prop := fnExactSmoothPlanRow.holds Try.pinned (OpenSpec.ofChange fnExactSmoothPlanWrong)

/-- 'laws.FnExactPlanFrom': WHATEVER THE INPUT: true; the input reads as it did. -/
def fnExactPlanFromSpec : ChangeSpec := { name := "fnExactPlanFrom", fn := fun _ => fun
  | [d1, d2] => { results := [.lit (.bool true)], args := [d1, d2] }
  | _ => none }
def fnExactPlanFromRow : OpenClaim := { program := "ytgomgpfofniloaa", sum := "f2a5cc45f756ac8beea79df6011cf405b87951fe765995979e20df2744b3d42d", func := "loop.example/g01111/laws.FnExactPlanFrom", spec := "fnExactPlanFrom", unfollowed := true, recurses := true, apart := false }
def FnExactPlanFromSaid : Prop := fnExactPlanFromRow.holds Try.pinned (OpenSpec.ofChange fnExactPlanFromSpec)

/-- ITS FALSE NEIGHBOUR: 'it returns false'. Refute it at one input. -/
def fnExactPlanFromWrong : ChangeSpec := { name := "fnExactPlanFrom", fn := fun _ => fun
  | [d1, d2] => { results := [.lit (.bool false)], args := [d1, d2] }
  | _ => none }
def FnExactPlanFromWrongFalsely : Prop := fnExactPlanFromRow.holds Try.pinned (OpenSpec.ofChange fnExactPlanFromWrong)

/-- 'laws.FnExactJoinCases': WHATEVER THE INPUT: true; the input reads as it did. -/
def fnExactJoinCasesSpec : ChangeSpec := { name := "fnExactJoinCases", fn := fun _ => fun
  | [d1, d2] => { results := [.lit (.bool true)], args := [d1, d2] }
  | _ => none }
def fnExactJoinCasesRow : OpenClaim := { program := "ytgomgpfofniloaa", sum := "f2a5cc45f756ac8beea79df6011cf405b87951fe765995979e20df2744b3d42d", func := "loop.example/g01111/laws.FnExactJoinCases", spec := "fnExactJoinCases", unfollowed := true, recurses := true, apart := false }
def FnExactJoinCasesSaid : Prop := fnExactJoinCasesRow.holds Try.pinned (OpenSpec.ofChange fnExactJoinCasesSpec)

/-- ITS FALSE NEIGHBOUR: 'it returns false'. Refute it at one input. -/
def fnExactJoinCasesWrong : ChangeSpec := { name := "fnExactJoinCases", fn := fun _ => fun
  | [d1, d2] => { results := [.lit (.bool false)], args := [d1, d2] }
  | _ => none }
def FnExactJoinCasesWrongFalsely : Prop := fnExactJoinCasesRow.holds Try.pinned (OpenSpec.ofChange fnExactJoinCasesWrong)

/-- 'laws.FnExactBestCost': WHATEVER THE INPUT: true; the input reads as it did. -/
def fnExactBestCostSpec : ChangeSpec := { name := "fnExactBestCost", fn := fun _ => fun
  | [d] => { results := [.lit (.bool true)], args := [d] }
  | _ => none }
def fnExactBestCostRow : OpenClaim := { program := "ytgomgpfofniloaa", sum := "f2a5cc45f756ac8beea79df6011cf405b87951fe765995979e20df2744b3d42d", func := "loop.example/g01111/laws.FnExactBestCost", spec := "fnExactBestCost", unfollowed := true, recurses := true, apart := false }
def FnExactBestCostSaid : Prop := fnExactBestCostRow.holds Try.pinned (OpenSpec.ofChange fnExactBestCostSpec)

/-- ITS FALSE NEIGHBOUR: 'it returns false'. Refute it at one input. -/
def fnExactBestCostWrong : ChangeSpec := { name := "fnExactBestCost", fn := fun _ => fun
  | [d] => { results := [.lit (.bool false)], args := [d] }
  | _ => none }
def FnExactBestCostWrongFalsely : Prop := fnExactBestCostRow.holds Try.pinned (OpenSpec.ofChange fnExactBestCostWrong)

/-- 'laws.FnExactBestPeriods': WHATEVER THE INPUT: true; the input reads as it did. -/
def fnExactBestPeriodsSpec : ChangeSpec := { name := "fnExactBestPeriods", fn := fun _ => fun
  | [d] => { results := [.lit (.bool true)], args := [d] }
  | _ => none }
def fnExactBestPeriodsRow : OpenClaim := { program := "ytgomgpfofniloaa", sum := "f2a5cc45f756ac8beea79df6011cf405b87951fe765995979e20df2744b3d42d", func := "loop.example/g01111/laws.FnExactBestPeriods", spec := "fnExactBestPeriods", unfollowed := true, recurses := true, apart := false }
def FnExactBestPeriodsSaid : Prop := fnExactBestPeriodsRow.holds Try.pinned (OpenSpec.ofChange fnExactBestPeriodsSpec)

/-- ITS FALSE NEIGHBOUR: 'it returns false'. Refute it at one input. -/
def fnExactBestPeriodsWrong : ChangeSpec := { name := "fnExactBestPeriods", fn := fun _ => fun
  | [d] => { results := [.lit (.bool false)], args := [d] }
  | _ => none }
def FnExactBestPeriodsWrongFalsely : Prop := fnExactBestPeriodsRow.holds Try.pinned (OpenSpec.ofChange fnExactBestPeriodsWrong)

/- THE SECOND FORM. 'bulk': how many values and letters a reading holds, each counted each time it is reached (what is shared counts as often as it is met; a slice's spare places count too). A statement '..UptoSaid' is the law's where the arguments, and the package variables that the reading takes, are together of bulk at most 1048576: NARROWER than '..Said'. Prove '..Said' where nothing that the law and all that it calls make is longer than what came in: it says more and counts as full. Else prove '..UptoSaid'. A law counts once. -/
mutual
def uptoBulk {H : Type} : DataW H → Nat
  | .lit (.string bytes) => bytes.length + 1
  | .lit _ => 1
  | .nil => 1
  | .ptr d => uptoBulk d + 1
  | .slice elems spare => uptoBulkAll elems + uptoBulkAll spare + 1
  | .agg parts => uptoBulkAll parts + 1
  | .iface _ d => uptoBulk d + 1
  | .map entries => uptoBulkEntries entries + 1
  | .held _ => 1
def uptoBulkAll {H : Type} : List (DataW H) → Nat
  | [] => 0
  | d :: r => uptoBulk d + uptoBulkAll r
def uptoBulkEntries {H : Type} : List (Lit × DataW H) → Nat
  | [] => 0
  | x :: r => uptoBulkEntry x + uptoBulkEntries r
def uptoBulkEntry {H : Type} : Lit × DataW H → Nat
  | (.string bytes, d) => bytes.length + uptoBulk d + 1
  | (_, d) => uptoBulk d + 1
 end
def uptoSmall : (H : Type) → List (DataW H) → Bool := fun _ ds => decide (uptoBulkAll ds ≤ 1048576)
def OpenSpec.upto (s : _root_.Go.ChangeSpec) : _root_.Go.OpenSpec := { _root_.Go.OpenSpec.ofChange s with cond := some uptoSmall }

/-- 'laws.FnExactRateOf', WHERE WHAT IT READS IS OF BULK AT MOST 1048576: true; the input reads as it did. -/
def fnExactRateOfUptoRow : OpenClaim := { program := "ytgomgpfofniloaa", sum := "f2a5cc45f756ac8beea79df6011cf405b87951fe765995979e20df2744b3d42d", func := "loop.example/g01111/laws.FnExactRateOf", spec := "fnExactRateOf", unfollowed := true, recurses := true, apart := false, narrowed := true }
def FnExactRateOfUptoSaid : Prop := fnExactRateOfUptoRow.holds Try.pinned (OpenSpec.upto fnExactRateOfSpec)

/-- 'laws.FnExactSpanCost', WHERE WHAT IT READS IS OF BULK AT MOST 1048576: true; the input reads as it did. -/
def fnExactSpanCostUptoRow : OpenClaim := { program := "ytgomgpfofniloaa", sum := "f2a5cc45f756ac8beea79df6011cf405b87951fe765995979e20df2744b3d42d", func := "loop.example/g01111/laws.FnExactSpanCost", spec := "fnExactSpanCost", unfollowed := true, recurses := true, apart := false, narrowed := true }
def FnExactSpanCostUptoSaid : Prop := fnExactSpanCostUptoRow.holds Try.pinned (OpenSpec.upto fnExactSpanCostSpec)

/-- 'laws.FnExactForwardCosts', WHERE WHAT IT READS IS OF BULK AT MOST 1048576: true; the input reads as it did. -/
def fnExactForwardCostsUptoRow : OpenClaim := { program := "ytgomgpfofniloaa", sum := "f2a5cc45f756ac8beea79df6011cf405b87951fe765995979e20df2744b3d42d", func := "loop.example/g01111/laws.FnExactForwardCosts", spec := "fnExactForwardCosts", unfollowed := true, recurses := true, apart := false, narrowed := true }
def FnExactForwardCostsUptoSaid : Prop := fnExactForwardCostsUptoRow.holds Try.pinned (OpenSpec.upto fnExactForwardCostsSpec)

/-- 'laws.FnExactBackwardCosts', WHERE WHAT IT READS IS OF BULK AT MOST 1048576: true; the input reads as it did. -/
def fnExactBackwardCostsUptoRow : OpenClaim := { program := "ytgomgpfofniloaa", sum := "f2a5cc45f756ac8beea79df6011cf405b87951fe765995979e20df2744b3d42d", func := "loop.example/g01111/laws.FnExactBackwardCosts", spec := "fnExactBackwardCosts", unfollowed := true, recurses := true, apart := false, narrowed := true }
def FnExactBackwardCostsUptoSaid : Prop := fnExactBackwardCostsUptoRow.holds Try.pinned (OpenSpec.upto fnExactBackwardCostsSpec)

/-- 'laws.FnExactLastOrders', WHERE WHAT IT READS IS OF BULK AT MOST 1048576: true; the input reads as it did. -/
def fnExactLastOrdersUptoRow : OpenClaim := { program := "ytgomgpfofniloaa", sum := "f2a5cc45f756ac8beea79df6011cf405b87951fe765995979e20df2744b3d42d", func := "loop.example/g01111/laws.FnExactLastOrders", spec := "fnExactLastOrders", unfollowed := true, recurses := true, apart := false, narrowed := true }
def FnExactLastOrdersUptoSaid : Prop := fnExactLastOrdersUptoRow.holds Try.pinned (OpenSpec.upto fnExactLastOrdersSpec)

/-- 'laws.FnExactTablePeriods', WHERE WHAT IT READS IS OF BULK AT MOST 1048576: true; the input reads as it did. -/
def fnExactTablePeriodsUptoRow : OpenClaim := { program := "ytgomgpfofniloaa", sum := "f2a5cc45f756ac8beea79df6011cf405b87951fe765995979e20df2744b3d42d", func := "loop.example/g01111/laws.FnExactTablePeriods", spec := "fnExactTablePeriods", unfollowed := true, recurses := true, apart := false, narrowed := true }
def FnExactTablePeriodsUptoSaid : Prop := fnExactTablePeriodsUptoRow.holds Try.pinned (OpenSpec.upto fnExactTablePeriodsSpec)

/-- 'laws.FnExactTurningPeriods', WHERE WHAT IT READS IS OF BULK AT MOST 1048576: true; the input reads as it did. -/
def fnExactTurningPeriodsUptoRow : OpenClaim := { program := "ytgomgpfofniloaa", sum := "f2a5cc45f756ac8beea79df6011cf405b87951fe765995979e20df2744b3d42d", func := "loop.example/g01111/laws.FnExactTurningPeriods", spec := "fnExactTurningPeriods", unfollowed := true, recurses := true, apart := false, narrowed := true }
def FnExactTurningPeriodsUptoSaid : Prop := fnExactTurningPeriodsUptoRow.holds Try.pinned (OpenSpec.upto fnExactTurningPeriodsSpec)

/-- 'laws.FnExactHorizonsOf', WHERE WHAT IT READS IS OF BULK AT MOST 1048576: true; the input reads as it did. -/
def fnExactHorizonsOfUptoRow : OpenClaim := { program := "ytgomgpfofniloaa", sum := "f2a5cc45f756ac8beea79df6011cf405b87951fe765995979e20df2744b3d42d", func := "loop.example/g01111/laws.FnExactHorizonsOf", spec := "fnExactHorizonsOf", unfollowed := true, recurses := true, apart := false, narrowed := true }
def FnExactHorizonsOfUptoSaid : Prop := fnExactHorizonsOfUptoRow.holds Try.pinned (OpenSpec.upto fnExactHorizonsOfSpec)

/-- 'laws.FnExactClaimsOf', WHERE WHAT IT READS IS OF BULK AT MOST 1048576: true; the input reads as it did. -/
def fnExactClaimsOfUptoRow : OpenClaim := { program := "ytgomgpfofniloaa", sum := "f2a5cc45f756ac8beea79df6011cf405b87951fe765995979e20df2744b3d42d", func := "loop.example/g01111/laws.FnExactClaimsOf", spec := "fnExactClaimsOf", unfollowed := true, recurses := true, apart := false, narrowed := true }
def FnExactClaimsOfUptoSaid : Prop := fnExactClaimsOfUptoRow.holds Try.pinned (OpenSpec.upto fnExactClaimsOfSpec)

/-- 'laws.FnExactAreFair', WHERE WHAT IT READS IS OF BULK AT MOST 1048576: true; the input reads as it did. -/
def fnExactAreFairUptoRow : OpenClaim := { program := "ytgomgpfofniloaa", sum := "f2a5cc45f756ac8beea79df6011cf405b87951fe765995979e20df2744b3d42d", func := "loop.example/g01111/laws.FnExactAreFair", spec := "fnExactAreFair", unfollowed := true, recurses := true, apart := false, narrowed := true }
def FnExactAreFairUptoSaid : Prop := fnExactAreFairUptoRow.holds Try.pinned (OpenSpec.upto fnExactAreFairSpec)

/-- 'laws.FnExactFairPrices', WHERE WHAT IT READS IS OF BULK AT MOST 1048576: true; the input reads as it did. -/
def fnExactFairPricesUptoRow : OpenClaim := { program := "ytgomgpfofniloaa", sum := "f2a5cc45f756ac8beea79df6011cf405b87951fe765995979e20df2744b3d42d", func := "loop.example/g01111/laws.FnExactFairPrices", spec := "fnExactFairPrices", unfollowed := true, recurses := true, apart := false, narrowed := true }
def FnExactFairPricesUptoSaid : Prop := fnExactFairPricesUptoRow.holds Try.pinned (OpenSpec.upto fnExactFairPricesSpec)

/-- 'laws.FnExactIsPriceProof', WHERE WHAT IT READS IS OF BULK AT MOST 1048576: true; the input reads as it did. -/
def fnExactIsPriceProofUptoRow : OpenClaim := { program := "ytgomgpfofniloaa", sum := "f2a5cc45f756ac8beea79df6011cf405b87951fe765995979e20df2744b3d42d", func := "loop.example/g01111/laws.FnExactIsPriceProof", spec := "fnExactIsPriceProof", unfollowed := true, recurses := true, apart := false, narrowed := true }
def FnExactIsPriceProofUptoSaid : Prop := fnExactIsPriceProofUptoRow.holds Try.pinned (OpenSpec.upto fnExactIsPriceProofSpec)

/-- 'laws.FnExactRulePeriods', WHERE WHAT IT READS IS OF BULK AT MOST 1048576: true; the input reads as it did. -/
def fnExactRulePeriodsUptoRow : OpenClaim := { program := "ytgomgpfofniloaa", sum := "f2a5cc45f756ac8beea79df6011cf405b87951fe765995979e20df2744b3d42d", func := "loop.example/g01111/laws.FnExactRulePeriods", spec := "fnExactRulePeriods", unfollowed := true, recurses := true, apart := false, narrowed := true }
def FnExactRulePeriodsUptoSaid : Prop := fnExactRulePeriodsUptoRow.holds Try.pinned (OpenSpec.upto fnExactRulePeriodsSpec)

/-- 'laws.FnExactRuleGap', WHERE WHAT IT READS IS OF BULK AT MOST 1048576: true; the input reads as it did. -/
def fnExactRuleGapUptoRow : OpenClaim := { program := "ytgomgpfofniloaa", sum := "f2a5cc45f756ac8beea79df6011cf405b87951fe765995979e20df2744b3d42d", func := "loop.example/g01111/laws.FnExactRuleGap", spec := "fnExactRuleGap", unfollowed := true, recurses := true, apart := false, narrowed := true }
def FnExactRuleGapUptoSaid : Prop := fnExactRuleGapUptoRow.holds Try.pinned (OpenSpec.upto fnExactRuleGapSpec)

/-- 'laws.FnExactSmoothPlan', WHERE WHAT IT READS IS OF BULK AT MOST 1048576: true; the input reads as it did. -/
def fnExactSmoothPlanUptoRow : OpenClaim := { program := "ytgomgpfofniloaa", sum := "f2a5cc45f756ac8beea79df6011cf405b87951fe765995979e20df2744b3d42d", func := "loop.example/g01111/laws.FnExactSmoothPlan", spec := "fnExactSmoothPlan", unfollowed := true, recurses := true, apart := false, narrowed := true }
def FnExactSmoothPlanUptoSaid : Prop := fnExactSmoothPlanUptoRow.holds Try.pinned (OpenSpec.upto fnExactSmoothPlanSpec)

/-- 'laws.FnExactPlanFrom', WHERE WHAT IT READS IS OF BULK AT MOST 1048576: true; the input reads as it did. -/
def fnExactPlanFromUptoRow : OpenClaim := { program := "ytgomgpfofniloaa", sum := "f2a5cc45f756ac8beea79df6011cf405b87951fe765995979e20df2744b3d42d", func := "loop.example/g01111/laws.FnExactPlanFrom", spec := "fnExactPlanFrom", unfollowed := true, recurses := true, apart := false, narrowed := true }
def FnExactPlanFromUptoSaid : Prop := fnExactPlanFromUptoRow.holds Try.pinned (OpenSpec.upto fnExactPlanFromSpec)

/-- 'laws.FnExactJoinCases', WHERE WHAT IT READS IS OF BULK AT MOST 1048576: true; the input reads as it did. -/
def fnExactJoinCasesUptoRow : OpenClaim := { program := "ytgomgpfofniloaa", sum := "f2a5cc45f756ac8beea79df6011cf405b87951fe765995979e20df2744b3d42d", func := "loop.example/g01111/laws.FnExactJoinCases", spec := "fnExactJoinCases", unfollowed := true, recurses := true, apart := false, narrowed := true }
def FnExactJoinCasesUptoSaid : Prop := fnExactJoinCasesUptoRow.holds Try.pinned (OpenSpec.upto fnExactJoinCasesSpec)

/-- 'laws.FnExactBestCost', WHERE WHAT IT READS IS OF BULK AT MOST 1048576: true; the input reads as it did. -/
def fnExactBestCostUptoRow : OpenClaim := { program := "ytgomgpfofniloaa", sum := "f2a5cc45f756ac8beea79df6011cf405b87951fe765995979e20df2744b3d42d", func := "loop.example/g01111/laws.FnExactBestCost", spec := "fnExactBestCost", unfollowed := true, recurses := true, apart := false, narrowed := true }
def FnExactBestCostUptoSaid : Prop := fnExactBestCostUptoRow.holds Try.pinned (OpenSpec.upto fnExactBestCostSpec)

/-- 'laws.FnExactBestPeriods', WHERE WHAT IT READS IS OF BULK AT MOST 1048576: true; the input reads as it did. -/
def fnExactBestPeriodsUptoRow : OpenClaim := { program := "ytgomgpfofniloaa", sum := "f2a5cc45f756ac8beea79df6011cf405b87951fe765995979e20df2744b3d42d", func := "loop.example/g01111/laws.FnExactBestPeriods", spec := "fnExactBestPeriods", unfollowed := true, recurses := true, apart := false, narrowed := true }
def FnExactBestPeriodsUptoSaid : Prop := fnExactBestPeriodsUptoRow.holds Try.pinned (OpenSpec.upto fnExactBestPeriodsSpec)

end Rows
end Go.Proofs.Ytgomgpfofniloaa
