/-
  No cell of these rows narrows 'for every input' (looked for: loops, veiled, ifaces, maps, wideKeys, modest, calm, conditions, laid).
  DERIVED. THE GIVEN ROWS OF THIS SEAT. 18 by the template 'for every input the law returns true; each argument reads behind the call as it read before'; 0 by the template 'total and deterministic' (their statements: YtcibklbdpgkbeaaTotals.lean).
  GIVEN WITH THE SEED: the statements are not yours to turn. If you find one false, say at which input.
  Laid BY PROGRAM, IN A SANDBOX (cutbox-rows.mjs): the forced cells as the released guide's own fill.sh prints them over the translation 751de6d21d285ede… (all of the seat's roots in one cut). By AI agents, Wed Nov 11 2026. No macro, syntax, notation, axiom, sorry.
-/
import Derived.Test.YtcibklbdpgkbeaaChecked
import GoSem.Claim
import GoSem.ClaimJoined
import GoSem.ClaimMapViews
import Derived.JoinedTies
import Derived.KernelRfl
namespace Go.Proofs.Ytcibklbdpgkbeaa
/- THE CELL 'sum', in the pinned program and in every row, IS THE sha256 OF THE DUMP (.gsa) THAT YtcibklbdpgkbeaaProg.lean LOADS. Nothing in Lean hashes anything: it is a label: what it is worth is what the hold of that sum in a sandbox is worth. -/
noncomputable def Try.pinned : Pinned := { name := "ytcibklbdpgkbeaa", sum := "751de6d21d285ede0927b1575c5fba94d1b1da30e8563b25f817e34c7b179d3c", checked := Try.checked }
namespace Rows
def none {H : Type} : Left H := { results := [], args := [] }

/-- 'laws.FnExactIsCase': WHATEVER THE INPUT: true; the input reads as it did. -/
def fnExactIsCaseSpec : ChangeSpec := { name := "fnExactIsCase", fn := fun _ => fun
  | [d] => { results := [.lit (.bool true)], args := [d] }
  | _ => none }
def fnExactIsCaseRow : OpenClaim := { program := "ytcibklbdpgkbeaa", sum := "751de6d21d285ede0927b1575c5fba94d1b1da30e8563b25f817e34c7b179d3c", func := "loop.example/g01111/laws.FnExactIsCase", spec := "fnExactIsCase", unfollowed := true, recurses := true, apart := false }
def FnExactIsCaseSaid : Prop := fnExactIsCaseRow.holds Try.pinned (OpenSpec.ofChange fnExactIsCaseSpec)

/-- ITS FALSE NEIGHBOUR: 'it returns false'. Refute it at one input. -/
def fnExactIsCaseWrong : ChangeSpec := { name := "fnExactIsCase", fn := fun _ => fun
  | [d] => { results := [.lit (.bool false)], args := [d] }
  | _ => none }
def FnExactIsCaseWrongFalsely : Prop := fnExactIsCaseRow.holds Try.pinned (OpenSpec.ofChange fnExactIsCaseWrong)

/-- 'laws.FnExactStocksOf': WHATEVER THE INPUT: true; the input reads as it did. -/
def fnExactStocksOfSpec : ChangeSpec := { name := "fnExactStocksOf", fn := fun _ => fun
  | [d1, d2] => { results := [.lit (.bool true)], args := [d1, d2] }
  | _ => none }
def fnExactStocksOfRow : OpenClaim := { program := "ytcibklbdpgkbeaa", sum := "751de6d21d285ede0927b1575c5fba94d1b1da30e8563b25f817e34c7b179d3c", func := "loop.example/g01111/laws.FnExactStocksOf", spec := "fnExactStocksOf", unfollowed := true, recurses := true, apart := false }
def FnExactStocksOfSaid : Prop := fnExactStocksOfRow.holds Try.pinned (OpenSpec.ofChange fnExactStocksOfSpec)

/-- ITS FALSE NEIGHBOUR: 'it returns false'. Refute it at one input. -/
def fnExactStocksOfWrong : ChangeSpec := { name := "fnExactStocksOf", fn := fun _ => fun
  | [d1, d2] => { results := [.lit (.bool false)], args := [d1, d2] }
  | _ => none }
def FnExactStocksOfWrongFalsely : Prop := fnExactStocksOfRow.holds Try.pinned (OpenSpec.ofChange fnExactStocksOfWrong)

/-- 'laws.FnExactIsPlan': WHATEVER THE INPUT: true; the input reads as it did. -/
def fnExactIsPlanSpec : ChangeSpec := { name := "fnExactIsPlan", fn := fun _ => fun
  | [d1, d2] => { results := [.lit (.bool true)], args := [d1, d2] }
  | _ => none }
def fnExactIsPlanRow : OpenClaim := { program := "ytcibklbdpgkbeaa", sum := "751de6d21d285ede0927b1575c5fba94d1b1da30e8563b25f817e34c7b179d3c", func := "loop.example/g01111/laws.FnExactIsPlan", spec := "fnExactIsPlan", unfollowed := true, recurses := true, apart := false }
def FnExactIsPlanSaid : Prop := fnExactIsPlanRow.holds Try.pinned (OpenSpec.ofChange fnExactIsPlanSpec)

/-- ITS FALSE NEIGHBOUR: 'it returns false'. Refute it at one input. -/
def fnExactIsPlanWrong : ChangeSpec := { name := "fnExactIsPlan", fn := fun _ => fun
  | [d1, d2] => { results := [.lit (.bool false)], args := [d1, d2] }
  | _ => none }
def FnExactIsPlanWrongFalsely : Prop := fnExactIsPlanRow.holds Try.pinned (OpenSpec.ofChange fnExactIsPlanWrong)

/-- 'laws.FnExactPlanCost': WHATEVER THE INPUT: true; the input reads as it did. -/
def fnExactPlanCostSpec : ChangeSpec := { name := "fnExactPlanCost", fn := fun _ => fun
  | [d1, d2] => { results := [.lit (.bool true)], args := [d1, d2] }
  | _ => none }
def fnExactPlanCostRow : OpenClaim := { program := "ytcibklbdpgkbeaa", sum := "751de6d21d285ede0927b1575c5fba94d1b1da30e8563b25f817e34c7b179d3c", func := "loop.example/g01111/laws.FnExactPlanCost", spec := "fnExactPlanCost", unfollowed := true, recurses := true, apart := false }
def FnExactPlanCostSaid : Prop := fnExactPlanCostRow.holds Try.pinned (OpenSpec.ofChange fnExactPlanCostSpec)

/-- ITS FALSE NEIGHBOUR: 'it returns false'. Refute it at one input. -/
def fnExactPlanCostWrong : ChangeSpec := { name := "fnExactPlanCost", fn := fun _ => fun
  | [d1, d2] => { results := [.lit (.bool false)], args := [d1, d2] }
  | _ => none }
def FnExactPlanCostWrongFalsely : Prop := fnExactPlanCostRow.holds Try.pinned (OpenSpec.ofChange fnExactPlanCostWrong)

/-- 'laws.FnExactCostParts': WHATEVER THE INPUT: true; the input reads as it did. -/
def fnExactCostPartsSpec : ChangeSpec := { name := "fnExactCostParts", fn := fun _ => fun
  | [d1, d2] => { results := [.lit (.bool true)], args := [d1, d2] }
  | _ => none }
def fnExactCostPartsRow : OpenClaim := { program := "ytcibklbdpgkbeaa", sum := "751de6d21d285ede0927b1575c5fba94d1b1da30e8563b25f817e34c7b179d3c", func := "loop.example/g01111/laws.FnExactCostParts", spec := "fnExactCostParts", unfollowed := true, recurses := true, apart := false }
def FnExactCostPartsSaid : Prop := fnExactCostPartsRow.holds Try.pinned (OpenSpec.ofChange fnExactCostPartsSpec)

/-- ITS FALSE NEIGHBOUR: 'it returns false'. Refute it at one input. -/
def fnExactCostPartsWrong : ChangeSpec := { name := "fnExactCostParts", fn := fun _ => fun
  | [d1, d2] => { results := [.lit (.bool false)], args := [d1, d2] }
  | _ => none }
def FnExactCostPartsWrongFalsely : Prop := fnExactCostPartsRow.holds Try.pinned (OpenSpec.ofChange fnExactCostPartsWrong)

/-- 'laws.FnExactEmptyPeriods': WHATEVER THE INPUT: true; the input reads as it did. -/
def fnExactEmptyPeriodsSpec : ChangeSpec := { name := "fnExactEmptyPeriods", fn := fun _ => fun
  | [d1, d2] => { results := [.lit (.bool true)], args := [d1, d2] }
  | _ => none }
def fnExactEmptyPeriodsRow : OpenClaim := { program := "ytcibklbdpgkbeaa", sum := "751de6d21d285ede0927b1575c5fba94d1b1da30e8563b25f817e34c7b179d3c", func := "loop.example/g01111/laws.FnExactEmptyPeriods", spec := "fnExactEmptyPeriods", unfollowed := true, recurses := true, apart := false }
def FnExactEmptyPeriodsSaid : Prop := fnExactEmptyPeriodsRow.holds Try.pinned (OpenSpec.ofChange fnExactEmptyPeriodsSpec)

/-- ITS FALSE NEIGHBOUR: 'it returns false'. Refute it at one input. -/
def fnExactEmptyPeriodsWrong : ChangeSpec := { name := "fnExactEmptyPeriods", fn := fun _ => fun
  | [d1, d2] => { results := [.lit (.bool false)], args := [d1, d2] }
  | _ => none }
def FnExactEmptyPeriodsWrongFalsely : Prop := fnExactEmptyPeriodsRow.holds Try.pinned (OpenSpec.ofChange fnExactEmptyPeriodsWrong)

/-- 'laws.FnExactOrdersAtEmpty': WHATEVER THE INPUT: true; the input reads as it did. -/
def fnExactOrdersAtEmptySpec : ChangeSpec := { name := "fnExactOrdersAtEmpty", fn := fun _ => fun
  | [d1, d2] => { results := [.lit (.bool true)], args := [d1, d2] }
  | _ => none }
def fnExactOrdersAtEmptyRow : OpenClaim := { program := "ytcibklbdpgkbeaa", sum := "751de6d21d285ede0927b1575c5fba94d1b1da30e8563b25f817e34c7b179d3c", func := "loop.example/g01111/laws.FnExactOrdersAtEmpty", spec := "fnExactOrdersAtEmpty", unfollowed := true, recurses := true, apart := false }
def FnExactOrdersAtEmptySaid : Prop := fnExactOrdersAtEmptyRow.holds Try.pinned (OpenSpec.ofChange fnExactOrdersAtEmptySpec)

/-- ITS FALSE NEIGHBOUR: 'it returns false'. Refute it at one input. -/
def fnExactOrdersAtEmptyWrong : ChangeSpec := { name := "fnExactOrdersAtEmpty", fn := fun _ => fun
  | [d1, d2] => { results := [.lit (.bool false)], args := [d1, d2] }
  | _ => none }
def FnExactOrdersAtEmptyWrongFalsely : Prop := fnExactOrdersAtEmptyRow.holds Try.pinned (OpenSpec.ofChange fnExactOrdersAtEmptyWrong)

/-- 'laws.FnExactPlanFrom': WHATEVER THE INPUT: true; the input reads as it did. -/
def fnExactPlanFromSpec : ChangeSpec := { name := "fnExactPlanFrom", fn := fun _ => fun
  | [d1, d2] => { results := [.lit (.bool true)], args := [d1, d2] }
  | _ => none }
def fnExactPlanFromRow : OpenClaim := { program := "ytcibklbdpgkbeaa", sum := "751de6d21d285ede0927b1575c5fba94d1b1da30e8563b25f817e34c7b179d3c", func := "loop.example/g01111/laws.FnExactPlanFrom", spec := "fnExactPlanFrom", unfollowed := true, recurses := true, apart := false }
def FnExactPlanFromSaid : Prop := fnExactPlanFromRow.holds Try.pinned (OpenSpec.ofChange fnExactPlanFromSpec)

/-- ITS FALSE NEIGHBOUR: 'it returns false'. Refute it at one input. -/
def fnExactPlanFromWrong : ChangeSpec := { name := "fnExactPlanFrom", fn := fun _ => fun
  | [d1, d2] => { results := [.lit (.bool false)], args := [d1, d2] }
  | _ => none }
def FnExactPlanFromWrongFalsely : Prop := fnExactPlanFromRow.holds Try.pinned (OpenSpec.ofChange fnExactPlanFromWrong)

/-- 'laws.FnExactOrderPeriods': WHATEVER THE INPUT: true; the input reads as it did. -/
def fnExactOrderPeriodsSpec : ChangeSpec := { name := "fnExactOrderPeriods", fn := fun _ => fun
  | [d1, d2] => { results := [.lit (.bool true)], args := [d1, d2] }
  | _ => none }
def fnExactOrderPeriodsRow : OpenClaim := { program := "ytcibklbdpgkbeaa", sum := "751de6d21d285ede0927b1575c5fba94d1b1da30e8563b25f817e34c7b179d3c", func := "loop.example/g01111/laws.FnExactOrderPeriods", spec := "fnExactOrderPeriods", unfollowed := true, recurses := true, apart := false }
def FnExactOrderPeriodsSaid : Prop := fnExactOrderPeriodsRow.holds Try.pinned (OpenSpec.ofChange fnExactOrderPeriodsSpec)

/-- ITS FALSE NEIGHBOUR: 'it returns false'. Refute it at one input. -/
def fnExactOrderPeriodsWrong : ChangeSpec := { name := "fnExactOrderPeriods", fn := fun _ => fun
  | [d1, d2] => { results := [.lit (.bool false)], args := [d1, d2] }
  | _ => none }
def FnExactOrderPeriodsWrongFalsely : Prop := fnExactOrderPeriodsRow.holds Try.pinned (OpenSpec.ofChange fnExactOrderPeriodsWrong)

/-- 'laws.FnExactBestPeriods': WHATEVER THE INPUT: true; the input reads as it did. -/
def fnExactBestPeriodsSpec : ChangeSpec := { name := "fnExactBestPeriods", fn := fun _ => fun
  | [d] => { results := [.lit (.bool true)], args := [d] }
  | _ => none }
def fnExactBestPeriodsRow : OpenClaim := { program := "ytcibklbdpgkbeaa", sum := "751de6d21d285ede0927b1575c5fba94d1b1da30e8563b25f817e34c7b179d3c", func := "loop.example/g01111/laws.FnExactBestPeriods", spec := "fnExactBestPeriods", unfollowed := true, recurses := true, apart := false }
def FnExactBestPeriodsSaid : Prop := fnExactBestPeriodsRow.holds Try.pinned (OpenSpec.ofChange fnExactBestPeriodsSpec)

/-- ITS FALSE NEIGHBOUR: 'it returns false'. Refute it at one input. -/
def fnExactBestPeriodsWrong : ChangeSpec := { name := "fnExactBestPeriods", fn := fun _ => fun
  | [d] => { results := [.lit (.bool false)], args := [d] }
  | _ => none }
def FnExactBestPeriodsWrongFalsely : Prop := fnExactBestPeriodsRow.holds Try.pinned (OpenSpec.ofChange fnExactBestPeriodsWrong)

/-- 'laws.FnExactBestCost': WHATEVER THE INPUT: true; the input reads as it did. -/
def fnExactBestCostSpec : ChangeSpec := { name := "fnExactBestCost", fn := fun _ => fun
  | [d] => { results := [.lit (.bool true)], args := [d] }
  | _ => none }
def fnExactBestCostRow : OpenClaim := { program := "ytcibklbdpgkbeaa", sum := "751de6d21d285ede0927b1575c5fba94d1b1da30e8563b25f817e34c7b179d3c", func := "loop.example/g01111/laws.FnExactBestCost", spec := "fnExactBestCost", unfollowed := true, recurses := true, apart := false }
def FnExactBestCostSaid : Prop := fnExactBestCostRow.holds Try.pinned (OpenSpec.ofChange fnExactBestCostSpec)

/-- ITS FALSE NEIGHBOUR: 'it returns false'. Refute it at one input. -/
def fnExactBestCostWrong : ChangeSpec := { name := "fnExactBestCost", fn := fun _ => fun
  | [d] => { results := [.lit (.bool false)], args := [d] }
  | _ => none }
def FnExactBestCostWrongFalsely : Prop := fnExactBestCostRow.holds Try.pinned (OpenSpec.ofChange fnExactBestCostWrong)

/-- 'laws.FnExactSmoothPlan': WHATEVER THE INPUT: true; the input reads as it did. -/
def fnExactSmoothPlanSpec : ChangeSpec := { name := "fnExactSmoothPlan", fn := fun _ => fun
  | [d1, d2] => { results := [.lit (.bool true)], args := [d1, d2] }
  | _ => none }
def fnExactSmoothPlanRow : OpenClaim := { program := "ytcibklbdpgkbeaa", sum := "751de6d21d285ede0927b1575c5fba94d1b1da30e8563b25f817e34c7b179d3c", func := "loop.example/g01111/laws.FnExactSmoothPlan", spec := "fnExactSmoothPlan", unfollowed := true, recurses := true, apart := false }
def FnExactSmoothPlanSaid : Prop := fnExactSmoothPlanRow.holds Try.pinned (OpenSpec.ofChange fnExactSmoothPlanSpec)

/-- ITS FALSE NEIGHBOUR: 'it returns false'. Refute it at one input. -/
def fnExactSmoothPlanWrong : ChangeSpec := { name := "fnExactSmoothPlan", fn := fun _ => fun
  | [d1, d2] => { results := [.lit (.bool false)], args := [d1, d2] }
  | _ => none }
def FnExactSmoothPlanWrongFalsely : Prop := fnExactSmoothPlanRow.holds Try.pinned (OpenSpec.ofChange fnExactSmoothPlanWrong)

/-- 'laws.FnExactLotForLot': WHATEVER THE INPUT: true; the input reads as it did. -/
def fnExactLotForLotSpec : ChangeSpec := { name := "fnExactLotForLot", fn := fun _ => fun
  | [d] => { results := [.lit (.bool true)], args := [d] }
  | _ => none }
def fnExactLotForLotRow : OpenClaim := { program := "ytcibklbdpgkbeaa", sum := "751de6d21d285ede0927b1575c5fba94d1b1da30e8563b25f817e34c7b179d3c", func := "loop.example/g01111/laws.FnExactLotForLot", spec := "fnExactLotForLot", unfollowed := true, recurses := true, apart := false }
def FnExactLotForLotSaid : Prop := fnExactLotForLotRow.holds Try.pinned (OpenSpec.ofChange fnExactLotForLotSpec)

/-- ITS FALSE NEIGHBOUR: 'it returns false'. Refute it at one input. -/
def fnExactLotForLotWrong : ChangeSpec := { name := "fnExactLotForLot", fn := fun _ => fun
  | [d] => { results := [.lit (.bool false)], args := [d] }
  | _ => none }
def FnExactLotForLotWrongFalsely : Prop := fnExactLotForLotRow.holds Try.pinned (OpenSpec.ofChange fnExactLotForLotWrong)

/-- 'laws.FnExactCutCase': WHATEVER THE INPUT: true; the input reads as it did. -/
def fnExactCutCaseSpec : ChangeSpec := { name := "fnExactCutCase", fn := fun _ => fun
  | [d1, d2, d3] => { results := [.lit (.bool true)], args := [d1, d2, d3] }
  | _ => none }
def fnExactCutCaseRow : OpenClaim := { program := "ytcibklbdpgkbeaa", sum := "751de6d21d285ede0927b1575c5fba94d1b1da30e8563b25f817e34c7b179d3c", func := "loop.example/g01111/laws.FnExactCutCase", spec := "fnExactCutCase", unfollowed := true, recurses := true, apart := false }
def FnExactCutCaseSaid : Prop := fnExactCutCaseRow.holds Try.pinned (OpenSpec.ofChange fnExactCutCaseSpec)

/-- ITS FALSE NEIGHBOUR: 'it returns false'. Refute it at one input. -/
def fnExactCutCaseWrong : ChangeSpec := { name := "fnExactCutCase", fn := fun _ => fun
  | [d1, d2, d3] => { results := [.lit (.bool false)], args := [d1, d2, d3] }
  | _ => none }
def FnExactCutCaseWrongFalsely : Prop := fnExactCutCaseRow.holds Try.pinned (OpenSpec.ofChange fnExactCutCaseWrong)

/-- 'laws.FnExactJoinCases': WHATEVER THE INPUT: true; the input reads as it did. -/
def fnExactJoinCasesSpec : ChangeSpec := { name := "fnExactJoinCases", fn := fun _ => fun
  | [d1, d2] => { results := [.lit (.bool true)], args := [d1, d2] }
  | _ => none }
def fnExactJoinCasesRow : OpenClaim := { program := "ytcibklbdpgkbeaa", sum := "751de6d21d285ede0927b1575c5fba94d1b1da30e8563b25f817e34c7b179d3c", func := "loop.example/g01111/laws.FnExactJoinCases", spec := "fnExactJoinCases", unfollowed := true, recurses := true, apart := false }
def FnExactJoinCasesSaid : Prop := fnExactJoinCasesRow.holds Try.pinned (OpenSpec.ofChange fnExactJoinCasesSpec)

/-- ITS FALSE NEIGHBOUR: 'it returns false'. Refute it at one input. -/
def fnExactJoinCasesWrong : ChangeSpec := { name := "fnExactJoinCases", fn := fun _ => fun
  | [d1, d2] => { results := [.lit (.bool false)], args := [d1, d2] }
  | _ => none }
def FnExactJoinCasesWrongFalsely : Prop := fnExactJoinCasesRow.holds Try.pinned (OpenSpec.ofChange fnExactJoinCasesWrong)

/-- 'laws.FnExactWaitsNever': WHATEVER THE INPUT: true; the input reads as it did. -/
def fnExactWaitsNeverSpec : ChangeSpec := { name := "fnExactWaitsNever", fn := fun _ => fun
  | [d] => { results := [.lit (.bool true)], args := [d] }
  | _ => none }
def fnExactWaitsNeverRow : OpenClaim := { program := "ytcibklbdpgkbeaa", sum := "751de6d21d285ede0927b1575c5fba94d1b1da30e8563b25f817e34c7b179d3c", func := "loop.example/g01111/laws.FnExactWaitsNever", spec := "fnExactWaitsNever", unfollowed := true, recurses := true, apart := false }
def FnExactWaitsNeverSaid : Prop := fnExactWaitsNeverRow.holds Try.pinned (OpenSpec.ofChange fnExactWaitsNeverSpec)

/-- ITS FALSE NEIGHBOUR: 'it returns false'. Refute it at one input. -/
def fnExactWaitsNeverWrong : ChangeSpec := { name := "fnExactWaitsNever", fn := fun _ => fun
  | [d] => { results := [.lit (.bool false)], args := [d] }
  | _ => none }
def FnExactWaitsNeverWrongFalsely : Prop := fnExactWaitsNeverRow.holds Try.pinned (OpenSpec.ofChange fnExactWaitsNeverWrong)

/-- 'laws.FnPlans': WHATEVER THE INPUT: true; the input reads as it did. -/
def fnPlansSpec : ChangeSpec := { name := "fnPlans", fn := fun _ => fun
  | [d] => { results := [.lit (.bool true)], args := [d] }
  | _ => none }
def fnPlansRow : OpenClaim := { program := "ytcibklbdpgkbeaa", sum := "751de6d21d285ede0927b1575c5fba94d1b1da30e8563b25f817e34c7b179d3c", func := "loop.example/g01111/laws.FnPlans", spec := "fnPlans", unfollowed := true, recurses := true, apart := false }
def FnPlansSaid : Prop := fnPlansRow.holds Try.pinned (OpenSpec.ofChange fnPlansSpec)

/-- ITS FALSE NEIGHBOUR: 'it returns false'. Refute it at one input. -/
def fnPlansWrong : ChangeSpec := { name := "fnPlans", fn := fun _ => fun
  | [d] => { results := [.lit (.bool false)], args := [d] }
  | _ => none }
def FnPlansWrongFalsely : Prop := fnPlansRow.holds Try.pinned (OpenSpec.ofChange fnPlansWrong)

/-- 'laws.FnBestPlans': WHATEVER THE INPUT: true; the input reads as it did. -/
def fnBestPlansSpec : ChangeSpec := { name := "fnBestPlans", fn := fun _ => fun
  | [d] => { results := [.lit (.bool true)], args := [d] }
  | _ => none }
def fnBestPlansRow : OpenClaim := { program := "ytcibklbdpgkbeaa", sum := "751de6d21d285ede0927b1575c5fba94d1b1da30e8563b25f817e34c7b179d3c", func := "loop.example/g01111/laws.FnBestPlans", spec := "fnBestPlans", unfollowed := true, recurses := true, apart := false }
def FnBestPlansSaid : Prop := fnBestPlansRow.holds Try.pinned (OpenSpec.ofChange fnBestPlansSpec)

/-- ITS FALSE NEIGHBOUR: 'it returns false'. Refute it at one input. -/
def fnBestPlansWrong : ChangeSpec := { name := "fnBestPlans", fn := fun _ => fun
  | [d] => { results := [.lit (.bool false)], args := [d] }
  | _ => none }
def FnBestPlansWrongFalsely : Prop := fnBestPlansRow.holds Try.pinned (OpenSpec.ofChange fnBestPlansWrong)

/- THE SECOND FORM. 'bulk': how many values and letters a reading holds, each counted each time it is reached (what is shared counts as often as it is met; a slice's spare places count too). A statement '..UptoSaid' is the law's where the arguments, and the package variables that the reading takes, are together of bulk at most 1048576: NARROWER than '..Said'. Prove '..Said' where nothing that the law and all that it calls make is longer than what came in: it says more and counts as full. Else prove '..UptoSaid'. A law counts once. -/
mutual
def uptoBulk {H : Type} : DataW H → Nat
  | .lit (.string bytes) => bytes.length + 1
  | .lit _ => 1
  | .nil => 1
  | .ptr d => uptoBulk d + 1
  | .slice elems spare => uptoBulkAll elems + uptoBulkAll spare + 1
  | .agg parts => uptoBulkAll parts + 1
  | .iface _ d => uptoBulk d + 1
  | .map entries => uptoBulkEntries entries + 1
  | .held _ => 1
def uptoBulkAll {H : Type} : List (DataW H) → Nat
  | [] => 0
  | d :: r => uptoBulk d + uptoBulkAll r
def uptoBulkEntries {H : Type} : List (Lit × DataW H) → Nat
  | [] => 0
  | x :: r => uptoBulkEntry x + uptoBulkEntries r
def uptoBulkEntry {H : Type} : Lit × DataW H → Nat
  | (.string bytes, d) => bytes.length + uptoBulk d + 1
  | (_, d) => uptoBulk d + 1
 end
def uptoSmall : (H : Type) → List (DataW H) → Bool := fun _ ds => decide (uptoBulkAll ds ≤ 1048576)
def OpenSpec.upto (s : _root_.Go.ChangeSpec) : _root_.Go.OpenSpec := { _root_.Go.OpenSpec.ofChange s with cond := some uptoSmall }

/-- 'laws.FnExactIsCase', WHERE WHAT IT READS IS OF BULK AT MOST 1048576: true; the input reads as it did. -/
def fnExactIsCaseUptoRow : OpenClaim := { program := "ytcibklbdpgkbeaa", sum := "751de6d21d285ede0927b1575c5fba94d1b1da30e8563b25f817e34c7b179d3c", func := "loop.example/g01111/laws.FnExactIsCase", spec := "fnExactIsCase", unfollowed := true, recurses := true, apart := false, narrowed := true }
def FnExactIsCaseUptoSaid : Prop := fnExactIsCaseUptoRow.holds Try.pinned (OpenSpec.upto fnExactIsCaseSpec)

/-- 'laws.FnExactStocksOf', WHERE WHAT IT READS IS OF BULK AT MOST 1048576: true; the input reads as it did. -/
def fnExactStocksOfUptoRow : OpenClaim := { program := "ytcibklbdpgkbeaa", sum := "751de6d21d285ede0927b1575c5fba94d1b1da30e8563b25f817e34c7b179d3c", func := "loop.example/g01111/laws.FnExactStocksOf", spec := "fnExactStocksOf", unfollowed := true, recurses := true, apart := false, narrowed := true }
def FnExactStocksOfUptoSaid : Prop := fnExactStocksOfUptoRow.holds Try.pinned (OpenSpec.upto fnExactStocksOfSpec)

/-- 'laws.FnExactIsPlan', WHERE WHAT IT READS IS OF BULK AT MOST 1048576: true; the input reads as it did. -/
def fnExactIsPlanUptoRow : OpenClaim := { program := "ytcibklbdpgkbeaa", sum := "751de6d21d285ede0927b1575c5fba94d1b1da30e8563b25f817e34c7b179d3c", func := "loop.example/g01111/laws.FnExactIsPlan", spec := "fnExactIsPlan", unfollowed := true, recurses := true, apart := false, narrowed := true }
def FnExactIsPlanUptoSaid : Prop := fnExactIsPlanUptoRow.holds Try.pinned (OpenSpec.upto fnExactIsPlanSpec)

/-- 'laws.FnExactPlanCost', WHERE WHAT IT READS IS OF BULK AT MOST 1048576: true; the input reads as it did. -/
def fnExactPlanCostUptoRow : OpenClaim := { program := "ytcibklbdpgkbeaa", sum := "751de6d21d285ede0927b1575c5fba94d1b1da30e8563b25f817e34c7b179d3c", func := "loop.example/g01111/laws.FnExactPlanCost", spec := "fnExactPlanCost", unfollowed := true, recurses := true, apart := false, narrowed := true }
def FnExactPlanCostUptoSaid : Prop := fnExactPlanCostUptoRow.holds Try.pinned (OpenSpec.upto fnExactPlanCostSpec)

/-- 'laws.FnExactCostParts', WHERE WHAT IT READS IS OF BULK AT MOST 1048576: true; the input reads as it did. -/
def fnExactCostPartsUptoRow : OpenClaim := { program := "ytcibklbdpgkbeaa", sum := "751de6d21d285ede0927b1575c5fba94d1b1da30e8563b25f817e34c7b179d3c", func := "loop.example/g01111/laws.FnExactCostParts", spec := "fnExactCostParts", unfollowed := true, recurses := true, apart := false, narrowed := true }
def FnExactCostPartsUptoSaid : Prop := fnExactCostPartsUptoRow.holds Try.pinned (OpenSpec.upto fnExactCostPartsSpec)

/-- 'laws.FnExactEmptyPeriods', WHERE WHAT IT READS IS OF BULK AT MOST 1048576: true; the input reads as it did. -/
def fnExactEmptyPeriodsUptoRow : OpenClaim := { program := "ytcibklbdpgkbeaa", sum := "751de6d21d285ede0927b1575c5fba94d1b1da30e8563b25f817e34c7b179d3c", func := "loop.example/g01111/laws.FnExactEmptyPeriods", spec := "fnExactEmptyPeriods", unfollowed := true, recurses := true, apart := false, narrowed := true }
def FnExactEmptyPeriodsUptoSaid : Prop := fnExactEmptyPeriodsUptoRow.holds Try.pinned (OpenSpec.upto fnExactEmptyPeriodsSpec)

/-- 'laws.FnExactOrdersAtEmpty', WHERE WHAT IT READS IS OF BULK AT MOST 1048576: true; the input reads as it did. -/
def fnExactOrdersAtEmptyUptoRow : OpenClaim := { program := "ytcibklbdpgkbeaa", sum := "751de6d21d285ede0927b1575c5fba94d1b1da30e8563b25f817e34c7b179d3c", func := "loop.example/g01111/laws.FnExactOrdersAtEmpty", spec := "fnExactOrdersAtEmpty", unfollowed := true, recurses := true, apart := false, narrowed := true }
def FnExactOrdersAtEmptyUptoSaid : Prop := fnExactOrdersAtEmptyUptoRow.holds Try.pinned (OpenSpec.upto fnExactOrdersAtEmptySpec)

/-- 'laws.FnExactPlanFrom', WHERE WHAT IT READS IS OF BULK AT MOST 1048576: true; the input reads as it did. -/
def fnExactPlanFromUptoRow : OpenClaim := { program := "ytcibklbdpgkbeaa", sum := "751de6d21d285ede0927b1575c5fba94d1b1da30e8563b25f817e34c7b179d3c", func := "loop.example/g01111/laws.FnExactPlanFrom", spec := "fnExactPlanFrom", unfollowed := true, recurses := true, apart := false, narrowed := true }
def FnExactPlanFromUptoSaid : Prop := fnExactPlanFromUptoRow.holds Try.pinned (OpenSpec.upto fnExactPlanFromSpec)

/-- 'laws.FnExactOrderPeriods', WHERE WHAT IT READS IS OF BULK AT MOST 1048576: true; the input reads as it did. -/
def fnExactOrderPeriodsUptoRow : OpenClaim := { program := "ytcibklbdpgkbeaa", sum := "751de6d21d285ede0927b1575c5fba94d1b1da30e8563b25f817e34c7b179d3c", func := "loop.example/g01111/laws.FnExactOrderPeriods", spec := "fnExactOrderPeriods", unfollowed := true, recurses := true, apart := false, narrowed := true }
def FnExactOrderPeriodsUptoSaid : Prop := fnExactOrderPeriodsUptoRow.holds Try.pinned (OpenSpec.upto fnExactOrderPeriodsSpec)

/-- 'laws.FnExactBestPeriods', WHERE WHAT IT READS IS OF BULK AT MOST 1048576: true; the input reads as it did. -/
def fnExactBestPeriodsUptoRow : OpenClaim := { program := "ytcibklbdpgkbeaa", sum := "751de6d21d285ede0927b1575c5fba94d1b1da30e8563b25f817e34c7b179d3c", func := "loop.example/g01111/laws.FnExactBestPeriods", spec := "fnExactBestPeriods", unfollowed := true, recurses := true, apart := false, narrowed := true }
def FnExactBestPeriodsUptoSaid : Prop := fnExactBestPeriodsUptoRow.holds Try.pinned (OpenSpec.upto fnExactBestPeriodsSpec)

/-- 'laws.FnExactBestCost', WHERE WHAT IT READS IS OF BULK AT MOST 1048576: true; the input reads as it did. -/
def fnExactBestCostUptoRow : OpenClaim := { program := "ytcibklbdpgkbeaa", sum := "751de6d21d285ede0927b1575c5fba94d1b1da30e8563b25f817e34c7b179d3c", func := "loop.example/g01111/laws.FnExactBestCost", spec := "fnExactBestCost", unfollowed := true, recurses := true, apart := false, narrowed := true }
def FnExactBestCostUptoSaid : Prop := fnExactBestCostUptoRow.holds Try.pinned (OpenSpec.upto fnExactBestCostSpec)

/-- 'laws.FnExactSmoothPlan', WHERE WHAT IT READS IS OF BULK AT MOST 1048576: true; the input reads as it did. -/
def fnExactSmoothPlanUptoRow : OpenClaim := { program := "ytcibklbdpgkbeaa", sum := "751de6d21d285ede0927b1575c5fba94d1b1da30e8563b25f817e34c7b179d3c", func := "loop.example/g01111/laws.FnExactSmoothPlan", spec := "fnExactSmoothPlan", unfollowed := true, recurses := true, apart := false, narrowed := true }
def FnExactSmoothPlanUptoSaid : Prop := fnExactSmoothPlanUptoRow.holds Try.pinned (OpenSpec.upto fnExactSmoothPlanSpec)

/-- 'laws.FnExactLotForLot', WHERE WHAT IT READS IS OF BULK AT MOST 1048576: true; the input reads as it did. -/
def fnExactLotForLotUptoRow : OpenClaim := { program := "ytcibklbdpgkbeaa", sum := "751de6d21d285ede0927b1575c5fba94d1b1da30e8563b25f817e34c7b179d3c", func := "loop.example/g01111/laws.FnExactLotForLot", spec := "fnExactLotForLot", unfollowed := true, recurses := true, apart := false, narrowed := true }
def FnExactLotForLotUptoSaid : Prop := fnExactLotForLotUptoRow.holds Try.pinned (OpenSpec.upto fnExactLotForLotSpec)

/-- 'laws.FnExactCutCase', WHERE WHAT IT READS IS OF BULK AT MOST 1048576: true; the input reads as it did. -/
def fnExactCutCaseUptoRow : OpenClaim := { program := "ytcibklbdpgkbeaa", sum := "751de6d21d285ede0927b1575c5fba94d1b1da30e8563b25f817e34c7b179d3c", func := "loop.example/g01111/laws.FnExactCutCase", spec := "fnExactCutCase", unfollowed := true, recurses := true, apart := false, narrowed := true }
def FnExactCutCaseUptoSaid : Prop := fnExactCutCaseUptoRow.holds Try.pinned (OpenSpec.upto fnExactCutCaseSpec)

/-- 'laws.FnExactJoinCases', WHERE WHAT IT READS IS OF BULK AT MOST 1048576: true; the input reads as it did. -/
def fnExactJoinCasesUptoRow : OpenClaim := { program := "ytcibklbdpgkbeaa", sum := "751de6d21d285ede0927b1575c5fba94d1b1da30e8563b25f817e34c7b179d3c", func := "loop.example/g01111/laws.FnExactJoinCases", spec := "fnExactJoinCases", unfollowed := true, recurses := true, apart := false, narrowed := true }
def FnExactJoinCasesUptoSaid : Prop := fnExactJoinCasesUptoRow.holds Try.pinned (OpenSpec.upto fnExactJoinCasesSpec)

/-- 'laws.FnExactWaitsNever', WHERE WHAT IT READS IS OF BULK AT MOST 1048576: true; the input reads as it did. -/
def fnExactWaitsNeverUptoRow : OpenClaim := { program := "ytcibklbdpgkbeaa", sum := "751de6d21d285ede0927b1575c5fba94d1b1da30e8563b25f817e34c7b179d3c", func := "loop.example/g01111/laws.FnExactWaitsNever", spec := "fnExactWaitsNever", unfollowed := true, recurses := true, apart := false, narrowed := true }
def FnExactWaitsNeverUptoSaid : Prop := fnExactWaitsNeverUptoRow.holds Try.pinned (OpenSpec.upto fnExactWaitsNeverSpec)

/-- 'laws.FnPlans', WHERE WHAT IT READS IS OF BULK AT MOST 1048576: true; the input reads as it did. -/
def fnPlansUptoRow : OpenClaim := { program := "ytcibklbdpgkbeaa", sum := "751de6d21d285ede0927b1575c5fba94d1b1da30e8563b25f817e34c7b179d3c", func := "loop.example/g01111/laws.FnPlans", spec := "fnPlans", unfollowed := true, recurses := true, apart := false, narrowed := true }
def FnPlansUptoSaid : Prop := fnPlansUptoRow.holds Try.pinned (OpenSpec.upto fnPlansSpec)

/-- 'laws.FnBestPlans', WHERE WHAT IT READS IS OF BULK AT MOST 1048576: true; the input reads as it did. -/
def fnBestPlansUptoRow : OpenClaim := { program := "ytcibklbdpgkbeaa", sum := "751de6d21d285ede0927b1575c5fba94d1b1da30e8563b25f817e34c7b179d3c", func := "loop.example/g01111/laws.FnBestPlans", spec := "fnBestPlans", unfollowed := true, recurses := true, apart := false, narrowed := true }
def FnBestPlansUptoSaid : Prop := fnBestPlansUptoRow.holds Try.pinned (OpenSpec.upto fnBestPlansSpec)

end Rows
end Go.Proofs.Ytcibklbdpgkbeaa
