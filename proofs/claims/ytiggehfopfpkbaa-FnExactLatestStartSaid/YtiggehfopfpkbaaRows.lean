/-
  No cell of these rows narrows 'for every input' (looked for: loops, veiled, ifaces, maps, wideKeys, modest, calm, conditions, laid).
  DERIVED. THE GIVEN ROWS OF THIS SEAT. 17 by the template 'for every input the law returns true; each argument reads behind the call as it read before'; 0 by the template 'total and deterministic' (their statements: YtiggehfopfpkbaaTotals.lean).
  GIVEN WITH THE SEED: the statements are not yours to turn. If you find one false, say at which input.
  Laid BY PROGRAM, IN A SANDBOX (cutbox-rows.mjs): the forced cells as the released guide's own fill.sh prints them over the translation d0302bcd717f0426… (all of the seat's roots in one cut). By AI agents, Wed Nov 11 2026. No macro, syntax, notation, axiom, sorry.
-/
import Derived.Test.YtiggehfopfpkbaaChecked
import GoSem.Claim
import GoSem.ClaimJoined
import GoSem.ClaimMapViews
import Derived.JoinedTies
import Derived.KernelRfl
namespace Go.Proofs.Ytiggehfopfpkbaa
/- THE CELL 'sum', in the pinned program and in every row, IS THE sha256 OF THE DUMP (.gsa) THAT YtiggehfopfpkbaaProg.lean LOADS. Nothing in Lean hashes anything: it is a label: what it is worth is what the hold of that sum in a sandbox is worth. -/
noncomputable def Try.pinned : Pinned := { name := "ytiggehfopfpkbaa", sum := "d0302bcd717f042692f0e6058813ba5786fc7875711358d423f29f367d947e52", checked := Try.checked }
namespace Rows
def none {H : Type} : Left H := { results := [], args := [] }

/-- 'laws.FnExactCanMeet': WHATEVER THE INPUT: true; the input reads as it did. -/
def fnExactCanMeetSpec : ChangeSpec := { name := "fnExactCanMeet", fn := fun _ => fun
  | [d1, d2] => { results := [.lit (.bool true)], args := [d1, d2] }
  | _ => none }
def fnExactCanMeetRow : OpenClaim := { program := "ytiggehfopfpkbaa", sum := "d0302bcd717f042692f0e6058813ba5786fc7875711358d423f29f367d947e52", func := "loop.example/g01111/laws.FnExactCanMeet", spec := "fnExactCanMeet", unfollowed := true, recurses := true, apart := false }
def FnExactCanMeetSaid : Prop := fnExactCanMeetRow.holds Try.pinned (OpenSpec.ofChange fnExactCanMeetSpec)

/-- ITS FALSE NEIGHBOUR: 'it returns false'. Refute it at one input. -/
def fnExactCanMeetWrong : ChangeSpec := { name := "fnExactCanMeet", fn := fun _ => fun
  | [d1, d2] => { results := [.lit (.bool false)], args := [d1, d2] }
  | _ => none }
def FnExactCanMeetWrongFalsely : Prop := fnExactCanMeetRow.holds Try.pinned (OpenSpec.ofChange fnExactCanMeetWrong)

/-- 'laws.FnExactFirstShort': WHATEVER THE INPUT: true; the input reads as it did. -/
def fnExactFirstShortSpec : ChangeSpec := { name := "fnExactFirstShort", fn := fun _ => fun
  | [d1, d2] => { results := [.lit (.bool true)], args := [d1, d2] }
  | _ => none }
def fnExactFirstShortRow : OpenClaim := { program := "ytiggehfopfpkbaa", sum := "d0302bcd717f042692f0e6058813ba5786fc7875711358d423f29f367d947e52", func := "loop.example/g01111/laws.FnExactFirstShort", spec := "fnExactFirstShort", unfollowed := true, recurses := true, apart := false }
def FnExactFirstShortSaid : Prop := fnExactFirstShortRow.holds Try.pinned (OpenSpec.ofChange fnExactFirstShortSpec)

/-- ITS FALSE NEIGHBOUR: 'it returns false'. Refute it at one input. -/
def fnExactFirstShortWrong : ChangeSpec := { name := "fnExactFirstShort", fn := fun _ => fun
  | [d1, d2] => { results := [.lit (.bool false)], args := [d1, d2] }
  | _ => none }
def FnExactFirstShortWrongFalsely : Prop := fnExactFirstShortRow.holds Try.pinned (OpenSpec.ofChange fnExactFirstShortWrong)

/-- 'laws.FnExactKeepsLimits': WHATEVER THE INPUT: true; the input reads as it did. -/
def fnExactKeepsLimitsSpec : ChangeSpec := { name := "fnExactKeepsLimits", fn := fun _ => fun
  | [d1, d2, d3] => { results := [.lit (.bool true)], args := [d1, d2, d3] }
  | _ => none }
def fnExactKeepsLimitsRow : OpenClaim := { program := "ytiggehfopfpkbaa", sum := "d0302bcd717f042692f0e6058813ba5786fc7875711358d423f29f367d947e52", func := "loop.example/g01111/laws.FnExactKeepsLimits", spec := "fnExactKeepsLimits", unfollowed := true, recurses := true, apart := false }
def FnExactKeepsLimitsSaid : Prop := fnExactKeepsLimitsRow.holds Try.pinned (OpenSpec.ofChange fnExactKeepsLimitsSpec)

/-- ITS FALSE NEIGHBOUR: 'it returns false'. Refute it at one input. -/
def fnExactKeepsLimitsWrong : ChangeSpec := { name := "fnExactKeepsLimits", fn := fun _ => fun
  | [d1, d2, d3] => { results := [.lit (.bool false)], args := [d1, d2, d3] }
  | _ => none }
def FnExactKeepsLimitsWrongFalsely : Prop := fnExactKeepsLimitsRow.holds Try.pinned (OpenSpec.ofChange fnExactKeepsLimitsWrong)

/-- 'laws.FnExactLimitedPlan': WHATEVER THE INPUT: true; the input reads as it did. -/
def fnExactLimitedPlanSpec : ChangeSpec := { name := "fnExactLimitedPlan", fn := fun _ => fun
  | [d1, d2] => { results := [.lit (.bool true)], args := [d1, d2] }
  | _ => none }
def fnExactLimitedPlanRow : OpenClaim := { program := "ytiggehfopfpkbaa", sum := "d0302bcd717f042692f0e6058813ba5786fc7875711358d423f29f367d947e52", func := "loop.example/g01111/laws.FnExactLimitedPlan", spec := "fnExactLimitedPlan", unfollowed := true, recurses := true, apart := false }
def FnExactLimitedPlanSaid : Prop := fnExactLimitedPlanRow.holds Try.pinned (OpenSpec.ofChange fnExactLimitedPlanSpec)

/-- ITS FALSE NEIGHBOUR: 'it returns false'. Refute it at one input. -/
def fnExactLimitedPlanWrong : ChangeSpec := { name := "fnExactLimitedPlan", fn := fun _ => fun
  | [d1, d2] => { results := [.lit (.bool false)], args := [d1, d2] }
  | _ => none }
def FnExactLimitedPlanWrongFalsely : Prop := fnExactLimitedPlanRow.holds Try.pinned (OpenSpec.ofChange fnExactLimitedPlanWrong)

/-- 'laws.FnExactLimitedCost': WHATEVER THE INPUT: true; the input reads as it did. -/
def fnExactLimitedCostSpec : ChangeSpec := { name := "fnExactLimitedCost", fn := fun _ => fun
  | [d1, d2] => { results := [.lit (.bool true)], args := [d1, d2] }
  | _ => none }
def fnExactLimitedCostRow : OpenClaim := { program := "ytiggehfopfpkbaa", sum := "d0302bcd717f042692f0e6058813ba5786fc7875711358d423f29f367d947e52", func := "loop.example/g01111/laws.FnExactLimitedCost", spec := "fnExactLimitedCost", unfollowed := true, recurses := true, apart := false }
def FnExactLimitedCostSaid : Prop := fnExactLimitedCostRow.holds Try.pinned (OpenSpec.ofChange fnExactLimitedCostSpec)

/-- ITS FALSE NEIGHBOUR: 'it returns false'. Refute it at one input. -/
def fnExactLimitedCostWrong : ChangeSpec := { name := "fnExactLimitedCost", fn := fun _ => fun
  | [d1, d2] => { results := [.lit (.bool false)], args := [d1, d2] }
  | _ => none }
def FnExactLimitedCostWrongFalsely : Prop := fnExactLimitedCostRow.holds Try.pinned (OpenSpec.ofChange fnExactLimitedCostWrong)

/-- 'laws.FnExactLimitSaves': WHATEVER THE INPUT: true; the input reads as it did. -/
def fnExactLimitSavesSpec : ChangeSpec := { name := "fnExactLimitSaves", fn := fun _ => fun
  | [d1, d2, d3] => { results := [.lit (.bool true)], args := [d1, d2, d3] }
  | _ => none }
def fnExactLimitSavesRow : OpenClaim := { program := "ytiggehfopfpkbaa", sum := "d0302bcd717f042692f0e6058813ba5786fc7875711358d423f29f367d947e52", func := "loop.example/g01111/laws.FnExactLimitSaves", spec := "fnExactLimitSaves", unfollowed := true, recurses := true, apart := false }
def FnExactLimitSavesSaid : Prop := fnExactLimitSavesRow.holds Try.pinned (OpenSpec.ofChange fnExactLimitSavesSpec)

/-- ITS FALSE NEIGHBOUR: 'it returns false'. Refute it at one input. -/
def fnExactLimitSavesWrong : ChangeSpec := { name := "fnExactLimitSaves", fn := fun _ => fun
  | [d1, d2, d3] => { results := [.lit (.bool false)], args := [d1, d2, d3] }
  | _ => none }
def FnExactLimitSavesWrongFalsely : Prop := fnExactLimitSavesRow.holds Try.pinned (OpenSpec.ofChange fnExactLimitSavesWrong)

/-- 'laws.FnExactPartialPeriods': WHATEVER THE INPUT: true; the input reads as it did. -/
def fnExactPartialPeriodsSpec : ChangeSpec := { name := "fnExactPartialPeriods", fn := fun _ => fun
  | [d1, d2, d3] => { results := [.lit (.bool true)], args := [d1, d2, d3] }
  | _ => none }
def fnExactPartialPeriodsRow : OpenClaim := { program := "ytiggehfopfpkbaa", sum := "d0302bcd717f042692f0e6058813ba5786fc7875711358d423f29f367d947e52", func := "loop.example/g01111/laws.FnExactPartialPeriods", spec := "fnExactPartialPeriods", unfollowed := true, recurses := true, apart := false }
def FnExactPartialPeriodsSaid : Prop := fnExactPartialPeriodsRow.holds Try.pinned (OpenSpec.ofChange fnExactPartialPeriodsSpec)

/-- ITS FALSE NEIGHBOUR: 'it returns false'. Refute it at one input. -/
def fnExactPartialPeriodsWrong : ChangeSpec := { name := "fnExactPartialPeriods", fn := fun _ => fun
  | [d1, d2, d3] => { results := [.lit (.bool false)], args := [d1, d2, d3] }
  | _ => none }
def FnExactPartialPeriodsWrongFalsely : Prop := fnExactPartialPeriodsRow.holds Try.pinned (OpenSpec.ofChange fnExactPartialPeriodsWrong)

/-- 'laws.FnExactIsRegular': WHATEVER THE INPUT: true; the input reads as it did. -/
def fnExactIsRegularSpec : ChangeSpec := { name := "fnExactIsRegular", fn := fun _ => fun
  | [d1, d2, d3] => { results := [.lit (.bool true)], args := [d1, d2, d3] }
  | _ => none }
def fnExactIsRegularRow : OpenClaim := { program := "ytiggehfopfpkbaa", sum := "d0302bcd717f042692f0e6058813ba5786fc7875711358d423f29f367d947e52", func := "loop.example/g01111/laws.FnExactIsRegular", spec := "fnExactIsRegular", unfollowed := true, recurses := true, apart := false }
def FnExactIsRegularSaid : Prop := fnExactIsRegularRow.holds Try.pinned (OpenSpec.ofChange fnExactIsRegularSpec)

/-- ITS FALSE NEIGHBOUR: 'it returns false'. Refute it at one input. -/
def fnExactIsRegularWrong : ChangeSpec := { name := "fnExactIsRegular", fn := fun _ => fun
  | [d1, d2, d3] => { results := [.lit (.bool false)], args := [d1, d2, d3] }
  | _ => none }
def FnExactIsRegularWrongFalsely : Prop := fnExactIsRegularRow.holds Try.pinned (OpenSpec.ofChange fnExactIsRegularWrong)

/-- 'laws.FnExactRegularPlan': WHATEVER THE INPUT: true; the input reads as it did. -/
def fnExactRegularPlanSpec : ChangeSpec := { name := "fnExactRegularPlan", fn := fun _ => fun
  | [d1, d2] => { results := [.lit (.bool true)], args := [d1, d2] }
  | _ => none }
def fnExactRegularPlanRow : OpenClaim := { program := "ytiggehfopfpkbaa", sum := "d0302bcd717f042692f0e6058813ba5786fc7875711358d423f29f367d947e52", func := "loop.example/g01111/laws.FnExactRegularPlan", spec := "fnExactRegularPlan", unfollowed := true, recurses := true, apart := false }
def FnExactRegularPlanSaid : Prop := fnExactRegularPlanRow.holds Try.pinned (OpenSpec.ofChange fnExactRegularPlanSpec)

/-- ITS FALSE NEIGHBOUR: 'it returns false'. Refute it at one input. -/
def fnExactRegularPlanWrong : ChangeSpec := { name := "fnExactRegularPlan", fn := fun _ => fun
  | [d1, d2] => { results := [.lit (.bool false)], args := [d1, d2] }
  | _ => none }
def FnExactRegularPlanWrongFalsely : Prop := fnExactRegularPlanRow.holds Try.pinned (OpenSpec.ofChange fnExactRegularPlanWrong)

/-- 'laws.FnExactLatestStart': WHATEVER THE INPUT: true; the input reads as it did. -/
def fnExactLatestStartSpec : ChangeSpec := { name := "fnExactLatestStart", fn := fun _ => fun
  | [d1, d2] => { results := [.lit (.bool true)], args := [d1, d2] }
  | _ => none }
def fnExactLatestStartRow : OpenClaim := { program := "ytiggehfopfpkbaa", sum := "d0302bcd717f042692f0e6058813ba5786fc7875711358d423f29f367d947e52", func := "loop.example/g01111/laws.FnExactLatestStart", spec := "fnExactLatestStart", unfollowed := true, recurses := true, apart := false }
def FnExactLatestStartSaid : Prop := fnExactLatestStartRow.holds Try.pinned (OpenSpec.ofChange fnExactLatestStartSpec)

/-- ITS FALSE NEIGHBOUR: 'it returns false'. Refute it at one input. -/
def fnExactLatestStartWrong : ChangeSpec := { name := "fnExactLatestStart", fn := fun _ => fun
  | [d1, d2] => { results := [.lit (.bool false)], args := [d1, d2] }
  | _ => none }
def FnExactLatestStartWrongFalsely : Prop := fnExactLatestStartRow.holds Try.pinned (OpenSpec.ofChange fnExactLatestStartWrong)

/-- 'laws.FnExactIsLatePlan': WHATEVER THE INPUT: true; the input reads as it did. -/
def fnExactIsLatePlanSpec : ChangeSpec := { name := "fnExactIsLatePlan", fn := fun _ => fun
  | [d1, d2] => { results := [.lit (.bool true)], args := [d1, d2] }
  | _ => none }
def fnExactIsLatePlanRow : OpenClaim := { program := "ytiggehfopfpkbaa", sum := "d0302bcd717f042692f0e6058813ba5786fc7875711358d423f29f367d947e52", func := "loop.example/g01111/laws.FnExactIsLatePlan", spec := "fnExactIsLatePlan", unfollowed := true, recurses := true, apart := false }
def FnExactIsLatePlanSaid : Prop := fnExactIsLatePlanRow.holds Try.pinned (OpenSpec.ofChange fnExactIsLatePlanSpec)

/-- ITS FALSE NEIGHBOUR: 'it returns false'. Refute it at one input. -/
def fnExactIsLatePlanWrong : ChangeSpec := { name := "fnExactIsLatePlan", fn := fun _ => fun
  | [d1, d2] => { results := [.lit (.bool false)], args := [d1, d2] }
  | _ => none }
def FnExactIsLatePlanWrongFalsely : Prop := fnExactIsLatePlanRow.holds Try.pinned (OpenSpec.ofChange fnExactIsLatePlanWrong)

/-- 'laws.FnExactLateCost': WHATEVER THE INPUT: true; the input reads as it did. -/
def fnExactLateCostSpec : ChangeSpec := { name := "fnExactLateCost", fn := fun _ => fun
  | [d1, d2, d3] => { results := [.lit (.bool true)], args := [d1, d2, d3] }
  | _ => none }
def fnExactLateCostRow : OpenClaim := { program := "ytiggehfopfpkbaa", sum := "d0302bcd717f042692f0e6058813ba5786fc7875711358d423f29f367d947e52", func := "loop.example/g01111/laws.FnExactLateCost", spec := "fnExactLateCost", unfollowed := true, recurses := true, apart := false }
def FnExactLateCostSaid : Prop := fnExactLateCostRow.holds Try.pinned (OpenSpec.ofChange fnExactLateCostSpec)

/-- ITS FALSE NEIGHBOUR: 'it returns false'. Refute it at one input. -/
def fnExactLateCostWrong : ChangeSpec := { name := "fnExactLateCost", fn := fun _ => fun
  | [d1, d2, d3] => { results := [.lit (.bool false)], args := [d1, d2, d3] }
  | _ => none }
def FnExactLateCostWrongFalsely : Prop := fnExactLateCostRow.holds Try.pinned (OpenSpec.ofChange fnExactLateCostWrong)

/-- 'laws.FnExactBestLatePlan': WHATEVER THE INPUT: true; the input reads as it did. -/
def fnExactBestLatePlanSpec : ChangeSpec := { name := "fnExactBestLatePlan", fn := fun _ => fun
  | [d1, d2] => { results := [.lit (.bool true)], args := [d1, d2] }
  | _ => none }
def fnExactBestLatePlanRow : OpenClaim := { program := "ytiggehfopfpkbaa", sum := "d0302bcd717f042692f0e6058813ba5786fc7875711358d423f29f367d947e52", func := "loop.example/g01111/laws.FnExactBestLatePlan", spec := "fnExactBestLatePlan", unfollowed := true, recurses := true, apart := false }
def FnExactBestLatePlanSaid : Prop := fnExactBestLatePlanRow.holds Try.pinned (OpenSpec.ofChange fnExactBestLatePlanSpec)

/-- ITS FALSE NEIGHBOUR: 'it returns false'. Refute it at one input. -/
def fnExactBestLatePlanWrong : ChangeSpec := { name := "fnExactBestLatePlan", fn := fun _ => fun
  | [d1, d2] => { results := [.lit (.bool false)], args := [d1, d2] }
  | _ => none }
def FnExactBestLatePlanWrongFalsely : Prop := fnExactBestLatePlanRow.holds Try.pinned (OpenSpec.ofChange fnExactBestLatePlanWrong)

/-- 'laws.FnExactLeastLate': WHATEVER THE INPUT: true; the input reads as it did. -/
def fnExactLeastLateSpec : ChangeSpec := { name := "fnExactLeastLate", fn := fun _ => fun
  | [d1, d2] => { results := [.lit (.bool true)], args := [d1, d2] }
  | _ => none }
def fnExactLeastLateRow : OpenClaim := { program := "ytiggehfopfpkbaa", sum := "d0302bcd717f042692f0e6058813ba5786fc7875711358d423f29f367d947e52", func := "loop.example/g01111/laws.FnExactLeastLate", spec := "fnExactLeastLate", unfollowed := true, recurses := true, apart := false }
def FnExactLeastLateSaid : Prop := fnExactLeastLateRow.holds Try.pinned (OpenSpec.ofChange fnExactLeastLateSpec)

/-- ITS FALSE NEIGHBOUR: 'it returns false'. Refute it at one input. -/
def fnExactLeastLateWrong : ChangeSpec := { name := "fnExactLeastLate", fn := fun _ => fun
  | [d1, d2] => { results := [.lit (.bool false)], args := [d1, d2] }
  | _ => none }
def FnExactLeastLateWrongFalsely : Prop := fnExactLeastLateRow.holds Try.pinned (OpenSpec.ofChange fnExactLeastLateWrong)

/-- 'laws.FnExactOwedPeriods': WHATEVER THE INPUT: true; the input reads as it did. -/
def fnExactOwedPeriodsSpec : ChangeSpec := { name := "fnExactOwedPeriods", fn := fun _ => fun
  | [d1, d2] => { results := [.lit (.bool true)], args := [d1, d2] }
  | _ => none }
def fnExactOwedPeriodsRow : OpenClaim := { program := "ytiggehfopfpkbaa", sum := "d0302bcd717f042692f0e6058813ba5786fc7875711358d423f29f367d947e52", func := "loop.example/g01111/laws.FnExactOwedPeriods", spec := "fnExactOwedPeriods", unfollowed := true, recurses := true, apart := false }
def FnExactOwedPeriodsSaid : Prop := fnExactOwedPeriodsRow.holds Try.pinned (OpenSpec.ofChange fnExactOwedPeriodsSpec)

/-- ITS FALSE NEIGHBOUR: 'it returns false'. Refute it at one input. -/
def fnExactOwedPeriodsWrong : ChangeSpec := { name := "fnExactOwedPeriods", fn := fun _ => fun
  | [d1, d2] => { results := [.lit (.bool false)], args := [d1, d2] }
  | _ => none }
def FnExactOwedPeriodsWrongFalsely : Prop := fnExactOwedPeriodsRow.holds Try.pinned (OpenSpec.ofChange fnExactOwedPeriodsWrong)

/-- 'laws.FnExactPlanFrom': WHATEVER THE INPUT: true; the input reads as it did. -/
def fnExactPlanFromSpec : ChangeSpec := { name := "fnExactPlanFrom", fn := fun _ => fun
  | [d1, d2] => { results := [.lit (.bool true)], args := [d1, d2] }
  | _ => none }
def fnExactPlanFromRow : OpenClaim := { program := "ytiggehfopfpkbaa", sum := "d0302bcd717f042692f0e6058813ba5786fc7875711358d423f29f367d947e52", func := "loop.example/g01111/laws.FnExactPlanFrom", spec := "fnExactPlanFrom", unfollowed := true, recurses := true, apart := false }
def FnExactPlanFromSaid : Prop := fnExactPlanFromRow.holds Try.pinned (OpenSpec.ofChange fnExactPlanFromSpec)

/-- ITS FALSE NEIGHBOUR: 'it returns false'. Refute it at one input. -/
def fnExactPlanFromWrong : ChangeSpec := { name := "fnExactPlanFrom", fn := fun _ => fun
  | [d1, d2] => { results := [.lit (.bool false)], args := [d1, d2] }
  | _ => none }
def FnExactPlanFromWrongFalsely : Prop := fnExactPlanFromRow.holds Try.pinned (OpenSpec.ofChange fnExactPlanFromWrong)

/-- 'laws.FnExactRuleGap': WHATEVER THE INPUT: true; the input reads as it did. -/
def fnExactRuleGapSpec : ChangeSpec := { name := "fnExactRuleGap", fn := fun _ => fun
  | [d1, d2] => { results := [.lit (.bool true)], args := [d1, d2] }
  | _ => none }
def fnExactRuleGapRow : OpenClaim := { program := "ytiggehfopfpkbaa", sum := "d0302bcd717f042692f0e6058813ba5786fc7875711358d423f29f367d947e52", func := "loop.example/g01111/laws.FnExactRuleGap", spec := "fnExactRuleGap", unfollowed := true, recurses := true, apart := false }
def FnExactRuleGapSaid : Prop := fnExactRuleGapRow.holds Try.pinned (OpenSpec.ofChange fnExactRuleGapSpec)

/-- ITS FALSE NEIGHBOUR: 'it returns false'. Refute it at one input. -/
def fnExactRuleGapWrong : ChangeSpec := { name := "fnExactRuleGap", fn := fun _ => fun
  | [d1, d2] => { results := [.lit (.bool false)], args := [d1, d2] }
  | _ => none }
def FnExactRuleGapWrongFalsely : Prop := fnExactRuleGapRow.holds Try.pinned (OpenSpec.ofChange fnExactRuleGapWrong)

/- THE SECOND FORM. 'bulk': how many values and letters a reading holds, each counted each time it is reached (what is shared counts as often as it is met; a slice's spare places count too). A statement '..UptoSaid' is the law's where the arguments, and the package variables that the reading takes, are together of bulk at most 1048576: NARROWER than '..Said'. Prove '..Said' where nothing that the law and all that it calls make is longer than what came in: it says more and counts as full. Else prove '..UptoSaid'. A law counts once. -/
mutual
def uptoBulk {H : Type} : DataW H → Nat
  | .lit (.string bytes) => bytes.length + 1
  | .lit _ => 1
  | .nil => 1
  | .ptr d => uptoBulk d + 1
  | .slice elems spare => uptoBulkAll elems + uptoBulkAll spare + 1
  | .agg parts => uptoBulkAll parts + 1
  | .iface _ d => uptoBulk d + 1
  | .map entries => uptoBulkEntries entries + 1
  | .held _ => 1
def uptoBulkAll {H : Type} : List (DataW H) → Nat
  | [] => 0
  | d :: r => uptoBulk d + uptoBulkAll r
def uptoBulkEntries {H : Type} : List (Lit × DataW H) → Nat
  | [] => 0
  | x :: r => uptoBulkEntry x + uptoBulkEntries r
def uptoBulkEntry {H : Type} : Lit × DataW H → Nat
  | (.string bytes, d) => bytes.length + uptoBulk d + 1
  | (_, d) => uptoBulk d + 1
 end
def uptoSmall : (H : Type) → List (DataW H) → Bool := fun _ ds => decide (uptoBulkAll ds ≤ 1048576)
def OpenSpec.upto (s : _root_.Go.ChangeSpec) : _root_.Go.OpenSpec := { _root_.Go.OpenSpec.ofChange s with cond := some uptoSmall }

/-- 'laws.FnExactCanMeet', WHERE WHAT IT READS IS OF BULK AT MOST 1048576: true; the input reads as it did. -/
def fnExactCanMeetUptoRow : OpenClaim := { program := "ytiggehfopfpkbaa", sum := "d0302bcd717f042692f0e6058813ba5786fc7875711358d423f29f367d947e52", func := "loop.example/g01111/laws.FnExactCanMeet", spec := "fnExactCanMeet", unfollowed := true, recurses := true, apart := false, narrowed := true }
def FnExactCanMeetUptoSaid : Prop := fnExactCanMeetUptoRow.holds Try.pinned (OpenSpec.upto fnExactCanMeetSpec)

/-- 'laws.FnExactFirstShort', WHERE WHAT IT READS IS OF BULK AT MOST 1048576: true; the input reads as it did. -/
def fnExactFirstShortUptoRow : OpenClaim := { program := "ytiggehfopfpkbaa", sum := "d0302bcd717f042692f0e6058813ba5786fc7875711358d423f29f367d947e52", func := "loop.example/g01111/laws.FnExactFirstShort", spec := "fnExactFirstShort", unfollowed := true, recurses := true, apart := false, narrowed := true }
def FnExactFirstShortUptoSaid : Prop := fnExactFirstShortUptoRow.holds Try.pinned (OpenSpec.upto fnExactFirstShortSpec)

/-- 'laws.FnExactKeepsLimits', WHERE WHAT IT READS IS OF BULK AT MOST 1048576: true; the input reads as it did. -/
def fnExactKeepsLimitsUptoRow : OpenClaim := { program := "ytiggehfopfpkbaa", sum := "d0302bcd717f042692f0e6058813ba5786fc7875711358d423f29f367d947e52", func := "loop.example/g01111/laws.FnExactKeepsLimits", spec := "fnExactKeepsLimits", unfollowed := true, recurses := true, apart := false, narrowed := true }
def FnExactKeepsLimitsUptoSaid : Prop := fnExactKeepsLimitsUptoRow.holds Try.pinned (OpenSpec.upto fnExactKeepsLimitsSpec)

/-- 'laws.FnExactLimitedPlan', WHERE WHAT IT READS IS OF BULK AT MOST 1048576: true; the input reads as it did. -/
def fnExactLimitedPlanUptoRow : OpenClaim := { program := "ytiggehfopfpkbaa", sum := "d0302bcd717f042692f0e6058813ba5786fc7875711358d423f29f367d947e52", func := "loop.example/g01111/laws.FnExactLimitedPlan", spec := "fnExactLimitedPlan", unfollowed := true, recurses := true, apart := false, narrowed := true }
def FnExactLimitedPlanUptoSaid : Prop := fnExactLimitedPlanUptoRow.holds Try.pinned (OpenSpec.upto fnExactLimitedPlanSpec)

/-- 'laws.FnExactLimitedCost', WHERE WHAT IT READS IS OF BULK AT MOST 1048576: true; the input reads as it did. -/
def fnExactLimitedCostUptoRow : OpenClaim := { program := "ytiggehfopfpkbaa", sum := "d0302bcd717f042692f0e6058813ba5786fc7875711358d423f29f367d947e52", func := "loop.example/g01111/laws.FnExactLimitedCost", spec := "fnExactLimitedCost", unfollowed := true, recurses := true, apart := false, narrowed := true }
def FnExactLimitedCostUptoSaid : Prop := fnExactLimitedCostUptoRow.holds Try.pinned (OpenSpec.upto fnExactLimitedCostSpec)

/-- 'laws.FnExactLimitSaves', WHERE WHAT IT READS IS OF BULK AT MOST 1048576: true; the input reads as it did. -/
def fnExactLimitSavesUptoRow : OpenClaim := { program := "ytiggehfopfpkbaa", sum := "d0302bcd717f042692f0e6058813ba5786fc7875711358d423f29f367d947e52", func := "loop.example/g01111/laws.FnExactLimitSaves", spec := "fnExactLimitSaves", unfollowed := true, recurses := true, apart := false, narrowed := true }
def FnExactLimitSavesUptoSaid : Prop := fnExactLimitSavesUptoRow.holds Try.pinned (OpenSpec.upto fnExactLimitSavesSpec)

/-- 'laws.FnExactPartialPeriods', WHERE WHAT IT READS IS OF BULK AT MOST 1048576: true; the input reads as it did. -/
def fnExactPartialPeriodsUptoRow : OpenClaim := { program := "ytiggehfopfpkbaa", sum := "d0302bcd717f042692f0e6058813ba5786fc7875711358d423f29f367d947e52", func := "loop.example/g01111/laws.FnExactPartialPeriods", spec := "fnExactPartialPeriods", unfollowed := true, recurses := true, apart := false, narrowed := true }
def FnExactPartialPeriodsUptoSaid : Prop := fnExactPartialPeriodsUptoRow.holds Try.pinned (OpenSpec.upto fnExactPartialPeriodsSpec)

/-- 'laws.FnExactIsRegular', WHERE WHAT IT READS IS OF BULK AT MOST 1048576: true; the input reads as it did. -/
def fnExactIsRegularUptoRow : OpenClaim := { program := "ytiggehfopfpkbaa", sum := "d0302bcd717f042692f0e6058813ba5786fc7875711358d423f29f367d947e52", func := "loop.example/g01111/laws.FnExactIsRegular", spec := "fnExactIsRegular", unfollowed := true, recurses := true, apart := false, narrowed := true }
def FnExactIsRegularUptoSaid : Prop := fnExactIsRegularUptoRow.holds Try.pinned (OpenSpec.upto fnExactIsRegularSpec)

/-- 'laws.FnExactRegularPlan', WHERE WHAT IT READS IS OF BULK AT MOST 1048576: true; the input reads as it did. -/
def fnExactRegularPlanUptoRow : OpenClaim := { program := "ytiggehfopfpkbaa", sum := "d0302bcd717f042692f0e6058813ba5786fc7875711358d423f29f367d947e52", func := "loop.example/g01111/laws.FnExactRegularPlan", spec := "fnExactRegularPlan", unfollowed := true, recurses := true, apart := false, narrowed := true }
def FnExactRegularPlanUptoSaid : Prop := fnExactRegularPlanUptoRow.holds Try.pinned (OpenSpec.upto fnExactRegularPlanSpec)

/-- 'laws.FnExactLatestStart', WHERE WHAT IT READS IS OF BULK AT MOST 1048576: true; the input reads as it did. -/
def fnExactLatestStartUptoRow : OpenClaim := { program := "ytiggehfopfpkbaa", sum := "d0302bcd717f042692f0e6058813ba5786fc7875711358d423f29f367d947e52", func := "loop.example/g01111/laws.FnExactLatestStart", spec := "fnExactLatestStart", unfollowed := true, recurses := true, apart := false, narrowed := true }
def FnExactLatestStartUptoSaid : Prop := fnExactLatestStartUptoRow.holds Try.pinned (OpenSpec.upto fnExactLatestStartSpec)

/-- 'laws.FnExactIsLatePlan', WHERE WHAT IT READS IS OF BULK AT MOST 1048576: true; the input reads as it did. -/
def fnExactIsLatePlanUptoRow : OpenClaim := { program := "ytiggehfopfpkbaa", sum := "d0302bcd717f042692f0e6058813ba5786fc7875711358d423f29f367d947e52", func := "loop.example/g01111/laws.FnExactIsLatePlan", spec := "fnExactIsLatePlan", unfollowed := true, recurses := true, apart := false, narrowed := true }
def FnExactIsLatePlanUptoSaid : Prop := fnExactIsLatePlanUptoRow.holds Try.pinned (OpenSpec.upto fnExactIsLatePlanSpec)

/-- 'laws.FnExactLateCost', WHERE WHAT IT READS IS OF BULK AT MOST 1048576: true; the input reads as it did. -/
def fnExactLateCostUptoRow : OpenClaim := { program := "ytiggehfopfpkbaa", sum := "d0302bcd717f042692f0e6058813ba5786fc7875711358d423f29f367d947e52", func := "loop.example/g01111/laws.FnExactLateCost", spec := "fnExactLateCost", unfollowed := true, recurses := true, apart := false, narrowed := true }
def FnExactLateCostUptoSaid : Prop := fnExactLateCostUptoRow.holds Try.pinned (OpenSpec.upto fnExactLateCostSpec)

/-- 'laws.FnExactBestLatePlan', WHERE WHAT IT READS IS OF BULK AT MOST 1048576: true; the input reads as it did. -/
def fnExactBestLatePlanUptoRow : OpenClaim := { program := "ytiggehfopfpkbaa", sum := "d0302bcd717f042692f0e6058813ba5786fc7875711358d423f29f367d947e52", func := "loop.example/g01111/laws.FnExactBestLatePlan", spec := "fnExactBestLatePlan", unfollowed := true, recurses := true, apart := false, narrowed := true }
def FnExactBestLatePlanUptoSaid : Prop := fnExactBestLatePlanUptoRow.holds Try.pinned (OpenSpec.upto fnExactBestLatePlanSpec)

/-- 'laws.FnExactLeastLate', WHERE WHAT IT READS IS OF BULK AT MOST 1048576: true; the input reads as it did. -/
def fnExactLeastLateUptoRow : OpenClaim := { program := "ytiggehfopfpkbaa", sum := "d0302bcd717f042692f0e6058813ba5786fc7875711358d423f29f367d947e52", func := "loop.example/g01111/laws.FnExactLeastLate", spec := "fnExactLeastLate", unfollowed := true, recurses := true, apart := false, narrowed := true }
def FnExactLeastLateUptoSaid : Prop := fnExactLeastLateUptoRow.holds Try.pinned (OpenSpec.upto fnExactLeastLateSpec)

/-- 'laws.FnExactOwedPeriods', WHERE WHAT IT READS IS OF BULK AT MOST 1048576: true; the input reads as it did. -/
def fnExactOwedPeriodsUptoRow : OpenClaim := { program := "ytiggehfopfpkbaa", sum := "d0302bcd717f042692f0e6058813ba5786fc7875711358d423f29f367d947e52", func := "loop.example/g01111/laws.FnExactOwedPeriods", spec := "fnExactOwedPeriods", unfollowed := true, recurses := true, apart := false, narrowed := true }
def FnExactOwedPeriodsUptoSaid : Prop := fnExactOwedPeriodsUptoRow.holds Try.pinned (OpenSpec.upto fnExactOwedPeriodsSpec)

/-- 'laws.FnExactPlanFrom', WHERE WHAT IT READS IS OF BULK AT MOST 1048576: true; the input reads as it did. -/
def fnExactPlanFromUptoRow : OpenClaim := { program := "ytiggehfopfpkbaa", sum := "d0302bcd717f042692f0e6058813ba5786fc7875711358d423f29f367d947e52", func := "loop.example/g01111/laws.FnExactPlanFrom", spec := "fnExactPlanFrom", unfollowed := true, recurses := true, apart := false, narrowed := true }
def FnExactPlanFromUptoSaid : Prop := fnExactPlanFromUptoRow.holds Try.pinned (OpenSpec.upto fnExactPlanFromSpec)

/-- 'laws.FnExactRuleGap', WHERE WHAT IT READS IS OF BULK AT MOST 1048576: true; the input reads as it did. -/
def fnExactRuleGapUptoRow : OpenClaim := { program := "ytiggehfopfpkbaa", sum := "d0302bcd717f042692f0e6058813ba5786fc7875711358d423f29f367d947e52", func := "loop.example/g01111/laws.FnExactRuleGap", spec := "fnExactRuleGap", unfollowed := true, recurses := true, apart := false, narrowed := true }
def FnExactRuleGapUptoSaid : Prop := fnExactRuleGapUptoRow.holds Try.pinned (OpenSpec.upto fnExactRuleGapSpec)

end Rows
end Go.Proofs.Ytiggehfopfpkbaa
