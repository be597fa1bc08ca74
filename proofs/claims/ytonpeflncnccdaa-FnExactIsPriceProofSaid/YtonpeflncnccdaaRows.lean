/-
  No cell of these rows narrows 'for every input' (looked for: loops, veiled, ifaces, maps, wideKeys, modest, calm, conditions, laid).
  DERIVED. THE GIVEN ROWS OF THIS SEAT. 8 by the template 'for every input the law returns true; each argument reads behind the call as it read before'; 0 by the template 'total and deterministic' (their statements: YtonpeflncnccdaaTotals.lean).
  GIVEN WITH THE SEED: the statements are not yours to turn. If you find one false, say at which input.
  Laid BY PROGRAM, IN A SANDBOX (cutbox-rows.mjs): the forced cells as the released guide's own fill.sh prints them over the translation 9b5e2702100ffa94… (all of the seat's roots in one cut). By AI agents, Wed Nov 11 2026. No macro, syntax, notation, axiom, sorry.
-/
import Derived.Test.YtonpeflncnccdaaChecked
import GoSem.Claim
import GoSem.ClaimJoined
import GoSem.ClaimMapViews
import Derived.JoinedTies
import Derived.KernelRfl
namespace Go.Proofs.Ytonpeflncnccdaa
/- THE CELL 'sum', in the pinned program and in every row, IS THE sha256 OF THE DUMP (.gsa) THAT YtonpeflncnccdaaProg.lean LOADS. Nothing in Lean hashes anything: it is a label: what it is worth is what the hold of that sum in a sandbox is worth. -/
noncomputable def Try.pinned : Pinned := { name := "ytonpeflncnccdaa", sum := "9b5e2702100ffa94d60adfe641fe95185d7575e636d6cb8b435de19e9e9fc9dd", checked := Try.checked }
namespace Rows
def none {H : Type} : Left H := { results := [], args := [] }

/-- 'laws.FnExactBestCost': WHATEVER THE INPUT: true; the input reads as it did. -/
def fnExactBestCostSpec : ChangeSpec := { name := "fnExactBestCost", fn := fun _ => fun
  | [d] => { results := [.lit (.bool true)], args := [d] }
  | _ => none }
def fnExactBestCostRow : OpenClaim := { program := "ytonpeflncnccdaa", sum := "9b5e2702100ffa94d60adfe641fe95185d7575e636d6cb8b435de19e9e9fc9dd", func := "loop.example/g01111/laws.FnExactBestCost", spec := "fnExactBestCost", unfollowed := true, recurses := true, apart := false }
def FnExactBestCostSaid : Prop := fnExactBestCostRow.holds Try.pinned (OpenSpec.ofChange fnExactBestCostSpec)

/-- ITS FALSE NEIGHBOUR: 'it returns false'. Refute it at one input. -/
def fnExactBestCostWrong : ChangeSpec := { name := "fnExactBestCost", fn := fun _ => fun
  | [d] => { results := [.lit (.bool false)], args := [d] }
  | _ => none }
def FnExactBestCostWrongFalsely : Prop := fnExactBestCostRow.holds Try.pinned (OpenSpec.ofChange fnExactBestCostWrong)

/-- 'laws.FnExactBestPeriods': WHATEVER THE INPUT: true; the input reads as it did. -/
def fnExactBestPeriodsSpec : ChangeSpec := { name := "fnExactBestPeriods", fn := fun _ => fun
  | [d] => { results := [.lit (.bool true)], args := [d] }
  | _ => none }
def fnExactBestPeriodsRow : OpenClaim := { program := "ytonpeflncnccdaa", sum := "9b5e2702100ffa94d60adfe641fe95185d7575e636d6cb8b435de19e9e9fc9dd", func := "loop.example/g01111/laws.FnExactBestPeriods", spec := "fnExactBestPeriods", unfollowed := true, recurses := true, apart := false }
def FnExactBestPeriodsSaid : Prop := fnExactBestPeriodsRow.holds Try.pinned (OpenSpec.ofChange fnExactBestPeriodsSpec)

/-- ITS FALSE NEIGHBOUR: 'it returns false'. Refute it at one input. -/
def fnExactBestPeriodsWrong : ChangeSpec := { name := "fnExactBestPeriods", fn := fun _ => fun
  | [d] => { results := [.lit (.bool false)], args := [d] }
  | _ => none }
def FnExactBestPeriodsWrongFalsely : Prop := fnExactBestPeriodsRow.holds Try.pinned (OpenSpec.ofChange fnExactBestPeriodsWrong)

/-- 'laws.FnExactPlanFrom': WHATEVER THE INPUT: true; the input reads as it did. -/
def fnExactPlanFromSpec : ChangeSpec := { name := "fnExactPlanFrom", fn := fun _ => fun
  | [d1, d2] => { results := [.lit (.bool true)], args := [d1, d2] }
  | _ => none }
def fnExactPlanFromRow : OpenClaim := { program := "ytonpeflncnccdaa", sum := "9b5e2702100ffa94d60adfe641fe95185d7575e636d6cb8b435de19e9e9fc9dd", func := "loop.example/g01111/laws.FnExactPlanFrom", spec := "fnExactPlanFrom", unfollowed := true, recurses := true, apart := false }
def FnExactPlanFromSaid : Prop := fnExactPlanFromRow.holds Try.pinned (OpenSpec.ofChange fnExactPlanFromSpec)

/-- ITS FALSE NEIGHBOUR: 'it returns false'. Refute it at one input. -/
def fnExactPlanFromWrong : ChangeSpec := { name := "fnExactPlanFrom", fn := fun _ => fun
  | [d1, d2] => { results := [.lit (.bool false)], args := [d1, d2] }
  | _ => none }
def FnExactPlanFromWrongFalsely : Prop := fnExactPlanFromRow.holds Try.pinned (OpenSpec.ofChange fnExactPlanFromWrong)

/-- 'laws.FnExactRulePeriods': WHATEVER THE INPUT: true; the input reads as it did. -/
def fnExactRulePeriodsSpec : ChangeSpec := { name := "fnExactRulePeriods", fn := fun _ => fun
  | [d1, d2] => { results := [.lit (.bool true)], args := [d1, d2] }
  | _ => none }
def fnExactRulePeriodsRow : OpenClaim := { program := "ytonpeflncnccdaa", sum := "9b5e2702100ffa94d60adfe641fe95185d7575e636d6cb8b435de19e9e9fc9dd", func := "loop.example/g01111/laws.FnExactRulePeriods", spec := "fnExactRulePeriods", unfollowed := true, recurses := true, apart := false }
def FnExactRulePeriodsSaid : Prop := fnExactRulePeriodsRow.holds Try.pinned (OpenSpec.ofChange fnExactRulePeriodsSpec)

/-- ITS FALSE NEIGHBOUR: 'it returns false'. Refute it at one input. -/
def fnExactRulePeriodsWrong : ChangeSpec := { name := "fnExactRulePeriods", fn := fun _ => fun
  | [d1, d2] => { results := [.lit (.bool false)], args := [d1, d2] }
  | _ => none }
def FnExactRulePeriodsWrongFalsely : Prop := fnExactRulePeriodsRow.holds Try.pinned (OpenSpec.ofChange fnExactRulePeriodsWrong)

/-- 'laws.FnExactRuleGap': WHATEVER THE INPUT: true; the input reads as it did. -/
def fnExactRuleGapSpec : ChangeSpec := { name := "fnExactRuleGap", fn := fun _ => fun
  | [d1, d2] => { results := [.lit (.bool true)], args := [d1, d2] }
  | _ => none }
def fnExactRuleGapRow : OpenClaim := { program := "ytonpeflncnccdaa", sum := "9b5e2702100ffa94d60adfe641fe95185d7575e636d6cb8b435de19e9e9fc9dd", func := "loop.example/g01111/laws.FnExactRuleGap", spec := "fnExactRuleGap", unfollowed := true, recurses := true, apart := false }
def FnExactRuleGapSaid : Prop := fnExactRuleGapRow.holds Try.pinned (OpenSpec.ofChange fnExactRuleGapSpec)

/-- ITS FALSE NEIGHBOUR: 'it returns false'. Refute it at one input. -/
def fnExactRuleGapWrong : ChangeSpec := { name := "fnExactRuleGap", fn := fun _ => fun
  | [d1, d2] => { results := [.lit (.bool false)], args := [d1, d2] }
  | _ => none }
def FnExactRuleGapWrongFalsely : Prop := fnExactRuleGapRow.holds Try.pinned (OpenSpec.ofChange fnExactRuleGapWrong)

/-- 'laws.FnExactClaimsOf': WHATEVER THE INPUT: true; the input reads as it did. -/
def fnExactClaimsOfSpec : ChangeSpec := { name := "fnExactClaimsOf", fn := fun _ => fun
  | [d1, d2] => { results := [.lit (.bool true)], args := [d1, d2] }
  | _ => none }
def fnExactClaimsOfRow : OpenClaim := { program := "ytonpeflncnccdaa", sum := "9b5e2702100ffa94d60adfe641fe95185d7575e636d6cb8b435de19e9e9fc9dd", func := "loop.example/g01111/laws.FnExactClaimsOf", spec := "fnExactClaimsOf", unfollowed := true, recurses := true, apart := false }
def FnExactClaimsOfSaid : Prop := fnExactClaimsOfRow.holds Try.pinned (OpenSpec.ofChange fnExactClaimsOfSpec)

/-- ITS FALSE NEIGHBOUR: 'it returns false'. Refute it at one input. -/
def fnExactClaimsOfWrong : ChangeSpec := { name := "fnExactClaimsOf", fn := fun _ => fun
  | [d1, d2] => { results := [.lit (.bool false)], args := [d1, d2] }
  | _ => none }
def FnExactClaimsOfWrongFalsely : Prop := fnExactClaimsOfRow.holds Try.pinned (OpenSpec.ofChange fnExactClaimsOfWrong)

/-- 'laws.FnExactAreFair': WHATEVER THE INPUT: true; the input reads as it did. -/
def fnExactAreFairSpec : ChangeSpec := { name := "fnExactAreFair", fn := fun _ => fun
  | [d1, d2] => { results := [.lit (.bool true)], args := [d1, d2] }
  | _ => none }
def fnExactAreFairRow : OpenClaim := { program := "ytonpeflncnccdaa", sum := "9b5e2702100ffa94d60adfe641fe95185d7575e636d6cb8b435de19e9e9fc9dd", func := "loop.example/g01111/laws.FnExactAreFair", spec := "fnExactAreFair", unfollowed := true, recurses := true, apart := false }
def FnExactAreFairSaid : Prop := fnExactAreFairRow.holds Try.pinned (OpenSpec.ofChange fnExactAreFairSpec)

/-- ITS FALSE NEIGHBOUR: 'it returns false'. Refute it at one input. -/
def fnExactAreFairWrong : ChangeSpec := { name := "fnExactAreFair", fn := fun _ => fun
  | [d1, d2] => { results := [.lit (.bool false)], args := [d1, d2] }
  | _ => none }
def FnExactAreFairWrongFalsely : Prop := fnExactAreFairRow.holds Try.pinned (OpenSpec.ofChange fnExactAreFairWrong)

/-- 'laws.FnExactIsPriceProof': WHATEVER THE INPUT: true; the input reads as it did. -/
def fnExactIsPriceProofSpec : ChangeSpec := { name := "fnExactIsPriceProof", fn := fun _ => fun
  | [d1, d2, d3] => { results := [.lit (.bool true)], args := [d1, d2, d3] }
  | _ => none }
def fnExactIsPriceProofRow : OpenClaim := { program := "ytonpeflncnccdaa", sum := "9b5e2702100ffa94d60adfe641fe95185d7575e636d6cb8b435de19e9e9fc9dd", func := "loop.example/g01111/laws.FnExactIsPriceProof", spec := "fnExactIsPriceProof", unfollowed := true, recurses := true, apart := false }
def FnExactIsPriceProofSaid : Prop := fnExactIsPriceProofRow.holds Try.pinned (OpenSpec.ofChange fnExactIsPriceProofSpec)

/-- ITS FALSE NEIGHBOUR: 'it returns false'. Refute it at one input. -/
def fnExactIsPriceProofWrong : ChangeSpec := { name := "fnExactIsPriceProof", fn := fun _ => fun
  | [d1, d2, d3] => { results := [.lit (.bool false)], args := [d1, d2, d3] }
  | _ => none }
def FnExactIsPriceProofWrongFalsely : Prop := fnExactIsPriceProofRow.holds Try.pinned (OpenSpec.ofChange fnExactIsPriceProofWrong)

/- THE SECOND FORM. 'bulk': how many values and letters a reading holds, each counted each time it is reached (what is shared counts as often as it is met; a slice's spare places count too). A statement '..UptoSaid' is the law's where the arguments, and the package variables that the reading takes, are together of bulk at most 1048576: NARROWER than '..Said'. Prove '..Said' where nothing that the law and all that it calls make is longer than what came in: it says more and counts as full. Else prove '..UptoSaid'. A law counts once. -/
mutual
def uptoBulk {H : Type} : DataW H → Nat
  | .lit (.string bytes) => bytes.length + 1
  | .lit _ => 1
  | .nil => 1
  | .ptr d => uptoBulk d + 1
  | .slice elems spare => uptoBulkAll elems + uptoBulkAll spare + 1
  | .agg parts => uptoBulkAll parts + 1
  | .iface _ d => uptoBulk d + 1
  | .map entries => uptoBulkEntries entries + 1
  | .held _ => 1
def uptoBulkAll {H : Type} : List (DataW H) → Nat
  | [] => 0
  | d :: r => uptoBulk d + uptoBulkAll r
def uptoBulkEntries {H : Type} : List (Lit × DataW H) → Nat
  | [] => 0
  | x :: r => uptoBulkEntry x + uptoBulkEntries r
def uptoBulkEntry {H : Type} : Lit × DataW H → Nat
  | (.string bytes, d) => bytes.length + uptoBulk d + 1
  | (_, d) => uptoBulk d + 1
 end
def uptoSmall : (H : Type) → List (DataW H) → Bool := fun _ ds => decide (uptoBulkAll ds ≤ 1048576)
def OpenSpec.upto (s : _root_.Go.ChangeSpec) : _root_.Go.OpenSpec := { _root_.Go.OpenSpec.ofChange s with cond := some uptoSmall }

/-- 'laws.FnExactBestCost', WHERE WHAT IT READS IS OF BULK AT MOST 1048576: true; the input reads as it did. -/
def fnExactBestCostUptoRow : OpenClaim := { program := "ytonpeflncnccdaa", sum := "9b5e2702100ffa94d60adfe641fe95185d7575e636d6cb8b435de19e9e9fc9dd", func := "loop.example/g01111/laws.FnExactBestCost", spec := "fnExactBestCost", unfollowed := true, recurses := true, apart := false, narrowed := true }
def FnExactBestCostUptoSaid : Prop := fnExactBestCostUptoRow.holds Try.pinned (OpenSpec.upto fnExactBestCostSpec)

/-- 'laws.FnExactBestPeriods', WHERE WHAT IT READS IS OF BULK AT MOST 1048576: true; the input reads as it did. -/
def fnExactBestPeriodsUptoRow : OpenClaim := { program := "ytonpeflncnccdaa", sum := "9b5e2702100ffa94d60adfe641fe95185d7575e636d6cb8b435de19e9e9fc9dd", func := "loop.example/g01111/laws.FnExactBestPeriods", spec := "fnExactBestPeriods", unfollowed := true, recurses := true, apart := false, narrowed := true }
def FnExactBestPeriodsUptoSaid : Prop := fnExactBestPeriodsUptoRow.holds Try.pinned (OpenSpec.upto fnExactBestPeriodsSpec)

/-- 'laws.FnExactPlanFrom', WHERE WHAT IT READS IS OF BULK AT MOST 1048576: true; the input reads as it did. -/
def fnExactPlanFromUptoRow : OpenClaim := { program := "ytonpeflncnccdaa", sum := "9b5e2702100ffa94d60adfe641fe95185d7575e636d6cb8b435de19e9e9fc9dd", func := "loop.example/g01111/laws.FnExactPlanFrom", spec := "fnExactPlanFrom", unfollowed := true, recurses := true, apart := false, narrowed := true }
def FnExactPlanFromUptoSaid : Prop := fnExactPlanFromUptoRow.holds Try.pinned (OpenSpec.upto fnExactPlanFromSpec)

/-- 'laws.FnExactRulePeriods', WHERE WHAT IT READS IS OF BULK AT MOST 1048576: true; the input reads as it did. -/
def fnExactRulePeriodsUptoRow : OpenClaim := { program := "ytonpeflncnccdaa", sum := "9b5e2702100ffa94d60adfe641fe95185d7575e636d6cb8b435de19e9e9fc9dd", func := "loop.example/g01111/laws.FnExactRulePeriods", spec := "fnExactRulePeriods", unfollowed := true, recurses := true, apart := false, narrowed := true }
def FnExactRulePeriodsUptoSaid : Prop := fnExactRulePeriodsUptoRow.holds Try.pinned (OpenSpec.upto fnExactRulePeriodsSpec)

/-- 'laws.FnExactRuleGap', WHERE WHAT IT READS IS OF BULK AT MOST 1048576: true; the input reads as it did. -/
def fnExactRuleGapUptoRow : OpenClaim := { program := "ytonpeflncnccdaa", sum := "9b5e2702100ffa94d60adfe641fe95185d7575e636d6cb8b435de19e9e9fc9dd", func := "loop.example/g01111/laws.FnExactRuleGap", spec := "fnExactRuleGap", unfollowed := true, recurses := true, apart := false, narrowed := true }
def FnExactRuleGapUptoSaid : Prop := fnExactRuleGapUptoRow.holds Try.pinned (OpenSpec.upto fnExactRuleGapSpec)

/-- 'laws.FnExactClaimsOf', WHERE WHAT IT READS IS OF BULK AT MOST 1048576: true; the input reads as it did. -/
def fnExactClaimsOfUptoRow : OpenClaim := { program := "ytonpeflncnccdaa", sum := "9b5e2702100ffa94d60adfe641fe95185d7575e636d6cb8b435de19e9e9fc9dd", func := "loop.example/g01111/laws.FnExactClaimsOf", spec := "fnExactClaimsOf", unfollowed := true, recurses := true, apart := false, narrowed := true }
def FnExactClaimsOfUptoSaid : Prop := fnExactClaimsOfUptoRow.holds Try.pinned (OpenSpec.upto fnExactClaimsOfSpec)

/-- 'laws.FnExactAreFair', WHERE WHAT IT READS IS OF BULK AT MOST 1048576: true; the input reads as it did. -/
def fnExactAreFairUptoRow : OpenClaim := { program := "ytonpeflncnccdaa", sum := "9b5e2702100ffa94d60adfe641fe95185d7575e636d6cb8b435de19e9e9fc9dd", func := "loop.example/g01111/laws.FnExactAreFair", spec := "fnExactAreFair", unfollowed := true, recurses := true, apart := false, narrowed := true }
def FnExactAreFairUptoSaid : Prop := fnExactAreFairUptoRow.holds Try.pinned (OpenSpec.upto fnExactAreFairSpec)

/-- 'laws.FnExactIsPriceProof', WHERE WHAT IT READS IS OF BULK AT MOST 1048576: true; the input reads as it did. -/
def fnExactIsPriceProofUptoRow : OpenClaim := { program := "ytonpeflncnccdaa", sum := "9b5e2702100ffa94d60adfe641fe95185d7575e636d6cb8b435de19e9e9fc9dd", func := "loop.example/g01111/laws.FnExactIsPriceProof", spec := "fnExactIsPriceProof", unfollowed := true, recurses := true, apart := false, narrowed := true }
def FnExactIsPriceProofUptoSaid : Prop := fnExactIsPriceProofUptoRow.holds Try.pinned (OpenSpec.upto fnExactIsPriceProofSpec)

end Rows
end Go.Proofs.Ytonpeflncnccdaa
