/-
  No cell of these rows narrows 'for every input' (looked for: loops, veiled, ifaces, maps, wideKeys, modest, calm, conditions, laid).
  DERIVED. THE GIVEN ROWS OF THIS SEAT. 8 by the template 'for every input the law returns true; each argument reads behind the call as it read before'; 0 by the template 'total and deterministic' (their statements: YtapnlmjgikiocaaTotals.lean).
  GIVEN WITH THE SEED: the statements are not yours to turn. If you find one false, say at which input.
  Laid BY PROGRAM, IN A SANDBOX (cutbox-rows.mjs): the forced cells as the released guide's own fill.sh prints them over the translation 97e46903018144cf… (all of the seat's roots in one cut). By AI agents, Wed Nov 11 2026. No macro, syntax, notation, axiom, sorry.
-/
import Derived.Test.YtapnlmjgikiocaaChecked
import GoSem.Claim
import GoSem.ClaimJoined
import GoSem.ClaimMapViews
import Derived.JoinedTies
import Derived.KernelRfl
namespace Go.Proofs.Ytapnlmjgikiocaa
/- THE CELL 'sum', in the pinned program and in every row, IS THE sha256 OF THE DUMP (.gsa) THAT YtapnlmjgikiocaaProg.lean LOADS. Nothing in Lean hashes anything: it is a label: what it is worth is what the hold of that sum in a sandbox is worth. -/
noncomputable def Try.pinned : Pinned := { name := "ytapnlmjgikiocaa", sum := "97e46903018144cff1c4ca27e1c0b004d9505dc22ed65170a55533e0cd56e326", checked := Try.checked }
namespace Rows
def none {H : Type} : Left H := { results := [], args := [] }

/-- 'laws.FnExactIsCase': WHATEVER THE INPUT: true; the input reads as it did. -/
def fnExactIsCaseSpec : ChangeSpec := { name := "fnExactIsCase", fn := fun _ => fun
  | [d] => { results := [.lit (.bool true)], args := [d] }
  | _ => none }
def fnExactIsCaseRow : OpenClaim := { program := "ytapnlmjgikiocaa", sum := "97e46903018144cff1c4ca27e1c0b004d9505dc22ed65170a55533e0cd56e326", func := "loop.example/g01111/laws.FnExactIsCase", spec := "fnExactIsCase", unfollowed := true, recurses := true, apart := false }
def FnExactIsCaseSaid : Prop := fnExactIsCaseRow.holds Try.pinned (OpenSpec.ofChange fnExactIsCaseSpec)

/-- ITS FALSE NEIGHBOUR: 'it returns false'. Refute it at one input. -/
def fnExactIsCaseWrong : ChangeSpec := { name := "fnExactIsCase", fn := fun _ => fun
  | [d] => { results := [.lit (.bool false)], args := [d] }
  | _ => none }
def FnExactIsCaseWrongFalsely : Prop := fnExactIsCaseRow.holds Try.pinned (OpenSpec.ofChange fnExactIsCaseWrong)

/-- 'laws.FnExactStocksOf': WHATEVER THE INPUT: true; the input reads as it did. -/
def fnExactStocksOfSpec : ChangeSpec := { name := "fnExactStocksOf", fn := fun _ => fun
  | [d1, d2] => { results := [.lit (.bool true)], args := [d1, d2] }
  | _ => none }
def fnExactStocksOfRow : OpenClaim := { program := "ytapnlmjgikiocaa", sum := "97e46903018144cff1c4ca27e1c0b004d9505dc22ed65170a55533e0cd56e326", func := "loop.example/g01111/laws.FnExactStocksOf", spec := "fnExactStocksOf", unfollowed := true, recurses := true, apart := false }
def FnExactStocksOfSaid : Prop := fnExactStocksOfRow.holds Try.pinned (OpenSpec.ofChange fnExactStocksOfSpec)

/-- ITS FALSE NEIGHBOUR: 'it returns false'. Refute it at one input. -/
def fnExactStocksOfWrong : ChangeSpec := { name := "fnExactStocksOf", fn := fun _ => fun
  | [d1, d2] => { results := [.lit (.bool false)], args := [d1, d2] }
  | _ => none }
def FnExactStocksOfWrongFalsely : Prop := fnExactStocksOfRow.holds Try.pinned (OpenSpec.ofChange fnExactStocksOfWrong)

/-- 'laws.FnExactIsPlan': WHATEVER THE INPUT: true; the input reads as it did. -/
def fnExactIsPlanSpec : ChangeSpec := { name := "fnExactIsPlan", fn := fun _ => fun
  | [d1, d2] => { results := [.lit (.bool true)], args := [d1, d2] }
  | _ => none }
def fnExactIsPlanRow : OpenClaim := { program := "ytapnlmjgikiocaa", sum := "97e46903018144cff1c4ca27e1c0b004d9505dc22ed65170a55533e0cd56e326", func := "loop.example/g01111/laws.FnExactIsPlan", spec := "fnExactIsPlan", unfollowed := true, recurses := true, apart := false }
def FnExactIsPlanSaid : Prop := fnExactIsPlanRow.holds Try.pinned (OpenSpec.ofChange fnExactIsPlanSpec)

/-- ITS FALSE NEIGHBOUR: 'it returns false'. Refute it at one input. -/
def fnExactIsPlanWrong : ChangeSpec := { name := "fnExactIsPlan", fn := fun _ => fun
  | [d1, d2] => { results := [.lit (.bool false)], args := [d1, d2] }
  | _ => none }
def FnExactIsPlanWrongFalsely : Prop := fnExactIsPlanRow.holds Try.pinned (OpenSpec.ofChange fnExactIsPlanWrong)

/-- 'laws.FnExactPlanCost': WHATEVER THE INPUT: true; the input reads as it did. -/
def fnExactPlanCostSpec : ChangeSpec := { name := "fnExactPlanCost", fn := fun _ => fun
  | [d1, d2] => { results := [.lit (.bool true)], args := [d1, d2] }
  | _ => none }
def fnExactPlanCostRow : OpenClaim := { program := "ytapnlmjgikiocaa", sum := "97e46903018144cff1c4ca27e1c0b004d9505dc22ed65170a55533e0cd56e326", func := "loop.example/g01111/laws.FnExactPlanCost", spec := "fnExactPlanCost", unfollowed := true, recurses := true, apart := false }
def FnExactPlanCostSaid : Prop := fnExactPlanCostRow.holds Try.pinned (OpenSpec.ofChange fnExactPlanCostSpec)

/-- ITS FALSE NEIGHBOUR: 'it returns false'. Refute it at one input. -/
def fnExactPlanCostWrong : ChangeSpec := { name := "fnExactPlanCost", fn := fun _ => fun
  | [d1, d2] => { results := [.lit (.bool false)], args := [d1, d2] }
  | _ => none }
def FnExactPlanCostWrongFalsely : Prop := fnExactPlanCostRow.holds Try.pinned (OpenSpec.ofChange fnExactPlanCostWrong)

/-- 'laws.FnExactCostParts': WHATEVER THE INPUT: true; the input reads as it did. -/
def fnExactCostPartsSpec : ChangeSpec := { name := "fnExactCostParts", fn := fun _ => fun
  | [d1, d2] => { results := [.lit (.bool true)], args := [d1, d2] }
  | _ => none }
def fnExactCostPartsRow : OpenClaim := { program := "ytapnlmjgikiocaa", sum := "97e46903018144cff1c4ca27e1c0b004d9505dc22ed65170a55533e0cd56e326", func := "loop.example/g01111/laws.FnExactCostParts", spec := "fnExactCostParts", unfollowed := true, recurses := true, apart := false }
def FnExactCostPartsSaid : Prop := fnExactCostPartsRow.holds Try.pinned (OpenSpec.ofChange fnExactCostPartsSpec)

/-- ITS FALSE NEIGHBOUR: 'it returns false'. Refute it at one input. -/
def fnExactCostPartsWrong : ChangeSpec := { name := "fnExactCostParts", fn := fun _ => fun
  | [d1, d2] => { results := [.lit (.bool false)], args := [d1, d2] }
  | _ => none }
def FnExactCostPartsWrongFalsely : Prop := fnExactCostPartsRow.holds Try.pinned (OpenSpec.ofChange fnExactCostPartsWrong)

/-- 'laws.FnExactEmptyPeriods': WHATEVER THE INPUT: true; the input reads as it did. -/
def fnExactEmptyPeriodsSpec : ChangeSpec := { name := "fnExactEmptyPeriods", fn := fun _ => fun
  | [d1, d2] => { results := [.lit (.bool true)], args := [d1, d2] }
  | _ => none }
def fnExactEmptyPeriodsRow : OpenClaim := { program := "ytapnlmjgikiocaa", sum := "97e46903018144cff1c4ca27e1c0b004d9505dc22ed65170a55533e0cd56e326", func := "loop.example/g01111/laws.FnExactEmptyPeriods", spec := "fnExactEmptyPeriods", unfollowed := true, recurses := true, apart := false }
def FnExactEmptyPeriodsSaid : Prop := fnExactEmptyPeriodsRow.holds Try.pinned (OpenSpec.ofChange fnExactEmptyPeriodsSpec)

/-- ITS FALSE NEIGHBOUR: 'it returns false'. Refute it at one input. -/
def fnExactEmptyPeriodsWrong : ChangeSpec := { name := "fnExactEmptyPeriods", fn := fun _ => fun
  | [d1, d2] => { results := [.lit (.bool false)], args := [d1, d2] }
  | _ => none }
def FnExactEmptyPeriodsWrongFalsely : Prop := fnExactEmptyPeriodsRow.holds Try.pinned (OpenSpec.ofChange fnExactEmptyPeriodsWrong)

/-- 'laws.FnExactOrderPeriods': WHATEVER THE INPUT: true; the input reads as it did. -/
def fnExactOrderPeriodsSpec : ChangeSpec := { name := "fnExactOrderPeriods", fn := fun _ => fun
  | [d1, d2] => { results := [.lit (.bool true)], args := [d1, d2] }
  | _ => none }
def fnExactOrderPeriodsRow : OpenClaim := { program := "ytapnlmjgikiocaa", sum := "97e46903018144cff1c4ca27e1c0b004d9505dc22ed65170a55533e0cd56e326", func := "loop.example/g01111/laws.FnExactOrderPeriods", spec := "fnExactOrderPeriods", unfollowed := true, recurses := true, apart := false }
def FnExactOrderPeriodsSaid : Prop := fnExactOrderPeriodsRow.holds Try.pinned (OpenSpec.ofChange fnExactOrderPeriodsSpec)

/-- ITS FALSE NEIGHBOUR: 'it returns false'. Refute it at one input. -/
def fnExactOrderPeriodsWrong : ChangeSpec := { name := "fnExactOrderPeriods", fn := fun _ => fun
  | [d1, d2] => { results := [.lit (.bool false)], args := [d1, d2] }
  | _ => none }
def FnExactOrderPeriodsWrongFalsely : Prop := fnExactOrderPeriodsRow.holds Try.pinned (OpenSpec.ofChange fnExactOrderPeriodsWrong)

/-- 'laws.FnExactLotForLot': WHATEVER THE INPUT: true; the input reads as it did. -/
def fnExactLotForLotSpec : ChangeSpec := { name := "fnExactLotForLot", fn := fun _ => fun
  | [d] => { results := [.lit (.bool true)], args := [d] }
  | _ => none }
def fnExactLotForLotRow : OpenClaim := { program := "ytapnlmjgikiocaa", sum := "97e46903018144cff1c4ca27e1c0b004d9505dc22ed65170a55533e0cd56e326", func := "loop.example/g01111/laws.FnExactLotForLot", spec := "fnExactLotForLot", unfollowed := true, recurses := true, apart := false }
def FnExactLotForLotSaid : Prop := fnExactLotForLotRow.holds Try.pinned (OpenSpec.ofChange fnExactLotForLotSpec)

/-- ITS FALSE NEIGHBOUR: 'it returns false'. Refute it at one input. -/
def fnExactLotForLotWrong : ChangeSpec := { name := "fnExactLotForLot", fn := fun _ => fun
  | [d] => { results := [.lit (.bool false)], args := [d] }
  | _ => none }
def FnExactLotForLotWrongFalsely : Prop := fnExactLotForLotRow.holds Try.pinned (OpenSpec.ofChange fnExactLotForLotWrong)

/- THE SECOND FORM. 'bulk': how many values and letters a reading holds, each counted each time it is reached (what is shared counts as often as it is met; a slice's spare places count too). A statement '..UptoSaid' is the law's where the arguments, and the package variables that the reading takes, are together of bulk at most 1048576: NARROWER than '..Said'. Prove '..Said' where nothing that the law and all that it calls make is longer than what came in: it says more and counts as full. Else prove '..UptoSaid'. A law counts once. -/
mutual
def uptoBulk {H : Type} : DataW H → Nat
  | .lit (.string bytes) => bytes.length + 1
  | .lit _ => 1
  | .nil => 1
  | .ptr d => uptoBulk d + 1
  | .slice elems spare => uptoBulkAll elems + uptoBulkAll spare + 1
  | .agg parts => uptoBulkAll parts + 1
  | .iface _ d => uptoBulk d + 1
  | .map entries => uptoBulkEntries entries + 1
  | .held _ => 1
def uptoBulkAll {H : Type} : List (DataW H) → Nat
  | [] => 0
  | d :: r => uptoBulk d + uptoBulkAll r
def uptoBulkEntries {H : Type} : List (Lit × DataW H) → Nat
  | [] => 0
  | x :: r => uptoBulkEntry x + uptoBulkEntries r
def uptoBulkEntry {H : Type} : Lit × DataW H → Nat
  | (.string bytes, d) => bytes.length + uptoBulk d + 1
  | (_, d) => uptoBulk d + 1
 end
def uptoSmall : (H : Type) → List (DataW H) → Bool := fun _ ds => decide (uptoBulkAll ds ≤ 1048576)
def OpenSpec.upto (s : _root_.Go.ChangeSpec) : _root_.Go.OpenSpec := { _root_.Go.OpenSpec.ofChange s with cond := some uptoSmall }

/-- 'laws.FnExactIsCase', WHERE WHAT IT READS IS OF BULK AT MOST 1048576: true; the input reads as it did. -/
def fnExactIsCaseUptoRow : OpenClaim := { program := "ytapnlmjgikiocaa", sum := "97e46903018144cff1c4ca27e1c0b004d9505dc22ed65170a55533e0cd56e326", func := "loop.example/g01111/laws.FnExactIsCase", spec := "fnExactIsCase", unfollowed := true, recurses := true, apart := false, narrowed := true }
def FnExactIsCaseUptoSaid : Prop := fnExactIsCaseUptoRow.holds Try.pinned (OpenSpec.upto fnExactIsCaseSpec)

/-- 'laws.FnExactStocksOf', WHERE WHAT IT READS IS OF BULK AT MOST 1048576: true; the input reads as it did. -/
def fnExactStocksOfUptoRow : OpenClaim := { program := "ytapnlmjgikiocaa", sum := "97e46903018144cff1c4ca27e1c0b004d9505dc22ed65170a55533e0cd56e326", func := "loop.example/g01111/laws.FnExactStocksOf", spec := "fnExactStocksOf", unfollowed := true, recurses := true, apart := false, narrowed := true }
def FnExactStocksOfUptoSaid : Prop := fnExactStocksOfUptoRow.holds Try.pinned (OpenSpec.upto fnExactStocksOfSpec)

/-- 'laws.FnExactIsPlan', WHERE WHAT IT READS IS OF BULK AT MOST 1048576: true; the input reads as it did. -/
def fnExactIsPlanUptoRow : OpenClaim := { program := "ytapnlmjgikiocaa", sum := "97e46903018144cff1c4ca27e1c0b004d9505dc22ed65170a55533e0cd56e326", func := "loop.example/g01111/laws.FnExactIsPlan", spec := "fnExactIsPlan", unfollowed := true, recurses := true, apart := false, narrowed := true }
def FnExactIsPlanUptoSaid : Prop := fnExactIsPlanUptoRow.holds Try.pinned (OpenSpec.upto fnExactIsPlanSpec)

/-- 'laws.FnExactPlanCost', WHERE WHAT IT READS IS OF BULK AT MOST 1048576: true; the input reads as it did. -/
def fnExactPlanCostUptoRow : OpenClaim := { program := "ytapnlmjgikiocaa", sum := "97e46903018144cff1c4ca27e1c0b004d9505dc22ed65170a55533e0cd56e326", func := "loop.example/g01111/laws.FnExactPlanCost", spec := "fnExactPlanCost", unfollowed := true, recurses := true, apart := false, narrowed := true }
def FnExactPlanCostUptoSaid : Prop := fnExactPlanCostUptoRow.holds Try.pinned (OpenSpec.upto fnExactPlanCostSpec)

/-- 'laws.FnExactCostParts', WHERE WHAT IT READS IS OF BULK AT MOST 1048576: true; the input reads as it did. -/
def fnExactCostPartsUptoRow : OpenClaim := { program := "ytapnlmjgikiocaa", sum := "97e46903018144cff1c4ca27e1c0b004d9505dc22ed65170a55533e0cd56e326", func := "loop.example/g01111/laws.FnExactCostParts", spec := "fnExactCostParts", unfollowed := true, recurses := true, apart := false, narrowed := true }
def FnExactCostPartsUptoSaid : Prop := fnExactCostPartsUptoRow.holds Try.pinned (OpenSpec.upto fnExactCostPartsSpec)

/-- 'laws.FnExactEmptyPeriods', WHERE WHAT IT READS IS OF BULK AT MOST 1048576: true; the input reads as it did. -/
def fnExactEmptyPeriodsUptoRow : OpenClaim := { program := "ytapnlmjgikiocaa", sum := "97e46903018144cff1c4ca27e1c0b004d9505dc22ed65170a55533e0cd56e326", func := "loop.example/g01111/laws.FnExactEmptyPeriods", spec := "fnExactEmptyPeriods", unfollowed := true, recurses := true, apart := false, narrowed := true }
def FnExactEmptyPeriodsUptoSaid : Prop := fnExactEmptyPeriodsUptoRow.holds Try.pinned (OpenSpec.upto fnExactEmptyPeriodsSpec)

/-- 'laws.FnExactOrderPeriods', WHERE WHAT IT READS IS OF BULK AT MOST 1048576: true; the input reads as it did. -/
def fnExactOrderPeriodsUptoRow : OpenClaim := { program := "ytapnlmjgikiocaa", sum := "97e46903018144cff1c4ca27e1c0b004d9505dc22ed65170a55533e0cd56e326", func := "loop.example/g01111/laws.FnExactOrderPeriods", spec := "fnExactOrderPeriods", unfollowed := true, recurses := true, apart := false, narrowed := true }
def FnExactOrderPeriodsUptoSaid : Prop := fnExactOrderPeriodsUptoRow.holds Try.pinned (OpenSpec.upto fnExactOrderPeriodsSpec)

/-- 'laws.FnExactLotForLot', WHERE WHAT IT READS IS OF BULK AT MOST 1048576: true; the input reads as it did. -/
def fnExactLotForLotUptoRow : OpenClaim := { program := "ytapnlmjgikiocaa", sum := "97e46903018144cff1c4ca27e1c0b004d9505dc22ed65170a55533e0cd56e326", func := "loop.example/g01111/laws.FnExactLotForLot", spec := "fnExactLotForLot", unfollowed := true, recurses := true, apart := false, narrowed := true }
def FnExactLotForLotUptoSaid : Prop := fnExactLotForLotUptoRow.holds Try.pinned (OpenSpec.upto fnExactLotForLotSpec)

end Rows
end Go.Proofs.Ytapnlmjgikiocaa
