/-
  No cell of these rows narrows 'for every input' (looked for: loops, veiled, ifaces, maps, wideKeys, modest, calm, conditions, laid).
  DERIVED. THE GIVEN ROWS OF THIS SEAT. 10 by the template 'for every input the law returns true; each argument reads behind the call as it read before'; 0 by the template 'total and deterministic' (their statements: YtbiipjdhabbleaaTotals.lean).
  GIVEN WITH THE SEED: the statements are not yours to turn. If you find one false, say at which input.
  Laid BY PROGRAM, IN A SANDBOX (cutbox-rows.mjs): the forced cells as the released guide's own fill.sh prints them over the translation 3a12d6d0a4ab8e95… (all of the seat's roots in one cut). By AI agents, Wed Nov 11 2026. No macro, syntax, notation, axiom, sorry.
-/
import Derived.Test.YtbiipjdhabbleaaChecked
import GoSem.Claim
import GoSem.ClaimJoined
import GoSem.ClaimMapViews
import Derived.JoinedTies
import Derived.KernelRfl
namespace Go.Proofs.Ytbiipjdhabbleaa
/- THE CELL 'sum', in the pinned program and in every row, IS THE sha256 OF THE DUMP (.gsa) THAT YtbiipjdhabbleaaProg.lean LOADS. Nothing in Lean hashes anything: it is a label: what it is worth is what the hold of that sum in a sandbox is worth. -/
noncomputable def Try.pinned : Pinned := { name := "ytbiipjdhabbleaa", sum := "3a12d6d0a4ab8e9536aecfd722d171524600d5ffb1ed6e4952a43e48ad87dfca", checked := Try.checked }
namespace Rows
def none {H : Type} : Left H := { results := [], args := [] }

/-- 'laws.FnExactOrdersAtEmpty': WHATEVER THE INPUT: true; the input reads as it did. -/
def fnExactOrdersAtEmptySpec : ChangeSpec := { name := "fnExactOrdersAtEmpty", fn := fun _ => fun
  | [d1, d2] => { results := [.lit (.bool true)], args := [d1, d2] }
  | _ => none }
def fnExactOrdersAtEmptyRow : OpenClaim := { program := "ytbiipjdhabbleaa", sum := "3a12d6d0a4ab8e9536aecfd722d171524600d5ffb1ed6e4952a43e48ad87dfca", func := "loop.example/g01111/laws.FnExactOrdersAtEmpty", spec := "fnExactOrdersAtEmpty", unfollowed := true, recurses := true, apart := false }
def FnExactOrdersAtEmptySaid : Prop := fnExactOrdersAtEmptyRow.holds Try.pinned (OpenSpec.ofChange fnExactOrdersAtEmptySpec)

/-- ITS FALSE NEIGHBOUR: 'it returns false'. Refute it at one input. -/
def fnExactOrdersAtEmptyWrong : ChangeSpec := { name := "fnExactOrdersAtEmpty", fn := fun _ => fun
  | [d1, d2] => { results := [.lit (.bool false)], args := [d1, d2] }
  | _ => none }
def FnExactOrdersAtEmptyWrongFalsely : Prop := fnExactOrdersAtEmptyRow.holds Try.pinned (OpenSpec.ofChange fnExactOrdersAtEmptyWrong)

/-- 'laws.FnExactCutCase': WHATEVER THE INPUT: true; the input reads as it did. -/
def fnExactCutCaseSpec : ChangeSpec := { name := "fnExactCutCase", fn := fun _ => fun
  | [d1, d2, d3] => { results := [.lit (.bool true)], args := [d1, d2, d3] }
  | _ => none }
def fnExactCutCaseRow : OpenClaim := { program := "ytbiipjdhabbleaa", sum := "3a12d6d0a4ab8e9536aecfd722d171524600d5ffb1ed6e4952a43e48ad87dfca", func := "loop.example/g01111/laws.FnExactCutCase", spec := "fnExactCutCase", unfollowed := true, recurses := true, apart := false }
def FnExactCutCaseSaid : Prop := fnExactCutCaseRow.holds Try.pinned (OpenSpec.ofChange fnExactCutCaseSpec)

/-- ITS FALSE NEIGHBOUR: 'it returns false'. Refute it at one input. -/
def fnExactCutCaseWrong : ChangeSpec := { name := "fnExactCutCase", fn := fun _ => fun
  | [d1, d2, d3] => { results := [.lit (.bool false)], args := [d1, d2, d3] }
  | _ => none }
def FnExactCutCaseWrongFalsely : Prop := fnExactCutCaseRow.holds Try.pinned (OpenSpec.ofChange fnExactCutCaseWrong)

/-- 'laws.FnExactWaitsNever': WHATEVER THE INPUT: true; the input reads as it did. -/
def fnExactWaitsNeverSpec : ChangeSpec := { name := "fnExactWaitsNever", fn := fun _ => fun
  | [d] => { results := [.lit (.bool true)], args := [d] }
  | _ => none }
def fnExactWaitsNeverRow : OpenClaim := { program := "ytbiipjdhabbleaa", sum := "3a12d6d0a4ab8e9536aecfd722d171524600d5ffb1ed6e4952a43e48ad87dfca", func := "loop.example/g01111/laws.FnExactWaitsNever", spec := "fnExactWaitsNever", unfollowed := true, recurses := true, apart := false }
def FnExactWaitsNeverSaid : Prop := fnExactWaitsNeverRow.holds Try.pinned (OpenSpec.ofChange fnExactWaitsNeverSpec)

/-- ITS FALSE NEIGHBOUR: 'it returns false'. Refute it at one input. -/
def fnExactWaitsNeverWrong : ChangeSpec := { name := "fnExactWaitsNever", fn := fun _ => fun
  | [d] => { results := [.lit (.bool false)], args := [d] }
  | _ => none }
def FnExactWaitsNeverWrongFalsely : Prop := fnExactWaitsNeverRow.holds Try.pinned (OpenSpec.ofChange fnExactWaitsNeverWrong)

/-- 'laws.FnExactRateOf': WHATEVER THE INPUT: true; the input reads as it did. -/
def fnExactRateOfSpec : ChangeSpec := { name := "fnExactRateOf", fn := fun _ => fun
  | [d1, d2, d3] => { results := [.lit (.bool true)], args := [d1, d2, d3] }
  | _ => none }
def fnExactRateOfRow : OpenClaim := { program := "ytbiipjdhabbleaa", sum := "3a12d6d0a4ab8e9536aecfd722d171524600d5ffb1ed6e4952a43e48ad87dfca", func := "loop.example/g01111/laws.FnExactRateOf", spec := "fnExactRateOf", unfollowed := true, recurses := true, apart := false }
def FnExactRateOfSaid : Prop := fnExactRateOfRow.holds Try.pinned (OpenSpec.ofChange fnExactRateOfSpec)

/-- ITS FALSE NEIGHBOUR: 'it returns false'. Refute it at one input. -/
def fnExactRateOfWrong : ChangeSpec := { name := "fnExactRateOf", fn := fun _ => fun
  | [d1, d2, d3] => { results := [.lit (.bool false)], args := [d1, d2, d3] }
  | _ => none }
def FnExactRateOfWrongFalsely : Prop := fnExactRateOfRow.holds Try.pinned (OpenSpec.ofChange fnExactRateOfWrong)

/-- 'laws.FnExactSpanCost': WHATEVER THE INPUT: true; the input reads as it did. -/
def fnExactSpanCostSpec : ChangeSpec := { name := "fnExactSpanCost", fn := fun _ => fun
  | [d1, d2, d3] => { results := [.lit (.bool true)], args := [d1, d2, d3] }
  | _ => none }
def fnExactSpanCostRow : OpenClaim := { program := "ytbiipjdhabbleaa", sum := "3a12d6d0a4ab8e9536aecfd722d171524600d5ffb1ed6e4952a43e48ad87dfca", func := "loop.example/g01111/laws.FnExactSpanCost", spec := "fnExactSpanCost", unfollowed := true, recurses := true, apart := false }
def FnExactSpanCostSaid : Prop := fnExactSpanCostRow.holds Try.pinned (OpenSpec.ofChange fnExactSpanCostSpec)

/-- ITS FALSE NEIGHBOUR: 'it returns false'. Refute it at one input. -/
def fnExactSpanCostWrong : ChangeSpec := { name := "fnExactSpanCost", fn := fun _ => fun
  | [d1, d2, d3] => { results := [.lit (.bool false)], args := [d1, d2, d3] }
  | _ => none }
def FnExactSpanCostWrongFalsely : Prop := fnExactSpanCostRow.holds Try.pinned (OpenSpec.ofChange fnExactSpanCostWrong)

/-- 'laws.FnExactForwardCosts': WHATEVER THE INPUT: true; the input reads as it did. -/
def fnExactForwardCostsSpec : ChangeSpec := { name := "fnExactForwardCosts", fn := fun _ => fun
  | [d] => { results := [.lit (.bool true)], args := [d] }
  | _ => none }
def fnExactForwardCostsRow : OpenClaim := { program := "ytbiipjdhabbleaa", sum := "3a12d6d0a4ab8e9536aecfd722d171524600d5ffb1ed6e4952a43e48ad87dfca", func := "loop.example/g01111/laws.FnExactForwardCosts", spec := "fnExactForwardCosts", unfollowed := true, recurses := true, apart := false }
def FnExactForwardCostsSaid : Prop := fnExactForwardCostsRow.holds Try.pinned (OpenSpec.ofChange fnExactForwardCostsSpec)

/-- ITS FALSE NEIGHBOUR: 'it returns false'. Refute it at one input. -/
def fnExactForwardCostsWrong : ChangeSpec := { name := "fnExactForwardCosts", fn := fun _ => fun
  | [d] => { results := [.lit (.bool false)], args := [d] }
  | _ => none }
def FnExactForwardCostsWrongFalsely : Prop := fnExactForwardCostsRow.holds Try.pinned (OpenSpec.ofChange fnExactForwardCostsWrong)

/-- 'laws.FnExactBackwardCosts': WHATEVER THE INPUT: true; the input reads as it did. -/
def fnExactBackwardCostsSpec : ChangeSpec := { name := "fnExactBackwardCosts", fn := fun _ => fun
  | [d] => { results := [.lit (.bool true)], args := [d] }
  | _ => none }
def fnExactBackwardCostsRow : OpenClaim := { program := "ytbiipjdhabbleaa", sum := "3a12d6d0a4ab8e9536aecfd722d171524600d5ffb1ed6e4952a43e48ad87dfca", func := "loop.example/g01111/laws.FnExactBackwardCosts", spec := "fnExactBackwardCosts", unfollowed := true, recurses := true, apart := false }
def FnExactBackwardCostsSaid : Prop := fnExactBackwardCostsRow.holds Try.pinned (OpenSpec.ofChange fnExactBackwardCostsSpec)

/-- ITS FALSE NEIGHBOUR: 'it returns false'. Refute it at one input. -/
def fnExactBackwardCostsWrong : ChangeSpec := { name := "fnExactBackwardCosts", fn := fun _ => fun
  | [d] => { results := [.lit (.bool false)], args := [d] }
  | _ => none }
def FnExactBackwardCostsWrongFalsely : Prop := fnExactBackwardCostsRow.holds Try.pinned (OpenSpec.ofChange fnExactBackwardCostsWrong)

/-- 'laws.FnExactLastOrders': WHATEVER THE INPUT: true; the input reads as it did. -/
def fnExactLastOrdersSpec : ChangeSpec := { name := "fnExactLastOrders", fn := fun _ => fun
  | [d] => { results := [.lit (.bool true)], args := [d] }
  | _ => none }
def fnExactLastOrdersRow : OpenClaim := { program := "ytbiipjdhabbleaa", sum := "3a12d6d0a4ab8e9536aecfd722d171524600d5ffb1ed6e4952a43e48ad87dfca", func := "loop.example/g01111/laws.FnExactLastOrders", spec := "fnExactLastOrders", unfollowed := true, recurses := true, apart := false }
def FnExactLastOrdersSaid : Prop := fnExactLastOrdersRow.holds Try.pinned (OpenSpec.ofChange fnExactLastOrdersSpec)

/-- ITS FALSE NEIGHBOUR: 'it returns false'. Refute it at one input. -/
def fnExactLastOrdersWrong : ChangeSpec := { name := "fnExactLastOrders", fn := fun _ => fun
  | [d] => { results := [.lit (.bool false)], args := [d] }
  | _ => none }
def FnExactLastOrdersWrongFalsely : Prop := fnExactLastOrdersRow.holds Try.pinned (OpenSpec.ofChange fnExactLastOrdersWrong)

/-- 'laws.FnExactTurningPeriods': WHATEVER THE INPUT: true; the input reads as it did. -/
def fnExactTurningPeriodsSpec : ChangeSpec := { name := "fnExactTurningPeriods", fn := fun _ => fun
  | [d] => { results := [.lit (.bool true)], args := [d] }
  | _ => none }
def fnExactTurningPeriodsRow : OpenClaim := { program := "ytbiipjdhabbleaa", sum := "3a12d6d0a4ab8e9536aecfd722d171524600d5ffb1ed6e4952a43e48ad87dfca", func := "loop.example/g01111/laws.FnExactTurningPeriods", spec := "fnExactTurningPeriods", unfollowed := true, recurses := true, apart := false }
def FnExactTurningPeriodsSaid : Prop := fnExactTurningPeriodsRow.holds Try.pinned (OpenSpec.ofChange fnExactTurningPeriodsSpec)

/-- ITS FALSE NEIGHBOUR: 'it returns false'. Refute it at one input. -/
def fnExactTurningPeriodsWrong : ChangeSpec := { name := "fnExactTurningPeriods", fn := fun _ => fun
  | [d] => { results := [.lit (.bool false)], args := [d] }
  | _ => none }
def FnExactTurningPeriodsWrongFalsely : Prop := fnExactTurningPeriodsRow.holds Try.pinned (OpenSpec.ofChange fnExactTurningPeriodsWrong)

/-- 'laws.FnExactHorizonsOf': WHATEVER THE INPUT: true; the input reads as it did. -/
def fnExactHorizonsOfSpec : ChangeSpec := { name := "fnExactHorizonsOf", fn := fun _ => fun
  | [d] => { results := [.lit (.bool true)], args := [d] }
  | _ => none }
def fnExactHorizonsOfRow : OpenClaim := { program := "ytbiipjdhabbleaa", sum := "3a12d6d0a4ab8e9536aecfd722d171524600d5ffb1ed6e4952a43e48ad87dfca", func := "loop.example/g01111/laws.FnExactHorizonsOf", spec := "fnExactHorizonsOf", unfollowed := true, recurses := true, apart := false }
def FnExactHorizonsOfSaid : Prop := fnExactHorizonsOfRow.holds Try.pinned (OpenSpec.ofChange fnExactHorizonsOfSpec)

/-- ITS FALSE NEIGHBOUR: 'it returns false'. Refute it at one input. -/
def fnExactHorizonsOfWrong : ChangeSpec := { name := "fnExactHorizonsOf", fn := fun _ => fun
  | [d] => { results := [.lit (.bool false)], args := [d] }
  | _ => none }
def FnExactHorizonsOfWrongFalsely : Prop := fnExactHorizonsOfRow.holds Try.pinned (OpenSpec.ofChange fnExactHorizonsOfWrong)

/- THE SECOND FORM. 'bulk': how many values and letters a reading holds, each counted each time it is reached (what is shared counts as often as it is met; a slice's spare places count too). A statement '..UptoSaid' is the law's where the arguments, and the package variables that the reading takes, are together of bulk at most 1048576: NARROWER than '..Said'. Prove '..Said' where nothing that the law and all that it calls make is longer than what came in: it says more and counts as full. Else prove '..UptoSaid'. A law counts once. -/
mutual
def uptoBulk {H : Type} : DataW H → Nat
  | .lit (.string bytes) => bytes.length + 1
  | .lit _ => 1
  | .nil => 1
  | .ptr d => uptoBulk d + 1
  | .slice elems spare => uptoBulkAll elems + uptoBulkAll spare + 1
  | .agg parts => uptoBulkAll parts + 1
  | .iface _ d => uptoBulk d + 1
  | .map entries => uptoBulkEntries entries + 1
  | .held _ => 1
def uptoBulkAll {H : Type} : List (DataW H) → Nat
  | [] => 0
  | d :: r => uptoBulk d + uptoBulkAll r
def uptoBulkEntries {H : Type} : List (Lit × DataW H) → Nat
  | [] => 0
  | x :: r => uptoBulkEntry x + uptoBulkEntries r
def uptoBulkEntry {H : Type} : Lit × DataW H → Nat
  | (.string bytes, d) => bytes.length + uptoBulk d + 1
  | (_, d) => uptoBulk d + 1
 end
def uptoSmall : (H : Type) → List (DataW H) → Bool := fun _ ds => decide (uptoBulkAll ds ≤ 1048576)
def OpenSpec.upto (s : _root_.Go.ChangeSpec) : _root_.Go.OpenSpec := { _root_.Go.OpenSpec.ofChange s with cond := some uptoSmall }

/-- 'laws.FnExactOrdersAtEmpty', WHERE WHAT IT READS IS OF BULK AT MOST 1048576: true; the input reads as it did. -/
def fnExactOrdersAtEmptyUptoRow : OpenClaim := { program := "ytbiipjdhabbleaa", sum := "3a12d6d0a4ab8e9536aecfd722d171524600d5ffb1ed6e4952a43e48ad87dfca", func := "loop.example/g01111/laws.FnExactOrdersAtEmpty", spec := "fnExactOrdersAtEmpty", unfollowed := true, recurses := true, apart := false, narrowed := true }
def FnExactOrdersAtEmptyUptoSaid : Prop := fnExactOrdersAtEmptyUptoRow.holds Try.pinned (OpenSpec.upto fnExactOrdersAtEmptySpec)

/-- 'laws.FnExactCutCase', WHERE WHAT IT READS IS OF BULK AT MOST 1048576: true; the input reads as it did. -/
def fnExactCutCaseUptoRow : OpenClaim := { program := "ytbiipjdhabbleaa", sum := "3a12d6d0a4ab8e9536aecfd722d171524600d5ffb1ed6e4952a43e48ad87dfca", func := "loop.example/g01111/laws.FnExactCutCase", spec := "fnExactCutCase", unfollowed := true, recurses := true, apart := false, narrowed := true }
def FnExactCutCaseUptoSaid : Prop := fnExactCutCaseUptoRow.holds Try.pinned (OpenSpec.upto fnExactCutCaseSpec)

/-- 'laws.FnExactWaitsNever', WHERE WHAT IT READS IS OF BULK AT MOST 1048576: true; the input reads as it did. -/
def fnExactWaitsNeverUptoRow : OpenClaim := { program := "ytbiipjdhabbleaa", sum := "3a12d6d0a4ab8e9536aecfd722d171524600d5ffb1ed6e4952a43e48ad87dfca", func := "loop.example/g01111/laws.FnExactWaitsNever", spec := "fnExactWaitsNever", unfollowed := true, recurses := true, apart := false, narrowed := true }
def FnExactWaitsNeverUptoSaid : Prop := fnExactWaitsNeverUptoRow.holds Try.pinned (OpenSpec.upto fnExactWaitsNeverSpec)

/-- 'laws.FnExactRateOf', WHERE WHAT IT READS IS OF BULK AT MOST 1048576: true; the input reads as it did. -/
def fnExactRateOfUptoRow : OpenClaim := { program := "ytbiipjdhabbleaa", sum := "3a12d6d0a4ab8e9536aecfd722d171524600d5ffb1ed6e4952a43e48ad87dfca", func := "loop.example/g01111/laws.FnExactRateOf", spec := "fnExactRateOf", unfollowed := true, recurses := true, apart := false, narrowed := true }
def FnExactRateOfUptoSaid : Prop := fnExactRateOfUptoRow.holds Try.pinned (OpenSpec.upto fnExactRateOfSpec)

/-- 'laws.FnExactSpanCost', WHERE WHAT IT READS IS OF BULK AT MOST 1048576: true; the input reads as it did. -/
def fnExactSpanCostUptoRow : OpenClaim := { program := "ytbiipjdhabbleaa", sum := "3a12d6d0a4ab8e9536aecfd722d171524600d5ffb1ed6e4952a43e48ad87dfca", func := "loop.example/g01111/laws.FnExactSpanCost", spec := "fnExactSpanCost", unfollowed := true, recurses := true, apart := false, narrowed := true }
def FnExactSpanCostUptoSaid : Prop := fnExactSpanCostUptoRow.holds Try.pinned (OpenSpec.upto fnExactSpanCostSpec)

/-- 'laws.FnExactForwardCosts', WHERE WHAT IT READS IS OF BULK AT MOST 1048576: true; the input reads as it did. -/
def fnExactForwardCostsUptoRow : OpenClaim := { program := "ytbiipjdhabbleaa", sum := "3a12d6d0a4ab8e9536aecfd722d171524600d5ffb1ed6e4952a43e48ad87dfca", func := "loop.example/g01111/laws.FnExactForwardCosts", spec := "fnExactForwardCosts", unfollowed := true, recurses := true, apart := false, narrowed := true }
def FnExactForwardCostsUptoSaid : Prop := fnExactForwardCostsUptoRow.holds Try.pinned (OpenSpec.upto fnExactForwardCostsSpec)

/-- 'laws.FnExactBackwardCosts', WHERE WHAT IT READS IS OF BULK AT MOST 1048576: true; the input reads as it did. -/
def fnExactBackwardCostsUptoRow : OpenClaim := { program := "ytbiipjdhabbleaa", sum := "3a12d6d0a4ab8e9536aecfd722d171524600d5ffb1ed6e4952a43e48ad87dfca", func := "loop.example/g01111/laws.FnExactBackwardCosts", spec := "fnExactBackwardCosts", unfollowed := true, recurses := true, apart := false, narrowed := true }
def FnExactBackwardCostsUptoSaid : Prop := fnExactBackwardCostsUptoRow.holds Try.pinned (OpenSpec.upto fnExactBackwardCostsSpec)

/-- 'laws.FnExactLastOrders', WHERE WHAT IT READS IS OF BULK AT MOST 1048576: true; the input reads as it did. -/
def fnExactLastOrdersUptoRow : OpenClaim := { program := "ytbiipjdhabbleaa", sum := "3a12d6d0a4ab8e9536aecfd722d171524600d5ffb1ed6e4952a43e48ad87dfca", func := "loop.example/g01111/laws.FnExactLastOrders", spec := "fnExactLastOrders", unfollowed := true, recurses := true, apart := false, narrowed := true }
def FnExactLastOrdersUptoSaid : Prop := fnExactLastOrdersUptoRow.holds Try.pinned (OpenSpec.upto fnExactLastOrdersSpec)

/-- 'laws.FnExactTurningPeriods', WHERE WHAT IT READS IS OF BULK AT MOST 1048576: true; the input reads as it did. -/
def fnExactTurningPeriodsUptoRow : OpenClaim := { program := "ytbiipjdhabbleaa", sum := "3a12d6d0a4ab8e9536aecfd722d171524600d5ffb1ed6e4952a43e48ad87dfca", func := "loop.example/g01111/laws.FnExactTurningPeriods", spec := "fnExactTurningPeriods", unfollowed := true, recurses := true, apart := false, narrowed := true }
def FnExactTurningPeriodsUptoSaid : Prop := fnExactTurningPeriodsUptoRow.holds Try.pinned (OpenSpec.upto fnExactTurningPeriodsSpec)

/-- 'laws.FnExactHorizonsOf', WHERE WHAT IT READS IS OF BULK AT MOST 1048576: true; the input reads as it did. -/
def fnExactHorizonsOfUptoRow : OpenClaim := { program := "ytbiipjdhabbleaa", sum := "3a12d6d0a4ab8e9536aecfd722d171524600d5ffb1ed6e4952a43e48ad87dfca", func := "loop.example/g01111/laws.FnExactHorizonsOf", spec := "fnExactHorizonsOf", unfollowed := true, recurses := true, apart := false, narrowed := true }
def FnExactHorizonsOfUptoSaid : Prop := fnExactHorizonsOfUptoRow.holds Try.pinned (OpenSpec.upto fnExactHorizonsOfSpec)

end Rows
end Go.Proofs.Ytbiipjdhabbleaa
