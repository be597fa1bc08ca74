/-
  No cell of these rows narrows 'for every input' (looked for: loops, veiled, ifaces, maps, wideKeys, modest, calm, conditions, laid).
  DERIVED. THE GIVEN ROWS OF THIS SEAT. 16 by the template 'for every input the law returns true; each argument reads behind the call as it read before'; 0 by the template 'total and deterministic' (their statements: YtmjnjhdacliieaaTotals.lean).
  GIVEN WITH THE SEED: the statements are not yours to turn. If you find one false, say at which input.
  Laid BY PROGRAM, IN A SANDBOX (cutbox-rows.mjs): the forced cells as the released guide's own fill.sh prints them over the translation 0689b0e2c96ad6fd… (all of the seat's roots in one cut). By AI agents, Wed Nov 11 2026. No macro, syntax, notation, axiom, sorry.
-/
import Derived.Test.YtmjnjhdacliieaaChecked
import GoSem.Claim
import GoSem.ClaimJoined
import GoSem.ClaimMapViews
import Derived.JoinedTies
import Derived.KernelRfl
namespace Go.Proofs.Ytmjnjhdacliieaa
/- THE CELL 'sum', in the pinned program and in every row, IS THE sha256 OF THE DUMP (.gsa) THAT YtmjnjhdacliieaaProg.lean LOADS. Nothing in Lean hashes anything: it is a label: what it is worth is what the hold of that sum in a sandbox is worth. -/
noncomputable def Try.pinned : Pinned := { name := "ytmjnjhdacliieaa", sum := "0689b0e2c96ad6fdffed30e384997eb371374674a98668d0c17a719bb38bc1d5", checked := Try.checked }
namespace Rows
def none {H : Type} : Left H := { results := [], args := [] }

/-- 'laws.FnExactIsItem': WHATEVER THE INPUT: true; the input reads as it did. -/
def fnExactIsItemSpec : ChangeSpec := { name := "fnExactIsItem", fn := fun _ => fun
  | [d] => { results := [.lit (.bool true)], args := [d] }
  | _ => none }
def fnExactIsItemRow : OpenClaim := { program := "ytmjnjhdacliieaa", sum := "0689b0e2c96ad6fdffed30e384997eb371374674a98668d0c17a719bb38bc1d5", func := "loop.example/g01111/laws.FnExactIsItem", spec := "fnExactIsItem", apart := false }
def FnExactIsItemSaid : Prop := fnExactIsItemRow.holds Try.pinned (OpenSpec.ofChange fnExactIsItemSpec)

/-- ITS FALSE NEIGHBOUR: 'it returns false'. Refute it at one input. -/
def fnExactIsItemWrong : ChangeSpec := { name := "fnExactIsItem", fn := fun _ => fun
  | [d] => { results := [.lit (.bool false)], args := [d] }
  | _ => none }
def FnExactIsItemWrongFalsely : Prop := fnExactIsItemRow.holds Try.pinned (OpenSpec.ofChange fnExactIsItemWrong)

/-- 'laws.FnExactCycleCost': WHATEVER THE INPUT: true; the input reads as it did. -/
def fnExactCycleCostSpec : ChangeSpec := { name := "fnExactCycleCost", fn := fun _ => fun
  | [d1, d2] => { results := [.lit (.bool true)], args := [d1, d2] }
  | _ => none }
def fnExactCycleCostRow : OpenClaim := { program := "ytmjnjhdacliieaa", sum := "0689b0e2c96ad6fdffed30e384997eb371374674a98668d0c17a719bb38bc1d5", func := "loop.example/g01111/laws.FnExactCycleCost", spec := "fnExactCycleCost", apart := false }
def FnExactCycleCostSaid : Prop := fnExactCycleCostRow.holds Try.pinned (OpenSpec.ofChange fnExactCycleCostSpec)

/-- ITS FALSE NEIGHBOUR: 'it returns false'. Refute it at one input. -/
def fnExactCycleCostWrong : ChangeSpec := { name := "fnExactCycleCost", fn := fun _ => fun
  | [d1, d2] => { results := [.lit (.bool false)], args := [d1, d2] }
  | _ => none }
def FnExactCycleCostWrongFalsely : Prop := fnExactCycleCostRow.holds Try.pinned (OpenSpec.ofChange fnExactCycleCostWrong)

/-- 'laws.FnExactBestCycle': WHATEVER THE INPUT: true; the input reads as it did. -/
def fnExactBestCycleSpec : ChangeSpec := { name := "fnExactBestCycle", fn := fun _ => fun
  | [d] => { results := [.lit (.bool true)], args := [d] }
  | _ => none }
def fnExactBestCycleRow : OpenClaim := { program := "ytmjnjhdacliieaa", sum := "0689b0e2c96ad6fdffed30e384997eb371374674a98668d0c17a719bb38bc1d5", func := "loop.example/g01111/laws.FnExactBestCycle", spec := "fnExactBestCycle", unfollowed := true, recurses := true, apart := false }
def FnExactBestCycleSaid : Prop := fnExactBestCycleRow.holds Try.pinned (OpenSpec.ofChange fnExactBestCycleSpec)

/-- ITS FALSE NEIGHBOUR: 'it returns false'. Refute it at one input. -/
def fnExactBestCycleWrong : ChangeSpec := { name := "fnExactBestCycle", fn := fun _ => fun
  | [d] => { results := [.lit (.bool false)], args := [d] }
  | _ => none }
def FnExactBestCycleWrongFalsely : Prop := fnExactBestCycleRow.holds Try.pinned (OpenSpec.ofChange fnExactBestCycleWrong)

/-- 'laws.FnExactPowerCycle': WHATEVER THE INPUT: true; the input reads as it did. -/
def fnExactPowerCycleSpec : ChangeSpec := { name := "fnExactPowerCycle", fn := fun _ => fun
  | [d] => { results := [.lit (.bool true)], args := [d] }
  | _ => none }
def fnExactPowerCycleRow : OpenClaim := { program := "ytmjnjhdacliieaa", sum := "0689b0e2c96ad6fdffed30e384997eb371374674a98668d0c17a719bb38bc1d5", func := "loop.example/g01111/laws.FnExactPowerCycle", spec := "fnExactPowerCycle", unfollowed := true, recurses := true, apart := false }
def FnExactPowerCycleSaid : Prop := fnExactPowerCycleRow.holds Try.pinned (OpenSpec.ofChange fnExactPowerCycleSpec)

/-- ITS FALSE NEIGHBOUR: 'it returns false'. Refute it at one input. -/
def fnExactPowerCycleWrong : ChangeSpec := { name := "fnExactPowerCycle", fn := fun _ => fun
  | [d] => { results := [.lit (.bool false)], args := [d] }
  | _ => none }
def FnExactPowerCycleWrongFalsely : Prop := fnExactPowerCycleRow.holds Try.pinned (OpenSpec.ofChange fnExactPowerCycleWrong)

/-- 'laws.FnExactFamilyCost': WHATEVER THE INPUT: true; the input reads as it did. -/
def fnExactFamilyCostSpec : ChangeSpec := { name := "fnExactFamilyCost", fn := fun _ => fun
  | [d1, d2, d3, d4] => { results := [.lit (.bool true)], args := [d1, d2, d3, d4] }
  | _ => none }
def fnExactFamilyCostRow : OpenClaim := { program := "ytmjnjhdacliieaa", sum := "0689b0e2c96ad6fdffed30e384997eb371374674a98668d0c17a719bb38bc1d5", func := "loop.example/g01111/laws.FnExactFamilyCost", spec := "fnExactFamilyCost", unfollowed := true, recurses := true, apart := false }
def FnExactFamilyCostSaid : Prop := fnExactFamilyCostRow.holds Try.pinned (OpenSpec.ofChange fnExactFamilyCostSpec)

/-- ITS FALSE NEIGHBOUR: 'it returns false'. Refute it at one input. -/
def fnExactFamilyCostWrong : ChangeSpec := { name := "fnExactFamilyCost", fn := fun _ => fun
  | [d1, d2, d3, d4] => { results := [.lit (.bool false)], args := [d1, d2, d3, d4] }
  | _ => none }
def FnExactFamilyCostWrongFalsely : Prop := fnExactFamilyCostRow.holds Try.pinned (OpenSpec.ofChange fnExactFamilyCostWrong)

/-- 'laws.FnExactBestFactors': WHATEVER THE INPUT: true; the input reads as it did. -/
def fnExactBestFactorsSpec : ChangeSpec := { name := "fnExactBestFactors", fn := fun _ => fun
  | [d1, d2] => { results := [.lit (.bool true)], args := [d1, d2] }
  | _ => none }
def fnExactBestFactorsRow : OpenClaim := { program := "ytmjnjhdacliieaa", sum := "0689b0e2c96ad6fdffed30e384997eb371374674a98668d0c17a719bb38bc1d5", func := "loop.example/g01111/laws.FnExactBestFactors", spec := "fnExactBestFactors", unfollowed := true, recurses := true, apart := false }
def FnExactBestFactorsSaid : Prop := fnExactBestFactorsRow.holds Try.pinned (OpenSpec.ofChange fnExactBestFactorsSpec)

/-- ITS FALSE NEIGHBOUR: 'it returns false'. Refute it at one input. -/
def fnExactBestFactorsWrong : ChangeSpec := { name := "fnExactBestFactors", fn := fun _ => fun
  | [d1, d2] => { results := [.lit (.bool false)], args := [d1, d2] }
  | _ => none }
def FnExactBestFactorsWrongFalsely : Prop := fnExactBestFactorsRow.holds Try.pinned (OpenSpec.ofChange fnExactBestFactorsWrong)

/-- 'laws.FnExactBestBase': WHATEVER THE INPUT: true; the input reads as it did. -/
def fnExactBestBaseSpec : ChangeSpec := { name := "fnExactBestBase", fn := fun _ => fun
  | [d1, d2] => { results := [.lit (.bool true)], args := [d1, d2] }
  | _ => none }
def fnExactBestBaseRow : OpenClaim := { program := "ytmjnjhdacliieaa", sum := "0689b0e2c96ad6fdffed30e384997eb371374674a98668d0c17a719bb38bc1d5", func := "loop.example/g01111/laws.FnExactBestBase", spec := "fnExactBestBase", unfollowed := true, recurses := true, apart := false }
def FnExactBestBaseSaid : Prop := fnExactBestBaseRow.holds Try.pinned (OpenSpec.ofChange fnExactBestBaseSpec)

/-- ITS FALSE NEIGHBOUR: 'it returns false'. Refute it at one input. -/
def fnExactBestBaseWrong : ChangeSpec := { name := "fnExactBestBase", fn := fun _ => fun
  | [d1, d2] => { results := [.lit (.bool false)], args := [d1, d2] }
  | _ => none }
def FnExactBestBaseWrongFalsely : Prop := fnExactBestBaseRow.holds Try.pinned (OpenSpec.ofChange fnExactBestBaseWrong)

/-- 'laws.FnExactCycleFits': WHATEVER THE INPUT: true; the input reads as it did. -/
def fnExactCycleFitsSpec : ChangeSpec := { name := "fnExactCycleFits", fn := fun _ => fun
  | [d1, d2] => { results := [.lit (.bool true)], args := [d1, d2] }
  | _ => none }
def fnExactCycleFitsRow : OpenClaim := { program := "ytmjnjhdacliieaa", sum := "0689b0e2c96ad6fdffed30e384997eb371374674a98668d0c17a719bb38bc1d5", func := "loop.example/g01111/laws.FnExactCycleFits", spec := "fnExactCycleFits", unfollowed := true, recurses := true, apart := false }
def FnExactCycleFitsSaid : Prop := fnExactCycleFitsRow.holds Try.pinned (OpenSpec.ofChange fnExactCycleFitsSpec)

/-- ITS FALSE NEIGHBOUR: 'it returns false'. Refute it at one input. -/
def fnExactCycleFitsWrong : ChangeSpec := { name := "fnExactCycleFits", fn := fun _ => fun
  | [d1, d2] => { results := [.lit (.bool false)], args := [d1, d2] }
  | _ => none }
def FnExactCycleFitsWrongFalsely : Prop := fnExactCycleFitsRow.holds Try.pinned (OpenSpec.ofChange fnExactCycleFitsWrong)

/-- 'laws.FnExactLeastCommon': WHATEVER THE INPUT: true; the input reads as it did. -/
def fnExactLeastCommonSpec : ChangeSpec := { name := "fnExactLeastCommon", fn := fun _ => fun
  | [d] => { results := [.lit (.bool true)], args := [d] }
  | _ => none }
def fnExactLeastCommonRow : OpenClaim := { program := "ytmjnjhdacliieaa", sum := "0689b0e2c96ad6fdffed30e384997eb371374674a98668d0c17a719bb38bc1d5", func := "loop.example/g01111/laws.FnExactLeastCommon", spec := "fnExactLeastCommon", unfollowed := true, recurses := true, apart := false }
def FnExactLeastCommonSaid : Prop := fnExactLeastCommonRow.holds Try.pinned (OpenSpec.ofChange fnExactLeastCommonSpec)

/-- ITS FALSE NEIGHBOUR: 'it returns false'. Refute it at one input. -/
def fnExactLeastCommonWrong : ChangeSpec := { name := "fnExactLeastCommon", fn := fun _ => fun
  | [d] => { results := [.lit (.bool false)], args := [d] }
  | _ => none }
def FnExactLeastCommonWrongFalsely : Prop := fnExactLeastCommonRow.holds Try.pinned (OpenSpec.ofChange fnExactLeastCommonWrong)

/-- 'laws.FnExactCommonCost': WHATEVER THE INPUT: true; the input reads as it did. -/
def fnExactCommonCostSpec : ChangeSpec := { name := "fnExactCommonCost", fn := fun _ => fun
  | [d1, d2] => { results := [.lit (.bool true)], args := [d1, d2] }
  | _ => none }
def fnExactCommonCostRow : OpenClaim := { program := "ytmjnjhdacliieaa", sum := "0689b0e2c96ad6fdffed30e384997eb371374674a98668d0c17a719bb38bc1d5", func := "loop.example/g01111/laws.FnExactCommonCost", spec := "fnExactCommonCost", unfollowed := true, recurses := true, apart := false }
def FnExactCommonCostSaid : Prop := fnExactCommonCostRow.holds Try.pinned (OpenSpec.ofChange fnExactCommonCostSpec)

/-- ITS FALSE NEIGHBOUR: 'it returns false'. Refute it at one input. -/
def fnExactCommonCostWrong : ChangeSpec := { name := "fnExactCommonCost", fn := fun _ => fun
  | [d1, d2] => { results := [.lit (.bool false)], args := [d1, d2] }
  | _ => none }
def FnExactCommonCostWrongFalsely : Prop := fnExactCommonCostRow.holds Try.pinned (OpenSpec.ofChange fnExactCommonCostWrong)

/-- 'laws.FnExactBestCommon': WHATEVER THE INPUT: true; the input reads as it did. -/
def fnExactBestCommonSpec : ChangeSpec := { name := "fnExactBestCommon", fn := fun _ => fun
  | [d] => { results := [.lit (.bool true)], args := [d] }
  | _ => none }
def fnExactBestCommonRow : OpenClaim := { program := "ytmjnjhdacliieaa", sum := "0689b0e2c96ad6fdffed30e384997eb371374674a98668d0c17a719bb38bc1d5", func := "loop.example/g01111/laws.FnExactBestCommon", spec := "fnExactBestCommon", unfollowed := true, recurses := true, apart := false }
def FnExactBestCommonSaid : Prop := fnExactBestCommonRow.holds Try.pinned (OpenSpec.ofChange fnExactBestCommonSpec)

/-- ITS FALSE NEIGHBOUR: 'it returns false'. Refute it at one input. -/
def fnExactBestCommonWrong : ChangeSpec := { name := "fnExactBestCommon", fn := fun _ => fun
  | [d] => { results := [.lit (.bool false)], args := [d] }
  | _ => none }
def FnExactBestCommonWrongFalsely : Prop := fnExactBestCommonRow.holds Try.pinned (OpenSpec.ofChange fnExactBestCommonWrong)

/-- 'laws.FnExactIsFree': WHATEVER THE INPUT: true; the input reads as it did. -/
def fnExactIsFreeSpec : ChangeSpec := { name := "fnExactIsFree", fn := fun _ => fun
  | [d1, d2] => { results := [.lit (.bool true)], args := [d1, d2] }
  | _ => none }
def fnExactIsFreeRow : OpenClaim := { program := "ytmjnjhdacliieaa", sum := "0689b0e2c96ad6fdffed30e384997eb371374674a98668d0c17a719bb38bc1d5", func := "loop.example/g01111/laws.FnExactIsFree", spec := "fnExactIsFree", unfollowed := true, recurses := true, apart := false }
def FnExactIsFreeSaid : Prop := fnExactIsFreeRow.holds Try.pinned (OpenSpec.ofChange fnExactIsFreeSpec)

/-- ITS FALSE NEIGHBOUR: 'it returns false'. Refute it at one input. -/
def fnExactIsFreeWrong : ChangeSpec := { name := "fnExactIsFree", fn := fun _ => fun
  | [d1, d2] => { results := [.lit (.bool false)], args := [d1, d2] }
  | _ => none }
def FnExactIsFreeWrongFalsely : Prop := fnExactIsFreeRow.holds Try.pinned (OpenSpec.ofChange fnExactIsFreeWrong)

/-- 'laws.FnExactShareOf': WHATEVER THE INPUT: true; the input reads as it did. -/
def fnExactShareOfSpec : ChangeSpec := { name := "fnExactShareOf", fn := fun _ => fun
  | [d] => { results := [.lit (.bool true)], args := [d] }
  | _ => none }
def fnExactShareOfRow : OpenClaim := { program := "ytmjnjhdacliieaa", sum := "0689b0e2c96ad6fdffed30e384997eb371374674a98668d0c17a719bb38bc1d5", func := "loop.example/g01111/laws.FnExactShareOf", spec := "fnExactShareOf", unfollowed := true, recurses := true, apart := false }
def FnExactShareOfSaid : Prop := fnExactShareOfRow.holds Try.pinned (OpenSpec.ofChange fnExactShareOfSpec)

/-- ITS FALSE NEIGHBOUR: 'it returns false'. Refute it at one input. -/
def fnExactShareOfWrong : ChangeSpec := { name := "fnExactShareOf", fn := fun _ => fun
  | [d] => { results := [.lit (.bool false)], args := [d] }
  | _ => none }
def FnExactShareOfWrongFalsely : Prop := fnExactShareOfRow.holds Try.pinned (OpenSpec.ofChange fnExactShareOfWrong)

/-- 'laws.FnExactFindOffsets': WHATEVER THE INPUT: true; the input reads as it did. -/
def fnExactFindOffsetsSpec : ChangeSpec := { name := "fnExactFindOffsets", fn := fun _ => fun
  | [d] => { results := [.lit (.bool true)], args := [d] }
  | _ => none }
def fnExactFindOffsetsRow : OpenClaim := { program := "ytmjnjhdacliieaa", sum := "0689b0e2c96ad6fdffed30e384997eb371374674a98668d0c17a719bb38bc1d5", func := "loop.example/g01111/laws.FnExactFindOffsets", spec := "fnExactFindOffsets", unfollowed := true, recurses := true, apart := false }
def FnExactFindOffsetsSaid : Prop := fnExactFindOffsetsRow.holds Try.pinned (OpenSpec.ofChange fnExactFindOffsetsSpec)

/-- ITS FALSE NEIGHBOUR: 'it returns false'. Refute it at one input. -/
def fnExactFindOffsetsWrong : ChangeSpec := { name := "fnExactFindOffsets", fn := fun _ => fun
  | [d] => { results := [.lit (.bool false)], args := [d] }
  | _ => none }
def FnExactFindOffsetsWrongFalsely : Prop := fnExactFindOffsetsRow.holds Try.pinned (OpenSpec.ofChange fnExactFindOffsetsWrong)

/-- 'laws.FnExactVisitsOn': WHATEVER THE INPUT: true; the input reads as it did. -/
def fnExactVisitsOnSpec : ChangeSpec := { name := "fnExactVisitsOn", fn := fun _ => fun
  | [d1, d2, d3] => { results := [.lit (.bool true)], args := [d1, d2, d3] }
  | _ => none }
def fnExactVisitsOnRow : OpenClaim := { program := "ytmjnjhdacliieaa", sum := "0689b0e2c96ad6fdffed30e384997eb371374674a98668d0c17a719bb38bc1d5", func := "loop.example/g01111/laws.FnExactVisitsOn", spec := "fnExactVisitsOn", unfollowed := true, recurses := true, apart := false }
def FnExactVisitsOnSaid : Prop := fnExactVisitsOnRow.holds Try.pinned (OpenSpec.ofChange fnExactVisitsOnSpec)

/-- ITS FALSE NEIGHBOUR: 'it returns false'. Refute it at one input. -/
def fnExactVisitsOnWrong : ChangeSpec := { name := "fnExactVisitsOn", fn := fun _ => fun
  | [d1, d2, d3] => { results := [.lit (.bool false)], args := [d1, d2, d3] }
  | _ => none }
def FnExactVisitsOnWrongFalsely : Prop := fnExactVisitsOnRow.holds Try.pinned (OpenSpec.ofChange fnExactVisitsOnWrong)

/-- 'laws.FnExactDaysBusy': WHATEVER THE INPUT: true; the input reads as it did. -/
def fnExactDaysBusySpec : ChangeSpec := { name := "fnExactDaysBusy", fn := fun _ => fun
  | [d1, d2, d3] => { results := [.lit (.bool true)], args := [d1, d2, d3] }
  | _ => none }
def fnExactDaysBusyRow : OpenClaim := { program := "ytmjnjhdacliieaa", sum := "0689b0e2c96ad6fdffed30e384997eb371374674a98668d0c17a719bb38bc1d5", func := "loop.example/g01111/laws.FnExactDaysBusy", spec := "fnExactDaysBusy", unfollowed := true, recurses := true, apart := false }
def FnExactDaysBusySaid : Prop := fnExactDaysBusyRow.holds Try.pinned (OpenSpec.ofChange fnExactDaysBusySpec)

/-- ITS FALSE NEIGHBOUR: 'it returns false'. Refute it at one input. -/
def fnExactDaysBusyWrong : ChangeSpec := { name := "fnExactDaysBusy", fn := fun _ => fun
  | [d1, d2, d3] => { results := [.lit (.bool false)], args := [d1, d2, d3] }
  | _ => none }
def FnExactDaysBusyWrongFalsely : Prop := fnExactDaysBusyRow.holds Try.pinned (OpenSpec.ofChange fnExactDaysBusyWrong)

/- THE SECOND FORM. 'bulk': how many values and letters a reading holds, each counted each time it is reached (what is shared counts as often as it is met; a slice's spare places count too). A statement '..UptoSaid' is the law's where the arguments, and the package variables that the reading takes, are together of bulk at most 1048576: NARROWER than '..Said'. Prove '..Said' where nothing that the law and all that it calls make is longer than what came in: it says more and counts as full. Else prove '..UptoSaid'. A law counts once. -/
mutual
def uptoBulk {H : Type} : DataW H → Nat
  | .lit (.string bytes) => bytes.length + 1
  | .lit _ => 1
  | .nil => 1
  | .ptr d => uptoBulk d + 1
  | .slice elems spare => uptoBulkAll elems + uptoBulkAll spare + 1
  | .agg parts => uptoBulkAll parts + 1
  | .iface _ d => uptoBulk d + 1
  | .map entries => uptoBulkEntries entries + 1
  | .held _ => 1
def uptoBulkAll {H : Type} : List (DataW H) → Nat
  | [] => 0
  | d :: r => uptoBulk d + uptoBulkAll r
def uptoBulkEntries {H : Type} : List (Lit × DataW H) → Nat
  | [] => 0
  | x :: r => uptoBulkEntry x + uptoBulkEntries r
def uptoBulkEntry {H : Type} : Lit × DataW H → Nat
  | (.string bytes, d) => bytes.length + uptoBulk d + 1
  | (_, d) => uptoBulk d + 1
 end
def uptoSmall : (H : Type) → List (DataW H) → Bool := fun _ ds => decide (uptoBulkAll ds ≤ 1048576)
def OpenSpec.upto (s : _root_.Go.ChangeSpec) : _root_.Go.OpenSpec := { _root_.Go.OpenSpec.ofChange s with cond := some uptoSmall }

/-- 'laws.FnExactIsItem', WHERE WHAT IT READS IS OF BULK AT MOST 1048576: true; the input reads as it did. -/
def fnExactIsItemUptoRow : OpenClaim := { program := "ytmjnjhdacliieaa", sum := "0689b0e2c96ad6fdffed30e384997eb371374674a98668d0c17a719bb38bc1d5", func := "loop.example/g01111/laws.FnExactIsItem", spec := "fnExactIsItem", apart := false, narrowed := true }
def FnExactIsItemUptoSaid : Prop := fnExactIsItemUptoRow.holds Try.pinned (OpenSpec.upto fnExactIsItemSpec)

/-- 'laws.FnExactCycleCost', WHERE WHAT IT READS IS OF BULK AT MOST 1048576: true; the input reads as it did. -/
def fnExactCycleCostUptoRow : OpenClaim := { program := "ytmjnjhdacliieaa", sum := "0689b0e2c96ad6fdffed30e384997eb371374674a98668d0c17a719bb38bc1d5", func := "loop.example/g01111/laws.FnExactCycleCost", spec := "fnExactCycleCost", apart := false, narrowed := true }
def FnExactCycleCostUptoSaid : Prop := fnExactCycleCostUptoRow.holds Try.pinned (OpenSpec.upto fnExactCycleCostSpec)

/-- 'laws.FnExactBestCycle', WHERE WHAT IT READS IS OF BULK AT MOST 1048576: true; the input reads as it did. -/
def fnExactBestCycleUptoRow : OpenClaim := { program := "ytmjnjhdacliieaa", sum := "0689b0e2c96ad6fdffed30e384997eb371374674a98668d0c17a719bb38bc1d5", func := "loop.example/g01111/laws.FnExactBestCycle", spec := "fnExactBestCycle", unfollowed := true, recurses := true, apart := false, narrowed := true }
def FnExactBestCycleUptoSaid : Prop := fnExactBestCycleUptoRow.holds Try.pinned (OpenSpec.upto fnExactBestCycleSpec)

/-- 'laws.FnExactPowerCycle', WHERE WHAT IT READS IS OF BULK AT MOST 1048576: true; the input reads as it did. -/
def fnExactPowerCycleUptoRow : OpenClaim := { program := "ytmjnjhdacliieaa", sum := "0689b0e2c96ad6fdffed30e384997eb371374674a98668d0c17a719bb38bc1d5", func := "loop.example/g01111/laws.FnExactPowerCycle", spec := "fnExactPowerCycle", unfollowed := true, recurses := true, apart := false, narrowed := true }
def FnExactPowerCycleUptoSaid : Prop := fnExactPowerCycleUptoRow.holds Try.pinned (OpenSpec.upto fnExactPowerCycleSpec)

/-- 'laws.FnExactFamilyCost', WHERE WHAT IT READS IS OF BULK AT MOST 1048576: true; the input reads as it did. -/
def fnExactFamilyCostUptoRow : OpenClaim := { program := "ytmjnjhdacliieaa", sum := "0689b0e2c96ad6fdffed30e384997eb371374674a98668d0c17a719bb38bc1d5", func := "loop.example/g01111/laws.FnExactFamilyCost", spec := "fnExactFamilyCost", unfollowed := true, recurses := true, apart := false, narrowed := true }
def FnExactFamilyCostUptoSaid : Prop := fnExactFamilyCostUptoRow.holds Try.pinned (OpenSpec.upto fnExactFamilyCostSpec)

/-- 'laws.FnExactBestFactors', WHERE WHAT IT READS IS OF BULK AT MOST 1048576: true; the input reads as it did. -/
def fnExactBestFactorsUptoRow : OpenClaim := { program := "ytmjnjhdacliieaa", sum := "0689b0e2c96ad6fdffed30e384997eb371374674a98668d0c17a719bb38bc1d5", func := "loop.example/g01111/laws.FnExactBestFactors", spec := "fnExactBestFactors", unfollowed := true, recurses := true, apart := false, narrowed := true }
def FnExactBestFactorsUptoSaid : Prop := fnExactBestFactorsUptoRow.holds Try.pinned (OpenSpec.upto fnExactBestFactorsSpec)

/-- 'laws.FnExactBestBase', WHERE WHAT IT READS IS OF BULK AT MOST 1048576: true; the input reads as it did. -/
def fnExactBestBaseUptoRow : OpenClaim := { program := "ytmjnjhdacliieaa", sum := "0689b0e2c96ad6fdffed30e384997eb371374674a98668d0c17a719bb38bc1d5", func := "loop.example/g01111/laws.FnExactBestBase", spec := "fnExactBestBase", unfollowed := true, recurses := true, apart := false, narrowed := true }
def FnExactBestBaseUptoSaid : Prop := fnExactBestBaseUptoRow.holds Try.pinned (OpenSpec.upto fnExactBestBaseSpec)

/-- 'laws.FnExactCycleFits', WHERE WHAT IT READS IS OF BULK AT MOST 1048576: true; the input reads as it did. -/
def fnExactCycleFitsUptoRow : OpenClaim := { program := "ytmjnjhdacliieaa", sum := "0689b0e2c96ad6fdffed30e384997eb371374674a98668d0c17a719bb38bc1d5", func := "loop.example/g01111/laws.FnExactCycleFits", spec := "fnExactCycleFits", unfollowed := true, recurses := true, apart := false, narrowed := true }
def FnExactCycleFitsUptoSaid : Prop := fnExactCycleFitsUptoRow.holds Try.pinned (OpenSpec.upto fnExactCycleFitsSpec)

/-- 'laws.FnExactLeastCommon', WHERE WHAT IT READS IS OF BULK AT MOST 1048576: true; the input reads as it did. -/
def fnExactLeastCommonUptoRow : OpenClaim := { program := "ytmjnjhdacliieaa", sum := "0689b0e2c96ad6fdffed30e384997eb371374674a98668d0c17a719bb38bc1d5", func := "loop.example/g01111/laws.FnExactLeastCommon", spec := "fnExactLeastCommon", unfollowed := true, recurses := true, apart := false, narrowed := true }
def FnExactLeastCommonUptoSaid : Prop := fnExactLeastCommonUptoRow.holds Try.pinned (OpenSpec.upto fnExactLeastCommonSpec)

/-- 'laws.FnExactCommonCost', WHERE WHAT IT READS IS OF BULK AT MOST 1048576: true; the input reads as it did. -/
def fnExactCommonCostUptoRow : OpenClaim := { program := "ytmjnjhdacliieaa", sum := "0689b0e2c96ad6fdffed30e384997eb371374674a98668d0c17a719bb38bc1d5", func := "loop.example/g01111/laws.FnExactCommonCost", spec := "fnExactCommonCost", unfollowed := true, recurses := true, apart := false, narrowed := true }
def FnExactCommonCostUptoSaid : Prop := fnExactCommonCostUptoRow.holds Try.pinned (OpenSpec.upto fnExactCommonCostSpec)

/-- 'laws.FnExactBestCommon', WHERE WHAT IT READS IS OF BULK AT MOST 1048576: true; the input reads as it did. -/
def fnExactBestCommonUptoRow : OpenClaim := { program := "ytmjnjhdacliieaa", sum := "0689b0e2c96ad6fdffed30e384997eb371374674a98668d0c17a719bb38bc1d5", func := "loop.example/g01111/laws.FnExactBestCommon", spec := "fnExactBestCommon", unfollowed := true, recurses := true, apart := false, narrowed := true }
def FnExactBestCommonUptoSaid : Prop := fnExactBestCommonUptoRow.holds Try.pinned (OpenSpec.upto fnExactBestCommonSpec)

/-- 'laws.FnExactIsFree', WHERE WHAT IT READS IS OF BULK AT MOST 1048576: true; the input reads as it did. -/
def fnExactIsFreeUptoRow : OpenClaim := { program := "ytmjnjhdacliieaa", sum := "0689b0e2c96ad6fdffed30e384997eb371374674a98668d0c17a719bb38bc1d5", func := "loop.example/g01111/laws.FnExactIsFree", spec := "fnExactIsFree", unfollowed := true, recurses := true, apart := false, narrowed := true }
def FnExactIsFreeUptoSaid : Prop := fnExactIsFreeUptoRow.holds Try.pinned (OpenSpec.upto fnExactIsFreeSpec)

/-- 'laws.FnExactShareOf', WHERE WHAT IT READS IS OF BULK AT MOST 1048576: true; the input reads as it did. -/
def fnExactShareOfUptoRow : OpenClaim := { program := "ytmjnjhdacliieaa", sum := "0689b0e2c96ad6fdffed30e384997eb371374674a98668d0c17a719bb38bc1d5", func := "loop.example/g01111/laws.FnExactShareOf", spec := "fnExactShareOf", unfollowed := true, recurses := true, apart := false, narrowed := true }
def FnExactShareOfUptoSaid : Prop := fnExactShareOfUptoRow.holds Try.pinned (OpenSpec.upto fnExactShareOfSpec)

/-- 'laws.FnExactFindOffsets', WHERE WHAT IT READS IS OF BULK AT MOST 1048576: true; the input reads as it did. -/
def fnExactFindOffsetsUptoRow : OpenClaim := { program := "ytmjnjhdacliieaa", sum := "0689b0e2c96ad6fdffed30e384997eb371374674a98668d0c17a719bb38bc1d5", func := "loop.example/g01111/laws.FnExactFindOffsets", spec := "fnExactFindOffsets", unfollowed := true, recurses := true, apart := false, narrowed := true }
def FnExactFindOffsetsUptoSaid : Prop := fnExactFindOffsetsUptoRow.holds Try.pinned (OpenSpec.upto fnExactFindOffsetsSpec)

/-- 'laws.FnExactVisitsOn', WHERE WHAT IT READS IS OF BULK AT MOST 1048576: true; the input reads as it did. -/
def fnExactVisitsOnUptoRow : OpenClaim := { program := "ytmjnjhdacliieaa", sum := "0689b0e2c96ad6fdffed30e384997eb371374674a98668d0c17a719bb38bc1d5", func := "loop.example/g01111/laws.FnExactVisitsOn", spec := "fnExactVisitsOn", unfollowed := true, recurses := true, apart := false, narrowed := true }
def FnExactVisitsOnUptoSaid : Prop := fnExactVisitsOnUptoRow.holds Try.pinned (OpenSpec.upto fnExactVisitsOnSpec)

/-- 'laws.FnExactDaysBusy', WHERE WHAT IT READS IS OF BULK AT MOST 1048576: true; the input reads as it did. -/
def fnExactDaysBusyUptoRow : OpenClaim := { program := "ytmjnjhdacliieaa", sum := "0689b0e2c96ad6fdffed30e384997eb371374674a98668d0c17a719bb38bc1d5", func := "loop.example/g01111/laws.FnExactDaysBusy", spec := "fnExactDaysBusy", unfollowed := true, recurses := true, apart := false, narrowed := true }
def FnExactDaysBusyUptoSaid : Prop := fnExactDaysBusyUptoRow.holds Try.pinned (OpenSpec.upto fnExactDaysBusySpec)

end Rows
end Go.Proofs.Ytmjnjhdacliieaa
