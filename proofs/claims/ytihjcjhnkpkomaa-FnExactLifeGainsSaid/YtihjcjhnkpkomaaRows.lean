/-
  No cell of these rows narrows 'for every input' (looked for: loops, veiled, ifaces, maps, wideKeys, modest, calm, conditions, laid).
  DERIVED. THE GIVEN ROWS OF THIS SEAT. 13 by the template 'for every input the law returns true; each argument reads behind the call as it read before'; 0 by the template 'total and deterministic' (their statements: YtihjcjhnkpkomaaTotals.lean).
  GIVEN WITH THE SEED: the statements are not yours to turn. If you find one false, say at which input.
  Laid BY PROGRAM, IN A SANDBOX (cutbox-rows.mjs): the forced cells as the released guide's own fill.sh prints them over the translation 6a5bd3f53a1c0bc1… (all of the seat's roots in one cut). By AI agents, Wed Nov 11 2026. No macro, syntax, notation, axiom, sorry.
-/
import Derived.Test.YtihjcjhnkpkomaaChecked
import GoSem.Claim
import GoSem.ClaimJoined
import GoSem.ClaimMapViews
import Derived.JoinedTies
import Derived.KernelRfl
namespace Go.Proofs.Ytihjcjhnkpkomaa
/- THE CELL 'sum', in the pinned program and in every row, IS THE sha256 OF THE DUMP (.gsa) THAT YtihjcjhnkpkomaaProg.lean LOADS. Nothing in Lean hashes anything: it is a label: what it is worth is what the hold of that sum in a sandbox is worth. -/
noncomputable def Try.pinned : Pinned := { name := "ytihjcjhnkpkomaa", sum := "6a5bd3f53a1c0bc1ddd89386d9146cbd7773d525b7f861c7ba770fc0a4585b2f", checked := Try.checked }
namespace Rows
def none {H : Type} : Left H := { results := [], args := [] }

/-- 'laws.FnExactIsShelf': WHATEVER THE INPUT: true; the input reads as it did. -/
def fnExactIsShelfSpec : ChangeSpec := { name := "fnExactIsShelf", fn := fun _ => fun
  | [d] => { results := [.lit (.bool true)], args := [d] }
  | _ => none }
def fnExactIsShelfRow : OpenClaim := { program := "ytihjcjhnkpkomaa", sum := "6a5bd3f53a1c0bc1ddd89386d9146cbd7773d525b7f861c7ba770fc0a4585b2f", func := "loop.example/g01111/laws.FnExactIsShelf", spec := "fnExactIsShelf", unfollowed := true, recurses := true, apart := false }
def FnExactIsShelfSaid : Prop := fnExactIsShelfRow.holds Try.pinned (OpenSpec.ofChange fnExactIsShelfSpec)

/-- ITS FALSE NEIGHBOUR: 'it returns false'. Refute it at one input. -/
def fnExactIsShelfWrong : ChangeSpec := { name := "fnExactIsShelf", fn := fun _ => fun
  | [d] => { results := [.lit (.bool false)], args := [d] }
  | _ => none }
def FnExactIsShelfWrongFalsely : Prop := fnExactIsShelfRow.holds Try.pinned (OpenSpec.ofChange fnExactIsShelfWrong)

/-- 'laws.FnExactIsIssue': WHATEVER THE INPUT: true; the input reads as it did. -/
def fnExactIsIssueSpec : ChangeSpec := { name := "fnExactIsIssue", fn := fun _ => fun
  | [d1, d2] => { results := [.lit (.bool true)], args := [d1, d2] }
  | _ => none }
def fnExactIsIssueRow : OpenClaim := { program := "ytihjcjhnkpkomaa", sum := "6a5bd3f53a1c0bc1ddd89386d9146cbd7773d525b7f861c7ba770fc0a4585b2f", func := "loop.example/g01111/laws.FnExactIsIssue", spec := "fnExactIsIssue", unfollowed := true, recurses := true, apart := false }
def FnExactIsIssueSaid : Prop := fnExactIsIssueRow.holds Try.pinned (OpenSpec.ofChange fnExactIsIssueSpec)

/-- ITS FALSE NEIGHBOUR: 'it returns false'. Refute it at one input. -/
def fnExactIsIssueWrong : ChangeSpec := { name := "fnExactIsIssue", fn := fun _ => fun
  | [d1, d2] => { results := [.lit (.bool false)], args := [d1, d2] }
  | _ => none }
def FnExactIsIssueWrongFalsely : Prop := fnExactIsIssueRow.holds Try.pinned (OpenSpec.ofChange fnExactIsIssueWrong)

/-- 'laws.FnExactOldestFirst': WHATEVER THE INPUT: true; the input reads as it did. -/
def fnExactOldestFirstSpec : ChangeSpec := { name := "fnExactOldestFirst", fn := fun _ => fun
  | [d] => { results := [.lit (.bool true)], args := [d] }
  | _ => none }
def fnExactOldestFirstRow : OpenClaim := { program := "ytihjcjhnkpkomaa", sum := "6a5bd3f53a1c0bc1ddd89386d9146cbd7773d525b7f861c7ba770fc0a4585b2f", func := "loop.example/g01111/laws.FnExactOldestFirst", spec := "fnExactOldestFirst", unfollowed := true, recurses := true, apart := false }
def FnExactOldestFirstSaid : Prop := fnExactOldestFirstRow.holds Try.pinned (OpenSpec.ofChange fnExactOldestFirstSpec)

/-- ITS FALSE NEIGHBOUR: 'it returns false'. Refute it at one input. -/
def fnExactOldestFirstWrong : ChangeSpec := { name := "fnExactOldestFirst", fn := fun _ => fun
  | [d] => { results := [.lit (.bool false)], args := [d] }
  | _ => none }
def FnExactOldestFirstWrongFalsely : Prop := fnExactOldestFirstRow.holds Try.pinned (OpenSpec.ofChange fnExactOldestFirstWrong)

/-- 'laws.FnExactNewestFirst': WHATEVER THE INPUT: true; the input reads as it did. -/
def fnExactNewestFirstSpec : ChangeSpec := { name := "fnExactNewestFirst", fn := fun _ => fun
  | [d] => { results := [.lit (.bool true)], args := [d] }
  | _ => none }
def fnExactNewestFirstRow : OpenClaim := { program := "ytihjcjhnkpkomaa", sum := "6a5bd3f53a1c0bc1ddd89386d9146cbd7773d525b7f861c7ba770fc0a4585b2f", func := "loop.example/g01111/laws.FnExactNewestFirst", spec := "fnExactNewestFirst", unfollowed := true, recurses := true, apart := false }
def FnExactNewestFirstSaid : Prop := fnExactNewestFirstRow.holds Try.pinned (OpenSpec.ofChange fnExactNewestFirstSpec)

/-- ITS FALSE NEIGHBOUR: 'it returns false'. Refute it at one input. -/
def fnExactNewestFirstWrong : ChangeSpec := { name := "fnExactNewestFirst", fn := fun _ => fun
  | [d] => { results := [.lit (.bool false)], args := [d] }
  | _ => none }
def FnExactNewestFirstWrongFalsely : Prop := fnExactNewestFirstRow.holds Try.pinned (OpenSpec.ofChange fnExactNewestFirstWrong)

/-- 'laws.FnExactLostNeeds': WHATEVER THE INPUT: true; the input reads as it did. -/
def fnExactLostNeedsSpec : ChangeSpec := { name := "fnExactLostNeeds", fn := fun _ => fun
  | [d1, d2] => { results := [.lit (.bool true)], args := [d1, d2] }
  | _ => none }
def fnExactLostNeedsRow : OpenClaim := { program := "ytihjcjhnkpkomaa", sum := "6a5bd3f53a1c0bc1ddd89386d9146cbd7773d525b7f861c7ba770fc0a4585b2f", func := "loop.example/g01111/laws.FnExactLostNeeds", spec := "fnExactLostNeeds", unfollowed := true, recurses := true, apart := false }
def FnExactLostNeedsSaid : Prop := fnExactLostNeedsRow.holds Try.pinned (OpenSpec.ofChange fnExactLostNeedsSpec)

/-- ITS FALSE NEIGHBOUR: 'it returns false'. Refute it at one input. -/
def fnExactLostNeedsWrong : ChangeSpec := { name := "fnExactLostNeeds", fn := fun _ => fun
  | [d1, d2] => { results := [.lit (.bool false)], args := [d1, d2] }
  | _ => none }
def FnExactLostNeedsWrongFalsely : Prop := fnExactLostNeedsRow.holds Try.pinned (OpenSpec.ofChange fnExactLostNeedsWrong)

/-- 'laws.FnExactWastedUnits': WHATEVER THE INPUT: true; the input reads as it did. -/
def fnExactWastedUnitsSpec : ChangeSpec := { name := "fnExactWastedUnits", fn := fun _ => fun
  | [d1, d2] => { results := [.lit (.bool true)], args := [d1, d2] }
  | _ => none }
def fnExactWastedUnitsRow : OpenClaim := { program := "ytihjcjhnkpkomaa", sum := "6a5bd3f53a1c0bc1ddd89386d9146cbd7773d525b7f861c7ba770fc0a4585b2f", func := "loop.example/g01111/laws.FnExactWastedUnits", spec := "fnExactWastedUnits", unfollowed := true, recurses := true, apart := false }
def FnExactWastedUnitsSaid : Prop := fnExactWastedUnitsRow.holds Try.pinned (OpenSpec.ofChange fnExactWastedUnitsSpec)

/-- ITS FALSE NEIGHBOUR: 'it returns false'. Refute it at one input. -/
def fnExactWastedUnitsWrong : ChangeSpec := { name := "fnExactWastedUnits", fn := fun _ => fun
  | [d1, d2] => { results := [.lit (.bool false)], args := [d1, d2] }
  | _ => none }
def FnExactWastedUnitsWrongFalsely : Prop := fnExactWastedUnitsRow.holds Try.pinned (OpenSpec.ofChange fnExactWastedUnitsWrong)

/-- 'laws.FnExactShelfCost': WHATEVER THE INPUT: true; the input reads as it did. -/
def fnExactShelfCostSpec : ChangeSpec := { name := "fnExactShelfCost", fn := fun _ => fun
  | [d1, d2] => { results := [.lit (.bool true)], args := [d1, d2] }
  | _ => none }
def fnExactShelfCostRow : OpenClaim := { program := "ytihjcjhnkpkomaa", sum := "6a5bd3f53a1c0bc1ddd89386d9146cbd7773d525b7f861c7ba770fc0a4585b2f", func := "loop.example/g01111/laws.FnExactShelfCost", spec := "fnExactShelfCost", unfollowed := true, recurses := true, apart := false }
def FnExactShelfCostSaid : Prop := fnExactShelfCostRow.holds Try.pinned (OpenSpec.ofChange fnExactShelfCostSpec)

/-- ITS FALSE NEIGHBOUR: 'it returns false'. Refute it at one input. -/
def fnExactShelfCostWrong : ChangeSpec := { name := "fnExactShelfCost", fn := fun _ => fun
  | [d1, d2] => { results := [.lit (.bool false)], args := [d1, d2] }
  | _ => none }
def FnExactShelfCostWrongFalsely : Prop := fnExactShelfCostRow.holds Try.pinned (OpenSpec.ofChange fnExactShelfCostWrong)

/-- 'laws.FnExactStockByAge': WHATEVER THE INPUT: true; the input reads as it did. -/
def fnExactStockByAgeSpec : ChangeSpec := { name := "fnExactStockByAge", fn := fun _ => fun
  | [d1, d2, d3] => { results := [.lit (.bool true)], args := [d1, d2, d3] }
  | _ => none }
def fnExactStockByAgeRow : OpenClaim := { program := "ytihjcjhnkpkomaa", sum := "6a5bd3f53a1c0bc1ddd89386d9146cbd7773d525b7f861c7ba770fc0a4585b2f", func := "loop.example/g01111/laws.FnExactStockByAge", spec := "fnExactStockByAge", unfollowed := true, recurses := true, apart := false }
def FnExactStockByAgeSaid : Prop := fnExactStockByAgeRow.holds Try.pinned (OpenSpec.ofChange fnExactStockByAgeSpec)

/-- ITS FALSE NEIGHBOUR: 'it returns false'. Refute it at one input. -/
def fnExactStockByAgeWrong : ChangeSpec := { name := "fnExactStockByAge", fn := fun _ => fun
  | [d1, d2, d3] => { results := [.lit (.bool false)], args := [d1, d2, d3] }
  | _ => none }
def FnExactStockByAgeWrongFalsely : Prop := fnExactStockByAgeRow.holds Try.pinned (OpenSpec.ofChange fnExactStockByAgeWrong)

/-- 'laws.FnExactLostBound': WHATEVER THE INPUT: true; the input reads as it did. -/
def fnExactLostBoundSpec : ChangeSpec := { name := "fnExactLostBound", fn := fun _ => fun
  | [d1, d2] => { results := [.lit (.bool true)], args := [d1, d2] }
  | _ => none }
def fnExactLostBoundRow : OpenClaim := { program := "ytihjcjhnkpkomaa", sum := "6a5bd3f53a1c0bc1ddd89386d9146cbd7773d525b7f861c7ba770fc0a4585b2f", func := "loop.example/g01111/laws.FnExactLostBound", spec := "fnExactLostBound", unfollowed := true, recurses := true, apart := false }
def FnExactLostBoundSaid : Prop := fnExactLostBoundRow.holds Try.pinned (OpenSpec.ofChange fnExactLostBoundSpec)

/-- ITS FALSE NEIGHBOUR: 'it returns false'. Refute it at one input. -/
def fnExactLostBoundWrong : ChangeSpec := { name := "fnExactLostBound", fn := fun _ => fun
  | [d1, d2] => { results := [.lit (.bool false)], args := [d1, d2] }
  | _ => none }
def FnExactLostBoundWrongFalsely : Prop := fnExactLostBoundRow.holds Try.pinned (OpenSpec.ofChange fnExactLostBoundWrong)

/-- 'laws.FnExactLostProof': WHATEVER THE INPUT: true; the input reads as it did. -/
def fnExactLostProofSpec : ChangeSpec := { name := "fnExactLostProof", fn := fun _ => fun
  | [d] => { results := [.lit (.bool true)], args := [d] }
  | _ => none }
def fnExactLostProofRow : OpenClaim := { program := "ytihjcjhnkpkomaa", sum := "6a5bd3f53a1c0bc1ddd89386d9146cbd7773d525b7f861c7ba770fc0a4585b2f", func := "loop.example/g01111/laws.FnExactLostProof", spec := "fnExactLostProof", unfollowed := true, recurses := true, apart := false }
def FnExactLostProofSaid : Prop := fnExactLostProofRow.holds Try.pinned (OpenSpec.ofChange fnExactLostProofSpec)

/-- ITS FALSE NEIGHBOUR: 'it returns false'. Refute it at one input. -/
def fnExactLostProofWrong : ChangeSpec := { name := "fnExactLostProof", fn := fun _ => fun
  | [d] => { results := [.lit (.bool false)], args := [d] }
  | _ => none }
def FnExactLostProofWrongFalsely : Prop := fnExactLostProofRow.holds Try.pinned (OpenSpec.ofChange fnExactLostProofWrong)

/-- 'laws.FnExactFreshCost': WHATEVER THE INPUT: true; the input reads as it did. -/
def fnExactFreshCostSpec : ChangeSpec := { name := "fnExactFreshCost", fn := fun _ => fun
  | [d1, d2, d3] => { results := [.lit (.bool true)], args := [d1, d2, d3] }
  | _ => none }
def fnExactFreshCostRow : OpenClaim := { program := "ytihjcjhnkpkomaa", sum := "6a5bd3f53a1c0bc1ddd89386d9146cbd7773d525b7f861c7ba770fc0a4585b2f", func := "loop.example/g01111/laws.FnExactFreshCost", spec := "fnExactFreshCost", unfollowed := true, recurses := true, apart := false }
def FnExactFreshCostSaid : Prop := fnExactFreshCostRow.holds Try.pinned (OpenSpec.ofChange fnExactFreshCostSpec)

/-- ITS FALSE NEIGHBOUR: 'it returns false'. Refute it at one input. -/
def fnExactFreshCostWrong : ChangeSpec := { name := "fnExactFreshCost", fn := fun _ => fun
  | [d1, d2, d3] => { results := [.lit (.bool false)], args := [d1, d2, d3] }
  | _ => none }
def FnExactFreshCostWrongFalsely : Prop := fnExactFreshCostRow.holds Try.pinned (OpenSpec.ofChange fnExactFreshCostWrong)

/-- 'laws.FnExactBestFresh': WHATEVER THE INPUT: true; the input reads as it did. -/
def fnExactBestFreshSpec : ChangeSpec := { name := "fnExactBestFresh", fn := fun _ => fun
  | [d1, d2] => { results := [.lit (.bool true)], args := [d1, d2] }
  | _ => none }
def fnExactBestFreshRow : OpenClaim := { program := "ytihjcjhnkpkomaa", sum := "6a5bd3f53a1c0bc1ddd89386d9146cbd7773d525b7f861c7ba770fc0a4585b2f", func := "loop.example/g01111/laws.FnExactBestFresh", spec := "fnExactBestFresh", unfollowed := true, recurses := true, apart := false }
def FnExactBestFreshSaid : Prop := fnExactBestFreshRow.holds Try.pinned (OpenSpec.ofChange fnExactBestFreshSpec)

/-- ITS FALSE NEIGHBOUR: 'it returns false'. Refute it at one input. -/
def fnExactBestFreshWrong : ChangeSpec := { name := "fnExactBestFresh", fn := fun _ => fun
  | [d1, d2] => { results := [.lit (.bool false)], args := [d1, d2] }
  | _ => none }
def FnExactBestFreshWrongFalsely : Prop := fnExactBestFreshRow.holds Try.pinned (OpenSpec.ofChange fnExactBestFreshWrong)

/-- 'laws.FnExactLifeGains': WHATEVER THE INPUT: true; the input reads as it did. -/
def fnExactLifeGainsSpec : ChangeSpec := { name := "fnExactLifeGains", fn := fun _ => fun
  | [d] => { results := [.lit (.bool true)], args := [d] }
  | _ => none }
def fnExactLifeGainsRow : OpenClaim := { program := "ytihjcjhnkpkomaa", sum := "6a5bd3f53a1c0bc1ddd89386d9146cbd7773d525b7f861c7ba770fc0a4585b2f", func := "loop.example/g01111/laws.FnExactLifeGains", spec := "fnExactLifeGains", unfollowed := true, recurses := true, apart := false }
def FnExactLifeGainsSaid : Prop := fnExactLifeGainsRow.holds Try.pinned (OpenSpec.ofChange fnExactLifeGainsSpec)

/-- ITS FALSE NEIGHBOUR: 'it returns false'. Refute it at one input. -/
def fnExactLifeGainsWrong : ChangeSpec := { name := "fnExactLifeGains", fn := fun _ => fun
  | [d] => { results := [.lit (.bool false)], args := [d] }
  | _ => none }
def FnExactLifeGainsWrongFalsely : Prop := fnExactLifeGainsRow.holds Try.pinned (OpenSpec.ofChange fnExactLifeGainsWrong)

/- THE SECOND FORM. 'bulk': how many values and letters a reading holds, each counted each time it is reached (what is shared counts as often as it is met; a slice's spare places count too). A statement '..UptoSaid' is the law's where the arguments, and the package variables that the reading takes, are together of bulk at most 1048576: NARROWER than '..Said'. Prove '..Said' where nothing that the law and all that it calls make is longer than what came in: it says more and counts as full. Else prove '..UptoSaid'. A law counts once. -/
mutual
def uptoBulk {H : Type} : DataW H → Nat
  | .lit (.string bytes) => bytes.length + 1
  | .lit _ => 1
  | .nil => 1
  | .ptr d => uptoBulk d + 1
  | .slice elems spare => uptoBulkAll elems + uptoBulkAll spare + 1
  | .agg parts => uptoBulkAll parts + 1
  | .iface _ d => uptoBulk d + 1
  | .map entries => uptoBulkEntries entries + 1
  | .held _ => 1
def uptoBulkAll {H : Type} : List (DataW H) → Nat
  | [] => 0
  | d :: r => uptoBulk d + uptoBulkAll r
def uptoBulkEntries {H : Type} : List (Lit × DataW H) → Nat
  | [] => 0
  | x :: r => uptoBulkEntry x + uptoBulkEntries r
def uptoBulkEntry {H : Type} : Lit × DataW H → Nat
  | (.string bytes, d) => bytes.length + uptoBulk d + 1
  | (_, d) => uptoBulk d + 1
 end
def uptoSmall : (H : Type) → List (DataW H) → Bool := fun _ ds => decide (uptoBulkAll ds ≤ 1048576)
def OpenSpec.upto (s : _root_.Go.ChangeSpec) : _root_.Go.OpenSpec := { _root_.Go.OpenSpec.ofChange s with cond := some uptoSmall }

/-- 'laws.FnExactIsShelf', WHERE WHAT IT READS IS OF BULK AT MOST 1048576: true; the input reads as it did. -/
def fnExactIsShelfUptoRow : OpenClaim := { program := "ytihjcjhnkpkomaa", sum := "6a5bd3f53a1c0bc1ddd89386d9146cbd7773d525b7f861c7ba770fc0a4585b2f", func := "loop.example/g01111/laws.FnExactIsShelf", spec := "fnExactIsShelf", unfollowed := true, recurses := true, apart := false, narrowed := true }
def FnExactIsShelfUptoSaid : Prop := fnExactIsShelfUptoRow.holds Try.pinned (OpenSpec.upto fnExactIsShelfSpec)

/-- 'laws.FnExactIsIssue', WHERE WHAT IT READS IS OF BULK AT MOST 1048576: true; the input reads as it did. -/
def fnExactIsIssueUptoRow : OpenClaim := { program := "ytihjcjhnkpkomaa", sum := "6a5bd3f53a1c0bc1ddd89386d9146cbd7773d525b7f861c7ba770fc0a4585b2f", func := "loop.example/g01111/laws.FnExactIsIssue", spec := "fnExactIsIssue", unfollowed := true, recurses := true, apart := false, narrowed := true }
def FnExactIsIssueUptoSaid : Prop := fnExactIsIssueUptoRow.holds Try.pinned (OpenSpec.upto fnExactIsIssueSpec)

/-- 'laws.FnExactOldestFirst', WHERE WHAT IT READS IS OF BULK AT MOST 1048576: true; the input reads as it did. -/
def fnExactOldestFirstUptoRow : OpenClaim := { program := "ytihjcjhnkpkomaa", sum := "6a5bd3f53a1c0bc1ddd89386d9146cbd7773d525b7f861c7ba770fc0a4585b2f", func := "loop.example/g01111/laws.FnExactOldestFirst", spec := "fnExactOldestFirst", unfollowed := true, recurses := true, apart := false, narrowed := true }
def FnExactOldestFirstUptoSaid : Prop := fnExactOldestFirstUptoRow.holds Try.pinned (OpenSpec.upto fnExactOldestFirstSpec)

/-- 'laws.FnExactNewestFirst', WHERE WHAT IT READS IS OF BULK AT MOST 1048576: true; the input reads as it did. -/
def fnExactNewestFirstUptoRow : OpenClaim := { program := "ytihjcjhnkpkomaa", sum := "6a5bd3f53a1c0bc1ddd89386d9146cbd7773d525b7f861c7ba770fc0a4585b2f", func := "loop.example/g01111/laws.FnExactNewestFirst", spec := "fnExactNewestFirst", unfollowed := true, recurses := true, apart := false, narrowed := true }
def FnExactNewestFirstUptoSaid : Prop := fnExactNewestFirstUptoRow.holds Try.pinned (OpenSpec.upto fnExactNewestFirstSpec)

/-- 'laws.FnExactLostNeeds', WHERE WHAT IT READS IS OF BULK AT MOST 1048576: true; the input reads as it did. -/
def fnExactLostNeedsUptoRow : OpenClaim := { program := "ytihjcjhnkpkomaa", sum := "6a5bd3f53a1c0bc1ddd89386d9146cbd7773d525b7f861c7ba770fc0a4585b2f", func := "loop.example/g01111/laws.FnExactLostNeeds", spec := "fnExactLostNeeds", unfollowed := true, recurses := true, apart := false, narrowed := true }
def FnExactLostNeedsUptoSaid : Prop := fnExactLostNeedsUptoRow.holds Try.pinned (OpenSpec.upto fnExactLostNeedsSpec)

/-- 'laws.FnExactWastedUnits', WHERE WHAT IT READS IS OF BULK AT MOST 1048576: true; the input reads as it did. -/
def fnExactWastedUnitsUptoRow : OpenClaim := { program := "ytihjcjhnkpkomaa", sum := "6a5bd3f53a1c0bc1ddd89386d9146cbd7773d525b7f861c7ba770fc0a4585b2f", func := "loop.example/g01111/laws.FnExactWastedUnits", spec := "fnExactWastedUnits", unfollowed := true, recurses := true, apart := false, narrowed := true }
def FnExactWastedUnitsUptoSaid : Prop := fnExactWastedUnitsUptoRow.holds Try.pinned (OpenSpec.upto fnExactWastedUnitsSpec)

/-- 'laws.FnExactShelfCost', WHERE WHAT IT READS IS OF BULK AT MOST 1048576: true; the input reads as it did. -/
def fnExactShelfCostUptoRow : OpenClaim := { program := "ytihjcjhnkpkomaa", sum := "6a5bd3f53a1c0bc1ddd89386d9146cbd7773d525b7f861c7ba770fc0a4585b2f", func := "loop.example/g01111/laws.FnExactShelfCost", spec := "fnExactShelfCost", unfollowed := true, recurses := true, apart := false, narrowed := true }
def FnExactShelfCostUptoSaid : Prop := fnExactShelfCostUptoRow.holds Try.pinned (OpenSpec.upto fnExactShelfCostSpec)

/-- 'laws.FnExactStockByAge', WHERE WHAT IT READS IS OF BULK AT MOST 1048576: true; the input reads as it did. -/
def fnExactStockByAgeUptoRow : OpenClaim := { program := "ytihjcjhnkpkomaa", sum := "6a5bd3f53a1c0bc1ddd89386d9146cbd7773d525b7f861c7ba770fc0a4585b2f", func := "loop.example/g01111/laws.FnExactStockByAge", spec := "fnExactStockByAge", unfollowed := true, recurses := true, apart := false, narrowed := true }
def FnExactStockByAgeUptoSaid : Prop := fnExactStockByAgeUptoRow.holds Try.pinned (OpenSpec.upto fnExactStockByAgeSpec)

/-- 'laws.FnExactLostBound', WHERE WHAT IT READS IS OF BULK AT MOST 1048576: true; the input reads as it did. -/
def fnExactLostBoundUptoRow : OpenClaim := { program := "ytihjcjhnkpkomaa", sum := "6a5bd3f53a1c0bc1ddd89386d9146cbd7773d525b7f861c7ba770fc0a4585b2f", func := "loop.example/g01111/laws.FnExactLostBound", spec := "fnExactLostBound", unfollowed := true, recurses := true, apart := false, narrowed := true }
def FnExactLostBoundUptoSaid : Prop := fnExactLostBoundUptoRow.holds Try.pinned (OpenSpec.upto fnExactLostBoundSpec)

/-- 'laws.FnExactLostProof', WHERE WHAT IT READS IS OF BULK AT MOST 1048576: true; the input reads as it did. -/
def fnExactLostProofUptoRow : OpenClaim := { program := "ytihjcjhnkpkomaa", sum := "6a5bd3f53a1c0bc1ddd89386d9146cbd7773d525b7f861c7ba770fc0a4585b2f", func := "loop.example/g01111/laws.FnExactLostProof", spec := "fnExactLostProof", unfollowed := true, recurses := true, apart := false, narrowed := true }
def FnExactLostProofUptoSaid : Prop := fnExactLostProofUptoRow.holds Try.pinned (OpenSpec.upto fnExactLostProofSpec)

/-- 'laws.FnExactFreshCost', WHERE WHAT IT READS IS OF BULK AT MOST 1048576: true; the input reads as it did. -/
def fnExactFreshCostUptoRow : OpenClaim := { program := "ytihjcjhnkpkomaa", sum := "6a5bd3f53a1c0bc1ddd89386d9146cbd7773d525b7f861c7ba770fc0a4585b2f", func := "loop.example/g01111/laws.FnExactFreshCost", spec := "fnExactFreshCost", unfollowed := true, recurses := true, apart := false, narrowed := true }
def FnExactFreshCostUptoSaid : Prop := fnExactFreshCostUptoRow.holds Try.pinned (OpenSpec.upto fnExactFreshCostSpec)

/-- 'laws.FnExactBestFresh', WHERE WHAT IT READS IS OF BULK AT MOST 1048576: true; the input reads as it did. -/
def fnExactBestFreshUptoRow : OpenClaim := { program := "ytihjcjhnkpkomaa", sum := "6a5bd3f53a1c0bc1ddd89386d9146cbd7773d525b7f861c7ba770fc0a4585b2f", func := "loop.example/g01111/laws.FnExactBestFresh", spec := "fnExactBestFresh", unfollowed := true, recurses := true, apart := false, narrowed := true }
def FnExactBestFreshUptoSaid : Prop := fnExactBestFreshUptoRow.holds Try.pinned (OpenSpec.upto fnExactBestFreshSpec)

/-- 'laws.FnExactLifeGains', WHERE WHAT IT READS IS OF BULK AT MOST 1048576: true; the input reads as it did. -/
def fnExactLifeGainsUptoRow : OpenClaim := { program := "ytihjcjhnkpkomaa", sum := "6a5bd3f53a1c0bc1ddd89386d9146cbd7773d525b7f861c7ba770fc0a4585b2f", func := "loop.example/g01111/laws.FnExactLifeGains", spec := "fnExactLifeGains", unfollowed := true, recurses := true, apart := false, narrowed := true }
def FnExactLifeGainsUptoSaid : Prop := fnExactLifeGainsUptoRow.holds Try.pinned (OpenSpec.upto fnExactLifeGainsSpec)

end Rows
end Go.Proofs.Ytihjcjhnkpkomaa
