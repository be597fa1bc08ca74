/- Plain facts on splitting a text at a byte; nothing of the program. -/
import Derived.Test.YtofcnabpfdnohaaDoorPlain
import Derived.WalkKit
namespace Go.Proofs.YtofcnabpfdnohaaDoor
/-- Behind k bytes: where the part that has begun begins, and the parts before it. -/
def cuts (s : ByteArray) (b : UInt8) : Nat → Nat × List ByteArray
  | 0 => (0, [])
  | k + 1 => if s.data.toList[k]? = some b then (k + 1, (cuts s b k).2 ++ [s.extract (cuts s b k).1 k]) else cuts s b k
def splitOf (s : ByteArray) (b : UInt8) : List ByteArray := (cuts s b s.size).2 ++ [s.extract (cuts s b s.size).1 s.size]
theorem cuts_le (s : ByteArray) (b : UInt8) (k : Nat) : (cuts s b k).1 ≤ k ∧ (cuts s b k).2.length ≤ k := by
  induction k with
  | zero => simp [cuts]
  | succ k ih =>
    unfold cuts
    split
    · simp only [List.length_append, List.length_cons, List.length_nil]; omega
    · omega
theorem cuts_hit {s : ByteArray} {b : UInt8} {k : Nat} (h : s.data.toList[k]? = some b) : cuts s b (k + 1) = (k + 1, (cuts s b k).2 ++ [s.extract (cuts s b k).1 k]) := by
  rw [cuts, if_pos h]
theorem cuts_miss {s : ByteArray} {b : UInt8} {k : Nat} (h : ¬ s.data.toList[k]? = some b) : cuts s b (k + 1) = cuts s b k := by
  rw [cuts, if_neg h]
theorem splitOf_len (s : ByteArray) (b : UInt8) : (splitOf s b).length ≤ s.size + 1 ∧ 0 < (splitOf s b).length := by
  have := (cuts_le s b s.size).2
  unfold splitOf
  simp only [List.length_append, List.length_cons, List.length_nil]
  omega
end Go.Proofs.YtofcnabpfdnohaaDoor
