/- FormatInt read back. -/
import Derived.Test.YtofcnabpfdnohaaDoorNum
import Derived.Test.YtofcnabpfdnohaaDoorParse
namespace Go.Proofs.YtofcnabpfdnohaaDoor
set_option linter.unusedVariables false
theorem int_wf {m : Int} (h0 : -1000000 ≤ m) (h1 : m ≤ 1000000) : (Lit.int .i64 m).wf = true := by
  show (decide (IntKind.i64.min ≤ m) && decide (m ≤ IntKind.i64.max)) = true
  have e1 : IntKind.i64.min = -9223372036854775808 := by decide
  have e2 : IntKind.i64.max = 9223372036854775807 := by decide
  rw [e1, e2]
  simp; omega
theorem fmt_back {m v : Int} {ok : Bool} (he : fmtOk m = true) (hr : ReadsAs (fmtStr m) v ok) : v = m ∧ ok = true := by
  unfold fmtOk at he
  have h := of_decide_eq_true he
  refine hr.1 m h.1 h.2 ?_
  unfold fmtStr
  rw [if_pos h]
theorem fmt_size (m : Int) : (fmtStr m).size ≤ 1048576 := by
  unfold fmtStr
  split
  · rename_i h
    rw [size_mk]
    have := Lib.itoa_length_le m (by omega) (by omega)
    omega
  · show 0 ≤ _; omega
end Go.Proofs.YtofcnabpfdnohaaDoor
