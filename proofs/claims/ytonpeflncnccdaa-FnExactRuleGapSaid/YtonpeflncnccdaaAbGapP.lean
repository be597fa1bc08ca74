/- impl.RuleGap. -/
import Derived.Test.YtonpeflncnccdaaAbGap
import Derived.Test.YtonpeflncnccdaaAbFromI
namespace Go.Proofs.Ytonpeflncnccdaa.Ab
open Go Go.RowKit
theorem implGap_rc (m : Mem) (v : Value) (k : Cs) (rule : Int) (h : CaseA m v k) : RC Try.prog 28 [v, .int .i64 rule] m (AnsV (.tuple #[.int .i64 (gapA k rule), .bool (ruleOk k rule)])) :=
  implGap_of (fun m v u k ps h h' hl => implPlanFrom_rc m v u k ps h h' hl) m v k rule h
end Go.Proofs.Ytonpeflncnccdaa.Ab
