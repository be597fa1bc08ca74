/- The compiled forms of functions, each checked against the translation. -/
import Derived.Test.YtmjnjhdacliieaaAb2
import Derived.Test.YtmjnjhdacliieaaProg
namespace Go.Proofs.Ytmjnjhdacliieaa.Ab
open Go Go.RowKit Go.Proofs
set_option maxRecDepth 100000
def c_laws_FnExactCycleCost : ACode := .seq (.reg [⟨(some 2), .box 23 (.tmp 0), none⟩,
  ⟨(some 4), .mv (.const (.bool false)), none⟩])
 (.seq (.reg [⟨(some 10), .ld (some 5) (.tmp 2), none⟩,
  ⟨(some 11), .call (.func 20) [(.tmp 10)], none⟩,
  ⟨(some 12), .mv (.tmp 1), none⟩,
  ⟨(some 13), .call (.func 22) [(.tmp 11), (.tmp 12)], none⟩,
  ⟨(some 9), .mv (.tmp 13), none⟩,
  ⟨(some 14), .ext 0 (.tmp 9), none⟩,
  ⟨(some 15), .ext 1 (.tmp 9), none⟩,
  ⟨(some 5), .alc 28 [(.int .i64 0), (.int .i64 0)], none⟩,
  ⟨none, .st 2 (.tmp 5) (.tmp 14), none⟩,
  ⟨(some 6), .mv (.tmp 15), none⟩])
 (.seq (.reg [⟨(some 17), .ld (some 5) (.tmp 2), none⟩,
  ⟨(some 18), .call (.func 20) [(.tmp 17)], none⟩,
  ⟨(some 19), .mv (.tmp 1), none⟩,
  ⟨(some 20), .call (.func 23) [(.tmp 18), (.tmp 19)], none⟩,
  ⟨(some 16), .mv (.tmp 20), none⟩,
  ⟨(some 21), .ext 0 (.tmp 16), none⟩,
  ⟨(some 22), .ext 1 (.tmp 16), none⟩,
  ⟨(some 7), .alc 28 [(.int .i64 0), (.int .i64 0)], none⟩,
  ⟨none, .st 2 (.tmp 7) (.tmp 21), none⟩,
  ⟨(some 8), .mv (.tmp 22), none⟩])
 (.seq (.seq (.reg [⟨(some 23), .ld (some 2) (.tmp 7), none⟩,
  ⟨(some 24), .ld (some 2) (.tmp 5), none⟩,
  ⟨(some 25), .call (.func 24) [(.tmp 23), (.tmp 24)], none⟩,
  ⟨(some 26), .un .not (.tmp 25), none⟩,
  ⟨(some 27), .mv (.tmp 26), none⟩,
  ⟨(some 28), .mv (.tmp 8), (some (27, false))⟩,
  ⟨(some 29), .mv (.tmp 6), (some (27, false))⟩,
  ⟨(some 30), .beq true (.tmp 28) (.tmp 29), (some (27, false))⟩,
  ⟨(some 31), .pick (.tmp 27) (.const (.bool true)) (.tmp 30), none⟩])
 (.cond (.tmp 31) (.seq (.reg [⟨(some 4), .mv (.const (.bool false)), none⟩])
 (.ret)) (.skip)))
 (.seq (.reg [⟨(some 4), .mv (.const (.bool true)), none⟩])
 (.ret)))))
def r_laws_FnExactCycleCost : List ARes := [.tmp 4]
theorem ok_laws_FnExactCycleCost : FnOk Try.prog 4 32 c_laws_FnExactCycleCost r_laws_FnExactCycleCost := ⟨⟨Try.f4, _, Try.func4, by kernel_rfl, rfl, rfl, by kernel_rfl, by kernel_rfl⟩⟩
end Go.Proofs.Ytmjnjhdacliieaa.Ab
