/- The compiled forms of functions, each checked against the translation. -/
import Derived.Test.YtfdpieeopdhcmaaAb2
import Derived.Test.YtfdpieeopdhcmaaProg
namespace Go.Proofs.Ytfdpieeopdhcmaa.Ab
open Go Go.RowKit Go.Proofs
set_option maxRecDepth 100000
def c_laws_FnExactTotalWeight : ACode := .seq (.reg [⟨(some 2), .mv (.const (.bool false)), none⟩])
 (.seq (.seq (.reg [⟨(some 8), .mv (.tmp 0), none⟩,
  ⟨(some 9), .len (.tmp 8), none⟩,
  ⟨(some 10), .bin .gtr (.tmp 9) (.const (.int .i64 1048576)), none⟩])
 (.cond (.tmp 10) (.seq (.reg [⟨(some 2), .mv (.const (.bool true)), none⟩])
 (.ret)) (.skip)))
 (.seq (.reg [⟨(some 12), .mv (.tmp 0), none⟩,
  ⟨(some 13), .call (.func 70) [(.tmp 12)], none⟩,
  ⟨(some 14), .call (.func 40) [(.tmp 13)], none⟩,
  ⟨(some 11), .mv (.tmp 14), none⟩,
  ⟨(some 15), .ext 0 (.tmp 11), none⟩,
  ⟨(some 16), .ext 1 (.tmp 11), none⟩,
  ⟨(some 3), .mv (.tmp 15), none⟩,
  ⟨(some 4), .mv (.tmp 16), none⟩])
 (.seq (.reg [⟨(some 17), .mv (.tmp 0), none⟩,
  ⟨(some 18), .call (.func 70) [(.tmp 17)], none⟩,
  ⟨(some 5), .mv (.tmp 18), none⟩])
 (.seq (.reg [⟨(some 20), .mv (.tmp 5), none⟩,
  ⟨(some 21), .call (.func 39) [(.tmp 20)], none⟩,
  ⟨(some 19), .mv (.tmp 21), none⟩,
  ⟨(some 22), .ext 0 (.tmp 19), none⟩,
  ⟨(some 23), .ext 1 (.tmp 19), none⟩,
  ⟨(some 6), .mv (.tmp 22), none⟩,
  ⟨(some 7), .mv (.tmp 23), none⟩])
 (.seq (.seq (.reg [⟨(some 24), .mv (.tmp 6), none⟩,
  ⟨(some 25), .mv (.tmp 3), none⟩,
  ⟨(some 26), .bin .neq (.tmp 24) (.tmp 25), none⟩,
  ⟨(some 27), .mv (.tmp 26), none⟩,
  ⟨(some 28), .mv (.tmp 7), (some (27, false))⟩,
  ⟨(some 29), .mv (.tmp 4), (some (27, false))⟩,
  ⟨(some 30), .beq true (.tmp 28) (.tmp 29), (some (27, false))⟩,
  ⟨(some 31), .pick (.tmp 27) (.const (.bool true)) (.tmp 30), none⟩])
 (.cond (.tmp 31) (.seq (.reg [⟨(some 2), .mv (.const (.bool false)), none⟩])
 (.ret)) (.skip)))
 (.seq (.seq (.reg [⟨(some 32), .mv (.tmp 5), none⟩,
  ⟨(some 33), .mv (.tmp 0), none⟩,
  ⟨(some 34), .call (.func 70) [(.tmp 33)], none⟩,
  ⟨(some 35), .call (.func 71) [(.tmp 32), (.tmp 34)], none⟩,
  ⟨(some 36), .un .not (.tmp 35), none⟩])
 (.cond (.tmp 36) (.seq (.reg [⟨(some 2), .mv (.const (.bool false)), none⟩])
 (.ret)) (.skip)))
 (.seq (.reg [⟨(some 2), .mv (.const (.bool true)), none⟩])
 (.ret))))))))
def r_laws_FnExactTotalWeight : List ARes := [.tmp 2]
theorem ok_laws_FnExactTotalWeight : FnOk Try.prog 8 37 c_laws_FnExactTotalWeight r_laws_FnExactTotalWeight := ⟨⟨Try.f8, _, Try.func8, by kernel_rfl, rfl, rfl, by kernel_rfl, by kernel_rfl⟩⟩
end Go.Proofs.Ytfdpieeopdhcmaa.Ab
