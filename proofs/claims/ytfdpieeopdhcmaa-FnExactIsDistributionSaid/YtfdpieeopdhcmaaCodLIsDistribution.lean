/- The compiled forms of functions, each checked against the translation. -/
import Derived.Test.YtfdpieeopdhcmaaAb2
import Derived.Test.YtfdpieeopdhcmaaProg
namespace Go.Proofs.Ytfdpieeopdhcmaa.Ab
open Go Go.RowKit Go.Proofs
set_option maxRecDepth 100000
def c_laws_FnExactIsDistribution : ACode := .seq (.reg [⟨(some 2), .mv (.const (.bool false)), none⟩])
 (.seq (.seq (.reg [⟨(some 6), .mv (.tmp 0), none⟩,
  ⟨(some 7), .len (.tmp 6), none⟩,
  ⟨(some 8), .bin .gtr (.tmp 7) (.const (.int .i64 1048576)), none⟩])
 (.cond (.tmp 8) (.seq (.reg [⟨(some 2), .mv (.const (.bool true)), none⟩])
 (.ret)) (.skip)))
 (.seq (.reg [⟨(some 9), .mv (.tmp 0), none⟩,
  ⟨(some 10), .call (.func 70) [(.tmp 9)], none⟩,
  ⟨(some 11), .call (.func 45) [(.tmp 10)], none⟩,
  ⟨(some 3), .mv (.tmp 11), none⟩])
 (.seq (.reg [⟨(some 12), .mv (.tmp 0), none⟩,
  ⟨(some 13), .call (.func 70) [(.tmp 12)], none⟩,
  ⟨(some 4), .mv (.tmp 13), none⟩])
 (.seq (.reg [⟨(some 14), .mv (.tmp 4), none⟩,
  ⟨(some 15), .call (.func 44) [(.tmp 14)], none⟩,
  ⟨(some 5), .mv (.tmp 15), none⟩])
 (.seq (.seq (.reg [⟨(some 16), .mv (.tmp 5), none⟩,
  ⟨(some 17), .mv (.tmp 3), none⟩,
  ⟨(some 18), .beq true (.tmp 16) (.tmp 17), none⟩])
 (.cond (.tmp 18) (.seq (.reg [⟨(some 2), .mv (.const (.bool false)), none⟩])
 (.ret)) (.skip)))
 (.seq (.seq (.reg [⟨(some 19), .mv (.tmp 4), none⟩,
  ⟨(some 20), .mv (.tmp 0), none⟩,
  ⟨(some 21), .call (.func 70) [(.tmp 20)], none⟩,
  ⟨(some 22), .call (.func 71) [(.tmp 19), (.tmp 21)], none⟩,
  ⟨(some 23), .un .not (.tmp 22), none⟩])
 (.cond (.tmp 23) (.seq (.reg [⟨(some 2), .mv (.const (.bool false)), none⟩])
 (.ret)) (.skip)))
 (.seq (.reg [⟨(some 2), .mv (.const (.bool true)), none⟩])
 (.ret))))))))
def r_laws_FnExactIsDistribution : List ARes := [.tmp 2]
theorem ok_laws_FnExactIsDistribution : FnOk Try.prog 7 24 c_laws_FnExactIsDistribution r_laws_FnExactIsDistribution := ⟨⟨Try.f7, _, Try.func7, by kernel_rfl, rfl, rfl, by kernel_rfl, by kernel_rfl⟩⟩
end Go.Proofs.Ytfdpieeopdhcmaa.Ab
