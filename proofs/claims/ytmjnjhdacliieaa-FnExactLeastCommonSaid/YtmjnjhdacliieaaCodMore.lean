/- The compiled forms of functions, each checked against the translation. -/
import Derived.Test.YtmjnjhdacliieaaAb2
import Derived.Test.YtmjnjhdacliieaaProg
namespace Go.Proofs.Ytmjnjhdacliieaa.Ab
open Go Go.RowKit Go.Proofs
set_option maxRecDepth 100000
def c_spec_LeastCommon : ACode := .seq (.reg [⟨(some 2), .mv (.const (.int .i64 0)), none⟩,
  ⟨(some 3), .mv (.const (.bool false)), none⟩])
 (.seq (.seq (.reg [⟨(some 4), .mv (.tmp 0), none⟩,
  ⟨(some 5), .call (.func 70) [(.tmp 4)], none⟩,
  ⟨(some 6), .un .not (.tmp 5), none⟩,
  ⟨(some 7), .mv (.tmp 6), none⟩,
  ⟨(some 8), .mv (.tmp 0), (some (7, false))⟩,
  ⟨(some 9), .call (.func 82) [(.tmp 8)], (some (7, false))⟩,
  ⟨(some 10), .bin .eql (.tmp 9) (.const (.int .i64 0)), (some (7, false))⟩,
  ⟨(some 11), .pick (.tmp 7) (.const (.bool true)) (.tmp 10), none⟩])
 (.cond (.tmp 11) (.seq (.reg [⟨(some 2), .mv (.const (.int .i64 0)), none⟩,
  ⟨(some 3), .mv (.const (.bool false)), none⟩])
 (.ret)) (.skip)))
 (.seq (.reg [⟨(some 12), .mv (.tmp 0), none⟩,
  ⟨(some 13), .call (.func 82) [(.tmp 12)], none⟩,
  ⟨(some 2), .mv (.tmp 13), none⟩,
  ⟨(some 3), .mv (.const (.bool true)), none⟩])
 (.ret)))
def r_spec_LeastCommon : List ARes := [.tmp 2, .tmp 3]
theorem ok_spec_LeastCommon : FnOk Try.prog 45 14 c_spec_LeastCommon r_spec_LeastCommon := ⟨⟨Try.f45, _, Try.func45, by kernel_rfl, rfl, rfl, by kernel_rfl, by kernel_rfl⟩⟩
end Go.Proofs.Ytmjnjhdacliieaa.Ab
