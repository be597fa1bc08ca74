/- The compiled forms of functions, each checked against the translation. -/
import Derived.Test.YtnkbjliidenldaaAb2
import Derived.Test.YtnkbjliidenldaaProg
namespace Go.Proofs.Ytnkbjliidenldaa.Ab
open Go Go.RowKit Go.Proofs
set_option maxRecDepth 100000
def c_laws_FnExactIsRule : ACode := .seq (.reg [⟨(some 1), .box 38 (.tmp 0), none⟩,
  ⟨(some 2), .mv (.const (.bool false)), none⟩])
 (.seq (.reg [⟨(some 5), .ld (some 3) (.tmp 1), none⟩,
  ⟨(some 6), .call (.func 30) [(.tmp 5)], none⟩,
  ⟨(some 7), .call (.func 29) [(.tmp 6)], none⟩,
  ⟨(some 3), .mv (.tmp 7), none⟩])
 (.seq (.reg [⟨(some 8), .ld (some 3) (.tmp 1), none⟩,
  ⟨(some 9), .call (.func 30) [(.tmp 8)], none⟩,
  ⟨(some 10), .call (.func 31) [(.tmp 9)], none⟩,
  ⟨(some 4), .mv (.tmp 10), none⟩])
 (.seq (.seq (.reg [⟨(some 11), .mv (.tmp 4), none⟩,
  ⟨(some 12), .mv (.tmp 3), none⟩,
  ⟨(some 13), .beq true (.tmp 11) (.tmp 12), none⟩])
 (.cond (.tmp 13) (.seq (.reg [⟨(some 2), .mv (.const (.bool false)), none⟩])
 (.ret)) (.skip)))
 (.seq (.reg [⟨(some 2), .mv (.const (.bool true)), none⟩])
 (.ret)))))
def r_laws_FnExactIsRule : List ARes := [.tmp 2]
theorem ok_laws_FnExactIsRule : FnOk Try.prog 6 14 c_laws_FnExactIsRule r_laws_FnExactIsRule := ⟨⟨Try.f6, _, Try.func6, by kernel_rfl, rfl, rfl, by kernel_rfl, by kernel_rfl⟩⟩
end Go.Proofs.Ytnkbjliidenldaa.Ab
