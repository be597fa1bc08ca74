/- The compiled forms of functions, each checked against the translation. -/
import Derived.Test.YtdcheilmjooacaaAb2
import Derived.Test.YtdcheilmjooacaaProg
namespace Go.Proofs.Ytdcheilmjooacaa.Ab
open Go Go.RowKit Go.Proofs
set_option maxRecDepth 100000
def c_laws_FnExactIsContract : ACode := .seq (.reg [⟨(some 1), .box 32 (.tmp 0), none⟩,
  ⟨(some 2), .mv (.const (.bool false)), none⟩])
 (.seq (.reg [⟨(some 5), .ld (some 3) (.tmp 1), none⟩,
  ⟨(some 6), .call (.func 26) [(.tmp 5)], none⟩,
  ⟨(some 7), .call (.func 25) [(.tmp 6)], none⟩,
  ⟨(some 3), .mv (.tmp 7), none⟩])
 (.seq (.reg [⟨(some 8), .ld (some 3) (.tmp 1), none⟩,
  ⟨(some 9), .call (.func 26) [(.tmp 8)], none⟩,
  ⟨(some 10), .call (.func 27) [(.tmp 9)], none⟩,
  ⟨(some 4), .mv (.tmp 10), none⟩])
 (.seq (.seq (.reg [⟨(some 11), .mv (.tmp 4), none⟩,
  ⟨(some 12), .mv (.tmp 3), none⟩,
  ⟨(some 13), .beq true (.tmp 11) (.tmp 12), none⟩])
 (.cond (.tmp 13) (.seq (.reg [⟨(some 2), .mv (.const (.bool false)), none⟩])
 (.ret)) (.skip)))
 (.seq (.reg [⟨(some 2), .mv (.const (.bool true)), none⟩])
 (.ret)))))
def r_laws_FnExactIsContract : List ARes := [.tmp 2]
theorem ok_laws_FnExactIsContract : FnOk Try.prog 4 14 c_laws_FnExactIsContract r_laws_FnExactIsContract := ⟨⟨Try.f4, _, Try.func4, by kernel_rfl, rfl, rfl, by kernel_rfl, by kernel_rfl⟩⟩
end Go.Proofs.Ytdcheilmjooacaa.Ab
