/- The compiled forms of functions, each checked against the translation. -/
import Derived.Test.YtnkbjliidenldaaAb2
import Derived.Test.YtnkbjliidenldaaProg
namespace Go.Proofs.Ytnkbjliidenldaa.Ab
open Go Go.RowKit Go.Proofs
set_option maxRecDepth 100000
def c_laws_FnExactIsFlow : ACode := .seq (.reg [⟨(some 1), .box 24 (.tmp 0), none⟩,
  ⟨(some 2), .mv (.const (.bool false)), none⟩])
 (.seq (.reg [⟨(some 3), .mv (.const (.int .i64 1048576)), none⟩])
 (.seq (.reg [⟨(some 7), .ld (some 2) (.tmp 1), none⟩,
  ⟨(some 8), .mv (.tmp 3), none⟩,
  ⟨(some 9), .call (.func 18) [(.tmp 7), (.tmp 8)], none⟩,
  ⟨(some 3), .mv (.tmp 9), none⟩])
 (.seq (.seq (.reg [⟨(some 10), .mv (.tmp 3), none⟩,
  ⟨(some 11), .bin .lss (.tmp 10) (.const (.int .i64 0)), none⟩])
 (.cond (.tmp 11) (.seq (.reg [⟨(some 2), .mv (.const (.bool true)), none⟩])
 (.ret)) (.skip)))
 (.seq (.reg [⟨(some 12), .ld (some 2) (.tmp 1), none⟩,
  ⟨(some 13), .call (.func 20) [(.tmp 12)], none⟩,
  ⟨(some 14), .call (.func 19) [(.tmp 13)], none⟩,
  ⟨(some 4), .mv (.tmp 14), none⟩])
 (.seq (.reg [⟨(some 15), .ld (some 2) (.tmp 1), none⟩,
  ⟨(some 16), .call (.func 20) [(.tmp 15)], none⟩,
  ⟨(some 5), .alc 27 [(.int .i64 0), (.slice none 0 0)], none⟩,
  ⟨none, .st 2 (.tmp 5) (.tmp 16), none⟩])
 (.seq (.reg [⟨(some 17), .ld (some 2) (.tmp 5), none⟩,
  ⟨(some 18), .call (.func 21) [(.tmp 17)], none⟩,
  ⟨(some 6), .mv (.tmp 18), none⟩])
 (.seq (.seq (.reg [⟨(some 19), .mv (.tmp 6), none⟩,
  ⟨(some 20), .mv (.tmp 4), none⟩,
  ⟨(some 21), .beq true (.tmp 19) (.tmp 20), none⟩])
 (.cond (.tmp 21) (.seq (.reg [⟨(some 2), .mv (.const (.bool false)), none⟩])
 (.ret)) (.skip)))
 (.seq (.seq (.reg [⟨(some 22), .ld (some 2) (.tmp 5), none⟩,
  ⟨(some 23), .ld (some 2) (.tmp 1), none⟩,
  ⟨(some 24), .rcall (.func 20) [(.tmp 23)], none⟩,
  ⟨(some 25), .rcall (.func 22) [(.tmp 22), (.tmp 24)], none⟩,
  ⟨(some 26), .un .not (.tmp 25), none⟩])
 (.cond (.tmp 26) (.seq (.reg [⟨(some 2), .mv (.const (.bool false)), none⟩])
 (.ret)) (.skip)))
 (.seq (.reg [⟨(some 2), .mv (.const (.bool true)), none⟩])
 (.ret))))))))))
def r_laws_FnExactIsFlow : List ARes := [.tmp 2]
theorem ok_laws_FnExactIsFlow : FnOk Try.prog 3 27 c_laws_FnExactIsFlow r_laws_FnExactIsFlow := ⟨⟨Try.f3, _, Try.func3, by kernel_rfl, rfl, rfl, by kernel_rfl, by kernel_rfl⟩⟩
end Go.Proofs.Ytnkbjliidenldaa.Ab
