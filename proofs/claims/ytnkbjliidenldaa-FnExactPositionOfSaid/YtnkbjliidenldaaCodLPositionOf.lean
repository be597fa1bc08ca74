/- The compiled forms of functions, each checked against the translation. -/
import Derived.Test.YtnkbjliidenldaaAb2
import Derived.Test.YtnkbjliidenldaaProg
namespace Go.Proofs.Ytnkbjliidenldaa.Ab
open Go Go.RowKit Go.Proofs
set_option maxRecDepth 100000
def c_laws_FnExactPositionOf : ACode := .seq (.reg [⟨(some 1), .box 24 (.tmp 0), none⟩,
  ⟨(some 2), .mv (.const (.bool false)), none⟩])
 (.seq (.reg [⟨(some 3), .mv (.const (.int .i64 1048576)), none⟩])
 (.seq (.reg [⟨(some 9), .ld (some 2) (.tmp 1), none⟩,
  ⟨(some 10), .mv (.tmp 3), none⟩,
  ⟨(some 11), .call (.func 18) [(.tmp 9), (.tmp 10)], none⟩,
  ⟨(some 3), .mv (.tmp 11), none⟩])
 (.seq (.seq (.reg [⟨(some 12), .mv (.tmp 3), none⟩,
  ⟨(some 13), .bin .lss (.tmp 12) (.const (.int .i64 0)), none⟩])
 (.cond (.tmp 13) (.seq (.reg [⟨(some 2), .mv (.const (.bool true)), none⟩])
 (.ret)) (.skip)))
 (.seq (.reg [⟨(some 15), .ld (some 2) (.tmp 1), none⟩,
  ⟨(some 16), .call (.func 20) [(.tmp 15)], none⟩,
  ⟨(some 17), .call (.func 23) [(.tmp 16)], none⟩,
  ⟨(some 14), .mv (.tmp 17), none⟩,
  ⟨(some 18), .ext 0 (.tmp 14), none⟩,
  ⟨(some 19), .ext 1 (.tmp 14), none⟩,
  ⟨(some 4), .mv (.tmp 18), none⟩,
  ⟨(some 5), .mv (.tmp 19), none⟩])
 (.seq (.reg [⟨(some 20), .ld (some 2) (.tmp 1), none⟩,
  ⟨(some 21), .call (.func 20) [(.tmp 20)], none⟩,
  ⟨(some 6), .alc 27 [(.int .i64 0), (.slice none 0 0)], none⟩,
  ⟨none, .st 2 (.tmp 6) (.tmp 21), none⟩])
 (.seq (.reg [⟨(some 23), .ld (some 2) (.tmp 6), none⟩,
  ⟨(some 24), .call (.func 24) [(.tmp 23)], none⟩,
  ⟨(some 22), .mv (.tmp 24), none⟩,
  ⟨(some 25), .ext 0 (.tmp 22), none⟩,
  ⟨(some 26), .ext 1 (.tmp 22), none⟩,
  ⟨(some 7), .mv (.tmp 25), none⟩,
  ⟨(some 8), .mv (.tmp 26), none⟩])
 (.seq (.seq (.reg [⟨(some 27), .mv (.tmp 7), none⟩,
  ⟨(some 28), .mv (.tmp 4), none⟩,
  ⟨(some 29), .bin .neq (.tmp 27) (.tmp 28), none⟩,
  ⟨(some 30), .mv (.tmp 29), none⟩,
  ⟨(some 31), .mv (.tmp 8), (some (30, false))⟩,
  ⟨(some 32), .mv (.tmp 5), (some (30, false))⟩,
  ⟨(some 33), .beq true (.tmp 31) (.tmp 32), (some (30, false))⟩,
  ⟨(some 34), .pick (.tmp 30) (.const (.bool true)) (.tmp 33), none⟩])
 (.cond (.tmp 34) (.seq (.reg [⟨(some 2), .mv (.const (.bool false)), none⟩])
 (.ret)) (.skip)))
 (.seq (.seq (.reg [⟨(some 35), .ld (some 2) (.tmp 6), none⟩,
  ⟨(some 36), .ld (some 2) (.tmp 1), none⟩,
  ⟨(some 37), .rcall (.func 20) [(.tmp 36)], none⟩,
  ⟨(some 38), .rcall (.func 22) [(.tmp 35), (.tmp 37)], none⟩,
  ⟨(some 39), .un .not (.tmp 38), none⟩])
 (.cond (.tmp 39) (.seq (.reg [⟨(some 2), .mv (.const (.bool false)), none⟩])
 (.ret)) (.skip)))
 (.seq (.reg [⟨(some 2), .mv (.const (.bool true)), none⟩])
 (.ret))))))))))
def r_laws_FnExactPositionOf : List ARes := [.tmp 2]
theorem ok_laws_FnExactPositionOf : FnOk Try.prog 4 40 c_laws_FnExactPositionOf r_laws_FnExactPositionOf := ⟨⟨Try.f4, _, Try.func4, by kernel_rfl, rfl, rfl, by kernel_rfl, by kernel_rfl⟩⟩
end Go.Proofs.Ytnkbjliidenldaa.Ab
