/- The compiled forms of functions, each checked against the translation. -/
import Derived.Test.YtiggehfopfpkbaaAb2
import Derived.Test.YtiggehfopfpkbaaProg
namespace Go.Proofs.Ytiggehfopfpkbaa.Ab
open Go Go.RowKit Go.Proofs
set_option maxRecDepth 100000
def c_laws_FnExactFirstShort : ACode := .seq (.reg [⟨(some 2), .box 24 (.tmp 0), none⟩,
  ⟨(some 4), .mv (.const (.bool false)), none⟩])
 (.seq (.seq (.reg [⟨(some 14), .mv (.tmp 1), none⟩,
  ⟨(some 15), .len (.tmp 14), none⟩,
  ⟨(some 16), .bin .gtr (.tmp 15) (.const (.int .i64 1048576)), none⟩])
 (.cond (.tmp 16) (.seq (.reg [⟨(some 4), .mv (.const (.bool true)), none⟩])
 (.ret)) (.skip)))
 (.seq (.reg [⟨(some 5), .mv (.const (.int .i64 1048576)), none⟩])
 (.seq (.reg [⟨(some 17), .ld (some 4) (.tmp 2), none⟩,
  ⟨(some 18), .mv (.tmp 5), none⟩,
  ⟨(some 19), .call (.func 20) [(.tmp 17), (.tmp 18)], none⟩,
  ⟨(some 5), .mv (.tmp 19), none⟩])
 (.seq (.seq (.reg [⟨(some 20), .mv (.tmp 5), none⟩,
  ⟨(some 21), .bin .lss (.tmp 20) (.const (.int .i64 0)), none⟩])
 (.cond (.tmp 21) (.seq (.reg [⟨(some 4), .mv (.const (.bool true)), none⟩])
 (.ret)) (.skip)))
 (.seq (.reg [⟨(some 23), .ld (some 4) (.tmp 2), none⟩,
  ⟨(some 24), .call (.func 22) [(.tmp 23)], none⟩,
  ⟨(some 25), .mv (.tmp 1), none⟩,
  ⟨(some 26), .call (.func 23) [(.tmp 25)], none⟩,
  ⟨(some 27), .call (.func 27) [(.tmp 24), (.tmp 26)], none⟩,
  ⟨(some 22), .mv (.tmp 27), none⟩,
  ⟨(some 28), .ext 0 (.tmp 22), none⟩,
  ⟨(some 29), .ext 1 (.tmp 22), none⟩,
  ⟨(some 30), .ext 2 (.tmp 22), none⟩,
  ⟨(some 6), .mv (.tmp 28), none⟩,
  ⟨(some 7), .mv (.tmp 29), none⟩,
  ⟨(some 8), .mv (.tmp 30), none⟩])
 (.seq (.reg [⟨(some 31), .ld (some 4) (.tmp 2), none⟩,
  ⟨(some 32), .call (.func 22) [(.tmp 31)], none⟩,
  ⟨(some 9), .alc 28 [(.slice none 0 0), (.slice none 0 0), (.slice none 0 0), (.slice none 0 0)], none⟩,
  ⟨none, .st 4 (.tmp 9) (.tmp 32), none⟩])
 (.seq (.reg [⟨(some 33), .mv (.tmp 1), none⟩,
  ⟨(some 34), .call (.func 23) [(.tmp 33)], none⟩,
  ⟨(some 10), .mv (.tmp 34), none⟩])
 (.seq (.reg [⟨(some 36), .ld (some 4) (.tmp 9), none⟩,
  ⟨(some 37), .mv (.tmp 10), none⟩,
  ⟨(some 38), .call (.func 28) [(.tmp 36), (.tmp 37)], none⟩,
  ⟨(some 35), .mv (.tmp 38), none⟩,
  ⟨(some 39), .ext 0 (.tmp 35), none⟩,
  ⟨(some 40), .ext 1 (.tmp 35), none⟩,
  ⟨(some 41), .ext 2 (.tmp 35), none⟩,
  ⟨(some 11), .mv (.tmp 39), none⟩,
  ⟨(some 12), .mv (.tmp 40), none⟩,
  ⟨(some 13), .mv (.tmp 41), none⟩])
 (.seq (.seq (.reg [⟨(some 42), .mv (.tmp 11), none⟩,
  ⟨(some 43), .mv (.tmp 6), none⟩,
  ⟨(some 44), .bin .neq (.tmp 42) (.tmp 43), none⟩,
  ⟨(some 45), .mv (.tmp 44), none⟩,
  ⟨(some 46), .mv (.tmp 12), (some (45, false))⟩,
  ⟨(some 47), .mv (.tmp 7), (some (45, false))⟩,
  ⟨(some 48), .bin .neq (.tmp 46) (.tmp 47), (some (45, false))⟩,
  ⟨(some 49), .pick (.tmp 45) (.const (.bool true)) (.tmp 48), none⟩,
  ⟨(some 50), .mv (.tmp 49), none⟩,
  ⟨(some 51), .mv (.tmp 13), (some (50, false))⟩,
  ⟨(some 52), .mv (.tmp 8), (some (50, false))⟩,
  ⟨(some 53), .beq true (.tmp 51) (.tmp 52), (some (50, false))⟩,
  ⟨(some 54), .pick (.tmp 50) (.const (.bool true)) (.tmp 53), none⟩])
 (.cond (.tmp 54) (.seq (.reg [⟨(some 4), .mv (.const (.bool false)), none⟩])
 (.ret)) (.skip)))
 (.seq (.seq (.reg [⟨(some 55), .ld (some 4) (.tmp 9), none⟩,
  ⟨(some 56), .ld (some 4) (.tmp 2), none⟩,
  ⟨(some 57), .rcall (.func 22) [(.tmp 56)], none⟩,
  ⟨(some 58), .rcall (.func 25) [(.tmp 55), (.tmp 57)], none⟩,
  ⟨(some 59), .un .not (.tmp 58), none⟩])
 (.cond (.tmp 59) (.seq (.reg [⟨(some 4), .mv (.const (.bool false)), none⟩])
 (.ret)) (.skip)))
 (.seq (.seq (.reg [⟨(some 60), .mv (.tmp 10), none⟩,
  ⟨(some 61), .mv (.tmp 1), none⟩,
  ⟨(some 62), .call (.func 23) [(.tmp 61)], none⟩,
  ⟨(some 63), .call (.func 26) [(.tmp 60), (.tmp 62)], none⟩,
  ⟨(some 64), .un .not (.tmp 63), none⟩])
 (.cond (.tmp 64) (.seq (.reg [⟨(some 4), .mv (.const (.bool false)), none⟩])
 (.ret)) (.skip)))
 (.seq (.reg [⟨(some 4), .mv (.const (.bool true)), none⟩])
 (.ret)))))))))))))
def r_laws_FnExactFirstShort : List ARes := [.tmp 4]
theorem ok_laws_FnExactFirstShort : FnOk Try.prog 4 65 c_laws_FnExactFirstShort r_laws_FnExactFirstShort := ⟨⟨Try.f4, _, Try.func4, by kernel_rfl, rfl, rfl, by kernel_rfl, by kernel_rfl⟩⟩
end Go.Proofs.Ytiggehfopfpkbaa.Ab
