/- The compiled forms of functions, each checked against the translation. -/
import Derived.Test.YtnkbjliidenldaaAb2
import Derived.Test.YtnkbjliidenldaaProg
namespace Go.Proofs.Ytnkbjliidenldaa.Ab
open Go Go.RowKit Go.Proofs
set_option maxRecDepth 100000
def c_laws_FnExactServiceOf : ACode := .seq (.reg [⟨(some 3), .box 24 (.tmp 0), none⟩,
  ⟨(some 4), .box 38 (.tmp 1), none⟩,
  ⟨(some 6), .mv (.const (.bool false)), none⟩])
 (.seq (.seq (.reg [⟨(some 16), .mv (.tmp 2), none⟩,
  ⟨(some 17), .len (.tmp 16), none⟩,
  ⟨(some 18), .bin .gtr (.tmp 17) (.const (.int .i64 1048576)), none⟩])
 (.cond (.tmp 18) (.seq (.reg [⟨(some 6), .mv (.const (.bool true)), none⟩])
 (.ret)) (.skip)))
 (.seq (.reg [⟨(some 7), .mv (.const (.int .i64 1048576)), none⟩])
 (.seq (.reg [⟨(some 19), .ld (some 2) (.tmp 3), none⟩,
  ⟨(some 20), .mv (.tmp 7), none⟩,
  ⟨(some 21), .call (.func 18) [(.tmp 19), (.tmp 20)], none⟩,
  ⟨(some 7), .mv (.tmp 21), none⟩])
 (.seq (.seq (.reg [⟨(some 22), .mv (.tmp 7), none⟩,
  ⟨(some 23), .bin .lss (.tmp 22) (.const (.int .i64 0)), none⟩])
 (.cond (.tmp 23) (.seq (.reg [⟨(some 6), .mv (.const (.bool true)), none⟩])
 (.ret)) (.skip)))
 (.seq (.reg [⟨(some 25), .ld (some 2) (.tmp 3), none⟩,
  ⟨(some 27), .ld (some 3) (.tmp 4), none⟩,
  ⟨(some 29), .mv (.tmp 2), none⟩,
  ⟨(some 26), .rcall (.func 20) [(.tmp 25)], none⟩,
  ⟨(some 28), .rcall (.func 30) [(.tmp 27)], none⟩,
  ⟨(some 30), .rcall (.func 35) [(.tmp 29)], none⟩,
  ⟨(some 31), .rcall (.func 42) [(.tmp 26), (.tmp 28), (.tmp 30)], none⟩,
  ⟨(some 24), .mv (.tmp 31), none⟩,
  ⟨(some 32), .ext 0 (.tmp 24), none⟩,
  ⟨(some 33), .ext 1 (.tmp 24), none⟩,
  ⟨(some 34), .ext 2 (.tmp 24), none⟩,
  ⟨(some 8), .mv (.tmp 32), none⟩,
  ⟨(some 9), .mv (.tmp 33), none⟩,
  ⟨(some 10), .mv (.tmp 34), none⟩])
 (.seq (.reg [⟨(some 35), .ld (some 2) (.tmp 3), none⟩,
  ⟨(some 36), .call (.func 20) [(.tmp 35)], none⟩,
  ⟨(some 11), .alc 27 [(.int .i64 0), (.slice none 0 0)], none⟩,
  ⟨none, .st 2 (.tmp 11) (.tmp 36), none⟩])
 (.seq (.reg [⟨(some 37), .mv (.tmp 2), none⟩,
  ⟨(some 38), .call (.func 35) [(.tmp 37)], none⟩,
  ⟨(some 12), .mv (.tmp 38), none⟩])
 (.seq (.reg [⟨(some 40), .ld (some 2) (.tmp 11), none⟩,
  ⟨(some 41), .ld (some 3) (.tmp 4), none⟩,
  ⟨(some 43), .mv (.tmp 12), none⟩,
  ⟨(some 42), .rcall (.func 30) [(.tmp 41)], none⟩,
  ⟨(some 44), .rcall (.func 43) [(.tmp 40), (.tmp 42), (.tmp 43)], none⟩,
  ⟨(some 39), .mv (.tmp 44), none⟩,
  ⟨(some 45), .ext 0 (.tmp 39), none⟩,
  ⟨(some 46), .ext 1 (.tmp 39), none⟩,
  ⟨(some 47), .ext 2 (.tmp 39), none⟩,
  ⟨(some 13), .mv (.tmp 45), none⟩,
  ⟨(some 14), .mv (.tmp 46), none⟩,
  ⟨(some 15), .mv (.tmp 47), none⟩])
 (.seq (.seq (.reg [⟨(some 48), .mv (.tmp 13), none⟩,
  ⟨(some 49), .mv (.tmp 8), none⟩,
  ⟨(some 50), .bin .neq (.tmp 48) (.tmp 49), none⟩,
  ⟨(some 51), .mv (.tmp 50), none⟩,
  ⟨(some 52), .mv (.tmp 14), (some (51, false))⟩,
  ⟨(some 53), .mv (.tmp 9), (some (51, false))⟩,
  ⟨(some 54), .bin .neq (.tmp 52) (.tmp 53), (some (51, false))⟩,
  ⟨(some 55), .pick (.tmp 51) (.const (.bool true)) (.tmp 54), none⟩,
  ⟨(some 56), .mv (.tmp 55), none⟩,
  ⟨(some 57), .mv (.tmp 15), (some (56, false))⟩,
  ⟨(some 58), .mv (.tmp 10), (some (56, false))⟩,
  ⟨(some 59), .beq true (.tmp 57) (.tmp 58), (some (56, false))⟩,
  ⟨(some 60), .pick (.tmp 56) (.const (.bool true)) (.tmp 59), none⟩])
 (.cond (.tmp 60) (.seq (.reg [⟨(some 6), .mv (.const (.bool false)), none⟩])
 (.ret)) (.skip)))
 (.seq (.seq (.reg [⟨(some 61), .ld (some 2) (.tmp 11), none⟩,
  ⟨(some 62), .ld (some 2) (.tmp 3), none⟩,
  ⟨(some 63), .rcall (.func 20) [(.tmp 62)], none⟩,
  ⟨(some 64), .rcall (.func 22) [(.tmp 61), (.tmp 63)], none⟩,
  ⟨(some 65), .un .not (.tmp 64), none⟩])
 (.cond (.tmp 65) (.seq (.reg [⟨(some 6), .mv (.const (.bool false)), none⟩])
 (.ret)) (.skip)))
 (.seq (.seq (.reg [⟨(some 66), .mv (.tmp 12), none⟩,
  ⟨(some 67), .mv (.tmp 2), none⟩,
  ⟨(some 68), .call (.func 35) [(.tmp 67)], none⟩,
  ⟨(some 69), .call (.func 37) [(.tmp 66), (.tmp 68)], none⟩,
  ⟨(some 70), .un .not (.tmp 69), none⟩])
 (.cond (.tmp 70) (.seq (.reg [⟨(some 6), .mv (.const (.bool false)), none⟩])
 (.ret)) (.skip)))
 (.seq (.reg [⟨(some 6), .mv (.const (.bool true)), none⟩])
 (.ret)))))))))))))
def r_laws_FnExactServiceOf : List ARes := [.tmp 6]
theorem ok_laws_FnExactServiceOf : FnOk Try.prog 10 71 c_laws_FnExactServiceOf r_laws_FnExactServiceOf := ⟨⟨Try.f10, _, Try.func10, by kernel_rfl, rfl, rfl, by kernel_rfl, by kernel_rfl⟩⟩
end Go.Proofs.Ytnkbjliidenldaa.Ab
