/- The compiled forms of functions, each checked against the translation. -/
import Derived.Test.YtnkbjliidenldaaAb2
import Derived.Test.YtnkbjliidenldaaProg
namespace Go.Proofs.Ytnkbjliidenldaa.Ab
open Go Go.RowKit Go.Proofs
set_option maxRecDepth 100000
def c_laws_FnExactDayOf : ACode := .seq (.reg [⟨(some 3), .box 24 (.tmp 0), none⟩,
  ⟨(some 6), .mv (.const (.bool false)), none⟩])
 (.seq (.reg [⟨(some 7), .mv (.const (.int .i64 1048576)), none⟩])
 (.seq (.reg [⟨(some 18), .ld (some 2) (.tmp 3), none⟩,
  ⟨(some 19), .mv (.tmp 7), none⟩,
  ⟨(some 20), .call (.func 18) [(.tmp 18), (.tmp 19)], none⟩,
  ⟨(some 7), .mv (.tmp 20), none⟩])
 (.seq (.seq (.reg [⟨(some 21), .mv (.tmp 7), none⟩,
  ⟨(some 22), .bin .lss (.tmp 21) (.const (.int .i64 0)), none⟩])
 (.cond (.tmp 22) (.seq (.reg [⟨(some 6), .mv (.const (.bool true)), none⟩])
 (.ret)) (.skip)))
 (.seq (.reg [⟨(some 24), .ld (some 2) (.tmp 3), none⟩,
  ⟨(some 25), .call (.func 20) [(.tmp 24)], none⟩,
  ⟨(some 26), .mv (.tmp 1), none⟩,
  ⟨(some 27), .mv (.tmp 2), none⟩,
  ⟨(some 28), .call (.func 25) [(.tmp 25), (.tmp 26), (.tmp 27)], none⟩,
  ⟨(some 23), .mv (.tmp 28), none⟩,
  ⟨(some 29), .ext 0 (.tmp 23), none⟩,
  ⟨(some 30), .ext 1 (.tmp 23), none⟩,
  ⟨(some 8), .alc 27 [(.int .i64 0), (.slice none 0 0)], none⟩,
  ⟨none, .st 2 (.tmp 8) (.tmp 29), none⟩,
  ⟨(some 9), .mv (.tmp 30), none⟩])
 (.seq (.reg [⟨(some 31), .ld (some 2) (.tmp 3), none⟩,
  ⟨(some 32), .call (.func 20) [(.tmp 31)], none⟩,
  ⟨(some 10), .alc 27 [(.int .i64 0), (.slice none 0 0)], none⟩,
  ⟨none, .st 2 (.tmp 10) (.tmp 32), none⟩])
 (.seq (.reg [⟨(some 34), .ld (some 2) (.tmp 10), none⟩,
  ⟨(some 35), .mv (.tmp 1), none⟩,
  ⟨(some 36), .mv (.tmp 2), none⟩,
  ⟨(some 37), .call (.func 26) [(.tmp 34), (.tmp 35), (.tmp 36)], none⟩,
  ⟨(some 33), .mv (.tmp 37), none⟩,
  ⟨(some 38), .ext 0 (.tmp 33), none⟩,
  ⟨(some 39), .ext 1 (.tmp 33), none⟩,
  ⟨(some 11), .alc 27 [(.int .i64 0), (.slice none 0 0)], none⟩,
  ⟨none, .st 2 (.tmp 11) (.tmp 38), none⟩,
  ⟨(some 12), .mv (.tmp 39), none⟩])
 (.seq (.seq (.reg [⟨(some 40), .ld (some 2) (.tmp 11), none⟩,
  ⟨(some 41), .ld (some 2) (.tmp 8), none⟩,
  ⟨(some 42), .call (.func 22) [(.tmp 40), (.tmp 41)], none⟩,
  ⟨(some 43), .un .not (.tmp 42), none⟩,
  ⟨(some 44), .mv (.tmp 43), none⟩,
  ⟨(some 45), .mv (.tmp 12), (some (44, false))⟩,
  ⟨(some 46), .mv (.tmp 9), (some (44, false))⟩,
  ⟨(some 47), .beq true (.tmp 45) (.tmp 46), (some (44, false))⟩,
  ⟨(some 48), .pick (.tmp 44) (.const (.bool true)) (.tmp 47), none⟩])
 (.cond (.tmp 48) (.seq (.reg [⟨(some 6), .mv (.const (.bool false)), none⟩])
 (.ret)) (.skip)))
 (.seq (.seq (.reg [⟨(some 49), .ld (some 2) (.tmp 10), none⟩,
  ⟨(some 50), .ld (some 2) (.tmp 3), none⟩,
  ⟨(some 51), .rcall (.func 20) [(.tmp 50)], none⟩,
  ⟨(some 52), .rcall (.func 22) [(.tmp 49), (.tmp 51)], none⟩,
  ⟨(some 53), .un .not (.tmp 52), none⟩])
 (.cond (.tmp 53) (.seq (.reg [⟨(some 6), .mv (.const (.bool false)), none⟩])
 (.ret)) (.skip)))
 (.seq (.reg [⟨(some 13), .mv (.const (.int .i64 1)), none⟩])
 (.seq (.reg [⟨(some 54), .ld (some 2) (.tmp 10), none⟩,
  ⟨(some 55), .mv (.tmp 13), none⟩,
  ⟨(some 56), .call (.func 27) [(.tmp 54), (.tmp 55)], none⟩,
  ⟨(some 13), .mv (.tmp 56), none⟩])
 (.seq (.seq (.reg [⟨(some 57), .mv (.tmp 13), none⟩,
  ⟨(some 58), .bin .lss (.tmp 57) (.const (.int .i64 0)), none⟩,
  ⟨(some 59), .mv (.tmp 58), none⟩,
  ⟨(some 60), .ld (some 2) (.tmp 11), (some (59, false))⟩,
  ⟨(some 61), .ld (some 2) (.tmp 8), (some (59, false))⟩,
  ⟨(some 62), .call (.func 22) [(.tmp 60), (.tmp 61)], (some (59, false))⟩,
  ⟨(some 63), .un .not (.tmp 62), (some (59, false))⟩,
  ⟨(some 64), .pick (.tmp 59) (.const (.bool true)) (.tmp 63), none⟩,
  ⟨(some 65), .mv (.tmp 64), none⟩,
  ⟨(some 66), .mv (.tmp 12), (some (65, false))⟩,
  ⟨(some 67), .mv (.tmp 9), (some (65, false))⟩,
  ⟨(some 68), .beq true (.tmp 66) (.tmp 67), (some (65, false))⟩,
  ⟨(some 69), .pick (.tmp 65) (.const (.bool true)) (.tmp 68), none⟩])
 (.cond (.tmp 69) (.seq (.reg [⟨(some 6), .mv (.const (.bool false)), none⟩])
 (.ret)) (.skip)))
 (.seq (.reg [⟨(some 14), .mv (.const (.int .i64 1)), none⟩])
 (.seq (.reg [⟨(some 70), .ld (some 2) (.tmp 11), none⟩,
  ⟨(some 71), .mv (.tmp 14), none⟩,
  ⟨(some 72), .call (.func 27) [(.tmp 70), (.tmp 71)], none⟩,
  ⟨(some 14), .mv (.tmp 72), none⟩])
 (.seq (.reg [⟨(some 15), .mv (.const (.int .i64 1)), none⟩])
 (.seq (.reg [⟨(some 73), .ld (some 2) (.tmp 11), none⟩,
  ⟨(some 74), .mv (.tmp 15), none⟩,
  ⟨(some 75), .call (.func 28) [(.tmp 73), (.tmp 74)], none⟩,
  ⟨(some 15), .mv (.tmp 75), none⟩])
 (.seq (.seq (.reg [⟨(some 76), .mv (.tmp 15), none⟩,
  ⟨(some 77), .bin .lss (.tmp 76) (.const (.int .i64 0)), none⟩])
 (.cond (.tmp 77) (.seq (.reg [⟨(some 6), .mv (.const (.bool false)), none⟩])
 (.ret)) (.skip)))
 (.seq (.seq (.reg [⟨(some 78), .mv (.tmp 15), none⟩,
  ⟨(some 79), .mv (.tmp 14), none⟩,
  ⟨(some 80), .bin .neq (.tmp 78) (.tmp 79), none⟩])
 (.cond (.tmp 80) (.seq (.reg [⟨(some 6), .mv (.const (.bool false)), none⟩])
 (.ret)) (.skip)))
 (.seq (.reg [⟨(some 82), .ld (some 2) (.tmp 3), none⟩,
  ⟨(some 83), .call (.func 20) [(.tmp 82)], none⟩,
  ⟨(some 84), .mv (.tmp 1), none⟩,
  ⟨(some 85), .mv (.tmp 2), none⟩,
  ⟨(some 86), .call (.func 26) [(.tmp 83), (.tmp 84), (.tmp 85)], none⟩,
  ⟨(some 81), .mv (.tmp 86), none⟩,
  ⟨(some 87), .ext 0 (.tmp 81), none⟩,
  ⟨(some 88), .ext 1 (.tmp 81), none⟩,
  ⟨(some 16), .alc 27 [(.int .i64 0), (.slice none 0 0)], none⟩,
  ⟨none, .st 2 (.tmp 16) (.tmp 87), none⟩,
  ⟨(some 17), .mv (.tmp 88), none⟩])
 (.seq (.seq (.reg [⟨(some 89), .ld (some 2) (.tmp 16), none⟩,
  ⟨(some 90), .ld (some 2) (.tmp 8), none⟩,
  ⟨(some 91), .call (.func 22) [(.tmp 89), (.tmp 90)], none⟩,
  ⟨(some 92), .un .not (.tmp 91), none⟩,
  ⟨(some 93), .mv (.tmp 92), none⟩,
  ⟨(some 94), .mv (.tmp 17), (some (93, false))⟩,
  ⟨(some 95), .mv (.tmp 9), (some (93, false))⟩,
  ⟨(some 96), .beq true (.tmp 94) (.tmp 95), (some (93, false))⟩,
  ⟨(some 97), .pick (.tmp 93) (.const (.bool true)) (.tmp 96), none⟩])
 (.cond (.tmp 97) (.seq (.reg [⟨(some 6), .mv (.const (.bool false)), none⟩])
 (.ret)) (.skip)))
 (.seq (.reg [⟨(some 15), .mv (.const (.int .i64 1)), none⟩])
 (.seq (.reg [⟨(some 98), .ld (some 2) (.tmp 11), none⟩,
  ⟨(some 99), .mv (.tmp 15), none⟩,
  ⟨(some 100), .call (.func 28) [(.tmp 98), (.tmp 99)], none⟩,
  ⟨(some 15), .mv (.tmp 100), none⟩])
 (.seq (.seq (.reg [⟨(some 101), .mv (.tmp 15), none⟩,
  ⟨(some 102), .bin .lss (.tmp 101) (.const (.int .i64 0)), none⟩])
 (.cond (.tmp 102) (.seq (.reg [⟨(some 6), .mv (.const (.bool false)), none⟩])
 (.ret)) (.skip)))
 (.seq (.seq (.reg [⟨(some 103), .mv (.tmp 15), none⟩,
  ⟨(some 104), .mv (.tmp 14), none⟩,
  ⟨(some 105), .bin .neq (.tmp 103) (.tmp 104), none⟩])
 (.cond (.tmp 105) (.seq (.reg [⟨(some 6), .mv (.const (.bool false)), none⟩])
 (.ret)) (.skip)))
 (.seq (.reg [⟨(some 6), .mv (.const (.bool true)), none⟩])
 (.ret)))))))))))))))))))))))))
def r_laws_FnExactDayOf : List ARes := [.tmp 6]
theorem ok_laws_FnExactDayOf : FnOk Try.prog 5 106 c_laws_FnExactDayOf r_laws_FnExactDayOf := ⟨⟨Try.f5, _, Try.func5, by kernel_rfl, rfl, rfl, by kernel_rfl, by kernel_rfl⟩⟩
end Go.Proofs.Ytnkbjliidenldaa.Ab
