/- The compiled forms of functions, each checked against the translation. -/
import Derived.Test.YtihjcjhnkpkomaaAb2
import Derived.Test.YtihjcjhnkpkomaaProg
namespace Go.Proofs.Ytihjcjhnkpkomaa.Ab
open Go Go.RowKit Go.Proofs
set_option maxRecDepth 100000
def c_laws_FnExactWastedUnits : ACode := .seq (.reg [⟨(some 2), .box 24 (.tmp 0), none⟩,
  ⟨(some 4), .mv (.const (.bool false)), none⟩])
 (.seq (.reg [⟨(some 5), .mv (.const (.int .i64 1048576)), none⟩])
 (.seq (.reg [⟨(some 17), .ld (some 5) (.tmp 2), none⟩,
  ⟨(some 18), .mv (.tmp 5), none⟩,
  ⟨(some 19), .call (.func 16) [(.tmp 17), (.tmp 18)], none⟩,
  ⟨(some 5), .mv (.tmp 19), none⟩])
 (.seq (.seq (.reg [⟨(some 20), .mv (.tmp 5), none⟩,
  ⟨(some 21), .bin .lss (.tmp 20) (.const (.int .i64 0)), none⟩])
 (.cond (.tmp 21) (.seq (.reg [⟨(some 4), .mv (.const (.bool true)), none⟩])
 (.ret)) (.skip)))
 (.seq (.reg [⟨(some 22), .mv (.tmp 1), none⟩,
  ⟨(some 23), .mv (.tmp 5), none⟩,
  ⟨(some 24), .call (.func 21) [(.tmp 22), (.tmp 23)], none⟩,
  ⟨(some 5), .mv (.tmp 24), none⟩])
 (.seq (.seq (.reg [⟨(some 25), .mv (.tmp 5), none⟩,
  ⟨(some 26), .bin .lss (.tmp 25) (.const (.int .i64 0)), none⟩])
 (.cond (.tmp 26) (.seq (.reg [⟨(some 4), .mv (.const (.bool true)), none⟩])
 (.ret)) (.skip)))
 (.seq (.reg [⟨(some 28), .ld (some 5) (.tmp 2), none⟩,
  ⟨(some 29), .call (.func 18) [(.tmp 28)], none⟩,
  ⟨(some 30), .mv (.tmp 1), none⟩,
  ⟨(some 31), .call (.func 23) [(.tmp 30)], none⟩,
  ⟨(some 32), .call (.func 38) [(.tmp 29), (.tmp 31)], none⟩,
  ⟨(some 27), .mv (.tmp 32), none⟩,
  ⟨(some 33), .ext 0 (.tmp 27), none⟩,
  ⟨(some 34), .ext 1 (.tmp 27), none⟩,
  ⟨(some 6), .mv (.tmp 33), none⟩,
  ⟨(some 7), .mv (.tmp 34), none⟩])
 (.seq (.reg [⟨(some 35), .ld (some 5) (.tmp 2), none⟩,
  ⟨(some 36), .call (.func 18) [(.tmp 35)], none⟩,
  ⟨(some 8), .alc 27 [(.int .i64 0), (.slice none 0 0), (.slice none 0 0), (.int .i64 0), (.int .i64 0)], none⟩,
  ⟨none, .st 5 (.tmp 8) (.tmp 36), none⟩])
 (.seq (.reg [⟨(some 37), .mv (.tmp 1), none⟩,
  ⟨(some 38), .call (.func 23) [(.tmp 37)], none⟩,
  ⟨(some 9), .mv (.tmp 38), none⟩])
 (.seq (.reg [⟨(some 40), .ld (some 5) (.tmp 8), none⟩,
  ⟨(some 41), .mv (.tmp 9), none⟩,
  ⟨(some 42), .call (.func 39) [(.tmp 40), (.tmp 41)], none⟩,
  ⟨(some 39), .mv (.tmp 42), none⟩,
  ⟨(some 43), .ext 0 (.tmp 39), none⟩,
  ⟨(some 44), .ext 1 (.tmp 39), none⟩,
  ⟨(some 10), .mv (.tmp 43), none⟩,
  ⟨(some 11), .mv (.tmp 44), none⟩])
 (.seq (.seq (.reg [⟨(some 45), .mv (.tmp 10), none⟩,
  ⟨(some 46), .mv (.tmp 6), none⟩,
  ⟨(some 47), .call (.func 35) [(.tmp 45), (.tmp 46)], none⟩,
  ⟨(some 48), .un .not (.tmp 47), none⟩,
  ⟨(some 49), .mv (.tmp 48), none⟩,
  ⟨(some 50), .mv (.tmp 11), (some (49, false))⟩,
  ⟨(some 51), .mv (.tmp 7), (some (49, false))⟩,
  ⟨(some 52), .beq true (.tmp 50) (.tmp 51), (some (49, false))⟩,
  ⟨(some 53), .pick (.tmp 49) (.const (.bool true)) (.tmp 52), none⟩])
 (.cond (.tmp 53) (.seq (.reg [⟨(some 4), .mv (.const (.bool false)), none⟩])
 (.ret)) (.skip)))
 (.seq (.seq (.reg [⟨(some 54), .ld (some 5) (.tmp 8), none⟩,
  ⟨(some 55), .ld (some 5) (.tmp 2), none⟩,
  ⟨(some 56), .rcall (.func 18) [(.tmp 55)], none⟩,
  ⟨(some 57), .rcall (.func 20) [(.tmp 54), (.tmp 56)], none⟩,
  ⟨(some 58), .un .not (.tmp 57), none⟩])
 (.cond (.tmp 58) (.seq (.reg [⟨(some 4), .mv (.const (.bool false)), none⟩])
 (.ret)) (.skip)))
 (.seq (.seq (.reg [⟨(some 59), .mv (.tmp 9), none⟩,
  ⟨(some 60), .mv (.tmp 1), none⟩,
  ⟨(some 61), .call (.func 23) [(.tmp 60)], none⟩,
  ⟨(some 62), .call (.func 25) [(.tmp 59), (.tmp 61)], none⟩,
  ⟨(some 63), .un .not (.tmp 62), none⟩])
 (.cond (.tmp 63) (.seq (.reg [⟨(some 4), .mv (.const (.bool false)), none⟩])
 (.ret)) (.skip)))
 (.seq (.reg [⟨(some 12), .mv (.const (.int .i64 1)), none⟩])
 (.seq (.reg [⟨(some 64), .ld (some 5) (.tmp 8), none⟩,
  ⟨(some 65), .mv (.tmp 12), none⟩,
  ⟨(some 66), .call (.func 28) [(.tmp 64), (.tmp 65)], none⟩,
  ⟨(some 12), .mv (.tmp 66), none⟩])
 (.seq (.reg [⟨(some 67), .mv (.tmp 9), none⟩,
  ⟨(some 68), .mv (.tmp 12), none⟩,
  ⟨(some 69), .call (.func 29) [(.tmp 67), (.tmp 68)], none⟩,
  ⟨(some 12), .mv (.tmp 69), none⟩])
 (.seq (.seq (.reg [⟨(some 70), .mv (.tmp 12), none⟩,
  ⟨(some 71), .bin .lss (.tmp 70) (.const (.int .i64 0)), none⟩,
  ⟨(some 72), .mv (.tmp 71), none⟩,
  ⟨(some 73), .mv (.tmp 10), (some (72, false))⟩,
  ⟨(some 74), .mv (.tmp 6), (some (72, false))⟩,
  ⟨(some 75), .call (.func 35) [(.tmp 73), (.tmp 74)], (some (72, false))⟩,
  ⟨(some 76), .un .not (.tmp 75), (some (72, false))⟩,
  ⟨(some 77), .pick (.tmp 72) (.const (.bool true)) (.tmp 76), none⟩,
  ⟨(some 78), .mv (.tmp 77), none⟩,
  ⟨(some 79), .mv (.tmp 11), (some (78, false))⟩,
  ⟨(some 80), .mv (.tmp 7), (some (78, false))⟩,
  ⟨(some 81), .beq true (.tmp 79) (.tmp 80), (some (78, false))⟩,
  ⟨(some 82), .pick (.tmp 78) (.const (.bool true)) (.tmp 81), none⟩])
 (.cond (.tmp 82) (.seq (.reg [⟨(some 4), .mv (.const (.bool false)), none⟩])
 (.ret)) (.skip)))
 (.seq (.reg [⟨(some 13), .mv (.const (.int .i64 1)), none⟩])
 (.seq (.reg [⟨(some 83), .mv (.tmp 10), none⟩,
  ⟨(some 84), .mv (.tmp 13), none⟩,
  ⟨(some 85), .call (.func 36) [(.tmp 83), (.tmp 84)], none⟩,
  ⟨(some 13), .mv (.tmp 85), none⟩])
 (.seq (.reg [⟨(some 14), .mv (.const (.int .i64 1)), none⟩])
 (.seq (.reg [⟨(some 86), .mv (.tmp 10), none⟩,
  ⟨(some 87), .mv (.tmp 14), none⟩,
  ⟨(some 88), .call (.func 37) [(.tmp 86), (.tmp 87)], none⟩,
  ⟨(some 14), .mv (.tmp 88), none⟩])
 (.seq (.seq (.reg [⟨(some 89), .mv (.tmp 14), none⟩,
  ⟨(some 90), .bin .lss (.tmp 89) (.const (.int .i64 0)), none⟩])
 (.cond (.tmp 90) (.seq (.reg [⟨(some 4), .mv (.const (.bool false)), none⟩])
 (.ret)) (.skip)))
 (.seq (.seq (.reg [⟨(some 91), .mv (.tmp 14), none⟩,
  ⟨(some 92), .mv (.tmp 13), none⟩,
  ⟨(some 93), .bin .neq (.tmp 91) (.tmp 92), none⟩])
 (.cond (.tmp 93) (.seq (.reg [⟨(some 4), .mv (.const (.bool false)), none⟩])
 (.ret)) (.skip)))
 (.seq (.reg [⟨(some 95), .ld (some 5) (.tmp 2), none⟩,
  ⟨(some 96), .call (.func 18) [(.tmp 95)], none⟩,
  ⟨(some 97), .mv (.tmp 1), none⟩,
  ⟨(some 98), .call (.func 23) [(.tmp 97)], none⟩,
  ⟨(some 99), .call (.func 39) [(.tmp 96), (.tmp 98)], none⟩,
  ⟨(some 94), .mv (.tmp 99), none⟩,
  ⟨(some 100), .ext 0 (.tmp 94), none⟩,
  ⟨(some 101), .ext 1 (.tmp 94), none⟩,
  ⟨(some 15), .mv (.tmp 100), none⟩,
  ⟨(some 16), .mv (.tmp 101), none⟩])
 (.seq (.seq (.reg [⟨(some 102), .mv (.tmp 15), none⟩,
  ⟨(some 103), .mv (.tmp 6), none⟩,
  ⟨(some 104), .call (.func 35) [(.tmp 102), (.tmp 103)], none⟩,
  ⟨(some 105), .un .not (.tmp 104), none⟩,
  ⟨(some 106), .mv (.tmp 105), none⟩,
  ⟨(some 107), .mv (.tmp 16), (some (106, false))⟩,
  ⟨(some 108), .mv (.tmp 7), (some (106, false))⟩,
  ⟨(some 109), .beq true (.tmp 107) (.tmp 108), (some (106, false))⟩,
  ⟨(some 110), .pick (.tmp 106) (.const (.bool true)) (.tmp 109), none⟩])
 (.cond (.tmp 110) (.seq (.reg [⟨(some 4), .mv (.const (.bool false)), none⟩])
 (.ret)) (.skip)))
 (.seq (.reg [⟨(some 14), .mv (.const (.int .i64 1)), none⟩])
 (.seq (.reg [⟨(some 111), .mv (.tmp 10), none⟩,
  ⟨(some 112), .mv (.tmp 14), none⟩,
  ⟨(some 113), .call (.func 37) [(.tmp 111), (.tmp 112)], none⟩,
  ⟨(some 14), .mv (.tmp 113), none⟩])
 (.seq (.seq (.reg [⟨(some 114), .mv (.tmp 14), none⟩,
  ⟨(some 115), .bin .lss (.tmp 114) (.const (.int .i64 0)), none⟩])
 (.cond (.tmp 115) (.seq (.reg [⟨(some 4), .mv (.const (.bool false)), none⟩])
 (.ret)) (.skip)))
 (.seq (.seq (.reg [⟨(some 116), .mv (.tmp 14), none⟩,
  ⟨(some 117), .mv (.tmp 13), none⟩,
  ⟨(some 118), .bin .neq (.tmp 116) (.tmp 117), none⟩])
 (.cond (.tmp 118) (.seq (.reg [⟨(some 4), .mv (.const (.bool false)), none⟩])
 (.ret)) (.skip)))
 (.seq (.reg [⟨(some 4), .mv (.const (.bool true)), none⟩])
 (.ret))))))))))))))))))))))))))))))
def r_laws_FnExactWastedUnits : List ARes := [.tmp 4]
theorem ok_laws_FnExactWastedUnits : FnOk Try.prog 8 119 c_laws_FnExactWastedUnits r_laws_FnExactWastedUnits := ⟨⟨Try.f8, _, Try.func8, by kernel_rfl, rfl, rfl, by kernel_rfl, by kernel_rfl⟩⟩
end Go.Proofs.Ytihjcjhnkpkomaa.Ab
