/- The compiled forms of functions, each checked against the translation. -/
import Derived.Test.YtihjcjhnkpkomaaAb2
import Derived.Test.YtihjcjhnkpkomaaProg
namespace Go.Proofs.Ytihjcjhnkpkomaa.Ab
open Go Go.RowKit Go.Proofs
set_option maxRecDepth 100000
def c_laws_FnExactBestFresh : ACode := .seq (.reg [⟨(some 2), .box 54 (.tmp 0), none⟩,
  ⟨(some 4), .mv (.const (.bool false)), none⟩])
 (.seq (.reg [⟨(some 5), .mv (.const (.int .i64 1048576)), none⟩])
 (.seq (.reg [⟨(some 19), .ld (some 4) (.tmp 2), none⟩,
  ⟨(some 20), .mv (.tmp 5), none⟩,
  ⟨(some 21), .call (.func 49) [(.tmp 19), (.tmp 20)], none⟩,
  ⟨(some 5), .mv (.tmp 21), none⟩])
 (.seq (.seq (.reg [⟨(some 22), .mv (.tmp 5), none⟩,
  ⟨(some 23), .bin .lss (.tmp 22) (.const (.int .i64 0)), none⟩])
 (.cond (.tmp 23) (.seq (.reg [⟨(some 4), .mv (.const (.bool true)), none⟩])
 (.ret)) (.skip)))
 (.seq (.reg [⟨(some 25), .ld (some 4) (.tmp 2), none⟩,
  ⟨(some 26), .call (.func 51) [(.tmp 25)], none⟩,
  ⟨(some 27), .mv (.tmp 1), none⟩,
  ⟨(some 28), .call (.func 54) [(.tmp 26), (.tmp 27)], none⟩,
  ⟨(some 24), .mv (.tmp 28), none⟩,
  ⟨(some 29), .ext 0 (.tmp 24), none⟩,
  ⟨(some 30), .ext 1 (.tmp 24), none⟩,
  ⟨(some 31), .ext 2 (.tmp 24), none⟩,
  ⟨(some 6), .mv (.tmp 29), none⟩,
  ⟨(some 7), .mv (.tmp 30), none⟩,
  ⟨(some 8), .mv (.tmp 31), none⟩])
 (.seq (.reg [⟨(some 32), .ld (some 4) (.tmp 2), none⟩,
  ⟨(some 33), .call (.func 51) [(.tmp 32)], none⟩,
  ⟨(some 9), .alc 57 [(.slice none 0 0), (.slice none 0 0), (.slice none 0 0), (.slice none 0 0)], none⟩,
  ⟨none, .st 4 (.tmp 9) (.tmp 33), none⟩])
 (.seq (.reg [⟨(some 35), .ld (some 4) (.tmp 9), none⟩,
  ⟨(some 36), .mv (.tmp 1), none⟩,
  ⟨(some 37), .call (.func 55) [(.tmp 35), (.tmp 36)], none⟩,
  ⟨(some 34), .mv (.tmp 37), none⟩,
  ⟨(some 38), .ext 0 (.tmp 34), none⟩,
  ⟨(some 39), .ext 1 (.tmp 34), none⟩,
  ⟨(some 40), .ext 2 (.tmp 34), none⟩,
  ⟨(some 10), .mv (.tmp 38), none⟩,
  ⟨(some 11), .mv (.tmp 39), none⟩,
  ⟨(some 12), .mv (.tmp 40), none⟩])
 (.seq (.seq (.reg [⟨(some 41), .mv (.tmp 10), none⟩,
  ⟨(some 42), .mv (.tmp 6), none⟩,
  ⟨(some 43), .call (.func 35) [(.tmp 41), (.tmp 42)], none⟩,
  ⟨(some 44), .un .not (.tmp 43), none⟩,
  ⟨(some 45), .mv (.tmp 44), none⟩,
  ⟨(some 46), .mv (.tmp 11), (some (45, false))⟩,
  ⟨(some 47), .mv (.tmp 7), (some (45, false))⟩,
  ⟨(some 48), .bin .neq (.tmp 46) (.tmp 47), (some (45, false))⟩,
  ⟨(some 49), .pick (.tmp 45) (.const (.bool true)) (.tmp 48), none⟩,
  ⟨(some 50), .mv (.tmp 49), none⟩,
  ⟨(some 51), .mv (.tmp 12), (some (50, false))⟩,
  ⟨(some 52), .mv (.tmp 8), (some (50, false))⟩,
  ⟨(some 53), .beq true (.tmp 51) (.tmp 52), (some (50, false))⟩,
  ⟨(some 54), .pick (.tmp 50) (.const (.bool true)) (.tmp 53), none⟩])
 (.cond (.tmp 54) (.seq (.reg [⟨(some 4), .mv (.const (.bool false)), none⟩])
 (.ret)) (.skip)))
 (.seq (.seq (.reg [⟨(some 55), .ld (some 4) (.tmp 9), none⟩,
  ⟨(some 56), .ld (some 4) (.tmp 2), none⟩,
  ⟨(some 57), .rcall (.func 51) [(.tmp 56)], none⟩,
  ⟨(some 58), .rcall (.func 53) [(.tmp 55), (.tmp 57)], none⟩,
  ⟨(some 59), .un .not (.tmp 58), none⟩])
 (.cond (.tmp 59) (.seq (.reg [⟨(some 4), .mv (.const (.bool false)), none⟩])
 (.ret)) (.skip)))
 (.seq (.reg [⟨(some 13), .mv (.const (.int .i64 1)), none⟩])
 (.seq (.reg [⟨(some 60), .ld (some 4) (.tmp 9), none⟩,
  ⟨(some 61), .mv (.tmp 13), none⟩,
  ⟨(some 62), .call (.func 56) [(.tmp 60), (.tmp 61)], none⟩,
  ⟨(some 13), .mv (.tmp 62), none⟩])
 (.seq (.seq (.reg [⟨(some 63), .mv (.tmp 13), none⟩,
  ⟨(some 64), .bin .lss (.tmp 63) (.const (.int .i64 0)), none⟩,
  ⟨(some 65), .mv (.tmp 64), none⟩,
  ⟨(some 66), .mv (.tmp 10), (some (65, false))⟩,
  ⟨(some 67), .mv (.tmp 6), (some (65, false))⟩,
  ⟨(some 68), .call (.func 35) [(.tmp 66), (.tmp 67)], (some (65, false))⟩,
  ⟨(some 69), .un .not (.tmp 68), (some (65, false))⟩,
  ⟨(some 70), .pick (.tmp 65) (.const (.bool true)) (.tmp 69), none⟩,
  ⟨(some 71), .mv (.tmp 70), none⟩,
  ⟨(some 72), .mv (.tmp 11), (some (71, false))⟩,
  ⟨(some 73), .mv (.tmp 7), (some (71, false))⟩,
  ⟨(some 74), .bin .neq (.tmp 72) (.tmp 73), (some (71, false))⟩,
  ⟨(some 75), .pick (.tmp 71) (.const (.bool true)) (.tmp 74), none⟩,
  ⟨(some 76), .mv (.tmp 75), none⟩,
  ⟨(some 77), .mv (.tmp 12), (some (76, false))⟩,
  ⟨(some 78), .mv (.tmp 8), (some (76, false))⟩,
  ⟨(some 79), .beq true (.tmp 77) (.tmp 78), (some (76, false))⟩,
  ⟨(some 80), .pick (.tmp 76) (.const (.bool true)) (.tmp 79), none⟩])
 (.cond (.tmp 80) (.seq (.reg [⟨(some 4), .mv (.const (.bool false)), none⟩])
 (.ret)) (.skip)))
 (.seq (.reg [⟨(some 14), .mv (.const (.int .i64 1)), none⟩])
 (.seq (.reg [⟨(some 81), .mv (.tmp 10), none⟩,
  ⟨(some 82), .mv (.tmp 14), none⟩,
  ⟨(some 83), .call (.func 36) [(.tmp 81), (.tmp 82)], none⟩,
  ⟨(some 14), .mv (.tmp 83), none⟩])
 (.seq (.reg [⟨(some 15), .mv (.const (.int .i64 1)), none⟩])
 (.seq (.reg [⟨(some 84), .mv (.tmp 10), none⟩,
  ⟨(some 85), .mv (.tmp 15), none⟩,
  ⟨(some 86), .call (.func 37) [(.tmp 84), (.tmp 85)], none⟩,
  ⟨(some 15), .mv (.tmp 86), none⟩])
 (.seq (.seq (.reg [⟨(some 87), .mv (.tmp 15), none⟩,
  ⟨(some 88), .bin .lss (.tmp 87) (.const (.int .i64 0)), none⟩])
 (.cond (.tmp 88) (.seq (.reg [⟨(some 4), .mv (.const (.bool false)), none⟩])
 (.ret)) (.skip)))
 (.seq (.seq (.reg [⟨(some 89), .mv (.tmp 15), none⟩,
  ⟨(some 90), .mv (.tmp 14), none⟩,
  ⟨(some 91), .bin .neq (.tmp 89) (.tmp 90), none⟩])
 (.cond (.tmp 91) (.seq (.reg [⟨(some 4), .mv (.const (.bool false)), none⟩])
 (.ret)) (.skip)))
 (.seq (.reg [⟨(some 93), .ld (some 4) (.tmp 2), none⟩,
  ⟨(some 94), .call (.func 51) [(.tmp 93)], none⟩,
  ⟨(some 95), .mv (.tmp 1), none⟩,
  ⟨(some 96), .call (.func 55) [(.tmp 94), (.tmp 95)], none⟩,
  ⟨(some 92), .mv (.tmp 96), none⟩,
  ⟨(some 97), .ext 0 (.tmp 92), none⟩,
  ⟨(some 98), .ext 1 (.tmp 92), none⟩,
  ⟨(some 99), .ext 2 (.tmp 92), none⟩,
  ⟨(some 16), .mv (.tmp 97), none⟩,
  ⟨(some 17), .mv (.tmp 98), none⟩,
  ⟨(some 18), .mv (.tmp 99), none⟩])
 (.seq (.seq (.reg [⟨(some 100), .mv (.tmp 16), none⟩,
  ⟨(some 101), .mv (.tmp 6), none⟩,
  ⟨(some 102), .call (.func 35) [(.tmp 100), (.tmp 101)], none⟩,
  ⟨(some 103), .un .not (.tmp 102), none⟩,
  ⟨(some 104), .mv (.tmp 103), none⟩,
  ⟨(some 105), .mv (.tmp 17), (some (104, false))⟩,
  ⟨(some 106), .mv (.tmp 7), (some (104, false))⟩,
  ⟨(some 107), .bin .neq (.tmp 105) (.tmp 106), (some (104, false))⟩,
  ⟨(some 108), .pick (.tmp 104) (.const (.bool true)) (.tmp 107), none⟩,
  ⟨(some 109), .mv (.tmp 108), none⟩,
  ⟨(some 110), .mv (.tmp 18), (some (109, false))⟩,
  ⟨(some 111), .mv (.tmp 8), (some (109, false))⟩,
  ⟨(some 112), .beq true (.tmp 110) (.tmp 111), (some (109, false))⟩,
  ⟨(some 113), .pick (.tmp 109) (.const (.bool true)) (.tmp 112), none⟩])
 (.cond (.tmp 113) (.seq (.reg [⟨(some 4), .mv (.const (.bool false)), none⟩])
 (.ret)) (.skip)))
 (.seq (.reg [⟨(some 15), .mv (.const (.int .i64 1)), none⟩])
 (.seq (.reg [⟨(some 114), .mv (.tmp 10), none⟩,
  ⟨(some 115), .mv (.tmp 15), none⟩,
  ⟨(some 116), .call (.func 37) [(.tmp 114), (.tmp 115)], none⟩,
  ⟨(some 15), .mv (.tmp 116), none⟩])
 (.seq (.seq (.reg [⟨(some 117), .mv (.tmp 15), none⟩,
  ⟨(some 118), .bin .lss (.tmp 117) (.const (.int .i64 0)), none⟩])
 (.cond (.tmp 118) (.seq (.reg [⟨(some 4), .mv (.const (.bool false)), none⟩])
 (.ret)) (.skip)))
 (.seq (.seq (.reg [⟨(some 119), .mv (.tmp 15), none⟩,
  ⟨(some 120), .mv (.tmp 14), none⟩,
  ⟨(some 121), .bin .neq (.tmp 119) (.tmp 120), none⟩])
 (.cond (.tmp 121) (.seq (.reg [⟨(some 4), .mv (.const (.bool false)), none⟩])
 (.ret)) (.skip)))
 (.seq (.reg [⟨(some 4), .mv (.const (.bool true)), none⟩])
 (.ret)))))))))))))))))))))))))
def r_laws_FnExactBestFresh : List ARes := [.tmp 4]
theorem ok_laws_FnExactBestFresh : FnOk Try.prog 14 122 c_laws_FnExactBestFresh r_laws_FnExactBestFresh := ⟨⟨Try.f14, _, Try.func14, by kernel_rfl, rfl, rfl, by kernel_rfl, by kernel_rfl⟩⟩
end Go.Proofs.Ytihjcjhnkpkomaa.Ab
