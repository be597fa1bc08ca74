/- The compiled forms of functions, each checked against the translation. -/
import Derived.Test.YtihjcjhnkpkomaaAb2
import Derived.Test.YtihjcjhnkpkomaaProg
namespace Go.Proofs.Ytihjcjhnkpkomaa.Ab
open Go Go.RowKit Go.Proofs
set_option maxRecDepth 100000
def c_laws_FnExactStockByAge : ACode := .seq (.reg [⟨(some 3), .box 24 (.tmp 0), none⟩,
  ⟨(some 6), .mv (.const (.bool false)), none⟩])
 (.seq (.reg [⟨(some 7), .mv (.const (.int .i64 1048576)), none⟩])
 (.seq (.reg [⟨(some 19), .ld (some 5) (.tmp 3), none⟩,
  ⟨(some 20), .mv (.tmp 7), none⟩,
  ⟨(some 21), .call (.func 16) [(.tmp 19), (.tmp 20)], none⟩,
  ⟨(some 7), .mv (.tmp 21), none⟩])
 (.seq (.seq (.reg [⟨(some 22), .mv (.tmp 7), none⟩,
  ⟨(some 23), .bin .lss (.tmp 22) (.const (.int .i64 0)), none⟩])
 (.cond (.tmp 23) (.seq (.reg [⟨(some 6), .mv (.const (.bool true)), none⟩])
 (.ret)) (.skip)))
 (.seq (.reg [⟨(some 24), .mv (.tmp 1), none⟩,
  ⟨(some 25), .mv (.tmp 7), none⟩,
  ⟨(some 26), .call (.func 21) [(.tmp 24), (.tmp 25)], none⟩,
  ⟨(some 7), .mv (.tmp 26), none⟩])
 (.seq (.seq (.reg [⟨(some 27), .mv (.tmp 7), none⟩,
  ⟨(some 28), .bin .lss (.tmp 27) (.const (.int .i64 0)), none⟩])
 (.cond (.tmp 28) (.seq (.reg [⟨(some 6), .mv (.const (.bool true)), none⟩])
 (.ret)) (.skip)))
 (.seq (.reg [⟨(some 30), .ld (some 5) (.tmp 3), none⟩,
  ⟨(some 31), .call (.func 18) [(.tmp 30)], none⟩,
  ⟨(some 32), .mv (.tmp 1), none⟩,
  ⟨(some 33), .call (.func 23) [(.tmp 32)], none⟩,
  ⟨(some 34), .mv (.tmp 2), none⟩,
  ⟨(some 35), .call (.func 42) [(.tmp 31), (.tmp 33), (.tmp 34)], none⟩,
  ⟨(some 29), .mv (.tmp 35), none⟩,
  ⟨(some 36), .ext 0 (.tmp 29), none⟩,
  ⟨(some 37), .ext 1 (.tmp 29), none⟩,
  ⟨(some 8), .mv (.tmp 36), none⟩,
  ⟨(some 9), .mv (.tmp 37), none⟩])
 (.seq (.reg [⟨(some 38), .ld (some 5) (.tmp 3), none⟩,
  ⟨(some 39), .call (.func 18) [(.tmp 38)], none⟩,
  ⟨(some 10), .alc 27 [(.int .i64 0), (.slice none 0 0), (.slice none 0 0), (.int .i64 0), (.int .i64 0)], none⟩,
  ⟨none, .st 5 (.tmp 10) (.tmp 39), none⟩])
 (.seq (.reg [⟨(some 40), .mv (.tmp 1), none⟩,
  ⟨(some 41), .call (.func 23) [(.tmp 40)], none⟩,
  ⟨(some 11), .mv (.tmp 41), none⟩])
 (.seq (.reg [⟨(some 43), .ld (some 5) (.tmp 10), none⟩,
  ⟨(some 44), .mv (.tmp 11), none⟩,
  ⟨(some 45), .mv (.tmp 2), none⟩,
  ⟨(some 46), .call (.func 43) [(.tmp 43), (.tmp 44), (.tmp 45)], none⟩,
  ⟨(some 42), .mv (.tmp 46), none⟩,
  ⟨(some 47), .ext 0 (.tmp 42), none⟩,
  ⟨(some 48), .ext 1 (.tmp 42), none⟩,
  ⟨(some 12), .mv (.tmp 47), none⟩,
  ⟨(some 13), .mv (.tmp 48), none⟩])
 (.seq (.seq (.reg [⟨(some 49), .mv (.tmp 12), none⟩,
  ⟨(some 50), .mv (.tmp 8), none⟩,
  ⟨(some 51), .call (.func 35) [(.tmp 49), (.tmp 50)], none⟩,
  ⟨(some 52), .un .not (.tmp 51), none⟩,
  ⟨(some 53), .mv (.tmp 52), none⟩,
  ⟨(some 54), .mv (.tmp 13), (some (53, false))⟩,
  ⟨(some 55), .mv (.tmp 9), (some (53, false))⟩,
  ⟨(some 56), .beq true (.tmp 54) (.tmp 55), (some (53, false))⟩,
  ⟨(some 57), .pick (.tmp 53) (.const (.bool true)) (.tmp 56), none⟩])
 (.cond (.tmp 57) (.seq (.reg [⟨(some 6), .mv (.const (.bool false)), none⟩])
 (.ret)) (.skip)))
 (.seq (.seq (.reg [⟨(some 58), .ld (some 5) (.tmp 10), none⟩,
  ⟨(some 59), .ld (some 5) (.tmp 3), none⟩,
  ⟨(some 60), .rcall (.func 18) [(.tmp 59)], none⟩,
  ⟨(some 61), .rcall (.func 20) [(.tmp 58), (.tmp 60)], none⟩,
  ⟨(some 62), .un .not (.tmp 61), none⟩])
 (.cond (.tmp 62) (.seq (.reg [⟨(some 6), .mv (.const (.bool false)), none⟩])
 (.ret)) (.skip)))
 (.seq (.seq (.reg [⟨(some 63), .mv (.tmp 11), none⟩,
  ⟨(some 64), .mv (.tmp 1), none⟩,
  ⟨(some 65), .call (.func 23) [(.tmp 64)], none⟩,
  ⟨(some 66), .call (.func 25) [(.tmp 63), (.tmp 65)], none⟩,
  ⟨(some 67), .un .not (.tmp 66), none⟩])
 (.cond (.tmp 67) (.seq (.reg [⟨(some 6), .mv (.const (.bool false)), none⟩])
 (.ret)) (.skip)))
 (.seq (.reg [⟨(some 14), .mv (.const (.int .i64 1)), none⟩])
 (.seq (.reg [⟨(some 68), .ld (some 5) (.tmp 10), none⟩,
  ⟨(some 69), .mv (.tmp 14), none⟩,
  ⟨(some 70), .call (.func 28) [(.tmp 68), (.tmp 69)], none⟩,
  ⟨(some 14), .mv (.tmp 70), none⟩])
 (.seq (.reg [⟨(some 71), .mv (.tmp 11), none⟩,
  ⟨(some 72), .mv (.tmp 14), none⟩,
  ⟨(some 73), .call (.func 29) [(.tmp 71), (.tmp 72)], none⟩,
  ⟨(some 14), .mv (.tmp 73), none⟩])
 (.seq (.seq (.reg [⟨(some 74), .mv (.tmp 14), none⟩,
  ⟨(some 75), .bin .lss (.tmp 74) (.const (.int .i64 0)), none⟩,
  ⟨(some 76), .mv (.tmp 75), none⟩,
  ⟨(some 77), .mv (.tmp 12), (some (76, false))⟩,
  ⟨(some 78), .mv (.tmp 8), (some (76, false))⟩,
  ⟨(some 79), .call (.func 35) [(.tmp 77), (.tmp 78)], (some (76, false))⟩,
  ⟨(some 80), .un .not (.tmp 79), (some (76, false))⟩,
  ⟨(some 81), .pick (.tmp 76) (.const (.bool true)) (.tmp 80), none⟩,
  ⟨(some 82), .mv (.tmp 81), none⟩,
  ⟨(some 83), .mv (.tmp 13), (some (82, false))⟩,
  ⟨(some 84), .mv (.tmp 9), (some (82, false))⟩,
  ⟨(some 85), .beq true (.tmp 83) (.tmp 84), (some (82, false))⟩,
  ⟨(some 86), .pick (.tmp 82) (.const (.bool true)) (.tmp 85), none⟩])
 (.cond (.tmp 86) (.seq (.reg [⟨(some 6), .mv (.const (.bool false)), none⟩])
 (.ret)) (.skip)))
 (.seq (.reg [⟨(some 15), .mv (.const (.int .i64 1)), none⟩])
 (.seq (.reg [⟨(some 87), .mv (.tmp 12), none⟩,
  ⟨(some 88), .mv (.tmp 15), none⟩,
  ⟨(some 89), .call (.func 36) [(.tmp 87), (.tmp 88)], none⟩,
  ⟨(some 15), .mv (.tmp 89), none⟩])
 (.seq (.reg [⟨(some 16), .mv (.const (.int .i64 1)), none⟩])
 (.seq (.reg [⟨(some 90), .mv (.tmp 12), none⟩,
  ⟨(some 91), .mv (.tmp 16), none⟩,
  ⟨(some 92), .call (.func 37) [(.tmp 90), (.tmp 91)], none⟩,
  ⟨(some 16), .mv (.tmp 92), none⟩])
 (.seq (.seq (.reg [⟨(some 93), .mv (.tmp 16), none⟩,
  ⟨(some 94), .bin .lss (.tmp 93) (.const (.int .i64 0)), none⟩])
 (.cond (.tmp 94) (.seq (.reg [⟨(some 6), .mv (.const (.bool false)), none⟩])
 (.ret)) (.skip)))
 (.seq (.seq (.reg [⟨(some 95), .mv (.tmp 16), none⟩,
  ⟨(some 96), .mv (.tmp 15), none⟩,
  ⟨(some 97), .bin .neq (.tmp 95) (.tmp 96), none⟩])
 (.cond (.tmp 97) (.seq (.reg [⟨(some 6), .mv (.const (.bool false)), none⟩])
 (.ret)) (.skip)))
 (.seq (.reg [⟨(some 99), .ld (some 5) (.tmp 3), none⟩,
  ⟨(some 100), .call (.func 18) [(.tmp 99)], none⟩,
  ⟨(some 101), .mv (.tmp 1), none⟩,
  ⟨(some 102), .call (.func 23) [(.tmp 101)], none⟩,
  ⟨(some 103), .mv (.tmp 2), none⟩,
  ⟨(some 104), .call (.func 43) [(.tmp 100), (.tmp 102), (.tmp 103)], none⟩,
  ⟨(some 98), .mv (.tmp 104), none⟩,
  ⟨(some 105), .ext 0 (.tmp 98), none⟩,
  ⟨(some 106), .ext 1 (.tmp 98), none⟩,
  ⟨(some 17), .mv (.tmp 105), none⟩,
  ⟨(some 18), .mv (.tmp 106), none⟩])
 (.seq (.seq (.reg [⟨(some 107), .mv (.tmp 17), none⟩,
  ⟨(some 108), .mv (.tmp 8), none⟩,
  ⟨(some 109), .call (.func 35) [(.tmp 107), (.tmp 108)], none⟩,
  ⟨(some 110), .un .not (.tmp 109), none⟩,
  ⟨(some 111), .mv (.tmp 110), none⟩,
  ⟨(some 112), .mv (.tmp 18), (some (111, false))⟩,
  ⟨(some 113), .mv (.tmp 9), (some (111, false))⟩,
  ⟨(some 114), .beq true (.tmp 112) (.tmp 113), (some (111, false))⟩,
  ⟨(some 115), .pick (.tmp 111) (.const (.bool true)) (.tmp 114), none⟩])
 (.cond (.tmp 115) (.seq (.reg [⟨(some 6), .mv (.const (.bool false)), none⟩])
 (.ret)) (.skip)))
 (.seq (.reg [⟨(some 16), .mv (.const (.int .i64 1)), none⟩])
 (.seq (.reg [⟨(some 116), .mv (.tmp 12), none⟩,
  ⟨(some 117), .mv (.tmp 16), none⟩,
  ⟨(some 118), .call (.func 37) [(.tmp 116), (.tmp 117)], none⟩,
  ⟨(some 16), .mv (.tmp 118), none⟩])
 (.seq (.seq (.reg [⟨(some 119), .mv (.tmp 16), none⟩,
  ⟨(some 120), .bin .lss (.tmp 119) (.const (.int .i64 0)), none⟩])
 (.cond (.tmp 120) (.seq (.reg [⟨(some 6), .mv (.const (.bool false)), none⟩])
 (.ret)) (.skip)))
 (.seq (.seq (.reg [⟨(some 121), .mv (.tmp 16), none⟩,
  ⟨(some 122), .mv (.tmp 15), none⟩,
  ⟨(some 123), .bin .neq (.tmp 121) (.tmp 122), none⟩])
 (.cond (.tmp 123) (.seq (.reg [⟨(some 6), .mv (.const (.bool false)), none⟩])
 (.ret)) (.skip)))
 (.seq (.reg [⟨(some 6), .mv (.const (.bool true)), none⟩])
 (.ret))))))))))))))))))))))))))))))
def r_laws_FnExactStockByAge : List ARes := [.tmp 6]
theorem ok_laws_FnExactStockByAge : FnOk Try.prog 10 124 c_laws_FnExactStockByAge r_laws_FnExactStockByAge := ⟨⟨Try.f10, _, Try.func10, by kernel_rfl, rfl, rfl, by kernel_rfl, by kernel_rfl⟩⟩
end Go.Proofs.Ytihjcjhnkpkomaa.Ab
