/- The compiled forms of functions, each checked against the translation. -/
import Derived.Test.YtnkbjliidenldaaAb2
import Derived.Test.YtnkbjliidenldaaProg
namespace Go.Proofs.Ytnkbjliidenldaa.Ab
open Go Go.RowKit Go.Proofs
set_option maxRecDepth 100000
def c_laws_FnExactRunRule : ACode := .seq (.reg [⟨(some 3), .box 24 (.tmp 0), none⟩,
  ⟨(some 4), .box 38 (.tmp 1), none⟩,
  ⟨(some 6), .mv (.const (.bool false)), none⟩])
 (.seq (.seq (.reg [⟨(some 22), .mv (.tmp 2), none⟩,
  ⟨(some 23), .len (.tmp 22), none⟩,
  ⟨(some 24), .bin .gtr (.tmp 23) (.const (.int .i64 1048576)), none⟩])
 (.cond (.tmp 24) (.seq (.reg [⟨(some 6), .mv (.const (.bool true)), none⟩])
 (.ret)) (.skip)))
 (.seq (.reg [⟨(some 7), .mv (.const (.int .i64 1048576)), none⟩])
 (.seq (.reg [⟨(some 25), .ld (some 2) (.tmp 3), none⟩,
  ⟨(some 26), .mv (.tmp 7), none⟩,
  ⟨(some 27), .call (.func 18) [(.tmp 25), (.tmp 26)], none⟩,
  ⟨(some 7), .mv (.tmp 27), none⟩])
 (.seq (.seq (.reg [⟨(some 28), .mv (.tmp 7), none⟩,
  ⟨(some 29), .bin .lss (.tmp 28) (.const (.int .i64 0)), none⟩])
 (.cond (.tmp 29) (.seq (.reg [⟨(some 6), .mv (.const (.bool true)), none⟩])
 (.ret)) (.skip)))
 (.seq (.reg [⟨(some 31), .ld (some 2) (.tmp 3), none⟩,
  ⟨(some 33), .ld (some 3) (.tmp 4), none⟩,
  ⟨(some 35), .mv (.tmp 2), none⟩,
  ⟨(some 32), .rcall (.func 20) [(.tmp 31)], none⟩,
  ⟨(some 34), .rcall (.func 30) [(.tmp 33)], none⟩,
  ⟨(some 36), .rcall (.func 35) [(.tmp 35)], none⟩,
  ⟨(some 37), .rcall (.func 40) [(.tmp 32), (.tmp 34), (.tmp 36)], none⟩,
  ⟨(some 30), .mv (.tmp 37), none⟩,
  ⟨(some 38), .ext 0 (.tmp 30), none⟩,
  ⟨(some 39), .ext 1 (.tmp 30), none⟩,
  ⟨(some 40), .ext 2 (.tmp 30), none⟩,
  ⟨(some 8), .mv (.tmp 38), none⟩,
  ⟨(some 9), .mv (.tmp 39), none⟩,
  ⟨(some 10), .mv (.tmp 40), none⟩])
 (.seq (.reg [⟨(some 41), .ld (some 2) (.tmp 3), none⟩,
  ⟨(some 42), .call (.func 20) [(.tmp 41)], none⟩,
  ⟨(some 11), .alc 27 [(.int .i64 0), (.slice none 0 0)], none⟩,
  ⟨none, .st 2 (.tmp 11) (.tmp 42), none⟩])
 (.seq (.reg [⟨(some 43), .mv (.tmp 2), none⟩,
  ⟨(some 44), .call (.func 35) [(.tmp 43)], none⟩,
  ⟨(some 12), .mv (.tmp 44), none⟩])
 (.seq (.reg [⟨(some 46), .ld (some 2) (.tmp 11), none⟩,
  ⟨(some 47), .ld (some 3) (.tmp 4), none⟩,
  ⟨(some 49), .mv (.tmp 12), none⟩,
  ⟨(some 48), .rcall (.func 30) [(.tmp 47)], none⟩,
  ⟨(some 50), .rcall (.func 41) [(.tmp 46), (.tmp 48), (.tmp 49)], none⟩,
  ⟨(some 45), .mv (.tmp 50), none⟩,
  ⟨(some 51), .ext 0 (.tmp 45), none⟩,
  ⟨(some 52), .ext 1 (.tmp 45), none⟩,
  ⟨(some 53), .ext 2 (.tmp 45), none⟩,
  ⟨(some 13), .mv (.tmp 51), none⟩,
  ⟨(some 14), .mv (.tmp 52), none⟩,
  ⟨(some 15), .mv (.tmp 53), none⟩])
 (.seq (.seq (.reg [⟨(some 54), .mv (.tmp 13), none⟩,
  ⟨(some 55), .mv (.tmp 8), none⟩,
  ⟨(some 56), .call (.func 37) [(.tmp 54), (.tmp 55)], none⟩,
  ⟨(some 57), .un .not (.tmp 56), none⟩,
  ⟨(some 58), .mv (.tmp 57), none⟩,
  ⟨(some 59), .mv (.tmp 14), (some (58, false))⟩,
  ⟨(some 60), .mv (.tmp 9), (some (58, false))⟩,
  ⟨(some 61), .call (.func 37) [(.tmp 59), (.tmp 60)], (some (58, false))⟩,
  ⟨(some 62), .un .not (.tmp 61), (some (58, false))⟩,
  ⟨(some 63), .pick (.tmp 58) (.const (.bool true)) (.tmp 62), none⟩,
  ⟨(some 64), .mv (.tmp 63), none⟩,
  ⟨(some 65), .mv (.tmp 15), (some (64, false))⟩,
  ⟨(some 66), .mv (.tmp 10), (some (64, false))⟩,
  ⟨(some 67), .beq true (.tmp 65) (.tmp 66), (some (64, false))⟩,
  ⟨(some 68), .pick (.tmp 64) (.const (.bool true)) (.tmp 67), none⟩])
 (.cond (.tmp 68) (.seq (.reg [⟨(some 6), .mv (.const (.bool false)), none⟩])
 (.ret)) (.skip)))
 (.seq (.seq (.reg [⟨(some 69), .ld (some 2) (.tmp 11), none⟩,
  ⟨(some 70), .ld (some 2) (.tmp 3), none⟩,
  ⟨(some 71), .rcall (.func 20) [(.tmp 70)], none⟩,
  ⟨(some 72), .rcall (.func 22) [(.tmp 69), (.tmp 71)], none⟩,
  ⟨(some 73), .un .not (.tmp 72), none⟩])
 (.cond (.tmp 73) (.seq (.reg [⟨(some 6), .mv (.const (.bool false)), none⟩])
 (.ret)) (.skip)))
 (.seq (.seq (.reg [⟨(some 74), .mv (.tmp 12), none⟩,
  ⟨(some 75), .mv (.tmp 2), none⟩,
  ⟨(some 76), .call (.func 35) [(.tmp 75)], none⟩,
  ⟨(some 77), .call (.func 37) [(.tmp 74), (.tmp 76)], none⟩,
  ⟨(some 78), .un .not (.tmp 77), none⟩])
 (.cond (.tmp 78) (.seq (.reg [⟨(some 6), .mv (.const (.bool false)), none⟩])
 (.ret)) (.skip)))
 (.seq (.reg [⟨(some 16), .mv (.const (.int .i64 1)), none⟩])
 (.seq (.reg [⟨(some 79), .ld (some 2) (.tmp 11), none⟩,
  ⟨(some 80), .mv (.tmp 16), none⟩,
  ⟨(some 81), .call (.func 27) [(.tmp 79), (.tmp 80)], none⟩,
  ⟨(some 16), .mv (.tmp 81), none⟩])
 (.seq (.reg [⟨(some 82), .mv (.tmp 12), none⟩,
  ⟨(some 83), .mv (.tmp 16), none⟩,
  ⟨(some 84), .call (.func 38) [(.tmp 82), (.tmp 83)], none⟩,
  ⟨(some 16), .mv (.tmp 84), none⟩])
 (.seq (.seq (.reg [⟨(some 85), .mv (.tmp 16), none⟩,
  ⟨(some 86), .bin .lss (.tmp 85) (.const (.int .i64 0)), none⟩,
  ⟨(some 87), .mv (.tmp 86), none⟩,
  ⟨(some 88), .mv (.tmp 13), (some (87, false))⟩,
  ⟨(some 89), .mv (.tmp 8), (some (87, false))⟩,
  ⟨(some 90), .call (.func 37) [(.tmp 88), (.tmp 89)], (some (87, false))⟩,
  ⟨(some 91), .un .not (.tmp 90), (some (87, false))⟩,
  ⟨(some 92), .pick (.tmp 87) (.const (.bool true)) (.tmp 91), none⟩,
  ⟨(some 93), .mv (.tmp 92), none⟩,
  ⟨(some 94), .mv (.tmp 14), (some (93, false))⟩,
  ⟨(some 95), .mv (.tmp 9), (some (93, false))⟩,
  ⟨(some 96), .call (.func 37) [(.tmp 94), (.tmp 95)], (some (93, false))⟩,
  ⟨(some 97), .un .not (.tmp 96), (some (93, false))⟩,
  ⟨(some 98), .pick (.tmp 93) (.const (.bool true)) (.tmp 97), none⟩,
  ⟨(some 99), .mv (.tmp 98), none⟩,
  ⟨(some 100), .mv (.tmp 15), (some (99, false))⟩,
  ⟨(some 101), .mv (.tmp 10), (some (99, false))⟩,
  ⟨(some 102), .beq true (.tmp 100) (.tmp 101), (some (99, false))⟩,
  ⟨(some 103), .pick (.tmp 99) (.const (.bool true)) (.tmp 102), none⟩])
 (.cond (.tmp 103) (.seq (.reg [⟨(some 6), .mv (.const (.bool false)), none⟩])
 (.ret)) (.skip)))
 (.seq (.reg [⟨(some 17), .mv (.const (.int .i64 1)), none⟩])
 (.seq (.reg [⟨(some 104), .mv (.tmp 13), none⟩,
  ⟨(some 105), .mv (.tmp 17), none⟩,
  ⟨(some 106), .call (.func 38) [(.tmp 104), (.tmp 105)], none⟩,
  ⟨(some 17), .mv (.tmp 106), none⟩])
 (.seq (.reg [⟨(some 107), .mv (.tmp 14), none⟩,
  ⟨(some 108), .mv (.tmp 17), none⟩,
  ⟨(some 109), .call (.func 38) [(.tmp 107), (.tmp 108)], none⟩,
  ⟨(some 17), .mv (.tmp 109), none⟩])
 (.seq (.reg [⟨(some 18), .mv (.const (.int .i64 1)), none⟩])
 (.seq (.reg [⟨(some 110), .mv (.tmp 13), none⟩,
  ⟨(some 111), .mv (.tmp 18), none⟩,
  ⟨(some 112), .call (.func 39) [(.tmp 110), (.tmp 111)], none⟩,
  ⟨(some 18), .mv (.tmp 112), none⟩])
 (.seq (.seq (.reg [⟨(some 113), .mv (.tmp 18), none⟩,
  ⟨(some 114), .bin .lss (.tmp 113) (.const (.int .i64 0)), none⟩])
 (.cond (.tmp 114) (.seq (.reg [⟨(some 6), .mv (.const (.bool false)), none⟩])
 (.ret)) (.skip)))
 (.seq (.reg [⟨(some 115), .mv (.tmp 14), none⟩,
  ⟨(some 116), .mv (.tmp 18), none⟩,
  ⟨(some 117), .call (.func 39) [(.tmp 115), (.tmp 116)], none⟩,
  ⟨(some 18), .mv (.tmp 117), none⟩])
 (.seq (.seq (.reg [⟨(some 118), .mv (.tmp 18), none⟩,
  ⟨(some 119), .bin .lss (.tmp 118) (.const (.int .i64 0)), none⟩])
 (.cond (.tmp 119) (.seq (.reg [⟨(some 6), .mv (.const (.bool false)), none⟩])
 (.ret)) (.skip)))
 (.seq (.seq (.reg [⟨(some 120), .mv (.tmp 18), none⟩,
  ⟨(some 121), .mv (.tmp 17), none⟩,
  ⟨(some 122), .bin .neq (.tmp 120) (.tmp 121), none⟩])
 (.cond (.tmp 122) (.seq (.reg [⟨(some 6), .mv (.const (.bool false)), none⟩])
 (.ret)) (.skip)))
 (.seq (.reg [⟨(some 124), .ld (some 2) (.tmp 3), none⟩,
  ⟨(some 126), .ld (some 3) (.tmp 4), none⟩,
  ⟨(some 128), .mv (.tmp 2), none⟩,
  ⟨(some 125), .rcall (.func 20) [(.tmp 124)], none⟩,
  ⟨(some 127), .rcall (.func 30) [(.tmp 126)], none⟩,
  ⟨(some 129), .rcall (.func 35) [(.tmp 128)], none⟩,
  ⟨(some 130), .rcall (.func 41) [(.tmp 125), (.tmp 127), (.tmp 129)], none⟩,
  ⟨(some 123), .mv (.tmp 130), none⟩,
  ⟨(some 131), .ext 0 (.tmp 123), none⟩,
  ⟨(some 132), .ext 1 (.tmp 123), none⟩,
  ⟨(some 133), .ext 2 (.tmp 123), none⟩,
  ⟨(some 19), .mv (.tmp 131), none⟩,
  ⟨(some 20), .mv (.tmp 132), none⟩,
  ⟨(some 21), .mv (.tmp 133), none⟩])
 (.seq (.seq (.reg [⟨(some 134), .mv (.tmp 19), none⟩,
  ⟨(some 135), .mv (.tmp 8), none⟩,
  ⟨(some 136), .call (.func 37) [(.tmp 134), (.tmp 135)], none⟩,
  ⟨(some 137), .un .not (.tmp 136), none⟩,
  ⟨(some 138), .mv (.tmp 137), none⟩,
  ⟨(some 139), .mv (.tmp 20), (some (138, false))⟩,
  ⟨(some 140), .mv (.tmp 9), (some (138, false))⟩,
  ⟨(some 141), .call (.func 37) [(.tmp 139), (.tmp 140)], (some (138, false))⟩,
  ⟨(some 142), .un .not (.tmp 141), (some (138, false))⟩,
  ⟨(some 143), .pick (.tmp 138) (.const (.bool true)) (.tmp 142), none⟩,
  ⟨(some 144), .mv (.tmp 143), none⟩,
  ⟨(some 145), .mv (.tmp 21), (some (144, false))⟩,
  ⟨(some 146), .mv (.tmp 10), (some (144, false))⟩,
  ⟨(some 147), .beq true (.tmp 145) (.tmp 146), (some (144, false))⟩,
  ⟨(some 148), .pick (.tmp 144) (.const (.bool true)) (.tmp 147), none⟩])
 (.cond (.tmp 148) (.seq (.reg [⟨(some 6), .mv (.const (.bool false)), none⟩])
 (.ret)) (.skip)))
 (.seq (.reg [⟨(some 18), .mv (.const (.int .i64 1)), none⟩])
 (.seq (.reg [⟨(some 149), .mv (.tmp 13), none⟩,
  ⟨(some 150), .mv (.tmp 18), none⟩,
  ⟨(some 151), .call (.func 39) [(.tmp 149), (.tmp 150)], none⟩,
  ⟨(some 18), .mv (.tmp 151), none⟩])
 (.seq (.seq (.reg [⟨(some 152), .mv (.tmp 18), none⟩,
  ⟨(some 153), .bin .lss (.tmp 152) (.const (.int .i64 0)), none⟩])
 (.cond (.tmp 153) (.seq (.reg [⟨(some 6), .mv (.const (.bool false)), none⟩])
 (.ret)) (.skip)))
 (.seq (.reg [⟨(some 154), .mv (.tmp 14), none⟩,
  ⟨(some 155), .mv (.tmp 18), none⟩,
  ⟨(some 156), .call (.func 39) [(.tmp 154), (.tmp 155)], none⟩,
  ⟨(some 18), .mv (.tmp 156), none⟩])
 (.seq (.seq (.reg [⟨(some 157), .mv (.tmp 18), none⟩,
  ⟨(some 158), .bin .lss (.tmp 157) (.const (.int .i64 0)), none⟩])
 (.cond (.tmp 158) (.seq (.reg [⟨(some 6), .mv (.const (.bool false)), none⟩])
 (.ret)) (.skip)))
 (.seq (.seq (.reg [⟨(some 159), .mv (.tmp 18), none⟩,
  ⟨(some 160), .mv (.tmp 17), none⟩,
  ⟨(some 161), .bin .neq (.tmp 159) (.tmp 160), none⟩])
 (.cond (.tmp 161) (.seq (.reg [⟨(some 6), .mv (.const (.bool false)), none⟩])
 (.ret)) (.skip)))
 (.seq (.reg [⟨(some 6), .mv (.const (.bool true)), none⟩])
 (.ret))))))))))))))))))))))))))))))))))
def r_laws_FnExactRunRule : List ARes := [.tmp 6]
theorem ok_laws_FnExactRunRule : FnOk Try.prog 9 162 c_laws_FnExactRunRule r_laws_FnExactRunRule := ⟨⟨Try.f9, _, Try.func9, by kernel_rfl, rfl, rfl, by kernel_rfl, by kernel_rfl⟩⟩
end Go.Proofs.Ytnkbjliidenldaa.Ab
