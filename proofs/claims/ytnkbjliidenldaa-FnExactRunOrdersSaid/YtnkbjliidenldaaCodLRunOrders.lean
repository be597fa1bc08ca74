/- The compiled forms of functions, each checked against the translation. -/
import Derived.Test.YtnkbjliidenldaaAb2
import Derived.Test.YtnkbjliidenldaaProg
namespace Go.Proofs.Ytnkbjliidenldaa.Ab
open Go Go.RowKit Go.Proofs
set_option maxRecDepth 100000
def c_laws_FnExactRunOrders : ACode := .seq (.reg [⟨(some 3), .box 24 (.tmp 0), none⟩,
  ⟨(some 6), .mv (.const (.bool false)), none⟩])
 (.seq (.seq (.reg [⟨(some 23), .mv (.tmp 1), none⟩,
  ⟨(some 24), .len (.tmp 23), none⟩,
  ⟨(some 25), .bin .gtr (.tmp 24) (.const (.int .i64 1048576)), none⟩])
 (.cond (.tmp 25) (.seq (.reg [⟨(some 6), .mv (.const (.bool true)), none⟩])
 (.ret)) (.skip)))
 (.seq (.seq (.reg [⟨(some 26), .mv (.tmp 2), none⟩,
  ⟨(some 27), .len (.tmp 26), none⟩,
  ⟨(some 28), .bin .gtr (.tmp 27) (.const (.int .i64 1048576)), none⟩])
 (.cond (.tmp 28) (.seq (.reg [⟨(some 6), .mv (.const (.bool true)), none⟩])
 (.ret)) (.skip)))
 (.seq (.reg [⟨(some 7), .mv (.const (.int .i64 1048576)), none⟩])
 (.seq (.reg [⟨(some 29), .ld (some 2) (.tmp 3), none⟩,
  ⟨(some 30), .mv (.tmp 7), none⟩,
  ⟨(some 31), .call (.func 18) [(.tmp 29), (.tmp 30)], none⟩,
  ⟨(some 7), .mv (.tmp 31), none⟩])
 (.seq (.seq (.reg [⟨(some 32), .mv (.tmp 7), none⟩,
  ⟨(some 33), .bin .lss (.tmp 32) (.const (.int .i64 0)), none⟩])
 (.cond (.tmp 33) (.seq (.reg [⟨(some 6), .mv (.const (.bool true)), none⟩])
 (.ret)) (.skip)))
 (.seq (.reg [⟨(some 35), .ld (some 2) (.tmp 3), none⟩,
  ⟨(some 36), .call (.func 20) [(.tmp 35)], none⟩,
  ⟨(some 37), .mv (.tmp 1), none⟩,
  ⟨(some 38), .call (.func 35) [(.tmp 37)], none⟩,
  ⟨(some 39), .mv (.tmp 2), none⟩,
  ⟨(some 40), .call (.func 35) [(.tmp 39)], none⟩,
  ⟨(some 41), .call (.func 34) [(.tmp 36), (.tmp 38), (.tmp 40)], none⟩,
  ⟨(some 34), .mv (.tmp 41), none⟩,
  ⟨(some 42), .ext 0 (.tmp 34), none⟩,
  ⟨(some 43), .ext 1 (.tmp 34), none⟩,
  ⟨(some 44), .ext 2 (.tmp 34), none⟩,
  ⟨(some 9), .alc 27 [(.int .i64 0), (.slice none 0 0)], none⟩,
  ⟨(some 8), .mv (.tmp 42), none⟩,
  ⟨none, .st 2 (.tmp 9) (.tmp 43), none⟩,
  ⟨(some 10), .mv (.tmp 44), none⟩])
 (.seq (.reg [⟨(some 45), .ld (some 2) (.tmp 3), none⟩,
  ⟨(some 46), .call (.func 20) [(.tmp 45)], none⟩,
  ⟨(some 11), .alc 27 [(.int .i64 0), (.slice none 0 0)], none⟩,
  ⟨none, .st 2 (.tmp 11) (.tmp 46), none⟩])
 (.seq (.reg [⟨(some 47), .mv (.tmp 1), none⟩,
  ⟨(some 48), .call (.func 35) [(.tmp 47)], none⟩,
  ⟨(some 12), .mv (.tmp 48), none⟩])
 (.seq (.reg [⟨(some 49), .mv (.tmp 2), none⟩,
  ⟨(some 50), .call (.func 35) [(.tmp 49)], none⟩,
  ⟨(some 13), .mv (.tmp 50), none⟩])
 (.seq (.reg [⟨(some 52), .ld (some 2) (.tmp 11), none⟩,
  ⟨(some 53), .mv (.tmp 12), none⟩,
  ⟨(some 54), .mv (.tmp 13), none⟩,
  ⟨(some 55), .call (.func 36) [(.tmp 52), (.tmp 53), (.tmp 54)], none⟩,
  ⟨(some 51), .mv (.tmp 55), none⟩,
  ⟨(some 56), .ext 0 (.tmp 51), none⟩,
  ⟨(some 57), .ext 1 (.tmp 51), none⟩,
  ⟨(some 58), .ext 2 (.tmp 51), none⟩,
  ⟨(some 15), .alc 27 [(.int .i64 0), (.slice none 0 0)], none⟩,
  ⟨(some 14), .mv (.tmp 56), none⟩,
  ⟨none, .st 2 (.tmp 15) (.tmp 57), none⟩,
  ⟨(some 16), .mv (.tmp 58), none⟩])
 (.seq (.seq (.reg [⟨(some 59), .mv (.tmp 14), none⟩,
  ⟨(some 60), .mv (.tmp 8), none⟩,
  ⟨(some 61), .call (.func 37) [(.tmp 59), (.tmp 60)], none⟩,
  ⟨(some 62), .un .not (.tmp 61), none⟩,
  ⟨(some 63), .mv (.tmp 62), none⟩,
  ⟨(some 64), .ld (some 2) (.tmp 15), (some (63, false))⟩,
  ⟨(some 65), .ld (some 2) (.tmp 9), (some (63, false))⟩,
  ⟨(some 66), .call (.func 22) [(.tmp 64), (.tmp 65)], (some (63, false))⟩,
  ⟨(some 67), .un .not (.tmp 66), (some (63, false))⟩,
  ⟨(some 68), .pick (.tmp 63) (.const (.bool true)) (.tmp 67), none⟩,
  ⟨(some 69), .mv (.tmp 68), none⟩,
  ⟨(some 70), .mv (.tmp 16), (some (69, false))⟩,
  ⟨(some 71), .mv (.tmp 10), (some (69, false))⟩,
  ⟨(some 72), .beq true (.tmp 70) (.tmp 71), (some (69, false))⟩,
  ⟨(some 73), .pick (.tmp 69) (.const (.bool true)) (.tmp 72), none⟩])
 (.cond (.tmp 73) (.seq (.reg [⟨(some 6), .mv (.const (.bool false)), none⟩])
 (.ret)) (.skip)))
 (.seq (.seq (.reg [⟨(some 74), .ld (some 2) (.tmp 11), none⟩,
  ⟨(some 75), .ld (some 2) (.tmp 3), none⟩,
  ⟨(some 76), .rcall (.func 20) [(.tmp 75)], none⟩,
  ⟨(some 77), .rcall (.func 22) [(.tmp 74), (.tmp 76)], none⟩,
  ⟨(some 78), .un .not (.tmp 77), none⟩])
 (.cond (.tmp 78) (.seq (.reg [⟨(some 6), .mv (.const (.bool false)), none⟩])
 (.ret)) (.skip)))
 (.seq (.seq (.reg [⟨(some 79), .mv (.tmp 12), none⟩,
  ⟨(some 80), .mv (.tmp 1), none⟩,
  ⟨(some 81), .call (.func 35) [(.tmp 80)], none⟩,
  ⟨(some 82), .call (.func 37) [(.tmp 79), (.tmp 81)], none⟩,
  ⟨(some 83), .un .not (.tmp 82), none⟩])
 (.cond (.tmp 83) (.seq (.reg [⟨(some 6), .mv (.const (.bool false)), none⟩])
 (.ret)) (.skip)))
 (.seq (.seq (.reg [⟨(some 84), .mv (.tmp 13), none⟩,
  ⟨(some 85), .mv (.tmp 2), none⟩,
  ⟨(some 86), .call (.func 35) [(.tmp 85)], none⟩,
  ⟨(some 87), .call (.func 37) [(.tmp 84), (.tmp 86)], none⟩,
  ⟨(some 88), .un .not (.tmp 87), none⟩])
 (.cond (.tmp 88) (.seq (.reg [⟨(some 6), .mv (.const (.bool false)), none⟩])
 (.ret)) (.skip)))
 (.seq (.reg [⟨(some 17), .mv (.const (.int .i64 1)), none⟩])
 (.seq (.reg [⟨(some 89), .ld (some 2) (.tmp 11), none⟩,
  ⟨(some 90), .mv (.tmp 17), none⟩,
  ⟨(some 91), .call (.func 27) [(.tmp 89), (.tmp 90)], none⟩,
  ⟨(some 17), .mv (.tmp 91), none⟩])
 (.seq (.reg [⟨(some 92), .mv (.tmp 12), none⟩,
  ⟨(some 93), .mv (.tmp 17), none⟩,
  ⟨(some 94), .call (.func 38) [(.tmp 92), (.tmp 93)], none⟩,
  ⟨(some 17), .mv (.tmp 94), none⟩])
 (.seq (.reg [⟨(some 95), .mv (.tmp 13), none⟩,
  ⟨(some 96), .mv (.tmp 17), none⟩,
  ⟨(some 97), .call (.func 38) [(.tmp 95), (.tmp 96)], none⟩,
  ⟨(some 17), .mv (.tmp 97), none⟩])
 (.seq (.seq (.reg [⟨(some 98), .mv (.tmp 17), none⟩,
  ⟨(some 99), .bin .lss (.tmp 98) (.const (.int .i64 0)), none⟩,
  ⟨(some 100), .mv (.tmp 99), none⟩,
  ⟨(some 101), .mv (.tmp 14), (some (100, false))⟩,
  ⟨(some 102), .mv (.tmp 8), (some (100, false))⟩,
  ⟨(some 103), .call (.func 37) [(.tmp 101), (.tmp 102)], (some (100, false))⟩,
  ⟨(some 104), .un .not (.tmp 103), (some (100, false))⟩,
  ⟨(some 105), .pick (.tmp 100) (.const (.bool true)) (.tmp 104), none⟩,
  ⟨(some 106), .mv (.tmp 105), none⟩,
  ⟨(some 107), .ld (some 2) (.tmp 15), (some (106, false))⟩,
  ⟨(some 108), .ld (some 2) (.tmp 9), (some (106, false))⟩,
  ⟨(some 109), .call (.func 22) [(.tmp 107), (.tmp 108)], (some (106, false))⟩,
  ⟨(some 110), .un .not (.tmp 109), (some (106, false))⟩,
  ⟨(some 111), .pick (.tmp 106) (.const (.bool true)) (.tmp 110), none⟩,
  ⟨(some 112), .mv (.tmp 111), none⟩,
  ⟨(some 113), .mv (.tmp 16), (some (112, false))⟩,
  ⟨(some 114), .mv (.tmp 10), (some (112, false))⟩,
  ⟨(some 115), .beq true (.tmp 113) (.tmp 114), (some (112, false))⟩,
  ⟨(some 116), .pick (.tmp 112) (.const (.bool true)) (.tmp 115), none⟩])
 (.cond (.tmp 116) (.seq (.reg [⟨(some 6), .mv (.const (.bool false)), none⟩])
 (.ret)) (.skip)))
 (.seq (.reg [⟨(some 18), .mv (.const (.int .i64 1)), none⟩])
 (.seq (.reg [⟨(some 117), .mv (.tmp 14), none⟩,
  ⟨(some 118), .mv (.tmp 18), none⟩,
  ⟨(some 119), .call (.func 38) [(.tmp 117), (.tmp 118)], none⟩,
  ⟨(some 18), .mv (.tmp 119), none⟩])
 (.seq (.reg [⟨(some 120), .ld (some 2) (.tmp 15), none⟩,
  ⟨(some 121), .mv (.tmp 18), none⟩,
  ⟨(some 122), .call (.func 27) [(.tmp 120), (.tmp 121)], none⟩,
  ⟨(some 18), .mv (.tmp 122), none⟩])
 (.seq (.reg [⟨(some 19), .mv (.const (.int .i64 1)), none⟩])
 (.seq (.reg [⟨(some 123), .mv (.tmp 14), none⟩,
  ⟨(some 124), .mv (.tmp 19), none⟩,
  ⟨(some 125), .call (.func 39) [(.tmp 123), (.tmp 124)], none⟩,
  ⟨(some 19), .mv (.tmp 125), none⟩])
 (.seq (.seq (.reg [⟨(some 126), .mv (.tmp 19), none⟩,
  ⟨(some 127), .bin .lss (.tmp 126) (.const (.int .i64 0)), none⟩])
 (.cond (.tmp 127) (.seq (.reg [⟨(some 6), .mv (.const (.bool false)), none⟩])
 (.ret)) (.skip)))
 (.seq (.reg [⟨(some 128), .ld (some 2) (.tmp 15), none⟩,
  ⟨(some 129), .mv (.tmp 19), none⟩,
  ⟨(some 130), .call (.func 28) [(.tmp 128), (.tmp 129)], none⟩,
  ⟨(some 19), .mv (.tmp 130), none⟩])
 (.seq (.seq (.reg [⟨(some 131), .mv (.tmp 19), none⟩,
  ⟨(some 132), .bin .lss (.tmp 131) (.const (.int .i64 0)), none⟩])
 (.cond (.tmp 132) (.seq (.reg [⟨(some 6), .mv (.const (.bool false)), none⟩])
 (.ret)) (.skip)))
 (.seq (.seq (.reg [⟨(some 133), .mv (.tmp 19), none⟩,
  ⟨(some 134), .mv (.tmp 18), none⟩,
  ⟨(some 135), .bin .neq (.tmp 133) (.tmp 134), none⟩])
 (.cond (.tmp 135) (.seq (.reg [⟨(some 6), .mv (.const (.bool false)), none⟩])
 (.ret)) (.skip)))
 (.seq (.reg [⟨(some 137), .ld (some 2) (.tmp 3), none⟩,
  ⟨(some 138), .call (.func 20) [(.tmp 137)], none⟩,
  ⟨(some 139), .mv (.tmp 1), none⟩,
  ⟨(some 140), .call (.func 35) [(.tmp 139)], none⟩,
  ⟨(some 141), .mv (.tmp 2), none⟩,
  ⟨(some 142), .call (.func 35) [(.tmp 141)], none⟩,
  ⟨(some 143), .call (.func 36) [(.tmp 138), (.tmp 140), (.tmp 142)], none⟩,
  ⟨(some 136), .mv (.tmp 143), none⟩,
  ⟨(some 144), .ext 0 (.tmp 136), none⟩,
  ⟨(some 145), .ext 1 (.tmp 136), none⟩,
  ⟨(some 146), .ext 2 (.tmp 136), none⟩,
  ⟨(some 21), .alc 27 [(.int .i64 0), (.slice none 0 0)], none⟩,
  ⟨(some 20), .mv (.tmp 144), none⟩,
  ⟨none, .st 2 (.tmp 21) (.tmp 145), none⟩,
  ⟨(some 22), .mv (.tmp 146), none⟩])
 (.seq (.seq (.reg [⟨(some 147), .mv (.tmp 20), none⟩,
  ⟨(some 148), .mv (.tmp 8), none⟩,
  ⟨(some 149), .call (.func 37) [(.tmp 147), (.tmp 148)], none⟩,
  ⟨(some 150), .un .not (.tmp 149), none⟩,
  ⟨(some 151), .mv (.tmp 150), none⟩,
  ⟨(some 152), .ld (some 2) (.tmp 21), (some (151, false))⟩,
  ⟨(some 153), .ld (some 2) (.tmp 9), (some (151, false))⟩,
  ⟨(some 154), .call (.func 22) [(.tmp 152), (.tmp 153)], (some (151, false))⟩,
  ⟨(some 155), .un .not (.tmp 154), (some (151, false))⟩,
  ⟨(some 156), .pick (.tmp 151) (.const (.bool true)) (.tmp 155), none⟩,
  ⟨(some 157), .mv (.tmp 156), none⟩,
  ⟨(some 158), .mv (.tmp 22), (some (157, false))⟩,
  ⟨(some 159), .mv (.tmp 10), (some (157, false))⟩,
  ⟨(some 160), .beq true (.tmp 158) (.tmp 159), (some (157, false))⟩,
  ⟨(some 161), .pick (.tmp 157) (.const (.bool true)) (.tmp 160), none⟩])
 (.cond (.tmp 161) (.seq (.reg [⟨(some 6), .mv (.const (.bool false)), none⟩])
 (.ret)) (.skip)))
 (.seq (.reg [⟨(some 19), .mv (.const (.int .i64 1)), none⟩])
 (.seq (.reg [⟨(some 162), .mv (.tmp 14), none⟩,
  ⟨(some 163), .mv (.tmp 19), none⟩,
  ⟨(some 164), .call (.func 39) [(.tmp 162), (.tmp 163)], none⟩,
  ⟨(some 19), .mv (.tmp 164), none⟩])
 (.seq (.seq (.reg [⟨(some 165), .mv (.tmp 19), none⟩,
  ⟨(some 166), .bin .lss (.tmp 165) (.const (.int .i64 0)), none⟩])
 (.cond (.tmp 166) (.seq (.reg [⟨(some 6), .mv (.const (.bool false)), none⟩])
 (.ret)) (.skip)))
 (.seq (.reg [⟨(some 167), .ld (some 2) (.tmp 15), none⟩,
  ⟨(some 168), .mv (.tmp 19), none⟩,
  ⟨(some 169), .call (.func 28) [(.tmp 167), (.tmp 168)], none⟩,
  ⟨(some 19), .mv (.tmp 169), none⟩])
 (.seq (.seq (.reg [⟨(some 170), .mv (.tmp 19), none⟩,
  ⟨(some 171), .bin .lss (.tmp 170) (.const (.int .i64 0)), none⟩])
 (.cond (.tmp 171) (.seq (.reg [⟨(some 6), .mv (.const (.bool false)), none⟩])
 (.ret)) (.skip)))
 (.seq (.seq (.reg [⟨(some 172), .mv (.tmp 19), none⟩,
  ⟨(some 173), .mv (.tmp 18), none⟩,
  ⟨(some 174), .bin .neq (.tmp 172) (.tmp 173), none⟩])
 (.cond (.tmp 174) (.seq (.reg [⟨(some 6), .mv (.const (.bool false)), none⟩])
 (.ret)) (.skip)))
 (.seq (.reg [⟨(some 6), .mv (.const (.bool true)), none⟩])
 (.ret))))))))))))))))))))))))))))))))))))))
def r_laws_FnExactRunOrders : List ARes := [.tmp 6]
theorem ok_laws_FnExactRunOrders : FnOk Try.prog 8 175 c_laws_FnExactRunOrders r_laws_FnExactRunOrders := ⟨⟨Try.f8, _, Try.func8, by kernel_rfl, rfl, rfl, by kernel_rfl, by kernel_rfl⟩⟩
end Go.Proofs.Ytnkbjliidenldaa.Ab
