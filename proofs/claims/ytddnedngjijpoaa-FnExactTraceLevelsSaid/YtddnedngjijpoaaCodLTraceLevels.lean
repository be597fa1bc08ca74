/- The compiled forms of functions, each checked against the translation. -/
import Derived.Test.YtddnedngjijpoaaAb2
import Derived.Test.YtddnedngjijpoaaProg
namespace Go.Proofs.Ytddnedngjijpoaa.Ab
open Go Go.RowKit Go.Proofs
set_option maxRecDepth 100000
def c_laws_FnExactTraceLevels : ACode := .seq (.reg [⟨(some 4), .box 57 (.tmp 0), none⟩,
  ⟨(some 8), .mv (.const (.bool false)), none⟩])
 (.seq (.seq (.reg [⟨(some 25), .mv (.tmp 3), none⟩,
  ⟨(some 26), .len (.tmp 25), none⟩,
  ⟨(some 27), .bin .gtr (.tmp 26) (.const (.int .i64 1048576)), none⟩])
 (.cond (.tmp 27) (.seq (.reg [⟨(some 8), .mv (.const (.bool true)), none⟩])
 (.ret)) (.skip)))
 (.seq (.reg [⟨(some 9), .mv (.const (.int .i64 1048576)), none⟩])
 (.seq (.reg [⟨(some 28), .ld (some 6) (.tmp 4), none⟩,
  ⟨(some 29), .mv (.tmp 9), none⟩,
  ⟨(some 30), .call (.func 44) [(.tmp 28), (.tmp 29)], none⟩,
  ⟨(some 9), .mv (.tmp 30), none⟩])
 (.seq (.seq (.reg [⟨(some 31), .mv (.tmp 9), none⟩,
  ⟨(some 32), .bin .lss (.tmp 31) (.const (.int .i64 0)), none⟩])
 (.cond (.tmp 32) (.seq (.reg [⟨(some 8), .mv (.const (.bool true)), none⟩])
 (.ret)) (.skip)))
 (.seq (.reg [⟨(some 33), .mv (.tmp 1), none⟩,
  ⟨(some 34), .mv (.tmp 9), none⟩,
  ⟨(some 35), .call (.func 59) [(.tmp 33), (.tmp 34)], none⟩,
  ⟨(some 9), .mv (.tmp 35), none⟩])
 (.seq (.seq (.reg [⟨(some 36), .mv (.tmp 9), none⟩,
  ⟨(some 37), .bin .lss (.tmp 36) (.const (.int .i64 0)), none⟩])
 (.cond (.tmp 37) (.seq (.reg [⟨(some 8), .mv (.const (.bool true)), none⟩])
 (.ret)) (.skip)))
 (.seq (.reg [⟨(some 39), .ld (some 6) (.tmp 4), none⟩,
  ⟨(some 40), .call (.func 46) [(.tmp 39)], none⟩,
  ⟨(some 41), .mv (.tmp 1), none⟩,
  ⟨(some 42), .call (.func 60) [(.tmp 41)], none⟩,
  ⟨(some 43), .mv (.tmp 2), none⟩,
  ⟨(some 44), .mv (.tmp 3), none⟩,
  ⟨(some 45), .call (.func 58) [(.tmp 44)], none⟩,
  ⟨(some 46), .call (.func 65) [(.tmp 40), (.tmp 42), (.tmp 43), (.tmp 45)], none⟩,
  ⟨(some 38), .mv (.tmp 46), none⟩,
  ⟨(some 47), .ext 0 (.tmp 38), none⟩,
  ⟨(some 48), .ext 1 (.tmp 38), none⟩,
  ⟨(some 49), .ext 2 (.tmp 38), none⟩,
  ⟨(some 10), .mv (.tmp 47), none⟩,
  ⟨(some 11), .mv (.tmp 48), none⟩,
  ⟨(some 12), .mv (.tmp 49), none⟩])
 (.seq (.reg [⟨(some 50), .ld (some 6) (.tmp 4), none⟩,
  ⟨(some 51), .call (.func 46) [(.tmp 50)], none⟩,
  ⟨(some 13), .alc 26 [(.int .i64 0), (.slice none 0 0), (.int .i64 0), (.int .i64 0), (.int .i64 0), (.int .i64 0)], none⟩,
  ⟨none, .st 6 (.tmp 13) (.tmp 51), none⟩])
 (.seq (.reg [⟨(some 52), .mv (.tmp 1), none⟩,
  ⟨(some 53), .call (.func 60) [(.tmp 52)], none⟩,
  ⟨(some 14), .mv (.tmp 53), none⟩])
 (.seq (.reg [⟨(some 54), .mv (.tmp 3), none⟩,
  ⟨(some 55), .call (.func 58) [(.tmp 54)], none⟩,
  ⟨(some 15), .mv (.tmp 55), none⟩])
 (.seq (.reg [⟨(some 57), .ld (some 6) (.tmp 13), none⟩,
  ⟨(some 58), .mv (.tmp 14), none⟩,
  ⟨(some 59), .mv (.tmp 2), none⟩,
  ⟨(some 60), .mv (.tmp 15), none⟩,
  ⟨(some 61), .call (.func 66) [(.tmp 57), (.tmp 58), (.tmp 59), (.tmp 60)], none⟩,
  ⟨(some 56), .mv (.tmp 61), none⟩,
  ⟨(some 62), .ext 0 (.tmp 56), none⟩,
  ⟨(some 63), .ext 1 (.tmp 56), none⟩,
  ⟨(some 64), .ext 2 (.tmp 56), none⟩,
  ⟨(some 16), .mv (.tmp 62), none⟩,
  ⟨(some 17), .mv (.tmp 63), none⟩,
  ⟨(some 18), .mv (.tmp 64), none⟩])
 (.seq (.seq (.reg [⟨(some 65), .mv (.tmp 16), none⟩,
  ⟨(some 66), .mv (.tmp 10), none⟩,
  ⟨(some 67), .call (.func 52) [(.tmp 65), (.tmp 66)], none⟩,
  ⟨(some 68), .un .not (.tmp 67), none⟩,
  ⟨(some 69), .mv (.tmp 68), none⟩,
  ⟨(some 70), .mv (.tmp 17), (some (69, false))⟩,
  ⟨(some 71), .mv (.tmp 11), (some (69, false))⟩,
  ⟨(some 72), .bin .neq (.tmp 70) (.tmp 71), (some (69, false))⟩,
  ⟨(some 73), .pick (.tmp 69) (.const (.bool true)) (.tmp 72), none⟩,
  ⟨(some 74), .mv (.tmp 73), none⟩,
  ⟨(some 75), .mv (.tmp 18), (some (74, false))⟩,
  ⟨(some 76), .mv (.tmp 12), (some (74, false))⟩,
  ⟨(some 77), .beq true (.tmp 75) (.tmp 76), (some (74, false))⟩,
  ⟨(some 78), .pick (.tmp 74) (.const (.bool true)) (.tmp 77), none⟩])
 (.cond (.tmp 78) (.seq (.reg [⟨(some 8), .mv (.const (.bool false)), none⟩])
 (.ret)) (.skip)))
 (.seq (.seq (.reg [⟨(some 79), .ld (some 6) (.tmp 13), none⟩,
  ⟨(some 80), .ld (some 6) (.tmp 4), none⟩,
  ⟨(some 81), .rcall (.func 46) [(.tmp 80)], none⟩,
  ⟨(some 82), .rcall (.func 47) [(.tmp 79), (.tmp 81)], none⟩,
  ⟨(some 83), .un .not (.tmp 82), none⟩])
 (.cond (.tmp 83) (.seq (.reg [⟨(some 8), .mv (.const (.bool false)), none⟩])
 (.ret)) (.skip)))
 (.seq (.seq (.reg [⟨(some 84), .mv (.tmp 14), none⟩,
  ⟨(some 85), .mv (.tmp 1), none⟩,
  ⟨(some 86), .call (.func 60) [(.tmp 85)], none⟩,
  ⟨(some 87), .call (.func 55) [(.tmp 84), (.tmp 86)], none⟩,
  ⟨(some 88), .un .not (.tmp 87), none⟩])
 (.cond (.tmp 88) (.seq (.reg [⟨(some 8), .mv (.const (.bool false)), none⟩])
 (.ret)) (.skip)))
 (.seq (.seq (.reg [⟨(some 89), .mv (.tmp 15), none⟩,
  ⟨(some 90), .mv (.tmp 3), none⟩,
  ⟨(some 91), .call (.func 58) [(.tmp 90)], none⟩,
  ⟨(some 92), .call (.func 52) [(.tmp 89), (.tmp 91)], none⟩,
  ⟨(some 93), .un .not (.tmp 92), none⟩])
 (.cond (.tmp 93) (.seq (.reg [⟨(some 8), .mv (.const (.bool false)), none⟩])
 (.ret)) (.skip)))
 (.seq (.reg [⟨(some 19), .mv (.const (.int .i64 1)), none⟩])
 (.seq (.reg [⟨(some 94), .ld (some 6) (.tmp 13), none⟩,
  ⟨(some 95), .mv (.tmp 19), none⟩,
  ⟨(some 96), .call (.func 49) [(.tmp 94), (.tmp 95)], none⟩,
  ⟨(some 19), .mv (.tmp 96), none⟩])
 (.seq (.reg [⟨(some 97), .mv (.tmp 14), none⟩,
  ⟨(some 98), .mv (.tmp 19), none⟩,
  ⟨(some 99), .call (.func 56) [(.tmp 97), (.tmp 98)], none⟩,
  ⟨(some 19), .mv (.tmp 99), none⟩])
 (.seq (.reg [⟨(some 100), .mv (.tmp 15), none⟩,
  ⟨(some 101), .mv (.tmp 19), none⟩,
  ⟨(some 102), .call (.func 53) [(.tmp 100), (.tmp 101)], none⟩,
  ⟨(some 19), .mv (.tmp 102), none⟩])
 (.seq (.seq (.reg [⟨(some 103), .mv (.tmp 19), none⟩,
  ⟨(some 104), .bin .lss (.tmp 103) (.const (.int .i64 0)), none⟩,
  ⟨(some 105), .mv (.tmp 104), none⟩,
  ⟨(some 106), .mv (.tmp 16), (some (105, false))⟩,
  ⟨(some 107), .mv (.tmp 10), (some (105, false))⟩,
  ⟨(some 108), .call (.func 52) [(.tmp 106), (.tmp 107)], (some (105, false))⟩,
  ⟨(some 109), .un .not (.tmp 108), (some (105, false))⟩,
  ⟨(some 110), .pick (.tmp 105) (.const (.bool true)) (.tmp 109), none⟩,
  ⟨(some 111), .mv (.tmp 110), none⟩,
  ⟨(some 112), .mv (.tmp 17), (some (111, false))⟩,
  ⟨(some 113), .mv (.tmp 11), (some (111, false))⟩,
  ⟨(some 114), .bin .neq (.tmp 112) (.tmp 113), (some (111, false))⟩,
  ⟨(some 115), .pick (.tmp 111) (.const (.bool true)) (.tmp 114), none⟩,
  ⟨(some 116), .mv (.tmp 115), none⟩,
  ⟨(some 117), .mv (.tmp 18), (some (116, false))⟩,
  ⟨(some 118), .mv (.tmp 12), (some (116, false))⟩,
  ⟨(some 119), .beq true (.tmp 117) (.tmp 118), (some (116, false))⟩,
  ⟨(some 120), .pick (.tmp 116) (.const (.bool true)) (.tmp 119), none⟩])
 (.cond (.tmp 120) (.seq (.reg [⟨(some 8), .mv (.const (.bool false)), none⟩])
 (.ret)) (.skip)))
 (.seq (.reg [⟨(some 20), .mv (.const (.int .i64 1)), none⟩])
 (.seq (.reg [⟨(some 121), .mv (.tmp 16), none⟩,
  ⟨(some 122), .mv (.tmp 20), none⟩,
  ⟨(some 123), .call (.func 53) [(.tmp 121), (.tmp 122)], none⟩,
  ⟨(some 20), .mv (.tmp 123), none⟩])
 (.seq (.reg [⟨(some 21), .mv (.const (.int .i64 1)), none⟩])
 (.seq (.reg [⟨(some 124), .mv (.tmp 16), none⟩,
  ⟨(some 125), .mv (.tmp 21), none⟩,
  ⟨(some 126), .call (.func 54) [(.tmp 124), (.tmp 125)], none⟩,
  ⟨(some 21), .mv (.tmp 126), none⟩])
 (.seq (.seq (.reg [⟨(some 127), .mv (.tmp 21), none⟩,
  ⟨(some 128), .bin .lss (.tmp 127) (.const (.int .i64 0)), none⟩])
 (.cond (.tmp 128) (.seq (.reg [⟨(some 8), .mv (.const (.bool false)), none⟩])
 (.ret)) (.skip)))
 (.seq (.seq (.reg [⟨(some 129), .mv (.tmp 21), none⟩,
  ⟨(some 130), .mv (.tmp 20), none⟩,
  ⟨(some 131), .bin .neq (.tmp 129) (.tmp 130), none⟩])
 (.cond (.tmp 131) (.seq (.reg [⟨(some 8), .mv (.const (.bool false)), none⟩])
 (.ret)) (.skip)))
 (.seq (.reg [⟨(some 133), .ld (some 6) (.tmp 4), none⟩,
  ⟨(some 134), .call (.func 46) [(.tmp 133)], none⟩,
  ⟨(some 135), .mv (.tmp 1), none⟩,
  ⟨(some 136), .call (.func 60) [(.tmp 135)], none⟩,
  ⟨(some 137), .mv (.tmp 2), none⟩,
  ⟨(some 138), .mv (.tmp 3), none⟩,
  ⟨(some 139), .call (.func 58) [(.tmp 138)], none⟩,
  ⟨(some 140), .call (.func 66) [(.tmp 134), (.tmp 136), (.tmp 137), (.tmp 139)], none⟩,
  ⟨(some 132), .mv (.tmp 140), none⟩,
  ⟨(some 141), .ext 0 (.tmp 132), none⟩,
  ⟨(some 142), .ext 1 (.tmp 132), none⟩,
  ⟨(some 143), .ext 2 (.tmp 132), none⟩,
  ⟨(some 22), .mv (.tmp 141), none⟩,
  ⟨(some 23), .mv (.tmp 142), none⟩,
  ⟨(some 24), .mv (.tmp 143), none⟩])
 (.seq (.seq (.reg [⟨(some 144), .mv (.tmp 22), none⟩,
  ⟨(some 145), .mv (.tmp 10), none⟩,
  ⟨(some 146), .call (.func 52) [(.tmp 144), (.tmp 145)], none⟩,
  ⟨(some 147), .un .not (.tmp 146), none⟩,
  ⟨(some 148), .mv (.tmp 147), none⟩,
  ⟨(some 149), .mv (.tmp 23), (some (148, false))⟩,
  ⟨(some 150), .mv (.tmp 11), (some (148, false))⟩,
  ⟨(some 151), .bin .neq (.tmp 149) (.tmp 150), (some (148, false))⟩,
  ⟨(some 152), .pick (.tmp 148) (.const (.bool true)) (.tmp 151), none⟩,
  ⟨(some 153), .mv (.tmp 152), none⟩,
  ⟨(some 154), .mv (.tmp 24), (some (153, false))⟩,
  ⟨(some 155), .mv (.tmp 12), (some (153, false))⟩,
  ⟨(some 156), .beq true (.tmp 154) (.tmp 155), (some (153, false))⟩,
  ⟨(some 157), .pick (.tmp 153) (.const (.bool true)) (.tmp 156), none⟩])
 (.cond (.tmp 157) (.seq (.reg [⟨(some 8), .mv (.const (.bool false)), none⟩])
 (.ret)) (.skip)))
 (.seq (.reg [⟨(some 21), .mv (.const (.int .i64 1)), none⟩])
 (.seq (.reg [⟨(some 158), .mv (.tmp 16), none⟩,
  ⟨(some 159), .mv (.tmp 21), none⟩,
  ⟨(some 160), .call (.func 54) [(.tmp 158), (.tmp 159)], none⟩,
  ⟨(some 21), .mv (.tmp 160), none⟩])
 (.seq (.seq (.reg [⟨(some 161), .mv (.tmp 21), none⟩,
  ⟨(some 162), .bin .lss (.tmp 161) (.const (.int .i64 0)), none⟩])
 (.cond (.tmp 162) (.seq (.reg [⟨(some 8), .mv (.const (.bool false)), none⟩])
 (.ret)) (.skip)))
 (.seq (.seq (.reg [⟨(some 163), .mv (.tmp 21), none⟩,
  ⟨(some 164), .mv (.tmp 20), none⟩,
  ⟨(some 165), .bin .neq (.tmp 163) (.tmp 164), none⟩])
 (.cond (.tmp 165) (.seq (.reg [⟨(some 8), .mv (.const (.bool false)), none⟩])
 (.ret)) (.skip)))
 (.seq (.reg [⟨(some 8), .mv (.const (.bool true)), none⟩])
 (.ret))))))))))))))))))))))))))))))))))
def r_laws_FnExactTraceLevels : List ARes := [.tmp 8]
theorem ok_laws_FnExactTraceLevels : FnOk Try.prog 16 166 c_laws_FnExactTraceLevels r_laws_FnExactTraceLevels := ⟨⟨Try.f16, _, Try.func16, by kernel_rfl, rfl, rfl, by kernel_rfl, by kernel_rfl⟩⟩
end Go.Proofs.Ytddnedngjijpoaa.Ab
