/- The compiled forms of functions, each checked against the translation. -/
import Derived.Test.YtfdpieeopdhcmaaAb2
import Derived.Test.YtfdpieeopdhcmaaProg
namespace Go.Proofs.Ytfdpieeopdhcmaa.Ab
open Go Go.RowKit Go.Proofs
set_option maxRecDepth 100000
def c_laws_FnTriggers : ACode := .seq (.reg [⟨(some 2), .mv (.const (.bool false)), none⟩])
 (.seq (.seq (.reg [⟨(some 28), .mv (.tmp 0), none⟩,
  ⟨(some 29), .call (.func 23) [(.tmp 28)], none⟩])
 (.cond (.tmp 29) (.seq (.reg [⟨(some 2), .mv (.const (.bool true)), none⟩])
 (.ret)) (.skip)))
 (.seq (.reg [⟨(some 31), .mv (.tmp 0), none⟩,
  ⟨(some 32), .call (.func 64) [(.tmp 31)], none⟩,
  ⟨(some 30), .mv (.tmp 32), none⟩,
  ⟨(some 33), .ext 0 (.tmp 30), none⟩,
  ⟨(some 34), .ext 1 (.tmp 30), none⟩,
  ⟨(some 35), .ext 2 (.tmp 30), none⟩,
  ⟨(some 36), .ext 3 (.tmp 30), none⟩,
  ⟨(some 37), .ext 4 (.tmp 30), none⟩,
  ⟨(some 38), .ext 5 (.tmp 30), none⟩,
  ⟨(some 3), .mv (.tmp 33), none⟩,
  ⟨(some 4), .mv (.tmp 34), none⟩,
  ⟨(some 5), .mv (.tmp 35), none⟩,
  ⟨(some 6), .mv (.tmp 36), none⟩,
  ⟨(some 7), .mv (.tmp 37), none⟩,
  ⟨(some 8), .mv (.tmp 38), none⟩])
 (.seq (.reg [⟨(some 40), .mv (.tmp 3), none⟩,
  ⟨(some 41), .mv (.tmp 4), none⟩,
  ⟨(some 42), .mv (.tmp 5), none⟩,
  ⟨(some 43), .mv (.tmp 6), none⟩,
  ⟨(some 44), .mv (.tmp 7), none⟩,
  ⟨(some 45), .mv (.tmp 8), none⟩,
  ⟨(some 46), .call (.func 65) [(.tmp 40), (.tmp 41), (.tmp 42), (.tmp 43), (.tmp 44), (.tmp 45)], none⟩,
  ⟨(some 39), .mv (.tmp 46), none⟩,
  ⟨(some 47), .ext 0 (.tmp 39), none⟩,
  ⟨(some 48), .ext 1 (.tmp 39), none⟩,
  ⟨(some 9), .mv (.tmp 47), none⟩,
  ⟨(some 10), .mv (.tmp 48), none⟩])
 (.seq (.reg [⟨(some 50), .mv (.tmp 3), none⟩,
  ⟨(some 51), .mv (.tmp 4), none⟩,
  ⟨(some 52), .mv (.tmp 5), none⟩,
  ⟨(some 53), .mv (.tmp 6), none⟩,
  ⟨(some 54), .mv (.tmp 7), none⟩,
  ⟨(some 55), .mv (.tmp 8), none⟩,
  ⟨(some 56), .call (.func 66) [(.tmp 50), (.tmp 51), (.tmp 52), (.tmp 53), (.tmp 54), (.tmp 55)], none⟩,
  ⟨(some 49), .mv (.tmp 56), none⟩,
  ⟨(some 57), .ext 0 (.tmp 49), none⟩,
  ⟨(some 58), .ext 1 (.tmp 49), none⟩,
  ⟨(some 11), .mv (.tmp 57), none⟩,
  ⟨(some 12), .mv (.tmp 58), none⟩])
 (.seq (.reg [⟨(some 60), .mv (.tmp 0), none⟩,
  ⟨(some 61), .call (.func 30) [(.tmp 60), (.const (.int .i64 1))], none⟩,
  ⟨(some 62), .call (.func 67) [(.tmp 61)], none⟩,
  ⟨(some 59), .mv (.tmp 62), none⟩,
  ⟨(some 63), .ext 0 (.tmp 59), none⟩,
  ⟨(some 64), .ext 1 (.tmp 59), none⟩,
  ⟨(some 65), .ext 2 (.tmp 59), none⟩,
  ⟨(some 66), .ext 3 (.tmp 59), none⟩,
  ⟨(some 67), .ext 4 (.tmp 59), none⟩,
  ⟨(some 13), .mv (.tmp 63), none⟩,
  ⟨(some 14), .mv (.tmp 64), none⟩,
  ⟨(some 15), .mv (.tmp 65), none⟩,
  ⟨(some 16), .mv (.tmp 66), none⟩,
  ⟨(some 17), .mv (.tmp 67), none⟩])
 (.seq (.reg [⟨(some 69), .mv (.tmp 13), none⟩,
  ⟨(some 70), .mv (.tmp 14), none⟩,
  ⟨(some 71), .mv (.tmp 15), none⟩,
  ⟨(some 72), .mv (.tmp 16), none⟩,
  ⟨(some 73), .mv (.tmp 17), none⟩,
  ⟨(some 74), .call (.func 68) [(.tmp 69), (.tmp 70), (.tmp 71), (.tmp 72), (.tmp 73)], none⟩,
  ⟨(some 68), .mv (.tmp 74), none⟩,
  ⟨(some 75), .ext 0 (.tmp 68), none⟩,
  ⟨(some 76), .ext 1 (.tmp 68), none⟩,
  ⟨(some 18), .mv (.tmp 75), none⟩,
  ⟨(some 19), .mv (.tmp 76), none⟩])
 (.seq (.reg [⟨(some 78), .mv (.tmp 13), none⟩,
  ⟨(some 79), .mv (.tmp 14), none⟩,
  ⟨(some 80), .mv (.tmp 15), none⟩,
  ⟨(some 81), .mv (.tmp 16), none⟩,
  ⟨(some 82), .mv (.tmp 17), none⟩,
  ⟨(some 83), .call (.func 69) [(.tmp 78), (.tmp 79), (.tmp 80), (.tmp 81), (.tmp 82)], none⟩,
  ⟨(some 77), .mv (.tmp 83), none⟩,
  ⟨(some 84), .ext 0 (.tmp 77), none⟩,
  ⟨(some 85), .ext 1 (.tmp 77), none⟩,
  ⟨(some 20), .mv (.tmp 84), none⟩,
  ⟨(some 21), .mv (.tmp 85), none⟩])
 (.seq (.seq (.reg [⟨(some 86), .mv (.tmp 9), none⟩,
  ⟨(some 87), .mv (.tmp 11), none⟩,
  ⟨(some 88), .bin .neq (.tmp 86) (.tmp 87), none⟩,
  ⟨(some 89), .mv (.tmp 88), none⟩,
  ⟨(some 90), .mv (.tmp 10), (some (89, false))⟩,
  ⟨(some 91), .mv (.tmp 12), (some (89, false))⟩,
  ⟨(some 92), .beq true (.tmp 90) (.tmp 91), (some (89, false))⟩,
  ⟨(some 93), .pick (.tmp 89) (.const (.bool true)) (.tmp 92), none⟩,
  ⟨(some 94), .mv (.tmp 93), none⟩,
  ⟨(some 95), .mv (.tmp 18), (some (94, false))⟩,
  ⟨(some 96), .mv (.tmp 20), (some (94, false))⟩,
  ⟨(some 97), .bin .neq (.tmp 95) (.tmp 96), (some (94, false))⟩,
  ⟨(some 98), .pick (.tmp 94) (.const (.bool true)) (.tmp 97), none⟩,
  ⟨(some 99), .mv (.tmp 98), none⟩,
  ⟨(some 100), .mv (.tmp 19), (some (99, false))⟩,
  ⟨(some 101), .mv (.tmp 21), (some (99, false))⟩,
  ⟨(some 102), .beq true (.tmp 100) (.tmp 101), (some (99, false))⟩,
  ⟨(some 103), .pick (.tmp 99) (.const (.bool true)) (.tmp 102), none⟩,
  ⟨(some 104), .mv (.tmp 103), none⟩,
  ⟨(some 105), .mv (.tmp 10), (some (104, false))⟩,
  ⟨(some 106), .mv (.tmp 105), (some (104, false))⟩,
  ⟨(some 107), .mv (.tmp 9), (some (106, true))⟩,
  ⟨(some 108), .mv (.tmp 8), (some (106, true))⟩,
  ⟨(some 109), .bin .lss (.tmp 107) (.tmp 108), (some (106, true))⟩,
  ⟨(some 110), .pick (.tmp 106) (.tmp 109) (.const (.bool false)), (some (104, false))⟩,
  ⟨(some 111), .pick (.tmp 104) (.const (.bool true)) (.tmp 110), none⟩])
 (.cond (.tmp 111) (.seq (.reg [⟨(some 2), .mv (.const (.bool false)), none⟩])
 (.ret)) (.skip)))
 (.seq (.seq (.reg [⟨(some 112), .mv (.tmp 10), none⟩,
  ⟨(some 113), .mv (.tmp 112), none⟩,
  ⟨(some 114), .mv (.tmp 7), (some (113, true))⟩,
  ⟨(some 115), .bin .eql (.tmp 114) (.const (.int .i64 0)), (some (113, true))⟩,
  ⟨(some 116), .pick (.tmp 113) (.tmp 115) (.const (.bool false)), none⟩,
  ⟨(some 117), .mv (.tmp 116), none⟩,
  ⟨(some 118), .mv (.tmp 6), (some (117, true))⟩,
  ⟨(some 119), .bin .eql (.tmp 118) (.const (.int .i64 0)), (some (117, true))⟩,
  ⟨(some 120), .pick (.tmp 117) (.tmp 119) (.const (.bool false)), none⟩])
 (.cond (.tmp 120) (.seq (.reg [⟨(some 122), .mv (.tmp 3), none⟩,
  ⟨(some 123), .mv (.tmp 4), none⟩,
  ⟨(some 124), .mv (.tmp 5), none⟩,
  ⟨(some 125), .call (.func 25) [(.tmp 122), (.tmp 123), (.tmp 124)], none⟩,
  ⟨(some 121), .mv (.tmp 125), none⟩,
  ⟨(some 126), .ext 0 (.tmp 121), none⟩,
  ⟨(some 127), .ext 1 (.tmp 121), none⟩,
  ⟨(some 22), .mv (.tmp 126), none⟩,
  ⟨(some 23), .mv (.tmp 127), none⟩])
 (.seq (.reg [⟨(some 128), .mv (.tmp 8), none⟩,
  ⟨(some 129), .mv (.tmp 22), none⟩,
  ⟨(some 130), .bin .leq (.tmp 128) (.tmp 129), none⟩,
  ⟨(some 131), .mv (.tmp 130), none⟩,
  ⟨(some 132), .mv (.tmp 9), (some (131, true))⟩,
  ⟨(some 133), .mv (.tmp 22), (some (131, true))⟩,
  ⟨(some 134), .bin .neq (.tmp 132) (.tmp 133), (some (131, true))⟩,
  ⟨(some 135), .pick (.tmp 131) (.tmp 134) (.const (.bool false)), none⟩])
 (.cond (.tmp 135) (.seq (.reg [⟨(some 2), .mv (.const (.bool false)), none⟩])
 (.ret)) (.skip)))) (.skip)))
 (.seq (.seq (.reg [⟨(some 136), .mv (.tmp 19), none⟩,
  ⟨(some 137), .un .not (.tmp 136), none⟩])
 (.cond (.tmp 137) (.seq (.reg [⟨(some 2), .mv (.const (.bool true)), none⟩])
 (.ret)) (.skip)))
 (.seq (.reg [⟨(some 24), .mv (.const (.int .i64 (-1))), none⟩])
 (.seq (.seq (.reg [⟨(some 25), .mv (.const (.int .i64 0)), none⟩])
 (.block 0 (.loop (.seq (.seq (.reg [⟨(some 138), .mv (.tmp 25), none⟩,
  ⟨(some 139), .bin .leq (.tmp 138) (.const (.int .i64 15)), none⟩])
 (.cond (.tmp 139) (.skip) (.exit 0)))
 (.seq (.block 1 (.seq (.reg [⟨(some 143), .mv (.tmp 13), none⟩,
  ⟨(some 144), .mv (.tmp 14), none⟩,
  ⟨(some 145), .mv (.tmp 15), none⟩,
  ⟨(some 146), .mv (.tmp 16), none⟩,
  ⟨(some 147), .mv (.tmp 17), none⟩,
  ⟨(some 148), .mv (.tmp 25), none⟩,
  ⟨(some 149), .call (.func 65) [(.tmp 143), (.tmp 144), (.tmp 145), (.tmp 146), (.tmp 147), (.tmp 148)], none⟩,
  ⟨(some 142), .mv (.tmp 149), none⟩,
  ⟨(some 150), .ext 0 (.tmp 142), none⟩,
  ⟨(some 151), .ext 1 (.tmp 142), none⟩,
  ⟨(some 26), .mv (.tmp 150), none⟩,
  ⟨(some 27), .mv (.tmp 151), none⟩])
 (.seq (.seq (.reg [⟨(some 152), .mv (.tmp 27), none⟩,
  ⟨(some 153), .un .not (.tmp 152), none⟩,
  ⟨(some 154), .mv (.tmp 153), none⟩,
  ⟨(some 155), .mv (.tmp 26), (some (154, false))⟩,
  ⟨(some 156), .mv (.tmp 25), (some (154, false))⟩,
  ⟨(some 157), .bin .gtr (.tmp 155) (.tmp 156), (some (154, false))⟩,
  ⟨(some 158), .mv (.tmp 25), (some (154, false))⟩,
  ⟨(some 159), .mv (.tmp 18), (some (154, false))⟩,
  ⟨(some 160), .bin .leq (.tmp 158) (.tmp 159), (some (154, false))⟩,
  ⟨(some 161), .beq true (.tmp 157) (.tmp 160), (some (154, false))⟩,
  ⟨(some 162), .pick (.tmp 154) (.const (.bool true)) (.tmp 161), none⟩])
 (.cond (.tmp 162) (.seq (.reg [⟨(some 2), .mv (.const (.bool false)), none⟩])
 (.ret)) (.skip)))
 (.seq (.reg [⟨(some 163), .mv (.tmp 26), none⟩,
  ⟨(some 164), .mv (.tmp 25), none⟩,
  ⟨(some 165), .bin .gtr (.tmp 163) (.tmp 164), none⟩])
 (.cond (.tmp 165) (.seq (.seq (.reg [⟨(some 166), .mv (.tmp 24), none⟩,
  ⟨(some 167), .bin .geq (.tmp 166) (.const (.int .i64 0)), none⟩,
  ⟨(some 168), .mv (.tmp 167), none⟩,
  ⟨(some 169), .mv (.tmp 26), (some (168, true))⟩,
  ⟨(some 170), .mv (.tmp 24), (some (168, true))⟩,
  ⟨(some 171), .bin .neq (.tmp 169) (.tmp 170), (some (168, true))⟩,
  ⟨(some 172), .pick (.tmp 168) (.tmp 171) (.const (.bool false)), none⟩])
 (.cond (.tmp 172) (.seq (.reg [⟨(some 2), .mv (.const (.bool false)), none⟩])
 (.ret)) (.skip)))
 (.reg [⟨(some 173), .mv (.tmp 26), none⟩,
  ⟨(some 24), .mv (.tmp 173), none⟩])) (.skip))))))
 (.reg [⟨(some 140), .mv (.tmp 25), none⟩,
  ⟨(some 141), .bin .add (.tmp 140) (.const (.int .i64 1)), none⟩,
  ⟨(some 25), .mv (.tmp 141), none⟩]))))))
 (.seq (.reg [⟨(some 2), .mv (.const (.bool true)), none⟩])
 (.ret))))))))))))))
def r_laws_FnTriggers : List ARes := [.tmp 2]
theorem ok_laws_FnTriggers : FnOk Try.prog 6 174 c_laws_FnTriggers r_laws_FnTriggers := ⟨⟨Try.f6, _, Try.func6, by kernel_rfl, rfl, rfl, by kernel_rfl, by kernel_rfl⟩⟩
end Go.Proofs.Ytfdpieeopdhcmaa.Ab
