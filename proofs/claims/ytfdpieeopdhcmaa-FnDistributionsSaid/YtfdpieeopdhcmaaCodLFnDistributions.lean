/- The compiled forms of functions, each checked against the translation. -/
import Derived.Test.YtfdpieeopdhcmaaAb2
import Derived.Test.YtfdpieeopdhcmaaProg
namespace Go.Proofs.Ytfdpieeopdhcmaa.Ab
open Go Go.RowKit Go.Proofs
set_option maxRecDepth 100000
def c_laws_FnDistributions : ACode := .seq (.reg [⟨(some 2), .mv (.const (.bool false)), none⟩])
 (.seq (.seq (.reg [⟨(some 33), .mv (.tmp 0), none⟩,
  ⟨(some 34), .call (.func 23) [(.tmp 33)], none⟩])
 (.cond (.tmp 34) (.seq (.reg [⟨(some 2), .mv (.const (.bool true)), none⟩])
 (.ret)) (.skip)))
 (.seq (.reg [⟨(some 36), .mv (.tmp 0), none⟩,
  ⟨(some 37), .call (.func 46) [(.tmp 36)], none⟩,
  ⟨(some 35), .mv (.tmp 37), none⟩,
  ⟨(some 38), .ext 0 (.tmp 35), none⟩,
  ⟨(some 39), .ext 1 (.tmp 35), none⟩,
  ⟨(some 3), .mv (.tmp 38), none⟩,
  ⟨(some 4), .mv (.tmp 39), none⟩])
 (.seq (.reg [⟨(some 41), .mv (.tmp 3), none⟩,
  ⟨(some 42), .mv (.tmp 4), none⟩,
  ⟨(some 43), .call (.func 47) [(.tmp 41), (.tmp 42)], none⟩,
  ⟨(some 40), .mv (.tmp 43), none⟩,
  ⟨(some 44), .ext 0 (.tmp 40), none⟩,
  ⟨(some 45), .ext 1 (.tmp 40), none⟩,
  ⟨(some 5), .mv (.tmp 44), none⟩,
  ⟨(some 6), .mv (.tmp 45), none⟩])
 (.seq (.reg [⟨(some 47), .mv (.tmp 3), none⟩,
  ⟨(some 48), .mv (.tmp 4), none⟩,
  ⟨(some 49), .call (.func 48) [(.tmp 47), (.tmp 48)], none⟩,
  ⟨(some 46), .mv (.tmp 49), none⟩,
  ⟨(some 50), .ext 0 (.tmp 46), none⟩,
  ⟨(some 51), .ext 1 (.tmp 46), none⟩,
  ⟨(some 7), .mv (.tmp 50), none⟩,
  ⟨(some 8), .mv (.tmp 51), none⟩])
 (.seq (.reg [⟨(some 53), .mv (.tmp 0), none⟩,
  ⟨(some 54), .call (.func 30) [(.tmp 53), (.const (.int .i64 1))], none⟩,
  ⟨(some 55), .call (.func 49) [(.tmp 54)], none⟩,
  ⟨(some 52), .mv (.tmp 55), none⟩,
  ⟨(some 56), .ext 0 (.tmp 52), none⟩,
  ⟨(some 57), .ext 1 (.tmp 52), none⟩,
  ⟨(some 9), .mv (.tmp 56), none⟩,
  ⟨(some 10), .mv (.tmp 57), none⟩])
 (.seq (.reg [⟨(some 59), .mv (.tmp 9), none⟩,
  ⟨(some 60), .mv (.tmp 10), none⟩,
  ⟨(some 61), .call (.func 50) [(.tmp 59), (.tmp 60)], none⟩,
  ⟨(some 58), .mv (.tmp 61), none⟩,
  ⟨(some 62), .ext 0 (.tmp 58), none⟩,
  ⟨(some 63), .ext 1 (.tmp 58), none⟩,
  ⟨(some 11), .mv (.tmp 62), none⟩,
  ⟨(some 12), .mv (.tmp 63), none⟩])
 (.seq (.reg [⟨(some 65), .mv (.tmp 9), none⟩,
  ⟨(some 66), .mv (.tmp 10), none⟩,
  ⟨(some 67), .call (.func 51) [(.tmp 65), (.tmp 66)], none⟩,
  ⟨(some 64), .mv (.tmp 67), none⟩,
  ⟨(some 68), .ext 0 (.tmp 64), none⟩,
  ⟨(some 69), .ext 1 (.tmp 64), none⟩,
  ⟨(some 13), .mv (.tmp 68), none⟩,
  ⟨(some 14), .mv (.tmp 69), none⟩])
 (.seq (.reg [⟨(some 71), .mv (.tmp 0), none⟩,
  ⟨(some 72), .call (.func 30) [(.tmp 71), (.const (.int .i64 2))], none⟩,
  ⟨(some 73), .call (.func 52) [(.tmp 72)], none⟩,
  ⟨(some 70), .mv (.tmp 73), none⟩,
  ⟨(some 74), .ext 0 (.tmp 70), none⟩,
  ⟨(some 75), .ext 1 (.tmp 70), none⟩,
  ⟨(some 15), .mv (.tmp 74), none⟩,
  ⟨(some 16), .mv (.tmp 75), none⟩])
 (.seq (.reg [⟨(some 77), .mv (.tmp 15), none⟩,
  ⟨(some 78), .mv (.tmp 16), none⟩,
  ⟨(some 79), .call (.func 53) [(.tmp 77), (.tmp 78)], none⟩,
  ⟨(some 76), .mv (.tmp 79), none⟩,
  ⟨(some 80), .ext 0 (.tmp 76), none⟩,
  ⟨(some 81), .ext 1 (.tmp 76), none⟩,
  ⟨(some 17), .mv (.tmp 80), none⟩,
  ⟨(some 18), .mv (.tmp 81), none⟩])
 (.seq (.reg [⟨(some 83), .mv (.tmp 15), none⟩,
  ⟨(some 84), .mv (.tmp 16), none⟩,
  ⟨(some 85), .call (.func 54) [(.tmp 83), (.tmp 84)], none⟩,
  ⟨(some 82), .mv (.tmp 85), none⟩,
  ⟨(some 86), .ext 0 (.tmp 82), none⟩,
  ⟨(some 87), .ext 1 (.tmp 82), none⟩,
  ⟨(some 19), .mv (.tmp 86), none⟩,
  ⟨(some 20), .mv (.tmp 87), none⟩])
 (.seq (.seq (.reg [⟨(some 88), .mv (.tmp 5), none⟩,
  ⟨(some 89), .mv (.tmp 7), none⟩,
  ⟨(some 90), .beq true (.tmp 88) (.tmp 89), none⟩,
  ⟨(some 91), .mv (.tmp 90), none⟩,
  ⟨(some 92), .mv (.tmp 6), (some (91, false))⟩,
  ⟨(some 93), .mv (.tmp 8), (some (91, false))⟩,
  ⟨(some 94), .beq true (.tmp 92) (.tmp 93), (some (91, false))⟩,
  ⟨(some 95), .pick (.tmp 91) (.const (.bool true)) (.tmp 94), none⟩,
  ⟨(some 96), .mv (.tmp 95), none⟩,
  ⟨(some 97), .mv (.tmp 11), (some (96, false))⟩,
  ⟨(some 98), .mv (.tmp 13), (some (96, false))⟩,
  ⟨(some 99), .beq true (.tmp 97) (.tmp 98), (some (96, false))⟩,
  ⟨(some 100), .pick (.tmp 96) (.const (.bool true)) (.tmp 99), none⟩,
  ⟨(some 101), .mv (.tmp 100), none⟩,
  ⟨(some 102), .mv (.tmp 12), (some (101, false))⟩,
  ⟨(some 103), .mv (.tmp 14), (some (101, false))⟩,
  ⟨(some 104), .beq true (.tmp 102) (.tmp 103), (some (101, false))⟩,
  ⟨(some 105), .pick (.tmp 101) (.const (.bool true)) (.tmp 104), none⟩,
  ⟨(some 106), .mv (.tmp 105), none⟩,
  ⟨(some 107), .mv (.tmp 18), (some (106, false))⟩,
  ⟨(some 108), .mv (.tmp 20), (some (106, false))⟩,
  ⟨(some 109), .beq true (.tmp 107) (.tmp 108), (some (106, false))⟩,
  ⟨(some 110), .pick (.tmp 106) (.const (.bool true)) (.tmp 109), none⟩,
  ⟨(some 111), .mv (.tmp 110), none⟩,
  ⟨(some 112), .mv (.tmp 17), (some (111, false))⟩,
  ⟨(some 113), .mv (.tmp 19), (some (111, false))⟩,
  ⟨(some 114), .call (.func 43) [(.tmp 112), (.tmp 113)], (some (111, false))⟩,
  ⟨(some 115), .un .not (.tmp 114), (some (111, false))⟩,
  ⟨(some 116), .pick (.tmp 111) (.const (.bool true)) (.tmp 115), none⟩])
 (.cond (.tmp 116) (.seq (.reg [⟨(some 2), .mv (.const (.bool false)), none⟩])
 (.ret)) (.skip)))
 (.seq (.seq (.reg [⟨(some 21), .mv (.const (.int .i64 0)), none⟩])
 (.block 0 (.loop (.seq (.seq (.reg [⟨(some 117), .mv (.tmp 21), none⟩,
  ⟨(some 118), .bin .leq (.tmp 117) (.const (.int .i64 6)), none⟩])
 (.cond (.tmp 118) (.skip) (.exit 0)))
 (.seq (.block 1 (.seq (.reg [⟨(some 121), .mv (.tmp 0), none⟩,
  ⟨(some 122), .mv (.tmp 21), none⟩,
  ⟨(some 123), .call (.func 55) [(.tmp 121), (.tmp 122)], none⟩,
  ⟨(some 124), .bin .rem (.tmp 123) (.const (.int .i64 7)), none⟩,
  ⟨(some 22), .mv (.tmp 124), none⟩])
 (.seq (.seq (.reg [⟨(some 125), .mv (.tmp 5), none⟩])
 (.cond (.tmp 125) (.seq (.reg [⟨(some 127), .mv (.tmp 3), none⟩,
  ⟨(some 128), .mv (.tmp 22), none⟩,
  ⟨(some 129), .mv (.tmp 21), none⟩,
  ⟨(some 130), .call (.func 25) [(.tmp 127), (.tmp 128), (.tmp 129)], none⟩,
  ⟨(some 126), .mv (.tmp 130), none⟩,
  ⟨(some 131), .ext 0 (.tmp 126), none⟩,
  ⟨(some 132), .ext 1 (.tmp 126), none⟩,
  ⟨(some 23), .mv (.tmp 131), none⟩,
  ⟨(some 24), .mv (.tmp 132), none⟩])
 (.seq (.reg [⟨(some 134), .mv (.tmp 4), none⟩,
  ⟨(some 135), .mv (.tmp 22), none⟩,
  ⟨(some 136), .mv (.tmp 21), none⟩,
  ⟨(some 137), .call (.func 25) [(.tmp 134), (.tmp 135), (.tmp 136)], none⟩,
  ⟨(some 133), .mv (.tmp 137), none⟩,
  ⟨(some 138), .ext 0 (.tmp 133), none⟩,
  ⟨(some 139), .ext 1 (.tmp 133), none⟩,
  ⟨(some 25), .mv (.tmp 138), none⟩,
  ⟨(some 26), .mv (.tmp 139), none⟩])
 (.seq (.reg [⟨(some 140), .mv (.tmp 23), none⟩,
  ⟨(some 141), .mv (.tmp 25), none⟩,
  ⟨(some 142), .bin .lss (.tmp 140) (.tmp 141), none⟩])
 (.cond (.tmp 142) (.seq (.reg [⟨(some 2), .mv (.const (.bool false)), none⟩])
 (.ret)) (.skip))))) (.skip)))
 (.seq (.seq (.reg [⟨(some 143), .mv (.tmp 11), none⟩,
  ⟨(some 144), .mv (.tmp 143), none⟩,
  ⟨(some 145), .mv (.tmp 9), (some (144, true))⟩,
  ⟨(some 146), .mv (.tmp 22), (some (144, true))⟩,
  ⟨(some 147), .mv (.tmp 21), (some (144, true))⟩,
  ⟨(some 148), .call (.func 56) [(.tmp 145), (.tmp 146), (.tmp 147)], (some (144, true))⟩,
  ⟨(some 149), .mv (.tmp 10), (some (144, true))⟩,
  ⟨(some 150), .call (.func 57) [(.tmp 149)], (some (144, true))⟩,
  ⟨(some 151), .bin .mul (.tmp 148) (.tmp 150), (some (144, true))⟩,
  ⟨(some 152), .mv (.tmp 10), (some (144, true))⟩,
  ⟨(some 153), .mv (.tmp 22), (some (144, true))⟩,
  ⟨(some 154), .mv (.tmp 21), (some (144, true))⟩,
  ⟨(some 155), .call (.func 56) [(.tmp 152), (.tmp 153), (.tmp 154)], (some (144, true))⟩,
  ⟨(some 156), .mv (.tmp 9), (some (144, true))⟩,
  ⟨(some 157), .call (.func 57) [(.tmp 156)], (some (144, true))⟩,
  ⟨(some 158), .bin .mul (.tmp 155) (.tmp 157), (some (144, true))⟩,
  ⟨(some 159), .bin .lss (.tmp 151) (.tmp 158), (some (144, true))⟩,
  ⟨(some 160), .pick (.tmp 144) (.tmp 159) (.const (.bool false)), none⟩])
 (.cond (.tmp 160) (.seq (.reg [⟨(some 2), .mv (.const (.bool false)), none⟩])
 (.ret)) (.skip)))
 (.seq (.reg [⟨(some 161), .mv (.tmp 18), none⟩,
  ⟨(some 162), .mv (.tmp 161), none⟩,
  ⟨(some 163), .mv (.tmp 17), (some (162, true))⟩,
  ⟨(some 164), .mv (.tmp 22), (some (162, true))⟩,
  ⟨(some 165), .mv (.tmp 21), (some (162, true))⟩,
  ⟨(some 166), .call (.func 56) [(.tmp 163), (.tmp 164), (.tmp 165)], (some (162, true))⟩,
  ⟨(some 167), .mv (.tmp 15), (some (162, true))⟩,
  ⟨(some 168), .mv (.tmp 22), (some (162, true))⟩,
  ⟨(some 169), .mv (.tmp 21), (some (162, true))⟩,
  ⟨(some 170), .call (.func 56) [(.tmp 167), (.tmp 168), (.tmp 169)], (some (162, true))⟩,
  ⟨(some 171), .mv (.tmp 16), (some (162, true))⟩,
  ⟨(some 172), .call (.func 57) [(.tmp 171)], (some (162, true))⟩,
  ⟨(some 173), .bin .mul (.tmp 170) (.tmp 172), (some (162, true))⟩,
  ⟨(some 174), .mv (.tmp 16), (some (162, true))⟩,
  ⟨(some 175), .mv (.tmp 22), (some (162, true))⟩,
  ⟨(some 176), .mv (.tmp 21), (some (162, true))⟩,
  ⟨(some 177), .call (.func 56) [(.tmp 174), (.tmp 175), (.tmp 176)], (some (162, true))⟩,
  ⟨(some 178), .mv (.tmp 15), (some (162, true))⟩,
  ⟨(some 179), .call (.func 57) [(.tmp 178)], (some (162, true))⟩,
  ⟨(some 180), .bin .mul (.tmp 177) (.tmp 179), (some (162, true))⟩,
  ⟨(some 181), .bin .add (.tmp 173) (.tmp 180), (some (162, true))⟩,
  ⟨(some 182), .bin .gtr (.tmp 166) (.tmp 181), (some (162, true))⟩,
  ⟨(some 183), .pick (.tmp 162) (.tmp 182) (.const (.bool false)), none⟩])
 (.cond (.tmp 183) (.seq (.reg [⟨(some 2), .mv (.const (.bool false)), none⟩])
 (.ret)) (.skip)))))))
 (.reg [⟨(some 119), .mv (.tmp 21), none⟩,
  ⟨(some 120), .bin .add (.tmp 119) (.const (.int .i64 1)), none⟩,
  ⟨(some 21), .mv (.tmp 120), none⟩]))))))
 (.seq (.seq (.reg [⟨(some 184), .mv (.tmp 18), none⟩,
  ⟨(some 185), .un .not (.tmp 184), none⟩])
 (.cond (.tmp 185) (.seq (.reg [⟨(some 2), .mv (.const (.bool true)), none⟩])
 (.ret)) (.skip)))
 (.seq (.reg [⟨(some 187), .mv (.tmp 17), none⟩,
  ⟨(some 188), .call (.func 37) [(.tmp 187)], none⟩,
  ⟨(some 186), .mv (.tmp 188), none⟩,
  ⟨(some 189), .ext 0 (.tmp 186), none⟩,
  ⟨(some 190), .ext 1 (.tmp 186), none⟩,
  ⟨(some 27), .mv (.tmp 189), none⟩,
  ⟨(some 28), .mv (.tmp 190), none⟩])
 (.seq (.reg [⟨(some 192), .mv (.tmp 15), none⟩,
  ⟨(some 193), .call (.func 37) [(.tmp 192)], none⟩,
  ⟨(some 191), .mv (.tmp 193), none⟩,
  ⟨(some 194), .ext 0 (.tmp 191), none⟩,
  ⟨(some 195), .ext 1 (.tmp 191), none⟩,
  ⟨(some 29), .mv (.tmp 194), none⟩,
  ⟨(some 30), .mv (.tmp 195), none⟩])
 (.seq (.reg [⟨(some 197), .mv (.tmp 16), none⟩,
  ⟨(some 198), .call (.func 37) [(.tmp 197)], none⟩,
  ⟨(some 196), .mv (.tmp 198), none⟩,
  ⟨(some 199), .ext 0 (.tmp 196), none⟩,
  ⟨(some 200), .ext 1 (.tmp 196), none⟩,
  ⟨(some 31), .mv (.tmp 199), none⟩,
  ⟨(some 32), .mv (.tmp 200), none⟩])
 (.seq (.reg [⟨(some 201), .mv (.tmp 32), none⟩,
  ⟨(some 202), .mv (.tmp 201), none⟩,
  ⟨(some 203), .mv (.tmp 27), (some (202, true))⟩,
  ⟨(some 204), .mv (.tmp 29), (some (202, true))⟩,
  ⟨(some 205), .mv (.tmp 16), (some (202, true))⟩,
  ⟨(some 206), .call (.func 57) [(.tmp 205)], (some (202, true))⟩,
  ⟨(some 207), .bin .mul (.tmp 204) (.tmp 206), (some (202, true))⟩,
  ⟨(some 208), .mv (.tmp 31), (some (202, true))⟩,
  ⟨(some 209), .mv (.tmp 15), (some (202, true))⟩,
  ⟨(some 210), .call (.func 57) [(.tmp 209)], (some (202, true))⟩,
  ⟨(some 211), .bin .mul (.tmp 208) (.tmp 210), (some (202, true))⟩,
  ⟨(some 212), .bin .add (.tmp 207) (.tmp 211), (some (202, true))⟩,
  ⟨(some 213), .bin .eql (.tmp 203) (.tmp 212), (some (202, true))⟩,
  ⟨(some 214), .pick (.tmp 202) (.tmp 213) (.const (.bool false)), none⟩,
  ⟨(some 215), .mv (.tmp 214), none⟩,
  ⟨(some 216), .mv (.tmp 17), (some (215, true))⟩,
  ⟨(some 217), .call (.func 57) [(.tmp 216)], (some (215, true))⟩,
  ⟨(some 218), .mv (.tmp 15), (some (215, true))⟩,
  ⟨(some 219), .call (.func 57) [(.tmp 218)], (some (215, true))⟩,
  ⟨(some 220), .mv (.tmp 16), (some (215, true))⟩,
  ⟨(some 221), .call (.func 57) [(.tmp 220)], (some (215, true))⟩,
  ⟨(some 222), .bin .mul (.tmp 219) (.tmp 221), (some (215, true))⟩,
  ⟨(some 223), .bin .eql (.tmp 217) (.tmp 222), (some (215, true))⟩,
  ⟨(some 224), .pick (.tmp 215) (.tmp 223) (.const (.bool false)), none⟩,
  ⟨(some 2), .mv (.tmp 224), none⟩])
 (.ret))))))))))))))))))
def r_laws_FnDistributions : List ARes := [.tmp 2]
theorem ok_laws_FnDistributions : FnOk Try.prog 4 225 c_laws_FnDistributions r_laws_FnDistributions := ⟨⟨Try.f4, _, Try.func4, by kernel_rfl, rfl, rfl, by kernel_rfl, by kernel_rfl⟩⟩
end Go.Proofs.Ytfdpieeopdhcmaa.Ab
