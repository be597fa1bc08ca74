/- The compiled forms of functions, each checked against the translation. -/
import Derived.Test.YtnkbjliidenldaaAb2
import Derived.Test.YtnkbjliidenldaaProg
namespace Go.Proofs.Ytnkbjliidenldaa.Ab
open Go Go.RowKit Go.Proofs
set_option maxRecDepth 100000
def c_laws_FnExactParcelStocks : ACode := .seq (.reg [⟨(some 6), .mv (.const (.bool false)), none⟩])
 (.seq (.seq (.reg [⟨(some 19), .mv (.tmp 2), none⟩,
  ⟨(some 20), .len (.tmp 19), none⟩,
  ⟨(some 21), .bin .gtr (.tmp 20) (.const (.int .i64 1048576)), none⟩])
 (.cond (.tmp 21) (.seq (.reg [⟨(some 6), .mv (.const (.bool true)), none⟩])
 (.ret)) (.skip)))
 (.seq (.reg [⟨(some 7), .mv (.const (.int .i64 1048576)), none⟩])
 (.seq (.reg [⟨(some 22), .mv (.tmp 1), none⟩,
  ⟨(some 23), .mv (.tmp 7), none⟩,
  ⟨(some 24), .call (.func 50) [(.tmp 22), (.tmp 23)], none⟩,
  ⟨(some 7), .mv (.tmp 24), none⟩])
 (.seq (.seq (.reg [⟨(some 25), .mv (.tmp 7), none⟩,
  ⟨(some 26), .bin .lss (.tmp 25) (.const (.int .i64 0)), none⟩])
 (.cond (.tmp 26) (.seq (.reg [⟨(some 6), .mv (.const (.bool true)), none⟩])
 (.ret)) (.skip)))
 (.seq (.reg [⟨(some 28), .mv (.tmp 0), none⟩,
  ⟨(some 29), .mv (.tmp 1), none⟩,
  ⟨(some 30), .call (.func 52) [(.tmp 29)], none⟩,
  ⟨(some 31), .mv (.tmp 2), none⟩,
  ⟨(some 32), .call (.func 35) [(.tmp 31)], none⟩,
  ⟨(some 33), .call (.func 64) [(.tmp 28), (.tmp 30), (.tmp 32)], none⟩,
  ⟨(some 27), .mv (.tmp 33), none⟩,
  ⟨(some 34), .ext 0 (.tmp 27), none⟩,
  ⟨(some 35), .ext 1 (.tmp 27), none⟩,
  ⟨(some 8), .mv (.tmp 34), none⟩,
  ⟨(some 9), .mv (.tmp 35), none⟩])
 (.seq (.reg [⟨(some 36), .mv (.tmp 1), none⟩,
  ⟨(some 37), .call (.func 52) [(.tmp 36)], none⟩,
  ⟨(some 10), .mv (.tmp 37), none⟩])
 (.seq (.reg [⟨(some 38), .mv (.tmp 2), none⟩,
  ⟨(some 39), .call (.func 35) [(.tmp 38)], none⟩,
  ⟨(some 11), .mv (.tmp 39), none⟩])
 (.seq (.reg [⟨(some 41), .mv (.tmp 0), none⟩,
  ⟨(some 42), .mv (.tmp 10), none⟩,
  ⟨(some 43), .mv (.tmp 11), none⟩,
  ⟨(some 44), .call (.func 65) [(.tmp 41), (.tmp 42), (.tmp 43)], none⟩,
  ⟨(some 40), .mv (.tmp 44), none⟩,
  ⟨(some 45), .ext 0 (.tmp 40), none⟩,
  ⟨(some 46), .ext 1 (.tmp 40), none⟩,
  ⟨(some 12), .mv (.tmp 45), none⟩,
  ⟨(some 13), .mv (.tmp 46), none⟩])
 (.seq (.seq (.reg [⟨(some 47), .mv (.tmp 12), none⟩,
  ⟨(some 48), .mv (.tmp 8), none⟩,
  ⟨(some 49), .call (.func 37) [(.tmp 47), (.tmp 48)], none⟩,
  ⟨(some 50), .un .not (.tmp 49), none⟩,
  ⟨(some 51), .mv (.tmp 50), none⟩,
  ⟨(some 52), .mv (.tmp 13), (some (51, false))⟩,
  ⟨(some 53), .mv (.tmp 9), (some (51, false))⟩,
  ⟨(some 54), .beq true (.tmp 52) (.tmp 53), (some (51, false))⟩,
  ⟨(some 55), .pick (.tmp 51) (.const (.bool true)) (.tmp 54), none⟩])
 (.cond (.tmp 55) (.seq (.reg [⟨(some 6), .mv (.const (.bool false)), none⟩])
 (.ret)) (.skip)))
 (.seq (.seq (.reg [⟨(some 56), .mv (.tmp 10), none⟩,
  ⟨(some 57), .mv (.tmp 1), none⟩,
  ⟨(some 58), .call (.func 52) [(.tmp 57)], none⟩,
  ⟨(some 59), .call (.func 54) [(.tmp 56), (.tmp 58)], none⟩,
  ⟨(some 60), .un .not (.tmp 59), none⟩])
 (.cond (.tmp 60) (.seq (.reg [⟨(some 6), .mv (.const (.bool false)), none⟩])
 (.ret)) (.skip)))
 (.seq (.seq (.reg [⟨(some 61), .mv (.tmp 11), none⟩,
  ⟨(some 62), .mv (.tmp 2), none⟩,
  ⟨(some 63), .call (.func 35) [(.tmp 62)], none⟩,
  ⟨(some 64), .call (.func 37) [(.tmp 61), (.tmp 63)], none⟩,
  ⟨(some 65), .un .not (.tmp 64), none⟩])
 (.cond (.tmp 65) (.seq (.reg [⟨(some 6), .mv (.const (.bool false)), none⟩])
 (.ret)) (.skip)))
 (.seq (.reg [⟨(some 14), .mv (.const (.int .i64 1)), none⟩])
 (.seq (.reg [⟨(some 66), .mv (.tmp 10), none⟩,
  ⟨(some 67), .mv (.tmp 14), none⟩,
  ⟨(some 68), .call (.func 55) [(.tmp 66), (.tmp 67)], none⟩,
  ⟨(some 14), .mv (.tmp 68), none⟩])
 (.seq (.reg [⟨(some 69), .mv (.tmp 11), none⟩,
  ⟨(some 70), .mv (.tmp 14), none⟩,
  ⟨(some 71), .call (.func 38) [(.tmp 69), (.tmp 70)], none⟩,
  ⟨(some 14), .mv (.tmp 71), none⟩])
 (.seq (.seq (.reg [⟨(some 72), .mv (.tmp 14), none⟩,
  ⟨(some 73), .bin .lss (.tmp 72) (.const (.int .i64 0)), none⟩,
  ⟨(some 74), .mv (.tmp 73), none⟩,
  ⟨(some 75), .mv (.tmp 12), (some (74, false))⟩,
  ⟨(some 76), .mv (.tmp 8), (some (74, false))⟩,
  ⟨(some 77), .call (.func 37) [(.tmp 75), (.tmp 76)], (some (74, false))⟩,
  ⟨(some 78), .un .not (.tmp 77), (some (74, false))⟩,
  ⟨(some 79), .pick (.tmp 74) (.const (.bool true)) (.tmp 78), none⟩,
  ⟨(some 80), .mv (.tmp 79), none⟩,
  ⟨(some 81), .mv (.tmp 13), (some (80, false))⟩,
  ⟨(some 82), .mv (.tmp 9), (some (80, false))⟩,
  ⟨(some 83), .beq true (.tmp 81) (.tmp 82), (some (80, false))⟩,
  ⟨(some 84), .pick (.tmp 80) (.const (.bool true)) (.tmp 83), none⟩])
 (.cond (.tmp 84) (.seq (.reg [⟨(some 6), .mv (.const (.bool false)), none⟩])
 (.ret)) (.skip)))
 (.seq (.reg [⟨(some 15), .mv (.const (.int .i64 1)), none⟩])
 (.seq (.reg [⟨(some 85), .mv (.tmp 12), none⟩,
  ⟨(some 86), .mv (.tmp 15), none⟩,
  ⟨(some 87), .call (.func 38) [(.tmp 85), (.tmp 86)], none⟩,
  ⟨(some 15), .mv (.tmp 87), none⟩])
 (.seq (.reg [⟨(some 16), .mv (.const (.int .i64 1)), none⟩])
 (.seq (.reg [⟨(some 88), .mv (.tmp 12), none⟩,
  ⟨(some 89), .mv (.tmp 16), none⟩,
  ⟨(some 90), .call (.func 39) [(.tmp 88), (.tmp 89)], none⟩,
  ⟨(some 16), .mv (.tmp 90), none⟩])
 (.seq (.seq (.reg [⟨(some 91), .mv (.tmp 16), none⟩,
  ⟨(some 92), .bin .lss (.tmp 91) (.const (.int .i64 0)), none⟩])
 (.cond (.tmp 92) (.seq (.reg [⟨(some 6), .mv (.const (.bool false)), none⟩])
 (.ret)) (.skip)))
 (.seq (.seq (.reg [⟨(some 93), .mv (.tmp 16), none⟩,
  ⟨(some 94), .mv (.tmp 15), none⟩,
  ⟨(some 95), .bin .neq (.tmp 93) (.tmp 94), none⟩])
 (.cond (.tmp 95) (.seq (.reg [⟨(some 6), .mv (.const (.bool false)), none⟩])
 (.ret)) (.skip)))
 (.seq (.reg [⟨(some 97), .mv (.tmp 0), none⟩,
  ⟨(some 98), .mv (.tmp 1), none⟩,
  ⟨(some 99), .call (.func 52) [(.tmp 98)], none⟩,
  ⟨(some 100), .mv (.tmp 2), none⟩,
  ⟨(some 101), .call (.func 35) [(.tmp 100)], none⟩,
  ⟨(some 102), .call (.func 65) [(.tmp 97), (.tmp 99), (.tmp 101)], none⟩,
  ⟨(some 96), .mv (.tmp 102), none⟩,
  ⟨(some 103), .ext 0 (.tmp 96), none⟩,
  ⟨(some 104), .ext 1 (.tmp 96), none⟩,
  ⟨(some 17), .mv (.tmp 103), none⟩,
  ⟨(some 18), .mv (.tmp 104), none⟩])
 (.seq (.seq (.reg [⟨(some 105), .mv (.tmp 17), none⟩,
  ⟨(some 106), .mv (.tmp 8), none⟩,
  ⟨(some 107), .call (.func 37) [(.tmp 105), (.tmp 106)], none⟩,
  ⟨(some 108), .un .not (.tmp 107), none⟩,
  ⟨(some 109), .mv (.tmp 108), none⟩,
  ⟨(some 110), .mv (.tmp 18), (some (109, false))⟩,
  ⟨(some 111), .mv (.tmp 9), (some (109, false))⟩,
  ⟨(some 112), .beq true (.tmp 110) (.tmp 111), (some (109, false))⟩,
  ⟨(some 113), .pick (.tmp 109) (.const (.bool true)) (.tmp 112), none⟩])
 (.cond (.tmp 113) (.seq (.reg [⟨(some 6), .mv (.const (.bool false)), none⟩])
 (.ret)) (.skip)))
 (.seq (.reg [⟨(some 16), .mv (.const (.int .i64 1)), none⟩])
 (.seq (.reg [⟨(some 114), .mv (.tmp 12), none⟩,
  ⟨(some 115), .mv (.tmp 16), none⟩,
  ⟨(some 116), .call (.func 39) [(.tmp 114), (.tmp 115)], none⟩,
  ⟨(some 16), .mv (.tmp 116), none⟩])
 (.seq (.seq (.reg [⟨(some 117), .mv (.tmp 16), none⟩,
  ⟨(some 118), .bin .lss (.tmp 117) (.const (.int .i64 0)), none⟩])
 (.cond (.tmp 118) (.seq (.reg [⟨(some 6), .mv (.const (.bool false)), none⟩])
 (.ret)) (.skip)))
 (.seq (.seq (.reg [⟨(some 119), .mv (.tmp 16), none⟩,
  ⟨(some 120), .mv (.tmp 15), none⟩,
  ⟨(some 121), .bin .neq (.tmp 119) (.tmp 120), none⟩])
 (.cond (.tmp 121) (.seq (.reg [⟨(some 6), .mv (.const (.bool false)), none⟩])
 (.ret)) (.skip)))
 (.seq (.reg [⟨(some 6), .mv (.const (.bool true)), none⟩])
 (.ret)))))))))))))))))))))))))))))
def r_laws_FnExactParcelStocks : List ARes := [.tmp 6]
theorem ok_laws_FnExactParcelStocks : FnOk Try.prog 17 122 c_laws_FnExactParcelStocks r_laws_FnExactParcelStocks := ⟨⟨Try.f17, _, Try.func17, by kernel_rfl, rfl, rfl, by kernel_rfl, by kernel_rfl⟩⟩
end Go.Proofs.Ytnkbjliidenldaa.Ab
