/- The compiled forms of functions, each checked against the translation. -/
import Derived.Test.YtfdpieeopdhcmaaAb2
import Derived.Test.YtfdpieeopdhcmaaProg
namespace Go.Proofs.Ytfdpieeopdhcmaa.Ab
open Go Go.RowKit Go.Proofs
set_option maxRecDepth 100000
def c_laws_FnExactSumOf : ACode := .seq (.reg [⟨(some 4), .mv (.const (.bool false)), none⟩])
 (.seq (.seq (.reg [⟨(some 16), .mv (.tmp 0), none⟩,
  ⟨(some 17), .len (.tmp 16), none⟩,
  ⟨(some 18), .bin .gtr (.tmp 17) (.const (.int .i64 1048576)), none⟩])
 (.cond (.tmp 18) (.seq (.reg [⟨(some 4), .mv (.const (.bool true)), none⟩])
 (.ret)) (.skip)))
 (.seq (.seq (.reg [⟨(some 19), .mv (.tmp 1), none⟩,
  ⟨(some 20), .len (.tmp 19), none⟩,
  ⟨(some 21), .bin .gtr (.tmp 20) (.const (.int .i64 1048576)), none⟩])
 (.cond (.tmp 21) (.seq (.reg [⟨(some 4), .mv (.const (.bool true)), none⟩])
 (.ret)) (.skip)))
 (.seq (.reg [⟨(some 23), .mv (.tmp 0), none⟩,
  ⟨(some 24), .call (.func 70) [(.tmp 23)], none⟩,
  ⟨(some 25), .mv (.tmp 1), none⟩,
  ⟨(some 26), .call (.func 70) [(.tmp 25)], none⟩,
  ⟨(some 27), .call (.func 54) [(.tmp 24), (.tmp 26)], none⟩,
  ⟨(some 22), .mv (.tmp 27), none⟩,
  ⟨(some 28), .ext 0 (.tmp 22), none⟩,
  ⟨(some 29), .ext 1 (.tmp 22), none⟩,
  ⟨(some 5), .mv (.tmp 28), none⟩,
  ⟨(some 6), .mv (.tmp 29), none⟩])
 (.seq (.reg [⟨(some 30), .mv (.tmp 0), none⟩,
  ⟨(some 31), .call (.func 70) [(.tmp 30)], none⟩,
  ⟨(some 7), .mv (.tmp 31), none⟩])
 (.seq (.reg [⟨(some 32), .mv (.tmp 1), none⟩,
  ⟨(some 33), .call (.func 70) [(.tmp 32)], none⟩,
  ⟨(some 8), .mv (.tmp 33), none⟩])
 (.seq (.reg [⟨(some 35), .mv (.tmp 7), none⟩,
  ⟨(some 36), .mv (.tmp 8), none⟩,
  ⟨(some 37), .call (.func 53) [(.tmp 35), (.tmp 36)], none⟩,
  ⟨(some 34), .mv (.tmp 37), none⟩,
  ⟨(some 38), .ext 0 (.tmp 34), none⟩,
  ⟨(some 39), .ext 1 (.tmp 34), none⟩,
  ⟨(some 9), .mv (.tmp 38), none⟩,
  ⟨(some 10), .mv (.tmp 39), none⟩])
 (.seq (.seq (.reg [⟨(some 40), .mv (.tmp 9), none⟩,
  ⟨(some 41), .mv (.tmp 5), none⟩,
  ⟨(some 42), .call (.func 71) [(.tmp 40), (.tmp 41)], none⟩,
  ⟨(some 43), .un .not (.tmp 42), none⟩,
  ⟨(some 44), .mv (.tmp 43), none⟩,
  ⟨(some 45), .mv (.tmp 10), (some (44, false))⟩,
  ⟨(some 46), .mv (.tmp 6), (some (44, false))⟩,
  ⟨(some 47), .beq true (.tmp 45) (.tmp 46), (some (44, false))⟩,
  ⟨(some 48), .pick (.tmp 44) (.const (.bool true)) (.tmp 47), none⟩])
 (.cond (.tmp 48) (.seq (.reg [⟨(some 4), .mv (.const (.bool false)), none⟩])
 (.ret)) (.skip)))
 (.seq (.seq (.reg [⟨(some 49), .mv (.tmp 7), none⟩,
  ⟨(some 50), .mv (.tmp 0), none⟩,
  ⟨(some 51), .call (.func 70) [(.tmp 50)], none⟩,
  ⟨(some 52), .call (.func 71) [(.tmp 49), (.tmp 51)], none⟩,
  ⟨(some 53), .un .not (.tmp 52), none⟩])
 (.cond (.tmp 53) (.seq (.reg [⟨(some 4), .mv (.const (.bool false)), none⟩])
 (.ret)) (.skip)))
 (.seq (.seq (.reg [⟨(some 54), .mv (.tmp 8), none⟩,
  ⟨(some 55), .mv (.tmp 1), none⟩,
  ⟨(some 56), .call (.func 70) [(.tmp 55)], none⟩,
  ⟨(some 57), .call (.func 71) [(.tmp 54), (.tmp 56)], none⟩,
  ⟨(some 58), .un .not (.tmp 57), none⟩])
 (.cond (.tmp 58) (.seq (.reg [⟨(some 4), .mv (.const (.bool false)), none⟩])
 (.ret)) (.skip)))
 (.seq (.reg [⟨(some 11), .mv (.const (.int .i64 1)), none⟩])
 (.seq (.reg [⟨(some 59), .mv (.tmp 7), none⟩,
  ⟨(some 60), .mv (.tmp 11), none⟩,
  ⟨(some 61), .call (.func 72) [(.tmp 59), (.tmp 60)], none⟩,
  ⟨(some 11), .mv (.tmp 61), none⟩])
 (.seq (.reg [⟨(some 62), .mv (.tmp 8), none⟩,
  ⟨(some 63), .mv (.tmp 11), none⟩,
  ⟨(some 64), .call (.func 72) [(.tmp 62), (.tmp 63)], none⟩,
  ⟨(some 11), .mv (.tmp 64), none⟩])
 (.seq (.seq (.reg [⟨(some 65), .mv (.tmp 11), none⟩,
  ⟨(some 66), .bin .lss (.tmp 65) (.const (.int .i64 0)), none⟩,
  ⟨(some 67), .mv (.tmp 66), none⟩,
  ⟨(some 68), .mv (.tmp 9), (some (67, false))⟩,
  ⟨(some 69), .mv (.tmp 5), (some (67, false))⟩,
  ⟨(some 70), .call (.func 71) [(.tmp 68), (.tmp 69)], (some (67, false))⟩,
  ⟨(some 71), .un .not (.tmp 70), (some (67, false))⟩,
  ⟨(some 72), .pick (.tmp 67) (.const (.bool true)) (.tmp 71), none⟩,
  ⟨(some 73), .mv (.tmp 72), none⟩,
  ⟨(some 74), .mv (.tmp 10), (some (73, false))⟩,
  ⟨(some 75), .mv (.tmp 6), (some (73, false))⟩,
  ⟨(some 76), .beq true (.tmp 74) (.tmp 75), (some (73, false))⟩,
  ⟨(some 77), .pick (.tmp 73) (.const (.bool true)) (.tmp 76), none⟩])
 (.cond (.tmp 77) (.seq (.reg [⟨(some 4), .mv (.const (.bool false)), none⟩])
 (.ret)) (.skip)))
 (.seq (.reg [⟨(some 12), .mv (.const (.int .i64 1)), none⟩])
 (.seq (.reg [⟨(some 78), .mv (.tmp 9), none⟩,
  ⟨(some 79), .mv (.tmp 12), none⟩,
  ⟨(some 80), .call (.func 72) [(.tmp 78), (.tmp 79)], none⟩,
  ⟨(some 12), .mv (.tmp 80), none⟩])
 (.seq (.reg [⟨(some 13), .mv (.const (.int .i64 1)), none⟩])
 (.seq (.reg [⟨(some 81), .mv (.tmp 9), none⟩,
  ⟨(some 82), .mv (.tmp 13), none⟩,
  ⟨(some 83), .call (.func 73) [(.tmp 81), (.tmp 82)], none⟩,
  ⟨(some 13), .mv (.tmp 83), none⟩])
 (.seq (.seq (.reg [⟨(some 84), .mv (.tmp 13), none⟩,
  ⟨(some 85), .bin .lss (.tmp 84) (.const (.int .i64 0)), none⟩])
 (.cond (.tmp 85) (.seq (.reg [⟨(some 4), .mv (.const (.bool false)), none⟩])
 (.ret)) (.skip)))
 (.seq (.seq (.reg [⟨(some 86), .mv (.tmp 13), none⟩,
  ⟨(some 87), .mv (.tmp 12), none⟩,
  ⟨(some 88), .bin .neq (.tmp 86) (.tmp 87), none⟩])
 (.cond (.tmp 88) (.seq (.reg [⟨(some 4), .mv (.const (.bool false)), none⟩])
 (.ret)) (.skip)))
 (.seq (.reg [⟨(some 90), .mv (.tmp 0), none⟩,
  ⟨(some 91), .call (.func 70) [(.tmp 90)], none⟩,
  ⟨(some 92), .mv (.tmp 1), none⟩,
  ⟨(some 93), .call (.func 70) [(.tmp 92)], none⟩,
  ⟨(some 94), .call (.func 53) [(.tmp 91), (.tmp 93)], none⟩,
  ⟨(some 89), .mv (.tmp 94), none⟩,
  ⟨(some 95), .ext 0 (.tmp 89), none⟩,
  ⟨(some 96), .ext 1 (.tmp 89), none⟩,
  ⟨(some 14), .mv (.tmp 95), none⟩,
  ⟨(some 15), .mv (.tmp 96), none⟩])
 (.seq (.seq (.reg [⟨(some 97), .mv (.tmp 14), none⟩,
  ⟨(some 98), .mv (.tmp 5), none⟩,
  ⟨(some 99), .call (.func 71) [(.tmp 97), (.tmp 98)], none⟩,
  ⟨(some 100), .un .not (.tmp 99), none⟩,
  ⟨(some 101), .mv (.tmp 100), none⟩,
  ⟨(some 102), .mv (.tmp 15), (some (101, false))⟩,
  ⟨(some 103), .mv (.tmp 6), (some (101, false))⟩,
  ⟨(some 104), .beq true (.tmp 102) (.tmp 103), (some (101, false))⟩,
  ⟨(some 105), .pick (.tmp 101) (.const (.bool true)) (.tmp 104), none⟩])
 (.cond (.tmp 105) (.seq (.reg [⟨(some 4), .mv (.const (.bool false)), none⟩])
 (.ret)) (.skip)))
 (.seq (.reg [⟨(some 13), .mv (.const (.int .i64 1)), none⟩])
 (.seq (.reg [⟨(some 106), .mv (.tmp 9), none⟩,
  ⟨(some 107), .mv (.tmp 13), none⟩,
  ⟨(some 108), .call (.func 73) [(.tmp 106), (.tmp 107)], none⟩,
  ⟨(some 13), .mv (.tmp 108), none⟩])
 (.seq (.seq (.reg [⟨(some 109), .mv (.tmp 13), none⟩,
  ⟨(some 110), .bin .lss (.tmp 109) (.const (.int .i64 0)), none⟩])
 (.cond (.tmp 110) (.seq (.reg [⟨(some 4), .mv (.const (.bool false)), none⟩])
 (.ret)) (.skip)))
 (.seq (.seq (.reg [⟨(some 111), .mv (.tmp 13), none⟩,
  ⟨(some 112), .mv (.tmp 12), none⟩,
  ⟨(some 113), .bin .neq (.tmp 111) (.tmp 112), none⟩])
 (.cond (.tmp 113) (.seq (.reg [⟨(some 4), .mv (.const (.bool false)), none⟩])
 (.ret)) (.skip)))
 (.seq (.reg [⟨(some 4), .mv (.const (.bool true)), none⟩])
 (.ret)))))))))))))))))))))))))))
def r_laws_FnExactSumOf : List ARes := [.tmp 4]
theorem ok_laws_FnExactSumOf : FnOk Try.prog 16 114 c_laws_FnExactSumOf r_laws_FnExactSumOf := ⟨⟨Try.f16, _, Try.func16, by kernel_rfl, rfl, rfl, by kernel_rfl, by kernel_rfl⟩⟩
end Go.Proofs.Ytfdpieeopdhcmaa.Ab
