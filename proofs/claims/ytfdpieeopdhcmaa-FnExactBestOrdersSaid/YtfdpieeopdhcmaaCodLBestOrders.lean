/- The compiled forms of functions, each checked against the translation. -/
import Derived.Test.YtfdpieeopdhcmaaAb2
import Derived.Test.YtfdpieeopdhcmaaProg
namespace Go.Proofs.Ytfdpieeopdhcmaa.Ab
open Go Go.RowKit Go.Proofs
set_option maxRecDepth 100000
def c_laws_FnExactBestOrders : ACode := .seq (.reg [⟨(some 6), .mv (.const (.bool false)), none⟩])
 (.seq (.seq (.reg [⟨(some 17), .mv (.tmp 0), none⟩,
  ⟨(some 18), .len (.tmp 17), none⟩,
  ⟨(some 19), .bin .gtr (.tmp 18) (.const (.int .i64 1048576)), none⟩])
 (.cond (.tmp 19) (.seq (.reg [⟨(some 6), .mv (.const (.bool true)), none⟩])
 (.ret)) (.skip)))
 (.seq (.reg [⟨(some 21), .mv (.tmp 0), none⟩,
  ⟨(some 22), .call (.func 70) [(.tmp 21)], none⟩,
  ⟨(some 23), .mv (.tmp 1), none⟩,
  ⟨(some 24), .mv (.tmp 2), none⟩,
  ⟨(some 25), .call (.func 28) [(.tmp 22), (.tmp 23), (.tmp 24)], none⟩,
  ⟨(some 20), .mv (.tmp 25), none⟩,
  ⟨(some 26), .ext 0 (.tmp 20), none⟩,
  ⟨(some 27), .ext 1 (.tmp 20), none⟩,
  ⟨(some 7), .mv (.tmp 26), none⟩,
  ⟨(some 8), .mv (.tmp 27), none⟩])
 (.seq (.reg [⟨(some 28), .mv (.tmp 0), none⟩,
  ⟨(some 29), .call (.func 70) [(.tmp 28)], none⟩,
  ⟨(some 9), .mv (.tmp 29), none⟩])
 (.seq (.reg [⟨(some 31), .mv (.tmp 9), none⟩,
  ⟨(some 32), .mv (.tmp 1), none⟩,
  ⟨(some 33), .mv (.tmp 2), none⟩,
  ⟨(some 34), .call (.func 27) [(.tmp 31), (.tmp 32), (.tmp 33)], none⟩,
  ⟨(some 30), .mv (.tmp 34), none⟩,
  ⟨(some 35), .ext 0 (.tmp 30), none⟩,
  ⟨(some 36), .ext 1 (.tmp 30), none⟩,
  ⟨(some 10), .mv (.tmp 35), none⟩,
  ⟨(some 11), .mv (.tmp 36), none⟩])
 (.seq (.seq (.reg [⟨(some 37), .mv (.tmp 10), none⟩,
  ⟨(some 38), .mv (.tmp 7), none⟩,
  ⟨(some 39), .call (.func 71) [(.tmp 37), (.tmp 38)], none⟩,
  ⟨(some 40), .un .not (.tmp 39), none⟩,
  ⟨(some 41), .mv (.tmp 40), none⟩,
  ⟨(some 42), .mv (.tmp 11), (some (41, false))⟩,
  ⟨(some 43), .mv (.tmp 8), (some (41, false))⟩,
  ⟨(some 44), .beq true (.tmp 42) (.tmp 43), (some (41, false))⟩,
  ⟨(some 45), .pick (.tmp 41) (.const (.bool true)) (.tmp 44), none⟩])
 (.cond (.tmp 45) (.seq (.reg [⟨(some 6), .mv (.const (.bool false)), none⟩])
 (.ret)) (.skip)))
 (.seq (.seq (.reg [⟨(some 46), .mv (.tmp 9), none⟩,
  ⟨(some 47), .mv (.tmp 0), none⟩,
  ⟨(some 48), .call (.func 70) [(.tmp 47)], none⟩,
  ⟨(some 49), .call (.func 71) [(.tmp 46), (.tmp 48)], none⟩,
  ⟨(some 50), .un .not (.tmp 49), none⟩])
 (.cond (.tmp 50) (.seq (.reg [⟨(some 6), .mv (.const (.bool false)), none⟩])
 (.ret)) (.skip)))
 (.seq (.reg [⟨(some 12), .mv (.const (.int .i64 1)), none⟩])
 (.seq (.reg [⟨(some 51), .mv (.tmp 9), none⟩,
  ⟨(some 52), .mv (.tmp 12), none⟩,
  ⟨(some 53), .call (.func 72) [(.tmp 51), (.tmp 52)], none⟩,
  ⟨(some 12), .mv (.tmp 53), none⟩])
 (.seq (.seq (.reg [⟨(some 54), .mv (.tmp 12), none⟩,
  ⟨(some 55), .bin .lss (.tmp 54) (.const (.int .i64 0)), none⟩,
  ⟨(some 56), .mv (.tmp 55), none⟩,
  ⟨(some 57), .mv (.tmp 10), (some (56, false))⟩,
  ⟨(some 58), .mv (.tmp 7), (some (56, false))⟩,
  ⟨(some 59), .call (.func 71) [(.tmp 57), (.tmp 58)], (some (56, false))⟩,
  ⟨(some 60), .un .not (.tmp 59), (some (56, false))⟩,
  ⟨(some 61), .pick (.tmp 56) (.const (.bool true)) (.tmp 60), none⟩,
  ⟨(some 62), .mv (.tmp 61), none⟩,
  ⟨(some 63), .mv (.tmp 11), (some (62, false))⟩,
  ⟨(some 64), .mv (.tmp 8), (some (62, false))⟩,
  ⟨(some 65), .beq true (.tmp 63) (.tmp 64), (some (62, false))⟩,
  ⟨(some 66), .pick (.tmp 62) (.const (.bool true)) (.tmp 65), none⟩])
 (.cond (.tmp 66) (.seq (.reg [⟨(some 6), .mv (.const (.bool false)), none⟩])
 (.ret)) (.skip)))
 (.seq (.reg [⟨(some 13), .mv (.const (.int .i64 1)), none⟩])
 (.seq (.reg [⟨(some 67), .mv (.tmp 10), none⟩,
  ⟨(some 68), .mv (.tmp 13), none⟩,
  ⟨(some 69), .call (.func 72) [(.tmp 67), (.tmp 68)], none⟩,
  ⟨(some 13), .mv (.tmp 69), none⟩])
 (.seq (.reg [⟨(some 14), .mv (.const (.int .i64 1)), none⟩])
 (.seq (.reg [⟨(some 70), .mv (.tmp 10), none⟩,
  ⟨(some 71), .mv (.tmp 14), none⟩,
  ⟨(some 72), .call (.func 73) [(.tmp 70), (.tmp 71)], none⟩,
  ⟨(some 14), .mv (.tmp 72), none⟩])
 (.seq (.seq (.reg [⟨(some 73), .mv (.tmp 14), none⟩,
  ⟨(some 74), .bin .lss (.tmp 73) (.const (.int .i64 0)), none⟩])
 (.cond (.tmp 74) (.seq (.reg [⟨(some 6), .mv (.const (.bool false)), none⟩])
 (.ret)) (.skip)))
 (.seq (.seq (.reg [⟨(some 75), .mv (.tmp 14), none⟩,
  ⟨(some 76), .mv (.tmp 13), none⟩,
  ⟨(some 77), .bin .neq (.tmp 75) (.tmp 76), none⟩])
 (.cond (.tmp 77) (.seq (.reg [⟨(some 6), .mv (.const (.bool false)), none⟩])
 (.ret)) (.skip)))
 (.seq (.reg [⟨(some 79), .mv (.tmp 0), none⟩,
  ⟨(some 80), .call (.func 70) [(.tmp 79)], none⟩,
  ⟨(some 81), .mv (.tmp 1), none⟩,
  ⟨(some 82), .mv (.tmp 2), none⟩,
  ⟨(some 83), .call (.func 27) [(.tmp 80), (.tmp 81), (.tmp 82)], none⟩,
  ⟨(some 78), .mv (.tmp 83), none⟩,
  ⟨(some 84), .ext 0 (.tmp 78), none⟩,
  ⟨(some 85), .ext 1 (.tmp 78), none⟩,
  ⟨(some 15), .mv (.tmp 84), none⟩,
  ⟨(some 16), .mv (.tmp 85), none⟩])
 (.seq (.seq (.reg [⟨(some 86), .mv (.tmp 15), none⟩,
  ⟨(some 87), .mv (.tmp 7), none⟩,
  ⟨(some 88), .call (.func 71) [(.tmp 86), (.tmp 87)], none⟩,
  ⟨(some 89), .un .not (.tmp 88), none⟩,
  ⟨(some 90), .mv (.tmp 89), none⟩,
  ⟨(some 91), .mv (.tmp 16), (some (90, false))⟩,
  ⟨(some 92), .mv (.tmp 8), (some (90, false))⟩,
  ⟨(some 93), .beq true (.tmp 91) (.tmp 92), (some (90, false))⟩,
  ⟨(some 94), .pick (.tmp 90) (.const (.bool true)) (.tmp 93), none⟩])
 (.cond (.tmp 94) (.seq (.reg [⟨(some 6), .mv (.const (.bool false)), none⟩])
 (.ret)) (.skip)))
 (.seq (.reg [⟨(some 14), .mv (.const (.int .i64 1)), none⟩])
 (.seq (.reg [⟨(some 95), .mv (.tmp 10), none⟩,
  ⟨(some 96), .mv (.tmp 14), none⟩,
  ⟨(some 97), .call (.func 73) [(.tmp 95), (.tmp 96)], none⟩,
  ⟨(some 14), .mv (.tmp 97), none⟩])
 (.seq (.seq (.reg [⟨(some 98), .mv (.tmp 14), none⟩,
  ⟨(some 99), .bin .lss (.tmp 98) (.const (.int .i64 0)), none⟩])
 (.cond (.tmp 99) (.seq (.reg [⟨(some 6), .mv (.const (.bool false)), none⟩])
 (.ret)) (.skip)))
 (.seq (.seq (.reg [⟨(some 100), .mv (.tmp 14), none⟩,
  ⟨(some 101), .mv (.tmp 13), none⟩,
  ⟨(some 102), .bin .neq (.tmp 100) (.tmp 101), none⟩])
 (.cond (.tmp 102) (.seq (.reg [⟨(some 6), .mv (.const (.bool false)), none⟩])
 (.ret)) (.skip)))
 (.seq (.reg [⟨(some 6), .mv (.const (.bool true)), none⟩])
 (.ret)))))))))))))))))))))))
def r_laws_FnExactBestOrders : List ARes := [.tmp 6]
theorem ok_laws_FnExactBestOrders : FnOk Try.prog 15 103 c_laws_FnExactBestOrders r_laws_FnExactBestOrders := ⟨⟨Try.f15, _, Try.func15, by kernel_rfl, rfl, rfl, by kernel_rfl, by kernel_rfl⟩⟩
end Go.Proofs.Ytfdpieeopdhcmaa.Ab
