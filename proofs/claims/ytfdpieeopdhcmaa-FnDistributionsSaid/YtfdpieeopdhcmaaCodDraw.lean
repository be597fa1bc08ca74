/- The compiled forms of functions, each checked against the translation. -/
import Derived.Test.YtfdpieeopdhcmaaAb2
import Derived.Test.YtfdpieeopdhcmaaProg
namespace Go.Proofs.Ytfdpieeopdhcmaa.Ab
open Go Go.RowKit Go.Proofs
set_option maxRecDepth 100000
def c_spec_DrawCriticalOrder : ACode := .seq (.reg [⟨(some 2), .mv (.const (.slice none 0 0)), none⟩,
  ⟨(some 3), .mv (.const (.int .i64 0)), none⟩,
  ⟨(some 4), .mv (.const (.int .i64 0)), none⟩])
 (.seq (.reg [⟨(some 6), .mv (.tmp 0), none⟩,
  ⟨(some 7), .bld [(.slice none 0 0), (.int .i64 0), (.int .u64 0)] [(0, 1, (.tmp 6))], none⟩,
  ⟨(some 8), .box 75 (.tmp 7), none⟩,
  ⟨(some 5), .mv (.tmp 8), none⟩])
 (.seq (.reg [⟨(some 9), .mv (.tmp 5), none⟩,
  ⟨(some 10), .call (.func 78) [(.tmp 9)], none⟩,
  ⟨(some 11), .mv (.tmp 5), none⟩,
  ⟨(some 12), .call (.func 79) [(.tmp 11)], none⟩,
  ⟨(some 13), .mv (.tmp 5), none⟩,
  ⟨(some 14), .call (.func 79) [(.tmp 13)], none⟩,
  ⟨(some 2), .mv (.tmp 10), none⟩,
  ⟨(some 3), .mv (.tmp 12), none⟩,
  ⟨(some 4), .mv (.tmp 14), none⟩])
 (.ret)))
def r_spec_DrawCriticalOrder : List ARes := [.tmp 2, .tmp 3, .tmp 4]
theorem ok_spec_DrawCriticalOrder : FnOk Try.prog 24 15 c_spec_DrawCriticalOrder r_spec_DrawCriticalOrder := ⟨⟨Try.f24, _, Try.func24, by kernel_rfl, rfl, rfl, by kernel_rfl, by kernel_rfl⟩⟩
def c_spec_DrawCostSum : ACode := .seq (.reg [⟨(some 2), .mv (.const (.slice none 0 0)), none⟩,
  ⟨(some 3), .mv (.const (.int .i64 0)), none⟩,
  ⟨(some 4), .mv (.const (.int .i64 0)), none⟩,
  ⟨(some 5), .mv (.const (.int .i64 0)), none⟩])
 (.seq (.reg [⟨(some 7), .mv (.tmp 0), none⟩,
  ⟨(some 8), .bld [(.slice none 0 0), (.int .i64 0), (.int .u64 0)] [(0, 1, (.tmp 7))], none⟩,
  ⟨(some 9), .box 75 (.tmp 8), none⟩,
  ⟨(some 6), .mv (.tmp 9), none⟩])
 (.seq (.reg [⟨(some 10), .mv (.tmp 6), none⟩,
  ⟨(some 11), .call (.func 78) [(.tmp 10)], none⟩,
  ⟨(some 12), .mv (.tmp 6), none⟩,
  ⟨(some 13), .call (.func 79) [(.tmp 12)], none⟩,
  ⟨(some 14), .mv (.tmp 6), none⟩,
  ⟨(some 15), .call (.func 79) [(.tmp 14)], none⟩,
  ⟨(some 16), .mv (.tmp 6), none⟩,
  ⟨(some 17), .call (.func 91) [(.tmp 16)], none⟩,
  ⟨(some 2), .mv (.tmp 11), none⟩,
  ⟨(some 3), .mv (.tmp 13), none⟩,
  ⟨(some 4), .mv (.tmp 15), none⟩,
  ⟨(some 5), .mv (.tmp 17), none⟩])
 (.ret)))
def r_spec_DrawCostSum : List ARes := [.tmp 2, .tmp 3, .tmp 4, .tmp 5]
theorem ok_spec_DrawCostSum : FnOk Try.prog 29 18 c_spec_DrawCostSum r_spec_DrawCostSum := ⟨⟨Try.f29, _, Try.func29, by kernel_rfl, rfl, rfl, by kernel_rfl, by kernel_rfl⟩⟩
def c_spec_DrawIsMore : ACode := .seq (.reg [⟨(some 2), .mv (.const (.slice none 0 0)), none⟩,
  ⟨(some 3), .mv (.const (.slice none 0 0)), none⟩])
 (.seq (.reg [⟨(some 8), .mv (.tmp 0), none⟩,
  ⟨(some 9), .bld [(.slice none 0 0), (.int .i64 0), (.int .u64 0)] [(0, 1, (.tmp 8))], none⟩,
  ⟨(some 10), .box 75 (.tmp 9), none⟩,
  ⟨(some 4), .mv (.tmp 10), none⟩])
 (.seq (.reg [⟨(some 11), .mv (.tmp 4), none⟩,
  ⟨(some 12), .call (.func 78) [(.tmp 11)], none⟩,
  ⟨(some 5), .mv (.tmp 12), none⟩])
 (.seq (.seq (.reg [⟨(some 13), .mv (.tmp 4), none⟩,
  ⟨(some 14), .call (.func 103) [(.tmp 13), (.const (.int .i64 2))], none⟩])
 (.cond (.tmp 14) (.seq (.reg [⟨(some 15), .bsl 3 1 1 [(.int .i64 0)] [(0, 1, (.const (.int .i64 0)))], none⟩,
  ⟨(some 16), .mv (.tmp 5), none⟩,
  ⟨(some 17), .app 3 1 8 (.tmp 15) (.tmp 16), none⟩,
  ⟨(some 18), .mv (.tmp 5), none⟩,
  ⟨(some 2), .mv (.tmp 17), none⟩,
  ⟨(some 3), .mv (.tmp 18), none⟩])
 (.ret)) (.skip)))
 (.seq (.reg [⟨(some 19), .mv (.tmp 5), none⟩,
  ⟨(some 20), .call (.func 104) [(.tmp 19)], none⟩,
  ⟨(some 6), .mv (.tmp 20), none⟩])
 (.seq (.seq (.reg [⟨(some 21), .mv (.tmp 4), none⟩,
  ⟨(some 22), .mv (.tmp 6), none⟩,
  ⟨(some 23), .len (.tmp 22), none⟩,
  ⟨(some 24), .bin .add (.tmp 23) (.const (.int .i64 1)), none⟩,
  ⟨(some 25), .call (.func 105) [(.tmp 21), (.tmp 24)], none⟩,
  ⟨(some 7), .mv (.tmp 25), none⟩])
 (.seq (.reg [⟨(some 26), .mv (.tmp 7), none⟩,
  ⟨(some 27), .bin .add (.tmp 26) (.const (.int .i64 1)), none⟩,
  ⟨(some 28), .mv (.tmp 6), none⟩,
  ⟨(some 29), .len (.tmp 28), none⟩,
  ⟨(some 30), .bin .lss (.tmp 27) (.tmp 29), none⟩,
  ⟨(some 31), .mv (.tmp 30), none⟩,
  ⟨(some 32), .mv (.tmp 6), (some (31, true))⟩,
  ⟨(some 33), .mv (.tmp 7), (some (31, true))⟩,
  ⟨(some 34), .iad 1 (.tmp 32) (.tmp 33), (some (31, true))⟩,
  ⟨(some 35), .ld none (.tmp 34), (some (31, true))⟩,
  ⟨(some 36), .bin .gtr (.tmp 35) (.const (.int .i64 0)), (some (31, true))⟩,
  ⟨(some 37), .pick (.tmp 31) (.tmp 36) (.const (.bool false)), none⟩,
  ⟨(some 38), .mv (.tmp 37), none⟩,
  ⟨(some 39), .mv (.tmp 6), (some (38, true))⟩,
  ⟨(some 40), .mv (.tmp 7), (some (38, true))⟩,
  ⟨(some 41), .iad 1 (.tmp 39) (.tmp 40), (some (38, true))⟩,
  ⟨(some 42), .ld none (.tmp 41), (some (38, true))⟩,
  ⟨(some 43), .bin .lss (.tmp 42) (.const (.int .i64 1000)), (some (38, true))⟩,
  ⟨(some 44), .pick (.tmp 38) (.tmp 43) (.const (.bool false)), none⟩])
 (.cond (.tmp 44) (.seq (.reg [⟨(some 45), .mv (.tmp 6), none⟩,
  ⟨(some 46), .mv (.tmp 7), none⟩,
  ⟨(some 47), .mv (.tmp 6), none⟩,
  ⟨(some 48), .mv (.tmp 7), none⟩,
  ⟨(some 49), .iad 1 (.tmp 47) (.tmp 48), none⟩,
  ⟨(some 50), .ld none (.tmp 49), none⟩,
  ⟨(some 51), .bin .sub (.tmp 50) (.const (.int .i64 1)), none⟩,
  ⟨(some 52), .iad 1 (.tmp 45) (.tmp 46), none⟩,
  ⟨none, .st 1 (.tmp 52) (.tmp 51), none⟩])
 (.reg [⟨(some 53), .mv (.tmp 6), none⟩,
  ⟨(some 54), .mv (.tmp 7), none⟩,
  ⟨(some 55), .bin .add (.tmp 54) (.const (.int .i64 1)), none⟩,
  ⟨(some 56), .mv (.tmp 6), none⟩,
  ⟨(some 57), .mv (.tmp 7), none⟩,
  ⟨(some 58), .bin .add (.tmp 57) (.const (.int .i64 1)), none⟩,
  ⟨(some 59), .iad 1 (.tmp 56) (.tmp 58), none⟩,
  ⟨(some 60), .ld none (.tmp 59), none⟩,
  ⟨(some 61), .bin .add (.tmp 60) (.const (.int .i64 1)), none⟩,
  ⟨(some 62), .iad 1 (.tmp 53) (.tmp 55), none⟩,
  ⟨none, .st 1 (.tmp 62) (.tmp 61), none⟩])) (.skip))))
 (.seq (.reg [⟨(some 63), .mv (.tmp 6), none⟩,
  ⟨(some 64), .mv (.tmp 5), none⟩,
  ⟨(some 2), .mv (.tmp 63), none⟩,
  ⟨(some 3), .mv (.tmp 64), none⟩])
 (.ret)))))))
def r_spec_DrawIsMore : List ARes := [.tmp 2, .tmp 3]
theorem ok_spec_DrawIsMore : FnOk Try.prog 46 65 c_spec_DrawIsMore r_spec_DrawIsMore := ⟨⟨Try.f46, _, Try.func46, by kernel_rfl, rfl, rfl, by kernel_rfl, by kernel_rfl⟩⟩
def c_spec_DrawIsWider : ACode := .seq (.reg [⟨(some 2), .mv (.const (.slice none 0 0)), none⟩,
  ⟨(some 3), .mv (.const (.slice none 0 0)), none⟩])
 (.seq (.reg [⟨(some 8), .mv (.tmp 0), none⟩,
  ⟨(some 9), .bld [(.slice none 0 0), (.int .i64 0), (.int .u64 0)] [(0, 1, (.tmp 8))], none⟩,
  ⟨(some 10), .box 75 (.tmp 9), none⟩,
  ⟨(some 4), .mv (.tmp 10), none⟩])
 (.seq (.reg [⟨(some 11), .mv (.tmp 4), none⟩,
  ⟨(some 12), .call (.func 78) [(.tmp 11)], none⟩,
  ⟨(some 5), .mv (.tmp 12), none⟩])
 (.seq (.reg [⟨(some 13), .mv (.tmp 5), none⟩,
  ⟨(some 14), .call (.func 104) [(.tmp 13)], none⟩,
  ⟨(some 6), .mv (.tmp 14), none⟩])
 (.seq (.seq (.reg [⟨(some 15), .mv (.tmp 4), none⟩,
  ⟨(some 16), .mv (.tmp 6), none⟩,
  ⟨(some 17), .len (.tmp 16), none⟩,
  ⟨(some 18), .bin .add (.tmp 17) (.const (.int .i64 1)), none⟩,
  ⟨(some 19), .call (.func 105) [(.tmp 15), (.tmp 18)], none⟩,
  ⟨(some 20), .bin .add (.const (.int .i64 1)) (.tmp 19), none⟩,
  ⟨(some 7), .mv (.tmp 20), none⟩])
 (.seq (.reg [⟨(some 21), .mv (.tmp 7), none⟩,
  ⟨(some 22), .bin .add (.tmp 21) (.const (.int .i64 1)), none⟩,
  ⟨(some 23), .mv (.tmp 6), none⟩,
  ⟨(some 24), .len (.tmp 23), none⟩,
  ⟨(some 25), .bin .lss (.tmp 22) (.tmp 24), none⟩,
  ⟨(some 26), .mv (.tmp 25), none⟩,
  ⟨(some 27), .mv (.tmp 6), (some (26, true))⟩,
  ⟨(some 28), .mv (.tmp 7), (some (26, true))⟩,
  ⟨(some 29), .iad 1 (.tmp 27) (.tmp 28), (some (26, true))⟩,
  ⟨(some 30), .ld none (.tmp 29), (some (26, true))⟩,
  ⟨(some 31), .bin .gtr (.tmp 30) (.const (.int .i64 1)), (some (26, true))⟩,
  ⟨(some 32), .pick (.tmp 26) (.tmp 31) (.const (.bool false)), none⟩,
  ⟨(some 33), .mv (.tmp 32), none⟩,
  ⟨(some 34), .mv (.tmp 6), (some (33, true))⟩,
  ⟨(some 35), .mv (.tmp 7), (some (33, true))⟩,
  ⟨(some 36), .iad 1 (.tmp 34) (.tmp 35), (some (33, true))⟩,
  ⟨(some 37), .ld none (.tmp 36), (some (33, true))⟩,
  ⟨(some 38), .bin .lss (.tmp 37) (.const (.int .i64 1000)), (some (33, true))⟩,
  ⟨(some 39), .pick (.tmp 33) (.tmp 38) (.const (.bool false)), none⟩,
  ⟨(some 40), .mv (.tmp 39), none⟩,
  ⟨(some 41), .mv (.tmp 4), (some (40, true))⟩,
  ⟨(some 42), .call (.func 105) [(.tmp 41), (.const (.int .i64 6))], (some (40, true))⟩,
  ⟨(some 43), .bin .gtr (.tmp 42) (.const (.int .i64 0)), (some (40, true))⟩,
  ⟨(some 44), .pick (.tmp 40) (.tmp 43) (.const (.bool false)), none⟩])
 (.cond (.tmp 44) (.seq (.reg [⟨(some 45), .mv (.tmp 6), none⟩,
  ⟨(some 46), .mv (.tmp 7), none⟩,
  ⟨(some 47), .mv (.tmp 6), none⟩,
  ⟨(some 48), .mv (.tmp 7), none⟩,
  ⟨(some 49), .iad 1 (.tmp 47) (.tmp 48), none⟩,
  ⟨(some 50), .ld none (.tmp 49), none⟩,
  ⟨(some 51), .bin .sub (.tmp 50) (.const (.int .i64 2)), none⟩,
  ⟨(some 52), .iad 1 (.tmp 45) (.tmp 46), none⟩,
  ⟨none, .st 1 (.tmp 52) (.tmp 51), none⟩])
 (.seq (.reg [⟨(some 53), .mv (.tmp 6), none⟩,
  ⟨(some 54), .mv (.tmp 7), none⟩,
  ⟨(some 55), .bin .sub (.tmp 54) (.const (.int .i64 1)), none⟩,
  ⟨(some 56), .mv (.tmp 6), none⟩,
  ⟨(some 57), .mv (.tmp 7), none⟩,
  ⟨(some 58), .bin .sub (.tmp 57) (.const (.int .i64 1)), none⟩,
  ⟨(some 59), .iad 1 (.tmp 56) (.tmp 58), none⟩,
  ⟨(some 60), .ld none (.tmp 59), none⟩,
  ⟨(some 61), .bin .add (.tmp 60) (.const (.int .i64 1)), none⟩,
  ⟨(some 62), .iad 1 (.tmp 53) (.tmp 55), none⟩,
  ⟨none, .st 1 (.tmp 62) (.tmp 61), none⟩])
 (.reg [⟨(some 63), .mv (.tmp 6), none⟩,
  ⟨(some 64), .mv (.tmp 7), none⟩,
  ⟨(some 65), .bin .add (.tmp 64) (.const (.int .i64 1)), none⟩,
  ⟨(some 66), .mv (.tmp 6), none⟩,
  ⟨(some 67), .mv (.tmp 7), none⟩,
  ⟨(some 68), .bin .add (.tmp 67) (.const (.int .i64 1)), none⟩,
  ⟨(some 69), .iad 1 (.tmp 66) (.tmp 68), none⟩,
  ⟨(some 70), .ld none (.tmp 69), none⟩,
  ⟨(some 71), .bin .add (.tmp 70) (.const (.int .i64 1)), none⟩,
  ⟨(some 72), .iad 1 (.tmp 63) (.tmp 65), none⟩,
  ⟨none, .st 1 (.tmp 72) (.tmp 71), none⟩]))) (.skip))))
 (.seq (.reg [⟨(some 73), .mv (.tmp 6), none⟩,
  ⟨(some 74), .mv (.tmp 5), none⟩,
  ⟨(some 2), .mv (.tmp 73), none⟩,
  ⟨(some 3), .mv (.tmp 74), none⟩])
 (.ret))))))
def r_spec_DrawIsWider : List ARes := [.tmp 2, .tmp 3]
theorem ok_spec_DrawIsWider : FnOk Try.prog 49 75 c_spec_DrawIsWider r_spec_DrawIsWider := ⟨⟨Try.f49, _, Try.func49, by kernel_rfl, rfl, rfl, by kernel_rfl, by kernel_rfl⟩⟩
def c_spec_DrawSumOf : ACode := .seq (.reg [⟨(some 2), .mv (.const (.slice none 0 0)), none⟩,
  ⟨(some 3), .mv (.const (.slice none 0 0)), none⟩])
 (.seq (.reg [⟨(some 5), .mv (.tmp 0), none⟩,
  ⟨(some 6), .bld [(.slice none 0 0), (.int .i64 0), (.int .u64 0)] [(0, 1, (.tmp 5))], none⟩,
  ⟨(some 7), .box 75 (.tmp 6), none⟩,
  ⟨(some 4), .mv (.tmp 7), none⟩])
 (.seq (.reg [⟨(some 8), .mv (.tmp 4), none⟩,
  ⟨(some 9), .call (.func 78) [(.tmp 8)], none⟩,
  ⟨(some 10), .mv (.tmp 4), none⟩,
  ⟨(some 11), .call (.func 78) [(.tmp 10)], none⟩,
  ⟨(some 2), .mv (.tmp 9), none⟩,
  ⟨(some 3), .mv (.tmp 11), none⟩])
 (.ret)))
def r_spec_DrawSumOf : List ARes := [.tmp 2, .tmp 3]
theorem ok_spec_DrawSumOf : FnOk Try.prog 52 12 c_spec_DrawSumOf r_spec_DrawSumOf := ⟨⟨Try.f52, _, Try.func52, by kernel_rfl, rfl, rfl, by kernel_rfl, by kernel_rfl⟩⟩
def c_spec_DrawBudgetOrders : ACode := .seq (.reg [⟨(some 2), .mv (.const (.slice none 0 0)), none⟩,
  ⟨(some 3), .mv (.const (.int .i64 0)), none⟩,
  ⟨(some 4), .mv (.const (.int .i64 0)), none⟩,
  ⟨(some 5), .mv (.const (.slice none 0 0)), none⟩,
  ⟨(some 6), .mv (.const (.int .i64 0)), none⟩])
 (.seq (.reg [⟨(some 11), .mv (.tmp 0), none⟩,
  ⟨(some 12), .bld [(.slice none 0 0), (.int .i64 0), (.int .u64 0)] [(0, 1, (.tmp 11))], none⟩,
  ⟨(some 13), .box 75 (.tmp 12), none⟩,
  ⟨(some 7), .mv (.tmp 13), none⟩])
 (.seq (.reg [⟨(some 14), .mv (.tmp 7), none⟩,
  ⟨(some 15), .call (.func 107) [(.tmp 14)], none⟩,
  ⟨(some 8), .mv (.tmp 15), none⟩])
 (.seq (.reg [⟨(some 16), .bsl 3 1 0 [] [], none⟩,
  ⟨(some 9), .mv (.tmp 16), none⟩])
 (.seq (.seq (.reg [⟨(some 10), .mv (.const (.int .i64 0)), none⟩])
 (.block 0 (.loop (.seq (.seq (.reg [⟨(some 17), .mv (.tmp 10), none⟩,
  ⟨(some 18), .mv (.tmp 8), none⟩,
  ⟨(some 19), .len (.tmp 18), none⟩,
  ⟨(some 20), .bin .lss (.tmp 17) (.tmp 19), none⟩])
 (.cond (.tmp 20) (.skip) (.exit 0)))
 (.seq (.block 1 (.reg [⟨(some 23), .mv (.tmp 9), none⟩,
  ⟨(some 24), .mv (.tmp 7), none⟩,
  ⟨(some 25), .bsl 3 1 5 [(.int .i64 0), (.int .i64 0), (.int .i64 0), (.int .i64 0), (.int .i64 0)] [(0, 1, (.const (.int .i64 1))), (1, 1, (.const (.int .i64 2))), (2, 1, (.const (.int .i64 3))), (3, 1, (.const (.int .i64 5))), (4, 1, (.const (.int .i64 0)))], none⟩,
  ⟨(some 26), .call (.func 108) [(.tmp 24), (.tmp 25)], none⟩,
  ⟨(some 27), .bsl 3 1 1 [(.int .i64 0)] [(0, 1, (.tmp 26))], none⟩,
  ⟨(some 28), .app 3 1 8 (.tmp 23) (.tmp 27), none⟩,
  ⟨(some 9), .mv (.tmp 28), none⟩]))
 (.reg [⟨(some 21), .mv (.tmp 10), none⟩,
  ⟨(some 22), .bin .add (.tmp 21) (.const (.int .i64 1)), none⟩,
  ⟨(some 10), .mv (.tmp 22), none⟩]))))))
 (.seq (.seq (.reg [⟨(some 29), .mv (.tmp 7), none⟩,
  ⟨(some 30), .call (.func 103) [(.tmp 29), (.const (.int .i64 24))], none⟩])
 (.cond (.tmp 30) (.reg [⟨(some 31), .mv (.tmp 9), none⟩,
  ⟨(some 32), .bsl 3 1 1 [(.int .i64 0)] [(0, 1, (.const (.int .i64 1)))], none⟩,
  ⟨(some 33), .app 3 1 8 (.tmp 31) (.tmp 32), none⟩,
  ⟨(some 9), .mv (.tmp 33), none⟩]) (.skip)))
 (.seq (.reg [⟨(some 34), .mv (.tmp 8), none⟩,
  ⟨(some 35), .mv (.tmp 7), none⟩,
  ⟨(some 36), .call (.func 79) [(.tmp 35)], none⟩,
  ⟨(some 37), .mv (.tmp 7), none⟩,
  ⟨(some 38), .call (.func 79) [(.tmp 37)], none⟩,
  ⟨(some 39), .mv (.tmp 9), none⟩,
  ⟨(some 40), .mv (.tmp 7), none⟩,
  ⟨(some 41), .bsl 3 1 8 [(.int .i64 0), (.int .i64 0), (.int .i64 0), (.int .i64 0), (.int .i64 0), (.int .i64 0), (.int .i64 0), (.int .i64 0)] [(0, 1, (.const (.int .i64 5))), (1, 1, (.const (.int .i64 8))), (2, 1, (.const (.int .i64 3))), (3, 1, (.const (.int .i64 12))), (4, 1, (.const (.int .i64 0))), (5, 1, (.const (.int .i64 60))), (6, 1, (.const (.int .i64 61))), (7, 1, (.const (.int .i64 (-1))))], none⟩,
  ⟨(some 42), .mv (.tmp 7), none⟩,
  ⟨(some 43), .call (.func 105) [(.tmp 42), (.const (.int .i64 24))], none⟩,
  ⟨(some 44), .bin .quo (.tmp 43) (.const (.int .i64 11)), none⟩,
  ⟨(some 45), .bin .add (.const (.int .i64 6)) (.tmp 44), none⟩,
  ⟨(some 46), .slc 1 (.tmp 41) none (some (.tmp 45)), none⟩,
  ⟨(some 47), .call (.func 108) [(.tmp 40), (.tmp 46)], none⟩,
  ⟨(some 2), .mv (.tmp 34), none⟩,
  ⟨(some 3), .mv (.tmp 36), none⟩,
  ⟨(some 4), .mv (.tmp 38), none⟩,
  ⟨(some 5), .mv (.tmp 39), none⟩,
  ⟨(some 6), .mv (.tmp 47), none⟩])
 (.ret)))))))
def r_spec_DrawBudgetOrders : List ARes := [.tmp 2, .tmp 3, .tmp 4, .tmp 5, .tmp 6]
theorem ok_spec_DrawBudgetOrders : FnOk Try.prog 58 48 c_spec_DrawBudgetOrders r_spec_DrawBudgetOrders := ⟨⟨Try.f58, _, Try.func58, by kernel_rfl, rfl, rfl, by kernel_rfl, by kernel_rfl⟩⟩
def c_spec_DrawStepOrders : ACode := .seq (.reg [⟨(some 2), .mv (.const (.slice none 0 0)), none⟩,
  ⟨(some 3), .mv (.const (.int .i64 0)), none⟩,
  ⟨(some 4), .mv (.const (.int .i64 0)), none⟩,
  ⟨(some 5), .mv (.const (.int .i64 0)), none⟩])
 (.seq (.reg [⟨(some 7), .mv (.tmp 0), none⟩,
  ⟨(some 8), .bld [(.slice none 0 0), (.int .i64 0), (.int .u64 0)] [(0, 1, (.tmp 7))], none⟩,
  ⟨(some 9), .box 75 (.tmp 8), none⟩,
  ⟨(some 6), .mv (.tmp 9), none⟩])
 (.seq (.reg [⟨(some 10), .mv (.tmp 6), none⟩,
  ⟨(some 11), .call (.func 107) [(.tmp 10)], none⟩,
  ⟨(some 12), .mv (.tmp 6), none⟩,
  ⟨(some 13), .call (.func 79) [(.tmp 12)], none⟩,
  ⟨(some 14), .mv (.tmp 6), none⟩,
  ⟨(some 15), .call (.func 79) [(.tmp 14)], none⟩,
  ⟨(some 16), .mv (.tmp 6), none⟩,
  ⟨(some 17), .bsl 3 1 8 [(.int .i64 0), (.int .i64 0), (.int .i64 0), (.int .i64 0), (.int .i64 0), (.int .i64 0), (.int .i64 0), (.int .i64 0)] [(0, 1, (.const (.int .i64 5))), (1, 1, (.const (.int .i64 8))), (2, 1, (.const (.int .i64 3))), (3, 1, (.const (.int .i64 12))), (4, 1, (.const (.int .i64 0))), (5, 1, (.const (.int .i64 60))), (6, 1, (.const (.int .i64 61))), (7, 1, (.const (.int .i64 (-1))))], none⟩,
  ⟨(some 18), .mv (.tmp 6), none⟩,
  ⟨(some 19), .call (.func 105) [(.tmp 18), (.const (.int .i64 24))], none⟩,
  ⟨(some 20), .bin .quo (.tmp 19) (.const (.int .i64 11)), none⟩,
  ⟨(some 21), .bin .add (.const (.int .i64 6)) (.tmp 20), none⟩,
  ⟨(some 22), .slc 1 (.tmp 17) none (some (.tmp 21)), none⟩,
  ⟨(some 23), .call (.func 108) [(.tmp 16), (.tmp 22)], none⟩,
  ⟨(some 2), .mv (.tmp 11), none⟩,
  ⟨(some 3), .mv (.tmp 13), none⟩,
  ⟨(some 4), .mv (.tmp 15), none⟩,
  ⟨(some 5), .mv (.tmp 23), none⟩])
 (.ret)))
def r_spec_DrawStepOrders : List ARes := [.tmp 2, .tmp 3, .tmp 4, .tmp 5]
theorem ok_spec_DrawStepOrders : FnOk Try.prog 61 24 c_spec_DrawStepOrders r_spec_DrawStepOrders := ⟨⟨Try.f61, _, Try.func61, by kernel_rfl, rfl, rfl, by kernel_rfl, by kernel_rfl⟩⟩
def c_spec_DrawOrderUpTo : ACode := .seq (.reg [⟨(some 2), .mv (.const (.slice none 0 0)), none⟩,
  ⟨(some 3), .mv (.const (.int .i64 0)), none⟩,
  ⟨(some 4), .mv (.const (.int .i64 0)), none⟩,
  ⟨(some 5), .mv (.const (.int .i64 0)), none⟩,
  ⟨(some 6), .mv (.const (.int .i64 0)), none⟩,
  ⟨(some 7), .mv (.const (.int .i64 0)), none⟩])
 (.seq (.reg [⟨(some 9), .mv (.tmp 0), none⟩,
  ⟨(some 10), .bld [(.slice none 0 0), (.int .i64 0), (.int .u64 0)] [(0, 1, (.tmp 9))], none⟩,
  ⟨(some 11), .box 75 (.tmp 10), none⟩,
  ⟨(some 8), .mv (.tmp 11), none⟩])
 (.seq (.reg [⟨(some 12), .mv (.tmp 8), none⟩,
  ⟨(some 13), .call (.func 78) [(.tmp 12)], none⟩,
  ⟨(some 14), .mv (.tmp 8), none⟩,
  ⟨(some 15), .call (.func 79) [(.tmp 14)], none⟩,
  ⟨(some 16), .mv (.tmp 8), none⟩,
  ⟨(some 17), .call (.func 79) [(.tmp 16)], none⟩,
  ⟨(some 18), .mv (.tmp 8), none⟩,
  ⟨(some 19), .bsl 3 1 5 [(.int .i64 0), (.int .i64 0), (.int .i64 0), (.int .i64 0), (.int .i64 0)] [(0, 1, (.const (.int .i64 0))), (1, 1, (.const (.int .i64 1))), (2, 1, (.const (.int .i64 2))), (3, 1, (.const (.int .i64 20))), (4, 1, (.const (.int .i64 21)))], none⟩,
  ⟨(some 20), .call (.func 108) [(.tmp 18), (.tmp 19)], none⟩,
  ⟨(some 21), .mv (.tmp 8), none⟩,
  ⟨(some 22), .bsl 3 1 5 [(.int .i64 0), (.int .i64 0), (.int .i64 0), (.int .i64 0), (.int .i64 0)] [(0, 1, (.const (.int .i64 0))), (1, 1, (.const (.int .i64 2))), (2, 1, (.const (.int .i64 5))), (3, 1, (.const (.int .i64 30))), (4, 1, (.const (.int .i64 31)))], none⟩,
  ⟨(some 23), .call (.func 108) [(.tmp 21), (.tmp 22)], none⟩,
  ⟨(some 24), .mv (.tmp 8), none⟩,
  ⟨(some 25), .call (.func 91) [(.tmp 24)], none⟩,
  ⟨(some 2), .mv (.tmp 13), none⟩,
  ⟨(some 3), .mv (.tmp 15), none⟩,
  ⟨(some 4), .mv (.tmp 17), none⟩,
  ⟨(some 5), .mv (.tmp 20), none⟩,
  ⟨(some 6), .mv (.tmp 23), none⟩,
  ⟨(some 7), .mv (.tmp 25), none⟩])
 (.ret)))
def r_spec_DrawOrderUpTo : List ARes := [.tmp 2, .tmp 3, .tmp 4, .tmp 5, .tmp 6, .tmp 7]
theorem ok_spec_DrawOrderUpTo : FnOk Try.prog 64 26 c_spec_DrawOrderUpTo r_spec_DrawOrderUpTo := ⟨⟨Try.f64, _, Try.func64, by kernel_rfl, rfl, rfl, by kernel_rfl, by kernel_rfl⟩⟩
def c_spec_DrawTriggerLevel : ACode := .seq (.reg [⟨(some 2), .mv (.const (.slice none 0 0)), none⟩,
  ⟨(some 3), .mv (.const (.int .i64 0)), none⟩,
  ⟨(some 4), .mv (.const (.int .i64 0)), none⟩,
  ⟨(some 5), .mv (.const (.int .i64 0)), none⟩,
  ⟨(some 6), .mv (.const (.int .i64 0)), none⟩])
 (.seq (.reg [⟨(some 8), .mv (.tmp 0), none⟩,
  ⟨(some 9), .bld [(.slice none 0 0), (.int .i64 0), (.int .u64 0)] [(0, 1, (.tmp 8))], none⟩,
  ⟨(some 10), .box 75 (.tmp 9), none⟩,
  ⟨(some 7), .mv (.tmp 10), none⟩])
 (.seq (.reg [⟨(some 11), .mv (.tmp 7), none⟩,
  ⟨(some 12), .call (.func 78) [(.tmp 11)], none⟩,
  ⟨(some 13), .mv (.tmp 7), none⟩,
  ⟨(some 14), .call (.func 79) [(.tmp 13)], none⟩,
  ⟨(some 15), .mv (.tmp 7), none⟩,
  ⟨(some 16), .call (.func 79) [(.tmp 15)], none⟩,
  ⟨(some 17), .mv (.tmp 7), none⟩,
  ⟨(some 18), .bsl 3 1 5 [(.int .i64 0), (.int .i64 0), (.int .i64 0), (.int .i64 0), (.int .i64 0)] [(0, 1, (.const (.int .i64 0))), (1, 1, (.const (.int .i64 1))), (2, 1, (.const (.int .i64 2))), (3, 1, (.const (.int .i64 20))), (4, 1, (.const (.int .i64 21)))], none⟩,
  ⟨(some 19), .call (.func 108) [(.tmp 17), (.tmp 18)], none⟩,
  ⟨(some 20), .mv (.tmp 7), none⟩,
  ⟨(some 21), .bsl 3 1 5 [(.int .i64 0), (.int .i64 0), (.int .i64 0), (.int .i64 0), (.int .i64 0)] [(0, 1, (.const (.int .i64 0))), (1, 1, (.const (.int .i64 2))), (2, 1, (.const (.int .i64 5))), (3, 1, (.const (.int .i64 30))), (4, 1, (.const (.int .i64 31)))], none⟩,
  ⟨(some 22), .call (.func 108) [(.tmp 20), (.tmp 21)], none⟩,
  ⟨(some 2), .mv (.tmp 12), none⟩,
  ⟨(some 3), .mv (.tmp 14), none⟩,
  ⟨(some 4), .mv (.tmp 16), none⟩,
  ⟨(some 5), .mv (.tmp 19), none⟩,
  ⟨(some 6), .mv (.tmp 22), none⟩])
 (.ret)))
def r_spec_DrawTriggerLevel : List ARes := [.tmp 2, .tmp 3, .tmp 4, .tmp 5, .tmp 6]
theorem ok_spec_DrawTriggerLevel : FnOk Try.prog 67 23 c_spec_DrawTriggerLevel r_spec_DrawTriggerLevel := ⟨⟨Try.f67, _, Try.func67, by kernel_rfl, rfl, rfl, by kernel_rfl, by kernel_rfl⟩⟩
def c_spec_l1Cur__chances : ACode := .seq (.reg [⟨(some 2), .mv (.const (.slice none 0 0)), none⟩])
 (.seq (.reg [⟨(some 5), .bsl 3 1 0 [] [], none⟩,
  ⟨(some 3), .mv (.tmp 5), none⟩])
 (.seq (.seq (.reg [⟨(some 6), .mv (.tmp 0), none⟩,
  ⟨(some 7), .bsl 3 1 7 [(.int .i64 0), (.int .i64 0), (.int .i64 0), (.int .i64 0), (.int .i64 0), (.int .i64 0), (.int .i64 0)] [(0, 1, (.const (.int .i64 4))), (1, 1, (.const (.int .i64 5))), (2, 1, (.const (.int .i64 6))), (3, 1, (.const (.int .i64 3))), (4, 1, (.const (.int .i64 8))), (5, 1, (.const (.int .i64 1))), (6, 1, (.const (.int .i64 2)))], none⟩,
  ⟨(some 8), .call (.func 108) [(.tmp 6), (.tmp 7)], none⟩,
  ⟨(some 4), .mv (.tmp 8), none⟩])
 (.block 0 (.loop (.seq (.seq (.reg [⟨(some 9), .mv (.tmp 4), none⟩,
  ⟨(some 10), .bin .gtr (.tmp 9) (.const (.int .i64 0)), none⟩])
 (.cond (.tmp 10) (.skip) (.exit 0)))
 (.seq (.block 1 (.reg [⟨(some 13), .mv (.tmp 3), none⟩,
  ⟨(some 14), .mv (.tmp 0), none⟩,
  ⟨(some 15), .bsl 3 1 6 [(.int .i64 0), (.int .i64 0), (.int .i64 0), (.int .i64 0), (.int .i64 0), (.int .i64 0)] [(0, 1, (.const (.int .i64 1))), (1, 1, (.const (.int .i64 2))), (2, 1, (.const (.int .i64 0))), (3, 1, (.const (.int .i64 3))), (4, 1, (.const (.int .i64 5))), (5, 1, (.const (.int .i64 1)))], none⟩,
  ⟨(some 16), .call (.func 108) [(.tmp 14), (.tmp 15)], none⟩,
  ⟨(some 17), .bsl 3 1 1 [(.int .i64 0)] [(0, 1, (.tmp 16))], none⟩,
  ⟨(some 18), .app 3 1 8 (.tmp 13) (.tmp 17), none⟩,
  ⟨(some 3), .mv (.tmp 18), none⟩]))
 (.reg [⟨(some 11), .mv (.tmp 4), none⟩,
  ⟨(some 12), .bin .sub (.tmp 11) (.const (.int .i64 1)), none⟩,
  ⟨(some 4), .mv (.tmp 12), none⟩]))))))
 (.seq (.seq (.reg [⟨(some 19), .mv (.tmp 0), none⟩,
  ⟨(some 20), .call (.func 105) [(.tmp 19), (.const (.int .i64 32))], none⟩])
 (.block 2 (.seq (.reg [⟨(some 22), .bin .eql (.tmp 20) (.const (.int .i64 0)), none⟩,
  ⟨(some 21), .mv (.tmp 22), none⟩])
 (.cond (.tmp 21) (.reg [⟨(some 23), .mv (.tmp 3), none⟩,
  ⟨(some 24), .mv (.tmp 0), none⟩,
  ⟨(some 25), .bsl 3 1 4 [(.int .i64 0), (.int .i64 0), (.int .i64 0), (.int .i64 0)] [(0, 1, (.const (.int .i64 (-1)))), (1, 1, (.const (.int .i64 1000))), (2, 1, (.const (.int .i64 1001))), (3, 1, (.const (.int .i64 4611686018427387904)))], none⟩,
  ⟨(some 26), .call (.func 108) [(.tmp 24), (.tmp 25)], none⟩,
  ⟨(some 27), .iad 1 (.tmp 23) (.const (.int .i64 0)), none⟩,
  ⟨none, .st 1 (.tmp 27) (.tmp 26), none⟩]) (.seq (.reg [⟨(some 29), .bin .eql (.tmp 20) (.const (.int .i64 1)), none⟩,
  ⟨(some 28), .mv (.tmp 29), none⟩])
 (.cond (.tmp 28) (.block 3 (.loop (.seq (.seq (.reg [⟨(some 30), .mv (.tmp 3), none⟩,
  ⟨(some 31), .len (.tmp 30), none⟩,
  ⟨(some 32), .mv (.tmp 0), none⟩,
  ⟨(some 33), .call (.func 105) [(.tmp 32), (.const (.int .i64 3))], none⟩,
  ⟨(some 34), .bin .add (.const (.int .i64 15)) (.tmp 33), none⟩,
  ⟨(some 35), .bin .lss (.tmp 31) (.tmp 34), none⟩])
 (.cond (.tmp 35) (.skip) (.exit 3)))
 (.block 4 (.reg [⟨(some 36), .mv (.tmp 3), none⟩,
  ⟨(some 37), .bsl 3 1 1 [(.int .i64 0)] [(0, 1, (.const (.int .i64 1)))], none⟩,
  ⟨(some 38), .app 3 1 8 (.tmp 36) (.tmp 37), none⟩,
  ⟨(some 3), .mv (.tmp 38), none⟩]))))) (.seq (.reg [⟨(some 40), .bin .eql (.tmp 20) (.const (.int .i64 2)), none⟩,
  ⟨(some 39), .mv (.tmp 40), none⟩])
 (.cond (.tmp 39) (.reg [⟨(some 41), .mv (.tmp 0), none⟩,
  ⟨(some 42), .call (.func 105) [(.tmp 41), (.const (.int .i64 4))], none⟩,
  ⟨(some 43), .mks 3 8 [(.int .i64 0)] (.tmp 42) (.tmp 42), none⟩,
  ⟨(some 3), .mv (.tmp 43), none⟩]) (.skip)))))))))
 (.seq (.reg [⟨(some 44), .mv (.tmp 3), none⟩,
  ⟨(some 2), .mv (.tmp 44), none⟩])
 (.ret)))))
def r_spec_l1Cur__chances : List ARes := [.tmp 2]
theorem ok_spec_l1Cur__chances : FnOk Try.prog 78 45 c_spec_l1Cur__chances r_spec_l1Cur__chances := ⟨⟨Try.f78, _, Try.func78, by kernel_rfl, rfl, rfl, by kernel_rfl, by kernel_rfl⟩⟩
def c_spec_l1Cur__charge : ACode := .seq (.reg [⟨(some 2), .mv (.const (.int .i64 0)), none⟩])
 (.seq (.reg [⟨(some 3), .mv (.tmp 0), none⟩,
  ⟨(some 4), .bsl 3 1 9 [(.int .i64 0), (.int .i64 0), (.int .i64 0), (.int .i64 0), (.int .i64 0), (.int .i64 0), (.int .i64 0), (.int .i64 0), (.int .i64 0)] [(0, 1, (.const (.int .i64 1))), (1, 1, (.const (.int .i64 2))), (2, 1, (.const (.int .i64 3))), (3, 1, (.const (.int .i64 5))), (4, 1, (.const (.int .i64 0))), (5, 1, (.const (.int .i64 8))), (6, 1, (.const (.int .i64 20))), (7, 1, (.const (.int .i64 21))), (8, 1, (.const (.int .i64 (-1))))], none⟩,
  ⟨(some 5), .mv (.tmp 0), none⟩,
  ⟨(some 6), .call (.func 105) [(.tmp 5), (.const (.int .i64 24))], none⟩,
  ⟨(some 7), .bin .quo (.tmp 6) (.const (.int .i64 11)), none⟩,
  ⟨(some 8), .bin .add (.const (.int .i64 7)) (.tmp 7), none⟩,
  ⟨(some 9), .slc 1 (.tmp 4) none (some (.tmp 8)), none⟩,
  ⟨(some 10), .call (.func 108) [(.tmp 3), (.tmp 9)], none⟩,
  ⟨(some 2), .mv (.tmp 10), none⟩])
 (.ret))
def r_spec_l1Cur__charge : List ARes := [.tmp 2]
theorem ok_spec_l1Cur__charge : FnOk Try.prog 79 11 c_spec_l1Cur__charge r_spec_l1Cur__charge := ⟨⟨Try.f79, _, Try.func79, by kernel_rfl, rfl, rfl, by kernel_rfl, by kernel_rfl⟩⟩
def c_spec_l1Cur__order5 : ACode := .seq (.reg [⟨(some 2), .mv (.const (.int .i64 0)), none⟩])
 (.seq (.seq (.reg [⟨(some 3), .mv (.tmp 0), none⟩,
  ⟨(some 4), .call (.func 103) [(.tmp 3), (.const (.int .i64 16))], none⟩])
 (.cond (.tmp 4) (.seq (.reg [⟨(some 5), .mv (.tmp 0), none⟩,
  ⟨(some 6), .bsl 3 1 4 [(.int .i64 0), (.int .i64 0), (.int .i64 0), (.int .i64 0)] [(0, 1, (.const (.int .i64 (-1)))), (1, 1, (.const (.int .i64 15))), (2, 1, (.const (.int .i64 16))), (3, 1, (.const (.int .i64 4611686018427387904)))], none⟩,
  ⟨(some 7), .call (.func 108) [(.tmp 5), (.tmp 6)], none⟩,
  ⟨(some 2), .mv (.tmp 7), none⟩])
 (.ret)) (.skip)))
 (.seq (.reg [⟨(some 8), .mv (.tmp 0), none⟩,
  ⟨(some 9), .call (.func 105) [(.tmp 8), (.const (.int .i64 9))], none⟩,
  ⟨(some 2), .mv (.tmp 9), none⟩])
 (.ret)))
def r_spec_l1Cur__order5 : List ARes := [.tmp 2]
theorem ok_spec_l1Cur__order5 : FnOk Try.prog 91 10 c_spec_l1Cur__order5 r_spec_l1Cur__order5 := ⟨⟨Try.f91, _, Try.func91, by kernel_rfl, rfl, rfl, by kernel_rfl, by kernel_rfl⟩⟩
def c_spec_l1Cur__one : ACode := .seq (.reg [⟨(some 4), .mv (.const (.bool false)), none⟩])
 (.seq (.reg [⟨(some 5), .mv (.tmp 0), none⟩,
  ⟨(some 6), .mv (.tmp 1), none⟩,
  ⟨(some 7), .call (.func 105) [(.tmp 5), (.tmp 6)], none⟩,
  ⟨(some 8), .bin .eql (.tmp 7) (.const (.int .i64 0)), none⟩,
  ⟨(some 4), .mv (.tmp 8), none⟩])
 (.ret))
def r_spec_l1Cur__one : List ARes := [.tmp 4]
theorem ok_spec_l1Cur__one : FnOk Try.prog 103 9 c_spec_l1Cur__one r_spec_l1Cur__one := ⟨⟨Try.f103, _, Try.func103, by kernel_rfl, rfl, rfl, by kernel_rfl, by kernel_rfl⟩⟩
def c_spec_l1Cur__pick : ACode := .seq (.reg [⟨(some 4), .mv (.const (.int .i64 0)), none⟩])
 (.seq (.seq (.reg [⟨(some 6), .mv (.tmp 1), none⟩,
  ⟨(some 7), .bin .leq (.tmp 6) (.const (.int .i64 1)), none⟩])
 (.cond (.tmp 7) (.seq (.reg [⟨(some 4), .mv (.const (.int .i64 0)), none⟩])
 (.ret)) (.skip)))
 (.seq (.reg [⟨(some 8), .mv (.tmp 0), none⟩,
  ⟨(some 9), .call (.func 129) [(.tmp 8)], none⟩,
  ⟨(some 5), .mv (.tmp 9), none⟩])
 (.seq (.seq (.reg [⟨(some 10), .mv (.tmp 1), none⟩,
  ⟨(some 11), .bin .gtr (.tmp 10) (.const (.int .i64 200)), none⟩])
 (.cond (.tmp 11) (.reg [⟨(some 12), .mv (.tmp 5), none⟩,
  ⟨(some 13), .bin .mul (.tmp 12) (.const (.int .i64 256)), none⟩,
  ⟨(some 14), .mv (.tmp 0), none⟩,
  ⟨(some 15), .call (.func 129) [(.tmp 14)], none⟩,
  ⟨(some 16), .bin .add (.tmp 13) (.tmp 15), none⟩,
  ⟨(some 5), .mv (.tmp 16), none⟩]) (.skip)))
 (.seq (.reg [⟨(some 17), .mv (.tmp 5), none⟩,
  ⟨(some 18), .mv (.tmp 1), none⟩,
  ⟨(some 19), .bin .rem (.tmp 17) (.tmp 18), none⟩,
  ⟨(some 4), .mv (.tmp 19), none⟩])
 (.ret)))))
def r_spec_l1Cur__pick : List ARes := [.tmp 4]
theorem ok_spec_l1Cur__pick : FnOk Try.prog 105 20 c_spec_l1Cur__pick r_spec_l1Cur__pick := ⟨⟨Try.f105, _, Try.func105, by kernel_rfl, rfl, rfl, by kernel_rfl, by kernel_rfl⟩⟩
def c_spec_l1Cur__goods : ACode := .seq (.reg [⟨(some 2), .mv (.const (.slice none 0 0)), none⟩])
 (.seq (.reg [⟨(some 7), .bsl 24 1 0 [] [], none⟩,
  ⟨(some 3), .mv (.tmp 7), none⟩])
 (.seq (.reg [⟨(some 4), .mv (.const (.int .i64 0)), none⟩])
 (.seq (.seq (.reg [⟨(some 8), .mv (.tmp 0), none⟩,
  ⟨(some 9), .bsl 3 1 4 [(.int .i64 0), (.int .i64 0), (.int .i64 0), (.int .i64 0)] [(0, 1, (.const (.int .i64 2))), (1, 1, (.const (.int .i64 1))), (2, 1, (.const (.int .i64 2))), (3, 1, (.const (.int .i64 3)))], none⟩,
  ⟨(some 10), .call (.func 108) [(.tmp 8), (.tmp 9)], none⟩,
  ⟨(some 5), .mv (.tmp 10), none⟩])
 (.block 0 (.loop (.seq (.seq (.reg [⟨(some 11), .mv (.tmp 5), none⟩,
  ⟨(some 12), .bin .gtr (.tmp 11) (.const (.int .i64 0)), none⟩])
 (.cond (.tmp 12) (.skip) (.exit 0)))
 (.seq (.block 1 (.seq (.reg [⟨(some 15), .mv (.tmp 0), none⟩,
  ⟨(some 16), .call (.func 78) [(.tmp 15)], none⟩,
  ⟨(some 6), .mv (.tmp 16), none⟩])
 (.seq (.seq (.reg [⟨(some 17), .mv (.tmp 3), none⟩,
  ⟨(some 18), .len (.tmp 17), none⟩,
  ⟨(some 19), .bin .gtr (.tmp 18) (.const (.int .i64 0)), none⟩,
  ⟨(some 20), .mv (.tmp 19), none⟩,
  ⟨(some 21), .mv (.tmp 6), (some (20, true))⟩,
  ⟨(some 22), .call (.func 83) [(.tmp 21)], (some (20, true))⟩,
  ⟨(some 23), .pick (.tmp 20) (.tmp 22) (.const (.bool false)), none⟩,
  ⟨(some 24), .mv (.tmp 23), none⟩,
  ⟨(some 25), .mv (.tmp 6), (some (24, true))⟩,
  ⟨(some 26), .call (.func 100) [(.tmp 25)], (some (24, true))⟩,
  ⟨(some 27), .mv (.tmp 4), (some (24, true))⟩,
  ⟨(some 28), .bin .lss (.tmp 26) (.tmp 27), (some (24, true))⟩,
  ⟨(some 29), .pick (.tmp 24) (.tmp 28) (.const (.bool false)), none⟩,
  ⟨(some 30), .mv (.tmp 29), none⟩,
  ⟨(some 31), .mv (.tmp 0), (some (30, true))⟩,
  ⟨(some 32), .call (.func 103) [(.tmp 31), (.const (.int .i64 12))], (some (30, true))⟩,
  ⟨(some 33), .un .not (.tmp 32), (some (30, true))⟩,
  ⟨(some 34), .pick (.tmp 30) (.tmp 33) (.const (.bool false)), none⟩])
 (.cond (.tmp 34) (.reg [⟨(some 35), .mv (.tmp 6), none⟩,
  ⟨(some 36), .mv (.tmp 6), none⟩,
  ⟨(some 37), .iad 1 (.tmp 36) (.const (.int .i64 0)), none⟩,
  ⟨(some 38), .ld none (.tmp 37), none⟩,
  ⟨(some 39), .mv (.tmp 4), none⟩,
  ⟨(some 40), .bin .add (.tmp 38) (.tmp 39), none⟩,
  ⟨(some 41), .mv (.tmp 6), none⟩,
  ⟨(some 42), .rcall (.func 100) [(.tmp 41)], none⟩,
  ⟨(some 43), .bin .sub (.tmp 40) (.tmp 42), none⟩,
  ⟨(some 44), .rcall (.func 130) [(.const (.int .i64 1000)), (.tmp 43)], none⟩,
  ⟨(some 45), .iad 1 (.tmp 35) (.const (.int .i64 0)), none⟩,
  ⟨none, .st 1 (.tmp 45) (.tmp 44), none⟩]) (.skip)))
 (.seq (.seq (.reg [⟨(some 46), .mv (.tmp 3), none⟩,
  ⟨(some 47), .len (.tmp 46), none⟩,
  ⟨(some 48), .bin .gtr (.tmp 47) (.const (.int .i64 0)), none⟩,
  ⟨(some 49), .mv (.tmp 48), none⟩,
  ⟨(some 50), .mv (.tmp 6), (some (49, true))⟩,
  ⟨(some 51), .call (.func 83) [(.tmp 50)], (some (49, true))⟩,
  ⟨(some 52), .pick (.tmp 49) (.tmp 51) (.const (.bool false)), none⟩,
  ⟨(some 53), .mv (.tmp 52), none⟩,
  ⟨(some 54), .mv (.tmp 6), (some (53, true))⟩,
  ⟨(some 55), .call (.func 100) [(.tmp 54)], (some (53, true))⟩,
  ⟨(some 56), .mv (.tmp 4), (some (53, true))⟩,
  ⟨(some 57), .bin .neq (.tmp 55) (.tmp 56), (some (53, true))⟩,
  ⟨(some 58), .pick (.tmp 53) (.tmp 57) (.const (.bool false)), none⟩,
  ⟨(some 59), .mv (.tmp 58), none⟩,
  ⟨(some 60), .mv (.tmp 0), (some (59, true))⟩,
  ⟨(some 61), .call (.func 103) [(.tmp 60), (.const (.int .i64 12))], (some (59, true))⟩,
  ⟨(some 62), .un .not (.tmp 61), (some (59, true))⟩,
  ⟨(some 63), .pick (.tmp 59) (.tmp 62) (.const (.bool false)), none⟩])
 (.cond (.tmp 63) (.reg [⟨(some 64), .mv (.tmp 3), none⟩,
  ⟨(some 65), .iad 1 (.tmp 64) (.const (.int .i64 0)), none⟩,
  ⟨(some 66), .ld none (.tmp 65), none⟩,
  ⟨(some 67), .call (.func 104) [(.tmp 66)], none⟩,
  ⟨(some 6), .mv (.tmp 67), none⟩]) (.skip)))
 (.seq (.reg [⟨(some 68), .mv (.tmp 6), none⟩,
  ⟨(some 69), .call (.func 100) [(.tmp 68)], none⟩,
  ⟨(some 4), .mv (.tmp 69), none⟩])
 (.reg [⟨(some 70), .mv (.tmp 3), none⟩,
  ⟨(some 71), .mv (.tmp 6), none⟩,
  ⟨(some 72), .bsl 24 1 1 [(.slice none 0 0)] [(0, 1, (.tmp 71))], none⟩,
  ⟨(some 73), .app 24 1 24 (.tmp 70) (.tmp 72), none⟩,
  ⟨(some 3), .mv (.tmp 73), none⟩]))))))
 (.reg [⟨(some 13), .mv (.tmp 5), none⟩,
  ⟨(some 14), .bin .sub (.tmp 13) (.const (.int .i64 1)), none⟩,
  ⟨(some 5), .mv (.tmp 14), none⟩]))))))
 (.seq (.seq (.reg [⟨(some 74), .mv (.tmp 0), none⟩,
  ⟨(some 75), .call (.func 103) [(.tmp 74), (.const (.int .i64 24))], none⟩])
 (.cond (.tmp 75) (.seq (.reg [⟨(some 76), .bsl 24 1 0 [] [], none⟩,
  ⟨(some 2), .mv (.tmp 76), none⟩])
 (.ret)) (.skip)))
 (.seq (.reg [⟨(some 77), .mv (.tmp 3), none⟩,
  ⟨(some 2), .mv (.tmp 77), none⟩])
 (.ret))))))
def r_spec_l1Cur__goods : List ARes := [.tmp 2]
theorem ok_spec_l1Cur__goods : FnOk Try.prog 107 78 c_spec_l1Cur__goods r_spec_l1Cur__goods := ⟨⟨Try.f107, _, Try.func107, by kernel_rfl, rfl, rfl, by kernel_rfl, by kernel_rfl⟩⟩
def c_spec_l1Cur__among : ACode := .seq (.reg [⟨(some 4), .mv (.const (.int .i64 0)), none⟩])
 (.seq (.reg [⟨(some 5), .mv (.tmp 1), none⟩,
  ⟨(some 6), .mv (.tmp 0), none⟩,
  ⟨(some 7), .mv (.tmp 1), none⟩,
  ⟨(some 8), .len (.tmp 7), none⟩,
  ⟨(some 9), .call (.func 105) [(.tmp 6), (.tmp 8)], none⟩,
  ⟨(some 10), .iad 1 (.tmp 5) (.tmp 9), none⟩,
  ⟨(some 11), .ld none (.tmp 10), none⟩,
  ⟨(some 4), .mv (.tmp 11), none⟩])
 (.ret))
def r_spec_l1Cur__among : List ARes := [.tmp 4]
theorem ok_spec_l1Cur__among : FnOk Try.prog 108 12 c_spec_l1Cur__among r_spec_l1Cur__among := ⟨⟨Try.f108, _, Try.func108, by kernel_rfl, rfl, rfl, by kernel_rfl, by kernel_rfl⟩⟩
def c_spec_l1Cur__next : ACode := .seq (.reg [⟨(some 2), .mv (.const (.int .i64 0)), none⟩])
 (.seq (.reg [⟨(some 3), .mv (.const (.int .i64 0)), none⟩])
 (.seq (.seq (.reg [⟨(some 4), .mv (.tmp 0), none⟩,
  ⟨(some 5), .nilc (.tmp 4), none⟩,
  ⟨(some 6), .fad 1 (.tmp 5), none⟩,
  ⟨(some 7), .ld none (.tmp 6), none⟩,
  ⟨(some 8), .mv (.tmp 0), none⟩,
  ⟨(some 9), .nilc (.tmp 8), none⟩,
  ⟨(some 10), .fad 0 (.tmp 9), none⟩,
  ⟨(some 11), .ld none (.tmp 10), none⟩,
  ⟨(some 12), .len (.tmp 11), none⟩,
  ⟨(some 13), .bin .lss (.tmp 7) (.tmp 12), none⟩])
 (.cond (.tmp 13) (.reg [⟨(some 14), .mv (.tmp 0), none⟩,
  ⟨(some 15), .nilc (.tmp 14), none⟩,
  ⟨(some 16), .fad 0 (.tmp 15), none⟩,
  ⟨(some 17), .ld none (.tmp 16), none⟩,
  ⟨(some 18), .mv (.tmp 0), none⟩,
  ⟨(some 19), .nilc (.tmp 18), none⟩,
  ⟨(some 20), .fad 1 (.tmp 19), none⟩,
  ⟨(some 21), .ld none (.tmp 20), none⟩,
  ⟨(some 22), .iad 1 (.tmp 17) (.tmp 21), none⟩,
  ⟨(some 23), .ld none (.tmp 22), none⟩,
  ⟨(some 24), .conv .i64 (.tmp 23), none⟩,
  ⟨(some 3), .mv (.tmp 24), none⟩]) (.skip)))
 (.seq (.reg [⟨(some 25), .mv (.tmp 0), none⟩,
  ⟨(some 26), .nilc (.tmp 25), none⟩,
  ⟨(some 27), .fad 1 (.tmp 26), none⟩,
  ⟨(some 28), .ld none (.tmp 27), none⟩,
  ⟨(some 29), .bin .add (.tmp 28) (.const (.int .i64 1)), none⟩,
  ⟨(some 30), .nilc (.tmp 25), none⟩,
  ⟨(some 31), .fad 1 (.tmp 30), none⟩,
  ⟨none, .st 1 (.tmp 31) (.tmp 29), none⟩])
 (.seq (.reg [⟨(some 32), .mv (.tmp 0), none⟩,
  ⟨(some 33), .mv (.tmp 0), none⟩,
  ⟨(some 34), .nilc (.tmp 33), none⟩,
  ⟨(some 35), .fad 2 (.tmp 34), none⟩,
  ⟨(some 36), .ld none (.tmp 35), none⟩,
  ⟨(some 37), .bin .mul (.tmp 36) (.const (.int .u64 6364136223846793005)), none⟩,
  ⟨(some 38), .mv (.tmp 3), none⟩,
  ⟨(some 39), .conv .u64 (.tmp 38), none⟩,
  ⟨(some 40), .bin .add (.tmp 37) (.tmp 39), none⟩,
  ⟨(some 41), .bin .add (.tmp 40) (.const (.int .u64 462197)), none⟩,
  ⟨(some 42), .nilc (.tmp 32), none⟩,
  ⟨(some 43), .fad 2 (.tmp 42), none⟩,
  ⟨none, .st 1 (.tmp 43) (.tmp 41), none⟩])
 (.seq (.seq (.reg [⟨(some 44), .mv (.tmp 0), none⟩,
  ⟨(some 45), .nilc (.tmp 44), none⟩,
  ⟨(some 46), .fad 1 (.tmp 45), none⟩,
  ⟨(some 47), .ld none (.tmp 46), none⟩,
  ⟨(some 48), .mv (.tmp 0), none⟩,
  ⟨(some 49), .nilc (.tmp 48), none⟩,
  ⟨(some 50), .fad 0 (.tmp 49), none⟩,
  ⟨(some 51), .ld none (.tmp 50), none⟩,
  ⟨(some 52), .len (.tmp 51), none⟩,
  ⟨(some 53), .bin .leq (.tmp 47) (.tmp 52), none⟩])
 (.cond (.tmp 53) (.seq (.reg [⟨(some 54), .mv (.tmp 3), none⟩,
  ⟨(some 2), .mv (.tmp 54), none⟩])
 (.ret)) (.skip)))
 (.seq (.reg [⟨(some 55), .mv (.tmp 0), none⟩,
  ⟨(some 56), .nilc (.tmp 55), none⟩,
  ⟨(some 57), .fad 2 (.tmp 56), none⟩,
  ⟨(some 58), .ld none (.tmp 57), none⟩,
  ⟨(some 59), .bin .shr (.tmp 58) (.const (.int .u64 40)), none⟩,
  ⟨(some 60), .bin .and (.tmp 59) (.const (.int .u64 255)), none⟩,
  ⟨(some 61), .conv .i64 (.tmp 60), none⟩,
  ⟨(some 2), .mv (.tmp 61), none⟩])
 (.ret)))))))
def r_spec_l1Cur__next : List ARes := [.tmp 2]
theorem ok_spec_l1Cur__next : FnOk Try.prog 129 62 c_spec_l1Cur__next r_spec_l1Cur__next := ⟨⟨Try.f129, _, Try.func129, by kernel_rfl, rfl, rfl, by kernel_rfl, by kernel_rfl⟩⟩
end Go.Proofs.Ytfdpieeopdhcmaa.Ab
