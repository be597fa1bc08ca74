/- The compiled forms of functions, each checked against the translation. -/
import Derived.Test.YtghaogfhmbjlkaaAb2
import Derived.Test.YtghaogfhmbjlkaaCodTwoB
import Derived.Test.YtghaogfhmbjlkaaProg
namespace Go.Proofs.Ytghaogfhmbjlkaa.Ab
open Go Go.RowKit Go.Proofs
set_option maxRecDepth 100000
def c_spec_JoinCases : ACode := .seq (.reg [⟨(some 2), .box 26 (.tmp 0), none⟩,
  ⟨(some 3), .box 26 (.tmp 1), none⟩,
  ⟨(some 4), .alc 26 [(.slice none 0 0), (.slice none 0 0), (.slice none 0 0), (.slice none 0 0)], none⟩,
  ⟨(some 5), .mv (.const (.bool false)), none⟩])
 (.seq (.seq (.reg [⟨(some 6), .ld (some 4) (.tmp 2), none⟩,
  ⟨(some 7), .call (.func 40) [(.tmp 6)], none⟩,
  ⟨(some 8), .un .not (.tmp 7), none⟩,
  ⟨(some 9), .mv (.tmp 8), none⟩,
  ⟨(some 10), .ld (some 4) (.tmp 3), (some (9, false))⟩,
  ⟨(some 11), .call (.func 40) [(.tmp 10)], (some (9, false))⟩,
  ⟨(some 12), .un .not (.tmp 11), (some (9, false))⟩,
  ⟨(some 13), .pick (.tmp 9) (.const (.bool true)) (.tmp 12), none⟩,
  ⟨(some 14), .mv (.tmp 13), none⟩,
  ⟨(some 15), .fad 0 (.tmp 2), (some (14, false))⟩,
  ⟨(some 16), .ld none (.tmp 15), (some (14, false))⟩,
  ⟨(some 17), .len (.tmp 16), (some (14, false))⟩,
  ⟨(some 18), .fad 0 (.tmp 3), (some (14, false))⟩,
  ⟨(some 19), .ld none (.tmp 18), (some (14, false))⟩,
  ⟨(some 20), .len (.tmp 19), (some (14, false))⟩,
  ⟨(some 21), .bin .add (.tmp 17) (.tmp 20), (some (14, false))⟩,
  ⟨(some 22), .bin .gtr (.tmp 21) (.const (.int .i64 8)), (some (14, false))⟩,
  ⟨(some 23), .pick (.tmp 14) (.const (.bool true)) (.tmp 22), none⟩])
 (.cond (.tmp 23) (.seq (.reg [⟨(some 24), .bld [(.slice none 0 0), (.slice none 0 0), (.slice none 0 0), (.slice none 0 0)] [], none⟩,
  ⟨none, .st 4 (.tmp 4) (.tmp 24), none⟩,
  ⟨(some 5), .mv (.const (.bool false)), none⟩])
 (.ret)) (.skip)))
 (.seq (.bad)
 (.ret)))
def r_spec_JoinCases : List ARes := [.cell 4 (some 4), .tmp 5]
theorem ok_spec_JoinCases : FnOk Try.prog 10 50 c_spec_JoinCases r_spec_JoinCases := ⟨⟨Try.f10, _, Try.func10, by kernel_rfl, rfl, rfl, by kernel_rfl, by kernel_rfl⟩⟩
def c_spec_BudgetOrders : ACode := .seq (.reg [⟨(some 10), .mv (.const (.slice none 0 0)), none⟩,
  ⟨(some 11), .mv (.const (.bool false)), none⟩])
 (.seq (.seq (.reg [⟨(some 12), .mv (.tmp 0), none⟩,
  ⟨(some 13), .call (.func 44) [(.tmp 12)], none⟩,
  ⟨(some 14), .un .not (.tmp 13), none⟩,
  ⟨(some 15), .mv (.tmp 14), none⟩,
  ⟨(some 16), .mv (.tmp 1), (some (15, false))⟩,
  ⟨(some 17), .mv (.tmp 2), (some (15, false))⟩,
  ⟨(some 18), .call (.func 45) [(.tmp 16), (.tmp 17)], (some (15, false))⟩,
  ⟨(some 19), .un .not (.tmp 18), (some (15, false))⟩,
  ⟨(some 20), .pick (.tmp 15) (.const (.bool true)) (.tmp 19), none⟩,
  ⟨(some 21), .mv (.tmp 20), none⟩,
  ⟨(some 22), .mv (.tmp 3), (some (21, false))⟩,
  ⟨(some 23), .mv (.tmp 0), (some (21, false))⟩,
  ⟨(some 24), .len (.tmp 23), (some (21, false))⟩,
  ⟨(some 25), .call (.func 46) [(.tmp 22), (.tmp 24), (.const (.int .i64 20))], (some (21, false))⟩,
  ⟨(some 26), .un .not (.tmp 25), (some (21, false))⟩,
  ⟨(some 27), .pick (.tmp 21) (.const (.bool true)) (.tmp 26), none⟩,
  ⟨(some 28), .mv (.tmp 27), none⟩,
  ⟨(some 29), .mv (.tmp 4), (some (28, false))⟩,
  ⟨(some 30), .call (.func 47) [(.tmp 29), (.const (.int .i64 0)), (.const (.int .i64 60))], (some (28, false))⟩,
  ⟨(some 31), .un .not (.tmp 30), (some (28, false))⟩,
  ⟨(some 32), .pick (.tmp 28) (.const (.bool true)) (.tmp 31), none⟩])
 (.cond (.tmp 32) (.seq (.reg [⟨(some 33), .bsl 3 1 0 [] [], none⟩,
  ⟨(some 10), .mv (.tmp 33), none⟩,
  ⟨(some 11), .mv (.const (.bool false)), none⟩])
 (.ret)) (.skip)))
 (.seq (.reg [⟨(some 34), .mv (.tmp 0), none⟩,
  ⟨(some 35), .mv (.tmp 1), none⟩,
  ⟨(some 36), .mv (.tmp 2), none⟩,
  ⟨(some 37), .mv (.tmp 3), none⟩,
  ⟨(some 38), .mv (.tmp 4), none⟩,
  ⟨(some 39), .bsl 3 1 0 [] [], none⟩,
  ⟨(some 40), .bld [(.slice none 0 0), (.int .i64 0), (.bool false)] [], none⟩,
  ⟨(some 41), .call (.func 48) [(.tmp 34), (.tmp 35), (.tmp 36), (.tmp 37), (.tmp 38), (.tmp 39), (.const (.int .i64 0)), (.tmp 40)], none⟩,
  ⟨(some 42), .fld 0 none (.tmp 41), none⟩,
  ⟨(some 10), .mv (.tmp 42), none⟩,
  ⟨(some 11), .mv (.const (.bool true)), none⟩])
 (.ret)))
def r_spec_BudgetOrders : List ARes := [.tmp 10, .tmp 11]
theorem ok_spec_BudgetOrders : FnOk Try.prog 17 43 c_spec_BudgetOrders r_spec_BudgetOrders := ⟨⟨Try.f17, _, Try.func17, by kernel_rfl, rfl, rfl, by kernel_rfl, by kernel_rfl⟩⟩
def c_spec_StepOrders : ACode := .seq (.reg [⟨(some 8), .mv (.const (.slice none 0 0)), none⟩,
  ⟨(some 9), .mv (.const (.bool false)), none⟩])
 (.seq (.seq (.reg [⟨(some 15), .mv (.tmp 0), none⟩,
  ⟨(some 16), .call (.func 44) [(.tmp 15)], none⟩,
  ⟨(some 17), .un .not (.tmp 16), none⟩,
  ⟨(some 18), .mv (.tmp 17), none⟩,
  ⟨(some 19), .mv (.tmp 1), (some (18, false))⟩,
  ⟨(some 20), .mv (.tmp 2), (some (18, false))⟩,
  ⟨(some 21), .call (.func 45) [(.tmp 19), (.tmp 20)], (some (18, false))⟩,
  ⟨(some 22), .un .not (.tmp 21), (some (18, false))⟩,
  ⟨(some 23), .pick (.tmp 18) (.const (.bool true)) (.tmp 22), none⟩,
  ⟨(some 24), .mv (.tmp 23), none⟩,
  ⟨(some 25), .mv (.tmp 3), (some (24, false))⟩,
  ⟨(some 26), .call (.func 47) [(.tmp 25), (.const (.int .i64 0)), (.const (.int .i64 60))], (some (24, false))⟩,
  ⟨(some 27), .un .not (.tmp 26), (some (24, false))⟩,
  ⟨(some 28), .pick (.tmp 24) (.const (.bool true)) (.tmp 27), none⟩])
 (.cond (.tmp 28) (.seq (.reg [⟨(some 29), .bsl 3 1 0 [] [], none⟩,
  ⟨(some 8), .mv (.tmp 29), none⟩,
  ⟨(some 9), .mv (.const (.bool false)), none⟩])
 (.ret)) (.skip)))
 (.seq (.reg [⟨(some 30), .mv (.tmp 0), none⟩,
  ⟨(some 31), .len (.tmp 30), none⟩,
  ⟨(some 32), .mks 3 8 [(.int .i64 0)] (.tmp 31) (.tmp 31), none⟩,
  ⟨(some 10), .mv (.tmp 32), none⟩])
 (.seq (.block 0 (.loop (.seq (.seq (.reg [⟨(some 33), .mv (.tmp 10), none⟩,
  ⟨(some 34), .call (.func 57) [(.tmp 33)], none⟩,
  ⟨(some 35), .mv (.tmp 3), none⟩,
  ⟨(some 36), .bin .lss (.tmp 34) (.tmp 35), none⟩])
 (.cond (.tmp 36) (.skip) (.exit 0)))
 (.block 1 (.seq (.reg [⟨(some 11), .mv (.const (.int .i64 (-1))), none⟩,
  ⟨(some 12), .mv (.const (.int .i64 0)), none⟩])
 (.seq (.seq (.reg [⟨(some 13), .mv (.const (.int .i64 0)), none⟩])
 (.block 2 (.loop (.seq (.seq (.reg [⟨(some 37), .mv (.tmp 13), none⟩,
  ⟨(some 38), .mv (.tmp 0), none⟩,
  ⟨(some 39), .len (.tmp 38), none⟩,
  ⟨(some 40), .bin .lss (.tmp 37) (.tmp 39), none⟩])
 (.cond (.tmp 40) (.skip) (.exit 2)))
 (.seq (.block 3 (.seq (.seq (.reg [⟨(some 43), .mv (.tmp 10), none⟩,
  ⟨(some 44), .mv (.tmp 13), none⟩,
  ⟨(some 45), .iad 1 (.tmp 43) (.tmp 44), none⟩,
  ⟨(some 46), .ld none (.tmp 45), none⟩,
  ⟨(some 47), .bin .eql (.tmp 46) (.const (.int .i64 15)), none⟩])
 (.cond (.tmp 47) (.exit 3) (.skip)))
 (.seq (.reg [⟨(some 48), .mv (.tmp 0), none⟩,
  ⟨(some 49), .mv (.tmp 13), none⟩,
  ⟨(some 50), .iad 1 (.tmp 48) (.tmp 49), none⟩,
  ⟨(some 51), .ld none (.tmp 50), none⟩,
  ⟨(some 52), .mv (.tmp 1), none⟩,
  ⟨(some 53), .mv (.tmp 2), none⟩,
  ⟨(some 54), .mv (.tmp 10), none⟩,
  ⟨(some 55), .mv (.tmp 13), none⟩,
  ⟨(some 56), .iad 1 (.tmp 54) (.tmp 55), none⟩,
  ⟨(some 57), .ld none (.tmp 56), none⟩,
  ⟨(some 59), .mv (.tmp 0), none⟩,
  ⟨(some 60), .mv (.tmp 13), none⟩,
  ⟨(some 61), .iad 1 (.tmp 59) (.tmp 60), none⟩,
  ⟨(some 62), .ld none (.tmp 61), none⟩,
  ⟨(some 63), .mv (.tmp 1), none⟩,
  ⟨(some 64), .mv (.tmp 2), none⟩,
  ⟨(some 65), .mv (.tmp 10), none⟩,
  ⟨(some 66), .mv (.tmp 13), none⟩,
  ⟨(some 67), .iad 1 (.tmp 65) (.tmp 66), none⟩,
  ⟨(some 68), .ld none (.tmp 67), none⟩,
  ⟨(some 69), .bin .add (.tmp 68) (.const (.int .i64 1)), none⟩,
  ⟨(some 58), .rcall (.func 58) [(.tmp 51), (.tmp 52), (.tmp 53), (.tmp 57)], none⟩,
  ⟨(some 70), .rcall (.func 58) [(.tmp 62), (.tmp 63), (.tmp 64), (.tmp 69)], none⟩,
  ⟨(some 71), .bin .sub (.tmp 58) (.tmp 70), none⟩,
  ⟨(some 14), .mv (.tmp 71), none⟩])
 (.seq (.reg [⟨(some 72), .mv (.tmp 14), none⟩,
  ⟨(some 73), .mv (.tmp 12), none⟩,
  ⟨(some 74), .bin .gtr (.tmp 72) (.tmp 73), none⟩])
 (.cond (.tmp 74) (.seq (.reg [⟨(some 75), .mv (.tmp 13), none⟩,
  ⟨(some 11), .mv (.tmp 75), none⟩])
 (.reg [⟨(some 76), .mv (.tmp 14), none⟩,
  ⟨(some 12), .mv (.tmp 76), none⟩])) (.skip))))))
 (.reg [⟨(some 41), .mv (.tmp 13), none⟩,
  ⟨(some 42), .bin .add (.tmp 41) (.const (.int .i64 1)), none⟩,
  ⟨(some 13), .mv (.tmp 42), none⟩]))))))
 (.seq (.seq (.reg [⟨(some 77), .mv (.tmp 11), none⟩,
  ⟨(some 78), .bin .lss (.tmp 77) (.const (.int .i64 0)), none⟩])
 (.cond (.tmp 78) (.seq (.reg [⟨(some 79), .mv (.tmp 10), none⟩,
  ⟨(some 8), .mv (.tmp 79), none⟩,
  ⟨(some 9), .mv (.const (.bool true)), none⟩])
 (.ret)) (.skip)))
 (.reg [⟨(some 80), .mv (.tmp 10), none⟩,
  ⟨(some 81), .mv (.tmp 11), none⟩,
  ⟨(some 82), .mv (.tmp 10), none⟩,
  ⟨(some 83), .mv (.tmp 11), none⟩,
  ⟨(some 84), .iad 1 (.tmp 82) (.tmp 83), none⟩,
  ⟨(some 85), .ld none (.tmp 84), none⟩,
  ⟨(some 86), .bin .add (.tmp 85) (.const (.int .i64 1)), none⟩,
  ⟨(some 87), .iad 1 (.tmp 80) (.tmp 81), none⟩,
  ⟨none, .st 1 (.tmp 87) (.tmp 86), none⟩]))))))))
 (.seq (.reg [⟨(some 88), .mv (.tmp 10), none⟩,
  ⟨(some 8), .mv (.tmp 88), none⟩,
  ⟨(some 9), .mv (.const (.bool true)), none⟩])
 (.ret)))))
def r_spec_StepOrders : List ARes := [.tmp 8, .tmp 9]
theorem ok_spec_StepOrders : FnOk Try.prog 26 89 c_spec_StepOrders r_spec_StepOrders := ⟨⟨Try.f26, _, Try.func26, by kernel_rfl, rfl, rfl, by kernel_rfl, by kernel_rfl⟩⟩
def c_spec_BestNested : ACode := .seq (.reg [⟨(some 1), .box 50 (.tmp 0), none⟩,
  ⟨(some 2), .mv (.const (.slice none 0 0)), none⟩,
  ⟨(some 3), .mv (.const (.bool false)), none⟩])
 (.seq (.seq (.reg [⟨(some 7), .ld (some 3) (.tmp 1), none⟩,
  ⟨(some 8), .call (.func 60) [(.tmp 7)], none⟩,
  ⟨(some 9), .un .not (.tmp 8), none⟩])
 (.cond (.tmp 9) (.seq (.reg [⟨(some 10), .bsl 22 1 0 [] [], none⟩,
  ⟨(some 2), .mv (.tmp 10), none⟩,
  ⟨(some 3), .mv (.const (.bool false)), none⟩])
 (.ret)) (.skip)))
 (.seq (.reg [⟨(some 11), .ld (some 3) (.tmp 1), none⟩,
  ⟨(some 12), .bsl 22 1 0 [] [], none⟩,
  ⟨(some 13), .bld [(.slice none 0 0), (.int .i64 0), (.bool false)] [], none⟩,
  ⟨(some 14), .call (.func 61) [(.tmp 11), (.tmp 12), (.tmp 13)], none⟩,
  ⟨(some 15), .fld 0 none (.tmp 14), none⟩,
  ⟨(some 4), .mv (.tmp 15), none⟩])
 (.seq (.reg [⟨(some 16), .bsl 22 1 0 [] [], none⟩,
  ⟨(some 5), .mv (.tmp 16), none⟩])
 (.seq (.seq (.reg [⟨(some 6), .mv (.const (.int .i64 0)), none⟩])
 (.block 0 (.loop (.seq (.seq (.reg [⟨(some 17), .mv (.tmp 6), none⟩,
  ⟨(some 18), .mv (.tmp 4), none⟩,
  ⟨(some 19), .len (.tmp 18), none⟩,
  ⟨(some 20), .bin .lss (.tmp 17) (.tmp 19), none⟩])
 (.cond (.tmp 20) (.skip) (.exit 0)))
 (.seq (.block 1 (.reg [⟨(some 23), .mv (.tmp 5), none⟩,
  ⟨(some 24), .mv (.tmp 4), none⟩,
  ⟨(some 25), .mv (.tmp 6), none⟩,
  ⟨(some 26), .iad 1 (.tmp 24) (.tmp 25), none⟩,
  ⟨(some 27), .ld none (.tmp 26), none⟩,
  ⟨(some 28), .call (.func 41) [(.tmp 27)], none⟩,
  ⟨(some 29), .bsl 22 1 1 [(.slice none 0 0)] [(0, 1, (.tmp 28))], none⟩,
  ⟨(some 30), .app 22 1 24 (.tmp 23) (.tmp 29), none⟩,
  ⟨(some 5), .mv (.tmp 30), none⟩]))
 (.reg [⟨(some 21), .mv (.tmp 6), none⟩,
  ⟨(some 22), .bin .add (.tmp 21) (.const (.int .i64 1)), none⟩,
  ⟨(some 6), .mv (.tmp 22), none⟩]))))))
 (.seq (.reg [⟨(some 31), .mv (.tmp 5), none⟩,
  ⟨(some 2), .mv (.tmp 31), none⟩,
  ⟨(some 3), .mv (.const (.bool true)), none⟩])
 (.ret))))))
def r_spec_BestNested : List ARes := [.tmp 2, .tmp 3]
theorem ok_spec_BestNested : FnOk Try.prog 29 32 c_spec_BestNested r_spec_BestNested := ⟨⟨Try.f29, _, Try.func29, by kernel_rfl, rfl, rfl, by kernel_rfl, by kernel_rfl⟩⟩
def c_spec_BestChainCost : ACode := .seq (.reg [⟨(some 1), .box 50 (.tmp 0), none⟩,
  ⟨(some 2), .mv (.const (.int .i64 0)), none⟩,
  ⟨(some 3), .mv (.const (.bool false)), none⟩])
 (.seq (.seq (.reg [⟨(some 4), .ld (some 3) (.tmp 1), none⟩,
  ⟨(some 5), .call (.func 60) [(.tmp 4)], none⟩,
  ⟨(some 6), .un .not (.tmp 5), none⟩])
 (.cond (.tmp 6) (.seq (.reg [⟨(some 2), .mv (.const (.int .i64 0)), none⟩,
  ⟨(some 3), .mv (.const (.bool false)), none⟩])
 (.ret)) (.skip)))
 (.seq (.reg [⟨(some 7), .ld (some 3) (.tmp 1), none⟩,
  ⟨(some 8), .call (.func 65) [(.tmp 7)], none⟩,
  ⟨(some 2), .mv (.tmp 8), none⟩,
  ⟨(some 3), .mv (.const (.bool true)), none⟩])
 (.ret)))
def r_spec_BestChainCost : List ARes := [.tmp 2, .tmp 3]
theorem ok_spec_BestChainCost : FnOk Try.prog 35 9 c_spec_BestChainCost r_spec_BestChainCost := ⟨⟨Try.f35, _, Try.func35, by kernel_rfl, rfl, rfl, by kernel_rfl, by kernel_rfl⟩⟩
def c_spec_BestAssembly : ACode := .seq (.reg [⟨(some 6), .mv (.const (.int .i64 0)), none⟩,
  ⟨(some 7), .mv (.const (.bool false)), none⟩])
 (.seq (.seq (.reg [⟨(some 13), .mv (.tmp 0), none⟩,
  ⟨(some 14), .mv (.tmp 1), none⟩,
  ⟨(some 15), .mv (.tmp 2), none⟩,
  ⟨(some 16), .call (.func 66) [(.tmp 13), (.tmp 14), (.tmp 15)], none⟩,
  ⟨(some 17), .un .not (.tmp 16), none⟩])
 (.cond (.tmp 17) (.seq (.reg [⟨(some 6), .mv (.const (.int .i64 0)), none⟩,
  ⟨(some 7), .mv (.const (.bool false)), none⟩])
 (.ret)) (.skip)))
 (.seq (.reg [⟨(some 8), .mv (.const (.int .i64 (-1))), none⟩])
 (.seq (.seq (.reg [⟨(some 9), .mv (.const (.int .i64 0)), none⟩])
 (.block 0 (.loop (.seq (.seq (.reg [⟨(some 18), .mv (.tmp 9), none⟩,
  ⟨(some 19), .mv (.tmp 0), none⟩,
  ⟨(some 20), .len (.tmp 19), none⟩,
  ⟨(some 21), .bin .shl (.const (.int .i64 1)) (.tmp 20), none⟩,
  ⟨(some 22), .bin .lss (.tmp 18) (.tmp 21), none⟩])
 (.cond (.tmp 22) (.skip) (.exit 0)))
 (.seq (.block 1 (.seq (.reg [⟨(some 25), .mv (.tmp 0), none⟩,
  ⟨(some 26), .len (.tmp 25), none⟩,
  ⟨(some 27), .mv (.tmp 9), none⟩,
  ⟨(some 28), .call (.func 67) [(.tmp 26), (.tmp 27)], none⟩,
  ⟨(some 10), .mv (.tmp 28), none⟩])
 (.seq (.seq (.reg [⟨(some 29), .mv (.tmp 0), none⟩,
  ⟨(some 30), .mv (.tmp 10), none⟩,
  ⟨(some 31), .call (.func 68) [(.tmp 29), (.tmp 30)], none⟩,
  ⟨(some 32), .un .not (.tmp 31), none⟩])
 (.cond (.tmp 32) (.exit 1) (.skip)))
 (.seq (.reg [⟨(some 33), .mv (.tmp 0), none⟩,
  ⟨(some 34), .mv (.tmp 1), none⟩,
  ⟨(some 35), .iad 1 (.tmp 34) (.const (.int .i64 0)), none⟩,
  ⟨(some 36), .ld none (.tmp 35), none⟩,
  ⟨(some 37), .mv (.tmp 2), none⟩,
  ⟨(some 38), .iad 1 (.tmp 37) (.const (.int .i64 0)), none⟩,
  ⟨(some 39), .ld none (.tmp 38), none⟩,
  ⟨(some 40), .mv (.tmp 10), none⟩,
  ⟨(some 41), .rcall (.func 69) [(.tmp 33), (.tmp 36), (.tmp 39), (.tmp 40)], none⟩,
  ⟨(some 11), .mv (.tmp 41), none⟩])
 (.seq (.seq (.reg [⟨(some 12), .mv (.const (.int .i64 1)), none⟩])
 (.block 2 (.loop (.seq (.seq (.reg [⟨(some 42), .mv (.tmp 12), none⟩,
  ⟨(some 43), .mv (.tmp 1), none⟩,
  ⟨(some 44), .len (.tmp 43), none⟩,
  ⟨(some 45), .bin .lss (.tmp 42) (.tmp 44), none⟩])
 (.cond (.tmp 45) (.skip) (.exit 2)))
 (.seq (.block 3 (.reg [⟨(some 48), .mv (.tmp 11), none⟩,
  ⟨(some 49), .mv (.tmp 0), none⟩,
  ⟨(some 50), .mv (.tmp 10), none⟩,
  ⟨(some 52), .mv (.tmp 1), none⟩,
  ⟨(some 53), .mv (.tmp 12), none⟩,
  ⟨(some 54), .iad 1 (.tmp 52) (.tmp 53), none⟩,
  ⟨(some 55), .ld none (.tmp 54), none⟩,
  ⟨(some 56), .mv (.tmp 2), none⟩,
  ⟨(some 57), .mv (.tmp 12), none⟩,
  ⟨(some 58), .iad 1 (.tmp 56) (.tmp 57), none⟩,
  ⟨(some 59), .ld none (.tmp 58), none⟩,
  ⟨(some 51), .rcall (.func 71) [(.tmp 49), (.tmp 50)], none⟩,
  ⟨(some 60), .rcall (.func 70) [(.tmp 51), (.tmp 55), (.tmp 59)], none⟩,
  ⟨(some 61), .bin .add (.tmp 48) (.tmp 60), none⟩,
  ⟨(some 11), .mv (.tmp 61), none⟩]))
 (.reg [⟨(some 46), .mv (.tmp 12), none⟩,
  ⟨(some 47), .bin .add (.tmp 46) (.const (.int .i64 1)), none⟩,
  ⟨(some 12), .mv (.tmp 47), none⟩]))))))
 (.seq (.reg [⟨(some 62), .mv (.tmp 8), none⟩,
  ⟨(some 63), .bin .lss (.tmp 62) (.const (.int .i64 0)), none⟩,
  ⟨(some 64), .mv (.tmp 63), none⟩,
  ⟨(some 65), .mv (.tmp 11), (some (64, false))⟩,
  ⟨(some 66), .mv (.tmp 8), (some (64, false))⟩,
  ⟨(some 67), .bin .lss (.tmp 65) (.tmp 66), (some (64, false))⟩,
  ⟨(some 68), .pick (.tmp 64) (.const (.bool true)) (.tmp 67), none⟩])
 (.cond (.tmp 68) (.reg [⟨(some 69), .mv (.tmp 11), none⟩,
  ⟨(some 8), .mv (.tmp 69), none⟩]) (.skip))))))))
 (.reg [⟨(some 23), .mv (.tmp 9), none⟩,
  ⟨(some 24), .bin .add (.tmp 23) (.const (.int .i64 1)), none⟩,
  ⟨(some 9), .mv (.tmp 24), none⟩]))))))
 (.seq (.reg [⟨(some 70), .mv (.tmp 8), none⟩,
  ⟨(some 6), .mv (.tmp 70), none⟩,
  ⟨(some 7), .mv (.const (.bool true)), none⟩])
 (.ret)))))
def r_spec_BestAssembly : List ARes := [.tmp 6, .tmp 7]
theorem ok_spec_BestAssembly : FnOk Try.prog 37 71 c_spec_BestAssembly r_spec_BestAssembly := ⟨⟨Try.f37, _, Try.func37, by kernel_rfl, rfl, rfl, by kernel_rfl, by kernel_rfl⟩⟩
def c_spec_l2Good : ACode := .seq (.reg [⟨(some 1), .box 26 (.tmp 0), none⟩,
  ⟨(some 2), .mv (.const (.bool false)), none⟩])
 (.seq (.reg [⟨(some 4), .fad 0 (.tmp 1), none⟩,
  ⟨(some 5), .ld none (.tmp 4), none⟩,
  ⟨(some 6), .len (.tmp 5), none⟩,
  ⟨(some 3), .mv (.tmp 6), none⟩])
 (.seq (.reg [⟨(some 7), .mv (.tmp 3), none⟩,
  ⟨(some 8), .bin .leq (.tmp 7) (.const (.int .i64 8)), none⟩,
  ⟨(some 9), .mv (.tmp 8), none⟩,
  ⟨(some 10), .fad 0 (.tmp 1), (some (9, true))⟩,
  ⟨(some 11), .ld none (.tmp 10), (some (9, true))⟩,
  ⟨(some 12), .mv (.tmp 3), (some (9, true))⟩,
  ⟨(some 13), .call (.func 46) [(.tmp 11), (.tmp 12), (.const (.int .i64 20))], (some (9, true))⟩,
  ⟨(some 14), .pick (.tmp 9) (.tmp 13) (.const (.bool false)), none⟩,
  ⟨(some 15), .mv (.tmp 14), none⟩,
  ⟨(some 16), .fad 1 (.tmp 1), (some (15, true))⟩,
  ⟨(some 17), .ld none (.tmp 16), (some (15, true))⟩,
  ⟨(some 18), .mv (.tmp 3), (some (15, true))⟩,
  ⟨(some 19), .call (.func 46) [(.tmp 17), (.tmp 18), (.const (.int .i64 99))], (some (15, true))⟩,
  ⟨(some 20), .pick (.tmp 15) (.tmp 19) (.const (.bool false)), none⟩,
  ⟨(some 21), .mv (.tmp 20), none⟩,
  ⟨(some 22), .fad 2 (.tmp 1), (some (21, true))⟩,
  ⟨(some 23), .ld none (.tmp 22), (some (21, true))⟩,
  ⟨(some 24), .mv (.tmp 3), (some (21, true))⟩,
  ⟨(some 25), .call (.func 46) [(.tmp 23), (.tmp 24), (.const (.int .i64 9))], (some (21, true))⟩,
  ⟨(some 26), .pick (.tmp 21) (.tmp 25) (.const (.bool false)), none⟩,
  ⟨(some 27), .mv (.tmp 26), none⟩,
  ⟨(some 28), .fad 3 (.tmp 1), (some (27, true))⟩,
  ⟨(some 29), .ld none (.tmp 28), (some (27, true))⟩,
  ⟨(some 30), .mv (.tmp 3), (some (27, true))⟩,
  ⟨(some 31), .call (.func 46) [(.tmp 29), (.tmp 30), (.const (.int .i64 9))], (some (27, true))⟩,
  ⟨(some 32), .pick (.tmp 27) (.tmp 31) (.const (.bool false)), none⟩,
  ⟨(some 2), .mv (.tmp 32), none⟩])
 (.ret)))
def r_spec_l2Good : List ARes := [.tmp 2]
theorem ok_spec_l2Good : FnOk Try.prog 40 33 c_spec_l2Good r_spec_l2Good := ⟨⟨Try.f40, _, Try.func40, by kernel_rfl, rfl, rfl, by kernel_rfl, by kernel_rfl⟩⟩
def c_spec_l1Own : ACode := .seq (.reg [⟨(some 2), .mv (.const (.slice none 0 0)), none⟩])
 (.seq (.reg [⟨(some 3), .bsl 3 1 0 [] [], none⟩,
  ⟨(some 4), .mv (.tmp 0), none⟩,
  ⟨(some 5), .app 3 1 8 (.tmp 3) (.tmp 4), none⟩,
  ⟨(some 2), .mv (.tmp 5), none⟩])
 (.ret))
def r_spec_l1Own : List ARes := [.tmp 2]
theorem ok_spec_l1Own : FnOk Try.prog 41 6 c_spec_l1Own r_spec_l1Own := ⟨⟨Try.f41, _, Try.func41, by kernel_rfl, rfl, rfl, by kernel_rfl, by kernel_rfl⟩⟩
def c_slices_Concat : ACode := .seq (.reg [⟨(some 2), .mv (.const (.slice none 0 0)), none⟩])
 (.seq (.reg [⟨(some 3), .mv (.const (.int .i64 0)), none⟩])
 (.seq (.seq (.reg [⟨(some 9), .mv (.tmp 0), none⟩,
  ⟨(some 10), .len (.tmp 9), none⟩,
  ⟨(some 11), .mv (.const (.int .i64 0)), none⟩])
 (.block 0 (.loop (.seq (.reg [⟨(some 12), .bin .lss (.tmp 11) (.tmp 10), none⟩])
 (.seq (.cond (.tmp 12) (.skip) (.exit 0))
 (.seq (.block 1 (.seq (.reg [⟨(some 13), .iad 1 (.tmp 9) (.tmp 11), none⟩,
  ⟨(some 14), .ld none (.tmp 13), none⟩,
  ⟨(some 5), .mv (.tmp 14), none⟩])
 (.seq (.reg [⟨(some 15), .mv (.tmp 3), none⟩,
  ⟨(some 16), .mv (.tmp 5), none⟩,
  ⟨(some 17), .len (.tmp 16), none⟩,
  ⟨(some 18), .bin .add (.tmp 15) (.tmp 17), none⟩,
  ⟨(some 3), .mv (.tmp 18), none⟩])
 (.seq (.reg [⟨(some 19), .mv (.tmp 3), none⟩,
  ⟨(some 20), .bin .lss (.tmp 19) (.const (.int .i64 0)), none⟩])
 (.cond (.tmp 20) (.reg [⟨(some 21), .mif 9 (.const (.string ⟨#[108, 101, 110, 32, 111, 117, 116, 32, 111, 102, 32, 114, 97, 110, 103, 101]⟩)), none⟩,
  ⟨none, .never, none⟩]) (.skip))))))
 (.reg [⟨(some 22), .bin .add (.tmp 11) (.const (.int .i64 1)), none⟩,
  ⟨(some 11), .mv (.tmp 22), none⟩])))))))
 (.seq (.reg [⟨(some 23), .mv (.tmp 3), none⟩,
  ⟨(some 24), .call (.func 78) [(.const (.slice none 0 0)), (.tmp 23)], none⟩,
  ⟨(some 6), .mv (.tmp 24), none⟩])
 (.seq (.seq (.reg [⟨(some 25), .mv (.tmp 0), none⟩,
  ⟨(some 26), .len (.tmp 25), none⟩,
  ⟨(some 27), .mv (.const (.int .i64 0)), none⟩])
 (.block 2 (.loop (.seq (.reg [⟨(some 28), .bin .lss (.tmp 27) (.tmp 26), none⟩])
 (.seq (.cond (.tmp 28) (.skip) (.exit 2))
 (.seq (.block 3 (.seq (.reg [⟨(some 29), .iad 1 (.tmp 25) (.tmp 27), none⟩,
  ⟨(some 30), .ld none (.tmp 29), none⟩,
  ⟨(some 8), .mv (.tmp 30), none⟩])
 (.reg [⟨(some 31), .mv (.tmp 6), none⟩,
  ⟨(some 32), .mv (.tmp 8), none⟩,
  ⟨(some 33), .app 3 1 8 (.tmp 31) (.tmp 32), none⟩,
  ⟨(some 6), .mv (.tmp 33), none⟩])))
 (.reg [⟨(some 34), .bin .add (.tmp 27) (.const (.int .i64 1)), none⟩,
  ⟨(some 27), .mv (.tmp 34), none⟩])))))))
 (.seq (.reg [⟨(some 35), .mv (.tmp 6), none⟩,
  ⟨(some 2), .mv (.tmp 35), none⟩])
 (.ret))))))
def r_slices_Concat : List ARes := [.tmp 2]
theorem ok_slices_Concat : FnOk Try.prog 43 36 c_slices_Concat r_slices_Concat := ⟨⟨Try.f43, _, Try.func43, by kernel_rfl, rfl, rfl, by kernel_rfl, by kernel_rfl⟩⟩
def c_spec_l5Goods : ACode := .seq (.reg [⟨(some 2), .mv (.const (.bool false)), none⟩])
 (.seq (.seq (.reg [⟨(some 3), .mv (.const (.int .i64 0)), none⟩])
 (.block 0 (.loop (.seq (.seq (.reg [⟨(some 4), .mv (.tmp 3), none⟩,
  ⟨(some 5), .mv (.tmp 0), none⟩,
  ⟨(some 6), .len (.tmp 5), none⟩,
  ⟨(some 7), .bin .lss (.tmp 4) (.tmp 6), none⟩])
 (.cond (.tmp 7) (.skip) (.exit 0)))
 (.seq (.block 1 (.seq (.reg [⟨(some 10), .mv (.tmp 0), none⟩,
  ⟨(some 11), .mv (.tmp 3), none⟩,
  ⟨(some 12), .iad 1 (.tmp 10) (.tmp 11), none⟩,
  ⟨(some 13), .ld none (.tmp 12), none⟩,
  ⟨(some 14), .rcall (.func 79) [(.tmp 13)], none⟩,
  ⟨(some 15), .un .not (.tmp 14), none⟩,
  ⟨(some 16), .mv (.tmp 15), none⟩,
  ⟨(some 17), .mv (.tmp 0), (some (16, false))⟩,
  ⟨(some 18), .mv (.tmp 3), (some (16, false))⟩,
  ⟨(some 19), .iad 1 (.tmp 17) (.tmp 18), (some (16, false))⟩,
  ⟨(some 20), .ld none (.tmp 19), (some (16, false))⟩,
  ⟨(some 22), .mv (.tmp 0), (some (16, false))⟩,
  ⟨(some 23), .iad 1 (.tmp 22) (.const (.int .i64 0)), (some (16, false))⟩,
  ⟨(some 24), .ld none (.tmp 23), (some (16, false))⟩,
  ⟨(some 21), .rcall (.func 80) [(.tmp 20)], (some (16, false))⟩,
  ⟨(some 25), .rcall (.func 80) [(.tmp 24)], (some (16, false))⟩,
  ⟨(some 26), .bin .neq (.tmp 21) (.tmp 25), (some (16, false))⟩,
  ⟨(some 27), .pick (.tmp 16) (.const (.bool true)) (.tmp 26), none⟩])
 (.cond (.tmp 27) (.seq (.reg [⟨(some 2), .mv (.const (.bool false)), none⟩])
 (.ret)) (.skip))))
 (.reg [⟨(some 8), .mv (.tmp 3), none⟩,
  ⟨(some 9), .bin .add (.tmp 8) (.const (.int .i64 1)), none⟩,
  ⟨(some 3), .mv (.tmp 9), none⟩]))))))
 (.seq (.reg [⟨(some 28), .mv (.tmp 0), none⟩,
  ⟨(some 29), .len (.tmp 28), none⟩,
  ⟨(some 30), .call (.func 47) [(.tmp 29), (.const (.int .i64 1)), (.const (.int .i64 3))], none⟩,
  ⟨(some 2), .mv (.tmp 30), none⟩])
 (.ret)))
def r_spec_l5Goods : List ARes := [.tmp 2]
theorem ok_spec_l5Goods : FnOk Try.prog 44 31 c_spec_l5Goods r_spec_l5Goods := ⟨⟨Try.f44, _, Try.func44, by kernel_rfl, rfl, rfl, by kernel_rfl, by kernel_rfl⟩⟩
def c_spec_l5Charges : ACode := .seq (.reg [⟨(some 4), .mv (.const (.bool false)), none⟩])
 (.seq (.reg [⟨(some 5), .mv (.tmp 0), none⟩,
  ⟨(some 6), .call (.func 47) [(.tmp 5), (.const (.int .i64 0)), (.const (.int .i64 20))], none⟩,
  ⟨(some 7), .mv (.tmp 6), none⟩,
  ⟨(some 8), .mv (.tmp 1), (some (7, true))⟩,
  ⟨(some 9), .call (.func 47) [(.tmp 8), (.const (.int .i64 0)), (.const (.int .i64 20))], (some (7, true))⟩,
  ⟨(some 10), .pick (.tmp 7) (.tmp 9) (.const (.bool false)), none⟩,
  ⟨(some 4), .mv (.tmp 10), none⟩])
 (.ret))
def r_spec_l5Charges : List ARes := [.tmp 4]
theorem ok_spec_l5Charges : FnOk Try.prog 45 11 c_spec_l5Charges r_spec_l5Charges := ⟨⟨Try.f45, _, Try.func45, by kernel_rfl, rfl, rfl, by kernel_rfl, by kernel_rfl⟩⟩
def c_spec_l2Row : ACode := .seq (.reg [⟨(some 6), .mv (.const (.bool false)), none⟩])
 (.seq (.seq (.reg [⟨(some 7), .mv (.const (.int .i64 0)), none⟩])
 (.block 0 (.loop (.seq (.seq (.reg [⟨(some 8), .mv (.tmp 7), none⟩,
  ⟨(some 9), .mv (.tmp 0), none⟩,
  ⟨(some 10), .len (.tmp 9), none⟩,
  ⟨(some 11), .bin .lss (.tmp 8) (.tmp 10), none⟩])
 (.cond (.tmp 11) (.skip) (.exit 0)))
 (.seq (.block 1 (.seq (.reg [⟨(some 14), .mv (.tmp 0), none⟩,
  ⟨(some 15), .mv (.tmp 7), none⟩,
  ⟨(some 16), .iad 1 (.tmp 14) (.tmp 15), none⟩,
  ⟨(some 17), .ld none (.tmp 16), none⟩,
  ⟨(some 18), .mv (.tmp 2), none⟩,
  ⟨(some 19), .call (.func 47) [(.tmp 17), (.const (.int .i64 0)), (.tmp 18)], none⟩,
  ⟨(some 20), .un .not (.tmp 19), none⟩])
 (.cond (.tmp 20) (.seq (.reg [⟨(some 6), .mv (.const (.bool false)), none⟩])
 (.ret)) (.skip))))
 (.reg [⟨(some 12), .mv (.tmp 7), none⟩,
  ⟨(some 13), .bin .add (.tmp 12) (.const (.int .i64 1)), none⟩,
  ⟨(some 7), .mv (.tmp 13), none⟩]))))))
 (.seq (.reg [⟨(some 21), .mv (.tmp 0), none⟩,
  ⟨(some 22), .len (.tmp 21), none⟩,
  ⟨(some 23), .mv (.tmp 1), none⟩,
  ⟨(some 24), .bin .eql (.tmp 22) (.tmp 23), none⟩,
  ⟨(some 6), .mv (.tmp 24), none⟩])
 (.ret)))
def r_spec_l2Row : List ARes := [.tmp 6]
theorem ok_spec_l2Row : FnOk Try.prog 46 25 c_spec_l2Row r_spec_l2Row := ⟨⟨Try.f46, _, Try.func46, by kernel_rfl, rfl, rfl, by kernel_rfl, by kernel_rfl⟩⟩
def c_spec_l1In : ACode := .seq (.reg [⟨(some 6), .mv (.const (.bool false)), none⟩])
 (.seq (.reg [⟨(some 7), .mv (.tmp 0), none⟩,
  ⟨(some 8), .mv (.tmp 1), none⟩,
  ⟨(some 9), .bin .geq (.tmp 7) (.tmp 8), none⟩,
  ⟨(some 10), .mv (.tmp 9), none⟩,
  ⟨(some 11), .mv (.tmp 0), (some (10, true))⟩,
  ⟨(some 12), .mv (.tmp 2), (some (10, true))⟩,
  ⟨(some 13), .bin .leq (.tmp 11) (.tmp 12), (some (10, true))⟩,
  ⟨(some 14), .pick (.tmp 10) (.tmp 13) (.const (.bool false)), none⟩,
  ⟨(some 6), .mv (.tmp 14), none⟩])
 (.ret))
def r_spec_l1In : List ARes := [.tmp 6]
theorem ok_spec_l1In : FnOk Try.prog 47 15 c_spec_l1In r_spec_l1In := ⟨⟨Try.f47, _, Try.func47, by kernel_rfl, rfl, rfl, by kernel_rfl, by kernel_rfl⟩⟩
def c_spec_l5Try : ACode := .seq (.reg [⟨(some 15), .box 66 (.tmp 7), none⟩,
  ⟨(some 16), .alc 66 [(.slice none 0 0), (.int .i64 0), (.bool false)], none⟩])
 (.seq (.seq (.reg [⟨(some 19), .mv (.tmp 5), none⟩,
  ⟨(some 20), .len (.tmp 19), none⟩,
  ⟨(some 21), .mv (.tmp 0), none⟩,
  ⟨(some 22), .len (.tmp 21), none⟩,
  ⟨(some 23), .bin .eql (.tmp 20) (.tmp 22), none⟩])
 (.cond (.tmp 23) (.seq (.seq (.reg [⟨(some 24), .fad 2 (.tmp 15), none⟩,
  ⟨(some 25), .ld none (.tmp 24), none⟩,
  ⟨(some 26), .un .not (.tmp 25), none⟩,
  ⟨(some 27), .mv (.tmp 26), none⟩,
  ⟨(some 28), .mv (.tmp 6), (some (27, false))⟩,
  ⟨(some 29), .fad 1 (.tmp 15), (some (27, false))⟩,
  ⟨(some 30), .ld none (.tmp 29), (some (27, false))⟩,
  ⟨(some 31), .bin .lss (.tmp 28) (.tmp 30), (some (27, false))⟩,
  ⟨(some 32), .pick (.tmp 27) (.const (.bool true)) (.tmp 31), none⟩])
 (.cond (.tmp 32) (.seq (.reg [⟨(some 33), .mv (.tmp 5), none⟩,
  ⟨(some 34), .mv (.tmp 6), none⟩,
  ⟨(some 35), .bld [(.slice none 0 0), (.int .i64 0), (.bool false)] [(0, 1, (.tmp 33)), (1, 1, (.tmp 34)), (2, 1, (.const (.bool true)))], none⟩,
  ⟨none, .st 3 (.tmp 16) (.tmp 35), none⟩])
 (.ret)) (.skip)))
 (.seq (.reg [⟨(some 36), .ld (some 3) (.tmp 15), none⟩,
  ⟨none, .st 3 (.tmp 16) (.tmp 36), none⟩])
 (.ret))) (.skip)))
 (.seq (.reg [⟨(some 37), .mv (.tmp 5), none⟩,
  ⟨(some 38), .len (.tmp 37), none⟩,
  ⟨(some 17), .mv (.tmp 38), none⟩])
 (.seq (.seq (.reg [⟨(some 18), .mv (.const (.int .i64 0)), none⟩])
 (.block 0 (.loop (.seq (.seq (.reg [⟨(some 39), .mv (.tmp 18), none⟩,
  ⟨(some 40), .bin .leq (.tmp 39) (.const (.int .i64 15)), none⟩,
  ⟨(some 41), .mv (.tmp 40), none⟩,
  ⟨(some 42), .mv (.tmp 18), (some (41, true))⟩,
  ⟨(some 43), .mv (.tmp 3), (some (41, true))⟩,
  ⟨(some 44), .mv (.tmp 17), (some (41, true))⟩,
  ⟨(some 45), .iad 1 (.tmp 43) (.tmp 44), (some (41, true))⟩,
  ⟨(some 46), .ld none (.tmp 45), (some (41, true))⟩,
  ⟨(some 47), .bin .mul (.tmp 42) (.tmp 46), (some (41, true))⟩,
  ⟨(some 48), .mv (.tmp 4), (some (41, true))⟩,
  ⟨(some 49), .bin .leq (.tmp 47) (.tmp 48), (some (41, true))⟩,
  ⟨(some 50), .pick (.tmp 41) (.tmp 49) (.const (.bool false)), none⟩])
 (.cond (.tmp 50) (.skip) (.exit 0)))
 (.seq (.block 1 (.bad))
 (.reg [⟨(some 51), .mv (.tmp 18), none⟩,
  ⟨(some 52), .bin .add (.tmp 51) (.const (.int .i64 1)), none⟩,
  ⟨(some 18), .mv (.tmp 52), none⟩]))))))
 (.seq (.reg [⟨(some 82), .ld (some 3) (.tmp 15), none⟩,
  ⟨none, .st 3 (.tmp 16) (.tmp 82), none⟩])
 (.ret)))))
def r_spec_l5Try : List ARes := [.cell 16 (some 3)]
theorem ok_spec_l5Try : FnOk Try.prog 48 83 c_spec_l5Try r_spec_l5Try := ⟨⟨Try.f48, _, Try.func48, by kernel_rfl, rfl, rfl, by kernel_rfl, by kernel_rfl⟩⟩
def c_spec_l2Sum : ACode := .seq (.reg [⟨(some 2), .mv (.const (.int .i64 0)), none⟩])
 (.seq (.reg [⟨(some 3), .mv (.const (.int .i64 0)), none⟩])
 (.seq (.seq (.reg [⟨(some 4), .mv (.const (.int .i64 0)), none⟩])
 (.block 0 (.loop (.seq (.seq (.reg [⟨(some 5), .mv (.tmp 4), none⟩,
  ⟨(some 6), .mv (.tmp 0), none⟩,
  ⟨(some 7), .len (.tmp 6), none⟩,
  ⟨(some 8), .bin .lss (.tmp 5) (.tmp 7), none⟩])
 (.cond (.tmp 8) (.skip) (.exit 0)))
 (.seq (.block 1 (.reg [⟨(some 11), .mv (.tmp 3), none⟩,
  ⟨(some 12), .mv (.tmp 0), none⟩,
  ⟨(some 13), .mv (.tmp 4), none⟩,
  ⟨(some 14), .iad 1 (.tmp 12) (.tmp 13), none⟩,
  ⟨(some 15), .ld none (.tmp 14), none⟩,
  ⟨(some 16), .bin .add (.tmp 11) (.tmp 15), none⟩,
  ⟨(some 3), .mv (.tmp 16), none⟩]))
 (.reg [⟨(some 9), .mv (.tmp 4), none⟩,
  ⟨(some 10), .bin .add (.tmp 9) (.const (.int .i64 1)), none⟩,
  ⟨(some 4), .mv (.tmp 10), none⟩]))))))
 (.seq (.reg [⟨(some 17), .mv (.tmp 3), none⟩,
  ⟨(some 2), .mv (.tmp 17), none⟩])
 (.ret))))
def r_spec_l2Sum : List ARes := [.tmp 2]
theorem ok_spec_l2Sum : FnOk Try.prog 57 18 c_spec_l2Sum r_spec_l2Sum := ⟨⟨Try.f57, _, Try.func57, by kernel_rfl, rfl, rfl, by kernel_rfl, by kernel_rfl⟩⟩
def c_spec_l5Cost : ACode := .seq (.reg [⟨(some 8), .mv (.const (.int .i64 0)), none⟩])
 (.seq (.reg [⟨(some 9), .mv (.tmp 1), none⟩,
  ⟨(some 10), .mv (.tmp 0), none⟩,
  ⟨(some 11), .mv (.tmp 3), none⟩,
  ⟨(some 12), .call (.func 87) [(.tmp 10), (.tmp 11)], none⟩,
  ⟨(some 13), .bin .mul (.tmp 9) (.tmp 12), none⟩,
  ⟨(some 14), .mv (.tmp 2), none⟩,
  ⟨(some 15), .mv (.tmp 0), none⟩,
  ⟨(some 16), .mv (.tmp 3), none⟩,
  ⟨(some 17), .call (.func 88) [(.tmp 15), (.tmp 16)], none⟩,
  ⟨(some 18), .bin .mul (.tmp 14) (.tmp 17), none⟩,
  ⟨(some 19), .bin .add (.tmp 13) (.tmp 18), none⟩,
  ⟨(some 8), .mv (.tmp 19), none⟩])
 (.ret))
def r_spec_l5Cost : List ARes := [.tmp 8]
theorem ok_spec_l5Cost : FnOk Try.prog 58 20 c_spec_l5Cost r_spec_l5Cost := ⟨⟨Try.f58, _, Try.func58, by kernel_rfl, rfl, rfl, by kernel_rfl, by kernel_rfl⟩⟩
def c_spec_l7Good : ACode := .seq (.reg [⟨(some 1), .box 50 (.tmp 0), none⟩,
  ⟨(some 2), .mv (.const (.bool false)), none⟩])
 (.seq (.seq (.reg [⟨(some 4), .fad 0 (.tmp 1), none⟩,
  ⟨(some 5), .ld none (.tmp 4), none⟩,
  ⟨(some 6), .len (.tmp 5), none⟩,
  ⟨(some 7), .bin .gtr (.tmp 6) (.const (.int .i64 6)), none⟩,
  ⟨(some 8), .mv (.tmp 7), none⟩,
  ⟨(some 9), .fad 0 (.tmp 1), (some (8, false))⟩,
  ⟨(some 10), .ld none (.tmp 9), (some (8, false))⟩,
  ⟨(some 11), .fad 0 (.tmp 1), (some (8, false))⟩,
  ⟨(some 12), .ld none (.tmp 11), (some (8, false))⟩,
  ⟨(some 13), .len (.tmp 12), (some (8, false))⟩,
  ⟨(some 14), .call (.func 46) [(.tmp 10), (.tmp 13), (.const (.int .i64 20))], (some (8, false))⟩,
  ⟨(some 15), .un .not (.tmp 14), (some (8, false))⟩,
  ⟨(some 16), .pick (.tmp 8) (.const (.bool true)) (.tmp 15), none⟩,
  ⟨(some 17), .mv (.tmp 16), none⟩,
  ⟨(some 18), .fad 1 (.tmp 1), (some (17, false))⟩,
  ⟨(some 19), .ld none (.tmp 18), (some (17, false))⟩,
  ⟨(some 20), .len (.tmp 19), (some (17, false))⟩,
  ⟨(some 21), .call (.func 47) [(.tmp 20), (.const (.int .i64 1)), (.const (.int .i64 3))], (some (17, false))⟩,
  ⟨(some 22), .un .not (.tmp 21), (some (17, false))⟩,
  ⟨(some 23), .pick (.tmp 17) (.const (.bool true)) (.tmp 22), none⟩])
 (.cond (.tmp 23) (.seq (.reg [⟨(some 2), .mv (.const (.bool false)), none⟩])
 (.ret)) (.skip)))
 (.seq (.seq (.reg [⟨(some 24), .fad 1 (.tmp 1), none⟩,
  ⟨(some 25), .ld none (.tmp 24), none⟩,
  ⟨(some 26), .fad 1 (.tmp 1), none⟩,
  ⟨(some 27), .ld none (.tmp 26), none⟩,
  ⟨(some 28), .len (.tmp 27), none⟩,
  ⟨(some 29), .call (.func 46) [(.tmp 25), (.tmp 28), (.const (.int .i64 99))], none⟩,
  ⟨(some 30), .un .not (.tmp 29), none⟩,
  ⟨(some 31), .mv (.tmp 30), none⟩,
  ⟨(some 32), .fad 2 (.tmp 1), (some (31, false))⟩,
  ⟨(some 33), .ld none (.tmp 32), (some (31, false))⟩,
  ⟨(some 34), .fad 1 (.tmp 1), (some (31, false))⟩,
  ⟨(some 35), .ld none (.tmp 34), (some (31, false))⟩,
  ⟨(some 36), .len (.tmp 35), (some (31, false))⟩,
  ⟨(some 37), .call (.func 46) [(.tmp 33), (.tmp 36), (.const (.int .i64 9))], (some (31, false))⟩,
  ⟨(some 38), .un .not (.tmp 37), (some (31, false))⟩,
  ⟨(some 39), .pick (.tmp 31) (.const (.bool true)) (.tmp 38), none⟩])
 (.cond (.tmp 39) (.seq (.reg [⟨(some 2), .mv (.const (.bool false)), none⟩])
 (.ret)) (.skip)))
 (.seq (.seq (.reg [⟨(some 3), .mv (.const (.int .i64 1)), none⟩])
 (.block 0 (.loop (.seq (.seq (.reg [⟨(some 40), .mv (.tmp 3), none⟩,
  ⟨(some 41), .fad 2 (.tmp 1), none⟩,
  ⟨(some 42), .ld none (.tmp 41), none⟩,
  ⟨(some 43), .len (.tmp 42), none⟩,
  ⟨(some 44), .bin .lss (.tmp 40) (.tmp 43), none⟩])
 (.cond (.tmp 44) (.skip) (.exit 0)))
 (.seq (.block 1 (.seq (.reg [⟨(some 47), .fad 2 (.tmp 1), none⟩,
  ⟨(some 48), .ld none (.tmp 47), none⟩,
  ⟨(some 49), .mv (.tmp 3), none⟩,
  ⟨(some 50), .iad 1 (.tmp 48) (.tmp 49), none⟩,
  ⟨(some 51), .ld none (.tmp 50), none⟩,
  ⟨(some 52), .fad 2 (.tmp 1), none⟩,
  ⟨(some 53), .ld none (.tmp 52), none⟩,
  ⟨(some 54), .mv (.tmp 3), none⟩,
  ⟨(some 55), .bin .sub (.tmp 54) (.const (.int .i64 1)), none⟩,
  ⟨(some 56), .iad 1 (.tmp 53) (.tmp 55), none⟩,
  ⟨(some 57), .ld none (.tmp 56), none⟩,
  ⟨(some 58), .bin .lss (.tmp 51) (.tmp 57), none⟩])
 (.cond (.tmp 58) (.seq (.reg [⟨(some 2), .mv (.const (.bool false)), none⟩])
 (.ret)) (.skip))))
 (.reg [⟨(some 45), .mv (.tmp 3), none⟩,
  ⟨(some 46), .bin .add (.tmp 45) (.const (.int .i64 1)), none⟩,
  ⟨(some 3), .mv (.tmp 46), none⟩]))))))
 (.seq (.reg [⟨(some 2), .mv (.const (.bool true)), none⟩])
 (.ret)))))
def r_spec_l7Good : List ARes := [.tmp 2]
theorem ok_spec_l7Good : FnOk Try.prog 60 59 c_spec_l7Good r_spec_l7Good := ⟨⟨Try.f60, _, Try.func60, by kernel_rfl, rfl, rfl, by kernel_rfl, by kernel_rfl⟩⟩
def c_spec_l7Try : ACode := .seq (.reg [⟨(some 3), .box 50 (.tmp 0), none⟩,
  ⟨(some 5), .box 83 (.tmp 2), none⟩,
  ⟨(some 6), .alc 83 [(.slice none 0 0), (.int .i64 0), (.bool false)], none⟩])
 (.seq (.seq (.reg [⟨(some 14), .mv (.tmp 1), none⟩,
  ⟨(some 15), .len (.tmp 14), none⟩,
  ⟨(some 16), .fad 1 (.tmp 3), none⟩,
  ⟨(some 17), .ld none (.tmp 16), none⟩,
  ⟨(some 18), .len (.tmp 17), none⟩,
  ⟨(some 19), .bin .eql (.tmp 15) (.tmp 18), none⟩])
 (.cond (.tmp 19) (.seq (.reg [⟨(some 21), .ld (some 3) (.tmp 3), none⟩,
  ⟨(some 22), .mv (.tmp 1), none⟩,
  ⟨(some 23), .call (.func 89) [(.tmp 21), (.tmp 22)], none⟩,
  ⟨(some 20), .mv (.tmp 23), none⟩,
  ⟨(some 24), .ext 0 (.tmp 20), none⟩,
  ⟨(some 25), .ext 1 (.tmp 20), none⟩,
  ⟨(some 7), .mv (.tmp 24), none⟩,
  ⟨(some 8), .mv (.tmp 25), none⟩])
 (.seq (.seq (.reg [⟨(some 26), .mv (.tmp 8), none⟩,
  ⟨(some 27), .un .not (.tmp 26), none⟩])
 (.cond (.tmp 27) (.seq (.reg [⟨(some 28), .ld (some 3) (.tmp 5), none⟩,
  ⟨none, .st 3 (.tmp 6) (.tmp 28), none⟩])
 (.ret)) (.skip)))
 (.seq (.reg [⟨(some 29), .ld (some 3) (.tmp 3), none⟩,
  ⟨(some 30), .mv (.tmp 7), none⟩,
  ⟨(some 31), .call (.func 90) [(.tmp 29), (.tmp 30)], none⟩,
  ⟨(some 9), .mv (.tmp 31), none⟩])
 (.seq (.reg [⟨(some 32), .mv (.tmp 1), none⟩,
  ⟨(some 34), .fad 0 (.tmp 5), none⟩,
  ⟨(some 35), .ld none (.tmp 34), none⟩,
  ⟨(some 33), .rcall (.func 91) [(.tmp 32)], none⟩,
  ⟨(some 36), .rcall (.func 91) [(.tmp 35)], none⟩,
  ⟨(some 10), .mv (.tmp 33), none⟩,
  ⟨(some 11), .mv (.tmp 36), none⟩])
 (.seq (.seq (.reg [⟨(some 37), .fad 2 (.tmp 5), none⟩,
  ⟨(some 38), .ld none (.tmp 37), none⟩,
  ⟨(some 39), .un .not (.tmp 38), none⟩,
  ⟨(some 40), .mv (.tmp 39), none⟩,
  ⟨(some 41), .mv (.tmp 9), (some (40, false))⟩,
  ⟨(some 42), .fad 1 (.tmp 5), (some (40, false))⟩,
  ⟨(some 43), .ld none (.tmp 42), (some (40, false))⟩,
  ⟨(some 44), .bin .lss (.tmp 41) (.tmp 43), (some (40, false))⟩,
  ⟨(some 45), .pick (.tmp 40) (.const (.bool true)) (.tmp 44), none⟩,
  ⟨(some 46), .mv (.tmp 45), none⟩,
  ⟨(some 47), .mv (.tmp 9), (some (46, false))⟩,
  ⟨(some 48), .fad 1 (.tmp 5), (some (46, false))⟩,
  ⟨(some 49), .ld none (.tmp 48), (some (46, false))⟩,
  ⟨(some 50), .bin .eql (.tmp 47) (.tmp 49), (some (46, false))⟩,
  ⟨(some 51), .mv (.tmp 50), (some (46, false))⟩,
  ⟨(some 52), .mv (.tmp 10), (some (51, true))⟩,
  ⟨(some 53), .mv (.tmp 11), (some (51, true))⟩,
  ⟨(some 54), .bin .lss (.tmp 52) (.tmp 53), (some (51, true))⟩,
  ⟨(some 55), .mv (.tmp 54), (some (51, true))⟩,
  ⟨(some 56), .mv (.tmp 10), (some (55, false))⟩,
  ⟨(some 57), .mv (.tmp 11), (some (55, false))⟩,
  ⟨(some 58), .bin .eql (.tmp 56) (.tmp 57), (some (55, false))⟩,
  ⟨(some 59), .mv (.tmp 58), (some (55, false))⟩,
  ⟨(some 60), .mv (.tmp 1), (some (59, true))⟩,
  ⟨(some 61), .fad 0 (.tmp 5), (some (59, true))⟩,
  ⟨(some 62), .ld none (.tmp 61), (some (59, true))⟩,
  ⟨(some 63), .call (.func 92) [(.tmp 60), (.tmp 62)], (some (59, true))⟩,
  ⟨(some 64), .pick (.tmp 59) (.tmp 63) (.const (.bool false)), (some (55, false))⟩,
  ⟨(some 65), .pick (.tmp 55) (.const (.bool true)) (.tmp 64), (some (51, true))⟩,
  ⟨(some 66), .pick (.tmp 51) (.tmp 65) (.const (.bool false)), (some (46, false))⟩,
  ⟨(some 67), .pick (.tmp 46) (.const (.bool true)) (.tmp 66), none⟩])
 (.cond (.tmp 67) (.seq (.reg [⟨(some 68), .mv (.tmp 1), none⟩,
  ⟨(some 69), .mv (.tmp 9), none⟩,
  ⟨(some 70), .bld [(.slice none 0 0), (.int .i64 0), (.bool false)] [(0, 1, (.tmp 68)), (1, 1, (.tmp 69)), (2, 1, (.const (.bool true)))], none⟩,
  ⟨none, .st 3 (.tmp 6) (.tmp 70), none⟩])
 (.ret)) (.skip)))
 (.seq (.reg [⟨(some 71), .ld (some 3) (.tmp 5), none⟩,
  ⟨none, .st 3 (.tmp 6) (.tmp 71), none⟩])
 (.ret))))))) (.skip)))
 (.seq (.seq (.reg [⟨(some 12), .mv (.const (.int .i64 0)), none⟩])
 (.block 0 (.loop (.seq (.seq (.reg [⟨(some 72), .mv (.tmp 12), none⟩,
  ⟨(some 73), .fad 0 (.tmp 3), none⟩,
  ⟨(some 74), .ld none (.tmp 73), none⟩,
  ⟨(some 75), .len (.tmp 74), none⟩,
  ⟨(some 76), .bin .shl (.const (.int .i64 1)) (.tmp 75), none⟩,
  ⟨(some 77), .bin .lss (.tmp 72) (.tmp 76), none⟩])
 (.cond (.tmp 77) (.skip) (.exit 0)))
 (.seq (.block 1 (.seq (.reg [⟨(some 80), .fad 0 (.tmp 3), none⟩,
  ⟨(some 81), .ld none (.tmp 80), none⟩,
  ⟨(some 82), .len (.tmp 81), none⟩,
  ⟨(some 83), .mv (.tmp 12), none⟩,
  ⟨(some 84), .call (.func 67) [(.tmp 82), (.tmp 83)], none⟩,
  ⟨(some 13), .mv (.tmp 84), none⟩])
 (.seq (.reg [⟨(some 85), .mv (.tmp 1), none⟩,
  ⟨(some 86), .len (.tmp 85), none⟩,
  ⟨(some 87), .bin .eql (.tmp 86) (.const (.int .i64 0)), none⟩,
  ⟨(some 88), .mv (.tmp 87), none⟩,
  ⟨(some 89), .mv (.tmp 13), (some (88, false))⟩,
  ⟨(some 90), .mv (.tmp 1), (some (88, false))⟩,
  ⟨(some 91), .iad 1 (.tmp 90) (.const (.int .i64 0)), (some (88, false))⟩,
  ⟨(some 92), .ld none (.tmp 91), (some (88, false))⟩,
  ⟨(some 93), .call (.func 93) [(.tmp 89), (.tmp 92)], (some (88, false))⟩,
  ⟨(some 94), .pick (.tmp 88) (.const (.bool true)) (.tmp 93), none⟩])
 (.cond (.tmp 94) (.seq (.reg [⟨(some 96), .mv (.tmp 13), none⟩]) (.seq (.reg [⟨(some 98), .mv (.tmp 1), none⟩]) (.both (.seq (.reg [⟨(some 95), .ld (some 3) (.tmp 3), none⟩]) (.both (.seq (.reg [⟨(some 97), .bsl 22 1 1 [(.slice none 0 0)] [(0, 1, (.tmp 96))], none⟩]) (.both (.seq (.reg [⟨(some 99), .app 22 1 24 (.tmp 97) (.tmp 98), none⟩]) (.seq (.reg [⟨(some 100), .ld (some 3) (.tmp 5), none⟩]) (.seq (.reg [⟨(some 101), .rcall (.func 61) [(.tmp 95), (.tmp 99), (.tmp 100)], none⟩]) (.seq (.reg [⟨none, .st 3 (.tmp 5) (.tmp 101), none⟩]) (.skip))))) (.seq (.reg [⟨(some 100), .ld (some 3) (.tmp 5), none⟩]) (.seq (.reg [⟨(some 99), .app 22 1 24 (.tmp 97) (.tmp 98), none⟩]) (.seq (.reg [⟨(some 101), .rcall (.func 61) [(.tmp 95), (.tmp 99), (.tmp 100)], none⟩]) (.seq (.reg [⟨none, .st 3 (.tmp 5) (.tmp 101), none⟩]) (.skip))))))) (.seq (.reg [⟨(some 100), .ld (some 3) (.tmp 5), none⟩]) (.seq (.reg [⟨(some 97), .bsl 22 1 1 [(.slice none 0 0)] [(0, 1, (.tmp 96))], none⟩]) (.seq (.reg [⟨(some 99), .app 22 1 24 (.tmp 97) (.tmp 98), none⟩]) (.seq (.reg [⟨(some 101), .rcall (.func 61) [(.tmp 95), (.tmp 99), (.tmp 100)], none⟩]) (.seq (.reg [⟨none, .st 3 (.tmp 5) (.tmp 101), none⟩]) (.skip)))))))) (.both (.seq (.reg [⟨(some 97), .bsl 22 1 1 [(.slice none 0 0)] [(0, 1, (.tmp 96))], none⟩]) (.both (.seq (.reg [⟨(some 95), .ld (some 3) (.tmp 3), none⟩]) (.both (.seq (.reg [⟨(some 99), .app 22 1 24 (.tmp 97) (.tmp 98), none⟩]) (.seq (.reg [⟨(some 100), .ld (some 3) (.tmp 5), none⟩]) (.seq (.reg [⟨(some 101), .rcall (.func 61) [(.tmp 95), (.tmp 99), (.tmp 100)], none⟩]) (.seq (.reg [⟨none, .st 3 (.tmp 5) (.tmp 101), none⟩]) (.skip))))) (.seq (.reg [⟨(some 100), .ld (some 3) (.tmp 5), none⟩]) (.seq (.reg [⟨(some 99), .app 22 1 24 (.tmp 97) (.tmp 98), none⟩]) (.seq (.reg [⟨(some 101), .rcall (.func 61) [(.tmp 95), (.tmp 99), (.tmp 100)], none⟩]) (.seq (.reg [⟨none, .st 3 (.tmp 5) (.tmp 101), none⟩]) (.skip))))))) (.both (.seq (.reg [⟨(some 99), .app 22 1 24 (.tmp 97) (.tmp 98), none⟩]) (.seq (.reg [⟨(some 95), .ld (some 3) (.tmp 3), none⟩]) (.seq (.reg [⟨(some 100), .ld (some 3) (.tmp 5), none⟩]) (.seq (.reg [⟨(some 101), .rcall (.func 61) [(.tmp 95), (.tmp 99), (.tmp 100)], none⟩]) (.seq (.reg [⟨none, .st 3 (.tmp 5) (.tmp 101), none⟩]) (.skip)))))) (.seq (.reg [⟨(some 100), .ld (some 3) (.tmp 5), none⟩]) (.both (.seq (.reg [⟨(some 95), .ld (some 3) (.tmp 3), none⟩]) (.seq (.reg [⟨(some 99), .app 22 1 24 (.tmp 97) (.tmp 98), none⟩]) (.seq (.reg [⟨(some 101), .rcall (.func 61) [(.tmp 95), (.tmp 99), (.tmp 100)], none⟩]) (.seq (.reg [⟨none, .st 3 (.tmp 5) (.tmp 101), none⟩]) (.skip))))) (.seq (.reg [⟨(some 99), .app 22 1 24 (.tmp 97) (.tmp 98), none⟩]) (.seq (.reg [⟨(some 95), .ld (some 3) (.tmp 3), none⟩]) (.seq (.reg [⟨(some 101), .rcall (.func 61) [(.tmp 95), (.tmp 99), (.tmp 100)], none⟩]) (.seq (.reg [⟨none, .st 3 (.tmp 5) (.tmp 101), none⟩]) (.skip)))))))))) (.seq (.reg [⟨(some 100), .ld (some 3) (.tmp 5), none⟩]) (.both (.seq (.reg [⟨(some 95), .ld (some 3) (.tmp 3), none⟩]) (.seq (.reg [⟨(some 97), .bsl 22 1 1 [(.slice none 0 0)] [(0, 1, (.tmp 96))], none⟩]) (.seq (.reg [⟨(some 99), .app 22 1 24 (.tmp 97) (.tmp 98), none⟩]) (.seq (.reg [⟨(some 101), .rcall (.func 61) [(.tmp 95), (.tmp 99), (.tmp 100)], none⟩]) (.seq (.reg [⟨none, .st 3 (.tmp 5) (.tmp 101), none⟩]) (.skip)))))) (.seq (.reg [⟨(some 97), .bsl 22 1 1 [(.slice none 0 0)] [(0, 1, (.tmp 96))], none⟩]) (.both (.seq (.reg [⟨(some 95), .ld (some 3) (.tmp 3), none⟩]) (.seq (.reg [⟨(some 99), .app 22 1 24 (.tmp 97) (.tmp 98), none⟩]) (.seq (.reg [⟨(some 101), .rcall (.func 61) [(.tmp 95), (.tmp 99), (.tmp 100)], none⟩]) (.seq (.reg [⟨none, .st 3 (.tmp 5) (.tmp 101), none⟩]) (.skip))))) (.seq (.reg [⟨(some 99), .app 22 1 24 (.tmp 97) (.tmp 98), none⟩]) (.seq (.reg [⟨(some 95), .ld (some 3) (.tmp 3), none⟩]) (.seq (.reg [⟨(some 101), .rcall (.func 61) [(.tmp 95), (.tmp 99), (.tmp 100)], none⟩]) (.seq (.reg [⟨none, .st 3 (.tmp 5) (.tmp 101), none⟩]) (.skip))))))))))))) (.skip)))))
 (.reg [⟨(some 78), .mv (.tmp 12), none⟩,
  ⟨(some 79), .bin .add (.tmp 78) (.const (.int .i64 1)), none⟩,
  ⟨(some 12), .mv (.tmp 79), none⟩]))))))
 (.seq (.reg [⟨(some 102), .ld (some 3) (.tmp 5), none⟩,
  ⟨none, .st 3 (.tmp 6) (.tmp 102), none⟩])
 (.ret))))
def r_spec_l7Try : List ARes := [.cell 6 (some 3)]
theorem ok_spec_l7Try : FnOk Try.prog 61 103 c_spec_l7Try r_spec_l7Try := ⟨⟨Try.f61, _, Try.func61, by kernel_rfl, rfl, rfl, by kernel_rfl, by kernel_rfl⟩⟩
def c_spec_l7Best : ACode := .seq (.reg [⟨(some 1), .box 50 (.tmp 0), none⟩,
  ⟨(some 2), .mv (.const (.int .i64 0)), none⟩])
 (.seq (.reg [⟨(some 8), .fad 0 (.tmp 1), none⟩,
  ⟨(some 9), .ld none (.tmp 8), none⟩,
  ⟨(some 10), .len (.tmp 9), none⟩,
  ⟨(some 3), .mv (.tmp 10), none⟩])
 (.seq (.reg [⟨(some 11), .mv (.tmp 3), none⟩,
  ⟨(some 12), .bin .add (.tmp 11) (.const (.int .i64 1)), none⟩,
  ⟨(some 13), .mks 3 8 [(.int .i64 0)] (.tmp 12) (.tmp 12), none⟩,
  ⟨(some 4), .mv (.tmp 13), none⟩])
 (.seq (.seq (.reg [⟨(some 14), .mv (.tmp 3), none⟩,
  ⟨(some 15), .bin .sub (.tmp 14) (.const (.int .i64 1)), none⟩,
  ⟨(some 5), .mv (.tmp 15), none⟩])
 (.block 0 (.loop (.seq (.seq (.reg [⟨(some 16), .mv (.tmp 5), none⟩,
  ⟨(some 17), .bin .geq (.tmp 16) (.const (.int .i64 0)), none⟩])
 (.cond (.tmp 17) (.skip) (.exit 0)))
 (.seq (.block 1 (.seq (.seq (.reg [⟨(some 20), .fad 0 (.tmp 1), none⟩,
  ⟨(some 21), .ld none (.tmp 20), none⟩,
  ⟨(some 22), .mv (.tmp 5), none⟩,
  ⟨(some 23), .iad 1 (.tmp 21) (.tmp 22), none⟩,
  ⟨(some 24), .ld none (.tmp 23), none⟩,
  ⟨(some 25), .bin .eql (.tmp 24) (.const (.int .i64 0)), none⟩])
 (.cond (.tmp 25) (.seq (.reg [⟨(some 26), .mv (.tmp 4), none⟩,
  ⟨(some 27), .mv (.tmp 5), none⟩,
  ⟨(some 28), .mv (.tmp 4), none⟩,
  ⟨(some 29), .mv (.tmp 5), none⟩,
  ⟨(some 30), .bin .add (.tmp 29) (.const (.int .i64 1)), none⟩,
  ⟨(some 31), .iad 1 (.tmp 28) (.tmp 30), none⟩,
  ⟨(some 32), .ld none (.tmp 31), none⟩,
  ⟨(some 33), .iad 1 (.tmp 26) (.tmp 27), none⟩,
  ⟨none, .st 1 (.tmp 33) (.tmp 32), none⟩])
 (.exit 1)) (.skip)))
 (.seq (.reg [⟨(some 34), .mv (.tmp 4), none⟩,
  ⟨(some 35), .mv (.tmp 5), none⟩,
  ⟨(some 36), .iad 1 (.tmp 34) (.tmp 35), none⟩,
  ⟨none, .st 1 (.tmp 36) (.const (.int .i64 (-1))), none⟩])
 (.seq (.reg [⟨(some 37), .mv (.tmp 5), none⟩,
  ⟨(some 38), .bin .add (.tmp 37) (.const (.int .i64 1)), none⟩,
  ⟨(some 6), .mv (.tmp 38), none⟩])
 (.block 2 (.loop (.seq (.seq (.reg [⟨(some 39), .mv (.tmp 6), none⟩,
  ⟨(some 40), .mv (.tmp 3), none⟩,
  ⟨(some 41), .bin .leq (.tmp 39) (.tmp 40), none⟩])
 (.cond (.tmp 41) (.skip) (.exit 2)))
 (.seq (.block 3 (.seq (.reg [⟨(some 44), .fad 1 (.tmp 1), none⟩,
  ⟨(some 45), .ld none (.tmp 44), none⟩,
  ⟨(some 46), .iad 1 (.tmp 45) (.const (.int .i64 0)), none⟩,
  ⟨(some 47), .ld none (.tmp 46), none⟩,
  ⟨(some 48), .ld (some 3) (.tmp 1), none⟩,
  ⟨(some 49), .mv (.tmp 5), none⟩,
  ⟨(some 50), .mv (.tmp 5), none⟩,
  ⟨(some 51), .mv (.tmp 6), none⟩,
  ⟨(some 54), .mv (.tmp 4), none⟩,
  ⟨(some 55), .mv (.tmp 6), none⟩,
  ⟨(some 56), .iad 1 (.tmp 54) (.tmp 55), none⟩,
  ⟨(some 57), .ld none (.tmp 56), none⟩,
  ⟨(some 52), .rcall (.func 97) [(.tmp 48), (.const (.int .i64 0)), (.tmp 49), (.tmp 50), (.tmp 51)], none⟩,
  ⟨(some 53), .bin .add (.tmp 47) (.tmp 52), none⟩,
  ⟨(some 58), .bin .add (.tmp 53) (.tmp 57), none⟩,
  ⟨(some 7), .mv (.tmp 58), none⟩])
 (.seq (.reg [⟨(some 59), .mv (.tmp 4), none⟩,
  ⟨(some 60), .mv (.tmp 5), none⟩,
  ⟨(some 61), .iad 1 (.tmp 59) (.tmp 60), none⟩,
  ⟨(some 62), .ld none (.tmp 61), none⟩,
  ⟨(some 63), .bin .lss (.tmp 62) (.const (.int .i64 0)), none⟩,
  ⟨(some 64), .mv (.tmp 63), none⟩,
  ⟨(some 65), .mv (.tmp 7), (some (64, false))⟩,
  ⟨(some 66), .mv (.tmp 4), (some (64, false))⟩,
  ⟨(some 67), .mv (.tmp 5), (some (64, false))⟩,
  ⟨(some 68), .iad 1 (.tmp 66) (.tmp 67), (some (64, false))⟩,
  ⟨(some 69), .ld none (.tmp 68), (some (64, false))⟩,
  ⟨(some 70), .bin .lss (.tmp 65) (.tmp 69), (some (64, false))⟩,
  ⟨(some 71), .pick (.tmp 64) (.const (.bool true)) (.tmp 70), none⟩])
 (.cond (.tmp 71) (.reg [⟨(some 72), .mv (.tmp 4), none⟩,
  ⟨(some 73), .mv (.tmp 5), none⟩,
  ⟨(some 74), .mv (.tmp 7), none⟩,
  ⟨(some 75), .iad 1 (.tmp 72) (.tmp 73), none⟩,
  ⟨none, .st 1 (.tmp 75) (.tmp 74), none⟩]) (.skip)))))
 (.reg [⟨(some 42), .mv (.tmp 6), none⟩,
  ⟨(some 43), .bin .add (.tmp 42) (.const (.int .i64 1)), none⟩,
  ⟨(some 6), .mv (.tmp 43), none⟩])))))))))
 (.reg [⟨(some 18), .mv (.tmp 5), none⟩,
  ⟨(some 19), .bin .sub (.tmp 18) (.const (.int .i64 1)), none⟩,
  ⟨(some 5), .mv (.tmp 19), none⟩]))))))
 (.seq (.reg [⟨(some 76), .mv (.tmp 4), none⟩,
  ⟨(some 77), .iad 1 (.tmp 76) (.const (.int .i64 0)), none⟩,
  ⟨(some 78), .ld none (.tmp 77), none⟩,
  ⟨(some 2), .mv (.tmp 78), none⟩])
 (.ret)))))
def r_spec_l7Best : List ARes := [.tmp 2]
theorem ok_spec_l7Best : FnOk Try.prog 65 79 c_spec_l7Best r_spec_l7Best := ⟨⟨Try.f65, _, Try.func65, by kernel_rfl, rfl, rfl, by kernel_rfl, by kernel_rfl⟩⟩
def c_spec_l7Parts : ACode := .seq (.reg [⟨(some 6), .mv (.const (.bool false)), none⟩])
 (.seq (.seq (.reg [⟨(some 7), .mv (.tmp 0), none⟩,
  ⟨(some 8), .len (.tmp 7), none⟩,
  ⟨(some 9), .bin .gtr (.tmp 8) (.const (.int .i64 6)), none⟩,
  ⟨(some 10), .mv (.tmp 9), none⟩,
  ⟨(some 11), .mv (.tmp 0), (some (10, false))⟩,
  ⟨(some 12), .mv (.tmp 0), (some (10, false))⟩,
  ⟨(some 13), .len (.tmp 12), (some (10, false))⟩,
  ⟨(some 14), .call (.func 46) [(.tmp 11), (.tmp 13), (.const (.int .i64 20))], (some (10, false))⟩,
  ⟨(some 15), .un .not (.tmp 14), (some (10, false))⟩,
  ⟨(some 16), .pick (.tmp 10) (.const (.bool true)) (.tmp 15), none⟩,
  ⟨(some 17), .mv (.tmp 16), none⟩,
  ⟨(some 18), .mv (.tmp 1), (some (17, false))⟩,
  ⟨(some 19), .len (.tmp 18), (some (17, false))⟩,
  ⟨(some 20), .call (.func 47) [(.tmp 19), (.const (.int .i64 1)), (.const (.int .i64 3))], (some (17, false))⟩,
  ⟨(some 21), .un .not (.tmp 20), (some (17, false))⟩,
  ⟨(some 22), .pick (.tmp 17) (.const (.bool true)) (.tmp 21), none⟩])
 (.cond (.tmp 22) (.seq (.reg [⟨(some 6), .mv (.const (.bool false)), none⟩])
 (.ret)) (.skip)))
 (.seq (.reg [⟨(some 23), .mv (.tmp 1), none⟩,
  ⟨(some 24), .mv (.tmp 1), none⟩,
  ⟨(some 25), .len (.tmp 24), none⟩,
  ⟨(some 26), .rcall (.func 46) [(.tmp 23), (.tmp 25), (.const (.int .i64 99))], none⟩,
  ⟨(some 27), .mv (.tmp 26), none⟩,
  ⟨(some 28), .mv (.tmp 2), (some (27, true))⟩,
  ⟨(some 29), .mv (.tmp 1), (some (27, true))⟩,
  ⟨(some 30), .len (.tmp 29), (some (27, true))⟩,
  ⟨(some 31), .rcall (.func 46) [(.tmp 28), (.tmp 30), (.const (.int .i64 9))], (some (27, true))⟩,
  ⟨(some 32), .pick (.tmp 27) (.tmp 31) (.const (.bool false)), none⟩,
  ⟨(some 33), .mv (.tmp 32), none⟩,
  ⟨(some 34), .mv (.tmp 2), (some (33, true))⟩,
  ⟨(some 35), .iad 1 (.tmp 34) (.const (.int .i64 0)), (some (33, true))⟩,
  ⟨(some 36), .ld none (.tmp 35), (some (33, true))⟩,
  ⟨(some 37), .mv (.tmp 2), (some (33, true))⟩,
  ⟨(some 38), .slc 1 (.tmp 37) (some (.const (.int .i64 1))) none, (some (33, true))⟩,
  ⟨(some 39), .rcall (.func 57) [(.tmp 38)], (some (33, true))⟩,
  ⟨(some 40), .bin .geq (.tmp 36) (.tmp 39), (some (33, true))⟩,
  ⟨(some 41), .pick (.tmp 33) (.tmp 40) (.const (.bool false)), none⟩,
  ⟨(some 6), .mv (.tmp 41), none⟩])
 (.ret)))
def r_spec_l7Parts : List ARes := [.tmp 6]
theorem ok_spec_l7Parts : FnOk Try.prog 66 42 c_spec_l7Parts r_spec_l7Parts := ⟨⟨Try.f66, _, Try.func66, by kernel_rfl, rfl, rfl, by kernel_rfl, by kernel_rfl⟩⟩
def c_spec_l2Bits : ACode := .seq (.reg [⟨(some 4), .mv (.const (.slice none 0 0)), none⟩])
 (.seq (.reg [⟨(some 7), .bsl 3 1 0 [] [], none⟩,
  ⟨(some 5), .mv (.tmp 7), none⟩])
 (.seq (.seq (.reg [⟨(some 6), .mv (.const (.int .i64 0)), none⟩])
 (.block 0 (.loop (.seq (.seq (.reg [⟨(some 8), .mv (.tmp 6), none⟩,
  ⟨(some 9), .mv (.tmp 0), none⟩,
  ⟨(some 10), .bin .lss (.tmp 8) (.tmp 9), none⟩])
 (.cond (.tmp 10) (.skip) (.exit 0)))
 (.seq (.block 1 (.seq (.reg [⟨(some 13), .mv (.tmp 1), none⟩,
  ⟨(some 14), .mv (.tmp 6), none⟩,
  ⟨(some 15), .bin .shr (.tmp 13) (.tmp 14), none⟩,
  ⟨(some 16), .bin .and (.tmp 15) (.const (.int .i64 1)), none⟩,
  ⟨(some 17), .bin .eql (.tmp 16) (.const (.int .i64 1)), none⟩])
 (.cond (.tmp 17) (.reg [⟨(some 18), .mv (.tmp 5), none⟩,
  ⟨(some 19), .mv (.tmp 6), none⟩,
  ⟨(some 20), .bsl 3 1 1 [(.int .i64 0)] [(0, 1, (.tmp 19))], none⟩,
  ⟨(some 21), .app 3 1 8 (.tmp 18) (.tmp 20), none⟩,
  ⟨(some 5), .mv (.tmp 21), none⟩]) (.skip))))
 (.reg [⟨(some 11), .mv (.tmp 6), none⟩,
  ⟨(some 12), .bin .add (.tmp 11) (.const (.int .i64 1)), none⟩,
  ⟨(some 6), .mv (.tmp 12), none⟩]))))))
 (.seq (.reg [⟨(some 22), .mv (.tmp 5), none⟩,
  ⟨(some 4), .mv (.tmp 22), none⟩])
 (.ret))))
def r_spec_l2Bits : List ARes := [.tmp 4]
theorem ok_spec_l2Bits : FnOk Try.prog 67 23 c_spec_l2Bits r_spec_l2Bits := ⟨⟨Try.f67, _, Try.func67, by kernel_rfl, rfl, rfl, by kernel_rfl, by kernel_rfl⟩⟩
def c_spec_l7Fed : ACode := .seq (.reg [⟨(some 4), .mv (.const (.bool false)), none⟩])
 (.seq (.seq (.reg [⟨(some 5), .mv (.const (.int .i64 0)), none⟩])
 (.block 0 (.loop (.seq (.seq (.reg [⟨(some 6), .mv (.tmp 5), none⟩,
  ⟨(some 7), .mv (.tmp 0), none⟩,
  ⟨(some 8), .len (.tmp 7), none⟩,
  ⟨(some 9), .bin .lss (.tmp 6) (.tmp 8), none⟩])
 (.cond (.tmp 9) (.skip) (.exit 0)))
 (.seq (.block 1 (.seq (.reg [⟨(some 12), .mv (.tmp 0), none⟩,
  ⟨(some 13), .mv (.tmp 5), none⟩,
  ⟨(some 14), .iad 1 (.tmp 12) (.tmp 13), none⟩,
  ⟨(some 15), .ld none (.tmp 14), none⟩,
  ⟨(some 16), .bin .gtr (.tmp 15) (.const (.int .i64 0)), none⟩])
 (.cond (.tmp 16) (.seq (.reg [⟨(some 17), .mv (.tmp 1), none⟩,
  ⟨(some 18), .len (.tmp 17), none⟩,
  ⟨(some 19), .bin .gtr (.tmp 18) (.const (.int .i64 0)), none⟩,
  ⟨(some 20), .mv (.tmp 19), none⟩,
  ⟨(some 21), .mv (.tmp 1), (some (20, true))⟩,
  ⟨(some 22), .iad 1 (.tmp 21) (.const (.int .i64 0)), (some (20, true))⟩,
  ⟨(some 23), .ld none (.tmp 22), (some (20, true))⟩,
  ⟨(some 24), .mv (.tmp 5), (some (20, true))⟩,
  ⟨(some 25), .bin .leq (.tmp 23) (.tmp 24), (some (20, true))⟩,
  ⟨(some 26), .pick (.tmp 20) (.tmp 25) (.const (.bool false)), none⟩,
  ⟨(some 4), .mv (.tmp 26), none⟩])
 (.ret)) (.skip))))
 (.reg [⟨(some 10), .mv (.tmp 5), none⟩,
  ⟨(some 11), .bin .add (.tmp 10) (.const (.int .i64 1)), none⟩,
  ⟨(some 5), .mv (.tmp 11), none⟩]))))))
 (.seq (.reg [⟨(some 4), .mv (.const (.bool true)), none⟩])
 (.ret)))
def r_spec_l7Fed : List ARes := [.tmp 4]
theorem ok_spec_l7Fed : FnOk Try.prog 68 27 c_spec_l7Fed r_spec_l7Fed := ⟨⟨Try.f68, _, Try.func68, by kernel_rfl, rfl, rfl, by kernel_rfl, by kernel_rfl⟩⟩
def c_spec_l7Single : ACode := .seq (.reg [⟨(some 8), .mv (.const (.int .i64 0)), none⟩])
 (.seq (.reg [⟨(some 9), .mv (.const (.int .i64 0)), none⟩,
  ⟨(some 10), .mv (.const (.int .i64 0)), none⟩])
 (.seq (.reg [⟨(some 13), .mv (.tmp 0), none⟩,
  ⟨(some 14), .mv (.tmp 3), none⟩,
  ⟨(some 15), .call (.func 71) [(.tmp 13), (.tmp 14)], none⟩,
  ⟨(some 11), .mv (.tmp 15), none⟩])
 (.seq (.seq (.reg [⟨(some 12), .mv (.const (.int .i64 0)), none⟩])
 (.block 0 (.loop (.seq (.seq (.reg [⟨(some 16), .mv (.tmp 12), none⟩,
  ⟨(some 17), .mv (.tmp 0), none⟩,
  ⟨(some 18), .len (.tmp 17), none⟩,
  ⟨(some 19), .bin .lss (.tmp 16) (.tmp 18), none⟩])
 (.cond (.tmp 19) (.skip) (.exit 0)))
 (.seq (.block 1 (.seq (.reg [⟨(some 22), .mv (.tmp 10), none⟩,
  ⟨(some 23), .mv (.tmp 11), none⟩,
  ⟨(some 24), .mv (.tmp 12), none⟩,
  ⟨(some 25), .iad 1 (.tmp 23) (.tmp 24), none⟩,
  ⟨(some 26), .ld none (.tmp 25), none⟩,
  ⟨(some 27), .bin .add (.tmp 22) (.tmp 26), none⟩,
  ⟨(some 28), .mv (.tmp 0), none⟩,
  ⟨(some 29), .mv (.tmp 12), none⟩,
  ⟨(some 30), .iad 1 (.tmp 28) (.tmp 29), none⟩,
  ⟨(some 31), .ld none (.tmp 30), none⟩,
  ⟨(some 32), .bin .sub (.tmp 27) (.tmp 31), none⟩,
  ⟨(some 10), .mv (.tmp 32), none⟩])
 (.seq (.reg [⟨(some 33), .mv (.tmp 9), none⟩,
  ⟨(some 34), .mv (.tmp 2), none⟩,
  ⟨(some 35), .mv (.tmp 10), none⟩,
  ⟨(some 36), .bin .mul (.tmp 34) (.tmp 35), none⟩,
  ⟨(some 37), .bin .add (.tmp 33) (.tmp 36), none⟩,
  ⟨(some 9), .mv (.tmp 37), none⟩])
 (.seq (.reg [⟨(some 38), .mv (.tmp 11), none⟩,
  ⟨(some 39), .mv (.tmp 12), none⟩,
  ⟨(some 40), .iad 1 (.tmp 38) (.tmp 39), none⟩,
  ⟨(some 41), .ld none (.tmp 40), none⟩,
  ⟨(some 42), .bin .gtr (.tmp 41) (.const (.int .i64 0)), none⟩])
 (.cond (.tmp 42) (.reg [⟨(some 43), .mv (.tmp 9), none⟩,
  ⟨(some 44), .mv (.tmp 1), none⟩,
  ⟨(some 45), .bin .add (.tmp 43) (.tmp 44), none⟩,
  ⟨(some 9), .mv (.tmp 45), none⟩]) (.skip))))))
 (.reg [⟨(some 20), .mv (.tmp 12), none⟩,
  ⟨(some 21), .bin .add (.tmp 20) (.const (.int .i64 1)), none⟩,
  ⟨(some 12), .mv (.tmp 21), none⟩]))))))
 (.seq (.reg [⟨(some 46), .mv (.tmp 9), none⟩,
  ⟨(some 8), .mv (.tmp 46), none⟩])
 (.ret)))))
def r_spec_l7Single : List ARes := [.tmp 8]
theorem ok_spec_l7Single : FnOk Try.prog 69 47 c_spec_l7Single r_spec_l7Single := ⟨⟨Try.f69, _, Try.func69, by kernel_rfl, rfl, rfl, by kernel_rfl, by kernel_rfl⟩⟩
def c_spec_l7Least : ACode := .seq (.reg [⟨(some 6), .mv (.const (.int .i64 0)), none⟩])
 (.seq (.reg [⟨(some 7), .mv (.const (.int .i64 (-1))), none⟩])
 (.seq (.seq (.reg [⟨(some 8), .mv (.const (.int .i64 0)), none⟩])
 (.block 0 (.loop (.seq (.seq (.reg [⟨(some 11), .mv (.tmp 8), none⟩,
  ⟨(some 12), .mv (.tmp 0), none⟩,
  ⟨(some 13), .len (.tmp 12), none⟩,
  ⟨(some 14), .bin .shl (.const (.int .i64 1)) (.tmp 13), none⟩,
  ⟨(some 15), .bin .lss (.tmp 11) (.tmp 14), none⟩])
 (.cond (.tmp 15) (.skip) (.exit 0)))
 (.seq (.block 1 (.seq (.reg [⟨(some 18), .mv (.tmp 0), none⟩,
  ⟨(some 19), .len (.tmp 18), none⟩,
  ⟨(some 20), .mv (.tmp 8), none⟩,
  ⟨(some 21), .call (.func 67) [(.tmp 19), (.tmp 20)], none⟩,
  ⟨(some 9), .mv (.tmp 21), none⟩])
 (.seq (.seq (.reg [⟨(some 22), .mv (.tmp 0), none⟩,
  ⟨(some 23), .mv (.tmp 9), none⟩,
  ⟨(some 24), .call (.func 68) [(.tmp 22), (.tmp 23)], none⟩,
  ⟨(some 25), .un .not (.tmp 24), none⟩])
 (.cond (.tmp 25) (.exit 1) (.skip)))
 (.seq (.reg [⟨(some 26), .mv (.tmp 0), none⟩,
  ⟨(some 27), .mv (.tmp 1), none⟩,
  ⟨(some 28), .mv (.tmp 2), none⟩,
  ⟨(some 29), .mv (.tmp 9), none⟩,
  ⟨(some 30), .call (.func 69) [(.tmp 26), (.tmp 27), (.tmp 28), (.tmp 29)], none⟩,
  ⟨(some 10), .mv (.tmp 30), none⟩])
 (.seq (.reg [⟨(some 31), .mv (.tmp 7), none⟩,
  ⟨(some 32), .bin .lss (.tmp 31) (.const (.int .i64 0)), none⟩,
  ⟨(some 33), .mv (.tmp 32), none⟩,
  ⟨(some 34), .mv (.tmp 10), (some (33, false))⟩,
  ⟨(some 35), .mv (.tmp 7), (some (33, false))⟩,
  ⟨(some 36), .bin .lss (.tmp 34) (.tmp 35), (some (33, false))⟩,
  ⟨(some 37), .pick (.tmp 33) (.const (.bool true)) (.tmp 36), none⟩])
 (.cond (.tmp 37) (.reg [⟨(some 38), .mv (.tmp 10), none⟩,
  ⟨(some 7), .mv (.tmp 38), none⟩]) (.skip)))))))
 (.reg [⟨(some 16), .mv (.tmp 8), none⟩,
  ⟨(some 17), .bin .add (.tmp 16) (.const (.int .i64 1)), none⟩,
  ⟨(some 8), .mv (.tmp 17), none⟩]))))))
 (.seq (.reg [⟨(some 39), .mv (.tmp 7), none⟩,
  ⟨(some 6), .mv (.tmp 39), none⟩])
 (.ret))))
def r_spec_l7Least : List ARes := [.tmp 6]
theorem ok_spec_l7Least : FnOk Try.prog 70 40 c_spec_l7Least r_spec_l7Least := ⟨⟨Try.f70, _, Try.func70, by kernel_rfl, rfl, rfl, by kernel_rfl, by kernel_rfl⟩⟩
def c_spec_l7Row : ACode := .seq (.reg [⟨(some 4), .mv (.const (.slice none 0 0)), none⟩])
 (.seq (.reg [⟨(some 8), .mv (.tmp 0), none⟩,
  ⟨(some 9), .len (.tmp 8), none⟩,
  ⟨(some 10), .mks 3 8 [(.int .i64 0)] (.tmp 9) (.tmp 9), none⟩,
  ⟨(some 5), .mv (.tmp 10), none⟩])
 (.seq (.seq (.reg [⟨(some 6), .mv (.const (.int .i64 0)), none⟩])
 (.block 0 (.loop (.seq (.seq (.reg [⟨(some 11), .mv (.tmp 6), none⟩,
  ⟨(some 12), .mv (.tmp 1), none⟩,
  ⟨(some 13), .len (.tmp 12), none⟩,
  ⟨(some 14), .bin .lss (.tmp 11) (.tmp 13), none⟩])
 (.cond (.tmp 14) (.skip) (.exit 0)))
 (.seq (.block 1 (.seq (.reg [⟨(some 17), .mv (.tmp 0), none⟩,
  ⟨(some 18), .len (.tmp 17), none⟩,
  ⟨(some 7), .mv (.tmp 18), none⟩])
 (.seq (.seq (.reg [⟨(some 19), .mv (.tmp 6), none⟩,
  ⟨(some 20), .bin .add (.tmp 19) (.const (.int .i64 1)), none⟩,
  ⟨(some 21), .mv (.tmp 1), none⟩,
  ⟨(some 22), .len (.tmp 21), none⟩,
  ⟨(some 23), .bin .lss (.tmp 20) (.tmp 22), none⟩])
 (.cond (.tmp 23) (.reg [⟨(some 24), .mv (.tmp 1), none⟩,
  ⟨(some 25), .mv (.tmp 6), none⟩,
  ⟨(some 26), .bin .add (.tmp 25) (.const (.int .i64 1)), none⟩,
  ⟨(some 27), .iad 1 (.tmp 24) (.tmp 26), none⟩,
  ⟨(some 28), .ld none (.tmp 27), none⟩,
  ⟨(some 7), .mv (.tmp 28), none⟩]) (.skip)))
 (.reg [⟨(some 29), .mv (.tmp 5), none⟩,
  ⟨(some 30), .mv (.tmp 1), none⟩,
  ⟨(some 31), .mv (.tmp 6), none⟩,
  ⟨(some 32), .iad 1 (.tmp 30) (.tmp 31), none⟩,
  ⟨(some 33), .ld none (.tmp 32), none⟩,
  ⟨(some 34), .mv (.tmp 0), none⟩,
  ⟨(some 35), .mv (.tmp 1), none⟩,
  ⟨(some 36), .mv (.tmp 6), none⟩,
  ⟨(some 37), .iad 1 (.tmp 35) (.tmp 36), none⟩,
  ⟨(some 38), .ld none (.tmp 37), none⟩,
  ⟨(some 39), .mv (.tmp 7), none⟩,
  ⟨(some 40), .slc 1 (.tmp 34) (some (.tmp 38)) (some (.tmp 39)), none⟩,
  ⟨(some 41), .rcall (.func 57) [(.tmp 40)], none⟩,
  ⟨(some 42), .iad 1 (.tmp 29) (.tmp 33), none⟩,
  ⟨none, .st 1 (.tmp 42) (.tmp 41), none⟩]))))
 (.reg [⟨(some 15), .mv (.tmp 6), none⟩,
  ⟨(some 16), .bin .add (.tmp 15) (.const (.int .i64 1)), none⟩,
  ⟨(some 6), .mv (.tmp 16), none⟩]))))))
 (.seq (.reg [⟨(some 43), .mv (.tmp 5), none⟩,
  ⟨(some 4), .mv (.tmp 43), none⟩])
 (.ret))))
def r_spec_l7Row : List ARes := [.tmp 4]
theorem ok_spec_l7Row : FnOk Try.prog 71 44 c_spec_l7Row r_spec_l7Row := ⟨⟨Try.f71, _, Try.func71, by kernel_rfl, rfl, rfl, by kernel_rfl, by kernel_rfl⟩⟩
def c_slices_Grow : ACode := .seq (.reg [⟨(some 4), .mv (.const (.slice none 0 0)), none⟩])
 (.seq (.seq (.reg [⟨(some 5), .mv (.tmp 1), none⟩,
  ⟨(some 6), .bin .lss (.tmp 5) (.const (.int .i64 0)), none⟩])
 (.cond (.tmp 6) (.reg [⟨(some 7), .mif 9 (.const (.string ⟨#[99, 97, 110, 110, 111, 116, 32, 98, 101, 32, 110, 101, 103, 97, 116, 105, 118, 101]⟩)), none⟩,
  ⟨none, .never, none⟩]) (.skip)))
 (.seq (.seq (.reg [⟨(some 8), .mv (.tmp 1), none⟩,
  ⟨(some 9), .mv (.tmp 0), none⟩,
  ⟨(some 10), .never, none⟩,
  ⟨(some 11), .mv (.tmp 0), none⟩,
  ⟨(some 12), .len (.tmp 11), none⟩,
  ⟨(some 13), .bin .sub (.tmp 10) (.tmp 12), none⟩,
  ⟨(some 14), .bin .sub (.tmp 8) (.tmp 13), none⟩,
  ⟨(some 1), .mv (.tmp 14), none⟩])
 (.seq (.reg [⟨(some 15), .mv (.tmp 1), none⟩,
  ⟨(some 16), .bin .gtr (.tmp 15) (.const (.int .i64 0)), none⟩])
 (.cond (.tmp 16) (.reg [⟨(some 17), .mv (.tmp 0), none⟩,
  ⟨(some 18), .mv (.tmp 0), none⟩,
  ⟨(some 19), .never, none⟩,
  ⟨(some 20), .slc 1 (.tmp 17) none (some (.tmp 19)), none⟩,
  ⟨(some 21), .mv (.tmp 1), none⟩,
  ⟨(some 22), .never, none⟩,
  ⟨(some 23), .mv (.tmp 0), none⟩,
  ⟨(some 24), .len (.tmp 23), none⟩,
  ⟨(some 25), .slc 1 (.tmp 22) none (some (.tmp 24)), none⟩,
  ⟨(some 0), .mv (.tmp 25), none⟩]) (.skip))))
 (.seq (.reg [⟨(some 26), .mv (.tmp 0), none⟩,
  ⟨(some 4), .mv (.tmp 26), none⟩])
 (.ret))))
def r_slices_Grow : List ARes := [.tmp 4]
theorem ok_slices_Grow : FnOk Try.prog 78 27 c_slices_Grow r_slices_Grow := ⟨⟨Try.f78, _, Try.func78, by kernel_rfl, rfl, rfl, by kernel_rfl, by kernel_rfl⟩⟩
def c_spec_l5Good : ACode := .seq (.reg [⟨(some 2), .mv (.const (.bool false)), none⟩])
 (.seq (.reg [⟨(some 3), .mv (.tmp 0), none⟩,
  ⟨(some 4), .len (.tmp 3), none⟩,
  ⟨(some 5), .call (.func 47) [(.tmp 4), (.const (.int .i64 1)), (.const (.int .i64 16))], none⟩,
  ⟨(some 6), .mv (.tmp 5), none⟩,
  ⟨(some 7), .mv (.tmp 0), (some (6, true))⟩,
  ⟨(some 8), .mv (.tmp 0), (some (6, true))⟩,
  ⟨(some 9), .len (.tmp 8), (some (6, true))⟩,
  ⟨(some 10), .call (.func 46) [(.tmp 7), (.tmp 9), (.const (.int .i64 1000))], (some (6, true))⟩,
  ⟨(some 11), .pick (.tmp 6) (.tmp 10) (.const (.bool false)), none⟩,
  ⟨(some 12), .mv (.tmp 11), none⟩,
  ⟨(some 13), .mv (.tmp 0), (some (12, true))⟩,
  ⟨(some 14), .call (.func 80) [(.tmp 13)], (some (12, true))⟩,
  ⟨(some 15), .bin .gtr (.tmp 14) (.const (.int .i64 0)), (some (12, true))⟩,
  ⟨(some 16), .pick (.tmp 12) (.tmp 15) (.const (.bool false)), none⟩,
  ⟨(some 2), .mv (.tmp 16), none⟩])
 (.ret))
def r_spec_l5Good : List ARes := [.tmp 2]
theorem ok_spec_l5Good : FnOk Try.prog 79 17 c_spec_l5Good r_spec_l5Good := ⟨⟨Try.f79, _, Try.func79, by kernel_rfl, rfl, rfl, by kernel_rfl, by kernel_rfl⟩⟩
def c_spec_l5Total : ACode := .seq (.reg [⟨(some 2), .mv (.const (.int .i64 0)), none⟩])
 (.seq (.reg [⟨(some 3), .mv (.tmp 0), none⟩,
  ⟨(some 4), .call (.func 57) [(.tmp 3)], none⟩,
  ⟨(some 2), .mv (.tmp 4), none⟩])
 (.ret))
def r_spec_l5Total : List ARes := [.tmp 2]
theorem ok_spec_l5Total : FnOk Try.prog 80 5 c_spec_l5Total r_spec_l5Total := ⟨⟨Try.f80, _, Try.func80, by kernel_rfl, rfl, rfl, by kernel_rfl, by kernel_rfl⟩⟩
def c_slices_ContainsFunc : ACode := .seq (.reg [⟨(some 4), .mv (.const (.bool false)), none⟩])
 (.seq (.reg [⟨(some 5), .mv (.tmp 0), none⟩,
  ⟨(some 6), .mv (.tmp 1), none⟩,
  ⟨(some 7), .call (.func 106) [(.tmp 5), (.tmp 6)], none⟩,
  ⟨(some 8), .bin .geq (.tmp 7) (.const (.int .i64 0)), none⟩,
  ⟨(some 4), .mv (.tmp 8), none⟩])
 (.ret))
def r_slices_ContainsFunc : List ARes := [.tmp 4]
theorem ok_slices_ContainsFunc : FnOk Try.prog 83 9 c_slices_ContainsFunc r_slices_ContainsFunc := ⟨⟨Try.f83, _, Try.func83, by kernel_rfl, rfl, rfl, by kernel_rfl, by kernel_rfl⟩⟩
def c_spec_l5Over : ACode := .seq (.reg [⟨(some 4), .mv (.const (.int .i64 0)), none⟩])
 (.seq (.reg [⟨(some 5), .mv (.const (.int .i64 0)), none⟩])
 (.seq (.seq (.reg [⟨(some 6), .mv (.const (.int .i64 0)), none⟩])
 (.block 0 (.loop (.seq (.seq (.reg [⟨(some 7), .mv (.tmp 6), none⟩,
  ⟨(some 8), .mv (.tmp 0), none⟩,
  ⟨(some 9), .len (.tmp 8), none⟩,
  ⟨(some 10), .bin .lss (.tmp 7) (.tmp 9), none⟩])
 (.cond (.tmp 10) (.skip) (.exit 0)))
 (.seq (.block 1 (.reg [⟨(some 13), .mv (.tmp 5), none⟩,
  ⟨(some 14), .mv (.tmp 0), none⟩,
  ⟨(some 15), .mv (.tmp 6), none⟩,
  ⟨(some 16), .iad 1 (.tmp 14) (.tmp 15), none⟩,
  ⟨(some 17), .ld none (.tmp 16), none⟩,
  ⟨(some 18), .mv (.tmp 1), none⟩,
  ⟨(some 19), .mv (.tmp 6), none⟩,
  ⟨(some 20), .bin .sub (.tmp 18) (.tmp 19), none⟩,
  ⟨(some 21), .rcall (.func 109) [(.const (.int .i64 0)), (.tmp 20)], none⟩,
  ⟨(some 22), .bin .mul (.tmp 17) (.tmp 21), none⟩,
  ⟨(some 23), .bin .add (.tmp 13) (.tmp 22), none⟩,
  ⟨(some 5), .mv (.tmp 23), none⟩]))
 (.reg [⟨(some 11), .mv (.tmp 6), none⟩,
  ⟨(some 12), .bin .add (.tmp 11) (.const (.int .i64 1)), none⟩,
  ⟨(some 6), .mv (.tmp 12), none⟩]))))))
 (.seq (.reg [⟨(some 24), .mv (.tmp 5), none⟩,
  ⟨(some 4), .mv (.tmp 24), none⟩])
 (.ret))))
def r_spec_l5Over : List ARes := [.tmp 4]
theorem ok_spec_l5Over : FnOk Try.prog 87 25 c_spec_l5Over r_spec_l5Over := ⟨⟨Try.f87, _, Try.func87, by kernel_rfl, rfl, rfl, by kernel_rfl, by kernel_rfl⟩⟩
def c_spec_l5Short : ACode := .seq (.reg [⟨(some 4), .mv (.const (.int .i64 0)), none⟩])
 (.seq (.reg [⟨(some 5), .mv (.const (.int .i64 0)), none⟩])
 (.seq (.seq (.reg [⟨(some 6), .mv (.const (.int .i64 0)), none⟩])
 (.block 0 (.loop (.seq (.seq (.reg [⟨(some 7), .mv (.tmp 6), none⟩,
  ⟨(some 8), .mv (.tmp 0), none⟩,
  ⟨(some 9), .len (.tmp 8), none⟩,
  ⟨(some 10), .bin .lss (.tmp 7) (.tmp 9), none⟩])
 (.cond (.tmp 10) (.skip) (.exit 0)))
 (.seq (.block 1 (.reg [⟨(some 13), .mv (.tmp 5), none⟩,
  ⟨(some 14), .mv (.tmp 0), none⟩,
  ⟨(some 15), .mv (.tmp 6), none⟩,
  ⟨(some 16), .iad 1 (.tmp 14) (.tmp 15), none⟩,
  ⟨(some 17), .ld none (.tmp 16), none⟩,
  ⟨(some 18), .mv (.tmp 6), none⟩,
  ⟨(some 19), .mv (.tmp 1), none⟩,
  ⟨(some 20), .bin .sub (.tmp 18) (.tmp 19), none⟩,
  ⟨(some 21), .rcall (.func 109) [(.const (.int .i64 0)), (.tmp 20)], none⟩,
  ⟨(some 22), .bin .mul (.tmp 17) (.tmp 21), none⟩,
  ⟨(some 23), .bin .add (.tmp 13) (.tmp 22), none⟩,
  ⟨(some 5), .mv (.tmp 23), none⟩]))
 (.reg [⟨(some 11), .mv (.tmp 6), none⟩,
  ⟨(some 12), .bin .add (.tmp 11) (.const (.int .i64 1)), none⟩,
  ⟨(some 6), .mv (.tmp 12), none⟩]))))))
 (.seq (.reg [⟨(some 24), .mv (.tmp 5), none⟩,
  ⟨(some 4), .mv (.tmp 24), none⟩])
 (.ret))))
def r_spec_l5Short : List ARes := [.tmp 4]
theorem ok_spec_l5Short : FnOk Try.prog 88 25 c_spec_l5Short r_spec_l5Short := ⟨⟨Try.f88, _, Try.func88, by kernel_rfl, rfl, rfl, by kernel_rfl, by kernel_rfl⟩⟩
def c_spec_NestedPlan : ACode := .seq (.reg [⟨(some 2), .box 50 (.tmp 0), none⟩,
  ⟨(some 4), .mv (.const (.slice none 0 0)), none⟩,
  ⟨(some 5), .mv (.const (.bool false)), none⟩])
 (.seq (.reg [⟨(some 8), .bsl 22 1 0 [] [], none⟩,
  ⟨(some 6), .mv (.tmp 8), none⟩])
 (.seq (.seq (.reg [⟨(some 9), .ld (some 3) (.tmp 2), none⟩,
  ⟨(some 10), .call (.func 60) [(.tmp 9)], none⟩,
  ⟨(some 11), .un .not (.tmp 10), none⟩,
  ⟨(some 12), .mv (.tmp 11), none⟩,
  ⟨(some 13), .ld (some 3) (.tmp 2), (some (12, false))⟩,
  ⟨(some 14), .mv (.tmp 1), (some (12, false))⟩,
  ⟨(some 15), .call (.func 110) [(.tmp 13), (.tmp 14)], (some (12, false))⟩,
  ⟨(some 16), .un .not (.tmp 15), (some (12, false))⟩,
  ⟨(some 17), .pick (.tmp 12) (.const (.bool true)) (.tmp 16), none⟩])
 (.cond (.tmp 17) (.seq (.reg [⟨(some 18), .mv (.tmp 6), none⟩,
  ⟨(some 4), .mv (.tmp 18), none⟩,
  ⟨(some 5), .mv (.const (.bool false)), none⟩])
 (.ret)) (.skip)))
 (.seq (.seq (.reg [⟨(some 7), .mv (.const (.int .i64 0)), none⟩])
 (.block 0 (.loop (.seq (.seq (.reg [⟨(some 19), .mv (.tmp 7), none⟩,
  ⟨(some 20), .mv (.tmp 1), none⟩,
  ⟨(some 21), .len (.tmp 20), none⟩,
  ⟨(some 22), .bin .lss (.tmp 19) (.tmp 21), none⟩])
 (.cond (.tmp 22) (.skip) (.exit 0)))
 (.seq (.block 1 (.seq (.seq (.reg [⟨(some 25), .fad 0 (.tmp 2), none⟩,
  ⟨(some 26), .ld none (.tmp 25), none⟩,
  ⟨(some 27), .mv (.tmp 1), none⟩,
  ⟨(some 28), .mv (.tmp 7), none⟩,
  ⟨(some 29), .iad 1 (.tmp 27) (.tmp 28), none⟩,
  ⟨(some 30), .ld none (.tmp 29), none⟩,
  ⟨(some 31), .rcall (.func 68) [(.tmp 26), (.tmp 30)], none⟩,
  ⟨(some 32), .un .not (.tmp 31), none⟩])
 (.cond (.tmp 32) (.seq (.reg [⟨(some 33), .bsl 22 1 0 [] [], none⟩,
  ⟨(some 4), .mv (.tmp 33), none⟩,
  ⟨(some 5), .mv (.const (.bool false)), none⟩])
 (.ret)) (.skip)))
 (.reg [⟨(some 34), .mv (.tmp 6), none⟩,
  ⟨(some 35), .fad 0 (.tmp 2), none⟩,
  ⟨(some 36), .ld none (.tmp 35), none⟩,
  ⟨(some 37), .mv (.tmp 1), none⟩,
  ⟨(some 38), .mv (.tmp 7), none⟩,
  ⟨(some 39), .iad 1 (.tmp 37) (.tmp 38), none⟩,
  ⟨(some 40), .ld none (.tmp 39), none⟩,
  ⟨(some 41), .rcall (.func 71) [(.tmp 36), (.tmp 40)], none⟩,
  ⟨(some 42), .bsl 22 1 1 [(.slice none 0 0)] [(0, 1, (.tmp 41))], none⟩,
  ⟨(some 43), .app 22 1 24 (.tmp 34) (.tmp 42), none⟩,
  ⟨(some 6), .mv (.tmp 43), none⟩])))
 (.reg [⟨(some 23), .mv (.tmp 7), none⟩,
  ⟨(some 24), .bin .add (.tmp 23) (.const (.int .i64 1)), none⟩,
  ⟨(some 7), .mv (.tmp 24), none⟩]))))))
 (.seq (.reg [⟨(some 44), .mv (.tmp 6), none⟩,
  ⟨(some 4), .mv (.tmp 44), none⟩,
  ⟨(some 5), .mv (.const (.bool true)), none⟩])
 (.ret)))))
def r_spec_NestedPlan : List ARes := [.tmp 4, .tmp 5]
theorem ok_spec_NestedPlan : FnOk Try.prog 89 45 c_spec_NestedPlan r_spec_NestedPlan := ⟨⟨Try.f89, _, Try.func89, by kernel_rfl, rfl, rfl, by kernel_rfl, by kernel_rfl⟩⟩
def c_spec_l7Cost : ACode := .seq (.reg [⟨(some 2), .box 50 (.tmp 0), none⟩,
  ⟨(some 4), .mv (.const (.int .i64 0)), none⟩])
 (.seq (.reg [⟨(some 5), .mv (.const (.int .i64 0)), none⟩])
 (.seq (.reg [⟨(some 9), .ld (some 3) (.tmp 2), none⟩,
  ⟨(some 10), .mv (.tmp 1), none⟩,
  ⟨(some 11), .call (.func 111) [(.tmp 9), (.tmp 10)], none⟩,
  ⟨(some 6), .mv (.tmp 11), none⟩])
 (.seq (.seq (.reg [⟨(some 7), .mv (.const (.int .i64 0)), none⟩])
 (.block 0 (.loop (.seq (.seq (.reg [⟨(some 12), .mv (.tmp 7), none⟩,
  ⟨(some 13), .mv (.tmp 1), none⟩,
  ⟨(some 14), .len (.tmp 13), none⟩,
  ⟨(some 15), .bin .lss (.tmp 12) (.tmp 14), none⟩])
 (.cond (.tmp 15) (.skip) (.exit 0)))
 (.seq (.block 1 (.seq (.reg [⟨(some 8), .mv (.const (.int .i64 0)), none⟩])
 (.block 2 (.loop (.seq (.seq (.reg [⟨(some 18), .mv (.tmp 8), none⟩,
  ⟨(some 19), .fad 0 (.tmp 2), none⟩,
  ⟨(some 20), .ld none (.tmp 19), none⟩,
  ⟨(some 21), .len (.tmp 20), none⟩,
  ⟨(some 22), .bin .lss (.tmp 18) (.tmp 21), none⟩])
 (.cond (.tmp 22) (.skip) (.exit 2)))
 (.seq (.block 3 (.seq (.reg [⟨(some 25), .mv (.tmp 5), none⟩,
  ⟨(some 26), .fad 2 (.tmp 2), none⟩,
  ⟨(some 27), .ld none (.tmp 26), none⟩,
  ⟨(some 28), .mv (.tmp 7), none⟩,
  ⟨(some 29), .iad 1 (.tmp 27) (.tmp 28), none⟩,
  ⟨(some 30), .ld none (.tmp 29), none⟩,
  ⟨(some 31), .mv (.tmp 6), none⟩,
  ⟨(some 32), .mv (.tmp 7), none⟩,
  ⟨(some 33), .iad 1 (.tmp 31) (.tmp 32), none⟩,
  ⟨(some 34), .ld none (.tmp 33), none⟩,
  ⟨(some 35), .mv (.tmp 8), none⟩,
  ⟨(some 36), .iad 1 (.tmp 34) (.tmp 35), none⟩,
  ⟨(some 37), .ld none (.tmp 36), none⟩,
  ⟨(some 38), .bin .mul (.tmp 30) (.tmp 37), none⟩,
  ⟨(some 39), .bin .add (.tmp 25) (.tmp 38), none⟩,
  ⟨(some 5), .mv (.tmp 39), none⟩])
 (.seq (.reg [⟨(some 40), .mv (.tmp 1), none⟩,
  ⟨(some 41), .mv (.tmp 7), none⟩,
  ⟨(some 42), .iad 1 (.tmp 40) (.tmp 41), none⟩,
  ⟨(some 43), .ld none (.tmp 42), none⟩,
  ⟨(some 44), .mv (.tmp 8), none⟩,
  ⟨(some 45), .iad 1 (.tmp 43) (.tmp 44), none⟩,
  ⟨(some 46), .ld none (.tmp 45), none⟩,
  ⟨(some 47), .bin .gtr (.tmp 46) (.const (.int .i64 0)), none⟩])
 (.cond (.tmp 47) (.reg [⟨(some 48), .mv (.tmp 5), none⟩,
  ⟨(some 49), .fad 1 (.tmp 2), none⟩,
  ⟨(some 50), .ld none (.tmp 49), none⟩,
  ⟨(some 51), .mv (.tmp 7), none⟩,
  ⟨(some 52), .iad 1 (.tmp 50) (.tmp 51), none⟩,
  ⟨(some 53), .ld none (.tmp 52), none⟩,
  ⟨(some 54), .bin .add (.tmp 48) (.tmp 53), none⟩,
  ⟨(some 5), .mv (.tmp 54), none⟩]) (.skip)))))
 (.reg [⟨(some 23), .mv (.tmp 8), none⟩,
  ⟨(some 24), .bin .add (.tmp 23) (.const (.int .i64 1)), none⟩,
  ⟨(some 8), .mv (.tmp 24), none⟩])))))))
 (.reg [⟨(some 16), .mv (.tmp 7), none⟩,
  ⟨(some 17), .bin .add (.tmp 16) (.const (.int .i64 1)), none⟩,
  ⟨(some 7), .mv (.tmp 17), none⟩]))))))
 (.seq (.reg [⟨(some 55), .mv (.tmp 5), none⟩,
  ⟨(some 4), .mv (.tmp 55), none⟩])
 (.ret)))))
def r_spec_l7Cost : List ARes := [.tmp 4]
theorem ok_spec_l7Cost : FnOk Try.prog 90 56 c_spec_l7Cost r_spec_l7Cost := ⟨⟨Try.f90, _, Try.func90, by kernel_rfl, rfl, rfl, by kernel_rfl, by kernel_rfl⟩⟩
def c_spec_l7Many : ACode := .seq (.reg [⟨(some 2), .mv (.const (.int .i64 0)), none⟩])
 (.seq (.reg [⟨(some 3), .mv (.const (.int .i64 0)), none⟩])
 (.seq (.seq (.reg [⟨(some 4), .mv (.const (.int .i64 0)), none⟩])
 (.block 0 (.loop (.seq (.seq (.reg [⟨(some 5), .mv (.tmp 4), none⟩,
  ⟨(some 6), .mv (.tmp 0), none⟩,
  ⟨(some 7), .len (.tmp 6), none⟩,
  ⟨(some 8), .bin .lss (.tmp 5) (.tmp 7), none⟩])
 (.cond (.tmp 8) (.skip) (.exit 0)))
 (.seq (.block 1 (.reg [⟨(some 11), .mv (.tmp 3), none⟩,
  ⟨(some 12), .mv (.tmp 0), none⟩,
  ⟨(some 13), .mv (.tmp 4), none⟩,
  ⟨(some 14), .iad 1 (.tmp 12) (.tmp 13), none⟩,
  ⟨(some 15), .ld none (.tmp 14), none⟩,
  ⟨(some 16), .len (.tmp 15), none⟩,
  ⟨(some 17), .bin .add (.tmp 11) (.tmp 16), none⟩,
  ⟨(some 3), .mv (.tmp 17), none⟩]))
 (.reg [⟨(some 9), .mv (.tmp 4), none⟩,
  ⟨(some 10), .bin .add (.tmp 9) (.const (.int .i64 1)), none⟩,
  ⟨(some 4), .mv (.tmp 10), none⟩]))))))
 (.seq (.reg [⟨(some 18), .mv (.tmp 3), none⟩,
  ⟨(some 2), .mv (.tmp 18), none⟩])
 (.ret))))
def r_spec_l7Many : List ARes := [.tmp 2]
theorem ok_spec_l7Many : FnOk Try.prog 91 19 c_spec_l7Many r_spec_l7Many := ⟨⟨Try.f91, _, Try.func91, by kernel_rfl, rfl, rfl, by kernel_rfl, by kernel_rfl⟩⟩
def c_spec_l7Less : ACode := .seq (.reg [⟨(some 4), .mv (.const (.bool false)), none⟩])
 (.seq (.seq (.reg [⟨(some 5), .mv (.const (.int .i64 0)), none⟩])
 (.block 0 (.loop (.seq (.seq (.reg [⟨(some 7), .mv (.tmp 5), none⟩,
  ⟨(some 8), .mv (.tmp 0), none⟩,
  ⟨(some 9), .len (.tmp 8), none⟩,
  ⟨(some 10), .bin .lss (.tmp 7) (.tmp 9), none⟩])
 (.cond (.tmp 10) (.skip) (.exit 0)))
 (.seq (.block 1 (.seq (.seq (.reg [⟨(some 6), .mv (.const (.int .i64 0)), none⟩])
 (.block 2 (.loop (.seq (.seq (.reg [⟨(some 13), .mv (.tmp 6), none⟩,
  ⟨(some 14), .mv (.tmp 0), none⟩,
  ⟨(some 15), .mv (.tmp 5), none⟩,
  ⟨(some 16), .iad 1 (.tmp 14) (.tmp 15), none⟩,
  ⟨(some 17), .ld none (.tmp 16), none⟩,
  ⟨(some 18), .len (.tmp 17), none⟩,
  ⟨(some 19), .bin .lss (.tmp 13) (.tmp 18), none⟩,
  ⟨(some 20), .mv (.tmp 19), none⟩,
  ⟨(some 21), .mv (.tmp 6), (some (20, true))⟩,
  ⟨(some 22), .mv (.tmp 1), (some (20, true))⟩,
  ⟨(some 23), .mv (.tmp 5), (some (20, true))⟩,
  ⟨(some 24), .iad 1 (.tmp 22) (.tmp 23), (some (20, true))⟩,
  ⟨(some 25), .ld none (.tmp 24), (some (20, true))⟩,
  ⟨(some 26), .len (.tmp 25), (some (20, true))⟩,
  ⟨(some 27), .bin .lss (.tmp 21) (.tmp 26), (some (20, true))⟩,
  ⟨(some 28), .pick (.tmp 20) (.tmp 27) (.const (.bool false)), none⟩])
 (.cond (.tmp 28) (.skip) (.exit 2)))
 (.seq (.block 3 (.seq (.reg [⟨(some 31), .mv (.tmp 0), none⟩,
  ⟨(some 32), .mv (.tmp 5), none⟩,
  ⟨(some 33), .iad 1 (.tmp 31) (.tmp 32), none⟩,
  ⟨(some 34), .ld none (.tmp 33), none⟩,
  ⟨(some 35), .mv (.tmp 6), none⟩,
  ⟨(some 36), .iad 1 (.tmp 34) (.tmp 35), none⟩,
  ⟨(some 37), .ld none (.tmp 36), none⟩,
  ⟨(some 38), .mv (.tmp 1), none⟩,
  ⟨(some 39), .mv (.tmp 5), none⟩,
  ⟨(some 40), .iad 1 (.tmp 38) (.tmp 39), none⟩,
  ⟨(some 41), .ld none (.tmp 40), none⟩,
  ⟨(some 42), .mv (.tmp 6), none⟩,
  ⟨(some 43), .iad 1 (.tmp 41) (.tmp 42), none⟩,
  ⟨(some 44), .ld none (.tmp 43), none⟩,
  ⟨(some 45), .bin .neq (.tmp 37) (.tmp 44), none⟩])
 (.cond (.tmp 45) (.seq (.reg [⟨(some 46), .mv (.tmp 0), none⟩,
  ⟨(some 47), .mv (.tmp 5), none⟩,
  ⟨(some 48), .iad 1 (.tmp 46) (.tmp 47), none⟩,
  ⟨(some 49), .ld none (.tmp 48), none⟩,
  ⟨(some 50), .mv (.tmp 6), none⟩,
  ⟨(some 51), .iad 1 (.tmp 49) (.tmp 50), none⟩,
  ⟨(some 52), .ld none (.tmp 51), none⟩,
  ⟨(some 53), .mv (.tmp 1), none⟩,
  ⟨(some 54), .mv (.tmp 5), none⟩,
  ⟨(some 55), .iad 1 (.tmp 53) (.tmp 54), none⟩,
  ⟨(some 56), .ld none (.tmp 55), none⟩,
  ⟨(some 57), .mv (.tmp 6), none⟩,
  ⟨(some 58), .iad 1 (.tmp 56) (.tmp 57), none⟩,
  ⟨(some 59), .ld none (.tmp 58), none⟩,
  ⟨(some 60), .bin .lss (.tmp 52) (.tmp 59), none⟩,
  ⟨(some 4), .mv (.tmp 60), none⟩])
 (.ret)) (.skip))))
 (.reg [⟨(some 29), .mv (.tmp 6), none⟩,
  ⟨(some 30), .bin .add (.tmp 29) (.const (.int .i64 1)), none⟩,
  ⟨(some 6), .mv (.tmp 30), none⟩]))))))
 (.seq (.reg [⟨(some 61), .mv (.tmp 0), none⟩,
  ⟨(some 62), .mv (.tmp 5), none⟩,
  ⟨(some 63), .iad 1 (.tmp 61) (.tmp 62), none⟩,
  ⟨(some 64), .ld none (.tmp 63), none⟩,
  ⟨(some 65), .len (.tmp 64), none⟩,
  ⟨(some 66), .mv (.tmp 1), none⟩,
  ⟨(some 67), .mv (.tmp 5), none⟩,
  ⟨(some 68), .iad 1 (.tmp 66) (.tmp 67), none⟩,
  ⟨(some 69), .ld none (.tmp 68), none⟩,
  ⟨(some 70), .len (.tmp 69), none⟩,
  ⟨(some 71), .bin .neq (.tmp 65) (.tmp 70), none⟩])
 (.cond (.tmp 71) (.seq (.reg [⟨(some 72), .mv (.tmp 0), none⟩,
  ⟨(some 73), .mv (.tmp 5), none⟩,
  ⟨(some 74), .iad 1 (.tmp 72) (.tmp 73), none⟩,
  ⟨(some 75), .ld none (.tmp 74), none⟩,
  ⟨(some 76), .len (.tmp 75), none⟩,
  ⟨(some 77), .mv (.tmp 1), none⟩,
  ⟨(some 78), .mv (.tmp 5), none⟩,
  ⟨(some 79), .iad 1 (.tmp 77) (.tmp 78), none⟩,
  ⟨(some 80), .ld none (.tmp 79), none⟩,
  ⟨(some 81), .len (.tmp 80), none⟩,
  ⟨(some 82), .bin .lss (.tmp 76) (.tmp 81), none⟩,
  ⟨(some 4), .mv (.tmp 82), none⟩])
 (.ret)) (.skip)))))
 (.reg [⟨(some 11), .mv (.tmp 5), none⟩,
  ⟨(some 12), .bin .add (.tmp 11) (.const (.int .i64 1)), none⟩,
  ⟨(some 5), .mv (.tmp 12), none⟩]))))))
 (.seq (.reg [⟨(some 4), .mv (.const (.bool false)), none⟩])
 (.ret)))
def r_spec_l7Less : List ARes := [.tmp 4]
theorem ok_spec_l7Less : FnOk Try.prog 92 83 c_spec_l7Less r_spec_l7Less := ⟨⟨Try.f92, _, Try.func92, by kernel_rfl, rfl, rfl, by kernel_rfl, by kernel_rfl⟩⟩
def c_spec_l7Within : ACode := .seq (.reg [⟨(some 4), .mv (.const (.bool false)), none⟩])
 (.seq (.seq (.reg [⟨(some 5), .mv (.const (.int .i64 0)), none⟩])
 (.block 0 (.loop (.seq (.seq (.reg [⟨(some 6), .mv (.tmp 5), none⟩,
  ⟨(some 7), .mv (.tmp 0), none⟩,
  ⟨(some 8), .len (.tmp 7), none⟩,
  ⟨(some 9), .bin .lss (.tmp 6) (.tmp 8), none⟩])
 (.cond (.tmp 9) (.skip) (.exit 0)))
 (.seq (.block 1 (.seq (.reg [⟨(some 12), .mv (.tmp 1), none⟩,
  ⟨(some 13), .mv (.tmp 0), none⟩,
  ⟨(some 14), .mv (.tmp 5), none⟩,
  ⟨(some 15), .iad 1 (.tmp 13) (.tmp 14), none⟩,
  ⟨(some 16), .ld none (.tmp 15), none⟩,
  ⟨(some 17), .call (.func 112) [(.tmp 12), (.tmp 16)], none⟩,
  ⟨(some 18), .un .not (.tmp 17), none⟩])
 (.cond (.tmp 18) (.seq (.reg [⟨(some 4), .mv (.const (.bool false)), none⟩])
 (.ret)) (.skip))))
 (.reg [⟨(some 10), .mv (.tmp 5), none⟩,
  ⟨(some 11), .bin .add (.tmp 10) (.const (.int .i64 1)), none⟩,
  ⟨(some 5), .mv (.tmp 11), none⟩]))))))
 (.seq (.reg [⟨(some 4), .mv (.const (.bool true)), none⟩])
 (.ret)))
def r_spec_l7Within : List ARes := [.tmp 4]
theorem ok_spec_l7Within : FnOk Try.prog 93 19 c_spec_l7Within r_spec_l7Within := ⟨⟨Try.f93, _, Try.func93, by kernel_rfl, rfl, rfl, by kernel_rfl, by kernel_rfl⟩⟩
def c_slices_IsSorted : ACode := .seq (.reg [⟨(some 2), .mv (.const (.bool false)), none⟩])
 (.seq (.seq (.reg [⟨(some 4), .mv (.tmp 0), none⟩,
  ⟨(some 5), .len (.tmp 4), none⟩,
  ⟨(some 6), .bin .sub (.tmp 5) (.const (.int .i64 1)), none⟩,
  ⟨(some 3), .mv (.tmp 6), none⟩])
 (.block 0 (.loop (.seq (.seq (.reg [⟨(some 7), .mv (.tmp 3), none⟩,
  ⟨(some 8), .bin .gtr (.tmp 7) (.const (.int .i64 0)), none⟩])
 (.cond (.tmp 8) (.skip) (.exit 0)))
 (.seq (.block 1 (.seq (.reg [⟨(some 11), .mv (.tmp 0), none⟩,
  ⟨(some 12), .mv (.tmp 3), none⟩,
  ⟨(some 13), .iad 1 (.tmp 11) (.tmp 12), none⟩,
  ⟨(some 14), .ld none (.tmp 13), none⟩,
  ⟨(some 15), .mv (.tmp 0), none⟩,
  ⟨(some 16), .mv (.tmp 3), none⟩,
  ⟨(some 17), .bin .sub (.tmp 16) (.const (.int .i64 1)), none⟩,
  ⟨(some 18), .iad 1 (.tmp 15) (.tmp 17), none⟩,
  ⟨(some 19), .ld none (.tmp 18), none⟩,
  ⟨(some 20), .rcall (.func 113) [(.tmp 14), (.tmp 19)], none⟩])
 (.cond (.tmp 20) (.seq (.reg [⟨(some 2), .mv (.const (.bool false)), none⟩])
 (.ret)) (.skip))))
 (.reg [⟨(some 9), .mv (.tmp 3), none⟩,
  ⟨(some 10), .bin .sub (.tmp 9) (.const (.int .i64 1)), none⟩,
  ⟨(some 3), .mv (.tmp 10), none⟩]))))))
 (.seq (.reg [⟨(some 2), .mv (.const (.bool true)), none⟩])
 (.ret)))
def r_slices_IsSorted : List ARes := [.tmp 2]
theorem ok_slices_IsSorted : FnOk Try.prog 94 21 c_slices_IsSorted r_slices_IsSorted := ⟨⟨Try.f94, _, Try.func94, by kernel_rfl, rfl, rfl, by kernel_rfl, by kernel_rfl⟩⟩
def c_math_bits_Len : ACode := .seq (.reg [⟨(some 2), .mv (.const (.int .i64 0)), none⟩])
 (.seq (.cond (.const (.bool false)) (.seq (.reg [⟨(some 3), .mv (.tmp 0), none⟩,
  ⟨(some 4), .conv .u32 (.tmp 3), none⟩,
  ⟨(some 5), .call (.func 115) [(.tmp 4)], none⟩,
  ⟨(some 2), .mv (.tmp 5), none⟩])
 (.ret)) (.skip))
 (.seq (.reg [⟨(some 6), .mv (.tmp 0), none⟩,
  ⟨(some 7), .call (.func 116) [(.tmp 6)], none⟩,
  ⟨(some 2), .mv (.tmp 7), none⟩])
 (.ret)))
def r_math_bits_Len : List ARes := [.tmp 2]
theorem ok_math_bits_Len : FnOk Try.prog 96 8 c_math_bits_Len r_math_bits_Len := ⟨⟨Try.f96, _, Try.func96, by kernel_rfl, rfl, rfl, by kernel_rfl, by kernel_rfl⟩⟩
def c_spec_l7Give : ACode := .seq (.reg [⟨(some 5), .box 50 (.tmp 0), none⟩,
  ⟨(some 10), .mv (.const (.int .i64 0)), none⟩])
 (.seq (.seq (.reg [⟨(some 15), .fad 0 (.tmp 5), none⟩,
  ⟨(some 16), .ld none (.tmp 15), none⟩,
  ⟨(some 17), .mv (.tmp 3), none⟩,
  ⟨(some 18), .mv (.tmp 4), none⟩,
  ⟨(some 19), .slc 1 (.tmp 16) (some (.tmp 17)) (some (.tmp 18)), none⟩,
  ⟨(some 20), .call (.func 57) [(.tmp 19)], none⟩,
  ⟨(some 21), .bin .eql (.tmp 20) (.const (.int .i64 0)), none⟩])
 (.cond (.tmp 21) (.seq (.reg [⟨(some 10), .mv (.const (.int .i64 0)), none⟩])
 (.ret)) (.skip)))
 (.seq (.reg [⟨(some 11), .mv (.const (.int .i64 (-1))), none⟩])
 (.seq (.seq (.reg [⟨(some 22), .mv (.tmp 3), none⟩,
  ⟨(some 12), .mv (.tmp 22), none⟩])
 (.block 0 (.loop (.seq (.seq (.reg [⟨(some 23), .mv (.tmp 12), none⟩,
  ⟨(some 24), .mv (.tmp 4), none⟩,
  ⟨(some 25), .bin .leq (.tmp 23) (.tmp 24), none⟩])
 (.cond (.tmp 25) (.skip) (.exit 0)))
 (.seq (.block 1 (.seq (.reg [⟨(some 13), .mv (.const (.int .i64 0)), none⟩])
 (.seq (.seq (.reg [⟨(some 28), .mv (.tmp 1), none⟩,
  ⟨(some 29), .bin .add (.tmp 28) (.const (.int .i64 1)), none⟩,
  ⟨(some 30), .fad 1 (.tmp 5), none⟩,
  ⟨(some 31), .ld none (.tmp 30), none⟩,
  ⟨(some 32), .len (.tmp 31), none⟩,
  ⟨(some 33), .bin .lss (.tmp 29) (.tmp 32), none⟩])
 (.cond (.tmp 33) (.seq (.reg [⟨(some 34), .fad 0 (.tmp 5), none⟩,
  ⟨(some 35), .ld none (.tmp 34), none⟩,
  ⟨(some 36), .mv (.tmp 3), none⟩,
  ⟨(some 37), .mv (.tmp 12), none⟩,
  ⟨(some 38), .slc 1 (.tmp 35) (some (.tmp 36)) (some (.tmp 37)), none⟩,
  ⟨(some 39), .call (.func 57) [(.tmp 38)], none⟩,
  ⟨(some 40), .bin .gtr (.tmp 39) (.const (.int .i64 0)), none⟩])
 (.cond (.tmp 40) (.reg [⟨(some 41), .fad 1 (.tmp 5), none⟩,
  ⟨(some 42), .ld none (.tmp 41), none⟩,
  ⟨(some 43), .mv (.tmp 1), none⟩,
  ⟨(some 44), .bin .add (.tmp 43) (.const (.int .i64 1)), none⟩,
  ⟨(some 45), .iad 1 (.tmp 42) (.tmp 44), none⟩,
  ⟨(some 46), .ld none (.tmp 45), none⟩,
  ⟨(some 47), .ld (some 3) (.tmp 5), none⟩,
  ⟨(some 48), .mv (.tmp 1), none⟩,
  ⟨(some 49), .bin .add (.tmp 48) (.const (.int .i64 1)), none⟩,
  ⟨(some 50), .mv (.tmp 2), none⟩,
  ⟨(some 51), .mv (.tmp 3), none⟩,
  ⟨(some 52), .mv (.tmp 12), none⟩,
  ⟨(some 53), .rcall (.func 97) [(.tmp 47), (.tmp 49), (.tmp 50), (.tmp 51), (.tmp 52)], none⟩,
  ⟨(some 54), .bin .add (.tmp 46) (.tmp 53), none⟩,
  ⟨(some 13), .mv (.tmp 54), none⟩]) (.skip))) (.seq (.reg [⟨(some 55), .mv (.tmp 12), none⟩,
  ⟨(some 56), .mv (.tmp 3), none⟩,
  ⟨(some 57), .bin .add (.tmp 56) (.const (.int .i64 1)), none⟩,
  ⟨(some 58), .bin .gtr (.tmp 55) (.tmp 57), none⟩,
  ⟨(some 59), .mv (.tmp 58), none⟩,
  ⟨(some 60), .mv (.tmp 12), (some (59, false))⟩,
  ⟨(some 61), .mv (.tmp 3), (some (59, false))⟩,
  ⟨(some 62), .bin .gtr (.tmp 60) (.tmp 61), (some (59, false))⟩,
  ⟨(some 63), .mv (.tmp 62), (some (59, false))⟩,
  ⟨(some 64), .mv (.tmp 3), (some (63, true))⟩,
  ⟨(some 65), .mv (.tmp 2), (some (63, true))⟩,
  ⟨(some 66), .bin .gtr (.tmp 64) (.tmp 65), (some (63, true))⟩,
  ⟨(some 67), .pick (.tmp 63) (.tmp 66) (.const (.bool false)), (some (59, false))⟩,
  ⟨(some 68), .pick (.tmp 59) (.const (.bool true)) (.tmp 67), none⟩,
  ⟨(some 69), .mv (.tmp 68), none⟩,
  ⟨(some 70), .mv (.tmp 12), (some (69, false))⟩,
  ⟨(some 71), .mv (.tmp 3), (some (69, false))⟩,
  ⟨(some 72), .bin .eql (.tmp 70) (.tmp 71), (some (69, false))⟩,
  ⟨(some 73), .mv (.tmp 72), (some (69, false))⟩,
  ⟨(some 74), .mv (.tmp 3), (some (73, true))⟩,
  ⟨(some 75), .mv (.tmp 2), (some (73, true))⟩,
  ⟨(some 76), .bin .eql (.tmp 74) (.tmp 75), (some (73, true))⟩,
  ⟨(some 77), .pick (.tmp 73) (.tmp 76) (.const (.bool false)), (some (69, false))⟩,
  ⟨(some 78), .pick (.tmp 69) (.const (.bool true)) (.tmp 77), none⟩])
 (.cond (.tmp 78) (.exit 1) (.skip)))))
 (.seq (.seq (.reg [⟨(some 79), .fad 0 (.tmp 5), none⟩,
  ⟨(some 80), .ld none (.tmp 79), none⟩,
  ⟨(some 81), .mv (.tmp 12), none⟩,
  ⟨(some 82), .mv (.tmp 4), none⟩,
  ⟨(some 83), .slc 1 (.tmp 80) (some (.tmp 81)) (some (.tmp 82)), none⟩,
  ⟨(some 84), .call (.func 57) [(.tmp 83)], none⟩,
  ⟨(some 14), .mv (.tmp 84), none⟩])
 (.seq (.reg [⟨(some 85), .mv (.tmp 14), none⟩,
  ⟨(some 86), .bin .gtr (.tmp 85) (.const (.int .i64 0)), none⟩])
 (.cond (.tmp 86) (.seq (.seq (.reg [⟨(some 87), .mv (.tmp 2), none⟩,
  ⟨(some 88), .bin .add (.tmp 87) (.const (.int .i64 1)), none⟩,
  ⟨(some 89), .mv (.tmp 12), none⟩,
  ⟨(some 90), .bin .gtr (.tmp 88) (.tmp 89), none⟩])
 (.cond (.tmp 90) (.exit 1) (.skip)))
 (.reg [⟨(some 91), .mv (.tmp 13), none⟩,
  ⟨(some 92), .fad 2 (.tmp 5), none⟩,
  ⟨(some 93), .ld none (.tmp 92), none⟩,
  ⟨(some 94), .mv (.tmp 1), none⟩,
  ⟨(some 95), .iad 1 (.tmp 93) (.tmp 94), none⟩,
  ⟨(some 96), .ld none (.tmp 95), none⟩,
  ⟨(some 97), .mv (.tmp 14), none⟩,
  ⟨(some 98), .bin .mul (.tmp 96) (.tmp 97), none⟩,
  ⟨(some 99), .bin .add (.tmp 91) (.tmp 98), none⟩,
  ⟨(some 100), .ld (some 3) (.tmp 5), none⟩,
  ⟨(some 101), .mv (.tmp 1), none⟩,
  ⟨(some 102), .mv (.tmp 2), none⟩,
  ⟨(some 103), .bin .add (.tmp 102) (.const (.int .i64 1)), none⟩,
  ⟨(some 104), .mv (.tmp 12), none⟩,
  ⟨(some 105), .mv (.tmp 4), none⟩,
  ⟨(some 106), .rcall (.func 97) [(.tmp 100), (.tmp 101), (.tmp 103), (.tmp 104), (.tmp 105)], none⟩,
  ⟨(some 107), .bin .add (.tmp 99) (.tmp 106), none⟩,
  ⟨(some 13), .mv (.tmp 107), none⟩])) (.skip))))
 (.seq (.reg [⟨(some 108), .mv (.tmp 11), none⟩,
  ⟨(some 109), .bin .lss (.tmp 108) (.const (.int .i64 0)), none⟩,
  ⟨(some 110), .mv (.tmp 109), none⟩,
  ⟨(some 111), .mv (.tmp 13), (some (110, false))⟩,
  ⟨(some 112), .mv (.tmp 11), (some (110, false))⟩,
  ⟨(some 113), .bin .lss (.tmp 111) (.tmp 112), (some (110, false))⟩,
  ⟨(some 114), .pick (.tmp 110) (.const (.bool true)) (.tmp 113), none⟩])
 (.cond (.tmp 114) (.reg [⟨(some 115), .mv (.tmp 13), none⟩,
  ⟨(some 11), .mv (.tmp 115), none⟩]) (.skip)))))))
 (.reg [⟨(some 26), .mv (.tmp 12), none⟩,
  ⟨(some 27), .bin .add (.tmp 26) (.const (.int .i64 1)), none⟩,
  ⟨(some 12), .mv (.tmp 27), none⟩]))))))
 (.seq (.reg [⟨(some 116), .mv (.tmp 11), none⟩,
  ⟨(some 10), .mv (.tmp 116), none⟩])
 (.ret)))))
def r_spec_l7Give : List ARes := [.tmp 10]
theorem ok_spec_l7Give : FnOk Try.prog 97 117 c_spec_l7Give r_spec_l7Give := ⟨⟨Try.f97, _, Try.func97, by kernel_rfl, rfl, rfl, by kernel_rfl, by kernel_rfl⟩⟩
def c_slices_Repeat : ACode := .seq (.reg [⟨(some 4), .mv (.const (.slice none 0 0)), none⟩])
 (.seq (.seq (.reg [⟨(some 9), .mv (.tmp 1), none⟩,
  ⟨(some 10), .bin .lss (.tmp 9) (.const (.int .i64 0)), none⟩])
 (.cond (.tmp 10) (.reg [⟨(some 11), .mif 9 (.const (.string ⟨#[99, 97, 110, 110, 111, 116, 32, 98, 101, 32, 110, 101, 103, 97, 116, 105, 118, 101]⟩)), none⟩,
  ⟨none, .never, none⟩]) (.skip)))
 (.seq (.reg [⟨(some 13), .mv (.tmp 0), none⟩,
  ⟨(some 14), .len (.tmp 13), none⟩,
  ⟨(some 15), .conv .u64 (.tmp 14), none⟩,
  ⟨(some 16), .mv (.tmp 1), none⟩,
  ⟨(some 17), .conv .u64 (.tmp 16), none⟩,
  ⟨(some 18), .call (.func 120) [(.tmp 15), (.tmp 17)], none⟩,
  ⟨(some 12), .mv (.tmp 18), none⟩,
  ⟨(some 19), .ext 0 (.tmp 12), none⟩,
  ⟨(some 20), .ext 1 (.tmp 12), none⟩,
  ⟨(some 5), .mv (.tmp 19), none⟩,
  ⟨(some 6), .mv (.tmp 20), none⟩])
 (.seq (.seq (.reg [⟨(some 21), .mv (.tmp 5), none⟩,
  ⟨(some 22), .bin .gtr (.tmp 21) (.const (.int .u64 0)), none⟩,
  ⟨(some 23), .mv (.tmp 22), none⟩,
  ⟨(some 24), .mv (.tmp 6), (some (23, false))⟩,
  ⟨(some 25), .bin .gtr (.tmp 24) (.const (.int .u64 9223372036854775807)), (some (23, false))⟩,
  ⟨(some 26), .pick (.tmp 23) (.const (.bool true)) (.tmp 25), none⟩])
 (.cond (.tmp 26) (.reg [⟨(some 27), .mif 9 (.const (.string ⟨#[116, 104, 101, 32, 114, 101, 115, 117, 108, 116, 32, 111, 102, 32, 40, 108, 101, 110, 40, 120, 41, 32, 42, 32, 99, 111, 117, 110, 116, 41, 32, 111, 118, 101, 114, 102, 108, 111, 119, 115]⟩)), none⟩,
  ⟨none, .never, none⟩]) (.skip)))
 (.seq (.reg [⟨(some 28), .mv (.tmp 6), none⟩,
  ⟨(some 29), .conv .i64 (.tmp 28), none⟩,
  ⟨(some 30), .mks 3 8 [(.int .i64 0)] (.tmp 29) (.tmp 29), none⟩,
  ⟨(some 7), .mv (.tmp 30), none⟩])
 (.seq (.reg [⟨(some 31), .mv (.tmp 7), none⟩,
  ⟨(some 32), .mv (.tmp 0), none⟩,
  ⟨(some 33), .cpy 1 (.tmp 31) (.tmp 32), none⟩,
  ⟨(some 8), .mv (.tmp 33), none⟩])
 (.seq (.block 0 (.loop (.seq (.seq (.reg [⟨(some 34), .mv (.tmp 8), none⟩,
  ⟨(some 35), .mv (.tmp 7), none⟩,
  ⟨(some 36), .len (.tmp 35), none⟩,
  ⟨(some 37), .bin .lss (.tmp 34) (.tmp 36), none⟩])
 (.cond (.tmp 37) (.skip) (.exit 0)))
 (.block 1 (.reg [⟨(some 38), .mv (.tmp 8), none⟩,
  ⟨(some 39), .mv (.tmp 7), none⟩,
  ⟨(some 40), .mv (.tmp 8), none⟩,
  ⟨(some 41), .slc 1 (.tmp 39) (some (.tmp 40)) none, none⟩,
  ⟨(some 42), .mv (.tmp 7), none⟩,
  ⟨(some 43), .mv (.tmp 8), none⟩,
  ⟨(some 44), .slc 1 (.tmp 42) none (some (.tmp 43)), none⟩,
  ⟨(some 45), .cpy 1 (.tmp 41) (.tmp 44), none⟩,
  ⟨(some 46), .bin .add (.tmp 38) (.tmp 45), none⟩,
  ⟨(some 8), .mv (.tmp 46), none⟩])))))
 (.seq (.reg [⟨(some 47), .mv (.tmp 7), none⟩,
  ⟨(some 4), .mv (.tmp 47), none⟩])
 (.ret))))))))
def r_slices_Repeat : List ARes := [.tmp 4]
theorem ok_slices_Repeat : FnOk Try.prog 101 48 c_slices_Repeat r_slices_Repeat := ⟨⟨Try.f101, _, Try.func101, by kernel_rfl, rfl, rfl, by kernel_rfl, by kernel_rfl⟩⟩
def c_slices_MinFunc_periodSet : ACode := .seq (.reg [⟨(some 4), .alc 87 [(.int .i64 0), (.slice none 0 0)], none⟩])
 (.seq (.seq (.reg [⟨(some 7), .mv (.tmp 0), none⟩,
  ⟨(some 8), .len (.tmp 7), none⟩,
  ⟨(some 9), .bin .lss (.tmp 8) (.const (.int .i64 1)), none⟩])
 (.cond (.tmp 9) (.reg [⟨(some 10), .mif 9 (.const (.string ⟨#[115, 108, 105, 99, 101, 115, 46, 77, 105, 110, 70, 117, 110, 99, 58, 32, 101, 109, 112, 116, 121, 32, 108, 105, 115, 116]⟩)), none⟩,
  ⟨none, .never, none⟩]) (.skip)))
 (.seq (.reg [⟨(some 11), .mv (.tmp 0), none⟩,
  ⟨(some 12), .iad 2 (.tmp 11) (.const (.int .i64 0)), none⟩,
  ⟨(some 13), .ld (some 2) (.tmp 12), none⟩,
  ⟨(some 5), .alc 87 [(.int .i64 0), (.slice none 0 0)], none⟩,
  ⟨none, .st 2 (.tmp 5) (.tmp 13), none⟩])
 (.seq (.seq (.reg [⟨(some 6), .mv (.const (.int .i64 1)), none⟩])
 (.block 0 (.loop (.seq (.seq (.reg [⟨(some 14), .mv (.tmp 6), none⟩,
  ⟨(some 15), .mv (.tmp 0), none⟩,
  ⟨(some 16), .len (.tmp 15), none⟩,
  ⟨(some 17), .bin .lss (.tmp 14) (.tmp 16), none⟩])
 (.cond (.tmp 17) (.skip) (.exit 0)))
 (.seq (.block 1 (.seq (.reg [⟨(some 20), .mv (.tmp 1), none⟩,
  ⟨(some 21), .mv (.tmp 0), none⟩,
  ⟨(some 22), .mv (.tmp 6), none⟩,
  ⟨(some 23), .iad 2 (.tmp 21) (.tmp 22), none⟩,
  ⟨(some 24), .ld (some 2) (.tmp 23), none⟩,
  ⟨(some 25), .ld (some 2) (.tmp 5), none⟩,
  ⟨(some 26), .rcall (.tmp 20) [(.tmp 24), (.tmp 25)], none⟩,
  ⟨(some 27), .bin .lss (.tmp 26) (.const (.int .i64 0)), none⟩])
 (.cond (.tmp 27) (.reg [⟨(some 28), .mv (.tmp 0), none⟩,
  ⟨(some 29), .mv (.tmp 6), none⟩,
  ⟨(some 30), .iad 2 (.tmp 28) (.tmp 29), none⟩,
  ⟨(some 31), .ld (some 2) (.tmp 30), none⟩,
  ⟨none, .st 2 (.tmp 5) (.tmp 31), none⟩]) (.skip))))
 (.reg [⟨(some 18), .mv (.tmp 6), none⟩,
  ⟨(some 19), .bin .add (.tmp 18) (.const (.int .i64 1)), none⟩,
  ⟨(some 6), .mv (.tmp 19), none⟩]))))))
 (.seq (.reg [⟨(some 32), .ld (some 2) (.tmp 5), none⟩,
  ⟨none, .st 2 (.tmp 4) (.tmp 32), none⟩])
 (.ret)))))
def r_slices_MinFunc_periodSet : List ARes := [.cell 4 (some 2)]
theorem ok_slices_MinFunc_periodSet : FnOk Try.prog 103 33 c_slices_MinFunc_periodSet r_slices_MinFunc_periodSet := ⟨⟨Try.f103, _, Try.func103, by kernel_rfl, rfl, rfl, by kernel_rfl, by kernel_rfl⟩⟩
def c_slices_IndexFunc : ACode := .seq (.reg [⟨(some 4), .mv (.const (.int .i64 0)), none⟩])
 (.seq (.seq (.reg [⟨(some 6), .mv (.tmp 0), none⟩,
  ⟨(some 7), .len (.tmp 6), none⟩,
  ⟨(some 8), .mv (.const (.int .i64 0)), none⟩])
 (.block 0 (.loop (.seq (.reg [⟨(some 9), .bin .lss (.tmp 8) (.tmp 7), none⟩])
 (.seq (.cond (.tmp 9) (.skip) (.exit 0))
 (.seq (.block 1 (.seq (.reg [⟨(some 10), .mv (.tmp 8), none⟩,
  ⟨(some 5), .mv (.tmp 10), none⟩])
 (.seq (.reg [⟨(some 11), .mv (.tmp 1), none⟩,
  ⟨(some 12), .mv (.tmp 0), none⟩,
  ⟨(some 13), .mv (.tmp 5), none⟩,
  ⟨(some 14), .iad 1 (.tmp 12) (.tmp 13), none⟩,
  ⟨(some 15), .ld none (.tmp 14), none⟩,
  ⟨(some 16), .call (.tmp 11) [(.tmp 15)], none⟩])
 (.cond (.tmp 16) (.seq (.reg [⟨(some 17), .mv (.tmp 5), none⟩,
  ⟨(some 4), .mv (.tmp 17), none⟩])
 (.ret)) (.skip)))))
 (.reg [⟨(some 18), .bin .add (.tmp 8) (.const (.int .i64 1)), none⟩,
  ⟨(some 8), .mv (.tmp 18), none⟩])))))))
 (.seq (.reg [⟨(some 4), .mv (.const (.int .i64 (-1))), none⟩])
 (.ret)))
def r_slices_IndexFunc : List ARes := [.tmp 4]
theorem ok_slices_IndexFunc : FnOk Try.prog 106 19 c_slices_IndexFunc r_slices_IndexFunc := ⟨⟨Try.f106, _, Try.func106, by kernel_rfl, rfl, rfl, by kernel_rfl, by kernel_rfl⟩⟩
def c_spec_l1Most : ACode := .seq (.reg [⟨(some 4), .mv (.const (.int .i64 0)), none⟩])
 (.seq (.seq (.reg [⟨(some 5), .mv (.tmp 0), none⟩,
  ⟨(some 6), .mv (.tmp 1), none⟩,
  ⟨(some 7), .bin .gtr (.tmp 5) (.tmp 6), none⟩])
 (.cond (.tmp 7) (.seq (.reg [⟨(some 8), .mv (.tmp 0), none⟩,
  ⟨(some 4), .mv (.tmp 8), none⟩])
 (.ret)) (.skip)))
 (.seq (.reg [⟨(some 9), .mv (.tmp 1), none⟩,
  ⟨(some 4), .mv (.tmp 9), none⟩])
 (.ret)))
def r_spec_l1Most : List ARes := [.tmp 4]
theorem ok_spec_l1Most : FnOk Try.prog 109 10 c_spec_l1Most r_spec_l1Most := ⟨⟨Try.f109, _, Try.func109, by kernel_rfl, rfl, rfl, by kernel_rfl, by kernel_rfl⟩⟩
def c_spec_l7Periods : ACode := .seq (.reg [⟨(some 2), .box 50 (.tmp 0), none⟩,
  ⟨(some 4), .mv (.const (.bool false)), none⟩])
 (.seq (.seq (.reg [⟨(some 5), .mv (.const (.int .i64 0)), none⟩])
 (.block 0 (.loop (.seq (.seq (.reg [⟨(some 6), .mv (.tmp 5), none⟩,
  ⟨(some 7), .mv (.tmp 1), none⟩,
  ⟨(some 8), .len (.tmp 7), none⟩,
  ⟨(some 9), .bin .lss (.tmp 6) (.tmp 8), none⟩])
 (.cond (.tmp 9) (.skip) (.exit 0)))
 (.seq (.block 1 (.seq (.reg [⟨(some 12), .mv (.tmp 1), none⟩,
  ⟨(some 13), .mv (.tmp 5), none⟩,
  ⟨(some 14), .iad 1 (.tmp 12) (.tmp 13), none⟩,
  ⟨(some 15), .ld none (.tmp 14), none⟩,
  ⟨(some 16), .fad 0 (.tmp 2), none⟩,
  ⟨(some 17), .ld none (.tmp 16), none⟩,
  ⟨(some 18), .len (.tmp 17), none⟩,
  ⟨(some 19), .bin .sub (.tmp 18) (.const (.int .i64 1)), none⟩,
  ⟨(some 20), .rcall (.func 128) [(.tmp 15), (.const (.int .i64 0)), (.tmp 19)], none⟩,
  ⟨(some 21), .un .not (.tmp 20), none⟩,
  ⟨(some 22), .mv (.tmp 21), none⟩,
  ⟨(some 23), .mv (.tmp 5), (some (22, false))⟩,
  ⟨(some 24), .bin .gtr (.tmp 23) (.const (.int .i64 0)), (some (22, false))⟩,
  ⟨(some 25), .mv (.tmp 24), (some (22, false))⟩,
  ⟨(some 26), .mv (.tmp 1), (some (25, true))⟩,
  ⟨(some 27), .mv (.tmp 5), (some (25, true))⟩,
  ⟨(some 28), .bin .sub (.tmp 27) (.const (.int .i64 1)), (some (25, true))⟩,
  ⟨(some 29), .iad 1 (.tmp 26) (.tmp 28), (some (25, true))⟩,
  ⟨(some 30), .ld none (.tmp 29), (some (25, true))⟩,
  ⟨(some 31), .mv (.tmp 1), (some (25, true))⟩,
  ⟨(some 32), .mv (.tmp 5), (some (25, true))⟩,
  ⟨(some 33), .iad 1 (.tmp 31) (.tmp 32), (some (25, true))⟩,
  ⟨(some 34), .ld none (.tmp 33), (some (25, true))⟩,
  ⟨(some 35), .rcall (.func 93) [(.tmp 30), (.tmp 34)], (some (25, true))⟩,
  ⟨(some 36), .un .not (.tmp 35), (some (25, true))⟩,
  ⟨(some 37), .pick (.tmp 25) (.tmp 36) (.const (.bool false)), (some (22, false))⟩,
  ⟨(some 38), .pick (.tmp 22) (.const (.bool true)) (.tmp 37), none⟩])
 (.cond (.tmp 38) (.seq (.reg [⟨(some 4), .mv (.const (.bool false)), none⟩])
 (.ret)) (.skip))))
 (.reg [⟨(some 10), .mv (.tmp 5), none⟩,
  ⟨(some 11), .bin .add (.tmp 10) (.const (.int .i64 1)), none⟩,
  ⟨(some 5), .mv (.tmp 11), none⟩]))))))
 (.seq (.reg [⟨(some 39), .mv (.tmp 1), none⟩,
  ⟨(some 40), .len (.tmp 39), none⟩,
  ⟨(some 41), .fad 1 (.tmp 2), none⟩,
  ⟨(some 42), .ld none (.tmp 41), none⟩,
  ⟨(some 43), .len (.tmp 42), none⟩,
  ⟨(some 44), .bin .eql (.tmp 40) (.tmp 43), none⟩,
  ⟨(some 4), .mv (.tmp 44), none⟩])
 (.ret)))
def r_spec_l7Periods : List ARes := [.tmp 4]
theorem ok_spec_l7Periods : FnOk Try.prog 110 45 c_spec_l7Periods r_spec_l7Periods := ⟨⟨Try.f110, _, Try.func110, by kernel_rfl, rfl, rfl, by kernel_rfl, by kernel_rfl⟩⟩
def c_spec_l7Stocks : ACode := .seq (.reg [⟨(some 2), .box 50 (.tmp 0), none⟩,
  ⟨(some 4), .mv (.const (.slice none 0 0)), none⟩])
 (.seq (.reg [⟨(some 10), .bsl 22 1 0 [] [], none⟩,
  ⟨(some 5), .mv (.tmp 10), none⟩])
 (.seq (.seq (.reg [⟨(some 6), .mv (.const (.int .i64 0)), none⟩])
 (.block 0 (.loop (.seq (.seq (.reg [⟨(some 11), .mv (.tmp 6), none⟩,
  ⟨(some 12), .mv (.tmp 1), none⟩,
  ⟨(some 13), .len (.tmp 12), none⟩,
  ⟨(some 14), .bin .lss (.tmp 11) (.tmp 13), none⟩])
 (.cond (.tmp 14) (.skip) (.exit 0)))
 (.seq (.block 1 (.seq (.reg [⟨(some 17), .bsl 3 1 0 [] [], none⟩,
  ⟨(some 7), .mv (.tmp 17), none⟩])
 (.seq (.reg [⟨(some 8), .mv (.const (.int .i64 0)), none⟩])
 (.seq (.seq (.reg [⟨(some 9), .mv (.const (.int .i64 0)), none⟩])
 (.block 2 (.loop (.seq (.seq (.reg [⟨(some 18), .mv (.tmp 9), none⟩,
  ⟨(some 19), .fad 0 (.tmp 2), none⟩,
  ⟨(some 20), .ld none (.tmp 19), none⟩,
  ⟨(some 21), .len (.tmp 20), none⟩,
  ⟨(some 22), .bin .lss (.tmp 18) (.tmp 21), none⟩])
 (.cond (.tmp 22) (.skip) (.exit 2)))
 (.seq (.block 3 (.seq (.reg [⟨(some 25), .mv (.tmp 8), none⟩,
  ⟨(some 26), .mv (.tmp 1), none⟩,
  ⟨(some 27), .mv (.tmp 6), none⟩,
  ⟨(some 28), .iad 1 (.tmp 26) (.tmp 27), none⟩,
  ⟨(some 29), .ld none (.tmp 28), none⟩,
  ⟨(some 30), .mv (.tmp 9), none⟩,
  ⟨(some 31), .iad 1 (.tmp 29) (.tmp 30), none⟩,
  ⟨(some 32), .ld none (.tmp 31), none⟩,
  ⟨(some 33), .bin .add (.tmp 25) (.tmp 32), none⟩,
  ⟨(some 34), .ld (some 3) (.tmp 2), none⟩,
  ⟨(some 35), .mv (.tmp 1), none⟩,
  ⟨(some 36), .mv (.tmp 6), none⟩,
  ⟨(some 37), .mv (.tmp 9), none⟩,
  ⟨(some 38), .rcall (.func 129) [(.tmp 34), (.tmp 35), (.tmp 36), (.tmp 37)], none⟩,
  ⟨(some 39), .bin .sub (.tmp 33) (.tmp 38), none⟩,
  ⟨(some 8), .mv (.tmp 39), none⟩])
 (.reg [⟨(some 40), .mv (.tmp 7), none⟩,
  ⟨(some 41), .mv (.tmp 8), none⟩,
  ⟨(some 42), .bsl 3 1 1 [(.int .i64 0)] [(0, 1, (.tmp 41))], none⟩,
  ⟨(some 43), .app 3 1 8 (.tmp 40) (.tmp 42), none⟩,
  ⟨(some 7), .mv (.tmp 43), none⟩])))
 (.reg [⟨(some 23), .mv (.tmp 9), none⟩,
  ⟨(some 24), .bin .add (.tmp 23) (.const (.int .i64 1)), none⟩,
  ⟨(some 9), .mv (.tmp 24), none⟩]))))))
 (.reg [⟨(some 44), .mv (.tmp 5), none⟩,
  ⟨(some 45), .mv (.tmp 7), none⟩,
  ⟨(some 46), .bsl 22 1 1 [(.slice none 0 0)] [(0, 1, (.tmp 45))], none⟩,
  ⟨(some 47), .app 22 1 24 (.tmp 44) (.tmp 46), none⟩,
  ⟨(some 5), .mv (.tmp 47), none⟩])))))
 (.reg [⟨(some 15), .mv (.tmp 6), none⟩,
  ⟨(some 16), .bin .add (.tmp 15) (.const (.int .i64 1)), none⟩,
  ⟨(some 6), .mv (.tmp 16), none⟩]))))))
 (.seq (.reg [⟨(some 48), .mv (.tmp 5), none⟩,
  ⟨(some 4), .mv (.tmp 48), none⟩])
 (.ret))))
def r_spec_l7Stocks : List ARes := [.tmp 4]
theorem ok_spec_l7Stocks : FnOk Try.prog 111 49 c_spec_l7Stocks r_spec_l7Stocks := ⟨⟨Try.f111, _, Try.func111, by kernel_rfl, rfl, rfl, by kernel_rfl, by kernel_rfl⟩⟩
def c_spec_l1Has : ACode := .seq (.reg [⟨(some 4), .mv (.const (.bool false)), none⟩])
 (.seq (.seq (.reg [⟨(some 5), .mv (.const (.int .i64 0)), none⟩])
 (.block 0 (.loop (.seq (.seq (.reg [⟨(some 6), .mv (.tmp 5), none⟩,
  ⟨(some 7), .mv (.tmp 0), none⟩,
  ⟨(some 8), .len (.tmp 7), none⟩,
  ⟨(some 9), .bin .lss (.tmp 6) (.tmp 8), none⟩])
 (.cond (.tmp 9) (.skip) (.exit 0)))
 (.seq (.block 1 (.seq (.reg [⟨(some 12), .mv (.tmp 0), none⟩,
  ⟨(some 13), .mv (.tmp 5), none⟩,
  ⟨(some 14), .iad 1 (.tmp 12) (.tmp 13), none⟩,
  ⟨(some 15), .ld none (.tmp 14), none⟩,
  ⟨(some 16), .mv (.tmp 1), none⟩,
  ⟨(some 17), .bin .eql (.tmp 15) (.tmp 16), none⟩])
 (.cond (.tmp 17) (.seq (.reg [⟨(some 4), .mv (.const (.bool true)), none⟩])
 (.ret)) (.skip))))
 (.reg [⟨(some 10), .mv (.tmp 5), none⟩,
  ⟨(some 11), .bin .add (.tmp 10) (.const (.int .i64 1)), none⟩,
  ⟨(some 5), .mv (.tmp 11), none⟩]))))))
 (.seq (.reg [⟨(some 4), .mv (.const (.bool false)), none⟩])
 (.ret)))
def r_spec_l1Has : List ARes := [.tmp 4]
theorem ok_spec_l1Has : FnOk Try.prog 112 18 c_spec_l1Has r_spec_l1Has := ⟨⟨Try.f112, _, Try.func112, by kernel_rfl, rfl, rfl, by kernel_rfl, by kernel_rfl⟩⟩
def c_cmp_Less : ACode := .seq (.reg [⟨(some 4), .mv (.const (.bool false)), none⟩])
 (.seq (.reg [⟨(some 5), .mv (.tmp 0), none⟩,
  ⟨(some 6), .call (.func 130) [(.tmp 5)], none⟩,
  ⟨(some 7), .mv (.tmp 6), none⟩,
  ⟨(some 8), .mv (.tmp 1), (some (7, true))⟩,
  ⟨(some 9), .call (.func 130) [(.tmp 8)], (some (7, true))⟩,
  ⟨(some 10), .un .not (.tmp 9), (some (7, true))⟩,
  ⟨(some 11), .pick (.tmp 7) (.tmp 10) (.const (.bool false)), none⟩,
  ⟨(some 12), .mv (.tmp 11), none⟩,
  ⟨(some 13), .mv (.tmp 0), (some (12, false))⟩,
  ⟨(some 14), .mv (.tmp 1), (some (12, false))⟩,
  ⟨(some 15), .bin .lss (.tmp 13) (.tmp 14), (some (12, false))⟩,
  ⟨(some 16), .pick (.tmp 12) (.const (.bool true)) (.tmp 15), none⟩,
  ⟨(some 4), .mv (.tmp 16), none⟩])
 (.ret))
def r_cmp_Less : List ARes := [.tmp 4]
theorem ok_cmp_Less : FnOk Try.prog 113 17 c_cmp_Less r_cmp_Less := ⟨⟨Try.f113, _, Try.func113, by kernel_rfl, rfl, rfl, by kernel_rfl, by kernel_rfl⟩⟩
def c_math_bits_Len32 : ACode := .seq (.reg [⟨(some 2), .mv (.const (.int .i64 0)), none⟩])
 (.seq (.seq (.reg [⟨(some 3), .mv (.tmp 0), none⟩,
  ⟨(some 4), .bin .geq (.tmp 3) (.const (.int .u32 65536)), none⟩])
 (.cond (.tmp 4) (.seq (.reg [⟨(some 5), .mv (.tmp 0), none⟩,
  ⟨(some 6), .bin .shr (.tmp 5) (.const (.int .u64 16)), none⟩,
  ⟨(some 0), .mv (.tmp 6), none⟩])
 (.reg [⟨(some 2), .mv (.const (.int .i64 16)), none⟩])) (.skip)))
 (.seq (.seq (.reg [⟨(some 7), .mv (.tmp 0), none⟩,
  ⟨(some 8), .bin .geq (.tmp 7) (.const (.int .u32 256)), none⟩])
 (.cond (.tmp 8) (.seq (.reg [⟨(some 9), .mv (.tmp 0), none⟩,
  ⟨(some 10), .bin .shr (.tmp 9) (.const (.int .u64 8)), none⟩,
  ⟨(some 0), .mv (.tmp 10), none⟩])
 (.reg [⟨(some 11), .mv (.tmp 2), none⟩,
  ⟨(some 12), .bin .add (.tmp 11) (.const (.int .i64 8)), none⟩,
  ⟨(some 2), .mv (.tmp 12), none⟩])) (.skip)))
 (.seq (.reg [⟨(some 13), .mv (.tmp 2), none⟩,
  ⟨(some 14), .mv (.tmp 0), none⟩,
  ⟨(some 15), .conv .u8 (.tmp 14), none⟩,
  ⟨(some 16), .idxs (.const (.string ⟨#[0, 1, 2, 2, 3, 3, 3, 3, 4, 4, 4, 4, 4, 4, 4, 4, 5, 5, 5, 5, 5, 5, 5, 5, 5, 5, 5, 5, 5, 5, 5, 5, 6, 6, 6, 6, 6, 6, 6, 6, 6, 6, 6, 6, 6, 6, 6, 6, 6, 6, 6, 6, 6, 6, 6, 6, 6, 6, 6, 6, 6, 6, 6, 6, 7, 7, 7, 7, 7, 7, 7, 7, 7, 7, 7, 7, 7, 7, 7, 7, 7, 7, 7, 7, 7, 7, 7, 7, 7, 7, 7, 7, 7, 7, 7, 7, 7, 7, 7, 7, 7, 7, 7, 7, 7, 7, 7, 7, 7, 7, 7, 7, 7, 7, 7, 7, 7, 7, 7, 7, 7, 7, 7, 7, 7, 7, 7, 7, 8, 8, 8, 8, 8, 8, 8, 8, 8, 8, 8, 8, 8, 8, 8, 8, 8, 8, 8, 8, 8, 8, 8, 8, 8, 8, 8, 8, 8, 8, 8, 8, 8, 8, 8, 8, 8, 8, 8, 8, 8, 8, 8, 8, 8, 8, 8, 8, 8, 8, 8, 8, 8, 8, 8, 8, 8, 8, 8, 8, 8, 8, 8, 8, 8, 8, 8, 8, 8, 8, 8, 8, 8, 8, 8, 8, 8, 8, 8, 8, 8, 8, 8, 8, 8, 8, 8, 8, 8, 8, 8, 8, 8, 8, 8, 8, 8, 8, 8, 8, 8, 8, 8, 8, 8, 8, 8, 8, 8, 8, 8, 8, 8, 8, 8, 8, 8, 8, 8, 8, 8, 8, 8, 8, 8, 8, 8, 8]⟩)) (.tmp 15), none⟩,
  ⟨(some 17), .conv .i64 (.tmp 16), none⟩,
  ⟨(some 18), .bin .add (.tmp 13) (.tmp 17), none⟩,
  ⟨(some 2), .mv (.tmp 18), none⟩])
 (.ret))))
def r_math_bits_Len32 : List ARes := [.tmp 2]
theorem ok_math_bits_Len32 : FnOk Try.prog 115 19 c_math_bits_Len32 r_math_bits_Len32 := ⟨⟨Try.f115, _, Try.func115, by kernel_rfl, rfl, rfl, by kernel_rfl, by kernel_rfl⟩⟩
def c_math_bits_Len64 : ACode := .seq (.reg [⟨(some 2), .mv (.const (.int .i64 0)), none⟩])
 (.seq (.seq (.reg [⟨(some 3), .mv (.tmp 0), none⟩,
  ⟨(some 4), .bin .geq (.tmp 3) (.const (.int .u64 4294967296)), none⟩])
 (.cond (.tmp 4) (.seq (.reg [⟨(some 5), .mv (.tmp 0), none⟩,
  ⟨(some 6), .bin .shr (.tmp 5) (.const (.int .u64 32)), none⟩,
  ⟨(some 0), .mv (.tmp 6), none⟩])
 (.reg [⟨(some 2), .mv (.const (.int .i64 32)), none⟩])) (.skip)))
 (.seq (.seq (.reg [⟨(some 7), .mv (.tmp 0), none⟩,
  ⟨(some 8), .bin .geq (.tmp 7) (.const (.int .u64 65536)), none⟩])
 (.cond (.tmp 8) (.seq (.reg [⟨(some 9), .mv (.tmp 0), none⟩,
  ⟨(some 10), .bin .shr (.tmp 9) (.const (.int .u64 16)), none⟩,
  ⟨(some 0), .mv (.tmp 10), none⟩])
 (.reg [⟨(some 11), .mv (.tmp 2), none⟩,
  ⟨(some 12), .bin .add (.tmp 11) (.const (.int .i64 16)), none⟩,
  ⟨(some 2), .mv (.tmp 12), none⟩])) (.skip)))
 (.seq (.seq (.reg [⟨(some 13), .mv (.tmp 0), none⟩,
  ⟨(some 14), .bin .geq (.tmp 13) (.const (.int .u64 256)), none⟩])
 (.cond (.tmp 14) (.seq (.reg [⟨(some 15), .mv (.tmp 0), none⟩,
  ⟨(some 16), .bin .shr (.tmp 15) (.const (.int .u64 8)), none⟩,
  ⟨(some 0), .mv (.tmp 16), none⟩])
 (.reg [⟨(some 17), .mv (.tmp 2), none⟩,
  ⟨(some 18), .bin .add (.tmp 17) (.const (.int .i64 8)), none⟩,
  ⟨(some 2), .mv (.tmp 18), none⟩])) (.skip)))
 (.seq (.reg [⟨(some 19), .mv (.tmp 2), none⟩,
  ⟨(some 20), .mv (.tmp 0), none⟩,
  ⟨(some 21), .conv .u8 (.tmp 20), none⟩,
  ⟨(some 22), .idxs (.const (.string ⟨#[0, 1, 2, 2, 3, 3, 3, 3, 4, 4, 4, 4, 4, 4, 4, 4, 5, 5, 5, 5, 5, 5, 5, 5, 5, 5, 5, 5, 5, 5, 5, 5, 6, 6, 6, 6, 6, 6, 6, 6, 6, 6, 6, 6, 6, 6, 6, 6, 6, 6, 6, 6, 6, 6, 6, 6, 6, 6, 6, 6, 6, 6, 6, 6, 7, 7, 7, 7, 7, 7, 7, 7, 7, 7, 7, 7, 7, 7, 7, 7, 7, 7, 7, 7, 7, 7, 7, 7, 7, 7, 7, 7, 7, 7, 7, 7, 7, 7, 7, 7, 7, 7, 7, 7, 7, 7, 7, 7, 7, 7, 7, 7, 7, 7, 7, 7, 7, 7, 7, 7, 7, 7, 7, 7, 7, 7, 7, 7, 8, 8, 8, 8, 8, 8, 8, 8, 8, 8, 8, 8, 8, 8, 8, 8, 8, 8, 8, 8, 8, 8, 8, 8, 8, 8, 8, 8, 8, 8, 8, 8, 8, 8, 8, 8, 8, 8, 8, 8, 8, 8, 8, 8, 8, 8, 8, 8, 8, 8, 8, 8, 8, 8, 8, 8, 8, 8, 8, 8, 8, 8, 8, 8, 8, 8, 8, 8, 8, 8, 8, 8, 8, 8, 8, 8, 8, 8, 8, 8, 8, 8, 8, 8, 8, 8, 8, 8, 8, 8, 8, 8, 8, 8, 8, 8, 8, 8, 8, 8, 8, 8, 8, 8, 8, 8, 8, 8, 8, 8, 8, 8, 8, 8, 8, 8, 8, 8, 8, 8, 8, 8, 8, 8, 8, 8, 8, 8]⟩)) (.tmp 21), none⟩,
  ⟨(some 23), .conv .i64 (.tmp 22), none⟩,
  ⟨(some 24), .bin .add (.tmp 19) (.tmp 23), none⟩,
  ⟨(some 2), .mv (.tmp 24), none⟩])
 (.ret)))))
def r_math_bits_Len64 : List ARes := [.tmp 2]
theorem ok_math_bits_Len64 : FnOk Try.prog 116 25 c_math_bits_Len64 r_math_bits_Len64 := ⟨⟨Try.f116, _, Try.func116, by kernel_rfl, rfl, rfl, by kernel_rfl, by kernel_rfl⟩⟩
def c_slices_Backward : ACode := .seq (.reg [⟨(some 1), .box 22 (.tmp 0), none⟩,
  ⟨(some 2), .mv (.const .nilFunc), none⟩])
 (.seq (.reg [⟨(some 3), .mkf 131 [] [(.tmp 1)], none⟩,
  ⟨(some 2), .mv (.tmp 3), none⟩])
 (.ret))
def r_slices_Backward : List ARes := [.tmp 2]
theorem ok_slices_Backward : FnOk Try.prog 118 4 c_slices_Backward r_slices_Backward := ⟨⟨Try.f118, _, Try.func118, by kernel_rfl, rfl, rfl, by kernel_rfl, by kernel_rfl⟩⟩
def c_math_bits_Mul : ACode := .seq (.reg [⟨(some 4), .mv (.const (.int .u64 0)), none⟩,
  ⟨(some 5), .mv (.const (.int .u64 0)), none⟩])
 (.seq (.cond (.const (.bool false)) (.seq (.reg [⟨(some 11), .mv (.tmp 0), none⟩,
  ⟨(some 12), .conv .u32 (.tmp 11), none⟩,
  ⟨(some 13), .mv (.tmp 1), none⟩,
  ⟨(some 14), .conv .u32 (.tmp 13), none⟩,
  ⟨(some 15), .call (.func 133) [(.tmp 12), (.tmp 14)], none⟩,
  ⟨(some 10), .mv (.tmp 15), none⟩,
  ⟨(some 16), .ext 0 (.tmp 10), none⟩,
  ⟨(some 17), .ext 1 (.tmp 10), none⟩,
  ⟨(some 6), .mv (.tmp 16), none⟩,
  ⟨(some 7), .mv (.tmp 17), none⟩])
 (.seq (.reg [⟨(some 18), .mv (.tmp 6), none⟩,
  ⟨(some 19), .conv .u64 (.tmp 18), none⟩,
  ⟨(some 20), .mv (.tmp 7), none⟩,
  ⟨(some 21), .conv .u64 (.tmp 20), none⟩,
  ⟨(some 4), .mv (.tmp 19), none⟩,
  ⟨(some 5), .mv (.tmp 21), none⟩])
 (.ret))) (.skip))
 (.seq (.reg [⟨(some 23), .mv (.tmp 0), none⟩,
  ⟨(some 24), .mv (.tmp 1), none⟩,
  ⟨(some 25), .call (.func 134) [(.tmp 23), (.tmp 24)], none⟩,
  ⟨(some 22), .mv (.tmp 25), none⟩,
  ⟨(some 26), .ext 0 (.tmp 22), none⟩,
  ⟨(some 27), .ext 1 (.tmp 22), none⟩,
  ⟨(some 8), .mv (.tmp 26), none⟩,
  ⟨(some 9), .mv (.tmp 27), none⟩])
 (.seq (.reg [⟨(some 28), .mv (.tmp 8), none⟩,
  ⟨(some 29), .mv (.tmp 9), none⟩,
  ⟨(some 4), .mv (.tmp 28), none⟩,
  ⟨(some 5), .mv (.tmp 29), none⟩])
 (.ret))))
def r_math_bits_Mul : List ARes := [.tmp 4, .tmp 5]
theorem ok_math_bits_Mul : FnOk Try.prog 120 30 c_math_bits_Mul r_math_bits_Mul := ⟨⟨Try.f120, _, Try.func120, by kernel_rfl, rfl, rfl, by kernel_rfl, by kernel_rfl⟩⟩
def c_cmp_Or : ACode := .seq (.reg [⟨(some 2), .mv (.const (.int .i64 0)), none⟩])
 (.seq (.reg [⟨(some 3), .mv (.const (.int .i64 0)), none⟩])
 (.seq (.seq (.reg [⟨(some 6), .mv (.tmp 0), none⟩,
  ⟨(some 7), .len (.tmp 6), none⟩,
  ⟨(some 8), .mv (.const (.int .i64 0)), none⟩])
 (.block 0 (.loop (.seq (.reg [⟨(some 9), .bin .lss (.tmp 8) (.tmp 7), none⟩])
 (.seq (.cond (.tmp 9) (.skip) (.exit 0))
 (.seq (.block 1 (.seq (.reg [⟨(some 10), .iad 1 (.tmp 6) (.tmp 8), none⟩,
  ⟨(some 11), .ld none (.tmp 10), none⟩,
  ⟨(some 5), .mv (.tmp 11), none⟩])
 (.seq (.reg [⟨(some 12), .mv (.tmp 5), none⟩,
  ⟨(some 13), .mv (.tmp 3), none⟩,
  ⟨(some 14), .bin .neq (.tmp 12) (.tmp 13), none⟩])
 (.cond (.tmp 14) (.seq (.reg [⟨(some 15), .mv (.tmp 5), none⟩,
  ⟨(some 2), .mv (.tmp 15), none⟩])
 (.ret)) (.skip)))))
 (.reg [⟨(some 16), .bin .add (.tmp 8) (.const (.int .i64 1)), none⟩,
  ⟨(some 8), .mv (.tmp 16), none⟩])))))))
 (.seq (.reg [⟨(some 17), .mv (.tmp 3), none⟩,
  ⟨(some 2), .mv (.tmp 17), none⟩])
 (.ret))))
def r_cmp_Or : List ARes := [.tmp 2]
theorem ok_cmp_Or : FnOk Try.prog 121 18 c_cmp_Or r_cmp_Or := ⟨⟨Try.f121, _, Try.func121, by kernel_rfl, rfl, rfl, by kernel_rfl, by kernel_rfl⟩⟩
def c_cmp_Compare : ACode := .seq (.reg [⟨(some 4), .mv (.const (.int .i64 0)), none⟩])
 (.seq (.reg [⟨(some 7), .mv (.tmp 0), none⟩,
  ⟨(some 8), .call (.func 130) [(.tmp 7)], none⟩,
  ⟨(some 5), .mv (.tmp 8), none⟩])
 (.seq (.reg [⟨(some 9), .mv (.tmp 1), none⟩,
  ⟨(some 10), .call (.func 130) [(.tmp 9)], none⟩,
  ⟨(some 6), .mv (.tmp 10), none⟩])
 (.seq (.seq (.reg [⟨(some 11), .mv (.tmp 5), none⟩])
 (.cond (.tmp 11) (.seq (.seq (.reg [⟨(some 12), .mv (.tmp 6), none⟩])
 (.cond (.tmp 12) (.seq (.reg [⟨(some 4), .mv (.const (.int .i64 0)), none⟩])
 (.ret)) (.skip)))
 (.seq (.reg [⟨(some 4), .mv (.const (.int .i64 (-1))), none⟩])
 (.ret))) (.skip)))
 (.seq (.seq (.reg [⟨(some 13), .mv (.tmp 6), none⟩])
 (.cond (.tmp 13) (.seq (.reg [⟨(some 4), .mv (.const (.int .i64 1)), none⟩])
 (.ret)) (.skip)))
 (.seq (.seq (.reg [⟨(some 14), .mv (.tmp 0), none⟩,
  ⟨(some 15), .mv (.tmp 1), none⟩,
  ⟨(some 16), .bin .lss (.tmp 14) (.tmp 15), none⟩])
 (.cond (.tmp 16) (.seq (.reg [⟨(some 4), .mv (.const (.int .i64 (-1))), none⟩])
 (.ret)) (.skip)))
 (.seq (.seq (.reg [⟨(some 17), .mv (.tmp 0), none⟩,
  ⟨(some 18), .mv (.tmp 1), none⟩,
  ⟨(some 19), .bin .gtr (.tmp 17) (.tmp 18), none⟩])
 (.cond (.tmp 19) (.seq (.reg [⟨(some 4), .mv (.const (.int .i64 1)), none⟩])
 (.ret)) (.skip)))
 (.seq (.reg [⟨(some 4), .mv (.const (.int .i64 0)), none⟩])
 (.ret))))))))
def r_cmp_Compare : List ARes := [.tmp 4]
theorem ok_cmp_Compare : FnOk Try.prog 122 20 c_cmp_Compare r_cmp_Compare := ⟨⟨Try.f122, _, Try.func122, by kernel_rfl, rfl, rfl, by kernel_rfl, by kernel_rfl⟩⟩
def c_slices_CompareFunc_periodSet : ACode := .seq (.reg [⟨(some 6), .mv (.const (.int .i64 0)), none⟩])
 (.seq (.seq (.reg [⟨(some 11), .mv (.tmp 0), none⟩,
  ⟨(some 12), .len (.tmp 11), none⟩,
  ⟨(some 13), .mv (.const (.int .i64 0)), none⟩])
 (.block 0 (.loop (.seq (.reg [⟨(some 14), .bin .lss (.tmp 13) (.tmp 12), none⟩])
 (.seq (.cond (.tmp 14) (.skip) (.exit 0))
 (.seq (.block 1 (.seq (.reg [⟨(some 15), .mv (.tmp 13), none⟩,
  ⟨(some 16), .iad 1 (.tmp 11) (.tmp 13), none⟩,
  ⟨(some 17), .ld none (.tmp 16), none⟩,
  ⟨(some 7), .mv (.tmp 15), none⟩,
  ⟨(some 8), .mv (.tmp 17), none⟩])
 (.seq (.seq (.reg [⟨(some 18), .mv (.tmp 7), none⟩,
  ⟨(some 19), .mv (.tmp 1), none⟩,
  ⟨(some 20), .len (.tmp 19), none⟩,
  ⟨(some 21), .bin .geq (.tmp 18) (.tmp 20), none⟩])
 (.cond (.tmp 21) (.seq (.reg [⟨(some 6), .mv (.const (.int .i64 1)), none⟩])
 (.ret)) (.skip)))
 (.seq (.reg [⟨(some 22), .mv (.tmp 1), none⟩,
  ⟨(some 23), .mv (.tmp 7), none⟩,
  ⟨(some 24), .iad 1 (.tmp 22) (.tmp 23), none⟩,
  ⟨(some 25), .ld none (.tmp 24), none⟩,
  ⟨(some 9), .mv (.tmp 25), none⟩])
 (.seq (.reg [⟨(some 26), .mv (.tmp 2), none⟩,
  ⟨(some 27), .mv (.tmp 8), none⟩,
  ⟨(some 28), .mv (.tmp 9), none⟩,
  ⟨(some 29), .call (.tmp 26) [(.tmp 27), (.tmp 28)], none⟩,
  ⟨(some 10), .mv (.tmp 29), none⟩])
 (.seq (.reg [⟨(some 30), .mv (.tmp 10), none⟩,
  ⟨(some 31), .bin .neq (.tmp 30) (.const (.int .i64 0)), none⟩])
 (.cond (.tmp 31) (.seq (.reg [⟨(some 32), .mv (.tmp 10), none⟩,
  ⟨(some 6), .mv (.tmp 32), none⟩])
 (.ret)) (.skip))))))))
 (.reg [⟨(some 33), .bin .add (.tmp 13) (.const (.int .i64 1)), none⟩,
  ⟨(some 13), .mv (.tmp 33), none⟩])))))))
 (.seq (.seq (.reg [⟨(some 34), .mv (.tmp 0), none⟩,
  ⟨(some 35), .len (.tmp 34), none⟩,
  ⟨(some 36), .mv (.tmp 1), none⟩,
  ⟨(some 37), .len (.tmp 36), none⟩,
  ⟨(some 38), .bin .lss (.tmp 35) (.tmp 37), none⟩])
 (.cond (.tmp 38) (.seq (.reg [⟨(some 6), .mv (.const (.int .i64 (-1))), none⟩])
 (.ret)) (.skip)))
 (.seq (.reg [⟨(some 6), .mv (.const (.int .i64 0)), none⟩])
 (.ret))))
def r_slices_CompareFunc_periodSet : List ARes := [.tmp 6]
theorem ok_slices_CompareFunc_periodSet : FnOk Try.prog 124 39 c_slices_CompareFunc_periodSet r_slices_CompareFunc_periodSet := ⟨⟨Try.f124, _, Try.func124, by kernel_rfl, rfl, rfl, by kernel_rfl, by kernel_rfl⟩⟩
def c_slices_Compare : ACode := .seq (.reg [⟨(some 4), .mv (.const (.int .i64 0)), none⟩])
 (.seq (.seq (.reg [⟨(some 9), .mv (.tmp 0), none⟩,
  ⟨(some 10), .len (.tmp 9), none⟩,
  ⟨(some 11), .mv (.const (.int .i64 0)), none⟩])
 (.block 0 (.loop (.seq (.reg [⟨(some 12), .bin .lss (.tmp 11) (.tmp 10), none⟩])
 (.seq (.cond (.tmp 12) (.skip) (.exit 0))
 (.seq (.block 1 (.seq (.reg [⟨(some 13), .mv (.tmp 11), none⟩,
  ⟨(some 14), .iad 1 (.tmp 9) (.tmp 11), none⟩,
  ⟨(some 15), .ld none (.tmp 14), none⟩,
  ⟨(some 5), .mv (.tmp 13), none⟩,
  ⟨(some 6), .mv (.tmp 15), none⟩])
 (.seq (.seq (.reg [⟨(some 16), .mv (.tmp 5), none⟩,
  ⟨(some 17), .mv (.tmp 1), none⟩,
  ⟨(some 18), .len (.tmp 17), none⟩,
  ⟨(some 19), .bin .geq (.tmp 16) (.tmp 18), none⟩])
 (.cond (.tmp 19) (.seq (.reg [⟨(some 4), .mv (.const (.int .i64 1)), none⟩])
 (.ret)) (.skip)))
 (.seq (.reg [⟨(some 20), .mv (.tmp 1), none⟩,
  ⟨(some 21), .mv (.tmp 5), none⟩,
  ⟨(some 22), .iad 1 (.tmp 20) (.tmp 21), none⟩,
  ⟨(some 23), .ld none (.tmp 22), none⟩,
  ⟨(some 7), .mv (.tmp 23), none⟩])
 (.seq (.reg [⟨(some 24), .mv (.tmp 6), none⟩,
  ⟨(some 25), .mv (.tmp 7), none⟩,
  ⟨(some 26), .call (.func 122) [(.tmp 24), (.tmp 25)], none⟩,
  ⟨(some 8), .mv (.tmp 26), none⟩])
 (.seq (.reg [⟨(some 27), .mv (.tmp 8), none⟩,
  ⟨(some 28), .bin .neq (.tmp 27) (.const (.int .i64 0)), none⟩])
 (.cond (.tmp 28) (.seq (.reg [⟨(some 29), .mv (.tmp 8), none⟩,
  ⟨(some 4), .mv (.tmp 29), none⟩])
 (.ret)) (.skip))))))))
 (.reg [⟨(some 30), .bin .add (.tmp 11) (.const (.int .i64 1)), none⟩,
  ⟨(some 11), .mv (.tmp 30), none⟩])))))))
 (.seq (.seq (.reg [⟨(some 31), .mv (.tmp 0), none⟩,
  ⟨(some 32), .len (.tmp 31), none⟩,
  ⟨(some 33), .mv (.tmp 1), none⟩,
  ⟨(some 34), .len (.tmp 33), none⟩,
  ⟨(some 35), .bin .lss (.tmp 32) (.tmp 34), none⟩])
 (.cond (.tmp 35) (.seq (.reg [⟨(some 4), .mv (.const (.int .i64 (-1))), none⟩])
 (.ret)) (.skip)))
 (.seq (.reg [⟨(some 4), .mv (.const (.int .i64 0)), none⟩])
 (.ret))))
def r_slices_Compare : List ARes := [.tmp 4]
theorem ok_slices_Compare : FnOk Try.prog 126 36 c_slices_Compare r_slices_Compare := ⟨⟨Try.f126, _, Try.func126, by kernel_rfl, rfl, rfl, by kernel_rfl, by kernel_rfl⟩⟩
def c_spec_l1Rising : ACode := .seq (.reg [⟨(some 6), .mv (.const (.bool false)), none⟩])
 (.seq (.seq (.reg [⟨(some 7), .mv (.const (.int .i64 0)), none⟩])
 (.block 0 (.loop (.seq (.seq (.reg [⟨(some 8), .mv (.tmp 7), none⟩,
  ⟨(some 9), .mv (.tmp 0), none⟩,
  ⟨(some 10), .len (.tmp 9), none⟩,
  ⟨(some 11), .bin .lss (.tmp 8) (.tmp 10), none⟩])
 (.cond (.tmp 11) (.skip) (.exit 0)))
 (.seq (.block 1 (.seq (.reg [⟨(some 14), .mv (.tmp 0), none⟩,
  ⟨(some 15), .mv (.tmp 7), none⟩,
  ⟨(some 16), .iad 1 (.tmp 14) (.tmp 15), none⟩,
  ⟨(some 17), .ld none (.tmp 16), none⟩,
  ⟨(some 18), .mv (.tmp 1), none⟩,
  ⟨(some 19), .mv (.tmp 2), none⟩,
  ⟨(some 20), .rcall (.func 47) [(.tmp 17), (.tmp 18), (.tmp 19)], none⟩,
  ⟨(some 21), .un .not (.tmp 20), none⟩,
  ⟨(some 22), .mv (.tmp 21), none⟩,
  ⟨(some 23), .mv (.tmp 7), (some (22, false))⟩,
  ⟨(some 24), .bin .gtr (.tmp 23) (.const (.int .i64 0)), (some (22, false))⟩,
  ⟨(some 25), .mv (.tmp 24), (some (22, false))⟩,
  ⟨(some 26), .mv (.tmp 0), (some (25, true))⟩,
  ⟨(some 27), .mv (.tmp 7), (some (25, true))⟩,
  ⟨(some 28), .bin .sub (.tmp 27) (.const (.int .i64 1)), (some (25, true))⟩,
  ⟨(some 29), .iad 1 (.tmp 26) (.tmp 28), (some (25, true))⟩,
  ⟨(some 30), .ld none (.tmp 29), (some (25, true))⟩,
  ⟨(some 31), .mv (.tmp 0), (some (25, true))⟩,
  ⟨(some 32), .mv (.tmp 7), (some (25, true))⟩,
  ⟨(some 33), .iad 1 (.tmp 31) (.tmp 32), (some (25, true))⟩,
  ⟨(some 34), .ld none (.tmp 33), (some (25, true))⟩,
  ⟨(some 35), .bin .geq (.tmp 30) (.tmp 34), (some (25, true))⟩,
  ⟨(some 36), .pick (.tmp 25) (.tmp 35) (.const (.bool false)), (some (22, false))⟩,
  ⟨(some 37), .pick (.tmp 22) (.const (.bool true)) (.tmp 36), none⟩])
 (.cond (.tmp 37) (.seq (.reg [⟨(some 6), .mv (.const (.bool false)), none⟩])
 (.ret)) (.skip))))
 (.reg [⟨(some 12), .mv (.tmp 7), none⟩,
  ⟨(some 13), .bin .add (.tmp 12) (.const (.int .i64 1)), none⟩,
  ⟨(some 7), .mv (.tmp 13), none⟩]))))))
 (.seq (.reg [⟨(some 6), .mv (.const (.bool true)), none⟩])
 (.ret)))
def r_spec_l1Rising : List ARes := [.tmp 6]
theorem ok_spec_l1Rising : FnOk Try.prog 128 38 c_spec_l1Rising r_spec_l1Rising := ⟨⟨Try.f128, _, Try.func128, by kernel_rfl, rfl, rfl, by kernel_rfl, by kernel_rfl⟩⟩
def c_spec_l7Out : ACode := .seq (.reg [⟨(some 4), .box 50 (.tmp 0), none⟩,
  ⟨(some 8), .mv (.const (.int .i64 0)), none⟩])
 (.seq (.seq (.reg [⟨(some 9), .mv (.tmp 2), none⟩,
  ⟨(some 10), .bin .add (.tmp 9) (.const (.int .i64 1)), none⟩,
  ⟨(some 11), .mv (.tmp 1), none⟩,
  ⟨(some 12), .len (.tmp 11), none⟩,
  ⟨(some 13), .bin .lss (.tmp 10) (.tmp 12), none⟩])
 (.cond (.tmp 13) (.seq (.reg [⟨(some 14), .mv (.tmp 1), none⟩,
  ⟨(some 15), .mv (.tmp 2), none⟩,
  ⟨(some 16), .bin .add (.tmp 15) (.const (.int .i64 1)), none⟩,
  ⟨(some 17), .iad 1 (.tmp 14) (.tmp 16), none⟩,
  ⟨(some 18), .ld none (.tmp 17), none⟩,
  ⟨(some 19), .mv (.tmp 3), none⟩,
  ⟨(some 20), .iad 1 (.tmp 18) (.tmp 19), none⟩,
  ⟨(some 21), .ld none (.tmp 20), none⟩,
  ⟨(some 8), .mv (.tmp 21), none⟩])
 (.ret)) (.skip)))
 (.seq (.reg [⟨(some 22), .fad 0 (.tmp 4), none⟩,
  ⟨(some 23), .ld none (.tmp 22), none⟩,
  ⟨(some 24), .mv (.tmp 3), none⟩,
  ⟨(some 25), .iad 1 (.tmp 23) (.tmp 24), none⟩,
  ⟨(some 26), .ld none (.tmp 25), none⟩,
  ⟨(some 8), .mv (.tmp 26), none⟩])
 (.ret)))
def r_spec_l7Out : List ARes := [.tmp 8]
theorem ok_spec_l7Out : FnOk Try.prog 129 27 c_spec_l7Out r_spec_l7Out := ⟨⟨Try.f129, _, Try.func129, by kernel_rfl, rfl, rfl, by kernel_rfl, by kernel_rfl⟩⟩
def c_cmp_isNaN : ACode := .seq (.reg [⟨(some 2), .mv (.const (.bool false)), none⟩])
 (.seq (.reg [⟨(some 3), .mv (.tmp 0), none⟩,
  ⟨(some 4), .mv (.tmp 0), none⟩,
  ⟨(some 5), .bin .neq (.tmp 3) (.tmp 4), none⟩,
  ⟨(some 2), .mv (.tmp 5), none⟩])
 (.ret))
def r_cmp_isNaN : List ARes := [.tmp 2]
theorem ok_cmp_isNaN : FnOk Try.prog 130 6 c_cmp_isNaN r_cmp_isNaN := ⟨⟨Try.f130, _, Try.func130, by kernel_rfl, rfl, rfl, by kernel_rfl, by kernel_rfl⟩⟩
def c_slices_Backward_1 : ACode := .seq (.reg [⟨(some 4), .ld none (.tmp 1), none⟩,
  ⟨(some 5), .len (.tmp 4), none⟩,
  ⟨(some 6), .bin .sub (.tmp 5) (.const (.int .i64 1)), none⟩,
  ⟨(some 3), .mv (.tmp 6), none⟩])
 (.block 0 (.loop (.seq (.seq (.reg [⟨(some 7), .mv (.tmp 3), none⟩,
  ⟨(some 8), .bin .geq (.tmp 7) (.const (.int .i64 0)), none⟩])
 (.cond (.tmp 8) (.skip) (.exit 0)))
 (.seq (.block 1 (.seq (.reg [⟨(some 11), .mv (.tmp 0), none⟩,
  ⟨(some 12), .mv (.tmp 3), none⟩,
  ⟨(some 13), .ld none (.tmp 1), none⟩,
  ⟨(some 14), .mv (.tmp 3), none⟩,
  ⟨(some 15), .iad 1 (.tmp 13) (.tmp 14), none⟩,
  ⟨(some 16), .ld none (.tmp 15), none⟩,
  ⟨(some 17), .call (.tmp 11) [(.tmp 12), (.tmp 16)], none⟩,
  ⟨(some 18), .un .not (.tmp 17), none⟩])
 (.cond (.tmp 18) (.ret) (.skip))))
 (.reg [⟨(some 9), .mv (.tmp 3), none⟩,
  ⟨(some 10), .bin .sub (.tmp 9) (.const (.int .i64 1)), none⟩,
  ⟨(some 3), .mv (.tmp 10), none⟩])))))
def r_slices_Backward_1 : List ARes := []
theorem ok_slices_Backward_1 : FnOk Try.prog 131 19 c_slices_Backward_1 r_slices_Backward_1 := ⟨⟨Try.f131, _, Try.func131, by kernel_rfl, rfl, rfl, by kernel_rfl, by kernel_rfl⟩⟩
def c_math_bits_Mul32 : ACode := .seq (.reg [⟨(some 4), .mv (.const (.int .u32 0)), none⟩,
  ⟨(some 5), .mv (.const (.int .u32 0)), none⟩])
 (.seq (.reg [⟨(some 7), .mv (.tmp 0), none⟩,
  ⟨(some 8), .conv .u64 (.tmp 7), none⟩,
  ⟨(some 9), .mv (.tmp 1), none⟩,
  ⟨(some 10), .conv .u64 (.tmp 9), none⟩,
  ⟨(some 11), .bin .mul (.tmp 8) (.tmp 10), none⟩,
  ⟨(some 6), .mv (.tmp 11), none⟩])
 (.seq (.reg [⟨(some 12), .mv (.tmp 6), none⟩,
  ⟨(some 13), .bin .shr (.tmp 12) (.const (.int .u64 32)), none⟩,
  ⟨(some 14), .conv .u32 (.tmp 13), none⟩,
  ⟨(some 15), .mv (.tmp 6), none⟩,
  ⟨(some 16), .conv .u32 (.tmp 15), none⟩,
  ⟨(some 4), .mv (.tmp 14), none⟩,
  ⟨(some 5), .mv (.tmp 16), none⟩])
 (.ret)))
def r_math_bits_Mul32 : List ARes := [.tmp 4, .tmp 5]
theorem ok_math_bits_Mul32 : FnOk Try.prog 133 17 c_math_bits_Mul32 r_math_bits_Mul32 := ⟨⟨Try.f133, _, Try.func133, by kernel_rfl, rfl, rfl, by kernel_rfl, by kernel_rfl⟩⟩
def c_math_bits_Mul64 : ACode := .seq (.reg [⟨(some 4), .mv (.const (.int .u64 0)), none⟩,
  ⟨(some 5), .mv (.const (.int .u64 0)), none⟩])
 (.seq (.reg [⟨(some 14), .mv (.tmp 0), none⟩,
  ⟨(some 15), .bin .and (.tmp 14) (.const (.int .u64 4294967295)), none⟩,
  ⟨(some 6), .mv (.tmp 15), none⟩])
 (.seq (.reg [⟨(some 16), .mv (.tmp 0), none⟩,
  ⟨(some 17), .bin .shr (.tmp 16) (.const (.int .u64 32)), none⟩,
  ⟨(some 7), .mv (.tmp 17), none⟩])
 (.seq (.reg [⟨(some 18), .mv (.tmp 1), none⟩,
  ⟨(some 19), .bin .and (.tmp 18) (.const (.int .u64 4294967295)), none⟩,
  ⟨(some 8), .mv (.tmp 19), none⟩])
 (.seq (.reg [⟨(some 20), .mv (.tmp 1), none⟩,
  ⟨(some 21), .bin .shr (.tmp 20) (.const (.int .u64 32)), none⟩,
  ⟨(some 9), .mv (.tmp 21), none⟩])
 (.seq (.reg [⟨(some 22), .mv (.tmp 6), none⟩,
  ⟨(some 23), .mv (.tmp 8), none⟩,
  ⟨(some 24), .bin .mul (.tmp 22) (.tmp 23), none⟩,
  ⟨(some 10), .mv (.tmp 24), none⟩])
 (.seq (.reg [⟨(some 25), .mv (.tmp 7), none⟩,
  ⟨(some 26), .mv (.tmp 8), none⟩,
  ⟨(some 27), .bin .mul (.tmp 25) (.tmp 26), none⟩,
  ⟨(some 28), .mv (.tmp 10), none⟩,
  ⟨(some 29), .bin .shr (.tmp 28) (.const (.int .u64 32)), none⟩,
  ⟨(some 30), .bin .add (.tmp 27) (.tmp 29), none⟩,
  ⟨(some 11), .mv (.tmp 30), none⟩])
 (.seq (.reg [⟨(some 31), .mv (.tmp 11), none⟩,
  ⟨(some 32), .bin .and (.tmp 31) (.const (.int .u64 4294967295)), none⟩,
  ⟨(some 12), .mv (.tmp 32), none⟩])
 (.seq (.reg [⟨(some 33), .mv (.tmp 11), none⟩,
  ⟨(some 34), .bin .shr (.tmp 33) (.const (.int .u64 32)), none⟩,
  ⟨(some 13), .mv (.tmp 34), none⟩])
 (.seq (.reg [⟨(some 35), .mv (.tmp 12), none⟩,
  ⟨(some 36), .mv (.tmp 6), none⟩,
  ⟨(some 37), .mv (.tmp 9), none⟩,
  ⟨(some 38), .bin .mul (.tmp 36) (.tmp 37), none⟩,
  ⟨(some 39), .bin .add (.tmp 35) (.tmp 38), none⟩,
  ⟨(some 12), .mv (.tmp 39), none⟩])
 (.seq (.reg [⟨(some 40), .mv (.tmp 7), none⟩,
  ⟨(some 41), .mv (.tmp 9), none⟩,
  ⟨(some 42), .bin .mul (.tmp 40) (.tmp 41), none⟩,
  ⟨(some 43), .mv (.tmp 13), none⟩,
  ⟨(some 44), .bin .add (.tmp 42) (.tmp 43), none⟩,
  ⟨(some 45), .mv (.tmp 12), none⟩,
  ⟨(some 46), .bin .shr (.tmp 45) (.const (.int .u64 32)), none⟩,
  ⟨(some 47), .bin .add (.tmp 44) (.tmp 46), none⟩,
  ⟨(some 4), .mv (.tmp 47), none⟩])
 (.seq (.reg [⟨(some 48), .mv (.tmp 0), none⟩,
  ⟨(some 49), .mv (.tmp 1), none⟩,
  ⟨(some 50), .bin .mul (.tmp 48) (.tmp 49), none⟩,
  ⟨(some 5), .mv (.tmp 50), none⟩])
 (.ret))))))))))))
def r_math_bits_Mul64 : List ARes := [.tmp 4, .tmp 5]
theorem ok_math_bits_Mul64 : FnOk Try.prog 134 51 c_math_bits_Mul64 r_math_bits_Mul64 := ⟨⟨Try.f134, _, Try.func134, by kernel_rfl, rfl, rfl, by kernel_rfl, by kernel_rfl⟩⟩
def c_math_bits_OnesCount : ACode := .seq (.reg [⟨(some 2), .mv (.const (.int .i64 0)), none⟩])
 (.seq (.cond (.const (.bool false)) (.seq (.reg [⟨(some 3), .mv (.tmp 0), none⟩,
  ⟨(some 4), .conv .u32 (.tmp 3), none⟩,
  ⟨(some 5), .call (.func 137) [(.tmp 4)], none⟩,
  ⟨(some 2), .mv (.tmp 5), none⟩])
 (.ret)) (.skip))
 (.seq (.reg [⟨(some 6), .mv (.tmp 0), none⟩,
  ⟨(some 7), .call (.func 138) [(.tmp 6)], none⟩,
  ⟨(some 2), .mv (.tmp 7), none⟩])
 (.ret)))
def r_math_bits_OnesCount : List ARes := [.tmp 2]
theorem ok_math_bits_OnesCount : FnOk Try.prog 135 8 c_math_bits_OnesCount r_math_bits_OnesCount := ⟨⟨Try.f135, _, Try.func135, by kernel_rfl, rfl, rfl, by kernel_rfl, by kernel_rfl⟩⟩
def c_math_bits_OnesCount32 : ACode := .seq (.reg [⟨(some 2), .mv (.const (.int .i64 0)), none⟩])
 (.seq (.reg [⟨(some 3), .mv (.tmp 0), none⟩,
  ⟨(some 4), .bin .shr (.tmp 3) (.const (.int .u64 24)), none⟩,
  ⟨(some 5), .idxs (.const (.string ⟨#[0, 1, 1, 2, 1, 2, 2, 3, 1, 2, 2, 3, 2, 3, 3, 4, 1, 2, 2, 3, 2, 3, 3, 4, 2, 3, 3, 4, 3, 4, 4, 5, 1, 2, 2, 3, 2, 3, 3, 4, 2, 3, 3, 4, 3, 4, 4, 5, 2, 3, 3, 4, 3, 4, 4, 5, 3, 4, 4, 5, 4, 5, 5, 6, 1, 2, 2, 3, 2, 3, 3, 4, 2, 3, 3, 4, 3, 4, 4, 5, 2, 3, 3, 4, 3, 4, 4, 5, 3, 4, 4, 5, 4, 5, 5, 6, 2, 3, 3, 4, 3, 4, 4, 5, 3, 4, 4, 5, 4, 5, 5, 6, 3, 4, 4, 5, 4, 5, 5, 6, 4, 5, 5, 6, 5, 6, 6, 7, 1, 2, 2, 3, 2, 3, 3, 4, 2, 3, 3, 4, 3, 4, 4, 5, 2, 3, 3, 4, 3, 4, 4, 5, 3, 4, 4, 5, 4, 5, 5, 6, 2, 3, 3, 4, 3, 4, 4, 5, 3, 4, 4, 5, 4, 5, 5, 6, 3, 4, 4, 5, 4, 5, 5, 6, 4, 5, 5, 6, 5, 6, 6, 7, 2, 3, 3, 4, 3, 4, 4, 5, 3, 4, 4, 5, 4, 5, 5, 6, 3, 4, 4, 5, 4, 5, 5, 6, 4, 5, 5, 6, 5, 6, 6, 7, 3, 4, 4, 5, 4, 5, 5, 6, 4, 5, 5, 6, 5, 6, 6, 7, 4, 5, 5, 6, 5, 6, 6, 7, 5, 6, 6, 7, 6, 7, 7, 8]⟩)) (.tmp 4), none⟩,
  ⟨(some 6), .mv (.tmp 0), none⟩,
  ⟨(some 7), .bin .shr (.tmp 6) (.const (.int .u64 16)), none⟩,
  ⟨(some 8), .bin .and (.tmp 7) (.const (.int .u32 255)), none⟩,
  ⟨(some 9), .idxs (.const (.string ⟨#[0, 1, 1, 2, 1, 2, 2, 3, 1, 2, 2, 3, 2, 3, 3, 4, 1, 2, 2, 3, 2, 3, 3, 4, 2, 3, 3, 4, 3, 4, 4, 5, 1, 2, 2, 3, 2, 3, 3, 4, 2, 3, 3, 4, 3, 4, 4, 5, 2, 3, 3, 4, 3, 4, 4, 5, 3, 4, 4, 5, 4, 5, 5, 6, 1, 2, 2, 3, 2, 3, 3, 4, 2, 3, 3, 4, 3, 4, 4, 5, 2, 3, 3, 4, 3, 4, 4, 5, 3, 4, 4, 5, 4, 5, 5, 6, 2, 3, 3, 4, 3, 4, 4, 5, 3, 4, 4, 5, 4, 5, 5, 6, 3, 4, 4, 5, 4, 5, 5, 6, 4, 5, 5, 6, 5, 6, 6, 7, 1, 2, 2, 3, 2, 3, 3, 4, 2, 3, 3, 4, 3, 4, 4, 5, 2, 3, 3, 4, 3, 4, 4, 5, 3, 4, 4, 5, 4, 5, 5, 6, 2, 3, 3, 4, 3, 4, 4, 5, 3, 4, 4, 5, 4, 5, 5, 6, 3, 4, 4, 5, 4, 5, 5, 6, 4, 5, 5, 6, 5, 6, 6, 7, 2, 3, 3, 4, 3, 4, 4, 5, 3, 4, 4, 5, 4, 5, 5, 6, 3, 4, 4, 5, 4, 5, 5, 6, 4, 5, 5, 6, 5, 6, 6, 7, 3, 4, 4, 5, 4, 5, 5, 6, 4, 5, 5, 6, 5, 6, 6, 7, 4, 5, 5, 6, 5, 6, 6, 7, 5, 6, 6, 7, 6, 7, 7, 8]⟩)) (.tmp 8), none⟩,
  ⟨(some 10), .bin .add (.tmp 5) (.tmp 9), none⟩,
  ⟨(some 11), .mv (.tmp 0), none⟩,
  ⟨(some 12), .bin .shr (.tmp 11) (.const (.int .u64 8)), none⟩,
  ⟨(some 13), .bin .and (.tmp 12) (.const (.int .u32 255)), none⟩,
  ⟨(some 14), .idxs (.const (.string ⟨#[0, 1, 1, 2, 1, 2, 2, 3, 1, 2, 2, 3, 2, 3, 3, 4, 1, 2, 2, 3, 2, 3, 3, 4, 2, 3, 3, 4, 3, 4, 4, 5, 1, 2, 2, 3, 2, 3, 3, 4, 2, 3, 3, 4, 3, 4, 4, 5, 2, 3, 3, 4, 3, 4, 4, 5, 3, 4, 4, 5, 4, 5, 5, 6, 1, 2, 2, 3, 2, 3, 3, 4, 2, 3, 3, 4, 3, 4, 4, 5, 2, 3, 3, 4, 3, 4, 4, 5, 3, 4, 4, 5, 4, 5, 5, 6, 2, 3, 3, 4, 3, 4, 4, 5, 3, 4, 4, 5, 4, 5, 5, 6, 3, 4, 4, 5, 4, 5, 5, 6, 4, 5, 5, 6, 5, 6, 6, 7, 1, 2, 2, 3, 2, 3, 3, 4, 2, 3, 3, 4, 3, 4, 4, 5, 2, 3, 3, 4, 3, 4, 4, 5, 3, 4, 4, 5, 4, 5, 5, 6, 2, 3, 3, 4, 3, 4, 4, 5, 3, 4, 4, 5, 4, 5, 5, 6, 3, 4, 4, 5, 4, 5, 5, 6, 4, 5, 5, 6, 5, 6, 6, 7, 2, 3, 3, 4, 3, 4, 4, 5, 3, 4, 4, 5, 4, 5, 5, 6, 3, 4, 4, 5, 4, 5, 5, 6, 4, 5, 5, 6, 5, 6, 6, 7, 3, 4, 4, 5, 4, 5, 5, 6, 4, 5, 5, 6, 5, 6, 6, 7, 4, 5, 5, 6, 5, 6, 6, 7, 5, 6, 6, 7, 6, 7, 7, 8]⟩)) (.tmp 13), none⟩,
  ⟨(some 15), .bin .add (.tmp 10) (.tmp 14), none⟩,
  ⟨(some 16), .mv (.tmp 0), none⟩,
  ⟨(some 17), .bin .and (.tmp 16) (.const (.int .u32 255)), none⟩,
  ⟨(some 18), .idxs (.const (.string ⟨#[0, 1, 1, 2, 1, 2, 2, 3, 1, 2, 2, 3, 2, 3, 3, 4, 1, 2, 2, 3, 2, 3, 3, 4, 2, 3, 3, 4, 3, 4, 4, 5, 1, 2, 2, 3, 2, 3, 3, 4, 2, 3, 3, 4, 3, 4, 4, 5, 2, 3, 3, 4, 3, 4, 4, 5, 3, 4, 4, 5, 4, 5, 5, 6, 1, 2, 2, 3, 2, 3, 3, 4, 2, 3, 3, 4, 3, 4, 4, 5, 2, 3, 3, 4, 3, 4, 4, 5, 3, 4, 4, 5, 4, 5, 5, 6, 2, 3, 3, 4, 3, 4, 4, 5, 3, 4, 4, 5, 4, 5, 5, 6, 3, 4, 4, 5, 4, 5, 5, 6, 4, 5, 5, 6, 5, 6, 6, 7, 1, 2, 2, 3, 2, 3, 3, 4, 2, 3, 3, 4, 3, 4, 4, 5, 2, 3, 3, 4, 3, 4, 4, 5, 3, 4, 4, 5, 4, 5, 5, 6, 2, 3, 3, 4, 3, 4, 4, 5, 3, 4, 4, 5, 4, 5, 5, 6, 3, 4, 4, 5, 4, 5, 5, 6, 4, 5, 5, 6, 5, 6, 6, 7, 2, 3, 3, 4, 3, 4, 4, 5, 3, 4, 4, 5, 4, 5, 5, 6, 3, 4, 4, 5, 4, 5, 5, 6, 4, 5, 5, 6, 5, 6, 6, 7, 3, 4, 4, 5, 4, 5, 5, 6, 4, 5, 5, 6, 5, 6, 6, 7, 4, 5, 5, 6, 5, 6, 6, 7, 5, 6, 6, 7, 6, 7, 7, 8]⟩)) (.tmp 17), none⟩,
  ⟨(some 19), .bin .add (.tmp 15) (.tmp 18), none⟩,
  ⟨(some 20), .conv .i64 (.tmp 19), none⟩,
  ⟨(some 2), .mv (.tmp 20), none⟩])
 (.ret))
def r_math_bits_OnesCount32 : List ARes := [.tmp 2]
theorem ok_math_bits_OnesCount32 : FnOk Try.prog 137 21 c_math_bits_OnesCount32 r_math_bits_OnesCount32 := ⟨⟨Try.f137, _, Try.func137, by kernel_rfl, rfl, rfl, by kernel_rfl, by kernel_rfl⟩⟩
def c_math_bits_OnesCount64 : ACode := .seq (.reg [⟨(some 2), .mv (.const (.int .i64 0)), none⟩])
 (.seq (.reg [⟨(some 3), .mv (.tmp 0), none⟩,
  ⟨(some 4), .bin .shr (.tmp 3) (.const (.int .u64 1)), none⟩,
  ⟨(some 5), .bin .and (.tmp 4) (.const (.int .u64 6148914691236517205)), none⟩,
  ⟨(some 6), .mv (.tmp 0), none⟩,
  ⟨(some 7), .bin .and (.tmp 6) (.const (.int .u64 6148914691236517205)), none⟩,
  ⟨(some 8), .bin .add (.tmp 5) (.tmp 7), none⟩,
  ⟨(some 0), .mv (.tmp 8), none⟩])
 (.seq (.reg [⟨(some 9), .mv (.tmp 0), none⟩,
  ⟨(some 10), .bin .shr (.tmp 9) (.const (.int .u64 2)), none⟩,
  ⟨(some 11), .bin .and (.tmp 10) (.const (.int .u64 3689348814741910323)), none⟩,
  ⟨(some 12), .mv (.tmp 0), none⟩,
  ⟨(some 13), .bin .and (.tmp 12) (.const (.int .u64 3689348814741910323)), none⟩,
  ⟨(some 14), .bin .add (.tmp 11) (.tmp 13), none⟩,
  ⟨(some 0), .mv (.tmp 14), none⟩])
 (.seq (.reg [⟨(some 15), .mv (.tmp 0), none⟩,
  ⟨(some 16), .bin .shr (.tmp 15) (.const (.int .u64 4)), none⟩,
  ⟨(some 17), .mv (.tmp 0), none⟩,
  ⟨(some 18), .bin .add (.tmp 16) (.tmp 17), none⟩,
  ⟨(some 19), .bin .and (.tmp 18) (.const (.int .u64 1085102592571150095)), none⟩,
  ⟨(some 0), .mv (.tmp 19), none⟩])
 (.seq (.reg [⟨(some 20), .mv (.tmp 0), none⟩,
  ⟨(some 21), .mv (.tmp 0), none⟩,
  ⟨(some 22), .bin .shr (.tmp 21) (.const (.int .u64 8)), none⟩,
  ⟨(some 23), .bin .add (.tmp 20) (.tmp 22), none⟩,
  ⟨(some 0), .mv (.tmp 23), none⟩])
 (.seq (.reg [⟨(some 24), .mv (.tmp 0), none⟩,
  ⟨(some 25), .mv (.tmp 0), none⟩,
  ⟨(some 26), .bin .shr (.tmp 25) (.const (.int .u64 16)), none⟩,
  ⟨(some 27), .bin .add (.tmp 24) (.tmp 26), none⟩,
  ⟨(some 0), .mv (.tmp 27), none⟩])
 (.seq (.reg [⟨(some 28), .mv (.tmp 0), none⟩,
  ⟨(some 29), .mv (.tmp 0), none⟩,
  ⟨(some 30), .bin .shr (.tmp 29) (.const (.int .u64 32)), none⟩,
  ⟨(some 31), .bin .add (.tmp 28) (.tmp 30), none⟩,
  ⟨(some 0), .mv (.tmp 31), none⟩])
 (.seq (.reg [⟨(some 32), .mv (.tmp 0), none⟩,
  ⟨(some 33), .conv .i64 (.tmp 32), none⟩,
  ⟨(some 34), .bin .and (.tmp 33) (.const (.int .i64 127)), none⟩,
  ⟨(some 2), .mv (.tmp 34), none⟩])
 (.ret))))))))
def r_math_bits_OnesCount64 : List ARes := [.tmp 2]
theorem ok_math_bits_OnesCount64 : FnOk Try.prog 138 35 c_math_bits_OnesCount64 r_math_bits_OnesCount64 := ⟨⟨Try.f138, _, Try.func138, by kernel_rfl, rfl, rfl, by kernel_rfl, by kernel_rfl⟩⟩
end Go.Proofs.Ytghaogfhmbjlkaa.Ab
