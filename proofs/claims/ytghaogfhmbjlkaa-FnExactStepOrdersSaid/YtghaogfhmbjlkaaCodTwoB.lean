/- The compiled forms of functions, each checked against the translation. -/
import Derived.Test.YtghaogfhmbjlkaaAb2
import Derived.Test.YtghaogfhmbjlkaaProg
namespace Go.Proofs.Ytghaogfhmbjlkaa.Ab
open Go Go.RowKit Go.Proofs
set_option maxRecDepth 100000
def c_impl_BudgetOrders : ACode := .seq (.reg [⟨(some 8), .box 22 (.tmp 3), none⟩,
  ⟨(some 9), .box 3 (.tmp 4), none⟩,
  ⟨(some 10), .mv (.const (.slice none 0 0)), none⟩,
  ⟨(some 11), .mv (.const (.bool false)), none⟩])
 (.seq (.seq (.reg [⟨(some 19), .mv (.tmp 0), none⟩,
  ⟨(some 20), .mv (.tmp 1), none⟩,
  ⟨(some 21), .mv (.tmp 2), none⟩,
  ⟨(some 22), .call (.func 49) [(.tmp 19), (.tmp 20), (.tmp 21)], none⟩,
  ⟨(some 23), .un .not (.tmp 22), none⟩,
  ⟨(some 24), .mv (.tmp 23), none⟩,
  ⟨(some 25), .ld none (.tmp 8), (some (24, false))⟩,
  ⟨(some 26), .mv (.tmp 0), (some (24, false))⟩,
  ⟨(some 27), .len (.tmp 26), (some (24, false))⟩,
  ⟨(some 28), .call (.func 50) [(.tmp 25), (.tmp 27), (.const (.int .i64 20))], (some (24, false))⟩,
  ⟨(some 29), .un .not (.tmp 28), (some (24, false))⟩,
  ⟨(some 30), .pick (.tmp 24) (.const (.bool true)) (.tmp 29), none⟩,
  ⟨(some 31), .mv (.tmp 30), none⟩,
  ⟨(some 32), .ld none (.tmp 9), (some (31, false))⟩,
  ⟨(some 33), .call (.func 51) [(.tmp 32), (.const (.int .i64 60))], (some (31, false))⟩,
  ⟨(some 34), .un .not (.tmp 33), (some (31, false))⟩,
  ⟨(some 35), .pick (.tmp 31) (.const (.bool true)) (.tmp 34), none⟩])
 (.cond (.tmp 35) (.seq (.reg [⟨(some 36), .bsl 3 1 0 [] [], none⟩,
  ⟨(some 10), .mv (.tmp 36), none⟩,
  ⟨(some 11), .mv (.const (.bool false)), none⟩])
 (.ret)) (.skip)))
 (.seq (.reg [⟨(some 37), .bsl 22 1 0 [] [], none⟩,
  ⟨(some 12), .alc 33 [(.slice none 0 0)], none⟩,
  ⟨none, .st 1 (.tmp 12) (.tmp 37), none⟩])
 (.seq (.seq (.reg [⟨(some 38), .mv (.tmp 0), none⟩,
  ⟨(some 39), .len (.tmp 38), none⟩,
  ⟨(some 40), .mv (.const (.int .i64 0)), none⟩])
 (.block 0 (.loop (.seq (.reg [⟨(some 41), .bin .lss (.tmp 40) (.tmp 39), none⟩])
 (.seq (.cond (.tmp 41) (.skip) (.exit 0))
 (.seq (.block 1 (.seq (.reg [⟨(some 42), .iad 1 (.tmp 38) (.tmp 40), none⟩,
  ⟨(some 43), .ld none (.tmp 42), none⟩,
  ⟨(some 14), .mv (.tmp 43), none⟩])
 (.reg [⟨(some 44), .ld none (.tmp 12), none⟩,
  ⟨(some 45), .mv (.tmp 14), none⟩,
  ⟨(some 46), .mv (.tmp 1), none⟩,
  ⟨(some 47), .mv (.tmp 2), none⟩,
  ⟨(some 48), .rcall (.func 52) [(.tmp 45), (.tmp 46), (.tmp 47)], none⟩,
  ⟨(some 49), .bsl 22 1 1 [(.slice none 0 0)] [(0, 1, (.tmp 48))], none⟩,
  ⟨(some 50), .app 22 1 24 (.tmp 44) (.tmp 49), none⟩,
  ⟨none, .st 1 (.tmp 12) (.tmp 50), none⟩])))
 (.reg [⟨(some 51), .bin .add (.tmp 40) (.const (.int .i64 1)), none⟩,
  ⟨(some 40), .mv (.tmp 51), none⟩])))))))
 (.seq (.reg [⟨(some 52), .bld [(.int .i64 0), (.int .i64 0), (.int .i64 0)] [], none⟩,
  ⟨(some 15), .alc 71 [(.int .i64 0), (.int .i64 0), (.int .i64 0)], none⟩,
  ⟨none, .st 3 (.tmp 15) (.tmp 52), none⟩])
 (.seq (.reg [⟨(some 53), .ld none (.tmp 12), none⟩,
  ⟨(some 54), .ld (some 3) (.tmp 15), none⟩,
  ⟨(some 55), .call (.func 53) [(.tmp 53), (.tmp 54)], none⟩,
  ⟨(some 16), .alc 3 [(.int .i64 0)], none⟩,
  ⟨none, .st 1 (.tmp 16) (.tmp 55), none⟩])
 (.seq (.seq (.reg [⟨(some 56), .mv (.tmp 0), none⟩,
  ⟨(some 57), .len (.tmp 56), none⟩,
  ⟨(some 58), .call (.func 54) [(.tmp 57)], none⟩])
 (.block 2 (.range (.tmp 58) [59] (.reg [⟨(some 17), .alc 71 [(.int .i64 0), (.int .i64 0), (.int .i64 0)], none⟩,
  ⟨none, .st 3 (.tmp 17) (.tmp 59), none⟩]) (.block 3 (.seq (.reg [⟨(some 60), .ld none (.tmp 12), none⟩,
  ⟨(some 61), .ld (some 3) (.tmp 17), none⟩,
  ⟨(some 62), .call (.func 53) [(.tmp 60), (.tmp 61)], none⟩,
  ⟨(some 18), .mv (.tmp 62), none⟩])
 (.seq (.reg [⟨(some 63), .mv (.tmp 18), none⟩,
  ⟨(some 64), .ld none (.tmp 16), none⟩,
  ⟨(some 65), .bin .lss (.tmp 63) (.tmp 64), none⟩,
  ⟨(some 66), .mv (.tmp 65), none⟩,
  ⟨(some 67), .ld none (.tmp 8), (some (66, true))⟩,
  ⟨(some 68), .ld (some 3) (.tmp 17), (some (66, true))⟩,
  ⟨(some 70), .ld none (.tmp 9), (some (66, true))⟩,
  ⟨(some 69), .rcall (.func 55) [(.tmp 67), (.tmp 68)], (some (66, true))⟩,
  ⟨(some 71), .bin .leq (.tmp 69) (.tmp 70), (some (66, true))⟩,
  ⟨(some 72), .pick (.tmp 66) (.tmp 71) (.const (.bool false)), none⟩])
 (.cond (.tmp 72) (.reg [⟨(some 73), .ld (some 3) (.tmp 17), none⟩,
  ⟨(some 74), .mv (.tmp 18), none⟩,
  ⟨none, .st 3 (.tmp 15) (.tmp 73), none⟩,
  ⟨none, .st 1 (.tmp 16) (.tmp 74), none⟩]) (.skip))))))))
 (.seq (.reg [⟨(some 75), .ld (some 3) (.tmp 15), none⟩,
  ⟨(some 76), .mv (.tmp 0), none⟩,
  ⟨(some 77), .call (.func 56) [(.tmp 75), (.tmp 76)], none⟩,
  ⟨(some 10), .mv (.tmp 77), none⟩,
  ⟨(some 11), .mv (.const (.bool true)), none⟩])
 (.ret))))))))
def r_impl_BudgetOrders : List ARes := [.tmp 10, .tmp 11]
theorem ok_impl_BudgetOrders : FnOk Try.prog 20 78 c_impl_BudgetOrders r_impl_BudgetOrders := ⟨⟨Try.f20, _, Try.func20, by kernel_rfl, rfl, rfl, by kernel_rfl, by kernel_rfl⟩⟩
def c_impl_StepOrders : ACode := .seq (.reg [⟨(some 8), .mv (.const (.slice none 0 0)), none⟩,
  ⟨(some 9), .mv (.const (.bool false)), none⟩])
 (.seq (.seq (.reg [⟨(some 12), .mv (.tmp 0), none⟩,
  ⟨(some 13), .mv (.tmp 1), none⟩,
  ⟨(some 14), .mv (.tmp 2), none⟩,
  ⟨(some 15), .call (.func 49) [(.tmp 12), (.tmp 13), (.tmp 14)], none⟩,
  ⟨(some 16), .un .not (.tmp 15), none⟩,
  ⟨(some 17), .mv (.tmp 16), none⟩,
  ⟨(some 18), .mv (.tmp 3), (some (17, false))⟩,
  ⟨(some 19), .call (.func 51) [(.tmp 18), (.const (.int .i64 60))], (some (17, false))⟩,
  ⟨(some 20), .un .not (.tmp 19), (some (17, false))⟩,
  ⟨(some 21), .pick (.tmp 17) (.const (.bool true)) (.tmp 20), none⟩])
 (.cond (.tmp 21) (.seq (.reg [⟨(some 22), .bsl 3 1 0 [] [], none⟩,
  ⟨(some 8), .mv (.tmp 22), none⟩,
  ⟨(some 9), .mv (.const (.bool false)), none⟩])
 (.ret)) (.skip)))
 (.seq (.reg [⟨(some 23), .bld [(.int .i64 0), (.int .i64 0), (.int .i64 0)] [], none⟩,
  ⟨(some 10), .alc 71 [(.int .i64 0), (.int .i64 0), (.int .i64 0)], none⟩,
  ⟨none, .st 3 (.tmp 10) (.tmp 23), none⟩])
 (.seq (.seq (.reg [⟨(some 24), .mv (.tmp 3), none⟩,
  ⟨(some 25), .mv (.const (.int .i64 0)), none⟩])
 (.block 0 (.loop (.seq (.reg [⟨(some 26), .bin .lss (.tmp 25) (.tmp 24), none⟩])
 (.seq (.cond (.tmp 26) (.skip) (.exit 0))
 (.seq (.block 1 (.seq (.reg [⟨(some 27), .mv (.tmp 0), none⟩,
  ⟨(some 28), .mv (.tmp 1), none⟩,
  ⟨(some 29), .mv (.tmp 2), none⟩,
  ⟨(some 30), .ld (some 3) (.tmp 10), none⟩,
  ⟨(some 31), .call (.func 59) [(.tmp 27), (.tmp 28), (.tmp 29), (.tmp 30)], none⟩,
  ⟨(some 11), .alc 71 [(.int .i64 0), (.int .i64 0), (.int .i64 0)], none⟩,
  ⟨none, .st 3 (.tmp 11) (.tmp 31), none⟩])
 (.seq (.seq (.reg [⟨(some 32), .ld (some 3) (.tmp 11), none⟩,
  ⟨(some 33), .ld (some 3) (.tmp 10), none⟩,
  ⟨(some 34), .aeq false 3 (.tmp 32) (.tmp 33), none⟩])
 (.cond (.tmp 34) (.exit 0) (.skip)))
 (.reg [⟨(some 35), .ld (some 3) (.tmp 11), none⟩,
  ⟨none, .st 3 (.tmp 10) (.tmp 35), none⟩]))))
 (.reg [⟨(some 36), .bin .add (.tmp 25) (.const (.int .i64 1)), none⟩,
  ⟨(some 25), .mv (.tmp 36), none⟩])))))))
 (.seq (.reg [⟨(some 37), .ld (some 3) (.tmp 10), none⟩,
  ⟨(some 38), .mv (.tmp 0), none⟩,
  ⟨(some 39), .call (.func 56) [(.tmp 37), (.tmp 38)], none⟩,
  ⟨(some 8), .mv (.tmp 39), none⟩,
  ⟨(some 9), .mv (.const (.bool true)), none⟩])
 (.ret)))))
def r_impl_StepOrders : List ARes := [.tmp 8, .tmp 9]
theorem ok_impl_StepOrders : FnOk Try.prog 27 40 c_impl_StepOrders r_impl_StepOrders := ⟨⟨Try.f27, _, Try.func27, by kernel_rfl, rfl, rfl, by kernel_rfl, by kernel_rfl⟩⟩
def c_impl_BestNested : ACode := .seq (.reg [⟨(some 1), .box 50 (.tmp 0), none⟩,
  ⟨(some 2), .mv (.const (.slice none 0 0)), none⟩,
  ⟨(some 3), .mv (.const (.bool false)), none⟩])
 (.seq (.seq (.reg [⟨(some 7), .ld (some 3) (.tmp 1), none⟩,
  ⟨(some 8), .call (.func 62) [(.tmp 7)], none⟩,
  ⟨(some 9), .un .not (.tmp 8), none⟩])
 (.cond (.tmp 9) (.seq (.reg [⟨(some 10), .bsl 22 1 0 [] [], none⟩,
  ⟨(some 2), .mv (.tmp 10), none⟩,
  ⟨(some 3), .mv (.const (.bool false)), none⟩])
 (.ret)) (.skip)))
 (.seq (.reg [⟨(some 11), .bsl 22 1 0 [] [], none⟩,
  ⟨(some 4), .mv (.tmp 11), none⟩])
 (.seq (.seq (.reg [⟨(some 12), .ld (some 3) (.tmp 1), none⟩,
  ⟨(some 13), .call (.func 63) [(.tmp 12)], none⟩,
  ⟨(some 14), .fld 1 none (.tmp 13), none⟩,
  ⟨(some 15), .len (.tmp 14), none⟩,
  ⟨(some 16), .mv (.const (.int .i64 0)), none⟩])
 (.block 0 (.loop (.seq (.reg [⟨(some 17), .bin .lss (.tmp 16) (.tmp 15), none⟩])
 (.seq (.cond (.tmp 17) (.skip) (.exit 0))
 (.seq (.block 1 (.seq (.reg [⟨(some 18), .iad 1 (.tmp 14) (.tmp 16), none⟩,
  ⟨(some 19), .ld none (.tmp 18), none⟩,
  ⟨(some 6), .mv (.tmp 19), none⟩])
 (.reg [⟨(some 20), .mv (.tmp 4), none⟩,
  ⟨(some 21), .mv (.tmp 6), none⟩,
  ⟨(some 22), .call (.func 64) [(.tmp 21)], none⟩,
  ⟨(some 23), .bsl 22 1 1 [(.slice none 0 0)] [(0, 1, (.tmp 22))], none⟩,
  ⟨(some 24), .app 22 1 24 (.tmp 20) (.tmp 23), none⟩,
  ⟨(some 4), .mv (.tmp 24), none⟩])))
 (.reg [⟨(some 25), .bin .add (.tmp 16) (.const (.int .i64 1)), none⟩,
  ⟨(some 16), .mv (.tmp 25), none⟩])))))))
 (.seq (.reg [⟨(some 26), .mv (.tmp 4), none⟩,
  ⟨(some 2), .mv (.tmp 26), none⟩,
  ⟨(some 3), .mv (.const (.bool true)), none⟩])
 (.ret)))))
def r_impl_BestNested : List ARes := [.tmp 2, .tmp 3]
theorem ok_impl_BestNested : FnOk Try.prog 31 27 c_impl_BestNested r_impl_BestNested := ⟨⟨Try.f31, _, Try.func31, by kernel_rfl, rfl, rfl, by kernel_rfl, by kernel_rfl⟩⟩
def c_impl_BestChainCost : ACode := .seq (.reg [⟨(some 1), .box 50 (.tmp 0), none⟩,
  ⟨(some 2), .mv (.const (.int .i64 0)), none⟩,
  ⟨(some 3), .mv (.const (.bool false)), none⟩])
 (.seq (.seq (.reg [⟨(some 4), .ld (some 3) (.tmp 1), none⟩,
  ⟨(some 5), .call (.func 62) [(.tmp 4)], none⟩,
  ⟨(some 6), .un .not (.tmp 5), none⟩])
 (.cond (.tmp 6) (.seq (.reg [⟨(some 2), .mv (.const (.int .i64 0)), none⟩,
  ⟨(some 3), .mv (.const (.bool false)), none⟩])
 (.ret)) (.skip)))
 (.seq (.reg [⟨(some 7), .ld (some 3) (.tmp 1), none⟩,
  ⟨(some 8), .call (.func 63) [(.tmp 7)], none⟩,
  ⟨(some 9), .fld 0 none (.tmp 8), none⟩,
  ⟨(some 2), .mv (.tmp 9), none⟩,
  ⟨(some 3), .mv (.const (.bool true)), none⟩])
 (.ret)))
def r_impl_BestChainCost : List ARes := [.tmp 2, .tmp 3]
theorem ok_impl_BestChainCost : FnOk Try.prog 36 10 c_impl_BestChainCost r_impl_BestChainCost := ⟨⟨Try.f36, _, Try.func36, by kernel_rfl, rfl, rfl, by kernel_rfl, by kernel_rfl⟩⟩
def c_impl_BestAssembly : ACode := .seq (.reg [⟨(some 6), .mv (.const (.int .i64 0)), none⟩,
  ⟨(some 7), .mv (.const (.bool false)), none⟩])
 (.seq (.seq (.reg [⟨(some 11), .mv (.tmp 0), none⟩,
  ⟨(some 12), .mv (.tmp 1), none⟩,
  ⟨(some 13), .mv (.tmp 2), none⟩,
  ⟨(some 14), .rcall (.func 72) [(.tmp 11), (.tmp 12), (.tmp 13)], none⟩,
  ⟨(some 15), .un .not (.tmp 14), none⟩,
  ⟨(some 16), .mv (.tmp 15), none⟩,
  ⟨(some 17), .mv (.tmp 2), (some (16, false))⟩,
  ⟨(some 18), .iad 1 (.tmp 17) (.const (.int .i64 0)), (some (16, false))⟩,
  ⟨(some 19), .ld none (.tmp 18), (some (16, false))⟩,
  ⟨(some 20), .mv (.tmp 2), (some (16, false))⟩,
  ⟨(some 21), .slc 1 (.tmp 20) (some (.const (.int .i64 1))) none, (some (16, false))⟩,
  ⟨(some 22), .rcall (.func 73) [(.tmp 21)], (some (16, false))⟩,
  ⟨(some 23), .bin .lss (.tmp 19) (.tmp 22), (some (16, false))⟩,
  ⟨(some 24), .pick (.tmp 16) (.const (.bool true)) (.tmp 23), none⟩])
 (.cond (.tmp 24) (.seq (.reg [⟨(some 6), .mv (.const (.int .i64 0)), none⟩,
  ⟨(some 7), .mv (.const (.bool false)), none⟩])
 (.ret)) (.skip)))
 (.seq (.reg [⟨(some 25), .bsl 101 1 0 [] [], none⟩,
  ⟨(some 8), .mv (.tmp 25), none⟩])
 (.seq (.seq (.reg [⟨(some 9), .mv (.const (.int .i64 1)), none⟩])
 (.block 0 (.loop (.seq (.seq (.reg [⟨(some 26), .mv (.tmp 9), none⟩,
  ⟨(some 27), .mv (.tmp 1), none⟩,
  ⟨(some 28), .len (.tmp 27), none⟩,
  ⟨(some 29), .bin .lss (.tmp 26) (.tmp 28), none⟩])
 (.cond (.tmp 29) (.skip) (.exit 0)))
 (.seq (.block 1 (.reg [⟨(some 32), .mv (.tmp 8), none⟩,
  ⟨(some 33), .mv (.tmp 0), none⟩,
  ⟨(some 34), .mv (.tmp 1), none⟩,
  ⟨(some 35), .mv (.tmp 9), none⟩,
  ⟨(some 36), .iad 1 (.tmp 34) (.tmp 35), none⟩,
  ⟨(some 37), .ld none (.tmp 36), none⟩,
  ⟨(some 38), .mv (.tmp 2), none⟩,
  ⟨(some 39), .mv (.tmp 9), none⟩,
  ⟨(some 40), .iad 1 (.tmp 38) (.tmp 39), none⟩,
  ⟨(some 41), .ld none (.tmp 40), none⟩,
  ⟨(some 43), .bld [] [], none⟩,
  ⟨(some 44), .mif 107 (.tmp 43), none⟩,
  ⟨(some 42), .rcall (.func 75) [(.tmp 33), (.tmp 37), (.tmp 41)], none⟩,
  ⟨(some 45), .rcall (.func 74) [(.tmp 42), (.tmp 44)], none⟩,
  ⟨(some 46), .mif 103 (.tmp 45), none⟩,
  ⟨(some 47), .bsl 101 1 1 [.nilIface] [(0, 1, (.tmp 46))], none⟩,
  ⟨(some 48), .app 101 1 16 (.tmp 32) (.tmp 47), none⟩,
  ⟨(some 8), .mv (.tmp 48), none⟩]))
 (.reg [⟨(some 30), .mv (.tmp 9), none⟩,
  ⟨(some 31), .bin .add (.tmp 30) (.const (.int .i64 1)), none⟩,
  ⟨(some 9), .mv (.tmp 31), none⟩]))))))
 (.seq (.seq (.reg [⟨(some 49), .mv (.tmp 0), none⟩]) (.seq (.reg [⟨(some 50), .mv (.tmp 1), none⟩]) (.seq (.reg [⟨(some 51), .iad 1 (.tmp 50) (.const (.int .i64 0)), none⟩]) (.seq (.reg [⟨(some 52), .ld none (.tmp 51), none⟩]) (.seq (.reg [⟨(some 53), .mv (.tmp 2), none⟩]) (.seq (.reg [⟨(some 54), .iad 1 (.tmp 53) (.const (.int .i64 0)), none⟩]) (.seq (.reg [⟨(some 55), .ld none (.tmp 54), none⟩]) (.seq (.reg [⟨(some 56), .mv (.tmp 2), none⟩]) (.seq (.reg [⟨(some 57), .slc 1 (.tmp 56) (some (.const (.int .i64 1))) none, none⟩]) (.seq (.reg [⟨(some 61), .mv (.tmp 8), none⟩]) (.seq (.reg [⟨(some 62), .mif 98 (.tmp 61), none⟩]) (.both (.seq (.reg [⟨(some 58), .rcall (.func 73) [(.tmp 57)], none⟩]) (.seq (.reg [⟨(some 59), .bin .sub (.tmp 55) (.tmp 58), none⟩]) (.both (.seq (.reg [⟨(some 60), .rcall (.func 75) [(.tmp 49), (.tmp 52), (.tmp 59)], none⟩]) (.both (.seq (.reg [⟨(some 63), .rcall (.func 74) [(.tmp 60), (.tmp 62)], none⟩]) (.seq (.reg [⟨(some 10), .alc 103 [(.slice none 0 0), .nilIface], none⟩]) (.seq (.reg [⟨none, .st 2 (.tmp 10) (.tmp 63), none⟩]) (.skip)))) (.seq (.reg [⟨(some 10), .alc 103 [(.slice none 0 0), .nilIface], none⟩]) (.seq (.reg [⟨(some 63), .rcall (.func 74) [(.tmp 60), (.tmp 62)], none⟩]) (.seq (.reg [⟨none, .st 2 (.tmp 10) (.tmp 63), none⟩]) (.skip)))))) (.seq (.reg [⟨(some 10), .alc 103 [(.slice none 0 0), .nilIface], none⟩]) (.seq (.reg [⟨(some 60), .rcall (.func 75) [(.tmp 49), (.tmp 52), (.tmp 59)], none⟩]) (.seq (.reg [⟨(some 63), .rcall (.func 74) [(.tmp 60), (.tmp 62)], none⟩]) (.seq (.reg [⟨none, .st 2 (.tmp 10) (.tmp 63), none⟩]) (.skip)))))))) (.seq (.reg [⟨(some 10), .alc 103 [(.slice none 0 0), .nilIface], none⟩]) (.seq (.reg [⟨(some 58), .rcall (.func 73) [(.tmp 57)], none⟩]) (.seq (.reg [⟨(some 59), .bin .sub (.tmp 55) (.tmp 58), none⟩]) (.seq (.reg [⟨(some 60), .rcall (.func 75) [(.tmp 49), (.tmp 52), (.tmp 59)], none⟩]) (.seq (.reg [⟨(some 63), .rcall (.func 74) [(.tmp 60), (.tmp 62)], none⟩]) (.seq (.reg [⟨none, .st 2 (.tmp 10) (.tmp 63), none⟩]) (.skip)))))))))))))))))))
 (.seq (.reg [⟨(some 64), .ld (some 2) (.tmp 10), none⟩,
  ⟨(some 65), .mv (.tmp 0), none⟩,
  ⟨(some 66), .len (.tmp 65), none⟩,
  ⟨(some 67), .rcall (.func 77) [(.tmp 66)], none⟩,
  ⟨(some 68), .rcall (.func 76) [(.tmp 64), (.tmp 67)], none⟩,
  ⟨(some 69), .fld 0 none (.tmp 68), none⟩,
  ⟨(some 6), .mv (.tmp 69), none⟩,
  ⟨(some 7), .mv (.const (.bool true)), none⟩])
 (.ret))))))
def r_impl_BestAssembly : List ARes := [.tmp 6, .tmp 7]
theorem ok_impl_BestAssembly : FnOk Try.prog 38 70 c_impl_BestAssembly r_impl_BestAssembly := ⟨⟨Try.f38, _, Try.func38, by kernel_rfl, rfl, rfl, by kernel_rfl, by kernel_rfl⟩⟩
def c_impl_IsCase : ACode := .seq (.reg [⟨(some 1), .box 26 (.tmp 0), none⟩,
  ⟨(some 2), .mv (.const (.bool false)), none⟩])
 (.seq (.reg [⟨(some 4), .fad 0 (.tmp 1), none⟩,
  ⟨(some 5), .ld none (.tmp 4), none⟩,
  ⟨(some 6), .len (.tmp 5), none⟩,
  ⟨(some 3), .mv (.tmp 6), none⟩])
 (.seq (.reg [⟨(some 7), .mv (.tmp 3), none⟩,
  ⟨(some 8), .bin .leq (.tmp 7) (.const (.int .i64 8)), none⟩,
  ⟨(some 9), .mv (.tmp 8), none⟩,
  ⟨(some 10), .fad 0 (.tmp 1), (some (9, true))⟩,
  ⟨(some 11), .ld none (.tmp 10), (some (9, true))⟩,
  ⟨(some 12), .mv (.tmp 3), (some (9, true))⟩,
  ⟨(some 13), .call (.func 50) [(.tmp 11), (.tmp 12), (.const (.int .i64 20))], (some (9, true))⟩,
  ⟨(some 14), .pick (.tmp 9) (.tmp 13) (.const (.bool false)), none⟩,
  ⟨(some 15), .mv (.tmp 14), none⟩,
  ⟨(some 16), .fad 1 (.tmp 1), (some (15, true))⟩,
  ⟨(some 17), .ld none (.tmp 16), (some (15, true))⟩,
  ⟨(some 18), .mv (.tmp 3), (some (15, true))⟩,
  ⟨(some 19), .call (.func 50) [(.tmp 17), (.tmp 18), (.const (.int .i64 99))], (some (15, true))⟩,
  ⟨(some 20), .pick (.tmp 15) (.tmp 19) (.const (.bool false)), none⟩,
  ⟨(some 21), .mv (.tmp 20), none⟩,
  ⟨(some 22), .fad 2 (.tmp 1), (some (21, true))⟩,
  ⟨(some 23), .ld none (.tmp 22), (some (21, true))⟩,
  ⟨(some 24), .mv (.tmp 3), (some (21, true))⟩,
  ⟨(some 25), .call (.func 50) [(.tmp 23), (.tmp 24), (.const (.int .i64 9))], (some (21, true))⟩,
  ⟨(some 26), .pick (.tmp 21) (.tmp 25) (.const (.bool false)), none⟩,
  ⟨(some 27), .mv (.tmp 26), none⟩,
  ⟨(some 28), .fad 3 (.tmp 1), (some (27, true))⟩,
  ⟨(some 29), .ld none (.tmp 28), (some (27, true))⟩,
  ⟨(some 30), .mv (.tmp 3), (some (27, true))⟩,
  ⟨(some 31), .call (.func 50) [(.tmp 29), (.tmp 30), (.const (.int .i64 9))], (some (27, true))⟩,
  ⟨(some 32), .pick (.tmp 27) (.tmp 31) (.const (.bool false)), none⟩,
  ⟨(some 2), .mv (.tmp 32), none⟩])
 (.ret)))
def r_impl_IsCase : List ARes := [.tmp 2]
theorem ok_impl_IsCase : FnOk Try.prog 42 33 c_impl_IsCase r_impl_IsCase := ⟨⟨Try.f42, _, Try.func42, by kernel_rfl, rfl, rfl, by kernel_rfl, by kernel_rfl⟩⟩
def c_impl_areGoods : ACode := .seq (.reg [⟨(some 6), .mv (.const (.bool false)), none⟩])
 (.seq (.seq (.reg [⟨(some 9), .mv (.tmp 0), none⟩,
  ⟨(some 10), .len (.tmp 9), none⟩,
  ⟨(some 11), .bin .eql (.tmp 10) (.const (.int .i64 0)), none⟩,
  ⟨(some 12), .mv (.tmp 11), none⟩,
  ⟨(some 13), .mv (.tmp 0), (some (12, false))⟩,
  ⟨(some 14), .len (.tmp 13), (some (12, false))⟩,
  ⟨(some 15), .bin .gtr (.tmp 14) (.const (.int .i64 3)), (some (12, false))⟩,
  ⟨(some 16), .pick (.tmp 12) (.const (.bool true)) (.tmp 15), none⟩])
 (.cond (.tmp 16) (.seq (.reg [⟨(some 6), .mv (.const (.bool false)), none⟩])
 (.ret)) (.skip)))
 (.seq (.seq (.reg [⟨(some 17), .mv (.tmp 0), none⟩,
  ⟨(some 18), .len (.tmp 17), none⟩,
  ⟨(some 19), .mv (.const (.int .i64 0)), none⟩])
 (.block 0 (.loop (.seq (.reg [⟨(some 20), .bin .lss (.tmp 19) (.tmp 18), none⟩])
 (.seq (.cond (.tmp 20) (.skip) (.exit 0))
 (.seq (.block 1 (.seq (.reg [⟨(some 21), .iad 1 (.tmp 17) (.tmp 19), none⟩,
  ⟨(some 22), .ld none (.tmp 21), none⟩,
  ⟨(some 8), .mv (.tmp 22), none⟩])
 (.seq (.reg [⟨(some 23), .mv (.tmp 8), none⟩,
  ⟨(some 24), .mv (.tmp 1), none⟩,
  ⟨(some 25), .mv (.tmp 2), none⟩,
  ⟨(some 26), .rcall (.func 81) [(.tmp 23), (.tmp 24), (.tmp 25)], none⟩,
  ⟨(some 27), .un .not (.tmp 26), none⟩,
  ⟨(some 28), .mv (.tmp 27), none⟩,
  ⟨(some 29), .mv (.tmp 8), (some (28, false))⟩,
  ⟨(some 31), .mv (.tmp 0), (some (28, false))⟩,
  ⟨(some 32), .iad 1 (.tmp 31) (.const (.int .i64 0)), (some (28, false))⟩,
  ⟨(some 33), .ld none (.tmp 32), (some (28, false))⟩,
  ⟨(some 30), .rcall (.func 73) [(.tmp 29)], (some (28, false))⟩,
  ⟨(some 34), .rcall (.func 73) [(.tmp 33)], (some (28, false))⟩,
  ⟨(some 35), .bin .neq (.tmp 30) (.tmp 34), (some (28, false))⟩,
  ⟨(some 36), .pick (.tmp 28) (.const (.bool true)) (.tmp 35), none⟩])
 (.cond (.tmp 36) (.seq (.reg [⟨(some 6), .mv (.const (.bool false)), none⟩])
 (.ret)) (.skip)))))
 (.reg [⟨(some 37), .bin .add (.tmp 19) (.const (.int .i64 1)), none⟩,
  ⟨(some 19), .mv (.tmp 37), none⟩])))))))
 (.seq (.reg [⟨(some 6), .mv (.const (.bool true)), none⟩])
 (.ret))))
def r_impl_areGoods : List ARes := [.tmp 6]
theorem ok_impl_areGoods : FnOk Try.prog 49 38 c_impl_areGoods r_impl_areGoods := ⟨⟨Try.f49, _, Try.func49, by kernel_rfl, rfl, rfl, by kernel_rfl, by kernel_rfl⟩⟩
def c_impl_isRow : ACode := .seq (.reg [⟨(some 5), .box 3 (.tmp 2), none⟩,
  ⟨(some 6), .mv (.const (.bool false)), none⟩])
 (.seq (.reg [⟨(some 8), .mkf 82 [] [(.tmp 5)], none⟩,
  ⟨(some 7), .mv (.tmp 8), none⟩])
 (.seq (.reg [⟨(some 9), .mv (.tmp 0), none⟩,
  ⟨(some 10), .len (.tmp 9), none⟩,
  ⟨(some 11), .mv (.tmp 1), none⟩,
  ⟨(some 12), .bin .eql (.tmp 10) (.tmp 11), none⟩,
  ⟨(some 13), .mv (.tmp 12), none⟩,
  ⟨(some 14), .mv (.tmp 0), (some (13, true))⟩,
  ⟨(some 15), .mv (.tmp 7), (some (13, true))⟩,
  ⟨(some 16), .call (.func 83) [(.tmp 14), (.tmp 15)], (some (13, true))⟩,
  ⟨(some 17), .un .not (.tmp 16), (some (13, true))⟩,
  ⟨(some 18), .pick (.tmp 13) (.tmp 17) (.const (.bool false)), none⟩,
  ⟨(some 6), .mv (.tmp 18), none⟩])
 (.ret)))
def r_impl_isRow : List ARes := [.tmp 6]
theorem ok_impl_isRow : FnOk Try.prog 50 19 c_impl_isRow r_impl_isRow := ⟨⟨Try.f50, _, Try.func50, by kernel_rfl, rfl, rfl, by kernel_rfl, by kernel_rfl⟩⟩
def c_impl_isWithin : ACode := .seq (.reg [⟨(some 4), .mv (.const (.bool false)), none⟩])
 (.seq (.reg [⟨(some 5), .mv (.tmp 0), none⟩,
  ⟨(some 6), .bin .geq (.tmp 5) (.const (.int .i64 0)), none⟩,
  ⟨(some 7), .mv (.tmp 6), none⟩,
  ⟨(some 8), .mv (.tmp 0), (some (7, true))⟩,
  ⟨(some 9), .mv (.tmp 1), (some (7, true))⟩,
  ⟨(some 10), .bin .leq (.tmp 8) (.tmp 9), (some (7, true))⟩,
  ⟨(some 11), .pick (.tmp 7) (.tmp 10) (.const (.bool false)), none⟩,
  ⟨(some 4), .mv (.tmp 11), none⟩])
 (.ret))
def r_impl_isWithin : List ARes := [.tmp 4]
theorem ok_impl_isWithin : FnOk Try.prog 51 12 c_impl_isWithin r_impl_isWithin := ⟨⟨Try.f51, _, Try.func51, by kernel_rfl, rfl, rfl, by kernel_rfl, by kernel_rfl⟩⟩
def c_impl_costTable : ACode := .seq (.reg [⟨(some 6), .mv (.const (.slice none 0 0)), none⟩])
 (.seq (.reg [⟨(some 9), .bsl 3 1 0 [] [], none⟩,
  ⟨(some 7), .mv (.tmp 9), none⟩])
 (.seq (.seq (.reg [⟨(some 10), .mv (.const (.int .i64 0)), none⟩])
 (.block 0 (.loop (.seq (.reg [⟨(some 11), .bin .lss (.tmp 10) (.const (.int .i64 16)), none⟩])
 (.seq (.cond (.tmp 11) (.skip) (.exit 0))
 (.seq (.block 1 (.seq (.reg [⟨(some 12), .mv (.tmp 10), none⟩,
  ⟨(some 8), .mv (.tmp 12), none⟩])
 (.reg [⟨(some 13), .mv (.tmp 7), none⟩,
  ⟨(some 14), .mv (.tmp 0), none⟩,
  ⟨(some 15), .mv (.tmp 1), none⟩,
  ⟨(some 16), .mv (.tmp 2), none⟩,
  ⟨(some 17), .mv (.tmp 8), none⟩,
  ⟨(some 18), .call (.func 84) [(.tmp 14), (.tmp 15), (.tmp 16), (.tmp 17)], none⟩,
  ⟨(some 19), .bsl 3 1 1 [(.int .i64 0)] [(0, 1, (.tmp 18))], none⟩,
  ⟨(some 20), .app 3 1 8 (.tmp 13) (.tmp 19), none⟩,
  ⟨(some 7), .mv (.tmp 20), none⟩])))
 (.reg [⟨(some 21), .bin .add (.tmp 10) (.const (.int .i64 1)), none⟩,
  ⟨(some 10), .mv (.tmp 21), none⟩])))))))
 (.seq (.reg [⟨(some 22), .mv (.tmp 7), none⟩,
  ⟨(some 6), .mv (.tmp 22), none⟩])
 (.ret))))
def r_impl_costTable : List ARes := [.tmp 6]
theorem ok_impl_costTable : FnOk Try.prog 52 23 c_impl_costTable r_impl_costTable := ⟨⟨Try.f52, _, Try.func52, by kernel_rfl, rfl, rfl, by kernel_rfl, by kernel_rfl⟩⟩
def c_impl_costOfOrders : ACode := .seq (.reg [⟨(some 3), .box 71 (.tmp 1), none⟩,
  ⟨(some 4), .mv (.const (.int .i64 0)), none⟩])
 (.seq (.reg [⟨(some 5), .mv (.const (.int .i64 0)), none⟩])
 (.seq (.seq (.reg [⟨(some 8), .mv (.tmp 0), none⟩,
  ⟨(some 9), .len (.tmp 8), none⟩,
  ⟨(some 10), .mv (.const (.int .i64 0)), none⟩])
 (.block 0 (.loop (.seq (.reg [⟨(some 11), .bin .lss (.tmp 10) (.tmp 9), none⟩])
 (.seq (.cond (.tmp 11) (.skip) (.exit 0))
 (.seq (.block 1 (.seq (.reg [⟨(some 12), .mv (.tmp 10), none⟩,
  ⟨(some 13), .iad 1 (.tmp 8) (.tmp 10), none⟩,
  ⟨(some 14), .ld none (.tmp 13), none⟩,
  ⟨(some 6), .mv (.tmp 12), none⟩,
  ⟨(some 7), .mv (.tmp 14), none⟩])
 (.reg [⟨(some 15), .mv (.tmp 5), none⟩,
  ⟨(some 16), .mv (.tmp 7), none⟩,
  ⟨(some 17), .mv (.tmp 6), none⟩,
  ⟨(some 18), .iada 1 3 (.tmp 3) (.tmp 17), none⟩,
  ⟨(some 19), .ld none (.tmp 18), none⟩,
  ⟨(some 20), .iad 1 (.tmp 16) (.tmp 19), none⟩,
  ⟨(some 21), .ld none (.tmp 20), none⟩,
  ⟨(some 22), .bin .add (.tmp 15) (.tmp 21), none⟩,
  ⟨(some 5), .mv (.tmp 22), none⟩])))
 (.reg [⟨(some 23), .bin .add (.tmp 10) (.const (.int .i64 1)), none⟩,
  ⟨(some 10), .mv (.tmp 23), none⟩])))))))
 (.seq (.reg [⟨(some 24), .mv (.tmp 5), none⟩,
  ⟨(some 4), .mv (.tmp 24), none⟩])
 (.ret))))
def r_impl_costOfOrders : List ARes := [.tmp 4]
theorem ok_impl_costOfOrders : FnOk Try.prog 53 25 c_impl_costOfOrders r_impl_costOfOrders := ⟨⟨Try.f53, _, Try.func53, by kernel_rfl, rfl, rfl, by kernel_rfl, by kernel_rfl⟩⟩
def c_impl_allOrders : ACode := .seq (.reg [⟨(some 1), .box 3 (.tmp 0), none⟩,
  ⟨(some 2), .mv (.const .nilFunc), none⟩])
 (.seq (.reg [⟨(some 3), .mkf 85 [] [(.tmp 1)], none⟩,
  ⟨(some 2), .mv (.tmp 3), none⟩])
 (.ret))
def r_impl_allOrders : List ARes := [.tmp 2]
theorem ok_impl_allOrders : FnOk Try.prog 54 4 c_impl_allOrders r_impl_allOrders := ⟨⟨Try.f54, _, Try.func54, by kernel_rfl, rfl, rfl, by kernel_rfl, by kernel_rfl⟩⟩
def c_impl_priceOfOrders : ACode := .seq (.reg [⟨(some 3), .box 71 (.tmp 1), none⟩,
  ⟨(some 4), .mv (.const (.int .i64 0)), none⟩])
 (.seq (.reg [⟨(some 5), .mv (.const (.int .i64 0)), none⟩])
 (.seq (.seq (.reg [⟨(some 8), .mv (.tmp 0), none⟩,
  ⟨(some 9), .len (.tmp 8), none⟩,
  ⟨(some 10), .mv (.const (.int .i64 0)), none⟩])
 (.block 0 (.loop (.seq (.reg [⟨(some 11), .bin .lss (.tmp 10) (.tmp 9), none⟩])
 (.seq (.cond (.tmp 11) (.skip) (.exit 0))
 (.seq (.block 1 (.seq (.reg [⟨(some 12), .mv (.tmp 10), none⟩,
  ⟨(some 13), .iad 1 (.tmp 8) (.tmp 10), none⟩,
  ⟨(some 14), .ld none (.tmp 13), none⟩,
  ⟨(some 6), .mv (.tmp 12), none⟩,
  ⟨(some 7), .mv (.tmp 14), none⟩])
 (.reg [⟨(some 15), .mv (.tmp 5), none⟩,
  ⟨(some 16), .mv (.tmp 7), none⟩,
  ⟨(some 17), .mv (.tmp 6), none⟩,
  ⟨(some 18), .iada 1 3 (.tmp 3) (.tmp 17), none⟩,
  ⟨(some 19), .ld none (.tmp 18), none⟩,
  ⟨(some 20), .bin .mul (.tmp 16) (.tmp 19), none⟩,
  ⟨(some 21), .bin .add (.tmp 15) (.tmp 20), none⟩,
  ⟨(some 5), .mv (.tmp 21), none⟩])))
 (.reg [⟨(some 22), .bin .add (.tmp 10) (.const (.int .i64 1)), none⟩,
  ⟨(some 10), .mv (.tmp 22), none⟩])))))))
 (.seq (.reg [⟨(some 23), .mv (.tmp 5), none⟩,
  ⟨(some 4), .mv (.tmp 23), none⟩])
 (.ret))))
def r_impl_priceOfOrders : List ARes := [.tmp 4]
theorem ok_impl_priceOfOrders : FnOk Try.prog 55 24 c_impl_priceOfOrders r_impl_priceOfOrders := ⟨⟨Try.f55, _, Try.func55, by kernel_rfl, rfl, rfl, by kernel_rfl, by kernel_rfl⟩⟩
def c_impl_listOfOrders : ACode := .seq (.reg [⟨(some 2), .box 71 (.tmp 0), none⟩,
  ⟨(some 4), .mv (.const (.slice none 0 0)), none⟩])
 (.seq (.reg [⟨(some 5), .bsl 3 1 0 [] [], none⟩,
  ⟨(some 6), .mv (.tmp 1), none⟩,
  ⟨(some 7), .len (.tmp 6), none⟩,
  ⟨(some 8), .slcp 1 3 (.tmp 2) none (some (.tmp 7)), none⟩,
  ⟨(some 9), .app 3 1 8 (.tmp 5) (.tmp 8), none⟩,
  ⟨(some 4), .mv (.tmp 9), none⟩])
 (.ret))
def r_impl_listOfOrders : List ARes := [.tmp 4]
theorem ok_impl_listOfOrders : FnOk Try.prog 56 10 c_impl_listOfOrders r_impl_listOfOrders := ⟨⟨Try.f56, _, Try.func56, by kernel_rfl, rfl, rfl, by kernel_rfl, by kernel_rfl⟩⟩
def c_impl_oneUnitMore : ACode := .seq (.reg [⟨(some 7), .box 71 (.tmp 3), none⟩,
  ⟨(some 8), .alc 71 [(.int .i64 0), (.int .i64 0), (.int .i64 0)], none⟩])
 (.seq (.reg [⟨(some 14), .ld (some 3) (.tmp 7), none⟩,
  ⟨(some 9), .alc 71 [(.int .i64 0), (.int .i64 0), (.int .i64 0)], none⟩,
  ⟨none, .st 3 (.tmp 9) (.tmp 14), none⟩,
  ⟨(some 10), .mv (.const (.int .i64 0)), none⟩])
 (.seq (.seq (.reg [⟨(some 15), .mv (.tmp 0), none⟩,
  ⟨(some 16), .len (.tmp 15), none⟩,
  ⟨(some 17), .mv (.const (.int .i64 0)), none⟩])
 (.block 0 (.loop (.seq (.reg [⟨(some 18), .bin .lss (.tmp 17) (.tmp 16), none⟩])
 (.seq (.cond (.tmp 18) (.skip) (.exit 0))
 (.seq (.block 1 (.seq (.reg [⟨(some 19), .mv (.tmp 17), none⟩,
  ⟨(some 20), .iad 1 (.tmp 15) (.tmp 17), none⟩,
  ⟨(some 21), .ld none (.tmp 20), none⟩,
  ⟨(some 11), .mv (.tmp 19), none⟩,
  ⟨(some 12), .mv (.tmp 21), none⟩])
 (.seq (.reg [⟨(some 22), .mv (.tmp 12), none⟩,
  ⟨(some 23), .mv (.tmp 1), none⟩,
  ⟨(some 24), .mv (.tmp 2), none⟩,
  ⟨(some 25), .mv (.tmp 11), none⟩,
  ⟨(some 26), .iada 1 3 (.tmp 7) (.tmp 25), none⟩,
  ⟨(some 27), .ld none (.tmp 26), none⟩,
  ⟨(some 29), .mv (.tmp 12), none⟩,
  ⟨(some 30), .mv (.tmp 1), none⟩,
  ⟨(some 31), .mv (.tmp 2), none⟩,
  ⟨(some 32), .mv (.tmp 11), none⟩,
  ⟨(some 33), .iada 1 3 (.tmp 7) (.tmp 32), none⟩,
  ⟨(some 34), .ld none (.tmp 33), none⟩,
  ⟨(some 35), .bin .add (.tmp 34) (.const (.int .i64 1)), none⟩,
  ⟨(some 28), .rcall (.func 84) [(.tmp 22), (.tmp 23), (.tmp 24), (.tmp 27)], none⟩,
  ⟨(some 36), .rcall (.func 84) [(.tmp 29), (.tmp 30), (.tmp 31), (.tmp 35)], none⟩,
  ⟨(some 37), .bin .sub (.tmp 28) (.tmp 36), none⟩,
  ⟨(some 13), .mv (.tmp 37), none⟩])
 (.seq (.reg [⟨(some 38), .mv (.tmp 13), none⟩,
  ⟨(some 39), .mv (.tmp 10), none⟩,
  ⟨(some 40), .bin .gtr (.tmp 38) (.tmp 39), none⟩])
 (.cond (.tmp 40) (.seq (.reg [⟨(some 41), .ld (some 3) (.tmp 7), none⟩,
  ⟨(some 42), .mv (.tmp 13), none⟩,
  ⟨none, .st 3 (.tmp 9) (.tmp 41), none⟩,
  ⟨(some 10), .mv (.tmp 42), none⟩])
 (.reg [⟨(some 43), .mv (.tmp 11), none⟩,
  ⟨(some 44), .iada 1 3 (.tmp 9) (.tmp 43), none⟩,
  ⟨(some 45), .ld none (.tmp 44), none⟩,
  ⟨(some 46), .bin .add (.tmp 45) (.const (.int .i64 1)), none⟩,
  ⟨(some 47), .iada 1 3 (.tmp 9) (.tmp 43), none⟩,
  ⟨none, .st 1 (.tmp 47) (.tmp 46), none⟩])) (.skip))))))
 (.reg [⟨(some 48), .bin .add (.tmp 17) (.const (.int .i64 1)), none⟩,
  ⟨(some 17), .mv (.tmp 48), none⟩])))))))
 (.seq (.reg [⟨(some 49), .ld (some 3) (.tmp 9), none⟩,
  ⟨none, .st 3 (.tmp 8) (.tmp 49), none⟩])
 (.ret))))
def r_impl_oneUnitMore : List ARes := [.cell 8 (some 3)]
theorem ok_impl_oneUnitMore : FnOk Try.prog 59 50 c_impl_oneUnitMore r_impl_oneUnitMore := ⟨⟨Try.f59, _, Try.func59, by kernel_rfl, rfl, rfl, by kernel_rfl, by kernel_rfl⟩⟩
def c_impl_IsChain : ACode := .seq (.reg [⟨(some 1), .box 50 (.tmp 0), none⟩,
  ⟨(some 2), .mv (.const (.bool false)), none⟩])
 (.seq (.reg [⟨(some 3), .fad 0 (.tmp 1), none⟩,
  ⟨(some 4), .ld none (.tmp 3), none⟩,
  ⟨(some 5), .fad 1 (.tmp 1), none⟩,
  ⟨(some 6), .ld none (.tmp 5), none⟩,
  ⟨(some 7), .fad 2 (.tmp 1), none⟩,
  ⟨(some 8), .ld none (.tmp 7), none⟩,
  ⟨(some 9), .call (.func 72) [(.tmp 4), (.tmp 6), (.tmp 8)], none⟩,
  ⟨(some 10), .mv (.tmp 9), none⟩,
  ⟨(some 11), .fad 2 (.tmp 1), (some (10, true))⟩,
  ⟨(some 12), .ld none (.tmp 11), (some (10, true))⟩,
  ⟨(some 13), .call (.func 94) [(.tmp 12)], (some (10, true))⟩,
  ⟨(some 14), .pick (.tmp 10) (.tmp 13) (.const (.bool false)), none⟩,
  ⟨(some 2), .mv (.tmp 14), none⟩])
 (.ret))
def r_impl_IsChain : List ARes := [.tmp 2]
theorem ok_impl_IsChain : FnOk Try.prog 62 15 c_impl_IsChain r_impl_IsChain := ⟨⟨Try.f62, _, Try.func62, by kernel_rfl, rfl, rfl, by kernel_rfl, by kernel_rfl⟩⟩
def c_impl_bestNest : ACode := .seq (.reg [⟨(some 1), .box 50 (.tmp 0), none⟩,
  ⟨(some 2), .alc 87 [(.int .i64 0), (.slice none 0 0)], none⟩])
 (.seq (.reg [⟨(some 5), .bld [] [], none⟩,
  ⟨(some 6), .mif 107 (.tmp 5), none⟩,
  ⟨(some 3), .mv (.tmp 6), none⟩])
 (.seq (.seq (.reg [⟨(some 7), .fad 1 (.tmp 1), none⟩,
  ⟨(some 8), .ld none (.tmp 7), none⟩,
  ⟨(some 9), .len (.tmp 8), none⟩,
  ⟨(some 10), .mv (.const (.int .i64 0)), none⟩])
 (.block 0 (.loop (.seq (.reg [⟨(some 11), .bin .lss (.tmp 10) (.tmp 9), none⟩])
 (.seq (.cond (.tmp 11) (.skip) (.exit 0))
 (.seq (.block 1 (.seq (.reg [⟨(some 12), .mv (.tmp 10), none⟩,
  ⟨(some 4), .mv (.tmp 12), none⟩])
 (.reg [⟨(some 13), .ld (some 3) (.tmp 1), none⟩,
  ⟨(some 14), .mv (.tmp 4), none⟩,
  ⟨(some 15), .call (.func 95) [(.tmp 13), (.tmp 14)], none⟩,
  ⟨(some 16), .mv (.tmp 3), none⟩,
  ⟨(some 17), .call (.func 74) [(.tmp 15), (.tmp 16)], none⟩,
  ⟨(some 18), .mif 103 (.tmp 17), none⟩,
  ⟨(some 3), .mv (.tmp 18), none⟩])))
 (.reg [⟨(some 19), .bin .add (.tmp 10) (.const (.int .i64 1)), none⟩,
  ⟨(some 10), .mv (.tmp 19), none⟩])))))))
 (.seq (.reg [⟨(some 20), .mv (.tmp 3), none⟩,
  ⟨(some 21), .fad 0 (.tmp 1), none⟩,
  ⟨(some 22), .ld none (.tmp 21), none⟩,
  ⟨(some 23), .len (.tmp 22), none⟩,
  ⟨(some 25), .never, none⟩,
  ⟨(some 26), .nilc (.tmp 25), none⟩,
  ⟨(some 27), .mv (.tmp 20), none⟩,
  ⟨(some 24), .rcall (.func 77) [(.tmp 23)], none⟩,
  ⟨(some 28), .inv (.tmp 27) "loop.example/g01111/impl.bestFor" [(.tmp 24)], none⟩,
  ⟨none, .st 2 (.tmp 2) (.tmp 28), none⟩])
 (.ret))))
def r_impl_bestNest : List ARes := [.cell 2 (some 2)]
theorem ok_impl_bestNest : FnOk Try.prog 63 29 c_impl_bestNest r_impl_bestNest := ⟨⟨Try.f63, _, Try.func63, by kernel_rfl, rfl, rfl, by kernel_rfl, by kernel_rfl⟩⟩
def c_impl_periodSet__list : ACode := .seq (.reg [⟨(some 2), .mv (.const (.slice none 0 0)), none⟩])
 (.seq (.reg [⟨(some 5), .bsl 3 1 0 [] [], none⟩,
  ⟨(some 3), .mv (.tmp 5), none⟩])
 (.seq (.seq (.reg [⟨(some 6), .mv (.tmp 0), none⟩,
  ⟨(some 7), .call (.func 96) [(.tmp 6)], none⟩,
  ⟨(some 8), .mv (.const (.int .i64 0)), none⟩])
 (.block 0 (.loop (.seq (.reg [⟨(some 9), .bin .lss (.tmp 8) (.tmp 7), none⟩])
 (.seq (.cond (.tmp 9) (.skip) (.exit 0))
 (.seq (.block 1 (.seq (.reg [⟨(some 10), .mv (.tmp 8), none⟩,
  ⟨(some 4), .mv (.tmp 10), none⟩])
 (.seq (.reg [⟨(some 11), .mv (.tmp 0), none⟩,
  ⟨(some 12), .mv (.tmp 4), none⟩,
  ⟨(some 13), .bin .shr (.tmp 11) (.tmp 12), none⟩,
  ⟨(some 14), .bin .and (.tmp 13) (.const (.int .u64 1)), none⟩,
  ⟨(some 15), .bin .eql (.tmp 14) (.const (.int .u64 1)), none⟩])
 (.cond (.tmp 15) (.reg [⟨(some 16), .mv (.tmp 3), none⟩,
  ⟨(some 17), .mv (.tmp 4), none⟩,
  ⟨(some 18), .bsl 3 1 1 [(.int .i64 0)] [(0, 1, (.tmp 17))], none⟩,
  ⟨(some 19), .app 3 1 8 (.tmp 16) (.tmp 18), none⟩,
  ⟨(some 3), .mv (.tmp 19), none⟩]) (.skip)))))
 (.reg [⟨(some 20), .bin .add (.tmp 8) (.const (.int .i64 1)), none⟩,
  ⟨(some 8), .mv (.tmp 20), none⟩])))))))
 (.seq (.reg [⟨(some 21), .mv (.tmp 3), none⟩,
  ⟨(some 2), .mv (.tmp 21), none⟩])
 (.ret))))
def r_impl_periodSet__list : List ARes := [.tmp 2]
theorem ok_impl_periodSet__list : FnOk Try.prog 64 22 c_impl_periodSet__list r_impl_periodSet__list := ⟨⟨Try.f64, _, Try.func64, by kernel_rfl, rfl, rfl, by kernel_rfl, by kernel_rfl⟩⟩
def c_impl_areStages : ACode := .seq (.reg [⟨(some 6), .mv (.const (.bool false)), none⟩])
 (.seq (.reg [⟨(some 8), .mv (.tmp 1), none⟩,
  ⟨(some 9), .len (.tmp 8), none⟩,
  ⟨(some 7), .mv (.tmp 9), none⟩])
 (.seq (.reg [⟨(some 10), .mv (.tmp 7), none⟩,
  ⟨(some 11), .bin .gtr (.tmp 10) (.const (.int .i64 0)), none⟩,
  ⟨(some 12), .mv (.tmp 11), none⟩,
  ⟨(some 13), .mv (.tmp 7), (some (12, true))⟩,
  ⟨(some 14), .bin .leq (.tmp 13) (.const (.int .i64 3)), (some (12, true))⟩,
  ⟨(some 15), .pick (.tmp 12) (.tmp 14) (.const (.bool false)), none⟩,
  ⟨(some 16), .mv (.tmp 15), none⟩,
  ⟨(some 17), .mv (.tmp 1), (some (16, true))⟩,
  ⟨(some 18), .mv (.tmp 7), (some (16, true))⟩,
  ⟨(some 19), .call (.func 50) [(.tmp 17), (.tmp 18), (.const (.int .i64 99))], (some (16, true))⟩,
  ⟨(some 20), .pick (.tmp 16) (.tmp 19) (.const (.bool false)), none⟩,
  ⟨(some 21), .mv (.tmp 20), none⟩,
  ⟨(some 22), .mv (.tmp 2), (some (21, true))⟩,
  ⟨(some 23), .mv (.tmp 7), (some (21, true))⟩,
  ⟨(some 24), .call (.func 50) [(.tmp 22), (.tmp 23), (.const (.int .i64 9))], (some (21, true))⟩,
  ⟨(some 25), .pick (.tmp 21) (.tmp 24) (.const (.bool false)), none⟩,
  ⟨(some 26), .mv (.tmp 25), none⟩,
  ⟨(some 27), .mv (.tmp 0), (some (26, true))⟩,
  ⟨(some 28), .len (.tmp 27), (some (26, true))⟩,
  ⟨(some 29), .bin .leq (.tmp 28) (.const (.int .i64 6)), (some (26, true))⟩,
  ⟨(some 30), .pick (.tmp 26) (.tmp 29) (.const (.bool false)), none⟩,
  ⟨(some 31), .mv (.tmp 30), none⟩,
  ⟨(some 32), .mv (.tmp 0), (some (31, true))⟩,
  ⟨(some 33), .mv (.tmp 0), (some (31, true))⟩,
  ⟨(some 34), .len (.tmp 33), (some (31, true))⟩,
  ⟨(some 35), .call (.func 50) [(.tmp 32), (.tmp 34), (.const (.int .i64 20))], (some (31, true))⟩,
  ⟨(some 36), .pick (.tmp 31) (.tmp 35) (.const (.bool false)), none⟩,
  ⟨(some 6), .mv (.tmp 36), none⟩])
 (.ret)))
def r_impl_areStages : List ARes := [.tmp 6]
theorem ok_impl_areStages : FnOk Try.prog 72 37 c_impl_areStages r_impl_areStages := ⟨⟨Try.f72, _, Try.func72, by kernel_rfl, rfl, rfl, by kernel_rfl, by kernel_rfl⟩⟩
def c_impl_sumOf : ACode := .seq (.reg [⟨(some 2), .mv (.const (.int .i64 0)), none⟩])
 (.seq (.reg [⟨(some 3), .mv (.const (.int .i64 0)), none⟩])
 (.seq (.seq (.reg [⟨(some 6), .mv (.tmp 0), none⟩,
  ⟨(some 7), .len (.tmp 6), none⟩,
  ⟨(some 8), .mv (.const (.int .i64 0)), none⟩])
 (.block 0 (.loop (.seq (.reg [⟨(some 9), .bin .lss (.tmp 8) (.tmp 7), none⟩])
 (.seq (.cond (.tmp 9) (.skip) (.exit 0))
 (.seq (.block 1 (.seq (.reg [⟨(some 10), .iad 1 (.tmp 6) (.tmp 8), none⟩,
  ⟨(some 11), .ld none (.tmp 10), none⟩,
  ⟨(some 5), .mv (.tmp 11), none⟩])
 (.reg [⟨(some 12), .mv (.tmp 3), none⟩,
  ⟨(some 13), .mv (.tmp 5), none⟩,
  ⟨(some 14), .bin .add (.tmp 12) (.tmp 13), none⟩,
  ⟨(some 3), .mv (.tmp 14), none⟩])))
 (.reg [⟨(some 15), .bin .add (.tmp 8) (.const (.int .i64 1)), none⟩,
  ⟨(some 8), .mv (.tmp 15), none⟩])))))))
 (.seq (.reg [⟨(some 16), .mv (.tmp 3), none⟩,
  ⟨(some 2), .mv (.tmp 16), none⟩])
 (.ret))))
def r_impl_sumOf : List ARes := [.tmp 2]
theorem ok_impl_sumOf : FnOk Try.prog 73 17 c_impl_sumOf r_impl_sumOf := ⟨⟨Try.f73, _, Try.func73, by kernel_rfl, rfl, rfl, by kernel_rfl, by kernel_rfl⟩⟩
def c_impl_stockOf : ACode := .seq (.reg [⟨(some 2), .box 26 (.tmp 0), none⟩,
  ⟨(some 4), .alc 103 [(.slice none 0 0), .nilIface], none⟩])
 (.seq (.reg [⟨(some 11), .mv (.tmp 1), none⟩,
  ⟨(some 12), .bld [(.slice none 0 0), .nilIface] [(1, 1, (.tmp 11))], none⟩,
  ⟨(some 5), .alc 103 [(.slice none 0 0), .nilIface], none⟩,
  ⟨none, .st 2 (.tmp 5) (.tmp 12), none⟩])
 (.seq (.seq (.reg [⟨(some 13), .fad 0 (.tmp 2), none⟩,
  ⟨(some 14), .ld none (.tmp 13), none⟩,
  ⟨(some 15), .len (.tmp 14), none⟩,
  ⟨(some 16), .call (.func 77) [(.tmp 15)], none⟩,
  ⟨(some 17), .bin .add (.tmp 16) (.const (.int .u64 1)), none⟩,
  ⟨(some 18), .mv (.const (.int .u64 0)), none⟩])
 (.block 0 (.loop (.seq (.reg [⟨(some 19), .bin .lss (.tmp 18) (.tmp 17), none⟩])
 (.seq (.cond (.tmp 19) (.skip) (.exit 0))
 (.seq (.block 1 (.seq (.reg [⟨(some 20), .mv (.tmp 18), none⟩,
  ⟨(some 6), .mv (.tmp 20), none⟩])
 (.seq (.reg [⟨(some 22), .ld (some 4) (.tmp 2), none⟩,
  ⟨(some 23), .mv (.tmp 6), none⟩,
  ⟨(some 24), .rcall (.func 64) [(.tmp 23)], none⟩,
  ⟨(some 25), .rcall (.func 98) [(.tmp 22), (.tmp 24)], none⟩,
  ⟨(some 21), .mv (.tmp 25), none⟩,
  ⟨(some 26), .ext 0 (.tmp 21), none⟩,
  ⟨(some 27), .ext 1 (.tmp 21), none⟩,
  ⟨(some 7), .mv (.tmp 26), none⟩,
  ⟨(some 8), .mv (.tmp 27), none⟩])
 (.seq (.reg [⟨(some 28), .mv (.tmp 8), none⟩])
 (.cond (.tmp 28) (.seq (.reg [⟨(some 30), .ld (some 4) (.tmp 2), none⟩,
  ⟨(some 31), .mv (.tmp 7), none⟩,
  ⟨(some 32), .call (.func 99) [(.tmp 30), (.tmp 31)], none⟩,
  ⟨(some 29), .mv (.tmp 32), none⟩,
  ⟨(some 33), .ext 0 (.tmp 29), none⟩,
  ⟨(some 34), .ext 1 (.tmp 29), none⟩,
  ⟨(some 9), .mv (.tmp 33), none⟩,
  ⟨(some 10), .mv (.tmp 34), none⟩])
 (.reg [⟨(some 35), .fad 0 (.tmp 5), none⟩,
  ⟨(some 36), .ld none (.tmp 35), none⟩,
  ⟨(some 37), .mv (.tmp 9), none⟩,
  ⟨(some 38), .mv (.tmp 6), none⟩,
  ⟨(some 39), .bld [(.int .i64 0), (.int .u64 0)] [(0, 1, (.tmp 37)), (1, 1, (.tmp 38))], none⟩,
  ⟨(some 40), .bsl 125 2 1 [(.int .i64 0), (.int .u64 0)] [(0, 2, (.tmp 39))], none⟩,
  ⟨(some 41), .app 125 2 16 (.tmp 36) (.tmp 40), none⟩,
  ⟨(some 42), .fad 0 (.tmp 5), none⟩,
  ⟨none, .st 1 (.tmp 42) (.tmp 41), none⟩])) (.skip))))))
 (.reg [⟨(some 43), .bin .add (.tmp 18) (.const (.int .u64 1)), none⟩,
  ⟨(some 18), .mv (.tmp 43), none⟩])))))))
 (.seq (.reg [⟨(some 44), .ld (some 2) (.tmp 5), none⟩,
  ⟨none, .st 2 (.tmp 4) (.tmp 44), none⟩])
 (.ret))))
def r_impl_stockOf : List ARes := [.cell 4 (some 2)]
theorem ok_impl_stockOf : FnOk Try.prog 74 45 c_impl_stockOf r_impl_stockOf := ⟨⟨Try.f74, _, Try.func74, by kernel_rfl, rfl, rfl, by kernel_rfl, by kernel_rfl⟩⟩
def c_impl_steadyCase : ACode := .seq (.reg [⟨(some 3), .box 22 (.tmp 0), none⟩,
  ⟨(some 6), .alc 26 [(.slice none 0 0), (.slice none 0 0), (.slice none 0 0), (.slice none 0 0)], none⟩])
 (.seq (.reg [⟨(some 8), .mkf 100 [] [(.tmp 3)], none⟩,
  ⟨(some 7), .mv (.tmp 8), none⟩])
 (.seq (.reg [⟨(some 9), .bsl 3 1 0 [] [], none⟩,
  ⟨(some 10), .ld none (.tmp 3), none⟩,
  ⟨(some 11), .app 3 1 8 (.tmp 9) (.tmp 10), none⟩,
  ⟨(some 12), .mv (.tmp 7), none⟩,
  ⟨(some 13), .mv (.tmp 1), none⟩,
  ⟨(some 14), .call (.tmp 12) [(.tmp 13)], none⟩,
  ⟨(some 15), .mv (.tmp 7), none⟩,
  ⟨(some 16), .call (.tmp 15) [(.const (.int .i64 0))], none⟩,
  ⟨(some 17), .mv (.tmp 7), none⟩,
  ⟨(some 18), .mv (.tmp 2), none⟩,
  ⟨(some 19), .call (.tmp 17) [(.tmp 18)], none⟩,
  ⟨(some 20), .bld [(.slice none 0 0), (.slice none 0 0), (.slice none 0 0), (.slice none 0 0)] [(0, 1, (.tmp 11)), (1, 1, (.tmp 14)), (2, 1, (.tmp 16)), (3, 1, (.tmp 19))], none⟩,
  ⟨none, .st 4 (.tmp 6) (.tmp 20), none⟩])
 (.ret)))
def r_impl_steadyCase : List ARes := [.cell 6 (some 4)]
theorem ok_impl_steadyCase : FnOk Try.prog 75 21 c_impl_steadyCase r_impl_steadyCase := ⟨⟨Try.f75, _, Try.func75, by kernel_rfl, rfl, rfl, by kernel_rfl, by kernel_rfl⟩⟩
def c_impl_stock__bestFor : ACode := .seq (.reg [⟨(some 2), .box 103 (.tmp 0), none⟩,
  ⟨(some 4), .alc 87 [(.int .i64 0), (.slice none 0 0)], none⟩])
 (.seq (.reg [⟨(some 9), .bsl 87 2 0 [] [], none⟩,
  ⟨(some 5), .mv (.tmp 9), none⟩])
 (.seq (.seq (.reg [⟨(some 10), .fad 0 (.tmp 2), none⟩,
  ⟨(some 11), .ld none (.tmp 10), none⟩,
  ⟨(some 12), .len (.tmp 11), none⟩,
  ⟨(some 13), .mv (.const (.int .i64 0)), none⟩])
 (.block 0 (.loop (.seq (.reg [⟨(some 14), .bin .lss (.tmp 13) (.tmp 12), none⟩])
 (.seq (.cond (.tmp 14) (.skip) (.exit 0))
 (.seq (.block 1 (.seq (.reg [⟨(some 15), .iad 2 (.tmp 11) (.tmp 13), none⟩,
  ⟨(some 16), .ld (some 2) (.tmp 15), none⟩,
  ⟨(some 7), .alc 125 [(.int .i64 0), (.int .u64 0)], none⟩,
  ⟨none, .st 2 (.tmp 7) (.tmp 16), none⟩])
 (.seq (.reg [⟨(some 17), .fad 1 (.tmp 7), none⟩,
  ⟨(some 18), .ld none (.tmp 17), none⟩,
  ⟨(some 19), .mv (.tmp 1), none⟩,
  ⟨(some 20), .call (.func 102) [(.tmp 18), (.tmp 19)], none⟩])
 (.cond (.tmp 20) (.seq (.reg [⟨(some 21), .fad 1 (.tmp 2), none⟩,
  ⟨(some 22), .ld none (.tmp 21), none⟩,
  ⟨(some 23), .fad 1 (.tmp 7), none⟩,
  ⟨(some 24), .ld none (.tmp 23), none⟩,
  ⟨(some 25), .inv (.tmp 22) "loop.example/g01111/impl.bestFor" [(.tmp 24)], none⟩,
  ⟨(some 8), .alc 87 [(.int .i64 0), (.slice none 0 0)], none⟩,
  ⟨none, .st 2 (.tmp 8) (.tmp 25), none⟩])
 (.seq (.reg [⟨(some 26), .mv (.tmp 5), none⟩]) (.seq (.reg [⟨(some 27), .fad 0 (.tmp 8), none⟩]) (.seq (.reg [⟨(some 29), .fad 0 (.tmp 7), none⟩]) (.seq (.reg [⟨(some 32), .fad 1 (.tmp 8), none⟩]) (.seq (.reg [⟨(some 33), .ld none (.tmp 32), none⟩]) (.seq (.reg [⟨(some 34), .fad 1 (.tmp 7), none⟩]) (.seq (.reg [⟨(some 35), .ld none (.tmp 34), none⟩]) (.both (.seq (.reg [⟨(some 28), .ld none (.tmp 27), none⟩]) (.both (.seq (.reg [⟨(some 30), .ld none (.tmp 29), none⟩]) (.seq (.reg [⟨(some 31), .bin .add (.tmp 28) (.tmp 30), none⟩]) (.seq (.reg [⟨(some 36), .bsl 90 1 1 [(.int .u64 0)] [(0, 1, (.tmp 35))], none⟩]) (.seq (.reg [⟨(some 37), .app 90 1 8 (.tmp 33) (.tmp 36), none⟩]) (.seq (.reg [⟨(some 38), .bld [(.int .i64 0), (.slice none 0 0)] [(0, 1, (.tmp 31)), (1, 1, (.tmp 37))], none⟩]) (.seq (.reg [⟨(some 39), .bsl 87 2 1 [(.int .i64 0), (.slice none 0 0)] [(0, 2, (.tmp 38))], none⟩]) (.seq (.reg [⟨(some 40), .app 87 2 32 (.tmp 26) (.tmp 39), none⟩]) (.seq (.reg [⟨(some 5), .mv (.tmp 40), none⟩]) (.skip))))))))) (.seq (.reg [⟨(some 36), .bsl 90 1 1 [(.int .u64 0)] [(0, 1, (.tmp 35))], none⟩]) (.both (.seq (.reg [⟨(some 30), .ld none (.tmp 29), none⟩]) (.seq (.reg [⟨(some 31), .bin .add (.tmp 28) (.tmp 30), none⟩]) (.seq (.reg [⟨(some 37), .app 90 1 8 (.tmp 33) (.tmp 36), none⟩]) (.seq (.reg [⟨(some 38), .bld [(.int .i64 0), (.slice none 0 0)] [(0, 1, (.tmp 31)), (1, 1, (.tmp 37))], none⟩]) (.seq (.reg [⟨(some 39), .bsl 87 2 1 [(.int .i64 0), (.slice none 0 0)] [(0, 2, (.tmp 38))], none⟩]) (.seq (.reg [⟨(some 40), .app 87 2 32 (.tmp 26) (.tmp 39), none⟩]) (.seq (.reg [⟨(some 5), .mv (.tmp 40), none⟩]) (.skip)))))))) (.seq (.reg [⟨(some 37), .app 90 1 8 (.tmp 33) (.tmp 36), none⟩]) (.seq (.reg [⟨(some 30), .ld none (.tmp 29), none⟩]) (.seq (.reg [⟨(some 31), .bin .add (.tmp 28) (.tmp 30), none⟩]) (.seq (.reg [⟨(some 38), .bld [(.int .i64 0), (.slice none 0 0)] [(0, 1, (.tmp 31)), (1, 1, (.tmp 37))], none⟩]) (.seq (.reg [⟨(some 39), .bsl 87 2 1 [(.int .i64 0), (.slice none 0 0)] [(0, 2, (.tmp 38))], none⟩]) (.seq (.reg [⟨(some 40), .app 87 2 32 (.tmp 26) (.tmp 39), none⟩]) (.seq (.reg [⟨(some 5), .mv (.tmp 40), none⟩]) (.skip)))))))))))) (.both (.seq (.reg [⟨(some 30), .ld none (.tmp 29), none⟩]) (.both (.seq (.reg [⟨(some 28), .ld none (.tmp 27), none⟩]) (.seq (.reg [⟨(some 31), .bin .add (.tmp 28) (.tmp 30), none⟩]) (.seq (.reg [⟨(some 36), .bsl 90 1 1 [(.int .u64 0)] [(0, 1, (.tmp 35))], none⟩]) (.seq (.reg [⟨(some 37), .app 90 1 8 (.tmp 33) (.tmp 36), none⟩]) (.seq (.reg [⟨(some 38), .bld [(.int .i64 0), (.slice none 0 0)] [(0, 1, (.tmp 31)), (1, 1, (.tmp 37))], none⟩]) (.seq (.reg [⟨(some 39), .bsl 87 2 1 [(.int .i64 0), (.slice none 0 0)] [(0, 2, (.tmp 38))], none⟩]) (.seq (.reg [⟨(some 40), .app 87 2 32 (.tmp 26) (.tmp 39), none⟩]) (.seq (.reg [⟨(some 5), .mv (.tmp 40), none⟩]) (.skip))))))))) (.seq (.reg [⟨(some 36), .bsl 90 1 1 [(.int .u64 0)] [(0, 1, (.tmp 35))], none⟩]) (.both (.seq (.reg [⟨(some 28), .ld none (.tmp 27), none⟩]) (.seq (.reg [⟨(some 31), .bin .add (.tmp 28) (.tmp 30), none⟩]) (.seq (.reg [⟨(some 37), .app 90 1 8 (.tmp 33) (.tmp 36), none⟩]) (.seq (.reg [⟨(some 38), .bld [(.int .i64 0), (.slice none 0 0)] [(0, 1, (.tmp 31)), (1, 1, (.tmp 37))], none⟩]) (.seq (.reg [⟨(some 39), .bsl 87 2 1 [(.int .i64 0), (.slice none 0 0)] [(0, 2, (.tmp 38))], none⟩]) (.seq (.reg [⟨(some 40), .app 87 2 32 (.tmp 26) (.tmp 39), none⟩]) (.seq (.reg [⟨(some 5), .mv (.tmp 40), none⟩]) (.skip)))))))) (.seq (.reg [⟨(some 37), .app 90 1 8 (.tmp 33) (.tmp 36), none⟩]) (.seq (.reg [⟨(some 28), .ld none (.tmp 27), none⟩]) (.seq (.reg [⟨(some 31), .bin .add (.tmp 28) (.tmp 30), none⟩]) (.seq (.reg [⟨(some 38), .bld [(.int .i64 0), (.slice none 0 0)] [(0, 1, (.tmp 31)), (1, 1, (.tmp 37))], none⟩]) (.seq (.reg [⟨(some 39), .bsl 87 2 1 [(.int .i64 0), (.slice none 0 0)] [(0, 2, (.tmp 38))], none⟩]) (.seq (.reg [⟨(some 40), .app 87 2 32 (.tmp 26) (.tmp 39), none⟩]) (.seq (.reg [⟨(some 5), .mv (.tmp 40), none⟩]) (.skip)))))))))))) (.seq (.reg [⟨(some 36), .bsl 90 1 1 [(.int .u64 0)] [(0, 1, (.tmp 35))], none⟩]) (.both (.seq (.reg [⟨(some 28), .ld none (.tmp 27), none⟩]) (.both (.seq (.reg [⟨(some 30), .ld none (.tmp 29), none⟩]) (.seq (.reg [⟨(some 31), .bin .add (.tmp 28) (.tmp 30), none⟩]) (.seq (.reg [⟨(some 37), .app 90 1 8 (.tmp 33) (.tmp 36), none⟩]) (.seq (.reg [⟨(some 38), .bld [(.int .i64 0), (.slice none 0 0)] [(0, 1, (.tmp 31)), (1, 1, (.tmp 37))], none⟩]) (.seq (.reg [⟨(some 39), .bsl 87 2 1 [(.int .i64 0), (.slice none 0 0)] [(0, 2, (.tmp 38))], none⟩]) (.seq (.reg [⟨(some 40), .app 87 2 32 (.tmp 26) (.tmp 39), none⟩]) (.seq (.reg [⟨(some 5), .mv (.tmp 40), none⟩]) (.skip)))))))) (.seq (.reg [⟨(some 37), .app 90 1 8 (.tmp 33) (.tmp 36), none⟩]) (.seq (.reg [⟨(some 30), .ld none (.tmp 29), none⟩]) (.seq (.reg [⟨(some 31), .bin .add (.tmp 28) (.tmp 30), none⟩]) (.seq (.reg [⟨(some 38), .bld [(.int .i64 0), (.slice none 0 0)] [(0, 1, (.tmp 31)), (1, 1, (.tmp 37))], none⟩]) (.seq (.reg [⟨(some 39), .bsl 87 2 1 [(.int .i64 0), (.slice none 0 0)] [(0, 2, (.tmp 38))], none⟩]) (.seq (.reg [⟨(some 40), .app 87 2 32 (.tmp 26) (.tmp 39), none⟩]) (.seq (.reg [⟨(some 5), .mv (.tmp 40), none⟩]) (.skip)))))))))) (.both (.seq (.reg [⟨(some 30), .ld none (.tmp 29), none⟩]) (.both (.seq (.reg [⟨(some 28), .ld none (.tmp 27), none⟩]) (.seq (.reg [⟨(some 31), .bin .add (.tmp 28) (.tmp 30), none⟩]) (.seq (.reg [⟨(some 37), .app 90 1 8 (.tmp 33) (.tmp 36), none⟩]) (.seq (.reg [⟨(some 38), .bld [(.int .i64 0), (.slice none 0 0)] [(0, 1, (.tmp 31)), (1, 1, (.tmp 37))], none⟩]) (.seq (.reg [⟨(some 39), .bsl 87 2 1 [(.int .i64 0), (.slice none 0 0)] [(0, 2, (.tmp 38))], none⟩]) (.seq (.reg [⟨(some 40), .app 87 2 32 (.tmp 26) (.tmp 39), none⟩]) (.seq (.reg [⟨(some 5), .mv (.tmp 40), none⟩]) (.skip)))))))) (.seq (.reg [⟨(some 37), .app 90 1 8 (.tmp 33) (.tmp 36), none⟩]) (.seq (.reg [⟨(some 28), .ld none (.tmp 27), none⟩]) (.seq (.reg [⟨(some 31), .bin .add (.tmp 28) (.tmp 30), none⟩]) (.seq (.reg [⟨(some 38), .bld [(.int .i64 0), (.slice none 0 0)] [(0, 1, (.tmp 31)), (1, 1, (.tmp 37))], none⟩]) (.seq (.reg [⟨(some 39), .bsl 87 2 1 [(.int .i64 0), (.slice none 0 0)] [(0, 2, (.tmp 38))], none⟩]) (.seq (.reg [⟨(some 40), .app 87 2 32 (.tmp 26) (.tmp 39), none⟩]) (.seq (.reg [⟨(some 5), .mv (.tmp 40), none⟩]) (.skip)))))))))) (.seq (.reg [⟨(some 37), .app 90 1 8 (.tmp 33) (.tmp 36), none⟩]) (.seq (.reg [⟨(some 28), .ld none (.tmp 27), none⟩]) (.seq (.reg [⟨(some 30), .ld none (.tmp 29), none⟩]) (.seq (.reg [⟨(some 31), .bin .add (.tmp 28) (.tmp 30), none⟩]) (.seq (.reg [⟨(some 38), .bld [(.int .i64 0), (.slice none 0 0)] [(0, 1, (.tmp 31)), (1, 1, (.tmp 37))], none⟩]) (.seq (.reg [⟨(some 39), .bsl 87 2 1 [(.int .i64 0), (.slice none 0 0)] [(0, 2, (.tmp 38))], none⟩]) (.seq (.reg [⟨(some 40), .app 87 2 32 (.tmp 26) (.tmp 39), none⟩]) (.seq (.reg [⟨(some 5), .mv (.tmp 40), none⟩]) (.skip)))))))))))))))))))))) (.skip)))))
 (.reg [⟨(some 41), .bin .add (.tmp 13) (.const (.int .i64 1)), none⟩,
  ⟨(some 13), .mv (.tmp 41), none⟩])))))))
 (.seq (.reg [⟨(some 42), .mv (.tmp 5), none⟩,
  ⟨(some 43), .call (.func 103) [(.tmp 42), (.func 104)], none⟩,
  ⟨none, .st 2 (.tmp 4) (.tmp 43), none⟩])
 (.ret))))
def r_impl_stock__bestFor : List ARes := [.cell 4 (some 2)]
theorem ok_impl_stock__bestFor : FnOk Try.prog 76 44 c_impl_stock__bestFor r_impl_stock__bestFor := ⟨⟨Try.f76, _, Try.func76, by kernel_rfl, rfl, rfl, by kernel_rfl, by kernel_rfl⟩⟩
def c_impl_allPeriods : ACode := .seq (.reg [⟨(some 2), .mv (.const (.int .u64 0)), none⟩])
 (.seq (.reg [⟨(some 3), .mv (.tmp 0), none⟩,
  ⟨(some 4), .bin .shl (.const (.int .u64 1)) (.tmp 3), none⟩,
  ⟨(some 5), .bin .sub (.tmp 4) (.const (.int .u64 1)), none⟩,
  ⟨(some 2), .mv (.tmp 5), none⟩])
 (.ret))
def r_impl_allPeriods : List ARes := [.tmp 2]
theorem ok_impl_allPeriods : FnOk Try.prog 77 6 c_impl_allPeriods r_impl_allPeriods := ⟨⟨Try.f77, _, Try.func77, by kernel_rfl, rfl, rfl, by kernel_rfl, by kernel_rfl⟩⟩
def c_impl_isCharged : ACode := .seq (.reg [⟨(some 6), .mv (.const (.bool false)), none⟩])
 (.seq (.reg [⟨(some 7), .mv (.tmp 0), none⟩,
  ⟨(some 8), .call (.func 105) [(.tmp 7)], none⟩,
  ⟨(some 9), .mv (.tmp 8), none⟩,
  ⟨(some 10), .mv (.tmp 1), (some (9, true))⟩,
  ⟨(some 11), .call (.func 51) [(.tmp 10), (.const (.int .i64 20))], (some (9, true))⟩,
  ⟨(some 12), .pick (.tmp 9) (.tmp 11) (.const (.bool false)), none⟩,
  ⟨(some 13), .mv (.tmp 12), none⟩,
  ⟨(some 14), .mv (.tmp 2), (some (13, true))⟩,
  ⟨(some 15), .call (.func 51) [(.tmp 14), (.const (.int .i64 20))], (some (13, true))⟩,
  ⟨(some 16), .pick (.tmp 13) (.tmp 15) (.const (.bool false)), none⟩,
  ⟨(some 6), .mv (.tmp 16), none⟩])
 (.ret))
def r_impl_isCharged : List ARes := [.tmp 6]
theorem ok_impl_isCharged : FnOk Try.prog 81 17 c_impl_isCharged r_impl_isCharged := ⟨⟨Try.f81, _, Try.func81, by kernel_rfl, rfl, rfl, by kernel_rfl, by kernel_rfl⟩⟩
def c_impl_isRow_1 : ACode := .seq (.reg [⟨(some 3), .mv (.const (.bool false)), none⟩])
 (.seq (.reg [⟨(some 4), .mv (.tmp 0), none⟩,
  ⟨(some 5), .ld none (.tmp 1), none⟩,
  ⟨(some 6), .call (.func 51) [(.tmp 4), (.tmp 5)], none⟩,
  ⟨(some 7), .un .not (.tmp 6), none⟩,
  ⟨(some 3), .mv (.tmp 7), none⟩])
 (.ret))
def r_impl_isRow_1 : List ARes := [.tmp 3]
theorem ok_impl_isRow_1 : FnOk Try.prog 82 8 c_impl_isRow_1 r_impl_isRow_1 := ⟨⟨Try.f82, _, Try.func82, by kernel_rfl, rfl, rfl, by kernel_rfl, by kernel_rfl⟩⟩
def c_impl_costSum : ACode := .seq (.reg [⟨(some 8), .mv (.const (.int .i64 0)), none⟩])
 (.seq (.reg [⟨(some 9), .mv (.tmp 1), none⟩,
  ⟨(some 10), .mv (.tmp 0), none⟩,
  ⟨(some 11), .mv (.tmp 3), none⟩,
  ⟨(some 12), .call (.func 107) [(.tmp 10), (.tmp 11)], none⟩,
  ⟨(some 13), .bin .mul (.tmp 9) (.tmp 12), none⟩,
  ⟨(some 14), .mv (.tmp 2), none⟩,
  ⟨(some 15), .mv (.tmp 0), none⟩,
  ⟨(some 16), .mv (.tmp 3), none⟩,
  ⟨(some 17), .call (.func 108) [(.tmp 15), (.tmp 16)], none⟩,
  ⟨(some 18), .bin .mul (.tmp 14) (.tmp 17), none⟩,
  ⟨(some 19), .bin .add (.tmp 13) (.tmp 18), none⟩,
  ⟨(some 8), .mv (.tmp 19), none⟩])
 (.ret))
def r_impl_costSum : List ARes := [.tmp 8]
theorem ok_impl_costSum : FnOk Try.prog 84 20 c_impl_costSum r_impl_costSum := ⟨⟨Try.f84, _, Try.func84, by kernel_rfl, rfl, rfl, by kernel_rfl, by kernel_rfl⟩⟩
def c_impl_allOrders_1 : ACode := .seq (.reg [⟨(some 6), .bld [(.int .i64 0), (.int .i64 0), (.int .i64 0)] [], none⟩,
  ⟨(some 3), .alc 71 [(.int .i64 0), (.int .i64 0), (.int .i64 0)], none⟩,
  ⟨none, .st 3 (.tmp 3) (.tmp 6), none⟩])
 (.seq (.reg [⟨(some 7), .ld (some 3) (.tmp 3), none⟩,
  ⟨(some 4), .alc 71 [(.int .i64 0), (.int .i64 0), (.int .i64 0)], none⟩,
  ⟨none, .st 3 (.tmp 4) (.tmp 7), none⟩,
  ⟨(some 5), .mv (.const (.bool true)), none⟩])
 (.block 0 (.loop (.seq (.seq (.reg [⟨(some 8), .mv (.tmp 5), none⟩,
  ⟨(some 9), .mv (.tmp 8), none⟩,
  ⟨(some 10), .mv (.tmp 0), (some (9, true))⟩,
  ⟨(some 11), .ld (some 3) (.tmp 4), (some (9, true))⟩,
  ⟨(some 12), .call (.tmp 10) [(.tmp 11)], (some (9, true))⟩,
  ⟨(some 13), .pick (.tmp 9) (.tmp 12) (.const (.bool false)), none⟩])
 (.cond (.tmp 13) (.skip) (.exit 0)))
 (.block 1 (.seq (.reg [⟨(some 14), .ld (some 3) (.tmp 4), none⟩,
  ⟨(some 15), .ld none (.tmp 1), none⟩,
  ⟨(some 16), .call (.func 86) [(.tmp 14), (.tmp 15)], none⟩,
  ⟨none, .st 3 (.tmp 4) (.tmp 16), none⟩])
 (.reg [⟨(some 17), .ld (some 3) (.tmp 4), none⟩,
  ⟨(some 18), .ld (some 3) (.tmp 3), none⟩,
  ⟨(some 19), .aeq true 3 (.tmp 17) (.tmp 18), none⟩,
  ⟨(some 5), .mv (.tmp 19), none⟩])))))))
def r_impl_allOrders_1 : List ARes := []
theorem ok_impl_allOrders_1 : FnOk Try.prog 85 20 c_impl_allOrders_1 r_impl_allOrders_1 := ⟨⟨Try.f85, _, Try.func85, by kernel_rfl, rfl, rfl, by kernel_rfl, by kernel_rfl⟩⟩
def c_impl_ordersAfter : ACode := .seq (.reg [⟨(some 2), .box 71 (.tmp 0), none⟩,
  ⟨(some 4), .alc 71 [(.int .i64 0), (.int .i64 0), (.int .i64 0)], none⟩])
 (.seq (.seq (.reg [⟨(some 6), .mv (.tmp 1), none⟩,
  ⟨(some 7), .bin .sub (.tmp 6) (.const (.int .i64 1)), none⟩,
  ⟨(some 5), .mv (.tmp 7), none⟩])
 (.block 0 (.loop (.seq (.seq (.reg [⟨(some 8), .mv (.tmp 5), none⟩,
  ⟨(some 9), .bin .geq (.tmp 8) (.const (.int .i64 0)), none⟩])
 (.cond (.tmp 9) (.skip) (.exit 0)))
 (.seq (.block 1 (.seq (.seq (.reg [⟨(some 12), .mv (.tmp 5), none⟩,
  ⟨(some 13), .iada 1 3 (.tmp 2) (.tmp 12), none⟩,
  ⟨(some 14), .ld none (.tmp 13), none⟩,
  ⟨(some 15), .bin .lss (.tmp 14) (.const (.int .i64 15)), none⟩])
 (.cond (.tmp 15) (.seq (.reg [⟨(some 16), .mv (.tmp 5), none⟩,
  ⟨(some 17), .iada 1 3 (.tmp 2) (.tmp 16), none⟩,
  ⟨(some 18), .ld none (.tmp 17), none⟩,
  ⟨(some 19), .bin .add (.tmp 18) (.const (.int .i64 1)), none⟩,
  ⟨(some 20), .iada 1 3 (.tmp 2) (.tmp 16), none⟩,
  ⟨none, .st 1 (.tmp 20) (.tmp 19), none⟩])
 (.seq (.reg [⟨(some 21), .ld (some 3) (.tmp 2), none⟩,
  ⟨none, .st 3 (.tmp 4) (.tmp 21), none⟩])
 (.ret))) (.skip)))
 (.reg [⟨(some 22), .mv (.tmp 5), none⟩,
  ⟨(some 23), .iada 1 3 (.tmp 2) (.tmp 22), none⟩,
  ⟨none, .st 1 (.tmp 23) (.const (.int .i64 0)), none⟩])))
 (.reg [⟨(some 10), .mv (.tmp 5), none⟩,
  ⟨(some 11), .bin .sub (.tmp 10) (.const (.int .i64 1)), none⟩,
  ⟨(some 5), .mv (.tmp 11), none⟩]))))))
 (.seq (.reg [⟨(some 24), .ld (some 3) (.tmp 2), none⟩,
  ⟨none, .st 3 (.tmp 4) (.tmp 24), none⟩])
 (.ret)))
def r_impl_ordersAfter : List ARes := [.cell 4 (some 3)]
theorem ok_impl_ordersAfter : FnOk Try.prog 86 25 c_impl_ordersAfter r_impl_ordersAfter := ⟨⟨Try.f86, _, Try.func86, by kernel_rfl, rfl, rfl, by kernel_rfl, by kernel_rfl⟩⟩
def c_impl_stageCase : ACode := .seq (.reg [⟨(some 2), .box 50 (.tmp 0), none⟩,
  ⟨(some 4), .alc 26 [(.slice none 0 0), (.slice none 0 0), (.slice none 0 0), (.slice none 0 0)], none⟩])
 (.seq (.reg [⟨(some 5), .fad 0 (.tmp 2), none⟩,
  ⟨(some 6), .ld none (.tmp 5), none⟩,
  ⟨(some 7), .fad 1 (.tmp 2), none⟩,
  ⟨(some 8), .ld none (.tmp 7), none⟩,
  ⟨(some 9), .mv (.tmp 1), none⟩,
  ⟨(some 10), .iad 1 (.tmp 8) (.tmp 9), none⟩,
  ⟨(some 11), .ld none (.tmp 10), none⟩,
  ⟨(some 12), .ld (some 3) (.tmp 2), none⟩,
  ⟨(some 13), .mv (.tmp 1), none⟩,
  ⟨(some 14), .rcall (.func 114) [(.tmp 12), (.tmp 13)], none⟩,
  ⟨(some 15), .rcall (.func 75) [(.tmp 6), (.tmp 11), (.tmp 14)], none⟩,
  ⟨none, .st 4 (.tmp 4) (.tmp 15), none⟩])
 (.ret))
def r_impl_stageCase : List ARes := [.cell 4 (some 4)]
theorem ok_impl_stageCase : FnOk Try.prog 95 16 c_impl_stageCase r_impl_stageCase := ⟨⟨Try.f95, _, Try.func95, by kernel_rfl, rfl, rfl, by kernel_rfl, by kernel_rfl⟩⟩
def c_impl_PlanFrom : ACode := .seq (.reg [⟨(some 2), .box 26 (.tmp 0), none⟩,
  ⟨(some 4), .mv (.const (.slice none 0 0)), none⟩,
  ⟨(some 5), .mv (.const (.bool false)), none⟩])
 (.seq (.seq (.reg [⟨(some 10), .ld (some 4) (.tmp 2), none⟩,
  ⟨(some 11), .call (.func 42) [(.tmp 10)], none⟩,
  ⟨(some 12), .un .not (.tmp 11), none⟩,
  ⟨(some 13), .mv (.tmp 12), none⟩,
  ⟨(some 14), .mv (.tmp 1), (some (13, false))⟩,
  ⟨(some 15), .fad 0 (.tmp 2), (some (13, false))⟩,
  ⟨(some 16), .ld none (.tmp 15), (some (13, false))⟩,
  ⟨(some 17), .len (.tmp 16), (some (13, false))⟩,
  ⟨(some 18), .call (.func 117) [(.tmp 14), (.tmp 17)], (some (13, false))⟩,
  ⟨(some 19), .un .not (.tmp 18), (some (13, false))⟩,
  ⟨(some 20), .pick (.tmp 13) (.const (.bool true)) (.tmp 19), none⟩])
 (.cond (.tmp 20) (.seq (.reg [⟨(some 21), .bsl 3 1 0 [] [], none⟩,
  ⟨(some 4), .mv (.tmp 21), none⟩,
  ⟨(some 5), .mv (.const (.bool false)), none⟩])
 (.ret)) (.skip)))
 (.seq (.reg [⟨(some 22), .fad 0 (.tmp 2), none⟩,
  ⟨(some 23), .ld none (.tmp 22), none⟩,
  ⟨(some 24), .len (.tmp 23), none⟩,
  ⟨(some 25), .mks 3 8 [(.int .i64 0)] (.tmp 24) (.tmp 24), none⟩,
  ⟨(some 6), .alc 22 [(.slice none 0 0)], none⟩,
  ⟨none, .st 1 (.tmp 6) (.tmp 25), none⟩])
 (.seq (.reg [⟨(some 26), .ld none (.tmp 6), none⟩,
  ⟨(some 27), .len (.tmp 26), none⟩,
  ⟨(some 7), .alc 3 [(.int .i64 0)], none⟩,
  ⟨none, .st 1 (.tmp 7) (.tmp 27), none⟩])
 (.seq (.seq (.reg [⟨(some 28), .mv (.tmp 1), none⟩,
  ⟨(some 29), .call (.func 118) [(.tmp 28)], none⟩])
 (.block 0 (.range (.tmp 29) [30, 31] (.reg [⟨(some 9), .mv (.tmp 31), none⟩]) (.block 1 (.seq (.reg [⟨(some 32), .ld none (.tmp 6), none⟩,
  ⟨(some 33), .mv (.tmp 9), none⟩,
  ⟨(some 34), .fad 0 (.tmp 2), none⟩,
  ⟨(some 35), .ld none (.tmp 34), none⟩,
  ⟨(some 36), .mv (.tmp 9), none⟩,
  ⟨(some 37), .ld none (.tmp 7), none⟩,
  ⟨(some 38), .slc 1 (.tmp 35) (some (.tmp 36)) (some (.tmp 37)), none⟩,
  ⟨(some 39), .rcall (.func 73) [(.tmp 38)], none⟩,
  ⟨(some 40), .iad 1 (.tmp 32) (.tmp 33), none⟩,
  ⟨none, .st 1 (.tmp 40) (.tmp 39), none⟩])
 (.reg [⟨(some 41), .mv (.tmp 9), none⟩,
  ⟨none, .st 1 (.tmp 7) (.tmp 41), none⟩]))))))
 (.seq (.seq (.reg [⟨(some 42), .fad 0 (.tmp 2), none⟩,
  ⟨(some 43), .ld none (.tmp 42), none⟩,
  ⟨(some 44), .ld none (.tmp 7), none⟩,
  ⟨(some 45), .slc 1 (.tmp 43) none (some (.tmp 44)), none⟩,
  ⟨(some 46), .call (.func 73) [(.tmp 45)], none⟩,
  ⟨(some 47), .bin .gtr (.tmp 46) (.const (.int .i64 0)), none⟩])
 (.cond (.tmp 47) (.seq (.reg [⟨(some 48), .bsl 3 1 0 [] [], none⟩,
  ⟨(some 4), .mv (.tmp 48), none⟩,
  ⟨(some 5), .mv (.const (.bool false)), none⟩])
 (.ret)) (.skip)))
 (.seq (.reg [⟨(some 49), .ld none (.tmp 6), none⟩,
  ⟨(some 4), .mv (.tmp 49), none⟩,
  ⟨(some 5), .mv (.const (.bool true)), none⟩])
 (.ret)))))))
def r_impl_PlanFrom : List ARes := [.tmp 4, .tmp 5]
theorem ok_impl_PlanFrom : FnOk Try.prog 98 50 c_impl_PlanFrom r_impl_PlanFrom := ⟨⟨Try.f98, _, Try.func98, by kernel_rfl, rfl, rfl, by kernel_rfl, by kernel_rfl⟩⟩
def c_impl_PlanCost : ACode := .seq (.reg [⟨(some 2), .box 26 (.tmp 0), none⟩,
  ⟨(some 4), .mv (.const (.int .i64 0)), none⟩,
  ⟨(some 5), .mv (.const (.bool false)), none⟩])
 (.seq (.reg [⟨(some 11), .ld (some 4) (.tmp 2), none⟩,
  ⟨(some 12), .mv (.tmp 1), none⟩,
  ⟨(some 13), .call (.func 119) [(.tmp 11), (.tmp 12)], none⟩,
  ⟨(some 10), .mv (.tmp 13), none⟩,
  ⟨(some 14), .ext 0 (.tmp 10), none⟩,
  ⟨(some 15), .ext 1 (.tmp 10), none⟩,
  ⟨(some 16), .ext 2 (.tmp 10), none⟩,
  ⟨(some 17), .ext 3 (.tmp 10), none⟩,
  ⟨(some 6), .mv (.tmp 14), none⟩,
  ⟨(some 7), .mv (.tmp 15), none⟩,
  ⟨(some 8), .mv (.tmp 16), none⟩,
  ⟨(some 9), .mv (.tmp 17), none⟩])
 (.seq (.reg [⟨(some 18), .mv (.tmp 6), none⟩,
  ⟨(some 19), .mv (.tmp 7), none⟩,
  ⟨(some 20), .bin .add (.tmp 18) (.tmp 19), none⟩,
  ⟨(some 21), .mv (.tmp 8), none⟩,
  ⟨(some 22), .bin .add (.tmp 20) (.tmp 21), none⟩,
  ⟨(some 23), .mv (.tmp 9), none⟩,
  ⟨(some 4), .mv (.tmp 22), none⟩,
  ⟨(some 5), .mv (.tmp 23), none⟩])
 (.ret)))
def r_impl_PlanCost : List ARes := [.tmp 4, .tmp 5]
theorem ok_impl_PlanCost : FnOk Try.prog 99 24 c_impl_PlanCost r_impl_PlanCost := ⟨⟨Try.f99, _, Try.func99, by kernel_rfl, rfl, rfl, by kernel_rfl, by kernel_rfl⟩⟩
def c_impl_steadyCase_1 : ACode := .seq (.reg [⟨(some 3), .mv (.const (.slice none 0 0)), none⟩])
 (.seq (.reg [⟨(some 4), .mv (.tmp 0), none⟩,
  ⟨(some 5), .bsl 3 1 1 [(.int .i64 0)] [(0, 1, (.tmp 4))], none⟩,
  ⟨(some 6), .ld none (.tmp 1), none⟩,
  ⟨(some 7), .len (.tmp 6), none⟩,
  ⟨(some 8), .call (.func 101) [(.tmp 5), (.tmp 7)], none⟩,
  ⟨(some 3), .mv (.tmp 8), none⟩])
 (.ret))
def r_impl_steadyCase_1 : List ARes := [.tmp 3]
theorem ok_impl_steadyCase_1 : FnOk Try.prog 100 9 c_impl_steadyCase_1 r_impl_steadyCase_1 := ⟨⟨Try.f100, _, Try.func100, by kernel_rfl, rfl, rfl, by kernel_rfl, by kernel_rfl⟩⟩
def c_impl_periodSet__isPartOf : ACode := .seq (.reg [⟨(some 4), .mv (.const (.bool false)), none⟩])
 (.seq (.reg [⟨(some 5), .mv (.tmp 0), none⟩,
  ⟨(some 6), .mv (.tmp 1), none⟩,
  ⟨(some 7), .bin .andNot (.tmp 5) (.tmp 6), none⟩,
  ⟨(some 8), .bin .eql (.tmp 7) (.const (.int .u64 0)), none⟩,
  ⟨(some 4), .mv (.tmp 8), none⟩])
 (.ret))
def r_impl_periodSet__isPartOf : List ARes := [.tmp 4]
theorem ok_impl_periodSet__isPartOf : FnOk Try.prog 102 9 c_impl_periodSet__isPartOf r_impl_periodSet__isPartOf := ⟨⟨Try.f102, _, Try.func102, by kernel_rfl, rfl, rfl, by kernel_rfl, by kernel_rfl⟩⟩
def c_impl_compareNests : ACode := .seq (.reg [⟨(some 2), .box 87 (.tmp 0), none⟩,
  ⟨(some 3), .box 87 (.tmp 1), none⟩,
  ⟨(some 4), .mv (.const (.int .i64 0)), none⟩])
 (.seq (.reg [⟨(some 6), .fad 0 (.tmp 2), none⟩,
  ⟨(some 7), .ld none (.tmp 6), none⟩,
  ⟨(some 8), .fad 0 (.tmp 3), none⟩,
  ⟨(some 9), .ld none (.tmp 8), none⟩,
  ⟨(some 11), .ld (some 2) (.tmp 2), none⟩,
  ⟨(some 13), .ld (some 2) (.tmp 3), none⟩,
  ⟨(some 10), .rcall (.func 122) [(.tmp 7), (.tmp 9)], none⟩,
  ⟨(some 12), .rcall (.func 123) [(.tmp 11)], none⟩,
  ⟨(some 14), .rcall (.func 123) [(.tmp 13)], none⟩,
  ⟨(some 15), .rcall (.func 122) [(.tmp 12), (.tmp 14)], none⟩,
  ⟨(some 16), .bsl 3 1 2 [(.int .i64 0), (.int .i64 0)] [(0, 1, (.tmp 10)), (1, 1, (.tmp 15))], none⟩,
  ⟨(some 17), .rcall (.func 121) [(.tmp 16)], none⟩,
  ⟨(some 5), .mv (.tmp 17), none⟩])
 (.seq (.seq (.reg [⟨(some 18), .mv (.tmp 5), none⟩,
  ⟨(some 19), .bin .neq (.tmp 18) (.const (.int .i64 0)), none⟩])
 (.cond (.tmp 19) (.seq (.reg [⟨(some 20), .mv (.tmp 5), none⟩,
  ⟨(some 4), .mv (.tmp 20), none⟩])
 (.ret)) (.skip)))
 (.seq (.reg [⟨(some 21), .fad 1 (.tmp 2), none⟩,
  ⟨(some 22), .ld none (.tmp 21), none⟩,
  ⟨(some 23), .fad 1 (.tmp 3), none⟩,
  ⟨(some 24), .ld none (.tmp 23), none⟩,
  ⟨(some 25), .call (.func 124) [(.tmp 22), (.tmp 24), (.func 125)], none⟩,
  ⟨(some 4), .mv (.tmp 25), none⟩])
 (.ret))))
def r_impl_compareNests : List ARes := [.tmp 4]
theorem ok_impl_compareNests : FnOk Try.prog 104 26 c_impl_compareNests r_impl_compareNests := ⟨⟨Try.f104, _, Try.func104, by kernel_rfl, rfl, rfl, by kernel_rfl, by kernel_rfl⟩⟩
def c_impl_IsDistribution : ACode := .seq (.reg [⟨(some 2), .mv (.const (.bool false)), none⟩])
 (.seq (.reg [⟨(some 3), .mv (.tmp 0), none⟩,
  ⟨(some 4), .call (.func 127) [(.tmp 3), (.const (.int .i64 16)), (.const (.int .i64 1000))], none⟩,
  ⟨(some 2), .mv (.tmp 4), none⟩])
 (.ret))
def r_impl_IsDistribution : List ARes := [.tmp 2]
theorem ok_impl_IsDistribution : FnOk Try.prog 105 5 c_impl_IsDistribution r_impl_IsDistribution := ⟨⟨Try.f105, _, Try.func105, by kernel_rfl, rfl, rfl, by kernel_rfl, by kernel_rfl⟩⟩
def c_impl_overSum : ACode := .seq (.reg [⟨(some 4), .mv (.const (.int .i64 0)), none⟩])
 (.seq (.reg [⟨(some 5), .mv (.const (.int .i64 0)), none⟩])
 (.seq (.seq (.reg [⟨(some 8), .mv (.tmp 0), none⟩,
  ⟨(some 9), .len (.tmp 8), none⟩,
  ⟨(some 10), .mv (.const (.int .i64 0)), none⟩])
 (.block 0 (.loop (.seq (.reg [⟨(some 11), .bin .lss (.tmp 10) (.tmp 9), none⟩])
 (.seq (.cond (.tmp 11) (.skip) (.exit 0))
 (.seq (.block 1 (.seq (.reg [⟨(some 12), .mv (.tmp 10), none⟩,
  ⟨(some 13), .iad 1 (.tmp 8) (.tmp 10), none⟩,
  ⟨(some 14), .ld none (.tmp 13), none⟩,
  ⟨(some 6), .mv (.tmp 12), none⟩,
  ⟨(some 7), .mv (.tmp 14), none⟩])
 (.reg [⟨(some 15), .mv (.tmp 5), none⟩,
  ⟨(some 16), .mv (.tmp 7), none⟩,
  ⟨(some 17), .mv (.tmp 1), none⟩,
  ⟨(some 18), .mv (.tmp 6), none⟩,
  ⟨(some 19), .bin .sub (.tmp 17) (.tmp 18), none⟩,
  ⟨(some 20), .mmx true (.const (.int .i64 0)) (.tmp 19), none⟩,
  ⟨(some 21), .bin .mul (.tmp 16) (.tmp 20), none⟩,
  ⟨(some 22), .bin .add (.tmp 15) (.tmp 21), none⟩,
  ⟨(some 5), .mv (.tmp 22), none⟩])))
 (.reg [⟨(some 23), .bin .add (.tmp 10) (.const (.int .i64 1)), none⟩,
  ⟨(some 10), .mv (.tmp 23), none⟩])))))))
 (.seq (.reg [⟨(some 24), .mv (.tmp 5), none⟩,
  ⟨(some 4), .mv (.tmp 24), none⟩])
 (.ret))))
def r_impl_overSum : List ARes := [.tmp 4]
theorem ok_impl_overSum : FnOk Try.prog 107 25 c_impl_overSum r_impl_overSum := ⟨⟨Try.f107, _, Try.func107, by kernel_rfl, rfl, rfl, by kernel_rfl, by kernel_rfl⟩⟩
def c_impl_shortSum : ACode := .seq (.reg [⟨(some 4), .mv (.const (.int .i64 0)), none⟩])
 (.seq (.reg [⟨(some 5), .mv (.const (.int .i64 0)), none⟩])
 (.seq (.seq (.reg [⟨(some 8), .mv (.tmp 0), none⟩,
  ⟨(some 9), .len (.tmp 8), none⟩,
  ⟨(some 10), .mv (.const (.int .i64 0)), none⟩])
 (.block 0 (.loop (.seq (.reg [⟨(some 11), .bin .lss (.tmp 10) (.tmp 9), none⟩])
 (.seq (.cond (.tmp 11) (.skip) (.exit 0))
 (.seq (.block 1 (.seq (.reg [⟨(some 12), .mv (.tmp 10), none⟩,
  ⟨(some 13), .iad 1 (.tmp 8) (.tmp 10), none⟩,
  ⟨(some 14), .ld none (.tmp 13), none⟩,
  ⟨(some 6), .mv (.tmp 12), none⟩,
  ⟨(some 7), .mv (.tmp 14), none⟩])
 (.reg [⟨(some 15), .mv (.tmp 5), none⟩,
  ⟨(some 16), .mv (.tmp 7), none⟩,
  ⟨(some 17), .mv (.tmp 6), none⟩,
  ⟨(some 18), .mv (.tmp 1), none⟩,
  ⟨(some 19), .bin .sub (.tmp 17) (.tmp 18), none⟩,
  ⟨(some 20), .mmx true (.const (.int .i64 0)) (.tmp 19), none⟩,
  ⟨(some 21), .bin .mul (.tmp 16) (.tmp 20), none⟩,
  ⟨(some 22), .bin .add (.tmp 15) (.tmp 21), none⟩,
  ⟨(some 5), .mv (.tmp 22), none⟩])))
 (.reg [⟨(some 23), .bin .add (.tmp 10) (.const (.int .i64 1)), none⟩,
  ⟨(some 10), .mv (.tmp 23), none⟩])))))))
 (.seq (.reg [⟨(some 24), .mv (.tmp 5), none⟩,
  ⟨(some 4), .mv (.tmp 24), none⟩])
 (.ret))))
def r_impl_shortSum : List ARes := [.tmp 4]
theorem ok_impl_shortSum : FnOk Try.prog 108 25 c_impl_shortSum r_impl_shortSum := ⟨⟨Try.f108, _, Try.func108, by kernel_rfl, rfl, rfl, by kernel_rfl, by kernel_rfl⟩⟩
def c_impl_echelonHold : ACode := .seq (.reg [⟨(some 2), .box 50 (.tmp 0), none⟩,
  ⟨(some 4), .mv (.const (.int .i64 0)), none⟩])
 (.seq (.seq (.reg [⟨(some 5), .mv (.tmp 1), none⟩,
  ⟨(some 6), .bin .eql (.tmp 5) (.const (.int .i64 0)), none⟩])
 (.cond (.tmp 6) (.seq (.reg [⟨(some 7), .fad 2 (.tmp 2), none⟩,
  ⟨(some 8), .ld none (.tmp 7), none⟩,
  ⟨(some 9), .iad 1 (.tmp 8) (.const (.int .i64 0)), none⟩,
  ⟨(some 10), .ld none (.tmp 9), none⟩,
  ⟨(some 4), .mv (.tmp 10), none⟩])
 (.ret)) (.skip)))
 (.seq (.reg [⟨(some 11), .fad 2 (.tmp 2), none⟩,
  ⟨(some 12), .ld none (.tmp 11), none⟩,
  ⟨(some 13), .mv (.tmp 1), none⟩,
  ⟨(some 14), .iad 1 (.tmp 12) (.tmp 13), none⟩,
  ⟨(some 15), .ld none (.tmp 14), none⟩,
  ⟨(some 16), .fad 2 (.tmp 2), none⟩,
  ⟨(some 17), .ld none (.tmp 16), none⟩,
  ⟨(some 18), .mv (.tmp 1), none⟩,
  ⟨(some 19), .bin .sub (.tmp 18) (.const (.int .i64 1)), none⟩,
  ⟨(some 20), .iad 1 (.tmp 17) (.tmp 19), none⟩,
  ⟨(some 21), .ld none (.tmp 20), none⟩,
  ⟨(some 22), .bin .sub (.tmp 15) (.tmp 21), none⟩,
  ⟨(some 4), .mv (.tmp 22), none⟩])
 (.ret)))
def r_impl_echelonHold : List ARes := [.tmp 4]
theorem ok_impl_echelonHold : FnOk Try.prog 114 23 c_impl_echelonHold r_impl_echelonHold := ⟨⟨Try.f114, _, Try.func114, by kernel_rfl, rfl, rfl, by kernel_rfl, by kernel_rfl⟩⟩
def c_impl_isAscending : ACode := .seq (.reg [⟨(some 4), .mv (.const (.bool false)), none⟩])
 (.seq (.reg [⟨(some 5), .mv (.const (.int .i64 0)), none⟩])
 (.seq (.seq (.reg [⟨(some 8), .mv (.tmp 0), none⟩,
  ⟨(some 9), .len (.tmp 8), none⟩,
  ⟨(some 10), .mv (.const (.int .i64 0)), none⟩])
 (.block 0 (.loop (.seq (.reg [⟨(some 11), .bin .lss (.tmp 10) (.tmp 9), none⟩])
 (.seq (.cond (.tmp 11) (.skip) (.exit 0))
 (.seq (.block 1 (.seq (.reg [⟨(some 12), .iad 1 (.tmp 8) (.tmp 10), none⟩,
  ⟨(some 13), .ld none (.tmp 12), none⟩,
  ⟨(some 7), .mv (.tmp 13), none⟩])
 (.seq (.seq (.reg [⟨(some 14), .mv (.tmp 7), none⟩,
  ⟨(some 15), .mv (.tmp 5), none⟩,
  ⟨(some 16), .bin .lss (.tmp 14) (.tmp 15), none⟩,
  ⟨(some 17), .mv (.tmp 16), none⟩,
  ⟨(some 18), .mv (.tmp 7), (some (17, false))⟩,
  ⟨(some 19), .mv (.tmp 1), (some (17, false))⟩,
  ⟨(some 20), .bin .geq (.tmp 18) (.tmp 19), (some (17, false))⟩,
  ⟨(some 21), .pick (.tmp 17) (.const (.bool true)) (.tmp 20), none⟩])
 (.cond (.tmp 21) (.seq (.reg [⟨(some 4), .mv (.const (.bool false)), none⟩])
 (.ret)) (.skip)))
 (.reg [⟨(some 22), .mv (.tmp 7), none⟩,
  ⟨(some 23), .bin .add (.tmp 22) (.const (.int .i64 1)), none⟩,
  ⟨(some 5), .mv (.tmp 23), none⟩]))))
 (.reg [⟨(some 24), .bin .add (.tmp 10) (.const (.int .i64 1)), none⟩,
  ⟨(some 10), .mv (.tmp 24), none⟩])))))))
 (.seq (.reg [⟨(some 4), .mv (.const (.bool true)), none⟩])
 (.ret))))
def r_impl_isAscending : List ARes := [.tmp 4]
theorem ok_impl_isAscending : FnOk Try.prog 117 25 c_impl_isAscending r_impl_isAscending := ⟨⟨Try.f117, _, Try.func117, by kernel_rfl, rfl, rfl, by kernel_rfl, by kernel_rfl⟩⟩
def c_impl_CostParts : ACode := .seq (.reg [⟨(some 2), .box 26 (.tmp 0), none⟩,
  ⟨(some 4), .mv (.const (.int .i64 0)), none⟩,
  ⟨(some 5), .mv (.const (.int .i64 0)), none⟩,
  ⟨(some 6), .mv (.const (.int .i64 0)), none⟩,
  ⟨(some 7), .mv (.const (.bool false)), none⟩])
 (.seq (.reg [⟨(some 16), .ld (some 4) (.tmp 2), none⟩,
  ⟨(some 17), .mv (.tmp 1), none⟩,
  ⟨(some 18), .call (.func 132) [(.tmp 16), (.tmp 17)], none⟩,
  ⟨(some 15), .mv (.tmp 18), none⟩,
  ⟨(some 19), .ext 0 (.tmp 15), none⟩,
  ⟨(some 20), .ext 1 (.tmp 15), none⟩,
  ⟨(some 8), .mv (.tmp 19), none⟩,
  ⟨(some 9), .mv (.tmp 20), none⟩])
 (.seq (.seq (.reg [⟨(some 21), .mv (.tmp 9), none⟩,
  ⟨(some 22), .un .not (.tmp 21), none⟩])
 (.cond (.tmp 22) (.seq (.reg [⟨(some 4), .mv (.const (.int .i64 0)), none⟩,
  ⟨(some 5), .mv (.const (.int .i64 0)), none⟩,
  ⟨(some 6), .mv (.const (.int .i64 0)), none⟩,
  ⟨(some 7), .mv (.const (.bool false)), none⟩])
 (.ret)) (.skip)))
 (.seq (.reg [⟨(some 10), .mv (.const (.int .i64 0)), none⟩,
  ⟨(some 11), .mv (.const (.int .i64 0)), none⟩,
  ⟨(some 12), .mv (.const (.int .i64 0)), none⟩])
 (.seq (.seq (.reg [⟨(some 23), .mv (.tmp 1), none⟩,
  ⟨(some 24), .len (.tmp 23), none⟩,
  ⟨(some 25), .mv (.const (.int .i64 0)), none⟩])
 (.block 0 (.loop (.seq (.reg [⟨(some 26), .bin .lss (.tmp 25) (.tmp 24), none⟩])
 (.seq (.cond (.tmp 26) (.skip) (.exit 0))
 (.seq (.block 1 (.seq (.reg [⟨(some 27), .mv (.tmp 25), none⟩,
  ⟨(some 28), .iad 1 (.tmp 23) (.tmp 25), none⟩,
  ⟨(some 29), .ld none (.tmp 28), none⟩,
  ⟨(some 13), .mv (.tmp 27), none⟩,
  ⟨(some 14), .mv (.tmp 29), none⟩])
 (.seq (.seq (.reg [⟨(some 30), .mv (.tmp 14), none⟩,
  ⟨(some 31), .bin .gtr (.tmp 30) (.const (.int .i64 0)), none⟩])
 (.cond (.tmp 31) (.reg [⟨(some 32), .mv (.tmp 10), none⟩,
  ⟨(some 33), .fad 1 (.tmp 2), none⟩,
  ⟨(some 34), .ld none (.tmp 33), none⟩,
  ⟨(some 35), .mv (.tmp 13), none⟩,
  ⟨(some 36), .iad 1 (.tmp 34) (.tmp 35), none⟩,
  ⟨(some 37), .ld none (.tmp 36), none⟩,
  ⟨(some 38), .bin .add (.tmp 32) (.tmp 37), none⟩,
  ⟨(some 10), .mv (.tmp 38), none⟩]) (.skip)))
 (.seq (.reg [⟨(some 39), .mv (.tmp 11), none⟩,
  ⟨(some 40), .fad 2 (.tmp 2), none⟩,
  ⟨(some 41), .ld none (.tmp 40), none⟩,
  ⟨(some 42), .mv (.tmp 13), none⟩,
  ⟨(some 43), .iad 1 (.tmp 41) (.tmp 42), none⟩,
  ⟨(some 44), .ld none (.tmp 43), none⟩,
  ⟨(some 45), .mv (.tmp 14), none⟩,
  ⟨(some 46), .bin .mul (.tmp 44) (.tmp 45), none⟩,
  ⟨(some 47), .bin .add (.tmp 39) (.tmp 46), none⟩,
  ⟨(some 11), .mv (.tmp 47), none⟩])
 (.reg [⟨(some 48), .mv (.tmp 12), none⟩,
  ⟨(some 49), .fad 3 (.tmp 2), none⟩,
  ⟨(some 50), .ld none (.tmp 49), none⟩,
  ⟨(some 51), .mv (.tmp 13), none⟩,
  ⟨(some 52), .iad 1 (.tmp 50) (.tmp 51), none⟩,
  ⟨(some 53), .ld none (.tmp 52), none⟩,
  ⟨(some 54), .mv (.tmp 8), none⟩,
  ⟨(some 55), .mv (.tmp 13), none⟩,
  ⟨(some 56), .iad 1 (.tmp 54) (.tmp 55), none⟩,
  ⟨(some 57), .ld none (.tmp 56), none⟩,
  ⟨(some 58), .bin .mul (.tmp 53) (.tmp 57), none⟩,
  ⟨(some 59), .bin .add (.tmp 48) (.tmp 58), none⟩,
  ⟨(some 12), .mv (.tmp 59), none⟩])))))
 (.reg [⟨(some 60), .bin .add (.tmp 25) (.const (.int .i64 1)), none⟩,
  ⟨(some 25), .mv (.tmp 60), none⟩])))))))
 (.seq (.reg [⟨(some 61), .mv (.tmp 10), none⟩,
  ⟨(some 62), .mv (.tmp 11), none⟩,
  ⟨(some 63), .mv (.tmp 12), none⟩,
  ⟨(some 4), .mv (.tmp 61), none⟩,
  ⟨(some 5), .mv (.tmp 62), none⟩,
  ⟨(some 6), .mv (.tmp 63), none⟩,
  ⟨(some 7), .mv (.const (.bool true)), none⟩])
 (.ret))))))
def r_impl_CostParts : List ARes := [.tmp 4, .tmp 5, .tmp 6, .tmp 7]
theorem ok_impl_CostParts : FnOk Try.prog 119 64 c_impl_CostParts r_impl_CostParts := ⟨⟨Try.f119, _, Try.func119, by kernel_rfl, rfl, rfl, by kernel_rfl, by kernel_rfl⟩⟩
def c_impl_lengthOf : ACode := .seq (.reg [⟨(some 1), .box 87 (.tmp 0), none⟩,
  ⟨(some 2), .mv (.const (.int .i64 0)), none⟩])
 (.seq (.reg [⟨(some 3), .mv (.const (.int .i64 0)), none⟩])
 (.seq (.seq (.reg [⟨(some 6), .fad 1 (.tmp 1), none⟩,
  ⟨(some 7), .ld none (.tmp 6), none⟩,
  ⟨(some 8), .len (.tmp 7), none⟩,
  ⟨(some 9), .mv (.const (.int .i64 0)), none⟩])
 (.block 0 (.loop (.seq (.reg [⟨(some 10), .bin .lss (.tmp 9) (.tmp 8), none⟩])
 (.seq (.cond (.tmp 10) (.skip) (.exit 0))
 (.seq (.block 1 (.seq (.reg [⟨(some 11), .iad 1 (.tmp 7) (.tmp 9), none⟩,
  ⟨(some 12), .ld none (.tmp 11), none⟩,
  ⟨(some 5), .mv (.tmp 12), none⟩])
 (.reg [⟨(some 13), .mv (.tmp 3), none⟩,
  ⟨(some 14), .mv (.tmp 5), none⟩,
  ⟨(some 15), .call (.func 135) [(.tmp 14)], none⟩,
  ⟨(some 16), .bin .add (.tmp 13) (.tmp 15), none⟩,
  ⟨(some 3), .mv (.tmp 16), none⟩])))
 (.reg [⟨(some 17), .bin .add (.tmp 9) (.const (.int .i64 1)), none⟩,
  ⟨(some 9), .mv (.tmp 17), none⟩])))))))
 (.seq (.reg [⟨(some 18), .mv (.tmp 3), none⟩,
  ⟨(some 2), .mv (.tmp 18), none⟩])
 (.ret))))
def r_impl_lengthOf : List ARes := [.tmp 2]
theorem ok_impl_lengthOf : FnOk Try.prog 123 19 c_impl_lengthOf r_impl_lengthOf := ⟨⟨Try.f123, _, Try.func123, by kernel_rfl, rfl, rfl, by kernel_rfl, by kernel_rfl⟩⟩
def c_impl_compareNests_1 : ACode := .seq (.reg [⟨(some 4), .mv (.const (.int .i64 0)), none⟩])
 (.seq (.reg [⟨(some 5), .mv (.tmp 0), none⟩,
  ⟨(some 6), .call (.func 64) [(.tmp 5)], none⟩,
  ⟨(some 7), .mv (.tmp 1), none⟩,
  ⟨(some 8), .call (.func 64) [(.tmp 7)], none⟩,
  ⟨(some 9), .call (.func 126) [(.tmp 6), (.tmp 8)], none⟩,
  ⟨(some 4), .mv (.tmp 9), none⟩])
 (.ret))
def r_impl_compareNests_1 : List ARes := [.tmp 4]
theorem ok_impl_compareNests_1 : FnOk Try.prog 125 10 c_impl_compareNests_1 r_impl_compareNests_1 := ⟨⟨Try.f125, _, Try.func125, by kernel_rfl, rfl, rfl, by kernel_rfl, by kernel_rfl⟩⟩
def c_impl_areWeights : ACode := .seq (.reg [⟨(some 6), .mv (.const (.bool false)), none⟩])
 (.seq (.reg [⟨(some 7), .mv (.tmp 0), none⟩,
  ⟨(some 8), .len (.tmp 7), none⟩,
  ⟨(some 9), .mv (.tmp 1), none⟩,
  ⟨(some 10), .bin .leq (.tmp 8) (.tmp 9), none⟩,
  ⟨(some 11), .mv (.tmp 10), none⟩,
  ⟨(some 12), .mv (.tmp 0), (some (11, true))⟩,
  ⟨(some 13), .mv (.tmp 0), (some (11, true))⟩,
  ⟨(some 14), .len (.tmp 13), (some (11, true))⟩,
  ⟨(some 15), .mv (.tmp 2), (some (11, true))⟩,
  ⟨(some 16), .call (.func 50) [(.tmp 12), (.tmp 14), (.tmp 15)], (some (11, true))⟩,
  ⟨(some 17), .pick (.tmp 11) (.tmp 16) (.const (.bool false)), none⟩,
  ⟨(some 18), .mv (.tmp 17), none⟩,
  ⟨(some 19), .mv (.tmp 0), (some (18, true))⟩,
  ⟨(some 20), .call (.func 73) [(.tmp 19)], (some (18, true))⟩,
  ⟨(some 21), .bin .gtr (.tmp 20) (.const (.int .i64 0)), (some (18, true))⟩,
  ⟨(some 22), .pick (.tmp 18) (.tmp 21) (.const (.bool false)), none⟩,
  ⟨(some 6), .mv (.tmp 22), none⟩])
 (.ret))
def r_impl_areWeights : List ARes := [.tmp 6]
theorem ok_impl_areWeights : FnOk Try.prog 127 23 c_impl_areWeights r_impl_areWeights := ⟨⟨Try.f127, _, Try.func127, by kernel_rfl, rfl, rfl, by kernel_rfl, by kernel_rfl⟩⟩
def c_impl_StocksOf : ACode := .seq (.reg [⟨(some 2), .box 26 (.tmp 0), none⟩,
  ⟨(some 4), .mv (.const (.slice none 0 0)), none⟩,
  ⟨(some 5), .mv (.const (.bool false)), none⟩])
 (.seq (.seq (.reg [⟨(some 6), .ld (some 4) (.tmp 2), none⟩,
  ⟨(some 7), .call (.func 42) [(.tmp 6)], none⟩,
  ⟨(some 8), .un .not (.tmp 7), none⟩])
 (.cond (.tmp 8) (.seq (.reg [⟨(some 9), .bsl 3 1 0 [] [], none⟩,
  ⟨(some 4), .mv (.tmp 9), none⟩,
  ⟨(some 5), .mv (.const (.bool false)), none⟩])
 (.ret)) (.skip)))
 (.seq (.reg [⟨(some 10), .fad 0 (.tmp 2), none⟩,
  ⟨(some 11), .ld none (.tmp 10), none⟩,
  ⟨(some 12), .mv (.tmp 1), none⟩,
  ⟨(some 13), .call (.func 136) [(.tmp 11), (.tmp 12)], none⟩,
  ⟨(some 14), .ext 0 (.tmp 13), none⟩,
  ⟨(some 15), .ext 1 (.tmp 13), none⟩,
  ⟨(some 4), .mv (.tmp 14), none⟩,
  ⟨(some 5), .mv (.tmp 15), none⟩])
 (.ret)))
def r_impl_StocksOf : List ARes := [.tmp 4, .tmp 5]
theorem ok_impl_StocksOf : FnOk Try.prog 132 16 c_impl_StocksOf r_impl_StocksOf := ⟨⟨Try.f132, _, Try.func132, by kernel_rfl, rfl, rfl, by kernel_rfl, by kernel_rfl⟩⟩
def c_impl_stocksFor : ACode := .seq (.reg [⟨(some 4), .mv (.const (.slice none 0 0)), none⟩,
  ⟨(some 5), .mv (.const (.bool false)), none⟩])
 (.seq (.reg [⟨(some 9), .mv (.tmp 0), none⟩,
  ⟨(some 10), .mv (.tmp 1), none⟩,
  ⟨(some 11), .call (.func 139) [(.tmp 9), (.tmp 10)], none⟩,
  ⟨(some 8), .mv (.tmp 11), none⟩,
  ⟨(some 12), .ext 0 (.tmp 8), none⟩,
  ⟨(some 13), .ext 1 (.tmp 8), none⟩,
  ⟨(some 6), .mv (.tmp 12), none⟩,
  ⟨(some 7), .mv (.tmp 13), none⟩])
 (.seq (.seq (.reg [⟨(some 14), .mv (.tmp 7), none⟩,
  ⟨(some 15), .un .not (.tmp 14), none⟩,
  ⟨(some 16), .mv (.tmp 15), none⟩,
  ⟨(some 17), .mv (.tmp 6), (some (16, false))⟩,
  ⟨(some 18), .call (.func 83) [(.tmp 17), (.func 140)], (some (16, false))⟩,
  ⟨(some 19), .pick (.tmp 16) (.const (.bool true)) (.tmp 18), none⟩])
 (.cond (.tmp 19) (.seq (.reg [⟨(some 20), .bsl 3 1 0 [] [], none⟩,
  ⟨(some 4), .mv (.tmp 20), none⟩,
  ⟨(some 5), .mv (.const (.bool false)), none⟩])
 (.ret)) (.skip)))
 (.seq (.reg [⟨(some 21), .mv (.tmp 6), none⟩,
  ⟨(some 4), .mv (.tmp 21), none⟩,
  ⟨(some 5), .mv (.const (.bool true)), none⟩])
 (.ret))))
def r_impl_stocksFor : List ARes := [.tmp 4, .tmp 5]
theorem ok_impl_stocksFor : FnOk Try.prog 136 22 c_impl_stocksFor r_impl_stocksFor := ⟨⟨Try.f136, _, Try.func136, by kernel_rfl, rfl, rfl, by kernel_rfl, by kernel_rfl⟩⟩
def c_impl_balancesFor : ACode := .seq (.reg [⟨(some 4), .mv (.const (.slice none 0 0)), none⟩,
  ⟨(some 5), .mv (.const (.bool false)), none⟩])
 (.seq (.seq (.reg [⟨(some 10), .mv (.tmp 1), none⟩,
  ⟨(some 11), .mv (.tmp 0), none⟩,
  ⟨(some 12), .len (.tmp 11), none⟩,
  ⟨(some 13), .mv (.tmp 0), none⟩,
  ⟨(some 14), .call (.func 73) [(.tmp 13)], none⟩,
  ⟨(some 15), .call (.func 50) [(.tmp 10), (.tmp 12), (.tmp 14)], none⟩,
  ⟨(some 16), .un .not (.tmp 15), none⟩])
 (.cond (.tmp 16) (.seq (.reg [⟨(some 17), .bsl 3 1 0 [] [], none⟩,
  ⟨(some 4), .mv (.tmp 17), none⟩,
  ⟨(some 5), .mv (.const (.bool false)), none⟩])
 (.ret)) (.skip)))
 (.seq (.reg [⟨(some 6), .mv (.const (.int .i64 0)), none⟩])
 (.seq (.reg [⟨(some 18), .bsl 3 1 0 [] [], none⟩,
  ⟨(some 7), .mv (.tmp 18), none⟩])
 (.seq (.seq (.reg [⟨(some 19), .mv (.tmp 1), none⟩,
  ⟨(some 20), .len (.tmp 19), none⟩,
  ⟨(some 21), .mv (.const (.int .i64 0)), none⟩])
 (.block 0 (.loop (.seq (.reg [⟨(some 22), .bin .lss (.tmp 21) (.tmp 20), none⟩])
 (.seq (.cond (.tmp 22) (.skip) (.exit 0))
 (.seq (.block 1 (.seq (.reg [⟨(some 23), .mv (.tmp 21), none⟩,
  ⟨(some 24), .iad 1 (.tmp 19) (.tmp 21), none⟩,
  ⟨(some 25), .ld none (.tmp 24), none⟩,
  ⟨(some 8), .mv (.tmp 23), none⟩,
  ⟨(some 9), .mv (.tmp 25), none⟩])
 (.seq (.reg [⟨(some 26), .mv (.tmp 6), none⟩,
  ⟨(some 27), .mv (.tmp 9), none⟩,
  ⟨(some 28), .mv (.tmp 0), none⟩,
  ⟨(some 29), .mv (.tmp 8), none⟩,
  ⟨(some 30), .iad 1 (.tmp 28) (.tmp 29), none⟩,
  ⟨(some 31), .ld none (.tmp 30), none⟩,
  ⟨(some 32), .bin .sub (.tmp 27) (.tmp 31), none⟩,
  ⟨(some 33), .bin .add (.tmp 26) (.tmp 32), none⟩,
  ⟨(some 6), .mv (.tmp 33), none⟩])
 (.reg [⟨(some 34), .mv (.tmp 7), none⟩,
  ⟨(some 35), .mv (.tmp 6), none⟩,
  ⟨(some 36), .bsl 3 1 1 [(.int .i64 0)] [(0, 1, (.tmp 35))], none⟩,
  ⟨(some 37), .app 3 1 8 (.tmp 34) (.tmp 36), none⟩,
  ⟨(some 7), .mv (.tmp 37), none⟩]))))
 (.reg [⟨(some 38), .bin .add (.tmp 21) (.const (.int .i64 1)), none⟩,
  ⟨(some 21), .mv (.tmp 38), none⟩])))))))
 (.seq (.seq (.reg [⟨(some 39), .mv (.tmp 6), none⟩,
  ⟨(some 40), .bin .neq (.tmp 39) (.const (.int .i64 0)), none⟩])
 (.cond (.tmp 40) (.seq (.reg [⟨(some 41), .bsl 3 1 0 [] [], none⟩,
  ⟨(some 4), .mv (.tmp 41), none⟩,
  ⟨(some 5), .mv (.const (.bool false)), none⟩])
 (.ret)) (.skip)))
 (.seq (.reg [⟨(some 42), .mv (.tmp 7), none⟩,
  ⟨(some 4), .mv (.tmp 42), none⟩,
  ⟨(some 5), .mv (.const (.bool true)), none⟩])
 (.ret)))))))
def r_impl_balancesFor : List ARes := [.tmp 4, .tmp 5]
theorem ok_impl_balancesFor : FnOk Try.prog 139 43 c_impl_balancesFor r_impl_balancesFor := ⟨⟨Try.f139, _, Try.func139, by kernel_rfl, rfl, rfl, by kernel_rfl, by kernel_rfl⟩⟩
def c_impl_isOwed : ACode := .seq (.reg [⟨(some 2), .mv (.const (.bool false)), none⟩])
 (.seq (.reg [⟨(some 3), .mv (.tmp 0), none⟩,
  ⟨(some 4), .bin .lss (.tmp 3) (.const (.int .i64 0)), none⟩,
  ⟨(some 2), .mv (.tmp 4), none⟩])
 (.ret))
def r_impl_isOwed : List ARes := [.tmp 2]
theorem ok_impl_isOwed : FnOk Try.prog 140 5 c_impl_isOwed r_impl_isOwed := ⟨⟨Try.f140, _, Try.func140, by kernel_rfl, rfl, rfl, by kernel_rfl, by kernel_rfl⟩⟩
def c_impl_kit__bestFor : ACode := .seq (.reg [⟨(some 4), .alc 87 [(.int .i64 0), (.slice none 0 0)], none⟩])
 (.seq (.reg [⟨(some 9), .bld [(.int .i64 0), (.slice none 0 0)] [], none⟩,
  ⟨(some 5), .alc 87 [(.int .i64 0), (.slice none 0 0)], none⟩,
  ⟨none, .st 2 (.tmp 5) (.tmp 9), none⟩])
 (.seq (.seq (.reg [⟨(some 10), .mv (.tmp 0), none⟩,
  ⟨(some 11), .len (.tmp 10), none⟩,
  ⟨(some 12), .mv (.const (.int .i64 0)), none⟩])
 (.block 0 (.loop (.seq (.reg [⟨(some 13), .bin .lss (.tmp 12) (.tmp 11), none⟩])
 (.seq (.cond (.tmp 13) (.skip) (.exit 0))
 (.seq (.block 1 (.seq (.reg [⟨(some 14), .iad 1 (.tmp 10) (.tmp 12), none⟩,
  ⟨(some 15), .ld none (.tmp 14), none⟩,
  ⟨(some 7), .mv (.tmp 15), none⟩])
 (.seq (.reg [⟨(some 16), .mv (.tmp 7), none⟩,
  ⟨(some 17), .mv (.tmp 1), none⟩,
  ⟨(some 18), .inv (.tmp 16) "loop.example/g01111/impl.bestFor" [(.tmp 17)], none⟩,
  ⟨(some 8), .alc 87 [(.int .i64 0), (.slice none 0 0)], none⟩,
  ⟨none, .st 2 (.tmp 8) (.tmp 18), none⟩])
 (.seq (.reg [⟨(some 19), .fad 0 (.tmp 5), none⟩]) (.seq (.reg [⟨(some 21), .fad 0 (.tmp 8), none⟩]) (.seq (.reg [⟨(some 24), .fad 1 (.tmp 5), none⟩]) (.seq (.reg [⟨(some 25), .ld none (.tmp 24), none⟩]) (.seq (.reg [⟨(some 26), .fad 1 (.tmp 8), none⟩]) (.seq (.reg [⟨(some 27), .ld none (.tmp 26), none⟩]) (.both (.seq (.reg [⟨(some 20), .ld none (.tmp 19), none⟩]) (.both (.seq (.reg [⟨(some 22), .ld none (.tmp 21), none⟩]) (.seq (.reg [⟨(some 23), .bin .add (.tmp 20) (.tmp 22), none⟩]) (.seq (.reg [⟨(some 28), .app 90 1 8 (.tmp 25) (.tmp 27), none⟩]) (.seq (.reg [⟨(some 29), .bld [(.int .i64 0), (.slice none 0 0)] [(0, 1, (.tmp 23)), (1, 1, (.tmp 28))], none⟩]) (.seq (.reg [⟨none, .st 2 (.tmp 5) (.tmp 29), none⟩]) (.skip)))))) (.seq (.reg [⟨(some 28), .app 90 1 8 (.tmp 25) (.tmp 27), none⟩]) (.seq (.reg [⟨(some 22), .ld none (.tmp 21), none⟩]) (.seq (.reg [⟨(some 23), .bin .add (.tmp 20) (.tmp 22), none⟩]) (.seq (.reg [⟨(some 29), .bld [(.int .i64 0), (.slice none 0 0)] [(0, 1, (.tmp 23)), (1, 1, (.tmp 28))], none⟩]) (.seq (.reg [⟨none, .st 2 (.tmp 5) (.tmp 29), none⟩]) (.skip)))))))) (.both (.seq (.reg [⟨(some 22), .ld none (.tmp 21), none⟩]) (.both (.seq (.reg [⟨(some 20), .ld none (.tmp 19), none⟩]) (.seq (.reg [⟨(some 23), .bin .add (.tmp 20) (.tmp 22), none⟩]) (.seq (.reg [⟨(some 28), .app 90 1 8 (.tmp 25) (.tmp 27), none⟩]) (.seq (.reg [⟨(some 29), .bld [(.int .i64 0), (.slice none 0 0)] [(0, 1, (.tmp 23)), (1, 1, (.tmp 28))], none⟩]) (.seq (.reg [⟨none, .st 2 (.tmp 5) (.tmp 29), none⟩]) (.skip)))))) (.seq (.reg [⟨(some 28), .app 90 1 8 (.tmp 25) (.tmp 27), none⟩]) (.seq (.reg [⟨(some 20), .ld none (.tmp 19), none⟩]) (.seq (.reg [⟨(some 23), .bin .add (.tmp 20) (.tmp 22), none⟩]) (.seq (.reg [⟨(some 29), .bld [(.int .i64 0), (.slice none 0 0)] [(0, 1, (.tmp 23)), (1, 1, (.tmp 28))], none⟩]) (.seq (.reg [⟨none, .st 2 (.tmp 5) (.tmp 29), none⟩]) (.skip)))))))) (.seq (.reg [⟨(some 28), .app 90 1 8 (.tmp 25) (.tmp 27), none⟩]) (.seq (.reg [⟨(some 20), .ld none (.tmp 19), none⟩]) (.seq (.reg [⟨(some 22), .ld none (.tmp 21), none⟩]) (.seq (.reg [⟨(some 23), .bin .add (.tmp 20) (.tmp 22), none⟩]) (.seq (.reg [⟨(some 29), .bld [(.int .i64 0), (.slice none 0 0)] [(0, 1, (.tmp 23)), (1, 1, (.tmp 28))], none⟩]) (.seq (.reg [⟨none, .st 2 (.tmp 5) (.tmp 29), none⟩]) (.skip))))))))))))))))))
 (.reg [⟨(some 30), .bin .add (.tmp 12) (.const (.int .i64 1)), none⟩,
  ⟨(some 12), .mv (.tmp 30), none⟩])))))))
 (.seq (.reg [⟨(some 31), .ld (some 2) (.tmp 5), none⟩,
  ⟨none, .st 2 (.tmp 4) (.tmp 31), none⟩])
 (.ret))))
def r_impl_kit__bestFor : List ARes := [.cell 4 (some 2)]
theorem ok_impl_kit__bestFor : FnOk Try.prog 156 32 c_impl_kit__bestFor r_impl_kit__bestFor := ⟨⟨Try.f156, _, Try.func156, by kernel_rfl, rfl, rfl, by kernel_rfl, by kernel_rfl⟩⟩
def c_impl_outside__bestFor : ACode := .seq (.reg [⟨(some 2), .box 107 (.tmp 0), none⟩,
  ⟨(some 4), .alc 87 [(.int .i64 0), (.slice none 0 0)], none⟩])
 (.seq (.reg [⟨(some 5), .bld [(.int .i64 0), (.slice none 0 0)] [], none⟩,
  ⟨none, .st 2 (.tmp 4) (.tmp 5), none⟩])
 (.ret))
def r_impl_outside__bestFor : List ARes := [.cell 4 (some 2)]
theorem ok_impl_outside__bestFor : FnOk Try.prog 157 6 c_impl_outside__bestFor r_impl_outside__bestFor := ⟨⟨Try.f157, _, Try.func157, by kernel_rfl, rfl, rfl, by kernel_rfl, by kernel_rfl⟩⟩
end Go.Proofs.Ytghaogfhmbjlkaa.Ab
