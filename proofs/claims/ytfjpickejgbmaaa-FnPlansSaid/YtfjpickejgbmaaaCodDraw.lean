/- The compiled forms of functions, each checked against the translation. -/
import Derived.Test.YtfjpickejgbmaaaAb2
import Derived.Test.YtfjpickejgbmaaaProg
namespace Go.Proofs.Ytfjpickejgbmaaa.Ab
open Go Go.RowKit Go.Proofs
set_option maxRecDepth 100000
def c_spec_DrawPlanCost : ACode := .seq (.reg [⟨(some 2), .alc 26 [(.slice none 0 0), (.slice none 0 0), (.slice none 0 0), (.slice none 0 0)], none⟩,
  ⟨(some 3), .mv (.const (.slice none 0 0)), none⟩])
 (.seq (.reg [⟨(some 4), .mv (.tmp 0), none⟩,
  ⟨(some 5), .call (.func 21) [(.tmp 4)], none⟩,
  ⟨(some 6), .ext 0 (.tmp 5), none⟩,
  ⟨(some 7), .ext 1 (.tmp 5), none⟩,
  ⟨none, .st 4 (.tmp 2) (.tmp 6), none⟩,
  ⟨(some 3), .mv (.tmp 7), none⟩])
 (.ret))
def r_spec_DrawPlanCost : List ARes := [.cell 2 (some 4), .tmp 3]
theorem ok_spec_DrawPlanCost : FnOk Try.prog 5 8 c_spec_DrawPlanCost r_spec_DrawPlanCost := ⟨⟨Try.f5, _, Try.func5, by kernel_rfl, rfl, rfl, by kernel_rfl, by kernel_rfl⟩⟩
def c_spec_DrawStocksOf : ACode := .seq (.reg [⟨(some 2), .alc 26 [(.slice none 0 0), (.slice none 0 0), (.slice none 0 0), (.slice none 0 0)], none⟩,
  ⟨(some 3), .mv (.const (.slice none 0 0)), none⟩])
 (.seq (.reg [⟨(some 6), .mv (.tmp 0), none⟩,
  ⟨(some 7), .bld [(.slice none 0 0), (.int .i64 0), (.int .u64 0)] [(0, 1, (.tmp 6))], none⟩,
  ⟨(some 8), .box 52 (.tmp 7), none⟩,
  ⟨(some 4), .mv (.tmp 8), none⟩])
 (.seq (.reg [⟨(some 9), .mv (.tmp 4), none⟩,
  ⟨(some 10), .call (.func 33) [(.tmp 9)], none⟩,
  ⟨(some 5), .alc 26 [(.slice none 0 0), (.slice none 0 0), (.slice none 0 0), (.slice none 0 0)], none⟩,
  ⟨none, .st 4 (.tmp 5) (.tmp 10), none⟩])
 (.seq (.seq (.reg [⟨(some 12), .mv (.tmp 4), none⟩]) (.seq (.reg [⟨(some 13), .ld (some 4) (.tmp 5), none⟩]) (.both (.seq (.reg [⟨(some 11), .ld (some 4) (.tmp 5), none⟩]) (.seq (.reg [⟨(some 14), .call (.func 34) [(.tmp 12), (.tmp 13)], none⟩]) (.seq (.reg [⟨none, .st 4 (.tmp 2) (.tmp 11), none⟩]) (.seq (.reg [⟨(some 3), .mv (.tmp 14), none⟩]) (.skip))))) (.seq (.reg [⟨(some 14), .call (.func 34) [(.tmp 12), (.tmp 13)], none⟩]) (.seq (.reg [⟨(some 11), .ld (some 4) (.tmp 5), none⟩]) (.seq (.reg [⟨none, .st 4 (.tmp 2) (.tmp 11), none⟩]) (.seq (.reg [⟨(some 3), .mv (.tmp 14), none⟩]) (.skip))))))))
 (.ret))))
def r_spec_DrawStocksOf : List ARes := [.cell 2 (some 4), .tmp 3]
theorem ok_spec_DrawStocksOf : FnOk Try.prog 21 15 c_spec_DrawStocksOf r_spec_DrawStocksOf := ⟨⟨Try.f21, _, Try.func21, by kernel_rfl, rfl, rfl, by kernel_rfl, by kernel_rfl⟩⟩
def c_spec_l1Cur__lots : ACode := .seq (.reg [⟨(some 2), .alc 26 [(.slice none 0 0), (.slice none 0 0), (.slice none 0 0), (.slice none 0 0)], none⟩])
 (.seq (.reg [⟨(some 3), .mv (.tmp 0), none⟩,
  ⟨(some 4), .call (.func 41) [(.tmp 3), (.const (.int .i64 8))], none⟩,
  ⟨none, .st 4 (.tmp 2) (.tmp 4), none⟩])
 (.ret))
def r_spec_l1Cur__lots : List ARes := [.cell 2 (some 4)]
theorem ok_spec_l1Cur__lots : FnOk Try.prog 33 5 c_spec_l1Cur__lots r_spec_l1Cur__lots := ⟨⟨Try.f33, _, Try.func33, by kernel_rfl, rfl, rfl, by kernel_rfl, by kernel_rfl⟩⟩
def c_spec_l1Cur__amounts : ACode := .seq (.reg [⟨(some 3), .box 26 (.tmp 1), none⟩,
  ⟨(some 4), .mv (.const (.slice none 0 0)), none⟩])
 (.seq (.reg [⟨(some 11), .fad 0 (.tmp 3), none⟩,
  ⟨(some 12), .ld none (.tmp 11), none⟩,
  ⟨(some 13), .len (.tmp 12), none⟩,
  ⟨(some 14), .mks 3 8 [(.int .i64 0)] (.tmp 13) (.tmp 13), none⟩,
  ⟨(some 5), .mv (.tmp 14), none⟩])
 (.seq (.seq (.reg [⟨(some 15), .ld (some 4) (.tmp 3), none⟩,
  ⟨(some 16), .call (.func 24) [(.tmp 15)], none⟩,
  ⟨(some 17), .un .not (.tmp 16), none⟩])
 (.cond (.tmp 17) (.seq (.reg [⟨(some 18), .mv (.tmp 5), none⟩,
  ⟨(some 4), .mv (.tmp 18), none⟩])
 (.ret)) (.skip)))
 (.seq (.seq (.reg [⟨(some 6), .mv (.const (.int .i64 0)), none⟩])
 (.block 0 (.loop (.seq (.seq (.reg [⟨(some 19), .mv (.tmp 6), none⟩,
  ⟨(some 20), .fad 0 (.tmp 3), none⟩,
  ⟨(some 21), .ld none (.tmp 20), none⟩,
  ⟨(some 22), .len (.tmp 21), none⟩,
  ⟨(some 23), .bin .lss (.tmp 19) (.tmp 22), none⟩])
 (.cond (.tmp 23) (.skip) (.exit 0)))
 (.seq (.block 1 (.seq (.reg [⟨(some 26), .fad 0 (.tmp 3), none⟩,
  ⟨(some 27), .ld none (.tmp 26), none⟩,
  ⟨(some 28), .mv (.tmp 6), none⟩,
  ⟨(some 29), .iad 1 (.tmp 27) (.tmp 28), none⟩,
  ⟨(some 30), .ld none (.tmp 29), none⟩,
  ⟨(some 7), .mv (.tmp 30), none⟩])
 (.block 2 (.loop (.seq (.seq (.reg [⟨(some 31), .mv (.tmp 7), none⟩,
  ⟨(some 32), .bin .gtr (.tmp 31) (.const (.int .i64 0)), none⟩])
 (.cond (.tmp 32) (.skip) (.exit 2)))
 (.block 3 (.seq (.reg [⟨(some 33), .mv (.tmp 6), none⟩,
  ⟨(some 8), .mv (.tmp 33), none⟩])
 (.seq (.seq (.reg [⟨(some 34), .mv (.tmp 0), none⟩,
  ⟨(some 35), .call (.func 42) [(.tmp 34), (.const (.int .i64 2))], none⟩])
 (.cond (.tmp 35) (.reg [⟨(some 36), .mv (.tmp 0), none⟩,
  ⟨(some 37), .mv (.tmp 6), none⟩,
  ⟨(some 38), .bin .add (.tmp 37) (.const (.int .i64 1)), none⟩,
  ⟨(some 39), .call (.func 43) [(.tmp 36), (.tmp 38)], none⟩,
  ⟨(some 8), .mv (.tmp 39), none⟩]) (.skip)))
 (.seq (.reg [⟨(some 40), .mv (.tmp 7), none⟩,
  ⟨(some 9), .mv (.tmp 40), none⟩])
 (.seq (.seq (.reg [⟨(some 41), .mv (.tmp 0), none⟩,
  ⟨(some 42), .call (.func 42) [(.tmp 41), (.const (.int .i64 2))], none⟩])
 (.cond (.tmp 42) (.reg [⟨(some 43), .mv (.tmp 0), none⟩,
  ⟨(some 44), .mv (.tmp 7), none⟩,
  ⟨(some 45), .call (.func 43) [(.tmp 43), (.tmp 44)], none⟩,
  ⟨(some 46), .bin .add (.const (.int .i64 1)) (.tmp 45), none⟩,
  ⟨(some 9), .mv (.tmp 46), none⟩]) (.skip)))
 (.seq (.reg [⟨(some 47), .mv (.tmp 5), none⟩,
  ⟨(some 48), .mv (.tmp 8), none⟩,
  ⟨(some 49), .mv (.tmp 5), none⟩,
  ⟨(some 50), .mv (.tmp 8), none⟩,
  ⟨(some 51), .iad 1 (.tmp 49) (.tmp 50), none⟩,
  ⟨(some 52), .ld none (.tmp 51), none⟩,
  ⟨(some 53), .mv (.tmp 9), none⟩,
  ⟨(some 54), .bin .add (.tmp 52) (.tmp 53), none⟩,
  ⟨(some 55), .iad 1 (.tmp 47) (.tmp 48), none⟩,
  ⟨none, .st 1 (.tmp 55) (.tmp 54), none⟩])
 (.reg [⟨(some 56), .mv (.tmp 7), none⟩,
  ⟨(some 57), .mv (.tmp 9), none⟩,
  ⟨(some 58), .bin .sub (.tmp 56) (.tmp 57), none⟩,
  ⟨(some 7), .mv (.tmp 58), none⟩]))))))))))))
 (.reg [⟨(some 24), .mv (.tmp 6), none⟩,
  ⟨(some 25), .bin .add (.tmp 24) (.const (.int .i64 1)), none⟩,
  ⟨(some 6), .mv (.tmp 25), none⟩]))))))
 (.seq (.seq (.reg [⟨(some 59), .mv (.tmp 0), none⟩,
  ⟨(some 60), .call (.func 43) [(.tmp 59), (.const (.int .i64 30))], none⟩])
 (.block 4 (.seq (.reg [⟨(some 62), .bin .eql (.tmp 60) (.const (.int .i64 0)), none⟩,
  ⟨(some 61), .mv (.tmp 62), none⟩])
 (.cond (.tmp 61) (.reg [⟨(some 63), .mv (.tmp 5), none⟩,
  ⟨(some 64), .mv (.tmp 0), none⟩,
  ⟨(some 65), .bsl 3 1 2 [(.int .i64 0), (.int .i64 0)] [(0, 1, (.const (.int .i64 0))), (1, 1, (.const (.int .i64 1)))], none⟩,
  ⟨(some 66), .call (.func 44) [(.tmp 64), (.tmp 65)], none⟩,
  ⟨(some 67), .bsl 3 1 1 [(.int .i64 0)] [(0, 1, (.tmp 66))], none⟩,
  ⟨(some 68), .app 3 1 8 (.tmp 63) (.tmp 67), none⟩,
  ⟨(some 5), .mv (.tmp 68), none⟩]) (.seq (.reg [⟨(some 70), .bin .eql (.tmp 60) (.const (.int .i64 1)), none⟩,
  ⟨(some 69), .mv (.tmp 70), none⟩])
 (.cond (.tmp 69) (.seq (.reg [⟨(some 71), .mv (.tmp 5), none⟩,
  ⟨(some 72), .len (.tmp 71), none⟩,
  ⟨(some 73), .bin .gtr (.tmp 72) (.const (.int .i64 0)), none⟩])
 (.cond (.tmp 73) (.seq (.reg [⟨(some 74), .mv (.tmp 0), none⟩,
  ⟨(some 75), .mv (.tmp 5), none⟩,
  ⟨(some 76), .len (.tmp 75), none⟩,
  ⟨(some 77), .call (.func 43) [(.tmp 74), (.tmp 76)], none⟩,
  ⟨(some 10), .mv (.tmp 77), none⟩])
 (.seq (.reg [⟨(some 78), .mv (.tmp 5), none⟩]) (.seq (.reg [⟨(some 79), .mv (.tmp 10), none⟩]) (.seq (.reg [⟨(some 80), .mv (.tmp 5), none⟩]) (.seq (.reg [⟨(some 81), .mv (.tmp 10), none⟩]) (.seq (.reg [⟨(some 82), .iad 1 (.tmp 80) (.tmp 81), none⟩]) (.seq (.reg [⟨(some 84), .mv (.tmp 0), none⟩]) (.both (.seq (.reg [⟨(some 83), .ld none (.tmp 82), none⟩]) (.seq (.reg [⟨(some 85), .bsl 3 1 4 [(.int .i64 0), (.int .i64 0), (.int .i64 0), (.int .i64 0)] [(0, 1, (.const (.int .i64 1))), (1, 1, (.const (.int .i64 (-1)))), (2, 1, (.const (.int .i64 4611686018427387904))), (3, 1, (.const (.int .i64 (-9223372036854775808))))], none⟩]) (.seq (.reg [⟨(some 86), .call (.func 44) [(.tmp 84), (.tmp 85)], none⟩]) (.seq (.reg [⟨(some 87), .bin .add (.tmp 83) (.tmp 86), none⟩]) (.seq (.reg [⟨(some 88), .iad 1 (.tmp 78) (.tmp 79), none⟩]) (.seq (.reg [⟨none, .st 1 (.tmp 88) (.tmp 87), none⟩]) (.skip))))))) (.seq (.reg [⟨(some 85), .bsl 3 1 4 [(.int .i64 0), (.int .i64 0), (.int .i64 0), (.int .i64 0)] [(0, 1, (.const (.int .i64 1))), (1, 1, (.const (.int .i64 (-1)))), (2, 1, (.const (.int .i64 4611686018427387904))), (3, 1, (.const (.int .i64 (-9223372036854775808))))], none⟩]) (.both (.seq (.reg [⟨(some 83), .ld none (.tmp 82), none⟩]) (.seq (.reg [⟨(some 86), .call (.func 44) [(.tmp 84), (.tmp 85)], none⟩]) (.seq (.reg [⟨(some 87), .bin .add (.tmp 83) (.tmp 86), none⟩]) (.seq (.reg [⟨(some 88), .iad 1 (.tmp 78) (.tmp 79), none⟩]) (.seq (.reg [⟨none, .st 1 (.tmp 88) (.tmp 87), none⟩]) (.skip)))))) (.seq (.reg [⟨(some 86), .call (.func 44) [(.tmp 84), (.tmp 85)], none⟩]) (.seq (.reg [⟨(some 83), .ld none (.tmp 82), none⟩]) (.seq (.reg [⟨(some 87), .bin .add (.tmp 83) (.tmp 86), none⟩]) (.seq (.reg [⟨(some 88), .iad 1 (.tmp 78) (.tmp 79), none⟩]) (.seq (.reg [⟨none, .st 1 (.tmp 88) (.tmp 87), none⟩]) (.skip)))))))))))))))) (.skip))) (.skip)))))))
 (.seq (.reg [⟨(some 89), .mv (.tmp 5), none⟩,
  ⟨(some 4), .mv (.tmp 89), none⟩])
 (.ret))))))
def r_spec_l1Cur__amounts : List ARes := [.tmp 4]
theorem ok_spec_l1Cur__amounts : FnOk Try.prog 34 90 c_spec_l1Cur__amounts r_spec_l1Cur__amounts := ⟨⟨Try.f34, _, Try.func34, by kernel_rfl, rfl, rfl, by kernel_rfl, by kernel_rfl⟩⟩
def c_spec_l1Cur__someLots : ACode := .seq (.reg [⟨(some 4), .alc 26 [(.slice none 0 0), (.slice none 0 0), (.slice none 0 0), (.slice none 0 0)], none⟩])
 (.seq (.reg [⟨(some 13), .mv (.tmp 0), none⟩,
  ⟨(some 14), .bsl 3 1 8 [(.int .i64 0), (.int .i64 0), (.int .i64 0), (.int .i64 0), (.int .i64 0), (.int .i64 0), (.int .i64 0), (.int .i64 0)] [(0, 1, (.const (.int .i64 4))), (1, 1, (.const (.int .i64 5))), (2, 1, (.const (.int .i64 3))), (3, 1, (.const (.int .i64 6))), (4, 1, (.const (.int .i64 8))), (5, 1, (.const (.int .i64 2))), (6, 1, (.const (.int .i64 1))), (7, 1, (.const (.int .i64 0)))], none⟩,
  ⟨(some 15), .call (.func 44) [(.tmp 13), (.tmp 14)], none⟩,
  ⟨(some 16), .mv (.tmp 1), none⟩,
  ⟨(some 17), .call (.func 48) [(.tmp 15), (.tmp 16)], none⟩,
  ⟨(some 18), .bld [(.slice none 0 0), (.slice none 0 0), (.slice none 0 0), (.slice none 0 0)] [], none⟩,
  ⟨(some 6), .alc 26 [(.slice none 0 0), (.slice none 0 0), (.slice none 0 0), (.slice none 0 0)], none⟩,
  ⟨(some 5), .mv (.tmp 17), none⟩,
  ⟨none, .st 4 (.tmp 6) (.tmp 18), none⟩])
 (.seq (.reg [⟨(some 19), .mv (.tmp 0), none⟩,
  ⟨(some 20), .call (.func 42) [(.tmp 19), (.const (.int .i64 2))], none⟩,
  ⟨(some 7), .mv (.tmp 20), none⟩])
 (.seq (.reg [⟨(some 21), .mv (.tmp 0), none⟩,
  ⟨(some 22), .bsl 3 1 6 [(.int .i64 0), (.int .i64 0), (.int .i64 0), (.int .i64 0), (.int .i64 0), (.int .i64 0)] [(0, 1, (.const (.int .i64 0))), (1, 1, (.const (.int .i64 3))), (2, 1, (.const (.int .i64 5))), (3, 1, (.const (.int .i64 8))), (4, 1, (.const (.int .i64 12))), (5, 1, (.const (.int .i64 20)))], none⟩,
  ⟨(some 23), .call (.func 44) [(.tmp 21), (.tmp 22)], none⟩,
  ⟨(some 24), .mv (.tmp 0), none⟩,
  ⟨(some 25), .call (.func 43) [(.tmp 24), (.const (.int .i64 3))], none⟩,
  ⟨(some 26), .mv (.tmp 0), none⟩,
  ⟨(some 27), .call (.func 43) [(.tmp 26), (.const (.int .i64 2))], none⟩,
  ⟨(some 28), .bin .add (.const (.int .i64 1)) (.tmp 27), none⟩,
  ⟨(some 8), .mv (.tmp 23), none⟩,
  ⟨(some 9), .mv (.tmp 25), none⟩,
  ⟨(some 10), .mv (.tmp 28), none⟩])
 (.seq (.seq (.reg [⟨(some 11), .mv (.const (.int .i64 0)), none⟩])
 (.block 0 (.loop (.seq (.seq (.reg [⟨(some 29), .mv (.tmp 11), none⟩,
  ⟨(some 30), .mv (.tmp 5), none⟩,
  ⟨(some 31), .bin .lss (.tmp 29) (.tmp 30), none⟩])
 (.cond (.tmp 31) (.skip) (.exit 0)))
 (.seq (.block 1 (.seq (.seq (.reg [⟨(some 34), .mv (.tmp 7), none⟩,
  ⟨(some 35), .un .not (.tmp 34), none⟩])
 (.cond (.tmp 35) (.seq (.reg [⟨(some 36), .mv (.tmp 0), none⟩,
  ⟨(some 37), .bsl 3 1 6 [(.int .i64 0), (.int .i64 0), (.int .i64 0), (.int .i64 0), (.int .i64 0), (.int .i64 0)] [(0, 1, (.const (.int .i64 0))), (1, 1, (.const (.int .i64 2))), (2, 1, (.const (.int .i64 5))), (3, 1, (.const (.int .i64 9))), (4, 1, (.const (.int .i64 14))), (5, 1, (.const (.int .i64 30)))], none⟩,
  ⟨(some 38), .call (.func 44) [(.tmp 36), (.tmp 37)], none⟩,
  ⟨(some 8), .mv (.tmp 38), none⟩])
 (.seq (.reg [⟨(some 39), .mv (.tmp 0), none⟩,
  ⟨(some 40), .call (.func 43) [(.tmp 39), (.const (.int .i64 5))], none⟩,
  ⟨(some 9), .mv (.tmp 40), none⟩])
 (.reg [⟨(some 41), .mv (.tmp 0), none⟩,
  ⟨(some 42), .call (.func 43) [(.tmp 41), (.const (.int .i64 4))], none⟩,
  ⟨(some 10), .mv (.tmp 42), none⟩]))) (.skip)))
 (.seq (.seq (.reg [⟨(some 43), .fad 0 (.tmp 6), none⟩]) (.seq (.reg [⟨(some 45), .mv (.tmp 0), none⟩]) (.both (.seq (.reg [⟨(some 44), .ld none (.tmp 43), none⟩]) (.seq (.reg [⟨(some 46), .bsl 3 1 6 [(.int .i64 0), (.int .i64 0), (.int .i64 0), (.int .i64 0), (.int .i64 0), (.int .i64 0)] [(0, 1, (.const (.int .i64 0))), (1, 1, (.const (.int .i64 1))), (2, 1, (.const (.int .i64 2))), (3, 1, (.const (.int .i64 3))), (4, 1, (.const (.int .i64 5))), (5, 1, (.const (.int .i64 8)))], none⟩]) (.seq (.reg [⟨(some 47), .call (.func 44) [(.tmp 45), (.tmp 46)], none⟩]) (.seq (.reg [⟨(some 48), .bsl 3 1 1 [(.int .i64 0)] [(0, 1, (.tmp 47))], none⟩]) (.seq (.reg [⟨(some 49), .app 3 1 8 (.tmp 44) (.tmp 48), none⟩]) (.seq (.reg [⟨(some 50), .fad 0 (.tmp 6), none⟩]) (.seq (.reg [⟨none, .st 1 (.tmp 50) (.tmp 49), none⟩]) (.skip)))))))) (.seq (.reg [⟨(some 46), .bsl 3 1 6 [(.int .i64 0), (.int .i64 0), (.int .i64 0), (.int .i64 0), (.int .i64 0), (.int .i64 0)] [(0, 1, (.const (.int .i64 0))), (1, 1, (.const (.int .i64 1))), (2, 1, (.const (.int .i64 2))), (3, 1, (.const (.int .i64 3))), (4, 1, (.const (.int .i64 5))), (5, 1, (.const (.int .i64 8)))], none⟩]) (.both (.seq (.reg [⟨(some 44), .ld none (.tmp 43), none⟩]) (.seq (.reg [⟨(some 47), .call (.func 44) [(.tmp 45), (.tmp 46)], none⟩]) (.seq (.reg [⟨(some 48), .bsl 3 1 1 [(.int .i64 0)] [(0, 1, (.tmp 47))], none⟩]) (.seq (.reg [⟨(some 49), .app 3 1 8 (.tmp 44) (.tmp 48), none⟩]) (.seq (.reg [⟨(some 50), .fad 0 (.tmp 6), none⟩]) (.seq (.reg [⟨none, .st 1 (.tmp 50) (.tmp 49), none⟩]) (.skip))))))) (.seq (.reg [⟨(some 47), .call (.func 44) [(.tmp 45), (.tmp 46)], none⟩]) (.seq (.reg [⟨(some 44), .ld none (.tmp 43), none⟩]) (.seq (.reg [⟨(some 48), .bsl 3 1 1 [(.int .i64 0)] [(0, 1, (.tmp 47))], none⟩]) (.seq (.reg [⟨(some 49), .app 3 1 8 (.tmp 44) (.tmp 48), none⟩]) (.seq (.reg [⟨(some 50), .fad 0 (.tmp 6), none⟩]) (.seq (.reg [⟨none, .st 1 (.tmp 50) (.tmp 49), none⟩]) (.skip))))))))))))
 (.seq (.reg [⟨(some 51), .fad 1 (.tmp 6), none⟩,
  ⟨(some 52), .ld none (.tmp 51), none⟩,
  ⟨(some 53), .mv (.tmp 8), none⟩,
  ⟨(some 54), .bsl 3 1 1 [(.int .i64 0)] [(0, 1, (.tmp 53))], none⟩,
  ⟨(some 55), .app 3 1 8 (.tmp 52) (.tmp 54), none⟩,
  ⟨(some 56), .fad 1 (.tmp 6), none⟩,
  ⟨none, .st 1 (.tmp 56) (.tmp 55), none⟩])
 (.seq (.reg [⟨(some 57), .fad 2 (.tmp 6), none⟩,
  ⟨(some 58), .ld none (.tmp 57), none⟩,
  ⟨(some 59), .mv (.tmp 9), none⟩,
  ⟨(some 60), .bsl 3 1 1 [(.int .i64 0)] [(0, 1, (.tmp 59))], none⟩,
  ⟨(some 61), .app 3 1 8 (.tmp 58) (.tmp 60), none⟩,
  ⟨(some 62), .fad 2 (.tmp 6), none⟩,
  ⟨none, .st 1 (.tmp 62) (.tmp 61), none⟩])
 (.reg [⟨(some 63), .fad 3 (.tmp 6), none⟩,
  ⟨(some 64), .ld none (.tmp 63), none⟩,
  ⟨(some 65), .mv (.tmp 10), none⟩,
  ⟨(some 66), .bsl 3 1 1 [(.int .i64 0)] [(0, 1, (.tmp 65))], none⟩,
  ⟨(some 67), .app 3 1 8 (.tmp 64) (.tmp 66), none⟩,
  ⟨(some 68), .fad 3 (.tmp 6), none⟩,
  ⟨none, .st 1 (.tmp 68) (.tmp 67), none⟩]))))))
 (.reg [⟨(some 32), .mv (.tmp 11), none⟩,
  ⟨(some 33), .bin .add (.tmp 32) (.const (.int .i64 1)), none⟩,
  ⟨(some 11), .mv (.tmp 33), none⟩]))))))
 (.seq (.seq (.reg [⟨(some 69), .mv (.tmp 5), none⟩,
  ⟨(some 70), .bin .gtr (.tmp 69) (.const (.int .i64 0)), none⟩])
 (.cond (.tmp 70) (.seq (.reg [⟨(some 71), .mv (.tmp 0), none⟩,
  ⟨(some 72), .mv (.tmp 5), none⟩,
  ⟨(some 73), .call (.func 43) [(.tmp 71), (.tmp 72)], none⟩,
  ⟨(some 12), .mv (.tmp 73), none⟩])
 (.seq (.reg [⟨(some 74), .mv (.tmp 0), none⟩,
  ⟨(some 75), .call (.func 43) [(.tmp 74), (.const (.int .i64 60))], none⟩])
 (.block 2 (.seq (.reg [⟨(some 77), .bin .eql (.tmp 75) (.const (.int .i64 0)), none⟩,
  ⟨(some 76), .mv (.tmp 77), none⟩])
 (.cond (.tmp 76) (.seq (.reg [⟨(some 78), .fad 0 (.tmp 6), none⟩]) (.seq (.reg [⟨(some 80), .mv (.tmp 12), none⟩]) (.seq (.reg [⟨(some 81), .mv (.tmp 0), none⟩]) (.both (.seq (.reg [⟨(some 79), .ld none (.tmp 78), none⟩]) (.seq (.reg [⟨(some 82), .bsl 3 1 4 [(.int .i64 0), (.int .i64 0), (.int .i64 0), (.int .i64 0)] [(0, 1, (.const (.int .i64 (-1)))), (1, 1, (.const (.int .i64 20))), (2, 1, (.const (.int .i64 21))), (3, 1, (.const (.int .i64 4611686018427387904)))], none⟩]) (.seq (.reg [⟨(some 83), .call (.func 44) [(.tmp 81), (.tmp 82)], none⟩]) (.seq (.reg [⟨(some 84), .iad 1 (.tmp 79) (.tmp 80), none⟩]) (.seq (.reg [⟨none, .st 1 (.tmp 84) (.tmp 83), none⟩]) (.skip)))))) (.seq (.reg [⟨(some 82), .bsl 3 1 4 [(.int .i64 0), (.int .i64 0), (.int .i64 0), (.int .i64 0)] [(0, 1, (.const (.int .i64 (-1)))), (1, 1, (.const (.int .i64 20))), (2, 1, (.const (.int .i64 21))), (3, 1, (.const (.int .i64 4611686018427387904)))], none⟩]) (.both (.seq (.reg [⟨(some 79), .ld none (.tmp 78), none⟩]) (.seq (.reg [⟨(some 83), .call (.func 44) [(.tmp 81), (.tmp 82)], none⟩]) (.seq (.reg [⟨(some 84), .iad 1 (.tmp 79) (.tmp 80), none⟩]) (.seq (.reg [⟨none, .st 1 (.tmp 84) (.tmp 83), none⟩]) (.skip))))) (.seq (.reg [⟨(some 83), .call (.func 44) [(.tmp 81), (.tmp 82)], none⟩]) (.seq (.reg [⟨(some 79), .ld none (.tmp 78), none⟩]) (.seq (.reg [⟨(some 84), .iad 1 (.tmp 79) (.tmp 80), none⟩]) (.seq (.reg [⟨none, .st 1 (.tmp 84) (.tmp 83), none⟩]) (.skip))))))))))) (.seq (.reg [⟨(some 86), .bin .eql (.tmp 75) (.const (.int .i64 1)), none⟩,
  ⟨(some 85), .mv (.tmp 86), none⟩])
 (.cond (.tmp 85) (.seq (.reg [⟨(some 87), .fad 1 (.tmp 6), none⟩]) (.seq (.reg [⟨(some 89), .mv (.tmp 12), none⟩]) (.seq (.reg [⟨(some 90), .mv (.tmp 0), none⟩]) (.both (.seq (.reg [⟨(some 88), .ld none (.tmp 87), none⟩]) (.seq (.reg [⟨(some 91), .bsl 3 1 3 [(.int .i64 0), (.int .i64 0), (.int .i64 0)] [(0, 1, (.const (.int .i64 (-1)))), (1, 1, (.const (.int .i64 99))), (2, 1, (.const (.int .i64 100)))], none⟩]) (.seq (.reg [⟨(some 92), .call (.func 44) [(.tmp 90), (.tmp 91)], none⟩]) (.seq (.reg [⟨(some 93), .iad 1 (.tmp 88) (.tmp 89), none⟩]) (.seq (.reg [⟨none, .st 1 (.tmp 93) (.tmp 92), none⟩]) (.skip)))))) (.seq (.reg [⟨(some 91), .bsl 3 1 3 [(.int .i64 0), (.int .i64 0), (.int .i64 0)] [(0, 1, (.const (.int .i64 (-1)))), (1, 1, (.const (.int .i64 99))), (2, 1, (.const (.int .i64 100)))], none⟩]) (.both (.seq (.reg [⟨(some 88), .ld none (.tmp 87), none⟩]) (.seq (.reg [⟨(some 92), .call (.func 44) [(.tmp 90), (.tmp 91)], none⟩]) (.seq (.reg [⟨(some 93), .iad 1 (.tmp 88) (.tmp 89), none⟩]) (.seq (.reg [⟨none, .st 1 (.tmp 93) (.tmp 92), none⟩]) (.skip))))) (.seq (.reg [⟨(some 92), .call (.func 44) [(.tmp 90), (.tmp 91)], none⟩]) (.seq (.reg [⟨(some 88), .ld none (.tmp 87), none⟩]) (.seq (.reg [⟨(some 93), .iad 1 (.tmp 88) (.tmp 89), none⟩]) (.seq (.reg [⟨none, .st 1 (.tmp 93) (.tmp 92), none⟩]) (.skip))))))))))) (.seq (.reg [⟨(some 95), .bin .eql (.tmp 75) (.const (.int .i64 2)), none⟩,
  ⟨(some 94), .mv (.tmp 95), none⟩])
 (.cond (.tmp 94) (.seq (.reg [⟨(some 96), .fad 2 (.tmp 6), none⟩]) (.seq (.reg [⟨(some 98), .mv (.tmp 12), none⟩]) (.seq (.reg [⟨(some 99), .mv (.tmp 0), none⟩]) (.both (.seq (.reg [⟨(some 97), .ld none (.tmp 96), none⟩]) (.seq (.reg [⟨(some 100), .bsl 3 1 3 [(.int .i64 0), (.int .i64 0), (.int .i64 0)] [(0, 1, (.const (.int .i64 (-1)))), (1, 1, (.const (.int .i64 9))), (2, 1, (.const (.int .i64 10)))], none⟩]) (.seq (.reg [⟨(some 101), .call (.func 44) [(.tmp 99), (.tmp 100)], none⟩]) (.seq (.reg [⟨(some 102), .iad 1 (.tmp 97) (.tmp 98), none⟩]) (.seq (.reg [⟨none, .st 1 (.tmp 102) (.tmp 101), none⟩]) (.skip)))))) (.seq (.reg [⟨(some 100), .bsl 3 1 3 [(.int .i64 0), (.int .i64 0), (.int .i64 0)] [(0, 1, (.const (.int .i64 (-1)))), (1, 1, (.const (.int .i64 9))), (2, 1, (.const (.int .i64 10)))], none⟩]) (.both (.seq (.reg [⟨(some 97), .ld none (.tmp 96), none⟩]) (.seq (.reg [⟨(some 101), .call (.func 44) [(.tmp 99), (.tmp 100)], none⟩]) (.seq (.reg [⟨(some 102), .iad 1 (.tmp 97) (.tmp 98), none⟩]) (.seq (.reg [⟨none, .st 1 (.tmp 102) (.tmp 101), none⟩]) (.skip))))) (.seq (.reg [⟨(some 101), .call (.func 44) [(.tmp 99), (.tmp 100)], none⟩]) (.seq (.reg [⟨(some 97), .ld none (.tmp 96), none⟩]) (.seq (.reg [⟨(some 102), .iad 1 (.tmp 97) (.tmp 98), none⟩]) (.seq (.reg [⟨none, .st 1 (.tmp 102) (.tmp 101), none⟩]) (.skip))))))))))) (.seq (.reg [⟨(some 104), .bin .eql (.tmp 75) (.const (.int .i64 3)), none⟩,
  ⟨(some 103), .mv (.tmp 104), none⟩])
 (.cond (.tmp 103) (.seq (.reg [⟨(some 105), .fad 3 (.tmp 6), none⟩]) (.seq (.reg [⟨(some 107), .mv (.tmp 12), none⟩]) (.seq (.reg [⟨(some 108), .mv (.tmp 0), none⟩]) (.both (.seq (.reg [⟨(some 106), .ld none (.tmp 105), none⟩]) (.seq (.reg [⟨(some 109), .bsl 3 1 3 [(.int .i64 0), (.int .i64 0), (.int .i64 0)] [(0, 1, (.const (.int .i64 (-1)))), (1, 1, (.const (.int .i64 9))), (2, 1, (.const (.int .i64 10)))], none⟩]) (.seq (.reg [⟨(some 110), .call (.func 44) [(.tmp 108), (.tmp 109)], none⟩]) (.seq (.reg [⟨(some 111), .iad 1 (.tmp 106) (.tmp 107), none⟩]) (.seq (.reg [⟨none, .st 1 (.tmp 111) (.tmp 110), none⟩]) (.skip)))))) (.seq (.reg [⟨(some 109), .bsl 3 1 3 [(.int .i64 0), (.int .i64 0), (.int .i64 0)] [(0, 1, (.const (.int .i64 (-1)))), (1, 1, (.const (.int .i64 9))), (2, 1, (.const (.int .i64 10)))], none⟩]) (.both (.seq (.reg [⟨(some 106), .ld none (.tmp 105), none⟩]) (.seq (.reg [⟨(some 110), .call (.func 44) [(.tmp 108), (.tmp 109)], none⟩]) (.seq (.reg [⟨(some 111), .iad 1 (.tmp 106) (.tmp 107), none⟩]) (.seq (.reg [⟨none, .st 1 (.tmp 111) (.tmp 110), none⟩]) (.skip))))) (.seq (.reg [⟨(some 110), .call (.func 44) [(.tmp 108), (.tmp 109)], none⟩]) (.seq (.reg [⟨(some 106), .ld none (.tmp 105), none⟩]) (.seq (.reg [⟨(some 111), .iad 1 (.tmp 106) (.tmp 107), none⟩]) (.seq (.reg [⟨none, .st 1 (.tmp 111) (.tmp 110), none⟩]) (.skip))))))))))) (.seq (.reg [⟨(some 113), .bin .eql (.tmp 75) (.const (.int .i64 4)), none⟩,
  ⟨(some 112), .mv (.tmp 113), none⟩])
 (.cond (.tmp 112) (.reg [⟨(some 114), .fad 2 (.tmp 6), none⟩,
  ⟨(some 115), .ld none (.tmp 114), none⟩,
  ⟨(some 116), .bsl 3 1 1 [(.int .i64 0)] [(0, 1, (.const (.int .i64 1)))], none⟩,
  ⟨(some 117), .app 3 1 8 (.tmp 115) (.tmp 116), none⟩,
  ⟨(some 118), .fad 2 (.tmp 6), none⟩,
  ⟨none, .st 1 (.tmp 118) (.tmp 117), none⟩]) (.seq (.reg [⟨(some 120), .bin .eql (.tmp 75) (.const (.int .i64 5)), none⟩,
  ⟨(some 119), .mv (.tmp 120), none⟩])
 (.cond (.tmp 119) (.block 3 (.loop (.seq (.seq (.reg [⟨(some 121), .fad 0 (.tmp 6), none⟩,
  ⟨(some 122), .ld none (.tmp 121), none⟩,
  ⟨(some 123), .len (.tmp 122), none⟩,
  ⟨(some 124), .bin .lss (.tmp 123) (.const (.int .i64 9)), none⟩])
 (.cond (.tmp 124) (.skip) (.exit 3)))
 (.block 4 (.seq (.reg [⟨(some 125), .fad 0 (.tmp 6), none⟩,
  ⟨(some 126), .ld none (.tmp 125), none⟩,
  ⟨(some 127), .bsl 3 1 1 [(.int .i64 0)] [(0, 1, (.const (.int .i64 1)))], none⟩,
  ⟨(some 128), .app 3 1 8 (.tmp 126) (.tmp 127), none⟩,
  ⟨(some 129), .fad 0 (.tmp 6), none⟩,
  ⟨none, .st 1 (.tmp 129) (.tmp 128), none⟩])
 (.seq (.reg [⟨(some 130), .fad 1 (.tmp 6), none⟩,
  ⟨(some 131), .ld none (.tmp 130), none⟩,
  ⟨(some 132), .bsl 3 1 1 [(.int .i64 0)] [(0, 1, (.const (.int .i64 1)))], none⟩,
  ⟨(some 133), .app 3 1 8 (.tmp 131) (.tmp 132), none⟩,
  ⟨(some 134), .fad 1 (.tmp 6), none⟩,
  ⟨none, .st 1 (.tmp 134) (.tmp 133), none⟩])
 (.seq (.reg [⟨(some 135), .fad 2 (.tmp 6), none⟩,
  ⟨(some 136), .ld none (.tmp 135), none⟩,
  ⟨(some 137), .bsl 3 1 1 [(.int .i64 0)] [(0, 1, (.const (.int .i64 1)))], none⟩,
  ⟨(some 138), .app 3 1 8 (.tmp 136) (.tmp 137), none⟩,
  ⟨(some 139), .fad 2 (.tmp 6), none⟩,
  ⟨none, .st 1 (.tmp 139) (.tmp 138), none⟩])
 (.reg [⟨(some 140), .fad 3 (.tmp 6), none⟩,
  ⟨(some 141), .ld none (.tmp 140), none⟩,
  ⟨(some 142), .bsl 3 1 1 [(.int .i64 0)] [(0, 1, (.const (.int .i64 1)))], none⟩,
  ⟨(some 143), .app 3 1 8 (.tmp 141) (.tmp 142), none⟩,
  ⟨(some 144), .fad 3 (.tmp 6), none⟩,
  ⟨none, .st 1 (.tmp 144) (.tmp 143), none⟩])))))))) (.skip)))))))))))))))) (.skip)))
 (.seq (.reg [⟨(some 145), .ld (some 4) (.tmp 6), none⟩,
  ⟨none, .st 4 (.tmp 4) (.tmp 145), none⟩])
 (.ret)))))))
def r_spec_l1Cur__someLots : List ARes := [.cell 4 (some 4)]
theorem ok_spec_l1Cur__someLots : FnOk Try.prog 41 146 c_spec_l1Cur__someLots r_spec_l1Cur__someLots := ⟨⟨Try.f41, _, Try.func41, by kernel_rfl, rfl, rfl, by kernel_rfl, by kernel_rfl⟩⟩
def c_spec_l1Cur__one : ACode := .seq (.reg [⟨(some 4), .mv (.const (.bool false)), none⟩])
 (.seq (.reg [⟨(some 5), .mv (.tmp 0), none⟩,
  ⟨(some 6), .mv (.tmp 1), none⟩,
  ⟨(some 7), .call (.func 43) [(.tmp 5), (.tmp 6)], none⟩,
  ⟨(some 8), .bin .eql (.tmp 7) (.const (.int .i64 0)), none⟩,
  ⟨(some 4), .mv (.tmp 8), none⟩])
 (.ret))
def r_spec_l1Cur__one : List ARes := [.tmp 4]
theorem ok_spec_l1Cur__one : FnOk Try.prog 42 9 c_spec_l1Cur__one r_spec_l1Cur__one := ⟨⟨Try.f42, _, Try.func42, by kernel_rfl, rfl, rfl, by kernel_rfl, by kernel_rfl⟩⟩
def c_spec_l1Cur__pick : ACode := .seq (.reg [⟨(some 4), .mv (.const (.int .i64 0)), none⟩])
 (.seq (.seq (.reg [⟨(some 6), .mv (.tmp 1), none⟩,
  ⟨(some 7), .bin .leq (.tmp 6) (.const (.int .i64 1)), none⟩])
 (.cond (.tmp 7) (.seq (.reg [⟨(some 4), .mv (.const (.int .i64 0)), none⟩])
 (.ret)) (.skip)))
 (.seq (.reg [⟨(some 8), .mv (.tmp 0), none⟩,
  ⟨(some 9), .call (.func 49) [(.tmp 8)], none⟩,
  ⟨(some 5), .mv (.tmp 9), none⟩])
 (.seq (.seq (.reg [⟨(some 10), .mv (.tmp 1), none⟩,
  ⟨(some 11), .bin .gtr (.tmp 10) (.const (.int .i64 200)), none⟩])
 (.cond (.tmp 11) (.reg [⟨(some 12), .mv (.tmp 5), none⟩,
  ⟨(some 13), .bin .mul (.tmp 12) (.const (.int .i64 256)), none⟩,
  ⟨(some 14), .mv (.tmp 0), none⟩,
  ⟨(some 15), .call (.func 49) [(.tmp 14)], none⟩,
  ⟨(some 16), .bin .add (.tmp 13) (.tmp 15), none⟩,
  ⟨(some 5), .mv (.tmp 16), none⟩]) (.skip)))
 (.seq (.reg [⟨(some 17), .mv (.tmp 5), none⟩,
  ⟨(some 18), .mv (.tmp 1), none⟩,
  ⟨(some 19), .bin .rem (.tmp 17) (.tmp 18), none⟩,
  ⟨(some 4), .mv (.tmp 19), none⟩])
 (.ret)))))
def r_spec_l1Cur__pick : List ARes := [.tmp 4]
theorem ok_spec_l1Cur__pick : FnOk Try.prog 43 20 c_spec_l1Cur__pick r_spec_l1Cur__pick := ⟨⟨Try.f43, _, Try.func43, by kernel_rfl, rfl, rfl, by kernel_rfl, by kernel_rfl⟩⟩
def c_spec_l1Cur__among : ACode := .seq (.reg [⟨(some 4), .mv (.const (.int .i64 0)), none⟩])
 (.seq (.reg [⟨(some 5), .mv (.tmp 1), none⟩,
  ⟨(some 6), .mv (.tmp 0), none⟩,
  ⟨(some 7), .mv (.tmp 1), none⟩,
  ⟨(some 8), .len (.tmp 7), none⟩,
  ⟨(some 9), .call (.func 43) [(.tmp 6), (.tmp 8)], none⟩,
  ⟨(some 10), .iad 1 (.tmp 5) (.tmp 9), none⟩,
  ⟨(some 11), .ld none (.tmp 10), none⟩,
  ⟨(some 4), .mv (.tmp 11), none⟩])
 (.ret))
def r_spec_l1Cur__among : List ARes := [.tmp 4]
theorem ok_spec_l1Cur__among : FnOk Try.prog 44 12 c_spec_l1Cur__among r_spec_l1Cur__among := ⟨⟨Try.f44, _, Try.func44, by kernel_rfl, rfl, rfl, by kernel_rfl, by kernel_rfl⟩⟩
def c_spec_l1Cur__next : ACode := .seq (.reg [⟨(some 2), .mv (.const (.int .i64 0)), none⟩])
 (.seq (.reg [⟨(some 3), .mv (.const (.int .i64 0)), none⟩])
 (.seq (.seq (.reg [⟨(some 4), .mv (.tmp 0), none⟩,
  ⟨(some 5), .nilc (.tmp 4), none⟩,
  ⟨(some 6), .fad 1 (.tmp 5), none⟩,
  ⟨(some 7), .ld none (.tmp 6), none⟩,
  ⟨(some 8), .mv (.tmp 0), none⟩,
  ⟨(some 9), .nilc (.tmp 8), none⟩,
  ⟨(some 10), .fad 0 (.tmp 9), none⟩,
  ⟨(some 11), .ld none (.tmp 10), none⟩,
  ⟨(some 12), .len (.tmp 11), none⟩,
  ⟨(some 13), .bin .lss (.tmp 7) (.tmp 12), none⟩])
 (.cond (.tmp 13) (.reg [⟨(some 14), .mv (.tmp 0), none⟩,
  ⟨(some 15), .nilc (.tmp 14), none⟩,
  ⟨(some 16), .fad 0 (.tmp 15), none⟩,
  ⟨(some 17), .ld none (.tmp 16), none⟩,
  ⟨(some 18), .mv (.tmp 0), none⟩,
  ⟨(some 19), .nilc (.tmp 18), none⟩,
  ⟨(some 20), .fad 1 (.tmp 19), none⟩,
  ⟨(some 21), .ld none (.tmp 20), none⟩,
  ⟨(some 22), .iad 1 (.tmp 17) (.tmp 21), none⟩,
  ⟨(some 23), .ld none (.tmp 22), none⟩,
  ⟨(some 24), .conv .i64 (.tmp 23), none⟩,
  ⟨(some 3), .mv (.tmp 24), none⟩]) (.skip)))
 (.seq (.reg [⟨(some 25), .mv (.tmp 0), none⟩,
  ⟨(some 26), .nilc (.tmp 25), none⟩,
  ⟨(some 27), .fad 1 (.tmp 26), none⟩,
  ⟨(some 28), .ld none (.tmp 27), none⟩,
  ⟨(some 29), .bin .add (.tmp 28) (.const (.int .i64 1)), none⟩,
  ⟨(some 30), .nilc (.tmp 25), none⟩,
  ⟨(some 31), .fad 1 (.tmp 30), none⟩,
  ⟨none, .st 1 (.tmp 31) (.tmp 29), none⟩])
 (.seq (.reg [⟨(some 32), .mv (.tmp 0), none⟩,
  ⟨(some 33), .mv (.tmp 0), none⟩,
  ⟨(some 34), .nilc (.tmp 33), none⟩,
  ⟨(some 35), .fad 2 (.tmp 34), none⟩,
  ⟨(some 36), .ld none (.tmp 35), none⟩,
  ⟨(some 37), .bin .mul (.tmp 36) (.const (.int .u64 6364136223846793005)), none⟩,
  ⟨(some 38), .mv (.tmp 3), none⟩,
  ⟨(some 39), .conv .u64 (.tmp 38), none⟩,
  ⟨(some 40), .bin .add (.tmp 37) (.tmp 39), none⟩,
  ⟨(some 41), .bin .add (.tmp 40) (.const (.int .u64 462197)), none⟩,
  ⟨(some 42), .nilc (.tmp 32), none⟩,
  ⟨(some 43), .fad 2 (.tmp 42), none⟩,
  ⟨none, .st 1 (.tmp 43) (.tmp 41), none⟩])
 (.seq (.seq (.reg [⟨(some 44), .mv (.tmp 0), none⟩,
  ⟨(some 45), .nilc (.tmp 44), none⟩,
  ⟨(some 46), .fad 1 (.tmp 45), none⟩,
  ⟨(some 47), .ld none (.tmp 46), none⟩,
  ⟨(some 48), .mv (.tmp 0), none⟩,
  ⟨(some 49), .nilc (.tmp 48), none⟩,
  ⟨(some 50), .fad 0 (.tmp 49), none⟩,
  ⟨(some 51), .ld none (.tmp 50), none⟩,
  ⟨(some 52), .len (.tmp 51), none⟩,
  ⟨(some 53), .bin .leq (.tmp 47) (.tmp 52), none⟩])
 (.cond (.tmp 53) (.seq (.reg [⟨(some 54), .mv (.tmp 3), none⟩,
  ⟨(some 2), .mv (.tmp 54), none⟩])
 (.ret)) (.skip)))
 (.seq (.reg [⟨(some 55), .mv (.tmp 0), none⟩,
  ⟨(some 56), .nilc (.tmp 55), none⟩,
  ⟨(some 57), .fad 2 (.tmp 56), none⟩,
  ⟨(some 58), .ld none (.tmp 57), none⟩,
  ⟨(some 59), .bin .shr (.tmp 58) (.const (.int .u64 40)), none⟩,
  ⟨(some 60), .bin .and (.tmp 59) (.const (.int .u64 255)), none⟩,
  ⟨(some 61), .conv .i64 (.tmp 60), none⟩,
  ⟨(some 2), .mv (.tmp 61), none⟩])
 (.ret)))))))
def r_spec_l1Cur__next : List ARes := [.tmp 2]
theorem ok_spec_l1Cur__next : FnOk Try.prog 49 62 c_spec_l1Cur__next r_spec_l1Cur__next := ⟨⟨Try.f49, _, Try.func49, by kernel_rfl, rfl, rfl, by kernel_rfl, by kernel_rfl⟩⟩
end Go.Proofs.Ytfjpickejgbmaaa.Ab
