/- The compiled forms of functions, each checked against the translation. -/
import Derived.Test.YtfdpieeopdhcmaaAb2
import Derived.Test.YtfdpieeopdhcmaaProg
namespace Go.Proofs.Ytfdpieeopdhcmaa.Ab
open Go Go.RowKit Go.Proofs
set_option maxRecDepth 100000
def c_impl_CriticalOrder : ACode := .seq (.reg [⟨(some 6), .mv (.const (.int .i64 0)), none⟩,
  ⟨(some 7), .mv (.const (.bool false)), none⟩])
 (.seq (.seq (.reg [⟨(some 10), .mv (.tmp 0), none⟩,
  ⟨(some 11), .mv (.tmp 1), none⟩,
  ⟨(some 12), .mv (.tmp 2), none⟩,
  ⟨(some 13), .call (.func 80) [(.tmp 10), (.tmp 11), (.tmp 12)], none⟩,
  ⟨(some 14), .un .not (.tmp 13), none⟩])
 (.cond (.tmp 14) (.seq (.reg [⟨(some 6), .mv (.const (.int .i64 0)), none⟩,
  ⟨(some 7), .mv (.const (.bool false)), none⟩])
 (.ret)) (.skip)))
 (.seq (.reg [⟨(some 15), .mv (.tmp 2), none⟩,
  ⟨(some 16), .mv (.tmp 0), none⟩,
  ⟨(some 17), .call (.func 81) [(.tmp 16)], none⟩,
  ⟨(some 18), .bin .mul (.tmp 15) (.tmp 17), none⟩,
  ⟨(some 8), .mv (.tmp 18), none⟩])
 (.seq (.reg [⟨(some 9), .mv (.const (.int .i64 0)), none⟩])
 (.seq (.block 0 (.loop (.seq (.seq (.reg [⟨(some 19), .mv (.tmp 1), none⟩,
  ⟨(some 20), .mv (.tmp 2), none⟩,
  ⟨(some 21), .bin .add (.tmp 19) (.tmp 20), none⟩,
  ⟨(some 22), .mv (.tmp 0), none⟩,
  ⟨(some 23), .mv (.tmp 9), none⟩,
  ⟨(some 24), .call (.func 82) [(.tmp 22), (.tmp 23)], none⟩,
  ⟨(some 25), .bin .mul (.tmp 21) (.tmp 24), none⟩,
  ⟨(some 26), .mv (.tmp 8), none⟩,
  ⟨(some 27), .bin .lss (.tmp 25) (.tmp 26), none⟩])
 (.cond (.tmp 27) (.skip) (.exit 0)))
 (.block 1 (.reg [⟨(some 28), .mv (.tmp 9), none⟩,
  ⟨(some 29), .bin .add (.tmp 28) (.const (.int .i64 1)), none⟩,
  ⟨(some 9), .mv (.tmp 29), none⟩])))))
 (.seq (.reg [⟨(some 30), .mv (.tmp 9), none⟩,
  ⟨(some 6), .mv (.tmp 30), none⟩,
  ⟨(some 7), .mv (.const (.bool true)), none⟩])
 (.ret))))))
def r_impl_CriticalOrder : List ARes := [.tmp 6, .tmp 7]
theorem ok_impl_CriticalOrder : FnOk Try.prog 25 31 c_impl_CriticalOrder r_impl_CriticalOrder := ⟨⟨Try.f25, _, Try.func25, by kernel_rfl, rfl, rfl, by kernel_rfl, by kernel_rfl⟩⟩
def c_spec_CriticalOrder : ACode := .seq (.reg [⟨(some 6), .mv (.const (.int .i64 0)), none⟩,
  ⟨(some 7), .mv (.const (.bool false)), none⟩])
 (.seq (.seq (.reg [⟨(some 8), .mv (.tmp 0), none⟩,
  ⟨(some 9), .call (.func 83) [(.tmp 8)], none⟩,
  ⟨(some 10), .un .not (.tmp 9), none⟩,
  ⟨(some 11), .mv (.tmp 10), none⟩,
  ⟨(some 12), .mv (.tmp 1), (some (11, false))⟩,
  ⟨(some 13), .mv (.tmp 2), (some (11, false))⟩,
  ⟨(some 14), .call (.func 84) [(.tmp 12), (.tmp 13)], (some (11, false))⟩,
  ⟨(some 15), .un .not (.tmp 14), (some (11, false))⟩,
  ⟨(some 16), .pick (.tmp 11) (.const (.bool true)) (.tmp 15), none⟩])
 (.cond (.tmp 16) (.seq (.reg [⟨(some 6), .mv (.const (.int .i64 0)), none⟩,
  ⟨(some 7), .mv (.const (.bool false)), none⟩])
 (.ret)) (.skip)))
 (.seq (.reg [⟨(some 17), .mv (.tmp 0), none⟩,
  ⟨(some 18), .mv (.tmp 1), none⟩,
  ⟨(some 19), .mv (.tmp 2), none⟩,
  ⟨(some 20), .call (.func 85) [(.tmp 17), (.tmp 18), (.tmp 19)], none⟩,
  ⟨(some 6), .mv (.tmp 20), none⟩,
  ⟨(some 7), .mv (.const (.bool true)), none⟩])
 (.ret)))
def r_spec_CriticalOrder : List ARes := [.tmp 6, .tmp 7]
theorem ok_spec_CriticalOrder : FnOk Try.prog 26 21 c_spec_CriticalOrder r_spec_CriticalOrder := ⟨⟨Try.f26, _, Try.func26, by kernel_rfl, rfl, rfl, by kernel_rfl, by kernel_rfl⟩⟩
def c_impl_BestOrders : ACode := .seq (.reg [⟨(some 6), .mv (.const (.slice none 0 0)), none⟩,
  ⟨(some 7), .mv (.const (.bool false)), none⟩])
 (.seq (.seq (.reg [⟨(some 10), .mv (.tmp 0), none⟩,
  ⟨(some 11), .mv (.tmp 1), none⟩,
  ⟨(some 12), .mv (.tmp 2), none⟩,
  ⟨(some 13), .call (.func 80) [(.tmp 10), (.tmp 11), (.tmp 12)], none⟩,
  ⟨(some 14), .un .not (.tmp 13), none⟩])
 (.cond (.tmp 14) (.seq (.reg [⟨(some 15), .bsl 3 1 0 [] [], none⟩,
  ⟨(some 6), .mv (.tmp 15), none⟩,
  ⟨(some 7), .mv (.const (.bool false)), none⟩])
 (.ret)) (.skip)))
 (.seq (.reg [⟨(some 16), .mv (.tmp 0), none⟩,
  ⟨(some 17), .mv (.tmp 1), none⟩,
  ⟨(some 18), .mv (.tmp 2), none⟩,
  ⟨(some 19), .call (.func 86) [(.tmp 16), (.tmp 17), (.tmp 18)], none⟩,
  ⟨(some 8), .mv (.tmp 19), none⟩])
 (.seq (.reg [⟨(some 20), .mv (.tmp 8), none⟩,
  ⟨(some 21), .call (.func 87) [(.tmp 20)], none⟩,
  ⟨(some 9), .alc 3 [(.int .i64 0)], none⟩,
  ⟨none, .st 1 (.tmp 9) (.tmp 21), none⟩])
 (.seq (.reg [⟨(some 22), .mv (.tmp 8), none⟩,
  ⟨(some 23), .mkf 89 [] [(.tmp 9)], none⟩,
  ⟨(some 24), .call (.func 88) [(.tmp 22), (.tmp 23)], none⟩,
  ⟨(some 6), .mv (.tmp 24), none⟩,
  ⟨(some 7), .mv (.const (.bool true)), none⟩])
 (.ret)))))
def r_impl_BestOrders : List ARes := [.tmp 6, .tmp 7]
theorem ok_impl_BestOrders : FnOk Try.prog 27 25 c_impl_BestOrders r_impl_BestOrders := ⟨⟨Try.f27, _, Try.func27, by kernel_rfl, rfl, rfl, by kernel_rfl, by kernel_rfl⟩⟩
def c_spec_BestOrders : ACode := .seq (.reg [⟨(some 6), .mv (.const (.slice none 0 0)), none⟩,
  ⟨(some 7), .mv (.const (.bool false)), none⟩])
 (.seq (.reg [⟨(some 11), .bsl 3 1 0 [] [], none⟩,
  ⟨(some 8), .mv (.tmp 11), none⟩])
 (.seq (.seq (.reg [⟨(some 12), .mv (.tmp 0), none⟩,
  ⟨(some 13), .call (.func 83) [(.tmp 12)], none⟩,
  ⟨(some 14), .un .not (.tmp 13), none⟩,
  ⟨(some 15), .mv (.tmp 14), none⟩,
  ⟨(some 16), .mv (.tmp 1), (some (15, false))⟩,
  ⟨(some 17), .mv (.tmp 2), (some (15, false))⟩,
  ⟨(some 18), .call (.func 84) [(.tmp 16), (.tmp 17)], (some (15, false))⟩,
  ⟨(some 19), .un .not (.tmp 18), (some (15, false))⟩,
  ⟨(some 20), .pick (.tmp 15) (.const (.bool true)) (.tmp 19), none⟩])
 (.cond (.tmp 20) (.seq (.reg [⟨(some 21), .mv (.tmp 8), none⟩,
  ⟨(some 6), .mv (.tmp 21), none⟩,
  ⟨(some 7), .mv (.const (.bool false)), none⟩])
 (.ret)) (.skip)))
 (.seq (.reg [⟨(some 22), .mv (.tmp 0), none⟩,
  ⟨(some 23), .mv (.tmp 1), none⟩,
  ⟨(some 24), .mv (.tmp 2), none⟩,
  ⟨(some 25), .mv (.tmp 0), none⟩,
  ⟨(some 26), .mv (.tmp 1), none⟩,
  ⟨(some 27), .mv (.tmp 2), none⟩,
  ⟨(some 28), .call (.func 85) [(.tmp 25), (.tmp 26), (.tmp 27)], none⟩,
  ⟨(some 29), .call (.func 90) [(.tmp 22), (.tmp 23), (.tmp 24), (.tmp 28)], none⟩,
  ⟨(some 9), .mv (.tmp 29), none⟩])
 (.seq (.seq (.reg [⟨(some 10), .mv (.const (.int .i64 0)), none⟩])
 (.block 0 (.loop (.seq (.seq (.reg [⟨(some 30), .mv (.tmp 10), none⟩,
  ⟨(some 31), .bin .leq (.tmp 30) (.const (.int .i64 15)), none⟩])
 (.cond (.tmp 31) (.skip) (.exit 0)))
 (.seq (.block 1 (.seq (.reg [⟨(some 34), .mv (.tmp 0), none⟩,
  ⟨(some 35), .mv (.tmp 1), none⟩,
  ⟨(some 36), .mv (.tmp 2), none⟩,
  ⟨(some 37), .mv (.tmp 10), none⟩,
  ⟨(some 38), .call (.func 90) [(.tmp 34), (.tmp 35), (.tmp 36), (.tmp 37)], none⟩,
  ⟨(some 39), .mv (.tmp 9), none⟩,
  ⟨(some 40), .bin .eql (.tmp 38) (.tmp 39), none⟩])
 (.cond (.tmp 40) (.reg [⟨(some 41), .mv (.tmp 8), none⟩,
  ⟨(some 42), .mv (.tmp 10), none⟩,
  ⟨(some 43), .bsl 3 1 1 [(.int .i64 0)] [(0, 1, (.tmp 42))], none⟩,
  ⟨(some 44), .app 3 1 8 (.tmp 41) (.tmp 43), none⟩,
  ⟨(some 8), .mv (.tmp 44), none⟩]) (.skip))))
 (.reg [⟨(some 32), .mv (.tmp 10), none⟩,
  ⟨(some 33), .bin .add (.tmp 32) (.const (.int .i64 1)), none⟩,
  ⟨(some 10), .mv (.tmp 33), none⟩]))))))
 (.seq (.reg [⟨(some 45), .mv (.tmp 8), none⟩,
  ⟨(some 6), .mv (.tmp 45), none⟩,
  ⟨(some 7), .mv (.const (.bool true)), none⟩])
 (.ret))))))
def r_spec_BestOrders : List ARes := [.tmp 6, .tmp 7]
theorem ok_spec_BestOrders : FnOk Try.prog 28 46 c_spec_BestOrders r_spec_BestOrders := ⟨⟨Try.f28, _, Try.func28, by kernel_rfl, rfl, rfl, by kernel_rfl, by kernel_rfl⟩⟩
def c_impl_CostSum : ACode := .seq (.reg [⟨(some 8), .mv (.const (.int .i64 0)), none⟩,
  ⟨(some 9), .mv (.const (.bool false)), none⟩])
 (.seq (.seq (.reg [⟨(some 10), .mv (.tmp 0), none⟩,
  ⟨(some 11), .mv (.tmp 1), none⟩,
  ⟨(some 12), .mv (.tmp 2), none⟩,
  ⟨(some 13), .call (.func 80) [(.tmp 10), (.tmp 11), (.tmp 12)], none⟩,
  ⟨(some 14), .un .not (.tmp 13), none⟩,
  ⟨(some 15), .mv (.tmp 14), none⟩,
  ⟨(some 16), .mv (.tmp 0), (some (15, false))⟩,
  ⟨(some 17), .mv (.tmp 3), (some (15, false))⟩,
  ⟨(some 18), .call (.func 92) [(.tmp 16), (.tmp 17)], (some (15, false))⟩,
  ⟨(some 19), .un .not (.tmp 18), (some (15, false))⟩,
  ⟨(some 20), .pick (.tmp 15) (.const (.bool true)) (.tmp 19), none⟩])
 (.cond (.tmp 20) (.seq (.reg [⟨(some 8), .mv (.const (.int .i64 0)), none⟩,
  ⟨(some 9), .mv (.const (.bool false)), none⟩])
 (.ret)) (.skip)))
 (.seq (.reg [⟨(some 21), .mv (.tmp 0), none⟩,
  ⟨(some 22), .mv (.tmp 1), none⟩,
  ⟨(some 23), .mv (.tmp 2), none⟩,
  ⟨(some 24), .mv (.tmp 3), none⟩,
  ⟨(some 25), .call (.func 93) [(.tmp 21), (.tmp 22), (.tmp 23), (.tmp 24)], none⟩,
  ⟨(some 8), .mv (.tmp 25), none⟩,
  ⟨(some 9), .mv (.const (.bool true)), none⟩])
 (.ret)))
def r_impl_CostSum : List ARes := [.tmp 8, .tmp 9]
theorem ok_impl_CostSum : FnOk Try.prog 31 26 c_impl_CostSum r_impl_CostSum := ⟨⟨Try.f31, _, Try.func31, by kernel_rfl, rfl, rfl, by kernel_rfl, by kernel_rfl⟩⟩
def c_spec_CostSum : ACode := .seq (.reg [⟨(some 8), .mv (.const (.int .i64 0)), none⟩,
  ⟨(some 9), .mv (.const (.bool false)), none⟩])
 (.seq (.seq (.reg [⟨(some 10), .mv (.tmp 0), none⟩,
  ⟨(some 11), .mv (.tmp 3), none⟩,
  ⟨(some 12), .call (.func 94) [(.tmp 10), (.tmp 11)], none⟩,
  ⟨(some 13), .un .not (.tmp 12), none⟩,
  ⟨(some 14), .mv (.tmp 13), none⟩,
  ⟨(some 15), .mv (.tmp 1), (some (14, false))⟩,
  ⟨(some 16), .mv (.tmp 2), (some (14, false))⟩,
  ⟨(some 17), .call (.func 84) [(.tmp 15), (.tmp 16)], (some (14, false))⟩,
  ⟨(some 18), .un .not (.tmp 17), (some (14, false))⟩,
  ⟨(some 19), .pick (.tmp 14) (.const (.bool true)) (.tmp 18), none⟩])
 (.cond (.tmp 19) (.seq (.reg [⟨(some 8), .mv (.const (.int .i64 0)), none⟩,
  ⟨(some 9), .mv (.const (.bool false)), none⟩])
 (.ret)) (.skip)))
 (.seq (.reg [⟨(some 20), .mv (.tmp 0), none⟩,
  ⟨(some 21), .mv (.tmp 1), none⟩,
  ⟨(some 22), .mv (.tmp 2), none⟩,
  ⟨(some 23), .mv (.tmp 3), none⟩,
  ⟨(some 24), .call (.func 90) [(.tmp 20), (.tmp 21), (.tmp 22), (.tmp 23)], none⟩,
  ⟨(some 8), .mv (.tmp 24), none⟩,
  ⟨(some 9), .mv (.const (.bool true)), none⟩])
 (.ret)))
def r_spec_CostSum : List ARes := [.tmp 8, .tmp 9]
theorem ok_spec_CostSum : FnOk Try.prog 32 25 c_spec_CostSum r_spec_CostSum := ⟨⟨Try.f32, _, Try.func32, by kernel_rfl, rfl, rfl, by kernel_rfl, by kernel_rfl⟩⟩
def c_impl_OverSum : ACode := .seq (.reg [⟨(some 4), .mv (.const (.int .i64 0)), none⟩,
  ⟨(some 5), .mv (.const (.bool false)), none⟩])
 (.seq (.seq (.reg [⟨(some 6), .mv (.tmp 0), none⟩,
  ⟨(some 7), .mv (.tmp 1), none⟩,
  ⟨(some 8), .call (.func 92) [(.tmp 6), (.tmp 7)], none⟩,
  ⟨(some 9), .un .not (.tmp 8), none⟩])
 (.cond (.tmp 9) (.seq (.reg [⟨(some 4), .mv (.const (.int .i64 0)), none⟩,
  ⟨(some 5), .mv (.const (.bool false)), none⟩])
 (.ret)) (.skip)))
 (.seq (.reg [⟨(some 10), .mv (.tmp 0), none⟩,
  ⟨(some 11), .mv (.tmp 1), none⟩,
  ⟨(some 12), .call (.func 95) [(.tmp 10), (.tmp 11)], none⟩,
  ⟨(some 4), .mv (.tmp 12), none⟩,
  ⟨(some 5), .mv (.const (.bool true)), none⟩])
 (.ret)))
def r_impl_OverSum : List ARes := [.tmp 4, .tmp 5]
theorem ok_impl_OverSum : FnOk Try.prog 33 13 c_impl_OverSum r_impl_OverSum := ⟨⟨Try.f33, _, Try.func33, by kernel_rfl, rfl, rfl, by kernel_rfl, by kernel_rfl⟩⟩
def c_spec_OverSum : ACode := .seq (.reg [⟨(some 4), .mv (.const (.int .i64 0)), none⟩,
  ⟨(some 5), .mv (.const (.bool false)), none⟩])
 (.seq (.seq (.reg [⟨(some 6), .mv (.tmp 0), none⟩,
  ⟨(some 7), .mv (.tmp 1), none⟩,
  ⟨(some 8), .call (.func 94) [(.tmp 6), (.tmp 7)], none⟩,
  ⟨(some 9), .un .not (.tmp 8), none⟩])
 (.cond (.tmp 9) (.seq (.reg [⟨(some 4), .mv (.const (.int .i64 0)), none⟩,
  ⟨(some 5), .mv (.const (.bool false)), none⟩])
 (.ret)) (.skip)))
 (.seq (.reg [⟨(some 10), .mv (.tmp 0), none⟩,
  ⟨(some 11), .mv (.tmp 1), none⟩,
  ⟨(some 12), .call (.func 96) [(.tmp 10), (.tmp 11)], none⟩,
  ⟨(some 4), .mv (.tmp 12), none⟩,
  ⟨(some 5), .mv (.const (.bool true)), none⟩])
 (.ret)))
def r_spec_OverSum : List ARes := [.tmp 4, .tmp 5]
theorem ok_spec_OverSum : FnOk Try.prog 34 13 c_spec_OverSum r_spec_OverSum := ⟨⟨Try.f34, _, Try.func34, by kernel_rfl, rfl, rfl, by kernel_rfl, by kernel_rfl⟩⟩
def c_impl_ShortSum : ACode := .seq (.reg [⟨(some 4), .mv (.const (.int .i64 0)), none⟩,
  ⟨(some 5), .mv (.const (.bool false)), none⟩])
 (.seq (.seq (.reg [⟨(some 6), .mv (.tmp 0), none⟩,
  ⟨(some 7), .mv (.tmp 1), none⟩,
  ⟨(some 8), .call (.func 92) [(.tmp 6), (.tmp 7)], none⟩,
  ⟨(some 9), .un .not (.tmp 8), none⟩])
 (.cond (.tmp 9) (.seq (.reg [⟨(some 4), .mv (.const (.int .i64 0)), none⟩,
  ⟨(some 5), .mv (.const (.bool false)), none⟩])
 (.ret)) (.skip)))
 (.seq (.reg [⟨(some 10), .mv (.tmp 0), none⟩,
  ⟨(some 11), .mv (.tmp 1), none⟩,
  ⟨(some 12), .call (.func 97) [(.tmp 10), (.tmp 11)], none⟩,
  ⟨(some 4), .mv (.tmp 12), none⟩,
  ⟨(some 5), .mv (.const (.bool true)), none⟩])
 (.ret)))
def r_impl_ShortSum : List ARes := [.tmp 4, .tmp 5]
theorem ok_impl_ShortSum : FnOk Try.prog 35 13 c_impl_ShortSum r_impl_ShortSum := ⟨⟨Try.f35, _, Try.func35, by kernel_rfl, rfl, rfl, by kernel_rfl, by kernel_rfl⟩⟩
def c_spec_ShortSum : ACode := .seq (.reg [⟨(some 4), .mv (.const (.int .i64 0)), none⟩,
  ⟨(some 5), .mv (.const (.bool false)), none⟩])
 (.seq (.seq (.reg [⟨(some 6), .mv (.tmp 0), none⟩,
  ⟨(some 7), .mv (.tmp 1), none⟩,
  ⟨(some 8), .call (.func 94) [(.tmp 6), (.tmp 7)], none⟩,
  ⟨(some 9), .un .not (.tmp 8), none⟩])
 (.cond (.tmp 9) (.seq (.reg [⟨(some 4), .mv (.const (.int .i64 0)), none⟩,
  ⟨(some 5), .mv (.const (.bool false)), none⟩])
 (.ret)) (.skip)))
 (.seq (.reg [⟨(some 10), .mv (.tmp 0), none⟩,
  ⟨(some 11), .mv (.tmp 1), none⟩,
  ⟨(some 12), .call (.func 98) [(.tmp 10), (.tmp 11)], none⟩,
  ⟨(some 4), .mv (.tmp 12), none⟩,
  ⟨(some 5), .mv (.const (.bool true)), none⟩])
 (.ret)))
def r_spec_ShortSum : List ARes := [.tmp 4, .tmp 5]
theorem ok_spec_ShortSum : FnOk Try.prog 36 13 c_spec_ShortSum r_spec_ShortSum := ⟨⟨Try.f36, _, Try.func36, by kernel_rfl, rfl, rfl, by kernel_rfl, by kernel_rfl⟩⟩
def c_impl_MeanSum : ACode := .seq (.reg [⟨(some 2), .mv (.const (.int .i64 0)), none⟩,
  ⟨(some 3), .mv (.const (.bool false)), none⟩])
 (.seq (.seq (.reg [⟨(some 4), .mv (.tmp 0), none⟩,
  ⟨(some 5), .call (.func 44) [(.tmp 4)], none⟩,
  ⟨(some 6), .un .not (.tmp 5), none⟩])
 (.cond (.tmp 6) (.seq (.reg [⟨(some 2), .mv (.const (.int .i64 0)), none⟩,
  ⟨(some 3), .mv (.const (.bool false)), none⟩])
 (.ret)) (.skip)))
 (.seq (.reg [⟨(some 7), .mv (.tmp 0), none⟩,
  ⟨(some 8), .call (.func 99) [(.tmp 7)], none⟩,
  ⟨(some 2), .mv (.tmp 8), none⟩,
  ⟨(some 3), .mv (.const (.bool true)), none⟩])
 (.ret)))
def r_impl_MeanSum : List ARes := [.tmp 2, .tmp 3]
theorem ok_impl_MeanSum : FnOk Try.prog 37 9 c_impl_MeanSum r_impl_MeanSum := ⟨⟨Try.f37, _, Try.func37, by kernel_rfl, rfl, rfl, by kernel_rfl, by kernel_rfl⟩⟩
def c_spec_MeanSum : ACode := .seq (.reg [⟨(some 2), .mv (.const (.int .i64 0)), none⟩,
  ⟨(some 3), .mv (.const (.bool false)), none⟩])
 (.seq (.seq (.reg [⟨(some 4), .mv (.tmp 0), none⟩,
  ⟨(some 5), .call (.func 83) [(.tmp 4)], none⟩,
  ⟨(some 6), .un .not (.tmp 5), none⟩])
 (.cond (.tmp 6) (.seq (.reg [⟨(some 2), .mv (.const (.int .i64 0)), none⟩,
  ⟨(some 3), .mv (.const (.bool false)), none⟩])
 (.ret)) (.skip)))
 (.seq (.reg [⟨(some 7), .mv (.tmp 0), none⟩,
  ⟨(some 8), .call (.func 98) [(.tmp 7), (.const (.int .i64 0))], none⟩,
  ⟨(some 2), .mv (.tmp 8), none⟩,
  ⟨(some 3), .mv (.const (.bool true)), none⟩])
 (.ret)))
def r_spec_MeanSum : List ARes := [.tmp 2, .tmp 3]
theorem ok_spec_MeanSum : FnOk Try.prog 38 9 c_spec_MeanSum r_spec_MeanSum := ⟨⟨Try.f38, _, Try.func38, by kernel_rfl, rfl, rfl, by kernel_rfl, by kernel_rfl⟩⟩
def c_impl_TotalWeight : ACode := .seq (.reg [⟨(some 2), .mv (.const (.int .i64 0)), none⟩,
  ⟨(some 3), .mv (.const (.bool false)), none⟩])
 (.seq (.seq (.reg [⟨(some 4), .mv (.tmp 0), none⟩,
  ⟨(some 5), .call (.func 44) [(.tmp 4)], none⟩,
  ⟨(some 6), .un .not (.tmp 5), none⟩])
 (.cond (.tmp 6) (.seq (.reg [⟨(some 2), .mv (.const (.int .i64 0)), none⟩,
  ⟨(some 3), .mv (.const (.bool false)), none⟩])
 (.ret)) (.skip)))
 (.seq (.reg [⟨(some 7), .mv (.tmp 0), none⟩,
  ⟨(some 8), .call (.func 81) [(.tmp 7)], none⟩,
  ⟨(some 2), .mv (.tmp 8), none⟩,
  ⟨(some 3), .mv (.const (.bool true)), none⟩])
 (.ret)))
def r_impl_TotalWeight : List ARes := [.tmp 2, .tmp 3]
theorem ok_impl_TotalWeight : FnOk Try.prog 39 9 c_impl_TotalWeight r_impl_TotalWeight := ⟨⟨Try.f39, _, Try.func39, by kernel_rfl, rfl, rfl, by kernel_rfl, by kernel_rfl⟩⟩
def c_spec_TotalWeight : ACode := .seq (.reg [⟨(some 2), .mv (.const (.int .i64 0)), none⟩,
  ⟨(some 3), .mv (.const (.bool false)), none⟩])
 (.seq (.seq (.reg [⟨(some 4), .mv (.tmp 0), none⟩,
  ⟨(some 5), .call (.func 83) [(.tmp 4)], none⟩,
  ⟨(some 6), .un .not (.tmp 5), none⟩])
 (.cond (.tmp 6) (.seq (.reg [⟨(some 2), .mv (.const (.int .i64 0)), none⟩,
  ⟨(some 3), .mv (.const (.bool false)), none⟩])
 (.ret)) (.skip)))
 (.seq (.reg [⟨(some 7), .mv (.tmp 0), none⟩,
  ⟨(some 8), .call (.func 100) [(.tmp 7)], none⟩,
  ⟨(some 2), .mv (.tmp 8), none⟩,
  ⟨(some 3), .mv (.const (.bool true)), none⟩])
 (.ret)))
def r_spec_TotalWeight : List ARes := [.tmp 2, .tmp 3]
theorem ok_spec_TotalWeight : FnOk Try.prog 40 9 c_spec_TotalWeight r_spec_TotalWeight := ⟨⟨Try.f40, _, Try.func40, by kernel_rfl, rfl, rfl, by kernel_rfl, by kernel_rfl⟩⟩
def c_impl_WeightUpTo : ACode := .seq (.reg [⟨(some 4), .mv (.const (.int .i64 0)), none⟩,
  ⟨(some 5), .mv (.const (.bool false)), none⟩])
 (.seq (.seq (.reg [⟨(some 6), .mv (.tmp 0), none⟩,
  ⟨(some 7), .mv (.tmp 1), none⟩,
  ⟨(some 8), .call (.func 92) [(.tmp 6), (.tmp 7)], none⟩,
  ⟨(some 9), .un .not (.tmp 8), none⟩])
 (.cond (.tmp 9) (.seq (.reg [⟨(some 4), .mv (.const (.int .i64 0)), none⟩,
  ⟨(some 5), .mv (.const (.bool false)), none⟩])
 (.ret)) (.skip)))
 (.seq (.reg [⟨(some 10), .mv (.tmp 0), none⟩,
  ⟨(some 11), .mv (.tmp 1), none⟩,
  ⟨(some 12), .call (.func 82) [(.tmp 10), (.tmp 11)], none⟩,
  ⟨(some 4), .mv (.tmp 12), none⟩,
  ⟨(some 5), .mv (.const (.bool true)), none⟩])
 (.ret)))
def r_impl_WeightUpTo : List ARes := [.tmp 4, .tmp 5]
theorem ok_impl_WeightUpTo : FnOk Try.prog 41 13 c_impl_WeightUpTo r_impl_WeightUpTo := ⟨⟨Try.f41, _, Try.func41, by kernel_rfl, rfl, rfl, by kernel_rfl, by kernel_rfl⟩⟩
def c_spec_WeightUpTo : ACode := .seq (.reg [⟨(some 4), .mv (.const (.int .i64 0)), none⟩,
  ⟨(some 5), .mv (.const (.bool false)), none⟩])
 (.seq (.seq (.reg [⟨(some 6), .mv (.tmp 0), none⟩,
  ⟨(some 7), .mv (.tmp 1), none⟩,
  ⟨(some 8), .call (.func 94) [(.tmp 6), (.tmp 7)], none⟩,
  ⟨(some 9), .un .not (.tmp 8), none⟩])
 (.cond (.tmp 9) (.seq (.reg [⟨(some 4), .mv (.const (.int .i64 0)), none⟩,
  ⟨(some 5), .mv (.const (.bool false)), none⟩])
 (.ret)) (.skip)))
 (.seq (.reg [⟨(some 10), .mv (.tmp 0), none⟩,
  ⟨(some 11), .mv (.tmp 1), none⟩,
  ⟨(some 12), .call (.func 101) [(.tmp 10), (.tmp 11)], none⟩,
  ⟨(some 4), .mv (.tmp 12), none⟩,
  ⟨(some 5), .mv (.const (.bool true)), none⟩])
 (.ret)))
def r_spec_WeightUpTo : List ARes := [.tmp 4, .tmp 5]
theorem ok_spec_WeightUpTo : FnOk Try.prog 42 13 c_spec_WeightUpTo r_spec_WeightUpTo := ⟨⟨Try.f42, _, Try.func42, by kernel_rfl, rfl, rfl, by kernel_rfl, by kernel_rfl⟩⟩
def c_impl_IsDistribution : ACode := .seq (.reg [⟨(some 2), .mv (.const (.bool false)), none⟩])
 (.seq (.reg [⟨(some 3), .mv (.tmp 0), none⟩,
  ⟨(some 4), .len (.tmp 3), none⟩,
  ⟨(some 5), .bin .leq (.tmp 4) (.const (.int .i64 16)), none⟩,
  ⟨(some 6), .mv (.tmp 5), none⟩,
  ⟨(some 7), .mv (.tmp 0), (some (6, true))⟩,
  ⟨(some 8), .mv (.tmp 0), (some (6, true))⟩,
  ⟨(some 9), .len (.tmp 8), (some (6, true))⟩,
  ⟨(some 10), .call (.func 102) [(.tmp 7), (.tmp 9), (.const (.int .i64 1000))], (some (6, true))⟩,
  ⟨(some 11), .pick (.tmp 6) (.tmp 10) (.const (.bool false)), none⟩,
  ⟨(some 12), .mv (.tmp 11), none⟩,
  ⟨(some 13), .mv (.tmp 0), (some (12, true))⟩,
  ⟨(some 14), .call (.func 81) [(.tmp 13)], (some (12, true))⟩,
  ⟨(some 15), .bin .gtr (.tmp 14) (.const (.int .i64 0)), (some (12, true))⟩,
  ⟨(some 16), .pick (.tmp 12) (.tmp 15) (.const (.bool false)), none⟩,
  ⟨(some 2), .mv (.tmp 16), none⟩])
 (.ret))
def r_impl_IsDistribution : List ARes := [.tmp 2]
theorem ok_impl_IsDistribution : FnOk Try.prog 44 17 c_impl_IsDistribution r_impl_IsDistribution := ⟨⟨Try.f44, _, Try.func44, by kernel_rfl, rfl, rfl, by kernel_rfl, by kernel_rfl⟩⟩
def c_spec_IsDistribution : ACode := .seq (.reg [⟨(some 2), .mv (.const (.bool false)), none⟩])
 (.seq (.reg [⟨(some 3), .mv (.tmp 0), none⟩,
  ⟨(some 4), .call (.func 83) [(.tmp 3)], none⟩,
  ⟨(some 2), .mv (.tmp 4), none⟩])
 (.ret))
def r_spec_IsDistribution : List ARes := [.tmp 2]
theorem ok_spec_IsDistribution : FnOk Try.prog 45 5 c_spec_IsDistribution r_spec_IsDistribution := ⟨⟨Try.f45, _, Try.func45, by kernel_rfl, rfl, rfl, by kernel_rfl, by kernel_rfl⟩⟩
def c_impl_IsMore : ACode := .seq (.reg [⟨(some 4), .mv (.const (.bool false)), none⟩,
  ⟨(some 5), .mv (.const (.bool false)), none⟩])
 (.seq (.seq (.reg [⟨(some 6), .mv (.tmp 0), none⟩,
  ⟨(some 7), .call (.func 44) [(.tmp 6)], none⟩,
  ⟨(some 8), .un .not (.tmp 7), none⟩,
  ⟨(some 9), .mv (.tmp 8), none⟩,
  ⟨(some 10), .mv (.tmp 1), (some (9, false))⟩,
  ⟨(some 11), .call (.func 44) [(.tmp 10)], (some (9, false))⟩,
  ⟨(some 12), .un .not (.tmp 11), (some (9, false))⟩,
  ⟨(some 13), .pick (.tmp 9) (.const (.bool true)) (.tmp 12), none⟩])
 (.cond (.tmp 13) (.seq (.reg [⟨(some 4), .mv (.const (.bool false)), none⟩,
  ⟨(some 5), .mv (.const (.bool false)), none⟩])
 (.ret)) (.skip)))
 (.seq (.reg [⟨(some 14), .mv (.tmp 1), none⟩,
  ⟨(some 15), .mv (.tmp 0), none⟩,
  ⟨(some 16), .call (.func 106) [(.tmp 14), (.tmp 15), (.func 82)], none⟩,
  ⟨(some 4), .mv (.tmp 16), none⟩,
  ⟨(some 5), .mv (.const (.bool true)), none⟩])
 (.ret)))
def r_impl_IsMore : List ARes := [.tmp 4, .tmp 5]
theorem ok_impl_IsMore : FnOk Try.prog 47 17 c_impl_IsMore r_impl_IsMore := ⟨⟨Try.f47, _, Try.func47, by kernel_rfl, rfl, rfl, by kernel_rfl, by kernel_rfl⟩⟩
def c_spec_IsMore : ACode := .seq (.reg [⟨(some 4), .mv (.const (.bool false)), none⟩,
  ⟨(some 5), .mv (.const (.bool false)), none⟩])
 (.seq (.seq (.reg [⟨(some 7), .mv (.tmp 0), none⟩,
  ⟨(some 8), .call (.func 83) [(.tmp 7)], none⟩,
  ⟨(some 9), .un .not (.tmp 8), none⟩,
  ⟨(some 10), .mv (.tmp 9), none⟩,
  ⟨(some 11), .mv (.tmp 1), (some (10, false))⟩,
  ⟨(some 12), .call (.func 83) [(.tmp 11)], (some (10, false))⟩,
  ⟨(some 13), .un .not (.tmp 12), (some (10, false))⟩,
  ⟨(some 14), .pick (.tmp 10) (.const (.bool true)) (.tmp 13), none⟩])
 (.cond (.tmp 14) (.seq (.reg [⟨(some 4), .mv (.const (.bool false)), none⟩,
  ⟨(some 5), .mv (.const (.bool false)), none⟩])
 (.ret)) (.skip)))
 (.seq (.seq (.reg [⟨(some 6), .mv (.const (.int .i64 0)), none⟩])
 (.block 0 (.loop (.seq (.seq (.reg [⟨(some 15), .mv (.tmp 6), none⟩,
  ⟨(some 16), .bin .leq (.tmp 15) (.const (.int .i64 15)), none⟩])
 (.cond (.tmp 16) (.skip) (.exit 0)))
 (.seq (.block 1 (.seq (.reg [⟨(some 19), .mv (.tmp 0), none⟩,
  ⟨(some 20), .mv (.tmp 6), none⟩,
  ⟨(some 21), .call (.func 101) [(.tmp 19), (.tmp 20)], none⟩,
  ⟨(some 22), .mv (.tmp 1), none⟩,
  ⟨(some 23), .call (.func 100) [(.tmp 22)], none⟩,
  ⟨(some 24), .bin .mul (.tmp 21) (.tmp 23), none⟩,
  ⟨(some 25), .mv (.tmp 1), none⟩,
  ⟨(some 26), .mv (.tmp 6), none⟩,
  ⟨(some 27), .call (.func 101) [(.tmp 25), (.tmp 26)], none⟩,
  ⟨(some 28), .mv (.tmp 0), none⟩,
  ⟨(some 29), .call (.func 100) [(.tmp 28)], none⟩,
  ⟨(some 30), .bin .mul (.tmp 27) (.tmp 29), none⟩,
  ⟨(some 31), .bin .gtr (.tmp 24) (.tmp 30), none⟩])
 (.cond (.tmp 31) (.seq (.reg [⟨(some 4), .mv (.const (.bool false)), none⟩,
  ⟨(some 5), .mv (.const (.bool true)), none⟩])
 (.ret)) (.skip))))
 (.reg [⟨(some 17), .mv (.tmp 6), none⟩,
  ⟨(some 18), .bin .add (.tmp 17) (.const (.int .i64 1)), none⟩,
  ⟨(some 6), .mv (.tmp 18), none⟩]))))))
 (.seq (.reg [⟨(some 4), .mv (.const (.bool true)), none⟩,
  ⟨(some 5), .mv (.const (.bool true)), none⟩])
 (.ret))))
def r_spec_IsMore : List ARes := [.tmp 4, .tmp 5]
theorem ok_spec_IsMore : FnOk Try.prog 48 32 c_spec_IsMore r_spec_IsMore := ⟨⟨Try.f48, _, Try.func48, by kernel_rfl, rfl, rfl, by kernel_rfl, by kernel_rfl⟩⟩
def c_impl_IsWider : ACode := .seq (.reg [⟨(some 4), .mv (.const (.bool false)), none⟩,
  ⟨(some 5), .mv (.const (.bool false)), none⟩])
 (.seq (.seq (.reg [⟨(some 7), .mv (.tmp 0), none⟩,
  ⟨(some 8), .call (.func 44) [(.tmp 7)], none⟩,
  ⟨(some 9), .un .not (.tmp 8), none⟩,
  ⟨(some 10), .mv (.tmp 9), none⟩,
  ⟨(some 11), .mv (.tmp 1), (some (10, false))⟩,
  ⟨(some 12), .call (.func 44) [(.tmp 11)], (some (10, false))⟩,
  ⟨(some 13), .un .not (.tmp 12), (some (10, false))⟩,
  ⟨(some 14), .pick (.tmp 10) (.const (.bool true)) (.tmp 13), none⟩])
 (.cond (.tmp 14) (.seq (.reg [⟨(some 4), .mv (.const (.bool false)), none⟩,
  ⟨(some 5), .mv (.const (.bool false)), none⟩])
 (.ret)) (.skip)))
 (.seq (.reg [⟨(some 15), .mv (.tmp 0), none⟩,
  ⟨(some 16), .call (.func 99) [(.tmp 15)], none⟩,
  ⟨(some 17), .mv (.tmp 1), none⟩,
  ⟨(some 18), .call (.func 81) [(.tmp 17)], none⟩,
  ⟨(some 19), .bin .mul (.tmp 16) (.tmp 18), none⟩,
  ⟨(some 20), .mv (.tmp 1), none⟩,
  ⟨(some 21), .call (.func 99) [(.tmp 20)], none⟩,
  ⟨(some 22), .mv (.tmp 0), none⟩,
  ⟨(some 23), .call (.func 81) [(.tmp 22)], none⟩,
  ⟨(some 24), .bin .mul (.tmp 21) (.tmp 23), none⟩,
  ⟨(some 25), .bin .eql (.tmp 19) (.tmp 24), none⟩,
  ⟨(some 6), .mv (.tmp 25), none⟩])
 (.seq (.reg [⟨(some 26), .mv (.tmp 6), none⟩,
  ⟨(some 27), .mv (.tmp 26), none⟩,
  ⟨(some 28), .mv (.tmp 0), (some (27, true))⟩,
  ⟨(some 29), .mv (.tmp 1), (some (27, true))⟩,
  ⟨(some 30), .call (.func 106) [(.tmp 28), (.tmp 29), (.func 97)], (some (27, true))⟩,
  ⟨(some 31), .pick (.tmp 27) (.tmp 30) (.const (.bool false)), none⟩,
  ⟨(some 4), .mv (.tmp 31), none⟩,
  ⟨(some 5), .mv (.const (.bool true)), none⟩])
 (.ret))))
def r_impl_IsWider : List ARes := [.tmp 4, .tmp 5]
theorem ok_impl_IsWider : FnOk Try.prog 50 32 c_impl_IsWider r_impl_IsWider := ⟨⟨Try.f50, _, Try.func50, by kernel_rfl, rfl, rfl, by kernel_rfl, by kernel_rfl⟩⟩
def c_spec_IsWider : ACode := .seq (.reg [⟨(some 4), .mv (.const (.bool false)), none⟩,
  ⟨(some 5), .mv (.const (.bool false)), none⟩])
 (.seq (.seq (.reg [⟨(some 9), .mv (.tmp 0), none⟩,
  ⟨(some 10), .call (.func 83) [(.tmp 9)], none⟩,
  ⟨(some 11), .un .not (.tmp 10), none⟩,
  ⟨(some 12), .mv (.tmp 11), none⟩,
  ⟨(some 13), .mv (.tmp 1), (some (12, false))⟩,
  ⟨(some 14), .call (.func 83) [(.tmp 13)], (some (12, false))⟩,
  ⟨(some 15), .un .not (.tmp 14), (some (12, false))⟩,
  ⟨(some 16), .pick (.tmp 12) (.const (.bool true)) (.tmp 15), none⟩])
 (.cond (.tmp 16) (.seq (.reg [⟨(some 4), .mv (.const (.bool false)), none⟩,
  ⟨(some 5), .mv (.const (.bool false)), none⟩])
 (.ret)) (.skip)))
 (.seq (.seq (.reg [⟨(some 6), .mv (.const (.int .i64 0)), none⟩])
 (.block 0 (.loop (.seq (.seq (.reg [⟨(some 17), .mv (.tmp 6), none⟩,
  ⟨(some 18), .bin .leq (.tmp 17) (.const (.int .i64 15)), none⟩])
 (.cond (.tmp 18) (.skip) (.exit 0)))
 (.seq (.block 1 (.seq (.reg [⟨(some 21), .mv (.tmp 0), none⟩,
  ⟨(some 22), .mv (.tmp 6), none⟩,
  ⟨(some 23), .call (.func 98) [(.tmp 21), (.tmp 22)], none⟩,
  ⟨(some 24), .mv (.tmp 1), none⟩,
  ⟨(some 25), .call (.func 100) [(.tmp 24)], none⟩,
  ⟨(some 26), .bin .mul (.tmp 23) (.tmp 25), none⟩,
  ⟨(some 27), .mv (.tmp 1), none⟩,
  ⟨(some 28), .mv (.tmp 6), none⟩,
  ⟨(some 29), .call (.func 98) [(.tmp 27), (.tmp 28)], none⟩,
  ⟨(some 30), .mv (.tmp 0), none⟩,
  ⟨(some 31), .call (.func 100) [(.tmp 30)], none⟩,
  ⟨(some 32), .bin .mul (.tmp 29) (.tmp 31), none⟩,
  ⟨(some 7), .mv (.tmp 26), none⟩,
  ⟨(some 8), .mv (.tmp 32), none⟩])
 (.seq (.reg [⟨(some 33), .mv (.tmp 7), none⟩,
  ⟨(some 34), .mv (.tmp 8), none⟩,
  ⟨(some 35), .bin .lss (.tmp 33) (.tmp 34), none⟩,
  ⟨(some 36), .mv (.tmp 35), none⟩,
  ⟨(some 37), .mv (.tmp 6), (some (36, false))⟩,
  ⟨(some 38), .bin .eql (.tmp 37) (.const (.int .i64 0)), (some (36, false))⟩,
  ⟨(some 39), .mv (.tmp 38), (some (36, false))⟩,
  ⟨(some 40), .mv (.tmp 7), (some (39, true))⟩,
  ⟨(some 41), .mv (.tmp 8), (some (39, true))⟩,
  ⟨(some 42), .bin .neq (.tmp 40) (.tmp 41), (some (39, true))⟩,
  ⟨(some 43), .pick (.tmp 39) (.tmp 42) (.const (.bool false)), (some (36, false))⟩,
  ⟨(some 44), .pick (.tmp 36) (.const (.bool true)) (.tmp 43), none⟩])
 (.cond (.tmp 44) (.seq (.reg [⟨(some 4), .mv (.const (.bool false)), none⟩,
  ⟨(some 5), .mv (.const (.bool true)), none⟩])
 (.ret)) (.skip)))))
 (.reg [⟨(some 19), .mv (.tmp 6), none⟩,
  ⟨(some 20), .bin .add (.tmp 19) (.const (.int .i64 1)), none⟩,
  ⟨(some 6), .mv (.tmp 20), none⟩]))))))
 (.seq (.reg [⟨(some 4), .mv (.const (.bool true)), none⟩,
  ⟨(some 5), .mv (.const (.bool true)), none⟩])
 (.ret))))
def r_spec_IsWider : List ARes := [.tmp 4, .tmp 5]
theorem ok_spec_IsWider : FnOk Try.prog 51 45 c_spec_IsWider r_spec_IsWider := ⟨⟨Try.f51, _, Try.func51, by kernel_rfl, rfl, rfl, by kernel_rfl, by kernel_rfl⟩⟩
def c_impl_SumOf : ACode := .seq (.reg [⟨(some 4), .mv (.const (.slice none 0 0)), none⟩,
  ⟨(some 5), .mv (.const (.bool false)), none⟩])
 (.seq (.seq (.reg [⟨(some 11), .mv (.tmp 0), none⟩,
  ⟨(some 12), .call (.func 44) [(.tmp 11)], none⟩,
  ⟨(some 13), .un .not (.tmp 12), none⟩,
  ⟨(some 14), .mv (.tmp 13), none⟩,
  ⟨(some 15), .mv (.tmp 1), (some (14, false))⟩,
  ⟨(some 16), .call (.func 44) [(.tmp 15)], (some (14, false))⟩,
  ⟨(some 17), .un .not (.tmp 16), (some (14, false))⟩,
  ⟨(some 18), .pick (.tmp 14) (.const (.bool true)) (.tmp 17), none⟩])
 (.cond (.tmp 18) (.seq (.reg [⟨(some 19), .bsl 3 1 0 [] [], none⟩,
  ⟨(some 4), .mv (.tmp 19), none⟩,
  ⟨(some 5), .mv (.const (.bool false)), none⟩])
 (.ret)) (.skip)))
 (.seq (.reg [⟨(some 20), .mv (.tmp 0), none⟩,
  ⟨(some 21), .len (.tmp 20), none⟩,
  ⟨(some 22), .mv (.tmp 1), none⟩,
  ⟨(some 23), .len (.tmp 22), none⟩,
  ⟨(some 24), .bin .add (.tmp 21) (.tmp 23), none⟩,
  ⟨(some 25), .bin .sub (.tmp 24) (.const (.int .i64 1)), none⟩,
  ⟨(some 26), .mks 3 8 [(.int .i64 0)] (.tmp 25) (.tmp 25), none⟩,
  ⟨(some 6), .mv (.tmp 26), none⟩])
 (.seq (.seq (.reg [⟨(some 27), .mv (.tmp 0), none⟩,
  ⟨(some 28), .len (.tmp 27), none⟩,
  ⟨(some 29), .mv (.const (.int .i64 0)), none⟩])
 (.block 0 (.loop (.seq (.reg [⟨(some 30), .bin .lss (.tmp 29) (.tmp 28), none⟩])
 (.seq (.cond (.tmp 30) (.skip) (.exit 0))
 (.seq (.block 1 (.seq (.reg [⟨(some 31), .mv (.tmp 29), none⟩,
  ⟨(some 32), .iad 1 (.tmp 27) (.tmp 29), none⟩,
  ⟨(some 33), .ld none (.tmp 32), none⟩,
  ⟨(some 7), .mv (.tmp 31), none⟩,
  ⟨(some 8), .mv (.tmp 33), none⟩])
 (.seq (.reg [⟨(some 34), .mv (.tmp 1), none⟩,
  ⟨(some 35), .len (.tmp 34), none⟩,
  ⟨(some 36), .mv (.const (.int .i64 0)), none⟩])
 (.block 2 (.loop (.seq (.reg [⟨(some 37), .bin .lss (.tmp 36) (.tmp 35), none⟩])
 (.seq (.cond (.tmp 37) (.skip) (.exit 2))
 (.seq (.block 3 (.seq (.reg [⟨(some 38), .mv (.tmp 36), none⟩,
  ⟨(some 39), .iad 1 (.tmp 34) (.tmp 36), none⟩,
  ⟨(some 40), .ld none (.tmp 39), none⟩,
  ⟨(some 9), .mv (.tmp 38), none⟩,
  ⟨(some 10), .mv (.tmp 40), none⟩])
 (.reg [⟨(some 41), .mv (.tmp 6), none⟩,
  ⟨(some 42), .mv (.tmp 7), none⟩,
  ⟨(some 43), .mv (.tmp 9), none⟩,
  ⟨(some 44), .bin .add (.tmp 42) (.tmp 43), none⟩,
  ⟨(some 45), .iad 1 (.tmp 41) (.tmp 44), none⟩,
  ⟨(some 46), .ld none (.tmp 45), none⟩,
  ⟨(some 47), .mv (.tmp 8), none⟩,
  ⟨(some 48), .mv (.tmp 10), none⟩,
  ⟨(some 49), .bin .mul (.tmp 47) (.tmp 48), none⟩,
  ⟨(some 50), .bin .add (.tmp 46) (.tmp 49), none⟩,
  ⟨(some 51), .iad 1 (.tmp 41) (.tmp 44), none⟩,
  ⟨none, .st 1 (.tmp 51) (.tmp 50), none⟩])))
 (.reg [⟨(some 52), .bin .add (.tmp 36) (.const (.int .i64 1)), none⟩,
  ⟨(some 36), .mv (.tmp 52), none⟩])))))))))
 (.reg [⟨(some 53), .bin .add (.tmp 29) (.const (.int .i64 1)), none⟩,
  ⟨(some 29), .mv (.tmp 53), none⟩])))))))
 (.seq (.seq (.reg [⟨(some 54), .mv (.tmp 6), none⟩,
  ⟨(some 55), .call (.func 44) [(.tmp 54)], none⟩,
  ⟨(some 56), .un .not (.tmp 55), none⟩])
 (.cond (.tmp 56) (.seq (.reg [⟨(some 57), .bsl 3 1 0 [] [], none⟩,
  ⟨(some 4), .mv (.tmp 57), none⟩,
  ⟨(some 5), .mv (.const (.bool false)), none⟩])
 (.ret)) (.skip)))
 (.seq (.reg [⟨(some 58), .mv (.tmp 6), none⟩,
  ⟨(some 4), .mv (.tmp 58), none⟩,
  ⟨(some 5), .mv (.const (.bool true)), none⟩])
 (.ret))))))
def r_impl_SumOf : List ARes := [.tmp 4, .tmp 5]
theorem ok_impl_SumOf : FnOk Try.prog 53 59 c_impl_SumOf r_impl_SumOf := ⟨⟨Try.f53, _, Try.func53, by kernel_rfl, rfl, rfl, by kernel_rfl, by kernel_rfl⟩⟩
def c_spec_SumOf : ACode := .seq (.reg [⟨(some 4), .mv (.const (.slice none 0 0)), none⟩,
  ⟨(some 5), .mv (.const (.bool false)), none⟩])
 (.seq (.seq (.reg [⟨(some 9), .mv (.tmp 0), none⟩,
  ⟨(some 10), .call (.func 83) [(.tmp 9)], none⟩,
  ⟨(some 11), .un .not (.tmp 10), none⟩,
  ⟨(some 12), .mv (.tmp 11), none⟩,
  ⟨(some 13), .mv (.tmp 1), (some (12, false))⟩,
  ⟨(some 14), .call (.func 83) [(.tmp 13)], (some (12, false))⟩,
  ⟨(some 15), .un .not (.tmp 14), (some (12, false))⟩,
  ⟨(some 16), .pick (.tmp 12) (.const (.bool true)) (.tmp 15), none⟩])
 (.cond (.tmp 16) (.seq (.reg [⟨(some 17), .bsl 3 1 0 [] [], none⟩,
  ⟨(some 4), .mv (.tmp 17), none⟩,
  ⟨(some 5), .mv (.const (.bool false)), none⟩])
 (.ret)) (.skip)))
 (.seq (.reg [⟨(some 18), .mv (.tmp 0), none⟩,
  ⟨(some 19), .len (.tmp 18), none⟩,
  ⟨(some 20), .mv (.tmp 1), none⟩,
  ⟨(some 21), .len (.tmp 20), none⟩,
  ⟨(some 22), .bin .add (.tmp 19) (.tmp 21), none⟩,
  ⟨(some 23), .bin .sub (.tmp 22) (.const (.int .i64 1)), none⟩,
  ⟨(some 24), .mks 3 8 [(.int .i64 0)] (.tmp 23) (.tmp 23), none⟩,
  ⟨(some 6), .mv (.tmp 24), none⟩])
 (.seq (.seq (.reg [⟨(some 7), .mv (.const (.int .i64 0)), none⟩])
 (.block 0 (.loop (.seq (.seq (.reg [⟨(some 25), .mv (.tmp 7), none⟩,
  ⟨(some 26), .mv (.tmp 0), none⟩,
  ⟨(some 27), .len (.tmp 26), none⟩,
  ⟨(some 28), .bin .lss (.tmp 25) (.tmp 27), none⟩])
 (.cond (.tmp 28) (.skip) (.exit 0)))
 (.seq (.block 1 (.seq (.reg [⟨(some 8), .mv (.const (.int .i64 0)), none⟩])
 (.block 2 (.loop (.seq (.seq (.reg [⟨(some 31), .mv (.tmp 8), none⟩,
  ⟨(some 32), .mv (.tmp 1), none⟩,
  ⟨(some 33), .len (.tmp 32), none⟩,
  ⟨(some 34), .bin .lss (.tmp 31) (.tmp 33), none⟩])
 (.cond (.tmp 34) (.skip) (.exit 2)))
 (.seq (.block 3 (.reg [⟨(some 37), .mv (.tmp 6), none⟩,
  ⟨(some 38), .mv (.tmp 7), none⟩,
  ⟨(some 39), .mv (.tmp 8), none⟩,
  ⟨(some 40), .bin .add (.tmp 38) (.tmp 39), none⟩,
  ⟨(some 41), .mv (.tmp 6), none⟩,
  ⟨(some 42), .mv (.tmp 7), none⟩,
  ⟨(some 43), .mv (.tmp 8), none⟩,
  ⟨(some 44), .bin .add (.tmp 42) (.tmp 43), none⟩,
  ⟨(some 45), .iad 1 (.tmp 41) (.tmp 44), none⟩,
  ⟨(some 46), .ld none (.tmp 45), none⟩,
  ⟨(some 47), .mv (.tmp 0), none⟩,
  ⟨(some 48), .mv (.tmp 7), none⟩,
  ⟨(some 49), .iad 1 (.tmp 47) (.tmp 48), none⟩,
  ⟨(some 50), .ld none (.tmp 49), none⟩,
  ⟨(some 51), .mv (.tmp 1), none⟩,
  ⟨(some 52), .mv (.tmp 8), none⟩,
  ⟨(some 53), .iad 1 (.tmp 51) (.tmp 52), none⟩,
  ⟨(some 54), .ld none (.tmp 53), none⟩,
  ⟨(some 55), .bin .mul (.tmp 50) (.tmp 54), none⟩,
  ⟨(some 56), .bin .add (.tmp 46) (.tmp 55), none⟩,
  ⟨(some 57), .iad 1 (.tmp 37) (.tmp 40), none⟩,
  ⟨none, .st 1 (.tmp 57) (.tmp 56), none⟩]))
 (.reg [⟨(some 35), .mv (.tmp 8), none⟩,
  ⟨(some 36), .bin .add (.tmp 35) (.const (.int .i64 1)), none⟩,
  ⟨(some 8), .mv (.tmp 36), none⟩])))))))
 (.reg [⟨(some 29), .mv (.tmp 7), none⟩,
  ⟨(some 30), .bin .add (.tmp 29) (.const (.int .i64 1)), none⟩,
  ⟨(some 7), .mv (.tmp 30), none⟩]))))))
 (.seq (.seq (.reg [⟨(some 58), .mv (.tmp 6), none⟩,
  ⟨(some 59), .call (.func 83) [(.tmp 58)], none⟩,
  ⟨(some 60), .un .not (.tmp 59), none⟩])
 (.cond (.tmp 60) (.seq (.reg [⟨(some 61), .bsl 3 1 0 [] [], none⟩,
  ⟨(some 4), .mv (.tmp 61), none⟩,
  ⟨(some 5), .mv (.const (.bool false)), none⟩])
 (.ret)) (.skip)))
 (.seq (.reg [⟨(some 62), .mv (.tmp 6), none⟩,
  ⟨(some 4), .mv (.tmp 62), none⟩,
  ⟨(some 5), .mv (.const (.bool true)), none⟩])
 (.ret))))))
def r_spec_SumOf : List ARes := [.tmp 4, .tmp 5]
theorem ok_spec_SumOf : FnOk Try.prog 54 63 c_spec_SumOf r_spec_SumOf := ⟨⟨Try.f54, _, Try.func54, by kernel_rfl, rfl, rfl, by kernel_rfl, by kernel_rfl⟩⟩
def c_impl_BudgetOrders : ACode := .seq (.reg [⟨(some 8), .box 24 (.tmp 3), none⟩,
  ⟨(some 9), .box 3 (.tmp 4), none⟩,
  ⟨(some 10), .mv (.const (.slice none 0 0)), none⟩,
  ⟨(some 11), .mv (.const (.bool false)), none⟩])
 (.seq (.seq (.reg [⟨(some 19), .mv (.tmp 0), none⟩,
  ⟨(some 20), .mv (.tmp 1), none⟩,
  ⟨(some 21), .mv (.tmp 2), none⟩,
  ⟨(some 22), .call (.func 109) [(.tmp 19), (.tmp 20), (.tmp 21)], none⟩,
  ⟨(some 23), .un .not (.tmp 22), none⟩,
  ⟨(some 24), .mv (.tmp 23), none⟩,
  ⟨(some 25), .ld none (.tmp 8), (some (24, false))⟩,
  ⟨(some 26), .mv (.tmp 0), (some (24, false))⟩,
  ⟨(some 27), .len (.tmp 26), (some (24, false))⟩,
  ⟨(some 28), .call (.func 102) [(.tmp 25), (.tmp 27), (.const (.int .i64 20))], (some (24, false))⟩,
  ⟨(some 29), .un .not (.tmp 28), (some (24, false))⟩,
  ⟨(some 30), .pick (.tmp 24) (.const (.bool true)) (.tmp 29), none⟩,
  ⟨(some 31), .mv (.tmp 30), none⟩,
  ⟨(some 32), .ld none (.tmp 9), (some (31, false))⟩,
  ⟨(some 33), .call (.func 110) [(.tmp 32), (.const (.int .i64 60))], (some (31, false))⟩,
  ⟨(some 34), .un .not (.tmp 33), (some (31, false))⟩,
  ⟨(some 35), .pick (.tmp 31) (.const (.bool true)) (.tmp 34), none⟩])
 (.cond (.tmp 35) (.seq (.reg [⟨(some 36), .bsl 3 1 0 [] [], none⟩,
  ⟨(some 10), .mv (.tmp 36), none⟩,
  ⟨(some 11), .mv (.const (.bool false)), none⟩])
 (.ret)) (.skip)))
 (.seq (.reg [⟨(some 37), .bsl 24 1 0 [] [], none⟩,
  ⟨(some 12), .alc 47 [(.slice none 0 0)], none⟩,
  ⟨none, .st 1 (.tmp 12) (.tmp 37), none⟩])
 (.seq (.seq (.reg [⟨(some 38), .mv (.tmp 0), none⟩,
  ⟨(some 39), .len (.tmp 38), none⟩,
  ⟨(some 40), .mv (.const (.int .i64 0)), none⟩])
 (.block 0 (.loop (.seq (.reg [⟨(some 41), .bin .lss (.tmp 40) (.tmp 39), none⟩])
 (.seq (.cond (.tmp 41) (.skip) (.exit 0))
 (.seq (.block 1 (.seq (.reg [⟨(some 42), .iad 1 (.tmp 38) (.tmp 40), none⟩,
  ⟨(some 43), .ld none (.tmp 42), none⟩,
  ⟨(some 14), .mv (.tmp 43), none⟩])
 (.reg [⟨(some 44), .ld none (.tmp 12), none⟩,
  ⟨(some 45), .mv (.tmp 14), none⟩,
  ⟨(some 46), .mv (.tmp 1), none⟩,
  ⟨(some 47), .mv (.tmp 2), none⟩,
  ⟨(some 48), .rcall (.func 86) [(.tmp 45), (.tmp 46), (.tmp 47)], none⟩,
  ⟨(some 49), .bsl 24 1 1 [(.slice none 0 0)] [(0, 1, (.tmp 48))], none⟩,
  ⟨(some 50), .app 24 1 24 (.tmp 44) (.tmp 49), none⟩,
  ⟨none, .st 1 (.tmp 12) (.tmp 50), none⟩])))
 (.reg [⟨(some 51), .bin .add (.tmp 40) (.const (.int .i64 1)), none⟩,
  ⟨(some 40), .mv (.tmp 51), none⟩])))))))
 (.seq (.reg [⟨(some 52), .bld [(.int .i64 0), (.int .i64 0), (.int .i64 0)] [], none⟩,
  ⟨(some 15), .alc 88 [(.int .i64 0), (.int .i64 0), (.int .i64 0)], none⟩,
  ⟨none, .st 3 (.tmp 15) (.tmp 52), none⟩])
 (.seq (.reg [⟨(some 53), .ld none (.tmp 12), none⟩,
  ⟨(some 54), .ld (some 3) (.tmp 15), none⟩,
  ⟨(some 55), .call (.func 111) [(.tmp 53), (.tmp 54)], none⟩,
  ⟨(some 16), .alc 3 [(.int .i64 0)], none⟩,
  ⟨none, .st 1 (.tmp 16) (.tmp 55), none⟩])
 (.seq (.seq (.reg [⟨(some 56), .mv (.tmp 0), none⟩,
  ⟨(some 57), .len (.tmp 56), none⟩,
  ⟨(some 58), .call (.func 112) [(.tmp 57)], none⟩])
 (.block 2 (.range (.tmp 58) [59] (.reg [⟨(some 17), .alc 88 [(.int .i64 0), (.int .i64 0), (.int .i64 0)], none⟩,
  ⟨none, .st 3 (.tmp 17) (.tmp 59), none⟩]) (.block 3 (.seq (.reg [⟨(some 60), .ld none (.tmp 12), none⟩,
  ⟨(some 61), .ld (some 3) (.tmp 17), none⟩,
  ⟨(some 62), .call (.func 111) [(.tmp 60), (.tmp 61)], none⟩,
  ⟨(some 18), .mv (.tmp 62), none⟩])
 (.seq (.reg [⟨(some 63), .mv (.tmp 18), none⟩,
  ⟨(some 64), .ld none (.tmp 16), none⟩,
  ⟨(some 65), .bin .lss (.tmp 63) (.tmp 64), none⟩,
  ⟨(some 66), .mv (.tmp 65), none⟩,
  ⟨(some 67), .ld none (.tmp 8), (some (66, true))⟩,
  ⟨(some 68), .ld (some 3) (.tmp 17), (some (66, true))⟩,
  ⟨(some 70), .ld none (.tmp 9), (some (66, true))⟩,
  ⟨(some 69), .rcall (.func 113) [(.tmp 67), (.tmp 68)], (some (66, true))⟩,
  ⟨(some 71), .bin .leq (.tmp 69) (.tmp 70), (some (66, true))⟩,
  ⟨(some 72), .pick (.tmp 66) (.tmp 71) (.const (.bool false)), none⟩])
 (.cond (.tmp 72) (.reg [⟨(some 73), .ld (some 3) (.tmp 17), none⟩,
  ⟨(some 74), .mv (.tmp 18), none⟩,
  ⟨none, .st 3 (.tmp 15) (.tmp 73), none⟩,
  ⟨none, .st 1 (.tmp 16) (.tmp 74), none⟩]) (.skip))))))))
 (.seq (.reg [⟨(some 75), .ld (some 3) (.tmp 15), none⟩,
  ⟨(some 76), .mv (.tmp 0), none⟩,
  ⟨(some 77), .call (.func 114) [(.tmp 75), (.tmp 76)], none⟩,
  ⟨(some 10), .mv (.tmp 77), none⟩,
  ⟨(some 11), .mv (.const (.bool true)), none⟩])
 (.ret))))))))
def r_impl_BudgetOrders : List ARes := [.tmp 10, .tmp 11]
theorem ok_impl_BudgetOrders : FnOk Try.prog 59 78 c_impl_BudgetOrders r_impl_BudgetOrders := ⟨⟨Try.f59, _, Try.func59, by kernel_rfl, rfl, rfl, by kernel_rfl, by kernel_rfl⟩⟩
def c_spec_BudgetOrders : ACode := .seq (.reg [⟨(some 10), .mv (.const (.slice none 0 0)), none⟩,
  ⟨(some 11), .mv (.const (.bool false)), none⟩])
 (.seq (.seq (.reg [⟨(some 12), .mv (.tmp 0), none⟩,
  ⟨(some 13), .call (.func 115) [(.tmp 12)], none⟩,
  ⟨(some 14), .un .not (.tmp 13), none⟩,
  ⟨(some 15), .mv (.tmp 14), none⟩,
  ⟨(some 16), .mv (.tmp 1), (some (15, false))⟩,
  ⟨(some 17), .mv (.tmp 2), (some (15, false))⟩,
  ⟨(some 18), .call (.func 84) [(.tmp 16), (.tmp 17)], (some (15, false))⟩,
  ⟨(some 19), .un .not (.tmp 18), (some (15, false))⟩,
  ⟨(some 20), .pick (.tmp 15) (.const (.bool true)) (.tmp 19), none⟩,
  ⟨(some 21), .mv (.tmp 20), none⟩,
  ⟨(some 22), .mv (.tmp 3), (some (21, false))⟩,
  ⟨(some 23), .mv (.tmp 0), (some (21, false))⟩,
  ⟨(some 24), .len (.tmp 23), (some (21, false))⟩,
  ⟨(some 25), .call (.func 116) [(.tmp 22), (.tmp 24), (.const (.int .i64 20))], (some (21, false))⟩,
  ⟨(some 26), .un .not (.tmp 25), (some (21, false))⟩,
  ⟨(some 27), .pick (.tmp 21) (.const (.bool true)) (.tmp 26), none⟩,
  ⟨(some 28), .mv (.tmp 27), none⟩,
  ⟨(some 29), .mv (.tmp 4), (some (28, false))⟩,
  ⟨(some 30), .call (.func 117) [(.tmp 29), (.const (.int .i64 0)), (.const (.int .i64 60))], (some (28, false))⟩,
  ⟨(some 31), .un .not (.tmp 30), (some (28, false))⟩,
  ⟨(some 32), .pick (.tmp 28) (.const (.bool true)) (.tmp 31), none⟩])
 (.cond (.tmp 32) (.seq (.reg [⟨(some 33), .bsl 3 1 0 [] [], none⟩,
  ⟨(some 10), .mv (.tmp 33), none⟩,
  ⟨(some 11), .mv (.const (.bool false)), none⟩])
 (.ret)) (.skip)))
 (.seq (.reg [⟨(some 34), .mv (.tmp 0), none⟩,
  ⟨(some 35), .mv (.tmp 1), none⟩,
  ⟨(some 36), .mv (.tmp 2), none⟩,
  ⟨(some 37), .mv (.tmp 3), none⟩,
  ⟨(some 38), .mv (.tmp 4), none⟩,
  ⟨(some 39), .bsl 3 1 0 [] [], none⟩,
  ⟨(some 40), .bld [(.slice none 0 0), (.int .i64 0), (.bool false)] [], none⟩,
  ⟨(some 41), .call (.func 118) [(.tmp 34), (.tmp 35), (.tmp 36), (.tmp 37), (.tmp 38), (.tmp 39), (.const (.int .i64 0)), (.tmp 40)], none⟩,
  ⟨(some 42), .fld 0 none (.tmp 41), none⟩,
  ⟨(some 10), .mv (.tmp 42), none⟩,
  ⟨(some 11), .mv (.const (.bool true)), none⟩])
 (.ret)))
def r_spec_BudgetOrders : List ARes := [.tmp 10, .tmp 11]
theorem ok_spec_BudgetOrders : FnOk Try.prog 60 43 c_spec_BudgetOrders r_spec_BudgetOrders := ⟨⟨Try.f60, _, Try.func60, by kernel_rfl, rfl, rfl, by kernel_rfl, by kernel_rfl⟩⟩
def c_impl_StepOrders : ACode := .seq (.reg [⟨(some 8), .mv (.const (.slice none 0 0)), none⟩,
  ⟨(some 9), .mv (.const (.bool false)), none⟩])
 (.seq (.seq (.reg [⟨(some 12), .mv (.tmp 0), none⟩,
  ⟨(some 13), .mv (.tmp 1), none⟩,
  ⟨(some 14), .mv (.tmp 2), none⟩,
  ⟨(some 15), .call (.func 109) [(.tmp 12), (.tmp 13), (.tmp 14)], none⟩,
  ⟨(some 16), .un .not (.tmp 15), none⟩,
  ⟨(some 17), .mv (.tmp 16), none⟩,
  ⟨(some 18), .mv (.tmp 3), (some (17, false))⟩,
  ⟨(some 19), .call (.func 110) [(.tmp 18), (.const (.int .i64 60))], (some (17, false))⟩,
  ⟨(some 20), .un .not (.tmp 19), (some (17, false))⟩,
  ⟨(some 21), .pick (.tmp 17) (.const (.bool true)) (.tmp 20), none⟩])
 (.cond (.tmp 21) (.seq (.reg [⟨(some 22), .bsl 3 1 0 [] [], none⟩,
  ⟨(some 8), .mv (.tmp 22), none⟩,
  ⟨(some 9), .mv (.const (.bool false)), none⟩])
 (.ret)) (.skip)))
 (.seq (.reg [⟨(some 23), .bld [(.int .i64 0), (.int .i64 0), (.int .i64 0)] [], none⟩,
  ⟨(some 10), .alc 88 [(.int .i64 0), (.int .i64 0), (.int .i64 0)], none⟩,
  ⟨none, .st 3 (.tmp 10) (.tmp 23), none⟩])
 (.seq (.seq (.reg [⟨(some 24), .mv (.tmp 3), none⟩,
  ⟨(some 25), .mv (.const (.int .i64 0)), none⟩])
 (.block 0 (.loop (.seq (.reg [⟨(some 26), .bin .lss (.tmp 25) (.tmp 24), none⟩])
 (.seq (.cond (.tmp 26) (.skip) (.exit 0))
 (.seq (.block 1 (.seq (.reg [⟨(some 27), .mv (.tmp 0), none⟩,
  ⟨(some 28), .mv (.tmp 1), none⟩,
  ⟨(some 29), .mv (.tmp 2), none⟩,
  ⟨(some 30), .ld (some 3) (.tmp 10), none⟩,
  ⟨(some 31), .call (.func 119) [(.tmp 27), (.tmp 28), (.tmp 29), (.tmp 30)], none⟩,
  ⟨(some 11), .alc 88 [(.int .i64 0), (.int .i64 0), (.int .i64 0)], none⟩,
  ⟨none, .st 3 (.tmp 11) (.tmp 31), none⟩])
 (.seq (.seq (.reg [⟨(some 32), .ld (some 3) (.tmp 11), none⟩,
  ⟨(some 33), .ld (some 3) (.tmp 10), none⟩,
  ⟨(some 34), .never, none⟩])
 (.cond (.tmp 34) (.exit 0) (.skip)))
 (.reg [⟨(some 35), .ld (some 3) (.tmp 11), none⟩,
  ⟨none, .st 3 (.tmp 10) (.tmp 35), none⟩]))))
 (.reg [⟨(some 36), .bin .add (.tmp 25) (.const (.int .i64 1)), none⟩,
  ⟨(some 25), .mv (.tmp 36), none⟩])))))))
 (.seq (.reg [⟨(some 37), .ld (some 3) (.tmp 10), none⟩,
  ⟨(some 38), .mv (.tmp 0), none⟩,
  ⟨(some 39), .call (.func 114) [(.tmp 37), (.tmp 38)], none⟩,
  ⟨(some 8), .mv (.tmp 39), none⟩,
  ⟨(some 9), .mv (.const (.bool true)), none⟩])
 (.ret)))))
def r_impl_StepOrders : List ARes := [.tmp 8, .tmp 9]
theorem ok_impl_StepOrders : FnOk Try.prog 62 40 c_impl_StepOrders r_impl_StepOrders := ⟨⟨Try.f62, _, Try.func62, by kernel_rfl, rfl, rfl, by kernel_rfl, by kernel_rfl⟩⟩
def c_spec_StepOrders : ACode := .seq (.reg [⟨(some 8), .mv (.const (.slice none 0 0)), none⟩,
  ⟨(some 9), .mv (.const (.bool false)), none⟩])
 (.seq (.seq (.reg [⟨(some 15), .mv (.tmp 0), none⟩,
  ⟨(some 16), .call (.func 115) [(.tmp 15)], none⟩,
  ⟨(some 17), .un .not (.tmp 16), none⟩,
  ⟨(some 18), .mv (.tmp 17), none⟩,
  ⟨(some 19), .mv (.tmp 1), (some (18, false))⟩,
  ⟨(some 20), .mv (.tmp 2), (some (18, false))⟩,
  ⟨(some 21), .call (.func 84) [(.tmp 19), (.tmp 20)], (some (18, false))⟩,
  ⟨(some 22), .un .not (.tmp 21), (some (18, false))⟩,
  ⟨(some 23), .pick (.tmp 18) (.const (.bool true)) (.tmp 22), none⟩,
  ⟨(some 24), .mv (.tmp 23), none⟩,
  ⟨(some 25), .mv (.tmp 3), (some (24, false))⟩,
  ⟨(some 26), .call (.func 117) [(.tmp 25), (.const (.int .i64 0)), (.const (.int .i64 60))], (some (24, false))⟩,
  ⟨(some 27), .un .not (.tmp 26), (some (24, false))⟩,
  ⟨(some 28), .pick (.tmp 24) (.const (.bool true)) (.tmp 27), none⟩])
 (.cond (.tmp 28) (.seq (.reg [⟨(some 29), .bsl 3 1 0 [] [], none⟩,
  ⟨(some 8), .mv (.tmp 29), none⟩,
  ⟨(some 9), .mv (.const (.bool false)), none⟩])
 (.ret)) (.skip)))
 (.seq (.reg [⟨(some 30), .mv (.tmp 0), none⟩,
  ⟨(some 31), .len (.tmp 30), none⟩,
  ⟨(some 32), .mks 3 8 [(.int .i64 0)] (.tmp 31) (.tmp 31), none⟩,
  ⟨(some 10), .mv (.tmp 32), none⟩])
 (.seq (.block 0 (.loop (.seq (.seq (.reg [⟨(some 33), .mv (.tmp 10), none⟩,
  ⟨(some 34), .call (.func 120) [(.tmp 33)], none⟩,
  ⟨(some 35), .mv (.tmp 3), none⟩,
  ⟨(some 36), .bin .lss (.tmp 34) (.tmp 35), none⟩])
 (.cond (.tmp 36) (.skip) (.exit 0)))
 (.block 1 (.seq (.reg [⟨(some 11), .mv (.const (.int .i64 (-1))), none⟩,
  ⟨(some 12), .mv (.const (.int .i64 0)), none⟩])
 (.seq (.seq (.reg [⟨(some 13), .mv (.const (.int .i64 0)), none⟩])
 (.block 2 (.loop (.seq (.seq (.reg [⟨(some 37), .mv (.tmp 13), none⟩,
  ⟨(some 38), .mv (.tmp 0), none⟩,
  ⟨(some 39), .len (.tmp 38), none⟩,
  ⟨(some 40), .bin .lss (.tmp 37) (.tmp 39), none⟩])
 (.cond (.tmp 40) (.skip) (.exit 2)))
 (.seq (.block 3 (.seq (.seq (.reg [⟨(some 43), .mv (.tmp 10), none⟩,
  ⟨(some 44), .mv (.tmp 13), none⟩,
  ⟨(some 45), .iad 1 (.tmp 43) (.tmp 44), none⟩,
  ⟨(some 46), .ld none (.tmp 45), none⟩,
  ⟨(some 47), .bin .eql (.tmp 46) (.const (.int .i64 15)), none⟩])
 (.cond (.tmp 47) (.exit 3) (.skip)))
 (.seq (.reg [⟨(some 48), .mv (.tmp 0), none⟩,
  ⟨(some 49), .mv (.tmp 13), none⟩,
  ⟨(some 50), .iad 1 (.tmp 48) (.tmp 49), none⟩,
  ⟨(some 51), .ld none (.tmp 50), none⟩,
  ⟨(some 52), .mv (.tmp 1), none⟩,
  ⟨(some 53), .mv (.tmp 2), none⟩,
  ⟨(some 54), .mv (.tmp 10), none⟩,
  ⟨(some 55), .mv (.tmp 13), none⟩,
  ⟨(some 56), .iad 1 (.tmp 54) (.tmp 55), none⟩,
  ⟨(some 57), .ld none (.tmp 56), none⟩,
  ⟨(some 59), .mv (.tmp 0), none⟩,
  ⟨(some 60), .mv (.tmp 13), none⟩,
  ⟨(some 61), .iad 1 (.tmp 59) (.tmp 60), none⟩,
  ⟨(some 62), .ld none (.tmp 61), none⟩,
  ⟨(some 63), .mv (.tmp 1), none⟩,
  ⟨(some 64), .mv (.tmp 2), none⟩,
  ⟨(some 65), .mv (.tmp 10), none⟩,
  ⟨(some 66), .mv (.tmp 13), none⟩,
  ⟨(some 67), .iad 1 (.tmp 65) (.tmp 66), none⟩,
  ⟨(some 68), .ld none (.tmp 67), none⟩,
  ⟨(some 69), .bin .add (.tmp 68) (.const (.int .i64 1)), none⟩,
  ⟨(some 58), .rcall (.func 90) [(.tmp 51), (.tmp 52), (.tmp 53), (.tmp 57)], none⟩,
  ⟨(some 70), .rcall (.func 90) [(.tmp 62), (.tmp 63), (.tmp 64), (.tmp 69)], none⟩,
  ⟨(some 71), .bin .sub (.tmp 58) (.tmp 70), none⟩,
  ⟨(some 14), .mv (.tmp 71), none⟩])
 (.seq (.reg [⟨(some 72), .mv (.tmp 14), none⟩,
  ⟨(some 73), .mv (.tmp 12), none⟩,
  ⟨(some 74), .bin .gtr (.tmp 72) (.tmp 73), none⟩])
 (.cond (.tmp 74) (.seq (.reg [⟨(some 75), .mv (.tmp 13), none⟩,
  ⟨(some 11), .mv (.tmp 75), none⟩])
 (.reg [⟨(some 76), .mv (.tmp 14), none⟩,
  ⟨(some 12), .mv (.tmp 76), none⟩])) (.skip))))))
 (.reg [⟨(some 41), .mv (.tmp 13), none⟩,
  ⟨(some 42), .bin .add (.tmp 41) (.const (.int .i64 1)), none⟩,
  ⟨(some 13), .mv (.tmp 42), none⟩]))))))
 (.seq (.seq (.reg [⟨(some 77), .mv (.tmp 11), none⟩,
  ⟨(some 78), .bin .lss (.tmp 77) (.const (.int .i64 0)), none⟩])
 (.cond (.tmp 78) (.seq (.reg [⟨(some 79), .mv (.tmp 10), none⟩,
  ⟨(some 8), .mv (.tmp 79), none⟩,
  ⟨(some 9), .mv (.const (.bool true)), none⟩])
 (.ret)) (.skip)))
 (.reg [⟨(some 80), .mv (.tmp 10), none⟩,
  ⟨(some 81), .mv (.tmp 11), none⟩,
  ⟨(some 82), .mv (.tmp 10), none⟩,
  ⟨(some 83), .mv (.tmp 11), none⟩,
  ⟨(some 84), .iad 1 (.tmp 82) (.tmp 83), none⟩,
  ⟨(some 85), .ld none (.tmp 84), none⟩,
  ⟨(some 86), .bin .add (.tmp 85) (.const (.int .i64 1)), none⟩,
  ⟨(some 87), .iad 1 (.tmp 80) (.tmp 81), none⟩,
  ⟨none, .st 1 (.tmp 87) (.tmp 86), none⟩]))))))))
 (.seq (.reg [⟨(some 88), .mv (.tmp 10), none⟩,
  ⟨(some 8), .mv (.tmp 88), none⟩,
  ⟨(some 9), .mv (.const (.bool true)), none⟩])
 (.ret)))))
def r_spec_StepOrders : List ARes := [.tmp 8, .tmp 9]
theorem ok_spec_StepOrders : FnOk Try.prog 63 89 c_spec_StepOrders r_spec_StepOrders := ⟨⟨Try.f63, _, Try.func63, by kernel_rfl, rfl, rfl, by kernel_rfl, by kernel_rfl⟩⟩
def c_impl_OrderUpTo : ACode := .seq (.reg [⟨(some 12), .mv (.const (.int .i64 0)), none⟩,
  ⟨(some 13), .mv (.const (.bool false)), none⟩])
 (.seq (.seq (.reg [⟨(some 14), .mv (.tmp 0), none⟩,
  ⟨(some 15), .mv (.tmp 1), none⟩,
  ⟨(some 16), .mv (.tmp 2), none⟩,
  ⟨(some 17), .mv (.tmp 3), none⟩,
  ⟨(some 18), .mv (.tmp 4), none⟩,
  ⟨(some 19), .call (.func 121) [(.tmp 14), (.tmp 15), (.tmp 16), (.tmp 17), (.tmp 18)], none⟩,
  ⟨(some 20), .un .not (.tmp 19), none⟩,
  ⟨(some 21), .mv (.tmp 20), none⟩,
  ⟨(some 22), .mv (.tmp 5), (some (21, false))⟩,
  ⟨(some 23), .call (.func 110) [(.tmp 22), (.const (.int .i64 15))], (some (21, false))⟩,
  ⟨(some 24), .un .not (.tmp 23), (some (21, false))⟩,
  ⟨(some 25), .pick (.tmp 21) (.const (.bool true)) (.tmp 24), none⟩])
 (.cond (.tmp 25) (.seq (.reg [⟨(some 12), .mv (.const (.int .i64 0)), none⟩,
  ⟨(some 13), .mv (.const (.bool false)), none⟩])
 (.ret)) (.skip)))
 (.seq (.reg [⟨(some 26), .mv (.tmp 0), none⟩,
  ⟨(some 27), .mv (.tmp 1), none⟩,
  ⟨(some 28), .mv (.tmp 2), none⟩,
  ⟨(some 29), .mv (.tmp 3), none⟩,
  ⟨(some 30), .mv (.tmp 4), none⟩,
  ⟨(some 31), .mv (.tmp 5), none⟩,
  ⟨(some 32), .call (.func 122) [(.tmp 26), (.tmp 27), (.tmp 28), (.tmp 29), (.tmp 30), (.tmp 31)], none⟩,
  ⟨(some 12), .mv (.tmp 32), none⟩,
  ⟨(some 13), .mv (.const (.bool true)), none⟩])
 (.ret)))
def r_impl_OrderUpTo : List ARes := [.tmp 12, .tmp 13]
theorem ok_impl_OrderUpTo : FnOk Try.prog 65 33 c_impl_OrderUpTo r_impl_OrderUpTo := ⟨⟨Try.f65, _, Try.func65, by kernel_rfl, rfl, rfl, by kernel_rfl, by kernel_rfl⟩⟩
def c_spec_OrderUpTo : ACode := .seq (.reg [⟨(some 12), .mv (.const (.int .i64 0)), none⟩,
  ⟨(some 13), .mv (.const (.bool false)), none⟩])
 (.seq (.seq (.reg [⟨(some 14), .mv (.tmp 0), none⟩,
  ⟨(some 15), .mv (.tmp 1), none⟩,
  ⟨(some 16), .mv (.tmp 2), none⟩,
  ⟨(some 17), .mv (.tmp 3), none⟩,
  ⟨(some 18), .mv (.tmp 4), none⟩,
  ⟨(some 19), .call (.func 123) [(.tmp 14), (.tmp 15), (.tmp 16), (.tmp 17), (.tmp 18)], none⟩,
  ⟨(some 20), .un .not (.tmp 19), none⟩,
  ⟨(some 21), .mv (.tmp 20), none⟩,
  ⟨(some 22), .mv (.tmp 5), (some (21, false))⟩,
  ⟨(some 23), .call (.func 117) [(.tmp 22), (.const (.int .i64 0)), (.const (.int .i64 15))], (some (21, false))⟩,
  ⟨(some 24), .un .not (.tmp 23), (some (21, false))⟩,
  ⟨(some 25), .pick (.tmp 21) (.const (.bool true)) (.tmp 24), none⟩])
 (.cond (.tmp 25) (.seq (.reg [⟨(some 12), .mv (.const (.int .i64 0)), none⟩,
  ⟨(some 13), .mv (.const (.bool false)), none⟩])
 (.ret)) (.skip)))
 (.seq (.reg [⟨(some 26), .mv (.tmp 0), none⟩,
  ⟨(some 27), .mv (.tmp 1), none⟩,
  ⟨(some 28), .mv (.tmp 2), none⟩,
  ⟨(some 29), .mv (.tmp 3), none⟩,
  ⟨(some 30), .mv (.tmp 4), none⟩,
  ⟨(some 31), .mv (.tmp 5), none⟩,
  ⟨(some 32), .call (.func 124) [(.tmp 26), (.tmp 27), (.tmp 28), (.tmp 29), (.tmp 30), (.tmp 31)], none⟩,
  ⟨(some 12), .mv (.tmp 32), none⟩,
  ⟨(some 13), .mv (.const (.bool true)), none⟩])
 (.ret)))
def r_spec_OrderUpTo : List ARes := [.tmp 12, .tmp 13]
theorem ok_spec_OrderUpTo : FnOk Try.prog 66 33 c_spec_OrderUpTo r_spec_OrderUpTo := ⟨⟨Try.f66, _, Try.func66, by kernel_rfl, rfl, rfl, by kernel_rfl, by kernel_rfl⟩⟩
def c_impl_TriggerLevel : ACode := .seq (.reg [⟨(some 10), .mv (.const (.int .i64 0)), none⟩,
  ⟨(some 11), .mv (.const (.bool false)), none⟩])
 (.seq (.seq (.reg [⟨(some 13), .mv (.tmp 0), none⟩,
  ⟨(some 14), .mv (.tmp 1), none⟩,
  ⟨(some 15), .mv (.tmp 2), none⟩,
  ⟨(some 16), .mv (.tmp 3), none⟩,
  ⟨(some 17), .mv (.tmp 4), none⟩,
  ⟨(some 18), .call (.func 121) [(.tmp 13), (.tmp 14), (.tmp 15), (.tmp 16), (.tmp 17)], none⟩,
  ⟨(some 19), .un .not (.tmp 18), none⟩])
 (.cond (.tmp 19) (.seq (.reg [⟨(some 10), .mv (.const (.int .i64 0)), none⟩,
  ⟨(some 11), .mv (.const (.bool false)), none⟩])
 (.ret)) (.skip)))
 (.seq (.reg [⟨(some 12), .mv (.const (.int .i64 15)), none⟩])
 (.seq (.block 0 (.loop (.seq (.seq (.reg [⟨(some 20), .mv (.tmp 12), none⟩,
  ⟨(some 21), .bin .geq (.tmp 20) (.const (.int .i64 0)), none⟩,
  ⟨(some 22), .mv (.tmp 21), none⟩,
  ⟨(some 23), .mv (.tmp 0), (some (22, true))⟩,
  ⟨(some 24), .mv (.tmp 1), (some (22, true))⟩,
  ⟨(some 25), .mv (.tmp 2), (some (22, true))⟩,
  ⟨(some 26), .mv (.tmp 3), (some (22, true))⟩,
  ⟨(some 27), .mv (.tmp 4), (some (22, true))⟩,
  ⟨(some 28), .mv (.tmp 12), (some (22, true))⟩,
  ⟨(some 29), .call (.func 122) [(.tmp 23), (.tmp 24), (.tmp 25), (.tmp 26), (.tmp 27), (.tmp 28)], (some (22, true))⟩,
  ⟨(some 30), .mv (.tmp 12), (some (22, true))⟩,
  ⟨(some 31), .bin .eql (.tmp 29) (.tmp 30), (some (22, true))⟩,
  ⟨(some 32), .pick (.tmp 22) (.tmp 31) (.const (.bool false)), none⟩])
 (.cond (.tmp 32) (.skip) (.exit 0)))
 (.block 1 (.reg [⟨(some 33), .mv (.tmp 12), none⟩,
  ⟨(some 34), .bin .sub (.tmp 33) (.const (.int .i64 1)), none⟩,
  ⟨(some 12), .mv (.tmp 34), none⟩])))))
 (.seq (.reg [⟨(some 35), .mv (.tmp 12), none⟩,
  ⟨(some 10), .mv (.tmp 35), none⟩,
  ⟨(some 11), .mv (.const (.bool true)), none⟩])
 (.ret)))))
def r_impl_TriggerLevel : List ARes := [.tmp 10, .tmp 11]
theorem ok_impl_TriggerLevel : FnOk Try.prog 68 36 c_impl_TriggerLevel r_impl_TriggerLevel := ⟨⟨Try.f68, _, Try.func68, by kernel_rfl, rfl, rfl, by kernel_rfl, by kernel_rfl⟩⟩
def c_spec_TriggerLevel : ACode := .seq (.reg [⟨(some 10), .mv (.const (.int .i64 0)), none⟩,
  ⟨(some 11), .mv (.const (.bool false)), none⟩])
 (.seq (.seq (.reg [⟨(some 14), .mv (.tmp 0), none⟩,
  ⟨(some 15), .mv (.tmp 1), none⟩,
  ⟨(some 16), .mv (.tmp 2), none⟩,
  ⟨(some 17), .mv (.tmp 3), none⟩,
  ⟨(some 18), .mv (.tmp 4), none⟩,
  ⟨(some 19), .call (.func 123) [(.tmp 14), (.tmp 15), (.tmp 16), (.tmp 17), (.tmp 18)], none⟩,
  ⟨(some 20), .un .not (.tmp 19), none⟩])
 (.cond (.tmp 20) (.seq (.reg [⟨(some 10), .mv (.const (.int .i64 0)), none⟩,
  ⟨(some 11), .mv (.const (.bool false)), none⟩])
 (.ret)) (.skip)))
 (.seq (.reg [⟨(some 12), .mv (.const (.int .i64 (-1))), none⟩])
 (.seq (.seq (.reg [⟨(some 13), .mv (.const (.int .i64 0)), none⟩])
 (.block 0 (.loop (.seq (.seq (.reg [⟨(some 21), .mv (.tmp 13), none⟩,
  ⟨(some 22), .bin .leq (.tmp 21) (.const (.int .i64 15)), none⟩])
 (.cond (.tmp 22) (.skip) (.exit 0)))
 (.seq (.block 1 (.seq (.reg [⟨(some 25), .mv (.tmp 0), none⟩,
  ⟨(some 26), .mv (.tmp 1), none⟩,
  ⟨(some 27), .mv (.tmp 2), none⟩,
  ⟨(some 28), .mv (.tmp 3), none⟩,
  ⟨(some 29), .mv (.tmp 4), none⟩,
  ⟨(some 30), .mv (.tmp 13), none⟩,
  ⟨(some 31), .call (.func 124) [(.tmp 25), (.tmp 26), (.tmp 27), (.tmp 28), (.tmp 29), (.tmp 30)], none⟩,
  ⟨(some 32), .mv (.tmp 13), none⟩,
  ⟨(some 33), .bin .gtr (.tmp 31) (.tmp 32), none⟩])
 (.cond (.tmp 33) (.reg [⟨(some 34), .mv (.tmp 13), none⟩,
  ⟨(some 12), .mv (.tmp 34), none⟩]) (.skip))))
 (.reg [⟨(some 23), .mv (.tmp 13), none⟩,
  ⟨(some 24), .bin .add (.tmp 23) (.const (.int .i64 1)), none⟩,
  ⟨(some 13), .mv (.tmp 24), none⟩]))))))
 (.seq (.reg [⟨(some 35), .mv (.tmp 12), none⟩,
  ⟨(some 10), .mv (.tmp 35), none⟩,
  ⟨(some 11), .mv (.const (.bool true)), none⟩])
 (.ret)))))
def r_spec_TriggerLevel : List ARes := [.tmp 10, .tmp 11]
theorem ok_spec_TriggerLevel : FnOk Try.prog 69 36 c_spec_TriggerLevel r_spec_TriggerLevel := ⟨⟨Try.f69, _, Try.func69, by kernel_rfl, rfl, rfl, by kernel_rfl, by kernel_rfl⟩⟩
def c_impl_isCharged : ACode := .seq (.reg [⟨(some 6), .mv (.const (.bool false)), none⟩])
 (.seq (.reg [⟨(some 7), .mv (.tmp 0), none⟩,
  ⟨(some 8), .call (.func 44) [(.tmp 7)], none⟩,
  ⟨(some 9), .mv (.tmp 8), none⟩,
  ⟨(some 10), .mv (.tmp 1), (some (9, true))⟩,
  ⟨(some 11), .call (.func 110) [(.tmp 10), (.const (.int .i64 20))], (some (9, true))⟩,
  ⟨(some 12), .pick (.tmp 9) (.tmp 11) (.const (.bool false)), none⟩,
  ⟨(some 13), .mv (.tmp 12), none⟩,
  ⟨(some 14), .mv (.tmp 2), (some (13, true))⟩,
  ⟨(some 15), .call (.func 110) [(.tmp 14), (.const (.int .i64 20))], (some (13, true))⟩,
  ⟨(some 16), .pick (.tmp 13) (.tmp 15) (.const (.bool false)), none⟩,
  ⟨(some 6), .mv (.tmp 16), none⟩])
 (.ret))
def r_impl_isCharged : List ARes := [.tmp 6]
theorem ok_impl_isCharged : FnOk Try.prog 80 17 c_impl_isCharged r_impl_isCharged := ⟨⟨Try.f80, _, Try.func80, by kernel_rfl, rfl, rfl, by kernel_rfl, by kernel_rfl⟩⟩
def c_impl_sumOf : ACode := .seq (.reg [⟨(some 2), .mv (.const (.int .i64 0)), none⟩])
 (.seq (.reg [⟨(some 3), .mv (.const (.int .i64 0)), none⟩])
 (.seq (.seq (.reg [⟨(some 6), .mv (.tmp 0), none⟩,
  ⟨(some 7), .len (.tmp 6), none⟩,
  ⟨(some 8), .mv (.const (.int .i64 0)), none⟩])
 (.block 0 (.loop (.seq (.reg [⟨(some 9), .bin .lss (.tmp 8) (.tmp 7), none⟩])
 (.seq (.cond (.tmp 9) (.skip) (.exit 0))
 (.seq (.block 1 (.seq (.reg [⟨(some 10), .iad 1 (.tmp 6) (.tmp 8), none⟩,
  ⟨(some 11), .ld none (.tmp 10), none⟩,
  ⟨(some 5), .mv (.tmp 11), none⟩])
 (.reg [⟨(some 12), .mv (.tmp 3), none⟩,
  ⟨(some 13), .mv (.tmp 5), none⟩,
  ⟨(some 14), .bin .add (.tmp 12) (.tmp 13), none⟩,
  ⟨(some 3), .mv (.tmp 14), none⟩])))
 (.reg [⟨(some 15), .bin .add (.tmp 8) (.const (.int .i64 1)), none⟩,
  ⟨(some 8), .mv (.tmp 15), none⟩])))))))
 (.seq (.reg [⟨(some 16), .mv (.tmp 3), none⟩,
  ⟨(some 2), .mv (.tmp 16), none⟩])
 (.ret))))
def r_impl_sumOf : List ARes := [.tmp 2]
theorem ok_impl_sumOf : FnOk Try.prog 81 17 c_impl_sumOf r_impl_sumOf := ⟨⟨Try.f81, _, Try.func81, by kernel_rfl, rfl, rfl, by kernel_rfl, by kernel_rfl⟩⟩
def c_impl_weightUpTo : ACode := .seq (.reg [⟨(some 4), .mv (.const (.int .i64 0)), none⟩])
 (.seq (.reg [⟨(some 5), .mv (.tmp 0), none⟩,
  ⟨(some 6), .mv (.tmp 1), none⟩,
  ⟨(some 7), .bin .add (.tmp 6) (.const (.int .i64 1)), none⟩,
  ⟨(some 8), .mv (.tmp 0), none⟩,
  ⟨(some 9), .len (.tmp 8), none⟩,
  ⟨(some 10), .mmx false (.tmp 7) (.tmp 9), none⟩,
  ⟨(some 11), .slc 1 (.tmp 5) none (some (.tmp 10)), none⟩,
  ⟨(some 12), .call (.func 81) [(.tmp 11)], none⟩,
  ⟨(some 4), .mv (.tmp 12), none⟩])
 (.ret))
def r_impl_weightUpTo : List ARes := [.tmp 4]
theorem ok_impl_weightUpTo : FnOk Try.prog 82 13 c_impl_weightUpTo r_impl_weightUpTo := ⟨⟨Try.f82, _, Try.func82, by kernel_rfl, rfl, rfl, by kernel_rfl, by kernel_rfl⟩⟩
def c_spec_l5Good : ACode := .seq (.reg [⟨(some 2), .mv (.const (.bool false)), none⟩])
 (.seq (.reg [⟨(some 3), .mv (.tmp 0), none⟩,
  ⟨(some 4), .len (.tmp 3), none⟩,
  ⟨(some 5), .call (.func 117) [(.tmp 4), (.const (.int .i64 1)), (.const (.int .i64 16))], none⟩,
  ⟨(some 6), .mv (.tmp 5), none⟩,
  ⟨(some 7), .mv (.tmp 0), (some (6, true))⟩,
  ⟨(some 8), .mv (.tmp 0), (some (6, true))⟩,
  ⟨(some 9), .len (.tmp 8), (some (6, true))⟩,
  ⟨(some 10), .call (.func 116) [(.tmp 7), (.tmp 9), (.const (.int .i64 1000))], (some (6, true))⟩,
  ⟨(some 11), .pick (.tmp 6) (.tmp 10) (.const (.bool false)), none⟩,
  ⟨(some 12), .mv (.tmp 11), none⟩,
  ⟨(some 13), .mv (.tmp 0), (some (12, true))⟩,
  ⟨(some 14), .call (.func 100) [(.tmp 13)], (some (12, true))⟩,
  ⟨(some 15), .bin .gtr (.tmp 14) (.const (.int .i64 0)), (some (12, true))⟩,
  ⟨(some 16), .pick (.tmp 12) (.tmp 15) (.const (.bool false)), none⟩,
  ⟨(some 2), .mv (.tmp 16), none⟩])
 (.ret))
def r_spec_l5Good : List ARes := [.tmp 2]
theorem ok_spec_l5Good : FnOk Try.prog 83 17 c_spec_l5Good r_spec_l5Good := ⟨⟨Try.f83, _, Try.func83, by kernel_rfl, rfl, rfl, by kernel_rfl, by kernel_rfl⟩⟩
def c_spec_l5Charges : ACode := .seq (.reg [⟨(some 4), .mv (.const (.bool false)), none⟩])
 (.seq (.reg [⟨(some 5), .mv (.tmp 0), none⟩,
  ⟨(some 6), .call (.func 117) [(.tmp 5), (.const (.int .i64 0)), (.const (.int .i64 20))], none⟩,
  ⟨(some 7), .mv (.tmp 6), none⟩,
  ⟨(some 8), .mv (.tmp 1), (some (7, true))⟩,
  ⟨(some 9), .call (.func 117) [(.tmp 8), (.const (.int .i64 0)), (.const (.int .i64 20))], (some (7, true))⟩,
  ⟨(some 10), .pick (.tmp 7) (.tmp 9) (.const (.bool false)), none⟩,
  ⟨(some 4), .mv (.tmp 10), none⟩])
 (.ret))
def r_spec_l5Charges : List ARes := [.tmp 4]
theorem ok_spec_l5Charges : FnOk Try.prog 84 11 c_spec_l5Charges r_spec_l5Charges := ⟨⟨Try.f84, _, Try.func84, by kernel_rfl, rfl, rfl, by kernel_rfl, by kernel_rfl⟩⟩
def c_spec_l5Critical : ACode := .seq (.reg [⟨(some 6), .mv (.const (.int .i64 0)), none⟩])
 (.seq (.reg [⟨(some 7), .mv (.const (.int .i64 0)), none⟩])
 (.seq (.block 0 (.loop (.seq (.seq (.reg [⟨(some 8), .mv (.tmp 1), none⟩,
  ⟨(some 9), .mv (.tmp 2), none⟩,
  ⟨(some 10), .bin .add (.tmp 8) (.tmp 9), none⟩,
  ⟨(some 11), .mv (.tmp 0), none⟩,
  ⟨(some 12), .mv (.tmp 7), none⟩,
  ⟨(some 13), .call (.func 101) [(.tmp 11), (.tmp 12)], none⟩,
  ⟨(some 14), .bin .mul (.tmp 10) (.tmp 13), none⟩,
  ⟨(some 15), .mv (.tmp 2), none⟩,
  ⟨(some 16), .mv (.tmp 0), none⟩,
  ⟨(some 17), .call (.func 100) [(.tmp 16)], none⟩,
  ⟨(some 18), .bin .mul (.tmp 15) (.tmp 17), none⟩,
  ⟨(some 19), .bin .lss (.tmp 14) (.tmp 18), none⟩])
 (.cond (.tmp 19) (.skip) (.exit 0)))
 (.block 1 (.reg [⟨(some 20), .mv (.tmp 7), none⟩,
  ⟨(some 21), .bin .add (.tmp 20) (.const (.int .i64 1)), none⟩,
  ⟨(some 7), .mv (.tmp 21), none⟩])))))
 (.seq (.reg [⟨(some 22), .mv (.tmp 7), none⟩,
  ⟨(some 6), .mv (.tmp 22), none⟩])
 (.ret))))
def r_spec_l5Critical : List ARes := [.tmp 6]
theorem ok_spec_l5Critical : FnOk Try.prog 85 23 c_spec_l5Critical r_spec_l5Critical := ⟨⟨Try.f85, _, Try.func85, by kernel_rfl, rfl, rfl, by kernel_rfl, by kernel_rfl⟩⟩
def c_impl_costTable : ACode := .seq (.reg [⟨(some 6), .mv (.const (.slice none 0 0)), none⟩])
 (.seq (.reg [⟨(some 9), .bsl 3 1 0 [] [], none⟩,
  ⟨(some 7), .mv (.tmp 9), none⟩])
 (.seq (.seq (.reg [⟨(some 10), .mv (.const (.int .i64 0)), none⟩])
 (.block 0 (.loop (.seq (.reg [⟨(some 11), .bin .lss (.tmp 10) (.const (.int .i64 16)), none⟩])
 (.seq (.cond (.tmp 11) (.skip) (.exit 0))
 (.seq (.block 1 (.seq (.reg [⟨(some 12), .mv (.tmp 10), none⟩,
  ⟨(some 8), .mv (.tmp 12), none⟩])
 (.reg [⟨(some 13), .mv (.tmp 7), none⟩,
  ⟨(some 14), .mv (.tmp 0), none⟩,
  ⟨(some 15), .mv (.tmp 1), none⟩,
  ⟨(some 16), .mv (.tmp 2), none⟩,
  ⟨(some 17), .mv (.tmp 8), none⟩,
  ⟨(some 18), .call (.func 93) [(.tmp 14), (.tmp 15), (.tmp 16), (.tmp 17)], none⟩,
  ⟨(some 19), .bsl 3 1 1 [(.int .i64 0)] [(0, 1, (.tmp 18))], none⟩,
  ⟨(some 20), .app 3 1 8 (.tmp 13) (.tmp 19), none⟩,
  ⟨(some 7), .mv (.tmp 20), none⟩])))
 (.reg [⟨(some 21), .bin .add (.tmp 10) (.const (.int .i64 1)), none⟩,
  ⟨(some 10), .mv (.tmp 21), none⟩])))))))
 (.seq (.reg [⟨(some 22), .mv (.tmp 7), none⟩,
  ⟨(some 6), .mv (.tmp 22), none⟩])
 (.ret))))
def r_impl_costTable : List ARes := [.tmp 6]
theorem ok_impl_costTable : FnOk Try.prog 86 23 c_impl_costTable r_impl_costTable := ⟨⟨Try.f86, _, Try.func86, by kernel_rfl, rfl, rfl, by kernel_rfl, by kernel_rfl⟩⟩
def c_slices_Min : ACode := .seq (.reg [⟨(some 2), .mv (.const (.int .i64 0)), none⟩])
 (.seq (.seq (.reg [⟨(some 5), .mv (.tmp 0), none⟩,
  ⟨(some 6), .len (.tmp 5), none⟩,
  ⟨(some 7), .bin .lss (.tmp 6) (.const (.int .i64 1)), none⟩])
 (.cond (.tmp 7) (.reg [⟨(some 8), .never, none⟩,
  ⟨none, .never, none⟩]) (.skip)))
 (.seq (.reg [⟨(some 9), .mv (.tmp 0), none⟩,
  ⟨(some 10), .iad 1 (.tmp 9) (.const (.int .i64 0)), none⟩,
  ⟨(some 11), .ld none (.tmp 10), none⟩,
  ⟨(some 3), .mv (.tmp 11), none⟩])
 (.seq (.seq (.reg [⟨(some 4), .mv (.const (.int .i64 1)), none⟩])
 (.block 0 (.loop (.seq (.seq (.reg [⟨(some 12), .mv (.tmp 4), none⟩,
  ⟨(some 13), .mv (.tmp 0), none⟩,
  ⟨(some 14), .len (.tmp 13), none⟩,
  ⟨(some 15), .bin .lss (.tmp 12) (.tmp 14), none⟩])
 (.cond (.tmp 15) (.skip) (.exit 0)))
 (.seq (.block 1 (.reg [⟨(some 18), .mv (.tmp 3), none⟩,
  ⟨(some 19), .mv (.tmp 0), none⟩,
  ⟨(some 20), .mv (.tmp 4), none⟩,
  ⟨(some 21), .iad 1 (.tmp 19) (.tmp 20), none⟩,
  ⟨(some 22), .ld none (.tmp 21), none⟩,
  ⟨(some 23), .mmx false (.tmp 18) (.tmp 22), none⟩,
  ⟨(some 3), .mv (.tmp 23), none⟩]))
 (.reg [⟨(some 16), .mv (.tmp 4), none⟩,
  ⟨(some 17), .bin .add (.tmp 16) (.const (.int .i64 1)), none⟩,
  ⟨(some 4), .mv (.tmp 17), none⟩]))))))
 (.seq (.reg [⟨(some 24), .mv (.tmp 3), none⟩,
  ⟨(some 2), .mv (.tmp 24), none⟩])
 (.ret)))))
def r_slices_Min : List ARes := [.tmp 2]
theorem ok_slices_Min : FnOk Try.prog 87 25 c_slices_Min r_slices_Min := ⟨⟨Try.f87, _, Try.func87, by kernel_rfl, rfl, rfl, by kernel_rfl, by kernel_rfl⟩⟩
def c_impl_periodsWith : ACode := .seq (.reg [⟨(some 4), .mv (.const (.slice none 0 0)), none⟩])
 (.seq (.reg [⟨(some 8), .bsl 3 1 0 [] [], none⟩,
  ⟨(some 5), .mv (.tmp 8), none⟩])
 (.seq (.seq (.reg [⟨(some 9), .mv (.tmp 0), none⟩,
  ⟨(some 10), .len (.tmp 9), none⟩,
  ⟨(some 11), .mv (.const (.int .i64 0)), none⟩])
 (.block 0 (.loop (.seq (.reg [⟨(some 12), .bin .lss (.tmp 11) (.tmp 10), none⟩])
 (.seq (.cond (.tmp 12) (.skip) (.exit 0))
 (.seq (.block 1 (.seq (.reg [⟨(some 13), .mv (.tmp 11), none⟩,
  ⟨(some 14), .iad 1 (.tmp 9) (.tmp 11), none⟩,
  ⟨(some 15), .ld none (.tmp 14), none⟩,
  ⟨(some 6), .mv (.tmp 13), none⟩,
  ⟨(some 7), .mv (.tmp 15), none⟩])
 (.seq (.reg [⟨(some 16), .mv (.tmp 1), none⟩,
  ⟨(some 17), .mv (.tmp 7), none⟩,
  ⟨(some 18), .call (.tmp 16) [(.tmp 17)], none⟩])
 (.cond (.tmp 18) (.reg [⟨(some 19), .mv (.tmp 5), none⟩,
  ⟨(some 20), .mv (.tmp 6), none⟩,
  ⟨(some 21), .bsl 3 1 1 [(.int .i64 0)] [(0, 1, (.tmp 20))], none⟩,
  ⟨(some 22), .app 3 1 8 (.tmp 19) (.tmp 21), none⟩,
  ⟨(some 5), .mv (.tmp 22), none⟩]) (.skip)))))
 (.reg [⟨(some 23), .bin .add (.tmp 11) (.const (.int .i64 1)), none⟩,
  ⟨(some 11), .mv (.tmp 23), none⟩])))))))
 (.seq (.reg [⟨(some 24), .mv (.tmp 5), none⟩,
  ⟨(some 4), .mv (.tmp 24), none⟩])
 (.ret))))
def r_impl_periodsWith : List ARes := [.tmp 4]
theorem ok_impl_periodsWith : FnOk Try.prog 88 25 c_impl_periodsWith r_impl_periodsWith := ⟨⟨Try.f88, _, Try.func88, by kernel_rfl, rfl, rfl, by kernel_rfl, by kernel_rfl⟩⟩
def c_impl_BestOrders_1 : ACode := .seq (.reg [⟨(some 3), .mv (.const (.bool false)), none⟩])
 (.seq (.reg [⟨(some 4), .mv (.tmp 0), none⟩,
  ⟨(some 5), .ld none (.tmp 1), none⟩,
  ⟨(some 6), .bin .eql (.tmp 4) (.tmp 5), none⟩,
  ⟨(some 3), .mv (.tmp 6), none⟩])
 (.ret))
def r_impl_BestOrders_1 : List ARes := [.tmp 3]
theorem ok_impl_BestOrders_1 : FnOk Try.prog 89 7 c_impl_BestOrders_1 r_impl_BestOrders_1 := ⟨⟨Try.f89, _, Try.func89, by kernel_rfl, rfl, rfl, by kernel_rfl, by kernel_rfl⟩⟩
def c_spec_l5Cost : ACode := .seq (.reg [⟨(some 8), .mv (.const (.int .i64 0)), none⟩])
 (.seq (.reg [⟨(some 9), .mv (.tmp 1), none⟩,
  ⟨(some 10), .mv (.tmp 0), none⟩,
  ⟨(some 11), .mv (.tmp 3), none⟩,
  ⟨(some 12), .call (.func 96) [(.tmp 10), (.tmp 11)], none⟩,
  ⟨(some 13), .bin .mul (.tmp 9) (.tmp 12), none⟩,
  ⟨(some 14), .mv (.tmp 2), none⟩,
  ⟨(some 15), .mv (.tmp 0), none⟩,
  ⟨(some 16), .mv (.tmp 3), none⟩,
  ⟨(some 17), .call (.func 98) [(.tmp 15), (.tmp 16)], none⟩,
  ⟨(some 18), .bin .mul (.tmp 14) (.tmp 17), none⟩,
  ⟨(some 19), .bin .add (.tmp 13) (.tmp 18), none⟩,
  ⟨(some 8), .mv (.tmp 19), none⟩])
 (.ret))
def r_spec_l5Cost : List ARes := [.tmp 8]
theorem ok_spec_l5Cost : FnOk Try.prog 90 20 c_spec_l5Cost r_spec_l5Cost := ⟨⟨Try.f90, _, Try.func90, by kernel_rfl, rfl, rfl, by kernel_rfl, by kernel_rfl⟩⟩
def c_impl_isOrderFor : ACode := .seq (.reg [⟨(some 4), .mv (.const (.bool false)), none⟩])
 (.seq (.reg [⟨(some 5), .mv (.tmp 0), none⟩,
  ⟨(some 6), .call (.func 44) [(.tmp 5)], none⟩,
  ⟨(some 7), .mv (.tmp 6), none⟩,
  ⟨(some 8), .mv (.tmp 1), (some (7, true))⟩,
  ⟨(some 9), .call (.func 110) [(.tmp 8), (.const (.int .i64 15))], (some (7, true))⟩,
  ⟨(some 10), .pick (.tmp 7) (.tmp 9) (.const (.bool false)), none⟩,
  ⟨(some 4), .mv (.tmp 10), none⟩])
 (.ret))
def r_impl_isOrderFor : List ARes := [.tmp 4]
theorem ok_impl_isOrderFor : FnOk Try.prog 92 11 c_impl_isOrderFor r_impl_isOrderFor := ⟨⟨Try.f92, _, Try.func92, by kernel_rfl, rfl, rfl, by kernel_rfl, by kernel_rfl⟩⟩
def c_impl_costSum : ACode := .seq (.reg [⟨(some 8), .mv (.const (.int .i64 0)), none⟩])
 (.seq (.reg [⟨(some 9), .mv (.tmp 1), none⟩,
  ⟨(some 10), .mv (.tmp 0), none⟩,
  ⟨(some 11), .mv (.tmp 3), none⟩,
  ⟨(some 12), .call (.func 95) [(.tmp 10), (.tmp 11)], none⟩,
  ⟨(some 13), .bin .mul (.tmp 9) (.tmp 12), none⟩,
  ⟨(some 14), .mv (.tmp 2), none⟩,
  ⟨(some 15), .mv (.tmp 0), none⟩,
  ⟨(some 16), .mv (.tmp 3), none⟩,
  ⟨(some 17), .call (.func 97) [(.tmp 15), (.tmp 16)], none⟩,
  ⟨(some 18), .bin .mul (.tmp 14) (.tmp 17), none⟩,
  ⟨(some 19), .bin .add (.tmp 13) (.tmp 18), none⟩,
  ⟨(some 8), .mv (.tmp 19), none⟩])
 (.ret))
def r_impl_costSum : List ARes := [.tmp 8]
theorem ok_impl_costSum : FnOk Try.prog 93 20 c_impl_costSum r_impl_costSum := ⟨⟨Try.f93, _, Try.func93, by kernel_rfl, rfl, rfl, by kernel_rfl, by kernel_rfl⟩⟩
def c_spec_l5Order : ACode := .seq (.reg [⟨(some 4), .mv (.const (.bool false)), none⟩])
 (.seq (.reg [⟨(some 5), .mv (.tmp 0), none⟩,
  ⟨(some 6), .call (.func 83) [(.tmp 5)], none⟩,
  ⟨(some 7), .mv (.tmp 6), none⟩,
  ⟨(some 8), .mv (.tmp 1), (some (7, true))⟩,
  ⟨(some 9), .call (.func 117) [(.tmp 8), (.const (.int .i64 0)), (.const (.int .i64 15))], (some (7, true))⟩,
  ⟨(some 10), .pick (.tmp 7) (.tmp 9) (.const (.bool false)), none⟩,
  ⟨(some 4), .mv (.tmp 10), none⟩])
 (.ret))
def r_spec_l5Order : List ARes := [.tmp 4]
theorem ok_spec_l5Order : FnOk Try.prog 94 11 c_spec_l5Order r_spec_l5Order := ⟨⟨Try.f94, _, Try.func94, by kernel_rfl, rfl, rfl, by kernel_rfl, by kernel_rfl⟩⟩
def c_impl_overSum : ACode := .seq (.reg [⟨(some 4), .mv (.const (.int .i64 0)), none⟩])
 (.seq (.reg [⟨(some 5), .mv (.const (.int .i64 0)), none⟩])
 (.seq (.seq (.reg [⟨(some 8), .mv (.tmp 0), none⟩,
  ⟨(some 9), .len (.tmp 8), none⟩,
  ⟨(some 10), .mv (.const (.int .i64 0)), none⟩])
 (.block 0 (.loop (.seq (.reg [⟨(some 11), .bin .lss (.tmp 10) (.tmp 9), none⟩])
 (.seq (.cond (.tmp 11) (.skip) (.exit 0))
 (.seq (.block 1 (.seq (.reg [⟨(some 12), .mv (.tmp 10), none⟩,
  ⟨(some 13), .iad 1 (.tmp 8) (.tmp 10), none⟩,
  ⟨(some 14), .ld none (.tmp 13), none⟩,
  ⟨(some 6), .mv (.tmp 12), none⟩,
  ⟨(some 7), .mv (.tmp 14), none⟩])
 (.reg [⟨(some 15), .mv (.tmp 5), none⟩,
  ⟨(some 16), .mv (.tmp 7), none⟩,
  ⟨(some 17), .mv (.tmp 1), none⟩,
  ⟨(some 18), .mv (.tmp 6), none⟩,
  ⟨(some 19), .bin .sub (.tmp 17) (.tmp 18), none⟩,
  ⟨(some 20), .mmx true (.const (.int .i64 0)) (.tmp 19), none⟩,
  ⟨(some 21), .bin .mul (.tmp 16) (.tmp 20), none⟩,
  ⟨(some 22), .bin .add (.tmp 15) (.tmp 21), none⟩,
  ⟨(some 5), .mv (.tmp 22), none⟩])))
 (.reg [⟨(some 23), .bin .add (.tmp 10) (.const (.int .i64 1)), none⟩,
  ⟨(some 10), .mv (.tmp 23), none⟩])))))))
 (.seq (.reg [⟨(some 24), .mv (.tmp 5), none⟩,
  ⟨(some 4), .mv (.tmp 24), none⟩])
 (.ret))))
def r_impl_overSum : List ARes := [.tmp 4]
theorem ok_impl_overSum : FnOk Try.prog 95 25 c_impl_overSum r_impl_overSum := ⟨⟨Try.f95, _, Try.func95, by kernel_rfl, rfl, rfl, by kernel_rfl, by kernel_rfl⟩⟩
def c_spec_l5Over : ACode := .seq (.reg [⟨(some 4), .mv (.const (.int .i64 0)), none⟩])
 (.seq (.reg [⟨(some 5), .mv (.const (.int .i64 0)), none⟩])
 (.seq (.seq (.reg [⟨(some 6), .mv (.const (.int .i64 0)), none⟩])
 (.block 0 (.loop (.seq (.seq (.reg [⟨(some 7), .mv (.tmp 6), none⟩,
  ⟨(some 8), .mv (.tmp 0), none⟩,
  ⟨(some 9), .len (.tmp 8), none⟩,
  ⟨(some 10), .bin .lss (.tmp 7) (.tmp 9), none⟩])
 (.cond (.tmp 10) (.skip) (.exit 0)))
 (.seq (.block 1 (.reg [⟨(some 13), .mv (.tmp 5), none⟩,
  ⟨(some 14), .mv (.tmp 0), none⟩,
  ⟨(some 15), .mv (.tmp 6), none⟩,
  ⟨(some 16), .iad 1 (.tmp 14) (.tmp 15), none⟩,
  ⟨(some 17), .ld none (.tmp 16), none⟩,
  ⟨(some 18), .mv (.tmp 1), none⟩,
  ⟨(some 19), .mv (.tmp 6), none⟩,
  ⟨(some 20), .bin .sub (.tmp 18) (.tmp 19), none⟩,
  ⟨(some 21), .rcall (.func 126) [(.const (.int .i64 0)), (.tmp 20)], none⟩,
  ⟨(some 22), .bin .mul (.tmp 17) (.tmp 21), none⟩,
  ⟨(some 23), .bin .add (.tmp 13) (.tmp 22), none⟩,
  ⟨(some 5), .mv (.tmp 23), none⟩]))
 (.reg [⟨(some 11), .mv (.tmp 6), none⟩,
  ⟨(some 12), .bin .add (.tmp 11) (.const (.int .i64 1)), none⟩,
  ⟨(some 6), .mv (.tmp 12), none⟩]))))))
 (.seq (.reg [⟨(some 24), .mv (.tmp 5), none⟩,
  ⟨(some 4), .mv (.tmp 24), none⟩])
 (.ret))))
def r_spec_l5Over : List ARes := [.tmp 4]
theorem ok_spec_l5Over : FnOk Try.prog 96 25 c_spec_l5Over r_spec_l5Over := ⟨⟨Try.f96, _, Try.func96, by kernel_rfl, rfl, rfl, by kernel_rfl, by kernel_rfl⟩⟩
def c_impl_shortSum : ACode := .seq (.reg [⟨(some 4), .mv (.const (.int .i64 0)), none⟩])
 (.seq (.reg [⟨(some 5), .mv (.const (.int .i64 0)), none⟩])
 (.seq (.seq (.reg [⟨(some 8), .mv (.tmp 0), none⟩,
  ⟨(some 9), .len (.tmp 8), none⟩,
  ⟨(some 10), .mv (.const (.int .i64 0)), none⟩])
 (.block 0 (.loop (.seq (.reg [⟨(some 11), .bin .lss (.tmp 10) (.tmp 9), none⟩])
 (.seq (.cond (.tmp 11) (.skip) (.exit 0))
 (.seq (.block 1 (.seq (.reg [⟨(some 12), .mv (.tmp 10), none⟩,
  ⟨(some 13), .iad 1 (.tmp 8) (.tmp 10), none⟩,
  ⟨(some 14), .ld none (.tmp 13), none⟩,
  ⟨(some 6), .mv (.tmp 12), none⟩,
  ⟨(some 7), .mv (.tmp 14), none⟩])
 (.reg [⟨(some 15), .mv (.tmp 5), none⟩,
  ⟨(some 16), .mv (.tmp 7), none⟩,
  ⟨(some 17), .mv (.tmp 6), none⟩,
  ⟨(some 18), .mv (.tmp 1), none⟩,
  ⟨(some 19), .bin .sub (.tmp 17) (.tmp 18), none⟩,
  ⟨(some 20), .mmx true (.const (.int .i64 0)) (.tmp 19), none⟩,
  ⟨(some 21), .bin .mul (.tmp 16) (.tmp 20), none⟩,
  ⟨(some 22), .bin .add (.tmp 15) (.tmp 21), none⟩,
  ⟨(some 5), .mv (.tmp 22), none⟩])))
 (.reg [⟨(some 23), .bin .add (.tmp 10) (.const (.int .i64 1)), none⟩,
  ⟨(some 10), .mv (.tmp 23), none⟩])))))))
 (.seq (.reg [⟨(some 24), .mv (.tmp 5), none⟩,
  ⟨(some 4), .mv (.tmp 24), none⟩])
 (.ret))))
def r_impl_shortSum : List ARes := [.tmp 4]
theorem ok_impl_shortSum : FnOk Try.prog 97 25 c_impl_shortSum r_impl_shortSum := ⟨⟨Try.f97, _, Try.func97, by kernel_rfl, rfl, rfl, by kernel_rfl, by kernel_rfl⟩⟩
def c_spec_l5Short : ACode := .seq (.reg [⟨(some 4), .mv (.const (.int .i64 0)), none⟩])
 (.seq (.reg [⟨(some 5), .mv (.const (.int .i64 0)), none⟩])
 (.seq (.seq (.reg [⟨(some 6), .mv (.const (.int .i64 0)), none⟩])
 (.block 0 (.loop (.seq (.seq (.reg [⟨(some 7), .mv (.tmp 6), none⟩,
  ⟨(some 8), .mv (.tmp 0), none⟩,
  ⟨(some 9), .len (.tmp 8), none⟩,
  ⟨(some 10), .bin .lss (.tmp 7) (.tmp 9), none⟩])
 (.cond (.tmp 10) (.skip) (.exit 0)))
 (.seq (.block 1 (.reg [⟨(some 13), .mv (.tmp 5), none⟩,
  ⟨(some 14), .mv (.tmp 0), none⟩,
  ⟨(some 15), .mv (.tmp 6), none⟩,
  ⟨(some 16), .iad 1 (.tmp 14) (.tmp 15), none⟩,
  ⟨(some 17), .ld none (.tmp 16), none⟩,
  ⟨(some 18), .mv (.tmp 6), none⟩,
  ⟨(some 19), .mv (.tmp 1), none⟩,
  ⟨(some 20), .bin .sub (.tmp 18) (.tmp 19), none⟩,
  ⟨(some 21), .rcall (.func 126) [(.const (.int .i64 0)), (.tmp 20)], none⟩,
  ⟨(some 22), .bin .mul (.tmp 17) (.tmp 21), none⟩,
  ⟨(some 23), .bin .add (.tmp 13) (.tmp 22), none⟩,
  ⟨(some 5), .mv (.tmp 23), none⟩]))
 (.reg [⟨(some 11), .mv (.tmp 6), none⟩,
  ⟨(some 12), .bin .add (.tmp 11) (.const (.int .i64 1)), none⟩,
  ⟨(some 6), .mv (.tmp 12), none⟩]))))))
 (.seq (.reg [⟨(some 24), .mv (.tmp 5), none⟩,
  ⟨(some 4), .mv (.tmp 24), none⟩])
 (.ret))))
def r_spec_l5Short : List ARes := [.tmp 4]
theorem ok_spec_l5Short : FnOk Try.prog 98 25 c_spec_l5Short r_spec_l5Short := ⟨⟨Try.f98, _, Try.func98, by kernel_rfl, rfl, rfl, by kernel_rfl, by kernel_rfl⟩⟩
def c_impl_meanSum : ACode := .seq (.reg [⟨(some 2), .mv (.const (.int .i64 0)), none⟩])
 (.seq (.reg [⟨(some 3), .mv (.tmp 0), none⟩,
  ⟨(some 4), .call (.func 97) [(.tmp 3), (.const (.int .i64 0))], none⟩,
  ⟨(some 2), .mv (.tmp 4), none⟩])
 (.ret))
def r_impl_meanSum : List ARes := [.tmp 2]
theorem ok_impl_meanSum : FnOk Try.prog 99 5 c_impl_meanSum r_impl_meanSum := ⟨⟨Try.f99, _, Try.func99, by kernel_rfl, rfl, rfl, by kernel_rfl, by kernel_rfl⟩⟩
def c_spec_l5Total : ACode := .seq (.reg [⟨(some 2), .mv (.const (.int .i64 0)), none⟩])
 (.seq (.reg [⟨(some 3), .mv (.tmp 0), none⟩,
  ⟨(some 4), .call (.func 120) [(.tmp 3)], none⟩,
  ⟨(some 2), .mv (.tmp 4), none⟩])
 (.ret))
def r_spec_l5Total : List ARes := [.tmp 2]
theorem ok_spec_l5Total : FnOk Try.prog 100 5 c_spec_l5Total r_spec_l5Total := ⟨⟨Try.f100, _, Try.func100, by kernel_rfl, rfl, rfl, by kernel_rfl, by kernel_rfl⟩⟩
def c_spec_l5UpTo : ACode := .seq (.reg [⟨(some 4), .mv (.const (.int .i64 0)), none⟩])
 (.seq (.reg [⟨(some 5), .mv (.const (.int .i64 0)), none⟩])
 (.seq (.seq (.reg [⟨(some 6), .mv (.const (.int .i64 0)), none⟩])
 (.block 0 (.loop (.seq (.seq (.reg [⟨(some 7), .mv (.tmp 6), none⟩,
  ⟨(some 8), .mv (.tmp 0), none⟩,
  ⟨(some 9), .len (.tmp 8), none⟩,
  ⟨(some 10), .bin .lss (.tmp 7) (.tmp 9), none⟩,
  ⟨(some 11), .mv (.tmp 10), none⟩,
  ⟨(some 12), .mv (.tmp 6), (some (11, true))⟩,
  ⟨(some 13), .mv (.tmp 1), (some (11, true))⟩,
  ⟨(some 14), .bin .leq (.tmp 12) (.tmp 13), (some (11, true))⟩,
  ⟨(some 15), .pick (.tmp 11) (.tmp 14) (.const (.bool false)), none⟩])
 (.cond (.tmp 15) (.skip) (.exit 0)))
 (.seq (.block 1 (.reg [⟨(some 18), .mv (.tmp 5), none⟩,
  ⟨(some 19), .mv (.tmp 0), none⟩,
  ⟨(some 20), .mv (.tmp 6), none⟩,
  ⟨(some 21), .iad 1 (.tmp 19) (.tmp 20), none⟩,
  ⟨(some 22), .ld none (.tmp 21), none⟩,
  ⟨(some 23), .bin .add (.tmp 18) (.tmp 22), none⟩,
  ⟨(some 5), .mv (.tmp 23), none⟩]))
 (.reg [⟨(some 16), .mv (.tmp 6), none⟩,
  ⟨(some 17), .bin .add (.tmp 16) (.const (.int .i64 1)), none⟩,
  ⟨(some 6), .mv (.tmp 17), none⟩]))))))
 (.seq (.reg [⟨(some 24), .mv (.tmp 5), none⟩,
  ⟨(some 4), .mv (.tmp 24), none⟩])
 (.ret))))
def r_spec_l5UpTo : List ARes := [.tmp 4]
theorem ok_spec_l5UpTo : FnOk Try.prog 101 25 c_spec_l5UpTo r_spec_l5UpTo := ⟨⟨Try.f101, _, Try.func101, by kernel_rfl, rfl, rfl, by kernel_rfl, by kernel_rfl⟩⟩
def c_impl_isRow : ACode := .seq (.reg [⟨(some 5), .box 3 (.tmp 2), none⟩,
  ⟨(some 6), .mv (.const (.bool false)), none⟩])
 (.seq (.reg [⟨(some 8), .mkf 127 [] [(.tmp 5)], none⟩,
  ⟨(some 7), .mv (.tmp 8), none⟩])
 (.seq (.reg [⟨(some 9), .mv (.tmp 0), none⟩,
  ⟨(some 10), .len (.tmp 9), none⟩,
  ⟨(some 11), .mv (.tmp 1), none⟩,
  ⟨(some 12), .bin .eql (.tmp 10) (.tmp 11), none⟩,
  ⟨(some 13), .mv (.tmp 12), none⟩,
  ⟨(some 14), .mv (.tmp 0), (some (13, true))⟩,
  ⟨(some 15), .mv (.tmp 7), (some (13, true))⟩,
  ⟨(some 16), .call (.func 128) [(.tmp 14), (.tmp 15)], (some (13, true))⟩,
  ⟨(some 17), .un .not (.tmp 16), (some (13, true))⟩,
  ⟨(some 18), .pick (.tmp 13) (.tmp 17) (.const (.bool false)), none⟩,
  ⟨(some 6), .mv (.tmp 18), none⟩])
 (.ret)))
def r_impl_isRow : List ARes := [.tmp 6]
theorem ok_impl_isRow : FnOk Try.prog 102 19 c_impl_isRow r_impl_isRow := ⟨⟨Try.f102, _, Try.func102, by kernel_rfl, rfl, rfl, by kernel_rfl, by kernel_rfl⟩⟩
def c_spec_l1Own : ACode := .seq (.reg [⟨(some 2), .mv (.const (.slice none 0 0)), none⟩])
 (.seq (.reg [⟨(some 3), .bsl 3 1 0 [] [], none⟩,
  ⟨(some 4), .mv (.tmp 0), none⟩,
  ⟨(some 5), .app 3 1 8 (.tmp 3) (.tmp 4), none⟩,
  ⟨(some 2), .mv (.tmp 5), none⟩])
 (.ret))
def r_spec_l1Own : List ARes := [.tmp 2]
theorem ok_spec_l1Own : FnOk Try.prog 104 6 c_spec_l1Own r_spec_l1Own := ⟨⟨Try.f104, _, Try.func104, by kernel_rfl, rfl, rfl, by kernel_rfl, by kernel_rfl⟩⟩
def c_impl_isNeverLess : ACode := .seq (.reg [⟨(some 6), .mv (.const (.bool false)), none⟩])
 (.seq (.seq (.reg [⟨(some 8), .mv (.const (.int .i64 0)), none⟩])
 (.block 0 (.loop (.seq (.reg [⟨(some 9), .bin .lss (.tmp 8) (.const (.int .i64 16)), none⟩])
 (.seq (.cond (.tmp 9) (.skip) (.exit 0))
 (.seq (.block 1 (.seq (.reg [⟨(some 10), .mv (.tmp 8), none⟩,
  ⟨(some 7), .mv (.tmp 10), none⟩])
 (.seq (.reg [⟨(some 11), .mv (.tmp 2), none⟩,
  ⟨(some 12), .mv (.tmp 0), none⟩,
  ⟨(some 13), .mv (.tmp 7), none⟩,
  ⟨(some 14), .call (.tmp 11) [(.tmp 12), (.tmp 13)], none⟩,
  ⟨(some 15), .mv (.tmp 1), none⟩,
  ⟨(some 16), .call (.func 81) [(.tmp 15)], none⟩,
  ⟨(some 17), .bin .mul (.tmp 14) (.tmp 16), none⟩,
  ⟨(some 18), .mv (.tmp 2), none⟩,
  ⟨(some 19), .mv (.tmp 1), none⟩,
  ⟨(some 20), .mv (.tmp 7), none⟩,
  ⟨(some 21), .call (.tmp 18) [(.tmp 19), (.tmp 20)], none⟩,
  ⟨(some 22), .mv (.tmp 0), none⟩,
  ⟨(some 23), .call (.func 81) [(.tmp 22)], none⟩,
  ⟨(some 24), .bin .mul (.tmp 21) (.tmp 23), none⟩,
  ⟨(some 25), .bin .lss (.tmp 17) (.tmp 24), none⟩])
 (.cond (.tmp 25) (.seq (.reg [⟨(some 6), .mv (.const (.bool false)), none⟩])
 (.ret)) (.skip)))))
 (.reg [⟨(some 26), .bin .add (.tmp 8) (.const (.int .i64 1)), none⟩,
  ⟨(some 8), .mv (.tmp 26), none⟩])))))))
 (.seq (.reg [⟨(some 6), .mv (.const (.bool true)), none⟩])
 (.ret)))
def r_impl_isNeverLess : List ARes := [.tmp 6]
theorem ok_impl_isNeverLess : FnOk Try.prog 106 27 c_impl_isNeverLess r_impl_isNeverLess := ⟨⟨Try.f106, _, Try.func106, by kernel_rfl, rfl, rfl, by kernel_rfl, by kernel_rfl⟩⟩
def c_impl_areGoods : ACode := .seq (.reg [⟨(some 6), .mv (.const (.bool false)), none⟩])
 (.seq (.seq (.reg [⟨(some 9), .mv (.tmp 0), none⟩,
  ⟨(some 10), .len (.tmp 9), none⟩,
  ⟨(some 11), .bin .eql (.tmp 10) (.const (.int .i64 0)), none⟩,
  ⟨(some 12), .mv (.tmp 11), none⟩,
  ⟨(some 13), .mv (.tmp 0), (some (12, false))⟩,
  ⟨(some 14), .len (.tmp 13), (some (12, false))⟩,
  ⟨(some 15), .bin .gtr (.tmp 14) (.const (.int .i64 3)), (some (12, false))⟩,
  ⟨(some 16), .pick (.tmp 12) (.const (.bool true)) (.tmp 15), none⟩])
 (.cond (.tmp 16) (.seq (.reg [⟨(some 6), .mv (.const (.bool false)), none⟩])
 (.ret)) (.skip)))
 (.seq (.seq (.reg [⟨(some 17), .mv (.tmp 0), none⟩,
  ⟨(some 18), .len (.tmp 17), none⟩,
  ⟨(some 19), .mv (.const (.int .i64 0)), none⟩])
 (.block 0 (.loop (.seq (.reg [⟨(some 20), .bin .lss (.tmp 19) (.tmp 18), none⟩])
 (.seq (.cond (.tmp 20) (.skip) (.exit 0))
 (.seq (.block 1 (.seq (.reg [⟨(some 21), .iad 1 (.tmp 17) (.tmp 19), none⟩,
  ⟨(some 22), .ld none (.tmp 21), none⟩,
  ⟨(some 8), .mv (.tmp 22), none⟩])
 (.seq (.reg [⟨(some 23), .mv (.tmp 8), none⟩,
  ⟨(some 24), .mv (.tmp 1), none⟩,
  ⟨(some 25), .mv (.tmp 2), none⟩,
  ⟨(some 26), .rcall (.func 80) [(.tmp 23), (.tmp 24), (.tmp 25)], none⟩,
  ⟨(some 27), .un .not (.tmp 26), none⟩,
  ⟨(some 28), .mv (.tmp 27), none⟩,
  ⟨(some 29), .mv (.tmp 8), (some (28, false))⟩,
  ⟨(some 31), .mv (.tmp 0), (some (28, false))⟩,
  ⟨(some 32), .iad 1 (.tmp 31) (.const (.int .i64 0)), (some (28, false))⟩,
  ⟨(some 33), .ld none (.tmp 32), (some (28, false))⟩,
  ⟨(some 30), .rcall (.func 81) [(.tmp 29)], (some (28, false))⟩,
  ⟨(some 34), .rcall (.func 81) [(.tmp 33)], (some (28, false))⟩,
  ⟨(some 35), .bin .neq (.tmp 30) (.tmp 34), (some (28, false))⟩,
  ⟨(some 36), .pick (.tmp 28) (.const (.bool true)) (.tmp 35), none⟩])
 (.cond (.tmp 36) (.seq (.reg [⟨(some 6), .mv (.const (.bool false)), none⟩])
 (.ret)) (.skip)))))
 (.reg [⟨(some 37), .bin .add (.tmp 19) (.const (.int .i64 1)), none⟩,
  ⟨(some 19), .mv (.tmp 37), none⟩])))))))
 (.seq (.reg [⟨(some 6), .mv (.const (.bool true)), none⟩])
 (.ret))))
def r_impl_areGoods : List ARes := [.tmp 6]
theorem ok_impl_areGoods : FnOk Try.prog 109 38 c_impl_areGoods r_impl_areGoods := ⟨⟨Try.f109, _, Try.func109, by kernel_rfl, rfl, rfl, by kernel_rfl, by kernel_rfl⟩⟩
def c_impl_isWithin : ACode := .seq (.reg [⟨(some 4), .mv (.const (.bool false)), none⟩])
 (.seq (.reg [⟨(some 5), .mv (.tmp 0), none⟩,
  ⟨(some 6), .bin .geq (.tmp 5) (.const (.int .i64 0)), none⟩,
  ⟨(some 7), .mv (.tmp 6), none⟩,
  ⟨(some 8), .mv (.tmp 0), (some (7, true))⟩,
  ⟨(some 9), .mv (.tmp 1), (some (7, true))⟩,
  ⟨(some 10), .bin .leq (.tmp 8) (.tmp 9), (some (7, true))⟩,
  ⟨(some 11), .pick (.tmp 7) (.tmp 10) (.const (.bool false)), none⟩,
  ⟨(some 4), .mv (.tmp 11), none⟩])
 (.ret))
def r_impl_isWithin : List ARes := [.tmp 4]
theorem ok_impl_isWithin : FnOk Try.prog 110 12 c_impl_isWithin r_impl_isWithin := ⟨⟨Try.f110, _, Try.func110, by kernel_rfl, rfl, rfl, by kernel_rfl, by kernel_rfl⟩⟩
def c_impl_costOfOrders : ACode := .seq (.reg [⟨(some 3), .box 88 (.tmp 1), none⟩,
  ⟨(some 4), .mv (.const (.int .i64 0)), none⟩])
 (.seq (.reg [⟨(some 5), .mv (.const (.int .i64 0)), none⟩])
 (.seq (.seq (.reg [⟨(some 8), .mv (.tmp 0), none⟩,
  ⟨(some 9), .len (.tmp 8), none⟩,
  ⟨(some 10), .mv (.const (.int .i64 0)), none⟩])
 (.block 0 (.loop (.seq (.reg [⟨(some 11), .bin .lss (.tmp 10) (.tmp 9), none⟩])
 (.seq (.cond (.tmp 11) (.skip) (.exit 0))
 (.seq (.block 1 (.seq (.reg [⟨(some 12), .mv (.tmp 10), none⟩,
  ⟨(some 13), .iad 1 (.tmp 8) (.tmp 10), none⟩,
  ⟨(some 14), .ld none (.tmp 13), none⟩,
  ⟨(some 6), .mv (.tmp 12), none⟩,
  ⟨(some 7), .mv (.tmp 14), none⟩])
 (.reg [⟨(some 15), .mv (.tmp 5), none⟩,
  ⟨(some 16), .mv (.tmp 7), none⟩,
  ⟨(some 17), .mv (.tmp 6), none⟩,
  ⟨(some 18), .iada 1 3 (.tmp 3) (.tmp 17), none⟩,
  ⟨(some 19), .ld none (.tmp 18), none⟩,
  ⟨(some 20), .iad 1 (.tmp 16) (.tmp 19), none⟩,
  ⟨(some 21), .ld none (.tmp 20), none⟩,
  ⟨(some 22), .bin .add (.tmp 15) (.tmp 21), none⟩,
  ⟨(some 5), .mv (.tmp 22), none⟩])))
 (.reg [⟨(some 23), .bin .add (.tmp 10) (.const (.int .i64 1)), none⟩,
  ⟨(some 10), .mv (.tmp 23), none⟩])))))))
 (.seq (.reg [⟨(some 24), .mv (.tmp 5), none⟩,
  ⟨(some 4), .mv (.tmp 24), none⟩])
 (.ret))))
def r_impl_costOfOrders : List ARes := [.tmp 4]
theorem ok_impl_costOfOrders : FnOk Try.prog 111 25 c_impl_costOfOrders r_impl_costOfOrders := ⟨⟨Try.f111, _, Try.func111, by kernel_rfl, rfl, rfl, by kernel_rfl, by kernel_rfl⟩⟩
def c_impl_allOrders : ACode := .seq (.reg [⟨(some 1), .box 3 (.tmp 0), none⟩,
  ⟨(some 2), .mv (.const .nilFunc), none⟩])
 (.seq (.reg [⟨(some 3), .mkf 131 [] [(.tmp 1)], none⟩,
  ⟨(some 2), .mv (.tmp 3), none⟩])
 (.ret))
def r_impl_allOrders : List ARes := [.tmp 2]
theorem ok_impl_allOrders : FnOk Try.prog 112 4 c_impl_allOrders r_impl_allOrders := ⟨⟨Try.f112, _, Try.func112, by kernel_rfl, rfl, rfl, by kernel_rfl, by kernel_rfl⟩⟩
def c_impl_priceOfOrders : ACode := .seq (.reg [⟨(some 3), .box 88 (.tmp 1), none⟩,
  ⟨(some 4), .mv (.const (.int .i64 0)), none⟩])
 (.seq (.reg [⟨(some 5), .mv (.const (.int .i64 0)), none⟩])
 (.seq (.seq (.reg [⟨(some 8), .mv (.tmp 0), none⟩,
  ⟨(some 9), .len (.tmp 8), none⟩,
  ⟨(some 10), .mv (.const (.int .i64 0)), none⟩])
 (.block 0 (.loop (.seq (.reg [⟨(some 11), .bin .lss (.tmp 10) (.tmp 9), none⟩])
 (.seq (.cond (.tmp 11) (.skip) (.exit 0))
 (.seq (.block 1 (.seq (.reg [⟨(some 12), .mv (.tmp 10), none⟩,
  ⟨(some 13), .iad 1 (.tmp 8) (.tmp 10), none⟩,
  ⟨(some 14), .ld none (.tmp 13), none⟩,
  ⟨(some 6), .mv (.tmp 12), none⟩,
  ⟨(some 7), .mv (.tmp 14), none⟩])
 (.reg [⟨(some 15), .mv (.tmp 5), none⟩,
  ⟨(some 16), .mv (.tmp 7), none⟩,
  ⟨(some 17), .mv (.tmp 6), none⟩,
  ⟨(some 18), .iada 1 3 (.tmp 3) (.tmp 17), none⟩,
  ⟨(some 19), .ld none (.tmp 18), none⟩,
  ⟨(some 20), .bin .mul (.tmp 16) (.tmp 19), none⟩,
  ⟨(some 21), .bin .add (.tmp 15) (.tmp 20), none⟩,
  ⟨(some 5), .mv (.tmp 21), none⟩])))
 (.reg [⟨(some 22), .bin .add (.tmp 10) (.const (.int .i64 1)), none⟩,
  ⟨(some 10), .mv (.tmp 22), none⟩])))))))
 (.seq (.reg [⟨(some 23), .mv (.tmp 5), none⟩,
  ⟨(some 4), .mv (.tmp 23), none⟩])
 (.ret))))
def r_impl_priceOfOrders : List ARes := [.tmp 4]
theorem ok_impl_priceOfOrders : FnOk Try.prog 113 24 c_impl_priceOfOrders r_impl_priceOfOrders := ⟨⟨Try.f113, _, Try.func113, by kernel_rfl, rfl, rfl, by kernel_rfl, by kernel_rfl⟩⟩
def c_impl_listOfOrders : ACode := .seq (.reg [⟨(some 2), .box 88 (.tmp 0), none⟩,
  ⟨(some 4), .mv (.const (.slice none 0 0)), none⟩])
 (.seq (.reg [⟨(some 5), .bsl 3 1 0 [] [], none⟩,
  ⟨(some 6), .mv (.tmp 1), none⟩,
  ⟨(some 7), .len (.tmp 6), none⟩,
  ⟨(some 8), .never, none⟩,
  ⟨(some 9), .app 3 1 8 (.tmp 5) (.tmp 8), none⟩,
  ⟨(some 4), .mv (.tmp 9), none⟩])
 (.ret))
def r_impl_listOfOrders : List ARes := [.tmp 4]
theorem ok_impl_listOfOrders : FnOk Try.prog 114 10 c_impl_listOfOrders r_impl_listOfOrders := ⟨⟨Try.f114, _, Try.func114, by kernel_rfl, rfl, rfl, by kernel_rfl, by kernel_rfl⟩⟩
def c_spec_l5Goods : ACode := .seq (.reg [⟨(some 2), .mv (.const (.bool false)), none⟩])
 (.seq (.seq (.reg [⟨(some 3), .mv (.const (.int .i64 0)), none⟩])
 (.block 0 (.loop (.seq (.seq (.reg [⟨(some 4), .mv (.tmp 3), none⟩,
  ⟨(some 5), .mv (.tmp 0), none⟩,
  ⟨(some 6), .len (.tmp 5), none⟩,
  ⟨(some 7), .bin .lss (.tmp 4) (.tmp 6), none⟩])
 (.cond (.tmp 7) (.skip) (.exit 0)))
 (.seq (.block 1 (.seq (.reg [⟨(some 10), .mv (.tmp 0), none⟩,
  ⟨(some 11), .mv (.tmp 3), none⟩,
  ⟨(some 12), .iad 1 (.tmp 10) (.tmp 11), none⟩,
  ⟨(some 13), .ld none (.tmp 12), none⟩,
  ⟨(some 14), .rcall (.func 83) [(.tmp 13)], none⟩,
  ⟨(some 15), .un .not (.tmp 14), none⟩,
  ⟨(some 16), .mv (.tmp 15), none⟩,
  ⟨(some 17), .mv (.tmp 0), (some (16, false))⟩,
  ⟨(some 18), .mv (.tmp 3), (some (16, false))⟩,
  ⟨(some 19), .iad 1 (.tmp 17) (.tmp 18), (some (16, false))⟩,
  ⟨(some 20), .ld none (.tmp 19), (some (16, false))⟩,
  ⟨(some 22), .mv (.tmp 0), (some (16, false))⟩,
  ⟨(some 23), .iad 1 (.tmp 22) (.const (.int .i64 0)), (some (16, false))⟩,
  ⟨(some 24), .ld none (.tmp 23), (some (16, false))⟩,
  ⟨(some 21), .rcall (.func 100) [(.tmp 20)], (some (16, false))⟩,
  ⟨(some 25), .rcall (.func 100) [(.tmp 24)], (some (16, false))⟩,
  ⟨(some 26), .bin .neq (.tmp 21) (.tmp 25), (some (16, false))⟩,
  ⟨(some 27), .pick (.tmp 16) (.const (.bool true)) (.tmp 26), none⟩])
 (.cond (.tmp 27) (.seq (.reg [⟨(some 2), .mv (.const (.bool false)), none⟩])
 (.ret)) (.skip))))
 (.reg [⟨(some 8), .mv (.tmp 3), none⟩,
  ⟨(some 9), .bin .add (.tmp 8) (.const (.int .i64 1)), none⟩,
  ⟨(some 3), .mv (.tmp 9), none⟩]))))))
 (.seq (.reg [⟨(some 28), .mv (.tmp 0), none⟩,
  ⟨(some 29), .len (.tmp 28), none⟩,
  ⟨(some 30), .call (.func 117) [(.tmp 29), (.const (.int .i64 1)), (.const (.int .i64 3))], none⟩,
  ⟨(some 2), .mv (.tmp 30), none⟩])
 (.ret)))
def r_spec_l5Goods : List ARes := [.tmp 2]
theorem ok_spec_l5Goods : FnOk Try.prog 115 31 c_spec_l5Goods r_spec_l5Goods := ⟨⟨Try.f115, _, Try.func115, by kernel_rfl, rfl, rfl, by kernel_rfl, by kernel_rfl⟩⟩
def c_spec_l2Row : ACode := .seq (.reg [⟨(some 6), .mv (.const (.bool false)), none⟩])
 (.seq (.seq (.reg [⟨(some 7), .mv (.const (.int .i64 0)), none⟩])
 (.block 0 (.loop (.seq (.seq (.reg [⟨(some 8), .mv (.tmp 7), none⟩,
  ⟨(some 9), .mv (.tmp 0), none⟩,
  ⟨(some 10), .len (.tmp 9), none⟩,
  ⟨(some 11), .bin .lss (.tmp 8) (.tmp 10), none⟩])
 (.cond (.tmp 11) (.skip) (.exit 0)))
 (.seq (.block 1 (.seq (.reg [⟨(some 14), .mv (.tmp 0), none⟩,
  ⟨(some 15), .mv (.tmp 7), none⟩,
  ⟨(some 16), .iad 1 (.tmp 14) (.tmp 15), none⟩,
  ⟨(some 17), .ld none (.tmp 16), none⟩,
  ⟨(some 18), .mv (.tmp 2), none⟩,
  ⟨(some 19), .call (.func 117) [(.tmp 17), (.const (.int .i64 0)), (.tmp 18)], none⟩,
  ⟨(some 20), .un .not (.tmp 19), none⟩])
 (.cond (.tmp 20) (.seq (.reg [⟨(some 6), .mv (.const (.bool false)), none⟩])
 (.ret)) (.skip))))
 (.reg [⟨(some 12), .mv (.tmp 7), none⟩,
  ⟨(some 13), .bin .add (.tmp 12) (.const (.int .i64 1)), none⟩,
  ⟨(some 7), .mv (.tmp 13), none⟩]))))))
 (.seq (.reg [⟨(some 21), .mv (.tmp 0), none⟩,
  ⟨(some 22), .len (.tmp 21), none⟩,
  ⟨(some 23), .mv (.tmp 1), none⟩,
  ⟨(some 24), .bin .eql (.tmp 22) (.tmp 23), none⟩,
  ⟨(some 6), .mv (.tmp 24), none⟩])
 (.ret)))
def r_spec_l2Row : List ARes := [.tmp 6]
theorem ok_spec_l2Row : FnOk Try.prog 116 25 c_spec_l2Row r_spec_l2Row := ⟨⟨Try.f116, _, Try.func116, by kernel_rfl, rfl, rfl, by kernel_rfl, by kernel_rfl⟩⟩
def c_spec_l1In : ACode := .seq (.reg [⟨(some 6), .mv (.const (.bool false)), none⟩])
 (.seq (.reg [⟨(some 7), .mv (.tmp 0), none⟩,
  ⟨(some 8), .mv (.tmp 1), none⟩,
  ⟨(some 9), .bin .geq (.tmp 7) (.tmp 8), none⟩,
  ⟨(some 10), .mv (.tmp 9), none⟩,
  ⟨(some 11), .mv (.tmp 0), (some (10, true))⟩,
  ⟨(some 12), .mv (.tmp 2), (some (10, true))⟩,
  ⟨(some 13), .bin .leq (.tmp 11) (.tmp 12), (some (10, true))⟩,
  ⟨(some 14), .pick (.tmp 10) (.tmp 13) (.const (.bool false)), none⟩,
  ⟨(some 6), .mv (.tmp 14), none⟩])
 (.ret))
def r_spec_l1In : List ARes := [.tmp 6]
theorem ok_spec_l1In : FnOk Try.prog 117 15 c_spec_l1In r_spec_l1In := ⟨⟨Try.f117, _, Try.func117, by kernel_rfl, rfl, rfl, by kernel_rfl, by kernel_rfl⟩⟩
def c_spec_l5Try : ACode := .seq (.reg [⟨(some 15), .box 98 (.tmp 7), none⟩,
  ⟨(some 16), .alc 98 [(.slice none 0 0), (.int .i64 0), (.bool false)], none⟩])
 (.seq (.seq (.reg [⟨(some 19), .mv (.tmp 5), none⟩,
  ⟨(some 20), .len (.tmp 19), none⟩,
  ⟨(some 21), .mv (.tmp 0), none⟩,
  ⟨(some 22), .len (.tmp 21), none⟩,
  ⟨(some 23), .bin .eql (.tmp 20) (.tmp 22), none⟩])
 (.cond (.tmp 23) (.seq (.seq (.reg [⟨(some 24), .fad 2 (.tmp 15), none⟩,
  ⟨(some 25), .ld none (.tmp 24), none⟩,
  ⟨(some 26), .un .not (.tmp 25), none⟩,
  ⟨(some 27), .mv (.tmp 26), none⟩,
  ⟨(some 28), .mv (.tmp 6), (some (27, false))⟩,
  ⟨(some 29), .fad 1 (.tmp 15), (some (27, false))⟩,
  ⟨(some 30), .ld none (.tmp 29), (some (27, false))⟩,
  ⟨(some 31), .bin .lss (.tmp 28) (.tmp 30), (some (27, false))⟩,
  ⟨(some 32), .pick (.tmp 27) (.const (.bool true)) (.tmp 31), none⟩])
 (.cond (.tmp 32) (.seq (.reg [⟨(some 33), .mv (.tmp 5), none⟩,
  ⟨(some 34), .mv (.tmp 6), none⟩,
  ⟨(some 35), .bld [(.slice none 0 0), (.int .i64 0), (.bool false)] [(0, 1, (.tmp 33)), (1, 1, (.tmp 34)), (2, 1, (.const (.bool true)))], none⟩,
  ⟨none, .st 3 (.tmp 16) (.tmp 35), none⟩])
 (.ret)) (.skip)))
 (.seq (.reg [⟨(some 36), .ld (some 3) (.tmp 15), none⟩,
  ⟨none, .st 3 (.tmp 16) (.tmp 36), none⟩])
 (.ret))) (.skip)))
 (.seq (.reg [⟨(some 37), .mv (.tmp 5), none⟩,
  ⟨(some 38), .len (.tmp 37), none⟩,
  ⟨(some 17), .mv (.tmp 38), none⟩])
 (.seq (.seq (.reg [⟨(some 18), .mv (.const (.int .i64 0)), none⟩])
 (.block 0 (.loop (.seq (.seq (.reg [⟨(some 39), .mv (.tmp 18), none⟩,
  ⟨(some 40), .bin .leq (.tmp 39) (.const (.int .i64 15)), none⟩,
  ⟨(some 41), .mv (.tmp 40), none⟩,
  ⟨(some 42), .mv (.tmp 18), (some (41, true))⟩,
  ⟨(some 43), .mv (.tmp 3), (some (41, true))⟩,
  ⟨(some 44), .mv (.tmp 17), (some (41, true))⟩,
  ⟨(some 45), .iad 1 (.tmp 43) (.tmp 44), (some (41, true))⟩,
  ⟨(some 46), .ld none (.tmp 45), (some (41, true))⟩,
  ⟨(some 47), .bin .mul (.tmp 42) (.tmp 46), (some (41, true))⟩,
  ⟨(some 48), .mv (.tmp 4), (some (41, true))⟩,
  ⟨(some 49), .bin .leq (.tmp 47) (.tmp 48), (some (41, true))⟩,
  ⟨(some 50), .pick (.tmp 41) (.tmp 49) (.const (.bool false)), none⟩])
 (.cond (.tmp 50) (.skip) (.exit 0)))
 (.seq (.block 1 (.bad))
 (.reg [⟨(some 51), .mv (.tmp 18), none⟩,
  ⟨(some 52), .bin .add (.tmp 51) (.const (.int .i64 1)), none⟩,
  ⟨(some 18), .mv (.tmp 52), none⟩]))))))
 (.seq (.reg [⟨(some 82), .ld (some 3) (.tmp 15), none⟩,
  ⟨none, .st 3 (.tmp 16) (.tmp 82), none⟩])
 (.ret)))))
def r_spec_l5Try : List ARes := [.cell 16 (some 3)]
theorem ok_spec_l5Try : FnOk Try.prog 118 83 c_spec_l5Try r_spec_l5Try := ⟨⟨Try.f118, _, Try.func118, by kernel_rfl, rfl, rfl, by kernel_rfl, by kernel_rfl⟩⟩
def c_impl_oneUnitMore : ACode := .seq (.reg [⟨(some 7), .box 88 (.tmp 3), none⟩,
  ⟨(some 8), .alc 88 [(.int .i64 0), (.int .i64 0), (.int .i64 0)], none⟩])
 (.seq (.reg [⟨(some 14), .ld (some 3) (.tmp 7), none⟩,
  ⟨(some 9), .alc 88 [(.int .i64 0), (.int .i64 0), (.int .i64 0)], none⟩,
  ⟨none, .st 3 (.tmp 9) (.tmp 14), none⟩,
  ⟨(some 10), .mv (.const (.int .i64 0)), none⟩])
 (.seq (.seq (.reg [⟨(some 15), .mv (.tmp 0), none⟩,
  ⟨(some 16), .len (.tmp 15), none⟩,
  ⟨(some 17), .mv (.const (.int .i64 0)), none⟩])
 (.block 0 (.loop (.seq (.reg [⟨(some 18), .bin .lss (.tmp 17) (.tmp 16), none⟩])
 (.seq (.cond (.tmp 18) (.skip) (.exit 0))
 (.seq (.block 1 (.seq (.reg [⟨(some 19), .mv (.tmp 17), none⟩,
  ⟨(some 20), .iad 1 (.tmp 15) (.tmp 17), none⟩,
  ⟨(some 21), .ld none (.tmp 20), none⟩,
  ⟨(some 11), .mv (.tmp 19), none⟩,
  ⟨(some 12), .mv (.tmp 21), none⟩])
 (.seq (.reg [⟨(some 22), .mv (.tmp 12), none⟩,
  ⟨(some 23), .mv (.tmp 1), none⟩,
  ⟨(some 24), .mv (.tmp 2), none⟩,
  ⟨(some 25), .mv (.tmp 11), none⟩,
  ⟨(some 26), .iada 1 3 (.tmp 7) (.tmp 25), none⟩,
  ⟨(some 27), .ld none (.tmp 26), none⟩,
  ⟨(some 29), .mv (.tmp 12), none⟩,
  ⟨(some 30), .mv (.tmp 1), none⟩,
  ⟨(some 31), .mv (.tmp 2), none⟩,
  ⟨(some 32), .mv (.tmp 11), none⟩,
  ⟨(some 33), .iada 1 3 (.tmp 7) (.tmp 32), none⟩,
  ⟨(some 34), .ld none (.tmp 33), none⟩,
  ⟨(some 35), .bin .add (.tmp 34) (.const (.int .i64 1)), none⟩,
  ⟨(some 28), .rcall (.func 93) [(.tmp 22), (.tmp 23), (.tmp 24), (.tmp 27)], none⟩,
  ⟨(some 36), .rcall (.func 93) [(.tmp 29), (.tmp 30), (.tmp 31), (.tmp 35)], none⟩,
  ⟨(some 37), .bin .sub (.tmp 28) (.tmp 36), none⟩,
  ⟨(some 13), .mv (.tmp 37), none⟩])
 (.seq (.reg [⟨(some 38), .mv (.tmp 13), none⟩,
  ⟨(some 39), .mv (.tmp 10), none⟩,
  ⟨(some 40), .bin .gtr (.tmp 38) (.tmp 39), none⟩])
 (.cond (.tmp 40) (.seq (.reg [⟨(some 41), .ld (some 3) (.tmp 7), none⟩,
  ⟨(some 42), .mv (.tmp 13), none⟩,
  ⟨none, .st 3 (.tmp 9) (.tmp 41), none⟩,
  ⟨(some 10), .mv (.tmp 42), none⟩])
 (.reg [⟨(some 43), .mv (.tmp 11), none⟩,
  ⟨(some 44), .iada 1 3 (.tmp 9) (.tmp 43), none⟩,
  ⟨(some 45), .ld none (.tmp 44), none⟩,
  ⟨(some 46), .bin .add (.tmp 45) (.const (.int .i64 1)), none⟩,
  ⟨(some 47), .iada 1 3 (.tmp 9) (.tmp 43), none⟩,
  ⟨none, .st 1 (.tmp 47) (.tmp 46), none⟩])) (.skip))))))
 (.reg [⟨(some 48), .bin .add (.tmp 17) (.const (.int .i64 1)), none⟩,
  ⟨(some 17), .mv (.tmp 48), none⟩])))))))
 (.seq (.reg [⟨(some 49), .ld (some 3) (.tmp 9), none⟩,
  ⟨none, .st 3 (.tmp 8) (.tmp 49), none⟩])
 (.ret))))
def r_impl_oneUnitMore : List ARes := [.cell 8 (some 3)]
theorem ok_impl_oneUnitMore : FnOk Try.prog 119 50 c_impl_oneUnitMore r_impl_oneUnitMore := ⟨⟨Try.f119, _, Try.func119, by kernel_rfl, rfl, rfl, by kernel_rfl, by kernel_rfl⟩⟩
def c_spec_l2Sum : ACode := .seq (.reg [⟨(some 2), .mv (.const (.int .i64 0)), none⟩])
 (.seq (.reg [⟨(some 3), .mv (.const (.int .i64 0)), none⟩])
 (.seq (.seq (.reg [⟨(some 4), .mv (.const (.int .i64 0)), none⟩])
 (.block 0 (.loop (.seq (.seq (.reg [⟨(some 5), .mv (.tmp 4), none⟩,
  ⟨(some 6), .mv (.tmp 0), none⟩,
  ⟨(some 7), .len (.tmp 6), none⟩,
  ⟨(some 8), .bin .lss (.tmp 5) (.tmp 7), none⟩])
 (.cond (.tmp 8) (.skip) (.exit 0)))
 (.seq (.block 1 (.reg [⟨(some 11), .mv (.tmp 3), none⟩,
  ⟨(some 12), .mv (.tmp 0), none⟩,
  ⟨(some 13), .mv (.tmp 4), none⟩,
  ⟨(some 14), .iad 1 (.tmp 12) (.tmp 13), none⟩,
  ⟨(some 15), .ld none (.tmp 14), none⟩,
  ⟨(some 16), .bin .add (.tmp 11) (.tmp 15), none⟩,
  ⟨(some 3), .mv (.tmp 16), none⟩]))
 (.reg [⟨(some 9), .mv (.tmp 4), none⟩,
  ⟨(some 10), .bin .add (.tmp 9) (.const (.int .i64 1)), none⟩,
  ⟨(some 4), .mv (.tmp 10), none⟩]))))))
 (.seq (.reg [⟨(some 17), .mv (.tmp 3), none⟩,
  ⟨(some 2), .mv (.tmp 17), none⟩])
 (.ret))))
def r_spec_l2Sum : List ARes := [.tmp 2]
theorem ok_spec_l2Sum : FnOk Try.prog 120 18 c_spec_l2Sum r_spec_l2Sum := ⟨⟨Try.f120, _, Try.func120, by kernel_rfl, rfl, rfl, by kernel_rfl, by kernel_rfl⟩⟩
def c_impl_isStarted : ACode := .seq (.reg [⟨(some 10), .mv (.const (.bool false)), none⟩])
 (.seq (.reg [⟨(some 11), .mv (.tmp 0), none⟩,
  ⟨(some 12), .mv (.tmp 1), none⟩,
  ⟨(some 13), .mv (.tmp 2), none⟩,
  ⟨(some 14), .call (.func 80) [(.tmp 11), (.tmp 12), (.tmp 13)], none⟩,
  ⟨(some 15), .mv (.tmp 14), none⟩,
  ⟨(some 16), .mv (.tmp 3), (some (15, true))⟩,
  ⟨(some 17), .call (.func 110) [(.tmp 16), (.const (.int .i64 20))], (some (15, true))⟩,
  ⟨(some 18), .pick (.tmp 15) (.tmp 17) (.const (.bool false)), none⟩,
  ⟨(some 19), .mv (.tmp 18), none⟩,
  ⟨(some 20), .mv (.tmp 4), (some (19, true))⟩,
  ⟨(some 21), .call (.func 110) [(.tmp 20), (.const (.int .i64 30))], (some (19, true))⟩,
  ⟨(some 22), .pick (.tmp 19) (.tmp 21) (.const (.bool false)), none⟩,
  ⟨(some 10), .mv (.tmp 22), none⟩])
 (.ret))
def r_impl_isStarted : List ARes := [.tmp 10]
theorem ok_impl_isStarted : FnOk Try.prog 121 23 c_impl_isStarted r_impl_isStarted := ⟨⟨Try.f121, _, Try.func121, by kernel_rfl, rfl, rfl, by kernel_rfl, by kernel_rfl⟩⟩
def c_impl_orderUpTo : ACode := .seq (.reg [⟨(some 12), .mv (.const (.int .i64 0)), none⟩])
 (.seq (.reg [⟨(some 18), .mv (.tmp 0), none⟩,
  ⟨(some 19), .call (.func 81) [(.tmp 18)], none⟩,
  ⟨(some 13), .mv (.tmp 19), none⟩])
 (.seq (.reg [⟨(some 20), .mv (.tmp 5), none⟩,
  ⟨(some 21), .mv (.tmp 0), none⟩,
  ⟨(some 22), .mv (.tmp 1), none⟩,
  ⟨(some 23), .mv (.tmp 2), none⟩,
  ⟨(some 24), .mv (.tmp 5), none⟩,
  ⟨(some 25), .call (.func 93) [(.tmp 21), (.tmp 22), (.tmp 23), (.tmp 24)], none⟩,
  ⟨(some 26), .mv (.tmp 13), none⟩,
  ⟨(some 27), .mv (.tmp 3), none⟩,
  ⟨(some 28), .bin .mul (.tmp 26) (.tmp 27), none⟩,
  ⟨(some 29), .mv (.tmp 5), none⟩,
  ⟨(some 30), .bin .mul (.tmp 28) (.tmp 29), none⟩,
  ⟨(some 31), .bin .add (.tmp 25) (.tmp 30), none⟩,
  ⟨(some 14), .mv (.tmp 20), none⟩,
  ⟨(some 15), .mv (.tmp 31), none⟩])
 (.seq (.seq (.reg [⟨(some 32), .mv (.tmp 5), none⟩,
  ⟨(some 33), .bin .add (.tmp 32) (.const (.int .i64 1)), none⟩,
  ⟨(some 16), .mv (.tmp 33), none⟩])
 (.block 0 (.loop (.seq (.seq (.reg [⟨(some 34), .mv (.tmp 16), none⟩,
  ⟨(some 35), .bin .leq (.tmp 34) (.const (.int .i64 15)), none⟩])
 (.cond (.tmp 35) (.skip) (.exit 0)))
 (.seq (.block 1 (.seq (.reg [⟨(some 38), .mv (.tmp 0), none⟩,
  ⟨(some 39), .mv (.tmp 1), none⟩,
  ⟨(some 40), .mv (.tmp 2), none⟩,
  ⟨(some 41), .mv (.tmp 16), none⟩,
  ⟨(some 42), .call (.func 93) [(.tmp 38), (.tmp 39), (.tmp 40), (.tmp 41)], none⟩,
  ⟨(some 43), .mv (.tmp 13), none⟩,
  ⟨(some 44), .mv (.tmp 3), none⟩,
  ⟨(some 45), .bin .mul (.tmp 43) (.tmp 44), none⟩,
  ⟨(some 46), .mv (.tmp 16), none⟩,
  ⟨(some 47), .bin .mul (.tmp 45) (.tmp 46), none⟩,
  ⟨(some 48), .bin .add (.tmp 42) (.tmp 47), none⟩,
  ⟨(some 49), .mv (.tmp 13), none⟩,
  ⟨(some 50), .mv (.tmp 4), none⟩,
  ⟨(some 51), .bin .mul (.tmp 49) (.tmp 50), none⟩,
  ⟨(some 52), .bin .add (.tmp 48) (.tmp 51), none⟩,
  ⟨(some 17), .mv (.tmp 52), none⟩])
 (.seq (.reg [⟨(some 53), .mv (.tmp 17), none⟩,
  ⟨(some 54), .mv (.tmp 15), none⟩,
  ⟨(some 55), .bin .lss (.tmp 53) (.tmp 54), none⟩])
 (.cond (.tmp 55) (.reg [⟨(some 56), .mv (.tmp 16), none⟩,
  ⟨(some 57), .mv (.tmp 17), none⟩,
  ⟨(some 14), .mv (.tmp 56), none⟩,
  ⟨(some 15), .mv (.tmp 57), none⟩]) (.skip)))))
 (.reg [⟨(some 36), .mv (.tmp 16), none⟩,
  ⟨(some 37), .bin .add (.tmp 36) (.const (.int .i64 1)), none⟩,
  ⟨(some 16), .mv (.tmp 37), none⟩]))))))
 (.seq (.reg [⟨(some 58), .mv (.tmp 14), none⟩,
  ⟨(some 12), .mv (.tmp 58), none⟩])
 (.ret)))))
def r_impl_orderUpTo : List ARes := [.tmp 12]
theorem ok_impl_orderUpTo : FnOk Try.prog 122 59 c_impl_orderUpTo r_impl_orderUpTo := ⟨⟨Try.f122, _, Try.func122, by kernel_rfl, rfl, rfl, by kernel_rfl, by kernel_rfl⟩⟩
def c_spec_l5Asks : ACode := .seq (.reg [⟨(some 10), .mv (.const (.bool false)), none⟩])
 (.seq (.reg [⟨(some 11), .mv (.tmp 0), none⟩,
  ⟨(some 12), .call (.func 83) [(.tmp 11)], none⟩,
  ⟨(some 13), .mv (.tmp 12), none⟩,
  ⟨(some 14), .mv (.tmp 1), (some (13, true))⟩,
  ⟨(some 15), .mv (.tmp 2), (some (13, true))⟩,
  ⟨(some 16), .call (.func 84) [(.tmp 14), (.tmp 15)], (some (13, true))⟩,
  ⟨(some 17), .pick (.tmp 13) (.tmp 16) (.const (.bool false)), none⟩,
  ⟨(some 18), .mv (.tmp 17), none⟩,
  ⟨(some 19), .mv (.tmp 3), (some (18, true))⟩,
  ⟨(some 20), .call (.func 117) [(.tmp 19), (.const (.int .i64 0)), (.const (.int .i64 20))], (some (18, true))⟩,
  ⟨(some 21), .pick (.tmp 18) (.tmp 20) (.const (.bool false)), none⟩,
  ⟨(some 22), .mv (.tmp 21), none⟩,
  ⟨(some 23), .mv (.tmp 4), (some (22, true))⟩,
  ⟨(some 24), .call (.func 117) [(.tmp 23), (.const (.int .i64 0)), (.const (.int .i64 30))], (some (22, true))⟩,
  ⟨(some 25), .pick (.tmp 22) (.tmp 24) (.const (.bool false)), none⟩,
  ⟨(some 10), .mv (.tmp 25), none⟩])
 (.ret))
def r_spec_l5Asks : List ARes := [.tmp 10]
theorem ok_spec_l5Asks : FnOk Try.prog 123 26 c_spec_l5Asks r_spec_l5Asks := ⟨⟨Try.f123, _, Try.func123, by kernel_rfl, rfl, rfl, by kernel_rfl, by kernel_rfl⟩⟩
def c_spec_l5Level : ACode := .seq (.reg [⟨(some 12), .mv (.const (.int .i64 0)), none⟩])
 (.seq (.reg [⟨(some 15), .mv (.tmp 5), none⟩,
  ⟨(some 13), .mv (.tmp 15), none⟩])
 (.seq (.seq (.reg [⟨(some 16), .mv (.tmp 5), none⟩,
  ⟨(some 17), .bin .add (.tmp 16) (.const (.int .i64 1)), none⟩,
  ⟨(some 14), .mv (.tmp 17), none⟩])
 (.block 0 (.loop (.seq (.seq (.reg [⟨(some 18), .mv (.tmp 14), none⟩,
  ⟨(some 19), .bin .leq (.tmp 18) (.const (.int .i64 15)), none⟩])
 (.cond (.tmp 19) (.skip) (.exit 0)))
 (.seq (.block 1 (.seq (.reg [⟨(some 22), .mv (.tmp 0), none⟩,
  ⟨(some 23), .mv (.tmp 1), none⟩,
  ⟨(some 24), .mv (.tmp 2), none⟩,
  ⟨(some 25), .mv (.tmp 3), none⟩,
  ⟨(some 26), .mv (.tmp 4), none⟩,
  ⟨(some 27), .mv (.tmp 5), none⟩,
  ⟨(some 28), .mv (.tmp 14), none⟩,
  ⟨(some 29), .call (.func 133) [(.tmp 22), (.tmp 23), (.tmp 24), (.tmp 25), (.tmp 26), (.tmp 27), (.tmp 28)], none⟩,
  ⟨(some 30), .mv (.tmp 0), none⟩,
  ⟨(some 31), .mv (.tmp 1), none⟩,
  ⟨(some 32), .mv (.tmp 2), none⟩,
  ⟨(some 33), .mv (.tmp 3), none⟩,
  ⟨(some 34), .mv (.tmp 4), none⟩,
  ⟨(some 35), .mv (.tmp 5), none⟩,
  ⟨(some 36), .mv (.tmp 13), none⟩,
  ⟨(some 37), .call (.func 133) [(.tmp 30), (.tmp 31), (.tmp 32), (.tmp 33), (.tmp 34), (.tmp 35), (.tmp 36)], none⟩,
  ⟨(some 38), .bin .lss (.tmp 29) (.tmp 37), none⟩])
 (.cond (.tmp 38) (.reg [⟨(some 39), .mv (.tmp 14), none⟩,
  ⟨(some 13), .mv (.tmp 39), none⟩]) (.skip))))
 (.reg [⟨(some 20), .mv (.tmp 14), none⟩,
  ⟨(some 21), .bin .add (.tmp 20) (.const (.int .i64 1)), none⟩,
  ⟨(some 14), .mv (.tmp 21), none⟩]))))))
 (.seq (.reg [⟨(some 40), .mv (.tmp 13), none⟩,
  ⟨(some 12), .mv (.tmp 40), none⟩])
 (.ret))))
def r_spec_l5Level : List ARes := [.tmp 12]
theorem ok_spec_l5Level : FnOk Try.prog 124 41 c_spec_l5Level r_spec_l5Level := ⟨⟨Try.f124, _, Try.func124, by kernel_rfl, rfl, rfl, by kernel_rfl, by kernel_rfl⟩⟩
def c_spec_l1Most : ACode := .seq (.reg [⟨(some 4), .mv (.const (.int .i64 0)), none⟩])
 (.seq (.seq (.reg [⟨(some 5), .mv (.tmp 0), none⟩,
  ⟨(some 6), .mv (.tmp 1), none⟩,
  ⟨(some 7), .bin .gtr (.tmp 5) (.tmp 6), none⟩])
 (.cond (.tmp 7) (.seq (.reg [⟨(some 8), .mv (.tmp 0), none⟩,
  ⟨(some 4), .mv (.tmp 8), none⟩])
 (.ret)) (.skip)))
 (.seq (.reg [⟨(some 9), .mv (.tmp 1), none⟩,
  ⟨(some 4), .mv (.tmp 9), none⟩])
 (.ret)))
def r_spec_l1Most : List ARes := [.tmp 4]
theorem ok_spec_l1Most : FnOk Try.prog 126 10 c_spec_l1Most r_spec_l1Most := ⟨⟨Try.f126, _, Try.func126, by kernel_rfl, rfl, rfl, by kernel_rfl, by kernel_rfl⟩⟩
def c_impl_isRow_1 : ACode := .seq (.reg [⟨(some 3), .mv (.const (.bool false)), none⟩])
 (.seq (.reg [⟨(some 4), .mv (.tmp 0), none⟩,
  ⟨(some 5), .ld none (.tmp 1), none⟩,
  ⟨(some 6), .call (.func 110) [(.tmp 4), (.tmp 5)], none⟩,
  ⟨(some 7), .un .not (.tmp 6), none⟩,
  ⟨(some 3), .mv (.tmp 7), none⟩])
 (.ret))
def r_impl_isRow_1 : List ARes := [.tmp 3]
theorem ok_impl_isRow_1 : FnOk Try.prog 127 8 c_impl_isRow_1 r_impl_isRow_1 := ⟨⟨Try.f127, _, Try.func127, by kernel_rfl, rfl, rfl, by kernel_rfl, by kernel_rfl⟩⟩
def c_slices_ContainsFunc : ACode := .seq (.reg [⟨(some 4), .mv (.const (.bool false)), none⟩])
 (.seq (.reg [⟨(some 5), .mv (.tmp 0), none⟩,
  ⟨(some 6), .mv (.tmp 1), none⟩,
  ⟨(some 7), .call (.func 134) [(.tmp 5), (.tmp 6)], none⟩,
  ⟨(some 8), .bin .geq (.tmp 7) (.const (.int .i64 0)), none⟩,
  ⟨(some 4), .mv (.tmp 8), none⟩])
 (.ret))
def r_slices_ContainsFunc : List ARes := [.tmp 4]
theorem ok_slices_ContainsFunc : FnOk Try.prog 128 9 c_slices_ContainsFunc r_slices_ContainsFunc := ⟨⟨Try.f128, _, Try.func128, by kernel_rfl, rfl, rfl, by kernel_rfl, by kernel_rfl⟩⟩
def c_spec_l1Least : ACode := .seq (.reg [⟨(some 4), .mv (.const (.int .i64 0)), none⟩])
 (.seq (.seq (.reg [⟨(some 5), .mv (.tmp 0), none⟩,
  ⟨(some 6), .mv (.tmp 1), none⟩,
  ⟨(some 7), .bin .lss (.tmp 5) (.tmp 6), none⟩])
 (.cond (.tmp 7) (.seq (.reg [⟨(some 8), .mv (.tmp 0), none⟩,
  ⟨(some 4), .mv (.tmp 8), none⟩])
 (.ret)) (.skip)))
 (.seq (.reg [⟨(some 9), .mv (.tmp 1), none⟩,
  ⟨(some 4), .mv (.tmp 9), none⟩])
 (.ret)))
def r_spec_l1Least : List ARes := [.tmp 4]
theorem ok_spec_l1Least : FnOk Try.prog 130 10 c_spec_l1Least r_spec_l1Least := ⟨⟨Try.f130, _, Try.func130, by kernel_rfl, rfl, rfl, by kernel_rfl, by kernel_rfl⟩⟩
def c_impl_allOrders_1 : ACode := .seq (.reg [⟨(some 6), .bld [(.int .i64 0), (.int .i64 0), (.int .i64 0)] [], none⟩,
  ⟨(some 3), .alc 88 [(.int .i64 0), (.int .i64 0), (.int .i64 0)], none⟩,
  ⟨none, .st 3 (.tmp 3) (.tmp 6), none⟩])
 (.seq (.reg [⟨(some 7), .ld (some 3) (.tmp 3), none⟩,
  ⟨(some 4), .alc 88 [(.int .i64 0), (.int .i64 0), (.int .i64 0)], none⟩,
  ⟨none, .st 3 (.tmp 4) (.tmp 7), none⟩,
  ⟨(some 5), .mv (.const (.bool true)), none⟩])
 (.block 0 (.loop (.seq (.seq (.reg [⟨(some 8), .mv (.tmp 5), none⟩,
  ⟨(some 9), .mv (.tmp 8), none⟩,
  ⟨(some 10), .mv (.tmp 0), (some (9, true))⟩,
  ⟨(some 11), .ld (some 3) (.tmp 4), (some (9, true))⟩,
  ⟨(some 12), .call (.tmp 10) [(.tmp 11)], (some (9, true))⟩,
  ⟨(some 13), .pick (.tmp 9) (.tmp 12) (.const (.bool false)), none⟩])
 (.cond (.tmp 13) (.skip) (.exit 0)))
 (.block 1 (.seq (.reg [⟨(some 14), .ld (some 3) (.tmp 4), none⟩,
  ⟨(some 15), .ld none (.tmp 1), none⟩,
  ⟨(some 16), .call (.func 132) [(.tmp 14), (.tmp 15)], none⟩,
  ⟨none, .st 3 (.tmp 4) (.tmp 16), none⟩])
 (.reg [⟨(some 17), .ld (some 3) (.tmp 4), none⟩,
  ⟨(some 18), .ld (some 3) (.tmp 3), none⟩,
  ⟨(some 19), .never, none⟩,
  ⟨(some 5), .mv (.tmp 19), none⟩])))))))
def r_impl_allOrders_1 : List ARes := []
theorem ok_impl_allOrders_1 : FnOk Try.prog 131 20 c_impl_allOrders_1 r_impl_allOrders_1 := ⟨⟨Try.f131, _, Try.func131, by kernel_rfl, rfl, rfl, by kernel_rfl, by kernel_rfl⟩⟩
def c_impl_ordersAfter : ACode := .seq (.reg [⟨(some 2), .box 88 (.tmp 0), none⟩,
  ⟨(some 4), .alc 88 [(.int .i64 0), (.int .i64 0), (.int .i64 0)], none⟩])
 (.seq (.seq (.reg [⟨(some 6), .mv (.tmp 1), none⟩,
  ⟨(some 7), .bin .sub (.tmp 6) (.const (.int .i64 1)), none⟩,
  ⟨(some 5), .mv (.tmp 7), none⟩])
 (.block 0 (.loop (.seq (.seq (.reg [⟨(some 8), .mv (.tmp 5), none⟩,
  ⟨(some 9), .bin .geq (.tmp 8) (.const (.int .i64 0)), none⟩])
 (.cond (.tmp 9) (.skip) (.exit 0)))
 (.seq (.block 1 (.seq (.seq (.reg [⟨(some 12), .mv (.tmp 5), none⟩,
  ⟨(some 13), .iada 1 3 (.tmp 2) (.tmp 12), none⟩,
  ⟨(some 14), .ld none (.tmp 13), none⟩,
  ⟨(some 15), .bin .lss (.tmp 14) (.const (.int .i64 15)), none⟩])
 (.cond (.tmp 15) (.seq (.reg [⟨(some 16), .mv (.tmp 5), none⟩,
  ⟨(some 17), .iada 1 3 (.tmp 2) (.tmp 16), none⟩,
  ⟨(some 18), .ld none (.tmp 17), none⟩,
  ⟨(some 19), .bin .add (.tmp 18) (.const (.int .i64 1)), none⟩,
  ⟨(some 20), .iada 1 3 (.tmp 2) (.tmp 16), none⟩,
  ⟨none, .st 1 (.tmp 20) (.tmp 19), none⟩])
 (.seq (.reg [⟨(some 21), .ld (some 3) (.tmp 2), none⟩,
  ⟨none, .st 3 (.tmp 4) (.tmp 21), none⟩])
 (.ret))) (.skip)))
 (.reg [⟨(some 22), .mv (.tmp 5), none⟩,
  ⟨(some 23), .iada 1 3 (.tmp 2) (.tmp 22), none⟩,
  ⟨none, .st 1 (.tmp 23) (.const (.int .i64 0)), none⟩])))
 (.reg [⟨(some 10), .mv (.tmp 5), none⟩,
  ⟨(some 11), .bin .sub (.tmp 10) (.const (.int .i64 1)), none⟩,
  ⟨(some 5), .mv (.tmp 11), none⟩]))))))
 (.seq (.reg [⟨(some 24), .ld (some 3) (.tmp 2), none⟩,
  ⟨none, .st 3 (.tmp 4) (.tmp 24), none⟩])
 (.ret)))
def r_impl_ordersAfter : List ARes := [.cell 4 (some 3)]
theorem ok_impl_ordersAfter : FnOk Try.prog 132 25 c_impl_ordersAfter r_impl_ordersAfter := ⟨⟨Try.f132, _, Try.func132, by kernel_rfl, rfl, rfl, by kernel_rfl, by kernel_rfl⟩⟩
def c_spec_l5Begun : ACode := .seq (.reg [⟨(some 14), .mv (.const (.int .i64 0)), none⟩])
 (.seq (.reg [⟨(some 16), .mv (.tmp 0), none⟩,
  ⟨(some 17), .mv (.tmp 1), none⟩,
  ⟨(some 18), .mv (.tmp 2), none⟩,
  ⟨(some 19), .mv (.tmp 6), none⟩,
  ⟨(some 20), .call (.func 90) [(.tmp 16), (.tmp 17), (.tmp 18), (.tmp 19)], none⟩,
  ⟨(some 21), .mv (.tmp 0), none⟩,
  ⟨(some 22), .call (.func 100) [(.tmp 21)], none⟩,
  ⟨(some 23), .mv (.tmp 3), none⟩,
  ⟨(some 24), .bin .mul (.tmp 22) (.tmp 23), none⟩,
  ⟨(some 25), .mv (.tmp 6), none⟩,
  ⟨(some 26), .bin .mul (.tmp 24) (.tmp 25), none⟩,
  ⟨(some 27), .bin .add (.tmp 20) (.tmp 26), none⟩,
  ⟨(some 15), .mv (.tmp 27), none⟩])
 (.seq (.seq (.reg [⟨(some 28), .mv (.tmp 6), none⟩,
  ⟨(some 29), .mv (.tmp 5), none⟩,
  ⟨(some 30), .bin .gtr (.tmp 28) (.tmp 29), none⟩])
 (.cond (.tmp 30) (.reg [⟨(some 31), .mv (.tmp 15), none⟩,
  ⟨(some 32), .mv (.tmp 0), none⟩,
  ⟨(some 33), .call (.func 100) [(.tmp 32)], none⟩,
  ⟨(some 34), .mv (.tmp 4), none⟩,
  ⟨(some 35), .bin .mul (.tmp 33) (.tmp 34), none⟩,
  ⟨(some 36), .bin .add (.tmp 31) (.tmp 35), none⟩,
  ⟨(some 15), .mv (.tmp 36), none⟩]) (.skip)))
 (.seq (.reg [⟨(some 37), .mv (.tmp 15), none⟩,
  ⟨(some 14), .mv (.tmp 37), none⟩])
 (.ret))))
def r_spec_l5Begun : List ARes := [.tmp 14]
theorem ok_spec_l5Begun : FnOk Try.prog 133 38 c_spec_l5Begun r_spec_l5Begun := ⟨⟨Try.f133, _, Try.func133, by kernel_rfl, rfl, rfl, by kernel_rfl, by kernel_rfl⟩⟩
def c_slices_IndexFunc : ACode := .seq (.reg [⟨(some 4), .mv (.const (.int .i64 0)), none⟩])
 (.seq (.seq (.reg [⟨(some 6), .mv (.tmp 0), none⟩,
  ⟨(some 7), .len (.tmp 6), none⟩,
  ⟨(some 8), .mv (.const (.int .i64 0)), none⟩])
 (.block 0 (.loop (.seq (.reg [⟨(some 9), .bin .lss (.tmp 8) (.tmp 7), none⟩])
 (.seq (.cond (.tmp 9) (.skip) (.exit 0))
 (.seq (.block 1 (.seq (.reg [⟨(some 10), .mv (.tmp 8), none⟩,
  ⟨(some 5), .mv (.tmp 10), none⟩])
 (.seq (.reg [⟨(some 11), .mv (.tmp 1), none⟩,
  ⟨(some 12), .mv (.tmp 0), none⟩,
  ⟨(some 13), .mv (.tmp 5), none⟩,
  ⟨(some 14), .iad 1 (.tmp 12) (.tmp 13), none⟩,
  ⟨(some 15), .ld none (.tmp 14), none⟩,
  ⟨(some 16), .call (.tmp 11) [(.tmp 15)], none⟩])
 (.cond (.tmp 16) (.seq (.reg [⟨(some 17), .mv (.tmp 5), none⟩,
  ⟨(some 4), .mv (.tmp 17), none⟩])
 (.ret)) (.skip)))))
 (.reg [⟨(some 18), .bin .add (.tmp 8) (.const (.int .i64 1)), none⟩,
  ⟨(some 8), .mv (.tmp 18), none⟩])))))))
 (.seq (.reg [⟨(some 4), .mv (.const (.int .i64 (-1))), none⟩])
 (.ret)))
def r_slices_IndexFunc : List ARes := [.tmp 4]
theorem ok_slices_IndexFunc : FnOk Try.prog 134 19 c_slices_IndexFunc r_slices_IndexFunc := ⟨⟨Try.f134, _, Try.func134, by kernel_rfl, rfl, rfl, by kernel_rfl, by kernel_rfl⟩⟩
end Go.Proofs.Ytfdpieeopdhcmaa.Ab
