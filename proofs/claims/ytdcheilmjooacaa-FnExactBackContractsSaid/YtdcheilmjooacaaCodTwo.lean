/- The compiled forms of functions, each checked against the translation. -/
import Derived.Test.YtdcheilmjooacaaAb2
import Derived.Test.YtdcheilmjooacaaProg
namespace Go.Proofs.Ytdcheilmjooacaa.Ab
open Go Go.RowKit Go.Proofs
set_option maxRecDepth 100000
def c_spec_IsMarket : ACode := .seq (.reg [⟨(some 1), .box 27 (.tmp 0), none⟩,
  ⟨(some 2), .mv (.const (.bool false)), none⟩])
 (.seq (.reg [⟨(some 3), .ld (some 4) (.tmp 1), none⟩,
  ⟨(some 4), .call (.func 69) [(.tmp 3)], none⟩,
  ⟨(some 2), .mv (.tmp 4), none⟩])
 (.ret))
def r_spec_IsMarket : List ARes := [.tmp 2]
theorem ok_spec_IsMarket : FnOk Try.prog 21 5 c_spec_IsMarket r_spec_IsMarket := ⟨⟨Try.f21, _, Try.func21, by kernel_rfl, rfl, rfl, by kernel_rfl, by kernel_rfl⟩⟩
def c_impl_IsMarket : ACode := .seq (.reg [⟨(some 1), .box 27 (.tmp 0), none⟩,
  ⟨(some 2), .mv (.const (.bool false)), none⟩])
 (.seq (.reg [⟨(some 3), .fad 0 (.tmp 1), none⟩,
  ⟨(some 4), .ld none (.tmp 3), none⟩,
  ⟨(some 5), .call (.func 71) [(.tmp 4), (.const (.int .i64 9)), (.const (.int .i64 4))], none⟩,
  ⟨(some 6), .mv (.tmp 5), none⟩,
  ⟨(some 7), .fad 1 (.tmp 1), (some (6, true))⟩,
  ⟨(some 8), .ld none (.tmp 7), (some (6, true))⟩,
  ⟨(some 9), .call (.func 72) [(.tmp 8), (.const (.int .i64 99))], (some (6, true))⟩,
  ⟨(some 10), .pick (.tmp 6) (.tmp 9) (.const (.bool false)), none⟩,
  ⟨(some 11), .mv (.tmp 10), none⟩,
  ⟨(some 12), .fad 2 (.tmp 1), (some (11, true))⟩,
  ⟨(some 13), .ld none (.tmp 12), (some (11, true))⟩,
  ⟨(some 14), .fad 1 (.tmp 1), (some (11, true))⟩,
  ⟨(some 15), .ld none (.tmp 14), (some (11, true))⟩,
  ⟨(some 16), .call (.func 73) [(.tmp 13), (.tmp 15)], (some (11, true))⟩,
  ⟨(some 17), .pick (.tmp 11) (.tmp 16) (.const (.bool false)), none⟩,
  ⟨(some 18), .mv (.tmp 17), none⟩,
  ⟨(some 19), .fad 3 (.tmp 1), (some (18, true))⟩,
  ⟨(some 20), .ld none (.tmp 19), (some (18, true))⟩,
  ⟨(some 21), .fad 2 (.tmp 1), (some (18, true))⟩,
  ⟨(some 22), .ld none (.tmp 21), (some (18, true))⟩,
  ⟨(some 23), .call (.func 73) [(.tmp 20), (.tmp 22)], (some (18, true))⟩,
  ⟨(some 24), .pick (.tmp 18) (.tmp 23) (.const (.bool false)), none⟩,
  ⟨(some 2), .mv (.tmp 24), none⟩])
 (.ret))
def r_impl_IsMarket : List ARes := [.tmp 2]
theorem ok_impl_IsMarket : FnOk Try.prog 23 25 c_impl_IsMarket r_impl_IsMarket := ⟨⟨Try.f23, _, Try.func23, by kernel_rfl, rfl, rfl, by kernel_rfl, by kernel_rfl⟩⟩
def c_spec_IsContract : ACode := .seq (.reg [⟨(some 1), .box 34 (.tmp 0), none⟩,
  ⟨(some 2), .mv (.const (.bool false)), none⟩])
 (.seq (.reg [⟨(some 3), .ld (some 3) (.tmp 1), none⟩,
  ⟨(some 4), .call (.func 74) [(.tmp 3)], none⟩,
  ⟨(some 2), .mv (.tmp 4), none⟩])
 (.ret))
def r_spec_IsContract : List ARes := [.tmp 2]
theorem ok_spec_IsContract : FnOk Try.prog 25 5 c_spec_IsContract r_spec_IsContract := ⟨⟨Try.f25, _, Try.func25, by kernel_rfl, rfl, rfl, by kernel_rfl, by kernel_rfl⟩⟩
def c_impl_IsContract : ACode := .seq (.reg [⟨(some 1), .box 34 (.tmp 0), none⟩,
  ⟨(some 2), .mv (.const (.bool false)), none⟩])
 (.seq (.reg [⟨(some 3), .fad 0 (.tmp 1), none⟩,
  ⟨(some 4), .ld none (.tmp 3), none⟩,
  ⟨(some 5), .call (.func 73) [(.tmp 4), (.const (.int .i64 99))], none⟩,
  ⟨(some 6), .mv (.tmp 5), none⟩,
  ⟨(some 7), .fad 1 (.tmp 1), (some (6, true))⟩,
  ⟨(some 8), .ld none (.tmp 7), (some (6, true))⟩,
  ⟨(some 9), .call (.func 73) [(.tmp 8), (.const (.int .i64 99))], (some (6, true))⟩,
  ⟨(some 10), .pick (.tmp 6) (.tmp 9) (.const (.bool false)), none⟩,
  ⟨(some 11), .mv (.tmp 10), none⟩,
  ⟨(some 12), .fad 2 (.tmp 1), (some (11, true))⟩,
  ⟨(some 13), .ld none (.tmp 12), (some (11, true))⟩,
  ⟨(some 14), .call (.func 73) [(.tmp 13), (.const (.int .i64 100))], (some (11, true))⟩,
  ⟨(some 15), .pick (.tmp 11) (.tmp 14) (.const (.bool false)), none⟩,
  ⟨(some 2), .mv (.tmp 15), none⟩])
 (.ret))
def r_impl_IsContract : List ARes := [.tmp 2]
theorem ok_impl_IsContract : FnOk Try.prog 27 16 c_impl_IsContract r_impl_IsContract := ⟨⟨Try.f27, _, Try.func27, by kernel_rfl, rfl, rfl, by kernel_rfl, by kernel_rfl⟩⟩
def c_spec_SalesOf : ACode := .seq (.reg [⟨(some 2), .box 27 (.tmp 0), none⟩,
  ⟨(some 4), .mv (.const (.int .i64 0)), none⟩,
  ⟨(some 5), .mv (.const (.bool false)), none⟩])
 (.seq (.seq (.reg [⟨(some 6), .ld (some 4) (.tmp 2), none⟩,
  ⟨(some 7), .call (.func 69) [(.tmp 6)], none⟩,
  ⟨(some 8), .un .not (.tmp 7), none⟩,
  ⟨(some 9), .mv (.tmp 8), none⟩,
  ⟨(some 10), .mv (.tmp 1), (some (9, false))⟩,
  ⟨(some 11), .call (.func 75) [(.tmp 10)], (some (9, false))⟩,
  ⟨(some 12), .un .not (.tmp 11), (some (9, false))⟩,
  ⟨(some 13), .pick (.tmp 9) (.const (.bool true)) (.tmp 12), none⟩])
 (.cond (.tmp 13) (.seq (.reg [⟨(some 4), .mv (.const (.int .i64 0)), none⟩,
  ⟨(some 5), .mv (.const (.bool false)), none⟩])
 (.ret)) (.skip)))
 (.seq (.reg [⟨(some 14), .ld (some 4) (.tmp 2), none⟩,
  ⟨(some 15), .mv (.tmp 1), none⟩,
  ⟨(some 16), .call (.func 76) [(.tmp 14), (.tmp 15)], none⟩,
  ⟨(some 4), .mv (.tmp 16), none⟩,
  ⟨(some 5), .mv (.const (.bool true)), none⟩])
 (.ret)))
def r_spec_SalesOf : List ARes := [.tmp 4, .tmp 5]
theorem ok_spec_SalesOf : FnOk Try.prog 28 17 c_spec_SalesOf r_spec_SalesOf := ⟨⟨Try.f28, _, Try.func28, by kernel_rfl, rfl, rfl, by kernel_rfl, by kernel_rfl⟩⟩
def c_impl_SalesOf : ACode := .seq (.reg [⟨(some 2), .box 27 (.tmp 0), none⟩,
  ⟨(some 4), .mv (.const (.int .i64 0)), none⟩,
  ⟨(some 5), .mv (.const (.bool false)), none⟩])
 (.seq (.seq (.reg [⟨(some 8), .ld (some 4) (.tmp 2), none⟩,
  ⟨(some 9), .call (.func 23) [(.tmp 8)], none⟩,
  ⟨(some 10), .un .not (.tmp 9), none⟩,
  ⟨(some 11), .mv (.tmp 10), none⟩,
  ⟨(some 12), .mv (.tmp 1), (some (11, false))⟩,
  ⟨(some 13), .call (.func 77) [(.tmp 12)], (some (11, false))⟩,
  ⟨(some 14), .un .not (.tmp 13), (some (11, false))⟩,
  ⟨(some 15), .pick (.tmp 11) (.const (.bool true)) (.tmp 14), none⟩])
 (.cond (.tmp 15) (.seq (.reg [⟨(some 4), .mv (.const (.int .i64 0)), none⟩,
  ⟨(some 5), .mv (.const (.bool false)), none⟩])
 (.ret)) (.skip)))
 (.seq (.reg [⟨(some 17), .ld (some 4) (.tmp 2), none⟩,
  ⟨(some 18), .mv (.tmp 1), none⟩,
  ⟨(some 19), .call (.func 78) [(.tmp 17), (.tmp 18)], none⟩,
  ⟨(some 16), .mv (.tmp 19), none⟩,
  ⟨(some 20), .ext 0 (.tmp 16), none⟩,
  ⟨(some 21), .ext 1 (.tmp 16), none⟩,
  ⟨(some 6), .mv (.tmp 20), none⟩,
  ⟨(some 7), .mv (.tmp 21), none⟩])
 (.seq (.reg [⟨(some 22), .mv (.tmp 6), none⟩,
  ⟨(some 4), .mv (.tmp 22), none⟩,
  ⟨(some 5), .mv (.const (.bool true)), none⟩])
 (.ret))))
def r_impl_SalesOf : List ARes := [.tmp 4, .tmp 5]
theorem ok_impl_SalesOf : FnOk Try.prog 29 23 c_impl_SalesOf r_impl_SalesOf := ⟨⟨Try.f29, _, Try.func29, by kernel_rfl, rfl, rfl, by kernel_rfl, by kernel_rfl⟩⟩
def c_spec_SellerProfit : ACode := .seq (.reg [⟨(some 3), .box 27 (.tmp 0), none⟩,
  ⟨(some 4), .box 34 (.tmp 1), none⟩,
  ⟨(some 6), .mv (.const (.int .i64 0)), none⟩,
  ⟨(some 7), .mv (.const (.bool false)), none⟩])
 (.seq (.seq (.reg [⟨(some 8), .ld (some 4) (.tmp 3), none⟩,
  ⟨(some 9), .ld (some 3) (.tmp 4), none⟩,
  ⟨(some 10), .call (.func 79) [(.tmp 8), (.tmp 9)], none⟩,
  ⟨(some 11), .un .not (.tmp 10), none⟩,
  ⟨(some 12), .mv (.tmp 11), none⟩,
  ⟨(some 13), .mv (.tmp 2), (some (12, false))⟩,
  ⟨(some 14), .call (.func 75) [(.tmp 13)], (some (12, false))⟩,
  ⟨(some 15), .un .not (.tmp 14), (some (12, false))⟩,
  ⟨(some 16), .pick (.tmp 12) (.const (.bool true)) (.tmp 15), none⟩])
 (.cond (.tmp 16) (.seq (.reg [⟨(some 6), .mv (.const (.int .i64 0)), none⟩,
  ⟨(some 7), .mv (.const (.bool false)), none⟩])
 (.ret)) (.skip)))
 (.seq (.reg [⟨(some 17), .ld (some 4) (.tmp 3), none⟩,
  ⟨(some 18), .ld (some 3) (.tmp 4), none⟩,
  ⟨(some 19), .mv (.tmp 2), none⟩,
  ⟨(some 20), .call (.func 80) [(.tmp 17), (.tmp 18), (.tmp 19)], none⟩,
  ⟨(some 6), .mv (.tmp 20), none⟩,
  ⟨(some 7), .mv (.const (.bool true)), none⟩])
 (.ret)))
def r_spec_SellerProfit : List ARes := [.tmp 6, .tmp 7]
theorem ok_spec_SellerProfit : FnOk Try.prog 30 21 c_spec_SellerProfit r_spec_SellerProfit := ⟨⟨Try.f30, _, Try.func30, by kernel_rfl, rfl, rfl, by kernel_rfl, by kernel_rfl⟩⟩
def c_impl_SellerProfit : ACode := .seq (.reg [⟨(some 3), .box 27 (.tmp 0), none⟩,
  ⟨(some 4), .box 34 (.tmp 1), none⟩,
  ⟨(some 6), .mv (.const (.int .i64 0)), none⟩,
  ⟨(some 7), .mv (.const (.bool false)), none⟩])
 (.seq (.seq (.reg [⟨(some 10), .ld (some 4) (.tmp 3), none⟩,
  ⟨(some 11), .ld (some 3) (.tmp 4), none⟩,
  ⟨(some 12), .call (.func 81) [(.tmp 10), (.tmp 11)], none⟩,
  ⟨(some 13), .un .not (.tmp 12), none⟩,
  ⟨(some 14), .mv (.tmp 13), none⟩,
  ⟨(some 15), .mv (.tmp 2), (some (14, false))⟩,
  ⟨(some 16), .call (.func 77) [(.tmp 15)], (some (14, false))⟩,
  ⟨(some 17), .un .not (.tmp 16), (some (14, false))⟩,
  ⟨(some 18), .pick (.tmp 14) (.const (.bool true)) (.tmp 17), none⟩])
 (.cond (.tmp 18) (.seq (.reg [⟨(some 6), .mv (.const (.int .i64 0)), none⟩,
  ⟨(some 7), .mv (.const (.bool false)), none⟩])
 (.ret)) (.skip)))
 (.seq (.reg [⟨(some 20), .ld (some 4) (.tmp 3), none⟩,
  ⟨(some 21), .ld (some 3) (.tmp 4), none⟩,
  ⟨(some 22), .mv (.tmp 2), none⟩,
  ⟨(some 23), .call (.func 82) [(.tmp 20), (.tmp 21), (.tmp 22)], none⟩,
  ⟨(some 19), .mv (.tmp 23), none⟩,
  ⟨(some 24), .ext 0 (.tmp 19), none⟩,
  ⟨(some 25), .ext 1 (.tmp 19), none⟩,
  ⟨(some 8), .mv (.tmp 24), none⟩,
  ⟨(some 9), .mv (.tmp 25), none⟩])
 (.seq (.reg [⟨(some 26), .mv (.tmp 8), none⟩,
  ⟨(some 6), .mv (.tmp 26), none⟩,
  ⟨(some 7), .mv (.const (.bool true)), none⟩])
 (.ret))))
def r_impl_SellerProfit : List ARes := [.tmp 6, .tmp 7]
theorem ok_impl_SellerProfit : FnOk Try.prog 31 27 c_impl_SellerProfit r_impl_SellerProfit := ⟨⟨Try.f31, _, Try.func31, by kernel_rfl, rfl, rfl, by kernel_rfl, by kernel_rfl⟩⟩
def c_spec_MakerProfit : ACode := .seq (.reg [⟨(some 3), .box 27 (.tmp 0), none⟩,
  ⟨(some 4), .box 34 (.tmp 1), none⟩,
  ⟨(some 6), .mv (.const (.int .i64 0)), none⟩,
  ⟨(some 7), .mv (.const (.bool false)), none⟩])
 (.seq (.seq (.reg [⟨(some 8), .ld (some 4) (.tmp 3), none⟩,
  ⟨(some 9), .ld (some 3) (.tmp 4), none⟩,
  ⟨(some 10), .call (.func 79) [(.tmp 8), (.tmp 9)], none⟩,
  ⟨(some 11), .un .not (.tmp 10), none⟩,
  ⟨(some 12), .mv (.tmp 11), none⟩,
  ⟨(some 13), .mv (.tmp 2), (some (12, false))⟩,
  ⟨(some 14), .call (.func 75) [(.tmp 13)], (some (12, false))⟩,
  ⟨(some 15), .un .not (.tmp 14), (some (12, false))⟩,
  ⟨(some 16), .pick (.tmp 12) (.const (.bool true)) (.tmp 15), none⟩])
 (.cond (.tmp 16) (.seq (.reg [⟨(some 6), .mv (.const (.int .i64 0)), none⟩,
  ⟨(some 7), .mv (.const (.bool false)), none⟩])
 (.ret)) (.skip)))
 (.seq (.reg [⟨(some 17), .ld (some 4) (.tmp 3), none⟩,
  ⟨(some 18), .ld (some 3) (.tmp 4), none⟩,
  ⟨(some 19), .mv (.tmp 2), none⟩,
  ⟨(some 20), .call (.func 83) [(.tmp 17), (.tmp 18), (.tmp 19)], none⟩,
  ⟨(some 6), .mv (.tmp 20), none⟩,
  ⟨(some 7), .mv (.const (.bool true)), none⟩])
 (.ret)))
def r_spec_MakerProfit : List ARes := [.tmp 6, .tmp 7]
theorem ok_spec_MakerProfit : FnOk Try.prog 32 21 c_spec_MakerProfit r_spec_MakerProfit := ⟨⟨Try.f32, _, Try.func32, by kernel_rfl, rfl, rfl, by kernel_rfl, by kernel_rfl⟩⟩
def c_impl_MakerProfit : ACode := .seq (.reg [⟨(some 3), .box 27 (.tmp 0), none⟩,
  ⟨(some 4), .box 34 (.tmp 1), none⟩,
  ⟨(some 6), .mv (.const (.int .i64 0)), none⟩,
  ⟨(some 7), .mv (.const (.bool false)), none⟩])
 (.seq (.seq (.reg [⟨(some 10), .ld (some 4) (.tmp 3), none⟩,
  ⟨(some 11), .ld (some 3) (.tmp 4), none⟩,
  ⟨(some 12), .call (.func 81) [(.tmp 10), (.tmp 11)], none⟩,
  ⟨(some 13), .un .not (.tmp 12), none⟩,
  ⟨(some 14), .mv (.tmp 13), none⟩,
  ⟨(some 15), .mv (.tmp 2), (some (14, false))⟩,
  ⟨(some 16), .call (.func 77) [(.tmp 15)], (some (14, false))⟩,
  ⟨(some 17), .un .not (.tmp 16), (some (14, false))⟩,
  ⟨(some 18), .pick (.tmp 14) (.const (.bool true)) (.tmp 17), none⟩])
 (.cond (.tmp 18) (.seq (.reg [⟨(some 6), .mv (.const (.int .i64 0)), none⟩,
  ⟨(some 7), .mv (.const (.bool false)), none⟩])
 (.ret)) (.skip)))
 (.seq (.reg [⟨(some 20), .ld (some 4) (.tmp 3), none⟩,
  ⟨(some 21), .ld (some 3) (.tmp 4), none⟩,
  ⟨(some 22), .mv (.tmp 2), none⟩,
  ⟨(some 23), .call (.func 82) [(.tmp 20), (.tmp 21), (.tmp 22)], none⟩,
  ⟨(some 19), .mv (.tmp 23), none⟩,
  ⟨(some 24), .ext 0 (.tmp 19), none⟩,
  ⟨(some 25), .ext 1 (.tmp 19), none⟩,
  ⟨(some 8), .mv (.tmp 24), none⟩,
  ⟨(some 9), .mv (.tmp 25), none⟩])
 (.seq (.reg [⟨(some 26), .mv (.tmp 9), none⟩,
  ⟨(some 6), .mv (.tmp 26), none⟩,
  ⟨(some 7), .mv (.const (.bool true)), none⟩])
 (.ret))))
def r_impl_MakerProfit : List ARes := [.tmp 6, .tmp 7]
theorem ok_impl_MakerProfit : FnOk Try.prog 33 27 c_impl_MakerProfit r_impl_MakerProfit := ⟨⟨Try.f33, _, Try.func33, by kernel_rfl, rfl, rfl, by kernel_rfl, by kernel_rfl⟩⟩
def c_spec_JointProfit : ACode := .seq (.reg [⟨(some 2), .box 27 (.tmp 0), none⟩,
  ⟨(some 4), .mv (.const (.int .i64 0)), none⟩,
  ⟨(some 5), .mv (.const (.bool false)), none⟩])
 (.seq (.seq (.reg [⟨(some 6), .ld (some 4) (.tmp 2), none⟩,
  ⟨(some 7), .call (.func 69) [(.tmp 6)], none⟩,
  ⟨(some 8), .un .not (.tmp 7), none⟩,
  ⟨(some 9), .mv (.tmp 8), none⟩,
  ⟨(some 10), .mv (.tmp 1), (some (9, false))⟩,
  ⟨(some 11), .call (.func 75) [(.tmp 10)], (some (9, false))⟩,
  ⟨(some 12), .un .not (.tmp 11), (some (9, false))⟩,
  ⟨(some 13), .pick (.tmp 9) (.const (.bool true)) (.tmp 12), none⟩])
 (.cond (.tmp 13) (.seq (.reg [⟨(some 4), .mv (.const (.int .i64 0)), none⟩,
  ⟨(some 5), .mv (.const (.bool false)), none⟩])
 (.ret)) (.skip)))
 (.seq (.reg [⟨(some 14), .ld (some 4) (.tmp 2), none⟩,
  ⟨(some 15), .mv (.tmp 1), none⟩,
  ⟨(some 16), .call (.func 84) [(.tmp 14), (.tmp 15)], none⟩,
  ⟨(some 4), .mv (.tmp 16), none⟩,
  ⟨(some 5), .mv (.const (.bool true)), none⟩])
 (.ret)))
def r_spec_JointProfit : List ARes := [.tmp 4, .tmp 5]
theorem ok_spec_JointProfit : FnOk Try.prog 34 17 c_spec_JointProfit r_spec_JointProfit := ⟨⟨Try.f34, _, Try.func34, by kernel_rfl, rfl, rfl, by kernel_rfl, by kernel_rfl⟩⟩
def c_impl_JointProfit : ACode := .seq (.reg [⟨(some 2), .box 27 (.tmp 0), none⟩,
  ⟨(some 4), .mv (.const (.int .i64 0)), none⟩,
  ⟨(some 5), .mv (.const (.bool false)), none⟩])
 (.seq (.seq (.reg [⟨(some 6), .ld (some 4) (.tmp 2), none⟩,
  ⟨(some 7), .call (.func 23) [(.tmp 6)], none⟩,
  ⟨(some 8), .un .not (.tmp 7), none⟩,
  ⟨(some 9), .mv (.tmp 8), none⟩,
  ⟨(some 10), .mv (.tmp 1), (some (9, false))⟩,
  ⟨(some 11), .call (.func 77) [(.tmp 10)], (some (9, false))⟩,
  ⟨(some 12), .un .not (.tmp 11), (some (9, false))⟩,
  ⟨(some 13), .pick (.tmp 9) (.const (.bool true)) (.tmp 12), none⟩])
 (.cond (.tmp 13) (.seq (.reg [⟨(some 4), .mv (.const (.int .i64 0)), none⟩,
  ⟨(some 5), .mv (.const (.bool false)), none⟩])
 (.ret)) (.skip)))
 (.seq (.reg [⟨(some 14), .ld (some 4) (.tmp 2), none⟩,
  ⟨(some 15), .mv (.tmp 1), none⟩,
  ⟨(some 16), .call (.func 85) [(.tmp 14), (.tmp 15)], none⟩,
  ⟨(some 4), .mv (.tmp 16), none⟩,
  ⟨(some 5), .mv (.const (.bool true)), none⟩])
 (.ret)))
def r_impl_JointProfit : List ARes := [.tmp 4, .tmp 5]
theorem ok_impl_JointProfit : FnOk Try.prog 35 17 c_impl_JointProfit r_impl_JointProfit := ⟨⟨Try.f35, _, Try.func35, by kernel_rfl, rfl, rfl, by kernel_rfl, by kernel_rfl⟩⟩
def c_spec_JointProfits : ACode := .seq (.reg [⟨(some 1), .box 27 (.tmp 0), none⟩,
  ⟨(some 2), .mv (.const (.slice none 0 0)), none⟩,
  ⟨(some 3), .mv (.const (.bool false)), none⟩])
 (.seq (.reg [⟨(some 6), .bsl 3 1 0 [] [], none⟩,
  ⟨(some 4), .mv (.tmp 6), none⟩])
 (.seq (.seq (.reg [⟨(some 7), .ld (some 4) (.tmp 1), none⟩,
  ⟨(some 8), .call (.func 69) [(.tmp 7)], none⟩,
  ⟨(some 9), .un .not (.tmp 8), none⟩])
 (.cond (.tmp 9) (.seq (.reg [⟨(some 10), .mv (.tmp 4), none⟩,
  ⟨(some 2), .mv (.tmp 10), none⟩,
  ⟨(some 3), .mv (.const (.bool false)), none⟩])
 (.ret)) (.skip)))
 (.seq (.seq (.reg [⟨(some 5), .mv (.const (.int .i64 0)), none⟩])
 (.block 0 (.loop (.seq (.seq (.reg [⟨(some 11), .mv (.tmp 5), none⟩,
  ⟨(some 12), .bin .leq (.tmp 11) (.const (.int .i64 8)), none⟩])
 (.cond (.tmp 12) (.skip) (.exit 0)))
 (.seq (.block 1 (.reg [⟨(some 15), .mv (.tmp 4), none⟩,
  ⟨(some 16), .ld (some 4) (.tmp 1), none⟩,
  ⟨(some 17), .mv (.tmp 5), none⟩,
  ⟨(some 18), .call (.func 84) [(.tmp 16), (.tmp 17)], none⟩,
  ⟨(some 19), .bsl 3 1 1 [(.int .i64 0)] [(0, 1, (.tmp 18))], none⟩,
  ⟨(some 20), .app 3 1 8 (.tmp 15) (.tmp 19), none⟩,
  ⟨(some 4), .mv (.tmp 20), none⟩]))
 (.reg [⟨(some 13), .mv (.tmp 5), none⟩,
  ⟨(some 14), .bin .add (.tmp 13) (.const (.int .i64 1)), none⟩,
  ⟨(some 5), .mv (.tmp 14), none⟩]))))))
 (.seq (.reg [⟨(some 21), .mv (.tmp 4), none⟩,
  ⟨(some 2), .mv (.tmp 21), none⟩,
  ⟨(some 3), .mv (.const (.bool true)), none⟩])
 (.ret)))))
def r_spec_JointProfits : List ARes := [.tmp 2, .tmp 3]
theorem ok_spec_JointProfits : FnOk Try.prog 36 22 c_spec_JointProfits r_spec_JointProfits := ⟨⟨Try.f36, _, Try.func36, by kernel_rfl, rfl, rfl, by kernel_rfl, by kernel_rfl⟩⟩
def c_impl_JointProfits : ACode := .seq (.reg [⟨(some 1), .box 27 (.tmp 0), none⟩,
  ⟨(some 2), .mv (.const (.slice none 0 0)), none⟩,
  ⟨(some 3), .mv (.const (.bool false)), none⟩])
 (.seq (.seq (.reg [⟨(some 4), .ld (some 4) (.tmp 1), none⟩,
  ⟨(some 5), .call (.func 23) [(.tmp 4)], none⟩,
  ⟨(some 6), .un .not (.tmp 5), none⟩])
 (.cond (.tmp 6) (.seq (.reg [⟨(some 7), .bsl 3 1 0 [] [], none⟩,
  ⟨(some 2), .mv (.tmp 7), none⟩,
  ⟨(some 3), .mv (.const (.bool false)), none⟩])
 (.ret)) (.skip)))
 (.seq (.reg [⟨(some 8), .ld (some 4) (.tmp 1), none⟩,
  ⟨(some 9), .call (.func 86) [(.tmp 8)], none⟩,
  ⟨(some 2), .mv (.tmp 9), none⟩,
  ⟨(some 3), .mv (.const (.bool true)), none⟩])
 (.ret)))
def r_impl_JointProfits : List ARes := [.tmp 2, .tmp 3]
theorem ok_impl_JointProfits : FnOk Try.prog 37 10 c_impl_JointProfits r_impl_JointProfits := ⟨⟨Try.f37, _, Try.func37, by kernel_rfl, rfl, rfl, by kernel_rfl, by kernel_rfl⟩⟩
def c_spec_JointOrder : ACode := .seq (.reg [⟨(some 1), .box 27 (.tmp 0), none⟩,
  ⟨(some 2), .mv (.const (.int .i64 0)), none⟩,
  ⟨(some 3), .mv (.const (.bool false)), none⟩])
 (.seq (.seq (.reg [⟨(some 4), .ld (some 4) (.tmp 1), none⟩,
  ⟨(some 5), .call (.func 69) [(.tmp 4)], none⟩,
  ⟨(some 6), .un .not (.tmp 5), none⟩])
 (.cond (.tmp 6) (.seq (.reg [⟨(some 2), .mv (.const (.int .i64 0)), none⟩,
  ⟨(some 3), .mv (.const (.bool false)), none⟩])
 (.ret)) (.skip)))
 (.seq (.reg [⟨(some 7), .ld (some 4) (.tmp 1), none⟩,
  ⟨(some 8), .call (.func 87) [(.tmp 7)], none⟩,
  ⟨(some 2), .mv (.tmp 8), none⟩,
  ⟨(some 3), .mv (.const (.bool true)), none⟩])
 (.ret)))
def r_spec_JointOrder : List ARes := [.tmp 2, .tmp 3]
theorem ok_spec_JointOrder : FnOk Try.prog 42 9 c_spec_JointOrder r_spec_JointOrder := ⟨⟨Try.f42, _, Try.func42, by kernel_rfl, rfl, rfl, by kernel_rfl, by kernel_rfl⟩⟩
def c_impl_JointOrder : ACode := .seq (.reg [⟨(some 1), .box 27 (.tmp 0), none⟩,
  ⟨(some 2), .mv (.const (.int .i64 0)), none⟩,
  ⟨(some 3), .mv (.const (.bool false)), none⟩])
 (.seq (.seq (.reg [⟨(some 6), .ld (some 4) (.tmp 1), none⟩,
  ⟨(some 7), .call (.func 23) [(.tmp 6)], none⟩,
  ⟨(some 8), .un .not (.tmp 7), none⟩])
 (.cond (.tmp 8) (.seq (.reg [⟨(some 2), .mv (.const (.int .i64 0)), none⟩,
  ⟨(some 3), .mv (.const (.bool false)), none⟩])
 (.ret)) (.skip)))
 (.seq (.reg [⟨(some 10), .ld (some 4) (.tmp 1), none⟩,
  ⟨(some 11), .call (.func 86) [(.tmp 10)], none⟩,
  ⟨(some 12), .call (.func 88) [(.tmp 11)], none⟩,
  ⟨(some 9), .mv (.tmp 12), none⟩,
  ⟨(some 13), .ext 0 (.tmp 9), none⟩,
  ⟨(some 14), .ext 1 (.tmp 9), none⟩,
  ⟨(some 4), .mv (.tmp 13), none⟩,
  ⟨(some 5), .mv (.tmp 14), none⟩])
 (.seq (.reg [⟨(some 15), .mv (.tmp 4), none⟩,
  ⟨(some 2), .mv (.tmp 15), none⟩,
  ⟨(some 3), .mv (.const (.bool true)), none⟩])
 (.ret))))
def r_impl_JointOrder : List ARes := [.tmp 2, .tmp 3]
theorem ok_impl_JointOrder : FnOk Try.prog 43 16 c_impl_JointOrder r_impl_JointOrder := ⟨⟨Try.f43, _, Try.func43, by kernel_rfl, rfl, rfl, by kernel_rfl, by kernel_rfl⟩⟩
def c_spec_QuotientOrder : ACode := .seq (.reg [⟨(some 1), .box 27 (.tmp 0), none⟩,
  ⟨(some 2), .mv (.const (.int .i64 0)), none⟩,
  ⟨(some 3), .mv (.const (.bool false)), none⟩])
 (.seq (.seq (.reg [⟨(some 6), .ld (some 4) (.tmp 1), none⟩,
  ⟨(some 7), .call (.func 69) [(.tmp 6)], none⟩,
  ⟨(some 8), .un .not (.tmp 7), none⟩,
  ⟨(some 9), .mv (.tmp 8), none⟩,
  ⟨(some 10), .fad 1 (.tmp 1), (some (9, false))⟩,
  ⟨(some 11), .ld none (.tmp 10), (some (9, false))⟩,
  ⟨(some 12), .fad 3 (.tmp 1), (some (9, false))⟩,
  ⟨(some 13), .ld none (.tmp 12), (some (9, false))⟩,
  ⟨(some 14), .bin .eql (.tmp 11) (.tmp 13), (some (9, false))⟩,
  ⟨(some 15), .pick (.tmp 9) (.const (.bool true)) (.tmp 14), none⟩])
 (.cond (.tmp 15) (.seq (.reg [⟨(some 2), .mv (.const (.int .i64 0)), none⟩,
  ⟨(some 3), .mv (.const (.bool false)), none⟩])
 (.ret)) (.skip)))
 (.seq (.reg [⟨(some 16), .fad 0 (.tmp 1), none⟩,
  ⟨(some 17), .ld none (.tmp 16), none⟩,
  ⟨(some 18), .iad 1 (.tmp 17) (.const (.int .i64 0)), none⟩,
  ⟨(some 19), .ld none (.tmp 18), none⟩,
  ⟨(some 4), .mv (.tmp 19), none⟩,
  ⟨(some 5), .mv (.const (.int .i64 0)), none⟩])
 (.seq (.block 0 (.loop (.seq (.seq (.reg [⟨(some 20), .mv (.tmp 4), none⟩,
  ⟨(some 21), .fad 1 (.tmp 1), none⟩,
  ⟨(some 22), .ld none (.tmp 21), none⟩,
  ⟨(some 23), .fad 3 (.tmp 1), none⟩,
  ⟨(some 24), .ld none (.tmp 23), none⟩,
  ⟨(some 25), .bin .sub (.tmp 22) (.tmp 24), none⟩,
  ⟨(some 26), .bin .mul (.tmp 20) (.tmp 25), none⟩,
  ⟨(some 27), .fad 0 (.tmp 1), none⟩,
  ⟨(some 28), .ld none (.tmp 27), none⟩,
  ⟨(some 30), .fad 1 (.tmp 1), none⟩,
  ⟨(some 31), .ld none (.tmp 30), none⟩,
  ⟨(some 32), .fad 2 (.tmp 1), none⟩,
  ⟨(some 33), .ld none (.tmp 32), none⟩,
  ⟨(some 34), .bin .sub (.tmp 31) (.tmp 33), none⟩,
  ⟨(some 29), .rcall (.func 89) [(.tmp 28)], none⟩,
  ⟨(some 35), .bin .mul (.tmp 29) (.tmp 34), none⟩,
  ⟨(some 36), .bin .lss (.tmp 26) (.tmp 35), none⟩])
 (.cond (.tmp 36) (.skip) (.exit 0)))
 (.block 1 (.seq (.reg [⟨(some 37), .mv (.tmp 5), none⟩,
  ⟨(some 38), .bin .add (.tmp 37) (.const (.int .i64 1)), none⟩,
  ⟨(some 5), .mv (.tmp 38), none⟩])
 (.reg [⟨(some 39), .mv (.tmp 4), none⟩,
  ⟨(some 40), .fad 0 (.tmp 1), none⟩,
  ⟨(some 41), .ld none (.tmp 40), none⟩,
  ⟨(some 42), .mv (.tmp 5), none⟩,
  ⟨(some 43), .iad 1 (.tmp 41) (.tmp 42), none⟩,
  ⟨(some 44), .ld none (.tmp 43), none⟩,
  ⟨(some 45), .bin .add (.tmp 39) (.tmp 44), none⟩,
  ⟨(some 4), .mv (.tmp 45), none⟩]))))))
 (.seq (.reg [⟨(some 46), .mv (.tmp 5), none⟩,
  ⟨(some 2), .mv (.tmp 46), none⟩,
  ⟨(some 3), .mv (.const (.bool true)), none⟩])
 (.ret)))))
def r_spec_QuotientOrder : List ARes := [.tmp 2, .tmp 3]
theorem ok_spec_QuotientOrder : FnOk Try.prog 44 47 c_spec_QuotientOrder r_spec_QuotientOrder := ⟨⟨Try.f44, _, Try.func44, by kernel_rfl, rfl, rfl, by kernel_rfl, by kernel_rfl⟩⟩
def c_impl_QuotientOrder : ACode := .seq (.reg [⟨(some 1), .box 27 (.tmp 0), none⟩,
  ⟨(some 2), .mv (.const (.int .i64 0)), none⟩,
  ⟨(some 3), .mv (.const (.bool false)), none⟩])
 (.seq (.seq (.reg [⟨(some 4), .ld (some 4) (.tmp 1), none⟩,
  ⟨(some 5), .call (.func 23) [(.tmp 4)], none⟩,
  ⟨(some 6), .un .not (.tmp 5), none⟩,
  ⟨(some 7), .mv (.tmp 6), none⟩,
  ⟨(some 8), .fad 1 (.tmp 1), (some (7, false))⟩,
  ⟨(some 9), .ld none (.tmp 8), (some (7, false))⟩,
  ⟨(some 10), .fad 3 (.tmp 1), (some (7, false))⟩,
  ⟨(some 11), .ld none (.tmp 10), (some (7, false))⟩,
  ⟨(some 12), .bin .eql (.tmp 9) (.tmp 11), (some (7, false))⟩,
  ⟨(some 13), .pick (.tmp 7) (.const (.bool true)) (.tmp 12), none⟩])
 (.cond (.tmp 13) (.seq (.reg [⟨(some 2), .mv (.const (.int .i64 0)), none⟩,
  ⟨(some 3), .mv (.const (.bool false)), none⟩])
 (.ret)) (.skip)))
 (.seq (.reg [⟨(some 14), .fad 0 (.tmp 1), none⟩,
  ⟨(some 15), .ld none (.tmp 14), none⟩,
  ⟨(some 16), .fad 2 (.tmp 1), none⟩,
  ⟨(some 17), .ld none (.tmp 16), none⟩,
  ⟨(some 18), .fad 3 (.tmp 1), none⟩,
  ⟨(some 19), .ld none (.tmp 18), none⟩,
  ⟨(some 20), .bin .sub (.tmp 17) (.tmp 19), none⟩,
  ⟨(some 21), .fad 1 (.tmp 1), none⟩,
  ⟨(some 22), .ld none (.tmp 21), none⟩,
  ⟨(some 23), .fad 2 (.tmp 1), none⟩,
  ⟨(some 24), .ld none (.tmp 23), none⟩,
  ⟨(some 25), .bin .sub (.tmp 22) (.tmp 24), none⟩,
  ⟨(some 26), .call (.func 90) [(.tmp 15), (.tmp 20), (.tmp 25)], none⟩,
  ⟨(some 2), .mv (.tmp 26), none⟩,
  ⟨(some 3), .mv (.const (.bool true)), none⟩])
 (.ret)))
def r_impl_QuotientOrder : List ARes := [.tmp 2, .tmp 3]
theorem ok_impl_QuotientOrder : FnOk Try.prog 45 27 c_impl_QuotientOrder r_impl_QuotientOrder := ⟨⟨Try.f45, _, Try.func45, by kernel_rfl, rfl, rfl, by kernel_rfl, by kernel_rfl⟩⟩
def c_spec_SellerOrder : ACode := .seq (.reg [⟨(some 2), .box 27 (.tmp 0), none⟩,
  ⟨(some 3), .box 34 (.tmp 1), none⟩,
  ⟨(some 4), .mv (.const (.int .i64 0)), none⟩,
  ⟨(some 5), .mv (.const (.bool false)), none⟩])
 (.seq (.seq (.reg [⟨(some 6), .ld (some 4) (.tmp 2), none⟩,
  ⟨(some 7), .ld (some 3) (.tmp 3), none⟩,
  ⟨(some 8), .call (.func 79) [(.tmp 6), (.tmp 7)], none⟩,
  ⟨(some 9), .un .not (.tmp 8), none⟩])
 (.cond (.tmp 9) (.seq (.reg [⟨(some 4), .mv (.const (.int .i64 0)), none⟩,
  ⟨(some 5), .mv (.const (.bool false)), none⟩])
 (.ret)) (.skip)))
 (.seq (.reg [⟨(some 10), .ld (some 4) (.tmp 2), none⟩,
  ⟨(some 11), .ld (some 3) (.tmp 3), none⟩,
  ⟨(some 12), .call (.func 91) [(.tmp 10), (.tmp 11)], none⟩,
  ⟨(some 4), .mv (.tmp 12), none⟩,
  ⟨(some 5), .mv (.const (.bool true)), none⟩])
 (.ret)))
def r_spec_SellerOrder : List ARes := [.tmp 4, .tmp 5]
theorem ok_spec_SellerOrder : FnOk Try.prog 46 13 c_spec_SellerOrder r_spec_SellerOrder := ⟨⟨Try.f46, _, Try.func46, by kernel_rfl, rfl, rfl, by kernel_rfl, by kernel_rfl⟩⟩
def c_impl_SellerOrder : ACode := .seq (.reg [⟨(some 2), .box 27 (.tmp 0), none⟩,
  ⟨(some 3), .box 34 (.tmp 1), none⟩,
  ⟨(some 4), .mv (.const (.int .i64 0)), none⟩,
  ⟨(some 5), .mv (.const (.bool false)), none⟩])
 (.seq (.seq (.reg [⟨(some 6), .ld (some 4) (.tmp 2), none⟩,
  ⟨(some 7), .ld (some 3) (.tmp 3), none⟩,
  ⟨(some 8), .call (.func 81) [(.tmp 6), (.tmp 7)], none⟩,
  ⟨(some 9), .un .not (.tmp 8), none⟩])
 (.cond (.tmp 9) (.seq (.reg [⟨(some 4), .mv (.const (.int .i64 0)), none⟩,
  ⟨(some 5), .mv (.const (.bool false)), none⟩])
 (.ret)) (.skip)))
 (.seq (.reg [⟨(some 10), .ld (some 4) (.tmp 2), none⟩,
  ⟨(some 11), .ld (some 3) (.tmp 3), none⟩,
  ⟨(some 12), .call (.func 92) [(.tmp 10), (.tmp 11)], none⟩,
  ⟨(some 4), .mv (.tmp 12), none⟩,
  ⟨(some 5), .mv (.const (.bool true)), none⟩])
 (.ret)))
def r_impl_SellerOrder : List ARes := [.tmp 4, .tmp 5]
theorem ok_impl_SellerOrder : FnOk Try.prog 47 13 c_impl_SellerOrder r_impl_SellerOrder := ⟨⟨Try.f47, _, Try.func47, by kernel_rfl, rfl, rfl, by kernel_rfl, by kernel_rfl⟩⟩
def c_spec_ProfitLoss : ACode := .seq (.reg [⟨(some 2), .box 27 (.tmp 0), none⟩,
  ⟨(some 3), .box 34 (.tmp 1), none⟩,
  ⟨(some 4), .mv (.const (.int .i64 0)), none⟩,
  ⟨(some 5), .mv (.const (.bool false)), none⟩])
 (.seq (.seq (.reg [⟨(some 6), .ld (some 4) (.tmp 2), none⟩,
  ⟨(some 7), .ld (some 3) (.tmp 3), none⟩,
  ⟨(some 8), .call (.func 79) [(.tmp 6), (.tmp 7)], none⟩,
  ⟨(some 9), .un .not (.tmp 8), none⟩])
 (.cond (.tmp 9) (.seq (.reg [⟨(some 4), .mv (.const (.int .i64 0)), none⟩,
  ⟨(some 5), .mv (.const (.bool false)), none⟩])
 (.ret)) (.skip)))
 (.seq (.reg [⟨(some 10), .ld (some 4) (.tmp 2), none⟩,
  ⟨(some 11), .ld (some 3) (.tmp 3), none⟩,
  ⟨(some 12), .call (.func 93) [(.tmp 10), (.tmp 11)], none⟩,
  ⟨(some 4), .mv (.tmp 12), none⟩,
  ⟨(some 5), .mv (.const (.bool true)), none⟩])
 (.ret)))
def r_spec_ProfitLoss : List ARes := [.tmp 4, .tmp 5]
theorem ok_spec_ProfitLoss : FnOk Try.prog 48 13 c_spec_ProfitLoss r_spec_ProfitLoss := ⟨⟨Try.f48, _, Try.func48, by kernel_rfl, rfl, rfl, by kernel_rfl, by kernel_rfl⟩⟩
def c_impl_ProfitLoss : ACode := .seq (.reg [⟨(some 2), .box 27 (.tmp 0), none⟩,
  ⟨(some 3), .box 34 (.tmp 1), none⟩,
  ⟨(some 4), .mv (.const (.int .i64 0)), none⟩,
  ⟨(some 5), .mv (.const (.bool false)), none⟩])
 (.seq (.seq (.reg [⟨(some 6), .ld (some 4) (.tmp 2), none⟩,
  ⟨(some 7), .ld (some 3) (.tmp 3), none⟩,
  ⟨(some 8), .call (.func 81) [(.tmp 6), (.tmp 7)], none⟩,
  ⟨(some 9), .un .not (.tmp 8), none⟩])
 (.cond (.tmp 9) (.seq (.reg [⟨(some 4), .mv (.const (.int .i64 0)), none⟩,
  ⟨(some 5), .mv (.const (.bool false)), none⟩])
 (.ret)) (.skip)))
 (.seq (.reg [⟨(some 10), .ld (some 4) (.tmp 2), none⟩,
  ⟨(some 11), .ld (some 3) (.tmp 3), none⟩,
  ⟨(some 12), .call (.func 94) [(.tmp 10), (.tmp 11)], none⟩,
  ⟨(some 4), .mv (.tmp 12), none⟩,
  ⟨(some 5), .mv (.const (.bool true)), none⟩])
 (.ret)))
def r_impl_ProfitLoss : List ARes := [.tmp 4, .tmp 5]
theorem ok_impl_ProfitLoss : FnOk Try.prog 49 13 c_impl_ProfitLoss r_impl_ProfitLoss := ⟨⟨Try.f49, _, Try.func49, by kernel_rfl, rfl, rfl, by kernel_rfl, by kernel_rfl⟩⟩
def c_spec_IsCoordinated : ACode := .seq (.reg [⟨(some 2), .box 27 (.tmp 0), none⟩,
  ⟨(some 3), .box 34 (.tmp 1), none⟩,
  ⟨(some 4), .mv (.const (.bool false)), none⟩,
  ⟨(some 5), .mv (.const (.bool false)), none⟩])
 (.seq (.seq (.reg [⟨(some 6), .ld (some 4) (.tmp 2), none⟩,
  ⟨(some 7), .ld (some 3) (.tmp 3), none⟩,
  ⟨(some 8), .call (.func 79) [(.tmp 6), (.tmp 7)], none⟩,
  ⟨(some 9), .un .not (.tmp 8), none⟩])
 (.cond (.tmp 9) (.seq (.reg [⟨(some 4), .mv (.const (.bool false)), none⟩,
  ⟨(some 5), .mv (.const (.bool false)), none⟩])
 (.ret)) (.skip)))
 (.seq (.reg [⟨(some 10), .ld (some 4) (.tmp 2), none⟩,
  ⟨(some 11), .ld (some 3) (.tmp 3), none⟩,
  ⟨(some 12), .call (.func 93) [(.tmp 10), (.tmp 11)], none⟩,
  ⟨(some 13), .bin .eql (.tmp 12) (.const (.int .i64 0)), none⟩,
  ⟨(some 4), .mv (.tmp 13), none⟩,
  ⟨(some 5), .mv (.const (.bool true)), none⟩])
 (.ret)))
def r_spec_IsCoordinated : List ARes := [.tmp 4, .tmp 5]
theorem ok_spec_IsCoordinated : FnOk Try.prog 50 14 c_spec_IsCoordinated r_spec_IsCoordinated := ⟨⟨Try.f50, _, Try.func50, by kernel_rfl, rfl, rfl, by kernel_rfl, by kernel_rfl⟩⟩
def c_impl_IsCoordinated : ACode := .seq (.reg [⟨(some 2), .box 27 (.tmp 0), none⟩,
  ⟨(some 3), .box 34 (.tmp 1), none⟩,
  ⟨(some 4), .mv (.const (.bool false)), none⟩,
  ⟨(some 5), .mv (.const (.bool false)), none⟩])
 (.seq (.seq (.reg [⟨(some 6), .ld (some 4) (.tmp 2), none⟩,
  ⟨(some 7), .ld (some 3) (.tmp 3), none⟩,
  ⟨(some 8), .call (.func 81) [(.tmp 6), (.tmp 7)], none⟩,
  ⟨(some 9), .un .not (.tmp 8), none⟩])
 (.cond (.tmp 9) (.seq (.reg [⟨(some 4), .mv (.const (.bool false)), none⟩,
  ⟨(some 5), .mv (.const (.bool false)), none⟩])
 (.ret)) (.skip)))
 (.seq (.reg [⟨(some 10), .ld (some 4) (.tmp 2), none⟩,
  ⟨(some 11), .ld (some 3) (.tmp 3), none⟩,
  ⟨(some 12), .call (.func 94) [(.tmp 10), (.tmp 11)], none⟩,
  ⟨(some 13), .bin .eql (.tmp 12) (.const (.int .i64 0)), none⟩,
  ⟨(some 4), .mv (.tmp 13), none⟩,
  ⟨(some 5), .mv (.const (.bool true)), none⟩])
 (.ret)))
def r_impl_IsCoordinated : List ARes := [.tmp 4, .tmp 5]
theorem ok_impl_IsCoordinated : FnOk Try.prog 51 14 c_impl_IsCoordinated r_impl_IsCoordinated := ⟨⟨Try.f51, _, Try.func51, by kernel_rfl, rfl, rfl, by kernel_rfl, by kernel_rfl⟩⟩
def c_spec_InProportion : ACode := .seq (.reg [⟨(some 2), .box 27 (.tmp 0), none⟩,
  ⟨(some 3), .box 34 (.tmp 1), none⟩,
  ⟨(some 4), .mv (.const (.bool false)), none⟩,
  ⟨(some 5), .mv (.const (.bool false)), none⟩])
 (.seq (.seq (.reg [⟨(some 6), .ld (some 4) (.tmp 2), none⟩,
  ⟨(some 7), .ld (some 3) (.tmp 3), none⟩,
  ⟨(some 8), .call (.func 79) [(.tmp 6), (.tmp 7)], none⟩,
  ⟨(some 9), .un .not (.tmp 8), none⟩])
 (.cond (.tmp 9) (.seq (.reg [⟨(some 4), .mv (.const (.bool false)), none⟩,
  ⟨(some 5), .mv (.const (.bool false)), none⟩])
 (.ret)) (.skip)))
 (.seq (.reg [⟨(some 10), .ld (some 4) (.tmp 2), none⟩,
  ⟨(some 11), .ld (some 3) (.tmp 3), none⟩,
  ⟨(some 12), .call (.func 95) [(.tmp 10), (.tmp 11)], none⟩,
  ⟨(some 4), .mv (.tmp 12), none⟩,
  ⟨(some 5), .mv (.const (.bool true)), none⟩])
 (.ret)))
def r_spec_InProportion : List ARes := [.tmp 4, .tmp 5]
theorem ok_spec_InProportion : FnOk Try.prog 52 13 c_spec_InProportion r_spec_InProportion := ⟨⟨Try.f52, _, Try.func52, by kernel_rfl, rfl, rfl, by kernel_rfl, by kernel_rfl⟩⟩
def c_impl_InProportion : ACode := .seq (.reg [⟨(some 2), .box 27 (.tmp 0), none⟩,
  ⟨(some 3), .box 34 (.tmp 1), none⟩,
  ⟨(some 4), .mv (.const (.bool false)), none⟩,
  ⟨(some 5), .mv (.const (.bool false)), none⟩])
 (.seq (.seq (.reg [⟨(some 6), .ld (some 4) (.tmp 2), none⟩,
  ⟨(some 7), .ld (some 3) (.tmp 3), none⟩,
  ⟨(some 8), .call (.func 81) [(.tmp 6), (.tmp 7)], none⟩,
  ⟨(some 9), .un .not (.tmp 8), none⟩])
 (.cond (.tmp 9) (.seq (.reg [⟨(some 4), .mv (.const (.bool false)), none⟩,
  ⟨(some 5), .mv (.const (.bool false)), none⟩])
 (.ret)) (.skip)))
 (.seq (.reg [⟨(some 10), .ld (some 4) (.tmp 2), none⟩,
  ⟨(some 11), .ld (some 3) (.tmp 3), none⟩,
  ⟨(some 12), .call (.func 96) [(.tmp 10), (.tmp 11)], none⟩,
  ⟨(some 4), .mv (.tmp 12), none⟩,
  ⟨(some 5), .mv (.const (.bool true)), none⟩])
 (.ret)))
def r_impl_InProportion : List ARes := [.tmp 4, .tmp 5]
theorem ok_impl_InProportion : FnOk Try.prog 53 13 c_impl_InProportion r_impl_InProportion := ⟨⟨Try.f53, _, Try.func53, by kernel_rfl, rfl, rfl, by kernel_rfl, by kernel_rfl⟩⟩
def c_spec_PayFor : ACode := .seq (.reg [⟨(some 3), .box 27 (.tmp 0), none⟩,
  ⟨(some 6), .mv (.const (.int .i64 0)), none⟩,
  ⟨(some 7), .mv (.const (.bool false)), none⟩])
 (.seq (.seq (.reg [⟨(some 9), .ld (some 4) (.tmp 3), none⟩,
  ⟨(some 10), .call (.func 69) [(.tmp 9)], none⟩,
  ⟨(some 11), .un .not (.tmp 10), none⟩,
  ⟨(some 12), .mv (.tmp 11), none⟩,
  ⟨(some 13), .mv (.tmp 1), (some (12, false))⟩,
  ⟨(some 14), .call (.func 97) [(.tmp 13), (.const (.int .i64 0)), (.const (.int .i64 99))], (some (12, false))⟩,
  ⟨(some 15), .un .not (.tmp 14), (some (12, false))⟩,
  ⟨(some 16), .pick (.tmp 12) (.const (.bool true)) (.tmp 15), none⟩,
  ⟨(some 17), .mv (.tmp 16), none⟩,
  ⟨(some 18), .mv (.tmp 2), (some (17, false))⟩,
  ⟨(some 19), .call (.func 97) [(.tmp 18), (.const (.int .i64 0)), (.const (.int .i64 100))], (some (17, false))⟩,
  ⟨(some 20), .un .not (.tmp 19), (some (17, false))⟩,
  ⟨(some 21), .pick (.tmp 17) (.const (.bool true)) (.tmp 20), none⟩,
  ⟨(some 22), .mv (.tmp 21), none⟩,
  ⟨(some 23), .fad 1 (.tmp 3), (some (22, false))⟩,
  ⟨(some 24), .ld none (.tmp 23), (some (22, false))⟩,
  ⟨(some 25), .fad 3 (.tmp 3), (some (22, false))⟩,
  ⟨(some 26), .ld none (.tmp 25), (some (22, false))⟩,
  ⟨(some 27), .bin .eql (.tmp 24) (.tmp 26), (some (22, false))⟩,
  ⟨(some 28), .pick (.tmp 22) (.const (.bool true)) (.tmp 27), none⟩])
 (.cond (.tmp 28) (.seq (.reg [⟨(some 6), .mv (.const (.int .i64 0)), none⟩,
  ⟨(some 7), .mv (.const (.bool false)), none⟩])
 (.ret)) (.skip)))
 (.seq (.seq (.reg [⟨(some 8), .mv (.const (.int .i64 0)), none⟩])
 (.block 0 (.loop (.seq (.seq (.reg [⟨(some 29), .mv (.tmp 8), none⟩,
  ⟨(some 30), .bin .leq (.tmp 29) (.const (.int .i64 99)), none⟩])
 (.cond (.tmp 30) (.skip) (.exit 0)))
 (.seq (.block 1 (.seq (.reg [⟨(some 33), .ld (some 4) (.tmp 3), none⟩,
  ⟨(some 34), .mv (.tmp 8), none⟩,
  ⟨(some 35), .mv (.tmp 1), none⟩,
  ⟨(some 36), .mv (.tmp 2), none⟩,
  ⟨(some 37), .bld [(.int .i64 0), (.int .i64 0), (.int .i64 0)] [(0, 1, (.tmp 34)), (1, 1, (.tmp 35)), (2, 1, (.tmp 36))], none⟩,
  ⟨(some 38), .call (.func 95) [(.tmp 33), (.tmp 37)], none⟩])
 (.cond (.tmp 38) (.seq (.reg [⟨(some 39), .mv (.tmp 8), none⟩,
  ⟨(some 6), .mv (.tmp 39), none⟩,
  ⟨(some 7), .mv (.const (.bool true)), none⟩])
 (.ret)) (.skip))))
 (.reg [⟨(some 31), .mv (.tmp 8), none⟩,
  ⟨(some 32), .bin .add (.tmp 31) (.const (.int .i64 1)), none⟩,
  ⟨(some 8), .mv (.tmp 32), none⟩]))))))
 (.seq (.reg [⟨(some 6), .mv (.const (.int .i64 0)), none⟩,
  ⟨(some 7), .mv (.const (.bool false)), none⟩])
 (.ret))))
def r_spec_PayFor : List ARes := [.tmp 6, .tmp 7]
theorem ok_spec_PayFor : FnOk Try.prog 54 40 c_spec_PayFor r_spec_PayFor := ⟨⟨Try.f54, _, Try.func54, by kernel_rfl, rfl, rfl, by kernel_rfl, by kernel_rfl⟩⟩
def c_impl_PayFor : ACode := .seq (.reg [⟨(some 3), .box 27 (.tmp 0), none⟩,
  ⟨(some 6), .mv (.const (.int .i64 0)), none⟩,
  ⟨(some 7), .mv (.const (.bool false)), none⟩])
 (.seq (.seq (.reg [⟨(some 8), .ld (some 4) (.tmp 3), none⟩,
  ⟨(some 9), .mv (.tmp 1), none⟩,
  ⟨(some 10), .mv (.tmp 2), none⟩,
  ⟨(some 11), .bld [(.int .i64 0), (.int .i64 0), (.int .i64 0)] [(1, 1, (.tmp 9)), (2, 1, (.tmp 10))], none⟩,
  ⟨(some 12), .call (.func 81) [(.tmp 8), (.tmp 11)], none⟩,
  ⟨(some 13), .un .not (.tmp 12), none⟩])
 (.cond (.tmp 13) (.seq (.reg [⟨(some 6), .mv (.const (.int .i64 0)), none⟩,
  ⟨(some 7), .mv (.const (.bool false)), none⟩])
 (.ret)) (.skip)))
 (.seq (.reg [⟨(some 14), .ld (some 4) (.tmp 3), none⟩,
  ⟨(some 15), .mv (.tmp 1), none⟩,
  ⟨(some 16), .mv (.tmp 2), none⟩,
  ⟨(some 17), .call (.func 98) [(.tmp 14), (.tmp 15), (.tmp 16)], none⟩,
  ⟨(some 18), .ext 0 (.tmp 17), none⟩,
  ⟨(some 19), .ext 1 (.tmp 17), none⟩,
  ⟨(some 6), .mv (.tmp 18), none⟩,
  ⟨(some 7), .mv (.tmp 19), none⟩])
 (.ret)))
def r_impl_PayFor : List ARes := [.tmp 6, .tmp 7]
theorem ok_impl_PayFor : FnOk Try.prog 55 20 c_impl_PayFor r_impl_PayFor := ⟨⟨Try.f55, _, Try.func55, by kernel_rfl, rfl, rfl, by kernel_rfl, by kernel_rfl⟩⟩
def c_spec_PlainContracts : ACode := .seq (.reg [⟨(some 1), .box 27 (.tmp 0), none⟩,
  ⟨(some 2), .mv (.const (.slice none 0 0)), none⟩,
  ⟨(some 3), .mv (.const (.bool false)), none⟩])
 (.seq (.seq (.reg [⟨(some 4), .ld (some 4) (.tmp 1), none⟩,
  ⟨(some 5), .call (.func 69) [(.tmp 4)], none⟩,
  ⟨(some 6), .un .not (.tmp 5), none⟩])
 (.cond (.tmp 6) (.seq (.reg [⟨(some 7), .bsl 83 2 0 [] [], none⟩,
  ⟨(some 2), .mv (.tmp 7), none⟩,
  ⟨(some 3), .mv (.const (.bool false)), none⟩])
 (.ret)) (.skip)))
 (.seq (.reg [⟨(some 8), .ld (some 4) (.tmp 1), none⟩,
  ⟨(some 9), .call (.func 99) [(.tmp 8)], none⟩,
  ⟨(some 2), .mv (.tmp 9), none⟩,
  ⟨(some 3), .mv (.const (.bool true)), none⟩])
 (.ret)))
def r_spec_PlainContracts : List ARes := [.tmp 2, .tmp 3]
theorem ok_spec_PlainContracts : FnOk Try.prog 56 10 c_spec_PlainContracts r_spec_PlainContracts := ⟨⟨Try.f56, _, Try.func56, by kernel_rfl, rfl, rfl, by kernel_rfl, by kernel_rfl⟩⟩
def c_impl_PlainContracts : ACode := .seq (.reg [⟨(some 1), .box 27 (.tmp 0), none⟩,
  ⟨(some 2), .mv (.const (.slice none 0 0)), none⟩,
  ⟨(some 3), .mv (.const (.bool false)), none⟩])
 (.seq (.seq (.reg [⟨(some 9), .ld (some 4) (.tmp 1), none⟩,
  ⟨(some 10), .call (.func 23) [(.tmp 9)], none⟩,
  ⟨(some 11), .un .not (.tmp 10), none⟩])
 (.cond (.tmp 11) (.seq (.reg [⟨(some 12), .bsl 83 2 0 [] [], none⟩,
  ⟨(some 2), .mv (.tmp 12), none⟩,
  ⟨(some 3), .mv (.const (.bool false)), none⟩])
 (.ret)) (.skip)))
 (.seq (.reg [⟨(some 14), .ld (some 4) (.tmp 1), none⟩,
  ⟨(some 15), .call (.func 100) [(.tmp 14)], none⟩,
  ⟨(some 13), .mv (.tmp 15), none⟩,
  ⟨(some 16), .ext 0 (.tmp 13), none⟩,
  ⟨(some 17), .ext 1 (.tmp 13), none⟩,
  ⟨(some 4), .mv (.tmp 16), none⟩,
  ⟨(some 5), .mv (.tmp 17), none⟩])
 (.seq (.reg [⟨(some 18), .bsl 83 2 0 [] [], none⟩,
  ⟨(some 6), .mv (.tmp 18), none⟩])
 (.seq (.seq (.reg [⟨(some 19), .mv (.tmp 4), none⟩,
  ⟨(some 20), .len (.tmp 19), none⟩,
  ⟨(some 21), .mv (.const (.int .i64 0)), none⟩])
 (.block 0 (.loop (.seq (.reg [⟨(some 22), .bin .lss (.tmp 21) (.tmp 20), none⟩])
 (.seq (.cond (.tmp 22) (.skip) (.exit 0))
 (.seq (.block 1 (.seq (.reg [⟨(some 23), .mv (.tmp 21), none⟩,
  ⟨(some 24), .iad 1 (.tmp 19) (.tmp 21), none⟩,
  ⟨(some 25), .ld none (.tmp 24), none⟩,
  ⟨(some 7), .mv (.tmp 23), none⟩,
  ⟨(some 8), .mv (.tmp 25), none⟩])
 (.reg [⟨(some 26), .mv (.tmp 6), none⟩,
  ⟨(some 27), .mv (.tmp 8), none⟩,
  ⟨(some 28), .mv (.tmp 5), none⟩,
  ⟨(some 29), .mv (.tmp 7), none⟩,
  ⟨(some 30), .iad 1 (.tmp 28) (.tmp 29), none⟩,
  ⟨(some 31), .ld none (.tmp 30), none⟩,
  ⟨(some 32), .bld [(.int .i64 0), (.int .i64 0)] [(0, 1, (.tmp 27)), (1, 1, (.tmp 31))], none⟩,
  ⟨(some 33), .bsl 83 2 1 [(.int .i64 0), (.int .i64 0)] [(0, 2, (.tmp 32))], none⟩,
  ⟨(some 34), .app 83 2 16 (.tmp 26) (.tmp 33), none⟩,
  ⟨(some 6), .mv (.tmp 34), none⟩])))
 (.reg [⟨(some 35), .bin .add (.tmp 21) (.const (.int .i64 1)), none⟩,
  ⟨(some 21), .mv (.tmp 35), none⟩])))))))
 (.seq (.reg [⟨(some 36), .mv (.tmp 6), none⟩,
  ⟨(some 2), .mv (.tmp 36), none⟩,
  ⟨(some 3), .mv (.const (.bool true)), none⟩])
 (.ret))))))
def r_impl_PlainContracts : List ARes := [.tmp 2, .tmp 3]
theorem ok_impl_PlainContracts : FnOk Try.prog 57 37 c_impl_PlainContracts r_impl_PlainContracts := ⟨⟨Try.f57, _, Try.func57, by kernel_rfl, rfl, rfl, by kernel_rfl, by kernel_rfl⟩⟩
def c_spec_BestPlain : ACode := .seq (.reg [⟨(some 1), .box 27 (.tmp 0), none⟩,
  ⟨(some 2), .mv (.const (.int .i64 0)), none⟩,
  ⟨(some 3), .mv (.const (.bool false)), none⟩])
 (.seq (.seq (.reg [⟨(some 7), .ld (some 4) (.tmp 1), none⟩,
  ⟨(some 8), .call (.func 69) [(.tmp 7)], none⟩,
  ⟨(some 9), .un .not (.tmp 8), none⟩])
 (.cond (.tmp 9) (.seq (.reg [⟨(some 2), .mv (.const (.int .i64 0)), none⟩,
  ⟨(some 3), .mv (.const (.bool false)), none⟩])
 (.ret)) (.skip)))
 (.seq (.reg [⟨(some 10), .ld (some 4) (.tmp 1), none⟩,
  ⟨(some 11), .call (.func 99) [(.tmp 10)], none⟩,
  ⟨(some 4), .mv (.tmp 11), none⟩,
  ⟨(some 5), .mv (.const (.int .i64 0)), none⟩])
 (.seq (.seq (.reg [⟨(some 6), .mv (.const (.int .i64 1)), none⟩])
 (.block 0 (.loop (.seq (.seq (.reg [⟨(some 12), .mv (.tmp 6), none⟩,
  ⟨(some 13), .mv (.tmp 4), none⟩,
  ⟨(some 14), .len (.tmp 13), none⟩,
  ⟨(some 15), .bin .lss (.tmp 12) (.tmp 14), none⟩])
 (.cond (.tmp 15) (.skip) (.exit 0)))
 (.seq (.block 1 (.seq (.reg [⟨(some 18), .mv (.tmp 4), none⟩,
  ⟨(some 19), .mv (.tmp 6), none⟩,
  ⟨(some 20), .iad 2 (.tmp 18) (.tmp 19), none⟩,
  ⟨(some 21), .iada 1 2 (.tmp 20) (.const (.int .i64 1)), none⟩,
  ⟨(some 22), .ld none (.tmp 21), none⟩,
  ⟨(some 23), .mv (.tmp 4), none⟩,
  ⟨(some 24), .mv (.tmp 5), none⟩,
  ⟨(some 25), .iad 2 (.tmp 23) (.tmp 24), none⟩,
  ⟨(some 26), .iada 1 2 (.tmp 25) (.const (.int .i64 1)), none⟩,
  ⟨(some 27), .ld none (.tmp 26), none⟩,
  ⟨(some 28), .bin .gtr (.tmp 22) (.tmp 27), none⟩])
 (.cond (.tmp 28) (.reg [⟨(some 29), .mv (.tmp 6), none⟩,
  ⟨(some 5), .mv (.tmp 29), none⟩]) (.skip))))
 (.reg [⟨(some 16), .mv (.tmp 6), none⟩,
  ⟨(some 17), .bin .add (.tmp 16) (.const (.int .i64 1)), none⟩,
  ⟨(some 6), .mv (.tmp 17), none⟩]))))))
 (.seq (.reg [⟨(some 30), .fad 2 (.tmp 1), none⟩,
  ⟨(some 31), .ld none (.tmp 30), none⟩,
  ⟨(some 32), .mv (.tmp 5), none⟩,
  ⟨(some 33), .bin .add (.tmp 31) (.tmp 32), none⟩,
  ⟨(some 2), .mv (.tmp 33), none⟩,
  ⟨(some 3), .mv (.const (.bool true)), none⟩])
 (.ret)))))
def r_spec_BestPlain : List ARes := [.tmp 2, .tmp 3]
theorem ok_spec_BestPlain : FnOk Try.prog 61 34 c_spec_BestPlain r_spec_BestPlain := ⟨⟨Try.f61, _, Try.func61, by kernel_rfl, rfl, rfl, by kernel_rfl, by kernel_rfl⟩⟩
def c_impl_BestPlain : ACode := .seq (.reg [⟨(some 1), .box 27 (.tmp 0), none⟩,
  ⟨(some 2), .mv (.const (.int .i64 0)), none⟩,
  ⟨(some 3), .mv (.const (.bool false)), none⟩])
 (.seq (.seq (.reg [⟨(some 8), .ld (some 4) (.tmp 1), none⟩,
  ⟨(some 9), .call (.func 23) [(.tmp 8)], none⟩,
  ⟨(some 10), .un .not (.tmp 9), none⟩])
 (.cond (.tmp 10) (.seq (.reg [⟨(some 2), .mv (.const (.int .i64 0)), none⟩,
  ⟨(some 3), .mv (.const (.bool false)), none⟩])
 (.ret)) (.skip)))
 (.seq (.reg [⟨(some 12), .ld (some 4) (.tmp 1), none⟩,
  ⟨(some 13), .call (.func 100) [(.tmp 12)], none⟩,
  ⟨(some 11), .mv (.tmp 13), none⟩,
  ⟨(some 14), .ext 0 (.tmp 11), none⟩,
  ⟨(some 15), .ext 1 (.tmp 11), none⟩,
  ⟨(some 4), .mv (.tmp 14), none⟩,
  ⟨(some 5), .mv (.tmp 15), none⟩])
 (.seq (.reg [⟨(some 17), .mv (.tmp 5), none⟩,
  ⟨(some 18), .call (.func 88) [(.tmp 17)], none⟩,
  ⟨(some 16), .mv (.tmp 18), none⟩,
  ⟨(some 19), .ext 0 (.tmp 16), none⟩,
  ⟨(some 20), .ext 1 (.tmp 16), none⟩,
  ⟨(some 6), .mv (.tmp 19), none⟩,
  ⟨(some 7), .mv (.tmp 20), none⟩])
 (.seq (.reg [⟨(some 21), .fad 2 (.tmp 1), none⟩,
  ⟨(some 22), .ld none (.tmp 21), none⟩,
  ⟨(some 23), .mv (.tmp 6), none⟩,
  ⟨(some 24), .bin .add (.tmp 22) (.tmp 23), none⟩,
  ⟨(some 2), .mv (.tmp 24), none⟩,
  ⟨(some 3), .mv (.const (.bool true)), none⟩])
 (.ret)))))
def r_impl_BestPlain : List ARes := [.tmp 2, .tmp 3]
theorem ok_impl_BestPlain : FnOk Try.prog 62 25 c_impl_BestPlain r_impl_BestPlain := ⟨⟨Try.f62, _, Try.func62, by kernel_rfl, rfl, rfl, by kernel_rfl, by kernel_rfl⟩⟩
def c_spec_BackContracts : ACode := .seq (.reg [⟨(some 1), .box 27 (.tmp 0), none⟩,
  ⟨(some 2), .mv (.const (.slice none 0 0)), none⟩,
  ⟨(some 3), .mv (.const (.bool false)), none⟩])
 (.seq (.reg [⟨(some 8), .bsl 34 3 0 [] [], none⟩,
  ⟨(some 4), .mv (.tmp 8), none⟩])
 (.seq (.seq (.reg [⟨(some 9), .ld (some 4) (.tmp 1), none⟩,
  ⟨(some 10), .call (.func 69) [(.tmp 9)], none⟩,
  ⟨(some 11), .un .not (.tmp 10), none⟩])
 (.cond (.tmp 11) (.seq (.reg [⟨(some 12), .mv (.tmp 4), none⟩,
  ⟨(some 2), .mv (.tmp 12), none⟩,
  ⟨(some 3), .mv (.const (.bool false)), none⟩])
 (.ret)) (.skip)))
 (.seq (.seq (.reg [⟨(some 5), .mv (.const (.int .i64 0)), none⟩])
 (.block 0 (.loop (.seq (.seq (.reg [⟨(some 13), .mv (.tmp 5), none⟩,
  ⟨(some 14), .bin .leq (.tmp 13) (.const (.int .i64 99)), none⟩])
 (.cond (.tmp 14) (.skip) (.exit 0)))
 (.seq (.block 1 (.seq (.reg [⟨(some 6), .mv (.const (.int .i64 0)), none⟩])
 (.block 2 (.loop (.seq (.seq (.reg [⟨(some 17), .mv (.tmp 6), none⟩,
  ⟨(some 18), .bin .leq (.tmp 17) (.const (.int .i64 99)), none⟩])
 (.cond (.tmp 18) (.skip) (.exit 2)))
 (.seq (.block 3 (.seq (.reg [⟨(some 21), .mv (.tmp 6), none⟩,
  ⟨(some 22), .mv (.tmp 5), none⟩,
  ⟨(some 23), .bld [(.int .i64 0), (.int .i64 0), (.int .i64 0)] [(0, 1, (.tmp 21)), (1, 1, (.tmp 22)), (2, 1, (.const (.int .i64 100)))], none⟩,
  ⟨(some 7), .alc 34 [(.int .i64 0), (.int .i64 0), (.int .i64 0)], none⟩,
  ⟨none, .st 3 (.tmp 7) (.tmp 23), none⟩])
 (.seq (.reg [⟨(some 24), .ld (some 4) (.tmp 1), none⟩,
  ⟨(some 25), .ld (some 3) (.tmp 7), none⟩,
  ⟨(some 26), .call (.func 95) [(.tmp 24), (.tmp 25)], none⟩])
 (.cond (.tmp 26) (.reg [⟨(some 27), .mv (.tmp 4), none⟩,
  ⟨(some 28), .ld (some 3) (.tmp 7), none⟩,
  ⟨(some 29), .bsl 34 3 1 [(.int .i64 0), (.int .i64 0), (.int .i64 0)] [(0, 3, (.tmp 28))], none⟩,
  ⟨(some 30), .app 34 3 24 (.tmp 27) (.tmp 29), none⟩,
  ⟨(some 4), .mv (.tmp 30), none⟩]) (.skip)))))
 (.reg [⟨(some 19), .mv (.tmp 6), none⟩,
  ⟨(some 20), .bin .add (.tmp 19) (.const (.int .i64 1)), none⟩,
  ⟨(some 6), .mv (.tmp 20), none⟩])))))))
 (.reg [⟨(some 15), .mv (.tmp 5), none⟩,
  ⟨(some 16), .bin .add (.tmp 15) (.const (.int .i64 1)), none⟩,
  ⟨(some 5), .mv (.tmp 16), none⟩]))))))
 (.seq (.reg [⟨(some 31), .mv (.tmp 4), none⟩,
  ⟨(some 2), .mv (.tmp 31), none⟩,
  ⟨(some 3), .mv (.const (.bool true)), none⟩])
 (.ret)))))
def r_spec_BackContracts : List ARes := [.tmp 2, .tmp 3]
theorem ok_spec_BackContracts : FnOk Try.prog 63 32 c_spec_BackContracts r_spec_BackContracts := ⟨⟨Try.f63, _, Try.func63, by kernel_rfl, rfl, rfl, by kernel_rfl, by kernel_rfl⟩⟩
def c_impl_BackContracts : ACode := .seq (.reg [⟨(some 1), .box 27 (.tmp 0), none⟩,
  ⟨(some 2), .mv (.const (.slice none 0 0)), none⟩,
  ⟨(some 3), .mv (.const (.bool false)), none⟩])
 (.seq (.seq (.reg [⟨(some 8), .ld (some 4) (.tmp 1), none⟩,
  ⟨(some 9), .call (.func 23) [(.tmp 8)], none⟩,
  ⟨(some 10), .un .not (.tmp 9), none⟩])
 (.cond (.tmp 10) (.seq (.reg [⟨(some 11), .bsl 34 3 0 [] [], none⟩,
  ⟨(some 2), .mv (.tmp 11), none⟩,
  ⟨(some 3), .mv (.const (.bool false)), none⟩])
 (.ret)) (.skip)))
 (.seq (.reg [⟨(some 12), .bsl 34 3 0 [] [], none⟩,
  ⟨(some 4), .mv (.tmp 12), none⟩])
 (.seq (.seq (.reg [⟨(some 13), .mv (.const (.int .i64 0)), none⟩])
 (.block 0 (.loop (.seq (.reg [⟨(some 14), .bin .lss (.tmp 13) (.const (.int .i64 100)), none⟩])
 (.seq (.cond (.tmp 14) (.skip) (.exit 0))
 (.seq (.block 1 (.seq (.reg [⟨(some 15), .mv (.tmp 13), none⟩,
  ⟨(some 5), .mv (.tmp 15), none⟩])
 (.seq (.reg [⟨(some 17), .ld (some 4) (.tmp 1), none⟩,
  ⟨(some 18), .mv (.tmp 5), none⟩,
  ⟨(some 19), .call (.func 98) [(.tmp 17), (.tmp 18), (.const (.int .i64 100))], none⟩,
  ⟨(some 16), .mv (.tmp 19), none⟩,
  ⟨(some 20), .ext 0 (.tmp 16), none⟩,
  ⟨(some 21), .ext 1 (.tmp 16), none⟩,
  ⟨(some 6), .mv (.tmp 20), none⟩,
  ⟨(some 7), .mv (.tmp 21), none⟩])
 (.seq (.reg [⟨(some 22), .mv (.tmp 7), none⟩])
 (.cond (.tmp 22) (.reg [⟨(some 23), .mv (.tmp 4), none⟩,
  ⟨(some 24), .mv (.tmp 6), none⟩,
  ⟨(some 25), .mv (.tmp 5), none⟩,
  ⟨(some 26), .bld [(.int .i64 0), (.int .i64 0), (.int .i64 0)] [(0, 1, (.tmp 24)), (1, 1, (.tmp 25)), (2, 1, (.const (.int .i64 100)))], none⟩,
  ⟨(some 27), .bsl 34 3 1 [(.int .i64 0), (.int .i64 0), (.int .i64 0)] [(0, 3, (.tmp 26))], none⟩,
  ⟨(some 28), .app 34 3 24 (.tmp 23) (.tmp 27), none⟩,
  ⟨(some 4), .mv (.tmp 28), none⟩]) (.skip))))))
 (.reg [⟨(some 29), .bin .add (.tmp 13) (.const (.int .i64 1)), none⟩,
  ⟨(some 13), .mv (.tmp 29), none⟩])))))))
 (.seq (.reg [⟨(some 30), .mv (.tmp 4), none⟩,
  ⟨(some 2), .mv (.tmp 30), none⟩,
  ⟨(some 3), .mv (.const (.bool true)), none⟩])
 (.ret)))))
def r_impl_BackContracts : List ARes := [.tmp 2, .tmp 3]
theorem ok_impl_BackContracts : FnOk Try.prog 64 31 c_impl_BackContracts r_impl_BackContracts := ⟨⟨Try.f64, _, Try.func64, by kernel_rfl, rfl, rfl, by kernel_rfl, by kernel_rfl⟩⟩
def c_spec_l10Market : ACode := .seq (.reg [⟨(some 1), .box 27 (.tmp 0), none⟩,
  ⟨(some 2), .mv (.const (.bool false)), none⟩])
 (.seq (.reg [⟨(some 3), .fad 0 (.tmp 1), none⟩,
  ⟨(some 4), .ld none (.tmp 3), none⟩,
  ⟨(some 5), .len (.tmp 4), none⟩,
  ⟨(some 6), .call (.func 97) [(.tmp 5), (.const (.int .i64 1)), (.const (.int .i64 9))], none⟩,
  ⟨(some 7), .mv (.tmp 6), none⟩,
  ⟨(some 8), .fad 0 (.tmp 1), (some (7, true))⟩,
  ⟨(some 9), .ld none (.tmp 8), (some (7, true))⟩,
  ⟨(some 10), .fad 0 (.tmp 1), (some (7, true))⟩,
  ⟨(some 11), .ld none (.tmp 10), (some (7, true))⟩,
  ⟨(some 12), .len (.tmp 11), (some (7, true))⟩,
  ⟨(some 13), .call (.func 103) [(.tmp 9), (.tmp 12), (.const (.int .i64 4))], (some (7, true))⟩,
  ⟨(some 14), .pick (.tmp 7) (.tmp 13) (.const (.bool false)), none⟩,
  ⟨(some 15), .mv (.tmp 14), none⟩,
  ⟨(some 16), .fad 0 (.tmp 1), (some (15, true))⟩,
  ⟨(some 17), .ld none (.tmp 16), (some (15, true))⟩,
  ⟨(some 18), .call (.func 89) [(.tmp 17)], (some (15, true))⟩,
  ⟨(some 19), .bin .gtr (.tmp 18) (.const (.int .i64 0)), (some (15, true))⟩,
  ⟨(some 20), .pick (.tmp 15) (.tmp 19) (.const (.bool false)), none⟩,
  ⟨(some 21), .mv (.tmp 20), none⟩,
  ⟨(some 22), .fad 1 (.tmp 1), (some (21, true))⟩,
  ⟨(some 23), .ld none (.tmp 22), (some (21, true))⟩,
  ⟨(some 24), .call (.func 97) [(.tmp 23), (.const (.int .i64 1)), (.const (.int .i64 99))], (some (21, true))⟩,
  ⟨(some 25), .pick (.tmp 21) (.tmp 24) (.const (.bool false)), none⟩,
  ⟨(some 26), .mv (.tmp 25), none⟩,
  ⟨(some 27), .fad 2 (.tmp 1), (some (26, true))⟩,
  ⟨(some 28), .ld none (.tmp 27), (some (26, true))⟩,
  ⟨(some 29), .fad 1 (.tmp 1), (some (26, true))⟩,
  ⟨(some 30), .ld none (.tmp 29), (some (26, true))⟩,
  ⟨(some 31), .call (.func 97) [(.tmp 28), (.const (.int .i64 0)), (.tmp 30)], (some (26, true))⟩,
  ⟨(some 32), .pick (.tmp 26) (.tmp 31) (.const (.bool false)), none⟩,
  ⟨(some 33), .mv (.tmp 32), none⟩,
  ⟨(some 34), .fad 3 (.tmp 1), (some (33, true))⟩,
  ⟨(some 35), .ld none (.tmp 34), (some (33, true))⟩,
  ⟨(some 36), .fad 2 (.tmp 1), (some (33, true))⟩,
  ⟨(some 37), .ld none (.tmp 36), (some (33, true))⟩,
  ⟨(some 38), .call (.func 97) [(.tmp 35), (.const (.int .i64 0)), (.tmp 37)], (some (33, true))⟩,
  ⟨(some 39), .pick (.tmp 33) (.tmp 38) (.const (.bool false)), none⟩,
  ⟨(some 2), .mv (.tmp 39), none⟩])
 (.ret))
def r_spec_l10Market : List ARes := [.tmp 2]
theorem ok_spec_l10Market : FnOk Try.prog 69 40 c_spec_l10Market r_spec_l10Market := ⟨⟨Try.f69, _, Try.func69, by kernel_rfl, rfl, rfl, by kernel_rfl, by kernel_rfl⟩⟩
def c_impl_areWeights : ACode := .seq (.reg [⟨(some 6), .mv (.const (.bool false)), none⟩])
 (.seq (.reg [⟨(some 7), .mv (.tmp 0), none⟩,
  ⟨(some 8), .len (.tmp 7), none⟩,
  ⟨(some 9), .mv (.tmp 1), none⟩,
  ⟨(some 10), .bin .leq (.tmp 8) (.tmp 9), none⟩,
  ⟨(some 11), .mv (.tmp 10), none⟩,
  ⟨(some 12), .mv (.tmp 0), (some (11, true))⟩,
  ⟨(some 13), .mv (.tmp 0), (some (11, true))⟩,
  ⟨(some 14), .len (.tmp 13), (some (11, true))⟩,
  ⟨(some 15), .mv (.tmp 2), (some (11, true))⟩,
  ⟨(some 16), .call (.func 104) [(.tmp 12), (.tmp 14), (.tmp 15)], (some (11, true))⟩,
  ⟨(some 17), .pick (.tmp 11) (.tmp 16) (.const (.bool false)), none⟩,
  ⟨(some 18), .mv (.tmp 17), none⟩,
  ⟨(some 19), .mv (.tmp 0), (some (18, true))⟩,
  ⟨(some 20), .call (.func 105) [(.tmp 19)], (some (18, true))⟩,
  ⟨(some 21), .bin .gtr (.tmp 20) (.const (.int .i64 0)), (some (18, true))⟩,
  ⟨(some 22), .pick (.tmp 18) (.tmp 21) (.const (.bool false)), none⟩,
  ⟨(some 6), .mv (.tmp 22), none⟩])
 (.ret))
def r_impl_areWeights : List ARes := [.tmp 6]
theorem ok_impl_areWeights : FnOk Try.prog 71 23 c_impl_areWeights r_impl_areWeights := ⟨⟨Try.f71, _, Try.func71, by kernel_rfl, rfl, rfl, by kernel_rfl, by kernel_rfl⟩⟩
def c_impl_isCount : ACode := .seq (.reg [⟨(some 4), .mv (.const (.bool false)), none⟩])
 (.seq (.reg [⟨(some 5), .mv (.tmp 0), none⟩,
  ⟨(some 6), .bin .gtr (.tmp 5) (.const (.int .i64 0)), none⟩,
  ⟨(some 7), .mv (.tmp 6), none⟩,
  ⟨(some 8), .mv (.tmp 0), (some (7, true))⟩,
  ⟨(some 9), .mv (.tmp 1), (some (7, true))⟩,
  ⟨(some 10), .call (.func 73) [(.tmp 8), (.tmp 9)], (some (7, true))⟩,
  ⟨(some 11), .pick (.tmp 7) (.tmp 10) (.const (.bool false)), none⟩,
  ⟨(some 4), .mv (.tmp 11), none⟩])
 (.ret))
def r_impl_isCount : List ARes := [.tmp 4]
theorem ok_impl_isCount : FnOk Try.prog 72 12 c_impl_isCount r_impl_isCount := ⟨⟨Try.f72, _, Try.func72, by kernel_rfl, rfl, rfl, by kernel_rfl, by kernel_rfl⟩⟩
def c_impl_isWithin : ACode := .seq (.reg [⟨(some 4), .mv (.const (.bool false)), none⟩])
 (.seq (.reg [⟨(some 5), .mv (.tmp 0), none⟩,
  ⟨(some 6), .bin .geq (.tmp 5) (.const (.int .i64 0)), none⟩,
  ⟨(some 7), .mv (.tmp 6), none⟩,
  ⟨(some 8), .mv (.tmp 0), (some (7, true))⟩,
  ⟨(some 9), .mv (.tmp 1), (some (7, true))⟩,
  ⟨(some 10), .bin .leq (.tmp 8) (.tmp 9), (some (7, true))⟩,
  ⟨(some 11), .pick (.tmp 7) (.tmp 10) (.const (.bool false)), none⟩,
  ⟨(some 4), .mv (.tmp 11), none⟩])
 (.ret))
def r_impl_isWithin : List ARes := [.tmp 4]
theorem ok_impl_isWithin : FnOk Try.prog 73 12 c_impl_isWithin r_impl_isWithin := ⟨⟨Try.f73, _, Try.func73, by kernel_rfl, rfl, rfl, by kernel_rfl, by kernel_rfl⟩⟩
def c_spec_l10Contract : ACode := .seq (.reg [⟨(some 1), .box 34 (.tmp 0), none⟩,
  ⟨(some 2), .mv (.const (.bool false)), none⟩])
 (.seq (.reg [⟨(some 3), .fad 0 (.tmp 1), none⟩,
  ⟨(some 4), .ld none (.tmp 3), none⟩,
  ⟨(some 5), .call (.func 97) [(.tmp 4), (.const (.int .i64 0)), (.const (.int .i64 99))], none⟩,
  ⟨(some 6), .mv (.tmp 5), none⟩,
  ⟨(some 7), .fad 1 (.tmp 1), (some (6, true))⟩,
  ⟨(some 8), .ld none (.tmp 7), (some (6, true))⟩,
  ⟨(some 9), .call (.func 97) [(.tmp 8), (.const (.int .i64 0)), (.const (.int .i64 99))], (some (6, true))⟩,
  ⟨(some 10), .pick (.tmp 6) (.tmp 9) (.const (.bool false)), none⟩,
  ⟨(some 11), .mv (.tmp 10), none⟩,
  ⟨(some 12), .fad 2 (.tmp 1), (some (11, true))⟩,
  ⟨(some 13), .ld none (.tmp 12), (some (11, true))⟩,
  ⟨(some 14), .call (.func 97) [(.tmp 13), (.const (.int .i64 0)), (.const (.int .i64 100))], (some (11, true))⟩,
  ⟨(some 15), .pick (.tmp 11) (.tmp 14) (.const (.bool false)), none⟩,
  ⟨(some 2), .mv (.tmp 15), none⟩])
 (.ret))
def r_spec_l10Contract : List ARes := [.tmp 2]
theorem ok_spec_l10Contract : FnOk Try.prog 74 16 c_spec_l10Contract r_spec_l10Contract := ⟨⟨Try.f74, _, Try.func74, by kernel_rfl, rfl, rfl, by kernel_rfl, by kernel_rfl⟩⟩
def c_spec_l10Order : ACode := .seq (.reg [⟨(some 2), .mv (.const (.bool false)), none⟩])
 (.seq (.reg [⟨(some 3), .mv (.tmp 0), none⟩,
  ⟨(some 4), .call (.func 97) [(.tmp 3), (.const (.int .i64 0)), (.const (.int .i64 8))], none⟩,
  ⟨(some 2), .mv (.tmp 4), none⟩])
 (.ret))
def r_spec_l10Order : List ARes := [.tmp 2]
theorem ok_spec_l10Order : FnOk Try.prog 75 5 c_spec_l10Order r_spec_l10Order := ⟨⟨Try.f75, _, Try.func75, by kernel_rfl, rfl, rfl, by kernel_rfl, by kernel_rfl⟩⟩
def c_spec_l10Sales : ACode := .seq (.reg [⟨(some 2), .box 27 (.tmp 0), none⟩,
  ⟨(some 4), .mv (.const (.int .i64 0)), none⟩])
 (.seq (.reg [⟨(some 5), .mv (.const (.int .i64 0)), none⟩])
 (.seq (.seq (.reg [⟨(some 6), .mv (.const (.int .i64 0)), none⟩])
 (.block 0 (.loop (.seq (.seq (.reg [⟨(some 7), .mv (.tmp 6), none⟩,
  ⟨(some 8), .fad 0 (.tmp 2), none⟩,
  ⟨(some 9), .ld none (.tmp 8), none⟩,
  ⟨(some 10), .len (.tmp 9), none⟩,
  ⟨(some 11), .bin .lss (.tmp 7) (.tmp 10), none⟩])
 (.cond (.tmp 11) (.skip) (.exit 0)))
 (.seq (.block 1 (.reg [⟨(some 14), .mv (.tmp 5), none⟩,
  ⟨(some 15), .fad 0 (.tmp 2), none⟩,
  ⟨(some 16), .ld none (.tmp 15), none⟩,
  ⟨(some 17), .mv (.tmp 6), none⟩,
  ⟨(some 18), .iad 1 (.tmp 16) (.tmp 17), none⟩,
  ⟨(some 19), .ld none (.tmp 18), none⟩,
  ⟨(some 20), .mv (.tmp 1), none⟩,
  ⟨(some 21), .mv (.tmp 6), none⟩,
  ⟨(some 22), .rcall (.func 106) [(.tmp 20), (.tmp 21)], none⟩,
  ⟨(some 23), .bin .mul (.tmp 19) (.tmp 22), none⟩,
  ⟨(some 24), .bin .add (.tmp 14) (.tmp 23), none⟩,
  ⟨(some 5), .mv (.tmp 24), none⟩]))
 (.reg [⟨(some 12), .mv (.tmp 6), none⟩,
  ⟨(some 13), .bin .add (.tmp 12) (.const (.int .i64 1)), none⟩,
  ⟨(some 6), .mv (.tmp 13), none⟩]))))))
 (.seq (.reg [⟨(some 25), .mv (.tmp 5), none⟩,
  ⟨(some 4), .mv (.tmp 25), none⟩])
 (.ret))))
def r_spec_l10Sales : List ARes := [.tmp 4]
theorem ok_spec_l10Sales : FnOk Try.prog 76 26 c_spec_l10Sales r_spec_l10Sales := ⟨⟨Try.f76, _, Try.func76, by kernel_rfl, rfl, rfl, by kernel_rfl, by kernel_rfl⟩⟩
def c_impl_isSalesOrder : ACode := .seq (.reg [⟨(some 2), .mv (.const (.bool false)), none⟩])
 (.seq (.reg [⟨(some 3), .mv (.tmp 0), none⟩,
  ⟨(some 4), .call (.func 73) [(.tmp 3), (.const (.int .i64 8))], none⟩,
  ⟨(some 2), .mv (.tmp 4), none⟩])
 (.ret))
def r_impl_isSalesOrder : List ARes := [.tmp 2]
theorem ok_impl_isSalesOrder : FnOk Try.prog 77 5 c_impl_isSalesOrder r_impl_isSalesOrder := ⟨⟨Try.f77, _, Try.func77, by kernel_rfl, rfl, rfl, by kernel_rfl, by kernel_rfl⟩⟩
def c_impl_salesOf : ACode := .seq (.reg [⟨(some 2), .box 27 (.tmp 0), none⟩,
  ⟨(some 4), .mv (.const (.int .i64 0)), none⟩,
  ⟨(some 5), .mv (.const (.int .i64 0)), none⟩])
 (.seq (.reg [⟨(some 7), .fad 0 (.tmp 2), none⟩,
  ⟨(some 8), .ld none (.tmp 7), none⟩,
  ⟨(some 9), .call (.func 107) [(.tmp 8)], none⟩,
  ⟨(some 10), .mv (.tmp 1), none⟩,
  ⟨(some 11), .call (.func 108) [(.tmp 9), (.tmp 10)], none⟩,
  ⟨(some 6), .mv (.tmp 11), none⟩])
 (.seq (.reg [⟨(some 12), .mv (.tmp 6), none⟩,
  ⟨(some 13), .fad 0 (.tmp 2), none⟩,
  ⟨(some 14), .ld none (.tmp 13), none⟩,
  ⟨(some 15), .call (.func 105) [(.tmp 14)], none⟩,
  ⟨(some 16), .mv (.tmp 1), none⟩,
  ⟨(some 17), .bin .mul (.tmp 15) (.tmp 16), none⟩,
  ⟨(some 18), .mv (.tmp 6), none⟩,
  ⟨(some 19), .bin .sub (.tmp 17) (.tmp 18), none⟩,
  ⟨(some 4), .mv (.tmp 12), none⟩,
  ⟨(some 5), .mv (.tmp 19), none⟩])
 (.ret)))
def r_impl_salesOf : List ARes := [.tmp 4, .tmp 5]
theorem ok_impl_salesOf : FnOk Try.prog 78 20 c_impl_salesOf r_impl_salesOf := ⟨⟨Try.f78, _, Try.func78, by kernel_rfl, rfl, rfl, by kernel_rfl, by kernel_rfl⟩⟩
def c_spec_l10Both : ACode := .seq (.reg [⟨(some 2), .box 27 (.tmp 0), none⟩,
  ⟨(some 3), .box 34 (.tmp 1), none⟩,
  ⟨(some 4), .mv (.const (.bool false)), none⟩])
 (.seq (.reg [⟨(some 5), .ld (some 4) (.tmp 2), none⟩,
  ⟨(some 6), .call (.func 69) [(.tmp 5)], none⟩,
  ⟨(some 7), .mv (.tmp 6), none⟩,
  ⟨(some 8), .ld (some 3) (.tmp 3), (some (7, true))⟩,
  ⟨(some 9), .call (.func 74) [(.tmp 8)], (some (7, true))⟩,
  ⟨(some 10), .pick (.tmp 7) (.tmp 9) (.const (.bool false)), none⟩,
  ⟨(some 4), .mv (.tmp 10), none⟩])
 (.ret))
def r_spec_l10Both : List ARes := [.tmp 4]
theorem ok_spec_l10Both : FnOk Try.prog 79 11 c_spec_l10Both r_spec_l10Both := ⟨⟨Try.f79, _, Try.func79, by kernel_rfl, rfl, rfl, by kernel_rfl, by kernel_rfl⟩⟩
def c_spec_l10Seller : ACode := .seq (.reg [⟨(some 3), .box 27 (.tmp 0), none⟩,
  ⟨(some 4), .box 34 (.tmp 1), none⟩,
  ⟨(some 6), .mv (.const (.int .i64 0)), none⟩])
 (.seq (.reg [⟨(some 9), .ld (some 4) (.tmp 3), none⟩,
  ⟨(some 10), .mv (.tmp 2), none⟩,
  ⟨(some 12), .fad 0 (.tmp 3), none⟩,
  ⟨(some 13), .ld none (.tmp 12), none⟩,
  ⟨(some 15), .mv (.tmp 2), none⟩,
  ⟨(some 11), .rcall (.func 76) [(.tmp 9), (.tmp 10)], none⟩,
  ⟨(some 14), .rcall (.func 89) [(.tmp 13)], none⟩,
  ⟨(some 16), .bin .mul (.tmp 14) (.tmp 15), none⟩,
  ⟨(some 7), .mv (.tmp 11), none⟩,
  ⟨(some 8), .mv (.tmp 16), none⟩])
 (.seq (.reg [⟨(some 17), .fad 2 (.tmp 4), none⟩,
  ⟨(some 18), .ld none (.tmp 17), none⟩,
  ⟨(some 19), .fad 1 (.tmp 3), none⟩,
  ⟨(some 20), .ld none (.tmp 19), none⟩,
  ⟨(some 21), .bin .mul (.tmp 18) (.tmp 20), none⟩,
  ⟨(some 22), .mv (.tmp 7), none⟩,
  ⟨(some 23), .bin .mul (.tmp 21) (.tmp 22), none⟩,
  ⟨(some 24), .fad 3 (.tmp 3), none⟩,
  ⟨(some 25), .ld none (.tmp 24), none⟩,
  ⟨(some 26), .fad 1 (.tmp 4), none⟩,
  ⟨(some 27), .ld none (.tmp 26), none⟩,
  ⟨(some 28), .bin .add (.tmp 25) (.tmp 27), none⟩,
  ⟨(some 29), .mv (.tmp 8), none⟩,
  ⟨(some 30), .mv (.tmp 7), none⟩,
  ⟨(some 31), .bin .sub (.tmp 29) (.tmp 30), none⟩,
  ⟨(some 32), .bin .mul (.tmp 28) (.tmp 31), none⟩,
  ⟨(some 33), .fad 0 (.tmp 4), none⟩,
  ⟨(some 34), .ld none (.tmp 33), none⟩,
  ⟨(some 35), .mv (.tmp 8), none⟩,
  ⟨(some 36), .bin .mul (.tmp 34) (.tmp 35), none⟩,
  ⟨(some 37), .bin .sub (.tmp 32) (.tmp 36), none⟩,
  ⟨(some 38), .bin .mul (.const (.int .i64 100)) (.tmp 37), none⟩,
  ⟨(some 39), .bin .add (.tmp 23) (.tmp 38), none⟩,
  ⟨(some 6), .mv (.tmp 39), none⟩])
 (.ret)))
def r_spec_l10Seller : List ARes := [.tmp 6]
theorem ok_spec_l10Seller : FnOk Try.prog 80 40 c_spec_l10Seller r_spec_l10Seller := ⟨⟨Try.f80, _, Try.func80, by kernel_rfl, rfl, rfl, by kernel_rfl, by kernel_rfl⟩⟩
def c_impl_isAgreed : ACode := .seq (.reg [⟨(some 2), .box 27 (.tmp 0), none⟩,
  ⟨(some 3), .box 34 (.tmp 1), none⟩,
  ⟨(some 4), .mv (.const (.bool false)), none⟩])
 (.seq (.reg [⟨(some 5), .ld (some 4) (.tmp 2), none⟩,
  ⟨(some 6), .call (.func 23) [(.tmp 5)], none⟩,
  ⟨(some 7), .mv (.tmp 6), none⟩,
  ⟨(some 8), .ld (some 3) (.tmp 3), (some (7, true))⟩,
  ⟨(some 9), .call (.func 27) [(.tmp 8)], (some (7, true))⟩,
  ⟨(some 10), .pick (.tmp 7) (.tmp 9) (.const (.bool false)), none⟩,
  ⟨(some 4), .mv (.tmp 10), none⟩])
 (.ret))
def r_impl_isAgreed : List ARes := [.tmp 4]
theorem ok_impl_isAgreed : FnOk Try.prog 81 11 c_impl_isAgreed r_impl_isAgreed := ⟨⟨Try.f81, _, Try.func81, by kernel_rfl, rfl, rfl, by kernel_rfl, by kernel_rfl⟩⟩
def c_impl_profitsOf : ACode := .seq (.reg [⟨(some 3), .box 27 (.tmp 0), none⟩,
  ⟨(some 4), .box 34 (.tmp 1), none⟩,
  ⟨(some 6), .mv (.const (.int .i64 0)), none⟩,
  ⟨(some 7), .mv (.const (.int .i64 0)), none⟩])
 (.seq (.reg [⟨(some 14), .ld (some 4) (.tmp 3), none⟩,
  ⟨(some 15), .mv (.tmp 2), none⟩,
  ⟨(some 16), .call (.func 78) [(.tmp 14), (.tmp 15)], none⟩,
  ⟨(some 13), .mv (.tmp 16), none⟩,
  ⟨(some 17), .ext 0 (.tmp 13), none⟩,
  ⟨(some 18), .ext 1 (.tmp 13), none⟩,
  ⟨(some 8), .mv (.tmp 17), none⟩,
  ⟨(some 9), .mv (.tmp 18), none⟩])
 (.seq (.reg [⟨(some 19), .mv (.tmp 8), none⟩,
  ⟨(some 20), .mv (.tmp 9), none⟩,
  ⟨(some 21), .bin .add (.tmp 19) (.tmp 20), none⟩,
  ⟨(some 10), .mv (.tmp 21), none⟩])
 (.seq (.reg [⟨(some 22), .fad 2 (.tmp 4), none⟩,
  ⟨(some 23), .ld none (.tmp 22), none⟩,
  ⟨(some 24), .fad 1 (.tmp 3), none⟩,
  ⟨(some 25), .ld none (.tmp 24), none⟩,
  ⟨(some 26), .bin .mul (.tmp 23) (.tmp 25), none⟩,
  ⟨(some 27), .mv (.tmp 8), none⟩,
  ⟨(some 28), .bin .mul (.tmp 26) (.tmp 27), none⟩,
  ⟨(some 29), .fad 3 (.tmp 3), none⟩,
  ⟨(some 30), .ld none (.tmp 29), none⟩,
  ⟨(some 31), .fad 1 (.tmp 4), none⟩,
  ⟨(some 32), .ld none (.tmp 31), none⟩,
  ⟨(some 33), .bin .add (.tmp 30) (.tmp 32), none⟩,
  ⟨(some 34), .mv (.tmp 9), none⟩,
  ⟨(some 35), .bin .mul (.tmp 33) (.tmp 34), none⟩,
  ⟨(some 36), .fad 0 (.tmp 4), none⟩,
  ⟨(some 37), .ld none (.tmp 36), none⟩,
  ⟨(some 38), .mv (.tmp 10), none⟩,
  ⟨(some 39), .bin .mul (.tmp 37) (.tmp 38), none⟩,
  ⟨(some 40), .bin .sub (.tmp 35) (.tmp 39), none⟩,
  ⟨(some 41), .bin .mul (.const (.int .i64 100)) (.tmp 40), none⟩,
  ⟨(some 42), .bin .add (.tmp 28) (.tmp 41), none⟩,
  ⟨(some 11), .mv (.tmp 42), none⟩])
 (.seq (.reg [⟨(some 43), .fad 2 (.tmp 4), none⟩,
  ⟨(some 44), .ld none (.tmp 43), none⟩,
  ⟨(some 45), .bin .sub (.const (.int .i64 100)) (.tmp 44), none⟩,
  ⟨(some 46), .fad 1 (.tmp 3), none⟩,
  ⟨(some 47), .ld none (.tmp 46), none⟩,
  ⟨(some 48), .bin .mul (.tmp 45) (.tmp 47), none⟩,
  ⟨(some 49), .mv (.tmp 8), none⟩,
  ⟨(some 50), .bin .mul (.tmp 48) (.tmp 49), none⟩,
  ⟨(some 51), .fad 0 (.tmp 4), none⟩,
  ⟨(some 52), .ld none (.tmp 51), none⟩,
  ⟨(some 53), .fad 2 (.tmp 3), none⟩,
  ⟨(some 54), .ld none (.tmp 53), none⟩,
  ⟨(some 55), .bin .sub (.tmp 52) (.tmp 54), none⟩,
  ⟨(some 56), .mv (.tmp 10), none⟩,
  ⟨(some 57), .bin .mul (.tmp 55) (.tmp 56), none⟩,
  ⟨(some 58), .fad 1 (.tmp 4), none⟩,
  ⟨(some 59), .ld none (.tmp 58), none⟩,
  ⟨(some 60), .mv (.tmp 9), none⟩,
  ⟨(some 61), .bin .mul (.tmp 59) (.tmp 60), none⟩,
  ⟨(some 62), .bin .sub (.tmp 57) (.tmp 61), none⟩,
  ⟨(some 63), .bin .mul (.const (.int .i64 100)) (.tmp 62), none⟩,
  ⟨(some 64), .bin .add (.tmp 50) (.tmp 63), none⟩,
  ⟨(some 12), .mv (.tmp 64), none⟩])
 (.seq (.reg [⟨(some 65), .mv (.tmp 11), none⟩,
  ⟨(some 66), .mv (.tmp 12), none⟩,
  ⟨(some 6), .mv (.tmp 65), none⟩,
  ⟨(some 7), .mv (.tmp 66), none⟩])
 (.ret))))))
def r_impl_profitsOf : List ARes := [.tmp 6, .tmp 7]
theorem ok_impl_profitsOf : FnOk Try.prog 82 67 c_impl_profitsOf r_impl_profitsOf := ⟨⟨Try.f82, _, Try.func82, by kernel_rfl, rfl, rfl, by kernel_rfl, by kernel_rfl⟩⟩
def c_spec_l10Maker : ACode := .seq (.reg [⟨(some 3), .box 27 (.tmp 0), none⟩,
  ⟨(some 4), .box 34 (.tmp 1), none⟩,
  ⟨(some 6), .mv (.const (.int .i64 0)), none⟩])
 (.seq (.reg [⟨(some 9), .ld (some 4) (.tmp 3), none⟩,
  ⟨(some 10), .mv (.tmp 2), none⟩,
  ⟨(some 12), .fad 0 (.tmp 3), none⟩,
  ⟨(some 13), .ld none (.tmp 12), none⟩,
  ⟨(some 15), .mv (.tmp 2), none⟩,
  ⟨(some 11), .rcall (.func 76) [(.tmp 9), (.tmp 10)], none⟩,
  ⟨(some 14), .rcall (.func 89) [(.tmp 13)], none⟩,
  ⟨(some 16), .bin .mul (.tmp 14) (.tmp 15), none⟩,
  ⟨(some 7), .mv (.tmp 11), none⟩,
  ⟨(some 8), .mv (.tmp 16), none⟩])
 (.seq (.reg [⟨(some 17), .fad 2 (.tmp 4), none⟩,
  ⟨(some 18), .ld none (.tmp 17), none⟩,
  ⟨(some 19), .bin .sub (.const (.int .i64 100)) (.tmp 18), none⟩,
  ⟨(some 20), .fad 1 (.tmp 3), none⟩,
  ⟨(some 21), .ld none (.tmp 20), none⟩,
  ⟨(some 22), .bin .mul (.tmp 19) (.tmp 21), none⟩,
  ⟨(some 23), .mv (.tmp 7), none⟩,
  ⟨(some 24), .bin .mul (.tmp 22) (.tmp 23), none⟩,
  ⟨(some 25), .fad 0 (.tmp 4), none⟩,
  ⟨(some 26), .ld none (.tmp 25), none⟩,
  ⟨(some 27), .fad 2 (.tmp 3), none⟩,
  ⟨(some 28), .ld none (.tmp 27), none⟩,
  ⟨(some 29), .bin .sub (.tmp 26) (.tmp 28), none⟩,
  ⟨(some 30), .mv (.tmp 8), none⟩,
  ⟨(some 31), .bin .mul (.tmp 29) (.tmp 30), none⟩,
  ⟨(some 32), .fad 1 (.tmp 4), none⟩,
  ⟨(some 33), .ld none (.tmp 32), none⟩,
  ⟨(some 34), .mv (.tmp 8), none⟩,
  ⟨(some 35), .mv (.tmp 7), none⟩,
  ⟨(some 36), .bin .sub (.tmp 34) (.tmp 35), none⟩,
  ⟨(some 37), .bin .mul (.tmp 33) (.tmp 36), none⟩,
  ⟨(some 38), .bin .sub (.tmp 31) (.tmp 37), none⟩,
  ⟨(some 39), .bin .mul (.const (.int .i64 100)) (.tmp 38), none⟩,
  ⟨(some 40), .bin .add (.tmp 24) (.tmp 39), none⟩,
  ⟨(some 6), .mv (.tmp 40), none⟩])
 (.ret)))
def r_spec_l10Maker : List ARes := [.tmp 6]
theorem ok_spec_l10Maker : FnOk Try.prog 83 41 c_spec_l10Maker r_spec_l10Maker := ⟨⟨Try.f83, _, Try.func83, by kernel_rfl, rfl, rfl, by kernel_rfl, by kernel_rfl⟩⟩
def c_spec_l10Joint : ACode := .seq (.reg [⟨(some 2), .box 27 (.tmp 0), none⟩,
  ⟨(some 4), .mv (.const (.int .i64 0)), none⟩])
 (.seq (.reg [⟨(some 7), .ld (some 4) (.tmp 2), none⟩,
  ⟨(some 8), .mv (.tmp 1), none⟩,
  ⟨(some 10), .fad 0 (.tmp 2), none⟩,
  ⟨(some 11), .ld none (.tmp 10), none⟩,
  ⟨(some 13), .mv (.tmp 1), none⟩,
  ⟨(some 9), .rcall (.func 76) [(.tmp 7), (.tmp 8)], none⟩,
  ⟨(some 12), .rcall (.func 89) [(.tmp 11)], none⟩,
  ⟨(some 14), .bin .mul (.tmp 12) (.tmp 13), none⟩,
  ⟨(some 5), .mv (.tmp 9), none⟩,
  ⟨(some 6), .mv (.tmp 14), none⟩])
 (.seq (.reg [⟨(some 15), .fad 1 (.tmp 2), none⟩,
  ⟨(some 16), .ld none (.tmp 15), none⟩,
  ⟨(some 17), .mv (.tmp 5), none⟩,
  ⟨(some 18), .bin .mul (.tmp 16) (.tmp 17), none⟩,
  ⟨(some 19), .fad 3 (.tmp 2), none⟩,
  ⟨(some 20), .ld none (.tmp 19), none⟩,
  ⟨(some 21), .mv (.tmp 6), none⟩,
  ⟨(some 22), .mv (.tmp 5), none⟩,
  ⟨(some 23), .bin .sub (.tmp 21) (.tmp 22), none⟩,
  ⟨(some 24), .bin .mul (.tmp 20) (.tmp 23), none⟩,
  ⟨(some 25), .bin .add (.tmp 18) (.tmp 24), none⟩,
  ⟨(some 26), .fad 2 (.tmp 2), none⟩,
  ⟨(some 27), .ld none (.tmp 26), none⟩,
  ⟨(some 28), .mv (.tmp 6), none⟩,
  ⟨(some 29), .bin .mul (.tmp 27) (.tmp 28), none⟩,
  ⟨(some 30), .bin .sub (.tmp 25) (.tmp 29), none⟩,
  ⟨(some 31), .bin .mul (.const (.int .i64 100)) (.tmp 30), none⟩,
  ⟨(some 4), .mv (.tmp 31), none⟩])
 (.ret)))
def r_spec_l10Joint : List ARes := [.tmp 4]
theorem ok_spec_l10Joint : FnOk Try.prog 84 32 c_spec_l10Joint r_spec_l10Joint := ⟨⟨Try.f84, _, Try.func84, by kernel_rfl, rfl, rfl, by kernel_rfl, by kernel_rfl⟩⟩
def c_impl_jointProfit : ACode := .seq (.reg [⟨(some 2), .box 27 (.tmp 0), none⟩,
  ⟨(some 4), .mv (.const (.int .i64 0)), none⟩])
 (.seq (.reg [⟨(some 8), .ld (some 4) (.tmp 2), none⟩,
  ⟨(some 9), .bld [(.int .i64 0), (.int .i64 0), (.int .i64 0)] [], none⟩,
  ⟨(some 10), .mv (.tmp 1), none⟩,
  ⟨(some 11), .call (.func 82) [(.tmp 8), (.tmp 9), (.tmp 10)], none⟩,
  ⟨(some 7), .mv (.tmp 11), none⟩,
  ⟨(some 12), .ext 0 (.tmp 7), none⟩,
  ⟨(some 13), .ext 1 (.tmp 7), none⟩,
  ⟨(some 5), .mv (.tmp 12), none⟩,
  ⟨(some 6), .mv (.tmp 13), none⟩])
 (.seq (.reg [⟨(some 14), .mv (.tmp 5), none⟩,
  ⟨(some 15), .mv (.tmp 6), none⟩,
  ⟨(some 16), .bin .add (.tmp 14) (.tmp 15), none⟩,
  ⟨(some 4), .mv (.tmp 16), none⟩])
 (.ret)))
def r_impl_jointProfit : List ARes := [.tmp 4]
theorem ok_impl_jointProfit : FnOk Try.prog 85 17 c_impl_jointProfit r_impl_jointProfit := ⟨⟨Try.f85, _, Try.func85, by kernel_rfl, rfl, rfl, by kernel_rfl, by kernel_rfl⟩⟩
def c_impl_jointProfits : ACode := .seq (.reg [⟨(some 1), .box 27 (.tmp 0), none⟩,
  ⟨(some 2), .mv (.const (.slice none 0 0)), none⟩])
 (.seq (.reg [⟨(some 5), .bsl 3 1 0 [] [], none⟩,
  ⟨(some 3), .mv (.tmp 5), none⟩])
 (.seq (.seq (.reg [⟨(some 6), .mv (.const (.int .i64 0)), none⟩])
 (.block 0 (.loop (.seq (.reg [⟨(some 7), .bin .lss (.tmp 6) (.const (.int .i64 9)), none⟩])
 (.seq (.cond (.tmp 7) (.skip) (.exit 0))
 (.seq (.block 1 (.seq (.reg [⟨(some 8), .mv (.tmp 6), none⟩,
  ⟨(some 4), .mv (.tmp 8), none⟩])
 (.reg [⟨(some 9), .mv (.tmp 3), none⟩,
  ⟨(some 10), .ld (some 4) (.tmp 1), none⟩,
  ⟨(some 11), .mv (.tmp 4), none⟩,
  ⟨(some 12), .call (.func 85) [(.tmp 10), (.tmp 11)], none⟩,
  ⟨(some 13), .bsl 3 1 1 [(.int .i64 0)] [(0, 1, (.tmp 12))], none⟩,
  ⟨(some 14), .app 3 1 8 (.tmp 9) (.tmp 13), none⟩,
  ⟨(some 3), .mv (.tmp 14), none⟩])))
 (.reg [⟨(some 15), .bin .add (.tmp 6) (.const (.int .i64 1)), none⟩,
  ⟨(some 6), .mv (.tmp 15), none⟩])))))))
 (.seq (.reg [⟨(some 16), .mv (.tmp 3), none⟩,
  ⟨(some 2), .mv (.tmp 16), none⟩])
 (.ret))))
def r_impl_jointProfits : List ARes := [.tmp 2]
theorem ok_impl_jointProfits : FnOk Try.prog 86 17 c_impl_jointProfits r_impl_jointProfits := ⟨⟨Try.f86, _, Try.func86, by kernel_rfl, rfl, rfl, by kernel_rfl, by kernel_rfl⟩⟩
def c_spec_l10Best : ACode := .seq (.reg [⟨(some 1), .box 27 (.tmp 0), none⟩,
  ⟨(some 2), .mv (.const (.int .i64 0)), none⟩])
 (.seq (.reg [⟨(some 3), .mv (.const (.int .i64 0)), none⟩])
 (.seq (.seq (.reg [⟨(some 4), .mv (.const (.int .i64 1)), none⟩])
 (.block 0 (.loop (.seq (.seq (.reg [⟨(some 5), .mv (.tmp 4), none⟩,
  ⟨(some 6), .bin .leq (.tmp 5) (.const (.int .i64 8)), none⟩])
 (.cond (.tmp 6) (.skip) (.exit 0)))
 (.seq (.block 1 (.seq (.reg [⟨(some 9), .ld (some 4) (.tmp 1), none⟩,
  ⟨(some 10), .mv (.tmp 4), none⟩,
  ⟨(some 12), .ld (some 4) (.tmp 1), none⟩,
  ⟨(some 13), .mv (.tmp 3), none⟩,
  ⟨(some 11), .rcall (.func 84) [(.tmp 9), (.tmp 10)], none⟩,
  ⟨(some 14), .rcall (.func 84) [(.tmp 12), (.tmp 13)], none⟩,
  ⟨(some 15), .bin .gtr (.tmp 11) (.tmp 14), none⟩])
 (.cond (.tmp 15) (.reg [⟨(some 16), .mv (.tmp 4), none⟩,
  ⟨(some 3), .mv (.tmp 16), none⟩]) (.skip))))
 (.reg [⟨(some 7), .mv (.tmp 4), none⟩,
  ⟨(some 8), .bin .add (.tmp 7) (.const (.int .i64 1)), none⟩,
  ⟨(some 4), .mv (.tmp 8), none⟩]))))))
 (.seq (.reg [⟨(some 17), .mv (.tmp 3), none⟩,
  ⟨(some 2), .mv (.tmp 17), none⟩])
 (.ret))))
def r_spec_l10Best : List ARes := [.tmp 2]
theorem ok_spec_l10Best : FnOk Try.prog 87 18 c_spec_l10Best r_spec_l10Best := ⟨⟨Try.f87, _, Try.func87, by kernel_rfl, rfl, rfl, by kernel_rfl, by kernel_rfl⟩⟩
def c_impl_firstGreatest : ACode := .seq (.reg [⟨(some 2), .mv (.const (.int .i64 0)), none⟩,
  ⟨(some 3), .mv (.const (.int .i64 0)), none⟩])
 (.seq (.reg [⟨(some 5), .mv (.tmp 0), none⟩,
  ⟨(some 6), .call (.func 109) [(.tmp 5)], none⟩,
  ⟨(some 4), .mv (.tmp 6), none⟩])
 (.seq (.reg [⟨(some 7), .mv (.tmp 0), none⟩,
  ⟨(some 8), .mv (.tmp 4), none⟩,
  ⟨(some 9), .call (.func 110) [(.tmp 7), (.tmp 8)], none⟩,
  ⟨(some 10), .mv (.tmp 4), none⟩,
  ⟨(some 2), .mv (.tmp 9), none⟩,
  ⟨(some 3), .mv (.tmp 10), none⟩])
 (.ret)))
def r_impl_firstGreatest : List ARes := [.tmp 2, .tmp 3]
theorem ok_impl_firstGreatest : FnOk Try.prog 88 11 c_impl_firstGreatest r_impl_firstGreatest := ⟨⟨Try.f88, _, Try.func88, by kernel_rfl, rfl, rfl, by kernel_rfl, by kernel_rfl⟩⟩
def c_spec_l2Sum : ACode := .seq (.reg [⟨(some 2), .mv (.const (.int .i64 0)), none⟩])
 (.seq (.reg [⟨(some 3), .mv (.const (.int .i64 0)), none⟩])
 (.seq (.seq (.reg [⟨(some 4), .mv (.const (.int .i64 0)), none⟩])
 (.block 0 (.loop (.seq (.seq (.reg [⟨(some 5), .mv (.tmp 4), none⟩,
  ⟨(some 6), .mv (.tmp 0), none⟩,
  ⟨(some 7), .len (.tmp 6), none⟩,
  ⟨(some 8), .bin .lss (.tmp 5) (.tmp 7), none⟩])
 (.cond (.tmp 8) (.skip) (.exit 0)))
 (.seq (.block 1 (.reg [⟨(some 11), .mv (.tmp 3), none⟩,
  ⟨(some 12), .mv (.tmp 0), none⟩,
  ⟨(some 13), .mv (.tmp 4), none⟩,
  ⟨(some 14), .iad 1 (.tmp 12) (.tmp 13), none⟩,
  ⟨(some 15), .ld none (.tmp 14), none⟩,
  ⟨(some 16), .bin .add (.tmp 11) (.tmp 15), none⟩,
  ⟨(some 3), .mv (.tmp 16), none⟩]))
 (.reg [⟨(some 9), .mv (.tmp 4), none⟩,
  ⟨(some 10), .bin .add (.tmp 9) (.const (.int .i64 1)), none⟩,
  ⟨(some 4), .mv (.tmp 10), none⟩]))))))
 (.seq (.reg [⟨(some 17), .mv (.tmp 3), none⟩,
  ⟨(some 2), .mv (.tmp 17), none⟩])
 (.ret))))
def r_spec_l2Sum : List ARes := [.tmp 2]
theorem ok_spec_l2Sum : FnOk Try.prog 89 18 c_spec_l2Sum r_spec_l2Sum := ⟨⟨Try.f89, _, Try.func89, by kernel_rfl, rfl, rfl, by kernel_rfl, by kernel_rfl⟩⟩
def c_impl_criticalOrder : ACode := .seq (.reg [⟨(some 6), .mv (.const (.int .i64 0)), none⟩])
 (.seq (.reg [⟨(some 9), .mv (.tmp 2), none⟩,
  ⟨(some 10), .mv (.tmp 0), none⟩,
  ⟨(some 11), .call (.func 105) [(.tmp 10)], none⟩,
  ⟨(some 12), .bin .mul (.tmp 9) (.tmp 11), none⟩,
  ⟨(some 7), .mv (.tmp 12), none⟩])
 (.seq (.reg [⟨(some 8), .mv (.const (.int .i64 0)), none⟩])
 (.seq (.block 0 (.loop (.seq (.seq (.reg [⟨(some 13), .mv (.tmp 1), none⟩,
  ⟨(some 14), .mv (.tmp 2), none⟩,
  ⟨(some 15), .bin .add (.tmp 13) (.tmp 14), none⟩,
  ⟨(some 16), .mv (.tmp 0), none⟩,
  ⟨(some 17), .mv (.tmp 8), none⟩,
  ⟨(some 18), .call (.func 111) [(.tmp 16), (.tmp 17)], none⟩,
  ⟨(some 19), .bin .mul (.tmp 15) (.tmp 18), none⟩,
  ⟨(some 20), .mv (.tmp 7), none⟩,
  ⟨(some 21), .bin .lss (.tmp 19) (.tmp 20), none⟩])
 (.cond (.tmp 21) (.skip) (.exit 0)))
 (.block 1 (.reg [⟨(some 22), .mv (.tmp 8), none⟩,
  ⟨(some 23), .bin .add (.tmp 22) (.const (.int .i64 1)), none⟩,
  ⟨(some 8), .mv (.tmp 23), none⟩])))))
 (.seq (.reg [⟨(some 24), .mv (.tmp 8), none⟩,
  ⟨(some 6), .mv (.tmp 24), none⟩])
 (.ret)))))
def r_impl_criticalOrder : List ARes := [.tmp 6]
theorem ok_impl_criticalOrder : FnOk Try.prog 90 25 c_impl_criticalOrder r_impl_criticalOrder := ⟨⟨Try.f90, _, Try.func90, by kernel_rfl, rfl, rfl, by kernel_rfl, by kernel_rfl⟩⟩
def c_spec_l10Sold : ACode := .seq (.reg [⟨(some 2), .box 27 (.tmp 0), none⟩,
  ⟨(some 3), .box 34 (.tmp 1), none⟩,
  ⟨(some 4), .mv (.const (.int .i64 0)), none⟩])
 (.seq (.reg [⟨(some 5), .mv (.const (.int .i64 0)), none⟩])
 (.seq (.seq (.reg [⟨(some 6), .mv (.const (.int .i64 1)), none⟩])
 (.block 0 (.loop (.seq (.seq (.reg [⟨(some 7), .mv (.tmp 6), none⟩,
  ⟨(some 8), .bin .leq (.tmp 7) (.const (.int .i64 8)), none⟩])
 (.cond (.tmp 8) (.skip) (.exit 0)))
 (.seq (.block 1 (.seq (.reg [⟨(some 11), .ld (some 4) (.tmp 2), none⟩,
  ⟨(some 12), .ld (some 3) (.tmp 3), none⟩,
  ⟨(some 13), .mv (.tmp 6), none⟩,
  ⟨(some 15), .ld (some 4) (.tmp 2), none⟩,
  ⟨(some 16), .ld (some 3) (.tmp 3), none⟩,
  ⟨(some 17), .mv (.tmp 5), none⟩,
  ⟨(some 14), .rcall (.func 80) [(.tmp 11), (.tmp 12), (.tmp 13)], none⟩,
  ⟨(some 18), .rcall (.func 80) [(.tmp 15), (.tmp 16), (.tmp 17)], none⟩,
  ⟨(some 19), .bin .gtr (.tmp 14) (.tmp 18), none⟩])
 (.cond (.tmp 19) (.reg [⟨(some 20), .mv (.tmp 6), none⟩,
  ⟨(some 5), .mv (.tmp 20), none⟩]) (.skip))))
 (.reg [⟨(some 9), .mv (.tmp 6), none⟩,
  ⟨(some 10), .bin .add (.tmp 9) (.const (.int .i64 1)), none⟩,
  ⟨(some 6), .mv (.tmp 10), none⟩]))))))
 (.seq (.reg [⟨(some 21), .mv (.tmp 5), none⟩,
  ⟨(some 4), .mv (.tmp 21), none⟩])
 (.ret))))
def r_spec_l10Sold : List ARes := [.tmp 4]
theorem ok_spec_l10Sold : FnOk Try.prog 91 22 c_spec_l10Sold r_spec_l10Sold := ⟨⟨Try.f91, _, Try.func91, by kernel_rfl, rfl, rfl, by kernel_rfl, by kernel_rfl⟩⟩
def c_impl_sellerOrder : ACode := .seq (.reg [⟨(some 2), .box 27 (.tmp 0), none⟩,
  ⟨(some 3), .box 34 (.tmp 1), none⟩,
  ⟨(some 4), .mv (.const (.int .i64 0)), none⟩])
 (.seq (.reg [⟨(some 11), .bsl 3 1 0 [] [], none⟩,
  ⟨(some 5), .mv (.tmp 11), none⟩])
 (.seq (.seq (.reg [⟨(some 12), .mv (.const (.int .i64 0)), none⟩])
 (.block 0 (.loop (.seq (.reg [⟨(some 13), .bin .lss (.tmp 12) (.const (.int .i64 9)), none⟩])
 (.seq (.cond (.tmp 13) (.skip) (.exit 0))
 (.seq (.block 1 (.seq (.reg [⟨(some 14), .mv (.tmp 12), none⟩,
  ⟨(some 6), .mv (.tmp 14), none⟩])
 (.seq (.reg [⟨(some 16), .ld (some 4) (.tmp 2), none⟩,
  ⟨(some 17), .ld (some 3) (.tmp 3), none⟩,
  ⟨(some 18), .mv (.tmp 6), none⟩,
  ⟨(some 19), .call (.func 82) [(.tmp 16), (.tmp 17), (.tmp 18)], none⟩,
  ⟨(some 15), .mv (.tmp 19), none⟩,
  ⟨(some 20), .ext 0 (.tmp 15), none⟩,
  ⟨(some 21), .ext 1 (.tmp 15), none⟩,
  ⟨(some 7), .mv (.tmp 20), none⟩,
  ⟨(some 8), .mv (.tmp 21), none⟩])
 (.reg [⟨(some 22), .mv (.tmp 5), none⟩,
  ⟨(some 23), .mv (.tmp 7), none⟩,
  ⟨(some 24), .bsl 3 1 1 [(.int .i64 0)] [(0, 1, (.tmp 23))], none⟩,
  ⟨(some 25), .app 3 1 8 (.tmp 22) (.tmp 24), none⟩,
  ⟨(some 5), .mv (.tmp 25), none⟩]))))
 (.reg [⟨(some 26), .bin .add (.tmp 12) (.const (.int .i64 1)), none⟩,
  ⟨(some 12), .mv (.tmp 26), none⟩])))))))
 (.seq (.reg [⟨(some 28), .mv (.tmp 5), none⟩,
  ⟨(some 29), .call (.func 88) [(.tmp 28)], none⟩,
  ⟨(some 27), .mv (.tmp 29), none⟩,
  ⟨(some 30), .ext 0 (.tmp 27), none⟩,
  ⟨(some 31), .ext 1 (.tmp 27), none⟩,
  ⟨(some 9), .mv (.tmp 30), none⟩,
  ⟨(some 10), .mv (.tmp 31), none⟩])
 (.seq (.reg [⟨(some 32), .mv (.tmp 9), none⟩,
  ⟨(some 4), .mv (.tmp 32), none⟩])
 (.ret)))))
def r_impl_sellerOrder : List ARes := [.tmp 4]
theorem ok_impl_sellerOrder : FnOk Try.prog 92 33 c_impl_sellerOrder r_impl_sellerOrder := ⟨⟨Try.f92, _, Try.func92, by kernel_rfl, rfl, rfl, by kernel_rfl, by kernel_rfl⟩⟩
def c_spec_l10Loss : ACode := .seq (.reg [⟨(some 2), .box 27 (.tmp 0), none⟩,
  ⟨(some 3), .box 34 (.tmp 1), none⟩,
  ⟨(some 4), .mv (.const (.int .i64 0)), none⟩])
 (.seq (.reg [⟨(some 5), .ld (some 4) (.tmp 2), none⟩,
  ⟨(some 6), .ld (some 4) (.tmp 2), none⟩,
  ⟨(some 9), .ld (some 4) (.tmp 2), none⟩,
  ⟨(some 10), .ld (some 4) (.tmp 2), none⟩,
  ⟨(some 11), .ld (some 3) (.tmp 3), none⟩,
  ⟨(some 7), .rcall (.func 87) [(.tmp 6)], none⟩,
  ⟨(some 8), .rcall (.func 84) [(.tmp 5), (.tmp 7)], none⟩,
  ⟨(some 12), .rcall (.func 91) [(.tmp 10), (.tmp 11)], none⟩,
  ⟨(some 13), .rcall (.func 84) [(.tmp 9), (.tmp 12)], none⟩,
  ⟨(some 14), .bin .sub (.tmp 8) (.tmp 13), none⟩,
  ⟨(some 4), .mv (.tmp 14), none⟩])
 (.ret))
def r_spec_l10Loss : List ARes := [.tmp 4]
theorem ok_spec_l10Loss : FnOk Try.prog 93 15 c_spec_l10Loss r_spec_l10Loss := ⟨⟨Try.f93, _, Try.func93, by kernel_rfl, rfl, rfl, by kernel_rfl, by kernel_rfl⟩⟩
def c_impl_profitLoss : ACode := .seq (.reg [⟨(some 2), .box 27 (.tmp 0), none⟩,
  ⟨(some 3), .box 34 (.tmp 1), none⟩,
  ⟨(some 4), .mv (.const (.int .i64 0)), none⟩])
 (.seq (.reg [⟨(some 8), .ld (some 4) (.tmp 2), none⟩,
  ⟨(some 9), .call (.func 86) [(.tmp 8)], none⟩,
  ⟨(some 10), .call (.func 88) [(.tmp 9)], none⟩,
  ⟨(some 7), .mv (.tmp 10), none⟩,
  ⟨(some 11), .ext 0 (.tmp 7), none⟩,
  ⟨(some 12), .ext 1 (.tmp 7), none⟩,
  ⟨(some 5), .mv (.tmp 11), none⟩,
  ⟨(some 6), .mv (.tmp 12), none⟩])
 (.seq (.reg [⟨(some 13), .mv (.tmp 6), none⟩,
  ⟨(some 14), .ld (some 4) (.tmp 2), none⟩,
  ⟨(some 15), .ld (some 4) (.tmp 2), none⟩,
  ⟨(some 16), .ld (some 3) (.tmp 3), none⟩,
  ⟨(some 17), .rcall (.func 92) [(.tmp 15), (.tmp 16)], none⟩,
  ⟨(some 18), .rcall (.func 85) [(.tmp 14), (.tmp 17)], none⟩,
  ⟨(some 19), .bin .sub (.tmp 13) (.tmp 18), none⟩,
  ⟨(some 4), .mv (.tmp 19), none⟩])
 (.ret)))
def r_impl_profitLoss : List ARes := [.tmp 4]
theorem ok_impl_profitLoss : FnOk Try.prog 94 20 c_impl_profitLoss r_impl_profitLoss := ⟨⟨Try.f94, _, Try.func94, by kernel_rfl, rfl, rfl, by kernel_rfl, by kernel_rfl⟩⟩
def c_spec_l10Proportion : ACode := .seq (.reg [⟨(some 2), .box 27 (.tmp 0), none⟩,
  ⟨(some 3), .box 34 (.tmp 1), none⟩,
  ⟨(some 4), .mv (.const (.bool false)), none⟩])
 (.seq (.reg [⟨(some 6), .fad 2 (.tmp 3), none⟩,
  ⟨(some 7), .ld none (.tmp 6), none⟩,
  ⟨(some 8), .fad 1 (.tmp 2), none⟩,
  ⟨(some 9), .ld none (.tmp 8), none⟩,
  ⟨(some 10), .bin .mul (.tmp 7) (.tmp 9), none⟩,
  ⟨(some 11), .fad 3 (.tmp 2), none⟩,
  ⟨(some 12), .ld none (.tmp 11), none⟩,
  ⟨(some 13), .fad 1 (.tmp 3), none⟩,
  ⟨(some 14), .ld none (.tmp 13), none⟩,
  ⟨(some 15), .bin .add (.tmp 12) (.tmp 14), none⟩,
  ⟨(some 16), .bin .mul (.const (.int .i64 100)) (.tmp 15), none⟩,
  ⟨(some 17), .bin .sub (.tmp 10) (.tmp 16), none⟩,
  ⟨(some 5), .mv (.tmp 17), none⟩])
 (.seq (.reg [⟨(some 18), .mv (.tmp 5), none⟩,
  ⟨(some 19), .bin .gtr (.tmp 18) (.const (.int .i64 0)), none⟩,
  ⟨(some 20), .mv (.tmp 19), none⟩,
  ⟨(some 21), .mv (.tmp 5), (some (20, true))⟩,
  ⟨(some 22), .fad 3 (.tmp 2), (some (20, true))⟩,
  ⟨(some 23), .ld none (.tmp 22), (some (20, true))⟩,
  ⟨(some 24), .fad 2 (.tmp 2), (some (20, true))⟩,
  ⟨(some 25), .ld none (.tmp 24), (some (20, true))⟩,
  ⟨(some 26), .bin .sub (.tmp 23) (.tmp 25), (some (20, true))⟩,
  ⟨(some 27), .bin .mul (.tmp 21) (.tmp 26), (some (20, true))⟩,
  ⟨(some 28), .fad 3 (.tmp 2), (some (20, true))⟩,
  ⟨(some 29), .ld none (.tmp 28), (some (20, true))⟩,
  ⟨(some 30), .fad 1 (.tmp 3), (some (20, true))⟩,
  ⟨(some 31), .ld none (.tmp 30), (some (20, true))⟩,
  ⟨(some 32), .bin .add (.tmp 29) (.tmp 31), (some (20, true))⟩,
  ⟨(some 33), .fad 0 (.tmp 3), (some (20, true))⟩,
  ⟨(some 34), .ld none (.tmp 33), (some (20, true))⟩,
  ⟨(some 35), .bin .sub (.tmp 32) (.tmp 34), (some (20, true))⟩,
  ⟨(some 36), .bin .mul (.const (.int .i64 100)) (.tmp 35), (some (20, true))⟩,
  ⟨(some 37), .fad 1 (.tmp 2), (some (20, true))⟩,
  ⟨(some 38), .ld none (.tmp 37), (some (20, true))⟩,
  ⟨(some 39), .fad 3 (.tmp 2), (some (20, true))⟩,
  ⟨(some 40), .ld none (.tmp 39), (some (20, true))⟩,
  ⟨(some 41), .bin .sub (.tmp 38) (.tmp 40), (some (20, true))⟩,
  ⟨(some 42), .bin .mul (.tmp 36) (.tmp 41), (some (20, true))⟩,
  ⟨(some 43), .bin .eql (.tmp 27) (.tmp 42), (some (20, true))⟩,
  ⟨(some 44), .pick (.tmp 20) (.tmp 43) (.const (.bool false)), none⟩,
  ⟨(some 4), .mv (.tmp 44), none⟩])
 (.ret)))
def r_spec_l10Proportion : List ARes := [.tmp 4]
theorem ok_spec_l10Proportion : FnOk Try.prog 95 45 c_spec_l10Proportion r_spec_l10Proportion := ⟨⟨Try.f95, _, Try.func95, by kernel_rfl, rfl, rfl, by kernel_rfl, by kernel_rfl⟩⟩
def c_impl_isInProportion : ACode := .seq (.reg [⟨(some 2), .box 27 (.tmp 0), none⟩,
  ⟨(some 3), .box 34 (.tmp 1), none⟩,
  ⟨(some 4), .mv (.const (.bool false)), none⟩])
 (.seq (.reg [⟨(some 7), .fad 3 (.tmp 2), none⟩,
  ⟨(some 8), .ld none (.tmp 7), none⟩,
  ⟨(some 9), .fad 1 (.tmp 3), none⟩,
  ⟨(some 10), .ld none (.tmp 9), none⟩,
  ⟨(some 11), .bin .add (.tmp 8) (.tmp 10), none⟩,
  ⟨(some 5), .mv (.tmp 11), none⟩])
 (.seq (.reg [⟨(some 12), .fad 2 (.tmp 3), none⟩,
  ⟨(some 13), .ld none (.tmp 12), none⟩,
  ⟨(some 14), .fad 1 (.tmp 2), none⟩,
  ⟨(some 15), .ld none (.tmp 14), none⟩,
  ⟨(some 16), .bin .mul (.tmp 13) (.tmp 15), none⟩,
  ⟨(some 17), .mv (.tmp 5), none⟩,
  ⟨(some 18), .bin .mul (.const (.int .i64 100)) (.tmp 17), none⟩,
  ⟨(some 19), .bin .sub (.tmp 16) (.tmp 18), none⟩,
  ⟨(some 6), .mv (.tmp 19), none⟩])
 (.seq (.reg [⟨(some 20), .mv (.tmp 6), none⟩,
  ⟨(some 21), .bin .gtr (.tmp 20) (.const (.int .i64 0)), none⟩,
  ⟨(some 22), .mv (.tmp 21), none⟩,
  ⟨(some 23), .mv (.tmp 6), (some (22, true))⟩,
  ⟨(some 24), .fad 3 (.tmp 2), (some (22, true))⟩,
  ⟨(some 25), .ld none (.tmp 24), (some (22, true))⟩,
  ⟨(some 26), .fad 2 (.tmp 2), (some (22, true))⟩,
  ⟨(some 27), .ld none (.tmp 26), (some (22, true))⟩,
  ⟨(some 28), .bin .sub (.tmp 25) (.tmp 27), (some (22, true))⟩,
  ⟨(some 29), .bin .mul (.tmp 23) (.tmp 28), (some (22, true))⟩,
  ⟨(some 30), .mv (.tmp 5), (some (22, true))⟩,
  ⟨(some 31), .fad 0 (.tmp 3), (some (22, true))⟩,
  ⟨(some 32), .ld none (.tmp 31), (some (22, true))⟩,
  ⟨(some 33), .bin .sub (.tmp 30) (.tmp 32), (some (22, true))⟩,
  ⟨(some 34), .bin .mul (.const (.int .i64 100)) (.tmp 33), (some (22, true))⟩,
  ⟨(some 35), .fad 1 (.tmp 2), (some (22, true))⟩,
  ⟨(some 36), .ld none (.tmp 35), (some (22, true))⟩,
  ⟨(some 37), .fad 3 (.tmp 2), (some (22, true))⟩,
  ⟨(some 38), .ld none (.tmp 37), (some (22, true))⟩,
  ⟨(some 39), .bin .sub (.tmp 36) (.tmp 38), (some (22, true))⟩,
  ⟨(some 40), .bin .mul (.tmp 34) (.tmp 39), (some (22, true))⟩,
  ⟨(some 41), .bin .eql (.tmp 29) (.tmp 40), (some (22, true))⟩,
  ⟨(some 42), .pick (.tmp 22) (.tmp 41) (.const (.bool false)), none⟩,
  ⟨(some 4), .mv (.tmp 42), none⟩])
 (.ret))))
def r_impl_isInProportion : List ARes := [.tmp 4]
theorem ok_impl_isInProportion : FnOk Try.prog 96 43 c_impl_isInProportion r_impl_isInProportion := ⟨⟨Try.f96, _, Try.func96, by kernel_rfl, rfl, rfl, by kernel_rfl, by kernel_rfl⟩⟩
def c_spec_l1In : ACode := .seq (.reg [⟨(some 6), .mv (.const (.bool false)), none⟩])
 (.seq (.reg [⟨(some 7), .mv (.tmp 0), none⟩,
  ⟨(some 8), .mv (.tmp 1), none⟩,
  ⟨(some 9), .bin .geq (.tmp 7) (.tmp 8), none⟩,
  ⟨(some 10), .mv (.tmp 9), none⟩,
  ⟨(some 11), .mv (.tmp 0), (some (10, true))⟩,
  ⟨(some 12), .mv (.tmp 2), (some (10, true))⟩,
  ⟨(some 13), .bin .leq (.tmp 11) (.tmp 12), (some (10, true))⟩,
  ⟨(some 14), .pick (.tmp 10) (.tmp 13) (.const (.bool false)), none⟩,
  ⟨(some 6), .mv (.tmp 14), none⟩])
 (.ret))
def r_spec_l1In : List ARes := [.tmp 6]
theorem ok_spec_l1In : FnOk Try.prog 97 15 c_spec_l1In r_spec_l1In := ⟨⟨Try.f97, _, Try.func97, by kernel_rfl, rfl, rfl, by kernel_rfl, by kernel_rfl⟩⟩
def c_impl_payFor : ACode := .seq (.reg [⟨(some 3), .box 27 (.tmp 0), none⟩,
  ⟨(some 6), .mv (.const (.int .i64 0)), none⟩,
  ⟨(some 7), .mv (.const (.bool false)), none⟩])
 (.seq (.seq (.reg [⟨(some 9), .mv (.const (.int .i64 0)), none⟩])
 (.block 0 (.loop (.seq (.reg [⟨(some 10), .bin .lss (.tmp 9) (.const (.int .i64 100)), none⟩])
 (.seq (.cond (.tmp 10) (.skip) (.exit 0))
 (.seq (.block 1 (.seq (.reg [⟨(some 11), .mv (.tmp 9), none⟩,
  ⟨(some 8), .mv (.tmp 11), none⟩])
 (.seq (.reg [⟨(some 12), .ld (some 4) (.tmp 3), none⟩,
  ⟨(some 13), .mv (.tmp 8), none⟩,
  ⟨(some 14), .mv (.tmp 1), none⟩,
  ⟨(some 15), .mv (.tmp 2), none⟩,
  ⟨(some 16), .bld [(.int .i64 0), (.int .i64 0), (.int .i64 0)] [(0, 1, (.tmp 13)), (1, 1, (.tmp 14)), (2, 1, (.tmp 15))], none⟩,
  ⟨(some 17), .call (.func 96) [(.tmp 12), (.tmp 16)], none⟩])
 (.cond (.tmp 17) (.seq (.reg [⟨(some 18), .mv (.tmp 8), none⟩,
  ⟨(some 6), .mv (.tmp 18), none⟩,
  ⟨(some 7), .mv (.const (.bool true)), none⟩])
 (.ret)) (.skip)))))
 (.reg [⟨(some 19), .bin .add (.tmp 9) (.const (.int .i64 1)), none⟩,
  ⟨(some 9), .mv (.tmp 19), none⟩])))))))
 (.seq (.reg [⟨(some 6), .mv (.const (.int .i64 0)), none⟩,
  ⟨(some 7), .mv (.const (.bool false)), none⟩])
 (.ret)))
def r_impl_payFor : List ARes := [.tmp 6, .tmp 7]
theorem ok_impl_payFor : FnOk Try.prog 98 20 c_impl_payFor r_impl_payFor := ⟨⟨Try.f98, _, Try.func98, by kernel_rfl, rfl, rfl, by kernel_rfl, by kernel_rfl⟩⟩
def c_spec_l10Plains : ACode := .seq (.reg [⟨(some 1), .box 27 (.tmp 0), none⟩,
  ⟨(some 2), .mv (.const (.slice none 0 0)), none⟩])
 (.seq (.reg [⟨(some 6), .bsl 83 2 0 [] [], none⟩,
  ⟨(some 3), .mv (.tmp 6), none⟩])
 (.seq (.seq (.reg [⟨(some 7), .fad 2 (.tmp 1), none⟩,
  ⟨(some 8), .ld none (.tmp 7), none⟩,
  ⟨(some 4), .mv (.tmp 8), none⟩])
 (.block 0 (.loop (.seq (.seq (.reg [⟨(some 9), .mv (.tmp 4), none⟩,
  ⟨(some 10), .fad 1 (.tmp 1), none⟩,
  ⟨(some 11), .ld none (.tmp 10), none⟩,
  ⟨(some 12), .bin .leq (.tmp 9) (.tmp 11), none⟩])
 (.cond (.tmp 12) (.skip) (.exit 0)))
 (.seq (.block 1 (.seq (.reg [⟨(some 15), .ld (some 4) (.tmp 1), none⟩,
  ⟨(some 16), .mv (.tmp 4), none⟩,
  ⟨(some 17), .rcall (.func 112) [(.tmp 16)], none⟩,
  ⟨(some 18), .rcall (.func 91) [(.tmp 15), (.tmp 17)], none⟩,
  ⟨(some 5), .mv (.tmp 18), none⟩])
 (.reg [⟨(some 19), .mv (.tmp 3), none⟩,
  ⟨(some 20), .mv (.tmp 5), none⟩,
  ⟨(some 21), .ld (some 4) (.tmp 1), none⟩,
  ⟨(some 22), .mv (.tmp 4), none⟩,
  ⟨(some 24), .mv (.tmp 5), none⟩,
  ⟨(some 23), .rcall (.func 112) [(.tmp 22)], none⟩,
  ⟨(some 25), .rcall (.func 83) [(.tmp 21), (.tmp 23), (.tmp 24)], none⟩,
  ⟨(some 26), .bld [(.int .i64 0), (.int .i64 0)] [(0, 1, (.tmp 20)), (1, 1, (.tmp 25))], none⟩,
  ⟨(some 27), .bsl 83 2 1 [(.int .i64 0), (.int .i64 0)] [(0, 2, (.tmp 26))], none⟩,
  ⟨(some 28), .app 83 2 16 (.tmp 19) (.tmp 27), none⟩,
  ⟨(some 3), .mv (.tmp 28), none⟩])))
 (.reg [⟨(some 13), .mv (.tmp 4), none⟩,
  ⟨(some 14), .bin .add (.tmp 13) (.const (.int .i64 1)), none⟩,
  ⟨(some 4), .mv (.tmp 14), none⟩]))))))
 (.seq (.reg [⟨(some 29), .mv (.tmp 3), none⟩,
  ⟨(some 2), .mv (.tmp 29), none⟩])
 (.ret))))
def r_spec_l10Plains : List ARes := [.tmp 2]
theorem ok_spec_l10Plains : FnOk Try.prog 99 30 c_spec_l10Plains r_spec_l10Plains := ⟨⟨Try.f99, _, Try.func99, by kernel_rfl, rfl, rfl, by kernel_rfl, by kernel_rfl⟩⟩
def c_impl_plainContracts : ACode := .seq (.reg [⟨(some 1), .box 27 (.tmp 0), none⟩,
  ⟨(some 2), .mv (.const (.slice none 0 0)), none⟩,
  ⟨(some 3), .mv (.const (.slice none 0 0)), none⟩])
 (.seq (.reg [⟨(some 11), .bsl 3 1 0 [] [], none⟩,
  ⟨(some 12), .bsl 3 1 0 [] [], none⟩,
  ⟨(some 4), .mv (.tmp 11), none⟩,
  ⟨(some 5), .mv (.tmp 12), none⟩])
 (.seq (.seq (.reg [⟨(some 13), .fad 2 (.tmp 1), none⟩,
  ⟨(some 14), .ld none (.tmp 13), none⟩,
  ⟨(some 6), .mv (.tmp 14), none⟩])
 (.block 0 (.loop (.seq (.seq (.reg [⟨(some 15), .mv (.tmp 6), none⟩,
  ⟨(some 16), .fad 1 (.tmp 1), none⟩,
  ⟨(some 17), .ld none (.tmp 16), none⟩,
  ⟨(some 18), .bin .leq (.tmp 15) (.tmp 17), none⟩])
 (.cond (.tmp 18) (.skip) (.exit 0)))
 (.seq (.block 1 (.seq (.reg [⟨(some 21), .mv (.tmp 6), none⟩,
  ⟨(some 22), .bld [(.int .i64 0), (.int .i64 0), (.int .i64 0)] [(0, 1, (.tmp 21)), (2, 1, (.const (.int .i64 100)))], none⟩,
  ⟨(some 7), .alc 34 [(.int .i64 0), (.int .i64 0), (.int .i64 0)], none⟩,
  ⟨none, .st 3 (.tmp 7) (.tmp 22), none⟩])
 (.seq (.reg [⟨(some 23), .ld (some 4) (.tmp 1), none⟩,
  ⟨(some 24), .ld (some 3) (.tmp 7), none⟩,
  ⟨(some 25), .call (.func 92) [(.tmp 23), (.tmp 24)], none⟩,
  ⟨(some 8), .mv (.tmp 25), none⟩])
 (.seq (.reg [⟨(some 27), .ld (some 4) (.tmp 1), none⟩,
  ⟨(some 28), .ld (some 3) (.tmp 7), none⟩,
  ⟨(some 29), .mv (.tmp 8), none⟩,
  ⟨(some 30), .call (.func 82) [(.tmp 27), (.tmp 28), (.tmp 29)], none⟩,
  ⟨(some 26), .mv (.tmp 30), none⟩,
  ⟨(some 31), .ext 0 (.tmp 26), none⟩,
  ⟨(some 32), .ext 1 (.tmp 26), none⟩,
  ⟨(some 9), .mv (.tmp 31), none⟩,
  ⟨(some 10), .mv (.tmp 32), none⟩])
 (.reg [⟨(some 33), .mv (.tmp 4), none⟩,
  ⟨(some 34), .mv (.tmp 8), none⟩,
  ⟨(some 35), .bsl 3 1 1 [(.int .i64 0)] [(0, 1, (.tmp 34))], none⟩,
  ⟨(some 36), .app 3 1 8 (.tmp 33) (.tmp 35), none⟩,
  ⟨(some 37), .mv (.tmp 5), none⟩,
  ⟨(some 38), .mv (.tmp 10), none⟩,
  ⟨(some 39), .bsl 3 1 1 [(.int .i64 0)] [(0, 1, (.tmp 38))], none⟩,
  ⟨(some 40), .app 3 1 8 (.tmp 37) (.tmp 39), none⟩,
  ⟨(some 4), .mv (.tmp 36), none⟩,
  ⟨(some 5), .mv (.tmp 40), none⟩])))))
 (.reg [⟨(some 19), .mv (.tmp 6), none⟩,
  ⟨(some 20), .bin .add (.tmp 19) (.const (.int .i64 1)), none⟩,
  ⟨(some 6), .mv (.tmp 20), none⟩]))))))
 (.seq (.reg [⟨(some 41), .mv (.tmp 4), none⟩,
  ⟨(some 42), .mv (.tmp 5), none⟩,
  ⟨(some 2), .mv (.tmp 41), none⟩,
  ⟨(some 3), .mv (.tmp 42), none⟩])
 (.ret))))
def r_impl_plainContracts : List ARes := [.tmp 2, .tmp 3]
theorem ok_impl_plainContracts : FnOk Try.prog 100 43 c_impl_plainContracts r_impl_plainContracts := ⟨⟨Try.f100, _, Try.func100, by kernel_rfl, rfl, rfl, by kernel_rfl, by kernel_rfl⟩⟩
def c_spec_l2Row : ACode := .seq (.reg [⟨(some 6), .mv (.const (.bool false)), none⟩])
 (.seq (.seq (.reg [⟨(some 7), .mv (.const (.int .i64 0)), none⟩])
 (.block 0 (.loop (.seq (.seq (.reg [⟨(some 8), .mv (.tmp 7), none⟩,
  ⟨(some 9), .mv (.tmp 0), none⟩,
  ⟨(some 10), .len (.tmp 9), none⟩,
  ⟨(some 11), .bin .lss (.tmp 8) (.tmp 10), none⟩])
 (.cond (.tmp 11) (.skip) (.exit 0)))
 (.seq (.block 1 (.seq (.reg [⟨(some 14), .mv (.tmp 0), none⟩,
  ⟨(some 15), .mv (.tmp 7), none⟩,
  ⟨(some 16), .iad 1 (.tmp 14) (.tmp 15), none⟩,
  ⟨(some 17), .ld none (.tmp 16), none⟩,
  ⟨(some 18), .mv (.tmp 2), none⟩,
  ⟨(some 19), .call (.func 97) [(.tmp 17), (.const (.int .i64 0)), (.tmp 18)], none⟩,
  ⟨(some 20), .un .not (.tmp 19), none⟩])
 (.cond (.tmp 20) (.seq (.reg [⟨(some 6), .mv (.const (.bool false)), none⟩])
 (.ret)) (.skip))))
 (.reg [⟨(some 12), .mv (.tmp 7), none⟩,
  ⟨(some 13), .bin .add (.tmp 12) (.const (.int .i64 1)), none⟩,
  ⟨(some 7), .mv (.tmp 13), none⟩]))))))
 (.seq (.reg [⟨(some 21), .mv (.tmp 0), none⟩,
  ⟨(some 22), .len (.tmp 21), none⟩,
  ⟨(some 23), .mv (.tmp 1), none⟩,
  ⟨(some 24), .bin .eql (.tmp 22) (.tmp 23), none⟩,
  ⟨(some 6), .mv (.tmp 24), none⟩])
 (.ret)))
def r_spec_l2Row : List ARes := [.tmp 6]
theorem ok_spec_l2Row : FnOk Try.prog 103 25 c_spec_l2Row r_spec_l2Row := ⟨⟨Try.f103, _, Try.func103, by kernel_rfl, rfl, rfl, by kernel_rfl, by kernel_rfl⟩⟩
def c_impl_isRow : ACode := .seq (.reg [⟨(some 5), .box 3 (.tmp 2), none⟩,
  ⟨(some 6), .mv (.const (.bool false)), none⟩])
 (.seq (.reg [⟨(some 8), .mkf 113 [] [(.tmp 5)], none⟩,
  ⟨(some 7), .mv (.tmp 8), none⟩])
 (.seq (.reg [⟨(some 9), .mv (.tmp 0), none⟩,
  ⟨(some 10), .len (.tmp 9), none⟩,
  ⟨(some 11), .mv (.tmp 1), none⟩,
  ⟨(some 12), .bin .eql (.tmp 10) (.tmp 11), none⟩,
  ⟨(some 13), .mv (.tmp 12), none⟩,
  ⟨(some 14), .mv (.tmp 0), (some (13, true))⟩,
  ⟨(some 15), .mv (.tmp 7), (some (13, true))⟩,
  ⟨(some 16), .call (.func 114) [(.tmp 14), (.tmp 15)], (some (13, true))⟩,
  ⟨(some 17), .un .not (.tmp 16), (some (13, true))⟩,
  ⟨(some 18), .pick (.tmp 13) (.tmp 17) (.const (.bool false)), none⟩,
  ⟨(some 6), .mv (.tmp 18), none⟩])
 (.ret)))
def r_impl_isRow : List ARes := [.tmp 6]
theorem ok_impl_isRow : FnOk Try.prog 104 19 c_impl_isRow r_impl_isRow := ⟨⟨Try.f104, _, Try.func104, by kernel_rfl, rfl, rfl, by kernel_rfl, by kernel_rfl⟩⟩
def c_impl_sumOf : ACode := .seq (.reg [⟨(some 2), .mv (.const (.int .i64 0)), none⟩])
 (.seq (.reg [⟨(some 3), .mv (.const (.int .i64 0)), none⟩])
 (.seq (.seq (.reg [⟨(some 6), .mv (.tmp 0), none⟩,
  ⟨(some 7), .len (.tmp 6), none⟩,
  ⟨(some 8), .mv (.const (.int .i64 0)), none⟩])
 (.block 0 (.loop (.seq (.reg [⟨(some 9), .bin .lss (.tmp 8) (.tmp 7), none⟩])
 (.seq (.cond (.tmp 9) (.skip) (.exit 0))
 (.seq (.block 1 (.seq (.reg [⟨(some 10), .iad 1 (.tmp 6) (.tmp 8), none⟩,
  ⟨(some 11), .ld none (.tmp 10), none⟩,
  ⟨(some 5), .mv (.tmp 11), none⟩])
 (.reg [⟨(some 12), .mv (.tmp 3), none⟩,
  ⟨(some 13), .mv (.tmp 5), none⟩,
  ⟨(some 14), .bin .add (.tmp 12) (.tmp 13), none⟩,
  ⟨(some 3), .mv (.tmp 14), none⟩])))
 (.reg [⟨(some 15), .bin .add (.tmp 8) (.const (.int .i64 1)), none⟩,
  ⟨(some 8), .mv (.tmp 15), none⟩])))))))
 (.seq (.reg [⟨(some 16), .mv (.tmp 3), none⟩,
  ⟨(some 2), .mv (.tmp 16), none⟩])
 (.ret))))
def r_impl_sumOf : List ARes := [.tmp 2]
theorem ok_impl_sumOf : FnOk Try.prog 105 17 c_impl_sumOf r_impl_sumOf := ⟨⟨Try.f105, _, Try.func105, by kernel_rfl, rfl, rfl, by kernel_rfl, by kernel_rfl⟩⟩
def c_spec_l1Least : ACode := .seq (.reg [⟨(some 4), .mv (.const (.int .i64 0)), none⟩])
 (.seq (.seq (.reg [⟨(some 5), .mv (.tmp 0), none⟩,
  ⟨(some 6), .mv (.tmp 1), none⟩,
  ⟨(some 7), .bin .lss (.tmp 5) (.tmp 6), none⟩])
 (.cond (.tmp 7) (.seq (.reg [⟨(some 8), .mv (.tmp 0), none⟩,
  ⟨(some 4), .mv (.tmp 8), none⟩])
 (.ret)) (.skip)))
 (.seq (.reg [⟨(some 9), .mv (.tmp 1), none⟩,
  ⟨(some 4), .mv (.tmp 9), none⟩])
 (.ret)))
def r_spec_l1Least : List ARes := [.tmp 4]
theorem ok_spec_l1Least : FnOk Try.prog 106 10 c_spec_l1Least r_spec_l1Least := ⟨⟨Try.f106, _, Try.func106, by kernel_rfl, rfl, rfl, by kernel_rfl, by kernel_rfl⟩⟩
def c_impl_piecesFor : ACode := .seq (.reg [⟨(some 2), .mv (.const (.pointer none)), none⟩])
 (.seq (.reg [⟨(some 4), .mv (.tmp 0), none⟩,
  ⟨(some 5), .slc 1 (.tmp 4) (some (.const (.int .i64 1))) none, none⟩,
  ⟨(some 3), .mv (.tmp 5), none⟩])
 (.seq (.seq (.reg [⟨(some 6), .mv (.tmp 3), none⟩,
  ⟨(some 7), .len (.tmp 6), none⟩,
  ⟨(some 8), .bin .eql (.tmp 7) (.const (.int .i64 0)), none⟩])
 (.cond (.tmp 8) (.seq (.reg [⟨(some 2), .mv (.const (.pointer none)), none⟩])
 (.ret)) (.skip)))
 (.seq (.reg [⟨(some 9), .mv (.tmp 3), none⟩,
  ⟨(some 10), .call (.func 105) [(.tmp 9)], none⟩,
  ⟨(some 11), .mv (.tmp 3), none⟩,
  ⟨(some 12), .call (.func 107) [(.tmp 11)], none⟩,
  ⟨(some 13), .bld [(.int .i64 0), (.pointer none)] [(0, 1, (.tmp 10)), (1, 1, (.tmp 12))], none⟩,
  ⟨(some 14), .box 93 (.tmp 13), none⟩,
  ⟨(some 2), .mv (.tmp 14), none⟩])
 (.ret))))
def r_impl_piecesFor : List ARes := [.tmp 2]
theorem ok_impl_piecesFor : FnOk Try.prog 107 15 c_impl_piecesFor r_impl_piecesFor := ⟨⟨Try.f107, _, Try.func107, by kernel_rfl, rfl, rfl, by kernel_rfl, by kernel_rfl⟩⟩
def c_impl_piece__sold : ACode := .seq (.reg [⟨(some 4), .mv (.const (.int .i64 0)), none⟩])
 (.seq (.seq (.reg [⟨(some 5), .mv (.tmp 0), none⟩,
  ⟨(some 6), .ptn false (.tmp 5), none⟩,
  ⟨(some 7), .mv (.tmp 6), none⟩,
  ⟨(some 8), .mv (.tmp 1), (some (7, false))⟩,
  ⟨(some 9), .bin .eql (.tmp 8) (.const (.int .i64 0)), (some (7, false))⟩,
  ⟨(some 10), .pick (.tmp 7) (.const (.bool true)) (.tmp 9), none⟩])
 (.cond (.tmp 10) (.seq (.reg [⟨(some 4), .mv (.const (.int .i64 0)), none⟩])
 (.ret)) (.skip)))
 (.seq (.reg [⟨(some 11), .mv (.tmp 0), none⟩,
  ⟨(some 12), .nilc (.tmp 11), none⟩,
  ⟨(some 13), .fad 0 (.tmp 12), none⟩,
  ⟨(some 14), .ld none (.tmp 13), none⟩,
  ⟨(some 15), .mv (.tmp 0), none⟩,
  ⟨(some 16), .nilc (.tmp 15), none⟩,
  ⟨(some 17), .fad 1 (.tmp 16), none⟩,
  ⟨(some 18), .ld none (.tmp 17), none⟩,
  ⟨(some 19), .mv (.tmp 1), none⟩,
  ⟨(some 20), .bin .sub (.tmp 19) (.const (.int .i64 1)), none⟩,
  ⟨(some 21), .rcall (.func 108) [(.tmp 18), (.tmp 20)], none⟩,
  ⟨(some 22), .bin .add (.tmp 14) (.tmp 21), none⟩,
  ⟨(some 4), .mv (.tmp 22), none⟩])
 (.ret)))
def r_impl_piece__sold : List ARes := [.tmp 4]
theorem ok_impl_piece__sold : FnOk Try.prog 108 23 c_impl_piece__sold r_impl_piece__sold := ⟨⟨Try.f108, _, Try.func108, by kernel_rfl, rfl, rfl, by kernel_rfl, by kernel_rfl⟩⟩
def c_slices_Max : ACode := .seq (.reg [⟨(some 2), .mv (.const (.int .i64 0)), none⟩])
 (.seq (.seq (.reg [⟨(some 5), .mv (.tmp 0), none⟩,
  ⟨(some 6), .len (.tmp 5), none⟩,
  ⟨(some 7), .bin .lss (.tmp 6) (.const (.int .i64 1)), none⟩])
 (.cond (.tmp 7) (.reg [⟨(some 8), .mif 9 (.const (.string ⟨#[115, 108, 105, 99, 101, 115, 46, 77, 97, 120, 58, 32, 101, 109, 112, 116, 121, 32, 108, 105, 115, 116]⟩)), none⟩,
  ⟨none, .never, none⟩]) (.skip)))
 (.seq (.reg [⟨(some 9), .mv (.tmp 0), none⟩,
  ⟨(some 10), .iad 1 (.tmp 9) (.const (.int .i64 0)), none⟩,
  ⟨(some 11), .ld none (.tmp 10), none⟩,
  ⟨(some 3), .mv (.tmp 11), none⟩])
 (.seq (.seq (.reg [⟨(some 4), .mv (.const (.int .i64 1)), none⟩])
 (.block 0 (.loop (.seq (.seq (.reg [⟨(some 12), .mv (.tmp 4), none⟩,
  ⟨(some 13), .mv (.tmp 0), none⟩,
  ⟨(some 14), .len (.tmp 13), none⟩,
  ⟨(some 15), .bin .lss (.tmp 12) (.tmp 14), none⟩])
 (.cond (.tmp 15) (.skip) (.exit 0)))
 (.seq (.block 1 (.reg [⟨(some 18), .mv (.tmp 3), none⟩,
  ⟨(some 19), .mv (.tmp 0), none⟩,
  ⟨(some 20), .mv (.tmp 4), none⟩,
  ⟨(some 21), .iad 1 (.tmp 19) (.tmp 20), none⟩,
  ⟨(some 22), .ld none (.tmp 21), none⟩,
  ⟨(some 23), .mmx true (.tmp 18) (.tmp 22), none⟩,
  ⟨(some 3), .mv (.tmp 23), none⟩]))
 (.reg [⟨(some 16), .mv (.tmp 4), none⟩,
  ⟨(some 17), .bin .add (.tmp 16) (.const (.int .i64 1)), none⟩,
  ⟨(some 4), .mv (.tmp 17), none⟩]))))))
 (.seq (.reg [⟨(some 24), .mv (.tmp 3), none⟩,
  ⟨(some 2), .mv (.tmp 24), none⟩])
 (.ret)))))
def r_slices_Max : List ARes := [.tmp 2]
theorem ok_slices_Max : FnOk Try.prog 109 25 c_slices_Max r_slices_Max := ⟨⟨Try.f109, _, Try.func109, by kernel_rfl, rfl, rfl, by kernel_rfl, by kernel_rfl⟩⟩
def c_slices_Index : ACode := .seq (.reg [⟨(some 4), .mv (.const (.int .i64 0)), none⟩])
 (.seq (.seq (.reg [⟨(some 6), .mv (.tmp 0), none⟩,
  ⟨(some 7), .len (.tmp 6), none⟩,
  ⟨(some 8), .mv (.const (.int .i64 0)), none⟩])
 (.block 0 (.loop (.seq (.reg [⟨(some 9), .bin .lss (.tmp 8) (.tmp 7), none⟩])
 (.seq (.cond (.tmp 9) (.skip) (.exit 0))
 (.seq (.block 1 (.seq (.reg [⟨(some 10), .mv (.tmp 8), none⟩,
  ⟨(some 5), .mv (.tmp 10), none⟩])
 (.seq (.reg [⟨(some 11), .mv (.tmp 1), none⟩,
  ⟨(some 12), .mv (.tmp 0), none⟩,
  ⟨(some 13), .mv (.tmp 5), none⟩,
  ⟨(some 14), .iad 1 (.tmp 12) (.tmp 13), none⟩,
  ⟨(some 15), .ld none (.tmp 14), none⟩,
  ⟨(some 16), .bin .eql (.tmp 11) (.tmp 15), none⟩])
 (.cond (.tmp 16) (.seq (.reg [⟨(some 17), .mv (.tmp 5), none⟩,
  ⟨(some 4), .mv (.tmp 17), none⟩])
 (.ret)) (.skip)))))
 (.reg [⟨(some 18), .bin .add (.tmp 8) (.const (.int .i64 1)), none⟩,
  ⟨(some 8), .mv (.tmp 18), none⟩])))))))
 (.seq (.reg [⟨(some 4), .mv (.const (.int .i64 (-1))), none⟩])
 (.ret)))
def r_slices_Index : List ARes := [.tmp 4]
theorem ok_slices_Index : FnOk Try.prog 110 19 c_slices_Index r_slices_Index := ⟨⟨Try.f110, _, Try.func110, by kernel_rfl, rfl, rfl, by kernel_rfl, by kernel_rfl⟩⟩
def c_impl_weightUpTo : ACode := .seq (.reg [⟨(some 4), .mv (.const (.int .i64 0)), none⟩])
 (.seq (.reg [⟨(some 5), .mv (.tmp 0), none⟩,
  ⟨(some 6), .mv (.tmp 1), none⟩,
  ⟨(some 7), .bin .add (.tmp 6) (.const (.int .i64 1)), none⟩,
  ⟨(some 8), .mv (.tmp 0), none⟩,
  ⟨(some 9), .len (.tmp 8), none⟩,
  ⟨(some 10), .mmx false (.tmp 7) (.tmp 9), none⟩,
  ⟨(some 11), .slc 1 (.tmp 5) none (some (.tmp 10)), none⟩,
  ⟨(some 12), .call (.func 105) [(.tmp 11)], none⟩,
  ⟨(some 4), .mv (.tmp 12), none⟩])
 (.ret))
def r_impl_weightUpTo : List ARes := [.tmp 4]
theorem ok_impl_weightUpTo : FnOk Try.prog 111 13 c_impl_weightUpTo r_impl_weightUpTo := ⟨⟨Try.f111, _, Try.func111, by kernel_rfl, rfl, rfl, by kernel_rfl, by kernel_rfl⟩⟩
def c_spec_l10Plain : ACode := .seq (.reg [⟨(some 2), .alc 34 [(.int .i64 0), (.int .i64 0), (.int .i64 0)], none⟩])
 (.seq (.reg [⟨(some 3), .mv (.tmp 0), none⟩,
  ⟨(some 4), .bld [(.int .i64 0), (.int .i64 0), (.int .i64 0)] [(0, 1, (.tmp 3)), (2, 1, (.const (.int .i64 100)))], none⟩,
  ⟨none, .st 3 (.tmp 2) (.tmp 4), none⟩])
 (.ret))
def r_spec_l10Plain : List ARes := [.cell 2 (some 3)]
theorem ok_spec_l10Plain : FnOk Try.prog 112 5 c_spec_l10Plain r_spec_l10Plain := ⟨⟨Try.f112, _, Try.func112, by kernel_rfl, rfl, rfl, by kernel_rfl, by kernel_rfl⟩⟩
def c_impl_isRow_1 : ACode := .seq (.reg [⟨(some 3), .mv (.const (.bool false)), none⟩])
 (.seq (.reg [⟨(some 4), .mv (.tmp 0), none⟩,
  ⟨(some 5), .ld none (.tmp 1), none⟩,
  ⟨(some 6), .call (.func 73) [(.tmp 4), (.tmp 5)], none⟩,
  ⟨(some 7), .un .not (.tmp 6), none⟩,
  ⟨(some 3), .mv (.tmp 7), none⟩])
 (.ret))
def r_impl_isRow_1 : List ARes := [.tmp 3]
theorem ok_impl_isRow_1 : FnOk Try.prog 113 8 c_impl_isRow_1 r_impl_isRow_1 := ⟨⟨Try.f113, _, Try.func113, by kernel_rfl, rfl, rfl, by kernel_rfl, by kernel_rfl⟩⟩
def c_slices_ContainsFunc : ACode := .seq (.reg [⟨(some 4), .mv (.const (.bool false)), none⟩])
 (.seq (.reg [⟨(some 5), .mv (.tmp 0), none⟩,
  ⟨(some 6), .mv (.tmp 1), none⟩,
  ⟨(some 7), .call (.func 115) [(.tmp 5), (.tmp 6)], none⟩,
  ⟨(some 8), .bin .geq (.tmp 7) (.const (.int .i64 0)), none⟩,
  ⟨(some 4), .mv (.tmp 8), none⟩])
 (.ret))
def r_slices_ContainsFunc : List ARes := [.tmp 4]
theorem ok_slices_ContainsFunc : FnOk Try.prog 114 9 c_slices_ContainsFunc r_slices_ContainsFunc := ⟨⟨Try.f114, _, Try.func114, by kernel_rfl, rfl, rfl, by kernel_rfl, by kernel_rfl⟩⟩
def c_slices_IndexFunc : ACode := .seq (.reg [⟨(some 4), .mv (.const (.int .i64 0)), none⟩])
 (.seq (.seq (.reg [⟨(some 6), .mv (.tmp 0), none⟩,
  ⟨(some 7), .len (.tmp 6), none⟩,
  ⟨(some 8), .mv (.const (.int .i64 0)), none⟩])
 (.block 0 (.loop (.seq (.reg [⟨(some 9), .bin .lss (.tmp 8) (.tmp 7), none⟩])
 (.seq (.cond (.tmp 9) (.skip) (.exit 0))
 (.seq (.block 1 (.seq (.reg [⟨(some 10), .mv (.tmp 8), none⟩,
  ⟨(some 5), .mv (.tmp 10), none⟩])
 (.seq (.reg [⟨(some 11), .mv (.tmp 1), none⟩,
  ⟨(some 12), .mv (.tmp 0), none⟩,
  ⟨(some 13), .mv (.tmp 5), none⟩,
  ⟨(some 14), .iad 1 (.tmp 12) (.tmp 13), none⟩,
  ⟨(some 15), .ld none (.tmp 14), none⟩,
  ⟨(some 16), .call (.tmp 11) [(.tmp 15)], none⟩])
 (.cond (.tmp 16) (.seq (.reg [⟨(some 17), .mv (.tmp 5), none⟩,
  ⟨(some 4), .mv (.tmp 17), none⟩])
 (.ret)) (.skip)))))
 (.reg [⟨(some 18), .bin .add (.tmp 8) (.const (.int .i64 1)), none⟩,
  ⟨(some 8), .mv (.tmp 18), none⟩])))))))
 (.seq (.reg [⟨(some 4), .mv (.const (.int .i64 (-1))), none⟩])
 (.ret)))
def r_slices_IndexFunc : List ARes := [.tmp 4]
theorem ok_slices_IndexFunc : FnOk Try.prog 115 19 c_slices_IndexFunc r_slices_IndexFunc := ⟨⟨Try.f115, _, Try.func115, by kernel_rfl, rfl, rfl, by kernel_rfl, by kernel_rfl⟩⟩
end Go.Proofs.Ytdcheilmjooacaa.Ab
