/- The compiled forms of functions, each checked against the translation. -/
import Derived.Test.YtmjnjhdacliieaaAb2
import Derived.Test.YtmjnjhdacliieaaProg
namespace Go.Proofs.Ytmjnjhdacliieaa.Ab
open Go Go.RowKit Go.Proofs
set_option maxRecDepth 100000
def c_spec_IsItem : ACode := .seq (.reg [⟨(some 1), .box 25 (.tmp 0), none⟩,
  ⟨(some 2), .mv (.const (.bool false)), none⟩])
 (.seq (.reg [⟨(some 3), .ld (some 5) (.tmp 1), none⟩,
  ⟨(some 4), .call (.func 61) [(.tmp 3)], none⟩,
  ⟨(some 2), .mv (.tmp 4), none⟩])
 (.ret))
def r_spec_IsItem : List ARes := [.tmp 2]
theorem ok_spec_IsItem : FnOk Try.prog 19 5 c_spec_IsItem r_spec_IsItem := ⟨⟨Try.f19, _, Try.func19, by kernel_rfl, rfl, rfl, by kernel_rfl, by kernel_rfl⟩⟩
def c_impl_IsItem : ACode := .seq (.reg [⟨(some 1), .box 25 (.tmp 0), none⟩,
  ⟨(some 2), .mv (.const (.bool false)), none⟩])
 (.seq (.reg [⟨(some 3), .fad 0 (.tmp 1), none⟩,
  ⟨(some 4), .ld none (.tmp 3), none⟩,
  ⟨(some 5), .call (.func 62) [(.tmp 4), (.const (.int .i64 20))], none⟩,
  ⟨(some 6), .mv (.tmp 5), none⟩,
  ⟨(some 7), .fad 1 (.tmp 1), (some (6, true))⟩,
  ⟨(some 8), .ld none (.tmp 7), (some (6, true))⟩,
  ⟨(some 9), .call (.func 62) [(.tmp 8), (.const (.int .i64 99))], (some (6, true))⟩,
  ⟨(some 10), .pick (.tmp 6) (.tmp 9) (.const (.bool false)), none⟩,
  ⟨(some 11), .mv (.tmp 10), none⟩,
  ⟨(some 12), .fad 2 (.tmp 1), (some (11, true))⟩,
  ⟨(some 13), .ld none (.tmp 12), (some (11, true))⟩,
  ⟨(some 14), .call (.func 62) [(.tmp 13), (.const (.int .i64 9))], (some (11, true))⟩,
  ⟨(some 15), .pick (.tmp 11) (.tmp 14) (.const (.bool false)), none⟩,
  ⟨(some 16), .mv (.tmp 15), none⟩,
  ⟨(some 17), .fad 3 (.tmp 1), (some (16, true))⟩,
  ⟨(some 18), .ld none (.tmp 17), (some (16, true))⟩,
  ⟨(some 19), .fad 0 (.tmp 1), (some (16, true))⟩,
  ⟨(some 20), .ld none (.tmp 19), (some (16, true))⟩,
  ⟨(some 21), .bin .gtr (.tmp 18) (.tmp 20), (some (16, true))⟩,
  ⟨(some 22), .pick (.tmp 16) (.tmp 21) (.const (.bool false)), none⟩,
  ⟨(some 23), .mv (.tmp 22), none⟩,
  ⟨(some 24), .fad 3 (.tmp 1), (some (23, true))⟩,
  ⟨(some 25), .ld none (.tmp 24), (some (23, true))⟩,
  ⟨(some 26), .bin .leq (.tmp 25) (.const (.int .i64 40)), (some (23, true))⟩,
  ⟨(some 27), .pick (.tmp 23) (.tmp 26) (.const (.bool false)), none⟩,
  ⟨(some 28), .mv (.tmp 27), none⟩,
  ⟨(some 29), .fad 4 (.tmp 1), (some (28, true))⟩,
  ⟨(some 30), .ld none (.tmp 29), (some (28, true))⟩,
  ⟨(some 31), .call (.func 63) [(.tmp 30), (.const (.int .i64 9))], (some (28, true))⟩,
  ⟨(some 32), .pick (.tmp 28) (.tmp 31) (.const (.bool false)), none⟩,
  ⟨(some 2), .mv (.tmp 32), none⟩])
 (.ret))
def r_impl_IsItem : List ARes := [.tmp 2]
theorem ok_impl_IsItem : FnOk Try.prog 21 33 c_impl_IsItem r_impl_IsItem := ⟨⟨Try.f21, _, Try.func21, by kernel_rfl, rfl, rfl, by kernel_rfl, by kernel_rfl⟩⟩
def c_spec_CycleCost : ACode := .seq (.reg [⟨(some 2), .box 25 (.tmp 0), none⟩,
  ⟨(some 4), .alc 28 [(.int .i64 0), (.int .i64 0)], none⟩,
  ⟨(some 5), .mv (.const (.bool false)), none⟩])
 (.seq (.seq (.reg [⟨(some 6), .ld (some 5) (.tmp 2), none⟩,
  ⟨(some 7), .call (.func 61) [(.tmp 6)], none⟩,
  ⟨(some 8), .un .not (.tmp 7), none⟩,
  ⟨(some 9), .mv (.tmp 8), none⟩,
  ⟨(some 10), .mv (.tmp 1), (some (9, false))⟩,
  ⟨(some 11), .call (.func 64) [(.tmp 10), (.const (.int .i64 1)), (.const (.int .i64 64))], (some (9, false))⟩,
  ⟨(some 12), .un .not (.tmp 11), (some (9, false))⟩,
  ⟨(some 13), .pick (.tmp 9) (.const (.bool true)) (.tmp 12), none⟩])
 (.cond (.tmp 13) (.seq (.reg [⟨(some 14), .bld [(.int .i64 0), (.int .i64 0)] [], none⟩,
  ⟨none, .st 2 (.tmp 4) (.tmp 14), none⟩,
  ⟨(some 5), .mv (.const (.bool false)), none⟩])
 (.ret)) (.skip)))
 (.seq (.reg [⟨(some 15), .ld (some 5) (.tmp 2), none⟩,
  ⟨(some 16), .mv (.tmp 1), none⟩,
  ⟨(some 17), .call (.func 65) [(.tmp 15), (.tmp 16)], none⟩,
  ⟨none, .st 2 (.tmp 4) (.tmp 17), none⟩,
  ⟨(some 5), .mv (.const (.bool true)), none⟩])
 (.ret)))
def r_spec_CycleCost : List ARes := [.cell 4 (some 2), .tmp 5]
theorem ok_spec_CycleCost : FnOk Try.prog 22 18 c_spec_CycleCost r_spec_CycleCost := ⟨⟨Try.f22, _, Try.func22, by kernel_rfl, rfl, rfl, by kernel_rfl, by kernel_rfl⟩⟩
def c_impl_CycleCost : ACode := .seq (.reg [⟨(some 2), .box 25 (.tmp 0), none⟩,
  ⟨(some 4), .alc 28 [(.int .i64 0), (.int .i64 0)], none⟩,
  ⟨(some 5), .mv (.const (.bool false)), none⟩])
 (.seq (.seq (.reg [⟨(some 6), .ld (some 5) (.tmp 2), none⟩,
  ⟨(some 7), .call (.func 21) [(.tmp 6)], none⟩,
  ⟨(some 8), .un .not (.tmp 7), none⟩,
  ⟨(some 9), .mv (.tmp 8), none⟩,
  ⟨(some 10), .mv (.tmp 1), (some (9, false))⟩,
  ⟨(some 11), .call (.func 62) [(.tmp 10), (.const (.int .i64 64))], (some (9, false))⟩,
  ⟨(some 12), .un .not (.tmp 11), (some (9, false))⟩,
  ⟨(some 13), .pick (.tmp 9) (.const (.bool true)) (.tmp 12), none⟩])
 (.cond (.tmp 13) (.seq (.reg [⟨(some 14), .bld [(.int .i64 0), (.int .i64 0)] [], none⟩,
  ⟨none, .st 2 (.tmp 4) (.tmp 14), none⟩,
  ⟨(some 5), .mv (.const (.bool false)), none⟩])
 (.ret)) (.skip)))
 (.seq (.reg [⟨(some 15), .ld (some 5) (.tmp 2), none⟩,
  ⟨(some 16), .bld [(.int .i64 0), (.int .i64 0), (.int .i64 0), (.int .i64 0), (.int .i64 0)] [(0, 5, (.tmp 15))], none⟩,
  ⟨(some 17), .mv (.tmp 1), none⟩,
  ⟨(some 18), .call (.func 66) [(.tmp 16), (.tmp 17)], none⟩,
  ⟨none, .st 2 (.tmp 4) (.tmp 18), none⟩,
  ⟨(some 5), .mv (.const (.bool true)), none⟩])
 (.ret)))
def r_impl_CycleCost : List ARes := [.cell 4 (some 2), .tmp 5]
theorem ok_impl_CycleCost : FnOk Try.prog 23 19 c_impl_CycleCost r_impl_CycleCost := ⟨⟨Try.f23, _, Try.func23, by kernel_rfl, rfl, rfl, by kernel_rfl, by kernel_rfl⟩⟩
def c_spec_BestCycle : ACode := .seq (.reg [⟨(some 1), .box 25 (.tmp 0), none⟩,
  ⟨(some 2), .mv (.const (.int .i64 0)), none⟩,
  ⟨(some 3), .mv (.const (.bool false)), none⟩])
 (.seq (.seq (.reg [⟨(some 4), .ld (some 5) (.tmp 1), none⟩,
  ⟨(some 5), .call (.func 61) [(.tmp 4)], none⟩,
  ⟨(some 6), .un .not (.tmp 5), none⟩])
 (.cond (.tmp 6) (.seq (.reg [⟨(some 2), .mv (.const (.int .i64 0)), none⟩,
  ⟨(some 3), .mv (.const (.bool false)), none⟩])
 (.ret)) (.skip)))
 (.seq (.reg [⟨(some 7), .ld (some 5) (.tmp 1), none⟩,
  ⟨(some 8), .call (.func 67) [(.tmp 7)], none⟩,
  ⟨(some 2), .mv (.tmp 8), none⟩,
  ⟨(some 3), .mv (.const (.bool true)), none⟩])
 (.ret)))
def r_spec_BestCycle : List ARes := [.tmp 2, .tmp 3]
theorem ok_spec_BestCycle : FnOk Try.prog 25 9 c_spec_BestCycle r_spec_BestCycle := ⟨⟨Try.f25, _, Try.func25, by kernel_rfl, rfl, rfl, by kernel_rfl, by kernel_rfl⟩⟩
def c_impl_BestCycle : ACode := .seq (.reg [⟨(some 1), .box 25 (.tmp 0), none⟩,
  ⟨(some 2), .mv (.const (.int .i64 0)), none⟩,
  ⟨(some 3), .mv (.const (.bool false)), none⟩])
 (.seq (.seq (.reg [⟨(some 4), .ld (some 5) (.tmp 1), none⟩,
  ⟨(some 5), .call (.func 21) [(.tmp 4)], none⟩,
  ⟨(some 6), .un .not (.tmp 5), none⟩])
 (.cond (.tmp 6) (.seq (.reg [⟨(some 2), .mv (.const (.int .i64 0)), none⟩,
  ⟨(some 3), .mv (.const (.bool false)), none⟩])
 (.ret)) (.skip)))
 (.seq (.reg [⟨(some 7), .ld (some 5) (.tmp 1), none⟩,
  ⟨(some 8), .bld [(.int .i64 0), (.int .i64 0), (.int .i64 0), (.int .i64 0), (.int .i64 0)] [(0, 5, (.tmp 7))], none⟩,
  ⟨(some 9), .mif 69 (.tmp 8), none⟩,
  ⟨(some 10), .call (.func 68) [(.tmp 9)], none⟩,
  ⟨(some 11), .ext 0 (.tmp 10), none⟩,
  ⟨(some 12), .ext 1 (.tmp 10), none⟩,
  ⟨(some 2), .mv (.tmp 11), none⟩,
  ⟨(some 3), .mv (.tmp 12), none⟩])
 (.ret)))
def r_impl_BestCycle : List ARes := [.tmp 2, .tmp 3]
theorem ok_impl_BestCycle : FnOk Try.prog 26 13 c_impl_BestCycle r_impl_BestCycle := ⟨⟨Try.f26, _, Try.func26, by kernel_rfl, rfl, rfl, by kernel_rfl, by kernel_rfl⟩⟩
def c_spec_PowerCycle : ACode := .seq (.reg [⟨(some 1), .box 25 (.tmp 0), none⟩,
  ⟨(some 2), .mv (.const (.int .i64 0)), none⟩,
  ⟨(some 3), .mv (.const (.bool false)), none⟩])
 (.seq (.seq (.reg [⟨(some 6), .ld (some 5) (.tmp 1), none⟩,
  ⟨(some 7), .call (.func 61) [(.tmp 6)], none⟩,
  ⟨(some 8), .un .not (.tmp 7), none⟩])
 (.cond (.tmp 8) (.seq (.reg [⟨(some 2), .mv (.const (.int .i64 0)), none⟩,
  ⟨(some 3), .mv (.const (.bool false)), none⟩])
 (.ret)) (.skip)))
 (.seq (.reg [⟨(some 4), .mv (.const (.int .i64 1)), none⟩])
 (.seq (.seq (.reg [⟨(some 5), .mv (.const (.int .i64 2)), none⟩])
 (.block 0 (.loop (.seq (.seq (.reg [⟨(some 9), .mv (.tmp 5), none⟩,
  ⟨(some 10), .bin .leq (.tmp 9) (.const (.int .i64 64)), none⟩])
 (.cond (.tmp 10) (.skip) (.exit 0)))
 (.seq (.block 1 (.seq (.reg [⟨(some 13), .ld (some 5) (.tmp 1), none⟩,
  ⟨(some 14), .mv (.tmp 5), none⟩,
  ⟨(some 16), .ld (some 5) (.tmp 1), none⟩,
  ⟨(some 17), .mv (.tmp 4), none⟩,
  ⟨(some 15), .rcall (.func 65) [(.tmp 13), (.tmp 14)], none⟩,
  ⟨(some 18), .rcall (.func 65) [(.tmp 16), (.tmp 17)], none⟩,
  ⟨(some 19), .rcall (.func 69) [(.tmp 15), (.tmp 18)], none⟩])
 (.cond (.tmp 19) (.reg [⟨(some 20), .mv (.tmp 5), none⟩,
  ⟨(some 4), .mv (.tmp 20), none⟩]) (.skip))))
 (.reg [⟨(some 11), .mv (.tmp 5), none⟩,
  ⟨(some 12), .bin .mul (.const (.int .i64 2)) (.tmp 11), none⟩,
  ⟨(some 5), .mv (.tmp 12), none⟩]))))))
 (.seq (.reg [⟨(some 21), .mv (.tmp 4), none⟩,
  ⟨(some 2), .mv (.tmp 21), none⟩,
  ⟨(some 3), .mv (.const (.bool true)), none⟩])
 (.ret)))))
def r_spec_PowerCycle : List ARes := [.tmp 2, .tmp 3]
theorem ok_spec_PowerCycle : FnOk Try.prog 27 22 c_spec_PowerCycle r_spec_PowerCycle := ⟨⟨Try.f27, _, Try.func27, by kernel_rfl, rfl, rfl, by kernel_rfl, by kernel_rfl⟩⟩
def c_impl_PowerCycle : ACode := .seq (.reg [⟨(some 1), .box 25 (.tmp 0), none⟩,
  ⟨(some 2), .mv (.const (.int .i64 0)), none⟩,
  ⟨(some 3), .mv (.const (.bool false)), none⟩])
 (.seq (.seq (.reg [⟨(some 4), .ld (some 5) (.tmp 1), none⟩,
  ⟨(some 5), .call (.func 21) [(.tmp 4)], none⟩,
  ⟨(some 6), .un .not (.tmp 5), none⟩])
 (.cond (.tmp 6) (.seq (.reg [⟨(some 2), .mv (.const (.int .i64 0)), none⟩,
  ⟨(some 3), .mv (.const (.bool false)), none⟩])
 (.ret)) (.skip)))
 (.seq (.reg [⟨(some 7), .ld (some 5) (.tmp 1), none⟩,
  ⟨(some 8), .bld [(.int .i64 0), (.int .i64 0), (.int .i64 0), (.int .i64 0), (.int .i64 0)] [(0, 5, (.tmp 7))], none⟩,
  ⟨(some 9), .bld [(.int .i64 0), (.int .i64 0), (.int .i64 0), (.int .i64 0), (.int .i64 0)] [(0, 5, (.tmp 8))], none⟩,
  ⟨(some 10), .mif 74 (.tmp 9), none⟩,
  ⟨(some 11), .call (.func 68) [(.tmp 10)], none⟩,
  ⟨(some 12), .ext 0 (.tmp 11), none⟩,
  ⟨(some 13), .ext 1 (.tmp 11), none⟩,
  ⟨(some 2), .mv (.tmp 12), none⟩,
  ⟨(some 3), .mv (.tmp 13), none⟩])
 (.ret)))
def r_impl_PowerCycle : List ARes := [.tmp 2, .tmp 3]
theorem ok_impl_PowerCycle : FnOk Try.prog 28 14 c_impl_PowerCycle r_impl_PowerCycle := ⟨⟨Try.f28, _, Try.func28, by kernel_rfl, rfl, rfl, by kernel_rfl, by kernel_rfl⟩⟩
def c_spec_FamilyCost : ACode := .seq (.reg [⟨(some 8), .alc 28 [(.int .i64 0), (.int .i64 0)], none⟩,
  ⟨(some 9), .mv (.const (.bool false)), none⟩])
 (.seq (.seq (.reg [⟨(some 10), .mv (.tmp 0), none⟩,
  ⟨(some 11), .call (.func 70) [(.tmp 10)], none⟩,
  ⟨(some 12), .un .not (.tmp 11), none⟩,
  ⟨(some 13), .mv (.tmp 12), none⟩,
  ⟨(some 14), .mv (.tmp 1), (some (13, false))⟩,
  ⟨(some 15), .call (.func 64) [(.tmp 14), (.const (.int .i64 0)), (.const (.int .i64 99))], (some (13, false))⟩,
  ⟨(some 16), .un .not (.tmp 15), (some (13, false))⟩,
  ⟨(some 17), .pick (.tmp 13) (.const (.bool true)) (.tmp 16), none⟩,
  ⟨(some 18), .mv (.tmp 17), none⟩,
  ⟨(some 19), .mv (.tmp 2), (some (18, false))⟩,
  ⟨(some 20), .call (.func 64) [(.tmp 19), (.const (.int .i64 1)), (.const (.int .i64 32))], (some (18, false))⟩,
  ⟨(some 21), .un .not (.tmp 20), (some (18, false))⟩,
  ⟨(some 22), .pick (.tmp 18) (.const (.bool true)) (.tmp 21), none⟩,
  ⟨(some 23), .mv (.tmp 22), none⟩,
  ⟨(some 24), .mv (.tmp 0), (some (23, false))⟩,
  ⟨(some 25), .mv (.tmp 3), (some (23, false))⟩,
  ⟨(some 26), .call (.func 71) [(.tmp 24), (.tmp 25)], (some (23, false))⟩,
  ⟨(some 27), .un .not (.tmp 26), (some (23, false))⟩,
  ⟨(some 28), .pick (.tmp 23) (.const (.bool true)) (.tmp 27), none⟩])
 (.cond (.tmp 28) (.seq (.reg [⟨(some 29), .bld [(.int .i64 0), (.int .i64 0)] [], none⟩,
  ⟨none, .st 2 (.tmp 8) (.tmp 29), none⟩,
  ⟨(some 9), .mv (.const (.bool false)), none⟩])
 (.ret)) (.skip)))
 (.seq (.reg [⟨(some 30), .mv (.tmp 0), none⟩,
  ⟨(some 31), .mv (.tmp 1), none⟩,
  ⟨(some 32), .mv (.tmp 2), none⟩,
  ⟨(some 33), .mv (.tmp 3), none⟩,
  ⟨(some 34), .call (.func 72) [(.tmp 30), (.tmp 31), (.tmp 32), (.tmp 33)], none⟩,
  ⟨none, .st 2 (.tmp 8) (.tmp 34), none⟩,
  ⟨(some 9), .mv (.const (.bool true)), none⟩])
 (.ret)))
def r_spec_FamilyCost : List ARes := [.cell 8 (some 2), .tmp 9]
theorem ok_spec_FamilyCost : FnOk Try.prog 30 35 c_spec_FamilyCost r_spec_FamilyCost := ⟨⟨Try.f30, _, Try.func30, by kernel_rfl, rfl, rfl, by kernel_rfl, by kernel_rfl⟩⟩
def c_impl_FamilyCost : ACode := .seq (.reg [⟨(some 8), .alc 28 [(.int .i64 0), (.int .i64 0)], none⟩,
  ⟨(some 9), .mv (.const (.bool false)), none⟩])
 (.seq (.seq (.reg [⟨(some 10), .mv (.tmp 0), none⟩,
  ⟨(some 11), .call (.func 73) [(.tmp 10)], none⟩,
  ⟨(some 12), .un .not (.tmp 11), none⟩,
  ⟨(some 13), .mv (.tmp 12), none⟩,
  ⟨(some 14), .mv (.tmp 1), (some (13, false))⟩,
  ⟨(some 15), .call (.func 63) [(.tmp 14), (.const (.int .i64 99))], (some (13, false))⟩,
  ⟨(some 16), .un .not (.tmp 15), (some (13, false))⟩,
  ⟨(some 17), .pick (.tmp 13) (.const (.bool true)) (.tmp 16), none⟩,
  ⟨(some 18), .mv (.tmp 17), none⟩,
  ⟨(some 19), .mv (.tmp 2), (some (18, false))⟩,
  ⟨(some 20), .call (.func 62) [(.tmp 19), (.const (.int .i64 32))], (some (18, false))⟩,
  ⟨(some 21), .un .not (.tmp 20), (some (18, false))⟩,
  ⟨(some 22), .pick (.tmp 18) (.const (.bool true)) (.tmp 21), none⟩,
  ⟨(some 23), .mv (.tmp 22), none⟩,
  ⟨(some 24), .mv (.tmp 3), (some (23, false))⟩,
  ⟨(some 25), .mv (.tmp 0), (some (23, false))⟩,
  ⟨(some 26), .len (.tmp 25), (some (23, false))⟩,
  ⟨(some 27), .call (.func 74) [(.tmp 24), (.tmp 26), (.const (.int .i64 8))], (some (23, false))⟩,
  ⟨(some 28), .un .not (.tmp 27), (some (23, false))⟩,
  ⟨(some 29), .pick (.tmp 23) (.const (.bool true)) (.tmp 28), none⟩])
 (.cond (.tmp 29) (.seq (.reg [⟨(some 30), .bld [(.int .i64 0), (.int .i64 0)] [], none⟩,
  ⟨none, .st 2 (.tmp 8) (.tmp 30), none⟩,
  ⟨(some 9), .mv (.const (.bool false)), none⟩])
 (.ret)) (.skip)))
 (.seq (.reg [⟨(some 31), .mv (.tmp 0), none⟩,
  ⟨(some 32), .mv (.tmp 1), none⟩,
  ⟨(some 33), .mv (.tmp 2), none⟩,
  ⟨(some 34), .mv (.tmp 3), none⟩,
  ⟨(some 35), .call (.func 75) [(.tmp 31), (.tmp 32), (.tmp 33), (.tmp 34)], none⟩,
  ⟨none, .st 2 (.tmp 8) (.tmp 35), none⟩,
  ⟨(some 9), .mv (.const (.bool true)), none⟩])
 (.ret)))
def r_impl_FamilyCost : List ARes := [.cell 8 (some 2), .tmp 9]
theorem ok_impl_FamilyCost : FnOk Try.prog 33 36 c_impl_FamilyCost r_impl_FamilyCost := ⟨⟨Try.f33, _, Try.func33, by kernel_rfl, rfl, rfl, by kernel_rfl, by kernel_rfl⟩⟩
def c_spec_BestFactors : ACode := .seq (.reg [⟨(some 4), .mv (.const (.slice none 0 0)), none⟩,
  ⟨(some 5), .mv (.const (.bool false)), none⟩])
 (.seq (.seq (.reg [⟨(some 6), .mv (.tmp 0), none⟩,
  ⟨(some 7), .call (.func 70) [(.tmp 6)], none⟩,
  ⟨(some 8), .un .not (.tmp 7), none⟩,
  ⟨(some 9), .mv (.tmp 8), none⟩,
  ⟨(some 10), .mv (.tmp 1), (some (9, false))⟩,
  ⟨(some 11), .call (.func 64) [(.tmp 10), (.const (.int .i64 1)), (.const (.int .i64 32))], (some (9, false))⟩,
  ⟨(some 12), .un .not (.tmp 11), (some (9, false))⟩,
  ⟨(some 13), .pick (.tmp 9) (.const (.bool true)) (.tmp 12), none⟩])
 (.cond (.tmp 13) (.seq (.reg [⟨(some 14), .bsl 3 1 0 [] [], none⟩,
  ⟨(some 4), .mv (.tmp 14), none⟩,
  ⟨(some 5), .mv (.const (.bool false)), none⟩])
 (.ret)) (.skip)))
 (.seq (.reg [⟨(some 15), .mv (.tmp 0), none⟩,
  ⟨(some 16), .mv (.tmp 1), none⟩,
  ⟨(some 17), .call (.func 77) [(.tmp 15), (.tmp 16)], none⟩,
  ⟨(some 4), .mv (.tmp 17), none⟩,
  ⟨(some 5), .mv (.const (.bool true)), none⟩])
 (.ret)))
def r_spec_BestFactors : List ARes := [.tmp 4, .tmp 5]
theorem ok_spec_BestFactors : FnOk Try.prog 36 18 c_spec_BestFactors r_spec_BestFactors := ⟨⟨Try.f36, _, Try.func36, by kernel_rfl, rfl, rfl, by kernel_rfl, by kernel_rfl⟩⟩
def c_impl_BestFactors : ACode := .seq (.reg [⟨(some 4), .mv (.const (.slice none 0 0)), none⟩,
  ⟨(some 5), .mv (.const (.bool false)), none⟩])
 (.seq (.seq (.reg [⟨(some 6), .mv (.tmp 0), none⟩,
  ⟨(some 7), .call (.func 73) [(.tmp 6)], none⟩,
  ⟨(some 8), .un .not (.tmp 7), none⟩,
  ⟨(some 9), .mv (.tmp 8), none⟩,
  ⟨(some 10), .mv (.tmp 1), (some (9, false))⟩,
  ⟨(some 11), .call (.func 62) [(.tmp 10), (.const (.int .i64 32))], (some (9, false))⟩,
  ⟨(some 12), .un .not (.tmp 11), (some (9, false))⟩,
  ⟨(some 13), .pick (.tmp 9) (.const (.bool true)) (.tmp 12), none⟩])
 (.cond (.tmp 13) (.seq (.reg [⟨(some 14), .bsl 3 1 0 [] [], none⟩,
  ⟨(some 4), .mv (.tmp 14), none⟩,
  ⟨(some 5), .mv (.const (.bool false)), none⟩])
 (.ret)) (.skip)))
 (.seq (.reg [⟨(some 15), .mv (.tmp 0), none⟩,
  ⟨(some 16), .mv (.tmp 1), none⟩,
  ⟨(some 17), .call (.func 78) [(.tmp 15), (.tmp 16)], none⟩,
  ⟨(some 4), .mv (.tmp 17), none⟩,
  ⟨(some 5), .mv (.const (.bool true)), none⟩])
 (.ret)))
def r_impl_BestFactors : List ARes := [.tmp 4, .tmp 5]
theorem ok_impl_BestFactors : FnOk Try.prog 37 18 c_impl_BestFactors r_impl_BestFactors := ⟨⟨Try.f37, _, Try.func37, by kernel_rfl, rfl, rfl, by kernel_rfl, by kernel_rfl⟩⟩
def c_spec_BestBase : ACode := .seq (.reg [⟨(some 4), .mv (.const (.int .i64 0)), none⟩,
  ⟨(some 5), .mv (.const (.slice none 0 0)), none⟩,
  ⟨(some 6), .mv (.const (.bool false)), none⟩])
 (.seq (.seq (.reg [⟨(some 9), .mv (.tmp 0), none⟩,
  ⟨(some 10), .call (.func 70) [(.tmp 9)], none⟩,
  ⟨(some 11), .un .not (.tmp 10), none⟩,
  ⟨(some 12), .mv (.tmp 11), none⟩,
  ⟨(some 13), .mv (.tmp 1), (some (12, false))⟩,
  ⟨(some 14), .call (.func 64) [(.tmp 13), (.const (.int .i64 0)), (.const (.int .i64 99))], (some (12, false))⟩,
  ⟨(some 15), .un .not (.tmp 14), (some (12, false))⟩,
  ⟨(some 16), .pick (.tmp 12) (.const (.bool true)) (.tmp 15), none⟩])
 (.cond (.tmp 16) (.seq (.reg [⟨(some 17), .bsl 3 1 0 [] [], none⟩,
  ⟨(some 4), .mv (.const (.int .i64 0)), none⟩,
  ⟨(some 5), .mv (.tmp 17), none⟩,
  ⟨(some 6), .mv (.const (.bool false)), none⟩])
 (.ret)) (.skip)))
 (.seq (.reg [⟨(some 7), .mv (.const (.int .i64 1)), none⟩])
 (.seq (.seq (.reg [⟨(some 8), .mv (.const (.int .i64 2)), none⟩])
 (.block 0 (.loop (.seq (.seq (.reg [⟨(some 18), .mv (.tmp 8), none⟩,
  ⟨(some 19), .bin .leq (.tmp 18) (.const (.int .i64 32)), none⟩])
 (.cond (.tmp 19) (.skip) (.exit 0)))
 (.seq (.block 1 (.seq (.reg [⟨(some 22), .mv (.tmp 0), none⟩,
  ⟨(some 23), .mv (.tmp 1), none⟩,
  ⟨(some 24), .mv (.tmp 8), none⟩,
  ⟨(some 25), .mv (.tmp 0), none⟩,
  ⟨(some 26), .mv (.tmp 8), none⟩,
  ⟨(some 27), .call (.func 77) [(.tmp 25), (.tmp 26)], none⟩,
  ⟨(some 28), .call (.func 72) [(.tmp 22), (.tmp 23), (.tmp 24), (.tmp 27)], none⟩,
  ⟨(some 29), .mv (.tmp 0), none⟩,
  ⟨(some 30), .mv (.tmp 1), none⟩,
  ⟨(some 31), .mv (.tmp 7), none⟩,
  ⟨(some 32), .mv (.tmp 0), none⟩,
  ⟨(some 33), .mv (.tmp 7), none⟩,
  ⟨(some 34), .call (.func 77) [(.tmp 32), (.tmp 33)], none⟩,
  ⟨(some 35), .call (.func 72) [(.tmp 29), (.tmp 30), (.tmp 31), (.tmp 34)], none⟩,
  ⟨(some 36), .call (.func 69) [(.tmp 28), (.tmp 35)], none⟩])
 (.cond (.tmp 36) (.reg [⟨(some 37), .mv (.tmp 8), none⟩,
  ⟨(some 7), .mv (.tmp 37), none⟩]) (.skip))))
 (.reg [⟨(some 20), .mv (.tmp 8), none⟩,
  ⟨(some 21), .bin .add (.tmp 20) (.const (.int .i64 1)), none⟩,
  ⟨(some 8), .mv (.tmp 21), none⟩]))))))
 (.seq (.reg [⟨(some 38), .mv (.tmp 7), none⟩,
  ⟨(some 39), .mv (.tmp 0), none⟩,
  ⟨(some 40), .mv (.tmp 7), none⟩,
  ⟨(some 41), .call (.func 77) [(.tmp 39), (.tmp 40)], none⟩,
  ⟨(some 4), .mv (.tmp 38), none⟩,
  ⟨(some 5), .mv (.tmp 41), none⟩,
  ⟨(some 6), .mv (.const (.bool true)), none⟩])
 (.ret)))))
def r_spec_BestBase : List ARes := [.tmp 4, .tmp 5, .tmp 6]
theorem ok_spec_BestBase : FnOk Try.prog 41 42 c_spec_BestBase r_spec_BestBase := ⟨⟨Try.f41, _, Try.func41, by kernel_rfl, rfl, rfl, by kernel_rfl, by kernel_rfl⟩⟩
def c_impl_BestBase : ACode := .seq (.reg [⟨(some 4), .mv (.const (.int .i64 0)), none⟩,
  ⟨(some 5), .mv (.const (.slice none 0 0)), none⟩,
  ⟨(some 6), .mv (.const (.bool false)), none⟩])
 (.seq (.seq (.reg [⟨(some 9), .mv (.tmp 0), none⟩,
  ⟨(some 10), .call (.func 73) [(.tmp 9)], none⟩,
  ⟨(some 11), .un .not (.tmp 10), none⟩,
  ⟨(some 12), .mv (.tmp 11), none⟩,
  ⟨(some 13), .mv (.tmp 1), (some (12, false))⟩,
  ⟨(some 14), .call (.func 63) [(.tmp 13), (.const (.int .i64 99))], (some (12, false))⟩,
  ⟨(some 15), .un .not (.tmp 14), (some (12, false))⟩,
  ⟨(some 16), .pick (.tmp 12) (.const (.bool true)) (.tmp 15), none⟩])
 (.cond (.tmp 16) (.seq (.reg [⟨(some 17), .bsl 3 1 0 [] [], none⟩,
  ⟨(some 4), .mv (.const (.int .i64 0)), none⟩,
  ⟨(some 5), .mv (.tmp 17), none⟩,
  ⟨(some 6), .mv (.const (.bool false)), none⟩])
 (.ret)) (.skip)))
 (.seq (.reg [⟨(some 19), .mv (.tmp 0), none⟩,
  ⟨(some 20), .mv (.tmp 1), none⟩,
  ⟨(some 21), .bld [(.slice none 0 0), (.int .i64 0)] [(0, 1, (.tmp 19)), (1, 1, (.tmp 20))], none⟩,
  ⟨(some 22), .mif 83 (.tmp 21), none⟩,
  ⟨(some 23), .call (.func 68) [(.tmp 22)], none⟩,
  ⟨(some 18), .mv (.tmp 23), none⟩,
  ⟨(some 24), .ext 0 (.tmp 18), none⟩,
  ⟨(some 25), .ext 1 (.tmp 18), none⟩,
  ⟨(some 7), .mv (.tmp 24), none⟩,
  ⟨(some 8), .mv (.tmp 25), none⟩])
 (.seq (.reg [⟨(some 26), .mv (.tmp 7), none⟩,
  ⟨(some 27), .mv (.tmp 0), none⟩,
  ⟨(some 28), .mv (.tmp 7), none⟩,
  ⟨(some 29), .call (.func 78) [(.tmp 27), (.tmp 28)], none⟩,
  ⟨(some 30), .mv (.tmp 8), none⟩,
  ⟨(some 4), .mv (.tmp 26), none⟩,
  ⟨(some 5), .mv (.tmp 29), none⟩,
  ⟨(some 6), .mv (.tmp 30), none⟩])
 (.ret))))
def r_impl_BestBase : List ARes := [.tmp 4, .tmp 5, .tmp 6]
theorem ok_impl_BestBase : FnOk Try.prog 42 31 c_impl_BestBase r_impl_BestBase := ⟨⟨Try.f42, _, Try.func42, by kernel_rfl, rfl, rfl, by kernel_rfl, by kernel_rfl⟩⟩
def c_spec_CycleFits : ACode := .seq (.reg [⟨(some 4), .mv (.const (.bool false)), none⟩,
  ⟨(some 5), .mv (.const (.bool false)), none⟩])
 (.seq (.seq (.reg [⟨(some 6), .mv (.tmp 0), none⟩,
  ⟨(some 7), .mv (.tmp 1), none⟩,
  ⟨(some 8), .call (.func 79) [(.tmp 6), (.tmp 7)], none⟩,
  ⟨(some 9), .un .not (.tmp 8), none⟩])
 (.cond (.tmp 9) (.seq (.reg [⟨(some 4), .mv (.const (.bool false)), none⟩,
  ⟨(some 5), .mv (.const (.bool false)), none⟩])
 (.ret)) (.skip)))
 (.seq (.reg [⟨(some 10), .mv (.tmp 0), none⟩,
  ⟨(some 11), .mv (.tmp 1), none⟩,
  ⟨(some 12), .call (.func 80) [(.tmp 10), (.tmp 11)], none⟩,
  ⟨(some 4), .mv (.tmp 12), none⟩,
  ⟨(some 5), .mv (.const (.bool true)), none⟩])
 (.ret)))
def r_spec_CycleFits : List ARes := [.tmp 4, .tmp 5]
theorem ok_spec_CycleFits : FnOk Try.prog 43 13 c_spec_CycleFits r_spec_CycleFits := ⟨⟨Try.f43, _, Try.func43, by kernel_rfl, rfl, rfl, by kernel_rfl, by kernel_rfl⟩⟩
def c_impl_CycleFits : ACode := .seq (.reg [⟨(some 4), .mv (.const (.bool false)), none⟩,
  ⟨(some 5), .mv (.const (.bool false)), none⟩])
 (.seq (.seq (.reg [⟨(some 6), .mv (.tmp 0), none⟩,
  ⟨(some 7), .call (.func 73) [(.tmp 6)], none⟩,
  ⟨(some 8), .un .not (.tmp 7), none⟩,
  ⟨(some 9), .mv (.tmp 8), none⟩,
  ⟨(some 10), .mv (.tmp 1), (some (9, false))⟩,
  ⟨(some 11), .call (.func 62) [(.tmp 10), (.const (.int .i64 400))], (some (9, false))⟩,
  ⟨(some 12), .un .not (.tmp 11), (some (9, false))⟩,
  ⟨(some 13), .pick (.tmp 9) (.const (.bool true)) (.tmp 12), none⟩])
 (.cond (.tmp 13) (.seq (.reg [⟨(some 4), .mv (.const (.bool false)), none⟩,
  ⟨(some 5), .mv (.const (.bool false)), none⟩])
 (.ret)) (.skip)))
 (.seq (.reg [⟨(some 14), .mv (.tmp 0), none⟩,
  ⟨(some 15), .mv (.tmp 1), none⟩,
  ⟨(some 16), .call (.func 81) [(.tmp 14), (.tmp 15)], none⟩,
  ⟨(some 4), .mv (.tmp 16), none⟩,
  ⟨(some 5), .mv (.const (.bool true)), none⟩])
 (.ret)))
def r_impl_CycleFits : List ARes := [.tmp 4, .tmp 5]
theorem ok_impl_CycleFits : FnOk Try.prog 44 17 c_impl_CycleFits r_impl_CycleFits := ⟨⟨Try.f44, _, Try.func44, by kernel_rfl, rfl, rfl, by kernel_rfl, by kernel_rfl⟩⟩
def c_impl_LeastCommon : ACode := .seq (.reg [⟨(some 2), .mv (.const (.int .i64 0)), none⟩,
  ⟨(some 3), .mv (.const (.bool false)), none⟩])
 (.seq (.seq (.reg [⟨(some 5), .mv (.tmp 0), none⟩,
  ⟨(some 6), .call (.func 73) [(.tmp 5)], none⟩,
  ⟨(some 7), .un .not (.tmp 6), none⟩])
 (.cond (.tmp 7) (.seq (.reg [⟨(some 2), .mv (.const (.int .i64 0)), none⟩,
  ⟨(some 3), .mv (.const (.bool false)), none⟩])
 (.ret)) (.skip)))
 (.seq (.reg [⟨(some 8), .mv (.tmp 0), none⟩,
  ⟨(some 9), .call (.func 83) [(.tmp 8)], none⟩,
  ⟨(some 4), .mv (.tmp 9), none⟩])
 (.seq (.seq (.reg [⟨(some 10), .mv (.tmp 4), none⟩,
  ⟨(some 11), .len (.tmp 10), none⟩,
  ⟨(some 12), .bin .eql (.tmp 11) (.const (.int .i64 0)), none⟩])
 (.cond (.tmp 12) (.seq (.reg [⟨(some 2), .mv (.const (.int .i64 0)), none⟩,
  ⟨(some 3), .mv (.const (.bool false)), none⟩])
 (.ret)) (.skip)))
 (.seq (.reg [⟨(some 13), .mv (.tmp 4), none⟩,
  ⟨(some 14), .iad 1 (.tmp 13) (.const (.int .i64 0)), none⟩,
  ⟨(some 15), .ld none (.tmp 14), none⟩,
  ⟨(some 2), .mv (.tmp 15), none⟩,
  ⟨(some 3), .mv (.const (.bool true)), none⟩])
 (.ret)))))
def r_impl_LeastCommon : List ARes := [.tmp 2, .tmp 3]
theorem ok_impl_LeastCommon : FnOk Try.prog 46 16 c_impl_LeastCommon r_impl_LeastCommon := ⟨⟨Try.f46, _, Try.func46, by kernel_rfl, rfl, rfl, by kernel_rfl, by kernel_rfl⟩⟩
def c_spec_CommonCost : ACode := .seq (.reg [⟨(some 4), .alc 28 [(.int .i64 0), (.int .i64 0)], none⟩,
  ⟨(some 5), .mv (.const (.bool false)), none⟩])
 (.seq (.seq (.reg [⟨(some 6), .mv (.tmp 0), none⟩,
  ⟨(some 7), .mv (.tmp 1), none⟩,
  ⟨(some 8), .call (.func 79) [(.tmp 6), (.tmp 7)], none⟩,
  ⟨(some 9), .un .not (.tmp 8), none⟩])
 (.cond (.tmp 9) (.seq (.reg [⟨(some 10), .bld [(.int .i64 0), (.int .i64 0)] [], none⟩,
  ⟨none, .st 2 (.tmp 4) (.tmp 10), none⟩,
  ⟨(some 5), .mv (.const (.bool false)), none⟩])
 (.ret)) (.skip)))
 (.seq (.reg [⟨(some 11), .mv (.tmp 0), none⟩,
  ⟨(some 12), .mv (.tmp 1), none⟩,
  ⟨(some 13), .call (.func 84) [(.tmp 11), (.tmp 12)], none⟩,
  ⟨none, .st 2 (.tmp 4) (.tmp 13), none⟩,
  ⟨(some 5), .mv (.const (.bool true)), none⟩])
 (.ret)))
def r_spec_CommonCost : List ARes := [.cell 4 (some 2), .tmp 5]
theorem ok_spec_CommonCost : FnOk Try.prog 47 14 c_spec_CommonCost r_spec_CommonCost := ⟨⟨Try.f47, _, Try.func47, by kernel_rfl, rfl, rfl, by kernel_rfl, by kernel_rfl⟩⟩
def c_impl_CommonCost : ACode := .seq (.reg [⟨(some 4), .alc 28 [(.int .i64 0), (.int .i64 0)], none⟩,
  ⟨(some 5), .mv (.const (.bool false)), none⟩])
 (.seq (.seq (.reg [⟨(some 6), .mv (.tmp 0), none⟩,
  ⟨(some 7), .call (.func 73) [(.tmp 6)], none⟩,
  ⟨(some 8), .un .not (.tmp 7), none⟩,
  ⟨(some 9), .mv (.tmp 8), none⟩,
  ⟨(some 10), .mv (.tmp 1), (some (9, false))⟩,
  ⟨(some 11), .call (.func 62) [(.tmp 10), (.const (.int .i64 400))], (some (9, false))⟩,
  ⟨(some 12), .un .not (.tmp 11), (some (9, false))⟩,
  ⟨(some 13), .pick (.tmp 9) (.const (.bool true)) (.tmp 12), none⟩])
 (.cond (.tmp 13) (.seq (.reg [⟨(some 14), .bld [(.int .i64 0), (.int .i64 0)] [], none⟩,
  ⟨none, .st 2 (.tmp 4) (.tmp 14), none⟩,
  ⟨(some 5), .mv (.const (.bool false)), none⟩])
 (.ret)) (.skip)))
 (.seq (.reg [⟨(some 15), .mv (.tmp 0), none⟩,
  ⟨(some 16), .mv (.tmp 1), none⟩,
  ⟨(some 17), .call (.func 85) [(.tmp 15), (.tmp 16)], none⟩,
  ⟨none, .st 2 (.tmp 4) (.tmp 17), none⟩,
  ⟨(some 5), .mv (.const (.bool true)), none⟩])
 (.ret)))
def r_impl_CommonCost : List ARes := [.cell 4 (some 2), .tmp 5]
theorem ok_impl_CommonCost : FnOk Try.prog 48 18 c_impl_CommonCost r_impl_CommonCost := ⟨⟨Try.f48, _, Try.func48, by kernel_rfl, rfl, rfl, by kernel_rfl, by kernel_rfl⟩⟩
def c_spec_BestCommon : ACode := .seq (.reg [⟨(some 2), .mv (.const (.int .i64 0)), none⟩,
  ⟨(some 3), .mv (.const (.bool false)), none⟩])
 (.seq (.seq (.reg [⟨(some 6), .mv (.tmp 0), none⟩,
  ⟨(some 7), .call (.func 70) [(.tmp 6)], none⟩,
  ⟨(some 8), .un .not (.tmp 7), none⟩,
  ⟨(some 9), .mv (.tmp 8), none⟩,
  ⟨(some 10), .mv (.tmp 0), (some (9, false))⟩,
  ⟨(some 11), .call (.func 82) [(.tmp 10)], (some (9, false))⟩,
  ⟨(some 12), .bin .eql (.tmp 11) (.const (.int .i64 0)), (some (9, false))⟩,
  ⟨(some 13), .pick (.tmp 9) (.const (.bool true)) (.tmp 12), none⟩])
 (.cond (.tmp 13) (.seq (.reg [⟨(some 2), .mv (.const (.int .i64 0)), none⟩,
  ⟨(some 3), .mv (.const (.bool false)), none⟩])
 (.ret)) (.skip)))
 (.seq (.reg [⟨(some 14), .mv (.tmp 0), none⟩,
  ⟨(some 15), .call (.func 82) [(.tmp 14)], none⟩,
  ⟨(some 4), .mv (.tmp 15), none⟩])
 (.seq (.seq (.reg [⟨(some 16), .mv (.tmp 4), none⟩,
  ⟨(some 17), .bin .add (.tmp 16) (.const (.int .i64 1)), none⟩,
  ⟨(some 5), .mv (.tmp 17), none⟩])
 (.block 0 (.loop (.seq (.seq (.reg [⟨(some 18), .mv (.tmp 5), none⟩,
  ⟨(some 19), .bin .leq (.tmp 18) (.const (.int .i64 400)), none⟩])
 (.cond (.tmp 19) (.skip) (.exit 0)))
 (.seq (.block 1 (.seq (.reg [⟨(some 22), .mv (.tmp 0), none⟩,
  ⟨(some 23), .mv (.tmp 5), none⟩,
  ⟨(some 24), .mv (.tmp 4), none⟩,
  ⟨(some 25), .call (.func 86) [(.tmp 22), (.tmp 23), (.tmp 24)], none⟩])
 (.cond (.tmp 25) (.reg [⟨(some 26), .mv (.tmp 5), none⟩,
  ⟨(some 4), .mv (.tmp 26), none⟩]) (.skip))))
 (.reg [⟨(some 20), .mv (.tmp 5), none⟩,
  ⟨(some 21), .bin .add (.tmp 20) (.const (.int .i64 1)), none⟩,
  ⟨(some 5), .mv (.tmp 21), none⟩]))))))
 (.seq (.reg [⟨(some 27), .mv (.tmp 4), none⟩,
  ⟨(some 2), .mv (.tmp 27), none⟩,
  ⟨(some 3), .mv (.const (.bool true)), none⟩])
 (.ret)))))
def r_spec_BestCommon : List ARes := [.tmp 2, .tmp 3]
theorem ok_spec_BestCommon : FnOk Try.prog 49 28 c_spec_BestCommon r_spec_BestCommon := ⟨⟨Try.f49, _, Try.func49, by kernel_rfl, rfl, rfl, by kernel_rfl, by kernel_rfl⟩⟩
def c_impl_BestCommon : ACode := .seq (.reg [⟨(some 2), .mv (.const (.int .i64 0)), none⟩,
  ⟨(some 3), .mv (.const (.bool false)), none⟩])
 (.seq (.seq (.reg [⟨(some 4), .mv (.tmp 0), none⟩,
  ⟨(some 5), .call (.func 73) [(.tmp 4)], none⟩,
  ⟨(some 6), .un .not (.tmp 5), none⟩])
 (.cond (.tmp 6) (.seq (.reg [⟨(some 2), .mv (.const (.int .i64 0)), none⟩,
  ⟨(some 3), .mv (.const (.bool false)), none⟩])
 (.ret)) (.skip)))
 (.seq (.reg [⟨(some 7), .mv (.tmp 0), none⟩,
  ⟨(some 8), .mif 85 (.tmp 7), none⟩,
  ⟨(some 9), .call (.func 68) [(.tmp 8)], none⟩,
  ⟨(some 10), .ext 0 (.tmp 9), none⟩,
  ⟨(some 11), .ext 1 (.tmp 9), none⟩,
  ⟨(some 2), .mv (.tmp 10), none⟩,
  ⟨(some 3), .mv (.tmp 11), none⟩])
 (.ret)))
def r_impl_BestCommon : List ARes := [.tmp 2, .tmp 3]
theorem ok_impl_BestCommon : FnOk Try.prog 50 12 c_impl_BestCommon r_impl_BestCommon := ⟨⟨Try.f50, _, Try.func50, by kernel_rfl, rfl, rfl, by kernel_rfl, by kernel_rfl⟩⟩
def c_spec_IsFree : ACode := .seq (.reg [⟨(some 4), .mv (.const (.bool false)), none⟩,
  ⟨(some 5), .mv (.const (.bool false)), none⟩])
 (.seq (.seq (.reg [⟨(some 8), .mv (.tmp 0), none⟩,
  ⟨(some 9), .mv (.tmp 1), none⟩,
  ⟨(some 10), .call (.func 87) [(.tmp 8), (.tmp 9)], none⟩,
  ⟨(some 11), .un .not (.tmp 10), none⟩])
 (.cond (.tmp 11) (.seq (.reg [⟨(some 4), .mv (.const (.bool false)), none⟩,
  ⟨(some 5), .mv (.const (.bool false)), none⟩])
 (.ret)) (.skip)))
 (.seq (.seq (.reg [⟨(some 6), .mv (.const (.int .i64 0)), none⟩])
 (.block 0 (.loop (.seq (.seq (.reg [⟨(some 12), .mv (.tmp 6), none⟩,
  ⟨(some 13), .mv (.tmp 0), none⟩,
  ⟨(some 14), .len (.tmp 13), none⟩,
  ⟨(some 15), .bin .lss (.tmp 12) (.tmp 14), none⟩])
 (.cond (.tmp 15) (.skip) (.exit 0)))
 (.seq (.block 1 (.seq (.reg [⟨(some 7), .mv (.const (.int .i64 0)), none⟩])
 (.block 2 (.loop (.seq (.seq (.reg [⟨(some 18), .mv (.tmp 7), none⟩,
  ⟨(some 19), .mv (.tmp 6), none⟩,
  ⟨(some 20), .bin .lss (.tmp 18) (.tmp 19), none⟩])
 (.cond (.tmp 20) (.skip) (.exit 2)))
 (.seq (.block 3 (.seq (.reg [⟨(some 23), .mv (.tmp 0), none⟩,
  ⟨(some 24), .mv (.tmp 6), none⟩,
  ⟨(some 25), .iad 1 (.tmp 23) (.tmp 24), none⟩,
  ⟨(some 26), .ld none (.tmp 25), none⟩,
  ⟨(some 27), .mv (.tmp 1), none⟩,
  ⟨(some 28), .mv (.tmp 6), none⟩,
  ⟨(some 29), .iad 1 (.tmp 27) (.tmp 28), none⟩,
  ⟨(some 30), .ld none (.tmp 29), none⟩,
  ⟨(some 31), .mv (.tmp 0), none⟩,
  ⟨(some 32), .mv (.tmp 7), none⟩,
  ⟨(some 33), .iad 1 (.tmp 31) (.tmp 32), none⟩,
  ⟨(some 34), .ld none (.tmp 33), none⟩,
  ⟨(some 35), .mv (.tmp 1), none⟩,
  ⟨(some 36), .mv (.tmp 7), none⟩,
  ⟨(some 37), .iad 1 (.tmp 35) (.tmp 36), none⟩,
  ⟨(some 38), .ld none (.tmp 37), none⟩,
  ⟨(some 39), .rcall (.func 88) [(.tmp 26), (.tmp 30), (.tmp 34), (.tmp 38)], none⟩])
 (.cond (.tmp 39) (.seq (.reg [⟨(some 4), .mv (.const (.bool false)), none⟩,
  ⟨(some 5), .mv (.const (.bool true)), none⟩])
 (.ret)) (.skip))))
 (.reg [⟨(some 21), .mv (.tmp 7), none⟩,
  ⟨(some 22), .bin .add (.tmp 21) (.const (.int .i64 1)), none⟩,
  ⟨(some 7), .mv (.tmp 22), none⟩])))))))
 (.reg [⟨(some 16), .mv (.tmp 6), none⟩,
  ⟨(some 17), .bin .add (.tmp 16) (.const (.int .i64 1)), none⟩,
  ⟨(some 6), .mv (.tmp 17), none⟩]))))))
 (.seq (.reg [⟨(some 4), .mv (.const (.bool true)), none⟩,
  ⟨(some 5), .mv (.const (.bool true)), none⟩])
 (.ret))))
def r_spec_IsFree : List ARes := [.tmp 4, .tmp 5]
theorem ok_spec_IsFree : FnOk Try.prog 51 40 c_spec_IsFree r_spec_IsFree := ⟨⟨Try.f51, _, Try.func51, by kernel_rfl, rfl, rfl, by kernel_rfl, by kernel_rfl⟩⟩
def c_impl_IsFree : ACode := .seq (.reg [⟨(some 4), .mv (.const (.bool false)), none⟩,
  ⟨(some 5), .mv (.const (.bool false)), none⟩])
 (.seq (.reg [⟨(some 11), .mv (.tmp 0), none⟩,
  ⟨(some 12), .mv (.tmp 1), none⟩,
  ⟨(some 13), .call (.func 89) [(.tmp 11), (.tmp 12)], none⟩,
  ⟨(some 10), .mv (.tmp 13), none⟩,
  ⟨(some 14), .ext 0 (.tmp 10), none⟩,
  ⟨(some 15), .ext 1 (.tmp 10), none⟩,
  ⟨(some 6), .mv (.tmp 14), none⟩,
  ⟨(some 7), .mv (.tmp 15), none⟩])
 (.seq (.seq (.reg [⟨(some 16), .mv (.tmp 7), none⟩,
  ⟨(some 17), .un .not (.tmp 16), none⟩])
 (.cond (.tmp 17) (.seq (.reg [⟨(some 4), .mv (.const (.bool false)), none⟩,
  ⟨(some 5), .mv (.const (.bool false)), none⟩])
 (.ret)) (.skip)))
 (.seq (.seq (.reg [⟨(some 18), .mv (.tmp 6), none⟩,
  ⟨(some 19), .len (.tmp 18), none⟩,
  ⟨(some 20), .mv (.const (.int .i64 0)), none⟩])
 (.block 0 (.loop (.seq (.reg [⟨(some 21), .bin .lss (.tmp 20) (.tmp 19), none⟩])
 (.seq (.cond (.tmp 21) (.skip) (.exit 0))
 (.seq (.block 1 (.seq (.reg [⟨(some 22), .mv (.tmp 20), none⟩,
  ⟨(some 23), .iad 2 (.tmp 18) (.tmp 20), none⟩,
  ⟨(some 24), .ld (some 2) (.tmp 23), none⟩,
  ⟨(some 9), .alc 96 [(.int .i64 0), (.int .i64 0)], none⟩,
  ⟨(some 8), .mv (.tmp 22), none⟩,
  ⟨none, .st 2 (.tmp 9) (.tmp 24), none⟩])
 (.seq (.reg [⟨(some 25), .mv (.tmp 6), none⟩,
  ⟨(some 26), .mv (.tmp 8), none⟩,
  ⟨(some 27), .slc 2 (.tmp 25) none (some (.tmp 26)), none⟩,
  ⟨(some 28), .ld (some 2) (.tmp 9), none⟩,
  ⟨(some 29), .mkf 91 [(.tmp 28)] [], none⟩,
  ⟨(some 30), .rcall (.func 90) [(.tmp 27), (.tmp 29)], none⟩])
 (.cond (.tmp 30) (.seq (.reg [⟨(some 4), .mv (.const (.bool false)), none⟩,
  ⟨(some 5), .mv (.const (.bool true)), none⟩])
 (.ret)) (.skip)))))
 (.reg [⟨(some 31), .bin .add (.tmp 20) (.const (.int .i64 1)), none⟩,
  ⟨(some 20), .mv (.tmp 31), none⟩])))))))
 (.seq (.reg [⟨(some 4), .mv (.const (.bool true)), none⟩,
  ⟨(some 5), .mv (.const (.bool true)), none⟩])
 (.ret)))))
def r_impl_IsFree : List ARes := [.tmp 4, .tmp 5]
theorem ok_impl_IsFree : FnOk Try.prog 52 32 c_impl_IsFree r_impl_IsFree := ⟨⟨Try.f52, _, Try.func52, by kernel_rfl, rfl, rfl, by kernel_rfl, by kernel_rfl⟩⟩
def c_spec_ShareOf : ACode := .seq (.reg [⟨(some 2), .alc 28 [(.int .i64 0), (.int .i64 0)], none⟩,
  ⟨(some 3), .mv (.const (.bool false)), none⟩])
 (.seq (.seq (.reg [⟨(some 4), .mv (.tmp 0), none⟩,
  ⟨(some 5), .call (.func 92) [(.tmp 4)], none⟩,
  ⟨(some 6), .un .not (.tmp 5), none⟩])
 (.cond (.tmp 6) (.seq (.reg [⟨(some 7), .bld [(.int .i64 0), (.int .i64 0)] [], none⟩,
  ⟨none, .st 2 (.tmp 2) (.tmp 7), none⟩,
  ⟨(some 3), .mv (.const (.bool false)), none⟩])
 (.ret)) (.skip)))
 (.seq (.reg [⟨(some 8), .mv (.tmp 0), none⟩,
  ⟨(some 9), .call (.func 93) [(.tmp 8)], none⟩,
  ⟨none, .st 2 (.tmp 2) (.tmp 9), none⟩,
  ⟨(some 3), .mv (.const (.bool true)), none⟩])
 (.ret)))
def r_spec_ShareOf : List ARes := [.cell 2 (some 2), .tmp 3]
theorem ok_spec_ShareOf : FnOk Try.prog 53 10 c_spec_ShareOf r_spec_ShareOf := ⟨⟨Try.f53, _, Try.func53, by kernel_rfl, rfl, rfl, by kernel_rfl, by kernel_rfl⟩⟩
def c_impl_ShareOf : ACode := .seq (.reg [⟨(some 2), .alc 28 [(.int .i64 0), (.int .i64 0)], none⟩,
  ⟨(some 3), .mv (.const (.bool false)), none⟩])
 (.seq (.seq (.reg [⟨(some 7), .mv (.tmp 0), none⟩,
  ⟨(some 8), .call (.func 94) [(.tmp 7)], none⟩,
  ⟨(some 9), .un .not (.tmp 8), none⟩])
 (.cond (.tmp 9) (.seq (.reg [⟨(some 10), .bld [(.int .i64 0), (.int .i64 0)] [], none⟩,
  ⟨none, .st 2 (.tmp 2) (.tmp 10), none⟩,
  ⟨(some 3), .mv (.const (.bool false)), none⟩])
 (.ret)) (.skip)))
 (.seq (.reg [⟨(some 11), .call (.func 95) [(.const (.int .i64 0)), (.const (.int .i64 1))], none⟩,
  ⟨(some 4), .alc 67 [(.int .i64 0), (.int .i64 0)], none⟩,
  ⟨none, .st 2 (.tmp 4) (.tmp 11), none⟩])
 (.seq (.seq (.reg [⟨(some 12), .mv (.tmp 0), none⟩,
  ⟨(some 13), .len (.tmp 12), none⟩,
  ⟨(some 14), .mv (.const (.int .i64 0)), none⟩])
 (.block 0 (.loop (.seq (.reg [⟨(some 15), .bin .lss (.tmp 14) (.tmp 13), none⟩])
 (.seq (.cond (.tmp 15) (.skip) (.exit 0))
 (.seq (.block 1 (.seq (.reg [⟨(some 16), .iad 1 (.tmp 12) (.tmp 14), none⟩,
  ⟨(some 17), .ld none (.tmp 16), none⟩,
  ⟨(some 6), .mv (.tmp 17), none⟩])
 (.reg [⟨(some 18), .ld (some 2) (.tmp 4), none⟩,
  ⟨(some 19), .mv (.tmp 6), none⟩,
  ⟨(some 20), .rcall (.func 95) [(.const (.int .i64 1)), (.tmp 19)], none⟩,
  ⟨(some 21), .rcall (.func 96) [(.tmp 18), (.tmp 20)], none⟩,
  ⟨none, .st 2 (.tmp 4) (.tmp 21), none⟩])))
 (.reg [⟨(some 22), .bin .add (.tmp 14) (.const (.int .i64 1)), none⟩,
  ⟨(some 14), .mv (.tmp 22), none⟩])))))))
 (.seq (.reg [⟨(some 23), .ld (some 2) (.tmp 4), none⟩,
  ⟨none, .st 2 (.tmp 2) (.tmp 23), none⟩,
  ⟨(some 3), .mv (.const (.bool true)), none⟩])
 (.ret)))))
def r_impl_ShareOf : List ARes := [.cell 2 (some 2), .tmp 3]
theorem ok_impl_ShareOf : FnOk Try.prog 54 24 c_impl_ShareOf r_impl_ShareOf := ⟨⟨Try.f54, _, Try.func54, by kernel_rfl, rfl, rfl, by kernel_rfl, by kernel_rfl⟩⟩
def c_spec_FindOffsets : ACode := .seq (.reg [⟨(some 2), .mv (.const (.slice none 0 0)), none⟩,
  ⟨(some 3), .mv (.const (.bool false)), none⟩])
 (.seq (.seq (.reg [⟨(some 5), .mv (.tmp 0), none⟩,
  ⟨(some 6), .call (.func 92) [(.tmp 5)], none⟩,
  ⟨(some 7), .un .not (.tmp 6), none⟩])
 (.cond (.tmp 7) (.seq (.reg [⟨(some 8), .bsl 3 1 0 [] [], none⟩,
  ⟨(some 2), .mv (.tmp 8), none⟩,
  ⟨(some 3), .mv (.const (.bool false)), none⟩])
 (.ret)) (.skip)))
 (.seq (.seq (.reg [⟨(some 9), .mv (.tmp 0), none⟩,
  ⟨(some 10), .call (.func 93) [(.tmp 9)], none⟩,
  ⟨(some 4), .alc 28 [(.int .i64 0), (.int .i64 0)], none⟩,
  ⟨none, .st 2 (.tmp 4) (.tmp 10), none⟩])
 (.seq (.reg [⟨(some 11), .iada 1 2 (.tmp 4) (.const (.int .i64 0)), none⟩,
  ⟨(some 12), .ld none (.tmp 11), none⟩,
  ⟨(some 13), .iada 1 2 (.tmp 4) (.const (.int .i64 1)), none⟩,
  ⟨(some 14), .ld none (.tmp 13), none⟩,
  ⟨(some 15), .bin .gtr (.tmp 12) (.tmp 14), none⟩])
 (.cond (.tmp 15) (.seq (.reg [⟨(some 16), .bsl 3 1 0 [] [], none⟩,
  ⟨(some 2), .mv (.tmp 16), none⟩,
  ⟨(some 3), .mv (.const (.bool false)), none⟩])
 (.ret)) (.skip))))
 (.seq (.reg [⟨(some 17), .mv (.tmp 0), none⟩,
  ⟨(some 18), .bsl 3 1 0 [] [], none⟩,
  ⟨(some 19), .call (.func 97) [(.tmp 17), (.tmp 18)], none⟩,
  ⟨(some 20), .ext 0 (.tmp 19), none⟩,
  ⟨(some 21), .ext 1 (.tmp 19), none⟩,
  ⟨(some 2), .mv (.tmp 20), none⟩,
  ⟨(some 3), .mv (.tmp 21), none⟩])
 (.ret))))
def r_spec_FindOffsets : List ARes := [.tmp 2, .tmp 3]
theorem ok_spec_FindOffsets : FnOk Try.prog 55 22 c_spec_FindOffsets r_spec_FindOffsets := ⟨⟨Try.f55, _, Try.func55, by kernel_rfl, rfl, rfl, by kernel_rfl, by kernel_rfl⟩⟩
def c_impl_FindOffsets : ACode := .seq (.reg [⟨(some 2), .mv (.const (.slice none 0 0)), none⟩,
  ⟨(some 3), .mv (.const (.bool false)), none⟩])
 (.seq (.seq (.reg [⟨(some 7), .mv (.tmp 0), none⟩,
  ⟨(some 8), .call (.func 94) [(.tmp 7)], none⟩,
  ⟨(some 9), .un .not (.tmp 8), none⟩])
 (.cond (.tmp 9) (.seq (.reg [⟨(some 10), .bsl 3 1 0 [] [], none⟩,
  ⟨(some 2), .mv (.tmp 10), none⟩,
  ⟨(some 3), .mv (.const (.bool false)), none⟩])
 (.ret)) (.skip)))
 (.seq (.reg [⟨(some 11), .bsl 92 1 0 [] [], none⟩,
  ⟨(some 4), .mv (.tmp 11), none⟩])
 (.seq (.seq (.reg [⟨(some 12), .mv (.tmp 0), none⟩,
  ⟨(some 13), .len (.tmp 12), none⟩,
  ⟨(some 14), .mv (.const (.int .i64 0)), none⟩])
 (.block 0 (.loop (.seq (.reg [⟨(some 15), .bin .lss (.tmp 14) (.tmp 13), none⟩])
 (.seq (.cond (.tmp 15) (.skip) (.exit 0))
 (.seq (.block 1 (.seq (.reg [⟨(some 16), .iad 1 (.tmp 12) (.tmp 14), none⟩,
  ⟨(some 17), .ld none (.tmp 16), none⟩,
  ⟨(some 6), .mv (.tmp 17), none⟩])
 (.reg [⟨(some 18), .mv (.tmp 4), none⟩,
  ⟨(some 19), .mv (.tmp 6), none⟩,
  ⟨(some 20), .call (.func 98) [(.tmp 19)], none⟩,
  ⟨(some 21), .bsl 92 1 1 [(.slice none 0 0)] [(0, 1, (.tmp 20))], none⟩,
  ⟨(some 22), .app 92 1 24 (.tmp 18) (.tmp 21), none⟩,
  ⟨(some 4), .mv (.tmp 22), none⟩])))
 (.reg [⟨(some 23), .bin .add (.tmp 14) (.const (.int .i64 1)), none⟩,
  ⟨(some 14), .mv (.tmp 23), none⟩])))))))
 (.seq (.seq (.reg [⟨(some 24), .mv (.tmp 4), none⟩,
  ⟨(some 25), .len (.tmp 24), none⟩,
  ⟨(some 26), .bin .gtr (.tmp 25) (.const (.int .i64 0)), none⟩])
 (.cond (.tmp 26) (.reg [⟨(some 27), .mv (.tmp 4), none⟩,
  ⟨(some 28), .mv (.tmp 4), none⟩,
  ⟨(some 29), .iad 1 (.tmp 28) (.const (.int .i64 0)), none⟩,
  ⟨(some 30), .ld none (.tmp 29), none⟩,
  ⟨(some 31), .slc 2 (.tmp 30) none (some (.const (.int .i64 1))), none⟩,
  ⟨(some 32), .iad 1 (.tmp 27) (.const (.int .i64 0)), none⟩,
  ⟨none, .st 1 (.tmp 32) (.tmp 31), none⟩]) (.skip)))
 (.seq (.reg [⟨(some 33), .mv (.tmp 4), none⟩,
  ⟨(some 34), .call (.func 99) [(.tmp 33)], none⟩,
  ⟨(some 35), .ext 0 (.tmp 34), none⟩,
  ⟨(some 36), .ext 1 (.tmp 34), none⟩,
  ⟨(some 2), .mv (.tmp 35), none⟩,
  ⟨(some 3), .mv (.tmp 36), none⟩])
 (.ret))))))
def r_impl_FindOffsets : List ARes := [.tmp 2, .tmp 3]
theorem ok_impl_FindOffsets : FnOk Try.prog 56 37 c_impl_FindOffsets r_impl_FindOffsets := ⟨⟨Try.f56, _, Try.func56, by kernel_rfl, rfl, rfl, by kernel_rfl, by kernel_rfl⟩⟩
def c_spec_VisitsOn : ACode := .seq (.reg [⟨(some 6), .mv (.const (.slice none 0 0)), none⟩,
  ⟨(some 7), .mv (.const (.bool false)), none⟩])
 (.seq (.seq (.reg [⟨(some 8), .mv (.tmp 0), none⟩,
  ⟨(some 9), .mv (.tmp 1), none⟩,
  ⟨(some 10), .call (.func 87) [(.tmp 8), (.tmp 9)], none⟩,
  ⟨(some 11), .un .not (.tmp 10), none⟩,
  ⟨(some 12), .mv (.tmp 11), none⟩,
  ⟨(some 13), .mv (.tmp 2), (some (12, false))⟩,
  ⟨(some 14), .call (.func 64) [(.tmp 13), (.const (.int .i64 0)), (.const (.int .i64 1000000))], (some (12, false))⟩,
  ⟨(some 15), .un .not (.tmp 14), (some (12, false))⟩,
  ⟨(some 16), .pick (.tmp 12) (.const (.bool true)) (.tmp 15), none⟩])
 (.cond (.tmp 16) (.seq (.reg [⟨(some 17), .bsl 3 1 0 [] [], none⟩,
  ⟨(some 6), .mv (.tmp 17), none⟩,
  ⟨(some 7), .mv (.const (.bool false)), none⟩])
 (.ret)) (.skip)))
 (.seq (.reg [⟨(some 18), .mv (.tmp 0), none⟩,
  ⟨(some 19), .mv (.tmp 1), none⟩,
  ⟨(some 20), .mv (.tmp 2), none⟩,
  ⟨(some 21), .call (.func 100) [(.tmp 18), (.tmp 19), (.tmp 20)], none⟩,
  ⟨(some 6), .mv (.tmp 21), none⟩,
  ⟨(some 7), .mv (.const (.bool true)), none⟩])
 (.ret)))
def r_spec_VisitsOn : List ARes := [.tmp 6, .tmp 7]
theorem ok_spec_VisitsOn : FnOk Try.prog 57 22 c_spec_VisitsOn r_spec_VisitsOn := ⟨⟨Try.f57, _, Try.func57, by kernel_rfl, rfl, rfl, by kernel_rfl, by kernel_rfl⟩⟩
def c_impl_VisitsOn : ACode := .seq (.reg [⟨(some 6), .mv (.const (.slice none 0 0)), none⟩,
  ⟨(some 7), .mv (.const (.bool false)), none⟩])
 (.seq (.reg [⟨(some 14), .mv (.tmp 0), none⟩,
  ⟨(some 15), .mv (.tmp 1), none⟩,
  ⟨(some 16), .call (.func 89) [(.tmp 14), (.tmp 15)], none⟩,
  ⟨(some 13), .mv (.tmp 16), none⟩,
  ⟨(some 17), .ext 0 (.tmp 13), none⟩,
  ⟨(some 18), .ext 1 (.tmp 13), none⟩,
  ⟨(some 8), .mv (.tmp 17), none⟩,
  ⟨(some 9), .mv (.tmp 18), none⟩])
 (.seq (.seq (.reg [⟨(some 19), .mv (.tmp 9), none⟩,
  ⟨(some 20), .un .not (.tmp 19), none⟩,
  ⟨(some 21), .mv (.tmp 20), none⟩,
  ⟨(some 22), .mv (.tmp 2), (some (21, false))⟩,
  ⟨(some 23), .call (.func 63) [(.tmp 22), (.const (.int .i64 1000000))], (some (21, false))⟩,
  ⟨(some 24), .un .not (.tmp 23), (some (21, false))⟩,
  ⟨(some 25), .pick (.tmp 21) (.const (.bool true)) (.tmp 24), none⟩])
 (.cond (.tmp 25) (.seq (.reg [⟨(some 26), .bsl 3 1 0 [] [], none⟩,
  ⟨(some 6), .mv (.tmp 26), none⟩,
  ⟨(some 7), .mv (.const (.bool false)), none⟩])
 (.ret)) (.skip)))
 (.seq (.reg [⟨(some 27), .bsl 3 1 0 [] [], none⟩,
  ⟨(some 10), .mv (.tmp 27), none⟩])
 (.seq (.seq (.reg [⟨(some 28), .mv (.tmp 8), none⟩,
  ⟨(some 29), .len (.tmp 28), none⟩,
  ⟨(some 30), .mv (.const (.int .i64 0)), none⟩])
 (.block 0 (.loop (.seq (.reg [⟨(some 31), .bin .lss (.tmp 30) (.tmp 29), none⟩])
 (.seq (.cond (.tmp 31) (.skip) (.exit 0))
 (.seq (.block 1 (.seq (.reg [⟨(some 32), .mv (.tmp 30), none⟩,
  ⟨(some 33), .iad 2 (.tmp 28) (.tmp 30), none⟩,
  ⟨(some 34), .ld (some 2) (.tmp 33), none⟩,
  ⟨(some 12), .alc 96 [(.int .i64 0), (.int .i64 0)], none⟩,
  ⟨(some 11), .mv (.tmp 32), none⟩,
  ⟨none, .st 2 (.tmp 12) (.tmp 34), none⟩])
 (.seq (.reg [⟨(some 35), .ld (some 2) (.tmp 12), none⟩,
  ⟨(some 36), .mv (.tmp 2), none⟩,
  ⟨(some 37), .call (.func 101) [(.tmp 35), (.tmp 36)], none⟩])
 (.cond (.tmp 37) (.reg [⟨(some 38), .mv (.tmp 10), none⟩,
  ⟨(some 39), .mv (.tmp 11), none⟩,
  ⟨(some 40), .bsl 3 1 1 [(.int .i64 0)] [(0, 1, (.tmp 39))], none⟩,
  ⟨(some 41), .app 3 1 8 (.tmp 38) (.tmp 40), none⟩,
  ⟨(some 10), .mv (.tmp 41), none⟩]) (.skip)))))
 (.reg [⟨(some 42), .bin .add (.tmp 30) (.const (.int .i64 1)), none⟩,
  ⟨(some 30), .mv (.tmp 42), none⟩])))))))
 (.seq (.reg [⟨(some 43), .mv (.tmp 10), none⟩,
  ⟨(some 6), .mv (.tmp 43), none⟩,
  ⟨(some 7), .mv (.const (.bool true)), none⟩])
 (.ret))))))
def r_impl_VisitsOn : List ARes := [.tmp 6, .tmp 7]
theorem ok_impl_VisitsOn : FnOk Try.prog 58 44 c_impl_VisitsOn r_impl_VisitsOn := ⟨⟨Try.f58, _, Try.func58, by kernel_rfl, rfl, rfl, by kernel_rfl, by kernel_rfl⟩⟩
def c_spec_DaysBusy : ACode := .seq (.reg [⟨(some 6), .mv (.const (.int .i64 0)), none⟩,
  ⟨(some 7), .mv (.const (.bool false)), none⟩])
 (.seq (.seq (.reg [⟨(some 10), .mv (.tmp 0), none⟩,
  ⟨(some 11), .mv (.tmp 1), none⟩,
  ⟨(some 12), .call (.func 87) [(.tmp 10), (.tmp 11)], none⟩,
  ⟨(some 13), .un .not (.tmp 12), none⟩,
  ⟨(some 14), .mv (.tmp 13), none⟩,
  ⟨(some 15), .mv (.tmp 2), (some (14, false))⟩,
  ⟨(some 16), .call (.func 64) [(.tmp 15), (.const (.int .i64 0)), (.const (.int .i64 1000))], (some (14, false))⟩,
  ⟨(some 17), .un .not (.tmp 16), (some (14, false))⟩,
  ⟨(some 18), .pick (.tmp 14) (.const (.bool true)) (.tmp 17), none⟩])
 (.cond (.tmp 18) (.seq (.reg [⟨(some 6), .mv (.const (.int .i64 0)), none⟩,
  ⟨(some 7), .mv (.const (.bool false)), none⟩])
 (.ret)) (.skip)))
 (.seq (.reg [⟨(some 8), .mv (.const (.int .i64 0)), none⟩])
 (.seq (.seq (.reg [⟨(some 9), .mv (.const (.int .i64 0)), none⟩])
 (.block 0 (.loop (.seq (.seq (.reg [⟨(some 19), .mv (.tmp 9), none⟩,
  ⟨(some 20), .mv (.tmp 2), none⟩,
  ⟨(some 21), .bin .lss (.tmp 19) (.tmp 20), none⟩])
 (.cond (.tmp 21) (.skip) (.exit 0)))
 (.seq (.block 1 (.seq (.reg [⟨(some 24), .mv (.tmp 0), none⟩,
  ⟨(some 25), .mv (.tmp 1), none⟩,
  ⟨(some 26), .mv (.tmp 9), none⟩,
  ⟨(some 27), .call (.func 100) [(.tmp 24), (.tmp 25), (.tmp 26)], none⟩,
  ⟨(some 28), .len (.tmp 27), none⟩,
  ⟨(some 29), .bin .gtr (.tmp 28) (.const (.int .i64 0)), none⟩])
 (.cond (.tmp 29) (.reg [⟨(some 30), .mv (.tmp 8), none⟩,
  ⟨(some 31), .bin .add (.tmp 30) (.const (.int .i64 1)), none⟩,
  ⟨(some 8), .mv (.tmp 31), none⟩]) (.skip))))
 (.reg [⟨(some 22), .mv (.tmp 9), none⟩,
  ⟨(some 23), .bin .add (.tmp 22) (.const (.int .i64 1)), none⟩,
  ⟨(some 9), .mv (.tmp 23), none⟩]))))))
 (.seq (.reg [⟨(some 32), .mv (.tmp 8), none⟩,
  ⟨(some 6), .mv (.tmp 32), none⟩,
  ⟨(some 7), .mv (.const (.bool true)), none⟩])
 (.ret)))))
def r_spec_DaysBusy : List ARes := [.tmp 6, .tmp 7]
theorem ok_spec_DaysBusy : FnOk Try.prog 59 33 c_spec_DaysBusy r_spec_DaysBusy := ⟨⟨Try.f59, _, Try.func59, by kernel_rfl, rfl, rfl, by kernel_rfl, by kernel_rfl⟩⟩
def c_impl_DaysBusy : ACode := .seq (.reg [⟨(some 6), .mv (.const (.int .i64 0)), none⟩,
  ⟨(some 7), .mv (.const (.bool false)), none⟩])
 (.seq (.reg [⟨(some 13), .mv (.tmp 0), none⟩,
  ⟨(some 14), .mv (.tmp 1), none⟩,
  ⟨(some 15), .call (.func 89) [(.tmp 13), (.tmp 14)], none⟩,
  ⟨(some 12), .mv (.tmp 15), none⟩,
  ⟨(some 16), .ext 0 (.tmp 12), none⟩,
  ⟨(some 17), .ext 1 (.tmp 12), none⟩,
  ⟨(some 8), .mv (.tmp 16), none⟩,
  ⟨(some 9), .mv (.tmp 17), none⟩])
 (.seq (.seq (.reg [⟨(some 18), .mv (.tmp 9), none⟩,
  ⟨(some 19), .un .not (.tmp 18), none⟩,
  ⟨(some 20), .mv (.tmp 19), none⟩,
  ⟨(some 21), .mv (.tmp 2), (some (20, false))⟩,
  ⟨(some 22), .call (.func 63) [(.tmp 21), (.const (.int .i64 1000))], (some (20, false))⟩,
  ⟨(some 23), .un .not (.tmp 22), (some (20, false))⟩,
  ⟨(some 24), .pick (.tmp 20) (.const (.bool true)) (.tmp 23), none⟩])
 (.cond (.tmp 24) (.seq (.reg [⟨(some 6), .mv (.const (.int .i64 0)), none⟩,
  ⟨(some 7), .mv (.const (.bool false)), none⟩])
 (.ret)) (.skip)))
 (.seq (.reg [⟨(some 10), .mv (.const (.int .i64 0)), none⟩])
 (.seq (.seq (.reg [⟨(some 25), .mv (.tmp 2), none⟩,
  ⟨(some 26), .mv (.const (.int .i64 0)), none⟩])
 (.block 0 (.loop (.seq (.reg [⟨(some 27), .bin .lss (.tmp 26) (.tmp 25), none⟩])
 (.seq (.cond (.tmp 27) (.skip) (.exit 0))
 (.seq (.block 1 (.seq (.reg [⟨(some 28), .mv (.tmp 26), none⟩,
  ⟨(some 11), .alc 3 [(.int .i64 0)], none⟩,
  ⟨none, .st 1 (.tmp 11) (.tmp 28), none⟩])
 (.seq (.reg [⟨(some 29), .mv (.tmp 8), none⟩,
  ⟨(some 30), .mkf 102 [] [(.tmp 11)], none⟩,
  ⟨(some 31), .call (.func 90) [(.tmp 29), (.tmp 30)], none⟩])
 (.cond (.tmp 31) (.reg [⟨(some 32), .mv (.tmp 10), none⟩,
  ⟨(some 33), .bin .add (.tmp 32) (.const (.int .i64 1)), none⟩,
  ⟨(some 10), .mv (.tmp 33), none⟩]) (.skip)))))
 (.reg [⟨(some 34), .bin .add (.tmp 26) (.const (.int .i64 1)), none⟩,
  ⟨(some 26), .mv (.tmp 34), none⟩])))))))
 (.seq (.reg [⟨(some 35), .mv (.tmp 10), none⟩,
  ⟨(some 6), .mv (.tmp 35), none⟩,
  ⟨(some 7), .mv (.const (.bool true)), none⟩])
 (.ret))))))
def r_impl_DaysBusy : List ARes := [.tmp 6, .tmp 7]
theorem ok_impl_DaysBusy : FnOk Try.prog 60 36 c_impl_DaysBusy r_impl_DaysBusy := ⟨⟨Try.f60, _, Try.func60, by kernel_rfl, rfl, rfl, by kernel_rfl, by kernel_rfl⟩⟩
def c_spec_l8Item : ACode := .seq (.reg [⟨(some 1), .box 25 (.tmp 0), none⟩,
  ⟨(some 2), .mv (.const (.bool false)), none⟩])
 (.seq (.reg [⟨(some 3), .fad 0 (.tmp 1), none⟩,
  ⟨(some 4), .ld none (.tmp 3), none⟩,
  ⟨(some 5), .call (.func 64) [(.tmp 4), (.const (.int .i64 1)), (.const (.int .i64 20))], none⟩,
  ⟨(some 6), .mv (.tmp 5), none⟩,
  ⟨(some 7), .fad 1 (.tmp 1), (some (6, true))⟩,
  ⟨(some 8), .ld none (.tmp 7), (some (6, true))⟩,
  ⟨(some 9), .call (.func 64) [(.tmp 8), (.const (.int .i64 1)), (.const (.int .i64 99))], (some (6, true))⟩,
  ⟨(some 10), .pick (.tmp 6) (.tmp 9) (.const (.bool false)), none⟩,
  ⟨(some 11), .mv (.tmp 10), none⟩,
  ⟨(some 12), .fad 2 (.tmp 1), (some (11, true))⟩,
  ⟨(some 13), .ld none (.tmp 12), (some (11, true))⟩,
  ⟨(some 14), .call (.func 64) [(.tmp 13), (.const (.int .i64 1)), (.const (.int .i64 9))], (some (11, true))⟩,
  ⟨(some 15), .pick (.tmp 11) (.tmp 14) (.const (.bool false)), none⟩,
  ⟨(some 16), .mv (.tmp 15), none⟩,
  ⟨(some 17), .fad 3 (.tmp 1), (some (16, true))⟩,
  ⟨(some 18), .ld none (.tmp 17), (some (16, true))⟩,
  ⟨(some 19), .fad 0 (.tmp 1), (some (16, true))⟩,
  ⟨(some 20), .ld none (.tmp 19), (some (16, true))⟩,
  ⟨(some 21), .bin .add (.tmp 20) (.const (.int .i64 1)), (some (16, true))⟩,
  ⟨(some 22), .call (.func 64) [(.tmp 18), (.tmp 21), (.const (.int .i64 40))], (some (16, true))⟩,
  ⟨(some 23), .pick (.tmp 16) (.tmp 22) (.const (.bool false)), none⟩,
  ⟨(some 24), .mv (.tmp 23), none⟩,
  ⟨(some 25), .fad 4 (.tmp 1), (some (24, true))⟩,
  ⟨(some 26), .ld none (.tmp 25), (some (24, true))⟩,
  ⟨(some 27), .call (.func 64) [(.tmp 26), (.const (.int .i64 0)), (.const (.int .i64 9))], (some (24, true))⟩,
  ⟨(some 28), .pick (.tmp 24) (.tmp 27) (.const (.bool false)), none⟩,
  ⟨(some 2), .mv (.tmp 28), none⟩])
 (.ret))
def r_spec_l8Item : List ARes := [.tmp 2]
theorem ok_spec_l8Item : FnOk Try.prog 61 29 c_spec_l8Item r_spec_l8Item := ⟨⟨Try.f61, _, Try.func61, by kernel_rfl, rfl, rfl, by kernel_rfl, by kernel_rfl⟩⟩
def c_impl_isCount : ACode := .seq (.reg [⟨(some 4), .mv (.const (.bool false)), none⟩])
 (.seq (.reg [⟨(some 5), .mv (.tmp 0), none⟩,
  ⟨(some 6), .bin .gtr (.tmp 5) (.const (.int .i64 0)), none⟩,
  ⟨(some 7), .mv (.tmp 6), none⟩,
  ⟨(some 8), .mv (.tmp 0), (some (7, true))⟩,
  ⟨(some 9), .mv (.tmp 1), (some (7, true))⟩,
  ⟨(some 10), .call (.func 63) [(.tmp 8), (.tmp 9)], (some (7, true))⟩,
  ⟨(some 11), .pick (.tmp 7) (.tmp 10) (.const (.bool false)), none⟩,
  ⟨(some 4), .mv (.tmp 11), none⟩])
 (.ret))
def r_impl_isCount : List ARes := [.tmp 4]
theorem ok_impl_isCount : FnOk Try.prog 62 12 c_impl_isCount r_impl_isCount := ⟨⟨Try.f62, _, Try.func62, by kernel_rfl, rfl, rfl, by kernel_rfl, by kernel_rfl⟩⟩
def c_impl_isWithin : ACode := .seq (.reg [⟨(some 4), .mv (.const (.bool false)), none⟩])
 (.seq (.reg [⟨(some 5), .mv (.tmp 0), none⟩,
  ⟨(some 6), .bin .geq (.tmp 5) (.const (.int .i64 0)), none⟩,
  ⟨(some 7), .mv (.tmp 6), none⟩,
  ⟨(some 8), .mv (.tmp 0), (some (7, true))⟩,
  ⟨(some 9), .mv (.tmp 1), (some (7, true))⟩,
  ⟨(some 10), .bin .leq (.tmp 8) (.tmp 9), (some (7, true))⟩,
  ⟨(some 11), .pick (.tmp 7) (.tmp 10) (.const (.bool false)), none⟩,
  ⟨(some 4), .mv (.tmp 11), none⟩])
 (.ret))
def r_impl_isWithin : List ARes := [.tmp 4]
theorem ok_impl_isWithin : FnOk Try.prog 63 12 c_impl_isWithin r_impl_isWithin := ⟨⟨Try.f63, _, Try.func63, by kernel_rfl, rfl, rfl, by kernel_rfl, by kernel_rfl⟩⟩
def c_spec_l1In : ACode := .seq (.reg [⟨(some 6), .mv (.const (.bool false)), none⟩])
 (.seq (.reg [⟨(some 7), .mv (.tmp 0), none⟩,
  ⟨(some 8), .mv (.tmp 1), none⟩,
  ⟨(some 9), .bin .geq (.tmp 7) (.tmp 8), none⟩,
  ⟨(some 10), .mv (.tmp 9), none⟩,
  ⟨(some 11), .mv (.tmp 0), (some (10, true))⟩,
  ⟨(some 12), .mv (.tmp 2), (some (10, true))⟩,
  ⟨(some 13), .bin .leq (.tmp 11) (.tmp 12), (some (10, true))⟩,
  ⟨(some 14), .pick (.tmp 10) (.tmp 13) (.const (.bool false)), none⟩,
  ⟨(some 6), .mv (.tmp 14), none⟩])
 (.ret))
def r_spec_l1In : List ARes := [.tmp 6]
theorem ok_spec_l1In : FnOk Try.prog 64 15 c_spec_l1In r_spec_l1In := ⟨⟨Try.f64, _, Try.func64, by kernel_rfl, rfl, rfl, by kernel_rfl, by kernel_rfl⟩⟩
def c_spec_l8Daily : ACode := .seq (.reg [⟨(some 2), .box 25 (.tmp 0), none⟩,
  ⟨(some 4), .alc 28 [(.int .i64 0), (.int .i64 0)], none⟩])
 (.seq (.reg [⟨(some 5), .fad 1 (.tmp 2), none⟩,
  ⟨(some 6), .ld none (.tmp 5), none⟩,
  ⟨(some 7), .bin .mul (.const (.int .i64 2)) (.tmp 6), none⟩,
  ⟨(some 8), .fad 2 (.tmp 2), none⟩,
  ⟨(some 9), .ld none (.tmp 8), none⟩,
  ⟨(some 10), .fad 0 (.tmp 2), none⟩,
  ⟨(some 11), .ld none (.tmp 10), none⟩,
  ⟨(some 12), .bin .mul (.tmp 9) (.tmp 11), none⟩,
  ⟨(some 13), .mv (.tmp 1), none⟩,
  ⟨(some 14), .bin .mul (.tmp 12) (.tmp 13), none⟩,
  ⟨(some 15), .mv (.tmp 1), none⟩,
  ⟨(some 16), .bin .mul (.tmp 14) (.tmp 15), none⟩,
  ⟨(some 17), .bin .add (.tmp 7) (.tmp 16), none⟩,
  ⟨(some 18), .mv (.tmp 1), none⟩,
  ⟨(some 19), .bin .mul (.const (.int .i64 2)) (.tmp 18), none⟩,
  ⟨(some 20), .call (.func 103) [(.tmp 17), (.tmp 19)], none⟩,
  ⟨none, .st 2 (.tmp 4) (.tmp 20), none⟩])
 (.ret))
def r_spec_l8Daily : List ARes := [.cell 4 (some 2)]
theorem ok_spec_l8Daily : FnOk Try.prog 65 21 c_spec_l8Daily r_spec_l8Daily := ⟨⟨Try.f65, _, Try.func65, by kernel_rfl, rfl, rfl, by kernel_rfl, by kernel_rfl⟩⟩
def c_impl_ordered__costOf : ACode := .seq (.reg [⟨(some 2), .box 69 (.tmp 0), none⟩,
  ⟨(some 4), .alc 67 [(.int .i64 0), (.int .i64 0)], none⟩])
 (.seq (.reg [⟨(some 5), .fad 0 (.tmp 2), none⟩,
  ⟨(some 6), .fad 1 (.tmp 5), none⟩,
  ⟨(some 7), .ld none (.tmp 6), none⟩,
  ⟨(some 8), .mv (.tmp 1), none⟩,
  ⟨(some 10), .fad 0 (.tmp 2), none⟩,
  ⟨(some 11), .fad 2 (.tmp 10), none⟩,
  ⟨(some 12), .ld none (.tmp 11), none⟩,
  ⟨(some 13), .fad 0 (.tmp 2), none⟩,
  ⟨(some 14), .fad 0 (.tmp 13), none⟩,
  ⟨(some 15), .ld none (.tmp 14), none⟩,
  ⟨(some 16), .bin .mul (.tmp 12) (.tmp 15), none⟩,
  ⟨(some 17), .mv (.tmp 1), none⟩,
  ⟨(some 18), .bin .mul (.tmp 16) (.tmp 17), none⟩,
  ⟨(some 9), .rcall (.func 95) [(.tmp 7), (.tmp 8)], none⟩,
  ⟨(some 19), .rcall (.func 95) [(.tmp 18), (.const (.int .i64 2))], none⟩,
  ⟨(some 20), .rcall (.func 96) [(.tmp 9), (.tmp 19)], none⟩,
  ⟨none, .st 2 (.tmp 4) (.tmp 20), none⟩])
 (.ret))
def r_impl_ordered__costOf : List ARes := [.cell 4 (some 2)]
theorem ok_impl_ordered__costOf : FnOk Try.prog 66 21 c_impl_ordered__costOf r_impl_ordered__costOf := ⟨⟨Try.f66, _, Try.func66, by kernel_rfl, rfl, rfl, by kernel_rfl, by kernel_rfl⟩⟩
def c_spec_l8Best : ACode := .seq (.reg [⟨(some 1), .box 25 (.tmp 0), none⟩,
  ⟨(some 2), .mv (.const (.int .i64 0)), none⟩])
 (.seq (.reg [⟨(some 3), .mv (.const (.int .i64 1)), none⟩])
 (.seq (.seq (.reg [⟨(some 4), .mv (.const (.int .i64 2)), none⟩])
 (.block 0 (.loop (.seq (.seq (.reg [⟨(some 5), .mv (.tmp 4), none⟩,
  ⟨(some 6), .bin .leq (.tmp 5) (.const (.int .i64 64)), none⟩])
 (.cond (.tmp 6) (.skip) (.exit 0)))
 (.seq (.block 1 (.seq (.reg [⟨(some 9), .ld (some 5) (.tmp 1), none⟩,
  ⟨(some 10), .mv (.tmp 4), none⟩,
  ⟨(some 12), .ld (some 5) (.tmp 1), none⟩,
  ⟨(some 13), .mv (.tmp 3), none⟩,
  ⟨(some 11), .rcall (.func 65) [(.tmp 9), (.tmp 10)], none⟩,
  ⟨(some 14), .rcall (.func 65) [(.tmp 12), (.tmp 13)], none⟩,
  ⟨(some 15), .rcall (.func 69) [(.tmp 11), (.tmp 14)], none⟩])
 (.cond (.tmp 15) (.reg [⟨(some 16), .mv (.tmp 4), none⟩,
  ⟨(some 3), .mv (.tmp 16), none⟩]) (.skip))))
 (.reg [⟨(some 7), .mv (.tmp 4), none⟩,
  ⟨(some 8), .bin .add (.tmp 7) (.const (.int .i64 1)), none⟩,
  ⟨(some 4), .mv (.tmp 8), none⟩]))))))
 (.seq (.reg [⟨(some 17), .mv (.tmp 3), none⟩,
  ⟨(some 2), .mv (.tmp 17), none⟩])
 (.ret))))
def r_spec_l8Best : List ARes := [.tmp 2]
theorem ok_spec_l8Best : FnOk Try.prog 67 18 c_spec_l8Best r_spec_l8Best := ⟨⟨Try.f67, _, Try.func67, by kernel_rfl, rfl, rfl, by kernel_rfl, by kernel_rfl⟩⟩
def c_impl_bestChoice : ACode := .seq (.reg [⟨(some 1), .box 109 (.tmp 0), none⟩,
  ⟨(some 2), .mv (.const (.int .i64 0)), none⟩,
  ⟨(some 3), .mv (.const (.bool false)), none⟩])
 (.seq (.reg [⟨(some 5), .ld none (.tmp 1), none⟩,
  ⟨(some 6), .inv (.tmp 5) "loop.example/g01111/impl.choices" [], none⟩,
  ⟨(some 4), .mv (.tmp 6), none⟩])
 (.seq (.seq (.reg [⟨(some 7), .mv (.tmp 4), none⟩,
  ⟨(some 8), .len (.tmp 7), none⟩,
  ⟨(some 9), .bin .eql (.tmp 8) (.const (.int .i64 0)), none⟩])
 (.cond (.tmp 9) (.seq (.reg [⟨(some 2), .mv (.const (.int .i64 0)), none⟩,
  ⟨(some 3), .mv (.const (.bool false)), none⟩])
 (.ret)) (.skip)))
 (.seq (.reg [⟨(some 10), .mv (.tmp 4), none⟩,
  ⟨(some 11), .mkf 105 [] [(.tmp 1)], none⟩,
  ⟨(some 12), .call (.func 104) [(.tmp 10), (.tmp 11)], none⟩,
  ⟨(some 2), .mv (.tmp 12), none⟩,
  ⟨(some 3), .mv (.const (.bool true)), none⟩])
 (.ret))))
def r_impl_bestChoice : List ARes := [.tmp 2, .tmp 3]
theorem ok_impl_bestChoice : FnOk Try.prog 68 13 c_impl_bestChoice r_impl_bestChoice := ⟨⟨Try.f68, _, Try.func68, by kernel_rfl, rfl, rfl, by kernel_rfl, by kernel_rfl⟩⟩
def c_spec_l8Less : ACode := .seq (.reg [⟨(some 2), .box 28 (.tmp 0), none⟩,
  ⟨(some 3), .box 28 (.tmp 1), none⟩,
  ⟨(some 4), .mv (.const (.bool false)), none⟩])
 (.seq (.reg [⟨(some 5), .iada 1 2 (.tmp 2) (.const (.int .i64 0)), none⟩,
  ⟨(some 6), .ld none (.tmp 5), none⟩,
  ⟨(some 7), .iada 1 2 (.tmp 3) (.const (.int .i64 1)), none⟩,
  ⟨(some 8), .ld none (.tmp 7), none⟩,
  ⟨(some 9), .bin .mul (.tmp 6) (.tmp 8), none⟩,
  ⟨(some 10), .iada 1 2 (.tmp 3) (.const (.int .i64 0)), none⟩,
  ⟨(some 11), .ld none (.tmp 10), none⟩,
  ⟨(some 12), .iada 1 2 (.tmp 2) (.const (.int .i64 1)), none⟩,
  ⟨(some 13), .ld none (.tmp 12), none⟩,
  ⟨(some 14), .bin .mul (.tmp 11) (.tmp 13), none⟩,
  ⟨(some 15), .bin .lss (.tmp 9) (.tmp 14), none⟩,
  ⟨(some 4), .mv (.tmp 15), none⟩])
 (.ret))
def r_spec_l8Less : List ARes := [.tmp 4]
theorem ok_spec_l8Less : FnOk Try.prog 69 16 c_spec_l8Less r_spec_l8Less := ⟨⟨Try.f69, _, Try.func69, by kernel_rfl, rfl, rfl, by kernel_rfl, by kernel_rfl⟩⟩
def c_spec_l8Family : ACode := .seq (.reg [⟨(some 2), .mv (.const (.bool false)), none⟩])
 (.seq (.seq (.reg [⟨(some 3), .mv (.const (.int .i64 0)), none⟩])
 (.block 0 (.loop (.seq (.seq (.reg [⟨(some 4), .mv (.tmp 3), none⟩,
  ⟨(some 5), .mv (.tmp 0), none⟩,
  ⟨(some 6), .len (.tmp 5), none⟩,
  ⟨(some 7), .bin .lss (.tmp 4) (.tmp 6), none⟩])
 (.cond (.tmp 7) (.skip) (.exit 0)))
 (.seq (.block 1 (.seq (.reg [⟨(some 10), .mv (.tmp 0), none⟩,
  ⟨(some 11), .mv (.tmp 3), none⟩,
  ⟨(some 12), .iad 5 (.tmp 10) (.tmp 11), none⟩,
  ⟨(some 13), .ld (some 5) (.tmp 12), none⟩,
  ⟨(some 14), .call (.func 61) [(.tmp 13)], none⟩,
  ⟨(some 15), .un .not (.tmp 14), none⟩])
 (.cond (.tmp 15) (.seq (.reg [⟨(some 2), .mv (.const (.bool false)), none⟩])
 (.ret)) (.skip))))
 (.reg [⟨(some 8), .mv (.tmp 3), none⟩,
  ⟨(some 9), .bin .add (.tmp 8) (.const (.int .i64 1)), none⟩,
  ⟨(some 3), .mv (.tmp 9), none⟩]))))))
 (.seq (.reg [⟨(some 16), .mv (.tmp 0), none⟩,
  ⟨(some 17), .len (.tmp 16), none⟩,
  ⟨(some 18), .call (.func 64) [(.tmp 17), (.const (.int .i64 1)), (.const (.int .i64 4))], none⟩,
  ⟨(some 2), .mv (.tmp 18), none⟩])
 (.ret)))
def r_spec_l8Family : List ARes := [.tmp 2]
theorem ok_spec_l8Family : FnOk Try.prog 70 19 c_spec_l8Family r_spec_l8Family := ⟨⟨Try.f70, _, Try.func70, by kernel_rfl, rfl, rfl, by kernel_rfl, by kernel_rfl⟩⟩
def c_spec_l8Factors : ACode := .seq (.reg [⟨(some 4), .mv (.const (.bool false)), none⟩])
 (.seq (.seq (.reg [⟨(some 5), .mv (.const (.int .i64 0)), none⟩])
 (.block 0 (.loop (.seq (.seq (.reg [⟨(some 6), .mv (.tmp 5), none⟩,
  ⟨(some 7), .mv (.tmp 1), none⟩,
  ⟨(some 8), .len (.tmp 7), none⟩,
  ⟨(some 9), .bin .lss (.tmp 6) (.tmp 8), none⟩])
 (.cond (.tmp 9) (.skip) (.exit 0)))
 (.seq (.block 1 (.seq (.reg [⟨(some 12), .mv (.tmp 1), none⟩,
  ⟨(some 13), .mv (.tmp 5), none⟩,
  ⟨(some 14), .iad 1 (.tmp 12) (.tmp 13), none⟩,
  ⟨(some 15), .ld none (.tmp 14), none⟩,
  ⟨(some 16), .call (.func 64) [(.tmp 15), (.const (.int .i64 1)), (.const (.int .i64 8))], none⟩,
  ⟨(some 17), .un .not (.tmp 16), none⟩])
 (.cond (.tmp 17) (.seq (.reg [⟨(some 4), .mv (.const (.bool false)), none⟩])
 (.ret)) (.skip))))
 (.reg [⟨(some 10), .mv (.tmp 5), none⟩,
  ⟨(some 11), .bin .add (.tmp 10) (.const (.int .i64 1)), none⟩,
  ⟨(some 5), .mv (.tmp 11), none⟩]))))))
 (.seq (.reg [⟨(some 18), .mv (.tmp 1), none⟩,
  ⟨(some 19), .len (.tmp 18), none⟩,
  ⟨(some 20), .mv (.tmp 0), none⟩,
  ⟨(some 21), .len (.tmp 20), none⟩,
  ⟨(some 22), .bin .eql (.tmp 19) (.tmp 21), none⟩,
  ⟨(some 4), .mv (.tmp 22), none⟩])
 (.ret)))
def r_spec_l8Factors : List ARes := [.tmp 4]
theorem ok_spec_l8Factors : FnOk Try.prog 71 23 c_spec_l8Factors r_spec_l8Factors := ⟨⟨Try.f71, _, Try.func71, by kernel_rfl, rfl, rfl, by kernel_rfl, by kernel_rfl⟩⟩
def c_spec_l8Joint : ACode := .seq (.reg [⟨(some 8), .alc 28 [(.int .i64 0), (.int .i64 0)], none⟩])
 (.seq (.reg [⟨(some 11), .mv (.tmp 1), none⟩,
  ⟨(some 12), .mv (.tmp 2), none⟩,
  ⟨(some 13), .call (.func 103) [(.tmp 11), (.tmp 12)], none⟩,
  ⟨(some 9), .alc 28 [(.int .i64 0), (.int .i64 0)], none⟩,
  ⟨none, .st 2 (.tmp 9) (.tmp 13), none⟩])
 (.seq (.seq (.reg [⟨(some 10), .mv (.const (.int .i64 0)), none⟩])
 (.block 0 (.loop (.seq (.seq (.reg [⟨(some 14), .mv (.tmp 10), none⟩,
  ⟨(some 15), .mv (.tmp 0), none⟩,
  ⟨(some 16), .len (.tmp 15), none⟩,
  ⟨(some 17), .bin .lss (.tmp 14) (.tmp 16), none⟩])
 (.cond (.tmp 17) (.skip) (.exit 0)))
 (.seq (.block 1 (.reg [⟨(some 20), .ld (some 2) (.tmp 9), none⟩,
  ⟨(some 21), .mv (.tmp 0), none⟩,
  ⟨(some 22), .mv (.tmp 10), none⟩,
  ⟨(some 23), .iad 5 (.tmp 21) (.tmp 22), none⟩,
  ⟨(some 24), .ld (some 5) (.tmp 23), none⟩,
  ⟨(some 25), .mv (.tmp 2), none⟩,
  ⟨(some 26), .mv (.tmp 3), none⟩,
  ⟨(some 27), .mv (.tmp 10), none⟩,
  ⟨(some 28), .iad 1 (.tmp 26) (.tmp 27), none⟩,
  ⟨(some 29), .ld none (.tmp 28), none⟩,
  ⟨(some 30), .bin .mul (.tmp 25) (.tmp 29), none⟩,
  ⟨(some 31), .rcall (.func 65) [(.tmp 24), (.tmp 30)], none⟩,
  ⟨(some 32), .rcall (.func 107) [(.tmp 20), (.tmp 31)], none⟩,
  ⟨none, .st 2 (.tmp 9) (.tmp 32), none⟩]))
 (.reg [⟨(some 18), .mv (.tmp 10), none⟩,
  ⟨(some 19), .bin .add (.tmp 18) (.const (.int .i64 1)), none⟩,
  ⟨(some 10), .mv (.tmp 19), none⟩]))))))
 (.seq (.reg [⟨(some 33), .ld (some 2) (.tmp 9), none⟩,
  ⟨none, .st 2 (.tmp 8) (.tmp 33), none⟩])
 (.ret))))
def r_spec_l8Joint : List ARes := [.cell 8 (some 2)]
theorem ok_spec_l8Joint : FnOk Try.prog 72 34 c_spec_l8Joint r_spec_l8Joint := ⟨⟨Try.f72, _, Try.func72, by kernel_rfl, rfl, rfl, by kernel_rfl, by kernel_rfl⟩⟩
def c_impl_isFamily : ACode := .seq (.reg [⟨(some 2), .mv (.const (.bool false)), none⟩])
 (.seq (.reg [⟨(some 3), .mv (.func 108), none⟩])
 (.seq (.reg [⟨(some 4), .mv (.tmp 0), none⟩,
  ⟨(some 5), .len (.tmp 4), none⟩,
  ⟨(some 6), .call (.func 62) [(.tmp 5), (.const (.int .i64 4))], none⟩,
  ⟨(some 7), .mv (.tmp 6), none⟩,
  ⟨(some 8), .mv (.tmp 0), (some (7, true))⟩,
  ⟨(some 9), .mv (.tmp 3), (some (7, true))⟩,
  ⟨(some 10), .call (.func 109) [(.tmp 8), (.tmp 9)], (some (7, true))⟩,
  ⟨(some 11), .un .not (.tmp 10), (some (7, true))⟩,
  ⟨(some 12), .pick (.tmp 7) (.tmp 11) (.const (.bool false)), none⟩,
  ⟨(some 2), .mv (.tmp 12), none⟩])
 (.ret)))
def r_impl_isFamily : List ARes := [.tmp 2]
theorem ok_impl_isFamily : FnOk Try.prog 73 13 c_impl_isFamily r_impl_isFamily := ⟨⟨Try.f73, _, Try.func73, by kernel_rfl, rfl, rfl, by kernel_rfl, by kernel_rfl⟩⟩
def c_impl_areCounts : ACode := .seq (.reg [⟨(some 6), .mv (.const (.bool false)), none⟩])
 (.seq (.reg [⟨(some 7), .mv (.tmp 0), none⟩,
  ⟨(some 8), .mv (.tmp 1), none⟩,
  ⟨(some 9), .mv (.tmp 2), none⟩,
  ⟨(some 10), .call (.func 110) [(.tmp 7), (.tmp 8), (.tmp 9)], none⟩,
  ⟨(some 11), .mv (.tmp 10), none⟩,
  ⟨(some 12), .mv (.tmp 0), (some (11, true))⟩,
  ⟨(some 13), .call (.func 111) [(.tmp 12), (.const (.int .i64 0))], (some (11, true))⟩,
  ⟨(some 14), .un .not (.tmp 13), (some (11, true))⟩,
  ⟨(some 15), .pick (.tmp 11) (.tmp 14) (.const (.bool false)), none⟩,
  ⟨(some 6), .mv (.tmp 15), none⟩])
 (.ret))
def r_impl_areCounts : List ARes := [.tmp 6]
theorem ok_impl_areCounts : FnOk Try.prog 74 16 c_impl_areCounts r_impl_areCounts := ⟨⟨Try.f74, _, Try.func74, by kernel_rfl, rfl, rfl, by kernel_rfl, by kernel_rfl⟩⟩
def c_impl_familyCost : ACode := .seq (.reg [⟨(some 8), .alc 67 [(.int .i64 0), (.int .i64 0)], none⟩])
 (.seq (.reg [⟨(some 12), .mv (.tmp 1), none⟩,
  ⟨(some 13), .mv (.tmp 2), none⟩,
  ⟨(some 14), .call (.func 95) [(.tmp 12), (.tmp 13)], none⟩,
  ⟨(some 9), .alc 67 [(.int .i64 0), (.int .i64 0)], none⟩,
  ⟨none, .st 2 (.tmp 9) (.tmp 14), none⟩])
 (.seq (.seq (.reg [⟨(some 15), .mv (.tmp 0), none⟩,
  ⟨(some 16), .len (.tmp 15), none⟩,
  ⟨(some 17), .mv (.const (.int .i64 0)), none⟩])
 (.block 0 (.loop (.seq (.reg [⟨(some 18), .bin .lss (.tmp 17) (.tmp 16), none⟩])
 (.seq (.cond (.tmp 18) (.skip) (.exit 0))
 (.seq (.block 1 (.seq (.reg [⟨(some 19), .mv (.tmp 17), none⟩,
  ⟨(some 20), .iad 5 (.tmp 15) (.tmp 17), none⟩,
  ⟨(some 21), .ld (some 5) (.tmp 20), none⟩,
  ⟨(some 11), .alc 25 [(.int .i64 0), (.int .i64 0), (.int .i64 0), (.int .i64 0), (.int .i64 0)], none⟩,
  ⟨(some 10), .mv (.tmp 19), none⟩,
  ⟨none, .st 5 (.tmp 11) (.tmp 21), none⟩])
 (.reg [⟨(some 22), .ld (some 2) (.tmp 9), none⟩,
  ⟨(some 23), .ld (some 5) (.tmp 11), none⟩,
  ⟨(some 24), .bld [(.int .i64 0), (.int .i64 0), (.int .i64 0), (.int .i64 0), (.int .i64 0)] [(0, 5, (.tmp 23))], none⟩,
  ⟨(some 25), .mv (.tmp 2), none⟩,
  ⟨(some 26), .mv (.tmp 3), none⟩,
  ⟨(some 27), .mv (.tmp 10), none⟩,
  ⟨(some 28), .iad 1 (.tmp 26) (.tmp 27), none⟩,
  ⟨(some 29), .ld none (.tmp 28), none⟩,
  ⟨(some 30), .bin .mul (.tmp 25) (.tmp 29), none⟩,
  ⟨(some 31), .rcall (.func 66) [(.tmp 24), (.tmp 30)], none⟩,
  ⟨(some 32), .rcall (.func 96) [(.tmp 22), (.tmp 31)], none⟩,
  ⟨none, .st 2 (.tmp 9) (.tmp 32), none⟩])))
 (.reg [⟨(some 33), .bin .add (.tmp 17) (.const (.int .i64 1)), none⟩,
  ⟨(some 17), .mv (.tmp 33), none⟩])))))))
 (.seq (.reg [⟨(some 34), .ld (some 2) (.tmp 9), none⟩,
  ⟨none, .st 2 (.tmp 8) (.tmp 34), none⟩])
 (.ret))))
def r_impl_familyCost : List ARes := [.cell 8 (some 2)]
theorem ok_impl_familyCost : FnOk Try.prog 75 35 c_impl_familyCost r_impl_familyCost := ⟨⟨Try.f75, _, Try.func75, by kernel_rfl, rfl, rfl, by kernel_rfl, by kernel_rfl⟩⟩
def c_spec_l8Chosen : ACode := .seq (.reg [⟨(some 4), .mv (.const (.slice none 0 0)), none⟩])
 (.seq (.reg [⟨(some 9), .bsl 3 1 0 [] [], none⟩,
  ⟨(some 5), .mv (.tmp 9), none⟩])
 (.seq (.seq (.reg [⟨(some 6), .mv (.const (.int .i64 0)), none⟩])
 (.block 0 (.loop (.seq (.seq (.reg [⟨(some 10), .mv (.tmp 6), none⟩,
  ⟨(some 11), .mv (.tmp 0), none⟩,
  ⟨(some 12), .len (.tmp 11), none⟩,
  ⟨(some 13), .bin .lss (.tmp 10) (.tmp 12), none⟩])
 (.cond (.tmp 13) (.skip) (.exit 0)))
 (.seq (.block 1 (.seq (.reg [⟨(some 7), .mv (.const (.int .i64 1)), none⟩])
 (.seq (.seq (.reg [⟨(some 8), .mv (.const (.int .i64 2)), none⟩])
 (.block 2 (.loop (.seq (.seq (.reg [⟨(some 16), .mv (.tmp 8), none⟩,
  ⟨(some 17), .bin .leq (.tmp 16) (.const (.int .i64 8)), none⟩])
 (.cond (.tmp 17) (.skip) (.exit 2)))
 (.seq (.block 3 (.seq (.reg [⟨(some 20), .mv (.tmp 0), none⟩,
  ⟨(some 21), .mv (.tmp 6), none⟩,
  ⟨(some 22), .iad 5 (.tmp 20) (.tmp 21), none⟩,
  ⟨(some 23), .ld (some 5) (.tmp 22), none⟩,
  ⟨(some 24), .mv (.tmp 1), none⟩,
  ⟨(some 25), .mv (.tmp 8), none⟩,
  ⟨(some 26), .bin .mul (.tmp 24) (.tmp 25), none⟩,
  ⟨(some 28), .mv (.tmp 0), none⟩,
  ⟨(some 29), .mv (.tmp 6), none⟩,
  ⟨(some 30), .iad 5 (.tmp 28) (.tmp 29), none⟩,
  ⟨(some 31), .ld (some 5) (.tmp 30), none⟩,
  ⟨(some 32), .mv (.tmp 1), none⟩,
  ⟨(some 33), .mv (.tmp 7), none⟩,
  ⟨(some 34), .bin .mul (.tmp 32) (.tmp 33), none⟩,
  ⟨(some 27), .rcall (.func 65) [(.tmp 23), (.tmp 26)], none⟩,
  ⟨(some 35), .rcall (.func 65) [(.tmp 31), (.tmp 34)], none⟩,
  ⟨(some 36), .rcall (.func 69) [(.tmp 27), (.tmp 35)], none⟩])
 (.cond (.tmp 36) (.reg [⟨(some 37), .mv (.tmp 8), none⟩,
  ⟨(some 7), .mv (.tmp 37), none⟩]) (.skip))))
 (.reg [⟨(some 18), .mv (.tmp 8), none⟩,
  ⟨(some 19), .bin .add (.tmp 18) (.const (.int .i64 1)), none⟩,
  ⟨(some 8), .mv (.tmp 19), none⟩]))))))
 (.reg [⟨(some 38), .mv (.tmp 5), none⟩,
  ⟨(some 39), .mv (.tmp 7), none⟩,
  ⟨(some 40), .bsl 3 1 1 [(.int .i64 0)] [(0, 1, (.tmp 39))], none⟩,
  ⟨(some 41), .app 3 1 8 (.tmp 38) (.tmp 40), none⟩,
  ⟨(some 5), .mv (.tmp 41), none⟩]))))
 (.reg [⟨(some 14), .mv (.tmp 6), none⟩,
  ⟨(some 15), .bin .add (.tmp 14) (.const (.int .i64 1)), none⟩,
  ⟨(some 6), .mv (.tmp 15), none⟩]))))))
 (.seq (.reg [⟨(some 42), .mv (.tmp 5), none⟩,
  ⟨(some 4), .mv (.tmp 42), none⟩])
 (.ret))))
def r_spec_l8Chosen : List ARes := [.tmp 4]
theorem ok_spec_l8Chosen : FnOk Try.prog 77 43 c_spec_l8Chosen r_spec_l8Chosen := ⟨⟨Try.f77, _, Try.func77, by kernel_rfl, rfl, rfl, by kernel_rfl, by kernel_rfl⟩⟩
def c_impl_bestFactors : ACode := .seq (.reg [⟨(some 4), .mv (.const (.slice none 0 0)), none⟩])
 (.seq (.reg [⟨(some 10), .bsl 3 1 0 [] [], none⟩,
  ⟨(some 5), .mv (.tmp 10), none⟩])
 (.seq (.seq (.reg [⟨(some 11), .mv (.tmp 0), none⟩,
  ⟨(some 12), .len (.tmp 11), none⟩,
  ⟨(some 13), .mv (.const (.int .i64 0)), none⟩])
 (.block 0 (.loop (.seq (.reg [⟨(some 14), .bin .lss (.tmp 13) (.tmp 12), none⟩])
 (.seq (.cond (.tmp 14) (.skip) (.exit 0))
 (.seq (.block 1 (.seq (.reg [⟨(some 15), .iad 5 (.tmp 11) (.tmp 13), none⟩,
  ⟨(some 16), .ld (some 5) (.tmp 15), none⟩,
  ⟨(some 7), .alc 25 [(.int .i64 0), (.int .i64 0), (.int .i64 0), (.int .i64 0), (.int .i64 0)], none⟩,
  ⟨none, .st 5 (.tmp 7) (.tmp 16), none⟩])
 (.seq (.reg [⟨(some 18), .ld (some 5) (.tmp 7), none⟩,
  ⟨(some 19), .bld [(.int .i64 0), (.int .i64 0), (.int .i64 0), (.int .i64 0), (.int .i64 0)] [(0, 5, (.tmp 18))], none⟩,
  ⟨(some 20), .mv (.tmp 1), none⟩,
  ⟨(some 21), .bld [(.int .i64 0), (.int .i64 0), (.int .i64 0), (.int .i64 0), (.int .i64 0), (.int .i64 0)] [(0, 5, (.tmp 19)), (5, 1, (.tmp 20))], none⟩,
  ⟨(some 22), .mif 117 (.tmp 21), none⟩,
  ⟨(some 23), .call (.func 68) [(.tmp 22)], none⟩,
  ⟨(some 17), .mv (.tmp 23), none⟩,
  ⟨(some 24), .ext 0 (.tmp 17), none⟩,
  ⟨(some 25), .ext 1 (.tmp 17), none⟩,
  ⟨(some 8), .mv (.tmp 24), none⟩,
  ⟨(some 9), .mv (.tmp 25), none⟩])
 (.reg [⟨(some 26), .mv (.tmp 5), none⟩,
  ⟨(some 27), .mv (.tmp 8), none⟩,
  ⟨(some 28), .bsl 3 1 1 [(.int .i64 0)] [(0, 1, (.tmp 27))], none⟩,
  ⟨(some 29), .app 3 1 8 (.tmp 26) (.tmp 28), none⟩,
  ⟨(some 5), .mv (.tmp 29), none⟩]))))
 (.reg [⟨(some 30), .bin .add (.tmp 13) (.const (.int .i64 1)), none⟩,
  ⟨(some 13), .mv (.tmp 30), none⟩])))))))
 (.seq (.reg [⟨(some 31), .mv (.tmp 5), none⟩,
  ⟨(some 4), .mv (.tmp 31), none⟩])
 (.ret))))
def r_impl_bestFactors : List ARes := [.tmp 4]
theorem ok_impl_bestFactors : FnOk Try.prog 78 32 c_impl_bestFactors r_impl_bestFactors := ⟨⟨Try.f78, _, Try.func78, by kernel_rfl, rfl, rfl, by kernel_rfl, by kernel_rfl⟩⟩
def c_spec_l8Common : ACode := .seq (.reg [⟨(some 4), .mv (.const (.bool false)), none⟩])
 (.seq (.reg [⟨(some 5), .mv (.tmp 0), none⟩,
  ⟨(some 6), .call (.func 70) [(.tmp 5)], none⟩,
  ⟨(some 7), .mv (.tmp 6), none⟩,
  ⟨(some 8), .mv (.tmp 1), (some (7, true))⟩,
  ⟨(some 9), .call (.func 64) [(.tmp 8), (.const (.int .i64 1)), (.const (.int .i64 400))], (some (7, true))⟩,
  ⟨(some 10), .pick (.tmp 7) (.tmp 9) (.const (.bool false)), none⟩,
  ⟨(some 4), .mv (.tmp 10), none⟩])
 (.ret))
def r_spec_l8Common : List ARes := [.tmp 4]
theorem ok_spec_l8Common : FnOk Try.prog 79 11 c_spec_l8Common r_spec_l8Common := ⟨⟨Try.f79, _, Try.func79, by kernel_rfl, rfl, rfl, by kernel_rfl, by kernel_rfl⟩⟩
def c_spec_l8Fits : ACode := .seq (.reg [⟨(some 4), .mv (.const (.bool false)), none⟩])
 (.seq (.reg [⟨(some 7), .bld [(.int .i64 0), (.int .i64 0)] [(0, 1, (.const (.int .i64 0))), (1, 1, (.const (.int .i64 1)))], none⟩,
  ⟨(some 5), .alc 28 [(.int .i64 0), (.int .i64 0)], none⟩,
  ⟨none, .st 2 (.tmp 5) (.tmp 7), none⟩])
 (.seq (.seq (.reg [⟨(some 6), .mv (.const (.int .i64 0)), none⟩])
 (.block 0 (.loop (.seq (.seq (.reg [⟨(some 8), .mv (.tmp 6), none⟩,
  ⟨(some 9), .mv (.tmp 0), none⟩,
  ⟨(some 10), .len (.tmp 9), none⟩,
  ⟨(some 11), .bin .lss (.tmp 8) (.tmp 10), none⟩])
 (.cond (.tmp 11) (.skip) (.exit 0)))
 (.seq (.block 1 (.reg [⟨(some 14), .ld (some 2) (.tmp 5), none⟩,
  ⟨(some 15), .mv (.tmp 0), none⟩,
  ⟨(some 16), .mv (.tmp 6), none⟩,
  ⟨(some 17), .iad 5 (.tmp 15) (.tmp 16), none⟩,
  ⟨(some 18), .fad 4 (.tmp 17), none⟩,
  ⟨(some 19), .ld none (.tmp 18), none⟩,
  ⟨(some 20), .mv (.tmp 0), none⟩,
  ⟨(some 21), .mv (.tmp 6), none⟩,
  ⟨(some 22), .iad 5 (.tmp 20) (.tmp 21), none⟩,
  ⟨(some 23), .fad 3 (.tmp 22), none⟩,
  ⟨(some 24), .ld none (.tmp 23), none⟩,
  ⟨(some 25), .bin .mul (.tmp 19) (.tmp 24), none⟩,
  ⟨(some 26), .mv (.tmp 0), none⟩,
  ⟨(some 27), .mv (.tmp 6), none⟩,
  ⟨(some 28), .iad 5 (.tmp 26) (.tmp 27), none⟩,
  ⟨(some 29), .fad 0 (.tmp 28), none⟩,
  ⟨(some 30), .ld none (.tmp 29), none⟩,
  ⟨(some 31), .mv (.tmp 1), none⟩,
  ⟨(some 32), .bin .mul (.tmp 30) (.tmp 31), none⟩,
  ⟨(some 33), .bin .add (.tmp 25) (.tmp 32), none⟩,
  ⟨(some 34), .mv (.tmp 0), none⟩,
  ⟨(some 35), .mv (.tmp 6), none⟩,
  ⟨(some 36), .iad 5 (.tmp 34) (.tmp 35), none⟩,
  ⟨(some 37), .fad 3 (.tmp 36), none⟩,
  ⟨(some 38), .ld none (.tmp 37), none⟩,
  ⟨(some 39), .rcall (.func 103) [(.tmp 33), (.tmp 38)], none⟩,
  ⟨(some 40), .rcall (.func 107) [(.tmp 14), (.tmp 39)], none⟩,
  ⟨none, .st 2 (.tmp 5) (.tmp 40), none⟩]))
 (.reg [⟨(some 12), .mv (.tmp 6), none⟩,
  ⟨(some 13), .bin .add (.tmp 12) (.const (.int .i64 1)), none⟩,
  ⟨(some 6), .mv (.tmp 13), none⟩]))))))
 (.seq (.reg [⟨(some 41), .iada 1 2 (.tmp 5) (.const (.int .i64 0)), none⟩,
  ⟨(some 42), .ld none (.tmp 41), none⟩,
  ⟨(some 43), .mv (.tmp 1), none⟩,
  ⟨(some 44), .iada 1 2 (.tmp 5) (.const (.int .i64 1)), none⟩,
  ⟨(some 45), .ld none (.tmp 44), none⟩,
  ⟨(some 46), .bin .mul (.tmp 43) (.tmp 45), none⟩,
  ⟨(some 47), .bin .leq (.tmp 42) (.tmp 46), none⟩,
  ⟨(some 4), .mv (.tmp 47), none⟩])
 (.ret))))
def r_spec_l8Fits : List ARes := [.tmp 4]
theorem ok_spec_l8Fits : FnOk Try.prog 80 48 c_spec_l8Fits r_spec_l8Fits := ⟨⟨Try.f80, _, Try.func80, by kernel_rfl, rfl, rfl, by kernel_rfl, by kernel_rfl⟩⟩
def c_impl_made__fits : ACode := .seq (.reg [⟨(some 4), .mv (.const (.bool false)), none⟩])
 (.seq (.reg [⟨(some 8), .call (.func 95) [(.const (.int .i64 0)), (.const (.int .i64 1))], none⟩,
  ⟨(some 5), .alc 67 [(.int .i64 0), (.int .i64 0)], none⟩,
  ⟨none, .st 2 (.tmp 5) (.tmp 8), none⟩])
 (.seq (.seq (.reg [⟨(some 9), .mv (.tmp 0), none⟩,
  ⟨(some 10), .len (.tmp 9), none⟩,
  ⟨(some 11), .mv (.const (.int .i64 0)), none⟩])
 (.block 0 (.loop (.seq (.reg [⟨(some 12), .bin .lss (.tmp 11) (.tmp 10), none⟩])
 (.seq (.cond (.tmp 12) (.skip) (.exit 0))
 (.seq (.block 1 (.seq (.reg [⟨(some 13), .iad 5 (.tmp 9) (.tmp 11), none⟩,
  ⟨(some 14), .ld (some 5) (.tmp 13), none⟩,
  ⟨(some 7), .alc 25 [(.int .i64 0), (.int .i64 0), (.int .i64 0), (.int .i64 0), (.int .i64 0)], none⟩,
  ⟨none, .st 5 (.tmp 7) (.tmp 14), none⟩])
 (.reg [⟨(some 15), .ld (some 2) (.tmp 5), none⟩,
  ⟨(some 16), .fad 4 (.tmp 7), none⟩,
  ⟨(some 17), .ld none (.tmp 16), none⟩,
  ⟨(some 20), .fad 0 (.tmp 7), none⟩,
  ⟨(some 21), .ld none (.tmp 20), none⟩,
  ⟨(some 22), .mv (.tmp 1), none⟩,
  ⟨(some 23), .bin .mul (.tmp 21) (.tmp 22), none⟩,
  ⟨(some 24), .fad 3 (.tmp 7), none⟩,
  ⟨(some 25), .ld none (.tmp 24), none⟩,
  ⟨(some 18), .rcall (.func 95) [(.tmp 17), (.const (.int .i64 1))], none⟩,
  ⟨(some 19), .rcall (.func 96) [(.tmp 15), (.tmp 18)], none⟩,
  ⟨(some 26), .rcall (.func 95) [(.tmp 23), (.tmp 25)], none⟩,
  ⟨(some 27), .rcall (.func 96) [(.tmp 19), (.tmp 26)], none⟩,
  ⟨none, .st 2 (.tmp 5) (.tmp 27), none⟩])))
 (.reg [⟨(some 28), .bin .add (.tmp 11) (.const (.int .i64 1)), none⟩,
  ⟨(some 11), .mv (.tmp 28), none⟩])))))))
 (.seq (.reg [⟨(some 29), .ld (some 2) (.tmp 5), none⟩,
  ⟨(some 30), .mv (.tmp 1), none⟩,
  ⟨(some 31), .rcall (.func 95) [(.tmp 30), (.const (.int .i64 1))], none⟩,
  ⟨(some 32), .rcall (.func 106) [(.tmp 29), (.tmp 31)], none⟩,
  ⟨(some 33), .bin .leq (.tmp 32) (.const (.int .i64 0)), none⟩,
  ⟨(some 4), .mv (.tmp 33), none⟩])
 (.ret))))
def r_impl_made__fits : List ARes := [.tmp 4]
theorem ok_impl_made__fits : FnOk Try.prog 81 34 c_impl_made__fits r_impl_made__fits := ⟨⟨Try.f81, _, Try.func81, by kernel_rfl, rfl, rfl, by kernel_rfl, by kernel_rfl⟩⟩
def c_spec_l8Least : ACode := .seq (.reg [⟨(some 2), .mv (.const (.int .i64 0)), none⟩])
 (.seq (.seq (.reg [⟨(some 3), .mv (.const (.int .i64 1)), none⟩])
 (.block 0 (.loop (.seq (.seq (.reg [⟨(some 4), .mv (.tmp 3), none⟩,
  ⟨(some 5), .bin .leq (.tmp 4) (.const (.int .i64 400)), none⟩])
 (.cond (.tmp 5) (.skip) (.exit 0)))
 (.seq (.block 1 (.seq (.reg [⟨(some 8), .mv (.tmp 0), none⟩,
  ⟨(some 9), .mv (.tmp 3), none⟩,
  ⟨(some 10), .call (.func 80) [(.tmp 8), (.tmp 9)], none⟩])
 (.cond (.tmp 10) (.seq (.reg [⟨(some 11), .mv (.tmp 3), none⟩,
  ⟨(some 2), .mv (.tmp 11), none⟩])
 (.ret)) (.skip))))
 (.reg [⟨(some 6), .mv (.tmp 3), none⟩,
  ⟨(some 7), .bin .add (.tmp 6) (.const (.int .i64 1)), none⟩,
  ⟨(some 3), .mv (.tmp 7), none⟩]))))))
 (.seq (.reg [⟨(some 2), .mv (.const (.int .i64 0)), none⟩])
 (.ret)))
def r_spec_l8Least : List ARes := [.tmp 2]
theorem ok_spec_l8Least : FnOk Try.prog 82 12 c_spec_l8Least r_spec_l8Least := ⟨⟨Try.f82, _, Try.func82, by kernel_rfl, rfl, rfl, by kernel_rfl, by kernel_rfl⟩⟩
def c_impl_made__choices : ACode := .seq (.reg [⟨(some 1), .box 85 (.tmp 0), none⟩,
  ⟨(some 2), .mv (.const (.slice none 0 0)), none⟩])
 (.seq (.reg [⟨(some 3), .call (.func 113) [(.const (.int .i64 400))], none⟩,
  ⟨(some 4), .mkf 114 [] [(.tmp 1)], none⟩,
  ⟨(some 5), .call (.func 112) [(.tmp 3), (.tmp 4)], none⟩,
  ⟨(some 2), .mv (.tmp 5), none⟩])
 (.ret))
def r_impl_made__choices : List ARes := [.tmp 2]
theorem ok_impl_made__choices : FnOk Try.prog 83 6 c_impl_made__choices r_impl_made__choices := ⟨⟨Try.f83, _, Try.func83, by kernel_rfl, rfl, rfl, by kernel_rfl, by kernel_rfl⟩⟩
def c_spec_l8Shared : ACode := .seq (.reg [⟨(some 4), .alc 28 [(.int .i64 0), (.int .i64 0)], none⟩])
 (.seq (.reg [⟨(some 8), .bld [(.int .i64 0), (.int .i64 0)] [(0, 1, (.const (.int .i64 0))), (1, 1, (.const (.int .i64 1)))], none⟩,
  ⟨(some 5), .alc 28 [(.int .i64 0), (.int .i64 0)], none⟩,
  ⟨none, .st 2 (.tmp 5) (.tmp 8), none⟩])
 (.seq (.seq (.reg [⟨(some 6), .mv (.const (.int .i64 0)), none⟩])
 (.block 0 (.loop (.seq (.seq (.reg [⟨(some 9), .mv (.tmp 6), none⟩,
  ⟨(some 10), .mv (.tmp 0), none⟩,
  ⟨(some 11), .len (.tmp 10), none⟩,
  ⟨(some 12), .bin .lss (.tmp 9) (.tmp 11), none⟩])
 (.cond (.tmp 12) (.skip) (.exit 0)))
 (.seq (.block 1 (.seq (.reg [⟨(some 15), .mv (.tmp 0), none⟩,
  ⟨(some 16), .mv (.tmp 6), none⟩,
  ⟨(some 17), .iad 5 (.tmp 15) (.tmp 16), none⟩,
  ⟨(some 18), .ld (some 5) (.tmp 17), none⟩,
  ⟨(some 7), .alc 25 [(.int .i64 0), (.int .i64 0), (.int .i64 0), (.int .i64 0), (.int .i64 0)], none⟩,
  ⟨none, .st 5 (.tmp 7) (.tmp 18), none⟩])
 (.seq (.reg [⟨(some 19), .ld (some 2) (.tmp 5), none⟩,
  ⟨(some 20), .fad 1 (.tmp 7), none⟩,
  ⟨(some 21), .ld none (.tmp 20), none⟩,
  ⟨(some 22), .mv (.tmp 1), none⟩,
  ⟨(some 23), .rcall (.func 103) [(.tmp 21), (.tmp 22)], none⟩,
  ⟨(some 24), .rcall (.func 107) [(.tmp 19), (.tmp 23)], none⟩,
  ⟨none, .st 2 (.tmp 5) (.tmp 24), none⟩])
 (.reg [⟨(some 25), .ld (some 2) (.tmp 5), none⟩,
  ⟨(some 26), .fad 2 (.tmp 7), none⟩,
  ⟨(some 27), .ld none (.tmp 26), none⟩,
  ⟨(some 28), .fad 0 (.tmp 7), none⟩,
  ⟨(some 29), .ld none (.tmp 28), none⟩,
  ⟨(some 30), .bin .mul (.tmp 27) (.tmp 29), none⟩,
  ⟨(some 31), .fad 3 (.tmp 7), none⟩,
  ⟨(some 32), .ld none (.tmp 31), none⟩,
  ⟨(some 33), .fad 0 (.tmp 7), none⟩,
  ⟨(some 34), .ld none (.tmp 33), none⟩,
  ⟨(some 35), .bin .sub (.tmp 32) (.tmp 34), none⟩,
  ⟨(some 36), .bin .mul (.tmp 30) (.tmp 35), none⟩,
  ⟨(some 37), .mv (.tmp 1), none⟩,
  ⟨(some 38), .bin .mul (.tmp 36) (.tmp 37), none⟩,
  ⟨(some 39), .fad 3 (.tmp 7), none⟩,
  ⟨(some 40), .ld none (.tmp 39), none⟩,
  ⟨(some 41), .bin .mul (.const (.int .i64 2)) (.tmp 40), none⟩,
  ⟨(some 42), .rcall (.func 103) [(.tmp 38), (.tmp 41)], none⟩,
  ⟨(some 43), .rcall (.func 107) [(.tmp 25), (.tmp 42)], none⟩,
  ⟨none, .st 2 (.tmp 5) (.tmp 43), none⟩]))))
 (.reg [⟨(some 13), .mv (.tmp 6), none⟩,
  ⟨(some 14), .bin .add (.tmp 13) (.const (.int .i64 1)), none⟩,
  ⟨(some 6), .mv (.tmp 14), none⟩]))))))
 (.seq (.reg [⟨(some 44), .ld (some 2) (.tmp 5), none⟩,
  ⟨none, .st 2 (.tmp 4) (.tmp 44), none⟩])
 (.ret))))
def r_spec_l8Shared : List ARes := [.cell 4 (some 2)]
theorem ok_spec_l8Shared : FnOk Try.prog 84 45 c_spec_l8Shared r_spec_l8Shared := ⟨⟨Try.f84, _, Try.func84, by kernel_rfl, rfl, rfl, by kernel_rfl, by kernel_rfl⟩⟩
def c_impl_made__costOf : ACode := .seq (.reg [⟨(some 4), .alc 67 [(.int .i64 0), (.int .i64 0)], none⟩])
 (.seq (.reg [⟨(some 9), .call (.func 95) [(.const (.int .i64 0)), (.const (.int .i64 1))], none⟩,
  ⟨(some 5), .alc 67 [(.int .i64 0), (.int .i64 0)], none⟩,
  ⟨none, .st 2 (.tmp 5) (.tmp 9), none⟩])
 (.seq (.seq (.reg [⟨(some 10), .mv (.tmp 0), none⟩,
  ⟨(some 11), .len (.tmp 10), none⟩,
  ⟨(some 12), .mv (.const (.int .i64 0)), none⟩])
 (.block 0 (.loop (.seq (.reg [⟨(some 13), .bin .lss (.tmp 12) (.tmp 11), none⟩])
 (.seq (.cond (.tmp 13) (.skip) (.exit 0))
 (.seq (.block 1 (.seq (.reg [⟨(some 14), .iad 5 (.tmp 10) (.tmp 12), none⟩,
  ⟨(some 15), .ld (some 5) (.tmp 14), none⟩,
  ⟨(some 7), .alc 25 [(.int .i64 0), (.int .i64 0), (.int .i64 0), (.int .i64 0), (.int .i64 0)], none⟩,
  ⟨none, .st 5 (.tmp 7) (.tmp 15), none⟩])
 (.seq (.reg [⟨(some 16), .fad 2 (.tmp 7), none⟩,
  ⟨(some 17), .ld none (.tmp 16), none⟩,
  ⟨(some 18), .fad 0 (.tmp 7), none⟩,
  ⟨(some 19), .ld none (.tmp 18), none⟩,
  ⟨(some 20), .bin .mul (.tmp 17) (.tmp 19), none⟩,
  ⟨(some 21), .fad 3 (.tmp 7), none⟩,
  ⟨(some 22), .ld none (.tmp 21), none⟩,
  ⟨(some 23), .fad 0 (.tmp 7), none⟩,
  ⟨(some 24), .ld none (.tmp 23), none⟩,
  ⟨(some 25), .bin .sub (.tmp 22) (.tmp 24), none⟩,
  ⟨(some 26), .bin .mul (.tmp 20) (.tmp 25), none⟩,
  ⟨(some 27), .mv (.tmp 1), none⟩,
  ⟨(some 28), .bin .mul (.tmp 26) (.tmp 27), none⟩,
  ⟨(some 8), .mv (.tmp 28), none⟩])
 (.reg [⟨(some 29), .ld (some 2) (.tmp 5), none⟩,
  ⟨(some 30), .fad 1 (.tmp 7), none⟩,
  ⟨(some 31), .ld none (.tmp 30), none⟩,
  ⟨(some 32), .mv (.tmp 1), none⟩,
  ⟨(some 35), .mv (.tmp 8), none⟩,
  ⟨(some 36), .fad 3 (.tmp 7), none⟩,
  ⟨(some 37), .ld none (.tmp 36), none⟩,
  ⟨(some 38), .bin .mul (.const (.int .i64 2)) (.tmp 37), none⟩,
  ⟨(some 33), .rcall (.func 95) [(.tmp 31), (.tmp 32)], none⟩,
  ⟨(some 34), .rcall (.func 96) [(.tmp 29), (.tmp 33)], none⟩,
  ⟨(some 39), .rcall (.func 95) [(.tmp 35), (.tmp 38)], none⟩,
  ⟨(some 40), .rcall (.func 96) [(.tmp 34), (.tmp 39)], none⟩,
  ⟨none, .st 2 (.tmp 5) (.tmp 40), none⟩]))))
 (.reg [⟨(some 41), .bin .add (.tmp 12) (.const (.int .i64 1)), none⟩,
  ⟨(some 12), .mv (.tmp 41), none⟩])))))))
 (.seq (.reg [⟨(some 42), .ld (some 2) (.tmp 5), none⟩,
  ⟨none, .st 2 (.tmp 4) (.tmp 42), none⟩])
 (.ret))))
def r_impl_made__costOf : List ARes := [.cell 4 (some 2)]
theorem ok_impl_made__costOf : FnOk Try.prog 85 43 c_impl_made__costOf r_impl_made__costOf := ⟨⟨Try.f85, _, Try.func85, by kernel_rfl, rfl, rfl, by kernel_rfl, by kernel_rfl⟩⟩
def c_spec_l8Cheaper : ACode := .seq (.reg [⟨(some 6), .mv (.const (.bool false)), none⟩])
 (.seq (.reg [⟨(some 11), .bld [(.int .i64 0), (.int .i64 0)] [(0, 1, (.const (.int .i64 0))), (1, 1, (.const (.int .i64 1)))], none⟩,
  ⟨(some 8), .alc 28 [(.int .i64 0), (.int .i64 0)], none⟩,
  ⟨(some 7), .mv (.const (.int .i64 0)), none⟩,
  ⟨none, .st 2 (.tmp 8) (.tmp 11), none⟩])
 (.seq (.seq (.reg [⟨(some 9), .mv (.const (.int .i64 0)), none⟩])
 (.block 0 (.loop (.seq (.seq (.reg [⟨(some 12), .mv (.tmp 9), none⟩,
  ⟨(some 13), .mv (.tmp 0), none⟩,
  ⟨(some 14), .len (.tmp 13), none⟩,
  ⟨(some 15), .bin .lss (.tmp 12) (.tmp 14), none⟩])
 (.cond (.tmp 15) (.skip) (.exit 0)))
 (.seq (.block 1 (.seq (.reg [⟨(some 18), .mv (.tmp 0), none⟩,
  ⟨(some 19), .mv (.tmp 9), none⟩,
  ⟨(some 20), .iad 5 (.tmp 18) (.tmp 19), none⟩,
  ⟨(some 21), .ld (some 5) (.tmp 20), none⟩,
  ⟨(some 10), .alc 25 [(.int .i64 0), (.int .i64 0), (.int .i64 0), (.int .i64 0), (.int .i64 0)], none⟩,
  ⟨none, .st 5 (.tmp 10) (.tmp 21), none⟩])
 (.seq (.reg [⟨(some 22), .mv (.tmp 7), none⟩,
  ⟨(some 23), .fad 1 (.tmp 10), none⟩,
  ⟨(some 24), .ld none (.tmp 23), none⟩,
  ⟨(some 25), .bin .add (.tmp 22) (.tmp 24), none⟩,
  ⟨(some 7), .mv (.tmp 25), none⟩])
 (.reg [⟨(some 26), .ld (some 2) (.tmp 8), none⟩,
  ⟨(some 27), .fad 2 (.tmp 10), none⟩,
  ⟨(some 28), .ld none (.tmp 27), none⟩,
  ⟨(some 29), .fad 0 (.tmp 10), none⟩,
  ⟨(some 30), .ld none (.tmp 29), none⟩,
  ⟨(some 31), .bin .mul (.tmp 28) (.tmp 30), none⟩,
  ⟨(some 32), .fad 3 (.tmp 10), none⟩,
  ⟨(some 33), .ld none (.tmp 32), none⟩,
  ⟨(some 34), .fad 0 (.tmp 10), none⟩,
  ⟨(some 35), .ld none (.tmp 34), none⟩,
  ⟨(some 36), .bin .sub (.tmp 33) (.tmp 35), none⟩,
  ⟨(some 37), .bin .mul (.tmp 31) (.tmp 36), none⟩,
  ⟨(some 38), .fad 3 (.tmp 10), none⟩,
  ⟨(some 39), .ld none (.tmp 38), none⟩,
  ⟨(some 40), .bin .mul (.const (.int .i64 2)) (.tmp 39), none⟩,
  ⟨(some 41), .rcall (.func 103) [(.tmp 37), (.tmp 40)], none⟩,
  ⟨(some 42), .rcall (.func 107) [(.tmp 26), (.tmp 41)], none⟩,
  ⟨none, .st 2 (.tmp 8) (.tmp 42), none⟩]))))
 (.reg [⟨(some 16), .mv (.tmp 9), none⟩,
  ⟨(some 17), .bin .add (.tmp 16) (.const (.int .i64 1)), none⟩,
  ⟨(some 9), .mv (.tmp 17), none⟩]))))))
 (.seq (.reg [⟨(some 43), .mv (.tmp 7), none⟩,
  ⟨(some 44), .iada 1 2 (.tmp 8) (.const (.int .i64 1)), none⟩,
  ⟨(some 45), .ld none (.tmp 44), none⟩,
  ⟨(some 46), .bin .mul (.tmp 43) (.tmp 45), none⟩,
  ⟨(some 47), .mv (.tmp 2), none⟩,
  ⟨(some 48), .bin .mul (.tmp 46) (.tmp 47), none⟩,
  ⟨(some 49), .iada 1 2 (.tmp 8) (.const (.int .i64 0)), none⟩,
  ⟨(some 50), .ld none (.tmp 49), none⟩,
  ⟨(some 51), .mv (.tmp 1), none⟩,
  ⟨(some 52), .bin .mul (.tmp 50) (.tmp 51), none⟩,
  ⟨(some 53), .mv (.tmp 1), none⟩,
  ⟨(some 54), .bin .mul (.tmp 52) (.tmp 53), none⟩,
  ⟨(some 55), .mv (.tmp 2), none⟩,
  ⟨(some 56), .bin .mul (.tmp 54) (.tmp 55), none⟩,
  ⟨(some 57), .bin .add (.tmp 48) (.tmp 56), none⟩,
  ⟨(some 58), .mv (.tmp 7), none⟩,
  ⟨(some 59), .iada 1 2 (.tmp 8) (.const (.int .i64 1)), none⟩,
  ⟨(some 60), .ld none (.tmp 59), none⟩,
  ⟨(some 61), .bin .mul (.tmp 58) (.tmp 60), none⟩,
  ⟨(some 62), .mv (.tmp 1), none⟩,
  ⟨(some 63), .bin .mul (.tmp 61) (.tmp 62), none⟩,
  ⟨(some 64), .iada 1 2 (.tmp 8) (.const (.int .i64 0)), none⟩,
  ⟨(some 65), .ld none (.tmp 64), none⟩,
  ⟨(some 66), .mv (.tmp 2), none⟩,
  ⟨(some 67), .bin .mul (.tmp 65) (.tmp 66), none⟩,
  ⟨(some 68), .mv (.tmp 2), none⟩,
  ⟨(some 69), .bin .mul (.tmp 67) (.tmp 68), none⟩,
  ⟨(some 70), .mv (.tmp 1), none⟩,
  ⟨(some 71), .bin .mul (.tmp 69) (.tmp 70), none⟩,
  ⟨(some 72), .bin .add (.tmp 63) (.tmp 71), none⟩,
  ⟨(some 73), .bin .lss (.tmp 57) (.tmp 72), none⟩,
  ⟨(some 6), .mv (.tmp 73), none⟩])
 (.ret))))
def r_spec_l8Cheaper : List ARes := [.tmp 6]
theorem ok_spec_l8Cheaper : FnOk Try.prog 86 74 c_spec_l8Cheaper r_spec_l8Cheaper := ⟨⟨Try.f86, _, Try.func86, by kernel_rfl, rfl, rfl, by kernel_rfl, by kernel_rfl⟩⟩
def c_spec_l8Table : ACode := .seq (.reg [⟨(some 4), .mv (.const (.bool false)), none⟩])
 (.seq (.seq (.reg [⟨(some 5), .mv (.const (.int .i64 0)), none⟩])
 (.block 0 (.loop (.seq (.seq (.reg [⟨(some 6), .mv (.tmp 5), none⟩,
  ⟨(some 7), .mv (.tmp 1), none⟩,
  ⟨(some 8), .len (.tmp 7), none⟩,
  ⟨(some 9), .bin .lss (.tmp 6) (.tmp 8), none⟩,
  ⟨(some 10), .mv (.tmp 9), none⟩,
  ⟨(some 11), .mv (.tmp 5), (some (10, true))⟩,
  ⟨(some 12), .mv (.tmp 0), (some (10, true))⟩,
  ⟨(some 13), .len (.tmp 12), (some (10, true))⟩,
  ⟨(some 14), .bin .lss (.tmp 11) (.tmp 13), (some (10, true))⟩,
  ⟨(some 15), .pick (.tmp 10) (.tmp 14) (.const (.bool false)), none⟩])
 (.cond (.tmp 15) (.skip) (.exit 0)))
 (.seq (.block 1 (.seq (.reg [⟨(some 18), .mv (.tmp 1), none⟩,
  ⟨(some 19), .mv (.tmp 5), none⟩,
  ⟨(some 20), .iad 1 (.tmp 18) (.tmp 19), none⟩,
  ⟨(some 21), .ld none (.tmp 20), none⟩,
  ⟨(some 22), .mv (.tmp 0), none⟩,
  ⟨(some 23), .mv (.tmp 5), none⟩,
  ⟨(some 24), .iad 1 (.tmp 22) (.tmp 23), none⟩,
  ⟨(some 25), .ld none (.tmp 24), none⟩,
  ⟨(some 26), .bin .sub (.tmp 25) (.const (.int .i64 1)), none⟩,
  ⟨(some 27), .rcall (.func 64) [(.tmp 21), (.const (.int .i64 0)), (.tmp 26)], none⟩,
  ⟨(some 28), .un .not (.tmp 27), none⟩])
 (.cond (.tmp 28) (.seq (.reg [⟨(some 4), .mv (.const (.bool false)), none⟩])
 (.ret)) (.skip))))
 (.reg [⟨(some 16), .mv (.tmp 5), none⟩,
  ⟨(some 17), .bin .add (.tmp 16) (.const (.int .i64 1)), none⟩,
  ⟨(some 5), .mv (.tmp 17), none⟩]))))))
 (.seq (.reg [⟨(some 29), .mv (.tmp 0), none⟩,
  ⟨(some 30), .call (.func 92) [(.tmp 29)], none⟩,
  ⟨(some 31), .mv (.tmp 30), none⟩,
  ⟨(some 32), .mv (.tmp 1), (some (31, true))⟩,
  ⟨(some 33), .len (.tmp 32), (some (31, true))⟩,
  ⟨(some 34), .mv (.tmp 0), (some (31, true))⟩,
  ⟨(some 35), .len (.tmp 34), (some (31, true))⟩,
  ⟨(some 36), .bin .eql (.tmp 33) (.tmp 35), (some (31, true))⟩,
  ⟨(some 37), .pick (.tmp 31) (.tmp 36) (.const (.bool false)), none⟩,
  ⟨(some 4), .mv (.tmp 37), none⟩])
 (.ret)))
def r_spec_l8Table : List ARes := [.tmp 4]
theorem ok_spec_l8Table : FnOk Try.prog 87 38 c_spec_l8Table r_spec_l8Table := ⟨⟨Try.f87, _, Try.func87, by kernel_rfl, rfl, rfl, by kernel_rfl, by kernel_rfl⟩⟩
def c_spec_l8Meet : ACode := .seq (.reg [⟨(some 8), .mv (.const (.bool false)), none⟩])
 (.seq (.reg [⟨(some 9), .mv (.tmp 1), none⟩,
  ⟨(some 10), .mv (.tmp 3), none⟩,
  ⟨(some 11), .bin .sub (.tmp 9) (.tmp 10), none⟩,
  ⟨(some 12), .mv (.tmp 0), none⟩,
  ⟨(some 13), .mv (.tmp 2), none⟩,
  ⟨(some 14), .call (.func 115) [(.tmp 12), (.tmp 13)], none⟩,
  ⟨(some 15), .bin .rem (.tmp 11) (.tmp 14), none⟩,
  ⟨(some 16), .bin .eql (.tmp 15) (.const (.int .i64 0)), none⟩,
  ⟨(some 8), .mv (.tmp 16), none⟩])
 (.ret))
def r_spec_l8Meet : List ARes := [.tmp 8]
theorem ok_spec_l8Meet : FnOk Try.prog 88 17 c_spec_l8Meet r_spec_l8Meet := ⟨⟨Try.f88, _, Try.func88, by kernel_rfl, rfl, rfl, by kernel_rfl, by kernel_rfl⟩⟩
def c_impl_timetableOf : ACode := .seq (.reg [⟨(some 4), .mv (.const (.slice none 0 0)), none⟩,
  ⟨(some 5), .mv (.const (.bool false)), none⟩])
 (.seq (.seq (.reg [⟨(some 9), .mv (.tmp 0), none⟩,
  ⟨(some 10), .call (.func 94) [(.tmp 9)], none⟩,
  ⟨(some 11), .un .not (.tmp 10), none⟩,
  ⟨(some 12), .mv (.tmp 11), none⟩,
  ⟨(some 13), .mv (.tmp 1), (some (12, false))⟩,
  ⟨(some 14), .len (.tmp 13), (some (12, false))⟩,
  ⟨(some 15), .mv (.tmp 0), (some (12, false))⟩,
  ⟨(some 16), .len (.tmp 15), (some (12, false))⟩,
  ⟨(some 17), .bin .neq (.tmp 14) (.tmp 16), (some (12, false))⟩,
  ⟨(some 18), .pick (.tmp 12) (.const (.bool true)) (.tmp 17), none⟩])
 (.cond (.tmp 18) (.seq (.reg [⟨(some 19), .bsl 96 2 0 [] [], none⟩,
  ⟨(some 4), .mv (.tmp 19), none⟩,
  ⟨(some 5), .mv (.const (.bool false)), none⟩])
 (.ret)) (.skip)))
 (.seq (.reg [⟨(some 20), .bsl 96 2 0 [] [], none⟩,
  ⟨(some 6), .mv (.tmp 20), none⟩])
 (.seq (.seq (.reg [⟨(some 21), .mv (.tmp 0), none⟩,
  ⟨(some 22), .len (.tmp 21), none⟩,
  ⟨(some 23), .mv (.const (.int .i64 0)), none⟩])
 (.block 0 (.loop (.seq (.reg [⟨(some 24), .bin .lss (.tmp 23) (.tmp 22), none⟩])
 (.seq (.cond (.tmp 24) (.skip) (.exit 0))
 (.seq (.block 1 (.seq (.reg [⟨(some 25), .mv (.tmp 23), none⟩,
  ⟨(some 26), .iad 1 (.tmp 21) (.tmp 23), none⟩,
  ⟨(some 27), .ld none (.tmp 26), none⟩,
  ⟨(some 7), .mv (.tmp 25), none⟩,
  ⟨(some 8), .mv (.tmp 27), none⟩])
 (.seq (.seq (.reg [⟨(some 28), .mv (.tmp 1), none⟩,
  ⟨(some 29), .mv (.tmp 7), none⟩,
  ⟨(some 30), .iad 1 (.tmp 28) (.tmp 29), none⟩,
  ⟨(some 31), .ld none (.tmp 30), none⟩,
  ⟨(some 32), .mv (.tmp 8), none⟩,
  ⟨(some 33), .bin .sub (.tmp 32) (.const (.int .i64 1)), none⟩,
  ⟨(some 34), .call (.func 63) [(.tmp 31), (.tmp 33)], none⟩,
  ⟨(some 35), .un .not (.tmp 34), none⟩])
 (.cond (.tmp 35) (.seq (.reg [⟨(some 36), .bsl 96 2 0 [] [], none⟩,
  ⟨(some 4), .mv (.tmp 36), none⟩,
  ⟨(some 5), .mv (.const (.bool false)), none⟩])
 (.ret)) (.skip)))
 (.reg [⟨(some 37), .mv (.tmp 6), none⟩,
  ⟨(some 38), .mv (.tmp 8), none⟩,
  ⟨(some 39), .mv (.tmp 1), none⟩,
  ⟨(some 40), .mv (.tmp 7), none⟩,
  ⟨(some 41), .iad 1 (.tmp 39) (.tmp 40), none⟩,
  ⟨(some 42), .ld none (.tmp 41), none⟩,
  ⟨(some 43), .bld [(.int .i64 0), (.int .i64 0)] [(0, 1, (.tmp 38)), (1, 1, (.tmp 42))], none⟩,
  ⟨(some 44), .bsl 96 2 1 [(.int .i64 0), (.int .i64 0)] [(0, 2, (.tmp 43))], none⟩,
  ⟨(some 45), .app 96 2 16 (.tmp 37) (.tmp 44), none⟩,
  ⟨(some 6), .mv (.tmp 45), none⟩]))))
 (.reg [⟨(some 46), .bin .add (.tmp 23) (.const (.int .i64 1)), none⟩,
  ⟨(some 23), .mv (.tmp 46), none⟩])))))))
 (.seq (.reg [⟨(some 47), .mv (.tmp 6), none⟩,
  ⟨(some 4), .mv (.tmp 47), none⟩,
  ⟨(some 5), .mv (.const (.bool true)), none⟩])
 (.ret)))))
def r_impl_timetableOf : List ARes := [.tmp 4, .tmp 5]
theorem ok_impl_timetableOf : FnOk Try.prog 89 48 c_impl_timetableOf r_impl_timetableOf := ⟨⟨Try.f89, _, Try.func89, by kernel_rfl, rfl, rfl, by kernel_rfl, by kernel_rfl⟩⟩
def c_slices_ContainsFunc_visit : ACode := .seq (.reg [⟨(some 4), .mv (.const (.bool false)), none⟩])
 (.seq (.reg [⟨(some 5), .mv (.tmp 0), none⟩,
  ⟨(some 6), .mv (.tmp 1), none⟩,
  ⟨(some 7), .call (.func 116) [(.tmp 5), (.tmp 6)], none⟩,
  ⟨(some 8), .bin .geq (.tmp 7) (.const (.int .i64 0)), none⟩,
  ⟨(some 4), .mv (.tmp 8), none⟩])
 (.ret))
def r_slices_ContainsFunc_visit : List ARes := [.tmp 4]
theorem ok_slices_ContainsFunc_visit : FnOk Try.prog 90 9 c_slices_ContainsFunc_visit r_slices_ContainsFunc_visit := ⟨⟨Try.f90, _, Try.func90, by kernel_rfl, rfl, rfl, by kernel_rfl, by kernel_rfl⟩⟩
def c_impl_visit__meets : ACode := .seq (.reg [⟨(some 2), .box 96 (.tmp 0), none⟩,
  ⟨(some 3), .box 96 (.tmp 1), none⟩,
  ⟨(some 4), .mv (.const (.bool false)), none⟩])
 (.seq (.reg [⟨(some 5), .fad 1 (.tmp 2), none⟩,
  ⟨(some 6), .ld none (.tmp 5), none⟩,
  ⟨(some 7), .fad 1 (.tmp 3), none⟩,
  ⟨(some 8), .ld none (.tmp 7), none⟩,
  ⟨(some 9), .bin .sub (.tmp 6) (.tmp 8), none⟩,
  ⟨(some 10), .fad 0 (.tmp 2), none⟩,
  ⟨(some 11), .ld none (.tmp 10), none⟩,
  ⟨(some 12), .fad 0 (.tmp 3), none⟩,
  ⟨(some 13), .ld none (.tmp 12), none⟩,
  ⟨(some 14), .rcall (.func 117) [(.tmp 11), (.tmp 13)], none⟩,
  ⟨(some 15), .bin .rem (.tmp 9) (.tmp 14), none⟩,
  ⟨(some 16), .bin .eql (.tmp 15) (.const (.int .i64 0)), none⟩,
  ⟨(some 4), .mv (.tmp 16), none⟩])
 (.ret))
def r_impl_visit__meets : List ARes := [.tmp 4]
theorem ok_impl_visit__meets : FnOk Try.prog 91 17 c_impl_visit__meets r_impl_visit__meets := ⟨⟨Try.f91, _, Try.func91, by kernel_rfl, rfl, rfl, by kernel_rfl, by kernel_rfl⟩⟩
def c_spec_l8Cycles : ACode := .seq (.reg [⟨(some 2), .mv (.const (.bool false)), none⟩])
 (.seq (.seq (.reg [⟨(some 3), .mv (.const (.int .i64 0)), none⟩])
 (.block 0 (.loop (.seq (.seq (.reg [⟨(some 4), .mv (.tmp 3), none⟩,
  ⟨(some 5), .mv (.tmp 0), none⟩,
  ⟨(some 6), .len (.tmp 5), none⟩,
  ⟨(some 7), .bin .lss (.tmp 4) (.tmp 6), none⟩])
 (.cond (.tmp 7) (.skip) (.exit 0)))
 (.seq (.block 1 (.seq (.reg [⟨(some 10), .mv (.tmp 0), none⟩,
  ⟨(some 11), .mv (.tmp 3), none⟩,
  ⟨(some 12), .iad 1 (.tmp 10) (.tmp 11), none⟩,
  ⟨(some 13), .ld none (.tmp 12), none⟩,
  ⟨(some 14), .call (.func 64) [(.tmp 13), (.const (.int .i64 1)), (.const (.int .i64 64))], none⟩,
  ⟨(some 15), .un .not (.tmp 14), none⟩])
 (.cond (.tmp 15) (.seq (.reg [⟨(some 2), .mv (.const (.bool false)), none⟩])
 (.ret)) (.skip))))
 (.reg [⟨(some 8), .mv (.tmp 3), none⟩,
  ⟨(some 9), .bin .add (.tmp 8) (.const (.int .i64 1)), none⟩,
  ⟨(some 3), .mv (.tmp 9), none⟩]))))))
 (.seq (.reg [⟨(some 16), .mv (.tmp 0), none⟩,
  ⟨(some 17), .len (.tmp 16), none⟩,
  ⟨(some 18), .bin .leq (.tmp 17) (.const (.int .i64 5)), none⟩,
  ⟨(some 2), .mv (.tmp 18), none⟩])
 (.ret)))
def r_spec_l8Cycles : List ARes := [.tmp 2]
theorem ok_spec_l8Cycles : FnOk Try.prog 92 19 c_spec_l8Cycles r_spec_l8Cycles := ⟨⟨Try.f92, _, Try.func92, by kernel_rfl, rfl, rfl, by kernel_rfl, by kernel_rfl⟩⟩
def c_spec_l8Share : ACode := .seq (.reg [⟨(some 2), .alc 28 [(.int .i64 0), (.int .i64 0)], none⟩])
 (.seq (.reg [⟨(some 5), .bld [(.int .i64 0), (.int .i64 0)] [(0, 1, (.const (.int .i64 0))), (1, 1, (.const (.int .i64 1)))], none⟩,
  ⟨(some 3), .alc 28 [(.int .i64 0), (.int .i64 0)], none⟩,
  ⟨none, .st 2 (.tmp 3) (.tmp 5), none⟩])
 (.seq (.seq (.reg [⟨(some 4), .mv (.const (.int .i64 0)), none⟩])
 (.block 0 (.loop (.seq (.seq (.reg [⟨(some 6), .mv (.tmp 4), none⟩,
  ⟨(some 7), .mv (.tmp 0), none⟩,
  ⟨(some 8), .len (.tmp 7), none⟩,
  ⟨(some 9), .bin .lss (.tmp 6) (.tmp 8), none⟩])
 (.cond (.tmp 9) (.skip) (.exit 0)))
 (.seq (.block 1 (.reg [⟨(some 12), .ld (some 2) (.tmp 3), none⟩,
  ⟨(some 13), .mv (.tmp 0), none⟩,
  ⟨(some 14), .mv (.tmp 4), none⟩,
  ⟨(some 15), .iad 1 (.tmp 13) (.tmp 14), none⟩,
  ⟨(some 16), .ld none (.tmp 15), none⟩,
  ⟨(some 17), .bld [(.int .i64 0), (.int .i64 0)] [(0, 1, (.const (.int .i64 1))), (1, 1, (.tmp 16))], none⟩,
  ⟨(some 18), .rcall (.func 107) [(.tmp 12), (.tmp 17)], none⟩,
  ⟨none, .st 2 (.tmp 3) (.tmp 18), none⟩]))
 (.reg [⟨(some 10), .mv (.tmp 4), none⟩,
  ⟨(some 11), .bin .add (.tmp 10) (.const (.int .i64 1)), none⟩,
  ⟨(some 4), .mv (.tmp 11), none⟩]))))))
 (.seq (.reg [⟨(some 19), .ld (some 2) (.tmp 3), none⟩,
  ⟨none, .st 2 (.tmp 2) (.tmp 19), none⟩])
 (.ret))))
def r_spec_l8Share : List ARes := [.cell 2 (some 2)]
theorem ok_spec_l8Share : FnOk Try.prog 93 20 c_spec_l8Share r_spec_l8Share := ⟨⟨Try.f93, _, Try.func93, by kernel_rfl, rfl, rfl, by kernel_rfl, by kernel_rfl⟩⟩
def c_impl_areCycles : ACode := .seq (.reg [⟨(some 2), .mv (.const (.bool false)), none⟩])
 (.seq (.reg [⟨(some 3), .mv (.tmp 0), none⟩,
  ⟨(some 4), .len (.tmp 3), none⟩,
  ⟨(some 5), .bin .leq (.tmp 4) (.const (.int .i64 5)), none⟩,
  ⟨(some 6), .mv (.tmp 5), none⟩,
  ⟨(some 7), .mv (.tmp 0), (some (6, true))⟩,
  ⟨(some 8), .mv (.tmp 0), (some (6, true))⟩,
  ⟨(some 9), .len (.tmp 8), (some (6, true))⟩,
  ⟨(some 10), .call (.func 74) [(.tmp 7), (.tmp 9), (.const (.int .i64 64))], (some (6, true))⟩,
  ⟨(some 11), .pick (.tmp 6) (.tmp 10) (.const (.bool false)), none⟩,
  ⟨(some 2), .mv (.tmp 11), none⟩])
 (.ret))
def r_impl_areCycles : List ARes := [.tmp 2]
theorem ok_impl_areCycles : FnOk Try.prog 94 12 c_impl_areCycles r_impl_areCycles := ⟨⟨Try.f94, _, Try.func94, by kernel_rfl, rfl, rfl, by kernel_rfl, by kernel_rfl⟩⟩
def c_impl_fractionOf : ACode := .seq (.reg [⟨(some 4), .alc 67 [(.int .i64 0), (.int .i64 0)], none⟩])
 (.seq (.reg [⟨(some 6), .mv (.tmp 0), none⟩,
  ⟨(some 7), .mv (.tmp 1), none⟩,
  ⟨(some 8), .call (.func 117) [(.tmp 6), (.tmp 7)], none⟩,
  ⟨(some 5), .mv (.tmp 8), none⟩])
 (.seq (.reg [⟨(some 9), .mv (.tmp 0), none⟩,
  ⟨(some 10), .mv (.tmp 5), none⟩,
  ⟨(some 11), .bin .quo (.tmp 9) (.tmp 10), none⟩,
  ⟨(some 12), .mv (.tmp 1), none⟩,
  ⟨(some 13), .mv (.tmp 5), none⟩,
  ⟨(some 14), .bin .quo (.tmp 12) (.tmp 13), none⟩,
  ⟨(some 15), .bld [(.int .i64 0), (.int .i64 0)] [(0, 1, (.tmp 11)), (1, 1, (.tmp 14))], none⟩,
  ⟨none, .st 2 (.tmp 4) (.tmp 15), none⟩])
 (.ret)))
def r_impl_fractionOf : List ARes := [.cell 4 (some 2)]
theorem ok_impl_fractionOf : FnOk Try.prog 95 16 c_impl_fractionOf r_impl_fractionOf := ⟨⟨Try.f95, _, Try.func95, by kernel_rfl, rfl, rfl, by kernel_rfl, by kernel_rfl⟩⟩
def c_impl_fraction__plus : ACode := .seq (.reg [⟨(some 2), .box 67 (.tmp 0), none⟩,
  ⟨(some 3), .box 67 (.tmp 1), none⟩,
  ⟨(some 4), .alc 67 [(.int .i64 0), (.int .i64 0)], none⟩])
 (.seq (.reg [⟨(some 6), .iada 1 2 (.tmp 2) (.const (.int .i64 1)), none⟩,
  ⟨(some 7), .ld none (.tmp 6), none⟩,
  ⟨(some 8), .iada 1 2 (.tmp 3) (.const (.int .i64 1)), none⟩,
  ⟨(some 9), .ld none (.tmp 8), none⟩,
  ⟨(some 10), .call (.func 117) [(.tmp 7), (.tmp 9)], none⟩,
  ⟨(some 5), .mv (.tmp 10), none⟩])
 (.seq (.reg [⟨(some 11), .iada 1 2 (.tmp 2) (.const (.int .i64 0)), none⟩,
  ⟨(some 12), .ld none (.tmp 11), none⟩,
  ⟨(some 13), .iada 1 2 (.tmp 3) (.const (.int .i64 1)), none⟩,
  ⟨(some 14), .ld none (.tmp 13), none⟩,
  ⟨(some 15), .mv (.tmp 5), none⟩,
  ⟨(some 16), .bin .quo (.tmp 14) (.tmp 15), none⟩,
  ⟨(some 17), .bin .mul (.tmp 12) (.tmp 16), none⟩,
  ⟨(some 18), .iada 1 2 (.tmp 3) (.const (.int .i64 0)), none⟩,
  ⟨(some 19), .ld none (.tmp 18), none⟩,
  ⟨(some 20), .iada 1 2 (.tmp 2) (.const (.int .i64 1)), none⟩,
  ⟨(some 21), .ld none (.tmp 20), none⟩,
  ⟨(some 22), .mv (.tmp 5), none⟩,
  ⟨(some 23), .bin .quo (.tmp 21) (.tmp 22), none⟩,
  ⟨(some 24), .bin .mul (.tmp 19) (.tmp 23), none⟩,
  ⟨(some 25), .bin .add (.tmp 17) (.tmp 24), none⟩,
  ⟨(some 26), .iada 1 2 (.tmp 2) (.const (.int .i64 1)), none⟩,
  ⟨(some 27), .ld none (.tmp 26), none⟩,
  ⟨(some 28), .mv (.tmp 5), none⟩,
  ⟨(some 29), .bin .quo (.tmp 27) (.tmp 28), none⟩,
  ⟨(some 30), .iada 1 2 (.tmp 3) (.const (.int .i64 1)), none⟩,
  ⟨(some 31), .ld none (.tmp 30), none⟩,
  ⟨(some 32), .bin .mul (.tmp 29) (.tmp 31), none⟩,
  ⟨(some 33), .rcall (.func 95) [(.tmp 25), (.tmp 32)], none⟩,
  ⟨none, .st 2 (.tmp 4) (.tmp 33), none⟩])
 (.ret)))
def r_impl_fraction__plus : List ARes := [.cell 4 (some 2)]
theorem ok_impl_fraction__plus : FnOk Try.prog 96 34 c_impl_fraction__plus r_impl_fraction__plus := ⟨⟨Try.f96, _, Try.func96, by kernel_rfl, rfl, rfl, by kernel_rfl, by kernel_rfl⟩⟩
def c_spec_l8Place : ACode := .seq (.reg [⟨(some 4), .mv (.const (.slice none 0 0)), none⟩,
  ⟨(some 5), .mv (.const (.bool false)), none⟩])
 (.seq (.reg [⟨(some 11), .mv (.tmp 1), none⟩,
  ⟨(some 12), .len (.tmp 11), none⟩,
  ⟨(some 6), .mv (.tmp 12), none⟩])
 (.seq (.seq (.reg [⟨(some 13), .mv (.tmp 6), none⟩,
  ⟨(some 14), .mv (.tmp 0), none⟩,
  ⟨(some 15), .len (.tmp 14), none⟩,
  ⟨(some 16), .bin .eql (.tmp 13) (.tmp 15), none⟩])
 (.cond (.tmp 16) (.seq (.reg [⟨(some 17), .mv (.tmp 1), none⟩,
  ⟨(some 4), .mv (.tmp 17), none⟩,
  ⟨(some 5), .mv (.const (.bool true)), none⟩])
 (.ret)) (.skip)))
 (.seq (.reg [⟨(some 18), .mv (.tmp 0), none⟩,
  ⟨(some 19), .mv (.tmp 1), none⟩,
  ⟨(some 20), .call (.func 118) [(.tmp 18), (.tmp 19)], none⟩,
  ⟨(some 7), .mv (.tmp 20), none⟩])
 (.seq (.seq (.reg [⟨(some 8), .mv (.const (.int .i64 0)), none⟩])
 (.block 0 (.loop (.seq (.seq (.reg [⟨(some 21), .mv (.tmp 8), none⟩,
  ⟨(some 22), .mv (.tmp 0), none⟩,
  ⟨(some 23), .mv (.tmp 6), none⟩,
  ⟨(some 24), .iad 1 (.tmp 22) (.tmp 23), none⟩,
  ⟨(some 25), .ld none (.tmp 24), none⟩,
  ⟨(some 26), .bin .lss (.tmp 21) (.tmp 25), none⟩,
  ⟨(some 27), .mv (.tmp 26), none⟩,
  ⟨(some 28), .mv (.tmp 7), (some (27, true))⟩,
  ⟨(some 29), .pick (.tmp 27) (.tmp 28) (.const (.bool false)), none⟩])
 (.cond (.tmp 29) (.skip) (.exit 0)))
 (.seq (.block 1 (.seq (.seq (.reg [⟨(some 32), .mv (.tmp 0), none⟩,
  ⟨(some 33), .mv (.tmp 1), none⟩,
  ⟨(some 34), .mv (.tmp 6), none⟩,
  ⟨(some 35), .mv (.tmp 8), none⟩,
  ⟨(some 36), .call (.func 119) [(.tmp 32), (.tmp 33), (.tmp 34), (.tmp 35)], none⟩,
  ⟨(some 37), .un .not (.tmp 36), none⟩])
 (.cond (.tmp 37) (.exit 1) (.skip)))
 (.seq (.reg [⟨(some 39), .mv (.tmp 0), none⟩,
  ⟨(some 40), .mv (.tmp 1), none⟩,
  ⟨(some 41), .call (.func 120) [(.tmp 40)], none⟩,
  ⟨(some 42), .mv (.tmp 8), none⟩,
  ⟨(some 43), .bsl 3 1 1 [(.int .i64 0)] [(0, 1, (.tmp 42))], none⟩,
  ⟨(some 44), .app 3 1 8 (.tmp 41) (.tmp 43), none⟩,
  ⟨(some 45), .call (.func 97) [(.tmp 39), (.tmp 44)], none⟩,
  ⟨(some 38), .mv (.tmp 45), none⟩,
  ⟨(some 46), .ext 0 (.tmp 38), none⟩,
  ⟨(some 47), .ext 1 (.tmp 38), none⟩,
  ⟨(some 9), .mv (.tmp 46), none⟩,
  ⟨(some 10), .mv (.tmp 47), none⟩])
 (.seq (.reg [⟨(some 48), .mv (.tmp 10), none⟩])
 (.cond (.tmp 48) (.seq (.reg [⟨(some 49), .mv (.tmp 9), none⟩,
  ⟨(some 4), .mv (.tmp 49), none⟩,
  ⟨(some 5), .mv (.const (.bool true)), none⟩])
 (.ret)) (.skip))))))
 (.reg [⟨(some 30), .mv (.tmp 8), none⟩,
  ⟨(some 31), .bin .add (.tmp 30) (.const (.int .i64 1)), none⟩,
  ⟨(some 8), .mv (.tmp 31), none⟩]))))))
 (.seq (.reg [⟨(some 50), .bsl 3 1 0 [] [], none⟩,
  ⟨(some 4), .mv (.tmp 50), none⟩,
  ⟨(some 5), .mv (.const (.bool false)), none⟩])
 (.ret))))))
def r_spec_l8Place : List ARes := [.tmp 4, .tmp 5]
theorem ok_spec_l8Place : FnOk Try.prog 97 51 c_spec_l8Place r_spec_l8Place := ⟨⟨Try.f97, _, Try.func97, by kernel_rfl, rfl, rfl, by kernel_rfl, by kernel_rfl⟩⟩
def c_impl_visitsOf : ACode := .seq (.reg [⟨(some 2), .mv (.const (.slice none 0 0)), none⟩])
 (.seq (.reg [⟨(some 5), .bsl 96 2 0 [] [], none⟩,
  ⟨(some 3), .mv (.tmp 5), none⟩])
 (.seq (.seq (.reg [⟨(some 6), .mv (.tmp 0), none⟩,
  ⟨(some 7), .mv (.const (.int .i64 0)), none⟩])
 (.block 0 (.loop (.seq (.reg [⟨(some 8), .bin .lss (.tmp 7) (.tmp 6), none⟩])
 (.seq (.cond (.tmp 8) (.skip) (.exit 0))
 (.seq (.block 1 (.seq (.reg [⟨(some 9), .mv (.tmp 7), none⟩,
  ⟨(some 4), .mv (.tmp 9), none⟩])
 (.reg [⟨(some 10), .mv (.tmp 3), none⟩,
  ⟨(some 11), .mv (.tmp 0), none⟩,
  ⟨(some 12), .mv (.tmp 4), none⟩,
  ⟨(some 13), .bld [(.int .i64 0), (.int .i64 0)] [(0, 1, (.tmp 11)), (1, 1, (.tmp 12))], none⟩,
  ⟨(some 14), .bsl 96 2 1 [(.int .i64 0), (.int .i64 0)] [(0, 2, (.tmp 13))], none⟩,
  ⟨(some 15), .app 96 2 16 (.tmp 10) (.tmp 14), none⟩,
  ⟨(some 3), .mv (.tmp 15), none⟩])))
 (.reg [⟨(some 16), .bin .add (.tmp 7) (.const (.int .i64 1)), none⟩,
  ⟨(some 7), .mv (.tmp 16), none⟩])))))))
 (.seq (.reg [⟨(some 17), .mv (.tmp 3), none⟩,
  ⟨(some 2), .mv (.tmp 17), none⟩])
 (.ret))))
def r_impl_visitsOf : List ARes := [.tmp 2]
theorem ok_impl_visitsOf : FnOk Try.prog 98 18 c_impl_visitsOf r_impl_visitsOf := ⟨⟨Try.f98, _, Try.func98, by kernel_rfl, rfl, rfl, by kernel_rfl, by kernel_rfl⟩⟩
def c_impl_firstOffsets : ACode := .seq (.reg [⟨(some 2), .mv (.const (.slice none 0 0)), none⟩,
  ⟨(some 3), .mv (.const (.bool false)), none⟩])
 (.scope (.seq (.seq (.reg [⟨(some 12), .mv (.tmp 0), none⟩,
  ⟨(some 13), .len (.tmp 12), none⟩,
  ⟨(some 14), .bin .eql (.tmp 13) (.const (.int .i64 0)), none⟩])
 (.cond (.tmp 14) (.seq (.reg [⟨(some 15), .bsl 3 1 0 [] [], none⟩,
  ⟨(some 2), .mv (.tmp 15), none⟩,
  ⟨(some 3), .mv (.const (.bool true)), none⟩])
 (.ret)) (.skip)))
 (.seq (.label 0)
 (.seq (.seq (.reg [⟨(some 16), .mv (.tmp 0), none⟩,
  ⟨(some 17), .iad 1 (.tmp 16) (.const (.int .i64 0)), none⟩,
  ⟨(some 18), .ld none (.tmp 17), none⟩,
  ⟨(some 19), .len (.tmp 18), none⟩,
  ⟨(some 20), .mv (.const (.int .i64 0)), none⟩])
 (.block 0 (.loop (.seq (.reg [⟨(some 21), .bin .lss (.tmp 20) (.tmp 19), none⟩])
 (.seq (.cond (.tmp 21) (.skip) (.exit 0))
 (.seq (.block 1 (.seq (.reg [⟨(some 22), .iad 2 (.tmp 18) (.tmp 20), none⟩,
  ⟨(some 23), .ld (some 2) (.tmp 22), none⟩,
  ⟨(some 5), .alc 96 [(.int .i64 0), (.int .i64 0)], none⟩,
  ⟨none, .st 2 (.tmp 5) (.tmp 23), none⟩])
 (.seq (.reg [⟨(some 24), .bsl 92 1 0 [] [], none⟩,
  ⟨(some 6), .mv (.tmp 24), none⟩])
 (.seq (.seq (.reg [⟨(some 25), .mv (.tmp 0), none⟩,
  ⟨(some 26), .slc 1 (.tmp 25) (some (.const (.int .i64 1))) none, none⟩,
  ⟨(some 27), .len (.tmp 26), none⟩,
  ⟨(some 28), .mv (.const (.int .i64 0)), none⟩])
 (.block 2 (.loop (.seq (.reg [⟨(some 29), .bin .lss (.tmp 28) (.tmp 27), none⟩])
 (.seq (.cond (.tmp 29) (.skip) (.exit 2))
 (.seq (.block 3 (.seq (.reg [⟨(some 30), .iad 1 (.tmp 26) (.tmp 28), none⟩,
  ⟨(some 31), .ld none (.tmp 30), none⟩,
  ⟨(some 8), .mv (.tmp 31), none⟩])
 (.seq (.reg [⟨(some 32), .mv (.tmp 8), none⟩,
  ⟨(some 34), .ld (some 2) (.tmp 5), none⟩,
  ⟨(some 35), .mkf 91 [(.tmp 34)] [], none⟩,
  ⟨(some 33), .rcall (.func 122) [(.tmp 32)], none⟩,
  ⟨(some 36), .rcall (.func 121) [(.tmp 33), (.tmp 35)], none⟩,
  ⟨(some 9), .mv (.tmp 36), none⟩])
 (.seq (.seq (.reg [⟨(some 37), .mv (.tmp 9), none⟩,
  ⟨(some 38), .len (.tmp 37), none⟩,
  ⟨(some 39), .bin .eql (.tmp 38) (.const (.int .i64 0)), none⟩])
 (.cond (.tmp 39) (.exit 1) (.skip)))
 (.reg [⟨(some 40), .mv (.tmp 6), none⟩,
  ⟨(some 41), .mv (.tmp 9), none⟩,
  ⟨(some 42), .bsl 92 1 1 [(.slice none 0 0)] [(0, 1, (.tmp 41))], none⟩,
  ⟨(some 43), .app 92 1 24 (.tmp 40) (.tmp 42), none⟩,
  ⟨(some 6), .mv (.tmp 43), none⟩])))))
 (.reg [⟨(some 44), .bin .add (.tmp 28) (.const (.int .i64 1)), none⟩,
  ⟨(some 28), .mv (.tmp 44), none⟩])))))))
 (.seq (.reg [⟨(some 46), .mv (.tmp 6), none⟩,
  ⟨(some 47), .call (.func 99) [(.tmp 46)], none⟩,
  ⟨(some 45), .mv (.tmp 47), none⟩,
  ⟨(some 48), .ext 0 (.tmp 45), none⟩,
  ⟨(some 49), .ext 1 (.tmp 45), none⟩,
  ⟨(some 10), .mv (.tmp 48), none⟩,
  ⟨(some 11), .mv (.tmp 49), none⟩])
 (.seq (.reg [⟨(some 50), .mv (.tmp 11), none⟩])
 (.cond (.tmp 50) (.seq (.reg [⟨(some 51), .fad 1 (.tmp 5), none⟩,
  ⟨(some 52), .ld none (.tmp 51), none⟩,
  ⟨(some 53), .bsl 3 1 1 [(.int .i64 0)] [(0, 1, (.tmp 52))], none⟩,
  ⟨(some 54), .mv (.tmp 10), none⟩,
  ⟨(some 55), .app 3 1 8 (.tmp 53) (.tmp 54), none⟩,
  ⟨(some 2), .mv (.tmp 55), none⟩,
  ⟨(some 3), .mv (.const (.bool true)), none⟩])
 (.ret)) (.skip))))))))
 (.reg [⟨(some 56), .bin .add (.tmp 20) (.const (.int .i64 1)), none⟩,
  ⟨(some 20), .mv (.tmp 56), none⟩])))))))
 (.seq (.reg [⟨(some 57), .bsl 3 1 0 [] [], none⟩,
  ⟨(some 2), .mv (.tmp 57), none⟩,
  ⟨(some 3), .mv (.const (.bool false)), none⟩])
 (.ret))))))
def r_impl_firstOffsets : List ARes := [.tmp 2, .tmp 3]
theorem ok_impl_firstOffsets : FnOk Try.prog 99 58 c_impl_firstOffsets r_impl_firstOffsets := ⟨⟨Try.f99, _, Try.func99, by kernel_rfl, rfl, rfl, by kernel_rfl, by kernel_rfl⟩⟩
def c_spec_l8Visits : ACode := .seq (.reg [⟨(some 6), .mv (.const (.slice none 0 0)), none⟩])
 (.seq (.reg [⟨(some 9), .bsl 3 1 0 [] [], none⟩,
  ⟨(some 7), .mv (.tmp 9), none⟩])
 (.seq (.seq (.reg [⟨(some 8), .mv (.const (.int .i64 0)), none⟩])
 (.block 0 (.loop (.seq (.seq (.reg [⟨(some 10), .mv (.tmp 8), none⟩,
  ⟨(some 11), .mv (.tmp 0), none⟩,
  ⟨(some 12), .len (.tmp 11), none⟩,
  ⟨(some 13), .bin .lss (.tmp 10) (.tmp 12), none⟩])
 (.cond (.tmp 13) (.skip) (.exit 0)))
 (.seq (.block 1 (.seq (.reg [⟨(some 16), .mv (.tmp 2), none⟩,
  ⟨(some 17), .mv (.tmp 0), none⟩,
  ⟨(some 18), .mv (.tmp 8), none⟩,
  ⟨(some 19), .iad 1 (.tmp 17) (.tmp 18), none⟩,
  ⟨(some 20), .ld none (.tmp 19), none⟩,
  ⟨(some 21), .bin .rem (.tmp 16) (.tmp 20), none⟩,
  ⟨(some 22), .mv (.tmp 1), none⟩,
  ⟨(some 23), .mv (.tmp 8), none⟩,
  ⟨(some 24), .iad 1 (.tmp 22) (.tmp 23), none⟩,
  ⟨(some 25), .ld none (.tmp 24), none⟩,
  ⟨(some 26), .bin .eql (.tmp 21) (.tmp 25), none⟩])
 (.cond (.tmp 26) (.reg [⟨(some 27), .mv (.tmp 7), none⟩,
  ⟨(some 28), .mv (.tmp 8), none⟩,
  ⟨(some 29), .bsl 3 1 1 [(.int .i64 0)] [(0, 1, (.tmp 28))], none⟩,
  ⟨(some 30), .app 3 1 8 (.tmp 27) (.tmp 29), none⟩,
  ⟨(some 7), .mv (.tmp 30), none⟩]) (.skip))))
 (.reg [⟨(some 14), .mv (.tmp 8), none⟩,
  ⟨(some 15), .bin .add (.tmp 14) (.const (.int .i64 1)), none⟩,
  ⟨(some 8), .mv (.tmp 15), none⟩]))))))
 (.seq (.reg [⟨(some 31), .mv (.tmp 7), none⟩,
  ⟨(some 6), .mv (.tmp 31), none⟩])
 (.ret))))
def r_spec_l8Visits : List ARes := [.tmp 6]
theorem ok_spec_l8Visits : FnOk Try.prog 100 32 c_spec_l8Visits r_spec_l8Visits := ⟨⟨Try.f100, _, Try.func100, by kernel_rfl, rfl, rfl, by kernel_rfl, by kernel_rfl⟩⟩
def c_impl_visit__isOn : ACode := .seq (.reg [⟨(some 2), .box 96 (.tmp 0), none⟩,
  ⟨(some 4), .mv (.const (.bool false)), none⟩])
 (.seq (.reg [⟨(some 5), .mv (.tmp 1), none⟩,
  ⟨(some 6), .fad 0 (.tmp 2), none⟩,
  ⟨(some 7), .ld none (.tmp 6), none⟩,
  ⟨(some 8), .bin .rem (.tmp 5) (.tmp 7), none⟩,
  ⟨(some 9), .fad 1 (.tmp 2), none⟩,
  ⟨(some 10), .ld none (.tmp 9), none⟩,
  ⟨(some 11), .bin .eql (.tmp 8) (.tmp 10), none⟩,
  ⟨(some 4), .mv (.tmp 11), none⟩])
 (.ret))
def r_impl_visit__isOn : List ARes := [.tmp 4]
theorem ok_impl_visit__isOn : FnOk Try.prog 101 12 c_impl_visit__isOn r_impl_visit__isOn := ⟨⟨Try.f101, _, Try.func101, by kernel_rfl, rfl, rfl, by kernel_rfl, by kernel_rfl⟩⟩
def c_impl_DaysBusy_1 : ACode := .seq (.reg [⟨(some 2), .box 96 (.tmp 0), none⟩,
  ⟨(some 3), .mv (.const (.bool false)), none⟩])
 (.seq (.reg [⟨(some 4), .ld (some 2) (.tmp 2), none⟩,
  ⟨(some 5), .ld none (.tmp 1), none⟩,
  ⟨(some 6), .call (.func 101) [(.tmp 4), (.tmp 5)], none⟩,
  ⟨(some 3), .mv (.tmp 6), none⟩])
 (.ret))
def r_impl_DaysBusy_1 : List ARes := [.tmp 3]
theorem ok_impl_DaysBusy_1 : FnOk Try.prog 102 7 c_impl_DaysBusy_1 r_impl_DaysBusy_1 := ⟨⟨Try.f102, _, Try.func102, by kernel_rfl, rfl, rfl, by kernel_rfl, by kernel_rfl⟩⟩
def c_spec_l8Cut : ACode := .seq (.reg [⟨(some 4), .alc 28 [(.int .i64 0), (.int .i64 0)], none⟩])
 (.seq (.reg [⟨(some 6), .mv (.tmp 0), none⟩,
  ⟨(some 7), .mv (.tmp 1), none⟩,
  ⟨(some 8), .call (.func 115) [(.tmp 6), (.tmp 7)], none⟩,
  ⟨(some 5), .mv (.tmp 8), none⟩])
 (.seq (.reg [⟨(some 9), .mv (.tmp 0), none⟩,
  ⟨(some 10), .mv (.tmp 5), none⟩,
  ⟨(some 11), .bin .quo (.tmp 9) (.tmp 10), none⟩,
  ⟨(some 12), .mv (.tmp 1), none⟩,
  ⟨(some 13), .mv (.tmp 5), none⟩,
  ⟨(some 14), .bin .quo (.tmp 12) (.tmp 13), none⟩,
  ⟨(some 15), .bld [(.int .i64 0), (.int .i64 0)] [(0, 1, (.tmp 11)), (1, 1, (.tmp 14))], none⟩,
  ⟨none, .st 2 (.tmp 4) (.tmp 15), none⟩])
 (.ret)))
def r_spec_l8Cut : List ARes := [.cell 4 (some 2)]
theorem ok_spec_l8Cut : FnOk Try.prog 103 16 c_spec_l8Cut r_spec_l8Cut := ⟨⟨Try.f103, _, Try.func103, by kernel_rfl, rfl, rfl, by kernel_rfl, by kernel_rfl⟩⟩
def c_slices_MinFunc : ACode := .seq (.reg [⟨(some 4), .mv (.const (.int .i64 0)), none⟩])
 (.seq (.seq (.reg [⟨(some 7), .mv (.tmp 0), none⟩,
  ⟨(some 8), .len (.tmp 7), none⟩,
  ⟨(some 9), .bin .lss (.tmp 8) (.const (.int .i64 1)), none⟩])
 (.cond (.tmp 9) (.reg [⟨(some 10), .mif 9 (.const (.string ⟨#[115, 108, 105, 99, 101, 115, 46, 77, 105, 110, 70, 117, 110, 99, 58, 32, 101, 109, 112, 116, 121, 32, 108, 105, 115, 116]⟩)), none⟩,
  ⟨none, .never, none⟩]) (.skip)))
 (.seq (.reg [⟨(some 11), .mv (.tmp 0), none⟩,
  ⟨(some 12), .iad 1 (.tmp 11) (.const (.int .i64 0)), none⟩,
  ⟨(some 13), .ld none (.tmp 12), none⟩,
  ⟨(some 5), .mv (.tmp 13), none⟩])
 (.seq (.seq (.reg [⟨(some 6), .mv (.const (.int .i64 1)), none⟩])
 (.block 0 (.loop (.seq (.seq (.reg [⟨(some 14), .mv (.tmp 6), none⟩,
  ⟨(some 15), .mv (.tmp 0), none⟩,
  ⟨(some 16), .len (.tmp 15), none⟩,
  ⟨(some 17), .bin .lss (.tmp 14) (.tmp 16), none⟩])
 (.cond (.tmp 17) (.skip) (.exit 0)))
 (.seq (.block 1 (.seq (.reg [⟨(some 20), .mv (.tmp 1), none⟩,
  ⟨(some 21), .mv (.tmp 0), none⟩,
  ⟨(some 22), .mv (.tmp 6), none⟩,
  ⟨(some 23), .iad 1 (.tmp 21) (.tmp 22), none⟩,
  ⟨(some 24), .ld none (.tmp 23), none⟩,
  ⟨(some 25), .mv (.tmp 5), none⟩,
  ⟨(some 26), .call (.tmp 20) [(.tmp 24), (.tmp 25)], none⟩,
  ⟨(some 27), .bin .lss (.tmp 26) (.const (.int .i64 0)), none⟩])
 (.cond (.tmp 27) (.reg [⟨(some 28), .mv (.tmp 0), none⟩,
  ⟨(some 29), .mv (.tmp 6), none⟩,
  ⟨(some 30), .iad 1 (.tmp 28) (.tmp 29), none⟩,
  ⟨(some 31), .ld none (.tmp 30), none⟩,
  ⟨(some 5), .mv (.tmp 31), none⟩]) (.skip))))
 (.reg [⟨(some 18), .mv (.tmp 6), none⟩,
  ⟨(some 19), .bin .add (.tmp 18) (.const (.int .i64 1)), none⟩,
  ⟨(some 6), .mv (.tmp 19), none⟩]))))))
 (.seq (.reg [⟨(some 32), .mv (.tmp 5), none⟩,
  ⟨(some 4), .mv (.tmp 32), none⟩])
 (.ret)))))
def r_slices_MinFunc : List ARes := [.tmp 4]
theorem ok_slices_MinFunc : FnOk Try.prog 104 33 c_slices_MinFunc r_slices_MinFunc := ⟨⟨Try.f104, _, Try.func104, by kernel_rfl, rfl, rfl, by kernel_rfl, by kernel_rfl⟩⟩
def c_impl_bestChoice_1 : ACode := .seq (.reg [⟨(some 5), .mv (.const (.int .i64 0)), none⟩])
 (.seq (.reg [⟨(some 6), .ld none (.tmp 2), none⟩,
  ⟨(some 7), .mv (.tmp 0), none⟩,
  ⟨(some 9), .ld none (.tmp 2), none⟩,
  ⟨(some 10), .mv (.tmp 1), none⟩,
  ⟨(some 8), .inv (.tmp 6) "loop.example/g01111/impl.costOf" [(.tmp 7)], none⟩,
  ⟨(some 11), .inv (.tmp 9) "loop.example/g01111/impl.costOf" [(.tmp 10)], none⟩,
  ⟨(some 12), .rcall (.func 106) [(.tmp 8), (.tmp 11)], none⟩,
  ⟨(some 5), .mv (.tmp 12), none⟩])
 (.ret))
def r_impl_bestChoice_1 : List ARes := [.tmp 5]
theorem ok_impl_bestChoice_1 : FnOk Try.prog 105 13 c_impl_bestChoice_1 r_impl_bestChoice_1 := ⟨⟨Try.f105, _, Try.func105, by kernel_rfl, rfl, rfl, by kernel_rfl, by kernel_rfl⟩⟩
def c_impl_compareFractions : ACode := .seq (.reg [⟨(some 2), .box 67 (.tmp 0), none⟩,
  ⟨(some 3), .box 67 (.tmp 1), none⟩,
  ⟨(some 4), .mv (.const (.int .i64 0)), none⟩])
 (.seq (.reg [⟨(some 10), .iada 1 2 (.tmp 2) (.const (.int .i64 0)), none⟩,
  ⟨(some 11), .ld none (.tmp 10), none⟩,
  ⟨(some 12), .conv .u64 (.tmp 11), none⟩,
  ⟨(some 13), .iada 1 2 (.tmp 3) (.const (.int .i64 1)), none⟩,
  ⟨(some 14), .ld none (.tmp 13), none⟩,
  ⟨(some 15), .conv .u64 (.tmp 14), none⟩,
  ⟨(some 16), .call (.func 123) [(.tmp 12), (.tmp 15)], none⟩,
  ⟨(some 9), .mv (.tmp 16), none⟩,
  ⟨(some 17), .ext 0 (.tmp 9), none⟩,
  ⟨(some 18), .ext 1 (.tmp 9), none⟩,
  ⟨(some 5), .mv (.tmp 17), none⟩,
  ⟨(some 6), .mv (.tmp 18), none⟩])
 (.seq (.reg [⟨(some 20), .iada 1 2 (.tmp 3) (.const (.int .i64 0)), none⟩,
  ⟨(some 21), .ld none (.tmp 20), none⟩,
  ⟨(some 22), .conv .u64 (.tmp 21), none⟩,
  ⟨(some 23), .iada 1 2 (.tmp 2) (.const (.int .i64 1)), none⟩,
  ⟨(some 24), .ld none (.tmp 23), none⟩,
  ⟨(some 25), .conv .u64 (.tmp 24), none⟩,
  ⟨(some 26), .call (.func 123) [(.tmp 22), (.tmp 25)], none⟩,
  ⟨(some 19), .mv (.tmp 26), none⟩,
  ⟨(some 27), .ext 0 (.tmp 19), none⟩,
  ⟨(some 28), .ext 1 (.tmp 19), none⟩,
  ⟨(some 7), .mv (.tmp 27), none⟩,
  ⟨(some 8), .mv (.tmp 28), none⟩])
 (.seq (.reg [⟨(some 29), .mv (.tmp 5), none⟩,
  ⟨(some 30), .mv (.tmp 7), none⟩,
  ⟨(some 31), .call (.func 125) [(.tmp 29), (.tmp 30)], none⟩,
  ⟨(some 32), .mv (.tmp 6), none⟩,
  ⟨(some 33), .mv (.tmp 8), none⟩,
  ⟨(some 34), .call (.func 125) [(.tmp 32), (.tmp 33)], none⟩,
  ⟨(some 35), .bsl 3 1 2 [(.int .i64 0), (.int .i64 0)] [(0, 1, (.tmp 31)), (1, 1, (.tmp 34))], none⟩,
  ⟨(some 36), .call (.func 124) [(.tmp 35)], none⟩,
  ⟨(some 4), .mv (.tmp 36), none⟩])
 (.ret))))
def r_impl_compareFractions : List ARes := [.tmp 4]
theorem ok_impl_compareFractions : FnOk Try.prog 106 37 c_impl_compareFractions r_impl_compareFractions := ⟨⟨Try.f106, _, Try.func106, by kernel_rfl, rfl, rfl, by kernel_rfl, by kernel_rfl⟩⟩
def c_spec_l8Add : ACode := .seq (.reg [⟨(some 2), .box 28 (.tmp 0), none⟩,
  ⟨(some 3), .box 28 (.tmp 1), none⟩,
  ⟨(some 4), .alc 28 [(.int .i64 0), (.int .i64 0)], none⟩])
 (.seq (.reg [⟨(some 6), .iada 1 2 (.tmp 2) (.const (.int .i64 1)), none⟩,
  ⟨(some 7), .ld none (.tmp 6), none⟩,
  ⟨(some 8), .iada 1 2 (.tmp 3) (.const (.int .i64 1)), none⟩,
  ⟨(some 9), .ld none (.tmp 8), none⟩,
  ⟨(some 10), .call (.func 115) [(.tmp 7), (.tmp 9)], none⟩,
  ⟨(some 5), .mv (.tmp 10), none⟩])
 (.seq (.reg [⟨(some 11), .iada 1 2 (.tmp 2) (.const (.int .i64 0)), none⟩,
  ⟨(some 12), .ld none (.tmp 11), none⟩,
  ⟨(some 13), .iada 1 2 (.tmp 3) (.const (.int .i64 1)), none⟩,
  ⟨(some 14), .ld none (.tmp 13), none⟩,
  ⟨(some 15), .mv (.tmp 5), none⟩,
  ⟨(some 16), .bin .quo (.tmp 14) (.tmp 15), none⟩,
  ⟨(some 17), .bin .mul (.tmp 12) (.tmp 16), none⟩,
  ⟨(some 18), .iada 1 2 (.tmp 3) (.const (.int .i64 0)), none⟩,
  ⟨(some 19), .ld none (.tmp 18), none⟩,
  ⟨(some 20), .iada 1 2 (.tmp 2) (.const (.int .i64 1)), none⟩,
  ⟨(some 21), .ld none (.tmp 20), none⟩,
  ⟨(some 22), .mv (.tmp 5), none⟩,
  ⟨(some 23), .bin .quo (.tmp 21) (.tmp 22), none⟩,
  ⟨(some 24), .bin .mul (.tmp 19) (.tmp 23), none⟩,
  ⟨(some 25), .bin .add (.tmp 17) (.tmp 24), none⟩,
  ⟨(some 26), .iada 1 2 (.tmp 2) (.const (.int .i64 1)), none⟩,
  ⟨(some 27), .ld none (.tmp 26), none⟩,
  ⟨(some 28), .mv (.tmp 5), none⟩,
  ⟨(some 29), .bin .quo (.tmp 27) (.tmp 28), none⟩,
  ⟨(some 30), .iada 1 2 (.tmp 3) (.const (.int .i64 1)), none⟩,
  ⟨(some 31), .ld none (.tmp 30), none⟩,
  ⟨(some 32), .bin .mul (.tmp 29) (.tmp 31), none⟩,
  ⟨(some 33), .rcall (.func 103) [(.tmp 25), (.tmp 32)], none⟩,
  ⟨none, .st 2 (.tmp 4) (.tmp 33), none⟩])
 (.ret)))
def r_spec_l8Add : List ARes := [.cell 4 (some 2)]
theorem ok_spec_l8Add : FnOk Try.prog 107 34 c_spec_l8Add r_spec_l8Add := ⟨⟨Try.f107, _, Try.func107, by kernel_rfl, rfl, rfl, by kernel_rfl, by kernel_rfl⟩⟩
def c_impl_isFamily_1 : ACode := .seq (.reg [⟨(some 1), .box 25 (.tmp 0), none⟩,
  ⟨(some 2), .mv (.const (.bool false)), none⟩])
 (.seq (.reg [⟨(some 3), .ld (some 5) (.tmp 1), none⟩,
  ⟨(some 4), .call (.func 21) [(.tmp 3)], none⟩,
  ⟨(some 5), .un .not (.tmp 4), none⟩,
  ⟨(some 2), .mv (.tmp 5), none⟩])
 (.ret))
def r_impl_isFamily_1 : List ARes := [.tmp 2]
theorem ok_impl_isFamily_1 : FnOk Try.prog 108 6 c_impl_isFamily_1 r_impl_isFamily_1 := ⟨⟨Try.f108, _, Try.func108, by kernel_rfl, rfl, rfl, by kernel_rfl, by kernel_rfl⟩⟩
def c_slices_ContainsFunc_Item : ACode := .seq (.reg [⟨(some 4), .mv (.const (.bool false)), none⟩])
 (.seq (.reg [⟨(some 5), .mv (.tmp 0), none⟩,
  ⟨(some 6), .mv (.tmp 1), none⟩,
  ⟨(some 7), .call (.func 126) [(.tmp 5), (.tmp 6)], none⟩,
  ⟨(some 8), .bin .geq (.tmp 7) (.const (.int .i64 0)), none⟩,
  ⟨(some 4), .mv (.tmp 8), none⟩])
 (.ret))
def r_slices_ContainsFunc_Item : List ARes := [.tmp 4]
theorem ok_slices_ContainsFunc_Item : FnOk Try.prog 109 9 c_slices_ContainsFunc_Item r_slices_ContainsFunc_Item := ⟨⟨Try.f109, _, Try.func109, by kernel_rfl, rfl, rfl, by kernel_rfl, by kernel_rfl⟩⟩
def c_impl_isRow : ACode := .seq (.reg [⟨(some 5), .box 3 (.tmp 2), none⟩,
  ⟨(some 6), .mv (.const (.bool false)), none⟩])
 (.seq (.reg [⟨(some 8), .mkf 127 [] [(.tmp 5)], none⟩,
  ⟨(some 7), .mv (.tmp 8), none⟩])
 (.seq (.reg [⟨(some 9), .mv (.tmp 0), none⟩,
  ⟨(some 10), .len (.tmp 9), none⟩,
  ⟨(some 11), .mv (.tmp 1), none⟩,
  ⟨(some 12), .bin .eql (.tmp 10) (.tmp 11), none⟩,
  ⟨(some 13), .mv (.tmp 12), none⟩,
  ⟨(some 14), .mv (.tmp 0), (some (13, true))⟩,
  ⟨(some 15), .mv (.tmp 7), (some (13, true))⟩,
  ⟨(some 16), .call (.func 128) [(.tmp 14), (.tmp 15)], (some (13, true))⟩,
  ⟨(some 17), .un .not (.tmp 16), (some (13, true))⟩,
  ⟨(some 18), .pick (.tmp 13) (.tmp 17) (.const (.bool false)), none⟩,
  ⟨(some 6), .mv (.tmp 18), none⟩])
 (.ret)))
def r_impl_isRow : List ARes := [.tmp 6]
theorem ok_impl_isRow : FnOk Try.prog 110 19 c_impl_isRow r_impl_isRow := ⟨⟨Try.f110, _, Try.func110, by kernel_rfl, rfl, rfl, by kernel_rfl, by kernel_rfl⟩⟩
def c_slices_Contains : ACode := .seq (.reg [⟨(some 4), .mv (.const (.bool false)), none⟩])
 (.seq (.reg [⟨(some 5), .mv (.tmp 0), none⟩,
  ⟨(some 6), .mv (.tmp 1), none⟩,
  ⟨(some 7), .call (.func 129) [(.tmp 5), (.tmp 6)], none⟩,
  ⟨(some 8), .bin .geq (.tmp 7) (.const (.int .i64 0)), none⟩,
  ⟨(some 4), .mv (.tmp 8), none⟩])
 (.ret))
def r_slices_Contains : List ARes := [.tmp 4]
theorem ok_slices_Contains : FnOk Try.prog 111 9 c_slices_Contains r_slices_Contains := ⟨⟨Try.f111, _, Try.func111, by kernel_rfl, rfl, rfl, by kernel_rfl, by kernel_rfl⟩⟩
def c_slices_DeleteFunc : ACode := .seq (.reg [⟨(some 4), .mv (.const (.slice none 0 0)), none⟩])
 (.seq (.reg [⟨(some 8), .mv (.tmp 0), none⟩,
  ⟨(some 9), .mv (.tmp 1), none⟩,
  ⟨(some 10), .call (.func 130) [(.tmp 8), (.tmp 9)], none⟩,
  ⟨(some 5), .mv (.tmp 10), none⟩])
 (.seq (.seq (.reg [⟨(some 11), .mv (.tmp 5), none⟩,
  ⟨(some 12), .bin .eql (.tmp 11) (.const (.int .i64 (-1))), none⟩])
 (.cond (.tmp 12) (.seq (.reg [⟨(some 13), .mv (.tmp 0), none⟩,
  ⟨(some 4), .mv (.tmp 13), none⟩])
 (.ret)) (.skip)))
 (.seq (.seq (.reg [⟨(some 14), .mv (.tmp 5), none⟩,
  ⟨(some 15), .bin .add (.tmp 14) (.const (.int .i64 1)), none⟩,
  ⟨(some 6), .mv (.tmp 15), none⟩])
 (.block 0 (.loop (.seq (.seq (.reg [⟨(some 16), .mv (.tmp 6), none⟩,
  ⟨(some 17), .mv (.tmp 0), none⟩,
  ⟨(some 18), .len (.tmp 17), none⟩,
  ⟨(some 19), .bin .lss (.tmp 16) (.tmp 18), none⟩])
 (.cond (.tmp 19) (.skip) (.exit 0)))
 (.seq (.block 1 (.seq (.reg [⟨(some 22), .mv (.tmp 0), none⟩,
  ⟨(some 23), .mv (.tmp 6), none⟩,
  ⟨(some 24), .iad 1 (.tmp 22) (.tmp 23), none⟩,
  ⟨(some 25), .ld none (.tmp 24), none⟩,
  ⟨(some 7), .mv (.tmp 25), none⟩])
 (.seq (.reg [⟨(some 26), .mv (.tmp 1), none⟩,
  ⟨(some 27), .mv (.tmp 7), none⟩,
  ⟨(some 28), .call (.tmp 26) [(.tmp 27)], none⟩,
  ⟨(some 29), .un .not (.tmp 28), none⟩])
 (.cond (.tmp 29) (.seq (.reg [⟨(some 30), .mv (.tmp 0), none⟩,
  ⟨(some 31), .mv (.tmp 5), none⟩,
  ⟨(some 32), .mv (.tmp 7), none⟩,
  ⟨(some 33), .iad 1 (.tmp 30) (.tmp 31), none⟩,
  ⟨none, .st 1 (.tmp 33) (.tmp 32), none⟩])
 (.reg [⟨(some 34), .mv (.tmp 5), none⟩,
  ⟨(some 35), .bin .add (.tmp 34) (.const (.int .i64 1)), none⟩,
  ⟨(some 5), .mv (.tmp 35), none⟩])) (.skip)))))
 (.reg [⟨(some 20), .mv (.tmp 6), none⟩,
  ⟨(some 21), .bin .add (.tmp 20) (.const (.int .i64 1)), none⟩,
  ⟨(some 6), .mv (.tmp 21), none⟩]))))))
 (.seq (.reg [⟨(some 36), .mv (.tmp 0), none⟩,
  ⟨(some 37), .mv (.tmp 5), none⟩,
  ⟨(some 38), .slc 1 (.tmp 36) (some (.tmp 37)) none, none⟩,
  ⟨none, .clr [(.int .i64 0)] (.tmp 38), none⟩])
 (.seq (.reg [⟨(some 39), .mv (.tmp 0), none⟩,
  ⟨(some 40), .mv (.tmp 5), none⟩,
  ⟨(some 41), .slc 1 (.tmp 39) none (some (.tmp 40)), none⟩,
  ⟨(some 4), .mv (.tmp 41), none⟩])
 (.ret))))))
def r_slices_DeleteFunc : List ARes := [.tmp 4]
theorem ok_slices_DeleteFunc : FnOk Try.prog 112 42 c_slices_DeleteFunc r_slices_DeleteFunc := ⟨⟨Try.f112, _, Try.func112, by kernel_rfl, rfl, rfl, by kernel_rfl, by kernel_rfl⟩⟩
def c_impl_countsUpTo : ACode := .seq (.reg [⟨(some 2), .mv (.const (.slice none 0 0)), none⟩])
 (.seq (.reg [⟨(some 5), .bsl 3 1 0 [] [], none⟩,
  ⟨(some 3), .mv (.tmp 5), none⟩])
 (.seq (.seq (.reg [⟨(some 6), .mv (.tmp 0), none⟩,
  ⟨(some 7), .mv (.const (.int .i64 0)), none⟩])
 (.block 0 (.loop (.seq (.reg [⟨(some 8), .bin .lss (.tmp 7) (.tmp 6), none⟩])
 (.seq (.cond (.tmp 8) (.skip) (.exit 0))
 (.seq (.block 1 (.seq (.reg [⟨(some 9), .mv (.tmp 7), none⟩,
  ⟨(some 4), .mv (.tmp 9), none⟩])
 (.reg [⟨(some 10), .mv (.tmp 3), none⟩,
  ⟨(some 11), .mv (.tmp 4), none⟩,
  ⟨(some 12), .bin .add (.tmp 11) (.const (.int .i64 1)), none⟩,
  ⟨(some 13), .bsl 3 1 1 [(.int .i64 0)] [(0, 1, (.tmp 12))], none⟩,
  ⟨(some 14), .app 3 1 8 (.tmp 10) (.tmp 13), none⟩,
  ⟨(some 3), .mv (.tmp 14), none⟩])))
 (.reg [⟨(some 15), .bin .add (.tmp 7) (.const (.int .i64 1)), none⟩,
  ⟨(some 7), .mv (.tmp 15), none⟩])))))))
 (.seq (.reg [⟨(some 16), .mv (.tmp 3), none⟩,
  ⟨(some 2), .mv (.tmp 16), none⟩])
 (.ret))))
def r_impl_countsUpTo : List ARes := [.tmp 2]
theorem ok_impl_countsUpTo : FnOk Try.prog 113 17 c_impl_countsUpTo r_impl_countsUpTo := ⟨⟨Try.f113, _, Try.func113, by kernel_rfl, rfl, rfl, by kernel_rfl, by kernel_rfl⟩⟩
def c_impl_made__choices_1 : ACode := .seq (.reg [⟨(some 3), .mv (.const (.bool false)), none⟩])
 (.seq (.reg [⟨(some 4), .ld none (.tmp 1), none⟩,
  ⟨(some 5), .mv (.tmp 0), none⟩,
  ⟨(some 6), .call (.func 81) [(.tmp 4), (.tmp 5)], none⟩,
  ⟨(some 7), .un .not (.tmp 6), none⟩,
  ⟨(some 3), .mv (.tmp 7), none⟩])
 (.ret))
def r_impl_made__choices_1 : List ARes := [.tmp 3]
theorem ok_impl_made__choices_1 : FnOk Try.prog 114 8 c_impl_made__choices_1 r_impl_made__choices_1 := ⟨⟨Try.f114, _, Try.func114, by kernel_rfl, rfl, rfl, by kernel_rfl, by kernel_rfl⟩⟩
def c_spec_l8Gcd : ACode := .seq (.reg [⟨(some 4), .mv (.const (.int .i64 0)), none⟩])
 (.seq (.block 0 (.loop (.seq (.seq (.reg [⟨(some 5), .mv (.tmp 1), none⟩,
  ⟨(some 6), .bin .gtr (.tmp 5) (.const (.int .i64 0)), none⟩])
 (.cond (.tmp 6) (.skip) (.exit 0)))
 (.block 1 (.reg [⟨(some 7), .mv (.tmp 1), none⟩,
  ⟨(some 8), .mv (.tmp 0), none⟩,
  ⟨(some 9), .mv (.tmp 1), none⟩,
  ⟨(some 10), .bin .rem (.tmp 8) (.tmp 9), none⟩,
  ⟨(some 0), .mv (.tmp 7), none⟩,
  ⟨(some 1), .mv (.tmp 10), none⟩])))))
 (.seq (.reg [⟨(some 11), .mv (.tmp 0), none⟩,
  ⟨(some 4), .mv (.tmp 11), none⟩])
 (.ret)))
def r_spec_l8Gcd : List ARes := [.tmp 4]
theorem ok_spec_l8Gcd : FnOk Try.prog 115 12 c_spec_l8Gcd r_spec_l8Gcd := ⟨⟨Try.f115, _, Try.func115, by kernel_rfl, rfl, rfl, by kernel_rfl, by kernel_rfl⟩⟩
def c_slices_IndexFunc_visit : ACode := .seq (.reg [⟨(some 4), .mv (.const (.int .i64 0)), none⟩])
 (.seq (.seq (.reg [⟨(some 6), .mv (.tmp 0), none⟩,
  ⟨(some 7), .len (.tmp 6), none⟩,
  ⟨(some 8), .mv (.const (.int .i64 0)), none⟩])
 (.block 0 (.loop (.seq (.reg [⟨(some 9), .bin .lss (.tmp 8) (.tmp 7), none⟩])
 (.seq (.cond (.tmp 9) (.skip) (.exit 0))
 (.seq (.block 1 (.seq (.reg [⟨(some 10), .mv (.tmp 8), none⟩,
  ⟨(some 5), .mv (.tmp 10), none⟩])
 (.seq (.reg [⟨(some 11), .mv (.tmp 1), none⟩,
  ⟨(some 12), .mv (.tmp 0), none⟩,
  ⟨(some 13), .mv (.tmp 5), none⟩,
  ⟨(some 14), .iad 2 (.tmp 12) (.tmp 13), none⟩,
  ⟨(some 15), .ld (some 2) (.tmp 14), none⟩,
  ⟨(some 16), .call (.tmp 11) [(.tmp 15)], none⟩])
 (.cond (.tmp 16) (.seq (.reg [⟨(some 17), .mv (.tmp 5), none⟩,
  ⟨(some 4), .mv (.tmp 17), none⟩])
 (.ret)) (.skip)))))
 (.reg [⟨(some 18), .bin .add (.tmp 8) (.const (.int .i64 1)), none⟩,
  ⟨(some 8), .mv (.tmp 18), none⟩])))))))
 (.seq (.reg [⟨(some 4), .mv (.const (.int .i64 (-1))), none⟩])
 (.ret)))
def r_slices_IndexFunc_visit : List ARes := [.tmp 4]
theorem ok_slices_IndexFunc_visit : FnOk Try.prog 116 19 c_slices_IndexFunc_visit r_slices_IndexFunc_visit := ⟨⟨Try.f116, _, Try.func116, by kernel_rfl, rfl, rfl, by kernel_rfl, by kernel_rfl⟩⟩
def c_impl_commonDivisor : ACode := .seq (.reg [⟨(some 4), .mv (.const (.int .i64 0)), none⟩])
 (.seq (.block 0 (.loop (.seq (.seq (.reg [⟨(some 5), .mv (.tmp 1), none⟩,
  ⟨(some 6), .bin .gtr (.tmp 5) (.const (.int .i64 0)), none⟩])
 (.cond (.tmp 6) (.skip) (.exit 0)))
 (.block 1 (.reg [⟨(some 7), .mv (.tmp 1), none⟩,
  ⟨(some 8), .mv (.tmp 0), none⟩,
  ⟨(some 9), .mv (.tmp 1), none⟩,
  ⟨(some 10), .bin .rem (.tmp 8) (.tmp 9), none⟩,
  ⟨(some 0), .mv (.tmp 7), none⟩,
  ⟨(some 1), .mv (.tmp 10), none⟩])))))
 (.seq (.reg [⟨(some 11), .mv (.tmp 0), none⟩,
  ⟨(some 4), .mv (.tmp 11), none⟩])
 (.ret)))
def r_impl_commonDivisor : List ARes := [.tmp 4]
theorem ok_impl_commonDivisor : FnOk Try.prog 117 12 c_impl_commonDivisor r_impl_commonDivisor := ⟨⟨Try.f117, _, Try.func117, by kernel_rfl, rfl, rfl, by kernel_rfl, by kernel_rfl⟩⟩
def c_spec_l8Room : ACode := .seq (.reg [⟨(some 4), .mv (.const (.bool false)), none⟩])
 (.seq (.seq (.reg [⟨(some 7), .mv (.tmp 1), none⟩,
  ⟨(some 8), .len (.tmp 7), none⟩,
  ⟨(some 5), .mv (.tmp 8), none⟩])
 (.block 0 (.loop (.seq (.seq (.reg [⟨(some 9), .mv (.tmp 5), none⟩,
  ⟨(some 10), .mv (.tmp 0), none⟩,
  ⟨(some 11), .len (.tmp 10), none⟩,
  ⟨(some 12), .bin .lss (.tmp 9) (.tmp 11), none⟩])
 (.cond (.tmp 12) (.skip) (.exit 0)))
 (.seq (.block 1 (.seq (.reg [⟨(some 6), .mv (.const (.int .i64 0)), none⟩])
 (.seq (.block 2 (.loop (.seq (.seq (.reg [⟨(some 15), .mv (.tmp 6), none⟩,
  ⟨(some 16), .mv (.tmp 0), none⟩,
  ⟨(some 17), .mv (.tmp 5), none⟩,
  ⟨(some 18), .iad 1 (.tmp 16) (.tmp 17), none⟩,
  ⟨(some 19), .ld none (.tmp 18), none⟩,
  ⟨(some 20), .bin .lss (.tmp 15) (.tmp 19), none⟩,
  ⟨(some 21), .mv (.tmp 20), none⟩,
  ⟨(some 22), .mv (.tmp 0), (some (21, true))⟩,
  ⟨(some 23), .mv (.tmp 1), (some (21, true))⟩,
  ⟨(some 24), .mv (.tmp 5), (some (21, true))⟩,
  ⟨(some 25), .mv (.tmp 6), (some (21, true))⟩,
  ⟨(some 26), .call (.func 119) [(.tmp 22), (.tmp 23), (.tmp 24), (.tmp 25)], (some (21, true))⟩,
  ⟨(some 27), .un .not (.tmp 26), (some (21, true))⟩,
  ⟨(some 28), .pick (.tmp 21) (.tmp 27) (.const (.bool false)), none⟩])
 (.cond (.tmp 28) (.skip) (.exit 2)))
 (.block 3 (.reg [⟨(some 29), .mv (.tmp 6), none⟩,
  ⟨(some 30), .bin .add (.tmp 29) (.const (.int .i64 1)), none⟩,
  ⟨(some 6), .mv (.tmp 30), none⟩])))))
 (.seq (.reg [⟨(some 31), .mv (.tmp 6), none⟩,
  ⟨(some 32), .mv (.tmp 0), none⟩,
  ⟨(some 33), .mv (.tmp 5), none⟩,
  ⟨(some 34), .iad 1 (.tmp 32) (.tmp 33), none⟩,
  ⟨(some 35), .ld none (.tmp 34), none⟩,
  ⟨(some 36), .bin .eql (.tmp 31) (.tmp 35), none⟩])
 (.cond (.tmp 36) (.seq (.reg [⟨(some 4), .mv (.const (.bool false)), none⟩])
 (.ret)) (.skip))))))
 (.reg [⟨(some 13), .mv (.tmp 5), none⟩,
  ⟨(some 14), .bin .add (.tmp 13) (.const (.int .i64 1)), none⟩,
  ⟨(some 5), .mv (.tmp 14), none⟩]))))))
 (.seq (.reg [⟨(some 4), .mv (.const (.bool true)), none⟩])
 (.ret)))
def r_spec_l8Room : List ARes := [.tmp 4]
theorem ok_spec_l8Room : FnOk Try.prog 118 37 c_spec_l8Room r_spec_l8Room := ⟨⟨Try.f118, _, Try.func118, by kernel_rfl, rfl, rfl, by kernel_rfl, by kernel_rfl⟩⟩
def c_spec_l8May : ACode := .seq (.reg [⟨(some 8), .mv (.const (.bool false)), none⟩])
 (.seq (.seq (.reg [⟨(some 9), .mv (.const (.int .i64 0)), none⟩])
 (.block 0 (.loop (.seq (.seq (.reg [⟨(some 10), .mv (.tmp 9), none⟩,
  ⟨(some 11), .mv (.tmp 1), none⟩,
  ⟨(some 12), .len (.tmp 11), none⟩,
  ⟨(some 13), .bin .lss (.tmp 10) (.tmp 12), none⟩])
 (.cond (.tmp 13) (.skip) (.exit 0)))
 (.seq (.block 1 (.seq (.reg [⟨(some 16), .mv (.tmp 0), none⟩,
  ⟨(some 17), .mv (.tmp 2), none⟩,
  ⟨(some 18), .iad 1 (.tmp 16) (.tmp 17), none⟩,
  ⟨(some 19), .ld none (.tmp 18), none⟩,
  ⟨(some 20), .mv (.tmp 3), none⟩,
  ⟨(some 21), .mv (.tmp 0), none⟩,
  ⟨(some 22), .mv (.tmp 9), none⟩,
  ⟨(some 23), .iad 1 (.tmp 21) (.tmp 22), none⟩,
  ⟨(some 24), .ld none (.tmp 23), none⟩,
  ⟨(some 25), .mv (.tmp 1), none⟩,
  ⟨(some 26), .mv (.tmp 9), none⟩,
  ⟨(some 27), .iad 1 (.tmp 25) (.tmp 26), none⟩,
  ⟨(some 28), .ld none (.tmp 27), none⟩,
  ⟨(some 29), .rcall (.func 88) [(.tmp 19), (.tmp 20), (.tmp 24), (.tmp 28)], none⟩])
 (.cond (.tmp 29) (.seq (.reg [⟨(some 8), .mv (.const (.bool false)), none⟩])
 (.ret)) (.skip))))
 (.reg [⟨(some 14), .mv (.tmp 9), none⟩,
  ⟨(some 15), .bin .add (.tmp 14) (.const (.int .i64 1)), none⟩,
  ⟨(some 9), .mv (.tmp 15), none⟩]))))))
 (.seq (.reg [⟨(some 8), .mv (.const (.bool true)), none⟩])
 (.ret)))
def r_spec_l8May : List ARes := [.tmp 8]
theorem ok_spec_l8May : FnOk Try.prog 119 30 c_spec_l8May r_spec_l8May := ⟨⟨Try.f119, _, Try.func119, by kernel_rfl, rfl, rfl, by kernel_rfl, by kernel_rfl⟩⟩
def c_spec_l1Own : ACode := .seq (.reg [⟨(some 2), .mv (.const (.slice none 0 0)), none⟩])
 (.seq (.reg [⟨(some 3), .bsl 3 1 0 [] [], none⟩,
  ⟨(some 4), .mv (.tmp 0), none⟩,
  ⟨(some 5), .app 3 1 8 (.tmp 3) (.tmp 4), none⟩,
  ⟨(some 2), .mv (.tmp 5), none⟩])
 (.ret))
def r_spec_l1Own : List ARes := [.tmp 2]
theorem ok_spec_l1Own : FnOk Try.prog 120 6 c_spec_l1Own r_spec_l1Own := ⟨⟨Try.f120, _, Try.func120, by kernel_rfl, rfl, rfl, by kernel_rfl, by kernel_rfl⟩⟩
def c_slices_DeleteFunc_visit : ACode := .seq (.reg [⟨(some 4), .mv (.const (.slice none 0 0)), none⟩])
 (.seq (.reg [⟨(some 8), .mv (.tmp 0), none⟩,
  ⟨(some 9), .mv (.tmp 1), none⟩,
  ⟨(some 10), .call (.func 116) [(.tmp 8), (.tmp 9)], none⟩,
  ⟨(some 5), .mv (.tmp 10), none⟩])
 (.seq (.seq (.reg [⟨(some 11), .mv (.tmp 5), none⟩,
  ⟨(some 12), .bin .eql (.tmp 11) (.const (.int .i64 (-1))), none⟩])
 (.cond (.tmp 12) (.seq (.reg [⟨(some 13), .mv (.tmp 0), none⟩,
  ⟨(some 4), .mv (.tmp 13), none⟩])
 (.ret)) (.skip)))
 (.seq (.seq (.reg [⟨(some 14), .mv (.tmp 5), none⟩,
  ⟨(some 15), .bin .add (.tmp 14) (.const (.int .i64 1)), none⟩,
  ⟨(some 6), .mv (.tmp 15), none⟩])
 (.block 0 (.loop (.seq (.seq (.reg [⟨(some 16), .mv (.tmp 6), none⟩,
  ⟨(some 17), .mv (.tmp 0), none⟩,
  ⟨(some 18), .len (.tmp 17), none⟩,
  ⟨(some 19), .bin .lss (.tmp 16) (.tmp 18), none⟩])
 (.cond (.tmp 19) (.skip) (.exit 0)))
 (.seq (.block 1 (.seq (.reg [⟨(some 22), .mv (.tmp 0), none⟩,
  ⟨(some 23), .mv (.tmp 6), none⟩,
  ⟨(some 24), .iad 2 (.tmp 22) (.tmp 23), none⟩,
  ⟨(some 25), .ld (some 2) (.tmp 24), none⟩,
  ⟨(some 7), .alc 96 [(.int .i64 0), (.int .i64 0)], none⟩,
  ⟨none, .st 2 (.tmp 7) (.tmp 25), none⟩])
 (.seq (.reg [⟨(some 26), .mv (.tmp 1), none⟩,
  ⟨(some 27), .ld (some 2) (.tmp 7), none⟩,
  ⟨(some 28), .call (.tmp 26) [(.tmp 27)], none⟩,
  ⟨(some 29), .un .not (.tmp 28), none⟩])
 (.cond (.tmp 29) (.seq (.reg [⟨(some 30), .mv (.tmp 0), none⟩,
  ⟨(some 31), .mv (.tmp 5), none⟩,
  ⟨(some 32), .ld (some 2) (.tmp 7), none⟩,
  ⟨(some 33), .iad 2 (.tmp 30) (.tmp 31), none⟩,
  ⟨none, .st 2 (.tmp 33) (.tmp 32), none⟩])
 (.reg [⟨(some 34), .mv (.tmp 5), none⟩,
  ⟨(some 35), .bin .add (.tmp 34) (.const (.int .i64 1)), none⟩,
  ⟨(some 5), .mv (.tmp 35), none⟩])) (.skip)))))
 (.reg [⟨(some 20), .mv (.tmp 6), none⟩,
  ⟨(some 21), .bin .add (.tmp 20) (.const (.int .i64 1)), none⟩,
  ⟨(some 6), .mv (.tmp 21), none⟩]))))))
 (.seq (.reg [⟨(some 36), .mv (.tmp 0), none⟩,
  ⟨(some 37), .mv (.tmp 5), none⟩,
  ⟨(some 38), .slc 2 (.tmp 36) (some (.tmp 37)) none, none⟩,
  ⟨none, .clr [(.int .i64 0), (.int .i64 0)] (.tmp 38), none⟩])
 (.seq (.reg [⟨(some 39), .mv (.tmp 0), none⟩,
  ⟨(some 40), .mv (.tmp 5), none⟩,
  ⟨(some 41), .slc 2 (.tmp 39) none (some (.tmp 40)), none⟩,
  ⟨(some 4), .mv (.tmp 41), none⟩])
 (.ret))))))
def r_slices_DeleteFunc_visit : List ARes := [.tmp 4]
theorem ok_slices_DeleteFunc_visit : FnOk Try.prog 121 42 c_slices_DeleteFunc_visit r_slices_DeleteFunc_visit := ⟨⟨Try.f121, _, Try.func121, by kernel_rfl, rfl, rfl, by kernel_rfl, by kernel_rfl⟩⟩
def c_slices_Clone_visit : ACode := .seq (.reg [⟨(some 2), .mv (.const (.slice none 0 0)), none⟩])
 (.seq (.seq (.reg [⟨(some 3), .mv (.tmp 0), none⟩,
  ⟨(some 4), .sln false (.tmp 3), none⟩])
 (.cond (.tmp 4) (.seq (.reg [⟨(some 2), .mv (.const (.slice none 0 0)), none⟩])
 (.ret)) (.skip)))
 (.seq (.reg [⟨(some 5), .bsl 96 2 0 [] [], none⟩,
  ⟨(some 6), .mv (.tmp 0), none⟩,
  ⟨(some 7), .app 96 2 16 (.tmp 5) (.tmp 6), none⟩,
  ⟨(some 2), .mv (.tmp 7), none⟩])
 (.ret)))
def r_slices_Clone_visit : List ARes := [.tmp 2]
theorem ok_slices_Clone_visit : FnOk Try.prog 122 8 c_slices_Clone_visit r_slices_Clone_visit := ⟨⟨Try.f122, _, Try.func122, by kernel_rfl, rfl, rfl, by kernel_rfl, by kernel_rfl⟩⟩
def c_math_bits_Mul64 : ACode := .seq (.reg [⟨(some 4), .mv (.const (.int .u64 0)), none⟩,
  ⟨(some 5), .mv (.const (.int .u64 0)), none⟩])
 (.seq (.reg [⟨(some 14), .mv (.tmp 0), none⟩,
  ⟨(some 15), .bin .and (.tmp 14) (.const (.int .u64 4294967295)), none⟩,
  ⟨(some 6), .mv (.tmp 15), none⟩])
 (.seq (.reg [⟨(some 16), .mv (.tmp 0), none⟩,
  ⟨(some 17), .bin .shr (.tmp 16) (.const (.int .u64 32)), none⟩,
  ⟨(some 7), .mv (.tmp 17), none⟩])
 (.seq (.reg [⟨(some 18), .mv (.tmp 1), none⟩,
  ⟨(some 19), .bin .and (.tmp 18) (.const (.int .u64 4294967295)), none⟩,
  ⟨(some 8), .mv (.tmp 19), none⟩])
 (.seq (.reg [⟨(some 20), .mv (.tmp 1), none⟩,
  ⟨(some 21), .bin .shr (.tmp 20) (.const (.int .u64 32)), none⟩,
  ⟨(some 9), .mv (.tmp 21), none⟩])
 (.seq (.reg [⟨(some 22), .mv (.tmp 6), none⟩,
  ⟨(some 23), .mv (.tmp 8), none⟩,
  ⟨(some 24), .bin .mul (.tmp 22) (.tmp 23), none⟩,
  ⟨(some 10), .mv (.tmp 24), none⟩])
 (.seq (.reg [⟨(some 25), .mv (.tmp 7), none⟩,
  ⟨(some 26), .mv (.tmp 8), none⟩,
  ⟨(some 27), .bin .mul (.tmp 25) (.tmp 26), none⟩,
  ⟨(some 28), .mv (.tmp 10), none⟩,
  ⟨(some 29), .bin .shr (.tmp 28) (.const (.int .u64 32)), none⟩,
  ⟨(some 30), .bin .add (.tmp 27) (.tmp 29), none⟩,
  ⟨(some 11), .mv (.tmp 30), none⟩])
 (.seq (.reg [⟨(some 31), .mv (.tmp 11), none⟩,
  ⟨(some 32), .bin .and (.tmp 31) (.const (.int .u64 4294967295)), none⟩,
  ⟨(some 12), .mv (.tmp 32), none⟩])
 (.seq (.reg [⟨(some 33), .mv (.tmp 11), none⟩,
  ⟨(some 34), .bin .shr (.tmp 33) (.const (.int .u64 32)), none⟩,
  ⟨(some 13), .mv (.tmp 34), none⟩])
 (.seq (.reg [⟨(some 35), .mv (.tmp 12), none⟩,
  ⟨(some 36), .mv (.tmp 6), none⟩,
  ⟨(some 37), .mv (.tmp 9), none⟩,
  ⟨(some 38), .bin .mul (.tmp 36) (.tmp 37), none⟩,
  ⟨(some 39), .bin .add (.tmp 35) (.tmp 38), none⟩,
  ⟨(some 12), .mv (.tmp 39), none⟩])
 (.seq (.reg [⟨(some 40), .mv (.tmp 7), none⟩,
  ⟨(some 41), .mv (.tmp 9), none⟩,
  ⟨(some 42), .bin .mul (.tmp 40) (.tmp 41), none⟩,
  ⟨(some 43), .mv (.tmp 13), none⟩,
  ⟨(some 44), .bin .add (.tmp 42) (.tmp 43), none⟩,
  ⟨(some 45), .mv (.tmp 12), none⟩,
  ⟨(some 46), .bin .shr (.tmp 45) (.const (.int .u64 32)), none⟩,
  ⟨(some 47), .bin .add (.tmp 44) (.tmp 46), none⟩,
  ⟨(some 4), .mv (.tmp 47), none⟩])
 (.seq (.reg [⟨(some 48), .mv (.tmp 0), none⟩,
  ⟨(some 49), .mv (.tmp 1), none⟩,
  ⟨(some 50), .bin .mul (.tmp 48) (.tmp 49), none⟩,
  ⟨(some 5), .mv (.tmp 50), none⟩])
 (.ret))))))))))))
def r_math_bits_Mul64 : List ARes := [.tmp 4, .tmp 5]
theorem ok_math_bits_Mul64 : FnOk Try.prog 123 51 c_math_bits_Mul64 r_math_bits_Mul64 := ⟨⟨Try.f123, _, Try.func123, by kernel_rfl, rfl, rfl, by kernel_rfl, by kernel_rfl⟩⟩
def c_cmp_Or : ACode := .seq (.reg [⟨(some 2), .mv (.const (.int .i64 0)), none⟩])
 (.seq (.reg [⟨(some 3), .mv (.const (.int .i64 0)), none⟩])
 (.seq (.seq (.reg [⟨(some 6), .mv (.tmp 0), none⟩,
  ⟨(some 7), .len (.tmp 6), none⟩,
  ⟨(some 8), .mv (.const (.int .i64 0)), none⟩])
 (.block 0 (.loop (.seq (.reg [⟨(some 9), .bin .lss (.tmp 8) (.tmp 7), none⟩])
 (.seq (.cond (.tmp 9) (.skip) (.exit 0))
 (.seq (.block 1 (.seq (.reg [⟨(some 10), .iad 1 (.tmp 6) (.tmp 8), none⟩,
  ⟨(some 11), .ld none (.tmp 10), none⟩,
  ⟨(some 5), .mv (.tmp 11), none⟩])
 (.seq (.reg [⟨(some 12), .mv (.tmp 5), none⟩,
  ⟨(some 13), .mv (.tmp 3), none⟩,
  ⟨(some 14), .bin .neq (.tmp 12) (.tmp 13), none⟩])
 (.cond (.tmp 14) (.seq (.reg [⟨(some 15), .mv (.tmp 5), none⟩,
  ⟨(some 2), .mv (.tmp 15), none⟩])
 (.ret)) (.skip)))))
 (.reg [⟨(some 16), .bin .add (.tmp 8) (.const (.int .i64 1)), none⟩,
  ⟨(some 8), .mv (.tmp 16), none⟩])))))))
 (.seq (.reg [⟨(some 17), .mv (.tmp 3), none⟩,
  ⟨(some 2), .mv (.tmp 17), none⟩])
 (.ret))))
def r_cmp_Or : List ARes := [.tmp 2]
theorem ok_cmp_Or : FnOk Try.prog 124 18 c_cmp_Or r_cmp_Or := ⟨⟨Try.f124, _, Try.func124, by kernel_rfl, rfl, rfl, by kernel_rfl, by kernel_rfl⟩⟩
def c_cmp_Compare : ACode := .seq (.reg [⟨(some 4), .mv (.const (.int .i64 0)), none⟩])
 (.seq (.reg [⟨(some 7), .mv (.tmp 0), none⟩,
  ⟨(some 8), .call (.func 131) [(.tmp 7)], none⟩,
  ⟨(some 5), .mv (.tmp 8), none⟩])
 (.seq (.reg [⟨(some 9), .mv (.tmp 1), none⟩,
  ⟨(some 10), .call (.func 131) [(.tmp 9)], none⟩,
  ⟨(some 6), .mv (.tmp 10), none⟩])
 (.seq (.seq (.reg [⟨(some 11), .mv (.tmp 5), none⟩])
 (.cond (.tmp 11) (.seq (.seq (.reg [⟨(some 12), .mv (.tmp 6), none⟩])
 (.cond (.tmp 12) (.seq (.reg [⟨(some 4), .mv (.const (.int .i64 0)), none⟩])
 (.ret)) (.skip)))
 (.seq (.reg [⟨(some 4), .mv (.const (.int .i64 (-1))), none⟩])
 (.ret))) (.skip)))
 (.seq (.seq (.reg [⟨(some 13), .mv (.tmp 6), none⟩])
 (.cond (.tmp 13) (.seq (.reg [⟨(some 4), .mv (.const (.int .i64 1)), none⟩])
 (.ret)) (.skip)))
 (.seq (.seq (.reg [⟨(some 14), .mv (.tmp 0), none⟩,
  ⟨(some 15), .mv (.tmp 1), none⟩,
  ⟨(some 16), .bin .lss (.tmp 14) (.tmp 15), none⟩])
 (.cond (.tmp 16) (.seq (.reg [⟨(some 4), .mv (.const (.int .i64 (-1))), none⟩])
 (.ret)) (.skip)))
 (.seq (.seq (.reg [⟨(some 17), .mv (.tmp 0), none⟩,
  ⟨(some 18), .mv (.tmp 1), none⟩,
  ⟨(some 19), .bin .gtr (.tmp 17) (.tmp 18), none⟩])
 (.cond (.tmp 19) (.seq (.reg [⟨(some 4), .mv (.const (.int .i64 1)), none⟩])
 (.ret)) (.skip)))
 (.seq (.reg [⟨(some 4), .mv (.const (.int .i64 0)), none⟩])
 (.ret))))))))
def r_cmp_Compare : List ARes := [.tmp 4]
theorem ok_cmp_Compare : FnOk Try.prog 125 20 c_cmp_Compare r_cmp_Compare := ⟨⟨Try.f125, _, Try.func125, by kernel_rfl, rfl, rfl, by kernel_rfl, by kernel_rfl⟩⟩
def c_slices_IndexFunc_Item : ACode := .seq (.reg [⟨(some 4), .mv (.const (.int .i64 0)), none⟩])
 (.seq (.seq (.reg [⟨(some 6), .mv (.tmp 0), none⟩,
  ⟨(some 7), .len (.tmp 6), none⟩,
  ⟨(some 8), .mv (.const (.int .i64 0)), none⟩])
 (.block 0 (.loop (.seq (.reg [⟨(some 9), .bin .lss (.tmp 8) (.tmp 7), none⟩])
 (.seq (.cond (.tmp 9) (.skip) (.exit 0))
 (.seq (.block 1 (.seq (.reg [⟨(some 10), .mv (.tmp 8), none⟩,
  ⟨(some 5), .mv (.tmp 10), none⟩])
 (.seq (.reg [⟨(some 11), .mv (.tmp 1), none⟩,
  ⟨(some 12), .mv (.tmp 0), none⟩,
  ⟨(some 13), .mv (.tmp 5), none⟩,
  ⟨(some 14), .iad 5 (.tmp 12) (.tmp 13), none⟩,
  ⟨(some 15), .ld (some 5) (.tmp 14), none⟩,
  ⟨(some 16), .call (.tmp 11) [(.tmp 15)], none⟩])
 (.cond (.tmp 16) (.seq (.reg [⟨(some 17), .mv (.tmp 5), none⟩,
  ⟨(some 4), .mv (.tmp 17), none⟩])
 (.ret)) (.skip)))))
 (.reg [⟨(some 18), .bin .add (.tmp 8) (.const (.int .i64 1)), none⟩,
  ⟨(some 8), .mv (.tmp 18), none⟩])))))))
 (.seq (.reg [⟨(some 4), .mv (.const (.int .i64 (-1))), none⟩])
 (.ret)))
def r_slices_IndexFunc_Item : List ARes := [.tmp 4]
theorem ok_slices_IndexFunc_Item : FnOk Try.prog 126 19 c_slices_IndexFunc_Item r_slices_IndexFunc_Item := ⟨⟨Try.f126, _, Try.func126, by kernel_rfl, rfl, rfl, by kernel_rfl, by kernel_rfl⟩⟩
def c_impl_isRow_1 : ACode := .seq (.reg [⟨(some 3), .mv (.const (.bool false)), none⟩])
 (.seq (.reg [⟨(some 4), .mv (.tmp 0), none⟩,
  ⟨(some 5), .ld none (.tmp 1), none⟩,
  ⟨(some 6), .call (.func 63) [(.tmp 4), (.tmp 5)], none⟩,
  ⟨(some 7), .un .not (.tmp 6), none⟩,
  ⟨(some 3), .mv (.tmp 7), none⟩])
 (.ret))
def r_impl_isRow_1 : List ARes := [.tmp 3]
theorem ok_impl_isRow_1 : FnOk Try.prog 127 8 c_impl_isRow_1 r_impl_isRow_1 := ⟨⟨Try.f127, _, Try.func127, by kernel_rfl, rfl, rfl, by kernel_rfl, by kernel_rfl⟩⟩
def c_slices_ContainsFunc : ACode := .seq (.reg [⟨(some 4), .mv (.const (.bool false)), none⟩])
 (.seq (.reg [⟨(some 5), .mv (.tmp 0), none⟩,
  ⟨(some 6), .mv (.tmp 1), none⟩,
  ⟨(some 7), .call (.func 130) [(.tmp 5), (.tmp 6)], none⟩,
  ⟨(some 8), .bin .geq (.tmp 7) (.const (.int .i64 0)), none⟩,
  ⟨(some 4), .mv (.tmp 8), none⟩])
 (.ret))
def r_slices_ContainsFunc : List ARes := [.tmp 4]
theorem ok_slices_ContainsFunc : FnOk Try.prog 128 9 c_slices_ContainsFunc r_slices_ContainsFunc := ⟨⟨Try.f128, _, Try.func128, by kernel_rfl, rfl, rfl, by kernel_rfl, by kernel_rfl⟩⟩
def c_slices_Index : ACode := .seq (.reg [⟨(some 4), .mv (.const (.int .i64 0)), none⟩])
 (.seq (.seq (.reg [⟨(some 6), .mv (.tmp 0), none⟩,
  ⟨(some 7), .len (.tmp 6), none⟩,
  ⟨(some 8), .mv (.const (.int .i64 0)), none⟩])
 (.block 0 (.loop (.seq (.reg [⟨(some 9), .bin .lss (.tmp 8) (.tmp 7), none⟩])
 (.seq (.cond (.tmp 9) (.skip) (.exit 0))
 (.seq (.block 1 (.seq (.reg [⟨(some 10), .mv (.tmp 8), none⟩,
  ⟨(some 5), .mv (.tmp 10), none⟩])
 (.seq (.reg [⟨(some 11), .mv (.tmp 1), none⟩,
  ⟨(some 12), .mv (.tmp 0), none⟩,
  ⟨(some 13), .mv (.tmp 5), none⟩,
  ⟨(some 14), .iad 1 (.tmp 12) (.tmp 13), none⟩,
  ⟨(some 15), .ld none (.tmp 14), none⟩,
  ⟨(some 16), .bin .eql (.tmp 11) (.tmp 15), none⟩])
 (.cond (.tmp 16) (.seq (.reg [⟨(some 17), .mv (.tmp 5), none⟩,
  ⟨(some 4), .mv (.tmp 17), none⟩])
 (.ret)) (.skip)))))
 (.reg [⟨(some 18), .bin .add (.tmp 8) (.const (.int .i64 1)), none⟩,
  ⟨(some 8), .mv (.tmp 18), none⟩])))))))
 (.seq (.reg [⟨(some 4), .mv (.const (.int .i64 (-1))), none⟩])
 (.ret)))
def r_slices_Index : List ARes := [.tmp 4]
theorem ok_slices_Index : FnOk Try.prog 129 19 c_slices_Index r_slices_Index := ⟨⟨Try.f129, _, Try.func129, by kernel_rfl, rfl, rfl, by kernel_rfl, by kernel_rfl⟩⟩
def c_slices_IndexFunc : ACode := .seq (.reg [⟨(some 4), .mv (.const (.int .i64 0)), none⟩])
 (.seq (.seq (.reg [⟨(some 6), .mv (.tmp 0), none⟩,
  ⟨(some 7), .len (.tmp 6), none⟩,
  ⟨(some 8), .mv (.const (.int .i64 0)), none⟩])
 (.block 0 (.loop (.seq (.reg [⟨(some 9), .bin .lss (.tmp 8) (.tmp 7), none⟩])
 (.seq (.cond (.tmp 9) (.skip) (.exit 0))
 (.seq (.block 1 (.seq (.reg [⟨(some 10), .mv (.tmp 8), none⟩,
  ⟨(some 5), .mv (.tmp 10), none⟩])
 (.seq (.reg [⟨(some 11), .mv (.tmp 1), none⟩,
  ⟨(some 12), .mv (.tmp 0), none⟩,
  ⟨(some 13), .mv (.tmp 5), none⟩,
  ⟨(some 14), .iad 1 (.tmp 12) (.tmp 13), none⟩,
  ⟨(some 15), .ld none (.tmp 14), none⟩,
  ⟨(some 16), .call (.tmp 11) [(.tmp 15)], none⟩])
 (.cond (.tmp 16) (.seq (.reg [⟨(some 17), .mv (.tmp 5), none⟩,
  ⟨(some 4), .mv (.tmp 17), none⟩])
 (.ret)) (.skip)))))
 (.reg [⟨(some 18), .bin .add (.tmp 8) (.const (.int .i64 1)), none⟩,
  ⟨(some 8), .mv (.tmp 18), none⟩])))))))
 (.seq (.reg [⟨(some 4), .mv (.const (.int .i64 (-1))), none⟩])
 (.ret)))
def r_slices_IndexFunc : List ARes := [.tmp 4]
theorem ok_slices_IndexFunc : FnOk Try.prog 130 19 c_slices_IndexFunc r_slices_IndexFunc := ⟨⟨Try.f130, _, Try.func130, by kernel_rfl, rfl, rfl, by kernel_rfl, by kernel_rfl⟩⟩
def c_cmp_isNaN : ACode := .seq (.reg [⟨(some 2), .mv (.const (.bool false)), none⟩])
 (.seq (.reg [⟨(some 3), .mv (.tmp 0), none⟩,
  ⟨(some 4), .mv (.tmp 0), none⟩,
  ⟨(some 5), .bin .neq (.tmp 3) (.tmp 4), none⟩,
  ⟨(some 2), .mv (.tmp 5), none⟩])
 (.ret))
def r_cmp_isNaN : List ARes := [.tmp 2]
theorem ok_cmp_isNaN : FnOk Try.prog 131 6 c_cmp_isNaN r_cmp_isNaN := ⟨⟨Try.f131, _, Try.func131, by kernel_rfl, rfl, rfl, by kernel_rfl, by kernel_rfl⟩⟩
def c_impl_ordered__choices : ACode := .seq (.reg [⟨(some 1), .box 69 (.tmp 0), none⟩,
  ⟨(some 2), .mv (.const (.slice none 0 0)), none⟩])
 (.seq (.reg [⟨(some 3), .call (.func 113) [(.const (.int .i64 64))], none⟩,
  ⟨(some 2), .mv (.tmp 3), none⟩])
 (.ret))
def r_impl_ordered__choices : List ARes := [.tmp 2]
theorem ok_impl_ordered__choices : FnOk Try.prog 147 4 c_impl_ordered__choices r_impl_ordered__choices := ⟨⟨Try.f147, _, Try.func147, by kernel_rfl, rfl, rfl, by kernel_rfl, by kernel_rfl⟩⟩
def c_impl_doubled__choices : ACode := .seq (.reg [⟨(some 1), .box 74 (.tmp 0), none⟩,
  ⟨(some 2), .mv (.const (.slice none 0 0)), none⟩])
 (.seq (.reg [⟨(some 5), .bsl 3 1 0 [] [], none⟩,
  ⟨(some 3), .mv (.tmp 5), none⟩])
 (.seq (.seq (.reg [⟨(some 4), .mv (.const (.int .i64 1)), none⟩])
 (.block 0 (.loop (.seq (.seq (.reg [⟨(some 6), .mv (.tmp 4), none⟩,
  ⟨(some 7), .bin .leq (.tmp 6) (.const (.int .i64 64)), none⟩])
 (.cond (.tmp 7) (.skip) (.exit 0)))
 (.seq (.block 1 (.reg [⟨(some 10), .mv (.tmp 3), none⟩,
  ⟨(some 11), .mv (.tmp 4), none⟩,
  ⟨(some 12), .bsl 3 1 1 [(.int .i64 0)] [(0, 1, (.tmp 11))], none⟩,
  ⟨(some 13), .app 3 1 8 (.tmp 10) (.tmp 12), none⟩,
  ⟨(some 3), .mv (.tmp 13), none⟩]))
 (.reg [⟨(some 8), .mv (.tmp 4), none⟩,
  ⟨(some 9), .bin .mul (.tmp 8) (.const (.int .i64 2)), none⟩,
  ⟨(some 4), .mv (.tmp 9), none⟩]))))))
 (.seq (.reg [⟨(some 14), .mv (.tmp 3), none⟩,
  ⟨(some 2), .mv (.tmp 14), none⟩])
 (.ret))))
def r_impl_doubled__choices : List ARes := [.tmp 2]
theorem ok_impl_doubled__choices : FnOk Try.prog 148 15 c_impl_doubled__choices r_impl_doubled__choices := ⟨⟨Try.f148, _, Try.func148, by kernel_rfl, rfl, rfl, by kernel_rfl, by kernel_rfl⟩⟩
def c_impl_joined__choices : ACode := .seq (.reg [⟨(some 1), .box 83 (.tmp 0), none⟩,
  ⟨(some 2), .mv (.const (.slice none 0 0)), none⟩])
 (.seq (.reg [⟨(some 3), .call (.func 113) [(.const (.int .i64 32))], none⟩,
  ⟨(some 2), .mv (.tmp 3), none⟩])
 (.ret))
def r_impl_joined__choices : List ARes := [.tmp 2]
theorem ok_impl_joined__choices : FnOk Try.prog 149 4 c_impl_joined__choices r_impl_joined__choices := ⟨⟨Try.f149, _, Try.func149, by kernel_rfl, rfl, rfl, by kernel_rfl, by kernel_rfl⟩⟩
def c_impl_joined__costOf : ACode := .seq (.reg [⟨(some 2), .box 83 (.tmp 0), none⟩,
  ⟨(some 4), .alc 67 [(.int .i64 0), (.int .i64 0)], none⟩])
 (.seq (.reg [⟨(some 5), .fad 0 (.tmp 2), none⟩,
  ⟨(some 6), .ld none (.tmp 5), none⟩,
  ⟨(some 7), .fad 1 (.tmp 2), none⟩,
  ⟨(some 8), .ld none (.tmp 7), none⟩,
  ⟨(some 9), .mv (.tmp 1), none⟩,
  ⟨(some 10), .fad 0 (.tmp 2), none⟩,
  ⟨(some 11), .ld none (.tmp 10), none⟩,
  ⟨(some 12), .mv (.tmp 1), none⟩,
  ⟨(some 13), .rcall (.func 78) [(.tmp 11), (.tmp 12)], none⟩,
  ⟨(some 14), .rcall (.func 75) [(.tmp 6), (.tmp 8), (.tmp 9), (.tmp 13)], none⟩,
  ⟨none, .st 2 (.tmp 4) (.tmp 14), none⟩])
 (.ret))
def r_impl_joined__costOf : List ARes := [.cell 4 (some 2)]
theorem ok_impl_joined__costOf : FnOk Try.prog 150 15 c_impl_joined__costOf r_impl_joined__costOf := ⟨⟨Try.f150, _, Try.func150, by kernel_rfl, rfl, rfl, by kernel_rfl, by kernel_rfl⟩⟩
def c_impl_repeated__choices : ACode := .seq (.reg [⟨(some 1), .box 117 (.tmp 0), none⟩,
  ⟨(some 2), .mv (.const (.slice none 0 0)), none⟩])
 (.seq (.reg [⟨(some 3), .call (.func 113) [(.const (.int .i64 8))], none⟩,
  ⟨(some 2), .mv (.tmp 3), none⟩])
 (.ret))
def r_impl_repeated__choices : List ARes := [.tmp 2]
theorem ok_impl_repeated__choices : FnOk Try.prog 151 4 c_impl_repeated__choices r_impl_repeated__choices := ⟨⟨Try.f151, _, Try.func151, by kernel_rfl, rfl, rfl, by kernel_rfl, by kernel_rfl⟩⟩
def c_impl_repeated__costOf : ACode := .seq (.reg [⟨(some 2), .box 117 (.tmp 0), none⟩,
  ⟨(some 4), .alc 67 [(.int .i64 0), (.int .i64 0)], none⟩])
 (.seq (.reg [⟨(some 5), .fad 0 (.tmp 2), none⟩,
  ⟨(some 6), .ld (some 5) (.tmp 5), none⟩,
  ⟨(some 7), .fad 5 (.tmp 2), none⟩,
  ⟨(some 8), .ld none (.tmp 7), none⟩,
  ⟨(some 9), .mv (.tmp 1), none⟩,
  ⟨(some 10), .bin .mul (.tmp 8) (.tmp 9), none⟩,
  ⟨(some 11), .call (.func 66) [(.tmp 6), (.tmp 10)], none⟩,
  ⟨none, .st 2 (.tmp 4) (.tmp 11), none⟩])
 (.ret))
def r_impl_repeated__costOf : List ARes := [.cell 4 (some 2)]
theorem ok_impl_repeated__costOf : FnOk Try.prog 152 12 c_impl_repeated__costOf r_impl_repeated__costOf := ⟨⟨Try.f152, _, Try.func152, by kernel_rfl, rfl, rfl, by kernel_rfl, by kernel_rfl⟩⟩
end Go.Proofs.Ytmjnjhdacliieaa.Ab
