/- The compiled forms of functions, each checked against the translation. -/
import Derived.Test.YtddnedngjijpoaaAb2
import Derived.Test.YtddnedngjijpoaaProg
namespace Go.Proofs.Ytddnedngjijpoaa.Ab
open Go Go.RowKit Go.Proofs
set_option maxRecDepth 100000
def c_impl_PolicyWorth : ACode := .seq (.reg [⟨(some 2), .box 26 (.tmp 0), none⟩,
  ⟨(some 3), .box 27 (.tmp 1), none⟩,
  ⟨(some 4), .mv (.const (.slice none 0 0)), none⟩,
  ⟨(some 5), .mv (.const (.bool false)), none⟩])
 (.seq (.seq (.reg [⟨(some 7), .ld (some 6) (.tmp 2), none⟩,
  ⟨(some 8), .ld none (.tmp 3), none⟩,
  ⟨(some 9), .call (.func 68) [(.tmp 7), (.tmp 8)], none⟩,
  ⟨(some 10), .un .not (.tmp 9), none⟩])
 (.cond (.tmp 10) (.seq (.reg [⟨(some 11), .bsl 3 1 0 [] [], none⟩,
  ⟨(some 4), .mv (.tmp 11), none⟩,
  ⟨(some 5), .mv (.const (.bool false)), none⟩])
 (.ret)) (.skip)))
 (.seq (.reg [⟨(some 12), .ld (some 6) (.tmp 2), none⟩,
  ⟨(some 13), .mkf 70 [] [(.tmp 2), (.tmp 3)], none⟩,
  ⟨(some 14), .call (.func 69) [(.tmp 12), (.tmp 13)], none⟩,
  ⟨(some 6), .mv (.tmp 14), none⟩])
 (.seq (.reg [⟨(some 15), .mv (.tmp 6), none⟩,
  ⟨(some 16), .iad 1 (.tmp 15) (.const (.int .i64 0)), none⟩,
  ⟨(some 17), .ld none (.tmp 16), none⟩,
  ⟨(some 4), .mv (.tmp 17), none⟩,
  ⟨(some 5), .mv (.const (.bool true)), none⟩])
 (.ret))))
def r_impl_PolicyWorth : List ARes := [.tmp 4, .tmp 5]
theorem ok_impl_PolicyWorth : FnOk Try.prog 19 18 c_impl_PolicyWorth r_impl_PolicyWorth := ⟨⟨Try.f19, _, Try.func19, by kernel_rfl, rfl, rfl, by kernel_rfl, by kernel_rfl⟩⟩
def c_spec_PolicyWorth : ACode := .seq (.reg [⟨(some 2), .box 26 (.tmp 0), none⟩,
  ⟨(some 4), .mv (.const (.slice none 0 0)), none⟩,
  ⟨(some 5), .mv (.const (.bool false)), none⟩])
 (.seq (.seq (.reg [⟨(some 11), .ld (some 6) (.tmp 2), none⟩,
  ⟨(some 12), .call (.func 72) [(.tmp 11)], none⟩,
  ⟨(some 13), .un .not (.tmp 12), none⟩,
  ⟨(some 14), .mv (.tmp 13), none⟩,
  ⟨(some 15), .ld (some 6) (.tmp 2), (some (14, false))⟩,
  ⟨(some 16), .mv (.tmp 1), (some (14, false))⟩,
  ⟨(some 17), .call (.func 73) [(.tmp 15), (.tmp 16)], (some (14, false))⟩,
  ⟨(some 18), .un .not (.tmp 17), (some (14, false))⟩,
  ⟨(some 19), .pick (.tmp 14) (.const (.bool true)) (.tmp 18), none⟩])
 (.cond (.tmp 19) (.seq (.reg [⟨(some 20), .bsl 3 1 0 [] [], none⟩,
  ⟨(some 4), .mv (.tmp 20), none⟩,
  ⟨(some 5), .mv (.const (.bool false)), none⟩])
 (.ret)) (.skip)))
 (.seq (.reg [⟨(some 21), .mks 3 8 [(.int .i64 0)] (.const (.int .i64 21)) (.const (.int .i64 21)), none⟩,
  ⟨(some 6), .mv (.tmp 21), none⟩])
 (.seq (.seq (.reg [⟨(some 22), .fad 0 (.tmp 2), none⟩,
  ⟨(some 23), .ld none (.tmp 22), none⟩,
  ⟨(some 24), .bin .sub (.tmp 23) (.const (.int .i64 1)), none⟩,
  ⟨(some 7), .mv (.tmp 24), none⟩])
 (.block 0 (.loop (.seq (.seq (.reg [⟨(some 25), .mv (.tmp 7), none⟩,
  ⟨(some 26), .bin .geq (.tmp 25) (.const (.int .i64 0)), none⟩])
 (.cond (.tmp 26) (.skip) (.exit 0)))
 (.seq (.block 1 (.seq (.reg [⟨(some 29), .bsl 3 1 0 [] [], none⟩,
  ⟨(some 8), .mv (.tmp 29), none⟩])
 (.seq (.seq (.reg [⟨(some 9), .mv (.const (.int .i64 (-10))), none⟩])
 (.block 2 (.loop (.seq (.seq (.reg [⟨(some 30), .mv (.tmp 9), none⟩,
  ⟨(some 31), .bin .leq (.tmp 30) (.const (.int .i64 10)), none⟩])
 (.cond (.tmp 31) (.skip) (.exit 2)))
 (.seq (.block 3 (.seq (.reg [⟨(some 34), .ld (some 6) (.tmp 2), none⟩,
  ⟨(some 35), .mv (.tmp 1), none⟩,
  ⟨(some 36), .mv (.tmp 7), none⟩,
  ⟨(some 37), .iad 2 (.tmp 35) (.tmp 36), none⟩,
  ⟨(some 38), .ld (some 2) (.tmp 37), none⟩,
  ⟨(some 39), .mv (.tmp 9), none⟩,
  ⟨(some 40), .rcall (.func 74) [(.tmp 34), (.tmp 38), (.tmp 39)], none⟩,
  ⟨(some 10), .mv (.tmp 40), none⟩])
 (.reg [⟨(some 41), .mv (.tmp 8), none⟩,
  ⟨(some 42), .ld (some 6) (.tmp 2), none⟩,
  ⟨(some 43), .mv (.tmp 9), none⟩,
  ⟨(some 44), .mv (.tmp 10), none⟩,
  ⟨(some 46), .ld (some 6) (.tmp 2), none⟩,
  ⟨(some 47), .fad 0 (.tmp 2), none⟩,
  ⟨(some 48), .ld none (.tmp 47), none⟩,
  ⟨(some 49), .mv (.tmp 7), none⟩,
  ⟨(some 50), .bin .sub (.tmp 48) (.tmp 49), none⟩,
  ⟨(some 53), .ld (some 6) (.tmp 2), none⟩,
  ⟨(some 54), .mv (.tmp 6), none⟩,
  ⟨(some 55), .mv (.tmp 10), none⟩,
  ⟨(some 56), .fad 0 (.tmp 2), none⟩,
  ⟨(some 57), .ld none (.tmp 56), none⟩,
  ⟨(some 58), .mv (.tmp 7), none⟩,
  ⟨(some 59), .bin .sub (.tmp 57) (.tmp 58), none⟩,
  ⟨(some 45), .rcall (.func 75) [(.tmp 42), (.tmp 43), (.tmp 44)], none⟩,
  ⟨(some 51), .rcall (.func 76) [(.tmp 46), (.tmp 50)], none⟩,
  ⟨(some 52), .bin .mul (.tmp 45) (.tmp 51), none⟩,
  ⟨(some 60), .rcall (.func 77) [(.tmp 53), (.tmp 54), (.tmp 55), (.tmp 59)], none⟩,
  ⟨(some 61), .bin .add (.tmp 52) (.tmp 60), none⟩,
  ⟨(some 62), .bsl 3 1 1 [(.int .i64 0)] [(0, 1, (.tmp 61))], none⟩,
  ⟨(some 63), .app 3 1 8 (.tmp 41) (.tmp 62), none⟩,
  ⟨(some 8), .mv (.tmp 63), none⟩])))
 (.reg [⟨(some 32), .mv (.tmp 9), none⟩,
  ⟨(some 33), .bin .add (.tmp 32) (.const (.int .i64 1)), none⟩,
  ⟨(some 9), .mv (.tmp 33), none⟩]))))))
 (.reg [⟨(some 64), .mv (.tmp 8), none⟩,
  ⟨(some 6), .mv (.tmp 64), none⟩]))))
 (.reg [⟨(some 27), .mv (.tmp 7), none⟩,
  ⟨(some 28), .bin .sub (.tmp 27) (.const (.int .i64 1)), none⟩,
  ⟨(some 7), .mv (.tmp 28), none⟩]))))))
 (.seq (.reg [⟨(some 65), .mv (.tmp 6), none⟩,
  ⟨(some 4), .mv (.tmp 65), none⟩,
  ⟨(some 5), .mv (.const (.bool true)), none⟩])
 (.ret)))))
def r_spec_PolicyWorth : List ARes := [.tmp 4, .tmp 5]
theorem ok_spec_PolicyWorth : FnOk Try.prog 20 66 c_spec_PolicyWorth r_spec_PolicyWorth := ⟨⟨Try.f20, _, Try.func20, by kernel_rfl, rfl, rfl, by kernel_rfl, by kernel_rfl⟩⟩
def c_impl_IsPolicy : ACode := .seq (.reg [⟨(some 2), .box 26 (.tmp 0), none⟩,
  ⟨(some 4), .mv (.const (.bool false)), none⟩,
  ⟨(some 5), .mv (.const (.bool false)), none⟩])
 (.seq (.seq (.reg [⟨(some 6), .ld (some 6) (.tmp 2), none⟩,
  ⟨(some 7), .call (.func 24) [(.tmp 6)], none⟩,
  ⟨(some 8), .un .not (.tmp 7), none⟩])
 (.cond (.tmp 8) (.seq (.reg [⟨(some 4), .mv (.const (.bool false)), none⟩,
  ⟨(some 5), .mv (.const (.bool false)), none⟩])
 (.ret)) (.skip)))
 (.seq (.reg [⟨(some 9), .ld (some 6) (.tmp 2), none⟩,
  ⟨(some 10), .mv (.tmp 1), none⟩,
  ⟨(some 11), .call (.func 68) [(.tmp 9), (.tmp 10)], none⟩,
  ⟨(some 4), .mv (.tmp 11), none⟩,
  ⟨(some 5), .mv (.const (.bool true)), none⟩])
 (.ret)))
def r_impl_IsPolicy : List ARes := [.tmp 4, .tmp 5]
theorem ok_impl_IsPolicy : FnOk Try.prog 22 12 c_impl_IsPolicy r_impl_IsPolicy := ⟨⟨Try.f22, _, Try.func22, by kernel_rfl, rfl, rfl, by kernel_rfl, by kernel_rfl⟩⟩
def c_spec_IsPolicy : ACode := .seq (.reg [⟨(some 2), .box 26 (.tmp 0), none⟩,
  ⟨(some 4), .mv (.const (.bool false)), none⟩,
  ⟨(some 5), .mv (.const (.bool false)), none⟩])
 (.seq (.seq (.reg [⟨(some 6), .ld (some 6) (.tmp 2), none⟩,
  ⟨(some 7), .call (.func 72) [(.tmp 6)], none⟩,
  ⟨(some 8), .un .not (.tmp 7), none⟩])
 (.cond (.tmp 8) (.seq (.reg [⟨(some 4), .mv (.const (.bool false)), none⟩,
  ⟨(some 5), .mv (.const (.bool false)), none⟩])
 (.ret)) (.skip)))
 (.seq (.reg [⟨(some 9), .ld (some 6) (.tmp 2), none⟩,
  ⟨(some 10), .mv (.tmp 1), none⟩,
  ⟨(some 11), .call (.func 73) [(.tmp 9), (.tmp 10)], none⟩,
  ⟨(some 4), .mv (.tmp 11), none⟩,
  ⟨(some 5), .mv (.const (.bool true)), none⟩])
 (.ret)))
def r_spec_IsPolicy : List ARes := [.tmp 4, .tmp 5]
theorem ok_spec_IsPolicy : FnOk Try.prog 23 12 c_spec_IsPolicy r_spec_IsPolicy := ⟨⟨Try.f23, _, Try.func23, by kernel_rfl, rfl, rfl, by kernel_rfl, by kernel_rfl⟩⟩
def c_impl_IsProcess : ACode := .seq (.reg [⟨(some 1), .box 26 (.tmp 0), none⟩,
  ⟨(some 2), .mv (.const (.bool false)), none⟩])
 (.seq (.reg [⟨(some 3), .fad 0 (.tmp 1), none⟩,
  ⟨(some 4), .ld none (.tmp 3), none⟩,
  ⟨(some 5), .call (.func 78) [(.tmp 4), (.const (.int .i64 5))], none⟩,
  ⟨(some 6), .mv (.tmp 5), none⟩,
  ⟨(some 7), .fad 1 (.tmp 1), (some (6, true))⟩,
  ⟨(some 8), .ld none (.tmp 7), (some (6, true))⟩,
  ⟨(some 9), .call (.func 79) [(.tmp 8)], (some (6, true))⟩,
  ⟨(some 10), .pick (.tmp 6) (.tmp 9) (.const (.bool false)), none⟩,
  ⟨(some 11), .mv (.tmp 10), none⟩,
  ⟨(some 12), .fad 2 (.tmp 1), (some (11, true))⟩,
  ⟨(some 13), .ld none (.tmp 12), (some (11, true))⟩,
  ⟨(some 14), .call (.func 78) [(.tmp 13), (.const (.int .i64 99))], (some (11, true))⟩,
  ⟨(some 15), .pick (.tmp 11) (.tmp 14) (.const (.bool false)), none⟩,
  ⟨(some 16), .mv (.tmp 15), none⟩,
  ⟨(some 17), .fad 3 (.tmp 1), (some (16, true))⟩,
  ⟨(some 18), .ld none (.tmp 17), (some (16, true))⟩,
  ⟨(some 19), .call (.func 78) [(.tmp 18), (.const (.int .i64 9))], (some (16, true))⟩,
  ⟨(some 20), .pick (.tmp 16) (.tmp 19) (.const (.bool false)), none⟩,
  ⟨(some 21), .mv (.tmp 20), none⟩,
  ⟨(some 22), .fad 4 (.tmp 1), (some (21, true))⟩,
  ⟨(some 23), .ld none (.tmp 22), (some (21, true))⟩,
  ⟨(some 24), .call (.func 78) [(.tmp 23), (.const (.int .i64 9))], (some (21, true))⟩,
  ⟨(some 25), .pick (.tmp 21) (.tmp 24) (.const (.bool false)), none⟩,
  ⟨(some 26), .mv (.tmp 25), none⟩,
  ⟨(some 27), .fad 5 (.tmp 1), (some (26, true))⟩,
  ⟨(some 28), .ld none (.tmp 27), (some (26, true))⟩,
  ⟨(some 29), .call (.func 78) [(.tmp 28), (.const (.int .i64 9))], (some (26, true))⟩,
  ⟨(some 30), .pick (.tmp 26) (.tmp 29) (.const (.bool false)), none⟩,
  ⟨(some 2), .mv (.tmp 30), none⟩])
 (.ret))
def r_impl_IsProcess : List ARes := [.tmp 2]
theorem ok_impl_IsProcess : FnOk Try.prog 24 31 c_impl_IsProcess r_impl_IsProcess := ⟨⟨Try.f24, _, Try.func24, by kernel_rfl, rfl, rfl, by kernel_rfl, by kernel_rfl⟩⟩
def c_impl_WorthTable : ACode := .seq (.reg [⟨(some 1), .box 26 (.tmp 0), none⟩,
  ⟨(some 2), .mv (.const (.slice none 0 0)), none⟩,
  ⟨(some 3), .mv (.const (.bool false)), none⟩])
 (.seq (.seq (.reg [⟨(some 4), .ld (some 6) (.tmp 1), none⟩,
  ⟨(some 5), .call (.func 24) [(.tmp 4)], none⟩,
  ⟨(some 6), .un .not (.tmp 5), none⟩])
 (.cond (.tmp 6) (.seq (.reg [⟨(some 7), .bsl 24 1 0 [] [], none⟩,
  ⟨(some 2), .mv (.tmp 7), none⟩,
  ⟨(some 3), .mv (.const (.bool false)), none⟩])
 (.ret)) (.skip)))
 (.seq (.reg [⟨(some 8), .ld (some 6) (.tmp 1), none⟩,
  ⟨(some 9), .call (.func 80) [(.tmp 8)], none⟩,
  ⟨(some 2), .mv (.tmp 9), none⟩,
  ⟨(some 3), .mv (.const (.bool true)), none⟩])
 (.ret)))
def r_impl_WorthTable : List ARes := [.tmp 2, .tmp 3]
theorem ok_impl_WorthTable : FnOk Try.prog 25 10 c_impl_WorthTable r_impl_WorthTable := ⟨⟨Try.f25, _, Try.func25, by kernel_rfl, rfl, rfl, by kernel_rfl, by kernel_rfl⟩⟩
def c_spec_WorthTable : ACode := .seq (.reg [⟨(some 1), .box 26 (.tmp 0), none⟩,
  ⟨(some 2), .mv (.const (.slice none 0 0)), none⟩,
  ⟨(some 3), .mv (.const (.bool false)), none⟩])
 (.seq (.seq (.reg [⟨(some 4), .ld (some 6) (.tmp 1), none⟩,
  ⟨(some 5), .call (.func 72) [(.tmp 4)], none⟩,
  ⟨(some 6), .un .not (.tmp 5), none⟩])
 (.cond (.tmp 6) (.seq (.reg [⟨(some 7), .bsl 24 1 0 [] [], none⟩,
  ⟨(some 2), .mv (.tmp 7), none⟩,
  ⟨(some 3), .mv (.const (.bool false)), none⟩])
 (.ret)) (.skip)))
 (.seq (.reg [⟨(some 8), .ld (some 6) (.tmp 1), none⟩,
  ⟨(some 9), .call (.func 81) [(.tmp 8)], none⟩,
  ⟨(some 2), .mv (.tmp 9), none⟩,
  ⟨(some 3), .mv (.const (.bool true)), none⟩])
 (.ret)))
def r_spec_WorthTable : List ARes := [.tmp 2, .tmp 3]
theorem ok_spec_WorthTable : FnOk Try.prog 26 10 c_spec_WorthTable r_spec_WorthTable := ⟨⟨Try.f26, _, Try.func26, by kernel_rfl, rfl, rfl, by kernel_rfl, by kernel_rfl⟩⟩
def c_impl_BestLevels : ACode := .seq (.reg [⟨(some 1), .box 26 (.tmp 0), none⟩,
  ⟨(some 2), .mv (.const (.slice none 0 0)), none⟩,
  ⟨(some 3), .mv (.const (.bool false)), none⟩])
 (.seq (.seq (.reg [⟨(some 7), .ld (some 6) (.tmp 1), none⟩,
  ⟨(some 8), .call (.func 24) [(.tmp 7)], none⟩,
  ⟨(some 9), .un .not (.tmp 8), none⟩])
 (.cond (.tmp 9) (.seq (.reg [⟨(some 10), .bsl 46 2 0 [] [], none⟩,
  ⟨(some 2), .mv (.tmp 10), none⟩,
  ⟨(some 3), .mv (.const (.bool false)), none⟩])
 (.ret)) (.skip)))
 (.seq (.reg [⟨(some 11), .ld (some 6) (.tmp 1), none⟩,
  ⟨(some 12), .call (.func 80) [(.tmp 11)], none⟩,
  ⟨(some 4), .mv (.tmp 12), none⟩])
 (.seq (.reg [⟨(some 13), .bsl 46 2 0 [] [], none⟩,
  ⟨(some 5), .mv (.tmp 13), none⟩])
 (.seq (.seq (.reg [⟨(some 14), .fad 0 (.tmp 1), none⟩,
  ⟨(some 15), .ld none (.tmp 14), none⟩,
  ⟨(some 16), .mv (.const (.int .i64 0)), none⟩])
 (.block 0 (.loop (.seq (.reg [⟨(some 17), .bin .lss (.tmp 16) (.tmp 15), none⟩])
 (.seq (.cond (.tmp 17) (.skip) (.exit 0))
 (.seq (.block 1 (.seq (.reg [⟨(some 18), .mv (.tmp 16), none⟩,
  ⟨(some 6), .mv (.tmp 18), none⟩])
 (.reg [⟨(some 19), .mv (.tmp 5), none⟩,
  ⟨(some 20), .ld (some 6) (.tmp 1), none⟩,
  ⟨(some 21), .mv (.tmp 6), none⟩,
  ⟨(some 22), .mv (.tmp 4), none⟩,
  ⟨(some 23), .mv (.tmp 6), none⟩,
  ⟨(some 24), .bin .add (.tmp 23) (.const (.int .i64 1)), none⟩,
  ⟨(some 25), .iad 1 (.tmp 22) (.tmp 24), none⟩,
  ⟨(some 26), .ld none (.tmp 25), none⟩,
  ⟨(some 27), .rcall (.func 82) [(.tmp 20), (.tmp 21), (.tmp 26)], none⟩,
  ⟨(some 28), .bsl 46 2 1 [(.int .i64 0), (.int .i64 0)] [(0, 2, (.tmp 27))], none⟩,
  ⟨(some 29), .app 46 2 16 (.tmp 19) (.tmp 28), none⟩,
  ⟨(some 5), .mv (.tmp 29), none⟩])))
 (.reg [⟨(some 30), .bin .add (.tmp 16) (.const (.int .i64 1)), none⟩,
  ⟨(some 16), .mv (.tmp 30), none⟩])))))))
 (.seq (.reg [⟨(some 31), .mv (.tmp 5), none⟩,
  ⟨(some 2), .mv (.tmp 31), none⟩,
  ⟨(some 3), .mv (.const (.bool true)), none⟩])
 (.ret))))))
def r_impl_BestLevels : List ARes := [.tmp 2, .tmp 3]
theorem ok_impl_BestLevels : FnOk Try.prog 28 32 c_impl_BestLevels r_impl_BestLevels := ⟨⟨Try.f28, _, Try.func28, by kernel_rfl, rfl, rfl, by kernel_rfl, by kernel_rfl⟩⟩
def c_spec_BestLevels : ACode := .seq (.reg [⟨(some 1), .box 26 (.tmp 0), none⟩,
  ⟨(some 2), .mv (.const (.slice none 0 0)), none⟩,
  ⟨(some 3), .mv (.const (.bool false)), none⟩])
 (.seq (.reg [⟨(some 7), .bsl 46 2 0 [] [], none⟩,
  ⟨(some 4), .mv (.tmp 7), none⟩])
 (.seq (.seq (.reg [⟨(some 8), .ld (some 6) (.tmp 1), none⟩,
  ⟨(some 9), .call (.func 72) [(.tmp 8)], none⟩,
  ⟨(some 10), .un .not (.tmp 9), none⟩])
 (.cond (.tmp 10) (.seq (.reg [⟨(some 11), .mv (.tmp 4), none⟩,
  ⟨(some 2), .mv (.tmp 11), none⟩,
  ⟨(some 3), .mv (.const (.bool false)), none⟩])
 (.ret)) (.skip)))
 (.seq (.reg [⟨(some 12), .ld (some 6) (.tmp 1), none⟩,
  ⟨(some 13), .call (.func 81) [(.tmp 12)], none⟩,
  ⟨(some 5), .mv (.tmp 13), none⟩])
 (.seq (.seq (.reg [⟨(some 6), .mv (.const (.int .i64 0)), none⟩])
 (.block 0 (.loop (.seq (.seq (.reg [⟨(some 14), .mv (.tmp 6), none⟩,
  ⟨(some 15), .fad 0 (.tmp 1), none⟩,
  ⟨(some 16), .ld none (.tmp 15), none⟩,
  ⟨(some 17), .bin .lss (.tmp 14) (.tmp 16), none⟩])
 (.cond (.tmp 17) (.skip) (.exit 0)))
 (.seq (.block 1 (.reg [⟨(some 20), .mv (.tmp 4), none⟩,
  ⟨(some 21), .ld (some 6) (.tmp 1), none⟩,
  ⟨(some 22), .mv (.tmp 5), none⟩,
  ⟨(some 23), .mv (.tmp 6), none⟩,
  ⟨(some 24), .call (.func 83) [(.tmp 21), (.tmp 22), (.tmp 23)], none⟩,
  ⟨(some 25), .bsl 46 2 1 [(.int .i64 0), (.int .i64 0)] [(0, 2, (.tmp 24))], none⟩,
  ⟨(some 26), .app 46 2 16 (.tmp 20) (.tmp 25), none⟩,
  ⟨(some 4), .mv (.tmp 26), none⟩]))
 (.reg [⟨(some 18), .mv (.tmp 6), none⟩,
  ⟨(some 19), .bin .add (.tmp 18) (.const (.int .i64 1)), none⟩,
  ⟨(some 6), .mv (.tmp 19), none⟩]))))))
 (.seq (.reg [⟨(some 27), .mv (.tmp 4), none⟩,
  ⟨(some 2), .mv (.tmp 27), none⟩,
  ⟨(some 3), .mv (.const (.bool true)), none⟩])
 (.ret))))))
def r_spec_BestLevels : List ARes := [.tmp 2, .tmp 3]
theorem ok_spec_BestLevels : FnOk Try.prog 29 28 c_spec_BestLevels r_spec_BestLevels := ⟨⟨Try.f29, _, Try.func29, by kernel_rfl, rfl, rfl, by kernel_rfl, by kernel_rfl⟩⟩
def c_impl_WholeOf : ACode := .seq (.reg [⟨(some 1), .box 26 (.tmp 0), none⟩,
  ⟨(some 2), .mv (.const (.int .i64 0)), none⟩,
  ⟨(some 3), .mv (.const (.int .i64 0)), none⟩,
  ⟨(some 4), .mv (.const (.bool false)), none⟩])
 (.seq (.seq (.reg [⟨(some 5), .ld (some 6) (.tmp 1), none⟩,
  ⟨(some 6), .call (.func 24) [(.tmp 5)], none⟩,
  ⟨(some 7), .un .not (.tmp 6), none⟩])
 (.cond (.tmp 7) (.seq (.reg [⟨(some 2), .mv (.const (.int .i64 0)), none⟩,
  ⟨(some 3), .mv (.const (.int .i64 0)), none⟩,
  ⟨(some 4), .mv (.const (.bool false)), none⟩])
 (.ret)) (.skip)))
 (.seq (.reg [⟨(some 8), .fad 1 (.tmp 1), none⟩,
  ⟨(some 9), .ld none (.tmp 8), none⟩,
  ⟨(some 11), .ld (some 6) (.tmp 1), none⟩,
  ⟨(some 10), .rcall (.func 84) [(.tmp 9)], none⟩,
  ⟨(some 12), .rcall (.func 85) [(.tmp 11), (.const (.int .i64 0))], none⟩,
  ⟨(some 2), .mv (.tmp 10), none⟩,
  ⟨(some 3), .mv (.tmp 12), none⟩,
  ⟨(some 4), .mv (.const (.bool true)), none⟩])
 (.ret)))
def r_impl_WholeOf : List ARes := [.tmp 2, .tmp 3, .tmp 4]
theorem ok_impl_WholeOf : FnOk Try.prog 31 13 c_impl_WholeOf r_impl_WholeOf := ⟨⟨Try.f31, _, Try.func31, by kernel_rfl, rfl, rfl, by kernel_rfl, by kernel_rfl⟩⟩
def c_spec_WholeOf : ACode := .seq (.reg [⟨(some 1), .box 26 (.tmp 0), none⟩,
  ⟨(some 2), .mv (.const (.int .i64 0)), none⟩,
  ⟨(some 3), .mv (.const (.int .i64 0)), none⟩,
  ⟨(some 4), .mv (.const (.bool false)), none⟩])
 (.seq (.seq (.reg [⟨(some 5), .ld (some 6) (.tmp 1), none⟩,
  ⟨(some 6), .call (.func 72) [(.tmp 5)], none⟩,
  ⟨(some 7), .un .not (.tmp 6), none⟩])
 (.cond (.tmp 7) (.seq (.reg [⟨(some 2), .mv (.const (.int .i64 0)), none⟩,
  ⟨(some 3), .mv (.const (.int .i64 0)), none⟩,
  ⟨(some 4), .mv (.const (.bool false)), none⟩])
 (.ret)) (.skip)))
 (.seq (.reg [⟨(some 8), .fad 1 (.tmp 1), none⟩,
  ⟨(some 9), .ld none (.tmp 8), none⟩,
  ⟨(some 11), .ld (some 6) (.tmp 1), none⟩,
  ⟨(some 12), .fad 0 (.tmp 1), none⟩,
  ⟨(some 13), .ld none (.tmp 12), none⟩,
  ⟨(some 10), .rcall (.func 86) [(.tmp 9)], none⟩,
  ⟨(some 14), .rcall (.func 76) [(.tmp 11), (.tmp 13)], none⟩,
  ⟨(some 2), .mv (.tmp 10), none⟩,
  ⟨(some 3), .mv (.tmp 14), none⟩,
  ⟨(some 4), .mv (.const (.bool true)), none⟩])
 (.ret)))
def r_spec_WholeOf : List ARes := [.tmp 2, .tmp 3, .tmp 4]
theorem ok_spec_WholeOf : FnOk Try.prog 32 15 c_spec_WholeOf r_spec_WholeOf := ⟨⟨Try.f32, _, Try.func32, by kernel_rfl, rfl, rfl, by kernel_rfl, by kernel_rfl⟩⟩
def c_impl_IsConvexFor : ACode := .seq (.reg [⟨(some 4), .mv (.const (.bool false)), none⟩,
  ⟨(some 5), .mv (.const (.bool false)), none⟩])
 (.seq (.seq (.reg [⟨(some 7), .mv (.tmp 0), none⟩,
  ⟨(some 8), .len (.tmp 7), none⟩,
  ⟨(some 9), .bin .gtr (.tmp 8) (.const (.int .i64 41)), none⟩,
  ⟨(some 10), .mv (.tmp 9), none⟩,
  ⟨(some 11), .mv (.tmp 0), (some (10, false))⟩,
  ⟨(some 12), .call (.func 87) [(.tmp 11)], (some (10, false))⟩,
  ⟨(some 13), .un .not (.tmp 12), (some (10, false))⟩,
  ⟨(some 14), .pick (.tmp 10) (.const (.bool true)) (.tmp 13), none⟩,
  ⟨(some 15), .mv (.tmp 14), none⟩,
  ⟨(some 16), .mv (.tmp 1), (some (15, false))⟩,
  ⟨(some 17), .call (.func 78) [(.tmp 16), (.const (.int .i64 1000000000000))], (some (15, false))⟩,
  ⟨(some 18), .un .not (.tmp 17), (some (15, false))⟩,
  ⟨(some 19), .pick (.tmp 15) (.const (.bool true)) (.tmp 18), none⟩])
 (.cond (.tmp 19) (.seq (.reg [⟨(some 4), .mv (.const (.bool false)), none⟩,
  ⟨(some 5), .mv (.const (.bool false)), none⟩])
 (.ret)) (.skip)))
 (.seq (.seq (.reg [⟨(some 20), .mv (.tmp 0), none⟩,
  ⟨(some 21), .len (.tmp 20), none⟩,
  ⟨(some 22), .mv (.const (.int .i64 0)), none⟩])
 (.block 0 (.loop (.seq (.reg [⟨(some 23), .bin .lss (.tmp 22) (.tmp 21), none⟩])
 (.seq (.cond (.tmp 23) (.skip) (.exit 0))
 (.seq (.block 1 (.seq (.reg [⟨(some 24), .mv (.tmp 22), none⟩,
  ⟨(some 6), .mv (.tmp 24), none⟩])
 (.seq (.reg [⟨(some 25), .mv (.tmp 0), none⟩,
  ⟨(some 26), .mv (.tmp 1), none⟩,
  ⟨(some 27), .mv (.tmp 6), none⟩,
  ⟨(some 28), .call (.func 88) [(.tmp 25), (.tmp 26), (.tmp 27)], none⟩,
  ⟨(some 29), .un .not (.tmp 28), none⟩])
 (.cond (.tmp 29) (.seq (.reg [⟨(some 4), .mv (.const (.bool false)), none⟩,
  ⟨(some 5), .mv (.const (.bool true)), none⟩])
 (.ret)) (.skip)))))
 (.reg [⟨(some 30), .bin .add (.tmp 22) (.const (.int .i64 1)), none⟩,
  ⟨(some 22), .mv (.tmp 30), none⟩])))))))
 (.seq (.reg [⟨(some 4), .mv (.const (.bool true)), none⟩,
  ⟨(some 5), .mv (.const (.bool true)), none⟩])
 (.ret))))
def r_impl_IsConvexFor : List ARes := [.tmp 4, .tmp 5]
theorem ok_impl_IsConvexFor : FnOk Try.prog 33 31 c_impl_IsConvexFor r_impl_IsConvexFor := ⟨⟨Try.f33, _, Try.func33, by kernel_rfl, rfl, rfl, by kernel_rfl, by kernel_rfl⟩⟩
def c_spec_IsConvexFor : ACode := .seq (.reg [⟨(some 4), .mv (.const (.bool false)), none⟩,
  ⟨(some 5), .mv (.const (.bool false)), none⟩])
 (.seq (.seq (.reg [⟨(some 6), .mv (.const (.int .i64 0)), none⟩])
 (.block 0 (.loop (.seq (.seq (.reg [⟨(some 10), .mv (.tmp 6), none⟩,
  ⟨(some 11), .mv (.tmp 0), none⟩,
  ⟨(some 12), .len (.tmp 11), none⟩,
  ⟨(some 13), .bin .lss (.tmp 10) (.tmp 12), none⟩,
  ⟨(some 14), .mv (.tmp 13), none⟩,
  ⟨(some 15), .mv (.tmp 6), (some (14, true))⟩,
  ⟨(some 16), .bin .leq (.tmp 15) (.const (.int .i64 41)), (some (14, true))⟩,
  ⟨(some 17), .pick (.tmp 14) (.tmp 16) (.const (.bool false)), none⟩])
 (.cond (.tmp 17) (.skip) (.exit 0)))
 (.seq (.block 1 (.seq (.reg [⟨(some 20), .mv (.tmp 0), none⟩,
  ⟨(some 21), .mv (.tmp 6), none⟩,
  ⟨(some 22), .iad 1 (.tmp 20) (.tmp 21), none⟩,
  ⟨(some 23), .ld none (.tmp 22), none⟩,
  ⟨(some 24), .call (.func 89) [(.tmp 23), (.const (.int .i64 (-1000000000000))), (.const (.int .i64 1000000000000))], none⟩,
  ⟨(some 25), .un .not (.tmp 24), none⟩])
 (.cond (.tmp 25) (.seq (.reg [⟨(some 4), .mv (.const (.bool false)), none⟩,
  ⟨(some 5), .mv (.const (.bool false)), none⟩])
 (.ret)) (.skip))))
 (.reg [⟨(some 18), .mv (.tmp 6), none⟩,
  ⟨(some 19), .bin .add (.tmp 18) (.const (.int .i64 1)), none⟩,
  ⟨(some 6), .mv (.tmp 19), none⟩]))))))
 (.seq (.seq (.reg [⟨(some 26), .mv (.tmp 0), none⟩,
  ⟨(some 27), .len (.tmp 26), none⟩,
  ⟨(some 28), .bin .gtr (.tmp 27) (.const (.int .i64 41)), none⟩,
  ⟨(some 29), .mv (.tmp 28), none⟩,
  ⟨(some 30), .mv (.tmp 1), (some (29, false))⟩,
  ⟨(some 31), .call (.func 89) [(.tmp 30), (.const (.int .i64 0)), (.const (.int .i64 1000000000000))], (some (29, false))⟩,
  ⟨(some 32), .un .not (.tmp 31), (some (29, false))⟩,
  ⟨(some 33), .pick (.tmp 29) (.const (.bool true)) (.tmp 32), none⟩])
 (.cond (.tmp 33) (.seq (.reg [⟨(some 4), .mv (.const (.bool false)), none⟩,
  ⟨(some 5), .mv (.const (.bool false)), none⟩])
 (.ret)) (.skip)))
 (.seq (.seq (.reg [⟨(some 7), .mv (.const (.int .i64 0)), none⟩])
 (.block 2 (.loop (.seq (.seq (.reg [⟨(some 34), .mv (.tmp 7), none⟩,
  ⟨(some 35), .mv (.tmp 0), none⟩,
  ⟨(some 36), .len (.tmp 35), none⟩,
  ⟨(some 37), .bin .lss (.tmp 34) (.tmp 36), none⟩])
 (.cond (.tmp 37) (.skip) (.exit 2)))
 (.seq (.block 3 (.seq (.reg [⟨(some 8), .mv (.const (.int .i64 1)), none⟩])
 (.block 4 (.loop (.seq (.seq (.reg [⟨(some 40), .mv (.tmp 8), none⟩,
  ⟨(some 41), .mv (.tmp 7), none⟩,
  ⟨(some 42), .bin .leq (.tmp 40) (.tmp 41), none⟩])
 (.cond (.tmp 42) (.skip) (.exit 4)))
 (.seq (.block 5 (.seq (.reg [⟨(some 9), .mv (.const (.int .i64 1)), none⟩])
 (.block 6 (.loop (.seq (.seq (.reg [⟨(some 45), .mv (.tmp 7), none⟩,
  ⟨(some 46), .mv (.tmp 9), none⟩,
  ⟨(some 47), .bin .add (.tmp 45) (.tmp 46), none⟩,
  ⟨(some 48), .mv (.tmp 0), none⟩,
  ⟨(some 49), .len (.tmp 48), none⟩,
  ⟨(some 50), .bin .lss (.tmp 47) (.tmp 49), none⟩])
 (.cond (.tmp 50) (.skip) (.exit 6)))
 (.seq (.block 7 (.seq (.reg [⟨(some 53), .mv (.tmp 8), none⟩,
  ⟨(some 54), .mv (.tmp 1), none⟩,
  ⟨(some 55), .mv (.tmp 0), none⟩,
  ⟨(some 56), .mv (.tmp 7), none⟩,
  ⟨(some 57), .mv (.tmp 9), none⟩,
  ⟨(some 58), .bin .add (.tmp 56) (.tmp 57), none⟩,
  ⟨(some 59), .iad 1 (.tmp 55) (.tmp 58), none⟩,
  ⟨(some 60), .ld none (.tmp 59), none⟩,
  ⟨(some 61), .bin .add (.tmp 54) (.tmp 60), none⟩,
  ⟨(some 62), .bin .mul (.tmp 53) (.tmp 61), none⟩,
  ⟨(some 63), .mv (.tmp 8), none⟩,
  ⟨(some 64), .mv (.tmp 0), none⟩,
  ⟨(some 65), .mv (.tmp 7), none⟩,
  ⟨(some 66), .iad 1 (.tmp 64) (.tmp 65), none⟩,
  ⟨(some 67), .ld none (.tmp 66), none⟩,
  ⟨(some 68), .bin .mul (.tmp 63) (.tmp 67), none⟩,
  ⟨(some 69), .mv (.tmp 9), none⟩,
  ⟨(some 70), .mv (.tmp 0), none⟩,
  ⟨(some 71), .mv (.tmp 7), none⟩,
  ⟨(some 72), .iad 1 (.tmp 70) (.tmp 71), none⟩,
  ⟨(some 73), .ld none (.tmp 72), none⟩,
  ⟨(some 74), .mv (.tmp 0), none⟩,
  ⟨(some 75), .mv (.tmp 7), none⟩,
  ⟨(some 76), .mv (.tmp 8), none⟩,
  ⟨(some 77), .bin .sub (.tmp 75) (.tmp 76), none⟩,
  ⟨(some 78), .iad 1 (.tmp 74) (.tmp 77), none⟩,
  ⟨(some 79), .ld none (.tmp 78), none⟩,
  ⟨(some 80), .bin .sub (.tmp 73) (.tmp 79), none⟩,
  ⟨(some 81), .bin .mul (.tmp 69) (.tmp 80), none⟩,
  ⟨(some 82), .bin .add (.tmp 68) (.tmp 81), none⟩,
  ⟨(some 83), .bin .lss (.tmp 62) (.tmp 82), none⟩])
 (.cond (.tmp 83) (.seq (.reg [⟨(some 4), .mv (.const (.bool false)), none⟩,
  ⟨(some 5), .mv (.const (.bool true)), none⟩])
 (.ret)) (.skip))))
 (.reg [⟨(some 51), .mv (.tmp 9), none⟩,
  ⟨(some 52), .bin .add (.tmp 51) (.const (.int .i64 1)), none⟩,
  ⟨(some 9), .mv (.tmp 52), none⟩])))))))
 (.reg [⟨(some 43), .mv (.tmp 8), none⟩,
  ⟨(some 44), .bin .add (.tmp 43) (.const (.int .i64 1)), none⟩,
  ⟨(some 8), .mv (.tmp 44), none⟩])))))))
 (.reg [⟨(some 38), .mv (.tmp 7), none⟩,
  ⟨(some 39), .bin .add (.tmp 38) (.const (.int .i64 1)), none⟩,
  ⟨(some 7), .mv (.tmp 39), none⟩]))))))
 (.seq (.reg [⟨(some 4), .mv (.const (.bool true)), none⟩,
  ⟨(some 5), .mv (.const (.bool true)), none⟩])
 (.ret)))))
def r_spec_IsConvexFor : List ARes := [.tmp 4, .tmp 5]
theorem ok_spec_IsConvexFor : FnOk Try.prog 34 84 c_spec_IsConvexFor r_spec_IsConvexFor := ⟨⟨Try.f34, _, Try.func34, by kernel_rfl, rfl, rfl, by kernel_rfl, by kernel_rfl⟩⟩
def c_impl_IsWorthProof : ACode := .seq (.reg [⟨(some 2), .box 26 (.tmp 0), none⟩,
  ⟨(some 4), .mv (.const (.bool false)), none⟩,
  ⟨(some 5), .mv (.const (.bool false)), none⟩])
 (.seq (.seq (.reg [⟨(some 6), .ld (some 6) (.tmp 2), none⟩,
  ⟨(some 7), .call (.func 24) [(.tmp 6)], none⟩,
  ⟨(some 8), .un .not (.tmp 7), none⟩])
 (.cond (.tmp 8) (.seq (.reg [⟨(some 4), .mv (.const (.bool false)), none⟩,
  ⟨(some 5), .mv (.const (.bool false)), none⟩])
 (.ret)) (.skip)))
 (.seq (.reg [⟨(some 9), .ld (some 6) (.tmp 2), none⟩,
  ⟨(some 10), .mv (.tmp 1), none⟩,
  ⟨(some 11), .call (.func 90) [(.tmp 9), (.tmp 10)], none⟩,
  ⟨(some 12), .mv (.tmp 11), none⟩,
  ⟨(some 13), .ld (some 6) (.tmp 2), (some (12, true))⟩,
  ⟨(some 14), .mv (.tmp 1), (some (12, true))⟩,
  ⟨(some 15), .call (.func 91) [(.tmp 13), (.tmp 14)], (some (12, true))⟩,
  ⟨(some 16), .pick (.tmp 12) (.tmp 15) (.const (.bool false)), none⟩,
  ⟨(some 4), .mv (.tmp 16), none⟩,
  ⟨(some 5), .mv (.const (.bool true)), none⟩])
 (.ret)))
def r_impl_IsWorthProof : List ARes := [.tmp 4, .tmp 5]
theorem ok_impl_IsWorthProof : FnOk Try.prog 35 17 c_impl_IsWorthProof r_impl_IsWorthProof := ⟨⟨Try.f35, _, Try.func35, by kernel_rfl, rfl, rfl, by kernel_rfl, by kernel_rfl⟩⟩
def c_impl_BestOrder : ACode := .seq (.reg [⟨(some 3), .box 26 (.tmp 0), none⟩,
  ⟨(some 6), .mv (.const (.int .i64 0)), none⟩,
  ⟨(some 7), .mv (.const (.bool false)), none⟩])
 (.seq (.seq (.reg [⟨(some 8), .ld (some 6) (.tmp 3), none⟩,
  ⟨(some 9), .mv (.tmp 1), none⟩,
  ⟨(some 10), .call (.func 95) [(.tmp 8), (.tmp 9)], none⟩,
  ⟨(some 11), .un .not (.tmp 10), none⟩,
  ⟨(some 12), .mv (.tmp 11), none⟩,
  ⟨(some 13), .mv (.tmp 2), (some (12, false))⟩,
  ⟨(some 14), .call (.func 96) [(.tmp 13)], (some (12, false))⟩,
  ⟨(some 15), .un .not (.tmp 14), (some (12, false))⟩,
  ⟨(some 16), .pick (.tmp 12) (.const (.bool true)) (.tmp 15), none⟩])
 (.cond (.tmp 16) (.seq (.reg [⟨(some 6), .mv (.const (.int .i64 0)), none⟩,
  ⟨(some 7), .mv (.const (.bool false)), none⟩])
 (.ret)) (.skip)))
 (.seq (.reg [⟨(some 17), .ld (some 6) (.tmp 3), none⟩,
  ⟨(some 18), .mv (.tmp 1), none⟩,
  ⟨(some 19), .mv (.tmp 2), none⟩,
  ⟨(some 20), .ld (some 6) (.tmp 3), none⟩,
  ⟨(some 22), .mv (.tmp 1), none⟩,
  ⟨(some 23), .bin .add (.tmp 22) (.const (.int .i64 1)), none⟩,
  ⟨(some 21), .rcall (.func 80) [(.tmp 20)], none⟩,
  ⟨(some 24), .iad 1 (.tmp 21) (.tmp 23), none⟩,
  ⟨(some 25), .ld none (.tmp 24), none⟩,
  ⟨(some 26), .rcall (.func 97) [(.tmp 17), (.tmp 18), (.tmp 19), (.tmp 25)], none⟩,
  ⟨(some 27), .fld 2 none (.tmp 26), none⟩,
  ⟨(some 6), .mv (.tmp 27), none⟩,
  ⟨(some 7), .mv (.const (.bool true)), none⟩])
 (.ret)))
def r_impl_BestOrder : List ARes := [.tmp 6, .tmp 7]
theorem ok_impl_BestOrder : FnOk Try.prog 37 28 c_impl_BestOrder r_impl_BestOrder := ⟨⟨Try.f37, _, Try.func37, by kernel_rfl, rfl, rfl, by kernel_rfl, by kernel_rfl⟩⟩
def c_spec_BestOrder : ACode := .seq (.reg [⟨(some 3), .box 26 (.tmp 0), none⟩,
  ⟨(some 6), .mv (.const (.int .i64 0)), none⟩,
  ⟨(some 7), .mv (.const (.bool false)), none⟩])
 (.seq (.seq (.reg [⟨(some 10), .ld (some 6) (.tmp 3), none⟩,
  ⟨(some 11), .mv (.tmp 1), none⟩,
  ⟨(some 12), .call (.func 98) [(.tmp 10), (.tmp 11)], none⟩,
  ⟨(some 13), .un .not (.tmp 12), none⟩,
  ⟨(some 14), .mv (.tmp 13), none⟩,
  ⟨(some 15), .mv (.tmp 2), (some (14, false))⟩,
  ⟨(some 16), .call (.func 99) [(.tmp 15)], (some (14, false))⟩,
  ⟨(some 17), .un .not (.tmp 16), (some (14, false))⟩,
  ⟨(some 18), .pick (.tmp 14) (.const (.bool true)) (.tmp 17), none⟩])
 (.cond (.tmp 18) (.seq (.reg [⟨(some 6), .mv (.const (.int .i64 0)), none⟩,
  ⟨(some 7), .mv (.const (.bool false)), none⟩])
 (.ret)) (.skip)))
 (.seq (.reg [⟨(some 20), .ld (some 6) (.tmp 3), none⟩,
  ⟨(some 21), .ld (some 6) (.tmp 3), none⟩,
  ⟨(some 23), .mv (.tmp 1), none⟩,
  ⟨(some 24), .bin .add (.tmp 23) (.const (.int .i64 1)), none⟩,
  ⟨(some 27), .mv (.tmp 2), none⟩,
  ⟨(some 28), .fad 0 (.tmp 3), none⟩,
  ⟨(some 29), .ld none (.tmp 28), none⟩,
  ⟨(some 30), .mv (.tmp 1), none⟩,
  ⟨(some 31), .bin .sub (.tmp 29) (.tmp 30), none⟩,
  ⟨(some 22), .rcall (.func 81) [(.tmp 21)], none⟩,
  ⟨(some 25), .iad 1 (.tmp 22) (.tmp 24), none⟩,
  ⟨(some 26), .ld none (.tmp 25), none⟩,
  ⟨(some 32), .rcall (.func 100) [(.tmp 20), (.tmp 26), (.tmp 27), (.tmp 31)], none⟩,
  ⟨(some 19), .mv (.tmp 32), none⟩,
  ⟨(some 33), .ext 0 (.tmp 19), none⟩,
  ⟨(some 34), .ext 1 (.tmp 19), none⟩,
  ⟨(some 8), .mv (.tmp 33), none⟩,
  ⟨(some 9), .mv (.tmp 34), none⟩])
 (.seq (.reg [⟨(some 35), .mv (.tmp 8), none⟩,
  ⟨(some 6), .mv (.tmp 35), none⟩,
  ⟨(some 7), .mv (.const (.bool true)), none⟩])
 (.ret))))
def r_spec_BestOrder : List ARes := [.tmp 6, .tmp 7]
theorem ok_spec_BestOrder : FnOk Try.prog 38 36 c_spec_BestOrder r_spec_BestOrder := ⟨⟨Try.f38, _, Try.func38, by kernel_rfl, rfl, rfl, by kernel_rfl, by kernel_rfl⟩⟩
def c_impl_BillsOf : ACode := .seq (.reg [⟨(some 2), .box 26 (.tmp 0), none⟩,
  ⟨(some 4), .mv (.const (.slice none 0 0)), none⟩,
  ⟨(some 5), .mv (.const (.bool false)), none⟩])
 (.seq (.seq (.reg [⟨(some 6), .ld (some 6) (.tmp 2), none⟩,
  ⟨(some 7), .mv (.tmp 1), none⟩,
  ⟨(some 8), .call (.func 95) [(.tmp 6), (.tmp 7)], none⟩,
  ⟨(some 9), .un .not (.tmp 8), none⟩])
 (.cond (.tmp 9) (.seq (.reg [⟨(some 10), .bsl 3 1 0 [] [], none⟩,
  ⟨(some 4), .mv (.tmp 10), none⟩,
  ⟨(some 5), .mv (.const (.bool false)), none⟩])
 (.ret)) (.skip)))
 (.seq (.reg [⟨(some 11), .ld (some 6) (.tmp 2), none⟩,
  ⟨(some 12), .mv (.tmp 1), none⟩,
  ⟨(some 13), .ld (some 6) (.tmp 2), none⟩,
  ⟨(some 15), .mv (.tmp 1), none⟩,
  ⟨(some 16), .bin .add (.tmp 15) (.const (.int .i64 1)), none⟩,
  ⟨(some 14), .rcall (.func 80) [(.tmp 13)], none⟩,
  ⟨(some 17), .iad 1 (.tmp 14) (.tmp 16), none⟩,
  ⟨(some 18), .ld none (.tmp 17), none⟩,
  ⟨(some 19), .rcall (.func 101) [(.tmp 11), (.tmp 12), (.tmp 18)], none⟩,
  ⟨(some 4), .mv (.tmp 19), none⟩,
  ⟨(some 5), .mv (.const (.bool true)), none⟩])
 (.ret)))
def r_impl_BillsOf : List ARes := [.tmp 4, .tmp 5]
theorem ok_impl_BillsOf : FnOk Try.prog 39 20 c_impl_BillsOf r_impl_BillsOf := ⟨⟨Try.f39, _, Try.func39, by kernel_rfl, rfl, rfl, by kernel_rfl, by kernel_rfl⟩⟩
def c_spec_BillsOf : ACode := .seq (.reg [⟨(some 2), .box 26 (.tmp 0), none⟩,
  ⟨(some 4), .mv (.const (.slice none 0 0)), none⟩,
  ⟨(some 5), .mv (.const (.bool false)), none⟩])
 (.seq (.seq (.reg [⟨(some 6), .ld (some 6) (.tmp 2), none⟩,
  ⟨(some 7), .mv (.tmp 1), none⟩,
  ⟨(some 8), .call (.func 98) [(.tmp 6), (.tmp 7)], none⟩,
  ⟨(some 9), .un .not (.tmp 8), none⟩])
 (.cond (.tmp 9) (.seq (.reg [⟨(some 10), .bsl 3 1 0 [] [], none⟩,
  ⟨(some 4), .mv (.tmp 10), none⟩,
  ⟨(some 5), .mv (.const (.bool false)), none⟩])
 (.ret)) (.skip)))
 (.seq (.reg [⟨(some 11), .ld (some 6) (.tmp 2), none⟩,
  ⟨(some 12), .ld (some 6) (.tmp 2), none⟩,
  ⟨(some 14), .mv (.tmp 1), none⟩,
  ⟨(some 13), .rcall (.func 81) [(.tmp 12)], none⟩,
  ⟨(some 15), .rcall (.func 102) [(.tmp 11), (.tmp 13), (.tmp 14)], none⟩,
  ⟨(some 4), .mv (.tmp 15), none⟩,
  ⟨(some 5), .mv (.const (.bool true)), none⟩])
 (.ret)))
def r_spec_BillsOf : List ARes := [.tmp 4, .tmp 5]
theorem ok_spec_BillsOf : FnOk Try.prog 40 16 c_spec_BillsOf r_spec_BillsOf := ⟨⟨Try.f40, _, Try.func40, by kernel_rfl, rfl, rfl, by kernel_rfl, by kernel_rfl⟩⟩
def c_spec_IsWorthProof : ACode := .seq (.reg [⟨(some 2), .box 26 (.tmp 0), none⟩,
  ⟨(some 4), .mv (.const (.bool false)), none⟩,
  ⟨(some 5), .mv (.const (.bool false)), none⟩])
 (.seq (.seq (.reg [⟨(some 8), .ld (some 6) (.tmp 2), none⟩,
  ⟨(some 9), .call (.func 72) [(.tmp 8)], none⟩,
  ⟨(some 10), .un .not (.tmp 9), none⟩])
 (.cond (.tmp 10) (.seq (.reg [⟨(some 4), .mv (.const (.bool false)), none⟩,
  ⟨(some 5), .mv (.const (.bool false)), none⟩])
 (.ret)) (.skip)))
 (.seq (.seq (.reg [⟨(some 11), .ld (some 6) (.tmp 2), none⟩,
  ⟨(some 12), .mv (.tmp 1), none⟩,
  ⟨(some 13), .call (.func 104) [(.tmp 11), (.tmp 12)], none⟩,
  ⟨(some 14), .un .not (.tmp 13), none⟩])
 (.cond (.tmp 14) (.seq (.reg [⟨(some 4), .mv (.const (.bool false)), none⟩,
  ⟨(some 5), .mv (.const (.bool true)), none⟩])
 (.ret)) (.skip)))
 (.seq (.seq (.reg [⟨(some 6), .mv (.const (.int .i64 0)), none⟩])
 (.block 0 (.loop (.seq (.seq (.reg [⟨(some 15), .mv (.tmp 6), none⟩,
  ⟨(some 16), .mv (.tmp 1), none⟩,
  ⟨(some 17), .fad 0 (.tmp 2), none⟩,
  ⟨(some 18), .ld none (.tmp 17), none⟩,
  ⟨(some 19), .iad 1 (.tmp 16) (.tmp 18), none⟩,
  ⟨(some 20), .ld none (.tmp 19), none⟩,
  ⟨(some 21), .len (.tmp 20), none⟩,
  ⟨(some 22), .bin .lss (.tmp 15) (.tmp 21), none⟩])
 (.cond (.tmp 22) (.skip) (.exit 0)))
 (.seq (.block 1 (.seq (.reg [⟨(some 25), .mv (.tmp 1), none⟩,
  ⟨(some 26), .fad 0 (.tmp 2), none⟩,
  ⟨(some 27), .ld none (.tmp 26), none⟩,
  ⟨(some 28), .iad 1 (.tmp 25) (.tmp 27), none⟩,
  ⟨(some 29), .ld none (.tmp 28), none⟩,
  ⟨(some 30), .mv (.tmp 6), none⟩,
  ⟨(some 31), .iad 1 (.tmp 29) (.tmp 30), none⟩,
  ⟨(some 32), .ld none (.tmp 31), none⟩,
  ⟨(some 33), .bin .gtr (.tmp 32) (.const (.int .i64 0)), none⟩])
 (.cond (.tmp 33) (.seq (.reg [⟨(some 4), .mv (.const (.bool false)), none⟩,
  ⟨(some 5), .mv (.const (.bool true)), none⟩])
 (.ret)) (.skip))))
 (.reg [⟨(some 23), .mv (.tmp 6), none⟩,
  ⟨(some 24), .bin .add (.tmp 23) (.const (.int .i64 1)), none⟩,
  ⟨(some 6), .mv (.tmp 24), none⟩]))))))
 (.seq (.seq (.reg [⟨(some 7), .mv (.const (.int .i64 0)), none⟩])
 (.block 2 (.loop (.seq (.seq (.reg [⟨(some 34), .mv (.tmp 7), none⟩,
  ⟨(some 35), .fad 0 (.tmp 2), none⟩,
  ⟨(some 36), .ld none (.tmp 35), none⟩,
  ⟨(some 37), .bin .lss (.tmp 34) (.tmp 36), none⟩])
 (.cond (.tmp 37) (.skip) (.exit 2)))
 (.seq (.block 3 (.seq (.reg [⟨(some 40), .ld (some 6) (.tmp 2), none⟩,
  ⟨(some 41), .mv (.tmp 1), none⟩,
  ⟨(some 42), .mv (.tmp 7), none⟩,
  ⟨(some 43), .call (.func 105) [(.tmp 40), (.tmp 41), (.tmp 42)], none⟩,
  ⟨(some 44), .un .not (.tmp 43), none⟩])
 (.cond (.tmp 44) (.seq (.reg [⟨(some 4), .mv (.const (.bool false)), none⟩,
  ⟨(some 5), .mv (.const (.bool true)), none⟩])
 (.ret)) (.skip))))
 (.reg [⟨(some 38), .mv (.tmp 7), none⟩,
  ⟨(some 39), .bin .add (.tmp 38) (.const (.int .i64 1)), none⟩,
  ⟨(some 7), .mv (.tmp 39), none⟩]))))))
 (.seq (.reg [⟨(some 4), .mv (.const (.bool true)), none⟩,
  ⟨(some 5), .mv (.const (.bool true)), none⟩])
 (.ret))))))
def r_spec_IsWorthProof : List ARes := [.tmp 4, .tmp 5]
theorem ok_spec_IsWorthProof : FnOk Try.prog 43 45 c_spec_IsWorthProof r_spec_IsWorthProof := ⟨⟨Try.f43, _, Try.func43, by kernel_rfl, rfl, rfl, by kernel_rfl, by kernel_rfl⟩⟩
def c_spec_IsProcess : ACode := .seq (.reg [⟨(some 1), .box 26 (.tmp 0), none⟩,
  ⟨(some 2), .mv (.const (.bool false)), none⟩])
 (.seq (.reg [⟨(some 3), .ld (some 6) (.tmp 1), none⟩,
  ⟨(some 4), .call (.func 72) [(.tmp 3)], none⟩,
  ⟨(some 2), .mv (.tmp 4), none⟩])
 (.ret))
def r_spec_IsProcess : List ARes := [.tmp 2]
theorem ok_spec_IsProcess : FnOk Try.prog 45 5 c_spec_IsProcess r_spec_IsProcess := ⟨⟨Try.f45, _, Try.func45, by kernel_rfl, rfl, rfl, by kernel_rfl, by kernel_rfl⟩⟩
def c_spec_StepLevel : ACode := .seq (.reg [⟨(some 5), .box 26 (.tmp 0), none⟩,
  ⟨(some 10), .mv (.const (.int .i64 0)), none⟩,
  ⟨(some 11), .mv (.const (.int .i64 0)), none⟩,
  ⟨(some 12), .mv (.const (.int .i64 0)), none⟩,
  ⟨(some 13), .mv (.const (.bool false)), none⟩])
 (.seq (.seq (.reg [⟨(some 15), .ld (some 6) (.tmp 5), none⟩,
  ⟨(some 16), .mv (.tmp 2), none⟩,
  ⟨(some 17), .call (.func 98) [(.tmp 15), (.tmp 16)], none⟩,
  ⟨(some 18), .un .not (.tmp 17), none⟩,
  ⟨(some 19), .mv (.tmp 18), none⟩,
  ⟨(some 20), .ld (some 6) (.tmp 5), (some (19, false))⟩,
  ⟨(some 21), .mv (.tmp 1), (some (19, false))⟩,
  ⟨(some 22), .call (.func 73) [(.tmp 20), (.tmp 21)], (some (19, false))⟩,
  ⟨(some 23), .un .not (.tmp 22), (some (19, false))⟩,
  ⟨(some 24), .pick (.tmp 19) (.const (.bool true)) (.tmp 23), none⟩,
  ⟨(some 25), .mv (.tmp 24), none⟩,
  ⟨(some 26), .mv (.tmp 3), (some (25, false))⟩,
  ⟨(some 27), .call (.func 99) [(.tmp 26)], (some (25, false))⟩,
  ⟨(some 28), .un .not (.tmp 27), (some (25, false))⟩,
  ⟨(some 29), .pick (.tmp 25) (.const (.bool true)) (.tmp 28), none⟩,
  ⟨(some 30), .mv (.tmp 29), none⟩,
  ⟨(some 31), .ld (some 6) (.tmp 5), (some (30, false))⟩,
  ⟨(some 32), .mv (.tmp 4), (some (30, false))⟩,
  ⟨(some 33), .call (.func 109) [(.tmp 31), (.tmp 32)], (some (30, false))⟩,
  ⟨(some 34), .un .not (.tmp 33), (some (30, false))⟩,
  ⟨(some 35), .pick (.tmp 30) (.const (.bool true)) (.tmp 34), none⟩])
 (.cond (.tmp 35) (.seq (.reg [⟨(some 10), .mv (.const (.int .i64 0)), none⟩,
  ⟨(some 11), .mv (.const (.int .i64 0)), none⟩,
  ⟨(some 12), .mv (.const (.int .i64 0)), none⟩,
  ⟨(some 13), .mv (.const (.bool false)), none⟩])
 (.ret)) (.skip)))
 (.seq (.reg [⟨(some 36), .ld (some 6) (.tmp 5), none⟩,
  ⟨(some 37), .mv (.tmp 1), none⟩,
  ⟨(some 38), .mv (.tmp 2), none⟩,
  ⟨(some 39), .iad 2 (.tmp 37) (.tmp 38), none⟩,
  ⟨(some 40), .ld (some 2) (.tmp 39), none⟩,
  ⟨(some 41), .mv (.tmp 3), none⟩,
  ⟨(some 42), .rcall (.func 74) [(.tmp 36), (.tmp 40), (.tmp 41)], none⟩,
  ⟨(some 14), .mv (.tmp 42), none⟩])
 (.seq (.reg [⟨(some 43), .mv (.tmp 14), none⟩,
  ⟨(some 44), .mv (.tmp 14), none⟩,
  ⟨(some 45), .mv (.tmp 4), none⟩,
  ⟨(some 46), .bin .sub (.tmp 44) (.tmp 45), none⟩,
  ⟨(some 47), .ld (some 6) (.tmp 5), none⟩,
  ⟨(some 48), .mv (.tmp 3), none⟩,
  ⟨(some 49), .mv (.tmp 14), none⟩,
  ⟨(some 51), .ld (some 6) (.tmp 5), none⟩,
  ⟨(some 52), .mv (.tmp 14), none⟩,
  ⟨(some 53), .mv (.tmp 4), none⟩,
  ⟨(some 54), .bin .sub (.tmp 52) (.tmp 53), none⟩,
  ⟨(some 50), .rcall (.func 75) [(.tmp 47), (.tmp 48), (.tmp 49)], none⟩,
  ⟨(some 55), .rcall (.func 110) [(.tmp 51), (.tmp 54)], none⟩,
  ⟨(some 56), .bin .add (.tmp 50) (.tmp 55), none⟩,
  ⟨(some 10), .mv (.tmp 43), none⟩,
  ⟨(some 11), .mv (.tmp 46), none⟩,
  ⟨(some 12), .mv (.tmp 56), none⟩,
  ⟨(some 13), .mv (.const (.bool true)), none⟩])
 (.ret))))
def r_spec_StepLevel : List ARes := [.tmp 10, .tmp 11, .tmp 12, .tmp 13]
theorem ok_spec_StepLevel : FnOk Try.prog 63 57 c_spec_StepLevel r_spec_StepLevel := ⟨⟨Try.f63, _, Try.func63, by kernel_rfl, rfl, rfl, by kernel_rfl, by kernel_rfl⟩⟩
def c_impl_StepLevel : ACode := .seq (.reg [⟨(some 5), .box 26 (.tmp 0), none⟩,
  ⟨(some 10), .mv (.const (.int .i64 0)), none⟩,
  ⟨(some 11), .mv (.const (.int .i64 0)), none⟩,
  ⟨(some 12), .mv (.const (.int .i64 0)), none⟩,
  ⟨(some 13), .mv (.const (.bool false)), none⟩])
 (.seq (.seq (.reg [⟨(some 16), .ld (some 6) (.tmp 5), none⟩,
  ⟨(some 17), .mv (.tmp 1), none⟩,
  ⟨(some 18), .call (.func 68) [(.tmp 16), (.tmp 17)], none⟩,
  ⟨(some 19), .un .not (.tmp 18), none⟩,
  ⟨(some 20), .mv (.tmp 19), none⟩,
  ⟨(some 21), .ld (some 6) (.tmp 5), (some (20, false))⟩,
  ⟨(some 22), .mv (.tmp 2), (some (20, false))⟩,
  ⟨(some 23), .call (.func 95) [(.tmp 21), (.tmp 22)], (some (20, false))⟩,
  ⟨(some 24), .un .not (.tmp 23), (some (20, false))⟩,
  ⟨(some 25), .pick (.tmp 20) (.const (.bool true)) (.tmp 24), none⟩,
  ⟨(some 26), .mv (.tmp 25), none⟩,
  ⟨(some 27), .mv (.tmp 3), (some (26, false))⟩,
  ⟨(some 28), .call (.func 96) [(.tmp 27)], (some (26, false))⟩,
  ⟨(some 29), .un .not (.tmp 28), (some (26, false))⟩,
  ⟨(some 30), .pick (.tmp 26) (.const (.bool true)) (.tmp 29), none⟩,
  ⟨(some 31), .mv (.tmp 30), none⟩,
  ⟨(some 32), .ld (some 6) (.tmp 5), (some (31, false))⟩,
  ⟨(some 33), .mv (.tmp 4), (some (31, false))⟩,
  ⟨(some 34), .call (.func 111) [(.tmp 32), (.tmp 33)], (some (31, false))⟩,
  ⟨(some 35), .un .not (.tmp 34), (some (31, false))⟩,
  ⟨(some 36), .pick (.tmp 31) (.const (.bool true)) (.tmp 35), none⟩])
 (.cond (.tmp 36) (.seq (.reg [⟨(some 10), .mv (.const (.int .i64 0)), none⟩,
  ⟨(some 11), .mv (.const (.int .i64 0)), none⟩,
  ⟨(some 12), .mv (.const (.int .i64 0)), none⟩,
  ⟨(some 13), .mv (.const (.bool false)), none⟩])
 (.ret)) (.skip)))
 (.seq (.reg [⟨(some 37), .ld (some 6) (.tmp 5), none⟩,
  ⟨(some 38), .mv (.tmp 1), none⟩,
  ⟨(some 39), .mv (.tmp 2), none⟩,
  ⟨(some 40), .iad 2 (.tmp 38) (.tmp 39), none⟩,
  ⟨(some 41), .ld (some 2) (.tmp 40), none⟩,
  ⟨(some 42), .mv (.tmp 3), none⟩,
  ⟨(some 43), .rcall (.func 71) [(.tmp 37), (.tmp 41), (.tmp 42)], none⟩,
  ⟨(some 14), .mv (.tmp 43), none⟩])
 (.seq (.reg [⟨(some 44), .mv (.tmp 14), none⟩,
  ⟨(some 45), .mv (.tmp 4), none⟩,
  ⟨(some 46), .bin .sub (.tmp 44) (.tmp 45), none⟩,
  ⟨(some 15), .mv (.tmp 46), none⟩])
 (.seq (.reg [⟨(some 47), .mv (.tmp 14), none⟩,
  ⟨(some 48), .mv (.tmp 15), none⟩,
  ⟨(some 49), .ld (some 6) (.tmp 5), none⟩,
  ⟨(some 50), .mv (.tmp 3), none⟩,
  ⟨(some 51), .mv (.tmp 14), none⟩,
  ⟨(some 53), .ld (some 6) (.tmp 5), none⟩,
  ⟨(some 54), .mv (.tmp 15), none⟩,
  ⟨(some 52), .rcall (.func 112) [(.tmp 49), (.tmp 50), (.tmp 51)], none⟩,
  ⟨(some 55), .rcall (.func 113) [(.tmp 53), (.tmp 54)], none⟩,
  ⟨(some 56), .bin .add (.tmp 52) (.tmp 55), none⟩,
  ⟨(some 10), .mv (.tmp 47), none⟩,
  ⟨(some 11), .mv (.tmp 48), none⟩,
  ⟨(some 12), .mv (.tmp 56), none⟩,
  ⟨(some 13), .mv (.const (.bool true)), none⟩])
 (.ret)))))
def r_impl_StepLevel : List ARes := [.tmp 10, .tmp 11, .tmp 12, .tmp 13]
theorem ok_impl_StepLevel : FnOk Try.prog 64 57 c_impl_StepLevel r_impl_StepLevel := ⟨⟨Try.f64, _, Try.func64, by kernel_rfl, rfl, rfl, by kernel_rfl, by kernel_rfl⟩⟩
def c_spec_TraceLevels : ACode := .seq (.reg [⟨(some 4), .box 26 (.tmp 0), none⟩,
  ⟨(some 8), .mv (.const (.slice none 0 0)), none⟩,
  ⟨(some 9), .mv (.const (.int .i64 0)), none⟩,
  ⟨(some 10), .mv (.const (.bool false)), none⟩])
 (.seq (.reg [⟨(some 18), .bsl 3 1 0 [] [], none⟩,
  ⟨(some 11), .mv (.tmp 18), none⟩,
  ⟨(some 12), .mv (.const (.int .i64 0)), none⟩])
 (.seq (.seq (.reg [⟨(some 19), .ld (some 6) (.tmp 4), none⟩,
  ⟨(some 20), .call (.func 72) [(.tmp 19)], none⟩,
  ⟨(some 21), .un .not (.tmp 20), none⟩,
  ⟨(some 22), .mv (.tmp 21), none⟩,
  ⟨(some 23), .ld (some 6) (.tmp 4), (some (22, false))⟩,
  ⟨(some 24), .mv (.tmp 1), (some (22, false))⟩,
  ⟨(some 25), .call (.func 73) [(.tmp 23), (.tmp 24)], (some (22, false))⟩,
  ⟨(some 26), .un .not (.tmp 25), (some (22, false))⟩,
  ⟨(some 27), .pick (.tmp 22) (.const (.bool true)) (.tmp 26), none⟩,
  ⟨(some 28), .mv (.tmp 27), none⟩,
  ⟨(some 29), .mv (.tmp 2), (some (28, false))⟩,
  ⟨(some 30), .call (.func 99) [(.tmp 29)], (some (28, false))⟩,
  ⟨(some 31), .un .not (.tmp 30), (some (28, false))⟩,
  ⟨(some 32), .pick (.tmp 28) (.const (.bool true)) (.tmp 31), none⟩,
  ⟨(some 33), .mv (.tmp 32), none⟩,
  ⟨(some 34), .mv (.tmp 3), (some (33, false))⟩,
  ⟨(some 35), .len (.tmp 34), (some (33, false))⟩,
  ⟨(some 36), .fad 0 (.tmp 4), (some (33, false))⟩,
  ⟨(some 37), .ld none (.tmp 36), (some (33, false))⟩,
  ⟨(some 38), .bin .gtr (.tmp 35) (.tmp 37), (some (33, false))⟩,
  ⟨(some 39), .pick (.tmp 33) (.const (.bool true)) (.tmp 38), none⟩])
 (.cond (.tmp 39) (.seq (.reg [⟨(some 40), .mv (.tmp 11), none⟩,
  ⟨(some 8), .mv (.tmp 40), none⟩,
  ⟨(some 9), .mv (.const (.int .i64 0)), none⟩,
  ⟨(some 10), .mv (.const (.bool false)), none⟩])
 (.ret)) (.skip)))
 (.seq (.seq (.reg [⟨(some 13), .mv (.const (.int .i64 0)), none⟩])
 (.block 0 (.loop (.seq (.seq (.reg [⟨(some 41), .mv (.tmp 13), none⟩,
  ⟨(some 42), .mv (.tmp 3), none⟩,
  ⟨(some 43), .len (.tmp 42), none⟩,
  ⟨(some 44), .bin .lss (.tmp 41) (.tmp 43), none⟩])
 (.cond (.tmp 44) (.skip) (.exit 0)))
 (.seq (.block 1 (.seq (.reg [⟨(some 48), .ld (some 6) (.tmp 4), none⟩,
  ⟨(some 49), .mv (.tmp 1), none⟩,
  ⟨(some 50), .mv (.tmp 13), none⟩,
  ⟨(some 51), .mv (.tmp 2), none⟩,
  ⟨(some 52), .mv (.tmp 3), none⟩,
  ⟨(some 53), .mv (.tmp 13), none⟩,
  ⟨(some 54), .iad 1 (.tmp 52) (.tmp 53), none⟩,
  ⟨(some 55), .ld none (.tmp 54), none⟩,
  ⟨(some 56), .rcall (.func 63) [(.tmp 48), (.tmp 49), (.tmp 50), (.tmp 51), (.tmp 55)], none⟩,
  ⟨(some 47), .mv (.tmp 56), none⟩,
  ⟨(some 57), .ext 0 (.tmp 47), none⟩,
  ⟨(some 58), .ext 1 (.tmp 47), none⟩,
  ⟨(some 59), .ext 2 (.tmp 47), none⟩,
  ⟨(some 60), .ext 3 (.tmp 47), none⟩,
  ⟨(some 14), .mv (.tmp 57), none⟩,
  ⟨(some 15), .mv (.tmp 58), none⟩,
  ⟨(some 16), .mv (.tmp 59), none⟩,
  ⟨(some 17), .mv (.tmp 60), none⟩])
 (.seq (.seq (.reg [⟨(some 61), .mv (.tmp 17), none⟩,
  ⟨(some 62), .un .not (.tmp 61), none⟩])
 (.cond (.tmp 62) (.seq (.reg [⟨(some 63), .bsl 3 1 0 [] [], none⟩,
  ⟨(some 8), .mv (.tmp 63), none⟩,
  ⟨(some 9), .mv (.const (.int .i64 0)), none⟩,
  ⟨(some 10), .mv (.const (.bool false)), none⟩])
 (.ret)) (.skip)))
 (.seq (.reg [⟨(some 64), .mv (.tmp 11), none⟩,
  ⟨(some 65), .mv (.tmp 15), none⟩,
  ⟨(some 66), .bsl 3 1 1 [(.int .i64 0)] [(0, 1, (.tmp 65))], none⟩,
  ⟨(some 67), .app 3 1 8 (.tmp 64) (.tmp 66), none⟩,
  ⟨(some 11), .mv (.tmp 67), none⟩])
 (.seq (.reg [⟨(some 68), .mv (.tmp 15), none⟩,
  ⟨(some 2), .mv (.tmp 68), none⟩])
 (.reg [⟨(some 69), .mv (.tmp 12), none⟩,
  ⟨(some 70), .mv (.tmp 16), none⟩,
  ⟨(some 71), .bin .add (.tmp 69) (.tmp 70), none⟩,
  ⟨(some 12), .mv (.tmp 71), none⟩]))))))
 (.reg [⟨(some 45), .mv (.tmp 13), none⟩,
  ⟨(some 46), .bin .add (.tmp 45) (.const (.int .i64 1)), none⟩,
  ⟨(some 13), .mv (.tmp 46), none⟩]))))))
 (.seq (.reg [⟨(some 72), .mv (.tmp 11), none⟩,
  ⟨(some 73), .mv (.tmp 12), none⟩,
  ⟨(some 8), .mv (.tmp 72), none⟩,
  ⟨(some 9), .mv (.tmp 73), none⟩,
  ⟨(some 10), .mv (.const (.bool true)), none⟩])
 (.ret)))))
def r_spec_TraceLevels : List ARes := [.tmp 8, .tmp 9, .tmp 10]
theorem ok_spec_TraceLevels : FnOk Try.prog 65 74 c_spec_TraceLevels r_spec_TraceLevels := ⟨⟨Try.f65, _, Try.func65, by kernel_rfl, rfl, rfl, by kernel_rfl, by kernel_rfl⟩⟩
def c_impl_TraceLevels : ACode := .seq (.reg [⟨(some 4), .box 26 (.tmp 0), none⟩,
  ⟨(some 8), .mv (.const (.slice none 0 0)), none⟩,
  ⟨(some 9), .mv (.const (.int .i64 0)), none⟩,
  ⟨(some 10), .mv (.const (.bool false)), none⟩])
 (.seq (.seq (.reg [⟨(some 19), .ld (some 6) (.tmp 4), none⟩,
  ⟨(some 20), .mv (.tmp 1), none⟩,
  ⟨(some 21), .call (.func 68) [(.tmp 19), (.tmp 20)], none⟩,
  ⟨(some 22), .un .not (.tmp 21), none⟩,
  ⟨(some 23), .mv (.tmp 22), none⟩,
  ⟨(some 24), .mv (.tmp 2), (some (23, false))⟩,
  ⟨(some 25), .call (.func 96) [(.tmp 24)], (some (23, false))⟩,
  ⟨(some 26), .un .not (.tmp 25), (some (23, false))⟩,
  ⟨(some 27), .pick (.tmp 23) (.const (.bool true)) (.tmp 26), none⟩])
 (.cond (.tmp 27) (.seq (.reg [⟨(some 28), .bsl 3 1 0 [] [], none⟩,
  ⟨(some 8), .mv (.tmp 28), none⟩,
  ⟨(some 9), .mv (.const (.int .i64 0)), none⟩,
  ⟨(some 10), .mv (.const (.bool false)), none⟩])
 (.ret)) (.skip)))
 (.seq (.reg [⟨(some 29), .bsl 3 1 0 [] [], none⟩,
  ⟨(some 11), .mv (.tmp 29), none⟩,
  ⟨(some 12), .mv (.const (.int .i64 0)), none⟩])
 (.seq (.seq (.reg [⟨(some 30), .mv (.tmp 3), none⟩,
  ⟨(some 31), .len (.tmp 30), none⟩,
  ⟨(some 32), .mv (.const (.int .i64 0)), none⟩])
 (.block 0 (.loop (.seq (.reg [⟨(some 33), .bin .lss (.tmp 32) (.tmp 31), none⟩])
 (.seq (.cond (.tmp 33) (.skip) (.exit 0))
 (.seq (.block 1 (.seq (.reg [⟨(some 34), .mv (.tmp 32), none⟩,
  ⟨(some 35), .iad 1 (.tmp 30) (.tmp 32), none⟩,
  ⟨(some 36), .ld none (.tmp 35), none⟩,
  ⟨(some 13), .mv (.tmp 34), none⟩,
  ⟨(some 14), .mv (.tmp 36), none⟩])
 (.seq (.reg [⟨(some 38), .ld (some 6) (.tmp 4), none⟩,
  ⟨(some 39), .mv (.tmp 1), none⟩,
  ⟨(some 40), .mv (.tmp 13), none⟩,
  ⟨(some 41), .mv (.tmp 2), none⟩,
  ⟨(some 42), .mv (.tmp 14), none⟩,
  ⟨(some 43), .call (.func 64) [(.tmp 38), (.tmp 39), (.tmp 40), (.tmp 41), (.tmp 42)], none⟩,
  ⟨(some 37), .mv (.tmp 43), none⟩,
  ⟨(some 44), .ext 0 (.tmp 37), none⟩,
  ⟨(some 45), .ext 1 (.tmp 37), none⟩,
  ⟨(some 46), .ext 2 (.tmp 37), none⟩,
  ⟨(some 47), .ext 3 (.tmp 37), none⟩,
  ⟨(some 15), .mv (.tmp 44), none⟩,
  ⟨(some 16), .mv (.tmp 45), none⟩,
  ⟨(some 17), .mv (.tmp 46), none⟩,
  ⟨(some 18), .mv (.tmp 47), none⟩])
 (.seq (.seq (.reg [⟨(some 48), .mv (.tmp 18), none⟩,
  ⟨(some 49), .un .not (.tmp 48), none⟩])
 (.cond (.tmp 49) (.seq (.reg [⟨(some 50), .bsl 3 1 0 [] [], none⟩,
  ⟨(some 8), .mv (.tmp 50), none⟩,
  ⟨(some 9), .mv (.const (.int .i64 0)), none⟩,
  ⟨(some 10), .mv (.const (.bool false)), none⟩])
 (.ret)) (.skip)))
 (.seq (.reg [⟨(some 51), .mv (.tmp 16), none⟩,
  ⟨(some 2), .mv (.tmp 51), none⟩])
 (.seq (.reg [⟨(some 52), .mv (.tmp 11), none⟩,
  ⟨(some 53), .mv (.tmp 2), none⟩,
  ⟨(some 54), .bsl 3 1 1 [(.int .i64 0)] [(0, 1, (.tmp 53))], none⟩,
  ⟨(some 55), .app 3 1 8 (.tmp 52) (.tmp 54), none⟩,
  ⟨(some 11), .mv (.tmp 55), none⟩])
 (.reg [⟨(some 56), .mv (.tmp 12), none⟩,
  ⟨(some 57), .mv (.tmp 17), none⟩,
  ⟨(some 58), .bin .add (.tmp 56) (.tmp 57), none⟩,
  ⟨(some 12), .mv (.tmp 58), none⟩])))))))
 (.reg [⟨(some 59), .bin .add (.tmp 32) (.const (.int .i64 1)), none⟩,
  ⟨(some 32), .mv (.tmp 59), none⟩])))))))
 (.seq (.reg [⟨(some 60), .mv (.tmp 11), none⟩,
  ⟨(some 61), .mv (.tmp 12), none⟩,
  ⟨(some 8), .mv (.tmp 60), none⟩,
  ⟨(some 9), .mv (.tmp 61), none⟩,
  ⟨(some 10), .mv (.const (.bool true)), none⟩])
 (.ret)))))
def r_impl_TraceLevels : List ARes := [.tmp 8, .tmp 9, .tmp 10]
theorem ok_impl_TraceLevels : FnOk Try.prog 66 62 c_impl_TraceLevels r_impl_TraceLevels := ⟨⟨Try.f66, _, Try.func66, by kernel_rfl, rfl, rfl, by kernel_rfl, by kernel_rfl⟩⟩
def c_impl_isPolicy : ACode := .seq (.reg [⟨(some 2), .box 26 (.tmp 0), none⟩,
  ⟨(some 4), .mv (.const (.bool false)), none⟩])
 (.seq (.reg [⟨(some 6), .mkf 115 [] [(.tmp 2)], none⟩,
  ⟨(some 5), .mv (.tmp 6), none⟩])
 (.seq (.reg [⟨(some 7), .ld (some 6) (.tmp 2), none⟩,
  ⟨(some 8), .call (.func 24) [(.tmp 7)], none⟩,
  ⟨(some 9), .mv (.tmp 8), none⟩,
  ⟨(some 10), .mv (.tmp 1), (some (9, true))⟩,
  ⟨(some 11), .len (.tmp 10), (some (9, true))⟩,
  ⟨(some 12), .fad 0 (.tmp 2), (some (9, true))⟩,
  ⟨(some 13), .ld none (.tmp 12), (some (9, true))⟩,
  ⟨(some 14), .bin .eql (.tmp 11) (.tmp 13), (some (9, true))⟩,
  ⟨(some 15), .pick (.tmp 9) (.tmp 14) (.const (.bool false)), none⟩,
  ⟨(some 16), .mv (.tmp 15), none⟩,
  ⟨(some 17), .mv (.tmp 1), (some (16, true))⟩,
  ⟨(some 18), .mv (.tmp 5), (some (16, true))⟩,
  ⟨(some 19), .call (.func 117) [(.tmp 17), (.tmp 18)], (some (16, true))⟩,
  ⟨(some 20), .un .not (.tmp 19), (some (16, true))⟩,
  ⟨(some 21), .pick (.tmp 16) (.tmp 20) (.const (.bool false)), none⟩,
  ⟨(some 4), .mv (.tmp 21), none⟩])
 (.ret)))
def r_impl_isPolicy : List ARes := [.tmp 4]
theorem ok_impl_isPolicy : FnOk Try.prog 68 22 c_impl_isPolicy r_impl_isPolicy := ⟨⟨Try.f68, _, Try.func68, by kernel_rfl, rfl, rfl, by kernel_rfl, by kernel_rfl⟩⟩
def c_impl_tableBy : ACode := .seq (.reg [⟨(some 2), .box 26 (.tmp 0), none⟩,
  ⟨(some 4), .mv (.const (.slice none 0 0)), none⟩])
 (.seq (.reg [⟨(some 9), .fad 0 (.tmp 2), none⟩,
  ⟨(some 10), .ld none (.tmp 9), none⟩,
  ⟨(some 11), .bin .add (.tmp 10) (.const (.int .i64 1)), none⟩,
  ⟨(some 12), .mks 24 24 [(.slice none 0 0)] (.tmp 11) (.tmp 11), none⟩,
  ⟨(some 5), .mv (.tmp 12), none⟩])
 (.seq (.reg [⟨(some 13), .mv (.tmp 5), none⟩,
  ⟨(some 14), .fad 0 (.tmp 2), none⟩,
  ⟨(some 15), .ld none (.tmp 14), none⟩,
  ⟨(some 16), .mks 3 8 [(.int .i64 0)] (.const (.int .i64 21)) (.const (.int .i64 21)), none⟩,
  ⟨(some 17), .iad 1 (.tmp 13) (.tmp 15), none⟩,
  ⟨none, .st 1 (.tmp 17) (.tmp 16), none⟩])
 (.seq (.seq (.reg [⟨(some 18), .fad 0 (.tmp 2), none⟩,
  ⟨(some 19), .ld none (.tmp 18), none⟩,
  ⟨(some 20), .bin .sub (.tmp 19) (.const (.int .i64 1)), none⟩,
  ⟨(some 6), .mv (.tmp 20), none⟩])
 (.block 0 (.loop (.seq (.seq (.reg [⟨(some 21), .mv (.tmp 6), none⟩,
  ⟨(some 22), .bin .geq (.tmp 21) (.const (.int .i64 0)), none⟩])
 (.cond (.tmp 22) (.skip) (.exit 0)))
 (.seq (.block 1 (.seq (.reg [⟨(some 25), .mv (.tmp 5), none⟩,
  ⟨(some 26), .mv (.tmp 6), none⟩,
  ⟨(some 27), .bin .add (.tmp 26) (.const (.int .i64 1)), none⟩,
  ⟨(some 28), .iad 1 (.tmp 25) (.tmp 27), none⟩,
  ⟨(some 29), .ld none (.tmp 28), none⟩,
  ⟨(some 7), .mv (.tmp 29), none⟩])
 (.seq (.reg [⟨(some 8), .mv (.const (.int .i64 (-10))), none⟩])
 (.block 2 (.loop (.seq (.seq (.reg [⟨(some 30), .mv (.tmp 8), none⟩,
  ⟨(some 31), .bin .leq (.tmp 30) (.const (.int .i64 10)), none⟩])
 (.cond (.tmp 31) (.skip) (.exit 2)))
 (.seq (.block 3 (.reg [⟨(some 34), .mv (.tmp 5), none⟩,
  ⟨(some 35), .mv (.tmp 6), none⟩,
  ⟨(some 36), .mv (.tmp 5), none⟩,
  ⟨(some 37), .mv (.tmp 6), none⟩,
  ⟨(some 38), .iad 1 (.tmp 36) (.tmp 37), none⟩,
  ⟨(some 39), .ld none (.tmp 38), none⟩,
  ⟨(some 40), .ld (some 6) (.tmp 2), none⟩,
  ⟨(some 41), .mv (.tmp 1), none⟩,
  ⟨(some 42), .mv (.tmp 6), none⟩,
  ⟨(some 43), .mv (.tmp 8), none⟩,
  ⟨(some 44), .mv (.tmp 7), none⟩,
  ⟨(some 46), .mv (.tmp 7), none⟩,
  ⟨(some 45), .rcall (.tmp 41) [(.tmp 42), (.tmp 43), (.tmp 44)], none⟩,
  ⟨(some 47), .rcall (.func 118) [(.tmp 40), (.tmp 45), (.tmp 46)], none⟩,
  ⟨(some 48), .bsl 3 1 1 [(.int .i64 0)] [(0, 1, (.tmp 47))], none⟩,
  ⟨(some 49), .app 3 1 8 (.tmp 39) (.tmp 48), none⟩,
  ⟨(some 50), .iad 1 (.tmp 34) (.tmp 35), none⟩,
  ⟨none, .st 1 (.tmp 50) (.tmp 49), none⟩]))
 (.reg [⟨(some 32), .mv (.tmp 8), none⟩,
  ⟨(some 33), .bin .add (.tmp 32) (.const (.int .i64 1)), none⟩,
  ⟨(some 8), .mv (.tmp 33), none⟩]))))))))
 (.reg [⟨(some 23), .mv (.tmp 6), none⟩,
  ⟨(some 24), .bin .sub (.tmp 23) (.const (.int .i64 1)), none⟩,
  ⟨(some 6), .mv (.tmp 24), none⟩]))))))
 (.seq (.reg [⟨(some 51), .mv (.tmp 5), none⟩,
  ⟨(some 4), .mv (.tmp 51), none⟩])
 (.ret)))))
def r_impl_tableBy : List ARes := [.tmp 4]
theorem ok_impl_tableBy : FnOk Try.prog 69 52 c_impl_tableBy r_impl_tableBy := ⟨⟨Try.f69, _, Try.func69, by kernel_rfl, rfl, rfl, by kernel_rfl, by kernel_rfl⟩⟩
def c_impl_PolicyWorth_1 : ACode := .seq (.reg [⟨(some 8), .alc 83 [(.int .i64 0), (.int .i64 0), (.int .i64 0)], none⟩])
 (.seq (.reg [⟨(some 9), .mv (.tmp 0), none⟩,
  ⟨(some 10), .mv (.tmp 1), none⟩,
  ⟨(some 11), .ld (some 6) (.tmp 3), none⟩,
  ⟨(some 12), .ld none (.tmp 4), none⟩,
  ⟨(some 13), .mv (.tmp 0), none⟩,
  ⟨(some 14), .iad 2 (.tmp 12) (.tmp 13), none⟩,
  ⟨(some 15), .ld (some 2) (.tmp 14), none⟩,
  ⟨(some 16), .mv (.tmp 1), none⟩,
  ⟨(some 17), .rcall (.func 71) [(.tmp 11), (.tmp 15), (.tmp 16)], none⟩,
  ⟨(some 18), .bld [(.int .i64 0), (.int .i64 0), (.int .i64 0)] [(0, 1, (.tmp 9)), (1, 1, (.tmp 10)), (2, 1, (.tmp 17))], none⟩,
  ⟨none, .st 3 (.tmp 8) (.tmp 18), none⟩])
 (.ret))
def r_impl_PolicyWorth_1 : List ARes := [.cell 8 (some 3)]
theorem ok_impl_PolicyWorth_1 : FnOk Try.prog 70 19 c_impl_PolicyWorth_1 r_impl_PolicyWorth_1 := ⟨⟨Try.f70, _, Try.func70, by kernel_rfl, rfl, rfl, by kernel_rfl, by kernel_rfl⟩⟩
def c_impl_policyOrder : ACode := .seq (.reg [⟨(some 3), .box 26 (.tmp 0), none⟩,
  ⟨(some 4), .box 46 (.tmp 1), none⟩,
  ⟨(some 6), .mv (.const (.int .i64 0)), none⟩])
 (.seq (.seq (.reg [⟨(some 7), .mv (.tmp 2), none⟩,
  ⟨(some 8), .iada 1 2 (.tmp 4) (.const (.int .i64 0)), none⟩,
  ⟨(some 9), .ld none (.tmp 8), none⟩,
  ⟨(some 10), .bin .lss (.tmp 7) (.tmp 9), none⟩,
  ⟨(some 11), .mv (.tmp 10), none⟩,
  ⟨(some 12), .mv (.tmp 2), (some (11, false))⟩,
  ⟨(some 13), .ld (some 6) (.tmp 3), (some (11, false))⟩,
  ⟨(some 14), .call (.func 116) [(.tmp 13)], (some (11, false))⟩,
  ⟨(some 15), .bin .lss (.tmp 12) (.tmp 14), (some (11, false))⟩,
  ⟨(some 16), .pick (.tmp 11) (.const (.bool true)) (.tmp 15), none⟩])
 (.cond (.tmp 16) (.seq (.reg [⟨(some 17), .iada 1 2 (.tmp 4) (.const (.int .i64 1)), none⟩,
  ⟨(some 18), .ld none (.tmp 17), none⟩,
  ⟨(some 6), .mv (.tmp 18), none⟩])
 (.ret)) (.skip)))
 (.seq (.reg [⟨(some 19), .mv (.tmp 2), none⟩,
  ⟨(some 6), .mv (.tmp 19), none⟩])
 (.ret)))
def r_impl_policyOrder : List ARes := [.tmp 6]
theorem ok_impl_policyOrder : FnOk Try.prog 71 20 c_impl_policyOrder r_impl_policyOrder := ⟨⟨Try.f71, _, Try.func71, by kernel_rfl, rfl, rfl, by kernel_rfl, by kernel_rfl⟩⟩
def c_spec_l6Good : ACode := .seq (.reg [⟨(some 1), .box 26 (.tmp 0), none⟩,
  ⟨(some 2), .mv (.const (.bool false)), none⟩])
 (.seq (.reg [⟨(some 3), .fad 0 (.tmp 1), none⟩,
  ⟨(some 4), .ld none (.tmp 3), none⟩,
  ⟨(some 5), .call (.func 89) [(.tmp 4), (.const (.int .i64 0)), (.const (.int .i64 5))], none⟩,
  ⟨(some 6), .mv (.tmp 5), none⟩,
  ⟨(some 7), .fad 1 (.tmp 1), (some (6, true))⟩,
  ⟨(some 8), .ld none (.tmp 7), (some (6, true))⟩,
  ⟨(some 9), .len (.tmp 8), (some (6, true))⟩,
  ⟨(some 10), .call (.func 89) [(.tmp 9), (.const (.int .i64 1)), (.const (.int .i64 5))], (some (6, true))⟩,
  ⟨(some 11), .pick (.tmp 6) (.tmp 10) (.const (.bool false)), none⟩,
  ⟨(some 12), .mv (.tmp 11), none⟩,
  ⟨(some 13), .fad 1 (.tmp 1), (some (12, true))⟩,
  ⟨(some 14), .ld none (.tmp 13), (some (12, true))⟩,
  ⟨(some 15), .fad 1 (.tmp 1), (some (12, true))⟩,
  ⟨(some 16), .ld none (.tmp 15), (some (12, true))⟩,
  ⟨(some 17), .len (.tmp 16), (some (12, true))⟩,
  ⟨(some 18), .call (.func 119) [(.tmp 14), (.tmp 17), (.const (.int .i64 4))], (some (12, true))⟩,
  ⟨(some 19), .pick (.tmp 12) (.tmp 18) (.const (.bool false)), none⟩,
  ⟨(some 20), .mv (.tmp 19), none⟩,
  ⟨(some 21), .fad 1 (.tmp 1), (some (20, true))⟩,
  ⟨(some 22), .ld none (.tmp 21), (some (20, true))⟩,
  ⟨(some 23), .call (.func 86) [(.tmp 22)], (some (20, true))⟩,
  ⟨(some 24), .bin .gtr (.tmp 23) (.const (.int .i64 0)), (some (20, true))⟩,
  ⟨(some 25), .pick (.tmp 20) (.tmp 24) (.const (.bool false)), none⟩,
  ⟨(some 26), .mv (.tmp 25), none⟩,
  ⟨(some 27), .fad 2 (.tmp 1), (some (26, true))⟩,
  ⟨(some 28), .ld none (.tmp 27), (some (26, true))⟩,
  ⟨(some 29), .call (.func 89) [(.tmp 28), (.const (.int .i64 0)), (.const (.int .i64 99))], (some (26, true))⟩,
  ⟨(some 30), .pick (.tmp 26) (.tmp 29) (.const (.bool false)), none⟩,
  ⟨(some 31), .mv (.tmp 30), none⟩,
  ⟨(some 32), .fad 3 (.tmp 1), (some (31, true))⟩,
  ⟨(some 33), .ld none (.tmp 32), (some (31, true))⟩,
  ⟨(some 34), .call (.func 89) [(.tmp 33), (.const (.int .i64 0)), (.const (.int .i64 9))], (some (31, true))⟩,
  ⟨(some 35), .pick (.tmp 31) (.tmp 34) (.const (.bool false)), none⟩,
  ⟨(some 36), .mv (.tmp 35), none⟩,
  ⟨(some 37), .fad 4 (.tmp 1), (some (36, true))⟩,
  ⟨(some 38), .ld none (.tmp 37), (some (36, true))⟩,
  ⟨(some 39), .call (.func 89) [(.tmp 38), (.const (.int .i64 0)), (.const (.int .i64 9))], (some (36, true))⟩,
  ⟨(some 40), .pick (.tmp 36) (.tmp 39) (.const (.bool false)), none⟩,
  ⟨(some 41), .mv (.tmp 40), none⟩,
  ⟨(some 42), .fad 5 (.tmp 1), (some (41, true))⟩,
  ⟨(some 43), .ld none (.tmp 42), (some (41, true))⟩,
  ⟨(some 44), .call (.func 89) [(.tmp 43), (.const (.int .i64 0)), (.const (.int .i64 9))], (some (41, true))⟩,
  ⟨(some 45), .pick (.tmp 41) (.tmp 44) (.const (.bool false)), none⟩,
  ⟨(some 2), .mv (.tmp 45), none⟩])
 (.ret))
def r_spec_l6Good : List ARes := [.tmp 2]
theorem ok_spec_l6Good : FnOk Try.prog 72 46 c_spec_l6Good r_spec_l6Good := ⟨⟨Try.f72, _, Try.func72, by kernel_rfl, rfl, rfl, by kernel_rfl, by kernel_rfl⟩⟩
def c_spec_l6Policy : ACode := .seq (.reg [⟨(some 2), .box 26 (.tmp 0), none⟩,
  ⟨(some 4), .mv (.const (.bool false)), none⟩])
 (.seq (.seq (.reg [⟨(some 5), .mv (.const (.int .i64 0)), none⟩])
 (.block 0 (.loop (.seq (.seq (.reg [⟨(some 7), .mv (.tmp 5), none⟩,
  ⟨(some 8), .mv (.tmp 1), none⟩,
  ⟨(some 9), .len (.tmp 8), none⟩,
  ⟨(some 10), .bin .lss (.tmp 7) (.tmp 9), none⟩])
 (.cond (.tmp 10) (.skip) (.exit 0)))
 (.seq (.block 1 (.seq (.reg [⟨(some 13), .mv (.tmp 1), none⟩,
  ⟨(some 14), .mv (.tmp 5), none⟩,
  ⟨(some 15), .iad 2 (.tmp 13) (.tmp 14), none⟩,
  ⟨(some 16), .ld (some 2) (.tmp 15), none⟩,
  ⟨(some 6), .alc 46 [(.int .i64 0), (.int .i64 0)], none⟩,
  ⟨none, .st 2 (.tmp 6) (.tmp 16), none⟩])
 (.seq (.reg [⟨(some 17), .iada 1 2 (.tmp 6) (.const (.int .i64 0)), none⟩,
  ⟨(some 18), .ld none (.tmp 17), none⟩,
  ⟨(some 19), .rcall (.func 99) [(.tmp 18)], none⟩,
  ⟨(some 20), .un .not (.tmp 19), none⟩,
  ⟨(some 21), .mv (.tmp 20), none⟩,
  ⟨(some 22), .iada 1 2 (.tmp 6) (.const (.int .i64 1)), (some (21, false))⟩,
  ⟨(some 23), .ld none (.tmp 22), (some (21, false))⟩,
  ⟨(some 24), .rcall (.func 99) [(.tmp 23)], (some (21, false))⟩,
  ⟨(some 25), .un .not (.tmp 24), (some (21, false))⟩,
  ⟨(some 26), .pick (.tmp 21) (.const (.bool true)) (.tmp 25), none⟩,
  ⟨(some 27), .mv (.tmp 26), none⟩,
  ⟨(some 28), .iada 1 2 (.tmp 6) (.const (.int .i64 0)), (some (27, false))⟩,
  ⟨(some 29), .ld none (.tmp 28), (some (27, false))⟩,
  ⟨(some 30), .iada 1 2 (.tmp 6) (.const (.int .i64 1)), (some (27, false))⟩,
  ⟨(some 31), .ld none (.tmp 30), (some (27, false))⟩,
  ⟨(some 32), .bin .gtr (.tmp 29) (.tmp 31), (some (27, false))⟩,
  ⟨(some 33), .pick (.tmp 27) (.const (.bool true)) (.tmp 32), none⟩,
  ⟨(some 34), .mv (.tmp 33), none⟩,
  ⟨(some 35), .iada 1 2 (.tmp 6) (.const (.int .i64 1)), (some (34, false))⟩,
  ⟨(some 36), .ld none (.tmp 35), (some (34, false))⟩,
  ⟨(some 37), .ld (some 6) (.tmp 2), (some (34, false))⟩,
  ⟨(some 38), .rcall (.func 120) [(.tmp 37)], (some (34, false))⟩,
  ⟨(some 39), .bin .lss (.tmp 36) (.tmp 38), (some (34, false))⟩,
  ⟨(some 40), .pick (.tmp 34) (.const (.bool true)) (.tmp 39), none⟩])
 (.cond (.tmp 40) (.seq (.reg [⟨(some 4), .mv (.const (.bool false)), none⟩])
 (.ret)) (.skip)))))
 (.reg [⟨(some 11), .mv (.tmp 5), none⟩,
  ⟨(some 12), .bin .add (.tmp 11) (.const (.int .i64 1)), none⟩,
  ⟨(some 5), .mv (.tmp 12), none⟩]))))))
 (.seq (.reg [⟨(some 41), .mv (.tmp 1), none⟩,
  ⟨(some 42), .len (.tmp 41), none⟩,
  ⟨(some 43), .fad 0 (.tmp 2), none⟩,
  ⟨(some 44), .ld none (.tmp 43), none⟩,
  ⟨(some 45), .bin .eql (.tmp 42) (.tmp 44), none⟩,
  ⟨(some 4), .mv (.tmp 45), none⟩])
 (.ret)))
def r_spec_l6Policy : List ARes := [.tmp 4]
theorem ok_spec_l6Policy : FnOk Try.prog 73 46 c_spec_l6Policy r_spec_l6Policy := ⟨⟨Try.f73, _, Try.func73, by kernel_rfl, rfl, rfl, by kernel_rfl, by kernel_rfl⟩⟩
def c_spec_l6Up : ACode := .seq (.reg [⟨(some 3), .box 26 (.tmp 0), none⟩,
  ⟨(some 4), .box 46 (.tmp 1), none⟩,
  ⟨(some 6), .mv (.const (.int .i64 0)), none⟩])
 (.seq (.seq (.reg [⟨(some 7), .mv (.tmp 2), none⟩,
  ⟨(some 8), .iada 1 2 (.tmp 4) (.const (.int .i64 0)), none⟩,
  ⟨(some 9), .ld none (.tmp 8), none⟩,
  ⟨(some 10), .bin .lss (.tmp 7) (.tmp 9), none⟩,
  ⟨(some 11), .mv (.tmp 10), none⟩,
  ⟨(some 12), .mv (.tmp 2), (some (11, false))⟩,
  ⟨(some 13), .ld (some 6) (.tmp 3), (some (11, false))⟩,
  ⟨(some 14), .call (.func 120) [(.tmp 13)], (some (11, false))⟩,
  ⟨(some 15), .bin .lss (.tmp 12) (.tmp 14), (some (11, false))⟩,
  ⟨(some 16), .pick (.tmp 11) (.const (.bool true)) (.tmp 15), none⟩])
 (.cond (.tmp 16) (.seq (.reg [⟨(some 17), .iada 1 2 (.tmp 4) (.const (.int .i64 1)), none⟩,
  ⟨(some 18), .ld none (.tmp 17), none⟩,
  ⟨(some 6), .mv (.tmp 18), none⟩])
 (.ret)) (.skip)))
 (.seq (.reg [⟨(some 19), .mv (.tmp 2), none⟩,
  ⟨(some 6), .mv (.tmp 19), none⟩])
 (.ret)))
def r_spec_l6Up : List ARes := [.tmp 6]
theorem ok_spec_l6Up : FnOk Try.prog 74 20 c_spec_l6Up r_spec_l6Up := ⟨⟨Try.f74, _, Try.func74, by kernel_rfl, rfl, rfl, by kernel_rfl, by kernel_rfl⟩⟩
def c_spec_l6Order : ACode := .seq (.reg [⟨(some 3), .box 26 (.tmp 0), none⟩,
  ⟨(some 6), .mv (.const (.int .i64 0)), none⟩])
 (.seq (.seq (.reg [⟨(some 7), .mv (.tmp 2), none⟩,
  ⟨(some 8), .mv (.tmp 1), none⟩,
  ⟨(some 9), .bin .gtr (.tmp 7) (.tmp 8), none⟩])
 (.cond (.tmp 9) (.seq (.reg [⟨(some 10), .fad 2 (.tmp 3), none⟩,
  ⟨(some 11), .ld none (.tmp 10), none⟩,
  ⟨(some 12), .fad 3 (.tmp 3), none⟩,
  ⟨(some 13), .ld none (.tmp 12), none⟩,
  ⟨(some 14), .mv (.tmp 2), none⟩,
  ⟨(some 15), .mv (.tmp 1), none⟩,
  ⟨(some 16), .bin .sub (.tmp 14) (.tmp 15), none⟩,
  ⟨(some 17), .bin .mul (.tmp 13) (.tmp 16), none⟩,
  ⟨(some 18), .bin .add (.tmp 11) (.tmp 17), none⟩,
  ⟨(some 6), .mv (.tmp 18), none⟩])
 (.ret)) (.skip)))
 (.seq (.reg [⟨(some 6), .mv (.const (.int .i64 0)), none⟩])
 (.ret)))
def r_spec_l6Order : List ARes := [.tmp 6]
theorem ok_spec_l6Order : FnOk Try.prog 75 19 c_spec_l6Order r_spec_l6Order := ⟨⟨Try.f75, _, Try.func75, by kernel_rfl, rfl, rfl, by kernel_rfl, by kernel_rfl⟩⟩
def c_spec_l6Power : ACode := .seq (.reg [⟨(some 2), .box 26 (.tmp 0), none⟩,
  ⟨(some 4), .mv (.const (.int .i64 0)), none⟩])
 (.seq (.reg [⟨(some 8), .fad 1 (.tmp 2), none⟩,
  ⟨(some 9), .ld none (.tmp 8), none⟩,
  ⟨(some 10), .call (.func 86) [(.tmp 9)], none⟩,
  ⟨(some 5), .mv (.const (.int .i64 1)), none⟩,
  ⟨(some 6), .mv (.tmp 10), none⟩])
 (.seq (.seq (.reg [⟨(some 7), .mv (.const (.int .i64 0)), none⟩])
 (.block 0 (.loop (.seq (.seq (.reg [⟨(some 11), .mv (.tmp 7), none⟩,
  ⟨(some 12), .mv (.tmp 1), none⟩,
  ⟨(some 13), .bin .lss (.tmp 11) (.tmp 12), none⟩])
 (.cond (.tmp 13) (.skip) (.exit 0)))
 (.seq (.block 1 (.reg [⟨(some 16), .mv (.tmp 5), none⟩,
  ⟨(some 17), .mv (.tmp 6), none⟩,
  ⟨(some 18), .bin .mul (.tmp 16) (.tmp 17), none⟩,
  ⟨(some 5), .mv (.tmp 18), none⟩]))
 (.reg [⟨(some 14), .mv (.tmp 7), none⟩,
  ⟨(some 15), .bin .add (.tmp 14) (.const (.int .i64 1)), none⟩,
  ⟨(some 7), .mv (.tmp 15), none⟩]))))))
 (.seq (.reg [⟨(some 19), .mv (.tmp 5), none⟩,
  ⟨(some 4), .mv (.tmp 19), none⟩])
 (.ret))))
def r_spec_l6Power : List ARes := [.tmp 4]
theorem ok_spec_l6Power : FnOk Try.prog 76 20 c_spec_l6Power r_spec_l6Power := ⟨⟨Try.f76, _, Try.func76, by kernel_rfl, rfl, rfl, by kernel_rfl, by kernel_rfl⟩⟩
def c_spec_l6After : ACode := .seq (.reg [⟨(some 4), .box 26 (.tmp 0), none⟩,
  ⟨(some 8), .mv (.const (.int .i64 0)), none⟩])
 (.seq (.reg [⟨(some 9), .mv (.const (.int .i64 0)), none⟩])
 (.seq (.seq (.reg [⟨(some 10), .mv (.const (.int .i64 0)), none⟩])
 (.block 0 (.loop (.seq (.seq (.reg [⟨(some 11), .mv (.tmp 10), none⟩,
  ⟨(some 12), .fad 1 (.tmp 4), none⟩,
  ⟨(some 13), .ld none (.tmp 12), none⟩,
  ⟨(some 14), .len (.tmp 13), none⟩,
  ⟨(some 15), .bin .lss (.tmp 11) (.tmp 14), none⟩])
 (.cond (.tmp 15) (.skip) (.exit 0)))
 (.seq (.block 1 (.reg [⟨(some 18), .mv (.tmp 9), none⟩,
  ⟨(some 19), .fad 1 (.tmp 4), none⟩,
  ⟨(some 20), .ld none (.tmp 19), none⟩,
  ⟨(some 21), .mv (.tmp 10), none⟩,
  ⟨(some 22), .iad 1 (.tmp 20) (.tmp 21), none⟩,
  ⟨(some 23), .ld none (.tmp 22), none⟩,
  ⟨(some 24), .ld (some 6) (.tmp 4), none⟩,
  ⟨(some 25), .mv (.tmp 2), none⟩,
  ⟨(some 26), .mv (.tmp 10), none⟩,
  ⟨(some 27), .bin .sub (.tmp 25) (.tmp 26), none⟩,
  ⟨(some 29), .ld (some 6) (.tmp 4), none⟩,
  ⟨(some 30), .mv (.tmp 3), none⟩,
  ⟨(some 31), .bin .sub (.tmp 30) (.const (.int .i64 1)), none⟩,
  ⟨(some 34), .mv (.tmp 1), none⟩,
  ⟨(some 35), .mv (.tmp 2), none⟩,
  ⟨(some 36), .mv (.tmp 10), none⟩,
  ⟨(some 37), .bin .sub (.tmp 35) (.tmp 36), none⟩,
  ⟨(some 38), .bin .add (.tmp 37) (.const (.int .i64 10)), none⟩,
  ⟨(some 39), .iad 1 (.tmp 34) (.tmp 38), none⟩,
  ⟨(some 40), .ld none (.tmp 39), none⟩,
  ⟨(some 28), .rcall (.func 110) [(.tmp 24), (.tmp 27)], none⟩,
  ⟨(some 32), .rcall (.func 76) [(.tmp 29), (.tmp 31)], none⟩,
  ⟨(some 33), .bin .mul (.tmp 28) (.tmp 32), none⟩,
  ⟨(some 41), .bin .add (.tmp 33) (.tmp 40), none⟩,
  ⟨(some 42), .bin .mul (.tmp 23) (.tmp 41), none⟩,
  ⟨(some 43), .bin .add (.tmp 18) (.tmp 42), none⟩,
  ⟨(some 9), .mv (.tmp 43), none⟩]))
 (.reg [⟨(some 16), .mv (.tmp 10), none⟩,
  ⟨(some 17), .bin .add (.tmp 16) (.const (.int .i64 1)), none⟩,
  ⟨(some 10), .mv (.tmp 17), none⟩]))))))
 (.seq (.reg [⟨(some 44), .mv (.tmp 9), none⟩,
  ⟨(some 8), .mv (.tmp 44), none⟩])
 (.ret))))
def r_spec_l6After : List ARes := [.tmp 8]
theorem ok_spec_l6After : FnOk Try.prog 77 45 c_spec_l6After r_spec_l6After := ⟨⟨Try.f77, _, Try.func77, by kernel_rfl, rfl, rfl, by kernel_rfl, by kernel_rfl⟩⟩
def c_impl_isWithin : ACode := .seq (.reg [⟨(some 4), .mv (.const (.bool false)), none⟩])
 (.seq (.reg [⟨(some 5), .mv (.tmp 0), none⟩,
  ⟨(some 6), .bin .geq (.tmp 5) (.const (.int .i64 0)), none⟩,
  ⟨(some 7), .mv (.tmp 6), none⟩,
  ⟨(some 8), .mv (.tmp 0), (some (7, true))⟩,
  ⟨(some 9), .mv (.tmp 1), (some (7, true))⟩,
  ⟨(some 10), .bin .leq (.tmp 8) (.tmp 9), (some (7, true))⟩,
  ⟨(some 11), .pick (.tmp 7) (.tmp 10) (.const (.bool false)), none⟩,
  ⟨(some 4), .mv (.tmp 11), none⟩])
 (.ret))
def r_impl_isWithin : List ARes := [.tmp 4]
theorem ok_impl_isWithin : FnOk Try.prog 78 12 c_impl_isWithin r_impl_isWithin := ⟨⟨Try.f78, _, Try.func78, by kernel_rfl, rfl, rfl, by kernel_rfl, by kernel_rfl⟩⟩
def c_impl_areProcessWeights : ACode := .seq (.reg [⟨(some 2), .mv (.const (.bool false)), none⟩])
 (.seq (.reg [⟨(some 3), .mv (.tmp 0), none⟩,
  ⟨(some 4), .len (.tmp 3), none⟩,
  ⟨(some 5), .bin .leq (.tmp 4) (.const (.int .i64 5)), none⟩,
  ⟨(some 6), .mv (.tmp 5), none⟩,
  ⟨(some 7), .mv (.tmp 0), (some (6, true))⟩,
  ⟨(some 8), .mv (.tmp 0), (some (6, true))⟩,
  ⟨(some 9), .len (.tmp 8), (some (6, true))⟩,
  ⟨(some 10), .call (.func 121) [(.tmp 7), (.tmp 9), (.const (.int .i64 4))], (some (6, true))⟩,
  ⟨(some 11), .pick (.tmp 6) (.tmp 10) (.const (.bool false)), none⟩,
  ⟨(some 12), .mv (.tmp 11), none⟩,
  ⟨(some 13), .mv (.tmp 0), (some (12, true))⟩,
  ⟨(some 14), .call (.func 84) [(.tmp 13)], (some (12, true))⟩,
  ⟨(some 15), .bin .gtr (.tmp 14) (.const (.int .i64 0)), (some (12, true))⟩,
  ⟨(some 16), .pick (.tmp 12) (.tmp 15) (.const (.bool false)), none⟩,
  ⟨(some 2), .mv (.tmp 16), none⟩])
 (.ret))
def r_impl_areProcessWeights : List ARes := [.tmp 2]
theorem ok_impl_areProcessWeights : FnOk Try.prog 79 17 c_impl_areProcessWeights r_impl_areProcessWeights := ⟨⟨Try.f79, _, Try.func79, by kernel_rfl, rfl, rfl, by kernel_rfl, by kernel_rfl⟩⟩
def c_impl_worthTable : ACode := .seq (.reg [⟨(some 1), .box 26 (.tmp 0), none⟩,
  ⟨(some 2), .mv (.const (.slice none 0 0)), none⟩])
 (.seq (.reg [⟨(some 3), .ld (some 6) (.tmp 1), none⟩,
  ⟨(some 4), .mkf 122 [] [(.tmp 1)], none⟩,
  ⟨(some 5), .call (.func 69) [(.tmp 3), (.tmp 4)], none⟩,
  ⟨(some 2), .mv (.tmp 5), none⟩])
 (.ret))
def r_impl_worthTable : List ARes := [.tmp 2]
theorem ok_impl_worthTable : FnOk Try.prog 80 6 c_impl_worthTable r_impl_worthTable := ⟨⟨Try.f80, _, Try.func80, by kernel_rfl, rfl, rfl, by kernel_rfl, by kernel_rfl⟩⟩
def c_spec_l6Worths : ACode := .seq (.reg [⟨(some 1), .box 26 (.tmp 0), none⟩,
  ⟨(some 2), .mv (.const (.slice none 0 0)), none⟩])
 (.seq (.reg [⟨(some 9), .mks 3 8 [(.int .i64 0)] (.const (.int .i64 21)) (.const (.int .i64 21)), none⟩,
  ⟨(some 10), .bsl 24 1 1 [(.slice none 0 0)] [(0, 1, (.tmp 9))], none⟩,
  ⟨(some 3), .mv (.tmp 10), none⟩])
 (.seq (.seq (.reg [⟨(some 11), .fad 0 (.tmp 1), none⟩,
  ⟨(some 12), .ld none (.tmp 11), none⟩,
  ⟨(some 13), .bin .sub (.tmp 12) (.const (.int .i64 1)), none⟩,
  ⟨(some 4), .mv (.tmp 13), none⟩])
 (.block 0 (.loop (.seq (.seq (.reg [⟨(some 14), .mv (.tmp 4), none⟩,
  ⟨(some 15), .bin .geq (.tmp 14) (.const (.int .i64 0)), none⟩])
 (.cond (.tmp 15) (.skip) (.exit 0)))
 (.seq (.block 1 (.seq (.reg [⟨(some 18), .bsl 3 1 0 [] [], none⟩,
  ⟨(some 5), .mv (.tmp 18), none⟩])
 (.seq (.seq (.reg [⟨(some 6), .mv (.const (.int .i64 (-10))), none⟩])
 (.block 2 (.loop (.seq (.seq (.reg [⟨(some 19), .mv (.tmp 6), none⟩,
  ⟨(some 20), .bin .leq (.tmp 19) (.const (.int .i64 10)), none⟩])
 (.cond (.tmp 20) (.skip) (.exit 2)))
 (.seq (.block 3 (.seq (.reg [⟨(some 24), .ld (some 6) (.tmp 1), none⟩,
  ⟨(some 25), .mv (.tmp 3), none⟩,
  ⟨(some 26), .iad 1 (.tmp 25) (.const (.int .i64 0)), none⟩,
  ⟨(some 27), .ld none (.tmp 26), none⟩,
  ⟨(some 28), .mv (.tmp 6), none⟩,
  ⟨(some 29), .fad 0 (.tmp 1), none⟩,
  ⟨(some 30), .ld none (.tmp 29), none⟩,
  ⟨(some 31), .mv (.tmp 4), none⟩,
  ⟨(some 32), .bin .sub (.tmp 30) (.tmp 31), none⟩,
  ⟨(some 33), .rcall (.func 100) [(.tmp 24), (.tmp 27), (.tmp 28), (.tmp 32)], none⟩,
  ⟨(some 23), .mv (.tmp 33), none⟩,
  ⟨(some 34), .ext 0 (.tmp 23), none⟩,
  ⟨(some 35), .ext 1 (.tmp 23), none⟩,
  ⟨(some 7), .mv (.tmp 34), none⟩,
  ⟨(some 8), .mv (.tmp 35), none⟩])
 (.reg [⟨(some 36), .mv (.tmp 5), none⟩,
  ⟨(some 37), .mv (.tmp 8), none⟩,
  ⟨(some 38), .bsl 3 1 1 [(.int .i64 0)] [(0, 1, (.tmp 37))], none⟩,
  ⟨(some 39), .app 3 1 8 (.tmp 36) (.tmp 38), none⟩,
  ⟨(some 5), .mv (.tmp 39), none⟩])))
 (.reg [⟨(some 21), .mv (.tmp 6), none⟩,
  ⟨(some 22), .bin .add (.tmp 21) (.const (.int .i64 1)), none⟩,
  ⟨(some 6), .mv (.tmp 22), none⟩]))))))
 (.reg [⟨(some 40), .mv (.tmp 5), none⟩,
  ⟨(some 41), .bsl 24 1 1 [(.slice none 0 0)] [(0, 1, (.tmp 40))], none⟩,
  ⟨(some 42), .mv (.tmp 3), none⟩,
  ⟨(some 43), .app 24 1 24 (.tmp 41) (.tmp 42), none⟩,
  ⟨(some 3), .mv (.tmp 43), none⟩]))))
 (.reg [⟨(some 16), .mv (.tmp 4), none⟩,
  ⟨(some 17), .bin .sub (.tmp 16) (.const (.int .i64 1)), none⟩,
  ⟨(some 4), .mv (.tmp 17), none⟩]))))))
 (.seq (.reg [⟨(some 44), .mv (.tmp 3), none⟩,
  ⟨(some 2), .mv (.tmp 44), none⟩])
 (.ret))))
def r_spec_l6Worths : List ARes := [.tmp 2]
theorem ok_spec_l6Worths : FnOk Try.prog 81 45 c_spec_l6Worths r_spec_l6Worths := ⟨⟨Try.f81, _, Try.func81, by kernel_rfl, rfl, rfl, by kernel_rfl, by kernel_rfl⟩⟩
def c_impl_bestPair : ACode := .seq (.reg [⟨(some 3), .box 26 (.tmp 0), none⟩,
  ⟨(some 6), .alc 46 [(.int .i64 0), (.int .i64 0)], none⟩])
 (.seq (.reg [⟨(some 12), .ld (some 6) (.tmp 3), none⟩,
  ⟨(some 13), .mv (.tmp 1), none⟩,
  ⟨(some 14), .mv (.tmp 2), none⟩,
  ⟨(some 15), .call (.func 101) [(.tmp 12), (.tmp 13), (.tmp 14)], none⟩,
  ⟨(some 7), .mv (.tmp 15), none⟩])
 (.seq (.reg [⟨(some 16), .mv (.tmp 7), none⟩,
  ⟨(some 17), .call (.func 123) [(.tmp 16)], none⟩,
  ⟨(some 8), .mv (.tmp 17), none⟩])
 (.seq (.seq (.reg [⟨(some 18), .mv (.tmp 8), none⟩]) (.seq (.reg [⟨(some 19), .fad 2 (.tmp 3), none⟩]) (.seq (.reg [⟨(some 20), .ld none (.tmp 19), none⟩]) (.seq (.reg [⟨(some 21), .ld (some 6) (.tmp 3), none⟩]) (.seq (.reg [⟨(some 22), .mv (.tmp 1), none⟩]) (.both (.seq (.reg [⟨(some 23), .rcall (.func 85) [(.tmp 21), (.tmp 22)], none⟩]) (.seq (.reg [⟨(some 24), .bin .mul (.tmp 20) (.tmp 23), none⟩]) (.seq (.reg [⟨(some 25), .bin .add (.tmp 18) (.tmp 24), none⟩]) (.seq (.reg [⟨(some 9), .alc 3 [(.int .i64 0)], none⟩]) (.seq (.reg [⟨none, .st 1 (.tmp 9) (.tmp 25), none⟩]) (.skip)))))) (.seq (.reg [⟨(some 9), .alc 3 [(.int .i64 0)], none⟩]) (.seq (.reg [⟨(some 23), .rcall (.func 85) [(.tmp 21), (.tmp 22)], none⟩]) (.seq (.reg [⟨(some 24), .bin .mul (.tmp 20) (.tmp 23), none⟩]) (.seq (.reg [⟨(some 25), .bin .add (.tmp 18) (.tmp 24), none⟩]) (.seq (.reg [⟨none, .st 1 (.tmp 9) (.tmp 25), none⟩]) (.skip))))))))))))
 (.seq (.reg [⟨(some 26), .mv (.tmp 7), none⟩,
  ⟨(some 27), .mkf 125 [] [(.tmp 9)], none⟩,
  ⟨(some 28), .call (.func 124) [(.tmp 26), (.tmp 27)], none⟩,
  ⟨(some 10), .mv (.tmp 28), none⟩])
 (.seq (.reg [⟨(some 29), .mv (.tmp 7), none⟩,
  ⟨(some 30), .mv (.tmp 8), none⟩,
  ⟨(some 31), .call (.func 126) [(.tmp 29), (.tmp 30)], none⟩,
  ⟨(some 11), .mv (.tmp 31), none⟩])
 (.seq (.reg [⟨(some 32), .ld (some 6) (.tmp 3), none⟩,
  ⟨(some 34), .mv (.tmp 10), none⟩,
  ⟨(some 36), .ld (some 6) (.tmp 3), none⟩,
  ⟨(some 38), .mv (.tmp 11), none⟩,
  ⟨(some 33), .rcall (.func 116) [(.tmp 32)], none⟩,
  ⟨(some 35), .bin .add (.tmp 33) (.tmp 34), none⟩,
  ⟨(some 37), .rcall (.func 116) [(.tmp 36)], none⟩,
  ⟨(some 39), .bin .add (.tmp 37) (.tmp 38), none⟩,
  ⟨(some 40), .bld [(.int .i64 0), (.int .i64 0)] [(0, 1, (.tmp 35)), (1, 1, (.tmp 39))], none⟩,
  ⟨none, .st 2 (.tmp 6) (.tmp 40), none⟩])
 (.ret)))))))
def r_impl_bestPair : List ARes := [.cell 6 (some 2)]
theorem ok_impl_bestPair : FnOk Try.prog 82 41 c_impl_bestPair r_impl_bestPair := ⟨⟨Try.f82, _, Try.func82, by kernel_rfl, rfl, rfl, by kernel_rfl, by kernel_rfl⟩⟩
def c_spec_l6Levels : ACode := .seq (.reg [⟨(some 3), .box 26 (.tmp 0), none⟩,
  ⟨(some 6), .alc 46 [(.int .i64 0), (.int .i64 0)], none⟩])
 (.seq (.reg [⟨(some 11), .ld (some 6) (.tmp 3), none⟩,
  ⟨(some 12), .mv (.tmp 1), none⟩,
  ⟨(some 13), .mv (.tmp 2), none⟩,
  ⟨(some 14), .call (.func 102) [(.tmp 11), (.tmp 12), (.tmp 13)], none⟩,
  ⟨(some 7), .mv (.tmp 14), none⟩,
  ⟨(some 8), .mv (.const (.int .i64 0)), none⟩,
  ⟨(some 9), .mv (.const (.int .i64 0)), none⟩])
 (.seq (.seq (.reg [⟨(some 10), .mv (.const (.int .i64 1)), none⟩])
 (.block 0 (.loop (.seq (.seq (.reg [⟨(some 15), .mv (.tmp 10), none⟩,
  ⟨(some 16), .mv (.tmp 7), none⟩,
  ⟨(some 17), .len (.tmp 16), none⟩,
  ⟨(some 18), .bin .lss (.tmp 15) (.tmp 17), none⟩])
 (.cond (.tmp 18) (.skip) (.exit 0)))
 (.seq (.block 1 (.seq (.reg [⟨(some 21), .mv (.tmp 7), none⟩,
  ⟨(some 22), .mv (.tmp 10), none⟩,
  ⟨(some 23), .iad 1 (.tmp 21) (.tmp 22), none⟩,
  ⟨(some 24), .ld none (.tmp 23), none⟩,
  ⟨(some 25), .mv (.tmp 7), none⟩,
  ⟨(some 26), .mv (.tmp 8), none⟩,
  ⟨(some 27), .iad 1 (.tmp 25) (.tmp 26), none⟩,
  ⟨(some 28), .ld none (.tmp 27), none⟩,
  ⟨(some 29), .bin .lss (.tmp 24) (.tmp 28), none⟩])
 (.cond (.tmp 29) (.reg [⟨(some 30), .mv (.tmp 10), none⟩,
  ⟨(some 8), .mv (.tmp 30), none⟩]) (.skip))))
 (.reg [⟨(some 19), .mv (.tmp 10), none⟩,
  ⟨(some 20), .bin .add (.tmp 19) (.const (.int .i64 1)), none⟩,
  ⟨(some 10), .mv (.tmp 20), none⟩]))))))
 (.seq (.block 2 (.loop (.seq (.seq (.reg [⟨(some 31), .mv (.tmp 7), none⟩,
  ⟨(some 32), .mv (.tmp 9), none⟩,
  ⟨(some 33), .iad 1 (.tmp 31) (.tmp 32), none⟩,
  ⟨(some 34), .ld none (.tmp 33), none⟩,
  ⟨(some 35), .mv (.tmp 7), none⟩,
  ⟨(some 36), .mv (.tmp 8), none⟩,
  ⟨(some 37), .iad 1 (.tmp 35) (.tmp 36), none⟩,
  ⟨(some 38), .ld none (.tmp 37), none⟩,
  ⟨(some 39), .fad 2 (.tmp 3), none⟩,
  ⟨(some 40), .ld none (.tmp 39), none⟩,
  ⟨(some 41), .ld (some 6) (.tmp 3), none⟩,
  ⟨(some 42), .fad 0 (.tmp 3), none⟩,
  ⟨(some 43), .ld none (.tmp 42), none⟩,
  ⟨(some 44), .mv (.tmp 2), none⟩,
  ⟨(some 45), .bin .sub (.tmp 43) (.tmp 44), none⟩,
  ⟨(some 46), .rcall (.func 76) [(.tmp 41), (.tmp 45)], none⟩,
  ⟨(some 47), .bin .mul (.tmp 40) (.tmp 46), none⟩,
  ⟨(some 48), .bin .add (.tmp 38) (.tmp 47), none⟩,
  ⟨(some 49), .bin .gtr (.tmp 34) (.tmp 48), none⟩])
 (.cond (.tmp 49) (.skip) (.exit 2)))
 (.block 3 (.reg [⟨(some 50), .mv (.tmp 9), none⟩,
  ⟨(some 51), .bin .add (.tmp 50) (.const (.int .i64 1)), none⟩,
  ⟨(some 9), .mv (.tmp 51), none⟩])))))
 (.seq (.reg [⟨(some 52), .mv (.tmp 9), none⟩,
  ⟨(some 53), .ld (some 6) (.tmp 3), none⟩,
  ⟨(some 56), .mv (.tmp 8), none⟩,
  ⟨(some 57), .ld (some 6) (.tmp 3), none⟩,
  ⟨(some 54), .rcall (.func 120) [(.tmp 53)], none⟩,
  ⟨(some 55), .bin .add (.tmp 52) (.tmp 54), none⟩,
  ⟨(some 58), .rcall (.func 120) [(.tmp 57)], none⟩,
  ⟨(some 59), .bin .add (.tmp 56) (.tmp 58), none⟩,
  ⟨(some 60), .bld [(.int .i64 0), (.int .i64 0)] [(0, 1, (.tmp 55)), (1, 1, (.tmp 59))], none⟩,
  ⟨none, .st 2 (.tmp 6) (.tmp 60), none⟩])
 (.ret)))))
def r_spec_l6Levels : List ARes := [.cell 6 (some 2)]
theorem ok_spec_l6Levels : FnOk Try.prog 83 61 c_spec_l6Levels r_spec_l6Levels := ⟨⟨Try.f83, _, Try.func83, by kernel_rfl, rfl, rfl, by kernel_rfl, by kernel_rfl⟩⟩
def c_impl_sumOf : ACode := .seq (.reg [⟨(some 2), .mv (.const (.int .i64 0)), none⟩])
 (.seq (.reg [⟨(some 3), .mv (.const (.int .i64 0)), none⟩])
 (.seq (.seq (.reg [⟨(some 6), .mv (.tmp 0), none⟩,
  ⟨(some 7), .len (.tmp 6), none⟩,
  ⟨(some 8), .mv (.const (.int .i64 0)), none⟩])
 (.block 0 (.loop (.seq (.reg [⟨(some 9), .bin .lss (.tmp 8) (.tmp 7), none⟩])
 (.seq (.cond (.tmp 9) (.skip) (.exit 0))
 (.seq (.block 1 (.seq (.reg [⟨(some 10), .iad 1 (.tmp 6) (.tmp 8), none⟩,
  ⟨(some 11), .ld none (.tmp 10), none⟩,
  ⟨(some 5), .mv (.tmp 11), none⟩])
 (.reg [⟨(some 12), .mv (.tmp 3), none⟩,
  ⟨(some 13), .mv (.tmp 5), none⟩,
  ⟨(some 14), .bin .add (.tmp 12) (.tmp 13), none⟩,
  ⟨(some 3), .mv (.tmp 14), none⟩])))
 (.reg [⟨(some 15), .bin .add (.tmp 8) (.const (.int .i64 1)), none⟩,
  ⟨(some 8), .mv (.tmp 15), none⟩])))))))
 (.seq (.reg [⟨(some 16), .mv (.tmp 3), none⟩,
  ⟨(some 2), .mv (.tmp 16), none⟩])
 (.ret))))
def r_impl_sumOf : List ARes := [.tmp 2]
theorem ok_impl_sumOf : FnOk Try.prog 84 17 c_impl_sumOf r_impl_sumOf := ⟨⟨Try.f84, _, Try.func84, by kernel_rfl, rfl, rfl, by kernel_rfl, by kernel_rfl⟩⟩
def c_impl_powerFrom : ACode := .seq (.reg [⟨(some 2), .box 26 (.tmp 0), none⟩,
  ⟨(some 4), .mv (.const (.int .i64 0)), none⟩])
 (.seq (.reg [⟨(some 5), .mv (.const (.int .i64 1)), none⟩])
 (.seq (.seq (.reg [⟨(some 6), .fad 0 (.tmp 2), none⟩,
  ⟨(some 7), .ld none (.tmp 6), none⟩,
  ⟨(some 8), .mv (.tmp 1), none⟩,
  ⟨(some 9), .bin .sub (.tmp 7) (.tmp 8), none⟩,
  ⟨(some 10), .mv (.const (.int .i64 0)), none⟩])
 (.block 0 (.loop (.seq (.reg [⟨(some 11), .bin .lss (.tmp 10) (.tmp 9), none⟩])
 (.seq (.cond (.tmp 11) (.skip) (.exit 0))
 (.seq (.block 1 (.reg [⟨(some 12), .mv (.tmp 5), none⟩,
  ⟨(some 13), .fad 1 (.tmp 2), none⟩,
  ⟨(some 14), .ld none (.tmp 13), none⟩,
  ⟨(some 15), .call (.func 84) [(.tmp 14)], none⟩,
  ⟨(some 16), .bin .mul (.tmp 12) (.tmp 15), none⟩,
  ⟨(some 5), .mv (.tmp 16), none⟩]))
 (.reg [⟨(some 17), .bin .add (.tmp 10) (.const (.int .i64 1)), none⟩,
  ⟨(some 10), .mv (.tmp 17), none⟩])))))))
 (.seq (.reg [⟨(some 18), .mv (.tmp 5), none⟩,
  ⟨(some 4), .mv (.tmp 18), none⟩])
 (.ret))))
def r_impl_powerFrom : List ARes := [.tmp 4]
theorem ok_impl_powerFrom : FnOk Try.prog 85 19 c_impl_powerFrom r_impl_powerFrom := ⟨⟨Try.f85, _, Try.func85, by kernel_rfl, rfl, rfl, by kernel_rfl, by kernel_rfl⟩⟩
def c_spec_l2Sum : ACode := .seq (.reg [⟨(some 2), .mv (.const (.int .i64 0)), none⟩])
 (.seq (.reg [⟨(some 3), .mv (.const (.int .i64 0)), none⟩])
 (.seq (.seq (.reg [⟨(some 4), .mv (.const (.int .i64 0)), none⟩])
 (.block 0 (.loop (.seq (.seq (.reg [⟨(some 5), .mv (.tmp 4), none⟩,
  ⟨(some 6), .mv (.tmp 0), none⟩,
  ⟨(some 7), .len (.tmp 6), none⟩,
  ⟨(some 8), .bin .lss (.tmp 5) (.tmp 7), none⟩])
 (.cond (.tmp 8) (.skip) (.exit 0)))
 (.seq (.block 1 (.reg [⟨(some 11), .mv (.tmp 3), none⟩,
  ⟨(some 12), .mv (.tmp 0), none⟩,
  ⟨(some 13), .mv (.tmp 4), none⟩,
  ⟨(some 14), .iad 1 (.tmp 12) (.tmp 13), none⟩,
  ⟨(some 15), .ld none (.tmp 14), none⟩,
  ⟨(some 16), .bin .add (.tmp 11) (.tmp 15), none⟩,
  ⟨(some 3), .mv (.tmp 16), none⟩]))
 (.reg [⟨(some 9), .mv (.tmp 4), none⟩,
  ⟨(some 10), .bin .add (.tmp 9) (.const (.int .i64 1)), none⟩,
  ⟨(some 4), .mv (.tmp 10), none⟩]))))))
 (.seq (.reg [⟨(some 17), .mv (.tmp 3), none⟩,
  ⟨(some 2), .mv (.tmp 17), none⟩])
 (.ret))))
def r_spec_l2Sum : List ARes := [.tmp 2]
theorem ok_spec_l2Sum : FnOk Try.prog 86 18 c_spec_l2Sum r_spec_l2Sum := ⟨⟨Try.f86, _, Try.func86, by kernel_rfl, rfl, rfl, by kernel_rfl, by kernel_rfl⟩⟩
def c_impl_areValues : ACode := .seq (.reg [⟨(some 2), .mv (.const (.bool false)), none⟩])
 (.seq (.reg [⟨(some 3), .mv (.func 127), none⟩])
 (.seq (.reg [⟨(some 4), .mv (.tmp 0), none⟩,
  ⟨(some 5), .mv (.tmp 3), none⟩,
  ⟨(some 6), .call (.func 129) [(.tmp 4), (.tmp 5)], none⟩,
  ⟨(some 7), .un .not (.tmp 6), none⟩,
  ⟨(some 2), .mv (.tmp 7), none⟩])
 (.ret)))
def r_impl_areValues : List ARes := [.tmp 2]
theorem ok_impl_areValues : FnOk Try.prog 87 8 c_impl_areValues r_impl_areValues := ⟨⟨Try.f87, _, Try.func87, by kernel_rfl, rfl, rfl, by kernel_rfl, by kernel_rfl⟩⟩
def c_impl_isConvexAt : ACode := .seq (.reg [⟨(some 6), .mv (.const (.bool false)), none⟩])
 (.seq (.seq (.reg [⟨(some 7), .mv (.const (.int .i64 1)), none⟩])
 (.block 0 (.loop (.seq (.seq (.reg [⟨(some 9), .mv (.tmp 7), none⟩,
  ⟨(some 10), .mv (.tmp 2), none⟩,
  ⟨(some 11), .bin .leq (.tmp 9) (.tmp 10), none⟩])
 (.cond (.tmp 11) (.skip) (.exit 0)))
 (.seq (.block 1 (.seq (.reg [⟨(some 8), .mv (.const (.int .i64 1)), none⟩])
 (.block 2 (.loop (.seq (.seq (.reg [⟨(some 14), .mv (.tmp 2), none⟩,
  ⟨(some 15), .mv (.tmp 8), none⟩,
  ⟨(some 16), .bin .add (.tmp 14) (.tmp 15), none⟩,
  ⟨(some 17), .mv (.tmp 0), none⟩,
  ⟨(some 18), .len (.tmp 17), none⟩,
  ⟨(some 19), .bin .lss (.tmp 16) (.tmp 18), none⟩])
 (.cond (.tmp 19) (.skip) (.exit 2)))
 (.seq (.block 3 (.seq (.reg [⟨(some 22), .mv (.tmp 7), none⟩,
  ⟨(some 23), .mv (.tmp 1), none⟩,
  ⟨(some 24), .mv (.tmp 0), none⟩,
  ⟨(some 25), .mv (.tmp 2), none⟩,
  ⟨(some 26), .mv (.tmp 8), none⟩,
  ⟨(some 27), .bin .add (.tmp 25) (.tmp 26), none⟩,
  ⟨(some 28), .iad 1 (.tmp 24) (.tmp 27), none⟩,
  ⟨(some 29), .ld none (.tmp 28), none⟩,
  ⟨(some 30), .bin .add (.tmp 23) (.tmp 29), none⟩,
  ⟨(some 31), .bin .mul (.tmp 22) (.tmp 30), none⟩,
  ⟨(some 32), .mv (.tmp 7), none⟩,
  ⟨(some 33), .mv (.tmp 0), none⟩,
  ⟨(some 34), .mv (.tmp 2), none⟩,
  ⟨(some 35), .iad 1 (.tmp 33) (.tmp 34), none⟩,
  ⟨(some 36), .ld none (.tmp 35), none⟩,
  ⟨(some 37), .bin .mul (.tmp 32) (.tmp 36), none⟩,
  ⟨(some 38), .mv (.tmp 8), none⟩,
  ⟨(some 39), .mv (.tmp 0), none⟩,
  ⟨(some 40), .mv (.tmp 2), none⟩,
  ⟨(some 41), .iad 1 (.tmp 39) (.tmp 40), none⟩,
  ⟨(some 42), .ld none (.tmp 41), none⟩,
  ⟨(some 43), .mv (.tmp 0), none⟩,
  ⟨(some 44), .mv (.tmp 2), none⟩,
  ⟨(some 45), .mv (.tmp 7), none⟩,
  ⟨(some 46), .bin .sub (.tmp 44) (.tmp 45), none⟩,
  ⟨(some 47), .iad 1 (.tmp 43) (.tmp 46), none⟩,
  ⟨(some 48), .ld none (.tmp 47), none⟩,
  ⟨(some 49), .bin .sub (.tmp 42) (.tmp 48), none⟩,
  ⟨(some 50), .bin .mul (.tmp 38) (.tmp 49), none⟩,
  ⟨(some 51), .bin .add (.tmp 37) (.tmp 50), none⟩,
  ⟨(some 52), .bin .lss (.tmp 31) (.tmp 51), none⟩])
 (.cond (.tmp 52) (.seq (.reg [⟨(some 6), .mv (.const (.bool false)), none⟩])
 (.ret)) (.skip))))
 (.reg [⟨(some 20), .mv (.tmp 8), none⟩,
  ⟨(some 21), .bin .add (.tmp 20) (.const (.int .i64 1)), none⟩,
  ⟨(some 8), .mv (.tmp 21), none⟩])))))))
 (.reg [⟨(some 12), .mv (.tmp 7), none⟩,
  ⟨(some 13), .bin .add (.tmp 12) (.const (.int .i64 1)), none⟩,
  ⟨(some 7), .mv (.tmp 13), none⟩]))))))
 (.seq (.reg [⟨(some 6), .mv (.const (.bool true)), none⟩])
 (.ret)))
def r_impl_isConvexAt : List ARes := [.tmp 6]
theorem ok_impl_isConvexAt : FnOk Try.prog 88 53 c_impl_isConvexAt r_impl_isConvexAt := ⟨⟨Try.f88, _, Try.func88, by kernel_rfl, rfl, rfl, by kernel_rfl, by kernel_rfl⟩⟩
def c_spec_l1In : ACode := .seq (.reg [⟨(some 6), .mv (.const (.bool false)), none⟩])
 (.seq (.reg [⟨(some 7), .mv (.tmp 0), none⟩,
  ⟨(some 8), .mv (.tmp 1), none⟩,
  ⟨(some 9), .bin .geq (.tmp 7) (.tmp 8), none⟩,
  ⟨(some 10), .mv (.tmp 9), none⟩,
  ⟨(some 11), .mv (.tmp 0), (some (10, true))⟩,
  ⟨(some 12), .mv (.tmp 2), (some (10, true))⟩,
  ⟨(some 13), .bin .leq (.tmp 11) (.tmp 12), (some (10, true))⟩,
  ⟨(some 14), .pick (.tmp 10) (.tmp 13) (.const (.bool false)), none⟩,
  ⟨(some 6), .mv (.tmp 14), none⟩])
 (.ret))
def r_spec_l1In : List ARes := [.tmp 6]
theorem ok_spec_l1In : FnOk Try.prog 89 15 c_spec_l1In r_spec_l1In := ⟨⟨Try.f89, _, Try.func89, by kernel_rfl, rfl, rfl, by kernel_rfl, by kernel_rfl⟩⟩
def c_impl_isValueTable : ACode := .seq (.reg [⟨(some 2), .box 26 (.tmp 0), none⟩,
  ⟨(some 4), .mv (.const (.bool false)), none⟩])
 (.seq (.reg [⟨(some 5), .mv (.func 130), none⟩])
 (.seq (.reg [⟨(some 6), .mv (.tmp 1), none⟩,
  ⟨(some 7), .len (.tmp 6), none⟩,
  ⟨(some 8), .fad 0 (.tmp 2), none⟩,
  ⟨(some 9), .ld none (.tmp 8), none⟩,
  ⟨(some 10), .bin .add (.tmp 9) (.const (.int .i64 1)), none⟩,
  ⟨(some 11), .bin .eql (.tmp 7) (.tmp 10), none⟩,
  ⟨(some 12), .mv (.tmp 11), none⟩,
  ⟨(some 13), .mv (.tmp 1), (some (12, true))⟩,
  ⟨(some 14), .mv (.tmp 5), (some (12, true))⟩,
  ⟨(some 15), .call (.func 131) [(.tmp 13), (.tmp 14)], (some (12, true))⟩,
  ⟨(some 16), .un .not (.tmp 15), (some (12, true))⟩,
  ⟨(some 17), .pick (.tmp 12) (.tmp 16) (.const (.bool false)), none⟩,
  ⟨(some 18), .mv (.tmp 17), none⟩,
  ⟨(some 19), .mv (.tmp 1), (some (18, true))⟩,
  ⟨(some 20), .fad 0 (.tmp 2), (some (18, true))⟩,
  ⟨(some 21), .ld none (.tmp 20), (some (18, true))⟩,
  ⟨(some 22), .iad 1 (.tmp 19) (.tmp 21), (some (18, true))⟩,
  ⟨(some 23), .ld none (.tmp 22), (some (18, true))⟩,
  ⟨(some 24), .call (.func 132) [(.tmp 23)], (some (18, true))⟩,
  ⟨(some 25), .bin .leq (.tmp 24) (.const (.int .i64 0)), (some (18, true))⟩,
  ⟨(some 26), .pick (.tmp 18) (.tmp 25) (.const (.bool false)), none⟩,
  ⟨(some 4), .mv (.tmp 26), none⟩])
 (.ret)))
def r_impl_isValueTable : List ARes := [.tmp 4]
theorem ok_impl_isValueTable : FnOk Try.prog 90 27 c_impl_isValueTable r_impl_isValueTable := ⟨⟨Try.f90, _, Try.func90, by kernel_rfl, rfl, rfl, by kernel_rfl, by kernel_rfl⟩⟩
def c_impl_noMoveCostsLess : ACode := .seq (.reg [⟨(some 2), .box 26 (.tmp 0), none⟩,
  ⟨(some 4), .mv (.const (.bool false)), none⟩])
 (.scope (.seq (.seq (.reg [⟨(some 7), .ld (some 6) (.tmp 2), none⟩]) (.seq (.reg [⟨(some 9), .ld (some 6) (.tmp 2), none⟩]) (.seq (.reg [⟨(some 10), .fad 0 (.tmp 2), none⟩]) (.seq (.reg [⟨(some 11), .ld none (.tmp 10), none⟩]) (.both (.seq (.reg [⟨(some 8), .rcall (.func 133) [(.tmp 7), (.const (.int .i64 0))], none⟩]) (.both (.seq (.reg [⟨(some 12), .rcall (.func 133) [(.tmp 9), (.tmp 11)], none⟩]) (.both (.seq (.reg [⟨(some 5), .alc 83 [(.int .i64 0), (.int .i64 0), (.int .i64 0)], none⟩]) (.seq (.reg [⟨(some 6), .alc 83 [(.int .i64 0), (.int .i64 0), (.int .i64 0)], none⟩]) (.seq (.reg [⟨none, .st 3 (.tmp 5) (.tmp 8), none⟩]) (.seq (.reg [⟨none, .st 3 (.tmp 6) (.tmp 12), none⟩]) (.skip))))) (.seq (.reg [⟨(some 6), .alc 83 [(.int .i64 0), (.int .i64 0), (.int .i64 0)], none⟩]) (.seq (.reg [⟨(some 5), .alc 83 [(.int .i64 0), (.int .i64 0), (.int .i64 0)], none⟩]) (.seq (.reg [⟨none, .st 3 (.tmp 5) (.tmp 8), none⟩]) (.seq (.reg [⟨none, .st 3 (.tmp 6) (.tmp 12), none⟩]) (.skip))))))) (.both (.seq (.reg [⟨(some 5), .alc 83 [(.int .i64 0), (.int .i64 0), (.int .i64 0)], none⟩]) (.both (.seq (.reg [⟨(some 12), .rcall (.func 133) [(.tmp 9), (.tmp 11)], none⟩]) (.seq (.reg [⟨(some 6), .alc 83 [(.int .i64 0), (.int .i64 0), (.int .i64 0)], none⟩]) (.seq (.reg [⟨none, .st 3 (.tmp 5) (.tmp 8), none⟩]) (.seq (.reg [⟨none, .st 3 (.tmp 6) (.tmp 12), none⟩]) (.skip))))) (.seq (.reg [⟨(some 6), .alc 83 [(.int .i64 0), (.int .i64 0), (.int .i64 0)], none⟩]) (.seq (.reg [⟨(some 12), .rcall (.func 133) [(.tmp 9), (.tmp 11)], none⟩]) (.seq (.reg [⟨none, .st 3 (.tmp 5) (.tmp 8), none⟩]) (.seq (.reg [⟨none, .st 3 (.tmp 6) (.tmp 12), none⟩]) (.skip))))))) (.seq (.reg [⟨(some 6), .alc 83 [(.int .i64 0), (.int .i64 0), (.int .i64 0)], none⟩]) (.both (.seq (.reg [⟨(some 12), .rcall (.func 133) [(.tmp 9), (.tmp 11)], none⟩]) (.seq (.reg [⟨(some 5), .alc 83 [(.int .i64 0), (.int .i64 0), (.int .i64 0)], none⟩]) (.seq (.reg [⟨none, .st 3 (.tmp 5) (.tmp 8), none⟩]) (.seq (.reg [⟨none, .st 3 (.tmp 6) (.tmp 12), none⟩]) (.skip))))) (.seq (.reg [⟨(some 5), .alc 83 [(.int .i64 0), (.int .i64 0), (.int .i64 0)], none⟩]) (.seq (.reg [⟨(some 12), .rcall (.func 133) [(.tmp 9), (.tmp 11)], none⟩]) (.seq (.reg [⟨none, .st 3 (.tmp 5) (.tmp 8), none⟩]) (.seq (.reg [⟨none, .st 3 (.tmp 6) (.tmp 12), none⟩]) (.skip)))))))))) (.both (.seq (.reg [⟨(some 5), .alc 83 [(.int .i64 0), (.int .i64 0), (.int .i64 0)], none⟩]) (.both (.seq (.reg [⟨(some 8), .rcall (.func 133) [(.tmp 7), (.const (.int .i64 0))], none⟩]) (.both (.seq (.reg [⟨(some 12), .rcall (.func 133) [(.tmp 9), (.tmp 11)], none⟩]) (.seq (.reg [⟨(some 6), .alc 83 [(.int .i64 0), (.int .i64 0), (.int .i64 0)], none⟩]) (.seq (.reg [⟨none, .st 3 (.tmp 5) (.tmp 8), none⟩]) (.seq (.reg [⟨none, .st 3 (.tmp 6) (.tmp 12), none⟩]) (.skip))))) (.seq (.reg [⟨(some 6), .alc 83 [(.int .i64 0), (.int .i64 0), (.int .i64 0)], none⟩]) (.seq (.reg [⟨(some 12), .rcall (.func 133) [(.tmp 9), (.tmp 11)], none⟩]) (.seq (.reg [⟨none, .st 3 (.tmp 5) (.tmp 8), none⟩]) (.seq (.reg [⟨none, .st 3 (.tmp 6) (.tmp 12), none⟩]) (.skip))))))) (.seq (.reg [⟨(some 6), .alc 83 [(.int .i64 0), (.int .i64 0), (.int .i64 0)], none⟩]) (.seq (.reg [⟨(some 8), .rcall (.func 133) [(.tmp 7), (.const (.int .i64 0))], none⟩]) (.seq (.reg [⟨(some 12), .rcall (.func 133) [(.tmp 9), (.tmp 11)], none⟩]) (.seq (.reg [⟨none, .st 3 (.tmp 5) (.tmp 8), none⟩]) (.seq (.reg [⟨none, .st 3 (.tmp 6) (.tmp 12), none⟩]) (.skip)))))))) (.seq (.reg [⟨(some 6), .alc 83 [(.int .i64 0), (.int .i64 0), (.int .i64 0)], none⟩]) (.both (.seq (.reg [⟨(some 8), .rcall (.func 133) [(.tmp 7), (.const (.int .i64 0))], none⟩]) (.both (.seq (.reg [⟨(some 12), .rcall (.func 133) [(.tmp 9), (.tmp 11)], none⟩]) (.seq (.reg [⟨(some 5), .alc 83 [(.int .i64 0), (.int .i64 0), (.int .i64 0)], none⟩]) (.seq (.reg [⟨none, .st 3 (.tmp 5) (.tmp 8), none⟩]) (.seq (.reg [⟨none, .st 3 (.tmp 6) (.tmp 12), none⟩]) (.skip))))) (.seq (.reg [⟨(some 5), .alc 83 [(.int .i64 0), (.int .i64 0), (.int .i64 0)], none⟩]) (.seq (.reg [⟨(some 12), .rcall (.func 133) [(.tmp 9), (.tmp 11)], none⟩]) (.seq (.reg [⟨none, .st 3 (.tmp 5) (.tmp 8), none⟩]) (.seq (.reg [⟨none, .st 3 (.tmp 6) (.tmp 12), none⟩]) (.skip))))))) (.seq (.reg [⟨(some 5), .alc 83 [(.int .i64 0), (.int .i64 0), (.int .i64 0)], none⟩]) (.seq (.reg [⟨(some 8), .rcall (.func 133) [(.tmp 7), (.const (.int .i64 0))], none⟩]) (.seq (.reg [⟨(some 12), .rcall (.func 133) [(.tmp 9), (.tmp 11)], none⟩]) (.seq (.reg [⟨none, .st 3 (.tmp 5) (.tmp 8), none⟩]) (.seq (.reg [⟨none, .st 3 (.tmp 6) (.tmp 12), none⟩]) (.skip))))))))))))))
 (.seq (.label 0)
 (.seq (.seq (.reg [⟨(some 13), .ld (some 3) (.tmp 5), none⟩,
  ⟨(some 14), .ld (some 3) (.tmp 6), none⟩,
  ⟨(some 15), .aeq false 3 (.tmp 13) (.tmp 14), none⟩])
 (.cond (.tmp 15) (.seq (.reg [⟨(some 4), .mv (.const (.bool true)), none⟩])
 (.ret)) (.skip)))
 (.seq (.seq (.reg [⟨(some 16), .ld (some 6) (.tmp 2), none⟩,
  ⟨(some 17), .ld (some 3) (.tmp 5), none⟩,
  ⟨(some 18), .mv (.tmp 1), none⟩,
  ⟨(some 19), .fad 0 (.tmp 5), none⟩,
  ⟨(some 20), .ld none (.tmp 19), none⟩,
  ⟨(some 21), .bin .add (.tmp 20) (.const (.int .i64 1)), none⟩,
  ⟨(some 22), .iad 1 (.tmp 18) (.tmp 21), none⟩,
  ⟨(some 23), .ld none (.tmp 22), none⟩,
  ⟨(some 25), .mv (.tmp 1), none⟩,
  ⟨(some 26), .fad 0 (.tmp 5), none⟩,
  ⟨(some 27), .ld none (.tmp 26), none⟩,
  ⟨(some 28), .iad 1 (.tmp 25) (.tmp 27), none⟩,
  ⟨(some 29), .ld none (.tmp 28), none⟩,
  ⟨(some 30), .fad 1 (.tmp 5), none⟩,
  ⟨(some 31), .ld none (.tmp 30), none⟩,
  ⟨(some 24), .rcall (.func 118) [(.tmp 16), (.tmp 17), (.tmp 23)], none⟩,
  ⟨(some 32), .rcall (.func 134) [(.tmp 31)], none⟩,
  ⟨(some 33), .iad 1 (.tmp 29) (.tmp 32), none⟩,
  ⟨(some 34), .ld none (.tmp 33), none⟩,
  ⟨(some 35), .bin .lss (.tmp 24) (.tmp 34), none⟩])
 (.cond (.tmp 35) (.seq (.reg [⟨(some 4), .mv (.const (.bool false)), none⟩])
 (.ret)) (.skip)))
 (.seq (.seq (.reg [⟨(some 36), .fad 2 (.tmp 5), none⟩,
  ⟨(some 37), .ld none (.tmp 36), none⟩,
  ⟨(some 38), .bin .lss (.tmp 37) (.const (.int .i64 10)), none⟩])
 (.cond (.tmp 38) (.seq (.reg [⟨(some 39), .fad 2 (.tmp 5), none⟩,
  ⟨(some 40), .ld none (.tmp 39), none⟩,
  ⟨(some 41), .bin .add (.tmp 40) (.const (.int .i64 1)), none⟩,
  ⟨(some 42), .fad 2 (.tmp 5), none⟩,
  ⟨none, .st 1 (.tmp 42) (.tmp 41), none⟩])
 (.goto 0)) (.skip)))
 (.seq (.seq (.reg [⟨(some 43), .fad 1 (.tmp 5), none⟩,
  ⟨(some 44), .ld none (.tmp 43), none⟩,
  ⟨(some 45), .bin .lss (.tmp 44) (.const (.int .i64 10)), none⟩])
 (.cond (.tmp 45) (.seq (.reg [⟨(some 46), .fad 1 (.tmp 5), none⟩,
  ⟨(some 47), .ld none (.tmp 46), none⟩,
  ⟨(some 48), .bin .add (.tmp 47) (.const (.int .i64 1)), none⟩,
  ⟨(some 49), .fad 1 (.tmp 5), none⟩,
  ⟨none, .st 1 (.tmp 49) (.tmp 48), none⟩])
 (.seq (.reg [⟨(some 50), .fad 1 (.tmp 5), none⟩,
  ⟨(some 51), .ld none (.tmp 50), none⟩,
  ⟨(some 52), .ld (some 6) (.tmp 2), none⟩,
  ⟨(some 53), .rcall (.func 116) [(.tmp 52)], none⟩,
  ⟨(some 54), .mmx true (.tmp 51) (.tmp 53), none⟩,
  ⟨(some 55), .fad 2 (.tmp 5), none⟩,
  ⟨none, .st 1 (.tmp 55) (.tmp 54), none⟩])
 (.goto 0))) (.skip)))
 (.seq (.reg [⟨(some 56), .ld (some 6) (.tmp 2), none⟩,
  ⟨(some 57), .fad 0 (.tmp 5), none⟩,
  ⟨(some 58), .ld none (.tmp 57), none⟩,
  ⟨(some 59), .bin .add (.tmp 58) (.const (.int .i64 1)), none⟩,
  ⟨(some 60), .call (.func 133) [(.tmp 56), (.tmp 59)], none⟩,
  ⟨none, .st 3 (.tmp 5) (.tmp 60), none⟩])
 (.goto 0)))))))))
def r_impl_noMoveCostsLess : List ARes := [.tmp 4]
theorem ok_impl_noMoveCostsLess : FnOk Try.prog 91 61 c_impl_noMoveCostsLess r_impl_noMoveCostsLess := ⟨⟨Try.f91, _, Try.func91, by kernel_rfl, rfl, rfl, by kernel_rfl, by kernel_rfl⟩⟩
def c_impl_isTurn : ACode := .seq (.reg [⟨(some 2), .box 26 (.tmp 0), none⟩,
  ⟨(some 4), .mv (.const (.bool false)), none⟩])
 (.seq (.reg [⟨(some 5), .ld (some 6) (.tmp 2), none⟩,
  ⟨(some 6), .call (.func 24) [(.tmp 5)], none⟩,
  ⟨(some 7), .mv (.tmp 6), none⟩,
  ⟨(some 8), .mv (.tmp 1), (some (7, true))⟩,
  ⟨(some 9), .fad 0 (.tmp 2), (some (7, true))⟩,
  ⟨(some 10), .ld none (.tmp 9), (some (7, true))⟩,
  ⟨(some 11), .bin .sub (.tmp 10) (.const (.int .i64 1)), (some (7, true))⟩,
  ⟨(some 12), .call (.func 78) [(.tmp 8), (.tmp 11)], (some (7, true))⟩,
  ⟨(some 13), .pick (.tmp 7) (.tmp 12) (.const (.bool false)), none⟩,
  ⟨(some 4), .mv (.tmp 13), none⟩])
 (.ret))
def r_impl_isTurn : List ARes := [.tmp 4]
theorem ok_impl_isTurn : FnOk Try.prog 95 14 c_impl_isTurn r_impl_isTurn := ⟨⟨Try.f95, _, Try.func95, by kernel_rfl, rfl, rfl, by kernel_rfl, by kernel_rfl⟩⟩
def c_impl_isLevel : ACode := .seq (.reg [⟨(some 2), .mv (.const (.bool false)), none⟩])
 (.seq (.reg [⟨(some 3), .mv (.tmp 0), none⟩,
  ⟨(some 4), .call (.func 128) [(.tmp 3), (.const (.int .i64 10))], none⟩,
  ⟨(some 2), .mv (.tmp 4), none⟩])
 (.ret))
def r_impl_isLevel : List ARes := [.tmp 2]
theorem ok_impl_isLevel : FnOk Try.prog 96 5 c_impl_isLevel r_impl_isLevel := ⟨⟨Try.f96, _, Try.func96, by kernel_rfl, rfl, rfl, by kernel_rfl, by kernel_rfl⟩⟩
def c_impl_bestMove : ACode := .seq (.reg [⟨(some 4), .box 26 (.tmp 0), none⟩,
  ⟨(some 8), .alc 83 [(.int .i64 0), (.int .i64 0), (.int .i64 0)], none⟩])
 (.seq (.reg [⟨(some 14), .mv (.tmp 1), none⟩,
  ⟨(some 15), .mv (.tmp 2), none⟩,
  ⟨(some 16), .mv (.tmp 2), none⟩,
  ⟨(some 17), .ld (some 6) (.tmp 4), none⟩,
  ⟨(some 18), .call (.func 116) [(.tmp 17)], none⟩,
  ⟨(some 19), .mmx true (.tmp 16) (.tmp 18), none⟩,
  ⟨(some 20), .bld [(.int .i64 0), (.int .i64 0), (.int .i64 0)] [(0, 1, (.tmp 14)), (1, 1, (.tmp 15)), (2, 1, (.tmp 19))], none⟩,
  ⟨(some 9), .alc 83 [(.int .i64 0), (.int .i64 0), (.int .i64 0)], none⟩,
  ⟨none, .st 3 (.tmp 9) (.tmp 20), none⟩])
 (.seq (.reg [⟨(some 21), .ld (some 6) (.tmp 4), none⟩,
  ⟨(some 22), .ld (some 3) (.tmp 9), none⟩,
  ⟨(some 23), .mv (.tmp 3), none⟩,
  ⟨(some 24), .call (.func 118) [(.tmp 21), (.tmp 22), (.tmp 23)], none⟩,
  ⟨(some 10), .mv (.tmp 24), none⟩])
 (.seq (.seq (.reg [⟨(some 25), .fad 2 (.tmp 9), none⟩,
  ⟨(some 26), .ld none (.tmp 25), none⟩,
  ⟨(some 27), .bin .add (.tmp 26) (.const (.int .i64 1)), none⟩,
  ⟨(some 11), .mv (.tmp 27), none⟩])
 (.block 0 (.loop (.seq (.seq (.reg [⟨(some 28), .mv (.tmp 11), none⟩,
  ⟨(some 29), .bin .leq (.tmp 28) (.const (.int .i64 10)), none⟩])
 (.cond (.tmp 29) (.skip) (.exit 0)))
 (.seq (.block 1 (.seq (.reg [⟨(some 32), .mv (.tmp 1), none⟩,
  ⟨(some 33), .mv (.tmp 2), none⟩,
  ⟨(some 34), .mv (.tmp 11), none⟩,
  ⟨(some 35), .bld [(.int .i64 0), (.int .i64 0), (.int .i64 0)] [(0, 1, (.tmp 32)), (1, 1, (.tmp 33)), (2, 1, (.tmp 34))], none⟩,
  ⟨(some 12), .alc 83 [(.int .i64 0), (.int .i64 0), (.int .i64 0)], none⟩,
  ⟨none, .st 3 (.tmp 12) (.tmp 35), none⟩])
 (.seq (.reg [⟨(some 36), .ld (some 6) (.tmp 4), none⟩,
  ⟨(some 37), .ld (some 3) (.tmp 12), none⟩,
  ⟨(some 38), .mv (.tmp 3), none⟩,
  ⟨(some 39), .call (.func 118) [(.tmp 36), (.tmp 37), (.tmp 38)], none⟩,
  ⟨(some 13), .mv (.tmp 39), none⟩])
 (.seq (.reg [⟨(some 40), .mv (.tmp 13), none⟩,
  ⟨(some 41), .mv (.tmp 10), none⟩,
  ⟨(some 42), .bin .lss (.tmp 40) (.tmp 41), none⟩])
 (.cond (.tmp 42) (.reg [⟨(some 43), .ld (some 3) (.tmp 12), none⟩,
  ⟨(some 44), .mv (.tmp 13), none⟩,
  ⟨none, .st 3 (.tmp 9) (.tmp 43), none⟩,
  ⟨(some 10), .mv (.tmp 44), none⟩]) (.skip))))))
 (.reg [⟨(some 30), .mv (.tmp 11), none⟩,
  ⟨(some 31), .bin .add (.tmp 30) (.const (.int .i64 1)), none⟩,
  ⟨(some 11), .mv (.tmp 31), none⟩]))))))
 (.seq (.reg [⟨(some 45), .ld (some 3) (.tmp 9), none⟩,
  ⟨none, .st 3 (.tmp 8) (.tmp 45), none⟩])
 (.ret)))))
def r_impl_bestMove : List ARes := [.cell 8 (some 3)]
theorem ok_impl_bestMove : FnOk Try.prog 97 46 c_impl_bestMove r_impl_bestMove := ⟨⟨Try.f97, _, Try.func97, by kernel_rfl, rfl, rfl, by kernel_rfl, by kernel_rfl⟩⟩
def c_spec_l6Turn : ACode := .seq (.reg [⟨(some 2), .box 26 (.tmp 0), none⟩,
  ⟨(some 4), .mv (.const (.bool false)), none⟩])
 (.seq (.reg [⟨(some 5), .ld (some 6) (.tmp 2), none⟩,
  ⟨(some 6), .call (.func 72) [(.tmp 5)], none⟩,
  ⟨(some 7), .mv (.tmp 6), none⟩,
  ⟨(some 8), .mv (.tmp 1), (some (7, true))⟩,
  ⟨(some 9), .fad 0 (.tmp 2), (some (7, true))⟩,
  ⟨(some 10), .ld none (.tmp 9), (some (7, true))⟩,
  ⟨(some 11), .bin .sub (.tmp 10) (.const (.int .i64 1)), (some (7, true))⟩,
  ⟨(some 12), .call (.func 89) [(.tmp 8), (.const (.int .i64 0)), (.tmp 11)], (some (7, true))⟩,
  ⟨(some 13), .pick (.tmp 7) (.tmp 12) (.const (.bool false)), none⟩,
  ⟨(some 4), .mv (.tmp 13), none⟩])
 (.ret))
def r_spec_l6Turn : List ARes := [.tmp 4]
theorem ok_spec_l6Turn : FnOk Try.prog 98 14 c_spec_l6Turn r_spec_l6Turn := ⟨⟨Try.f98, _, Try.func98, by kernel_rfl, rfl, rfl, by kernel_rfl, by kernel_rfl⟩⟩
def c_spec_l6Level : ACode := .seq (.reg [⟨(some 2), .mv (.const (.bool false)), none⟩])
 (.seq (.reg [⟨(some 3), .mv (.tmp 0), none⟩,
  ⟨(some 4), .call (.func 89) [(.tmp 3), (.const (.int .i64 (-10))), (.const (.int .i64 10))], none⟩,
  ⟨(some 2), .mv (.tmp 4), none⟩])
 (.ret))
def r_spec_l6Level : List ARes := [.tmp 2]
theorem ok_spec_l6Level : FnOk Try.prog 99 5 c_spec_l6Level r_spec_l6Level := ⟨⟨Try.f99, _, Try.func99, by kernel_rfl, rfl, rfl, by kernel_rfl, by kernel_rfl⟩⟩
def c_spec_l6Best : ACode := .seq (.reg [⟨(some 4), .box 26 (.tmp 0), none⟩,
  ⟨(some 8), .mv (.const (.int .i64 0)), none⟩,
  ⟨(some 9), .mv (.const (.int .i64 0)), none⟩])
 (.seq (.reg [⟨(some 10), .mv (.const (.int .i64 0)), none⟩,
  ⟨(some 11), .mv (.const (.int .i64 0)), none⟩])
 (.seq (.seq (.reg [⟨(some 12), .mv (.const (.int .i64 10)), none⟩])
 (.block 0 (.loop (.seq (.seq (.reg [⟨(some 14), .mv (.tmp 12), none⟩,
  ⟨(some 15), .mv (.tmp 2), none⟩,
  ⟨(some 16), .ld (some 6) (.tmp 4), none⟩,
  ⟨(some 17), .call (.func 120) [(.tmp 16)], none⟩,
  ⟨(some 18), .call (.func 137) [(.tmp 15), (.tmp 17)], none⟩,
  ⟨(some 19), .bin .geq (.tmp 14) (.tmp 18), none⟩])
 (.cond (.tmp 19) (.skip) (.exit 0)))
 (.seq (.block 1 (.seq (.reg [⟨(some 22), .ld (some 6) (.tmp 4), none⟩,
  ⟨(some 23), .mv (.tmp 2), none⟩,
  ⟨(some 24), .mv (.tmp 12), none⟩,
  ⟨(some 26), .ld (some 6) (.tmp 4), none⟩,
  ⟨(some 27), .mv (.tmp 3), none⟩,
  ⟨(some 30), .ld (some 6) (.tmp 4), none⟩,
  ⟨(some 31), .mv (.tmp 1), none⟩,
  ⟨(some 32), .mv (.tmp 12), none⟩,
  ⟨(some 33), .mv (.tmp 3), none⟩,
  ⟨(some 25), .rcall (.func 75) [(.tmp 22), (.tmp 23), (.tmp 24)], none⟩,
  ⟨(some 28), .rcall (.func 76) [(.tmp 26), (.tmp 27)], none⟩,
  ⟨(some 29), .bin .mul (.tmp 25) (.tmp 28), none⟩,
  ⟨(some 34), .rcall (.func 77) [(.tmp 30), (.tmp 31), (.tmp 32), (.tmp 33)], none⟩,
  ⟨(some 35), .bin .add (.tmp 29) (.tmp 34), none⟩,
  ⟨(some 13), .mv (.tmp 35), none⟩])
 (.seq (.reg [⟨(some 36), .mv (.tmp 12), none⟩,
  ⟨(some 37), .bin .eql (.tmp 36) (.const (.int .i64 10)), none⟩,
  ⟨(some 38), .mv (.tmp 37), none⟩,
  ⟨(some 39), .mv (.tmp 13), (some (38, false))⟩,
  ⟨(some 40), .mv (.tmp 11), (some (38, false))⟩,
  ⟨(some 41), .bin .leq (.tmp 39) (.tmp 40), (some (38, false))⟩,
  ⟨(some 42), .pick (.tmp 38) (.const (.bool true)) (.tmp 41), none⟩])
 (.cond (.tmp 42) (.seq (.reg [⟨(some 43), .mv (.tmp 12), none⟩,
  ⟨(some 10), .mv (.tmp 43), none⟩])
 (.reg [⟨(some 44), .mv (.tmp 13), none⟩,
  ⟨(some 11), .mv (.tmp 44), none⟩])) (.skip)))))
 (.reg [⟨(some 20), .mv (.tmp 12), none⟩,
  ⟨(some 21), .bin .sub (.tmp 20) (.const (.int .i64 1)), none⟩,
  ⟨(some 12), .mv (.tmp 21), none⟩]))))))
 (.seq (.reg [⟨(some 45), .mv (.tmp 10), none⟩,
  ⟨(some 46), .mv (.tmp 11), none⟩,
  ⟨(some 8), .mv (.tmp 45), none⟩,
  ⟨(some 9), .mv (.tmp 46), none⟩])
 (.ret))))
def r_spec_l6Best : List ARes := [.tmp 8, .tmp 9]
theorem ok_spec_l6Best : FnOk Try.prog 100 47 c_spec_l6Best r_spec_l6Best := ⟨⟨Try.f100, _, Try.func100, by kernel_rfl, rfl, rfl, by kernel_rfl, by kernel_rfl⟩⟩
def c_impl_billsOf : ACode := .seq (.reg [⟨(some 3), .box 26 (.tmp 0), none⟩,
  ⟨(some 6), .mv (.const (.slice none 0 0)), none⟩])
 (.seq (.reg [⟨(some 9), .bsl 3 1 0 [] [], none⟩,
  ⟨(some 7), .mv (.tmp 9), none⟩])
 (.seq (.seq (.reg [⟨(some 10), .ld (some 6) (.tmp 3), none⟩,
  ⟨(some 11), .call (.func 116) [(.tmp 10)], none⟩,
  ⟨(some 8), .mv (.tmp 11), none⟩])
 (.block 0 (.loop (.seq (.seq (.reg [⟨(some 12), .mv (.tmp 8), none⟩,
  ⟨(some 13), .bin .leq (.tmp 12) (.const (.int .i64 10)), none⟩])
 (.cond (.tmp 13) (.skip) (.exit 0)))
 (.seq (.block 1 (.reg [⟨(some 16), .mv (.tmp 7), none⟩,
  ⟨(some 17), .fad 3 (.tmp 3), none⟩,
  ⟨(some 18), .ld none (.tmp 17), none⟩,
  ⟨(some 19), .mv (.tmp 8), none⟩,
  ⟨(some 20), .bin .mul (.tmp 18) (.tmp 19), none⟩,
  ⟨(some 21), .ld (some 6) (.tmp 3), none⟩,
  ⟨(some 22), .mv (.tmp 1), none⟩,
  ⟨(some 25), .ld (some 6) (.tmp 3), none⟩,
  ⟨(some 26), .mv (.tmp 1), none⟩,
  ⟨(some 27), .mv (.tmp 8), none⟩,
  ⟨(some 28), .mv (.tmp 2), none⟩,
  ⟨(some 23), .rcall (.func 85) [(.tmp 21), (.tmp 22)], none⟩,
  ⟨(some 24), .bin .mul (.tmp 20) (.tmp 23), none⟩,
  ⟨(some 29), .rcall (.func 138) [(.tmp 25), (.tmp 26), (.tmp 27), (.tmp 28)], none⟩,
  ⟨(some 30), .bin .add (.tmp 24) (.tmp 29), none⟩,
  ⟨(some 31), .bsl 3 1 1 [(.int .i64 0)] [(0, 1, (.tmp 30))], none⟩,
  ⟨(some 32), .app 3 1 8 (.tmp 16) (.tmp 31), none⟩,
  ⟨(some 7), .mv (.tmp 32), none⟩]))
 (.reg [⟨(some 14), .mv (.tmp 8), none⟩,
  ⟨(some 15), .bin .add (.tmp 14) (.const (.int .i64 1)), none⟩,
  ⟨(some 8), .mv (.tmp 15), none⟩]))))))
 (.seq (.reg [⟨(some 33), .mv (.tmp 7), none⟩,
  ⟨(some 6), .mv (.tmp 33), none⟩])
 (.ret))))
def r_impl_billsOf : List ARes := [.tmp 6]
theorem ok_impl_billsOf : FnOk Try.prog 101 34 c_impl_billsOf r_impl_billsOf := ⟨⟨Try.f101, _, Try.func101, by kernel_rfl, rfl, rfl, by kernel_rfl, by kernel_rfl⟩⟩
def c_spec_l6Bills : ACode := .seq (.reg [⟨(some 3), .box 26 (.tmp 0), none⟩,
  ⟨(some 6), .mv (.const (.slice none 0 0)), none⟩])
 (.seq (.reg [⟨(some 9), .bsl 3 1 0 [] [], none⟩,
  ⟨(some 7), .mv (.tmp 9), none⟩])
 (.seq (.seq (.reg [⟨(some 10), .ld (some 6) (.tmp 3), none⟩,
  ⟨(some 11), .call (.func 120) [(.tmp 10)], none⟩,
  ⟨(some 8), .mv (.tmp 11), none⟩])
 (.block 0 (.loop (.seq (.seq (.reg [⟨(some 12), .mv (.tmp 8), none⟩,
  ⟨(some 13), .bin .leq (.tmp 12) (.const (.int .i64 10)), none⟩])
 (.cond (.tmp 13) (.skip) (.exit 0)))
 (.seq (.block 1 (.reg [⟨(some 16), .mv (.tmp 7), none⟩,
  ⟨(some 17), .ld (some 6) (.tmp 3), none⟩,
  ⟨(some 18), .mv (.tmp 1), none⟩,
  ⟨(some 19), .mv (.tmp 2), none⟩,
  ⟨(some 20), .bin .add (.tmp 19) (.const (.int .i64 1)), none⟩,
  ⟨(some 21), .iad 1 (.tmp 18) (.tmp 20), none⟩,
  ⟨(some 22), .ld none (.tmp 21), none⟩,
  ⟨(some 23), .mv (.tmp 8), none⟩,
  ⟨(some 24), .fad 0 (.tmp 3), none⟩,
  ⟨(some 25), .ld none (.tmp 24), none⟩,
  ⟨(some 26), .mv (.tmp 2), none⟩,
  ⟨(some 27), .bin .sub (.tmp 25) (.tmp 26), none⟩,
  ⟨(some 28), .rcall (.func 139) [(.tmp 17), (.tmp 22), (.tmp 23), (.tmp 27)], none⟩,
  ⟨(some 29), .bsl 3 1 1 [(.int .i64 0)] [(0, 1, (.tmp 28))], none⟩,
  ⟨(some 30), .app 3 1 8 (.tmp 16) (.tmp 29), none⟩,
  ⟨(some 7), .mv (.tmp 30), none⟩]))
 (.reg [⟨(some 14), .mv (.tmp 8), none⟩,
  ⟨(some 15), .bin .add (.tmp 14) (.const (.int .i64 1)), none⟩,
  ⟨(some 8), .mv (.tmp 15), none⟩]))))))
 (.seq (.reg [⟨(some 31), .mv (.tmp 7), none⟩,
  ⟨(some 6), .mv (.tmp 31), none⟩])
 (.ret))))
def r_spec_l6Bills : List ARes := [.tmp 6]
theorem ok_spec_l6Bills : FnOk Try.prog 102 32 c_spec_l6Bills r_spec_l6Bills := ⟨⟨Try.f102, _, Try.func102, by kernel_rfl, rfl, rfl, by kernel_rfl, by kernel_rfl⟩⟩
def c_spec_l6Table : ACode := .seq (.reg [⟨(some 2), .box 26 (.tmp 0), none⟩,
  ⟨(some 4), .mv (.const (.bool false)), none⟩])
 (.seq (.seq (.reg [⟨(some 5), .mv (.const (.int .i64 0)), none⟩])
 (.block 0 (.loop (.seq (.seq (.reg [⟨(some 7), .mv (.tmp 5), none⟩,
  ⟨(some 8), .mv (.tmp 1), none⟩,
  ⟨(some 9), .len (.tmp 8), none⟩,
  ⟨(some 10), .bin .lss (.tmp 7) (.tmp 9), none⟩])
 (.cond (.tmp 10) (.skip) (.exit 0)))
 (.seq (.block 1 (.seq (.seq (.reg [⟨(some 6), .mv (.const (.int .i64 0)), none⟩])
 (.block 2 (.loop (.seq (.seq (.reg [⟨(some 13), .mv (.tmp 6), none⟩,
  ⟨(some 14), .mv (.tmp 1), none⟩,
  ⟨(some 15), .mv (.tmp 5), none⟩,
  ⟨(some 16), .iad 1 (.tmp 14) (.tmp 15), none⟩,
  ⟨(some 17), .ld none (.tmp 16), none⟩,
  ⟨(some 18), .len (.tmp 17), none⟩,
  ⟨(some 19), .bin .lss (.tmp 13) (.tmp 18), none⟩])
 (.cond (.tmp 19) (.skip) (.exit 2)))
 (.seq (.block 3 (.seq (.reg [⟨(some 22), .mv (.tmp 1), none⟩,
  ⟨(some 23), .mv (.tmp 5), none⟩,
  ⟨(some 24), .iad 1 (.tmp 22) (.tmp 23), none⟩,
  ⟨(some 25), .ld none (.tmp 24), none⟩,
  ⟨(some 26), .mv (.tmp 6), none⟩,
  ⟨(some 27), .iad 1 (.tmp 25) (.tmp 26), none⟩,
  ⟨(some 28), .ld none (.tmp 27), none⟩,
  ⟨(some 29), .call (.func 89) [(.tmp 28), (.const (.int .i64 (-1000000000000))), (.const (.int .i64 1000000000000))], none⟩,
  ⟨(some 30), .un .not (.tmp 29), none⟩])
 (.cond (.tmp 30) (.seq (.reg [⟨(some 4), .mv (.const (.bool false)), none⟩])
 (.ret)) (.skip))))
 (.reg [⟨(some 20), .mv (.tmp 6), none⟩,
  ⟨(some 21), .bin .add (.tmp 20) (.const (.int .i64 1)), none⟩,
  ⟨(some 6), .mv (.tmp 21), none⟩]))))))
 (.seq (.reg [⟨(some 31), .mv (.tmp 1), none⟩,
  ⟨(some 32), .mv (.tmp 5), none⟩,
  ⟨(some 33), .iad 1 (.tmp 31) (.tmp 32), none⟩,
  ⟨(some 34), .ld none (.tmp 33), none⟩,
  ⟨(some 35), .len (.tmp 34), none⟩,
  ⟨(some 36), .bin .neq (.tmp 35) (.const (.int .i64 21)), none⟩])
 (.cond (.tmp 36) (.seq (.reg [⟨(some 4), .mv (.const (.bool false)), none⟩])
 (.ret)) (.skip)))))
 (.reg [⟨(some 11), .mv (.tmp 5), none⟩,
  ⟨(some 12), .bin .add (.tmp 11) (.const (.int .i64 1)), none⟩,
  ⟨(some 5), .mv (.tmp 12), none⟩]))))))
 (.seq (.reg [⟨(some 37), .mv (.tmp 1), none⟩,
  ⟨(some 38), .len (.tmp 37), none⟩,
  ⟨(some 39), .fad 0 (.tmp 2), none⟩,
  ⟨(some 40), .ld none (.tmp 39), none⟩,
  ⟨(some 41), .bin .add (.tmp 40) (.const (.int .i64 1)), none⟩,
  ⟨(some 42), .bin .eql (.tmp 38) (.tmp 41), none⟩,
  ⟨(some 4), .mv (.tmp 42), none⟩])
 (.ret)))
def r_spec_l6Table : List ARes := [.tmp 4]
theorem ok_spec_l6Table : FnOk Try.prog 104 43 c_spec_l6Table r_spec_l6Table := ⟨⟨Try.f104, _, Try.func104, by kernel_rfl, rfl, rfl, by kernel_rfl, by kernel_rfl⟩⟩
def c_spec_l6Under : ACode := .seq (.reg [⟨(some 3), .box 26 (.tmp 0), none⟩,
  ⟨(some 6), .mv (.const (.bool false)), none⟩])
 (.seq (.seq (.reg [⟨(some 7), .mv (.const (.int .i64 (-10))), none⟩])
 (.block 0 (.loop (.seq (.seq (.reg [⟨(some 10), .mv (.tmp 7), none⟩,
  ⟨(some 11), .bin .leq (.tmp 10) (.const (.int .i64 10)), none⟩])
 (.cond (.tmp 11) (.skip) (.exit 0)))
 (.seq (.block 1 (.seq (.reg [⟨(some 15), .ld (some 6) (.tmp 3), none⟩,
  ⟨(some 16), .mv (.tmp 1), none⟩,
  ⟨(some 17), .mv (.tmp 2), none⟩,
  ⟨(some 18), .bin .add (.tmp 17) (.const (.int .i64 1)), none⟩,
  ⟨(some 19), .iad 1 (.tmp 16) (.tmp 18), none⟩,
  ⟨(some 20), .ld none (.tmp 19), none⟩,
  ⟨(some 21), .mv (.tmp 7), none⟩,
  ⟨(some 22), .fad 0 (.tmp 3), none⟩,
  ⟨(some 23), .ld none (.tmp 22), none⟩,
  ⟨(some 24), .mv (.tmp 2), none⟩,
  ⟨(some 25), .bin .sub (.tmp 23) (.tmp 24), none⟩,
  ⟨(some 26), .rcall (.func 100) [(.tmp 15), (.tmp 20), (.tmp 21), (.tmp 25)], none⟩,
  ⟨(some 14), .mv (.tmp 26), none⟩,
  ⟨(some 27), .ext 0 (.tmp 14), none⟩,
  ⟨(some 28), .ext 1 (.tmp 14), none⟩,
  ⟨(some 8), .mv (.tmp 27), none⟩,
  ⟨(some 9), .mv (.tmp 28), none⟩])
 (.seq (.reg [⟨(some 29), .mv (.tmp 1), none⟩,
  ⟨(some 30), .mv (.tmp 2), none⟩,
  ⟨(some 31), .iad 1 (.tmp 29) (.tmp 30), none⟩,
  ⟨(some 32), .ld none (.tmp 31), none⟩,
  ⟨(some 33), .mv (.tmp 7), none⟩,
  ⟨(some 34), .bin .add (.tmp 33) (.const (.int .i64 10)), none⟩,
  ⟨(some 35), .iad 1 (.tmp 32) (.tmp 34), none⟩,
  ⟨(some 36), .ld none (.tmp 35), none⟩,
  ⟨(some 37), .mv (.tmp 9), none⟩,
  ⟨(some 38), .bin .gtr (.tmp 36) (.tmp 37), none⟩])
 (.cond (.tmp 38) (.seq (.reg [⟨(some 6), .mv (.const (.bool false)), none⟩])
 (.ret)) (.skip)))))
 (.reg [⟨(some 12), .mv (.tmp 7), none⟩,
  ⟨(some 13), .bin .add (.tmp 12) (.const (.int .i64 1)), none⟩,
  ⟨(some 7), .mv (.tmp 13), none⟩]))))))
 (.seq (.reg [⟨(some 6), .mv (.const (.bool true)), none⟩])
 (.ret)))
def r_spec_l6Under : List ARes := [.tmp 6]
theorem ok_spec_l6Under : FnOk Try.prog 105 39 c_spec_l6Under r_spec_l6Under := ⟨⟨Try.f105, _, Try.func105, by kernel_rfl, rfl, rfl, by kernel_rfl, by kernel_rfl⟩⟩
def c_spec_l6Asked : ACode := .seq (.reg [⟨(some 2), .box 26 (.tmp 0), none⟩,
  ⟨(some 4), .mv (.const (.bool false)), none⟩])
 (.seq (.reg [⟨(some 5), .mv (.tmp 1), none⟩,
  ⟨(some 6), .fad 1 (.tmp 2), none⟩,
  ⟨(some 7), .ld none (.tmp 6), none⟩,
  ⟨(some 8), .len (.tmp 7), none⟩,
  ⟨(some 9), .bin .sub (.tmp 8) (.const (.int .i64 1)), none⟩,
  ⟨(some 10), .call (.func 89) [(.tmp 5), (.const (.int .i64 0)), (.tmp 9)], none⟩,
  ⟨(some 11), .mv (.tmp 10), none⟩,
  ⟨(some 12), .fad 1 (.tmp 2), (some (11, true))⟩,
  ⟨(some 13), .ld none (.tmp 12), (some (11, true))⟩,
  ⟨(some 14), .mv (.tmp 1), (some (11, true))⟩,
  ⟨(some 15), .iad 1 (.tmp 13) (.tmp 14), (some (11, true))⟩,
  ⟨(some 16), .ld none (.tmp 15), (some (11, true))⟩,
  ⟨(some 17), .bin .gtr (.tmp 16) (.const (.int .i64 0)), (some (11, true))⟩,
  ⟨(some 18), .pick (.tmp 11) (.tmp 17) (.const (.bool false)), none⟩,
  ⟨(some 4), .mv (.tmp 18), none⟩])
 (.ret))
def r_spec_l6Asked : List ARes := [.tmp 4]
theorem ok_spec_l6Asked : FnOk Try.prog 109 19 c_spec_l6Asked r_spec_l6Asked := ⟨⟨Try.f109, _, Try.func109, by kernel_rfl, rfl, rfl, by kernel_rfl, by kernel_rfl⟩⟩
def c_spec_l6Kept : ACode := .seq (.reg [⟨(some 2), .box 26 (.tmp 0), none⟩,
  ⟨(some 4), .mv (.const (.int .i64 0)), none⟩])
 (.seq (.seq (.reg [⟨(some 5), .mv (.tmp 1), none⟩,
  ⟨(some 6), .bin .gtr (.tmp 5) (.const (.int .i64 0)), none⟩])
 (.cond (.tmp 6) (.seq (.reg [⟨(some 7), .fad 4 (.tmp 2), none⟩,
  ⟨(some 8), .ld none (.tmp 7), none⟩,
  ⟨(some 9), .mv (.tmp 1), none⟩,
  ⟨(some 10), .bin .mul (.tmp 8) (.tmp 9), none⟩,
  ⟨(some 4), .mv (.tmp 10), none⟩])
 (.ret)) (.skip)))
 (.seq (.reg [⟨(some 11), .fad 5 (.tmp 2), none⟩,
  ⟨(some 12), .ld none (.tmp 11), none⟩,
  ⟨(some 13), .un .neg (.tmp 12), none⟩,
  ⟨(some 14), .mv (.tmp 1), none⟩,
  ⟨(some 15), .bin .mul (.tmp 13) (.tmp 14), none⟩,
  ⟨(some 4), .mv (.tmp 15), none⟩])
 (.ret)))
def r_spec_l6Kept : List ARes := [.tmp 4]
theorem ok_spec_l6Kept : FnOk Try.prog 110 16 c_spec_l6Kept r_spec_l6Kept := ⟨⟨Try.f110, _, Try.func110, by kernel_rfl, rfl, rfl, by kernel_rfl, by kernel_rfl⟩⟩
def c_impl_isAskedFor : ACode := .seq (.reg [⟨(some 2), .box 26 (.tmp 0), none⟩,
  ⟨(some 4), .mv (.const (.bool false)), none⟩])
 (.seq (.reg [⟨(some 5), .mv (.tmp 1), none⟩,
  ⟨(some 6), .fad 1 (.tmp 2), none⟩,
  ⟨(some 7), .ld none (.tmp 6), none⟩,
  ⟨(some 8), .len (.tmp 7), none⟩,
  ⟨(some 9), .bin .sub (.tmp 8) (.const (.int .i64 1)), none⟩,
  ⟨(some 10), .call (.func 78) [(.tmp 5), (.tmp 9)], none⟩,
  ⟨(some 11), .mv (.tmp 10), none⟩,
  ⟨(some 12), .fad 1 (.tmp 2), (some (11, true))⟩,
  ⟨(some 13), .ld none (.tmp 12), (some (11, true))⟩,
  ⟨(some 14), .mv (.tmp 1), (some (11, true))⟩,
  ⟨(some 15), .iad 1 (.tmp 13) (.tmp 14), (some (11, true))⟩,
  ⟨(some 16), .ld none (.tmp 15), (some (11, true))⟩,
  ⟨(some 17), .bin .gtr (.tmp 16) (.const (.int .i64 0)), (some (11, true))⟩,
  ⟨(some 18), .pick (.tmp 11) (.tmp 17) (.const (.bool false)), none⟩,
  ⟨(some 4), .mv (.tmp 18), none⟩])
 (.ret))
def r_impl_isAskedFor : List ARes := [.tmp 4]
theorem ok_impl_isAskedFor : FnOk Try.prog 111 19 c_impl_isAskedFor r_impl_isAskedFor := ⟨⟨Try.f111, _, Try.func111, by kernel_rfl, rfl, rfl, by kernel_rfl, by kernel_rfl⟩⟩
def c_impl_liftCost : ACode := .seq (.reg [⟨(some 3), .box 26 (.tmp 0), none⟩,
  ⟨(some 6), .mv (.const (.int .i64 0)), none⟩])
 (.seq (.reg [⟨(some 8), .fad 3 (.tmp 3), none⟩,
  ⟨(some 9), .ld none (.tmp 8), none⟩,
  ⟨(some 10), .mv (.tmp 2), none⟩,
  ⟨(some 11), .mv (.tmp 1), none⟩,
  ⟨(some 12), .bin .sub (.tmp 10) (.tmp 11), none⟩,
  ⟨(some 13), .bin .mul (.tmp 9) (.tmp 12), none⟩,
  ⟨(some 7), .mv (.tmp 13), none⟩])
 (.seq (.seq (.reg [⟨(some 14), .mv (.tmp 2), none⟩,
  ⟨(some 15), .mv (.tmp 1), none⟩,
  ⟨(some 16), .bin .gtr (.tmp 14) (.tmp 15), none⟩])
 (.cond (.tmp 16) (.reg [⟨(some 17), .mv (.tmp 7), none⟩,
  ⟨(some 18), .fad 2 (.tmp 3), none⟩,
  ⟨(some 19), .ld none (.tmp 18), none⟩,
  ⟨(some 20), .bin .add (.tmp 17) (.tmp 19), none⟩,
  ⟨(some 7), .mv (.tmp 20), none⟩]) (.skip)))
 (.seq (.reg [⟨(some 21), .mv (.tmp 7), none⟩,
  ⟨(some 6), .mv (.tmp 21), none⟩])
 (.ret))))
def r_impl_liftCost : List ARes := [.tmp 6]
theorem ok_impl_liftCost : FnOk Try.prog 112 22 c_impl_liftCost r_impl_liftCost := ⟨⟨Try.f112, _, Try.func112, by kernel_rfl, rfl, rfl, by kernel_rfl, by kernel_rfl⟩⟩
def c_impl_levelCost : ACode := .seq (.reg [⟨(some 2), .box 26 (.tmp 0), none⟩,
  ⟨(some 4), .mv (.const (.int .i64 0)), none⟩])
 (.seq (.seq (.reg [⟨(some 5), .mv (.tmp 1), none⟩,
  ⟨(some 6), .call (.func 140) [(.tmp 5)], none⟩])
 (.cond (.tmp 6) (.seq (.reg [⟨(some 7), .fad 5 (.tmp 2), none⟩,
  ⟨(some 8), .ld none (.tmp 7), none⟩,
  ⟨(some 9), .un .neg (.tmp 8), none⟩,
  ⟨(some 10), .mv (.tmp 1), none⟩,
  ⟨(some 11), .bin .mul (.tmp 9) (.tmp 10), none⟩,
  ⟨(some 4), .mv (.tmp 11), none⟩])
 (.ret)) (.skip)))
 (.seq (.reg [⟨(some 12), .fad 4 (.tmp 2), none⟩,
  ⟨(some 13), .ld none (.tmp 12), none⟩,
  ⟨(some 14), .mv (.tmp 1), none⟩,
  ⟨(some 15), .bin .mul (.tmp 13) (.tmp 14), none⟩,
  ⟨(some 4), .mv (.tmp 15), none⟩])
 (.ret)))
def r_impl_levelCost : List ARes := [.tmp 4]
theorem ok_impl_levelCost : FnOk Try.prog 113 16 c_impl_levelCost r_impl_levelCost := ⟨⟨Try.f113, _, Try.func113, by kernel_rfl, rfl, rfl, by kernel_rfl, by kernel_rfl⟩⟩
def c_impl_isPolicy_1 : ACode := .seq (.reg [⟨(some 2), .box 46 (.tmp 0), none⟩,
  ⟨(some 3), .mv (.const (.bool false)), none⟩])
 (.seq (.reg [⟨(some 4), .iada 1 2 (.tmp 2) (.const (.int .i64 0)), none⟩,
  ⟨(some 5), .ld none (.tmp 4), none⟩,
  ⟨(some 6), .rcall (.func 96) [(.tmp 5)], none⟩,
  ⟨(some 7), .un .not (.tmp 6), none⟩,
  ⟨(some 8), .mv (.tmp 7), none⟩,
  ⟨(some 9), .iada 1 2 (.tmp 2) (.const (.int .i64 1)), (some (8, false))⟩,
  ⟨(some 10), .ld none (.tmp 9), (some (8, false))⟩,
  ⟨(some 11), .rcall (.func 96) [(.tmp 10)], (some (8, false))⟩,
  ⟨(some 12), .un .not (.tmp 11), (some (8, false))⟩,
  ⟨(some 13), .pick (.tmp 8) (.const (.bool true)) (.tmp 12), none⟩,
  ⟨(some 14), .mv (.tmp 13), none⟩,
  ⟨(some 15), .iada 1 2 (.tmp 2) (.const (.int .i64 0)), (some (14, false))⟩,
  ⟨(some 16), .ld none (.tmp 15), (some (14, false))⟩,
  ⟨(some 17), .iada 1 2 (.tmp 2) (.const (.int .i64 1)), (some (14, false))⟩,
  ⟨(some 18), .ld none (.tmp 17), (some (14, false))⟩,
  ⟨(some 19), .bin .gtr (.tmp 16) (.tmp 18), (some (14, false))⟩,
  ⟨(some 20), .pick (.tmp 14) (.const (.bool true)) (.tmp 19), none⟩,
  ⟨(some 21), .mv (.tmp 20), none⟩,
  ⟨(some 22), .iada 1 2 (.tmp 2) (.const (.int .i64 1)), (some (21, false))⟩,
  ⟨(some 23), .ld none (.tmp 22), (some (21, false))⟩,
  ⟨(some 24), .ld (some 6) (.tmp 1), (some (21, false))⟩,
  ⟨(some 25), .rcall (.func 116) [(.tmp 24)], (some (21, false))⟩,
  ⟨(some 26), .bin .lss (.tmp 23) (.tmp 25), (some (21, false))⟩,
  ⟨(some 27), .pick (.tmp 21) (.const (.bool true)) (.tmp 26), none⟩,
  ⟨(some 3), .mv (.tmp 27), none⟩])
 (.ret))
def r_impl_isPolicy_1 : List ARes := [.tmp 3]
theorem ok_impl_isPolicy_1 : FnOk Try.prog 115 28 c_impl_isPolicy_1 r_impl_isPolicy_1 := ⟨⟨Try.f115, _, Try.func115, by kernel_rfl, rfl, rfl, by kernel_rfl, by kernel_rfl⟩⟩
def c_impl_floorOf : ACode := .seq (.reg [⟨(some 1), .box 26 (.tmp 0), none⟩,
  ⟨(some 2), .mv (.const (.int .i64 0)), none⟩])
 (.seq (.reg [⟨(some 3), .fad 1 (.tmp 1), none⟩,
  ⟨(some 4), .ld none (.tmp 3), none⟩,
  ⟨(some 5), .len (.tmp 4), none⟩,
  ⟨(some 6), .bin .sub (.tmp 5) (.const (.int .i64 1)), none⟩,
  ⟨(some 7), .bin .sub (.tmp 6) (.const (.int .i64 10)), none⟩,
  ⟨(some 2), .mv (.tmp 7), none⟩])
 (.ret))
def r_impl_floorOf : List ARes := [.tmp 2]
theorem ok_impl_floorOf : FnOk Try.prog 116 8 c_impl_floorOf r_impl_floorOf := ⟨⟨Try.f116, _, Try.func116, by kernel_rfl, rfl, rfl, by kernel_rfl, by kernel_rfl⟩⟩
def c_slices_ContainsFunc_a2int : ACode := .seq (.reg [⟨(some 4), .mv (.const (.bool false)), none⟩])
 (.seq (.reg [⟨(some 5), .mv (.tmp 0), none⟩,
  ⟨(some 6), .mv (.tmp 1), none⟩,
  ⟨(some 7), .call (.func 141) [(.tmp 5), (.tmp 6)], none⟩,
  ⟨(some 8), .bin .geq (.tmp 7) (.const (.int .i64 0)), none⟩,
  ⟨(some 4), .mv (.tmp 8), none⟩])
 (.ret))
def r_slices_ContainsFunc_a2int : List ARes := [.tmp 4]
theorem ok_slices_ContainsFunc_a2int : FnOk Try.prog 117 9 c_slices_ContainsFunc_a2int r_slices_ContainsFunc_a2int := ⟨⟨Try.f117, _, Try.func117, by kernel_rfl, rfl, rfl, by kernel_rfl, by kernel_rfl⟩⟩
def c_impl_moveCost : ACode := .seq (.reg [⟨(some 3), .box 26 (.tmp 0), none⟩,
  ⟨(some 4), .box 83 (.tmp 1), none⟩,
  ⟨(some 6), .mv (.const (.int .i64 0)), none⟩])
 (.seq (.reg [⟨(some 7), .ld (some 6) (.tmp 3), none⟩,
  ⟨(some 8), .fad 1 (.tmp 4), none⟩,
  ⟨(some 9), .ld none (.tmp 8), none⟩,
  ⟨(some 10), .fad 2 (.tmp 4), none⟩,
  ⟨(some 11), .ld none (.tmp 10), none⟩,
  ⟨(some 13), .ld (some 6) (.tmp 3), none⟩,
  ⟨(some 14), .fad 0 (.tmp 4), none⟩,
  ⟨(some 15), .ld none (.tmp 14), none⟩,
  ⟨(some 18), .ld (some 6) (.tmp 3), none⟩,
  ⟨(some 19), .fad 0 (.tmp 4), none⟩,
  ⟨(some 20), .ld none (.tmp 19), none⟩,
  ⟨(some 21), .fad 2 (.tmp 4), none⟩,
  ⟨(some 22), .ld none (.tmp 21), none⟩,
  ⟨(some 23), .mv (.tmp 2), none⟩,
  ⟨(some 12), .rcall (.func 112) [(.tmp 7), (.tmp 9), (.tmp 11)], none⟩,
  ⟨(some 16), .rcall (.func 85) [(.tmp 13), (.tmp 15)], none⟩,
  ⟨(some 17), .bin .mul (.tmp 12) (.tmp 16), none⟩,
  ⟨(some 24), .rcall (.func 138) [(.tmp 18), (.tmp 20), (.tmp 22), (.tmp 23)], none⟩,
  ⟨(some 25), .bin .add (.tmp 17) (.tmp 24), none⟩,
  ⟨(some 6), .mv (.tmp 25), none⟩])
 (.ret))
def r_impl_moveCost : List ARes := [.tmp 6]
theorem ok_impl_moveCost : FnOk Try.prog 118 26 c_impl_moveCost r_impl_moveCost := ⟨⟨Try.f118, _, Try.func118, by kernel_rfl, rfl, rfl, by kernel_rfl, by kernel_rfl⟩⟩
def c_spec_l2Row : ACode := .seq (.reg [⟨(some 6), .mv (.const (.bool false)), none⟩])
 (.seq (.seq (.reg [⟨(some 7), .mv (.const (.int .i64 0)), none⟩])
 (.block 0 (.loop (.seq (.seq (.reg [⟨(some 8), .mv (.tmp 7), none⟩,
  ⟨(some 9), .mv (.tmp 0), none⟩,
  ⟨(some 10), .len (.tmp 9), none⟩,
  ⟨(some 11), .bin .lss (.tmp 8) (.tmp 10), none⟩])
 (.cond (.tmp 11) (.skip) (.exit 0)))
 (.seq (.block 1 (.seq (.reg [⟨(some 14), .mv (.tmp 0), none⟩,
  ⟨(some 15), .mv (.tmp 7), none⟩,
  ⟨(some 16), .iad 1 (.tmp 14) (.tmp 15), none⟩,
  ⟨(some 17), .ld none (.tmp 16), none⟩,
  ⟨(some 18), .mv (.tmp 2), none⟩,
  ⟨(some 19), .call (.func 89) [(.tmp 17), (.const (.int .i64 0)), (.tmp 18)], none⟩,
  ⟨(some 20), .un .not (.tmp 19), none⟩])
 (.cond (.tmp 20) (.seq (.reg [⟨(some 6), .mv (.const (.bool false)), none⟩])
 (.ret)) (.skip))))
 (.reg [⟨(some 12), .mv (.tmp 7), none⟩,
  ⟨(some 13), .bin .add (.tmp 12) (.const (.int .i64 1)), none⟩,
  ⟨(some 7), .mv (.tmp 13), none⟩]))))))
 (.seq (.reg [⟨(some 21), .mv (.tmp 0), none⟩,
  ⟨(some 22), .len (.tmp 21), none⟩,
  ⟨(some 23), .mv (.tmp 1), none⟩,
  ⟨(some 24), .bin .eql (.tmp 22) (.tmp 23), none⟩,
  ⟨(some 6), .mv (.tmp 24), none⟩])
 (.ret)))
def r_spec_l2Row : List ARes := [.tmp 6]
theorem ok_spec_l2Row : FnOk Try.prog 119 25 c_spec_l2Row r_spec_l2Row := ⟨⟨Try.f119, _, Try.func119, by kernel_rfl, rfl, rfl, by kernel_rfl, by kernel_rfl⟩⟩
def c_spec_l6Floor : ACode := .seq (.reg [⟨(some 1), .box 26 (.tmp 0), none⟩,
  ⟨(some 2), .mv (.const (.int .i64 0)), none⟩])
 (.seq (.reg [⟨(some 3), .fad 1 (.tmp 1), none⟩,
  ⟨(some 4), .ld none (.tmp 3), none⟩,
  ⟨(some 5), .len (.tmp 4), none⟩,
  ⟨(some 6), .bin .sub (.tmp 5) (.const (.int .i64 1)), none⟩,
  ⟨(some 7), .bin .sub (.tmp 6) (.const (.int .i64 10)), none⟩,
  ⟨(some 2), .mv (.tmp 7), none⟩])
 (.ret))
def r_spec_l6Floor : List ARes := [.tmp 2]
theorem ok_spec_l6Floor : FnOk Try.prog 120 8 c_spec_l6Floor r_spec_l6Floor := ⟨⟨Try.f120, _, Try.func120, by kernel_rfl, rfl, rfl, by kernel_rfl, by kernel_rfl⟩⟩
def c_impl_isRow : ACode := .seq (.reg [⟨(some 5), .box 3 (.tmp 2), none⟩,
  ⟨(some 6), .mv (.const (.bool false)), none⟩])
 (.seq (.reg [⟨(some 8), .mkf 142 [] [(.tmp 5)], none⟩,
  ⟨(some 7), .mv (.tmp 8), none⟩])
 (.seq (.reg [⟨(some 9), .mv (.tmp 0), none⟩,
  ⟨(some 10), .len (.tmp 9), none⟩,
  ⟨(some 11), .mv (.tmp 1), none⟩,
  ⟨(some 12), .bin .eql (.tmp 10) (.tmp 11), none⟩,
  ⟨(some 13), .mv (.tmp 12), none⟩,
  ⟨(some 14), .mv (.tmp 0), (some (13, true))⟩,
  ⟨(some 15), .mv (.tmp 7), (some (13, true))⟩,
  ⟨(some 16), .call (.func 129) [(.tmp 14), (.tmp 15)], (some (13, true))⟩,
  ⟨(some 17), .un .not (.tmp 16), (some (13, true))⟩,
  ⟨(some 18), .pick (.tmp 13) (.tmp 17) (.const (.bool false)), none⟩,
  ⟨(some 6), .mv (.tmp 18), none⟩])
 (.ret)))
def r_impl_isRow : List ARes := [.tmp 6]
theorem ok_impl_isRow : FnOk Try.prog 121 19 c_impl_isRow r_impl_isRow := ⟨⟨Try.f121, _, Try.func121, by kernel_rfl, rfl, rfl, by kernel_rfl, by kernel_rfl⟩⟩
def c_impl_worthTable_1 : ACode := .seq (.reg [⟨(some 7), .alc 83 [(.int .i64 0), (.int .i64 0), (.int .i64 0)], none⟩])
 (.seq (.reg [⟨(some 8), .ld (some 6) (.tmp 3), none⟩,
  ⟨(some 9), .mv (.tmp 0), none⟩,
  ⟨(some 10), .mv (.tmp 1), none⟩,
  ⟨(some 11), .mv (.tmp 2), none⟩,
  ⟨(some 12), .call (.func 97) [(.tmp 8), (.tmp 9), (.tmp 10), (.tmp 11)], none⟩,
  ⟨none, .st 3 (.tmp 7) (.tmp 12), none⟩])
 (.ret))
def r_impl_worthTable_1 : List ARes := [.cell 7 (some 3)]
theorem ok_impl_worthTable_1 : FnOk Try.prog 122 13 c_impl_worthTable_1 r_impl_worthTable_1 := ⟨⟨Try.f122, _, Try.func122, by kernel_rfl, rfl, rfl, by kernel_rfl, by kernel_rfl⟩⟩
def c_slices_Min : ACode := .seq (.reg [⟨(some 2), .mv (.const (.int .i64 0)), none⟩])
 (.seq (.seq (.reg [⟨(some 5), .mv (.tmp 0), none⟩,
  ⟨(some 6), .len (.tmp 5), none⟩,
  ⟨(some 7), .bin .lss (.tmp 6) (.const (.int .i64 1)), none⟩])
 (.cond (.tmp 7) (.reg [⟨(some 8), .never, none⟩,
  ⟨none, .never, none⟩]) (.skip)))
 (.seq (.reg [⟨(some 9), .mv (.tmp 0), none⟩,
  ⟨(some 10), .iad 1 (.tmp 9) (.const (.int .i64 0)), none⟩,
  ⟨(some 11), .ld none (.tmp 10), none⟩,
  ⟨(some 3), .mv (.tmp 11), none⟩])
 (.seq (.seq (.reg [⟨(some 4), .mv (.const (.int .i64 1)), none⟩])
 (.block 0 (.loop (.seq (.seq (.reg [⟨(some 12), .mv (.tmp 4), none⟩,
  ⟨(some 13), .mv (.tmp 0), none⟩,
  ⟨(some 14), .len (.tmp 13), none⟩,
  ⟨(some 15), .bin .lss (.tmp 12) (.tmp 14), none⟩])
 (.cond (.tmp 15) (.skip) (.exit 0)))
 (.seq (.block 1 (.reg [⟨(some 18), .mv (.tmp 3), none⟩,
  ⟨(some 19), .mv (.tmp 0), none⟩,
  ⟨(some 20), .mv (.tmp 4), none⟩,
  ⟨(some 21), .iad 1 (.tmp 19) (.tmp 20), none⟩,
  ⟨(some 22), .ld none (.tmp 21), none⟩,
  ⟨(some 23), .mmx false (.tmp 18) (.tmp 22), none⟩,
  ⟨(some 3), .mv (.tmp 23), none⟩]))
 (.reg [⟨(some 16), .mv (.tmp 4), none⟩,
  ⟨(some 17), .bin .add (.tmp 16) (.const (.int .i64 1)), none⟩,
  ⟨(some 4), .mv (.tmp 17), none⟩]))))))
 (.seq (.reg [⟨(some 24), .mv (.tmp 3), none⟩,
  ⟨(some 2), .mv (.tmp 24), none⟩])
 (.ret)))))
def r_slices_Min : List ARes := [.tmp 2]
theorem ok_slices_Min : FnOk Try.prog 123 25 c_slices_Min r_slices_Min := ⟨⟨Try.f123, _, Try.func123, by kernel_rfl, rfl, rfl, by kernel_rfl, by kernel_rfl⟩⟩
def c_slices_IndexFunc : ACode := .seq (.reg [⟨(some 4), .mv (.const (.int .i64 0)), none⟩])
 (.seq (.seq (.reg [⟨(some 6), .mv (.tmp 0), none⟩,
  ⟨(some 7), .len (.tmp 6), none⟩,
  ⟨(some 8), .mv (.const (.int .i64 0)), none⟩])
 (.block 0 (.loop (.seq (.reg [⟨(some 9), .bin .lss (.tmp 8) (.tmp 7), none⟩])
 (.seq (.cond (.tmp 9) (.skip) (.exit 0))
 (.seq (.block 1 (.seq (.reg [⟨(some 10), .mv (.tmp 8), none⟩,
  ⟨(some 5), .mv (.tmp 10), none⟩])
 (.seq (.reg [⟨(some 11), .mv (.tmp 1), none⟩,
  ⟨(some 12), .mv (.tmp 0), none⟩,
  ⟨(some 13), .mv (.tmp 5), none⟩,
  ⟨(some 14), .iad 1 (.tmp 12) (.tmp 13), none⟩,
  ⟨(some 15), .ld none (.tmp 14), none⟩,
  ⟨(some 16), .call (.tmp 11) [(.tmp 15)], none⟩])
 (.cond (.tmp 16) (.seq (.reg [⟨(some 17), .mv (.tmp 5), none⟩,
  ⟨(some 4), .mv (.tmp 17), none⟩])
 (.ret)) (.skip)))))
 (.reg [⟨(some 18), .bin .add (.tmp 8) (.const (.int .i64 1)), none⟩,
  ⟨(some 8), .mv (.tmp 18), none⟩])))))))
 (.seq (.reg [⟨(some 4), .mv (.const (.int .i64 (-1))), none⟩])
 (.ret)))
def r_slices_IndexFunc : List ARes := [.tmp 4]
theorem ok_slices_IndexFunc : FnOk Try.prog 124 19 c_slices_IndexFunc r_slices_IndexFunc := ⟨⟨Try.f124, _, Try.func124, by kernel_rfl, rfl, rfl, by kernel_rfl, by kernel_rfl⟩⟩
def c_impl_bestPair_1 : ACode := .seq (.reg [⟨(some 3), .mv (.const (.bool false)), none⟩])
 (.seq (.reg [⟨(some 4), .mv (.tmp 0), none⟩,
  ⟨(some 5), .ld none (.tmp 1), none⟩,
  ⟨(some 6), .bin .leq (.tmp 4) (.tmp 5), none⟩,
  ⟨(some 3), .mv (.tmp 6), none⟩])
 (.ret))
def r_impl_bestPair_1 : List ARes := [.tmp 3]
theorem ok_impl_bestPair_1 : FnOk Try.prog 125 7 c_impl_bestPair_1 r_impl_bestPair_1 := ⟨⟨Try.f125, _, Try.func125, by kernel_rfl, rfl, rfl, by kernel_rfl, by kernel_rfl⟩⟩
def c_slices_Index : ACode := .seq (.reg [⟨(some 4), .mv (.const (.int .i64 0)), none⟩])
 (.seq (.seq (.reg [⟨(some 6), .mv (.tmp 0), none⟩,
  ⟨(some 7), .len (.tmp 6), none⟩,
  ⟨(some 8), .mv (.const (.int .i64 0)), none⟩])
 (.block 0 (.loop (.seq (.reg [⟨(some 9), .bin .lss (.tmp 8) (.tmp 7), none⟩])
 (.seq (.cond (.tmp 9) (.skip) (.exit 0))
 (.seq (.block 1 (.seq (.reg [⟨(some 10), .mv (.tmp 8), none⟩,
  ⟨(some 5), .mv (.tmp 10), none⟩])
 (.seq (.reg [⟨(some 11), .mv (.tmp 1), none⟩,
  ⟨(some 12), .mv (.tmp 0), none⟩,
  ⟨(some 13), .mv (.tmp 5), none⟩,
  ⟨(some 14), .iad 1 (.tmp 12) (.tmp 13), none⟩,
  ⟨(some 15), .ld none (.tmp 14), none⟩,
  ⟨(some 16), .bin .eql (.tmp 11) (.tmp 15), none⟩])
 (.cond (.tmp 16) (.seq (.reg [⟨(some 17), .mv (.tmp 5), none⟩,
  ⟨(some 4), .mv (.tmp 17), none⟩])
 (.ret)) (.skip)))))
 (.reg [⟨(some 18), .bin .add (.tmp 8) (.const (.int .i64 1)), none⟩,
  ⟨(some 8), .mv (.tmp 18), none⟩])))))))
 (.seq (.reg [⟨(some 4), .mv (.const (.int .i64 (-1))), none⟩])
 (.ret)))
def r_slices_Index : List ARes := [.tmp 4]
theorem ok_slices_Index : FnOk Try.prog 126 19 c_slices_Index r_slices_Index := ⟨⟨Try.f126, _, Try.func126, by kernel_rfl, rfl, rfl, by kernel_rfl, by kernel_rfl⟩⟩
def c_impl_areValues_1 : ACode := .seq (.reg [⟨(some 2), .mv (.const (.bool false)), none⟩])
 (.seq (.reg [⟨(some 3), .mv (.tmp 0), none⟩,
  ⟨(some 4), .call (.func 128) [(.tmp 3), (.const (.int .i64 1000000000000))], none⟩,
  ⟨(some 5), .un .not (.tmp 4), none⟩,
  ⟨(some 2), .mv (.tmp 5), none⟩])
 (.ret))
def r_impl_areValues_1 : List ARes := [.tmp 2]
theorem ok_impl_areValues_1 : FnOk Try.prog 127 6 c_impl_areValues_1 r_impl_areValues_1 := ⟨⟨Try.f127, _, Try.func127, by kernel_rfl, rfl, rfl, by kernel_rfl, by kernel_rfl⟩⟩
def c_impl_isNear : ACode := .seq (.reg [⟨(some 4), .mv (.const (.bool false)), none⟩])
 (.seq (.reg [⟨(some 5), .mv (.tmp 0), none⟩,
  ⟨(some 6), .mv (.tmp 1), none⟩,
  ⟨(some 7), .un .neg (.tmp 6), none⟩,
  ⟨(some 8), .bin .geq (.tmp 5) (.tmp 7), none⟩,
  ⟨(some 9), .mv (.tmp 8), none⟩,
  ⟨(some 10), .mv (.tmp 0), (some (9, true))⟩,
  ⟨(some 11), .mv (.tmp 1), (some (9, true))⟩,
  ⟨(some 12), .bin .leq (.tmp 10) (.tmp 11), (some (9, true))⟩,
  ⟨(some 13), .pick (.tmp 9) (.tmp 12) (.const (.bool false)), none⟩,
  ⟨(some 4), .mv (.tmp 13), none⟩])
 (.ret))
def r_impl_isNear : List ARes := [.tmp 4]
theorem ok_impl_isNear : FnOk Try.prog 128 14 c_impl_isNear r_impl_isNear := ⟨⟨Try.f128, _, Try.func128, by kernel_rfl, rfl, rfl, by kernel_rfl, by kernel_rfl⟩⟩
def c_slices_ContainsFunc : ACode := .seq (.reg [⟨(some 4), .mv (.const (.bool false)), none⟩])
 (.seq (.reg [⟨(some 5), .mv (.tmp 0), none⟩,
  ⟨(some 6), .mv (.tmp 1), none⟩,
  ⟨(some 7), .call (.func 124) [(.tmp 5), (.tmp 6)], none⟩,
  ⟨(some 8), .bin .geq (.tmp 7) (.const (.int .i64 0)), none⟩,
  ⟨(some 4), .mv (.tmp 8), none⟩])
 (.ret))
def r_slices_ContainsFunc : List ARes := [.tmp 4]
theorem ok_slices_ContainsFunc : FnOk Try.prog 129 9 c_slices_ContainsFunc r_slices_ContainsFunc := ⟨⟨Try.f129, _, Try.func129, by kernel_rfl, rfl, rfl, by kernel_rfl, by kernel_rfl⟩⟩
def c_impl_isValueTable_1 : ACode := .seq (.reg [⟨(some 2), .mv (.const (.bool false)), none⟩])
 (.seq (.reg [⟨(some 3), .mv (.tmp 0), none⟩,
  ⟨(some 4), .len (.tmp 3), none⟩,
  ⟨(some 5), .bin .neq (.tmp 4) (.const (.int .i64 21)), none⟩,
  ⟨(some 6), .mv (.tmp 5), none⟩,
  ⟨(some 7), .mv (.tmp 0), (some (6, false))⟩,
  ⟨(some 8), .call (.func 87) [(.tmp 7)], (some (6, false))⟩,
  ⟨(some 9), .un .not (.tmp 8), (some (6, false))⟩,
  ⟨(some 10), .pick (.tmp 6) (.const (.bool true)) (.tmp 9), none⟩,
  ⟨(some 2), .mv (.tmp 10), none⟩])
 (.ret))
def r_impl_isValueTable_1 : List ARes := [.tmp 2]
theorem ok_impl_isValueTable_1 : FnOk Try.prog 130 11 c_impl_isValueTable_1 r_impl_isValueTable_1 := ⟨⟨Try.f130, _, Try.func130, by kernel_rfl, rfl, rfl, by kernel_rfl, by kernel_rfl⟩⟩
def c_slices_ContainsFunc_sint : ACode := .seq (.reg [⟨(some 4), .mv (.const (.bool false)), none⟩])
 (.seq (.reg [⟨(some 5), .mv (.tmp 0), none⟩,
  ⟨(some 6), .mv (.tmp 1), none⟩,
  ⟨(some 7), .call (.func 143) [(.tmp 5), (.tmp 6)], none⟩,
  ⟨(some 8), .bin .geq (.tmp 7) (.const (.int .i64 0)), none⟩,
  ⟨(some 4), .mv (.tmp 8), none⟩])
 (.ret))
def r_slices_ContainsFunc_sint : List ARes := [.tmp 4]
theorem ok_slices_ContainsFunc_sint : FnOk Try.prog 131 9 c_slices_ContainsFunc_sint r_slices_ContainsFunc_sint := ⟨⟨Try.f131, _, Try.func131, by kernel_rfl, rfl, rfl, by kernel_rfl, by kernel_rfl⟩⟩
def c_slices_Max : ACode := .seq (.reg [⟨(some 2), .mv (.const (.int .i64 0)), none⟩])
 (.seq (.seq (.reg [⟨(some 5), .mv (.tmp 0), none⟩,
  ⟨(some 6), .len (.tmp 5), none⟩,
  ⟨(some 7), .bin .lss (.tmp 6) (.const (.int .i64 1)), none⟩])
 (.cond (.tmp 7) (.reg [⟨(some 8), .never, none⟩,
  ⟨none, .never, none⟩]) (.skip)))
 (.seq (.reg [⟨(some 9), .mv (.tmp 0), none⟩,
  ⟨(some 10), .iad 1 (.tmp 9) (.const (.int .i64 0)), none⟩,
  ⟨(some 11), .ld none (.tmp 10), none⟩,
  ⟨(some 3), .mv (.tmp 11), none⟩])
 (.seq (.seq (.reg [⟨(some 4), .mv (.const (.int .i64 1)), none⟩])
 (.block 0 (.loop (.seq (.seq (.reg [⟨(some 12), .mv (.tmp 4), none⟩,
  ⟨(some 13), .mv (.tmp 0), none⟩,
  ⟨(some 14), .len (.tmp 13), none⟩,
  ⟨(some 15), .bin .lss (.tmp 12) (.tmp 14), none⟩])
 (.cond (.tmp 15) (.skip) (.exit 0)))
 (.seq (.block 1 (.reg [⟨(some 18), .mv (.tmp 3), none⟩,
  ⟨(some 19), .mv (.tmp 0), none⟩,
  ⟨(some 20), .mv (.tmp 4), none⟩,
  ⟨(some 21), .iad 1 (.tmp 19) (.tmp 20), none⟩,
  ⟨(some 22), .ld none (.tmp 21), none⟩,
  ⟨(some 23), .mmx true (.tmp 18) (.tmp 22), none⟩,
  ⟨(some 3), .mv (.tmp 23), none⟩]))
 (.reg [⟨(some 16), .mv (.tmp 4), none⟩,
  ⟨(some 17), .bin .add (.tmp 16) (.const (.int .i64 1)), none⟩,
  ⟨(some 4), .mv (.tmp 17), none⟩]))))))
 (.seq (.reg [⟨(some 24), .mv (.tmp 3), none⟩,
  ⟨(some 2), .mv (.tmp 24), none⟩])
 (.ret)))))
def r_slices_Max : List ARes := [.tmp 2]
theorem ok_slices_Max : FnOk Try.prog 132 25 c_slices_Max r_slices_Max := ⟨⟨Try.f132, _, Try.func132, by kernel_rfl, rfl, rfl, by kernel_rfl, by kernel_rfl⟩⟩
def c_impl_firstMove : ACode := .seq (.reg [⟨(some 2), .box 26 (.tmp 0), none⟩,
  ⟨(some 4), .alc 83 [(.int .i64 0), (.int .i64 0), (.int .i64 0)], none⟩])
 (.seq (.reg [⟨(some 5), .mv (.tmp 1), none⟩,
  ⟨(some 6), .ld (some 6) (.tmp 2), none⟩,
  ⟨(some 7), .call (.func 116) [(.tmp 6)], none⟩,
  ⟨(some 8), .bld [(.int .i64 0), (.int .i64 0), (.int .i64 0)] [(0, 1, (.tmp 5)), (1, 1, (.const (.int .i64 (-10)))), (2, 1, (.tmp 7))], none⟩,
  ⟨none, .st 3 (.tmp 4) (.tmp 8), none⟩])
 (.ret))
def r_impl_firstMove : List ARes := [.cell 4 (some 3)]
theorem ok_impl_firstMove : FnOk Try.prog 133 9 c_impl_firstMove r_impl_firstMove := ⟨⟨Try.f133, _, Try.func133, by kernel_rfl, rfl, rfl, by kernel_rfl, by kernel_rfl⟩⟩
def c_impl_placeOf : ACode := .seq (.reg [⟨(some 2), .mv (.const (.int .i64 0)), none⟩])
 (.seq (.reg [⟨(some 3), .mv (.tmp 0), none⟩,
  ⟨(some 4), .bin .add (.tmp 3) (.const (.int .i64 10)), none⟩,
  ⟨(some 2), .mv (.tmp 4), none⟩])
 (.ret))
def r_impl_placeOf : List ARes := [.tmp 2]
theorem ok_impl_placeOf : FnOk Try.prog 134 5 c_impl_placeOf r_impl_placeOf := ⟨⟨Try.f134, _, Try.func134, by kernel_rfl, rfl, rfl, by kernel_rfl, by kernel_rfl⟩⟩
def c_spec_l1Most : ACode := .seq (.reg [⟨(some 4), .mv (.const (.int .i64 0)), none⟩])
 (.seq (.seq (.reg [⟨(some 5), .mv (.tmp 0), none⟩,
  ⟨(some 6), .mv (.tmp 1), none⟩,
  ⟨(some 7), .bin .gtr (.tmp 5) (.tmp 6), none⟩])
 (.cond (.tmp 7) (.seq (.reg [⟨(some 8), .mv (.tmp 0), none⟩,
  ⟨(some 4), .mv (.tmp 8), none⟩])
 (.ret)) (.skip)))
 (.seq (.reg [⟨(some 9), .mv (.tmp 1), none⟩,
  ⟨(some 4), .mv (.tmp 9), none⟩])
 (.ret)))
def r_spec_l1Most : List ARes := [.tmp 4]
theorem ok_spec_l1Most : FnOk Try.prog 137 10 c_spec_l1Most r_spec_l1Most := ⟨⟨Try.f137, _, Try.func137, by kernel_rfl, rfl, rfl, by kernel_rfl, by kernel_rfl⟩⟩
def c_impl_askedCost : ACode := .seq (.reg [⟨(some 4), .box 26 (.tmp 0), none⟩,
  ⟨(some 8), .mv (.const (.int .i64 0)), none⟩])
 (.seq (.reg [⟨(some 9), .mv (.const (.int .i64 0)), none⟩])
 (.seq (.seq (.reg [⟨(some 12), .fad 1 (.tmp 4), none⟩,
  ⟨(some 13), .ld none (.tmp 12), none⟩,
  ⟨(some 14), .len (.tmp 13), none⟩,
  ⟨(some 15), .mv (.const (.int .i64 0)), none⟩])
 (.block 0 (.loop (.seq (.reg [⟨(some 16), .bin .lss (.tmp 15) (.tmp 14), none⟩])
 (.seq (.cond (.tmp 16) (.skip) (.exit 0))
 (.seq (.block 1 (.seq (.reg [⟨(some 17), .mv (.tmp 15), none⟩,
  ⟨(some 18), .iad 1 (.tmp 13) (.tmp 15), none⟩,
  ⟨(some 19), .ld none (.tmp 18), none⟩,
  ⟨(some 10), .mv (.tmp 17), none⟩,
  ⟨(some 11), .mv (.tmp 19), none⟩])
 (.reg [⟨(some 20), .mv (.tmp 9), none⟩,
  ⟨(some 21), .mv (.tmp 11), none⟩,
  ⟨(some 22), .ld (some 6) (.tmp 4), none⟩,
  ⟨(some 23), .mv (.tmp 2), none⟩,
  ⟨(some 24), .mv (.tmp 10), none⟩,
  ⟨(some 25), .bin .sub (.tmp 23) (.tmp 24), none⟩,
  ⟨(some 27), .ld (some 6) (.tmp 4), none⟩,
  ⟨(some 28), .mv (.tmp 1), none⟩,
  ⟨(some 29), .bin .add (.tmp 28) (.const (.int .i64 1)), none⟩,
  ⟨(some 32), .mv (.tmp 3), none⟩,
  ⟨(some 33), .mv (.tmp 2), none⟩,
  ⟨(some 34), .mv (.tmp 10), none⟩,
  ⟨(some 35), .bin .sub (.tmp 33) (.tmp 34), none⟩,
  ⟨(some 26), .rcall (.func 113) [(.tmp 22), (.tmp 25)], none⟩,
  ⟨(some 30), .rcall (.func 85) [(.tmp 27), (.tmp 29)], none⟩,
  ⟨(some 31), .bin .mul (.tmp 26) (.tmp 30), none⟩,
  ⟨(some 36), .rcall (.func 134) [(.tmp 35)], none⟩,
  ⟨(some 37), .iad 1 (.tmp 32) (.tmp 36), none⟩,
  ⟨(some 38), .ld none (.tmp 37), none⟩,
  ⟨(some 39), .bin .add (.tmp 31) (.tmp 38), none⟩,
  ⟨(some 40), .bin .mul (.tmp 21) (.tmp 39), none⟩,
  ⟨(some 41), .bin .add (.tmp 20) (.tmp 40), none⟩,
  ⟨(some 9), .mv (.tmp 41), none⟩])))
 (.reg [⟨(some 42), .bin .add (.tmp 15) (.const (.int .i64 1)), none⟩,
  ⟨(some 15), .mv (.tmp 42), none⟩])))))))
 (.seq (.reg [⟨(some 43), .mv (.tmp 9), none⟩,
  ⟨(some 8), .mv (.tmp 43), none⟩])
 (.ret))))
def r_impl_askedCost : List ARes := [.tmp 8]
theorem ok_impl_askedCost : FnOk Try.prog 138 44 c_impl_askedCost r_impl_askedCost := ⟨⟨Try.f138, _, Try.func138, by kernel_rfl, rfl, rfl, by kernel_rfl, by kernel_rfl⟩⟩
def c_spec_l6Bill : ACode := .seq (.reg [⟨(some 4), .box 26 (.tmp 0), none⟩,
  ⟨(some 8), .mv (.const (.int .i64 0)), none⟩])
 (.seq (.reg [⟨(some 9), .fad 3 (.tmp 4), none⟩,
  ⟨(some 10), .ld none (.tmp 9), none⟩,
  ⟨(some 11), .mv (.tmp 2), none⟩,
  ⟨(some 12), .bin .mul (.tmp 10) (.tmp 11), none⟩,
  ⟨(some 13), .ld (some 6) (.tmp 4), none⟩,
  ⟨(some 14), .mv (.tmp 3), none⟩,
  ⟨(some 17), .ld (some 6) (.tmp 4), none⟩,
  ⟨(some 18), .mv (.tmp 1), none⟩,
  ⟨(some 19), .mv (.tmp 2), none⟩,
  ⟨(some 20), .mv (.tmp 3), none⟩,
  ⟨(some 15), .rcall (.func 76) [(.tmp 13), (.tmp 14)], none⟩,
  ⟨(some 16), .bin .mul (.tmp 12) (.tmp 15), none⟩,
  ⟨(some 21), .rcall (.func 77) [(.tmp 17), (.tmp 18), (.tmp 19), (.tmp 20)], none⟩,
  ⟨(some 22), .bin .add (.tmp 16) (.tmp 21), none⟩,
  ⟨(some 8), .mv (.tmp 22), none⟩])
 (.ret))
def r_spec_l6Bill : List ARes := [.tmp 8]
theorem ok_spec_l6Bill : FnOk Try.prog 139 23 c_spec_l6Bill r_spec_l6Bill := ⟨⟨Try.f139, _, Try.func139, by kernel_rfl, rfl, rfl, by kernel_rfl, by kernel_rfl⟩⟩
def c_impl_isOwed : ACode := .seq (.reg [⟨(some 2), .mv (.const (.bool false)), none⟩])
 (.seq (.reg [⟨(some 3), .mv (.tmp 0), none⟩,
  ⟨(some 4), .bin .lss (.tmp 3) (.const (.int .i64 0)), none⟩,
  ⟨(some 2), .mv (.tmp 4), none⟩])
 (.ret))
def r_impl_isOwed : List ARes := [.tmp 2]
theorem ok_impl_isOwed : FnOk Try.prog 140 5 c_impl_isOwed r_impl_isOwed := ⟨⟨Try.f140, _, Try.func140, by kernel_rfl, rfl, rfl, by kernel_rfl, by kernel_rfl⟩⟩
def c_slices_IndexFunc_a2int : ACode := .seq (.reg [⟨(some 4), .mv (.const (.int .i64 0)), none⟩])
 (.seq (.seq (.reg [⟨(some 6), .mv (.tmp 0), none⟩,
  ⟨(some 7), .len (.tmp 6), none⟩,
  ⟨(some 8), .mv (.const (.int .i64 0)), none⟩])
 (.block 0 (.loop (.seq (.reg [⟨(some 9), .bin .lss (.tmp 8) (.tmp 7), none⟩])
 (.seq (.cond (.tmp 9) (.skip) (.exit 0))
 (.seq (.block 1 (.seq (.reg [⟨(some 10), .mv (.tmp 8), none⟩,
  ⟨(some 5), .mv (.tmp 10), none⟩])
 (.seq (.reg [⟨(some 11), .mv (.tmp 1), none⟩,
  ⟨(some 12), .mv (.tmp 0), none⟩,
  ⟨(some 13), .mv (.tmp 5), none⟩,
  ⟨(some 14), .iad 2 (.tmp 12) (.tmp 13), none⟩,
  ⟨(some 15), .ld (some 2) (.tmp 14), none⟩,
  ⟨(some 16), .call (.tmp 11) [(.tmp 15)], none⟩])
 (.cond (.tmp 16) (.seq (.reg [⟨(some 17), .mv (.tmp 5), none⟩,
  ⟨(some 4), .mv (.tmp 17), none⟩])
 (.ret)) (.skip)))))
 (.reg [⟨(some 18), .bin .add (.tmp 8) (.const (.int .i64 1)), none⟩,
  ⟨(some 8), .mv (.tmp 18), none⟩])))))))
 (.seq (.reg [⟨(some 4), .mv (.const (.int .i64 (-1))), none⟩])
 (.ret)))
def r_slices_IndexFunc_a2int : List ARes := [.tmp 4]
theorem ok_slices_IndexFunc_a2int : FnOk Try.prog 141 19 c_slices_IndexFunc_a2int r_slices_IndexFunc_a2int := ⟨⟨Try.f141, _, Try.func141, by kernel_rfl, rfl, rfl, by kernel_rfl, by kernel_rfl⟩⟩
def c_impl_isRow_1 : ACode := .seq (.reg [⟨(some 3), .mv (.const (.bool false)), none⟩])
 (.seq (.reg [⟨(some 4), .mv (.tmp 0), none⟩,
  ⟨(some 5), .ld none (.tmp 1), none⟩,
  ⟨(some 6), .call (.func 78) [(.tmp 4), (.tmp 5)], none⟩,
  ⟨(some 7), .un .not (.tmp 6), none⟩,
  ⟨(some 3), .mv (.tmp 7), none⟩])
 (.ret))
def r_impl_isRow_1 : List ARes := [.tmp 3]
theorem ok_impl_isRow_1 : FnOk Try.prog 142 8 c_impl_isRow_1 r_impl_isRow_1 := ⟨⟨Try.f142, _, Try.func142, by kernel_rfl, rfl, rfl, by kernel_rfl, by kernel_rfl⟩⟩
def c_slices_IndexFunc_sint : ACode := .seq (.reg [⟨(some 4), .mv (.const (.int .i64 0)), none⟩])
 (.seq (.seq (.reg [⟨(some 6), .mv (.tmp 0), none⟩,
  ⟨(some 7), .len (.tmp 6), none⟩,
  ⟨(some 8), .mv (.const (.int .i64 0)), none⟩])
 (.block 0 (.loop (.seq (.reg [⟨(some 9), .bin .lss (.tmp 8) (.tmp 7), none⟩])
 (.seq (.cond (.tmp 9) (.skip) (.exit 0))
 (.seq (.block 1 (.seq (.reg [⟨(some 10), .mv (.tmp 8), none⟩,
  ⟨(some 5), .mv (.tmp 10), none⟩])
 (.seq (.reg [⟨(some 11), .mv (.tmp 1), none⟩,
  ⟨(some 12), .mv (.tmp 0), none⟩,
  ⟨(some 13), .mv (.tmp 5), none⟩,
  ⟨(some 14), .iad 1 (.tmp 12) (.tmp 13), none⟩,
  ⟨(some 15), .ld none (.tmp 14), none⟩,
  ⟨(some 16), .call (.tmp 11) [(.tmp 15)], none⟩])
 (.cond (.tmp 16) (.seq (.reg [⟨(some 17), .mv (.tmp 5), none⟩,
  ⟨(some 4), .mv (.tmp 17), none⟩])
 (.ret)) (.skip)))))
 (.reg [⟨(some 18), .bin .add (.tmp 8) (.const (.int .i64 1)), none⟩,
  ⟨(some 8), .mv (.tmp 18), none⟩])))))))
 (.seq (.reg [⟨(some 4), .mv (.const (.int .i64 (-1))), none⟩])
 (.ret)))
def r_slices_IndexFunc_sint : List ARes := [.tmp 4]
theorem ok_slices_IndexFunc_sint : FnOk Try.prog 143 19 c_slices_IndexFunc_sint r_slices_IndexFunc_sint := ⟨⟨Try.f143, _, Try.func143, by kernel_rfl, rfl, rfl, by kernel_rfl, by kernel_rfl⟩⟩
end Go.Proofs.Ytddnedngjijpoaa.Ab
