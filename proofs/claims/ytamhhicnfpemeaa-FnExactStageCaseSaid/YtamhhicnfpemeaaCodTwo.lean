/- The compiled forms of functions, each checked against the translation. -/
import Derived.Test.YtamhhicnfpemeaaAb2
import Derived.Test.YtamhhicnfpemeaaProg
namespace Go.Proofs.Ytamhhicnfpemeaa.Ab
open Go Go.RowKit Go.Proofs
set_option maxRecDepth 100000
def c_impl_StageCase : ACode := .seq (.reg [⟨(some 2), .box 26 (.tmp 0), none⟩,
  ⟨(some 4), .alc 30 [(.slice none 0 0), (.slice none 0 0), (.slice none 0 0), (.slice none 0 0)], none⟩,
  ⟨(some 5), .mv (.const (.bool false)), none⟩])
 (.seq (.seq (.reg [⟨(some 6), .ld (some 3) (.tmp 2), none⟩,
  ⟨(some 7), .call (.func 32) [(.tmp 6)], none⟩,
  ⟨(some 8), .un .not (.tmp 7), none⟩,
  ⟨(some 9), .mv (.tmp 8), none⟩,
  ⟨(some 10), .mv (.tmp 1), (some (9, false))⟩,
  ⟨(some 11), .fad 1 (.tmp 2), (some (9, false))⟩,
  ⟨(some 12), .ld none (.tmp 11), (some (9, false))⟩,
  ⟨(some 13), .len (.tmp 12), (some (9, false))⟩,
  ⟨(some 14), .bin .sub (.tmp 13) (.const (.int .i64 1)), (some (9, false))⟩,
  ⟨(some 15), .call (.func 70) [(.tmp 10), (.tmp 14)], (some (9, false))⟩,
  ⟨(some 16), .un .not (.tmp 15), (some (9, false))⟩,
  ⟨(some 17), .pick (.tmp 9) (.const (.bool true)) (.tmp 16), none⟩])
 (.cond (.tmp 17) (.seq (.reg [⟨(some 18), .bld [(.slice none 0 0), (.slice none 0 0), (.slice none 0 0), (.slice none 0 0)] [], none⟩,
  ⟨none, .st 4 (.tmp 4) (.tmp 18), none⟩,
  ⟨(some 5), .mv (.const (.bool false)), none⟩])
 (.ret)) (.skip)))
 (.seq (.reg [⟨(some 19), .ld (some 3) (.tmp 2), none⟩,
  ⟨(some 20), .mv (.tmp 1), none⟩,
  ⟨(some 21), .call (.func 71) [(.tmp 19), (.tmp 20)], none⟩,
  ⟨none, .st 4 (.tmp 4) (.tmp 21), none⟩,
  ⟨(some 5), .mv (.const (.bool true)), none⟩])
 (.ret)))
def r_impl_StageCase : List ARes := [.cell 4 (some 4), .tmp 5]
theorem ok_impl_StageCase : FnOk Try.prog 20 22 c_impl_StageCase r_impl_StageCase := ⟨⟨Try.f20, _, Try.func20, by kernel_rfl, rfl, rfl, by kernel_rfl, by kernel_rfl⟩⟩
def c_spec_StageCase : ACode := .seq (.reg [⟨(some 2), .box 26 (.tmp 0), none⟩,
  ⟨(some 4), .alc 30 [(.slice none 0 0), (.slice none 0 0), (.slice none 0 0), (.slice none 0 0)], none⟩,
  ⟨(some 5), .mv (.const (.bool false)), none⟩])
 (.seq (.seq (.reg [⟨(some 6), .ld (some 3) (.tmp 2), none⟩,
  ⟨(some 7), .call (.func 72) [(.tmp 6)], none⟩,
  ⟨(some 8), .un .not (.tmp 7), none⟩,
  ⟨(some 9), .mv (.tmp 8), none⟩,
  ⟨(some 10), .mv (.tmp 1), (some (9, false))⟩,
  ⟨(some 11), .fad 1 (.tmp 2), (some (9, false))⟩,
  ⟨(some 12), .ld none (.tmp 11), (some (9, false))⟩,
  ⟨(some 13), .len (.tmp 12), (some (9, false))⟩,
  ⟨(some 14), .bin .sub (.tmp 13) (.const (.int .i64 1)), (some (9, false))⟩,
  ⟨(some 15), .call (.func 73) [(.tmp 10), (.const (.int .i64 0)), (.tmp 14)], (some (9, false))⟩,
  ⟨(some 16), .un .not (.tmp 15), (some (9, false))⟩,
  ⟨(some 17), .pick (.tmp 9) (.const (.bool true)) (.tmp 16), none⟩])
 (.cond (.tmp 17) (.seq (.reg [⟨(some 18), .bld [(.slice none 0 0), (.slice none 0 0), (.slice none 0 0), (.slice none 0 0)] [], none⟩,
  ⟨none, .st 4 (.tmp 4) (.tmp 18), none⟩,
  ⟨(some 5), .mv (.const (.bool false)), none⟩])
 (.ret)) (.skip)))
 (.seq (.reg [⟨(some 19), .fad 0 (.tmp 2), none⟩,
  ⟨(some 20), .ld none (.tmp 19), none⟩,
  ⟨(some 21), .fad 1 (.tmp 2), none⟩,
  ⟨(some 22), .ld none (.tmp 21), none⟩,
  ⟨(some 23), .mv (.tmp 1), none⟩,
  ⟨(some 24), .iad 1 (.tmp 22) (.tmp 23), none⟩,
  ⟨(some 25), .ld none (.tmp 24), none⟩,
  ⟨(some 26), .ld (some 3) (.tmp 2), none⟩,
  ⟨(some 27), .mv (.tmp 1), none⟩,
  ⟨(some 28), .rcall (.func 75) [(.tmp 26), (.tmp 27)], none⟩,
  ⟨(some 29), .rcall (.func 74) [(.tmp 20), (.tmp 25), (.tmp 28)], none⟩,
  ⟨none, .st 4 (.tmp 4) (.tmp 29), none⟩,
  ⟨(some 5), .mv (.const (.bool true)), none⟩])
 (.ret)))
def r_spec_StageCase : List ARes := [.cell 4 (some 4), .tmp 5]
theorem ok_spec_StageCase : FnOk Try.prog 21 30 c_spec_StageCase r_spec_StageCase := ⟨⟨Try.f21, _, Try.func21, by kernel_rfl, rfl, rfl, by kernel_rfl, by kernel_rfl⟩⟩
def c_impl_BestAssembly : ACode := .seq (.reg [⟨(some 6), .mv (.const (.int .i64 0)), none⟩,
  ⟨(some 7), .mv (.const (.bool false)), none⟩])
 (.seq (.seq (.reg [⟨(some 11), .mv (.tmp 0), none⟩,
  ⟨(some 12), .mv (.tmp 1), none⟩,
  ⟨(some 13), .mv (.tmp 2), none⟩,
  ⟨(some 14), .rcall (.func 79) [(.tmp 11), (.tmp 12), (.tmp 13)], none⟩,
  ⟨(some 15), .un .not (.tmp 14), none⟩,
  ⟨(some 16), .mv (.tmp 15), none⟩,
  ⟨(some 17), .mv (.tmp 2), (some (16, false))⟩,
  ⟨(some 18), .iad 1 (.tmp 17) (.const (.int .i64 0)), (some (16, false))⟩,
  ⟨(some 19), .ld none (.tmp 18), (some (16, false))⟩,
  ⟨(some 20), .mv (.tmp 2), (some (16, false))⟩,
  ⟨(some 21), .slc 1 (.tmp 20) (some (.const (.int .i64 1))) none, (some (16, false))⟩,
  ⟨(some 22), .rcall (.func 80) [(.tmp 21)], (some (16, false))⟩,
  ⟨(some 23), .bin .lss (.tmp 19) (.tmp 22), (some (16, false))⟩,
  ⟨(some 24), .pick (.tmp 16) (.const (.bool true)) (.tmp 23), none⟩])
 (.cond (.tmp 24) (.seq (.reg [⟨(some 6), .mv (.const (.int .i64 0)), none⟩,
  ⟨(some 7), .mv (.const (.bool false)), none⟩])
 (.ret)) (.skip)))
 (.seq (.reg [⟨(some 25), .bsl 84 1 0 [] [], none⟩,
  ⟨(some 8), .mv (.tmp 25), none⟩])
 (.seq (.seq (.reg [⟨(some 9), .mv (.const (.int .i64 1)), none⟩])
 (.block 0 (.loop (.seq (.seq (.reg [⟨(some 26), .mv (.tmp 9), none⟩,
  ⟨(some 27), .mv (.tmp 1), none⟩,
  ⟨(some 28), .len (.tmp 27), none⟩,
  ⟨(some 29), .bin .lss (.tmp 26) (.tmp 28), none⟩])
 (.cond (.tmp 29) (.skip) (.exit 0)))
 (.seq (.block 1 (.reg [⟨(some 32), .mv (.tmp 8), none⟩,
  ⟨(some 33), .mv (.tmp 0), none⟩,
  ⟨(some 34), .mv (.tmp 1), none⟩,
  ⟨(some 35), .mv (.tmp 9), none⟩,
  ⟨(some 36), .iad 1 (.tmp 34) (.tmp 35), none⟩,
  ⟨(some 37), .ld none (.tmp 36), none⟩,
  ⟨(some 38), .mv (.tmp 2), none⟩,
  ⟨(some 39), .mv (.tmp 9), none⟩,
  ⟨(some 40), .iad 1 (.tmp 38) (.tmp 39), none⟩,
  ⟨(some 41), .ld none (.tmp 40), none⟩,
  ⟨(some 43), .bld [] [], none⟩,
  ⟨(some 44), .never, none⟩,
  ⟨(some 42), .rcall (.func 82) [(.tmp 33), (.tmp 37), (.tmp 41)], none⟩,
  ⟨(some 45), .rcall (.func 81) [(.tmp 42), (.tmp 44)], none⟩,
  ⟨(some 46), .never, none⟩,
  ⟨(some 47), .bsl 84 1 1 [.nilIface] [(0, 1, (.tmp 46))], none⟩,
  ⟨(some 48), .app 84 1 16 (.tmp 32) (.tmp 47), none⟩,
  ⟨(some 8), .mv (.tmp 48), none⟩]))
 (.reg [⟨(some 30), .mv (.tmp 9), none⟩,
  ⟨(some 31), .bin .add (.tmp 30) (.const (.int .i64 1)), none⟩,
  ⟨(some 9), .mv (.tmp 31), none⟩]))))))
 (.seq (.seq (.reg [⟨(some 49), .mv (.tmp 0), none⟩]) (.seq (.reg [⟨(some 50), .mv (.tmp 1), none⟩]) (.seq (.reg [⟨(some 51), .iad 1 (.tmp 50) (.const (.int .i64 0)), none⟩]) (.seq (.reg [⟨(some 52), .ld none (.tmp 51), none⟩]) (.seq (.reg [⟨(some 53), .mv (.tmp 2), none⟩]) (.seq (.reg [⟨(some 54), .iad 1 (.tmp 53) (.const (.int .i64 0)), none⟩]) (.seq (.reg [⟨(some 55), .ld none (.tmp 54), none⟩]) (.seq (.reg [⟨(some 56), .mv (.tmp 2), none⟩]) (.seq (.reg [⟨(some 57), .slc 1 (.tmp 56) (some (.const (.int .i64 1))) none, none⟩]) (.seq (.reg [⟨(some 61), .mv (.tmp 8), none⟩]) (.seq (.reg [⟨(some 62), .never, none⟩]) (.both (.seq (.reg [⟨(some 58), .rcall (.func 80) [(.tmp 57)], none⟩]) (.seq (.reg [⟨(some 59), .bin .sub (.tmp 55) (.tmp 58), none⟩]) (.both (.seq (.reg [⟨(some 60), .rcall (.func 82) [(.tmp 49), (.tmp 52), (.tmp 59)], none⟩]) (.both (.seq (.reg [⟨(some 63), .rcall (.func 81) [(.tmp 60), (.tmp 62)], none⟩]) (.seq (.reg [⟨(some 10), .alc 86 [(.slice none 0 0), .nilIface], none⟩]) (.seq (.reg [⟨none, .st 2 (.tmp 10) (.tmp 63), none⟩]) (.skip)))) (.seq (.reg [⟨(some 10), .alc 86 [(.slice none 0 0), .nilIface], none⟩]) (.seq (.reg [⟨(some 63), .rcall (.func 81) [(.tmp 60), (.tmp 62)], none⟩]) (.seq (.reg [⟨none, .st 2 (.tmp 10) (.tmp 63), none⟩]) (.skip)))))) (.seq (.reg [⟨(some 10), .alc 86 [(.slice none 0 0), .nilIface], none⟩]) (.seq (.reg [⟨(some 60), .rcall (.func 82) [(.tmp 49), (.tmp 52), (.tmp 59)], none⟩]) (.seq (.reg [⟨(some 63), .rcall (.func 81) [(.tmp 60), (.tmp 62)], none⟩]) (.seq (.reg [⟨none, .st 2 (.tmp 10) (.tmp 63), none⟩]) (.skip)))))))) (.seq (.reg [⟨(some 10), .alc 86 [(.slice none 0 0), .nilIface], none⟩]) (.seq (.reg [⟨(some 58), .rcall (.func 80) [(.tmp 57)], none⟩]) (.seq (.reg [⟨(some 59), .bin .sub (.tmp 55) (.tmp 58), none⟩]) (.seq (.reg [⟨(some 60), .rcall (.func 82) [(.tmp 49), (.tmp 52), (.tmp 59)], none⟩]) (.seq (.reg [⟨(some 63), .rcall (.func 81) [(.tmp 60), (.tmp 62)], none⟩]) (.seq (.reg [⟨none, .st 2 (.tmp 10) (.tmp 63), none⟩]) (.skip)))))))))))))))))))
 (.seq (.reg [⟨(some 64), .ld (some 2) (.tmp 10), none⟩,
  ⟨(some 65), .mv (.tmp 0), none⟩,
  ⟨(some 66), .len (.tmp 65), none⟩,
  ⟨(some 67), .rcall (.func 84) [(.tmp 66)], none⟩,
  ⟨(some 68), .rcall (.func 83) [(.tmp 64), (.tmp 67)], none⟩,
  ⟨(some 69), .fld 0 none (.tmp 68), none⟩,
  ⟨(some 6), .mv (.tmp 69), none⟩,
  ⟨(some 7), .mv (.const (.bool true)), none⟩])
 (.ret))))))
def r_impl_BestAssembly : List ARes := [.tmp 6, .tmp 7]
theorem ok_impl_BestAssembly : FnOk Try.prog 24 70 c_impl_BestAssembly r_impl_BestAssembly := ⟨⟨Try.f24, _, Try.func24, by kernel_rfl, rfl, rfl, by kernel_rfl, by kernel_rfl⟩⟩
def c_spec_BestAssembly : ACode := .seq (.reg [⟨(some 6), .mv (.const (.int .i64 0)), none⟩,
  ⟨(some 7), .mv (.const (.bool false)), none⟩])
 (.seq (.seq (.reg [⟨(some 13), .mv (.tmp 0), none⟩,
  ⟨(some 14), .mv (.tmp 1), none⟩,
  ⟨(some 15), .mv (.tmp 2), none⟩,
  ⟨(some 16), .call (.func 85) [(.tmp 13), (.tmp 14), (.tmp 15)], none⟩,
  ⟨(some 17), .un .not (.tmp 16), none⟩])
 (.cond (.tmp 17) (.seq (.reg [⟨(some 6), .mv (.const (.int .i64 0)), none⟩,
  ⟨(some 7), .mv (.const (.bool false)), none⟩])
 (.ret)) (.skip)))
 (.seq (.reg [⟨(some 8), .mv (.const (.int .i64 (-1))), none⟩])
 (.seq (.seq (.reg [⟨(some 9), .mv (.const (.int .i64 0)), none⟩])
 (.block 0 (.loop (.seq (.seq (.reg [⟨(some 18), .mv (.tmp 9), none⟩,
  ⟨(some 19), .mv (.tmp 0), none⟩,
  ⟨(some 20), .len (.tmp 19), none⟩,
  ⟨(some 21), .bin .shl (.const (.int .i64 1)) (.tmp 20), none⟩,
  ⟨(some 22), .bin .lss (.tmp 18) (.tmp 21), none⟩])
 (.cond (.tmp 22) (.skip) (.exit 0)))
 (.seq (.block 1 (.seq (.reg [⟨(some 25), .mv (.tmp 0), none⟩,
  ⟨(some 26), .len (.tmp 25), none⟩,
  ⟨(some 27), .mv (.tmp 9), none⟩,
  ⟨(some 28), .call (.func 86) [(.tmp 26), (.tmp 27)], none⟩,
  ⟨(some 10), .mv (.tmp 28), none⟩])
 (.seq (.seq (.reg [⟨(some 29), .mv (.tmp 0), none⟩,
  ⟨(some 30), .mv (.tmp 10), none⟩,
  ⟨(some 31), .call (.func 87) [(.tmp 29), (.tmp 30)], none⟩,
  ⟨(some 32), .un .not (.tmp 31), none⟩])
 (.cond (.tmp 32) (.exit 1) (.skip)))
 (.seq (.reg [⟨(some 33), .mv (.tmp 0), none⟩,
  ⟨(some 34), .mv (.tmp 1), none⟩,
  ⟨(some 35), .iad 1 (.tmp 34) (.const (.int .i64 0)), none⟩,
  ⟨(some 36), .ld none (.tmp 35), none⟩,
  ⟨(some 37), .mv (.tmp 2), none⟩,
  ⟨(some 38), .iad 1 (.tmp 37) (.const (.int .i64 0)), none⟩,
  ⟨(some 39), .ld none (.tmp 38), none⟩,
  ⟨(some 40), .mv (.tmp 10), none⟩,
  ⟨(some 41), .rcall (.func 88) [(.tmp 33), (.tmp 36), (.tmp 39), (.tmp 40)], none⟩,
  ⟨(some 11), .mv (.tmp 41), none⟩])
 (.seq (.seq (.reg [⟨(some 12), .mv (.const (.int .i64 1)), none⟩])
 (.block 2 (.loop (.seq (.seq (.reg [⟨(some 42), .mv (.tmp 12), none⟩,
  ⟨(some 43), .mv (.tmp 1), none⟩,
  ⟨(some 44), .len (.tmp 43), none⟩,
  ⟨(some 45), .bin .lss (.tmp 42) (.tmp 44), none⟩])
 (.cond (.tmp 45) (.skip) (.exit 2)))
 (.seq (.block 3 (.reg [⟨(some 48), .mv (.tmp 11), none⟩,
  ⟨(some 49), .mv (.tmp 0), none⟩,
  ⟨(some 50), .mv (.tmp 10), none⟩,
  ⟨(some 52), .mv (.tmp 1), none⟩,
  ⟨(some 53), .mv (.tmp 12), none⟩,
  ⟨(some 54), .iad 1 (.tmp 52) (.tmp 53), none⟩,
  ⟨(some 55), .ld none (.tmp 54), none⟩,
  ⟨(some 56), .mv (.tmp 2), none⟩,
  ⟨(some 57), .mv (.tmp 12), none⟩,
  ⟨(some 58), .iad 1 (.tmp 56) (.tmp 57), none⟩,
  ⟨(some 59), .ld none (.tmp 58), none⟩,
  ⟨(some 51), .rcall (.func 90) [(.tmp 49), (.tmp 50)], none⟩,
  ⟨(some 60), .rcall (.func 89) [(.tmp 51), (.tmp 55), (.tmp 59)], none⟩,
  ⟨(some 61), .bin .add (.tmp 48) (.tmp 60), none⟩,
  ⟨(some 11), .mv (.tmp 61), none⟩]))
 (.reg [⟨(some 46), .mv (.tmp 12), none⟩,
  ⟨(some 47), .bin .add (.tmp 46) (.const (.int .i64 1)), none⟩,
  ⟨(some 12), .mv (.tmp 47), none⟩]))))))
 (.seq (.reg [⟨(some 62), .mv (.tmp 8), none⟩,
  ⟨(some 63), .bin .lss (.tmp 62) (.const (.int .i64 0)), none⟩,
  ⟨(some 64), .mv (.tmp 63), none⟩,
  ⟨(some 65), .mv (.tmp 11), (some (64, false))⟩,
  ⟨(some 66), .mv (.tmp 8), (some (64, false))⟩,
  ⟨(some 67), .bin .lss (.tmp 65) (.tmp 66), (some (64, false))⟩,
  ⟨(some 68), .pick (.tmp 64) (.const (.bool true)) (.tmp 67), none⟩])
 (.cond (.tmp 68) (.reg [⟨(some 69), .mv (.tmp 11), none⟩,
  ⟨(some 8), .mv (.tmp 69), none⟩]) (.skip))))))))
 (.reg [⟨(some 23), .mv (.tmp 9), none⟩,
  ⟨(some 24), .bin .add (.tmp 23) (.const (.int .i64 1)), none⟩,
  ⟨(some 9), .mv (.tmp 24), none⟩]))))))
 (.seq (.reg [⟨(some 70), .mv (.tmp 8), none⟩,
  ⟨(some 6), .mv (.tmp 70), none⟩,
  ⟨(some 7), .mv (.const (.bool true)), none⟩])
 (.ret)))))
def r_spec_BestAssembly : List ARes := [.tmp 6, .tmp 7]
theorem ok_spec_BestAssembly : FnOk Try.prog 25 71 c_spec_BestAssembly r_spec_BestAssembly := ⟨⟨Try.f25, _, Try.func25, by kernel_rfl, rfl, rfl, by kernel_rfl, by kernel_rfl⟩⟩
def c_impl_BestCost : ACode := .seq (.reg [⟨(some 1), .box 30 (.tmp 0), none⟩,
  ⟨(some 2), .mv (.const (.int .i64 0)), none⟩,
  ⟨(some 3), .mv (.const (.bool false)), none⟩])
 (.seq (.seq (.reg [⟨(some 4), .ld (some 4) (.tmp 1), none⟩,
  ⟨(some 5), .call (.func 92) [(.tmp 4)], none⟩,
  ⟨(some 6), .un .not (.tmp 5), none⟩])
 (.cond (.tmp 6) (.seq (.reg [⟨(some 2), .mv (.const (.int .i64 0)), none⟩,
  ⟨(some 3), .mv (.const (.bool false)), none⟩])
 (.ret)) (.skip)))
 (.seq (.reg [⟨(some 7), .ld (some 4) (.tmp 1), none⟩,
  ⟨(some 8), .call (.func 93) [(.tmp 7)], none⟩,
  ⟨(some 9), .fld 0 none (.tmp 8), none⟩,
  ⟨(some 2), .mv (.tmp 9), none⟩,
  ⟨(some 3), .mv (.const (.bool true)), none⟩])
 (.ret)))
def r_impl_BestCost : List ARes := [.tmp 2, .tmp 3]
theorem ok_impl_BestCost : FnOk Try.prog 27 10 c_impl_BestCost r_impl_BestCost := ⟨⟨Try.f27, _, Try.func27, by kernel_rfl, rfl, rfl, by kernel_rfl, by kernel_rfl⟩⟩
def c_impl_BestChainCost : ACode := .seq (.reg [⟨(some 1), .box 26 (.tmp 0), none⟩,
  ⟨(some 2), .mv (.const (.int .i64 0)), none⟩,
  ⟨(some 3), .mv (.const (.bool false)), none⟩])
 (.seq (.seq (.reg [⟨(some 4), .ld (some 3) (.tmp 1), none⟩,
  ⟨(some 5), .call (.func 32) [(.tmp 4)], none⟩,
  ⟨(some 6), .un .not (.tmp 5), none⟩])
 (.cond (.tmp 6) (.seq (.reg [⟨(some 2), .mv (.const (.int .i64 0)), none⟩,
  ⟨(some 3), .mv (.const (.bool false)), none⟩])
 (.ret)) (.skip)))
 (.seq (.reg [⟨(some 7), .ld (some 3) (.tmp 1), none⟩,
  ⟨(some 8), .call (.func 94) [(.tmp 7)], none⟩,
  ⟨(some 9), .fld 0 none (.tmp 8), none⟩,
  ⟨(some 2), .mv (.tmp 9), none⟩,
  ⟨(some 3), .mv (.const (.bool true)), none⟩])
 (.ret)))
def r_impl_BestChainCost : List ARes := [.tmp 2, .tmp 3]
theorem ok_impl_BestChainCost : FnOk Try.prog 28 10 c_impl_BestChainCost r_impl_BestChainCost := ⟨⟨Try.f28, _, Try.func28, by kernel_rfl, rfl, rfl, by kernel_rfl, by kernel_rfl⟩⟩
def c_spec_IsChain : ACode := .seq (.reg [⟨(some 1), .box 26 (.tmp 0), none⟩,
  ⟨(some 2), .mv (.const (.bool false)), none⟩])
 (.seq (.reg [⟨(some 3), .ld (some 3) (.tmp 1), none⟩,
  ⟨(some 4), .call (.func 72) [(.tmp 3)], none⟩,
  ⟨(some 2), .mv (.tmp 4), none⟩])
 (.ret))
def r_spec_IsChain : List ARes := [.tmp 2]
theorem ok_spec_IsChain : FnOk Try.prog 30 5 c_spec_IsChain r_spec_IsChain := ⟨⟨Try.f30, _, Try.func30, by kernel_rfl, rfl, rfl, by kernel_rfl, by kernel_rfl⟩⟩
def c_impl_IsChain : ACode := .seq (.reg [⟨(some 1), .box 26 (.tmp 0), none⟩,
  ⟨(some 2), .mv (.const (.bool false)), none⟩])
 (.seq (.reg [⟨(some 3), .fad 0 (.tmp 1), none⟩,
  ⟨(some 4), .ld none (.tmp 3), none⟩,
  ⟨(some 5), .fad 1 (.tmp 1), none⟩,
  ⟨(some 6), .ld none (.tmp 5), none⟩,
  ⟨(some 7), .fad 2 (.tmp 1), none⟩,
  ⟨(some 8), .ld none (.tmp 7), none⟩,
  ⟨(some 9), .call (.func 79) [(.tmp 4), (.tmp 6), (.tmp 8)], none⟩,
  ⟨(some 10), .mv (.tmp 9), none⟩,
  ⟨(some 11), .fad 2 (.tmp 1), (some (10, true))⟩,
  ⟨(some 12), .ld none (.tmp 11), (some (10, true))⟩,
  ⟨(some 13), .call (.func 96) [(.tmp 12)], (some (10, true))⟩,
  ⟨(some 14), .pick (.tmp 10) (.tmp 13) (.const (.bool false)), none⟩,
  ⟨(some 2), .mv (.tmp 14), none⟩])
 (.ret))
def r_impl_IsChain : List ARes := [.tmp 2]
theorem ok_impl_IsChain : FnOk Try.prog 32 15 c_impl_IsChain r_impl_IsChain := ⟨⟨Try.f32, _, Try.func32, by kernel_rfl, rfl, rfl, by kernel_rfl, by kernel_rfl⟩⟩
def c_spec_ChainStocks : ACode := .seq (.reg [⟨(some 2), .box 26 (.tmp 0), none⟩,
  ⟨(some 4), .mv (.const (.slice none 0 0)), none⟩,
  ⟨(some 5), .mv (.const (.bool false)), none⟩])
 (.seq (.seq (.reg [⟨(some 6), .ld (some 3) (.tmp 2), none⟩,
  ⟨(some 7), .mv (.tmp 1), none⟩,
  ⟨(some 8), .call (.func 97) [(.tmp 6), (.tmp 7)], none⟩,
  ⟨(some 9), .un .not (.tmp 8), none⟩])
 (.cond (.tmp 9) (.seq (.reg [⟨(some 10), .bsl 24 1 0 [] [], none⟩,
  ⟨(some 4), .mv (.tmp 10), none⟩,
  ⟨(some 5), .mv (.const (.bool false)), none⟩])
 (.ret)) (.skip)))
 (.seq (.reg [⟨(some 11), .ld (some 3) (.tmp 2), none⟩,
  ⟨(some 12), .mv (.tmp 1), none⟩,
  ⟨(some 13), .call (.func 98) [(.tmp 11), (.tmp 12)], none⟩,
  ⟨(some 4), .mv (.tmp 13), none⟩,
  ⟨(some 5), .mv (.const (.bool true)), none⟩])
 (.ret)))
def r_spec_ChainStocks : List ARes := [.tmp 4, .tmp 5]
theorem ok_spec_ChainStocks : FnOk Try.prog 35 14 c_spec_ChainStocks r_spec_ChainStocks := ⟨⟨Try.f35, _, Try.func35, by kernel_rfl, rfl, rfl, by kernel_rfl, by kernel_rfl⟩⟩
def c_impl_ChainStocks : ACode := .seq (.reg [⟨(some 2), .box 26 (.tmp 0), none⟩,
  ⟨(some 4), .alc 47 [(.slice none 0 0)], none⟩,
  ⟨(some 5), .alc 4 [(.bool false)], none⟩])
 (.seq (.seq (.reg [⟨(some 12), .ld (some 3) (.tmp 2), none⟩,
  ⟨(some 13), .call (.func 32) [(.tmp 12)], none⟩,
  ⟨(some 14), .un .not (.tmp 13), none⟩,
  ⟨(some 15), .mv (.tmp 14), none⟩,
  ⟨(some 16), .mv (.tmp 1), (some (15, false))⟩,
  ⟨(some 17), .len (.tmp 16), (some (15, false))⟩,
  ⟨(some 18), .fad 1 (.tmp 2), (some (15, false))⟩,
  ⟨(some 19), .ld none (.tmp 18), (some (15, false))⟩,
  ⟨(some 20), .len (.tmp 19), (some (15, false))⟩,
  ⟨(some 21), .bin .neq (.tmp 17) (.tmp 20), (some (15, false))⟩,
  ⟨(some 22), .pick (.tmp 15) (.const (.bool true)) (.tmp 21), none⟩])
 (.cond (.tmp 22) (.seq (.reg [⟨(some 23), .bsl 24 1 0 [] [], none⟩,
  ⟨none, .st 1 (.tmp 4) (.tmp 23), none⟩,
  ⟨none, .st 1 (.tmp 5) (.const (.bool false)), none⟩])
 (.ret)) (.skip)))
 (.seq (.reg [⟨(some 24), .mv (.tmp 1), none⟩,
  ⟨(some 25), .len (.tmp 24), none⟩,
  ⟨(some 26), .mks 24 24 [(.slice none 0 0)] (.tmp 25) (.tmp 25), none⟩,
  ⟨(some 6), .alc 47 [(.slice none 0 0)], none⟩,
  ⟨none, .st 1 (.tmp 6) (.tmp 26), none⟩])
 (.seq (.reg [⟨(some 27), .fad 0 (.tmp 2), none⟩,
  ⟨(some 28), .ld none (.tmp 27), none⟩,
  ⟨(some 7), .alc 24 [(.slice none 0 0)], none⟩,
  ⟨none, .st 1 (.tmp 7) (.tmp 28), none⟩])
 (.seq (.seq (.reg [⟨(some 29), .mv (.tmp 1), none⟩,
  ⟨(some 30), .call (.func 99) [(.tmp 29)], none⟩])
 (.block 0 (.range (.tmp 30) [31, 32] (.seq (.reg [⟨(some 8), .mv (.tmp 31), none⟩])
 (.reg [⟨(some 9), .mv (.tmp 32), none⟩])) (.block 1 (.seq (.reg [⟨(some 34), .ld none (.tmp 7), none⟩,
  ⟨(some 35), .mv (.tmp 9), none⟩,
  ⟨(some 36), .call (.func 100) [(.tmp 34), (.tmp 35)], none⟩,
  ⟨(some 33), .mv (.tmp 36), none⟩,
  ⟨(some 37), .ext 0 (.tmp 33), none⟩,
  ⟨(some 38), .ext 1 (.tmp 33), none⟩,
  ⟨(some 10), .mv (.tmp 37), none⟩,
  ⟨(some 11), .mv (.tmp 38), none⟩])
 (.seq (.seq (.reg [⟨(some 39), .mv (.tmp 11), none⟩,
  ⟨(some 40), .un .not (.tmp 39), none⟩])
 (.cond (.tmp 40) (.seq (.reg [⟨(some 41), .bsl 24 1 0 [] [], none⟩,
  ⟨none, .st 1 (.tmp 4) (.tmp 41), none⟩,
  ⟨none, .st 1 (.tmp 5) (.const (.bool false)), none⟩])
 (.ret)) (.skip)))
 (.seq (.reg [⟨(some 42), .ld none (.tmp 6), none⟩,
  ⟨(some 43), .mv (.tmp 8), none⟩,
  ⟨(some 44), .mv (.tmp 10), none⟩,
  ⟨(some 45), .iad 1 (.tmp 42) (.tmp 43), none⟩,
  ⟨none, .st 1 (.tmp 45) (.tmp 44), none⟩])
 (.reg [⟨(some 46), .mv (.tmp 9), none⟩,
  ⟨none, .st 1 (.tmp 7) (.tmp 46), none⟩]))))))))
 (.seq (.reg [⟨(some 47), .ld none (.tmp 6), none⟩,
  ⟨none, .st 1 (.tmp 4) (.tmp 47), none⟩,
  ⟨none, .st 1 (.tmp 5) (.const (.bool true)), none⟩])
 (.ret))))))
def r_impl_ChainStocks : List ARes := [.cell 4 none, .cell 5 none]
theorem ok_impl_ChainStocks : FnOk Try.prog 37 48 c_impl_ChainStocks r_impl_ChainStocks := ⟨⟨Try.f37, _, Try.func37, by kernel_rfl, rfl, rfl, by kernel_rfl, by kernel_rfl⟩⟩
def c_spec_IsChainPlan : ACode := .seq (.reg [⟨(some 2), .box 26 (.tmp 0), none⟩,
  ⟨(some 4), .mv (.const (.bool false)), none⟩,
  ⟨(some 5), .mv (.const (.bool false)), none⟩])
 (.seq (.seq (.reg [⟨(some 6), .ld (some 3) (.tmp 2), none⟩,
  ⟨(some 7), .call (.func 72) [(.tmp 6)], none⟩,
  ⟨(some 8), .un .not (.tmp 7), none⟩])
 (.cond (.tmp 8) (.seq (.reg [⟨(some 4), .mv (.const (.bool false)), none⟩,
  ⟨(some 5), .mv (.const (.bool false)), none⟩])
 (.ret)) (.skip)))
 (.seq (.reg [⟨(some 9), .ld (some 3) (.tmp 2), none⟩,
  ⟨(some 10), .mv (.tmp 1), none⟩,
  ⟨(some 11), .call (.func 101) [(.tmp 9), (.tmp 10)], none⟩,
  ⟨(some 4), .mv (.tmp 11), none⟩,
  ⟨(some 5), .mv (.const (.bool true)), none⟩])
 (.ret)))
def r_spec_IsChainPlan : List ARes := [.tmp 4, .tmp 5]
theorem ok_spec_IsChainPlan : FnOk Try.prog 42 12 c_spec_IsChainPlan r_spec_IsChainPlan := ⟨⟨Try.f42, _, Try.func42, by kernel_rfl, rfl, rfl, by kernel_rfl, by kernel_rfl⟩⟩
def c_impl_IsChainPlan : ACode := .seq (.reg [⟨(some 2), .box 26 (.tmp 0), none⟩,
  ⟨(some 4), .mv (.const (.bool false)), none⟩,
  ⟨(some 5), .mv (.const (.bool false)), none⟩])
 (.seq (.seq (.reg [⟨(some 8), .ld (some 3) (.tmp 2), none⟩,
  ⟨(some 9), .call (.func 32) [(.tmp 8)], none⟩,
  ⟨(some 10), .un .not (.tmp 9), none⟩])
 (.cond (.tmp 10) (.seq (.reg [⟨(some 4), .mv (.const (.bool false)), none⟩,
  ⟨(some 5), .mv (.const (.bool false)), none⟩])
 (.ret)) (.skip)))
 (.seq (.reg [⟨(some 12), .ld (some 3) (.tmp 2), none⟩,
  ⟨(some 13), .mv (.tmp 1), none⟩,
  ⟨(some 14), .call (.func 37) [(.tmp 12), (.tmp 13)], none⟩,
  ⟨(some 11), .mv (.tmp 14), none⟩,
  ⟨(some 15), .ext 0 (.tmp 11), none⟩,
  ⟨(some 16), .ext 1 (.tmp 11), none⟩,
  ⟨(some 6), .mv (.tmp 15), none⟩,
  ⟨(some 7), .mv (.tmp 16), none⟩])
 (.seq (.reg [⟨(some 17), .mv (.tmp 7), none⟩,
  ⟨(some 4), .mv (.tmp 17), none⟩,
  ⟨(some 5), .mv (.const (.bool true)), none⟩])
 (.ret))))
def r_impl_IsChainPlan : List ARes := [.tmp 4, .tmp 5]
theorem ok_impl_IsChainPlan : FnOk Try.prog 43 18 c_impl_IsChainPlan r_impl_IsChainPlan := ⟨⟨Try.f43, _, Try.func43, by kernel_rfl, rfl, rfl, by kernel_rfl, by kernel_rfl⟩⟩
def c_spec_ChainCost : ACode := .seq (.reg [⟨(some 2), .box 26 (.tmp 0), none⟩,
  ⟨(some 4), .mv (.const (.int .i64 0)), none⟩,
  ⟨(some 5), .mv (.const (.bool false)), none⟩])
 (.seq (.seq (.reg [⟨(some 6), .ld (some 3) (.tmp 2), none⟩,
  ⟨(some 7), .mv (.tmp 1), none⟩,
  ⟨(some 8), .call (.func 97) [(.tmp 6), (.tmp 7)], none⟩,
  ⟨(some 9), .un .not (.tmp 8), none⟩])
 (.cond (.tmp 9) (.seq (.reg [⟨(some 4), .mv (.const (.int .i64 0)), none⟩,
  ⟨(some 5), .mv (.const (.bool false)), none⟩])
 (.ret)) (.skip)))
 (.seq (.reg [⟨(some 10), .ld (some 3) (.tmp 2), none⟩,
  ⟨(some 11), .mv (.tmp 1), none⟩,
  ⟨(some 12), .call (.func 102) [(.tmp 10), (.tmp 11)], none⟩,
  ⟨(some 4), .mv (.tmp 12), none⟩,
  ⟨(some 5), .mv (.const (.bool true)), none⟩])
 (.ret)))
def r_spec_ChainCost : List ARes := [.tmp 4, .tmp 5]
theorem ok_spec_ChainCost : FnOk Try.prog 44 13 c_spec_ChainCost r_spec_ChainCost := ⟨⟨Try.f44, _, Try.func44, by kernel_rfl, rfl, rfl, by kernel_rfl, by kernel_rfl⟩⟩
def c_impl_ChainCost : ACode := .seq (.reg [⟨(some 2), .box 26 (.tmp 0), none⟩,
  ⟨(some 4), .mv (.const (.int .i64 0)), none⟩,
  ⟨(some 5), .mv (.const (.bool false)), none⟩])
 (.seq (.reg [⟨(some 14), .ld (some 3) (.tmp 2), none⟩,
  ⟨(some 15), .mv (.tmp 1), none⟩,
  ⟨(some 16), .call (.func 37) [(.tmp 14), (.tmp 15)], none⟩,
  ⟨(some 13), .mv (.tmp 16), none⟩,
  ⟨(some 17), .ext 0 (.tmp 13), none⟩,
  ⟨(some 18), .ext 1 (.tmp 13), none⟩,
  ⟨(some 6), .mv (.tmp 17), none⟩,
  ⟨(some 7), .mv (.tmp 18), none⟩])
 (.seq (.seq (.reg [⟨(some 19), .mv (.tmp 7), none⟩,
  ⟨(some 20), .un .not (.tmp 19), none⟩])
 (.cond (.tmp 20) (.seq (.reg [⟨(some 4), .mv (.const (.int .i64 0)), none⟩,
  ⟨(some 5), .mv (.const (.bool false)), none⟩])
 (.ret)) (.skip)))
 (.seq (.reg [⟨(some 8), .mv (.const (.int .i64 0)), none⟩])
 (.seq (.seq (.reg [⟨(some 21), .mv (.tmp 1), none⟩,
  ⟨(some 22), .len (.tmp 21), none⟩,
  ⟨(some 23), .mv (.const (.int .i64 0)), none⟩])
 (.block 0 (.loop (.seq (.reg [⟨(some 24), .bin .lss (.tmp 23) (.tmp 22), none⟩])
 (.seq (.cond (.tmp 24) (.skip) (.exit 0))
 (.seq (.block 1 (.seq (.reg [⟨(some 25), .mv (.tmp 23), none⟩,
  ⟨(some 26), .iad 1 (.tmp 21) (.tmp 23), none⟩,
  ⟨(some 27), .ld none (.tmp 26), none⟩,
  ⟨(some 9), .mv (.tmp 25), none⟩,
  ⟨(some 10), .mv (.tmp 27), none⟩])
 (.seq (.reg [⟨(some 28), .mv (.tmp 10), none⟩,
  ⟨(some 29), .len (.tmp 28), none⟩,
  ⟨(some 30), .mv (.const (.int .i64 0)), none⟩])
 (.block 2 (.loop (.seq (.reg [⟨(some 31), .bin .lss (.tmp 30) (.tmp 29), none⟩])
 (.seq (.cond (.tmp 31) (.skip) (.exit 2))
 (.seq (.block 3 (.seq (.reg [⟨(some 32), .mv (.tmp 30), none⟩,
  ⟨(some 33), .iad 1 (.tmp 28) (.tmp 30), none⟩,
  ⟨(some 34), .ld none (.tmp 33), none⟩,
  ⟨(some 11), .mv (.tmp 32), none⟩,
  ⟨(some 12), .mv (.tmp 34), none⟩])
 (.seq (.seq (.reg [⟨(some 35), .mv (.tmp 12), none⟩,
  ⟨(some 36), .bin .gtr (.tmp 35) (.const (.int .i64 0)), none⟩])
 (.cond (.tmp 36) (.reg [⟨(some 37), .mv (.tmp 8), none⟩,
  ⟨(some 38), .fad 1 (.tmp 2), none⟩,
  ⟨(some 39), .ld none (.tmp 38), none⟩,
  ⟨(some 40), .mv (.tmp 9), none⟩,
  ⟨(some 41), .iad 1 (.tmp 39) (.tmp 40), none⟩,
  ⟨(some 42), .ld none (.tmp 41), none⟩,
  ⟨(some 43), .bin .add (.tmp 37) (.tmp 42), none⟩,
  ⟨(some 8), .mv (.tmp 43), none⟩]) (.skip)))
 (.reg [⟨(some 44), .mv (.tmp 8), none⟩,
  ⟨(some 45), .fad 2 (.tmp 2), none⟩,
  ⟨(some 46), .ld none (.tmp 45), none⟩,
  ⟨(some 47), .mv (.tmp 9), none⟩,
  ⟨(some 48), .iad 1 (.tmp 46) (.tmp 47), none⟩,
  ⟨(some 49), .ld none (.tmp 48), none⟩,
  ⟨(some 50), .mv (.tmp 6), none⟩,
  ⟨(some 51), .mv (.tmp 9), none⟩,
  ⟨(some 52), .iad 1 (.tmp 50) (.tmp 51), none⟩,
  ⟨(some 53), .ld none (.tmp 52), none⟩,
  ⟨(some 54), .mv (.tmp 11), none⟩,
  ⟨(some 55), .iad 1 (.tmp 53) (.tmp 54), none⟩,
  ⟨(some 56), .ld none (.tmp 55), none⟩,
  ⟨(some 57), .bin .mul (.tmp 49) (.tmp 56), none⟩,
  ⟨(some 58), .bin .add (.tmp 44) (.tmp 57), none⟩,
  ⟨(some 8), .mv (.tmp 58), none⟩]))))
 (.reg [⟨(some 59), .bin .add (.tmp 30) (.const (.int .i64 1)), none⟩,
  ⟨(some 30), .mv (.tmp 59), none⟩])))))))))
 (.reg [⟨(some 60), .bin .add (.tmp 23) (.const (.int .i64 1)), none⟩,
  ⟨(some 23), .mv (.tmp 60), none⟩])))))))
 (.seq (.reg [⟨(some 61), .mv (.tmp 8), none⟩,
  ⟨(some 4), .mv (.tmp 61), none⟩,
  ⟨(some 5), .mv (.const (.bool true)), none⟩])
 (.ret))))))
def r_impl_ChainCost : List ARes := [.tmp 4, .tmp 5]
theorem ok_impl_ChainCost : FnOk Try.prog 45 62 c_impl_ChainCost r_impl_ChainCost := ⟨⟨Try.f45, _, Try.func45, by kernel_rfl, rfl, rfl, by kernel_rfl, by kernel_rfl⟩⟩
def c_spec_EchelonHolds : ACode := .seq (.reg [⟨(some 1), .box 26 (.tmp 0), none⟩,
  ⟨(some 2), .mv (.const (.slice none 0 0)), none⟩,
  ⟨(some 3), .mv (.const (.bool false)), none⟩])
 (.seq (.reg [⟨(some 6), .bsl 3 1 0 [] [], none⟩,
  ⟨(some 4), .mv (.tmp 6), none⟩])
 (.seq (.seq (.reg [⟨(some 7), .ld (some 3) (.tmp 1), none⟩,
  ⟨(some 8), .call (.func 72) [(.tmp 7)], none⟩,
  ⟨(some 9), .un .not (.tmp 8), none⟩])
 (.cond (.tmp 9) (.seq (.reg [⟨(some 10), .mv (.tmp 4), none⟩,
  ⟨(some 2), .mv (.tmp 10), none⟩,
  ⟨(some 3), .mv (.const (.bool false)), none⟩])
 (.ret)) (.skip)))
 (.seq (.seq (.reg [⟨(some 5), .mv (.const (.int .i64 0)), none⟩])
 (.block 0 (.loop (.seq (.seq (.reg [⟨(some 11), .mv (.tmp 5), none⟩,
  ⟨(some 12), .fad 2 (.tmp 1), none⟩,
  ⟨(some 13), .ld none (.tmp 12), none⟩,
  ⟨(some 14), .len (.tmp 13), none⟩,
  ⟨(some 15), .bin .lss (.tmp 11) (.tmp 14), none⟩])
 (.cond (.tmp 15) (.skip) (.exit 0)))
 (.seq (.block 1 (.reg [⟨(some 18), .mv (.tmp 4), none⟩,
  ⟨(some 19), .ld (some 3) (.tmp 1), none⟩,
  ⟨(some 20), .mv (.tmp 5), none⟩,
  ⟨(some 21), .call (.func 75) [(.tmp 19), (.tmp 20)], none⟩,
  ⟨(some 22), .bsl 3 1 1 [(.int .i64 0)] [(0, 1, (.tmp 21))], none⟩,
  ⟨(some 23), .app 3 1 8 (.tmp 18) (.tmp 22), none⟩,
  ⟨(some 4), .mv (.tmp 23), none⟩]))
 (.reg [⟨(some 16), .mv (.tmp 5), none⟩,
  ⟨(some 17), .bin .add (.tmp 16) (.const (.int .i64 1)), none⟩,
  ⟨(some 5), .mv (.tmp 17), none⟩]))))))
 (.seq (.reg [⟨(some 24), .mv (.tmp 4), none⟩,
  ⟨(some 2), .mv (.tmp 24), none⟩,
  ⟨(some 3), .mv (.const (.bool true)), none⟩])
 (.ret)))))
def r_spec_EchelonHolds : List ARes := [.tmp 2, .tmp 3]
theorem ok_spec_EchelonHolds : FnOk Try.prog 46 25 c_spec_EchelonHolds r_spec_EchelonHolds := ⟨⟨Try.f46, _, Try.func46, by kernel_rfl, rfl, rfl, by kernel_rfl, by kernel_rfl⟩⟩
def c_impl_EchelonHolds : ACode := .seq (.reg [⟨(some 1), .box 26 (.tmp 0), none⟩,
  ⟨(some 2), .mv (.const (.slice none 0 0)), none⟩,
  ⟨(some 3), .mv (.const (.bool false)), none⟩])
 (.seq (.seq (.reg [⟨(some 6), .ld (some 3) (.tmp 1), none⟩,
  ⟨(some 7), .call (.func 32) [(.tmp 6)], none⟩,
  ⟨(some 8), .un .not (.tmp 7), none⟩])
 (.cond (.tmp 8) (.seq (.reg [⟨(some 9), .bsl 3 1 0 [] [], none⟩,
  ⟨(some 2), .mv (.tmp 9), none⟩,
  ⟨(some 3), .mv (.const (.bool false)), none⟩])
 (.ret)) (.skip)))
 (.seq (.reg [⟨(some 10), .bsl 3 1 0 [] [], none⟩,
  ⟨(some 4), .mv (.tmp 10), none⟩])
 (.seq (.seq (.reg [⟨(some 11), .fad 2 (.tmp 1), none⟩,
  ⟨(some 12), .ld none (.tmp 11), none⟩,
  ⟨(some 13), .len (.tmp 12), none⟩,
  ⟨(some 14), .mv (.const (.int .i64 0)), none⟩])
 (.block 0 (.loop (.seq (.reg [⟨(some 15), .bin .lss (.tmp 14) (.tmp 13), none⟩])
 (.seq (.cond (.tmp 15) (.skip) (.exit 0))
 (.seq (.block 1 (.seq (.reg [⟨(some 16), .mv (.tmp 14), none⟩,
  ⟨(some 5), .mv (.tmp 16), none⟩])
 (.reg [⟨(some 17), .mv (.tmp 4), none⟩,
  ⟨(some 18), .ld (some 3) (.tmp 1), none⟩,
  ⟨(some 19), .mv (.tmp 5), none⟩,
  ⟨(some 20), .call (.func 103) [(.tmp 18), (.tmp 19)], none⟩,
  ⟨(some 21), .bsl 3 1 1 [(.int .i64 0)] [(0, 1, (.tmp 20))], none⟩,
  ⟨(some 22), .app 3 1 8 (.tmp 17) (.tmp 21), none⟩,
  ⟨(some 4), .mv (.tmp 22), none⟩])))
 (.reg [⟨(some 23), .bin .add (.tmp 14) (.const (.int .i64 1)), none⟩,
  ⟨(some 14), .mv (.tmp 23), none⟩])))))))
 (.seq (.reg [⟨(some 24), .mv (.tmp 4), none⟩,
  ⟨(some 2), .mv (.tmp 24), none⟩,
  ⟨(some 3), .mv (.const (.bool true)), none⟩])
 (.ret)))))
def r_impl_EchelonHolds : List ARes := [.tmp 2, .tmp 3]
theorem ok_impl_EchelonHolds : FnOk Try.prog 47 25 c_impl_EchelonHolds r_impl_EchelonHolds := ⟨⟨Try.f47, _, Try.func47, by kernel_rfl, rfl, rfl, by kernel_rfl, by kernel_rfl⟩⟩
def c_spec_EchelonStocks : ACode := .seq (.reg [⟨(some 2), .box 26 (.tmp 0), none⟩,
  ⟨(some 4), .mv (.const (.slice none 0 0)), none⟩,
  ⟨(some 5), .mv (.const (.bool false)), none⟩])
 (.seq (.seq (.reg [⟨(some 9), .ld (some 3) (.tmp 2), none⟩,
  ⟨(some 10), .mv (.tmp 1), none⟩,
  ⟨(some 11), .call (.func 97) [(.tmp 9), (.tmp 10)], none⟩,
  ⟨(some 12), .un .not (.tmp 11), none⟩])
 (.cond (.tmp 12) (.seq (.reg [⟨(some 13), .bsl 24 1 0 [] [], none⟩,
  ⟨(some 4), .mv (.tmp 13), none⟩,
  ⟨(some 5), .mv (.const (.bool false)), none⟩])
 (.ret)) (.skip)))
 (.seq (.reg [⟨(some 14), .ld (some 3) (.tmp 2), none⟩,
  ⟨(some 15), .mv (.tmp 1), none⟩,
  ⟨(some 16), .call (.func 98) [(.tmp 14), (.tmp 15)], none⟩,
  ⟨(some 6), .mv (.tmp 16), none⟩])
 (.seq (.seq (.reg [⟨(some 17), .mv (.tmp 6), none⟩,
  ⟨(some 18), .len (.tmp 17), none⟩,
  ⟨(some 19), .bin .sub (.tmp 18) (.const (.int .i64 2)), none⟩,
  ⟨(some 7), .mv (.tmp 19), none⟩])
 (.block 0 (.loop (.seq (.seq (.reg [⟨(some 20), .mv (.tmp 7), none⟩,
  ⟨(some 21), .bin .geq (.tmp 20) (.const (.int .i64 0)), none⟩])
 (.cond (.tmp 21) (.skip) (.exit 0)))
 (.seq (.block 1 (.seq (.reg [⟨(some 8), .mv (.const (.int .i64 0)), none⟩])
 (.block 2 (.loop (.seq (.seq (.reg [⟨(some 24), .mv (.tmp 8), none⟩,
  ⟨(some 25), .fad 0 (.tmp 2), none⟩,
  ⟨(some 26), .ld none (.tmp 25), none⟩,
  ⟨(some 27), .len (.tmp 26), none⟩,
  ⟨(some 28), .bin .lss (.tmp 24) (.tmp 27), none⟩])
 (.cond (.tmp 28) (.skip) (.exit 2)))
 (.seq (.block 3 (.reg [⟨(some 31), .mv (.tmp 6), none⟩,
  ⟨(some 32), .mv (.tmp 7), none⟩,
  ⟨(some 33), .iad 1 (.tmp 31) (.tmp 32), none⟩,
  ⟨(some 34), .ld none (.tmp 33), none⟩,
  ⟨(some 35), .mv (.tmp 8), none⟩,
  ⟨(some 36), .mv (.tmp 6), none⟩,
  ⟨(some 37), .mv (.tmp 7), none⟩,
  ⟨(some 38), .iad 1 (.tmp 36) (.tmp 37), none⟩,
  ⟨(some 39), .ld none (.tmp 38), none⟩,
  ⟨(some 40), .mv (.tmp 8), none⟩,
  ⟨(some 41), .iad 1 (.tmp 39) (.tmp 40), none⟩,
  ⟨(some 42), .ld none (.tmp 41), none⟩,
  ⟨(some 43), .mv (.tmp 6), none⟩,
  ⟨(some 44), .mv (.tmp 7), none⟩,
  ⟨(some 45), .bin .add (.tmp 44) (.const (.int .i64 1)), none⟩,
  ⟨(some 46), .iad 1 (.tmp 43) (.tmp 45), none⟩,
  ⟨(some 47), .ld none (.tmp 46), none⟩,
  ⟨(some 48), .mv (.tmp 8), none⟩,
  ⟨(some 49), .iad 1 (.tmp 47) (.tmp 48), none⟩,
  ⟨(some 50), .ld none (.tmp 49), none⟩,
  ⟨(some 51), .bin .add (.tmp 42) (.tmp 50), none⟩,
  ⟨(some 52), .iad 1 (.tmp 34) (.tmp 35), none⟩,
  ⟨none, .st 1 (.tmp 52) (.tmp 51), none⟩]))
 (.reg [⟨(some 29), .mv (.tmp 8), none⟩,
  ⟨(some 30), .bin .add (.tmp 29) (.const (.int .i64 1)), none⟩,
  ⟨(some 8), .mv (.tmp 30), none⟩])))))))
 (.reg [⟨(some 22), .mv (.tmp 7), none⟩,
  ⟨(some 23), .bin .sub (.tmp 22) (.const (.int .i64 1)), none⟩,
  ⟨(some 7), .mv (.tmp 23), none⟩]))))))
 (.seq (.reg [⟨(some 53), .mv (.tmp 6), none⟩,
  ⟨(some 4), .mv (.tmp 53), none⟩,
  ⟨(some 5), .mv (.const (.bool true)), none⟩])
 (.ret)))))
def r_spec_EchelonStocks : List ARes := [.tmp 4, .tmp 5]
theorem ok_spec_EchelonStocks : FnOk Try.prog 51 54 c_spec_EchelonStocks r_spec_EchelonStocks := ⟨⟨Try.f51, _, Try.func51, by kernel_rfl, rfl, rfl, by kernel_rfl, by kernel_rfl⟩⟩
def c_impl_EchelonStocks : ACode := .seq (.reg [⟨(some 2), .box 26 (.tmp 0), none⟩,
  ⟨(some 4), .mv (.const (.slice none 0 0)), none⟩,
  ⟨(some 5), .mv (.const (.bool false)), none⟩])
 (.seq (.reg [⟨(some 12), .ld (some 3) (.tmp 2), none⟩,
  ⟨(some 13), .mv (.tmp 1), none⟩,
  ⟨(some 14), .call (.func 37) [(.tmp 12), (.tmp 13)], none⟩,
  ⟨(some 11), .mv (.tmp 14), none⟩,
  ⟨(some 15), .ext 0 (.tmp 11), none⟩,
  ⟨(some 16), .ext 1 (.tmp 11), none⟩,
  ⟨(some 6), .mv (.tmp 15), none⟩,
  ⟨(some 7), .mv (.tmp 16), none⟩])
 (.seq (.seq (.reg [⟨(some 17), .mv (.tmp 7), none⟩,
  ⟨(some 18), .un .not (.tmp 17), none⟩])
 (.cond (.tmp 18) (.seq (.reg [⟨(some 19), .bsl 24 1 0 [] [], none⟩,
  ⟨(some 4), .mv (.tmp 19), none⟩,
  ⟨(some 5), .mv (.const (.bool false)), none⟩])
 (.ret)) (.skip)))
 (.seq (.seq (.reg [⟨(some 20), .mv (.tmp 6), none⟩,
  ⟨(some 21), .len (.tmp 20), none⟩,
  ⟨(some 22), .bin .sub (.tmp 21) (.const (.int .i64 2)), none⟩,
  ⟨(some 8), .mv (.tmp 22), none⟩])
 (.block 0 (.loop (.seq (.seq (.reg [⟨(some 23), .mv (.tmp 8), none⟩,
  ⟨(some 24), .bin .geq (.tmp 23) (.const (.int .i64 0)), none⟩])
 (.cond (.tmp 24) (.skip) (.exit 0)))
 (.seq (.block 1 (.seq (.reg [⟨(some 27), .mv (.tmp 6), none⟩,
  ⟨(some 28), .mv (.tmp 8), none⟩,
  ⟨(some 29), .bin .add (.tmp 28) (.const (.int .i64 1)), none⟩,
  ⟨(some 30), .iad 1 (.tmp 27) (.tmp 29), none⟩,
  ⟨(some 31), .ld none (.tmp 30), none⟩,
  ⟨(some 32), .len (.tmp 31), none⟩,
  ⟨(some 33), .mv (.const (.int .i64 0)), none⟩])
 (.block 2 (.loop (.seq (.reg [⟨(some 34), .bin .lss (.tmp 33) (.tmp 32), none⟩])
 (.seq (.cond (.tmp 34) (.skip) (.exit 2))
 (.seq (.block 3 (.seq (.reg [⟨(some 35), .mv (.tmp 33), none⟩,
  ⟨(some 36), .iad 1 (.tmp 31) (.tmp 33), none⟩,
  ⟨(some 37), .ld none (.tmp 36), none⟩,
  ⟨(some 9), .mv (.tmp 35), none⟩,
  ⟨(some 10), .mv (.tmp 37), none⟩])
 (.reg [⟨(some 38), .mv (.tmp 6), none⟩,
  ⟨(some 39), .mv (.tmp 8), none⟩,
  ⟨(some 40), .iad 1 (.tmp 38) (.tmp 39), none⟩,
  ⟨(some 41), .ld none (.tmp 40), none⟩,
  ⟨(some 42), .mv (.tmp 9), none⟩,
  ⟨(some 43), .iad 1 (.tmp 41) (.tmp 42), none⟩,
  ⟨(some 44), .ld none (.tmp 43), none⟩,
  ⟨(some 45), .mv (.tmp 10), none⟩,
  ⟨(some 46), .bin .add (.tmp 44) (.tmp 45), none⟩,
  ⟨(some 47), .iad 1 (.tmp 41) (.tmp 42), none⟩,
  ⟨none, .st 1 (.tmp 47) (.tmp 46), none⟩])))
 (.reg [⟨(some 48), .bin .add (.tmp 33) (.const (.int .i64 1)), none⟩,
  ⟨(some 33), .mv (.tmp 48), none⟩]))))))))
 (.reg [⟨(some 25), .mv (.tmp 8), none⟩,
  ⟨(some 26), .bin .sub (.tmp 25) (.const (.int .i64 1)), none⟩,
  ⟨(some 8), .mv (.tmp 26), none⟩]))))))
 (.seq (.reg [⟨(some 49), .mv (.tmp 6), none⟩,
  ⟨(some 4), .mv (.tmp 49), none⟩,
  ⟨(some 5), .mv (.const (.bool true)), none⟩])
 (.ret)))))
def r_impl_EchelonStocks : List ARes := [.tmp 4, .tmp 5]
theorem ok_impl_EchelonStocks : FnOk Try.prog 52 50 c_impl_EchelonStocks r_impl_EchelonStocks := ⟨⟨Try.f52, _, Try.func52, by kernel_rfl, rfl, rfl, by kernel_rfl, by kernel_rfl⟩⟩
def c_spec_IsNestedPlan : ACode := .seq (.reg [⟨(some 2), .box 26 (.tmp 0), none⟩,
  ⟨(some 4), .mv (.const (.bool false)), none⟩,
  ⟨(some 5), .mv (.const (.bool false)), none⟩])
 (.seq (.seq (.reg [⟨(some 8), .ld (some 3) (.tmp 2), none⟩,
  ⟨(some 9), .mv (.tmp 1), none⟩,
  ⟨(some 10), .call (.func 97) [(.tmp 8), (.tmp 9)], none⟩,
  ⟨(some 11), .un .not (.tmp 10), none⟩])
 (.cond (.tmp 11) (.seq (.reg [⟨(some 4), .mv (.const (.bool false)), none⟩,
  ⟨(some 5), .mv (.const (.bool false)), none⟩])
 (.ret)) (.skip)))
 (.seq (.seq (.reg [⟨(some 6), .mv (.const (.int .i64 0)), none⟩])
 (.block 0 (.loop (.seq (.seq (.reg [⟨(some 12), .mv (.tmp 6), none⟩,
  ⟨(some 13), .bin .add (.tmp 12) (.const (.int .i64 1)), none⟩,
  ⟨(some 14), .mv (.tmp 1), none⟩,
  ⟨(some 15), .len (.tmp 14), none⟩,
  ⟨(some 16), .bin .lss (.tmp 13) (.tmp 15), none⟩])
 (.cond (.tmp 16) (.skip) (.exit 0)))
 (.seq (.block 1 (.seq (.reg [⟨(some 7), .mv (.const (.int .i64 0)), none⟩])
 (.block 2 (.loop (.seq (.seq (.reg [⟨(some 19), .mv (.tmp 7), none⟩,
  ⟨(some 20), .fad 0 (.tmp 2), none⟩,
  ⟨(some 21), .ld none (.tmp 20), none⟩,
  ⟨(some 22), .len (.tmp 21), none⟩,
  ⟨(some 23), .bin .lss (.tmp 19) (.tmp 22), none⟩])
 (.cond (.tmp 23) (.skip) (.exit 2)))
 (.seq (.block 3 (.seq (.reg [⟨(some 26), .mv (.tmp 1), none⟩,
  ⟨(some 27), .mv (.tmp 6), none⟩,
  ⟨(some 28), .iad 1 (.tmp 26) (.tmp 27), none⟩,
  ⟨(some 29), .ld none (.tmp 28), none⟩,
  ⟨(some 30), .mv (.tmp 7), none⟩,
  ⟨(some 31), .iad 1 (.tmp 29) (.tmp 30), none⟩,
  ⟨(some 32), .ld none (.tmp 31), none⟩,
  ⟨(some 33), .bin .gtr (.tmp 32) (.const (.int .i64 0)), none⟩,
  ⟨(some 34), .mv (.tmp 33), none⟩,
  ⟨(some 35), .mv (.tmp 1), (some (34, true))⟩,
  ⟨(some 36), .mv (.tmp 6), (some (34, true))⟩,
  ⟨(some 37), .bin .add (.tmp 36) (.const (.int .i64 1)), (some (34, true))⟩,
  ⟨(some 38), .iad 1 (.tmp 35) (.tmp 37), (some (34, true))⟩,
  ⟨(some 39), .ld none (.tmp 38), (some (34, true))⟩,
  ⟨(some 40), .mv (.tmp 7), (some (34, true))⟩,
  ⟨(some 41), .iad 1 (.tmp 39) (.tmp 40), (some (34, true))⟩,
  ⟨(some 42), .ld none (.tmp 41), (some (34, true))⟩,
  ⟨(some 43), .bin .eql (.tmp 42) (.const (.int .i64 0)), (some (34, true))⟩,
  ⟨(some 44), .pick (.tmp 34) (.tmp 43) (.const (.bool false)), none⟩])
 (.cond (.tmp 44) (.seq (.reg [⟨(some 4), .mv (.const (.bool false)), none⟩,
  ⟨(some 5), .mv (.const (.bool true)), none⟩])
 (.ret)) (.skip))))
 (.reg [⟨(some 24), .mv (.tmp 7), none⟩,
  ⟨(some 25), .bin .add (.tmp 24) (.const (.int .i64 1)), none⟩,
  ⟨(some 7), .mv (.tmp 25), none⟩])))))))
 (.reg [⟨(some 17), .mv (.tmp 6), none⟩,
  ⟨(some 18), .bin .add (.tmp 17) (.const (.int .i64 1)), none⟩,
  ⟨(some 6), .mv (.tmp 18), none⟩]))))))
 (.seq (.reg [⟨(some 4), .mv (.const (.bool true)), none⟩,
  ⟨(some 5), .mv (.const (.bool true)), none⟩])
 (.ret))))
def r_spec_IsNestedPlan : List ARes := [.tmp 4, .tmp 5]
theorem ok_spec_IsNestedPlan : FnOk Try.prog 53 45 c_spec_IsNestedPlan r_spec_IsNestedPlan := ⟨⟨Try.f53, _, Try.func53, by kernel_rfl, rfl, rfl, by kernel_rfl, by kernel_rfl⟩⟩
def c_impl_IsNestedPlan : ACode := .seq (.reg [⟨(some 2), .box 26 (.tmp 0), none⟩,
  ⟨(some 4), .mv (.const (.bool false)), none⟩,
  ⟨(some 5), .mv (.const (.bool false)), none⟩])
 (.seq (.seq (.reg [⟨(some 12), .ld (some 3) (.tmp 2), none⟩,
  ⟨(some 13), .mv (.tmp 1), none⟩,
  ⟨(some 14), .call (.func 37) [(.tmp 12), (.tmp 13)], none⟩,
  ⟨(some 11), .mv (.tmp 14), none⟩,
  ⟨(some 15), .ext 0 (.tmp 11), none⟩,
  ⟨(some 16), .ext 1 (.tmp 11), none⟩,
  ⟨(some 6), .mv (.tmp 15), none⟩,
  ⟨(some 7), .mv (.tmp 16), none⟩])
 (.seq (.reg [⟨(some 17), .mv (.tmp 7), none⟩,
  ⟨(some 18), .un .not (.tmp 17), none⟩])
 (.cond (.tmp 18) (.seq (.reg [⟨(some 4), .mv (.const (.bool false)), none⟩,
  ⟨(some 5), .mv (.const (.bool false)), none⟩])
 (.ret)) (.skip))))
 (.seq (.seq (.reg [⟨(some 8), .mv (.const (.int .i64 1)), none⟩])
 (.block 0 (.loop (.seq (.seq (.reg [⟨(some 19), .mv (.tmp 8), none⟩,
  ⟨(some 20), .mv (.tmp 1), none⟩,
  ⟨(some 21), .len (.tmp 20), none⟩,
  ⟨(some 22), .bin .lss (.tmp 19) (.tmp 21), none⟩])
 (.cond (.tmp 22) (.skip) (.exit 0)))
 (.seq (.block 1 (.seq (.reg [⟨(some 25), .mv (.tmp 1), none⟩,
  ⟨(some 26), .mv (.tmp 8), none⟩,
  ⟨(some 27), .iad 1 (.tmp 25) (.tmp 26), none⟩,
  ⟨(some 28), .ld none (.tmp 27), none⟩,
  ⟨(some 29), .len (.tmp 28), none⟩,
  ⟨(some 30), .mv (.const (.int .i64 0)), none⟩])
 (.block 2 (.loop (.seq (.reg [⟨(some 31), .bin .lss (.tmp 30) (.tmp 29), none⟩])
 (.seq (.cond (.tmp 31) (.skip) (.exit 2))
 (.seq (.block 3 (.seq (.reg [⟨(some 32), .mv (.tmp 30), none⟩,
  ⟨(some 33), .iad 1 (.tmp 28) (.tmp 30), none⟩,
  ⟨(some 34), .ld none (.tmp 33), none⟩,
  ⟨(some 9), .mv (.tmp 32), none⟩,
  ⟨(some 10), .mv (.tmp 34), none⟩])
 (.seq (.reg [⟨(some 35), .mv (.tmp 10), none⟩,
  ⟨(some 36), .bin .eql (.tmp 35) (.const (.int .i64 0)), none⟩,
  ⟨(some 37), .mv (.tmp 36), none⟩,
  ⟨(some 38), .mv (.tmp 1), (some (37, true))⟩,
  ⟨(some 39), .mv (.tmp 8), (some (37, true))⟩,
  ⟨(some 40), .bin .sub (.tmp 39) (.const (.int .i64 1)), (some (37, true))⟩,
  ⟨(some 41), .iad 1 (.tmp 38) (.tmp 40), (some (37, true))⟩,
  ⟨(some 42), .ld none (.tmp 41), (some (37, true))⟩,
  ⟨(some 43), .mv (.tmp 9), (some (37, true))⟩,
  ⟨(some 44), .iad 1 (.tmp 42) (.tmp 43), (some (37, true))⟩,
  ⟨(some 45), .ld none (.tmp 44), (some (37, true))⟩,
  ⟨(some 46), .bin .gtr (.tmp 45) (.const (.int .i64 0)), (some (37, true))⟩,
  ⟨(some 47), .pick (.tmp 37) (.tmp 46) (.const (.bool false)), none⟩])
 (.cond (.tmp 47) (.seq (.reg [⟨(some 4), .mv (.const (.bool false)), none⟩,
  ⟨(some 5), .mv (.const (.bool true)), none⟩])
 (.ret)) (.skip)))))
 (.reg [⟨(some 48), .bin .add (.tmp 30) (.const (.int .i64 1)), none⟩,
  ⟨(some 30), .mv (.tmp 48), none⟩]))))))))
 (.reg [⟨(some 23), .mv (.tmp 8), none⟩,
  ⟨(some 24), .bin .add (.tmp 23) (.const (.int .i64 1)), none⟩,
  ⟨(some 8), .mv (.tmp 24), none⟩]))))))
 (.seq (.reg [⟨(some 4), .mv (.const (.bool true)), none⟩,
  ⟨(some 5), .mv (.const (.bool true)), none⟩])
 (.ret))))
def r_impl_IsNestedPlan : List ARes := [.tmp 4, .tmp 5]
theorem ok_impl_IsNestedPlan : FnOk Try.prog 54 49 c_impl_IsNestedPlan r_impl_IsNestedPlan := ⟨⟨Try.f54, _, Try.func54, by kernel_rfl, rfl, rfl, by kernel_rfl, by kernel_rfl⟩⟩
def c_spec_NestedPlan : ACode := .seq (.reg [⟨(some 2), .box 26 (.tmp 0), none⟩,
  ⟨(some 4), .mv (.const (.slice none 0 0)), none⟩,
  ⟨(some 5), .mv (.const (.bool false)), none⟩])
 (.seq (.reg [⟨(some 8), .bsl 24 1 0 [] [], none⟩,
  ⟨(some 6), .mv (.tmp 8), none⟩])
 (.seq (.seq (.reg [⟨(some 9), .ld (some 3) (.tmp 2), none⟩,
  ⟨(some 10), .call (.func 72) [(.tmp 9)], none⟩,
  ⟨(some 11), .un .not (.tmp 10), none⟩,
  ⟨(some 12), .mv (.tmp 11), none⟩,
  ⟨(some 13), .ld (some 3) (.tmp 2), (some (12, false))⟩,
  ⟨(some 14), .mv (.tmp 1), (some (12, false))⟩,
  ⟨(some 15), .call (.func 104) [(.tmp 13), (.tmp 14)], (some (12, false))⟩,
  ⟨(some 16), .un .not (.tmp 15), (some (12, false))⟩,
  ⟨(some 17), .pick (.tmp 12) (.const (.bool true)) (.tmp 16), none⟩])
 (.cond (.tmp 17) (.seq (.reg [⟨(some 18), .mv (.tmp 6), none⟩,
  ⟨(some 4), .mv (.tmp 18), none⟩,
  ⟨(some 5), .mv (.const (.bool false)), none⟩])
 (.ret)) (.skip)))
 (.seq (.seq (.reg [⟨(some 7), .mv (.const (.int .i64 0)), none⟩])
 (.block 0 (.loop (.seq (.seq (.reg [⟨(some 19), .mv (.tmp 7), none⟩,
  ⟨(some 20), .mv (.tmp 1), none⟩,
  ⟨(some 21), .len (.tmp 20), none⟩,
  ⟨(some 22), .bin .lss (.tmp 19) (.tmp 21), none⟩])
 (.cond (.tmp 22) (.skip) (.exit 0)))
 (.seq (.block 1 (.seq (.seq (.reg [⟨(some 25), .fad 0 (.tmp 2), none⟩,
  ⟨(some 26), .ld none (.tmp 25), none⟩,
  ⟨(some 27), .mv (.tmp 1), none⟩,
  ⟨(some 28), .mv (.tmp 7), none⟩,
  ⟨(some 29), .iad 1 (.tmp 27) (.tmp 28), none⟩,
  ⟨(some 30), .ld none (.tmp 29), none⟩,
  ⟨(some 31), .rcall (.func 87) [(.tmp 26), (.tmp 30)], none⟩,
  ⟨(some 32), .un .not (.tmp 31), none⟩])
 (.cond (.tmp 32) (.seq (.reg [⟨(some 33), .bsl 24 1 0 [] [], none⟩,
  ⟨(some 4), .mv (.tmp 33), none⟩,
  ⟨(some 5), .mv (.const (.bool false)), none⟩])
 (.ret)) (.skip)))
 (.reg [⟨(some 34), .mv (.tmp 6), none⟩,
  ⟨(some 35), .fad 0 (.tmp 2), none⟩,
  ⟨(some 36), .ld none (.tmp 35), none⟩,
  ⟨(some 37), .mv (.tmp 1), none⟩,
  ⟨(some 38), .mv (.tmp 7), none⟩,
  ⟨(some 39), .iad 1 (.tmp 37) (.tmp 38), none⟩,
  ⟨(some 40), .ld none (.tmp 39), none⟩,
  ⟨(some 41), .rcall (.func 90) [(.tmp 36), (.tmp 40)], none⟩,
  ⟨(some 42), .bsl 24 1 1 [(.slice none 0 0)] [(0, 1, (.tmp 41))], none⟩,
  ⟨(some 43), .app 24 1 24 (.tmp 34) (.tmp 42), none⟩,
  ⟨(some 6), .mv (.tmp 43), none⟩])))
 (.reg [⟨(some 23), .mv (.tmp 7), none⟩,
  ⟨(some 24), .bin .add (.tmp 23) (.const (.int .i64 1)), none⟩,
  ⟨(some 7), .mv (.tmp 24), none⟩]))))))
 (.seq (.reg [⟨(some 44), .mv (.tmp 6), none⟩,
  ⟨(some 4), .mv (.tmp 44), none⟩,
  ⟨(some 5), .mv (.const (.bool true)), none⟩])
 (.ret)))))
def r_spec_NestedPlan : List ARes := [.tmp 4, .tmp 5]
theorem ok_spec_NestedPlan : FnOk Try.prog 55 45 c_spec_NestedPlan r_spec_NestedPlan := ⟨⟨Try.f55, _, Try.func55, by kernel_rfl, rfl, rfl, by kernel_rfl, by kernel_rfl⟩⟩
def c_impl_NestedPlan : ACode := .seq (.reg [⟨(some 2), .box 26 (.tmp 0), none⟩,
  ⟨(some 4), .mv (.const (.slice none 0 0)), none⟩,
  ⟨(some 5), .mv (.const (.bool false)), none⟩])
 (.seq (.seq (.reg [⟨(some 11), .ld (some 3) (.tmp 2), none⟩,
  ⟨(some 12), .call (.func 32) [(.tmp 11)], none⟩,
  ⟨(some 13), .un .not (.tmp 12), none⟩,
  ⟨(some 14), .mv (.tmp 13), none⟩,
  ⟨(some 15), .mv (.tmp 1), (some (14, false))⟩,
  ⟨(some 16), .len (.tmp 15), (some (14, false))⟩,
  ⟨(some 17), .fad 1 (.tmp 2), (some (14, false))⟩,
  ⟨(some 18), .ld none (.tmp 17), (some (14, false))⟩,
  ⟨(some 19), .len (.tmp 18), (some (14, false))⟩,
  ⟨(some 20), .bin .neq (.tmp 16) (.tmp 19), (some (14, false))⟩,
  ⟨(some 21), .pick (.tmp 14) (.const (.bool true)) (.tmp 20), none⟩])
 (.cond (.tmp 21) (.seq (.reg [⟨(some 22), .bsl 24 1 0 [] [], none⟩,
  ⟨(some 4), .mv (.tmp 22), none⟩,
  ⟨(some 5), .mv (.const (.bool false)), none⟩])
 (.ret)) (.skip)))
 (.seq (.reg [⟨(some 23), .bsl 24 1 0 [] [], none⟩,
  ⟨(some 6), .mv (.tmp 23), none⟩])
 (.seq (.seq (.reg [⟨(some 24), .mv (.tmp 1), none⟩,
  ⟨(some 25), .len (.tmp 24), none⟩,
  ⟨(some 26), .mv (.const (.int .i64 0)), none⟩])
 (.block 0 (.loop (.seq (.reg [⟨(some 27), .bin .lss (.tmp 26) (.tmp 25), none⟩])
 (.seq (.cond (.tmp 27) (.skip) (.exit 0))
 (.seq (.block 1 (.seq (.reg [⟨(some 28), .mv (.tmp 26), none⟩,
  ⟨(some 29), .iad 1 (.tmp 24) (.tmp 26), none⟩,
  ⟨(some 30), .ld none (.tmp 29), none⟩,
  ⟨(some 7), .mv (.tmp 28), none⟩,
  ⟨(some 8), .mv (.tmp 30), none⟩])
 (.seq (.reg [⟨(some 32), .ld (some 3) (.tmp 2), none⟩,
  ⟨(some 33), .mv (.tmp 7), none⟩,
  ⟨(some 34), .call (.func 71) [(.tmp 32), (.tmp 33)], none⟩,
  ⟨(some 35), .mv (.tmp 8), none⟩,
  ⟨(some 36), .call (.func 105) [(.tmp 34), (.tmp 35)], none⟩,
  ⟨(some 31), .mv (.tmp 36), none⟩,
  ⟨(some 37), .ext 0 (.tmp 31), none⟩,
  ⟨(some 38), .ext 1 (.tmp 31), none⟩,
  ⟨(some 9), .mv (.tmp 37), none⟩,
  ⟨(some 10), .mv (.tmp 38), none⟩])
 (.seq (.seq (.reg [⟨(some 39), .mv (.tmp 10), none⟩,
  ⟨(some 40), .un .not (.tmp 39), none⟩,
  ⟨(some 41), .mv (.tmp 40), none⟩,
  ⟨(some 42), .mv (.tmp 7), (some (41, false))⟩,
  ⟨(some 43), .bin .gtr (.tmp 42) (.const (.int .i64 0)), (some (41, false))⟩,
  ⟨(some 44), .mv (.tmp 43), (some (41, false))⟩,
  ⟨(some 45), .mv (.tmp 8), (some (44, true))⟩,
  ⟨(some 46), .mv (.tmp 1), (some (44, true))⟩,
  ⟨(some 47), .mv (.tmp 7), (some (44, true))⟩,
  ⟨(some 48), .bin .sub (.tmp 47) (.const (.int .i64 1)), (some (44, true))⟩,
  ⟨(some 49), .iad 1 (.tmp 46) (.tmp 48), (some (44, true))⟩,
  ⟨(some 50), .ld none (.tmp 49), (some (44, true))⟩,
  ⟨(some 51), .call (.func 106) [(.tmp 45), (.tmp 50)], (some (44, true))⟩,
  ⟨(some 52), .un .not (.tmp 51), (some (44, true))⟩,
  ⟨(some 53), .pick (.tmp 44) (.tmp 52) (.const (.bool false)), (some (41, false))⟩,
  ⟨(some 54), .pick (.tmp 41) (.const (.bool true)) (.tmp 53), none⟩])
 (.cond (.tmp 54) (.seq (.reg [⟨(some 55), .bsl 24 1 0 [] [], none⟩,
  ⟨(some 4), .mv (.tmp 55), none⟩,
  ⟨(some 5), .mv (.const (.bool false)), none⟩])
 (.ret)) (.skip)))
 (.reg [⟨(some 56), .mv (.tmp 6), none⟩,
  ⟨(some 57), .mv (.tmp 9), none⟩,
  ⟨(some 58), .bsl 24 1 1 [(.slice none 0 0)] [(0, 1, (.tmp 57))], none⟩,
  ⟨(some 59), .app 24 1 24 (.tmp 56) (.tmp 58), none⟩,
  ⟨(some 6), .mv (.tmp 59), none⟩])))))
 (.reg [⟨(some 60), .bin .add (.tmp 26) (.const (.int .i64 1)), none⟩,
  ⟨(some 26), .mv (.tmp 60), none⟩])))))))
 (.seq (.reg [⟨(some 61), .mv (.tmp 6), none⟩,
  ⟨(some 4), .mv (.tmp 61), none⟩,
  ⟨(some 5), .mv (.const (.bool true)), none⟩])
 (.ret)))))
def r_impl_NestedPlan : List ARes := [.tmp 4, .tmp 5]
theorem ok_impl_NestedPlan : FnOk Try.prog 56 62 c_impl_NestedPlan r_impl_NestedPlan := ⟨⟨Try.f56, _, Try.func56, by kernel_rfl, rfl, rfl, by kernel_rfl, by kernel_rfl⟩⟩
def c_spec_BestNested : ACode := .seq (.reg [⟨(some 1), .box 26 (.tmp 0), none⟩,
  ⟨(some 2), .mv (.const (.slice none 0 0)), none⟩,
  ⟨(some 3), .mv (.const (.bool false)), none⟩])
 (.seq (.seq (.reg [⟨(some 7), .ld (some 3) (.tmp 1), none⟩,
  ⟨(some 8), .call (.func 72) [(.tmp 7)], none⟩,
  ⟨(some 9), .un .not (.tmp 8), none⟩])
 (.cond (.tmp 9) (.seq (.reg [⟨(some 10), .bsl 24 1 0 [] [], none⟩,
  ⟨(some 2), .mv (.tmp 10), none⟩,
  ⟨(some 3), .mv (.const (.bool false)), none⟩])
 (.ret)) (.skip)))
 (.seq (.reg [⟨(some 11), .ld (some 3) (.tmp 1), none⟩,
  ⟨(some 12), .bsl 24 1 0 [] [], none⟩,
  ⟨(some 13), .bld [(.slice none 0 0), (.int .i64 0), (.bool false)] [], none⟩,
  ⟨(some 14), .call (.func 107) [(.tmp 11), (.tmp 12), (.tmp 13)], none⟩,
  ⟨(some 15), .fld 0 none (.tmp 14), none⟩,
  ⟨(some 4), .mv (.tmp 15), none⟩])
 (.seq (.reg [⟨(some 16), .bsl 24 1 0 [] [], none⟩,
  ⟨(some 5), .mv (.tmp 16), none⟩])
 (.seq (.seq (.reg [⟨(some 6), .mv (.const (.int .i64 0)), none⟩])
 (.block 0 (.loop (.seq (.seq (.reg [⟨(some 17), .mv (.tmp 6), none⟩,
  ⟨(some 18), .mv (.tmp 4), none⟩,
  ⟨(some 19), .len (.tmp 18), none⟩,
  ⟨(some 20), .bin .lss (.tmp 17) (.tmp 19), none⟩])
 (.cond (.tmp 20) (.skip) (.exit 0)))
 (.seq (.block 1 (.reg [⟨(some 23), .mv (.tmp 5), none⟩,
  ⟨(some 24), .mv (.tmp 4), none⟩,
  ⟨(some 25), .mv (.tmp 6), none⟩,
  ⟨(some 26), .iad 1 (.tmp 24) (.tmp 25), none⟩,
  ⟨(some 27), .ld none (.tmp 26), none⟩,
  ⟨(some 28), .call (.func 108) [(.tmp 27)], none⟩,
  ⟨(some 29), .bsl 24 1 1 [(.slice none 0 0)] [(0, 1, (.tmp 28))], none⟩,
  ⟨(some 30), .app 24 1 24 (.tmp 23) (.tmp 29), none⟩,
  ⟨(some 5), .mv (.tmp 30), none⟩]))
 (.reg [⟨(some 21), .mv (.tmp 6), none⟩,
  ⟨(some 22), .bin .add (.tmp 21) (.const (.int .i64 1)), none⟩,
  ⟨(some 6), .mv (.tmp 22), none⟩]))))))
 (.seq (.reg [⟨(some 31), .mv (.tmp 5), none⟩,
  ⟨(some 2), .mv (.tmp 31), none⟩,
  ⟨(some 3), .mv (.const (.bool true)), none⟩])
 (.ret))))))
def r_spec_BestNested : List ARes := [.tmp 2, .tmp 3]
theorem ok_spec_BestNested : FnOk Try.prog 57 32 c_spec_BestNested r_spec_BestNested := ⟨⟨Try.f57, _, Try.func57, by kernel_rfl, rfl, rfl, by kernel_rfl, by kernel_rfl⟩⟩
def c_impl_BestNested : ACode := .seq (.reg [⟨(some 1), .box 26 (.tmp 0), none⟩,
  ⟨(some 2), .mv (.const (.slice none 0 0)), none⟩,
  ⟨(some 3), .mv (.const (.bool false)), none⟩])
 (.seq (.seq (.reg [⟨(some 7), .ld (some 3) (.tmp 1), none⟩,
  ⟨(some 8), .call (.func 32) [(.tmp 7)], none⟩,
  ⟨(some 9), .un .not (.tmp 8), none⟩])
 (.cond (.tmp 9) (.seq (.reg [⟨(some 10), .bsl 24 1 0 [] [], none⟩,
  ⟨(some 2), .mv (.tmp 10), none⟩,
  ⟨(some 3), .mv (.const (.bool false)), none⟩])
 (.ret)) (.skip)))
 (.seq (.reg [⟨(some 11), .bsl 24 1 0 [] [], none⟩,
  ⟨(some 4), .mv (.tmp 11), none⟩])
 (.seq (.seq (.reg [⟨(some 12), .ld (some 3) (.tmp 1), none⟩,
  ⟨(some 13), .call (.func 94) [(.tmp 12)], none⟩,
  ⟨(some 14), .fld 1 none (.tmp 13), none⟩,
  ⟨(some 15), .len (.tmp 14), none⟩,
  ⟨(some 16), .mv (.const (.int .i64 0)), none⟩])
 (.block 0 (.loop (.seq (.reg [⟨(some 17), .bin .lss (.tmp 16) (.tmp 15), none⟩])
 (.seq (.cond (.tmp 17) (.skip) (.exit 0))
 (.seq (.block 1 (.seq (.reg [⟨(some 18), .iad 1 (.tmp 14) (.tmp 16), none⟩,
  ⟨(some 19), .ld none (.tmp 18), none⟩,
  ⟨(some 6), .mv (.tmp 19), none⟩])
 (.reg [⟨(some 20), .mv (.tmp 4), none⟩,
  ⟨(some 21), .mv (.tmp 6), none⟩,
  ⟨(some 22), .call (.func 109) [(.tmp 21)], none⟩,
  ⟨(some 23), .bsl 24 1 1 [(.slice none 0 0)] [(0, 1, (.tmp 22))], none⟩,
  ⟨(some 24), .app 24 1 24 (.tmp 20) (.tmp 23), none⟩,
  ⟨(some 4), .mv (.tmp 24), none⟩])))
 (.reg [⟨(some 25), .bin .add (.tmp 16) (.const (.int .i64 1)), none⟩,
  ⟨(some 16), .mv (.tmp 25), none⟩])))))))
 (.seq (.reg [⟨(some 26), .mv (.tmp 4), none⟩,
  ⟨(some 2), .mv (.tmp 26), none⟩,
  ⟨(some 3), .mv (.const (.bool true)), none⟩])
 (.ret)))))
def r_impl_BestNested : List ARes := [.tmp 2, .tmp 3]
theorem ok_impl_BestNested : FnOk Try.prog 58 27 c_impl_BestNested r_impl_BestNested := ⟨⟨Try.f58, _, Try.func58, by kernel_rfl, rfl, rfl, by kernel_rfl, by kernel_rfl⟩⟩
def c_spec_BestChainCost : ACode := .seq (.reg [⟨(some 1), .box 26 (.tmp 0), none⟩,
  ⟨(some 2), .mv (.const (.int .i64 0)), none⟩,
  ⟨(some 3), .mv (.const (.bool false)), none⟩])
 (.seq (.seq (.reg [⟨(some 4), .ld (some 3) (.tmp 1), none⟩,
  ⟨(some 5), .call (.func 72) [(.tmp 4)], none⟩,
  ⟨(some 6), .un .not (.tmp 5), none⟩])
 (.cond (.tmp 6) (.seq (.reg [⟨(some 2), .mv (.const (.int .i64 0)), none⟩,
  ⟨(some 3), .mv (.const (.bool false)), none⟩])
 (.ret)) (.skip)))
 (.seq (.reg [⟨(some 7), .ld (some 3) (.tmp 1), none⟩,
  ⟨(some 8), .call (.func 110) [(.tmp 7)], none⟩,
  ⟨(some 2), .mv (.tmp 8), none⟩,
  ⟨(some 3), .mv (.const (.bool true)), none⟩])
 (.ret)))
def r_spec_BestChainCost : List ARes := [.tmp 2, .tmp 3]
theorem ok_spec_BestChainCost : FnOk Try.prog 59 9 c_spec_BestChainCost r_spec_BestChainCost := ⟨⟨Try.f59, _, Try.func59, by kernel_rfl, rfl, rfl, by kernel_rfl, by kernel_rfl⟩⟩
def c_spec_ChainBound : ACode := .seq (.reg [⟨(some 1), .box 26 (.tmp 0), none⟩,
  ⟨(some 2), .mv (.const (.int .i64 0)), none⟩,
  ⟨(some 3), .mv (.const (.bool false)), none⟩])
 (.seq (.seq (.reg [⟨(some 6), .ld (some 3) (.tmp 1), none⟩,
  ⟨(some 7), .call (.func 72) [(.tmp 6)], none⟩,
  ⟨(some 8), .un .not (.tmp 7), none⟩])
 (.cond (.tmp 8) (.seq (.reg [⟨(some 2), .mv (.const (.int .i64 0)), none⟩,
  ⟨(some 3), .mv (.const (.bool false)), none⟩])
 (.ret)) (.skip)))
 (.seq (.reg [⟨(some 4), .mv (.const (.int .i64 0)), none⟩])
 (.seq (.seq (.reg [⟨(some 5), .mv (.const (.int .i64 0)), none⟩])
 (.block 0 (.loop (.seq (.seq (.reg [⟨(some 9), .mv (.tmp 5), none⟩,
  ⟨(some 10), .fad 1 (.tmp 1), none⟩,
  ⟨(some 11), .ld none (.tmp 10), none⟩,
  ⟨(some 12), .len (.tmp 11), none⟩,
  ⟨(some 13), .bin .lss (.tmp 9) (.tmp 12), none⟩])
 (.cond (.tmp 13) (.skip) (.exit 0)))
 (.seq (.block 1 (.reg [⟨(some 16), .mv (.tmp 4), none⟩,
  ⟨(some 17), .fad 0 (.tmp 1), none⟩,
  ⟨(some 18), .ld none (.tmp 17), none⟩,
  ⟨(some 19), .fad 1 (.tmp 1), none⟩,
  ⟨(some 20), .ld none (.tmp 19), none⟩,
  ⟨(some 21), .mv (.tmp 5), none⟩,
  ⟨(some 22), .iad 1 (.tmp 20) (.tmp 21), none⟩,
  ⟨(some 23), .ld none (.tmp 22), none⟩,
  ⟨(some 24), .ld (some 3) (.tmp 1), none⟩,
  ⟨(some 25), .mv (.tmp 5), none⟩,
  ⟨(some 26), .rcall (.func 75) [(.tmp 24), (.tmp 25)], none⟩,
  ⟨(some 27), .rcall (.func 74) [(.tmp 18), (.tmp 23), (.tmp 26)], none⟩,
  ⟨(some 28), .rcall (.func 111) [(.tmp 27)], none⟩,
  ⟨(some 29), .bin .add (.tmp 16) (.tmp 28), none⟩,
  ⟨(some 4), .mv (.tmp 29), none⟩]))
 (.reg [⟨(some 14), .mv (.tmp 5), none⟩,
  ⟨(some 15), .bin .add (.tmp 14) (.const (.int .i64 1)), none⟩,
  ⟨(some 5), .mv (.tmp 15), none⟩]))))))
 (.seq (.reg [⟨(some 30), .mv (.tmp 4), none⟩,
  ⟨(some 2), .mv (.tmp 30), none⟩,
  ⟨(some 3), .mv (.const (.bool true)), none⟩])
 (.ret)))))
def r_spec_ChainBound : List ARes := [.tmp 2, .tmp 3]
theorem ok_spec_ChainBound : FnOk Try.prog 63 31 c_spec_ChainBound r_spec_ChainBound := ⟨⟨Try.f63, _, Try.func63, by kernel_rfl, rfl, rfl, by kernel_rfl, by kernel_rfl⟩⟩
def c_impl_ChainBound : ACode := .seq (.reg [⟨(some 1), .box 26 (.tmp 0), none⟩,
  ⟨(some 2), .mv (.const (.int .i64 0)), none⟩,
  ⟨(some 3), .mv (.const (.bool false)), none⟩])
 (.seq (.seq (.reg [⟨(some 8), .ld (some 3) (.tmp 1), none⟩,
  ⟨(some 9), .call (.func 32) [(.tmp 8)], none⟩,
  ⟨(some 10), .un .not (.tmp 9), none⟩])
 (.cond (.tmp 10) (.seq (.reg [⟨(some 2), .mv (.const (.int .i64 0)), none⟩,
  ⟨(some 3), .mv (.const (.bool false)), none⟩])
 (.ret)) (.skip)))
 (.seq (.reg [⟨(some 4), .mv (.const (.int .i64 0)), none⟩])
 (.seq (.seq (.reg [⟨(some 11), .fad 1 (.tmp 1), none⟩,
  ⟨(some 12), .ld none (.tmp 11), none⟩,
  ⟨(some 13), .len (.tmp 12), none⟩,
  ⟨(some 14), .mv (.const (.int .i64 0)), none⟩])
 (.block 0 (.loop (.seq (.reg [⟨(some 15), .bin .lss (.tmp 14) (.tmp 13), none⟩])
 (.seq (.cond (.tmp 15) (.skip) (.exit 0))
 (.seq (.block 1 (.seq (.reg [⟨(some 16), .mv (.tmp 14), none⟩,
  ⟨(some 5), .mv (.tmp 16), none⟩])
 (.seq (.reg [⟨(some 18), .ld (some 3) (.tmp 1), none⟩,
  ⟨(some 19), .mv (.tmp 5), none⟩,
  ⟨(some 20), .call (.func 71) [(.tmp 18), (.tmp 19)], none⟩,
  ⟨(some 21), .call (.func 27) [(.tmp 20)], none⟩,
  ⟨(some 17), .mv (.tmp 21), none⟩,
  ⟨(some 22), .ext 0 (.tmp 17), none⟩,
  ⟨(some 23), .ext 1 (.tmp 17), none⟩,
  ⟨(some 6), .mv (.tmp 22), none⟩,
  ⟨(some 7), .mv (.tmp 23), none⟩])
 (.reg [⟨(some 24), .mv (.tmp 4), none⟩,
  ⟨(some 25), .mv (.tmp 6), none⟩,
  ⟨(some 26), .bin .add (.tmp 24) (.tmp 25), none⟩,
  ⟨(some 4), .mv (.tmp 26), none⟩]))))
 (.reg [⟨(some 27), .bin .add (.tmp 14) (.const (.int .i64 1)), none⟩,
  ⟨(some 14), .mv (.tmp 27), none⟩])))))))
 (.seq (.reg [⟨(some 28), .mv (.tmp 4), none⟩,
  ⟨(some 2), .mv (.tmp 28), none⟩,
  ⟨(some 3), .mv (.const (.bool true)), none⟩])
 (.ret)))))
def r_impl_ChainBound : List ARes := [.tmp 2, .tmp 3]
theorem ok_impl_ChainBound : FnOk Try.prog 64 29 c_impl_ChainBound r_impl_ChainBound := ⟨⟨Try.f64, _, Try.func64, by kernel_rfl, rfl, rfl, by kernel_rfl, by kernel_rfl⟩⟩
def c_spec_StagewisePlan : ACode := .seq (.reg [⟨(some 1), .box 26 (.tmp 0), none⟩,
  ⟨(some 2), .mv (.const (.slice none 0 0)), none⟩,
  ⟨(some 3), .mv (.const (.bool false)), none⟩])
 (.seq (.reg [⟨(some 8), .bsl 24 1 0 [] [], none⟩,
  ⟨(some 4), .mv (.tmp 8), none⟩])
 (.seq (.seq (.reg [⟨(some 9), .ld (some 3) (.tmp 1), none⟩,
  ⟨(some 10), .call (.func 72) [(.tmp 9)], none⟩,
  ⟨(some 11), .un .not (.tmp 10), none⟩])
 (.cond (.tmp 11) (.seq (.reg [⟨(some 12), .mv (.tmp 4), none⟩,
  ⟨(some 2), .mv (.tmp 12), none⟩,
  ⟨(some 3), .mv (.const (.bool false)), none⟩])
 (.ret)) (.skip)))
 (.seq (.reg [⟨(some 13), .fad 0 (.tmp 1), none⟩,
  ⟨(some 14), .ld none (.tmp 13), none⟩,
  ⟨(some 5), .mv (.tmp 14), none⟩])
 (.seq (.seq (.reg [⟨(some 15), .fad 1 (.tmp 1), none⟩,
  ⟨(some 16), .ld none (.tmp 15), none⟩,
  ⟨(some 17), .len (.tmp 16), none⟩,
  ⟨(some 18), .bin .sub (.tmp 17) (.const (.int .i64 1)), none⟩,
  ⟨(some 6), .mv (.tmp 18), none⟩])
 (.block 0 (.loop (.seq (.seq (.reg [⟨(some 19), .mv (.tmp 6), none⟩,
  ⟨(some 20), .bin .geq (.tmp 19) (.const (.int .i64 0)), none⟩])
 (.cond (.tmp 20) (.skip) (.exit 0)))
 (.seq (.block 1 (.seq (.seq (.reg [⟨(some 23), .mv (.tmp 5), none⟩]) (.seq (.reg [⟨(some 24), .fad 1 (.tmp 1), none⟩]) (.seq (.reg [⟨(some 25), .ld none (.tmp 24), none⟩]) (.seq (.reg [⟨(some 26), .mv (.tmp 6), none⟩]) (.seq (.reg [⟨(some 27), .iad 1 (.tmp 25) (.tmp 26), none⟩]) (.seq (.reg [⟨(some 28), .ld none (.tmp 27), none⟩]) (.seq (.reg [⟨(some 29), .fad 2 (.tmp 1), none⟩]) (.seq (.reg [⟨(some 30), .ld none (.tmp 29), none⟩]) (.seq (.reg [⟨(some 31), .mv (.tmp 6), none⟩]) (.seq (.reg [⟨(some 32), .iad 1 (.tmp 30) (.tmp 31), none⟩]) (.seq (.reg [⟨(some 33), .ld none (.tmp 32), none⟩]) (.both (.seq (.reg [⟨(some 34), .rcall (.func 74) [(.tmp 23), (.tmp 28), (.tmp 33)], none⟩]) (.seq (.reg [⟨(some 7), .alc 30 [(.slice none 0 0), (.slice none 0 0), (.slice none 0 0), (.slice none 0 0)], none⟩]) (.seq (.reg [⟨none, .st 4 (.tmp 7) (.tmp 34), none⟩]) (.skip)))) (.seq (.reg [⟨(some 7), .alc 30 [(.slice none 0 0), (.slice none 0 0), (.slice none 0 0), (.slice none 0 0)], none⟩]) (.seq (.reg [⟨(some 34), .rcall (.func 74) [(.tmp 23), (.tmp 28), (.tmp 33)], none⟩]) (.seq (.reg [⟨none, .st 4 (.tmp 7) (.tmp 34), none⟩]) (.skip))))))))))))))))
 (.seq (.seq (.reg [⟨(some 35), .ld (some 4) (.tmp 7), none⟩,
  ⟨(some 36), .call (.func 112) [(.tmp 35)], none⟩,
  ⟨(some 37), .un .not (.tmp 36), none⟩])
 (.cond (.tmp 37) (.seq (.reg [⟨(some 38), .bsl 24 1 0 [] [], none⟩,
  ⟨(some 2), .mv (.tmp 38), none⟩,
  ⟨(some 3), .mv (.const (.bool false)), none⟩])
 (.ret)) (.skip)))
 (.seq (.reg [⟨(some 39), .ld (some 4) (.tmp 7), none⟩,
  ⟨(some 40), .ld (some 4) (.tmp 7), none⟩,
  ⟨(some 41), .rcall (.func 114) [(.tmp 40)], none⟩,
  ⟨(some 42), .rcall (.func 113) [(.tmp 39), (.tmp 41)], none⟩,
  ⟨(some 5), .mv (.tmp 42), none⟩])
 (.reg [⟨(some 43), .mv (.tmp 5), none⟩,
  ⟨(some 44), .bsl 24 1 1 [(.slice none 0 0)] [(0, 1, (.tmp 43))], none⟩,
  ⟨(some 45), .mv (.tmp 4), none⟩,
  ⟨(some 46), .app 24 1 24 (.tmp 44) (.tmp 45), none⟩,
  ⟨(some 4), .mv (.tmp 46), none⟩])))))
 (.reg [⟨(some 21), .mv (.tmp 6), none⟩,
  ⟨(some 22), .bin .sub (.tmp 21) (.const (.int .i64 1)), none⟩,
  ⟨(some 6), .mv (.tmp 22), none⟩]))))))
 (.seq (.reg [⟨(some 47), .mv (.tmp 4), none⟩,
  ⟨(some 2), .mv (.tmp 47), none⟩,
  ⟨(some 3), .mv (.const (.bool true)), none⟩])
 (.ret))))))
def r_spec_StagewisePlan : List ARes := [.tmp 2, .tmp 3]
theorem ok_spec_StagewisePlan : FnOk Try.prog 65 48 c_spec_StagewisePlan r_spec_StagewisePlan := ⟨⟨Try.f65, _, Try.func65, by kernel_rfl, rfl, rfl, by kernel_rfl, by kernel_rfl⟩⟩
def c_impl_StagewisePlan : ACode := .seq (.reg [⟨(some 1), .box 26 (.tmp 0), none⟩,
  ⟨(some 2), .mv (.const (.slice none 0 0)), none⟩,
  ⟨(some 3), .mv (.const (.bool false)), none⟩])
 (.seq (.seq (.reg [⟨(some 10), .ld (some 3) (.tmp 1), none⟩,
  ⟨(some 11), .call (.func 32) [(.tmp 10)], none⟩,
  ⟨(some 12), .un .not (.tmp 11), none⟩])
 (.cond (.tmp 12) (.seq (.reg [⟨(some 13), .bsl 24 1 0 [] [], none⟩,
  ⟨(some 2), .mv (.tmp 13), none⟩,
  ⟨(some 3), .mv (.const (.bool false)), none⟩])
 (.ret)) (.skip)))
 (.seq (.reg [⟨(some 14), .fad 1 (.tmp 1), none⟩,
  ⟨(some 15), .ld none (.tmp 14), none⟩,
  ⟨(some 16), .len (.tmp 15), none⟩,
  ⟨(some 17), .mks 24 24 [(.slice none 0 0)] (.tmp 16) (.tmp 16), none⟩,
  ⟨(some 4), .mv (.tmp 17), none⟩])
 (.seq (.reg [⟨(some 18), .fad 0 (.tmp 1), none⟩,
  ⟨(some 19), .ld none (.tmp 18), none⟩,
  ⟨(some 5), .mv (.tmp 19), none⟩])
 (.seq (.seq (.reg [⟨(some 20), .mv (.tmp 4), none⟩,
  ⟨(some 21), .len (.tmp 20), none⟩,
  ⟨(some 22), .bin .sub (.tmp 21) (.const (.int .i64 1)), none⟩,
  ⟨(some 6), .mv (.tmp 22), none⟩])
 (.block 0 (.loop (.seq (.seq (.reg [⟨(some 23), .mv (.tmp 6), none⟩,
  ⟨(some 24), .bin .geq (.tmp 23) (.const (.int .i64 0)), none⟩])
 (.cond (.tmp 24) (.skip) (.exit 0)))
 (.seq (.block 1 (.seq (.seq (.reg [⟨(some 27), .mv (.tmp 5), none⟩]) (.seq (.reg [⟨(some 28), .fad 1 (.tmp 1), none⟩]) (.seq (.reg [⟨(some 29), .ld none (.tmp 28), none⟩]) (.seq (.reg [⟨(some 30), .mv (.tmp 6), none⟩]) (.seq (.reg [⟨(some 31), .iad 1 (.tmp 29) (.tmp 30), none⟩]) (.seq (.reg [⟨(some 32), .ld none (.tmp 31), none⟩]) (.seq (.reg [⟨(some 33), .fad 2 (.tmp 1), none⟩]) (.seq (.reg [⟨(some 34), .ld none (.tmp 33), none⟩]) (.seq (.reg [⟨(some 35), .mv (.tmp 6), none⟩]) (.seq (.reg [⟨(some 36), .iad 1 (.tmp 34) (.tmp 35), none⟩]) (.seq (.reg [⟨(some 37), .ld none (.tmp 36), none⟩]) (.both (.seq (.reg [⟨(some 38), .rcall (.func 82) [(.tmp 27), (.tmp 32), (.tmp 37)], none⟩]) (.seq (.reg [⟨(some 7), .alc 30 [(.slice none 0 0), (.slice none 0 0), (.slice none 0 0), (.slice none 0 0)], none⟩]) (.seq (.reg [⟨none, .st 4 (.tmp 7) (.tmp 38), none⟩]) (.skip)))) (.seq (.reg [⟨(some 7), .alc 30 [(.slice none 0 0), (.slice none 0 0), (.slice none 0 0), (.slice none 0 0)], none⟩]) (.seq (.reg [⟨(some 38), .rcall (.func 82) [(.tmp 27), (.tmp 32), (.tmp 37)], none⟩]) (.seq (.reg [⟨none, .st 4 (.tmp 7) (.tmp 38), none⟩]) (.skip))))))))))))))))
 (.seq (.reg [⟨(some 40), .ld (some 4) (.tmp 7), none⟩,
  ⟨(some 41), .call (.func 115) [(.tmp 40)], none⟩,
  ⟨(some 39), .mv (.tmp 41), none⟩,
  ⟨(some 42), .ext 0 (.tmp 39), none⟩,
  ⟨(some 43), .ext 1 (.tmp 39), none⟩,
  ⟨(some 8), .mv (.tmp 42), none⟩,
  ⟨(some 9), .mv (.tmp 43), none⟩])
 (.seq (.seq (.reg [⟨(some 44), .mv (.tmp 9), none⟩,
  ⟨(some 45), .un .not (.tmp 44), none⟩])
 (.cond (.tmp 45) (.seq (.reg [⟨(some 46), .bsl 24 1 0 [] [], none⟩,
  ⟨(some 2), .mv (.tmp 46), none⟩,
  ⟨(some 3), .mv (.const (.bool false)), none⟩])
 (.ret)) (.skip)))
 (.seq (.reg [⟨(some 48), .mv (.tmp 4), none⟩,
  ⟨(some 49), .mv (.tmp 6), none⟩,
  ⟨(some 50), .ld (some 4) (.tmp 7), none⟩,
  ⟨(some 51), .mv (.tmp 8), none⟩,
  ⟨(some 52), .call (.func 105) [(.tmp 50), (.tmp 51)], none⟩,
  ⟨(some 47), .mv (.tmp 52), none⟩,
  ⟨(some 53), .ext 0 (.tmp 47), none⟩,
  ⟨(some 54), .ext 1 (.tmp 47), none⟩,
  ⟨(some 55), .iad 1 (.tmp 48) (.tmp 49), none⟩,
  ⟨none, .st 1 (.tmp 55) (.tmp 53), none⟩])
 (.reg [⟨(some 56), .mv (.tmp 4), none⟩,
  ⟨(some 57), .mv (.tmp 6), none⟩,
  ⟨(some 58), .iad 1 (.tmp 56) (.tmp 57), none⟩,
  ⟨(some 59), .ld none (.tmp 58), none⟩,
  ⟨(some 5), .mv (.tmp 59), none⟩]))))))
 (.reg [⟨(some 25), .mv (.tmp 6), none⟩,
  ⟨(some 26), .bin .sub (.tmp 25) (.const (.int .i64 1)), none⟩,
  ⟨(some 6), .mv (.tmp 26), none⟩]))))))
 (.seq (.reg [⟨(some 60), .mv (.tmp 4), none⟩,
  ⟨(some 2), .mv (.tmp 60), none⟩,
  ⟨(some 3), .mv (.const (.bool true)), none⟩])
 (.ret))))))
def r_impl_StagewisePlan : List ARes := [.tmp 2, .tmp 3]
theorem ok_impl_StagewisePlan : FnOk Try.prog 66 61 c_impl_StagewisePlan r_impl_StagewisePlan := ⟨⟨Try.f66, _, Try.func66, by kernel_rfl, rfl, rfl, by kernel_rfl, by kernel_rfl⟩⟩
def c_impl_isWithin : ACode := .seq (.reg [⟨(some 4), .mv (.const (.bool false)), none⟩])
 (.seq (.reg [⟨(some 5), .mv (.tmp 0), none⟩,
  ⟨(some 6), .bin .geq (.tmp 5) (.const (.int .i64 0)), none⟩,
  ⟨(some 7), .mv (.tmp 6), none⟩,
  ⟨(some 8), .mv (.tmp 0), (some (7, true))⟩,
  ⟨(some 9), .mv (.tmp 1), (some (7, true))⟩,
  ⟨(some 10), .bin .leq (.tmp 8) (.tmp 9), (some (7, true))⟩,
  ⟨(some 11), .pick (.tmp 7) (.tmp 10) (.const (.bool false)), none⟩,
  ⟨(some 4), .mv (.tmp 11), none⟩])
 (.ret))
def r_impl_isWithin : List ARes := [.tmp 4]
theorem ok_impl_isWithin : FnOk Try.prog 70 12 c_impl_isWithin r_impl_isWithin := ⟨⟨Try.f70, _, Try.func70, by kernel_rfl, rfl, rfl, by kernel_rfl, by kernel_rfl⟩⟩
def c_impl_stageCase : ACode := .seq (.reg [⟨(some 2), .box 26 (.tmp 0), none⟩,
  ⟨(some 4), .alc 30 [(.slice none 0 0), (.slice none 0 0), (.slice none 0 0), (.slice none 0 0)], none⟩])
 (.seq (.reg [⟨(some 5), .fad 0 (.tmp 2), none⟩,
  ⟨(some 6), .ld none (.tmp 5), none⟩,
  ⟨(some 7), .fad 1 (.tmp 2), none⟩,
  ⟨(some 8), .ld none (.tmp 7), none⟩,
  ⟨(some 9), .mv (.tmp 1), none⟩,
  ⟨(some 10), .iad 1 (.tmp 8) (.tmp 9), none⟩,
  ⟨(some 11), .ld none (.tmp 10), none⟩,
  ⟨(some 12), .ld (some 3) (.tmp 2), none⟩,
  ⟨(some 13), .mv (.tmp 1), none⟩,
  ⟨(some 14), .rcall (.func 103) [(.tmp 12), (.tmp 13)], none⟩,
  ⟨(some 15), .rcall (.func 82) [(.tmp 6), (.tmp 11), (.tmp 14)], none⟩,
  ⟨none, .st 4 (.tmp 4) (.tmp 15), none⟩])
 (.ret))
def r_impl_stageCase : List ARes := [.cell 4 (some 4)]
theorem ok_impl_stageCase : FnOk Try.prog 71 16 c_impl_stageCase r_impl_stageCase := ⟨⟨Try.f71, _, Try.func71, by kernel_rfl, rfl, rfl, by kernel_rfl, by kernel_rfl⟩⟩
def c_spec_l7Good : ACode := .seq (.reg [⟨(some 1), .box 26 (.tmp 0), none⟩,
  ⟨(some 2), .mv (.const (.bool false)), none⟩])
 (.seq (.seq (.reg [⟨(some 4), .fad 0 (.tmp 1), none⟩,
  ⟨(some 5), .ld none (.tmp 4), none⟩,
  ⟨(some 6), .len (.tmp 5), none⟩,
  ⟨(some 7), .bin .gtr (.tmp 6) (.const (.int .i64 6)), none⟩,
  ⟨(some 8), .mv (.tmp 7), none⟩,
  ⟨(some 9), .fad 0 (.tmp 1), (some (8, false))⟩,
  ⟨(some 10), .ld none (.tmp 9), (some (8, false))⟩,
  ⟨(some 11), .fad 0 (.tmp 1), (some (8, false))⟩,
  ⟨(some 12), .ld none (.tmp 11), (some (8, false))⟩,
  ⟨(some 13), .len (.tmp 12), (some (8, false))⟩,
  ⟨(some 14), .call (.func 117) [(.tmp 10), (.tmp 13), (.const (.int .i64 20))], (some (8, false))⟩,
  ⟨(some 15), .un .not (.tmp 14), (some (8, false))⟩,
  ⟨(some 16), .pick (.tmp 8) (.const (.bool true)) (.tmp 15), none⟩,
  ⟨(some 17), .mv (.tmp 16), none⟩,
  ⟨(some 18), .fad 1 (.tmp 1), (some (17, false))⟩,
  ⟨(some 19), .ld none (.tmp 18), (some (17, false))⟩,
  ⟨(some 20), .len (.tmp 19), (some (17, false))⟩,
  ⟨(some 21), .call (.func 73) [(.tmp 20), (.const (.int .i64 1)), (.const (.int .i64 3))], (some (17, false))⟩,
  ⟨(some 22), .un .not (.tmp 21), (some (17, false))⟩,
  ⟨(some 23), .pick (.tmp 17) (.const (.bool true)) (.tmp 22), none⟩])
 (.cond (.tmp 23) (.seq (.reg [⟨(some 2), .mv (.const (.bool false)), none⟩])
 (.ret)) (.skip)))
 (.seq (.seq (.reg [⟨(some 24), .fad 1 (.tmp 1), none⟩,
  ⟨(some 25), .ld none (.tmp 24), none⟩,
  ⟨(some 26), .fad 1 (.tmp 1), none⟩,
  ⟨(some 27), .ld none (.tmp 26), none⟩,
  ⟨(some 28), .len (.tmp 27), none⟩,
  ⟨(some 29), .call (.func 117) [(.tmp 25), (.tmp 28), (.const (.int .i64 99))], none⟩,
  ⟨(some 30), .un .not (.tmp 29), none⟩,
  ⟨(some 31), .mv (.tmp 30), none⟩,
  ⟨(some 32), .fad 2 (.tmp 1), (some (31, false))⟩,
  ⟨(some 33), .ld none (.tmp 32), (some (31, false))⟩,
  ⟨(some 34), .fad 1 (.tmp 1), (some (31, false))⟩,
  ⟨(some 35), .ld none (.tmp 34), (some (31, false))⟩,
  ⟨(some 36), .len (.tmp 35), (some (31, false))⟩,
  ⟨(some 37), .call (.func 117) [(.tmp 33), (.tmp 36), (.const (.int .i64 9))], (some (31, false))⟩,
  ⟨(some 38), .un .not (.tmp 37), (some (31, false))⟩,
  ⟨(some 39), .pick (.tmp 31) (.const (.bool true)) (.tmp 38), none⟩])
 (.cond (.tmp 39) (.seq (.reg [⟨(some 2), .mv (.const (.bool false)), none⟩])
 (.ret)) (.skip)))
 (.seq (.seq (.reg [⟨(some 3), .mv (.const (.int .i64 1)), none⟩])
 (.block 0 (.loop (.seq (.seq (.reg [⟨(some 40), .mv (.tmp 3), none⟩,
  ⟨(some 41), .fad 2 (.tmp 1), none⟩,
  ⟨(some 42), .ld none (.tmp 41), none⟩,
  ⟨(some 43), .len (.tmp 42), none⟩,
  ⟨(some 44), .bin .lss (.tmp 40) (.tmp 43), none⟩])
 (.cond (.tmp 44) (.skip) (.exit 0)))
 (.seq (.block 1 (.seq (.reg [⟨(some 47), .fad 2 (.tmp 1), none⟩,
  ⟨(some 48), .ld none (.tmp 47), none⟩,
  ⟨(some 49), .mv (.tmp 3), none⟩,
  ⟨(some 50), .iad 1 (.tmp 48) (.tmp 49), none⟩,
  ⟨(some 51), .ld none (.tmp 50), none⟩,
  ⟨(some 52), .fad 2 (.tmp 1), none⟩,
  ⟨(some 53), .ld none (.tmp 52), none⟩,
  ⟨(some 54), .mv (.tmp 3), none⟩,
  ⟨(some 55), .bin .sub (.tmp 54) (.const (.int .i64 1)), none⟩,
  ⟨(some 56), .iad 1 (.tmp 53) (.tmp 55), none⟩,
  ⟨(some 57), .ld none (.tmp 56), none⟩,
  ⟨(some 58), .bin .lss (.tmp 51) (.tmp 57), none⟩])
 (.cond (.tmp 58) (.seq (.reg [⟨(some 2), .mv (.const (.bool false)), none⟩])
 (.ret)) (.skip))))
 (.reg [⟨(some 45), .mv (.tmp 3), none⟩,
  ⟨(some 46), .bin .add (.tmp 45) (.const (.int .i64 1)), none⟩,
  ⟨(some 3), .mv (.tmp 46), none⟩]))))))
 (.seq (.reg [⟨(some 2), .mv (.const (.bool true)), none⟩])
 (.ret)))))
def r_spec_l7Good : List ARes := [.tmp 2]
theorem ok_spec_l7Good : FnOk Try.prog 72 59 c_spec_l7Good r_spec_l7Good := ⟨⟨Try.f72, _, Try.func72, by kernel_rfl, rfl, rfl, by kernel_rfl, by kernel_rfl⟩⟩
def c_spec_l1In : ACode := .seq (.reg [⟨(some 6), .mv (.const (.bool false)), none⟩])
 (.seq (.reg [⟨(some 7), .mv (.tmp 0), none⟩,
  ⟨(some 8), .mv (.tmp 1), none⟩,
  ⟨(some 9), .bin .geq (.tmp 7) (.tmp 8), none⟩,
  ⟨(some 10), .mv (.tmp 9), none⟩,
  ⟨(some 11), .mv (.tmp 0), (some (10, true))⟩,
  ⟨(some 12), .mv (.tmp 2), (some (10, true))⟩,
  ⟨(some 13), .bin .leq (.tmp 11) (.tmp 12), (some (10, true))⟩,
  ⟨(some 14), .pick (.tmp 10) (.tmp 13) (.const (.bool false)), none⟩,
  ⟨(some 6), .mv (.tmp 14), none⟩])
 (.ret))
def r_spec_l1In : List ARes := [.tmp 6]
theorem ok_spec_l1In : FnOk Try.prog 73 15 c_spec_l1In r_spec_l1In := ⟨⟨Try.f73, _, Try.func73, by kernel_rfl, rfl, rfl, by kernel_rfl, by kernel_rfl⟩⟩
def c_spec_l7Case : ACode := .seq (.reg [⟨(some 6), .alc 30 [(.slice none 0 0), (.slice none 0 0), (.slice none 0 0), (.slice none 0 0)], none⟩])
 (.seq (.reg [⟨(some 9), .bld [(.slice none 0 0), (.slice none 0 0), (.slice none 0 0), (.slice none 0 0)] [], none⟩,
  ⟨(some 7), .alc 30 [(.slice none 0 0), (.slice none 0 0), (.slice none 0 0), (.slice none 0 0)], none⟩,
  ⟨none, .st 4 (.tmp 7) (.tmp 9), none⟩])
 (.seq (.seq (.reg [⟨(some 8), .mv (.const (.int .i64 0)), none⟩])
 (.block 0 (.loop (.seq (.seq (.reg [⟨(some 10), .mv (.tmp 8), none⟩,
  ⟨(some 11), .mv (.tmp 0), none⟩,
  ⟨(some 12), .len (.tmp 11), none⟩,
  ⟨(some 13), .bin .lss (.tmp 10) (.tmp 12), none⟩])
 (.cond (.tmp 13) (.skip) (.exit 0)))
 (.seq (.block 1 (.seq (.reg [⟨(some 16), .fad 0 (.tmp 7), none⟩,
  ⟨(some 17), .ld none (.tmp 16), none⟩,
  ⟨(some 18), .mv (.tmp 0), none⟩,
  ⟨(some 19), .mv (.tmp 8), none⟩,
  ⟨(some 20), .iad 1 (.tmp 18) (.tmp 19), none⟩,
  ⟨(some 21), .ld none (.tmp 20), none⟩,
  ⟨(some 22), .bsl 3 1 1 [(.int .i64 0)] [(0, 1, (.tmp 21))], none⟩,
  ⟨(some 23), .app 3 1 8 (.tmp 17) (.tmp 22), none⟩,
  ⟨(some 24), .fad 0 (.tmp 7), none⟩,
  ⟨none, .st 1 (.tmp 24) (.tmp 23), none⟩])
 (.seq (.reg [⟨(some 25), .fad 1 (.tmp 7), none⟩,
  ⟨(some 26), .ld none (.tmp 25), none⟩,
  ⟨(some 27), .mv (.tmp 1), none⟩,
  ⟨(some 28), .bsl 3 1 1 [(.int .i64 0)] [(0, 1, (.tmp 27))], none⟩,
  ⟨(some 29), .app 3 1 8 (.tmp 26) (.tmp 28), none⟩,
  ⟨(some 30), .fad 1 (.tmp 7), none⟩,
  ⟨none, .st 1 (.tmp 30) (.tmp 29), none⟩])
 (.seq (.reg [⟨(some 31), .fad 2 (.tmp 7), none⟩,
  ⟨(some 32), .ld none (.tmp 31), none⟩,
  ⟨(some 33), .bsl 3 1 1 [(.int .i64 0)] [(0, 1, (.const (.int .i64 0)))], none⟩,
  ⟨(some 34), .app 3 1 8 (.tmp 32) (.tmp 33), none⟩,
  ⟨(some 35), .fad 2 (.tmp 7), none⟩,
  ⟨none, .st 1 (.tmp 35) (.tmp 34), none⟩])
 (.reg [⟨(some 36), .fad 3 (.tmp 7), none⟩,
  ⟨(some 37), .ld none (.tmp 36), none⟩,
  ⟨(some 38), .mv (.tmp 2), none⟩,
  ⟨(some 39), .bsl 3 1 1 [(.int .i64 0)] [(0, 1, (.tmp 38))], none⟩,
  ⟨(some 40), .app 3 1 8 (.tmp 37) (.tmp 39), none⟩,
  ⟨(some 41), .fad 3 (.tmp 7), none⟩,
  ⟨none, .st 1 (.tmp 41) (.tmp 40), none⟩])))))
 (.reg [⟨(some 14), .mv (.tmp 8), none⟩,
  ⟨(some 15), .bin .add (.tmp 14) (.const (.int .i64 1)), none⟩,
  ⟨(some 8), .mv (.tmp 15), none⟩]))))))
 (.seq (.reg [⟨(some 42), .ld (some 4) (.tmp 7), none⟩,
  ⟨none, .st 4 (.tmp 6) (.tmp 42), none⟩])
 (.ret))))
def r_spec_l7Case : List ARes := [.cell 6 (some 4)]
theorem ok_spec_l7Case : FnOk Try.prog 74 43 c_spec_l7Case r_spec_l7Case := ⟨⟨Try.f74, _, Try.func74, by kernel_rfl, rfl, rfl, by kernel_rfl, by kernel_rfl⟩⟩
def c_spec_l7Echelon : ACode := .seq (.reg [⟨(some 2), .box 26 (.tmp 0), none⟩,
  ⟨(some 4), .mv (.const (.int .i64 0)), none⟩])
 (.seq (.seq (.reg [⟨(some 5), .mv (.tmp 1), none⟩,
  ⟨(some 6), .bin .eql (.tmp 5) (.const (.int .i64 0)), none⟩])
 (.cond (.tmp 6) (.seq (.reg [⟨(some 7), .fad 2 (.tmp 2), none⟩,
  ⟨(some 8), .ld none (.tmp 7), none⟩,
  ⟨(some 9), .iad 1 (.tmp 8) (.const (.int .i64 0)), none⟩,
  ⟨(some 10), .ld none (.tmp 9), none⟩,
  ⟨(some 4), .mv (.tmp 10), none⟩])
 (.ret)) (.skip)))
 (.seq (.reg [⟨(some 11), .fad 2 (.tmp 2), none⟩,
  ⟨(some 12), .ld none (.tmp 11), none⟩,
  ⟨(some 13), .mv (.tmp 1), none⟩,
  ⟨(some 14), .iad 1 (.tmp 12) (.tmp 13), none⟩,
  ⟨(some 15), .ld none (.tmp 14), none⟩,
  ⟨(some 16), .fad 2 (.tmp 2), none⟩,
  ⟨(some 17), .ld none (.tmp 16), none⟩,
  ⟨(some 18), .mv (.tmp 1), none⟩,
  ⟨(some 19), .bin .sub (.tmp 18) (.const (.int .i64 1)), none⟩,
  ⟨(some 20), .iad 1 (.tmp 17) (.tmp 19), none⟩,
  ⟨(some 21), .ld none (.tmp 20), none⟩,
  ⟨(some 22), .bin .sub (.tmp 15) (.tmp 21), none⟩,
  ⟨(some 4), .mv (.tmp 22), none⟩])
 (.ret)))
def r_spec_l7Echelon : List ARes := [.tmp 4]
theorem ok_spec_l7Echelon : FnOk Try.prog 75 23 c_spec_l7Echelon r_spec_l7Echelon := ⟨⟨Try.f75, _, Try.func75, by kernel_rfl, rfl, rfl, by kernel_rfl, by kernel_rfl⟩⟩
def c_impl_areStages : ACode := .seq (.reg [⟨(some 6), .mv (.const (.bool false)), none⟩])
 (.seq (.reg [⟨(some 8), .mv (.tmp 1), none⟩,
  ⟨(some 9), .len (.tmp 8), none⟩,
  ⟨(some 7), .mv (.tmp 9), none⟩])
 (.seq (.reg [⟨(some 10), .mv (.tmp 7), none⟩,
  ⟨(some 11), .bin .gtr (.tmp 10) (.const (.int .i64 0)), none⟩,
  ⟨(some 12), .mv (.tmp 11), none⟩,
  ⟨(some 13), .mv (.tmp 7), (some (12, true))⟩,
  ⟨(some 14), .bin .leq (.tmp 13) (.const (.int .i64 3)), (some (12, true))⟩,
  ⟨(some 15), .pick (.tmp 12) (.tmp 14) (.const (.bool false)), none⟩,
  ⟨(some 16), .mv (.tmp 15), none⟩,
  ⟨(some 17), .mv (.tmp 1), (some (16, true))⟩,
  ⟨(some 18), .mv (.tmp 7), (some (16, true))⟩,
  ⟨(some 19), .call (.func 118) [(.tmp 17), (.tmp 18), (.const (.int .i64 99))], (some (16, true))⟩,
  ⟨(some 20), .pick (.tmp 16) (.tmp 19) (.const (.bool false)), none⟩,
  ⟨(some 21), .mv (.tmp 20), none⟩,
  ⟨(some 22), .mv (.tmp 2), (some (21, true))⟩,
  ⟨(some 23), .mv (.tmp 7), (some (21, true))⟩,
  ⟨(some 24), .call (.func 118) [(.tmp 22), (.tmp 23), (.const (.int .i64 9))], (some (21, true))⟩,
  ⟨(some 25), .pick (.tmp 21) (.tmp 24) (.const (.bool false)), none⟩,
  ⟨(some 26), .mv (.tmp 25), none⟩,
  ⟨(some 27), .mv (.tmp 0), (some (26, true))⟩,
  ⟨(some 28), .len (.tmp 27), (some (26, true))⟩,
  ⟨(some 29), .bin .leq (.tmp 28) (.const (.int .i64 6)), (some (26, true))⟩,
  ⟨(some 30), .pick (.tmp 26) (.tmp 29) (.const (.bool false)), none⟩,
  ⟨(some 31), .mv (.tmp 30), none⟩,
  ⟨(some 32), .mv (.tmp 0), (some (31, true))⟩,
  ⟨(some 33), .mv (.tmp 0), (some (31, true))⟩,
  ⟨(some 34), .len (.tmp 33), (some (31, true))⟩,
  ⟨(some 35), .call (.func 118) [(.tmp 32), (.tmp 34), (.const (.int .i64 20))], (some (31, true))⟩,
  ⟨(some 36), .pick (.tmp 31) (.tmp 35) (.const (.bool false)), none⟩,
  ⟨(some 6), .mv (.tmp 36), none⟩])
 (.ret)))
def r_impl_areStages : List ARes := [.tmp 6]
theorem ok_impl_areStages : FnOk Try.prog 79 37 c_impl_areStages r_impl_areStages := ⟨⟨Try.f79, _, Try.func79, by kernel_rfl, rfl, rfl, by kernel_rfl, by kernel_rfl⟩⟩
def c_impl_sumOf : ACode := .seq (.reg [⟨(some 2), .mv (.const (.int .i64 0)), none⟩])
 (.seq (.reg [⟨(some 3), .mv (.const (.int .i64 0)), none⟩])
 (.seq (.seq (.reg [⟨(some 6), .mv (.tmp 0), none⟩,
  ⟨(some 7), .len (.tmp 6), none⟩,
  ⟨(some 8), .mv (.const (.int .i64 0)), none⟩])
 (.block 0 (.loop (.seq (.reg [⟨(some 9), .bin .lss (.tmp 8) (.tmp 7), none⟩])
 (.seq (.cond (.tmp 9) (.skip) (.exit 0))
 (.seq (.block 1 (.seq (.reg [⟨(some 10), .iad 1 (.tmp 6) (.tmp 8), none⟩,
  ⟨(some 11), .ld none (.tmp 10), none⟩,
  ⟨(some 5), .mv (.tmp 11), none⟩])
 (.reg [⟨(some 12), .mv (.tmp 3), none⟩,
  ⟨(some 13), .mv (.tmp 5), none⟩,
  ⟨(some 14), .bin .add (.tmp 12) (.tmp 13), none⟩,
  ⟨(some 3), .mv (.tmp 14), none⟩])))
 (.reg [⟨(some 15), .bin .add (.tmp 8) (.const (.int .i64 1)), none⟩,
  ⟨(some 8), .mv (.tmp 15), none⟩])))))))
 (.seq (.reg [⟨(some 16), .mv (.tmp 3), none⟩,
  ⟨(some 2), .mv (.tmp 16), none⟩])
 (.ret))))
def r_impl_sumOf : List ARes := [.tmp 2]
theorem ok_impl_sumOf : FnOk Try.prog 80 17 c_impl_sumOf r_impl_sumOf := ⟨⟨Try.f80, _, Try.func80, by kernel_rfl, rfl, rfl, by kernel_rfl, by kernel_rfl⟩⟩
def c_impl_stockOf : ACode := .seq (.reg [⟨(some 2), .box 30 (.tmp 0), none⟩,
  ⟨(some 4), .alc 86 [(.slice none 0 0), .nilIface], none⟩])
 (.seq (.reg [⟨(some 11), .mv (.tmp 1), none⟩,
  ⟨(some 12), .bld [(.slice none 0 0), .nilIface] [(1, 1, (.tmp 11))], none⟩,
  ⟨(some 5), .alc 86 [(.slice none 0 0), .nilIface], none⟩,
  ⟨none, .st 2 (.tmp 5) (.tmp 12), none⟩])
 (.seq (.seq (.reg [⟨(some 13), .fad 0 (.tmp 2), none⟩,
  ⟨(some 14), .ld none (.tmp 13), none⟩,
  ⟨(some 15), .len (.tmp 14), none⟩,
  ⟨(some 16), .call (.func 84) [(.tmp 15)], none⟩,
  ⟨(some 17), .bin .add (.tmp 16) (.const (.int .u64 1)), none⟩,
  ⟨(some 18), .mv (.const (.int .u64 0)), none⟩])
 (.block 0 (.loop (.seq (.reg [⟨(some 19), .bin .lss (.tmp 18) (.tmp 17), none⟩])
 (.seq (.cond (.tmp 19) (.skip) (.exit 0))
 (.seq (.block 1 (.seq (.reg [⟨(some 20), .mv (.tmp 18), none⟩,
  ⟨(some 6), .mv (.tmp 20), none⟩])
 (.seq (.reg [⟨(some 22), .ld (some 4) (.tmp 2), none⟩,
  ⟨(some 23), .mv (.tmp 6), none⟩,
  ⟨(some 24), .rcall (.func 109) [(.tmp 23)], none⟩,
  ⟨(some 25), .rcall (.func 105) [(.tmp 22), (.tmp 24)], none⟩,
  ⟨(some 21), .mv (.tmp 25), none⟩,
  ⟨(some 26), .ext 0 (.tmp 21), none⟩,
  ⟨(some 27), .ext 1 (.tmp 21), none⟩,
  ⟨(some 7), .mv (.tmp 26), none⟩,
  ⟨(some 8), .mv (.tmp 27), none⟩])
 (.seq (.reg [⟨(some 28), .mv (.tmp 8), none⟩])
 (.cond (.tmp 28) (.seq (.reg [⟨(some 30), .ld (some 4) (.tmp 2), none⟩,
  ⟨(some 31), .mv (.tmp 7), none⟩,
  ⟨(some 32), .call (.func 119) [(.tmp 30), (.tmp 31)], none⟩,
  ⟨(some 29), .mv (.tmp 32), none⟩,
  ⟨(some 33), .ext 0 (.tmp 29), none⟩,
  ⟨(some 34), .ext 1 (.tmp 29), none⟩,
  ⟨(some 9), .mv (.tmp 33), none⟩,
  ⟨(some 10), .mv (.tmp 34), none⟩])
 (.reg [⟨(some 35), .fad 0 (.tmp 5), none⟩,
  ⟨(some 36), .ld none (.tmp 35), none⟩,
  ⟨(some 37), .mv (.tmp 9), none⟩,
  ⟨(some 38), .mv (.tmp 6), none⟩,
  ⟨(some 39), .bld [(.int .i64 0), (.int .u64 0)] [(0, 1, (.tmp 37)), (1, 1, (.tmp 38))], none⟩,
  ⟨(some 40), .bsl 127 2 1 [(.int .i64 0), (.int .u64 0)] [(0, 2, (.tmp 39))], none⟩,
  ⟨(some 41), .app 127 2 16 (.tmp 36) (.tmp 40), none⟩,
  ⟨(some 42), .fad 0 (.tmp 5), none⟩,
  ⟨none, .st 1 (.tmp 42) (.tmp 41), none⟩])) (.skip))))))
 (.reg [⟨(some 43), .bin .add (.tmp 18) (.const (.int .u64 1)), none⟩,
  ⟨(some 18), .mv (.tmp 43), none⟩])))))))
 (.seq (.reg [⟨(some 44), .ld (some 2) (.tmp 5), none⟩,
  ⟨none, .st 2 (.tmp 4) (.tmp 44), none⟩])
 (.ret))))
def r_impl_stockOf : List ARes := [.cell 4 (some 2)]
theorem ok_impl_stockOf : FnOk Try.prog 81 45 c_impl_stockOf r_impl_stockOf := ⟨⟨Try.f81, _, Try.func81, by kernel_rfl, rfl, rfl, by kernel_rfl, by kernel_rfl⟩⟩
def c_impl_steadyCase : ACode := .seq (.reg [⟨(some 3), .box 24 (.tmp 0), none⟩,
  ⟨(some 6), .alc 30 [(.slice none 0 0), (.slice none 0 0), (.slice none 0 0), (.slice none 0 0)], none⟩])
 (.seq (.reg [⟨(some 8), .mkf 120 [] [(.tmp 3)], none⟩,
  ⟨(some 7), .mv (.tmp 8), none⟩])
 (.seq (.reg [⟨(some 9), .bsl 3 1 0 [] [], none⟩,
  ⟨(some 10), .ld none (.tmp 3), none⟩,
  ⟨(some 11), .app 3 1 8 (.tmp 9) (.tmp 10), none⟩,
  ⟨(some 12), .mv (.tmp 7), none⟩,
  ⟨(some 13), .mv (.tmp 1), none⟩,
  ⟨(some 14), .call (.tmp 12) [(.tmp 13)], none⟩,
  ⟨(some 15), .mv (.tmp 7), none⟩,
  ⟨(some 16), .call (.tmp 15) [(.const (.int .i64 0))], none⟩,
  ⟨(some 17), .mv (.tmp 7), none⟩,
  ⟨(some 18), .mv (.tmp 2), none⟩,
  ⟨(some 19), .call (.tmp 17) [(.tmp 18)], none⟩,
  ⟨(some 20), .bld [(.slice none 0 0), (.slice none 0 0), (.slice none 0 0), (.slice none 0 0)] [(0, 1, (.tmp 11)), (1, 1, (.tmp 14)), (2, 1, (.tmp 16)), (3, 1, (.tmp 19))], none⟩,
  ⟨none, .st 4 (.tmp 6) (.tmp 20), none⟩])
 (.ret)))
def r_impl_steadyCase : List ARes := [.cell 6 (some 4)]
theorem ok_impl_steadyCase : FnOk Try.prog 82 21 c_impl_steadyCase r_impl_steadyCase := ⟨⟨Try.f82, _, Try.func82, by kernel_rfl, rfl, rfl, by kernel_rfl, by kernel_rfl⟩⟩
def c_impl_stock__bestFor : ACode := .seq (.reg [⟨(some 2), .box 86 (.tmp 0), none⟩,
  ⟨(some 4), .alc 92 [(.int .i64 0), (.slice none 0 0)], none⟩])
 (.seq (.reg [⟨(some 9), .bsl 92 2 0 [] [], none⟩,
  ⟨(some 5), .mv (.tmp 9), none⟩])
 (.seq (.seq (.reg [⟨(some 10), .fad 0 (.tmp 2), none⟩,
  ⟨(some 11), .ld none (.tmp 10), none⟩,
  ⟨(some 12), .len (.tmp 11), none⟩,
  ⟨(some 13), .mv (.const (.int .i64 0)), none⟩])
 (.block 0 (.loop (.seq (.reg [⟨(some 14), .bin .lss (.tmp 13) (.tmp 12), none⟩])
 (.seq (.cond (.tmp 14) (.skip) (.exit 0))
 (.seq (.block 1 (.seq (.reg [⟨(some 15), .iad 2 (.tmp 11) (.tmp 13), none⟩,
  ⟨(some 16), .ld (some 2) (.tmp 15), none⟩,
  ⟨(some 7), .alc 127 [(.int .i64 0), (.int .u64 0)], none⟩,
  ⟨none, .st 2 (.tmp 7) (.tmp 16), none⟩])
 (.seq (.reg [⟨(some 17), .fad 1 (.tmp 7), none⟩,
  ⟨(some 18), .ld none (.tmp 17), none⟩,
  ⟨(some 19), .mv (.tmp 1), none⟩,
  ⟨(some 20), .call (.func 122) [(.tmp 18), (.tmp 19)], none⟩])
 (.cond (.tmp 20) (.seq (.reg [⟨(some 21), .fad 1 (.tmp 2), none⟩,
  ⟨(some 22), .ld none (.tmp 21), none⟩,
  ⟨(some 23), .fad 1 (.tmp 7), none⟩,
  ⟨(some 24), .ld none (.tmp 23), none⟩,
  ⟨(some 25), .never, none⟩,
  ⟨(some 8), .alc 92 [(.int .i64 0), (.slice none 0 0)], none⟩,
  ⟨none, .st 2 (.tmp 8) (.tmp 25), none⟩])
 (.seq (.reg [⟨(some 26), .mv (.tmp 5), none⟩]) (.seq (.reg [⟨(some 27), .fad 0 (.tmp 8), none⟩]) (.seq (.reg [⟨(some 29), .fad 0 (.tmp 7), none⟩]) (.seq (.reg [⟨(some 32), .fad 1 (.tmp 8), none⟩]) (.seq (.reg [⟨(some 33), .ld none (.tmp 32), none⟩]) (.seq (.reg [⟨(some 34), .fad 1 (.tmp 7), none⟩]) (.seq (.reg [⟨(some 35), .ld none (.tmp 34), none⟩]) (.both (.seq (.reg [⟨(some 28), .ld none (.tmp 27), none⟩]) (.both (.seq (.reg [⟨(some 30), .ld none (.tmp 29), none⟩]) (.seq (.reg [⟨(some 31), .bin .add (.tmp 28) (.tmp 30), none⟩]) (.seq (.reg [⟨(some 36), .bsl 95 1 1 [(.int .u64 0)] [(0, 1, (.tmp 35))], none⟩]) (.seq (.reg [⟨(some 37), .app 95 1 8 (.tmp 33) (.tmp 36), none⟩]) (.seq (.reg [⟨(some 38), .bld [(.int .i64 0), (.slice none 0 0)] [(0, 1, (.tmp 31)), (1, 1, (.tmp 37))], none⟩]) (.seq (.reg [⟨(some 39), .bsl 92 2 1 [(.int .i64 0), (.slice none 0 0)] [(0, 2, (.tmp 38))], none⟩]) (.seq (.reg [⟨(some 40), .app 92 2 32 (.tmp 26) (.tmp 39), none⟩]) (.seq (.reg [⟨(some 5), .mv (.tmp 40), none⟩]) (.skip))))))))) (.seq (.reg [⟨(some 36), .bsl 95 1 1 [(.int .u64 0)] [(0, 1, (.tmp 35))], none⟩]) (.both (.seq (.reg [⟨(some 30), .ld none (.tmp 29), none⟩]) (.seq (.reg [⟨(some 31), .bin .add (.tmp 28) (.tmp 30), none⟩]) (.seq (.reg [⟨(some 37), .app 95 1 8 (.tmp 33) (.tmp 36), none⟩]) (.seq (.reg [⟨(some 38), .bld [(.int .i64 0), (.slice none 0 0)] [(0, 1, (.tmp 31)), (1, 1, (.tmp 37))], none⟩]) (.seq (.reg [⟨(some 39), .bsl 92 2 1 [(.int .i64 0), (.slice none 0 0)] [(0, 2, (.tmp 38))], none⟩]) (.seq (.reg [⟨(some 40), .app 92 2 32 (.tmp 26) (.tmp 39), none⟩]) (.seq (.reg [⟨(some 5), .mv (.tmp 40), none⟩]) (.skip)))))))) (.seq (.reg [⟨(some 37), .app 95 1 8 (.tmp 33) (.tmp 36), none⟩]) (.seq (.reg [⟨(some 30), .ld none (.tmp 29), none⟩]) (.seq (.reg [⟨(some 31), .bin .add (.tmp 28) (.tmp 30), none⟩]) (.seq (.reg [⟨(some 38), .bld [(.int .i64 0), (.slice none 0 0)] [(0, 1, (.tmp 31)), (1, 1, (.tmp 37))], none⟩]) (.seq (.reg [⟨(some 39), .bsl 92 2 1 [(.int .i64 0), (.slice none 0 0)] [(0, 2, (.tmp 38))], none⟩]) (.seq (.reg [⟨(some 40), .app 92 2 32 (.tmp 26) (.tmp 39), none⟩]) (.seq (.reg [⟨(some 5), .mv (.tmp 40), none⟩]) (.skip)))))))))))) (.both (.seq (.reg [⟨(some 30), .ld none (.tmp 29), none⟩]) (.both (.seq (.reg [⟨(some 28), .ld none (.tmp 27), none⟩]) (.seq (.reg [⟨(some 31), .bin .add (.tmp 28) (.tmp 30), none⟩]) (.seq (.reg [⟨(some 36), .bsl 95 1 1 [(.int .u64 0)] [(0, 1, (.tmp 35))], none⟩]) (.seq (.reg [⟨(some 37), .app 95 1 8 (.tmp 33) (.tmp 36), none⟩]) (.seq (.reg [⟨(some 38), .bld [(.int .i64 0), (.slice none 0 0)] [(0, 1, (.tmp 31)), (1, 1, (.tmp 37))], none⟩]) (.seq (.reg [⟨(some 39), .bsl 92 2 1 [(.int .i64 0), (.slice none 0 0)] [(0, 2, (.tmp 38))], none⟩]) (.seq (.reg [⟨(some 40), .app 92 2 32 (.tmp 26) (.tmp 39), none⟩]) (.seq (.reg [⟨(some 5), .mv (.tmp 40), none⟩]) (.skip))))))))) (.seq (.reg [⟨(some 36), .bsl 95 1 1 [(.int .u64 0)] [(0, 1, (.tmp 35))], none⟩]) (.both (.seq (.reg [⟨(some 28), .ld none (.tmp 27), none⟩]) (.seq (.reg [⟨(some 31), .bin .add (.tmp 28) (.tmp 30), none⟩]) (.seq (.reg [⟨(some 37), .app 95 1 8 (.tmp 33) (.tmp 36), none⟩]) (.seq (.reg [⟨(some 38), .bld [(.int .i64 0), (.slice none 0 0)] [(0, 1, (.tmp 31)), (1, 1, (.tmp 37))], none⟩]) (.seq (.reg [⟨(some 39), .bsl 92 2 1 [(.int .i64 0), (.slice none 0 0)] [(0, 2, (.tmp 38))], none⟩]) (.seq (.reg [⟨(some 40), .app 92 2 32 (.tmp 26) (.tmp 39), none⟩]) (.seq (.reg [⟨(some 5), .mv (.tmp 40), none⟩]) (.skip)))))))) (.seq (.reg [⟨(some 37), .app 95 1 8 (.tmp 33) (.tmp 36), none⟩]) (.seq (.reg [⟨(some 28), .ld none (.tmp 27), none⟩]) (.seq (.reg [⟨(some 31), .bin .add (.tmp 28) (.tmp 30), none⟩]) (.seq (.reg [⟨(some 38), .bld [(.int .i64 0), (.slice none 0 0)] [(0, 1, (.tmp 31)), (1, 1, (.tmp 37))], none⟩]) (.seq (.reg [⟨(some 39), .bsl 92 2 1 [(.int .i64 0), (.slice none 0 0)] [(0, 2, (.tmp 38))], none⟩]) (.seq (.reg [⟨(some 40), .app 92 2 32 (.tmp 26) (.tmp 39), none⟩]) (.seq (.reg [⟨(some 5), .mv (.tmp 40), none⟩]) (.skip)))))))))))) (.seq (.reg [⟨(some 36), .bsl 95 1 1 [(.int .u64 0)] [(0, 1, (.tmp 35))], none⟩]) (.both (.seq (.reg [⟨(some 28), .ld none (.tmp 27), none⟩]) (.both (.seq (.reg [⟨(some 30), .ld none (.tmp 29), none⟩]) (.seq (.reg [⟨(some 31), .bin .add (.tmp 28) (.tmp 30), none⟩]) (.seq (.reg [⟨(some 37), .app 95 1 8 (.tmp 33) (.tmp 36), none⟩]) (.seq (.reg [⟨(some 38), .bld [(.int .i64 0), (.slice none 0 0)] [(0, 1, (.tmp 31)), (1, 1, (.tmp 37))], none⟩]) (.seq (.reg [⟨(some 39), .bsl 92 2 1 [(.int .i64 0), (.slice none 0 0)] [(0, 2, (.tmp 38))], none⟩]) (.seq (.reg [⟨(some 40), .app 92 2 32 (.tmp 26) (.tmp 39), none⟩]) (.seq (.reg [⟨(some 5), .mv (.tmp 40), none⟩]) (.skip)))))))) (.seq (.reg [⟨(some 37), .app 95 1 8 (.tmp 33) (.tmp 36), none⟩]) (.seq (.reg [⟨(some 30), .ld none (.tmp 29), none⟩]) (.seq (.reg [⟨(some 31), .bin .add (.tmp 28) (.tmp 30), none⟩]) (.seq (.reg [⟨(some 38), .bld [(.int .i64 0), (.slice none 0 0)] [(0, 1, (.tmp 31)), (1, 1, (.tmp 37))], none⟩]) (.seq (.reg [⟨(some 39), .bsl 92 2 1 [(.int .i64 0), (.slice none 0 0)] [(0, 2, (.tmp 38))], none⟩]) (.seq (.reg [⟨(some 40), .app 92 2 32 (.tmp 26) (.tmp 39), none⟩]) (.seq (.reg [⟨(some 5), .mv (.tmp 40), none⟩]) (.skip)))))))))) (.both (.seq (.reg [⟨(some 30), .ld none (.tmp 29), none⟩]) (.both (.seq (.reg [⟨(some 28), .ld none (.tmp 27), none⟩]) (.seq (.reg [⟨(some 31), .bin .add (.tmp 28) (.tmp 30), none⟩]) (.seq (.reg [⟨(some 37), .app 95 1 8 (.tmp 33) (.tmp 36), none⟩]) (.seq (.reg [⟨(some 38), .bld [(.int .i64 0), (.slice none 0 0)] [(0, 1, (.tmp 31)), (1, 1, (.tmp 37))], none⟩]) (.seq (.reg [⟨(some 39), .bsl 92 2 1 [(.int .i64 0), (.slice none 0 0)] [(0, 2, (.tmp 38))], none⟩]) (.seq (.reg [⟨(some 40), .app 92 2 32 (.tmp 26) (.tmp 39), none⟩]) (.seq (.reg [⟨(some 5), .mv (.tmp 40), none⟩]) (.skip)))))))) (.seq (.reg [⟨(some 37), .app 95 1 8 (.tmp 33) (.tmp 36), none⟩]) (.seq (.reg [⟨(some 28), .ld none (.tmp 27), none⟩]) (.seq (.reg [⟨(some 31), .bin .add (.tmp 28) (.tmp 30), none⟩]) (.seq (.reg [⟨(some 38), .bld [(.int .i64 0), (.slice none 0 0)] [(0, 1, (.tmp 31)), (1, 1, (.tmp 37))], none⟩]) (.seq (.reg [⟨(some 39), .bsl 92 2 1 [(.int .i64 0), (.slice none 0 0)] [(0, 2, (.tmp 38))], none⟩]) (.seq (.reg [⟨(some 40), .app 92 2 32 (.tmp 26) (.tmp 39), none⟩]) (.seq (.reg [⟨(some 5), .mv (.tmp 40), none⟩]) (.skip)))))))))) (.seq (.reg [⟨(some 37), .app 95 1 8 (.tmp 33) (.tmp 36), none⟩]) (.seq (.reg [⟨(some 28), .ld none (.tmp 27), none⟩]) (.seq (.reg [⟨(some 30), .ld none (.tmp 29), none⟩]) (.seq (.reg [⟨(some 31), .bin .add (.tmp 28) (.tmp 30), none⟩]) (.seq (.reg [⟨(some 38), .bld [(.int .i64 0), (.slice none 0 0)] [(0, 1, (.tmp 31)), (1, 1, (.tmp 37))], none⟩]) (.seq (.reg [⟨(some 39), .bsl 92 2 1 [(.int .i64 0), (.slice none 0 0)] [(0, 2, (.tmp 38))], none⟩]) (.seq (.reg [⟨(some 40), .app 92 2 32 (.tmp 26) (.tmp 39), none⟩]) (.seq (.reg [⟨(some 5), .mv (.tmp 40), none⟩]) (.skip)))))))))))))))))))))) (.skip)))))
 (.reg [⟨(some 41), .bin .add (.tmp 13) (.const (.int .i64 1)), none⟩,
  ⟨(some 13), .mv (.tmp 41), none⟩])))))))
 (.seq (.reg [⟨(some 42), .mv (.tmp 5), none⟩,
  ⟨(some 43), .call (.func 123) [(.tmp 42), (.func 124)], none⟩,
  ⟨none, .st 2 (.tmp 4) (.tmp 43), none⟩])
 (.ret))))
def r_impl_stock__bestFor : List ARes := [.cell 4 (some 2)]
theorem ok_impl_stock__bestFor : FnOk Try.prog 83 44 c_impl_stock__bestFor r_impl_stock__bestFor := ⟨⟨Try.f83, _, Try.func83, by kernel_rfl, rfl, rfl, by kernel_rfl, by kernel_rfl⟩⟩
def c_impl_allPeriods : ACode := .seq (.reg [⟨(some 2), .mv (.const (.int .u64 0)), none⟩])
 (.seq (.reg [⟨(some 3), .mv (.tmp 0), none⟩,
  ⟨(some 4), .bin .shl (.const (.int .u64 1)) (.tmp 3), none⟩,
  ⟨(some 5), .bin .sub (.tmp 4) (.const (.int .u64 1)), none⟩,
  ⟨(some 2), .mv (.tmp 5), none⟩])
 (.ret))
def r_impl_allPeriods : List ARes := [.tmp 2]
theorem ok_impl_allPeriods : FnOk Try.prog 84 6 c_impl_allPeriods r_impl_allPeriods := ⟨⟨Try.f84, _, Try.func84, by kernel_rfl, rfl, rfl, by kernel_rfl, by kernel_rfl⟩⟩
def c_spec_l7Parts : ACode := .seq (.reg [⟨(some 6), .mv (.const (.bool false)), none⟩])
 (.seq (.seq (.reg [⟨(some 7), .mv (.tmp 0), none⟩,
  ⟨(some 8), .len (.tmp 7), none⟩,
  ⟨(some 9), .bin .gtr (.tmp 8) (.const (.int .i64 6)), none⟩,
  ⟨(some 10), .mv (.tmp 9), none⟩,
  ⟨(some 11), .mv (.tmp 0), (some (10, false))⟩,
  ⟨(some 12), .mv (.tmp 0), (some (10, false))⟩,
  ⟨(some 13), .len (.tmp 12), (some (10, false))⟩,
  ⟨(some 14), .call (.func 117) [(.tmp 11), (.tmp 13), (.const (.int .i64 20))], (some (10, false))⟩,
  ⟨(some 15), .un .not (.tmp 14), (some (10, false))⟩,
  ⟨(some 16), .pick (.tmp 10) (.const (.bool true)) (.tmp 15), none⟩,
  ⟨(some 17), .mv (.tmp 16), none⟩,
  ⟨(some 18), .mv (.tmp 1), (some (17, false))⟩,
  ⟨(some 19), .len (.tmp 18), (some (17, false))⟩,
  ⟨(some 20), .call (.func 73) [(.tmp 19), (.const (.int .i64 1)), (.const (.int .i64 3))], (some (17, false))⟩,
  ⟨(some 21), .un .not (.tmp 20), (some (17, false))⟩,
  ⟨(some 22), .pick (.tmp 17) (.const (.bool true)) (.tmp 21), none⟩])
 (.cond (.tmp 22) (.seq (.reg [⟨(some 6), .mv (.const (.bool false)), none⟩])
 (.ret)) (.skip)))
 (.seq (.reg [⟨(some 23), .mv (.tmp 1), none⟩,
  ⟨(some 24), .mv (.tmp 1), none⟩,
  ⟨(some 25), .len (.tmp 24), none⟩,
  ⟨(some 26), .rcall (.func 117) [(.tmp 23), (.tmp 25), (.const (.int .i64 99))], none⟩,
  ⟨(some 27), .mv (.tmp 26), none⟩,
  ⟨(some 28), .mv (.tmp 2), (some (27, true))⟩,
  ⟨(some 29), .mv (.tmp 1), (some (27, true))⟩,
  ⟨(some 30), .len (.tmp 29), (some (27, true))⟩,
  ⟨(some 31), .rcall (.func 117) [(.tmp 28), (.tmp 30), (.const (.int .i64 9))], (some (27, true))⟩,
  ⟨(some 32), .pick (.tmp 27) (.tmp 31) (.const (.bool false)), none⟩,
  ⟨(some 33), .mv (.tmp 32), none⟩,
  ⟨(some 34), .mv (.tmp 2), (some (33, true))⟩,
  ⟨(some 35), .iad 1 (.tmp 34) (.const (.int .i64 0)), (some (33, true))⟩,
  ⟨(some 36), .ld none (.tmp 35), (some (33, true))⟩,
  ⟨(some 37), .mv (.tmp 2), (some (33, true))⟩,
  ⟨(some 38), .slc 1 (.tmp 37) (some (.const (.int .i64 1))) none, (some (33, true))⟩,
  ⟨(some 39), .rcall (.func 125) [(.tmp 38)], (some (33, true))⟩,
  ⟨(some 40), .bin .geq (.tmp 36) (.tmp 39), (some (33, true))⟩,
  ⟨(some 41), .pick (.tmp 33) (.tmp 40) (.const (.bool false)), none⟩,
  ⟨(some 6), .mv (.tmp 41), none⟩])
 (.ret)))
def r_spec_l7Parts : List ARes := [.tmp 6]
theorem ok_spec_l7Parts : FnOk Try.prog 85 42 c_spec_l7Parts r_spec_l7Parts := ⟨⟨Try.f85, _, Try.func85, by kernel_rfl, rfl, rfl, by kernel_rfl, by kernel_rfl⟩⟩
def c_spec_l2Bits : ACode := .seq (.reg [⟨(some 4), .mv (.const (.slice none 0 0)), none⟩])
 (.seq (.reg [⟨(some 7), .bsl 3 1 0 [] [], none⟩,
  ⟨(some 5), .mv (.tmp 7), none⟩])
 (.seq (.seq (.reg [⟨(some 6), .mv (.const (.int .i64 0)), none⟩])
 (.block 0 (.loop (.seq (.seq (.reg [⟨(some 8), .mv (.tmp 6), none⟩,
  ⟨(some 9), .mv (.tmp 0), none⟩,
  ⟨(some 10), .bin .lss (.tmp 8) (.tmp 9), none⟩])
 (.cond (.tmp 10) (.skip) (.exit 0)))
 (.seq (.block 1 (.seq (.reg [⟨(some 13), .mv (.tmp 1), none⟩,
  ⟨(some 14), .mv (.tmp 6), none⟩,
  ⟨(some 15), .bin .shr (.tmp 13) (.tmp 14), none⟩,
  ⟨(some 16), .bin .and (.tmp 15) (.const (.int .i64 1)), none⟩,
  ⟨(some 17), .bin .eql (.tmp 16) (.const (.int .i64 1)), none⟩])
 (.cond (.tmp 17) (.reg [⟨(some 18), .mv (.tmp 5), none⟩,
  ⟨(some 19), .mv (.tmp 6), none⟩,
  ⟨(some 20), .bsl 3 1 1 [(.int .i64 0)] [(0, 1, (.tmp 19))], none⟩,
  ⟨(some 21), .app 3 1 8 (.tmp 18) (.tmp 20), none⟩,
  ⟨(some 5), .mv (.tmp 21), none⟩]) (.skip))))
 (.reg [⟨(some 11), .mv (.tmp 6), none⟩,
  ⟨(some 12), .bin .add (.tmp 11) (.const (.int .i64 1)), none⟩,
  ⟨(some 6), .mv (.tmp 12), none⟩]))))))
 (.seq (.reg [⟨(some 22), .mv (.tmp 5), none⟩,
  ⟨(some 4), .mv (.tmp 22), none⟩])
 (.ret))))
def r_spec_l2Bits : List ARes := [.tmp 4]
theorem ok_spec_l2Bits : FnOk Try.prog 86 23 c_spec_l2Bits r_spec_l2Bits := ⟨⟨Try.f86, _, Try.func86, by kernel_rfl, rfl, rfl, by kernel_rfl, by kernel_rfl⟩⟩
def c_spec_l7Fed : ACode := .seq (.reg [⟨(some 4), .mv (.const (.bool false)), none⟩])
 (.seq (.seq (.reg [⟨(some 5), .mv (.const (.int .i64 0)), none⟩])
 (.block 0 (.loop (.seq (.seq (.reg [⟨(some 6), .mv (.tmp 5), none⟩,
  ⟨(some 7), .mv (.tmp 0), none⟩,
  ⟨(some 8), .len (.tmp 7), none⟩,
  ⟨(some 9), .bin .lss (.tmp 6) (.tmp 8), none⟩])
 (.cond (.tmp 9) (.skip) (.exit 0)))
 (.seq (.block 1 (.seq (.reg [⟨(some 12), .mv (.tmp 0), none⟩,
  ⟨(some 13), .mv (.tmp 5), none⟩,
  ⟨(some 14), .iad 1 (.tmp 12) (.tmp 13), none⟩,
  ⟨(some 15), .ld none (.tmp 14), none⟩,
  ⟨(some 16), .bin .gtr (.tmp 15) (.const (.int .i64 0)), none⟩])
 (.cond (.tmp 16) (.seq (.reg [⟨(some 17), .mv (.tmp 1), none⟩,
  ⟨(some 18), .len (.tmp 17), none⟩,
  ⟨(some 19), .bin .gtr (.tmp 18) (.const (.int .i64 0)), none⟩,
  ⟨(some 20), .mv (.tmp 19), none⟩,
  ⟨(some 21), .mv (.tmp 1), (some (20, true))⟩,
  ⟨(some 22), .iad 1 (.tmp 21) (.const (.int .i64 0)), (some (20, true))⟩,
  ⟨(some 23), .ld none (.tmp 22), (some (20, true))⟩,
  ⟨(some 24), .mv (.tmp 5), (some (20, true))⟩,
  ⟨(some 25), .bin .leq (.tmp 23) (.tmp 24), (some (20, true))⟩,
  ⟨(some 26), .pick (.tmp 20) (.tmp 25) (.const (.bool false)), none⟩,
  ⟨(some 4), .mv (.tmp 26), none⟩])
 (.ret)) (.skip))))
 (.reg [⟨(some 10), .mv (.tmp 5), none⟩,
  ⟨(some 11), .bin .add (.tmp 10) (.const (.int .i64 1)), none⟩,
  ⟨(some 5), .mv (.tmp 11), none⟩]))))))
 (.seq (.reg [⟨(some 4), .mv (.const (.bool true)), none⟩])
 (.ret)))
def r_spec_l7Fed : List ARes := [.tmp 4]
theorem ok_spec_l7Fed : FnOk Try.prog 87 27 c_spec_l7Fed r_spec_l7Fed := ⟨⟨Try.f87, _, Try.func87, by kernel_rfl, rfl, rfl, by kernel_rfl, by kernel_rfl⟩⟩
def c_spec_l7Single : ACode := .seq (.reg [⟨(some 8), .mv (.const (.int .i64 0)), none⟩])
 (.seq (.reg [⟨(some 9), .mv (.const (.int .i64 0)), none⟩,
  ⟨(some 10), .mv (.const (.int .i64 0)), none⟩])
 (.seq (.reg [⟨(some 13), .mv (.tmp 0), none⟩,
  ⟨(some 14), .mv (.tmp 3), none⟩,
  ⟨(some 15), .call (.func 90) [(.tmp 13), (.tmp 14)], none⟩,
  ⟨(some 11), .mv (.tmp 15), none⟩])
 (.seq (.seq (.reg [⟨(some 12), .mv (.const (.int .i64 0)), none⟩])
 (.block 0 (.loop (.seq (.seq (.reg [⟨(some 16), .mv (.tmp 12), none⟩,
  ⟨(some 17), .mv (.tmp 0), none⟩,
  ⟨(some 18), .len (.tmp 17), none⟩,
  ⟨(some 19), .bin .lss (.tmp 16) (.tmp 18), none⟩])
 (.cond (.tmp 19) (.skip) (.exit 0)))
 (.seq (.block 1 (.seq (.reg [⟨(some 22), .mv (.tmp 10), none⟩,
  ⟨(some 23), .mv (.tmp 11), none⟩,
  ⟨(some 24), .mv (.tmp 12), none⟩,
  ⟨(some 25), .iad 1 (.tmp 23) (.tmp 24), none⟩,
  ⟨(some 26), .ld none (.tmp 25), none⟩,
  ⟨(some 27), .bin .add (.tmp 22) (.tmp 26), none⟩,
  ⟨(some 28), .mv (.tmp 0), none⟩,
  ⟨(some 29), .mv (.tmp 12), none⟩,
  ⟨(some 30), .iad 1 (.tmp 28) (.tmp 29), none⟩,
  ⟨(some 31), .ld none (.tmp 30), none⟩,
  ⟨(some 32), .bin .sub (.tmp 27) (.tmp 31), none⟩,
  ⟨(some 10), .mv (.tmp 32), none⟩])
 (.seq (.reg [⟨(some 33), .mv (.tmp 9), none⟩,
  ⟨(some 34), .mv (.tmp 2), none⟩,
  ⟨(some 35), .mv (.tmp 10), none⟩,
  ⟨(some 36), .bin .mul (.tmp 34) (.tmp 35), none⟩,
  ⟨(some 37), .bin .add (.tmp 33) (.tmp 36), none⟩,
  ⟨(some 9), .mv (.tmp 37), none⟩])
 (.seq (.reg [⟨(some 38), .mv (.tmp 11), none⟩,
  ⟨(some 39), .mv (.tmp 12), none⟩,
  ⟨(some 40), .iad 1 (.tmp 38) (.tmp 39), none⟩,
  ⟨(some 41), .ld none (.tmp 40), none⟩,
  ⟨(some 42), .bin .gtr (.tmp 41) (.const (.int .i64 0)), none⟩])
 (.cond (.tmp 42) (.reg [⟨(some 43), .mv (.tmp 9), none⟩,
  ⟨(some 44), .mv (.tmp 1), none⟩,
  ⟨(some 45), .bin .add (.tmp 43) (.tmp 44), none⟩,
  ⟨(some 9), .mv (.tmp 45), none⟩]) (.skip))))))
 (.reg [⟨(some 20), .mv (.tmp 12), none⟩,
  ⟨(some 21), .bin .add (.tmp 20) (.const (.int .i64 1)), none⟩,
  ⟨(some 12), .mv (.tmp 21), none⟩]))))))
 (.seq (.reg [⟨(some 46), .mv (.tmp 9), none⟩,
  ⟨(some 8), .mv (.tmp 46), none⟩])
 (.ret)))))
def r_spec_l7Single : List ARes := [.tmp 8]
theorem ok_spec_l7Single : FnOk Try.prog 88 47 c_spec_l7Single r_spec_l7Single := ⟨⟨Try.f88, _, Try.func88, by kernel_rfl, rfl, rfl, by kernel_rfl, by kernel_rfl⟩⟩
def c_spec_l7Least : ACode := .seq (.reg [⟨(some 6), .mv (.const (.int .i64 0)), none⟩])
 (.seq (.reg [⟨(some 7), .mv (.const (.int .i64 (-1))), none⟩])
 (.seq (.seq (.reg [⟨(some 8), .mv (.const (.int .i64 0)), none⟩])
 (.block 0 (.loop (.seq (.seq (.reg [⟨(some 11), .mv (.tmp 8), none⟩,
  ⟨(some 12), .mv (.tmp 0), none⟩,
  ⟨(some 13), .len (.tmp 12), none⟩,
  ⟨(some 14), .bin .shl (.const (.int .i64 1)) (.tmp 13), none⟩,
  ⟨(some 15), .bin .lss (.tmp 11) (.tmp 14), none⟩])
 (.cond (.tmp 15) (.skip) (.exit 0)))
 (.seq (.block 1 (.seq (.reg [⟨(some 18), .mv (.tmp 0), none⟩,
  ⟨(some 19), .len (.tmp 18), none⟩,
  ⟨(some 20), .mv (.tmp 8), none⟩,
  ⟨(some 21), .call (.func 86) [(.tmp 19), (.tmp 20)], none⟩,
  ⟨(some 9), .mv (.tmp 21), none⟩])
 (.seq (.seq (.reg [⟨(some 22), .mv (.tmp 0), none⟩,
  ⟨(some 23), .mv (.tmp 9), none⟩,
  ⟨(some 24), .call (.func 87) [(.tmp 22), (.tmp 23)], none⟩,
  ⟨(some 25), .un .not (.tmp 24), none⟩])
 (.cond (.tmp 25) (.exit 1) (.skip)))
 (.seq (.reg [⟨(some 26), .mv (.tmp 0), none⟩,
  ⟨(some 27), .mv (.tmp 1), none⟩,
  ⟨(some 28), .mv (.tmp 2), none⟩,
  ⟨(some 29), .mv (.tmp 9), none⟩,
  ⟨(some 30), .call (.func 88) [(.tmp 26), (.tmp 27), (.tmp 28), (.tmp 29)], none⟩,
  ⟨(some 10), .mv (.tmp 30), none⟩])
 (.seq (.reg [⟨(some 31), .mv (.tmp 7), none⟩,
  ⟨(some 32), .bin .lss (.tmp 31) (.const (.int .i64 0)), none⟩,
  ⟨(some 33), .mv (.tmp 32), none⟩,
  ⟨(some 34), .mv (.tmp 10), (some (33, false))⟩,
  ⟨(some 35), .mv (.tmp 7), (some (33, false))⟩,
  ⟨(some 36), .bin .lss (.tmp 34) (.tmp 35), (some (33, false))⟩,
  ⟨(some 37), .pick (.tmp 33) (.const (.bool true)) (.tmp 36), none⟩])
 (.cond (.tmp 37) (.reg [⟨(some 38), .mv (.tmp 10), none⟩,
  ⟨(some 7), .mv (.tmp 38), none⟩]) (.skip)))))))
 (.reg [⟨(some 16), .mv (.tmp 8), none⟩,
  ⟨(some 17), .bin .add (.tmp 16) (.const (.int .i64 1)), none⟩,
  ⟨(some 8), .mv (.tmp 17), none⟩]))))))
 (.seq (.reg [⟨(some 39), .mv (.tmp 7), none⟩,
  ⟨(some 6), .mv (.tmp 39), none⟩])
 (.ret))))
def r_spec_l7Least : List ARes := [.tmp 6]
theorem ok_spec_l7Least : FnOk Try.prog 89 40 c_spec_l7Least r_spec_l7Least := ⟨⟨Try.f89, _, Try.func89, by kernel_rfl, rfl, rfl, by kernel_rfl, by kernel_rfl⟩⟩
def c_spec_l7Row : ACode := .seq (.reg [⟨(some 4), .mv (.const (.slice none 0 0)), none⟩])
 (.seq (.reg [⟨(some 8), .mv (.tmp 0), none⟩,
  ⟨(some 9), .len (.tmp 8), none⟩,
  ⟨(some 10), .mks 3 8 [(.int .i64 0)] (.tmp 9) (.tmp 9), none⟩,
  ⟨(some 5), .mv (.tmp 10), none⟩])
 (.seq (.seq (.reg [⟨(some 6), .mv (.const (.int .i64 0)), none⟩])
 (.block 0 (.loop (.seq (.seq (.reg [⟨(some 11), .mv (.tmp 6), none⟩,
  ⟨(some 12), .mv (.tmp 1), none⟩,
  ⟨(some 13), .len (.tmp 12), none⟩,
  ⟨(some 14), .bin .lss (.tmp 11) (.tmp 13), none⟩])
 (.cond (.tmp 14) (.skip) (.exit 0)))
 (.seq (.block 1 (.seq (.reg [⟨(some 17), .mv (.tmp 0), none⟩,
  ⟨(some 18), .len (.tmp 17), none⟩,
  ⟨(some 7), .mv (.tmp 18), none⟩])
 (.seq (.seq (.reg [⟨(some 19), .mv (.tmp 6), none⟩,
  ⟨(some 20), .bin .add (.tmp 19) (.const (.int .i64 1)), none⟩,
  ⟨(some 21), .mv (.tmp 1), none⟩,
  ⟨(some 22), .len (.tmp 21), none⟩,
  ⟨(some 23), .bin .lss (.tmp 20) (.tmp 22), none⟩])
 (.cond (.tmp 23) (.reg [⟨(some 24), .mv (.tmp 1), none⟩,
  ⟨(some 25), .mv (.tmp 6), none⟩,
  ⟨(some 26), .bin .add (.tmp 25) (.const (.int .i64 1)), none⟩,
  ⟨(some 27), .iad 1 (.tmp 24) (.tmp 26), none⟩,
  ⟨(some 28), .ld none (.tmp 27), none⟩,
  ⟨(some 7), .mv (.tmp 28), none⟩]) (.skip)))
 (.reg [⟨(some 29), .mv (.tmp 5), none⟩,
  ⟨(some 30), .mv (.tmp 1), none⟩,
  ⟨(some 31), .mv (.tmp 6), none⟩,
  ⟨(some 32), .iad 1 (.tmp 30) (.tmp 31), none⟩,
  ⟨(some 33), .ld none (.tmp 32), none⟩,
  ⟨(some 34), .mv (.tmp 0), none⟩,
  ⟨(some 35), .mv (.tmp 1), none⟩,
  ⟨(some 36), .mv (.tmp 6), none⟩,
  ⟨(some 37), .iad 1 (.tmp 35) (.tmp 36), none⟩,
  ⟨(some 38), .ld none (.tmp 37), none⟩,
  ⟨(some 39), .mv (.tmp 7), none⟩,
  ⟨(some 40), .slc 1 (.tmp 34) (some (.tmp 38)) (some (.tmp 39)), none⟩,
  ⟨(some 41), .rcall (.func 125) [(.tmp 40)], none⟩,
  ⟨(some 42), .iad 1 (.tmp 29) (.tmp 33), none⟩,
  ⟨none, .st 1 (.tmp 42) (.tmp 41), none⟩]))))
 (.reg [⟨(some 15), .mv (.tmp 6), none⟩,
  ⟨(some 16), .bin .add (.tmp 15) (.const (.int .i64 1)), none⟩,
  ⟨(some 6), .mv (.tmp 16), none⟩]))))))
 (.seq (.reg [⟨(some 43), .mv (.tmp 5), none⟩,
  ⟨(some 4), .mv (.tmp 43), none⟩])
 (.ret))))
def r_spec_l7Row : List ARes := [.tmp 4]
theorem ok_spec_l7Row : FnOk Try.prog 90 44 c_spec_l7Row r_spec_l7Row := ⟨⟨Try.f90, _, Try.func90, by kernel_rfl, rfl, rfl, by kernel_rfl, by kernel_rfl⟩⟩
def c_impl_IsCase : ACode := .seq (.reg [⟨(some 1), .box 30 (.tmp 0), none⟩,
  ⟨(some 2), .mv (.const (.bool false)), none⟩])
 (.seq (.reg [⟨(some 4), .fad 0 (.tmp 1), none⟩,
  ⟨(some 5), .ld none (.tmp 4), none⟩,
  ⟨(some 6), .len (.tmp 5), none⟩,
  ⟨(some 3), .mv (.tmp 6), none⟩])
 (.seq (.reg [⟨(some 7), .mv (.tmp 3), none⟩,
  ⟨(some 8), .bin .leq (.tmp 7) (.const (.int .i64 8)), none⟩,
  ⟨(some 9), .mv (.tmp 8), none⟩,
  ⟨(some 10), .fad 0 (.tmp 1), (some (9, true))⟩,
  ⟨(some 11), .ld none (.tmp 10), (some (9, true))⟩,
  ⟨(some 12), .mv (.tmp 3), (some (9, true))⟩,
  ⟨(some 13), .call (.func 118) [(.tmp 11), (.tmp 12), (.const (.int .i64 20))], (some (9, true))⟩,
  ⟨(some 14), .pick (.tmp 9) (.tmp 13) (.const (.bool false)), none⟩,
  ⟨(some 15), .mv (.tmp 14), none⟩,
  ⟨(some 16), .fad 1 (.tmp 1), (some (15, true))⟩,
  ⟨(some 17), .ld none (.tmp 16), (some (15, true))⟩,
  ⟨(some 18), .mv (.tmp 3), (some (15, true))⟩,
  ⟨(some 19), .call (.func 118) [(.tmp 17), (.tmp 18), (.const (.int .i64 99))], (some (15, true))⟩,
  ⟨(some 20), .pick (.tmp 15) (.tmp 19) (.const (.bool false)), none⟩,
  ⟨(some 21), .mv (.tmp 20), none⟩,
  ⟨(some 22), .fad 2 (.tmp 1), (some (21, true))⟩,
  ⟨(some 23), .ld none (.tmp 22), (some (21, true))⟩,
  ⟨(some 24), .mv (.tmp 3), (some (21, true))⟩,
  ⟨(some 25), .call (.func 118) [(.tmp 23), (.tmp 24), (.const (.int .i64 9))], (some (21, true))⟩,
  ⟨(some 26), .pick (.tmp 21) (.tmp 25) (.const (.bool false)), none⟩,
  ⟨(some 27), .mv (.tmp 26), none⟩,
  ⟨(some 28), .fad 3 (.tmp 1), (some (27, true))⟩,
  ⟨(some 29), .ld none (.tmp 28), (some (27, true))⟩,
  ⟨(some 30), .mv (.tmp 3), (some (27, true))⟩,
  ⟨(some 31), .call (.func 118) [(.tmp 29), (.tmp 30), (.const (.int .i64 9))], (some (27, true))⟩,
  ⟨(some 32), .pick (.tmp 27) (.tmp 31) (.const (.bool false)), none⟩,
  ⟨(some 2), .mv (.tmp 32), none⟩])
 (.ret)))
def r_impl_IsCase : List ARes := [.tmp 2]
theorem ok_impl_IsCase : FnOk Try.prog 92 33 c_impl_IsCase r_impl_IsCase := ⟨⟨Try.f92, _, Try.func92, by kernel_rfl, rfl, rfl, by kernel_rfl, by kernel_rfl⟩⟩
def c_impl_bestLots : ACode := .seq (.reg [⟨(some 1), .box 30 (.tmp 0), none⟩,
  ⟨(some 2), .alc 103 [(.int .i64 0), (.slice none 0 0)], none⟩])
 (.seq (.reg [⟨(some 7), .ld (some 4) (.tmp 1), none⟩,
  ⟨(some 8), .call (.func 126) [(.tmp 7)], none⟩,
  ⟨(some 3), .mv (.tmp 8), none⟩])
 (.seq (.reg [⟨(some 9), .mv (.tmp 3), none⟩,
  ⟨(some 10), .call (.tmp 9) [(.const (.int .i64 0))], none⟩,
  ⟨(some 4), .alc 103 [(.int .i64 0), (.slice none 0 0)], none⟩,
  ⟨none, .st 2 (.tmp 4) (.tmp 10), none⟩])
 (.seq (.seq (.reg [⟨(some 5), .mv (.const (.int .i64 0)), none⟩])
 (.block 0 (.loop (.seq (.seq (.reg [⟨(some 11), .mv (.tmp 5), none⟩,
  ⟨(some 12), .fad 0 (.tmp 1), none⟩,
  ⟨(some 13), .ld none (.tmp 12), none⟩,
  ⟨(some 14), .len (.tmp 13), none⟩,
  ⟨(some 15), .bin .lss (.tmp 11) (.tmp 14), none⟩,
  ⟨(some 16), .mv (.tmp 15), none⟩,
  ⟨(some 17), .fad 0 (.tmp 1), (some (16, true))⟩,
  ⟨(some 18), .ld none (.tmp 17), (some (16, true))⟩,
  ⟨(some 19), .mv (.tmp 5), (some (16, true))⟩,
  ⟨(some 20), .iad 1 (.tmp 18) (.tmp 19), (some (16, true))⟩,
  ⟨(some 21), .ld none (.tmp 20), (some (16, true))⟩,
  ⟨(some 22), .bin .eql (.tmp 21) (.const (.int .i64 0)), (some (16, true))⟩,
  ⟨(some 23), .pick (.tmp 16) (.tmp 22) (.const (.bool false)), none⟩])
 (.cond (.tmp 23) (.skip) (.exit 0)))
 (.seq (.block 1 (.seq (.reg [⟨(some 26), .mv (.tmp 3), none⟩,
  ⟨(some 27), .mv (.tmp 5), none⟩,
  ⟨(some 28), .bin .add (.tmp 27) (.const (.int .i64 1)), none⟩,
  ⟨(some 29), .call (.tmp 26) [(.tmp 28)], none⟩,
  ⟨(some 6), .alc 103 [(.int .i64 0), (.slice none 0 0)], none⟩,
  ⟨none, .st 2 (.tmp 6) (.tmp 29), none⟩])
 (.seq (.reg [⟨(some 30), .ld (some 2) (.tmp 6), none⟩,
  ⟨(some 31), .ld (some 2) (.tmp 4), none⟩,
  ⟨(some 32), .call (.func 127) [(.tmp 30), (.tmp 31)], none⟩])
 (.cond (.tmp 32) (.reg [⟨(some 33), .ld (some 2) (.tmp 6), none⟩,
  ⟨none, .st 2 (.tmp 4) (.tmp 33), none⟩]) (.skip)))))
 (.reg [⟨(some 24), .mv (.tmp 5), none⟩,
  ⟨(some 25), .bin .add (.tmp 24) (.const (.int .i64 1)), none⟩,
  ⟨(some 5), .mv (.tmp 25), none⟩]))))))
 (.seq (.reg [⟨(some 34), .ld (some 2) (.tmp 4), none⟩,
  ⟨none, .st 2 (.tmp 2) (.tmp 34), none⟩])
 (.ret)))))
def r_impl_bestLots : List ARes := [.cell 2 (some 2)]
theorem ok_impl_bestLots : FnOk Try.prog 93 35 c_impl_bestLots r_impl_bestLots := ⟨⟨Try.f93, _, Try.func93, by kernel_rfl, rfl, rfl, by kernel_rfl, by kernel_rfl⟩⟩
def c_impl_bestNest : ACode := .seq (.reg [⟨(some 1), .box 26 (.tmp 0), none⟩,
  ⟨(some 2), .alc 92 [(.int .i64 0), (.slice none 0 0)], none⟩])
 (.seq (.reg [⟨(some 5), .bld [] [], none⟩,
  ⟨(some 6), .never, none⟩,
  ⟨(some 3), .mv (.tmp 6), none⟩])
 (.seq (.seq (.reg [⟨(some 7), .fad 1 (.tmp 1), none⟩,
  ⟨(some 8), .ld none (.tmp 7), none⟩,
  ⟨(some 9), .len (.tmp 8), none⟩,
  ⟨(some 10), .mv (.const (.int .i64 0)), none⟩])
 (.block 0 (.loop (.seq (.reg [⟨(some 11), .bin .lss (.tmp 10) (.tmp 9), none⟩])
 (.seq (.cond (.tmp 11) (.skip) (.exit 0))
 (.seq (.block 1 (.seq (.reg [⟨(some 12), .mv (.tmp 10), none⟩,
  ⟨(some 4), .mv (.tmp 12), none⟩])
 (.reg [⟨(some 13), .ld (some 3) (.tmp 1), none⟩,
  ⟨(some 14), .mv (.tmp 4), none⟩,
  ⟨(some 15), .call (.func 71) [(.tmp 13), (.tmp 14)], none⟩,
  ⟨(some 16), .mv (.tmp 3), none⟩,
  ⟨(some 17), .call (.func 81) [(.tmp 15), (.tmp 16)], none⟩,
  ⟨(some 18), .never, none⟩,
  ⟨(some 3), .mv (.tmp 18), none⟩])))
 (.reg [⟨(some 19), .bin .add (.tmp 10) (.const (.int .i64 1)), none⟩,
  ⟨(some 10), .mv (.tmp 19), none⟩])))))))
 (.seq (.reg [⟨(some 20), .mv (.tmp 3), none⟩,
  ⟨(some 21), .fad 0 (.tmp 1), none⟩,
  ⟨(some 22), .ld none (.tmp 21), none⟩,
  ⟨(some 23), .len (.tmp 22), none⟩,
  ⟨(some 25), .never, none⟩,
  ⟨(some 26), .nilc (.tmp 25), none⟩,
  ⟨(some 27), .mv (.tmp 20), none⟩,
  ⟨(some 24), .rcall (.func 84) [(.tmp 23)], none⟩,
  ⟨(some 28), .never, none⟩,
  ⟨none, .st 2 (.tmp 2) (.tmp 28), none⟩])
 (.ret))))
def r_impl_bestNest : List ARes := [.cell 2 (some 2)]
theorem ok_impl_bestNest : FnOk Try.prog 94 29 c_impl_bestNest r_impl_bestNest := ⟨⟨Try.f94, _, Try.func94, by kernel_rfl, rfl, rfl, by kernel_rfl, by kernel_rfl⟩⟩
def c_slices_IsSorted : ACode := .seq (.reg [⟨(some 2), .mv (.const (.bool false)), none⟩])
 (.seq (.seq (.reg [⟨(some 4), .mv (.tmp 0), none⟩,
  ⟨(some 5), .len (.tmp 4), none⟩,
  ⟨(some 6), .bin .sub (.tmp 5) (.const (.int .i64 1)), none⟩,
  ⟨(some 3), .mv (.tmp 6), none⟩])
 (.block 0 (.loop (.seq (.seq (.reg [⟨(some 7), .mv (.tmp 3), none⟩,
  ⟨(some 8), .bin .gtr (.tmp 7) (.const (.int .i64 0)), none⟩])
 (.cond (.tmp 8) (.skip) (.exit 0)))
 (.seq (.block 1 (.seq (.reg [⟨(some 11), .mv (.tmp 0), none⟩,
  ⟨(some 12), .mv (.tmp 3), none⟩,
  ⟨(some 13), .iad 1 (.tmp 11) (.tmp 12), none⟩,
  ⟨(some 14), .ld none (.tmp 13), none⟩,
  ⟨(some 15), .mv (.tmp 0), none⟩,
  ⟨(some 16), .mv (.tmp 3), none⟩,
  ⟨(some 17), .bin .sub (.tmp 16) (.const (.int .i64 1)), none⟩,
  ⟨(some 18), .iad 1 (.tmp 15) (.tmp 17), none⟩,
  ⟨(some 19), .ld none (.tmp 18), none⟩,
  ⟨(some 20), .rcall (.func 128) [(.tmp 14), (.tmp 19)], none⟩])
 (.cond (.tmp 20) (.seq (.reg [⟨(some 2), .mv (.const (.bool false)), none⟩])
 (.ret)) (.skip))))
 (.reg [⟨(some 9), .mv (.tmp 3), none⟩,
  ⟨(some 10), .bin .sub (.tmp 9) (.const (.int .i64 1)), none⟩,
  ⟨(some 3), .mv (.tmp 10), none⟩]))))))
 (.seq (.reg [⟨(some 2), .mv (.const (.bool true)), none⟩])
 (.ret)))
def r_slices_IsSorted : List ARes := [.tmp 2]
theorem ok_slices_IsSorted : FnOk Try.prog 96 21 c_slices_IsSorted r_slices_IsSorted := ⟨⟨Try.f96, _, Try.func96, by kernel_rfl, rfl, rfl, by kernel_rfl, by kernel_rfl⟩⟩
def c_spec_l7Two : ACode := .seq (.reg [⟨(some 2), .box 26 (.tmp 0), none⟩,
  ⟨(some 4), .mv (.const (.bool false)), none⟩])
 (.seq (.reg [⟨(some 5), .ld (some 3) (.tmp 2), none⟩,
  ⟨(some 6), .call (.func 72) [(.tmp 5)], none⟩,
  ⟨(some 7), .mv (.tmp 6), none⟩,
  ⟨(some 8), .ld (some 3) (.tmp 2), (some (7, true))⟩,
  ⟨(some 9), .mv (.tmp 1), (some (7, true))⟩,
  ⟨(some 10), .call (.func 101) [(.tmp 8), (.tmp 9)], (some (7, true))⟩,
  ⟨(some 11), .pick (.tmp 7) (.tmp 10) (.const (.bool false)), none⟩,
  ⟨(some 4), .mv (.tmp 11), none⟩])
 (.ret))
def r_spec_l7Two : List ARes := [.tmp 4]
theorem ok_spec_l7Two : FnOk Try.prog 97 12 c_spec_l7Two r_spec_l7Two := ⟨⟨Try.f97, _, Try.func97, by kernel_rfl, rfl, rfl, by kernel_rfl, by kernel_rfl⟩⟩
def c_spec_l7Stocks : ACode := .seq (.reg [⟨(some 2), .box 26 (.tmp 0), none⟩,
  ⟨(some 4), .mv (.const (.slice none 0 0)), none⟩])
 (.seq (.reg [⟨(some 10), .bsl 24 1 0 [] [], none⟩,
  ⟨(some 5), .mv (.tmp 10), none⟩])
 (.seq (.seq (.reg [⟨(some 6), .mv (.const (.int .i64 0)), none⟩])
 (.block 0 (.loop (.seq (.seq (.reg [⟨(some 11), .mv (.tmp 6), none⟩,
  ⟨(some 12), .mv (.tmp 1), none⟩,
  ⟨(some 13), .len (.tmp 12), none⟩,
  ⟨(some 14), .bin .lss (.tmp 11) (.tmp 13), none⟩])
 (.cond (.tmp 14) (.skip) (.exit 0)))
 (.seq (.block 1 (.seq (.reg [⟨(some 17), .bsl 3 1 0 [] [], none⟩,
  ⟨(some 7), .mv (.tmp 17), none⟩])
 (.seq (.reg [⟨(some 8), .mv (.const (.int .i64 0)), none⟩])
 (.seq (.seq (.reg [⟨(some 9), .mv (.const (.int .i64 0)), none⟩])
 (.block 2 (.loop (.seq (.seq (.reg [⟨(some 18), .mv (.tmp 9), none⟩,
  ⟨(some 19), .fad 0 (.tmp 2), none⟩,
  ⟨(some 20), .ld none (.tmp 19), none⟩,
  ⟨(some 21), .len (.tmp 20), none⟩,
  ⟨(some 22), .bin .lss (.tmp 18) (.tmp 21), none⟩])
 (.cond (.tmp 22) (.skip) (.exit 2)))
 (.seq (.block 3 (.seq (.reg [⟨(some 25), .mv (.tmp 8), none⟩,
  ⟨(some 26), .mv (.tmp 1), none⟩,
  ⟨(some 27), .mv (.tmp 6), none⟩,
  ⟨(some 28), .iad 1 (.tmp 26) (.tmp 27), none⟩,
  ⟨(some 29), .ld none (.tmp 28), none⟩,
  ⟨(some 30), .mv (.tmp 9), none⟩,
  ⟨(some 31), .iad 1 (.tmp 29) (.tmp 30), none⟩,
  ⟨(some 32), .ld none (.tmp 31), none⟩,
  ⟨(some 33), .bin .add (.tmp 25) (.tmp 32), none⟩,
  ⟨(some 34), .ld (some 3) (.tmp 2), none⟩,
  ⟨(some 35), .mv (.tmp 1), none⟩,
  ⟨(some 36), .mv (.tmp 6), none⟩,
  ⟨(some 37), .mv (.tmp 9), none⟩,
  ⟨(some 38), .rcall (.func 129) [(.tmp 34), (.tmp 35), (.tmp 36), (.tmp 37)], none⟩,
  ⟨(some 39), .bin .sub (.tmp 33) (.tmp 38), none⟩,
  ⟨(some 8), .mv (.tmp 39), none⟩])
 (.reg [⟨(some 40), .mv (.tmp 7), none⟩,
  ⟨(some 41), .mv (.tmp 8), none⟩,
  ⟨(some 42), .bsl 3 1 1 [(.int .i64 0)] [(0, 1, (.tmp 41))], none⟩,
  ⟨(some 43), .app 3 1 8 (.tmp 40) (.tmp 42), none⟩,
  ⟨(some 7), .mv (.tmp 43), none⟩])))
 (.reg [⟨(some 23), .mv (.tmp 9), none⟩,
  ⟨(some 24), .bin .add (.tmp 23) (.const (.int .i64 1)), none⟩,
  ⟨(some 9), .mv (.tmp 24), none⟩]))))))
 (.reg [⟨(some 44), .mv (.tmp 5), none⟩,
  ⟨(some 45), .mv (.tmp 7), none⟩,
  ⟨(some 46), .bsl 24 1 1 [(.slice none 0 0)] [(0, 1, (.tmp 45))], none⟩,
  ⟨(some 47), .app 24 1 24 (.tmp 44) (.tmp 46), none⟩,
  ⟨(some 5), .mv (.tmp 47), none⟩])))))
 (.reg [⟨(some 15), .mv (.tmp 6), none⟩,
  ⟨(some 16), .bin .add (.tmp 15) (.const (.int .i64 1)), none⟩,
  ⟨(some 6), .mv (.tmp 16), none⟩]))))))
 (.seq (.reg [⟨(some 48), .mv (.tmp 5), none⟩,
  ⟨(some 4), .mv (.tmp 48), none⟩])
 (.ret))))
def r_spec_l7Stocks : List ARes := [.tmp 4]
theorem ok_spec_l7Stocks : FnOk Try.prog 98 49 c_spec_l7Stocks r_spec_l7Stocks := ⟨⟨Try.f98, _, Try.func98, by kernel_rfl, rfl, rfl, by kernel_rfl, by kernel_rfl⟩⟩
def c_slices_Backward_sint : ACode := .seq (.reg [⟨(some 1), .box 47 (.tmp 0), none⟩,
  ⟨(some 2), .mv (.const .nilFunc), none⟩])
 (.seq (.reg [⟨(some 3), .mkf 130 [] [(.tmp 1)], none⟩,
  ⟨(some 2), .mv (.tmp 3), none⟩])
 (.ret))
def r_slices_Backward_sint : List ARes := [.tmp 2]
theorem ok_slices_Backward_sint : FnOk Try.prog 99 4 c_slices_Backward_sint r_slices_Backward_sint := ⟨⟨Try.f99, _, Try.func99, by kernel_rfl, rfl, rfl, by kernel_rfl, by kernel_rfl⟩⟩
def c_impl_stocksFor : ACode := .seq (.reg [⟨(some 4), .mv (.const (.slice none 0 0)), none⟩,
  ⟨(some 5), .mv (.const (.bool false)), none⟩])
 (.seq (.reg [⟨(some 9), .mv (.tmp 0), none⟩,
  ⟨(some 10), .mv (.tmp 1), none⟩,
  ⟨(some 11), .call (.func 131) [(.tmp 9), (.tmp 10)], none⟩,
  ⟨(some 8), .mv (.tmp 11), none⟩,
  ⟨(some 12), .ext 0 (.tmp 8), none⟩,
  ⟨(some 13), .ext 1 (.tmp 8), none⟩,
  ⟨(some 6), .mv (.tmp 12), none⟩,
  ⟨(some 7), .mv (.tmp 13), none⟩])
 (.seq (.seq (.reg [⟨(some 14), .mv (.tmp 7), none⟩,
  ⟨(some 15), .un .not (.tmp 14), none⟩,
  ⟨(some 16), .mv (.tmp 15), none⟩,
  ⟨(some 17), .mv (.tmp 6), (some (16, false))⟩,
  ⟨(some 18), .call (.func 132) [(.tmp 17), (.func 133)], (some (16, false))⟩,
  ⟨(some 19), .pick (.tmp 16) (.const (.bool true)) (.tmp 18), none⟩])
 (.cond (.tmp 19) (.seq (.reg [⟨(some 20), .bsl 3 1 0 [] [], none⟩,
  ⟨(some 4), .mv (.tmp 20), none⟩,
  ⟨(some 5), .mv (.const (.bool false)), none⟩])
 (.ret)) (.skip)))
 (.seq (.reg [⟨(some 21), .mv (.tmp 6), none⟩,
  ⟨(some 4), .mv (.tmp 21), none⟩,
  ⟨(some 5), .mv (.const (.bool true)), none⟩])
 (.ret))))
def r_impl_stocksFor : List ARes := [.tmp 4, .tmp 5]
theorem ok_impl_stocksFor : FnOk Try.prog 100 22 c_impl_stocksFor r_impl_stocksFor := ⟨⟨Try.f100, _, Try.func100, by kernel_rfl, rfl, rfl, by kernel_rfl, by kernel_rfl⟩⟩
def c_spec_l7Plan : ACode := .seq (.reg [⟨(some 2), .box 26 (.tmp 0), none⟩,
  ⟨(some 4), .mv (.const (.bool false)), none⟩])
 (.seq (.seq (.reg [⟨(some 9), .mv (.tmp 1), none⟩,
  ⟨(some 10), .len (.tmp 9), none⟩,
  ⟨(some 11), .fad 1 (.tmp 2), none⟩,
  ⟨(some 12), .ld none (.tmp 11), none⟩,
  ⟨(some 13), .len (.tmp 12), none⟩,
  ⟨(some 14), .bin .neq (.tmp 10) (.tmp 13), none⟩])
 (.cond (.tmp 14) (.seq (.reg [⟨(some 4), .mv (.const (.bool false)), none⟩])
 (.ret)) (.skip)))
 (.seq (.seq (.reg [⟨(some 5), .mv (.const (.int .i64 0)), none⟩])
 (.block 0 (.loop (.seq (.seq (.reg [⟨(some 15), .mv (.tmp 5), none⟩,
  ⟨(some 16), .mv (.tmp 1), none⟩,
  ⟨(some 17), .len (.tmp 16), none⟩,
  ⟨(some 18), .bin .lss (.tmp 15) (.tmp 17), none⟩])
 (.cond (.tmp 18) (.skip) (.exit 0)))
 (.seq (.block 1 (.seq (.reg [⟨(some 21), .mv (.tmp 1), none⟩,
  ⟨(some 22), .mv (.tmp 5), none⟩,
  ⟨(some 23), .iad 1 (.tmp 21) (.tmp 22), none⟩,
  ⟨(some 24), .ld none (.tmp 23), none⟩,
  ⟨(some 25), .fad 0 (.tmp 2), none⟩,
  ⟨(some 26), .ld none (.tmp 25), none⟩,
  ⟨(some 27), .len (.tmp 26), none⟩,
  ⟨(some 28), .rcall (.func 117) [(.tmp 24), (.tmp 27), (.const (.int .i64 120))], none⟩,
  ⟨(some 29), .un .not (.tmp 28), none⟩])
 (.cond (.tmp 29) (.seq (.reg [⟨(some 4), .mv (.const (.bool false)), none⟩])
 (.ret)) (.skip))))
 (.reg [⟨(some 19), .mv (.tmp 5), none⟩,
  ⟨(some 20), .bin .add (.tmp 19) (.const (.int .i64 1)), none⟩,
  ⟨(some 5), .mv (.tmp 20), none⟩]))))))
 (.seq (.reg [⟨(some 30), .ld (some 3) (.tmp 2), none⟩,
  ⟨(some 31), .mv (.tmp 1), none⟩,
  ⟨(some 32), .call (.func 98) [(.tmp 30), (.tmp 31)], none⟩,
  ⟨(some 6), .mv (.tmp 32), none⟩])
 (.seq (.seq (.reg [⟨(some 7), .mv (.const (.int .i64 0)), none⟩])
 (.block 2 (.loop (.seq (.seq (.reg [⟨(some 33), .mv (.tmp 7), none⟩,
  ⟨(some 34), .mv (.tmp 6), none⟩,
  ⟨(some 35), .len (.tmp 34), none⟩,
  ⟨(some 36), .bin .lss (.tmp 33) (.tmp 35), none⟩])
 (.cond (.tmp 36) (.skip) (.exit 2)))
 (.seq (.block 3 (.seq (.reg [⟨(some 8), .mv (.const (.int .i64 0)), none⟩])
 (.block 4 (.loop (.seq (.seq (.reg [⟨(some 39), .mv (.tmp 8), none⟩,
  ⟨(some 40), .mv (.tmp 6), none⟩,
  ⟨(some 41), .mv (.tmp 7), none⟩,
  ⟨(some 42), .iad 1 (.tmp 40) (.tmp 41), none⟩,
  ⟨(some 43), .ld none (.tmp 42), none⟩,
  ⟨(some 44), .len (.tmp 43), none⟩,
  ⟨(some 45), .bin .lss (.tmp 39) (.tmp 44), none⟩])
 (.cond (.tmp 45) (.skip) (.exit 4)))
 (.seq (.block 5 (.seq (.reg [⟨(some 48), .mv (.tmp 6), none⟩,
  ⟨(some 49), .mv (.tmp 7), none⟩,
  ⟨(some 50), .iad 1 (.tmp 48) (.tmp 49), none⟩,
  ⟨(some 51), .ld none (.tmp 50), none⟩,
  ⟨(some 52), .mv (.tmp 8), none⟩,
  ⟨(some 53), .iad 1 (.tmp 51) (.tmp 52), none⟩,
  ⟨(some 54), .ld none (.tmp 53), none⟩,
  ⟨(some 55), .bin .lss (.tmp 54) (.const (.int .i64 0)), none⟩,
  ⟨(some 56), .mv (.tmp 55), none⟩,
  ⟨(some 57), .mv (.tmp 8), (some (56, false))⟩,
  ⟨(some 58), .bin .add (.tmp 57) (.const (.int .i64 1)), (some (56, false))⟩,
  ⟨(some 59), .mv (.tmp 6), (some (56, false))⟩,
  ⟨(some 60), .mv (.tmp 7), (some (56, false))⟩,
  ⟨(some 61), .iad 1 (.tmp 59) (.tmp 60), (some (56, false))⟩,
  ⟨(some 62), .ld none (.tmp 61), (some (56, false))⟩,
  ⟨(some 63), .len (.tmp 62), (some (56, false))⟩,
  ⟨(some 64), .bin .eql (.tmp 58) (.tmp 63), (some (56, false))⟩,
  ⟨(some 65), .mv (.tmp 64), (some (56, false))⟩,
  ⟨(some 66), .mv (.tmp 6), (some (65, true))⟩,
  ⟨(some 67), .mv (.tmp 7), (some (65, true))⟩,
  ⟨(some 68), .iad 1 (.tmp 66) (.tmp 67), (some (65, true))⟩,
  ⟨(some 69), .ld none (.tmp 68), (some (65, true))⟩,
  ⟨(some 70), .mv (.tmp 8), (some (65, true))⟩,
  ⟨(some 71), .iad 1 (.tmp 69) (.tmp 70), (some (65, true))⟩,
  ⟨(some 72), .ld none (.tmp 71), (some (65, true))⟩,
  ⟨(some 73), .bin .gtr (.tmp 72) (.const (.int .i64 0)), (some (65, true))⟩,
  ⟨(some 74), .pick (.tmp 65) (.tmp 73) (.const (.bool false)), (some (56, false))⟩,
  ⟨(some 75), .pick (.tmp 56) (.const (.bool true)) (.tmp 74), none⟩])
 (.cond (.tmp 75) (.seq (.reg [⟨(some 4), .mv (.const (.bool false)), none⟩])
 (.ret)) (.skip))))
 (.reg [⟨(some 46), .mv (.tmp 8), none⟩,
  ⟨(some 47), .bin .add (.tmp 46) (.const (.int .i64 1)), none⟩,
  ⟨(some 8), .mv (.tmp 47), none⟩])))))))
 (.reg [⟨(some 37), .mv (.tmp 7), none⟩,
  ⟨(some 38), .bin .add (.tmp 37) (.const (.int .i64 1)), none⟩,
  ⟨(some 7), .mv (.tmp 38), none⟩]))))))
 (.seq (.reg [⟨(some 4), .mv (.const (.bool true)), none⟩])
 (.ret))))))
def r_spec_l7Plan : List ARes := [.tmp 4]
theorem ok_spec_l7Plan : FnOk Try.prog 101 76 c_spec_l7Plan r_spec_l7Plan := ⟨⟨Try.f101, _, Try.func101, by kernel_rfl, rfl, rfl, by kernel_rfl, by kernel_rfl⟩⟩
def c_spec_l7Cost : ACode := .seq (.reg [⟨(some 2), .box 26 (.tmp 0), none⟩,
  ⟨(some 4), .mv (.const (.int .i64 0)), none⟩])
 (.seq (.reg [⟨(some 5), .mv (.const (.int .i64 0)), none⟩])
 (.seq (.reg [⟨(some 9), .ld (some 3) (.tmp 2), none⟩,
  ⟨(some 10), .mv (.tmp 1), none⟩,
  ⟨(some 11), .call (.func 98) [(.tmp 9), (.tmp 10)], none⟩,
  ⟨(some 6), .mv (.tmp 11), none⟩])
 (.seq (.seq (.reg [⟨(some 7), .mv (.const (.int .i64 0)), none⟩])
 (.block 0 (.loop (.seq (.seq (.reg [⟨(some 12), .mv (.tmp 7), none⟩,
  ⟨(some 13), .mv (.tmp 1), none⟩,
  ⟨(some 14), .len (.tmp 13), none⟩,
  ⟨(some 15), .bin .lss (.tmp 12) (.tmp 14), none⟩])
 (.cond (.tmp 15) (.skip) (.exit 0)))
 (.seq (.block 1 (.seq (.reg [⟨(some 8), .mv (.const (.int .i64 0)), none⟩])
 (.block 2 (.loop (.seq (.seq (.reg [⟨(some 18), .mv (.tmp 8), none⟩,
  ⟨(some 19), .fad 0 (.tmp 2), none⟩,
  ⟨(some 20), .ld none (.tmp 19), none⟩,
  ⟨(some 21), .len (.tmp 20), none⟩,
  ⟨(some 22), .bin .lss (.tmp 18) (.tmp 21), none⟩])
 (.cond (.tmp 22) (.skip) (.exit 2)))
 (.seq (.block 3 (.seq (.reg [⟨(some 25), .mv (.tmp 5), none⟩,
  ⟨(some 26), .fad 2 (.tmp 2), none⟩,
  ⟨(some 27), .ld none (.tmp 26), none⟩,
  ⟨(some 28), .mv (.tmp 7), none⟩,
  ⟨(some 29), .iad 1 (.tmp 27) (.tmp 28), none⟩,
  ⟨(some 30), .ld none (.tmp 29), none⟩,
  ⟨(some 31), .mv (.tmp 6), none⟩,
  ⟨(some 32), .mv (.tmp 7), none⟩,
  ⟨(some 33), .iad 1 (.tmp 31) (.tmp 32), none⟩,
  ⟨(some 34), .ld none (.tmp 33), none⟩,
  ⟨(some 35), .mv (.tmp 8), none⟩,
  ⟨(some 36), .iad 1 (.tmp 34) (.tmp 35), none⟩,
  ⟨(some 37), .ld none (.tmp 36), none⟩,
  ⟨(some 38), .bin .mul (.tmp 30) (.tmp 37), none⟩,
  ⟨(some 39), .bin .add (.tmp 25) (.tmp 38), none⟩,
  ⟨(some 5), .mv (.tmp 39), none⟩])
 (.seq (.reg [⟨(some 40), .mv (.tmp 1), none⟩,
  ⟨(some 41), .mv (.tmp 7), none⟩,
  ⟨(some 42), .iad 1 (.tmp 40) (.tmp 41), none⟩,
  ⟨(some 43), .ld none (.tmp 42), none⟩,
  ⟨(some 44), .mv (.tmp 8), none⟩,
  ⟨(some 45), .iad 1 (.tmp 43) (.tmp 44), none⟩,
  ⟨(some 46), .ld none (.tmp 45), none⟩,
  ⟨(some 47), .bin .gtr (.tmp 46) (.const (.int .i64 0)), none⟩])
 (.cond (.tmp 47) (.reg [⟨(some 48), .mv (.tmp 5), none⟩,
  ⟨(some 49), .fad 1 (.tmp 2), none⟩,
  ⟨(some 50), .ld none (.tmp 49), none⟩,
  ⟨(some 51), .mv (.tmp 7), none⟩,
  ⟨(some 52), .iad 1 (.tmp 50) (.tmp 51), none⟩,
  ⟨(some 53), .ld none (.tmp 52), none⟩,
  ⟨(some 54), .bin .add (.tmp 48) (.tmp 53), none⟩,
  ⟨(some 5), .mv (.tmp 54), none⟩]) (.skip)))))
 (.reg [⟨(some 23), .mv (.tmp 8), none⟩,
  ⟨(some 24), .bin .add (.tmp 23) (.const (.int .i64 1)), none⟩,
  ⟨(some 8), .mv (.tmp 24), none⟩])))))))
 (.reg [⟨(some 16), .mv (.tmp 7), none⟩,
  ⟨(some 17), .bin .add (.tmp 16) (.const (.int .i64 1)), none⟩,
  ⟨(some 7), .mv (.tmp 17), none⟩]))))))
 (.seq (.reg [⟨(some 55), .mv (.tmp 5), none⟩,
  ⟨(some 4), .mv (.tmp 55), none⟩])
 (.ret)))))
def r_spec_l7Cost : List ARes := [.tmp 4]
theorem ok_spec_l7Cost : FnOk Try.prog 102 56 c_spec_l7Cost r_spec_l7Cost := ⟨⟨Try.f102, _, Try.func102, by kernel_rfl, rfl, rfl, by kernel_rfl, by kernel_rfl⟩⟩
def c_impl_echelonHold : ACode := .seq (.reg [⟨(some 2), .box 26 (.tmp 0), none⟩,
  ⟨(some 4), .mv (.const (.int .i64 0)), none⟩])
 (.seq (.seq (.reg [⟨(some 5), .mv (.tmp 1), none⟩,
  ⟨(some 6), .bin .eql (.tmp 5) (.const (.int .i64 0)), none⟩])
 (.cond (.tmp 6) (.seq (.reg [⟨(some 7), .fad 2 (.tmp 2), none⟩,
  ⟨(some 8), .ld none (.tmp 7), none⟩,
  ⟨(some 9), .iad 1 (.tmp 8) (.const (.int .i64 0)), none⟩,
  ⟨(some 10), .ld none (.tmp 9), none⟩,
  ⟨(some 4), .mv (.tmp 10), none⟩])
 (.ret)) (.skip)))
 (.seq (.reg [⟨(some 11), .fad 2 (.tmp 2), none⟩,
  ⟨(some 12), .ld none (.tmp 11), none⟩,
  ⟨(some 13), .mv (.tmp 1), none⟩,
  ⟨(some 14), .iad 1 (.tmp 12) (.tmp 13), none⟩,
  ⟨(some 15), .ld none (.tmp 14), none⟩,
  ⟨(some 16), .fad 2 (.tmp 2), none⟩,
  ⟨(some 17), .ld none (.tmp 16), none⟩,
  ⟨(some 18), .mv (.tmp 1), none⟩,
  ⟨(some 19), .bin .sub (.tmp 18) (.const (.int .i64 1)), none⟩,
  ⟨(some 20), .iad 1 (.tmp 17) (.tmp 19), none⟩,
  ⟨(some 21), .ld none (.tmp 20), none⟩,
  ⟨(some 22), .bin .sub (.tmp 15) (.tmp 21), none⟩,
  ⟨(some 4), .mv (.tmp 22), none⟩])
 (.ret)))
def r_impl_echelonHold : List ARes := [.tmp 4]
theorem ok_impl_echelonHold : FnOk Try.prog 103 23 c_impl_echelonHold r_impl_echelonHold := ⟨⟨Try.f103, _, Try.func103, by kernel_rfl, rfl, rfl, by kernel_rfl, by kernel_rfl⟩⟩
def c_spec_l7Periods : ACode := .seq (.reg [⟨(some 2), .box 26 (.tmp 0), none⟩,
  ⟨(some 4), .mv (.const (.bool false)), none⟩])
 (.seq (.seq (.reg [⟨(some 5), .mv (.const (.int .i64 0)), none⟩])
 (.block 0 (.loop (.seq (.seq (.reg [⟨(some 6), .mv (.tmp 5), none⟩,
  ⟨(some 7), .mv (.tmp 1), none⟩,
  ⟨(some 8), .len (.tmp 7), none⟩,
  ⟨(some 9), .bin .lss (.tmp 6) (.tmp 8), none⟩])
 (.cond (.tmp 9) (.skip) (.exit 0)))
 (.seq (.block 1 (.seq (.reg [⟨(some 12), .mv (.tmp 1), none⟩,
  ⟨(some 13), .mv (.tmp 5), none⟩,
  ⟨(some 14), .iad 1 (.tmp 12) (.tmp 13), none⟩,
  ⟨(some 15), .ld none (.tmp 14), none⟩,
  ⟨(some 16), .fad 0 (.tmp 2), none⟩,
  ⟨(some 17), .ld none (.tmp 16), none⟩,
  ⟨(some 18), .len (.tmp 17), none⟩,
  ⟨(some 19), .bin .sub (.tmp 18) (.const (.int .i64 1)), none⟩,
  ⟨(some 20), .rcall (.func 134) [(.tmp 15), (.const (.int .i64 0)), (.tmp 19)], none⟩,
  ⟨(some 21), .un .not (.tmp 20), none⟩,
  ⟨(some 22), .mv (.tmp 21), none⟩,
  ⟨(some 23), .mv (.tmp 5), (some (22, false))⟩,
  ⟨(some 24), .bin .gtr (.tmp 23) (.const (.int .i64 0)), (some (22, false))⟩,
  ⟨(some 25), .mv (.tmp 24), (some (22, false))⟩,
  ⟨(some 26), .mv (.tmp 1), (some (25, true))⟩,
  ⟨(some 27), .mv (.tmp 5), (some (25, true))⟩,
  ⟨(some 28), .bin .sub (.tmp 27) (.const (.int .i64 1)), (some (25, true))⟩,
  ⟨(some 29), .iad 1 (.tmp 26) (.tmp 28), (some (25, true))⟩,
  ⟨(some 30), .ld none (.tmp 29), (some (25, true))⟩,
  ⟨(some 31), .mv (.tmp 1), (some (25, true))⟩,
  ⟨(some 32), .mv (.tmp 5), (some (25, true))⟩,
  ⟨(some 33), .iad 1 (.tmp 31) (.tmp 32), (some (25, true))⟩,
  ⟨(some 34), .ld none (.tmp 33), (some (25, true))⟩,
  ⟨(some 35), .rcall (.func 135) [(.tmp 30), (.tmp 34)], (some (25, true))⟩,
  ⟨(some 36), .un .not (.tmp 35), (some (25, true))⟩,
  ⟨(some 37), .pick (.tmp 25) (.tmp 36) (.const (.bool false)), (some (22, false))⟩,
  ⟨(some 38), .pick (.tmp 22) (.const (.bool true)) (.tmp 37), none⟩])
 (.cond (.tmp 38) (.seq (.reg [⟨(some 4), .mv (.const (.bool false)), none⟩])
 (.ret)) (.skip))))
 (.reg [⟨(some 10), .mv (.tmp 5), none⟩,
  ⟨(some 11), .bin .add (.tmp 10) (.const (.int .i64 1)), none⟩,
  ⟨(some 5), .mv (.tmp 11), none⟩]))))))
 (.seq (.reg [⟨(some 39), .mv (.tmp 1), none⟩,
  ⟨(some 40), .len (.tmp 39), none⟩,
  ⟨(some 41), .fad 1 (.tmp 2), none⟩,
  ⟨(some 42), .ld none (.tmp 41), none⟩,
  ⟨(some 43), .len (.tmp 42), none⟩,
  ⟨(some 44), .bin .eql (.tmp 40) (.tmp 43), none⟩,
  ⟨(some 4), .mv (.tmp 44), none⟩])
 (.ret)))
def r_spec_l7Periods : List ARes := [.tmp 4]
theorem ok_spec_l7Periods : FnOk Try.prog 104 45 c_spec_l7Periods r_spec_l7Periods := ⟨⟨Try.f104, _, Try.func104, by kernel_rfl, rfl, rfl, by kernel_rfl, by kernel_rfl⟩⟩
def c_impl_PlanFrom : ACode := .seq (.reg [⟨(some 2), .box 30 (.tmp 0), none⟩,
  ⟨(some 4), .mv (.const (.slice none 0 0)), none⟩,
  ⟨(some 5), .mv (.const (.bool false)), none⟩])
 (.seq (.seq (.reg [⟨(some 10), .ld (some 4) (.tmp 2), none⟩,
  ⟨(some 11), .call (.func 92) [(.tmp 10)], none⟩,
  ⟨(some 12), .un .not (.tmp 11), none⟩,
  ⟨(some 13), .mv (.tmp 12), none⟩,
  ⟨(some 14), .mv (.tmp 1), (some (13, false))⟩,
  ⟨(some 15), .fad 0 (.tmp 2), (some (13, false))⟩,
  ⟨(some 16), .ld none (.tmp 15), (some (13, false))⟩,
  ⟨(some 17), .len (.tmp 16), (some (13, false))⟩,
  ⟨(some 18), .call (.func 136) [(.tmp 14), (.tmp 17)], (some (13, false))⟩,
  ⟨(some 19), .un .not (.tmp 18), (some (13, false))⟩,
  ⟨(some 20), .pick (.tmp 13) (.const (.bool true)) (.tmp 19), none⟩])
 (.cond (.tmp 20) (.seq (.reg [⟨(some 21), .bsl 3 1 0 [] [], none⟩,
  ⟨(some 4), .mv (.tmp 21), none⟩,
  ⟨(some 5), .mv (.const (.bool false)), none⟩])
 (.ret)) (.skip)))
 (.seq (.reg [⟨(some 22), .fad 0 (.tmp 2), none⟩,
  ⟨(some 23), .ld none (.tmp 22), none⟩,
  ⟨(some 24), .len (.tmp 23), none⟩,
  ⟨(some 25), .mks 3 8 [(.int .i64 0)] (.tmp 24) (.tmp 24), none⟩,
  ⟨(some 6), .alc 24 [(.slice none 0 0)], none⟩,
  ⟨none, .st 1 (.tmp 6) (.tmp 25), none⟩])
 (.seq (.reg [⟨(some 26), .ld none (.tmp 6), none⟩,
  ⟨(some 27), .len (.tmp 26), none⟩,
  ⟨(some 7), .alc 3 [(.int .i64 0)], none⟩,
  ⟨none, .st 1 (.tmp 7) (.tmp 27), none⟩])
 (.seq (.seq (.reg [⟨(some 28), .mv (.tmp 1), none⟩,
  ⟨(some 29), .call (.func 137) [(.tmp 28)], none⟩])
 (.block 0 (.range (.tmp 29) [30, 31] (.reg [⟨(some 9), .mv (.tmp 31), none⟩]) (.block 1 (.seq (.reg [⟨(some 32), .ld none (.tmp 6), none⟩,
  ⟨(some 33), .mv (.tmp 9), none⟩,
  ⟨(some 34), .fad 0 (.tmp 2), none⟩,
  ⟨(some 35), .ld none (.tmp 34), none⟩,
  ⟨(some 36), .mv (.tmp 9), none⟩,
  ⟨(some 37), .ld none (.tmp 7), none⟩,
  ⟨(some 38), .slc 1 (.tmp 35) (some (.tmp 36)) (some (.tmp 37)), none⟩,
  ⟨(some 39), .rcall (.func 80) [(.tmp 38)], none⟩,
  ⟨(some 40), .iad 1 (.tmp 32) (.tmp 33), none⟩,
  ⟨none, .st 1 (.tmp 40) (.tmp 39), none⟩])
 (.reg [⟨(some 41), .mv (.tmp 9), none⟩,
  ⟨none, .st 1 (.tmp 7) (.tmp 41), none⟩]))))))
 (.seq (.seq (.reg [⟨(some 42), .fad 0 (.tmp 2), none⟩,
  ⟨(some 43), .ld none (.tmp 42), none⟩,
  ⟨(some 44), .ld none (.tmp 7), none⟩,
  ⟨(some 45), .slc 1 (.tmp 43) none (some (.tmp 44)), none⟩,
  ⟨(some 46), .call (.func 80) [(.tmp 45)], none⟩,
  ⟨(some 47), .bin .gtr (.tmp 46) (.const (.int .i64 0)), none⟩])
 (.cond (.tmp 47) (.seq (.reg [⟨(some 48), .bsl 3 1 0 [] [], none⟩,
  ⟨(some 4), .mv (.tmp 48), none⟩,
  ⟨(some 5), .mv (.const (.bool false)), none⟩])
 (.ret)) (.skip)))
 (.seq (.reg [⟨(some 49), .ld none (.tmp 6), none⟩,
  ⟨(some 4), .mv (.tmp 49), none⟩,
  ⟨(some 5), .mv (.const (.bool true)), none⟩])
 (.ret)))))))
def r_impl_PlanFrom : List ARes := [.tmp 4, .tmp 5]
theorem ok_impl_PlanFrom : FnOk Try.prog 105 50 c_impl_PlanFrom r_impl_PlanFrom := ⟨⟨Try.f105, _, Try.func105, by kernel_rfl, rfl, rfl, by kernel_rfl, by kernel_rfl⟩⟩
def c_impl_hasAll : ACode := .seq (.reg [⟨(some 2), .box 24 (.tmp 0), none⟩,
  ⟨(some 4), .mv (.const (.bool false)), none⟩])
 (.seq (.reg [⟨(some 6), .mkf 138 [] [(.tmp 2)], none⟩,
  ⟨(some 5), .mv (.tmp 6), none⟩])
 (.seq (.reg [⟨(some 7), .mv (.tmp 1), none⟩,
  ⟨(some 8), .mv (.tmp 5), none⟩,
  ⟨(some 9), .call (.func 132) [(.tmp 7), (.tmp 8)], none⟩,
  ⟨(some 10), .un .not (.tmp 9), none⟩,
  ⟨(some 4), .mv (.tmp 10), none⟩])
 (.ret)))
def r_impl_hasAll : List ARes := [.tmp 4]
theorem ok_impl_hasAll : FnOk Try.prog 106 11 c_impl_hasAll r_impl_hasAll := ⟨⟨Try.f106, _, Try.func106, by kernel_rfl, rfl, rfl, by kernel_rfl, by kernel_rfl⟩⟩
def c_spec_l7Try : ACode := .seq (.reg [⟨(some 3), .box 26 (.tmp 0), none⟩,
  ⟨(some 5), .box 116 (.tmp 2), none⟩,
  ⟨(some 6), .alc 116 [(.slice none 0 0), (.int .i64 0), (.bool false)], none⟩])
 (.seq (.seq (.reg [⟨(some 14), .mv (.tmp 1), none⟩,
  ⟨(some 15), .len (.tmp 14), none⟩,
  ⟨(some 16), .fad 1 (.tmp 3), none⟩,
  ⟨(some 17), .ld none (.tmp 16), none⟩,
  ⟨(some 18), .len (.tmp 17), none⟩,
  ⟨(some 19), .bin .eql (.tmp 15) (.tmp 18), none⟩])
 (.cond (.tmp 19) (.seq (.reg [⟨(some 21), .ld (some 3) (.tmp 3), none⟩,
  ⟨(some 22), .mv (.tmp 1), none⟩,
  ⟨(some 23), .call (.func 55) [(.tmp 21), (.tmp 22)], none⟩,
  ⟨(some 20), .mv (.tmp 23), none⟩,
  ⟨(some 24), .ext 0 (.tmp 20), none⟩,
  ⟨(some 25), .ext 1 (.tmp 20), none⟩,
  ⟨(some 7), .mv (.tmp 24), none⟩,
  ⟨(some 8), .mv (.tmp 25), none⟩])
 (.seq (.seq (.reg [⟨(some 26), .mv (.tmp 8), none⟩,
  ⟨(some 27), .un .not (.tmp 26), none⟩])
 (.cond (.tmp 27) (.seq (.reg [⟨(some 28), .ld (some 3) (.tmp 5), none⟩,
  ⟨none, .st 3 (.tmp 6) (.tmp 28), none⟩])
 (.ret)) (.skip)))
 (.seq (.reg [⟨(some 29), .ld (some 3) (.tmp 3), none⟩,
  ⟨(some 30), .mv (.tmp 7), none⟩,
  ⟨(some 31), .call (.func 102) [(.tmp 29), (.tmp 30)], none⟩,
  ⟨(some 9), .mv (.tmp 31), none⟩])
 (.seq (.reg [⟨(some 32), .mv (.tmp 1), none⟩,
  ⟨(some 34), .fad 0 (.tmp 5), none⟩,
  ⟨(some 35), .ld none (.tmp 34), none⟩,
  ⟨(some 33), .rcall (.func 140) [(.tmp 32)], none⟩,
  ⟨(some 36), .rcall (.func 140) [(.tmp 35)], none⟩,
  ⟨(some 10), .mv (.tmp 33), none⟩,
  ⟨(some 11), .mv (.tmp 36), none⟩])
 (.seq (.seq (.reg [⟨(some 37), .fad 2 (.tmp 5), none⟩,
  ⟨(some 38), .ld none (.tmp 37), none⟩,
  ⟨(some 39), .un .not (.tmp 38), none⟩,
  ⟨(some 40), .mv (.tmp 39), none⟩,
  ⟨(some 41), .mv (.tmp 9), (some (40, false))⟩,
  ⟨(some 42), .fad 1 (.tmp 5), (some (40, false))⟩,
  ⟨(some 43), .ld none (.tmp 42), (some (40, false))⟩,
  ⟨(some 44), .bin .lss (.tmp 41) (.tmp 43), (some (40, false))⟩,
  ⟨(some 45), .pick (.tmp 40) (.const (.bool true)) (.tmp 44), none⟩,
  ⟨(some 46), .mv (.tmp 45), none⟩,
  ⟨(some 47), .mv (.tmp 9), (some (46, false))⟩,
  ⟨(some 48), .fad 1 (.tmp 5), (some (46, false))⟩,
  ⟨(some 49), .ld none (.tmp 48), (some (46, false))⟩,
  ⟨(some 50), .bin .eql (.tmp 47) (.tmp 49), (some (46, false))⟩,
  ⟨(some 51), .mv (.tmp 50), (some (46, false))⟩,
  ⟨(some 52), .mv (.tmp 10), (some (51, true))⟩,
  ⟨(some 53), .mv (.tmp 11), (some (51, true))⟩,
  ⟨(some 54), .bin .lss (.tmp 52) (.tmp 53), (some (51, true))⟩,
  ⟨(some 55), .mv (.tmp 54), (some (51, true))⟩,
  ⟨(some 56), .mv (.tmp 10), (some (55, false))⟩,
  ⟨(some 57), .mv (.tmp 11), (some (55, false))⟩,
  ⟨(some 58), .bin .eql (.tmp 56) (.tmp 57), (some (55, false))⟩,
  ⟨(some 59), .mv (.tmp 58), (some (55, false))⟩,
  ⟨(some 60), .mv (.tmp 1), (some (59, true))⟩,
  ⟨(some 61), .fad 0 (.tmp 5), (some (59, true))⟩,
  ⟨(some 62), .ld none (.tmp 61), (some (59, true))⟩,
  ⟨(some 63), .call (.func 141) [(.tmp 60), (.tmp 62)], (some (59, true))⟩,
  ⟨(some 64), .pick (.tmp 59) (.tmp 63) (.const (.bool false)), (some (55, false))⟩,
  ⟨(some 65), .pick (.tmp 55) (.const (.bool true)) (.tmp 64), (some (51, true))⟩,
  ⟨(some 66), .pick (.tmp 51) (.tmp 65) (.const (.bool false)), (some (46, false))⟩,
  ⟨(some 67), .pick (.tmp 46) (.const (.bool true)) (.tmp 66), none⟩])
 (.cond (.tmp 67) (.seq (.reg [⟨(some 68), .mv (.tmp 1), none⟩,
  ⟨(some 69), .mv (.tmp 9), none⟩,
  ⟨(some 70), .bld [(.slice none 0 0), (.int .i64 0), (.bool false)] [(0, 1, (.tmp 68)), (1, 1, (.tmp 69)), (2, 1, (.const (.bool true)))], none⟩,
  ⟨none, .st 3 (.tmp 6) (.tmp 70), none⟩])
 (.ret)) (.skip)))
 (.seq (.reg [⟨(some 71), .ld (some 3) (.tmp 5), none⟩,
  ⟨none, .st 3 (.tmp 6) (.tmp 71), none⟩])
 (.ret))))))) (.skip)))
 (.seq (.seq (.reg [⟨(some 12), .mv (.const (.int .i64 0)), none⟩])
 (.block 0 (.loop (.seq (.seq (.reg [⟨(some 72), .mv (.tmp 12), none⟩,
  ⟨(some 73), .fad 0 (.tmp 3), none⟩,
  ⟨(some 74), .ld none (.tmp 73), none⟩,
  ⟨(some 75), .len (.tmp 74), none⟩,
  ⟨(some 76), .bin .shl (.const (.int .i64 1)) (.tmp 75), none⟩,
  ⟨(some 77), .bin .lss (.tmp 72) (.tmp 76), none⟩])
 (.cond (.tmp 77) (.skip) (.exit 0)))
 (.seq (.block 1 (.seq (.reg [⟨(some 80), .fad 0 (.tmp 3), none⟩,
  ⟨(some 81), .ld none (.tmp 80), none⟩,
  ⟨(some 82), .len (.tmp 81), none⟩,
  ⟨(some 83), .mv (.tmp 12), none⟩,
  ⟨(some 84), .call (.func 86) [(.tmp 82), (.tmp 83)], none⟩,
  ⟨(some 13), .mv (.tmp 84), none⟩])
 (.seq (.reg [⟨(some 85), .mv (.tmp 1), none⟩,
  ⟨(some 86), .len (.tmp 85), none⟩,
  ⟨(some 87), .bin .eql (.tmp 86) (.const (.int .i64 0)), none⟩,
  ⟨(some 88), .mv (.tmp 87), none⟩,
  ⟨(some 89), .mv (.tmp 13), (some (88, false))⟩,
  ⟨(some 90), .mv (.tmp 1), (some (88, false))⟩,
  ⟨(some 91), .iad 1 (.tmp 90) (.const (.int .i64 0)), (some (88, false))⟩,
  ⟨(some 92), .ld none (.tmp 91), (some (88, false))⟩,
  ⟨(some 93), .call (.func 135) [(.tmp 89), (.tmp 92)], (some (88, false))⟩,
  ⟨(some 94), .pick (.tmp 88) (.const (.bool true)) (.tmp 93), none⟩])
 (.cond (.tmp 94) (.seq (.reg [⟨(some 96), .mv (.tmp 13), none⟩]) (.seq (.reg [⟨(some 98), .mv (.tmp 1), none⟩]) (.both (.seq (.reg [⟨(some 95), .ld (some 3) (.tmp 3), none⟩]) (.both (.seq (.reg [⟨(some 97), .bsl 24 1 1 [(.slice none 0 0)] [(0, 1, (.tmp 96))], none⟩]) (.both (.seq (.reg [⟨(some 99), .app 24 1 24 (.tmp 97) (.tmp 98), none⟩]) (.seq (.reg [⟨(some 100), .ld (some 3) (.tmp 5), none⟩]) (.seq (.reg [⟨(some 101), .rcall (.func 107) [(.tmp 95), (.tmp 99), (.tmp 100)], none⟩]) (.seq (.reg [⟨none, .st 3 (.tmp 5) (.tmp 101), none⟩]) (.skip))))) (.seq (.reg [⟨(some 100), .ld (some 3) (.tmp 5), none⟩]) (.seq (.reg [⟨(some 99), .app 24 1 24 (.tmp 97) (.tmp 98), none⟩]) (.seq (.reg [⟨(some 101), .rcall (.func 107) [(.tmp 95), (.tmp 99), (.tmp 100)], none⟩]) (.seq (.reg [⟨none, .st 3 (.tmp 5) (.tmp 101), none⟩]) (.skip))))))) (.seq (.reg [⟨(some 100), .ld (some 3) (.tmp 5), none⟩]) (.seq (.reg [⟨(some 97), .bsl 24 1 1 [(.slice none 0 0)] [(0, 1, (.tmp 96))], none⟩]) (.seq (.reg [⟨(some 99), .app 24 1 24 (.tmp 97) (.tmp 98), none⟩]) (.seq (.reg [⟨(some 101), .rcall (.func 107) [(.tmp 95), (.tmp 99), (.tmp 100)], none⟩]) (.seq (.reg [⟨none, .st 3 (.tmp 5) (.tmp 101), none⟩]) (.skip)))))))) (.both (.seq (.reg [⟨(some 97), .bsl 24 1 1 [(.slice none 0 0)] [(0, 1, (.tmp 96))], none⟩]) (.both (.seq (.reg [⟨(some 95), .ld (some 3) (.tmp 3), none⟩]) (.both (.seq (.reg [⟨(some 99), .app 24 1 24 (.tmp 97) (.tmp 98), none⟩]) (.seq (.reg [⟨(some 100), .ld (some 3) (.tmp 5), none⟩]) (.seq (.reg [⟨(some 101), .rcall (.func 107) [(.tmp 95), (.tmp 99), (.tmp 100)], none⟩]) (.seq (.reg [⟨none, .st 3 (.tmp 5) (.tmp 101), none⟩]) (.skip))))) (.seq (.reg [⟨(some 100), .ld (some 3) (.tmp 5), none⟩]) (.seq (.reg [⟨(some 99), .app 24 1 24 (.tmp 97) (.tmp 98), none⟩]) (.seq (.reg [⟨(some 101), .rcall (.func 107) [(.tmp 95), (.tmp 99), (.tmp 100)], none⟩]) (.seq (.reg [⟨none, .st 3 (.tmp 5) (.tmp 101), none⟩]) (.skip))))))) (.both (.seq (.reg [⟨(some 99), .app 24 1 24 (.tmp 97) (.tmp 98), none⟩]) (.seq (.reg [⟨(some 95), .ld (some 3) (.tmp 3), none⟩]) (.seq (.reg [⟨(some 100), .ld (some 3) (.tmp 5), none⟩]) (.seq (.reg [⟨(some 101), .rcall (.func 107) [(.tmp 95), (.tmp 99), (.tmp 100)], none⟩]) (.seq (.reg [⟨none, .st 3 (.tmp 5) (.tmp 101), none⟩]) (.skip)))))) (.seq (.reg [⟨(some 100), .ld (some 3) (.tmp 5), none⟩]) (.both (.seq (.reg [⟨(some 95), .ld (some 3) (.tmp 3), none⟩]) (.seq (.reg [⟨(some 99), .app 24 1 24 (.tmp 97) (.tmp 98), none⟩]) (.seq (.reg [⟨(some 101), .rcall (.func 107) [(.tmp 95), (.tmp 99), (.tmp 100)], none⟩]) (.seq (.reg [⟨none, .st 3 (.tmp 5) (.tmp 101), none⟩]) (.skip))))) (.seq (.reg [⟨(some 99), .app 24 1 24 (.tmp 97) (.tmp 98), none⟩]) (.seq (.reg [⟨(some 95), .ld (some 3) (.tmp 3), none⟩]) (.seq (.reg [⟨(some 101), .rcall (.func 107) [(.tmp 95), (.tmp 99), (.tmp 100)], none⟩]) (.seq (.reg [⟨none, .st 3 (.tmp 5) (.tmp 101), none⟩]) (.skip)))))))))) (.seq (.reg [⟨(some 100), .ld (some 3) (.tmp 5), none⟩]) (.both (.seq (.reg [⟨(some 95), .ld (some 3) (.tmp 3), none⟩]) (.seq (.reg [⟨(some 97), .bsl 24 1 1 [(.slice none 0 0)] [(0, 1, (.tmp 96))], none⟩]) (.seq (.reg [⟨(some 99), .app 24 1 24 (.tmp 97) (.tmp 98), none⟩]) (.seq (.reg [⟨(some 101), .rcall (.func 107) [(.tmp 95), (.tmp 99), (.tmp 100)], none⟩]) (.seq (.reg [⟨none, .st 3 (.tmp 5) (.tmp 101), none⟩]) (.skip)))))) (.seq (.reg [⟨(some 97), .bsl 24 1 1 [(.slice none 0 0)] [(0, 1, (.tmp 96))], none⟩]) (.both (.seq (.reg [⟨(some 95), .ld (some 3) (.tmp 3), none⟩]) (.seq (.reg [⟨(some 99), .app 24 1 24 (.tmp 97) (.tmp 98), none⟩]) (.seq (.reg [⟨(some 101), .rcall (.func 107) [(.tmp 95), (.tmp 99), (.tmp 100)], none⟩]) (.seq (.reg [⟨none, .st 3 (.tmp 5) (.tmp 101), none⟩]) (.skip))))) (.seq (.reg [⟨(some 99), .app 24 1 24 (.tmp 97) (.tmp 98), none⟩]) (.seq (.reg [⟨(some 95), .ld (some 3) (.tmp 3), none⟩]) (.seq (.reg [⟨(some 101), .rcall (.func 107) [(.tmp 95), (.tmp 99), (.tmp 100)], none⟩]) (.seq (.reg [⟨none, .st 3 (.tmp 5) (.tmp 101), none⟩]) (.skip))))))))))))) (.skip)))))
 (.reg [⟨(some 78), .mv (.tmp 12), none⟩,
  ⟨(some 79), .bin .add (.tmp 78) (.const (.int .i64 1)), none⟩,
  ⟨(some 12), .mv (.tmp 79), none⟩]))))))
 (.seq (.reg [⟨(some 102), .ld (some 3) (.tmp 5), none⟩,
  ⟨none, .st 3 (.tmp 6) (.tmp 102), none⟩])
 (.ret))))
def r_spec_l7Try : List ARes := [.cell 6 (some 3)]
theorem ok_spec_l7Try : FnOk Try.prog 107 103 c_spec_l7Try r_spec_l7Try := ⟨⟨Try.f107, _, Try.func107, by kernel_rfl, rfl, rfl, by kernel_rfl, by kernel_rfl⟩⟩
def c_spec_l1Own : ACode := .seq (.reg [⟨(some 2), .mv (.const (.slice none 0 0)), none⟩])
 (.seq (.reg [⟨(some 3), .bsl 3 1 0 [] [], none⟩,
  ⟨(some 4), .mv (.tmp 0), none⟩,
  ⟨(some 5), .app 3 1 8 (.tmp 3) (.tmp 4), none⟩,
  ⟨(some 2), .mv (.tmp 5), none⟩])
 (.ret))
def r_spec_l1Own : List ARes := [.tmp 2]
theorem ok_spec_l1Own : FnOk Try.prog 108 6 c_spec_l1Own r_spec_l1Own := ⟨⟨Try.f108, _, Try.func108, by kernel_rfl, rfl, rfl, by kernel_rfl, by kernel_rfl⟩⟩
def c_impl_periodSet__list : ACode := .seq (.reg [⟨(some 2), .mv (.const (.slice none 0 0)), none⟩])
 (.seq (.reg [⟨(some 5), .bsl 3 1 0 [] [], none⟩,
  ⟨(some 3), .mv (.tmp 5), none⟩])
 (.seq (.seq (.reg [⟨(some 6), .mv (.const (.int .i64 0)), none⟩])
 (.block 0 (.loop (.seq (.reg [⟨(some 7), .bin .lss (.tmp 6) (.const (.int .i64 6)), none⟩])
 (.seq (.cond (.tmp 7) (.skip) (.exit 0))
 (.seq (.block 1 (.seq (.reg [⟨(some 8), .mv (.tmp 6), none⟩,
  ⟨(some 4), .mv (.tmp 8), none⟩])
 (.seq (.reg [⟨(some 9), .mv (.tmp 0), none⟩,
  ⟨(some 10), .mv (.tmp 4), none⟩,
  ⟨(some 11), .bin .shr (.tmp 9) (.tmp 10), none⟩,
  ⟨(some 12), .bin .and (.tmp 11) (.const (.int .u64 1)), none⟩,
  ⟨(some 13), .bin .eql (.tmp 12) (.const (.int .u64 1)), none⟩])
 (.cond (.tmp 13) (.reg [⟨(some 14), .mv (.tmp 3), none⟩,
  ⟨(some 15), .mv (.tmp 4), none⟩,
  ⟨(some 16), .bsl 3 1 1 [(.int .i64 0)] [(0, 1, (.tmp 15))], none⟩,
  ⟨(some 17), .app 3 1 8 (.tmp 14) (.tmp 16), none⟩,
  ⟨(some 3), .mv (.tmp 17), none⟩]) (.skip)))))
 (.reg [⟨(some 18), .bin .add (.tmp 6) (.const (.int .i64 1)), none⟩,
  ⟨(some 6), .mv (.tmp 18), none⟩])))))))
 (.seq (.reg [⟨(some 19), .mv (.tmp 3), none⟩,
  ⟨(some 2), .mv (.tmp 19), none⟩])
 (.ret))))
def r_impl_periodSet__list : List ARes := [.tmp 2]
theorem ok_impl_periodSet__list : FnOk Try.prog 109 20 c_impl_periodSet__list r_impl_periodSet__list := ⟨⟨Try.f109, _, Try.func109, by kernel_rfl, rfl, rfl, by kernel_rfl, by kernel_rfl⟩⟩
def c_spec_l7Best : ACode := .seq (.reg [⟨(some 1), .box 26 (.tmp 0), none⟩,
  ⟨(some 2), .mv (.const (.int .i64 0)), none⟩])
 (.seq (.reg [⟨(some 8), .fad 0 (.tmp 1), none⟩,
  ⟨(some 9), .ld none (.tmp 8), none⟩,
  ⟨(some 10), .len (.tmp 9), none⟩,
  ⟨(some 3), .mv (.tmp 10), none⟩])
 (.seq (.reg [⟨(some 11), .mv (.tmp 3), none⟩,
  ⟨(some 12), .bin .add (.tmp 11) (.const (.int .i64 1)), none⟩,
  ⟨(some 13), .mks 3 8 [(.int .i64 0)] (.tmp 12) (.tmp 12), none⟩,
  ⟨(some 4), .mv (.tmp 13), none⟩])
 (.seq (.seq (.reg [⟨(some 14), .mv (.tmp 3), none⟩,
  ⟨(some 15), .bin .sub (.tmp 14) (.const (.int .i64 1)), none⟩,
  ⟨(some 5), .mv (.tmp 15), none⟩])
 (.block 0 (.loop (.seq (.seq (.reg [⟨(some 16), .mv (.tmp 5), none⟩,
  ⟨(some 17), .bin .geq (.tmp 16) (.const (.int .i64 0)), none⟩])
 (.cond (.tmp 17) (.skip) (.exit 0)))
 (.seq (.block 1 (.seq (.seq (.reg [⟨(some 20), .fad 0 (.tmp 1), none⟩,
  ⟨(some 21), .ld none (.tmp 20), none⟩,
  ⟨(some 22), .mv (.tmp 5), none⟩,
  ⟨(some 23), .iad 1 (.tmp 21) (.tmp 22), none⟩,
  ⟨(some 24), .ld none (.tmp 23), none⟩,
  ⟨(some 25), .bin .eql (.tmp 24) (.const (.int .i64 0)), none⟩])
 (.cond (.tmp 25) (.seq (.reg [⟨(some 26), .mv (.tmp 4), none⟩,
  ⟨(some 27), .mv (.tmp 5), none⟩,
  ⟨(some 28), .mv (.tmp 4), none⟩,
  ⟨(some 29), .mv (.tmp 5), none⟩,
  ⟨(some 30), .bin .add (.tmp 29) (.const (.int .i64 1)), none⟩,
  ⟨(some 31), .iad 1 (.tmp 28) (.tmp 30), none⟩,
  ⟨(some 32), .ld none (.tmp 31), none⟩,
  ⟨(some 33), .iad 1 (.tmp 26) (.tmp 27), none⟩,
  ⟨none, .st 1 (.tmp 33) (.tmp 32), none⟩])
 (.exit 1)) (.skip)))
 (.seq (.reg [⟨(some 34), .mv (.tmp 4), none⟩,
  ⟨(some 35), .mv (.tmp 5), none⟩,
  ⟨(some 36), .iad 1 (.tmp 34) (.tmp 35), none⟩,
  ⟨none, .st 1 (.tmp 36) (.const (.int .i64 (-1))), none⟩])
 (.seq (.reg [⟨(some 37), .mv (.tmp 5), none⟩,
  ⟨(some 38), .bin .add (.tmp 37) (.const (.int .i64 1)), none⟩,
  ⟨(some 6), .mv (.tmp 38), none⟩])
 (.block 2 (.loop (.seq (.seq (.reg [⟨(some 39), .mv (.tmp 6), none⟩,
  ⟨(some 40), .mv (.tmp 3), none⟩,
  ⟨(some 41), .bin .leq (.tmp 39) (.tmp 40), none⟩])
 (.cond (.tmp 41) (.skip) (.exit 2)))
 (.seq (.block 3 (.seq (.reg [⟨(some 44), .fad 1 (.tmp 1), none⟩,
  ⟨(some 45), .ld none (.tmp 44), none⟩,
  ⟨(some 46), .iad 1 (.tmp 45) (.const (.int .i64 0)), none⟩,
  ⟨(some 47), .ld none (.tmp 46), none⟩,
  ⟨(some 48), .ld (some 3) (.tmp 1), none⟩,
  ⟨(some 49), .mv (.tmp 5), none⟩,
  ⟨(some 50), .mv (.tmp 5), none⟩,
  ⟨(some 51), .mv (.tmp 6), none⟩,
  ⟨(some 54), .mv (.tmp 4), none⟩,
  ⟨(some 55), .mv (.tmp 6), none⟩,
  ⟨(some 56), .iad 1 (.tmp 54) (.tmp 55), none⟩,
  ⟨(some 57), .ld none (.tmp 56), none⟩,
  ⟨(some 52), .rcall (.func 142) [(.tmp 48), (.const (.int .i64 0)), (.tmp 49), (.tmp 50), (.tmp 51)], none⟩,
  ⟨(some 53), .bin .add (.tmp 47) (.tmp 52), none⟩,
  ⟨(some 58), .bin .add (.tmp 53) (.tmp 57), none⟩,
  ⟨(some 7), .mv (.tmp 58), none⟩])
 (.seq (.reg [⟨(some 59), .mv (.tmp 4), none⟩,
  ⟨(some 60), .mv (.tmp 5), none⟩,
  ⟨(some 61), .iad 1 (.tmp 59) (.tmp 60), none⟩,
  ⟨(some 62), .ld none (.tmp 61), none⟩,
  ⟨(some 63), .bin .lss (.tmp 62) (.const (.int .i64 0)), none⟩,
  ⟨(some 64), .mv (.tmp 63), none⟩,
  ⟨(some 65), .mv (.tmp 7), (some (64, false))⟩,
  ⟨(some 66), .mv (.tmp 4), (some (64, false))⟩,
  ⟨(some 67), .mv (.tmp 5), (some (64, false))⟩,
  ⟨(some 68), .iad 1 (.tmp 66) (.tmp 67), (some (64, false))⟩,
  ⟨(some 69), .ld none (.tmp 68), (some (64, false))⟩,
  ⟨(some 70), .bin .lss (.tmp 65) (.tmp 69), (some (64, false))⟩,
  ⟨(some 71), .pick (.tmp 64) (.const (.bool true)) (.tmp 70), none⟩])
 (.cond (.tmp 71) (.reg [⟨(some 72), .mv (.tmp 4), none⟩,
  ⟨(some 73), .mv (.tmp 5), none⟩,
  ⟨(some 74), .mv (.tmp 7), none⟩,
  ⟨(some 75), .iad 1 (.tmp 72) (.tmp 73), none⟩,
  ⟨none, .st 1 (.tmp 75) (.tmp 74), none⟩]) (.skip)))))
 (.reg [⟨(some 42), .mv (.tmp 6), none⟩,
  ⟨(some 43), .bin .add (.tmp 42) (.const (.int .i64 1)), none⟩,
  ⟨(some 6), .mv (.tmp 43), none⟩])))))))))
 (.reg [⟨(some 18), .mv (.tmp 5), none⟩,
  ⟨(some 19), .bin .sub (.tmp 18) (.const (.int .i64 1)), none⟩,
  ⟨(some 5), .mv (.tmp 19), none⟩]))))))
 (.seq (.reg [⟨(some 76), .mv (.tmp 4), none⟩,
  ⟨(some 77), .iad 1 (.tmp 76) (.const (.int .i64 0)), none⟩,
  ⟨(some 78), .ld none (.tmp 77), none⟩,
  ⟨(some 2), .mv (.tmp 78), none⟩])
 (.ret)))))
def r_spec_l7Best : List ARes := [.tmp 2]
theorem ok_spec_l7Best : FnOk Try.prog 110 79 c_spec_l7Best r_spec_l7Best := ⟨⟨Try.f110, _, Try.func110, by kernel_rfl, rfl, rfl, by kernel_rfl, by kernel_rfl⟩⟩
def c_spec_l2Least : ACode := .seq (.reg [⟨(some 1), .box 30 (.tmp 0), none⟩,
  ⟨(some 2), .mv (.const (.int .i64 0)), none⟩])
 (.seq (.reg [⟨(some 3), .ld (some 4) (.tmp 1), none⟩,
  ⟨(some 4), .ld (some 4) (.tmp 1), none⟩,
  ⟨(some 5), .ld (some 4) (.tmp 1), none⟩,
  ⟨(some 6), .rcall (.func 114) [(.tmp 5)], none⟩,
  ⟨(some 7), .rcall (.func 113) [(.tmp 4), (.tmp 6)], none⟩,
  ⟨(some 8), .rcall (.func 143) [(.tmp 3), (.tmp 7)], none⟩,
  ⟨(some 2), .mv (.tmp 8), none⟩])
 (.ret))
def r_spec_l2Least : List ARes := [.tmp 2]
theorem ok_spec_l2Least : FnOk Try.prog 111 9 c_spec_l2Least r_spec_l2Least := ⟨⟨Try.f111, _, Try.func111, by kernel_rfl, rfl, rfl, by kernel_rfl, by kernel_rfl⟩⟩
def c_spec_l2Good : ACode := .seq (.reg [⟨(some 1), .box 30 (.tmp 0), none⟩,
  ⟨(some 2), .mv (.const (.bool false)), none⟩])
 (.seq (.reg [⟨(some 4), .fad 0 (.tmp 1), none⟩,
  ⟨(some 5), .ld none (.tmp 4), none⟩,
  ⟨(some 6), .len (.tmp 5), none⟩,
  ⟨(some 3), .mv (.tmp 6), none⟩])
 (.seq (.reg [⟨(some 7), .mv (.tmp 3), none⟩,
  ⟨(some 8), .bin .leq (.tmp 7) (.const (.int .i64 8)), none⟩,
  ⟨(some 9), .mv (.tmp 8), none⟩,
  ⟨(some 10), .fad 0 (.tmp 1), (some (9, true))⟩,
  ⟨(some 11), .ld none (.tmp 10), (some (9, true))⟩,
  ⟨(some 12), .mv (.tmp 3), (some (9, true))⟩,
  ⟨(some 13), .call (.func 117) [(.tmp 11), (.tmp 12), (.const (.int .i64 20))], (some (9, true))⟩,
  ⟨(some 14), .pick (.tmp 9) (.tmp 13) (.const (.bool false)), none⟩,
  ⟨(some 15), .mv (.tmp 14), none⟩,
  ⟨(some 16), .fad 1 (.tmp 1), (some (15, true))⟩,
  ⟨(some 17), .ld none (.tmp 16), (some (15, true))⟩,
  ⟨(some 18), .mv (.tmp 3), (some (15, true))⟩,
  ⟨(some 19), .call (.func 117) [(.tmp 17), (.tmp 18), (.const (.int .i64 99))], (some (15, true))⟩,
  ⟨(some 20), .pick (.tmp 15) (.tmp 19) (.const (.bool false)), none⟩,
  ⟨(some 21), .mv (.tmp 20), none⟩,
  ⟨(some 22), .fad 2 (.tmp 1), (some (21, true))⟩,
  ⟨(some 23), .ld none (.tmp 22), (some (21, true))⟩,
  ⟨(some 24), .mv (.tmp 3), (some (21, true))⟩,
  ⟨(some 25), .call (.func 117) [(.tmp 23), (.tmp 24), (.const (.int .i64 9))], (some (21, true))⟩,
  ⟨(some 26), .pick (.tmp 21) (.tmp 25) (.const (.bool false)), none⟩,
  ⟨(some 27), .mv (.tmp 26), none⟩,
  ⟨(some 28), .fad 3 (.tmp 1), (some (27, true))⟩,
  ⟨(some 29), .ld none (.tmp 28), (some (27, true))⟩,
  ⟨(some 30), .mv (.tmp 3), (some (27, true))⟩,
  ⟨(some 31), .call (.func 117) [(.tmp 29), (.tmp 30), (.const (.int .i64 9))], (some (27, true))⟩,
  ⟨(some 32), .pick (.tmp 27) (.tmp 31) (.const (.bool false)), none⟩,
  ⟨(some 2), .mv (.tmp 32), none⟩])
 (.ret)))
def r_spec_l2Good : List ARes := [.tmp 2]
theorem ok_spec_l2Good : FnOk Try.prog 112 33 c_spec_l2Good r_spec_l2Good := ⟨⟨Try.f112, _, Try.func112, by kernel_rfl, rfl, rfl, by kernel_rfl, by kernel_rfl⟩⟩
def c_spec_l2From : ACode := .seq (.reg [⟨(some 2), .box 30 (.tmp 0), none⟩,
  ⟨(some 4), .mv (.const (.slice none 0 0)), none⟩])
 (.seq (.reg [⟨(some 8), .fad 0 (.tmp 2), none⟩,
  ⟨(some 9), .ld none (.tmp 8), none⟩,
  ⟨(some 10), .len (.tmp 9), none⟩,
  ⟨(some 11), .mks 3 8 [(.int .i64 0)] (.tmp 10) (.tmp 10), none⟩,
  ⟨(some 5), .mv (.tmp 11), none⟩])
 (.seq (.seq (.reg [⟨(some 6), .mv (.const (.int .i64 0)), none⟩])
 (.block 0 (.loop (.seq (.seq (.reg [⟨(some 12), .mv (.tmp 6), none⟩,
  ⟨(some 13), .mv (.tmp 1), none⟩,
  ⟨(some 14), .len (.tmp 13), none⟩,
  ⟨(some 15), .bin .lss (.tmp 12) (.tmp 14), none⟩])
 (.cond (.tmp 15) (.skip) (.exit 0)))
 (.seq (.block 1 (.seq (.reg [⟨(some 18), .fad 0 (.tmp 2), none⟩,
  ⟨(some 19), .ld none (.tmp 18), none⟩,
  ⟨(some 20), .len (.tmp 19), none⟩,
  ⟨(some 7), .mv (.tmp 20), none⟩])
 (.seq (.seq (.reg [⟨(some 21), .mv (.tmp 6), none⟩,
  ⟨(some 22), .bin .add (.tmp 21) (.const (.int .i64 1)), none⟩,
  ⟨(some 23), .mv (.tmp 1), none⟩,
  ⟨(some 24), .len (.tmp 23), none⟩,
  ⟨(some 25), .bin .lss (.tmp 22) (.tmp 24), none⟩])
 (.cond (.tmp 25) (.reg [⟨(some 26), .mv (.tmp 1), none⟩,
  ⟨(some 27), .mv (.tmp 6), none⟩,
  ⟨(some 28), .bin .add (.tmp 27) (.const (.int .i64 1)), none⟩,
  ⟨(some 29), .iad 1 (.tmp 26) (.tmp 28), none⟩,
  ⟨(some 30), .ld none (.tmp 29), none⟩,
  ⟨(some 7), .mv (.tmp 30), none⟩]) (.skip)))
 (.reg [⟨(some 31), .mv (.tmp 5), none⟩,
  ⟨(some 32), .mv (.tmp 1), none⟩,
  ⟨(some 33), .mv (.tmp 6), none⟩,
  ⟨(some 34), .iad 1 (.tmp 32) (.tmp 33), none⟩,
  ⟨(some 35), .ld none (.tmp 34), none⟩,
  ⟨(some 36), .fad 0 (.tmp 2), none⟩,
  ⟨(some 37), .ld none (.tmp 36), none⟩,
  ⟨(some 38), .mv (.tmp 1), none⟩,
  ⟨(some 39), .mv (.tmp 6), none⟩,
  ⟨(some 40), .iad 1 (.tmp 38) (.tmp 39), none⟩,
  ⟨(some 41), .ld none (.tmp 40), none⟩,
  ⟨(some 42), .mv (.tmp 7), none⟩,
  ⟨(some 43), .slc 1 (.tmp 37) (some (.tmp 41)) (some (.tmp 42)), none⟩,
  ⟨(some 44), .rcall (.func 125) [(.tmp 43)], none⟩,
  ⟨(some 45), .iad 1 (.tmp 31) (.tmp 35), none⟩,
  ⟨none, .st 1 (.tmp 45) (.tmp 44), none⟩]))))
 (.reg [⟨(some 16), .mv (.tmp 6), none⟩,
  ⟨(some 17), .bin .add (.tmp 16) (.const (.int .i64 1)), none⟩,
  ⟨(some 6), .mv (.tmp 17), none⟩]))))))
 (.seq (.reg [⟨(some 46), .mv (.tmp 5), none⟩,
  ⟨(some 4), .mv (.tmp 46), none⟩])
 (.ret))))
def r_spec_l2From : List ARes := [.tmp 4]
theorem ok_spec_l2From : FnOk Try.prog 113 47 c_spec_l2From r_spec_l2From := ⟨⟨Try.f113, _, Try.func113, by kernel_rfl, rfl, rfl, by kernel_rfl, by kernel_rfl⟩⟩
def c_spec_l2Best : ACode := .seq (.reg [⟨(some 1), .box 30 (.tmp 0), none⟩,
  ⟨(some 2), .mv (.const (.slice none 0 0)), none⟩])
 (.seq (.reg [⟨(some 8), .bsl 3 1 0 [] [], none⟩,
  ⟨(some 3), .mv (.tmp 8), none⟩,
  ⟨(some 4), .mv (.const (.int .i64 (-1))), none⟩])
 (.seq (.seq (.reg [⟨(some 5), .mv (.const (.int .i64 0)), none⟩])
 (.block 0 (.loop (.seq (.seq (.reg [⟨(some 9), .mv (.tmp 5), none⟩,
  ⟨(some 10), .fad 0 (.tmp 1), none⟩,
  ⟨(some 11), .ld none (.tmp 10), none⟩,
  ⟨(some 12), .len (.tmp 11), none⟩,
  ⟨(some 13), .bin .shl (.const (.int .i64 1)) (.tmp 12), none⟩,
  ⟨(some 14), .bin .lss (.tmp 9) (.tmp 13), none⟩])
 (.cond (.tmp 14) (.skip) (.exit 0)))
 (.seq (.block 1 (.seq (.reg [⟨(some 17), .fad 0 (.tmp 1), none⟩,
  ⟨(some 18), .ld none (.tmp 17), none⟩,
  ⟨(some 19), .len (.tmp 18), none⟩,
  ⟨(some 20), .mv (.tmp 5), none⟩,
  ⟨(some 21), .call (.func 86) [(.tmp 19), (.tmp 20)], none⟩,
  ⟨(some 6), .mv (.tmp 21), none⟩])
 (.seq (.seq (.reg [⟨(some 22), .ld (some 4) (.tmp 1), none⟩,
  ⟨(some 23), .mv (.tmp 6), none⟩,
  ⟨(some 24), .call (.func 144) [(.tmp 22), (.tmp 23)], none⟩,
  ⟨(some 25), .un .not (.tmp 24), none⟩])
 (.cond (.tmp 25) (.exit 1) (.skip)))
 (.seq (.reg [⟨(some 26), .ld (some 4) (.tmp 1), none⟩,
  ⟨(some 27), .ld (some 4) (.tmp 1), none⟩,
  ⟨(some 28), .mv (.tmp 6), none⟩,
  ⟨(some 29), .rcall (.func 113) [(.tmp 27), (.tmp 28)], none⟩,
  ⟨(some 30), .rcall (.func 143) [(.tmp 26), (.tmp 29)], none⟩,
  ⟨(some 7), .mv (.tmp 30), none⟩])
 (.seq (.reg [⟨(some 31), .mv (.tmp 4), none⟩,
  ⟨(some 32), .bin .lss (.tmp 31) (.const (.int .i64 0)), none⟩,
  ⟨(some 33), .mv (.tmp 32), none⟩,
  ⟨(some 34), .mv (.tmp 7), (some (33, false))⟩,
  ⟨(some 35), .mv (.tmp 4), (some (33, false))⟩,
  ⟨(some 36), .bin .lss (.tmp 34) (.tmp 35), (some (33, false))⟩,
  ⟨(some 37), .pick (.tmp 33) (.const (.bool true)) (.tmp 36), none⟩,
  ⟨(some 38), .mv (.tmp 37), none⟩,
  ⟨(some 39), .mv (.tmp 7), (some (38, false))⟩,
  ⟨(some 40), .mv (.tmp 4), (some (38, false))⟩,
  ⟨(some 41), .bin .eql (.tmp 39) (.tmp 40), (some (38, false))⟩,
  ⟨(some 42), .mv (.tmp 41), (some (38, false))⟩,
  ⟨(some 43), .mv (.tmp 6), (some (42, true))⟩,
  ⟨(some 44), .mv (.tmp 3), (some (42, true))⟩,
  ⟨(some 45), .call (.func 145) [(.tmp 43), (.tmp 44)], (some (42, true))⟩,
  ⟨(some 46), .pick (.tmp 42) (.tmp 45) (.const (.bool false)), (some (38, false))⟩,
  ⟨(some 47), .pick (.tmp 38) (.const (.bool true)) (.tmp 46), none⟩])
 (.cond (.tmp 47) (.seq (.reg [⟨(some 48), .mv (.tmp 6), none⟩,
  ⟨(some 3), .mv (.tmp 48), none⟩])
 (.reg [⟨(some 49), .mv (.tmp 7), none⟩,
  ⟨(some 4), .mv (.tmp 49), none⟩])) (.skip)))))))
 (.reg [⟨(some 15), .mv (.tmp 5), none⟩,
  ⟨(some 16), .bin .add (.tmp 15) (.const (.int .i64 1)), none⟩,
  ⟨(some 5), .mv (.tmp 16), none⟩]))))))
 (.seq (.reg [⟨(some 50), .mv (.tmp 3), none⟩,
  ⟨(some 2), .mv (.tmp 50), none⟩])
 (.ret))))
def r_spec_l2Best : List ARes := [.tmp 2]
theorem ok_spec_l2Best : FnOk Try.prog 114 51 c_spec_l2Best r_spec_l2Best := ⟨⟨Try.f114, _, Try.func114, by kernel_rfl, rfl, rfl, by kernel_rfl, by kernel_rfl⟩⟩
def c_impl_BestPeriods : ACode := .seq (.reg [⟨(some 1), .box 30 (.tmp 0), none⟩,
  ⟨(some 2), .mv (.const (.slice none 0 0)), none⟩,
  ⟨(some 3), .mv (.const (.bool false)), none⟩])
 (.seq (.seq (.reg [⟨(some 4), .ld (some 4) (.tmp 1), none⟩,
  ⟨(some 5), .call (.func 92) [(.tmp 4)], none⟩,
  ⟨(some 6), .un .not (.tmp 5), none⟩])
 (.cond (.tmp 6) (.seq (.reg [⟨(some 7), .bsl 3 1 0 [] [], none⟩,
  ⟨(some 2), .mv (.tmp 7), none⟩,
  ⟨(some 3), .mv (.const (.bool false)), none⟩])
 (.ret)) (.skip)))
 (.seq (.reg [⟨(some 8), .ld (some 4) (.tmp 1), none⟩,
  ⟨(some 9), .call (.func 93) [(.tmp 8)], none⟩,
  ⟨(some 10), .fld 1 none (.tmp 9), none⟩,
  ⟨(some 2), .mv (.tmp 10), none⟩,
  ⟨(some 3), .mv (.const (.bool true)), none⟩])
 (.ret)))
def r_impl_BestPeriods : List ARes := [.tmp 2, .tmp 3]
theorem ok_impl_BestPeriods : FnOk Try.prog 115 11 c_impl_BestPeriods r_impl_BestPeriods := ⟨⟨Try.f115, _, Try.func115, by kernel_rfl, rfl, rfl, by kernel_rfl, by kernel_rfl⟩⟩
def c_spec_l2Row : ACode := .seq (.reg [⟨(some 6), .mv (.const (.bool false)), none⟩])
 (.seq (.seq (.reg [⟨(some 7), .mv (.const (.int .i64 0)), none⟩])
 (.block 0 (.loop (.seq (.seq (.reg [⟨(some 8), .mv (.tmp 7), none⟩,
  ⟨(some 9), .mv (.tmp 0), none⟩,
  ⟨(some 10), .len (.tmp 9), none⟩,
  ⟨(some 11), .bin .lss (.tmp 8) (.tmp 10), none⟩])
 (.cond (.tmp 11) (.skip) (.exit 0)))
 (.seq (.block 1 (.seq (.reg [⟨(some 14), .mv (.tmp 0), none⟩,
  ⟨(some 15), .mv (.tmp 7), none⟩,
  ⟨(some 16), .iad 1 (.tmp 14) (.tmp 15), none⟩,
  ⟨(some 17), .ld none (.tmp 16), none⟩,
  ⟨(some 18), .mv (.tmp 2), none⟩,
  ⟨(some 19), .call (.func 73) [(.tmp 17), (.const (.int .i64 0)), (.tmp 18)], none⟩,
  ⟨(some 20), .un .not (.tmp 19), none⟩])
 (.cond (.tmp 20) (.seq (.reg [⟨(some 6), .mv (.const (.bool false)), none⟩])
 (.ret)) (.skip))))
 (.reg [⟨(some 12), .mv (.tmp 7), none⟩,
  ⟨(some 13), .bin .add (.tmp 12) (.const (.int .i64 1)), none⟩,
  ⟨(some 7), .mv (.tmp 13), none⟩]))))))
 (.seq (.reg [⟨(some 21), .mv (.tmp 0), none⟩,
  ⟨(some 22), .len (.tmp 21), none⟩,
  ⟨(some 23), .mv (.tmp 1), none⟩,
  ⟨(some 24), .bin .eql (.tmp 22) (.tmp 23), none⟩,
  ⟨(some 6), .mv (.tmp 24), none⟩])
 (.ret)))
def r_spec_l2Row : List ARes := [.tmp 6]
theorem ok_spec_l2Row : FnOk Try.prog 117 25 c_spec_l2Row r_spec_l2Row := ⟨⟨Try.f117, _, Try.func117, by kernel_rfl, rfl, rfl, by kernel_rfl, by kernel_rfl⟩⟩
def c_impl_isRow : ACode := .seq (.reg [⟨(some 5), .box 3 (.tmp 2), none⟩,
  ⟨(some 6), .mv (.const (.bool false)), none⟩])
 (.seq (.reg [⟨(some 8), .mkf 146 [] [(.tmp 5)], none⟩,
  ⟨(some 7), .mv (.tmp 8), none⟩])
 (.seq (.reg [⟨(some 9), .mv (.tmp 0), none⟩,
  ⟨(some 10), .len (.tmp 9), none⟩,
  ⟨(some 11), .mv (.tmp 1), none⟩,
  ⟨(some 12), .bin .eql (.tmp 10) (.tmp 11), none⟩,
  ⟨(some 13), .mv (.tmp 12), none⟩,
  ⟨(some 14), .mv (.tmp 0), (some (13, true))⟩,
  ⟨(some 15), .mv (.tmp 7), (some (13, true))⟩,
  ⟨(some 16), .call (.func 132) [(.tmp 14), (.tmp 15)], (some (13, true))⟩,
  ⟨(some 17), .un .not (.tmp 16), (some (13, true))⟩,
  ⟨(some 18), .pick (.tmp 13) (.tmp 17) (.const (.bool false)), none⟩,
  ⟨(some 6), .mv (.tmp 18), none⟩])
 (.ret)))
def r_impl_isRow : List ARes := [.tmp 6]
theorem ok_impl_isRow : FnOk Try.prog 118 19 c_impl_isRow r_impl_isRow := ⟨⟨Try.f118, _, Try.func118, by kernel_rfl, rfl, rfl, by kernel_rfl, by kernel_rfl⟩⟩
def c_impl_PlanCost : ACode := .seq (.reg [⟨(some 2), .box 30 (.tmp 0), none⟩,
  ⟨(some 4), .mv (.const (.int .i64 0)), none⟩,
  ⟨(some 5), .mv (.const (.bool false)), none⟩])
 (.seq (.reg [⟨(some 11), .ld (some 4) (.tmp 2), none⟩,
  ⟨(some 12), .mv (.tmp 1), none⟩,
  ⟨(some 13), .call (.func 147) [(.tmp 11), (.tmp 12)], none⟩,
  ⟨(some 10), .mv (.tmp 13), none⟩,
  ⟨(some 14), .ext 0 (.tmp 10), none⟩,
  ⟨(some 15), .ext 1 (.tmp 10), none⟩,
  ⟨(some 16), .ext 2 (.tmp 10), none⟩,
  ⟨(some 17), .ext 3 (.tmp 10), none⟩,
  ⟨(some 6), .mv (.tmp 14), none⟩,
  ⟨(some 7), .mv (.tmp 15), none⟩,
  ⟨(some 8), .mv (.tmp 16), none⟩,
  ⟨(some 9), .mv (.tmp 17), none⟩])
 (.seq (.reg [⟨(some 18), .mv (.tmp 6), none⟩,
  ⟨(some 19), .mv (.tmp 7), none⟩,
  ⟨(some 20), .bin .add (.tmp 18) (.tmp 19), none⟩,
  ⟨(some 21), .mv (.tmp 8), none⟩,
  ⟨(some 22), .bin .add (.tmp 20) (.tmp 21), none⟩,
  ⟨(some 23), .mv (.tmp 9), none⟩,
  ⟨(some 4), .mv (.tmp 22), none⟩,
  ⟨(some 5), .mv (.tmp 23), none⟩])
 (.ret)))
def r_impl_PlanCost : List ARes := [.tmp 4, .tmp 5]
theorem ok_impl_PlanCost : FnOk Try.prog 119 24 c_impl_PlanCost r_impl_PlanCost := ⟨⟨Try.f119, _, Try.func119, by kernel_rfl, rfl, rfl, by kernel_rfl, by kernel_rfl⟩⟩
def c_impl_steadyCase_1 : ACode := .seq (.reg [⟨(some 3), .mv (.const (.slice none 0 0)), none⟩])
 (.seq (.reg [⟨(some 4), .mv (.tmp 0), none⟩,
  ⟨(some 5), .bsl 3 1 1 [(.int .i64 0)] [(0, 1, (.tmp 4))], none⟩,
  ⟨(some 6), .ld none (.tmp 1), none⟩,
  ⟨(some 7), .len (.tmp 6), none⟩,
  ⟨(some 8), .call (.func 121) [(.tmp 5), (.tmp 7)], none⟩,
  ⟨(some 3), .mv (.tmp 8), none⟩])
 (.ret))
def r_impl_steadyCase_1 : List ARes := [.tmp 3]
theorem ok_impl_steadyCase_1 : FnOk Try.prog 120 9 c_impl_steadyCase_1 r_impl_steadyCase_1 := ⟨⟨Try.f120, _, Try.func120, by kernel_rfl, rfl, rfl, by kernel_rfl, by kernel_rfl⟩⟩
def c_slices_Repeat : ACode := .seq (.reg [⟨(some 4), .mv (.const (.slice none 0 0)), none⟩])
 (.seq (.seq (.reg [⟨(some 9), .mv (.tmp 1), none⟩,
  ⟨(some 10), .bin .lss (.tmp 9) (.const (.int .i64 0)), none⟩])
 (.cond (.tmp 10) (.reg [⟨(some 11), .never, none⟩,
  ⟨none, .never, none⟩]) (.skip)))
 (.seq (.reg [⟨(some 13), .mv (.tmp 0), none⟩,
  ⟨(some 14), .len (.tmp 13), none⟩,
  ⟨(some 15), .conv .u64 (.tmp 14), none⟩,
  ⟨(some 16), .mv (.tmp 1), none⟩,
  ⟨(some 17), .conv .u64 (.tmp 16), none⟩,
  ⟨(some 18), .call (.func 148) [(.tmp 15), (.tmp 17)], none⟩,
  ⟨(some 12), .mv (.tmp 18), none⟩,
  ⟨(some 19), .ext 0 (.tmp 12), none⟩,
  ⟨(some 20), .ext 1 (.tmp 12), none⟩,
  ⟨(some 5), .mv (.tmp 19), none⟩,
  ⟨(some 6), .mv (.tmp 20), none⟩])
 (.seq (.seq (.reg [⟨(some 21), .mv (.tmp 5), none⟩,
  ⟨(some 22), .bin .gtr (.tmp 21) (.const (.int .u64 0)), none⟩,
  ⟨(some 23), .mv (.tmp 22), none⟩,
  ⟨(some 24), .mv (.tmp 6), (some (23, false))⟩,
  ⟨(some 25), .bin .gtr (.tmp 24) (.const (.int .u64 9223372036854775807)), (some (23, false))⟩,
  ⟨(some 26), .pick (.tmp 23) (.const (.bool true)) (.tmp 25), none⟩])
 (.cond (.tmp 26) (.reg [⟨(some 27), .never, none⟩,
  ⟨none, .never, none⟩]) (.skip)))
 (.seq (.reg [⟨(some 28), .mv (.tmp 6), none⟩,
  ⟨(some 29), .conv .i64 (.tmp 28), none⟩,
  ⟨(some 30), .mks 3 8 [(.int .i64 0)] (.tmp 29) (.tmp 29), none⟩,
  ⟨(some 7), .mv (.tmp 30), none⟩])
 (.seq (.reg [⟨(some 31), .mv (.tmp 7), none⟩,
  ⟨(some 32), .mv (.tmp 0), none⟩,
  ⟨(some 33), .cpy 1 (.tmp 31) (.tmp 32), none⟩,
  ⟨(some 8), .mv (.tmp 33), none⟩])
 (.seq (.block 0 (.loop (.seq (.seq (.reg [⟨(some 34), .mv (.tmp 8), none⟩,
  ⟨(some 35), .mv (.tmp 7), none⟩,
  ⟨(some 36), .len (.tmp 35), none⟩,
  ⟨(some 37), .bin .lss (.tmp 34) (.tmp 36), none⟩])
 (.cond (.tmp 37) (.skip) (.exit 0)))
 (.block 1 (.reg [⟨(some 38), .mv (.tmp 8), none⟩,
  ⟨(some 39), .mv (.tmp 7), none⟩,
  ⟨(some 40), .mv (.tmp 8), none⟩,
  ⟨(some 41), .slc 1 (.tmp 39) (some (.tmp 40)) none, none⟩,
  ⟨(some 42), .mv (.tmp 7), none⟩,
  ⟨(some 43), .mv (.tmp 8), none⟩,
  ⟨(some 44), .slc 1 (.tmp 42) none (some (.tmp 43)), none⟩,
  ⟨(some 45), .cpy 1 (.tmp 41) (.tmp 44), none⟩,
  ⟨(some 46), .bin .add (.tmp 38) (.tmp 45), none⟩,
  ⟨(some 8), .mv (.tmp 46), none⟩])))))
 (.seq (.reg [⟨(some 47), .mv (.tmp 7), none⟩,
  ⟨(some 4), .mv (.tmp 47), none⟩])
 (.ret))))))))
def r_slices_Repeat : List ARes := [.tmp 4]
theorem ok_slices_Repeat : FnOk Try.prog 121 48 c_slices_Repeat r_slices_Repeat := ⟨⟨Try.f121, _, Try.func121, by kernel_rfl, rfl, rfl, by kernel_rfl, by kernel_rfl⟩⟩
def c_impl_periodSet__isPartOf : ACode := .seq (.reg [⟨(some 4), .mv (.const (.bool false)), none⟩])
 (.seq (.reg [⟨(some 5), .mv (.tmp 0), none⟩,
  ⟨(some 6), .mv (.tmp 1), none⟩,
  ⟨(some 7), .bin .andNot (.tmp 5) (.tmp 6), none⟩,
  ⟨(some 8), .bin .eql (.tmp 7) (.const (.int .u64 0)), none⟩,
  ⟨(some 4), .mv (.tmp 8), none⟩])
 (.ret))
def r_impl_periodSet__isPartOf : List ARes := [.tmp 4]
theorem ok_impl_periodSet__isPartOf : FnOk Try.prog 122 9 c_impl_periodSet__isPartOf r_impl_periodSet__isPartOf := ⟨⟨Try.f122, _, Try.func122, by kernel_rfl, rfl, rfl, by kernel_rfl, by kernel_rfl⟩⟩
def c_slices_MinFunc : ACode := .seq (.reg [⟨(some 4), .alc 92 [(.int .i64 0), (.slice none 0 0)], none⟩])
 (.seq (.seq (.reg [⟨(some 7), .mv (.tmp 0), none⟩,
  ⟨(some 8), .len (.tmp 7), none⟩,
  ⟨(some 9), .bin .lss (.tmp 8) (.const (.int .i64 1)), none⟩])
 (.cond (.tmp 9) (.reg [⟨(some 10), .never, none⟩,
  ⟨none, .never, none⟩]) (.skip)))
 (.seq (.reg [⟨(some 11), .mv (.tmp 0), none⟩,
  ⟨(some 12), .iad 2 (.tmp 11) (.const (.int .i64 0)), none⟩,
  ⟨(some 13), .ld (some 2) (.tmp 12), none⟩,
  ⟨(some 5), .alc 92 [(.int .i64 0), (.slice none 0 0)], none⟩,
  ⟨none, .st 2 (.tmp 5) (.tmp 13), none⟩])
 (.seq (.seq (.reg [⟨(some 6), .mv (.const (.int .i64 1)), none⟩])
 (.block 0 (.loop (.seq (.seq (.reg [⟨(some 14), .mv (.tmp 6), none⟩,
  ⟨(some 15), .mv (.tmp 0), none⟩,
  ⟨(some 16), .len (.tmp 15), none⟩,
  ⟨(some 17), .bin .lss (.tmp 14) (.tmp 16), none⟩])
 (.cond (.tmp 17) (.skip) (.exit 0)))
 (.seq (.block 1 (.seq (.reg [⟨(some 20), .mv (.tmp 1), none⟩,
  ⟨(some 21), .mv (.tmp 0), none⟩,
  ⟨(some 22), .mv (.tmp 6), none⟩,
  ⟨(some 23), .iad 2 (.tmp 21) (.tmp 22), none⟩,
  ⟨(some 24), .ld (some 2) (.tmp 23), none⟩,
  ⟨(some 25), .ld (some 2) (.tmp 5), none⟩,
  ⟨(some 26), .rcall (.tmp 20) [(.tmp 24), (.tmp 25)], none⟩,
  ⟨(some 27), .bin .lss (.tmp 26) (.const (.int .i64 0)), none⟩])
 (.cond (.tmp 27) (.reg [⟨(some 28), .mv (.tmp 0), none⟩,
  ⟨(some 29), .mv (.tmp 6), none⟩,
  ⟨(some 30), .iad 2 (.tmp 28) (.tmp 29), none⟩,
  ⟨(some 31), .ld (some 2) (.tmp 30), none⟩,
  ⟨none, .st 2 (.tmp 5) (.tmp 31), none⟩]) (.skip))))
 (.reg [⟨(some 18), .mv (.tmp 6), none⟩,
  ⟨(some 19), .bin .add (.tmp 18) (.const (.int .i64 1)), none⟩,
  ⟨(some 6), .mv (.tmp 19), none⟩]))))))
 (.seq (.reg [⟨(some 32), .ld (some 2) (.tmp 5), none⟩,
  ⟨none, .st 2 (.tmp 4) (.tmp 32), none⟩])
 (.ret)))))
def r_slices_MinFunc : List ARes := [.cell 4 (some 2)]
theorem ok_slices_MinFunc : FnOk Try.prog 123 33 c_slices_MinFunc r_slices_MinFunc := ⟨⟨Try.f123, _, Try.func123, by kernel_rfl, rfl, rfl, by kernel_rfl, by kernel_rfl⟩⟩
def c_impl_compareNests : ACode := .seq (.reg [⟨(some 2), .box 92 (.tmp 0), none⟩,
  ⟨(some 3), .box 92 (.tmp 1), none⟩,
  ⟨(some 4), .mv (.const (.int .i64 0)), none⟩])
 (.seq (.reg [⟨(some 6), .fad 0 (.tmp 2), none⟩,
  ⟨(some 7), .ld none (.tmp 6), none⟩,
  ⟨(some 8), .fad 0 (.tmp 3), none⟩,
  ⟨(some 9), .ld none (.tmp 8), none⟩,
  ⟨(some 11), .ld (some 2) (.tmp 2), none⟩,
  ⟨(some 13), .ld (some 2) (.tmp 3), none⟩,
  ⟨(some 10), .rcall (.func 150) [(.tmp 7), (.tmp 9)], none⟩,
  ⟨(some 12), .rcall (.func 151) [(.tmp 11)], none⟩,
  ⟨(some 14), .rcall (.func 151) [(.tmp 13)], none⟩,
  ⟨(some 15), .rcall (.func 150) [(.tmp 12), (.tmp 14)], none⟩,
  ⟨(some 16), .bsl 3 1 2 [(.int .i64 0), (.int .i64 0)] [(0, 1, (.tmp 10)), (1, 1, (.tmp 15))], none⟩,
  ⟨(some 17), .rcall (.func 149) [(.tmp 16)], none⟩,
  ⟨(some 5), .mv (.tmp 17), none⟩])
 (.seq (.seq (.reg [⟨(some 18), .mv (.tmp 5), none⟩,
  ⟨(some 19), .bin .neq (.tmp 18) (.const (.int .i64 0)), none⟩])
 (.cond (.tmp 19) (.seq (.reg [⟨(some 20), .mv (.tmp 5), none⟩,
  ⟨(some 4), .mv (.tmp 20), none⟩])
 (.ret)) (.skip)))
 (.seq (.reg [⟨(some 21), .fad 1 (.tmp 2), none⟩,
  ⟨(some 22), .ld none (.tmp 21), none⟩,
  ⟨(some 23), .fad 1 (.tmp 3), none⟩,
  ⟨(some 24), .ld none (.tmp 23), none⟩,
  ⟨(some 25), .call (.func 152) [(.tmp 22), (.tmp 24), (.func 153)], none⟩,
  ⟨(some 4), .mv (.tmp 25), none⟩])
 (.ret))))
def r_impl_compareNests : List ARes := [.tmp 4]
theorem ok_impl_compareNests : FnOk Try.prog 124 26 c_impl_compareNests r_impl_compareNests := ⟨⟨Try.f124, _, Try.func124, by kernel_rfl, rfl, rfl, by kernel_rfl, by kernel_rfl⟩⟩
def c_spec_l2Sum : ACode := .seq (.reg [⟨(some 2), .mv (.const (.int .i64 0)), none⟩])
 (.seq (.reg [⟨(some 3), .mv (.const (.int .i64 0)), none⟩])
 (.seq (.seq (.reg [⟨(some 4), .mv (.const (.int .i64 0)), none⟩])
 (.block 0 (.loop (.seq (.seq (.reg [⟨(some 5), .mv (.tmp 4), none⟩,
  ⟨(some 6), .mv (.tmp 0), none⟩,
  ⟨(some 7), .len (.tmp 6), none⟩,
  ⟨(some 8), .bin .lss (.tmp 5) (.tmp 7), none⟩])
 (.cond (.tmp 8) (.skip) (.exit 0)))
 (.seq (.block 1 (.reg [⟨(some 11), .mv (.tmp 3), none⟩,
  ⟨(some 12), .mv (.tmp 0), none⟩,
  ⟨(some 13), .mv (.tmp 4), none⟩,
  ⟨(some 14), .iad 1 (.tmp 12) (.tmp 13), none⟩,
  ⟨(some 15), .ld none (.tmp 14), none⟩,
  ⟨(some 16), .bin .add (.tmp 11) (.tmp 15), none⟩,
  ⟨(some 3), .mv (.tmp 16), none⟩]))
 (.reg [⟨(some 9), .mv (.tmp 4), none⟩,
  ⟨(some 10), .bin .add (.tmp 9) (.const (.int .i64 1)), none⟩,
  ⟨(some 4), .mv (.tmp 10), none⟩]))))))
 (.seq (.reg [⟨(some 17), .mv (.tmp 3), none⟩,
  ⟨(some 2), .mv (.tmp 17), none⟩])
 (.ret))))
def r_spec_l2Sum : List ARes := [.tmp 2]
theorem ok_spec_l2Sum : FnOk Try.prog 125 18 c_spec_l2Sum r_spec_l2Sum := ⟨⟨Try.f125, _, Try.func125, by kernel_rfl, rfl, rfl, by kernel_rfl, by kernel_rfl⟩⟩
def c_impl_lotsFrom : ACode := .seq (.reg [⟨(some 1), .box 30 (.tmp 0), none⟩,
  ⟨(some 2), .mv (.const .nilFunc), none⟩])
 (.seq (.reg [⟨(some 6), .fad 0 (.tmp 1), none⟩,
  ⟨(some 7), .ld none (.tmp 6), none⟩,
  ⟨(some 8), .len (.tmp 7), none⟩,
  ⟨(some 3), .alc 3 [(.int .i64 0)], none⟩,
  ⟨none, .st 1 (.tmp 3) (.tmp 8), none⟩])
 (.seq (.reg [⟨(some 9), .mkm 158, none⟩,
  ⟨(some 10), .ld none (.tmp 3), none⟩,
  ⟨(some 11), .bld [(.int .i64 0), (.slice none 0 0)] [], none⟩,
  ⟨none, .mup (.tmp 9) (.tmp 10) (.tmp 11), none⟩,
  ⟨(some 12), .mv (.tmp 9), none⟩,
  ⟨(some 4), .alc 158 [(.map none)], none⟩,
  ⟨none, .st 1 (.tmp 4) (.tmp 12), none⟩])
 (.seq (.reg [⟨(some 5), .alc 134 [.nilFunc], none⟩])
 (.seq (.reg [⟨(some 13), .mkf 155 [] [(.tmp 4), (.tmp 1), (.tmp 3), (.tmp 5)], none⟩,
  ⟨none, .st 1 (.tmp 5) (.tmp 13), none⟩])
 (.seq (.reg [⟨(some 14), .ld none (.tmp 5), none⟩,
  ⟨(some 2), .mv (.tmp 14), none⟩])
 (.ret))))))
def r_impl_lotsFrom : List ARes := [.tmp 2]
theorem ok_impl_lotsFrom : FnOk Try.prog 126 15 c_impl_lotsFrom r_impl_lotsFrom := ⟨⟨Try.f126, _, Try.func126, by kernel_rfl, rfl, rfl, by kernel_rfl, by kernel_rfl⟩⟩
def c_impl_comesBefore : ACode := .seq (.reg [⟨(some 2), .box 103 (.tmp 0), none⟩,
  ⟨(some 3), .box 103 (.tmp 1), none⟩,
  ⟨(some 4), .mv (.const (.bool false)), none⟩])
 (.seq (.reg [⟨(some 6), .fad 0 (.tmp 2), none⟩,
  ⟨(some 7), .ld none (.tmp 6), none⟩,
  ⟨(some 8), .fad 0 (.tmp 3), none⟩,
  ⟨(some 9), .ld none (.tmp 8), none⟩,
  ⟨(some 11), .fad 1 (.tmp 2), none⟩,
  ⟨(some 12), .ld none (.tmp 11), none⟩,
  ⟨(some 13), .len (.tmp 12), none⟩,
  ⟨(some 14), .fad 1 (.tmp 3), none⟩,
  ⟨(some 15), .ld none (.tmp 14), none⟩,
  ⟨(some 16), .len (.tmp 15), none⟩,
  ⟨(some 18), .fad 1 (.tmp 2), none⟩,
  ⟨(some 19), .ld none (.tmp 18), none⟩,
  ⟨(some 20), .fad 1 (.tmp 3), none⟩,
  ⟨(some 21), .ld none (.tmp 20), none⟩,
  ⟨(some 10), .rcall (.func 150) [(.tmp 7), (.tmp 9)], none⟩,
  ⟨(some 17), .rcall (.func 150) [(.tmp 13), (.tmp 16)], none⟩,
  ⟨(some 22), .rcall (.func 154) [(.tmp 19), (.tmp 21)], none⟩,
  ⟨(some 23), .bsl 3 1 3 [(.int .i64 0), (.int .i64 0), (.int .i64 0)] [(0, 1, (.tmp 10)), (1, 1, (.tmp 17)), (2, 1, (.tmp 22))], none⟩,
  ⟨(some 24), .rcall (.func 149) [(.tmp 23)], none⟩,
  ⟨(some 5), .mv (.tmp 24), none⟩])
 (.seq (.reg [⟨(some 25), .mv (.tmp 5), none⟩,
  ⟨(some 26), .bin .lss (.tmp 25) (.const (.int .i64 0)), none⟩,
  ⟨(some 4), .mv (.tmp 26), none⟩])
 (.ret)))
def r_impl_comesBefore : List ARes := [.tmp 4]
theorem ok_impl_comesBefore : FnOk Try.prog 127 27 c_impl_comesBefore r_impl_comesBefore := ⟨⟨Try.f127, _, Try.func127, by kernel_rfl, rfl, rfl, by kernel_rfl, by kernel_rfl⟩⟩
def c_cmp_Less : ACode := .seq (.reg [⟨(some 4), .mv (.const (.bool false)), none⟩])
 (.seq (.reg [⟨(some 5), .mv (.tmp 0), none⟩,
  ⟨(some 6), .call (.func 157) [(.tmp 5)], none⟩,
  ⟨(some 7), .mv (.tmp 6), none⟩,
  ⟨(some 8), .mv (.tmp 1), (some (7, true))⟩,
  ⟨(some 9), .call (.func 157) [(.tmp 8)], (some (7, true))⟩,
  ⟨(some 10), .un .not (.tmp 9), (some (7, true))⟩,
  ⟨(some 11), .pick (.tmp 7) (.tmp 10) (.const (.bool false)), none⟩,
  ⟨(some 12), .mv (.tmp 11), none⟩,
  ⟨(some 13), .mv (.tmp 0), (some (12, false))⟩,
  ⟨(some 14), .mv (.tmp 1), (some (12, false))⟩,
  ⟨(some 15), .bin .lss (.tmp 13) (.tmp 14), (some (12, false))⟩,
  ⟨(some 16), .pick (.tmp 12) (.const (.bool true)) (.tmp 15), none⟩,
  ⟨(some 4), .mv (.tmp 16), none⟩])
 (.ret))
def r_cmp_Less : List ARes := [.tmp 4]
theorem ok_cmp_Less : FnOk Try.prog 128 17 c_cmp_Less r_cmp_Less := ⟨⟨Try.f128, _, Try.func128, by kernel_rfl, rfl, rfl, by kernel_rfl, by kernel_rfl⟩⟩
def c_spec_l7Out : ACode := .seq (.reg [⟨(some 4), .box 26 (.tmp 0), none⟩,
  ⟨(some 8), .mv (.const (.int .i64 0)), none⟩])
 (.seq (.seq (.reg [⟨(some 9), .mv (.tmp 2), none⟩,
  ⟨(some 10), .bin .add (.tmp 9) (.const (.int .i64 1)), none⟩,
  ⟨(some 11), .mv (.tmp 1), none⟩,
  ⟨(some 12), .len (.tmp 11), none⟩,
  ⟨(some 13), .bin .lss (.tmp 10) (.tmp 12), none⟩])
 (.cond (.tmp 13) (.seq (.reg [⟨(some 14), .mv (.tmp 1), none⟩,
  ⟨(some 15), .mv (.tmp 2), none⟩,
  ⟨(some 16), .bin .add (.tmp 15) (.const (.int .i64 1)), none⟩,
  ⟨(some 17), .iad 1 (.tmp 14) (.tmp 16), none⟩,
  ⟨(some 18), .ld none (.tmp 17), none⟩,
  ⟨(some 19), .mv (.tmp 3), none⟩,
  ⟨(some 20), .iad 1 (.tmp 18) (.tmp 19), none⟩,
  ⟨(some 21), .ld none (.tmp 20), none⟩,
  ⟨(some 8), .mv (.tmp 21), none⟩])
 (.ret)) (.skip)))
 (.seq (.reg [⟨(some 22), .fad 0 (.tmp 4), none⟩,
  ⟨(some 23), .ld none (.tmp 22), none⟩,
  ⟨(some 24), .mv (.tmp 3), none⟩,
  ⟨(some 25), .iad 1 (.tmp 23) (.tmp 24), none⟩,
  ⟨(some 26), .ld none (.tmp 25), none⟩,
  ⟨(some 8), .mv (.tmp 26), none⟩])
 (.ret)))
def r_spec_l7Out : List ARes := [.tmp 8]
theorem ok_spec_l7Out : FnOk Try.prog 129 27 c_spec_l7Out r_spec_l7Out := ⟨⟨Try.f129, _, Try.func129, by kernel_rfl, rfl, rfl, by kernel_rfl, by kernel_rfl⟩⟩
def c_slices_Backward_1_sint : ACode := .seq (.reg [⟨(some 4), .ld none (.tmp 1), none⟩,
  ⟨(some 5), .len (.tmp 4), none⟩,
  ⟨(some 6), .bin .sub (.tmp 5) (.const (.int .i64 1)), none⟩,
  ⟨(some 3), .mv (.tmp 6), none⟩])
 (.block 0 (.loop (.seq (.seq (.reg [⟨(some 7), .mv (.tmp 3), none⟩,
  ⟨(some 8), .bin .geq (.tmp 7) (.const (.int .i64 0)), none⟩])
 (.cond (.tmp 8) (.skip) (.exit 0)))
 (.seq (.block 1 (.seq (.reg [⟨(some 11), .mv (.tmp 0), none⟩,
  ⟨(some 12), .mv (.tmp 3), none⟩,
  ⟨(some 13), .ld none (.tmp 1), none⟩,
  ⟨(some 14), .mv (.tmp 3), none⟩,
  ⟨(some 15), .iad 1 (.tmp 13) (.tmp 14), none⟩,
  ⟨(some 16), .ld none (.tmp 15), none⟩,
  ⟨(some 17), .call (.tmp 11) [(.tmp 12), (.tmp 16)], none⟩,
  ⟨(some 18), .un .not (.tmp 17), none⟩])
 (.cond (.tmp 18) (.ret) (.skip))))
 (.reg [⟨(some 9), .mv (.tmp 3), none⟩,
  ⟨(some 10), .bin .sub (.tmp 9) (.const (.int .i64 1)), none⟩,
  ⟨(some 3), .mv (.tmp 10), none⟩])))))
def r_slices_Backward_1_sint : List ARes := []
theorem ok_slices_Backward_1_sint : FnOk Try.prog 130 19 c_slices_Backward_1_sint r_slices_Backward_1_sint := ⟨⟨Try.f130, _, Try.func130, by kernel_rfl, rfl, rfl, by kernel_rfl, by kernel_rfl⟩⟩
def c_impl_balancesFor : ACode := .seq (.reg [⟨(some 4), .mv (.const (.slice none 0 0)), none⟩,
  ⟨(some 5), .mv (.const (.bool false)), none⟩])
 (.seq (.seq (.reg [⟨(some 10), .mv (.tmp 1), none⟩,
  ⟨(some 11), .mv (.tmp 0), none⟩,
  ⟨(some 12), .len (.tmp 11), none⟩,
  ⟨(some 13), .mv (.tmp 0), none⟩,
  ⟨(some 14), .call (.func 80) [(.tmp 13)], none⟩,
  ⟨(some 15), .call (.func 118) [(.tmp 10), (.tmp 12), (.tmp 14)], none⟩,
  ⟨(some 16), .un .not (.tmp 15), none⟩])
 (.cond (.tmp 16) (.seq (.reg [⟨(some 17), .bsl 3 1 0 [] [], none⟩,
  ⟨(some 4), .mv (.tmp 17), none⟩,
  ⟨(some 5), .mv (.const (.bool false)), none⟩])
 (.ret)) (.skip)))
 (.seq (.reg [⟨(some 6), .mv (.const (.int .i64 0)), none⟩])
 (.seq (.reg [⟨(some 18), .bsl 3 1 0 [] [], none⟩,
  ⟨(some 7), .mv (.tmp 18), none⟩])
 (.seq (.seq (.reg [⟨(some 19), .mv (.tmp 1), none⟩,
  ⟨(some 20), .len (.tmp 19), none⟩,
  ⟨(some 21), .mv (.const (.int .i64 0)), none⟩])
 (.block 0 (.loop (.seq (.reg [⟨(some 22), .bin .lss (.tmp 21) (.tmp 20), none⟩])
 (.seq (.cond (.tmp 22) (.skip) (.exit 0))
 (.seq (.block 1 (.seq (.reg [⟨(some 23), .mv (.tmp 21), none⟩,
  ⟨(some 24), .iad 1 (.tmp 19) (.tmp 21), none⟩,
  ⟨(some 25), .ld none (.tmp 24), none⟩,
  ⟨(some 8), .mv (.tmp 23), none⟩,
  ⟨(some 9), .mv (.tmp 25), none⟩])
 (.seq (.reg [⟨(some 26), .mv (.tmp 6), none⟩,
  ⟨(some 27), .mv (.tmp 9), none⟩,
  ⟨(some 28), .mv (.tmp 0), none⟩,
  ⟨(some 29), .mv (.tmp 8), none⟩,
  ⟨(some 30), .iad 1 (.tmp 28) (.tmp 29), none⟩,
  ⟨(some 31), .ld none (.tmp 30), none⟩,
  ⟨(some 32), .bin .sub (.tmp 27) (.tmp 31), none⟩,
  ⟨(some 33), .bin .add (.tmp 26) (.tmp 32), none⟩,
  ⟨(some 6), .mv (.tmp 33), none⟩])
 (.reg [⟨(some 34), .mv (.tmp 7), none⟩,
  ⟨(some 35), .mv (.tmp 6), none⟩,
  ⟨(some 36), .bsl 3 1 1 [(.int .i64 0)] [(0, 1, (.tmp 35))], none⟩,
  ⟨(some 37), .app 3 1 8 (.tmp 34) (.tmp 36), none⟩,
  ⟨(some 7), .mv (.tmp 37), none⟩]))))
 (.reg [⟨(some 38), .bin .add (.tmp 21) (.const (.int .i64 1)), none⟩,
  ⟨(some 21), .mv (.tmp 38), none⟩])))))))
 (.seq (.seq (.reg [⟨(some 39), .mv (.tmp 6), none⟩,
  ⟨(some 40), .bin .neq (.tmp 39) (.const (.int .i64 0)), none⟩])
 (.cond (.tmp 40) (.seq (.reg [⟨(some 41), .bsl 3 1 0 [] [], none⟩,
  ⟨(some 4), .mv (.tmp 41), none⟩,
  ⟨(some 5), .mv (.const (.bool false)), none⟩])
 (.ret)) (.skip)))
 (.seq (.reg [⟨(some 42), .mv (.tmp 7), none⟩,
  ⟨(some 4), .mv (.tmp 42), none⟩,
  ⟨(some 5), .mv (.const (.bool true)), none⟩])
 (.ret)))))))
def r_impl_balancesFor : List ARes := [.tmp 4, .tmp 5]
theorem ok_impl_balancesFor : FnOk Try.prog 131 43 c_impl_balancesFor r_impl_balancesFor := ⟨⟨Try.f131, _, Try.func131, by kernel_rfl, rfl, rfl, by kernel_rfl, by kernel_rfl⟩⟩
def c_slices_ContainsFunc : ACode := .seq (.reg [⟨(some 4), .mv (.const (.bool false)), none⟩])
 (.seq (.reg [⟨(some 5), .mv (.tmp 0), none⟩,
  ⟨(some 6), .mv (.tmp 1), none⟩,
  ⟨(some 7), .call (.func 158) [(.tmp 5), (.tmp 6)], none⟩,
  ⟨(some 8), .bin .geq (.tmp 7) (.const (.int .i64 0)), none⟩,
  ⟨(some 4), .mv (.tmp 8), none⟩])
 (.ret))
def r_slices_ContainsFunc : List ARes := [.tmp 4]
theorem ok_slices_ContainsFunc : FnOk Try.prog 132 9 c_slices_ContainsFunc r_slices_ContainsFunc := ⟨⟨Try.f132, _, Try.func132, by kernel_rfl, rfl, rfl, by kernel_rfl, by kernel_rfl⟩⟩
def c_impl_isOwed : ACode := .seq (.reg [⟨(some 2), .mv (.const (.bool false)), none⟩])
 (.seq (.reg [⟨(some 3), .mv (.tmp 0), none⟩,
  ⟨(some 4), .bin .lss (.tmp 3) (.const (.int .i64 0)), none⟩,
  ⟨(some 2), .mv (.tmp 4), none⟩])
 (.ret))
def r_impl_isOwed : List ARes := [.tmp 2]
theorem ok_impl_isOwed : FnOk Try.prog 133 5 c_impl_isOwed r_impl_isOwed := ⟨⟨Try.f133, _, Try.func133, by kernel_rfl, rfl, rfl, by kernel_rfl, by kernel_rfl⟩⟩
def c_spec_l1Rising : ACode := .seq (.reg [⟨(some 6), .mv (.const (.bool false)), none⟩])
 (.seq (.seq (.reg [⟨(some 7), .mv (.const (.int .i64 0)), none⟩])
 (.block 0 (.loop (.seq (.seq (.reg [⟨(some 8), .mv (.tmp 7), none⟩,
  ⟨(some 9), .mv (.tmp 0), none⟩,
  ⟨(some 10), .len (.tmp 9), none⟩,
  ⟨(some 11), .bin .lss (.tmp 8) (.tmp 10), none⟩])
 (.cond (.tmp 11) (.skip) (.exit 0)))
 (.seq (.block 1 (.seq (.reg [⟨(some 14), .mv (.tmp 0), none⟩,
  ⟨(some 15), .mv (.tmp 7), none⟩,
  ⟨(some 16), .iad 1 (.tmp 14) (.tmp 15), none⟩,
  ⟨(some 17), .ld none (.tmp 16), none⟩,
  ⟨(some 18), .mv (.tmp 1), none⟩,
  ⟨(some 19), .mv (.tmp 2), none⟩,
  ⟨(some 20), .rcall (.func 73) [(.tmp 17), (.tmp 18), (.tmp 19)], none⟩,
  ⟨(some 21), .un .not (.tmp 20), none⟩,
  ⟨(some 22), .mv (.tmp 21), none⟩,
  ⟨(some 23), .mv (.tmp 7), (some (22, false))⟩,
  ⟨(some 24), .bin .gtr (.tmp 23) (.const (.int .i64 0)), (some (22, false))⟩,
  ⟨(some 25), .mv (.tmp 24), (some (22, false))⟩,
  ⟨(some 26), .mv (.tmp 0), (some (25, true))⟩,
  ⟨(some 27), .mv (.tmp 7), (some (25, true))⟩,
  ⟨(some 28), .bin .sub (.tmp 27) (.const (.int .i64 1)), (some (25, true))⟩,
  ⟨(some 29), .iad 1 (.tmp 26) (.tmp 28), (some (25, true))⟩,
  ⟨(some 30), .ld none (.tmp 29), (some (25, true))⟩,
  ⟨(some 31), .mv (.tmp 0), (some (25, true))⟩,
  ⟨(some 32), .mv (.tmp 7), (some (25, true))⟩,
  ⟨(some 33), .iad 1 (.tmp 31) (.tmp 32), (some (25, true))⟩,
  ⟨(some 34), .ld none (.tmp 33), (some (25, true))⟩,
  ⟨(some 35), .bin .geq (.tmp 30) (.tmp 34), (some (25, true))⟩,
  ⟨(some 36), .pick (.tmp 25) (.tmp 35) (.const (.bool false)), (some (22, false))⟩,
  ⟨(some 37), .pick (.tmp 22) (.const (.bool true)) (.tmp 36), none⟩])
 (.cond (.tmp 37) (.seq (.reg [⟨(some 6), .mv (.const (.bool false)), none⟩])
 (.ret)) (.skip))))
 (.reg [⟨(some 12), .mv (.tmp 7), none⟩,
  ⟨(some 13), .bin .add (.tmp 12) (.const (.int .i64 1)), none⟩,
  ⟨(some 7), .mv (.tmp 13), none⟩]))))))
 (.seq (.reg [⟨(some 6), .mv (.const (.bool true)), none⟩])
 (.ret)))
def r_spec_l1Rising : List ARes := [.tmp 6]
theorem ok_spec_l1Rising : FnOk Try.prog 134 38 c_spec_l1Rising r_spec_l1Rising := ⟨⟨Try.f134, _, Try.func134, by kernel_rfl, rfl, rfl, by kernel_rfl, by kernel_rfl⟩⟩
def c_spec_l7Within : ACode := .seq (.reg [⟨(some 4), .mv (.const (.bool false)), none⟩])
 (.seq (.seq (.reg [⟨(some 5), .mv (.const (.int .i64 0)), none⟩])
 (.block 0 (.loop (.seq (.seq (.reg [⟨(some 6), .mv (.tmp 5), none⟩,
  ⟨(some 7), .mv (.tmp 0), none⟩,
  ⟨(some 8), .len (.tmp 7), none⟩,
  ⟨(some 9), .bin .lss (.tmp 6) (.tmp 8), none⟩])
 (.cond (.tmp 9) (.skip) (.exit 0)))
 (.seq (.block 1 (.seq (.reg [⟨(some 12), .mv (.tmp 1), none⟩,
  ⟨(some 13), .mv (.tmp 0), none⟩,
  ⟨(some 14), .mv (.tmp 5), none⟩,
  ⟨(some 15), .iad 1 (.tmp 13) (.tmp 14), none⟩,
  ⟨(some 16), .ld none (.tmp 15), none⟩,
  ⟨(some 17), .call (.func 159) [(.tmp 12), (.tmp 16)], none⟩,
  ⟨(some 18), .un .not (.tmp 17), none⟩])
 (.cond (.tmp 18) (.seq (.reg [⟨(some 4), .mv (.const (.bool false)), none⟩])
 (.ret)) (.skip))))
 (.reg [⟨(some 10), .mv (.tmp 5), none⟩,
  ⟨(some 11), .bin .add (.tmp 10) (.const (.int .i64 1)), none⟩,
  ⟨(some 5), .mv (.tmp 11), none⟩]))))))
 (.seq (.reg [⟨(some 4), .mv (.const (.bool true)), none⟩])
 (.ret)))
def r_spec_l7Within : List ARes := [.tmp 4]
theorem ok_spec_l7Within : FnOk Try.prog 135 19 c_spec_l7Within r_spec_l7Within := ⟨⟨Try.f135, _, Try.func135, by kernel_rfl, rfl, rfl, by kernel_rfl, by kernel_rfl⟩⟩
def c_impl_isAscending : ACode := .seq (.reg [⟨(some 4), .mv (.const (.bool false)), none⟩])
 (.seq (.reg [⟨(some 5), .mv (.const (.int .i64 0)), none⟩])
 (.seq (.seq (.reg [⟨(some 8), .mv (.tmp 0), none⟩,
  ⟨(some 9), .len (.tmp 8), none⟩,
  ⟨(some 10), .mv (.const (.int .i64 0)), none⟩])
 (.block 0 (.loop (.seq (.reg [⟨(some 11), .bin .lss (.tmp 10) (.tmp 9), none⟩])
 (.seq (.cond (.tmp 11) (.skip) (.exit 0))
 (.seq (.block 1 (.seq (.reg [⟨(some 12), .iad 1 (.tmp 8) (.tmp 10), none⟩,
  ⟨(some 13), .ld none (.tmp 12), none⟩,
  ⟨(some 7), .mv (.tmp 13), none⟩])
 (.seq (.seq (.reg [⟨(some 14), .mv (.tmp 7), none⟩,
  ⟨(some 15), .mv (.tmp 5), none⟩,
  ⟨(some 16), .bin .lss (.tmp 14) (.tmp 15), none⟩,
  ⟨(some 17), .mv (.tmp 16), none⟩,
  ⟨(some 18), .mv (.tmp 7), (some (17, false))⟩,
  ⟨(some 19), .mv (.tmp 1), (some (17, false))⟩,
  ⟨(some 20), .bin .geq (.tmp 18) (.tmp 19), (some (17, false))⟩,
  ⟨(some 21), .pick (.tmp 17) (.const (.bool true)) (.tmp 20), none⟩])
 (.cond (.tmp 21) (.seq (.reg [⟨(some 4), .mv (.const (.bool false)), none⟩])
 (.ret)) (.skip)))
 (.reg [⟨(some 22), .mv (.tmp 7), none⟩,
  ⟨(some 23), .bin .add (.tmp 22) (.const (.int .i64 1)), none⟩,
  ⟨(some 5), .mv (.tmp 23), none⟩]))))
 (.reg [⟨(some 24), .bin .add (.tmp 10) (.const (.int .i64 1)), none⟩,
  ⟨(some 10), .mv (.tmp 24), none⟩])))))))
 (.seq (.reg [⟨(some 4), .mv (.const (.bool true)), none⟩])
 (.ret))))
def r_impl_isAscending : List ARes := [.tmp 4]
theorem ok_impl_isAscending : FnOk Try.prog 136 25 c_impl_isAscending r_impl_isAscending := ⟨⟨Try.f136, _, Try.func136, by kernel_rfl, rfl, rfl, by kernel_rfl, by kernel_rfl⟩⟩
def c_slices_Backward : ACode := .seq (.reg [⟨(some 1), .box 24 (.tmp 0), none⟩,
  ⟨(some 2), .mv (.const .nilFunc), none⟩])
 (.seq (.reg [⟨(some 3), .mkf 160 [] [(.tmp 1)], none⟩,
  ⟨(some 2), .mv (.tmp 3), none⟩])
 (.ret))
def r_slices_Backward : List ARes := [.tmp 2]
theorem ok_slices_Backward : FnOk Try.prog 137 4 c_slices_Backward r_slices_Backward := ⟨⟨Try.f137, _, Try.func137, by kernel_rfl, rfl, rfl, by kernel_rfl, by kernel_rfl⟩⟩
def c_impl_hasAll_1 : ACode := .seq (.reg [⟨(some 3), .mv (.const (.bool false)), none⟩])
 (.seq (.reg [⟨(some 4), .ld none (.tmp 1), none⟩,
  ⟨(some 5), .mv (.tmp 0), none⟩,
  ⟨(some 6), .call (.func 139) [(.tmp 4), (.tmp 5)], none⟩,
  ⟨(some 7), .un .not (.tmp 6), none⟩,
  ⟨(some 3), .mv (.tmp 7), none⟩])
 (.ret))
def r_impl_hasAll_1 : List ARes := [.tmp 3]
theorem ok_impl_hasAll_1 : FnOk Try.prog 138 8 c_impl_hasAll_1 r_impl_hasAll_1 := ⟨⟨Try.f138, _, Try.func138, by kernel_rfl, rfl, rfl, by kernel_rfl, by kernel_rfl⟩⟩
def c_slices_Contains : ACode := .seq (.reg [⟨(some 4), .mv (.const (.bool false)), none⟩])
 (.seq (.reg [⟨(some 5), .mv (.tmp 0), none⟩,
  ⟨(some 6), .mv (.tmp 1), none⟩,
  ⟨(some 7), .call (.func 161) [(.tmp 5), (.tmp 6)], none⟩,
  ⟨(some 8), .bin .geq (.tmp 7) (.const (.int .i64 0)), none⟩,
  ⟨(some 4), .mv (.tmp 8), none⟩])
 (.ret))
def r_slices_Contains : List ARes := [.tmp 4]
theorem ok_slices_Contains : FnOk Try.prog 139 9 c_slices_Contains r_slices_Contains := ⟨⟨Try.f139, _, Try.func139, by kernel_rfl, rfl, rfl, by kernel_rfl, by kernel_rfl⟩⟩
def c_spec_l7Many : ACode := .seq (.reg [⟨(some 2), .mv (.const (.int .i64 0)), none⟩])
 (.seq (.reg [⟨(some 3), .mv (.const (.int .i64 0)), none⟩])
 (.seq (.seq (.reg [⟨(some 4), .mv (.const (.int .i64 0)), none⟩])
 (.block 0 (.loop (.seq (.seq (.reg [⟨(some 5), .mv (.tmp 4), none⟩,
  ⟨(some 6), .mv (.tmp 0), none⟩,
  ⟨(some 7), .len (.tmp 6), none⟩,
  ⟨(some 8), .bin .lss (.tmp 5) (.tmp 7), none⟩])
 (.cond (.tmp 8) (.skip) (.exit 0)))
 (.seq (.block 1 (.reg [⟨(some 11), .mv (.tmp 3), none⟩,
  ⟨(some 12), .mv (.tmp 0), none⟩,
  ⟨(some 13), .mv (.tmp 4), none⟩,
  ⟨(some 14), .iad 1 (.tmp 12) (.tmp 13), none⟩,
  ⟨(some 15), .ld none (.tmp 14), none⟩,
  ⟨(some 16), .len (.tmp 15), none⟩,
  ⟨(some 17), .bin .add (.tmp 11) (.tmp 16), none⟩,
  ⟨(some 3), .mv (.tmp 17), none⟩]))
 (.reg [⟨(some 9), .mv (.tmp 4), none⟩,
  ⟨(some 10), .bin .add (.tmp 9) (.const (.int .i64 1)), none⟩,
  ⟨(some 4), .mv (.tmp 10), none⟩]))))))
 (.seq (.reg [⟨(some 18), .mv (.tmp 3), none⟩,
  ⟨(some 2), .mv (.tmp 18), none⟩])
 (.ret))))
def r_spec_l7Many : List ARes := [.tmp 2]
theorem ok_spec_l7Many : FnOk Try.prog 140 19 c_spec_l7Many r_spec_l7Many := ⟨⟨Try.f140, _, Try.func140, by kernel_rfl, rfl, rfl, by kernel_rfl, by kernel_rfl⟩⟩
def c_spec_l7Less : ACode := .seq (.reg [⟨(some 4), .mv (.const (.bool false)), none⟩])
 (.seq (.seq (.reg [⟨(some 5), .mv (.const (.int .i64 0)), none⟩])
 (.block 0 (.loop (.seq (.seq (.reg [⟨(some 7), .mv (.tmp 5), none⟩,
  ⟨(some 8), .mv (.tmp 0), none⟩,
  ⟨(some 9), .len (.tmp 8), none⟩,
  ⟨(some 10), .bin .lss (.tmp 7) (.tmp 9), none⟩])
 (.cond (.tmp 10) (.skip) (.exit 0)))
 (.seq (.block 1 (.seq (.seq (.reg [⟨(some 6), .mv (.const (.int .i64 0)), none⟩])
 (.block 2 (.loop (.seq (.seq (.reg [⟨(some 13), .mv (.tmp 6), none⟩,
  ⟨(some 14), .mv (.tmp 0), none⟩,
  ⟨(some 15), .mv (.tmp 5), none⟩,
  ⟨(some 16), .iad 1 (.tmp 14) (.tmp 15), none⟩,
  ⟨(some 17), .ld none (.tmp 16), none⟩,
  ⟨(some 18), .len (.tmp 17), none⟩,
  ⟨(some 19), .bin .lss (.tmp 13) (.tmp 18), none⟩,
  ⟨(some 20), .mv (.tmp 19), none⟩,
  ⟨(some 21), .mv (.tmp 6), (some (20, true))⟩,
  ⟨(some 22), .mv (.tmp 1), (some (20, true))⟩,
  ⟨(some 23), .mv (.tmp 5), (some (20, true))⟩,
  ⟨(some 24), .iad 1 (.tmp 22) (.tmp 23), (some (20, true))⟩,
  ⟨(some 25), .ld none (.tmp 24), (some (20, true))⟩,
  ⟨(some 26), .len (.tmp 25), (some (20, true))⟩,
  ⟨(some 27), .bin .lss (.tmp 21) (.tmp 26), (some (20, true))⟩,
  ⟨(some 28), .pick (.tmp 20) (.tmp 27) (.const (.bool false)), none⟩])
 (.cond (.tmp 28) (.skip) (.exit 2)))
 (.seq (.block 3 (.seq (.reg [⟨(some 31), .mv (.tmp 0), none⟩,
  ⟨(some 32), .mv (.tmp 5), none⟩,
  ⟨(some 33), .iad 1 (.tmp 31) (.tmp 32), none⟩,
  ⟨(some 34), .ld none (.tmp 33), none⟩,
  ⟨(some 35), .mv (.tmp 6), none⟩,
  ⟨(some 36), .iad 1 (.tmp 34) (.tmp 35), none⟩,
  ⟨(some 37), .ld none (.tmp 36), none⟩,
  ⟨(some 38), .mv (.tmp 1), none⟩,
  ⟨(some 39), .mv (.tmp 5), none⟩,
  ⟨(some 40), .iad 1 (.tmp 38) (.tmp 39), none⟩,
  ⟨(some 41), .ld none (.tmp 40), none⟩,
  ⟨(some 42), .mv (.tmp 6), none⟩,
  ⟨(some 43), .iad 1 (.tmp 41) (.tmp 42), none⟩,
  ⟨(some 44), .ld none (.tmp 43), none⟩,
  ⟨(some 45), .bin .neq (.tmp 37) (.tmp 44), none⟩])
 (.cond (.tmp 45) (.seq (.reg [⟨(some 46), .mv (.tmp 0), none⟩,
  ⟨(some 47), .mv (.tmp 5), none⟩,
  ⟨(some 48), .iad 1 (.tmp 46) (.tmp 47), none⟩,
  ⟨(some 49), .ld none (.tmp 48), none⟩,
  ⟨(some 50), .mv (.tmp 6), none⟩,
  ⟨(some 51), .iad 1 (.tmp 49) (.tmp 50), none⟩,
  ⟨(some 52), .ld none (.tmp 51), none⟩,
  ⟨(some 53), .mv (.tmp 1), none⟩,
  ⟨(some 54), .mv (.tmp 5), none⟩,
  ⟨(some 55), .iad 1 (.tmp 53) (.tmp 54), none⟩,
  ⟨(some 56), .ld none (.tmp 55), none⟩,
  ⟨(some 57), .mv (.tmp 6), none⟩,
  ⟨(some 58), .iad 1 (.tmp 56) (.tmp 57), none⟩,
  ⟨(some 59), .ld none (.tmp 58), none⟩,
  ⟨(some 60), .bin .lss (.tmp 52) (.tmp 59), none⟩,
  ⟨(some 4), .mv (.tmp 60), none⟩])
 (.ret)) (.skip))))
 (.reg [⟨(some 29), .mv (.tmp 6), none⟩,
  ⟨(some 30), .bin .add (.tmp 29) (.const (.int .i64 1)), none⟩,
  ⟨(some 6), .mv (.tmp 30), none⟩]))))))
 (.seq (.reg [⟨(some 61), .mv (.tmp 0), none⟩,
  ⟨(some 62), .mv (.tmp 5), none⟩,
  ⟨(some 63), .iad 1 (.tmp 61) (.tmp 62), none⟩,
  ⟨(some 64), .ld none (.tmp 63), none⟩,
  ⟨(some 65), .len (.tmp 64), none⟩,
  ⟨(some 66), .mv (.tmp 1), none⟩,
  ⟨(some 67), .mv (.tmp 5), none⟩,
  ⟨(some 68), .iad 1 (.tmp 66) (.tmp 67), none⟩,
  ⟨(some 69), .ld none (.tmp 68), none⟩,
  ⟨(some 70), .len (.tmp 69), none⟩,
  ⟨(some 71), .bin .neq (.tmp 65) (.tmp 70), none⟩])
 (.cond (.tmp 71) (.seq (.reg [⟨(some 72), .mv (.tmp 0), none⟩,
  ⟨(some 73), .mv (.tmp 5), none⟩,
  ⟨(some 74), .iad 1 (.tmp 72) (.tmp 73), none⟩,
  ⟨(some 75), .ld none (.tmp 74), none⟩,
  ⟨(some 76), .len (.tmp 75), none⟩,
  ⟨(some 77), .mv (.tmp 1), none⟩,
  ⟨(some 78), .mv (.tmp 5), none⟩,
  ⟨(some 79), .iad 1 (.tmp 77) (.tmp 78), none⟩,
  ⟨(some 80), .ld none (.tmp 79), none⟩,
  ⟨(some 81), .len (.tmp 80), none⟩,
  ⟨(some 82), .bin .lss (.tmp 76) (.tmp 81), none⟩,
  ⟨(some 4), .mv (.tmp 82), none⟩])
 (.ret)) (.skip)))))
 (.reg [⟨(some 11), .mv (.tmp 5), none⟩,
  ⟨(some 12), .bin .add (.tmp 11) (.const (.int .i64 1)), none⟩,
  ⟨(some 5), .mv (.tmp 12), none⟩]))))))
 (.seq (.reg [⟨(some 4), .mv (.const (.bool false)), none⟩])
 (.ret)))
def r_spec_l7Less : List ARes := [.tmp 4]
theorem ok_spec_l7Less : FnOk Try.prog 141 83 c_spec_l7Less r_spec_l7Less := ⟨⟨Try.f141, _, Try.func141, by kernel_rfl, rfl, rfl, by kernel_rfl, by kernel_rfl⟩⟩
def c_spec_l7Give : ACode := .seq (.reg [⟨(some 5), .box 26 (.tmp 0), none⟩,
  ⟨(some 10), .mv (.const (.int .i64 0)), none⟩])
 (.seq (.seq (.reg [⟨(some 15), .fad 0 (.tmp 5), none⟩,
  ⟨(some 16), .ld none (.tmp 15), none⟩,
  ⟨(some 17), .mv (.tmp 3), none⟩,
  ⟨(some 18), .mv (.tmp 4), none⟩,
  ⟨(some 19), .slc 1 (.tmp 16) (some (.tmp 17)) (some (.tmp 18)), none⟩,
  ⟨(some 20), .call (.func 125) [(.tmp 19)], none⟩,
  ⟨(some 21), .bin .eql (.tmp 20) (.const (.int .i64 0)), none⟩])
 (.cond (.tmp 21) (.seq (.reg [⟨(some 10), .mv (.const (.int .i64 0)), none⟩])
 (.ret)) (.skip)))
 (.seq (.reg [⟨(some 11), .mv (.const (.int .i64 (-1))), none⟩])
 (.seq (.seq (.reg [⟨(some 22), .mv (.tmp 3), none⟩,
  ⟨(some 12), .mv (.tmp 22), none⟩])
 (.block 0 (.loop (.seq (.seq (.reg [⟨(some 23), .mv (.tmp 12), none⟩,
  ⟨(some 24), .mv (.tmp 4), none⟩,
  ⟨(some 25), .bin .leq (.tmp 23) (.tmp 24), none⟩])
 (.cond (.tmp 25) (.skip) (.exit 0)))
 (.seq (.block 1 (.seq (.reg [⟨(some 13), .mv (.const (.int .i64 0)), none⟩])
 (.seq (.seq (.reg [⟨(some 28), .mv (.tmp 1), none⟩,
  ⟨(some 29), .bin .add (.tmp 28) (.const (.int .i64 1)), none⟩,
  ⟨(some 30), .fad 1 (.tmp 5), none⟩,
  ⟨(some 31), .ld none (.tmp 30), none⟩,
  ⟨(some 32), .len (.tmp 31), none⟩,
  ⟨(some 33), .bin .lss (.tmp 29) (.tmp 32), none⟩])
 (.cond (.tmp 33) (.seq (.reg [⟨(some 34), .fad 0 (.tmp 5), none⟩,
  ⟨(some 35), .ld none (.tmp 34), none⟩,
  ⟨(some 36), .mv (.tmp 3), none⟩,
  ⟨(some 37), .mv (.tmp 12), none⟩,
  ⟨(some 38), .slc 1 (.tmp 35) (some (.tmp 36)) (some (.tmp 37)), none⟩,
  ⟨(some 39), .call (.func 125) [(.tmp 38)], none⟩,
  ⟨(some 40), .bin .gtr (.tmp 39) (.const (.int .i64 0)), none⟩])
 (.cond (.tmp 40) (.reg [⟨(some 41), .fad 1 (.tmp 5), none⟩,
  ⟨(some 42), .ld none (.tmp 41), none⟩,
  ⟨(some 43), .mv (.tmp 1), none⟩,
  ⟨(some 44), .bin .add (.tmp 43) (.const (.int .i64 1)), none⟩,
  ⟨(some 45), .iad 1 (.tmp 42) (.tmp 44), none⟩,
  ⟨(some 46), .ld none (.tmp 45), none⟩,
  ⟨(some 47), .ld (some 3) (.tmp 5), none⟩,
  ⟨(some 48), .mv (.tmp 1), none⟩,
  ⟨(some 49), .bin .add (.tmp 48) (.const (.int .i64 1)), none⟩,
  ⟨(some 50), .mv (.tmp 2), none⟩,
  ⟨(some 51), .mv (.tmp 3), none⟩,
  ⟨(some 52), .mv (.tmp 12), none⟩,
  ⟨(some 53), .rcall (.func 142) [(.tmp 47), (.tmp 49), (.tmp 50), (.tmp 51), (.tmp 52)], none⟩,
  ⟨(some 54), .bin .add (.tmp 46) (.tmp 53), none⟩,
  ⟨(some 13), .mv (.tmp 54), none⟩]) (.skip))) (.seq (.reg [⟨(some 55), .mv (.tmp 12), none⟩,
  ⟨(some 56), .mv (.tmp 3), none⟩,
  ⟨(some 57), .bin .add (.tmp 56) (.const (.int .i64 1)), none⟩,
  ⟨(some 58), .bin .gtr (.tmp 55) (.tmp 57), none⟩,
  ⟨(some 59), .mv (.tmp 58), none⟩,
  ⟨(some 60), .mv (.tmp 12), (some (59, false))⟩,
  ⟨(some 61), .mv (.tmp 3), (some (59, false))⟩,
  ⟨(some 62), .bin .gtr (.tmp 60) (.tmp 61), (some (59, false))⟩,
  ⟨(some 63), .mv (.tmp 62), (some (59, false))⟩,
  ⟨(some 64), .mv (.tmp 3), (some (63, true))⟩,
  ⟨(some 65), .mv (.tmp 2), (some (63, true))⟩,
  ⟨(some 66), .bin .gtr (.tmp 64) (.tmp 65), (some (63, true))⟩,
  ⟨(some 67), .pick (.tmp 63) (.tmp 66) (.const (.bool false)), (some (59, false))⟩,
  ⟨(some 68), .pick (.tmp 59) (.const (.bool true)) (.tmp 67), none⟩,
  ⟨(some 69), .mv (.tmp 68), none⟩,
  ⟨(some 70), .mv (.tmp 12), (some (69, false))⟩,
  ⟨(some 71), .mv (.tmp 3), (some (69, false))⟩,
  ⟨(some 72), .bin .eql (.tmp 70) (.tmp 71), (some (69, false))⟩,
  ⟨(some 73), .mv (.tmp 72), (some (69, false))⟩,
  ⟨(some 74), .mv (.tmp 3), (some (73, true))⟩,
  ⟨(some 75), .mv (.tmp 2), (some (73, true))⟩,
  ⟨(some 76), .bin .eql (.tmp 74) (.tmp 75), (some (73, true))⟩,
  ⟨(some 77), .pick (.tmp 73) (.tmp 76) (.const (.bool false)), (some (69, false))⟩,
  ⟨(some 78), .pick (.tmp 69) (.const (.bool true)) (.tmp 77), none⟩])
 (.cond (.tmp 78) (.exit 1) (.skip)))))
 (.seq (.seq (.reg [⟨(some 79), .fad 0 (.tmp 5), none⟩,
  ⟨(some 80), .ld none (.tmp 79), none⟩,
  ⟨(some 81), .mv (.tmp 12), none⟩,
  ⟨(some 82), .mv (.tmp 4), none⟩,
  ⟨(some 83), .slc 1 (.tmp 80) (some (.tmp 81)) (some (.tmp 82)), none⟩,
  ⟨(some 84), .call (.func 125) [(.tmp 83)], none⟩,
  ⟨(some 14), .mv (.tmp 84), none⟩])
 (.seq (.reg [⟨(some 85), .mv (.tmp 14), none⟩,
  ⟨(some 86), .bin .gtr (.tmp 85) (.const (.int .i64 0)), none⟩])
 (.cond (.tmp 86) (.seq (.seq (.reg [⟨(some 87), .mv (.tmp 2), none⟩,
  ⟨(some 88), .bin .add (.tmp 87) (.const (.int .i64 1)), none⟩,
  ⟨(some 89), .mv (.tmp 12), none⟩,
  ⟨(some 90), .bin .gtr (.tmp 88) (.tmp 89), none⟩])
 (.cond (.tmp 90) (.exit 1) (.skip)))
 (.reg [⟨(some 91), .mv (.tmp 13), none⟩,
  ⟨(some 92), .fad 2 (.tmp 5), none⟩,
  ⟨(some 93), .ld none (.tmp 92), none⟩,
  ⟨(some 94), .mv (.tmp 1), none⟩,
  ⟨(some 95), .iad 1 (.tmp 93) (.tmp 94), none⟩,
  ⟨(some 96), .ld none (.tmp 95), none⟩,
  ⟨(some 97), .mv (.tmp 14), none⟩,
  ⟨(some 98), .bin .mul (.tmp 96) (.tmp 97), none⟩,
  ⟨(some 99), .bin .add (.tmp 91) (.tmp 98), none⟩,
  ⟨(some 100), .ld (some 3) (.tmp 5), none⟩,
  ⟨(some 101), .mv (.tmp 1), none⟩,
  ⟨(some 102), .mv (.tmp 2), none⟩,
  ⟨(some 103), .bin .add (.tmp 102) (.const (.int .i64 1)), none⟩,
  ⟨(some 104), .mv (.tmp 12), none⟩,
  ⟨(some 105), .mv (.tmp 4), none⟩,
  ⟨(some 106), .rcall (.func 142) [(.tmp 100), (.tmp 101), (.tmp 103), (.tmp 104), (.tmp 105)], none⟩,
  ⟨(some 107), .bin .add (.tmp 99) (.tmp 106), none⟩,
  ⟨(some 13), .mv (.tmp 107), none⟩])) (.skip))))
 (.seq (.reg [⟨(some 108), .mv (.tmp 11), none⟩,
  ⟨(some 109), .bin .lss (.tmp 108) (.const (.int .i64 0)), none⟩,
  ⟨(some 110), .mv (.tmp 109), none⟩,
  ⟨(some 111), .mv (.tmp 13), (some (110, false))⟩,
  ⟨(some 112), .mv (.tmp 11), (some (110, false))⟩,
  ⟨(some 113), .bin .lss (.tmp 111) (.tmp 112), (some (110, false))⟩,
  ⟨(some 114), .pick (.tmp 110) (.const (.bool true)) (.tmp 113), none⟩])
 (.cond (.tmp 114) (.reg [⟨(some 115), .mv (.tmp 13), none⟩,
  ⟨(some 11), .mv (.tmp 115), none⟩]) (.skip)))))))
 (.reg [⟨(some 26), .mv (.tmp 12), none⟩,
  ⟨(some 27), .bin .add (.tmp 26) (.const (.int .i64 1)), none⟩,
  ⟨(some 12), .mv (.tmp 27), none⟩]))))))
 (.seq (.reg [⟨(some 116), .mv (.tmp 11), none⟩,
  ⟨(some 10), .mv (.tmp 116), none⟩])
 (.ret)))))
def r_spec_l7Give : List ARes := [.tmp 10]
theorem ok_spec_l7Give : FnOk Try.prog 142 117 c_spec_l7Give r_spec_l7Give := ⟨⟨Try.f142, _, Try.func142, by kernel_rfl, rfl, rfl, by kernel_rfl, by kernel_rfl⟩⟩
def c_spec_l2Cost : ACode := .seq (.reg [⟨(some 2), .box 30 (.tmp 0), none⟩,
  ⟨(some 4), .mv (.const (.int .i64 0)), none⟩])
 (.seq (.reg [⟨(some 6), .ld (some 4) (.tmp 2), none⟩,
  ⟨(some 7), .mv (.tmp 1), none⟩,
  ⟨(some 8), .call (.func 162) [(.tmp 6), (.tmp 7)], none⟩,
  ⟨(some 5), .alc 162 [(.int .i64 0), (.int .i64 0), (.int .i64 0)], none⟩,
  ⟨none, .st 3 (.tmp 5) (.tmp 8), none⟩])
 (.seq (.reg [⟨(some 9), .iada 1 3 (.tmp 5) (.const (.int .i64 0)), none⟩,
  ⟨(some 10), .ld none (.tmp 9), none⟩,
  ⟨(some 11), .iada 1 3 (.tmp 5) (.const (.int .i64 1)), none⟩,
  ⟨(some 12), .ld none (.tmp 11), none⟩,
  ⟨(some 13), .bin .add (.tmp 10) (.tmp 12), none⟩,
  ⟨(some 14), .iada 1 3 (.tmp 5) (.const (.int .i64 2)), none⟩,
  ⟨(some 15), .ld none (.tmp 14), none⟩,
  ⟨(some 16), .bin .add (.tmp 13) (.tmp 15), none⟩,
  ⟨(some 4), .mv (.tmp 16), none⟩])
 (.ret)))
def r_spec_l2Cost : List ARes := [.tmp 4]
theorem ok_spec_l2Cost : FnOk Try.prog 143 17 c_spec_l2Cost r_spec_l2Cost := ⟨⟨Try.f143, _, Try.func143, by kernel_rfl, rfl, rfl, by kernel_rfl, by kernel_rfl⟩⟩
def c_spec_l2Covers : ACode := .seq (.reg [⟨(some 2), .box 30 (.tmp 0), none⟩,
  ⟨(some 4), .mv (.const (.bool false)), none⟩])
 (.seq (.seq (.reg [⟨(some 5), .mv (.const (.int .i64 0)), none⟩])
 (.block 0 (.loop (.seq (.seq (.reg [⟨(some 6), .mv (.tmp 5), none⟩,
  ⟨(some 7), .fad 0 (.tmp 2), none⟩,
  ⟨(some 8), .ld none (.tmp 7), none⟩,
  ⟨(some 9), .len (.tmp 8), none⟩,
  ⟨(some 10), .bin .lss (.tmp 6) (.tmp 9), none⟩])
 (.cond (.tmp 10) (.skip) (.exit 0)))
 (.seq (.block 1 (.seq (.seq (.reg [⟨(some 13), .mv (.tmp 1), none⟩,
  ⟨(some 14), .len (.tmp 13), none⟩,
  ⟨(some 15), .bin .gtr (.tmp 14) (.const (.int .i64 0)), none⟩,
  ⟨(some 16), .mv (.tmp 15), none⟩,
  ⟨(some 17), .mv (.tmp 1), (some (16, true))⟩,
  ⟨(some 18), .iad 1 (.tmp 17) (.const (.int .i64 0)), (some (16, true))⟩,
  ⟨(some 19), .ld none (.tmp 18), (some (16, true))⟩,
  ⟨(some 20), .mv (.tmp 5), (some (16, true))⟩,
  ⟨(some 21), .bin .leq (.tmp 19) (.tmp 20), (some (16, true))⟩,
  ⟨(some 22), .pick (.tmp 16) (.tmp 21) (.const (.bool false)), none⟩])
 (.cond (.tmp 22) (.seq (.reg [⟨(some 4), .mv (.const (.bool true)), none⟩])
 (.ret)) (.skip)))
 (.seq (.reg [⟨(some 23), .fad 0 (.tmp 2), none⟩,
  ⟨(some 24), .ld none (.tmp 23), none⟩,
  ⟨(some 25), .mv (.tmp 5), none⟩,
  ⟨(some 26), .iad 1 (.tmp 24) (.tmp 25), none⟩,
  ⟨(some 27), .ld none (.tmp 26), none⟩,
  ⟨(some 28), .bin .gtr (.tmp 27) (.const (.int .i64 0)), none⟩])
 (.cond (.tmp 28) (.seq (.reg [⟨(some 4), .mv (.const (.bool false)), none⟩])
 (.ret)) (.skip)))))
 (.reg [⟨(some 11), .mv (.tmp 5), none⟩,
  ⟨(some 12), .bin .add (.tmp 11) (.const (.int .i64 1)), none⟩,
  ⟨(some 5), .mv (.tmp 12), none⟩]))))))
 (.seq (.reg [⟨(some 4), .mv (.const (.bool true)), none⟩])
 (.ret)))
def r_spec_l2Covers : List ARes := [.tmp 4]
theorem ok_spec_l2Covers : FnOk Try.prog 144 29 c_spec_l2Covers r_spec_l2Covers := ⟨⟨Try.f144, _, Try.func144, by kernel_rfl, rfl, rfl, by kernel_rfl, by kernel_rfl⟩⟩
def c_spec_l2Before : ACode := .seq (.reg [⟨(some 4), .mv (.const (.bool false)), none⟩])
 (.seq (.seq (.reg [⟨(some 6), .mv (.tmp 0), none⟩,
  ⟨(some 7), .len (.tmp 6), none⟩,
  ⟨(some 8), .mv (.tmp 1), none⟩,
  ⟨(some 9), .len (.tmp 8), none⟩,
  ⟨(some 10), .bin .neq (.tmp 7) (.tmp 9), none⟩])
 (.cond (.tmp 10) (.seq (.reg [⟨(some 11), .mv (.tmp 0), none⟩,
  ⟨(some 12), .len (.tmp 11), none⟩,
  ⟨(some 13), .mv (.tmp 1), none⟩,
  ⟨(some 14), .len (.tmp 13), none⟩,
  ⟨(some 15), .bin .lss (.tmp 12) (.tmp 14), none⟩,
  ⟨(some 4), .mv (.tmp 15), none⟩])
 (.ret)) (.skip)))
 (.seq (.seq (.reg [⟨(some 5), .mv (.const (.int .i64 0)), none⟩])
 (.block 0 (.loop (.seq (.seq (.reg [⟨(some 16), .mv (.tmp 5), none⟩,
  ⟨(some 17), .mv (.tmp 0), none⟩,
  ⟨(some 18), .len (.tmp 17), none⟩,
  ⟨(some 19), .bin .lss (.tmp 16) (.tmp 18), none⟩])
 (.cond (.tmp 19) (.skip) (.exit 0)))
 (.seq (.block 1 (.seq (.reg [⟨(some 22), .mv (.tmp 0), none⟩,
  ⟨(some 23), .mv (.tmp 5), none⟩,
  ⟨(some 24), .iad 1 (.tmp 22) (.tmp 23), none⟩,
  ⟨(some 25), .ld none (.tmp 24), none⟩,
  ⟨(some 26), .mv (.tmp 1), none⟩,
  ⟨(some 27), .mv (.tmp 5), none⟩,
  ⟨(some 28), .iad 1 (.tmp 26) (.tmp 27), none⟩,
  ⟨(some 29), .ld none (.tmp 28), none⟩,
  ⟨(some 30), .bin .neq (.tmp 25) (.tmp 29), none⟩])
 (.cond (.tmp 30) (.seq (.reg [⟨(some 31), .mv (.tmp 0), none⟩,
  ⟨(some 32), .mv (.tmp 5), none⟩,
  ⟨(some 33), .iad 1 (.tmp 31) (.tmp 32), none⟩,
  ⟨(some 34), .ld none (.tmp 33), none⟩,
  ⟨(some 35), .mv (.tmp 1), none⟩,
  ⟨(some 36), .mv (.tmp 5), none⟩,
  ⟨(some 37), .iad 1 (.tmp 35) (.tmp 36), none⟩,
  ⟨(some 38), .ld none (.tmp 37), none⟩,
  ⟨(some 39), .bin .lss (.tmp 34) (.tmp 38), none⟩,
  ⟨(some 4), .mv (.tmp 39), none⟩])
 (.ret)) (.skip))))
 (.reg [⟨(some 20), .mv (.tmp 5), none⟩,
  ⟨(some 21), .bin .add (.tmp 20) (.const (.int .i64 1)), none⟩,
  ⟨(some 5), .mv (.tmp 21), none⟩]))))))
 (.seq (.reg [⟨(some 4), .mv (.const (.bool false)), none⟩])
 (.ret))))
def r_spec_l2Before : List ARes := [.tmp 4]
theorem ok_spec_l2Before : FnOk Try.prog 145 40 c_spec_l2Before r_spec_l2Before := ⟨⟨Try.f145, _, Try.func145, by kernel_rfl, rfl, rfl, by kernel_rfl, by kernel_rfl⟩⟩
def c_impl_isRow_1 : ACode := .seq (.reg [⟨(some 3), .mv (.const (.bool false)), none⟩])
 (.seq (.reg [⟨(some 4), .mv (.tmp 0), none⟩,
  ⟨(some 5), .ld none (.tmp 1), none⟩,
  ⟨(some 6), .call (.func 70) [(.tmp 4), (.tmp 5)], none⟩,
  ⟨(some 7), .un .not (.tmp 6), none⟩,
  ⟨(some 3), .mv (.tmp 7), none⟩])
 (.ret))
def r_impl_isRow_1 : List ARes := [.tmp 3]
theorem ok_impl_isRow_1 : FnOk Try.prog 146 8 c_impl_isRow_1 r_impl_isRow_1 := ⟨⟨Try.f146, _, Try.func146, by kernel_rfl, rfl, rfl, by kernel_rfl, by kernel_rfl⟩⟩
def c_impl_CostParts : ACode := .seq (.reg [⟨(some 2), .box 30 (.tmp 0), none⟩,
  ⟨(some 4), .mv (.const (.int .i64 0)), none⟩,
  ⟨(some 5), .mv (.const (.int .i64 0)), none⟩,
  ⟨(some 6), .mv (.const (.int .i64 0)), none⟩,
  ⟨(some 7), .mv (.const (.bool false)), none⟩])
 (.seq (.reg [⟨(some 16), .ld (some 4) (.tmp 2), none⟩,
  ⟨(some 17), .mv (.tmp 1), none⟩,
  ⟨(some 18), .call (.func 163) [(.tmp 16), (.tmp 17)], none⟩,
  ⟨(some 15), .mv (.tmp 18), none⟩,
  ⟨(some 19), .ext 0 (.tmp 15), none⟩,
  ⟨(some 20), .ext 1 (.tmp 15), none⟩,
  ⟨(some 8), .mv (.tmp 19), none⟩,
  ⟨(some 9), .mv (.tmp 20), none⟩])
 (.seq (.seq (.reg [⟨(some 21), .mv (.tmp 9), none⟩,
  ⟨(some 22), .un .not (.tmp 21), none⟩])
 (.cond (.tmp 22) (.seq (.reg [⟨(some 4), .mv (.const (.int .i64 0)), none⟩,
  ⟨(some 5), .mv (.const (.int .i64 0)), none⟩,
  ⟨(some 6), .mv (.const (.int .i64 0)), none⟩,
  ⟨(some 7), .mv (.const (.bool false)), none⟩])
 (.ret)) (.skip)))
 (.seq (.reg [⟨(some 10), .mv (.const (.int .i64 0)), none⟩,
  ⟨(some 11), .mv (.const (.int .i64 0)), none⟩,
  ⟨(some 12), .mv (.const (.int .i64 0)), none⟩])
 (.seq (.seq (.reg [⟨(some 23), .mv (.tmp 1), none⟩,
  ⟨(some 24), .len (.tmp 23), none⟩,
  ⟨(some 25), .mv (.const (.int .i64 0)), none⟩])
 (.block 0 (.loop (.seq (.reg [⟨(some 26), .bin .lss (.tmp 25) (.tmp 24), none⟩])
 (.seq (.cond (.tmp 26) (.skip) (.exit 0))
 (.seq (.block 1 (.seq (.reg [⟨(some 27), .mv (.tmp 25), none⟩,
  ⟨(some 28), .iad 1 (.tmp 23) (.tmp 25), none⟩,
  ⟨(some 29), .ld none (.tmp 28), none⟩,
  ⟨(some 13), .mv (.tmp 27), none⟩,
  ⟨(some 14), .mv (.tmp 29), none⟩])
 (.seq (.seq (.reg [⟨(some 30), .mv (.tmp 14), none⟩,
  ⟨(some 31), .bin .gtr (.tmp 30) (.const (.int .i64 0)), none⟩])
 (.cond (.tmp 31) (.reg [⟨(some 32), .mv (.tmp 10), none⟩,
  ⟨(some 33), .fad 1 (.tmp 2), none⟩,
  ⟨(some 34), .ld none (.tmp 33), none⟩,
  ⟨(some 35), .mv (.tmp 13), none⟩,
  ⟨(some 36), .iad 1 (.tmp 34) (.tmp 35), none⟩,
  ⟨(some 37), .ld none (.tmp 36), none⟩,
  ⟨(some 38), .bin .add (.tmp 32) (.tmp 37), none⟩,
  ⟨(some 10), .mv (.tmp 38), none⟩]) (.skip)))
 (.seq (.reg [⟨(some 39), .mv (.tmp 11), none⟩,
  ⟨(some 40), .fad 2 (.tmp 2), none⟩,
  ⟨(some 41), .ld none (.tmp 40), none⟩,
  ⟨(some 42), .mv (.tmp 13), none⟩,
  ⟨(some 43), .iad 1 (.tmp 41) (.tmp 42), none⟩,
  ⟨(some 44), .ld none (.tmp 43), none⟩,
  ⟨(some 45), .mv (.tmp 14), none⟩,
  ⟨(some 46), .bin .mul (.tmp 44) (.tmp 45), none⟩,
  ⟨(some 47), .bin .add (.tmp 39) (.tmp 46), none⟩,
  ⟨(some 11), .mv (.tmp 47), none⟩])
 (.reg [⟨(some 48), .mv (.tmp 12), none⟩,
  ⟨(some 49), .fad 3 (.tmp 2), none⟩,
  ⟨(some 50), .ld none (.tmp 49), none⟩,
  ⟨(some 51), .mv (.tmp 13), none⟩,
  ⟨(some 52), .iad 1 (.tmp 50) (.tmp 51), none⟩,
  ⟨(some 53), .ld none (.tmp 52), none⟩,
  ⟨(some 54), .mv (.tmp 8), none⟩,
  ⟨(some 55), .mv (.tmp 13), none⟩,
  ⟨(some 56), .iad 1 (.tmp 54) (.tmp 55), none⟩,
  ⟨(some 57), .ld none (.tmp 56), none⟩,
  ⟨(some 58), .bin .mul (.tmp 53) (.tmp 57), none⟩,
  ⟨(some 59), .bin .add (.tmp 48) (.tmp 58), none⟩,
  ⟨(some 12), .mv (.tmp 59), none⟩])))))
 (.reg [⟨(some 60), .bin .add (.tmp 25) (.const (.int .i64 1)), none⟩,
  ⟨(some 25), .mv (.tmp 60), none⟩])))))))
 (.seq (.reg [⟨(some 61), .mv (.tmp 10), none⟩,
  ⟨(some 62), .mv (.tmp 11), none⟩,
  ⟨(some 63), .mv (.tmp 12), none⟩,
  ⟨(some 4), .mv (.tmp 61), none⟩,
  ⟨(some 5), .mv (.tmp 62), none⟩,
  ⟨(some 6), .mv (.tmp 63), none⟩,
  ⟨(some 7), .mv (.const (.bool true)), none⟩])
 (.ret))))))
def r_impl_CostParts : List ARes := [.tmp 4, .tmp 5, .tmp 6, .tmp 7]
theorem ok_impl_CostParts : FnOk Try.prog 147 64 c_impl_CostParts r_impl_CostParts := ⟨⟨Try.f147, _, Try.func147, by kernel_rfl, rfl, rfl, by kernel_rfl, by kernel_rfl⟩⟩
def c_math_bits_Mul : ACode := .seq (.reg [⟨(some 4), .mv (.const (.int .u64 0)), none⟩,
  ⟨(some 5), .mv (.const (.int .u64 0)), none⟩])
 (.seq (.cond (.const (.bool false)) (.seq (.reg [⟨(some 11), .mv (.tmp 0), none⟩,
  ⟨(some 12), .conv .u32 (.tmp 11), none⟩,
  ⟨(some 13), .mv (.tmp 1), none⟩,
  ⟨(some 14), .conv .u32 (.tmp 13), none⟩,
  ⟨(some 15), .call (.func 164) [(.tmp 12), (.tmp 14)], none⟩,
  ⟨(some 10), .mv (.tmp 15), none⟩,
  ⟨(some 16), .ext 0 (.tmp 10), none⟩,
  ⟨(some 17), .ext 1 (.tmp 10), none⟩,
  ⟨(some 6), .mv (.tmp 16), none⟩,
  ⟨(some 7), .mv (.tmp 17), none⟩])
 (.seq (.reg [⟨(some 18), .mv (.tmp 6), none⟩,
  ⟨(some 19), .conv .u64 (.tmp 18), none⟩,
  ⟨(some 20), .mv (.tmp 7), none⟩,
  ⟨(some 21), .conv .u64 (.tmp 20), none⟩,
  ⟨(some 4), .mv (.tmp 19), none⟩,
  ⟨(some 5), .mv (.tmp 21), none⟩])
 (.ret))) (.skip))
 (.seq (.reg [⟨(some 23), .mv (.tmp 0), none⟩,
  ⟨(some 24), .mv (.tmp 1), none⟩,
  ⟨(some 25), .call (.func 165) [(.tmp 23), (.tmp 24)], none⟩,
  ⟨(some 22), .mv (.tmp 25), none⟩,
  ⟨(some 26), .ext 0 (.tmp 22), none⟩,
  ⟨(some 27), .ext 1 (.tmp 22), none⟩,
  ⟨(some 8), .mv (.tmp 26), none⟩,
  ⟨(some 9), .mv (.tmp 27), none⟩])
 (.seq (.reg [⟨(some 28), .mv (.tmp 8), none⟩,
  ⟨(some 29), .mv (.tmp 9), none⟩,
  ⟨(some 4), .mv (.tmp 28), none⟩,
  ⟨(some 5), .mv (.tmp 29), none⟩])
 (.ret))))
def r_math_bits_Mul : List ARes := [.tmp 4, .tmp 5]
theorem ok_math_bits_Mul : FnOk Try.prog 148 30 c_math_bits_Mul r_math_bits_Mul := ⟨⟨Try.f148, _, Try.func148, by kernel_rfl, rfl, rfl, by kernel_rfl, by kernel_rfl⟩⟩
def c_cmp_Or : ACode := .seq (.reg [⟨(some 2), .mv (.const (.int .i64 0)), none⟩])
 (.seq (.reg [⟨(some 3), .mv (.const (.int .i64 0)), none⟩])
 (.seq (.seq (.reg [⟨(some 6), .mv (.tmp 0), none⟩,
  ⟨(some 7), .len (.tmp 6), none⟩,
  ⟨(some 8), .mv (.const (.int .i64 0)), none⟩])
 (.block 0 (.loop (.seq (.reg [⟨(some 9), .bin .lss (.tmp 8) (.tmp 7), none⟩])
 (.seq (.cond (.tmp 9) (.skip) (.exit 0))
 (.seq (.block 1 (.seq (.reg [⟨(some 10), .iad 1 (.tmp 6) (.tmp 8), none⟩,
  ⟨(some 11), .ld none (.tmp 10), none⟩,
  ⟨(some 5), .mv (.tmp 11), none⟩])
 (.seq (.reg [⟨(some 12), .mv (.tmp 5), none⟩,
  ⟨(some 13), .mv (.tmp 3), none⟩,
  ⟨(some 14), .bin .neq (.tmp 12) (.tmp 13), none⟩])
 (.cond (.tmp 14) (.seq (.reg [⟨(some 15), .mv (.tmp 5), none⟩,
  ⟨(some 2), .mv (.tmp 15), none⟩])
 (.ret)) (.skip)))))
 (.reg [⟨(some 16), .bin .add (.tmp 8) (.const (.int .i64 1)), none⟩,
  ⟨(some 8), .mv (.tmp 16), none⟩])))))))
 (.seq (.reg [⟨(some 17), .mv (.tmp 3), none⟩,
  ⟨(some 2), .mv (.tmp 17), none⟩])
 (.ret))))
def r_cmp_Or : List ARes := [.tmp 2]
theorem ok_cmp_Or : FnOk Try.prog 149 18 c_cmp_Or r_cmp_Or := ⟨⟨Try.f149, _, Try.func149, by kernel_rfl, rfl, rfl, by kernel_rfl, by kernel_rfl⟩⟩
def c_cmp_Compare : ACode := .seq (.reg [⟨(some 4), .mv (.const (.int .i64 0)), none⟩])
 (.seq (.reg [⟨(some 7), .mv (.tmp 0), none⟩,
  ⟨(some 8), .call (.func 157) [(.tmp 7)], none⟩,
  ⟨(some 5), .mv (.tmp 8), none⟩])
 (.seq (.reg [⟨(some 9), .mv (.tmp 1), none⟩,
  ⟨(some 10), .call (.func 157) [(.tmp 9)], none⟩,
  ⟨(some 6), .mv (.tmp 10), none⟩])
 (.seq (.seq (.reg [⟨(some 11), .mv (.tmp 5), none⟩])
 (.cond (.tmp 11) (.seq (.seq (.reg [⟨(some 12), .mv (.tmp 6), none⟩])
 (.cond (.tmp 12) (.seq (.reg [⟨(some 4), .mv (.const (.int .i64 0)), none⟩])
 (.ret)) (.skip)))
 (.seq (.reg [⟨(some 4), .mv (.const (.int .i64 (-1))), none⟩])
 (.ret))) (.skip)))
 (.seq (.seq (.reg [⟨(some 13), .mv (.tmp 6), none⟩])
 (.cond (.tmp 13) (.seq (.reg [⟨(some 4), .mv (.const (.int .i64 1)), none⟩])
 (.ret)) (.skip)))
 (.seq (.seq (.reg [⟨(some 14), .mv (.tmp 0), none⟩,
  ⟨(some 15), .mv (.tmp 1), none⟩,
  ⟨(some 16), .bin .lss (.tmp 14) (.tmp 15), none⟩])
 (.cond (.tmp 16) (.seq (.reg [⟨(some 4), .mv (.const (.int .i64 (-1))), none⟩])
 (.ret)) (.skip)))
 (.seq (.seq (.reg [⟨(some 17), .mv (.tmp 0), none⟩,
  ⟨(some 18), .mv (.tmp 1), none⟩,
  ⟨(some 19), .bin .gtr (.tmp 17) (.tmp 18), none⟩])
 (.cond (.tmp 19) (.seq (.reg [⟨(some 4), .mv (.const (.int .i64 1)), none⟩])
 (.ret)) (.skip)))
 (.seq (.reg [⟨(some 4), .mv (.const (.int .i64 0)), none⟩])
 (.ret))))))))
def r_cmp_Compare : List ARes := [.tmp 4]
theorem ok_cmp_Compare : FnOk Try.prog 150 20 c_cmp_Compare r_cmp_Compare := ⟨⟨Try.f150, _, Try.func150, by kernel_rfl, rfl, rfl, by kernel_rfl, by kernel_rfl⟩⟩
def c_impl_lengthOf : ACode := .seq (.reg [⟨(some 1), .box 92 (.tmp 0), none⟩,
  ⟨(some 2), .mv (.const (.int .i64 0)), none⟩])
 (.seq (.reg [⟨(some 3), .mv (.const (.int .i64 0)), none⟩])
 (.seq (.seq (.reg [⟨(some 6), .fad 1 (.tmp 1), none⟩,
  ⟨(some 7), .ld none (.tmp 6), none⟩,
  ⟨(some 8), .len (.tmp 7), none⟩,
  ⟨(some 9), .mv (.const (.int .i64 0)), none⟩])
 (.block 0 (.loop (.seq (.reg [⟨(some 10), .bin .lss (.tmp 9) (.tmp 8), none⟩])
 (.seq (.cond (.tmp 10) (.skip) (.exit 0))
 (.seq (.block 1 (.seq (.reg [⟨(some 11), .iad 1 (.tmp 7) (.tmp 9), none⟩,
  ⟨(some 12), .ld none (.tmp 11), none⟩,
  ⟨(some 5), .mv (.tmp 12), none⟩])
 (.reg [⟨(some 13), .mv (.tmp 3), none⟩,
  ⟨(some 14), .mv (.tmp 5), none⟩,
  ⟨(some 15), .call (.func 166) [(.tmp 14)], none⟩,
  ⟨(some 16), .bin .add (.tmp 13) (.tmp 15), none⟩,
  ⟨(some 3), .mv (.tmp 16), none⟩])))
 (.reg [⟨(some 17), .bin .add (.tmp 9) (.const (.int .i64 1)), none⟩,
  ⟨(some 9), .mv (.tmp 17), none⟩])))))))
 (.seq (.reg [⟨(some 18), .mv (.tmp 3), none⟩,
  ⟨(some 2), .mv (.tmp 18), none⟩])
 (.ret))))
def r_impl_lengthOf : List ARes := [.tmp 2]
theorem ok_impl_lengthOf : FnOk Try.prog 151 19 c_impl_lengthOf r_impl_lengthOf := ⟨⟨Try.f151, _, Try.func151, by kernel_rfl, rfl, rfl, by kernel_rfl, by kernel_rfl⟩⟩
def c_slices_CompareFunc : ACode := .seq (.reg [⟨(some 6), .mv (.const (.int .i64 0)), none⟩])
 (.seq (.seq (.reg [⟨(some 11), .mv (.tmp 0), none⟩,
  ⟨(some 12), .len (.tmp 11), none⟩,
  ⟨(some 13), .mv (.const (.int .i64 0)), none⟩])
 (.block 0 (.loop (.seq (.reg [⟨(some 14), .bin .lss (.tmp 13) (.tmp 12), none⟩])
 (.seq (.cond (.tmp 14) (.skip) (.exit 0))
 (.seq (.block 1 (.seq (.reg [⟨(some 15), .mv (.tmp 13), none⟩,
  ⟨(some 16), .iad 1 (.tmp 11) (.tmp 13), none⟩,
  ⟨(some 17), .ld none (.tmp 16), none⟩,
  ⟨(some 7), .mv (.tmp 15), none⟩,
  ⟨(some 8), .mv (.tmp 17), none⟩])
 (.seq (.seq (.reg [⟨(some 18), .mv (.tmp 7), none⟩,
  ⟨(some 19), .mv (.tmp 1), none⟩,
  ⟨(some 20), .len (.tmp 19), none⟩,
  ⟨(some 21), .bin .geq (.tmp 18) (.tmp 20), none⟩])
 (.cond (.tmp 21) (.seq (.reg [⟨(some 6), .mv (.const (.int .i64 1)), none⟩])
 (.ret)) (.skip)))
 (.seq (.reg [⟨(some 22), .mv (.tmp 1), none⟩,
  ⟨(some 23), .mv (.tmp 7), none⟩,
  ⟨(some 24), .iad 1 (.tmp 22) (.tmp 23), none⟩,
  ⟨(some 25), .ld none (.tmp 24), none⟩,
  ⟨(some 9), .mv (.tmp 25), none⟩])
 (.seq (.reg [⟨(some 26), .mv (.tmp 2), none⟩,
  ⟨(some 27), .mv (.tmp 8), none⟩,
  ⟨(some 28), .mv (.tmp 9), none⟩,
  ⟨(some 29), .call (.tmp 26) [(.tmp 27), (.tmp 28)], none⟩,
  ⟨(some 10), .mv (.tmp 29), none⟩])
 (.seq (.reg [⟨(some 30), .mv (.tmp 10), none⟩,
  ⟨(some 31), .bin .neq (.tmp 30) (.const (.int .i64 0)), none⟩])
 (.cond (.tmp 31) (.seq (.reg [⟨(some 32), .mv (.tmp 10), none⟩,
  ⟨(some 6), .mv (.tmp 32), none⟩])
 (.ret)) (.skip))))))))
 (.reg [⟨(some 33), .bin .add (.tmp 13) (.const (.int .i64 1)), none⟩,
  ⟨(some 13), .mv (.tmp 33), none⟩])))))))
 (.seq (.seq (.reg [⟨(some 34), .mv (.tmp 0), none⟩,
  ⟨(some 35), .len (.tmp 34), none⟩,
  ⟨(some 36), .mv (.tmp 1), none⟩,
  ⟨(some 37), .len (.tmp 36), none⟩,
  ⟨(some 38), .bin .lss (.tmp 35) (.tmp 37), none⟩])
 (.cond (.tmp 38) (.seq (.reg [⟨(some 6), .mv (.const (.int .i64 (-1))), none⟩])
 (.ret)) (.skip)))
 (.seq (.reg [⟨(some 6), .mv (.const (.int .i64 0)), none⟩])
 (.ret))))
def r_slices_CompareFunc : List ARes := [.tmp 6]
theorem ok_slices_CompareFunc : FnOk Try.prog 152 39 c_slices_CompareFunc r_slices_CompareFunc := ⟨⟨Try.f152, _, Try.func152, by kernel_rfl, rfl, rfl, by kernel_rfl, by kernel_rfl⟩⟩
def c_impl_compareNests_1 : ACode := .seq (.reg [⟨(some 4), .mv (.const (.int .i64 0)), none⟩])
 (.seq (.reg [⟨(some 5), .mv (.tmp 0), none⟩,
  ⟨(some 6), .call (.func 109) [(.tmp 5)], none⟩,
  ⟨(some 7), .mv (.tmp 1), none⟩,
  ⟨(some 8), .call (.func 109) [(.tmp 7)], none⟩,
  ⟨(some 9), .call (.func 154) [(.tmp 6), (.tmp 8)], none⟩,
  ⟨(some 4), .mv (.tmp 9), none⟩])
 (.ret))
def r_impl_compareNests_1 : List ARes := [.tmp 4]
theorem ok_impl_compareNests_1 : FnOk Try.prog 153 10 c_impl_compareNests_1 r_impl_compareNests_1 := ⟨⟨Try.f153, _, Try.func153, by kernel_rfl, rfl, rfl, by kernel_rfl, by kernel_rfl⟩⟩
def c_slices_Compare : ACode := .seq (.reg [⟨(some 4), .mv (.const (.int .i64 0)), none⟩])
 (.seq (.seq (.reg [⟨(some 9), .mv (.tmp 0), none⟩,
  ⟨(some 10), .len (.tmp 9), none⟩,
  ⟨(some 11), .mv (.const (.int .i64 0)), none⟩])
 (.block 0 (.loop (.seq (.reg [⟨(some 12), .bin .lss (.tmp 11) (.tmp 10), none⟩])
 (.seq (.cond (.tmp 12) (.skip) (.exit 0))
 (.seq (.block 1 (.seq (.reg [⟨(some 13), .mv (.tmp 11), none⟩,
  ⟨(some 14), .iad 1 (.tmp 9) (.tmp 11), none⟩,
  ⟨(some 15), .ld none (.tmp 14), none⟩,
  ⟨(some 5), .mv (.tmp 13), none⟩,
  ⟨(some 6), .mv (.tmp 15), none⟩])
 (.seq (.seq (.reg [⟨(some 16), .mv (.tmp 5), none⟩,
  ⟨(some 17), .mv (.tmp 1), none⟩,
  ⟨(some 18), .len (.tmp 17), none⟩,
  ⟨(some 19), .bin .geq (.tmp 16) (.tmp 18), none⟩])
 (.cond (.tmp 19) (.seq (.reg [⟨(some 4), .mv (.const (.int .i64 1)), none⟩])
 (.ret)) (.skip)))
 (.seq (.reg [⟨(some 20), .mv (.tmp 1), none⟩,
  ⟨(some 21), .mv (.tmp 5), none⟩,
  ⟨(some 22), .iad 1 (.tmp 20) (.tmp 21), none⟩,
  ⟨(some 23), .ld none (.tmp 22), none⟩,
  ⟨(some 7), .mv (.tmp 23), none⟩])
 (.seq (.reg [⟨(some 24), .mv (.tmp 6), none⟩,
  ⟨(some 25), .mv (.tmp 7), none⟩,
  ⟨(some 26), .call (.func 150) [(.tmp 24), (.tmp 25)], none⟩,
  ⟨(some 8), .mv (.tmp 26), none⟩])
 (.seq (.reg [⟨(some 27), .mv (.tmp 8), none⟩,
  ⟨(some 28), .bin .neq (.tmp 27) (.const (.int .i64 0)), none⟩])
 (.cond (.tmp 28) (.seq (.reg [⟨(some 29), .mv (.tmp 8), none⟩,
  ⟨(some 4), .mv (.tmp 29), none⟩])
 (.ret)) (.skip))))))))
 (.reg [⟨(some 30), .bin .add (.tmp 11) (.const (.int .i64 1)), none⟩,
  ⟨(some 11), .mv (.tmp 30), none⟩])))))))
 (.seq (.seq (.reg [⟨(some 31), .mv (.tmp 0), none⟩,
  ⟨(some 32), .len (.tmp 31), none⟩,
  ⟨(some 33), .mv (.tmp 1), none⟩,
  ⟨(some 34), .len (.tmp 33), none⟩,
  ⟨(some 35), .bin .lss (.tmp 32) (.tmp 34), none⟩])
 (.cond (.tmp 35) (.seq (.reg [⟨(some 4), .mv (.const (.int .i64 (-1))), none⟩])
 (.ret)) (.skip)))
 (.seq (.reg [⟨(some 4), .mv (.const (.int .i64 0)), none⟩])
 (.ret))))
def r_slices_Compare : List ARes := [.tmp 4]
theorem ok_slices_Compare : FnOk Try.prog 154 36 c_slices_Compare r_slices_Compare := ⟨⟨Try.f154, _, Try.func154, by kernel_rfl, rfl, rfl, by kernel_rfl, by kernel_rfl⟩⟩
def c_impl_lotsFrom_1 : ACode := .seq (.reg [⟨(some 6), .alc 103 [(.int .i64 0), (.slice none 0 0)], none⟩])
 (.seq (.seq (.reg [⟨(some 15), .ld none (.tmp 1), none⟩,
  ⟨(some 16), .mv (.tmp 0), none⟩,
  ⟨(some 17), .lkp true (.agg #[(.int .i64 0), (.slice none 0 0)]) (.tmp 15) (.tmp 16), none⟩,
  ⟨(some 14), .mv (.tmp 17), none⟩,
  ⟨(some 18), .ext 0 (.tmp 14), none⟩,
  ⟨(some 19), .ext 1 (.tmp 14), none⟩,
  ⟨(some 7), .alc 103 [(.int .i64 0), (.slice none 0 0)], none⟩,
  ⟨none, .st 2 (.tmp 7) (.tmp 18), none⟩,
  ⟨(some 8), .mv (.tmp 19), none⟩])
 (.seq (.reg [⟨(some 20), .mv (.tmp 8), none⟩])
 (.cond (.tmp 20) (.seq (.reg [⟨(some 21), .ld (some 2) (.tmp 7), none⟩,
  ⟨none, .st 2 (.tmp 6) (.tmp 21), none⟩])
 (.ret)) (.skip))))
 (.seq (.reg [⟨(some 22), .ld (some 4) (.tmp 2), none⟩,
  ⟨(some 23), .mv (.tmp 0), none⟩,
  ⟨(some 24), .ld none (.tmp 3), none⟩,
  ⟨(some 25), .call (.func 156) [(.tmp 22), (.tmp 23), (.tmp 24)], none⟩,
  ⟨(some 26), .mv (.tmp 0), none⟩,
  ⟨(some 27), .bsl 3 1 1 [(.int .i64 0)] [(0, 1, (.tmp 26))], none⟩,
  ⟨(some 28), .bld [(.int .i64 0), (.slice none 0 0)] [(0, 1, (.tmp 25)), (1, 1, (.tmp 27))], none⟩,
  ⟨(some 9), .alc 103 [(.int .i64 0), (.slice none 0 0)], none⟩,
  ⟨none, .st 2 (.tmp 9) (.tmp 28), none⟩])
 (.seq (.seq (.reg [⟨(some 29), .mv (.tmp 0), none⟩,
  ⟨(some 30), .bin .add (.tmp 29) (.const (.int .i64 1)), none⟩,
  ⟨(some 10), .mv (.tmp 30), none⟩])
 (.block 0 (.loop (.seq (.seq (.reg [⟨(some 31), .mv (.tmp 10), none⟩,
  ⟨(some 32), .ld none (.tmp 3), none⟩,
  ⟨(some 33), .bin .lss (.tmp 31) (.tmp 32), none⟩])
 (.cond (.tmp 33) (.skip) (.exit 0)))
 (.seq (.block 1 (.seq (.reg [⟨(some 36), .ld none (.tmp 4), none⟩,
  ⟨(some 37), .mv (.tmp 10), none⟩,
  ⟨(some 38), .call (.tmp 36) [(.tmp 37)], none⟩,
  ⟨(some 11), .alc 103 [(.int .i64 0), (.slice none 0 0)], none⟩,
  ⟨none, .st 2 (.tmp 11) (.tmp 38), none⟩])
 (.seq (.reg [⟨(some 39), .mv (.tmp 0), none⟩,
  ⟨(some 40), .bsl 3 1 1 [(.int .i64 0)] [(0, 1, (.tmp 39))], none⟩,
  ⟨(some 41), .fad 1 (.tmp 11), none⟩,
  ⟨(some 42), .ld none (.tmp 41), none⟩,
  ⟨(some 43), .app 3 1 8 (.tmp 40) (.tmp 42), none⟩,
  ⟨(some 12), .mv (.tmp 43), none⟩])
 (.seq (.seq (.reg [⟨(some 44), .ld (some 4) (.tmp 2), none⟩]) (.seq (.reg [⟨(some 45), .mv (.tmp 0), none⟩]) (.seq (.reg [⟨(some 46), .mv (.tmp 10), none⟩]) (.seq (.reg [⟨(some 48), .fad 0 (.tmp 11), none⟩]) (.seq (.reg [⟨(some 49), .ld none (.tmp 48), none⟩]) (.seq (.reg [⟨(some 51), .mv (.tmp 12), none⟩]) (.both (.seq (.reg [⟨(some 47), .rcall (.func 156) [(.tmp 44), (.tmp 45), (.tmp 46)], none⟩]) (.seq (.reg [⟨(some 50), .bin .add (.tmp 47) (.tmp 49), none⟩]) (.seq (.reg [⟨(some 52), .bld [(.int .i64 0), (.slice none 0 0)] [(0, 1, (.tmp 50)), (1, 1, (.tmp 51))], none⟩]) (.seq (.reg [⟨(some 13), .alc 103 [(.int .i64 0), (.slice none 0 0)], none⟩]) (.seq (.reg [⟨none, .st 2 (.tmp 13) (.tmp 52), none⟩]) (.skip)))))) (.seq (.reg [⟨(some 13), .alc 103 [(.int .i64 0), (.slice none 0 0)], none⟩]) (.seq (.reg [⟨(some 47), .rcall (.func 156) [(.tmp 44), (.tmp 45), (.tmp 46)], none⟩]) (.seq (.reg [⟨(some 50), .bin .add (.tmp 47) (.tmp 49), none⟩]) (.seq (.reg [⟨(some 52), .bld [(.int .i64 0), (.slice none 0 0)] [(0, 1, (.tmp 50)), (1, 1, (.tmp 51))], none⟩]) (.seq (.reg [⟨none, .st 2 (.tmp 13) (.tmp 52), none⟩]) (.skip)))))))))))))
 (.seq (.reg [⟨(some 53), .ld (some 2) (.tmp 13), none⟩,
  ⟨(some 54), .ld (some 2) (.tmp 9), none⟩,
  ⟨(some 55), .call (.func 127) [(.tmp 53), (.tmp 54)], none⟩])
 (.cond (.tmp 55) (.reg [⟨(some 56), .ld (some 2) (.tmp 13), none⟩,
  ⟨none, .st 2 (.tmp 9) (.tmp 56), none⟩]) (.skip)))))))
 (.reg [⟨(some 34), .mv (.tmp 10), none⟩,
  ⟨(some 35), .bin .add (.tmp 34) (.const (.int .i64 1)), none⟩,
  ⟨(some 10), .mv (.tmp 35), none⟩]))))))
 (.seq (.reg [⟨(some 57), .ld none (.tmp 1), none⟩,
  ⟨(some 58), .mv (.tmp 0), none⟩,
  ⟨(some 59), .ld (some 2) (.tmp 9), none⟩,
  ⟨none, .mup (.tmp 57) (.tmp 58) (.tmp 59), none⟩])
 (.seq (.reg [⟨(some 60), .ld (some 2) (.tmp 9), none⟩,
  ⟨none, .st 2 (.tmp 6) (.tmp 60), none⟩])
 (.ret))))))
def r_impl_lotsFrom_1 : List ARes := [.cell 6 (some 2)]
theorem ok_impl_lotsFrom_1 : FnOk Try.prog 155 61 c_impl_lotsFrom_1 r_impl_lotsFrom_1 := ⟨⟨Try.f155, _, Try.func155, by kernel_rfl, rfl, rfl, by kernel_rfl, by kernel_rfl⟩⟩
def c_impl_orderCost : ACode := .seq (.reg [⟨(some 3), .box 30 (.tmp 0), none⟩,
  ⟨(some 6), .mv (.const (.int .i64 0)), none⟩])
 (.seq (.reg [⟨(some 10), .fad 0 (.tmp 3), none⟩,
  ⟨(some 11), .ld none (.tmp 10), none⟩,
  ⟨(some 12), .mv (.tmp 1), none⟩,
  ⟨(some 13), .mv (.tmp 2), none⟩,
  ⟨(some 14), .slc 1 (.tmp 11) (some (.tmp 12)) (some (.tmp 13)), none⟩,
  ⟨(some 15), .call (.func 80) [(.tmp 14)], none⟩,
  ⟨(some 7), .mv (.tmp 15), none⟩])
 (.seq (.seq (.reg [⟨(some 16), .mv (.tmp 7), none⟩,
  ⟨(some 17), .bin .eql (.tmp 16) (.const (.int .i64 0)), none⟩])
 (.cond (.tmp 17) (.seq (.reg [⟨(some 6), .mv (.const (.int .i64 0)), none⟩])
 (.ret)) (.skip)))
 (.seq (.reg [⟨(some 18), .fad 1 (.tmp 3), none⟩,
  ⟨(some 19), .ld none (.tmp 18), none⟩,
  ⟨(some 20), .mv (.tmp 1), none⟩,
  ⟨(some 21), .iad 1 (.tmp 19) (.tmp 20), none⟩,
  ⟨(some 22), .ld none (.tmp 21), none⟩,
  ⟨(some 23), .fad 2 (.tmp 3), none⟩,
  ⟨(some 24), .ld none (.tmp 23), none⟩,
  ⟨(some 25), .mv (.tmp 1), none⟩,
  ⟨(some 26), .iad 1 (.tmp 24) (.tmp 25), none⟩,
  ⟨(some 27), .ld none (.tmp 26), none⟩,
  ⟨(some 28), .mv (.tmp 7), none⟩,
  ⟨(some 29), .bin .mul (.tmp 27) (.tmp 28), none⟩,
  ⟨(some 30), .bin .add (.tmp 22) (.tmp 29), none⟩,
  ⟨(some 8), .mv (.tmp 30), none⟩])
 (.seq (.seq (.reg [⟨(some 31), .mv (.tmp 1), none⟩,
  ⟨(some 9), .mv (.tmp 31), none⟩])
 (.block 0 (.loop (.seq (.seq (.reg [⟨(some 32), .mv (.tmp 9), none⟩,
  ⟨(some 33), .mv (.tmp 2), none⟩,
  ⟨(some 34), .bin .lss (.tmp 32) (.tmp 33), none⟩])
 (.cond (.tmp 34) (.skip) (.exit 0)))
 (.seq (.block 1 (.seq (.reg [⟨(some 37), .mv (.tmp 7), none⟩,
  ⟨(some 38), .fad 0 (.tmp 3), none⟩,
  ⟨(some 39), .ld none (.tmp 38), none⟩,
  ⟨(some 40), .mv (.tmp 9), none⟩,
  ⟨(some 41), .iad 1 (.tmp 39) (.tmp 40), none⟩,
  ⟨(some 42), .ld none (.tmp 41), none⟩,
  ⟨(some 43), .bin .sub (.tmp 37) (.tmp 42), none⟩,
  ⟨(some 7), .mv (.tmp 43), none⟩])
 (.reg [⟨(some 44), .mv (.tmp 8), none⟩,
  ⟨(some 45), .fad 3 (.tmp 3), none⟩,
  ⟨(some 46), .ld none (.tmp 45), none⟩,
  ⟨(some 47), .mv (.tmp 9), none⟩,
  ⟨(some 48), .iad 1 (.tmp 46) (.tmp 47), none⟩,
  ⟨(some 49), .ld none (.tmp 48), none⟩,
  ⟨(some 50), .mv (.tmp 7), none⟩,
  ⟨(some 51), .bin .mul (.tmp 49) (.tmp 50), none⟩,
  ⟨(some 52), .bin .add (.tmp 44) (.tmp 51), none⟩,
  ⟨(some 8), .mv (.tmp 52), none⟩])))
 (.reg [⟨(some 35), .mv (.tmp 9), none⟩,
  ⟨(some 36), .bin .add (.tmp 35) (.const (.int .i64 1)), none⟩,
  ⟨(some 9), .mv (.tmp 36), none⟩]))))))
 (.seq (.reg [⟨(some 53), .mv (.tmp 8), none⟩,
  ⟨(some 6), .mv (.tmp 53), none⟩])
 (.ret))))))
def r_impl_orderCost : List ARes := [.tmp 6]
theorem ok_impl_orderCost : FnOk Try.prog 156 54 c_impl_orderCost r_impl_orderCost := ⟨⟨Try.f156, _, Try.func156, by kernel_rfl, rfl, rfl, by kernel_rfl, by kernel_rfl⟩⟩
def c_cmp_isNaN : ACode := .seq (.reg [⟨(some 2), .mv (.const (.bool false)), none⟩])
 (.seq (.reg [⟨(some 3), .mv (.tmp 0), none⟩,
  ⟨(some 4), .mv (.tmp 0), none⟩,
  ⟨(some 5), .bin .neq (.tmp 3) (.tmp 4), none⟩,
  ⟨(some 2), .mv (.tmp 5), none⟩])
 (.ret))
def r_cmp_isNaN : List ARes := [.tmp 2]
theorem ok_cmp_isNaN : FnOk Try.prog 157 6 c_cmp_isNaN r_cmp_isNaN := ⟨⟨Try.f157, _, Try.func157, by kernel_rfl, rfl, rfl, by kernel_rfl, by kernel_rfl⟩⟩
def c_slices_IndexFunc : ACode := .seq (.reg [⟨(some 4), .mv (.const (.int .i64 0)), none⟩])
 (.seq (.seq (.reg [⟨(some 6), .mv (.tmp 0), none⟩,
  ⟨(some 7), .len (.tmp 6), none⟩,
  ⟨(some 8), .mv (.const (.int .i64 0)), none⟩])
 (.block 0 (.loop (.seq (.reg [⟨(some 9), .bin .lss (.tmp 8) (.tmp 7), none⟩])
 (.seq (.cond (.tmp 9) (.skip) (.exit 0))
 (.seq (.block 1 (.seq (.reg [⟨(some 10), .mv (.tmp 8), none⟩,
  ⟨(some 5), .mv (.tmp 10), none⟩])
 (.seq (.reg [⟨(some 11), .mv (.tmp 1), none⟩,
  ⟨(some 12), .mv (.tmp 0), none⟩,
  ⟨(some 13), .mv (.tmp 5), none⟩,
  ⟨(some 14), .iad 1 (.tmp 12) (.tmp 13), none⟩,
  ⟨(some 15), .ld none (.tmp 14), none⟩,
  ⟨(some 16), .call (.tmp 11) [(.tmp 15)], none⟩])
 (.cond (.tmp 16) (.seq (.reg [⟨(some 17), .mv (.tmp 5), none⟩,
  ⟨(some 4), .mv (.tmp 17), none⟩])
 (.ret)) (.skip)))))
 (.reg [⟨(some 18), .bin .add (.tmp 8) (.const (.int .i64 1)), none⟩,
  ⟨(some 8), .mv (.tmp 18), none⟩])))))))
 (.seq (.reg [⟨(some 4), .mv (.const (.int .i64 (-1))), none⟩])
 (.ret)))
def r_slices_IndexFunc : List ARes := [.tmp 4]
theorem ok_slices_IndexFunc : FnOk Try.prog 158 19 c_slices_IndexFunc r_slices_IndexFunc := ⟨⟨Try.f158, _, Try.func158, by kernel_rfl, rfl, rfl, by kernel_rfl, by kernel_rfl⟩⟩
def c_spec_l1Has : ACode := .seq (.reg [⟨(some 4), .mv (.const (.bool false)), none⟩])
 (.seq (.seq (.reg [⟨(some 5), .mv (.const (.int .i64 0)), none⟩])
 (.block 0 (.loop (.seq (.seq (.reg [⟨(some 6), .mv (.tmp 5), none⟩,
  ⟨(some 7), .mv (.tmp 0), none⟩,
  ⟨(some 8), .len (.tmp 7), none⟩,
  ⟨(some 9), .bin .lss (.tmp 6) (.tmp 8), none⟩])
 (.cond (.tmp 9) (.skip) (.exit 0)))
 (.seq (.block 1 (.seq (.reg [⟨(some 12), .mv (.tmp 0), none⟩,
  ⟨(some 13), .mv (.tmp 5), none⟩,
  ⟨(some 14), .iad 1 (.tmp 12) (.tmp 13), none⟩,
  ⟨(some 15), .ld none (.tmp 14), none⟩,
  ⟨(some 16), .mv (.tmp 1), none⟩,
  ⟨(some 17), .bin .eql (.tmp 15) (.tmp 16), none⟩])
 (.cond (.tmp 17) (.seq (.reg [⟨(some 4), .mv (.const (.bool true)), none⟩])
 (.ret)) (.skip))))
 (.reg [⟨(some 10), .mv (.tmp 5), none⟩,
  ⟨(some 11), .bin .add (.tmp 10) (.const (.int .i64 1)), none⟩,
  ⟨(some 5), .mv (.tmp 11), none⟩]))))))
 (.seq (.reg [⟨(some 4), .mv (.const (.bool false)), none⟩])
 (.ret)))
def r_spec_l1Has : List ARes := [.tmp 4]
theorem ok_spec_l1Has : FnOk Try.prog 159 18 c_spec_l1Has r_spec_l1Has := ⟨⟨Try.f159, _, Try.func159, by kernel_rfl, rfl, rfl, by kernel_rfl, by kernel_rfl⟩⟩
def c_slices_Backward_1 : ACode := .seq (.reg [⟨(some 4), .ld none (.tmp 1), none⟩,
  ⟨(some 5), .len (.tmp 4), none⟩,
  ⟨(some 6), .bin .sub (.tmp 5) (.const (.int .i64 1)), none⟩,
  ⟨(some 3), .mv (.tmp 6), none⟩])
 (.block 0 (.loop (.seq (.seq (.reg [⟨(some 7), .mv (.tmp 3), none⟩,
  ⟨(some 8), .bin .geq (.tmp 7) (.const (.int .i64 0)), none⟩])
 (.cond (.tmp 8) (.skip) (.exit 0)))
 (.seq (.block 1 (.seq (.reg [⟨(some 11), .mv (.tmp 0), none⟩,
  ⟨(some 12), .mv (.tmp 3), none⟩,
  ⟨(some 13), .ld none (.tmp 1), none⟩,
  ⟨(some 14), .mv (.tmp 3), none⟩,
  ⟨(some 15), .iad 1 (.tmp 13) (.tmp 14), none⟩,
  ⟨(some 16), .ld none (.tmp 15), none⟩,
  ⟨(some 17), .call (.tmp 11) [(.tmp 12), (.tmp 16)], none⟩,
  ⟨(some 18), .un .not (.tmp 17), none⟩])
 (.cond (.tmp 18) (.ret) (.skip))))
 (.reg [⟨(some 9), .mv (.tmp 3), none⟩,
  ⟨(some 10), .bin .sub (.tmp 9) (.const (.int .i64 1)), none⟩,
  ⟨(some 3), .mv (.tmp 10), none⟩])))))
def r_slices_Backward_1 : List ARes := []
theorem ok_slices_Backward_1 : FnOk Try.prog 160 19 c_slices_Backward_1 r_slices_Backward_1 := ⟨⟨Try.f160, _, Try.func160, by kernel_rfl, rfl, rfl, by kernel_rfl, by kernel_rfl⟩⟩
def c_slices_Index : ACode := .seq (.reg [⟨(some 4), .mv (.const (.int .i64 0)), none⟩])
 (.seq (.seq (.reg [⟨(some 6), .mv (.tmp 0), none⟩,
  ⟨(some 7), .len (.tmp 6), none⟩,
  ⟨(some 8), .mv (.const (.int .i64 0)), none⟩])
 (.block 0 (.loop (.seq (.reg [⟨(some 9), .bin .lss (.tmp 8) (.tmp 7), none⟩])
 (.seq (.cond (.tmp 9) (.skip) (.exit 0))
 (.seq (.block 1 (.seq (.reg [⟨(some 10), .mv (.tmp 8), none⟩,
  ⟨(some 5), .mv (.tmp 10), none⟩])
 (.seq (.reg [⟨(some 11), .mv (.tmp 1), none⟩,
  ⟨(some 12), .mv (.tmp 0), none⟩,
  ⟨(some 13), .mv (.tmp 5), none⟩,
  ⟨(some 14), .iad 1 (.tmp 12) (.tmp 13), none⟩,
  ⟨(some 15), .ld none (.tmp 14), none⟩,
  ⟨(some 16), .bin .eql (.tmp 11) (.tmp 15), none⟩])
 (.cond (.tmp 16) (.seq (.reg [⟨(some 17), .mv (.tmp 5), none⟩,
  ⟨(some 4), .mv (.tmp 17), none⟩])
 (.ret)) (.skip)))))
 (.reg [⟨(some 18), .bin .add (.tmp 8) (.const (.int .i64 1)), none⟩,
  ⟨(some 8), .mv (.tmp 18), none⟩])))))))
 (.seq (.reg [⟨(some 4), .mv (.const (.int .i64 (-1))), none⟩])
 (.ret)))
def r_slices_Index : List ARes := [.tmp 4]
theorem ok_slices_Index : FnOk Try.prog 161 19 c_slices_Index r_slices_Index := ⟨⟨Try.f161, _, Try.func161, by kernel_rfl, rfl, rfl, by kernel_rfl, by kernel_rfl⟩⟩
def c_spec_l2Parts : ACode := .seq (.reg [⟨(some 2), .box 30 (.tmp 0), none⟩,
  ⟨(some 4), .alc 162 [(.int .i64 0), (.int .i64 0), (.int .i64 0)], none⟩])
 (.seq (.reg [⟨(some 8), .bld [(.int .i64 0), (.int .i64 0), (.int .i64 0)] [], none⟩,
  ⟨(some 9), .ld (some 4) (.tmp 2), none⟩,
  ⟨(some 10), .mv (.tmp 1), none⟩,
  ⟨(some 11), .call (.func 167) [(.tmp 9), (.tmp 10)], none⟩,
  ⟨(some 5), .alc 162 [(.int .i64 0), (.int .i64 0), (.int .i64 0)], none⟩,
  ⟨none, .st 3 (.tmp 5) (.tmp 8), none⟩,
  ⟨(some 6), .mv (.tmp 11), none⟩])
 (.seq (.seq (.reg [⟨(some 7), .mv (.const (.int .i64 0)), none⟩])
 (.block 0 (.loop (.seq (.seq (.reg [⟨(some 12), .mv (.tmp 7), none⟩,
  ⟨(some 13), .mv (.tmp 1), none⟩,
  ⟨(some 14), .len (.tmp 13), none⟩,
  ⟨(some 15), .bin .lss (.tmp 12) (.tmp 14), none⟩])
 (.cond (.tmp 15) (.skip) (.exit 0)))
 (.seq (.block 1 (.seq (.seq (.reg [⟨(some 18), .mv (.tmp 1), none⟩,
  ⟨(some 19), .mv (.tmp 7), none⟩,
  ⟨(some 20), .iad 1 (.tmp 18) (.tmp 19), none⟩,
  ⟨(some 21), .ld none (.tmp 20), none⟩,
  ⟨(some 22), .bin .gtr (.tmp 21) (.const (.int .i64 0)), none⟩])
 (.cond (.tmp 22) (.reg [⟨(some 23), .iada 1 3 (.tmp 5) (.const (.int .i64 0)), none⟩,
  ⟨(some 24), .ld none (.tmp 23), none⟩,
  ⟨(some 25), .fad 1 (.tmp 2), none⟩,
  ⟨(some 26), .ld none (.tmp 25), none⟩,
  ⟨(some 27), .mv (.tmp 7), none⟩,
  ⟨(some 28), .iad 1 (.tmp 26) (.tmp 27), none⟩,
  ⟨(some 29), .ld none (.tmp 28), none⟩,
  ⟨(some 30), .bin .add (.tmp 24) (.tmp 29), none⟩,
  ⟨(some 31), .iada 1 3 (.tmp 5) (.const (.int .i64 0)), none⟩,
  ⟨none, .st 1 (.tmp 31) (.tmp 30), none⟩]) (.skip)))
 (.seq (.reg [⟨(some 32), .iada 1 3 (.tmp 5) (.const (.int .i64 1)), none⟩,
  ⟨(some 33), .ld none (.tmp 32), none⟩,
  ⟨(some 34), .fad 2 (.tmp 2), none⟩,
  ⟨(some 35), .ld none (.tmp 34), none⟩,
  ⟨(some 36), .mv (.tmp 7), none⟩,
  ⟨(some 37), .iad 1 (.tmp 35) (.tmp 36), none⟩,
  ⟨(some 38), .ld none (.tmp 37), none⟩,
  ⟨(some 39), .mv (.tmp 1), none⟩,
  ⟨(some 40), .mv (.tmp 7), none⟩,
  ⟨(some 41), .iad 1 (.tmp 39) (.tmp 40), none⟩,
  ⟨(some 42), .ld none (.tmp 41), none⟩,
  ⟨(some 43), .bin .mul (.tmp 38) (.tmp 42), none⟩,
  ⟨(some 44), .bin .add (.tmp 33) (.tmp 43), none⟩,
  ⟨(some 45), .iada 1 3 (.tmp 5) (.const (.int .i64 1)), none⟩,
  ⟨none, .st 1 (.tmp 45) (.tmp 44), none⟩])
 (.reg [⟨(some 46), .iada 1 3 (.tmp 5) (.const (.int .i64 2)), none⟩,
  ⟨(some 47), .ld none (.tmp 46), none⟩,
  ⟨(some 48), .fad 3 (.tmp 2), none⟩,
  ⟨(some 49), .ld none (.tmp 48), none⟩,
  ⟨(some 50), .mv (.tmp 7), none⟩,
  ⟨(some 51), .iad 1 (.tmp 49) (.tmp 50), none⟩,
  ⟨(some 52), .ld none (.tmp 51), none⟩,
  ⟨(some 53), .mv (.tmp 6), none⟩,
  ⟨(some 54), .mv (.tmp 7), none⟩,
  ⟨(some 55), .iad 1 (.tmp 53) (.tmp 54), none⟩,
  ⟨(some 56), .ld none (.tmp 55), none⟩,
  ⟨(some 57), .bin .mul (.tmp 52) (.tmp 56), none⟩,
  ⟨(some 58), .bin .add (.tmp 47) (.tmp 57), none⟩,
  ⟨(some 59), .iada 1 3 (.tmp 5) (.const (.int .i64 2)), none⟩,
  ⟨none, .st 1 (.tmp 59) (.tmp 58), none⟩]))))
 (.reg [⟨(some 16), .mv (.tmp 7), none⟩,
  ⟨(some 17), .bin .add (.tmp 16) (.const (.int .i64 1)), none⟩,
  ⟨(some 7), .mv (.tmp 17), none⟩]))))))
 (.seq (.reg [⟨(some 60), .ld (some 3) (.tmp 5), none⟩,
  ⟨none, .st 3 (.tmp 4) (.tmp 60), none⟩])
 (.ret))))
def r_spec_l2Parts : List ARes := [.cell 4 (some 3)]
theorem ok_spec_l2Parts : FnOk Try.prog 162 61 c_spec_l2Parts r_spec_l2Parts := ⟨⟨Try.f162, _, Try.func162, by kernel_rfl, rfl, rfl, by kernel_rfl, by kernel_rfl⟩⟩
def c_impl_StocksOf : ACode := .seq (.reg [⟨(some 2), .box 30 (.tmp 0), none⟩,
  ⟨(some 4), .mv (.const (.slice none 0 0)), none⟩,
  ⟨(some 5), .mv (.const (.bool false)), none⟩])
 (.seq (.seq (.reg [⟨(some 6), .ld (some 4) (.tmp 2), none⟩,
  ⟨(some 7), .call (.func 92) [(.tmp 6)], none⟩,
  ⟨(some 8), .un .not (.tmp 7), none⟩])
 (.cond (.tmp 8) (.seq (.reg [⟨(some 9), .bsl 3 1 0 [] [], none⟩,
  ⟨(some 4), .mv (.tmp 9), none⟩,
  ⟨(some 5), .mv (.const (.bool false)), none⟩])
 (.ret)) (.skip)))
 (.seq (.reg [⟨(some 10), .fad 0 (.tmp 2), none⟩,
  ⟨(some 11), .ld none (.tmp 10), none⟩,
  ⟨(some 12), .mv (.tmp 1), none⟩,
  ⟨(some 13), .call (.func 100) [(.tmp 11), (.tmp 12)], none⟩,
  ⟨(some 14), .ext 0 (.tmp 13), none⟩,
  ⟨(some 15), .ext 1 (.tmp 13), none⟩,
  ⟨(some 4), .mv (.tmp 14), none⟩,
  ⟨(some 5), .mv (.tmp 15), none⟩])
 (.ret)))
def r_impl_StocksOf : List ARes := [.tmp 4, .tmp 5]
theorem ok_impl_StocksOf : FnOk Try.prog 163 16 c_impl_StocksOf r_impl_StocksOf := ⟨⟨Try.f163, _, Try.func163, by kernel_rfl, rfl, rfl, by kernel_rfl, by kernel_rfl⟩⟩
def c_math_bits_Mul32 : ACode := .seq (.reg [⟨(some 4), .mv (.const (.int .u32 0)), none⟩,
  ⟨(some 5), .mv (.const (.int .u32 0)), none⟩])
 (.seq (.reg [⟨(some 7), .mv (.tmp 0), none⟩,
  ⟨(some 8), .conv .u64 (.tmp 7), none⟩,
  ⟨(some 9), .mv (.tmp 1), none⟩,
  ⟨(some 10), .conv .u64 (.tmp 9), none⟩,
  ⟨(some 11), .bin .mul (.tmp 8) (.tmp 10), none⟩,
  ⟨(some 6), .mv (.tmp 11), none⟩])
 (.seq (.reg [⟨(some 12), .mv (.tmp 6), none⟩,
  ⟨(some 13), .bin .shr (.tmp 12) (.const (.int .u64 32)), none⟩,
  ⟨(some 14), .conv .u32 (.tmp 13), none⟩,
  ⟨(some 15), .mv (.tmp 6), none⟩,
  ⟨(some 16), .conv .u32 (.tmp 15), none⟩,
  ⟨(some 4), .mv (.tmp 14), none⟩,
  ⟨(some 5), .mv (.tmp 16), none⟩])
 (.ret)))
def r_math_bits_Mul32 : List ARes := [.tmp 4, .tmp 5]
theorem ok_math_bits_Mul32 : FnOk Try.prog 164 17 c_math_bits_Mul32 r_math_bits_Mul32 := ⟨⟨Try.f164, _, Try.func164, by kernel_rfl, rfl, rfl, by kernel_rfl, by kernel_rfl⟩⟩
def c_math_bits_Mul64 : ACode := .seq (.reg [⟨(some 4), .mv (.const (.int .u64 0)), none⟩,
  ⟨(some 5), .mv (.const (.int .u64 0)), none⟩])
 (.seq (.reg [⟨(some 14), .mv (.tmp 0), none⟩,
  ⟨(some 15), .bin .and (.tmp 14) (.const (.int .u64 4294967295)), none⟩,
  ⟨(some 6), .mv (.tmp 15), none⟩])
 (.seq (.reg [⟨(some 16), .mv (.tmp 0), none⟩,
  ⟨(some 17), .bin .shr (.tmp 16) (.const (.int .u64 32)), none⟩,
  ⟨(some 7), .mv (.tmp 17), none⟩])
 (.seq (.reg [⟨(some 18), .mv (.tmp 1), none⟩,
  ⟨(some 19), .bin .and (.tmp 18) (.const (.int .u64 4294967295)), none⟩,
  ⟨(some 8), .mv (.tmp 19), none⟩])
 (.seq (.reg [⟨(some 20), .mv (.tmp 1), none⟩,
  ⟨(some 21), .bin .shr (.tmp 20) (.const (.int .u64 32)), none⟩,
  ⟨(some 9), .mv (.tmp 21), none⟩])
 (.seq (.reg [⟨(some 22), .mv (.tmp 6), none⟩,
  ⟨(some 23), .mv (.tmp 8), none⟩,
  ⟨(some 24), .bin .mul (.tmp 22) (.tmp 23), none⟩,
  ⟨(some 10), .mv (.tmp 24), none⟩])
 (.seq (.reg [⟨(some 25), .mv (.tmp 7), none⟩,
  ⟨(some 26), .mv (.tmp 8), none⟩,
  ⟨(some 27), .bin .mul (.tmp 25) (.tmp 26), none⟩,
  ⟨(some 28), .mv (.tmp 10), none⟩,
  ⟨(some 29), .bin .shr (.tmp 28) (.const (.int .u64 32)), none⟩,
  ⟨(some 30), .bin .add (.tmp 27) (.tmp 29), none⟩,
  ⟨(some 11), .mv (.tmp 30), none⟩])
 (.seq (.reg [⟨(some 31), .mv (.tmp 11), none⟩,
  ⟨(some 32), .bin .and (.tmp 31) (.const (.int .u64 4294967295)), none⟩,
  ⟨(some 12), .mv (.tmp 32), none⟩])
 (.seq (.reg [⟨(some 33), .mv (.tmp 11), none⟩,
  ⟨(some 34), .bin .shr (.tmp 33) (.const (.int .u64 32)), none⟩,
  ⟨(some 13), .mv (.tmp 34), none⟩])
 (.seq (.reg [⟨(some 35), .mv (.tmp 12), none⟩,
  ⟨(some 36), .mv (.tmp 6), none⟩,
  ⟨(some 37), .mv (.tmp 9), none⟩,
  ⟨(some 38), .bin .mul (.tmp 36) (.tmp 37), none⟩,
  ⟨(some 39), .bin .add (.tmp 35) (.tmp 38), none⟩,
  ⟨(some 12), .mv (.tmp 39), none⟩])
 (.seq (.reg [⟨(some 40), .mv (.tmp 7), none⟩,
  ⟨(some 41), .mv (.tmp 9), none⟩,
  ⟨(some 42), .bin .mul (.tmp 40) (.tmp 41), none⟩,
  ⟨(some 43), .mv (.tmp 13), none⟩,
  ⟨(some 44), .bin .add (.tmp 42) (.tmp 43), none⟩,
  ⟨(some 45), .mv (.tmp 12), none⟩,
  ⟨(some 46), .bin .shr (.tmp 45) (.const (.int .u64 32)), none⟩,
  ⟨(some 47), .bin .add (.tmp 44) (.tmp 46), none⟩,
  ⟨(some 4), .mv (.tmp 47), none⟩])
 (.seq (.reg [⟨(some 48), .mv (.tmp 0), none⟩,
  ⟨(some 49), .mv (.tmp 1), none⟩,
  ⟨(some 50), .bin .mul (.tmp 48) (.tmp 49), none⟩,
  ⟨(some 5), .mv (.tmp 50), none⟩])
 (.ret))))))))))))
def r_math_bits_Mul64 : List ARes := [.tmp 4, .tmp 5]
theorem ok_math_bits_Mul64 : FnOk Try.prog 165 51 c_math_bits_Mul64 r_math_bits_Mul64 := ⟨⟨Try.f165, _, Try.func165, by kernel_rfl, rfl, rfl, by kernel_rfl, by kernel_rfl⟩⟩
def c_math_bits_OnesCount : ACode := .seq (.reg [⟨(some 2), .mv (.const (.int .i64 0)), none⟩])
 (.seq (.cond (.const (.bool false)) (.seq (.reg [⟨(some 3), .mv (.tmp 0), none⟩,
  ⟨(some 4), .conv .u32 (.tmp 3), none⟩,
  ⟨(some 5), .call (.func 168) [(.tmp 4)], none⟩,
  ⟨(some 2), .mv (.tmp 5), none⟩])
 (.ret)) (.skip))
 (.seq (.reg [⟨(some 6), .mv (.tmp 0), none⟩,
  ⟨(some 7), .call (.func 169) [(.tmp 6)], none⟩,
  ⟨(some 2), .mv (.tmp 7), none⟩])
 (.ret)))
def r_math_bits_OnesCount : List ARes := [.tmp 2]
theorem ok_math_bits_OnesCount : FnOk Try.prog 166 8 c_math_bits_OnesCount r_math_bits_OnesCount := ⟨⟨Try.f166, _, Try.func166, by kernel_rfl, rfl, rfl, by kernel_rfl, by kernel_rfl⟩⟩
def c_spec_l2Stocks : ACode := .seq (.reg [⟨(some 2), .box 30 (.tmp 0), none⟩,
  ⟨(some 4), .mv (.const (.slice none 0 0)), none⟩])
 (.seq (.reg [⟨(some 8), .bsl 3 1 0 [] [], none⟩,
  ⟨(some 5), .mv (.tmp 8), none⟩,
  ⟨(some 6), .mv (.const (.int .i64 0)), none⟩])
 (.seq (.seq (.reg [⟨(some 7), .mv (.const (.int .i64 0)), none⟩])
 (.block 0 (.loop (.seq (.seq (.reg [⟨(some 9), .mv (.tmp 7), none⟩,
  ⟨(some 10), .mv (.tmp 1), none⟩,
  ⟨(some 11), .len (.tmp 10), none⟩,
  ⟨(some 12), .bin .lss (.tmp 9) (.tmp 11), none⟩])
 (.cond (.tmp 12) (.skip) (.exit 0)))
 (.seq (.block 1 (.seq (.reg [⟨(some 15), .mv (.tmp 6), none⟩,
  ⟨(some 16), .mv (.tmp 1), none⟩,
  ⟨(some 17), .mv (.tmp 7), none⟩,
  ⟨(some 18), .iad 1 (.tmp 16) (.tmp 17), none⟩,
  ⟨(some 19), .ld none (.tmp 18), none⟩,
  ⟨(some 20), .bin .add (.tmp 15) (.tmp 19), none⟩,
  ⟨(some 21), .fad 0 (.tmp 2), none⟩,
  ⟨(some 22), .ld none (.tmp 21), none⟩,
  ⟨(some 23), .mv (.tmp 7), none⟩,
  ⟨(some 24), .iad 1 (.tmp 22) (.tmp 23), none⟩,
  ⟨(some 25), .ld none (.tmp 24), none⟩,
  ⟨(some 26), .bin .sub (.tmp 20) (.tmp 25), none⟩,
  ⟨(some 6), .mv (.tmp 26), none⟩])
 (.reg [⟨(some 27), .mv (.tmp 5), none⟩,
  ⟨(some 28), .mv (.tmp 6), none⟩,
  ⟨(some 29), .bsl 3 1 1 [(.int .i64 0)] [(0, 1, (.tmp 28))], none⟩,
  ⟨(some 30), .app 3 1 8 (.tmp 27) (.tmp 29), none⟩,
  ⟨(some 5), .mv (.tmp 30), none⟩])))
 (.reg [⟨(some 13), .mv (.tmp 7), none⟩,
  ⟨(some 14), .bin .add (.tmp 13) (.const (.int .i64 1)), none⟩,
  ⟨(some 7), .mv (.tmp 14), none⟩]))))))
 (.seq (.reg [⟨(some 31), .mv (.tmp 5), none⟩,
  ⟨(some 4), .mv (.tmp 31), none⟩])
 (.ret))))
def r_spec_l2Stocks : List ARes := [.tmp 4]
theorem ok_spec_l2Stocks : FnOk Try.prog 167 32 c_spec_l2Stocks r_spec_l2Stocks := ⟨⟨Try.f167, _, Try.func167, by kernel_rfl, rfl, rfl, by kernel_rfl, by kernel_rfl⟩⟩
def c_math_bits_OnesCount32 : ACode := .seq (.reg [⟨(some 2), .mv (.const (.int .i64 0)), none⟩])
 (.seq (.reg [⟨(some 3), .mv (.tmp 0), none⟩,
  ⟨(some 4), .bin .shr (.tmp 3) (.const (.int .u64 24)), none⟩,
  ⟨(some 5), .idxs (.const (.string ⟨#[0, 1, 1, 2, 1, 2, 2, 3, 1, 2, 2, 3, 2, 3, 3, 4, 1, 2, 2, 3, 2, 3, 3, 4, 2, 3, 3, 4, 3, 4, 4, 5, 1, 2, 2, 3, 2, 3, 3, 4, 2, 3, 3, 4, 3, 4, 4, 5, 2, 3, 3, 4, 3, 4, 4, 5, 3, 4, 4, 5, 4, 5, 5, 6, 1, 2, 2, 3, 2, 3, 3, 4, 2, 3, 3, 4, 3, 4, 4, 5, 2, 3, 3, 4, 3, 4, 4, 5, 3, 4, 4, 5, 4, 5, 5, 6, 2, 3, 3, 4, 3, 4, 4, 5, 3, 4, 4, 5, 4, 5, 5, 6, 3, 4, 4, 5, 4, 5, 5, 6, 4, 5, 5, 6, 5, 6, 6, 7, 1, 2, 2, 3, 2, 3, 3, 4, 2, 3, 3, 4, 3, 4, 4, 5, 2, 3, 3, 4, 3, 4, 4, 5, 3, 4, 4, 5, 4, 5, 5, 6, 2, 3, 3, 4, 3, 4, 4, 5, 3, 4, 4, 5, 4, 5, 5, 6, 3, 4, 4, 5, 4, 5, 5, 6, 4, 5, 5, 6, 5, 6, 6, 7, 2, 3, 3, 4, 3, 4, 4, 5, 3, 4, 4, 5, 4, 5, 5, 6, 3, 4, 4, 5, 4, 5, 5, 6, 4, 5, 5, 6, 5, 6, 6, 7, 3, 4, 4, 5, 4, 5, 5, 6, 4, 5, 5, 6, 5, 6, 6, 7, 4, 5, 5, 6, 5, 6, 6, 7, 5, 6, 6, 7, 6, 7, 7, 8]⟩)) (.tmp 4), none⟩,
  ⟨(some 6), .mv (.tmp 0), none⟩,
  ⟨(some 7), .bin .shr (.tmp 6) (.const (.int .u64 16)), none⟩,
  ⟨(some 8), .bin .and (.tmp 7) (.const (.int .u32 255)), none⟩,
  ⟨(some 9), .idxs (.const (.string ⟨#[0, 1, 1, 2, 1, 2, 2, 3, 1, 2, 2, 3, 2, 3, 3, 4, 1, 2, 2, 3, 2, 3, 3, 4, 2, 3, 3, 4, 3, 4, 4, 5, 1, 2, 2, 3, 2, 3, 3, 4, 2, 3, 3, 4, 3, 4, 4, 5, 2, 3, 3, 4, 3, 4, 4, 5, 3, 4, 4, 5, 4, 5, 5, 6, 1, 2, 2, 3, 2, 3, 3, 4, 2, 3, 3, 4, 3, 4, 4, 5, 2, 3, 3, 4, 3, 4, 4, 5, 3, 4, 4, 5, 4, 5, 5, 6, 2, 3, 3, 4, 3, 4, 4, 5, 3, 4, 4, 5, 4, 5, 5, 6, 3, 4, 4, 5, 4, 5, 5, 6, 4, 5, 5, 6, 5, 6, 6, 7, 1, 2, 2, 3, 2, 3, 3, 4, 2, 3, 3, 4, 3, 4, 4, 5, 2, 3, 3, 4, 3, 4, 4, 5, 3, 4, 4, 5, 4, 5, 5, 6, 2, 3, 3, 4, 3, 4, 4, 5, 3, 4, 4, 5, 4, 5, 5, 6, 3, 4, 4, 5, 4, 5, 5, 6, 4, 5, 5, 6, 5, 6, 6, 7, 2, 3, 3, 4, 3, 4, 4, 5, 3, 4, 4, 5, 4, 5, 5, 6, 3, 4, 4, 5, 4, 5, 5, 6, 4, 5, 5, 6, 5, 6, 6, 7, 3, 4, 4, 5, 4, 5, 5, 6, 4, 5, 5, 6, 5, 6, 6, 7, 4, 5, 5, 6, 5, 6, 6, 7, 5, 6, 6, 7, 6, 7, 7, 8]⟩)) (.tmp 8), none⟩,
  ⟨(some 10), .bin .add (.tmp 5) (.tmp 9), none⟩,
  ⟨(some 11), .mv (.tmp 0), none⟩,
  ⟨(some 12), .bin .shr (.tmp 11) (.const (.int .u64 8)), none⟩,
  ⟨(some 13), .bin .and (.tmp 12) (.const (.int .u32 255)), none⟩,
  ⟨(some 14), .idxs (.const (.string ⟨#[0, 1, 1, 2, 1, 2, 2, 3, 1, 2, 2, 3, 2, 3, 3, 4, 1, 2, 2, 3, 2, 3, 3, 4, 2, 3, 3, 4, 3, 4, 4, 5, 1, 2, 2, 3, 2, 3, 3, 4, 2, 3, 3, 4, 3, 4, 4, 5, 2, 3, 3, 4, 3, 4, 4, 5, 3, 4, 4, 5, 4, 5, 5, 6, 1, 2, 2, 3, 2, 3, 3, 4, 2, 3, 3, 4, 3, 4, 4, 5, 2, 3, 3, 4, 3, 4, 4, 5, 3, 4, 4, 5, 4, 5, 5, 6, 2, 3, 3, 4, 3, 4, 4, 5, 3, 4, 4, 5, 4, 5, 5, 6, 3, 4, 4, 5, 4, 5, 5, 6, 4, 5, 5, 6, 5, 6, 6, 7, 1, 2, 2, 3, 2, 3, 3, 4, 2, 3, 3, 4, 3, 4, 4, 5, 2, 3, 3, 4, 3, 4, 4, 5, 3, 4, 4, 5, 4, 5, 5, 6, 2, 3, 3, 4, 3, 4, 4, 5, 3, 4, 4, 5, 4, 5, 5, 6, 3, 4, 4, 5, 4, 5, 5, 6, 4, 5, 5, 6, 5, 6, 6, 7, 2, 3, 3, 4, 3, 4, 4, 5, 3, 4, 4, 5, 4, 5, 5, 6, 3, 4, 4, 5, 4, 5, 5, 6, 4, 5, 5, 6, 5, 6, 6, 7, 3, 4, 4, 5, 4, 5, 5, 6, 4, 5, 5, 6, 5, 6, 6, 7, 4, 5, 5, 6, 5, 6, 6, 7, 5, 6, 6, 7, 6, 7, 7, 8]⟩)) (.tmp 13), none⟩,
  ⟨(some 15), .bin .add (.tmp 10) (.tmp 14), none⟩,
  ⟨(some 16), .mv (.tmp 0), none⟩,
  ⟨(some 17), .bin .and (.tmp 16) (.const (.int .u32 255)), none⟩,
  ⟨(some 18), .idxs (.const (.string ⟨#[0, 1, 1, 2, 1, 2, 2, 3, 1, 2, 2, 3, 2, 3, 3, 4, 1, 2, 2, 3, 2, 3, 3, 4, 2, 3, 3, 4, 3, 4, 4, 5, 1, 2, 2, 3, 2, 3, 3, 4, 2, 3, 3, 4, 3, 4, 4, 5, 2, 3, 3, 4, 3, 4, 4, 5, 3, 4, 4, 5, 4, 5, 5, 6, 1, 2, 2, 3, 2, 3, 3, 4, 2, 3, 3, 4, 3, 4, 4, 5, 2, 3, 3, 4, 3, 4, 4, 5, 3, 4, 4, 5, 4, 5, 5, 6, 2, 3, 3, 4, 3, 4, 4, 5, 3, 4, 4, 5, 4, 5, 5, 6, 3, 4, 4, 5, 4, 5, 5, 6, 4, 5, 5, 6, 5, 6, 6, 7, 1, 2, 2, 3, 2, 3, 3, 4, 2, 3, 3, 4, 3, 4, 4, 5, 2, 3, 3, 4, 3, 4, 4, 5, 3, 4, 4, 5, 4, 5, 5, 6, 2, 3, 3, 4, 3, 4, 4, 5, 3, 4, 4, 5, 4, 5, 5, 6, 3, 4, 4, 5, 4, 5, 5, 6, 4, 5, 5, 6, 5, 6, 6, 7, 2, 3, 3, 4, 3, 4, 4, 5, 3, 4, 4, 5, 4, 5, 5, 6, 3, 4, 4, 5, 4, 5, 5, 6, 4, 5, 5, 6, 5, 6, 6, 7, 3, 4, 4, 5, 4, 5, 5, 6, 4, 5, 5, 6, 5, 6, 6, 7, 4, 5, 5, 6, 5, 6, 6, 7, 5, 6, 6, 7, 6, 7, 7, 8]⟩)) (.tmp 17), none⟩,
  ⟨(some 19), .bin .add (.tmp 15) (.tmp 18), none⟩,
  ⟨(some 20), .conv .i64 (.tmp 19), none⟩,
  ⟨(some 2), .mv (.tmp 20), none⟩])
 (.ret))
def r_math_bits_OnesCount32 : List ARes := [.tmp 2]
theorem ok_math_bits_OnesCount32 : FnOk Try.prog 168 21 c_math_bits_OnesCount32 r_math_bits_OnesCount32 := ⟨⟨Try.f168, _, Try.func168, by kernel_rfl, rfl, rfl, by kernel_rfl, by kernel_rfl⟩⟩
def c_math_bits_OnesCount64 : ACode := .seq (.reg [⟨(some 2), .mv (.const (.int .i64 0)), none⟩])
 (.seq (.reg [⟨(some 3), .mv (.tmp 0), none⟩,
  ⟨(some 4), .bin .shr (.tmp 3) (.const (.int .u64 1)), none⟩,
  ⟨(some 5), .bin .and (.tmp 4) (.const (.int .u64 6148914691236517205)), none⟩,
  ⟨(some 6), .mv (.tmp 0), none⟩,
  ⟨(some 7), .bin .and (.tmp 6) (.const (.int .u64 6148914691236517205)), none⟩,
  ⟨(some 8), .bin .add (.tmp 5) (.tmp 7), none⟩,
  ⟨(some 0), .mv (.tmp 8), none⟩])
 (.seq (.reg [⟨(some 9), .mv (.tmp 0), none⟩,
  ⟨(some 10), .bin .shr (.tmp 9) (.const (.int .u64 2)), none⟩,
  ⟨(some 11), .bin .and (.tmp 10) (.const (.int .u64 3689348814741910323)), none⟩,
  ⟨(some 12), .mv (.tmp 0), none⟩,
  ⟨(some 13), .bin .and (.tmp 12) (.const (.int .u64 3689348814741910323)), none⟩,
  ⟨(some 14), .bin .add (.tmp 11) (.tmp 13), none⟩,
  ⟨(some 0), .mv (.tmp 14), none⟩])
 (.seq (.reg [⟨(some 15), .mv (.tmp 0), none⟩,
  ⟨(some 16), .bin .shr (.tmp 15) (.const (.int .u64 4)), none⟩,
  ⟨(some 17), .mv (.tmp 0), none⟩,
  ⟨(some 18), .bin .add (.tmp 16) (.tmp 17), none⟩,
  ⟨(some 19), .bin .and (.tmp 18) (.const (.int .u64 1085102592571150095)), none⟩,
  ⟨(some 0), .mv (.tmp 19), none⟩])
 (.seq (.reg [⟨(some 20), .mv (.tmp 0), none⟩,
  ⟨(some 21), .mv (.tmp 0), none⟩,
  ⟨(some 22), .bin .shr (.tmp 21) (.const (.int .u64 8)), none⟩,
  ⟨(some 23), .bin .add (.tmp 20) (.tmp 22), none⟩,
  ⟨(some 0), .mv (.tmp 23), none⟩])
 (.seq (.reg [⟨(some 24), .mv (.tmp 0), none⟩,
  ⟨(some 25), .mv (.tmp 0), none⟩,
  ⟨(some 26), .bin .shr (.tmp 25) (.const (.int .u64 16)), none⟩,
  ⟨(some 27), .bin .add (.tmp 24) (.tmp 26), none⟩,
  ⟨(some 0), .mv (.tmp 27), none⟩])
 (.seq (.reg [⟨(some 28), .mv (.tmp 0), none⟩,
  ⟨(some 29), .mv (.tmp 0), none⟩,
  ⟨(some 30), .bin .shr (.tmp 29) (.const (.int .u64 32)), none⟩,
  ⟨(some 31), .bin .add (.tmp 28) (.tmp 30), none⟩,
  ⟨(some 0), .mv (.tmp 31), none⟩])
 (.seq (.reg [⟨(some 32), .mv (.tmp 0), none⟩,
  ⟨(some 33), .conv .i64 (.tmp 32), none⟩,
  ⟨(some 34), .bin .and (.tmp 33) (.const (.int .i64 127)), none⟩,
  ⟨(some 2), .mv (.tmp 34), none⟩])
 (.ret))))))))
def r_math_bits_OnesCount64 : List ARes := [.tmp 2]
theorem ok_math_bits_OnesCount64 : FnOk Try.prog 169 35 c_math_bits_OnesCount64 r_math_bits_OnesCount64 := ⟨⟨Try.f169, _, Try.func169, by kernel_rfl, rfl, rfl, by kernel_rfl, by kernel_rfl⟩⟩
def c_impl_kit__bestFor : ACode := .seq (.reg [⟨(some 4), .alc 92 [(.int .i64 0), (.slice none 0 0)], none⟩])
 (.seq (.reg [⟨(some 9), .bld [(.int .i64 0), (.slice none 0 0)] [], none⟩,
  ⟨(some 5), .alc 92 [(.int .i64 0), (.slice none 0 0)], none⟩,
  ⟨none, .st 2 (.tmp 5) (.tmp 9), none⟩])
 (.seq (.seq (.reg [⟨(some 10), .mv (.tmp 0), none⟩,
  ⟨(some 11), .len (.tmp 10), none⟩,
  ⟨(some 12), .mv (.const (.int .i64 0)), none⟩])
 (.block 0 (.loop (.seq (.reg [⟨(some 13), .bin .lss (.tmp 12) (.tmp 11), none⟩])
 (.seq (.cond (.tmp 13) (.skip) (.exit 0))
 (.seq (.block 1 (.seq (.reg [⟨(some 14), .iad 1 (.tmp 10) (.tmp 12), none⟩,
  ⟨(some 15), .ld none (.tmp 14), none⟩,
  ⟨(some 7), .mv (.tmp 15), none⟩])
 (.seq (.reg [⟨(some 16), .mv (.tmp 7), none⟩,
  ⟨(some 17), .mv (.tmp 1), none⟩,
  ⟨(some 18), .never, none⟩,
  ⟨(some 8), .alc 92 [(.int .i64 0), (.slice none 0 0)], none⟩,
  ⟨none, .st 2 (.tmp 8) (.tmp 18), none⟩])
 (.seq (.reg [⟨(some 19), .fad 0 (.tmp 5), none⟩]) (.seq (.reg [⟨(some 21), .fad 0 (.tmp 8), none⟩]) (.seq (.reg [⟨(some 24), .fad 1 (.tmp 5), none⟩]) (.seq (.reg [⟨(some 25), .ld none (.tmp 24), none⟩]) (.seq (.reg [⟨(some 26), .fad 1 (.tmp 8), none⟩]) (.seq (.reg [⟨(some 27), .ld none (.tmp 26), none⟩]) (.both (.seq (.reg [⟨(some 20), .ld none (.tmp 19), none⟩]) (.both (.seq (.reg [⟨(some 22), .ld none (.tmp 21), none⟩]) (.seq (.reg [⟨(some 23), .bin .add (.tmp 20) (.tmp 22), none⟩]) (.seq (.reg [⟨(some 28), .app 95 1 8 (.tmp 25) (.tmp 27), none⟩]) (.seq (.reg [⟨(some 29), .bld [(.int .i64 0), (.slice none 0 0)] [(0, 1, (.tmp 23)), (1, 1, (.tmp 28))], none⟩]) (.seq (.reg [⟨none, .st 2 (.tmp 5) (.tmp 29), none⟩]) (.skip)))))) (.seq (.reg [⟨(some 28), .app 95 1 8 (.tmp 25) (.tmp 27), none⟩]) (.seq (.reg [⟨(some 22), .ld none (.tmp 21), none⟩]) (.seq (.reg [⟨(some 23), .bin .add (.tmp 20) (.tmp 22), none⟩]) (.seq (.reg [⟨(some 29), .bld [(.int .i64 0), (.slice none 0 0)] [(0, 1, (.tmp 23)), (1, 1, (.tmp 28))], none⟩]) (.seq (.reg [⟨none, .st 2 (.tmp 5) (.tmp 29), none⟩]) (.skip)))))))) (.both (.seq (.reg [⟨(some 22), .ld none (.tmp 21), none⟩]) (.both (.seq (.reg [⟨(some 20), .ld none (.tmp 19), none⟩]) (.seq (.reg [⟨(some 23), .bin .add (.tmp 20) (.tmp 22), none⟩]) (.seq (.reg [⟨(some 28), .app 95 1 8 (.tmp 25) (.tmp 27), none⟩]) (.seq (.reg [⟨(some 29), .bld [(.int .i64 0), (.slice none 0 0)] [(0, 1, (.tmp 23)), (1, 1, (.tmp 28))], none⟩]) (.seq (.reg [⟨none, .st 2 (.tmp 5) (.tmp 29), none⟩]) (.skip)))))) (.seq (.reg [⟨(some 28), .app 95 1 8 (.tmp 25) (.tmp 27), none⟩]) (.seq (.reg [⟨(some 20), .ld none (.tmp 19), none⟩]) (.seq (.reg [⟨(some 23), .bin .add (.tmp 20) (.tmp 22), none⟩]) (.seq (.reg [⟨(some 29), .bld [(.int .i64 0), (.slice none 0 0)] [(0, 1, (.tmp 23)), (1, 1, (.tmp 28))], none⟩]) (.seq (.reg [⟨none, .st 2 (.tmp 5) (.tmp 29), none⟩]) (.skip)))))))) (.seq (.reg [⟨(some 28), .app 95 1 8 (.tmp 25) (.tmp 27), none⟩]) (.seq (.reg [⟨(some 20), .ld none (.tmp 19), none⟩]) (.seq (.reg [⟨(some 22), .ld none (.tmp 21), none⟩]) (.seq (.reg [⟨(some 23), .bin .add (.tmp 20) (.tmp 22), none⟩]) (.seq (.reg [⟨(some 29), .bld [(.int .i64 0), (.slice none 0 0)] [(0, 1, (.tmp 23)), (1, 1, (.tmp 28))], none⟩]) (.seq (.reg [⟨none, .st 2 (.tmp 5) (.tmp 29), none⟩]) (.skip))))))))))))))))))
 (.reg [⟨(some 30), .bin .add (.tmp 12) (.const (.int .i64 1)), none⟩,
  ⟨(some 12), .mv (.tmp 30), none⟩])))))))
 (.seq (.reg [⟨(some 31), .ld (some 2) (.tmp 5), none⟩,
  ⟨none, .st 2 (.tmp 4) (.tmp 31), none⟩])
 (.ret))))
def r_impl_kit__bestFor : List ARes := [.cell 4 (some 2)]
theorem ok_impl_kit__bestFor : FnOk Try.prog 186 32 c_impl_kit__bestFor r_impl_kit__bestFor := ⟨⟨Try.f186, _, Try.func186, by kernel_rfl, rfl, rfl, by kernel_rfl, by kernel_rfl⟩⟩
def c_impl_outside__bestFor : ACode := .seq (.reg [⟨(some 2), .box 89 (.tmp 0), none⟩,
  ⟨(some 4), .alc 92 [(.int .i64 0), (.slice none 0 0)], none⟩])
 (.seq (.reg [⟨(some 5), .bld [(.int .i64 0), (.slice none 0 0)] [], none⟩,
  ⟨none, .st 2 (.tmp 4) (.tmp 5), none⟩])
 (.ret))
def r_impl_outside__bestFor : List ARes := [.cell 4 (some 2)]
theorem ok_impl_outside__bestFor : FnOk Try.prog 187 6 c_impl_outside__bestFor r_impl_outside__bestFor := ⟨⟨Try.f187, _, Try.func187, by kernel_rfl, rfl, rfl, by kernel_rfl, by kernel_rfl⟩⟩
end Go.Proofs.Ytamhhicnfpemeaa.Ab
