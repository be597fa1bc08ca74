/- The compiled forms of functions, each checked against the translation. -/
import Derived.Test.YtncajinepljdhaaAb2
import Derived.Test.YtncajinepljdhaaProg
namespace Go.Proofs.Ytncajinepljdhaa.Ab
open Go Go.RowKit Go.Proofs
set_option maxRecDepth 100000
def c_impl_ForwardCosts : ACode := .seq (.reg [⟨(some 1), .box 26 (.tmp 0), none⟩,
  ⟨(some 2), .mv (.const (.slice none 0 0)), none⟩,
  ⟨(some 3), .mv (.const (.bool false)), none⟩])
 (.seq (.seq (.reg [⟨(some 6), .ld (some 4) (.tmp 1), none⟩,
  ⟨(some 7), .call (.func 62) [(.tmp 6)], none⟩,
  ⟨(some 8), .un .not (.tmp 7), none⟩])
 (.cond (.tmp 8) (.seq (.reg [⟨(some 9), .bsl 3 1 0 [] [], none⟩,
  ⟨(some 2), .mv (.tmp 9), none⟩,
  ⟨(some 3), .mv (.const (.bool false)), none⟩])
 (.ret)) (.skip)))
 (.seq (.reg [⟨(some 11), .ld (some 4) (.tmp 1), none⟩,
  ⟨(some 12), .call (.func 128) [(.tmp 11)], none⟩,
  ⟨(some 10), .mv (.tmp 12), none⟩,
  ⟨(some 13), .ext 0 (.tmp 10), none⟩,
  ⟨(some 14), .ext 1 (.tmp 10), none⟩,
  ⟨(some 4), .mv (.tmp 13), none⟩,
  ⟨(some 5), .mv (.tmp 14), none⟩])
 (.seq (.reg [⟨(some 15), .mv (.tmp 4), none⟩,
  ⟨(some 2), .mv (.tmp 15), none⟩,
  ⟨(some 3), .mv (.const (.bool true)), none⟩])
 (.ret))))
def r_impl_ForwardCosts : List ARes := [.tmp 2, .tmp 3]
theorem ok_impl_ForwardCosts : FnOk Try.prog 15 16 c_impl_ForwardCosts r_impl_ForwardCosts := ⟨⟨Try.f15, _, Try.func15, by kernel_rfl, rfl, rfl, by kernel_rfl, by kernel_rfl⟩⟩
def c_impl_BackwardCosts : ACode := .seq (.reg [⟨(some 1), .box 26 (.tmp 0), none⟩,
  ⟨(some 2), .mv (.const (.slice none 0 0)), none⟩,
  ⟨(some 3), .mv (.const (.bool false)), none⟩])
 (.seq (.seq (.reg [⟨(some 4), .ld (some 4) (.tmp 1), none⟩,
  ⟨(some 5), .call (.func 62) [(.tmp 4)], none⟩,
  ⟨(some 6), .un .not (.tmp 5), none⟩])
 (.cond (.tmp 6) (.seq (.reg [⟨(some 7), .bsl 3 1 0 [] [], none⟩,
  ⟨(some 2), .mv (.tmp 7), none⟩,
  ⟨(some 3), .mv (.const (.bool false)), none⟩])
 (.ret)) (.skip)))
 (.seq (.reg [⟨(some 8), .ld (some 4) (.tmp 1), none⟩,
  ⟨(some 9), .call (.func 131) [(.tmp 8)], none⟩,
  ⟨(some 2), .mv (.tmp 9), none⟩,
  ⟨(some 3), .mv (.const (.bool true)), none⟩])
 (.ret)))
def r_impl_BackwardCosts : List ARes := [.tmp 2, .tmp 3]
theorem ok_impl_BackwardCosts : FnOk Try.prog 17 10 c_impl_BackwardCosts r_impl_BackwardCosts := ⟨⟨Try.f17, _, Try.func17, by kernel_rfl, rfl, rfl, by kernel_rfl, by kernel_rfl⟩⟩
def c_impl_TurningPeriods : ACode := .seq (.reg [⟨(some 1), .box 26 (.tmp 0), none⟩,
  ⟨(some 2), .mv (.const (.slice none 0 0)), none⟩,
  ⟨(some 3), .mv (.const (.bool false)), none⟩])
 (.seq (.seq (.reg [⟨(some 10), .ld (some 4) (.tmp 1), none⟩,
  ⟨(some 11), .call (.func 62) [(.tmp 10)], none⟩,
  ⟨(some 12), .un .not (.tmp 11), none⟩])
 (.cond (.tmp 12) (.seq (.reg [⟨(some 13), .bsl 3 1 0 [] [], none⟩,
  ⟨(some 2), .mv (.tmp 13), none⟩,
  ⟨(some 3), .mv (.const (.bool false)), none⟩])
 (.ret)) (.skip)))
 (.seq (.reg [⟨(some 15), .ld (some 4) (.tmp 1), none⟩,
  ⟨(some 16), .call (.func 128) [(.tmp 15)], none⟩,
  ⟨(some 14), .mv (.tmp 16), none⟩,
  ⟨(some 17), .ext 0 (.tmp 14), none⟩,
  ⟨(some 18), .ext 1 (.tmp 14), none⟩,
  ⟨(some 4), .mv (.tmp 17), none⟩,
  ⟨(some 5), .mv (.tmp 18), none⟩])
 (.seq (.reg [⟨(some 19), .ld (some 4) (.tmp 1), none⟩,
  ⟨(some 20), .call (.func 131) [(.tmp 19)], none⟩,
  ⟨(some 6), .mv (.tmp 20), none⟩])
 (.seq (.reg [⟨(some 21), .mv (.tmp 6), none⟩,
  ⟨(some 22), .iad 1 (.tmp 21) (.const (.int .i64 0)), none⟩,
  ⟨(some 23), .ld none (.tmp 22), none⟩,
  ⟨(some 7), .alc 3 [(.int .i64 0)], none⟩,
  ⟨none, .st 1 (.tmp 7) (.tmp 23), none⟩])
 (.seq (.seq (.reg [⟨(some 24), .mv (.tmp 4), none⟩,
  ⟨(some 25), .len (.tmp 24), none⟩,
  ⟨(some 26), .mv (.const (.int .i64 0)), none⟩])
 (.block 0 (.loop (.seq (.reg [⟨(some 27), .bin .lss (.tmp 26) (.tmp 25), none⟩])
 (.seq (.cond (.tmp 27) (.skip) (.exit 0))
 (.seq (.block 1 (.seq (.reg [⟨(some 28), .mv (.tmp 26), none⟩,
  ⟨(some 29), .iad 1 (.tmp 24) (.tmp 26), none⟩,
  ⟨(some 30), .ld none (.tmp 29), none⟩,
  ⟨(some 8), .mv (.tmp 28), none⟩,
  ⟨(some 9), .mv (.tmp 30), none⟩])
 (.reg [⟨(some 31), .mv (.tmp 6), none⟩,
  ⟨(some 32), .mv (.tmp 8), none⟩,
  ⟨(some 33), .iad 1 (.tmp 31) (.tmp 32), none⟩,
  ⟨(some 34), .ld none (.tmp 33), none⟩,
  ⟨(some 35), .mv (.tmp 9), none⟩,
  ⟨(some 36), .bin .add (.tmp 34) (.tmp 35), none⟩,
  ⟨(some 37), .iad 1 (.tmp 31) (.tmp 32), none⟩,
  ⟨none, .st 1 (.tmp 37) (.tmp 36), none⟩])))
 (.reg [⟨(some 38), .bin .add (.tmp 26) (.const (.int .i64 1)), none⟩,
  ⟨(some 26), .mv (.tmp 38), none⟩])))))))
 (.seq (.reg [⟨(some 39), .mv (.tmp 6), none⟩,
  ⟨(some 40), .mkf 134 [] [(.tmp 7)], none⟩,
  ⟨(some 41), .call (.func 133) [(.tmp 39), (.tmp 40)], none⟩,
  ⟨(some 2), .mv (.tmp 41), none⟩,
  ⟨(some 3), .mv (.const (.bool true)), none⟩])
 (.ret)))))))
def r_impl_TurningPeriods : List ARes := [.tmp 2, .tmp 3]
theorem ok_impl_TurningPeriods : FnOk Try.prog 19 42 c_impl_TurningPeriods r_impl_TurningPeriods := ⟨⟨Try.f19, _, Try.func19, by kernel_rfl, rfl, rfl, by kernel_rfl, by kernel_rfl⟩⟩
def c_impl_SpanCost : ACode := .seq (.reg [⟨(some 3), .box 26 (.tmp 0), none⟩,
  ⟨(some 6), .mv (.const (.int .i64 0)), none⟩,
  ⟨(some 7), .mv (.const (.bool false)), none⟩])
 (.seq (.seq (.reg [⟨(some 8), .ld (some 4) (.tmp 3), none⟩,
  ⟨(some 9), .call (.func 62) [(.tmp 8)], none⟩,
  ⟨(some 10), .un .not (.tmp 9), none⟩,
  ⟨(some 11), .mv (.tmp 10), none⟩,
  ⟨(some 12), .mv (.tmp 1), (some (11, false))⟩,
  ⟨(some 13), .bin .lss (.tmp 12) (.const (.int .i64 0)), (some (11, false))⟩,
  ⟨(some 14), .pick (.tmp 11) (.const (.bool true)) (.tmp 13), none⟩,
  ⟨(some 15), .mv (.tmp 14), none⟩,
  ⟨(some 16), .mv (.tmp 1), (some (15, false))⟩,
  ⟨(some 17), .mv (.tmp 2), (some (15, false))⟩,
  ⟨(some 18), .bin .geq (.tmp 16) (.tmp 17), (some (15, false))⟩,
  ⟨(some 19), .pick (.tmp 15) (.const (.bool true)) (.tmp 18), none⟩,
  ⟨(some 20), .mv (.tmp 19), none⟩,
  ⟨(some 21), .mv (.tmp 2), (some (20, false))⟩,
  ⟨(some 22), .fad 0 (.tmp 3), (some (20, false))⟩,
  ⟨(some 23), .ld none (.tmp 22), (some (20, false))⟩,
  ⟨(some 24), .len (.tmp 23), (some (20, false))⟩,
  ⟨(some 25), .bin .gtr (.tmp 21) (.tmp 24), (some (20, false))⟩,
  ⟨(some 26), .pick (.tmp 20) (.const (.bool true)) (.tmp 25), none⟩])
 (.cond (.tmp 26) (.seq (.reg [⟨(some 6), .mv (.const (.int .i64 0)), none⟩,
  ⟨(some 7), .mv (.const (.bool false)), none⟩])
 (.ret)) (.skip)))
 (.seq (.reg [⟨(some 27), .ld (some 4) (.tmp 3), none⟩,
  ⟨(some 28), .mv (.tmp 1), none⟩,
  ⟨(some 29), .mv (.tmp 2), none⟩,
  ⟨(some 30), .call (.func 136) [(.tmp 27), (.tmp 28), (.tmp 29)], none⟩,
  ⟨(some 6), .mv (.tmp 30), none⟩,
  ⟨(some 7), .mv (.const (.bool true)), none⟩])
 (.ret)))
def r_impl_SpanCost : List ARes := [.tmp 6, .tmp 7]
theorem ok_impl_SpanCost : FnOk Try.prog 23 31 c_impl_SpanCost r_impl_SpanCost := ⟨⟨Try.f23, _, Try.func23, by kernel_rfl, rfl, rfl, by kernel_rfl, by kernel_rfl⟩⟩
def c_impl_RateOf : ACode := .seq (.reg [⟨(some 3), .box 26 (.tmp 0), none⟩,
  ⟨(some 6), .mv (.const (.int .i64 0)), none⟩,
  ⟨(some 7), .mv (.const (.bool false)), none⟩])
 (.seq (.seq (.reg [⟨(some 8), .ld (some 4) (.tmp 3), none⟩,
  ⟨(some 9), .call (.func 62) [(.tmp 8)], none⟩,
  ⟨(some 10), .un .not (.tmp 9), none⟩,
  ⟨(some 11), .mv (.tmp 10), none⟩,
  ⟨(some 12), .mv (.tmp 1), (some (11, false))⟩,
  ⟨(some 13), .bin .lss (.tmp 12) (.const (.int .i64 0)), (some (11, false))⟩,
  ⟨(some 14), .pick (.tmp 11) (.const (.bool true)) (.tmp 13), none⟩,
  ⟨(some 15), .mv (.tmp 14), none⟩,
  ⟨(some 16), .mv (.tmp 1), (some (15, false))⟩,
  ⟨(some 17), .mv (.tmp 2), (some (15, false))⟩,
  ⟨(some 18), .bin .gtr (.tmp 16) (.tmp 17), (some (15, false))⟩,
  ⟨(some 19), .pick (.tmp 15) (.const (.bool true)) (.tmp 18), none⟩,
  ⟨(some 20), .mv (.tmp 19), none⟩,
  ⟨(some 21), .mv (.tmp 2), (some (20, false))⟩,
  ⟨(some 22), .fad 0 (.tmp 3), (some (20, false))⟩,
  ⟨(some 23), .ld none (.tmp 22), (some (20, false))⟩,
  ⟨(some 24), .len (.tmp 23), (some (20, false))⟩,
  ⟨(some 25), .bin .geq (.tmp 21) (.tmp 24), (some (20, false))⟩,
  ⟨(some 26), .pick (.tmp 20) (.const (.bool true)) (.tmp 25), none⟩])
 (.cond (.tmp 26) (.seq (.reg [⟨(some 6), .mv (.const (.int .i64 0)), none⟩,
  ⟨(some 7), .mv (.const (.bool false)), none⟩])
 (.ret)) (.skip)))
 (.seq (.reg [⟨(some 27), .ld (some 4) (.tmp 3), none⟩,
  ⟨(some 28), .mv (.tmp 1), none⟩,
  ⟨(some 29), .mv (.tmp 2), none⟩,
  ⟨(some 30), .call (.func 139) [(.tmp 27), (.tmp 28), (.tmp 29)], none⟩,
  ⟨(some 6), .mv (.tmp 30), none⟩,
  ⟨(some 7), .mv (.const (.bool true)), none⟩])
 (.ret)))
def r_impl_RateOf : List ARes := [.tmp 6, .tmp 7]
theorem ok_impl_RateOf : FnOk Try.prog 25 31 c_impl_RateOf r_impl_RateOf := ⟨⟨Try.f25, _, Try.func25, by kernel_rfl, rfl, rfl, by kernel_rfl, by kernel_rfl⟩⟩
def c_impl_CutCase : ACode := .seq (.reg [⟨(some 3), .box 26 (.tmp 0), none⟩,
  ⟨(some 4), .box 3 (.tmp 1), none⟩,
  ⟨(some 5), .box 3 (.tmp 2), none⟩,
  ⟨(some 6), .alc 26 [(.slice none 0 0), (.slice none 0 0), (.slice none 0 0), (.slice none 0 0)], none⟩,
  ⟨(some 7), .mv (.const (.bool false)), none⟩])
 (.seq (.seq (.reg [⟨(some 9), .ld (some 4) (.tmp 3), none⟩,
  ⟨(some 10), .call (.func 62) [(.tmp 9)], none⟩,
  ⟨(some 11), .un .not (.tmp 10), none⟩,
  ⟨(some 12), .mv (.tmp 11), none⟩,
  ⟨(some 13), .ld none (.tmp 4), (some (12, false))⟩,
  ⟨(some 14), .bin .lss (.tmp 13) (.const (.int .i64 0)), (some (12, false))⟩,
  ⟨(some 15), .pick (.tmp 12) (.const (.bool true)) (.tmp 14), none⟩,
  ⟨(some 16), .mv (.tmp 15), none⟩,
  ⟨(some 17), .ld none (.tmp 4), (some (16, false))⟩,
  ⟨(some 18), .ld none (.tmp 5), (some (16, false))⟩,
  ⟨(some 19), .bin .gtr (.tmp 17) (.tmp 18), (some (16, false))⟩,
  ⟨(some 20), .pick (.tmp 16) (.const (.bool true)) (.tmp 19), none⟩,
  ⟨(some 21), .mv (.tmp 20), none⟩,
  ⟨(some 22), .ld none (.tmp 5), (some (21, false))⟩,
  ⟨(some 23), .fad 0 (.tmp 3), (some (21, false))⟩,
  ⟨(some 24), .ld none (.tmp 23), (some (21, false))⟩,
  ⟨(some 25), .len (.tmp 24), (some (21, false))⟩,
  ⟨(some 26), .bin .gtr (.tmp 22) (.tmp 25), (some (21, false))⟩,
  ⟨(some 27), .pick (.tmp 21) (.const (.bool true)) (.tmp 26), none⟩])
 (.cond (.tmp 27) (.seq (.reg [⟨(some 28), .bld [(.slice none 0 0), (.slice none 0 0), (.slice none 0 0), (.slice none 0 0)] [], none⟩,
  ⟨none, .st 4 (.tmp 6) (.tmp 28), none⟩,
  ⟨(some 7), .mv (.const (.bool false)), none⟩])
 (.ret)) (.skip)))
 (.seq (.reg [⟨(some 29), .mkf 142 [] [(.tmp 4), (.tmp 5)], none⟩,
  ⟨(some 8), .mv (.tmp 29), none⟩])
 (.seq (.reg [⟨(some 30), .mv (.tmp 8), none⟩,
  ⟨(some 31), .fad 0 (.tmp 3), none⟩,
  ⟨(some 32), .ld none (.tmp 31), none⟩,
  ⟨(some 34), .mv (.tmp 8), none⟩,
  ⟨(some 35), .fad 1 (.tmp 3), none⟩,
  ⟨(some 36), .ld none (.tmp 35), none⟩,
  ⟨(some 38), .mv (.tmp 8), none⟩,
  ⟨(some 39), .fad 2 (.tmp 3), none⟩,
  ⟨(some 40), .ld none (.tmp 39), none⟩,
  ⟨(some 42), .mv (.tmp 8), none⟩,
  ⟨(some 43), .fad 3 (.tmp 3), none⟩,
  ⟨(some 44), .ld none (.tmp 43), none⟩,
  ⟨(some 33), .rcall (.tmp 30) [(.tmp 32)], none⟩,
  ⟨(some 37), .rcall (.tmp 34) [(.tmp 36)], none⟩,
  ⟨(some 41), .rcall (.tmp 38) [(.tmp 40)], none⟩,
  ⟨(some 45), .rcall (.tmp 42) [(.tmp 44)], none⟩,
  ⟨(some 46), .bld [(.slice none 0 0), (.slice none 0 0), (.slice none 0 0), (.slice none 0 0)] [(0, 1, (.tmp 33)), (1, 1, (.tmp 37)), (2, 1, (.tmp 41)), (3, 1, (.tmp 45))], none⟩,
  ⟨none, .st 4 (.tmp 6) (.tmp 46), none⟩,
  ⟨(some 7), .mv (.const (.bool true)), none⟩])
 (.ret))))
def r_impl_CutCase : List ARes := [.cell 6 (some 4), .tmp 7]
theorem ok_impl_CutCase : FnOk Try.prog 28 47 c_impl_CutCase r_impl_CutCase := ⟨⟨Try.f28, _, Try.func28, by kernel_rfl, rfl, rfl, by kernel_rfl, by kernel_rfl⟩⟩
def c_impl_BestCost : ACode := .seq (.reg [⟨(some 1), .box 26 (.tmp 0), none⟩,
  ⟨(some 2), .mv (.const (.int .i64 0)), none⟩,
  ⟨(some 3), .mv (.const (.bool false)), none⟩])
 (.seq (.seq (.reg [⟨(some 4), .ld (some 4) (.tmp 1), none⟩,
  ⟨(some 5), .call (.func 62) [(.tmp 4)], none⟩,
  ⟨(some 6), .un .not (.tmp 5), none⟩])
 (.cond (.tmp 6) (.seq (.reg [⟨(some 2), .mv (.const (.int .i64 0)), none⟩,
  ⟨(some 3), .mv (.const (.bool false)), none⟩])
 (.ret)) (.skip)))
 (.seq (.reg [⟨(some 7), .ld (some 4) (.tmp 1), none⟩,
  ⟨(some 8), .call (.func 143) [(.tmp 7)], none⟩,
  ⟨(some 9), .fld 0 none (.tmp 8), none⟩,
  ⟨(some 2), .mv (.tmp 9), none⟩,
  ⟨(some 3), .mv (.const (.bool true)), none⟩])
 (.ret)))
def r_impl_BestCost : List ARes := [.tmp 2, .tmp 3]
theorem ok_impl_BestCost : FnOk Try.prog 29 10 c_impl_BestCost r_impl_BestCost := ⟨⟨Try.f29, _, Try.func29, by kernel_rfl, rfl, rfl, by kernel_rfl, by kernel_rfl⟩⟩
def c_impl_HorizonsOf : ACode := .seq (.reg [⟨(some 1), .box 26 (.tmp 0), none⟩,
  ⟨(some 2), .mv (.const (.slice none 0 0)), none⟩,
  ⟨(some 3), .mv (.const (.bool false)), none⟩])
 (.seq (.seq (.reg [⟨(some 9), .ld (some 4) (.tmp 1), none⟩,
  ⟨(some 10), .call (.func 62) [(.tmp 9)], none⟩,
  ⟨(some 11), .un .not (.tmp 10), none⟩])
 (.cond (.tmp 11) (.seq (.reg [⟨(some 12), .bsl 3 1 0 [] [], none⟩,
  ⟨(some 2), .mv (.tmp 12), none⟩,
  ⟨(some 3), .mv (.const (.bool false)), none⟩])
 (.ret)) (.skip)))
 (.seq (.reg [⟨(some 14), .ld (some 4) (.tmp 1), none⟩,
  ⟨(some 15), .call (.func 128) [(.tmp 14)], none⟩,
  ⟨(some 13), .mv (.tmp 15), none⟩,
  ⟨(some 16), .ext 0 (.tmp 13), none⟩,
  ⟨(some 17), .ext 1 (.tmp 13), none⟩,
  ⟨(some 4), .mv (.tmp 16), none⟩,
  ⟨(some 5), .mv (.tmp 17), none⟩])
 (.seq (.reg [⟨(some 18), .bsl 3 1 0 [] [], none⟩,
  ⟨(some 6), .mv (.tmp 18), none⟩])
 (.seq (.seq (.reg [⟨(some 19), .mv (.tmp 5), none⟩,
  ⟨(some 20), .len (.tmp 19), none⟩,
  ⟨(some 21), .mv (.const (.int .i64 0)), none⟩])
 (.block 0 (.loop (.seq (.reg [⟨(some 22), .bin .lss (.tmp 21) (.tmp 20), none⟩])
 (.seq (.cond (.tmp 22) (.skip) (.exit 0))
 (.seq (.block 1 (.seq (.reg [⟨(some 23), .mv (.tmp 21), none⟩,
  ⟨(some 24), .iad 1 (.tmp 19) (.tmp 21), none⟩,
  ⟨(some 25), .ld none (.tmp 24), none⟩,
  ⟨(some 7), .mv (.tmp 23), none⟩,
  ⟨(some 8), .mv (.tmp 25), none⟩])
 (.seq (.reg [⟨(some 26), .mv (.tmp 8), none⟩,
  ⟨(some 27), .mv (.tmp 7), none⟩,
  ⟨(some 28), .bin .eql (.tmp 26) (.tmp 27), none⟩,
  ⟨(some 29), .mv (.tmp 28), none⟩,
  ⟨(some 30), .fad 0 (.tmp 1), (some (29, true))⟩,
  ⟨(some 31), .ld none (.tmp 30), (some (29, true))⟩,
  ⟨(some 32), .mv (.tmp 7), (some (29, true))⟩,
  ⟨(some 33), .iad 1 (.tmp 31) (.tmp 32), (some (29, true))⟩,
  ⟨(some 34), .ld none (.tmp 33), (some (29, true))⟩,
  ⟨(some 35), .bin .gtr (.tmp 34) (.const (.int .i64 0)), (some (29, true))⟩,
  ⟨(some 36), .pick (.tmp 29) (.tmp 35) (.const (.bool false)), none⟩])
 (.cond (.tmp 36) (.reg [⟨(some 37), .mv (.tmp 6), none⟩,
  ⟨(some 38), .mv (.tmp 7), none⟩,
  ⟨(some 39), .bin .add (.tmp 38) (.const (.int .i64 1)), none⟩,
  ⟨(some 40), .bsl 3 1 1 [(.int .i64 0)] [(0, 1, (.tmp 39))], none⟩,
  ⟨(some 41), .app 3 1 8 (.tmp 37) (.tmp 40), none⟩,
  ⟨(some 6), .mv (.tmp 41), none⟩]) (.skip)))))
 (.reg [⟨(some 42), .bin .add (.tmp 21) (.const (.int .i64 1)), none⟩,
  ⟨(some 21), .mv (.tmp 42), none⟩])))))))
 (.seq (.reg [⟨(some 43), .mv (.tmp 6), none⟩,
  ⟨(some 2), .mv (.tmp 43), none⟩,
  ⟨(some 3), .mv (.const (.bool true)), none⟩])
 (.ret))))))
def r_impl_HorizonsOf : List ARes := [.tmp 2, .tmp 3]
theorem ok_impl_HorizonsOf : FnOk Try.prog 32 44 c_impl_HorizonsOf r_impl_HorizonsOf := ⟨⟨Try.f32, _, Try.func32, by kernel_rfl, rfl, rfl, by kernel_rfl, by kernel_rfl⟩⟩
def c_impl_LastOrders : ACode := .seq (.reg [⟨(some 1), .box 26 (.tmp 0), none⟩,
  ⟨(some 2), .mv (.const (.slice none 0 0)), none⟩,
  ⟨(some 3), .mv (.const (.bool false)), none⟩])
 (.seq (.seq (.reg [⟨(some 6), .ld (some 4) (.tmp 1), none⟩,
  ⟨(some 7), .call (.func 62) [(.tmp 6)], none⟩,
  ⟨(some 8), .un .not (.tmp 7), none⟩])
 (.cond (.tmp 8) (.seq (.reg [⟨(some 9), .bsl 3 1 0 [] [], none⟩,
  ⟨(some 2), .mv (.tmp 9), none⟩,
  ⟨(some 3), .mv (.const (.bool false)), none⟩])
 (.ret)) (.skip)))
 (.seq (.reg [⟨(some 11), .ld (some 4) (.tmp 1), none⟩,
  ⟨(some 12), .call (.func 128) [(.tmp 11)], none⟩,
  ⟨(some 10), .mv (.tmp 12), none⟩,
  ⟨(some 13), .ext 0 (.tmp 10), none⟩,
  ⟨(some 14), .ext 1 (.tmp 10), none⟩,
  ⟨(some 4), .mv (.tmp 13), none⟩,
  ⟨(some 5), .mv (.tmp 14), none⟩])
 (.seq (.reg [⟨(some 15), .mv (.tmp 5), none⟩,
  ⟨(some 2), .mv (.tmp 15), none⟩,
  ⟨(some 3), .mv (.const (.bool true)), none⟩])
 (.ret))))
def r_impl_LastOrders : List ARes := [.tmp 2, .tmp 3]
theorem ok_impl_LastOrders : FnOk Try.prog 34 16 c_impl_LastOrders r_impl_LastOrders := ⟨⟨Try.f34, _, Try.func34, by kernel_rfl, rfl, rfl, by kernel_rfl, by kernel_rfl⟩⟩
def c_impl_TablePeriods : ACode := .seq (.reg [⟨(some 1), .box 26 (.tmp 0), none⟩,
  ⟨(some 2), .mv (.const (.slice none 0 0)), none⟩,
  ⟨(some 3), .mv (.const (.bool false)), none⟩])
 (.seq (.seq (.reg [⟨(some 11), .ld (some 4) (.tmp 1), none⟩,
  ⟨(some 12), .call (.func 62) [(.tmp 11)], none⟩,
  ⟨(some 13), .un .not (.tmp 12), none⟩])
 (.cond (.tmp 13) (.seq (.reg [⟨(some 14), .bsl 3 1 0 [] [], none⟩,
  ⟨(some 2), .mv (.tmp 14), none⟩,
  ⟨(some 3), .mv (.const (.bool false)), none⟩])
 (.ret)) (.skip)))
 (.seq (.reg [⟨(some 16), .ld (some 4) (.tmp 1), none⟩,
  ⟨(some 17), .call (.func 128) [(.tmp 16)], none⟩,
  ⟨(some 15), .mv (.tmp 17), none⟩,
  ⟨(some 18), .ext 0 (.tmp 15), none⟩,
  ⟨(some 19), .ext 1 (.tmp 15), none⟩,
  ⟨(some 4), .mv (.tmp 18), none⟩,
  ⟨(some 5), .mv (.tmp 19), none⟩])
 (.seq (.reg [⟨(some 20), .mv (.tmp 5), none⟩,
  ⟨(some 21), .len (.tmp 20), none⟩,
  ⟨(some 22), .mks 3 8 [(.int .i64 0)] (.tmp 21) (.tmp 21), none⟩,
  ⟨(some 6), .mv (.tmp 22), none⟩])
 (.seq (.reg [⟨(some 23), .mv (.tmp 6), none⟩,
  ⟨(some 24), .len (.tmp 23), none⟩,
  ⟨(some 7), .mv (.tmp 24), none⟩])
 (.seq (.seq (.reg [⟨(some 25), .mv (.tmp 5), none⟩,
  ⟨(some 26), .len (.tmp 25), none⟩,
  ⟨(some 8), .mv (.tmp 26), none⟩])
 (.block 0 (.loop (.seq (.seq (.reg [⟨(some 27), .mv (.tmp 8), none⟩,
  ⟨(some 28), .bin .gtr (.tmp 27) (.const (.int .i64 0)), none⟩])
 (.cond (.tmp 28) (.skip) (.exit 0)))
 (.seq (.block 1 (.seq (.reg [⟨(some 34), .mv (.tmp 5), none⟩,
  ⟨(some 35), .mv (.tmp 8), none⟩,
  ⟨(some 36), .bin .sub (.tmp 35) (.const (.int .i64 1)), none⟩,
  ⟨(some 37), .iad 1 (.tmp 34) (.tmp 36), none⟩,
  ⟨(some 38), .ld none (.tmp 37), none⟩,
  ⟨(some 9), .mv (.tmp 38), none⟩])
 (.seq (.reg [⟨(some 39), .fad 0 (.tmp 1), none⟩,
  ⟨(some 40), .ld none (.tmp 39), none⟩,
  ⟨(some 41), .mv (.tmp 9), none⟩,
  ⟨(some 42), .mv (.tmp 8), none⟩,
  ⟨(some 43), .slc 1 (.tmp 40) (some (.tmp 41)) (some (.tmp 42)), none⟩,
  ⟨(some 44), .call (.func 144) [(.tmp 43)], none⟩,
  ⟨(some 45), .bin .gtr (.tmp 44) (.const (.int .i64 0)), none⟩])
 (.cond (.tmp 45) (.seq (.reg [⟨(some 46), .mv (.tmp 7), none⟩,
  ⟨(some 47), .bin .sub (.tmp 46) (.const (.int .i64 1)), none⟩,
  ⟨(some 7), .mv (.tmp 47), none⟩])
 (.reg [⟨(some 48), .mv (.tmp 6), none⟩,
  ⟨(some 49), .mv (.tmp 7), none⟩,
  ⟨(some 50), .mv (.tmp 9), none⟩,
  ⟨(some 51), .iad 1 (.tmp 48) (.tmp 49), none⟩,
  ⟨none, .st 1 (.tmp 51) (.tmp 50), none⟩])) (.skip)))))
 (.reg [⟨(some 29), .mv (.tmp 5), none⟩,
  ⟨(some 30), .mv (.tmp 8), none⟩,
  ⟨(some 31), .bin .sub (.tmp 30) (.const (.int .i64 1)), none⟩,
  ⟨(some 32), .iad 1 (.tmp 29) (.tmp 31), none⟩,
  ⟨(some 33), .ld none (.tmp 32), none⟩,
  ⟨(some 8), .mv (.tmp 33), none⟩]))))))
 (.seq (.reg [⟨(some 52), .mv (.tmp 6), none⟩,
  ⟨(some 53), .len (.tmp 52), none⟩,
  ⟨(some 54), .mv (.tmp 7), none⟩,
  ⟨(some 55), .bin .sub (.tmp 53) (.tmp 54), none⟩,
  ⟨(some 56), .mks 3 8 [(.int .i64 0)] (.tmp 55) (.tmp 55), none⟩,
  ⟨(some 10), .mv (.tmp 56), none⟩])
 (.seq (.reg [⟨(some 57), .mv (.tmp 10), none⟩,
  ⟨(some 58), .mv (.tmp 6), none⟩,
  ⟨(some 59), .mv (.tmp 7), none⟩,
  ⟨(some 60), .slc 1 (.tmp 58) (some (.tmp 59)) none, none⟩,
  ⟨(some 61), .cpy 1 (.tmp 57) (.tmp 60), none⟩])
 (.seq (.reg [⟨(some 62), .mv (.tmp 10), none⟩,
  ⟨(some 2), .mv (.tmp 62), none⟩,
  ⟨(some 3), .mv (.const (.bool true)), none⟩])
 (.ret)))))))))
def r_impl_TablePeriods : List ARes := [.tmp 2, .tmp 3]
theorem ok_impl_TablePeriods : FnOk Try.prog 36 63 c_impl_TablePeriods r_impl_TablePeriods := ⟨⟨Try.f36, _, Try.func36, by kernel_rfl, rfl, rfl, by kernel_rfl, by kernel_rfl⟩⟩
def c_impl_PlanFrom : ACode := .seq (.reg [⟨(some 2), .box 26 (.tmp 0), none⟩,
  ⟨(some 4), .mv (.const (.slice none 0 0)), none⟩,
  ⟨(some 5), .mv (.const (.bool false)), none⟩])
 (.seq (.seq (.reg [⟨(some 10), .ld (some 4) (.tmp 2), none⟩,
  ⟨(some 11), .call (.func 62) [(.tmp 10)], none⟩,
  ⟨(some 12), .un .not (.tmp 11), none⟩,
  ⟨(some 13), .mv (.tmp 12), none⟩,
  ⟨(some 14), .mv (.tmp 1), (some (13, false))⟩,
  ⟨(some 15), .fad 0 (.tmp 2), (some (13, false))⟩,
  ⟨(some 16), .ld none (.tmp 15), (some (13, false))⟩,
  ⟨(some 17), .len (.tmp 16), (some (13, false))⟩,
  ⟨(some 18), .call (.func 146) [(.tmp 14), (.tmp 17)], (some (13, false))⟩,
  ⟨(some 19), .un .not (.tmp 18), (some (13, false))⟩,
  ⟨(some 20), .pick (.tmp 13) (.const (.bool true)) (.tmp 19), none⟩])
 (.cond (.tmp 20) (.seq (.reg [⟨(some 21), .bsl 3 1 0 [] [], none⟩,
  ⟨(some 4), .mv (.tmp 21), none⟩,
  ⟨(some 5), .mv (.const (.bool false)), none⟩])
 (.ret)) (.skip)))
 (.seq (.reg [⟨(some 22), .fad 0 (.tmp 2), none⟩,
  ⟨(some 23), .ld none (.tmp 22), none⟩,
  ⟨(some 24), .len (.tmp 23), none⟩,
  ⟨(some 25), .mks 3 8 [(.int .i64 0)] (.tmp 24) (.tmp 24), none⟩,
  ⟨(some 6), .alc 24 [(.slice none 0 0)], none⟩,
  ⟨none, .st 1 (.tmp 6) (.tmp 25), none⟩])
 (.seq (.reg [⟨(some 26), .ld none (.tmp 6), none⟩,
  ⟨(some 27), .len (.tmp 26), none⟩,
  ⟨(some 7), .alc 3 [(.int .i64 0)], none⟩,
  ⟨none, .st 1 (.tmp 7) (.tmp 27), none⟩])
 (.seq (.seq (.reg [⟨(some 28), .mv (.tmp 1), none⟩,
  ⟨(some 29), .call (.func 147) [(.tmp 28)], none⟩])
 (.block 0 (.range (.tmp 29) [30, 31] (.reg [⟨(some 9), .mv (.tmp 31), none⟩]) (.block 1 (.seq (.reg [⟨(some 32), .ld none (.tmp 6), none⟩,
  ⟨(some 33), .mv (.tmp 9), none⟩,
  ⟨(some 34), .fad 0 (.tmp 2), none⟩,
  ⟨(some 35), .ld none (.tmp 34), none⟩,
  ⟨(some 36), .mv (.tmp 9), none⟩,
  ⟨(some 37), .ld none (.tmp 7), none⟩,
  ⟨(some 38), .slc 1 (.tmp 35) (some (.tmp 36)) (some (.tmp 37)), none⟩,
  ⟨(some 39), .rcall (.func 144) [(.tmp 38)], none⟩,
  ⟨(some 40), .iad 1 (.tmp 32) (.tmp 33), none⟩,
  ⟨none, .st 1 (.tmp 40) (.tmp 39), none⟩])
 (.reg [⟨(some 41), .mv (.tmp 9), none⟩,
  ⟨none, .st 1 (.tmp 7) (.tmp 41), none⟩]))))))
 (.seq (.seq (.reg [⟨(some 42), .fad 0 (.tmp 2), none⟩,
  ⟨(some 43), .ld none (.tmp 42), none⟩,
  ⟨(some 44), .ld none (.tmp 7), none⟩,
  ⟨(some 45), .slc 1 (.tmp 43) none (some (.tmp 44)), none⟩,
  ⟨(some 46), .call (.func 144) [(.tmp 45)], none⟩,
  ⟨(some 47), .bin .gtr (.tmp 46) (.const (.int .i64 0)), none⟩])
 (.cond (.tmp 47) (.seq (.reg [⟨(some 48), .bsl 3 1 0 [] [], none⟩,
  ⟨(some 4), .mv (.tmp 48), none⟩,
  ⟨(some 5), .mv (.const (.bool false)), none⟩])
 (.ret)) (.skip)))
 (.seq (.reg [⟨(some 49), .ld none (.tmp 6), none⟩,
  ⟨(some 4), .mv (.tmp 49), none⟩,
  ⟨(some 5), .mv (.const (.bool true)), none⟩])
 (.ret)))))))
def r_impl_PlanFrom : List ARes := [.tmp 4, .tmp 5]
theorem ok_impl_PlanFrom : FnOk Try.prog 38 50 c_impl_PlanFrom r_impl_PlanFrom := ⟨⟨Try.f38, _, Try.func38, by kernel_rfl, rfl, rfl, by kernel_rfl, by kernel_rfl⟩⟩
def c_impl_PlanCost : ACode := .seq (.reg [⟨(some 2), .box 26 (.tmp 0), none⟩,
  ⟨(some 4), .mv (.const (.int .i64 0)), none⟩,
  ⟨(some 5), .mv (.const (.bool false)), none⟩])
 (.seq (.reg [⟨(some 11), .ld (some 4) (.tmp 2), none⟩,
  ⟨(some 12), .mv (.tmp 1), none⟩,
  ⟨(some 13), .call (.func 66) [(.tmp 11), (.tmp 12)], none⟩,
  ⟨(some 10), .mv (.tmp 13), none⟩,
  ⟨(some 14), .ext 0 (.tmp 10), none⟩,
  ⟨(some 15), .ext 1 (.tmp 10), none⟩,
  ⟨(some 16), .ext 2 (.tmp 10), none⟩,
  ⟨(some 17), .ext 3 (.tmp 10), none⟩,
  ⟨(some 6), .mv (.tmp 14), none⟩,
  ⟨(some 7), .mv (.tmp 15), none⟩,
  ⟨(some 8), .mv (.tmp 16), none⟩,
  ⟨(some 9), .mv (.tmp 17), none⟩])
 (.seq (.reg [⟨(some 18), .mv (.tmp 6), none⟩,
  ⟨(some 19), .mv (.tmp 7), none⟩,
  ⟨(some 20), .bin .add (.tmp 18) (.tmp 19), none⟩,
  ⟨(some 21), .mv (.tmp 8), none⟩,
  ⟨(some 22), .bin .add (.tmp 20) (.tmp 21), none⟩,
  ⟨(some 23), .mv (.tmp 9), none⟩,
  ⟨(some 4), .mv (.tmp 22), none⟩,
  ⟨(some 5), .mv (.tmp 23), none⟩])
 (.ret)))
def r_impl_PlanCost : List ARes := [.tmp 4, .tmp 5]
theorem ok_impl_PlanCost : FnOk Try.prog 39 24 c_impl_PlanCost r_impl_PlanCost := ⟨⟨Try.f39, _, Try.func39, by kernel_rfl, rfl, rfl, by kernel_rfl, by kernel_rfl⟩⟩
def c_impl_WaitsNever : ACode := .seq (.reg [⟨(some 1), .box 26 (.tmp 0), none⟩,
  ⟨(some 2), .mv (.const (.bool false)), none⟩,
  ⟨(some 3), .mv (.const (.bool false)), none⟩])
 (.seq (.seq (.reg [⟨(some 5), .ld (some 4) (.tmp 1), none⟩,
  ⟨(some 6), .call (.func 62) [(.tmp 5)], none⟩,
  ⟨(some 7), .un .not (.tmp 6), none⟩])
 (.cond (.tmp 7) (.seq (.reg [⟨(some 2), .mv (.const (.bool false)), none⟩,
  ⟨(some 3), .mv (.const (.bool false)), none⟩])
 (.ret)) (.skip)))
 (.seq (.seq (.reg [⟨(some 4), .mv (.const (.int .i64 1)), none⟩])
 (.block 0 (.loop (.seq (.seq (.reg [⟨(some 8), .mv (.tmp 4), none⟩,
  ⟨(some 9), .fad 2 (.tmp 1), none⟩,
  ⟨(some 10), .ld none (.tmp 9), none⟩,
  ⟨(some 11), .len (.tmp 10), none⟩,
  ⟨(some 12), .bin .lss (.tmp 8) (.tmp 11), none⟩])
 (.cond (.tmp 12) (.skip) (.exit 0)))
 (.seq (.block 1 (.seq (.reg [⟨(some 15), .fad 2 (.tmp 1), none⟩,
  ⟨(some 16), .ld none (.tmp 15), none⟩,
  ⟨(some 17), .mv (.tmp 4), none⟩,
  ⟨(some 18), .bin .sub (.tmp 17) (.const (.int .i64 1)), none⟩,
  ⟨(some 19), .iad 1 (.tmp 16) (.tmp 18), none⟩,
  ⟨(some 20), .ld none (.tmp 19), none⟩,
  ⟨(some 21), .fad 3 (.tmp 1), none⟩,
  ⟨(some 22), .ld none (.tmp 21), none⟩,
  ⟨(some 23), .mv (.tmp 4), none⟩,
  ⟨(some 24), .bin .sub (.tmp 23) (.const (.int .i64 1)), none⟩,
  ⟨(some 25), .iad 1 (.tmp 22) (.tmp 24), none⟩,
  ⟨(some 26), .ld none (.tmp 25), none⟩,
  ⟨(some 27), .bin .add (.tmp 20) (.tmp 26), none⟩,
  ⟨(some 28), .fad 2 (.tmp 1), none⟩,
  ⟨(some 29), .ld none (.tmp 28), none⟩,
  ⟨(some 30), .mv (.tmp 4), none⟩,
  ⟨(some 31), .iad 1 (.tmp 29) (.tmp 30), none⟩,
  ⟨(some 32), .ld none (.tmp 31), none⟩,
  ⟨(some 33), .bin .lss (.tmp 27) (.tmp 32), none⟩])
 (.cond (.tmp 33) (.seq (.reg [⟨(some 2), .mv (.const (.bool false)), none⟩,
  ⟨(some 3), .mv (.const (.bool true)), none⟩])
 (.ret)) (.skip))))
 (.reg [⟨(some 13), .mv (.tmp 4), none⟩,
  ⟨(some 14), .bin .add (.tmp 13) (.const (.int .i64 1)), none⟩,
  ⟨(some 4), .mv (.tmp 14), none⟩]))))))
 (.seq (.reg [⟨(some 2), .mv (.const (.bool true)), none⟩,
  ⟨(some 3), .mv (.const (.bool true)), none⟩])
 (.ret))))
def r_impl_WaitsNever : List ARes := [.tmp 2, .tmp 3]
theorem ok_impl_WaitsNever : FnOk Try.prog 40 34 c_impl_WaitsNever r_impl_WaitsNever := ⟨⟨Try.f40, _, Try.func40, by kernel_rfl, rfl, rfl, by kernel_rfl, by kernel_rfl⟩⟩
def c_impl_IsPriceProof : ACode := .seq (.reg [⟨(some 3), .box 26 (.tmp 0), none⟩,
  ⟨(some 6), .mv (.const (.bool false)), none⟩,
  ⟨(some 7), .mv (.const (.bool false)), none⟩])
 (.seq (.seq (.reg [⟨(some 13), .ld (some 4) (.tmp 3), none⟩,
  ⟨(some 14), .mv (.tmp 1), none⟩,
  ⟨(some 15), .call (.func 44) [(.tmp 13), (.tmp 14)], none⟩,
  ⟨(some 12), .mv (.tmp 15), none⟩,
  ⟨(some 16), .ext 0 (.tmp 12), none⟩,
  ⟨(some 17), .ext 1 (.tmp 12), none⟩,
  ⟨(some 8), .mv (.tmp 16), none⟩,
  ⟨(some 9), .mv (.tmp 17), none⟩])
 (.seq (.reg [⟨(some 18), .mv (.tmp 9), none⟩,
  ⟨(some 19), .un .not (.tmp 18), none⟩,
  ⟨(some 20), .mv (.tmp 19), none⟩,
  ⟨(some 21), .mv (.tmp 8), (some (20, false))⟩,
  ⟨(some 22), .un .not (.tmp 21), (some (20, false))⟩,
  ⟨(some 23), .pick (.tmp 20) (.const (.bool true)) (.tmp 22), none⟩])
 (.cond (.tmp 23) (.seq (.reg [⟨(some 6), .mv (.const (.bool false)), none⟩,
  ⟨(some 7), .mv (.const (.bool false)), none⟩])
 (.ret)) (.skip))))
 (.seq (.reg [⟨(some 25), .ld (some 4) (.tmp 3), none⟩,
  ⟨(some 26), .mv (.tmp 2), none⟩,
  ⟨(some 27), .call (.func 39) [(.tmp 25), (.tmp 26)], none⟩,
  ⟨(some 24), .mv (.tmp 27), none⟩,
  ⟨(some 28), .ext 0 (.tmp 24), none⟩,
  ⟨(some 29), .ext 1 (.tmp 24), none⟩,
  ⟨(some 10), .mv (.tmp 28), none⟩,
  ⟨(some 11), .mv (.tmp 29), none⟩])
 (.seq (.seq (.reg [⟨(some 30), .mv (.tmp 11), none⟩,
  ⟨(some 31), .un .not (.tmp 30), none⟩])
 (.cond (.tmp 31) (.seq (.reg [⟨(some 6), .mv (.const (.bool false)), none⟩,
  ⟨(some 7), .mv (.const (.bool false)), none⟩])
 (.ret)) (.skip)))
 (.seq (.reg [⟨(some 32), .mv (.tmp 1), none⟩,
  ⟨(some 33), .call (.func 144) [(.tmp 32)], none⟩,
  ⟨(some 34), .mv (.tmp 10), none⟩,
  ⟨(some 35), .bin .eql (.tmp 33) (.tmp 34), none⟩,
  ⟨(some 6), .mv (.tmp 35), none⟩,
  ⟨(some 7), .mv (.const (.bool true)), none⟩])
 (.ret)))))
def r_impl_IsPriceProof : List ARes := [.tmp 6, .tmp 7]
theorem ok_impl_IsPriceProof : FnOk Try.prog 42 36 c_impl_IsPriceProof r_impl_IsPriceProof := ⟨⟨Try.f42, _, Try.func42, by kernel_rfl, rfl, rfl, by kernel_rfl, by kernel_rfl⟩⟩
def c_impl_AreFair : ACode := .seq (.reg [⟨(some 2), .box 26 (.tmp 0), none⟩,
  ⟨(some 4), .mv (.const (.bool false)), none⟩,
  ⟨(some 5), .mv (.const (.bool false)), none⟩])
 (.seq (.reg [⟨(some 11), .ld (some 4) (.tmp 2), none⟩,
  ⟨(some 12), .mv (.tmp 1), none⟩,
  ⟨(some 13), .call (.func 46) [(.tmp 11), (.tmp 12)], none⟩,
  ⟨(some 10), .mv (.tmp 13), none⟩,
  ⟨(some 14), .ext 0 (.tmp 10), none⟩,
  ⟨(some 15), .ext 1 (.tmp 10), none⟩,
  ⟨(some 6), .mv (.tmp 14), none⟩,
  ⟨(some 7), .mv (.tmp 15), none⟩])
 (.seq (.seq (.reg [⟨(some 16), .mv (.tmp 7), none⟩,
  ⟨(some 17), .un .not (.tmp 16), none⟩])
 (.cond (.tmp 17) (.seq (.reg [⟨(some 4), .mv (.const (.bool false)), none⟩,
  ⟨(some 5), .mv (.const (.bool false)), none⟩])
 (.ret)) (.skip)))
 (.seq (.seq (.reg [⟨(some 18), .mv (.tmp 6), none⟩,
  ⟨(some 19), .len (.tmp 18), none⟩,
  ⟨(some 20), .mv (.const (.int .i64 0)), none⟩])
 (.block 0 (.loop (.seq (.reg [⟨(some 21), .bin .lss (.tmp 20) (.tmp 19), none⟩])
 (.seq (.cond (.tmp 21) (.skip) (.exit 0))
 (.seq (.block 1 (.seq (.reg [⟨(some 22), .mv (.tmp 20), none⟩,
  ⟨(some 23), .iad 1 (.tmp 18) (.tmp 20), none⟩,
  ⟨(some 24), .ld none (.tmp 23), none⟩,
  ⟨(some 8), .mv (.tmp 22), none⟩,
  ⟨(some 9), .mv (.tmp 24), none⟩])
 (.seq (.reg [⟨(some 25), .mv (.tmp 9), none⟩,
  ⟨(some 26), .fad 1 (.tmp 2), none⟩,
  ⟨(some 27), .ld none (.tmp 26), none⟩,
  ⟨(some 28), .mv (.tmp 8), none⟩,
  ⟨(some 29), .iad 1 (.tmp 27) (.tmp 28), none⟩,
  ⟨(some 30), .ld none (.tmp 29), none⟩,
  ⟨(some 31), .bin .gtr (.tmp 25) (.tmp 30), none⟩,
  ⟨(some 32), .mv (.tmp 31), none⟩,
  ⟨(some 33), .fad 0 (.tmp 2), (some (32, false))⟩,
  ⟨(some 34), .ld none (.tmp 33), (some (32, false))⟩,
  ⟨(some 35), .mv (.tmp 8), (some (32, false))⟩,
  ⟨(some 36), .iad 1 (.tmp 34) (.tmp 35), (some (32, false))⟩,
  ⟨(some 37), .ld none (.tmp 36), (some (32, false))⟩,
  ⟨(some 38), .bin .eql (.tmp 37) (.const (.int .i64 0)), (some (32, false))⟩,
  ⟨(some 39), .mv (.tmp 38), (some (32, false))⟩,
  ⟨(some 40), .mv (.tmp 1), (some (39, true))⟩,
  ⟨(some 41), .mv (.tmp 8), (some (39, true))⟩,
  ⟨(some 42), .iad 1 (.tmp 40) (.tmp 41), (some (39, true))⟩,
  ⟨(some 43), .ld none (.tmp 42), (some (39, true))⟩,
  ⟨(some 44), .bin .gtr (.tmp 43) (.const (.int .i64 0)), (some (39, true))⟩,
  ⟨(some 45), .pick (.tmp 39) (.tmp 44) (.const (.bool false)), (some (32, false))⟩,
  ⟨(some 46), .pick (.tmp 32) (.const (.bool true)) (.tmp 45), none⟩])
 (.cond (.tmp 46) (.seq (.reg [⟨(some 4), .mv (.const (.bool false)), none⟩,
  ⟨(some 5), .mv (.const (.bool true)), none⟩])
 (.ret)) (.skip)))))
 (.reg [⟨(some 47), .bin .add (.tmp 20) (.const (.int .i64 1)), none⟩,
  ⟨(some 20), .mv (.tmp 47), none⟩])))))))
 (.seq (.reg [⟨(some 4), .mv (.const (.bool true)), none⟩,
  ⟨(some 5), .mv (.const (.bool true)), none⟩])
 (.ret)))))
def r_impl_AreFair : List ARes := [.tmp 4, .tmp 5]
theorem ok_impl_AreFair : FnOk Try.prog 44 48 c_impl_AreFair r_impl_AreFair := ⟨⟨Try.f44, _, Try.func44, by kernel_rfl, rfl, rfl, by kernel_rfl, by kernel_rfl⟩⟩
def c_impl_ClaimsOf : ACode := .seq (.reg [⟨(some 2), .box 26 (.tmp 0), none⟩,
  ⟨(some 4), .mv (.const (.slice none 0 0)), none⟩,
  ⟨(some 5), .mv (.const (.bool false)), none⟩])
 (.seq (.seq (.reg [⟨(some 8), .ld (some 4) (.tmp 2), none⟩,
  ⟨(some 9), .call (.func 62) [(.tmp 8)], none⟩,
  ⟨(some 10), .un .not (.tmp 9), none⟩,
  ⟨(some 11), .mv (.tmp 10), none⟩,
  ⟨(some 12), .mv (.tmp 1), (some (11, false))⟩,
  ⟨(some 13), .fad 0 (.tmp 2), (some (11, false))⟩,
  ⟨(some 14), .ld none (.tmp 13), (some (11, false))⟩,
  ⟨(some 15), .len (.tmp 14), (some (11, false))⟩,
  ⟨(some 16), .call (.func 158) [(.tmp 12), (.tmp 15), (.const (.int .i64 9999))], (some (11, false))⟩,
  ⟨(some 17), .un .not (.tmp 16), (some (11, false))⟩,
  ⟨(some 18), .pick (.tmp 11) (.const (.bool true)) (.tmp 17), none⟩])
 (.cond (.tmp 18) (.seq (.reg [⟨(some 19), .bsl 3 1 0 [] [], none⟩,
  ⟨(some 4), .mv (.tmp 19), none⟩,
  ⟨(some 5), .mv (.const (.bool false)), none⟩])
 (.ret)) (.skip)))
 (.seq (.reg [⟨(some 20), .bsl 3 1 0 [] [], none⟩,
  ⟨(some 6), .mv (.tmp 20), none⟩])
 (.seq (.seq (.reg [⟨(some 21), .mv (.tmp 1), none⟩,
  ⟨(some 22), .len (.tmp 21), none⟩,
  ⟨(some 23), .mv (.const (.int .i64 0)), none⟩])
 (.block 0 (.loop (.seq (.reg [⟨(some 24), .bin .lss (.tmp 23) (.tmp 22), none⟩])
 (.seq (.cond (.tmp 24) (.skip) (.exit 0))
 (.seq (.block 1 (.seq (.reg [⟨(some 25), .mv (.tmp 23), none⟩,
  ⟨(some 7), .mv (.tmp 25), none⟩])
 (.reg [⟨(some 26), .mv (.tmp 6), none⟩,
  ⟨(some 27), .ld (some 4) (.tmp 2), none⟩,
  ⟨(some 28), .mv (.tmp 1), none⟩,
  ⟨(some 29), .mv (.tmp 7), none⟩,
  ⟨(some 30), .call (.func 159) [(.tmp 27), (.tmp 28), (.tmp 29)], none⟩,
  ⟨(some 31), .bsl 3 1 1 [(.int .i64 0)] [(0, 1, (.tmp 30))], none⟩,
  ⟨(some 32), .app 3 1 8 (.tmp 26) (.tmp 31), none⟩,
  ⟨(some 6), .mv (.tmp 32), none⟩])))
 (.reg [⟨(some 33), .bin .add (.tmp 23) (.const (.int .i64 1)), none⟩,
  ⟨(some 23), .mv (.tmp 33), none⟩])))))))
 (.seq (.reg [⟨(some 34), .mv (.tmp 6), none⟩,
  ⟨(some 4), .mv (.tmp 34), none⟩,
  ⟨(some 5), .mv (.const (.bool true)), none⟩])
 (.ret)))))
def r_impl_ClaimsOf : List ARes := [.tmp 4, .tmp 5]
theorem ok_impl_ClaimsOf : FnOk Try.prog 46 35 c_impl_ClaimsOf r_impl_ClaimsOf := ⟨⟨Try.f46, _, Try.func46, by kernel_rfl, rfl, rfl, by kernel_rfl, by kernel_rfl⟩⟩
def c_impl_FairPrices : ACode := .seq (.reg [⟨(some 1), .box 26 (.tmp 0), none⟩,
  ⟨(some 2), .mv (.const (.slice none 0 0)), none⟩,
  ⟨(some 3), .mv (.const (.bool false)), none⟩])
 (.seq (.seq (.reg [⟨(some 6), .ld (some 4) (.tmp 1), none⟩,
  ⟨(some 7), .call (.func 62) [(.tmp 6)], none⟩,
  ⟨(some 8), .un .not (.tmp 7), none⟩])
 (.cond (.tmp 8) (.seq (.reg [⟨(some 9), .bsl 3 1 0 [] [], none⟩,
  ⟨(some 2), .mv (.tmp 9), none⟩,
  ⟨(some 3), .mv (.const (.bool false)), none⟩])
 (.ret)) (.skip)))
 (.seq (.reg [⟨(some 10), .bsl 3 1 0 [] [], none⟩,
  ⟨(some 4), .mv (.tmp 10), none⟩])
 (.seq (.seq (.reg [⟨(some 11), .fad 0 (.tmp 1), none⟩,
  ⟨(some 12), .ld none (.tmp 11), none⟩,
  ⟨(some 13), .len (.tmp 12), none⟩,
  ⟨(some 14), .mv (.const (.int .i64 0)), none⟩])
 (.block 0 (.loop (.seq (.reg [⟨(some 15), .bin .lss (.tmp 14) (.tmp 13), none⟩])
 (.seq (.cond (.tmp 15) (.skip) (.exit 0))
 (.seq (.block 1 (.seq (.reg [⟨(some 16), .mv (.tmp 14), none⟩,
  ⟨(some 5), .mv (.tmp 16), none⟩])
 (.reg [⟨(some 17), .mv (.tmp 4), none⟩,
  ⟨(some 18), .ld (some 4) (.tmp 1), none⟩,
  ⟨(some 19), .mv (.tmp 4), none⟩,
  ⟨(some 20), .mv (.tmp 5), none⟩,
  ⟨(some 21), .call (.func 161) [(.tmp 18), (.tmp 19), (.tmp 20)], none⟩,
  ⟨(some 22), .bsl 3 1 1 [(.int .i64 0)] [(0, 1, (.tmp 21))], none⟩,
  ⟨(some 23), .app 3 1 8 (.tmp 17) (.tmp 22), none⟩,
  ⟨(some 4), .mv (.tmp 23), none⟩])))
 (.reg [⟨(some 24), .bin .add (.tmp 14) (.const (.int .i64 1)), none⟩,
  ⟨(some 14), .mv (.tmp 24), none⟩])))))))
 (.seq (.reg [⟨(some 25), .mv (.tmp 4), none⟩,
  ⟨(some 2), .mv (.tmp 25), none⟩,
  ⟨(some 3), .mv (.const (.bool true)), none⟩])
 (.ret)))))
def r_impl_FairPrices : List ARes := [.tmp 2, .tmp 3]
theorem ok_impl_FairPrices : FnOk Try.prog 48 26 c_impl_FairPrices r_impl_FairPrices := ⟨⟨Try.f48, _, Try.func48, by kernel_rfl, rfl, rfl, by kernel_rfl, by kernel_rfl⟩⟩
def c_impl_RulePeriods : ACode := .seq (.reg [⟨(some 2), .box 26 (.tmp 0), none⟩,
  ⟨(some 4), .mv (.const (.slice none 0 0)), none⟩,
  ⟨(some 5), .mv (.const (.bool false)), none⟩])
 (.seq (.reg [⟨(some 12), .ld (some 4) (.tmp 2), none⟩,
  ⟨(some 13), .mv (.tmp 1), none⟩,
  ⟨(some 14), .call (.func 165) [(.tmp 12), (.tmp 13)], none⟩,
  ⟨(some 11), .mv (.tmp 14), none⟩,
  ⟨(some 15), .ext 0 (.tmp 11), none⟩,
  ⟨(some 16), .ext 1 (.tmp 11), none⟩,
  ⟨(some 6), .mv (.tmp 15), none⟩,
  ⟨(some 7), .mv (.tmp 16), none⟩])
 (.seq (.seq (.reg [⟨(some 17), .ld (some 4) (.tmp 2), none⟩,
  ⟨(some 18), .call (.func 62) [(.tmp 17)], none⟩,
  ⟨(some 19), .un .not (.tmp 18), none⟩,
  ⟨(some 20), .mv (.tmp 19), none⟩,
  ⟨(some 21), .mv (.tmp 7), (some (20, false))⟩,
  ⟨(some 22), .un .not (.tmp 21), (some (20, false))⟩,
  ⟨(some 23), .pick (.tmp 20) (.const (.bool true)) (.tmp 22), none⟩])
 (.cond (.tmp 23) (.seq (.reg [⟨(some 24), .bsl 3 1 0 [] [], none⟩,
  ⟨(some 4), .mv (.tmp 24), none⟩,
  ⟨(some 5), .mv (.const (.bool false)), none⟩])
 (.ret)) (.skip)))
 (.seq (.reg [⟨(some 25), .bsl 3 1 0 [] [], none⟩,
  ⟨(some 8), .mv (.tmp 25), none⟩])
 (.seq (.seq (.reg [⟨(some 26), .ld (some 4) (.tmp 2), none⟩,
  ⟨(some 27), .call (.func 166) [(.tmp 26), (.const (.int .i64 0))], none⟩,
  ⟨(some 9), .mv (.tmp 27), none⟩])
 (.block 0 (.loop (.seq (.seq (.reg [⟨(some 28), .mv (.tmp 9), none⟩,
  ⟨(some 29), .fad 0 (.tmp 2), none⟩,
  ⟨(some 30), .ld none (.tmp 29), none⟩,
  ⟨(some 31), .len (.tmp 30), none⟩,
  ⟨(some 32), .bin .lss (.tmp 28) (.tmp 31), none⟩])
 (.cond (.tmp 32) (.skip) (.exit 0)))
 (.block 1 (.seq (.reg [⟨(some 33), .mv (.tmp 8), none⟩,
  ⟨(some 34), .mv (.tmp 9), none⟩,
  ⟨(some 35), .bsl 3 1 1 [(.int .i64 0)] [(0, 1, (.tmp 34))], none⟩,
  ⟨(some 36), .app 3 1 8 (.tmp 33) (.tmp 35), none⟩,
  ⟨(some 8), .mv (.tmp 36), none⟩])
 (.seq (.reg [⟨(some 37), .mv (.tmp 9), none⟩,
  ⟨(some 38), .bin .add (.tmp 37) (.const (.int .i64 1)), none⟩,
  ⟨(some 10), .mv (.tmp 38), none⟩])
 (.seq (.block 2 (.loop (.seq (.seq (.reg [⟨(some 39), .mv (.tmp 10), none⟩,
  ⟨(some 40), .fad 0 (.tmp 2), none⟩,
  ⟨(some 41), .ld none (.tmp 40), none⟩,
  ⟨(some 42), .len (.tmp 41), none⟩,
  ⟨(some 43), .bin .lss (.tmp 39) (.tmp 42), none⟩,
  ⟨(some 44), .mv (.tmp 43), none⟩,
  ⟨(some 45), .mv (.tmp 6), (some (44, true))⟩,
  ⟨(some 46), .mv (.tmp 9), (some (44, true))⟩,
  ⟨(some 47), .mv (.tmp 10), (some (44, true))⟩,
  ⟨(some 48), .call (.tmp 45) [(.tmp 46), (.tmp 47)], (some (44, true))⟩,
  ⟨(some 49), .pick (.tmp 44) (.tmp 48) (.const (.bool false)), none⟩])
 (.cond (.tmp 49) (.skip) (.exit 2)))
 (.block 3 (.reg [⟨(some 50), .mv (.tmp 10), none⟩,
  ⟨(some 51), .bin .add (.tmp 50) (.const (.int .i64 1)), none⟩,
  ⟨(some 10), .mv (.tmp 51), none⟩])))))
 (.reg [⟨(some 52), .ld (some 4) (.tmp 2), none⟩,
  ⟨(some 53), .mv (.tmp 10), none⟩,
  ⟨(some 54), .call (.func 166) [(.tmp 52), (.tmp 53)], none⟩,
  ⟨(some 9), .mv (.tmp 54), none⟩])))))))))
 (.seq (.reg [⟨(some 55), .mv (.tmp 8), none⟩,
  ⟨(some 4), .mv (.tmp 55), none⟩,
  ⟨(some 5), .mv (.const (.bool true)), none⟩])
 (.ret))))))
def r_impl_RulePeriods : List ARes := [.tmp 4, .tmp 5]
theorem ok_impl_RulePeriods : FnOk Try.prog 52 56 c_impl_RulePeriods r_impl_RulePeriods := ⟨⟨Try.f52, _, Try.func52, by kernel_rfl, rfl, rfl, by kernel_rfl, by kernel_rfl⟩⟩
def c_impl_RuleGap : ACode := .seq (.reg [⟨(some 2), .box 26 (.tmp 0), none⟩,
  ⟨(some 4), .mv (.const (.int .i64 0)), none⟩,
  ⟨(some 5), .mv (.const (.bool false)), none⟩])
 (.seq (.reg [⟨(some 15), .ld (some 4) (.tmp 2), none⟩,
  ⟨(some 16), .mv (.tmp 1), none⟩,
  ⟨(some 17), .call (.func 52) [(.tmp 15), (.tmp 16)], none⟩,
  ⟨(some 14), .mv (.tmp 17), none⟩,
  ⟨(some 18), .ext 0 (.tmp 14), none⟩,
  ⟨(some 19), .ext 1 (.tmp 14), none⟩,
  ⟨(some 6), .mv (.tmp 18), none⟩,
  ⟨(some 7), .mv (.tmp 19), none⟩])
 (.seq (.seq (.reg [⟨(some 20), .mv (.tmp 7), none⟩,
  ⟨(some 21), .un .not (.tmp 20), none⟩])
 (.cond (.tmp 21) (.seq (.reg [⟨(some 4), .mv (.const (.int .i64 0)), none⟩,
  ⟨(some 5), .mv (.const (.bool false)), none⟩])
 (.ret)) (.skip)))
 (.seq (.reg [⟨(some 23), .ld (some 4) (.tmp 2), none⟩,
  ⟨(some 24), .mv (.tmp 6), none⟩,
  ⟨(some 25), .call (.func 38) [(.tmp 23), (.tmp 24)], none⟩,
  ⟨(some 22), .mv (.tmp 25), none⟩,
  ⟨(some 26), .ext 0 (.tmp 22), none⟩,
  ⟨(some 27), .ext 1 (.tmp 22), none⟩,
  ⟨(some 8), .mv (.tmp 26), none⟩,
  ⟨(some 9), .mv (.tmp 27), none⟩])
 (.seq (.reg [⟨(some 29), .ld (some 4) (.tmp 2), none⟩,
  ⟨(some 30), .mv (.tmp 8), none⟩,
  ⟨(some 31), .call (.func 39) [(.tmp 29), (.tmp 30)], none⟩,
  ⟨(some 28), .mv (.tmp 31), none⟩,
  ⟨(some 32), .ext 0 (.tmp 28), none⟩,
  ⟨(some 33), .ext 1 (.tmp 28), none⟩,
  ⟨(some 10), .mv (.tmp 32), none⟩,
  ⟨(some 11), .mv (.tmp 33), none⟩])
 (.seq (.reg [⟨(some 35), .ld (some 4) (.tmp 2), none⟩,
  ⟨(some 36), .call (.func 29) [(.tmp 35)], none⟩,
  ⟨(some 34), .mv (.tmp 36), none⟩,
  ⟨(some 37), .ext 0 (.tmp 34), none⟩,
  ⟨(some 38), .ext 1 (.tmp 34), none⟩,
  ⟨(some 12), .mv (.tmp 37), none⟩,
  ⟨(some 13), .mv (.tmp 38), none⟩])
 (.seq (.reg [⟨(some 39), .mv (.tmp 10), none⟩,
  ⟨(some 40), .mv (.tmp 12), none⟩,
  ⟨(some 41), .bin .sub (.tmp 39) (.tmp 40), none⟩,
  ⟨(some 4), .mv (.tmp 41), none⟩,
  ⟨(some 5), .mv (.const (.bool true)), none⟩])
 (.ret)))))))
def r_impl_RuleGap : List ARes := [.tmp 4, .tmp 5]
theorem ok_impl_RuleGap : FnOk Try.prog 54 42 c_impl_RuleGap r_impl_RuleGap := ⟨⟨Try.f54, _, Try.func54, by kernel_rfl, rfl, rfl, by kernel_rfl, by kernel_rfl⟩⟩
def c_impl_OrdersAtEmpty : ACode := .seq (.reg [⟨(some 2), .box 26 (.tmp 0), none⟩,
  ⟨(some 4), .mv (.const (.bool false)), none⟩,
  ⟨(some 5), .mv (.const (.bool false)), none⟩])
 (.seq (.reg [⟨(some 11), .ld (some 4) (.tmp 2), none⟩,
  ⟨(some 12), .mv (.tmp 1), none⟩,
  ⟨(some 13), .call (.func 63) [(.tmp 11), (.tmp 12)], none⟩,
  ⟨(some 10), .mv (.tmp 13), none⟩,
  ⟨(some 14), .ext 0 (.tmp 10), none⟩,
  ⟨(some 15), .ext 1 (.tmp 10), none⟩,
  ⟨(some 6), .mv (.tmp 14), none⟩,
  ⟨(some 7), .mv (.tmp 15), none⟩])
 (.seq (.seq (.reg [⟨(some 16), .mv (.tmp 7), none⟩,
  ⟨(some 17), .un .not (.tmp 16), none⟩])
 (.cond (.tmp 17) (.seq (.reg [⟨(some 4), .mv (.const (.bool false)), none⟩,
  ⟨(some 5), .mv (.const (.bool false)), none⟩])
 (.ret)) (.skip)))
 (.seq (.reg [⟨(some 19), .mv (.tmp 1), none⟩,
  ⟨(some 20), .mv (.tmp 6), none⟩,
  ⟨(some 21), .call (.func 168) [(.tmp 19), (.tmp 20)], none⟩,
  ⟨(some 18), .mv (.tmp 21), none⟩,
  ⟨(some 22), .ext 0 (.tmp 18), none⟩,
  ⟨(some 23), .ext 1 (.tmp 18), none⟩,
  ⟨(some 8), .mv (.tmp 22), none⟩,
  ⟨(some 9), .mv (.tmp 23), none⟩])
 (.seq (.reg [⟨(some 24), .mv (.tmp 9), none⟩,
  ⟨(some 25), .un .not (.tmp 24), none⟩,
  ⟨(some 4), .mv (.tmp 25), none⟩,
  ⟨(some 5), .mv (.const (.bool true)), none⟩])
 (.ret)))))
def r_impl_OrdersAtEmpty : List ARes := [.tmp 4, .tmp 5]
theorem ok_impl_OrdersAtEmpty : FnOk Try.prog 56 26 c_impl_OrdersAtEmpty r_impl_OrdersAtEmpty := ⟨⟨Try.f56, _, Try.func56, by kernel_rfl, rfl, rfl, by kernel_rfl, by kernel_rfl⟩⟩
def c_impl_IsPlan : ACode := .seq (.reg [⟨(some 2), .box 26 (.tmp 0), none⟩,
  ⟨(some 4), .mv (.const (.bool false)), none⟩,
  ⟨(some 5), .mv (.const (.bool false)), none⟩])
 (.seq (.seq (.reg [⟨(some 8), .ld (some 4) (.tmp 2), none⟩,
  ⟨(some 9), .call (.func 62) [(.tmp 8)], none⟩,
  ⟨(some 10), .un .not (.tmp 9), none⟩])
 (.cond (.tmp 10) (.seq (.reg [⟨(some 4), .mv (.const (.bool false)), none⟩,
  ⟨(some 5), .mv (.const (.bool false)), none⟩])
 (.ret)) (.skip)))
 (.seq (.reg [⟨(some 12), .ld (some 4) (.tmp 2), none⟩,
  ⟨(some 13), .mv (.tmp 1), none⟩,
  ⟨(some 14), .call (.func 63) [(.tmp 12), (.tmp 13)], none⟩,
  ⟨(some 11), .mv (.tmp 14), none⟩,
  ⟨(some 15), .ext 0 (.tmp 11), none⟩,
  ⟨(some 16), .ext 1 (.tmp 11), none⟩,
  ⟨(some 6), .mv (.tmp 15), none⟩,
  ⟨(some 7), .mv (.tmp 16), none⟩])
 (.seq (.reg [⟨(some 17), .mv (.tmp 7), none⟩,
  ⟨(some 4), .mv (.tmp 17), none⟩,
  ⟨(some 5), .mv (.const (.bool true)), none⟩])
 (.ret))))
def r_impl_IsPlan : List ARes := [.tmp 4, .tmp 5]
theorem ok_impl_IsPlan : FnOk Try.prog 60 18 c_impl_IsPlan r_impl_IsPlan := ⟨⟨Try.f60, _, Try.func60, by kernel_rfl, rfl, rfl, by kernel_rfl, by kernel_rfl⟩⟩
def c_impl_IsCase : ACode := .seq (.reg [⟨(some 1), .box 26 (.tmp 0), none⟩,
  ⟨(some 2), .mv (.const (.bool false)), none⟩])
 (.seq (.reg [⟨(some 4), .fad 0 (.tmp 1), none⟩,
  ⟨(some 5), .ld none (.tmp 4), none⟩,
  ⟨(some 6), .len (.tmp 5), none⟩,
  ⟨(some 3), .mv (.tmp 6), none⟩])
 (.seq (.reg [⟨(some 7), .mv (.tmp 3), none⟩,
  ⟨(some 8), .bin .leq (.tmp 7) (.const (.int .i64 8)), none⟩,
  ⟨(some 9), .mv (.tmp 8), none⟩,
  ⟨(some 10), .fad 0 (.tmp 1), (some (9, true))⟩,
  ⟨(some 11), .ld none (.tmp 10), (some (9, true))⟩,
  ⟨(some 12), .mv (.tmp 3), (some (9, true))⟩,
  ⟨(some 13), .call (.func 158) [(.tmp 11), (.tmp 12), (.const (.int .i64 20))], (some (9, true))⟩,
  ⟨(some 14), .pick (.tmp 9) (.tmp 13) (.const (.bool false)), none⟩,
  ⟨(some 15), .mv (.tmp 14), none⟩,
  ⟨(some 16), .fad 1 (.tmp 1), (some (15, true))⟩,
  ⟨(some 17), .ld none (.tmp 16), (some (15, true))⟩,
  ⟨(some 18), .mv (.tmp 3), (some (15, true))⟩,
  ⟨(some 19), .call (.func 158) [(.tmp 17), (.tmp 18), (.const (.int .i64 99))], (some (15, true))⟩,
  ⟨(some 20), .pick (.tmp 15) (.tmp 19) (.const (.bool false)), none⟩,
  ⟨(some 21), .mv (.tmp 20), none⟩,
  ⟨(some 22), .fad 2 (.tmp 1), (some (21, true))⟩,
  ⟨(some 23), .ld none (.tmp 22), (some (21, true))⟩,
  ⟨(some 24), .mv (.tmp 3), (some (21, true))⟩,
  ⟨(some 25), .call (.func 158) [(.tmp 23), (.tmp 24), (.const (.int .i64 9))], (some (21, true))⟩,
  ⟨(some 26), .pick (.tmp 21) (.tmp 25) (.const (.bool false)), none⟩,
  ⟨(some 27), .mv (.tmp 26), none⟩,
  ⟨(some 28), .fad 3 (.tmp 1), (some (27, true))⟩,
  ⟨(some 29), .ld none (.tmp 28), (some (27, true))⟩,
  ⟨(some 30), .mv (.tmp 3), (some (27, true))⟩,
  ⟨(some 31), .call (.func 158) [(.tmp 29), (.tmp 30), (.const (.int .i64 9))], (some (27, true))⟩,
  ⟨(some 32), .pick (.tmp 27) (.tmp 31) (.const (.bool false)), none⟩,
  ⟨(some 2), .mv (.tmp 32), none⟩])
 (.ret)))
def r_impl_IsCase : List ARes := [.tmp 2]
theorem ok_impl_IsCase : FnOk Try.prog 62 33 c_impl_IsCase r_impl_IsCase := ⟨⟨Try.f62, _, Try.func62, by kernel_rfl, rfl, rfl, by kernel_rfl, by kernel_rfl⟩⟩
def c_impl_StocksOf : ACode := .seq (.reg [⟨(some 2), .box 26 (.tmp 0), none⟩,
  ⟨(some 4), .mv (.const (.slice none 0 0)), none⟩,
  ⟨(some 5), .mv (.const (.bool false)), none⟩])
 (.seq (.reg [⟨(some 9), .ld (some 4) (.tmp 2), none⟩,
  ⟨(some 10), .mv (.tmp 1), none⟩,
  ⟨(some 11), .call (.func 171) [(.tmp 9), (.tmp 10)], none⟩,
  ⟨(some 8), .mv (.tmp 11), none⟩,
  ⟨(some 12), .ext 0 (.tmp 8), none⟩,
  ⟨(some 13), .ext 1 (.tmp 8), none⟩,
  ⟨(some 6), .mv (.tmp 12), none⟩,
  ⟨(some 7), .mv (.tmp 13), none⟩])
 (.seq (.seq (.reg [⟨(some 14), .mv (.tmp 7), none⟩,
  ⟨(some 15), .un .not (.tmp 14), none⟩,
  ⟨(some 16), .mv (.tmp 15), none⟩,
  ⟨(some 17), .mv (.tmp 6), (some (16, false))⟩,
  ⟨(some 18), .call (.func 172) [(.tmp 17), (.func 173)], (some (16, false))⟩,
  ⟨(some 19), .pick (.tmp 16) (.const (.bool true)) (.tmp 18), none⟩])
 (.cond (.tmp 19) (.seq (.reg [⟨(some 20), .bsl 3 1 0 [] [], none⟩,
  ⟨(some 4), .mv (.tmp 20), none⟩,
  ⟨(some 5), .mv (.const (.bool false)), none⟩])
 (.ret)) (.skip)))
 (.seq (.reg [⟨(some 21), .mv (.tmp 6), none⟩,
  ⟨(some 4), .mv (.tmp 21), none⟩,
  ⟨(some 5), .mv (.const (.bool true)), none⟩])
 (.ret))))
def r_impl_StocksOf : List ARes := [.tmp 4, .tmp 5]
theorem ok_impl_StocksOf : FnOk Try.prog 63 22 c_impl_StocksOf r_impl_StocksOf := ⟨⟨Try.f63, _, Try.func63, by kernel_rfl, rfl, rfl, by kernel_rfl, by kernel_rfl⟩⟩
def c_impl_CostParts : ACode := .seq (.reg [⟨(some 2), .box 26 (.tmp 0), none⟩,
  ⟨(some 4), .mv (.const (.int .i64 0)), none⟩,
  ⟨(some 5), .mv (.const (.int .i64 0)), none⟩,
  ⟨(some 6), .mv (.const (.int .i64 0)), none⟩,
  ⟨(some 7), .mv (.const (.bool false)), none⟩])
 (.seq (.reg [⟨(some 16), .ld (some 4) (.tmp 2), none⟩,
  ⟨(some 17), .mv (.tmp 1), none⟩,
  ⟨(some 18), .call (.func 63) [(.tmp 16), (.tmp 17)], none⟩,
  ⟨(some 15), .mv (.tmp 18), none⟩,
  ⟨(some 19), .ext 0 (.tmp 15), none⟩,
  ⟨(some 20), .ext 1 (.tmp 15), none⟩,
  ⟨(some 8), .mv (.tmp 19), none⟩,
  ⟨(some 9), .mv (.tmp 20), none⟩])
 (.seq (.seq (.reg [⟨(some 21), .mv (.tmp 9), none⟩,
  ⟨(some 22), .un .not (.tmp 21), none⟩])
 (.cond (.tmp 22) (.seq (.reg [⟨(some 4), .mv (.const (.int .i64 0)), none⟩,
  ⟨(some 5), .mv (.const (.int .i64 0)), none⟩,
  ⟨(some 6), .mv (.const (.int .i64 0)), none⟩,
  ⟨(some 7), .mv (.const (.bool false)), none⟩])
 (.ret)) (.skip)))
 (.seq (.reg [⟨(some 10), .mv (.const (.int .i64 0)), none⟩,
  ⟨(some 11), .mv (.const (.int .i64 0)), none⟩,
  ⟨(some 12), .mv (.const (.int .i64 0)), none⟩])
 (.seq (.seq (.reg [⟨(some 23), .mv (.tmp 1), none⟩,
  ⟨(some 24), .len (.tmp 23), none⟩,
  ⟨(some 25), .mv (.const (.int .i64 0)), none⟩])
 (.block 0 (.loop (.seq (.reg [⟨(some 26), .bin .lss (.tmp 25) (.tmp 24), none⟩])
 (.seq (.cond (.tmp 26) (.skip) (.exit 0))
 (.seq (.block 1 (.seq (.reg [⟨(some 27), .mv (.tmp 25), none⟩,
  ⟨(some 28), .iad 1 (.tmp 23) (.tmp 25), none⟩,
  ⟨(some 29), .ld none (.tmp 28), none⟩,
  ⟨(some 13), .mv (.tmp 27), none⟩,
  ⟨(some 14), .mv (.tmp 29), none⟩])
 (.seq (.seq (.reg [⟨(some 30), .mv (.tmp 14), none⟩,
  ⟨(some 31), .bin .gtr (.tmp 30) (.const (.int .i64 0)), none⟩])
 (.cond (.tmp 31) (.reg [⟨(some 32), .mv (.tmp 10), none⟩,
  ⟨(some 33), .fad 1 (.tmp 2), none⟩,
  ⟨(some 34), .ld none (.tmp 33), none⟩,
  ⟨(some 35), .mv (.tmp 13), none⟩,
  ⟨(some 36), .iad 1 (.tmp 34) (.tmp 35), none⟩,
  ⟨(some 37), .ld none (.tmp 36), none⟩,
  ⟨(some 38), .bin .add (.tmp 32) (.tmp 37), none⟩,
  ⟨(some 10), .mv (.tmp 38), none⟩]) (.skip)))
 (.seq (.reg [⟨(some 39), .mv (.tmp 11), none⟩,
  ⟨(some 40), .fad 2 (.tmp 2), none⟩,
  ⟨(some 41), .ld none (.tmp 40), none⟩,
  ⟨(some 42), .mv (.tmp 13), none⟩,
  ⟨(some 43), .iad 1 (.tmp 41) (.tmp 42), none⟩,
  ⟨(some 44), .ld none (.tmp 43), none⟩,
  ⟨(some 45), .mv (.tmp 14), none⟩,
  ⟨(some 46), .bin .mul (.tmp 44) (.tmp 45), none⟩,
  ⟨(some 47), .bin .add (.tmp 39) (.tmp 46), none⟩,
  ⟨(some 11), .mv (.tmp 47), none⟩])
 (.reg [⟨(some 48), .mv (.tmp 12), none⟩,
  ⟨(some 49), .fad 3 (.tmp 2), none⟩,
  ⟨(some 50), .ld none (.tmp 49), none⟩,
  ⟨(some 51), .mv (.tmp 13), none⟩,
  ⟨(some 52), .iad 1 (.tmp 50) (.tmp 51), none⟩,
  ⟨(some 53), .ld none (.tmp 52), none⟩,
  ⟨(some 54), .mv (.tmp 8), none⟩,
  ⟨(some 55), .mv (.tmp 13), none⟩,
  ⟨(some 56), .iad 1 (.tmp 54) (.tmp 55), none⟩,
  ⟨(some 57), .ld none (.tmp 56), none⟩,
  ⟨(some 58), .bin .mul (.tmp 53) (.tmp 57), none⟩,
  ⟨(some 59), .bin .add (.tmp 48) (.tmp 58), none⟩,
  ⟨(some 12), .mv (.tmp 59), none⟩])))))
 (.reg [⟨(some 60), .bin .add (.tmp 25) (.const (.int .i64 1)), none⟩,
  ⟨(some 25), .mv (.tmp 60), none⟩])))))))
 (.seq (.reg [⟨(some 61), .mv (.tmp 10), none⟩,
  ⟨(some 62), .mv (.tmp 11), none⟩,
  ⟨(some 63), .mv (.tmp 12), none⟩,
  ⟨(some 4), .mv (.tmp 61), none⟩,
  ⟨(some 5), .mv (.tmp 62), none⟩,
  ⟨(some 6), .mv (.tmp 63), none⟩,
  ⟨(some 7), .mv (.const (.bool true)), none⟩])
 (.ret))))))
def r_impl_CostParts : List ARes := [.tmp 4, .tmp 5, .tmp 6, .tmp 7]
theorem ok_impl_CostParts : FnOk Try.prog 66 64 c_impl_CostParts r_impl_CostParts := ⟨⟨Try.f66, _, Try.func66, by kernel_rfl, rfl, rfl, by kernel_rfl, by kernel_rfl⟩⟩
def c_impl_EmptyPeriods : ACode := .seq (.reg [⟨(some 2), .box 26 (.tmp 0), none⟩,
  ⟨(some 4), .mv (.const (.slice none 0 0)), none⟩,
  ⟨(some 5), .mv (.const (.bool false)), none⟩])
 (.seq (.reg [⟨(some 9), .ld (some 4) (.tmp 2), none⟩,
  ⟨(some 10), .mv (.tmp 1), none⟩,
  ⟨(some 11), .call (.func 63) [(.tmp 9), (.tmp 10)], none⟩,
  ⟨(some 8), .mv (.tmp 11), none⟩,
  ⟨(some 12), .ext 0 (.tmp 8), none⟩,
  ⟨(some 13), .ext 1 (.tmp 8), none⟩,
  ⟨(some 6), .mv (.tmp 12), none⟩,
  ⟨(some 7), .mv (.tmp 13), none⟩])
 (.seq (.seq (.reg [⟨(some 14), .mv (.tmp 7), none⟩,
  ⟨(some 15), .un .not (.tmp 14), none⟩])
 (.cond (.tmp 15) (.seq (.reg [⟨(some 16), .bsl 3 1 0 [] [], none⟩,
  ⟨(some 4), .mv (.tmp 16), none⟩,
  ⟨(some 5), .mv (.const (.bool false)), none⟩])
 (.ret)) (.skip)))
 (.seq (.reg [⟨(some 17), .mv (.tmp 6), none⟩,
  ⟨(some 18), .call (.func 133) [(.tmp 17), (.func 176)], none⟩,
  ⟨(some 4), .mv (.tmp 18), none⟩,
  ⟨(some 5), .mv (.const (.bool true)), none⟩])
 (.ret))))
def r_impl_EmptyPeriods : List ARes := [.tmp 4, .tmp 5]
theorem ok_impl_EmptyPeriods : FnOk Try.prog 68 19 c_impl_EmptyPeriods r_impl_EmptyPeriods := ⟨⟨Try.f68, _, Try.func68, by kernel_rfl, rfl, rfl, by kernel_rfl, by kernel_rfl⟩⟩
def c_impl_OrderPeriods : ACode := .seq (.reg [⟨(some 2), .box 26 (.tmp 0), none⟩,
  ⟨(some 4), .mv (.const (.slice none 0 0)), none⟩,
  ⟨(some 5), .mv (.const (.bool false)), none⟩])
 (.seq (.seq (.reg [⟨(some 9), .ld (some 4) (.tmp 2), none⟩,
  ⟨(some 10), .mv (.tmp 1), none⟩,
  ⟨(some 11), .call (.func 63) [(.tmp 9), (.tmp 10)], none⟩,
  ⟨(some 8), .mv (.tmp 11), none⟩,
  ⟨(some 12), .ext 0 (.tmp 8), none⟩,
  ⟨(some 13), .ext 1 (.tmp 8), none⟩,
  ⟨(some 6), .mv (.tmp 12), none⟩,
  ⟨(some 7), .mv (.tmp 13), none⟩])
 (.seq (.reg [⟨(some 14), .mv (.tmp 7), none⟩,
  ⟨(some 15), .un .not (.tmp 14), none⟩])
 (.cond (.tmp 15) (.seq (.reg [⟨(some 16), .bsl 3 1 0 [] [], none⟩,
  ⟨(some 4), .mv (.tmp 16), none⟩,
  ⟨(some 5), .mv (.const (.bool false)), none⟩])
 (.ret)) (.skip))))
 (.seq (.reg [⟨(some 17), .mv (.tmp 1), none⟩,
  ⟨(some 18), .call (.func 133) [(.tmp 17), (.func 177)], none⟩,
  ⟨(some 4), .mv (.tmp 18), none⟩,
  ⟨(some 5), .mv (.const (.bool true)), none⟩])
 (.ret)))
def r_impl_OrderPeriods : List ARes := [.tmp 4, .tmp 5]
theorem ok_impl_OrderPeriods : FnOk Try.prog 70 19 c_impl_OrderPeriods r_impl_OrderPeriods := ⟨⟨Try.f70, _, Try.func70, by kernel_rfl, rfl, rfl, by kernel_rfl, by kernel_rfl⟩⟩
def c_impl_SmoothPlan : ACode := .seq (.reg [⟨(some 2), .box 26 (.tmp 0), none⟩,
  ⟨(some 4), .mv (.const (.slice none 0 0)), none⟩,
  ⟨(some 5), .mv (.const (.bool false)), none⟩])
 (.seq (.reg [⟨(some 12), .ld (some 4) (.tmp 2), none⟩,
  ⟨(some 13), .mv (.tmp 1), none⟩,
  ⟨(some 14), .call (.func 63) [(.tmp 12), (.tmp 13)], none⟩,
  ⟨(some 11), .mv (.tmp 14), none⟩,
  ⟨(some 15), .ext 0 (.tmp 11), none⟩,
  ⟨(some 16), .ext 1 (.tmp 11), none⟩,
  ⟨(some 6), .mv (.tmp 15), none⟩,
  ⟨(some 7), .mv (.tmp 16), none⟩])
 (.seq (.seq (.reg [⟨(some 17), .mv (.tmp 7), none⟩,
  ⟨(some 18), .un .not (.tmp 17), none⟩])
 (.cond (.tmp 18) (.seq (.reg [⟨(some 19), .bsl 3 1 0 [] [], none⟩,
  ⟨(some 4), .mv (.tmp 19), none⟩,
  ⟨(some 5), .mv (.const (.bool false)), none⟩])
 (.ret)) (.skip)))
 (.seq (.reg [⟨(some 20), .bsl 3 1 0 [] [], none⟩,
  ⟨(some 21), .mv (.tmp 1), none⟩,
  ⟨(some 22), .app 3 1 8 (.tmp 20) (.tmp 21), none⟩,
  ⟨(some 8), .mv (.tmp 22), none⟩])
 (.block 0 (.loop (.block 1 (.seq (.reg [⟨(some 24), .mv (.tmp 8), none⟩,
  ⟨(some 25), .mv (.tmp 6), none⟩,
  ⟨(some 26), .call (.func 168) [(.tmp 24), (.tmp 25)], none⟩,
  ⟨(some 23), .mv (.tmp 26), none⟩,
  ⟨(some 27), .ext 0 (.tmp 23), none⟩,
  ⟨(some 28), .ext 1 (.tmp 23), none⟩,
  ⟨(some 9), .mv (.tmp 27), none⟩,
  ⟨(some 10), .mv (.tmp 28), none⟩])
 (.seq (.seq (.reg [⟨(some 29), .mv (.tmp 10), none⟩,
  ⟨(some 30), .un .not (.tmp 29), none⟩])
 (.cond (.tmp 30) (.seq (.reg [⟨(some 31), .mv (.tmp 8), none⟩,
  ⟨(some 4), .mv (.tmp 31), none⟩,
  ⟨(some 5), .mv (.const (.bool true)), none⟩])
 (.ret)) (.skip)))
 (.seq (.reg [⟨(some 32), .ld (some 4) (.tmp 2), none⟩,
  ⟨(some 33), .mv (.tmp 8), none⟩,
  ⟨(some 34), .mv (.tmp 9), none⟩,
  ⟨(some 35), .mv (.tmp 6), none⟩,
  ⟨(some 36), .mv (.tmp 9), none⟩,
  ⟨(some 37), .bin .sub (.tmp 36) (.const (.int .i64 1)), none⟩,
  ⟨(some 38), .iad 1 (.tmp 35) (.tmp 37), none⟩,
  ⟨(some 39), .ld none (.tmp 38), none⟩,
  ⟨(some 40), .rcall (.func 178) [(.tmp 32), (.tmp 33), (.tmp 34), (.tmp 39)], none⟩,
  ⟨(some 8), .mv (.tmp 40), none⟩])
 (.reg [⟨(some 42), .ld (some 4) (.tmp 2), none⟩,
  ⟨(some 43), .mv (.tmp 8), none⟩,
  ⟨(some 44), .call (.func 63) [(.tmp 42), (.tmp 43)], none⟩,
  ⟨(some 41), .mv (.tmp 44), none⟩,
  ⟨(some 45), .ext 0 (.tmp 41), none⟩,
  ⟨(some 46), .ext 1 (.tmp 41), none⟩,
  ⟨(some 6), .mv (.tmp 45), none⟩]))))))))))
def r_impl_SmoothPlan : List ARes := [.tmp 4, .tmp 5]
theorem ok_impl_SmoothPlan : FnOk Try.prog 74 47 c_impl_SmoothPlan r_impl_SmoothPlan := ⟨⟨Try.f74, _, Try.func74, by kernel_rfl, rfl, rfl, by kernel_rfl, by kernel_rfl⟩⟩
def c_impl_BestPeriods : ACode := .seq (.reg [⟨(some 1), .box 26 (.tmp 0), none⟩,
  ⟨(some 2), .mv (.const (.slice none 0 0)), none⟩,
  ⟨(some 3), .mv (.const (.bool false)), none⟩])
 (.seq (.seq (.reg [⟨(some 4), .ld (some 4) (.tmp 1), none⟩,
  ⟨(some 5), .call (.func 62) [(.tmp 4)], none⟩,
  ⟨(some 6), .un .not (.tmp 5), none⟩])
 (.cond (.tmp 6) (.seq (.reg [⟨(some 7), .bsl 3 1 0 [] [], none⟩,
  ⟨(some 2), .mv (.tmp 7), none⟩,
  ⟨(some 3), .mv (.const (.bool false)), none⟩])
 (.ret)) (.skip)))
 (.seq (.reg [⟨(some 8), .ld (some 4) (.tmp 1), none⟩,
  ⟨(some 9), .call (.func 143) [(.tmp 8)], none⟩,
  ⟨(some 10), .fld 1 none (.tmp 9), none⟩,
  ⟨(some 2), .mv (.tmp 10), none⟩,
  ⟨(some 3), .mv (.const (.bool true)), none⟩])
 (.ret)))
def r_impl_BestPeriods : List ARes := [.tmp 2, .tmp 3]
theorem ok_impl_BestPeriods : FnOk Try.prog 76 11 c_impl_BestPeriods r_impl_BestPeriods := ⟨⟨Try.f76, _, Try.func76, by kernel_rfl, rfl, rfl, by kernel_rfl, by kernel_rfl⟩⟩
def c_impl_LotForLot : ACode := .seq (.reg [⟨(some 1), .box 26 (.tmp 0), none⟩,
  ⟨(some 2), .mv (.const (.slice none 0 0)), none⟩,
  ⟨(some 3), .mv (.const (.bool false)), none⟩])
 (.seq (.seq (.reg [⟨(some 4), .ld (some 4) (.tmp 1), none⟩,
  ⟨(some 5), .call (.func 62) [(.tmp 4)], none⟩,
  ⟨(some 6), .un .not (.tmp 5), none⟩])
 (.cond (.tmp 6) (.seq (.reg [⟨(some 7), .bsl 3 1 0 [] [], none⟩,
  ⟨(some 2), .mv (.tmp 7), none⟩,
  ⟨(some 3), .mv (.const (.bool false)), none⟩])
 (.ret)) (.skip)))
 (.seq (.reg [⟨(some 8), .bsl 3 1 0 [] [], none⟩,
  ⟨(some 9), .fad 0 (.tmp 1), none⟩,
  ⟨(some 10), .ld none (.tmp 9), none⟩,
  ⟨(some 11), .app 3 1 8 (.tmp 8) (.tmp 10), none⟩,
  ⟨(some 2), .mv (.tmp 11), none⟩,
  ⟨(some 3), .mv (.const (.bool true)), none⟩])
 (.ret)))
def r_impl_LotForLot : List ARes := [.tmp 2, .tmp 3]
theorem ok_impl_LotForLot : FnOk Try.prog 81 12 c_impl_LotForLot r_impl_LotForLot := ⟨⟨Try.f81, _, Try.func81, by kernel_rfl, rfl, rfl, by kernel_rfl, by kernel_rfl⟩⟩
def c_impl_LimitedPlan : ACode := .seq (.reg [⟨(some 2), .box 26 (.tmp 0), none⟩,
  ⟨(some 4), .mv (.const (.slice none 0 0)), none⟩,
  ⟨(some 5), .mv (.const (.bool false)), none⟩])
 (.seq (.reg [⟨(some 9), .ld (some 4) (.tmp 2), none⟩,
  ⟨(some 10), .mv (.tmp 1), none⟩,
  ⟨(some 11), .call (.func 187) [(.tmp 9), (.tmp 10)], none⟩,
  ⟨(some 8), .mv (.tmp 11), none⟩,
  ⟨(some 12), .ext 0 (.tmp 8), none⟩,
  ⟨(some 13), .ext 1 (.tmp 8), none⟩,
  ⟨(some 6), .mv (.tmp 12), none⟩,
  ⟨(some 7), .mv (.tmp 13), none⟩])
 (.seq (.seq (.reg [⟨(some 14), .mv (.tmp 7), none⟩,
  ⟨(some 15), .un .not (.tmp 14), none⟩])
 (.cond (.tmp 15) (.seq (.reg [⟨(some 16), .bsl 3 1 0 [] [], none⟩,
  ⟨(some 4), .mv (.tmp 16), none⟩,
  ⟨(some 5), .mv (.const (.bool false)), none⟩])
 (.ret)) (.skip)))
 (.seq (.reg [⟨(some 17), .mv (.tmp 6), none⟩,
  ⟨(some 18), .call (.func 188) [(.tmp 17)], none⟩,
  ⟨(some 4), .mv (.tmp 18), none⟩,
  ⟨(some 5), .mv (.const (.bool true)), none⟩])
 (.ret))))
def r_impl_LimitedPlan : List ARes := [.tmp 4, .tmp 5]
theorem ok_impl_LimitedPlan : FnOk Try.prog 84 19 c_impl_LimitedPlan r_impl_LimitedPlan := ⟨⟨Try.f84, _, Try.func84, by kernel_rfl, rfl, rfl, by kernel_rfl, by kernel_rfl⟩⟩
def c_impl_LimitedCost : ACode := .seq (.reg [⟨(some 2), .box 26 (.tmp 0), none⟩,
  ⟨(some 4), .mv (.const (.int .i64 0)), none⟩,
  ⟨(some 5), .mv (.const (.bool false)), none⟩])
 (.seq (.reg [⟨(some 9), .ld (some 4) (.tmp 2), none⟩,
  ⟨(some 10), .mv (.tmp 1), none⟩,
  ⟨(some 11), .call (.func 187) [(.tmp 9), (.tmp 10)], none⟩,
  ⟨(some 8), .mv (.tmp 11), none⟩,
  ⟨(some 12), .ext 0 (.tmp 8), none⟩,
  ⟨(some 13), .ext 1 (.tmp 8), none⟩,
  ⟨(some 6), .mv (.tmp 12), none⟩,
  ⟨(some 7), .mv (.tmp 13), none⟩])
 (.seq (.seq (.reg [⟨(some 14), .mv (.tmp 7), none⟩,
  ⟨(some 15), .un .not (.tmp 14), none⟩])
 (.cond (.tmp 15) (.seq (.reg [⟨(some 4), .mv (.const (.int .i64 0)), none⟩,
  ⟨(some 5), .mv (.const (.bool false)), none⟩])
 (.ret)) (.skip)))
 (.seq (.reg [⟨(some 16), .mv (.tmp 6), none⟩,
  ⟨(some 17), .call (.func 192) [(.tmp 16)], none⟩,
  ⟨(some 4), .mv (.tmp 17), none⟩,
  ⟨(some 5), .mv (.const (.bool true)), none⟩])
 (.ret))))
def r_impl_LimitedCost : List ARes := [.tmp 4, .tmp 5]
theorem ok_impl_LimitedCost : FnOk Try.prog 86 18 c_impl_LimitedCost r_impl_LimitedCost := ⟨⟨Try.f86, _, Try.func86, by kernel_rfl, rfl, rfl, by kernel_rfl, by kernel_rfl⟩⟩
def c_impl_LatestStart : ACode := .seq (.reg [⟨(some 2), .box 26 (.tmp 0), none⟩,
  ⟨(some 4), .mv (.const (.slice none 0 0)), none⟩,
  ⟨(some 5), .mv (.const (.bool false)), none⟩])
 (.seq (.seq (.reg [⟨(some 13), .ld (some 4) (.tmp 2), none⟩,
  ⟨(some 14), .mv (.tmp 1), none⟩,
  ⟨(some 15), .call (.func 93) [(.tmp 13), (.tmp 14)], none⟩,
  ⟨(some 12), .mv (.tmp 15), none⟩,
  ⟨(some 16), .ext 0 (.tmp 12), none⟩,
  ⟨(some 17), .ext 1 (.tmp 12), none⟩,
  ⟨(some 6), .mv (.tmp 16), none⟩,
  ⟨(some 7), .mv (.tmp 17), none⟩])
 (.seq (.reg [⟨(some 18), .mv (.tmp 7), none⟩,
  ⟨(some 19), .un .not (.tmp 18), none⟩,
  ⟨(some 20), .mv (.tmp 19), none⟩,
  ⟨(some 21), .mv (.tmp 6), (some (20, false))⟩,
  ⟨(some 22), .un .not (.tmp 21), (some (20, false))⟩,
  ⟨(some 23), .pick (.tmp 20) (.const (.bool true)) (.tmp 22), none⟩])
 (.cond (.tmp 23) (.seq (.reg [⟨(some 24), .bsl 3 1 0 [] [], none⟩,
  ⟨(some 4), .mv (.tmp 24), none⟩,
  ⟨(some 5), .mv (.const (.bool false)), none⟩])
 (.ret)) (.skip))))
 (.seq (.reg [⟨(some 25), .mv (.tmp 1), none⟩,
  ⟨(some 26), .len (.tmp 25), none⟩,
  ⟨(some 27), .mks 3 8 [(.int .i64 0)] (.tmp 26) (.tmp 26), none⟩,
  ⟨(some 8), .alc 24 [(.slice none 0 0)], none⟩,
  ⟨none, .st 1 (.tmp 8) (.tmp 27), none⟩])
 (.seq (.reg [⟨(some 9), .alc 3 [(.int .i64 0)], none⟩,
  ⟨none, .st 1 (.tmp 9) (.const (.int .i64 0)), none⟩])
 (.seq (.seq (.reg [⟨(some 28), .mv (.tmp 1), none⟩,
  ⟨(some 29), .call (.func 147) [(.tmp 28)], none⟩])
 (.block 0 (.range (.tmp 29) [30, 31] (.seq (.reg [⟨(some 10), .mv (.tmp 30), none⟩])
 (.reg [⟨(some 11), .mv (.tmp 31), none⟩])) (.block 1 (.seq (.reg [⟨(some 32), .ld none (.tmp 9), none⟩,
  ⟨(some 33), .fad 0 (.tmp 2), none⟩,
  ⟨(some 34), .ld none (.tmp 33), none⟩,
  ⟨(some 35), .mv (.tmp 10), none⟩,
  ⟨(some 36), .iad 1 (.tmp 34) (.tmp 35), none⟩,
  ⟨(some 37), .ld none (.tmp 36), none⟩,
  ⟨(some 38), .bin .add (.tmp 32) (.tmp 37), none⟩,
  ⟨none, .st 1 (.tmp 9) (.tmp 38), none⟩])
 (.seq (.reg [⟨(some 39), .ld none (.tmp 8), none⟩,
  ⟨(some 40), .mv (.tmp 10), none⟩,
  ⟨(some 41), .mv (.tmp 11), none⟩,
  ⟨(some 42), .ld none (.tmp 9), none⟩,
  ⟨(some 43), .mmx false (.tmp 41) (.tmp 42), none⟩,
  ⟨(some 44), .iad 1 (.tmp 39) (.tmp 40), none⟩,
  ⟨none, .st 1 (.tmp 44) (.tmp 43), none⟩])
 (.reg [⟨(some 45), .ld none (.tmp 9), none⟩,
  ⟨(some 46), .ld none (.tmp 8), none⟩,
  ⟨(some 47), .mv (.tmp 10), none⟩,
  ⟨(some 48), .iad 1 (.tmp 46) (.tmp 47), none⟩,
  ⟨(some 49), .ld none (.tmp 48), none⟩,
  ⟨(some 50), .bin .sub (.tmp 45) (.tmp 49), none⟩,
  ⟨none, .st 1 (.tmp 9) (.tmp 50), none⟩])))))))
 (.seq (.reg [⟨(some 51), .ld none (.tmp 8), none⟩,
  ⟨(some 4), .mv (.tmp 51), none⟩,
  ⟨(some 5), .mv (.const (.bool true)), none⟩])
 (.ret))))))
def r_impl_LatestStart : List ARes := [.tmp 4, .tmp 5]
theorem ok_impl_LatestStart : FnOk Try.prog 88 52 c_impl_LatestStart r_impl_LatestStart := ⟨⟨Try.f88, _, Try.func88, by kernel_rfl, rfl, rfl, by kernel_rfl, by kernel_rfl⟩⟩
def c_impl_FirstShort : ACode := .seq (.reg [⟨(some 2), .box 26 (.tmp 0), none⟩,
  ⟨(some 4), .mv (.const (.int .i64 0)), none⟩,
  ⟨(some 5), .mv (.const (.int .i64 0)), none⟩,
  ⟨(some 6), .mv (.const (.bool false)), none⟩])
 (.seq (.seq (.reg [⟨(some 10), .ld (some 4) (.tmp 2), none⟩,
  ⟨(some 11), .mv (.tmp 1), none⟩,
  ⟨(some 12), .call (.func 194) [(.tmp 10), (.tmp 11)], none⟩,
  ⟨(some 13), .un .not (.tmp 12), none⟩])
 (.cond (.tmp 13) (.seq (.reg [⟨(some 4), .mv (.const (.int .i64 0)), none⟩,
  ⟨(some 5), .mv (.const (.int .i64 0)), none⟩,
  ⟨(some 6), .mv (.const (.bool false)), none⟩])
 (.ret)) (.skip)))
 (.seq (.reg [⟨(some 7), .mv (.const (.int .i64 0)), none⟩])
 (.seq (.seq (.reg [⟨(some 14), .mv (.tmp 1), none⟩,
  ⟨(some 15), .len (.tmp 14), none⟩,
  ⟨(some 16), .mv (.const (.int .i64 0)), none⟩])
 (.block 0 (.loop (.seq (.reg [⟨(some 17), .bin .lss (.tmp 16) (.tmp 15), none⟩])
 (.seq (.cond (.tmp 17) (.skip) (.exit 0))
 (.seq (.block 1 (.seq (.reg [⟨(some 18), .mv (.tmp 16), none⟩,
  ⟨(some 19), .iad 1 (.tmp 14) (.tmp 16), none⟩,
  ⟨(some 20), .ld none (.tmp 19), none⟩,
  ⟨(some 8), .mv (.tmp 18), none⟩,
  ⟨(some 9), .mv (.tmp 20), none⟩])
 (.seq (.reg [⟨(some 21), .mv (.tmp 7), none⟩,
  ⟨(some 22), .mv (.tmp 9), none⟩,
  ⟨(some 23), .fad 0 (.tmp 2), none⟩,
  ⟨(some 24), .ld none (.tmp 23), none⟩,
  ⟨(some 25), .mv (.tmp 8), none⟩,
  ⟨(some 26), .iad 1 (.tmp 24) (.tmp 25), none⟩,
  ⟨(some 27), .ld none (.tmp 26), none⟩,
  ⟨(some 28), .bin .sub (.tmp 22) (.tmp 27), none⟩,
  ⟨(some 29), .bin .add (.tmp 21) (.tmp 28), none⟩,
  ⟨(some 7), .mv (.tmp 29), none⟩])
 (.seq (.reg [⟨(some 30), .mv (.tmp 7), none⟩,
  ⟨(some 31), .bin .lss (.tmp 30) (.const (.int .i64 0)), none⟩])
 (.cond (.tmp 31) (.seq (.reg [⟨(some 32), .mv (.tmp 8), none⟩,
  ⟨(some 33), .mv (.tmp 7), none⟩,
  ⟨(some 34), .un .neg (.tmp 33), none⟩,
  ⟨(some 4), .mv (.tmp 32), none⟩,
  ⟨(some 5), .mv (.tmp 34), none⟩,
  ⟨(some 6), .mv (.const (.bool true)), none⟩])
 (.ret)) (.skip))))))
 (.reg [⟨(some 35), .bin .add (.tmp 16) (.const (.int .i64 1)), none⟩,
  ⟨(some 16), .mv (.tmp 35), none⟩])))))))
 (.seq (.reg [⟨(some 4), .mv (.const (.int .i64 0)), none⟩,
  ⟨(some 5), .mv (.const (.int .i64 0)), none⟩,
  ⟨(some 6), .mv (.const (.bool false)), none⟩])
 (.ret)))))
def r_impl_FirstShort : List ARes := [.tmp 4, .tmp 5, .tmp 6]
theorem ok_impl_FirstShort : FnOk Try.prog 91 36 c_impl_FirstShort r_impl_FirstShort := ⟨⟨Try.f91, _, Try.func91, by kernel_rfl, rfl, rfl, by kernel_rfl, by kernel_rfl⟩⟩
def c_impl_CanMeet : ACode := .seq (.reg [⟨(some 2), .box 26 (.tmp 0), none⟩,
  ⟨(some 4), .mv (.const (.bool false)), none⟩,
  ⟨(some 5), .mv (.const (.bool false)), none⟩])
 (.seq (.seq (.reg [⟨(some 9), .ld (some 4) (.tmp 2), none⟩,
  ⟨(some 10), .mv (.tmp 1), none⟩,
  ⟨(some 11), .call (.func 194) [(.tmp 9), (.tmp 10)], none⟩,
  ⟨(some 12), .un .not (.tmp 11), none⟩])
 (.cond (.tmp 12) (.seq (.reg [⟨(some 4), .mv (.const (.bool false)), none⟩,
  ⟨(some 5), .mv (.const (.bool false)), none⟩])
 (.ret)) (.skip)))
 (.seq (.reg [⟨(some 14), .ld (some 4) (.tmp 2), none⟩,
  ⟨(some 15), .mv (.tmp 1), none⟩,
  ⟨(some 16), .call (.func 91) [(.tmp 14), (.tmp 15)], none⟩,
  ⟨(some 13), .mv (.tmp 16), none⟩,
  ⟨(some 17), .ext 0 (.tmp 13), none⟩,
  ⟨(some 18), .ext 1 (.tmp 13), none⟩,
  ⟨(some 19), .ext 2 (.tmp 13), none⟩,
  ⟨(some 6), .mv (.tmp 17), none⟩,
  ⟨(some 7), .mv (.tmp 18), none⟩,
  ⟨(some 8), .mv (.tmp 19), none⟩])
 (.seq (.reg [⟨(some 20), .mv (.tmp 8), none⟩,
  ⟨(some 21), .un .not (.tmp 20), none⟩,
  ⟨(some 4), .mv (.tmp 21), none⟩,
  ⟨(some 5), .mv (.const (.bool true)), none⟩])
 (.ret))))
def r_impl_CanMeet : List ARes := [.tmp 4, .tmp 5]
theorem ok_impl_CanMeet : FnOk Try.prog 93 22 c_impl_CanMeet r_impl_CanMeet := ⟨⟨Try.f93, _, Try.func93, by kernel_rfl, rfl, rfl, by kernel_rfl, by kernel_rfl⟩⟩
def c_impl_LimitSaves : ACode := .seq (.reg [⟨(some 3), .box 26 (.tmp 0), none⟩,
  ⟨(some 6), .mv (.const (.int .i64 0)), none⟩,
  ⟨(some 7), .mv (.const (.bool false)), none⟩])
 (.seq (.reg [⟨(some 14), .ld (some 4) (.tmp 3), none⟩,
  ⟨(some 15), .mv (.tmp 1), none⟩,
  ⟨(some 16), .call (.func 86) [(.tmp 14), (.tmp 15)], none⟩,
  ⟨(some 13), .mv (.tmp 16), none⟩,
  ⟨(some 17), .ext 0 (.tmp 13), none⟩,
  ⟨(some 18), .ext 1 (.tmp 13), none⟩,
  ⟨(some 8), .mv (.tmp 17), none⟩,
  ⟨(some 9), .mv (.tmp 18), none⟩])
 (.seq (.seq (.reg [⟨(some 19), .mv (.tmp 9), none⟩,
  ⟨(some 20), .un .not (.tmp 19), none⟩,
  ⟨(some 21), .mv (.tmp 20), none⟩,
  ⟨(some 22), .mv (.tmp 2), (some (21, false))⟩,
  ⟨(some 23), .bin .lss (.tmp 22) (.const (.int .i64 0)), (some (21, false))⟩,
  ⟨(some 24), .pick (.tmp 21) (.const (.bool true)) (.tmp 23), none⟩,
  ⟨(some 25), .mv (.tmp 24), none⟩,
  ⟨(some 26), .mv (.tmp 2), (some (25, false))⟩,
  ⟨(some 27), .mv (.tmp 1), (some (25, false))⟩,
  ⟨(some 28), .len (.tmp 27), (some (25, false))⟩,
  ⟨(some 29), .bin .geq (.tmp 26) (.tmp 28), (some (25, false))⟩,
  ⟨(some 30), .pick (.tmp 25) (.const (.bool true)) (.tmp 29), none⟩,
  ⟨(some 31), .mv (.tmp 30), none⟩,
  ⟨(some 32), .mv (.tmp 1), (some (31, false))⟩,
  ⟨(some 33), .mv (.tmp 2), (some (31, false))⟩,
  ⟨(some 34), .iad 1 (.tmp 32) (.tmp 33), (some (31, false))⟩,
  ⟨(some 35), .ld none (.tmp 34), (some (31, false))⟩,
  ⟨(some 36), .bin .eql (.tmp 35) (.const (.int .i64 160)), (some (31, false))⟩,
  ⟨(some 37), .pick (.tmp 31) (.const (.bool true)) (.tmp 36), none⟩])
 (.cond (.tmp 37) (.seq (.reg [⟨(some 6), .mv (.const (.int .i64 0)), none⟩,
  ⟨(some 7), .mv (.const (.bool false)), none⟩])
 (.ret)) (.skip)))
 (.seq (.reg [⟨(some 38), .bsl 3 1 0 [] [], none⟩,
  ⟨(some 39), .mv (.tmp 1), none⟩,
  ⟨(some 40), .app 3 1 8 (.tmp 38) (.tmp 39), none⟩,
  ⟨(some 10), .mv (.tmp 40), none⟩])
 (.seq (.reg [⟨(some 41), .mv (.tmp 10), none⟩,
  ⟨(some 42), .mv (.tmp 2), none⟩,
  ⟨(some 43), .iad 1 (.tmp 41) (.tmp 42), none⟩,
  ⟨(some 44), .ld none (.tmp 43), none⟩,
  ⟨(some 45), .bin .add (.tmp 44) (.const (.int .i64 1)), none⟩,
  ⟨(some 46), .iad 1 (.tmp 41) (.tmp 42), none⟩,
  ⟨none, .st 1 (.tmp 46) (.tmp 45), none⟩])
 (.seq (.reg [⟨(some 48), .ld (some 4) (.tmp 3), none⟩,
  ⟨(some 49), .mv (.tmp 10), none⟩,
  ⟨(some 50), .call (.func 86) [(.tmp 48), (.tmp 49)], none⟩,
  ⟨(some 47), .mv (.tmp 50), none⟩,
  ⟨(some 51), .ext 0 (.tmp 47), none⟩,
  ⟨(some 52), .ext 1 (.tmp 47), none⟩,
  ⟨(some 11), .mv (.tmp 51), none⟩,
  ⟨(some 12), .mv (.tmp 52), none⟩])
 (.seq (.reg [⟨(some 53), .mv (.tmp 8), none⟩,
  ⟨(some 54), .mv (.tmp 11), none⟩,
  ⟨(some 55), .bin .sub (.tmp 53) (.tmp 54), none⟩,
  ⟨(some 6), .mv (.tmp 55), none⟩,
  ⟨(some 7), .mv (.const (.bool true)), none⟩])
 (.ret)))))))
def r_impl_LimitSaves : List ARes := [.tmp 6, .tmp 7]
theorem ok_impl_LimitSaves : FnOk Try.prog 96 56 c_impl_LimitSaves r_impl_LimitSaves := ⟨⟨Try.f96, _, Try.func96, by kernel_rfl, rfl, rfl, by kernel_rfl, by kernel_rfl⟩⟩
def c_impl_KeepsLimits : ACode := .seq (.reg [⟨(some 3), .box 26 (.tmp 0), none⟩,
  ⟨(some 6), .mv (.const (.bool false)), none⟩,
  ⟨(some 7), .mv (.const (.bool false)), none⟩])
 (.seq (.seq (.reg [⟨(some 13), .ld (some 4) (.tmp 3), none⟩,
  ⟨(some 14), .mv (.tmp 2), none⟩,
  ⟨(some 15), .call (.func 63) [(.tmp 13), (.tmp 14)], none⟩,
  ⟨(some 12), .mv (.tmp 15), none⟩,
  ⟨(some 16), .ext 0 (.tmp 12), none⟩,
  ⟨(some 17), .ext 1 (.tmp 12), none⟩,
  ⟨(some 8), .mv (.tmp 16), none⟩,
  ⟨(some 9), .mv (.tmp 17), none⟩])
 (.seq (.reg [⟨(some 18), .mv (.tmp 9), none⟩,
  ⟨(some 19), .un .not (.tmp 18), none⟩,
  ⟨(some 20), .mv (.tmp 19), none⟩,
  ⟨(some 21), .ld (some 4) (.tmp 3), (some (20, false))⟩,
  ⟨(some 22), .mv (.tmp 1), (some (20, false))⟩,
  ⟨(some 23), .call (.func 194) [(.tmp 21), (.tmp 22)], (some (20, false))⟩,
  ⟨(some 24), .un .not (.tmp 23), (some (20, false))⟩,
  ⟨(some 25), .pick (.tmp 20) (.const (.bool true)) (.tmp 24), none⟩])
 (.cond (.tmp 25) (.seq (.reg [⟨(some 6), .mv (.const (.bool false)), none⟩,
  ⟨(some 7), .mv (.const (.bool false)), none⟩])
 (.ret)) (.skip))))
 (.seq (.seq (.reg [⟨(some 26), .mv (.tmp 2), none⟩,
  ⟨(some 27), .len (.tmp 26), none⟩,
  ⟨(some 28), .mv (.const (.int .i64 0)), none⟩])
 (.block 0 (.loop (.seq (.reg [⟨(some 29), .bin .lss (.tmp 28) (.tmp 27), none⟩])
 (.seq (.cond (.tmp 29) (.skip) (.exit 0))
 (.seq (.block 1 (.seq (.reg [⟨(some 30), .mv (.tmp 28), none⟩,
  ⟨(some 31), .iad 1 (.tmp 26) (.tmp 28), none⟩,
  ⟨(some 32), .ld none (.tmp 31), none⟩,
  ⟨(some 10), .mv (.tmp 30), none⟩,
  ⟨(some 11), .mv (.tmp 32), none⟩])
 (.seq (.reg [⟨(some 33), .mv (.tmp 11), none⟩,
  ⟨(some 34), .mv (.tmp 1), none⟩,
  ⟨(some 35), .mv (.tmp 10), none⟩,
  ⟨(some 36), .iad 1 (.tmp 34) (.tmp 35), none⟩,
  ⟨(some 37), .ld none (.tmp 36), none⟩,
  ⟨(some 38), .bin .gtr (.tmp 33) (.tmp 37), none⟩])
 (.cond (.tmp 38) (.seq (.reg [⟨(some 6), .mv (.const (.bool false)), none⟩,
  ⟨(some 7), .mv (.const (.bool true)), none⟩])
 (.ret)) (.skip)))))
 (.reg [⟨(some 39), .bin .add (.tmp 28) (.const (.int .i64 1)), none⟩,
  ⟨(some 28), .mv (.tmp 39), none⟩])))))))
 (.seq (.reg [⟨(some 6), .mv (.const (.bool true)), none⟩,
  ⟨(some 7), .mv (.const (.bool true)), none⟩])
 (.ret))))
def r_impl_KeepsLimits : List ARes := [.tmp 6, .tmp 7]
theorem ok_impl_KeepsLimits : FnOk Try.prog 98 40 c_impl_KeepsLimits r_impl_KeepsLimits := ⟨⟨Try.f98, _, Try.func98, by kernel_rfl, rfl, rfl, by kernel_rfl, by kernel_rfl⟩⟩
def c_impl_IsRegular : ACode := .seq (.reg [⟨(some 3), .box 26 (.tmp 0), none⟩,
  ⟨(some 6), .mv (.const (.bool false)), none⟩,
  ⟨(some 7), .mv (.const (.bool false)), none⟩])
 (.seq (.reg [⟨(some 14), .ld (some 4) (.tmp 3), none⟩,
  ⟨(some 15), .mv (.tmp 1), none⟩,
  ⟨(some 16), .mv (.tmp 2), none⟩,
  ⟨(some 17), .call (.func 103) [(.tmp 14), (.tmp 15), (.tmp 16)], none⟩,
  ⟨(some 13), .mv (.tmp 17), none⟩,
  ⟨(some 18), .ext 0 (.tmp 13), none⟩,
  ⟨(some 19), .ext 1 (.tmp 13), none⟩,
  ⟨(some 8), .mv (.tmp 18), none⟩,
  ⟨(some 9), .mv (.tmp 19), none⟩])
 (.seq (.seq (.reg [⟨(some 20), .mv (.tmp 9), none⟩,
  ⟨(some 21), .un .not (.tmp 20), none⟩])
 (.cond (.tmp 21) (.seq (.reg [⟨(some 6), .mv (.const (.bool false)), none⟩,
  ⟨(some 7), .mv (.const (.bool false)), none⟩])
 (.ret)) (.skip)))
 (.seq (.reg [⟨(some 23), .ld (some 4) (.tmp 3), none⟩,
  ⟨(some 24), .mv (.tmp 2), none⟩,
  ⟨(some 25), .call (.func 63) [(.tmp 23), (.tmp 24)], none⟩,
  ⟨(some 22), .mv (.tmp 25), none⟩,
  ⟨(some 26), .ext 0 (.tmp 22), none⟩,
  ⟨(some 27), .ext 1 (.tmp 22), none⟩,
  ⟨(some 10), .mv (.tmp 26), none⟩,
  ⟨(some 11), .mv (.tmp 27), none⟩])
 (.seq (.seq (.reg [⟨(some 12), .mv (.const (.int .i64 1)), none⟩])
 (.block 0 (.loop (.seq (.seq (.reg [⟨(some 28), .mv (.tmp 12), none⟩,
  ⟨(some 29), .mv (.tmp 8), none⟩,
  ⟨(some 30), .len (.tmp 29), none⟩,
  ⟨(some 31), .bin .lss (.tmp 28) (.tmp 30), none⟩])
 (.cond (.tmp 31) (.skip) (.exit 0)))
 (.seq (.block 1 (.seq (.reg [⟨(some 34), .mv (.tmp 10), none⟩,
  ⟨(some 35), .mv (.tmp 8), none⟩,
  ⟨(some 36), .mv (.tmp 12), none⟩,
  ⟨(some 37), .bin .sub (.tmp 36) (.const (.int .i64 1)), none⟩,
  ⟨(some 38), .iad 1 (.tmp 35) (.tmp 37), none⟩,
  ⟨(some 39), .ld none (.tmp 38), none⟩,
  ⟨(some 40), .mv (.tmp 8), none⟩,
  ⟨(some 41), .mv (.tmp 12), none⟩,
  ⟨(some 42), .iad 1 (.tmp 40) (.tmp 41), none⟩,
  ⟨(some 43), .ld none (.tmp 42), none⟩,
  ⟨(some 44), .slc 1 (.tmp 34) (some (.tmp 39)) (some (.tmp 43)), none⟩,
  ⟨(some 45), .rcall (.func 199) [(.tmp 44), (.const (.int .i64 0))], none⟩,
  ⟨(some 46), .un .not (.tmp 45), none⟩])
 (.cond (.tmp 46) (.seq (.reg [⟨(some 6), .mv (.const (.bool false)), none⟩,
  ⟨(some 7), .mv (.const (.bool true)), none⟩])
 (.ret)) (.skip))))
 (.reg [⟨(some 32), .mv (.tmp 12), none⟩,
  ⟨(some 33), .bin .add (.tmp 32) (.const (.int .i64 1)), none⟩,
  ⟨(some 12), .mv (.tmp 33), none⟩]))))))
 (.seq (.reg [⟨(some 6), .mv (.const (.bool true)), none⟩,
  ⟨(some 7), .mv (.const (.bool true)), none⟩])
 (.ret))))))
def r_impl_IsRegular : List ARes := [.tmp 6, .tmp 7]
theorem ok_impl_IsRegular : FnOk Try.prog 100 47 c_impl_IsRegular r_impl_IsRegular := ⟨⟨Try.f100, _, Try.func100, by kernel_rfl, rfl, rfl, by kernel_rfl, by kernel_rfl⟩⟩
def c_impl_PartialPeriods : ACode := .seq (.reg [⟨(some 3), .box 26 (.tmp 0), none⟩,
  ⟨(some 6), .mv (.const (.slice none 0 0)), none⟩,
  ⟨(some 7), .mv (.const (.bool false)), none⟩])
 (.seq (.seq (.reg [⟨(some 14), .ld (some 4) (.tmp 3), none⟩,
  ⟨(some 15), .mv (.tmp 1), none⟩,
  ⟨(some 16), .mv (.tmp 2), none⟩,
  ⟨(some 17), .call (.func 98) [(.tmp 14), (.tmp 15), (.tmp 16)], none⟩,
  ⟨(some 13), .mv (.tmp 17), none⟩,
  ⟨(some 18), .ext 0 (.tmp 13), none⟩,
  ⟨(some 19), .ext 1 (.tmp 13), none⟩,
  ⟨(some 8), .mv (.tmp 18), none⟩,
  ⟨(some 9), .mv (.tmp 19), none⟩])
 (.seq (.reg [⟨(some 20), .mv (.tmp 9), none⟩,
  ⟨(some 21), .un .not (.tmp 20), none⟩,
  ⟨(some 22), .mv (.tmp 21), none⟩,
  ⟨(some 23), .mv (.tmp 8), (some (22, false))⟩,
  ⟨(some 24), .un .not (.tmp 23), (some (22, false))⟩,
  ⟨(some 25), .pick (.tmp 22) (.const (.bool true)) (.tmp 24), none⟩])
 (.cond (.tmp 25) (.seq (.reg [⟨(some 26), .bsl 3 1 0 [] [], none⟩,
  ⟨(some 6), .mv (.tmp 26), none⟩,
  ⟨(some 7), .mv (.const (.bool false)), none⟩])
 (.ret)) (.skip))))
 (.seq (.reg [⟨(some 27), .bsl 3 1 0 [] [], none⟩,
  ⟨(some 10), .mv (.tmp 27), none⟩])
 (.seq (.seq (.reg [⟨(some 28), .mv (.tmp 2), none⟩,
  ⟨(some 29), .len (.tmp 28), none⟩,
  ⟨(some 30), .mv (.const (.int .i64 0)), none⟩])
 (.block 0 (.loop (.seq (.reg [⟨(some 31), .bin .lss (.tmp 30) (.tmp 29), none⟩])
 (.seq (.cond (.tmp 31) (.skip) (.exit 0))
 (.seq (.block 1 (.seq (.reg [⟨(some 32), .mv (.tmp 30), none⟩,
  ⟨(some 33), .iad 1 (.tmp 28) (.tmp 30), none⟩,
  ⟨(some 34), .ld none (.tmp 33), none⟩,
  ⟨(some 11), .mv (.tmp 32), none⟩,
  ⟨(some 12), .mv (.tmp 34), none⟩])
 (.seq (.reg [⟨(some 35), .mv (.tmp 12), none⟩,
  ⟨(some 36), .mv (.tmp 1), none⟩,
  ⟨(some 37), .mv (.tmp 11), none⟩,
  ⟨(some 38), .iad 1 (.tmp 36) (.tmp 37), none⟩,
  ⟨(some 39), .ld none (.tmp 38), none⟩,
  ⟨(some 40), .call (.func 203) [(.tmp 35), (.tmp 39)], none⟩])
 (.cond (.tmp 40) (.reg [⟨(some 41), .mv (.tmp 10), none⟩,
  ⟨(some 42), .mv (.tmp 11), none⟩,
  ⟨(some 43), .bsl 3 1 1 [(.int .i64 0)] [(0, 1, (.tmp 42))], none⟩,
  ⟨(some 44), .app 3 1 8 (.tmp 41) (.tmp 43), none⟩,
  ⟨(some 10), .mv (.tmp 44), none⟩]) (.skip)))))
 (.reg [⟨(some 45), .bin .add (.tmp 30) (.const (.int .i64 1)), none⟩,
  ⟨(some 30), .mv (.tmp 45), none⟩])))))))
 (.seq (.reg [⟨(some 46), .mv (.tmp 10), none⟩,
  ⟨(some 6), .mv (.tmp 46), none⟩,
  ⟨(some 7), .mv (.const (.bool true)), none⟩])
 (.ret)))))
def r_impl_PartialPeriods : List ARes := [.tmp 6, .tmp 7]
theorem ok_impl_PartialPeriods : FnOk Try.prog 103 47 c_impl_PartialPeriods r_impl_PartialPeriods := ⟨⟨Try.f103, _, Try.func103, by kernel_rfl, rfl, rfl, by kernel_rfl, by kernel_rfl⟩⟩
def c_impl_RegularPlan : ACode := .seq (.reg [⟨(some 2), .box 26 (.tmp 0), none⟩,
  ⟨(some 4), .mv (.const (.slice none 0 0)), none⟩,
  ⟨(some 5), .mv (.const (.bool false)), none⟩])
 (.seq (.reg [⟨(some 6), .ld (some 4) (.tmp 2), none⟩,
  ⟨(some 7), .mv (.tmp 1), none⟩,
  ⟨(some 8), .call (.func 84) [(.tmp 6), (.tmp 7)], none⟩,
  ⟨(some 9), .ext 0 (.tmp 8), none⟩,
  ⟨(some 10), .ext 1 (.tmp 8), none⟩,
  ⟨(some 4), .mv (.tmp 9), none⟩,
  ⟨(some 5), .mv (.tmp 10), none⟩])
 (.ret))
def r_impl_RegularPlan : List ARes := [.tmp 4, .tmp 5]
theorem ok_impl_RegularPlan : FnOk Try.prog 106 11 c_impl_RegularPlan r_impl_RegularPlan := ⟨⟨Try.f106, _, Try.func106, by kernel_rfl, rfl, rfl, by kernel_rfl, by kernel_rfl⟩⟩
def c_impl_LateCost : ACode := .seq (.reg [⟨(some 3), .box 26 (.tmp 0), none⟩,
  ⟨(some 6), .mv (.const (.int .i64 0)), none⟩,
  ⟨(some 7), .mv (.const (.bool false)), none⟩])
 (.seq (.reg [⟨(some 14), .ld (some 4) (.tmp 3), none⟩,
  ⟨(some 15), .mv (.tmp 2), none⟩,
  ⟨(some 16), .call (.func 171) [(.tmp 14), (.tmp 15)], none⟩,
  ⟨(some 13), .mv (.tmp 16), none⟩,
  ⟨(some 17), .ext 0 (.tmp 13), none⟩,
  ⟨(some 18), .ext 1 (.tmp 13), none⟩,
  ⟨(some 8), .mv (.tmp 17), none⟩,
  ⟨(some 9), .mv (.tmp 18), none⟩])
 (.seq (.seq (.reg [⟨(some 19), .mv (.tmp 9), none⟩,
  ⟨(some 20), .un .not (.tmp 19), none⟩,
  ⟨(some 21), .mv (.tmp 20), none⟩,
  ⟨(some 22), .ld (some 4) (.tmp 3), (some (21, false))⟩,
  ⟨(some 23), .mv (.tmp 1), (some (21, false))⟩,
  ⟨(some 24), .call (.func 212) [(.tmp 22), (.tmp 23)], (some (21, false))⟩,
  ⟨(some 25), .un .not (.tmp 24), (some (21, false))⟩,
  ⟨(some 26), .pick (.tmp 21) (.const (.bool true)) (.tmp 25), none⟩])
 (.cond (.tmp 26) (.seq (.reg [⟨(some 6), .mv (.const (.int .i64 0)), none⟩,
  ⟨(some 7), .mv (.const (.bool false)), none⟩])
 (.ret)) (.skip)))
 (.seq (.reg [⟨(some 10), .mv (.const (.int .i64 0)), none⟩])
 (.seq (.seq (.reg [⟨(some 27), .mv (.tmp 2), none⟩,
  ⟨(some 28), .len (.tmp 27), none⟩,
  ⟨(some 29), .mv (.const (.int .i64 0)), none⟩])
 (.block 0 (.loop (.seq (.reg [⟨(some 30), .bin .lss (.tmp 29) (.tmp 28), none⟩])
 (.seq (.cond (.tmp 30) (.skip) (.exit 0))
 (.seq (.block 1 (.seq (.reg [⟨(some 31), .mv (.tmp 29), none⟩,
  ⟨(some 32), .iad 1 (.tmp 27) (.tmp 29), none⟩,
  ⟨(some 33), .ld none (.tmp 32), none⟩,
  ⟨(some 11), .mv (.tmp 31), none⟩,
  ⟨(some 12), .mv (.tmp 33), none⟩])
 (.reg [⟨(some 34), .mv (.tmp 10), none⟩,
  ⟨(some 35), .ld (some 4) (.tmp 3), none⟩,
  ⟨(some 36), .mv (.tmp 1), none⟩,
  ⟨(some 37), .mv (.tmp 11), none⟩,
  ⟨(some 38), .mv (.tmp 12), none⟩,
  ⟨(some 39), .mv (.tmp 8), none⟩,
  ⟨(some 40), .mv (.tmp 11), none⟩,
  ⟨(some 41), .iad 1 (.tmp 39) (.tmp 40), none⟩,
  ⟨(some 42), .ld none (.tmp 41), none⟩,
  ⟨(some 43), .rcall (.func 213) [(.tmp 35), (.tmp 36), (.tmp 37), (.tmp 38), (.tmp 42)], none⟩,
  ⟨(some 44), .bin .add (.tmp 34) (.tmp 43), none⟩,
  ⟨(some 10), .mv (.tmp 44), none⟩])))
 (.reg [⟨(some 45), .bin .add (.tmp 29) (.const (.int .i64 1)), none⟩,
  ⟨(some 29), .mv (.tmp 45), none⟩])))))))
 (.seq (.reg [⟨(some 46), .mv (.tmp 10), none⟩,
  ⟨(some 6), .mv (.tmp 46), none⟩,
  ⟨(some 7), .mv (.const (.bool true)), none⟩])
 (.ret))))))
def r_impl_LateCost : List ARes := [.tmp 6, .tmp 7]
theorem ok_impl_LateCost : FnOk Try.prog 109 47 c_impl_LateCost r_impl_LateCost := ⟨⟨Try.f109, _, Try.func109, by kernel_rfl, rfl, rfl, by kernel_rfl, by kernel_rfl⟩⟩
def c_impl_IsLatePlan : ACode := .seq (.reg [⟨(some 2), .box 26 (.tmp 0), none⟩,
  ⟨(some 4), .mv (.const (.bool false)), none⟩,
  ⟨(some 5), .mv (.const (.bool false)), none⟩])
 (.seq (.seq (.reg [⟨(some 8), .ld (some 4) (.tmp 2), none⟩,
  ⟨(some 9), .call (.func 62) [(.tmp 8)], none⟩,
  ⟨(some 10), .un .not (.tmp 9), none⟩])
 (.cond (.tmp 10) (.seq (.reg [⟨(some 4), .mv (.const (.bool false)), none⟩,
  ⟨(some 5), .mv (.const (.bool false)), none⟩])
 (.ret)) (.skip)))
 (.seq (.reg [⟨(some 12), .ld (some 4) (.tmp 2), none⟩,
  ⟨(some 13), .mv (.tmp 1), none⟩,
  ⟨(some 14), .call (.func 171) [(.tmp 12), (.tmp 13)], none⟩,
  ⟨(some 11), .mv (.tmp 14), none⟩,
  ⟨(some 15), .ext 0 (.tmp 11), none⟩,
  ⟨(some 16), .ext 1 (.tmp 11), none⟩,
  ⟨(some 6), .mv (.tmp 15), none⟩,
  ⟨(some 7), .mv (.tmp 16), none⟩])
 (.seq (.reg [⟨(some 17), .mv (.tmp 7), none⟩,
  ⟨(some 4), .mv (.tmp 17), none⟩,
  ⟨(some 5), .mv (.const (.bool true)), none⟩])
 (.ret))))
def r_impl_IsLatePlan : List ARes := [.tmp 4, .tmp 5]
theorem ok_impl_IsLatePlan : FnOk Try.prog 111 18 c_impl_IsLatePlan r_impl_IsLatePlan := ⟨⟨Try.f111, _, Try.func111, by kernel_rfl, rfl, rfl, by kernel_rfl, by kernel_rfl⟩⟩
def c_impl_OwedPeriods : ACode := .seq (.reg [⟨(some 2), .box 26 (.tmp 0), none⟩,
  ⟨(some 4), .mv (.const (.slice none 0 0)), none⟩,
  ⟨(some 5), .mv (.const (.bool false)), none⟩])
 (.seq (.reg [⟨(some 9), .ld (some 4) (.tmp 2), none⟩,
  ⟨(some 10), .mv (.tmp 1), none⟩,
  ⟨(some 11), .call (.func 171) [(.tmp 9), (.tmp 10)], none⟩,
  ⟨(some 8), .mv (.tmp 11), none⟩,
  ⟨(some 12), .ext 0 (.tmp 8), none⟩,
  ⟨(some 13), .ext 1 (.tmp 8), none⟩,
  ⟨(some 6), .mv (.tmp 12), none⟩,
  ⟨(some 7), .mv (.tmp 13), none⟩])
 (.seq (.seq (.reg [⟨(some 14), .mv (.tmp 7), none⟩,
  ⟨(some 15), .un .not (.tmp 14), none⟩])
 (.cond (.tmp 15) (.seq (.reg [⟨(some 16), .bsl 3 1 0 [] [], none⟩,
  ⟨(some 4), .mv (.tmp 16), none⟩,
  ⟨(some 5), .mv (.const (.bool false)), none⟩])
 (.ret)) (.skip)))
 (.seq (.reg [⟨(some 17), .mv (.tmp 6), none⟩,
  ⟨(some 18), .call (.func 133) [(.tmp 17), (.func 173)], none⟩,
  ⟨(some 4), .mv (.tmp 18), none⟩,
  ⟨(some 5), .mv (.const (.bool true)), none⟩])
 (.ret))))
def r_impl_OwedPeriods : List ARes := [.tmp 4, .tmp 5]
theorem ok_impl_OwedPeriods : FnOk Try.prog 113 19 c_impl_OwedPeriods r_impl_OwedPeriods := ⟨⟨Try.f113, _, Try.func113, by kernel_rfl, rfl, rfl, by kernel_rfl, by kernel_rfl⟩⟩
def c_impl_LeastLate : ACode := .seq (.reg [⟨(some 2), .box 26 (.tmp 0), none⟩,
  ⟨(some 4), .mv (.const (.int .i64 0)), none⟩,
  ⟨(some 5), .mv (.const (.bool false)), none⟩])
 (.seq (.reg [⟨(some 9), .ld (some 4) (.tmp 2), none⟩,
  ⟨(some 10), .mv (.tmp 1), none⟩,
  ⟨(some 11), .call (.func 217) [(.tmp 9), (.tmp 10)], none⟩,
  ⟨(some 8), .mv (.tmp 11), none⟩,
  ⟨(some 12), .ext 0 (.tmp 8), none⟩,
  ⟨(some 13), .ext 1 (.tmp 8), none⟩,
  ⟨(some 6), .mv (.tmp 12), none⟩,
  ⟨(some 7), .mv (.tmp 13), none⟩])
 (.seq (.seq (.reg [⟨(some 14), .mv (.tmp 7), none⟩,
  ⟨(some 15), .un .not (.tmp 14), none⟩])
 (.cond (.tmp 15) (.seq (.reg [⟨(some 4), .mv (.const (.int .i64 0)), none⟩,
  ⟨(some 5), .mv (.const (.bool false)), none⟩])
 (.ret)) (.skip)))
 (.seq (.reg [⟨(some 16), .mv (.tmp 6), none⟩,
  ⟨(some 17), .call (.func 192) [(.tmp 16)], none⟩,
  ⟨(some 4), .mv (.tmp 17), none⟩,
  ⟨(some 5), .mv (.const (.bool true)), none⟩])
 (.ret))))
def r_impl_LeastLate : List ARes := [.tmp 4, .tmp 5]
theorem ok_impl_LeastLate : FnOk Try.prog 115 18 c_impl_LeastLate r_impl_LeastLate := ⟨⟨Try.f115, _, Try.func115, by kernel_rfl, rfl, rfl, by kernel_rfl, by kernel_rfl⟩⟩
def c_impl_BestLatePlan : ACode := .seq (.reg [⟨(some 2), .box 26 (.tmp 0), none⟩,
  ⟨(some 4), .mv (.const (.slice none 0 0)), none⟩,
  ⟨(some 5), .mv (.const (.bool false)), none⟩])
 (.seq (.reg [⟨(some 9), .ld (some 4) (.tmp 2), none⟩,
  ⟨(some 10), .mv (.tmp 1), none⟩,
  ⟨(some 11), .call (.func 217) [(.tmp 9), (.tmp 10)], none⟩,
  ⟨(some 8), .mv (.tmp 11), none⟩,
  ⟨(some 12), .ext 0 (.tmp 8), none⟩,
  ⟨(some 13), .ext 1 (.tmp 8), none⟩,
  ⟨(some 6), .mv (.tmp 12), none⟩,
  ⟨(some 7), .mv (.tmp 13), none⟩])
 (.seq (.seq (.reg [⟨(some 14), .mv (.tmp 7), none⟩,
  ⟨(some 15), .un .not (.tmp 14), none⟩])
 (.cond (.tmp 15) (.seq (.reg [⟨(some 16), .bsl 3 1 0 [] [], none⟩,
  ⟨(some 4), .mv (.tmp 16), none⟩,
  ⟨(some 5), .mv (.const (.bool false)), none⟩])
 (.ret)) (.skip)))
 (.seq (.reg [⟨(some 17), .mv (.tmp 6), none⟩,
  ⟨(some 18), .call (.func 188) [(.tmp 17)], none⟩,
  ⟨(some 4), .mv (.tmp 18), none⟩,
  ⟨(some 5), .mv (.const (.bool true)), none⟩])
 (.ret))))
def r_impl_BestLatePlan : List ARes := [.tmp 4, .tmp 5]
theorem ok_impl_BestLatePlan : FnOk Try.prog 117 19 c_impl_BestLatePlan r_impl_BestLatePlan := ⟨⟨Try.f117, _, Try.func117, by kernel_rfl, rfl, rfl, by kernel_rfl, by kernel_rfl⟩⟩
def c_impl_JoinCases : ACode := .seq (.reg [⟨(some 2), .box 26 (.tmp 0), none⟩,
  ⟨(some 3), .box 26 (.tmp 1), none⟩,
  ⟨(some 4), .alc 26 [(.slice none 0 0), (.slice none 0 0), (.slice none 0 0), (.slice none 0 0)], none⟩,
  ⟨(some 5), .mv (.const (.bool false)), none⟩])
 (.seq (.seq (.reg [⟨(some 6), .ld (some 4) (.tmp 2), none⟩,
  ⟨(some 7), .call (.func 62) [(.tmp 6)], none⟩,
  ⟨(some 8), .un .not (.tmp 7), none⟩,
  ⟨(some 9), .mv (.tmp 8), none⟩,
  ⟨(some 10), .ld (some 4) (.tmp 3), (some (9, false))⟩,
  ⟨(some 11), .call (.func 62) [(.tmp 10)], (some (9, false))⟩,
  ⟨(some 12), .un .not (.tmp 11), (some (9, false))⟩,
  ⟨(some 13), .pick (.tmp 9) (.const (.bool true)) (.tmp 12), none⟩,
  ⟨(some 14), .mv (.tmp 13), none⟩,
  ⟨(some 15), .fad 0 (.tmp 2), (some (14, false))⟩,
  ⟨(some 16), .ld none (.tmp 15), (some (14, false))⟩,
  ⟨(some 17), .len (.tmp 16), (some (14, false))⟩,
  ⟨(some 18), .fad 0 (.tmp 3), (some (14, false))⟩,
  ⟨(some 19), .ld none (.tmp 18), (some (14, false))⟩,
  ⟨(some 20), .len (.tmp 19), (some (14, false))⟩,
  ⟨(some 21), .bin .add (.tmp 17) (.tmp 20), (some (14, false))⟩,
  ⟨(some 22), .bin .gtr (.tmp 21) (.const (.int .i64 8)), (some (14, false))⟩,
  ⟨(some 23), .pick (.tmp 14) (.const (.bool true)) (.tmp 22), none⟩])
 (.cond (.tmp 23) (.seq (.reg [⟨(some 24), .bld [(.slice none 0 0), (.slice none 0 0), (.slice none 0 0), (.slice none 0 0)] [], none⟩,
  ⟨none, .st 4 (.tmp 4) (.tmp 24), none⟩,
  ⟨(some 5), .mv (.const (.bool false)), none⟩])
 (.ret)) (.skip)))
 (.seq (.bad)
 (.ret)))
def r_impl_JoinCases : List ARes := [.cell 4 (some 4), .tmp 5]
theorem ok_impl_JoinCases : FnOk Try.prog 123 50 c_impl_JoinCases r_impl_JoinCases := ⟨⟨Try.f123, _, Try.func123, by kernel_rfl, rfl, rfl, by kernel_rfl, by kernel_rfl⟩⟩
def c_impl_forwardTable : ACode := .seq (.reg [⟨(some 1), .box 26 (.tmp 0), none⟩,
  ⟨(some 2), .mv (.const (.slice none 0 0)), none⟩,
  ⟨(some 3), .mv (.const (.slice none 0 0)), none⟩])
 (.seq (.reg [⟨(some 11), .bsl 3 1 1 [(.int .i64 0)] [(0, 1, (.const (.int .i64 0)))], none⟩,
  ⟨(some 4), .mv (.tmp 11), none⟩])
 (.seq (.reg [⟨(some 12), .bsl 3 1 0 [] [], none⟩,
  ⟨(some 5), .mv (.tmp 12), none⟩])
 (.seq (.seq (.reg [⟨(some 6), .mv (.const (.int .i64 1)), none⟩])
 (.block 0 (.loop (.seq (.seq (.reg [⟨(some 13), .mv (.tmp 6), none⟩,
  ⟨(some 14), .fad 0 (.tmp 1), none⟩,
  ⟨(some 15), .ld none (.tmp 14), none⟩,
  ⟨(some 16), .len (.tmp 15), none⟩,
  ⟨(some 17), .bin .leq (.tmp 13) (.tmp 16), none⟩])
 (.cond (.tmp 17) (.skip) (.exit 0)))
 (.seq (.block 1 (.seq (.reg [⟨(some 20), .ld (some 4) (.tmp 1), none⟩,
  ⟨(some 21), .mv (.tmp 6), none⟩,
  ⟨(some 22), .call (.func 136) [(.tmp 20), (.const (.int .i64 0)), (.tmp 21)], none⟩,
  ⟨(some 7), .mv (.tmp 22), none⟩,
  ⟨(some 8), .mv (.const (.int .i64 0)), none⟩])
 (.seq (.seq (.reg [⟨(some 9), .mv (.const (.int .i64 1)), none⟩])
 (.block 2 (.loop (.seq (.seq (.reg [⟨(some 23), .mv (.tmp 9), none⟩,
  ⟨(some 24), .mv (.tmp 6), none⟩,
  ⟨(some 25), .bin .lss (.tmp 23) (.tmp 24), none⟩])
 (.cond (.tmp 25) (.skip) (.exit 2)))
 (.seq (.block 3 (.seq (.reg [⟨(some 28), .mv (.tmp 4), none⟩,
  ⟨(some 29), .mv (.tmp 9), none⟩,
  ⟨(some 30), .iad 1 (.tmp 28) (.tmp 29), none⟩,
  ⟨(some 31), .ld none (.tmp 30), none⟩,
  ⟨(some 32), .ld (some 4) (.tmp 1), none⟩,
  ⟨(some 33), .mv (.tmp 9), none⟩,
  ⟨(some 34), .mv (.tmp 6), none⟩,
  ⟨(some 35), .rcall (.func 136) [(.tmp 32), (.tmp 33), (.tmp 34)], none⟩,
  ⟨(some 36), .bin .add (.tmp 31) (.tmp 35), none⟩,
  ⟨(some 10), .mv (.tmp 36), none⟩])
 (.seq (.reg [⟨(some 37), .mv (.tmp 10), none⟩,
  ⟨(some 38), .mv (.tmp 7), none⟩,
  ⟨(some 39), .bin .leq (.tmp 37) (.tmp 38), none⟩])
 (.cond (.tmp 39) (.reg [⟨(some 40), .mv (.tmp 10), none⟩,
  ⟨(some 41), .mv (.tmp 9), none⟩,
  ⟨(some 7), .mv (.tmp 40), none⟩,
  ⟨(some 8), .mv (.tmp 41), none⟩]) (.skip)))))
 (.reg [⟨(some 26), .mv (.tmp 9), none⟩,
  ⟨(some 27), .bin .add (.tmp 26) (.const (.int .i64 1)), none⟩,
  ⟨(some 9), .mv (.tmp 27), none⟩]))))))
 (.seq (.reg [⟨(some 42), .mv (.tmp 4), none⟩,
  ⟨(some 43), .mv (.tmp 7), none⟩,
  ⟨(some 44), .bsl 3 1 1 [(.int .i64 0)] [(0, 1, (.tmp 43))], none⟩,
  ⟨(some 45), .app 3 1 8 (.tmp 42) (.tmp 44), none⟩,
  ⟨(some 4), .mv (.tmp 45), none⟩])
 (.reg [⟨(some 46), .mv (.tmp 5), none⟩,
  ⟨(some 47), .mv (.tmp 8), none⟩,
  ⟨(some 48), .bsl 3 1 1 [(.int .i64 0)] [(0, 1, (.tmp 47))], none⟩,
  ⟨(some 49), .app 3 1 8 (.tmp 46) (.tmp 48), none⟩,
  ⟨(some 5), .mv (.tmp 49), none⟩])))))
 (.reg [⟨(some 18), .mv (.tmp 6), none⟩,
  ⟨(some 19), .bin .add (.tmp 18) (.const (.int .i64 1)), none⟩,
  ⟨(some 6), .mv (.tmp 19), none⟩]))))))
 (.seq (.reg [⟨(some 50), .mv (.tmp 4), none⟩,
  ⟨(some 51), .mv (.tmp 5), none⟩,
  ⟨(some 2), .mv (.tmp 50), none⟩,
  ⟨(some 3), .mv (.tmp 51), none⟩])
 (.ret)))))
def r_impl_forwardTable : List ARes := [.tmp 2, .tmp 3]
theorem ok_impl_forwardTable : FnOk Try.prog 128 52 c_impl_forwardTable r_impl_forwardTable := ⟨⟨Try.f128, _, Try.func128, by kernel_rfl, rfl, rfl, by kernel_rfl, by kernel_rfl⟩⟩
def c_impl_backwardTable : ACode := .seq (.reg [⟨(some 1), .box 26 (.tmp 0), none⟩,
  ⟨(some 2), .mv (.const (.slice none 0 0)), none⟩])
 (.seq (.reg [⟨(some 7), .fad 0 (.tmp 1), none⟩,
  ⟨(some 8), .ld none (.tmp 7), none⟩,
  ⟨(some 9), .len (.tmp 8), none⟩,
  ⟨(some 3), .mv (.tmp 9), none⟩])
 (.seq (.reg [⟨(some 10), .mv (.tmp 3), none⟩,
  ⟨(some 11), .bin .add (.tmp 10) (.const (.int .i64 1)), none⟩,
  ⟨(some 12), .mks 3 8 [(.int .i64 0)] (.tmp 11) (.tmp 11), none⟩,
  ⟨(some 4), .mv (.tmp 12), none⟩])
 (.seq (.seq (.reg [⟨(some 13), .mv (.tmp 3), none⟩,
  ⟨(some 14), .bin .sub (.tmp 13) (.const (.int .i64 1)), none⟩,
  ⟨(some 5), .mv (.tmp 14), none⟩])
 (.block 0 (.loop (.seq (.seq (.reg [⟨(some 15), .mv (.tmp 5), none⟩,
  ⟨(some 16), .bin .geq (.tmp 15) (.const (.int .i64 0)), none⟩])
 (.cond (.tmp 16) (.skip) (.exit 0)))
 (.seq (.block 1 (.seq (.reg [⟨(some 19), .mv (.tmp 4), none⟩,
  ⟨(some 20), .mv (.tmp 5), none⟩,
  ⟨(some 21), .ld (some 4) (.tmp 1), none⟩,
  ⟨(some 22), .mv (.tmp 5), none⟩,
  ⟨(some 23), .mv (.tmp 3), none⟩,
  ⟨(some 24), .call (.func 136) [(.tmp 21), (.tmp 22), (.tmp 23)], none⟩,
  ⟨(some 25), .iad 1 (.tmp 19) (.tmp 20), none⟩,
  ⟨none, .st 1 (.tmp 25) (.tmp 24), none⟩])
 (.seq (.reg [⟨(some 26), .mv (.tmp 5), none⟩,
  ⟨(some 27), .bin .add (.tmp 26) (.const (.int .i64 1)), none⟩,
  ⟨(some 6), .mv (.tmp 27), none⟩])
 (.block 2 (.loop (.seq (.seq (.reg [⟨(some 28), .mv (.tmp 6), none⟩,
  ⟨(some 29), .mv (.tmp 3), none⟩,
  ⟨(some 30), .bin .lss (.tmp 28) (.tmp 29), none⟩])
 (.cond (.tmp 30) (.skip) (.exit 2)))
 (.seq (.block 3 (.reg [⟨(some 33), .mv (.tmp 4), none⟩,
  ⟨(some 34), .mv (.tmp 5), none⟩,
  ⟨(some 35), .mv (.tmp 4), none⟩,
  ⟨(some 36), .mv (.tmp 5), none⟩,
  ⟨(some 37), .iad 1 (.tmp 35) (.tmp 36), none⟩,
  ⟨(some 38), .ld none (.tmp 37), none⟩,
  ⟨(some 39), .ld (some 4) (.tmp 1), none⟩,
  ⟨(some 40), .mv (.tmp 5), none⟩,
  ⟨(some 41), .mv (.tmp 6), none⟩,
  ⟨(some 43), .mv (.tmp 4), none⟩,
  ⟨(some 44), .mv (.tmp 6), none⟩,
  ⟨(some 45), .iad 1 (.tmp 43) (.tmp 44), none⟩,
  ⟨(some 46), .ld none (.tmp 45), none⟩,
  ⟨(some 42), .rcall (.func 136) [(.tmp 39), (.tmp 40), (.tmp 41)], none⟩,
  ⟨(some 47), .bin .add (.tmp 42) (.tmp 46), none⟩,
  ⟨(some 48), .mmx false (.tmp 38) (.tmp 47), none⟩,
  ⟨(some 49), .iad 1 (.tmp 33) (.tmp 34), none⟩,
  ⟨none, .st 1 (.tmp 49) (.tmp 48), none⟩]))
 (.reg [⟨(some 31), .mv (.tmp 6), none⟩,
  ⟨(some 32), .bin .add (.tmp 31) (.const (.int .i64 1)), none⟩,
  ⟨(some 6), .mv (.tmp 32), none⟩]))))))))
 (.reg [⟨(some 17), .mv (.tmp 5), none⟩,
  ⟨(some 18), .bin .sub (.tmp 17) (.const (.int .i64 1)), none⟩,
  ⟨(some 5), .mv (.tmp 18), none⟩]))))))
 (.seq (.reg [⟨(some 50), .mv (.tmp 4), none⟩,
  ⟨(some 2), .mv (.tmp 50), none⟩])
 (.ret)))))
def r_impl_backwardTable : List ARes := [.tmp 2]
theorem ok_impl_backwardTable : FnOk Try.prog 131 51 c_impl_backwardTable r_impl_backwardTable := ⟨⟨Try.f131, _, Try.func131, by kernel_rfl, rfl, rfl, by kernel_rfl, by kernel_rfl⟩⟩
def c_impl_periodsWith : ACode := .seq (.reg [⟨(some 4), .mv (.const (.slice none 0 0)), none⟩])
 (.seq (.reg [⟨(some 8), .bsl 3 1 0 [] [], none⟩,
  ⟨(some 5), .mv (.tmp 8), none⟩])
 (.seq (.seq (.reg [⟨(some 9), .mv (.tmp 0), none⟩,
  ⟨(some 10), .len (.tmp 9), none⟩,
  ⟨(some 11), .mv (.const (.int .i64 0)), none⟩])
 (.block 0 (.loop (.seq (.reg [⟨(some 12), .bin .lss (.tmp 11) (.tmp 10), none⟩])
 (.seq (.cond (.tmp 12) (.skip) (.exit 0))
 (.seq (.block 1 (.seq (.reg [⟨(some 13), .mv (.tmp 11), none⟩,
  ⟨(some 14), .iad 1 (.tmp 9) (.tmp 11), none⟩,
  ⟨(some 15), .ld none (.tmp 14), none⟩,
  ⟨(some 6), .mv (.tmp 13), none⟩,
  ⟨(some 7), .mv (.tmp 15), none⟩])
 (.seq (.reg [⟨(some 16), .mv (.tmp 1), none⟩,
  ⟨(some 17), .mv (.tmp 7), none⟩,
  ⟨(some 18), .call (.tmp 16) [(.tmp 17)], none⟩])
 (.cond (.tmp 18) (.reg [⟨(some 19), .mv (.tmp 5), none⟩,
  ⟨(some 20), .mv (.tmp 6), none⟩,
  ⟨(some 21), .bsl 3 1 1 [(.int .i64 0)] [(0, 1, (.tmp 20))], none⟩,
  ⟨(some 22), .app 3 1 8 (.tmp 19) (.tmp 21), none⟩,
  ⟨(some 5), .mv (.tmp 22), none⟩]) (.skip)))))
 (.reg [⟨(some 23), .bin .add (.tmp 11) (.const (.int .i64 1)), none⟩,
  ⟨(some 11), .mv (.tmp 23), none⟩])))))))
 (.seq (.reg [⟨(some 24), .mv (.tmp 5), none⟩,
  ⟨(some 4), .mv (.tmp 24), none⟩])
 (.ret))))
def r_impl_periodsWith : List ARes := [.tmp 4]
theorem ok_impl_periodsWith : FnOk Try.prog 133 25 c_impl_periodsWith r_impl_periodsWith := ⟨⟨Try.f133, _, Try.func133, by kernel_rfl, rfl, rfl, by kernel_rfl, by kernel_rfl⟩⟩
def c_impl_TurningPeriods_1 : ACode := .seq (.reg [⟨(some 3), .mv (.const (.bool false)), none⟩])
 (.seq (.reg [⟨(some 4), .mv (.tmp 0), none⟩,
  ⟨(some 5), .ld none (.tmp 1), none⟩,
  ⟨(some 6), .bin .eql (.tmp 4) (.tmp 5), none⟩,
  ⟨(some 3), .mv (.tmp 6), none⟩])
 (.ret))
def r_impl_TurningPeriods_1 : List ARes := [.tmp 3]
theorem ok_impl_TurningPeriods_1 : FnOk Try.prog 134 7 c_impl_TurningPeriods_1 r_impl_TurningPeriods_1 := ⟨⟨Try.f134, _, Try.func134, by kernel_rfl, rfl, rfl, by kernel_rfl, by kernel_rfl⟩⟩
def c_impl_orderCost : ACode := .seq (.reg [⟨(some 3), .box 26 (.tmp 0), none⟩,
  ⟨(some 6), .mv (.const (.int .i64 0)), none⟩])
 (.seq (.reg [⟨(some 10), .fad 0 (.tmp 3), none⟩,
  ⟨(some 11), .ld none (.tmp 10), none⟩,
  ⟨(some 12), .mv (.tmp 1), none⟩,
  ⟨(some 13), .mv (.tmp 2), none⟩,
  ⟨(some 14), .slc 1 (.tmp 11) (some (.tmp 12)) (some (.tmp 13)), none⟩,
  ⟨(some 15), .call (.func 144) [(.tmp 14)], none⟩,
  ⟨(some 7), .mv (.tmp 15), none⟩])
 (.seq (.seq (.reg [⟨(some 16), .mv (.tmp 7), none⟩,
  ⟨(some 17), .bin .eql (.tmp 16) (.const (.int .i64 0)), none⟩])
 (.cond (.tmp 17) (.seq (.reg [⟨(some 6), .mv (.const (.int .i64 0)), none⟩])
 (.ret)) (.skip)))
 (.seq (.reg [⟨(some 18), .fad 1 (.tmp 3), none⟩,
  ⟨(some 19), .ld none (.tmp 18), none⟩,
  ⟨(some 20), .mv (.tmp 1), none⟩,
  ⟨(some 21), .iad 1 (.tmp 19) (.tmp 20), none⟩,
  ⟨(some 22), .ld none (.tmp 21), none⟩,
  ⟨(some 23), .fad 2 (.tmp 3), none⟩,
  ⟨(some 24), .ld none (.tmp 23), none⟩,
  ⟨(some 25), .mv (.tmp 1), none⟩,
  ⟨(some 26), .iad 1 (.tmp 24) (.tmp 25), none⟩,
  ⟨(some 27), .ld none (.tmp 26), none⟩,
  ⟨(some 28), .mv (.tmp 7), none⟩,
  ⟨(some 29), .bin .mul (.tmp 27) (.tmp 28), none⟩,
  ⟨(some 30), .bin .add (.tmp 22) (.tmp 29), none⟩,
  ⟨(some 8), .mv (.tmp 30), none⟩])
 (.seq (.seq (.reg [⟨(some 31), .mv (.tmp 1), none⟩,
  ⟨(some 9), .mv (.tmp 31), none⟩])
 (.block 0 (.loop (.seq (.seq (.reg [⟨(some 32), .mv (.tmp 9), none⟩,
  ⟨(some 33), .mv (.tmp 2), none⟩,
  ⟨(some 34), .bin .lss (.tmp 32) (.tmp 33), none⟩])
 (.cond (.tmp 34) (.skip) (.exit 0)))
 (.seq (.block 1 (.seq (.reg [⟨(some 37), .mv (.tmp 7), none⟩,
  ⟨(some 38), .fad 0 (.tmp 3), none⟩,
  ⟨(some 39), .ld none (.tmp 38), none⟩,
  ⟨(some 40), .mv (.tmp 9), none⟩,
  ⟨(some 41), .iad 1 (.tmp 39) (.tmp 40), none⟩,
  ⟨(some 42), .ld none (.tmp 41), none⟩,
  ⟨(some 43), .bin .sub (.tmp 37) (.tmp 42), none⟩,
  ⟨(some 7), .mv (.tmp 43), none⟩])
 (.reg [⟨(some 44), .mv (.tmp 8), none⟩,
  ⟨(some 45), .fad 3 (.tmp 3), none⟩,
  ⟨(some 46), .ld none (.tmp 45), none⟩,
  ⟨(some 47), .mv (.tmp 9), none⟩,
  ⟨(some 48), .iad 1 (.tmp 46) (.tmp 47), none⟩,
  ⟨(some 49), .ld none (.tmp 48), none⟩,
  ⟨(some 50), .mv (.tmp 7), none⟩,
  ⟨(some 51), .bin .mul (.tmp 49) (.tmp 50), none⟩,
  ⟨(some 52), .bin .add (.tmp 44) (.tmp 51), none⟩,
  ⟨(some 8), .mv (.tmp 52), none⟩])))
 (.reg [⟨(some 35), .mv (.tmp 9), none⟩,
  ⟨(some 36), .bin .add (.tmp 35) (.const (.int .i64 1)), none⟩,
  ⟨(some 9), .mv (.tmp 36), none⟩]))))))
 (.seq (.reg [⟨(some 53), .mv (.tmp 8), none⟩,
  ⟨(some 6), .mv (.tmp 53), none⟩])
 (.ret))))))
def r_impl_orderCost : List ARes := [.tmp 6]
theorem ok_impl_orderCost : FnOk Try.prog 136 54 c_impl_orderCost r_impl_orderCost := ⟨⟨Try.f136, _, Try.func136, by kernel_rfl, rfl, rfl, by kernel_rfl, by kernel_rfl⟩⟩
def c_impl_rateFrom : ACode := .seq (.reg [⟨(some 3), .box 26 (.tmp 0), none⟩,
  ⟨(some 6), .mv (.const (.int .i64 0)), none⟩])
 (.seq (.reg [⟨(some 7), .fad 2 (.tmp 3), none⟩,
  ⟨(some 8), .ld none (.tmp 7), none⟩,
  ⟨(some 9), .mv (.tmp 1), none⟩,
  ⟨(some 10), .iad 1 (.tmp 8) (.tmp 9), none⟩,
  ⟨(some 11), .ld none (.tmp 10), none⟩,
  ⟨(some 12), .fad 3 (.tmp 3), none⟩,
  ⟨(some 13), .ld none (.tmp 12), none⟩,
  ⟨(some 14), .mv (.tmp 1), none⟩,
  ⟨(some 15), .mv (.tmp 2), none⟩,
  ⟨(some 16), .slc 1 (.tmp 13) (some (.tmp 14)) (some (.tmp 15)), none⟩,
  ⟨(some 17), .rcall (.func 144) [(.tmp 16)], none⟩,
  ⟨(some 18), .bin .add (.tmp 11) (.tmp 17), none⟩,
  ⟨(some 6), .mv (.tmp 18), none⟩])
 (.ret))
def r_impl_rateFrom : List ARes := [.tmp 6]
theorem ok_impl_rateFrom : FnOk Try.prog 139 19 c_impl_rateFrom r_impl_rateFrom := ⟨⟨Try.f139, _, Try.func139, by kernel_rfl, rfl, rfl, by kernel_rfl, by kernel_rfl⟩⟩
def c_impl_CutCase_1 : ACode := .seq (.reg [⟨(some 4), .mv (.const (.slice none 0 0)), none⟩])
 (.seq (.reg [⟨(some 5), .bsl 3 1 0 [] [], none⟩,
  ⟨(some 6), .mv (.tmp 0), none⟩,
  ⟨(some 7), .ld none (.tmp 1), none⟩,
  ⟨(some 8), .ld none (.tmp 2), none⟩,
  ⟨(some 9), .slc 1 (.tmp 6) (some (.tmp 7)) (some (.tmp 8)), none⟩,
  ⟨(some 10), .app 3 1 8 (.tmp 5) (.tmp 9), none⟩,
  ⟨(some 4), .mv (.tmp 10), none⟩])
 (.ret))
def r_impl_CutCase_1 : List ARes := [.tmp 4]
theorem ok_impl_CutCase_1 : FnOk Try.prog 142 11 c_impl_CutCase_1 r_impl_CutCase_1 := ⟨⟨Try.f142, _, Try.func142, by kernel_rfl, rfl, rfl, by kernel_rfl, by kernel_rfl⟩⟩
def c_impl_bestLots : ACode := .seq (.reg [⟨(some 1), .box 26 (.tmp 0), none⟩,
  ⟨(some 2), .alc 87 [(.int .i64 0), (.slice none 0 0)], none⟩])
 (.seq (.reg [⟨(some 7), .ld (some 4) (.tmp 1), none⟩,
  ⟨(some 8), .call (.func 226) [(.tmp 7)], none⟩,
  ⟨(some 3), .mv (.tmp 8), none⟩])
 (.seq (.reg [⟨(some 9), .mv (.tmp 3), none⟩,
  ⟨(some 10), .call (.tmp 9) [(.const (.int .i64 0))], none⟩,
  ⟨(some 4), .alc 87 [(.int .i64 0), (.slice none 0 0)], none⟩,
  ⟨none, .st 2 (.tmp 4) (.tmp 10), none⟩])
 (.seq (.seq (.reg [⟨(some 5), .mv (.const (.int .i64 0)), none⟩])
 (.block 0 (.loop (.seq (.seq (.reg [⟨(some 11), .mv (.tmp 5), none⟩,
  ⟨(some 12), .fad 0 (.tmp 1), none⟩,
  ⟨(some 13), .ld none (.tmp 12), none⟩,
  ⟨(some 14), .len (.tmp 13), none⟩,
  ⟨(some 15), .bin .lss (.tmp 11) (.tmp 14), none⟩,
  ⟨(some 16), .mv (.tmp 15), none⟩,
  ⟨(some 17), .fad 0 (.tmp 1), (some (16, true))⟩,
  ⟨(some 18), .ld none (.tmp 17), (some (16, true))⟩,
  ⟨(some 19), .mv (.tmp 5), (some (16, true))⟩,
  ⟨(some 20), .iad 1 (.tmp 18) (.tmp 19), (some (16, true))⟩,
  ⟨(some 21), .ld none (.tmp 20), (some (16, true))⟩,
  ⟨(some 22), .bin .eql (.tmp 21) (.const (.int .i64 0)), (some (16, true))⟩,
  ⟨(some 23), .pick (.tmp 16) (.tmp 22) (.const (.bool false)), none⟩])
 (.cond (.tmp 23) (.skip) (.exit 0)))
 (.seq (.block 1 (.seq (.reg [⟨(some 26), .mv (.tmp 3), none⟩,
  ⟨(some 27), .mv (.tmp 5), none⟩,
  ⟨(some 28), .bin .add (.tmp 27) (.const (.int .i64 1)), none⟩,
  ⟨(some 29), .call (.tmp 26) [(.tmp 28)], none⟩,
  ⟨(some 6), .alc 87 [(.int .i64 0), (.slice none 0 0)], none⟩,
  ⟨none, .st 2 (.tmp 6) (.tmp 29), none⟩])
 (.seq (.reg [⟨(some 30), .ld (some 2) (.tmp 6), none⟩,
  ⟨(some 31), .ld (some 2) (.tmp 4), none⟩,
  ⟨(some 32), .call (.func 227) [(.tmp 30), (.tmp 31)], none⟩])
 (.cond (.tmp 32) (.reg [⟨(some 33), .ld (some 2) (.tmp 6), none⟩,
  ⟨none, .st 2 (.tmp 4) (.tmp 33), none⟩]) (.skip)))))
 (.reg [⟨(some 24), .mv (.tmp 5), none⟩,
  ⟨(some 25), .bin .add (.tmp 24) (.const (.int .i64 1)), none⟩,
  ⟨(some 5), .mv (.tmp 25), none⟩]))))))
 (.seq (.reg [⟨(some 34), .ld (some 2) (.tmp 4), none⟩,
  ⟨none, .st 2 (.tmp 2) (.tmp 34), none⟩])
 (.ret)))))
def r_impl_bestLots : List ARes := [.cell 2 (some 2)]
theorem ok_impl_bestLots : FnOk Try.prog 143 35 c_impl_bestLots r_impl_bestLots := ⟨⟨Try.f143, _, Try.func143, by kernel_rfl, rfl, rfl, by kernel_rfl, by kernel_rfl⟩⟩
def c_impl_sumOf : ACode := .seq (.reg [⟨(some 2), .mv (.const (.int .i64 0)), none⟩])
 (.seq (.reg [⟨(some 3), .mv (.const (.int .i64 0)), none⟩])
 (.seq (.seq (.reg [⟨(some 6), .mv (.tmp 0), none⟩,
  ⟨(some 7), .len (.tmp 6), none⟩,
  ⟨(some 8), .mv (.const (.int .i64 0)), none⟩])
 (.block 0 (.loop (.seq (.reg [⟨(some 9), .bin .lss (.tmp 8) (.tmp 7), none⟩])
 (.seq (.cond (.tmp 9) (.skip) (.exit 0))
 (.seq (.block 1 (.seq (.reg [⟨(some 10), .iad 1 (.tmp 6) (.tmp 8), none⟩,
  ⟨(some 11), .ld none (.tmp 10), none⟩,
  ⟨(some 5), .mv (.tmp 11), none⟩])
 (.reg [⟨(some 12), .mv (.tmp 3), none⟩,
  ⟨(some 13), .mv (.tmp 5), none⟩,
  ⟨(some 14), .bin .add (.tmp 12) (.tmp 13), none⟩,
  ⟨(some 3), .mv (.tmp 14), none⟩])))
 (.reg [⟨(some 15), .bin .add (.tmp 8) (.const (.int .i64 1)), none⟩,
  ⟨(some 8), .mv (.tmp 15), none⟩])))))))
 (.seq (.reg [⟨(some 16), .mv (.tmp 3), none⟩,
  ⟨(some 2), .mv (.tmp 16), none⟩])
 (.ret))))
def r_impl_sumOf : List ARes := [.tmp 2]
theorem ok_impl_sumOf : FnOk Try.prog 144 17 c_impl_sumOf r_impl_sumOf := ⟨⟨Try.f144, _, Try.func144, by kernel_rfl, rfl, rfl, by kernel_rfl, by kernel_rfl⟩⟩
def c_impl_isAscending : ACode := .seq (.reg [⟨(some 4), .mv (.const (.bool false)), none⟩])
 (.seq (.reg [⟨(some 5), .mv (.const (.int .i64 0)), none⟩])
 (.seq (.seq (.reg [⟨(some 8), .mv (.tmp 0), none⟩,
  ⟨(some 9), .len (.tmp 8), none⟩,
  ⟨(some 10), .mv (.const (.int .i64 0)), none⟩])
 (.block 0 (.loop (.seq (.reg [⟨(some 11), .bin .lss (.tmp 10) (.tmp 9), none⟩])
 (.seq (.cond (.tmp 11) (.skip) (.exit 0))
 (.seq (.block 1 (.seq (.reg [⟨(some 12), .iad 1 (.tmp 8) (.tmp 10), none⟩,
  ⟨(some 13), .ld none (.tmp 12), none⟩,
  ⟨(some 7), .mv (.tmp 13), none⟩])
 (.seq (.seq (.reg [⟨(some 14), .mv (.tmp 7), none⟩,
  ⟨(some 15), .mv (.tmp 5), none⟩,
  ⟨(some 16), .bin .lss (.tmp 14) (.tmp 15), none⟩,
  ⟨(some 17), .mv (.tmp 16), none⟩,
  ⟨(some 18), .mv (.tmp 7), (some (17, false))⟩,
  ⟨(some 19), .mv (.tmp 1), (some (17, false))⟩,
  ⟨(some 20), .bin .geq (.tmp 18) (.tmp 19), (some (17, false))⟩,
  ⟨(some 21), .pick (.tmp 17) (.const (.bool true)) (.tmp 20), none⟩])
 (.cond (.tmp 21) (.seq (.reg [⟨(some 4), .mv (.const (.bool false)), none⟩])
 (.ret)) (.skip)))
 (.reg [⟨(some 22), .mv (.tmp 7), none⟩,
  ⟨(some 23), .bin .add (.tmp 22) (.const (.int .i64 1)), none⟩,
  ⟨(some 5), .mv (.tmp 23), none⟩]))))
 (.reg [⟨(some 24), .bin .add (.tmp 10) (.const (.int .i64 1)), none⟩,
  ⟨(some 10), .mv (.tmp 24), none⟩])))))))
 (.seq (.reg [⟨(some 4), .mv (.const (.bool true)), none⟩])
 (.ret))))
def r_impl_isAscending : List ARes := [.tmp 4]
theorem ok_impl_isAscending : FnOk Try.prog 146 25 c_impl_isAscending r_impl_isAscending := ⟨⟨Try.f146, _, Try.func146, by kernel_rfl, rfl, rfl, by kernel_rfl, by kernel_rfl⟩⟩
def c_impl_isRow : ACode := .seq (.reg [⟨(some 5), .box 3 (.tmp 2), none⟩,
  ⟨(some 6), .mv (.const (.bool false)), none⟩])
 (.seq (.reg [⟨(some 8), .mkf 230 [] [(.tmp 5)], none⟩,
  ⟨(some 7), .mv (.tmp 8), none⟩])
 (.seq (.reg [⟨(some 9), .mv (.tmp 0), none⟩,
  ⟨(some 10), .len (.tmp 9), none⟩,
  ⟨(some 11), .mv (.tmp 1), none⟩,
  ⟨(some 12), .bin .eql (.tmp 10) (.tmp 11), none⟩,
  ⟨(some 13), .mv (.tmp 12), none⟩,
  ⟨(some 14), .mv (.tmp 0), (some (13, true))⟩,
  ⟨(some 15), .mv (.tmp 7), (some (13, true))⟩,
  ⟨(some 16), .call (.func 172) [(.tmp 14), (.tmp 15)], (some (13, true))⟩,
  ⟨(some 17), .un .not (.tmp 16), (some (13, true))⟩,
  ⟨(some 18), .pick (.tmp 13) (.tmp 17) (.const (.bool false)), none⟩,
  ⟨(some 6), .mv (.tmp 18), none⟩])
 (.ret)))
def r_impl_isRow : List ARes := [.tmp 6]
theorem ok_impl_isRow : FnOk Try.prog 158 19 c_impl_isRow r_impl_isRow := ⟨⟨Try.f158, _, Try.func158, by kernel_rfl, rfl, rfl, by kernel_rfl, by kernel_rfl⟩⟩
def c_impl_claimBy : ACode := .seq (.reg [⟨(some 3), .box 26 (.tmp 0), none⟩,
  ⟨(some 6), .mv (.const (.int .i64 0)), none⟩])
 (.seq (.reg [⟨(some 7), .mv (.const (.int .i64 0)), none⟩])
 (.seq (.seq (.reg [⟨(some 9), .mv (.tmp 2), none⟩,
  ⟨(some 8), .mv (.tmp 9), none⟩])
 (.block 0 (.loop (.seq (.seq (.reg [⟨(some 10), .mv (.tmp 8), none⟩,
  ⟨(some 11), .mv (.tmp 1), none⟩,
  ⟨(some 12), .len (.tmp 11), none⟩,
  ⟨(some 13), .bin .lss (.tmp 10) (.tmp 12), none⟩])
 (.cond (.tmp 13) (.skip) (.exit 0)))
 (.seq (.block 1 (.reg [⟨(some 16), .mv (.tmp 7), none⟩,
  ⟨(some 17), .mv (.tmp 1), none⟩,
  ⟨(some 18), .mv (.tmp 8), none⟩,
  ⟨(some 19), .iad 1 (.tmp 17) (.tmp 18), none⟩,
  ⟨(some 20), .ld none (.tmp 19), none⟩,
  ⟨(some 21), .fad 0 (.tmp 3), none⟩,
  ⟨(some 22), .ld none (.tmp 21), none⟩,
  ⟨(some 23), .mv (.tmp 8), none⟩,
  ⟨(some 24), .iad 1 (.tmp 22) (.tmp 23), none⟩,
  ⟨(some 25), .ld none (.tmp 24), none⟩,
  ⟨(some 26), .ld (some 4) (.tmp 3), none⟩,
  ⟨(some 27), .mv (.tmp 2), none⟩,
  ⟨(some 28), .mv (.tmp 8), none⟩,
  ⟨(some 29), .rcall (.func 139) [(.tmp 26), (.tmp 27), (.tmp 28)], none⟩,
  ⟨(some 30), .bin .mul (.tmp 25) (.tmp 29), none⟩,
  ⟨(some 31), .bin .sub (.tmp 20) (.tmp 30), none⟩,
  ⟨(some 32), .mmx true (.const (.int .i64 0)) (.tmp 31), none⟩,
  ⟨(some 33), .bin .add (.tmp 16) (.tmp 32), none⟩,
  ⟨(some 7), .mv (.tmp 33), none⟩]))
 (.reg [⟨(some 14), .mv (.tmp 8), none⟩,
  ⟨(some 15), .bin .add (.tmp 14) (.const (.int .i64 1)), none⟩,
  ⟨(some 8), .mv (.tmp 15), none⟩]))))))
 (.seq (.reg [⟨(some 34), .mv (.tmp 7), none⟩,
  ⟨(some 6), .mv (.tmp 34), none⟩])
 (.ret))))
def r_impl_claimBy : List ARes := [.tmp 6]
theorem ok_impl_claimBy : FnOk Try.prog 159 35 c_impl_claimBy r_impl_claimBy := ⟨⟨Try.f159, _, Try.func159, by kernel_rfl, rfl, rfl, by kernel_rfl, by kernel_rfl⟩⟩
def c_impl_fairPrice : ACode := .seq (.reg [⟨(some 3), .box 26 (.tmp 0), none⟩,
  ⟨(some 4), .box 24 (.tmp 1), none⟩,
  ⟨(some 5), .box 3 (.tmp 2), none⟩,
  ⟨(some 6), .mv (.const (.int .i64 0)), none⟩])
 (.seq (.seq (.reg [⟨(some 10), .fad 0 (.tmp 3), none⟩,
  ⟨(some 11), .ld none (.tmp 10), none⟩,
  ⟨(some 12), .ld none (.tmp 5), none⟩,
  ⟨(some 13), .iad 1 (.tmp 11) (.tmp 12), none⟩,
  ⟨(some 14), .ld none (.tmp 13), none⟩,
  ⟨(some 15), .bin .eql (.tmp 14) (.const (.int .i64 0)), none⟩])
 (.cond (.tmp 15) (.seq (.reg [⟨(some 6), .mv (.const (.int .i64 0)), none⟩])
 (.ret)) (.skip)))
 (.seq (.reg [⟨(some 16), .mkf 232 [] [(.tmp 3), (.tmp 5), (.tmp 4)], none⟩,
  ⟨(some 7), .mv (.tmp 16), none⟩])
 (.seq (.reg [⟨(some 17), .mv (.tmp 7), none⟩,
  ⟨(some 18), .ld none (.tmp 5), none⟩,
  ⟨(some 19), .call (.tmp 17) [(.tmp 18)], none⟩,
  ⟨(some 8), .mv (.tmp 19), none⟩])
 (.seq (.seq (.reg [⟨(some 20), .ld none (.tmp 5), none⟩,
  ⟨(some 21), .mv (.const (.int .i64 0)), none⟩])
 (.block 0 (.loop (.seq (.reg [⟨(some 22), .bin .lss (.tmp 21) (.tmp 20), none⟩])
 (.seq (.cond (.tmp 22) (.skip) (.exit 0))
 (.seq (.block 1 (.seq (.reg [⟨(some 23), .mv (.tmp 21), none⟩,
  ⟨(some 9), .mv (.tmp 23), none⟩])
 (.reg [⟨(some 24), .mv (.tmp 8), none⟩,
  ⟨(some 25), .mv (.tmp 7), none⟩,
  ⟨(some 26), .mv (.tmp 9), none⟩,
  ⟨(some 27), .call (.tmp 25) [(.tmp 26)], none⟩,
  ⟨(some 28), .mmx false (.tmp 24) (.tmp 27), none⟩,
  ⟨(some 8), .mv (.tmp 28), none⟩])))
 (.reg [⟨(some 29), .bin .add (.tmp 21) (.const (.int .i64 1)), none⟩,
  ⟨(some 21), .mv (.tmp 29), none⟩])))))))
 (.seq (.reg [⟨(some 30), .mv (.tmp 8), none⟩,
  ⟨(some 6), .mv (.tmp 30), none⟩])
 (.ret))))))
def r_impl_fairPrice : List ARes := [.tmp 6]
theorem ok_impl_fairPrice : FnOk Try.prog 161 31 c_impl_fairPrice r_impl_fairPrice := ⟨⟨Try.f161, _, Try.func161, by kernel_rfl, rfl, rfl, by kernel_rfl, by kernel_rfl⟩⟩
def c_impl_goodBy : ACode := .seq (.reg [⟨(some 2), .box 26 (.tmp 0), none⟩,
  ⟨(some 4), .mv (.const .nilFunc), none⟩,
  ⟨(some 5), .mv (.const (.bool false)), none⟩])
 (.seq (.reg [⟨(some 7), .mkf 234 [] [(.tmp 2)], none⟩,
  ⟨(some 6), .alc 139 [.nilFunc], none⟩,
  ⟨none, .st 1 (.tmp 6) (.tmp 7), none⟩])
 (.seq (.seq (.reg [⟨(some 8), .mv (.tmp 1), none⟩])
 (.block 0 (.seq (.reg [⟨(some 10), .bin .eql (.tmp 8) (.const (.int .i64 1)), none⟩,
  ⟨(some 9), .mv (.tmp 10), none⟩])
 (.cond (.tmp 9) (.seq (.reg [⟨(some 11), .mkf 235 [] [(.tmp 6)], none⟩,
  ⟨(some 4), .mv (.tmp 11), none⟩,
  ⟨(some 5), .mv (.const (.bool true)), none⟩])
 (.ret)) (.seq (.reg [⟨(some 13), .bin .eql (.tmp 8) (.const (.int .i64 2)), none⟩,
  ⟨(some 12), .mv (.tmp 13), none⟩])
 (.cond (.tmp 12) (.seq (.reg [⟨(some 14), .mkf 236 [] [(.tmp 6), (.tmp 2)], none⟩,
  ⟨(some 4), .mv (.tmp 14), none⟩,
  ⟨(some 5), .mv (.const (.bool true)), none⟩])
 (.ret)) (.seq (.reg [⟨(some 16), .bin .eql (.tmp 8) (.const (.int .i64 3)), none⟩,
  ⟨(some 15), .mv (.tmp 16), none⟩])
 (.cond (.tmp 15) (.seq (.reg [⟨(some 17), .mkf 237 [] [(.tmp 2)], none⟩,
  ⟨(some 4), .mv (.tmp 17), none⟩,
  ⟨(some 5), .mv (.const (.bool true)), none⟩])
 (.ret)) (.skip)))))))))
 (.seq (.reg [⟨(some 4), .mv (.const .nilFunc), none⟩,
  ⟨(some 5), .mv (.const (.bool false)), none⟩])
 (.ret))))
def r_impl_goodBy : List ARes := [.tmp 4, .tmp 5]
theorem ok_impl_goodBy : FnOk Try.prog 165 18 c_impl_goodBy r_impl_goodBy := ⟨⟨Try.f165, _, Try.func165, by kernel_rfl, rfl, rfl, by kernel_rfl, by kernel_rfl⟩⟩
def c_impl_needFrom : ACode := .seq (.reg [⟨(some 2), .box 26 (.tmp 0), none⟩,
  ⟨(some 4), .mv (.const (.int .i64 0)), none⟩])
 (.seq (.block 0 (.loop (.seq (.seq (.reg [⟨(some 5), .mv (.tmp 1), none⟩,
  ⟨(some 6), .fad 0 (.tmp 2), none⟩,
  ⟨(some 7), .ld none (.tmp 6), none⟩,
  ⟨(some 8), .len (.tmp 7), none⟩,
  ⟨(some 9), .bin .lss (.tmp 5) (.tmp 8), none⟩,
  ⟨(some 10), .mv (.tmp 9), none⟩,
  ⟨(some 11), .fad 0 (.tmp 2), (some (10, true))⟩,
  ⟨(some 12), .ld none (.tmp 11), (some (10, true))⟩,
  ⟨(some 13), .mv (.tmp 1), (some (10, true))⟩,
  ⟨(some 14), .iad 1 (.tmp 12) (.tmp 13), (some (10, true))⟩,
  ⟨(some 15), .ld none (.tmp 14), (some (10, true))⟩,
  ⟨(some 16), .bin .eql (.tmp 15) (.const (.int .i64 0)), (some (10, true))⟩,
  ⟨(some 17), .pick (.tmp 10) (.tmp 16) (.const (.bool false)), none⟩])
 (.cond (.tmp 17) (.skip) (.exit 0)))
 (.block 1 (.reg [⟨(some 18), .mv (.tmp 1), none⟩,
  ⟨(some 19), .bin .add (.tmp 18) (.const (.int .i64 1)), none⟩,
  ⟨(some 1), .mv (.tmp 19), none⟩])))))
 (.seq (.reg [⟨(some 20), .mv (.tmp 1), none⟩,
  ⟨(some 4), .mv (.tmp 20), none⟩])
 (.ret)))
def r_impl_needFrom : List ARes := [.tmp 4]
theorem ok_impl_needFrom : FnOk Try.prog 166 21 c_impl_needFrom r_impl_needFrom := ⟨⟨Try.f166, _, Try.func166, by kernel_rfl, rfl, rfl, by kernel_rfl, by kernel_rfl⟩⟩
def c_impl_firstEarly : ACode := .seq (.reg [⟨(some 4), .mv (.const (.int .i64 0)), none⟩,
  ⟨(some 5), .mv (.const (.bool false)), none⟩])
 (.seq (.seq (.reg [⟨(some 6), .mv (.const (.int .i64 1)), none⟩])
 (.block 0 (.loop (.seq (.seq (.reg [⟨(some 7), .mv (.tmp 6), none⟩,
  ⟨(some 8), .mv (.tmp 0), none⟩,
  ⟨(some 9), .len (.tmp 8), none⟩,
  ⟨(some 10), .bin .lss (.tmp 7) (.tmp 9), none⟩])
 (.cond (.tmp 10) (.skip) (.exit 0)))
 (.seq (.block 1 (.seq (.reg [⟨(some 13), .mv (.tmp 0), none⟩,
  ⟨(some 14), .mv (.tmp 6), none⟩,
  ⟨(some 15), .iad 1 (.tmp 13) (.tmp 14), none⟩,
  ⟨(some 16), .ld none (.tmp 15), none⟩,
  ⟨(some 17), .bin .gtr (.tmp 16) (.const (.int .i64 0)), none⟩,
  ⟨(some 18), .mv (.tmp 17), none⟩,
  ⟨(some 19), .mv (.tmp 1), (some (18, true))⟩,
  ⟨(some 20), .mv (.tmp 6), (some (18, true))⟩,
  ⟨(some 21), .bin .sub (.tmp 20) (.const (.int .i64 1)), (some (18, true))⟩,
  ⟨(some 22), .iad 1 (.tmp 19) (.tmp 21), (some (18, true))⟩,
  ⟨(some 23), .ld none (.tmp 22), (some (18, true))⟩,
  ⟨(some 24), .bin .gtr (.tmp 23) (.const (.int .i64 0)), (some (18, true))⟩,
  ⟨(some 25), .pick (.tmp 18) (.tmp 24) (.const (.bool false)), none⟩])
 (.cond (.tmp 25) (.seq (.reg [⟨(some 26), .mv (.tmp 6), none⟩,
  ⟨(some 4), .mv (.tmp 26), none⟩,
  ⟨(some 5), .mv (.const (.bool true)), none⟩])
 (.ret)) (.skip))))
 (.reg [⟨(some 11), .mv (.tmp 6), none⟩,
  ⟨(some 12), .bin .add (.tmp 11) (.const (.int .i64 1)), none⟩,
  ⟨(some 6), .mv (.tmp 12), none⟩]))))))
 (.seq (.reg [⟨(some 4), .mv (.const (.int .i64 0)), none⟩,
  ⟨(some 5), .mv (.const (.bool false)), none⟩])
 (.ret)))
def r_impl_firstEarly : List ARes := [.tmp 4, .tmp 5]
theorem ok_impl_firstEarly : FnOk Try.prog 168 27 c_impl_firstEarly r_impl_firstEarly := ⟨⟨Try.f168, _, Try.func168, by kernel_rfl, rfl, rfl, by kernel_rfl, by kernel_rfl⟩⟩
def c_impl_balancesOf : ACode := .seq (.reg [⟨(some 2), .box 26 (.tmp 0), none⟩,
  ⟨(some 4), .mv (.const (.slice none 0 0)), none⟩,
  ⟨(some 5), .mv (.const (.bool false)), none⟩])
 (.seq (.seq (.reg [⟨(some 10), .ld (some 4) (.tmp 2), none⟩,
  ⟨(some 11), .call (.func 62) [(.tmp 10)], none⟩,
  ⟨(some 12), .un .not (.tmp 11), none⟩,
  ⟨(some 13), .mv (.tmp 12), none⟩,
  ⟨(some 14), .mv (.tmp 1), (some (13, false))⟩,
  ⟨(some 15), .len (.tmp 14), (some (13, false))⟩,
  ⟨(some 16), .fad 0 (.tmp 2), (some (13, false))⟩,
  ⟨(some 17), .ld none (.tmp 16), (some (13, false))⟩,
  ⟨(some 18), .len (.tmp 17), (some (13, false))⟩,
  ⟨(some 19), .bin .neq (.tmp 15) (.tmp 18), (some (13, false))⟩,
  ⟨(some 20), .pick (.tmp 13) (.const (.bool true)) (.tmp 19), none⟩])
 (.cond (.tmp 20) (.seq (.reg [⟨(some 21), .bsl 3 1 0 [] [], none⟩,
  ⟨(some 4), .mv (.tmp 21), none⟩,
  ⟨(some 5), .mv (.const (.bool false)), none⟩])
 (.ret)) (.skip)))
 (.seq (.seq (.reg [⟨(some 22), .mv (.tmp 1), none⟩,
  ⟨(some 23), .mv (.tmp 1), none⟩,
  ⟨(some 24), .len (.tmp 23), none⟩,
  ⟨(some 25), .fad 0 (.tmp 2), none⟩,
  ⟨(some 26), .ld none (.tmp 25), none⟩,
  ⟨(some 27), .call (.func 144) [(.tmp 26)], none⟩,
  ⟨(some 28), .call (.func 158) [(.tmp 22), (.tmp 24), (.tmp 27)], none⟩,
  ⟨(some 29), .un .not (.tmp 28), none⟩])
 (.cond (.tmp 29) (.seq (.reg [⟨(some 30), .bsl 3 1 0 [] [], none⟩,
  ⟨(some 4), .mv (.tmp 30), none⟩,
  ⟨(some 5), .mv (.const (.bool false)), none⟩])
 (.ret)) (.skip)))
 (.seq (.reg [⟨(some 6), .mv (.const (.int .i64 0)), none⟩])
 (.seq (.reg [⟨(some 31), .bsl 3 1 0 [] [], none⟩,
  ⟨(some 7), .mv (.tmp 31), none⟩])
 (.seq (.seq (.reg [⟨(some 32), .mv (.tmp 1), none⟩,
  ⟨(some 33), .len (.tmp 32), none⟩,
  ⟨(some 34), .mv (.const (.int .i64 0)), none⟩])
 (.block 0 (.loop (.seq (.reg [⟨(some 35), .bin .lss (.tmp 34) (.tmp 33), none⟩])
 (.seq (.cond (.tmp 35) (.skip) (.exit 0))
 (.seq (.block 1 (.seq (.reg [⟨(some 36), .mv (.tmp 34), none⟩,
  ⟨(some 37), .iad 1 (.tmp 32) (.tmp 34), none⟩,
  ⟨(some 38), .ld none (.tmp 37), none⟩,
  ⟨(some 8), .mv (.tmp 36), none⟩,
  ⟨(some 9), .mv (.tmp 38), none⟩])
 (.seq (.reg [⟨(some 39), .mv (.tmp 6), none⟩,
  ⟨(some 40), .mv (.tmp 9), none⟩,
  ⟨(some 41), .fad 0 (.tmp 2), none⟩,
  ⟨(some 42), .ld none (.tmp 41), none⟩,
  ⟨(some 43), .mv (.tmp 8), none⟩,
  ⟨(some 44), .iad 1 (.tmp 42) (.tmp 43), none⟩,
  ⟨(some 45), .ld none (.tmp 44), none⟩,
  ⟨(some 46), .bin .sub (.tmp 40) (.tmp 45), none⟩,
  ⟨(some 47), .bin .add (.tmp 39) (.tmp 46), none⟩,
  ⟨(some 6), .mv (.tmp 47), none⟩])
 (.reg [⟨(some 48), .mv (.tmp 7), none⟩,
  ⟨(some 49), .mv (.tmp 6), none⟩,
  ⟨(some 50), .bsl 3 1 1 [(.int .i64 0)] [(0, 1, (.tmp 49))], none⟩,
  ⟨(some 51), .app 3 1 8 (.tmp 48) (.tmp 50), none⟩,
  ⟨(some 7), .mv (.tmp 51), none⟩]))))
 (.reg [⟨(some 52), .bin .add (.tmp 34) (.const (.int .i64 1)), none⟩,
  ⟨(some 34), .mv (.tmp 52), none⟩])))))))
 (.seq (.seq (.reg [⟨(some 53), .mv (.tmp 6), none⟩,
  ⟨(some 54), .bin .neq (.tmp 53) (.const (.int .i64 0)), none⟩])
 (.cond (.tmp 54) (.seq (.reg [⟨(some 55), .bsl 3 1 0 [] [], none⟩,
  ⟨(some 4), .mv (.tmp 55), none⟩,
  ⟨(some 5), .mv (.const (.bool false)), none⟩])
 (.ret)) (.skip)))
 (.seq (.reg [⟨(some 56), .mv (.tmp 7), none⟩,
  ⟨(some 4), .mv (.tmp 56), none⟩,
  ⟨(some 5), .mv (.const (.bool true)), none⟩])
 (.ret))))))))
def r_impl_balancesOf : List ARes := [.tmp 4, .tmp 5]
theorem ok_impl_balancesOf : FnOk Try.prog 171 57 c_impl_balancesOf r_impl_balancesOf := ⟨⟨Try.f171, _, Try.func171, by kernel_rfl, rfl, rfl, by kernel_rfl, by kernel_rfl⟩⟩
def c_impl_isOwed : ACode := .seq (.reg [⟨(some 2), .mv (.const (.bool false)), none⟩])
 (.seq (.reg [⟨(some 3), .mv (.tmp 0), none⟩,
  ⟨(some 4), .bin .lss (.tmp 3) (.const (.int .i64 0)), none⟩,
  ⟨(some 2), .mv (.tmp 4), none⟩])
 (.ret))
def r_impl_isOwed : List ARes := [.tmp 2]
theorem ok_impl_isOwed : FnOk Try.prog 173 5 c_impl_isOwed r_impl_isOwed := ⟨⟨Try.f173, _, Try.func173, by kernel_rfl, rfl, rfl, by kernel_rfl, by kernel_rfl⟩⟩
def c_impl_EmptyPeriods_1 : ACode := .seq (.reg [⟨(some 2), .mv (.const (.bool false)), none⟩])
 (.seq (.reg [⟨(some 3), .mv (.tmp 0), none⟩,
  ⟨(some 4), .bin .eql (.tmp 3) (.const (.int .i64 0)), none⟩,
  ⟨(some 2), .mv (.tmp 4), none⟩])
 (.ret))
def r_impl_EmptyPeriods_1 : List ARes := [.tmp 2]
theorem ok_impl_EmptyPeriods_1 : FnOk Try.prog 176 5 c_impl_EmptyPeriods_1 r_impl_EmptyPeriods_1 := ⟨⟨Try.f176, _, Try.func176, by kernel_rfl, rfl, rfl, by kernel_rfl, by kernel_rfl⟩⟩
def c_impl_OrderPeriods_1 : ACode := .seq (.reg [⟨(some 2), .mv (.const (.bool false)), none⟩])
 (.seq (.reg [⟨(some 3), .mv (.tmp 0), none⟩,
  ⟨(some 4), .bin .gtr (.tmp 3) (.const (.int .i64 0)), none⟩,
  ⟨(some 2), .mv (.tmp 4), none⟩])
 (.ret))
def r_impl_OrderPeriods_1 : List ARes := [.tmp 2]
theorem ok_impl_OrderPeriods_1 : FnOk Try.prog 177 5 c_impl_OrderPeriods_1 r_impl_OrderPeriods_1 := ⟨⟨Try.f177, _, Try.func177, by kernel_rfl, rfl, rfl, by kernel_rfl, by kernel_rfl⟩⟩
def c_impl_smoothAt : ACode := .seq (.reg [⟨(some 4), .box 26 (.tmp 0), none⟩,
  ⟨(some 8), .mv (.const (.slice none 0 0)), none⟩])
 (.seq (.reg [⟨(some 15), .mv (.tmp 2), none⟩,
  ⟨(some 16), .bin .sub (.tmp 15) (.const (.int .i64 1)), none⟩,
  ⟨(some 9), .mv (.tmp 16), none⟩])
 (.seq (.block 0 (.loop (.seq (.seq (.reg [⟨(some 17), .mv (.tmp 1), none⟩,
  ⟨(some 18), .mv (.tmp 9), none⟩,
  ⟨(some 19), .iad 1 (.tmp 17) (.tmp 18), none⟩,
  ⟨(some 20), .ld none (.tmp 19), none⟩,
  ⟨(some 21), .bin .eql (.tmp 20) (.const (.int .i64 0)), none⟩])
 (.cond (.tmp 21) (.skip) (.exit 0)))
 (.block 1 (.reg [⟨(some 22), .mv (.tmp 9), none⟩,
  ⟨(some 23), .bin .sub (.tmp 22) (.const (.int .i64 1)), none⟩,
  ⟨(some 9), .mv (.tmp 23), none⟩])))))
 (.seq (.reg [⟨(some 24), .mv (.tmp 1), none⟩,
  ⟨(some 25), .mv (.tmp 3), none⟩,
  ⟨(some 26), .mv (.tmp 9), none⟩,
  ⟨(some 27), .mv (.tmp 2), none⟩,
  ⟨(some 28), .call (.func 240) [(.tmp 24), (.tmp 25), (.tmp 26), (.tmp 27)], none⟩,
  ⟨(some 10), .mv (.tmp 28), none⟩])
 (.seq (.reg [⟨(some 30), .ld (some 4) (.tmp 4), none⟩,
  ⟨(some 31), .mv (.tmp 1), none⟩,
  ⟨(some 32), .call (.func 39) [(.tmp 30), (.tmp 31)], none⟩,
  ⟨(some 29), .mv (.tmp 32), none⟩,
  ⟨(some 33), .ext 0 (.tmp 29), none⟩,
  ⟨(some 34), .ext 1 (.tmp 29), none⟩,
  ⟨(some 11), .mv (.tmp 33), none⟩,
  ⟨(some 12), .mv (.tmp 34), none⟩])
 (.seq (.reg [⟨(some 36), .ld (some 4) (.tmp 4), none⟩,
  ⟨(some 37), .mv (.tmp 10), none⟩,
  ⟨(some 38), .call (.func 39) [(.tmp 36), (.tmp 37)], none⟩,
  ⟨(some 35), .mv (.tmp 38), none⟩,
  ⟨(some 39), .ext 0 (.tmp 35), none⟩,
  ⟨(some 40), .ext 1 (.tmp 35), none⟩,
  ⟨(some 13), .mv (.tmp 39), none⟩,
  ⟨(some 14), .mv (.tmp 40), none⟩])
 (.seq (.seq (.reg [⟨(some 41), .mv (.tmp 13), none⟩,
  ⟨(some 42), .mv (.tmp 11), none⟩,
  ⟨(some 43), .bin .gtr (.tmp 41) (.tmp 42), none⟩])
 (.cond (.tmp 43) (.seq (.reg [⟨(some 44), .mv (.tmp 1), none⟩,
  ⟨(some 45), .mv (.tmp 1), none⟩,
  ⟨(some 46), .mv (.tmp 2), none⟩,
  ⟨(some 47), .iad 1 (.tmp 45) (.tmp 46), none⟩,
  ⟨(some 48), .ld none (.tmp 47), none⟩,
  ⟨(some 49), .mv (.tmp 2), none⟩,
  ⟨(some 50), .mv (.tmp 9), none⟩,
  ⟨(some 51), .call (.func 240) [(.tmp 44), (.tmp 48), (.tmp 49), (.tmp 50)], none⟩,
  ⟨(some 8), .mv (.tmp 51), none⟩])
 (.ret)) (.skip)))
 (.seq (.reg [⟨(some 52), .mv (.tmp 10), none⟩,
  ⟨(some 8), .mv (.tmp 52), none⟩])
 (.ret))))))))
def r_impl_smoothAt : List ARes := [.tmp 8]
theorem ok_impl_smoothAt : FnOk Try.prog 178 53 c_impl_smoothAt r_impl_smoothAt := ⟨⟨Try.f178, _, Try.func178, by kernel_rfl, rfl, rfl, by kernel_rfl, by kernel_rfl⟩⟩
def c_impl_limitedSearch : ACode := .seq (.reg [⟨(some 2), .box 26 (.tmp 0), none⟩,
  ⟨(some 4), .mv (.const (.pointer none)), none⟩,
  ⟨(some 5), .mv (.const (.bool false)), none⟩])
 (.seq (.seq (.reg [⟨(some 10), .ld (some 4) (.tmp 2), none⟩,
  ⟨(some 11), .mv (.tmp 1), none⟩,
  ⟨(some 12), .call (.func 93) [(.tmp 10), (.tmp 11)], none⟩,
  ⟨(some 9), .mv (.tmp 12), none⟩,
  ⟨(some 13), .ext 0 (.tmp 9), none⟩,
  ⟨(some 14), .ext 1 (.tmp 9), none⟩,
  ⟨(some 6), .mv (.tmp 13), none⟩,
  ⟨(some 7), .mv (.tmp 14), none⟩])
 (.seq (.reg [⟨(some 15), .mv (.tmp 7), none⟩,
  ⟨(some 16), .un .not (.tmp 15), none⟩,
  ⟨(some 17), .mv (.tmp 16), none⟩,
  ⟨(some 18), .mv (.tmp 6), (some (17, false))⟩,
  ⟨(some 19), .un .not (.tmp 18), (some (17, false))⟩,
  ⟨(some 20), .pick (.tmp 17) (.const (.bool true)) (.tmp 19), none⟩])
 (.cond (.tmp 20) (.seq (.reg [⟨(some 4), .mv (.const (.pointer none)), none⟩,
  ⟨(some 5), .mv (.const (.bool false)), none⟩])
 (.ret)) (.skip))))
 (.seq (.reg [⟨(some 21), .ld (some 4) (.tmp 2), none⟩,
  ⟨(some 22), .mv (.tmp 1), none⟩,
  ⟨(some 23), .bld [(.slice none 0 0), (.slice none 0 0), (.slice none 0 0), (.slice none 0 0), (.slice none 0 0), (.slice none 0 0), (.bool false), (.slice none 0 0)] [(0, 4, (.tmp 21)), (4, 1, (.tmp 22))], none⟩,
  ⟨(some 24), .box 145 (.tmp 23), none⟩,
  ⟨(some 8), .mv (.tmp 24), none⟩])
 (.seq (.reg [⟨(some 25), .mv (.tmp 8), none⟩,
  ⟨(some 26), .call (.func 241) [(.tmp 25)], none⟩])
 (.seq (.reg [⟨(some 27), .mv (.tmp 8), none⟩,
  ⟨(some 4), .mv (.tmp 27), none⟩,
  ⟨(some 5), .mv (.const (.bool true)), none⟩])
 (.ret)))))
def r_impl_limitedSearch : List ARes := [.tmp 4, .tmp 5]
theorem ok_impl_limitedSearch : FnOk Try.prog 187 28 c_impl_limitedSearch r_impl_limitedSearch := ⟨⟨Try.f187, _, Try.func187, by kernel_rfl, rfl, rfl, by kernel_rfl, by kernel_rfl⟩⟩
def c_impl_areLimits : ACode := .seq (.reg [⟨(some 2), .box 26 (.tmp 0), none⟩,
  ⟨(some 4), .mv (.const (.bool false)), none⟩])
 (.seq (.reg [⟨(some 5), .ld (some 4) (.tmp 2), none⟩,
  ⟨(some 6), .call (.func 62) [(.tmp 5)], none⟩,
  ⟨(some 7), .mv (.tmp 6), none⟩,
  ⟨(some 8), .mv (.tmp 1), (some (7, true))⟩,
  ⟨(some 9), .fad 0 (.tmp 2), (some (7, true))⟩,
  ⟨(some 10), .ld none (.tmp 9), (some (7, true))⟩,
  ⟨(some 11), .len (.tmp 10), (some (7, true))⟩,
  ⟨(some 12), .call (.func 158) [(.tmp 8), (.tmp 11), (.const (.int .i64 160))], (some (7, true))⟩,
  ⟨(some 13), .pick (.tmp 7) (.tmp 12) (.const (.bool false)), none⟩,
  ⟨(some 4), .mv (.tmp 13), none⟩])
 (.ret))
def r_impl_areLimits : List ARes := [.tmp 4]
theorem ok_impl_areLimits : FnOk Try.prog 194 14 c_impl_areLimits r_impl_areLimits := ⟨⟨Try.f194, _, Try.func194, by kernel_rfl, rfl, rfl, by kernel_rfl, by kernel_rfl⟩⟩
def c_impl_isPartial : ACode := .seq (.reg [⟨(some 4), .mv (.const (.bool false)), none⟩])
 (.seq (.reg [⟨(some 5), .mv (.tmp 0), none⟩,
  ⟨(some 6), .bin .gtr (.tmp 5) (.const (.int .i64 0)), none⟩,
  ⟨(some 7), .mv (.tmp 6), none⟩,
  ⟨(some 8), .mv (.tmp 0), (some (7, true))⟩,
  ⟨(some 9), .mv (.tmp 1), (some (7, true))⟩,
  ⟨(some 10), .bin .lss (.tmp 8) (.tmp 9), (some (7, true))⟩,
  ⟨(some 11), .pick (.tmp 7) (.tmp 10) (.const (.bool false)), none⟩,
  ⟨(some 4), .mv (.tmp 11), none⟩])
 (.ret))
def r_impl_isPartial : List ARes := [.tmp 4]
theorem ok_impl_isPartial : FnOk Try.prog 203 12 c_impl_isPartial r_impl_isPartial := ⟨⟨Try.f203, _, Try.func203, by kernel_rfl, rfl, rfl, by kernel_rfl, by kernel_rfl⟩⟩
def c_impl_areRates : ACode := .seq (.reg [⟨(some 2), .box 26 (.tmp 0), none⟩,
  ⟨(some 4), .mv (.const (.bool false)), none⟩])
 (.seq (.reg [⟨(some 5), .ld (some 4) (.tmp 2), none⟩,
  ⟨(some 6), .call (.func 62) [(.tmp 5)], none⟩,
  ⟨(some 7), .mv (.tmp 6), none⟩,
  ⟨(some 8), .mv (.tmp 1), (some (7, true))⟩,
  ⟨(some 9), .fad 0 (.tmp 2), (some (7, true))⟩,
  ⟨(some 10), .ld none (.tmp 9), (some (7, true))⟩,
  ⟨(some 11), .len (.tmp 10), (some (7, true))⟩,
  ⟨(some 12), .call (.func 158) [(.tmp 8), (.tmp 11), (.const (.int .i64 9))], (some (7, true))⟩,
  ⟨(some 13), .pick (.tmp 7) (.tmp 12) (.const (.bool false)), none⟩,
  ⟨(some 4), .mv (.tmp 13), none⟩])
 (.ret))
def r_impl_areRates : List ARes := [.tmp 4]
theorem ok_impl_areRates : FnOk Try.prog 212 14 c_impl_areRates r_impl_areRates := ⟨⟨Try.f212, _, Try.func212, by kernel_rfl, rfl, rfl, by kernel_rfl, by kernel_rfl⟩⟩
def c_impl_periodCost : ACode := .seq (.reg [⟨(some 5), .box 26 (.tmp 0), none⟩,
  ⟨(some 10), .mv (.const (.int .i64 0)), none⟩])
 (.seq (.reg [⟨(some 12), .fad 2 (.tmp 5), none⟩,
  ⟨(some 13), .ld none (.tmp 12), none⟩,
  ⟨(some 14), .mv (.tmp 2), none⟩,
  ⟨(some 15), .iad 1 (.tmp 13) (.tmp 14), none⟩,
  ⟨(some 16), .ld none (.tmp 15), none⟩,
  ⟨(some 17), .mv (.tmp 3), none⟩,
  ⟨(some 18), .bin .mul (.tmp 16) (.tmp 17), none⟩,
  ⟨(some 11), .mv (.tmp 18), none⟩])
 (.seq (.seq (.reg [⟨(some 19), .mv (.tmp 3), none⟩,
  ⟨(some 20), .bin .gtr (.tmp 19) (.const (.int .i64 0)), none⟩])
 (.cond (.tmp 20) (.reg [⟨(some 21), .mv (.tmp 11), none⟩,
  ⟨(some 22), .fad 1 (.tmp 5), none⟩,
  ⟨(some 23), .ld none (.tmp 22), none⟩,
  ⟨(some 24), .mv (.tmp 2), none⟩,
  ⟨(some 25), .iad 1 (.tmp 23) (.tmp 24), none⟩,
  ⟨(some 26), .ld none (.tmp 25), none⟩,
  ⟨(some 27), .bin .add (.tmp 21) (.tmp 26), none⟩,
  ⟨(some 11), .mv (.tmp 27), none⟩]) (.skip)))
 (.seq (.seq (.reg [⟨(some 28), .mv (.tmp 4), none⟩,
  ⟨(some 29), .call (.func 173) [(.tmp 28)], none⟩])
 (.cond (.tmp 29) (.seq (.reg [⟨(some 30), .mv (.tmp 11), none⟩,
  ⟨(some 31), .mv (.tmp 1), none⟩,
  ⟨(some 32), .mv (.tmp 2), none⟩,
  ⟨(some 33), .iad 1 (.tmp 31) (.tmp 32), none⟩,
  ⟨(some 34), .ld none (.tmp 33), none⟩,
  ⟨(some 35), .mv (.tmp 4), none⟩,
  ⟨(some 36), .bin .mul (.tmp 34) (.tmp 35), none⟩,
  ⟨(some 37), .bin .sub (.tmp 30) (.tmp 36), none⟩,
  ⟨(some 10), .mv (.tmp 37), none⟩])
 (.ret)) (.skip)))
 (.seq (.reg [⟨(some 38), .mv (.tmp 11), none⟩,
  ⟨(some 39), .fad 3 (.tmp 5), none⟩,
  ⟨(some 40), .ld none (.tmp 39), none⟩,
  ⟨(some 41), .mv (.tmp 2), none⟩,
  ⟨(some 42), .iad 1 (.tmp 40) (.tmp 41), none⟩,
  ⟨(some 43), .ld none (.tmp 42), none⟩,
  ⟨(some 44), .mv (.tmp 4), none⟩,
  ⟨(some 45), .bin .mul (.tmp 43) (.tmp 44), none⟩,
  ⟨(some 46), .bin .add (.tmp 38) (.tmp 45), none⟩,
  ⟨(some 10), .mv (.tmp 46), none⟩])
 (.ret)))))
def r_impl_periodCost : List ARes := [.tmp 10]
theorem ok_impl_periodCost : FnOk Try.prog 213 47 c_impl_periodCost r_impl_periodCost := ⟨⟨Try.f213, _, Try.func213, by kernel_rfl, rfl, rfl, by kernel_rfl, by kernel_rfl⟩⟩
def c_impl_lateSearch : ACode := .seq (.reg [⟨(some 2), .box 26 (.tmp 0), none⟩,
  ⟨(some 4), .mv (.const (.pointer none)), none⟩,
  ⟨(some 5), .mv (.const (.bool false)), none⟩])
 (.seq (.seq (.reg [⟨(some 8), .ld (some 4) (.tmp 2), none⟩,
  ⟨(some 9), .mv (.tmp 1), none⟩,
  ⟨(some 10), .call (.func 212) [(.tmp 8), (.tmp 9)], none⟩,
  ⟨(some 11), .un .not (.tmp 10), none⟩])
 (.cond (.tmp 11) (.seq (.reg [⟨(some 4), .mv (.const (.pointer none)), none⟩,
  ⟨(some 5), .mv (.const (.bool false)), none⟩])
 (.ret)) (.skip)))
 (.seq (.reg [⟨(some 12), .fad 0 (.tmp 2), none⟩,
  ⟨(some 13), .ld none (.tmp 12), none⟩,
  ⟨(some 16), .fad 0 (.tmp 2), none⟩,
  ⟨(some 17), .ld none (.tmp 16), none⟩,
  ⟨(some 18), .len (.tmp 17), none⟩,
  ⟨(some 14), .rcall (.func 144) [(.tmp 13)], none⟩,
  ⟨(some 15), .bsl 3 1 1 [(.int .i64 0)] [(0, 1, (.tmp 14))], none⟩,
  ⟨(some 19), .rcall (.func 246) [(.tmp 15), (.tmp 18)], none⟩,
  ⟨(some 6), .mv (.tmp 19), none⟩])
 (.seq (.reg [⟨(some 20), .ld (some 4) (.tmp 2), none⟩,
  ⟨(some 21), .mv (.tmp 6), none⟩,
  ⟨(some 22), .mv (.tmp 1), none⟩,
  ⟨(some 23), .bld [(.slice none 0 0), (.slice none 0 0), (.slice none 0 0), (.slice none 0 0), (.slice none 0 0), (.slice none 0 0), (.bool false), (.slice none 0 0)] [(0, 4, (.tmp 20)), (4, 1, (.tmp 21)), (5, 1, (.tmp 22)), (6, 1, (.const (.bool true)))], none⟩,
  ⟨(some 24), .box 145 (.tmp 23), none⟩,
  ⟨(some 7), .mv (.tmp 24), none⟩])
 (.seq (.reg [⟨(some 25), .mv (.tmp 7), none⟩,
  ⟨(some 26), .call (.func 241) [(.tmp 25)], none⟩])
 (.seq (.reg [⟨(some 27), .mv (.tmp 7), none⟩,
  ⟨(some 4), .mv (.tmp 27), none⟩,
  ⟨(some 5), .mv (.const (.bool true)), none⟩])
 (.ret))))))
def r_impl_lateSearch : List ARes := [.tmp 4, .tmp 5]
theorem ok_impl_lateSearch : FnOk Try.prog 217 28 c_impl_lateSearch r_impl_lateSearch := ⟨⟨Try.f217, _, Try.func217, by kernel_rfl, rfl, rfl, by kernel_rfl, by kernel_rfl⟩⟩
def c_impl_lotsFrom : ACode := .seq (.reg [⟨(some 1), .box 26 (.tmp 0), none⟩,
  ⟨(some 2), .mv (.const .nilFunc), none⟩])
 (.seq (.reg [⟨(some 6), .fad 0 (.tmp 1), none⟩,
  ⟨(some 7), .ld none (.tmp 6), none⟩,
  ⟨(some 8), .len (.tmp 7), none⟩,
  ⟨(some 3), .alc 3 [(.int .i64 0)], none⟩,
  ⟨none, .st 1 (.tmp 3) (.tmp 8), none⟩])
 (.seq (.reg [⟨(some 9), .mkm 152, none⟩,
  ⟨(some 10), .ld none (.tmp 3), none⟩,
  ⟨(some 11), .bld [(.int .i64 0), (.slice none 0 0)] [], none⟩,
  ⟨none, .mup (.tmp 9) (.tmp 10) (.tmp 11), none⟩,
  ⟨(some 12), .mv (.tmp 9), none⟩,
  ⟨(some 4), .alc 152 [(.map none)], none⟩,
  ⟨none, .st 1 (.tmp 4) (.tmp 12), none⟩])
 (.seq (.reg [⟨(some 5), .alc 136 [.nilFunc], none⟩])
 (.seq (.reg [⟨(some 13), .mkf 248 [] [(.tmp 4), (.tmp 1), (.tmp 3), (.tmp 5)], none⟩,
  ⟨none, .st 1 (.tmp 5) (.tmp 13), none⟩])
 (.seq (.reg [⟨(some 14), .ld none (.tmp 5), none⟩,
  ⟨(some 2), .mv (.tmp 14), none⟩])
 (.ret))))))
def r_impl_lotsFrom : List ARes := [.tmp 2]
theorem ok_impl_lotsFrom : FnOk Try.prog 226 15 c_impl_lotsFrom r_impl_lotsFrom := ⟨⟨Try.f226, _, Try.func226, by kernel_rfl, rfl, rfl, by kernel_rfl, by kernel_rfl⟩⟩
def c_impl_comesBefore : ACode := .seq (.reg [⟨(some 2), .box 87 (.tmp 0), none⟩,
  ⟨(some 3), .box 87 (.tmp 1), none⟩,
  ⟨(some 4), .mv (.const (.bool false)), none⟩])
 (.seq (.reg [⟨(some 6), .fad 0 (.tmp 2), none⟩,
  ⟨(some 7), .ld none (.tmp 6), none⟩,
  ⟨(some 8), .fad 0 (.tmp 3), none⟩,
  ⟨(some 9), .ld none (.tmp 8), none⟩,
  ⟨(some 11), .fad 1 (.tmp 2), none⟩,
  ⟨(some 12), .ld none (.tmp 11), none⟩,
  ⟨(some 13), .len (.tmp 12), none⟩,
  ⟨(some 14), .fad 1 (.tmp 3), none⟩,
  ⟨(some 15), .ld none (.tmp 14), none⟩,
  ⟨(some 16), .len (.tmp 15), none⟩,
  ⟨(some 18), .fad 1 (.tmp 2), none⟩,
  ⟨(some 19), .ld none (.tmp 18), none⟩,
  ⟨(some 20), .fad 1 (.tmp 3), none⟩,
  ⟨(some 21), .ld none (.tmp 20), none⟩,
  ⟨(some 10), .rcall (.func 250) [(.tmp 7), (.tmp 9)], none⟩,
  ⟨(some 17), .rcall (.func 250) [(.tmp 13), (.tmp 16)], none⟩,
  ⟨(some 22), .rcall (.func 251) [(.tmp 19), (.tmp 21)], none⟩,
  ⟨(some 23), .bsl 3 1 3 [(.int .i64 0), (.int .i64 0), (.int .i64 0)] [(0, 1, (.tmp 10)), (1, 1, (.tmp 17)), (2, 1, (.tmp 22))], none⟩,
  ⟨(some 24), .rcall (.func 249) [(.tmp 23)], none⟩,
  ⟨(some 5), .mv (.tmp 24), none⟩])
 (.seq (.reg [⟨(some 25), .mv (.tmp 5), none⟩,
  ⟨(some 26), .bin .lss (.tmp 25) (.const (.int .i64 0)), none⟩,
  ⟨(some 4), .mv (.tmp 26), none⟩])
 (.ret)))
def r_impl_comesBefore : List ARes := [.tmp 4]
theorem ok_impl_comesBefore : FnOk Try.prog 227 27 c_impl_comesBefore r_impl_comesBefore := ⟨⟨Try.f227, _, Try.func227, by kernel_rfl, rfl, rfl, by kernel_rfl, by kernel_rfl⟩⟩
def c_impl_isRow_1 : ACode := .seq (.reg [⟨(some 3), .mv (.const (.bool false)), none⟩])
 (.seq (.reg [⟨(some 4), .mv (.tmp 0), none⟩,
  ⟨(some 5), .ld none (.tmp 1), none⟩,
  ⟨(some 6), .call (.func 231) [(.tmp 4), (.tmp 5)], none⟩,
  ⟨(some 7), .un .not (.tmp 6), none⟩,
  ⟨(some 3), .mv (.tmp 7), none⟩])
 (.ret))
def r_impl_isRow_1 : List ARes := [.tmp 3]
theorem ok_impl_isRow_1 : FnOk Try.prog 230 8 c_impl_isRow_1 r_impl_isRow_1 := ⟨⟨Try.f230, _, Try.func230, by kernel_rfl, rfl, rfl, by kernel_rfl, by kernel_rfl⟩⟩
def c_impl_isWithin : ACode := .seq (.reg [⟨(some 4), .mv (.const (.bool false)), none⟩])
 (.seq (.reg [⟨(some 5), .mv (.tmp 0), none⟩,
  ⟨(some 6), .bin .geq (.tmp 5) (.const (.int .i64 0)), none⟩,
  ⟨(some 7), .mv (.tmp 6), none⟩,
  ⟨(some 8), .mv (.tmp 0), (some (7, true))⟩,
  ⟨(some 9), .mv (.tmp 1), (some (7, true))⟩,
  ⟨(some 10), .bin .leq (.tmp 8) (.tmp 9), (some (7, true))⟩,
  ⟨(some 11), .pick (.tmp 7) (.tmp 10) (.const (.bool false)), none⟩,
  ⟨(some 4), .mv (.tmp 11), none⟩])
 (.ret))
def r_impl_isWithin : List ARes := [.tmp 4]
theorem ok_impl_isWithin : FnOk Try.prog 231 12 c_impl_isWithin r_impl_isWithin := ⟨⟨Try.f231, _, Try.func231, by kernel_rfl, rfl, rfl, by kernel_rfl, by kernel_rfl⟩⟩
def c_impl_fairPrice_1 : ACode := .seq (.reg [⟨(some 5), .mv (.const (.int .i64 0)), none⟩])
 (.seq (.reg [⟨(some 6), .fad 0 (.tmp 1), none⟩,
  ⟨(some 7), .ld none (.tmp 6), none⟩,
  ⟨(some 8), .ld none (.tmp 2), none⟩,
  ⟨(some 9), .iad 1 (.tmp 7) (.tmp 8), none⟩,
  ⟨(some 10), .ld none (.tmp 9), none⟩,
  ⟨(some 11), .ld (some 4) (.tmp 1), none⟩,
  ⟨(some 12), .mv (.tmp 0), none⟩,
  ⟨(some 13), .ld none (.tmp 2), none⟩,
  ⟨(some 16), .fad 1 (.tmp 1), none⟩,
  ⟨(some 17), .ld none (.tmp 16), none⟩,
  ⟨(some 18), .mv (.tmp 0), none⟩,
  ⟨(some 19), .iad 1 (.tmp 17) (.tmp 18), none⟩,
  ⟨(some 20), .ld none (.tmp 19), none⟩,
  ⟨(some 22), .ld (some 4) (.tmp 1), none⟩,
  ⟨(some 23), .ld none (.tmp 3), none⟩,
  ⟨(some 24), .mv (.tmp 0), none⟩,
  ⟨(some 14), .rcall (.func 139) [(.tmp 11), (.tmp 12), (.tmp 13)], none⟩,
  ⟨(some 15), .bin .mul (.tmp 10) (.tmp 14), none⟩,
  ⟨(some 21), .bin .add (.tmp 15) (.tmp 20), none⟩,
  ⟨(some 25), .rcall (.func 159) [(.tmp 22), (.tmp 23), (.tmp 24)], none⟩,
  ⟨(some 26), .bin .sub (.tmp 21) (.tmp 25), none⟩,
  ⟨(some 5), .mv (.tmp 26), none⟩])
 (.ret))
def r_impl_fairPrice_1 : List ARes := [.tmp 5]
theorem ok_impl_fairPrice_1 : FnOk Try.prog 232 27 c_impl_fairPrice_1 r_impl_fairPrice_1 := ⟨⟨Try.f232, _, Try.func232, by kernel_rfl, rfl, rfl, by kernel_rfl, by kernel_rfl⟩⟩
def c_impl_goodBy_1 : ACode := .seq (.reg [⟨(some 9), .mv (.const (.bool false)), none⟩])
 (.seq (.reg [⟨(some 10), .ld (some 4) (.tmp 4), none⟩,
  ⟨(some 11), .mv (.tmp 0), none⟩,
  ⟨(some 12), .mv (.tmp 1), none⟩,
  ⟨(some 13), .bin .add (.tmp 12) (.const (.int .i64 1)), none⟩,
  ⟨(some 15), .mv (.tmp 2), none⟩,
  ⟨(some 17), .ld (some 4) (.tmp 4), none⟩,
  ⟨(some 18), .mv (.tmp 0), none⟩,
  ⟨(some 19), .mv (.tmp 1), none⟩,
  ⟨(some 21), .mv (.tmp 3), none⟩,
  ⟨(some 14), .rcall (.func 136) [(.tmp 10), (.tmp 11), (.tmp 13)], none⟩,
  ⟨(some 16), .bin .mul (.tmp 14) (.tmp 15), none⟩,
  ⟨(some 20), .rcall (.func 136) [(.tmp 17), (.tmp 18), (.tmp 19)], none⟩,
  ⟨(some 22), .bin .mul (.tmp 20) (.tmp 21), none⟩,
  ⟨(some 23), .bin .leq (.tmp 16) (.tmp 22), none⟩,
  ⟨(some 9), .mv (.tmp 23), none⟩])
 (.ret))
def r_impl_goodBy_1 : List ARes := [.tmp 9]
theorem ok_impl_goodBy_1 : FnOk Try.prog 234 24 c_impl_goodBy_1 r_impl_goodBy_1 := ⟨⟨Try.f234, _, Try.func234, by kernel_rfl, rfl, rfl, by kernel_rfl, by kernel_rfl⟩⟩
def c_impl_goodBy_2 : ACode := .seq (.reg [⟨(some 5), .mv (.const (.bool false)), none⟩])
 (.seq (.reg [⟨(some 6), .ld none (.tmp 2), none⟩,
  ⟨(some 7), .mv (.tmp 0), none⟩,
  ⟨(some 8), .mv (.tmp 1), none⟩,
  ⟨(some 9), .mv (.tmp 1), none⟩,
  ⟨(some 10), .mv (.tmp 0), none⟩,
  ⟨(some 11), .bin .sub (.tmp 9) (.tmp 10), none⟩,
  ⟨(some 12), .mv (.tmp 1), none⟩,
  ⟨(some 13), .bin .add (.tmp 12) (.const (.int .i64 1)), none⟩,
  ⟨(some 14), .mv (.tmp 0), none⟩,
  ⟨(some 15), .bin .sub (.tmp 13) (.tmp 14), none⟩,
  ⟨(some 16), .call (.tmp 6) [(.tmp 7), (.tmp 8), (.tmp 11), (.tmp 15)], none⟩,
  ⟨(some 5), .mv (.tmp 16), none⟩])
 (.ret))
def r_impl_goodBy_2 : List ARes := [.tmp 5]
theorem ok_impl_goodBy_2 : FnOk Try.prog 235 17 c_impl_goodBy_2 r_impl_goodBy_2 := ⟨⟨Try.f235, _, Try.func235, by kernel_rfl, rfl, rfl, by kernel_rfl, by kernel_rfl⟩⟩
def c_impl_goodBy_3 : ACode := .seq (.reg [⟨(some 6), .mv (.const (.bool false)), none⟩])
 (.seq (.reg [⟨(some 7), .ld none (.tmp 2), none⟩,
  ⟨(some 8), .mv (.tmp 0), none⟩,
  ⟨(some 9), .mv (.tmp 1), none⟩,
  ⟨(some 10), .fad 0 (.tmp 3), none⟩,
  ⟨(some 11), .ld none (.tmp 10), none⟩,
  ⟨(some 12), .mv (.tmp 0), none⟩,
  ⟨(some 13), .mv (.tmp 1), none⟩,
  ⟨(some 14), .slc 1 (.tmp 11) (some (.tmp 12)) (some (.tmp 13)), none⟩,
  ⟨(some 16), .fad 0 (.tmp 3), none⟩,
  ⟨(some 17), .ld none (.tmp 16), none⟩,
  ⟨(some 18), .mv (.tmp 0), none⟩,
  ⟨(some 19), .mv (.tmp 1), none⟩,
  ⟨(some 20), .bin .add (.tmp 19) (.const (.int .i64 1)), none⟩,
  ⟨(some 21), .slc 1 (.tmp 17) (some (.tmp 18)) (some (.tmp 20)), none⟩,
  ⟨(some 15), .rcall (.func 144) [(.tmp 14)], none⟩,
  ⟨(some 22), .rcall (.func 144) [(.tmp 21)], none⟩,
  ⟨(some 23), .rcall (.tmp 7) [(.tmp 8), (.tmp 9), (.tmp 15), (.tmp 22)], none⟩,
  ⟨(some 6), .mv (.tmp 23), none⟩])
 (.ret))
def r_impl_goodBy_3 : List ARes := [.tmp 6]
theorem ok_impl_goodBy_3 : FnOk Try.prog 236 24 c_impl_goodBy_3 r_impl_goodBy_3 := ⟨⟨Try.f236, _, Try.func236, by kernel_rfl, rfl, rfl, by kernel_rfl, by kernel_rfl⟩⟩
def c_impl_goodBy_4 : ACode := .seq (.reg [⟨(some 5), .mv (.const (.bool false)), none⟩])
 (.seq (.reg [⟨(some 7), .fad 2 (.tmp 2), none⟩,
  ⟨(some 8), .ld none (.tmp 7), none⟩,
  ⟨(some 9), .mv (.tmp 0), none⟩,
  ⟨(some 10), .iad 1 (.tmp 8) (.tmp 9), none⟩,
  ⟨(some 11), .ld none (.tmp 10), none⟩,
  ⟨(some 12), .fad 0 (.tmp 2), none⟩,
  ⟨(some 13), .ld none (.tmp 12), none⟩,
  ⟨(some 14), .mv (.tmp 0), none⟩,
  ⟨(some 15), .mv (.tmp 1), none⟩,
  ⟨(some 16), .bin .add (.tmp 15) (.const (.int .i64 1)), none⟩,
  ⟨(some 17), .slc 1 (.tmp 13) (some (.tmp 14)) (some (.tmp 16)), none⟩,
  ⟨(some 18), .rcall (.func 144) [(.tmp 17)], none⟩,
  ⟨(some 19), .bin .mul (.tmp 11) (.tmp 18), none⟩,
  ⟨(some 6), .mv (.tmp 19), none⟩])
 (.seq (.reg [⟨(some 20), .ld (some 4) (.tmp 2), none⟩,
  ⟨(some 21), .mv (.tmp 0), none⟩,
  ⟨(some 22), .mv (.tmp 1), none⟩,
  ⟨(some 23), .bin .add (.tmp 22) (.const (.int .i64 1)), none⟩,
  ⟨(some 25), .fad 1 (.tmp 2), none⟩,
  ⟨(some 26), .ld none (.tmp 25), none⟩,
  ⟨(some 27), .mv (.tmp 0), none⟩,
  ⟨(some 28), .iad 1 (.tmp 26) (.tmp 27), none⟩,
  ⟨(some 29), .ld none (.tmp 28), none⟩,
  ⟨(some 31), .mv (.tmp 6), none⟩,
  ⟨(some 33), .fad 1 (.tmp 2), none⟩,
  ⟨(some 34), .ld none (.tmp 33), none⟩,
  ⟨(some 35), .mv (.tmp 0), none⟩,
  ⟨(some 36), .iad 1 (.tmp 34) (.tmp 35), none⟩,
  ⟨(some 37), .ld none (.tmp 36), none⟩,
  ⟨(some 24), .rcall (.func 136) [(.tmp 20), (.tmp 21), (.tmp 23)], none⟩,
  ⟨(some 30), .bin .sub (.tmp 24) (.tmp 29), none⟩,
  ⟨(some 32), .bin .sub (.tmp 30) (.tmp 31), none⟩,
  ⟨(some 38), .bin .leq (.tmp 32) (.tmp 37), none⟩,
  ⟨(some 5), .mv (.tmp 38), none⟩])
 (.ret)))
def r_impl_goodBy_4 : List ARes := [.tmp 5]
theorem ok_impl_goodBy_4 : FnOk Try.prog 237 39 c_impl_goodBy_4 r_impl_goodBy_4 := ⟨⟨Try.f237, _, Try.func237, by kernel_rfl, rfl, rfl, by kernel_rfl, by kernel_rfl⟩⟩
def c_impl_orderInstead : ACode := .seq (.reg [⟨(some 8), .mv (.const (.slice none 0 0)), none⟩])
 (.seq (.reg [⟨(some 10), .bsl 3 1 0 [] [], none⟩,
  ⟨(some 11), .mv (.tmp 0), none⟩,
  ⟨(some 12), .app 3 1 8 (.tmp 10) (.tmp 11), none⟩,
  ⟨(some 9), .mv (.tmp 12), none⟩])
 (.seq (.reg [⟨(some 13), .mv (.tmp 9), none⟩,
  ⟨(some 14), .mv (.tmp 2), none⟩,
  ⟨(some 15), .iad 1 (.tmp 13) (.tmp 14), none⟩,
  ⟨(some 16), .ld none (.tmp 15), none⟩,
  ⟨(some 17), .mv (.tmp 1), none⟩,
  ⟨(some 18), .bin .sub (.tmp 16) (.tmp 17), none⟩,
  ⟨(some 19), .iad 1 (.tmp 13) (.tmp 14), none⟩,
  ⟨none, .st 1 (.tmp 19) (.tmp 18), none⟩])
 (.seq (.reg [⟨(some 20), .mv (.tmp 9), none⟩,
  ⟨(some 21), .mv (.tmp 3), none⟩,
  ⟨(some 22), .iad 1 (.tmp 20) (.tmp 21), none⟩,
  ⟨(some 23), .ld none (.tmp 22), none⟩,
  ⟨(some 24), .mv (.tmp 1), none⟩,
  ⟨(some 25), .bin .add (.tmp 23) (.tmp 24), none⟩,
  ⟨(some 26), .iad 1 (.tmp 20) (.tmp 21), none⟩,
  ⟨none, .st 1 (.tmp 26) (.tmp 25), none⟩])
 (.seq (.reg [⟨(some 27), .mv (.tmp 9), none⟩,
  ⟨(some 8), .mv (.tmp 27), none⟩])
 (.ret)))))
def r_impl_orderInstead : List ARes := [.tmp 8]
theorem ok_impl_orderInstead : FnOk Try.prog 240 28 c_impl_orderInstead r_impl_orderInstead := ⟨⟨Try.f240, _, Try.func240, by kernel_rfl, rfl, rfl, by kernel_rfl, by kernel_rfl⟩⟩
def c_impl_lotsFrom_1 : ACode := .seq (.reg [⟨(some 6), .alc 87 [(.int .i64 0), (.slice none 0 0)], none⟩])
 (.seq (.seq (.reg [⟨(some 15), .ld none (.tmp 1), none⟩,
  ⟨(some 16), .mv (.tmp 0), none⟩,
  ⟨(some 17), .lkp true (.agg #[(.int .i64 0), (.slice none 0 0)]) (.tmp 15) (.tmp 16), none⟩,
  ⟨(some 14), .mv (.tmp 17), none⟩,
  ⟨(some 18), .ext 0 (.tmp 14), none⟩,
  ⟨(some 19), .ext 1 (.tmp 14), none⟩,
  ⟨(some 7), .alc 87 [(.int .i64 0), (.slice none 0 0)], none⟩,
  ⟨none, .st 2 (.tmp 7) (.tmp 18), none⟩,
  ⟨(some 8), .mv (.tmp 19), none⟩])
 (.seq (.reg [⟨(some 20), .mv (.tmp 8), none⟩])
 (.cond (.tmp 20) (.seq (.reg [⟨(some 21), .ld (some 2) (.tmp 7), none⟩,
  ⟨none, .st 2 (.tmp 6) (.tmp 21), none⟩])
 (.ret)) (.skip))))
 (.seq (.reg [⟨(some 22), .ld (some 4) (.tmp 2), none⟩,
  ⟨(some 23), .mv (.tmp 0), none⟩,
  ⟨(some 24), .ld none (.tmp 3), none⟩,
  ⟨(some 25), .call (.func 136) [(.tmp 22), (.tmp 23), (.tmp 24)], none⟩,
  ⟨(some 26), .mv (.tmp 0), none⟩,
  ⟨(some 27), .bsl 3 1 1 [(.int .i64 0)] [(0, 1, (.tmp 26))], none⟩,
  ⟨(some 28), .bld [(.int .i64 0), (.slice none 0 0)] [(0, 1, (.tmp 25)), (1, 1, (.tmp 27))], none⟩,
  ⟨(some 9), .alc 87 [(.int .i64 0), (.slice none 0 0)], none⟩,
  ⟨none, .st 2 (.tmp 9) (.tmp 28), none⟩])
 (.seq (.seq (.reg [⟨(some 29), .mv (.tmp 0), none⟩,
  ⟨(some 30), .bin .add (.tmp 29) (.const (.int .i64 1)), none⟩,
  ⟨(some 10), .mv (.tmp 30), none⟩])
 (.block 0 (.loop (.seq (.seq (.reg [⟨(some 31), .mv (.tmp 10), none⟩,
  ⟨(some 32), .ld none (.tmp 3), none⟩,
  ⟨(some 33), .bin .lss (.tmp 31) (.tmp 32), none⟩])
 (.cond (.tmp 33) (.skip) (.exit 0)))
 (.seq (.block 1 (.seq (.reg [⟨(some 36), .ld none (.tmp 4), none⟩,
  ⟨(some 37), .mv (.tmp 10), none⟩,
  ⟨(some 38), .call (.tmp 36) [(.tmp 37)], none⟩,
  ⟨(some 11), .alc 87 [(.int .i64 0), (.slice none 0 0)], none⟩,
  ⟨none, .st 2 (.tmp 11) (.tmp 38), none⟩])
 (.seq (.reg [⟨(some 39), .mv (.tmp 0), none⟩,
  ⟨(some 40), .bsl 3 1 1 [(.int .i64 0)] [(0, 1, (.tmp 39))], none⟩,
  ⟨(some 41), .fad 1 (.tmp 11), none⟩,
  ⟨(some 42), .ld none (.tmp 41), none⟩,
  ⟨(some 43), .app 3 1 8 (.tmp 40) (.tmp 42), none⟩,
  ⟨(some 12), .mv (.tmp 43), none⟩])
 (.seq (.seq (.reg [⟨(some 44), .ld (some 4) (.tmp 2), none⟩]) (.seq (.reg [⟨(some 45), .mv (.tmp 0), none⟩]) (.seq (.reg [⟨(some 46), .mv (.tmp 10), none⟩]) (.seq (.reg [⟨(some 48), .fad 0 (.tmp 11), none⟩]) (.seq (.reg [⟨(some 49), .ld none (.tmp 48), none⟩]) (.seq (.reg [⟨(some 51), .mv (.tmp 12), none⟩]) (.both (.seq (.reg [⟨(some 47), .rcall (.func 136) [(.tmp 44), (.tmp 45), (.tmp 46)], none⟩]) (.seq (.reg [⟨(some 50), .bin .add (.tmp 47) (.tmp 49), none⟩]) (.seq (.reg [⟨(some 52), .bld [(.int .i64 0), (.slice none 0 0)] [(0, 1, (.tmp 50)), (1, 1, (.tmp 51))], none⟩]) (.seq (.reg [⟨(some 13), .alc 87 [(.int .i64 0), (.slice none 0 0)], none⟩]) (.seq (.reg [⟨none, .st 2 (.tmp 13) (.tmp 52), none⟩]) (.skip)))))) (.seq (.reg [⟨(some 13), .alc 87 [(.int .i64 0), (.slice none 0 0)], none⟩]) (.seq (.reg [⟨(some 47), .rcall (.func 136) [(.tmp 44), (.tmp 45), (.tmp 46)], none⟩]) (.seq (.reg [⟨(some 50), .bin .add (.tmp 47) (.tmp 49), none⟩]) (.seq (.reg [⟨(some 52), .bld [(.int .i64 0), (.slice none 0 0)] [(0, 1, (.tmp 50)), (1, 1, (.tmp 51))], none⟩]) (.seq (.reg [⟨none, .st 2 (.tmp 13) (.tmp 52), none⟩]) (.skip)))))))))))))
 (.seq (.reg [⟨(some 53), .ld (some 2) (.tmp 13), none⟩,
  ⟨(some 54), .ld (some 2) (.tmp 9), none⟩,
  ⟨(some 55), .call (.func 227) [(.tmp 53), (.tmp 54)], none⟩])
 (.cond (.tmp 55) (.reg [⟨(some 56), .ld (some 2) (.tmp 13), none⟩,
  ⟨none, .st 2 (.tmp 9) (.tmp 56), none⟩]) (.skip)))))))
 (.reg [⟨(some 34), .mv (.tmp 10), none⟩,
  ⟨(some 35), .bin .add (.tmp 34) (.const (.int .i64 1)), none⟩,
  ⟨(some 10), .mv (.tmp 35), none⟩]))))))
 (.seq (.reg [⟨(some 57), .ld none (.tmp 1), none⟩,
  ⟨(some 58), .mv (.tmp 0), none⟩,
  ⟨(some 59), .ld (some 2) (.tmp 9), none⟩,
  ⟨none, .mup (.tmp 57) (.tmp 58) (.tmp 59), none⟩])
 (.seq (.reg [⟨(some 60), .ld (some 2) (.tmp 9), none⟩,
  ⟨none, .st 2 (.tmp 6) (.tmp 60), none⟩])
 (.ret))))))
def r_impl_lotsFrom_1 : List ARes := [.cell 6 (some 2)]
theorem ok_impl_lotsFrom_1 : FnOk Try.prog 248 61 c_impl_lotsFrom_1 r_impl_lotsFrom_1 := ⟨⟨Try.f248, _, Try.func248, by kernel_rfl, rfl, rfl, by kernel_rfl, by kernel_rfl⟩⟩
end Go.Proofs.Ytncajinepljdhaa.Ab
