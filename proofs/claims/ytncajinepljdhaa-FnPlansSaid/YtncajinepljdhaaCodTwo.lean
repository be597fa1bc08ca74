/- The compiled forms of functions, each checked against the translation. -/
import Derived.Test.YtncajinepljdhaaCodTwoB
import Derived.Test.YtncajinepljdhaaAb2
import Derived.Test.YtncajinepljdhaaProg
namespace Go.Proofs.Ytncajinepljdhaa.Ab
open Go Go.RowKit Go.Proofs
set_option maxRecDepth 100000
def c_spec_ForwardCosts : ACode := .seq (.reg [⟨(some 1), .box 26 (.tmp 0), none⟩,
  ⟨(some 2), .mv (.const (.slice none 0 0)), none⟩,
  ⟨(some 3), .mv (.const (.bool false)), none⟩])
 (.seq (.seq (.reg [⟨(some 6), .ld (some 4) (.tmp 1), none⟩,
  ⟨(some 7), .call (.func 129) [(.tmp 6)], none⟩,
  ⟨(some 8), .un .not (.tmp 7), none⟩])
 (.cond (.tmp 8) (.seq (.reg [⟨(some 9), .bsl 3 1 0 [] [], none⟩,
  ⟨(some 2), .mv (.tmp 9), none⟩,
  ⟨(some 3), .mv (.const (.bool false)), none⟩])
 (.ret)) (.skip)))
 (.seq (.reg [⟨(some 11), .ld (some 4) (.tmp 1), none⟩,
  ⟨(some 12), .call (.func 130) [(.tmp 11)], none⟩,
  ⟨(some 10), .mv (.tmp 12), none⟩,
  ⟨(some 13), .ext 0 (.tmp 10), none⟩,
  ⟨(some 14), .ext 1 (.tmp 10), none⟩,
  ⟨(some 4), .mv (.tmp 13), none⟩,
  ⟨(some 5), .mv (.tmp 14), none⟩])
 (.seq (.reg [⟨(some 15), .mv (.tmp 4), none⟩,
  ⟨(some 2), .mv (.tmp 15), none⟩,
  ⟨(some 3), .mv (.const (.bool true)), none⟩])
 (.ret))))
def r_spec_ForwardCosts : List ARes := [.tmp 2, .tmp 3]
theorem ok_spec_ForwardCosts : FnOk Try.prog 16 16 c_spec_ForwardCosts r_spec_ForwardCosts := ⟨⟨Try.f16, _, Try.func16, by kernel_rfl, rfl, rfl, by kernel_rfl, by kernel_rfl⟩⟩
def c_spec_BackwardCosts : ACode := .seq (.reg [⟨(some 1), .box 26 (.tmp 0), none⟩,
  ⟨(some 2), .mv (.const (.slice none 0 0)), none⟩,
  ⟨(some 3), .mv (.const (.bool false)), none⟩])
 (.seq (.seq (.reg [⟨(some 4), .ld (some 4) (.tmp 1), none⟩,
  ⟨(some 5), .call (.func 129) [(.tmp 4)], none⟩,
  ⟨(some 6), .un .not (.tmp 5), none⟩])
 (.cond (.tmp 6) (.seq (.reg [⟨(some 7), .bsl 3 1 0 [] [], none⟩,
  ⟨(some 2), .mv (.tmp 7), none⟩,
  ⟨(some 3), .mv (.const (.bool false)), none⟩])
 (.ret)) (.skip)))
 (.seq (.reg [⟨(some 8), .ld (some 4) (.tmp 1), none⟩,
  ⟨(some 9), .call (.func 132) [(.tmp 8)], none⟩,
  ⟨(some 2), .mv (.tmp 9), none⟩,
  ⟨(some 3), .mv (.const (.bool true)), none⟩])
 (.ret)))
def r_spec_BackwardCosts : List ARes := [.tmp 2, .tmp 3]
theorem ok_spec_BackwardCosts : FnOk Try.prog 18 10 c_spec_BackwardCosts r_spec_BackwardCosts := ⟨⟨Try.f18, _, Try.func18, by kernel_rfl, rfl, rfl, by kernel_rfl, by kernel_rfl⟩⟩
def c_spec_TurningPeriods : ACode := .seq (.reg [⟨(some 1), .box 26 (.tmp 0), none⟩,
  ⟨(some 2), .mv (.const (.slice none 0 0)), none⟩,
  ⟨(some 3), .mv (.const (.bool false)), none⟩])
 (.seq (.reg [⟨(some 9), .bsl 3 1 0 [] [], none⟩,
  ⟨(some 4), .mv (.tmp 9), none⟩])
 (.seq (.seq (.reg [⟨(some 10), .ld (some 4) (.tmp 1), none⟩,
  ⟨(some 11), .call (.func 129) [(.tmp 10)], none⟩,
  ⟨(some 12), .un .not (.tmp 11), none⟩])
 (.cond (.tmp 12) (.seq (.reg [⟨(some 13), .mv (.tmp 4), none⟩,
  ⟨(some 2), .mv (.tmp 13), none⟩,
  ⟨(some 3), .mv (.const (.bool false)), none⟩])
 (.ret)) (.skip)))
 (.seq (.reg [⟨(some 15), .ld (some 4) (.tmp 1), none⟩,
  ⟨(some 16), .call (.func 130) [(.tmp 15)], none⟩,
  ⟨(some 14), .mv (.tmp 16), none⟩,
  ⟨(some 17), .ext 0 (.tmp 14), none⟩,
  ⟨(some 18), .ext 1 (.tmp 14), none⟩,
  ⟨(some 5), .mv (.tmp 17), none⟩,
  ⟨(some 6), .mv (.tmp 18), none⟩])
 (.seq (.reg [⟨(some 19), .ld (some 4) (.tmp 1), none⟩,
  ⟨(some 20), .call (.func 132) [(.tmp 19)], none⟩,
  ⟨(some 7), .mv (.tmp 20), none⟩])
 (.seq (.seq (.reg [⟨(some 8), .mv (.const (.int .i64 0)), none⟩])
 (.block 0 (.loop (.seq (.seq (.reg [⟨(some 21), .mv (.tmp 8), none⟩,
  ⟨(some 22), .mv (.tmp 5), none⟩,
  ⟨(some 23), .len (.tmp 22), none⟩,
  ⟨(some 24), .bin .lss (.tmp 21) (.tmp 23), none⟩])
 (.cond (.tmp 24) (.skip) (.exit 0)))
 (.seq (.block 1 (.seq (.reg [⟨(some 27), .mv (.tmp 5), none⟩,
  ⟨(some 28), .mv (.tmp 8), none⟩,
  ⟨(some 29), .iad 1 (.tmp 27) (.tmp 28), none⟩,
  ⟨(some 30), .ld none (.tmp 29), none⟩,
  ⟨(some 31), .mv (.tmp 7), none⟩,
  ⟨(some 32), .mv (.tmp 8), none⟩,
  ⟨(some 33), .iad 1 (.tmp 31) (.tmp 32), none⟩,
  ⟨(some 34), .ld none (.tmp 33), none⟩,
  ⟨(some 35), .bin .add (.tmp 30) (.tmp 34), none⟩,
  ⟨(some 36), .mv (.tmp 7), none⟩,
  ⟨(some 37), .iad 1 (.tmp 36) (.const (.int .i64 0)), none⟩,
  ⟨(some 38), .ld none (.tmp 37), none⟩,
  ⟨(some 39), .bin .eql (.tmp 35) (.tmp 38), none⟩])
 (.cond (.tmp 39) (.reg [⟨(some 40), .mv (.tmp 4), none⟩,
  ⟨(some 41), .mv (.tmp 8), none⟩,
  ⟨(some 42), .bsl 3 1 1 [(.int .i64 0)] [(0, 1, (.tmp 41))], none⟩,
  ⟨(some 43), .app 3 1 8 (.tmp 40) (.tmp 42), none⟩,
  ⟨(some 4), .mv (.tmp 43), none⟩]) (.skip))))
 (.reg [⟨(some 25), .mv (.tmp 8), none⟩,
  ⟨(some 26), .bin .add (.tmp 25) (.const (.int .i64 1)), none⟩,
  ⟨(some 8), .mv (.tmp 26), none⟩]))))))
 (.seq (.reg [⟨(some 44), .mv (.tmp 4), none⟩,
  ⟨(some 2), .mv (.tmp 44), none⟩,
  ⟨(some 3), .mv (.const (.bool true)), none⟩])
 (.ret)))))))
def r_spec_TurningPeriods : List ARes := [.tmp 2, .tmp 3]
theorem ok_spec_TurningPeriods : FnOk Try.prog 20 45 c_spec_TurningPeriods r_spec_TurningPeriods := ⟨⟨Try.f20, _, Try.func20, by kernel_rfl, rfl, rfl, by kernel_rfl, by kernel_rfl⟩⟩
def c_spec_SpanCost : ACode := .seq (.reg [⟨(some 3), .box 26 (.tmp 0), none⟩,
  ⟨(some 6), .mv (.const (.int .i64 0)), none⟩,
  ⟨(some 7), .mv (.const (.bool false)), none⟩])
 (.seq (.seq (.reg [⟨(some 8), .ld (some 4) (.tmp 3), none⟩,
  ⟨(some 9), .mv (.tmp 1), none⟩,
  ⟨(some 10), .mv (.tmp 2), none⟩,
  ⟨(some 11), .call (.func 137) [(.tmp 8), (.tmp 9), (.tmp 10)], none⟩,
  ⟨(some 12), .un .not (.tmp 11), none⟩])
 (.cond (.tmp 12) (.seq (.reg [⟨(some 6), .mv (.const (.int .i64 0)), none⟩,
  ⟨(some 7), .mv (.const (.bool false)), none⟩])
 (.ret)) (.skip)))
 (.seq (.reg [⟨(some 13), .ld (some 4) (.tmp 3), none⟩,
  ⟨(some 14), .mv (.tmp 1), none⟩,
  ⟨(some 15), .mv (.tmp 2), none⟩,
  ⟨(some 16), .call (.func 138) [(.tmp 13), (.tmp 14), (.tmp 15)], none⟩,
  ⟨(some 6), .mv (.tmp 16), none⟩,
  ⟨(some 7), .mv (.const (.bool true)), none⟩])
 (.ret)))
def r_spec_SpanCost : List ARes := [.tmp 6, .tmp 7]
theorem ok_spec_SpanCost : FnOk Try.prog 24 17 c_spec_SpanCost r_spec_SpanCost := ⟨⟨Try.f24, _, Try.func24, by kernel_rfl, rfl, rfl, by kernel_rfl, by kernel_rfl⟩⟩
def c_spec_RateOf : ACode := .seq (.reg [⟨(some 3), .box 26 (.tmp 0), none⟩,
  ⟨(some 6), .mv (.const (.int .i64 0)), none⟩,
  ⟨(some 7), .mv (.const (.bool false)), none⟩])
 (.seq (.seq (.reg [⟨(some 8), .ld (some 4) (.tmp 3), none⟩,
  ⟨(some 9), .call (.func 129) [(.tmp 8)], none⟩,
  ⟨(some 10), .un .not (.tmp 9), none⟩,
  ⟨(some 11), .mv (.tmp 10), none⟩,
  ⟨(some 12), .mv (.tmp 1), (some (11, false))⟩,
  ⟨(some 13), .mv (.tmp 2), (some (11, false))⟩,
  ⟨(some 14), .call (.func 140) [(.tmp 12), (.const (.int .i64 0)), (.tmp 13)], (some (11, false))⟩,
  ⟨(some 15), .un .not (.tmp 14), (some (11, false))⟩,
  ⟨(some 16), .pick (.tmp 11) (.const (.bool true)) (.tmp 15), none⟩,
  ⟨(some 17), .mv (.tmp 16), none⟩,
  ⟨(some 18), .mv (.tmp 2), (some (17, false))⟩,
  ⟨(some 19), .fad 0 (.tmp 3), (some (17, false))⟩,
  ⟨(some 20), .ld none (.tmp 19), (some (17, false))⟩,
  ⟨(some 21), .len (.tmp 20), (some (17, false))⟩,
  ⟨(some 22), .bin .sub (.tmp 21) (.const (.int .i64 1)), (some (17, false))⟩,
  ⟨(some 23), .call (.func 140) [(.tmp 18), (.const (.int .i64 0)), (.tmp 22)], (some (17, false))⟩,
  ⟨(some 24), .un .not (.tmp 23), (some (17, false))⟩,
  ⟨(some 25), .pick (.tmp 17) (.const (.bool true)) (.tmp 24), none⟩])
 (.cond (.tmp 25) (.seq (.reg [⟨(some 6), .mv (.const (.int .i64 0)), none⟩,
  ⟨(some 7), .mv (.const (.bool false)), none⟩])
 (.ret)) (.skip)))
 (.seq (.reg [⟨(some 26), .ld (some 4) (.tmp 3), none⟩,
  ⟨(some 27), .mv (.tmp 1), none⟩,
  ⟨(some 28), .mv (.tmp 2), none⟩,
  ⟨(some 29), .call (.func 141) [(.tmp 26), (.tmp 27), (.tmp 28)], none⟩,
  ⟨(some 6), .mv (.tmp 29), none⟩,
  ⟨(some 7), .mv (.const (.bool true)), none⟩])
 (.ret)))
def r_spec_RateOf : List ARes := [.tmp 6, .tmp 7]
theorem ok_spec_RateOf : FnOk Try.prog 26 30 c_spec_RateOf r_spec_RateOf := ⟨⟨Try.f26, _, Try.func26, by kernel_rfl, rfl, rfl, by kernel_rfl, by kernel_rfl⟩⟩
def c_spec_HorizonsOf : ACode := .seq (.reg [⟨(some 1), .box 26 (.tmp 0), none⟩,
  ⟨(some 2), .mv (.const (.slice none 0 0)), none⟩,
  ⟨(some 3), .mv (.const (.bool false)), none⟩])
 (.seq (.reg [⟨(some 8), .bsl 3 1 0 [] [], none⟩,
  ⟨(some 4), .mv (.tmp 8), none⟩])
 (.seq (.seq (.reg [⟨(some 9), .ld (some 4) (.tmp 1), none⟩,
  ⟨(some 10), .call (.func 129) [(.tmp 9)], none⟩,
  ⟨(some 11), .un .not (.tmp 10), none⟩])
 (.cond (.tmp 11) (.seq (.reg [⟨(some 12), .mv (.tmp 4), none⟩,
  ⟨(some 2), .mv (.tmp 12), none⟩,
  ⟨(some 3), .mv (.const (.bool false)), none⟩])
 (.ret)) (.skip)))
 (.seq (.reg [⟨(some 14), .ld (some 4) (.tmp 1), none⟩,
  ⟨(some 15), .call (.func 130) [(.tmp 14)], none⟩,
  ⟨(some 13), .mv (.tmp 15), none⟩,
  ⟨(some 16), .ext 0 (.tmp 13), none⟩,
  ⟨(some 17), .ext 1 (.tmp 13), none⟩,
  ⟨(some 5), .mv (.tmp 16), none⟩,
  ⟨(some 6), .mv (.tmp 17), none⟩])
 (.seq (.seq (.reg [⟨(some 7), .mv (.const (.int .i64 1)), none⟩])
 (.block 0 (.loop (.seq (.seq (.reg [⟨(some 18), .mv (.tmp 7), none⟩,
  ⟨(some 19), .mv (.tmp 6), none⟩,
  ⟨(some 20), .len (.tmp 19), none⟩,
  ⟨(some 21), .bin .leq (.tmp 18) (.tmp 20), none⟩])
 (.cond (.tmp 21) (.skip) (.exit 0)))
 (.seq (.block 1 (.seq (.reg [⟨(some 24), .mv (.tmp 6), none⟩,
  ⟨(some 25), .mv (.tmp 7), none⟩,
  ⟨(some 26), .bin .sub (.tmp 25) (.const (.int .i64 1)), none⟩,
  ⟨(some 27), .iad 1 (.tmp 24) (.tmp 26), none⟩,
  ⟨(some 28), .ld none (.tmp 27), none⟩,
  ⟨(some 29), .mv (.tmp 7), none⟩,
  ⟨(some 30), .bin .sub (.tmp 29) (.const (.int .i64 1)), none⟩,
  ⟨(some 31), .bin .eql (.tmp 28) (.tmp 30), none⟩,
  ⟨(some 32), .mv (.tmp 31), none⟩,
  ⟨(some 33), .fad 0 (.tmp 1), (some (32, true))⟩,
  ⟨(some 34), .ld none (.tmp 33), (some (32, true))⟩,
  ⟨(some 35), .mv (.tmp 7), (some (32, true))⟩,
  ⟨(some 36), .bin .sub (.tmp 35) (.const (.int .i64 1)), (some (32, true))⟩,
  ⟨(some 37), .iad 1 (.tmp 34) (.tmp 36), (some (32, true))⟩,
  ⟨(some 38), .ld none (.tmp 37), (some (32, true))⟩,
  ⟨(some 39), .bin .gtr (.tmp 38) (.const (.int .i64 0)), (some (32, true))⟩,
  ⟨(some 40), .pick (.tmp 32) (.tmp 39) (.const (.bool false)), none⟩])
 (.cond (.tmp 40) (.reg [⟨(some 41), .mv (.tmp 4), none⟩,
  ⟨(some 42), .mv (.tmp 7), none⟩,
  ⟨(some 43), .bsl 3 1 1 [(.int .i64 0)] [(0, 1, (.tmp 42))], none⟩,
  ⟨(some 44), .app 3 1 8 (.tmp 41) (.tmp 43), none⟩,
  ⟨(some 4), .mv (.tmp 44), none⟩]) (.skip))))
 (.reg [⟨(some 22), .mv (.tmp 7), none⟩,
  ⟨(some 23), .bin .add (.tmp 22) (.const (.int .i64 1)), none⟩,
  ⟨(some 7), .mv (.tmp 23), none⟩]))))))
 (.seq (.reg [⟨(some 45), .mv (.tmp 4), none⟩,
  ⟨(some 2), .mv (.tmp 45), none⟩,
  ⟨(some 3), .mv (.const (.bool true)), none⟩])
 (.ret))))))
def r_spec_HorizonsOf : List ARes := [.tmp 2, .tmp 3]
theorem ok_spec_HorizonsOf : FnOk Try.prog 33 46 c_spec_HorizonsOf r_spec_HorizonsOf := ⟨⟨Try.f33, _, Try.func33, by kernel_rfl, rfl, rfl, by kernel_rfl, by kernel_rfl⟩⟩
def c_spec_TablePeriods : ACode := .seq (.reg [⟨(some 1), .box 26 (.tmp 0), none⟩,
  ⟨(some 2), .mv (.const (.slice none 0 0)), none⟩,
  ⟨(some 3), .mv (.const (.bool false)), none⟩])
 (.seq (.reg [⟨(some 9), .bsl 3 1 0 [] [], none⟩,
  ⟨(some 4), .mv (.tmp 9), none⟩])
 (.seq (.seq (.reg [⟨(some 10), .ld (some 4) (.tmp 1), none⟩,
  ⟨(some 11), .call (.func 129) [(.tmp 10)], none⟩,
  ⟨(some 12), .un .not (.tmp 11), none⟩])
 (.cond (.tmp 12) (.seq (.reg [⟨(some 13), .mv (.tmp 4), none⟩,
  ⟨(some 2), .mv (.tmp 13), none⟩,
  ⟨(some 3), .mv (.const (.bool false)), none⟩])
 (.ret)) (.skip)))
 (.seq (.reg [⟨(some 15), .ld (some 4) (.tmp 1), none⟩,
  ⟨(some 16), .call (.func 130) [(.tmp 15)], none⟩,
  ⟨(some 14), .mv (.tmp 16), none⟩,
  ⟨(some 17), .ext 0 (.tmp 14), none⟩,
  ⟨(some 18), .ext 1 (.tmp 14), none⟩,
  ⟨(some 5), .mv (.tmp 17), none⟩,
  ⟨(some 6), .mv (.tmp 18), none⟩])
 (.seq (.seq (.reg [⟨(some 19), .fad 0 (.tmp 1), none⟩,
  ⟨(some 20), .ld none (.tmp 19), none⟩,
  ⟨(some 21), .len (.tmp 20), none⟩,
  ⟨(some 7), .mv (.tmp 21), none⟩])
 (.block 0 (.loop (.seq (.seq (.reg [⟨(some 22), .mv (.tmp 7), none⟩,
  ⟨(some 23), .bin .gtr (.tmp 22) (.const (.int .i64 0)), none⟩])
 (.cond (.tmp 23) (.skip) (.exit 0)))
 (.seq (.block 1 (.seq (.reg [⟨(some 29), .mv (.tmp 6), none⟩,
  ⟨(some 30), .mv (.tmp 7), none⟩,
  ⟨(some 31), .bin .sub (.tmp 30) (.const (.int .i64 1)), none⟩,
  ⟨(some 32), .iad 1 (.tmp 29) (.tmp 31), none⟩,
  ⟨(some 33), .ld none (.tmp 32), none⟩,
  ⟨(some 8), .mv (.tmp 33), none⟩])
 (.seq (.reg [⟨(some 34), .ld (some 4) (.tmp 1), none⟩,
  ⟨(some 35), .mv (.tmp 8), none⟩,
  ⟨(some 36), .mv (.tmp 7), none⟩,
  ⟨(some 37), .call (.func 145) [(.tmp 34), (.tmp 35), (.tmp 36)], none⟩])
 (.cond (.tmp 37) (.reg [⟨(some 38), .mv (.tmp 8), none⟩,
  ⟨(some 39), .bsl 3 1 1 [(.int .i64 0)] [(0, 1, (.tmp 38))], none⟩,
  ⟨(some 40), .mv (.tmp 4), none⟩,
  ⟨(some 41), .app 3 1 8 (.tmp 39) (.tmp 40), none⟩,
  ⟨(some 4), .mv (.tmp 41), none⟩]) (.skip)))))
 (.reg [⟨(some 24), .mv (.tmp 6), none⟩,
  ⟨(some 25), .mv (.tmp 7), none⟩,
  ⟨(some 26), .bin .sub (.tmp 25) (.const (.int .i64 1)), none⟩,
  ⟨(some 27), .iad 1 (.tmp 24) (.tmp 26), none⟩,
  ⟨(some 28), .ld none (.tmp 27), none⟩,
  ⟨(some 7), .mv (.tmp 28), none⟩]))))))
 (.seq (.reg [⟨(some 42), .mv (.tmp 4), none⟩,
  ⟨(some 2), .mv (.tmp 42), none⟩,
  ⟨(some 3), .mv (.const (.bool true)), none⟩])
 (.ret))))))
def r_spec_TablePeriods : List ARes := [.tmp 2, .tmp 3]
theorem ok_spec_TablePeriods : FnOk Try.prog 37 43 c_spec_TablePeriods r_spec_TablePeriods := ⟨⟨Try.f37, _, Try.func37, by kernel_rfl, rfl, rfl, by kernel_rfl, by kernel_rfl⟩⟩
def c_spec_IsPriceProof : ACode := .seq (.reg [⟨(some 3), .box 26 (.tmp 0), none⟩,
  ⟨(some 6), .mv (.const (.bool false)), none⟩,
  ⟨(some 7), .mv (.const (.bool false)), none⟩])
 (.seq (.seq (.reg [⟨(some 8), .ld (some 4) (.tmp 3), none⟩,
  ⟨(some 9), .mv (.tmp 1), none⟩,
  ⟨(some 10), .call (.func 153) [(.tmp 8), (.tmp 9)], none⟩,
  ⟨(some 11), .un .not (.tmp 10), none⟩,
  ⟨(some 12), .mv (.tmp 11), none⟩,
  ⟨(some 13), .ld (some 4) (.tmp 3), (some (12, false))⟩,
  ⟨(some 14), .mv (.tmp 2), (some (12, false))⟩,
  ⟨(some 15), .call (.func 154) [(.tmp 13), (.tmp 14)], (some (12, false))⟩,
  ⟨(some 16), .un .not (.tmp 15), (some (12, false))⟩,
  ⟨(some 17), .pick (.tmp 12) (.const (.bool true)) (.tmp 16), none⟩])
 (.cond (.tmp 17) (.seq (.reg [⟨(some 6), .mv (.const (.bool false)), none⟩,
  ⟨(some 7), .mv (.const (.bool false)), none⟩])
 (.ret)) (.skip)))
 (.seq (.reg [⟨(some 18), .mv (.tmp 1), none⟩,
  ⟨(some 20), .ld (some 4) (.tmp 3), none⟩,
  ⟨(some 21), .mv (.tmp 2), none⟩,
  ⟨(some 19), .rcall (.func 155) [(.tmp 18)], none⟩,
  ⟨(some 22), .rcall (.func 156) [(.tmp 20), (.tmp 21)], none⟩,
  ⟨(some 23), .bin .eql (.tmp 19) (.tmp 22), none⟩,
  ⟨(some 6), .mv (.tmp 23), none⟩,
  ⟨(some 7), .mv (.const (.bool true)), none⟩])
 (.ret)))
def r_spec_IsPriceProof : List ARes := [.tmp 6, .tmp 7]
theorem ok_spec_IsPriceProof : FnOk Try.prog 43 24 c_spec_IsPriceProof r_spec_IsPriceProof := ⟨⟨Try.f43, _, Try.func43, by kernel_rfl, rfl, rfl, by kernel_rfl, by kernel_rfl⟩⟩
def c_spec_AreFair : ACode := .seq (.reg [⟨(some 2), .box 26 (.tmp 0), none⟩,
  ⟨(some 4), .mv (.const (.bool false)), none⟩,
  ⟨(some 5), .mv (.const (.bool false)), none⟩])
 (.seq (.seq (.reg [⟨(some 6), .ld (some 4) (.tmp 2), none⟩,
  ⟨(some 7), .mv (.tmp 1), none⟩,
  ⟨(some 8), .call (.func 157) [(.tmp 6), (.tmp 7)], none⟩,
  ⟨(some 9), .un .not (.tmp 8), none⟩])
 (.cond (.tmp 9) (.seq (.reg [⟨(some 4), .mv (.const (.bool false)), none⟩,
  ⟨(some 5), .mv (.const (.bool false)), none⟩])
 (.ret)) (.skip)))
 (.seq (.reg [⟨(some 10), .ld (some 4) (.tmp 2), none⟩,
  ⟨(some 11), .mv (.tmp 1), none⟩,
  ⟨(some 12), .call (.func 153) [(.tmp 10), (.tmp 11)], none⟩,
  ⟨(some 4), .mv (.tmp 12), none⟩,
  ⟨(some 5), .mv (.const (.bool true)), none⟩])
 (.ret)))
def r_spec_AreFair : List ARes := [.tmp 4, .tmp 5]
theorem ok_spec_AreFair : FnOk Try.prog 45 13 c_spec_AreFair r_spec_AreFair := ⟨⟨Try.f45, _, Try.func45, by kernel_rfl, rfl, rfl, by kernel_rfl, by kernel_rfl⟩⟩
def c_spec_ClaimsOf : ACode := .seq (.reg [⟨(some 2), .box 26 (.tmp 0), none⟩,
  ⟨(some 4), .mv (.const (.slice none 0 0)), none⟩,
  ⟨(some 5), .mv (.const (.bool false)), none⟩])
 (.seq (.reg [⟨(some 8), .bsl 3 1 0 [] [], none⟩,
  ⟨(some 6), .mv (.tmp 8), none⟩])
 (.seq (.seq (.reg [⟨(some 9), .ld (some 4) (.tmp 2), none⟩,
  ⟨(some 10), .mv (.tmp 1), none⟩,
  ⟨(some 11), .call (.func 157) [(.tmp 9), (.tmp 10)], none⟩,
  ⟨(some 12), .un .not (.tmp 11), none⟩])
 (.cond (.tmp 12) (.seq (.reg [⟨(some 13), .mv (.tmp 6), none⟩,
  ⟨(some 4), .mv (.tmp 13), none⟩,
  ⟨(some 5), .mv (.const (.bool false)), none⟩])
 (.ret)) (.skip)))
 (.seq (.seq (.reg [⟨(some 7), .mv (.const (.int .i64 0)), none⟩])
 (.block 0 (.loop (.seq (.seq (.reg [⟨(some 14), .mv (.tmp 7), none⟩,
  ⟨(some 15), .mv (.tmp 1), none⟩,
  ⟨(some 16), .len (.tmp 15), none⟩,
  ⟨(some 17), .bin .lss (.tmp 14) (.tmp 16), none⟩])
 (.cond (.tmp 17) (.skip) (.exit 0)))
 (.seq (.block 1 (.reg [⟨(some 20), .mv (.tmp 6), none⟩,
  ⟨(some 21), .ld (some 4) (.tmp 2), none⟩,
  ⟨(some 22), .mv (.tmp 1), none⟩,
  ⟨(some 23), .mv (.tmp 7), none⟩,
  ⟨(some 24), .call (.func 160) [(.tmp 21), (.tmp 22), (.tmp 23)], none⟩,
  ⟨(some 25), .bsl 3 1 1 [(.int .i64 0)] [(0, 1, (.tmp 24))], none⟩,
  ⟨(some 26), .app 3 1 8 (.tmp 20) (.tmp 25), none⟩,
  ⟨(some 6), .mv (.tmp 26), none⟩]))
 (.reg [⟨(some 18), .mv (.tmp 7), none⟩,
  ⟨(some 19), .bin .add (.tmp 18) (.const (.int .i64 1)), none⟩,
  ⟨(some 7), .mv (.tmp 19), none⟩]))))))
 (.seq (.reg [⟨(some 27), .mv (.tmp 6), none⟩,
  ⟨(some 4), .mv (.tmp 27), none⟩,
  ⟨(some 5), .mv (.const (.bool true)), none⟩])
 (.ret)))))
def r_spec_ClaimsOf : List ARes := [.tmp 4, .tmp 5]
theorem ok_spec_ClaimsOf : FnOk Try.prog 47 28 c_spec_ClaimsOf r_spec_ClaimsOf := ⟨⟨Try.f47, _, Try.func47, by kernel_rfl, rfl, rfl, by kernel_rfl, by kernel_rfl⟩⟩
def c_spec_FairPrices : ACode := .seq (.reg [⟨(some 1), .box 26 (.tmp 0), none⟩,
  ⟨(some 2), .mv (.const (.slice none 0 0)), none⟩,
  ⟨(some 3), .mv (.const (.bool false)), none⟩])
 (.seq (.seq (.reg [⟨(some 4), .ld (some 4) (.tmp 1), none⟩,
  ⟨(some 5), .call (.func 129) [(.tmp 4)], none⟩,
  ⟨(some 6), .un .not (.tmp 5), none⟩])
 (.cond (.tmp 6) (.seq (.reg [⟨(some 7), .bsl 3 1 0 [] [], none⟩,
  ⟨(some 2), .mv (.tmp 7), none⟩,
  ⟨(some 3), .mv (.const (.bool false)), none⟩])
 (.ret)) (.skip)))
 (.seq (.reg [⟨(some 8), .ld (some 4) (.tmp 1), none⟩,
  ⟨(some 9), .call (.func 162) [(.tmp 8)], none⟩,
  ⟨(some 2), .mv (.tmp 9), none⟩,
  ⟨(some 3), .mv (.const (.bool true)), none⟩])
 (.ret)))
def r_spec_FairPrices : List ARes := [.tmp 2, .tmp 3]
theorem ok_spec_FairPrices : FnOk Try.prog 49 10 c_spec_FairPrices r_spec_FairPrices := ⟨⟨Try.f49, _, Try.func49, by kernel_rfl, rfl, rfl, by kernel_rfl, by kernel_rfl⟩⟩
def c_spec_RulePeriods : ACode := .seq (.reg [⟨(some 2), .box 26 (.tmp 0), none⟩,
  ⟨(some 4), .mv (.const (.slice none 0 0)), none⟩,
  ⟨(some 5), .mv (.const (.bool false)), none⟩])
 (.seq (.seq (.reg [⟨(some 6), .ld (some 4) (.tmp 2), none⟩,
  ⟨(some 7), .call (.func 129) [(.tmp 6)], none⟩,
  ⟨(some 8), .un .not (.tmp 7), none⟩,
  ⟨(some 9), .mv (.tmp 8), none⟩,
  ⟨(some 10), .mv (.tmp 1), (some (9, false))⟩,
  ⟨(some 11), .call (.func 140) [(.tmp 10), (.const (.int .i64 1)), (.const (.int .i64 3))], (some (9, false))⟩,
  ⟨(some 12), .un .not (.tmp 11), (some (9, false))⟩,
  ⟨(some 13), .pick (.tmp 9) (.const (.bool true)) (.tmp 12), none⟩])
 (.cond (.tmp 13) (.seq (.reg [⟨(some 14), .bsl 3 1 0 [] [], none⟩,
  ⟨(some 4), .mv (.tmp 14), none⟩,
  ⟨(some 5), .mv (.const (.bool false)), none⟩])
 (.ret)) (.skip)))
 (.seq (.reg [⟨(some 15), .ld (some 4) (.tmp 2), none⟩,
  ⟨(some 16), .mv (.tmp 1), none⟩,
  ⟨(some 17), .call (.func 167) [(.tmp 15), (.tmp 16)], none⟩,
  ⟨(some 4), .mv (.tmp 17), none⟩,
  ⟨(some 5), .mv (.const (.bool true)), none⟩])
 (.ret)))
def r_spec_RulePeriods : List ARes := [.tmp 4, .tmp 5]
theorem ok_spec_RulePeriods : FnOk Try.prog 53 18 c_spec_RulePeriods r_spec_RulePeriods := ⟨⟨Try.f53, _, Try.func53, by kernel_rfl, rfl, rfl, by kernel_rfl, by kernel_rfl⟩⟩
def c_spec_RuleGap : ACode := .seq (.reg [⟨(some 2), .box 26 (.tmp 0), none⟩,
  ⟨(some 4), .mv (.const (.int .i64 0)), none⟩,
  ⟨(some 5), .mv (.const (.bool false)), none⟩])
 (.seq (.seq (.reg [⟨(some 6), .ld (some 4) (.tmp 2), none⟩,
  ⟨(some 7), .call (.func 129) [(.tmp 6)], none⟩,
  ⟨(some 8), .un .not (.tmp 7), none⟩,
  ⟨(some 9), .mv (.tmp 8), none⟩,
  ⟨(some 10), .mv (.tmp 1), (some (9, false))⟩,
  ⟨(some 11), .call (.func 140) [(.tmp 10), (.const (.int .i64 1)), (.const (.int .i64 3))], (some (9, false))⟩,
  ⟨(some 12), .un .not (.tmp 11), (some (9, false))⟩,
  ⟨(some 13), .pick (.tmp 9) (.const (.bool true)) (.tmp 12), none⟩])
 (.cond (.tmp 13) (.seq (.reg [⟨(some 4), .mv (.const (.int .i64 0)), none⟩,
  ⟨(some 5), .mv (.const (.bool false)), none⟩])
 (.ret)) (.skip)))
 (.seq (.reg [⟨(some 14), .ld (some 4) (.tmp 2), none⟩,
  ⟨(some 15), .ld (some 4) (.tmp 2), none⟩,
  ⟨(some 16), .ld (some 4) (.tmp 2), none⟩,
  ⟨(some 17), .mv (.tmp 1), none⟩,
  ⟨(some 21), .ld (some 4) (.tmp 2), none⟩,
  ⟨(some 18), .rcall (.func 167) [(.tmp 16), (.tmp 17)], none⟩,
  ⟨(some 19), .rcall (.func 150) [(.tmp 15), (.tmp 18)], none⟩,
  ⟨(some 20), .rcall (.func 156) [(.tmp 14), (.tmp 19)], none⟩,
  ⟨(some 22), .rcall (.func 132) [(.tmp 21)], none⟩,
  ⟨(some 23), .iad 1 (.tmp 22) (.const (.int .i64 0)), none⟩,
  ⟨(some 24), .ld none (.tmp 23), none⟩,
  ⟨(some 25), .bin .sub (.tmp 20) (.tmp 24), none⟩,
  ⟨(some 4), .mv (.tmp 25), none⟩,
  ⟨(some 5), .mv (.const (.bool true)), none⟩])
 (.ret)))
def r_spec_RuleGap : List ARes := [.tmp 4, .tmp 5]
theorem ok_spec_RuleGap : FnOk Try.prog 55 26 c_spec_RuleGap r_spec_RuleGap := ⟨⟨Try.f55, _, Try.func55, by kernel_rfl, rfl, rfl, by kernel_rfl, by kernel_rfl⟩⟩
def c_spec_PlanCost : ACode := .seq (.reg [⟨(some 2), .box 26 (.tmp 0), none⟩,
  ⟨(some 4), .mv (.const (.int .i64 0)), none⟩,
  ⟨(some 5), .mv (.const (.bool false)), none⟩])
 (.seq (.seq (.reg [⟨(some 6), .ld (some 4) (.tmp 2), none⟩,
  ⟨(some 7), .mv (.tmp 1), none⟩,
  ⟨(some 8), .call (.func 154) [(.tmp 6), (.tmp 7)], none⟩,
  ⟨(some 9), .un .not (.tmp 8), none⟩])
 (.cond (.tmp 9) (.seq (.reg [⟨(some 4), .mv (.const (.int .i64 0)), none⟩,
  ⟨(some 5), .mv (.const (.bool false)), none⟩])
 (.ret)) (.skip)))
 (.seq (.reg [⟨(some 10), .ld (some 4) (.tmp 2), none⟩,
  ⟨(some 11), .mv (.tmp 1), none⟩,
  ⟨(some 12), .call (.func 156) [(.tmp 10), (.tmp 11)], none⟩,
  ⟨(some 4), .mv (.tmp 12), none⟩,
  ⟨(some 5), .mv (.const (.bool true)), none⟩])
 (.ret)))
def r_spec_PlanCost : List ARes := [.tmp 4, .tmp 5]
theorem ok_spec_PlanCost : FnOk Try.prog 59 13 c_spec_PlanCost r_spec_PlanCost := ⟨⟨Try.f59, _, Try.func59, by kernel_rfl, rfl, rfl, by kernel_rfl, by kernel_rfl⟩⟩
def c_spec_IsPlan : ACode := .seq (.reg [⟨(some 2), .box 26 (.tmp 0), none⟩,
  ⟨(some 4), .mv (.const (.bool false)), none⟩,
  ⟨(some 5), .mv (.const (.bool false)), none⟩])
 (.seq (.seq (.reg [⟨(some 6), .ld (some 4) (.tmp 2), none⟩,
  ⟨(some 7), .call (.func 129) [(.tmp 6)], none⟩,
  ⟨(some 8), .un .not (.tmp 7), none⟩])
 (.cond (.tmp 8) (.seq (.reg [⟨(some 4), .mv (.const (.bool false)), none⟩,
  ⟨(some 5), .mv (.const (.bool false)), none⟩])
 (.ret)) (.skip)))
 (.seq (.reg [⟨(some 9), .ld (some 4) (.tmp 2), none⟩,
  ⟨(some 10), .mv (.tmp 1), none⟩,
  ⟨(some 11), .call (.func 170) [(.tmp 9), (.tmp 10)], none⟩,
  ⟨(some 4), .mv (.tmp 11), none⟩,
  ⟨(some 5), .mv (.const (.bool true)), none⟩])
 (.ret)))
def r_spec_IsPlan : List ARes := [.tmp 4, .tmp 5]
theorem ok_spec_IsPlan : FnOk Try.prog 61 12 c_spec_IsPlan r_spec_IsPlan := ⟨⟨Try.f61, _, Try.func61, by kernel_rfl, rfl, rfl, by kernel_rfl, by kernel_rfl⟩⟩
def c_spec_StocksOf : ACode := .seq (.reg [⟨(some 2), .box 26 (.tmp 0), none⟩,
  ⟨(some 4), .mv (.const (.slice none 0 0)), none⟩,
  ⟨(some 5), .mv (.const (.bool false)), none⟩])
 (.seq (.seq (.reg [⟨(some 6), .ld (some 4) (.tmp 2), none⟩,
  ⟨(some 7), .mv (.tmp 1), none⟩,
  ⟨(some 8), .call (.func 154) [(.tmp 6), (.tmp 7)], none⟩,
  ⟨(some 9), .un .not (.tmp 8), none⟩])
 (.cond (.tmp 9) (.seq (.reg [⟨(some 10), .bsl 3 1 0 [] [], none⟩,
  ⟨(some 4), .mv (.tmp 10), none⟩,
  ⟨(some 5), .mv (.const (.bool false)), none⟩])
 (.ret)) (.skip)))
 (.seq (.reg [⟨(some 11), .ld (some 4) (.tmp 2), none⟩,
  ⟨(some 12), .mv (.tmp 1), none⟩,
  ⟨(some 13), .call (.func 174) [(.tmp 11), (.tmp 12)], none⟩,
  ⟨(some 4), .mv (.tmp 13), none⟩,
  ⟨(some 5), .mv (.const (.bool true)), none⟩])
 (.ret)))
def r_spec_StocksOf : List ARes := [.tmp 4, .tmp 5]
theorem ok_spec_StocksOf : FnOk Try.prog 64 14 c_spec_StocksOf r_spec_StocksOf := ⟨⟨Try.f64, _, Try.func64, by kernel_rfl, rfl, rfl, by kernel_rfl, by kernel_rfl⟩⟩
def c_spec_CostParts : ACode := .seq (.reg [⟨(some 2), .box 26 (.tmp 0), none⟩,
  ⟨(some 4), .mv (.const (.int .i64 0)), none⟩,
  ⟨(some 5), .mv (.const (.int .i64 0)), none⟩,
  ⟨(some 6), .mv (.const (.int .i64 0)), none⟩,
  ⟨(some 7), .mv (.const (.bool false)), none⟩])
 (.seq (.seq (.reg [⟨(some 9), .ld (some 4) (.tmp 2), none⟩,
  ⟨(some 10), .mv (.tmp 1), none⟩,
  ⟨(some 11), .call (.func 154) [(.tmp 9), (.tmp 10)], none⟩,
  ⟨(some 12), .un .not (.tmp 11), none⟩])
 (.cond (.tmp 12) (.seq (.reg [⟨(some 4), .mv (.const (.int .i64 0)), none⟩,
  ⟨(some 5), .mv (.const (.int .i64 0)), none⟩,
  ⟨(some 6), .mv (.const (.int .i64 0)), none⟩,
  ⟨(some 7), .mv (.const (.bool false)), none⟩])
 (.ret)) (.skip)))
 (.seq (.reg [⟨(some 13), .ld (some 4) (.tmp 2), none⟩,
  ⟨(some 14), .mv (.tmp 1), none⟩,
  ⟨(some 15), .call (.func 175) [(.tmp 13), (.tmp 14)], none⟩,
  ⟨(some 8), .alc 104 [(.int .i64 0), (.int .i64 0), (.int .i64 0)], none⟩,
  ⟨none, .st 3 (.tmp 8) (.tmp 15), none⟩])
 (.seq (.reg [⟨(some 16), .iada 1 3 (.tmp 8) (.const (.int .i64 0)), none⟩,
  ⟨(some 17), .ld none (.tmp 16), none⟩,
  ⟨(some 18), .iada 1 3 (.tmp 8) (.const (.int .i64 1)), none⟩,
  ⟨(some 19), .ld none (.tmp 18), none⟩,
  ⟨(some 20), .iada 1 3 (.tmp 8) (.const (.int .i64 2)), none⟩,
  ⟨(some 21), .ld none (.tmp 20), none⟩,
  ⟨(some 4), .mv (.tmp 17), none⟩,
  ⟨(some 5), .mv (.tmp 19), none⟩,
  ⟨(some 6), .mv (.tmp 21), none⟩,
  ⟨(some 7), .mv (.const (.bool true)), none⟩])
 (.ret))))
def r_spec_CostParts : List ARes := [.tmp 4, .tmp 5, .tmp 6, .tmp 7]
theorem ok_spec_CostParts : FnOk Try.prog 67 22 c_spec_CostParts r_spec_CostParts := ⟨⟨Try.f67, _, Try.func67, by kernel_rfl, rfl, rfl, by kernel_rfl, by kernel_rfl⟩⟩
def c_spec_EmptyPeriods : ACode := .seq (.reg [⟨(some 2), .box 26 (.tmp 0), none⟩,
  ⟨(some 4), .mv (.const (.slice none 0 0)), none⟩,
  ⟨(some 5), .mv (.const (.bool false)), none⟩])
 (.seq (.reg [⟨(some 9), .bsl 3 1 0 [] [], none⟩,
  ⟨(some 6), .mv (.tmp 9), none⟩])
 (.seq (.seq (.reg [⟨(some 10), .ld (some 4) (.tmp 2), none⟩,
  ⟨(some 11), .mv (.tmp 1), none⟩,
  ⟨(some 12), .call (.func 154) [(.tmp 10), (.tmp 11)], none⟩,
  ⟨(some 13), .un .not (.tmp 12), none⟩])
 (.cond (.tmp 13) (.seq (.reg [⟨(some 14), .mv (.tmp 6), none⟩,
  ⟨(some 4), .mv (.tmp 14), none⟩,
  ⟨(some 5), .mv (.const (.bool false)), none⟩])
 (.ret)) (.skip)))
 (.seq (.reg [⟨(some 15), .ld (some 4) (.tmp 2), none⟩,
  ⟨(some 16), .mv (.tmp 1), none⟩,
  ⟨(some 17), .call (.func 174) [(.tmp 15), (.tmp 16)], none⟩,
  ⟨(some 7), .mv (.tmp 17), none⟩])
 (.seq (.seq (.reg [⟨(some 8), .mv (.const (.int .i64 0)), none⟩])
 (.block 0 (.loop (.seq (.seq (.reg [⟨(some 18), .mv (.tmp 8), none⟩,
  ⟨(some 19), .mv (.tmp 7), none⟩,
  ⟨(some 20), .len (.tmp 19), none⟩,
  ⟨(some 21), .bin .lss (.tmp 18) (.tmp 20), none⟩])
 (.cond (.tmp 21) (.skip) (.exit 0)))
 (.seq (.block 1 (.seq (.reg [⟨(some 24), .mv (.tmp 7), none⟩,
  ⟨(some 25), .mv (.tmp 8), none⟩,
  ⟨(some 26), .iad 1 (.tmp 24) (.tmp 25), none⟩,
  ⟨(some 27), .ld none (.tmp 26), none⟩,
  ⟨(some 28), .bin .eql (.tmp 27) (.const (.int .i64 0)), none⟩])
 (.cond (.tmp 28) (.reg [⟨(some 29), .mv (.tmp 6), none⟩,
  ⟨(some 30), .mv (.tmp 8), none⟩,
  ⟨(some 31), .bsl 3 1 1 [(.int .i64 0)] [(0, 1, (.tmp 30))], none⟩,
  ⟨(some 32), .app 3 1 8 (.tmp 29) (.tmp 31), none⟩,
  ⟨(some 6), .mv (.tmp 32), none⟩]) (.skip))))
 (.reg [⟨(some 22), .mv (.tmp 8), none⟩,
  ⟨(some 23), .bin .add (.tmp 22) (.const (.int .i64 1)), none⟩,
  ⟨(some 8), .mv (.tmp 23), none⟩]))))))
 (.seq (.reg [⟨(some 33), .mv (.tmp 6), none⟩,
  ⟨(some 4), .mv (.tmp 33), none⟩,
  ⟨(some 5), .mv (.const (.bool true)), none⟩])
 (.ret))))))
def r_spec_EmptyPeriods : List ARes := [.tmp 4, .tmp 5]
theorem ok_spec_EmptyPeriods : FnOk Try.prog 69 34 c_spec_EmptyPeriods r_spec_EmptyPeriods := ⟨⟨Try.f69, _, Try.func69, by kernel_rfl, rfl, rfl, by kernel_rfl, by kernel_rfl⟩⟩
def c_spec_OrderPeriods : ACode := .seq (.reg [⟨(some 2), .box 26 (.tmp 0), none⟩,
  ⟨(some 4), .mv (.const (.slice none 0 0)), none⟩,
  ⟨(some 5), .mv (.const (.bool false)), none⟩])
 (.seq (.reg [⟨(some 8), .bsl 3 1 0 [] [], none⟩,
  ⟨(some 6), .mv (.tmp 8), none⟩])
 (.seq (.seq (.reg [⟨(some 9), .ld (some 4) (.tmp 2), none⟩,
  ⟨(some 10), .mv (.tmp 1), none⟩,
  ⟨(some 11), .call (.func 154) [(.tmp 9), (.tmp 10)], none⟩,
  ⟨(some 12), .un .not (.tmp 11), none⟩])
 (.cond (.tmp 12) (.seq (.reg [⟨(some 13), .mv (.tmp 6), none⟩,
  ⟨(some 4), .mv (.tmp 13), none⟩,
  ⟨(some 5), .mv (.const (.bool false)), none⟩])
 (.ret)) (.skip)))
 (.seq (.seq (.reg [⟨(some 7), .mv (.const (.int .i64 0)), none⟩])
 (.block 0 (.loop (.seq (.seq (.reg [⟨(some 14), .mv (.tmp 7), none⟩,
  ⟨(some 15), .mv (.tmp 1), none⟩,
  ⟨(some 16), .len (.tmp 15), none⟩,
  ⟨(some 17), .bin .lss (.tmp 14) (.tmp 16), none⟩])
 (.cond (.tmp 17) (.skip) (.exit 0)))
 (.seq (.block 1 (.seq (.reg [⟨(some 20), .mv (.tmp 1), none⟩,
  ⟨(some 21), .mv (.tmp 7), none⟩,
  ⟨(some 22), .iad 1 (.tmp 20) (.tmp 21), none⟩,
  ⟨(some 23), .ld none (.tmp 22), none⟩,
  ⟨(some 24), .bin .gtr (.tmp 23) (.const (.int .i64 0)), none⟩])
 (.cond (.tmp 24) (.reg [⟨(some 25), .mv (.tmp 6), none⟩,
  ⟨(some 26), .mv (.tmp 7), none⟩,
  ⟨(some 27), .bsl 3 1 1 [(.int .i64 0)] [(0, 1, (.tmp 26))], none⟩,
  ⟨(some 28), .app 3 1 8 (.tmp 25) (.tmp 27), none⟩,
  ⟨(some 6), .mv (.tmp 28), none⟩]) (.skip))))
 (.reg [⟨(some 18), .mv (.tmp 7), none⟩,
  ⟨(some 19), .bin .add (.tmp 18) (.const (.int .i64 1)), none⟩,
  ⟨(some 7), .mv (.tmp 19), none⟩]))))))
 (.seq (.reg [⟨(some 29), .mv (.tmp 6), none⟩,
  ⟨(some 4), .mv (.tmp 29), none⟩,
  ⟨(some 5), .mv (.const (.bool true)), none⟩])
 (.ret)))))
def r_spec_OrderPeriods : List ARes := [.tmp 4, .tmp 5]
theorem ok_spec_OrderPeriods : FnOk Try.prog 71 30 c_spec_OrderPeriods r_spec_OrderPeriods := ⟨⟨Try.f71, _, Try.func71, by kernel_rfl, rfl, rfl, by kernel_rfl, by kernel_rfl⟩⟩
def c_spec_SmoothPlan : ACode := .seq (.reg [⟨(some 2), .box 26 (.tmp 0), none⟩,
  ⟨(some 4), .mv (.const (.slice none 0 0)), none⟩,
  ⟨(some 5), .mv (.const (.bool false)), none⟩])
 (.seq (.seq (.reg [⟨(some 8), .ld (some 4) (.tmp 2), none⟩,
  ⟨(some 9), .mv (.tmp 1), none⟩,
  ⟨(some 10), .call (.func 154) [(.tmp 8), (.tmp 9)], none⟩,
  ⟨(some 11), .un .not (.tmp 10), none⟩])
 (.cond (.tmp 11) (.seq (.reg [⟨(some 12), .bsl 3 1 0 [] [], none⟩,
  ⟨(some 4), .mv (.tmp 12), none⟩,
  ⟨(some 5), .mv (.const (.bool false)), none⟩])
 (.ret)) (.skip)))
 (.seq (.reg [⟨(some 13), .mv (.tmp 1), none⟩,
  ⟨(some 14), .call (.func 179) [(.tmp 13)], none⟩,
  ⟨(some 6), .mv (.tmp 14), none⟩])
 (.seq (.seq (.reg [⟨(some 15), .ld (some 4) (.tmp 2), none⟩,
  ⟨(some 16), .mv (.tmp 6), none⟩,
  ⟨(some 17), .call (.func 180) [(.tmp 15), (.tmp 16)], none⟩,
  ⟨(some 7), .mv (.tmp 17), none⟩])
 (.block 0 (.loop (.seq (.seq (.reg [⟨(some 18), .mv (.tmp 7), none⟩,
  ⟨(some 19), .bin .geq (.tmp 18) (.const (.int .i64 0)), none⟩])
 (.cond (.tmp 19) (.skip) (.exit 0)))
 (.seq (.block 1 (.reg [⟨(some 23), .ld (some 4) (.tmp 2), none⟩,
  ⟨(some 24), .mv (.tmp 6), none⟩,
  ⟨(some 25), .mv (.tmp 7), none⟩,
  ⟨(some 26), .call (.func 181) [(.tmp 23), (.tmp 24), (.tmp 25)], none⟩,
  ⟨(some 6), .mv (.tmp 26), none⟩]))
 (.reg [⟨(some 20), .ld (some 4) (.tmp 2), none⟩,
  ⟨(some 21), .mv (.tmp 6), none⟩,
  ⟨(some 22), .call (.func 180) [(.tmp 20), (.tmp 21)], none⟩,
  ⟨(some 7), .mv (.tmp 22), none⟩]))))))
 (.seq (.reg [⟨(some 27), .mv (.tmp 6), none⟩,
  ⟨(some 4), .mv (.tmp 27), none⟩,
  ⟨(some 5), .mv (.const (.bool true)), none⟩])
 (.ret)))))
def r_spec_SmoothPlan : List ARes := [.tmp 4, .tmp 5]
theorem ok_spec_SmoothPlan : FnOk Try.prog 75 28 c_spec_SmoothPlan r_spec_SmoothPlan := ⟨⟨Try.f75, _, Try.func75, by kernel_rfl, rfl, rfl, by kernel_rfl, by kernel_rfl⟩⟩
def c_spec_BestPeriods : ACode := .seq (.reg [⟨(some 1), .box 26 (.tmp 0), none⟩,
  ⟨(some 2), .mv (.const (.slice none 0 0)), none⟩,
  ⟨(some 3), .mv (.const (.bool false)), none⟩])
 (.seq (.seq (.reg [⟨(some 4), .ld (some 4) (.tmp 1), none⟩,
  ⟨(some 5), .call (.func 129) [(.tmp 4)], none⟩,
  ⟨(some 6), .un .not (.tmp 5), none⟩])
 (.cond (.tmp 6) (.seq (.reg [⟨(some 7), .bsl 3 1 0 [] [], none⟩,
  ⟨(some 2), .mv (.tmp 7), none⟩,
  ⟨(some 3), .mv (.const (.bool false)), none⟩])
 (.ret)) (.skip)))
 (.seq (.reg [⟨(some 8), .ld (some 4) (.tmp 1), none⟩,
  ⟨(some 9), .call (.func 151) [(.tmp 8)], none⟩,
  ⟨(some 2), .mv (.tmp 9), none⟩,
  ⟨(some 3), .mv (.const (.bool true)), none⟩])
 (.ret)))
def r_spec_BestPeriods : List ARes := [.tmp 2, .tmp 3]
theorem ok_spec_BestPeriods : FnOk Try.prog 77 10 c_spec_BestPeriods r_spec_BestPeriods := ⟨⟨Try.f77, _, Try.func77, by kernel_rfl, rfl, rfl, by kernel_rfl, by kernel_rfl⟩⟩
def c_spec_BestCost : ACode := .seq (.reg [⟨(some 1), .box 26 (.tmp 0), none⟩,
  ⟨(some 2), .mv (.const (.int .i64 0)), none⟩,
  ⟨(some 3), .mv (.const (.bool false)), none⟩])
 (.seq (.seq (.reg [⟨(some 4), .ld (some 4) (.tmp 1), none⟩,
  ⟨(some 5), .call (.func 129) [(.tmp 4)], none⟩,
  ⟨(some 6), .un .not (.tmp 5), none⟩])
 (.cond (.tmp 6) (.seq (.reg [⟨(some 2), .mv (.const (.int .i64 0)), none⟩,
  ⟨(some 3), .mv (.const (.bool false)), none⟩])
 (.ret)) (.skip)))
 (.seq (.reg [⟨(some 7), .ld (some 4) (.tmp 1), none⟩,
  ⟨(some 8), .call (.func 182) [(.tmp 7)], none⟩,
  ⟨(some 2), .mv (.tmp 8), none⟩,
  ⟨(some 3), .mv (.const (.bool true)), none⟩])
 (.ret)))
def r_spec_BestCost : List ARes := [.tmp 2, .tmp 3]
theorem ok_spec_BestCost : FnOk Try.prog 78 9 c_spec_BestCost r_spec_BestCost := ⟨⟨Try.f78, _, Try.func78, by kernel_rfl, rfl, rfl, by kernel_rfl, by kernel_rfl⟩⟩
def c_spec_OrdersAtEmpty : ACode := .seq (.reg [⟨(some 2), .box 26 (.tmp 0), none⟩,
  ⟨(some 4), .mv (.const (.bool false)), none⟩,
  ⟨(some 5), .mv (.const (.bool false)), none⟩])
 (.seq (.seq (.reg [⟨(some 6), .ld (some 4) (.tmp 2), none⟩,
  ⟨(some 7), .mv (.tmp 1), none⟩,
  ⟨(some 8), .call (.func 154) [(.tmp 6), (.tmp 7)], none⟩,
  ⟨(some 9), .un .not (.tmp 8), none⟩])
 (.cond (.tmp 9) (.seq (.reg [⟨(some 4), .mv (.const (.bool false)), none⟩,
  ⟨(some 5), .mv (.const (.bool false)), none⟩])
 (.ret)) (.skip)))
 (.seq (.reg [⟨(some 10), .ld (some 4) (.tmp 2), none⟩,
  ⟨(some 11), .mv (.tmp 1), none⟩,
  ⟨(some 12), .call (.func 180) [(.tmp 10), (.tmp 11)], none⟩,
  ⟨(some 13), .bin .lss (.tmp 12) (.const (.int .i64 0)), none⟩,
  ⟨(some 4), .mv (.tmp 13), none⟩,
  ⟨(some 5), .mv (.const (.bool true)), none⟩])
 (.ret)))
def r_spec_OrdersAtEmpty : List ARes := [.tmp 4, .tmp 5]
theorem ok_spec_OrdersAtEmpty : FnOk Try.prog 80 14 c_spec_OrdersAtEmpty r_spec_OrdersAtEmpty := ⟨⟨Try.f80, _, Try.func80, by kernel_rfl, rfl, rfl, by kernel_rfl, by kernel_rfl⟩⟩
def c_spec_FirstShort : ACode := .seq (.reg [⟨(some 2), .box 26 (.tmp 0), none⟩,
  ⟨(some 4), .mv (.const (.int .i64 0)), none⟩,
  ⟨(some 5), .mv (.const (.int .i64 0)), none⟩,
  ⟨(some 6), .mv (.const (.bool false)), none⟩])
 (.seq (.seq (.reg [⟨(some 9), .ld (some 4) (.tmp 2), none⟩,
  ⟨(some 10), .mv (.tmp 1), none⟩,
  ⟨(some 11), .call (.func 195) [(.tmp 9), (.tmp 10)], none⟩,
  ⟨(some 12), .un .not (.tmp 11), none⟩])
 (.cond (.tmp 12) (.seq (.reg [⟨(some 4), .mv (.const (.int .i64 0)), none⟩,
  ⟨(some 5), .mv (.const (.int .i64 0)), none⟩,
  ⟨(some 6), .mv (.const (.bool false)), none⟩])
 (.ret)) (.skip)))
 (.seq (.reg [⟨(some 14), .ld (some 4) (.tmp 2), none⟩,
  ⟨(some 15), .mv (.tmp 1), none⟩,
  ⟨(some 16), .call (.func 196) [(.tmp 14), (.tmp 15)], none⟩,
  ⟨(some 13), .mv (.tmp 16), none⟩,
  ⟨(some 17), .ext 0 (.tmp 13), none⟩,
  ⟨(some 18), .ext 1 (.tmp 13), none⟩,
  ⟨(some 7), .mv (.tmp 17), none⟩,
  ⟨(some 8), .mv (.tmp 18), none⟩])
 (.seq (.seq (.reg [⟨(some 19), .mv (.tmp 7), none⟩,
  ⟨(some 20), .bin .lss (.tmp 19) (.const (.int .i64 0)), none⟩])
 (.cond (.tmp 20) (.seq (.reg [⟨(some 4), .mv (.const (.int .i64 0)), none⟩,
  ⟨(some 5), .mv (.const (.int .i64 0)), none⟩,
  ⟨(some 6), .mv (.const (.bool false)), none⟩])
 (.ret)) (.skip)))
 (.seq (.reg [⟨(some 21), .mv (.tmp 7), none⟩,
  ⟨(some 22), .mv (.tmp 8), none⟩,
  ⟨(some 4), .mv (.tmp 21), none⟩,
  ⟨(some 5), .mv (.tmp 22), none⟩,
  ⟨(some 6), .mv (.const (.bool true)), none⟩])
 (.ret)))))
def r_spec_FirstShort : List ARes := [.tmp 4, .tmp 5, .tmp 6]
theorem ok_spec_FirstShort : FnOk Try.prog 92 23 c_spec_FirstShort r_spec_FirstShort := ⟨⟨Try.f92, _, Try.func92, by kernel_rfl, rfl, rfl, by kernel_rfl, by kernel_rfl⟩⟩
def c_spec_CanMeet : ACode := .seq (.reg [⟨(some 2), .box 26 (.tmp 0), none⟩,
  ⟨(some 4), .mv (.const (.bool false)), none⟩,
  ⟨(some 5), .mv (.const (.bool false)), none⟩])
 (.seq (.seq (.reg [⟨(some 8), .ld (some 4) (.tmp 2), none⟩,
  ⟨(some 9), .mv (.tmp 1), none⟩,
  ⟨(some 10), .call (.func 195) [(.tmp 8), (.tmp 9)], none⟩,
  ⟨(some 11), .un .not (.tmp 10), none⟩])
 (.cond (.tmp 11) (.seq (.reg [⟨(some 4), .mv (.const (.bool false)), none⟩,
  ⟨(some 5), .mv (.const (.bool false)), none⟩])
 (.ret)) (.skip)))
 (.seq (.reg [⟨(some 13), .ld (some 4) (.tmp 2), none⟩,
  ⟨(some 14), .mv (.tmp 1), none⟩,
  ⟨(some 15), .call (.func 196) [(.tmp 13), (.tmp 14)], none⟩,
  ⟨(some 12), .mv (.tmp 15), none⟩,
  ⟨(some 16), .ext 0 (.tmp 12), none⟩,
  ⟨(some 17), .ext 1 (.tmp 12), none⟩,
  ⟨(some 6), .mv (.tmp 16), none⟩,
  ⟨(some 7), .mv (.tmp 17), none⟩])
 (.seq (.reg [⟨(some 18), .mv (.tmp 6), none⟩,
  ⟨(some 19), .bin .lss (.tmp 18) (.const (.int .i64 0)), none⟩,
  ⟨(some 4), .mv (.tmp 19), none⟩,
  ⟨(some 5), .mv (.const (.bool true)), none⟩])
 (.ret))))
def r_spec_CanMeet : List ARes := [.tmp 4, .tmp 5]
theorem ok_spec_CanMeet : FnOk Try.prog 94 20 c_spec_CanMeet r_spec_CanMeet := ⟨⟨Try.f94, _, Try.func94, by kernel_rfl, rfl, rfl, by kernel_rfl, by kernel_rfl⟩⟩
def c_spec_IsRegular : ACode := .seq (.reg [⟨(some 3), .box 26 (.tmp 0), none⟩,
  ⟨(some 6), .mv (.const (.bool false)), none⟩,
  ⟨(some 7), .mv (.const (.bool false)), none⟩])
 (.seq (.seq (.reg [⟨(some 8), .ld (some 4) (.tmp 3), none⟩,
  ⟨(some 9), .mv (.tmp 1), none⟩,
  ⟨(some 10), .mv (.tmp 2), none⟩,
  ⟨(some 11), .call (.func 200) [(.tmp 8), (.tmp 9), (.tmp 10)], none⟩,
  ⟨(some 12), .un .not (.tmp 11), none⟩])
 (.cond (.tmp 12) (.seq (.reg [⟨(some 6), .mv (.const (.bool false)), none⟩,
  ⟨(some 7), .mv (.const (.bool false)), none⟩])
 (.ret)) (.skip)))
 (.seq (.reg [⟨(some 13), .ld (some 4) (.tmp 3), none⟩,
  ⟨(some 14), .mv (.tmp 1), none⟩,
  ⟨(some 15), .mv (.tmp 2), none⟩,
  ⟨(some 16), .call (.func 201) [(.tmp 13), (.tmp 14), (.tmp 15)], none⟩,
  ⟨(some 6), .mv (.tmp 16), none⟩,
  ⟨(some 7), .mv (.const (.bool true)), none⟩])
 (.ret)))
def r_spec_IsRegular : List ARes := [.tmp 6, .tmp 7]
theorem ok_spec_IsRegular : FnOk Try.prog 101 17 c_spec_IsRegular r_spec_IsRegular := ⟨⟨Try.f101, _, Try.func101, by kernel_rfl, rfl, rfl, by kernel_rfl, by kernel_rfl⟩⟩
def c_spec_KeepsLimits : ACode := .seq (.reg [⟨(some 3), .box 26 (.tmp 0), none⟩,
  ⟨(some 6), .mv (.const (.bool false)), none⟩,
  ⟨(some 7), .mv (.const (.bool false)), none⟩])
 (.seq (.seq (.reg [⟨(some 8), .ld (some 4) (.tmp 3), none⟩,
  ⟨(some 9), .mv (.tmp 1), none⟩,
  ⟨(some 10), .call (.func 195) [(.tmp 8), (.tmp 9)], none⟩,
  ⟨(some 11), .un .not (.tmp 10), none⟩,
  ⟨(some 12), .mv (.tmp 11), none⟩,
  ⟨(some 13), .ld (some 4) (.tmp 3), (some (12, false))⟩,
  ⟨(some 14), .mv (.tmp 2), (some (12, false))⟩,
  ⟨(some 15), .call (.func 170) [(.tmp 13), (.tmp 14)], (some (12, false))⟩,
  ⟨(some 16), .un .not (.tmp 15), (some (12, false))⟩,
  ⟨(some 17), .pick (.tmp 12) (.const (.bool true)) (.tmp 16), none⟩])
 (.cond (.tmp 17) (.seq (.reg [⟨(some 6), .mv (.const (.bool false)), none⟩,
  ⟨(some 7), .mv (.const (.bool false)), none⟩])
 (.ret)) (.skip)))
 (.seq (.reg [⟨(some 18), .mv (.tmp 1), none⟩,
  ⟨(some 19), .mv (.tmp 2), none⟩,
  ⟨(some 20), .call (.func 202) [(.tmp 18), (.tmp 19)], none⟩,
  ⟨(some 6), .mv (.tmp 20), none⟩,
  ⟨(some 7), .mv (.const (.bool true)), none⟩])
 (.ret)))
def r_spec_KeepsLimits : List ARes := [.tmp 6, .tmp 7]
theorem ok_spec_KeepsLimits : FnOk Try.prog 102 21 c_spec_KeepsLimits r_spec_KeepsLimits := ⟨⟨Try.f102, _, Try.func102, by kernel_rfl, rfl, rfl, by kernel_rfl, by kernel_rfl⟩⟩
def c_spec_PartialPeriods : ACode := .seq (.reg [⟨(some 3), .box 26 (.tmp 0), none⟩,
  ⟨(some 6), .mv (.const (.slice none 0 0)), none⟩,
  ⟨(some 7), .mv (.const (.bool false)), none⟩])
 (.seq (.seq (.reg [⟨(some 8), .ld (some 4) (.tmp 3), none⟩,
  ⟨(some 9), .mv (.tmp 1), none⟩,
  ⟨(some 10), .mv (.tmp 2), none⟩,
  ⟨(some 11), .call (.func 200) [(.tmp 8), (.tmp 9), (.tmp 10)], none⟩,
  ⟨(some 12), .un .not (.tmp 11), none⟩])
 (.cond (.tmp 12) (.seq (.reg [⟨(some 13), .bsl 3 1 0 [] [], none⟩,
  ⟨(some 6), .mv (.tmp 13), none⟩,
  ⟨(some 7), .mv (.const (.bool false)), none⟩])
 (.ret)) (.skip)))
 (.seq (.reg [⟨(some 14), .mv (.tmp 1), none⟩,
  ⟨(some 15), .mv (.tmp 2), none⟩,
  ⟨(some 16), .call (.func 204) [(.tmp 14), (.tmp 15)], none⟩,
  ⟨(some 6), .mv (.tmp 16), none⟩,
  ⟨(some 7), .mv (.const (.bool true)), none⟩])
 (.ret)))
def r_spec_PartialPeriods : List ARes := [.tmp 6, .tmp 7]
theorem ok_spec_PartialPeriods : FnOk Try.prog 104 17 c_spec_PartialPeriods r_spec_PartialPeriods := ⟨⟨Try.f104, _, Try.func104, by kernel_rfl, rfl, rfl, by kernel_rfl, by kernel_rfl⟩⟩
def c_spec_RegularPlan : ACode := .seq (.reg [⟨(some 2), .box 26 (.tmp 0), none⟩,
  ⟨(some 4), .mv (.const (.slice none 0 0)), none⟩,
  ⟨(some 5), .mv (.const (.bool false)), none⟩])
 (.seq (.reg [⟨(some 14), .bsl 3 1 0 [] [], none⟩,
  ⟨(some 6), .mv (.tmp 14), none⟩,
  ⟨(some 7), .mv (.const (.int .i64 0)), none⟩,
  ⟨(some 8), .mv (.const (.bool false)), none⟩])
 (.seq (.seq (.reg [⟨(some 15), .ld (some 4) (.tmp 2), none⟩,
  ⟨(some 16), .mv (.tmp 1), none⟩,
  ⟨(some 17), .call (.func 189) [(.tmp 15), (.tmp 16)], none⟩,
  ⟨(some 18), .un .not (.tmp 17), none⟩])
 (.cond (.tmp 18) (.seq (.reg [⟨(some 19), .mv (.tmp 6), none⟩,
  ⟨(some 4), .mv (.tmp 19), none⟩,
  ⟨(some 5), .mv (.const (.bool false)), none⟩])
 (.ret)) (.skip)))
 (.seq (.reg [⟨(some 20), .ld (some 4) (.tmp 2), none⟩,
  ⟨(some 21), .mv (.tmp 1), none⟩,
  ⟨(some 22), .call (.func 205) [(.tmp 20), (.tmp 21)], none⟩,
  ⟨(some 9), .mv (.tmp 22), none⟩])
 (.seq (.seq (.reg [⟨(some 10), .mv (.const (.int .i64 0)), none⟩])
 (.block 0 (.loop (.seq (.seq (.reg [⟨(some 23), .mv (.tmp 10), none⟩,
  ⟨(some 24), .fad 0 (.tmp 2), none⟩,
  ⟨(some 25), .ld none (.tmp 24), none⟩,
  ⟨(some 26), .len (.tmp 25), none⟩,
  ⟨(some 27), .bin .lss (.tmp 23) (.tmp 26), none⟩])
 (.cond (.tmp 27) (.skip) (.exit 0)))
 (.seq (.block 1 (.seq (.reg [⟨(some 30), .fad 0 (.tmp 2), none⟩,
  ⟨(some 31), .ld none (.tmp 30), none⟩,
  ⟨(some 32), .mv (.tmp 10), none⟩,
  ⟨(some 33), .iad 1 (.tmp 31) (.tmp 32), none⟩,
  ⟨(some 34), .ld none (.tmp 33), none⟩,
  ⟨(some 35), .mv (.tmp 7), none⟩,
  ⟨(some 36), .bin .sub (.tmp 34) (.tmp 35), none⟩,
  ⟨(some 37), .call (.func 206) [(.tmp 36), (.const (.int .i64 0))], none⟩,
  ⟨(some 11), .mv (.tmp 37), none⟩])
 (.seq (.block 2 (.loop (.block 3 (.seq (.reg [⟨(some 38), .mv (.tmp 7), none⟩,
  ⟨(some 39), .mv (.tmp 11), none⟩,
  ⟨(some 40), .bin .add (.tmp 38) (.tmp 39), none⟩,
  ⟨(some 41), .fad 0 (.tmp 2), none⟩,
  ⟨(some 42), .ld none (.tmp 41), none⟩,
  ⟨(some 43), .mv (.tmp 10), none⟩,
  ⟨(some 44), .iad 1 (.tmp 42) (.tmp 43), none⟩,
  ⟨(some 45), .ld none (.tmp 44), none⟩,
  ⟨(some 46), .bin .sub (.tmp 40) (.tmp 45), none⟩,
  ⟨(some 12), .mv (.tmp 46), none⟩])
 (.seq (.reg [⟨(some 47), .mv (.tmp 1), none⟩,
  ⟨(some 48), .mv (.tmp 9), none⟩,
  ⟨(some 49), .mv (.tmp 10), none⟩,
  ⟨(some 50), .bin .add (.tmp 49) (.const (.int .i64 1)), none⟩,
  ⟨(some 51), .iad 1 (.tmp 48) (.tmp 50), none⟩,
  ⟨(some 52), .ld none (.tmp 51), none⟩,
  ⟨(some 53), .mv (.tmp 10), none⟩,
  ⟨(some 54), .mv (.tmp 11), none⟩,
  ⟨(some 55), .mv (.tmp 12), none⟩,
  ⟨(some 56), .mv (.tmp 8), none⟩,
  ⟨(some 57), .call (.func 207) [(.tmp 47), (.tmp 52), (.tmp 53), (.tmp 54), (.tmp 55), (.tmp 56)], none⟩,
  ⟨(some 13), .mv (.tmp 57), none⟩])
 (.seq (.seq (.reg [⟨(some 58), .mv (.tmp 13), none⟩,
  ⟨(some 59), .bin .geq (.tmp 58) (.const (.int .i64 0)), none⟩,
  ⟨(some 60), .mv (.tmp 59), none⟩,
  ⟨(some 61), .ld (some 4) (.tmp 2), (some (60, true))⟩,
  ⟨(some 62), .mv (.tmp 10), (some (60, true))⟩,
  ⟨(some 63), .mv (.tmp 11), (some (60, true))⟩,
  ⟨(some 64), .mv (.tmp 12), (some (60, true))⟩,
  ⟨(some 66), .mv (.tmp 13), (some (60, true))⟩,
  ⟨(some 68), .mv (.tmp 9), (some (60, true))⟩,
  ⟨(some 69), .mv (.tmp 10), (some (60, true))⟩,
  ⟨(some 70), .iad 1 (.tmp 68) (.tmp 69), (some (60, true))⟩,
  ⟨(some 71), .ld none (.tmp 70), (some (60, true))⟩,
  ⟨(some 72), .mv (.tmp 7), (some (60, true))⟩,
  ⟨(some 73), .iad 2 (.tmp 71) (.tmp 72), (some (60, true))⟩,
  ⟨(some 74), .ld (some 2) (.tmp 73), (some (60, true))⟩,
  ⟨(some 75), .mv (.tmp 8), (some (60, true))⟩,
  ⟨(some 65), .rcall (.func 208) [(.tmp 61), (.tmp 62), (.tmp 63), (.tmp 64)], (some (60, true))⟩,
  ⟨(some 67), .bin .add (.tmp 65) (.tmp 66), (some (60, true))⟩,
  ⟨(some 76), .rcall (.func 209) [(.tmp 74), (.tmp 75)], (some (60, true))⟩,
  ⟨(some 77), .bin .eql (.tmp 67) (.tmp 76), (some (60, true))⟩,
  ⟨(some 78), .pick (.tmp 60) (.tmp 77) (.const (.bool false)), none⟩])
 (.cond (.tmp 78) (.exit 2) (.skip)))
 (.reg [⟨(some 79), .mv (.tmp 11), none⟩,
  ⟨(some 80), .bin .add (.tmp 79) (.const (.int .i64 1)), none⟩,
  ⟨(some 11), .mv (.tmp 80), none⟩])))))))
 (.seq (.reg [⟨(some 81), .mv (.tmp 7), none⟩,
  ⟨(some 82), .mv (.tmp 11), none⟩,
  ⟨(some 83), .bin .add (.tmp 81) (.tmp 82), none⟩,
  ⟨(some 84), .fad 0 (.tmp 2), none⟩,
  ⟨(some 85), .ld none (.tmp 84), none⟩,
  ⟨(some 86), .mv (.tmp 10), none⟩,
  ⟨(some 87), .iad 1 (.tmp 85) (.tmp 86), none⟩,
  ⟨(some 88), .ld none (.tmp 87), none⟩,
  ⟨(some 89), .bin .sub (.tmp 83) (.tmp 88), none⟩,
  ⟨(some 7), .mv (.tmp 89), none⟩])
 (.seq (.reg [⟨(some 90), .mv (.tmp 7), none⟩,
  ⟨(some 91), .bin .gtr (.tmp 90) (.const (.int .i64 0)), none⟩,
  ⟨(some 92), .mv (.tmp 91), none⟩,
  ⟨(some 93), .mv (.tmp 8), (some (92, true))⟩,
  ⟨(some 94), .mv (.tmp 93), (some (92, true))⟩,
  ⟨(some 95), .mv (.tmp 11), (some (94, false))⟩,
  ⟨(some 96), .bin .gtr (.tmp 95) (.const (.int .i64 0)), (some (94, false))⟩,
  ⟨(some 97), .mv (.tmp 96), (some (94, false))⟩,
  ⟨(some 98), .mv (.tmp 11), (some (97, true))⟩,
  ⟨(some 99), .mv (.tmp 1), (some (97, true))⟩,
  ⟨(some 100), .mv (.tmp 10), (some (97, true))⟩,
  ⟨(some 101), .iad 1 (.tmp 99) (.tmp 100), (some (97, true))⟩,
  ⟨(some 102), .ld none (.tmp 101), (some (97, true))⟩,
  ⟨(some 103), .bin .lss (.tmp 98) (.tmp 102), (some (97, true))⟩,
  ⟨(some 104), .pick (.tmp 97) (.tmp 103) (.const (.bool false)), (some (94, false))⟩,
  ⟨(some 105), .pick (.tmp 94) (.const (.bool true)) (.tmp 104), (some (92, true))⟩,
  ⟨(some 106), .pick (.tmp 92) (.tmp 105) (.const (.bool false)), none⟩,
  ⟨(some 8), .mv (.tmp 106), none⟩])
 (.reg [⟨(some 107), .mv (.tmp 6), none⟩,
  ⟨(some 108), .mv (.tmp 11), none⟩,
  ⟨(some 109), .bsl 3 1 1 [(.int .i64 0)] [(0, 1, (.tmp 108))], none⟩,
  ⟨(some 110), .app 3 1 8 (.tmp 107) (.tmp 109), none⟩,
  ⟨(some 6), .mv (.tmp 110), none⟩]))))))
 (.reg [⟨(some 28), .mv (.tmp 10), none⟩,
  ⟨(some 29), .bin .add (.tmp 28) (.const (.int .i64 1)), none⟩,
  ⟨(some 10), .mv (.tmp 29), none⟩]))))))
 (.seq (.reg [⟨(some 111), .mv (.tmp 6), none⟩,
  ⟨(some 4), .mv (.tmp 111), none⟩,
  ⟨(some 5), .mv (.const (.bool true)), none⟩])
 (.ret))))))
def r_spec_RegularPlan : List ARes := [.tmp 4, .tmp 5]
theorem ok_spec_RegularPlan : FnOk Try.prog 107 112 c_spec_RegularPlan r_spec_RegularPlan := ⟨⟨Try.f107, _, Try.func107, by kernel_rfl, rfl, rfl, by kernel_rfl, by kernel_rfl⟩⟩
def c_spec_IsLatePlan : ACode := .seq (.reg [⟨(some 2), .box 26 (.tmp 0), none⟩,
  ⟨(some 4), .mv (.const (.bool false)), none⟩,
  ⟨(some 5), .mv (.const (.bool false)), none⟩])
 (.seq (.seq (.reg [⟨(some 6), .ld (some 4) (.tmp 2), none⟩,
  ⟨(some 7), .call (.func 129) [(.tmp 6)], none⟩,
  ⟨(some 8), .un .not (.tmp 7), none⟩])
 (.cond (.tmp 8) (.seq (.reg [⟨(some 4), .mv (.const (.bool false)), none⟩,
  ⟨(some 5), .mv (.const (.bool false)), none⟩])
 (.ret)) (.skip)))
 (.seq (.reg [⟨(some 9), .ld (some 4) (.tmp 2), none⟩,
  ⟨(some 10), .mv (.tmp 1), none⟩,
  ⟨(some 11), .call (.func 215) [(.tmp 9), (.tmp 10)], none⟩,
  ⟨(some 4), .mv (.tmp 11), none⟩,
  ⟨(some 5), .mv (.const (.bool true)), none⟩])
 (.ret)))
def r_spec_IsLatePlan : List ARes := [.tmp 4, .tmp 5]
theorem ok_spec_IsLatePlan : FnOk Try.prog 112 12 c_spec_IsLatePlan r_spec_IsLatePlan := ⟨⟨Try.f112, _, Try.func112, by kernel_rfl, rfl, rfl, by kernel_rfl, by kernel_rfl⟩⟩
def c_spec_OwedPeriods : ACode := .seq (.reg [⟨(some 2), .box 26 (.tmp 0), none⟩,
  ⟨(some 4), .mv (.const (.slice none 0 0)), none⟩,
  ⟨(some 5), .mv (.const (.bool false)), none⟩])
 (.seq (.reg [⟨(some 9), .bsl 3 1 0 [] [], none⟩,
  ⟨(some 6), .mv (.tmp 9), none⟩])
 (.seq (.seq (.reg [⟨(some 10), .ld (some 4) (.tmp 2), none⟩,
  ⟨(some 11), .call (.func 129) [(.tmp 10)], none⟩,
  ⟨(some 12), .un .not (.tmp 11), none⟩,
  ⟨(some 13), .mv (.tmp 12), none⟩,
  ⟨(some 14), .ld (some 4) (.tmp 2), (some (13, false))⟩,
  ⟨(some 15), .mv (.tmp 1), (some (13, false))⟩,
  ⟨(some 16), .call (.func 215) [(.tmp 14), (.tmp 15)], (some (13, false))⟩,
  ⟨(some 17), .un .not (.tmp 16), (some (13, false))⟩,
  ⟨(some 18), .pick (.tmp 13) (.const (.bool true)) (.tmp 17), none⟩])
 (.cond (.tmp 18) (.seq (.reg [⟨(some 19), .mv (.tmp 6), none⟩,
  ⟨(some 4), .mv (.tmp 19), none⟩,
  ⟨(some 5), .mv (.const (.bool false)), none⟩])
 (.ret)) (.skip)))
 (.seq (.reg [⟨(some 20), .ld (some 4) (.tmp 2), none⟩,
  ⟨(some 21), .mv (.tmp 1), none⟩,
  ⟨(some 22), .call (.func 174) [(.tmp 20), (.tmp 21)], none⟩,
  ⟨(some 7), .mv (.tmp 22), none⟩])
 (.seq (.seq (.reg [⟨(some 8), .mv (.const (.int .i64 0)), none⟩])
 (.block 0 (.loop (.seq (.seq (.reg [⟨(some 23), .mv (.tmp 8), none⟩,
  ⟨(some 24), .mv (.tmp 7), none⟩,
  ⟨(some 25), .len (.tmp 24), none⟩,
  ⟨(some 26), .bin .lss (.tmp 23) (.tmp 25), none⟩])
 (.cond (.tmp 26) (.skip) (.exit 0)))
 (.seq (.block 1 (.seq (.reg [⟨(some 29), .mv (.tmp 7), none⟩,
  ⟨(some 30), .mv (.tmp 8), none⟩,
  ⟨(some 31), .iad 1 (.tmp 29) (.tmp 30), none⟩,
  ⟨(some 32), .ld none (.tmp 31), none⟩,
  ⟨(some 33), .bin .lss (.tmp 32) (.const (.int .i64 0)), none⟩])
 (.cond (.tmp 33) (.reg [⟨(some 34), .mv (.tmp 6), none⟩,
  ⟨(some 35), .mv (.tmp 8), none⟩,
  ⟨(some 36), .bsl 3 1 1 [(.int .i64 0)] [(0, 1, (.tmp 35))], none⟩,
  ⟨(some 37), .app 3 1 8 (.tmp 34) (.tmp 36), none⟩,
  ⟨(some 6), .mv (.tmp 37), none⟩]) (.skip))))
 (.reg [⟨(some 27), .mv (.tmp 8), none⟩,
  ⟨(some 28), .bin .add (.tmp 27) (.const (.int .i64 1)), none⟩,
  ⟨(some 8), .mv (.tmp 28), none⟩]))))))
 (.seq (.reg [⟨(some 38), .mv (.tmp 6), none⟩,
  ⟨(some 4), .mv (.tmp 38), none⟩,
  ⟨(some 5), .mv (.const (.bool true)), none⟩])
 (.ret))))))
def r_spec_OwedPeriods : List ARes := [.tmp 4, .tmp 5]
theorem ok_spec_OwedPeriods : FnOk Try.prog 114 39 c_spec_OwedPeriods r_spec_OwedPeriods := ⟨⟨Try.f114, _, Try.func114, by kernel_rfl, rfl, rfl, by kernel_rfl, by kernel_rfl⟩⟩
def c_spec_BestLatePlan : ACode := .seq (.reg [⟨(some 2), .box 26 (.tmp 0), none⟩,
  ⟨(some 4), .mv (.const (.slice none 0 0)), none⟩,
  ⟨(some 5), .mv (.const (.bool false)), none⟩])
 (.seq (.reg [⟨(some 14), .bsl 3 1 0 [] [], none⟩,
  ⟨(some 6), .mv (.tmp 14), none⟩,
  ⟨(some 7), .mv (.const (.int .i64 0)), none⟩])
 (.seq (.seq (.reg [⟨(some 15), .ld (some 4) (.tmp 2), none⟩,
  ⟨(some 16), .mv (.tmp 1), none⟩,
  ⟨(some 17), .call (.func 214) [(.tmp 15), (.tmp 16)], none⟩,
  ⟨(some 18), .un .not (.tmp 17), none⟩])
 (.cond (.tmp 18) (.seq (.reg [⟨(some 19), .mv (.tmp 6), none⟩,
  ⟨(some 4), .mv (.tmp 19), none⟩,
  ⟨(some 5), .mv (.const (.bool false)), none⟩])
 (.ret)) (.skip)))
 (.seq (.reg [⟨(some 20), .ld (some 4) (.tmp 2), none⟩,
  ⟨(some 21), .mv (.tmp 1), none⟩,
  ⟨(some 23), .fad 0 (.tmp 2), none⟩,
  ⟨(some 24), .ld none (.tmp 23), none⟩,
  ⟨(some 22), .rcall (.func 218) [(.tmp 20), (.tmp 21)], none⟩,
  ⟨(some 25), .rcall (.func 155) [(.tmp 24)], none⟩,
  ⟨(some 8), .mv (.tmp 22), none⟩,
  ⟨(some 9), .mv (.tmp 25), none⟩])
 (.seq (.seq (.reg [⟨(some 10), .mv (.const (.int .i64 0)), none⟩])
 (.block 0 (.loop (.seq (.seq (.reg [⟨(some 26), .mv (.tmp 10), none⟩,
  ⟨(some 27), .fad 0 (.tmp 2), none⟩,
  ⟨(some 28), .ld none (.tmp 27), none⟩,
  ⟨(some 29), .len (.tmp 28), none⟩,
  ⟨(some 30), .bin .lss (.tmp 26) (.tmp 29), none⟩])
 (.cond (.tmp 30) (.skip) (.exit 0)))
 (.seq (.block 1 (.seq (.reg [⟨(some 11), .mv (.const (.int .i64 0)), none⟩])
 (.seq (.block 2 (.loop (.block 3 (.seq (.reg [⟨(some 33), .mv (.tmp 7), none⟩,
  ⟨(some 34), .mv (.tmp 11), none⟩,
  ⟨(some 35), .bin .add (.tmp 33) (.tmp 34), none⟩,
  ⟨(some 36), .fad 0 (.tmp 2), none⟩,
  ⟨(some 37), .ld none (.tmp 36), none⟩,
  ⟨(some 38), .mv (.tmp 10), none⟩,
  ⟨(some 39), .iad 1 (.tmp 37) (.tmp 38), none⟩,
  ⟨(some 40), .ld none (.tmp 39), none⟩,
  ⟨(some 41), .bin .sub (.tmp 35) (.tmp 40), none⟩,
  ⟨(some 12), .mv (.tmp 41), none⟩])
 (.seq (.seq (.reg [⟨(some 42), .mv (.tmp 8), none⟩,
  ⟨(some 43), .mv (.tmp 10), none⟩,
  ⟨(some 44), .bin .add (.tmp 43) (.const (.int .i64 1)), none⟩,
  ⟨(some 45), .iad 1 (.tmp 42) (.tmp 44), none⟩,
  ⟨(some 46), .ld none (.tmp 45), none⟩,
  ⟨(some 47), .mv (.tmp 12), none⟩,
  ⟨(some 48), .mv (.tmp 9), none⟩,
  ⟨(some 49), .bin .add (.tmp 47) (.tmp 48), none⟩,
  ⟨(some 50), .iad 1 (.tmp 46) (.tmp 49), none⟩,
  ⟨(some 51), .ld none (.tmp 50), none⟩,
  ⟨(some 13), .mv (.tmp 51), none⟩])
 (.seq (.reg [⟨(some 52), .mv (.tmp 13), none⟩,
  ⟨(some 53), .bin .geq (.tmp 52) (.const (.int .i64 0)), none⟩,
  ⟨(some 54), .mv (.tmp 53), none⟩,
  ⟨(some 55), .ld (some 4) (.tmp 2), (some (54, true))⟩,
  ⟨(some 56), .mv (.tmp 1), (some (54, true))⟩,
  ⟨(some 57), .mv (.tmp 10), (some (54, true))⟩,
  ⟨(some 58), .mv (.tmp 11), (some (54, true))⟩,
  ⟨(some 59), .mv (.tmp 12), (some (54, true))⟩,
  ⟨(some 61), .mv (.tmp 13), (some (54, true))⟩,
  ⟨(some 63), .mv (.tmp 8), (some (54, true))⟩,
  ⟨(some 64), .mv (.tmp 10), (some (54, true))⟩,
  ⟨(some 65), .iad 1 (.tmp 63) (.tmp 64), (some (54, true))⟩,
  ⟨(some 66), .ld none (.tmp 65), (some (54, true))⟩,
  ⟨(some 67), .mv (.tmp 7), (some (54, true))⟩,
  ⟨(some 68), .mv (.tmp 9), (some (54, true))⟩,
  ⟨(some 69), .bin .add (.tmp 67) (.tmp 68), (some (54, true))⟩,
  ⟨(some 70), .iad 1 (.tmp 66) (.tmp 69), (some (54, true))⟩,
  ⟨(some 71), .ld none (.tmp 70), (some (54, true))⟩,
  ⟨(some 60), .rcall (.func 216) [(.tmp 55), (.tmp 56), (.tmp 57), (.tmp 58), (.tmp 59)], (some (54, true))⟩,
  ⟨(some 62), .bin .add (.tmp 60) (.tmp 61), (some (54, true))⟩,
  ⟨(some 72), .bin .eql (.tmp 62) (.tmp 71), (some (54, true))⟩,
  ⟨(some 73), .pick (.tmp 54) (.tmp 72) (.const (.bool false)), none⟩])
 (.cond (.tmp 73) (.exit 2) (.skip))))
 (.reg [⟨(some 74), .mv (.tmp 11), none⟩,
  ⟨(some 75), .bin .add (.tmp 74) (.const (.int .i64 1)), none⟩,
  ⟨(some 11), .mv (.tmp 75), none⟩]))))))
 (.seq (.reg [⟨(some 76), .mv (.tmp 6), none⟩,
  ⟨(some 77), .mv (.tmp 11), none⟩,
  ⟨(some 78), .bsl 3 1 1 [(.int .i64 0)] [(0, 1, (.tmp 77))], none⟩,
  ⟨(some 79), .app 3 1 8 (.tmp 76) (.tmp 78), none⟩,
  ⟨(some 6), .mv (.tmp 79), none⟩])
 (.reg [⟨(some 80), .mv (.tmp 7), none⟩,
  ⟨(some 81), .mv (.tmp 11), none⟩,
  ⟨(some 82), .bin .add (.tmp 80) (.tmp 81), none⟩,
  ⟨(some 83), .fad 0 (.tmp 2), none⟩,
  ⟨(some 84), .ld none (.tmp 83), none⟩,
  ⟨(some 85), .mv (.tmp 10), none⟩,
  ⟨(some 86), .iad 1 (.tmp 84) (.tmp 85), none⟩,
  ⟨(some 87), .ld none (.tmp 86), none⟩,
  ⟨(some 88), .bin .sub (.tmp 82) (.tmp 87), none⟩,
  ⟨(some 7), .mv (.tmp 88), none⟩])))))
 (.reg [⟨(some 31), .mv (.tmp 10), none⟩,
  ⟨(some 32), .bin .add (.tmp 31) (.const (.int .i64 1)), none⟩,
  ⟨(some 10), .mv (.tmp 32), none⟩]))))))
 (.seq (.reg [⟨(some 89), .mv (.tmp 6), none⟩,
  ⟨(some 4), .mv (.tmp 89), none⟩,
  ⟨(some 5), .mv (.const (.bool true)), none⟩])
 (.ret))))))
def r_spec_BestLatePlan : List ARes := [.tmp 4, .tmp 5]
theorem ok_spec_BestLatePlan : FnOk Try.prog 118 90 c_spec_BestLatePlan r_spec_BestLatePlan := ⟨⟨Try.f118, _, Try.func118, by kernel_rfl, rfl, rfl, by kernel_rfl, by kernel_rfl⟩⟩
def c_spec_JoinCases : ACode := .seq (.reg [⟨(some 2), .box 26 (.tmp 0), none⟩,
  ⟨(some 3), .box 26 (.tmp 1), none⟩,
  ⟨(some 4), .alc 26 [(.slice none 0 0), (.slice none 0 0), (.slice none 0 0), (.slice none 0 0)], none⟩,
  ⟨(some 5), .mv (.const (.bool false)), none⟩])
 (.seq (.seq (.reg [⟨(some 6), .ld (some 4) (.tmp 2), none⟩,
  ⟨(some 7), .call (.func 129) [(.tmp 6)], none⟩,
  ⟨(some 8), .un .not (.tmp 7), none⟩,
  ⟨(some 9), .mv (.tmp 8), none⟩,
  ⟨(some 10), .ld (some 4) (.tmp 3), (some (9, false))⟩,
  ⟨(some 11), .call (.func 129) [(.tmp 10)], (some (9, false))⟩,
  ⟨(some 12), .un .not (.tmp 11), (some (9, false))⟩,
  ⟨(some 13), .pick (.tmp 9) (.const (.bool true)) (.tmp 12), none⟩,
  ⟨(some 14), .mv (.tmp 13), none⟩,
  ⟨(some 15), .fad 0 (.tmp 2), (some (14, false))⟩,
  ⟨(some 16), .ld none (.tmp 15), (some (14, false))⟩,
  ⟨(some 17), .len (.tmp 16), (some (14, false))⟩,
  ⟨(some 18), .fad 0 (.tmp 3), (some (14, false))⟩,
  ⟨(some 19), .ld none (.tmp 18), (some (14, false))⟩,
  ⟨(some 20), .len (.tmp 19), (some (14, false))⟩,
  ⟨(some 21), .bin .add (.tmp 17) (.tmp 20), (some (14, false))⟩,
  ⟨(some 22), .bin .gtr (.tmp 21) (.const (.int .i64 8)), (some (14, false))⟩,
  ⟨(some 23), .pick (.tmp 14) (.const (.bool true)) (.tmp 22), none⟩])
 (.cond (.tmp 23) (.seq (.reg [⟨(some 24), .bld [(.slice none 0 0), (.slice none 0 0), (.slice none 0 0), (.slice none 0 0)] [], none⟩,
  ⟨none, .st 4 (.tmp 4) (.tmp 24), none⟩,
  ⟨(some 5), .mv (.const (.bool false)), none⟩])
 (.ret)) (.skip)))
 (.seq (.bad)
 (.ret)))
def r_spec_JoinCases : List ARes := [.cell 4 (some 4), .tmp 5]
theorem ok_spec_JoinCases : FnOk Try.prog 121 50 c_spec_JoinCases r_spec_JoinCases := ⟨⟨Try.f121, _, Try.func121, by kernel_rfl, rfl, rfl, by kernel_rfl, by kernel_rfl⟩⟩
def c_spec_l2Good : ACode := .seq (.reg [⟨(some 1), .box 26 (.tmp 0), none⟩,
  ⟨(some 2), .mv (.const (.bool false)), none⟩])
 (.seq (.reg [⟨(some 4), .fad 0 (.tmp 1), none⟩,
  ⟨(some 5), .ld none (.tmp 4), none⟩,
  ⟨(some 6), .len (.tmp 5), none⟩,
  ⟨(some 3), .mv (.tmp 6), none⟩])
 (.seq (.reg [⟨(some 7), .mv (.tmp 3), none⟩,
  ⟨(some 8), .bin .leq (.tmp 7) (.const (.int .i64 8)), none⟩,
  ⟨(some 9), .mv (.tmp 8), none⟩,
  ⟨(some 10), .fad 0 (.tmp 1), (some (9, true))⟩,
  ⟨(some 11), .ld none (.tmp 10), (some (9, true))⟩,
  ⟨(some 12), .mv (.tmp 3), (some (9, true))⟩,
  ⟨(some 13), .call (.func 225) [(.tmp 11), (.tmp 12), (.const (.int .i64 20))], (some (9, true))⟩,
  ⟨(some 14), .pick (.tmp 9) (.tmp 13) (.const (.bool false)), none⟩,
  ⟨(some 15), .mv (.tmp 14), none⟩,
  ⟨(some 16), .fad 1 (.tmp 1), (some (15, true))⟩,
  ⟨(some 17), .ld none (.tmp 16), (some (15, true))⟩,
  ⟨(some 18), .mv (.tmp 3), (some (15, true))⟩,
  ⟨(some 19), .call (.func 225) [(.tmp 17), (.tmp 18), (.const (.int .i64 99))], (some (15, true))⟩,
  ⟨(some 20), .pick (.tmp 15) (.tmp 19) (.const (.bool false)), none⟩,
  ⟨(some 21), .mv (.tmp 20), none⟩,
  ⟨(some 22), .fad 2 (.tmp 1), (some (21, true))⟩,
  ⟨(some 23), .ld none (.tmp 22), (some (21, true))⟩,
  ⟨(some 24), .mv (.tmp 3), (some (21, true))⟩,
  ⟨(some 25), .call (.func 225) [(.tmp 23), (.tmp 24), (.const (.int .i64 9))], (some (21, true))⟩,
  ⟨(some 26), .pick (.tmp 21) (.tmp 25) (.const (.bool false)), none⟩,
  ⟨(some 27), .mv (.tmp 26), none⟩,
  ⟨(some 28), .fad 3 (.tmp 1), (some (27, true))⟩,
  ⟨(some 29), .ld none (.tmp 28), (some (27, true))⟩,
  ⟨(some 30), .mv (.tmp 3), (some (27, true))⟩,
  ⟨(some 31), .call (.func 225) [(.tmp 29), (.tmp 30), (.const (.int .i64 9))], (some (27, true))⟩,
  ⟨(some 32), .pick (.tmp 27) (.tmp 31) (.const (.bool false)), none⟩,
  ⟨(some 2), .mv (.tmp 32), none⟩])
 (.ret)))
def r_spec_l2Good : List ARes := [.tmp 2]
theorem ok_spec_l2Good : FnOk Try.prog 129 33 c_spec_l2Good r_spec_l2Good := ⟨⟨Try.f129, _, Try.func129, by kernel_rfl, rfl, rfl, by kernel_rfl, by kernel_rfl⟩⟩
def c_spec_l3Forward : ACode := .seq (.reg [⟨(some 1), .box 26 (.tmp 0), none⟩,
  ⟨(some 2), .mv (.const (.slice none 0 0)), none⟩,
  ⟨(some 3), .mv (.const (.slice none 0 0)), none⟩])
 (.seq (.reg [⟨(some 9), .bsl 3 1 1 [(.int .i64 0)] [(0, 1, (.const (.int .i64 0)))], none⟩,
  ⟨(some 10), .bsl 3 1 0 [] [], none⟩,
  ⟨(some 4), .mv (.tmp 9), none⟩,
  ⟨(some 5), .mv (.tmp 10), none⟩])
 (.seq (.seq (.reg [⟨(some 6), .mv (.const (.int .i64 1)), none⟩])
 (.block 0 (.loop (.seq (.seq (.reg [⟨(some 11), .mv (.tmp 6), none⟩,
  ⟨(some 12), .fad 0 (.tmp 1), none⟩,
  ⟨(some 13), .ld none (.tmp 12), none⟩,
  ⟨(some 14), .len (.tmp 13), none⟩,
  ⟨(some 15), .bin .leq (.tmp 11) (.tmp 14), none⟩])
 (.cond (.tmp 15) (.skip) (.exit 0)))
 (.seq (.block 1 (.seq (.reg [⟨(some 7), .mv (.const (.int .i64 0)), none⟩])
 (.seq (.seq (.reg [⟨(some 8), .mv (.const (.int .i64 1)), none⟩])
 (.block 2 (.loop (.seq (.seq (.reg [⟨(some 18), .mv (.tmp 8), none⟩,
  ⟨(some 19), .mv (.tmp 6), none⟩,
  ⟨(some 20), .bin .lss (.tmp 18) (.tmp 19), none⟩])
 (.cond (.tmp 20) (.skip) (.exit 2)))
 (.seq (.block 3 (.seq (.reg [⟨(some 23), .mv (.tmp 4), none⟩,
  ⟨(some 24), .mv (.tmp 8), none⟩,
  ⟨(some 25), .iad 1 (.tmp 23) (.tmp 24), none⟩,
  ⟨(some 26), .ld none (.tmp 25), none⟩,
  ⟨(some 27), .ld (some 4) (.tmp 1), none⟩,
  ⟨(some 28), .mv (.tmp 8), none⟩,
  ⟨(some 29), .mv (.tmp 6), none⟩,
  ⟨(some 32), .mv (.tmp 4), none⟩,
  ⟨(some 33), .mv (.tmp 7), none⟩,
  ⟨(some 34), .iad 1 (.tmp 32) (.tmp 33), none⟩,
  ⟨(some 35), .ld none (.tmp 34), none⟩,
  ⟨(some 36), .ld (some 4) (.tmp 1), none⟩,
  ⟨(some 37), .mv (.tmp 7), none⟩,
  ⟨(some 38), .mv (.tmp 6), none⟩,
  ⟨(some 30), .rcall (.func 138) [(.tmp 27), (.tmp 28), (.tmp 29)], none⟩,
  ⟨(some 31), .bin .add (.tmp 26) (.tmp 30), none⟩,
  ⟨(some 39), .rcall (.func 138) [(.tmp 36), (.tmp 37), (.tmp 38)], none⟩,
  ⟨(some 40), .bin .add (.tmp 35) (.tmp 39), none⟩,
  ⟨(some 41), .bin .leq (.tmp 31) (.tmp 40), none⟩])
 (.cond (.tmp 41) (.reg [⟨(some 42), .mv (.tmp 8), none⟩,
  ⟨(some 7), .mv (.tmp 42), none⟩]) (.skip))))
 (.reg [⟨(some 21), .mv (.tmp 8), none⟩,
  ⟨(some 22), .bin .add (.tmp 21) (.const (.int .i64 1)), none⟩,
  ⟨(some 8), .mv (.tmp 22), none⟩]))))))
 (.seq (.reg [⟨(some 43), .mv (.tmp 4), none⟩,
  ⟨(some 44), .mv (.tmp 4), none⟩,
  ⟨(some 45), .mv (.tmp 7), none⟩,
  ⟨(some 46), .iad 1 (.tmp 44) (.tmp 45), none⟩,
  ⟨(some 47), .ld none (.tmp 46), none⟩,
  ⟨(some 48), .ld (some 4) (.tmp 1), none⟩,
  ⟨(some 49), .mv (.tmp 7), none⟩,
  ⟨(some 50), .mv (.tmp 6), none⟩,
  ⟨(some 51), .rcall (.func 138) [(.tmp 48), (.tmp 49), (.tmp 50)], none⟩,
  ⟨(some 52), .bin .add (.tmp 47) (.tmp 51), none⟩,
  ⟨(some 53), .bsl 3 1 1 [(.int .i64 0)] [(0, 1, (.tmp 52))], none⟩,
  ⟨(some 54), .app 3 1 8 (.tmp 43) (.tmp 53), none⟩,
  ⟨(some 4), .mv (.tmp 54), none⟩])
 (.reg [⟨(some 55), .mv (.tmp 5), none⟩,
  ⟨(some 56), .mv (.tmp 7), none⟩,
  ⟨(some 57), .bsl 3 1 1 [(.int .i64 0)] [(0, 1, (.tmp 56))], none⟩,
  ⟨(some 58), .app 3 1 8 (.tmp 55) (.tmp 57), none⟩,
  ⟨(some 5), .mv (.tmp 58), none⟩])))))
 (.reg [⟨(some 16), .mv (.tmp 6), none⟩,
  ⟨(some 17), .bin .add (.tmp 16) (.const (.int .i64 1)), none⟩,
  ⟨(some 6), .mv (.tmp 17), none⟩]))))))
 (.seq (.reg [⟨(some 59), .mv (.tmp 4), none⟩,
  ⟨(some 60), .mv (.tmp 5), none⟩,
  ⟨(some 2), .mv (.tmp 59), none⟩,
  ⟨(some 3), .mv (.tmp 60), none⟩])
 (.ret))))
def r_spec_l3Forward : List ARes := [.tmp 2, .tmp 3]
theorem ok_spec_l3Forward : FnOk Try.prog 130 61 c_spec_l3Forward r_spec_l3Forward := ⟨⟨Try.f130, _, Try.func130, by kernel_rfl, rfl, rfl, by kernel_rfl, by kernel_rfl⟩⟩
def c_spec_l3Backward : ACode := .seq (.reg [⟨(some 1), .box 26 (.tmp 0), none⟩,
  ⟨(some 2), .mv (.const (.slice none 0 0)), none⟩])
 (.seq (.reg [⟨(some 7), .fad 0 (.tmp 1), none⟩,
  ⟨(some 8), .ld none (.tmp 7), none⟩,
  ⟨(some 9), .len (.tmp 8), none⟩,
  ⟨(some 3), .mv (.tmp 9), none⟩])
 (.seq (.reg [⟨(some 10), .mv (.tmp 3), none⟩,
  ⟨(some 11), .bin .add (.tmp 10) (.const (.int .i64 1)), none⟩,
  ⟨(some 12), .mks 3 8 [(.int .i64 0)] (.tmp 11) (.tmp 11), none⟩,
  ⟨(some 4), .mv (.tmp 12), none⟩])
 (.seq (.seq (.reg [⟨(some 13), .mv (.tmp 3), none⟩,
  ⟨(some 14), .bin .sub (.tmp 13) (.const (.int .i64 1)), none⟩,
  ⟨(some 5), .mv (.tmp 14), none⟩])
 (.block 0 (.loop (.seq (.seq (.reg [⟨(some 15), .mv (.tmp 5), none⟩,
  ⟨(some 16), .bin .geq (.tmp 15) (.const (.int .i64 0)), none⟩])
 (.cond (.tmp 16) (.skip) (.exit 0)))
 (.seq (.block 1 (.seq (.reg [⟨(some 19), .mv (.tmp 4), none⟩,
  ⟨(some 20), .mv (.tmp 5), none⟩,
  ⟨(some 21), .ld (some 4) (.tmp 1), none⟩,
  ⟨(some 22), .mv (.tmp 5), none⟩,
  ⟨(some 23), .mv (.tmp 3), none⟩,
  ⟨(some 24), .call (.func 138) [(.tmp 21), (.tmp 22), (.tmp 23)], none⟩,
  ⟨(some 25), .iad 1 (.tmp 19) (.tmp 20), none⟩,
  ⟨none, .st 1 (.tmp 25) (.tmp 24), none⟩])
 (.seq (.reg [⟨(some 26), .mv (.tmp 5), none⟩,
  ⟨(some 27), .bin .add (.tmp 26) (.const (.int .i64 1)), none⟩,
  ⟨(some 6), .mv (.tmp 27), none⟩])
 (.block 2 (.loop (.seq (.seq (.reg [⟨(some 28), .mv (.tmp 6), none⟩,
  ⟨(some 29), .mv (.tmp 3), none⟩,
  ⟨(some 30), .bin .lss (.tmp 28) (.tmp 29), none⟩])
 (.cond (.tmp 30) (.skip) (.exit 2)))
 (.seq (.block 3 (.reg [⟨(some 33), .mv (.tmp 4), none⟩,
  ⟨(some 34), .mv (.tmp 5), none⟩,
  ⟨(some 35), .mv (.tmp 4), none⟩,
  ⟨(some 36), .mv (.tmp 5), none⟩,
  ⟨(some 37), .iad 1 (.tmp 35) (.tmp 36), none⟩,
  ⟨(some 38), .ld none (.tmp 37), none⟩,
  ⟨(some 39), .ld (some 4) (.tmp 1), none⟩,
  ⟨(some 40), .mv (.tmp 5), none⟩,
  ⟨(some 41), .mv (.tmp 6), none⟩,
  ⟨(some 43), .mv (.tmp 4), none⟩,
  ⟨(some 44), .mv (.tmp 6), none⟩,
  ⟨(some 45), .iad 1 (.tmp 43) (.tmp 44), none⟩,
  ⟨(some 46), .ld none (.tmp 45), none⟩,
  ⟨(some 42), .rcall (.func 138) [(.tmp 39), (.tmp 40), (.tmp 41)], none⟩,
  ⟨(some 47), .bin .add (.tmp 42) (.tmp 46), none⟩,
  ⟨(some 48), .rcall (.func 184) [(.tmp 38), (.tmp 47)], none⟩,
  ⟨(some 49), .iad 1 (.tmp 33) (.tmp 34), none⟩,
  ⟨none, .st 1 (.tmp 49) (.tmp 48), none⟩]))
 (.reg [⟨(some 31), .mv (.tmp 6), none⟩,
  ⟨(some 32), .bin .add (.tmp 31) (.const (.int .i64 1)), none⟩,
  ⟨(some 6), .mv (.tmp 32), none⟩]))))))))
 (.reg [⟨(some 17), .mv (.tmp 5), none⟩,
  ⟨(some 18), .bin .sub (.tmp 17) (.const (.int .i64 1)), none⟩,
  ⟨(some 5), .mv (.tmp 18), none⟩]))))))
 (.seq (.reg [⟨(some 50), .mv (.tmp 4), none⟩,
  ⟨(some 2), .mv (.tmp 50), none⟩])
 (.ret)))))
def r_spec_l3Backward : List ARes := [.tmp 2]
theorem ok_spec_l3Backward : FnOk Try.prog 132 51 c_spec_l3Backward r_spec_l3Backward := ⟨⟨Try.f132, _, Try.func132, by kernel_rfl, rfl, rfl, by kernel_rfl, by kernel_rfl⟩⟩
def c_spec_l3Ends : ACode := .seq (.reg [⟨(some 3), .box 26 (.tmp 0), none⟩,
  ⟨(some 6), .mv (.const (.bool false)), none⟩])
 (.seq (.reg [⟨(some 7), .ld (some 4) (.tmp 3), none⟩,
  ⟨(some 8), .call (.func 129) [(.tmp 7)], none⟩,
  ⟨(some 9), .mv (.tmp 8), none⟩,
  ⟨(some 10), .mv (.tmp 1), (some (9, true))⟩,
  ⟨(some 11), .mv (.tmp 2), (some (9, true))⟩,
  ⟨(some 12), .bin .sub (.tmp 11) (.const (.int .i64 1)), (some (9, true))⟩,
  ⟨(some 13), .call (.func 140) [(.tmp 10), (.const (.int .i64 0)), (.tmp 12)], (some (9, true))⟩,
  ⟨(some 14), .pick (.tmp 9) (.tmp 13) (.const (.bool false)), none⟩,
  ⟨(some 15), .mv (.tmp 14), none⟩,
  ⟨(some 16), .mv (.tmp 2), (some (15, true))⟩,
  ⟨(some 17), .fad 0 (.tmp 3), (some (15, true))⟩,
  ⟨(some 18), .ld none (.tmp 17), (some (15, true))⟩,
  ⟨(some 19), .len (.tmp 18), (some (15, true))⟩,
  ⟨(some 20), .call (.func 140) [(.tmp 16), (.const (.int .i64 1)), (.tmp 19)], (some (15, true))⟩,
  ⟨(some 21), .pick (.tmp 15) (.tmp 20) (.const (.bool false)), none⟩,
  ⟨(some 6), .mv (.tmp 21), none⟩])
 (.ret))
def r_spec_l3Ends : List ARes := [.tmp 6]
theorem ok_spec_l3Ends : FnOk Try.prog 137 22 c_spec_l3Ends r_spec_l3Ends := ⟨⟨Try.f137, _, Try.func137, by kernel_rfl, rfl, rfl, by kernel_rfl, by kernel_rfl⟩⟩
def c_spec_l3Span : ACode := .seq (.reg [⟨(some 3), .box 26 (.tmp 0), none⟩,
  ⟨(some 6), .mv (.const (.int .i64 0)), none⟩])
 (.seq (.reg [⟨(some 7), .mv (.const (.int .i64 0)), none⟩,
  ⟨(some 8), .mv (.const (.bool false)), none⟩])
 (.seq (.seq (.reg [⟨(some 10), .mv (.tmp 1), none⟩,
  ⟨(some 9), .mv (.tmp 10), none⟩])
 (.block 0 (.loop (.seq (.seq (.reg [⟨(some 11), .mv (.tmp 9), none⟩,
  ⟨(some 12), .mv (.tmp 2), none⟩,
  ⟨(some 13), .bin .lss (.tmp 11) (.tmp 12), none⟩])
 (.cond (.tmp 13) (.skip) (.exit 0)))
 (.seq (.block 1 (.seq (.reg [⟨(some 16), .mv (.tmp 7), none⟩,
  ⟨(some 17), .fad 0 (.tmp 3), none⟩,
  ⟨(some 18), .ld none (.tmp 17), none⟩,
  ⟨(some 19), .mv (.tmp 9), none⟩,
  ⟨(some 20), .iad 1 (.tmp 18) (.tmp 19), none⟩,
  ⟨(some 21), .ld none (.tmp 20), none⟩,
  ⟨(some 22), .ld (some 4) (.tmp 3), none⟩,
  ⟨(some 23), .mv (.tmp 1), none⟩,
  ⟨(some 24), .mv (.tmp 9), none⟩,
  ⟨(some 25), .rcall (.func 141) [(.tmp 22), (.tmp 23), (.tmp 24)], none⟩,
  ⟨(some 26), .bin .mul (.tmp 21) (.tmp 25), none⟩,
  ⟨(some 27), .bin .add (.tmp 16) (.tmp 26), none⟩,
  ⟨(some 7), .mv (.tmp 27), none⟩])
 (.reg [⟨(some 28), .mv (.tmp 8), none⟩,
  ⟨(some 29), .mv (.tmp 28), none⟩,
  ⟨(some 30), .fad 0 (.tmp 3), (some (29, false))⟩,
  ⟨(some 31), .ld none (.tmp 30), (some (29, false))⟩,
  ⟨(some 32), .mv (.tmp 9), (some (29, false))⟩,
  ⟨(some 33), .iad 1 (.tmp 31) (.tmp 32), (some (29, false))⟩,
  ⟨(some 34), .ld none (.tmp 33), (some (29, false))⟩,
  ⟨(some 35), .bin .gtr (.tmp 34) (.const (.int .i64 0)), (some (29, false))⟩,
  ⟨(some 36), .pick (.tmp 29) (.const (.bool true)) (.tmp 35), none⟩,
  ⟨(some 8), .mv (.tmp 36), none⟩])))
 (.reg [⟨(some 14), .mv (.tmp 9), none⟩,
  ⟨(some 15), .bin .add (.tmp 14) (.const (.int .i64 1)), none⟩,
  ⟨(some 9), .mv (.tmp 15), none⟩]))))))
 (.seq (.seq (.reg [⟨(some 37), .mv (.tmp 8), none⟩,
  ⟨(some 38), .un .not (.tmp 37), none⟩])
 (.cond (.tmp 38) (.seq (.reg [⟨(some 6), .mv (.const (.int .i64 0)), none⟩])
 (.ret)) (.skip)))
 (.seq (.reg [⟨(some 39), .fad 1 (.tmp 3), none⟩,
  ⟨(some 40), .ld none (.tmp 39), none⟩,
  ⟨(some 41), .mv (.tmp 1), none⟩,
  ⟨(some 42), .iad 1 (.tmp 40) (.tmp 41), none⟩,
  ⟨(some 43), .ld none (.tmp 42), none⟩,
  ⟨(some 44), .mv (.tmp 7), none⟩,
  ⟨(some 45), .bin .add (.tmp 43) (.tmp 44), none⟩,
  ⟨(some 6), .mv (.tmp 45), none⟩])
 (.ret)))))
def r_spec_l3Span : List ARes := [.tmp 6]
theorem ok_spec_l3Span : FnOk Try.prog 138 46 c_spec_l3Span r_spec_l3Span := ⟨⟨Try.f138, _, Try.func138, by kernel_rfl, rfl, rfl, by kernel_rfl, by kernel_rfl⟩⟩
def c_spec_l1In : ACode := .seq (.reg [⟨(some 6), .mv (.const (.bool false)), none⟩])
 (.seq (.reg [⟨(some 7), .mv (.tmp 0), none⟩,
  ⟨(some 8), .mv (.tmp 1), none⟩,
  ⟨(some 9), .bin .geq (.tmp 7) (.tmp 8), none⟩,
  ⟨(some 10), .mv (.tmp 9), none⟩,
  ⟨(some 11), .mv (.tmp 0), (some (10, true))⟩,
  ⟨(some 12), .mv (.tmp 2), (some (10, true))⟩,
  ⟨(some 13), .bin .leq (.tmp 11) (.tmp 12), (some (10, true))⟩,
  ⟨(some 14), .pick (.tmp 10) (.tmp 13) (.const (.bool false)), none⟩,
  ⟨(some 6), .mv (.tmp 14), none⟩])
 (.ret))
def r_spec_l1In : List ARes := [.tmp 6]
theorem ok_spec_l1In : FnOk Try.prog 140 15 c_spec_l1In r_spec_l1In := ⟨⟨Try.f140, _, Try.func140, by kernel_rfl, rfl, rfl, by kernel_rfl, by kernel_rfl⟩⟩
def c_spec_l3Rate : ACode := .seq (.reg [⟨(some 3), .box 26 (.tmp 0), none⟩,
  ⟨(some 6), .mv (.const (.int .i64 0)), none⟩])
 (.seq (.reg [⟨(some 9), .fad 2 (.tmp 3), none⟩,
  ⟨(some 10), .ld none (.tmp 9), none⟩,
  ⟨(some 11), .mv (.tmp 1), none⟩,
  ⟨(some 12), .iad 1 (.tmp 10) (.tmp 11), none⟩,
  ⟨(some 13), .ld none (.tmp 12), none⟩,
  ⟨(some 7), .mv (.tmp 13), none⟩])
 (.seq (.seq (.reg [⟨(some 14), .mv (.tmp 1), none⟩,
  ⟨(some 8), .mv (.tmp 14), none⟩])
 (.block 0 (.loop (.seq (.seq (.reg [⟨(some 15), .mv (.tmp 8), none⟩,
  ⟨(some 16), .mv (.tmp 2), none⟩,
  ⟨(some 17), .bin .lss (.tmp 15) (.tmp 16), none⟩])
 (.cond (.tmp 17) (.skip) (.exit 0)))
 (.seq (.block 1 (.reg [⟨(some 20), .mv (.tmp 7), none⟩,
  ⟨(some 21), .fad 3 (.tmp 3), none⟩,
  ⟨(some 22), .ld none (.tmp 21), none⟩,
  ⟨(some 23), .mv (.tmp 8), none⟩,
  ⟨(some 24), .iad 1 (.tmp 22) (.tmp 23), none⟩,
  ⟨(some 25), .ld none (.tmp 24), none⟩,
  ⟨(some 26), .bin .add (.tmp 20) (.tmp 25), none⟩,
  ⟨(some 7), .mv (.tmp 26), none⟩]))
 (.reg [⟨(some 18), .mv (.tmp 8), none⟩,
  ⟨(some 19), .bin .add (.tmp 18) (.const (.int .i64 1)), none⟩,
  ⟨(some 8), .mv (.tmp 19), none⟩]))))))
 (.seq (.reg [⟨(some 27), .mv (.tmp 7), none⟩,
  ⟨(some 6), .mv (.tmp 27), none⟩])
 (.ret))))
def r_spec_l3Rate : List ARes := [.tmp 6]
theorem ok_spec_l3Rate : FnOk Try.prog 141 28 c_spec_l3Rate r_spec_l3Rate := ⟨⟨Try.f141, _, Try.func141, by kernel_rfl, rfl, rfl, by kernel_rfl, by kernel_rfl⟩⟩
def c_spec_l3Asks : ACode := .seq (.reg [⟨(some 3), .box 26 (.tmp 0), none⟩,
  ⟨(some 6), .mv (.const (.bool false)), none⟩])
 (.seq (.reg [⟨(some 7), .fad 0 (.tmp 3), none⟩,
  ⟨(some 8), .ld none (.tmp 7), none⟩,
  ⟨(some 9), .mv (.tmp 1), none⟩,
  ⟨(some 10), .mv (.tmp 2), none⟩,
  ⟨(some 11), .slc 1 (.tmp 8) (some (.tmp 9)) (some (.tmp 10)), none⟩,
  ⟨(some 12), .call (.func 155) [(.tmp 11)], none⟩,
  ⟨(some 13), .bin .gtr (.tmp 12) (.const (.int .i64 0)), none⟩,
  ⟨(some 6), .mv (.tmp 13), none⟩])
 (.ret))
def r_spec_l3Asks : List ARes := [.tmp 6]
theorem ok_spec_l3Asks : FnOk Try.prog 145 14 c_spec_l3Asks r_spec_l3Asks := ⟨⟨Try.f145, _, Try.func145, by kernel_rfl, rfl, rfl, by kernel_rfl, by kernel_rfl⟩⟩
def c_slices_Backward : ACode := .seq (.reg [⟨(some 1), .box 24 (.tmp 0), none⟩,
  ⟨(some 2), .mv (.const .nilFunc), none⟩])
 (.seq (.reg [⟨(some 3), .mkf 228 [] [(.tmp 1)], none⟩,
  ⟨(some 2), .mv (.tmp 3), none⟩])
 (.ret))
def r_slices_Backward : List ARes := [.tmp 2]
theorem ok_slices_Backward : FnOk Try.prog 147 4 c_slices_Backward r_slices_Backward := ⟨⟨Try.f147, _, Try.func147, by kernel_rfl, rfl, rfl, by kernel_rfl, by kernel_rfl⟩⟩
def c_spec_l2From : ACode := .seq (.reg [⟨(some 2), .box 26 (.tmp 0), none⟩,
  ⟨(some 4), .mv (.const (.slice none 0 0)), none⟩])
 (.seq (.reg [⟨(some 8), .fad 0 (.tmp 2), none⟩,
  ⟨(some 9), .ld none (.tmp 8), none⟩,
  ⟨(some 10), .len (.tmp 9), none⟩,
  ⟨(some 11), .mks 3 8 [(.int .i64 0)] (.tmp 10) (.tmp 10), none⟩,
  ⟨(some 5), .mv (.tmp 11), none⟩])
 (.seq (.seq (.reg [⟨(some 6), .mv (.const (.int .i64 0)), none⟩])
 (.block 0 (.loop (.seq (.seq (.reg [⟨(some 12), .mv (.tmp 6), none⟩,
  ⟨(some 13), .mv (.tmp 1), none⟩,
  ⟨(some 14), .len (.tmp 13), none⟩,
  ⟨(some 15), .bin .lss (.tmp 12) (.tmp 14), none⟩])
 (.cond (.tmp 15) (.skip) (.exit 0)))
 (.seq (.block 1 (.seq (.reg [⟨(some 18), .fad 0 (.tmp 2), none⟩,
  ⟨(some 19), .ld none (.tmp 18), none⟩,
  ⟨(some 20), .len (.tmp 19), none⟩,
  ⟨(some 7), .mv (.tmp 20), none⟩])
 (.seq (.seq (.reg [⟨(some 21), .mv (.tmp 6), none⟩,
  ⟨(some 22), .bin .add (.tmp 21) (.const (.int .i64 1)), none⟩,
  ⟨(some 23), .mv (.tmp 1), none⟩,
  ⟨(some 24), .len (.tmp 23), none⟩,
  ⟨(some 25), .bin .lss (.tmp 22) (.tmp 24), none⟩])
 (.cond (.tmp 25) (.reg [⟨(some 26), .mv (.tmp 1), none⟩,
  ⟨(some 27), .mv (.tmp 6), none⟩,
  ⟨(some 28), .bin .add (.tmp 27) (.const (.int .i64 1)), none⟩,
  ⟨(some 29), .iad 1 (.tmp 26) (.tmp 28), none⟩,
  ⟨(some 30), .ld none (.tmp 29), none⟩,
  ⟨(some 7), .mv (.tmp 30), none⟩]) (.skip)))
 (.reg [⟨(some 31), .mv (.tmp 5), none⟩,
  ⟨(some 32), .mv (.tmp 1), none⟩,
  ⟨(some 33), .mv (.tmp 6), none⟩,
  ⟨(some 34), .iad 1 (.tmp 32) (.tmp 33), none⟩,
  ⟨(some 35), .ld none (.tmp 34), none⟩,
  ⟨(some 36), .fad 0 (.tmp 2), none⟩,
  ⟨(some 37), .ld none (.tmp 36), none⟩,
  ⟨(some 38), .mv (.tmp 1), none⟩,
  ⟨(some 39), .mv (.tmp 6), none⟩,
  ⟨(some 40), .iad 1 (.tmp 38) (.tmp 39), none⟩,
  ⟨(some 41), .ld none (.tmp 40), none⟩,
  ⟨(some 42), .mv (.tmp 7), none⟩,
  ⟨(some 43), .slc 1 (.tmp 37) (some (.tmp 41)) (some (.tmp 42)), none⟩,
  ⟨(some 44), .rcall (.func 155) [(.tmp 43)], none⟩,
  ⟨(some 45), .iad 1 (.tmp 31) (.tmp 35), none⟩,
  ⟨none, .st 1 (.tmp 45) (.tmp 44), none⟩]))))
 (.reg [⟨(some 16), .mv (.tmp 6), none⟩,
  ⟨(some 17), .bin .add (.tmp 16) (.const (.int .i64 1)), none⟩,
  ⟨(some 6), .mv (.tmp 17), none⟩]))))))
 (.seq (.reg [⟨(some 46), .mv (.tmp 5), none⟩,
  ⟨(some 4), .mv (.tmp 46), none⟩])
 (.ret))))
def r_spec_l2From : List ARes := [.tmp 4]
theorem ok_spec_l2From : FnOk Try.prog 150 47 c_spec_l2From r_spec_l2From := ⟨⟨Try.f150, _, Try.func150, by kernel_rfl, rfl, rfl, by kernel_rfl, by kernel_rfl⟩⟩
def c_spec_l2Best : ACode := .seq (.reg [⟨(some 1), .box 26 (.tmp 0), none⟩,
  ⟨(some 2), .mv (.const (.slice none 0 0)), none⟩])
 (.seq (.reg [⟨(some 8), .bsl 3 1 0 [] [], none⟩,
  ⟨(some 3), .mv (.tmp 8), none⟩,
  ⟨(some 4), .mv (.const (.int .i64 (-1))), none⟩])
 (.seq (.seq (.reg [⟨(some 5), .mv (.const (.int .i64 0)), none⟩])
 (.block 0 (.loop (.seq (.seq (.reg [⟨(some 9), .mv (.tmp 5), none⟩,
  ⟨(some 10), .fad 0 (.tmp 1), none⟩,
  ⟨(some 11), .ld none (.tmp 10), none⟩,
  ⟨(some 12), .len (.tmp 11), none⟩,
  ⟨(some 13), .bin .shl (.const (.int .i64 1)) (.tmp 12), none⟩,
  ⟨(some 14), .bin .lss (.tmp 9) (.tmp 13), none⟩])
 (.cond (.tmp 14) (.skip) (.exit 0)))
 (.seq (.block 1 (.seq (.reg [⟨(some 17), .fad 0 (.tmp 1), none⟩,
  ⟨(some 18), .ld none (.tmp 17), none⟩,
  ⟨(some 19), .len (.tmp 18), none⟩,
  ⟨(some 20), .mv (.tmp 5), none⟩,
  ⟨(some 21), .call (.func 183) [(.tmp 19), (.tmp 20)], none⟩,
  ⟨(some 6), .mv (.tmp 21), none⟩])
 (.seq (.seq (.reg [⟨(some 22), .ld (some 4) (.tmp 1), none⟩,
  ⟨(some 23), .mv (.tmp 6), none⟩,
  ⟨(some 24), .call (.func 185) [(.tmp 22), (.tmp 23)], none⟩,
  ⟨(some 25), .un .not (.tmp 24), none⟩])
 (.cond (.tmp 25) (.exit 1) (.skip)))
 (.seq (.reg [⟨(some 26), .ld (some 4) (.tmp 1), none⟩,
  ⟨(some 27), .ld (some 4) (.tmp 1), none⟩,
  ⟨(some 28), .mv (.tmp 6), none⟩,
  ⟨(some 29), .rcall (.func 150) [(.tmp 27), (.tmp 28)], none⟩,
  ⟨(some 30), .rcall (.func 156) [(.tmp 26), (.tmp 29)], none⟩,
  ⟨(some 7), .mv (.tmp 30), none⟩])
 (.seq (.reg [⟨(some 31), .mv (.tmp 4), none⟩,
  ⟨(some 32), .bin .lss (.tmp 31) (.const (.int .i64 0)), none⟩,
  ⟨(some 33), .mv (.tmp 32), none⟩,
  ⟨(some 34), .mv (.tmp 7), (some (33, false))⟩,
  ⟨(some 35), .mv (.tmp 4), (some (33, false))⟩,
  ⟨(some 36), .bin .lss (.tmp 34) (.tmp 35), (some (33, false))⟩,
  ⟨(some 37), .pick (.tmp 33) (.const (.bool true)) (.tmp 36), none⟩,
  ⟨(some 38), .mv (.tmp 37), none⟩,
  ⟨(some 39), .mv (.tmp 7), (some (38, false))⟩,
  ⟨(some 40), .mv (.tmp 4), (some (38, false))⟩,
  ⟨(some 41), .bin .eql (.tmp 39) (.tmp 40), (some (38, false))⟩,
  ⟨(some 42), .mv (.tmp 41), (some (38, false))⟩,
  ⟨(some 43), .mv (.tmp 6), (some (42, true))⟩,
  ⟨(some 44), .mv (.tmp 3), (some (42, true))⟩,
  ⟨(some 45), .call (.func 229) [(.tmp 43), (.tmp 44)], (some (42, true))⟩,
  ⟨(some 46), .pick (.tmp 42) (.tmp 45) (.const (.bool false)), (some (38, false))⟩,
  ⟨(some 47), .pick (.tmp 38) (.const (.bool true)) (.tmp 46), none⟩])
 (.cond (.tmp 47) (.seq (.reg [⟨(some 48), .mv (.tmp 6), none⟩,
  ⟨(some 3), .mv (.tmp 48), none⟩])
 (.reg [⟨(some 49), .mv (.tmp 7), none⟩,
  ⟨(some 4), .mv (.tmp 49), none⟩])) (.skip)))))))
 (.reg [⟨(some 15), .mv (.tmp 5), none⟩,
  ⟨(some 16), .bin .add (.tmp 15) (.const (.int .i64 1)), none⟩,
  ⟨(some 5), .mv (.tmp 16), none⟩]))))))
 (.seq (.reg [⟨(some 50), .mv (.tmp 3), none⟩,
  ⟨(some 2), .mv (.tmp 50), none⟩])
 (.ret))))
def r_spec_l2Best : List ARes := [.tmp 2]
theorem ok_spec_l2Best : FnOk Try.prog 151 51 c_spec_l2Best r_spec_l2Best := ⟨⟨Try.f151, _, Try.func151, by kernel_rfl, rfl, rfl, by kernel_rfl, by kernel_rfl⟩⟩
def c_spec_l3Fair : ACode := .seq (.reg [⟨(some 2), .box 26 (.tmp 0), none⟩,
  ⟨(some 4), .mv (.const (.bool false)), none⟩])
 (.seq (.seq (.reg [⟨(some 6), .ld (some 4) (.tmp 2), none⟩,
  ⟨(some 7), .mv (.tmp 1), none⟩,
  ⟨(some 8), .call (.func 157) [(.tmp 6), (.tmp 7)], none⟩,
  ⟨(some 9), .un .not (.tmp 8), none⟩])
 (.cond (.tmp 9) (.seq (.reg [⟨(some 4), .mv (.const (.bool false)), none⟩])
 (.ret)) (.skip)))
 (.seq (.seq (.reg [⟨(some 5), .mv (.const (.int .i64 0)), none⟩])
 (.block 0 (.loop (.seq (.seq (.reg [⟨(some 10), .mv (.tmp 5), none⟩,
  ⟨(some 11), .mv (.tmp 1), none⟩,
  ⟨(some 12), .len (.tmp 11), none⟩,
  ⟨(some 13), .bin .lss (.tmp 10) (.tmp 12), none⟩])
 (.cond (.tmp 13) (.skip) (.exit 0)))
 (.seq (.block 1 (.seq (.reg [⟨(some 16), .ld (some 4) (.tmp 2), none⟩,
  ⟨(some 17), .mv (.tmp 1), none⟩,
  ⟨(some 18), .mv (.tmp 5), none⟩,
  ⟨(some 20), .fad 1 (.tmp 2), none⟩,
  ⟨(some 21), .ld none (.tmp 20), none⟩,
  ⟨(some 22), .mv (.tmp 5), none⟩,
  ⟨(some 23), .iad 1 (.tmp 21) (.tmp 22), none⟩,
  ⟨(some 24), .ld none (.tmp 23), none⟩,
  ⟨(some 19), .rcall (.func 160) [(.tmp 16), (.tmp 17), (.tmp 18)], none⟩,
  ⟨(some 25), .bin .gtr (.tmp 19) (.tmp 24), none⟩,
  ⟨(some 26), .mv (.tmp 25), none⟩,
  ⟨(some 27), .fad 0 (.tmp 2), (some (26, false))⟩,
  ⟨(some 28), .ld none (.tmp 27), (some (26, false))⟩,
  ⟨(some 29), .mv (.tmp 5), (some (26, false))⟩,
  ⟨(some 30), .iad 1 (.tmp 28) (.tmp 29), (some (26, false))⟩,
  ⟨(some 31), .ld none (.tmp 30), (some (26, false))⟩,
  ⟨(some 32), .bin .eql (.tmp 31) (.const (.int .i64 0)), (some (26, false))⟩,
  ⟨(some 33), .mv (.tmp 32), (some (26, false))⟩,
  ⟨(some 34), .mv (.tmp 1), (some (33, true))⟩,
  ⟨(some 35), .mv (.tmp 5), (some (33, true))⟩,
  ⟨(some 36), .iad 1 (.tmp 34) (.tmp 35), (some (33, true))⟩,
  ⟨(some 37), .ld none (.tmp 36), (some (33, true))⟩,
  ⟨(some 38), .bin .gtr (.tmp 37) (.const (.int .i64 0)), (some (33, true))⟩,
  ⟨(some 39), .pick (.tmp 33) (.tmp 38) (.const (.bool false)), (some (26, false))⟩,
  ⟨(some 40), .pick (.tmp 26) (.const (.bool true)) (.tmp 39), none⟩])
 (.cond (.tmp 40) (.seq (.reg [⟨(some 4), .mv (.const (.bool false)), none⟩])
 (.ret)) (.skip))))
 (.reg [⟨(some 14), .mv (.tmp 5), none⟩,
  ⟨(some 15), .bin .add (.tmp 14) (.const (.int .i64 1)), none⟩,
  ⟨(some 5), .mv (.tmp 15), none⟩]))))))
 (.seq (.reg [⟨(some 4), .mv (.const (.bool true)), none⟩])
 (.ret))))
def r_spec_l3Fair : List ARes := [.tmp 4]
theorem ok_spec_l3Fair : FnOk Try.prog 153 41 c_spec_l3Fair r_spec_l3Fair := ⟨⟨Try.f153, _, Try.func153, by kernel_rfl, rfl, rfl, by kernel_rfl, by kernel_rfl⟩⟩
def c_spec_l2Two : ACode := .seq (.reg [⟨(some 2), .box 26 (.tmp 0), none⟩,
  ⟨(some 4), .mv (.const (.bool false)), none⟩])
 (.seq (.reg [⟨(some 5), .ld (some 4) (.tmp 2), none⟩,
  ⟨(some 6), .call (.func 129) [(.tmp 5)], none⟩,
  ⟨(some 7), .mv (.tmp 6), none⟩,
  ⟨(some 8), .ld (some 4) (.tmp 2), (some (7, true))⟩,
  ⟨(some 9), .mv (.tmp 1), (some (7, true))⟩,
  ⟨(some 10), .call (.func 170) [(.tmp 8), (.tmp 9)], (some (7, true))⟩,
  ⟨(some 11), .pick (.tmp 7) (.tmp 10) (.const (.bool false)), none⟩,
  ⟨(some 4), .mv (.tmp 11), none⟩])
 (.ret))
def r_spec_l2Two : List ARes := [.tmp 4]
theorem ok_spec_l2Two : FnOk Try.prog 154 12 c_spec_l2Two r_spec_l2Two := ⟨⟨Try.f154, _, Try.func154, by kernel_rfl, rfl, rfl, by kernel_rfl, by kernel_rfl⟩⟩
def c_spec_l2Sum : ACode := .seq (.reg [⟨(some 2), .mv (.const (.int .i64 0)), none⟩])
 (.seq (.reg [⟨(some 3), .mv (.const (.int .i64 0)), none⟩])
 (.seq (.seq (.reg [⟨(some 4), .mv (.const (.int .i64 0)), none⟩])
 (.block 0 (.loop (.seq (.seq (.reg [⟨(some 5), .mv (.tmp 4), none⟩,
  ⟨(some 6), .mv (.tmp 0), none⟩,
  ⟨(some 7), .len (.tmp 6), none⟩,
  ⟨(some 8), .bin .lss (.tmp 5) (.tmp 7), none⟩])
 (.cond (.tmp 8) (.skip) (.exit 0)))
 (.seq (.block 1 (.reg [⟨(some 11), .mv (.tmp 3), none⟩,
  ⟨(some 12), .mv (.tmp 0), none⟩,
  ⟨(some 13), .mv (.tmp 4), none⟩,
  ⟨(some 14), .iad 1 (.tmp 12) (.tmp 13), none⟩,
  ⟨(some 15), .ld none (.tmp 14), none⟩,
  ⟨(some 16), .bin .add (.tmp 11) (.tmp 15), none⟩,
  ⟨(some 3), .mv (.tmp 16), none⟩]))
 (.reg [⟨(some 9), .mv (.tmp 4), none⟩,
  ⟨(some 10), .bin .add (.tmp 9) (.const (.int .i64 1)), none⟩,
  ⟨(some 4), .mv (.tmp 10), none⟩]))))))
 (.seq (.reg [⟨(some 17), .mv (.tmp 3), none⟩,
  ⟨(some 2), .mv (.tmp 17), none⟩])
 (.ret))))
def r_spec_l2Sum : List ARes := [.tmp 2]
theorem ok_spec_l2Sum : FnOk Try.prog 155 18 c_spec_l2Sum r_spec_l2Sum := ⟨⟨Try.f155, _, Try.func155, by kernel_rfl, rfl, rfl, by kernel_rfl, by kernel_rfl⟩⟩
def c_spec_l2Cost : ACode := .seq (.reg [⟨(some 2), .box 26 (.tmp 0), none⟩,
  ⟨(some 4), .mv (.const (.int .i64 0)), none⟩])
 (.seq (.reg [⟨(some 6), .ld (some 4) (.tmp 2), none⟩,
  ⟨(some 7), .mv (.tmp 1), none⟩,
  ⟨(some 8), .call (.func 175) [(.tmp 6), (.tmp 7)], none⟩,
  ⟨(some 5), .alc 104 [(.int .i64 0), (.int .i64 0), (.int .i64 0)], none⟩,
  ⟨none, .st 3 (.tmp 5) (.tmp 8), none⟩])
 (.seq (.reg [⟨(some 9), .iada 1 3 (.tmp 5) (.const (.int .i64 0)), none⟩,
  ⟨(some 10), .ld none (.tmp 9), none⟩,
  ⟨(some 11), .iada 1 3 (.tmp 5) (.const (.int .i64 1)), none⟩,
  ⟨(some 12), .ld none (.tmp 11), none⟩,
  ⟨(some 13), .bin .add (.tmp 10) (.tmp 12), none⟩,
  ⟨(some 14), .iada 1 3 (.tmp 5) (.const (.int .i64 2)), none⟩,
  ⟨(some 15), .ld none (.tmp 14), none⟩,
  ⟨(some 16), .bin .add (.tmp 13) (.tmp 15), none⟩,
  ⟨(some 4), .mv (.tmp 16), none⟩])
 (.ret)))
def r_spec_l2Cost : List ARes := [.tmp 4]
theorem ok_spec_l2Cost : FnOk Try.prog 156 17 c_spec_l2Cost r_spec_l2Cost := ⟨⟨Try.f156, _, Try.func156, by kernel_rfl, rfl, rfl, by kernel_rfl, by kernel_rfl⟩⟩
def c_spec_l3Prices : ACode := .seq (.reg [⟨(some 2), .box 26 (.tmp 0), none⟩,
  ⟨(some 4), .mv (.const (.bool false)), none⟩])
 (.seq (.reg [⟨(some 5), .ld (some 4) (.tmp 2), none⟩,
  ⟨(some 6), .call (.func 129) [(.tmp 5)], none⟩,
  ⟨(some 7), .mv (.tmp 6), none⟩,
  ⟨(some 8), .mv (.tmp 1), (some (7, true))⟩,
  ⟨(some 9), .fad 0 (.tmp 2), (some (7, true))⟩,
  ⟨(some 10), .ld none (.tmp 9), (some (7, true))⟩,
  ⟨(some 11), .len (.tmp 10), (some (7, true))⟩,
  ⟨(some 12), .call (.func 225) [(.tmp 8), (.tmp 11), (.const (.int .i64 9999))], (some (7, true))⟩,
  ⟨(some 13), .pick (.tmp 7) (.tmp 12) (.const (.bool false)), none⟩,
  ⟨(some 4), .mv (.tmp 13), none⟩])
 (.ret))
def r_spec_l3Prices : List ARes := [.tmp 4]
theorem ok_spec_l3Prices : FnOk Try.prog 157 14 c_spec_l3Prices r_spec_l3Prices := ⟨⟨Try.f157, _, Try.func157, by kernel_rfl, rfl, rfl, by kernel_rfl, by kernel_rfl⟩⟩
def c_spec_l3Claim : ACode := .seq (.reg [⟨(some 3), .box 26 (.tmp 0), none⟩,
  ⟨(some 6), .mv (.const (.int .i64 0)), none⟩])
 (.seq (.reg [⟨(some 7), .mv (.const (.int .i64 0)), none⟩])
 (.seq (.seq (.reg [⟨(some 9), .mv (.tmp 2), none⟩,
  ⟨(some 8), .mv (.tmp 9), none⟩])
 (.block 0 (.loop (.seq (.seq (.reg [⟨(some 10), .mv (.tmp 8), none⟩,
  ⟨(some 11), .mv (.tmp 1), none⟩,
  ⟨(some 12), .len (.tmp 11), none⟩,
  ⟨(some 13), .bin .lss (.tmp 10) (.tmp 12), none⟩])
 (.cond (.tmp 13) (.skip) (.exit 0)))
 (.seq (.block 1 (.reg [⟨(some 16), .mv (.tmp 7), none⟩,
  ⟨(some 17), .mv (.tmp 1), none⟩,
  ⟨(some 18), .mv (.tmp 8), none⟩,
  ⟨(some 19), .iad 1 (.tmp 17) (.tmp 18), none⟩,
  ⟨(some 20), .ld none (.tmp 19), none⟩,
  ⟨(some 21), .fad 0 (.tmp 3), none⟩,
  ⟨(some 22), .ld none (.tmp 21), none⟩,
  ⟨(some 23), .mv (.tmp 8), none⟩,
  ⟨(some 24), .iad 1 (.tmp 22) (.tmp 23), none⟩,
  ⟨(some 25), .ld none (.tmp 24), none⟩,
  ⟨(some 26), .ld (some 4) (.tmp 3), none⟩,
  ⟨(some 27), .mv (.tmp 2), none⟩,
  ⟨(some 28), .mv (.tmp 8), none⟩,
  ⟨(some 29), .rcall (.func 141) [(.tmp 26), (.tmp 27), (.tmp 28)], none⟩,
  ⟨(some 30), .bin .mul (.tmp 25) (.tmp 29), none⟩,
  ⟨(some 31), .bin .sub (.tmp 20) (.tmp 30), none⟩,
  ⟨(some 32), .rcall (.func 206) [(.const (.int .i64 0)), (.tmp 31)], none⟩,
  ⟨(some 33), .bin .add (.tmp 16) (.tmp 32), none⟩,
  ⟨(some 7), .mv (.tmp 33), none⟩]))
 (.reg [⟨(some 14), .mv (.tmp 8), none⟩,
  ⟨(some 15), .bin .add (.tmp 14) (.const (.int .i64 1)), none⟩,
  ⟨(some 8), .mv (.tmp 15), none⟩]))))))
 (.seq (.reg [⟨(some 34), .mv (.tmp 7), none⟩,
  ⟨(some 6), .mv (.tmp 34), none⟩])
 (.ret))))
def r_spec_l3Claim : List ARes := [.tmp 6]
theorem ok_spec_l3Claim : FnOk Try.prog 160 35 c_spec_l3Claim r_spec_l3Claim := ⟨⟨Try.f160, _, Try.func160, by kernel_rfl, rfl, rfl, by kernel_rfl, by kernel_rfl⟩⟩
def c_spec_l3Best : ACode := .seq (.reg [⟨(some 1), .box 26 (.tmp 0), none⟩,
  ⟨(some 2), .mv (.const (.slice none 0 0)), none⟩])
 (.seq (.reg [⟨(some 8), .bsl 3 1 0 [] [], none⟩,
  ⟨(some 3), .mv (.tmp 8), none⟩])
 (.seq (.seq (.reg [⟨(some 4), .mv (.const (.int .i64 0)), none⟩])
 (.block 0 (.loop (.seq (.seq (.reg [⟨(some 9), .mv (.tmp 4), none⟩,
  ⟨(some 10), .fad 0 (.tmp 1), none⟩,
  ⟨(some 11), .ld none (.tmp 10), none⟩,
  ⟨(some 12), .len (.tmp 11), none⟩,
  ⟨(some 13), .bin .lss (.tmp 9) (.tmp 12), none⟩])
 (.cond (.tmp 13) (.skip) (.exit 0)))
 (.seq (.block 1 (.seq (.reg [⟨(some 5), .mv (.const (.int .i64 0)), none⟩])
 (.seq (.seq (.reg [⟨(some 6), .mv (.const (.int .i64 0)), none⟩])
 (.block 2 (.loop (.seq (.seq (.reg [⟨(some 16), .mv (.tmp 6), none⟩,
  ⟨(some 17), .mv (.tmp 4), none⟩,
  ⟨(some 18), .bin .leq (.tmp 16) (.tmp 17), none⟩,
  ⟨(some 19), .mv (.tmp 18), none⟩,
  ⟨(some 20), .fad 0 (.tmp 1), (some (19, true))⟩,
  ⟨(some 21), .ld none (.tmp 20), (some (19, true))⟩,
  ⟨(some 22), .mv (.tmp 4), (some (19, true))⟩,
  ⟨(some 23), .iad 1 (.tmp 21) (.tmp 22), (some (19, true))⟩,
  ⟨(some 24), .ld none (.tmp 23), (some (19, true))⟩,
  ⟨(some 25), .bin .gtr (.tmp 24) (.const (.int .i64 0)), (some (19, true))⟩,
  ⟨(some 26), .pick (.tmp 19) (.tmp 25) (.const (.bool false)), none⟩])
 (.cond (.tmp 26) (.skip) (.exit 2)))
 (.seq (.block 3 (.seq (.reg [⟨(some 29), .fad 0 (.tmp 1), none⟩,
  ⟨(some 30), .ld none (.tmp 29), none⟩,
  ⟨(some 31), .mv (.tmp 4), none⟩,
  ⟨(some 32), .iad 1 (.tmp 30) (.tmp 31), none⟩,
  ⟨(some 33), .ld none (.tmp 32), none⟩,
  ⟨(some 34), .ld (some 4) (.tmp 1), none⟩,
  ⟨(some 35), .mv (.tmp 6), none⟩,
  ⟨(some 36), .mv (.tmp 4), none⟩,
  ⟨(some 39), .fad 1 (.tmp 1), none⟩,
  ⟨(some 40), .ld none (.tmp 39), none⟩,
  ⟨(some 41), .mv (.tmp 6), none⟩,
  ⟨(some 42), .iad 1 (.tmp 40) (.tmp 41), none⟩,
  ⟨(some 43), .ld none (.tmp 42), none⟩,
  ⟨(some 45), .ld (some 4) (.tmp 1), none⟩,
  ⟨(some 46), .mv (.tmp 3), none⟩,
  ⟨(some 47), .mv (.tmp 6), none⟩,
  ⟨(some 37), .rcall (.func 141) [(.tmp 34), (.tmp 35), (.tmp 36)], none⟩,
  ⟨(some 38), .bin .mul (.tmp 33) (.tmp 37), none⟩,
  ⟨(some 44), .bin .add (.tmp 38) (.tmp 43), none⟩,
  ⟨(some 48), .rcall (.func 160) [(.tmp 45), (.tmp 46), (.tmp 47)], none⟩,
  ⟨(some 49), .bin .sub (.tmp 44) (.tmp 48), none⟩,
  ⟨(some 7), .mv (.tmp 49), none⟩])
 (.seq (.reg [⟨(some 50), .mv (.tmp 6), none⟩,
  ⟨(some 51), .bin .eql (.tmp 50) (.const (.int .i64 0)), none⟩,
  ⟨(some 52), .mv (.tmp 51), none⟩,
  ⟨(some 53), .mv (.tmp 7), (some (52, false))⟩,
  ⟨(some 54), .mv (.tmp 5), (some (52, false))⟩,
  ⟨(some 55), .bin .lss (.tmp 53) (.tmp 54), (some (52, false))⟩,
  ⟨(some 56), .pick (.tmp 52) (.const (.bool true)) (.tmp 55), none⟩])
 (.cond (.tmp 56) (.reg [⟨(some 57), .mv (.tmp 7), none⟩,
  ⟨(some 5), .mv (.tmp 57), none⟩]) (.skip)))))
 (.reg [⟨(some 27), .mv (.tmp 6), none⟩,
  ⟨(some 28), .bin .add (.tmp 27) (.const (.int .i64 1)), none⟩,
  ⟨(some 6), .mv (.tmp 28), none⟩]))))))
 (.reg [⟨(some 58), .mv (.tmp 3), none⟩,
  ⟨(some 59), .mv (.tmp 5), none⟩,
  ⟨(some 60), .bsl 3 1 1 [(.int .i64 0)] [(0, 1, (.tmp 59))], none⟩,
  ⟨(some 61), .app 3 1 8 (.tmp 58) (.tmp 60), none⟩,
  ⟨(some 3), .mv (.tmp 61), none⟩]))))
 (.reg [⟨(some 14), .mv (.tmp 4), none⟩,
  ⟨(some 15), .bin .add (.tmp 14) (.const (.int .i64 1)), none⟩,
  ⟨(some 4), .mv (.tmp 15), none⟩]))))))
 (.seq (.reg [⟨(some 62), .mv (.tmp 3), none⟩,
  ⟨(some 2), .mv (.tmp 62), none⟩])
 (.ret))))
def r_spec_l3Best : List ARes := [.tmp 2]
theorem ok_spec_l3Best : FnOk Try.prog 162 63 c_spec_l3Best r_spec_l3Best := ⟨⟨Try.f162, _, Try.func162, by kernel_rfl, rfl, rfl, by kernel_rfl, by kernel_rfl⟩⟩
def c_spec_l3Rule : ACode := .seq (.reg [⟨(some 2), .box 26 (.tmp 0), none⟩,
  ⟨(some 4), .mv (.const (.slice none 0 0)), none⟩])
 (.seq (.reg [⟨(some 9), .bsl 3 1 0 [] [], none⟩,
  ⟨(some 5), .mv (.tmp 9), none⟩])
 (.seq (.reg [⟨(some 10), .fad 0 (.tmp 2), none⟩,
  ⟨(some 11), .ld none (.tmp 10), none⟩,
  ⟨(some 12), .len (.tmp 11), none⟩,
  ⟨(some 6), .mv (.tmp 12), none⟩])
 (.seq (.seq (.reg [⟨(some 7), .mv (.const (.int .i64 0)), none⟩])
 (.block 0 (.loop (.seq (.seq (.reg [⟨(some 13), .mv (.tmp 7), none⟩,
  ⟨(some 14), .mv (.tmp 6), none⟩,
  ⟨(some 15), .bin .lss (.tmp 13) (.tmp 14), none⟩])
 (.cond (.tmp 15) (.skip) (.exit 0)))
 (.block 1 (.seq (.seq (.reg [⟨(some 16), .fad 0 (.tmp 2), none⟩,
  ⟨(some 17), .ld none (.tmp 16), none⟩,
  ⟨(some 18), .mv (.tmp 7), none⟩,
  ⟨(some 19), .iad 1 (.tmp 17) (.tmp 18), none⟩,
  ⟨(some 20), .ld none (.tmp 19), none⟩,
  ⟨(some 21), .bin .eql (.tmp 20) (.const (.int .i64 0)), none⟩])
 (.cond (.tmp 21) (.seq (.reg [⟨(some 22), .mv (.tmp 7), none⟩,
  ⟨(some 23), .bin .add (.tmp 22) (.const (.int .i64 1)), none⟩,
  ⟨(some 7), .mv (.tmp 23), none⟩])
 (.exit 1)) (.skip)))
 (.seq (.reg [⟨(some 24), .mv (.tmp 7), none⟩,
  ⟨(some 25), .bin .add (.tmp 24) (.const (.int .i64 1)), none⟩,
  ⟨(some 8), .mv (.tmp 25), none⟩])
 (.seq (.block 2 (.loop (.seq (.seq (.reg [⟨(some 26), .mv (.tmp 8), none⟩,
  ⟨(some 27), .mv (.tmp 6), none⟩,
  ⟨(some 28), .bin .lss (.tmp 26) (.tmp 27), none⟩,
  ⟨(some 29), .mv (.tmp 28), none⟩,
  ⟨(some 30), .ld (some 4) (.tmp 2), (some (29, true))⟩,
  ⟨(some 31), .mv (.tmp 1), (some (29, true))⟩,
  ⟨(some 32), .mv (.tmp 7), (some (29, true))⟩,
  ⟨(some 33), .mv (.tmp 8), (some (29, true))⟩,
  ⟨(some 34), .call (.func 238) [(.tmp 30), (.tmp 31), (.tmp 32), (.tmp 33)], (some (29, true))⟩,
  ⟨(some 35), .un .not (.tmp 34), (some (29, true))⟩,
  ⟨(some 36), .pick (.tmp 29) (.tmp 35) (.const (.bool false)), none⟩])
 (.cond (.tmp 36) (.skip) (.exit 2)))
 (.block 3 (.reg [⟨(some 37), .mv (.tmp 8), none⟩,
  ⟨(some 38), .bin .add (.tmp 37) (.const (.int .i64 1)), none⟩,
  ⟨(some 8), .mv (.tmp 38), none⟩])))))
 (.seq (.reg [⟨(some 39), .mv (.tmp 5), none⟩,
  ⟨(some 40), .mv (.tmp 7), none⟩,
  ⟨(some 41), .bsl 3 1 1 [(.int .i64 0)] [(0, 1, (.tmp 40))], none⟩,
  ⟨(some 42), .app 3 1 8 (.tmp 39) (.tmp 41), none⟩,
  ⟨(some 5), .mv (.tmp 42), none⟩])
 (.reg [⟨(some 43), .mv (.tmp 8), none⟩,
  ⟨(some 7), .mv (.tmp 43), none⟩]))))))))))
 (.seq (.reg [⟨(some 44), .mv (.tmp 5), none⟩,
  ⟨(some 4), .mv (.tmp 44), none⟩])
 (.ret)))))
def r_spec_l3Rule : List ARes := [.tmp 4]
theorem ok_spec_l3Rule : FnOk Try.prog 167 45 c_spec_l3Rule r_spec_l3Rule := ⟨⟨Try.f167, _, Try.func167, by kernel_rfl, rfl, rfl, by kernel_rfl, by kernel_rfl⟩⟩
def c_spec_l2Plan : ACode := .seq (.reg [⟨(some 2), .box 26 (.tmp 0), none⟩,
  ⟨(some 4), .mv (.const (.bool false)), none⟩])
 (.seq (.seq (.reg [⟨(some 7), .mv (.tmp 1), none⟩,
  ⟨(some 8), .fad 0 (.tmp 2), none⟩,
  ⟨(some 9), .ld none (.tmp 8), none⟩,
  ⟨(some 10), .len (.tmp 9), none⟩,
  ⟨(some 11), .call (.func 225) [(.tmp 7), (.tmp 10), (.const (.int .i64 160))], none⟩,
  ⟨(some 12), .un .not (.tmp 11), none⟩])
 (.cond (.tmp 12) (.seq (.reg [⟨(some 4), .mv (.const (.bool false)), none⟩])
 (.ret)) (.skip)))
 (.seq (.reg [⟨(some 13), .ld (some 4) (.tmp 2), none⟩,
  ⟨(some 14), .mv (.tmp 1), none⟩,
  ⟨(some 15), .call (.func 174) [(.tmp 13), (.tmp 14)], none⟩,
  ⟨(some 5), .mv (.tmp 15), none⟩])
 (.seq (.seq (.reg [⟨(some 6), .mv (.const (.int .i64 0)), none⟩])
 (.block 0 (.loop (.seq (.seq (.reg [⟨(some 16), .mv (.tmp 6), none⟩,
  ⟨(some 17), .mv (.tmp 5), none⟩,
  ⟨(some 18), .len (.tmp 17), none⟩,
  ⟨(some 19), .bin .lss (.tmp 16) (.tmp 18), none⟩])
 (.cond (.tmp 19) (.skip) (.exit 0)))
 (.seq (.block 1 (.seq (.reg [⟨(some 22), .mv (.tmp 5), none⟩,
  ⟨(some 23), .mv (.tmp 6), none⟩,
  ⟨(some 24), .iad 1 (.tmp 22) (.tmp 23), none⟩,
  ⟨(some 25), .ld none (.tmp 24), none⟩,
  ⟨(some 26), .bin .lss (.tmp 25) (.const (.int .i64 0)), none⟩])
 (.cond (.tmp 26) (.seq (.reg [⟨(some 4), .mv (.const (.bool false)), none⟩])
 (.ret)) (.skip))))
 (.reg [⟨(some 20), .mv (.tmp 6), none⟩,
  ⟨(some 21), .bin .add (.tmp 20) (.const (.int .i64 1)), none⟩,
  ⟨(some 6), .mv (.tmp 21), none⟩]))))))
 (.seq (.reg [⟨(some 27), .mv (.tmp 5), none⟩,
  ⟨(some 28), .len (.tmp 27), none⟩,
  ⟨(some 29), .bin .eql (.tmp 28) (.const (.int .i64 0)), none⟩,
  ⟨(some 30), .mv (.tmp 29), none⟩,
  ⟨(some 31), .mv (.tmp 5), (some (30, false))⟩,
  ⟨(some 32), .mv (.tmp 5), (some (30, false))⟩,
  ⟨(some 33), .len (.tmp 32), (some (30, false))⟩,
  ⟨(some 34), .bin .sub (.tmp 33) (.const (.int .i64 1)), (some (30, false))⟩,
  ⟨(some 35), .iad 1 (.tmp 31) (.tmp 34), (some (30, false))⟩,
  ⟨(some 36), .ld none (.tmp 35), (some (30, false))⟩,
  ⟨(some 37), .bin .eql (.tmp 36) (.const (.int .i64 0)), (some (30, false))⟩,
  ⟨(some 38), .pick (.tmp 30) (.const (.bool true)) (.tmp 37), none⟩,
  ⟨(some 4), .mv (.tmp 38), none⟩])
 (.ret)))))
def r_spec_l2Plan : List ARes := [.tmp 4]
theorem ok_spec_l2Plan : FnOk Try.prog 170 39 c_spec_l2Plan r_spec_l2Plan := ⟨⟨Try.f170, _, Try.func170, by kernel_rfl, rfl, rfl, by kernel_rfl, by kernel_rfl⟩⟩
def c_slices_ContainsFunc : ACode := .seq (.reg [⟨(some 4), .mv (.const (.bool false)), none⟩])
 (.seq (.reg [⟨(some 5), .mv (.tmp 0), none⟩,
  ⟨(some 6), .mv (.tmp 1), none⟩,
  ⟨(some 7), .call (.func 239) [(.tmp 5), (.tmp 6)], none⟩,
  ⟨(some 8), .bin .geq (.tmp 7) (.const (.int .i64 0)), none⟩,
  ⟨(some 4), .mv (.tmp 8), none⟩])
 (.ret))
def r_slices_ContainsFunc : List ARes := [.tmp 4]
theorem ok_slices_ContainsFunc : FnOk Try.prog 172 9 c_slices_ContainsFunc r_slices_ContainsFunc := ⟨⟨Try.f172, _, Try.func172, by kernel_rfl, rfl, rfl, by kernel_rfl, by kernel_rfl⟩⟩
def c_spec_l2Stocks : ACode := .seq (.reg [⟨(some 2), .box 26 (.tmp 0), none⟩,
  ⟨(some 4), .mv (.const (.slice none 0 0)), none⟩])
 (.seq (.reg [⟨(some 8), .bsl 3 1 0 [] [], none⟩,
  ⟨(some 5), .mv (.tmp 8), none⟩,
  ⟨(some 6), .mv (.const (.int .i64 0)), none⟩])
 (.seq (.seq (.reg [⟨(some 7), .mv (.const (.int .i64 0)), none⟩])
 (.block 0 (.loop (.seq (.seq (.reg [⟨(some 9), .mv (.tmp 7), none⟩,
  ⟨(some 10), .mv (.tmp 1), none⟩,
  ⟨(some 11), .len (.tmp 10), none⟩,
  ⟨(some 12), .bin .lss (.tmp 9) (.tmp 11), none⟩])
 (.cond (.tmp 12) (.skip) (.exit 0)))
 (.seq (.block 1 (.seq (.reg [⟨(some 15), .mv (.tmp 6), none⟩,
  ⟨(some 16), .mv (.tmp 1), none⟩,
  ⟨(some 17), .mv (.tmp 7), none⟩,
  ⟨(some 18), .iad 1 (.tmp 16) (.tmp 17), none⟩,
  ⟨(some 19), .ld none (.tmp 18), none⟩,
  ⟨(some 20), .bin .add (.tmp 15) (.tmp 19), none⟩,
  ⟨(some 21), .fad 0 (.tmp 2), none⟩,
  ⟨(some 22), .ld none (.tmp 21), none⟩,
  ⟨(some 23), .mv (.tmp 7), none⟩,
  ⟨(some 24), .iad 1 (.tmp 22) (.tmp 23), none⟩,
  ⟨(some 25), .ld none (.tmp 24), none⟩,
  ⟨(some 26), .bin .sub (.tmp 20) (.tmp 25), none⟩,
  ⟨(some 6), .mv (.tmp 26), none⟩])
 (.reg [⟨(some 27), .mv (.tmp 5), none⟩,
  ⟨(some 28), .mv (.tmp 6), none⟩,
  ⟨(some 29), .bsl 3 1 1 [(.int .i64 0)] [(0, 1, (.tmp 28))], none⟩,
  ⟨(some 30), .app 3 1 8 (.tmp 27) (.tmp 29), none⟩,
  ⟨(some 5), .mv (.tmp 30), none⟩])))
 (.reg [⟨(some 13), .mv (.tmp 7), none⟩,
  ⟨(some 14), .bin .add (.tmp 13) (.const (.int .i64 1)), none⟩,
  ⟨(some 7), .mv (.tmp 14), none⟩]))))))
 (.seq (.reg [⟨(some 31), .mv (.tmp 5), none⟩,
  ⟨(some 4), .mv (.tmp 31), none⟩])
 (.ret))))
def r_spec_l2Stocks : List ARes := [.tmp 4]
theorem ok_spec_l2Stocks : FnOk Try.prog 174 32 c_spec_l2Stocks r_spec_l2Stocks := ⟨⟨Try.f174, _, Try.func174, by kernel_rfl, rfl, rfl, by kernel_rfl, by kernel_rfl⟩⟩
def c_spec_l2Parts : ACode := .seq (.reg [⟨(some 2), .box 26 (.tmp 0), none⟩,
  ⟨(some 4), .alc 104 [(.int .i64 0), (.int .i64 0), (.int .i64 0)], none⟩])
 (.seq (.reg [⟨(some 8), .bld [(.int .i64 0), (.int .i64 0), (.int .i64 0)] [], none⟩,
  ⟨(some 9), .ld (some 4) (.tmp 2), none⟩,
  ⟨(some 10), .mv (.tmp 1), none⟩,
  ⟨(some 11), .call (.func 174) [(.tmp 9), (.tmp 10)], none⟩,
  ⟨(some 5), .alc 104 [(.int .i64 0), (.int .i64 0), (.int .i64 0)], none⟩,
  ⟨none, .st 3 (.tmp 5) (.tmp 8), none⟩,
  ⟨(some 6), .mv (.tmp 11), none⟩])
 (.seq (.seq (.reg [⟨(some 7), .mv (.const (.int .i64 0)), none⟩])
 (.block 0 (.loop (.seq (.seq (.reg [⟨(some 12), .mv (.tmp 7), none⟩,
  ⟨(some 13), .mv (.tmp 1), none⟩,
  ⟨(some 14), .len (.tmp 13), none⟩,
  ⟨(some 15), .bin .lss (.tmp 12) (.tmp 14), none⟩])
 (.cond (.tmp 15) (.skip) (.exit 0)))
 (.seq (.block 1 (.seq (.seq (.reg [⟨(some 18), .mv (.tmp 1), none⟩,
  ⟨(some 19), .mv (.tmp 7), none⟩,
  ⟨(some 20), .iad 1 (.tmp 18) (.tmp 19), none⟩,
  ⟨(some 21), .ld none (.tmp 20), none⟩,
  ⟨(some 22), .bin .gtr (.tmp 21) (.const (.int .i64 0)), none⟩])
 (.cond (.tmp 22) (.reg [⟨(some 23), .iada 1 3 (.tmp 5) (.const (.int .i64 0)), none⟩,
  ⟨(some 24), .ld none (.tmp 23), none⟩,
  ⟨(some 25), .fad 1 (.tmp 2), none⟩,
  ⟨(some 26), .ld none (.tmp 25), none⟩,
  ⟨(some 27), .mv (.tmp 7), none⟩,
  ⟨(some 28), .iad 1 (.tmp 26) (.tmp 27), none⟩,
  ⟨(some 29), .ld none (.tmp 28), none⟩,
  ⟨(some 30), .bin .add (.tmp 24) (.tmp 29), none⟩,
  ⟨(some 31), .iada 1 3 (.tmp 5) (.const (.int .i64 0)), none⟩,
  ⟨none, .st 1 (.tmp 31) (.tmp 30), none⟩]) (.skip)))
 (.seq (.reg [⟨(some 32), .iada 1 3 (.tmp 5) (.const (.int .i64 1)), none⟩,
  ⟨(some 33), .ld none (.tmp 32), none⟩,
  ⟨(some 34), .fad 2 (.tmp 2), none⟩,
  ⟨(some 35), .ld none (.tmp 34), none⟩,
  ⟨(some 36), .mv (.tmp 7), none⟩,
  ⟨(some 37), .iad 1 (.tmp 35) (.tmp 36), none⟩,
  ⟨(some 38), .ld none (.tmp 37), none⟩,
  ⟨(some 39), .mv (.tmp 1), none⟩,
  ⟨(some 40), .mv (.tmp 7), none⟩,
  ⟨(some 41), .iad 1 (.tmp 39) (.tmp 40), none⟩,
  ⟨(some 42), .ld none (.tmp 41), none⟩,
  ⟨(some 43), .bin .mul (.tmp 38) (.tmp 42), none⟩,
  ⟨(some 44), .bin .add (.tmp 33) (.tmp 43), none⟩,
  ⟨(some 45), .iada 1 3 (.tmp 5) (.const (.int .i64 1)), none⟩,
  ⟨none, .st 1 (.tmp 45) (.tmp 44), none⟩])
 (.reg [⟨(some 46), .iada 1 3 (.tmp 5) (.const (.int .i64 2)), none⟩,
  ⟨(some 47), .ld none (.tmp 46), none⟩,
  ⟨(some 48), .fad 3 (.tmp 2), none⟩,
  ⟨(some 49), .ld none (.tmp 48), none⟩,
  ⟨(some 50), .mv (.tmp 7), none⟩,
  ⟨(some 51), .iad 1 (.tmp 49) (.tmp 50), none⟩,
  ⟨(some 52), .ld none (.tmp 51), none⟩,
  ⟨(some 53), .mv (.tmp 6), none⟩,
  ⟨(some 54), .mv (.tmp 7), none⟩,
  ⟨(some 55), .iad 1 (.tmp 53) (.tmp 54), none⟩,
  ⟨(some 56), .ld none (.tmp 55), none⟩,
  ⟨(some 57), .bin .mul (.tmp 52) (.tmp 56), none⟩,
  ⟨(some 58), .bin .add (.tmp 47) (.tmp 57), none⟩,
  ⟨(some 59), .iada 1 3 (.tmp 5) (.const (.int .i64 2)), none⟩,
  ⟨none, .st 1 (.tmp 59) (.tmp 58), none⟩]))))
 (.reg [⟨(some 16), .mv (.tmp 7), none⟩,
  ⟨(some 17), .bin .add (.tmp 16) (.const (.int .i64 1)), none⟩,
  ⟨(some 7), .mv (.tmp 17), none⟩]))))))
 (.seq (.reg [⟨(some 60), .ld (some 3) (.tmp 5), none⟩,
  ⟨none, .st 3 (.tmp 4) (.tmp 60), none⟩])
 (.ret))))
def r_spec_l2Parts : List ARes := [.cell 4 (some 3)]
theorem ok_spec_l2Parts : FnOk Try.prog 175 61 c_spec_l2Parts r_spec_l2Parts := ⟨⟨Try.f175, _, Try.func175, by kernel_rfl, rfl, rfl, by kernel_rfl, by kernel_rfl⟩⟩
def c_spec_l1Own : ACode := .seq (.reg [⟨(some 2), .mv (.const (.slice none 0 0)), none⟩])
 (.seq (.reg [⟨(some 3), .bsl 3 1 0 [] [], none⟩,
  ⟨(some 4), .mv (.tmp 0), none⟩,
  ⟨(some 5), .app 3 1 8 (.tmp 3) (.tmp 4), none⟩,
  ⟨(some 2), .mv (.tmp 5), none⟩])
 (.ret))
def r_spec_l1Own : List ARes := [.tmp 2]
theorem ok_spec_l1Own : FnOk Try.prog 179 6 c_spec_l1Own r_spec_l1Own := ⟨⟨Try.f179, _, Try.func179, by kernel_rfl, rfl, rfl, by kernel_rfl, by kernel_rfl⟩⟩
def c_spec_l2Early : ACode := .seq (.reg [⟨(some 2), .box 26 (.tmp 0), none⟩,
  ⟨(some 4), .mv (.const (.int .i64 0)), none⟩])
 (.seq (.reg [⟨(some 7), .ld (some 4) (.tmp 2), none⟩,
  ⟨(some 8), .mv (.tmp 1), none⟩,
  ⟨(some 9), .call (.func 174) [(.tmp 7), (.tmp 8)], none⟩,
  ⟨(some 5), .mv (.tmp 9), none⟩])
 (.seq (.seq (.reg [⟨(some 6), .mv (.const (.int .i64 1)), none⟩])
 (.block 0 (.loop (.seq (.seq (.reg [⟨(some 10), .mv (.tmp 6), none⟩,
  ⟨(some 11), .mv (.tmp 1), none⟩,
  ⟨(some 12), .len (.tmp 11), none⟩,
  ⟨(some 13), .bin .lss (.tmp 10) (.tmp 12), none⟩])
 (.cond (.tmp 13) (.skip) (.exit 0)))
 (.seq (.block 1 (.seq (.reg [⟨(some 16), .mv (.tmp 1), none⟩,
  ⟨(some 17), .mv (.tmp 6), none⟩,
  ⟨(some 18), .iad 1 (.tmp 16) (.tmp 17), none⟩,
  ⟨(some 19), .ld none (.tmp 18), none⟩,
  ⟨(some 20), .bin .gtr (.tmp 19) (.const (.int .i64 0)), none⟩,
  ⟨(some 21), .mv (.tmp 20), none⟩,
  ⟨(some 22), .mv (.tmp 5), (some (21, true))⟩,
  ⟨(some 23), .mv (.tmp 6), (some (21, true))⟩,
  ⟨(some 24), .bin .sub (.tmp 23) (.const (.int .i64 1)), (some (21, true))⟩,
  ⟨(some 25), .iad 1 (.tmp 22) (.tmp 24), (some (21, true))⟩,
  ⟨(some 26), .ld none (.tmp 25), (some (21, true))⟩,
  ⟨(some 27), .bin .gtr (.tmp 26) (.const (.int .i64 0)), (some (21, true))⟩,
  ⟨(some 28), .pick (.tmp 21) (.tmp 27) (.const (.bool false)), none⟩])
 (.cond (.tmp 28) (.seq (.reg [⟨(some 29), .mv (.tmp 6), none⟩,
  ⟨(some 4), .mv (.tmp 29), none⟩])
 (.ret)) (.skip))))
 (.reg [⟨(some 14), .mv (.tmp 6), none⟩,
  ⟨(some 15), .bin .add (.tmp 14) (.const (.int .i64 1)), none⟩,
  ⟨(some 6), .mv (.tmp 15), none⟩]))))))
 (.seq (.reg [⟨(some 4), .mv (.const (.int .i64 (-1))), none⟩])
 (.ret))))
def r_spec_l2Early : List ARes := [.tmp 4]
theorem ok_spec_l2Early : FnOk Try.prog 180 30 c_spec_l2Early r_spec_l2Early := ⟨⟨Try.f180, _, Try.func180, by kernel_rfl, rfl, rfl, by kernel_rfl, by kernel_rfl⟩⟩
def c_spec_l2Smoother : ACode := .seq (.reg [⟨(some 3), .box 26 (.tmp 0), none⟩,
  ⟨(some 6), .mv (.const (.slice none 0 0)), none⟩])
 (.seq (.reg [⟨(some 11), .ld (some 4) (.tmp 3), none⟩,
  ⟨(some 12), .mv (.tmp 1), none⟩,
  ⟨(some 13), .call (.func 174) [(.tmp 11), (.tmp 12)], none⟩,
  ⟨(some 14), .mv (.tmp 2), none⟩,
  ⟨(some 15), .bin .sub (.tmp 14) (.const (.int .i64 1)), none⟩,
  ⟨(some 7), .mv (.tmp 13), none⟩,
  ⟨(some 8), .mv (.tmp 15), none⟩])
 (.seq (.block 0 (.loop (.seq (.seq (.reg [⟨(some 16), .mv (.tmp 1), none⟩,
  ⟨(some 17), .mv (.tmp 8), none⟩,
  ⟨(some 18), .iad 1 (.tmp 16) (.tmp 17), none⟩,
  ⟨(some 19), .ld none (.tmp 18), none⟩,
  ⟨(some 20), .bin .eql (.tmp 19) (.const (.int .i64 0)), none⟩])
 (.cond (.tmp 20) (.skip) (.exit 0)))
 (.block 1 (.reg [⟨(some 21), .mv (.tmp 8), none⟩,
  ⟨(some 22), .bin .sub (.tmp 21) (.const (.int .i64 1)), none⟩,
  ⟨(some 8), .mv (.tmp 22), none⟩])))))
 (.seq (.reg [⟨(some 23), .mv (.tmp 1), none⟩,
  ⟨(some 24), .call (.func 179) [(.tmp 23)], none⟩,
  ⟨(some 25), .mv (.tmp 1), none⟩,
  ⟨(some 26), .call (.func 179) [(.tmp 25)], none⟩,
  ⟨(some 9), .mv (.tmp 24), none⟩,
  ⟨(some 10), .mv (.tmp 26), none⟩])
 (.seq (.reg [⟨(some 27), .mv (.tmp 9), none⟩,
  ⟨(some 28), .mv (.tmp 8), none⟩,
  ⟨(some 29), .mv (.tmp 9), none⟩,
  ⟨(some 30), .mv (.tmp 8), none⟩,
  ⟨(some 31), .iad 1 (.tmp 29) (.tmp 30), none⟩,
  ⟨(some 32), .ld none (.tmp 31), none⟩,
  ⟨(some 33), .mv (.tmp 7), none⟩,
  ⟨(some 34), .mv (.tmp 2), none⟩,
  ⟨(some 35), .bin .sub (.tmp 34) (.const (.int .i64 1)), none⟩,
  ⟨(some 36), .iad 1 (.tmp 33) (.tmp 35), none⟩,
  ⟨(some 37), .ld none (.tmp 36), none⟩,
  ⟨(some 38), .bin .sub (.tmp 32) (.tmp 37), none⟩,
  ⟨(some 39), .iad 1 (.tmp 27) (.tmp 28), none⟩,
  ⟨none, .st 1 (.tmp 39) (.tmp 38), none⟩])
 (.seq (.reg [⟨(some 40), .mv (.tmp 9), none⟩,
  ⟨(some 41), .mv (.tmp 2), none⟩,
  ⟨(some 42), .mv (.tmp 9), none⟩,
  ⟨(some 43), .mv (.tmp 2), none⟩,
  ⟨(some 44), .iad 1 (.tmp 42) (.tmp 43), none⟩,
  ⟨(some 45), .ld none (.tmp 44), none⟩,
  ⟨(some 46), .mv (.tmp 7), none⟩,
  ⟨(some 47), .mv (.tmp 2), none⟩,
  ⟨(some 48), .bin .sub (.tmp 47) (.const (.int .i64 1)), none⟩,
  ⟨(some 49), .iad 1 (.tmp 46) (.tmp 48), none⟩,
  ⟨(some 50), .ld none (.tmp 49), none⟩,
  ⟨(some 51), .bin .add (.tmp 45) (.tmp 50), none⟩,
  ⟨(some 52), .iad 1 (.tmp 40) (.tmp 41), none⟩,
  ⟨none, .st 1 (.tmp 52) (.tmp 51), none⟩])
 (.seq (.reg [⟨(some 53), .mv (.tmp 10), none⟩,
  ⟨(some 54), .mv (.tmp 8), none⟩,
  ⟨(some 55), .mv (.tmp 10), none⟩,
  ⟨(some 56), .mv (.tmp 8), none⟩,
  ⟨(some 57), .iad 1 (.tmp 55) (.tmp 56), none⟩,
  ⟨(some 58), .ld none (.tmp 57), none⟩,
  ⟨(some 59), .mv (.tmp 10), none⟩,
  ⟨(some 60), .mv (.tmp 2), none⟩,
  ⟨(some 61), .iad 1 (.tmp 59) (.tmp 60), none⟩,
  ⟨(some 62), .ld none (.tmp 61), none⟩,
  ⟨(some 63), .bin .add (.tmp 58) (.tmp 62), none⟩,
  ⟨(some 64), .iad 1 (.tmp 53) (.tmp 54), none⟩,
  ⟨none, .st 1 (.tmp 64) (.tmp 63), none⟩])
 (.seq (.reg [⟨(some 65), .mv (.tmp 10), none⟩,
  ⟨(some 66), .mv (.tmp 2), none⟩,
  ⟨(some 67), .iad 1 (.tmp 65) (.tmp 66), none⟩,
  ⟨none, .st 1 (.tmp 67) (.const (.int .i64 0)), none⟩])
 (.seq (.seq (.reg [⟨(some 68), .ld (some 4) (.tmp 3), none⟩,
  ⟨(some 69), .mv (.tmp 9), none⟩,
  ⟨(some 71), .ld (some 4) (.tmp 3), none⟩,
  ⟨(some 72), .mv (.tmp 1), none⟩,
  ⟨(some 70), .rcall (.func 156) [(.tmp 68), (.tmp 69)], none⟩,
  ⟨(some 73), .rcall (.func 156) [(.tmp 71), (.tmp 72)], none⟩,
  ⟨(some 74), .bin .gtr (.tmp 70) (.tmp 73), none⟩])
 (.cond (.tmp 74) (.seq (.reg [⟨(some 75), .mv (.tmp 10), none⟩,
  ⟨(some 6), .mv (.tmp 75), none⟩])
 (.ret)) (.skip)))
 (.seq (.reg [⟨(some 76), .mv (.tmp 9), none⟩,
  ⟨(some 6), .mv (.tmp 76), none⟩])
 (.ret))))))))))
def r_spec_l2Smoother : List ARes := [.tmp 6]
theorem ok_spec_l2Smoother : FnOk Try.prog 181 77 c_spec_l2Smoother r_spec_l2Smoother := ⟨⟨Try.f181, _, Try.func181, by kernel_rfl, rfl, rfl, by kernel_rfl, by kernel_rfl⟩⟩
def c_spec_l2Least : ACode := .seq (.reg [⟨(some 1), .box 26 (.tmp 0), none⟩,
  ⟨(some 2), .mv (.const (.int .i64 0)), none⟩])
 (.seq (.reg [⟨(some 3), .ld (some 4) (.tmp 1), none⟩,
  ⟨(some 4), .ld (some 4) (.tmp 1), none⟩,
  ⟨(some 5), .ld (some 4) (.tmp 1), none⟩,
  ⟨(some 6), .rcall (.func 151) [(.tmp 5)], none⟩,
  ⟨(some 7), .rcall (.func 150) [(.tmp 4), (.tmp 6)], none⟩,
  ⟨(some 8), .rcall (.func 156) [(.tmp 3), (.tmp 7)], none⟩,
  ⟨(some 2), .mv (.tmp 8), none⟩])
 (.ret))
def r_spec_l2Least : List ARes := [.tmp 2]
theorem ok_spec_l2Least : FnOk Try.prog 182 9 c_spec_l2Least r_spec_l2Least := ⟨⟨Try.f182, _, Try.func182, by kernel_rfl, rfl, rfl, by kernel_rfl, by kernel_rfl⟩⟩
def c_spec_l2Bits : ACode := .seq (.reg [⟨(some 4), .mv (.const (.slice none 0 0)), none⟩])
 (.seq (.reg [⟨(some 7), .bsl 3 1 0 [] [], none⟩,
  ⟨(some 5), .mv (.tmp 7), none⟩])
 (.seq (.seq (.reg [⟨(some 6), .mv (.const (.int .i64 0)), none⟩])
 (.block 0 (.loop (.seq (.seq (.reg [⟨(some 8), .mv (.tmp 6), none⟩,
  ⟨(some 9), .mv (.tmp 0), none⟩,
  ⟨(some 10), .bin .lss (.tmp 8) (.tmp 9), none⟩])
 (.cond (.tmp 10) (.skip) (.exit 0)))
 (.seq (.block 1 (.seq (.reg [⟨(some 13), .mv (.tmp 1), none⟩,
  ⟨(some 14), .mv (.tmp 6), none⟩,
  ⟨(some 15), .bin .shr (.tmp 13) (.tmp 14), none⟩,
  ⟨(some 16), .bin .and (.tmp 15) (.const (.int .i64 1)), none⟩,
  ⟨(some 17), .bin .eql (.tmp 16) (.const (.int .i64 1)), none⟩])
 (.cond (.tmp 17) (.reg [⟨(some 18), .mv (.tmp 5), none⟩,
  ⟨(some 19), .mv (.tmp 6), none⟩,
  ⟨(some 20), .bsl 3 1 1 [(.int .i64 0)] [(0, 1, (.tmp 19))], none⟩,
  ⟨(some 21), .app 3 1 8 (.tmp 18) (.tmp 20), none⟩,
  ⟨(some 5), .mv (.tmp 21), none⟩]) (.skip))))
 (.reg [⟨(some 11), .mv (.tmp 6), none⟩,
  ⟨(some 12), .bin .add (.tmp 11) (.const (.int .i64 1)), none⟩,
  ⟨(some 6), .mv (.tmp 12), none⟩]))))))
 (.seq (.reg [⟨(some 22), .mv (.tmp 5), none⟩,
  ⟨(some 4), .mv (.tmp 22), none⟩])
 (.ret))))
def r_spec_l2Bits : List ARes := [.tmp 4]
theorem ok_spec_l2Bits : FnOk Try.prog 183 23 c_spec_l2Bits r_spec_l2Bits := ⟨⟨Try.f183, _, Try.func183, by kernel_rfl, rfl, rfl, by kernel_rfl, by kernel_rfl⟩⟩
def c_spec_l1Least : ACode := .seq (.reg [⟨(some 4), .mv (.const (.int .i64 0)), none⟩])
 (.seq (.seq (.reg [⟨(some 5), .mv (.tmp 0), none⟩,
  ⟨(some 6), .mv (.tmp 1), none⟩,
  ⟨(some 7), .bin .lss (.tmp 5) (.tmp 6), none⟩])
 (.cond (.tmp 7) (.seq (.reg [⟨(some 8), .mv (.tmp 0), none⟩,
  ⟨(some 4), .mv (.tmp 8), none⟩])
 (.ret)) (.skip)))
 (.seq (.reg [⟨(some 9), .mv (.tmp 1), none⟩,
  ⟨(some 4), .mv (.tmp 9), none⟩])
 (.ret)))
def r_spec_l1Least : List ARes := [.tmp 4]
theorem ok_spec_l1Least : FnOk Try.prog 184 10 c_spec_l1Least r_spec_l1Least := ⟨⟨Try.f184, _, Try.func184, by kernel_rfl, rfl, rfl, by kernel_rfl, by kernel_rfl⟩⟩
def c_spec_l2Covers : ACode := .seq (.reg [⟨(some 2), .box 26 (.tmp 0), none⟩,
  ⟨(some 4), .mv (.const (.bool false)), none⟩])
 (.seq (.seq (.reg [⟨(some 5), .mv (.const (.int .i64 0)), none⟩])
 (.block 0 (.loop (.seq (.seq (.reg [⟨(some 6), .mv (.tmp 5), none⟩,
  ⟨(some 7), .fad 0 (.tmp 2), none⟩,
  ⟨(some 8), .ld none (.tmp 7), none⟩,
  ⟨(some 9), .len (.tmp 8), none⟩,
  ⟨(some 10), .bin .lss (.tmp 6) (.tmp 9), none⟩])
 (.cond (.tmp 10) (.skip) (.exit 0)))
 (.seq (.block 1 (.seq (.seq (.reg [⟨(some 13), .mv (.tmp 1), none⟩,
  ⟨(some 14), .len (.tmp 13), none⟩,
  ⟨(some 15), .bin .gtr (.tmp 14) (.const (.int .i64 0)), none⟩,
  ⟨(some 16), .mv (.tmp 15), none⟩,
  ⟨(some 17), .mv (.tmp 1), (some (16, true))⟩,
  ⟨(some 18), .iad 1 (.tmp 17) (.const (.int .i64 0)), (some (16, true))⟩,
  ⟨(some 19), .ld none (.tmp 18), (some (16, true))⟩,
  ⟨(some 20), .mv (.tmp 5), (some (16, true))⟩,
  ⟨(some 21), .bin .leq (.tmp 19) (.tmp 20), (some (16, true))⟩,
  ⟨(some 22), .pick (.tmp 16) (.tmp 21) (.const (.bool false)), none⟩])
 (.cond (.tmp 22) (.seq (.reg [⟨(some 4), .mv (.const (.bool true)), none⟩])
 (.ret)) (.skip)))
 (.seq (.reg [⟨(some 23), .fad 0 (.tmp 2), none⟩,
  ⟨(some 24), .ld none (.tmp 23), none⟩,
  ⟨(some 25), .mv (.tmp 5), none⟩,
  ⟨(some 26), .iad 1 (.tmp 24) (.tmp 25), none⟩,
  ⟨(some 27), .ld none (.tmp 26), none⟩,
  ⟨(some 28), .bin .gtr (.tmp 27) (.const (.int .i64 0)), none⟩])
 (.cond (.tmp 28) (.seq (.reg [⟨(some 4), .mv (.const (.bool false)), none⟩])
 (.ret)) (.skip)))))
 (.reg [⟨(some 11), .mv (.tmp 5), none⟩,
  ⟨(some 12), .bin .add (.tmp 11) (.const (.int .i64 1)), none⟩,
  ⟨(some 5), .mv (.tmp 12), none⟩]))))))
 (.seq (.reg [⟨(some 4), .mv (.const (.bool true)), none⟩])
 (.ret)))
def r_spec_l2Covers : List ARes := [.tmp 4]
theorem ok_spec_l2Covers : FnOk Try.prog 185 29 c_spec_l2Covers r_spec_l2Covers := ⟨⟨Try.f185, _, Try.func185, by kernel_rfl, rfl, rfl, by kernel_rfl, by kernel_rfl⟩⟩
def c_impl_planSearch__plan : ACode := .seq (.reg [⟨(some 2), .mv (.const (.slice none 0 0)), none⟩])
 (.seq (.reg [⟨(some 7), .bsl 3 1 0 [] [], none⟩,
  ⟨(some 3), .mv (.tmp 7), none⟩])
 (.seq (.reg [⟨(some 4), .mv (.const (.int .i64 0)), none⟩])
 (.seq (.seq (.reg [⟨(some 8), .mv (.tmp 0), none⟩,
  ⟨(some 9), .nilc (.tmp 8), none⟩,
  ⟨(some 10), .fad 0 (.tmp 9), none⟩,
  ⟨(some 11), .fad 0 (.tmp 10), none⟩,
  ⟨(some 12), .ld none (.tmp 11), none⟩,
  ⟨(some 13), .len (.tmp 12), none⟩,
  ⟨(some 14), .mv (.const (.int .i64 0)), none⟩])
 (.block 0 (.loop (.seq (.reg [⟨(some 15), .bin .lss (.tmp 14) (.tmp 13), none⟩])
 (.seq (.cond (.tmp 15) (.skip) (.exit 0))
 (.seq (.block 1 (.seq (.reg [⟨(some 16), .mv (.tmp 14), none⟩,
  ⟨(some 5), .mv (.tmp 16), none⟩])
 (.seq (.reg [⟨(some 17), .mv (.tmp 0), none⟩,
  ⟨(some 18), .nilc (.tmp 17), none⟩,
  ⟨(some 19), .fad 7 (.tmp 18), none⟩,
  ⟨(some 20), .ld none (.tmp 19), none⟩,
  ⟨(some 21), .mv (.tmp 5), none⟩,
  ⟨(some 22), .iad 1 (.tmp 20) (.tmp 21), none⟩,
  ⟨(some 23), .ld none (.tmp 22), none⟩,
  ⟨(some 24), .mv (.tmp 4), none⟩,
  ⟨(some 25), .iad 3 (.tmp 23) (.tmp 24), none⟩,
  ⟨(some 26), .fad 2 (.tmp 25), none⟩,
  ⟨(some 27), .ld none (.tmp 26), none⟩,
  ⟨(some 6), .mv (.tmp 27), none⟩])
 (.seq (.reg [⟨(some 28), .mv (.tmp 3), none⟩,
  ⟨(some 29), .mv (.tmp 6), none⟩,
  ⟨(some 30), .bsl 3 1 1 [(.int .i64 0)] [(0, 1, (.tmp 29))], none⟩,
  ⟨(some 31), .app 3 1 8 (.tmp 28) (.tmp 30), none⟩,
  ⟨(some 3), .mv (.tmp 31), none⟩])
 (.reg [⟨(some 32), .mv (.tmp 4), none⟩,
  ⟨(some 33), .mv (.tmp 6), none⟩,
  ⟨(some 34), .bin .add (.tmp 32) (.tmp 33), none⟩,
  ⟨(some 4), .mv (.tmp 34), none⟩])))))
 (.reg [⟨(some 35), .bin .add (.tmp 14) (.const (.int .i64 1)), none⟩,
  ⟨(some 14), .mv (.tmp 35), none⟩])))))))
 (.seq (.reg [⟨(some 36), .mv (.tmp 3), none⟩,
  ⟨(some 2), .mv (.tmp 36), none⟩])
 (.ret)))))
def r_impl_planSearch__plan : List ARes := [.tmp 2]
theorem ok_impl_planSearch__plan : FnOk Try.prog 188 37 c_impl_planSearch__plan r_impl_planSearch__plan := ⟨⟨Try.f188, _, Try.func188, by kernel_rfl, rfl, rfl, by kernel_rfl, by kernel_rfl⟩⟩
def c_spec_l4Can : ACode := .seq (.reg [⟨(some 2), .box 26 (.tmp 0), none⟩,
  ⟨(some 4), .mv (.const (.bool false)), none⟩])
 (.seq (.reg [⟨(some 8), .ld (some 4) (.tmp 2), none⟩,
  ⟨(some 9), .mv (.tmp 1), none⟩,
  ⟨(some 10), .call (.func 94) [(.tmp 8), (.tmp 9)], none⟩,
  ⟨(some 7), .mv (.tmp 10), none⟩,
  ⟨(some 11), .ext 0 (.tmp 7), none⟩,
  ⟨(some 12), .ext 1 (.tmp 7), none⟩,
  ⟨(some 5), .mv (.tmp 11), none⟩,
  ⟨(some 6), .mv (.tmp 12), none⟩])
 (.seq (.reg [⟨(some 13), .mv (.tmp 5), none⟩,
  ⟨(some 14), .mv (.tmp 13), none⟩,
  ⟨(some 15), .mv (.tmp 6), (some (14, true))⟩,
  ⟨(some 16), .pick (.tmp 14) (.tmp 15) (.const (.bool false)), none⟩,
  ⟨(some 4), .mv (.tmp 16), none⟩])
 (.ret)))
def r_spec_l4Can : List ARes := [.tmp 4]
theorem ok_spec_l4Can : FnOk Try.prog 189 17 c_spec_l4Can r_spec_l4Can := ⟨⟨Try.f189, _, Try.func189, by kernel_rfl, rfl, rfl, by kernel_rfl, by kernel_rfl⟩⟩
def c_spec_l4Traced : ACode := .seq (.reg [⟨(some 2), .box 26 (.tmp 0), none⟩,
  ⟨(some 4), .mv (.const (.slice none 0 0)), none⟩])
 (.seq (.reg [⟨(some 9), .bsl 3 1 0 [] [], none⟩,
  ⟨(some 5), .mv (.tmp 9), none⟩,
  ⟨(some 6), .mv (.const (.int .i64 0)), none⟩])
 (.seq (.seq (.reg [⟨(some 7), .mv (.const (.int .i64 0)), none⟩])
 (.block 0 (.loop (.seq (.seq (.reg [⟨(some 10), .mv (.tmp 7), none⟩,
  ⟨(some 11), .fad 0 (.tmp 2), none⟩,
  ⟨(some 12), .ld none (.tmp 11), none⟩,
  ⟨(some 13), .len (.tmp 12), none⟩,
  ⟨(some 14), .bin .lss (.tmp 10) (.tmp 13), none⟩])
 (.cond (.tmp 14) (.skip) (.exit 0)))
 (.seq (.block 1 (.seq (.reg [⟨(some 17), .fad 0 (.tmp 2), none⟩,
  ⟨(some 18), .ld none (.tmp 17), none⟩,
  ⟨(some 19), .mv (.tmp 7), none⟩,
  ⟨(some 20), .iad 1 (.tmp 18) (.tmp 19), none⟩,
  ⟨(some 21), .ld none (.tmp 20), none⟩,
  ⟨(some 22), .mv (.tmp 6), none⟩,
  ⟨(some 23), .bin .sub (.tmp 21) (.tmp 22), none⟩,
  ⟨(some 24), .call (.func 206) [(.tmp 23), (.const (.int .i64 0))], none⟩,
  ⟨(some 8), .mv (.tmp 24), none⟩])
 (.seq (.block 2 (.loop (.seq (.seq (.reg [⟨(some 25), .mv (.tmp 1), none⟩,
  ⟨(some 26), .mv (.tmp 7), none⟩,
  ⟨(some 27), .bin .add (.tmp 26) (.const (.int .i64 1)), none⟩,
  ⟨(some 28), .iad 1 (.tmp 25) (.tmp 27), none⟩,
  ⟨(some 29), .ld none (.tmp 28), none⟩,
  ⟨(some 30), .mv (.tmp 6), none⟩,
  ⟨(some 31), .mv (.tmp 8), none⟩,
  ⟨(some 32), .bin .add (.tmp 30) (.tmp 31), none⟩,
  ⟨(some 33), .fad 0 (.tmp 2), none⟩,
  ⟨(some 34), .ld none (.tmp 33), none⟩,
  ⟨(some 35), .mv (.tmp 7), none⟩,
  ⟨(some 36), .iad 1 (.tmp 34) (.tmp 35), none⟩,
  ⟨(some 37), .ld none (.tmp 36), none⟩,
  ⟨(some 38), .bin .sub (.tmp 32) (.tmp 37), none⟩,
  ⟨(some 39), .iad 1 (.tmp 29) (.tmp 38), none⟩,
  ⟨(some 40), .ld none (.tmp 39), none⟩,
  ⟨(some 41), .bin .lss (.tmp 40) (.const (.int .i64 0)), none⟩,
  ⟨(some 42), .mv (.tmp 41), none⟩,
  ⟨(some 43), .ld (some 4) (.tmp 2), (some (42, false))⟩,
  ⟨(some 44), .mv (.tmp 7), (some (42, false))⟩,
  ⟨(some 45), .mv (.tmp 8), (some (42, false))⟩,
  ⟨(some 46), .mv (.tmp 6), (some (42, false))⟩,
  ⟨(some 47), .mv (.tmp 8), (some (42, false))⟩,
  ⟨(some 48), .bin .add (.tmp 46) (.tmp 47), (some (42, false))⟩,
  ⟨(some 49), .fad 0 (.tmp 2), (some (42, false))⟩,
  ⟨(some 50), .ld none (.tmp 49), (some (42, false))⟩,
  ⟨(some 51), .mv (.tmp 7), (some (42, false))⟩,
  ⟨(some 52), .iad 1 (.tmp 50) (.tmp 51), (some (42, false))⟩,
  ⟨(some 53), .ld none (.tmp 52), (some (42, false))⟩,
  ⟨(some 54), .bin .sub (.tmp 48) (.tmp 53), (some (42, false))⟩,
  ⟨(some 56), .mv (.tmp 1), (some (42, false))⟩,
  ⟨(some 57), .mv (.tmp 7), (some (42, false))⟩,
  ⟨(some 58), .bin .add (.tmp 57) (.const (.int .i64 1)), (some (42, false))⟩,
  ⟨(some 59), .iad 1 (.tmp 56) (.tmp 58), (some (42, false))⟩,
  ⟨(some 60), .ld none (.tmp 59), (some (42, false))⟩,
  ⟨(some 61), .mv (.tmp 6), (some (42, false))⟩,
  ⟨(some 62), .mv (.tmp 8), (some (42, false))⟩,
  ⟨(some 63), .bin .add (.tmp 61) (.tmp 62), (some (42, false))⟩,
  ⟨(some 64), .fad 0 (.tmp 2), (some (42, false))⟩,
  ⟨(some 65), .ld none (.tmp 64), (some (42, false))⟩,
  ⟨(some 66), .mv (.tmp 7), (some (42, false))⟩,
  ⟨(some 67), .iad 1 (.tmp 65) (.tmp 66), (some (42, false))⟩,
  ⟨(some 68), .ld none (.tmp 67), (some (42, false))⟩,
  ⟨(some 69), .bin .sub (.tmp 63) (.tmp 68), (some (42, false))⟩,
  ⟨(some 70), .iad 1 (.tmp 60) (.tmp 69), (some (42, false))⟩,
  ⟨(some 71), .ld none (.tmp 70), (some (42, false))⟩,
  ⟨(some 73), .mv (.tmp 1), (some (42, false))⟩,
  ⟨(some 74), .mv (.tmp 7), (some (42, false))⟩,
  ⟨(some 75), .iad 1 (.tmp 73) (.tmp 74), (some (42, false))⟩,
  ⟨(some 76), .ld none (.tmp 75), (some (42, false))⟩,
  ⟨(some 77), .mv (.tmp 6), (some (42, false))⟩,
  ⟨(some 78), .iad 1 (.tmp 76) (.tmp 77), (some (42, false))⟩,
  ⟨(some 79), .ld none (.tmp 78), (some (42, false))⟩,
  ⟨(some 55), .rcall (.func 208) [(.tmp 43), (.tmp 44), (.tmp 45), (.tmp 54)], (some (42, false))⟩,
  ⟨(some 72), .bin .add (.tmp 55) (.tmp 71), (some (42, false))⟩,
  ⟨(some 80), .bin .neq (.tmp 72) (.tmp 79), (some (42, false))⟩,
  ⟨(some 81), .pick (.tmp 42) (.const (.bool true)) (.tmp 80), none⟩])
 (.cond (.tmp 81) (.skip) (.exit 2)))
 (.block 3 (.reg [⟨(some 82), .mv (.tmp 8), none⟩,
  ⟨(some 83), .bin .add (.tmp 82) (.const (.int .i64 1)), none⟩,
  ⟨(some 8), .mv (.tmp 83), none⟩])))))
 (.seq (.reg [⟨(some 84), .mv (.tmp 5), none⟩,
  ⟨(some 85), .mv (.tmp 8), none⟩,
  ⟨(some 86), .bsl 3 1 1 [(.int .i64 0)] [(0, 1, (.tmp 85))], none⟩,
  ⟨(some 87), .app 3 1 8 (.tmp 84) (.tmp 86), none⟩,
  ⟨(some 5), .mv (.tmp 87), none⟩])
 (.reg [⟨(some 88), .mv (.tmp 6), none⟩,
  ⟨(some 89), .mv (.tmp 8), none⟩,
  ⟨(some 90), .bin .add (.tmp 88) (.tmp 89), none⟩,
  ⟨(some 91), .fad 0 (.tmp 2), none⟩,
  ⟨(some 92), .ld none (.tmp 91), none⟩,
  ⟨(some 93), .mv (.tmp 7), none⟩,
  ⟨(some 94), .iad 1 (.tmp 92) (.tmp 93), none⟩,
  ⟨(some 95), .ld none (.tmp 94), none⟩,
  ⟨(some 96), .bin .sub (.tmp 90) (.tmp 95), none⟩,
  ⟨(some 6), .mv (.tmp 96), none⟩])))))
 (.reg [⟨(some 15), .mv (.tmp 7), none⟩,
  ⟨(some 16), .bin .add (.tmp 15) (.const (.int .i64 1)), none⟩,
  ⟨(some 7), .mv (.tmp 16), none⟩]))))))
 (.seq (.reg [⟨(some 97), .mv (.tmp 5), none⟩,
  ⟨(some 4), .mv (.tmp 97), none⟩])
 (.ret))))
def r_spec_l4Traced : List ARes := [.tmp 4]
theorem ok_spec_l4Traced : FnOk Try.prog 190 98 c_spec_l4Traced r_spec_l4Traced := ⟨⟨Try.f190, _, Try.func190, by kernel_rfl, rfl, rfl, by kernel_rfl, by kernel_rfl⟩⟩
def c_spec_l4Future : ACode := .seq (.reg [⟨(some 2), .box 26 (.tmp 0), none⟩,
  ⟨(some 4), .mv (.const (.slice none 0 0)), none⟩])
 (.seq (.reg [⟨(some 15), .fad 0 (.tmp 2), none⟩,
  ⟨(some 16), .ld none (.tmp 15), none⟩,
  ⟨(some 17), .call (.func 155) [(.tmp 16)], none⟩,
  ⟨(some 5), .mv (.tmp 17), none⟩])
 (.seq (.reg [⟨(some 18), .mv (.tmp 5), none⟩,
  ⟨(some 19), .bin .add (.tmp 18) (.const (.int .i64 1)), none⟩,
  ⟨(some 20), .mks 3 8 [(.int .i64 0)] (.tmp 19) (.tmp 19), none⟩,
  ⟨(some 6), .mv (.tmp 20), none⟩])
 (.seq (.seq (.reg [⟨(some 7), .mv (.const (.int .i64 1)), none⟩])
 (.block 0 (.loop (.seq (.seq (.reg [⟨(some 21), .mv (.tmp 7), none⟩,
  ⟨(some 22), .mv (.tmp 5), none⟩,
  ⟨(some 23), .bin .leq (.tmp 21) (.tmp 22), none⟩])
 (.cond (.tmp 23) (.skip) (.exit 0)))
 (.seq (.block 1 (.reg [⟨(some 26), .mv (.tmp 6), none⟩,
  ⟨(some 27), .mv (.tmp 7), none⟩,
  ⟨(some 28), .iad 1 (.tmp 26) (.tmp 27), none⟩,
  ⟨none, .st 1 (.tmp 28) (.const (.int .i64 (-1))), none⟩]))
 (.reg [⟨(some 24), .mv (.tmp 7), none⟩,
  ⟨(some 25), .bin .add (.tmp 24) (.const (.int .i64 1)), none⟩,
  ⟨(some 7), .mv (.tmp 25), none⟩]))))))
 (.seq (.reg [⟨(some 29), .mv (.tmp 6), none⟩,
  ⟨(some 30), .bsl 24 1 1 [(.slice none 0 0)] [(0, 1, (.tmp 29))], none⟩,
  ⟨(some 8), .mv (.tmp 30), none⟩])
 (.seq (.seq (.reg [⟨(some 31), .fad 0 (.tmp 2), none⟩,
  ⟨(some 32), .ld none (.tmp 31), none⟩,
  ⟨(some 33), .len (.tmp 32), none⟩,
  ⟨(some 34), .bin .sub (.tmp 33) (.const (.int .i64 1)), none⟩,
  ⟨(some 9), .mv (.tmp 34), none⟩])
 (.block 2 (.loop (.seq (.seq (.reg [⟨(some 35), .mv (.tmp 9), none⟩,
  ⟨(some 36), .bin .geq (.tmp 35) (.const (.int .i64 0)), none⟩])
 (.cond (.tmp 36) (.skip) (.exit 2)))
 (.seq (.block 3 (.seq (.reg [⟨(some 39), .bsl 3 1 0 [] [], none⟩,
  ⟨(some 10), .mv (.tmp 39), none⟩])
 (.seq (.seq (.reg [⟨(some 11), .mv (.const (.int .i64 0)), none⟩])
 (.block 4 (.loop (.seq (.seq (.reg [⟨(some 40), .mv (.tmp 11), none⟩,
  ⟨(some 41), .mv (.tmp 5), none⟩,
  ⟨(some 42), .bin .leq (.tmp 40) (.tmp 41), none⟩])
 (.cond (.tmp 42) (.skip) (.exit 4)))
 (.seq (.block 5 (.seq (.reg [⟨(some 12), .mv (.const (.int .i64 (-1))), none⟩])
 (.seq (.seq (.reg [⟨(some 13), .mv (.const (.int .i64 0)), none⟩])
 (.block 6 (.loop (.seq (.seq (.reg [⟨(some 45), .mv (.tmp 13), none⟩,
  ⟨(some 46), .mv (.tmp 1), none⟩,
  ⟨(some 47), .mv (.tmp 9), none⟩,
  ⟨(some 48), .iad 1 (.tmp 46) (.tmp 47), none⟩,
  ⟨(some 49), .ld none (.tmp 48), none⟩,
  ⟨(some 50), .bin .leq (.tmp 45) (.tmp 49), none⟩])
 (.cond (.tmp 50) (.skip) (.exit 6)))
 (.seq (.block 7 (.seq (.reg [⟨(some 53), .mv (.tmp 11), none⟩,
  ⟨(some 54), .mv (.tmp 13), none⟩,
  ⟨(some 55), .bin .add (.tmp 53) (.tmp 54), none⟩,
  ⟨(some 56), .fad 0 (.tmp 2), none⟩,
  ⟨(some 57), .ld none (.tmp 56), none⟩,
  ⟨(some 58), .mv (.tmp 9), none⟩,
  ⟨(some 59), .iad 1 (.tmp 57) (.tmp 58), none⟩,
  ⟨(some 60), .ld none (.tmp 59), none⟩,
  ⟨(some 61), .bin .sub (.tmp 55) (.tmp 60), none⟩,
  ⟨(some 14), .mv (.tmp 61), none⟩])
 (.seq (.reg [⟨(some 62), .mv (.tmp 14), none⟩,
  ⟨(some 63), .mv (.tmp 5), none⟩,
  ⟨(some 64), .call (.func 140) [(.tmp 62), (.const (.int .i64 0)), (.tmp 63)], none⟩,
  ⟨(some 65), .mv (.tmp 64), none⟩,
  ⟨(some 66), .mv (.tmp 8), (some (65, true))⟩,
  ⟨(some 67), .iad 1 (.tmp 66) (.const (.int .i64 0)), (some (65, true))⟩,
  ⟨(some 68), .ld none (.tmp 67), (some (65, true))⟩,
  ⟨(some 69), .mv (.tmp 14), (some (65, true))⟩,
  ⟨(some 70), .iad 1 (.tmp 68) (.tmp 69), (some (65, true))⟩,
  ⟨(some 71), .ld none (.tmp 70), (some (65, true))⟩,
  ⟨(some 72), .bin .geq (.tmp 71) (.const (.int .i64 0)), (some (65, true))⟩,
  ⟨(some 73), .pick (.tmp 65) (.tmp 72) (.const (.bool false)), none⟩])
 (.cond (.tmp 73) (.reg [⟨(some 74), .mv (.tmp 12), none⟩,
  ⟨(some 75), .ld (some 4) (.tmp 2), none⟩,
  ⟨(some 76), .mv (.tmp 9), none⟩,
  ⟨(some 77), .mv (.tmp 13), none⟩,
  ⟨(some 78), .mv (.tmp 14), none⟩,
  ⟨(some 80), .mv (.tmp 8), none⟩,
  ⟨(some 81), .iad 1 (.tmp 80) (.const (.int .i64 0)), none⟩,
  ⟨(some 82), .ld none (.tmp 81), none⟩,
  ⟨(some 83), .mv (.tmp 14), none⟩,
  ⟨(some 84), .iad 1 (.tmp 82) (.tmp 83), none⟩,
  ⟨(some 85), .ld none (.tmp 84), none⟩,
  ⟨(some 79), .rcall (.func 208) [(.tmp 75), (.tmp 76), (.tmp 77), (.tmp 78)], none⟩,
  ⟨(some 86), .bin .add (.tmp 79) (.tmp 85), none⟩,
  ⟨(some 87), .rcall (.func 242) [(.tmp 74), (.tmp 86)], none⟩,
  ⟨(some 12), .mv (.tmp 87), none⟩]) (.skip)))))
 (.reg [⟨(some 51), .mv (.tmp 13), none⟩,
  ⟨(some 52), .bin .add (.tmp 51) (.const (.int .i64 1)), none⟩,
  ⟨(some 13), .mv (.tmp 52), none⟩]))))))
 (.reg [⟨(some 88), .mv (.tmp 10), none⟩,
  ⟨(some 89), .mv (.tmp 12), none⟩,
  ⟨(some 90), .bsl 3 1 1 [(.int .i64 0)] [(0, 1, (.tmp 89))], none⟩,
  ⟨(some 91), .app 3 1 8 (.tmp 88) (.tmp 90), none⟩,
  ⟨(some 10), .mv (.tmp 91), none⟩]))))
 (.reg [⟨(some 43), .mv (.tmp 11), none⟩,
  ⟨(some 44), .bin .add (.tmp 43) (.const (.int .i64 1)), none⟩,
  ⟨(some 11), .mv (.tmp 44), none⟩]))))))
 (.reg [⟨(some 92), .mv (.tmp 10), none⟩,
  ⟨(some 93), .bsl 24 1 1 [(.slice none 0 0)] [(0, 1, (.tmp 92))], none⟩,
  ⟨(some 94), .mv (.tmp 8), none⟩,
  ⟨(some 95), .app 24 1 24 (.tmp 93) (.tmp 94), none⟩,
  ⟨(some 8), .mv (.tmp 95), none⟩]))))
 (.reg [⟨(some 37), .mv (.tmp 9), none⟩,
  ⟨(some 38), .bin .sub (.tmp 37) (.const (.int .i64 1)), none⟩,
  ⟨(some 9), .mv (.tmp 38), none⟩]))))))
 (.seq (.reg [⟨(some 96), .mv (.tmp 8), none⟩,
  ⟨(some 4), .mv (.tmp 96), none⟩])
 (.ret)))))))
def r_spec_l4Future : List ARes := [.tmp 4]
theorem ok_spec_l4Future : FnOk Try.prog 191 97 c_spec_l4Future r_spec_l4Future := ⟨⟨Try.f191, _, Try.func191, by kernel_rfl, rfl, rfl, by kernel_rfl, by kernel_rfl⟩⟩
def c_impl_planSearch__cost : ACode := .seq (.reg [⟨(some 2), .mv (.const (.int .i64 0)), none⟩])
 (.seq (.reg [⟨(some 3), .mv (.tmp 0), none⟩,
  ⟨(some 4), .nilc (.tmp 3), none⟩,
  ⟨(some 5), .fad 7 (.tmp 4), none⟩,
  ⟨(some 6), .ld none (.tmp 5), none⟩,
  ⟨(some 7), .iad 1 (.tmp 6) (.const (.int .i64 0)), none⟩,
  ⟨(some 8), .ld none (.tmp 7), none⟩,
  ⟨(some 9), .iad 3 (.tmp 8) (.const (.int .i64 0)), none⟩,
  ⟨(some 10), .fad 1 (.tmp 9), none⟩,
  ⟨(some 11), .ld none (.tmp 10), none⟩,
  ⟨(some 2), .mv (.tmp 11), none⟩])
 (.ret))
def r_impl_planSearch__cost : List ARes := [.tmp 2]
theorem ok_impl_planSearch__cost : FnOk Try.prog 192 12 c_impl_planSearch__cost r_impl_planSearch__cost := ⟨⟨Try.f192, _, Try.func192, by kernel_rfl, rfl, rfl, by kernel_rfl, by kernel_rfl⟩⟩
def c_spec_l4Limits : ACode := .seq (.reg [⟨(some 2), .box 26 (.tmp 0), none⟩,
  ⟨(some 4), .mv (.const (.bool false)), none⟩])
 (.seq (.reg [⟨(some 5), .ld (some 4) (.tmp 2), none⟩,
  ⟨(some 6), .call (.func 129) [(.tmp 5)], none⟩,
  ⟨(some 7), .mv (.tmp 6), none⟩,
  ⟨(some 8), .mv (.tmp 1), (some (7, true))⟩,
  ⟨(some 9), .fad 0 (.tmp 2), (some (7, true))⟩,
  ⟨(some 10), .ld none (.tmp 9), (some (7, true))⟩,
  ⟨(some 11), .len (.tmp 10), (some (7, true))⟩,
  ⟨(some 12), .call (.func 225) [(.tmp 8), (.tmp 11), (.const (.int .i64 160))], (some (7, true))⟩,
  ⟨(some 13), .pick (.tmp 7) (.tmp 12) (.const (.bool false)), none⟩,
  ⟨(some 4), .mv (.tmp 13), none⟩])
 (.ret))
def r_spec_l4Limits : List ARes := [.tmp 4]
theorem ok_spec_l4Limits : FnOk Try.prog 195 14 c_spec_l4Limits r_spec_l4Limits := ⟨⟨Try.f195, _, Try.func195, by kernel_rfl, rfl, rfl, by kernel_rfl, by kernel_rfl⟩⟩
def c_spec_l4Short : ACode := .seq (.reg [⟨(some 2), .box 26 (.tmp 0), none⟩,
  ⟨(some 4), .mv (.const (.int .i64 0)), none⟩,
  ⟨(some 5), .mv (.const (.int .i64 0)), none⟩])
 (.seq (.reg [⟨(some 6), .mv (.const (.int .i64 0)), none⟩])
 (.seq (.seq (.reg [⟨(some 7), .mv (.const (.int .i64 0)), none⟩])
 (.block 0 (.loop (.seq (.seq (.reg [⟨(some 8), .mv (.tmp 7), none⟩,
  ⟨(some 9), .mv (.tmp 1), none⟩,
  ⟨(some 10), .len (.tmp 9), none⟩,
  ⟨(some 11), .bin .lss (.tmp 8) (.tmp 10), none⟩])
 (.cond (.tmp 11) (.skip) (.exit 0)))
 (.seq (.block 1 (.seq (.reg [⟨(some 14), .mv (.tmp 6), none⟩,
  ⟨(some 15), .mv (.tmp 1), none⟩,
  ⟨(some 16), .mv (.tmp 7), none⟩,
  ⟨(some 17), .iad 1 (.tmp 15) (.tmp 16), none⟩,
  ⟨(some 18), .ld none (.tmp 17), none⟩,
  ⟨(some 19), .bin .add (.tmp 14) (.tmp 18), none⟩,
  ⟨(some 20), .fad 0 (.tmp 2), none⟩,
  ⟨(some 21), .ld none (.tmp 20), none⟩,
  ⟨(some 22), .mv (.tmp 7), none⟩,
  ⟨(some 23), .iad 1 (.tmp 21) (.tmp 22), none⟩,
  ⟨(some 24), .ld none (.tmp 23), none⟩,
  ⟨(some 25), .bin .sub (.tmp 19) (.tmp 24), none⟩,
  ⟨(some 6), .mv (.tmp 25), none⟩])
 (.seq (.reg [⟨(some 26), .mv (.tmp 6), none⟩,
  ⟨(some 27), .bin .lss (.tmp 26) (.const (.int .i64 0)), none⟩])
 (.cond (.tmp 27) (.seq (.reg [⟨(some 28), .mv (.tmp 7), none⟩,
  ⟨(some 29), .mv (.tmp 6), none⟩,
  ⟨(some 30), .un .neg (.tmp 29), none⟩,
  ⟨(some 4), .mv (.tmp 28), none⟩,
  ⟨(some 5), .mv (.tmp 30), none⟩])
 (.ret)) (.skip)))))
 (.reg [⟨(some 12), .mv (.tmp 7), none⟩,
  ⟨(some 13), .bin .add (.tmp 12) (.const (.int .i64 1)), none⟩,
  ⟨(some 7), .mv (.tmp 13), none⟩]))))))
 (.seq (.reg [⟨(some 4), .mv (.const (.int .i64 (-1))), none⟩,
  ⟨(some 5), .mv (.const (.int .i64 0)), none⟩])
 (.ret))))
def r_spec_l4Short : List ARes := [.tmp 4, .tmp 5]
theorem ok_spec_l4Short : FnOk Try.prog 196 31 c_spec_l4Short r_spec_l4Short := ⟨⟨Try.f196, _, Try.func196, by kernel_rfl, rfl, rfl, by kernel_rfl, by kernel_rfl⟩⟩
def c_slices_Contains : ACode := .seq (.reg [⟨(some 4), .mv (.const (.bool false)), none⟩])
 (.seq (.reg [⟨(some 5), .mv (.tmp 0), none⟩,
  ⟨(some 6), .mv (.tmp 1), none⟩,
  ⟨(some 7), .call (.func 244) [(.tmp 5), (.tmp 6)], none⟩,
  ⟨(some 8), .bin .geq (.tmp 7) (.const (.int .i64 0)), none⟩,
  ⟨(some 4), .mv (.tmp 8), none⟩])
 (.ret))
def r_slices_Contains : List ARes := [.tmp 4]
theorem ok_slices_Contains : FnOk Try.prog 199 9 c_slices_Contains r_slices_Contains := ⟨⟨Try.f199, _, Try.func199, by kernel_rfl, rfl, rfl, by kernel_rfl, by kernel_rfl⟩⟩
def c_spec_l4Kept : ACode := .seq (.reg [⟨(some 3), .box 26 (.tmp 0), none⟩,
  ⟨(some 6), .mv (.const (.bool false)), none⟩])
 (.seq (.reg [⟨(some 10), .ld (some 4) (.tmp 3), none⟩,
  ⟨(some 11), .mv (.tmp 1), none⟩,
  ⟨(some 12), .mv (.tmp 2), none⟩,
  ⟨(some 13), .call (.func 102) [(.tmp 10), (.tmp 11), (.tmp 12)], none⟩,
  ⟨(some 9), .mv (.tmp 13), none⟩,
  ⟨(some 14), .ext 0 (.tmp 9), none⟩,
  ⟨(some 15), .ext 1 (.tmp 9), none⟩,
  ⟨(some 7), .mv (.tmp 14), none⟩,
  ⟨(some 8), .mv (.tmp 15), none⟩])
 (.seq (.reg [⟨(some 16), .mv (.tmp 7), none⟩,
  ⟨(some 17), .mv (.tmp 16), none⟩,
  ⟨(some 18), .mv (.tmp 8), (some (17, true))⟩,
  ⟨(some 19), .pick (.tmp 17) (.tmp 18) (.const (.bool false)), none⟩,
  ⟨(some 6), .mv (.tmp 19), none⟩])
 (.ret)))
def r_spec_l4Kept : List ARes := [.tmp 6]
theorem ok_spec_l4Kept : FnOk Try.prog 200 20 c_spec_l4Kept r_spec_l4Kept := ⟨⟨Try.f200, _, Try.func200, by kernel_rfl, rfl, rfl, by kernel_rfl, by kernel_rfl⟩⟩
def c_spec_l4Regular : ACode := .seq (.reg [⟨(some 3), .box 26 (.tmp 0), none⟩,
  ⟨(some 6), .mv (.const (.bool false)), none⟩])
 (.seq (.reg [⟨(some 12), .mv (.tmp 1), none⟩,
  ⟨(some 13), .mv (.tmp 2), none⟩,
  ⟨(some 15), .ld (some 4) (.tmp 3), none⟩,
  ⟨(some 16), .mv (.tmp 2), none⟩,
  ⟨(some 14), .rcall (.func 204) [(.tmp 12), (.tmp 13)], none⟩,
  ⟨(some 17), .rcall (.func 174) [(.tmp 15), (.tmp 16)], none⟩,
  ⟨(some 7), .mv (.tmp 14), none⟩,
  ⟨(some 8), .mv (.tmp 17), none⟩])
 (.seq (.seq (.reg [⟨(some 9), .mv (.const (.int .i64 1)), none⟩])
 (.block 0 (.loop (.seq (.seq (.reg [⟨(some 18), .mv (.tmp 9), none⟩,
  ⟨(some 19), .mv (.tmp 7), none⟩,
  ⟨(some 20), .len (.tmp 19), none⟩,
  ⟨(some 21), .bin .lss (.tmp 18) (.tmp 20), none⟩])
 (.cond (.tmp 21) (.skip) (.exit 0)))
 (.seq (.block 1 (.seq (.reg [⟨(some 10), .mv (.const (.bool false)), none⟩])
 (.seq (.seq (.reg [⟨(some 24), .mv (.tmp 7), none⟩,
  ⟨(some 25), .mv (.tmp 9), none⟩,
  ⟨(some 26), .bin .sub (.tmp 25) (.const (.int .i64 1)), none⟩,
  ⟨(some 27), .iad 1 (.tmp 24) (.tmp 26), none⟩,
  ⟨(some 28), .ld none (.tmp 27), none⟩,
  ⟨(some 11), .mv (.tmp 28), none⟩])
 (.block 2 (.loop (.seq (.seq (.reg [⟨(some 29), .mv (.tmp 11), none⟩,
  ⟨(some 30), .mv (.tmp 7), none⟩,
  ⟨(some 31), .mv (.tmp 9), none⟩,
  ⟨(some 32), .iad 1 (.tmp 30) (.tmp 31), none⟩,
  ⟨(some 33), .ld none (.tmp 32), none⟩,
  ⟨(some 34), .bin .lss (.tmp 29) (.tmp 33), none⟩])
 (.cond (.tmp 34) (.skip) (.exit 2)))
 (.seq (.block 3 (.reg [⟨(some 37), .mv (.tmp 10), none⟩,
  ⟨(some 38), .mv (.tmp 37), none⟩,
  ⟨(some 39), .mv (.tmp 8), (some (38, false))⟩,
  ⟨(some 40), .mv (.tmp 11), (some (38, false))⟩,
  ⟨(some 41), .iad 1 (.tmp 39) (.tmp 40), (some (38, false))⟩,
  ⟨(some 42), .ld none (.tmp 41), (some (38, false))⟩,
  ⟨(some 43), .bin .eql (.tmp 42) (.const (.int .i64 0)), (some (38, false))⟩,
  ⟨(some 44), .pick (.tmp 38) (.const (.bool true)) (.tmp 43), none⟩,
  ⟨(some 10), .mv (.tmp 44), none⟩]))
 (.reg [⟨(some 35), .mv (.tmp 11), none⟩,
  ⟨(some 36), .bin .add (.tmp 35) (.const (.int .i64 1)), none⟩,
  ⟨(some 11), .mv (.tmp 36), none⟩]))))))
 (.seq (.reg [⟨(some 45), .mv (.tmp 10), none⟩,
  ⟨(some 46), .un .not (.tmp 45), none⟩])
 (.cond (.tmp 46) (.seq (.reg [⟨(some 6), .mv (.const (.bool false)), none⟩])
 (.ret)) (.skip))))))
 (.reg [⟨(some 22), .mv (.tmp 9), none⟩,
  ⟨(some 23), .bin .add (.tmp 22) (.const (.int .i64 1)), none⟩,
  ⟨(some 9), .mv (.tmp 23), none⟩]))))))
 (.seq (.reg [⟨(some 6), .mv (.const (.bool true)), none⟩])
 (.ret))))
def r_spec_l4Regular : List ARes := [.tmp 6]
theorem ok_spec_l4Regular : FnOk Try.prog 201 47 c_spec_l4Regular r_spec_l4Regular := ⟨⟨Try.f201, _, Try.func201, by kernel_rfl, rfl, rfl, by kernel_rfl, by kernel_rfl⟩⟩
def c_spec_l4Keeps : ACode := .seq (.reg [⟨(some 4), .mv (.const (.bool false)), none⟩])
 (.seq (.seq (.reg [⟨(some 5), .mv (.const (.int .i64 0)), none⟩])
 (.block 0 (.loop (.seq (.seq (.reg [⟨(some 6), .mv (.tmp 5), none⟩,
  ⟨(some 7), .mv (.tmp 1), none⟩,
  ⟨(some 8), .len (.tmp 7), none⟩,
  ⟨(some 9), .bin .lss (.tmp 6) (.tmp 8), none⟩])
 (.cond (.tmp 9) (.skip) (.exit 0)))
 (.seq (.block 1 (.seq (.reg [⟨(some 12), .mv (.tmp 1), none⟩,
  ⟨(some 13), .mv (.tmp 5), none⟩,
  ⟨(some 14), .iad 1 (.tmp 12) (.tmp 13), none⟩,
  ⟨(some 15), .ld none (.tmp 14), none⟩,
  ⟨(some 16), .mv (.tmp 0), none⟩,
  ⟨(some 17), .mv (.tmp 5), none⟩,
  ⟨(some 18), .iad 1 (.tmp 16) (.tmp 17), none⟩,
  ⟨(some 19), .ld none (.tmp 18), none⟩,
  ⟨(some 20), .bin .gtr (.tmp 15) (.tmp 19), none⟩])
 (.cond (.tmp 20) (.seq (.reg [⟨(some 4), .mv (.const (.bool false)), none⟩])
 (.ret)) (.skip))))
 (.reg [⟨(some 10), .mv (.tmp 5), none⟩,
  ⟨(some 11), .bin .add (.tmp 10) (.const (.int .i64 1)), none⟩,
  ⟨(some 5), .mv (.tmp 11), none⟩]))))))
 (.seq (.reg [⟨(some 4), .mv (.const (.bool true)), none⟩])
 (.ret)))
def r_spec_l4Keeps : List ARes := [.tmp 4]
theorem ok_spec_l4Keeps : FnOk Try.prog 202 21 c_spec_l4Keeps r_spec_l4Keeps := ⟨⟨Try.f202, _, Try.func202, by kernel_rfl, rfl, rfl, by kernel_rfl, by kernel_rfl⟩⟩
def c_spec_l4Partial : ACode := .seq (.reg [⟨(some 4), .mv (.const (.slice none 0 0)), none⟩])
 (.seq (.reg [⟨(some 7), .bsl 3 1 0 [] [], none⟩,
  ⟨(some 5), .mv (.tmp 7), none⟩])
 (.seq (.seq (.reg [⟨(some 6), .mv (.const (.int .i64 0)), none⟩])
 (.block 0 (.loop (.seq (.seq (.reg [⟨(some 8), .mv (.tmp 6), none⟩,
  ⟨(some 9), .mv (.tmp 1), none⟩,
  ⟨(some 10), .len (.tmp 9), none⟩,
  ⟨(some 11), .bin .lss (.tmp 8) (.tmp 10), none⟩])
 (.cond (.tmp 11) (.skip) (.exit 0)))
 (.seq (.block 1 (.seq (.reg [⟨(some 14), .mv (.tmp 1), none⟩,
  ⟨(some 15), .mv (.tmp 6), none⟩,
  ⟨(some 16), .iad 1 (.tmp 14) (.tmp 15), none⟩,
  ⟨(some 17), .ld none (.tmp 16), none⟩,
  ⟨(some 18), .bin .gtr (.tmp 17) (.const (.int .i64 0)), none⟩,
  ⟨(some 19), .mv (.tmp 18), none⟩,
  ⟨(some 20), .mv (.tmp 1), (some (19, true))⟩,
  ⟨(some 21), .mv (.tmp 6), (some (19, true))⟩,
  ⟨(some 22), .iad 1 (.tmp 20) (.tmp 21), (some (19, true))⟩,
  ⟨(some 23), .ld none (.tmp 22), (some (19, true))⟩,
  ⟨(some 24), .mv (.tmp 0), (some (19, true))⟩,
  ⟨(some 25), .mv (.tmp 6), (some (19, true))⟩,
  ⟨(some 26), .iad 1 (.tmp 24) (.tmp 25), (some (19, true))⟩,
  ⟨(some 27), .ld none (.tmp 26), (some (19, true))⟩,
  ⟨(some 28), .bin .lss (.tmp 23) (.tmp 27), (some (19, true))⟩,
  ⟨(some 29), .pick (.tmp 19) (.tmp 28) (.const (.bool false)), none⟩])
 (.cond (.tmp 29) (.reg [⟨(some 30), .mv (.tmp 5), none⟩,
  ⟨(some 31), .mv (.tmp 6), none⟩,
  ⟨(some 32), .bsl 3 1 1 [(.int .i64 0)] [(0, 1, (.tmp 31))], none⟩,
  ⟨(some 33), .app 3 1 8 (.tmp 30) (.tmp 32), none⟩,
  ⟨(some 5), .mv (.tmp 33), none⟩]) (.skip))))
 (.reg [⟨(some 12), .mv (.tmp 6), none⟩,
  ⟨(some 13), .bin .add (.tmp 12) (.const (.int .i64 1)), none⟩,
  ⟨(some 6), .mv (.tmp 13), none⟩]))))))
 (.seq (.reg [⟨(some 34), .mv (.tmp 5), none⟩,
  ⟨(some 4), .mv (.tmp 34), none⟩])
 (.ret))))
def r_spec_l4Partial : List ARes := [.tmp 4]
theorem ok_spec_l4Partial : FnOk Try.prog 204 35 c_spec_l4Partial r_spec_l4Partial := ⟨⟨Try.f204, _, Try.func204, by kernel_rfl, rfl, rfl, by kernel_rfl, by kernel_rfl⟩⟩
def c_spec_l4Pairs : ACode := .seq (.reg [⟨(some 2), .box 26 (.tmp 0), none⟩,
  ⟨(some 4), .mv (.const (.slice none 0 0)), none⟩])
 (.seq (.reg [⟨(some 12), .fad 0 (.tmp 2), none⟩,
  ⟨(some 13), .ld none (.tmp 12), none⟩,
  ⟨(some 14), .call (.func 155) [(.tmp 13)], none⟩,
  ⟨(some 15), .bld [(.int .i64 0), (.int .i64 0)] [], none⟩,
  ⟨(some 16), .bsl 131 2 1 [(.int .i64 0), (.int .i64 0)] [(0, 2, (.tmp 15))], none⟩,
  ⟨(some 5), .mv (.tmp 14), none⟩,
  ⟨(some 6), .mv (.tmp 16), none⟩])
 (.seq (.seq (.reg [⟨(some 7), .mv (.const (.int .i64 1)), none⟩])
 (.block 0 (.loop (.seq (.seq (.reg [⟨(some 17), .mv (.tmp 7), none⟩,
  ⟨(some 18), .mv (.tmp 5), none⟩,
  ⟨(some 19), .bin .leq (.tmp 17) (.tmp 18), none⟩])
 (.cond (.tmp 19) (.skip) (.exit 0)))
 (.seq (.block 1 (.reg [⟨(some 22), .mv (.tmp 6), none⟩,
  ⟨(some 23), .bld [(.int .i64 0), (.int .i64 0)] [(0, 1, (.const (.int .i64 (-1)))), (1, 1, (.const (.int .i64 (-1))))], none⟩,
  ⟨(some 24), .bsl 131 2 1 [(.int .i64 0), (.int .i64 0)] [(0, 2, (.tmp 23))], none⟩,
  ⟨(some 25), .app 131 2 16 (.tmp 22) (.tmp 24), none⟩,
  ⟨(some 6), .mv (.tmp 25), none⟩]))
 (.reg [⟨(some 20), .mv (.tmp 7), none⟩,
  ⟨(some 21), .bin .add (.tmp 20) (.const (.int .i64 1)), none⟩,
  ⟨(some 7), .mv (.tmp 21), none⟩]))))))
 (.seq (.reg [⟨(some 26), .mv (.tmp 6), none⟩,
  ⟨(some 27), .bsl 127 1 1 [(.slice none 0 0)] [(0, 1, (.tmp 26))], none⟩,
  ⟨(some 8), .mv (.tmp 27), none⟩])
 (.seq (.seq (.reg [⟨(some 28), .fad 0 (.tmp 2), none⟩,
  ⟨(some 29), .ld none (.tmp 28), none⟩,
  ⟨(some 30), .len (.tmp 29), none⟩,
  ⟨(some 31), .bin .sub (.tmp 30) (.const (.int .i64 1)), none⟩,
  ⟨(some 9), .mv (.tmp 31), none⟩])
 (.block 2 (.loop (.seq (.seq (.reg [⟨(some 32), .mv (.tmp 9), none⟩,
  ⟨(some 33), .bin .geq (.tmp 32) (.const (.int .i64 0)), none⟩])
 (.cond (.tmp 33) (.skip) (.exit 2)))
 (.seq (.block 3 (.seq (.reg [⟨(some 36), .bsl 131 2 0 [] [], none⟩,
  ⟨(some 10), .mv (.tmp 36), none⟩])
 (.seq (.seq (.reg [⟨(some 11), .mv (.const (.int .i64 0)), none⟩])
 (.block 4 (.loop (.seq (.seq (.reg [⟨(some 37), .mv (.tmp 11), none⟩,
  ⟨(some 38), .mv (.tmp 5), none⟩,
  ⟨(some 39), .bin .leq (.tmp 37) (.tmp 38), none⟩])
 (.cond (.tmp 39) (.skip) (.exit 4)))
 (.seq (.block 5 (.reg [⟨(some 42), .mv (.tmp 10), none⟩,
  ⟨(some 43), .ld (some 4) (.tmp 2), none⟩,
  ⟨(some 44), .mv (.tmp 1), none⟩,
  ⟨(some 45), .mv (.tmp 8), none⟩,
  ⟨(some 46), .iad 1 (.tmp 45) (.const (.int .i64 0)), none⟩,
  ⟨(some 47), .ld none (.tmp 46), none⟩,
  ⟨(some 48), .mv (.tmp 9), none⟩,
  ⟨(some 49), .mv (.tmp 11), none⟩,
  ⟨(some 51), .ld (some 4) (.tmp 2), none⟩,
  ⟨(some 52), .mv (.tmp 1), none⟩,
  ⟨(some 53), .mv (.tmp 8), none⟩,
  ⟨(some 54), .iad 1 (.tmp 53) (.const (.int .i64 0)), none⟩,
  ⟨(some 55), .ld none (.tmp 54), none⟩,
  ⟨(some 56), .mv (.tmp 9), none⟩,
  ⟨(some 57), .mv (.tmp 11), none⟩,
  ⟨(some 50), .rcall (.func 245) [(.tmp 43), (.tmp 44), (.tmp 47), (.tmp 48), (.tmp 49), (.const (.bool false))], none⟩,
  ⟨(some 58), .rcall (.func 245) [(.tmp 51), (.tmp 52), (.tmp 55), (.tmp 56), (.tmp 57), (.const (.bool true))], none⟩,
  ⟨(some 59), .bld [(.int .i64 0), (.int .i64 0)] [(0, 1, (.tmp 50)), (1, 1, (.tmp 58))], none⟩,
  ⟨(some 60), .bsl 131 2 1 [(.int .i64 0), (.int .i64 0)] [(0, 2, (.tmp 59))], none⟩,
  ⟨(some 61), .app 131 2 16 (.tmp 42) (.tmp 60), none⟩,
  ⟨(some 10), .mv (.tmp 61), none⟩]))
 (.reg [⟨(some 40), .mv (.tmp 11), none⟩,
  ⟨(some 41), .bin .add (.tmp 40) (.const (.int .i64 1)), none⟩,
  ⟨(some 11), .mv (.tmp 41), none⟩]))))))
 (.reg [⟨(some 62), .mv (.tmp 10), none⟩,
  ⟨(some 63), .bsl 127 1 1 [(.slice none 0 0)] [(0, 1, (.tmp 62))], none⟩,
  ⟨(some 64), .mv (.tmp 8), none⟩,
  ⟨(some 65), .app 127 1 24 (.tmp 63) (.tmp 64), none⟩,
  ⟨(some 8), .mv (.tmp 65), none⟩]))))
 (.reg [⟨(some 34), .mv (.tmp 9), none⟩,
  ⟨(some 35), .bin .sub (.tmp 34) (.const (.int .i64 1)), none⟩,
  ⟨(some 9), .mv (.tmp 35), none⟩]))))))
 (.seq (.reg [⟨(some 66), .mv (.tmp 8), none⟩,
  ⟨(some 4), .mv (.tmp 66), none⟩])
 (.ret))))))
def r_spec_l4Pairs : List ARes := [.tmp 4]
theorem ok_spec_l4Pairs : FnOk Try.prog 205 67 c_spec_l4Pairs r_spec_l4Pairs := ⟨⟨Try.f205, _, Try.func205, by kernel_rfl, rfl, rfl, by kernel_rfl, by kernel_rfl⟩⟩
def c_spec_l1Most : ACode := .seq (.reg [⟨(some 4), .mv (.const (.int .i64 0)), none⟩])
 (.seq (.seq (.reg [⟨(some 5), .mv (.tmp 0), none⟩,
  ⟨(some 6), .mv (.tmp 1), none⟩,
  ⟨(some 7), .bin .gtr (.tmp 5) (.tmp 6), none⟩])
 (.cond (.tmp 7) (.seq (.reg [⟨(some 8), .mv (.tmp 0), none⟩,
  ⟨(some 4), .mv (.tmp 8), none⟩])
 (.ret)) (.skip)))
 (.seq (.reg [⟨(some 9), .mv (.tmp 1), none⟩,
  ⟨(some 4), .mv (.tmp 9), none⟩])
 (.ret)))
def r_spec_l1Most : List ARes := [.tmp 4]
theorem ok_spec_l1Most : FnOk Try.prog 206 10 c_spec_l1Most r_spec_l1Most := ⟨⟨Try.f206, _, Try.func206, by kernel_rfl, rfl, rfl, by kernel_rfl, by kernel_rfl⟩⟩
def c_spec_l4Now : ACode := .seq (.reg [⟨(some 12), .mv (.const (.int .i64 0)), none⟩])
 (.seq (.reg [⟨(some 14), .mv (.tmp 3), none⟩,
  ⟨(some 15), .bin .gtr (.tmp 14) (.const (.int .i64 0)), none⟩,
  ⟨(some 16), .mv (.tmp 15), none⟩,
  ⟨(some 17), .mv (.tmp 3), (some (16, true))⟩,
  ⟨(some 18), .mv (.tmp 0), (some (16, true))⟩,
  ⟨(some 19), .mv (.tmp 2), (some (16, true))⟩,
  ⟨(some 20), .iad 1 (.tmp 18) (.tmp 19), (some (16, true))⟩,
  ⟨(some 21), .ld none (.tmp 20), (some (16, true))⟩,
  ⟨(some 22), .bin .lss (.tmp 17) (.tmp 21), (some (16, true))⟩,
  ⟨(some 23), .pick (.tmp 16) (.tmp 22) (.const (.bool false)), none⟩,
  ⟨(some 13), .mv (.tmp 23), none⟩])
 (.seq (.seq (.reg [⟨(some 24), .mv (.tmp 13), none⟩,
  ⟨(some 25), .mv (.tmp 24), none⟩,
  ⟨(some 26), .mv (.tmp 5), (some (25, true))⟩,
  ⟨(some 27), .pick (.tmp 25) (.tmp 26) (.const (.bool false)), none⟩])
 (.cond (.tmp 27) (.seq (.reg [⟨(some 12), .mv (.const (.int .i64 (-1))), none⟩])
 (.ret)) (.skip)))
 (.seq (.reg [⟨(some 28), .mv (.tmp 1), none⟩,
  ⟨(some 29), .mv (.tmp 4), none⟩,
  ⟨(some 30), .iad 2 (.tmp 28) (.tmp 29), none⟩,
  ⟨(some 31), .ld (some 2) (.tmp 30), none⟩,
  ⟨(some 32), .mv (.tmp 4), none⟩,
  ⟨(some 33), .bin .gtr (.tmp 32) (.const (.int .i64 0)), none⟩,
  ⟨(some 34), .mv (.tmp 33), none⟩,
  ⟨(some 35), .mv (.tmp 5), (some (34, true))⟩,
  ⟨(some 36), .mv (.tmp 35), (some (34, true))⟩,
  ⟨(some 37), .mv (.tmp 13), (some (36, false))⟩,
  ⟨(some 38), .pick (.tmp 36) (.const (.bool true)) (.tmp 37), (some (34, true))⟩,
  ⟨(some 39), .pick (.tmp 34) (.tmp 38) (.const (.bool false)), none⟩,
  ⟨(some 40), .call (.func 209) [(.tmp 31), (.tmp 39)], none⟩,
  ⟨(some 12), .mv (.tmp 40), none⟩])
 (.ret))))
def r_spec_l4Now : List ARes := [.tmp 12]
theorem ok_spec_l4Now : FnOk Try.prog 207 41 c_spec_l4Now r_spec_l4Now := ⟨⟨Try.f207, _, Try.func207, by kernel_rfl, rfl, rfl, by kernel_rfl, by kernel_rfl⟩⟩
def c_spec_l4Step : ACode := .seq (.reg [⟨(some 4), .box 26 (.tmp 0), none⟩,
  ⟨(some 8), .mv (.const (.int .i64 0)), none⟩])
 (.seq (.reg [⟨(some 10), .fad 2 (.tmp 4), none⟩,
  ⟨(some 11), .ld none (.tmp 10), none⟩,
  ⟨(some 12), .mv (.tmp 1), none⟩,
  ⟨(some 13), .iad 1 (.tmp 11) (.tmp 12), none⟩,
  ⟨(some 14), .ld none (.tmp 13), none⟩,
  ⟨(some 15), .mv (.tmp 2), none⟩,
  ⟨(some 16), .bin .mul (.tmp 14) (.tmp 15), none⟩,
  ⟨(some 17), .fad 3 (.tmp 4), none⟩,
  ⟨(some 18), .ld none (.tmp 17), none⟩,
  ⟨(some 19), .mv (.tmp 1), none⟩,
  ⟨(some 20), .iad 1 (.tmp 18) (.tmp 19), none⟩,
  ⟨(some 21), .ld none (.tmp 20), none⟩,
  ⟨(some 22), .mv (.tmp 3), none⟩,
  ⟨(some 23), .bin .mul (.tmp 21) (.tmp 22), none⟩,
  ⟨(some 24), .bin .add (.tmp 16) (.tmp 23), none⟩,
  ⟨(some 9), .mv (.tmp 24), none⟩])
 (.seq (.seq (.reg [⟨(some 25), .mv (.tmp 2), none⟩,
  ⟨(some 26), .bin .gtr (.tmp 25) (.const (.int .i64 0)), none⟩])
 (.cond (.tmp 26) (.reg [⟨(some 27), .mv (.tmp 9), none⟩,
  ⟨(some 28), .fad 1 (.tmp 4), none⟩,
  ⟨(some 29), .ld none (.tmp 28), none⟩,
  ⟨(some 30), .mv (.tmp 1), none⟩,
  ⟨(some 31), .iad 1 (.tmp 29) (.tmp 30), none⟩,
  ⟨(some 32), .ld none (.tmp 31), none⟩,
  ⟨(some 33), .bin .add (.tmp 27) (.tmp 32), none⟩,
  ⟨(some 9), .mv (.tmp 33), none⟩]) (.skip)))
 (.seq (.reg [⟨(some 34), .mv (.tmp 9), none⟩,
  ⟨(some 8), .mv (.tmp 34), none⟩])
 (.ret))))
def r_spec_l4Step : List ARes := [.tmp 8]
theorem ok_spec_l4Step : FnOk Try.prog 208 35 c_spec_l4Step r_spec_l4Step := ⟨⟨Try.f208, _, Try.func208, by kernel_rfl, rfl, rfl, by kernel_rfl, by kernel_rfl⟩⟩
def c_spec_l4Cost : ACode := .seq (.reg [⟨(some 2), .box 131 (.tmp 0), none⟩,
  ⟨(some 4), .mv (.const (.int .i64 0)), none⟩])
 (.seq (.seq (.reg [⟨(some 5), .mv (.tmp 1), none⟩])
 (.cond (.tmp 5) (.seq (.reg [⟨(some 6), .fad 1 (.tmp 2), none⟩,
  ⟨(some 7), .ld none (.tmp 6), none⟩,
  ⟨(some 4), .mv (.tmp 7), none⟩])
 (.ret)) (.skip)))
 (.seq (.reg [⟨(some 8), .fad 0 (.tmp 2), none⟩,
  ⟨(some 9), .ld none (.tmp 8), none⟩,
  ⟨(some 4), .mv (.tmp 9), none⟩])
 (.ret)))
def r_spec_l4Cost : List ARes := [.tmp 4]
theorem ok_spec_l4Cost : FnOk Try.prog 209 10 c_spec_l4Cost r_spec_l4Cost := ⟨⟨Try.f209, _, Try.func209, by kernel_rfl, rfl, rfl, by kernel_rfl, by kernel_rfl⟩⟩
def c_spec_l4Rates : ACode := .seq (.reg [⟨(some 2), .box 26 (.tmp 0), none⟩,
  ⟨(some 4), .mv (.const (.bool false)), none⟩])
 (.seq (.reg [⟨(some 5), .ld (some 4) (.tmp 2), none⟩,
  ⟨(some 6), .call (.func 129) [(.tmp 5)], none⟩,
  ⟨(some 7), .mv (.tmp 6), none⟩,
  ⟨(some 8), .mv (.tmp 1), (some (7, true))⟩,
  ⟨(some 9), .fad 0 (.tmp 2), (some (7, true))⟩,
  ⟨(some 10), .ld none (.tmp 9), (some (7, true))⟩,
  ⟨(some 11), .len (.tmp 10), (some (7, true))⟩,
  ⟨(some 12), .call (.func 225) [(.tmp 8), (.tmp 11), (.const (.int .i64 9))], (some (7, true))⟩,
  ⟨(some 13), .pick (.tmp 7) (.tmp 12) (.const (.bool false)), none⟩,
  ⟨(some 4), .mv (.tmp 13), none⟩])
 (.ret))
def r_spec_l4Rates : List ARes := [.tmp 4]
theorem ok_spec_l4Rates : FnOk Try.prog 214 14 c_spec_l4Rates r_spec_l4Rates := ⟨⟨Try.f214, _, Try.func214, by kernel_rfl, rfl, rfl, by kernel_rfl, by kernel_rfl⟩⟩
def c_spec_l4Late : ACode := .seq (.reg [⟨(some 2), .box 26 (.tmp 0), none⟩,
  ⟨(some 4), .mv (.const (.bool false)), none⟩])
 (.seq (.reg [⟨(some 5), .mv (.tmp 1), none⟩,
  ⟨(some 6), .fad 0 (.tmp 2), none⟩,
  ⟨(some 7), .ld none (.tmp 6), none⟩,
  ⟨(some 8), .len (.tmp 7), none⟩,
  ⟨(some 9), .rcall (.func 225) [(.tmp 5), (.tmp 8), (.const (.int .i64 160))], none⟩,
  ⟨(some 10), .mv (.tmp 9), none⟩,
  ⟨(some 11), .mv (.tmp 1), (some (10, true))⟩,
  ⟨(some 13), .fad 0 (.tmp 2), (some (10, true))⟩,
  ⟨(some 14), .ld none (.tmp 13), (some (10, true))⟩,
  ⟨(some 12), .rcall (.func 155) [(.tmp 11)], (some (10, true))⟩,
  ⟨(some 15), .rcall (.func 155) [(.tmp 14)], (some (10, true))⟩,
  ⟨(some 16), .bin .eql (.tmp 12) (.tmp 15), (some (10, true))⟩,
  ⟨(some 17), .pick (.tmp 10) (.tmp 16) (.const (.bool false)), none⟩,
  ⟨(some 4), .mv (.tmp 17), none⟩])
 (.ret))
def r_spec_l4Late : List ARes := [.tmp 4]
theorem ok_spec_l4Late : FnOk Try.prog 215 18 c_spec_l4Late r_spec_l4Late := ⟨⟨Try.f215, _, Try.func215, by kernel_rfl, rfl, rfl, by kernel_rfl, by kernel_rfl⟩⟩
def c_spec_l4Owe : ACode := .seq (.reg [⟨(some 5), .box 26 (.tmp 0), none⟩,
  ⟨(some 10), .mv (.const (.int .i64 0)), none⟩])
 (.seq (.reg [⟨(some 11), .ld (some 4) (.tmp 5), none⟩,
  ⟨(some 12), .mv (.tmp 2), none⟩,
  ⟨(some 13), .mv (.tmp 3), none⟩,
  ⟨(some 14), .mv (.tmp 4), none⟩,
  ⟨(some 17), .mv (.tmp 1), none⟩,
  ⟨(some 18), .mv (.tmp 2), none⟩,
  ⟨(some 19), .iad 1 (.tmp 17) (.tmp 18), none⟩,
  ⟨(some 20), .ld none (.tmp 19), none⟩,
  ⟨(some 21), .mv (.tmp 4), none⟩,
  ⟨(some 22), .un .neg (.tmp 21), none⟩,
  ⟨(some 15), .rcall (.func 206) [(.tmp 14), (.const (.int .i64 0))], none⟩,
  ⟨(some 16), .rcall (.func 208) [(.tmp 11), (.tmp 12), (.tmp 13), (.tmp 15)], none⟩,
  ⟨(some 23), .rcall (.func 206) [(.tmp 22), (.const (.int .i64 0))], none⟩,
  ⟨(some 24), .bin .mul (.tmp 20) (.tmp 23), none⟩,
  ⟨(some 25), .bin .add (.tmp 16) (.tmp 24), none⟩,
  ⟨(some 10), .mv (.tmp 25), none⟩])
 (.ret))
def r_spec_l4Owe : List ARes := [.tmp 10]
theorem ok_spec_l4Owe : FnOk Try.prog 216 26 c_spec_l4Owe r_spec_l4Owe := ⟨⟨Try.f216, _, Try.func216, by kernel_rfl, rfl, rfl, by kernel_rfl, by kernel_rfl⟩⟩
def c_spec_l4Owed : ACode := .seq (.reg [⟨(some 2), .box 26 (.tmp 0), none⟩,
  ⟨(some 4), .mv (.const (.slice none 0 0)), none⟩])
 (.seq (.reg [⟨(some 15), .fad 0 (.tmp 2), none⟩,
  ⟨(some 16), .ld none (.tmp 15), none⟩,
  ⟨(some 17), .call (.func 155) [(.tmp 16)], none⟩,
  ⟨(some 5), .mv (.tmp 17), none⟩])
 (.seq (.reg [⟨(some 18), .bsl 3 1 0 [] [], none⟩,
  ⟨(some 6), .mv (.tmp 18), none⟩])
 (.seq (.seq (.reg [⟨(some 19), .mv (.tmp 5), none⟩,
  ⟨(some 20), .un .neg (.tmp 19), none⟩,
  ⟨(some 7), .mv (.tmp 20), none⟩])
 (.block 0 (.loop (.seq (.seq (.reg [⟨(some 21), .mv (.tmp 7), none⟩,
  ⟨(some 22), .mv (.tmp 5), none⟩,
  ⟨(some 23), .bin .leq (.tmp 21) (.tmp 22), none⟩])
 (.cond (.tmp 23) (.skip) (.exit 0)))
 (.seq (.block 1 (.reg [⟨(some 26), .mv (.tmp 6), none⟩,
  ⟨(some 27), .bsl 3 1 1 [(.int .i64 0)] [(0, 1, (.const (.int .i64 (-1))))], none⟩,
  ⟨(some 28), .app 3 1 8 (.tmp 26) (.tmp 27), none⟩,
  ⟨(some 6), .mv (.tmp 28), none⟩]))
 (.reg [⟨(some 24), .mv (.tmp 7), none⟩,
  ⟨(some 25), .bin .add (.tmp 24) (.const (.int .i64 1)), none⟩,
  ⟨(some 7), .mv (.tmp 25), none⟩]))))))
 (.seq (.reg [⟨(some 29), .mv (.tmp 6), none⟩,
  ⟨(some 30), .mv (.tmp 5), none⟩,
  ⟨(some 31), .iad 1 (.tmp 29) (.tmp 30), none⟩,
  ⟨none, .st 1 (.tmp 31) (.const (.int .i64 0)), none⟩])
 (.seq (.reg [⟨(some 32), .mv (.tmp 6), none⟩,
  ⟨(some 33), .bsl 24 1 1 [(.slice none 0 0)] [(0, 1, (.tmp 32))], none⟩,
  ⟨(some 8), .mv (.tmp 33), none⟩])
 (.seq (.seq (.reg [⟨(some 34), .fad 0 (.tmp 2), none⟩,
  ⟨(some 35), .ld none (.tmp 34), none⟩,
  ⟨(some 36), .len (.tmp 35), none⟩,
  ⟨(some 37), .bin .sub (.tmp 36) (.const (.int .i64 1)), none⟩,
  ⟨(some 9), .mv (.tmp 37), none⟩])
 (.block 2 (.loop (.seq (.seq (.reg [⟨(some 38), .mv (.tmp 9), none⟩,
  ⟨(some 39), .bin .geq (.tmp 38) (.const (.int .i64 0)), none⟩])
 (.cond (.tmp 39) (.skip) (.exit 2)))
 (.seq (.block 3 (.seq (.reg [⟨(some 42), .bsl 3 1 0 [] [], none⟩,
  ⟨(some 10), .mv (.tmp 42), none⟩])
 (.seq (.seq (.reg [⟨(some 43), .mv (.tmp 5), none⟩,
  ⟨(some 44), .un .neg (.tmp 43), none⟩,
  ⟨(some 11), .mv (.tmp 44), none⟩])
 (.block 4 (.loop (.seq (.seq (.reg [⟨(some 45), .mv (.tmp 11), none⟩,
  ⟨(some 46), .mv (.tmp 5), none⟩,
  ⟨(some 47), .bin .leq (.tmp 45) (.tmp 46), none⟩])
 (.cond (.tmp 47) (.skip) (.exit 4)))
 (.seq (.block 5 (.seq (.reg [⟨(some 12), .mv (.const (.int .i64 (-1))), none⟩])
 (.seq (.seq (.reg [⟨(some 13), .mv (.const (.int .i64 0)), none⟩])
 (.block 6 (.loop (.seq (.seq (.reg [⟨(some 50), .mv (.tmp 13), none⟩,
  ⟨(some 51), .mv (.tmp 5), none⟩,
  ⟨(some 52), .bin .leq (.tmp 50) (.tmp 51), none⟩])
 (.cond (.tmp 52) (.skip) (.exit 6)))
 (.seq (.block 7 (.seq (.reg [⟨(some 55), .mv (.tmp 11), none⟩,
  ⟨(some 56), .mv (.tmp 13), none⟩,
  ⟨(some 57), .bin .add (.tmp 55) (.tmp 56), none⟩,
  ⟨(some 58), .fad 0 (.tmp 2), none⟩,
  ⟨(some 59), .ld none (.tmp 58), none⟩,
  ⟨(some 60), .mv (.tmp 9), none⟩,
  ⟨(some 61), .iad 1 (.tmp 59) (.tmp 60), none⟩,
  ⟨(some 62), .ld none (.tmp 61), none⟩,
  ⟨(some 63), .bin .sub (.tmp 57) (.tmp 62), none⟩,
  ⟨(some 14), .mv (.tmp 63), none⟩])
 (.seq (.reg [⟨(some 64), .mv (.tmp 14), none⟩,
  ⟨(some 65), .mv (.tmp 5), none⟩,
  ⟨(some 66), .un .neg (.tmp 65), none⟩,
  ⟨(some 67), .mv (.tmp 5), none⟩,
  ⟨(some 68), .call (.func 140) [(.tmp 64), (.tmp 66), (.tmp 67)], none⟩,
  ⟨(some 69), .mv (.tmp 68), none⟩,
  ⟨(some 70), .mv (.tmp 8), (some (69, true))⟩,
  ⟨(some 71), .iad 1 (.tmp 70) (.const (.int .i64 0)), (some (69, true))⟩,
  ⟨(some 72), .ld none (.tmp 71), (some (69, true))⟩,
  ⟨(some 73), .mv (.tmp 14), (some (69, true))⟩,
  ⟨(some 74), .mv (.tmp 5), (some (69, true))⟩,
  ⟨(some 75), .bin .add (.tmp 73) (.tmp 74), (some (69, true))⟩,
  ⟨(some 76), .iad 1 (.tmp 72) (.tmp 75), (some (69, true))⟩,
  ⟨(some 77), .ld none (.tmp 76), (some (69, true))⟩,
  ⟨(some 78), .bin .geq (.tmp 77) (.const (.int .i64 0)), (some (69, true))⟩,
  ⟨(some 79), .pick (.tmp 69) (.tmp 78) (.const (.bool false)), none⟩])
 (.cond (.tmp 79) (.reg [⟨(some 80), .mv (.tmp 12), none⟩,
  ⟨(some 81), .ld (some 4) (.tmp 2), none⟩,
  ⟨(some 82), .mv (.tmp 1), none⟩,
  ⟨(some 83), .mv (.tmp 9), none⟩,
  ⟨(some 84), .mv (.tmp 13), none⟩,
  ⟨(some 85), .mv (.tmp 14), none⟩,
  ⟨(some 87), .mv (.tmp 8), none⟩,
  ⟨(some 88), .iad 1 (.tmp 87) (.const (.int .i64 0)), none⟩,
  ⟨(some 89), .ld none (.tmp 88), none⟩,
  ⟨(some 90), .mv (.tmp 14), none⟩,
  ⟨(some 91), .mv (.tmp 5), none⟩,
  ⟨(some 92), .bin .add (.tmp 90) (.tmp 91), none⟩,
  ⟨(some 93), .iad 1 (.tmp 89) (.tmp 92), none⟩,
  ⟨(some 94), .ld none (.tmp 93), none⟩,
  ⟨(some 86), .rcall (.func 216) [(.tmp 81), (.tmp 82), (.tmp 83), (.tmp 84), (.tmp 85)], none⟩,
  ⟨(some 95), .bin .add (.tmp 86) (.tmp 94), none⟩,
  ⟨(some 96), .rcall (.func 242) [(.tmp 80), (.tmp 95)], none⟩,
  ⟨(some 12), .mv (.tmp 96), none⟩]) (.skip)))))
 (.reg [⟨(some 53), .mv (.tmp 13), none⟩,
  ⟨(some 54), .bin .add (.tmp 53) (.const (.int .i64 1)), none⟩,
  ⟨(some 13), .mv (.tmp 54), none⟩]))))))
 (.reg [⟨(some 97), .mv (.tmp 10), none⟩,
  ⟨(some 98), .mv (.tmp 12), none⟩,
  ⟨(some 99), .bsl 3 1 1 [(.int .i64 0)] [(0, 1, (.tmp 98))], none⟩,
  ⟨(some 100), .app 3 1 8 (.tmp 97) (.tmp 99), none⟩,
  ⟨(some 10), .mv (.tmp 100), none⟩]))))
 (.reg [⟨(some 48), .mv (.tmp 11), none⟩,
  ⟨(some 49), .bin .add (.tmp 48) (.const (.int .i64 1)), none⟩,
  ⟨(some 11), .mv (.tmp 49), none⟩]))))))
 (.reg [⟨(some 101), .mv (.tmp 10), none⟩,
  ⟨(some 102), .bsl 24 1 1 [(.slice none 0 0)] [(0, 1, (.tmp 101))], none⟩,
  ⟨(some 103), .mv (.tmp 8), none⟩,
  ⟨(some 104), .app 24 1 24 (.tmp 102) (.tmp 103), none⟩,
  ⟨(some 8), .mv (.tmp 104), none⟩]))))
 (.reg [⟨(some 40), .mv (.tmp 9), none⟩,
  ⟨(some 41), .bin .sub (.tmp 40) (.const (.int .i64 1)), none⟩,
  ⟨(some 9), .mv (.tmp 41), none⟩]))))))
 (.seq (.reg [⟨(some 105), .mv (.tmp 8), none⟩,
  ⟨(some 4), .mv (.tmp 105), none⟩])
 (.ret))))))))
def r_spec_l4Owed : List ARes := [.tmp 4]
theorem ok_spec_l4Owed : FnOk Try.prog 218 106 c_spec_l4Owed r_spec_l4Owed := ⟨⟨Try.f218, _, Try.func218, by kernel_rfl, rfl, rfl, by kernel_rfl, by kernel_rfl⟩⟩
def c_slices_Concat : ACode := .seq (.reg [⟨(some 2), .mv (.const (.slice none 0 0)), none⟩])
 (.seq (.reg [⟨(some 3), .mv (.const (.int .i64 0)), none⟩])
 (.seq (.seq (.reg [⟨(some 9), .mv (.tmp 0), none⟩,
  ⟨(some 10), .len (.tmp 9), none⟩,
  ⟨(some 11), .mv (.const (.int .i64 0)), none⟩])
 (.block 0 (.loop (.seq (.reg [⟨(some 12), .bin .lss (.tmp 11) (.tmp 10), none⟩])
 (.seq (.cond (.tmp 12) (.skip) (.exit 0))
 (.seq (.block 1 (.seq (.reg [⟨(some 13), .iad 1 (.tmp 9) (.tmp 11), none⟩,
  ⟨(some 14), .ld none (.tmp 13), none⟩,
  ⟨(some 5), .mv (.tmp 14), none⟩])
 (.seq (.reg [⟨(some 15), .mv (.tmp 3), none⟩,
  ⟨(some 16), .mv (.tmp 5), none⟩,
  ⟨(some 17), .len (.tmp 16), none⟩,
  ⟨(some 18), .bin .add (.tmp 15) (.tmp 17), none⟩,
  ⟨(some 3), .mv (.tmp 18), none⟩])
 (.seq (.reg [⟨(some 19), .mv (.tmp 3), none⟩,
  ⟨(some 20), .bin .lss (.tmp 19) (.const (.int .i64 0)), none⟩])
 (.cond (.tmp 20) (.reg [⟨(some 21), .never, none⟩,
  ⟨none, .never, none⟩]) (.skip))))))
 (.reg [⟨(some 22), .bin .add (.tmp 11) (.const (.int .i64 1)), none⟩,
  ⟨(some 11), .mv (.tmp 22), none⟩])))))))
 (.seq (.reg [⟨(some 23), .mv (.tmp 3), none⟩,
  ⟨(some 24), .call (.func 247) [(.const (.slice none 0 0)), (.tmp 23)], none⟩,
  ⟨(some 6), .mv (.tmp 24), none⟩])
 (.seq (.seq (.reg [⟨(some 25), .mv (.tmp 0), none⟩,
  ⟨(some 26), .len (.tmp 25), none⟩,
  ⟨(some 27), .mv (.const (.int .i64 0)), none⟩])
 (.block 2 (.loop (.seq (.reg [⟨(some 28), .bin .lss (.tmp 27) (.tmp 26), none⟩])
 (.seq (.cond (.tmp 28) (.skip) (.exit 2))
 (.seq (.block 3 (.seq (.reg [⟨(some 29), .iad 1 (.tmp 25) (.tmp 27), none⟩,
  ⟨(some 30), .ld none (.tmp 29), none⟩,
  ⟨(some 8), .mv (.tmp 30), none⟩])
 (.reg [⟨(some 31), .mv (.tmp 6), none⟩,
  ⟨(some 32), .mv (.tmp 8), none⟩,
  ⟨(some 33), .app 3 1 8 (.tmp 31) (.tmp 32), none⟩,
  ⟨(some 6), .mv (.tmp 33), none⟩])))
 (.reg [⟨(some 34), .bin .add (.tmp 27) (.const (.int .i64 1)), none⟩,
  ⟨(some 27), .mv (.tmp 34), none⟩])))))))
 (.seq (.reg [⟨(some 35), .mv (.tmp 6), none⟩,
  ⟨(some 2), .mv (.tmp 35), none⟩])
 (.ret))))))
def r_slices_Concat : List ARes := [.tmp 2]
theorem ok_slices_Concat : FnOk Try.prog 221 36 c_slices_Concat r_slices_Concat := ⟨⟨Try.f221, _, Try.func221, by kernel_rfl, rfl, rfl, by kernel_rfl, by kernel_rfl⟩⟩
def c_spec_l2Row : ACode := .seq (.reg [⟨(some 6), .mv (.const (.bool false)), none⟩])
 (.seq (.seq (.reg [⟨(some 7), .mv (.const (.int .i64 0)), none⟩])
 (.block 0 (.loop (.seq (.seq (.reg [⟨(some 8), .mv (.tmp 7), none⟩,
  ⟨(some 9), .mv (.tmp 0), none⟩,
  ⟨(some 10), .len (.tmp 9), none⟩,
  ⟨(some 11), .bin .lss (.tmp 8) (.tmp 10), none⟩])
 (.cond (.tmp 11) (.skip) (.exit 0)))
 (.seq (.block 1 (.seq (.reg [⟨(some 14), .mv (.tmp 0), none⟩,
  ⟨(some 15), .mv (.tmp 7), none⟩,
  ⟨(some 16), .iad 1 (.tmp 14) (.tmp 15), none⟩,
  ⟨(some 17), .ld none (.tmp 16), none⟩,
  ⟨(some 18), .mv (.tmp 2), none⟩,
  ⟨(some 19), .call (.func 140) [(.tmp 17), (.const (.int .i64 0)), (.tmp 18)], none⟩,
  ⟨(some 20), .un .not (.tmp 19), none⟩])
 (.cond (.tmp 20) (.seq (.reg [⟨(some 6), .mv (.const (.bool false)), none⟩])
 (.ret)) (.skip))))
 (.reg [⟨(some 12), .mv (.tmp 7), none⟩,
  ⟨(some 13), .bin .add (.tmp 12) (.const (.int .i64 1)), none⟩,
  ⟨(some 7), .mv (.tmp 13), none⟩]))))))
 (.seq (.reg [⟨(some 21), .mv (.tmp 0), none⟩,
  ⟨(some 22), .len (.tmp 21), none⟩,
  ⟨(some 23), .mv (.tmp 1), none⟩,
  ⟨(some 24), .bin .eql (.tmp 22) (.tmp 23), none⟩,
  ⟨(some 6), .mv (.tmp 24), none⟩])
 (.ret)))
def r_spec_l2Row : List ARes := [.tmp 6]
theorem ok_spec_l2Row : FnOk Try.prog 225 25 c_spec_l2Row r_spec_l2Row := ⟨⟨Try.f225, _, Try.func225, by kernel_rfl, rfl, rfl, by kernel_rfl, by kernel_rfl⟩⟩
def c_slices_Backward_1 : ACode := .seq (.reg [⟨(some 4), .ld none (.tmp 1), none⟩,
  ⟨(some 5), .len (.tmp 4), none⟩,
  ⟨(some 6), .bin .sub (.tmp 5) (.const (.int .i64 1)), none⟩,
  ⟨(some 3), .mv (.tmp 6), none⟩])
 (.block 0 (.loop (.seq (.seq (.reg [⟨(some 7), .mv (.tmp 3), none⟩,
  ⟨(some 8), .bin .geq (.tmp 7) (.const (.int .i64 0)), none⟩])
 (.cond (.tmp 8) (.skip) (.exit 0)))
 (.seq (.block 1 (.seq (.reg [⟨(some 11), .mv (.tmp 0), none⟩,
  ⟨(some 12), .mv (.tmp 3), none⟩,
  ⟨(some 13), .ld none (.tmp 1), none⟩,
  ⟨(some 14), .mv (.tmp 3), none⟩,
  ⟨(some 15), .iad 1 (.tmp 13) (.tmp 14), none⟩,
  ⟨(some 16), .ld none (.tmp 15), none⟩,
  ⟨(some 17), .call (.tmp 11) [(.tmp 12), (.tmp 16)], none⟩,
  ⟨(some 18), .un .not (.tmp 17), none⟩])
 (.cond (.tmp 18) (.ret) (.skip))))
 (.reg [⟨(some 9), .mv (.tmp 3), none⟩,
  ⟨(some 10), .bin .sub (.tmp 9) (.const (.int .i64 1)), none⟩,
  ⟨(some 3), .mv (.tmp 10), none⟩])))))
def r_slices_Backward_1 : List ARes := []
theorem ok_slices_Backward_1 : FnOk Try.prog 228 19 c_slices_Backward_1 r_slices_Backward_1 := ⟨⟨Try.f228, _, Try.func228, by kernel_rfl, rfl, rfl, by kernel_rfl, by kernel_rfl⟩⟩
def c_spec_l2Before : ACode := .seq (.reg [⟨(some 4), .mv (.const (.bool false)), none⟩])
 (.seq (.seq (.reg [⟨(some 6), .mv (.tmp 0), none⟩,
  ⟨(some 7), .len (.tmp 6), none⟩,
  ⟨(some 8), .mv (.tmp 1), none⟩,
  ⟨(some 9), .len (.tmp 8), none⟩,
  ⟨(some 10), .bin .neq (.tmp 7) (.tmp 9), none⟩])
 (.cond (.tmp 10) (.seq (.reg [⟨(some 11), .mv (.tmp 0), none⟩,
  ⟨(some 12), .len (.tmp 11), none⟩,
  ⟨(some 13), .mv (.tmp 1), none⟩,
  ⟨(some 14), .len (.tmp 13), none⟩,
  ⟨(some 15), .bin .lss (.tmp 12) (.tmp 14), none⟩,
  ⟨(some 4), .mv (.tmp 15), none⟩])
 (.ret)) (.skip)))
 (.seq (.seq (.reg [⟨(some 5), .mv (.const (.int .i64 0)), none⟩])
 (.block 0 (.loop (.seq (.seq (.reg [⟨(some 16), .mv (.tmp 5), none⟩,
  ⟨(some 17), .mv (.tmp 0), none⟩,
  ⟨(some 18), .len (.tmp 17), none⟩,
  ⟨(some 19), .bin .lss (.tmp 16) (.tmp 18), none⟩])
 (.cond (.tmp 19) (.skip) (.exit 0)))
 (.seq (.block 1 (.seq (.reg [⟨(some 22), .mv (.tmp 0), none⟩,
  ⟨(some 23), .mv (.tmp 5), none⟩,
  ⟨(some 24), .iad 1 (.tmp 22) (.tmp 23), none⟩,
  ⟨(some 25), .ld none (.tmp 24), none⟩,
  ⟨(some 26), .mv (.tmp 1), none⟩,
  ⟨(some 27), .mv (.tmp 5), none⟩,
  ⟨(some 28), .iad 1 (.tmp 26) (.tmp 27), none⟩,
  ⟨(some 29), .ld none (.tmp 28), none⟩,
  ⟨(some 30), .bin .neq (.tmp 25) (.tmp 29), none⟩])
 (.cond (.tmp 30) (.seq (.reg [⟨(some 31), .mv (.tmp 0), none⟩,
  ⟨(some 32), .mv (.tmp 5), none⟩,
  ⟨(some 33), .iad 1 (.tmp 31) (.tmp 32), none⟩,
  ⟨(some 34), .ld none (.tmp 33), none⟩,
  ⟨(some 35), .mv (.tmp 1), none⟩,
  ⟨(some 36), .mv (.tmp 5), none⟩,
  ⟨(some 37), .iad 1 (.tmp 35) (.tmp 36), none⟩,
  ⟨(some 38), .ld none (.tmp 37), none⟩,
  ⟨(some 39), .bin .lss (.tmp 34) (.tmp 38), none⟩,
  ⟨(some 4), .mv (.tmp 39), none⟩])
 (.ret)) (.skip))))
 (.reg [⟨(some 20), .mv (.tmp 5), none⟩,
  ⟨(some 21), .bin .add (.tmp 20) (.const (.int .i64 1)), none⟩,
  ⟨(some 5), .mv (.tmp 21), none⟩]))))))
 (.seq (.reg [⟨(some 4), .mv (.const (.bool false)), none⟩])
 (.ret))))
def r_spec_l2Before : List ARes := [.tmp 4]
theorem ok_spec_l2Before : FnOk Try.prog 229 40 c_spec_l2Before r_spec_l2Before := ⟨⟨Try.f229, _, Try.func229, by kernel_rfl, rfl, rfl, by kernel_rfl, by kernel_rfl⟩⟩
def c_spec_l3Over : ACode := .seq (.reg [⟨(some 4), .box 26 (.tmp 0), none⟩,
  ⟨(some 8), .mv (.const (.bool false)), none⟩])
 (.seq (.reg [⟨(some 13), .ld (some 4) (.tmp 4), none⟩,
  ⟨(some 14), .mv (.tmp 2), none⟩,
  ⟨(some 15), .mv (.tmp 3), none⟩,
  ⟨(some 17), .ld (some 4) (.tmp 4), none⟩,
  ⟨(some 18), .mv (.tmp 2), none⟩,
  ⟨(some 19), .mv (.tmp 3), none⟩,
  ⟨(some 20), .bin .add (.tmp 19) (.const (.int .i64 1)), none⟩,
  ⟨(some 16), .rcall (.func 138) [(.tmp 13), (.tmp 14), (.tmp 15)], none⟩,
  ⟨(some 21), .rcall (.func 138) [(.tmp 17), (.tmp 18), (.tmp 20)], none⟩,
  ⟨(some 9), .mv (.tmp 16), none⟩,
  ⟨(some 10), .mv (.tmp 21), none⟩])
 (.seq (.reg [⟨(some 22), .fad 0 (.tmp 4), none⟩,
  ⟨(some 23), .ld none (.tmp 22), none⟩,
  ⟨(some 24), .mv (.tmp 2), none⟩,
  ⟨(some 25), .mv (.tmp 3), none⟩,
  ⟨(some 26), .slc 1 (.tmp 23) (some (.tmp 24)) (some (.tmp 25)), none⟩,
  ⟨(some 28), .fad 0 (.tmp 4), none⟩,
  ⟨(some 29), .ld none (.tmp 28), none⟩,
  ⟨(some 30), .mv (.tmp 2), none⟩,
  ⟨(some 31), .mv (.tmp 3), none⟩,
  ⟨(some 32), .bin .add (.tmp 31) (.const (.int .i64 1)), none⟩,
  ⟨(some 33), .slc 1 (.tmp 29) (some (.tmp 30)) (some (.tmp 32)), none⟩,
  ⟨(some 27), .rcall (.func 155) [(.tmp 26)], none⟩,
  ⟨(some 34), .rcall (.func 155) [(.tmp 33)], none⟩,
  ⟨(some 11), .mv (.tmp 27), none⟩,
  ⟨(some 12), .mv (.tmp 34), none⟩])
 (.seq (.seq (.reg [⟨(some 35), .mv (.tmp 1), none⟩])
 (.block 0 (.seq (.reg [⟨(some 37), .bin .eql (.tmp 35) (.const (.int .i64 1)), none⟩,
  ⟨(some 36), .mv (.tmp 37), none⟩])
 (.cond (.tmp 36) (.seq (.reg [⟨(some 38), .mv (.tmp 10), none⟩,
  ⟨(some 39), .mv (.tmp 3), none⟩,
  ⟨(some 40), .mv (.tmp 2), none⟩,
  ⟨(some 41), .bin .sub (.tmp 39) (.tmp 40), none⟩,
  ⟨(some 42), .bin .mul (.tmp 38) (.tmp 41), none⟩,
  ⟨(some 43), .mv (.tmp 9), none⟩,
  ⟨(some 44), .mv (.tmp 3), none⟩,
  ⟨(some 45), .bin .add (.tmp 44) (.const (.int .i64 1)), none⟩,
  ⟨(some 46), .mv (.tmp 2), none⟩,
  ⟨(some 47), .bin .sub (.tmp 45) (.tmp 46), none⟩,
  ⟨(some 48), .bin .mul (.tmp 43) (.tmp 47), none⟩,
  ⟨(some 49), .bin .gtr (.tmp 42) (.tmp 48), none⟩,
  ⟨(some 8), .mv (.tmp 49), none⟩])
 (.ret)) (.seq (.reg [⟨(some 51), .bin .eql (.tmp 35) (.const (.int .i64 2)), none⟩,
  ⟨(some 50), .mv (.tmp 51), none⟩])
 (.cond (.tmp 50) (.seq (.reg [⟨(some 52), .mv (.tmp 10), none⟩,
  ⟨(some 53), .mv (.tmp 11), none⟩,
  ⟨(some 54), .bin .mul (.tmp 52) (.tmp 53), none⟩,
  ⟨(some 55), .mv (.tmp 9), none⟩,
  ⟨(some 56), .mv (.tmp 12), none⟩,
  ⟨(some 57), .bin .mul (.tmp 55) (.tmp 56), none⟩,
  ⟨(some 58), .bin .gtr (.tmp 54) (.tmp 57), none⟩,
  ⟨(some 8), .mv (.tmp 58), none⟩])
 (.ret)) (.skip)))))))
 (.seq (.reg [⟨(some 59), .mv (.tmp 10), none⟩,
  ⟨(some 60), .fad 1 (.tmp 4), none⟩,
  ⟨(some 61), .ld none (.tmp 60), none⟩,
  ⟨(some 62), .mv (.tmp 2), none⟩,
  ⟨(some 63), .iad 1 (.tmp 61) (.tmp 62), none⟩,
  ⟨(some 64), .ld none (.tmp 63), none⟩,
  ⟨(some 65), .bin .sub (.tmp 59) (.tmp 64), none⟩,
  ⟨(some 66), .fad 2 (.tmp 4), none⟩,
  ⟨(some 67), .ld none (.tmp 66), none⟩,
  ⟨(some 68), .mv (.tmp 2), none⟩,
  ⟨(some 69), .iad 1 (.tmp 67) (.tmp 68), none⟩,
  ⟨(some 70), .ld none (.tmp 69), none⟩,
  ⟨(some 71), .mv (.tmp 12), none⟩,
  ⟨(some 72), .bin .mul (.tmp 70) (.tmp 71), none⟩,
  ⟨(some 73), .bin .sub (.tmp 65) (.tmp 72), none⟩,
  ⟨(some 74), .fad 1 (.tmp 4), none⟩,
  ⟨(some 75), .ld none (.tmp 74), none⟩,
  ⟨(some 76), .mv (.tmp 2), none⟩,
  ⟨(some 77), .iad 1 (.tmp 75) (.tmp 76), none⟩,
  ⟨(some 78), .ld none (.tmp 77), none⟩,
  ⟨(some 79), .bin .gtr (.tmp 73) (.tmp 78), none⟩,
  ⟨(some 8), .mv (.tmp 79), none⟩])
 (.ret)))))
def r_spec_l3Over : List ARes := [.tmp 8]
theorem ok_spec_l3Over : FnOk Try.prog 238 80 c_spec_l3Over r_spec_l3Over := ⟨⟨Try.f238, _, Try.func238, by kernel_rfl, rfl, rfl, by kernel_rfl, by kernel_rfl⟩⟩
def c_slices_IndexFunc : ACode := .seq (.reg [⟨(some 4), .mv (.const (.int .i64 0)), none⟩])
 (.seq (.seq (.reg [⟨(some 6), .mv (.tmp 0), none⟩,
  ⟨(some 7), .len (.tmp 6), none⟩,
  ⟨(some 8), .mv (.const (.int .i64 0)), none⟩])
 (.block 0 (.loop (.seq (.reg [⟨(some 9), .bin .lss (.tmp 8) (.tmp 7), none⟩])
 (.seq (.cond (.tmp 9) (.skip) (.exit 0))
 (.seq (.block 1 (.seq (.reg [⟨(some 10), .mv (.tmp 8), none⟩,
  ⟨(some 5), .mv (.tmp 10), none⟩])
 (.seq (.reg [⟨(some 11), .mv (.tmp 1), none⟩,
  ⟨(some 12), .mv (.tmp 0), none⟩,
  ⟨(some 13), .mv (.tmp 5), none⟩,
  ⟨(some 14), .iad 1 (.tmp 12) (.tmp 13), none⟩,
  ⟨(some 15), .ld none (.tmp 14), none⟩,
  ⟨(some 16), .call (.tmp 11) [(.tmp 15)], none⟩])
 (.cond (.tmp 16) (.seq (.reg [⟨(some 17), .mv (.tmp 5), none⟩,
  ⟨(some 4), .mv (.tmp 17), none⟩])
 (.ret)) (.skip)))))
 (.reg [⟨(some 18), .bin .add (.tmp 8) (.const (.int .i64 1)), none⟩,
  ⟨(some 8), .mv (.tmp 18), none⟩])))))))
 (.seq (.reg [⟨(some 4), .mv (.const (.int .i64 (-1))), none⟩])
 (.ret)))
def r_slices_IndexFunc : List ARes := [.tmp 4]
theorem ok_slices_IndexFunc : FnOk Try.prog 239 19 c_slices_IndexFunc r_slices_IndexFunc := ⟨⟨Try.f239, _, Try.func239, by kernel_rfl, rfl, rfl, by kernel_rfl, by kernel_rfl⟩⟩
def c_impl_planSearch__fill : ACode := .seq (.reg [⟨(some 6), .mv (.tmp 0), none⟩,
  ⟨(some 7), .nilc (.tmp 6), none⟩,
  ⟨(some 8), .fad 0 (.tmp 7), none⟩,
  ⟨(some 9), .fad 0 (.tmp 8), none⟩,
  ⟨(some 10), .ld none (.tmp 9), none⟩,
  ⟨(some 11), .len (.tmp 10), none⟩,
  ⟨(some 12), .mv (.tmp 0), none⟩,
  ⟨(some 13), .nilc (.tmp 12), none⟩,
  ⟨(some 14), .fad 0 (.tmp 13), none⟩,
  ⟨(some 15), .fad 0 (.tmp 14), none⟩,
  ⟨(some 16), .ld none (.tmp 15), none⟩,
  ⟨(some 17), .rcall (.func 144) [(.tmp 16)], none⟩,
  ⟨(some 2), .mv (.tmp 11), none⟩,
  ⟨(some 3), .mv (.tmp 17), none⟩])
 (.seq (.reg [⟨(some 18), .mv (.tmp 0), none⟩,
  ⟨(some 19), .mv (.tmp 2), none⟩,
  ⟨(some 20), .bin .add (.tmp 19) (.const (.int .i64 1)), none⟩,
  ⟨(some 21), .mks 148 24 [(.slice none 0 0)] (.tmp 20) (.tmp 20), none⟩,
  ⟨(some 22), .nilc (.tmp 18), none⟩,
  ⟨(some 23), .fad 7 (.tmp 22), none⟩,
  ⟨none, .st 1 (.tmp 23) (.tmp 21), none⟩])
 (.seq (.reg [⟨(some 24), .mv (.tmp 0), none⟩,
  ⟨(some 25), .nilc (.tmp 24), none⟩,
  ⟨(some 26), .fad 7 (.tmp 25), none⟩,
  ⟨(some 27), .ld none (.tmp 26), none⟩,
  ⟨(some 28), .mv (.tmp 2), none⟩,
  ⟨(some 29), .mv (.tmp 3), none⟩,
  ⟨(some 30), .bin .add (.tmp 29) (.const (.int .i64 1)), none⟩,
  ⟨(some 31), .mks 147 24 [(.bool false), (.int .i64 0), (.int .i64 0)] (.tmp 30) (.tmp 30), none⟩,
  ⟨(some 32), .iad 1 (.tmp 27) (.tmp 28), none⟩,
  ⟨none, .st 1 (.tmp 32) (.tmp 31), none⟩])
 (.seq (.reg [⟨(some 33), .mv (.tmp 0), none⟩,
  ⟨(some 34), .nilc (.tmp 33), none⟩,
  ⟨(some 35), .fad 7 (.tmp 34), none⟩,
  ⟨(some 36), .ld none (.tmp 35), none⟩,
  ⟨(some 37), .mv (.tmp 2), none⟩,
  ⟨(some 38), .iad 1 (.tmp 36) (.tmp 37), none⟩,
  ⟨(some 39), .ld none (.tmp 38), none⟩,
  ⟨(some 40), .mv (.tmp 3), none⟩,
  ⟨(some 41), .iad 3 (.tmp 39) (.tmp 40), none⟩,
  ⟨(some 42), .fad 0 (.tmp 41), none⟩,
  ⟨none, .st 1 (.tmp 42) (.const (.bool true)), none⟩])
 (.seq (.reg [⟨(some 43), .mv (.tmp 2), none⟩,
  ⟨(some 44), .bin .sub (.tmp 43) (.const (.int .i64 1)), none⟩,
  ⟨(some 4), .mv (.tmp 44), none⟩])
 (.block 0 (.loop (.seq (.seq (.reg [⟨(some 45), .mv (.tmp 4), none⟩,
  ⟨(some 46), .bin .geq (.tmp 45) (.const (.int .i64 0)), none⟩])
 (.cond (.tmp 46) (.skip) (.exit 0)))
 (.seq (.block 1 (.seq (.reg [⟨(some 49), .mv (.tmp 0), none⟩,
  ⟨(some 50), .nilc (.tmp 49), none⟩,
  ⟨(some 51), .fad 7 (.tmp 50), none⟩,
  ⟨(some 52), .ld none (.tmp 51), none⟩,
  ⟨(some 53), .mv (.tmp 4), none⟩,
  ⟨(some 54), .mv (.tmp 3), none⟩,
  ⟨(some 55), .bin .add (.tmp 54) (.const (.int .i64 1)), none⟩,
  ⟨(some 56), .mks 147 24 [(.bool false), (.int .i64 0), (.int .i64 0)] (.tmp 55) (.tmp 55), none⟩,
  ⟨(some 57), .iad 1 (.tmp 52) (.tmp 53), none⟩,
  ⟨none, .st 1 (.tmp 57) (.tmp 56), none⟩])
 (.seq (.reg [⟨(some 58), .mv (.tmp 3), none⟩,
  ⟨(some 59), .bin .add (.tmp 58) (.const (.int .i64 1)), none⟩,
  ⟨(some 60), .mv (.const (.int .i64 0)), none⟩])
 (.block 2 (.loop (.seq (.reg [⟨(some 61), .bin .lss (.tmp 60) (.tmp 59), none⟩])
 (.seq (.cond (.tmp 61) (.skip) (.exit 2))
 (.seq (.block 3 (.seq (.reg [⟨(some 62), .mv (.tmp 60), none⟩,
  ⟨(some 5), .mv (.tmp 62), none⟩])
 (.reg [⟨(some 63), .mv (.tmp 0), none⟩,
  ⟨(some 64), .nilc (.tmp 63), none⟩,
  ⟨(some 65), .fad 7 (.tmp 64), none⟩,
  ⟨(some 66), .ld none (.tmp 65), none⟩,
  ⟨(some 67), .mv (.tmp 4), none⟩,
  ⟨(some 68), .iad 1 (.tmp 66) (.tmp 67), none⟩,
  ⟨(some 69), .ld none (.tmp 68), none⟩,
  ⟨(some 70), .mv (.tmp 5), none⟩,
  ⟨(some 71), .mv (.tmp 0), none⟩,
  ⟨(some 72), .mv (.tmp 4), none⟩,
  ⟨(some 73), .mv (.tmp 5), none⟩,
  ⟨(some 74), .rcall (.func 252) [(.tmp 71), (.tmp 72), (.tmp 73)], none⟩,
  ⟨(some 75), .iad 3 (.tmp 69) (.tmp 70), none⟩,
  ⟨none, .st 3 (.tmp 75) (.tmp 74), none⟩])))
 (.reg [⟨(some 76), .bin .add (.tmp 60) (.const (.int .i64 1)), none⟩,
  ⟨(some 60), .mv (.tmp 76), none⟩])))))))))
 (.reg [⟨(some 47), .mv (.tmp 4), none⟩,
  ⟨(some 48), .bin .sub (.tmp 47) (.const (.int .i64 1)), none⟩,
  ⟨(some 4), .mv (.tmp 48), none⟩])))))))))
def r_impl_planSearch__fill : List ARes := []
theorem ok_impl_planSearch__fill : FnOk Try.prog 241 77 c_impl_planSearch__fill r_impl_planSearch__fill := ⟨⟨Try.f241, _, Try.func241, by kernel_rfl, rfl, rfl, by kernel_rfl, by kernel_rfl⟩⟩
def c_spec_l4Least : ACode := .seq (.reg [⟨(some 4), .mv (.const (.int .i64 0)), none⟩])
 (.seq (.seq (.reg [⟨(some 5), .mv (.tmp 0), none⟩,
  ⟨(some 6), .bin .lss (.tmp 5) (.const (.int .i64 0)), none⟩,
  ⟨(some 7), .mv (.tmp 6), none⟩,
  ⟨(some 8), .mv (.tmp 1), (some (7, false))⟩,
  ⟨(some 9), .bin .geq (.tmp 8) (.const (.int .i64 0)), (some (7, false))⟩,
  ⟨(some 10), .mv (.tmp 9), (some (7, false))⟩,
  ⟨(some 11), .mv (.tmp 1), (some (10, true))⟩,
  ⟨(some 12), .mv (.tmp 0), (some (10, true))⟩,
  ⟨(some 13), .bin .lss (.tmp 11) (.tmp 12), (some (10, true))⟩,
  ⟨(some 14), .pick (.tmp 10) (.tmp 13) (.const (.bool false)), (some (7, false))⟩,
  ⟨(some 15), .pick (.tmp 7) (.const (.bool true)) (.tmp 14), none⟩])
 (.cond (.tmp 15) (.seq (.reg [⟨(some 16), .mv (.tmp 1), none⟩,
  ⟨(some 4), .mv (.tmp 16), none⟩])
 (.ret)) (.skip)))
 (.seq (.reg [⟨(some 17), .mv (.tmp 0), none⟩,
  ⟨(some 4), .mv (.tmp 17), none⟩])
 (.ret)))
def r_spec_l4Least : List ARes := [.tmp 4]
theorem ok_spec_l4Least : FnOk Try.prog 242 18 c_spec_l4Least r_spec_l4Least := ⟨⟨Try.f242, _, Try.func242, by kernel_rfl, rfl, rfl, by kernel_rfl, by kernel_rfl⟩⟩
def c_slices_Index : ACode := .seq (.reg [⟨(some 4), .mv (.const (.int .i64 0)), none⟩])
 (.seq (.seq (.reg [⟨(some 6), .mv (.tmp 0), none⟩,
  ⟨(some 7), .len (.tmp 6), none⟩,
  ⟨(some 8), .mv (.const (.int .i64 0)), none⟩])
 (.block 0 (.loop (.seq (.reg [⟨(some 9), .bin .lss (.tmp 8) (.tmp 7), none⟩])
 (.seq (.cond (.tmp 9) (.skip) (.exit 0))
 (.seq (.block 1 (.seq (.reg [⟨(some 10), .mv (.tmp 8), none⟩,
  ⟨(some 5), .mv (.tmp 10), none⟩])
 (.seq (.reg [⟨(some 11), .mv (.tmp 1), none⟩,
  ⟨(some 12), .mv (.tmp 0), none⟩,
  ⟨(some 13), .mv (.tmp 5), none⟩,
  ⟨(some 14), .iad 1 (.tmp 12) (.tmp 13), none⟩,
  ⟨(some 15), .ld none (.tmp 14), none⟩,
  ⟨(some 16), .bin .eql (.tmp 11) (.tmp 15), none⟩])
 (.cond (.tmp 16) (.seq (.reg [⟨(some 17), .mv (.tmp 5), none⟩,
  ⟨(some 4), .mv (.tmp 17), none⟩])
 (.ret)) (.skip)))))
 (.reg [⟨(some 18), .bin .add (.tmp 8) (.const (.int .i64 1)), none⟩,
  ⟨(some 8), .mv (.tmp 18), none⟩])))))))
 (.seq (.reg [⟨(some 4), .mv (.const (.int .i64 (-1))), none⟩])
 (.ret)))
def r_slices_Index : List ARes := [.tmp 4]
theorem ok_slices_Index : FnOk Try.prog 244 19 c_slices_Index r_slices_Index := ⟨⟨Try.f244, _, Try.func244, by kernel_rfl, rfl, rfl, by kernel_rfl, by kernel_rfl⟩⟩
def c_spec_l4Rest : ACode := .seq (.reg [⟨(some 6), .box 26 (.tmp 0), none⟩,
  ⟨(some 12), .mv (.const (.int .i64 0)), none⟩])
 (.seq (.reg [⟨(some 13), .mv (.const (.int .i64 (-1))), none⟩])
 (.seq (.seq (.reg [⟨(some 14), .mv (.const (.int .i64 0)), none⟩])
 (.block 0 (.loop (.seq (.seq (.reg [⟨(some 17), .mv (.tmp 14), none⟩,
  ⟨(some 18), .mv (.tmp 1), none⟩,
  ⟨(some 19), .mv (.tmp 3), none⟩,
  ⟨(some 20), .iad 1 (.tmp 18) (.tmp 19), none⟩,
  ⟨(some 21), .ld none (.tmp 20), none⟩,
  ⟨(some 22), .bin .leq (.tmp 17) (.tmp 21), none⟩])
 (.cond (.tmp 22) (.skip) (.exit 0)))
 (.seq (.block 1 (.seq (.reg [⟨(some 25), .mv (.tmp 4), none⟩,
  ⟨(some 26), .mv (.tmp 14), none⟩,
  ⟨(some 27), .bin .add (.tmp 25) (.tmp 26), none⟩,
  ⟨(some 28), .fad 0 (.tmp 6), none⟩,
  ⟨(some 29), .ld none (.tmp 28), none⟩,
  ⟨(some 30), .mv (.tmp 3), none⟩,
  ⟨(some 31), .iad 1 (.tmp 29) (.tmp 30), none⟩,
  ⟨(some 32), .ld none (.tmp 31), none⟩,
  ⟨(some 33), .bin .sub (.tmp 27) (.tmp 32), none⟩,
  ⟨(some 15), .mv (.tmp 33), none⟩])
 (.seq (.seq (.reg [⟨(some 34), .mv (.tmp 15), none⟩,
  ⟨(some 35), .mv (.tmp 2), none⟩,
  ⟨(some 36), .len (.tmp 35), none⟩,
  ⟨(some 37), .bin .sub (.tmp 36) (.const (.int .i64 1)), none⟩,
  ⟨(some 38), .call (.func 140) [(.tmp 34), (.const (.int .i64 0)), (.tmp 37)], none⟩,
  ⟨(some 39), .un .not (.tmp 38), none⟩])
 (.cond (.tmp 39) (.exit 1) (.skip)))
 (.seq (.reg [⟨(some 40), .mv (.tmp 1), none⟩,
  ⟨(some 41), .mv (.tmp 2), none⟩,
  ⟨(some 42), .mv (.tmp 3), none⟩,
  ⟨(some 43), .mv (.tmp 14), none⟩,
  ⟨(some 44), .mv (.tmp 15), none⟩,
  ⟨(some 45), .mv (.tmp 5), none⟩,
  ⟨(some 46), .call (.func 207) [(.tmp 40), (.tmp 41), (.tmp 42), (.tmp 43), (.tmp 44), (.tmp 45)], none⟩,
  ⟨(some 16), .mv (.tmp 46), none⟩])
 (.seq (.reg [⟨(some 47), .mv (.tmp 16), none⟩,
  ⟨(some 48), .bin .geq (.tmp 47) (.const (.int .i64 0)), none⟩])
 (.cond (.tmp 48) (.reg [⟨(some 49), .mv (.tmp 13), none⟩,
  ⟨(some 50), .ld (some 4) (.tmp 6), none⟩,
  ⟨(some 51), .mv (.tmp 3), none⟩,
  ⟨(some 52), .mv (.tmp 14), none⟩,
  ⟨(some 53), .mv (.tmp 15), none⟩,
  ⟨(some 54), .call (.func 208) [(.tmp 50), (.tmp 51), (.tmp 52), (.tmp 53)], none⟩,
  ⟨(some 55), .mv (.tmp 16), none⟩,
  ⟨(some 56), .bin .add (.tmp 54) (.tmp 55), none⟩,
  ⟨(some 57), .call (.func 242) [(.tmp 49), (.tmp 56)], none⟩,
  ⟨(some 13), .mv (.tmp 57), none⟩]) (.skip)))))))
 (.reg [⟨(some 23), .mv (.tmp 14), none⟩,
  ⟨(some 24), .bin .add (.tmp 23) (.const (.int .i64 1)), none⟩,
  ⟨(some 14), .mv (.tmp 24), none⟩]))))))
 (.seq (.reg [⟨(some 58), .mv (.tmp 13), none⟩,
  ⟨(some 12), .mv (.tmp 58), none⟩])
 (.ret))))
def r_spec_l4Rest : List ARes := [.tmp 12]
theorem ok_spec_l4Rest : FnOk Try.prog 245 59 c_spec_l4Rest r_spec_l4Rest := ⟨⟨Try.f245, _, Try.func245, by kernel_rfl, rfl, rfl, by kernel_rfl, by kernel_rfl⟩⟩
def c_slices_Repeat : ACode := .seq (.reg [⟨(some 4), .mv (.const (.slice none 0 0)), none⟩])
 (.seq (.seq (.reg [⟨(some 9), .mv (.tmp 1), none⟩,
  ⟨(some 10), .bin .lss (.tmp 9) (.const (.int .i64 0)), none⟩])
 (.cond (.tmp 10) (.reg [⟨(some 11), .never, none⟩,
  ⟨none, .never, none⟩]) (.skip)))
 (.seq (.reg [⟨(some 13), .mv (.tmp 0), none⟩,
  ⟨(some 14), .len (.tmp 13), none⟩,
  ⟨(some 15), .conv .u64 (.tmp 14), none⟩,
  ⟨(some 16), .mv (.tmp 1), none⟩,
  ⟨(some 17), .conv .u64 (.tmp 16), none⟩,
  ⟨(some 18), .call (.func 253) [(.tmp 15), (.tmp 17)], none⟩,
  ⟨(some 12), .mv (.tmp 18), none⟩,
  ⟨(some 19), .ext 0 (.tmp 12), none⟩,
  ⟨(some 20), .ext 1 (.tmp 12), none⟩,
  ⟨(some 5), .mv (.tmp 19), none⟩,
  ⟨(some 6), .mv (.tmp 20), none⟩])
 (.seq (.seq (.reg [⟨(some 21), .mv (.tmp 5), none⟩,
  ⟨(some 22), .bin .gtr (.tmp 21) (.const (.int .u64 0)), none⟩,
  ⟨(some 23), .mv (.tmp 22), none⟩,
  ⟨(some 24), .mv (.tmp 6), (some (23, false))⟩,
  ⟨(some 25), .bin .gtr (.tmp 24) (.const (.int .u64 9223372036854775807)), (some (23, false))⟩,
  ⟨(some 26), .pick (.tmp 23) (.const (.bool true)) (.tmp 25), none⟩])
 (.cond (.tmp 26) (.reg [⟨(some 27), .never, none⟩,
  ⟨none, .never, none⟩]) (.skip)))
 (.seq (.reg [⟨(some 28), .mv (.tmp 6), none⟩,
  ⟨(some 29), .conv .i64 (.tmp 28), none⟩,
  ⟨(some 30), .mks 3 8 [(.int .i64 0)] (.tmp 29) (.tmp 29), none⟩,
  ⟨(some 7), .mv (.tmp 30), none⟩])
 (.seq (.reg [⟨(some 31), .mv (.tmp 7), none⟩,
  ⟨(some 32), .mv (.tmp 0), none⟩,
  ⟨(some 33), .cpy 1 (.tmp 31) (.tmp 32), none⟩,
  ⟨(some 8), .mv (.tmp 33), none⟩])
 (.seq (.block 0 (.loop (.seq (.seq (.reg [⟨(some 34), .mv (.tmp 8), none⟩,
  ⟨(some 35), .mv (.tmp 7), none⟩,
  ⟨(some 36), .len (.tmp 35), none⟩,
  ⟨(some 37), .bin .lss (.tmp 34) (.tmp 36), none⟩])
 (.cond (.tmp 37) (.skip) (.exit 0)))
 (.block 1 (.reg [⟨(some 38), .mv (.tmp 8), none⟩,
  ⟨(some 39), .mv (.tmp 7), none⟩,
  ⟨(some 40), .mv (.tmp 8), none⟩,
  ⟨(some 41), .slc 1 (.tmp 39) (some (.tmp 40)) none, none⟩,
  ⟨(some 42), .mv (.tmp 7), none⟩,
  ⟨(some 43), .mv (.tmp 8), none⟩,
  ⟨(some 44), .slc 1 (.tmp 42) none (some (.tmp 43)), none⟩,
  ⟨(some 45), .cpy 1 (.tmp 41) (.tmp 44), none⟩,
  ⟨(some 46), .bin .add (.tmp 38) (.tmp 45), none⟩,
  ⟨(some 8), .mv (.tmp 46), none⟩])))))
 (.seq (.reg [⟨(some 47), .mv (.tmp 7), none⟩,
  ⟨(some 4), .mv (.tmp 47), none⟩])
 (.ret))))))))
def r_slices_Repeat : List ARes := [.tmp 4]
theorem ok_slices_Repeat : FnOk Try.prog 246 48 c_slices_Repeat r_slices_Repeat := ⟨⟨Try.f246, _, Try.func246, by kernel_rfl, rfl, rfl, by kernel_rfl, by kernel_rfl⟩⟩
def c_slices_Grow : ACode := .seq (.reg [⟨(some 4), .mv (.const (.slice none 0 0)), none⟩])
 (.seq (.seq (.reg [⟨(some 5), .mv (.tmp 1), none⟩,
  ⟨(some 6), .bin .lss (.tmp 5) (.const (.int .i64 0)), none⟩])
 (.cond (.tmp 6) (.reg [⟨(some 7), .never, none⟩,
  ⟨none, .never, none⟩]) (.skip)))
 (.seq (.seq (.reg [⟨(some 8), .mv (.tmp 1), none⟩,
  ⟨(some 9), .mv (.tmp 0), none⟩,
  ⟨(some 10), .never, none⟩,
  ⟨(some 11), .mv (.tmp 0), none⟩,
  ⟨(some 12), .len (.tmp 11), none⟩,
  ⟨(some 13), .bin .sub (.tmp 10) (.tmp 12), none⟩,
  ⟨(some 14), .bin .sub (.tmp 8) (.tmp 13), none⟩,
  ⟨(some 1), .mv (.tmp 14), none⟩])
 (.seq (.reg [⟨(some 15), .mv (.tmp 1), none⟩,
  ⟨(some 16), .bin .gtr (.tmp 15) (.const (.int .i64 0)), none⟩])
 (.cond (.tmp 16) (.reg [⟨(some 17), .mv (.tmp 0), none⟩,
  ⟨(some 18), .mv (.tmp 0), none⟩,
  ⟨(some 19), .never, none⟩,
  ⟨(some 20), .slc 1 (.tmp 17) none (some (.tmp 19)), none⟩,
  ⟨(some 21), .mv (.tmp 1), none⟩,
  ⟨(some 22), .never, none⟩,
  ⟨(some 23), .mv (.tmp 0), none⟩,
  ⟨(some 24), .len (.tmp 23), none⟩,
  ⟨(some 25), .slc 1 (.tmp 22) none (some (.tmp 24)), none⟩,
  ⟨(some 0), .mv (.tmp 25), none⟩]) (.skip))))
 (.seq (.reg [⟨(some 26), .mv (.tmp 0), none⟩,
  ⟨(some 4), .mv (.tmp 26), none⟩])
 (.ret))))
def r_slices_Grow : List ARes := [.tmp 4]
theorem ok_slices_Grow : FnOk Try.prog 247 27 c_slices_Grow r_slices_Grow := ⟨⟨Try.f247, _, Try.func247, by kernel_rfl, rfl, rfl, by kernel_rfl, by kernel_rfl⟩⟩
def c_cmp_Or : ACode := .seq (.reg [⟨(some 2), .mv (.const (.int .i64 0)), none⟩])
 (.seq (.reg [⟨(some 3), .mv (.const (.int .i64 0)), none⟩])
 (.seq (.seq (.reg [⟨(some 6), .mv (.tmp 0), none⟩,
  ⟨(some 7), .len (.tmp 6), none⟩,
  ⟨(some 8), .mv (.const (.int .i64 0)), none⟩])
 (.block 0 (.loop (.seq (.reg [⟨(some 9), .bin .lss (.tmp 8) (.tmp 7), none⟩])
 (.seq (.cond (.tmp 9) (.skip) (.exit 0))
 (.seq (.block 1 (.seq (.reg [⟨(some 10), .iad 1 (.tmp 6) (.tmp 8), none⟩,
  ⟨(some 11), .ld none (.tmp 10), none⟩,
  ⟨(some 5), .mv (.tmp 11), none⟩])
 (.seq (.reg [⟨(some 12), .mv (.tmp 5), none⟩,
  ⟨(some 13), .mv (.tmp 3), none⟩,
  ⟨(some 14), .bin .neq (.tmp 12) (.tmp 13), none⟩])
 (.cond (.tmp 14) (.seq (.reg [⟨(some 15), .mv (.tmp 5), none⟩,
  ⟨(some 2), .mv (.tmp 15), none⟩])
 (.ret)) (.skip)))))
 (.reg [⟨(some 16), .bin .add (.tmp 8) (.const (.int .i64 1)), none⟩,
  ⟨(some 8), .mv (.tmp 16), none⟩])))))))
 (.seq (.reg [⟨(some 17), .mv (.tmp 3), none⟩,
  ⟨(some 2), .mv (.tmp 17), none⟩])
 (.ret))))
def r_cmp_Or : List ARes := [.tmp 2]
theorem ok_cmp_Or : FnOk Try.prog 249 18 c_cmp_Or r_cmp_Or := ⟨⟨Try.f249, _, Try.func249, by kernel_rfl, rfl, rfl, by kernel_rfl, by kernel_rfl⟩⟩
def c_cmp_Compare : ACode := .seq (.reg [⟨(some 4), .mv (.const (.int .i64 0)), none⟩])
 (.seq (.reg [⟨(some 7), .mv (.tmp 0), none⟩,
  ⟨(some 8), .call (.func 254) [(.tmp 7)], none⟩,
  ⟨(some 5), .mv (.tmp 8), none⟩])
 (.seq (.reg [⟨(some 9), .mv (.tmp 1), none⟩,
  ⟨(some 10), .call (.func 254) [(.tmp 9)], none⟩,
  ⟨(some 6), .mv (.tmp 10), none⟩])
 (.seq (.seq (.reg [⟨(some 11), .mv (.tmp 5), none⟩])
 (.cond (.tmp 11) (.seq (.seq (.reg [⟨(some 12), .mv (.tmp 6), none⟩])
 (.cond (.tmp 12) (.seq (.reg [⟨(some 4), .mv (.const (.int .i64 0)), none⟩])
 (.ret)) (.skip)))
 (.seq (.reg [⟨(some 4), .mv (.const (.int .i64 (-1))), none⟩])
 (.ret))) (.skip)))
 (.seq (.seq (.reg [⟨(some 13), .mv (.tmp 6), none⟩])
 (.cond (.tmp 13) (.seq (.reg [⟨(some 4), .mv (.const (.int .i64 1)), none⟩])
 (.ret)) (.skip)))
 (.seq (.seq (.reg [⟨(some 14), .mv (.tmp 0), none⟩,
  ⟨(some 15), .mv (.tmp 1), none⟩,
  ⟨(some 16), .bin .lss (.tmp 14) (.tmp 15), none⟩])
 (.cond (.tmp 16) (.seq (.reg [⟨(some 4), .mv (.const (.int .i64 (-1))), none⟩])
 (.ret)) (.skip)))
 (.seq (.seq (.reg [⟨(some 17), .mv (.tmp 0), none⟩,
  ⟨(some 18), .mv (.tmp 1), none⟩,
  ⟨(some 19), .bin .gtr (.tmp 17) (.tmp 18), none⟩])
 (.cond (.tmp 19) (.seq (.reg [⟨(some 4), .mv (.const (.int .i64 1)), none⟩])
 (.ret)) (.skip)))
 (.seq (.reg [⟨(some 4), .mv (.const (.int .i64 0)), none⟩])
 (.ret))))))))
def r_cmp_Compare : List ARes := [.tmp 4]
theorem ok_cmp_Compare : FnOk Try.prog 250 20 c_cmp_Compare r_cmp_Compare := ⟨⟨Try.f250, _, Try.func250, by kernel_rfl, rfl, rfl, by kernel_rfl, by kernel_rfl⟩⟩
def c_slices_Compare : ACode := .seq (.reg [⟨(some 4), .mv (.const (.int .i64 0)), none⟩])
 (.seq (.seq (.reg [⟨(some 9), .mv (.tmp 0), none⟩,
  ⟨(some 10), .len (.tmp 9), none⟩,
  ⟨(some 11), .mv (.const (.int .i64 0)), none⟩])
 (.block 0 (.loop (.seq (.reg [⟨(some 12), .bin .lss (.tmp 11) (.tmp 10), none⟩])
 (.seq (.cond (.tmp 12) (.skip) (.exit 0))
 (.seq (.block 1 (.seq (.reg [⟨(some 13), .mv (.tmp 11), none⟩,
  ⟨(some 14), .iad 1 (.tmp 9) (.tmp 11), none⟩,
  ⟨(some 15), .ld none (.tmp 14), none⟩,
  ⟨(some 5), .mv (.tmp 13), none⟩,
  ⟨(some 6), .mv (.tmp 15), none⟩])
 (.seq (.seq (.reg [⟨(some 16), .mv (.tmp 5), none⟩,
  ⟨(some 17), .mv (.tmp 1), none⟩,
  ⟨(some 18), .len (.tmp 17), none⟩,
  ⟨(some 19), .bin .geq (.tmp 16) (.tmp 18), none⟩])
 (.cond (.tmp 19) (.seq (.reg [⟨(some 4), .mv (.const (.int .i64 1)), none⟩])
 (.ret)) (.skip)))
 (.seq (.reg [⟨(some 20), .mv (.tmp 1), none⟩,
  ⟨(some 21), .mv (.tmp 5), none⟩,
  ⟨(some 22), .iad 1 (.tmp 20) (.tmp 21), none⟩,
  ⟨(some 23), .ld none (.tmp 22), none⟩,
  ⟨(some 7), .mv (.tmp 23), none⟩])
 (.seq (.reg [⟨(some 24), .mv (.tmp 6), none⟩,
  ⟨(some 25), .mv (.tmp 7), none⟩,
  ⟨(some 26), .call (.func 250) [(.tmp 24), (.tmp 25)], none⟩,
  ⟨(some 8), .mv (.tmp 26), none⟩])
 (.seq (.reg [⟨(some 27), .mv (.tmp 8), none⟩,
  ⟨(some 28), .bin .neq (.tmp 27) (.const (.int .i64 0)), none⟩])
 (.cond (.tmp 28) (.seq (.reg [⟨(some 29), .mv (.tmp 8), none⟩,
  ⟨(some 4), .mv (.tmp 29), none⟩])
 (.ret)) (.skip))))))))
 (.reg [⟨(some 30), .bin .add (.tmp 11) (.const (.int .i64 1)), none⟩,
  ⟨(some 11), .mv (.tmp 30), none⟩])))))))
 (.seq (.seq (.reg [⟨(some 31), .mv (.tmp 0), none⟩,
  ⟨(some 32), .len (.tmp 31), none⟩,
  ⟨(some 33), .mv (.tmp 1), none⟩,
  ⟨(some 34), .len (.tmp 33), none⟩,
  ⟨(some 35), .bin .lss (.tmp 32) (.tmp 34), none⟩])
 (.cond (.tmp 35) (.seq (.reg [⟨(some 4), .mv (.const (.int .i64 (-1))), none⟩])
 (.ret)) (.skip)))
 (.seq (.reg [⟨(some 4), .mv (.const (.int .i64 0)), none⟩])
 (.ret))))
def r_slices_Compare : List ARes := [.tmp 4]
theorem ok_slices_Compare : FnOk Try.prog 251 36 c_slices_Compare r_slices_Compare := ⟨⟨Try.f251, _, Try.func251, by kernel_rfl, rfl, rfl, by kernel_rfl, by kernel_rfl⟩⟩
def c_impl_planSearch__wayFrom : ACode := .seq (.reg [⟨(some 6), .alc 147 [(.bool false), (.int .i64 0), (.int .i64 0)], none⟩])
 (.seq (.reg [⟨(some 14), .mv (.tmp 0), none⟩,
  ⟨(some 15), .nilc (.tmp 14), none⟩,
  ⟨(some 16), .fad 0 (.tmp 15), none⟩,
  ⟨(some 17), .fad 0 (.tmp 16), none⟩,
  ⟨(some 18), .ld none (.tmp 17), none⟩,
  ⟨(some 19), .mv (.tmp 1), none⟩,
  ⟨(some 20), .bin .add (.tmp 19) (.const (.int .i64 1)), none⟩,
  ⟨(some 21), .slc 1 (.tmp 18) none (some (.tmp 20)), none⟩,
  ⟨(some 22), .call (.func 144) [(.tmp 21)], none⟩,
  ⟨(some 7), .mv (.tmp 22), none⟩])
 (.seq (.reg [⟨(some 23), .mv (.tmp 0), none⟩,
  ⟨(some 24), .nilc (.tmp 23), none⟩,
  ⟨(some 25), .fad 0 (.tmp 24), none⟩,
  ⟨(some 26), .fad 0 (.tmp 25), none⟩,
  ⟨(some 27), .ld none (.tmp 26), none⟩,
  ⟨(some 28), .call (.func 144) [(.tmp 27)], none⟩,
  ⟨(some 29), .mv (.tmp 2), none⟩,
  ⟨(some 30), .bin .sub (.tmp 28) (.tmp 29), none⟩,
  ⟨(some 8), .mv (.tmp 30), none⟩])
 (.seq (.reg [⟨(some 9), .alc 147 [(.bool false), (.int .i64 0), (.int .i64 0)], none⟩])
 (.seq (.seq (.reg [⟨(some 31), .mv (.tmp 0), none⟩,
  ⟨(some 32), .nilc (.tmp 31), none⟩,
  ⟨(some 33), .fad 4 (.tmp 32), none⟩,
  ⟨(some 34), .ld none (.tmp 33), none⟩,
  ⟨(some 35), .mv (.tmp 1), none⟩,
  ⟨(some 36), .iad 1 (.tmp 34) (.tmp 35), none⟩,
  ⟨(some 37), .ld none (.tmp 36), none⟩,
  ⟨(some 38), .mv (.tmp 8), none⟩,
  ⟨(some 39), .mmx false (.tmp 37) (.tmp 38), none⟩,
  ⟨(some 40), .bin .add (.tmp 39) (.const (.int .i64 1)), none⟩,
  ⟨(some 41), .mv (.const (.int .i64 0)), none⟩])
 (.block 0 (.loop (.seq (.reg [⟨(some 42), .bin .lss (.tmp 41) (.tmp 40), none⟩])
 (.seq (.cond (.tmp 42) (.skip) (.exit 0))
 (.seq (.block 1 (.seq (.reg [⟨(some 43), .mv (.tmp 41), none⟩,
  ⟨(some 10), .mv (.tmp 43), none⟩])
 (.seq (.reg [⟨(some 44), .mv (.tmp 2), none⟩,
  ⟨(some 45), .mv (.tmp 10), none⟩,
  ⟨(some 46), .bin .add (.tmp 44) (.tmp 45), none⟩,
  ⟨(some 47), .mv (.tmp 7), none⟩,
  ⟨(some 48), .bin .sub (.tmp 46) (.tmp 47), none⟩,
  ⟨(some 11), .mv (.tmp 48), none⟩])
 (.seq (.reg [⟨(some 49), .mv (.tmp 0), none⟩,
  ⟨(some 50), .nilc (.tmp 49), none⟩,
  ⟨(some 51), .fad 7 (.tmp 50), none⟩,
  ⟨(some 52), .ld none (.tmp 51), none⟩,
  ⟨(some 53), .mv (.tmp 1), none⟩,
  ⟨(some 54), .bin .add (.tmp 53) (.const (.int .i64 1)), none⟩,
  ⟨(some 55), .iad 1 (.tmp 52) (.tmp 54), none⟩,
  ⟨(some 56), .ld none (.tmp 55), none⟩,
  ⟨(some 57), .mv (.tmp 2), none⟩,
  ⟨(some 58), .mv (.tmp 10), none⟩,
  ⟨(some 59), .bin .add (.tmp 57) (.tmp 58), none⟩,
  ⟨(some 60), .iad 3 (.tmp 56) (.tmp 59), none⟩,
  ⟨(some 61), .ld (some 3) (.tmp 60), none⟩,
  ⟨(some 12), .alc 147 [(.bool false), (.int .i64 0), (.int .i64 0)], none⟩,
  ⟨none, .st 3 (.tmp 12) (.tmp 61), none⟩])
 (.seq (.seq (.reg [⟨(some 62), .fad 0 (.tmp 12), none⟩,
  ⟨(some 63), .ld none (.tmp 62), none⟩,
  ⟨(some 64), .un .not (.tmp 63), none⟩,
  ⟨(some 65), .mv (.tmp 64), none⟩,
  ⟨(some 66), .mv (.tmp 11), (some (65, false))⟩,
  ⟨(some 67), .call (.func 173) [(.tmp 66)], (some (65, false))⟩,
  ⟨(some 68), .mv (.tmp 67), (some (65, false))⟩,
  ⟨(some 69), .mv (.tmp 0), (some (68, true))⟩,
  ⟨(some 70), .nilc (.tmp 69), (some (68, true))⟩,
  ⟨(some 71), .fad 6 (.tmp 70), (some (68, true))⟩,
  ⟨(some 72), .ld none (.tmp 71), (some (68, true))⟩,
  ⟨(some 73), .un .not (.tmp 72), (some (68, true))⟩,
  ⟨(some 74), .pick (.tmp 68) (.tmp 73) (.const (.bool false)), (some (65, false))⟩,
  ⟨(some 75), .pick (.tmp 65) (.const (.bool true)) (.tmp 74), none⟩])
 (.cond (.tmp 75) (.exit 1) (.skip)))
 (.seq (.reg [⟨(some 76), .mv (.tmp 0), none⟩,
  ⟨(some 77), .nilc (.tmp 76), none⟩,
  ⟨(some 78), .fad 0 (.tmp 77), none⟩,
  ⟨(some 79), .ld (some 4) (.tmp 78), none⟩,
  ⟨(some 80), .mv (.tmp 0), none⟩,
  ⟨(some 81), .nilc (.tmp 80), none⟩,
  ⟨(some 82), .fad 5 (.tmp 81), none⟩,
  ⟨(some 83), .ld none (.tmp 82), none⟩,
  ⟨(some 84), .mv (.tmp 1), none⟩,
  ⟨(some 85), .mv (.tmp 10), none⟩,
  ⟨(some 86), .mv (.tmp 11), none⟩,
  ⟨(some 88), .fad 1 (.tmp 12), none⟩,
  ⟨(some 89), .ld none (.tmp 88), none⟩,
  ⟨(some 87), .rcall (.func 213) [(.tmp 79), (.tmp 83), (.tmp 84), (.tmp 85), (.tmp 86)], none⟩,
  ⟨(some 90), .bin .add (.tmp 87) (.tmp 89), none⟩,
  ⟨(some 13), .mv (.tmp 90), none⟩])
 (.seq (.reg [⟨(some 91), .fad 0 (.tmp 9), none⟩,
  ⟨(some 92), .ld none (.tmp 91), none⟩,
  ⟨(some 93), .un .not (.tmp 92), none⟩,
  ⟨(some 94), .mv (.tmp 93), none⟩,
  ⟨(some 95), .mv (.tmp 13), (some (94, false))⟩,
  ⟨(some 96), .fad 1 (.tmp 9), (some (94, false))⟩,
  ⟨(some 97), .ld none (.tmp 96), (some (94, false))⟩,
  ⟨(some 98), .bin .lss (.tmp 95) (.tmp 97), (some (94, false))⟩,
  ⟨(some 99), .pick (.tmp 94) (.const (.bool true)) (.tmp 98), none⟩])
 (.cond (.tmp 99) (.reg [⟨(some 100), .mv (.tmp 13), none⟩,
  ⟨(some 101), .mv (.tmp 10), none⟩,
  ⟨(some 102), .bld [(.bool false), (.int .i64 0), (.int .i64 0)] [(0, 1, (.const (.bool true))), (1, 1, (.tmp 100)), (2, 1, (.tmp 101))], none⟩,
  ⟨none, .st 3 (.tmp 9) (.tmp 102), none⟩]) (.skip)))))))))
 (.reg [⟨(some 103), .bin .add (.tmp 41) (.const (.int .i64 1)), none⟩,
  ⟨(some 41), .mv (.tmp 103), none⟩])))))))
 (.seq (.reg [⟨(some 104), .ld (some 3) (.tmp 9), none⟩,
  ⟨none, .st 3 (.tmp 6) (.tmp 104), none⟩])
 (.ret))))))
def r_impl_planSearch__wayFrom : List ARes := [.cell 6 (some 3)]
theorem ok_impl_planSearch__wayFrom : FnOk Try.prog 252 105 c_impl_planSearch__wayFrom r_impl_planSearch__wayFrom := ⟨⟨Try.f252, _, Try.func252, by kernel_rfl, rfl, rfl, by kernel_rfl, by kernel_rfl⟩⟩
def c_math_bits_Mul : ACode := .seq (.reg [⟨(some 4), .mv (.const (.int .u64 0)), none⟩,
  ⟨(some 5), .mv (.const (.int .u64 0)), none⟩])
 (.seq (.cond (.const (.bool false)) (.seq (.reg [⟨(some 11), .mv (.tmp 0), none⟩,
  ⟨(some 12), .conv .u32 (.tmp 11), none⟩,
  ⟨(some 13), .mv (.tmp 1), none⟩,
  ⟨(some 14), .conv .u32 (.tmp 13), none⟩,
  ⟨(some 15), .call (.func 255) [(.tmp 12), (.tmp 14)], none⟩,
  ⟨(some 10), .mv (.tmp 15), none⟩,
  ⟨(some 16), .ext 0 (.tmp 10), none⟩,
  ⟨(some 17), .ext 1 (.tmp 10), none⟩,
  ⟨(some 6), .mv (.tmp 16), none⟩,
  ⟨(some 7), .mv (.tmp 17), none⟩])
 (.seq (.reg [⟨(some 18), .mv (.tmp 6), none⟩,
  ⟨(some 19), .conv .u64 (.tmp 18), none⟩,
  ⟨(some 20), .mv (.tmp 7), none⟩,
  ⟨(some 21), .conv .u64 (.tmp 20), none⟩,
  ⟨(some 4), .mv (.tmp 19), none⟩,
  ⟨(some 5), .mv (.tmp 21), none⟩])
 (.ret))) (.skip))
 (.seq (.reg [⟨(some 23), .mv (.tmp 0), none⟩,
  ⟨(some 24), .mv (.tmp 1), none⟩,
  ⟨(some 25), .call (.func 256) [(.tmp 23), (.tmp 24)], none⟩,
  ⟨(some 22), .mv (.tmp 25), none⟩,
  ⟨(some 26), .ext 0 (.tmp 22), none⟩,
  ⟨(some 27), .ext 1 (.tmp 22), none⟩,
  ⟨(some 8), .mv (.tmp 26), none⟩,
  ⟨(some 9), .mv (.tmp 27), none⟩])
 (.seq (.reg [⟨(some 28), .mv (.tmp 8), none⟩,
  ⟨(some 29), .mv (.tmp 9), none⟩,
  ⟨(some 4), .mv (.tmp 28), none⟩,
  ⟨(some 5), .mv (.tmp 29), none⟩])
 (.ret))))
def r_math_bits_Mul : List ARes := [.tmp 4, .tmp 5]
theorem ok_math_bits_Mul : FnOk Try.prog 253 30 c_math_bits_Mul r_math_bits_Mul := ⟨⟨Try.f253, _, Try.func253, by kernel_rfl, rfl, rfl, by kernel_rfl, by kernel_rfl⟩⟩
def c_cmp_isNaN : ACode := .seq (.reg [⟨(some 2), .mv (.const (.bool false)), none⟩])
 (.seq (.reg [⟨(some 3), .mv (.tmp 0), none⟩,
  ⟨(some 4), .mv (.tmp 0), none⟩,
  ⟨(some 5), .bin .neq (.tmp 3) (.tmp 4), none⟩,
  ⟨(some 2), .mv (.tmp 5), none⟩])
 (.ret))
def r_cmp_isNaN : List ARes := [.tmp 2]
theorem ok_cmp_isNaN : FnOk Try.prog 254 6 c_cmp_isNaN r_cmp_isNaN := ⟨⟨Try.f254, _, Try.func254, by kernel_rfl, rfl, rfl, by kernel_rfl, by kernel_rfl⟩⟩
def c_math_bits_Mul32 : ACode := .seq (.reg [⟨(some 4), .mv (.const (.int .u32 0)), none⟩,
  ⟨(some 5), .mv (.const (.int .u32 0)), none⟩])
 (.seq (.reg [⟨(some 7), .mv (.tmp 0), none⟩,
  ⟨(some 8), .conv .u64 (.tmp 7), none⟩,
  ⟨(some 9), .mv (.tmp 1), none⟩,
  ⟨(some 10), .conv .u64 (.tmp 9), none⟩,
  ⟨(some 11), .bin .mul (.tmp 8) (.tmp 10), none⟩,
  ⟨(some 6), .mv (.tmp 11), none⟩])
 (.seq (.reg [⟨(some 12), .mv (.tmp 6), none⟩,
  ⟨(some 13), .bin .shr (.tmp 12) (.const (.int .u64 32)), none⟩,
  ⟨(some 14), .conv .u32 (.tmp 13), none⟩,
  ⟨(some 15), .mv (.tmp 6), none⟩,
  ⟨(some 16), .conv .u32 (.tmp 15), none⟩,
  ⟨(some 4), .mv (.tmp 14), none⟩,
  ⟨(some 5), .mv (.tmp 16), none⟩])
 (.ret)))
def r_math_bits_Mul32 : List ARes := [.tmp 4, .tmp 5]
theorem ok_math_bits_Mul32 : FnOk Try.prog 255 17 c_math_bits_Mul32 r_math_bits_Mul32 := ⟨⟨Try.f255, _, Try.func255, by kernel_rfl, rfl, rfl, by kernel_rfl, by kernel_rfl⟩⟩
def c_math_bits_Mul64 : ACode := .seq (.reg [⟨(some 4), .mv (.const (.int .u64 0)), none⟩,
  ⟨(some 5), .mv (.const (.int .u64 0)), none⟩])
 (.seq (.reg [⟨(some 14), .mv (.tmp 0), none⟩,
  ⟨(some 15), .bin .and (.tmp 14) (.const (.int .u64 4294967295)), none⟩,
  ⟨(some 6), .mv (.tmp 15), none⟩])
 (.seq (.reg [⟨(some 16), .mv (.tmp 0), none⟩,
  ⟨(some 17), .bin .shr (.tmp 16) (.const (.int .u64 32)), none⟩,
  ⟨(some 7), .mv (.tmp 17), none⟩])
 (.seq (.reg [⟨(some 18), .mv (.tmp 1), none⟩,
  ⟨(some 19), .bin .and (.tmp 18) (.const (.int .u64 4294967295)), none⟩,
  ⟨(some 8), .mv (.tmp 19), none⟩])
 (.seq (.reg [⟨(some 20), .mv (.tmp 1), none⟩,
  ⟨(some 21), .bin .shr (.tmp 20) (.const (.int .u64 32)), none⟩,
  ⟨(some 9), .mv (.tmp 21), none⟩])
 (.seq (.reg [⟨(some 22), .mv (.tmp 6), none⟩,
  ⟨(some 23), .mv (.tmp 8), none⟩,
  ⟨(some 24), .bin .mul (.tmp 22) (.tmp 23), none⟩,
  ⟨(some 10), .mv (.tmp 24), none⟩])
 (.seq (.reg [⟨(some 25), .mv (.tmp 7), none⟩,
  ⟨(some 26), .mv (.tmp 8), none⟩,
  ⟨(some 27), .bin .mul (.tmp 25) (.tmp 26), none⟩,
  ⟨(some 28), .mv (.tmp 10), none⟩,
  ⟨(some 29), .bin .shr (.tmp 28) (.const (.int .u64 32)), none⟩,
  ⟨(some 30), .bin .add (.tmp 27) (.tmp 29), none⟩,
  ⟨(some 11), .mv (.tmp 30), none⟩])
 (.seq (.reg [⟨(some 31), .mv (.tmp 11), none⟩,
  ⟨(some 32), .bin .and (.tmp 31) (.const (.int .u64 4294967295)), none⟩,
  ⟨(some 12), .mv (.tmp 32), none⟩])
 (.seq (.reg [⟨(some 33), .mv (.tmp 11), none⟩,
  ⟨(some 34), .bin .shr (.tmp 33) (.const (.int .u64 32)), none⟩,
  ⟨(some 13), .mv (.tmp 34), none⟩])
 (.seq (.reg [⟨(some 35), .mv (.tmp 12), none⟩,
  ⟨(some 36), .mv (.tmp 6), none⟩,
  ⟨(some 37), .mv (.tmp 9), none⟩,
  ⟨(some 38), .bin .mul (.tmp 36) (.tmp 37), none⟩,
  ⟨(some 39), .bin .add (.tmp 35) (.tmp 38), none⟩,
  ⟨(some 12), .mv (.tmp 39), none⟩])
 (.seq (.reg [⟨(some 40), .mv (.tmp 7), none⟩,
  ⟨(some 41), .mv (.tmp 9), none⟩,
  ⟨(some 42), .bin .mul (.tmp 40) (.tmp 41), none⟩,
  ⟨(some 43), .mv (.tmp 13), none⟩,
  ⟨(some 44), .bin .add (.tmp 42) (.tmp 43), none⟩,
  ⟨(some 45), .mv (.tmp 12), none⟩,
  ⟨(some 46), .bin .shr (.tmp 45) (.const (.int .u64 32)), none⟩,
  ⟨(some 47), .bin .add (.tmp 44) (.tmp 46), none⟩,
  ⟨(some 4), .mv (.tmp 47), none⟩])
 (.seq (.reg [⟨(some 48), .mv (.tmp 0), none⟩,
  ⟨(some 49), .mv (.tmp 1), none⟩,
  ⟨(some 50), .bin .mul (.tmp 48) (.tmp 49), none⟩,
  ⟨(some 5), .mv (.tmp 50), none⟩])
 (.ret))))))))))))
def r_math_bits_Mul64 : List ARes := [.tmp 4, .tmp 5]
theorem ok_math_bits_Mul64 : FnOk Try.prog 256 51 c_math_bits_Mul64 r_math_bits_Mul64 := ⟨⟨Try.f256, _, Try.func256, by kernel_rfl, rfl, rfl, by kernel_rfl, by kernel_rfl⟩⟩
end Go.Proofs.Ytncajinepljdhaa.Ab
