/- The compiled forms of functions, each checked against the translation. -/
import Derived.Test.YtonpeflncnccdaaAb2
import Derived.Test.YtonpeflncnccdaaProg
namespace Go.Proofs.Ytonpeflncnccdaa.Ab
open Go Go.RowKit Go.Proofs
set_option maxRecDepth 100000
def c_spec_BestCost : ACode := .seq (.reg [⟨(some 1), .box 28 (.tmp 0), none⟩,
  ⟨(some 2), .mv (.const (.int .i64 0)), none⟩,
  ⟨(some 3), .mv (.const (.bool false)), none⟩])
 (.seq (.seq (.reg [⟨(some 4), .ld (some 4) (.tmp 1), none⟩,
  ⟨(some 5), .call (.func 36) [(.tmp 4)], none⟩,
  ⟨(some 6), .un .not (.tmp 5), none⟩])
 (.cond (.tmp 6) (.seq (.reg [⟨(some 2), .mv (.const (.int .i64 0)), none⟩,
  ⟨(some 3), .mv (.const (.bool false)), none⟩])
 (.ret)) (.skip)))
 (.seq (.reg [⟨(some 7), .ld (some 4) (.tmp 1), none⟩,
  ⟨(some 8), .call (.func 37) [(.tmp 7)], none⟩,
  ⟨(some 2), .mv (.tmp 8), none⟩,
  ⟨(some 3), .mv (.const (.bool true)), none⟩])
 (.ret)))
def r_spec_BestCost : List ARes := [.tmp 2, .tmp 3]
theorem ok_spec_BestCost : FnOk Try.prog 12 9 c_spec_BestCost r_spec_BestCost := ⟨⟨Try.f12, _, Try.func12, by kernel_rfl, rfl, rfl, by kernel_rfl, by kernel_rfl⟩⟩
def c_impl_BestCost : ACode := .seq (.reg [⟨(some 1), .box 28 (.tmp 0), none⟩,
  ⟨(some 2), .mv (.const (.int .i64 0)), none⟩,
  ⟨(some 3), .mv (.const (.bool false)), none⟩])
 (.seq (.seq (.reg [⟨(some 4), .ld (some 4) (.tmp 1), none⟩,
  ⟨(some 5), .call (.func 38) [(.tmp 4)], none⟩,
  ⟨(some 6), .un .not (.tmp 5), none⟩])
 (.cond (.tmp 6) (.seq (.reg [⟨(some 2), .mv (.const (.int .i64 0)), none⟩,
  ⟨(some 3), .mv (.const (.bool false)), none⟩])
 (.ret)) (.skip)))
 (.seq (.reg [⟨(some 7), .ld (some 4) (.tmp 1), none⟩,
  ⟨(some 8), .call (.func 39) [(.tmp 7)], none⟩,
  ⟨(some 9), .fld 0 none (.tmp 8), none⟩,
  ⟨(some 2), .mv (.tmp 9), none⟩,
  ⟨(some 3), .mv (.const (.bool true)), none⟩])
 (.ret)))
def r_impl_BestCost : List ARes := [.tmp 2, .tmp 3]
theorem ok_impl_BestCost : FnOk Try.prog 14 10 c_impl_BestCost r_impl_BestCost := ⟨⟨Try.f14, _, Try.func14, by kernel_rfl, rfl, rfl, by kernel_rfl, by kernel_rfl⟩⟩
def c_spec_BestPeriods : ACode := .seq (.reg [⟨(some 1), .box 28 (.tmp 0), none⟩,
  ⟨(some 2), .mv (.const (.slice none 0 0)), none⟩,
  ⟨(some 3), .mv (.const (.bool false)), none⟩])
 (.seq (.seq (.reg [⟨(some 4), .ld (some 4) (.tmp 1), none⟩,
  ⟨(some 5), .call (.func 36) [(.tmp 4)], none⟩,
  ⟨(some 6), .un .not (.tmp 5), none⟩])
 (.cond (.tmp 6) (.seq (.reg [⟨(some 7), .bsl 3 1 0 [] [], none⟩,
  ⟨(some 2), .mv (.tmp 7), none⟩,
  ⟨(some 3), .mv (.const (.bool false)), none⟩])
 (.ret)) (.skip)))
 (.seq (.reg [⟨(some 8), .ld (some 4) (.tmp 1), none⟩,
  ⟨(some 9), .call (.func 40) [(.tmp 8)], none⟩,
  ⟨(some 2), .mv (.tmp 9), none⟩,
  ⟨(some 3), .mv (.const (.bool true)), none⟩])
 (.ret)))
def r_spec_BestPeriods : List ARes := [.tmp 2, .tmp 3]
theorem ok_spec_BestPeriods : FnOk Try.prog 16 10 c_spec_BestPeriods r_spec_BestPeriods := ⟨⟨Try.f16, _, Try.func16, by kernel_rfl, rfl, rfl, by kernel_rfl, by kernel_rfl⟩⟩
def c_impl_BestPeriods : ACode := .seq (.reg [⟨(some 1), .box 28 (.tmp 0), none⟩,
  ⟨(some 2), .mv (.const (.slice none 0 0)), none⟩,
  ⟨(some 3), .mv (.const (.bool false)), none⟩])
 (.seq (.seq (.reg [⟨(some 4), .ld (some 4) (.tmp 1), none⟩,
  ⟨(some 5), .call (.func 38) [(.tmp 4)], none⟩,
  ⟨(some 6), .un .not (.tmp 5), none⟩])
 (.cond (.tmp 6) (.seq (.reg [⟨(some 7), .bsl 3 1 0 [] [], none⟩,
  ⟨(some 2), .mv (.tmp 7), none⟩,
  ⟨(some 3), .mv (.const (.bool false)), none⟩])
 (.ret)) (.skip)))
 (.seq (.reg [⟨(some 8), .ld (some 4) (.tmp 1), none⟩,
  ⟨(some 9), .call (.func 39) [(.tmp 8)], none⟩,
  ⟨(some 10), .fld 1 none (.tmp 9), none⟩,
  ⟨(some 2), .mv (.tmp 10), none⟩,
  ⟨(some 3), .mv (.const (.bool true)), none⟩])
 (.ret)))
def r_impl_BestPeriods : List ARes := [.tmp 2, .tmp 3]
theorem ok_impl_BestPeriods : FnOk Try.prog 17 11 c_impl_BestPeriods r_impl_BestPeriods := ⟨⟨Try.f17, _, Try.func17, by kernel_rfl, rfl, rfl, by kernel_rfl, by kernel_rfl⟩⟩
def c_spec_PlanFrom : ACode := .seq (.reg [⟨(some 2), .box 28 (.tmp 0), none⟩,
  ⟨(some 4), .mv (.const (.slice none 0 0)), none⟩,
  ⟨(some 5), .mv (.const (.bool false)), none⟩])
 (.seq (.seq (.reg [⟨(some 6), .ld (some 4) (.tmp 2), none⟩,
  ⟨(some 7), .call (.func 36) [(.tmp 6)], none⟩,
  ⟨(some 8), .un .not (.tmp 7), none⟩,
  ⟨(some 9), .mv (.tmp 8), none⟩,
  ⟨(some 10), .ld (some 4) (.tmp 2), (some (9, false))⟩,
  ⟨(some 11), .mv (.tmp 1), (some (9, false))⟩,
  ⟨(some 12), .call (.func 41) [(.tmp 10), (.tmp 11)], (some (9, false))⟩,
  ⟨(some 13), .un .not (.tmp 12), (some (9, false))⟩,
  ⟨(some 14), .pick (.tmp 9) (.const (.bool true)) (.tmp 13), none⟩,
  ⟨(some 15), .mv (.tmp 14), none⟩,
  ⟨(some 16), .ld (some 4) (.tmp 2), (some (15, false))⟩,
  ⟨(some 17), .mv (.tmp 1), (some (15, false))⟩,
  ⟨(some 18), .call (.func 42) [(.tmp 16), (.tmp 17)], (some (15, false))⟩,
  ⟨(some 19), .un .not (.tmp 18), (some (15, false))⟩,
  ⟨(some 20), .pick (.tmp 15) (.const (.bool true)) (.tmp 19), none⟩])
 (.cond (.tmp 20) (.seq (.reg [⟨(some 21), .bsl 3 1 0 [] [], none⟩,
  ⟨(some 4), .mv (.tmp 21), none⟩,
  ⟨(some 5), .mv (.const (.bool false)), none⟩])
 (.ret)) (.skip)))
 (.seq (.reg [⟨(some 22), .ld (some 4) (.tmp 2), none⟩,
  ⟨(some 23), .mv (.tmp 1), none⟩,
  ⟨(some 24), .call (.func 43) [(.tmp 22), (.tmp 23)], none⟩,
  ⟨(some 4), .mv (.tmp 24), none⟩,
  ⟨(some 5), .mv (.const (.bool true)), none⟩])
 (.ret)))
def r_spec_PlanFrom : List ARes := [.tmp 4, .tmp 5]
theorem ok_spec_PlanFrom : FnOk Try.prog 22 25 c_spec_PlanFrom r_spec_PlanFrom := ⟨⟨Try.f22, _, Try.func22, by kernel_rfl, rfl, rfl, by kernel_rfl, by kernel_rfl⟩⟩
def c_impl_PlanFrom : ACode := .seq (.reg [⟨(some 2), .box 28 (.tmp 0), none⟩,
  ⟨(some 4), .mv (.const (.slice none 0 0)), none⟩,
  ⟨(some 5), .mv (.const (.bool false)), none⟩])
 (.seq (.seq (.reg [⟨(some 10), .ld (some 4) (.tmp 2), none⟩,
  ⟨(some 11), .call (.func 38) [(.tmp 10)], none⟩,
  ⟨(some 12), .un .not (.tmp 11), none⟩,
  ⟨(some 13), .mv (.tmp 12), none⟩,
  ⟨(some 14), .mv (.tmp 1), (some (13, false))⟩,
  ⟨(some 15), .fad 0 (.tmp 2), (some (13, false))⟩,
  ⟨(some 16), .ld none (.tmp 15), (some (13, false))⟩,
  ⟨(some 17), .len (.tmp 16), (some (13, false))⟩,
  ⟨(some 18), .call (.func 44) [(.tmp 14), (.tmp 17)], (some (13, false))⟩,
  ⟨(some 19), .un .not (.tmp 18), (some (13, false))⟩,
  ⟨(some 20), .pick (.tmp 13) (.const (.bool true)) (.tmp 19), none⟩])
 (.cond (.tmp 20) (.seq (.reg [⟨(some 21), .bsl 3 1 0 [] [], none⟩,
  ⟨(some 4), .mv (.tmp 21), none⟩,
  ⟨(some 5), .mv (.const (.bool false)), none⟩])
 (.ret)) (.skip)))
 (.seq (.reg [⟨(some 22), .fad 0 (.tmp 2), none⟩,
  ⟨(some 23), .ld none (.tmp 22), none⟩,
  ⟨(some 24), .len (.tmp 23), none⟩,
  ⟨(some 25), .mks 3 8 [(.int .i64 0)] (.tmp 24) (.tmp 24), none⟩,
  ⟨(some 6), .alc 22 [(.slice none 0 0)], none⟩,
  ⟨none, .st 1 (.tmp 6) (.tmp 25), none⟩])
 (.seq (.reg [⟨(some 26), .ld none (.tmp 6), none⟩,
  ⟨(some 27), .len (.tmp 26), none⟩,
  ⟨(some 7), .alc 3 [(.int .i64 0)], none⟩,
  ⟨none, .st 1 (.tmp 7) (.tmp 27), none⟩])
 (.seq (.seq (.reg [⟨(some 28), .mv (.tmp 1), none⟩,
  ⟨(some 29), .call (.func 45) [(.tmp 28)], none⟩])
 (.block 0 (.range (.tmp 29) [30, 31] (.reg [⟨(some 9), .mv (.tmp 31), none⟩]) (.block 1 (.seq (.reg [⟨(some 32), .ld none (.tmp 6), none⟩,
  ⟨(some 33), .mv (.tmp 9), none⟩,
  ⟨(some 34), .fad 0 (.tmp 2), none⟩,
  ⟨(some 35), .ld none (.tmp 34), none⟩,
  ⟨(some 36), .mv (.tmp 9), none⟩,
  ⟨(some 37), .ld none (.tmp 7), none⟩,
  ⟨(some 38), .slc 1 (.tmp 35) (some (.tmp 36)) (some (.tmp 37)), none⟩,
  ⟨(some 39), .rcall (.func 46) [(.tmp 38)], none⟩,
  ⟨(some 40), .iad 1 (.tmp 32) (.tmp 33), none⟩,
  ⟨none, .st 1 (.tmp 40) (.tmp 39), none⟩])
 (.reg [⟨(some 41), .mv (.tmp 9), none⟩,
  ⟨none, .st 1 (.tmp 7) (.tmp 41), none⟩]))))))
 (.seq (.seq (.reg [⟨(some 42), .fad 0 (.tmp 2), none⟩,
  ⟨(some 43), .ld none (.tmp 42), none⟩,
  ⟨(some 44), .ld none (.tmp 7), none⟩,
  ⟨(some 45), .slc 1 (.tmp 43) none (some (.tmp 44)), none⟩,
  ⟨(some 46), .call (.func 46) [(.tmp 45)], none⟩,
  ⟨(some 47), .bin .gtr (.tmp 46) (.const (.int .i64 0)), none⟩])
 (.cond (.tmp 47) (.seq (.reg [⟨(some 48), .bsl 3 1 0 [] [], none⟩,
  ⟨(some 4), .mv (.tmp 48), none⟩,
  ⟨(some 5), .mv (.const (.bool false)), none⟩])
 (.ret)) (.skip)))
 (.seq (.reg [⟨(some 49), .ld none (.tmp 6), none⟩,
  ⟨(some 4), .mv (.tmp 49), none⟩,
  ⟨(some 5), .mv (.const (.bool true)), none⟩])
 (.ret)))))))
def r_impl_PlanFrom : List ARes := [.tmp 4, .tmp 5]
theorem ok_impl_PlanFrom : FnOk Try.prog 24 50 c_impl_PlanFrom r_impl_PlanFrom := ⟨⟨Try.f24, _, Try.func24, by kernel_rfl, rfl, rfl, by kernel_rfl, by kernel_rfl⟩⟩
def c_spec_RulePeriods : ACode := .seq (.reg [⟨(some 2), .box 28 (.tmp 0), none⟩,
  ⟨(some 4), .mv (.const (.slice none 0 0)), none⟩,
  ⟨(some 5), .mv (.const (.bool false)), none⟩])
 (.seq (.seq (.reg [⟨(some 6), .ld (some 4) (.tmp 2), none⟩,
  ⟨(some 7), .call (.func 36) [(.tmp 6)], none⟩,
  ⟨(some 8), .un .not (.tmp 7), none⟩,
  ⟨(some 9), .mv (.tmp 8), none⟩,
  ⟨(some 10), .mv (.tmp 1), (some (9, false))⟩,
  ⟨(some 11), .call (.func 47) [(.tmp 10), (.const (.int .i64 1)), (.const (.int .i64 3))], (some (9, false))⟩,
  ⟨(some 12), .un .not (.tmp 11), (some (9, false))⟩,
  ⟨(some 13), .pick (.tmp 9) (.const (.bool true)) (.tmp 12), none⟩])
 (.cond (.tmp 13) (.seq (.reg [⟨(some 14), .bsl 3 1 0 [] [], none⟩,
  ⟨(some 4), .mv (.tmp 14), none⟩,
  ⟨(some 5), .mv (.const (.bool false)), none⟩])
 (.ret)) (.skip)))
 (.seq (.reg [⟨(some 15), .ld (some 4) (.tmp 2), none⟩,
  ⟨(some 16), .mv (.tmp 1), none⟩,
  ⟨(some 17), .call (.func 48) [(.tmp 15), (.tmp 16)], none⟩,
  ⟨(some 4), .mv (.tmp 17), none⟩,
  ⟨(some 5), .mv (.const (.bool true)), none⟩])
 (.ret)))
def r_spec_RulePeriods : List ARes := [.tmp 4, .tmp 5]
theorem ok_spec_RulePeriods : FnOk Try.prog 25 18 c_spec_RulePeriods r_spec_RulePeriods := ⟨⟨Try.f25, _, Try.func25, by kernel_rfl, rfl, rfl, by kernel_rfl, by kernel_rfl⟩⟩
def c_impl_RulePeriods : ACode := .seq (.reg [⟨(some 2), .box 28 (.tmp 0), none⟩,
  ⟨(some 4), .mv (.const (.slice none 0 0)), none⟩,
  ⟨(some 5), .mv (.const (.bool false)), none⟩])
 (.seq (.reg [⟨(some 12), .ld (some 4) (.tmp 2), none⟩,
  ⟨(some 13), .mv (.tmp 1), none⟩,
  ⟨(some 14), .call (.func 49) [(.tmp 12), (.tmp 13)], none⟩,
  ⟨(some 11), .mv (.tmp 14), none⟩,
  ⟨(some 15), .ext 0 (.tmp 11), none⟩,
  ⟨(some 16), .ext 1 (.tmp 11), none⟩,
  ⟨(some 6), .mv (.tmp 15), none⟩,
  ⟨(some 7), .mv (.tmp 16), none⟩])
 (.seq (.seq (.reg [⟨(some 17), .ld (some 4) (.tmp 2), none⟩,
  ⟨(some 18), .call (.func 38) [(.tmp 17)], none⟩,
  ⟨(some 19), .un .not (.tmp 18), none⟩,
  ⟨(some 20), .mv (.tmp 19), none⟩,
  ⟨(some 21), .mv (.tmp 7), (some (20, false))⟩,
  ⟨(some 22), .un .not (.tmp 21), (some (20, false))⟩,
  ⟨(some 23), .pick (.tmp 20) (.const (.bool true)) (.tmp 22), none⟩])
 (.cond (.tmp 23) (.seq (.reg [⟨(some 24), .bsl 3 1 0 [] [], none⟩,
  ⟨(some 4), .mv (.tmp 24), none⟩,
  ⟨(some 5), .mv (.const (.bool false)), none⟩])
 (.ret)) (.skip)))
 (.seq (.reg [⟨(some 25), .bsl 3 1 0 [] [], none⟩,
  ⟨(some 8), .mv (.tmp 25), none⟩])
 (.seq (.seq (.reg [⟨(some 26), .ld (some 4) (.tmp 2), none⟩,
  ⟨(some 27), .call (.func 50) [(.tmp 26), (.const (.int .i64 0))], none⟩,
  ⟨(some 9), .mv (.tmp 27), none⟩])
 (.block 0 (.loop (.seq (.seq (.reg [⟨(some 28), .mv (.tmp 9), none⟩,
  ⟨(some 29), .fad 0 (.tmp 2), none⟩,
  ⟨(some 30), .ld none (.tmp 29), none⟩,
  ⟨(some 31), .len (.tmp 30), none⟩,
  ⟨(some 32), .bin .lss (.tmp 28) (.tmp 31), none⟩])
 (.cond (.tmp 32) (.skip) (.exit 0)))
 (.block 1 (.seq (.reg [⟨(some 33), .mv (.tmp 8), none⟩,
  ⟨(some 34), .mv (.tmp 9), none⟩,
  ⟨(some 35), .bsl 3 1 1 [(.int .i64 0)] [(0, 1, (.tmp 34))], none⟩,
  ⟨(some 36), .app 3 1 8 (.tmp 33) (.tmp 35), none⟩,
  ⟨(some 8), .mv (.tmp 36), none⟩])
 (.seq (.reg [⟨(some 37), .mv (.tmp 9), none⟩,
  ⟨(some 38), .bin .add (.tmp 37) (.const (.int .i64 1)), none⟩,
  ⟨(some 10), .mv (.tmp 38), none⟩])
 (.seq (.block 2 (.loop (.seq (.seq (.reg [⟨(some 39), .mv (.tmp 10), none⟩,
  ⟨(some 40), .fad 0 (.tmp 2), none⟩,
  ⟨(some 41), .ld none (.tmp 40), none⟩,
  ⟨(some 42), .len (.tmp 41), none⟩,
  ⟨(some 43), .bin .lss (.tmp 39) (.tmp 42), none⟩,
  ⟨(some 44), .mv (.tmp 43), none⟩,
  ⟨(some 45), .mv (.tmp 6), (some (44, true))⟩,
  ⟨(some 46), .mv (.tmp 9), (some (44, true))⟩,
  ⟨(some 47), .mv (.tmp 10), (some (44, true))⟩,
  ⟨(some 48), .call (.tmp 45) [(.tmp 46), (.tmp 47)], (some (44, true))⟩,
  ⟨(some 49), .pick (.tmp 44) (.tmp 48) (.const (.bool false)), none⟩])
 (.cond (.tmp 49) (.skip) (.exit 2)))
 (.block 3 (.reg [⟨(some 50), .mv (.tmp 10), none⟩,
  ⟨(some 51), .bin .add (.tmp 50) (.const (.int .i64 1)), none⟩,
  ⟨(some 10), .mv (.tmp 51), none⟩])))))
 (.reg [⟨(some 52), .ld (some 4) (.tmp 2), none⟩,
  ⟨(some 53), .mv (.tmp 10), none⟩,
  ⟨(some 54), .call (.func 50) [(.tmp 52), (.tmp 53)], none⟩,
  ⟨(some 9), .mv (.tmp 54), none⟩])))))))))
 (.seq (.reg [⟨(some 55), .mv (.tmp 8), none⟩,
  ⟨(some 4), .mv (.tmp 55), none⟩,
  ⟨(some 5), .mv (.const (.bool true)), none⟩])
 (.ret))))))
def r_impl_RulePeriods : List ARes := [.tmp 4, .tmp 5]
theorem ok_impl_RulePeriods : FnOk Try.prog 26 56 c_impl_RulePeriods r_impl_RulePeriods := ⟨⟨Try.f26, _, Try.func26, by kernel_rfl, rfl, rfl, by kernel_rfl, by kernel_rfl⟩⟩
def c_spec_RuleGap : ACode := .seq (.reg [⟨(some 2), .box 28 (.tmp 0), none⟩,
  ⟨(some 4), .mv (.const (.int .i64 0)), none⟩,
  ⟨(some 5), .mv (.const (.bool false)), none⟩])
 (.seq (.seq (.reg [⟨(some 6), .ld (some 4) (.tmp 2), none⟩,
  ⟨(some 7), .call (.func 36) [(.tmp 6)], none⟩,
  ⟨(some 8), .un .not (.tmp 7), none⟩,
  ⟨(some 9), .mv (.tmp 8), none⟩,
  ⟨(some 10), .mv (.tmp 1), (some (9, false))⟩,
  ⟨(some 11), .call (.func 47) [(.tmp 10), (.const (.int .i64 1)), (.const (.int .i64 3))], (some (9, false))⟩,
  ⟨(some 12), .un .not (.tmp 11), (some (9, false))⟩,
  ⟨(some 13), .pick (.tmp 9) (.const (.bool true)) (.tmp 12), none⟩])
 (.cond (.tmp 13) (.seq (.reg [⟨(some 4), .mv (.const (.int .i64 0)), none⟩,
  ⟨(some 5), .mv (.const (.bool false)), none⟩])
 (.ret)) (.skip)))
 (.seq (.reg [⟨(some 14), .ld (some 4) (.tmp 2), none⟩,
  ⟨(some 15), .ld (some 4) (.tmp 2), none⟩,
  ⟨(some 16), .ld (some 4) (.tmp 2), none⟩,
  ⟨(some 17), .mv (.tmp 1), none⟩,
  ⟨(some 21), .ld (some 4) (.tmp 2), none⟩,
  ⟨(some 18), .rcall (.func 48) [(.tmp 16), (.tmp 17)], none⟩,
  ⟨(some 19), .rcall (.func 43) [(.tmp 15), (.tmp 18)], none⟩,
  ⟨(some 20), .rcall (.func 51) [(.tmp 14), (.tmp 19)], none⟩,
  ⟨(some 22), .rcall (.func 52) [(.tmp 21)], none⟩,
  ⟨(some 23), .iad 1 (.tmp 22) (.const (.int .i64 0)), none⟩,
  ⟨(some 24), .ld none (.tmp 23), none⟩,
  ⟨(some 25), .bin .sub (.tmp 20) (.tmp 24), none⟩,
  ⟨(some 4), .mv (.tmp 25), none⟩,
  ⟨(some 5), .mv (.const (.bool true)), none⟩])
 (.ret)))
def r_spec_RuleGap : List ARes := [.tmp 4, .tmp 5]
theorem ok_spec_RuleGap : FnOk Try.prog 27 26 c_spec_RuleGap r_spec_RuleGap := ⟨⟨Try.f27, _, Try.func27, by kernel_rfl, rfl, rfl, by kernel_rfl, by kernel_rfl⟩⟩
def c_impl_RuleGap : ACode := .seq (.reg [⟨(some 2), .box 28 (.tmp 0), none⟩,
  ⟨(some 4), .mv (.const (.int .i64 0)), none⟩,
  ⟨(some 5), .mv (.const (.bool false)), none⟩])
 (.seq (.reg [⟨(some 15), .ld (some 4) (.tmp 2), none⟩,
  ⟨(some 16), .mv (.tmp 1), none⟩,
  ⟨(some 17), .call (.func 26) [(.tmp 15), (.tmp 16)], none⟩,
  ⟨(some 14), .mv (.tmp 17), none⟩,
  ⟨(some 18), .ext 0 (.tmp 14), none⟩,
  ⟨(some 19), .ext 1 (.tmp 14), none⟩,
  ⟨(some 6), .mv (.tmp 18), none⟩,
  ⟨(some 7), .mv (.tmp 19), none⟩])
 (.seq (.seq (.reg [⟨(some 20), .mv (.tmp 7), none⟩,
  ⟨(some 21), .un .not (.tmp 20), none⟩])
 (.cond (.tmp 21) (.seq (.reg [⟨(some 4), .mv (.const (.int .i64 0)), none⟩,
  ⟨(some 5), .mv (.const (.bool false)), none⟩])
 (.ret)) (.skip)))
 (.seq (.reg [⟨(some 23), .ld (some 4) (.tmp 2), none⟩,
  ⟨(some 24), .mv (.tmp 6), none⟩,
  ⟨(some 25), .call (.func 24) [(.tmp 23), (.tmp 24)], none⟩,
  ⟨(some 22), .mv (.tmp 25), none⟩,
  ⟨(some 26), .ext 0 (.tmp 22), none⟩,
  ⟨(some 27), .ext 1 (.tmp 22), none⟩,
  ⟨(some 8), .mv (.tmp 26), none⟩,
  ⟨(some 9), .mv (.tmp 27), none⟩])
 (.seq (.reg [⟨(some 29), .ld (some 4) (.tmp 2), none⟩,
  ⟨(some 30), .mv (.tmp 8), none⟩,
  ⟨(some 31), .call (.func 53) [(.tmp 29), (.tmp 30)], none⟩,
  ⟨(some 28), .mv (.tmp 31), none⟩,
  ⟨(some 32), .ext 0 (.tmp 28), none⟩,
  ⟨(some 33), .ext 1 (.tmp 28), none⟩,
  ⟨(some 10), .mv (.tmp 32), none⟩,
  ⟨(some 11), .mv (.tmp 33), none⟩])
 (.seq (.reg [⟨(some 35), .ld (some 4) (.tmp 2), none⟩,
  ⟨(some 36), .call (.func 14) [(.tmp 35)], none⟩,
  ⟨(some 34), .mv (.tmp 36), none⟩,
  ⟨(some 37), .ext 0 (.tmp 34), none⟩,
  ⟨(some 38), .ext 1 (.tmp 34), none⟩,
  ⟨(some 12), .mv (.tmp 37), none⟩,
  ⟨(some 13), .mv (.tmp 38), none⟩])
 (.seq (.reg [⟨(some 39), .mv (.tmp 10), none⟩,
  ⟨(some 40), .mv (.tmp 12), none⟩,
  ⟨(some 41), .bin .sub (.tmp 39) (.tmp 40), none⟩,
  ⟨(some 4), .mv (.tmp 41), none⟩,
  ⟨(some 5), .mv (.const (.bool true)), none⟩])
 (.ret)))))))
def r_impl_RuleGap : List ARes := [.tmp 4, .tmp 5]
theorem ok_impl_RuleGap : FnOk Try.prog 28 42 c_impl_RuleGap r_impl_RuleGap := ⟨⟨Try.f28, _, Try.func28, by kernel_rfl, rfl, rfl, by kernel_rfl, by kernel_rfl⟩⟩
def c_spec_ClaimsOf : ACode := .seq (.reg [⟨(some 2), .box 28 (.tmp 0), none⟩,
  ⟨(some 4), .mv (.const (.slice none 0 0)), none⟩,
  ⟨(some 5), .mv (.const (.bool false)), none⟩])
 (.seq (.reg [⟨(some 8), .bsl 3 1 0 [] [], none⟩,
  ⟨(some 6), .mv (.tmp 8), none⟩])
 (.seq (.seq (.reg [⟨(some 9), .ld (some 4) (.tmp 2), none⟩,
  ⟨(some 10), .mv (.tmp 1), none⟩,
  ⟨(some 11), .call (.func 54) [(.tmp 9), (.tmp 10)], none⟩,
  ⟨(some 12), .un .not (.tmp 11), none⟩])
 (.cond (.tmp 12) (.seq (.reg [⟨(some 13), .mv (.tmp 6), none⟩,
  ⟨(some 4), .mv (.tmp 13), none⟩,
  ⟨(some 5), .mv (.const (.bool false)), none⟩])
 (.ret)) (.skip)))
 (.seq (.seq (.reg [⟨(some 7), .mv (.const (.int .i64 0)), none⟩])
 (.block 0 (.loop (.seq (.seq (.reg [⟨(some 14), .mv (.tmp 7), none⟩,
  ⟨(some 15), .mv (.tmp 1), none⟩,
  ⟨(some 16), .len (.tmp 15), none⟩,
  ⟨(some 17), .bin .lss (.tmp 14) (.tmp 16), none⟩])
 (.cond (.tmp 17) (.skip) (.exit 0)))
 (.seq (.block 1 (.reg [⟨(some 20), .mv (.tmp 6), none⟩,
  ⟨(some 21), .ld (some 4) (.tmp 2), none⟩,
  ⟨(some 22), .mv (.tmp 1), none⟩,
  ⟨(some 23), .mv (.tmp 7), none⟩,
  ⟨(some 24), .call (.func 55) [(.tmp 21), (.tmp 22), (.tmp 23)], none⟩,
  ⟨(some 25), .bsl 3 1 1 [(.int .i64 0)] [(0, 1, (.tmp 24))], none⟩,
  ⟨(some 26), .app 3 1 8 (.tmp 20) (.tmp 25), none⟩,
  ⟨(some 6), .mv (.tmp 26), none⟩]))
 (.reg [⟨(some 18), .mv (.tmp 7), none⟩,
  ⟨(some 19), .bin .add (.tmp 18) (.const (.int .i64 1)), none⟩,
  ⟨(some 7), .mv (.tmp 19), none⟩]))))))
 (.seq (.reg [⟨(some 27), .mv (.tmp 6), none⟩,
  ⟨(some 4), .mv (.tmp 27), none⟩,
  ⟨(some 5), .mv (.const (.bool true)), none⟩])
 (.ret)))))
def r_spec_ClaimsOf : List ARes := [.tmp 4, .tmp 5]
theorem ok_spec_ClaimsOf : FnOk Try.prog 29 28 c_spec_ClaimsOf r_spec_ClaimsOf := ⟨⟨Try.f29, _, Try.func29, by kernel_rfl, rfl, rfl, by kernel_rfl, by kernel_rfl⟩⟩
def c_impl_ClaimsOf : ACode := .seq (.reg [⟨(some 2), .box 28 (.tmp 0), none⟩,
  ⟨(some 4), .mv (.const (.slice none 0 0)), none⟩,
  ⟨(some 5), .mv (.const (.bool false)), none⟩])
 (.seq (.seq (.reg [⟨(some 8), .ld (some 4) (.tmp 2), none⟩,
  ⟨(some 9), .call (.func 38) [(.tmp 8)], none⟩,
  ⟨(some 10), .un .not (.tmp 9), none⟩,
  ⟨(some 11), .mv (.tmp 10), none⟩,
  ⟨(some 12), .mv (.tmp 1), (some (11, false))⟩,
  ⟨(some 13), .fad 0 (.tmp 2), (some (11, false))⟩,
  ⟨(some 14), .ld none (.tmp 13), (some (11, false))⟩,
  ⟨(some 15), .len (.tmp 14), (some (11, false))⟩,
  ⟨(some 16), .call (.func 56) [(.tmp 12), (.tmp 15), (.const (.int .i64 9999))], (some (11, false))⟩,
  ⟨(some 17), .un .not (.tmp 16), (some (11, false))⟩,
  ⟨(some 18), .pick (.tmp 11) (.const (.bool true)) (.tmp 17), none⟩])
 (.cond (.tmp 18) (.seq (.reg [⟨(some 19), .bsl 3 1 0 [] [], none⟩,
  ⟨(some 4), .mv (.tmp 19), none⟩,
  ⟨(some 5), .mv (.const (.bool false)), none⟩])
 (.ret)) (.skip)))
 (.seq (.reg [⟨(some 20), .bsl 3 1 0 [] [], none⟩,
  ⟨(some 6), .mv (.tmp 20), none⟩])
 (.seq (.seq (.reg [⟨(some 21), .mv (.tmp 1), none⟩,
  ⟨(some 22), .len (.tmp 21), none⟩,
  ⟨(some 23), .mv (.const (.int .i64 0)), none⟩])
 (.block 0 (.loop (.seq (.reg [⟨(some 24), .bin .lss (.tmp 23) (.tmp 22), none⟩])
 (.seq (.cond (.tmp 24) (.skip) (.exit 0))
 (.seq (.block 1 (.seq (.reg [⟨(some 25), .mv (.tmp 23), none⟩,
  ⟨(some 7), .mv (.tmp 25), none⟩])
 (.reg [⟨(some 26), .mv (.tmp 6), none⟩,
  ⟨(some 27), .ld (some 4) (.tmp 2), none⟩,
  ⟨(some 28), .mv (.tmp 1), none⟩,
  ⟨(some 29), .mv (.tmp 7), none⟩,
  ⟨(some 30), .call (.func 57) [(.tmp 27), (.tmp 28), (.tmp 29)], none⟩,
  ⟨(some 31), .bsl 3 1 1 [(.int .i64 0)] [(0, 1, (.tmp 30))], none⟩,
  ⟨(some 32), .app 3 1 8 (.tmp 26) (.tmp 31), none⟩,
  ⟨(some 6), .mv (.tmp 32), none⟩])))
 (.reg [⟨(some 33), .bin .add (.tmp 23) (.const (.int .i64 1)), none⟩,
  ⟨(some 23), .mv (.tmp 33), none⟩])))))))
 (.seq (.reg [⟨(some 34), .mv (.tmp 6), none⟩,
  ⟨(some 4), .mv (.tmp 34), none⟩,
  ⟨(some 5), .mv (.const (.bool true)), none⟩])
 (.ret)))))
def r_impl_ClaimsOf : List ARes := [.tmp 4, .tmp 5]
theorem ok_impl_ClaimsOf : FnOk Try.prog 30 35 c_impl_ClaimsOf r_impl_ClaimsOf := ⟨⟨Try.f30, _, Try.func30, by kernel_rfl, rfl, rfl, by kernel_rfl, by kernel_rfl⟩⟩
def c_spec_AreFair : ACode := .seq (.reg [⟨(some 2), .box 28 (.tmp 0), none⟩,
  ⟨(some 4), .mv (.const (.bool false)), none⟩,
  ⟨(some 5), .mv (.const (.bool false)), none⟩])
 (.seq (.seq (.reg [⟨(some 6), .ld (some 4) (.tmp 2), none⟩,
  ⟨(some 7), .mv (.tmp 1), none⟩,
  ⟨(some 8), .call (.func 54) [(.tmp 6), (.tmp 7)], none⟩,
  ⟨(some 9), .un .not (.tmp 8), none⟩])
 (.cond (.tmp 9) (.seq (.reg [⟨(some 4), .mv (.const (.bool false)), none⟩,
  ⟨(some 5), .mv (.const (.bool false)), none⟩])
 (.ret)) (.skip)))
 (.seq (.reg [⟨(some 10), .ld (some 4) (.tmp 2), none⟩,
  ⟨(some 11), .mv (.tmp 1), none⟩,
  ⟨(some 12), .call (.func 58) [(.tmp 10), (.tmp 11)], none⟩,
  ⟨(some 4), .mv (.tmp 12), none⟩,
  ⟨(some 5), .mv (.const (.bool true)), none⟩])
 (.ret)))
def r_spec_AreFair : List ARes := [.tmp 4, .tmp 5]
theorem ok_spec_AreFair : FnOk Try.prog 31 13 c_spec_AreFair r_spec_AreFair := ⟨⟨Try.f31, _, Try.func31, by kernel_rfl, rfl, rfl, by kernel_rfl, by kernel_rfl⟩⟩
def c_impl_AreFair : ACode := .seq (.reg [⟨(some 2), .box 28 (.tmp 0), none⟩,
  ⟨(some 4), .mv (.const (.bool false)), none⟩,
  ⟨(some 5), .mv (.const (.bool false)), none⟩])
 (.seq (.reg [⟨(some 11), .ld (some 4) (.tmp 2), none⟩,
  ⟨(some 12), .mv (.tmp 1), none⟩,
  ⟨(some 13), .call (.func 30) [(.tmp 11), (.tmp 12)], none⟩,
  ⟨(some 10), .mv (.tmp 13), none⟩,
  ⟨(some 14), .ext 0 (.tmp 10), none⟩,
  ⟨(some 15), .ext 1 (.tmp 10), none⟩,
  ⟨(some 6), .mv (.tmp 14), none⟩,
  ⟨(some 7), .mv (.tmp 15), none⟩])
 (.seq (.seq (.reg [⟨(some 16), .mv (.tmp 7), none⟩,
  ⟨(some 17), .un .not (.tmp 16), none⟩])
 (.cond (.tmp 17) (.seq (.reg [⟨(some 4), .mv (.const (.bool false)), none⟩,
  ⟨(some 5), .mv (.const (.bool false)), none⟩])
 (.ret)) (.skip)))
 (.seq (.seq (.reg [⟨(some 18), .mv (.tmp 6), none⟩,
  ⟨(some 19), .len (.tmp 18), none⟩,
  ⟨(some 20), .mv (.const (.int .i64 0)), none⟩])
 (.block 0 (.loop (.seq (.reg [⟨(some 21), .bin .lss (.tmp 20) (.tmp 19), none⟩])
 (.seq (.cond (.tmp 21) (.skip) (.exit 0))
 (.seq (.block 1 (.seq (.reg [⟨(some 22), .mv (.tmp 20), none⟩,
  ⟨(some 23), .iad 1 (.tmp 18) (.tmp 20), none⟩,
  ⟨(some 24), .ld none (.tmp 23), none⟩,
  ⟨(some 8), .mv (.tmp 22), none⟩,
  ⟨(some 9), .mv (.tmp 24), none⟩])
 (.seq (.reg [⟨(some 25), .mv (.tmp 9), none⟩,
  ⟨(some 26), .fad 1 (.tmp 2), none⟩,
  ⟨(some 27), .ld none (.tmp 26), none⟩,
  ⟨(some 28), .mv (.tmp 8), none⟩,
  ⟨(some 29), .iad 1 (.tmp 27) (.tmp 28), none⟩,
  ⟨(some 30), .ld none (.tmp 29), none⟩,
  ⟨(some 31), .bin .gtr (.tmp 25) (.tmp 30), none⟩,
  ⟨(some 32), .mv (.tmp 31), none⟩,
  ⟨(some 33), .fad 0 (.tmp 2), (some (32, false))⟩,
  ⟨(some 34), .ld none (.tmp 33), (some (32, false))⟩,
  ⟨(some 35), .mv (.tmp 8), (some (32, false))⟩,
  ⟨(some 36), .iad 1 (.tmp 34) (.tmp 35), (some (32, false))⟩,
  ⟨(some 37), .ld none (.tmp 36), (some (32, false))⟩,
  ⟨(some 38), .bin .eql (.tmp 37) (.const (.int .i64 0)), (some (32, false))⟩,
  ⟨(some 39), .mv (.tmp 38), (some (32, false))⟩,
  ⟨(some 40), .mv (.tmp 1), (some (39, true))⟩,
  ⟨(some 41), .mv (.tmp 8), (some (39, true))⟩,
  ⟨(some 42), .iad 1 (.tmp 40) (.tmp 41), (some (39, true))⟩,
  ⟨(some 43), .ld none (.tmp 42), (some (39, true))⟩,
  ⟨(some 44), .bin .gtr (.tmp 43) (.const (.int .i64 0)), (some (39, true))⟩,
  ⟨(some 45), .pick (.tmp 39) (.tmp 44) (.const (.bool false)), (some (32, false))⟩,
  ⟨(some 46), .pick (.tmp 32) (.const (.bool true)) (.tmp 45), none⟩])
 (.cond (.tmp 46) (.seq (.reg [⟨(some 4), .mv (.const (.bool false)), none⟩,
  ⟨(some 5), .mv (.const (.bool true)), none⟩])
 (.ret)) (.skip)))))
 (.reg [⟨(some 47), .bin .add (.tmp 20) (.const (.int .i64 1)), none⟩,
  ⟨(some 20), .mv (.tmp 47), none⟩])))))))
 (.seq (.reg [⟨(some 4), .mv (.const (.bool true)), none⟩,
  ⟨(some 5), .mv (.const (.bool true)), none⟩])
 (.ret)))))
def r_impl_AreFair : List ARes := [.tmp 4, .tmp 5]
theorem ok_impl_AreFair : FnOk Try.prog 32 48 c_impl_AreFair r_impl_AreFair := ⟨⟨Try.f32, _, Try.func32, by kernel_rfl, rfl, rfl, by kernel_rfl, by kernel_rfl⟩⟩
def c_spec_IsPriceProof : ACode := .seq (.reg [⟨(some 3), .box 28 (.tmp 0), none⟩,
  ⟨(some 6), .mv (.const (.bool false)), none⟩,
  ⟨(some 7), .mv (.const (.bool false)), none⟩])
 (.seq (.seq (.reg [⟨(some 8), .ld (some 4) (.tmp 3), none⟩,
  ⟨(some 9), .mv (.tmp 1), none⟩,
  ⟨(some 10), .call (.func 58) [(.tmp 8), (.tmp 9)], none⟩,
  ⟨(some 11), .un .not (.tmp 10), none⟩,
  ⟨(some 12), .mv (.tmp 11), none⟩,
  ⟨(some 13), .ld (some 4) (.tmp 3), (some (12, false))⟩,
  ⟨(some 14), .mv (.tmp 2), (some (12, false))⟩,
  ⟨(some 15), .call (.func 59) [(.tmp 13), (.tmp 14)], (some (12, false))⟩,
  ⟨(some 16), .un .not (.tmp 15), (some (12, false))⟩,
  ⟨(some 17), .pick (.tmp 12) (.const (.bool true)) (.tmp 16), none⟩])
 (.cond (.tmp 17) (.seq (.reg [⟨(some 6), .mv (.const (.bool false)), none⟩,
  ⟨(some 7), .mv (.const (.bool false)), none⟩])
 (.ret)) (.skip)))
 (.seq (.reg [⟨(some 18), .mv (.tmp 1), none⟩,
  ⟨(some 20), .ld (some 4) (.tmp 3), none⟩,
  ⟨(some 21), .mv (.tmp 2), none⟩,
  ⟨(some 19), .rcall (.func 60) [(.tmp 18)], none⟩,
  ⟨(some 22), .rcall (.func 51) [(.tmp 20), (.tmp 21)], none⟩,
  ⟨(some 23), .bin .eql (.tmp 19) (.tmp 22), none⟩,
  ⟨(some 6), .mv (.tmp 23), none⟩,
  ⟨(some 7), .mv (.const (.bool true)), none⟩])
 (.ret)))
def r_spec_IsPriceProof : List ARes := [.tmp 6, .tmp 7]
theorem ok_spec_IsPriceProof : FnOk Try.prog 33 24 c_spec_IsPriceProof r_spec_IsPriceProof := ⟨⟨Try.f33, _, Try.func33, by kernel_rfl, rfl, rfl, by kernel_rfl, by kernel_rfl⟩⟩
def c_impl_IsPriceProof : ACode := .seq (.reg [⟨(some 3), .box 28 (.tmp 0), none⟩,
  ⟨(some 6), .mv (.const (.bool false)), none⟩,
  ⟨(some 7), .mv (.const (.bool false)), none⟩])
 (.seq (.seq (.reg [⟨(some 13), .ld (some 4) (.tmp 3), none⟩,
  ⟨(some 14), .mv (.tmp 1), none⟩,
  ⟨(some 15), .call (.func 32) [(.tmp 13), (.tmp 14)], none⟩,
  ⟨(some 12), .mv (.tmp 15), none⟩,
  ⟨(some 16), .ext 0 (.tmp 12), none⟩,
  ⟨(some 17), .ext 1 (.tmp 12), none⟩,
  ⟨(some 8), .mv (.tmp 16), none⟩,
  ⟨(some 9), .mv (.tmp 17), none⟩])
 (.seq (.reg [⟨(some 18), .mv (.tmp 9), none⟩,
  ⟨(some 19), .un .not (.tmp 18), none⟩,
  ⟨(some 20), .mv (.tmp 19), none⟩,
  ⟨(some 21), .mv (.tmp 8), (some (20, false))⟩,
  ⟨(some 22), .un .not (.tmp 21), (some (20, false))⟩,
  ⟨(some 23), .pick (.tmp 20) (.const (.bool true)) (.tmp 22), none⟩])
 (.cond (.tmp 23) (.seq (.reg [⟨(some 6), .mv (.const (.bool false)), none⟩,
  ⟨(some 7), .mv (.const (.bool false)), none⟩])
 (.ret)) (.skip))))
 (.seq (.reg [⟨(some 25), .ld (some 4) (.tmp 3), none⟩,
  ⟨(some 26), .mv (.tmp 2), none⟩,
  ⟨(some 27), .call (.func 53) [(.tmp 25), (.tmp 26)], none⟩,
  ⟨(some 24), .mv (.tmp 27), none⟩,
  ⟨(some 28), .ext 0 (.tmp 24), none⟩,
  ⟨(some 29), .ext 1 (.tmp 24), none⟩,
  ⟨(some 10), .mv (.tmp 28), none⟩,
  ⟨(some 11), .mv (.tmp 29), none⟩])
 (.seq (.seq (.reg [⟨(some 30), .mv (.tmp 11), none⟩,
  ⟨(some 31), .un .not (.tmp 30), none⟩])
 (.cond (.tmp 31) (.seq (.reg [⟨(some 6), .mv (.const (.bool false)), none⟩,
  ⟨(some 7), .mv (.const (.bool false)), none⟩])
 (.ret)) (.skip)))
 (.seq (.reg [⟨(some 32), .mv (.tmp 1), none⟩,
  ⟨(some 33), .call (.func 46) [(.tmp 32)], none⟩,
  ⟨(some 34), .mv (.tmp 10), none⟩,
  ⟨(some 35), .bin .eql (.tmp 33) (.tmp 34), none⟩,
  ⟨(some 6), .mv (.tmp 35), none⟩,
  ⟨(some 7), .mv (.const (.bool true)), none⟩])
 (.ret)))))
def r_impl_IsPriceProof : List ARes := [.tmp 6, .tmp 7]
theorem ok_impl_IsPriceProof : FnOk Try.prog 34 36 c_impl_IsPriceProof r_impl_IsPriceProof := ⟨⟨Try.f34, _, Try.func34, by kernel_rfl, rfl, rfl, by kernel_rfl, by kernel_rfl⟩⟩
def c_spec_l2Good : ACode := .seq (.reg [⟨(some 1), .box 28 (.tmp 0), none⟩,
  ⟨(some 2), .mv (.const (.bool false)), none⟩])
 (.seq (.reg [⟨(some 4), .fad 0 (.tmp 1), none⟩,
  ⟨(some 5), .ld none (.tmp 4), none⟩,
  ⟨(some 6), .len (.tmp 5), none⟩,
  ⟨(some 3), .mv (.tmp 6), none⟩])
 (.seq (.reg [⟨(some 7), .mv (.tmp 3), none⟩,
  ⟨(some 8), .bin .leq (.tmp 7) (.const (.int .i64 8)), none⟩,
  ⟨(some 9), .mv (.tmp 8), none⟩,
  ⟨(some 10), .fad 0 (.tmp 1), (some (9, true))⟩,
  ⟨(some 11), .ld none (.tmp 10), (some (9, true))⟩,
  ⟨(some 12), .mv (.tmp 3), (some (9, true))⟩,
  ⟨(some 13), .call (.func 61) [(.tmp 11), (.tmp 12), (.const (.int .i64 20))], (some (9, true))⟩,
  ⟨(some 14), .pick (.tmp 9) (.tmp 13) (.const (.bool false)), none⟩,
  ⟨(some 15), .mv (.tmp 14), none⟩,
  ⟨(some 16), .fad 1 (.tmp 1), (some (15, true))⟩,
  ⟨(some 17), .ld none (.tmp 16), (some (15, true))⟩,
  ⟨(some 18), .mv (.tmp 3), (some (15, true))⟩,
  ⟨(some 19), .call (.func 61) [(.tmp 17), (.tmp 18), (.const (.int .i64 99))], (some (15, true))⟩,
  ⟨(some 20), .pick (.tmp 15) (.tmp 19) (.const (.bool false)), none⟩,
  ⟨(some 21), .mv (.tmp 20), none⟩,
  ⟨(some 22), .fad 2 (.tmp 1), (some (21, true))⟩,
  ⟨(some 23), .ld none (.tmp 22), (some (21, true))⟩,
  ⟨(some 24), .mv (.tmp 3), (some (21, true))⟩,
  ⟨(some 25), .call (.func 61) [(.tmp 23), (.tmp 24), (.const (.int .i64 9))], (some (21, true))⟩,
  ⟨(some 26), .pick (.tmp 21) (.tmp 25) (.const (.bool false)), none⟩,
  ⟨(some 27), .mv (.tmp 26), none⟩,
  ⟨(some 28), .fad 3 (.tmp 1), (some (27, true))⟩,
  ⟨(some 29), .ld none (.tmp 28), (some (27, true))⟩,
  ⟨(some 30), .mv (.tmp 3), (some (27, true))⟩,
  ⟨(some 31), .call (.func 61) [(.tmp 29), (.tmp 30), (.const (.int .i64 9))], (some (27, true))⟩,
  ⟨(some 32), .pick (.tmp 27) (.tmp 31) (.const (.bool false)), none⟩,
  ⟨(some 2), .mv (.tmp 32), none⟩])
 (.ret)))
def r_spec_l2Good : List ARes := [.tmp 2]
theorem ok_spec_l2Good : FnOk Try.prog 36 33 c_spec_l2Good r_spec_l2Good := ⟨⟨Try.f36, _, Try.func36, by kernel_rfl, rfl, rfl, by kernel_rfl, by kernel_rfl⟩⟩
def c_spec_l2Least : ACode := .seq (.reg [⟨(some 1), .box 28 (.tmp 0), none⟩,
  ⟨(some 2), .mv (.const (.int .i64 0)), none⟩])
 (.seq (.reg [⟨(some 3), .ld (some 4) (.tmp 1), none⟩,
  ⟨(some 4), .ld (some 4) (.tmp 1), none⟩,
  ⟨(some 5), .ld (some 4) (.tmp 1), none⟩,
  ⟨(some 6), .rcall (.func 40) [(.tmp 5)], none⟩,
  ⟨(some 7), .rcall (.func 43) [(.tmp 4), (.tmp 6)], none⟩,
  ⟨(some 8), .rcall (.func 51) [(.tmp 3), (.tmp 7)], none⟩,
  ⟨(some 2), .mv (.tmp 8), none⟩])
 (.ret))
def r_spec_l2Least : List ARes := [.tmp 2]
theorem ok_spec_l2Least : FnOk Try.prog 37 9 c_spec_l2Least r_spec_l2Least := ⟨⟨Try.f37, _, Try.func37, by kernel_rfl, rfl, rfl, by kernel_rfl, by kernel_rfl⟩⟩
def c_impl_IsCase : ACode := .seq (.reg [⟨(some 1), .box 28 (.tmp 0), none⟩,
  ⟨(some 2), .mv (.const (.bool false)), none⟩])
 (.seq (.reg [⟨(some 4), .fad 0 (.tmp 1), none⟩,
  ⟨(some 5), .ld none (.tmp 4), none⟩,
  ⟨(some 6), .len (.tmp 5), none⟩,
  ⟨(some 3), .mv (.tmp 6), none⟩])
 (.seq (.reg [⟨(some 7), .mv (.tmp 3), none⟩,
  ⟨(some 8), .bin .leq (.tmp 7) (.const (.int .i64 8)), none⟩,
  ⟨(some 9), .mv (.tmp 8), none⟩,
  ⟨(some 10), .fad 0 (.tmp 1), (some (9, true))⟩,
  ⟨(some 11), .ld none (.tmp 10), (some (9, true))⟩,
  ⟨(some 12), .mv (.tmp 3), (some (9, true))⟩,
  ⟨(some 13), .call (.func 56) [(.tmp 11), (.tmp 12), (.const (.int .i64 20))], (some (9, true))⟩,
  ⟨(some 14), .pick (.tmp 9) (.tmp 13) (.const (.bool false)), none⟩,
  ⟨(some 15), .mv (.tmp 14), none⟩,
  ⟨(some 16), .fad 1 (.tmp 1), (some (15, true))⟩,
  ⟨(some 17), .ld none (.tmp 16), (some (15, true))⟩,
  ⟨(some 18), .mv (.tmp 3), (some (15, true))⟩,
  ⟨(some 19), .call (.func 56) [(.tmp 17), (.tmp 18), (.const (.int .i64 99))], (some (15, true))⟩,
  ⟨(some 20), .pick (.tmp 15) (.tmp 19) (.const (.bool false)), none⟩,
  ⟨(some 21), .mv (.tmp 20), none⟩,
  ⟨(some 22), .fad 2 (.tmp 1), (some (21, true))⟩,
  ⟨(some 23), .ld none (.tmp 22), (some (21, true))⟩,
  ⟨(some 24), .mv (.tmp 3), (some (21, true))⟩,
  ⟨(some 25), .call (.func 56) [(.tmp 23), (.tmp 24), (.const (.int .i64 9))], (some (21, true))⟩,
  ⟨(some 26), .pick (.tmp 21) (.tmp 25) (.const (.bool false)), none⟩,
  ⟨(some 27), .mv (.tmp 26), none⟩,
  ⟨(some 28), .fad 3 (.tmp 1), (some (27, true))⟩,
  ⟨(some 29), .ld none (.tmp 28), (some (27, true))⟩,
  ⟨(some 30), .mv (.tmp 3), (some (27, true))⟩,
  ⟨(some 31), .call (.func 56) [(.tmp 29), (.tmp 30), (.const (.int .i64 9))], (some (27, true))⟩,
  ⟨(some 32), .pick (.tmp 27) (.tmp 31) (.const (.bool false)), none⟩,
  ⟨(some 2), .mv (.tmp 32), none⟩])
 (.ret)))
def r_impl_IsCase : List ARes := [.tmp 2]
theorem ok_impl_IsCase : FnOk Try.prog 38 33 c_impl_IsCase r_impl_IsCase := ⟨⟨Try.f38, _, Try.func38, by kernel_rfl, rfl, rfl, by kernel_rfl, by kernel_rfl⟩⟩
def c_impl_bestLots : ACode := .seq (.reg [⟨(some 1), .box 28 (.tmp 0), none⟩,
  ⟨(some 2), .alc 50 [(.int .i64 0), (.slice none 0 0)], none⟩])
 (.seq (.reg [⟨(some 7), .ld (some 4) (.tmp 1), none⟩,
  ⟨(some 8), .call (.func 62) [(.tmp 7)], none⟩,
  ⟨(some 3), .mv (.tmp 8), none⟩])
 (.seq (.reg [⟨(some 9), .mv (.tmp 3), none⟩,
  ⟨(some 10), .call (.tmp 9) [(.const (.int .i64 0))], none⟩,
  ⟨(some 4), .alc 50 [(.int .i64 0), (.slice none 0 0)], none⟩,
  ⟨none, .st 2 (.tmp 4) (.tmp 10), none⟩])
 (.seq (.seq (.reg [⟨(some 5), .mv (.const (.int .i64 0)), none⟩])
 (.block 0 (.loop (.seq (.seq (.reg [⟨(some 11), .mv (.tmp 5), none⟩,
  ⟨(some 12), .fad 0 (.tmp 1), none⟩,
  ⟨(some 13), .ld none (.tmp 12), none⟩,
  ⟨(some 14), .len (.tmp 13), none⟩,
  ⟨(some 15), .bin .lss (.tmp 11) (.tmp 14), none⟩,
  ⟨(some 16), .mv (.tmp 15), none⟩,
  ⟨(some 17), .fad 0 (.tmp 1), (some (16, true))⟩,
  ⟨(some 18), .ld none (.tmp 17), (some (16, true))⟩,
  ⟨(some 19), .mv (.tmp 5), (some (16, true))⟩,
  ⟨(some 20), .iad 1 (.tmp 18) (.tmp 19), (some (16, true))⟩,
  ⟨(some 21), .ld none (.tmp 20), (some (16, true))⟩,
  ⟨(some 22), .bin .eql (.tmp 21) (.const (.int .i64 0)), (some (16, true))⟩,
  ⟨(some 23), .pick (.tmp 16) (.tmp 22) (.const (.bool false)), none⟩])
 (.cond (.tmp 23) (.skip) (.exit 0)))
 (.seq (.block 1 (.seq (.reg [⟨(some 26), .mv (.tmp 3), none⟩,
  ⟨(some 27), .mv (.tmp 5), none⟩,
  ⟨(some 28), .bin .add (.tmp 27) (.const (.int .i64 1)), none⟩,
  ⟨(some 29), .call (.tmp 26) [(.tmp 28)], none⟩,
  ⟨(some 6), .alc 50 [(.int .i64 0), (.slice none 0 0)], none⟩,
  ⟨none, .st 2 (.tmp 6) (.tmp 29), none⟩])
 (.seq (.reg [⟨(some 30), .ld (some 2) (.tmp 6), none⟩,
  ⟨(some 31), .ld (some 2) (.tmp 4), none⟩,
  ⟨(some 32), .call (.func 63) [(.tmp 30), (.tmp 31)], none⟩])
 (.cond (.tmp 32) (.reg [⟨(some 33), .ld (some 2) (.tmp 6), none⟩,
  ⟨none, .st 2 (.tmp 4) (.tmp 33), none⟩]) (.skip)))))
 (.reg [⟨(some 24), .mv (.tmp 5), none⟩,
  ⟨(some 25), .bin .add (.tmp 24) (.const (.int .i64 1)), none⟩,
  ⟨(some 5), .mv (.tmp 25), none⟩]))))))
 (.seq (.reg [⟨(some 34), .ld (some 2) (.tmp 4), none⟩,
  ⟨none, .st 2 (.tmp 2) (.tmp 34), none⟩])
 (.ret)))))
def r_impl_bestLots : List ARes := [.cell 2 (some 2)]
theorem ok_impl_bestLots : FnOk Try.prog 39 35 c_impl_bestLots r_impl_bestLots := ⟨⟨Try.f39, _, Try.func39, by kernel_rfl, rfl, rfl, by kernel_rfl, by kernel_rfl⟩⟩
def c_spec_l2Best : ACode := .seq (.reg [⟨(some 1), .box 28 (.tmp 0), none⟩,
  ⟨(some 2), .mv (.const (.slice none 0 0)), none⟩])
 (.seq (.reg [⟨(some 8), .bsl 3 1 0 [] [], none⟩,
  ⟨(some 3), .mv (.tmp 8), none⟩,
  ⟨(some 4), .mv (.const (.int .i64 (-1))), none⟩])
 (.seq (.seq (.reg [⟨(some 5), .mv (.const (.int .i64 0)), none⟩])
 (.block 0 (.loop (.seq (.seq (.reg [⟨(some 9), .mv (.tmp 5), none⟩,
  ⟨(some 10), .fad 0 (.tmp 1), none⟩,
  ⟨(some 11), .ld none (.tmp 10), none⟩,
  ⟨(some 12), .len (.tmp 11), none⟩,
  ⟨(some 13), .bin .shl (.const (.int .i64 1)) (.tmp 12), none⟩,
  ⟨(some 14), .bin .lss (.tmp 9) (.tmp 13), none⟩])
 (.cond (.tmp 14) (.skip) (.exit 0)))
 (.seq (.block 1 (.seq (.reg [⟨(some 17), .fad 0 (.tmp 1), none⟩,
  ⟨(some 18), .ld none (.tmp 17), none⟩,
  ⟨(some 19), .len (.tmp 18), none⟩,
  ⟨(some 20), .mv (.tmp 5), none⟩,
  ⟨(some 21), .call (.func 64) [(.tmp 19), (.tmp 20)], none⟩,
  ⟨(some 6), .mv (.tmp 21), none⟩])
 (.seq (.seq (.reg [⟨(some 22), .ld (some 4) (.tmp 1), none⟩,
  ⟨(some 23), .mv (.tmp 6), none⟩,
  ⟨(some 24), .call (.func 42) [(.tmp 22), (.tmp 23)], none⟩,
  ⟨(some 25), .un .not (.tmp 24), none⟩])
 (.cond (.tmp 25) (.exit 1) (.skip)))
 (.seq (.reg [⟨(some 26), .ld (some 4) (.tmp 1), none⟩,
  ⟨(some 27), .ld (some 4) (.tmp 1), none⟩,
  ⟨(some 28), .mv (.tmp 6), none⟩,
  ⟨(some 29), .rcall (.func 43) [(.tmp 27), (.tmp 28)], none⟩,
  ⟨(some 30), .rcall (.func 51) [(.tmp 26), (.tmp 29)], none⟩,
  ⟨(some 7), .mv (.tmp 30), none⟩])
 (.seq (.reg [⟨(some 31), .mv (.tmp 4), none⟩,
  ⟨(some 32), .bin .lss (.tmp 31) (.const (.int .i64 0)), none⟩,
  ⟨(some 33), .mv (.tmp 32), none⟩,
  ⟨(some 34), .mv (.tmp 7), (some (33, false))⟩,
  ⟨(some 35), .mv (.tmp 4), (some (33, false))⟩,
  ⟨(some 36), .bin .lss (.tmp 34) (.tmp 35), (some (33, false))⟩,
  ⟨(some 37), .pick (.tmp 33) (.const (.bool true)) (.tmp 36), none⟩,
  ⟨(some 38), .mv (.tmp 37), none⟩,
  ⟨(some 39), .mv (.tmp 7), (some (38, false))⟩,
  ⟨(some 40), .mv (.tmp 4), (some (38, false))⟩,
  ⟨(some 41), .bin .eql (.tmp 39) (.tmp 40), (some (38, false))⟩,
  ⟨(some 42), .mv (.tmp 41), (some (38, false))⟩,
  ⟨(some 43), .mv (.tmp 6), (some (42, true))⟩,
  ⟨(some 44), .mv (.tmp 3), (some (42, true))⟩,
  ⟨(some 45), .call (.func 65) [(.tmp 43), (.tmp 44)], (some (42, true))⟩,
  ⟨(some 46), .pick (.tmp 42) (.tmp 45) (.const (.bool false)), (some (38, false))⟩,
  ⟨(some 47), .pick (.tmp 38) (.const (.bool true)) (.tmp 46), none⟩])
 (.cond (.tmp 47) (.seq (.reg [⟨(some 48), .mv (.tmp 6), none⟩,
  ⟨(some 3), .mv (.tmp 48), none⟩])
 (.reg [⟨(some 49), .mv (.tmp 7), none⟩,
  ⟨(some 4), .mv (.tmp 49), none⟩])) (.skip)))))))
 (.reg [⟨(some 15), .mv (.tmp 5), none⟩,
  ⟨(some 16), .bin .add (.tmp 15) (.const (.int .i64 1)), none⟩,
  ⟨(some 5), .mv (.tmp 16), none⟩]))))))
 (.seq (.reg [⟨(some 50), .mv (.tmp 3), none⟩,
  ⟨(some 2), .mv (.tmp 50), none⟩])
 (.ret))))
def r_spec_l2Best : List ARes := [.tmp 2]
theorem ok_spec_l2Best : FnOk Try.prog 40 51 c_spec_l2Best r_spec_l2Best := ⟨⟨Try.f40, _, Try.func40, by kernel_rfl, rfl, rfl, by kernel_rfl, by kernel_rfl⟩⟩
def c_spec_l2Periods : ACode := .seq (.reg [⟨(some 2), .box 28 (.tmp 0), none⟩,
  ⟨(some 4), .mv (.const (.bool false)), none⟩])
 (.seq (.reg [⟨(some 5), .mv (.tmp 1), none⟩,
  ⟨(some 6), .fad 0 (.tmp 2), none⟩,
  ⟨(some 7), .ld none (.tmp 6), none⟩,
  ⟨(some 8), .len (.tmp 7), none⟩,
  ⟨(some 9), .bin .sub (.tmp 8) (.const (.int .i64 1)), none⟩,
  ⟨(some 10), .call (.func 66) [(.tmp 5), (.const (.int .i64 0)), (.tmp 9)], none⟩,
  ⟨(some 4), .mv (.tmp 10), none⟩])
 (.ret))
def r_spec_l2Periods : List ARes := [.tmp 4]
theorem ok_spec_l2Periods : FnOk Try.prog 41 11 c_spec_l2Periods r_spec_l2Periods := ⟨⟨Try.f41, _, Try.func41, by kernel_rfl, rfl, rfl, by kernel_rfl, by kernel_rfl⟩⟩
def c_spec_l2Covers : ACode := .seq (.reg [⟨(some 2), .box 28 (.tmp 0), none⟩,
  ⟨(some 4), .mv (.const (.bool false)), none⟩])
 (.seq (.seq (.reg [⟨(some 5), .mv (.const (.int .i64 0)), none⟩])
 (.block 0 (.loop (.seq (.seq (.reg [⟨(some 6), .mv (.tmp 5), none⟩,
  ⟨(some 7), .fad 0 (.tmp 2), none⟩,
  ⟨(some 8), .ld none (.tmp 7), none⟩,
  ⟨(some 9), .len (.tmp 8), none⟩,
  ⟨(some 10), .bin .lss (.tmp 6) (.tmp 9), none⟩])
 (.cond (.tmp 10) (.skip) (.exit 0)))
 (.seq (.block 1 (.seq (.seq (.reg [⟨(some 13), .mv (.tmp 1), none⟩,
  ⟨(some 14), .len (.tmp 13), none⟩,
  ⟨(some 15), .bin .gtr (.tmp 14) (.const (.int .i64 0)), none⟩,
  ⟨(some 16), .mv (.tmp 15), none⟩,
  ⟨(some 17), .mv (.tmp 1), (some (16, true))⟩,
  ⟨(some 18), .iad 1 (.tmp 17) (.const (.int .i64 0)), (some (16, true))⟩,
  ⟨(some 19), .ld none (.tmp 18), (some (16, true))⟩,
  ⟨(some 20), .mv (.tmp 5), (some (16, true))⟩,
  ⟨(some 21), .bin .leq (.tmp 19) (.tmp 20), (some (16, true))⟩,
  ⟨(some 22), .pick (.tmp 16) (.tmp 21) (.const (.bool false)), none⟩])
 (.cond (.tmp 22) (.seq (.reg [⟨(some 4), .mv (.const (.bool true)), none⟩])
 (.ret)) (.skip)))
 (.seq (.reg [⟨(some 23), .fad 0 (.tmp 2), none⟩,
  ⟨(some 24), .ld none (.tmp 23), none⟩,
  ⟨(some 25), .mv (.tmp 5), none⟩,
  ⟨(some 26), .iad 1 (.tmp 24) (.tmp 25), none⟩,
  ⟨(some 27), .ld none (.tmp 26), none⟩,
  ⟨(some 28), .bin .gtr (.tmp 27) (.const (.int .i64 0)), none⟩])
 (.cond (.tmp 28) (.seq (.reg [⟨(some 4), .mv (.const (.bool false)), none⟩])
 (.ret)) (.skip)))))
 (.reg [⟨(some 11), .mv (.tmp 5), none⟩,
  ⟨(some 12), .bin .add (.tmp 11) (.const (.int .i64 1)), none⟩,
  ⟨(some 5), .mv (.tmp 12), none⟩]))))))
 (.seq (.reg [⟨(some 4), .mv (.const (.bool true)), none⟩])
 (.ret)))
def r_spec_l2Covers : List ARes := [.tmp 4]
theorem ok_spec_l2Covers : FnOk Try.prog 42 29 c_spec_l2Covers r_spec_l2Covers := ⟨⟨Try.f42, _, Try.func42, by kernel_rfl, rfl, rfl, by kernel_rfl, by kernel_rfl⟩⟩
def c_spec_l2From : ACode := .seq (.reg [⟨(some 2), .box 28 (.tmp 0), none⟩,
  ⟨(some 4), .mv (.const (.slice none 0 0)), none⟩])
 (.seq (.reg [⟨(some 8), .fad 0 (.tmp 2), none⟩,
  ⟨(some 9), .ld none (.tmp 8), none⟩,
  ⟨(some 10), .len (.tmp 9), none⟩,
  ⟨(some 11), .mks 3 8 [(.int .i64 0)] (.tmp 10) (.tmp 10), none⟩,
  ⟨(some 5), .mv (.tmp 11), none⟩])
 (.seq (.seq (.reg [⟨(some 6), .mv (.const (.int .i64 0)), none⟩])
 (.block 0 (.loop (.seq (.seq (.reg [⟨(some 12), .mv (.tmp 6), none⟩,
  ⟨(some 13), .mv (.tmp 1), none⟩,
  ⟨(some 14), .len (.tmp 13), none⟩,
  ⟨(some 15), .bin .lss (.tmp 12) (.tmp 14), none⟩])
 (.cond (.tmp 15) (.skip) (.exit 0)))
 (.seq (.block 1 (.seq (.reg [⟨(some 18), .fad 0 (.tmp 2), none⟩,
  ⟨(some 19), .ld none (.tmp 18), none⟩,
  ⟨(some 20), .len (.tmp 19), none⟩,
  ⟨(some 7), .mv (.tmp 20), none⟩])
 (.seq (.seq (.reg [⟨(some 21), .mv (.tmp 6), none⟩,
  ⟨(some 22), .bin .add (.tmp 21) (.const (.int .i64 1)), none⟩,
  ⟨(some 23), .mv (.tmp 1), none⟩,
  ⟨(some 24), .len (.tmp 23), none⟩,
  ⟨(some 25), .bin .lss (.tmp 22) (.tmp 24), none⟩])
 (.cond (.tmp 25) (.reg [⟨(some 26), .mv (.tmp 1), none⟩,
  ⟨(some 27), .mv (.tmp 6), none⟩,
  ⟨(some 28), .bin .add (.tmp 27) (.const (.int .i64 1)), none⟩,
  ⟨(some 29), .iad 1 (.tmp 26) (.tmp 28), none⟩,
  ⟨(some 30), .ld none (.tmp 29), none⟩,
  ⟨(some 7), .mv (.tmp 30), none⟩]) (.skip)))
 (.reg [⟨(some 31), .mv (.tmp 5), none⟩,
  ⟨(some 32), .mv (.tmp 1), none⟩,
  ⟨(some 33), .mv (.tmp 6), none⟩,
  ⟨(some 34), .iad 1 (.tmp 32) (.tmp 33), none⟩,
  ⟨(some 35), .ld none (.tmp 34), none⟩,
  ⟨(some 36), .fad 0 (.tmp 2), none⟩,
  ⟨(some 37), .ld none (.tmp 36), none⟩,
  ⟨(some 38), .mv (.tmp 1), none⟩,
  ⟨(some 39), .mv (.tmp 6), none⟩,
  ⟨(some 40), .iad 1 (.tmp 38) (.tmp 39), none⟩,
  ⟨(some 41), .ld none (.tmp 40), none⟩,
  ⟨(some 42), .mv (.tmp 7), none⟩,
  ⟨(some 43), .slc 1 (.tmp 37) (some (.tmp 41)) (some (.tmp 42)), none⟩,
  ⟨(some 44), .rcall (.func 60) [(.tmp 43)], none⟩,
  ⟨(some 45), .iad 1 (.tmp 31) (.tmp 35), none⟩,
  ⟨none, .st 1 (.tmp 45) (.tmp 44), none⟩]))))
 (.reg [⟨(some 16), .mv (.tmp 6), none⟩,
  ⟨(some 17), .bin .add (.tmp 16) (.const (.int .i64 1)), none⟩,
  ⟨(some 6), .mv (.tmp 17), none⟩]))))))
 (.seq (.reg [⟨(some 46), .mv (.tmp 5), none⟩,
  ⟨(some 4), .mv (.tmp 46), none⟩])
 (.ret))))
def r_spec_l2From : List ARes := [.tmp 4]
theorem ok_spec_l2From : FnOk Try.prog 43 47 c_spec_l2From r_spec_l2From := ⟨⟨Try.f43, _, Try.func43, by kernel_rfl, rfl, rfl, by kernel_rfl, by kernel_rfl⟩⟩
def c_impl_isAscending : ACode := .seq (.reg [⟨(some 4), .mv (.const (.bool false)), none⟩])
 (.seq (.reg [⟨(some 5), .mv (.const (.int .i64 0)), none⟩])
 (.seq (.seq (.reg [⟨(some 8), .mv (.tmp 0), none⟩,
  ⟨(some 9), .len (.tmp 8), none⟩,
  ⟨(some 10), .mv (.const (.int .i64 0)), none⟩])
 (.block 0 (.loop (.seq (.reg [⟨(some 11), .bin .lss (.tmp 10) (.tmp 9), none⟩])
 (.seq (.cond (.tmp 11) (.skip) (.exit 0))
 (.seq (.block 1 (.seq (.reg [⟨(some 12), .iad 1 (.tmp 8) (.tmp 10), none⟩,
  ⟨(some 13), .ld none (.tmp 12), none⟩,
  ⟨(some 7), .mv (.tmp 13), none⟩])
 (.seq (.seq (.reg [⟨(some 14), .mv (.tmp 7), none⟩,
  ⟨(some 15), .mv (.tmp 5), none⟩,
  ⟨(some 16), .bin .lss (.tmp 14) (.tmp 15), none⟩,
  ⟨(some 17), .mv (.tmp 16), none⟩,
  ⟨(some 18), .mv (.tmp 7), (some (17, false))⟩,
  ⟨(some 19), .mv (.tmp 1), (some (17, false))⟩,
  ⟨(some 20), .bin .geq (.tmp 18) (.tmp 19), (some (17, false))⟩,
  ⟨(some 21), .pick (.tmp 17) (.const (.bool true)) (.tmp 20), none⟩])
 (.cond (.tmp 21) (.seq (.reg [⟨(some 4), .mv (.const (.bool false)), none⟩])
 (.ret)) (.skip)))
 (.reg [⟨(some 22), .mv (.tmp 7), none⟩,
  ⟨(some 23), .bin .add (.tmp 22) (.const (.int .i64 1)), none⟩,
  ⟨(some 5), .mv (.tmp 23), none⟩]))))
 (.reg [⟨(some 24), .bin .add (.tmp 10) (.const (.int .i64 1)), none⟩,
  ⟨(some 10), .mv (.tmp 24), none⟩])))))))
 (.seq (.reg [⟨(some 4), .mv (.const (.bool true)), none⟩])
 (.ret))))
def r_impl_isAscending : List ARes := [.tmp 4]
theorem ok_impl_isAscending : FnOk Try.prog 44 25 c_impl_isAscending r_impl_isAscending := ⟨⟨Try.f44, _, Try.func44, by kernel_rfl, rfl, rfl, by kernel_rfl, by kernel_rfl⟩⟩
def c_slices_Backward : ACode := .seq (.reg [⟨(some 1), .box 22 (.tmp 0), none⟩,
  ⟨(some 2), .mv (.const .nilFunc), none⟩])
 (.seq (.reg [⟨(some 3), .mkf 67 [] [(.tmp 1)], none⟩,
  ⟨(some 2), .mv (.tmp 3), none⟩])
 (.ret))
def r_slices_Backward : List ARes := [.tmp 2]
theorem ok_slices_Backward : FnOk Try.prog 45 4 c_slices_Backward r_slices_Backward := ⟨⟨Try.f45, _, Try.func45, by kernel_rfl, rfl, rfl, by kernel_rfl, by kernel_rfl⟩⟩
def c_impl_sumOf : ACode := .seq (.reg [⟨(some 2), .mv (.const (.int .i64 0)), none⟩])
 (.seq (.reg [⟨(some 3), .mv (.const (.int .i64 0)), none⟩])
 (.seq (.seq (.reg [⟨(some 6), .mv (.tmp 0), none⟩,
  ⟨(some 7), .len (.tmp 6), none⟩,
  ⟨(some 8), .mv (.const (.int .i64 0)), none⟩])
 (.block 0 (.loop (.seq (.reg [⟨(some 9), .bin .lss (.tmp 8) (.tmp 7), none⟩])
 (.seq (.cond (.tmp 9) (.skip) (.exit 0))
 (.seq (.block 1 (.seq (.reg [⟨(some 10), .iad 1 (.tmp 6) (.tmp 8), none⟩,
  ⟨(some 11), .ld none (.tmp 10), none⟩,
  ⟨(some 5), .mv (.tmp 11), none⟩])
 (.reg [⟨(some 12), .mv (.tmp 3), none⟩,
  ⟨(some 13), .mv (.tmp 5), none⟩,
  ⟨(some 14), .bin .add (.tmp 12) (.tmp 13), none⟩,
  ⟨(some 3), .mv (.tmp 14), none⟩])))
 (.reg [⟨(some 15), .bin .add (.tmp 8) (.const (.int .i64 1)), none⟩,
  ⟨(some 8), .mv (.tmp 15), none⟩])))))))
 (.seq (.reg [⟨(some 16), .mv (.tmp 3), none⟩,
  ⟨(some 2), .mv (.tmp 16), none⟩])
 (.ret))))
def r_impl_sumOf : List ARes := [.tmp 2]
theorem ok_impl_sumOf : FnOk Try.prog 46 17 c_impl_sumOf r_impl_sumOf := ⟨⟨Try.f46, _, Try.func46, by kernel_rfl, rfl, rfl, by kernel_rfl, by kernel_rfl⟩⟩
def c_spec_l1In : ACode := .seq (.reg [⟨(some 6), .mv (.const (.bool false)), none⟩])
 (.seq (.reg [⟨(some 7), .mv (.tmp 0), none⟩,
  ⟨(some 8), .mv (.tmp 1), none⟩,
  ⟨(some 9), .bin .geq (.tmp 7) (.tmp 8), none⟩,
  ⟨(some 10), .mv (.tmp 9), none⟩,
  ⟨(some 11), .mv (.tmp 0), (some (10, true))⟩,
  ⟨(some 12), .mv (.tmp 2), (some (10, true))⟩,
  ⟨(some 13), .bin .leq (.tmp 11) (.tmp 12), (some (10, true))⟩,
  ⟨(some 14), .pick (.tmp 10) (.tmp 13) (.const (.bool false)), none⟩,
  ⟨(some 6), .mv (.tmp 14), none⟩])
 (.ret))
def r_spec_l1In : List ARes := [.tmp 6]
theorem ok_spec_l1In : FnOk Try.prog 47 15 c_spec_l1In r_spec_l1In := ⟨⟨Try.f47, _, Try.func47, by kernel_rfl, rfl, rfl, by kernel_rfl, by kernel_rfl⟩⟩
def c_spec_l3Rule : ACode := .seq (.reg [⟨(some 2), .box 28 (.tmp 0), none⟩,
  ⟨(some 4), .mv (.const (.slice none 0 0)), none⟩])
 (.seq (.reg [⟨(some 9), .bsl 3 1 0 [] [], none⟩,
  ⟨(some 5), .mv (.tmp 9), none⟩])
 (.seq (.reg [⟨(some 10), .fad 0 (.tmp 2), none⟩,
  ⟨(some 11), .ld none (.tmp 10), none⟩,
  ⟨(some 12), .len (.tmp 11), none⟩,
  ⟨(some 6), .mv (.tmp 12), none⟩])
 (.seq (.seq (.reg [⟨(some 7), .mv (.const (.int .i64 0)), none⟩])
 (.block 0 (.loop (.seq (.seq (.reg [⟨(some 13), .mv (.tmp 7), none⟩,
  ⟨(some 14), .mv (.tmp 6), none⟩,
  ⟨(some 15), .bin .lss (.tmp 13) (.tmp 14), none⟩])
 (.cond (.tmp 15) (.skip) (.exit 0)))
 (.block 1 (.seq (.seq (.reg [⟨(some 16), .fad 0 (.tmp 2), none⟩,
  ⟨(some 17), .ld none (.tmp 16), none⟩,
  ⟨(some 18), .mv (.tmp 7), none⟩,
  ⟨(some 19), .iad 1 (.tmp 17) (.tmp 18), none⟩,
  ⟨(some 20), .ld none (.tmp 19), none⟩,
  ⟨(some 21), .bin .eql (.tmp 20) (.const (.int .i64 0)), none⟩])
 (.cond (.tmp 21) (.seq (.reg [⟨(some 22), .mv (.tmp 7), none⟩,
  ⟨(some 23), .bin .add (.tmp 22) (.const (.int .i64 1)), none⟩,
  ⟨(some 7), .mv (.tmp 23), none⟩])
 (.exit 1)) (.skip)))
 (.seq (.reg [⟨(some 24), .mv (.tmp 7), none⟩,
  ⟨(some 25), .bin .add (.tmp 24) (.const (.int .i64 1)), none⟩,
  ⟨(some 8), .mv (.tmp 25), none⟩])
 (.seq (.block 2 (.loop (.seq (.seq (.reg [⟨(some 26), .mv (.tmp 8), none⟩,
  ⟨(some 27), .mv (.tmp 6), none⟩,
  ⟨(some 28), .bin .lss (.tmp 26) (.tmp 27), none⟩,
  ⟨(some 29), .mv (.tmp 28), none⟩,
  ⟨(some 30), .ld (some 4) (.tmp 2), (some (29, true))⟩,
  ⟨(some 31), .mv (.tmp 1), (some (29, true))⟩,
  ⟨(some 32), .mv (.tmp 7), (some (29, true))⟩,
  ⟨(some 33), .mv (.tmp 8), (some (29, true))⟩,
  ⟨(some 34), .call (.func 68) [(.tmp 30), (.tmp 31), (.tmp 32), (.tmp 33)], (some (29, true))⟩,
  ⟨(some 35), .un .not (.tmp 34), (some (29, true))⟩,
  ⟨(some 36), .pick (.tmp 29) (.tmp 35) (.const (.bool false)), none⟩])
 (.cond (.tmp 36) (.skip) (.exit 2)))
 (.block 3 (.reg [⟨(some 37), .mv (.tmp 8), none⟩,
  ⟨(some 38), .bin .add (.tmp 37) (.const (.int .i64 1)), none⟩,
  ⟨(some 8), .mv (.tmp 38), none⟩])))))
 (.seq (.reg [⟨(some 39), .mv (.tmp 5), none⟩,
  ⟨(some 40), .mv (.tmp 7), none⟩,
  ⟨(some 41), .bsl 3 1 1 [(.int .i64 0)] [(0, 1, (.tmp 40))], none⟩,
  ⟨(some 42), .app 3 1 8 (.tmp 39) (.tmp 41), none⟩,
  ⟨(some 5), .mv (.tmp 42), none⟩])
 (.reg [⟨(some 43), .mv (.tmp 8), none⟩,
  ⟨(some 7), .mv (.tmp 43), none⟩]))))))))))
 (.seq (.reg [⟨(some 44), .mv (.tmp 5), none⟩,
  ⟨(some 4), .mv (.tmp 44), none⟩])
 (.ret)))))
def r_spec_l3Rule : List ARes := [.tmp 4]
theorem ok_spec_l3Rule : FnOk Try.prog 48 45 c_spec_l3Rule r_spec_l3Rule := ⟨⟨Try.f48, _, Try.func48, by kernel_rfl, rfl, rfl, by kernel_rfl, by kernel_rfl⟩⟩
def c_impl_goodBy : ACode := .seq (.reg [⟨(some 2), .box 28 (.tmp 0), none⟩,
  ⟨(some 4), .mv (.const .nilFunc), none⟩,
  ⟨(some 5), .mv (.const (.bool false)), none⟩])
 (.seq (.reg [⟨(some 7), .mkf 69 [] [(.tmp 2)], none⟩,
  ⟨(some 6), .alc 75 [.nilFunc], none⟩,
  ⟨none, .st 1 (.tmp 6) (.tmp 7), none⟩])
 (.seq (.seq (.reg [⟨(some 8), .mv (.tmp 1), none⟩])
 (.block 0 (.seq (.reg [⟨(some 10), .bin .eql (.tmp 8) (.const (.int .i64 1)), none⟩,
  ⟨(some 9), .mv (.tmp 10), none⟩])
 (.cond (.tmp 9) (.seq (.reg [⟨(some 11), .mkf 71 [] [(.tmp 6)], none⟩,
  ⟨(some 4), .mv (.tmp 11), none⟩,
  ⟨(some 5), .mv (.const (.bool true)), none⟩])
 (.ret)) (.seq (.reg [⟨(some 13), .bin .eql (.tmp 8) (.const (.int .i64 2)), none⟩,
  ⟨(some 12), .mv (.tmp 13), none⟩])
 (.cond (.tmp 12) (.seq (.reg [⟨(some 14), .mkf 72 [] [(.tmp 6), (.tmp 2)], none⟩,
  ⟨(some 4), .mv (.tmp 14), none⟩,
  ⟨(some 5), .mv (.const (.bool true)), none⟩])
 (.ret)) (.seq (.reg [⟨(some 16), .bin .eql (.tmp 8) (.const (.int .i64 3)), none⟩,
  ⟨(some 15), .mv (.tmp 16), none⟩])
 (.cond (.tmp 15) (.seq (.reg [⟨(some 17), .mkf 73 [] [(.tmp 2)], none⟩,
  ⟨(some 4), .mv (.tmp 17), none⟩,
  ⟨(some 5), .mv (.const (.bool true)), none⟩])
 (.ret)) (.skip)))))))))
 (.seq (.reg [⟨(some 4), .mv (.const .nilFunc), none⟩,
  ⟨(some 5), .mv (.const (.bool false)), none⟩])
 (.ret))))
def r_impl_goodBy : List ARes := [.tmp 4, .tmp 5]
theorem ok_impl_goodBy : FnOk Try.prog 49 18 c_impl_goodBy r_impl_goodBy := ⟨⟨Try.f49, _, Try.func49, by kernel_rfl, rfl, rfl, by kernel_rfl, by kernel_rfl⟩⟩
def c_impl_needFrom : ACode := .seq (.reg [⟨(some 2), .box 28 (.tmp 0), none⟩,
  ⟨(some 4), .mv (.const (.int .i64 0)), none⟩])
 (.seq (.block 0 (.loop (.seq (.seq (.reg [⟨(some 5), .mv (.tmp 1), none⟩,
  ⟨(some 6), .fad 0 (.tmp 2), none⟩,
  ⟨(some 7), .ld none (.tmp 6), none⟩,
  ⟨(some 8), .len (.tmp 7), none⟩,
  ⟨(some 9), .bin .lss (.tmp 5) (.tmp 8), none⟩,
  ⟨(some 10), .mv (.tmp 9), none⟩,
  ⟨(some 11), .fad 0 (.tmp 2), (some (10, true))⟩,
  ⟨(some 12), .ld none (.tmp 11), (some (10, true))⟩,
  ⟨(some 13), .mv (.tmp 1), (some (10, true))⟩,
  ⟨(some 14), .iad 1 (.tmp 12) (.tmp 13), (some (10, true))⟩,
  ⟨(some 15), .ld none (.tmp 14), (some (10, true))⟩,
  ⟨(some 16), .bin .eql (.tmp 15) (.const (.int .i64 0)), (some (10, true))⟩,
  ⟨(some 17), .pick (.tmp 10) (.tmp 16) (.const (.bool false)), none⟩])
 (.cond (.tmp 17) (.skip) (.exit 0)))
 (.block 1 (.reg [⟨(some 18), .mv (.tmp 1), none⟩,
  ⟨(some 19), .bin .add (.tmp 18) (.const (.int .i64 1)), none⟩,
  ⟨(some 1), .mv (.tmp 19), none⟩])))))
 (.seq (.reg [⟨(some 20), .mv (.tmp 1), none⟩,
  ⟨(some 4), .mv (.tmp 20), none⟩])
 (.ret)))
def r_impl_needFrom : List ARes := [.tmp 4]
theorem ok_impl_needFrom : FnOk Try.prog 50 21 c_impl_needFrom r_impl_needFrom := ⟨⟨Try.f50, _, Try.func50, by kernel_rfl, rfl, rfl, by kernel_rfl, by kernel_rfl⟩⟩
def c_spec_l2Cost : ACode := .seq (.reg [⟨(some 2), .box 28 (.tmp 0), none⟩,
  ⟨(some 4), .mv (.const (.int .i64 0)), none⟩])
 (.seq (.reg [⟨(some 6), .ld (some 4) (.tmp 2), none⟩,
  ⟨(some 7), .mv (.tmp 1), none⟩,
  ⟨(some 8), .call (.func 74) [(.tmp 6), (.tmp 7)], none⟩,
  ⟨(some 5), .alc 76 [(.int .i64 0), (.int .i64 0), (.int .i64 0)], none⟩,
  ⟨none, .st 3 (.tmp 5) (.tmp 8), none⟩])
 (.seq (.reg [⟨(some 9), .iada 1 3 (.tmp 5) (.const (.int .i64 0)), none⟩,
  ⟨(some 10), .ld none (.tmp 9), none⟩,
  ⟨(some 11), .iada 1 3 (.tmp 5) (.const (.int .i64 1)), none⟩,
  ⟨(some 12), .ld none (.tmp 11), none⟩,
  ⟨(some 13), .bin .add (.tmp 10) (.tmp 12), none⟩,
  ⟨(some 14), .iada 1 3 (.tmp 5) (.const (.int .i64 2)), none⟩,
  ⟨(some 15), .ld none (.tmp 14), none⟩,
  ⟨(some 16), .bin .add (.tmp 13) (.tmp 15), none⟩,
  ⟨(some 4), .mv (.tmp 16), none⟩])
 (.ret)))
def r_spec_l2Cost : List ARes := [.tmp 4]
theorem ok_spec_l2Cost : FnOk Try.prog 51 17 c_spec_l2Cost r_spec_l2Cost := ⟨⟨Try.f51, _, Try.func51, by kernel_rfl, rfl, rfl, by kernel_rfl, by kernel_rfl⟩⟩
def c_spec_l3Backward : ACode := .seq (.reg [⟨(some 1), .box 28 (.tmp 0), none⟩,
  ⟨(some 2), .mv (.const (.slice none 0 0)), none⟩])
 (.seq (.reg [⟨(some 7), .fad 0 (.tmp 1), none⟩,
  ⟨(some 8), .ld none (.tmp 7), none⟩,
  ⟨(some 9), .len (.tmp 8), none⟩,
  ⟨(some 3), .mv (.tmp 9), none⟩])
 (.seq (.reg [⟨(some 10), .mv (.tmp 3), none⟩,
  ⟨(some 11), .bin .add (.tmp 10) (.const (.int .i64 1)), none⟩,
  ⟨(some 12), .mks 3 8 [(.int .i64 0)] (.tmp 11) (.tmp 11), none⟩,
  ⟨(some 4), .mv (.tmp 12), none⟩])
 (.seq (.seq (.reg [⟨(some 13), .mv (.tmp 3), none⟩,
  ⟨(some 14), .bin .sub (.tmp 13) (.const (.int .i64 1)), none⟩,
  ⟨(some 5), .mv (.tmp 14), none⟩])
 (.block 0 (.loop (.seq (.seq (.reg [⟨(some 15), .mv (.tmp 5), none⟩,
  ⟨(some 16), .bin .geq (.tmp 15) (.const (.int .i64 0)), none⟩])
 (.cond (.tmp 16) (.skip) (.exit 0)))
 (.seq (.block 1 (.seq (.reg [⟨(some 19), .mv (.tmp 4), none⟩,
  ⟨(some 20), .mv (.tmp 5), none⟩,
  ⟨(some 21), .ld (some 4) (.tmp 1), none⟩,
  ⟨(some 22), .mv (.tmp 5), none⟩,
  ⟨(some 23), .mv (.tmp 3), none⟩,
  ⟨(some 24), .call (.func 75) [(.tmp 21), (.tmp 22), (.tmp 23)], none⟩,
  ⟨(some 25), .iad 1 (.tmp 19) (.tmp 20), none⟩,
  ⟨none, .st 1 (.tmp 25) (.tmp 24), none⟩])
 (.seq (.reg [⟨(some 26), .mv (.tmp 5), none⟩,
  ⟨(some 27), .bin .add (.tmp 26) (.const (.int .i64 1)), none⟩,
  ⟨(some 6), .mv (.tmp 27), none⟩])
 (.block 2 (.loop (.seq (.seq (.reg [⟨(some 28), .mv (.tmp 6), none⟩,
  ⟨(some 29), .mv (.tmp 3), none⟩,
  ⟨(some 30), .bin .lss (.tmp 28) (.tmp 29), none⟩])
 (.cond (.tmp 30) (.skip) (.exit 2)))
 (.seq (.block 3 (.reg [⟨(some 33), .mv (.tmp 4), none⟩,
  ⟨(some 34), .mv (.tmp 5), none⟩,
  ⟨(some 35), .mv (.tmp 4), none⟩,
  ⟨(some 36), .mv (.tmp 5), none⟩,
  ⟨(some 37), .iad 1 (.tmp 35) (.tmp 36), none⟩,
  ⟨(some 38), .ld none (.tmp 37), none⟩,
  ⟨(some 39), .ld (some 4) (.tmp 1), none⟩,
  ⟨(some 40), .mv (.tmp 5), none⟩,
  ⟨(some 41), .mv (.tmp 6), none⟩,
  ⟨(some 43), .mv (.tmp 4), none⟩,
  ⟨(some 44), .mv (.tmp 6), none⟩,
  ⟨(some 45), .iad 1 (.tmp 43) (.tmp 44), none⟩,
  ⟨(some 46), .ld none (.tmp 45), none⟩,
  ⟨(some 42), .rcall (.func 75) [(.tmp 39), (.tmp 40), (.tmp 41)], none⟩,
  ⟨(some 47), .bin .add (.tmp 42) (.tmp 46), none⟩,
  ⟨(some 48), .rcall (.func 76) [(.tmp 38), (.tmp 47)], none⟩,
  ⟨(some 49), .iad 1 (.tmp 33) (.tmp 34), none⟩,
  ⟨none, .st 1 (.tmp 49) (.tmp 48), none⟩]))
 (.reg [⟨(some 31), .mv (.tmp 6), none⟩,
  ⟨(some 32), .bin .add (.tmp 31) (.const (.int .i64 1)), none⟩,
  ⟨(some 6), .mv (.tmp 32), none⟩]))))))))
 (.reg [⟨(some 17), .mv (.tmp 5), none⟩,
  ⟨(some 18), .bin .sub (.tmp 17) (.const (.int .i64 1)), none⟩,
  ⟨(some 5), .mv (.tmp 18), none⟩]))))))
 (.seq (.reg [⟨(some 50), .mv (.tmp 4), none⟩,
  ⟨(some 2), .mv (.tmp 50), none⟩])
 (.ret)))))
def r_spec_l3Backward : List ARes := [.tmp 2]
theorem ok_spec_l3Backward : FnOk Try.prog 52 51 c_spec_l3Backward r_spec_l3Backward := ⟨⟨Try.f52, _, Try.func52, by kernel_rfl, rfl, rfl, by kernel_rfl, by kernel_rfl⟩⟩
def c_impl_PlanCost : ACode := .seq (.reg [⟨(some 2), .box 28 (.tmp 0), none⟩,
  ⟨(some 4), .mv (.const (.int .i64 0)), none⟩,
  ⟨(some 5), .mv (.const (.bool false)), none⟩])
 (.seq (.reg [⟨(some 11), .ld (some 4) (.tmp 2), none⟩,
  ⟨(some 12), .mv (.tmp 1), none⟩,
  ⟨(some 13), .call (.func 77) [(.tmp 11), (.tmp 12)], none⟩,
  ⟨(some 10), .mv (.tmp 13), none⟩,
  ⟨(some 14), .ext 0 (.tmp 10), none⟩,
  ⟨(some 15), .ext 1 (.tmp 10), none⟩,
  ⟨(some 16), .ext 2 (.tmp 10), none⟩,
  ⟨(some 17), .ext 3 (.tmp 10), none⟩,
  ⟨(some 6), .mv (.tmp 14), none⟩,
  ⟨(some 7), .mv (.tmp 15), none⟩,
  ⟨(some 8), .mv (.tmp 16), none⟩,
  ⟨(some 9), .mv (.tmp 17), none⟩])
 (.seq (.reg [⟨(some 18), .mv (.tmp 6), none⟩,
  ⟨(some 19), .mv (.tmp 7), none⟩,
  ⟨(some 20), .bin .add (.tmp 18) (.tmp 19), none⟩,
  ⟨(some 21), .mv (.tmp 8), none⟩,
  ⟨(some 22), .bin .add (.tmp 20) (.tmp 21), none⟩,
  ⟨(some 23), .mv (.tmp 9), none⟩,
  ⟨(some 4), .mv (.tmp 22), none⟩,
  ⟨(some 5), .mv (.tmp 23), none⟩])
 (.ret)))
def r_impl_PlanCost : List ARes := [.tmp 4, .tmp 5]
theorem ok_impl_PlanCost : FnOk Try.prog 53 24 c_impl_PlanCost r_impl_PlanCost := ⟨⟨Try.f53, _, Try.func53, by kernel_rfl, rfl, rfl, by kernel_rfl, by kernel_rfl⟩⟩
def c_spec_l3Prices : ACode := .seq (.reg [⟨(some 2), .box 28 (.tmp 0), none⟩,
  ⟨(some 4), .mv (.const (.bool false)), none⟩])
 (.seq (.reg [⟨(some 5), .ld (some 4) (.tmp 2), none⟩,
  ⟨(some 6), .call (.func 36) [(.tmp 5)], none⟩,
  ⟨(some 7), .mv (.tmp 6), none⟩,
  ⟨(some 8), .mv (.tmp 1), (some (7, true))⟩,
  ⟨(some 9), .fad 0 (.tmp 2), (some (7, true))⟩,
  ⟨(some 10), .ld none (.tmp 9), (some (7, true))⟩,
  ⟨(some 11), .len (.tmp 10), (some (7, true))⟩,
  ⟨(some 12), .call (.func 61) [(.tmp 8), (.tmp 11), (.const (.int .i64 9999))], (some (7, true))⟩,
  ⟨(some 13), .pick (.tmp 7) (.tmp 12) (.const (.bool false)), none⟩,
  ⟨(some 4), .mv (.tmp 13), none⟩])
 (.ret))
def r_spec_l3Prices : List ARes := [.tmp 4]
theorem ok_spec_l3Prices : FnOk Try.prog 54 14 c_spec_l3Prices r_spec_l3Prices := ⟨⟨Try.f54, _, Try.func54, by kernel_rfl, rfl, rfl, by kernel_rfl, by kernel_rfl⟩⟩
def c_spec_l3Claim : ACode := .seq (.reg [⟨(some 3), .box 28 (.tmp 0), none⟩,
  ⟨(some 6), .mv (.const (.int .i64 0)), none⟩])
 (.seq (.reg [⟨(some 7), .mv (.const (.int .i64 0)), none⟩])
 (.seq (.seq (.reg [⟨(some 9), .mv (.tmp 2), none⟩,
  ⟨(some 8), .mv (.tmp 9), none⟩])
 (.block 0 (.loop (.seq (.seq (.reg [⟨(some 10), .mv (.tmp 8), none⟩,
  ⟨(some 11), .mv (.tmp 1), none⟩,
  ⟨(some 12), .len (.tmp 11), none⟩,
  ⟨(some 13), .bin .lss (.tmp 10) (.tmp 12), none⟩])
 (.cond (.tmp 13) (.skip) (.exit 0)))
 (.seq (.block 1 (.reg [⟨(some 16), .mv (.tmp 7), none⟩,
  ⟨(some 17), .mv (.tmp 1), none⟩,
  ⟨(some 18), .mv (.tmp 8), none⟩,
  ⟨(some 19), .iad 1 (.tmp 17) (.tmp 18), none⟩,
  ⟨(some 20), .ld none (.tmp 19), none⟩,
  ⟨(some 21), .fad 0 (.tmp 3), none⟩,
  ⟨(some 22), .ld none (.tmp 21), none⟩,
  ⟨(some 23), .mv (.tmp 8), none⟩,
  ⟨(some 24), .iad 1 (.tmp 22) (.tmp 23), none⟩,
  ⟨(some 25), .ld none (.tmp 24), none⟩,
  ⟨(some 26), .ld (some 4) (.tmp 3), none⟩,
  ⟨(some 27), .mv (.tmp 2), none⟩,
  ⟨(some 28), .mv (.tmp 8), none⟩,
  ⟨(some 29), .rcall (.func 79) [(.tmp 26), (.tmp 27), (.tmp 28)], none⟩,
  ⟨(some 30), .bin .mul (.tmp 25) (.tmp 29), none⟩,
  ⟨(some 31), .bin .sub (.tmp 20) (.tmp 30), none⟩,
  ⟨(some 32), .rcall (.func 78) [(.const (.int .i64 0)), (.tmp 31)], none⟩,
  ⟨(some 33), .bin .add (.tmp 16) (.tmp 32), none⟩,
  ⟨(some 7), .mv (.tmp 33), none⟩]))
 (.reg [⟨(some 14), .mv (.tmp 8), none⟩,
  ⟨(some 15), .bin .add (.tmp 14) (.const (.int .i64 1)), none⟩,
  ⟨(some 8), .mv (.tmp 15), none⟩]))))))
 (.seq (.reg [⟨(some 34), .mv (.tmp 7), none⟩,
  ⟨(some 6), .mv (.tmp 34), none⟩])
 (.ret))))
def r_spec_l3Claim : List ARes := [.tmp 6]
theorem ok_spec_l3Claim : FnOk Try.prog 55 35 c_spec_l3Claim r_spec_l3Claim := ⟨⟨Try.f55, _, Try.func55, by kernel_rfl, rfl, rfl, by kernel_rfl, by kernel_rfl⟩⟩
def c_impl_isRow : ACode := .seq (.reg [⟨(some 5), .box 3 (.tmp 2), none⟩,
  ⟨(some 6), .mv (.const (.bool false)), none⟩])
 (.seq (.reg [⟨(some 8), .mkf 80 [] [(.tmp 5)], none⟩,
  ⟨(some 7), .mv (.tmp 8), none⟩])
 (.seq (.reg [⟨(some 9), .mv (.tmp 0), none⟩,
  ⟨(some 10), .len (.tmp 9), none⟩,
  ⟨(some 11), .mv (.tmp 1), none⟩,
  ⟨(some 12), .bin .eql (.tmp 10) (.tmp 11), none⟩,
  ⟨(some 13), .mv (.tmp 12), none⟩,
  ⟨(some 14), .mv (.tmp 0), (some (13, true))⟩,
  ⟨(some 15), .mv (.tmp 7), (some (13, true))⟩,
  ⟨(some 16), .call (.func 82) [(.tmp 14), (.tmp 15)], (some (13, true))⟩,
  ⟨(some 17), .un .not (.tmp 16), (some (13, true))⟩,
  ⟨(some 18), .pick (.tmp 13) (.tmp 17) (.const (.bool false)), none⟩,
  ⟨(some 6), .mv (.tmp 18), none⟩])
 (.ret)))
def r_impl_isRow : List ARes := [.tmp 6]
theorem ok_impl_isRow : FnOk Try.prog 56 19 c_impl_isRow r_impl_isRow := ⟨⟨Try.f56, _, Try.func56, by kernel_rfl, rfl, rfl, by kernel_rfl, by kernel_rfl⟩⟩
def c_impl_claimBy : ACode := .seq (.reg [⟨(some 3), .box 28 (.tmp 0), none⟩,
  ⟨(some 6), .mv (.const (.int .i64 0)), none⟩])
 (.seq (.reg [⟨(some 7), .mv (.const (.int .i64 0)), none⟩])
 (.seq (.seq (.reg [⟨(some 9), .mv (.tmp 2), none⟩,
  ⟨(some 8), .mv (.tmp 9), none⟩])
 (.block 0 (.loop (.seq (.seq (.reg [⟨(some 10), .mv (.tmp 8), none⟩,
  ⟨(some 11), .mv (.tmp 1), none⟩,
  ⟨(some 12), .len (.tmp 11), none⟩,
  ⟨(some 13), .bin .lss (.tmp 10) (.tmp 12), none⟩])
 (.cond (.tmp 13) (.skip) (.exit 0)))
 (.seq (.block 1 (.reg [⟨(some 16), .mv (.tmp 7), none⟩,
  ⟨(some 17), .mv (.tmp 1), none⟩,
  ⟨(some 18), .mv (.tmp 8), none⟩,
  ⟨(some 19), .iad 1 (.tmp 17) (.tmp 18), none⟩,
  ⟨(some 20), .ld none (.tmp 19), none⟩,
  ⟨(some 21), .fad 0 (.tmp 3), none⟩,
  ⟨(some 22), .ld none (.tmp 21), none⟩,
  ⟨(some 23), .mv (.tmp 8), none⟩,
  ⟨(some 24), .iad 1 (.tmp 22) (.tmp 23), none⟩,
  ⟨(some 25), .ld none (.tmp 24), none⟩,
  ⟨(some 26), .ld (some 4) (.tmp 3), none⟩,
  ⟨(some 27), .mv (.tmp 2), none⟩,
  ⟨(some 28), .mv (.tmp 8), none⟩,
  ⟨(some 29), .rcall (.func 83) [(.tmp 26), (.tmp 27), (.tmp 28)], none⟩,
  ⟨(some 30), .bin .mul (.tmp 25) (.tmp 29), none⟩,
  ⟨(some 31), .bin .sub (.tmp 20) (.tmp 30), none⟩,
  ⟨(some 32), .mmx true (.const (.int .i64 0)) (.tmp 31), none⟩,
  ⟨(some 33), .bin .add (.tmp 16) (.tmp 32), none⟩,
  ⟨(some 7), .mv (.tmp 33), none⟩]))
 (.reg [⟨(some 14), .mv (.tmp 8), none⟩,
  ⟨(some 15), .bin .add (.tmp 14) (.const (.int .i64 1)), none⟩,
  ⟨(some 8), .mv (.tmp 15), none⟩]))))))
 (.seq (.reg [⟨(some 34), .mv (.tmp 7), none⟩,
  ⟨(some 6), .mv (.tmp 34), none⟩])
 (.ret))))
def r_impl_claimBy : List ARes := [.tmp 6]
theorem ok_impl_claimBy : FnOk Try.prog 57 35 c_impl_claimBy r_impl_claimBy := ⟨⟨Try.f57, _, Try.func57, by kernel_rfl, rfl, rfl, by kernel_rfl, by kernel_rfl⟩⟩
def c_spec_l3Fair : ACode := .seq (.reg [⟨(some 2), .box 28 (.tmp 0), none⟩,
  ⟨(some 4), .mv (.const (.bool false)), none⟩])
 (.seq (.seq (.reg [⟨(some 6), .ld (some 4) (.tmp 2), none⟩,
  ⟨(some 7), .mv (.tmp 1), none⟩,
  ⟨(some 8), .call (.func 54) [(.tmp 6), (.tmp 7)], none⟩,
  ⟨(some 9), .un .not (.tmp 8), none⟩])
 (.cond (.tmp 9) (.seq (.reg [⟨(some 4), .mv (.const (.bool false)), none⟩])
 (.ret)) (.skip)))
 (.seq (.seq (.reg [⟨(some 5), .mv (.const (.int .i64 0)), none⟩])
 (.block 0 (.loop (.seq (.seq (.reg [⟨(some 10), .mv (.tmp 5), none⟩,
  ⟨(some 11), .mv (.tmp 1), none⟩,
  ⟨(some 12), .len (.tmp 11), none⟩,
  ⟨(some 13), .bin .lss (.tmp 10) (.tmp 12), none⟩])
 (.cond (.tmp 13) (.skip) (.exit 0)))
 (.seq (.block 1 (.seq (.reg [⟨(some 16), .ld (some 4) (.tmp 2), none⟩,
  ⟨(some 17), .mv (.tmp 1), none⟩,
  ⟨(some 18), .mv (.tmp 5), none⟩,
  ⟨(some 20), .fad 1 (.tmp 2), none⟩,
  ⟨(some 21), .ld none (.tmp 20), none⟩,
  ⟨(some 22), .mv (.tmp 5), none⟩,
  ⟨(some 23), .iad 1 (.tmp 21) (.tmp 22), none⟩,
  ⟨(some 24), .ld none (.tmp 23), none⟩,
  ⟨(some 19), .rcall (.func 55) [(.tmp 16), (.tmp 17), (.tmp 18)], none⟩,
  ⟨(some 25), .bin .gtr (.tmp 19) (.tmp 24), none⟩,
  ⟨(some 26), .mv (.tmp 25), none⟩,
  ⟨(some 27), .fad 0 (.tmp 2), (some (26, false))⟩,
  ⟨(some 28), .ld none (.tmp 27), (some (26, false))⟩,
  ⟨(some 29), .mv (.tmp 5), (some (26, false))⟩,
  ⟨(some 30), .iad 1 (.tmp 28) (.tmp 29), (some (26, false))⟩,
  ⟨(some 31), .ld none (.tmp 30), (some (26, false))⟩,
  ⟨(some 32), .bin .eql (.tmp 31) (.const (.int .i64 0)), (some (26, false))⟩,
  ⟨(some 33), .mv (.tmp 32), (some (26, false))⟩,
  ⟨(some 34), .mv (.tmp 1), (some (33, true))⟩,
  ⟨(some 35), .mv (.tmp 5), (some (33, true))⟩,
  ⟨(some 36), .iad 1 (.tmp 34) (.tmp 35), (some (33, true))⟩,
  ⟨(some 37), .ld none (.tmp 36), (some (33, true))⟩,
  ⟨(some 38), .bin .gtr (.tmp 37) (.const (.int .i64 0)), (some (33, true))⟩,
  ⟨(some 39), .pick (.tmp 33) (.tmp 38) (.const (.bool false)), (some (26, false))⟩,
  ⟨(some 40), .pick (.tmp 26) (.const (.bool true)) (.tmp 39), none⟩])
 (.cond (.tmp 40) (.seq (.reg [⟨(some 4), .mv (.const (.bool false)), none⟩])
 (.ret)) (.skip))))
 (.reg [⟨(some 14), .mv (.tmp 5), none⟩,
  ⟨(some 15), .bin .add (.tmp 14) (.const (.int .i64 1)), none⟩,
  ⟨(some 5), .mv (.tmp 15), none⟩]))))))
 (.seq (.reg [⟨(some 4), .mv (.const (.bool true)), none⟩])
 (.ret))))
def r_spec_l3Fair : List ARes := [.tmp 4]
theorem ok_spec_l3Fair : FnOk Try.prog 58 41 c_spec_l3Fair r_spec_l3Fair := ⟨⟨Try.f58, _, Try.func58, by kernel_rfl, rfl, rfl, by kernel_rfl, by kernel_rfl⟩⟩
def c_spec_l2Two : ACode := .seq (.reg [⟨(some 2), .box 28 (.tmp 0), none⟩,
  ⟨(some 4), .mv (.const (.bool false)), none⟩])
 (.seq (.reg [⟨(some 5), .ld (some 4) (.tmp 2), none⟩,
  ⟨(some 6), .call (.func 36) [(.tmp 5)], none⟩,
  ⟨(some 7), .mv (.tmp 6), none⟩,
  ⟨(some 8), .ld (some 4) (.tmp 2), (some (7, true))⟩,
  ⟨(some 9), .mv (.tmp 1), (some (7, true))⟩,
  ⟨(some 10), .call (.func 84) [(.tmp 8), (.tmp 9)], (some (7, true))⟩,
  ⟨(some 11), .pick (.tmp 7) (.tmp 10) (.const (.bool false)), none⟩,
  ⟨(some 4), .mv (.tmp 11), none⟩])
 (.ret))
def r_spec_l2Two : List ARes := [.tmp 4]
theorem ok_spec_l2Two : FnOk Try.prog 59 12 c_spec_l2Two r_spec_l2Two := ⟨⟨Try.f59, _, Try.func59, by kernel_rfl, rfl, rfl, by kernel_rfl, by kernel_rfl⟩⟩
def c_spec_l2Sum : ACode := .seq (.reg [⟨(some 2), .mv (.const (.int .i64 0)), none⟩])
 (.seq (.reg [⟨(some 3), .mv (.const (.int .i64 0)), none⟩])
 (.seq (.seq (.reg [⟨(some 4), .mv (.const (.int .i64 0)), none⟩])
 (.block 0 (.loop (.seq (.seq (.reg [⟨(some 5), .mv (.tmp 4), none⟩,
  ⟨(some 6), .mv (.tmp 0), none⟩,
  ⟨(some 7), .len (.tmp 6), none⟩,
  ⟨(some 8), .bin .lss (.tmp 5) (.tmp 7), none⟩])
 (.cond (.tmp 8) (.skip) (.exit 0)))
 (.seq (.block 1 (.reg [⟨(some 11), .mv (.tmp 3), none⟩,
  ⟨(some 12), .mv (.tmp 0), none⟩,
  ⟨(some 13), .mv (.tmp 4), none⟩,
  ⟨(some 14), .iad 1 (.tmp 12) (.tmp 13), none⟩,
  ⟨(some 15), .ld none (.tmp 14), none⟩,
  ⟨(some 16), .bin .add (.tmp 11) (.tmp 15), none⟩,
  ⟨(some 3), .mv (.tmp 16), none⟩]))
 (.reg [⟨(some 9), .mv (.tmp 4), none⟩,
  ⟨(some 10), .bin .add (.tmp 9) (.const (.int .i64 1)), none⟩,
  ⟨(some 4), .mv (.tmp 10), none⟩]))))))
 (.seq (.reg [⟨(some 17), .mv (.tmp 3), none⟩,
  ⟨(some 2), .mv (.tmp 17), none⟩])
 (.ret))))
def r_spec_l2Sum : List ARes := [.tmp 2]
theorem ok_spec_l2Sum : FnOk Try.prog 60 18 c_spec_l2Sum r_spec_l2Sum := ⟨⟨Try.f60, _, Try.func60, by kernel_rfl, rfl, rfl, by kernel_rfl, by kernel_rfl⟩⟩
def c_spec_l2Row : ACode := .seq (.reg [⟨(some 6), .mv (.const (.bool false)), none⟩])
 (.seq (.seq (.reg [⟨(some 7), .mv (.const (.int .i64 0)), none⟩])
 (.block 0 (.loop (.seq (.seq (.reg [⟨(some 8), .mv (.tmp 7), none⟩,
  ⟨(some 9), .mv (.tmp 0), none⟩,
  ⟨(some 10), .len (.tmp 9), none⟩,
  ⟨(some 11), .bin .lss (.tmp 8) (.tmp 10), none⟩])
 (.cond (.tmp 11) (.skip) (.exit 0)))
 (.seq (.block 1 (.seq (.reg [⟨(some 14), .mv (.tmp 0), none⟩,
  ⟨(some 15), .mv (.tmp 7), none⟩,
  ⟨(some 16), .iad 1 (.tmp 14) (.tmp 15), none⟩,
  ⟨(some 17), .ld none (.tmp 16), none⟩,
  ⟨(some 18), .mv (.tmp 2), none⟩,
  ⟨(some 19), .call (.func 47) [(.tmp 17), (.const (.int .i64 0)), (.tmp 18)], none⟩,
  ⟨(some 20), .un .not (.tmp 19), none⟩])
 (.cond (.tmp 20) (.seq (.reg [⟨(some 6), .mv (.const (.bool false)), none⟩])
 (.ret)) (.skip))))
 (.reg [⟨(some 12), .mv (.tmp 7), none⟩,
  ⟨(some 13), .bin .add (.tmp 12) (.const (.int .i64 1)), none⟩,
  ⟨(some 7), .mv (.tmp 13), none⟩]))))))
 (.seq (.reg [⟨(some 21), .mv (.tmp 0), none⟩,
  ⟨(some 22), .len (.tmp 21), none⟩,
  ⟨(some 23), .mv (.tmp 1), none⟩,
  ⟨(some 24), .bin .eql (.tmp 22) (.tmp 23), none⟩,
  ⟨(some 6), .mv (.tmp 24), none⟩])
 (.ret)))
def r_spec_l2Row : List ARes := [.tmp 6]
theorem ok_spec_l2Row : FnOk Try.prog 61 25 c_spec_l2Row r_spec_l2Row := ⟨⟨Try.f61, _, Try.func61, by kernel_rfl, rfl, rfl, by kernel_rfl, by kernel_rfl⟩⟩
def c_impl_lotsFrom : ACode := .seq (.reg [⟨(some 1), .box 28 (.tmp 0), none⟩,
  ⟨(some 2), .mv (.const .nilFunc), none⟩])
 (.seq (.reg [⟨(some 6), .fad 0 (.tmp 1), none⟩,
  ⟨(some 7), .ld none (.tmp 6), none⟩,
  ⟨(some 8), .len (.tmp 7), none⟩,
  ⟨(some 3), .alc 3 [(.int .i64 0)], none⟩,
  ⟨none, .st 1 (.tmp 3) (.tmp 8), none⟩])
 (.seq (.reg [⟨(some 9), .mkm 83, none⟩,
  ⟨(some 10), .ld none (.tmp 3), none⟩,
  ⟨(some 11), .bld [(.int .i64 0), (.slice none 0 0)] [], none⟩,
  ⟨none, .mup (.tmp 9) (.tmp 10) (.tmp 11), none⟩,
  ⟨(some 12), .mv (.tmp 9), none⟩,
  ⟨(some 4), .alc 83 [(.map none)], none⟩,
  ⟨none, .st 1 (.tmp 4) (.tmp 12), none⟩])
 (.seq (.reg [⟨(some 5), .alc 69 [.nilFunc], none⟩])
 (.seq (.reg [⟨(some 13), .mkf 85 [] [(.tmp 4), (.tmp 1), (.tmp 3), (.tmp 5)], none⟩,
  ⟨none, .st 1 (.tmp 5) (.tmp 13), none⟩])
 (.seq (.reg [⟨(some 14), .ld none (.tmp 5), none⟩,
  ⟨(some 2), .mv (.tmp 14), none⟩])
 (.ret))))))
def r_impl_lotsFrom : List ARes := [.tmp 2]
theorem ok_impl_lotsFrom : FnOk Try.prog 62 15 c_impl_lotsFrom r_impl_lotsFrom := ⟨⟨Try.f62, _, Try.func62, by kernel_rfl, rfl, rfl, by kernel_rfl, by kernel_rfl⟩⟩
def c_impl_comesBefore : ACode := .seq (.reg [⟨(some 2), .box 50 (.tmp 0), none⟩,
  ⟨(some 3), .box 50 (.tmp 1), none⟩,
  ⟨(some 4), .mv (.const (.bool false)), none⟩])
 (.seq (.reg [⟨(some 6), .fad 0 (.tmp 2), none⟩,
  ⟨(some 7), .ld none (.tmp 6), none⟩,
  ⟨(some 8), .fad 0 (.tmp 3), none⟩,
  ⟨(some 9), .ld none (.tmp 8), none⟩,
  ⟨(some 11), .fad 1 (.tmp 2), none⟩,
  ⟨(some 12), .ld none (.tmp 11), none⟩,
  ⟨(some 13), .len (.tmp 12), none⟩,
  ⟨(some 14), .fad 1 (.tmp 3), none⟩,
  ⟨(some 15), .ld none (.tmp 14), none⟩,
  ⟨(some 16), .len (.tmp 15), none⟩,
  ⟨(some 18), .fad 1 (.tmp 2), none⟩,
  ⟨(some 19), .ld none (.tmp 18), none⟩,
  ⟨(some 20), .fad 1 (.tmp 3), none⟩,
  ⟨(some 21), .ld none (.tmp 20), none⟩,
  ⟨(some 10), .rcall (.func 87) [(.tmp 7), (.tmp 9)], none⟩,
  ⟨(some 17), .rcall (.func 87) [(.tmp 13), (.tmp 16)], none⟩,
  ⟨(some 22), .rcall (.func 88) [(.tmp 19), (.tmp 21)], none⟩,
  ⟨(some 23), .bsl 3 1 3 [(.int .i64 0), (.int .i64 0), (.int .i64 0)] [(0, 1, (.tmp 10)), (1, 1, (.tmp 17)), (2, 1, (.tmp 22))], none⟩,
  ⟨(some 24), .rcall (.func 86) [(.tmp 23)], none⟩,
  ⟨(some 5), .mv (.tmp 24), none⟩])
 (.seq (.reg [⟨(some 25), .mv (.tmp 5), none⟩,
  ⟨(some 26), .bin .lss (.tmp 25) (.const (.int .i64 0)), none⟩,
  ⟨(some 4), .mv (.tmp 26), none⟩])
 (.ret)))
def r_impl_comesBefore : List ARes := [.tmp 4]
theorem ok_impl_comesBefore : FnOk Try.prog 63 27 c_impl_comesBefore r_impl_comesBefore := ⟨⟨Try.f63, _, Try.func63, by kernel_rfl, rfl, rfl, by kernel_rfl, by kernel_rfl⟩⟩
def c_spec_l2Bits : ACode := .seq (.reg [⟨(some 4), .mv (.const (.slice none 0 0)), none⟩])
 (.seq (.reg [⟨(some 7), .bsl 3 1 0 [] [], none⟩,
  ⟨(some 5), .mv (.tmp 7), none⟩])
 (.seq (.seq (.reg [⟨(some 6), .mv (.const (.int .i64 0)), none⟩])
 (.block 0 (.loop (.seq (.seq (.reg [⟨(some 8), .mv (.tmp 6), none⟩,
  ⟨(some 9), .mv (.tmp 0), none⟩,
  ⟨(some 10), .bin .lss (.tmp 8) (.tmp 9), none⟩])
 (.cond (.tmp 10) (.skip) (.exit 0)))
 (.seq (.block 1 (.seq (.reg [⟨(some 13), .mv (.tmp 1), none⟩,
  ⟨(some 14), .mv (.tmp 6), none⟩,
  ⟨(some 15), .bin .shr (.tmp 13) (.tmp 14), none⟩,
  ⟨(some 16), .bin .and (.tmp 15) (.const (.int .i64 1)), none⟩,
  ⟨(some 17), .bin .eql (.tmp 16) (.const (.int .i64 1)), none⟩])
 (.cond (.tmp 17) (.reg [⟨(some 18), .mv (.tmp 5), none⟩,
  ⟨(some 19), .mv (.tmp 6), none⟩,
  ⟨(some 20), .bsl 3 1 1 [(.int .i64 0)] [(0, 1, (.tmp 19))], none⟩,
  ⟨(some 21), .app 3 1 8 (.tmp 18) (.tmp 20), none⟩,
  ⟨(some 5), .mv (.tmp 21), none⟩]) (.skip))))
 (.reg [⟨(some 11), .mv (.tmp 6), none⟩,
  ⟨(some 12), .bin .add (.tmp 11) (.const (.int .i64 1)), none⟩,
  ⟨(some 6), .mv (.tmp 12), none⟩]))))))
 (.seq (.reg [⟨(some 22), .mv (.tmp 5), none⟩,
  ⟨(some 4), .mv (.tmp 22), none⟩])
 (.ret))))
def r_spec_l2Bits : List ARes := [.tmp 4]
theorem ok_spec_l2Bits : FnOk Try.prog 64 23 c_spec_l2Bits r_spec_l2Bits := ⟨⟨Try.f64, _, Try.func64, by kernel_rfl, rfl, rfl, by kernel_rfl, by kernel_rfl⟩⟩
def c_spec_l2Before : ACode := .seq (.reg [⟨(some 4), .mv (.const (.bool false)), none⟩])
 (.seq (.seq (.reg [⟨(some 6), .mv (.tmp 0), none⟩,
  ⟨(some 7), .len (.tmp 6), none⟩,
  ⟨(some 8), .mv (.tmp 1), none⟩,
  ⟨(some 9), .len (.tmp 8), none⟩,
  ⟨(some 10), .bin .neq (.tmp 7) (.tmp 9), none⟩])
 (.cond (.tmp 10) (.seq (.reg [⟨(some 11), .mv (.tmp 0), none⟩,
  ⟨(some 12), .len (.tmp 11), none⟩,
  ⟨(some 13), .mv (.tmp 1), none⟩,
  ⟨(some 14), .len (.tmp 13), none⟩,
  ⟨(some 15), .bin .lss (.tmp 12) (.tmp 14), none⟩,
  ⟨(some 4), .mv (.tmp 15), none⟩])
 (.ret)) (.skip)))
 (.seq (.seq (.reg [⟨(some 5), .mv (.const (.int .i64 0)), none⟩])
 (.block 0 (.loop (.seq (.seq (.reg [⟨(some 16), .mv (.tmp 5), none⟩,
  ⟨(some 17), .mv (.tmp 0), none⟩,
  ⟨(some 18), .len (.tmp 17), none⟩,
  ⟨(some 19), .bin .lss (.tmp 16) (.tmp 18), none⟩])
 (.cond (.tmp 19) (.skip) (.exit 0)))
 (.seq (.block 1 (.seq (.reg [⟨(some 22), .mv (.tmp 0), none⟩,
  ⟨(some 23), .mv (.tmp 5), none⟩,
  ⟨(some 24), .iad 1 (.tmp 22) (.tmp 23), none⟩,
  ⟨(some 25), .ld none (.tmp 24), none⟩,
  ⟨(some 26), .mv (.tmp 1), none⟩,
  ⟨(some 27), .mv (.tmp 5), none⟩,
  ⟨(some 28), .iad 1 (.tmp 26) (.tmp 27), none⟩,
  ⟨(some 29), .ld none (.tmp 28), none⟩,
  ⟨(some 30), .bin .neq (.tmp 25) (.tmp 29), none⟩])
 (.cond (.tmp 30) (.seq (.reg [⟨(some 31), .mv (.tmp 0), none⟩,
  ⟨(some 32), .mv (.tmp 5), none⟩,
  ⟨(some 33), .iad 1 (.tmp 31) (.tmp 32), none⟩,
  ⟨(some 34), .ld none (.tmp 33), none⟩,
  ⟨(some 35), .mv (.tmp 1), none⟩,
  ⟨(some 36), .mv (.tmp 5), none⟩,
  ⟨(some 37), .iad 1 (.tmp 35) (.tmp 36), none⟩,
  ⟨(some 38), .ld none (.tmp 37), none⟩,
  ⟨(some 39), .bin .lss (.tmp 34) (.tmp 38), none⟩,
  ⟨(some 4), .mv (.tmp 39), none⟩])
 (.ret)) (.skip))))
 (.reg [⟨(some 20), .mv (.tmp 5), none⟩,
  ⟨(some 21), .bin .add (.tmp 20) (.const (.int .i64 1)), none⟩,
  ⟨(some 5), .mv (.tmp 21), none⟩]))))))
 (.seq (.reg [⟨(some 4), .mv (.const (.bool false)), none⟩])
 (.ret))))
def r_spec_l2Before : List ARes := [.tmp 4]
theorem ok_spec_l2Before : FnOk Try.prog 65 40 c_spec_l2Before r_spec_l2Before := ⟨⟨Try.f65, _, Try.func65, by kernel_rfl, rfl, rfl, by kernel_rfl, by kernel_rfl⟩⟩
def c_spec_l1Rising : ACode := .seq (.reg [⟨(some 6), .mv (.const (.bool false)), none⟩])
 (.seq (.seq (.reg [⟨(some 7), .mv (.const (.int .i64 0)), none⟩])
 (.block 0 (.loop (.seq (.seq (.reg [⟨(some 8), .mv (.tmp 7), none⟩,
  ⟨(some 9), .mv (.tmp 0), none⟩,
  ⟨(some 10), .len (.tmp 9), none⟩,
  ⟨(some 11), .bin .lss (.tmp 8) (.tmp 10), none⟩])
 (.cond (.tmp 11) (.skip) (.exit 0)))
 (.seq (.block 1 (.seq (.reg [⟨(some 14), .mv (.tmp 0), none⟩,
  ⟨(some 15), .mv (.tmp 7), none⟩,
  ⟨(some 16), .iad 1 (.tmp 14) (.tmp 15), none⟩,
  ⟨(some 17), .ld none (.tmp 16), none⟩,
  ⟨(some 18), .mv (.tmp 1), none⟩,
  ⟨(some 19), .mv (.tmp 2), none⟩,
  ⟨(some 20), .rcall (.func 47) [(.tmp 17), (.tmp 18), (.tmp 19)], none⟩,
  ⟨(some 21), .un .not (.tmp 20), none⟩,
  ⟨(some 22), .mv (.tmp 21), none⟩,
  ⟨(some 23), .mv (.tmp 7), (some (22, false))⟩,
  ⟨(some 24), .bin .gtr (.tmp 23) (.const (.int .i64 0)), (some (22, false))⟩,
  ⟨(some 25), .mv (.tmp 24), (some (22, false))⟩,
  ⟨(some 26), .mv (.tmp 0), (some (25, true))⟩,
  ⟨(some 27), .mv (.tmp 7), (some (25, true))⟩,
  ⟨(some 28), .bin .sub (.tmp 27) (.const (.int .i64 1)), (some (25, true))⟩,
  ⟨(some 29), .iad 1 (.tmp 26) (.tmp 28), (some (25, true))⟩,
  ⟨(some 30), .ld none (.tmp 29), (some (25, true))⟩,
  ⟨(some 31), .mv (.tmp 0), (some (25, true))⟩,
  ⟨(some 32), .mv (.tmp 7), (some (25, true))⟩,
  ⟨(some 33), .iad 1 (.tmp 31) (.tmp 32), (some (25, true))⟩,
  ⟨(some 34), .ld none (.tmp 33), (some (25, true))⟩,
  ⟨(some 35), .bin .geq (.tmp 30) (.tmp 34), (some (25, true))⟩,
  ⟨(some 36), .pick (.tmp 25) (.tmp 35) (.const (.bool false)), (some (22, false))⟩,
  ⟨(some 37), .pick (.tmp 22) (.const (.bool true)) (.tmp 36), none⟩])
 (.cond (.tmp 37) (.seq (.reg [⟨(some 6), .mv (.const (.bool false)), none⟩])
 (.ret)) (.skip))))
 (.reg [⟨(some 12), .mv (.tmp 7), none⟩,
  ⟨(some 13), .bin .add (.tmp 12) (.const (.int .i64 1)), none⟩,
  ⟨(some 7), .mv (.tmp 13), none⟩]))))))
 (.seq (.reg [⟨(some 6), .mv (.const (.bool true)), none⟩])
 (.ret)))
def r_spec_l1Rising : List ARes := [.tmp 6]
theorem ok_spec_l1Rising : FnOk Try.prog 66 38 c_spec_l1Rising r_spec_l1Rising := ⟨⟨Try.f66, _, Try.func66, by kernel_rfl, rfl, rfl, by kernel_rfl, by kernel_rfl⟩⟩
def c_slices_Backward_1 : ACode := .seq (.reg [⟨(some 4), .ld none (.tmp 1), none⟩,
  ⟨(some 5), .len (.tmp 4), none⟩,
  ⟨(some 6), .bin .sub (.tmp 5) (.const (.int .i64 1)), none⟩,
  ⟨(some 3), .mv (.tmp 6), none⟩])
 (.block 0 (.loop (.seq (.seq (.reg [⟨(some 7), .mv (.tmp 3), none⟩,
  ⟨(some 8), .bin .geq (.tmp 7) (.const (.int .i64 0)), none⟩])
 (.cond (.tmp 8) (.skip) (.exit 0)))
 (.seq (.block 1 (.seq (.reg [⟨(some 11), .mv (.tmp 0), none⟩,
  ⟨(some 12), .mv (.tmp 3), none⟩,
  ⟨(some 13), .ld none (.tmp 1), none⟩,
  ⟨(some 14), .mv (.tmp 3), none⟩,
  ⟨(some 15), .iad 1 (.tmp 13) (.tmp 14), none⟩,
  ⟨(some 16), .ld none (.tmp 15), none⟩,
  ⟨(some 17), .call (.tmp 11) [(.tmp 12), (.tmp 16)], none⟩,
  ⟨(some 18), .un .not (.tmp 17), none⟩])
 (.cond (.tmp 18) (.ret) (.skip))))
 (.reg [⟨(some 9), .mv (.tmp 3), none⟩,
  ⟨(some 10), .bin .sub (.tmp 9) (.const (.int .i64 1)), none⟩,
  ⟨(some 3), .mv (.tmp 10), none⟩])))))
def r_slices_Backward_1 : List ARes := []
theorem ok_slices_Backward_1 : FnOk Try.prog 67 19 c_slices_Backward_1 r_slices_Backward_1 := ⟨⟨Try.f67, _, Try.func67, by kernel_rfl, rfl, rfl, by kernel_rfl, by kernel_rfl⟩⟩
def c_spec_l3Over : ACode := .seq (.reg [⟨(some 4), .box 28 (.tmp 0), none⟩,
  ⟨(some 8), .mv (.const (.bool false)), none⟩])
 (.seq (.reg [⟨(some 13), .ld (some 4) (.tmp 4), none⟩,
  ⟨(some 14), .mv (.tmp 2), none⟩,
  ⟨(some 15), .mv (.tmp 3), none⟩,
  ⟨(some 17), .ld (some 4) (.tmp 4), none⟩,
  ⟨(some 18), .mv (.tmp 2), none⟩,
  ⟨(some 19), .mv (.tmp 3), none⟩,
  ⟨(some 20), .bin .add (.tmp 19) (.const (.int .i64 1)), none⟩,
  ⟨(some 16), .rcall (.func 75) [(.tmp 13), (.tmp 14), (.tmp 15)], none⟩,
  ⟨(some 21), .rcall (.func 75) [(.tmp 17), (.tmp 18), (.tmp 20)], none⟩,
  ⟨(some 9), .mv (.tmp 16), none⟩,
  ⟨(some 10), .mv (.tmp 21), none⟩])
 (.seq (.reg [⟨(some 22), .fad 0 (.tmp 4), none⟩,
  ⟨(some 23), .ld none (.tmp 22), none⟩,
  ⟨(some 24), .mv (.tmp 2), none⟩,
  ⟨(some 25), .mv (.tmp 3), none⟩,
  ⟨(some 26), .slc 1 (.tmp 23) (some (.tmp 24)) (some (.tmp 25)), none⟩,
  ⟨(some 28), .fad 0 (.tmp 4), none⟩,
  ⟨(some 29), .ld none (.tmp 28), none⟩,
  ⟨(some 30), .mv (.tmp 2), none⟩,
  ⟨(some 31), .mv (.tmp 3), none⟩,
  ⟨(some 32), .bin .add (.tmp 31) (.const (.int .i64 1)), none⟩,
  ⟨(some 33), .slc 1 (.tmp 29) (some (.tmp 30)) (some (.tmp 32)), none⟩,
  ⟨(some 27), .rcall (.func 60) [(.tmp 26)], none⟩,
  ⟨(some 34), .rcall (.func 60) [(.tmp 33)], none⟩,
  ⟨(some 11), .mv (.tmp 27), none⟩,
  ⟨(some 12), .mv (.tmp 34), none⟩])
 (.seq (.seq (.reg [⟨(some 35), .mv (.tmp 1), none⟩])
 (.block 0 (.seq (.reg [⟨(some 37), .bin .eql (.tmp 35) (.const (.int .i64 1)), none⟩,
  ⟨(some 36), .mv (.tmp 37), none⟩])
 (.cond (.tmp 36) (.seq (.reg [⟨(some 38), .mv (.tmp 10), none⟩,
  ⟨(some 39), .mv (.tmp 3), none⟩,
  ⟨(some 40), .mv (.tmp 2), none⟩,
  ⟨(some 41), .bin .sub (.tmp 39) (.tmp 40), none⟩,
  ⟨(some 42), .bin .mul (.tmp 38) (.tmp 41), none⟩,
  ⟨(some 43), .mv (.tmp 9), none⟩,
  ⟨(some 44), .mv (.tmp 3), none⟩,
  ⟨(some 45), .bin .add (.tmp 44) (.const (.int .i64 1)), none⟩,
  ⟨(some 46), .mv (.tmp 2), none⟩,
  ⟨(some 47), .bin .sub (.tmp 45) (.tmp 46), none⟩,
  ⟨(some 48), .bin .mul (.tmp 43) (.tmp 47), none⟩,
  ⟨(some 49), .bin .gtr (.tmp 42) (.tmp 48), none⟩,
  ⟨(some 8), .mv (.tmp 49), none⟩])
 (.ret)) (.seq (.reg [⟨(some 51), .bin .eql (.tmp 35) (.const (.int .i64 2)), none⟩,
  ⟨(some 50), .mv (.tmp 51), none⟩])
 (.cond (.tmp 50) (.seq (.reg [⟨(some 52), .mv (.tmp 10), none⟩,
  ⟨(some 53), .mv (.tmp 11), none⟩,
  ⟨(some 54), .bin .mul (.tmp 52) (.tmp 53), none⟩,
  ⟨(some 55), .mv (.tmp 9), none⟩,
  ⟨(some 56), .mv (.tmp 12), none⟩,
  ⟨(some 57), .bin .mul (.tmp 55) (.tmp 56), none⟩,
  ⟨(some 58), .bin .gtr (.tmp 54) (.tmp 57), none⟩,
  ⟨(some 8), .mv (.tmp 58), none⟩])
 (.ret)) (.skip)))))))
 (.seq (.reg [⟨(some 59), .mv (.tmp 10), none⟩,
  ⟨(some 60), .fad 1 (.tmp 4), none⟩,
  ⟨(some 61), .ld none (.tmp 60), none⟩,
  ⟨(some 62), .mv (.tmp 2), none⟩,
  ⟨(some 63), .iad 1 (.tmp 61) (.tmp 62), none⟩,
  ⟨(some 64), .ld none (.tmp 63), none⟩,
  ⟨(some 65), .bin .sub (.tmp 59) (.tmp 64), none⟩,
  ⟨(some 66), .fad 2 (.tmp 4), none⟩,
  ⟨(some 67), .ld none (.tmp 66), none⟩,
  ⟨(some 68), .mv (.tmp 2), none⟩,
  ⟨(some 69), .iad 1 (.tmp 67) (.tmp 68), none⟩,
  ⟨(some 70), .ld none (.tmp 69), none⟩,
  ⟨(some 71), .mv (.tmp 12), none⟩,
  ⟨(some 72), .bin .mul (.tmp 70) (.tmp 71), none⟩,
  ⟨(some 73), .bin .sub (.tmp 65) (.tmp 72), none⟩,
  ⟨(some 74), .fad 1 (.tmp 4), none⟩,
  ⟨(some 75), .ld none (.tmp 74), none⟩,
  ⟨(some 76), .mv (.tmp 2), none⟩,
  ⟨(some 77), .iad 1 (.tmp 75) (.tmp 76), none⟩,
  ⟨(some 78), .ld none (.tmp 77), none⟩,
  ⟨(some 79), .bin .gtr (.tmp 73) (.tmp 78), none⟩,
  ⟨(some 8), .mv (.tmp 79), none⟩])
 (.ret)))))
def r_spec_l3Over : List ARes := [.tmp 8]
theorem ok_spec_l3Over : FnOk Try.prog 68 80 c_spec_l3Over r_spec_l3Over := ⟨⟨Try.f68, _, Try.func68, by kernel_rfl, rfl, rfl, by kernel_rfl, by kernel_rfl⟩⟩
def c_impl_goodBy_1 : ACode := .seq (.reg [⟨(some 9), .mv (.const (.bool false)), none⟩])
 (.seq (.reg [⟨(some 10), .ld (some 4) (.tmp 4), none⟩,
  ⟨(some 11), .mv (.tmp 0), none⟩,
  ⟨(some 12), .mv (.tmp 1), none⟩,
  ⟨(some 13), .bin .add (.tmp 12) (.const (.int .i64 1)), none⟩,
  ⟨(some 15), .mv (.tmp 2), none⟩,
  ⟨(some 17), .ld (some 4) (.tmp 4), none⟩,
  ⟨(some 18), .mv (.tmp 0), none⟩,
  ⟨(some 19), .mv (.tmp 1), none⟩,
  ⟨(some 21), .mv (.tmp 3), none⟩,
  ⟨(some 14), .rcall (.func 70) [(.tmp 10), (.tmp 11), (.tmp 13)], none⟩,
  ⟨(some 16), .bin .mul (.tmp 14) (.tmp 15), none⟩,
  ⟨(some 20), .rcall (.func 70) [(.tmp 17), (.tmp 18), (.tmp 19)], none⟩,
  ⟨(some 22), .bin .mul (.tmp 20) (.tmp 21), none⟩,
  ⟨(some 23), .bin .leq (.tmp 16) (.tmp 22), none⟩,
  ⟨(some 9), .mv (.tmp 23), none⟩])
 (.ret))
def r_impl_goodBy_1 : List ARes := [.tmp 9]
theorem ok_impl_goodBy_1 : FnOk Try.prog 69 24 c_impl_goodBy_1 r_impl_goodBy_1 := ⟨⟨Try.f69, _, Try.func69, by kernel_rfl, rfl, rfl, by kernel_rfl, by kernel_rfl⟩⟩
def c_impl_orderCost : ACode := .seq (.reg [⟨(some 3), .box 28 (.tmp 0), none⟩,
  ⟨(some 6), .mv (.const (.int .i64 0)), none⟩])
 (.seq (.reg [⟨(some 10), .fad 0 (.tmp 3), none⟩,
  ⟨(some 11), .ld none (.tmp 10), none⟩,
  ⟨(some 12), .mv (.tmp 1), none⟩,
  ⟨(some 13), .mv (.tmp 2), none⟩,
  ⟨(some 14), .slc 1 (.tmp 11) (some (.tmp 12)) (some (.tmp 13)), none⟩,
  ⟨(some 15), .call (.func 46) [(.tmp 14)], none⟩,
  ⟨(some 7), .mv (.tmp 15), none⟩])
 (.seq (.seq (.reg [⟨(some 16), .mv (.tmp 7), none⟩,
  ⟨(some 17), .bin .eql (.tmp 16) (.const (.int .i64 0)), none⟩])
 (.cond (.tmp 17) (.seq (.reg [⟨(some 6), .mv (.const (.int .i64 0)), none⟩])
 (.ret)) (.skip)))
 (.seq (.reg [⟨(some 18), .fad 1 (.tmp 3), none⟩,
  ⟨(some 19), .ld none (.tmp 18), none⟩,
  ⟨(some 20), .mv (.tmp 1), none⟩,
  ⟨(some 21), .iad 1 (.tmp 19) (.tmp 20), none⟩,
  ⟨(some 22), .ld none (.tmp 21), none⟩,
  ⟨(some 23), .fad 2 (.tmp 3), none⟩,
  ⟨(some 24), .ld none (.tmp 23), none⟩,
  ⟨(some 25), .mv (.tmp 1), none⟩,
  ⟨(some 26), .iad 1 (.tmp 24) (.tmp 25), none⟩,
  ⟨(some 27), .ld none (.tmp 26), none⟩,
  ⟨(some 28), .mv (.tmp 7), none⟩,
  ⟨(some 29), .bin .mul (.tmp 27) (.tmp 28), none⟩,
  ⟨(some 30), .bin .add (.tmp 22) (.tmp 29), none⟩,
  ⟨(some 8), .mv (.tmp 30), none⟩])
 (.seq (.seq (.reg [⟨(some 31), .mv (.tmp 1), none⟩,
  ⟨(some 9), .mv (.tmp 31), none⟩])
 (.block 0 (.loop (.seq (.seq (.reg [⟨(some 32), .mv (.tmp 9), none⟩,
  ⟨(some 33), .mv (.tmp 2), none⟩,
  ⟨(some 34), .bin .lss (.tmp 32) (.tmp 33), none⟩])
 (.cond (.tmp 34) (.skip) (.exit 0)))
 (.seq (.block 1 (.seq (.reg [⟨(some 37), .mv (.tmp 7), none⟩,
  ⟨(some 38), .fad 0 (.tmp 3), none⟩,
  ⟨(some 39), .ld none (.tmp 38), none⟩,
  ⟨(some 40), .mv (.tmp 9), none⟩,
  ⟨(some 41), .iad 1 (.tmp 39) (.tmp 40), none⟩,
  ⟨(some 42), .ld none (.tmp 41), none⟩,
  ⟨(some 43), .bin .sub (.tmp 37) (.tmp 42), none⟩,
  ⟨(some 7), .mv (.tmp 43), none⟩])
 (.reg [⟨(some 44), .mv (.tmp 8), none⟩,
  ⟨(some 45), .fad 3 (.tmp 3), none⟩,
  ⟨(some 46), .ld none (.tmp 45), none⟩,
  ⟨(some 47), .mv (.tmp 9), none⟩,
  ⟨(some 48), .iad 1 (.tmp 46) (.tmp 47), none⟩,
  ⟨(some 49), .ld none (.tmp 48), none⟩,
  ⟨(some 50), .mv (.tmp 7), none⟩,
  ⟨(some 51), .bin .mul (.tmp 49) (.tmp 50), none⟩,
  ⟨(some 52), .bin .add (.tmp 44) (.tmp 51), none⟩,
  ⟨(some 8), .mv (.tmp 52), none⟩])))
 (.reg [⟨(some 35), .mv (.tmp 9), none⟩,
  ⟨(some 36), .bin .add (.tmp 35) (.const (.int .i64 1)), none⟩,
  ⟨(some 9), .mv (.tmp 36), none⟩]))))))
 (.seq (.reg [⟨(some 53), .mv (.tmp 8), none⟩,
  ⟨(some 6), .mv (.tmp 53), none⟩])
 (.ret))))))
def r_impl_orderCost : List ARes := [.tmp 6]
theorem ok_impl_orderCost : FnOk Try.prog 70 54 c_impl_orderCost r_impl_orderCost := ⟨⟨Try.f70, _, Try.func70, by kernel_rfl, rfl, rfl, by kernel_rfl, by kernel_rfl⟩⟩
def c_impl_goodBy_2 : ACode := .seq (.reg [⟨(some 5), .mv (.const (.bool false)), none⟩])
 (.seq (.reg [⟨(some 6), .ld none (.tmp 2), none⟩,
  ⟨(some 7), .mv (.tmp 0), none⟩,
  ⟨(some 8), .mv (.tmp 1), none⟩,
  ⟨(some 9), .mv (.tmp 1), none⟩,
  ⟨(some 10), .mv (.tmp 0), none⟩,
  ⟨(some 11), .bin .sub (.tmp 9) (.tmp 10), none⟩,
  ⟨(some 12), .mv (.tmp 1), none⟩,
  ⟨(some 13), .bin .add (.tmp 12) (.const (.int .i64 1)), none⟩,
  ⟨(some 14), .mv (.tmp 0), none⟩,
  ⟨(some 15), .bin .sub (.tmp 13) (.tmp 14), none⟩,
  ⟨(some 16), .call (.tmp 6) [(.tmp 7), (.tmp 8), (.tmp 11), (.tmp 15)], none⟩,
  ⟨(some 5), .mv (.tmp 16), none⟩])
 (.ret))
def r_impl_goodBy_2 : List ARes := [.tmp 5]
theorem ok_impl_goodBy_2 : FnOk Try.prog 71 17 c_impl_goodBy_2 r_impl_goodBy_2 := ⟨⟨Try.f71, _, Try.func71, by kernel_rfl, rfl, rfl, by kernel_rfl, by kernel_rfl⟩⟩
def c_impl_goodBy_3 : ACode := .seq (.reg [⟨(some 6), .mv (.const (.bool false)), none⟩])
 (.seq (.reg [⟨(some 7), .ld none (.tmp 2), none⟩,
  ⟨(some 8), .mv (.tmp 0), none⟩,
  ⟨(some 9), .mv (.tmp 1), none⟩,
  ⟨(some 10), .fad 0 (.tmp 3), none⟩,
  ⟨(some 11), .ld none (.tmp 10), none⟩,
  ⟨(some 12), .mv (.tmp 0), none⟩,
  ⟨(some 13), .mv (.tmp 1), none⟩,
  ⟨(some 14), .slc 1 (.tmp 11) (some (.tmp 12)) (some (.tmp 13)), none⟩,
  ⟨(some 16), .fad 0 (.tmp 3), none⟩,
  ⟨(some 17), .ld none (.tmp 16), none⟩,
  ⟨(some 18), .mv (.tmp 0), none⟩,
  ⟨(some 19), .mv (.tmp 1), none⟩,
  ⟨(some 20), .bin .add (.tmp 19) (.const (.int .i64 1)), none⟩,
  ⟨(some 21), .slc 1 (.tmp 17) (some (.tmp 18)) (some (.tmp 20)), none⟩,
  ⟨(some 15), .rcall (.func 46) [(.tmp 14)], none⟩,
  ⟨(some 22), .rcall (.func 46) [(.tmp 21)], none⟩,
  ⟨(some 23), .rcall (.tmp 7) [(.tmp 8), (.tmp 9), (.tmp 15), (.tmp 22)], none⟩,
  ⟨(some 6), .mv (.tmp 23), none⟩])
 (.ret))
def r_impl_goodBy_3 : List ARes := [.tmp 6]
theorem ok_impl_goodBy_3 : FnOk Try.prog 72 24 c_impl_goodBy_3 r_impl_goodBy_3 := ⟨⟨Try.f72, _, Try.func72, by kernel_rfl, rfl, rfl, by kernel_rfl, by kernel_rfl⟩⟩
def c_impl_goodBy_4 : ACode := .seq (.reg [⟨(some 5), .mv (.const (.bool false)), none⟩])
 (.seq (.reg [⟨(some 7), .fad 2 (.tmp 2), none⟩,
  ⟨(some 8), .ld none (.tmp 7), none⟩,
  ⟨(some 9), .mv (.tmp 0), none⟩,
  ⟨(some 10), .iad 1 (.tmp 8) (.tmp 9), none⟩,
  ⟨(some 11), .ld none (.tmp 10), none⟩,
  ⟨(some 12), .fad 0 (.tmp 2), none⟩,
  ⟨(some 13), .ld none (.tmp 12), none⟩,
  ⟨(some 14), .mv (.tmp 0), none⟩,
  ⟨(some 15), .mv (.tmp 1), none⟩,
  ⟨(some 16), .bin .add (.tmp 15) (.const (.int .i64 1)), none⟩,
  ⟨(some 17), .slc 1 (.tmp 13) (some (.tmp 14)) (some (.tmp 16)), none⟩,
  ⟨(some 18), .rcall (.func 46) [(.tmp 17)], none⟩,
  ⟨(some 19), .bin .mul (.tmp 11) (.tmp 18), none⟩,
  ⟨(some 6), .mv (.tmp 19), none⟩])
 (.seq (.reg [⟨(some 20), .ld (some 4) (.tmp 2), none⟩,
  ⟨(some 21), .mv (.tmp 0), none⟩,
  ⟨(some 22), .mv (.tmp 1), none⟩,
  ⟨(some 23), .bin .add (.tmp 22) (.const (.int .i64 1)), none⟩,
  ⟨(some 25), .fad 1 (.tmp 2), none⟩,
  ⟨(some 26), .ld none (.tmp 25), none⟩,
  ⟨(some 27), .mv (.tmp 0), none⟩,
  ⟨(some 28), .iad 1 (.tmp 26) (.tmp 27), none⟩,
  ⟨(some 29), .ld none (.tmp 28), none⟩,
  ⟨(some 31), .mv (.tmp 6), none⟩,
  ⟨(some 33), .fad 1 (.tmp 2), none⟩,
  ⟨(some 34), .ld none (.tmp 33), none⟩,
  ⟨(some 35), .mv (.tmp 0), none⟩,
  ⟨(some 36), .iad 1 (.tmp 34) (.tmp 35), none⟩,
  ⟨(some 37), .ld none (.tmp 36), none⟩,
  ⟨(some 24), .rcall (.func 70) [(.tmp 20), (.tmp 21), (.tmp 23)], none⟩,
  ⟨(some 30), .bin .sub (.tmp 24) (.tmp 29), none⟩,
  ⟨(some 32), .bin .sub (.tmp 30) (.tmp 31), none⟩,
  ⟨(some 38), .bin .leq (.tmp 32) (.tmp 37), none⟩,
  ⟨(some 5), .mv (.tmp 38), none⟩])
 (.ret)))
def r_impl_goodBy_4 : List ARes := [.tmp 5]
theorem ok_impl_goodBy_4 : FnOk Try.prog 73 39 c_impl_goodBy_4 r_impl_goodBy_4 := ⟨⟨Try.f73, _, Try.func73, by kernel_rfl, rfl, rfl, by kernel_rfl, by kernel_rfl⟩⟩
def c_spec_l2Parts : ACode := .seq (.reg [⟨(some 2), .box 28 (.tmp 0), none⟩,
  ⟨(some 4), .alc 76 [(.int .i64 0), (.int .i64 0), (.int .i64 0)], none⟩])
 (.seq (.reg [⟨(some 8), .bld [(.int .i64 0), (.int .i64 0), (.int .i64 0)] [], none⟩,
  ⟨(some 9), .ld (some 4) (.tmp 2), none⟩,
  ⟨(some 10), .mv (.tmp 1), none⟩,
  ⟨(some 11), .call (.func 89) [(.tmp 9), (.tmp 10)], none⟩,
  ⟨(some 5), .alc 76 [(.int .i64 0), (.int .i64 0), (.int .i64 0)], none⟩,
  ⟨none, .st 3 (.tmp 5) (.tmp 8), none⟩,
  ⟨(some 6), .mv (.tmp 11), none⟩])
 (.seq (.seq (.reg [⟨(some 7), .mv (.const (.int .i64 0)), none⟩])
 (.block 0 (.loop (.seq (.seq (.reg [⟨(some 12), .mv (.tmp 7), none⟩,
  ⟨(some 13), .mv (.tmp 1), none⟩,
  ⟨(some 14), .len (.tmp 13), none⟩,
  ⟨(some 15), .bin .lss (.tmp 12) (.tmp 14), none⟩])
 (.cond (.tmp 15) (.skip) (.exit 0)))
 (.seq (.block 1 (.seq (.seq (.reg [⟨(some 18), .mv (.tmp 1), none⟩,
  ⟨(some 19), .mv (.tmp 7), none⟩,
  ⟨(some 20), .iad 1 (.tmp 18) (.tmp 19), none⟩,
  ⟨(some 21), .ld none (.tmp 20), none⟩,
  ⟨(some 22), .bin .gtr (.tmp 21) (.const (.int .i64 0)), none⟩])
 (.cond (.tmp 22) (.reg [⟨(some 23), .iada 1 3 (.tmp 5) (.const (.int .i64 0)), none⟩,
  ⟨(some 24), .ld none (.tmp 23), none⟩,
  ⟨(some 25), .fad 1 (.tmp 2), none⟩,
  ⟨(some 26), .ld none (.tmp 25), none⟩,
  ⟨(some 27), .mv (.tmp 7), none⟩,
  ⟨(some 28), .iad 1 (.tmp 26) (.tmp 27), none⟩,
  ⟨(some 29), .ld none (.tmp 28), none⟩,
  ⟨(some 30), .bin .add (.tmp 24) (.tmp 29), none⟩,
  ⟨(some 31), .iada 1 3 (.tmp 5) (.const (.int .i64 0)), none⟩,
  ⟨none, .st 1 (.tmp 31) (.tmp 30), none⟩]) (.skip)))
 (.seq (.reg [⟨(some 32), .iada 1 3 (.tmp 5) (.const (.int .i64 1)), none⟩,
  ⟨(some 33), .ld none (.tmp 32), none⟩,
  ⟨(some 34), .fad 2 (.tmp 2), none⟩,
  ⟨(some 35), .ld none (.tmp 34), none⟩,
  ⟨(some 36), .mv (.tmp 7), none⟩,
  ⟨(some 37), .iad 1 (.tmp 35) (.tmp 36), none⟩,
  ⟨(some 38), .ld none (.tmp 37), none⟩,
  ⟨(some 39), .mv (.tmp 1), none⟩,
  ⟨(some 40), .mv (.tmp 7), none⟩,
  ⟨(some 41), .iad 1 (.tmp 39) (.tmp 40), none⟩,
  ⟨(some 42), .ld none (.tmp 41), none⟩,
  ⟨(some 43), .bin .mul (.tmp 38) (.tmp 42), none⟩,
  ⟨(some 44), .bin .add (.tmp 33) (.tmp 43), none⟩,
  ⟨(some 45), .iada 1 3 (.tmp 5) (.const (.int .i64 1)), none⟩,
  ⟨none, .st 1 (.tmp 45) (.tmp 44), none⟩])
 (.reg [⟨(some 46), .iada 1 3 (.tmp 5) (.const (.int .i64 2)), none⟩,
  ⟨(some 47), .ld none (.tmp 46), none⟩,
  ⟨(some 48), .fad 3 (.tmp 2), none⟩,
  ⟨(some 49), .ld none (.tmp 48), none⟩,
  ⟨(some 50), .mv (.tmp 7), none⟩,
  ⟨(some 51), .iad 1 (.tmp 49) (.tmp 50), none⟩,
  ⟨(some 52), .ld none (.tmp 51), none⟩,
  ⟨(some 53), .mv (.tmp 6), none⟩,
  ⟨(some 54), .mv (.tmp 7), none⟩,
  ⟨(some 55), .iad 1 (.tmp 53) (.tmp 54), none⟩,
  ⟨(some 56), .ld none (.tmp 55), none⟩,
  ⟨(some 57), .bin .mul (.tmp 52) (.tmp 56), none⟩,
  ⟨(some 58), .bin .add (.tmp 47) (.tmp 57), none⟩,
  ⟨(some 59), .iada 1 3 (.tmp 5) (.const (.int .i64 2)), none⟩,
  ⟨none, .st 1 (.tmp 59) (.tmp 58), none⟩]))))
 (.reg [⟨(some 16), .mv (.tmp 7), none⟩,
  ⟨(some 17), .bin .add (.tmp 16) (.const (.int .i64 1)), none⟩,
  ⟨(some 7), .mv (.tmp 17), none⟩]))))))
 (.seq (.reg [⟨(some 60), .ld (some 3) (.tmp 5), none⟩,
  ⟨none, .st 3 (.tmp 4) (.tmp 60), none⟩])
 (.ret))))
def r_spec_l2Parts : List ARes := [.cell 4 (some 3)]
theorem ok_spec_l2Parts : FnOk Try.prog 74 61 c_spec_l2Parts r_spec_l2Parts := ⟨⟨Try.f74, _, Try.func74, by kernel_rfl, rfl, rfl, by kernel_rfl, by kernel_rfl⟩⟩
def c_spec_l3Span : ACode := .seq (.reg [⟨(some 3), .box 28 (.tmp 0), none⟩,
  ⟨(some 6), .mv (.const (.int .i64 0)), none⟩])
 (.seq (.reg [⟨(some 7), .mv (.const (.int .i64 0)), none⟩,
  ⟨(some 8), .mv (.const (.bool false)), none⟩])
 (.seq (.seq (.reg [⟨(some 10), .mv (.tmp 1), none⟩,
  ⟨(some 9), .mv (.tmp 10), none⟩])
 (.block 0 (.loop (.seq (.seq (.reg [⟨(some 11), .mv (.tmp 9), none⟩,
  ⟨(some 12), .mv (.tmp 2), none⟩,
  ⟨(some 13), .bin .lss (.tmp 11) (.tmp 12), none⟩])
 (.cond (.tmp 13) (.skip) (.exit 0)))
 (.seq (.block 1 (.seq (.reg [⟨(some 16), .mv (.tmp 7), none⟩,
  ⟨(some 17), .fad 0 (.tmp 3), none⟩,
  ⟨(some 18), .ld none (.tmp 17), none⟩,
  ⟨(some 19), .mv (.tmp 9), none⟩,
  ⟨(some 20), .iad 1 (.tmp 18) (.tmp 19), none⟩,
  ⟨(some 21), .ld none (.tmp 20), none⟩,
  ⟨(some 22), .ld (some 4) (.tmp 3), none⟩,
  ⟨(some 23), .mv (.tmp 1), none⟩,
  ⟨(some 24), .mv (.tmp 9), none⟩,
  ⟨(some 25), .rcall (.func 79) [(.tmp 22), (.tmp 23), (.tmp 24)], none⟩,
  ⟨(some 26), .bin .mul (.tmp 21) (.tmp 25), none⟩,
  ⟨(some 27), .bin .add (.tmp 16) (.tmp 26), none⟩,
  ⟨(some 7), .mv (.tmp 27), none⟩])
 (.reg [⟨(some 28), .mv (.tmp 8), none⟩,
  ⟨(some 29), .mv (.tmp 28), none⟩,
  ⟨(some 30), .fad 0 (.tmp 3), (some (29, false))⟩,
  ⟨(some 31), .ld none (.tmp 30), (some (29, false))⟩,
  ⟨(some 32), .mv (.tmp 9), (some (29, false))⟩,
  ⟨(some 33), .iad 1 (.tmp 31) (.tmp 32), (some (29, false))⟩,
  ⟨(some 34), .ld none (.tmp 33), (some (29, false))⟩,
  ⟨(some 35), .bin .gtr (.tmp 34) (.const (.int .i64 0)), (some (29, false))⟩,
  ⟨(some 36), .pick (.tmp 29) (.const (.bool true)) (.tmp 35), none⟩,
  ⟨(some 8), .mv (.tmp 36), none⟩])))
 (.reg [⟨(some 14), .mv (.tmp 9), none⟩,
  ⟨(some 15), .bin .add (.tmp 14) (.const (.int .i64 1)), none⟩,
  ⟨(some 9), .mv (.tmp 15), none⟩]))))))
 (.seq (.seq (.reg [⟨(some 37), .mv (.tmp 8), none⟩,
  ⟨(some 38), .un .not (.tmp 37), none⟩])
 (.cond (.tmp 38) (.seq (.reg [⟨(some 6), .mv (.const (.int .i64 0)), none⟩])
 (.ret)) (.skip)))
 (.seq (.reg [⟨(some 39), .fad 1 (.tmp 3), none⟩,
  ⟨(some 40), .ld none (.tmp 39), none⟩,
  ⟨(some 41), .mv (.tmp 1), none⟩,
  ⟨(some 42), .iad 1 (.tmp 40) (.tmp 41), none⟩,
  ⟨(some 43), .ld none (.tmp 42), none⟩,
  ⟨(some 44), .mv (.tmp 7), none⟩,
  ⟨(some 45), .bin .add (.tmp 43) (.tmp 44), none⟩,
  ⟨(some 6), .mv (.tmp 45), none⟩])
 (.ret)))))
def r_spec_l3Span : List ARes := [.tmp 6]
theorem ok_spec_l3Span : FnOk Try.prog 75 46 c_spec_l3Span r_spec_l3Span := ⟨⟨Try.f75, _, Try.func75, by kernel_rfl, rfl, rfl, by kernel_rfl, by kernel_rfl⟩⟩
def c_spec_l1Least : ACode := .seq (.reg [⟨(some 4), .mv (.const (.int .i64 0)), none⟩])
 (.seq (.seq (.reg [⟨(some 5), .mv (.tmp 0), none⟩,
  ⟨(some 6), .mv (.tmp 1), none⟩,
  ⟨(some 7), .bin .lss (.tmp 5) (.tmp 6), none⟩])
 (.cond (.tmp 7) (.seq (.reg [⟨(some 8), .mv (.tmp 0), none⟩,
  ⟨(some 4), .mv (.tmp 8), none⟩])
 (.ret)) (.skip)))
 (.seq (.reg [⟨(some 9), .mv (.tmp 1), none⟩,
  ⟨(some 4), .mv (.tmp 9), none⟩])
 (.ret)))
def r_spec_l1Least : List ARes := [.tmp 4]
theorem ok_spec_l1Least : FnOk Try.prog 76 10 c_spec_l1Least r_spec_l1Least := ⟨⟨Try.f76, _, Try.func76, by kernel_rfl, rfl, rfl, by kernel_rfl, by kernel_rfl⟩⟩
def c_impl_CostParts : ACode := .seq (.reg [⟨(some 2), .box 28 (.tmp 0), none⟩,
  ⟨(some 4), .mv (.const (.int .i64 0)), none⟩,
  ⟨(some 5), .mv (.const (.int .i64 0)), none⟩,
  ⟨(some 6), .mv (.const (.int .i64 0)), none⟩,
  ⟨(some 7), .mv (.const (.bool false)), none⟩])
 (.seq (.reg [⟨(some 16), .ld (some 4) (.tmp 2), none⟩,
  ⟨(some 17), .mv (.tmp 1), none⟩,
  ⟨(some 18), .call (.func 90) [(.tmp 16), (.tmp 17)], none⟩,
  ⟨(some 15), .mv (.tmp 18), none⟩,
  ⟨(some 19), .ext 0 (.tmp 15), none⟩,
  ⟨(some 20), .ext 1 (.tmp 15), none⟩,
  ⟨(some 8), .mv (.tmp 19), none⟩,
  ⟨(some 9), .mv (.tmp 20), none⟩])
 (.seq (.seq (.reg [⟨(some 21), .mv (.tmp 9), none⟩,
  ⟨(some 22), .un .not (.tmp 21), none⟩])
 (.cond (.tmp 22) (.seq (.reg [⟨(some 4), .mv (.const (.int .i64 0)), none⟩,
  ⟨(some 5), .mv (.const (.int .i64 0)), none⟩,
  ⟨(some 6), .mv (.const (.int .i64 0)), none⟩,
  ⟨(some 7), .mv (.const (.bool false)), none⟩])
 (.ret)) (.skip)))
 (.seq (.reg [⟨(some 10), .mv (.const (.int .i64 0)), none⟩,
  ⟨(some 11), .mv (.const (.int .i64 0)), none⟩,
  ⟨(some 12), .mv (.const (.int .i64 0)), none⟩])
 (.seq (.seq (.reg [⟨(some 23), .mv (.tmp 1), none⟩,
  ⟨(some 24), .len (.tmp 23), none⟩,
  ⟨(some 25), .mv (.const (.int .i64 0)), none⟩])
 (.block 0 (.loop (.seq (.reg [⟨(some 26), .bin .lss (.tmp 25) (.tmp 24), none⟩])
 (.seq (.cond (.tmp 26) (.skip) (.exit 0))
 (.seq (.block 1 (.seq (.reg [⟨(some 27), .mv (.tmp 25), none⟩,
  ⟨(some 28), .iad 1 (.tmp 23) (.tmp 25), none⟩,
  ⟨(some 29), .ld none (.tmp 28), none⟩,
  ⟨(some 13), .mv (.tmp 27), none⟩,
  ⟨(some 14), .mv (.tmp 29), none⟩])
 (.seq (.seq (.reg [⟨(some 30), .mv (.tmp 14), none⟩,
  ⟨(some 31), .bin .gtr (.tmp 30) (.const (.int .i64 0)), none⟩])
 (.cond (.tmp 31) (.reg [⟨(some 32), .mv (.tmp 10), none⟩,
  ⟨(some 33), .fad 1 (.tmp 2), none⟩,
  ⟨(some 34), .ld none (.tmp 33), none⟩,
  ⟨(some 35), .mv (.tmp 13), none⟩,
  ⟨(some 36), .iad 1 (.tmp 34) (.tmp 35), none⟩,
  ⟨(some 37), .ld none (.tmp 36), none⟩,
  ⟨(some 38), .bin .add (.tmp 32) (.tmp 37), none⟩,
  ⟨(some 10), .mv (.tmp 38), none⟩]) (.skip)))
 (.seq (.reg [⟨(some 39), .mv (.tmp 11), none⟩,
  ⟨(some 40), .fad 2 (.tmp 2), none⟩,
  ⟨(some 41), .ld none (.tmp 40), none⟩,
  ⟨(some 42), .mv (.tmp 13), none⟩,
  ⟨(some 43), .iad 1 (.tmp 41) (.tmp 42), none⟩,
  ⟨(some 44), .ld none (.tmp 43), none⟩,
  ⟨(some 45), .mv (.tmp 14), none⟩,
  ⟨(some 46), .bin .mul (.tmp 44) (.tmp 45), none⟩,
  ⟨(some 47), .bin .add (.tmp 39) (.tmp 46), none⟩,
  ⟨(some 11), .mv (.tmp 47), none⟩])
 (.reg [⟨(some 48), .mv (.tmp 12), none⟩,
  ⟨(some 49), .fad 3 (.tmp 2), none⟩,
  ⟨(some 50), .ld none (.tmp 49), none⟩,
  ⟨(some 51), .mv (.tmp 13), none⟩,
  ⟨(some 52), .iad 1 (.tmp 50) (.tmp 51), none⟩,
  ⟨(some 53), .ld none (.tmp 52), none⟩,
  ⟨(some 54), .mv (.tmp 8), none⟩,
  ⟨(some 55), .mv (.tmp 13), none⟩,
  ⟨(some 56), .iad 1 (.tmp 54) (.tmp 55), none⟩,
  ⟨(some 57), .ld none (.tmp 56), none⟩,
  ⟨(some 58), .bin .mul (.tmp 53) (.tmp 57), none⟩,
  ⟨(some 59), .bin .add (.tmp 48) (.tmp 58), none⟩,
  ⟨(some 12), .mv (.tmp 59), none⟩])))))
 (.reg [⟨(some 60), .bin .add (.tmp 25) (.const (.int .i64 1)), none⟩,
  ⟨(some 25), .mv (.tmp 60), none⟩])))))))
 (.seq (.reg [⟨(some 61), .mv (.tmp 10), none⟩,
  ⟨(some 62), .mv (.tmp 11), none⟩,
  ⟨(some 63), .mv (.tmp 12), none⟩,
  ⟨(some 4), .mv (.tmp 61), none⟩,
  ⟨(some 5), .mv (.tmp 62), none⟩,
  ⟨(some 6), .mv (.tmp 63), none⟩,
  ⟨(some 7), .mv (.const (.bool true)), none⟩])
 (.ret))))))
def r_impl_CostParts : List ARes := [.tmp 4, .tmp 5, .tmp 6, .tmp 7]
theorem ok_impl_CostParts : FnOk Try.prog 77 64 c_impl_CostParts r_impl_CostParts := ⟨⟨Try.f77, _, Try.func77, by kernel_rfl, rfl, rfl, by kernel_rfl, by kernel_rfl⟩⟩
def c_spec_l1Most : ACode := .seq (.reg [⟨(some 4), .mv (.const (.int .i64 0)), none⟩])
 (.seq (.seq (.reg [⟨(some 5), .mv (.tmp 0), none⟩,
  ⟨(some 6), .mv (.tmp 1), none⟩,
  ⟨(some 7), .bin .gtr (.tmp 5) (.tmp 6), none⟩])
 (.cond (.tmp 7) (.seq (.reg [⟨(some 8), .mv (.tmp 0), none⟩,
  ⟨(some 4), .mv (.tmp 8), none⟩])
 (.ret)) (.skip)))
 (.seq (.reg [⟨(some 9), .mv (.tmp 1), none⟩,
  ⟨(some 4), .mv (.tmp 9), none⟩])
 (.ret)))
def r_spec_l1Most : List ARes := [.tmp 4]
theorem ok_spec_l1Most : FnOk Try.prog 78 10 c_spec_l1Most r_spec_l1Most := ⟨⟨Try.f78, _, Try.func78, by kernel_rfl, rfl, rfl, by kernel_rfl, by kernel_rfl⟩⟩
def c_spec_l3Rate : ACode := .seq (.reg [⟨(some 3), .box 28 (.tmp 0), none⟩,
  ⟨(some 6), .mv (.const (.int .i64 0)), none⟩])
 (.seq (.reg [⟨(some 9), .fad 2 (.tmp 3), none⟩,
  ⟨(some 10), .ld none (.tmp 9), none⟩,
  ⟨(some 11), .mv (.tmp 1), none⟩,
  ⟨(some 12), .iad 1 (.tmp 10) (.tmp 11), none⟩,
  ⟨(some 13), .ld none (.tmp 12), none⟩,
  ⟨(some 7), .mv (.tmp 13), none⟩])
 (.seq (.seq (.reg [⟨(some 14), .mv (.tmp 1), none⟩,
  ⟨(some 8), .mv (.tmp 14), none⟩])
 (.block 0 (.loop (.seq (.seq (.reg [⟨(some 15), .mv (.tmp 8), none⟩,
  ⟨(some 16), .mv (.tmp 2), none⟩,
  ⟨(some 17), .bin .lss (.tmp 15) (.tmp 16), none⟩])
 (.cond (.tmp 17) (.skip) (.exit 0)))
 (.seq (.block 1 (.reg [⟨(some 20), .mv (.tmp 7), none⟩,
  ⟨(some 21), .fad 3 (.tmp 3), none⟩,
  ⟨(some 22), .ld none (.tmp 21), none⟩,
  ⟨(some 23), .mv (.tmp 8), none⟩,
  ⟨(some 24), .iad 1 (.tmp 22) (.tmp 23), none⟩,
  ⟨(some 25), .ld none (.tmp 24), none⟩,
  ⟨(some 26), .bin .add (.tmp 20) (.tmp 25), none⟩,
  ⟨(some 7), .mv (.tmp 26), none⟩]))
 (.reg [⟨(some 18), .mv (.tmp 8), none⟩,
  ⟨(some 19), .bin .add (.tmp 18) (.const (.int .i64 1)), none⟩,
  ⟨(some 8), .mv (.tmp 19), none⟩]))))))
 (.seq (.reg [⟨(some 27), .mv (.tmp 7), none⟩,
  ⟨(some 6), .mv (.tmp 27), none⟩])
 (.ret))))
def r_spec_l3Rate : List ARes := [.tmp 6]
theorem ok_spec_l3Rate : FnOk Try.prog 79 28 c_spec_l3Rate r_spec_l3Rate := ⟨⟨Try.f79, _, Try.func79, by kernel_rfl, rfl, rfl, by kernel_rfl, by kernel_rfl⟩⟩
def c_impl_isRow_1 : ACode := .seq (.reg [⟨(some 3), .mv (.const (.bool false)), none⟩])
 (.seq (.reg [⟨(some 4), .mv (.tmp 0), none⟩,
  ⟨(some 5), .ld none (.tmp 1), none⟩,
  ⟨(some 6), .call (.func 81) [(.tmp 4), (.tmp 5)], none⟩,
  ⟨(some 7), .un .not (.tmp 6), none⟩,
  ⟨(some 3), .mv (.tmp 7), none⟩])
 (.ret))
def r_impl_isRow_1 : List ARes := [.tmp 3]
theorem ok_impl_isRow_1 : FnOk Try.prog 80 8 c_impl_isRow_1 r_impl_isRow_1 := ⟨⟨Try.f80, _, Try.func80, by kernel_rfl, rfl, rfl, by kernel_rfl, by kernel_rfl⟩⟩
def c_impl_isWithin : ACode := .seq (.reg [⟨(some 4), .mv (.const (.bool false)), none⟩])
 (.seq (.reg [⟨(some 5), .mv (.tmp 0), none⟩,
  ⟨(some 6), .bin .geq (.tmp 5) (.const (.int .i64 0)), none⟩,
  ⟨(some 7), .mv (.tmp 6), none⟩,
  ⟨(some 8), .mv (.tmp 0), (some (7, true))⟩,
  ⟨(some 9), .mv (.tmp 1), (some (7, true))⟩,
  ⟨(some 10), .bin .leq (.tmp 8) (.tmp 9), (some (7, true))⟩,
  ⟨(some 11), .pick (.tmp 7) (.tmp 10) (.const (.bool false)), none⟩,
  ⟨(some 4), .mv (.tmp 11), none⟩])
 (.ret))
def r_impl_isWithin : List ARes := [.tmp 4]
theorem ok_impl_isWithin : FnOk Try.prog 81 12 c_impl_isWithin r_impl_isWithin := ⟨⟨Try.f81, _, Try.func81, by kernel_rfl, rfl, rfl, by kernel_rfl, by kernel_rfl⟩⟩
def c_slices_ContainsFunc : ACode := .seq (.reg [⟨(some 4), .mv (.const (.bool false)), none⟩])
 (.seq (.reg [⟨(some 5), .mv (.tmp 0), none⟩,
  ⟨(some 6), .mv (.tmp 1), none⟩,
  ⟨(some 7), .call (.func 91) [(.tmp 5), (.tmp 6)], none⟩,
  ⟨(some 8), .bin .geq (.tmp 7) (.const (.int .i64 0)), none⟩,
  ⟨(some 4), .mv (.tmp 8), none⟩])
 (.ret))
def r_slices_ContainsFunc : List ARes := [.tmp 4]
theorem ok_slices_ContainsFunc : FnOk Try.prog 82 9 c_slices_ContainsFunc r_slices_ContainsFunc := ⟨⟨Try.f82, _, Try.func82, by kernel_rfl, rfl, rfl, by kernel_rfl, by kernel_rfl⟩⟩
def c_impl_rateFrom : ACode := .seq (.reg [⟨(some 3), .box 28 (.tmp 0), none⟩,
  ⟨(some 6), .mv (.const (.int .i64 0)), none⟩])
 (.seq (.reg [⟨(some 7), .fad 2 (.tmp 3), none⟩,
  ⟨(some 8), .ld none (.tmp 7), none⟩,
  ⟨(some 9), .mv (.tmp 1), none⟩,
  ⟨(some 10), .iad 1 (.tmp 8) (.tmp 9), none⟩,
  ⟨(some 11), .ld none (.tmp 10), none⟩,
  ⟨(some 12), .fad 3 (.tmp 3), none⟩,
  ⟨(some 13), .ld none (.tmp 12), none⟩,
  ⟨(some 14), .mv (.tmp 1), none⟩,
  ⟨(some 15), .mv (.tmp 2), none⟩,
  ⟨(some 16), .slc 1 (.tmp 13) (some (.tmp 14)) (some (.tmp 15)), none⟩,
  ⟨(some 17), .rcall (.func 46) [(.tmp 16)], none⟩,
  ⟨(some 18), .bin .add (.tmp 11) (.tmp 17), none⟩,
  ⟨(some 6), .mv (.tmp 18), none⟩])
 (.ret))
def r_impl_rateFrom : List ARes := [.tmp 6]
theorem ok_impl_rateFrom : FnOk Try.prog 83 19 c_impl_rateFrom r_impl_rateFrom := ⟨⟨Try.f83, _, Try.func83, by kernel_rfl, rfl, rfl, by kernel_rfl, by kernel_rfl⟩⟩
def c_spec_l2Plan : ACode := .seq (.reg [⟨(some 2), .box 28 (.tmp 0), none⟩,
  ⟨(some 4), .mv (.const (.bool false)), none⟩])
 (.seq (.seq (.reg [⟨(some 7), .mv (.tmp 1), none⟩,
  ⟨(some 8), .fad 0 (.tmp 2), none⟩,
  ⟨(some 9), .ld none (.tmp 8), none⟩,
  ⟨(some 10), .len (.tmp 9), none⟩,
  ⟨(some 11), .call (.func 61) [(.tmp 7), (.tmp 10), (.const (.int .i64 160))], none⟩,
  ⟨(some 12), .un .not (.tmp 11), none⟩])
 (.cond (.tmp 12) (.seq (.reg [⟨(some 4), .mv (.const (.bool false)), none⟩])
 (.ret)) (.skip)))
 (.seq (.reg [⟨(some 13), .ld (some 4) (.tmp 2), none⟩,
  ⟨(some 14), .mv (.tmp 1), none⟩,
  ⟨(some 15), .call (.func 89) [(.tmp 13), (.tmp 14)], none⟩,
  ⟨(some 5), .mv (.tmp 15), none⟩])
 (.seq (.seq (.reg [⟨(some 6), .mv (.const (.int .i64 0)), none⟩])
 (.block 0 (.loop (.seq (.seq (.reg [⟨(some 16), .mv (.tmp 6), none⟩,
  ⟨(some 17), .mv (.tmp 5), none⟩,
  ⟨(some 18), .len (.tmp 17), none⟩,
  ⟨(some 19), .bin .lss (.tmp 16) (.tmp 18), none⟩])
 (.cond (.tmp 19) (.skip) (.exit 0)))
 (.seq (.block 1 (.seq (.reg [⟨(some 22), .mv (.tmp 5), none⟩,
  ⟨(some 23), .mv (.tmp 6), none⟩,
  ⟨(some 24), .iad 1 (.tmp 22) (.tmp 23), none⟩,
  ⟨(some 25), .ld none (.tmp 24), none⟩,
  ⟨(some 26), .bin .lss (.tmp 25) (.const (.int .i64 0)), none⟩])
 (.cond (.tmp 26) (.seq (.reg [⟨(some 4), .mv (.const (.bool false)), none⟩])
 (.ret)) (.skip))))
 (.reg [⟨(some 20), .mv (.tmp 6), none⟩,
  ⟨(some 21), .bin .add (.tmp 20) (.const (.int .i64 1)), none⟩,
  ⟨(some 6), .mv (.tmp 21), none⟩]))))))
 (.seq (.reg [⟨(some 27), .mv (.tmp 5), none⟩,
  ⟨(some 28), .len (.tmp 27), none⟩,
  ⟨(some 29), .bin .eql (.tmp 28) (.const (.int .i64 0)), none⟩,
  ⟨(some 30), .mv (.tmp 29), none⟩,
  ⟨(some 31), .mv (.tmp 5), (some (30, false))⟩,
  ⟨(some 32), .mv (.tmp 5), (some (30, false))⟩,
  ⟨(some 33), .len (.tmp 32), (some (30, false))⟩,
  ⟨(some 34), .bin .sub (.tmp 33) (.const (.int .i64 1)), (some (30, false))⟩,
  ⟨(some 35), .iad 1 (.tmp 31) (.tmp 34), (some (30, false))⟩,
  ⟨(some 36), .ld none (.tmp 35), (some (30, false))⟩,
  ⟨(some 37), .bin .eql (.tmp 36) (.const (.int .i64 0)), (some (30, false))⟩,
  ⟨(some 38), .pick (.tmp 30) (.const (.bool true)) (.tmp 37), none⟩,
  ⟨(some 4), .mv (.tmp 38), none⟩])
 (.ret)))))
def r_spec_l2Plan : List ARes := [.tmp 4]
theorem ok_spec_l2Plan : FnOk Try.prog 84 39 c_spec_l2Plan r_spec_l2Plan := ⟨⟨Try.f84, _, Try.func84, by kernel_rfl, rfl, rfl, by kernel_rfl, by kernel_rfl⟩⟩
def c_impl_lotsFrom_1 : ACode := .seq (.reg [⟨(some 6), .alc 50 [(.int .i64 0), (.slice none 0 0)], none⟩])
 (.seq (.seq (.reg [⟨(some 15), .ld none (.tmp 1), none⟩,
  ⟨(some 16), .mv (.tmp 0), none⟩,
  ⟨(some 17), .lkp true (.agg #[(.int .i64 0), (.slice none 0 0)]) (.tmp 15) (.tmp 16), none⟩,
  ⟨(some 14), .mv (.tmp 17), none⟩,
  ⟨(some 18), .ext 0 (.tmp 14), none⟩,
  ⟨(some 19), .ext 1 (.tmp 14), none⟩,
  ⟨(some 7), .alc 50 [(.int .i64 0), (.slice none 0 0)], none⟩,
  ⟨none, .st 2 (.tmp 7) (.tmp 18), none⟩,
  ⟨(some 8), .mv (.tmp 19), none⟩])
 (.seq (.reg [⟨(some 20), .mv (.tmp 8), none⟩])
 (.cond (.tmp 20) (.seq (.reg [⟨(some 21), .ld (some 2) (.tmp 7), none⟩,
  ⟨none, .st 2 (.tmp 6) (.tmp 21), none⟩])
 (.ret)) (.skip))))
 (.seq (.reg [⟨(some 22), .ld (some 4) (.tmp 2), none⟩,
  ⟨(some 23), .mv (.tmp 0), none⟩,
  ⟨(some 24), .ld none (.tmp 3), none⟩,
  ⟨(some 25), .call (.func 70) [(.tmp 22), (.tmp 23), (.tmp 24)], none⟩,
  ⟨(some 26), .mv (.tmp 0), none⟩,
  ⟨(some 27), .bsl 3 1 1 [(.int .i64 0)] [(0, 1, (.tmp 26))], none⟩,
  ⟨(some 28), .bld [(.int .i64 0), (.slice none 0 0)] [(0, 1, (.tmp 25)), (1, 1, (.tmp 27))], none⟩,
  ⟨(some 9), .alc 50 [(.int .i64 0), (.slice none 0 0)], none⟩,
  ⟨none, .st 2 (.tmp 9) (.tmp 28), none⟩])
 (.seq (.seq (.reg [⟨(some 29), .mv (.tmp 0), none⟩,
  ⟨(some 30), .bin .add (.tmp 29) (.const (.int .i64 1)), none⟩,
  ⟨(some 10), .mv (.tmp 30), none⟩])
 (.block 0 (.loop (.seq (.seq (.reg [⟨(some 31), .mv (.tmp 10), none⟩,
  ⟨(some 32), .ld none (.tmp 3), none⟩,
  ⟨(some 33), .bin .lss (.tmp 31) (.tmp 32), none⟩])
 (.cond (.tmp 33) (.skip) (.exit 0)))
 (.seq (.block 1 (.seq (.reg [⟨(some 36), .ld none (.tmp 4), none⟩,
  ⟨(some 37), .mv (.tmp 10), none⟩,
  ⟨(some 38), .call (.tmp 36) [(.tmp 37)], none⟩,
  ⟨(some 11), .alc 50 [(.int .i64 0), (.slice none 0 0)], none⟩,
  ⟨none, .st 2 (.tmp 11) (.tmp 38), none⟩])
 (.seq (.reg [⟨(some 39), .mv (.tmp 0), none⟩,
  ⟨(some 40), .bsl 3 1 1 [(.int .i64 0)] [(0, 1, (.tmp 39))], none⟩,
  ⟨(some 41), .fad 1 (.tmp 11), none⟩,
  ⟨(some 42), .ld none (.tmp 41), none⟩,
  ⟨(some 43), .app 3 1 8 (.tmp 40) (.tmp 42), none⟩,
  ⟨(some 12), .mv (.tmp 43), none⟩])
 (.seq (.seq (.reg [⟨(some 44), .ld (some 4) (.tmp 2), none⟩]) (.seq (.reg [⟨(some 45), .mv (.tmp 0), none⟩]) (.seq (.reg [⟨(some 46), .mv (.tmp 10), none⟩]) (.seq (.reg [⟨(some 48), .fad 0 (.tmp 11), none⟩]) (.seq (.reg [⟨(some 49), .ld none (.tmp 48), none⟩]) (.seq (.reg [⟨(some 51), .mv (.tmp 12), none⟩]) (.both (.seq (.reg [⟨(some 47), .rcall (.func 70) [(.tmp 44), (.tmp 45), (.tmp 46)], none⟩]) (.seq (.reg [⟨(some 50), .bin .add (.tmp 47) (.tmp 49), none⟩]) (.seq (.reg [⟨(some 52), .bld [(.int .i64 0), (.slice none 0 0)] [(0, 1, (.tmp 50)), (1, 1, (.tmp 51))], none⟩]) (.seq (.reg [⟨(some 13), .alc 50 [(.int .i64 0), (.slice none 0 0)], none⟩]) (.seq (.reg [⟨none, .st 2 (.tmp 13) (.tmp 52), none⟩]) (.skip)))))) (.seq (.reg [⟨(some 13), .alc 50 [(.int .i64 0), (.slice none 0 0)], none⟩]) (.seq (.reg [⟨(some 47), .rcall (.func 70) [(.tmp 44), (.tmp 45), (.tmp 46)], none⟩]) (.seq (.reg [⟨(some 50), .bin .add (.tmp 47) (.tmp 49), none⟩]) (.seq (.reg [⟨(some 52), .bld [(.int .i64 0), (.slice none 0 0)] [(0, 1, (.tmp 50)), (1, 1, (.tmp 51))], none⟩]) (.seq (.reg [⟨none, .st 2 (.tmp 13) (.tmp 52), none⟩]) (.skip)))))))))))))
 (.seq (.reg [⟨(some 53), .ld (some 2) (.tmp 13), none⟩,
  ⟨(some 54), .ld (some 2) (.tmp 9), none⟩,
  ⟨(some 55), .call (.func 63) [(.tmp 53), (.tmp 54)], none⟩])
 (.cond (.tmp 55) (.reg [⟨(some 56), .ld (some 2) (.tmp 13), none⟩,
  ⟨none, .st 2 (.tmp 9) (.tmp 56), none⟩]) (.skip)))))))
 (.reg [⟨(some 34), .mv (.tmp 10), none⟩,
  ⟨(some 35), .bin .add (.tmp 34) (.const (.int .i64 1)), none⟩,
  ⟨(some 10), .mv (.tmp 35), none⟩]))))))
 (.seq (.reg [⟨(some 57), .ld none (.tmp 1), none⟩,
  ⟨(some 58), .mv (.tmp 0), none⟩,
  ⟨(some 59), .ld (some 2) (.tmp 9), none⟩,
  ⟨none, .mup (.tmp 57) (.tmp 58) (.tmp 59), none⟩])
 (.seq (.reg [⟨(some 60), .ld (some 2) (.tmp 9), none⟩,
  ⟨none, .st 2 (.tmp 6) (.tmp 60), none⟩])
 (.ret))))))
def r_impl_lotsFrom_1 : List ARes := [.cell 6 (some 2)]
theorem ok_impl_lotsFrom_1 : FnOk Try.prog 85 61 c_impl_lotsFrom_1 r_impl_lotsFrom_1 := ⟨⟨Try.f85, _, Try.func85, by kernel_rfl, rfl, rfl, by kernel_rfl, by kernel_rfl⟩⟩
def c_cmp_Or : ACode := .seq (.reg [⟨(some 2), .mv (.const (.int .i64 0)), none⟩])
 (.seq (.reg [⟨(some 3), .mv (.const (.int .i64 0)), none⟩])
 (.seq (.seq (.reg [⟨(some 6), .mv (.tmp 0), none⟩,
  ⟨(some 7), .len (.tmp 6), none⟩,
  ⟨(some 8), .mv (.const (.int .i64 0)), none⟩])
 (.block 0 (.loop (.seq (.reg [⟨(some 9), .bin .lss (.tmp 8) (.tmp 7), none⟩])
 (.seq (.cond (.tmp 9) (.skip) (.exit 0))
 (.seq (.block 1 (.seq (.reg [⟨(some 10), .iad 1 (.tmp 6) (.tmp 8), none⟩,
  ⟨(some 11), .ld none (.tmp 10), none⟩,
  ⟨(some 5), .mv (.tmp 11), none⟩])
 (.seq (.reg [⟨(some 12), .mv (.tmp 5), none⟩,
  ⟨(some 13), .mv (.tmp 3), none⟩,
  ⟨(some 14), .bin .neq (.tmp 12) (.tmp 13), none⟩])
 (.cond (.tmp 14) (.seq (.reg [⟨(some 15), .mv (.tmp 5), none⟩,
  ⟨(some 2), .mv (.tmp 15), none⟩])
 (.ret)) (.skip)))))
 (.reg [⟨(some 16), .bin .add (.tmp 8) (.const (.int .i64 1)), none⟩,
  ⟨(some 8), .mv (.tmp 16), none⟩])))))))
 (.seq (.reg [⟨(some 17), .mv (.tmp 3), none⟩,
  ⟨(some 2), .mv (.tmp 17), none⟩])
 (.ret))))
def r_cmp_Or : List ARes := [.tmp 2]
theorem ok_cmp_Or : FnOk Try.prog 86 18 c_cmp_Or r_cmp_Or := ⟨⟨Try.f86, _, Try.func86, by kernel_rfl, rfl, rfl, by kernel_rfl, by kernel_rfl⟩⟩
def c_cmp_Compare : ACode := .seq (.reg [⟨(some 4), .mv (.const (.int .i64 0)), none⟩])
 (.seq (.reg [⟨(some 7), .mv (.tmp 0), none⟩,
  ⟨(some 8), .call (.func 92) [(.tmp 7)], none⟩,
  ⟨(some 5), .mv (.tmp 8), none⟩])
 (.seq (.reg [⟨(some 9), .mv (.tmp 1), none⟩,
  ⟨(some 10), .call (.func 92) [(.tmp 9)], none⟩,
  ⟨(some 6), .mv (.tmp 10), none⟩])
 (.seq (.seq (.reg [⟨(some 11), .mv (.tmp 5), none⟩])
 (.cond (.tmp 11) (.seq (.seq (.reg [⟨(some 12), .mv (.tmp 6), none⟩])
 (.cond (.tmp 12) (.seq (.reg [⟨(some 4), .mv (.const (.int .i64 0)), none⟩])
 (.ret)) (.skip)))
 (.seq (.reg [⟨(some 4), .mv (.const (.int .i64 (-1))), none⟩])
 (.ret))) (.skip)))
 (.seq (.seq (.reg [⟨(some 13), .mv (.tmp 6), none⟩])
 (.cond (.tmp 13) (.seq (.reg [⟨(some 4), .mv (.const (.int .i64 1)), none⟩])
 (.ret)) (.skip)))
 (.seq (.seq (.reg [⟨(some 14), .mv (.tmp 0), none⟩,
  ⟨(some 15), .mv (.tmp 1), none⟩,
  ⟨(some 16), .bin .lss (.tmp 14) (.tmp 15), none⟩])
 (.cond (.tmp 16) (.seq (.reg [⟨(some 4), .mv (.const (.int .i64 (-1))), none⟩])
 (.ret)) (.skip)))
 (.seq (.seq (.reg [⟨(some 17), .mv (.tmp 0), none⟩,
  ⟨(some 18), .mv (.tmp 1), none⟩,
  ⟨(some 19), .bin .gtr (.tmp 17) (.tmp 18), none⟩])
 (.cond (.tmp 19) (.seq (.reg [⟨(some 4), .mv (.const (.int .i64 1)), none⟩])
 (.ret)) (.skip)))
 (.seq (.reg [⟨(some 4), .mv (.const (.int .i64 0)), none⟩])
 (.ret))))))))
def r_cmp_Compare : List ARes := [.tmp 4]
theorem ok_cmp_Compare : FnOk Try.prog 87 20 c_cmp_Compare r_cmp_Compare := ⟨⟨Try.f87, _, Try.func87, by kernel_rfl, rfl, rfl, by kernel_rfl, by kernel_rfl⟩⟩
def c_slices_Compare : ACode := .seq (.reg [⟨(some 4), .mv (.const (.int .i64 0)), none⟩])
 (.seq (.seq (.reg [⟨(some 9), .mv (.tmp 0), none⟩,
  ⟨(some 10), .len (.tmp 9), none⟩,
  ⟨(some 11), .mv (.const (.int .i64 0)), none⟩])
 (.block 0 (.loop (.seq (.reg [⟨(some 12), .bin .lss (.tmp 11) (.tmp 10), none⟩])
 (.seq (.cond (.tmp 12) (.skip) (.exit 0))
 (.seq (.block 1 (.seq (.reg [⟨(some 13), .mv (.tmp 11), none⟩,
  ⟨(some 14), .iad 1 (.tmp 9) (.tmp 11), none⟩,
  ⟨(some 15), .ld none (.tmp 14), none⟩,
  ⟨(some 5), .mv (.tmp 13), none⟩,
  ⟨(some 6), .mv (.tmp 15), none⟩])
 (.seq (.seq (.reg [⟨(some 16), .mv (.tmp 5), none⟩,
  ⟨(some 17), .mv (.tmp 1), none⟩,
  ⟨(some 18), .len (.tmp 17), none⟩,
  ⟨(some 19), .bin .geq (.tmp 16) (.tmp 18), none⟩])
 (.cond (.tmp 19) (.seq (.reg [⟨(some 4), .mv (.const (.int .i64 1)), none⟩])
 (.ret)) (.skip)))
 (.seq (.reg [⟨(some 20), .mv (.tmp 1), none⟩,
  ⟨(some 21), .mv (.tmp 5), none⟩,
  ⟨(some 22), .iad 1 (.tmp 20) (.tmp 21), none⟩,
  ⟨(some 23), .ld none (.tmp 22), none⟩,
  ⟨(some 7), .mv (.tmp 23), none⟩])
 (.seq (.reg [⟨(some 24), .mv (.tmp 6), none⟩,
  ⟨(some 25), .mv (.tmp 7), none⟩,
  ⟨(some 26), .call (.func 87) [(.tmp 24), (.tmp 25)], none⟩,
  ⟨(some 8), .mv (.tmp 26), none⟩])
 (.seq (.reg [⟨(some 27), .mv (.tmp 8), none⟩,
  ⟨(some 28), .bin .neq (.tmp 27) (.const (.int .i64 0)), none⟩])
 (.cond (.tmp 28) (.seq (.reg [⟨(some 29), .mv (.tmp 8), none⟩,
  ⟨(some 4), .mv (.tmp 29), none⟩])
 (.ret)) (.skip))))))))
 (.reg [⟨(some 30), .bin .add (.tmp 11) (.const (.int .i64 1)), none⟩,
  ⟨(some 11), .mv (.tmp 30), none⟩])))))))
 (.seq (.seq (.reg [⟨(some 31), .mv (.tmp 0), none⟩,
  ⟨(some 32), .len (.tmp 31), none⟩,
  ⟨(some 33), .mv (.tmp 1), none⟩,
  ⟨(some 34), .len (.tmp 33), none⟩,
  ⟨(some 35), .bin .lss (.tmp 32) (.tmp 34), none⟩])
 (.cond (.tmp 35) (.seq (.reg [⟨(some 4), .mv (.const (.int .i64 (-1))), none⟩])
 (.ret)) (.skip)))
 (.seq (.reg [⟨(some 4), .mv (.const (.int .i64 0)), none⟩])
 (.ret))))
def r_slices_Compare : List ARes := [.tmp 4]
theorem ok_slices_Compare : FnOk Try.prog 88 36 c_slices_Compare r_slices_Compare := ⟨⟨Try.f88, _, Try.func88, by kernel_rfl, rfl, rfl, by kernel_rfl, by kernel_rfl⟩⟩
def c_spec_l2Stocks : ACode := .seq (.reg [⟨(some 2), .box 28 (.tmp 0), none⟩,
  ⟨(some 4), .mv (.const (.slice none 0 0)), none⟩])
 (.seq (.reg [⟨(some 8), .bsl 3 1 0 [] [], none⟩,
  ⟨(some 5), .mv (.tmp 8), none⟩,
  ⟨(some 6), .mv (.const (.int .i64 0)), none⟩])
 (.seq (.seq (.reg [⟨(some 7), .mv (.const (.int .i64 0)), none⟩])
 (.block 0 (.loop (.seq (.seq (.reg [⟨(some 9), .mv (.tmp 7), none⟩,
  ⟨(some 10), .mv (.tmp 1), none⟩,
  ⟨(some 11), .len (.tmp 10), none⟩,
  ⟨(some 12), .bin .lss (.tmp 9) (.tmp 11), none⟩])
 (.cond (.tmp 12) (.skip) (.exit 0)))
 (.seq (.block 1 (.seq (.reg [⟨(some 15), .mv (.tmp 6), none⟩,
  ⟨(some 16), .mv (.tmp 1), none⟩,
  ⟨(some 17), .mv (.tmp 7), none⟩,
  ⟨(some 18), .iad 1 (.tmp 16) (.tmp 17), none⟩,
  ⟨(some 19), .ld none (.tmp 18), none⟩,
  ⟨(some 20), .bin .add (.tmp 15) (.tmp 19), none⟩,
  ⟨(some 21), .fad 0 (.tmp 2), none⟩,
  ⟨(some 22), .ld none (.tmp 21), none⟩,
  ⟨(some 23), .mv (.tmp 7), none⟩,
  ⟨(some 24), .iad 1 (.tmp 22) (.tmp 23), none⟩,
  ⟨(some 25), .ld none (.tmp 24), none⟩,
  ⟨(some 26), .bin .sub (.tmp 20) (.tmp 25), none⟩,
  ⟨(some 6), .mv (.tmp 26), none⟩])
 (.reg [⟨(some 27), .mv (.tmp 5), none⟩,
  ⟨(some 28), .mv (.tmp 6), none⟩,
  ⟨(some 29), .bsl 3 1 1 [(.int .i64 0)] [(0, 1, (.tmp 28))], none⟩,
  ⟨(some 30), .app 3 1 8 (.tmp 27) (.tmp 29), none⟩,
  ⟨(some 5), .mv (.tmp 30), none⟩])))
 (.reg [⟨(some 13), .mv (.tmp 7), none⟩,
  ⟨(some 14), .bin .add (.tmp 13) (.const (.int .i64 1)), none⟩,
  ⟨(some 7), .mv (.tmp 14), none⟩]))))))
 (.seq (.reg [⟨(some 31), .mv (.tmp 5), none⟩,
  ⟨(some 4), .mv (.tmp 31), none⟩])
 (.ret))))
def r_spec_l2Stocks : List ARes := [.tmp 4]
theorem ok_spec_l2Stocks : FnOk Try.prog 89 32 c_spec_l2Stocks r_spec_l2Stocks := ⟨⟨Try.f89, _, Try.func89, by kernel_rfl, rfl, rfl, by kernel_rfl, by kernel_rfl⟩⟩
def c_impl_StocksOf : ACode := .seq (.reg [⟨(some 2), .box 28 (.tmp 0), none⟩,
  ⟨(some 4), .mv (.const (.slice none 0 0)), none⟩,
  ⟨(some 5), .mv (.const (.bool false)), none⟩])
 (.seq (.seq (.reg [⟨(some 6), .ld (some 4) (.tmp 2), none⟩,
  ⟨(some 7), .call (.func 38) [(.tmp 6)], none⟩,
  ⟨(some 8), .un .not (.tmp 7), none⟩])
 (.cond (.tmp 8) (.seq (.reg [⟨(some 9), .bsl 3 1 0 [] [], none⟩,
  ⟨(some 4), .mv (.tmp 9), none⟩,
  ⟨(some 5), .mv (.const (.bool false)), none⟩])
 (.ret)) (.skip)))
 (.seq (.reg [⟨(some 10), .fad 0 (.tmp 2), none⟩,
  ⟨(some 11), .ld none (.tmp 10), none⟩,
  ⟨(some 12), .mv (.tmp 1), none⟩,
  ⟨(some 13), .call (.func 93) [(.tmp 11), (.tmp 12)], none⟩,
  ⟨(some 14), .ext 0 (.tmp 13), none⟩,
  ⟨(some 15), .ext 1 (.tmp 13), none⟩,
  ⟨(some 4), .mv (.tmp 14), none⟩,
  ⟨(some 5), .mv (.tmp 15), none⟩])
 (.ret)))
def r_impl_StocksOf : List ARes := [.tmp 4, .tmp 5]
theorem ok_impl_StocksOf : FnOk Try.prog 90 16 c_impl_StocksOf r_impl_StocksOf := ⟨⟨Try.f90, _, Try.func90, by kernel_rfl, rfl, rfl, by kernel_rfl, by kernel_rfl⟩⟩
def c_slices_IndexFunc : ACode := .seq (.reg [⟨(some 4), .mv (.const (.int .i64 0)), none⟩])
 (.seq (.seq (.reg [⟨(some 6), .mv (.tmp 0), none⟩,
  ⟨(some 7), .len (.tmp 6), none⟩,
  ⟨(some 8), .mv (.const (.int .i64 0)), none⟩])
 (.block 0 (.loop (.seq (.reg [⟨(some 9), .bin .lss (.tmp 8) (.tmp 7), none⟩])
 (.seq (.cond (.tmp 9) (.skip) (.exit 0))
 (.seq (.block 1 (.seq (.reg [⟨(some 10), .mv (.tmp 8), none⟩,
  ⟨(some 5), .mv (.tmp 10), none⟩])
 (.seq (.reg [⟨(some 11), .mv (.tmp 1), none⟩,
  ⟨(some 12), .mv (.tmp 0), none⟩,
  ⟨(some 13), .mv (.tmp 5), none⟩,
  ⟨(some 14), .iad 1 (.tmp 12) (.tmp 13), none⟩,
  ⟨(some 15), .ld none (.tmp 14), none⟩,
  ⟨(some 16), .call (.tmp 11) [(.tmp 15)], none⟩])
 (.cond (.tmp 16) (.seq (.reg [⟨(some 17), .mv (.tmp 5), none⟩,
  ⟨(some 4), .mv (.tmp 17), none⟩])
 (.ret)) (.skip)))))
 (.reg [⟨(some 18), .bin .add (.tmp 8) (.const (.int .i64 1)), none⟩,
  ⟨(some 8), .mv (.tmp 18), none⟩])))))))
 (.seq (.reg [⟨(some 4), .mv (.const (.int .i64 (-1))), none⟩])
 (.ret)))
def r_slices_IndexFunc : List ARes := [.tmp 4]
theorem ok_slices_IndexFunc : FnOk Try.prog 91 19 c_slices_IndexFunc r_slices_IndexFunc := ⟨⟨Try.f91, _, Try.func91, by kernel_rfl, rfl, rfl, by kernel_rfl, by kernel_rfl⟩⟩
def c_cmp_isNaN : ACode := .seq (.reg [⟨(some 2), .mv (.const (.bool false)), none⟩])
 (.seq (.reg [⟨(some 3), .mv (.tmp 0), none⟩,
  ⟨(some 4), .mv (.tmp 0), none⟩,
  ⟨(some 5), .bin .neq (.tmp 3) (.tmp 4), none⟩,
  ⟨(some 2), .mv (.tmp 5), none⟩])
 (.ret))
def r_cmp_isNaN : List ARes := [.tmp 2]
theorem ok_cmp_isNaN : FnOk Try.prog 92 6 c_cmp_isNaN r_cmp_isNaN := ⟨⟨Try.f92, _, Try.func92, by kernel_rfl, rfl, rfl, by kernel_rfl, by kernel_rfl⟩⟩
def c_impl_stocksFor : ACode := .seq (.reg [⟨(some 4), .mv (.const (.slice none 0 0)), none⟩,
  ⟨(some 5), .mv (.const (.bool false)), none⟩])
 (.seq (.reg [⟨(some 9), .mv (.tmp 0), none⟩,
  ⟨(some 10), .mv (.tmp 1), none⟩,
  ⟨(some 11), .call (.func 94) [(.tmp 9), (.tmp 10)], none⟩,
  ⟨(some 8), .mv (.tmp 11), none⟩,
  ⟨(some 12), .ext 0 (.tmp 8), none⟩,
  ⟨(some 13), .ext 1 (.tmp 8), none⟩,
  ⟨(some 6), .mv (.tmp 12), none⟩,
  ⟨(some 7), .mv (.tmp 13), none⟩])
 (.seq (.seq (.reg [⟨(some 14), .mv (.tmp 7), none⟩,
  ⟨(some 15), .un .not (.tmp 14), none⟩,
  ⟨(some 16), .mv (.tmp 15), none⟩,
  ⟨(some 17), .mv (.tmp 6), (some (16, false))⟩,
  ⟨(some 18), .call (.func 82) [(.tmp 17), (.func 95)], (some (16, false))⟩,
  ⟨(some 19), .pick (.tmp 16) (.const (.bool true)) (.tmp 18), none⟩])
 (.cond (.tmp 19) (.seq (.reg [⟨(some 20), .bsl 3 1 0 [] [], none⟩,
  ⟨(some 4), .mv (.tmp 20), none⟩,
  ⟨(some 5), .mv (.const (.bool false)), none⟩])
 (.ret)) (.skip)))
 (.seq (.reg [⟨(some 21), .mv (.tmp 6), none⟩,
  ⟨(some 4), .mv (.tmp 21), none⟩,
  ⟨(some 5), .mv (.const (.bool true)), none⟩])
 (.ret))))
def r_impl_stocksFor : List ARes := [.tmp 4, .tmp 5]
theorem ok_impl_stocksFor : FnOk Try.prog 93 22 c_impl_stocksFor r_impl_stocksFor := ⟨⟨Try.f93, _, Try.func93, by kernel_rfl, rfl, rfl, by kernel_rfl, by kernel_rfl⟩⟩
def c_impl_balancesFor : ACode := .seq (.reg [⟨(some 4), .mv (.const (.slice none 0 0)), none⟩,
  ⟨(some 5), .mv (.const (.bool false)), none⟩])
 (.seq (.seq (.reg [⟨(some 10), .mv (.tmp 1), none⟩,
  ⟨(some 11), .mv (.tmp 0), none⟩,
  ⟨(some 12), .len (.tmp 11), none⟩,
  ⟨(some 13), .mv (.tmp 0), none⟩,
  ⟨(some 14), .call (.func 46) [(.tmp 13)], none⟩,
  ⟨(some 15), .call (.func 56) [(.tmp 10), (.tmp 12), (.tmp 14)], none⟩,
  ⟨(some 16), .un .not (.tmp 15), none⟩])
 (.cond (.tmp 16) (.seq (.reg [⟨(some 17), .bsl 3 1 0 [] [], none⟩,
  ⟨(some 4), .mv (.tmp 17), none⟩,
  ⟨(some 5), .mv (.const (.bool false)), none⟩])
 (.ret)) (.skip)))
 (.seq (.reg [⟨(some 6), .mv (.const (.int .i64 0)), none⟩])
 (.seq (.reg [⟨(some 18), .bsl 3 1 0 [] [], none⟩,
  ⟨(some 7), .mv (.tmp 18), none⟩])
 (.seq (.seq (.reg [⟨(some 19), .mv (.tmp 1), none⟩,
  ⟨(some 20), .len (.tmp 19), none⟩,
  ⟨(some 21), .mv (.const (.int .i64 0)), none⟩])
 (.block 0 (.loop (.seq (.reg [⟨(some 22), .bin .lss (.tmp 21) (.tmp 20), none⟩])
 (.seq (.cond (.tmp 22) (.skip) (.exit 0))
 (.seq (.block 1 (.seq (.reg [⟨(some 23), .mv (.tmp 21), none⟩,
  ⟨(some 24), .iad 1 (.tmp 19) (.tmp 21), none⟩,
  ⟨(some 25), .ld none (.tmp 24), none⟩,
  ⟨(some 8), .mv (.tmp 23), none⟩,
  ⟨(some 9), .mv (.tmp 25), none⟩])
 (.seq (.reg [⟨(some 26), .mv (.tmp 6), none⟩,
  ⟨(some 27), .mv (.tmp 9), none⟩,
  ⟨(some 28), .mv (.tmp 0), none⟩,
  ⟨(some 29), .mv (.tmp 8), none⟩,
  ⟨(some 30), .iad 1 (.tmp 28) (.tmp 29), none⟩,
  ⟨(some 31), .ld none (.tmp 30), none⟩,
  ⟨(some 32), .bin .sub (.tmp 27) (.tmp 31), none⟩,
  ⟨(some 33), .bin .add (.tmp 26) (.tmp 32), none⟩,
  ⟨(some 6), .mv (.tmp 33), none⟩])
 (.reg [⟨(some 34), .mv (.tmp 7), none⟩,
  ⟨(some 35), .mv (.tmp 6), none⟩,
  ⟨(some 36), .bsl 3 1 1 [(.int .i64 0)] [(0, 1, (.tmp 35))], none⟩,
  ⟨(some 37), .app 3 1 8 (.tmp 34) (.tmp 36), none⟩,
  ⟨(some 7), .mv (.tmp 37), none⟩]))))
 (.reg [⟨(some 38), .bin .add (.tmp 21) (.const (.int .i64 1)), none⟩,
  ⟨(some 21), .mv (.tmp 38), none⟩])))))))
 (.seq (.seq (.reg [⟨(some 39), .mv (.tmp 6), none⟩,
  ⟨(some 40), .bin .neq (.tmp 39) (.const (.int .i64 0)), none⟩])
 (.cond (.tmp 40) (.seq (.reg [⟨(some 41), .bsl 3 1 0 [] [], none⟩,
  ⟨(some 4), .mv (.tmp 41), none⟩,
  ⟨(some 5), .mv (.const (.bool false)), none⟩])
 (.ret)) (.skip)))
 (.seq (.reg [⟨(some 42), .mv (.tmp 7), none⟩,
  ⟨(some 4), .mv (.tmp 42), none⟩,
  ⟨(some 5), .mv (.const (.bool true)), none⟩])
 (.ret)))))))
def r_impl_balancesFor : List ARes := [.tmp 4, .tmp 5]
theorem ok_impl_balancesFor : FnOk Try.prog 94 43 c_impl_balancesFor r_impl_balancesFor := ⟨⟨Try.f94, _, Try.func94, by kernel_rfl, rfl, rfl, by kernel_rfl, by kernel_rfl⟩⟩
def c_impl_isOwed : ACode := .seq (.reg [⟨(some 2), .mv (.const (.bool false)), none⟩])
 (.seq (.reg [⟨(some 3), .mv (.tmp 0), none⟩,
  ⟨(some 4), .bin .lss (.tmp 3) (.const (.int .i64 0)), none⟩,
  ⟨(some 2), .mv (.tmp 4), none⟩])
 (.ret))
def r_impl_isOwed : List ARes := [.tmp 2]
theorem ok_impl_isOwed : FnOk Try.prog 95 5 c_impl_isOwed r_impl_isOwed := ⟨⟨Try.f95, _, Try.func95, by kernel_rfl, rfl, rfl, by kernel_rfl, by kernel_rfl⟩⟩
end Go.Proofs.Ytonpeflncnccdaa.Ab
