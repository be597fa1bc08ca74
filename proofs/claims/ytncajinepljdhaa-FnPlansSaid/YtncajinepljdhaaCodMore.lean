/- The compiled forms of functions, each checked against the translation. -/
import Derived.Test.YtncajinepljdhaaAb2
import Derived.Test.YtncajinepljdhaaProg
namespace Go.Proofs.Ytncajinepljdhaa.Ab
open Go Go.RowKit Go.Proofs
set_option maxRecDepth 100000
def c_spec_LastOrders : ACode := .seq (.reg [⟨(some 1), .box 26 (.tmp 0), none⟩,
  ⟨(some 2), .mv (.const (.slice none 0 0)), none⟩,
  ⟨(some 3), .mv (.const (.bool false)), none⟩])
 (.seq (.seq (.reg [⟨(some 6), .ld (some 4) (.tmp 1), none⟩,
  ⟨(some 7), .call (.func 129) [(.tmp 6)], none⟩,
  ⟨(some 8), .un .not (.tmp 7), none⟩])
 (.cond (.tmp 8) (.seq (.reg [⟨(some 9), .bsl 3 1 0 [] [], none⟩,
  ⟨(some 2), .mv (.tmp 9), none⟩,
  ⟨(some 3), .mv (.const (.bool false)), none⟩])
 (.ret)) (.skip)))
 (.seq (.reg [⟨(some 11), .ld (some 4) (.tmp 1), none⟩,
  ⟨(some 12), .call (.func 130) [(.tmp 11)], none⟩,
  ⟨(some 10), .mv (.tmp 12), none⟩,
  ⟨(some 13), .ext 0 (.tmp 10), none⟩,
  ⟨(some 14), .ext 1 (.tmp 10), none⟩,
  ⟨(some 4), .mv (.tmp 13), none⟩,
  ⟨(some 5), .mv (.tmp 14), none⟩])
 (.seq (.reg [⟨(some 15), .mv (.tmp 5), none⟩,
  ⟨(some 2), .mv (.tmp 15), none⟩,
  ⟨(some 3), .mv (.const (.bool true)), none⟩])
 (.ret))))
def r_spec_LastOrders : List ARes := [.tmp 2, .tmp 3]
theorem ok_spec_LastOrders : FnOk Try.prog 35 16 c_spec_LastOrders r_spec_LastOrders := ⟨⟨Try.f35, _, Try.func35, by kernel_rfl, rfl, rfl, by kernel_rfl, by kernel_rfl⟩⟩
def c_spec_LotForLot : ACode := .seq (.reg [⟨(some 1), .box 26 (.tmp 0), none⟩,
  ⟨(some 2), .mv (.const (.slice none 0 0)), none⟩,
  ⟨(some 3), .mv (.const (.bool false)), none⟩])
 (.seq (.seq (.reg [⟨(some 4), .ld (some 4) (.tmp 1), none⟩,
  ⟨(some 5), .call (.func 129) [(.tmp 4)], none⟩,
  ⟨(some 6), .un .not (.tmp 5), none⟩])
 (.cond (.tmp 6) (.seq (.reg [⟨(some 7), .bsl 3 1 0 [] [], none⟩,
  ⟨(some 2), .mv (.tmp 7), none⟩,
  ⟨(some 3), .mv (.const (.bool false)), none⟩])
 (.ret)) (.skip)))
 (.seq (.reg [⟨(some 8), .fad 0 (.tmp 1), none⟩,
  ⟨(some 9), .ld none (.tmp 8), none⟩,
  ⟨(some 10), .call (.func 179) [(.tmp 9)], none⟩,
  ⟨(some 2), .mv (.tmp 10), none⟩,
  ⟨(some 3), .mv (.const (.bool true)), none⟩])
 (.ret)))
def r_spec_LotForLot : List ARes := [.tmp 2, .tmp 3]
theorem ok_spec_LotForLot : FnOk Try.prog 82 11 c_spec_LotForLot r_spec_LotForLot := ⟨⟨Try.f82, _, Try.func82, by kernel_rfl, rfl, rfl, by kernel_rfl, by kernel_rfl⟩⟩
def c_spec_LimitedPlan : ACode := .seq (.reg [⟨(some 2), .box 26 (.tmp 0), none⟩,
  ⟨(some 4), .mv (.const (.slice none 0 0)), none⟩,
  ⟨(some 5), .mv (.const (.bool false)), none⟩])
 (.seq (.seq (.reg [⟨(some 6), .ld (some 4) (.tmp 2), none⟩,
  ⟨(some 7), .mv (.tmp 1), none⟩,
  ⟨(some 8), .call (.func 189) [(.tmp 6), (.tmp 7)], none⟩,
  ⟨(some 9), .un .not (.tmp 8), none⟩])
 (.cond (.tmp 9) (.seq (.reg [⟨(some 10), .bsl 3 1 0 [] [], none⟩,
  ⟨(some 4), .mv (.tmp 10), none⟩,
  ⟨(some 5), .mv (.const (.bool false)), none⟩])
 (.ret)) (.skip)))
 (.seq (.reg [⟨(some 11), .ld (some 4) (.tmp 2), none⟩,
  ⟨(some 12), .ld (some 4) (.tmp 2), none⟩,
  ⟨(some 13), .mv (.tmp 1), none⟩,
  ⟨(some 14), .rcall (.func 191) [(.tmp 12), (.tmp 13)], none⟩,
  ⟨(some 15), .rcall (.func 190) [(.tmp 11), (.tmp 14)], none⟩,
  ⟨(some 4), .mv (.tmp 15), none⟩,
  ⟨(some 5), .mv (.const (.bool true)), none⟩])
 (.ret)))
def r_spec_LimitedPlan : List ARes := [.tmp 4, .tmp 5]
theorem ok_spec_LimitedPlan : FnOk Try.prog 85 16 c_spec_LimitedPlan r_spec_LimitedPlan := ⟨⟨Try.f85, _, Try.func85, by kernel_rfl, rfl, rfl, by kernel_rfl, by kernel_rfl⟩⟩
def c_spec_LimitedCost : ACode := .seq (.reg [⟨(some 2), .box 26 (.tmp 0), none⟩,
  ⟨(some 4), .mv (.const (.int .i64 0)), none⟩,
  ⟨(some 5), .mv (.const (.bool false)), none⟩])
 (.seq (.seq (.reg [⟨(some 6), .ld (some 4) (.tmp 2), none⟩,
  ⟨(some 7), .mv (.tmp 1), none⟩,
  ⟨(some 8), .call (.func 189) [(.tmp 6), (.tmp 7)], none⟩,
  ⟨(some 9), .un .not (.tmp 8), none⟩])
 (.cond (.tmp 9) (.seq (.reg [⟨(some 4), .mv (.const (.int .i64 0)), none⟩,
  ⟨(some 5), .mv (.const (.bool false)), none⟩])
 (.ret)) (.skip)))
 (.seq (.reg [⟨(some 10), .ld (some 4) (.tmp 2), none⟩,
  ⟨(some 11), .mv (.tmp 1), none⟩,
  ⟨(some 12), .call (.func 191) [(.tmp 10), (.tmp 11)], none⟩,
  ⟨(some 13), .iad 1 (.tmp 12) (.const (.int .i64 0)), none⟩,
  ⟨(some 14), .ld none (.tmp 13), none⟩,
  ⟨(some 15), .iad 1 (.tmp 14) (.const (.int .i64 0)), none⟩,
  ⟨(some 16), .ld none (.tmp 15), none⟩,
  ⟨(some 4), .mv (.tmp 16), none⟩,
  ⟨(some 5), .mv (.const (.bool true)), none⟩])
 (.ret)))
def r_spec_LimitedCost : List ARes := [.tmp 4, .tmp 5]
theorem ok_spec_LimitedCost : FnOk Try.prog 87 17 c_spec_LimitedCost r_spec_LimitedCost := ⟨⟨Try.f87, _, Try.func87, by kernel_rfl, rfl, rfl, by kernel_rfl, by kernel_rfl⟩⟩
def c_spec_LatestStart : ACode := .seq (.reg [⟨(some 2), .box 26 (.tmp 0), none⟩,
  ⟨(some 4), .mv (.const (.slice none 0 0)), none⟩,
  ⟨(some 5), .mv (.const (.bool false)), none⟩])
 (.seq (.seq (.reg [⟨(some 9), .ld (some 4) (.tmp 2), none⟩,
  ⟨(some 10), .mv (.tmp 1), none⟩,
  ⟨(some 11), .call (.func 189) [(.tmp 9), (.tmp 10)], none⟩,
  ⟨(some 12), .un .not (.tmp 11), none⟩])
 (.cond (.tmp 12) (.seq (.reg [⟨(some 13), .bsl 3 1 0 [] [], none⟩,
  ⟨(some 4), .mv (.tmp 13), none⟩,
  ⟨(some 5), .mv (.const (.bool false)), none⟩])
 (.ret)) (.skip)))
 (.seq (.reg [⟨(some 14), .mv (.tmp 1), none⟩,
  ⟨(some 15), .len (.tmp 14), none⟩,
  ⟨(some 16), .mks 3 8 [(.int .i64 0)] (.tmp 15) (.tmp 15), none⟩,
  ⟨(some 6), .mv (.tmp 16), none⟩,
  ⟨(some 7), .mv (.const (.int .i64 0)), none⟩])
 (.seq (.seq (.reg [⟨(some 17), .mv (.tmp 1), none⟩,
  ⟨(some 18), .len (.tmp 17), none⟩,
  ⟨(some 19), .bin .sub (.tmp 18) (.const (.int .i64 1)), none⟩,
  ⟨(some 8), .mv (.tmp 19), none⟩])
 (.block 0 (.loop (.seq (.seq (.reg [⟨(some 20), .mv (.tmp 8), none⟩,
  ⟨(some 21), .bin .geq (.tmp 20) (.const (.int .i64 0)), none⟩])
 (.cond (.tmp 21) (.skip) (.exit 0)))
 (.seq (.block 1 (.seq (.reg [⟨(some 24), .mv (.tmp 7), none⟩,
  ⟨(some 25), .fad 0 (.tmp 2), none⟩,
  ⟨(some 26), .ld none (.tmp 25), none⟩,
  ⟨(some 27), .mv (.tmp 8), none⟩,
  ⟨(some 28), .iad 1 (.tmp 26) (.tmp 27), none⟩,
  ⟨(some 29), .ld none (.tmp 28), none⟩,
  ⟨(some 30), .bin .add (.tmp 24) (.tmp 29), none⟩,
  ⟨(some 7), .mv (.tmp 30), none⟩])
 (.seq (.reg [⟨(some 31), .mv (.tmp 6), none⟩,
  ⟨(some 32), .mv (.tmp 8), none⟩,
  ⟨(some 33), .mv (.tmp 7), none⟩,
  ⟨(some 34), .mv (.tmp 1), none⟩,
  ⟨(some 35), .mv (.tmp 8), none⟩,
  ⟨(some 36), .iad 1 (.tmp 34) (.tmp 35), none⟩,
  ⟨(some 37), .ld none (.tmp 36), none⟩,
  ⟨(some 38), .call (.func 184) [(.tmp 33), (.tmp 37)], none⟩,
  ⟨(some 39), .iad 1 (.tmp 31) (.tmp 32), none⟩,
  ⟨none, .st 1 (.tmp 39) (.tmp 38), none⟩])
 (.reg [⟨(some 40), .mv (.tmp 7), none⟩,
  ⟨(some 41), .mv (.tmp 6), none⟩,
  ⟨(some 42), .mv (.tmp 8), none⟩,
  ⟨(some 43), .iad 1 (.tmp 41) (.tmp 42), none⟩,
  ⟨(some 44), .ld none (.tmp 43), none⟩,
  ⟨(some 45), .bin .sub (.tmp 40) (.tmp 44), none⟩,
  ⟨(some 7), .mv (.tmp 45), none⟩]))))
 (.reg [⟨(some 22), .mv (.tmp 8), none⟩,
  ⟨(some 23), .bin .sub (.tmp 22) (.const (.int .i64 1)), none⟩,
  ⟨(some 8), .mv (.tmp 23), none⟩]))))))
 (.seq (.reg [⟨(some 46), .mv (.tmp 6), none⟩,
  ⟨(some 4), .mv (.tmp 46), none⟩,
  ⟨(some 5), .mv (.const (.bool true)), none⟩])
 (.ret)))))
def r_spec_LatestStart : List ARes := [.tmp 4, .tmp 5]
theorem ok_spec_LatestStart : FnOk Try.prog 89 47 c_spec_LatestStart r_spec_LatestStart := ⟨⟨Try.f89, _, Try.func89, by kernel_rfl, rfl, rfl, by kernel_rfl, by kernel_rfl⟩⟩
def c_spec_LimitSaves : ACode := .seq (.reg [⟨(some 3), .box 26 (.tmp 0), none⟩,
  ⟨(some 6), .mv (.const (.int .i64 0)), none⟩,
  ⟨(some 7), .mv (.const (.bool false)), none⟩])
 (.seq (.seq (.reg [⟨(some 9), .ld (some 4) (.tmp 3), none⟩,
  ⟨(some 10), .mv (.tmp 1), none⟩,
  ⟨(some 11), .call (.func 189) [(.tmp 9), (.tmp 10)], none⟩,
  ⟨(some 12), .un .not (.tmp 11), none⟩,
  ⟨(some 13), .mv (.tmp 12), none⟩,
  ⟨(some 14), .mv (.tmp 2), (some (13, false))⟩,
  ⟨(some 15), .mv (.tmp 1), (some (13, false))⟩,
  ⟨(some 16), .len (.tmp 15), (some (13, false))⟩,
  ⟨(some 17), .bin .sub (.tmp 16) (.const (.int .i64 1)), (some (13, false))⟩,
  ⟨(some 18), .call (.func 140) [(.tmp 14), (.const (.int .i64 0)), (.tmp 17)], (some (13, false))⟩,
  ⟨(some 19), .un .not (.tmp 18), (some (13, false))⟩,
  ⟨(some 20), .pick (.tmp 13) (.const (.bool true)) (.tmp 19), none⟩,
  ⟨(some 21), .mv (.tmp 20), none⟩,
  ⟨(some 22), .mv (.tmp 1), (some (21, false))⟩,
  ⟨(some 23), .mv (.tmp 2), (some (21, false))⟩,
  ⟨(some 24), .iad 1 (.tmp 22) (.tmp 23), (some (21, false))⟩,
  ⟨(some 25), .ld none (.tmp 24), (some (21, false))⟩,
  ⟨(some 26), .bin .eql (.tmp 25) (.const (.int .i64 160)), (some (21, false))⟩,
  ⟨(some 27), .pick (.tmp 21) (.const (.bool true)) (.tmp 26), none⟩])
 (.cond (.tmp 27) (.seq (.reg [⟨(some 6), .mv (.const (.int .i64 0)), none⟩,
  ⟨(some 7), .mv (.const (.bool false)), none⟩])
 (.ret)) (.skip)))
 (.seq (.reg [⟨(some 28), .mv (.tmp 1), none⟩,
  ⟨(some 29), .call (.func 179) [(.tmp 28)], none⟩,
  ⟨(some 8), .mv (.tmp 29), none⟩])
 (.seq (.reg [⟨(some 30), .mv (.tmp 8), none⟩,
  ⟨(some 31), .mv (.tmp 2), none⟩,
  ⟨(some 32), .mv (.tmp 8), none⟩,
  ⟨(some 33), .mv (.tmp 2), none⟩,
  ⟨(some 34), .iad 1 (.tmp 32) (.tmp 33), none⟩,
  ⟨(some 35), .ld none (.tmp 34), none⟩,
  ⟨(some 36), .bin .add (.tmp 35) (.const (.int .i64 1)), none⟩,
  ⟨(some 37), .iad 1 (.tmp 30) (.tmp 31), none⟩,
  ⟨none, .st 1 (.tmp 37) (.tmp 36), none⟩])
 (.seq (.reg [⟨(some 38), .ld (some 4) (.tmp 3), none⟩,
  ⟨(some 39), .mv (.tmp 1), none⟩,
  ⟨(some 45), .ld (some 4) (.tmp 3), none⟩,
  ⟨(some 46), .mv (.tmp 8), none⟩,
  ⟨(some 40), .rcall (.func 191) [(.tmp 38), (.tmp 39)], none⟩,
  ⟨(some 41), .iad 1 (.tmp 40) (.const (.int .i64 0)), none⟩,
  ⟨(some 42), .ld none (.tmp 41), none⟩,
  ⟨(some 43), .iad 1 (.tmp 42) (.const (.int .i64 0)), none⟩,
  ⟨(some 44), .ld none (.tmp 43), none⟩,
  ⟨(some 47), .rcall (.func 191) [(.tmp 45), (.tmp 46)], none⟩,
  ⟨(some 48), .iad 1 (.tmp 47) (.const (.int .i64 0)), none⟩,
  ⟨(some 49), .ld none (.tmp 48), none⟩,
  ⟨(some 50), .iad 1 (.tmp 49) (.const (.int .i64 0)), none⟩,
  ⟨(some 51), .ld none (.tmp 50), none⟩,
  ⟨(some 52), .bin .sub (.tmp 44) (.tmp 51), none⟩,
  ⟨(some 6), .mv (.tmp 52), none⟩,
  ⟨(some 7), .mv (.const (.bool true)), none⟩])
 (.ret)))))
def r_spec_LimitSaves : List ARes := [.tmp 6, .tmp 7]
theorem ok_spec_LimitSaves : FnOk Try.prog 97 53 c_spec_LimitSaves r_spec_LimitSaves := ⟨⟨Try.f97, _, Try.func97, by kernel_rfl, rfl, rfl, by kernel_rfl, by kernel_rfl⟩⟩
def c_spec_LateCost : ACode := .seq (.reg [⟨(some 3), .box 26 (.tmp 0), none⟩,
  ⟨(some 6), .mv (.const (.int .i64 0)), none⟩,
  ⟨(some 7), .mv (.const (.bool false)), none⟩])
 (.seq (.seq (.reg [⟨(some 11), .ld (some 4) (.tmp 3), none⟩,
  ⟨(some 12), .mv (.tmp 1), none⟩,
  ⟨(some 13), .call (.func 214) [(.tmp 11), (.tmp 12)], none⟩,
  ⟨(some 14), .un .not (.tmp 13), none⟩,
  ⟨(some 15), .mv (.tmp 14), none⟩,
  ⟨(some 16), .ld (some 4) (.tmp 3), (some (15, false))⟩,
  ⟨(some 17), .mv (.tmp 2), (some (15, false))⟩,
  ⟨(some 18), .call (.func 215) [(.tmp 16), (.tmp 17)], (some (15, false))⟩,
  ⟨(some 19), .un .not (.tmp 18), (some (15, false))⟩,
  ⟨(some 20), .pick (.tmp 15) (.const (.bool true)) (.tmp 19), none⟩])
 (.cond (.tmp 20) (.seq (.reg [⟨(some 6), .mv (.const (.int .i64 0)), none⟩,
  ⟨(some 7), .mv (.const (.bool false)), none⟩])
 (.ret)) (.skip)))
 (.seq (.reg [⟨(some 21), .ld (some 4) (.tmp 3), none⟩,
  ⟨(some 22), .mv (.tmp 2), none⟩,
  ⟨(some 23), .call (.func 174) [(.tmp 21), (.tmp 22)], none⟩,
  ⟨(some 8), .mv (.const (.int .i64 0)), none⟩,
  ⟨(some 9), .mv (.tmp 23), none⟩])
 (.seq (.seq (.reg [⟨(some 10), .mv (.const (.int .i64 0)), none⟩])
 (.block 0 (.loop (.seq (.seq (.reg [⟨(some 24), .mv (.tmp 10), none⟩,
  ⟨(some 25), .mv (.tmp 2), none⟩,
  ⟨(some 26), .len (.tmp 25), none⟩,
  ⟨(some 27), .bin .lss (.tmp 24) (.tmp 26), none⟩])
 (.cond (.tmp 27) (.skip) (.exit 0)))
 (.seq (.block 1 (.reg [⟨(some 30), .mv (.tmp 8), none⟩,
  ⟨(some 31), .ld (some 4) (.tmp 3), none⟩,
  ⟨(some 32), .mv (.tmp 1), none⟩,
  ⟨(some 33), .mv (.tmp 10), none⟩,
  ⟨(some 34), .mv (.tmp 2), none⟩,
  ⟨(some 35), .mv (.tmp 10), none⟩,
  ⟨(some 36), .iad 1 (.tmp 34) (.tmp 35), none⟩,
  ⟨(some 37), .ld none (.tmp 36), none⟩,
  ⟨(some 38), .mv (.tmp 9), none⟩,
  ⟨(some 39), .mv (.tmp 10), none⟩,
  ⟨(some 40), .iad 1 (.tmp 38) (.tmp 39), none⟩,
  ⟨(some 41), .ld none (.tmp 40), none⟩,
  ⟨(some 42), .rcall (.func 216) [(.tmp 31), (.tmp 32), (.tmp 33), (.tmp 37), (.tmp 41)], none⟩,
  ⟨(some 43), .bin .add (.tmp 30) (.tmp 42), none⟩,
  ⟨(some 8), .mv (.tmp 43), none⟩]))
 (.reg [⟨(some 28), .mv (.tmp 10), none⟩,
  ⟨(some 29), .bin .add (.tmp 28) (.const (.int .i64 1)), none⟩,
  ⟨(some 10), .mv (.tmp 29), none⟩]))))))
 (.seq (.reg [⟨(some 44), .mv (.tmp 8), none⟩,
  ⟨(some 6), .mv (.tmp 44), none⟩,
  ⟨(some 7), .mv (.const (.bool true)), none⟩])
 (.ret)))))
def r_spec_LateCost : List ARes := [.tmp 6, .tmp 7]
theorem ok_spec_LateCost : FnOk Try.prog 110 45 c_spec_LateCost r_spec_LateCost := ⟨⟨Try.f110, _, Try.func110, by kernel_rfl, rfl, rfl, by kernel_rfl, by kernel_rfl⟩⟩
def c_spec_LeastLate : ACode := .seq (.reg [⟨(some 2), .box 26 (.tmp 0), none⟩,
  ⟨(some 4), .mv (.const (.int .i64 0)), none⟩,
  ⟨(some 5), .mv (.const (.bool false)), none⟩])
 (.seq (.seq (.reg [⟨(some 6), .ld (some 4) (.tmp 2), none⟩,
  ⟨(some 7), .mv (.tmp 1), none⟩,
  ⟨(some 8), .call (.func 214) [(.tmp 6), (.tmp 7)], none⟩,
  ⟨(some 9), .un .not (.tmp 8), none⟩])
 (.cond (.tmp 9) (.seq (.reg [⟨(some 4), .mv (.const (.int .i64 0)), none⟩,
  ⟨(some 5), .mv (.const (.bool false)), none⟩])
 (.ret)) (.skip)))
 (.seq (.reg [⟨(some 10), .ld (some 4) (.tmp 2), none⟩,
  ⟨(some 11), .mv (.tmp 1), none⟩,
  ⟨(some 15), .fad 0 (.tmp 2), none⟩,
  ⟨(some 16), .ld none (.tmp 15), none⟩,
  ⟨(some 12), .rcall (.func 218) [(.tmp 10), (.tmp 11)], none⟩,
  ⟨(some 13), .iad 1 (.tmp 12) (.const (.int .i64 0)), none⟩,
  ⟨(some 14), .ld none (.tmp 13), none⟩,
  ⟨(some 17), .rcall (.func 155) [(.tmp 16)], none⟩,
  ⟨(some 18), .iad 1 (.tmp 14) (.tmp 17), none⟩,
  ⟨(some 19), .ld none (.tmp 18), none⟩,
  ⟨(some 4), .mv (.tmp 19), none⟩,
  ⟨(some 5), .mv (.const (.bool true)), none⟩])
 (.ret)))
def r_spec_LeastLate : List ARes := [.tmp 4, .tmp 5]
theorem ok_spec_LeastLate : FnOk Try.prog 119 20 c_spec_LeastLate r_spec_LeastLate := ⟨⟨Try.f119, _, Try.func119, by kernel_rfl, rfl, rfl, by kernel_rfl, by kernel_rfl⟩⟩
end Go.Proofs.Ytncajinepljdhaa.Ab
