/- The compiled forms of functions, each checked against the translation. -/
import Derived.Test.YtncajinepljdhaaAb2
import Derived.Test.YtncajinepljdhaaProg
namespace Go.Proofs.Ytncajinepljdhaa.Ab
open Go Go.RowKit Go.Proofs
set_option maxRecDepth 100000
def c_spec_DrawForwardCosts : ACode := .seq (.reg [⟨(some 2), .alc 26 [(.slice none 0 0), (.slice none 0 0), (.slice none 0 0), (.slice none 0 0)], none⟩])
 (.seq (.reg [⟨(some 4), .mv (.tmp 0), none⟩,
  ⟨(some 5), .bld [(.slice none 0 0), (.int .i64 0), (.int .u64 0)] [(0, 1, (.tmp 4))], none⟩,
  ⟨(some 6), .box 75 (.tmp 5), none⟩,
  ⟨(some 3), .mv (.tmp 6), none⟩])
 (.seq (.reg [⟨(some 7), .mv (.tmp 3), none⟩,
  ⟨(some 8), .call (.func 127) [(.tmp 7)], none⟩,
  ⟨none, .st 4 (.tmp 2) (.tmp 8), none⟩])
 (.ret)))
def r_spec_DrawForwardCosts : List ARes := [.cell 2 (some 4)]
theorem ok_spec_DrawForwardCosts : FnOk Try.prog 14 9 c_spec_DrawForwardCosts r_spec_DrawForwardCosts := ⟨⟨Try.f14, _, Try.func14, by kernel_rfl, rfl, rfl, by kernel_rfl, by kernel_rfl⟩⟩
def c_spec_DrawSpanCost : ACode := .seq (.reg [⟨(some 2), .alc 26 [(.slice none 0 0), (.slice none 0 0), (.slice none 0 0), (.slice none 0 0)], none⟩,
  ⟨(some 3), .mv (.const (.int .i64 0)), none⟩,
  ⟨(some 4), .mv (.const (.int .i64 0)), none⟩])
 (.seq (.reg [⟨(some 5), .mv (.tmp 0), none⟩,
  ⟨(some 6), .call (.func 135) [(.tmp 5)], none⟩,
  ⟨(some 7), .ext 0 (.tmp 6), none⟩,
  ⟨(some 8), .ext 1 (.tmp 6), none⟩,
  ⟨(some 9), .ext 2 (.tmp 6), none⟩,
  ⟨none, .st 4 (.tmp 2) (.tmp 7), none⟩,
  ⟨(some 3), .mv (.tmp 8), none⟩,
  ⟨(some 4), .mv (.tmp 9), none⟩])
 (.ret))
def r_spec_DrawSpanCost : List ARes := [.cell 2 (some 4), .tmp 3, .tmp 4]
theorem ok_spec_DrawSpanCost : FnOk Try.prog 21 10 c_spec_DrawSpanCost r_spec_DrawSpanCost := ⟨⟨Try.f21, _, Try.func21, by kernel_rfl, rfl, rfl, by kernel_rfl, by kernel_rfl⟩⟩
def c_spec_DrawHorizonsOf : ACode := .seq (.reg [⟨(some 2), .alc 26 [(.slice none 0 0), (.slice none 0 0), (.slice none 0 0), (.slice none 0 0)], none⟩])
 (.seq (.reg [⟨(some 3), .mv (.tmp 0), none⟩,
  ⟨(some 4), .call (.func 14) [(.tmp 3)], none⟩,
  ⟨none, .st 4 (.tmp 2) (.tmp 4), none⟩])
 (.ret))
def r_spec_DrawHorizonsOf : List ARes := [.cell 2 (some 4)]
theorem ok_spec_DrawHorizonsOf : FnOk Try.prog 31 5 c_spec_DrawHorizonsOf r_spec_DrawHorizonsOf := ⟨⟨Try.f31, _, Try.func31, by kernel_rfl, rfl, rfl, by kernel_rfl, by kernel_rfl⟩⟩
def c_spec_DrawIsPriceProof : ACode := .seq (.reg [⟨(some 2), .alc 26 [(.slice none 0 0), (.slice none 0 0), (.slice none 0 0), (.slice none 0 0)], none⟩,
  ⟨(some 3), .mv (.const (.slice none 0 0)), none⟩,
  ⟨(some 4), .mv (.const (.slice none 0 0)), none⟩])
 (.seq (.reg [⟨(some 8), .mv (.tmp 0), none⟩,
  ⟨(some 9), .bld [(.slice none 0 0), (.int .i64 0), (.int .u64 0)] [(0, 1, (.tmp 8))], none⟩,
  ⟨(some 10), .box 75 (.tmp 9), none⟩,
  ⟨(some 5), .mv (.tmp 10), none⟩])
 (.seq (.reg [⟨(some 11), .mv (.tmp 5), none⟩,
  ⟨(some 12), .call (.func 127) [(.tmp 11)], none⟩,
  ⟨(some 6), .alc 26 [(.slice none 0 0), (.slice none 0 0), (.slice none 0 0), (.slice none 0 0)], none⟩,
  ⟨none, .st 4 (.tmp 6) (.tmp 12), none⟩])
 (.seq (.reg [⟨(some 13), .mv (.tmp 5), none⟩,
  ⟨(some 14), .ld (some 4) (.tmp 6), none⟩,
  ⟨(some 15), .call (.func 148) [(.tmp 13), (.tmp 14)], none⟩,
  ⟨(some 7), .mv (.tmp 15), none⟩])
 (.seq (.seq (.reg [⟨(some 16), .ld (some 4) (.tmp 6), none⟩,
  ⟨(some 17), .call (.func 129) [(.tmp 16)], none⟩,
  ⟨(some 18), .mv (.tmp 17), none⟩,
  ⟨(some 19), .mv (.tmp 5), (some (18, true))⟩,
  ⟨(some 20), .call (.func 149) [(.tmp 19), (.const (.int .i64 2))], (some (18, true))⟩,
  ⟨(some 21), .pick (.tmp 18) (.tmp 20) (.const (.bool false)), none⟩])
 (.cond (.tmp 21) (.seq (.reg [⟨(some 22), .ld (some 4) (.tmp 6), none⟩,
  ⟨(some 23), .mv (.tmp 7), none⟩,
  ⟨(some 24), .ld (some 4) (.tmp 6), none⟩,
  ⟨(some 25), .ld (some 4) (.tmp 6), none⟩,
  ⟨(some 26), .rcall (.func 151) [(.tmp 25)], none⟩,
  ⟨(some 27), .rcall (.func 150) [(.tmp 24), (.tmp 26)], none⟩,
  ⟨none, .st 4 (.tmp 2) (.tmp 22), none⟩,
  ⟨(some 3), .mv (.tmp 23), none⟩,
  ⟨(some 4), .mv (.tmp 27), none⟩])
 (.ret)) (.skip)))
 (.seq (.seq (.reg [⟨(some 29), .mv (.tmp 7), none⟩]) (.seq (.reg [⟨(some 30), .mv (.tmp 5), none⟩]) (.seq (.reg [⟨(some 31), .ld (some 4) (.tmp 6), none⟩]) (.both (.seq (.reg [⟨(some 28), .ld (some 4) (.tmp 6), none⟩]) (.seq (.reg [⟨(some 32), .call (.func 152) [(.tmp 30), (.tmp 31)], none⟩]) (.seq (.reg [⟨none, .st 4 (.tmp 2) (.tmp 28), none⟩]) (.seq (.reg [⟨(some 3), .mv (.tmp 29), none⟩]) (.seq (.reg [⟨(some 4), .mv (.tmp 32), none⟩]) (.skip)))))) (.seq (.reg [⟨(some 32), .call (.func 152) [(.tmp 30), (.tmp 31)], none⟩]) (.seq (.reg [⟨(some 28), .ld (some 4) (.tmp 6), none⟩]) (.seq (.reg [⟨none, .st 4 (.tmp 2) (.tmp 28), none⟩]) (.seq (.reg [⟨(some 3), .mv (.tmp 29), none⟩]) (.seq (.reg [⟨(some 4), .mv (.tmp 32), none⟩]) (.skip))))))))))
 (.ret))))))
def r_spec_DrawIsPriceProof : List ARes := [.cell 2 (some 4), .tmp 3, .tmp 4]
theorem ok_spec_DrawIsPriceProof : FnOk Try.prog 41 33 c_spec_DrawIsPriceProof r_spec_DrawIsPriceProof := ⟨⟨Try.f41, _, Try.func41, by kernel_rfl, rfl, rfl, by kernel_rfl, by kernel_rfl⟩⟩
def c_spec_DrawRulePeriods : ACode := .seq (.reg [⟨(some 2), .alc 26 [(.slice none 0 0), (.slice none 0 0), (.slice none 0 0), (.slice none 0 0)], none⟩,
  ⟨(some 3), .mv (.const (.int .i64 0)), none⟩])
 (.seq (.reg [⟨(some 6), .mv (.tmp 0), none⟩,
  ⟨(some 7), .bld [(.slice none 0 0), (.int .i64 0), (.int .u64 0)] [(0, 1, (.tmp 6))], none⟩,
  ⟨(some 8), .box 75 (.tmp 7), none⟩,
  ⟨(some 4), .mv (.tmp 8), none⟩])
 (.seq (.reg [⟨(some 9), .mv (.tmp 4), none⟩,
  ⟨(some 10), .call (.func 127) [(.tmp 9)], none⟩,
  ⟨(some 5), .alc 26 [(.slice none 0 0), (.slice none 0 0), (.slice none 0 0), (.slice none 0 0)], none⟩,
  ⟨none, .st 4 (.tmp 5) (.tmp 10), none⟩])
 (.seq (.bad)
 (.ret))))
def r_spec_DrawRulePeriods : List ARes := [.cell 2 (some 4), .tmp 3]
theorem ok_spec_DrawRulePeriods : FnOk Try.prog 51 20 c_spec_DrawRulePeriods r_spec_DrawRulePeriods := ⟨⟨Try.f51, _, Try.func51, by kernel_rfl, rfl, rfl, by kernel_rfl, by kernel_rfl⟩⟩
def c_spec_DrawPlanCost : ACode := .seq (.reg [⟨(some 2), .alc 26 [(.slice none 0 0), (.slice none 0 0), (.slice none 0 0), (.slice none 0 0)], none⟩,
  ⟨(some 3), .mv (.const (.slice none 0 0)), none⟩])
 (.seq (.reg [⟨(some 4), .mv (.tmp 0), none⟩,
  ⟨(some 5), .call (.func 169) [(.tmp 4)], none⟩,
  ⟨(some 6), .ext 0 (.tmp 5), none⟩,
  ⟨(some 7), .ext 1 (.tmp 5), none⟩,
  ⟨none, .st 4 (.tmp 2) (.tmp 6), none⟩,
  ⟨(some 3), .mv (.tmp 7), none⟩])
 (.ret))
def r_spec_DrawPlanCost : List ARes := [.cell 2 (some 4), .tmp 3]
theorem ok_spec_DrawPlanCost : FnOk Try.prog 58 8 c_spec_DrawPlanCost r_spec_DrawPlanCost := ⟨⟨Try.f58, _, Try.func58, by kernel_rfl, rfl, rfl, by kernel_rfl, by kernel_rfl⟩⟩
def c_spec_DrawSmoothPlan : ACode := .seq (.reg [⟨(some 2), .alc 26 [(.slice none 0 0), (.slice none 0 0), (.slice none 0 0), (.slice none 0 0)], none⟩,
  ⟨(some 3), .mv (.const (.slice none 0 0)), none⟩])
 (.seq (.reg [⟨(some 4), .mv (.tmp 0), none⟩,
  ⟨(some 5), .call (.func 169) [(.tmp 4)], none⟩,
  ⟨(some 6), .ext 0 (.tmp 5), none⟩,
  ⟨(some 7), .ext 1 (.tmp 5), none⟩,
  ⟨none, .st 4 (.tmp 2) (.tmp 6), none⟩,
  ⟨(some 3), .mv (.tmp 7), none⟩])
 (.ret))
def r_spec_DrawSmoothPlan : List ARes := [.cell 2 (some 4), .tmp 3]
theorem ok_spec_DrawSmoothPlan : FnOk Try.prog 73 8 c_spec_DrawSmoothPlan r_spec_DrawSmoothPlan := ⟨⟨Try.f73, _, Try.func73, by kernel_rfl, rfl, rfl, by kernel_rfl, by kernel_rfl⟩⟩
def c_spec_DrawOrdersAtEmpty : ACode := .seq (.reg [⟨(some 2), .alc 26 [(.slice none 0 0), (.slice none 0 0), (.slice none 0 0), (.slice none 0 0)], none⟩,
  ⟨(some 3), .mv (.const (.slice none 0 0)), none⟩])
 (.seq (.reg [⟨(some 7), .mv (.tmp 0), none⟩,
  ⟨(some 8), .bld [(.slice none 0 0), (.int .i64 0), (.int .u64 0)] [(0, 1, (.tmp 7))], none⟩,
  ⟨(some 9), .box 75 (.tmp 8), none⟩,
  ⟨(some 4), .mv (.tmp 9), none⟩])
 (.seq (.reg [⟨(some 10), .mv (.tmp 4), none⟩,
  ⟨(some 11), .call (.func 127) [(.tmp 10)], none⟩,
  ⟨(some 5), .alc 26 [(.slice none 0 0), (.slice none 0 0), (.slice none 0 0), (.slice none 0 0)], none⟩,
  ⟨none, .st 4 (.tmp 5) (.tmp 11), none⟩])
 (.seq (.seq (.reg [⟨(some 12), .fad 0 (.tmp 5), none⟩,
  ⟨(some 13), .ld none (.tmp 12), none⟩,
  ⟨(some 14), .len (.tmp 13), none⟩,
  ⟨(some 15), .call (.func 184) [(.tmp 14), (.const (.int .i64 8))], none⟩,
  ⟨(some 16), .mv (.tmp 4), none⟩,
  ⟨(some 17), .call (.func 164) [(.tmp 16), (.const (.int .i64 256))], none⟩,
  ⟨(some 18), .bin .or (.tmp 17) (.const (.int .i64 1)), none⟩,
  ⟨(some 19), .call (.func 183) [(.tmp 15), (.tmp 18)], none⟩,
  ⟨(some 6), .mv (.tmp 19), none⟩])
 (.seq (.reg [⟨(some 20), .ld (some 4) (.tmp 5), none⟩,
  ⟨(some 21), .call (.func 129) [(.tmp 20)], none⟩,
  ⟨(some 22), .mv (.tmp 21), none⟩,
  ⟨(some 23), .ld (some 4) (.tmp 5), (some (22, true))⟩,
  ⟨(some 24), .mv (.tmp 6), (some (22, true))⟩,
  ⟨(some 25), .call (.func 185) [(.tmp 23), (.tmp 24)], (some (22, true))⟩,
  ⟨(some 26), .pick (.tmp 22) (.tmp 25) (.const (.bool false)), none⟩,
  ⟨(some 27), .mv (.tmp 26), none⟩,
  ⟨(some 28), .mv (.tmp 4), (some (27, true))⟩,
  ⟨(some 29), .call (.func 149) [(.tmp 28), (.const (.int .i64 2))], (some (27, true))⟩,
  ⟨(some 30), .pick (.tmp 27) (.tmp 29) (.const (.bool false)), none⟩])
 (.cond (.tmp 30) (.seq (.reg [⟨(some 31), .ld (some 4) (.tmp 5), none⟩,
  ⟨(some 32), .ld (some 4) (.tmp 5), none⟩,
  ⟨(some 33), .mv (.tmp 6), none⟩,
  ⟨(some 34), .rcall (.func 150) [(.tmp 32), (.tmp 33)], none⟩,
  ⟨none, .st 4 (.tmp 2) (.tmp 31), none⟩,
  ⟨(some 3), .mv (.tmp 34), none⟩])
 (.ret)) (.skip))))
 (.seq (.seq (.reg [⟨(some 36), .mv (.tmp 4), none⟩]) (.seq (.reg [⟨(some 37), .ld (some 4) (.tmp 5), none⟩]) (.both (.seq (.reg [⟨(some 35), .ld (some 4) (.tmp 5), none⟩]) (.seq (.reg [⟨(some 38), .call (.func 152) [(.tmp 36), (.tmp 37)], none⟩]) (.seq (.reg [⟨none, .st 4 (.tmp 2) (.tmp 35), none⟩]) (.seq (.reg [⟨(some 3), .mv (.tmp 38), none⟩]) (.skip))))) (.seq (.reg [⟨(some 38), .call (.func 152) [(.tmp 36), (.tmp 37)], none⟩]) (.seq (.reg [⟨(some 35), .ld (some 4) (.tmp 5), none⟩]) (.seq (.reg [⟨none, .st 4 (.tmp 2) (.tmp 35), none⟩]) (.seq (.reg [⟨(some 3), .mv (.tmp 38), none⟩]) (.skip))))))))
 (.ret)))))
def r_spec_DrawOrdersAtEmpty : List ARes := [.cell 2 (some 4), .tmp 3]
theorem ok_spec_DrawOrdersAtEmpty : FnOk Try.prog 79 39 c_spec_DrawOrdersAtEmpty r_spec_DrawOrdersAtEmpty := ⟨⟨Try.f79, _, Try.func79, by kernel_rfl, rfl, rfl, by kernel_rfl, by kernel_rfl⟩⟩
def c_spec_DrawLimitedPlan : ACode := .seq (.reg [⟨(some 2), .alc 26 [(.slice none 0 0), (.slice none 0 0), (.slice none 0 0), (.slice none 0 0)], none⟩,
  ⟨(some 3), .mv (.const (.slice none 0 0)), none⟩])
 (.seq (.reg [⟨(some 4), .mv (.tmp 0), none⟩,
  ⟨(some 5), .call (.func 186) [(.tmp 4)], none⟩,
  ⟨(some 6), .ext 0 (.tmp 5), none⟩,
  ⟨(some 7), .ext 1 (.tmp 5), none⟩,
  ⟨none, .st 4 (.tmp 2) (.tmp 6), none⟩,
  ⟨(some 3), .mv (.tmp 7), none⟩])
 (.ret))
def r_spec_DrawLimitedPlan : List ARes := [.cell 2 (some 4), .tmp 3]
theorem ok_spec_DrawLimitedPlan : FnOk Try.prog 83 8 c_spec_DrawLimitedPlan r_spec_DrawLimitedPlan := ⟨⟨Try.f83, _, Try.func83, by kernel_rfl, rfl, rfl, by kernel_rfl, by kernel_rfl⟩⟩
def c_spec_DrawFirstShort : ACode := .seq (.reg [⟨(some 2), .alc 26 [(.slice none 0 0), (.slice none 0 0), (.slice none 0 0), (.slice none 0 0)], none⟩,
  ⟨(some 3), .mv (.const (.slice none 0 0)), none⟩])
 (.seq (.reg [⟨(some 7), .mv (.tmp 0), none⟩,
  ⟨(some 8), .bld [(.slice none 0 0), (.int .i64 0), (.int .u64 0)] [(0, 1, (.tmp 7))], none⟩,
  ⟨(some 9), .box 75 (.tmp 8), none⟩,
  ⟨(some 4), .mv (.tmp 9), none⟩])
 (.seq (.reg [⟨(some 10), .mv (.tmp 4), none⟩,
  ⟨(some 11), .call (.func 127) [(.tmp 10)], none⟩,
  ⟨(some 5), .alc 26 [(.slice none 0 0), (.slice none 0 0), (.slice none 0 0), (.slice none 0 0)], none⟩,
  ⟨none, .st 4 (.tmp 5) (.tmp 11), none⟩])
 (.seq (.reg [⟨(some 12), .mv (.tmp 4), none⟩,
  ⟨(some 13), .ld (some 4) (.tmp 5), none⟩,
  ⟨(some 14), .call (.func 193) [(.tmp 12), (.tmp 13)], none⟩,
  ⟨(some 6), .mv (.tmp 14), none⟩])
 (.seq (.seq (.reg [⟨(some 15), .mv (.tmp 6), none⟩,
  ⟨(some 16), .len (.tmp 15), none⟩,
  ⟨(some 17), .bin .gtr (.tmp 16) (.const (.int .i64 0)), none⟩,
  ⟨(some 18), .mv (.tmp 17), none⟩,
  ⟨(some 19), .mv (.tmp 4), (some (18, true))⟩,
  ⟨(some 20), .call (.func 149) [(.tmp 19), (.const (.int .i64 2))], (some (18, true))⟩,
  ⟨(some 21), .pick (.tmp 18) (.tmp 20) (.const (.bool false)), none⟩])
 (.cond (.tmp 21) (.reg [⟨(some 22), .mv (.tmp 6), none⟩,
  ⟨(some 23), .mv (.tmp 4), none⟩,
  ⟨(some 24), .mv (.tmp 6), none⟩,
  ⟨(some 25), .len (.tmp 24), none⟩,
  ⟨(some 26), .call (.func 164) [(.tmp 23), (.tmp 25)], none⟩,
  ⟨(some 27), .iad 1 (.tmp 22) (.tmp 26), none⟩,
  ⟨none, .st 1 (.tmp 27) (.const (.int .i64 0)), none⟩]) (.skip)))
 (.seq (.reg [⟨(some 28), .ld (some 4) (.tmp 5), none⟩,
  ⟨(some 29), .mv (.tmp 6), none⟩,
  ⟨none, .st 4 (.tmp 2) (.tmp 28), none⟩,
  ⟨(some 3), .mv (.tmp 29), none⟩])
 (.ret))))))
def r_spec_DrawFirstShort : List ARes := [.cell 2 (some 4), .tmp 3]
theorem ok_spec_DrawFirstShort : FnOk Try.prog 90 30 c_spec_DrawFirstShort r_spec_DrawFirstShort := ⟨⟨Try.f90, _, Try.func90, by kernel_rfl, rfl, rfl, by kernel_rfl, by kernel_rfl⟩⟩
def c_spec_DrawLimitSaves : ACode := .seq (.reg [⟨(some 2), .alc 26 [(.slice none 0 0), (.slice none 0 0), (.slice none 0 0), (.slice none 0 0)], none⟩,
  ⟨(some 3), .mv (.const (.slice none 0 0)), none⟩,
  ⟨(some 4), .mv (.const (.int .i64 0)), none⟩])
 (.seq (.reg [⟨(some 8), .mv (.tmp 0), none⟩,
  ⟨(some 9), .bld [(.slice none 0 0), (.int .i64 0), (.int .u64 0)] [(0, 1, (.tmp 8))], none⟩,
  ⟨(some 10), .box 75 (.tmp 9), none⟩,
  ⟨(some 5), .mv (.tmp 10), none⟩])
 (.seq (.reg [⟨(some 11), .mv (.tmp 5), none⟩,
  ⟨(some 12), .call (.func 197) [(.tmp 11), (.const (.int .i64 6))], none⟩,
  ⟨(some 6), .alc 26 [(.slice none 0 0), (.slice none 0 0), (.slice none 0 0), (.slice none 0 0)], none⟩,
  ⟨none, .st 4 (.tmp 6) (.tmp 12), none⟩])
 (.seq (.reg [⟨(some 13), .mv (.tmp 5), none⟩,
  ⟨(some 14), .ld (some 4) (.tmp 6), none⟩,
  ⟨(some 15), .call (.func 193) [(.tmp 13), (.tmp 14)], none⟩,
  ⟨(some 7), .mv (.tmp 15), none⟩])
 (.seq (.seq (.reg [⟨(some 17), .mv (.tmp 7), none⟩]) (.seq (.reg [⟨(some 18), .mv (.tmp 5), none⟩]) (.seq (.reg [⟨(some 19), .fad 0 (.tmp 6), none⟩]) (.seq (.reg [⟨(some 20), .ld none (.tmp 19), none⟩]) (.seq (.reg [⟨(some 21), .len (.tmp 20), none⟩]) (.seq (.reg [⟨(some 22), .bin .add (.tmp 21) (.const (.int .i64 2)), none⟩]) (.seq (.reg [⟨(some 24), .mv (.tmp 5), none⟩]) (.both (.seq (.reg [⟨(some 16), .ld (some 4) (.tmp 6), none⟩]) (.seq (.reg [⟨(some 23), .call (.func 164) [(.tmp 18), (.tmp 22)], none⟩]) (.seq (.reg [⟨(some 25), .call (.func 164) [(.tmp 24), (.const (.int .i64 2))], none⟩]) (.seq (.reg [⟨(some 26), .bin .sub (.tmp 23) (.tmp 25), none⟩]) (.seq (.reg [⟨none, .st 4 (.tmp 2) (.tmp 16), none⟩]) (.seq (.reg [⟨(some 3), .mv (.tmp 17), none⟩]) (.seq (.reg [⟨(some 4), .mv (.tmp 26), none⟩]) (.skip)))))))) (.seq (.reg [⟨(some 23), .call (.func 164) [(.tmp 18), (.tmp 22)], none⟩]) (.both (.seq (.reg [⟨(some 16), .ld (some 4) (.tmp 6), none⟩]) (.seq (.reg [⟨(some 25), .call (.func 164) [(.tmp 24), (.const (.int .i64 2))], none⟩]) (.seq (.reg [⟨(some 26), .bin .sub (.tmp 23) (.tmp 25), none⟩]) (.seq (.reg [⟨none, .st 4 (.tmp 2) (.tmp 16), none⟩]) (.seq (.reg [⟨(some 3), .mv (.tmp 17), none⟩]) (.seq (.reg [⟨(some 4), .mv (.tmp 26), none⟩]) (.skip))))))) (.seq (.reg [⟨(some 25), .call (.func 164) [(.tmp 24), (.const (.int .i64 2))], none⟩]) (.seq (.reg [⟨(some 16), .ld (some 4) (.tmp 6), none⟩]) (.seq (.reg [⟨(some 26), .bin .sub (.tmp 23) (.tmp 25), none⟩]) (.seq (.reg [⟨none, .st 4 (.tmp 2) (.tmp 16), none⟩]) (.seq (.reg [⟨(some 3), .mv (.tmp 17), none⟩]) (.seq (.reg [⟨(some 4), .mv (.tmp 26), none⟩]) (.skip)))))))))))))))))
 (.ret)))))
def r_spec_DrawLimitSaves : List ARes := [.cell 2 (some 4), .tmp 3, .tmp 4]
theorem ok_spec_DrawLimitSaves : FnOk Try.prog 95 27 c_spec_DrawLimitSaves r_spec_DrawLimitSaves := ⟨⟨Try.f95, _, Try.func95, by kernel_rfl, rfl, rfl, by kernel_rfl, by kernel_rfl⟩⟩
def c_spec_DrawIsRegular : ACode := .seq (.reg [⟨(some 2), .alc 26 [(.slice none 0 0), (.slice none 0 0), (.slice none 0 0), (.slice none 0 0)], none⟩,
  ⟨(some 3), .mv (.const (.slice none 0 0)), none⟩,
  ⟨(some 4), .mv (.const (.slice none 0 0)), none⟩])
 (.seq (.reg [⟨(some 5), .mv (.tmp 0), none⟩,
  ⟨(some 6), .call (.func 198) [(.tmp 5)], none⟩,
  ⟨(some 7), .ext 0 (.tmp 6), none⟩,
  ⟨(some 8), .ext 1 (.tmp 6), none⟩,
  ⟨(some 9), .ext 2 (.tmp 6), none⟩,
  ⟨none, .st 4 (.tmp 2) (.tmp 7), none⟩,
  ⟨(some 3), .mv (.tmp 8), none⟩,
  ⟨(some 4), .mv (.tmp 9), none⟩])
 (.ret))
def r_spec_DrawIsRegular : List ARes := [.cell 2 (some 4), .tmp 3, .tmp 4]
theorem ok_spec_DrawIsRegular : FnOk Try.prog 99 10 c_spec_DrawIsRegular r_spec_DrawIsRegular := ⟨⟨Try.f99, _, Try.func99, by kernel_rfl, rfl, rfl, by kernel_rfl, by kernel_rfl⟩⟩
def c_spec_DrawRegularPlan : ACode := .seq (.reg [⟨(some 2), .alc 26 [(.slice none 0 0), (.slice none 0 0), (.slice none 0 0), (.slice none 0 0)], none⟩,
  ⟨(some 3), .mv (.const (.slice none 0 0)), none⟩])
 (.seq (.reg [⟨(some 4), .mv (.tmp 0), none⟩,
  ⟨(some 5), .call (.func 186) [(.tmp 4)], none⟩,
  ⟨(some 6), .ext 0 (.tmp 5), none⟩,
  ⟨(some 7), .ext 1 (.tmp 5), none⟩,
  ⟨none, .st 4 (.tmp 2) (.tmp 6), none⟩,
  ⟨(some 3), .mv (.tmp 7), none⟩])
 (.ret))
def r_spec_DrawRegularPlan : List ARes := [.cell 2 (some 4), .tmp 3]
theorem ok_spec_DrawRegularPlan : FnOk Try.prog 105 8 c_spec_DrawRegularPlan r_spec_DrawRegularPlan := ⟨⟨Try.f105, _, Try.func105, by kernel_rfl, rfl, rfl, by kernel_rfl, by kernel_rfl⟩⟩
def c_spec_DrawLateCost : ACode := .seq (.reg [⟨(some 2), .alc 26 [(.slice none 0 0), (.slice none 0 0), (.slice none 0 0), (.slice none 0 0)], none⟩,
  ⟨(some 3), .mv (.const (.slice none 0 0)), none⟩,
  ⟨(some 4), .mv (.const (.slice none 0 0)), none⟩])
 (.seq (.reg [⟨(some 8), .mv (.tmp 0), none⟩,
  ⟨(some 9), .bld [(.slice none 0 0), (.int .i64 0), (.int .u64 0)] [(0, 1, (.tmp 8))], none⟩,
  ⟨(some 10), .box 75 (.tmp 9), none⟩,
  ⟨(some 5), .mv (.tmp 10), none⟩])
 (.seq (.reg [⟨(some 12), .mv (.tmp 5), none⟩,
  ⟨(some 13), .call (.func 210) [(.tmp 12)], none⟩,
  ⟨(some 11), .mv (.tmp 13), none⟩,
  ⟨(some 14), .ext 0 (.tmp 11), none⟩,
  ⟨(some 15), .ext 1 (.tmp 11), none⟩,
  ⟨(some 6), .alc 26 [(.slice none 0 0), (.slice none 0 0), (.slice none 0 0), (.slice none 0 0)], none⟩,
  ⟨none, .st 4 (.tmp 6) (.tmp 14), none⟩,
  ⟨(some 7), .mv (.tmp 15), none⟩])
 (.seq (.seq (.reg [⟨(some 17), .mv (.tmp 5), none⟩]) (.seq (.reg [⟨(some 18), .ld (some 4) (.tmp 6), none⟩]) (.seq (.reg [⟨(some 20), .mv (.tmp 7), none⟩]) (.both (.seq (.reg [⟨(some 16), .ld (some 4) (.tmp 6), none⟩]) (.seq (.reg [⟨(some 19), .call (.func 211) [(.tmp 17), (.tmp 18)], none⟩]) (.seq (.reg [⟨none, .st 4 (.tmp 2) (.tmp 16), none⟩]) (.seq (.reg [⟨(some 3), .mv (.tmp 19), none⟩]) (.seq (.reg [⟨(some 4), .mv (.tmp 20), none⟩]) (.skip)))))) (.seq (.reg [⟨(some 19), .call (.func 211) [(.tmp 17), (.tmp 18)], none⟩]) (.seq (.reg [⟨(some 16), .ld (some 4) (.tmp 6), none⟩]) (.seq (.reg [⟨none, .st 4 (.tmp 2) (.tmp 16), none⟩]) (.seq (.reg [⟨(some 3), .mv (.tmp 19), none⟩]) (.seq (.reg [⟨(some 4), .mv (.tmp 20), none⟩]) (.skip))))))))))
 (.ret))))
def r_spec_DrawLateCost : List ARes := [.cell 2 (some 4), .tmp 3, .tmp 4]
theorem ok_spec_DrawLateCost : FnOk Try.prog 108 21 c_spec_DrawLateCost r_spec_DrawLateCost := ⟨⟨Try.f108, _, Try.func108, by kernel_rfl, rfl, rfl, by kernel_rfl, by kernel_rfl⟩⟩
def c_spec_DrawBestLatePlan : ACode := .seq (.reg [⟨(some 2), .alc 26 [(.slice none 0 0), (.slice none 0 0), (.slice none 0 0), (.slice none 0 0)], none⟩,
  ⟨(some 3), .mv (.const (.slice none 0 0)), none⟩])
 (.seq (.reg [⟨(some 6), .mv (.tmp 0), none⟩,
  ⟨(some 7), .bld [(.slice none 0 0), (.int .i64 0), (.int .u64 0)] [(0, 1, (.tmp 6))], none⟩,
  ⟨(some 8), .box 75 (.tmp 7), none⟩,
  ⟨(some 4), .mv (.tmp 8), none⟩])
 (.seq (.reg [⟨(some 9), .mv (.tmp 4), none⟩,
  ⟨(some 10), .mv (.tmp 4), none⟩,
  ⟨(some 11), .bsl 3 1 4 [(.int .i64 0), (.int .i64 0), (.int .i64 0), (.int .i64 0)] [(0, 1, (.const (.int .i64 6))), (1, 1, (.const (.int .i64 6))), (2, 1, (.const (.int .i64 6))), (3, 1, (.const (.int .i64 8)))], none⟩,
  ⟨(some 12), .call (.func 163) [(.tmp 10), (.tmp 11)], none⟩,
  ⟨(some 13), .call (.func 197) [(.tmp 9), (.tmp 12)], none⟩,
  ⟨(some 5), .alc 26 [(.slice none 0 0), (.slice none 0 0), (.slice none 0 0), (.slice none 0 0)], none⟩,
  ⟨none, .st 4 (.tmp 5) (.tmp 13), none⟩])
 (.seq (.seq (.reg [⟨(some 15), .mv (.tmp 4), none⟩]) (.seq (.reg [⟨(some 16), .ld (some 4) (.tmp 5), none⟩]) (.both (.seq (.reg [⟨(some 14), .ld (some 4) (.tmp 5), none⟩]) (.seq (.reg [⟨(some 17), .call (.func 211) [(.tmp 15), (.tmp 16)], none⟩]) (.seq (.reg [⟨none, .st 4 (.tmp 2) (.tmp 14), none⟩]) (.seq (.reg [⟨(some 3), .mv (.tmp 17), none⟩]) (.skip))))) (.seq (.reg [⟨(some 17), .call (.func 211) [(.tmp 15), (.tmp 16)], none⟩]) (.seq (.reg [⟨(some 14), .ld (some 4) (.tmp 5), none⟩]) (.seq (.reg [⟨none, .st 4 (.tmp 2) (.tmp 14), none⟩]) (.seq (.reg [⟨(some 3), .mv (.tmp 17), none⟩]) (.skip))))))))
 (.ret))))
def r_spec_DrawBestLatePlan : List ARes := [.cell 2 (some 4), .tmp 3]
theorem ok_spec_DrawBestLatePlan : FnOk Try.prog 116 18 c_spec_DrawBestLatePlan r_spec_DrawBestLatePlan := ⟨⟨Try.f116, _, Try.func116, by kernel_rfl, rfl, rfl, by kernel_rfl, by kernel_rfl⟩⟩
def c_spec_l1Cur__lots : ACode := .seq (.reg [⟨(some 2), .alc 26 [(.slice none 0 0), (.slice none 0 0), (.slice none 0 0), (.slice none 0 0)], none⟩])
 (.seq (.reg [⟨(some 3), .mv (.tmp 0), none⟩,
  ⟨(some 4), .call (.func 197) [(.tmp 3), (.const (.int .i64 8))], none⟩,
  ⟨none, .st 4 (.tmp 2) (.tmp 4), none⟩])
 (.ret))
def r_spec_l1Cur__lots : List ARes := [.cell 2 (some 4)]
theorem ok_spec_l1Cur__lots : FnOk Try.prog 127 5 c_spec_l1Cur__lots r_spec_l1Cur__lots := ⟨⟨Try.f127, _, Try.func127, by kernel_rfl, rfl, rfl, by kernel_rfl, by kernel_rfl⟩⟩
def c_spec_DrawRateOf : ACode := .seq (.reg [⟨(some 2), .alc 26 [(.slice none 0 0), (.slice none 0 0), (.slice none 0 0), (.slice none 0 0)], none⟩,
  ⟨(some 3), .mv (.const (.int .i64 0)), none⟩,
  ⟨(some 4), .mv (.const (.int .i64 0)), none⟩])
 (.seq (.reg [⟨(some 9), .mv (.tmp 0), none⟩,
  ⟨(some 10), .bld [(.slice none 0 0), (.int .i64 0), (.int .u64 0)] [(0, 1, (.tmp 9))], none⟩,
  ⟨(some 11), .box 75 (.tmp 10), none⟩,
  ⟨(some 5), .mv (.tmp 11), none⟩])
 (.seq (.reg [⟨(some 12), .mv (.tmp 5), none⟩,
  ⟨(some 13), .call (.func 127) [(.tmp 12)], none⟩,
  ⟨(some 6), .alc 26 [(.slice none 0 0), (.slice none 0 0), (.slice none 0 0), (.slice none 0 0)], none⟩,
  ⟨none, .st 4 (.tmp 6) (.tmp 13), none⟩])
 (.seq (.reg [⟨(some 14), .fad 0 (.tmp 6), none⟩,
  ⟨(some 15), .ld none (.tmp 14), none⟩,
  ⟨(some 16), .len (.tmp 15), none⟩,
  ⟨(some 17), .call (.func 206) [(.const (.int .i64 1)), (.tmp 16)], none⟩,
  ⟨(some 7), .mv (.tmp 17), none⟩])
 (.seq (.reg [⟨(some 18), .mv (.tmp 5), none⟩,
  ⟨(some 19), .mv (.tmp 7), none⟩,
  ⟨(some 20), .bin .add (.tmp 19) (.const (.int .i64 1)), none⟩,
  ⟨(some 21), .call (.func 164) [(.tmp 18), (.tmp 20)], none⟩,
  ⟨(some 22), .mv (.tmp 5), none⟩,
  ⟨(some 23), .call (.func 164) [(.tmp 22), (.const (.int .i64 2))], none⟩,
  ⟨(some 24), .bin .sub (.tmp 21) (.tmp 23), none⟩,
  ⟨(some 8), .mv (.tmp 24), none⟩])
 (.seq (.seq (.reg [⟨(some 26), .mv (.tmp 8), none⟩]) (.seq (.reg [⟨(some 27), .mv (.tmp 8), none⟩]) (.seq (.reg [⟨(some 28), .mv (.tmp 5), none⟩]) (.seq (.reg [⟨(some 31), .mv (.tmp 5), none⟩]) (.both (.seq (.reg [⟨(some 25), .ld (some 4) (.tmp 6), none⟩]) (.seq (.reg [⟨(some 29), .call (.func 164) [(.tmp 28), (.const (.int .i64 4))], none⟩]) (.seq (.reg [⟨(some 30), .bin .add (.tmp 27) (.tmp 29), none⟩]) (.seq (.reg [⟨(some 32), .call (.func 164) [(.tmp 31), (.const (.int .i64 2))], none⟩]) (.seq (.reg [⟨(some 33), .bin .sub (.tmp 30) (.tmp 32), none⟩]) (.seq (.reg [⟨(some 34), .rcall (.func 184) [(.tmp 33), (.const (.int .i64 9))], none⟩]) (.seq (.reg [⟨none, .st 4 (.tmp 2) (.tmp 25), none⟩]) (.seq (.reg [⟨(some 3), .mv (.tmp 26), none⟩]) (.seq (.reg [⟨(some 4), .mv (.tmp 34), none⟩]) (.skip)))))))))) (.seq (.reg [⟨(some 29), .call (.func 164) [(.tmp 28), (.const (.int .i64 4))], none⟩]) (.seq (.reg [⟨(some 30), .bin .add (.tmp 27) (.tmp 29), none⟩]) (.both (.seq (.reg [⟨(some 25), .ld (some 4) (.tmp 6), none⟩]) (.seq (.reg [⟨(some 32), .call (.func 164) [(.tmp 31), (.const (.int .i64 2))], none⟩]) (.seq (.reg [⟨(some 33), .bin .sub (.tmp 30) (.tmp 32), none⟩]) (.seq (.reg [⟨(some 34), .rcall (.func 184) [(.tmp 33), (.const (.int .i64 9))], none⟩]) (.seq (.reg [⟨none, .st 4 (.tmp 2) (.tmp 25), none⟩]) (.seq (.reg [⟨(some 3), .mv (.tmp 26), none⟩]) (.seq (.reg [⟨(some 4), .mv (.tmp 34), none⟩]) (.skip)))))))) (.seq (.reg [⟨(some 32), .call (.func 164) [(.tmp 31), (.const (.int .i64 2))], none⟩]) (.seq (.reg [⟨(some 25), .ld (some 4) (.tmp 6), none⟩]) (.seq (.reg [⟨(some 33), .bin .sub (.tmp 30) (.tmp 32), none⟩]) (.seq (.reg [⟨(some 34), .rcall (.func 184) [(.tmp 33), (.const (.int .i64 9))], none⟩]) (.seq (.reg [⟨none, .st 4 (.tmp 2) (.tmp 25), none⟩]) (.seq (.reg [⟨(some 3), .mv (.tmp 26), none⟩]) (.seq (.reg [⟨(some 4), .mv (.tmp 34), none⟩]) (.skip))))))))))))))))
 (.ret))))))
def r_spec_DrawRateOf : List ARes := [.cell 2 (some 4), .tmp 3, .tmp 4]
theorem ok_spec_DrawRateOf : FnOk Try.prog 135 35 c_spec_DrawRateOf r_spec_DrawRateOf := ⟨⟨Try.f135, _, Try.func135, by kernel_rfl, rfl, rfl, by kernel_rfl, by kernel_rfl⟩⟩
def c_spec_l1Cur__prices3 : ACode := .seq (.reg [⟨(some 3), .box 26 (.tmp 1), none⟩,
  ⟨(some 4), .mv (.const (.slice none 0 0)), none⟩])
 (.seq (.seq (.reg [⟨(some 7), .ld (some 4) (.tmp 3), none⟩,
  ⟨(some 8), .call (.func 129) [(.tmp 7)], none⟩,
  ⟨(some 9), .un .not (.tmp 8), none⟩])
 (.cond (.tmp 9) (.seq (.reg [⟨(some 10), .bsl 3 1 1 [(.int .i64 0)] [(0, 1, (.const (.int .i64 0)))], none⟩,
  ⟨(some 4), .mv (.tmp 10), none⟩])
 (.ret)) (.skip)))
 (.seq (.reg [⟨(some 11), .ld (some 4) (.tmp 3), none⟩,
  ⟨(some 12), .call (.func 162) [(.tmp 11)], none⟩,
  ⟨(some 5), .mv (.tmp 12), none⟩])
 (.seq (.seq (.reg [⟨(some 6), .mv (.const (.int .i64 0)), none⟩])
 (.block 0 (.loop (.seq (.seq (.reg [⟨(some 13), .mv (.tmp 6), none⟩,
  ⟨(some 14), .mv (.tmp 5), none⟩,
  ⟨(some 15), .len (.tmp 14), none⟩,
  ⟨(some 16), .bin .lss (.tmp 13) (.tmp 15), none⟩])
 (.cond (.tmp 16) (.skip) (.exit 0)))
 (.seq (.block 1 (.seq (.reg [⟨(some 19), .mv (.tmp 0), none⟩,
  ⟨(some 20), .call (.func 149) [(.tmp 19), (.const (.int .i64 6))], none⟩])
 (.cond (.tmp 20) (.reg [⟨(some 21), .mv (.tmp 5), none⟩,
  ⟨(some 22), .mv (.tmp 6), none⟩,
  ⟨(some 23), .mv (.tmp 0), none⟩,
  ⟨(some 24), .mv (.tmp 5), none⟩,
  ⟨(some 25), .mv (.tmp 6), none⟩,
  ⟨(some 26), .iad 1 (.tmp 24) (.tmp 25), none⟩,
  ⟨(some 27), .ld none (.tmp 26), none⟩,
  ⟨(some 28), .bin .add (.tmp 27) (.const (.int .i64 2)), none⟩,
  ⟨(some 29), .call (.func 164) [(.tmp 23), (.tmp 28)], none⟩,
  ⟨(some 30), .iad 1 (.tmp 21) (.tmp 22), none⟩,
  ⟨none, .st 1 (.tmp 30) (.tmp 29), none⟩]) (.skip))))
 (.reg [⟨(some 17), .mv (.tmp 6), none⟩,
  ⟨(some 18), .bin .add (.tmp 17) (.const (.int .i64 1)), none⟩,
  ⟨(some 6), .mv (.tmp 18), none⟩]))))))
 (.seq (.seq (.reg [⟨(some 31), .mv (.tmp 0), none⟩,
  ⟨(some 32), .call (.func 164) [(.tmp 31), (.const (.int .i64 24))], none⟩])
 (.block 2 (.seq (.reg [⟨(some 34), .bin .eql (.tmp 32) (.const (.int .i64 0)), none⟩,
  ⟨(some 33), .mv (.tmp 34), none⟩])
 (.cond (.tmp 33) (.reg [⟨(some 35), .mv (.tmp 5), none⟩,
  ⟨(some 36), .bsl 3 1 1 [(.int .i64 0)] [(0, 1, (.const (.int .i64 0)))], none⟩,
  ⟨(some 37), .app 3 1 8 (.tmp 35) (.tmp 36), none⟩,
  ⟨(some 5), .mv (.tmp 37), none⟩]) (.seq (.reg [⟨(some 39), .bin .eql (.tmp 32) (.const (.int .i64 1)), none⟩,
  ⟨(some 38), .mv (.tmp 39), none⟩])
 (.cond (.tmp 38) (.seq (.reg [⟨(some 40), .mv (.tmp 5), none⟩,
  ⟨(some 41), .len (.tmp 40), none⟩,
  ⟨(some 42), .bin .gtr (.tmp 41) (.const (.int .i64 0)), none⟩])
 (.cond (.tmp 42) (.reg [⟨(some 43), .mv (.tmp 5), none⟩,
  ⟨(some 44), .mv (.tmp 0), none⟩,
  ⟨(some 45), .bsl 3 1 3 [(.int .i64 0), (.int .i64 0), (.int .i64 0)] [(0, 1, (.const (.int .i64 (-1)))), (1, 1, (.const (.int .i64 9999))), (2, 1, (.const (.int .i64 10000)))], none⟩,
  ⟨(some 46), .call (.func 163) [(.tmp 44), (.tmp 45)], none⟩,
  ⟨(some 47), .iad 1 (.tmp 43) (.const (.int .i64 0)), none⟩,
  ⟨none, .st 1 (.tmp 47) (.tmp 46), none⟩]) (.skip))) (.skip)))))))
 (.seq (.reg [⟨(some 48), .mv (.tmp 5), none⟩,
  ⟨(some 4), .mv (.tmp 48), none⟩])
 (.ret))))))
def r_spec_l1Cur__prices3 : List ARes := [.tmp 4]
theorem ok_spec_l1Cur__prices3 : FnOk Try.prog 148 49 c_spec_l1Cur__prices3 r_spec_l1Cur__prices3 := ⟨⟨Try.f148, _, Try.func148, by kernel_rfl, rfl, rfl, by kernel_rfl, by kernel_rfl⟩⟩
def c_spec_l1Cur__one : ACode := .seq (.reg [⟨(some 4), .mv (.const (.bool false)), none⟩])
 (.seq (.reg [⟨(some 5), .mv (.tmp 0), none⟩,
  ⟨(some 6), .mv (.tmp 1), none⟩,
  ⟨(some 7), .call (.func 164) [(.tmp 5), (.tmp 6)], none⟩,
  ⟨(some 8), .bin .eql (.tmp 7) (.const (.int .i64 0)), none⟩,
  ⟨(some 4), .mv (.tmp 8), none⟩])
 (.ret))
def r_spec_l1Cur__one : List ARes := [.tmp 4]
theorem ok_spec_l1Cur__one : FnOk Try.prog 149 9 c_spec_l1Cur__one r_spec_l1Cur__one := ⟨⟨Try.f149, _, Try.func149, by kernel_rfl, rfl, rfl, by kernel_rfl, by kernel_rfl⟩⟩
def c_spec_l1Cur__amounts : ACode := .seq (.reg [⟨(some 3), .box 26 (.tmp 1), none⟩,
  ⟨(some 4), .mv (.const (.slice none 0 0)), none⟩])
 (.seq (.reg [⟨(some 11), .fad 0 (.tmp 3), none⟩,
  ⟨(some 12), .ld none (.tmp 11), none⟩,
  ⟨(some 13), .len (.tmp 12), none⟩,
  ⟨(some 14), .mks 3 8 [(.int .i64 0)] (.tmp 13) (.tmp 13), none⟩,
  ⟨(some 5), .mv (.tmp 14), none⟩])
 (.seq (.seq (.reg [⟨(some 15), .ld (some 4) (.tmp 3), none⟩,
  ⟨(some 16), .call (.func 129) [(.tmp 15)], none⟩,
  ⟨(some 17), .un .not (.tmp 16), none⟩])
 (.cond (.tmp 17) (.seq (.reg [⟨(some 18), .mv (.tmp 5), none⟩,
  ⟨(some 4), .mv (.tmp 18), none⟩])
 (.ret)) (.skip)))
 (.seq (.seq (.reg [⟨(some 6), .mv (.const (.int .i64 0)), none⟩])
 (.block 0 (.loop (.seq (.seq (.reg [⟨(some 19), .mv (.tmp 6), none⟩,
  ⟨(some 20), .fad 0 (.tmp 3), none⟩,
  ⟨(some 21), .ld none (.tmp 20), none⟩,
  ⟨(some 22), .len (.tmp 21), none⟩,
  ⟨(some 23), .bin .lss (.tmp 19) (.tmp 22), none⟩])
 (.cond (.tmp 23) (.skip) (.exit 0)))
 (.seq (.block 1 (.seq (.reg [⟨(some 26), .fad 0 (.tmp 3), none⟩,
  ⟨(some 27), .ld none (.tmp 26), none⟩,
  ⟨(some 28), .mv (.tmp 6), none⟩,
  ⟨(some 29), .iad 1 (.tmp 27) (.tmp 28), none⟩,
  ⟨(some 30), .ld none (.tmp 29), none⟩,
  ⟨(some 7), .mv (.tmp 30), none⟩])
 (.block 2 (.loop (.seq (.seq (.reg [⟨(some 31), .mv (.tmp 7), none⟩,
  ⟨(some 32), .bin .gtr (.tmp 31) (.const (.int .i64 0)), none⟩])
 (.cond (.tmp 32) (.skip) (.exit 2)))
 (.block 3 (.seq (.reg [⟨(some 33), .mv (.tmp 6), none⟩,
  ⟨(some 8), .mv (.tmp 33), none⟩])
 (.seq (.seq (.reg [⟨(some 34), .mv (.tmp 0), none⟩,
  ⟨(some 35), .call (.func 149) [(.tmp 34), (.const (.int .i64 2))], none⟩])
 (.cond (.tmp 35) (.reg [⟨(some 36), .mv (.tmp 0), none⟩,
  ⟨(some 37), .mv (.tmp 6), none⟩,
  ⟨(some 38), .bin .add (.tmp 37) (.const (.int .i64 1)), none⟩,
  ⟨(some 39), .call (.func 164) [(.tmp 36), (.tmp 38)], none⟩,
  ⟨(some 8), .mv (.tmp 39), none⟩]) (.skip)))
 (.seq (.reg [⟨(some 40), .mv (.tmp 7), none⟩,
  ⟨(some 9), .mv (.tmp 40), none⟩])
 (.seq (.seq (.reg [⟨(some 41), .mv (.tmp 0), none⟩,
  ⟨(some 42), .call (.func 149) [(.tmp 41), (.const (.int .i64 2))], none⟩])
 (.cond (.tmp 42) (.reg [⟨(some 43), .mv (.tmp 0), none⟩,
  ⟨(some 44), .mv (.tmp 7), none⟩,
  ⟨(some 45), .call (.func 164) [(.tmp 43), (.tmp 44)], none⟩,
  ⟨(some 46), .bin .add (.const (.int .i64 1)) (.tmp 45), none⟩,
  ⟨(some 9), .mv (.tmp 46), none⟩]) (.skip)))
 (.seq (.reg [⟨(some 47), .mv (.tmp 5), none⟩,
  ⟨(some 48), .mv (.tmp 8), none⟩,
  ⟨(some 49), .mv (.tmp 5), none⟩,
  ⟨(some 50), .mv (.tmp 8), none⟩,
  ⟨(some 51), .iad 1 (.tmp 49) (.tmp 50), none⟩,
  ⟨(some 52), .ld none (.tmp 51), none⟩,
  ⟨(some 53), .mv (.tmp 9), none⟩,
  ⟨(some 54), .bin .add (.tmp 52) (.tmp 53), none⟩,
  ⟨(some 55), .iad 1 (.tmp 47) (.tmp 48), none⟩,
  ⟨none, .st 1 (.tmp 55) (.tmp 54), none⟩])
 (.reg [⟨(some 56), .mv (.tmp 7), none⟩,
  ⟨(some 57), .mv (.tmp 9), none⟩,
  ⟨(some 58), .bin .sub (.tmp 56) (.tmp 57), none⟩,
  ⟨(some 7), .mv (.tmp 58), none⟩]))))))))))))
 (.reg [⟨(some 24), .mv (.tmp 6), none⟩,
  ⟨(some 25), .bin .add (.tmp 24) (.const (.int .i64 1)), none⟩,
  ⟨(some 6), .mv (.tmp 25), none⟩]))))))
 (.seq (.seq (.reg [⟨(some 59), .mv (.tmp 0), none⟩,
  ⟨(some 60), .call (.func 164) [(.tmp 59), (.const (.int .i64 30))], none⟩])
 (.block 4 (.seq (.reg [⟨(some 62), .bin .eql (.tmp 60) (.const (.int .i64 0)), none⟩,
  ⟨(some 61), .mv (.tmp 62), none⟩])
 (.cond (.tmp 61) (.reg [⟨(some 63), .mv (.tmp 5), none⟩,
  ⟨(some 64), .mv (.tmp 0), none⟩,
  ⟨(some 65), .bsl 3 1 2 [(.int .i64 0), (.int .i64 0)] [(0, 1, (.const (.int .i64 0))), (1, 1, (.const (.int .i64 1)))], none⟩,
  ⟨(some 66), .call (.func 163) [(.tmp 64), (.tmp 65)], none⟩,
  ⟨(some 67), .bsl 3 1 1 [(.int .i64 0)] [(0, 1, (.tmp 66))], none⟩,
  ⟨(some 68), .app 3 1 8 (.tmp 63) (.tmp 67), none⟩,
  ⟨(some 5), .mv (.tmp 68), none⟩]) (.seq (.reg [⟨(some 70), .bin .eql (.tmp 60) (.const (.int .i64 1)), none⟩,
  ⟨(some 69), .mv (.tmp 70), none⟩])
 (.cond (.tmp 69) (.seq (.reg [⟨(some 71), .mv (.tmp 5), none⟩,
  ⟨(some 72), .len (.tmp 71), none⟩,
  ⟨(some 73), .bin .gtr (.tmp 72) (.const (.int .i64 0)), none⟩])
 (.cond (.tmp 73) (.seq (.reg [⟨(some 74), .mv (.tmp 0), none⟩,
  ⟨(some 75), .mv (.tmp 5), none⟩,
  ⟨(some 76), .len (.tmp 75), none⟩,
  ⟨(some 77), .call (.func 164) [(.tmp 74), (.tmp 76)], none⟩,
  ⟨(some 10), .mv (.tmp 77), none⟩])
 (.seq (.reg [⟨(some 78), .mv (.tmp 5), none⟩]) (.seq (.reg [⟨(some 79), .mv (.tmp 10), none⟩]) (.seq (.reg [⟨(some 80), .mv (.tmp 5), none⟩]) (.seq (.reg [⟨(some 81), .mv (.tmp 10), none⟩]) (.seq (.reg [⟨(some 82), .iad 1 (.tmp 80) (.tmp 81), none⟩]) (.seq (.reg [⟨(some 84), .mv (.tmp 0), none⟩]) (.both (.seq (.reg [⟨(some 83), .ld none (.tmp 82), none⟩]) (.seq (.reg [⟨(some 85), .bsl 3 1 4 [(.int .i64 0), (.int .i64 0), (.int .i64 0), (.int .i64 0)] [(0, 1, (.const (.int .i64 1))), (1, 1, (.const (.int .i64 (-1)))), (2, 1, (.const (.int .i64 4611686018427387904))), (3, 1, (.const (.int .i64 (-9223372036854775808))))], none⟩]) (.seq (.reg [⟨(some 86), .call (.func 163) [(.tmp 84), (.tmp 85)], none⟩]) (.seq (.reg [⟨(some 87), .bin .add (.tmp 83) (.tmp 86), none⟩]) (.seq (.reg [⟨(some 88), .iad 1 (.tmp 78) (.tmp 79), none⟩]) (.seq (.reg [⟨none, .st 1 (.tmp 88) (.tmp 87), none⟩]) (.skip))))))) (.seq (.reg [⟨(some 85), .bsl 3 1 4 [(.int .i64 0), (.int .i64 0), (.int .i64 0), (.int .i64 0)] [(0, 1, (.const (.int .i64 1))), (1, 1, (.const (.int .i64 (-1)))), (2, 1, (.const (.int .i64 4611686018427387904))), (3, 1, (.const (.int .i64 (-9223372036854775808))))], none⟩]) (.both (.seq (.reg [⟨(some 83), .ld none (.tmp 82), none⟩]) (.seq (.reg [⟨(some 86), .call (.func 163) [(.tmp 84), (.tmp 85)], none⟩]) (.seq (.reg [⟨(some 87), .bin .add (.tmp 83) (.tmp 86), none⟩]) (.seq (.reg [⟨(some 88), .iad 1 (.tmp 78) (.tmp 79), none⟩]) (.seq (.reg [⟨none, .st 1 (.tmp 88) (.tmp 87), none⟩]) (.skip)))))) (.seq (.reg [⟨(some 86), .call (.func 163) [(.tmp 84), (.tmp 85)], none⟩]) (.seq (.reg [⟨(some 83), .ld none (.tmp 82), none⟩]) (.seq (.reg [⟨(some 87), .bin .add (.tmp 83) (.tmp 86), none⟩]) (.seq (.reg [⟨(some 88), .iad 1 (.tmp 78) (.tmp 79), none⟩]) (.seq (.reg [⟨none, .st 1 (.tmp 88) (.tmp 87), none⟩]) (.skip)))))))))))))))) (.skip))) (.skip)))))))
 (.seq (.reg [⟨(some 89), .mv (.tmp 5), none⟩,
  ⟨(some 4), .mv (.tmp 89), none⟩])
 (.ret))))))
def r_spec_l1Cur__amounts : List ARes := [.tmp 4]
theorem ok_spec_l1Cur__amounts : FnOk Try.prog 152 90 c_spec_l1Cur__amounts r_spec_l1Cur__amounts := ⟨⟨Try.f152, _, Try.func152, by kernel_rfl, rfl, rfl, by kernel_rfl, by kernel_rfl⟩⟩
def c_spec_l1Cur__among : ACode := .seq (.reg [⟨(some 4), .mv (.const (.int .i64 0)), none⟩])
 (.seq (.reg [⟨(some 5), .mv (.tmp 1), none⟩,
  ⟨(some 6), .mv (.tmp 0), none⟩,
  ⟨(some 7), .mv (.tmp 1), none⟩,
  ⟨(some 8), .len (.tmp 7), none⟩,
  ⟨(some 9), .call (.func 164) [(.tmp 6), (.tmp 8)], none⟩,
  ⟨(some 10), .iad 1 (.tmp 5) (.tmp 9), none⟩,
  ⟨(some 11), .ld none (.tmp 10), none⟩,
  ⟨(some 4), .mv (.tmp 11), none⟩])
 (.ret))
def r_spec_l1Cur__among : List ARes := [.tmp 4]
theorem ok_spec_l1Cur__among : FnOk Try.prog 163 12 c_spec_l1Cur__among r_spec_l1Cur__among := ⟨⟨Try.f163, _, Try.func163, by kernel_rfl, rfl, rfl, by kernel_rfl, by kernel_rfl⟩⟩
def c_spec_l1Cur__pick : ACode := .seq (.reg [⟨(some 4), .mv (.const (.int .i64 0)), none⟩])
 (.seq (.seq (.reg [⟨(some 6), .mv (.tmp 1), none⟩,
  ⟨(some 7), .bin .leq (.tmp 6) (.const (.int .i64 1)), none⟩])
 (.cond (.tmp 7) (.seq (.reg [⟨(some 4), .mv (.const (.int .i64 0)), none⟩])
 (.ret)) (.skip)))
 (.seq (.reg [⟨(some 8), .mv (.tmp 0), none⟩,
  ⟨(some 9), .call (.func 233) [(.tmp 8)], none⟩,
  ⟨(some 5), .mv (.tmp 9), none⟩])
 (.seq (.seq (.reg [⟨(some 10), .mv (.tmp 1), none⟩,
  ⟨(some 11), .bin .gtr (.tmp 10) (.const (.int .i64 200)), none⟩])
 (.cond (.tmp 11) (.reg [⟨(some 12), .mv (.tmp 5), none⟩,
  ⟨(some 13), .bin .mul (.tmp 12) (.const (.int .i64 256)), none⟩,
  ⟨(some 14), .mv (.tmp 0), none⟩,
  ⟨(some 15), .call (.func 233) [(.tmp 14)], none⟩,
  ⟨(some 16), .bin .add (.tmp 13) (.tmp 15), none⟩,
  ⟨(some 5), .mv (.tmp 16), none⟩]) (.skip)))
 (.seq (.reg [⟨(some 17), .mv (.tmp 5), none⟩,
  ⟨(some 18), .mv (.tmp 1), none⟩,
  ⟨(some 19), .bin .rem (.tmp 17) (.tmp 18), none⟩,
  ⟨(some 4), .mv (.tmp 19), none⟩])
 (.ret)))))
def r_spec_l1Cur__pick : List ARes := [.tmp 4]
theorem ok_spec_l1Cur__pick : FnOk Try.prog 164 20 c_spec_l1Cur__pick r_spec_l1Cur__pick := ⟨⟨Try.f164, _, Try.func164, by kernel_rfl, rfl, rfl, by kernel_rfl, by kernel_rfl⟩⟩
def c_spec_DrawStocksOf : ACode := .seq (.reg [⟨(some 2), .alc 26 [(.slice none 0 0), (.slice none 0 0), (.slice none 0 0), (.slice none 0 0)], none⟩,
  ⟨(some 3), .mv (.const (.slice none 0 0)), none⟩])
 (.seq (.reg [⟨(some 6), .mv (.tmp 0), none⟩,
  ⟨(some 7), .bld [(.slice none 0 0), (.int .i64 0), (.int .u64 0)] [(0, 1, (.tmp 6))], none⟩,
  ⟨(some 8), .box 75 (.tmp 7), none⟩,
  ⟨(some 4), .mv (.tmp 8), none⟩])
 (.seq (.reg [⟨(some 9), .mv (.tmp 4), none⟩,
  ⟨(some 10), .call (.func 127) [(.tmp 9)], none⟩,
  ⟨(some 5), .alc 26 [(.slice none 0 0), (.slice none 0 0), (.slice none 0 0), (.slice none 0 0)], none⟩,
  ⟨none, .st 4 (.tmp 5) (.tmp 10), none⟩])
 (.seq (.seq (.reg [⟨(some 12), .mv (.tmp 4), none⟩]) (.seq (.reg [⟨(some 13), .ld (some 4) (.tmp 5), none⟩]) (.both (.seq (.reg [⟨(some 11), .ld (some 4) (.tmp 5), none⟩]) (.seq (.reg [⟨(some 14), .call (.func 152) [(.tmp 12), (.tmp 13)], none⟩]) (.seq (.reg [⟨none, .st 4 (.tmp 2) (.tmp 11), none⟩]) (.seq (.reg [⟨(some 3), .mv (.tmp 14), none⟩]) (.skip))))) (.seq (.reg [⟨(some 14), .call (.func 152) [(.tmp 12), (.tmp 13)], none⟩]) (.seq (.reg [⟨(some 11), .ld (some 4) (.tmp 5), none⟩]) (.seq (.reg [⟨none, .st 4 (.tmp 2) (.tmp 11), none⟩]) (.seq (.reg [⟨(some 3), .mv (.tmp 14), none⟩]) (.skip))))))))
 (.ret))))
def r_spec_DrawStocksOf : List ARes := [.cell 2 (some 4), .tmp 3]
theorem ok_spec_DrawStocksOf : FnOk Try.prog 169 15 c_spec_DrawStocksOf r_spec_DrawStocksOf := ⟨⟨Try.f169, _, Try.func169, by kernel_rfl, rfl, rfl, by kernel_rfl, by kernel_rfl⟩⟩
def c_spec_DrawCanMeet : ACode := .seq (.reg [⟨(some 2), .alc 26 [(.slice none 0 0), (.slice none 0 0), (.slice none 0 0), (.slice none 0 0)], none⟩,
  ⟨(some 3), .mv (.const (.slice none 0 0)), none⟩])
 (.seq (.reg [⟨(some 6), .mv (.tmp 0), none⟩,
  ⟨(some 7), .bld [(.slice none 0 0), (.int .i64 0), (.int .u64 0)] [(0, 1, (.tmp 6))], none⟩,
  ⟨(some 8), .box 75 (.tmp 7), none⟩,
  ⟨(some 4), .mv (.tmp 8), none⟩])
 (.seq (.reg [⟨(some 9), .mv (.tmp 4), none⟩,
  ⟨(some 10), .call (.func 127) [(.tmp 9)], none⟩,
  ⟨(some 5), .alc 26 [(.slice none 0 0), (.slice none 0 0), (.slice none 0 0), (.slice none 0 0)], none⟩,
  ⟨none, .st 4 (.tmp 5) (.tmp 10), none⟩])
 (.seq (.seq (.reg [⟨(some 12), .mv (.tmp 4), none⟩]) (.seq (.reg [⟨(some 13), .ld (some 4) (.tmp 5), none⟩]) (.both (.seq (.reg [⟨(some 11), .ld (some 4) (.tmp 5), none⟩]) (.seq (.reg [⟨(some 14), .call (.func 193) [(.tmp 12), (.tmp 13)], none⟩]) (.seq (.reg [⟨none, .st 4 (.tmp 2) (.tmp 11), none⟩]) (.seq (.reg [⟨(some 3), .mv (.tmp 14), none⟩]) (.skip))))) (.seq (.reg [⟨(some 14), .call (.func 193) [(.tmp 12), (.tmp 13)], none⟩]) (.seq (.reg [⟨(some 11), .ld (some 4) (.tmp 5), none⟩]) (.seq (.reg [⟨none, .st 4 (.tmp 2) (.tmp 11), none⟩]) (.seq (.reg [⟨(some 3), .mv (.tmp 14), none⟩]) (.skip))))))))
 (.ret))))
def r_spec_DrawCanMeet : List ARes := [.cell 2 (some 4), .tmp 3]
theorem ok_spec_DrawCanMeet : FnOk Try.prog 186 15 c_spec_DrawCanMeet r_spec_DrawCanMeet := ⟨⟨Try.f186, _, Try.func186, by kernel_rfl, rfl, rfl, by kernel_rfl, by kernel_rfl⟩⟩
def c_spec_l1Cur__limits : ACode := .seq (.reg [⟨(some 3), .box 26 (.tmp 1), none⟩,
  ⟨(some 4), .mv (.const (.slice none 0 0)), none⟩])
 (.seq (.reg [⟨(some 11), .bsl 3 1 0 [] [], none⟩,
  ⟨(some 12), .mv (.tmp 0), none⟩,
  ⟨(some 13), .bsl 3 1 4 [(.int .i64 0), (.int .i64 0), (.int .i64 0), (.int .i64 0)] [(0, 1, (.const (.int .i64 0))), (1, 1, (.const (.int .i64 0))), (2, 1, (.const (.int .i64 6))), (3, 1, (.const (.int .i64 9)))], none⟩,
  ⟨(some 14), .call (.func 163) [(.tmp 12), (.tmp 13)], none⟩,
  ⟨(some 5), .mv (.tmp 11), none⟩,
  ⟨(some 6), .mv (.const (.int .i64 0)), none⟩,
  ⟨(some 7), .mv (.tmp 14), none⟩])
 (.seq (.seq (.reg [⟨(some 8), .mv (.const (.int .i64 0)), none⟩])
 (.block 0 (.loop (.seq (.seq (.reg [⟨(some 15), .mv (.tmp 8), none⟩,
  ⟨(some 16), .fad 0 (.tmp 3), none⟩,
  ⟨(some 17), .ld none (.tmp 16), none⟩,
  ⟨(some 18), .len (.tmp 17), none⟩,
  ⟨(some 19), .bin .lss (.tmp 15) (.tmp 18), none⟩])
 (.cond (.tmp 19) (.skip) (.exit 0)))
 (.seq (.block 1 (.seq (.reg [⟨(some 22), .mv (.tmp 0), none⟩,
  ⟨(some 23), .bsl 3 1 6 [(.int .i64 0), (.int .i64 0), (.int .i64 0), (.int .i64 0), (.int .i64 0), (.int .i64 0)] [(0, 1, (.const (.int .i64 0))), (1, 1, (.const (.int .i64 2))), (2, 1, (.const (.int .i64 4))), (3, 1, (.const (.int .i64 6))), (4, 1, (.const (.int .i64 10))), (5, 1, (.const (.int .i64 16)))], none⟩,
  ⟨(some 24), .call (.func 163) [(.tmp 22), (.tmp 23)], none⟩,
  ⟨(some 9), .mv (.tmp 24), none⟩])
 (.seq (.seq (.reg [⟨(some 25), .mv (.tmp 7), none⟩,
  ⟨(some 26), .bin .gtr (.tmp 25) (.const (.int .i64 0)), none⟩])
 (.cond (.tmp 26) (.reg [⟨(some 27), .mv (.tmp 7), none⟩,
  ⟨(some 9), .mv (.tmp 27), none⟩]) (.skip)))
 (.seq (.reg [⟨(some 28), .mv (.tmp 6), none⟩,
  ⟨(some 29), .mv (.tmp 9), none⟩,
  ⟨(some 30), .bin .add (.tmp 28) (.tmp 29), none⟩,
  ⟨(some 31), .fad 0 (.tmp 3), none⟩,
  ⟨(some 32), .ld none (.tmp 31), none⟩,
  ⟨(some 33), .mv (.tmp 8), none⟩,
  ⟨(some 34), .iad 1 (.tmp 32) (.tmp 33), none⟩,
  ⟨(some 35), .ld none (.tmp 34), none⟩,
  ⟨(some 36), .bin .sub (.tmp 30) (.tmp 35), none⟩,
  ⟨(some 6), .mv (.tmp 36), none⟩])
 (.seq (.seq (.reg [⟨(some 37), .mv (.tmp 6), none⟩,
  ⟨(some 38), .bin .lss (.tmp 37) (.const (.int .i64 0)), none⟩,
  ⟨(some 39), .mv (.tmp 38), none⟩,
  ⟨(some 40), .mv (.tmp 0), (some (39, true))⟩,
  ⟨(some 41), .call (.func 149) [(.tmp 40), (.const (.int .i64 12))], (some (39, true))⟩,
  ⟨(some 42), .un .not (.tmp 41), (some (39, true))⟩,
  ⟨(some 43), .pick (.tmp 39) (.tmp 42) (.const (.bool false)), none⟩])
 (.cond (.tmp 43) (.seq (.reg [⟨(some 44), .mv (.tmp 9), none⟩,
  ⟨(some 45), .mv (.tmp 6), none⟩,
  ⟨(some 46), .bin .sub (.tmp 44) (.tmp 45), none⟩,
  ⟨(some 9), .mv (.tmp 46), none⟩])
 (.reg [⟨(some 6), .mv (.const (.int .i64 0)), none⟩])) (.skip)))
 (.reg [⟨(some 47), .mv (.tmp 5), none⟩,
  ⟨(some 48), .mv (.tmp 9), none⟩,
  ⟨(some 49), .call (.func 184) [(.tmp 48), (.const (.int .i64 160))], none⟩,
  ⟨(some 50), .bsl 3 1 1 [(.int .i64 0)] [(0, 1, (.tmp 49))], none⟩,
  ⟨(some 51), .app 3 1 8 (.tmp 47) (.tmp 50), none⟩,
  ⟨(some 5), .mv (.tmp 51), none⟩]))))))
 (.reg [⟨(some 20), .mv (.tmp 8), none⟩,
  ⟨(some 21), .bin .add (.tmp 20) (.const (.int .i64 1)), none⟩,
  ⟨(some 8), .mv (.tmp 21), none⟩]))))))
 (.seq (.seq (.reg [⟨(some 52), .mv (.tmp 0), none⟩,
  ⟨(some 53), .call (.func 164) [(.tmp 52), (.const (.int .i64 40))], none⟩])
 (.block 2 (.seq (.reg [⟨(some 55), .bin .eql (.tmp 53) (.const (.int .i64 0)), none⟩,
  ⟨(some 54), .mv (.tmp 55), none⟩])
 (.cond (.tmp 54) (.reg [⟨(some 56), .mv (.tmp 5), none⟩,
  ⟨(some 57), .bsl 3 1 1 [(.int .i64 0)] [(0, 1, (.const (.int .i64 3)))], none⟩,
  ⟨(some 58), .app 3 1 8 (.tmp 56) (.tmp 57), none⟩,
  ⟨(some 5), .mv (.tmp 58), none⟩]) (.seq (.reg [⟨(some 60), .bin .eql (.tmp 53) (.const (.int .i64 1)), none⟩,
  ⟨(some 59), .mv (.tmp 60), none⟩])
 (.cond (.tmp 59) (.seq (.reg [⟨(some 61), .mv (.tmp 5), none⟩,
  ⟨(some 62), .len (.tmp 61), none⟩,
  ⟨(some 63), .bin .gtr (.tmp 62) (.const (.int .i64 0)), none⟩])
 (.cond (.tmp 63) (.reg [⟨(some 64), .mv (.tmp 5), none⟩,
  ⟨(some 65), .mv (.tmp 0), none⟩,
  ⟨(some 66), .mv (.tmp 5), none⟩,
  ⟨(some 67), .len (.tmp 66), none⟩,
  ⟨(some 68), .call (.func 164) [(.tmp 65), (.tmp 67)], none⟩,
  ⟨(some 69), .mv (.tmp 0), none⟩,
  ⟨(some 70), .bsl 3 1 4 [(.int .i64 0), (.int .i64 0), (.int .i64 0), (.int .i64 0)] [(0, 1, (.const (.int .i64 (-1)))), (1, 1, (.const (.int .i64 160))), (2, 1, (.const (.int .i64 161))), (3, 1, (.const (.int .i64 4611686018427387904)))], none⟩,
  ⟨(some 71), .call (.func 163) [(.tmp 69), (.tmp 70)], none⟩,
  ⟨(some 72), .iad 1 (.tmp 64) (.tmp 68), none⟩,
  ⟨none, .st 1 (.tmp 72) (.tmp 71), none⟩]) (.skip))) (.seq (.reg [⟨(some 74), .bin .eql (.tmp 53) (.const (.int .i64 2)), none⟩,
  ⟨(some 73), .mv (.tmp 74), none⟩])
 (.cond (.tmp 73) (.seq (.reg [⟨(some 10), .mv (.const (.int .i64 0)), none⟩])
 (.block 3 (.loop (.seq (.seq (.reg [⟨(some 75), .mv (.tmp 10), none⟩,
  ⟨(some 76), .mv (.tmp 5), none⟩,
  ⟨(some 77), .len (.tmp 76), none⟩,
  ⟨(some 78), .bin .lss (.tmp 75) (.tmp 77), none⟩])
 (.cond (.tmp 78) (.skip) (.exit 3)))
 (.seq (.block 4 (.reg [⟨(some 81), .mv (.tmp 5), none⟩,
  ⟨(some 82), .mv (.tmp 10), none⟩,
  ⟨(some 83), .iad 1 (.tmp 81) (.tmp 82), none⟩,
  ⟨none, .st 1 (.tmp 83) (.const (.int .i64 160)), none⟩]))
 (.reg [⟨(some 79), .mv (.tmp 10), none⟩,
  ⟨(some 80), .bin .add (.tmp 79) (.const (.int .i64 1)), none⟩,
  ⟨(some 10), .mv (.tmp 80), none⟩])))))) (.skip)))))))))
 (.seq (.reg [⟨(some 84), .mv (.tmp 5), none⟩,
  ⟨(some 4), .mv (.tmp 84), none⟩])
 (.ret)))))
def r_spec_l1Cur__limits : List ARes := [.tmp 4]
theorem ok_spec_l1Cur__limits : FnOk Try.prog 193 85 c_spec_l1Cur__limits r_spec_l1Cur__limits := ⟨⟨Try.f193, _, Try.func193, by kernel_rfl, rfl, rfl, by kernel_rfl, by kernel_rfl⟩⟩
def c_spec_l1Cur__someLots : ACode := .seq (.reg [⟨(some 4), .alc 26 [(.slice none 0 0), (.slice none 0 0), (.slice none 0 0), (.slice none 0 0)], none⟩])
 (.seq (.reg [⟨(some 13), .mv (.tmp 0), none⟩,
  ⟨(some 14), .bsl 3 1 8 [(.int .i64 0), (.int .i64 0), (.int .i64 0), (.int .i64 0), (.int .i64 0), (.int .i64 0), (.int .i64 0), (.int .i64 0)] [(0, 1, (.const (.int .i64 4))), (1, 1, (.const (.int .i64 5))), (2, 1, (.const (.int .i64 3))), (3, 1, (.const (.int .i64 6))), (4, 1, (.const (.int .i64 8))), (5, 1, (.const (.int .i64 2))), (6, 1, (.const (.int .i64 1))), (7, 1, (.const (.int .i64 0)))], none⟩,
  ⟨(some 15), .call (.func 163) [(.tmp 13), (.tmp 14)], none⟩,
  ⟨(some 16), .mv (.tmp 1), none⟩,
  ⟨(some 17), .call (.func 184) [(.tmp 15), (.tmp 16)], none⟩,
  ⟨(some 18), .bld [(.slice none 0 0), (.slice none 0 0), (.slice none 0 0), (.slice none 0 0)] [], none⟩,
  ⟨(some 6), .alc 26 [(.slice none 0 0), (.slice none 0 0), (.slice none 0 0), (.slice none 0 0)], none⟩,
  ⟨(some 5), .mv (.tmp 17), none⟩,
  ⟨none, .st 4 (.tmp 6) (.tmp 18), none⟩])
 (.seq (.reg [⟨(some 19), .mv (.tmp 0), none⟩,
  ⟨(some 20), .call (.func 149) [(.tmp 19), (.const (.int .i64 2))], none⟩,
  ⟨(some 7), .mv (.tmp 20), none⟩])
 (.seq (.reg [⟨(some 21), .mv (.tmp 0), none⟩,
  ⟨(some 22), .bsl 3 1 6 [(.int .i64 0), (.int .i64 0), (.int .i64 0), (.int .i64 0), (.int .i64 0), (.int .i64 0)] [(0, 1, (.const (.int .i64 0))), (1, 1, (.const (.int .i64 3))), (2, 1, (.const (.int .i64 5))), (3, 1, (.const (.int .i64 8))), (4, 1, (.const (.int .i64 12))), (5, 1, (.const (.int .i64 20)))], none⟩,
  ⟨(some 23), .call (.func 163) [(.tmp 21), (.tmp 22)], none⟩,
  ⟨(some 24), .mv (.tmp 0), none⟩,
  ⟨(some 25), .call (.func 164) [(.tmp 24), (.const (.int .i64 3))], none⟩,
  ⟨(some 26), .mv (.tmp 0), none⟩,
  ⟨(some 27), .call (.func 164) [(.tmp 26), (.const (.int .i64 2))], none⟩,
  ⟨(some 28), .bin .add (.const (.int .i64 1)) (.tmp 27), none⟩,
  ⟨(some 8), .mv (.tmp 23), none⟩,
  ⟨(some 9), .mv (.tmp 25), none⟩,
  ⟨(some 10), .mv (.tmp 28), none⟩])
 (.seq (.seq (.reg [⟨(some 11), .mv (.const (.int .i64 0)), none⟩])
 (.block 0 (.loop (.seq (.seq (.reg [⟨(some 29), .mv (.tmp 11), none⟩,
  ⟨(some 30), .mv (.tmp 5), none⟩,
  ⟨(some 31), .bin .lss (.tmp 29) (.tmp 30), none⟩])
 (.cond (.tmp 31) (.skip) (.exit 0)))
 (.seq (.block 1 (.seq (.seq (.reg [⟨(some 34), .mv (.tmp 7), none⟩,
  ⟨(some 35), .un .not (.tmp 34), none⟩])
 (.cond (.tmp 35) (.seq (.reg [⟨(some 36), .mv (.tmp 0), none⟩,
  ⟨(some 37), .bsl 3 1 6 [(.int .i64 0), (.int .i64 0), (.int .i64 0), (.int .i64 0), (.int .i64 0), (.int .i64 0)] [(0, 1, (.const (.int .i64 0))), (1, 1, (.const (.int .i64 2))), (2, 1, (.const (.int .i64 5))), (3, 1, (.const (.int .i64 9))), (4, 1, (.const (.int .i64 14))), (5, 1, (.const (.int .i64 30)))], none⟩,
  ⟨(some 38), .call (.func 163) [(.tmp 36), (.tmp 37)], none⟩,
  ⟨(some 8), .mv (.tmp 38), none⟩])
 (.seq (.reg [⟨(some 39), .mv (.tmp 0), none⟩,
  ⟨(some 40), .call (.func 164) [(.tmp 39), (.const (.int .i64 5))], none⟩,
  ⟨(some 9), .mv (.tmp 40), none⟩])
 (.reg [⟨(some 41), .mv (.tmp 0), none⟩,
  ⟨(some 42), .call (.func 164) [(.tmp 41), (.const (.int .i64 4))], none⟩,
  ⟨(some 10), .mv (.tmp 42), none⟩]))) (.skip)))
 (.seq (.seq (.reg [⟨(some 43), .fad 0 (.tmp 6), none⟩]) (.seq (.reg [⟨(some 45), .mv (.tmp 0), none⟩]) (.both (.seq (.reg [⟨(some 44), .ld none (.tmp 43), none⟩]) (.seq (.reg [⟨(some 46), .bsl 3 1 6 [(.int .i64 0), (.int .i64 0), (.int .i64 0), (.int .i64 0), (.int .i64 0), (.int .i64 0)] [(0, 1, (.const (.int .i64 0))), (1, 1, (.const (.int .i64 1))), (2, 1, (.const (.int .i64 2))), (3, 1, (.const (.int .i64 3))), (4, 1, (.const (.int .i64 5))), (5, 1, (.const (.int .i64 8)))], none⟩]) (.seq (.reg [⟨(some 47), .call (.func 163) [(.tmp 45), (.tmp 46)], none⟩]) (.seq (.reg [⟨(some 48), .bsl 3 1 1 [(.int .i64 0)] [(0, 1, (.tmp 47))], none⟩]) (.seq (.reg [⟨(some 49), .app 3 1 8 (.tmp 44) (.tmp 48), none⟩]) (.seq (.reg [⟨(some 50), .fad 0 (.tmp 6), none⟩]) (.seq (.reg [⟨none, .st 1 (.tmp 50) (.tmp 49), none⟩]) (.skip)))))))) (.seq (.reg [⟨(some 46), .bsl 3 1 6 [(.int .i64 0), (.int .i64 0), (.int .i64 0), (.int .i64 0), (.int .i64 0), (.int .i64 0)] [(0, 1, (.const (.int .i64 0))), (1, 1, (.const (.int .i64 1))), (2, 1, (.const (.int .i64 2))), (3, 1, (.const (.int .i64 3))), (4, 1, (.const (.int .i64 5))), (5, 1, (.const (.int .i64 8)))], none⟩]) (.both (.seq (.reg [⟨(some 44), .ld none (.tmp 43), none⟩]) (.seq (.reg [⟨(some 47), .call (.func 163) [(.tmp 45), (.tmp 46)], none⟩]) (.seq (.reg [⟨(some 48), .bsl 3 1 1 [(.int .i64 0)] [(0, 1, (.tmp 47))], none⟩]) (.seq (.reg [⟨(some 49), .app 3 1 8 (.tmp 44) (.tmp 48), none⟩]) (.seq (.reg [⟨(some 50), .fad 0 (.tmp 6), none⟩]) (.seq (.reg [⟨none, .st 1 (.tmp 50) (.tmp 49), none⟩]) (.skip))))))) (.seq (.reg [⟨(some 47), .call (.func 163) [(.tmp 45), (.tmp 46)], none⟩]) (.seq (.reg [⟨(some 44), .ld none (.tmp 43), none⟩]) (.seq (.reg [⟨(some 48), .bsl 3 1 1 [(.int .i64 0)] [(0, 1, (.tmp 47))], none⟩]) (.seq (.reg [⟨(some 49), .app 3 1 8 (.tmp 44) (.tmp 48), none⟩]) (.seq (.reg [⟨(some 50), .fad 0 (.tmp 6), none⟩]) (.seq (.reg [⟨none, .st 1 (.tmp 50) (.tmp 49), none⟩]) (.skip))))))))))))
 (.seq (.reg [⟨(some 51), .fad 1 (.tmp 6), none⟩,
  ⟨(some 52), .ld none (.tmp 51), none⟩,
  ⟨(some 53), .mv (.tmp 8), none⟩,
  ⟨(some 54), .bsl 3 1 1 [(.int .i64 0)] [(0, 1, (.tmp 53))], none⟩,
  ⟨(some 55), .app 3 1 8 (.tmp 52) (.tmp 54), none⟩,
  ⟨(some 56), .fad 1 (.tmp 6), none⟩,
  ⟨none, .st 1 (.tmp 56) (.tmp 55), none⟩])
 (.seq (.reg [⟨(some 57), .fad 2 (.tmp 6), none⟩,
  ⟨(some 58), .ld none (.tmp 57), none⟩,
  ⟨(some 59), .mv (.tmp 9), none⟩,
  ⟨(some 60), .bsl 3 1 1 [(.int .i64 0)] [(0, 1, (.tmp 59))], none⟩,
  ⟨(some 61), .app 3 1 8 (.tmp 58) (.tmp 60), none⟩,
  ⟨(some 62), .fad 2 (.tmp 6), none⟩,
  ⟨none, .st 1 (.tmp 62) (.tmp 61), none⟩])
 (.reg [⟨(some 63), .fad 3 (.tmp 6), none⟩,
  ⟨(some 64), .ld none (.tmp 63), none⟩,
  ⟨(some 65), .mv (.tmp 10), none⟩,
  ⟨(some 66), .bsl 3 1 1 [(.int .i64 0)] [(0, 1, (.tmp 65))], none⟩,
  ⟨(some 67), .app 3 1 8 (.tmp 64) (.tmp 66), none⟩,
  ⟨(some 68), .fad 3 (.tmp 6), none⟩,
  ⟨none, .st 1 (.tmp 68) (.tmp 67), none⟩]))))))
 (.reg [⟨(some 32), .mv (.tmp 11), none⟩,
  ⟨(some 33), .bin .add (.tmp 32) (.const (.int .i64 1)), none⟩,
  ⟨(some 11), .mv (.tmp 33), none⟩]))))))
 (.seq (.seq (.reg [⟨(some 69), .mv (.tmp 5), none⟩,
  ⟨(some 70), .bin .gtr (.tmp 69) (.const (.int .i64 0)), none⟩])
 (.cond (.tmp 70) (.seq (.reg [⟨(some 71), .mv (.tmp 0), none⟩,
  ⟨(some 72), .mv (.tmp 5), none⟩,
  ⟨(some 73), .call (.func 164) [(.tmp 71), (.tmp 72)], none⟩,
  ⟨(some 12), .mv (.tmp 73), none⟩])
 (.seq (.reg [⟨(some 74), .mv (.tmp 0), none⟩,
  ⟨(some 75), .call (.func 164) [(.tmp 74), (.const (.int .i64 60))], none⟩])
 (.block 2 (.seq (.reg [⟨(some 77), .bin .eql (.tmp 75) (.const (.int .i64 0)), none⟩,
  ⟨(some 76), .mv (.tmp 77), none⟩])
 (.cond (.tmp 76) (.seq (.reg [⟨(some 78), .fad 0 (.tmp 6), none⟩]) (.seq (.reg [⟨(some 80), .mv (.tmp 12), none⟩]) (.seq (.reg [⟨(some 81), .mv (.tmp 0), none⟩]) (.both (.seq (.reg [⟨(some 79), .ld none (.tmp 78), none⟩]) (.seq (.reg [⟨(some 82), .bsl 3 1 4 [(.int .i64 0), (.int .i64 0), (.int .i64 0), (.int .i64 0)] [(0, 1, (.const (.int .i64 (-1)))), (1, 1, (.const (.int .i64 20))), (2, 1, (.const (.int .i64 21))), (3, 1, (.const (.int .i64 4611686018427387904)))], none⟩]) (.seq (.reg [⟨(some 83), .call (.func 163) [(.tmp 81), (.tmp 82)], none⟩]) (.seq (.reg [⟨(some 84), .iad 1 (.tmp 79) (.tmp 80), none⟩]) (.seq (.reg [⟨none, .st 1 (.tmp 84) (.tmp 83), none⟩]) (.skip)))))) (.seq (.reg [⟨(some 82), .bsl 3 1 4 [(.int .i64 0), (.int .i64 0), (.int .i64 0), (.int .i64 0)] [(0, 1, (.const (.int .i64 (-1)))), (1, 1, (.const (.int .i64 20))), (2, 1, (.const (.int .i64 21))), (3, 1, (.const (.int .i64 4611686018427387904)))], none⟩]) (.both (.seq (.reg [⟨(some 79), .ld none (.tmp 78), none⟩]) (.seq (.reg [⟨(some 83), .call (.func 163) [(.tmp 81), (.tmp 82)], none⟩]) (.seq (.reg [⟨(some 84), .iad 1 (.tmp 79) (.tmp 80), none⟩]) (.seq (.reg [⟨none, .st 1 (.tmp 84) (.tmp 83), none⟩]) (.skip))))) (.seq (.reg [⟨(some 83), .call (.func 163) [(.tmp 81), (.tmp 82)], none⟩]) (.seq (.reg [⟨(some 79), .ld none (.tmp 78), none⟩]) (.seq (.reg [⟨(some 84), .iad 1 (.tmp 79) (.tmp 80), none⟩]) (.seq (.reg [⟨none, .st 1 (.tmp 84) (.tmp 83), none⟩]) (.skip))))))))))) (.seq (.reg [⟨(some 86), .bin .eql (.tmp 75) (.const (.int .i64 1)), none⟩,
  ⟨(some 85), .mv (.tmp 86), none⟩])
 (.cond (.tmp 85) (.seq (.reg [⟨(some 87), .fad 1 (.tmp 6), none⟩]) (.seq (.reg [⟨(some 89), .mv (.tmp 12), none⟩]) (.seq (.reg [⟨(some 90), .mv (.tmp 0), none⟩]) (.both (.seq (.reg [⟨(some 88), .ld none (.tmp 87), none⟩]) (.seq (.reg [⟨(some 91), .bsl 3 1 3 [(.int .i64 0), (.int .i64 0), (.int .i64 0)] [(0, 1, (.const (.int .i64 (-1)))), (1, 1, (.const (.int .i64 99))), (2, 1, (.const (.int .i64 100)))], none⟩]) (.seq (.reg [⟨(some 92), .call (.func 163) [(.tmp 90), (.tmp 91)], none⟩]) (.seq (.reg [⟨(some 93), .iad 1 (.tmp 88) (.tmp 89), none⟩]) (.seq (.reg [⟨none, .st 1 (.tmp 93) (.tmp 92), none⟩]) (.skip)))))) (.seq (.reg [⟨(some 91), .bsl 3 1 3 [(.int .i64 0), (.int .i64 0), (.int .i64 0)] [(0, 1, (.const (.int .i64 (-1)))), (1, 1, (.const (.int .i64 99))), (2, 1, (.const (.int .i64 100)))], none⟩]) (.both (.seq (.reg [⟨(some 88), .ld none (.tmp 87), none⟩]) (.seq (.reg [⟨(some 92), .call (.func 163) [(.tmp 90), (.tmp 91)], none⟩]) (.seq (.reg [⟨(some 93), .iad 1 (.tmp 88) (.tmp 89), none⟩]) (.seq (.reg [⟨none, .st 1 (.tmp 93) (.tmp 92), none⟩]) (.skip))))) (.seq (.reg [⟨(some 92), .call (.func 163) [(.tmp 90), (.tmp 91)], none⟩]) (.seq (.reg [⟨(some 88), .ld none (.tmp 87), none⟩]) (.seq (.reg [⟨(some 93), .iad 1 (.tmp 88) (.tmp 89), none⟩]) (.seq (.reg [⟨none, .st 1 (.tmp 93) (.tmp 92), none⟩]) (.skip))))))))))) (.seq (.reg [⟨(some 95), .bin .eql (.tmp 75) (.const (.int .i64 2)), none⟩,
  ⟨(some 94), .mv (.tmp 95), none⟩])
 (.cond (.tmp 94) (.seq (.reg [⟨(some 96), .fad 2 (.tmp 6), none⟩]) (.seq (.reg [⟨(some 98), .mv (.tmp 12), none⟩]) (.seq (.reg [⟨(some 99), .mv (.tmp 0), none⟩]) (.both (.seq (.reg [⟨(some 97), .ld none (.tmp 96), none⟩]) (.seq (.reg [⟨(some 100), .bsl 3 1 3 [(.int .i64 0), (.int .i64 0), (.int .i64 0)] [(0, 1, (.const (.int .i64 (-1)))), (1, 1, (.const (.int .i64 9))), (2, 1, (.const (.int .i64 10)))], none⟩]) (.seq (.reg [⟨(some 101), .call (.func 163) [(.tmp 99), (.tmp 100)], none⟩]) (.seq (.reg [⟨(some 102), .iad 1 (.tmp 97) (.tmp 98), none⟩]) (.seq (.reg [⟨none, .st 1 (.tmp 102) (.tmp 101), none⟩]) (.skip)))))) (.seq (.reg [⟨(some 100), .bsl 3 1 3 [(.int .i64 0), (.int .i64 0), (.int .i64 0)] [(0, 1, (.const (.int .i64 (-1)))), (1, 1, (.const (.int .i64 9))), (2, 1, (.const (.int .i64 10)))], none⟩]) (.both (.seq (.reg [⟨(some 97), .ld none (.tmp 96), none⟩]) (.seq (.reg [⟨(some 101), .call (.func 163) [(.tmp 99), (.tmp 100)], none⟩]) (.seq (.reg [⟨(some 102), .iad 1 (.tmp 97) (.tmp 98), none⟩]) (.seq (.reg [⟨none, .st 1 (.tmp 102) (.tmp 101), none⟩]) (.skip))))) (.seq (.reg [⟨(some 101), .call (.func 163) [(.tmp 99), (.tmp 100)], none⟩]) (.seq (.reg [⟨(some 97), .ld none (.tmp 96), none⟩]) (.seq (.reg [⟨(some 102), .iad 1 (.tmp 97) (.tmp 98), none⟩]) (.seq (.reg [⟨none, .st 1 (.tmp 102) (.tmp 101), none⟩]) (.skip))))))))))) (.seq (.reg [⟨(some 104), .bin .eql (.tmp 75) (.const (.int .i64 3)), none⟩,
  ⟨(some 103), .mv (.tmp 104), none⟩])
 (.cond (.tmp 103) (.seq (.reg [⟨(some 105), .fad 3 (.tmp 6), none⟩]) (.seq (.reg [⟨(some 107), .mv (.tmp 12), none⟩]) (.seq (.reg [⟨(some 108), .mv (.tmp 0), none⟩]) (.both (.seq (.reg [⟨(some 106), .ld none (.tmp 105), none⟩]) (.seq (.reg [⟨(some 109), .bsl 3 1 3 [(.int .i64 0), (.int .i64 0), (.int .i64 0)] [(0, 1, (.const (.int .i64 (-1)))), (1, 1, (.const (.int .i64 9))), (2, 1, (.const (.int .i64 10)))], none⟩]) (.seq (.reg [⟨(some 110), .call (.func 163) [(.tmp 108), (.tmp 109)], none⟩]) (.seq (.reg [⟨(some 111), .iad 1 (.tmp 106) (.tmp 107), none⟩]) (.seq (.reg [⟨none, .st 1 (.tmp 111) (.tmp 110), none⟩]) (.skip)))))) (.seq (.reg [⟨(some 109), .bsl 3 1 3 [(.int .i64 0), (.int .i64 0), (.int .i64 0)] [(0, 1, (.const (.int .i64 (-1)))), (1, 1, (.const (.int .i64 9))), (2, 1, (.const (.int .i64 10)))], none⟩]) (.both (.seq (.reg [⟨(some 106), .ld none (.tmp 105), none⟩]) (.seq (.reg [⟨(some 110), .call (.func 163) [(.tmp 108), (.tmp 109)], none⟩]) (.seq (.reg [⟨(some 111), .iad 1 (.tmp 106) (.tmp 107), none⟩]) (.seq (.reg [⟨none, .st 1 (.tmp 111) (.tmp 110), none⟩]) (.skip))))) (.seq (.reg [⟨(some 110), .call (.func 163) [(.tmp 108), (.tmp 109)], none⟩]) (.seq (.reg [⟨(some 106), .ld none (.tmp 105), none⟩]) (.seq (.reg [⟨(some 111), .iad 1 (.tmp 106) (.tmp 107), none⟩]) (.seq (.reg [⟨none, .st 1 (.tmp 111) (.tmp 110), none⟩]) (.skip))))))))))) (.seq (.reg [⟨(some 113), .bin .eql (.tmp 75) (.const (.int .i64 4)), none⟩,
  ⟨(some 112), .mv (.tmp 113), none⟩])
 (.cond (.tmp 112) (.reg [⟨(some 114), .fad 2 (.tmp 6), none⟩,
  ⟨(some 115), .ld none (.tmp 114), none⟩,
  ⟨(some 116), .bsl 3 1 1 [(.int .i64 0)] [(0, 1, (.const (.int .i64 1)))], none⟩,
  ⟨(some 117), .app 3 1 8 (.tmp 115) (.tmp 116), none⟩,
  ⟨(some 118), .fad 2 (.tmp 6), none⟩,
  ⟨none, .st 1 (.tmp 118) (.tmp 117), none⟩]) (.seq (.reg [⟨(some 120), .bin .eql (.tmp 75) (.const (.int .i64 5)), none⟩,
  ⟨(some 119), .mv (.tmp 120), none⟩])
 (.cond (.tmp 119) (.block 3 (.loop (.seq (.seq (.reg [⟨(some 121), .fad 0 (.tmp 6), none⟩,
  ⟨(some 122), .ld none (.tmp 121), none⟩,
  ⟨(some 123), .len (.tmp 122), none⟩,
  ⟨(some 124), .bin .lss (.tmp 123) (.const (.int .i64 9)), none⟩])
 (.cond (.tmp 124) (.skip) (.exit 3)))
 (.block 4 (.seq (.reg [⟨(some 125), .fad 0 (.tmp 6), none⟩,
  ⟨(some 126), .ld none (.tmp 125), none⟩,
  ⟨(some 127), .bsl 3 1 1 [(.int .i64 0)] [(0, 1, (.const (.int .i64 1)))], none⟩,
  ⟨(some 128), .app 3 1 8 (.tmp 126) (.tmp 127), none⟩,
  ⟨(some 129), .fad 0 (.tmp 6), none⟩,
  ⟨none, .st 1 (.tmp 129) (.tmp 128), none⟩])
 (.seq (.reg [⟨(some 130), .fad 1 (.tmp 6), none⟩,
  ⟨(some 131), .ld none (.tmp 130), none⟩,
  ⟨(some 132), .bsl 3 1 1 [(.int .i64 0)] [(0, 1, (.const (.int .i64 1)))], none⟩,
  ⟨(some 133), .app 3 1 8 (.tmp 131) (.tmp 132), none⟩,
  ⟨(some 134), .fad 1 (.tmp 6), none⟩,
  ⟨none, .st 1 (.tmp 134) (.tmp 133), none⟩])
 (.seq (.reg [⟨(some 135), .fad 2 (.tmp 6), none⟩,
  ⟨(some 136), .ld none (.tmp 135), none⟩,
  ⟨(some 137), .bsl 3 1 1 [(.int .i64 0)] [(0, 1, (.const (.int .i64 1)))], none⟩,
  ⟨(some 138), .app 3 1 8 (.tmp 136) (.tmp 137), none⟩,
  ⟨(some 139), .fad 2 (.tmp 6), none⟩,
  ⟨none, .st 1 (.tmp 139) (.tmp 138), none⟩])
 (.reg [⟨(some 140), .fad 3 (.tmp 6), none⟩,
  ⟨(some 141), .ld none (.tmp 140), none⟩,
  ⟨(some 142), .bsl 3 1 1 [(.int .i64 0)] [(0, 1, (.const (.int .i64 1)))], none⟩,
  ⟨(some 143), .app 3 1 8 (.tmp 141) (.tmp 142), none⟩,
  ⟨(some 144), .fad 3 (.tmp 6), none⟩,
  ⟨none, .st 1 (.tmp 144) (.tmp 143), none⟩])))))))) (.skip)))))))))))))))) (.skip)))
 (.seq (.reg [⟨(some 145), .ld (some 4) (.tmp 6), none⟩,
  ⟨none, .st 4 (.tmp 4) (.tmp 145), none⟩])
 (.ret)))))))
def r_spec_l1Cur__someLots : List ARes := [.cell 4 (some 4)]
theorem ok_spec_l1Cur__someLots : FnOk Try.prog 197 146 c_spec_l1Cur__someLots r_spec_l1Cur__someLots := ⟨⟨Try.f197, _, Try.func197, by kernel_rfl, rfl, rfl, by kernel_rfl, by kernel_rfl⟩⟩
def c_spec_DrawKeepsLimits : ACode := .seq (.reg [⟨(some 2), .alc 26 [(.slice none 0 0), (.slice none 0 0), (.slice none 0 0), (.slice none 0 0)], none⟩,
  ⟨(some 3), .mv (.const (.slice none 0 0)), none⟩,
  ⟨(some 4), .mv (.const (.slice none 0 0)), none⟩])
 (.seq (.reg [⟨(some 6), .mv (.tmp 0), none⟩,
  ⟨(some 7), .bld [(.slice none 0 0), (.int .i64 0), (.int .u64 0)] [(0, 1, (.tmp 6))], none⟩,
  ⟨(some 8), .box 75 (.tmp 7), none⟩,
  ⟨(some 5), .mv (.tmp 8), none⟩])
 (.seq (.reg [⟨(some 9), .mv (.tmp 5), none⟩,
  ⟨(some 10), .call (.func 243) [(.tmp 9)], none⟩,
  ⟨(some 11), .ext 0 (.tmp 10), none⟩,
  ⟨(some 12), .ext 1 (.tmp 10), none⟩,
  ⟨(some 13), .ext 2 (.tmp 10), none⟩,
  ⟨none, .st 4 (.tmp 2) (.tmp 11), none⟩,
  ⟨(some 3), .mv (.tmp 12), none⟩,
  ⟨(some 4), .mv (.tmp 13), none⟩])
 (.ret)))
def r_spec_DrawKeepsLimits : List ARes := [.cell 2 (some 4), .tmp 3, .tmp 4]
theorem ok_spec_DrawKeepsLimits : FnOk Try.prog 198 14 c_spec_DrawKeepsLimits r_spec_DrawKeepsLimits := ⟨⟨Try.f198, _, Try.func198, by kernel_rfl, rfl, rfl, by kernel_rfl, by kernel_rfl⟩⟩
def c_spec_l1Cur__late : ACode := .seq (.reg [⟨(some 2), .alc 26 [(.slice none 0 0), (.slice none 0 0), (.slice none 0 0), (.slice none 0 0)], none⟩,
  ⟨(some 3), .mv (.const (.slice none 0 0)), none⟩])
 (.seq (.reg [⟨(some 10), .mv (.tmp 0), none⟩,
  ⟨(some 11), .call (.func 197) [(.tmp 10), (.const (.int .i64 6))], none⟩,
  ⟨(some 4), .alc 26 [(.slice none 0 0), (.slice none 0 0), (.slice none 0 0), (.slice none 0 0)], none⟩,
  ⟨none, .st 4 (.tmp 4) (.tmp 11), none⟩])
 (.seq (.reg [⟨(some 12), .fad 0 (.tmp 4), none⟩,
  ⟨(some 13), .ld none (.tmp 12), none⟩,
  ⟨(some 14), .len (.tmp 13), none⟩,
  ⟨(some 15), .mks 3 8 [(.int .i64 0)] (.tmp 14) (.tmp 14), none⟩,
  ⟨(some 5), .mv (.tmp 15), none⟩])
 (.seq (.seq (.reg [⟨(some 16), .ld (some 4) (.tmp 4), none⟩,
  ⟨(some 17), .call (.func 129) [(.tmp 16)], none⟩,
  ⟨(some 18), .un .not (.tmp 17), none⟩])
 (.cond (.tmp 18) (.seq (.reg [⟨(some 19), .ld (some 4) (.tmp 4), none⟩,
  ⟨(some 20), .mv (.tmp 5), none⟩,
  ⟨none, .st 4 (.tmp 2) (.tmp 19), none⟩,
  ⟨(some 3), .mv (.tmp 20), none⟩])
 (.ret)) (.skip)))
 (.seq (.seq (.reg [⟨(some 21), .fad 0 (.tmp 4), none⟩,
  ⟨(some 22), .ld none (.tmp 21), none⟩,
  ⟨(some 23), .call (.func 155) [(.tmp 22)], none⟩,
  ⟨(some 6), .mv (.tmp 23), none⟩])
 (.block 0 (.loop (.seq (.seq (.reg [⟨(some 24), .mv (.tmp 6), none⟩,
  ⟨(some 25), .bin .gtr (.tmp 24) (.const (.int .i64 0)), none⟩])
 (.cond (.tmp 25) (.skip) (.exit 0)))
 (.block 1 (.seq (.reg [⟨(some 26), .mv (.tmp 0), none⟩,
  ⟨(some 27), .mv (.tmp 6), none⟩,
  ⟨(some 28), .call (.func 164) [(.tmp 26), (.tmp 27)], none⟩,
  ⟨(some 29), .bin .add (.const (.int .i64 1)) (.tmp 28), none⟩,
  ⟨(some 30), .mv (.tmp 0), none⟩,
  ⟨(some 31), .mv (.tmp 5), none⟩,
  ⟨(some 32), .len (.tmp 31), none⟩,
  ⟨(some 33), .call (.func 164) [(.tmp 30), (.tmp 32)], none⟩,
  ⟨(some 7), .mv (.tmp 29), none⟩,
  ⟨(some 8), .mv (.tmp 33), none⟩])
 (.seq (.reg [⟨(some 34), .mv (.tmp 5), none⟩,
  ⟨(some 35), .mv (.tmp 8), none⟩,
  ⟨(some 36), .mv (.tmp 5), none⟩,
  ⟨(some 37), .mv (.tmp 8), none⟩,
  ⟨(some 38), .iad 1 (.tmp 36) (.tmp 37), none⟩,
  ⟨(some 39), .ld none (.tmp 38), none⟩,
  ⟨(some 40), .mv (.tmp 7), none⟩,
  ⟨(some 41), .bin .add (.tmp 39) (.tmp 40), none⟩,
  ⟨(some 42), .iad 1 (.tmp 34) (.tmp 35), none⟩,
  ⟨none, .st 1 (.tmp 42) (.tmp 41), none⟩])
 (.reg [⟨(some 43), .mv (.tmp 6), none⟩,
  ⟨(some 44), .mv (.tmp 7), none⟩,
  ⟨(some 45), .bin .sub (.tmp 43) (.tmp 44), none⟩,
  ⟨(some 6), .mv (.tmp 45), none⟩]))))))))
 (.seq (.seq (.reg [⟨(some 46), .mv (.tmp 5), none⟩,
  ⟨(some 47), .len (.tmp 46), none⟩,
  ⟨(some 48), .bin .gtr (.tmp 47) (.const (.int .i64 0)), none⟩,
  ⟨(some 49), .mv (.tmp 48), none⟩,
  ⟨(some 50), .mv (.tmp 0), (some (49, true))⟩,
  ⟨(some 51), .call (.func 149) [(.tmp 50), (.const (.int .i64 16))], (some (49, true))⟩,
  ⟨(some 52), .pick (.tmp 49) (.tmp 51) (.const (.bool false)), none⟩])
 (.cond (.tmp 52) (.seq (.reg [⟨(some 53), .mv (.tmp 0), none⟩,
  ⟨(some 54), .mv (.tmp 5), none⟩,
  ⟨(some 55), .len (.tmp 54), none⟩,
  ⟨(some 56), .call (.func 164) [(.tmp 53), (.tmp 55)], none⟩,
  ⟨(some 9), .mv (.tmp 56), none⟩])
 (.seq (.reg [⟨(some 57), .mv (.tmp 5), none⟩]) (.seq (.reg [⟨(some 58), .mv (.tmp 9), none⟩]) (.seq (.reg [⟨(some 59), .mv (.tmp 5), none⟩]) (.seq (.reg [⟨(some 60), .mv (.tmp 9), none⟩]) (.seq (.reg [⟨(some 61), .iad 1 (.tmp 59) (.tmp 60), none⟩]) (.seq (.reg [⟨(some 63), .mv (.tmp 0), none⟩]) (.both (.seq (.reg [⟨(some 62), .ld none (.tmp 61), none⟩]) (.seq (.reg [⟨(some 64), .bsl 3 1 3 [(.int .i64 0), (.int .i64 0), (.int .i64 0)] [(0, 1, (.const (.int .i64 1))), (1, 1, (.const (.int .i64 (-1)))), (2, 1, (.const (.int .i64 4611686018427387904)))], none⟩]) (.seq (.reg [⟨(some 65), .call (.func 163) [(.tmp 63), (.tmp 64)], none⟩]) (.seq (.reg [⟨(some 66), .bin .add (.tmp 62) (.tmp 65), none⟩]) (.seq (.reg [⟨(some 67), .iad 1 (.tmp 57) (.tmp 58), none⟩]) (.seq (.reg [⟨none, .st 1 (.tmp 67) (.tmp 66), none⟩]) (.skip))))))) (.seq (.reg [⟨(some 64), .bsl 3 1 3 [(.int .i64 0), (.int .i64 0), (.int .i64 0)] [(0, 1, (.const (.int .i64 1))), (1, 1, (.const (.int .i64 (-1)))), (2, 1, (.const (.int .i64 4611686018427387904)))], none⟩]) (.both (.seq (.reg [⟨(some 62), .ld none (.tmp 61), none⟩]) (.seq (.reg [⟨(some 65), .call (.func 163) [(.tmp 63), (.tmp 64)], none⟩]) (.seq (.reg [⟨(some 66), .bin .add (.tmp 62) (.tmp 65), none⟩]) (.seq (.reg [⟨(some 67), .iad 1 (.tmp 57) (.tmp 58), none⟩]) (.seq (.reg [⟨none, .st 1 (.tmp 67) (.tmp 66), none⟩]) (.skip)))))) (.seq (.reg [⟨(some 65), .call (.func 163) [(.tmp 63), (.tmp 64)], none⟩]) (.seq (.reg [⟨(some 62), .ld none (.tmp 61), none⟩]) (.seq (.reg [⟨(some 66), .bin .add (.tmp 62) (.tmp 65), none⟩]) (.seq (.reg [⟨(some 67), .iad 1 (.tmp 57) (.tmp 58), none⟩]) (.seq (.reg [⟨none, .st 1 (.tmp 67) (.tmp 66), none⟩]) (.skip)))))))))))))))) (.skip)))
 (.seq (.reg [⟨(some 68), .ld (some 4) (.tmp 4), none⟩,
  ⟨(some 69), .mv (.tmp 5), none⟩,
  ⟨none, .st 4 (.tmp 2) (.tmp 68), none⟩,
  ⟨(some 3), .mv (.tmp 69), none⟩])
 (.ret)))))))
def r_spec_l1Cur__late : List ARes := [.cell 2 (some 4), .tmp 3]
theorem ok_spec_l1Cur__late : FnOk Try.prog 210 70 c_spec_l1Cur__late r_spec_l1Cur__late := ⟨⟨Try.f210, _, Try.func210, by kernel_rfl, rfl, rfl, by kernel_rfl, by kernel_rfl⟩⟩
def c_spec_l1Cur__rates : ACode := .seq (.reg [⟨(some 3), .box 26 (.tmp 1), none⟩,
  ⟨(some 4), .mv (.const (.slice none 0 0)), none⟩])
 (.seq (.reg [⟨(some 7), .bsl 3 1 0 [] [], none⟩,
  ⟨(some 5), .mv (.tmp 7), none⟩])
 (.seq (.seq (.reg [⟨(some 6), .mv (.const (.int .i64 0)), none⟩])
 (.block 0 (.loop (.seq (.seq (.reg [⟨(some 8), .mv (.tmp 6), none⟩,
  ⟨(some 9), .fad 0 (.tmp 3), none⟩,
  ⟨(some 10), .ld none (.tmp 9), none⟩,
  ⟨(some 11), .len (.tmp 10), none⟩,
  ⟨(some 12), .bin .lss (.tmp 8) (.tmp 11), none⟩])
 (.cond (.tmp 12) (.skip) (.exit 0)))
 (.seq (.block 1 (.reg [⟨(some 15), .mv (.tmp 5), none⟩,
  ⟨(some 16), .mv (.tmp 0), none⟩,
  ⟨(some 17), .bsl 3 1 5 [(.int .i64 0), (.int .i64 0), (.int .i64 0), (.int .i64 0), (.int .i64 0)] [(0, 1, (.const (.int .i64 1))), (1, 1, (.const (.int .i64 2))), (2, 1, (.const (.int .i64 3))), (3, 1, (.const (.int .i64 9))), (4, 1, (.const (.int .i64 0)))], none⟩,
  ⟨(some 18), .call (.func 163) [(.tmp 16), (.tmp 17)], none⟩,
  ⟨(some 19), .bsl 3 1 1 [(.int .i64 0)] [(0, 1, (.tmp 18))], none⟩,
  ⟨(some 20), .app 3 1 8 (.tmp 15) (.tmp 19), none⟩,
  ⟨(some 5), .mv (.tmp 20), none⟩]))
 (.reg [⟨(some 13), .mv (.tmp 6), none⟩,
  ⟨(some 14), .bin .add (.tmp 13) (.const (.int .i64 1)), none⟩,
  ⟨(some 6), .mv (.tmp 14), none⟩]))))))
 (.seq (.seq (.reg [⟨(some 21), .mv (.tmp 0), none⟩,
  ⟨(some 22), .call (.func 149) [(.tmp 21), (.const (.int .i64 24))], none⟩])
 (.cond (.tmp 22) (.reg [⟨(some 23), .mv (.tmp 5), none⟩,
  ⟨(some 24), .mv (.tmp 0), none⟩,
  ⟨(some 25), .bsl 3 1 2 [(.int .i64 0), (.int .i64 0)] [(0, 1, (.const (.int .i64 1))), (1, 1, (.const (.int .i64 10)))], none⟩,
  ⟨(some 26), .call (.func 163) [(.tmp 24), (.tmp 25)], none⟩,
  ⟨(some 27), .bsl 3 1 1 [(.int .i64 0)] [(0, 1, (.tmp 26))], none⟩,
  ⟨(some 28), .app 3 1 8 (.tmp 23) (.tmp 27), none⟩,
  ⟨(some 5), .mv (.tmp 28), none⟩]) (.skip)))
 (.seq (.seq (.reg [⟨(some 29), .mv (.tmp 5), none⟩,
  ⟨(some 30), .len (.tmp 29), none⟩,
  ⟨(some 31), .bin .gtr (.tmp 30) (.const (.int .i64 0)), none⟩,
  ⟨(some 32), .mv (.tmp 31), none⟩,
  ⟨(some 33), .mv (.tmp 0), (some (32, true))⟩,
  ⟨(some 34), .call (.func 149) [(.tmp 33), (.const (.int .i64 24))], (some (32, true))⟩,
  ⟨(some 35), .pick (.tmp 32) (.tmp 34) (.const (.bool false)), none⟩])
 (.cond (.tmp 35) (.reg [⟨(some 36), .mv (.tmp 5), none⟩,
  ⟨(some 37), .mv (.tmp 0), none⟩,
  ⟨(some 38), .bsl 3 1 3 [(.int .i64 0), (.int .i64 0), (.int .i64 0)] [(0, 1, (.const (.int .i64 (-1)))), (1, 1, (.const (.int .i64 9))), (2, 1, (.const (.int .i64 10)))], none⟩,
  ⟨(some 39), .call (.func 163) [(.tmp 37), (.tmp 38)], none⟩,
  ⟨(some 40), .iad 1 (.tmp 36) (.const (.int .i64 0)), none⟩,
  ⟨none, .st 1 (.tmp 40) (.tmp 39), none⟩]) (.skip)))
 (.seq (.reg [⟨(some 41), .mv (.tmp 5), none⟩,
  ⟨(some 4), .mv (.tmp 41), none⟩])
 (.ret))))))
def r_spec_l1Cur__rates : List ARes := [.tmp 4]
theorem ok_spec_l1Cur__rates : FnOk Try.prog 211 42 c_spec_l1Cur__rates r_spec_l1Cur__rates := ⟨⟨Try.f211, _, Try.func211, by kernel_rfl, rfl, rfl, by kernel_rfl, by kernel_rfl⟩⟩
def c_spec_l1Cur__next : ACode := .seq (.reg [⟨(some 2), .mv (.const (.int .i64 0)), none⟩])
 (.seq (.reg [⟨(some 3), .mv (.const (.int .i64 0)), none⟩])
 (.seq (.seq (.reg [⟨(some 4), .mv (.tmp 0), none⟩,
  ⟨(some 5), .nilc (.tmp 4), none⟩,
  ⟨(some 6), .fad 1 (.tmp 5), none⟩,
  ⟨(some 7), .ld none (.tmp 6), none⟩,
  ⟨(some 8), .mv (.tmp 0), none⟩,
  ⟨(some 9), .nilc (.tmp 8), none⟩,
  ⟨(some 10), .fad 0 (.tmp 9), none⟩,
  ⟨(some 11), .ld none (.tmp 10), none⟩,
  ⟨(some 12), .len (.tmp 11), none⟩,
  ⟨(some 13), .bin .lss (.tmp 7) (.tmp 12), none⟩])
 (.cond (.tmp 13) (.reg [⟨(some 14), .mv (.tmp 0), none⟩,
  ⟨(some 15), .nilc (.tmp 14), none⟩,
  ⟨(some 16), .fad 0 (.tmp 15), none⟩,
  ⟨(some 17), .ld none (.tmp 16), none⟩,
  ⟨(some 18), .mv (.tmp 0), none⟩,
  ⟨(some 19), .nilc (.tmp 18), none⟩,
  ⟨(some 20), .fad 1 (.tmp 19), none⟩,
  ⟨(some 21), .ld none (.tmp 20), none⟩,
  ⟨(some 22), .iad 1 (.tmp 17) (.tmp 21), none⟩,
  ⟨(some 23), .ld none (.tmp 22), none⟩,
  ⟨(some 24), .conv .i64 (.tmp 23), none⟩,
  ⟨(some 3), .mv (.tmp 24), none⟩]) (.skip)))
 (.seq (.reg [⟨(some 25), .mv (.tmp 0), none⟩,
  ⟨(some 26), .nilc (.tmp 25), none⟩,
  ⟨(some 27), .fad 1 (.tmp 26), none⟩,
  ⟨(some 28), .ld none (.tmp 27), none⟩,
  ⟨(some 29), .bin .add (.tmp 28) (.const (.int .i64 1)), none⟩,
  ⟨(some 30), .nilc (.tmp 25), none⟩,
  ⟨(some 31), .fad 1 (.tmp 30), none⟩,
  ⟨none, .st 1 (.tmp 31) (.tmp 29), none⟩])
 (.seq (.reg [⟨(some 32), .mv (.tmp 0), none⟩,
  ⟨(some 33), .mv (.tmp 0), none⟩,
  ⟨(some 34), .nilc (.tmp 33), none⟩,
  ⟨(some 35), .fad 2 (.tmp 34), none⟩,
  ⟨(some 36), .ld none (.tmp 35), none⟩,
  ⟨(some 37), .bin .mul (.tmp 36) (.const (.int .u64 6364136223846793005)), none⟩,
  ⟨(some 38), .mv (.tmp 3), none⟩,
  ⟨(some 39), .conv .u64 (.tmp 38), none⟩,
  ⟨(some 40), .bin .add (.tmp 37) (.tmp 39), none⟩,
  ⟨(some 41), .bin .add (.tmp 40) (.const (.int .u64 462197)), none⟩,
  ⟨(some 42), .nilc (.tmp 32), none⟩,
  ⟨(some 43), .fad 2 (.tmp 42), none⟩,
  ⟨none, .st 1 (.tmp 43) (.tmp 41), none⟩])
 (.seq (.seq (.reg [⟨(some 44), .mv (.tmp 0), none⟩,
  ⟨(some 45), .nilc (.tmp 44), none⟩,
  ⟨(some 46), .fad 1 (.tmp 45), none⟩,
  ⟨(some 47), .ld none (.tmp 46), none⟩,
  ⟨(some 48), .mv (.tmp 0), none⟩,
  ⟨(some 49), .nilc (.tmp 48), none⟩,
  ⟨(some 50), .fad 0 (.tmp 49), none⟩,
  ⟨(some 51), .ld none (.tmp 50), none⟩,
  ⟨(some 52), .len (.tmp 51), none⟩,
  ⟨(some 53), .bin .leq (.tmp 47) (.tmp 52), none⟩])
 (.cond (.tmp 53) (.seq (.reg [⟨(some 54), .mv (.tmp 3), none⟩,
  ⟨(some 2), .mv (.tmp 54), none⟩])
 (.ret)) (.skip)))
 (.seq (.reg [⟨(some 55), .mv (.tmp 0), none⟩,
  ⟨(some 56), .nilc (.tmp 55), none⟩,
  ⟨(some 57), .fad 2 (.tmp 56), none⟩,
  ⟨(some 58), .ld none (.tmp 57), none⟩,
  ⟨(some 59), .bin .shr (.tmp 58) (.const (.int .u64 40)), none⟩,
  ⟨(some 60), .bin .and (.tmp 59) (.const (.int .u64 255)), none⟩,
  ⟨(some 61), .conv .i64 (.tmp 60), none⟩,
  ⟨(some 2), .mv (.tmp 61), none⟩])
 (.ret)))))))
def r_spec_l1Cur__next : List ARes := [.tmp 2]
theorem ok_spec_l1Cur__next : FnOk Try.prog 233 62 c_spec_l1Cur__next r_spec_l1Cur__next := ⟨⟨Try.f233, _, Try.func233, by kernel_rfl, rfl, rfl, by kernel_rfl, by kernel_rfl⟩⟩
def c_spec_l1Cur__kept : ACode := .seq (.reg [⟨(some 2), .alc 26 [(.slice none 0 0), (.slice none 0 0), (.slice none 0 0), (.slice none 0 0)], none⟩,
  ⟨(some 3), .mv (.const (.slice none 0 0)), none⟩,
  ⟨(some 4), .mv (.const (.slice none 0 0)), none⟩])
 (.seq (.reg [⟨(some 13), .mv (.tmp 0), none⟩,
  ⟨(some 14), .call (.func 197) [(.tmp 13), (.const (.int .i64 6))], none⟩,
  ⟨(some 5), .alc 26 [(.slice none 0 0), (.slice none 0 0), (.slice none 0 0), (.slice none 0 0)], none⟩,
  ⟨none, .st 4 (.tmp 5) (.tmp 14), none⟩])
 (.seq (.reg [⟨(some 15), .mv (.tmp 0), none⟩,
  ⟨(some 16), .ld (some 4) (.tmp 5), none⟩,
  ⟨(some 17), .call (.func 193) [(.tmp 15), (.tmp 16)], none⟩,
  ⟨(some 6), .mv (.tmp 17), none⟩])
 (.seq (.seq (.reg [⟨(some 18), .mv (.tmp 0), none⟩,
  ⟨(some 19), .call (.func 164) [(.tmp 18), (.const (.int .i64 3))], none⟩])
 (.block 0 (.seq (.reg [⟨(some 21), .bin .eql (.tmp 19) (.const (.int .i64 0)), none⟩,
  ⟨(some 20), .mv (.tmp 21), none⟩])
 (.cond (.tmp 20) (.seq (.reg [⟨(some 23), .ld (some 4) (.tmp 5), none⟩,
  ⟨(some 24), .mv (.tmp 6), none⟩,
  ⟨(some 25), .call (.func 85) [(.tmp 23), (.tmp 24)], none⟩,
  ⟨(some 22), .mv (.tmp 25), none⟩,
  ⟨(some 26), .ext 0 (.tmp 22), none⟩,
  ⟨(some 27), .ext 1 (.tmp 22), none⟩,
  ⟨(some 7), .mv (.tmp 26), none⟩,
  ⟨(some 8), .mv (.tmp 27), none⟩])
 (.seq (.reg [⟨(some 28), .mv (.tmp 8), none⟩])
 (.cond (.tmp 28) (.seq (.reg [⟨(some 29), .ld (some 4) (.tmp 5), none⟩,
  ⟨(some 30), .mv (.tmp 6), none⟩,
  ⟨(some 31), .mv (.tmp 7), none⟩,
  ⟨none, .st 4 (.tmp 2) (.tmp 29), none⟩,
  ⟨(some 3), .mv (.tmp 30), none⟩,
  ⟨(some 4), .mv (.tmp 31), none⟩])
 (.ret)) (.skip)))) (.seq (.reg [⟨(some 33), .bin .eql (.tmp 19) (.const (.int .i64 1)), none⟩,
  ⟨(some 32), .mv (.tmp 33), none⟩])
 (.cond (.tmp 32) (.seq (.reg [⟨(some 35), .ld (some 4) (.tmp 5), none⟩,
  ⟨(some 36), .mv (.tmp 6), none⟩,
  ⟨(some 37), .call (.func 89) [(.tmp 35), (.tmp 36)], none⟩,
  ⟨(some 34), .mv (.tmp 37), none⟩,
  ⟨(some 38), .ext 0 (.tmp 34), none⟩,
  ⟨(some 39), .ext 1 (.tmp 34), none⟩,
  ⟨(some 9), .mv (.tmp 38), none⟩,
  ⟨(some 10), .mv (.tmp 39), none⟩])
 (.seq (.reg [⟨(some 40), .mv (.tmp 10), none⟩])
 (.cond (.tmp 40) (.seq (.reg [⟨(some 41), .ld (some 4) (.tmp 5), none⟩,
  ⟨(some 42), .mv (.tmp 6), none⟩,
  ⟨(some 43), .mv (.tmp 9), none⟩,
  ⟨none, .st 4 (.tmp 2) (.tmp 41), none⟩,
  ⟨(some 3), .mv (.tmp 42), none⟩,
  ⟨(some 4), .mv (.tmp 43), none⟩])
 (.ret)) (.skip)))) (.skip)))))))
 (.seq (.reg [⟨(some 44), .mv (.tmp 0), none⟩,
  ⟨(some 45), .ld (some 4) (.tmp 5), none⟩,
  ⟨(some 46), .call (.func 152) [(.tmp 44), (.tmp 45)], none⟩,
  ⟨(some 11), .mv (.tmp 46), none⟩])
 (.seq (.seq (.reg [⟨(some 12), .mv (.const (.int .i64 0)), none⟩])
 (.block 1 (.loop (.seq (.seq (.reg [⟨(some 47), .mv (.tmp 12), none⟩,
  ⟨(some 48), .mv (.tmp 6), none⟩,
  ⟨(some 49), .len (.tmp 48), none⟩,
  ⟨(some 50), .bin .lss (.tmp 47) (.tmp 49), none⟩,
  ⟨(some 51), .mv (.tmp 50), none⟩,
  ⟨(some 52), .mv (.tmp 12), (some (51, true))⟩,
  ⟨(some 53), .mv (.tmp 11), (some (51, true))⟩,
  ⟨(some 54), .len (.tmp 53), (some (51, true))⟩,
  ⟨(some 55), .bin .lss (.tmp 52) (.tmp 54), (some (51, true))⟩,
  ⟨(some 56), .pick (.tmp 51) (.tmp 55) (.const (.bool false)), none⟩,
  ⟨(some 57), .mv (.tmp 56), none⟩,
  ⟨(some 58), .mv (.tmp 0), (some (57, true))⟩,
  ⟨(some 59), .call (.func 149) [(.tmp 58), (.const (.int .i64 8))], (some (57, true))⟩,
  ⟨(some 60), .un .not (.tmp 59), (some (57, true))⟩,
  ⟨(some 61), .pick (.tmp 57) (.tmp 60) (.const (.bool false)), none⟩])
 (.cond (.tmp 61) (.skip) (.exit 1)))
 (.seq (.block 2 (.reg [⟨(some 64), .mv (.tmp 6), none⟩,
  ⟨(some 65), .mv (.tmp 12), none⟩,
  ⟨(some 66), .mv (.tmp 6), none⟩,
  ⟨(some 67), .mv (.tmp 12), none⟩,
  ⟨(some 68), .iad 1 (.tmp 66) (.tmp 67), none⟩,
  ⟨(some 69), .ld none (.tmp 68), none⟩,
  ⟨(some 70), .mv (.tmp 11), none⟩,
  ⟨(some 71), .mv (.tmp 12), none⟩,
  ⟨(some 72), .iad 1 (.tmp 70) (.tmp 71), none⟩,
  ⟨(some 73), .ld none (.tmp 72), none⟩,
  ⟨(some 74), .rcall (.func 206) [(.tmp 69), (.tmp 73)], none⟩,
  ⟨(some 75), .rcall (.func 184) [(.tmp 74), (.const (.int .i64 160))], none⟩,
  ⟨(some 76), .iad 1 (.tmp 64) (.tmp 65), none⟩,
  ⟨none, .st 1 (.tmp 76) (.tmp 75), none⟩]))
 (.reg [⟨(some 62), .mv (.tmp 12), none⟩,
  ⟨(some 63), .bin .add (.tmp 62) (.const (.int .i64 1)), none⟩,
  ⟨(some 12), .mv (.tmp 63), none⟩]))))))
 (.seq (.reg [⟨(some 77), .ld (some 4) (.tmp 5), none⟩,
  ⟨(some 78), .mv (.tmp 6), none⟩,
  ⟨(some 79), .mv (.tmp 11), none⟩,
  ⟨none, .st 4 (.tmp 2) (.tmp 77), none⟩,
  ⟨(some 3), .mv (.tmp 78), none⟩,
  ⟨(some 4), .mv (.tmp 79), none⟩])
 (.ret)))))))
def r_spec_l1Cur__kept : List ARes := [.cell 2 (some 4), .tmp 3, .tmp 4]
theorem ok_spec_l1Cur__kept : FnOk Try.prog 243 80 c_spec_l1Cur__kept r_spec_l1Cur__kept := ⟨⟨Try.f243, _, Try.func243, by kernel_rfl, rfl, rfl, by kernel_rfl, by kernel_rfl⟩⟩
end Go.Proofs.Ytncajinepljdhaa.Ab
