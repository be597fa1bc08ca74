/- The compiled forms of functions, each checked against the translation. -/
import Derived.Test.YtnkbjliidenldaaAb2
import Derived.Test.YtnkbjliidenldaaProg
namespace Go.Proofs.Ytnkbjliidenldaa.Ab
open Go Go.RowKit Go.Proofs
set_option maxRecDepth 100000
def c_spec_IsFlow : ACode := .seq (.reg [⟨(some 1), .box 27 (.tmp 0), none⟩,
  ⟨(some 2), .mv (.const (.bool false)), none⟩])
 (.seq (.reg [⟨(some 3), .ld (some 2) (.tmp 1), none⟩,
  ⟨(some 4), .call (.func 67) [(.tmp 3)], none⟩,
  ⟨(some 2), .mv (.tmp 4), none⟩])
 (.ret))
def r_spec_IsFlow : List ARes := [.tmp 2]
theorem ok_spec_IsFlow : FnOk Try.prog 19 5 c_spec_IsFlow r_spec_IsFlow := ⟨⟨Try.f19, _, Try.func19, by kernel_rfl, rfl, rfl, by kernel_rfl, by kernel_rfl⟩⟩
def c_impl_IsFlow : ACode := .seq (.reg [⟨(some 1), .box 27 (.tmp 0), none⟩,
  ⟨(some 2), .mv (.const (.bool false)), none⟩])
 (.seq (.reg [⟨(some 3), .fad 0 (.tmp 1), none⟩,
  ⟨(some 4), .ld none (.tmp 3), none⟩,
  ⟨(some 5), .call (.func 68) [(.tmp 4)], none⟩,
  ⟨(some 6), .mv (.tmp 5), none⟩,
  ⟨(some 7), .fad 1 (.tmp 1), (some (6, true))⟩,
  ⟨(some 8), .ld none (.tmp 7), (some (6, true))⟩,
  ⟨(some 9), .call (.func 69) [(.const (.int .i64 4)), (.tmp 8), (.func 70)], (some (6, true))⟩,
  ⟨(some 10), .pick (.tmp 6) (.tmp 9) (.const (.bool false)), none⟩,
  ⟨(some 2), .mv (.tmp 10), none⟩])
 (.ret))
def r_impl_IsFlow : List ARes := [.tmp 2]
theorem ok_impl_IsFlow : FnOk Try.prog 21 11 c_impl_IsFlow r_impl_IsFlow := ⟨⟨Try.f21, _, Try.func21, by kernel_rfl, rfl, rfl, by kernel_rfl, by kernel_rfl⟩⟩
def c_spec_PositionOf : ACode := .seq (.reg [⟨(some 1), .box 27 (.tmp 0), none⟩,
  ⟨(some 2), .mv (.const (.int .i64 0)), none⟩,
  ⟨(some 3), .mv (.const (.bool false)), none⟩])
 (.seq (.seq (.reg [⟨(some 4), .ld (some 2) (.tmp 1), none⟩,
  ⟨(some 5), .call (.func 67) [(.tmp 4)], none⟩,
  ⟨(some 6), .un .not (.tmp 5), none⟩])
 (.cond (.tmp 6) (.seq (.reg [⟨(some 2), .mv (.const (.int .i64 0)), none⟩,
  ⟨(some 3), .mv (.const (.bool false)), none⟩])
 (.ret)) (.skip)))
 (.seq (.reg [⟨(some 7), .ld (some 2) (.tmp 1), none⟩,
  ⟨(some 8), .call (.func 71) [(.tmp 7)], none⟩,
  ⟨(some 2), .mv (.tmp 8), none⟩,
  ⟨(some 3), .mv (.const (.bool true)), none⟩])
 (.ret)))
def r_spec_PositionOf : List ARes := [.tmp 2, .tmp 3]
theorem ok_spec_PositionOf : FnOk Try.prog 23 9 c_spec_PositionOf r_spec_PositionOf := ⟨⟨Try.f23, _, Try.func23, by kernel_rfl, rfl, rfl, by kernel_rfl, by kernel_rfl⟩⟩
def c_impl_PositionOf : ACode := .seq (.reg [⟨(some 1), .box 27 (.tmp 0), none⟩,
  ⟨(some 2), .mv (.const (.int .i64 0)), none⟩,
  ⟨(some 3), .mv (.const (.bool false)), none⟩])
 (.seq (.seq (.reg [⟨(some 4), .ld (some 2) (.tmp 1), none⟩,
  ⟨(some 5), .call (.func 21) [(.tmp 4)], none⟩,
  ⟨(some 6), .un .not (.tmp 5), none⟩])
 (.cond (.tmp 6) (.seq (.reg [⟨(some 2), .mv (.const (.int .i64 0)), none⟩,
  ⟨(some 3), .mv (.const (.bool false)), none⟩])
 (.ret)) (.skip)))
 (.seq (.reg [⟨(some 7), .fad 0 (.tmp 1), none⟩,
  ⟨(some 8), .ld none (.tmp 7), none⟩,
  ⟨(some 9), .fad 1 (.tmp 1), none⟩,
  ⟨(some 10), .ld none (.tmp 9), none⟩,
  ⟨(some 11), .rcall (.func 72) [(.tmp 10)], none⟩,
  ⟨(some 12), .bin .add (.tmp 8) (.tmp 11), none⟩,
  ⟨(some 2), .mv (.tmp 12), none⟩,
  ⟨(some 3), .mv (.const (.bool true)), none⟩])
 (.ret)))
def r_impl_PositionOf : List ARes := [.tmp 2, .tmp 3]
theorem ok_impl_PositionOf : FnOk Try.prog 24 13 c_impl_PositionOf r_impl_PositionOf := ⟨⟨Try.f24, _, Try.func24, by kernel_rfl, rfl, rfl, by kernel_rfl, by kernel_rfl⟩⟩
def c_spec_DayOf : ACode := .seq (.reg [⟨(some 3), .box 27 (.tmp 0), none⟩,
  ⟨(some 6), .alc 27 [(.int .i64 0), (.slice none 0 0)], none⟩,
  ⟨(some 7), .mv (.const (.bool false)), none⟩])
 (.seq (.seq (.reg [⟨(some 10), .ld (some 2) (.tmp 3), none⟩,
  ⟨(some 11), .call (.func 67) [(.tmp 10)], none⟩,
  ⟨(some 12), .un .not (.tmp 11), none⟩,
  ⟨(some 13), .mv (.tmp 12), none⟩,
  ⟨(some 14), .mv (.tmp 1), (some (13, false))⟩,
  ⟨(some 15), .call (.func 73) [(.tmp 14), (.const (.int .i64 0)), (.const (.int .i64 40))], (some (13, false))⟩,
  ⟨(some 16), .un .not (.tmp 15), (some (13, false))⟩,
  ⟨(some 17), .pick (.tmp 13) (.const (.bool true)) (.tmp 16), none⟩,
  ⟨(some 18), .mv (.tmp 17), none⟩,
  ⟨(some 19), .mv (.tmp 2), (some (18, false))⟩,
  ⟨(some 20), .call (.func 73) [(.tmp 19), (.const (.int .i64 0)), (.const (.int .i64 20))], (some (18, false))⟩,
  ⟨(some 21), .un .not (.tmp 20), (some (18, false))⟩,
  ⟨(some 22), .pick (.tmp 18) (.const (.bool true)) (.tmp 21), none⟩])
 (.cond (.tmp 22) (.seq (.reg [⟨(some 23), .bld [(.int .i64 0), (.slice none 0 0)] [], none⟩,
  ⟨none, .st 2 (.tmp 6) (.tmp 23), none⟩,
  ⟨(some 7), .mv (.const (.bool false)), none⟩])
 (.ret)) (.skip)))
 (.seq (.reg [⟨(some 25), .ld (some 2) (.tmp 3), none⟩,
  ⟨(some 26), .mv (.tmp 1), none⟩,
  ⟨(some 27), .mv (.tmp 2), none⟩,
  ⟨(some 28), .call (.func 74) [(.tmp 25), (.tmp 26), (.tmp 27)], none⟩,
  ⟨(some 24), .mv (.tmp 28), none⟩,
  ⟨(some 29), .ext 0 (.tmp 24), none⟩,
  ⟨(some 30), .ext 1 (.tmp 24), none⟩,
  ⟨(some 8), .alc 27 [(.int .i64 0), (.slice none 0 0)], none⟩,
  ⟨none, .st 2 (.tmp 8) (.tmp 29), none⟩,
  ⟨(some 9), .mv (.tmp 30), none⟩])
 (.seq (.seq (.reg [⟨(some 31), .ld (some 2) (.tmp 8), none⟩,
  ⟨(some 32), .call (.func 67) [(.tmp 31)], none⟩,
  ⟨(some 33), .un .not (.tmp 32), none⟩])
 (.cond (.tmp 33) (.seq (.reg [⟨(some 34), .bld [(.int .i64 0), (.slice none 0 0)] [], none⟩,
  ⟨none, .st 2 (.tmp 6) (.tmp 34), none⟩,
  ⟨(some 7), .mv (.const (.bool false)), none⟩])
 (.ret)) (.skip)))
 (.seq (.reg [⟨(some 35), .ld (some 2) (.tmp 8), none⟩,
  ⟨none, .st 2 (.tmp 6) (.tmp 35), none⟩,
  ⟨(some 7), .mv (.const (.bool true)), none⟩])
 (.ret)))))
def r_spec_DayOf : List ARes := [.cell 6 (some 2), .tmp 7]
theorem ok_spec_DayOf : FnOk Try.prog 25 36 c_spec_DayOf r_spec_DayOf := ⟨⟨Try.f25, _, Try.func25, by kernel_rfl, rfl, rfl, by kernel_rfl, by kernel_rfl⟩⟩
def c_impl_DayOf : ACode := .seq (.reg [⟨(some 3), .box 27 (.tmp 0), none⟩,
  ⟨(some 6), .alc 27 [(.int .i64 0), (.slice none 0 0)], none⟩,
  ⟨(some 7), .mv (.const (.bool false)), none⟩])
 (.seq (.seq (.reg [⟨(some 10), .ld (some 2) (.tmp 3), none⟩,
  ⟨(some 11), .call (.func 21) [(.tmp 10)], none⟩,
  ⟨(some 12), .un .not (.tmp 11), none⟩,
  ⟨(some 13), .mv (.tmp 12), none⟩,
  ⟨(some 14), .mv (.tmp 1), (some (13, false))⟩,
  ⟨(some 15), .call (.func 70) [(.tmp 14)], (some (13, false))⟩,
  ⟨(some 16), .un .not (.tmp 15), (some (13, false))⟩,
  ⟨(some 17), .pick (.tmp 13) (.const (.bool true)) (.tmp 16), none⟩,
  ⟨(some 18), .mv (.tmp 17), none⟩,
  ⟨(some 19), .mv (.tmp 2), (some (18, false))⟩,
  ⟨(some 20), .call (.func 75) [(.tmp 19)], (some (18, false))⟩,
  ⟨(some 21), .un .not (.tmp 20), (some (18, false))⟩,
  ⟨(some 22), .pick (.tmp 18) (.const (.bool true)) (.tmp 21), none⟩])
 (.cond (.tmp 22) (.seq (.reg [⟨(some 23), .bld [(.int .i64 0), (.slice none 0 0)] [], none⟩,
  ⟨none, .st 2 (.tmp 6) (.tmp 23), none⟩,
  ⟨(some 7), .mv (.const (.bool false)), none⟩])
 (.ret)) (.skip)))
 (.seq (.reg [⟨(some 24), .fad 1 (.tmp 3), none⟩,
  ⟨(some 25), .ld none (.tmp 24), none⟩,
  ⟨(some 26), .mv (.tmp 1), none⟩,
  ⟨(some 27), .bsl 3 1 1 [(.int .i64 0)] [(0, 1, (.tmp 26))], none⟩,
  ⟨(some 28), .bsl 22 1 2 [(.slice none 0 0), (.slice none 0 0)] [(0, 1, (.tmp 25)), (1, 1, (.tmp 27))], none⟩,
  ⟨(some 29), .call (.func 76) [(.tmp 28)], none⟩,
  ⟨(some 8), .mv (.tmp 29), none⟩])
 (.seq (.reg [⟨(some 30), .fad 0 (.tmp 3), none⟩,
  ⟨(some 31), .ld none (.tmp 30), none⟩,
  ⟨(some 32), .mv (.tmp 8), none⟩,
  ⟨(some 33), .iad 1 (.tmp 32) (.const (.int .i64 0)), none⟩,
  ⟨(some 34), .ld none (.tmp 33), none⟩,
  ⟨(some 35), .bin .add (.tmp 31) (.tmp 34), none⟩,
  ⟨(some 36), .mv (.tmp 2), none⟩,
  ⟨(some 37), .bin .sub (.tmp 35) (.tmp 36), none⟩,
  ⟨(some 38), .mv (.tmp 8), none⟩,
  ⟨(some 39), .slc 1 (.tmp 38) (some (.const (.int .i64 1))) none, none⟩,
  ⟨(some 40), .bld [(.int .i64 0), (.slice none 0 0)] [(0, 1, (.tmp 37)), (1, 1, (.tmp 39))], none⟩,
  ⟨(some 9), .alc 27 [(.int .i64 0), (.slice none 0 0)], none⟩,
  ⟨none, .st 2 (.tmp 9) (.tmp 40), none⟩])
 (.seq (.seq (.reg [⟨(some 41), .ld (some 2) (.tmp 9), none⟩,
  ⟨(some 42), .call (.func 21) [(.tmp 41)], none⟩,
  ⟨(some 43), .un .not (.tmp 42), none⟩])
 (.cond (.tmp 43) (.seq (.reg [⟨(some 44), .bld [(.int .i64 0), (.slice none 0 0)] [], none⟩,
  ⟨none, .st 2 (.tmp 6) (.tmp 44), none⟩,
  ⟨(some 7), .mv (.const (.bool false)), none⟩])
 (.ret)) (.skip)))
 (.seq (.reg [⟨(some 45), .ld (some 2) (.tmp 9), none⟩,
  ⟨none, .st 2 (.tmp 6) (.tmp 45), none⟩,
  ⟨(some 7), .mv (.const (.bool true)), none⟩])
 (.ret))))))
def r_impl_DayOf : List ARes := [.cell 6 (some 2), .tmp 7]
theorem ok_impl_DayOf : FnOk Try.prog 26 46 c_impl_DayOf r_impl_DayOf := ⟨⟨Try.f26, _, Try.func26, by kernel_rfl, rfl, rfl, by kernel_rfl, by kernel_rfl⟩⟩
def c_spec_IsRule : ACode := .seq (.reg [⟨(some 1), .box 40 (.tmp 0), none⟩,
  ⟨(some 2), .mv (.const (.bool false)), none⟩])
 (.seq (.reg [⟨(some 3), .ld (some 3) (.tmp 1), none⟩,
  ⟨(some 4), .call (.func 77) [(.tmp 3)], none⟩,
  ⟨(some 2), .mv (.tmp 4), none⟩])
 (.ret))
def r_spec_IsRule : List ARes := [.tmp 2]
theorem ok_spec_IsRule : FnOk Try.prog 29 5 c_spec_IsRule r_spec_IsRule := ⟨⟨Try.f29, _, Try.func29, by kernel_rfl, rfl, rfl, by kernel_rfl, by kernel_rfl⟩⟩
def c_impl_IsRule : ACode := .seq (.reg [⟨(some 1), .box 40 (.tmp 0), none⟩,
  ⟨(some 2), .mv (.const (.bool false)), none⟩])
 (.seq (.reg [⟨(some 6), .ld (some 3) (.tmp 1), none⟩,
  ⟨(some 7), .call (.func 78) [(.tmp 6)], none⟩,
  ⟨(some 5), .mv (.tmp 7), none⟩,
  ⟨(some 8), .ext 0 (.tmp 5), none⟩,
  ⟨(some 9), .ext 1 (.tmp 5), none⟩,
  ⟨(some 3), .mv (.tmp 8), none⟩,
  ⟨(some 4), .mv (.tmp 9), none⟩])
 (.seq (.reg [⟨(some 10), .mv (.tmp 4), none⟩,
  ⟨(some 2), .mv (.tmp 10), none⟩])
 (.ret)))
def r_impl_IsRule : List ARes := [.tmp 2]
theorem ok_impl_IsRule : FnOk Try.prog 31 11 c_impl_IsRule r_impl_IsRule := ⟨⟨Try.f31, _, Try.func31, by kernel_rfl, rfl, rfl, by kernel_rfl, by kernel_rfl⟩⟩
def c_spec_RuleOrder : ACode := .seq (.reg [⟨(some 2), .box 27 (.tmp 0), none⟩,
  ⟨(some 3), .box 40 (.tmp 1), none⟩,
  ⟨(some 4), .mv (.const (.int .i64 0)), none⟩,
  ⟨(some 5), .mv (.const (.bool false)), none⟩])
 (.seq (.seq (.reg [⟨(some 7), .ld (some 2) (.tmp 2), none⟩,
  ⟨(some 8), .call (.func 67) [(.tmp 7)], none⟩,
  ⟨(some 9), .un .not (.tmp 8), none⟩,
  ⟨(some 10), .mv (.tmp 9), none⟩,
  ⟨(some 11), .ld (some 3) (.tmp 3), (some (10, false))⟩,
  ⟨(some 12), .call (.func 77) [(.tmp 11)], (some (10, false))⟩,
  ⟨(some 13), .un .not (.tmp 12), (some (10, false))⟩,
  ⟨(some 14), .pick (.tmp 10) (.const (.bool true)) (.tmp 13), none⟩])
 (.cond (.tmp 14) (.seq (.reg [⟨(some 4), .mv (.const (.int .i64 0)), none⟩,
  ⟨(some 5), .mv (.const (.bool false)), none⟩])
 (.ret)) (.skip)))
 (.seq (.reg [⟨(some 15), .ld (some 3) (.tmp 3), none⟩,
  ⟨(some 16), .ld (some 2) (.tmp 2), none⟩,
  ⟨(some 17), .rcall (.func 71) [(.tmp 16)], none⟩,
  ⟨(some 18), .rcall (.func 79) [(.tmp 15), (.tmp 17)], none⟩,
  ⟨(some 6), .mv (.tmp 18), none⟩])
 (.seq (.seq (.reg [⟨(some 19), .mv (.tmp 6), none⟩,
  ⟨(some 20), .bin .gtr (.tmp 19) (.const (.int .i64 40)), none⟩])
 (.cond (.tmp 20) (.seq (.reg [⟨(some 4), .mv (.const (.int .i64 0)), none⟩,
  ⟨(some 5), .mv (.const (.bool false)), none⟩])
 (.ret)) (.skip)))
 (.seq (.reg [⟨(some 21), .mv (.tmp 6), none⟩,
  ⟨(some 4), .mv (.tmp 21), none⟩,
  ⟨(some 5), .mv (.const (.bool true)), none⟩])
 (.ret)))))
def r_spec_RuleOrder : List ARes := [.tmp 4, .tmp 5]
theorem ok_spec_RuleOrder : FnOk Try.prog 32 22 c_spec_RuleOrder r_spec_RuleOrder := ⟨⟨Try.f32, _, Try.func32, by kernel_rfl, rfl, rfl, by kernel_rfl, by kernel_rfl⟩⟩
def c_impl_RuleOrder : ACode := .seq (.reg [⟨(some 2), .box 27 (.tmp 0), none⟩,
  ⟨(some 3), .box 40 (.tmp 1), none⟩,
  ⟨(some 4), .mv (.const (.int .i64 0)), none⟩,
  ⟨(some 5), .mv (.const (.bool false)), none⟩])
 (.seq (.reg [⟨(some 12), .ld (some 2) (.tmp 2), none⟩,
  ⟨(some 13), .call (.func 24) [(.tmp 12)], none⟩,
  ⟨(some 11), .mv (.tmp 13), none⟩,
  ⟨(some 14), .ext 0 (.tmp 11), none⟩,
  ⟨(some 15), .ext 1 (.tmp 11), none⟩,
  ⟨(some 6), .mv (.tmp 14), none⟩,
  ⟨(some 7), .mv (.tmp 15), none⟩])
 (.seq (.reg [⟨(some 17), .ld (some 3) (.tmp 3), none⟩,
  ⟨(some 18), .call (.func 78) [(.tmp 17)], none⟩,
  ⟨(some 16), .mv (.tmp 18), none⟩,
  ⟨(some 19), .ext 0 (.tmp 16), none⟩,
  ⟨(some 20), .ext 1 (.tmp 16), none⟩,
  ⟨(some 8), .mv (.tmp 19), none⟩,
  ⟨(some 9), .mv (.tmp 20), none⟩])
 (.seq (.seq (.reg [⟨(some 21), .mv (.tmp 7), none⟩,
  ⟨(some 22), .un .not (.tmp 21), none⟩,
  ⟨(some 23), .mv (.tmp 22), none⟩,
  ⟨(some 24), .mv (.tmp 9), (some (23, false))⟩,
  ⟨(some 25), .un .not (.tmp 24), (some (23, false))⟩,
  ⟨(some 26), .pick (.tmp 23) (.const (.bool true)) (.tmp 25), none⟩])
 (.cond (.tmp 26) (.seq (.reg [⟨(some 4), .mv (.const (.int .i64 0)), none⟩,
  ⟨(some 5), .mv (.const (.bool false)), none⟩])
 (.ret)) (.skip)))
 (.seq (.reg [⟨(some 27), .mv (.tmp 8), none⟩,
  ⟨(some 28), .mv (.tmp 6), none⟩,
  ⟨(some 29), .call (.tmp 27) [(.tmp 28)], none⟩,
  ⟨(some 10), .mv (.tmp 29), none⟩])
 (.seq (.seq (.reg [⟨(some 30), .mv (.tmp 10), none⟩,
  ⟨(some 31), .call (.func 70) [(.tmp 30)], none⟩,
  ⟨(some 32), .un .not (.tmp 31), none⟩])
 (.cond (.tmp 32) (.seq (.reg [⟨(some 4), .mv (.const (.int .i64 0)), none⟩,
  ⟨(some 5), .mv (.const (.bool false)), none⟩])
 (.ret)) (.skip)))
 (.seq (.reg [⟨(some 33), .mv (.tmp 10), none⟩,
  ⟨(some 4), .mv (.tmp 33), none⟩,
  ⟨(some 5), .mv (.const (.bool true)), none⟩])
 (.ret)))))))
def r_impl_RuleOrder : List ARes := [.tmp 4, .tmp 5]
theorem ok_impl_RuleOrder : FnOk Try.prog 33 34 c_impl_RuleOrder r_impl_RuleOrder := ⟨⟨Try.f33, _, Try.func33, by kernel_rfl, rfl, rfl, by kernel_rfl, by kernel_rfl⟩⟩
def c_spec_RunOrders : ACode := .seq (.reg [⟨(some 3), .box 27 (.tmp 0), none⟩,
  ⟨(some 6), .mv (.const (.slice none 0 0)), none⟩,
  ⟨(some 7), .alc 27 [(.int .i64 0), (.slice none 0 0)], none⟩,
  ⟨(some 8), .mv (.const (.bool false)), none⟩])
 (.seq (.reg [⟨(some 14), .bsl 3 1 0 [] [], none⟩,
  ⟨(some 9), .mv (.tmp 14), none⟩])
 (.seq (.seq (.reg [⟨(some 15), .ld (some 2) (.tmp 3), none⟩,
  ⟨(some 16), .call (.func 67) [(.tmp 15)], none⟩,
  ⟨(some 17), .un .not (.tmp 16), none⟩,
  ⟨(some 18), .mv (.tmp 17), none⟩,
  ⟨(some 19), .mv (.tmp 1), (some (18, false))⟩,
  ⟨(some 20), .len (.tmp 19), (some (18, false))⟩,
  ⟨(some 21), .mv (.tmp 2), (some (18, false))⟩,
  ⟨(some 22), .len (.tmp 21), (some (18, false))⟩,
  ⟨(some 23), .bin .neq (.tmp 20) (.tmp 22), (some (18, false))⟩,
  ⟨(some 24), .pick (.tmp 18) (.const (.bool true)) (.tmp 23), none⟩,
  ⟨(some 25), .mv (.tmp 24), none⟩,
  ⟨(some 26), .mv (.tmp 2), (some (25, false))⟩,
  ⟨(some 27), .len (.tmp 26), (some (25, false))⟩,
  ⟨(some 28), .bin .gtr (.tmp 27) (.const (.int .i64 20)), (some (25, false))⟩,
  ⟨(some 29), .pick (.tmp 25) (.const (.bool true)) (.tmp 28), none⟩])
 (.cond (.tmp 29) (.seq (.reg [⟨(some 30), .mv (.tmp 9), none⟩,
  ⟨(some 31), .bld [(.int .i64 0), (.slice none 0 0)] [], none⟩,
  ⟨(some 6), .mv (.tmp 30), none⟩,
  ⟨none, .st 2 (.tmp 7) (.tmp 31), none⟩,
  ⟨(some 8), .mv (.const (.bool false)), none⟩])
 (.ret)) (.skip)))
 (.seq (.seq (.reg [⟨(some 32), .fad 0 (.tmp 3), none⟩]) (.seq (.reg [⟨(some 33), .ld none (.tmp 32), none⟩]) (.seq (.reg [⟨(some 34), .fad 1 (.tmp 3), none⟩]) (.seq (.reg [⟨(some 35), .ld none (.tmp 34), none⟩]) (.both (.seq (.reg [⟨(some 36), .rcall (.func 80) [(.tmp 35)], none⟩]) (.seq (.reg [⟨(some 37), .bld [(.int .i64 0), (.slice none 0 0)] [(0, 1, (.tmp 33)), (1, 1, (.tmp 36))], none⟩]) (.seq (.reg [⟨(some 10), .alc 27 [(.int .i64 0), (.slice none 0 0)], none⟩]) (.seq (.reg [⟨none, .st 2 (.tmp 10) (.tmp 37), none⟩]) (.skip))))) (.seq (.reg [⟨(some 10), .alc 27 [(.int .i64 0), (.slice none 0 0)], none⟩]) (.seq (.reg [⟨(some 36), .rcall (.func 80) [(.tmp 35)], none⟩]) (.seq (.reg [⟨(some 37), .bld [(.int .i64 0), (.slice none 0 0)] [(0, 1, (.tmp 33)), (1, 1, (.tmp 36))], none⟩]) (.seq (.reg [⟨none, .st 2 (.tmp 10) (.tmp 37), none⟩]) (.skip))))))))))
 (.seq (.seq (.reg [⟨(some 11), .mv (.const (.int .i64 0)), none⟩])
 (.block 0 (.loop (.seq (.seq (.reg [⟨(some 38), .mv (.tmp 11), none⟩,
  ⟨(some 39), .mv (.tmp 1), none⟩,
  ⟨(some 40), .len (.tmp 39), none⟩,
  ⟨(some 41), .bin .lss (.tmp 38) (.tmp 40), none⟩])
 (.cond (.tmp 41) (.skip) (.exit 0)))
 (.seq (.block 1 (.seq (.seq (.reg [⟨(some 45), .ld (some 2) (.tmp 10), none⟩]) (.seq (.reg [⟨(some 46), .mv (.tmp 1), none⟩]) (.seq (.reg [⟨(some 47), .mv (.tmp 11), none⟩]) (.seq (.reg [⟨(some 48), .iad 1 (.tmp 46) (.tmp 47), none⟩]) (.seq (.reg [⟨(some 49), .ld none (.tmp 48), none⟩]) (.seq (.reg [⟨(some 50), .mv (.tmp 2), none⟩]) (.seq (.reg [⟨(some 51), .mv (.tmp 11), none⟩]) (.seq (.reg [⟨(some 52), .iad 1 (.tmp 50) (.tmp 51), none⟩]) (.seq (.reg [⟨(some 53), .ld none (.tmp 52), none⟩]) (.both (.seq (.reg [⟨(some 54), .rcall (.func 25) [(.tmp 45), (.tmp 49), (.tmp 53)], none⟩]) (.seq (.reg [⟨(some 44), .mv (.tmp 54), none⟩]) (.seq (.reg [⟨(some 55), .ext 0 (.tmp 44), none⟩]) (.seq (.reg [⟨(some 56), .ext 1 (.tmp 44), none⟩]) (.seq (.reg [⟨(some 12), .alc 27 [(.int .i64 0), (.slice none 0 0)], none⟩]) (.seq (.reg [⟨none, .st 2 (.tmp 12) (.tmp 55), none⟩]) (.seq (.reg [⟨(some 13), .mv (.tmp 56), none⟩]) (.skip)))))))) (.seq (.reg [⟨(some 12), .alc 27 [(.int .i64 0), (.slice none 0 0)], none⟩]) (.seq (.reg [⟨(some 54), .rcall (.func 25) [(.tmp 45), (.tmp 49), (.tmp 53)], none⟩]) (.seq (.reg [⟨(some 44), .mv (.tmp 54), none⟩]) (.seq (.reg [⟨(some 55), .ext 0 (.tmp 44), none⟩]) (.seq (.reg [⟨(some 56), .ext 1 (.tmp 44), none⟩]) (.seq (.reg [⟨none, .st 2 (.tmp 12) (.tmp 55), none⟩]) (.seq (.reg [⟨(some 13), .mv (.tmp 56), none⟩]) (.skip))))))))))))))))))
 (.seq (.seq (.reg [⟨(some 57), .mv (.tmp 13), none⟩,
  ⟨(some 58), .un .not (.tmp 57), none⟩])
 (.cond (.tmp 58) (.seq (.reg [⟨(some 59), .bsl 3 1 0 [] [], none⟩,
  ⟨(some 60), .bld [(.int .i64 0), (.slice none 0 0)] [], none⟩,
  ⟨(some 6), .mv (.tmp 59), none⟩,
  ⟨none, .st 2 (.tmp 7) (.tmp 60), none⟩,
  ⟨(some 8), .mv (.const (.bool false)), none⟩])
 (.ret)) (.skip)))
 (.seq (.reg [⟨(some 61), .mv (.tmp 9), none⟩,
  ⟨(some 62), .fad 0 (.tmp 12), none⟩,
  ⟨(some 63), .ld none (.tmp 62), none⟩,
  ⟨(some 64), .bsl 3 1 1 [(.int .i64 0)] [(0, 1, (.tmp 63))], none⟩,
  ⟨(some 65), .app 3 1 8 (.tmp 61) (.tmp 64), none⟩,
  ⟨(some 9), .mv (.tmp 65), none⟩])
 (.reg [⟨(some 66), .ld (some 2) (.tmp 12), none⟩,
  ⟨none, .st 2 (.tmp 10) (.tmp 66), none⟩])))))
 (.reg [⟨(some 42), .mv (.tmp 11), none⟩,
  ⟨(some 43), .bin .add (.tmp 42) (.const (.int .i64 1)), none⟩,
  ⟨(some 11), .mv (.tmp 43), none⟩]))))))
 (.seq (.reg [⟨(some 67), .mv (.tmp 9), none⟩,
  ⟨(some 68), .ld (some 2) (.tmp 10), none⟩,
  ⟨(some 6), .mv (.tmp 67), none⟩,
  ⟨none, .st 2 (.tmp 7) (.tmp 68), none⟩,
  ⟨(some 8), .mv (.const (.bool true)), none⟩])
 (.ret))))))
def r_spec_RunOrders : List ARes := [.tmp 6, .cell 7 (some 2), .tmp 8]
theorem ok_spec_RunOrders : FnOk Try.prog 34 69 c_spec_RunOrders r_spec_RunOrders := ⟨⟨Try.f34, _, Try.func34, by kernel_rfl, rfl, rfl, by kernel_rfl, by kernel_rfl⟩⟩
def c_impl_RunOrders : ACode := .seq (.reg [⟨(some 3), .box 27 (.tmp 0), none⟩,
  ⟨(some 4), .box 22 (.tmp 1), none⟩,
  ⟨(some 6), .mv (.const (.slice none 0 0)), none⟩,
  ⟨(some 7), .alc 27 [(.int .i64 0), (.slice none 0 0)], none⟩,
  ⟨(some 8), .mv (.const (.bool false)), none⟩])
 (.seq (.seq (.reg [⟨(some 11), .ld none (.tmp 4), none⟩,
  ⟨(some 12), .len (.tmp 11), none⟩,
  ⟨(some 13), .mv (.tmp 2), none⟩,
  ⟨(some 14), .len (.tmp 13), none⟩,
  ⟨(some 15), .bin .neq (.tmp 12) (.tmp 14), none⟩])
 (.cond (.tmp 15) (.seq (.reg [⟨(some 16), .bsl 3 1 0 [] [], none⟩,
  ⟨(some 17), .bld [(.int .i64 0), (.slice none 0 0)] [], none⟩,
  ⟨(some 6), .mv (.tmp 16), none⟩,
  ⟨none, .st 2 (.tmp 7) (.tmp 17), none⟩,
  ⟨(some 8), .mv (.const (.bool false)), none⟩])
 (.ret)) (.skip)))
 (.seq (.reg [⟨(some 19), .ld (some 2) (.tmp 3), none⟩,
  ⟨(some 20), .mv (.tmp 2), none⟩,
  ⟨(some 21), .mkf 82 [] [(.tmp 4)], none⟩,
  ⟨(some 22), .call (.func 81) [(.tmp 19), (.tmp 20), (.tmp 21)], none⟩,
  ⟨(some 18), .mv (.tmp 22), none⟩,
  ⟨(some 23), .ext 0 (.tmp 18), none⟩,
  ⟨(some 24), .ext 1 (.tmp 18), none⟩,
  ⟨(some 9), .mv (.tmp 23), none⟩,
  ⟨(some 10), .mv (.tmp 24), none⟩])
 (.seq (.seq (.reg [⟨(some 25), .mv (.tmp 10), none⟩,
  ⟨(some 26), .un .not (.tmp 25), none⟩])
 (.cond (.tmp 26) (.seq (.reg [⟨(some 27), .bsl 3 1 0 [] [], none⟩,
  ⟨(some 28), .bld [(.int .i64 0), (.slice none 0 0)] [], none⟩,
  ⟨(some 6), .mv (.tmp 27), none⟩,
  ⟨none, .st 2 (.tmp 7) (.tmp 28), none⟩,
  ⟨(some 8), .mv (.const (.bool false)), none⟩])
 (.ret)) (.skip)))
 (.seq (.reg [⟨(some 29), .mv (.tmp 9), none⟩,
  ⟨(some 30), .slc 3 (.tmp 29) (some (.const (.int .i64 1))) none, none⟩,
  ⟨(some 32), .mv (.tmp 9), none⟩,
  ⟨(some 33), .mv (.tmp 9), none⟩,
  ⟨(some 34), .len (.tmp 33), none⟩,
  ⟨(some 35), .bin .sub (.tmp 34) (.const (.int .i64 1)), none⟩,
  ⟨(some 36), .iad 3 (.tmp 32) (.tmp 35), none⟩,
  ⟨(some 37), .fad 1 (.tmp 36), none⟩,
  ⟨(some 38), .ld (some 2) (.tmp 37), none⟩,
  ⟨(some 31), .rcall (.func 83) [(.tmp 30), (.func 84)], none⟩,
  ⟨(some 6), .mv (.tmp 31), none⟩,
  ⟨none, .st 2 (.tmp 7) (.tmp 38), none⟩,
  ⟨(some 8), .mv (.const (.bool true)), none⟩])
 (.ret)))))
def r_impl_RunOrders : List ARes := [.tmp 6, .cell 7 (some 2), .tmp 8]
theorem ok_impl_RunOrders : FnOk Try.prog 36 39 c_impl_RunOrders r_impl_RunOrders := ⟨⟨Try.f36, _, Try.func36, by kernel_rfl, rfl, rfl, by kernel_rfl, by kernel_rfl⟩⟩
def c_spec_RunRule : ACode := .seq (.reg [⟨(some 3), .box 27 (.tmp 0), none⟩,
  ⟨(some 4), .box 40 (.tmp 1), none⟩,
  ⟨(some 6), .mv (.const (.slice none 0 0)), none⟩,
  ⟨(some 7), .mv (.const (.slice none 0 0)), none⟩,
  ⟨(some 8), .mv (.const (.bool false)), none⟩])
 (.seq (.reg [⟨(some 12), .ld (some 2) (.tmp 3), none⟩,
  ⟨(some 13), .ld (some 3) (.tmp 4), none⟩,
  ⟨(some 14), .mv (.tmp 2), none⟩,
  ⟨(some 15), .call (.func 85) [(.tmp 12), (.tmp 13), (.tmp 14)], none⟩,
  ⟨(some 11), .mv (.tmp 15), none⟩,
  ⟨(some 16), .ext 0 (.tmp 11), none⟩,
  ⟨(some 17), .ext 1 (.tmp 11), none⟩,
  ⟨(some 9), .alc 101 [(.slice none 0 0), (.slice none 0 0), (.int .i64 0)], none⟩,
  ⟨none, .st 3 (.tmp 9) (.tmp 16), none⟩,
  ⟨(some 10), .mv (.tmp 17), none⟩])
 (.seq (.reg [⟨(some 18), .fad 0 (.tmp 9), none⟩,
  ⟨(some 19), .ld none (.tmp 18), none⟩,
  ⟨(some 20), .fad 1 (.tmp 9), none⟩,
  ⟨(some 21), .ld none (.tmp 20), none⟩,
  ⟨(some 22), .mv (.tmp 10), none⟩,
  ⟨(some 6), .mv (.tmp 19), none⟩,
  ⟨(some 7), .mv (.tmp 21), none⟩,
  ⟨(some 8), .mv (.tmp 22), none⟩])
 (.ret)))
def r_spec_RunRule : List ARes := [.tmp 6, .tmp 7, .tmp 8]
theorem ok_spec_RunRule : FnOk Try.prog 40 23 c_spec_RunRule r_spec_RunRule := ⟨⟨Try.f40, _, Try.func40, by kernel_rfl, rfl, rfl, by kernel_rfl, by kernel_rfl⟩⟩
def c_impl_RunRule : ACode := .seq (.reg [⟨(some 3), .box 27 (.tmp 0), none⟩,
  ⟨(some 4), .box 40 (.tmp 1), none⟩,
  ⟨(some 6), .mv (.const (.slice none 0 0)), none⟩,
  ⟨(some 7), .mv (.const (.slice none 0 0)), none⟩,
  ⟨(some 8), .mv (.const (.bool false)), none⟩])
 (.seq (.seq (.reg [⟨(some 11), .ld (some 3) (.tmp 4), none⟩,
  ⟨(some 12), .call (.func 31) [(.tmp 11)], none⟩,
  ⟨(some 13), .un .not (.tmp 12), none⟩])
 (.cond (.tmp 13) (.seq (.reg [⟨(some 14), .bsl 3 1 0 [] [], none⟩,
  ⟨(some 15), .bsl 3 1 0 [] [], none⟩,
  ⟨(some 6), .mv (.tmp 14), none⟩,
  ⟨(some 7), .mv (.tmp 15), none⟩,
  ⟨(some 8), .mv (.const (.bool false)), none⟩])
 (.ret)) (.skip)))
 (.seq (.reg [⟨(some 17), .ld (some 2) (.tmp 3), none⟩,
  ⟨(some 18), .mv (.tmp 2), none⟩,
  ⟨(some 19), .mkf 86 [] [(.tmp 4)], none⟩,
  ⟨(some 20), .call (.func 81) [(.tmp 17), (.tmp 18), (.tmp 19)], none⟩,
  ⟨(some 16), .mv (.tmp 20), none⟩,
  ⟨(some 21), .ext 0 (.tmp 16), none⟩,
  ⟨(some 22), .ext 1 (.tmp 16), none⟩,
  ⟨(some 9), .mv (.tmp 21), none⟩,
  ⟨(some 10), .mv (.tmp 22), none⟩])
 (.seq (.seq (.reg [⟨(some 23), .mv (.tmp 10), none⟩,
  ⟨(some 24), .un .not (.tmp 23), none⟩])
 (.cond (.tmp 24) (.seq (.reg [⟨(some 25), .bsl 3 1 0 [] [], none⟩,
  ⟨(some 26), .bsl 3 1 0 [] [], none⟩,
  ⟨(some 6), .mv (.tmp 25), none⟩,
  ⟨(some 7), .mv (.tmp 26), none⟩,
  ⟨(some 8), .mv (.const (.bool false)), none⟩])
 (.ret)) (.skip)))
 (.seq (.reg [⟨(some 27), .mv (.tmp 9), none⟩,
  ⟨(some 28), .slc 3 (.tmp 27) (some (.const (.int .i64 1))) none, none⟩,
  ⟨(some 30), .mv (.tmp 9), none⟩,
  ⟨(some 31), .slc 3 (.tmp 30) (some (.const (.int .i64 1))) none, none⟩,
  ⟨(some 29), .rcall (.func 83) [(.tmp 28), (.func 87)], none⟩,
  ⟨(some 32), .rcall (.func 83) [(.tmp 31), (.func 84)], none⟩,
  ⟨(some 6), .mv (.tmp 29), none⟩,
  ⟨(some 7), .mv (.tmp 32), none⟩,
  ⟨(some 8), .mv (.const (.bool true)), none⟩])
 (.ret)))))
def r_impl_RunRule : List ARes := [.tmp 6, .tmp 7, .tmp 8]
theorem ok_impl_RunRule : FnOk Try.prog 41 33 c_impl_RunRule r_impl_RunRule := ⟨⟨Try.f41, _, Try.func41, by kernel_rfl, rfl, rfl, by kernel_rfl, by kernel_rfl⟩⟩
def c_spec_ServiceOf : ACode := .seq (.reg [⟨(some 3), .box 27 (.tmp 0), none⟩,
  ⟨(some 4), .box 40 (.tmp 1), none⟩,
  ⟨(some 6), .mv (.const (.int .i64 0)), none⟩,
  ⟨(some 7), .mv (.const (.int .i64 0)), none⟩,
  ⟨(some 8), .mv (.const (.bool false)), none⟩])
 (.seq (.reg [⟨(some 12), .ld (some 2) (.tmp 3), none⟩,
  ⟨(some 13), .ld (some 3) (.tmp 4), none⟩,
  ⟨(some 14), .mv (.tmp 2), none⟩,
  ⟨(some 15), .call (.func 85) [(.tmp 12), (.tmp 13), (.tmp 14)], none⟩,
  ⟨(some 11), .mv (.tmp 15), none⟩,
  ⟨(some 16), .ext 0 (.tmp 11), none⟩,
  ⟨(some 17), .ext 1 (.tmp 11), none⟩,
  ⟨(some 9), .alc 101 [(.slice none 0 0), (.slice none 0 0), (.int .i64 0)], none⟩,
  ⟨none, .st 3 (.tmp 9) (.tmp 16), none⟩,
  ⟨(some 10), .mv (.tmp 17), none⟩])
 (.seq (.seq (.reg [⟨(some 18), .mv (.tmp 10), none⟩,
  ⟨(some 19), .un .not (.tmp 18), none⟩])
 (.cond (.tmp 19) (.seq (.reg [⟨(some 6), .mv (.const (.int .i64 0)), none⟩,
  ⟨(some 7), .mv (.const (.int .i64 0)), none⟩,
  ⟨(some 8), .mv (.const (.bool false)), none⟩])
 (.ret)) (.skip)))
 (.seq (.reg [⟨(some 20), .fad 2 (.tmp 9), none⟩,
  ⟨(some 21), .ld none (.tmp 20), none⟩,
  ⟨(some 22), .mv (.tmp 2), none⟩,
  ⟨(some 23), .rcall (.func 88) [(.tmp 22)], none⟩,
  ⟨(some 6), .mv (.tmp 21), none⟩,
  ⟨(some 7), .mv (.tmp 23), none⟩,
  ⟨(some 8), .mv (.const (.bool true)), none⟩])
 (.ret))))
def r_spec_ServiceOf : List ARes := [.tmp 6, .tmp 7, .tmp 8]
theorem ok_spec_ServiceOf : FnOk Try.prog 42 24 c_spec_ServiceOf r_spec_ServiceOf := ⟨⟨Try.f42, _, Try.func42, by kernel_rfl, rfl, rfl, by kernel_rfl, by kernel_rfl⟩⟩
def c_impl_ServiceOf : ACode := .seq (.reg [⟨(some 3), .box 27 (.tmp 0), none⟩,
  ⟨(some 4), .box 40 (.tmp 1), none⟩,
  ⟨(some 6), .mv (.const (.int .i64 0)), none⟩,
  ⟨(some 7), .mv (.const (.int .i64 0)), none⟩,
  ⟨(some 8), .mv (.const (.bool false)), none⟩])
 (.seq (.reg [⟨(some 16), .ld (some 2) (.tmp 3), none⟩,
  ⟨(some 17), .ld (some 3) (.tmp 4), none⟩,
  ⟨(some 18), .mv (.tmp 2), none⟩,
  ⟨(some 19), .call (.func 41) [(.tmp 16), (.tmp 17), (.tmp 18)], none⟩,
  ⟨(some 15), .mv (.tmp 19), none⟩,
  ⟨(some 20), .ext 0 (.tmp 15), none⟩,
  ⟨(some 21), .ext 1 (.tmp 15), none⟩,
  ⟨(some 22), .ext 2 (.tmp 15), none⟩,
  ⟨(some 9), .mv (.tmp 20), none⟩,
  ⟨(some 10), .mv (.tmp 21), none⟩,
  ⟨(some 11), .mv (.tmp 22), none⟩])
 (.seq (.seq (.reg [⟨(some 23), .mv (.tmp 11), none⟩,
  ⟨(some 24), .un .not (.tmp 23), none⟩])
 (.cond (.tmp 24) (.seq (.reg [⟨(some 6), .mv (.const (.int .i64 0)), none⟩,
  ⟨(some 7), .mv (.const (.int .i64 0)), none⟩,
  ⟨(some 8), .mv (.const (.bool false)), none⟩])
 (.ret)) (.skip)))
 (.seq (.reg [⟨(some 12), .mv (.const (.int .i64 0)), none⟩])
 (.seq (.seq (.reg [⟨(some 25), .mv (.tmp 2), none⟩,
  ⟨(some 26), .len (.tmp 25), none⟩,
  ⟨(some 27), .mv (.const (.int .i64 0)), none⟩])
 (.block 0 (.loop (.seq (.reg [⟨(some 28), .bin .lss (.tmp 27) (.tmp 26), none⟩])
 (.seq (.cond (.tmp 28) (.skip) (.exit 0))
 (.seq (.block 1 (.seq (.reg [⟨(some 29), .mv (.tmp 27), none⟩,
  ⟨(some 30), .iad 1 (.tmp 25) (.tmp 27), none⟩,
  ⟨(some 31), .ld none (.tmp 30), none⟩,
  ⟨(some 13), .mv (.tmp 29), none⟩,
  ⟨(some 14), .mv (.tmp 31), none⟩])
 (.reg [⟨(some 32), .mv (.tmp 12), none⟩,
  ⟨(some 33), .mv (.tmp 14), none⟩,
  ⟨(some 34), .mv (.tmp 10), none⟩,
  ⟨(some 35), .mv (.tmp 13), none⟩,
  ⟨(some 36), .iad 1 (.tmp 34) (.tmp 35), none⟩,
  ⟨(some 37), .ld none (.tmp 36), none⟩,
  ⟨(some 38), .mv (.tmp 14), none⟩,
  ⟨(some 39), .bin .add (.tmp 37) (.tmp 38), none⟩,
  ⟨(some 40), .mmx false (.tmp 33) (.tmp 39), none⟩,
  ⟨(some 41), .mmx true (.const (.int .i64 0)) (.tmp 40), none⟩,
  ⟨(some 42), .bin .add (.tmp 32) (.tmp 41), none⟩,
  ⟨(some 12), .mv (.tmp 42), none⟩])))
 (.reg [⟨(some 43), .bin .add (.tmp 27) (.const (.int .i64 1)), none⟩,
  ⟨(some 27), .mv (.tmp 43), none⟩])))))))
 (.seq (.reg [⟨(some 44), .mv (.tmp 12), none⟩,
  ⟨(some 45), .mv (.tmp 2), none⟩,
  ⟨(some 46), .call (.func 72) [(.tmp 45)], none⟩,
  ⟨(some 6), .mv (.tmp 44), none⟩,
  ⟨(some 7), .mv (.tmp 46), none⟩,
  ⟨(some 8), .mv (.const (.bool true)), none⟩])
 (.ret))))))
def r_impl_ServiceOf : List ARes := [.tmp 6, .tmp 7, .tmp 8]
theorem ok_impl_ServiceOf : FnOk Try.prog 43 47 c_impl_ServiceOf r_impl_ServiceOf := ⟨⟨Try.f43, _, Try.func43, by kernel_rfl, rfl, rfl, by kernel_rfl, by kernel_rfl⟩⟩
def c_spec_StockCost : ACode := .seq (.reg [⟨(some 6), .mv (.const (.int .i64 0)), none⟩,
  ⟨(some 7), .mv (.const (.bool false)), none⟩])
 (.seq (.seq (.reg [⟨(some 10), .mv (.tmp 0), none⟩,
  ⟨(some 11), .len (.tmp 10), none⟩,
  ⟨(some 12), .bin .gtr (.tmp 11) (.const (.int .i64 20)), none⟩,
  ⟨(some 13), .mv (.tmp 12), none⟩,
  ⟨(some 14), .mv (.tmp 1), (some (13, false))⟩,
  ⟨(some 15), .mv (.tmp 2), (some (13, false))⟩,
  ⟨(some 16), .call (.func 89) [(.tmp 14), (.tmp 15)], (some (13, false))⟩,
  ⟨(some 17), .un .not (.tmp 16), (some (13, false))⟩,
  ⟨(some 18), .pick (.tmp 13) (.const (.bool true)) (.tmp 17), none⟩])
 (.cond (.tmp 18) (.seq (.reg [⟨(some 6), .mv (.const (.int .i64 0)), none⟩,
  ⟨(some 7), .mv (.const (.bool false)), none⟩])
 (.ret)) (.skip)))
 (.seq (.reg [⟨(some 8), .mv (.const (.int .i64 0)), none⟩])
 (.seq (.seq (.reg [⟨(some 9), .mv (.const (.int .i64 0)), none⟩])
 (.block 0 (.loop (.seq (.seq (.reg [⟨(some 19), .mv (.tmp 9), none⟩,
  ⟨(some 20), .mv (.tmp 0), none⟩,
  ⟨(some 21), .len (.tmp 20), none⟩,
  ⟨(some 22), .bin .lss (.tmp 19) (.tmp 21), none⟩])
 (.cond (.tmp 22) (.skip) (.exit 0)))
 (.seq (.block 1 (.seq (.seq (.reg [⟨(some 25), .mv (.tmp 0), none⟩,
  ⟨(some 26), .mv (.tmp 9), none⟩,
  ⟨(some 27), .iad 1 (.tmp 25) (.tmp 26), none⟩,
  ⟨(some 28), .ld none (.tmp 27), none⟩,
  ⟨(some 29), .call (.func 73) [(.tmp 28), (.const (.int .i64 (-200))), (.const (.int .i64 200))], none⟩,
  ⟨(some 30), .un .not (.tmp 29), none⟩])
 (.cond (.tmp 30) (.seq (.reg [⟨(some 6), .mv (.const (.int .i64 0)), none⟩,
  ⟨(some 7), .mv (.const (.bool false)), none⟩])
 (.ret)) (.skip)))
 (.reg [⟨(some 31), .mv (.tmp 8), none⟩,
  ⟨(some 32), .mv (.tmp 0), none⟩,
  ⟨(some 33), .mv (.tmp 9), none⟩,
  ⟨(some 34), .iad 1 (.tmp 32) (.tmp 33), none⟩,
  ⟨(some 35), .ld none (.tmp 34), none⟩,
  ⟨(some 36), .mv (.tmp 1), none⟩,
  ⟨(some 37), .mv (.tmp 2), none⟩,
  ⟨(some 38), .call (.func 90) [(.tmp 35), (.tmp 36), (.tmp 37)], none⟩,
  ⟨(some 39), .bin .add (.tmp 31) (.tmp 38), none⟩,
  ⟨(some 8), .mv (.tmp 39), none⟩])))
 (.reg [⟨(some 23), .mv (.tmp 9), none⟩,
  ⟨(some 24), .bin .add (.tmp 23) (.const (.int .i64 1)), none⟩,
  ⟨(some 9), .mv (.tmp 24), none⟩]))))))
 (.seq (.reg [⟨(some 40), .mv (.tmp 8), none⟩,
  ⟨(some 6), .mv (.tmp 40), none⟩,
  ⟨(some 7), .mv (.const (.bool true)), none⟩])
 (.ret)))))
def r_spec_StockCost : List ARes := [.tmp 6, .tmp 7]
theorem ok_spec_StockCost : FnOk Try.prog 44 41 c_spec_StockCost r_spec_StockCost := ⟨⟨Try.f44, _, Try.func44, by kernel_rfl, rfl, rfl, by kernel_rfl, by kernel_rfl⟩⟩
def c_impl_StockCost : ACode := .seq (.reg [⟨(some 6), .mv (.const (.int .i64 0)), none⟩,
  ⟨(some 7), .mv (.const (.bool false)), none⟩])
 (.seq (.seq (.reg [⟨(some 8), .mv (.tmp 0), none⟩,
  ⟨(some 9), .call (.func 69) [(.const (.int .i64 20)), (.tmp 8), (.func 68)], none⟩,
  ⟨(some 10), .un .not (.tmp 9), none⟩,
  ⟨(some 11), .mv (.tmp 10), none⟩,
  ⟨(some 12), .mv (.tmp 1), (some (11, false))⟩,
  ⟨(some 13), .mv (.tmp 2), (some (11, false))⟩,
  ⟨(some 14), .call (.func 91) [(.tmp 12), (.tmp 13)], (some (11, false))⟩,
  ⟨(some 15), .un .not (.tmp 14), (some (11, false))⟩,
  ⟨(some 16), .pick (.tmp 11) (.const (.bool true)) (.tmp 15), none⟩])
 (.cond (.tmp 16) (.seq (.reg [⟨(some 6), .mv (.const (.int .i64 0)), none⟩,
  ⟨(some 7), .mv (.const (.bool false)), none⟩])
 (.ret)) (.skip)))
 (.seq (.reg [⟨(some 17), .mv (.tmp 0), none⟩,
  ⟨(some 18), .mv (.tmp 1), none⟩,
  ⟨(some 19), .mv (.tmp 2), none⟩,
  ⟨(some 20), .call (.func 92) [(.tmp 17), (.tmp 18), (.tmp 19)], none⟩,
  ⟨(some 6), .mv (.tmp 20), none⟩,
  ⟨(some 7), .mv (.const (.bool true)), none⟩])
 (.ret)))
def r_impl_StockCost : List ARes := [.tmp 6, .tmp 7]
theorem ok_impl_StockCost : FnOk Try.prog 45 21 c_impl_StockCost r_impl_StockCost := ⟨⟨Try.f45, _, Try.func45, by kernel_rfl, rfl, rfl, by kernel_rfl, by kernel_rfl⟩⟩
def c_impl_LeadNeeds : ACode := .seq (.reg [⟨(some 4), .mv (.const (.slice none 0 0)), none⟩,
  ⟨(some 5), .mv (.const (.bool false)), none⟩])
 (.seq (.seq (.reg [⟨(some 8), .mv (.tmp 0), none⟩,
  ⟨(some 9), .call (.func 95) [(.tmp 8)], none⟩,
  ⟨(some 10), .un .not (.tmp 9), none⟩,
  ⟨(some 11), .mv (.tmp 10), none⟩,
  ⟨(some 12), .mv (.tmp 1), (some (11, false))⟩,
  ⟨(some 13), .call (.func 96) [(.tmp 12), (.const (.int .i64 4))], (some (11, false))⟩,
  ⟨(some 14), .un .not (.tmp 13), (some (11, false))⟩,
  ⟨(some 15), .pick (.tmp 11) (.const (.bool true)) (.tmp 14), none⟩])
 (.cond (.tmp 15) (.seq (.reg [⟨(some 16), .bsl 3 1 0 [] [], none⟩,
  ⟨(some 4), .mv (.tmp 16), none⟩,
  ⟨(some 5), .mv (.const (.bool false)), none⟩])
 (.ret)) (.skip)))
 (.seq (.reg [⟨(some 17), .bsl 3 1 0 [] [], none⟩,
  ⟨(some 6), .mv (.tmp 17), none⟩])
 (.seq (.seq (.reg [⟨(some 18), .mv (.tmp 1), none⟩,
  ⟨(some 7), .mv (.tmp 18), none⟩])
 (.block 0 (.loop (.seq (.seq (.reg [⟨(some 19), .mv (.tmp 7), none⟩,
  ⟨(some 20), .mv (.tmp 0), none⟩,
  ⟨(some 21), .len (.tmp 20), none⟩,
  ⟨(some 22), .bin .lss (.tmp 19) (.tmp 21), none⟩])
 (.cond (.tmp 22) (.skip) (.exit 0)))
 (.seq (.block 1 (.reg [⟨(some 25), .mv (.tmp 6), none⟩,
  ⟨(some 26), .mv (.tmp 0), none⟩,
  ⟨(some 27), .mv (.tmp 7), none⟩,
  ⟨(some 28), .mv (.tmp 1), none⟩,
  ⟨(some 29), .bin .sub (.tmp 27) (.tmp 28), none⟩,
  ⟨(some 30), .mv (.tmp 7), none⟩,
  ⟨(some 31), .bin .add (.tmp 30) (.const (.int .i64 1)), none⟩,
  ⟨(some 32), .slc 1 (.tmp 26) (some (.tmp 29)) (some (.tmp 31)), none⟩,
  ⟨(some 33), .call (.func 72) [(.tmp 32)], none⟩,
  ⟨(some 34), .bsl 3 1 1 [(.int .i64 0)] [(0, 1, (.tmp 33))], none⟩,
  ⟨(some 35), .app 3 1 8 (.tmp 25) (.tmp 34), none⟩,
  ⟨(some 6), .mv (.tmp 35), none⟩]))
 (.reg [⟨(some 23), .mv (.tmp 7), none⟩,
  ⟨(some 24), .bin .add (.tmp 23) (.const (.int .i64 1)), none⟩,
  ⟨(some 7), .mv (.tmp 24), none⟩]))))))
 (.seq (.reg [⟨(some 36), .mv (.tmp 6), none⟩,
  ⟨(some 4), .mv (.tmp 36), none⟩,
  ⟨(some 5), .mv (.const (.bool true)), none⟩])
 (.ret)))))
def r_impl_LeadNeeds : List ARes := [.tmp 4, .tmp 5]
theorem ok_impl_LeadNeeds : FnOk Try.prog 47 37 c_impl_LeadNeeds r_impl_LeadNeeds := ⟨⟨Try.f47, _, Try.func47, by kernel_rfl, rfl, rfl, by kernel_rfl, by kernel_rfl⟩⟩
def c_spec_BestUpTo : ACode := .seq (.reg [⟨(some 8), .mv (.const (.int .i64 0)), none⟩,
  ⟨(some 9), .mv (.const (.int .i64 0)), none⟩,
  ⟨(some 10), .mv (.const (.bool false)), none⟩])
 (.seq (.seq (.reg [⟨(some 17), .mv (.tmp 0), none⟩,
  ⟨(some 18), .mv (.tmp 1), none⟩,
  ⟨(some 19), .call (.func 93) [(.tmp 17), (.tmp 18)], none⟩,
  ⟨(some 20), .un .not (.tmp 19), none⟩,
  ⟨(some 21), .mv (.tmp 20), none⟩,
  ⟨(some 22), .mv (.tmp 2), (some (21, false))⟩,
  ⟨(some 23), .mv (.tmp 3), (some (21, false))⟩,
  ⟨(some 24), .call (.func 89) [(.tmp 22), (.tmp 23)], (some (21, false))⟩,
  ⟨(some 25), .un .not (.tmp 24), (some (21, false))⟩,
  ⟨(some 26), .pick (.tmp 21) (.const (.bool true)) (.tmp 25), none⟩])
 (.cond (.tmp 26) (.seq (.reg [⟨(some 8), .mv (.const (.int .i64 0)), none⟩,
  ⟨(some 9), .mv (.const (.int .i64 0)), none⟩,
  ⟨(some 10), .mv (.const (.bool false)), none⟩])
 (.ret)) (.skip)))
 (.seq (.reg [⟨(some 27), .mv (.tmp 0), none⟩,
  ⟨(some 28), .mv (.tmp 1), none⟩,
  ⟨(some 29), .call (.func 94) [(.tmp 27), (.tmp 28)], none⟩,
  ⟨(some 11), .mv (.tmp 29), none⟩,
  ⟨(some 12), .mv (.const (.int .i64 0)), none⟩,
  ⟨(some 13), .mv (.const (.int .i64 (-1))), none⟩])
 (.seq (.seq (.reg [⟨(some 14), .mv (.const (.int .i64 0)), none⟩])
 (.block 0 (.loop (.seq (.seq (.reg [⟨(some 30), .mv (.tmp 14), none⟩,
  ⟨(some 31), .bin .leq (.tmp 30) (.const (.int .i64 200)), none⟩])
 (.cond (.tmp 31) (.skip) (.exit 0)))
 (.seq (.block 1 (.seq (.reg [⟨(some 15), .mv (.const (.int .i64 0)), none⟩])
 (.seq (.seq (.reg [⟨(some 16), .mv (.const (.int .i64 0)), none⟩])
 (.block 2 (.loop (.seq (.seq (.reg [⟨(some 34), .mv (.tmp 16), none⟩,
  ⟨(some 35), .mv (.tmp 11), none⟩,
  ⟨(some 36), .len (.tmp 35), none⟩,
  ⟨(some 37), .bin .lss (.tmp 34) (.tmp 36), none⟩])
 (.cond (.tmp 37) (.skip) (.exit 2)))
 (.seq (.block 3 (.reg [⟨(some 40), .mv (.tmp 15), none⟩,
  ⟨(some 41), .mv (.tmp 14), none⟩,
  ⟨(some 42), .mv (.tmp 11), none⟩,
  ⟨(some 43), .mv (.tmp 16), none⟩,
  ⟨(some 44), .iad 1 (.tmp 42) (.tmp 43), none⟩,
  ⟨(some 45), .ld none (.tmp 44), none⟩,
  ⟨(some 46), .bin .sub (.tmp 41) (.tmp 45), none⟩,
  ⟨(some 47), .mv (.tmp 2), none⟩,
  ⟨(some 48), .mv (.tmp 3), none⟩,
  ⟨(some 49), .call (.func 90) [(.tmp 46), (.tmp 47), (.tmp 48)], none⟩,
  ⟨(some 50), .bin .add (.tmp 40) (.tmp 49), none⟩,
  ⟨(some 15), .mv (.tmp 50), none⟩]))
 (.reg [⟨(some 38), .mv (.tmp 16), none⟩,
  ⟨(some 39), .bin .add (.tmp 38) (.const (.int .i64 1)), none⟩,
  ⟨(some 16), .mv (.tmp 39), none⟩]))))))
 (.seq (.reg [⟨(some 51), .mv (.tmp 13), none⟩,
  ⟨(some 52), .bin .lss (.tmp 51) (.const (.int .i64 0)), none⟩,
  ⟨(some 53), .mv (.tmp 52), none⟩,
  ⟨(some 54), .mv (.tmp 15), (some (53, false))⟩,
  ⟨(some 55), .mv (.tmp 13), (some (53, false))⟩,
  ⟨(some 56), .bin .lss (.tmp 54) (.tmp 55), (some (53, false))⟩,
  ⟨(some 57), .pick (.tmp 53) (.const (.bool true)) (.tmp 56), none⟩])
 (.cond (.tmp 57) (.seq (.reg [⟨(some 58), .mv (.tmp 14), none⟩,
  ⟨(some 12), .mv (.tmp 58), none⟩])
 (.reg [⟨(some 59), .mv (.tmp 15), none⟩,
  ⟨(some 13), .mv (.tmp 59), none⟩])) (.skip))))))
 (.reg [⟨(some 32), .mv (.tmp 14), none⟩,
  ⟨(some 33), .bin .add (.tmp 32) (.const (.int .i64 1)), none⟩,
  ⟨(some 14), .mv (.tmp 33), none⟩]))))))
 (.seq (.reg [⟨(some 60), .mv (.tmp 12), none⟩,
  ⟨(some 61), .mv (.tmp 13), none⟩,
  ⟨(some 8), .mv (.tmp 60), none⟩,
  ⟨(some 9), .mv (.tmp 61), none⟩,
  ⟨(some 10), .mv (.const (.bool true)), none⟩])
 (.ret)))))
def r_spec_BestUpTo : List ARes := [.tmp 8, .tmp 9, .tmp 10]
theorem ok_spec_BestUpTo : FnOk Try.prog 48 62 c_spec_BestUpTo r_spec_BestUpTo := ⟨⟨Try.f48, _, Try.func48, by kernel_rfl, rfl, rfl, by kernel_rfl, by kernel_rfl⟩⟩
def c_impl_BestUpTo : ACode := .seq (.reg [⟨(some 8), .mv (.const (.int .i64 0)), none⟩,
  ⟨(some 9), .mv (.const (.int .i64 0)), none⟩,
  ⟨(some 10), .mv (.const (.bool false)), none⟩])
 (.seq (.reg [⟨(some 18), .mv (.tmp 0), none⟩,
  ⟨(some 19), .mv (.tmp 1), none⟩,
  ⟨(some 20), .call (.func 47) [(.tmp 18), (.tmp 19)], none⟩,
  ⟨(some 17), .mv (.tmp 20), none⟩,
  ⟨(some 21), .ext 0 (.tmp 17), none⟩,
  ⟨(some 22), .ext 1 (.tmp 17), none⟩,
  ⟨(some 11), .mv (.tmp 21), none⟩,
  ⟨(some 12), .mv (.tmp 22), none⟩])
 (.seq (.seq (.reg [⟨(some 23), .mv (.tmp 12), none⟩,
  ⟨(some 24), .un .not (.tmp 23), none⟩,
  ⟨(some 25), .mv (.tmp 24), none⟩,
  ⟨(some 26), .mv (.tmp 2), (some (25, false))⟩,
  ⟨(some 27), .mv (.tmp 3), (some (25, false))⟩,
  ⟨(some 28), .call (.func 91) [(.tmp 26), (.tmp 27)], (some (25, false))⟩,
  ⟨(some 29), .un .not (.tmp 28), (some (25, false))⟩,
  ⟨(some 30), .pick (.tmp 25) (.const (.bool true)) (.tmp 29), none⟩])
 (.cond (.tmp 30) (.seq (.reg [⟨(some 8), .mv (.const (.int .i64 0)), none⟩,
  ⟨(some 9), .mv (.const (.int .i64 0)), none⟩,
  ⟨(some 10), .mv (.const (.bool false)), none⟩])
 (.ret)) (.skip)))
 (.seq (.reg [⟨(some 31), .bsl 3 1 0 [] [], none⟩,
  ⟨(some 13), .mv (.tmp 31), none⟩])
 (.seq (.seq (.reg [⟨(some 32), .mv (.const (.int .i64 0)), none⟩])
 (.block 0 (.loop (.seq (.reg [⟨(some 33), .bin .lss (.tmp 32) (.const (.int .i64 201)), none⟩])
 (.seq (.cond (.tmp 33) (.skip) (.exit 0))
 (.seq (.block 1 (.seq (.reg [⟨(some 34), .mv (.tmp 32), none⟩,
  ⟨(some 14), .alc 3 [(.int .i64 0)], none⟩,
  ⟨none, .st 1 (.tmp 14) (.tmp 34), none⟩])
 (.seq (.reg [⟨(some 35), .mv (.tmp 11), none⟩,
  ⟨(some 36), .mkf 98 [] [(.tmp 14)], none⟩,
  ⟨(some 37), .call (.func 97) [(.tmp 35), (.tmp 36)], none⟩,
  ⟨(some 15), .mv (.tmp 37), none⟩])
 (.reg [⟨(some 38), .mv (.tmp 13), none⟩,
  ⟨(some 39), .mv (.tmp 15), none⟩,
  ⟨(some 40), .mv (.tmp 2), none⟩,
  ⟨(some 41), .mv (.tmp 3), none⟩,
  ⟨(some 42), .call (.func 92) [(.tmp 39), (.tmp 40), (.tmp 41)], none⟩,
  ⟨(some 43), .bsl 3 1 1 [(.int .i64 0)] [(0, 1, (.tmp 42))], none⟩,
  ⟨(some 44), .app 3 1 8 (.tmp 38) (.tmp 43), none⟩,
  ⟨(some 13), .mv (.tmp 44), none⟩]))))
 (.reg [⟨(some 45), .bin .add (.tmp 32) (.const (.int .i64 1)), none⟩,
  ⟨(some 32), .mv (.tmp 45), none⟩])))))))
 (.seq (.reg [⟨(some 46), .mv (.tmp 13), none⟩,
  ⟨(some 47), .call (.func 99) [(.tmp 46)], none⟩,
  ⟨(some 16), .mv (.tmp 47), none⟩])
 (.seq (.reg [⟨(some 48), .mv (.tmp 13), none⟩,
  ⟨(some 49), .mv (.tmp 16), none⟩,
  ⟨(some 50), .call (.func 100) [(.tmp 48), (.tmp 49)], none⟩,
  ⟨(some 51), .mv (.tmp 16), none⟩,
  ⟨(some 8), .mv (.tmp 50), none⟩,
  ⟨(some 9), .mv (.tmp 51), none⟩,
  ⟨(some 10), .mv (.const (.bool true)), none⟩])
 (.ret)))))))
def r_impl_BestUpTo : List ARes := [.tmp 8, .tmp 9, .tmp 10]
theorem ok_impl_BestUpTo : FnOk Try.prog 49 52 c_impl_BestUpTo r_impl_BestUpTo := ⟨⟨Try.f49, _, Try.func49, by kernel_rfl, rfl, rfl, by kernel_rfl, by kernel_rfl⟩⟩
def c_spec_ArrivalsOf : ACode := .seq (.reg [⟨(some 2), .mv (.const (.slice none 0 0)), none⟩,
  ⟨(some 3), .mv (.const (.bool false)), none⟩])
 (.seq (.seq (.reg [⟨(some 4), .mv (.tmp 0), none⟩,
  ⟨(some 5), .call (.func 101) [(.tmp 4)], none⟩,
  ⟨(some 6), .un .not (.tmp 5), none⟩])
 (.cond (.tmp 6) (.seq (.reg [⟨(some 7), .bsl 3 1 0 [] [], none⟩,
  ⟨(some 2), .mv (.tmp 7), none⟩,
  ⟨(some 3), .mv (.const (.bool false)), none⟩])
 (.ret)) (.skip)))
 (.seq (.reg [⟨(some 8), .mv (.tmp 0), none⟩,
  ⟨(some 9), .call (.func 102) [(.tmp 8)], none⟩,
  ⟨(some 2), .mv (.tmp 9), none⟩,
  ⟨(some 3), .mv (.const (.bool true)), none⟩])
 (.ret)))
def r_spec_ArrivalsOf : List ARes := [.tmp 2, .tmp 3]
theorem ok_spec_ArrivalsOf : FnOk Try.prog 51 10 c_spec_ArrivalsOf r_spec_ArrivalsOf := ⟨⟨Try.f51, _, Try.func51, by kernel_rfl, rfl, rfl, by kernel_rfl, by kernel_rfl⟩⟩
def c_impl_ArrivalsOf : ACode := .seq (.reg [⟨(some 2), .mv (.const (.slice none 0 0)), none⟩,
  ⟨(some 3), .mv (.const (.bool false)), none⟩])
 (.seq (.seq (.reg [⟨(some 4), .mv (.tmp 0), none⟩,
  ⟨(some 5), .call (.func 104) [(.tmp 4)], none⟩,
  ⟨(some 6), .un .not (.tmp 5), none⟩])
 (.cond (.tmp 6) (.seq (.reg [⟨(some 7), .bsl 3 1 0 [] [], none⟩,
  ⟨(some 2), .mv (.tmp 7), none⟩,
  ⟨(some 3), .mv (.const (.bool false)), none⟩])
 (.ret)) (.skip)))
 (.seq (.reg [⟨(some 8), .mv (.tmp 0), none⟩,
  ⟨(some 9), .call (.func 105) [(.tmp 8)], none⟩,
  ⟨(some 2), .mv (.tmp 9), none⟩,
  ⟨(some 3), .mv (.const (.bool true)), none⟩])
 (.ret)))
def r_impl_ArrivalsOf : List ARes := [.tmp 2, .tmp 3]
theorem ok_impl_ArrivalsOf : FnOk Try.prog 53 10 c_impl_ArrivalsOf r_impl_ArrivalsOf := ⟨⟨Try.f53, _, Try.func53, by kernel_rfl, rfl, rfl, by kernel_rfl, by kernel_rfl⟩⟩
def c_spec_CrossingPairs : ACode := .seq (.reg [⟨(some 2), .mv (.const (.slice none 0 0)), none⟩,
  ⟨(some 3), .mv (.const (.bool false)), none⟩])
 (.seq (.reg [⟨(some 9), .bsl 117 2 0 [] [], none⟩,
  ⟨(some 4), .mv (.tmp 9), none⟩])
 (.seq (.seq (.reg [⟨(some 10), .mv (.tmp 0), none⟩,
  ⟨(some 11), .call (.func 101) [(.tmp 10)], none⟩,
  ⟨(some 12), .un .not (.tmp 11), none⟩])
 (.cond (.tmp 12) (.seq (.reg [⟨(some 13), .mv (.tmp 4), none⟩,
  ⟨(some 2), .mv (.tmp 13), none⟩,
  ⟨(some 3), .mv (.const (.bool false)), none⟩])
 (.ret)) (.skip)))
 (.seq (.seq (.reg [⟨(some 5), .mv (.const (.int .i64 0)), none⟩])
 (.block 0 (.loop (.seq (.seq (.reg [⟨(some 14), .mv (.tmp 5), none⟩,
  ⟨(some 15), .mv (.tmp 0), none⟩,
  ⟨(some 16), .len (.tmp 15), none⟩,
  ⟨(some 17), .bin .lss (.tmp 14) (.tmp 16), none⟩])
 (.cond (.tmp 17) (.skip) (.exit 0)))
 (.seq (.block 1 (.seq (.reg [⟨(some 20), .mv (.tmp 5), none⟩,
  ⟨(some 21), .bin .add (.tmp 20) (.const (.int .i64 1)), none⟩,
  ⟨(some 6), .mv (.tmp 21), none⟩])
 (.block 2 (.loop (.seq (.seq (.reg [⟨(some 22), .mv (.tmp 6), none⟩,
  ⟨(some 23), .mv (.tmp 0), none⟩,
  ⟨(some 24), .len (.tmp 23), none⟩,
  ⟨(some 25), .bin .lss (.tmp 22) (.tmp 24), none⟩])
 (.cond (.tmp 25) (.skip) (.exit 2)))
 (.seq (.block 3 (.seq (.seq (.reg [⟨(some 28), .mv (.tmp 0), none⟩]) (.seq (.reg [⟨(some 29), .mv (.tmp 5), none⟩]) (.seq (.reg [⟨(some 30), .iad 3 (.tmp 28) (.tmp 29), none⟩]) (.seq (.reg [⟨(some 31), .ld (some 3) (.tmp 30), none⟩]) (.seq (.reg [⟨(some 32), .mv (.tmp 0), none⟩]) (.seq (.reg [⟨(some 33), .mv (.tmp 6), none⟩]) (.seq (.reg [⟨(some 34), .iad 3 (.tmp 32) (.tmp 33), none⟩]) (.both (.seq (.reg [⟨(some 35), .ld (some 3) (.tmp 34), none⟩]) (.both (.seq (.reg [⟨(some 7), .alc 113 [(.int .i64 0), (.int .i64 0), (.int .i64 0)], none⟩]) (.seq (.reg [⟨(some 8), .alc 113 [(.int .i64 0), (.int .i64 0), (.int .i64 0)], none⟩]) (.seq (.reg [⟨none, .st 3 (.tmp 7) (.tmp 31), none⟩]) (.seq (.reg [⟨none, .st 3 (.tmp 8) (.tmp 35), none⟩]) (.skip))))) (.seq (.reg [⟨(some 8), .alc 113 [(.int .i64 0), (.int .i64 0), (.int .i64 0)], none⟩]) (.seq (.reg [⟨(some 7), .alc 113 [(.int .i64 0), (.int .i64 0), (.int .i64 0)], none⟩]) (.seq (.reg [⟨none, .st 3 (.tmp 7) (.tmp 31), none⟩]) (.seq (.reg [⟨none, .st 3 (.tmp 8) (.tmp 35), none⟩]) (.skip))))))) (.both (.seq (.reg [⟨(some 7), .alc 113 [(.int .i64 0), (.int .i64 0), (.int .i64 0)], none⟩]) (.both (.seq (.reg [⟨(some 35), .ld (some 3) (.tmp 34), none⟩]) (.seq (.reg [⟨(some 8), .alc 113 [(.int .i64 0), (.int .i64 0), (.int .i64 0)], none⟩]) (.seq (.reg [⟨none, .st 3 (.tmp 7) (.tmp 31), none⟩]) (.seq (.reg [⟨none, .st 3 (.tmp 8) (.tmp 35), none⟩]) (.skip))))) (.seq (.reg [⟨(some 8), .alc 113 [(.int .i64 0), (.int .i64 0), (.int .i64 0)], none⟩]) (.both (.seq (.reg [⟨(some 35), .ld (some 3) (.tmp 34), none⟩]) (.seq (.reg [⟨none, .st 3 (.tmp 7) (.tmp 31), none⟩]) (.seq (.reg [⟨none, .st 3 (.tmp 8) (.tmp 35), none⟩]) (.skip)))) (.seq (.reg [⟨none, .st 3 (.tmp 7) (.tmp 31), none⟩]) (.seq (.reg [⟨(some 35), .ld (some 3) (.tmp 34), none⟩]) (.seq (.reg [⟨none, .st 3 (.tmp 8) (.tmp 35), none⟩]) (.skip)))))))) (.seq (.reg [⟨(some 8), .alc 113 [(.int .i64 0), (.int .i64 0), (.int .i64 0)], none⟩]) (.both (.seq (.reg [⟨(some 35), .ld (some 3) (.tmp 34), none⟩]) (.seq (.reg [⟨(some 7), .alc 113 [(.int .i64 0), (.int .i64 0), (.int .i64 0)], none⟩]) (.seq (.reg [⟨none, .st 3 (.tmp 7) (.tmp 31), none⟩]) (.seq (.reg [⟨none, .st 3 (.tmp 8) (.tmp 35), none⟩]) (.skip))))) (.seq (.reg [⟨(some 7), .alc 113 [(.int .i64 0), (.int .i64 0), (.int .i64 0)], none⟩]) (.both (.seq (.reg [⟨(some 35), .ld (some 3) (.tmp 34), none⟩]) (.seq (.reg [⟨none, .st 3 (.tmp 7) (.tmp 31), none⟩]) (.seq (.reg [⟨none, .st 3 (.tmp 8) (.tmp 35), none⟩]) (.skip)))) (.seq (.reg [⟨none, .st 3 (.tmp 7) (.tmp 31), none⟩]) (.seq (.reg [⟨(some 35), .ld (some 3) (.tmp 34), none⟩]) (.seq (.reg [⟨none, .st 3 (.tmp 8) (.tmp 35), none⟩]) (.skip)))))))))))))))))
 (.seq (.reg [⟨(some 36), .fad 0 (.tmp 7), none⟩,
  ⟨(some 37), .ld none (.tmp 36), none⟩,
  ⟨(some 38), .fad 0 (.tmp 8), none⟩,
  ⟨(some 39), .ld none (.tmp 38), none⟩,
  ⟨(some 40), .bin .lss (.tmp 37) (.tmp 39), none⟩,
  ⟨(some 41), .mv (.tmp 40), none⟩,
  ⟨(some 42), .fad 0 (.tmp 7), (some (41, true))⟩,
  ⟨(some 43), .ld none (.tmp 42), (some (41, true))⟩,
  ⟨(some 44), .fad 2 (.tmp 7), (some (41, true))⟩,
  ⟨(some 45), .ld none (.tmp 44), (some (41, true))⟩,
  ⟨(some 46), .bin .add (.tmp 43) (.tmp 45), (some (41, true))⟩,
  ⟨(some 47), .fad 0 (.tmp 8), (some (41, true))⟩,
  ⟨(some 48), .ld none (.tmp 47), (some (41, true))⟩,
  ⟨(some 49), .fad 2 (.tmp 8), (some (41, true))⟩,
  ⟨(some 50), .ld none (.tmp 49), (some (41, true))⟩,
  ⟨(some 51), .bin .add (.tmp 48) (.tmp 50), (some (41, true))⟩,
  ⟨(some 52), .bin .gtr (.tmp 46) (.tmp 51), (some (41, true))⟩,
  ⟨(some 53), .pick (.tmp 41) (.tmp 52) (.const (.bool false)), none⟩])
 (.cond (.tmp 53) (.reg [⟨(some 54), .mv (.tmp 4), none⟩,
  ⟨(some 55), .mv (.tmp 5), none⟩,
  ⟨(some 56), .mv (.tmp 6), none⟩,
  ⟨(some 57), .bld [(.int .i64 0), (.int .i64 0)] [(0, 1, (.tmp 55)), (1, 1, (.tmp 56))], none⟩,
  ⟨(some 58), .bsl 117 2 1 [(.int .i64 0), (.int .i64 0)] [(0, 2, (.tmp 57))], none⟩,
  ⟨(some 59), .app 117 2 16 (.tmp 54) (.tmp 58), none⟩,
  ⟨(some 4), .mv (.tmp 59), none⟩]) (.skip)))))
 (.reg [⟨(some 26), .mv (.tmp 6), none⟩,
  ⟨(some 27), .bin .add (.tmp 26) (.const (.int .i64 1)), none⟩,
  ⟨(some 6), .mv (.tmp 27), none⟩])))))))
 (.reg [⟨(some 18), .mv (.tmp 5), none⟩,
  ⟨(some 19), .bin .add (.tmp 18) (.const (.int .i64 1)), none⟩,
  ⟨(some 5), .mv (.tmp 19), none⟩]))))))
 (.seq (.reg [⟨(some 60), .mv (.tmp 4), none⟩,
  ⟨(some 2), .mv (.tmp 60), none⟩,
  ⟨(some 3), .mv (.const (.bool true)), none⟩])
 (.ret)))))
def r_spec_CrossingPairs : List ARes := [.tmp 2, .tmp 3]
theorem ok_spec_CrossingPairs : FnOk Try.prog 56 61 c_spec_CrossingPairs r_spec_CrossingPairs := ⟨⟨Try.f56, _, Try.func56, by kernel_rfl, rfl, rfl, by kernel_rfl, by kernel_rfl⟩⟩
def c_impl_CrossingPairs : ACode := .seq (.reg [⟨(some 2), .mv (.const (.slice none 0 0)), none⟩,
  ⟨(some 3), .mv (.const (.bool false)), none⟩])
 (.seq (.seq (.reg [⟨(some 9), .mv (.tmp 0), none⟩,
  ⟨(some 10), .call (.func 104) [(.tmp 9)], none⟩,
  ⟨(some 11), .un .not (.tmp 10), none⟩])
 (.cond (.tmp 11) (.seq (.reg [⟨(some 12), .bsl 117 2 0 [] [], none⟩,
  ⟨(some 2), .mv (.tmp 12), none⟩,
  ⟨(some 3), .mv (.const (.bool false)), none⟩])
 (.ret)) (.skip)))
 (.seq (.reg [⟨(some 13), .bsl 117 2 0 [] [], none⟩,
  ⟨(some 4), .mv (.tmp 13), none⟩])
 (.seq (.seq (.reg [⟨(some 14), .mv (.tmp 0), none⟩,
  ⟨(some 15), .len (.tmp 14), none⟩,
  ⟨(some 16), .mv (.const (.int .i64 0)), none⟩])
 (.block 0 (.loop (.seq (.reg [⟨(some 17), .bin .lss (.tmp 16) (.tmp 15), none⟩])
 (.seq (.cond (.tmp 17) (.skip) (.exit 0))
 (.seq (.block 1 (.seq (.reg [⟨(some 18), .mv (.tmp 16), none⟩,
  ⟨(some 19), .iad 3 (.tmp 14) (.tmp 16), none⟩,
  ⟨(some 20), .ld (some 3) (.tmp 19), none⟩,
  ⟨(some 6), .alc 113 [(.int .i64 0), (.int .i64 0), (.int .i64 0)], none⟩,
  ⟨(some 5), .mv (.tmp 18), none⟩,
  ⟨none, .st 3 (.tmp 6) (.tmp 20), none⟩])
 (.seq (.reg [⟨(some 21), .mv (.tmp 0), none⟩,
  ⟨(some 22), .len (.tmp 21), none⟩,
  ⟨(some 23), .mv (.const (.int .i64 0)), none⟩])
 (.block 2 (.loop (.seq (.reg [⟨(some 24), .bin .lss (.tmp 23) (.tmp 22), none⟩])
 (.seq (.cond (.tmp 24) (.skip) (.exit 2))
 (.seq (.block 3 (.seq (.reg [⟨(some 25), .mv (.tmp 23), none⟩,
  ⟨(some 26), .iad 3 (.tmp 21) (.tmp 23), none⟩,
  ⟨(some 27), .ld (some 3) (.tmp 26), none⟩,
  ⟨(some 8), .alc 113 [(.int .i64 0), (.int .i64 0), (.int .i64 0)], none⟩,
  ⟨(some 7), .mv (.tmp 25), none⟩,
  ⟨none, .st 3 (.tmp 8) (.tmp 27), none⟩])
 (.seq (.reg [⟨(some 28), .ld (some 3) (.tmp 6), none⟩,
  ⟨(some 29), .ld (some 3) (.tmp 8), none⟩,
  ⟨(some 30), .call (.func 107) [(.tmp 28), (.tmp 29)], none⟩])
 (.cond (.tmp 30) (.reg [⟨(some 31), .mv (.tmp 4), none⟩,
  ⟨(some 32), .mv (.tmp 5), none⟩,
  ⟨(some 33), .mv (.tmp 7), none⟩,
  ⟨(some 34), .bld [(.int .i64 0), (.int .i64 0)] [(0, 1, (.tmp 32)), (1, 1, (.tmp 33))], none⟩,
  ⟨(some 35), .bsl 117 2 1 [(.int .i64 0), (.int .i64 0)] [(0, 2, (.tmp 34))], none⟩,
  ⟨(some 36), .app 117 2 16 (.tmp 31) (.tmp 35), none⟩,
  ⟨(some 4), .mv (.tmp 36), none⟩]) (.skip)))))
 (.reg [⟨(some 37), .bin .add (.tmp 23) (.const (.int .i64 1)), none⟩,
  ⟨(some 23), .mv (.tmp 37), none⟩])))))))))
 (.reg [⟨(some 38), .bin .add (.tmp 16) (.const (.int .i64 1)), none⟩,
  ⟨(some 16), .mv (.tmp 38), none⟩])))))))
 (.seq (.reg [⟨(some 39), .mv (.tmp 4), none⟩,
  ⟨(some 2), .mv (.tmp 39), none⟩,
  ⟨(some 3), .mv (.const (.bool true)), none⟩])
 (.ret)))))
def r_impl_CrossingPairs : List ARes := [.tmp 2, .tmp 3]
theorem ok_impl_CrossingPairs : FnOk Try.prog 57 40 c_impl_CrossingPairs r_impl_CrossingPairs := ⟨⟨Try.f57, _, Try.func57, by kernel_rfl, rfl, rfl, by kernel_rfl, by kernel_rfl⟩⟩
def c_spec_StraightLeads : ACode := .seq (.reg [⟨(some 2), .mv (.const (.slice none 0 0)), none⟩,
  ⟨(some 3), .mv (.const (.bool false)), none⟩])
 (.seq (.reg [⟨(some 10), .bsl 113 3 0 [] [], none⟩,
  ⟨(some 11), .bsl 3 1 0 [] [], none⟩,
  ⟨(some 4), .mv (.tmp 10), none⟩,
  ⟨(some 5), .mv (.tmp 11), none⟩])
 (.seq (.seq (.reg [⟨(some 12), .mv (.tmp 0), none⟩,
  ⟨(some 13), .call (.func 101) [(.tmp 12)], none⟩,
  ⟨(some 14), .un .not (.tmp 13), none⟩])
 (.cond (.tmp 14) (.seq (.reg [⟨(some 15), .mv (.tmp 4), none⟩,
  ⟨(some 2), .mv (.tmp 15), none⟩,
  ⟨(some 3), .mv (.const (.bool false)), none⟩])
 (.ret)) (.skip)))
 (.seq (.seq (.reg [⟨(some 6), .mv (.const (.int .i64 0)), none⟩])
 (.block 0 (.loop (.seq (.seq (.reg [⟨(some 16), .mv (.tmp 6), none⟩,
  ⟨(some 17), .mv (.tmp 0), none⟩,
  ⟨(some 18), .len (.tmp 17), none⟩,
  ⟨(some 19), .bin .lss (.tmp 16) (.tmp 18), none⟩])
 (.cond (.tmp 19) (.skip) (.exit 0)))
 (.seq (.block 1 (.seq (.seq (.reg [⟨(some 22), .mv (.tmp 0), none⟩,
  ⟨(some 23), .mv (.tmp 6), none⟩,
  ⟨(some 24), .iad 3 (.tmp 22) (.tmp 23), none⟩,
  ⟨(some 25), .fad 1 (.tmp 24), none⟩,
  ⟨(some 26), .ld none (.tmp 25), none⟩,
  ⟨(some 27), .mv (.tmp 0), none⟩,
  ⟨(some 28), .iad 3 (.tmp 27) (.const (.int .i64 0)), none⟩,
  ⟨(some 29), .fad 1 (.tmp 28), none⟩,
  ⟨(some 30), .ld none (.tmp 29), none⟩,
  ⟨(some 31), .bin .neq (.tmp 26) (.tmp 30), none⟩])
 (.cond (.tmp 31) (.seq (.reg [⟨(some 32), .bsl 113 3 0 [] [], none⟩,
  ⟨(some 2), .mv (.tmp 32), none⟩,
  ⟨(some 3), .mv (.const (.bool false)), none⟩])
 (.ret)) (.skip)))
 (.seq (.reg [⟨(some 33), .mv (.tmp 0), none⟩,
  ⟨(some 34), .mv (.tmp 6), none⟩,
  ⟨(some 35), .iad 3 (.tmp 33) (.tmp 34), none⟩,
  ⟨(some 36), .fad 0 (.tmp 35), none⟩,
  ⟨(some 37), .ld none (.tmp 36), none⟩,
  ⟨(some 38), .mv (.tmp 0), none⟩,
  ⟨(some 39), .mv (.tmp 6), none⟩,
  ⟨(some 40), .iad 3 (.tmp 38) (.tmp 39), none⟩,
  ⟨(some 41), .fad 2 (.tmp 40), none⟩,
  ⟨(some 42), .ld none (.tmp 41), none⟩,
  ⟨(some 43), .bin .add (.tmp 37) (.tmp 42), none⟩,
  ⟨(some 7), .mv (.tmp 43), none⟩,
  ⟨(some 8), .mv (.const (.int .i64 0)), none⟩])
 (.seq (.block 2 (.loop (.seq (.seq (.reg [⟨(some 44), .mv (.tmp 8), none⟩,
  ⟨(some 45), .mv (.tmp 5), none⟩,
  ⟨(some 46), .len (.tmp 45), none⟩,
  ⟨(some 47), .bin .lss (.tmp 44) (.tmp 46), none⟩,
  ⟨(some 48), .mv (.tmp 47), none⟩,
  ⟨(some 49), .mv (.tmp 5), (some (48, true))⟩,
  ⟨(some 50), .mv (.tmp 8), (some (48, true))⟩,
  ⟨(some 51), .iad 1 (.tmp 49) (.tmp 50), (some (48, true))⟩,
  ⟨(some 52), .ld none (.tmp 51), (some (48, true))⟩,
  ⟨(some 53), .mv (.tmp 7), (some (48, true))⟩,
  ⟨(some 54), .bin .leq (.tmp 52) (.tmp 53), (some (48, true))⟩,
  ⟨(some 55), .pick (.tmp 48) (.tmp 54) (.const (.bool false)), none⟩])
 (.cond (.tmp 55) (.skip) (.exit 2)))
 (.block 3 (.reg [⟨(some 56), .mv (.tmp 8), none⟩,
  ⟨(some 57), .bin .add (.tmp 56) (.const (.int .i64 1)), none⟩,
  ⟨(some 8), .mv (.tmp 57), none⟩])))))
 (.seq (.reg [⟨(some 59), .mv (.tmp 5), none⟩]) (.seq (.reg [⟨(some 60), .mv (.tmp 8), none⟩]) (.seq (.reg [⟨(some 61), .slc 1 (.tmp 59) none (some (.tmp 60)), none⟩]) (.seq (.reg [⟨(some 63), .mv (.tmp 7), none⟩]) (.seq (.reg [⟨(some 66), .mv (.tmp 5), none⟩]) (.seq (.reg [⟨(some 67), .mv (.tmp 8), none⟩]) (.seq (.reg [⟨(some 68), .slc 1 (.tmp 66) (some (.tmp 67)) none, none⟩]) (.both (.seq (.reg [⟨(some 58), .bsl 3 1 0 [] [], none⟩]) (.both (.seq (.reg [⟨(some 62), .app 3 1 8 (.tmp 58) (.tmp 61), none⟩]) (.seq (.reg [⟨(some 64), .bsl 3 1 1 [(.int .i64 0)] [(0, 1, (.tmp 63))], none⟩]) (.seq (.reg [⟨(some 65), .app 3 1 8 (.tmp 62) (.tmp 64), none⟩]) (.seq (.reg [⟨(some 69), .app 3 1 8 (.tmp 65) (.tmp 68), none⟩]) (.seq (.reg [⟨(some 5), .mv (.tmp 69), none⟩]) (.skip)))))) (.seq (.reg [⟨(some 64), .bsl 3 1 1 [(.int .i64 0)] [(0, 1, (.tmp 63))], none⟩]) (.seq (.reg [⟨(some 62), .app 3 1 8 (.tmp 58) (.tmp 61), none⟩]) (.seq (.reg [⟨(some 65), .app 3 1 8 (.tmp 62) (.tmp 64), none⟩]) (.seq (.reg [⟨(some 69), .app 3 1 8 (.tmp 65) (.tmp 68), none⟩]) (.seq (.reg [⟨(some 5), .mv (.tmp 69), none⟩]) (.skip)))))))) (.seq (.reg [⟨(some 64), .bsl 3 1 1 [(.int .i64 0)] [(0, 1, (.tmp 63))], none⟩]) (.seq (.reg [⟨(some 58), .bsl 3 1 0 [] [], none⟩]) (.seq (.reg [⟨(some 62), .app 3 1 8 (.tmp 58) (.tmp 61), none⟩]) (.seq (.reg [⟨(some 65), .app 3 1 8 (.tmp 62) (.tmp 64), none⟩]) (.seq (.reg [⟨(some 69), .app 3 1 8 (.tmp 65) (.tmp 68), none⟩]) (.seq (.reg [⟨(some 5), .mv (.tmp 69), none⟩]) (.skip)))))))))))))))))))
 (.reg [⟨(some 20), .mv (.tmp 6), none⟩,
  ⟨(some 21), .bin .add (.tmp 20) (.const (.int .i64 1)), none⟩,
  ⟨(some 6), .mv (.tmp 21), none⟩]))))))
 (.seq (.seq (.reg [⟨(some 9), .mv (.const (.int .i64 0)), none⟩])
 (.block 4 (.loop (.seq (.seq (.reg [⟨(some 70), .mv (.tmp 9), none⟩,
  ⟨(some 71), .mv (.tmp 0), none⟩,
  ⟨(some 72), .len (.tmp 71), none⟩,
  ⟨(some 73), .bin .lss (.tmp 70) (.tmp 72), none⟩])
 (.cond (.tmp 73) (.skip) (.exit 4)))
 (.seq (.block 5 (.reg [⟨(some 76), .mv (.tmp 4), none⟩,
  ⟨(some 77), .mv (.tmp 0), none⟩,
  ⟨(some 78), .mv (.tmp 9), none⟩,
  ⟨(some 79), .iad 3 (.tmp 77) (.tmp 78), none⟩,
  ⟨(some 80), .fad 0 (.tmp 79), none⟩,
  ⟨(some 81), .ld none (.tmp 80), none⟩,
  ⟨(some 82), .mv (.tmp 0), none⟩,
  ⟨(some 83), .mv (.tmp 9), none⟩,
  ⟨(some 84), .iad 3 (.tmp 82) (.tmp 83), none⟩,
  ⟨(some 85), .fad 1 (.tmp 84), none⟩,
  ⟨(some 86), .ld none (.tmp 85), none⟩,
  ⟨(some 87), .mv (.tmp 5), none⟩,
  ⟨(some 88), .mv (.tmp 9), none⟩,
  ⟨(some 89), .iad 1 (.tmp 87) (.tmp 88), none⟩,
  ⟨(some 90), .ld none (.tmp 89), none⟩,
  ⟨(some 91), .mv (.tmp 0), none⟩,
  ⟨(some 92), .mv (.tmp 9), none⟩,
  ⟨(some 93), .iad 3 (.tmp 91) (.tmp 92), none⟩,
  ⟨(some 94), .fad 0 (.tmp 93), none⟩,
  ⟨(some 95), .ld none (.tmp 94), none⟩,
  ⟨(some 96), .bin .sub (.tmp 90) (.tmp 95), none⟩,
  ⟨(some 97), .bld [(.int .i64 0), (.int .i64 0), (.int .i64 0)] [(0, 1, (.tmp 81)), (1, 1, (.tmp 86)), (2, 1, (.tmp 96))], none⟩,
  ⟨(some 98), .bsl 113 3 1 [(.int .i64 0), (.int .i64 0), (.int .i64 0)] [(0, 3, (.tmp 97))], none⟩,
  ⟨(some 99), .app 113 3 24 (.tmp 76) (.tmp 98), none⟩,
  ⟨(some 4), .mv (.tmp 99), none⟩]))
 (.reg [⟨(some 74), .mv (.tmp 9), none⟩,
  ⟨(some 75), .bin .add (.tmp 74) (.const (.int .i64 1)), none⟩,
  ⟨(some 9), .mv (.tmp 75), none⟩]))))))
 (.seq (.reg [⟨(some 100), .mv (.tmp 4), none⟩,
  ⟨(some 2), .mv (.tmp 100), none⟩,
  ⟨(some 3), .mv (.const (.bool true)), none⟩])
 (.ret))))))
def r_spec_StraightLeads : List ARes := [.tmp 2, .tmp 3]
theorem ok_spec_StraightLeads : FnOk Try.prog 61 101 c_spec_StraightLeads r_spec_StraightLeads := ⟨⟨Try.f61, _, Try.func61, by kernel_rfl, rfl, rfl, by kernel_rfl, by kernel_rfl⟩⟩
def c_impl_StraightLeads : ACode := .seq (.reg [⟨(some 1), .box 66 (.tmp 0), none⟩,
  ⟨(some 2), .mv (.const (.slice none 0 0)), none⟩,
  ⟨(some 3), .mv (.const (.bool false)), none⟩])
 (.seq (.reg [⟨(some 9), .mkf 109 [] [(.tmp 1)], none⟩,
  ⟨(some 4), .mv (.tmp 9), none⟩])
 (.seq (.seq (.reg [⟨(some 10), .ld none (.tmp 1), none⟩,
  ⟨(some 11), .call (.func 104) [(.tmp 10)], none⟩,
  ⟨(some 12), .un .not (.tmp 11), none⟩,
  ⟨(some 13), .mv (.tmp 12), none⟩,
  ⟨(some 14), .ld none (.tmp 1), (some (13, false))⟩,
  ⟨(some 15), .mv (.tmp 4), (some (13, false))⟩,
  ⟨(some 16), .call (.func 110) [(.tmp 14), (.tmp 15)], (some (13, false))⟩,
  ⟨(some 17), .pick (.tmp 13) (.const (.bool true)) (.tmp 16), none⟩])
 (.cond (.tmp 17) (.seq (.reg [⟨(some 18), .bsl 113 3 0 [] [], none⟩,
  ⟨(some 2), .mv (.tmp 18), none⟩,
  ⟨(some 3), .mv (.const (.bool false)), none⟩])
 (.ret)) (.skip)))
 (.seq (.reg [⟨(some 19), .ld none (.tmp 1), none⟩,
  ⟨(some 20), .call (.func 111) [(.tmp 19), (.func 112)], none⟩,
  ⟨(some 5), .mv (.tmp 20), none⟩])
 (.seq (.reg [⟨(some 21), .mv (.tmp 5), none⟩,
  ⟨(some 22), .call (.func 113) [(.tmp 21)], none⟩])
 (.seq (.reg [⟨(some 23), .bsl 113 3 0 [] [], none⟩,
  ⟨(some 6), .mv (.tmp 23), none⟩])
 (.seq (.seq (.reg [⟨(some 24), .ld none (.tmp 1), none⟩,
  ⟨(some 25), .len (.tmp 24), none⟩,
  ⟨(some 26), .mv (.const (.int .i64 0)), none⟩])
 (.block 0 (.loop (.seq (.reg [⟨(some 27), .bin .lss (.tmp 26) (.tmp 25), none⟩])
 (.seq (.cond (.tmp 27) (.skip) (.exit 0))
 (.seq (.block 1 (.seq (.reg [⟨(some 28), .mv (.tmp 26), none⟩,
  ⟨(some 29), .iad 3 (.tmp 24) (.tmp 26), none⟩,
  ⟨(some 30), .ld (some 3) (.tmp 29), none⟩,
  ⟨(some 8), .alc 113 [(.int .i64 0), (.int .i64 0), (.int .i64 0)], none⟩,
  ⟨(some 7), .mv (.tmp 28), none⟩,
  ⟨none, .st 3 (.tmp 8) (.tmp 30), none⟩])
 (.seq (.reg [⟨(some 31), .mv (.tmp 5), none⟩,
  ⟨(some 32), .mv (.tmp 7), none⟩,
  ⟨(some 33), .iad 1 (.tmp 31) (.tmp 32), none⟩,
  ⟨(some 34), .ld none (.tmp 33), none⟩,
  ⟨(some 35), .fad 0 (.tmp 8), none⟩,
  ⟨(some 36), .ld none (.tmp 35), none⟩,
  ⟨(some 37), .bin .sub (.tmp 34) (.tmp 36), none⟩,
  ⟨(some 38), .fad 2 (.tmp 8), none⟩,
  ⟨none, .st 1 (.tmp 38) (.tmp 37), none⟩])
 (.reg [⟨(some 39), .mv (.tmp 6), none⟩,
  ⟨(some 40), .ld (some 3) (.tmp 8), none⟩,
  ⟨(some 41), .bsl 113 3 1 [(.int .i64 0), (.int .i64 0), (.int .i64 0)] [(0, 3, (.tmp 40))], none⟩,
  ⟨(some 42), .app 113 3 24 (.tmp 39) (.tmp 41), none⟩,
  ⟨(some 6), .mv (.tmp 42), none⟩]))))
 (.reg [⟨(some 43), .bin .add (.tmp 26) (.const (.int .i64 1)), none⟩,
  ⟨(some 26), .mv (.tmp 43), none⟩])))))))
 (.seq (.reg [⟨(some 44), .mv (.tmp 6), none⟩,
  ⟨(some 2), .mv (.tmp 44), none⟩,
  ⟨(some 3), .mv (.const (.bool true)), none⟩])
 (.ret))))))))
def r_impl_StraightLeads : List ARes := [.tmp 2, .tmp 3]
theorem ok_impl_StraightLeads : FnOk Try.prog 62 45 c_impl_StraightLeads r_impl_StraightLeads := ⟨⟨Try.f62, _, Try.func62, by kernel_rfl, rfl, rfl, by kernel_rfl, by kernel_rfl⟩⟩
def c_spec_ParcelStocks : ACode := .seq (.reg [⟨(some 6), .mv (.const (.slice none 0 0)), none⟩,
  ⟨(some 7), .mv (.const (.bool false)), none⟩])
 (.seq (.reg [⟨(some 12), .bsl 3 1 0 [] [], none⟩,
  ⟨(some 8), .mv (.tmp 12), none⟩])
 (.seq (.seq (.reg [⟨(some 13), .mv (.tmp 0), none⟩,
  ⟨(some 14), .call (.func 73) [(.tmp 13), (.const (.int .i64 (-200))), (.const (.int .i64 200))], none⟩,
  ⟨(some 15), .un .not (.tmp 14), none⟩,
  ⟨(some 16), .mv (.tmp 15), none⟩,
  ⟨(some 17), .mv (.tmp 1), (some (16, false))⟩,
  ⟨(some 18), .call (.func 101) [(.tmp 17)], (some (16, false))⟩,
  ⟨(some 19), .un .not (.tmp 18), (some (16, false))⟩,
  ⟨(some 20), .pick (.tmp 16) (.const (.bool true)) (.tmp 19), none⟩,
  ⟨(some 21), .mv (.tmp 20), none⟩,
  ⟨(some 22), .mv (.tmp 2), (some (21, false))⟩,
  ⟨(some 23), .call (.func 114) [(.tmp 22), (.const (.int .i64 20)), (.const (.int .i64 20))], (some (21, false))⟩,
  ⟨(some 24), .un .not (.tmp 23), (some (21, false))⟩,
  ⟨(some 25), .pick (.tmp 21) (.const (.bool true)) (.tmp 24), none⟩])
 (.cond (.tmp 25) (.seq (.reg [⟨(some 26), .mv (.tmp 8), none⟩,
  ⟨(some 6), .mv (.tmp 26), none⟩,
  ⟨(some 7), .mv (.const (.bool false)), none⟩])
 (.ret)) (.skip)))
 (.seq (.reg [⟨(some 27), .mv (.tmp 1), none⟩,
  ⟨(some 28), .call (.func 102) [(.tmp 27)], none⟩,
  ⟨(some 29), .mv (.tmp 0), none⟩,
  ⟨(some 9), .mv (.tmp 28), none⟩,
  ⟨(some 10), .mv (.tmp 29), none⟩])
 (.seq (.seq (.reg [⟨(some 11), .mv (.const (.int .i64 0)), none⟩])
 (.block 0 (.loop (.seq (.seq (.reg [⟨(some 30), .mv (.tmp 11), none⟩,
  ⟨(some 31), .mv (.tmp 2), none⟩,
  ⟨(some 32), .len (.tmp 31), none⟩,
  ⟨(some 33), .bin .lss (.tmp 30) (.tmp 32), none⟩])
 (.cond (.tmp 33) (.skip) (.exit 0)))
 (.seq (.block 1 (.seq (.reg [⟨(some 36), .mv (.tmp 10), none⟩,
  ⟨(some 37), .mv (.tmp 9), none⟩,
  ⟨(some 38), .mv (.tmp 11), none⟩,
  ⟨(some 39), .iad 1 (.tmp 37) (.tmp 38), none⟩,
  ⟨(some 40), .ld none (.tmp 39), none⟩,
  ⟨(some 41), .bin .add (.tmp 36) (.tmp 40), none⟩,
  ⟨(some 42), .mv (.tmp 2), none⟩,
  ⟨(some 43), .mv (.tmp 11), none⟩,
  ⟨(some 44), .iad 1 (.tmp 42) (.tmp 43), none⟩,
  ⟨(some 45), .ld none (.tmp 44), none⟩,
  ⟨(some 46), .bin .sub (.tmp 41) (.tmp 45), none⟩,
  ⟨(some 10), .mv (.tmp 46), none⟩])
 (.reg [⟨(some 47), .mv (.tmp 8), none⟩,
  ⟨(some 48), .mv (.tmp 10), none⟩,
  ⟨(some 49), .bsl 3 1 1 [(.int .i64 0)] [(0, 1, (.tmp 48))], none⟩,
  ⟨(some 50), .app 3 1 8 (.tmp 47) (.tmp 49), none⟩,
  ⟨(some 8), .mv (.tmp 50), none⟩])))
 (.reg [⟨(some 34), .mv (.tmp 11), none⟩,
  ⟨(some 35), .bin .add (.tmp 34) (.const (.int .i64 1)), none⟩,
  ⟨(some 11), .mv (.tmp 35), none⟩]))))))
 (.seq (.reg [⟨(some 51), .mv (.tmp 8), none⟩,
  ⟨(some 6), .mv (.tmp 51), none⟩,
  ⟨(some 7), .mv (.const (.bool true)), none⟩])
 (.ret))))))
def r_spec_ParcelStocks : List ARes := [.tmp 6, .tmp 7]
theorem ok_spec_ParcelStocks : FnOk Try.prog 64 52 c_spec_ParcelStocks r_spec_ParcelStocks := ⟨⟨Try.f64, _, Try.func64, by kernel_rfl, rfl, rfl, by kernel_rfl, by kernel_rfl⟩⟩
def c_impl_ParcelStocks : ACode := .seq (.reg [⟨(some 5), .box 22 (.tmp 2), none⟩,
  ⟨(some 6), .mv (.const (.slice none 0 0)), none⟩,
  ⟨(some 7), .mv (.const (.bool false)), none⟩])
 (.seq (.seq (.reg [⟨(some 11), .mv (.tmp 0), none⟩,
  ⟨(some 12), .call (.func 68) [(.tmp 11)], none⟩,
  ⟨(some 13), .un .not (.tmp 12), none⟩,
  ⟨(some 14), .mv (.tmp 13), none⟩,
  ⟨(some 15), .mv (.tmp 1), (some (14, false))⟩,
  ⟨(some 16), .call (.func 104) [(.tmp 15)], (some (14, false))⟩,
  ⟨(some 17), .un .not (.tmp 16), (some (14, false))⟩,
  ⟨(some 18), .pick (.tmp 14) (.const (.bool true)) (.tmp 17), none⟩,
  ⟨(some 19), .mv (.tmp 18), none⟩,
  ⟨(some 20), .ld none (.tmp 5), (some (19, false))⟩,
  ⟨(some 21), .call (.func 95) [(.tmp 20)], (some (19, false))⟩,
  ⟨(some 22), .un .not (.tmp 21), (some (19, false))⟩,
  ⟨(some 23), .pick (.tmp 19) (.const (.bool true)) (.tmp 22), none⟩])
 (.cond (.tmp 23) (.seq (.reg [⟨(some 24), .bsl 3 1 0 [] [], none⟩,
  ⟨(some 6), .mv (.tmp 24), none⟩,
  ⟨(some 7), .mv (.const (.bool false)), none⟩])
 (.ret)) (.skip)))
 (.seq (.reg [⟨(some 25), .mv (.tmp 1), none⟩,
  ⟨(some 26), .call (.func 105) [(.tmp 25)], none⟩,
  ⟨(some 8), .alc 22 [(.slice none 0 0)], none⟩,
  ⟨none, .st 1 (.tmp 8) (.tmp 26), none⟩])
 (.seq (.reg [⟨(some 28), .mv (.tmp 0), none⟩,
  ⟨(some 29), .ld none (.tmp 5), none⟩,
  ⟨(some 30), .len (.tmp 29), none⟩,
  ⟨(some 31), .mkf 116 [] [(.tmp 8), (.tmp 5)], none⟩,
  ⟨(some 32), .call (.func 115) [(.tmp 28), (.tmp 30), (.tmp 31)], none⟩,
  ⟨(some 27), .mv (.tmp 32), none⟩,
  ⟨(some 33), .ext 0 (.tmp 27), none⟩,
  ⟨(some 34), .ext 1 (.tmp 27), none⟩,
  ⟨(some 9), .mv (.tmp 33), none⟩,
  ⟨(some 10), .mv (.tmp 34), none⟩])
 (.seq (.reg [⟨(some 35), .mv (.tmp 9), none⟩,
  ⟨(some 36), .slc 1 (.tmp 35) (some (.const (.int .i64 1))) none, none⟩,
  ⟨(some 6), .mv (.tmp 36), none⟩,
  ⟨(some 7), .mv (.const (.bool true)), none⟩])
 (.ret)))))
def r_impl_ParcelStocks : List ARes := [.tmp 6, .tmp 7]
theorem ok_impl_ParcelStocks : FnOk Try.prog 65 37 c_impl_ParcelStocks r_impl_ParcelStocks := ⟨⟨Try.f65, _, Try.func65, by kernel_rfl, rfl, rfl, by kernel_rfl, by kernel_rfl⟩⟩
def c_spec_l11Flow : ACode := .seq (.reg [⟨(some 1), .box 27 (.tmp 0), none⟩,
  ⟨(some 2), .mv (.const (.bool false)), none⟩])
 (.seq (.reg [⟨(some 3), .fad 0 (.tmp 1), none⟩,
  ⟨(some 4), .ld none (.tmp 3), none⟩,
  ⟨(some 5), .call (.func 73) [(.tmp 4), (.const (.int .i64 (-200))), (.const (.int .i64 200))], none⟩,
  ⟨(some 6), .mv (.tmp 5), none⟩,
  ⟨(some 7), .fad 1 (.tmp 1), (some (6, true))⟩,
  ⟨(some 8), .ld none (.tmp 7), (some (6, true))⟩,
  ⟨(some 9), .call (.func 114) [(.tmp 8), (.const (.int .i64 4)), (.const (.int .i64 40))], (some (6, true))⟩,
  ⟨(some 10), .pick (.tmp 6) (.tmp 9) (.const (.bool false)), none⟩,
  ⟨(some 2), .mv (.tmp 10), none⟩])
 (.ret))
def r_spec_l11Flow : List ARes := [.tmp 2]
theorem ok_spec_l11Flow : FnOk Try.prog 67 11 c_spec_l11Flow r_spec_l11Flow := ⟨⟨Try.f67, _, Try.func67, by kernel_rfl, rfl, rfl, by kernel_rfl, by kernel_rfl⟩⟩
def c_impl_isStock : ACode := .seq (.reg [⟨(some 2), .mv (.const (.bool false)), none⟩])
 (.seq (.reg [⟨(some 3), .mv (.tmp 0), none⟩,
  ⟨(some 4), .call (.func 117) [(.tmp 3), (.const (.int .i64 200))], none⟩,
  ⟨(some 2), .mv (.tmp 4), none⟩])
 (.ret))
def r_impl_isStock : List ARes := [.tmp 2]
theorem ok_impl_isStock : FnOk Try.prog 68 5 c_impl_isStock r_impl_isStock := ⟨⟨Try.f68, _, Try.func68, by kernel_rfl, rfl, rfl, by kernel_rfl, by kernel_rfl⟩⟩
def c_impl_areAtMost : ACode := .seq (.reg [⟨(some 5), .box 80 (.tmp 2), none⟩,
  ⟨(some 6), .mv (.const (.bool false)), none⟩])
 (.seq (.reg [⟨(some 8), .mkf 118 [] [(.tmp 5)], none⟩,
  ⟨(some 7), .mv (.tmp 8), none⟩])
 (.seq (.reg [⟨(some 9), .mv (.tmp 1), none⟩,
  ⟨(some 10), .len (.tmp 9), none⟩,
  ⟨(some 11), .mv (.tmp 0), none⟩,
  ⟨(some 12), .bin .leq (.tmp 10) (.tmp 11), none⟩,
  ⟨(some 13), .mv (.tmp 12), none⟩,
  ⟨(some 14), .mv (.tmp 1), (some (13, true))⟩,
  ⟨(some 15), .mv (.tmp 7), (some (13, true))⟩,
  ⟨(some 16), .call (.func 119) [(.tmp 14), (.tmp 15)], (some (13, true))⟩,
  ⟨(some 17), .un .not (.tmp 16), (some (13, true))⟩,
  ⟨(some 18), .pick (.tmp 13) (.tmp 17) (.const (.bool false)), none⟩,
  ⟨(some 6), .mv (.tmp 18), none⟩])
 (.ret)))
def r_impl_areAtMost : List ARes := [.tmp 6]
theorem ok_impl_areAtMost : FnOk Try.prog 69 19 c_impl_areAtMost r_impl_areAtMost := ⟨⟨Try.f69, _, Try.func69, by kernel_rfl, rfl, rfl, by kernel_rfl, by kernel_rfl⟩⟩
def c_impl_isFlowOrder : ACode := .seq (.reg [⟨(some 2), .mv (.const (.bool false)), none⟩])
 (.seq (.reg [⟨(some 3), .mv (.tmp 0), none⟩,
  ⟨(some 4), .call (.func 96) [(.tmp 3), (.const (.int .i64 40))], none⟩,
  ⟨(some 2), .mv (.tmp 4), none⟩])
 (.ret))
def r_impl_isFlowOrder : List ARes := [.tmp 2]
theorem ok_impl_isFlowOrder : FnOk Try.prog 70 5 c_impl_isFlowOrder r_impl_isFlowOrder := ⟨⟨Try.f70, _, Try.func70, by kernel_rfl, rfl, rfl, by kernel_rfl, by kernel_rfl⟩⟩
def c_spec_l11Position : ACode := .seq (.reg [⟨(some 1), .box 27 (.tmp 0), none⟩,
  ⟨(some 2), .mv (.const (.int .i64 0)), none⟩])
 (.seq (.reg [⟨(some 3), .fad 0 (.tmp 1), none⟩,
  ⟨(some 4), .ld none (.tmp 3), none⟩,
  ⟨(some 5), .fad 1 (.tmp 1), none⟩,
  ⟨(some 6), .ld none (.tmp 5), none⟩,
  ⟨(some 7), .rcall (.func 88) [(.tmp 6)], none⟩,
  ⟨(some 8), .bin .add (.tmp 4) (.tmp 7), none⟩,
  ⟨(some 2), .mv (.tmp 8), none⟩])
 (.ret))
def r_spec_l11Position : List ARes := [.tmp 2]
theorem ok_spec_l11Position : FnOk Try.prog 71 9 c_spec_l11Position r_spec_l11Position := ⟨⟨Try.f71, _, Try.func71, by kernel_rfl, rfl, rfl, by kernel_rfl, by kernel_rfl⟩⟩
def c_impl_sumOf : ACode := .seq (.reg [⟨(some 2), .mv (.const (.int .i64 0)), none⟩])
 (.seq (.reg [⟨(some 3), .mv (.const (.int .i64 0)), none⟩])
 (.seq (.seq (.reg [⟨(some 6), .mv (.tmp 0), none⟩,
  ⟨(some 7), .len (.tmp 6), none⟩,
  ⟨(some 8), .mv (.const (.int .i64 0)), none⟩])
 (.block 0 (.loop (.seq (.reg [⟨(some 9), .bin .lss (.tmp 8) (.tmp 7), none⟩])
 (.seq (.cond (.tmp 9) (.skip) (.exit 0))
 (.seq (.block 1 (.seq (.reg [⟨(some 10), .iad 1 (.tmp 6) (.tmp 8), none⟩,
  ⟨(some 11), .ld none (.tmp 10), none⟩,
  ⟨(some 5), .mv (.tmp 11), none⟩])
 (.reg [⟨(some 12), .mv (.tmp 3), none⟩,
  ⟨(some 13), .mv (.tmp 5), none⟩,
  ⟨(some 14), .bin .add (.tmp 12) (.tmp 13), none⟩,
  ⟨(some 3), .mv (.tmp 14), none⟩])))
 (.reg [⟨(some 15), .bin .add (.tmp 8) (.const (.int .i64 1)), none⟩,
  ⟨(some 8), .mv (.tmp 15), none⟩])))))))
 (.seq (.reg [⟨(some 16), .mv (.tmp 3), none⟩,
  ⟨(some 2), .mv (.tmp 16), none⟩])
 (.ret))))
def r_impl_sumOf : List ARes := [.tmp 2]
theorem ok_impl_sumOf : FnOk Try.prog 72 17 c_impl_sumOf r_impl_sumOf := ⟨⟨Try.f72, _, Try.func72, by kernel_rfl, rfl, rfl, by kernel_rfl, by kernel_rfl⟩⟩
def c_spec_l1In : ACode := .seq (.reg [⟨(some 6), .mv (.const (.bool false)), none⟩])
 (.seq (.reg [⟨(some 7), .mv (.tmp 0), none⟩,
  ⟨(some 8), .mv (.tmp 1), none⟩,
  ⟨(some 9), .bin .geq (.tmp 7) (.tmp 8), none⟩,
  ⟨(some 10), .mv (.tmp 9), none⟩,
  ⟨(some 11), .mv (.tmp 0), (some (10, true))⟩,
  ⟨(some 12), .mv (.tmp 2), (some (10, true))⟩,
  ⟨(some 13), .bin .leq (.tmp 11) (.tmp 12), (some (10, true))⟩,
  ⟨(some 14), .pick (.tmp 10) (.tmp 13) (.const (.bool false)), none⟩,
  ⟨(some 6), .mv (.tmp 14), none⟩])
 (.ret))
def r_spec_l1In : List ARes := [.tmp 6]
theorem ok_spec_l1In : FnOk Try.prog 73 15 c_spec_l1In r_spec_l1In := ⟨⟨Try.f73, _, Try.func73, by kernel_rfl, rfl, rfl, by kernel_rfl, by kernel_rfl⟩⟩
def c_spec_l11Day : ACode := .seq (.reg [⟨(some 3), .box 27 (.tmp 0), none⟩,
  ⟨(some 6), .alc 27 [(.int .i64 0), (.slice none 0 0)], none⟩,
  ⟨(some 7), .mv (.const (.int .i64 0)), none⟩])
 (.seq (.reg [⟨(some 10), .fad 1 (.tmp 3), none⟩,
  ⟨(some 11), .ld none (.tmp 10), none⟩,
  ⟨(some 12), .call (.func 80) [(.tmp 11)], none⟩,
  ⟨(some 13), .mv (.tmp 1), none⟩,
  ⟨(some 14), .bsl 3 1 1 [(.int .i64 0)] [(0, 1, (.tmp 13))], none⟩,
  ⟨(some 15), .app 3 1 8 (.tmp 12) (.tmp 14), none⟩,
  ⟨(some 8), .mv (.tmp 15), none⟩])
 (.seq (.reg [⟨(some 16), .fad 0 (.tmp 3), none⟩,
  ⟨(some 17), .ld none (.tmp 16), none⟩,
  ⟨(some 18), .mv (.tmp 8), none⟩,
  ⟨(some 19), .iad 1 (.tmp 18) (.const (.int .i64 0)), none⟩,
  ⟨(some 20), .ld none (.tmp 19), none⟩,
  ⟨(some 21), .bin .add (.tmp 17) (.tmp 20), none⟩,
  ⟨(some 9), .mv (.tmp 21), none⟩])
 (.seq (.reg [⟨(some 22), .mv (.tmp 9), none⟩,
  ⟨(some 23), .mv (.tmp 2), none⟩,
  ⟨(some 24), .bin .sub (.tmp 22) (.tmp 23), none⟩,
  ⟨(some 25), .mv (.tmp 8), none⟩,
  ⟨(some 26), .slc 1 (.tmp 25) (some (.const (.int .i64 1))) none, none⟩,
  ⟨(some 27), .call (.func 80) [(.tmp 26)], none⟩,
  ⟨(some 28), .bld [(.int .i64 0), (.slice none 0 0)] [(0, 1, (.tmp 24)), (1, 1, (.tmp 27))], none⟩,
  ⟨(some 29), .mv (.tmp 9), none⟩,
  ⟨none, .st 2 (.tmp 6) (.tmp 28), none⟩,
  ⟨(some 7), .mv (.tmp 29), none⟩])
 (.ret))))
def r_spec_l11Day : List ARes := [.cell 6 (some 2), .tmp 7]
theorem ok_spec_l11Day : FnOk Try.prog 74 30 c_spec_l11Day r_spec_l11Day := ⟨⟨Try.f74, _, Try.func74, by kernel_rfl, rfl, rfl, by kernel_rfl, by kernel_rfl⟩⟩
def c_impl_isAsked : ACode := .seq (.reg [⟨(some 2), .mv (.const (.bool false)), none⟩])
 (.seq (.reg [⟨(some 3), .mv (.tmp 0), none⟩,
  ⟨(some 4), .call (.func 96) [(.tmp 3), (.const (.int .i64 20))], none⟩,
  ⟨(some 2), .mv (.tmp 4), none⟩])
 (.ret))
def r_impl_isAsked : List ARes := [.tmp 2]
theorem ok_impl_isAsked : FnOk Try.prog 75 5 c_impl_isAsked r_impl_isAsked := ⟨⟨Try.f75, _, Try.func75, by kernel_rfl, rfl, rfl, by kernel_rfl, by kernel_rfl⟩⟩
def c_slices_Concat : ACode := .seq (.reg [⟨(some 2), .mv (.const (.slice none 0 0)), none⟩])
 (.seq (.reg [⟨(some 3), .mv (.const (.int .i64 0)), none⟩])
 (.seq (.seq (.reg [⟨(some 9), .mv (.tmp 0), none⟩,
  ⟨(some 10), .len (.tmp 9), none⟩,
  ⟨(some 11), .mv (.const (.int .i64 0)), none⟩])
 (.block 0 (.loop (.seq (.reg [⟨(some 12), .bin .lss (.tmp 11) (.tmp 10), none⟩])
 (.seq (.cond (.tmp 12) (.skip) (.exit 0))
 (.seq (.block 1 (.seq (.reg [⟨(some 13), .iad 1 (.tmp 9) (.tmp 11), none⟩,
  ⟨(some 14), .ld none (.tmp 13), none⟩,
  ⟨(some 5), .mv (.tmp 14), none⟩])
 (.seq (.reg [⟨(some 15), .mv (.tmp 3), none⟩,
  ⟨(some 16), .mv (.tmp 5), none⟩,
  ⟨(some 17), .len (.tmp 16), none⟩,
  ⟨(some 18), .bin .add (.tmp 15) (.tmp 17), none⟩,
  ⟨(some 3), .mv (.tmp 18), none⟩])
 (.seq (.reg [⟨(some 19), .mv (.tmp 3), none⟩,
  ⟨(some 20), .bin .lss (.tmp 19) (.const (.int .i64 0)), none⟩])
 (.cond (.tmp 20) (.reg [⟨(some 21), .mif 9 (.const (.string ⟨#[108, 101, 110, 32, 111, 117, 116, 32, 111, 102, 32, 114, 97, 110, 103, 101]⟩)), none⟩,
  ⟨none, .never, none⟩]) (.skip))))))
 (.reg [⟨(some 22), .bin .add (.tmp 11) (.const (.int .i64 1)), none⟩,
  ⟨(some 11), .mv (.tmp 22), none⟩])))))))
 (.seq (.reg [⟨(some 23), .mv (.tmp 3), none⟩,
  ⟨(some 24), .call (.func 120) [(.const (.slice none 0 0)), (.tmp 23)], none⟩,
  ⟨(some 6), .mv (.tmp 24), none⟩])
 (.seq (.seq (.reg [⟨(some 25), .mv (.tmp 0), none⟩,
  ⟨(some 26), .len (.tmp 25), none⟩,
  ⟨(some 27), .mv (.const (.int .i64 0)), none⟩])
 (.block 2 (.loop (.seq (.reg [⟨(some 28), .bin .lss (.tmp 27) (.tmp 26), none⟩])
 (.seq (.cond (.tmp 28) (.skip) (.exit 2))
 (.seq (.block 3 (.seq (.reg [⟨(some 29), .iad 1 (.tmp 25) (.tmp 27), none⟩,
  ⟨(some 30), .ld none (.tmp 29), none⟩,
  ⟨(some 8), .mv (.tmp 30), none⟩])
 (.reg [⟨(some 31), .mv (.tmp 6), none⟩,
  ⟨(some 32), .mv (.tmp 8), none⟩,
  ⟨(some 33), .app 3 1 8 (.tmp 31) (.tmp 32), none⟩,
  ⟨(some 6), .mv (.tmp 33), none⟩])))
 (.reg [⟨(some 34), .bin .add (.tmp 27) (.const (.int .i64 1)), none⟩,
  ⟨(some 27), .mv (.tmp 34), none⟩])))))))
 (.seq (.reg [⟨(some 35), .mv (.tmp 6), none⟩,
  ⟨(some 2), .mv (.tmp 35), none⟩])
 (.ret))))))
def r_slices_Concat : List ARes := [.tmp 2]
theorem ok_slices_Concat : FnOk Try.prog 76 36 c_slices_Concat r_slices_Concat := ⟨⟨Try.f76, _, Try.func76, by kernel_rfl, rfl, rfl, by kernel_rfl, by kernel_rfl⟩⟩
def c_spec_l11Rule : ACode := .seq (.reg [⟨(some 1), .box 40 (.tmp 0), none⟩,
  ⟨(some 2), .mv (.const (.bool false)), none⟩])
 (.seq (.seq (.reg [⟨(some 3), .fad 1 (.tmp 1), none⟩,
  ⟨(some 4), .ld none (.tmp 3), none⟩,
  ⟨(some 5), .call (.func 73) [(.tmp 4), (.const (.int .i64 (-200))), (.const (.int .i64 200))], none⟩,
  ⟨(some 6), .un .not (.tmp 5), none⟩,
  ⟨(some 7), .mv (.tmp 6), none⟩,
  ⟨(some 8), .fad 2 (.tmp 1), (some (7, false))⟩,
  ⟨(some 9), .ld none (.tmp 8), (some (7, false))⟩,
  ⟨(some 10), .call (.func 73) [(.tmp 9), (.const (.int .i64 (-200))), (.const (.int .i64 200))], (some (7, false))⟩,
  ⟨(some 11), .un .not (.tmp 10), (some (7, false))⟩,
  ⟨(some 12), .pick (.tmp 7) (.const (.bool true)) (.tmp 11), none⟩])
 (.cond (.tmp 12) (.seq (.reg [⟨(some 2), .mv (.const (.bool false)), none⟩])
 (.ret)) (.skip)))
 (.seq (.seq (.reg [⟨(some 13), .fad 0 (.tmp 1), none⟩,
  ⟨(some 14), .ld none (.tmp 13), none⟩])
 (.block 0 (.seq (.reg [⟨(some 16), .bin .eql (.tmp 14) (.const (.int .i64 1)), none⟩,
  ⟨(some 15), .mv (.tmp 16), none⟩])
 (.cond (.tmp 15) (.seq (.reg [⟨(some 2), .mv (.const (.bool true)), none⟩])
 (.ret)) (.seq (.reg [⟨(some 18), .bin .eql (.tmp 14) (.const (.int .i64 2)), none⟩,
  ⟨(some 17), .mv (.tmp 18), none⟩])
 (.cond (.tmp 17) (.seq (.reg [⟨(some 19), .fad 1 (.tmp 1), none⟩,
  ⟨(some 20), .ld none (.tmp 19), none⟩,
  ⟨(some 21), .fad 2 (.tmp 1), none⟩,
  ⟨(some 22), .ld none (.tmp 21), none⟩,
  ⟨(some 23), .bin .leq (.tmp 20) (.tmp 22), none⟩,
  ⟨(some 2), .mv (.tmp 23), none⟩])
 (.ret)) (.seq (.reg [⟨(some 25), .bin .eql (.tmp 14) (.const (.int .i64 3)), none⟩,
  ⟨(some 24), .mv (.tmp 25), none⟩])
 (.cond (.tmp 24) (.seq (.reg [⟨(some 26), .fad 2 (.tmp 1), none⟩,
  ⟨(some 27), .ld none (.tmp 26), none⟩,
  ⟨(some 28), .call (.func 73) [(.tmp 27), (.const (.int .i64 1)), (.const (.int .i64 40))], none⟩,
  ⟨(some 2), .mv (.tmp 28), none⟩])
 (.ret)) (.skip)))))))))
 (.seq (.reg [⟨(some 2), .mv (.const (.bool false)), none⟩])
 (.ret))))
def r_spec_l11Rule : List ARes := [.tmp 2]
theorem ok_spec_l11Rule : FnOk Try.prog 77 29 c_spec_l11Rule r_spec_l11Rule := ⟨⟨Try.f77, _, Try.func77, by kernel_rfl, rfl, rfl, by kernel_rfl, by kernel_rfl⟩⟩
def c_impl_orderBy : ACode := .seq (.reg [⟨(some 1), .box 40 (.tmp 0), none⟩,
  ⟨(some 2), .mv (.const .nilFunc), none⟩,
  ⟨(some 3), .mv (.const (.bool false)), none⟩])
 (.seq (.seq (.reg [⟨(some 4), .fad 1 (.tmp 1), none⟩,
  ⟨(some 5), .ld none (.tmp 4), none⟩,
  ⟨(some 6), .call (.func 68) [(.tmp 5)], none⟩,
  ⟨(some 7), .un .not (.tmp 6), none⟩,
  ⟨(some 8), .mv (.tmp 7), none⟩,
  ⟨(some 9), .fad 2 (.tmp 1), (some (8, false))⟩,
  ⟨(some 10), .ld none (.tmp 9), (some (8, false))⟩,
  ⟨(some 11), .call (.func 68) [(.tmp 10)], (some (8, false))⟩,
  ⟨(some 12), .un .not (.tmp 11), (some (8, false))⟩,
  ⟨(some 13), .pick (.tmp 8) (.const (.bool true)) (.tmp 12), none⟩])
 (.cond (.tmp 13) (.seq (.reg [⟨(some 2), .mv (.const .nilFunc), none⟩,
  ⟨(some 3), .mv (.const (.bool false)), none⟩])
 (.ret)) (.skip)))
 (.seq (.seq (.reg [⟨(some 14), .fad 0 (.tmp 1), none⟩,
  ⟨(some 15), .ld none (.tmp 14), none⟩])
 (.block 0 (.seq (.reg [⟨(some 17), .bin .eql (.tmp 15) (.const (.int .i64 1)), none⟩,
  ⟨(some 16), .mv (.tmp 17), none⟩])
 (.cond (.tmp 16) (.seq (.reg [⟨(some 18), .fad 2 (.tmp 1), none⟩,
  ⟨(some 19), .ld none (.tmp 18), none⟩,
  ⟨(some 20), .fad 2 (.tmp 1), none⟩,
  ⟨(some 21), .ld none (.tmp 20), none⟩,
  ⟨(some 22), .call (.func 121) [(.tmp 19), (.tmp 21)], none⟩,
  ⟨(some 2), .mv (.tmp 22), none⟩,
  ⟨(some 3), .mv (.const (.bool true)), none⟩])
 (.ret)) (.seq (.reg [⟨(some 24), .bin .eql (.tmp 15) (.const (.int .i64 2)), none⟩,
  ⟨(some 23), .mv (.tmp 24), none⟩])
 (.cond (.tmp 23) (.seq (.reg [⟨(some 25), .fad 1 (.tmp 1), none⟩,
  ⟨(some 26), .ld none (.tmp 25), none⟩,
  ⟨(some 27), .fad 2 (.tmp 1), none⟩,
  ⟨(some 28), .ld none (.tmp 27), none⟩,
  ⟨(some 30), .fad 1 (.tmp 1), none⟩,
  ⟨(some 31), .ld none (.tmp 30), none⟩,
  ⟨(some 32), .fad 2 (.tmp 1), none⟩,
  ⟨(some 33), .ld none (.tmp 32), none⟩,
  ⟨(some 34), .bin .leq (.tmp 31) (.tmp 33), none⟩,
  ⟨(some 29), .rcall (.func 121) [(.tmp 26), (.tmp 28)], none⟩,
  ⟨(some 2), .mv (.tmp 29), none⟩,
  ⟨(some 3), .mv (.tmp 34), none⟩])
 (.ret)) (.seq (.reg [⟨(some 36), .bin .eql (.tmp 15) (.const (.int .i64 3)), none⟩,
  ⟨(some 35), .mv (.tmp 36), none⟩])
 (.cond (.tmp 35) (.seq (.reg [⟨(some 37), .fad 1 (.tmp 1), none⟩,
  ⟨(some 38), .ld none (.tmp 37), none⟩,
  ⟨(some 39), .fad 2 (.tmp 1), none⟩,
  ⟨(some 40), .ld none (.tmp 39), none⟩,
  ⟨(some 42), .fad 2 (.tmp 1), none⟩,
  ⟨(some 43), .ld none (.tmp 42), none⟩,
  ⟨(some 41), .rcall (.func 122) [(.tmp 38), (.tmp 40)], none⟩,
  ⟨(some 44), .rcall (.func 123) [(.tmp 43), (.const (.int .i64 40))], none⟩,
  ⟨(some 2), .mv (.tmp 41), none⟩,
  ⟨(some 3), .mv (.tmp 44), none⟩])
 (.ret)) (.skip)))))))))
 (.seq (.reg [⟨(some 2), .mv (.const .nilFunc), none⟩,
  ⟨(some 3), .mv (.const (.bool false)), none⟩])
 (.ret))))
def r_impl_orderBy : List ARes := [.tmp 2, .tmp 3]
theorem ok_impl_orderBy : FnOk Try.prog 78 45 c_impl_orderBy r_impl_orderBy := ⟨⟨Try.f78, _, Try.func78, by kernel_rfl, rfl, rfl, by kernel_rfl, by kernel_rfl⟩⟩
def c_spec_l11Order : ACode := .seq (.reg [⟨(some 2), .box 40 (.tmp 0), none⟩,
  ⟨(some 4), .mv (.const (.int .i64 0)), none⟩])
 (.seq (.seq (.reg [⟨(some 6), .fad 0 (.tmp 2), none⟩,
  ⟨(some 7), .ld none (.tmp 6), none⟩])
 (.block 0 (.seq (.reg [⟨(some 9), .bin .eql (.tmp 7) (.const (.int .i64 1)), none⟩,
  ⟨(some 8), .mv (.tmp 9), none⟩])
 (.cond (.tmp 8) (.seq (.reg [⟨(some 10), .fad 2 (.tmp 2), none⟩,
  ⟨(some 11), .ld none (.tmp 10), none⟩,
  ⟨(some 12), .mv (.tmp 1), none⟩,
  ⟨(some 13), .bin .sub (.tmp 11) (.tmp 12), none⟩,
  ⟨(some 14), .call (.func 124) [(.tmp 13), (.const (.int .i64 0))], none⟩,
  ⟨(some 4), .mv (.tmp 14), none⟩])
 (.ret)) (.seq (.reg [⟨(some 16), .bin .eql (.tmp 7) (.const (.int .i64 2)), none⟩,
  ⟨(some 15), .mv (.tmp 16), none⟩])
 (.cond (.tmp 15) (.seq (.seq (.reg [⟨(some 17), .mv (.tmp 1), none⟩,
  ⟨(some 18), .fad 1 (.tmp 2), none⟩,
  ⟨(some 19), .ld none (.tmp 18), none⟩,
  ⟨(some 20), .bin .lss (.tmp 17) (.tmp 19), none⟩])
 (.cond (.tmp 20) (.seq (.reg [⟨(some 21), .fad 2 (.tmp 2), none⟩,
  ⟨(some 22), .ld none (.tmp 21), none⟩,
  ⟨(some 23), .mv (.tmp 1), none⟩,
  ⟨(some 24), .bin .sub (.tmp 22) (.tmp 23), none⟩,
  ⟨(some 4), .mv (.tmp 24), none⟩])
 (.ret)) (.skip)))
 (.seq (.reg [⟨(some 4), .mv (.const (.int .i64 0)), none⟩])
 (.ret))) (.skip)))))))
 (.seq (.reg [⟨(some 5), .mv (.const (.int .i64 0)), none⟩])
 (.seq (.block 1 (.loop (.seq (.seq (.reg [⟨(some 25), .mv (.tmp 1), none⟩,
  ⟨(some 26), .mv (.tmp 5), none⟩,
  ⟨(some 27), .bin .add (.tmp 25) (.tmp 26), none⟩,
  ⟨(some 28), .fad 1 (.tmp 2), none⟩,
  ⟨(some 29), .ld none (.tmp 28), none⟩,
  ⟨(some 30), .bin .lss (.tmp 27) (.tmp 29), none⟩])
 (.cond (.tmp 30) (.skip) (.exit 1)))
 (.block 2 (.reg [⟨(some 31), .mv (.tmp 5), none⟩,
  ⟨(some 32), .fad 2 (.tmp 2), none⟩,
  ⟨(some 33), .ld none (.tmp 32), none⟩,
  ⟨(some 34), .bin .add (.tmp 31) (.tmp 33), none⟩,
  ⟨(some 5), .mv (.tmp 34), none⟩])))))
 (.seq (.reg [⟨(some 35), .mv (.tmp 5), none⟩,
  ⟨(some 4), .mv (.tmp 35), none⟩])
 (.ret)))))
def r_spec_l11Order : List ARes := [.tmp 4]
theorem ok_spec_l11Order : FnOk Try.prog 79 36 c_spec_l11Order r_spec_l11Order := ⟨⟨Try.f79, _, Try.func79, by kernel_rfl, rfl, rfl, by kernel_rfl, by kernel_rfl⟩⟩
def c_spec_l1Own : ACode := .seq (.reg [⟨(some 2), .mv (.const (.slice none 0 0)), none⟩])
 (.seq (.reg [⟨(some 3), .bsl 3 1 0 [] [], none⟩,
  ⟨(some 4), .mv (.tmp 0), none⟩,
  ⟨(some 5), .app 3 1 8 (.tmp 3) (.tmp 4), none⟩,
  ⟨(some 2), .mv (.tmp 5), none⟩])
 (.ret))
def r_spec_l1Own : List ARes := [.tmp 2]
theorem ok_spec_l1Own : FnOk Try.prog 80 6 c_spec_l1Own r_spec_l1Own := ⟨⟨Try.f80, _, Try.func80, by kernel_rfl, rfl, rfl, by kernel_rfl, by kernel_rfl⟩⟩
def c_impl_daysOf : ACode := .seq (.reg [⟨(some 3), .box 27 (.tmp 0), none⟩,
  ⟨(some 4), .box 22 (.tmp 1), none⟩,
  ⟨(some 5), .box 95 (.tmp 2), none⟩,
  ⟨(some 6), .mv (.const (.slice none 0 0)), none⟩,
  ⟨(some 7), .mv (.const (.bool false)), none⟩])
 (.seq (.seq (.reg [⟨(some 9), .ld (some 2) (.tmp 3), none⟩,
  ⟨(some 10), .call (.func 21) [(.tmp 9)], none⟩,
  ⟨(some 11), .un .not (.tmp 10), none⟩,
  ⟨(some 12), .mv (.tmp 11), none⟩,
  ⟨(some 13), .ld none (.tmp 4), (some (12, false))⟩,
  ⟨(some 14), .call (.func 95) [(.tmp 13)], (some (12, false))⟩,
  ⟨(some 15), .un .not (.tmp 14), (some (12, false))⟩,
  ⟨(some 16), .pick (.tmp 12) (.const (.bool true)) (.tmp 15), none⟩])
 (.cond (.tmp 16) (.seq (.reg [⟨(some 17), .bsl 98 3 0 [] [], none⟩,
  ⟨(some 6), .mv (.tmp 17), none⟩,
  ⟨(some 7), .mv (.const (.bool false)), none⟩])
 (.ret)) (.skip)))
 (.seq (.seq (.reg [⟨(some 18), .fad 0 (.tmp 3), none⟩]) (.seq (.reg [⟨(some 19), .ld none (.tmp 18), none⟩]) (.seq (.reg [⟨(some 20), .fad 1 (.tmp 3), none⟩]) (.seq (.reg [⟨(some 21), .ld none (.tmp 20), none⟩]) (.both (.seq (.reg [⟨(some 22), .rcall (.func 125) [(.tmp 21)], none⟩]) (.seq (.reg [⟨(some 23), .bld [(.int .i64 0), (.slice none 0 0)] [(0, 1, (.tmp 19)), (1, 1, (.tmp 22))], none⟩]) (.seq (.reg [⟨(some 24), .bld [(.int .i64 0), (.int .i64 0), (.slice none 0 0)] [(1, 2, (.tmp 23))], none⟩]) (.seq (.reg [⟨(some 8), .alc 98 [(.int .i64 0), (.int .i64 0), (.slice none 0 0)], none⟩]) (.seq (.reg [⟨none, .st 3 (.tmp 8) (.tmp 24), none⟩]) (.skip)))))) (.seq (.reg [⟨(some 8), .alc 98 [(.int .i64 0), (.int .i64 0), (.slice none 0 0)], none⟩]) (.seq (.reg [⟨(some 22), .rcall (.func 125) [(.tmp 21)], none⟩]) (.seq (.reg [⟨(some 23), .bld [(.int .i64 0), (.slice none 0 0)] [(0, 1, (.tmp 19)), (1, 1, (.tmp 22))], none⟩]) (.seq (.reg [⟨(some 24), .bld [(.int .i64 0), (.int .i64 0), (.slice none 0 0)] [(1, 2, (.tmp 23))], none⟩]) (.seq (.reg [⟨none, .st 3 (.tmp 8) (.tmp 24), none⟩]) (.skip)))))))))))
 (.seq (.reg [⟨(some 25), .ld (some 3) (.tmp 8), none⟩,
  ⟨(some 26), .ld none (.tmp 4), none⟩,
  ⟨(some 27), .len (.tmp 26), none⟩,
  ⟨(some 28), .mkf 127 [] [(.tmp 5), (.tmp 4)], none⟩,
  ⟨(some 29), .call (.func 126) [(.tmp 25), (.tmp 27), (.tmp 28)], none⟩,
  ⟨(some 30), .ext 0 (.tmp 29), none⟩,
  ⟨(some 31), .ext 1 (.tmp 29), none⟩,
  ⟨(some 6), .mv (.tmp 30), none⟩,
  ⟨(some 7), .mv (.tmp 31), none⟩])
 (.ret))))
def r_impl_daysOf : List ARes := [.tmp 6, .tmp 7]
theorem ok_impl_daysOf : FnOk Try.prog 81 32 c_impl_daysOf r_impl_daysOf := ⟨⟨Try.f81, _, Try.func81, by kernel_rfl, rfl, rfl, by kernel_rfl, by kernel_rfl⟩⟩
def c_impl_RunOrders_1 : ACode := .seq (.reg [⟨(some 3), .box 27 (.tmp 0), none⟩,
  ⟨(some 5), .mv (.const (.int .i64 0)), none⟩,
  ⟨(some 6), .mv (.const (.bool false)), none⟩])
 (.seq (.reg [⟨(some 7), .ld none (.tmp 2), none⟩,
  ⟨(some 8), .mv (.tmp 1), none⟩,
  ⟨(some 9), .iad 1 (.tmp 7) (.tmp 8), none⟩,
  ⟨(some 10), .ld none (.tmp 9), none⟩,
  ⟨(some 5), .mv (.tmp 10), none⟩,
  ⟨(some 6), .mv (.const (.bool true)), none⟩])
 (.ret))
def r_impl_RunOrders_1 : List ARes := [.tmp 5, .tmp 6]
theorem ok_impl_RunOrders_1 : FnOk Try.prog 82 11 c_impl_RunOrders_1 r_impl_RunOrders_1 := ⟨⟨Try.f82, _, Try.func82, by kernel_rfl, rfl, rfl, by kernel_rfl, by kernel_rfl⟩⟩
def c_impl_each_flowDay : ACode := .seq (.reg [⟨(some 4), .mv (.const (.slice none 0 0)), none⟩])
 (.seq (.reg [⟨(some 8), .bsl 3 1 0 [] [], none⟩,
  ⟨(some 5), .mv (.tmp 8), none⟩])
 (.seq (.seq (.reg [⟨(some 9), .mv (.tmp 0), none⟩,
  ⟨(some 10), .len (.tmp 9), none⟩,
  ⟨(some 11), .mv (.const (.int .i64 0)), none⟩])
 (.block 0 (.loop (.seq (.reg [⟨(some 12), .bin .lss (.tmp 11) (.tmp 10), none⟩])
 (.seq (.cond (.tmp 12) (.skip) (.exit 0))
 (.seq (.block 1 (.seq (.reg [⟨(some 13), .iad 3 (.tmp 9) (.tmp 11), none⟩,
  ⟨(some 14), .ld (some 3) (.tmp 13), none⟩,
  ⟨(some 7), .alc 98 [(.int .i64 0), (.int .i64 0), (.slice none 0 0)], none⟩,
  ⟨none, .st 3 (.tmp 7) (.tmp 14), none⟩])
 (.reg [⟨(some 15), .mv (.tmp 5), none⟩,
  ⟨(some 16), .mv (.tmp 1), none⟩,
  ⟨(some 17), .ld (some 3) (.tmp 7), none⟩,
  ⟨(some 18), .call (.tmp 16) [(.tmp 17)], none⟩,
  ⟨(some 19), .bsl 3 1 1 [(.int .i64 0)] [(0, 1, (.tmp 18))], none⟩,
  ⟨(some 20), .app 3 1 8 (.tmp 15) (.tmp 19), none⟩,
  ⟨(some 5), .mv (.tmp 20), none⟩])))
 (.reg [⟨(some 21), .bin .add (.tmp 11) (.const (.int .i64 1)), none⟩,
  ⟨(some 11), .mv (.tmp 21), none⟩])))))))
 (.seq (.reg [⟨(some 22), .mv (.tmp 5), none⟩,
  ⟨(some 4), .mv (.tmp 22), none⟩])
 (.ret))))
def r_impl_each_flowDay : List ARes := [.tmp 4]
theorem ok_impl_each_flowDay : FnOk Try.prog 83 23 c_impl_each_flowDay r_impl_each_flowDay := ⟨⟨Try.f83, _, Try.func83, by kernel_rfl, rfl, rfl, by kernel_rfl, by kernel_rfl⟩⟩
def c_impl_stockBehind : ACode := .seq (.reg [⟨(some 1), .box 98 (.tmp 0), none⟩,
  ⟨(some 2), .mv (.const (.int .i64 0)), none⟩])
 (.seq (.reg [⟨(some 3), .fad 1 (.tmp 1), none⟩,
  ⟨(some 4), .fad 0 (.tmp 3), none⟩,
  ⟨(some 5), .ld none (.tmp 4), none⟩,
  ⟨(some 2), .mv (.tmp 5), none⟩])
 (.ret))
def r_impl_stockBehind : List ARes := [.tmp 2]
theorem ok_impl_stockBehind : FnOk Try.prog 84 6 c_impl_stockBehind r_impl_stockBehind := ⟨⟨Try.f84, _, Try.func84, by kernel_rfl, rfl, rfl, by kernel_rfl, by kernel_rfl⟩⟩
def c_spec_l11Run : ACode := .seq (.reg [⟨(some 3), .box 27 (.tmp 0), none⟩,
  ⟨(some 4), .box 40 (.tmp 1), none⟩,
  ⟨(some 6), .alc 101 [(.slice none 0 0), (.slice none 0 0), (.int .i64 0)], none⟩,
  ⟨(some 7), .mv (.const (.bool false)), none⟩])
 (.seq (.reg [⟨(some 15), .bsl 3 1 0 [] [], none⟩,
  ⟨(some 16), .bsl 3 1 0 [] [], none⟩,
  ⟨(some 17), .bld [(.slice none 0 0), (.slice none 0 0), (.int .i64 0)] [(0, 1, (.tmp 15)), (1, 1, (.tmp 16))], none⟩,
  ⟨(some 8), .alc 101 [(.slice none 0 0), (.slice none 0 0), (.int .i64 0)], none⟩,
  ⟨none, .st 3 (.tmp 8) (.tmp 17), none⟩])
 (.seq (.seq (.reg [⟨(some 18), .ld (some 2) (.tmp 3), none⟩,
  ⟨(some 19), .call (.func 67) [(.tmp 18)], none⟩,
  ⟨(some 20), .un .not (.tmp 19), none⟩,
  ⟨(some 21), .mv (.tmp 20), none⟩,
  ⟨(some 22), .ld (some 3) (.tmp 4), (some (21, false))⟩,
  ⟨(some 23), .call (.func 77) [(.tmp 22)], (some (21, false))⟩,
  ⟨(some 24), .un .not (.tmp 23), (some (21, false))⟩,
  ⟨(some 25), .pick (.tmp 21) (.const (.bool true)) (.tmp 24), none⟩,
  ⟨(some 26), .mv (.tmp 25), none⟩,
  ⟨(some 27), .mv (.tmp 2), (some (26, false))⟩,
  ⟨(some 28), .call (.func 114) [(.tmp 27), (.const (.int .i64 20)), (.const (.int .i64 20))], (some (26, false))⟩,
  ⟨(some 29), .un .not (.tmp 28), (some (26, false))⟩,
  ⟨(some 30), .pick (.tmp 26) (.const (.bool true)) (.tmp 29), none⟩])
 (.cond (.tmp 30) (.seq (.reg [⟨(some 31), .ld (some 3) (.tmp 8), none⟩,
  ⟨none, .st 3 (.tmp 6) (.tmp 31), none⟩,
  ⟨(some 7), .mv (.const (.bool false)), none⟩])
 (.ret)) (.skip)))
 (.seq (.reg [⟨(some 32), .ld (some 2) (.tmp 3), none⟩,
  ⟨(some 9), .alc 27 [(.int .i64 0), (.slice none 0 0)], none⟩,
  ⟨none, .st 2 (.tmp 9) (.tmp 32), none⟩])
 (.seq (.seq (.reg [⟨(some 10), .mv (.const (.int .i64 0)), none⟩])
 (.block 0 (.loop (.seq (.seq (.reg [⟨(some 33), .mv (.tmp 10), none⟩,
  ⟨(some 34), .mv (.tmp 2), none⟩,
  ⟨(some 35), .len (.tmp 34), none⟩,
  ⟨(some 36), .bin .lss (.tmp 33) (.tmp 35), none⟩])
 (.cond (.tmp 36) (.skip) (.exit 0)))
 (.seq (.block 1 (.seq (.reg [⟨(some 40), .ld (some 2) (.tmp 9), none⟩,
  ⟨(some 41), .ld (some 3) (.tmp 4), none⟩,
  ⟨(some 42), .call (.func 32) [(.tmp 40), (.tmp 41)], none⟩,
  ⟨(some 39), .mv (.tmp 42), none⟩,
  ⟨(some 43), .ext 0 (.tmp 39), none⟩,
  ⟨(some 44), .ext 1 (.tmp 39), none⟩,
  ⟨(some 11), .mv (.tmp 43), none⟩,
  ⟨(some 12), .mv (.tmp 44), none⟩])
 (.seq (.seq (.reg [⟨(some 45), .mv (.tmp 12), none⟩,
  ⟨(some 46), .un .not (.tmp 45), none⟩])
 (.cond (.tmp 46) (.seq (.reg [⟨(some 47), .bsl 3 1 0 [] [], none⟩,
  ⟨(some 48), .bsl 3 1 0 [] [], none⟩,
  ⟨(some 49), .bld [(.slice none 0 0), (.slice none 0 0), (.int .i64 0)] [(0, 1, (.tmp 47)), (1, 1, (.tmp 48))], none⟩,
  ⟨none, .st 3 (.tmp 6) (.tmp 49), none⟩,
  ⟨(some 7), .mv (.const (.bool false)), none⟩])
 (.ret)) (.skip)))
 (.seq (.seq (.reg [⟨(some 51), .ld (some 2) (.tmp 9), none⟩]) (.seq (.reg [⟨(some 52), .mv (.tmp 11), none⟩]) (.seq (.reg [⟨(some 53), .mv (.tmp 2), none⟩]) (.seq (.reg [⟨(some 54), .mv (.tmp 10), none⟩]) (.seq (.reg [⟨(some 55), .iad 1 (.tmp 53) (.tmp 54), none⟩]) (.seq (.reg [⟨(some 56), .ld none (.tmp 55), none⟩]) (.both (.seq (.reg [⟨(some 57), .rcall (.func 74) [(.tmp 51), (.tmp 52), (.tmp 56)], none⟩]) (.seq (.reg [⟨(some 50), .mv (.tmp 57), none⟩]) (.seq (.reg [⟨(some 58), .ext 0 (.tmp 50), none⟩]) (.seq (.reg [⟨(some 59), .ext 1 (.tmp 50), none⟩]) (.seq (.reg [⟨(some 13), .alc 27 [(.int .i64 0), (.slice none 0 0)], none⟩]) (.seq (.reg [⟨none, .st 2 (.tmp 13) (.tmp 58), none⟩]) (.seq (.reg [⟨(some 14), .mv (.tmp 59), none⟩]) (.skip)))))))) (.seq (.reg [⟨(some 13), .alc 27 [(.int .i64 0), (.slice none 0 0)], none⟩]) (.seq (.reg [⟨(some 57), .rcall (.func 74) [(.tmp 51), (.tmp 52), (.tmp 56)], none⟩]) (.seq (.reg [⟨(some 50), .mv (.tmp 57), none⟩]) (.seq (.reg [⟨(some 58), .ext 0 (.tmp 50), none⟩]) (.seq (.reg [⟨(some 59), .ext 1 (.tmp 50), none⟩]) (.seq (.reg [⟨none, .st 2 (.tmp 13) (.tmp 58), none⟩]) (.seq (.reg [⟨(some 14), .mv (.tmp 59), none⟩]) (.skip)))))))))))))))
 (.seq (.seq (.reg [⟨(some 60), .ld (some 2) (.tmp 13), none⟩,
  ⟨(some 61), .call (.func 67) [(.tmp 60)], none⟩,
  ⟨(some 62), .un .not (.tmp 61), none⟩])
 (.cond (.tmp 62) (.seq (.reg [⟨(some 63), .bsl 3 1 0 [] [], none⟩,
  ⟨(some 64), .bsl 3 1 0 [] [], none⟩,
  ⟨(some 65), .bld [(.slice none 0 0), (.slice none 0 0), (.int .i64 0)] [(0, 1, (.tmp 63)), (1, 1, (.tmp 64))], none⟩,
  ⟨none, .st 3 (.tmp 6) (.tmp 65), none⟩,
  ⟨(some 7), .mv (.const (.bool false)), none⟩])
 (.ret)) (.skip)))
 (.seq (.reg [⟨(some 66), .fad 0 (.tmp 8), none⟩,
  ⟨(some 67), .ld none (.tmp 66), none⟩,
  ⟨(some 68), .mv (.tmp 11), none⟩,
  ⟨(some 69), .bsl 3 1 1 [(.int .i64 0)] [(0, 1, (.tmp 68))], none⟩,
  ⟨(some 70), .app 3 1 8 (.tmp 67) (.tmp 69), none⟩,
  ⟨(some 71), .fad 0 (.tmp 8), none⟩,
  ⟨none, .st 1 (.tmp 71) (.tmp 70), none⟩])
 (.seq (.reg [⟨(some 72), .fad 1 (.tmp 8), none⟩,
  ⟨(some 73), .ld none (.tmp 72), none⟩,
  ⟨(some 74), .fad 0 (.tmp 13), none⟩,
  ⟨(some 75), .ld none (.tmp 74), none⟩,
  ⟨(some 76), .bsl 3 1 1 [(.int .i64 0)] [(0, 1, (.tmp 75))], none⟩,
  ⟨(some 77), .app 3 1 8 (.tmp 73) (.tmp 76), none⟩,
  ⟨(some 78), .fad 1 (.tmp 8), none⟩,
  ⟨none, .st 1 (.tmp 78) (.tmp 77), none⟩])
 (.seq (.reg [⟨(some 79), .fad 2 (.tmp 8), none⟩,
  ⟨(some 80), .ld none (.tmp 79), none⟩,
  ⟨(some 81), .mv (.tmp 2), none⟩,
  ⟨(some 82), .mv (.tmp 10), none⟩,
  ⟨(some 83), .iad 1 (.tmp 81) (.tmp 82), none⟩,
  ⟨(some 84), .ld none (.tmp 83), none⟩,
  ⟨(some 85), .mv (.tmp 14), none⟩,
  ⟨(some 86), .rcall (.func 128) [(.tmp 84), (.tmp 85)], none⟩,
  ⟨(some 87), .rcall (.func 124) [(.tmp 86), (.const (.int .i64 0))], none⟩,
  ⟨(some 88), .bin .add (.tmp 80) (.tmp 87), none⟩,
  ⟨(some 89), .fad 2 (.tmp 8), none⟩,
  ⟨none, .st 1 (.tmp 89) (.tmp 88), none⟩])
 (.reg [⟨(some 90), .ld (some 2) (.tmp 13), none⟩,
  ⟨none, .st 2 (.tmp 9) (.tmp 90), none⟩])))))))))
 (.reg [⟨(some 37), .mv (.tmp 10), none⟩,
  ⟨(some 38), .bin .add (.tmp 37) (.const (.int .i64 1)), none⟩,
  ⟨(some 10), .mv (.tmp 38), none⟩]))))))
 (.seq (.reg [⟨(some 91), .ld (some 3) (.tmp 8), none⟩,
  ⟨none, .st 3 (.tmp 6) (.tmp 91), none⟩,
  ⟨(some 7), .mv (.const (.bool true)), none⟩])
 (.ret))))))
def r_spec_l11Run : List ARes := [.cell 6 (some 3), .tmp 7]
theorem ok_spec_l11Run : FnOk Try.prog 85 92 c_spec_l11Run r_spec_l11Run := ⟨⟨Try.f85, _, Try.func85, by kernel_rfl, rfl, rfl, by kernel_rfl, by kernel_rfl⟩⟩
def c_impl_RunRule_1 : ACode := .seq (.reg [⟨(some 3), .box 27 (.tmp 0), none⟩,
  ⟨(some 5), .mv (.const (.int .i64 0)), none⟩,
  ⟨(some 6), .mv (.const (.bool false)), none⟩])
 (.seq (.reg [⟨(some 7), .ld (some 2) (.tmp 3), none⟩,
  ⟨(some 8), .ld (some 3) (.tmp 2), none⟩,
  ⟨(some 9), .call (.func 33) [(.tmp 7), (.tmp 8)], none⟩,
  ⟨(some 10), .ext 0 (.tmp 9), none⟩,
  ⟨(some 11), .ext 1 (.tmp 9), none⟩,
  ⟨(some 5), .mv (.tmp 10), none⟩,
  ⟨(some 6), .mv (.tmp 11), none⟩])
 (.ret))
def r_impl_RunRule_1 : List ARes := [.tmp 5, .tmp 6]
theorem ok_impl_RunRule_1 : FnOk Try.prog 86 12 c_impl_RunRule_1 r_impl_RunRule_1 := ⟨⟨Try.f86, _, Try.func86, by kernel_rfl, rfl, rfl, by kernel_rfl, by kernel_rfl⟩⟩
def c_impl_orderOf : ACode := .seq (.reg [⟨(some 1), .box 98 (.tmp 0), none⟩,
  ⟨(some 2), .mv (.const (.int .i64 0)), none⟩])
 (.seq (.reg [⟨(some 3), .fad 0 (.tmp 1), none⟩,
  ⟨(some 4), .ld none (.tmp 3), none⟩,
  ⟨(some 2), .mv (.tmp 4), none⟩])
 (.ret))
def r_impl_orderOf : List ARes := [.tmp 2]
theorem ok_impl_orderOf : FnOk Try.prog 87 5 c_impl_orderOf r_impl_orderOf := ⟨⟨Try.f87, _, Try.func87, by kernel_rfl, rfl, rfl, by kernel_rfl, by kernel_rfl⟩⟩
def c_spec_l2Sum : ACode := .seq (.reg [⟨(some 2), .mv (.const (.int .i64 0)), none⟩])
 (.seq (.reg [⟨(some 3), .mv (.const (.int .i64 0)), none⟩])
 (.seq (.seq (.reg [⟨(some 4), .mv (.const (.int .i64 0)), none⟩])
 (.block 0 (.loop (.seq (.seq (.reg [⟨(some 5), .mv (.tmp 4), none⟩,
  ⟨(some 6), .mv (.tmp 0), none⟩,
  ⟨(some 7), .len (.tmp 6), none⟩,
  ⟨(some 8), .bin .lss (.tmp 5) (.tmp 7), none⟩])
 (.cond (.tmp 8) (.skip) (.exit 0)))
 (.seq (.block 1 (.reg [⟨(some 11), .mv (.tmp 3), none⟩,
  ⟨(some 12), .mv (.tmp 0), none⟩,
  ⟨(some 13), .mv (.tmp 4), none⟩,
  ⟨(some 14), .iad 1 (.tmp 12) (.tmp 13), none⟩,
  ⟨(some 15), .ld none (.tmp 14), none⟩,
  ⟨(some 16), .bin .add (.tmp 11) (.tmp 15), none⟩,
  ⟨(some 3), .mv (.tmp 16), none⟩]))
 (.reg [⟨(some 9), .mv (.tmp 4), none⟩,
  ⟨(some 10), .bin .add (.tmp 9) (.const (.int .i64 1)), none⟩,
  ⟨(some 4), .mv (.tmp 10), none⟩]))))))
 (.seq (.reg [⟨(some 17), .mv (.tmp 3), none⟩,
  ⟨(some 2), .mv (.tmp 17), none⟩])
 (.ret))))
def r_spec_l2Sum : List ARes := [.tmp 2]
theorem ok_spec_l2Sum : FnOk Try.prog 88 18 c_spec_l2Sum r_spec_l2Sum := ⟨⟨Try.f88, _, Try.func88, by kernel_rfl, rfl, rfl, by kernel_rfl, by kernel_rfl⟩⟩
def c_spec_l11Rates : ACode := .seq (.reg [⟨(some 4), .mv (.const (.bool false)), none⟩])
 (.seq (.reg [⟨(some 5), .mv (.tmp 0), none⟩,
  ⟨(some 6), .call (.func 73) [(.tmp 5), (.const (.int .i64 0)), (.const (.int .i64 9))], none⟩,
  ⟨(some 7), .mv (.tmp 6), none⟩,
  ⟨(some 8), .mv (.tmp 1), (some (7, true))⟩,
  ⟨(some 9), .call (.func 73) [(.tmp 8), (.const (.int .i64 0)), (.const (.int .i64 9))], (some (7, true))⟩,
  ⟨(some 10), .pick (.tmp 7) (.tmp 9) (.const (.bool false)), none⟩,
  ⟨(some 4), .mv (.tmp 10), none⟩])
 (.ret))
def r_spec_l11Rates : List ARes := [.tmp 4]
theorem ok_spec_l11Rates : FnOk Try.prog 89 11 c_spec_l11Rates r_spec_l11Rates := ⟨⟨Try.f89, _, Try.func89, by kernel_rfl, rfl, rfl, by kernel_rfl, by kernel_rfl⟩⟩
def c_spec_l11Cost : ACode := .seq (.reg [⟨(some 6), .mv (.const (.int .i64 0)), none⟩])
 (.seq (.seq (.reg [⟨(some 7), .mv (.tmp 0), none⟩,
  ⟨(some 8), .bin .gtr (.tmp 7) (.const (.int .i64 0)), none⟩])
 (.cond (.tmp 8) (.seq (.reg [⟨(some 9), .mv (.tmp 1), none⟩,
  ⟨(some 10), .mv (.tmp 0), none⟩,
  ⟨(some 11), .bin .mul (.tmp 9) (.tmp 10), none⟩,
  ⟨(some 6), .mv (.tmp 11), none⟩])
 (.ret)) (.skip)))
 (.seq (.reg [⟨(some 12), .mv (.tmp 2), none⟩,
  ⟨(some 13), .un .neg (.tmp 12), none⟩,
  ⟨(some 14), .mv (.tmp 0), none⟩,
  ⟨(some 15), .bin .mul (.tmp 13) (.tmp 14), none⟩,
  ⟨(some 6), .mv (.tmp 15), none⟩])
 (.ret)))
def r_spec_l11Cost : List ARes := [.tmp 6]
theorem ok_spec_l11Cost : FnOk Try.prog 90 16 c_spec_l11Cost r_spec_l11Cost := ⟨⟨Try.f90, _, Try.func90, by kernel_rfl, rfl, rfl, by kernel_rfl, by kernel_rfl⟩⟩
def c_impl_areStockRates : ACode := .seq (.reg [⟨(some 4), .mv (.const (.bool false)), none⟩])
 (.seq (.reg [⟨(some 5), .mv (.tmp 0), none⟩,
  ⟨(some 6), .call (.func 96) [(.tmp 5), (.const (.int .i64 9))], none⟩,
  ⟨(some 7), .mv (.tmp 6), none⟩,
  ⟨(some 8), .mv (.tmp 1), (some (7, true))⟩,
  ⟨(some 9), .call (.func 96) [(.tmp 8), (.const (.int .i64 9))], (some (7, true))⟩,
  ⟨(some 10), .pick (.tmp 7) (.tmp 9) (.const (.bool false)), none⟩,
  ⟨(some 4), .mv (.tmp 10), none⟩])
 (.ret))
def r_impl_areStockRates : List ARes := [.tmp 4]
theorem ok_impl_areStockRates : FnOk Try.prog 91 11 c_impl_areStockRates r_impl_areStockRates := ⟨⟨Try.f91, _, Try.func91, by kernel_rfl, rfl, rfl, by kernel_rfl, by kernel_rfl⟩⟩
def c_impl_stockCost : ACode := .seq (.reg [⟨(some 4), .box 3 (.tmp 1), none⟩,
  ⟨(some 5), .box 3 (.tmp 2), none⟩,
  ⟨(some 6), .mv (.const (.int .i64 0)), none⟩])
 (.seq (.reg [⟨(some 7), .mv (.tmp 0), none⟩,
  ⟨(some 8), .mkf 129 [] [(.tmp 4), (.tmp 5)], none⟩,
  ⟨(some 9), .call (.func 97) [(.tmp 7), (.tmp 8)], none⟩,
  ⟨(some 10), .call (.func 72) [(.tmp 9)], none⟩,
  ⟨(some 6), .mv (.tmp 10), none⟩])
 (.ret))
def r_impl_stockCost : List ARes := [.tmp 6]
theorem ok_impl_stockCost : FnOk Try.prog 92 11 c_impl_stockCost r_impl_stockCost := ⟨⟨Try.f92, _, Try.func92, by kernel_rfl, rfl, rfl, by kernel_rfl, by kernel_rfl⟩⟩
def c_spec_l11Asked : ACode := .seq (.reg [⟨(some 4), .mv (.const (.bool false)), none⟩])
 (.seq (.reg [⟨(some 5), .mv (.tmp 0), none⟩,
  ⟨(some 6), .call (.func 114) [(.tmp 5), (.const (.int .i64 20)), (.const (.int .i64 20))], none⟩,
  ⟨(some 7), .mv (.tmp 6), none⟩,
  ⟨(some 8), .mv (.tmp 1), (some (7, true))⟩,
  ⟨(some 9), .call (.func 73) [(.tmp 8), (.const (.int .i64 0)), (.const (.int .i64 4))], (some (7, true))⟩,
  ⟨(some 10), .pick (.tmp 7) (.tmp 9) (.const (.bool false)), none⟩,
  ⟨(some 4), .mv (.tmp 10), none⟩])
 (.ret))
def r_spec_l11Asked : List ARes := [.tmp 4]
theorem ok_spec_l11Asked : FnOk Try.prog 93 11 c_spec_l11Asked r_spec_l11Asked := ⟨⟨Try.f93, _, Try.func93, by kernel_rfl, rfl, rfl, by kernel_rfl, by kernel_rfl⟩⟩
def c_spec_l11Needs : ACode := .seq (.reg [⟨(some 4), .mv (.const (.slice none 0 0)), none⟩])
 (.seq (.reg [⟨(some 7), .bsl 3 1 0 [] [], none⟩,
  ⟨(some 5), .mv (.tmp 7), none⟩])
 (.seq (.seq (.reg [⟨(some 6), .mv (.const (.int .i64 0)), none⟩])
 (.block 0 (.loop (.seq (.seq (.reg [⟨(some 8), .mv (.tmp 6), none⟩,
  ⟨(some 9), .mv (.tmp 1), none⟩,
  ⟨(some 10), .bin .add (.tmp 8) (.tmp 9), none⟩,
  ⟨(some 11), .mv (.tmp 0), none⟩,
  ⟨(some 12), .len (.tmp 11), none⟩,
  ⟨(some 13), .bin .lss (.tmp 10) (.tmp 12), none⟩])
 (.cond (.tmp 13) (.skip) (.exit 0)))
 (.seq (.block 1 (.reg [⟨(some 16), .mv (.tmp 5), none⟩,
  ⟨(some 17), .mv (.tmp 0), none⟩,
  ⟨(some 18), .mv (.tmp 6), none⟩,
  ⟨(some 19), .mv (.tmp 6), none⟩,
  ⟨(some 20), .mv (.tmp 1), none⟩,
  ⟨(some 21), .bin .add (.tmp 19) (.tmp 20), none⟩,
  ⟨(some 22), .bin .add (.tmp 21) (.const (.int .i64 1)), none⟩,
  ⟨(some 23), .slc 1 (.tmp 17) (some (.tmp 18)) (some (.tmp 22)), none⟩,
  ⟨(some 24), .call (.func 88) [(.tmp 23)], none⟩,
  ⟨(some 25), .bsl 3 1 1 [(.int .i64 0)] [(0, 1, (.tmp 24))], none⟩,
  ⟨(some 26), .app 3 1 8 (.tmp 16) (.tmp 25), none⟩,
  ⟨(some 5), .mv (.tmp 26), none⟩]))
 (.reg [⟨(some 14), .mv (.tmp 6), none⟩,
  ⟨(some 15), .bin .add (.tmp 14) (.const (.int .i64 1)), none⟩,
  ⟨(some 6), .mv (.tmp 15), none⟩]))))))
 (.seq (.reg [⟨(some 27), .mv (.tmp 5), none⟩,
  ⟨(some 4), .mv (.tmp 27), none⟩])
 (.ret))))
def r_spec_l11Needs : List ARes := [.tmp 4]
theorem ok_spec_l11Needs : FnOk Try.prog 94 28 c_spec_l11Needs r_spec_l11Needs := ⟨⟨Try.f94, _, Try.func94, by kernel_rfl, rfl, rfl, by kernel_rfl, by kernel_rfl⟩⟩
def c_impl_areAsked : ACode := .seq (.reg [⟨(some 2), .mv (.const (.bool false)), none⟩])
 (.seq (.reg [⟨(some 3), .mv (.tmp 0), none⟩,
  ⟨(some 4), .call (.func 69) [(.const (.int .i64 20)), (.tmp 3), (.func 75)], none⟩,
  ⟨(some 2), .mv (.tmp 4), none⟩])
 (.ret))
def r_impl_areAsked : List ARes := [.tmp 2]
theorem ok_impl_areAsked : FnOk Try.prog 95 5 c_impl_areAsked r_impl_areAsked := ⟨⟨Try.f95, _, Try.func95, by kernel_rfl, rfl, rfl, by kernel_rfl, by kernel_rfl⟩⟩
def c_impl_isWithin : ACode := .seq (.reg [⟨(some 4), .mv (.const (.bool false)), none⟩])
 (.seq (.reg [⟨(some 5), .mv (.tmp 0), none⟩,
  ⟨(some 6), .bin .geq (.tmp 5) (.const (.int .i64 0)), none⟩,
  ⟨(some 7), .mv (.tmp 6), none⟩,
  ⟨(some 8), .mv (.tmp 0), (some (7, true))⟩,
  ⟨(some 9), .mv (.tmp 1), (some (7, true))⟩,
  ⟨(some 10), .bin .leq (.tmp 8) (.tmp 9), (some (7, true))⟩,
  ⟨(some 11), .pick (.tmp 7) (.tmp 10) (.const (.bool false)), none⟩,
  ⟨(some 4), .mv (.tmp 11), none⟩])
 (.ret))
def r_impl_isWithin : List ARes := [.tmp 4]
theorem ok_impl_isWithin : FnOk Try.prog 96 12 c_impl_isWithin r_impl_isWithin := ⟨⟨Try.f96, _, Try.func96, by kernel_rfl, rfl, rfl, by kernel_rfl, by kernel_rfl⟩⟩
def c_impl_each : ACode := .seq (.reg [⟨(some 4), .mv (.const (.slice none 0 0)), none⟩])
 (.seq (.reg [⟨(some 8), .bsl 3 1 0 [] [], none⟩,
  ⟨(some 5), .mv (.tmp 8), none⟩])
 (.seq (.seq (.reg [⟨(some 9), .mv (.tmp 0), none⟩,
  ⟨(some 10), .len (.tmp 9), none⟩,
  ⟨(some 11), .mv (.const (.int .i64 0)), none⟩])
 (.block 0 (.loop (.seq (.reg [⟨(some 12), .bin .lss (.tmp 11) (.tmp 10), none⟩])
 (.seq (.cond (.tmp 12) (.skip) (.exit 0))
 (.seq (.block 1 (.seq (.reg [⟨(some 13), .iad 1 (.tmp 9) (.tmp 11), none⟩,
  ⟨(some 14), .ld none (.tmp 13), none⟩,
  ⟨(some 7), .mv (.tmp 14), none⟩])
 (.reg [⟨(some 15), .mv (.tmp 5), none⟩,
  ⟨(some 16), .mv (.tmp 1), none⟩,
  ⟨(some 17), .mv (.tmp 7), none⟩,
  ⟨(some 18), .call (.tmp 16) [(.tmp 17)], none⟩,
  ⟨(some 19), .bsl 3 1 1 [(.int .i64 0)] [(0, 1, (.tmp 18))], none⟩,
  ⟨(some 20), .app 3 1 8 (.tmp 15) (.tmp 19), none⟩,
  ⟨(some 5), .mv (.tmp 20), none⟩])))
 (.reg [⟨(some 21), .bin .add (.tmp 11) (.const (.int .i64 1)), none⟩,
  ⟨(some 11), .mv (.tmp 21), none⟩])))))))
 (.seq (.reg [⟨(some 22), .mv (.tmp 5), none⟩,
  ⟨(some 4), .mv (.tmp 22), none⟩])
 (.ret))))
def r_impl_each : List ARes := [.tmp 4]
theorem ok_impl_each : FnOk Try.prog 97 23 c_impl_each r_impl_each := ⟨⟨Try.f97, _, Try.func97, by kernel_rfl, rfl, rfl, by kernel_rfl, by kernel_rfl⟩⟩
def c_impl_BestUpTo_1 : ACode := .seq (.reg [⟨(some 3), .mv (.const (.int .i64 0)), none⟩])
 (.seq (.reg [⟨(some 4), .ld none (.tmp 1), none⟩,
  ⟨(some 5), .mv (.tmp 0), none⟩,
  ⟨(some 6), .bin .sub (.tmp 4) (.tmp 5), none⟩,
  ⟨(some 3), .mv (.tmp 6), none⟩])
 (.ret))
def r_impl_BestUpTo_1 : List ARes := [.tmp 3]
theorem ok_impl_BestUpTo_1 : FnOk Try.prog 98 7 c_impl_BestUpTo_1 r_impl_BestUpTo_1 := ⟨⟨Try.f98, _, Try.func98, by kernel_rfl, rfl, rfl, by kernel_rfl, by kernel_rfl⟩⟩
def c_slices_Min : ACode := .seq (.reg [⟨(some 2), .mv (.const (.int .i64 0)), none⟩])
 (.seq (.seq (.reg [⟨(some 5), .mv (.tmp 0), none⟩,
  ⟨(some 6), .len (.tmp 5), none⟩,
  ⟨(some 7), .bin .lss (.tmp 6) (.const (.int .i64 1)), none⟩])
 (.cond (.tmp 7) (.reg [⟨(some 8), .mif 9 (.const (.string ⟨#[115, 108, 105, 99, 101, 115, 46, 77, 105, 110, 58, 32, 101, 109, 112, 116, 121, 32, 108, 105, 115, 116]⟩)), none⟩,
  ⟨none, .never, none⟩]) (.skip)))
 (.seq (.reg [⟨(some 9), .mv (.tmp 0), none⟩,
  ⟨(some 10), .iad 1 (.tmp 9) (.const (.int .i64 0)), none⟩,
  ⟨(some 11), .ld none (.tmp 10), none⟩,
  ⟨(some 3), .mv (.tmp 11), none⟩])
 (.seq (.seq (.reg [⟨(some 4), .mv (.const (.int .i64 1)), none⟩])
 (.block 0 (.loop (.seq (.seq (.reg [⟨(some 12), .mv (.tmp 4), none⟩,
  ⟨(some 13), .mv (.tmp 0), none⟩,
  ⟨(some 14), .len (.tmp 13), none⟩,
  ⟨(some 15), .bin .lss (.tmp 12) (.tmp 14), none⟩])
 (.cond (.tmp 15) (.skip) (.exit 0)))
 (.seq (.block 1 (.reg [⟨(some 18), .mv (.tmp 3), none⟩,
  ⟨(some 19), .mv (.tmp 0), none⟩,
  ⟨(some 20), .mv (.tmp 4), none⟩,
  ⟨(some 21), .iad 1 (.tmp 19) (.tmp 20), none⟩,
  ⟨(some 22), .ld none (.tmp 21), none⟩,
  ⟨(some 23), .mmx false (.tmp 18) (.tmp 22), none⟩,
  ⟨(some 3), .mv (.tmp 23), none⟩]))
 (.reg [⟨(some 16), .mv (.tmp 4), none⟩,
  ⟨(some 17), .bin .add (.tmp 16) (.const (.int .i64 1)), none⟩,
  ⟨(some 4), .mv (.tmp 17), none⟩]))))))
 (.seq (.reg [⟨(some 24), .mv (.tmp 3), none⟩,
  ⟨(some 2), .mv (.tmp 24), none⟩])
 (.ret)))))
def r_slices_Min : List ARes := [.tmp 2]
theorem ok_slices_Min : FnOk Try.prog 99 25 c_slices_Min r_slices_Min := ⟨⟨Try.f99, _, Try.func99, by kernel_rfl, rfl, rfl, by kernel_rfl, by kernel_rfl⟩⟩
def c_slices_Index : ACode := .seq (.reg [⟨(some 4), .mv (.const (.int .i64 0)), none⟩])
 (.seq (.seq (.reg [⟨(some 6), .mv (.tmp 0), none⟩,
  ⟨(some 7), .len (.tmp 6), none⟩,
  ⟨(some 8), .mv (.const (.int .i64 0)), none⟩])
 (.block 0 (.loop (.seq (.reg [⟨(some 9), .bin .lss (.tmp 8) (.tmp 7), none⟩])
 (.seq (.cond (.tmp 9) (.skip) (.exit 0))
 (.seq (.block 1 (.seq (.reg [⟨(some 10), .mv (.tmp 8), none⟩,
  ⟨(some 5), .mv (.tmp 10), none⟩])
 (.seq (.reg [⟨(some 11), .mv (.tmp 1), none⟩,
  ⟨(some 12), .mv (.tmp 0), none⟩,
  ⟨(some 13), .mv (.tmp 5), none⟩,
  ⟨(some 14), .iad 1 (.tmp 12) (.tmp 13), none⟩,
  ⟨(some 15), .ld none (.tmp 14), none⟩,
  ⟨(some 16), .bin .eql (.tmp 11) (.tmp 15), none⟩])
 (.cond (.tmp 16) (.seq (.reg [⟨(some 17), .mv (.tmp 5), none⟩,
  ⟨(some 4), .mv (.tmp 17), none⟩])
 (.ret)) (.skip)))))
 (.reg [⟨(some 18), .bin .add (.tmp 8) (.const (.int .i64 1)), none⟩,
  ⟨(some 8), .mv (.tmp 18), none⟩])))))))
 (.seq (.reg [⟨(some 4), .mv (.const (.int .i64 (-1))), none⟩])
 (.ret)))
def r_slices_Index : List ARes := [.tmp 4]
theorem ok_slices_Index : FnOk Try.prog 100 19 c_slices_Index r_slices_Index := ⟨⟨Try.f100, _, Try.func100, by kernel_rfl, rfl, rfl, by kernel_rfl, by kernel_rfl⟩⟩
def c_spec_l11Parcels : ACode := .seq (.reg [⟨(some 2), .mv (.const (.bool false)), none⟩])
 (.seq (.seq (.reg [⟨(some 3), .mv (.const (.int .i64 0)), none⟩])
 (.block 0 (.loop (.seq (.seq (.reg [⟨(some 5), .mv (.tmp 3), none⟩,
  ⟨(some 6), .mv (.tmp 0), none⟩,
  ⟨(some 7), .len (.tmp 6), none⟩,
  ⟨(some 8), .bin .lss (.tmp 5) (.tmp 7), none⟩])
 (.cond (.tmp 8) (.skip) (.exit 0)))
 (.seq (.block 1 (.seq (.reg [⟨(some 11), .mv (.tmp 0), none⟩,
  ⟨(some 12), .mv (.tmp 3), none⟩,
  ⟨(some 13), .iad 3 (.tmp 11) (.tmp 12), none⟩,
  ⟨(some 14), .ld (some 3) (.tmp 13), none⟩,
  ⟨(some 4), .alc 113 [(.int .i64 0), (.int .i64 0), (.int .i64 0)], none⟩,
  ⟨none, .st 3 (.tmp 4) (.tmp 14), none⟩])
 (.seq (.reg [⟨(some 15), .fad 0 (.tmp 4), none⟩,
  ⟨(some 16), .ld none (.tmp 15), none⟩,
  ⟨(some 17), .rcall (.func 73) [(.tmp 16), (.const (.int .i64 1)), (.const (.int .i64 20))], none⟩,
  ⟨(some 18), .un .not (.tmp 17), none⟩,
  ⟨(some 19), .mv (.tmp 18), none⟩,
  ⟨(some 20), .fad 1 (.tmp 4), (some (19, false))⟩,
  ⟨(some 21), .ld none (.tmp 20), (some (19, false))⟩,
  ⟨(some 22), .rcall (.func 73) [(.tmp 21), (.const (.int .i64 1)), (.const (.int .i64 40))], (some (19, false))⟩,
  ⟨(some 23), .un .not (.tmp 22), (some (19, false))⟩,
  ⟨(some 24), .pick (.tmp 19) (.const (.bool true)) (.tmp 23), none⟩,
  ⟨(some 25), .mv (.tmp 24), none⟩,
  ⟨(some 26), .fad 2 (.tmp 4), (some (25, false))⟩,
  ⟨(some 27), .ld none (.tmp 26), (some (25, false))⟩,
  ⟨(some 28), .rcall (.func 73) [(.tmp 27), (.const (.int .i64 0)), (.const (.int .i64 4))], (some (25, false))⟩,
  ⟨(some 29), .un .not (.tmp 28), (some (25, false))⟩,
  ⟨(some 30), .pick (.tmp 25) (.const (.bool true)) (.tmp 29), none⟩,
  ⟨(some 31), .mv (.tmp 30), none⟩,
  ⟨(some 32), .mv (.tmp 3), (some (31, false))⟩,
  ⟨(some 33), .bin .gtr (.tmp 32) (.const (.int .i64 0)), (some (31, false))⟩,
  ⟨(some 34), .mv (.tmp 33), (some (31, false))⟩,
  ⟨(some 35), .mv (.tmp 0), (some (34, true))⟩,
  ⟨(some 36), .mv (.tmp 3), (some (34, true))⟩,
  ⟨(some 37), .bin .sub (.tmp 36) (.const (.int .i64 1)), (some (34, true))⟩,
  ⟨(some 38), .iad 3 (.tmp 35) (.tmp 37), (some (34, true))⟩,
  ⟨(some 39), .fad 0 (.tmp 38), (some (34, true))⟩,
  ⟨(some 40), .ld none (.tmp 39), (some (34, true))⟩,
  ⟨(some 41), .fad 0 (.tmp 4), (some (34, true))⟩,
  ⟨(some 42), .ld none (.tmp 41), (some (34, true))⟩,
  ⟨(some 43), .bin .gtr (.tmp 40) (.tmp 42), (some (34, true))⟩,
  ⟨(some 44), .pick (.tmp 34) (.tmp 43) (.const (.bool false)), (some (31, false))⟩,
  ⟨(some 45), .pick (.tmp 31) (.const (.bool true)) (.tmp 44), none⟩])
 (.cond (.tmp 45) (.seq (.reg [⟨(some 2), .mv (.const (.bool false)), none⟩])
 (.ret)) (.skip)))))
 (.reg [⟨(some 9), .mv (.tmp 3), none⟩,
  ⟨(some 10), .bin .add (.tmp 9) (.const (.int .i64 1)), none⟩,
  ⟨(some 3), .mv (.tmp 10), none⟩]))))))
 (.seq (.reg [⟨(some 46), .mv (.tmp 0), none⟩,
  ⟨(some 47), .len (.tmp 46), none⟩,
  ⟨(some 48), .bin .leq (.tmp 47) (.const (.int .i64 12)), none⟩,
  ⟨(some 2), .mv (.tmp 48), none⟩])
 (.ret)))
def r_spec_l11Parcels : List ARes := [.tmp 2]
theorem ok_spec_l11Parcels : FnOk Try.prog 101 49 c_spec_l11Parcels r_spec_l11Parcels := ⟨⟨Try.f101, _, Try.func101, by kernel_rfl, rfl, rfl, by kernel_rfl, by kernel_rfl⟩⟩
def c_spec_l11Arrivals : ACode := .seq (.reg [⟨(some 2), .mv (.const (.slice none 0 0)), none⟩])
 (.seq (.reg [⟨(some 6), .mks 3 8 [(.int .i64 0)] (.const (.int .i64 24)) (.const (.int .i64 24)), none⟩,
  ⟨(some 3), .mv (.tmp 6), none⟩])
 (.seq (.seq (.reg [⟨(some 4), .mv (.const (.int .i64 0)), none⟩])
 (.block 0 (.loop (.seq (.seq (.reg [⟨(some 7), .mv (.tmp 4), none⟩,
  ⟨(some 8), .mv (.tmp 0), none⟩,
  ⟨(some 9), .len (.tmp 8), none⟩,
  ⟨(some 10), .bin .lss (.tmp 7) (.tmp 9), none⟩])
 (.cond (.tmp 10) (.skip) (.exit 0)))
 (.seq (.block 1 (.seq (.reg [⟨(some 13), .mv (.tmp 0), none⟩,
  ⟨(some 14), .mv (.tmp 4), none⟩,
  ⟨(some 15), .iad 3 (.tmp 13) (.tmp 14), none⟩,
  ⟨(some 16), .fad 0 (.tmp 15), none⟩,
  ⟨(some 17), .ld none (.tmp 16), none⟩,
  ⟨(some 18), .mv (.tmp 0), none⟩,
  ⟨(some 19), .mv (.tmp 4), none⟩,
  ⟨(some 20), .iad 3 (.tmp 18) (.tmp 19), none⟩,
  ⟨(some 21), .fad 2 (.tmp 20), none⟩,
  ⟨(some 22), .ld none (.tmp 21), none⟩,
  ⟨(some 23), .bin .add (.tmp 17) (.tmp 22), none⟩,
  ⟨(some 5), .mv (.tmp 23), none⟩])
 (.reg [⟨(some 24), .mv (.tmp 3), none⟩,
  ⟨(some 25), .mv (.tmp 5), none⟩,
  ⟨(some 26), .bin .sub (.tmp 25) (.const (.int .i64 1)), none⟩,
  ⟨(some 27), .mv (.tmp 3), none⟩,
  ⟨(some 28), .mv (.tmp 5), none⟩,
  ⟨(some 29), .bin .sub (.tmp 28) (.const (.int .i64 1)), none⟩,
  ⟨(some 30), .iad 1 (.tmp 27) (.tmp 29), none⟩,
  ⟨(some 31), .ld none (.tmp 30), none⟩,
  ⟨(some 32), .mv (.tmp 0), none⟩,
  ⟨(some 33), .mv (.tmp 4), none⟩,
  ⟨(some 34), .iad 3 (.tmp 32) (.tmp 33), none⟩,
  ⟨(some 35), .fad 1 (.tmp 34), none⟩,
  ⟨(some 36), .ld none (.tmp 35), none⟩,
  ⟨(some 37), .bin .add (.tmp 31) (.tmp 36), none⟩,
  ⟨(some 38), .iad 1 (.tmp 24) (.tmp 26), none⟩,
  ⟨none, .st 1 (.tmp 38) (.tmp 37), none⟩])))
 (.reg [⟨(some 11), .mv (.tmp 4), none⟩,
  ⟨(some 12), .bin .add (.tmp 11) (.const (.int .i64 1)), none⟩,
  ⟨(some 4), .mv (.tmp 12), none⟩]))))))
 (.seq (.reg [⟨(some 39), .mv (.tmp 3), none⟩,
  ⟨(some 2), .mv (.tmp 39), none⟩])
 (.ret))))
def r_spec_l11Arrivals : List ARes := [.tmp 2]
theorem ok_spec_l11Arrivals : FnOk Try.prog 102 40 c_spec_l11Arrivals r_spec_l11Arrivals := ⟨⟨Try.f102, _, Try.func102, by kernel_rfl, rfl, rfl, by kernel_rfl, by kernel_rfl⟩⟩
def c_impl_areParcels : ACode := .seq (.reg [⟨(some 2), .mv (.const (.bool false)), none⟩])
 (.seq (.reg [⟨(some 3), .mv (.func 130), none⟩])
 (.seq (.reg [⟨(some 4), .mv (.tmp 0), none⟩,
  ⟨(some 5), .call (.func 131) [(.const (.int .i64 12)), (.tmp 4), (.func 132)], none⟩,
  ⟨(some 6), .mv (.tmp 5), none⟩,
  ⟨(some 7), .mv (.tmp 0), (some (6, true))⟩,
  ⟨(some 8), .mv (.tmp 3), (some (6, true))⟩,
  ⟨(some 9), .call (.func 133) [(.tmp 7), (.tmp 8)], (some (6, true))⟩,
  ⟨(some 10), .pick (.tmp 6) (.tmp 9) (.const (.bool false)), none⟩,
  ⟨(some 2), .mv (.tmp 10), none⟩])
 (.ret)))
def r_impl_areParcels : List ARes := [.tmp 2]
theorem ok_impl_areParcels : FnOk Try.prog 104 11 c_impl_areParcels r_impl_areParcels := ⟨⟨Try.f104, _, Try.func104, by kernel_rfl, rfl, rfl, by kernel_rfl, by kernel_rfl⟩⟩
def c_impl_arrivalsOf : ACode := .seq (.reg [⟨(some 2), .mv (.const (.slice none 0 0)), none⟩])
 (.seq (.reg [⟨(some 6), .mks 3 8 [(.int .i64 0)] (.const (.int .i64 24)) (.const (.int .i64 24)), none⟩,
  ⟨(some 3), .mv (.tmp 6), none⟩])
 (.seq (.seq (.reg [⟨(some 7), .mv (.tmp 0), none⟩,
  ⟨(some 8), .len (.tmp 7), none⟩,
  ⟨(some 9), .mv (.const (.int .i64 0)), none⟩])
 (.block 0 (.loop (.seq (.reg [⟨(some 10), .bin .lss (.tmp 9) (.tmp 8), none⟩])
 (.seq (.cond (.tmp 10) (.skip) (.exit 0))
 (.seq (.block 1 (.seq (.reg [⟨(some 11), .iad 3 (.tmp 7) (.tmp 9), none⟩,
  ⟨(some 12), .ld (some 3) (.tmp 11), none⟩,
  ⟨(some 5), .alc 113 [(.int .i64 0), (.int .i64 0), (.int .i64 0)], none⟩,
  ⟨none, .st 3 (.tmp 5) (.tmp 12), none⟩])
 (.reg [⟨(some 13), .mv (.tmp 3), none⟩,
  ⟨(some 14), .ld (some 3) (.tmp 5), none⟩,
  ⟨(some 19), .fad 1 (.tmp 5), none⟩,
  ⟨(some 20), .ld none (.tmp 19), none⟩,
  ⟨(some 15), .rcall (.func 112) [(.tmp 14)], none⟩,
  ⟨(some 16), .bin .sub (.tmp 15) (.const (.int .i64 1)), none⟩,
  ⟨(some 17), .iad 1 (.tmp 13) (.tmp 16), none⟩,
  ⟨(some 18), .ld none (.tmp 17), none⟩,
  ⟨(some 21), .bin .add (.tmp 18) (.tmp 20), none⟩,
  ⟨(some 22), .iad 1 (.tmp 13) (.tmp 16), none⟩,
  ⟨none, .st 1 (.tmp 22) (.tmp 21), none⟩])))
 (.reg [⟨(some 23), .bin .add (.tmp 9) (.const (.int .i64 1)), none⟩,
  ⟨(some 9), .mv (.tmp 23), none⟩])))))))
 (.seq (.reg [⟨(some 24), .mv (.tmp 3), none⟩,
  ⟨(some 2), .mv (.tmp 24), none⟩])
 (.ret))))
def r_impl_arrivalsOf : List ARes := [.tmp 2]
theorem ok_impl_arrivalsOf : FnOk Try.prog 105 25 c_impl_arrivalsOf r_impl_arrivalsOf := ⟨⟨Try.f105, _, Try.func105, by kernel_rfl, rfl, rfl, by kernel_rfl, by kernel_rfl⟩⟩
def c_impl_isCrossed : ACode := .seq (.reg [⟨(some 2), .box 113 (.tmp 0), none⟩,
  ⟨(some 3), .box 113 (.tmp 1), none⟩,
  ⟨(some 4), .mv (.const (.bool false)), none⟩])
 (.seq (.reg [⟨(some 5), .fad 0 (.tmp 2), none⟩,
  ⟨(some 6), .ld none (.tmp 5), none⟩,
  ⟨(some 7), .fad 0 (.tmp 3), none⟩,
  ⟨(some 8), .ld none (.tmp 7), none⟩,
  ⟨(some 9), .bin .lss (.tmp 6) (.tmp 8), none⟩,
  ⟨(some 10), .mv (.tmp 9), none⟩,
  ⟨(some 11), .ld (some 3) (.tmp 3), (some (10, true))⟩,
  ⟨(some 13), .ld (some 3) (.tmp 2), (some (10, true))⟩,
  ⟨(some 12), .rcall (.func 112) [(.tmp 11)], (some (10, true))⟩,
  ⟨(some 14), .rcall (.func 112) [(.tmp 13)], (some (10, true))⟩,
  ⟨(some 15), .bin .lss (.tmp 12) (.tmp 14), (some (10, true))⟩,
  ⟨(some 16), .pick (.tmp 10) (.tmp 15) (.const (.bool false)), none⟩,
  ⟨(some 4), .mv (.tmp 16), none⟩])
 (.ret))
def r_impl_isCrossed : List ARes := [.tmp 4]
theorem ok_impl_isCrossed : FnOk Try.prog 107 17 c_impl_isCrossed r_impl_isCrossed := ⟨⟨Try.f107, _, Try.func107, by kernel_rfl, rfl, rfl, by kernel_rfl, by kernel_rfl⟩⟩
def c_impl_StraightLeads_1 : ACode := .seq (.reg [⟨(some 2), .box 113 (.tmp 0), none⟩,
  ⟨(some 3), .mv (.const (.bool false)), none⟩])
 (.seq (.reg [⟨(some 4), .fad 1 (.tmp 2), none⟩,
  ⟨(some 5), .ld none (.tmp 4), none⟩,
  ⟨(some 6), .ld none (.tmp 1), none⟩,
  ⟨(some 7), .iad 3 (.tmp 6) (.const (.int .i64 0)), none⟩,
  ⟨(some 8), .fad 1 (.tmp 7), none⟩,
  ⟨(some 9), .ld none (.tmp 8), none⟩,
  ⟨(some 10), .bin .neq (.tmp 5) (.tmp 9), none⟩,
  ⟨(some 3), .mv (.tmp 10), none⟩])
 (.ret))
def r_impl_StraightLeads_1 : List ARes := [.tmp 3]
theorem ok_impl_StraightLeads_1 : FnOk Try.prog 109 11 c_impl_StraightLeads_1 r_impl_StraightLeads_1 := ⟨⟨Try.f109, _, Try.func109, by kernel_rfl, rfl, rfl, by kernel_rfl, by kernel_rfl⟩⟩
def c_slices_ContainsFunc_Parcel : ACode := .seq (.reg [⟨(some 4), .mv (.const (.bool false)), none⟩])
 (.seq (.reg [⟨(some 5), .mv (.tmp 0), none⟩,
  ⟨(some 6), .mv (.tmp 1), none⟩,
  ⟨(some 7), .call (.func 134) [(.tmp 5), (.tmp 6)], none⟩,
  ⟨(some 8), .bin .geq (.tmp 7) (.const (.int .i64 0)), none⟩,
  ⟨(some 4), .mv (.tmp 8), none⟩])
 (.ret))
def r_slices_ContainsFunc_Parcel : List ARes := [.tmp 4]
theorem ok_slices_ContainsFunc_Parcel : FnOk Try.prog 110 9 c_slices_ContainsFunc_Parcel r_slices_ContainsFunc_Parcel := ⟨⟨Try.f110, _, Try.func110, by kernel_rfl, rfl, rfl, by kernel_rfl, by kernel_rfl⟩⟩
def c_impl_each_Parcel : ACode := .seq (.reg [⟨(some 4), .mv (.const (.slice none 0 0)), none⟩])
 (.seq (.reg [⟨(some 8), .bsl 3 1 0 [] [], none⟩,
  ⟨(some 5), .mv (.tmp 8), none⟩])
 (.seq (.seq (.reg [⟨(some 9), .mv (.tmp 0), none⟩,
  ⟨(some 10), .len (.tmp 9), none⟩,
  ⟨(some 11), .mv (.const (.int .i64 0)), none⟩])
 (.block 0 (.loop (.seq (.reg [⟨(some 12), .bin .lss (.tmp 11) (.tmp 10), none⟩])
 (.seq (.cond (.tmp 12) (.skip) (.exit 0))
 (.seq (.block 1 (.seq (.reg [⟨(some 13), .iad 3 (.tmp 9) (.tmp 11), none⟩,
  ⟨(some 14), .ld (some 3) (.tmp 13), none⟩,
  ⟨(some 7), .alc 113 [(.int .i64 0), (.int .i64 0), (.int .i64 0)], none⟩,
  ⟨none, .st 3 (.tmp 7) (.tmp 14), none⟩])
 (.reg [⟨(some 15), .mv (.tmp 5), none⟩,
  ⟨(some 16), .mv (.tmp 1), none⟩,
  ⟨(some 17), .ld (some 3) (.tmp 7), none⟩,
  ⟨(some 18), .call (.tmp 16) [(.tmp 17)], none⟩,
  ⟨(some 19), .bsl 3 1 1 [(.int .i64 0)] [(0, 1, (.tmp 18))], none⟩,
  ⟨(some 20), .app 3 1 8 (.tmp 15) (.tmp 19), none⟩,
  ⟨(some 5), .mv (.tmp 20), none⟩])))
 (.reg [⟨(some 21), .bin .add (.tmp 11) (.const (.int .i64 1)), none⟩,
  ⟨(some 11), .mv (.tmp 21), none⟩])))))))
 (.seq (.reg [⟨(some 22), .mv (.tmp 5), none⟩,
  ⟨(some 4), .mv (.tmp 22), none⟩])
 (.ret))))
def r_impl_each_Parcel : List ARes := [.tmp 4]
theorem ok_impl_each_Parcel : FnOk Try.prog 111 23 c_impl_each_Parcel r_impl_each_Parcel := ⟨⟨Try.f111, _, Try.func111, by kernel_rfl, rfl, rfl, by kernel_rfl, by kernel_rfl⟩⟩
def c_impl_arrivalOf : ACode := .seq (.reg [⟨(some 1), .box 113 (.tmp 0), none⟩,
  ⟨(some 2), .mv (.const (.int .i64 0)), none⟩])
 (.seq (.reg [⟨(some 3), .fad 0 (.tmp 1), none⟩,
  ⟨(some 4), .ld none (.tmp 3), none⟩,
  ⟨(some 5), .fad 2 (.tmp 1), none⟩,
  ⟨(some 6), .ld none (.tmp 5), none⟩,
  ⟨(some 7), .bin .add (.tmp 4) (.tmp 6), none⟩,
  ⟨(some 2), .mv (.tmp 7), none⟩])
 (.ret))
def r_impl_arrivalOf : List ARes := [.tmp 2]
theorem ok_impl_arrivalOf : FnOk Try.prog 112 8 c_impl_arrivalOf r_impl_arrivalOf := ⟨⟨Try.f112, _, Try.func112, by kernel_rfl, rfl, rfl, by kernel_rfl, by kernel_rfl⟩⟩
def c_slices_Sort : ACode := .seq (.reg [⟨(some 3), .mv (.tmp 0), none⟩,
  ⟨(some 4), .len (.tmp 3), none⟩,
  ⟨(some 2), .mv (.tmp 4), none⟩])
 (.reg [⟨(some 5), .mv (.tmp 0), none⟩,
  ⟨(some 6), .mv (.tmp 2), none⟩,
  ⟨(some 7), .mv (.tmp 2), none⟩,
  ⟨(some 8), .conv .u64 (.tmp 7), none⟩,
  ⟨(some 9), .call (.func 136) [(.tmp 8)], none⟩,
  ⟨(some 10), .call (.func 135) [(.tmp 5), (.const (.int .i64 0)), (.tmp 6), (.tmp 9)], none⟩])
def r_slices_Sort : List ARes := []
theorem ok_slices_Sort : FnOk Try.prog 113 11 c_slices_Sort r_slices_Sort := ⟨⟨Try.f113, _, Try.func113, by kernel_rfl, rfl, rfl, by kernel_rfl, by kernel_rfl⟩⟩
def c_spec_l11Numbers : ACode := .seq (.reg [⟨(some 6), .mv (.const (.bool false)), none⟩])
 (.seq (.reg [⟨(some 7), .mv (.tmp 0), none⟩,
  ⟨(some 8), .len (.tmp 7), none⟩,
  ⟨(some 9), .mv (.tmp 1), none⟩,
  ⟨(some 10), .bin .leq (.tmp 8) (.tmp 9), none⟩,
  ⟨(some 11), .mv (.tmp 10), none⟩,
  ⟨(some 12), .mv (.tmp 0), (some (11, true))⟩,
  ⟨(some 13), .mv (.tmp 0), (some (11, true))⟩,
  ⟨(some 14), .len (.tmp 13), (some (11, true))⟩,
  ⟨(some 15), .mv (.tmp 2), (some (11, true))⟩,
  ⟨(some 16), .call (.func 137) [(.tmp 12), (.tmp 14), (.tmp 15)], (some (11, true))⟩,
  ⟨(some 17), .pick (.tmp 11) (.tmp 16) (.const (.bool false)), none⟩,
  ⟨(some 6), .mv (.tmp 17), none⟩])
 (.ret))
def r_spec_l11Numbers : List ARes := [.tmp 6]
theorem ok_spec_l11Numbers : FnOk Try.prog 114 18 c_spec_l11Numbers r_spec_l11Numbers := ⟨⟨Try.f114, _, Try.func114, by kernel_rfl, rfl, rfl, by kernel_rfl, by kernel_rfl⟩⟩
def c_impl_courseOf : ACode := .seq (.reg [⟨(some 6), .mv (.const (.slice none 0 0)), none⟩,
  ⟨(some 7), .mv (.const (.bool false)), none⟩])
 (.seq (.reg [⟨(some 12), .mv (.tmp 0), none⟩,
  ⟨(some 13), .bsl 3 1 1 [(.int .i64 0)] [(0, 1, (.tmp 12))], none⟩,
  ⟨(some 8), .mv (.tmp 13), none⟩])
 (.seq (.seq (.reg [⟨(some 14), .mv (.tmp 1), none⟩,
  ⟨(some 15), .mv (.const (.int .i64 0)), none⟩])
 (.block 0 (.loop (.seq (.reg [⟨(some 16), .bin .lss (.tmp 15) (.tmp 14), none⟩])
 (.seq (.cond (.tmp 16) (.skip) (.exit 0))
 (.seq (.block 1 (.seq (.reg [⟨(some 17), .mv (.tmp 15), none⟩,
  ⟨(some 9), .mv (.tmp 17), none⟩])
 (.seq (.reg [⟨(some 19), .mv (.tmp 2), none⟩,
  ⟨(some 20), .mv (.tmp 8), none⟩,
  ⟨(some 21), .mv (.tmp 9), none⟩,
  ⟨(some 22), .iad 1 (.tmp 20) (.tmp 21), none⟩,
  ⟨(some 23), .ld none (.tmp 22), none⟩,
  ⟨(some 24), .mv (.tmp 9), none⟩,
  ⟨(some 25), .call (.tmp 19) [(.tmp 23), (.tmp 24)], none⟩,
  ⟨(some 18), .mv (.tmp 25), none⟩,
  ⟨(some 26), .ext 0 (.tmp 18), none⟩,
  ⟨(some 27), .ext 1 (.tmp 18), none⟩,
  ⟨(some 10), .mv (.tmp 26), none⟩,
  ⟨(some 11), .mv (.tmp 27), none⟩])
 (.seq (.seq (.reg [⟨(some 28), .mv (.tmp 11), none⟩,
  ⟨(some 29), .un .not (.tmp 28), none⟩])
 (.cond (.tmp 29) (.seq (.reg [⟨(some 30), .bsl 3 1 0 [] [], none⟩,
  ⟨(some 6), .mv (.tmp 30), none⟩,
  ⟨(some 7), .mv (.const (.bool false)), none⟩])
 (.ret)) (.skip)))
 (.reg [⟨(some 31), .mv (.tmp 8), none⟩,
  ⟨(some 32), .mv (.tmp 10), none⟩,
  ⟨(some 33), .bsl 3 1 1 [(.int .i64 0)] [(0, 1, (.tmp 32))], none⟩,
  ⟨(some 34), .app 3 1 8 (.tmp 31) (.tmp 33), none⟩,
  ⟨(some 8), .mv (.tmp 34), none⟩])))))
 (.reg [⟨(some 35), .bin .add (.tmp 15) (.const (.int .i64 1)), none⟩,
  ⟨(some 15), .mv (.tmp 35), none⟩])))))))
 (.seq (.reg [⟨(some 36), .mv (.tmp 8), none⟩,
  ⟨(some 6), .mv (.tmp 36), none⟩,
  ⟨(some 7), .mv (.const (.bool true)), none⟩])
 (.ret))))
def r_impl_courseOf : List ARes := [.tmp 6, .tmp 7]
theorem ok_impl_courseOf : FnOk Try.prog 115 37 c_impl_courseOf r_impl_courseOf := ⟨⟨Try.f115, _, Try.func115, by kernel_rfl, rfl, rfl, by kernel_rfl, by kernel_rfl⟩⟩
def c_impl_ParcelStocks_1 : ACode := .seq (.reg [⟨(some 6), .mv (.const (.int .i64 0)), none⟩,
  ⟨(some 7), .mv (.const (.bool false)), none⟩])
 (.seq (.reg [⟨(some 8), .mv (.tmp 0), none⟩,
  ⟨(some 9), .ld none (.tmp 2), none⟩,
  ⟨(some 10), .mv (.tmp 1), none⟩,
  ⟨(some 11), .iad 1 (.tmp 9) (.tmp 10), none⟩,
  ⟨(some 12), .ld none (.tmp 11), none⟩,
  ⟨(some 13), .bin .add (.tmp 8) (.tmp 12), none⟩,
  ⟨(some 14), .ld none (.tmp 3), none⟩,
  ⟨(some 15), .mv (.tmp 1), none⟩,
  ⟨(some 16), .iad 1 (.tmp 14) (.tmp 15), none⟩,
  ⟨(some 17), .ld none (.tmp 16), none⟩,
  ⟨(some 18), .bin .sub (.tmp 13) (.tmp 17), none⟩,
  ⟨(some 6), .mv (.tmp 18), none⟩,
  ⟨(some 7), .mv (.const (.bool true)), none⟩])
 (.ret))
def r_impl_ParcelStocks_1 : List ARes := [.tmp 6, .tmp 7]
theorem ok_impl_ParcelStocks_1 : FnOk Try.prog 116 19 c_impl_ParcelStocks_1 r_impl_ParcelStocks_1 := ⟨⟨Try.f116, _, Try.func116, by kernel_rfl, rfl, rfl, by kernel_rfl, by kernel_rfl⟩⟩
def c_impl_isNear : ACode := .seq (.reg [⟨(some 4), .mv (.const (.bool false)), none⟩])
 (.seq (.reg [⟨(some 5), .mv (.tmp 0), none⟩,
  ⟨(some 6), .mv (.tmp 1), none⟩,
  ⟨(some 7), .un .neg (.tmp 6), none⟩,
  ⟨(some 8), .bin .geq (.tmp 5) (.tmp 7), none⟩,
  ⟨(some 9), .mv (.tmp 8), none⟩,
  ⟨(some 10), .mv (.tmp 0), (some (9, true))⟩,
  ⟨(some 11), .mv (.tmp 1), (some (9, true))⟩,
  ⟨(some 12), .bin .leq (.tmp 10) (.tmp 11), (some (9, true))⟩,
  ⟨(some 13), .pick (.tmp 9) (.tmp 12) (.const (.bool false)), none⟩,
  ⟨(some 4), .mv (.tmp 13), none⟩])
 (.ret))
def r_impl_isNear : List ARes := [.tmp 4]
theorem ok_impl_isNear : FnOk Try.prog 117 14 c_impl_isNear r_impl_isNear := ⟨⟨Try.f117, _, Try.func117, by kernel_rfl, rfl, rfl, by kernel_rfl, by kernel_rfl⟩⟩
def c_impl_areAtMost_1 : ACode := .seq (.reg [⟨(some 3), .mv (.const (.bool false)), none⟩])
 (.seq (.reg [⟨(some 4), .ld none (.tmp 1), none⟩,
  ⟨(some 5), .mv (.tmp 0), none⟩,
  ⟨(some 6), .call (.tmp 4) [(.tmp 5)], none⟩,
  ⟨(some 7), .un .not (.tmp 6), none⟩,
  ⟨(some 3), .mv (.tmp 7), none⟩])
 (.ret))
def r_impl_areAtMost_1 : List ARes := [.tmp 3]
theorem ok_impl_areAtMost_1 : FnOk Try.prog 118 8 c_impl_areAtMost_1 r_impl_areAtMost_1 := ⟨⟨Try.f118, _, Try.func118, by kernel_rfl, rfl, rfl, by kernel_rfl, by kernel_rfl⟩⟩
def c_slices_ContainsFunc : ACode := .seq (.reg [⟨(some 4), .mv (.const (.bool false)), none⟩])
 (.seq (.reg [⟨(some 5), .mv (.tmp 0), none⟩,
  ⟨(some 6), .mv (.tmp 1), none⟩,
  ⟨(some 7), .call (.func 138) [(.tmp 5), (.tmp 6)], none⟩,
  ⟨(some 8), .bin .geq (.tmp 7) (.const (.int .i64 0)), none⟩,
  ⟨(some 4), .mv (.tmp 8), none⟩])
 (.ret))
def r_slices_ContainsFunc : List ARes := [.tmp 4]
theorem ok_slices_ContainsFunc : FnOk Try.prog 119 9 c_slices_ContainsFunc r_slices_ContainsFunc := ⟨⟨Try.f119, _, Try.func119, by kernel_rfl, rfl, rfl, by kernel_rfl, by kernel_rfl⟩⟩
def c_slices_Grow : ACode := .seq (.reg [⟨(some 4), .mv (.const (.slice none 0 0)), none⟩])
 (.seq (.seq (.reg [⟨(some 5), .mv (.tmp 1), none⟩,
  ⟨(some 6), .bin .lss (.tmp 5) (.const (.int .i64 0)), none⟩])
 (.cond (.tmp 6) (.reg [⟨(some 7), .mif 9 (.const (.string ⟨#[99, 97, 110, 110, 111, 116, 32, 98, 101, 32, 110, 101, 103, 97, 116, 105, 118, 101]⟩)), none⟩,
  ⟨none, .never, none⟩]) (.skip)))
 (.seq (.seq (.reg [⟨(some 8), .mv (.tmp 1), none⟩,
  ⟨(some 9), .mv (.tmp 0), none⟩,
  ⟨(some 10), .cpz (.tmp 9), none⟩,
  ⟨(some 11), .mv (.tmp 0), none⟩,
  ⟨(some 12), .len (.tmp 11), none⟩,
  ⟨(some 13), .bin .sub (.tmp 10) (.tmp 12), none⟩,
  ⟨(some 14), .bin .sub (.tmp 8) (.tmp 13), none⟩,
  ⟨(some 1), .mv (.tmp 14), none⟩])
 (.seq (.reg [⟨(some 15), .mv (.tmp 1), none⟩,
  ⟨(some 16), .bin .gtr (.tmp 15) (.const (.int .i64 0)), none⟩])
 (.cond (.tmp 16) (.reg [⟨(some 17), .mv (.tmp 0), none⟩,
  ⟨(some 18), .mv (.tmp 0), none⟩,
  ⟨(some 19), .cpz (.tmp 18), none⟩,
  ⟨(some 20), .slc 1 (.tmp 17) none (some (.tmp 19)), none⟩,
  ⟨(some 21), .mv (.tmp 1), none⟩,
  ⟨(some 22), .apz 3 8 [(.int .i64 0)] (.tmp 20) (.tmp 21), none⟩,
  ⟨(some 23), .mv (.tmp 0), none⟩,
  ⟨(some 24), .len (.tmp 23), none⟩,
  ⟨(some 25), .slc 1 (.tmp 22) none (some (.tmp 24)), none⟩,
  ⟨(some 0), .mv (.tmp 25), none⟩]) (.skip))))
 (.seq (.reg [⟨(some 26), .mv (.tmp 0), none⟩,
  ⟨(some 4), .mv (.tmp 26), none⟩])
 (.ret))))
def r_slices_Grow : List ARes := [.tmp 4]
theorem ok_slices_Grow : FnOk Try.prog 120 27 c_slices_Grow r_slices_Grow := ⟨⟨Try.f120, _, Try.func120, by kernel_rfl, rfl, rfl, by kernel_rfl, by kernel_rfl⟩⟩
def c_impl_liftFrom : ACode := .seq (.reg [⟨(some 2), .box 3 (.tmp 0), none⟩,
  ⟨(some 3), .box 3 (.tmp 1), none⟩,
  ⟨(some 4), .mv (.const .nilFunc), none⟩])
 (.seq (.reg [⟨(some 5), .mkf 139 [] [(.tmp 2), (.tmp 3)], none⟩,
  ⟨(some 4), .mv (.tmp 5), none⟩])
 (.ret))
def r_impl_liftFrom : List ARes := [.tmp 4]
theorem ok_impl_liftFrom : FnOk Try.prog 121 6 c_impl_liftFrom r_impl_liftFrom := ⟨⟨Try.f121, _, Try.func121, by kernel_rfl, rfl, rfl, by kernel_rfl, by kernel_rfl⟩⟩
def c_impl_lotsUpTo : ACode := .seq (.reg [⟨(some 2), .box 3 (.tmp 0), none⟩,
  ⟨(some 3), .box 3 (.tmp 1), none⟩,
  ⟨(some 4), .mv (.const .nilFunc), none⟩])
 (.seq (.reg [⟨(some 5), .mkf 140 [] [(.tmp 2), (.tmp 3)], none⟩,
  ⟨(some 4), .mv (.tmp 5), none⟩])
 (.ret))
def r_impl_lotsUpTo : List ARes := [.tmp 4]
theorem ok_impl_lotsUpTo : FnOk Try.prog 122 6 c_impl_lotsUpTo r_impl_lotsUpTo := ⟨⟨Try.f122, _, Try.func122, by kernel_rfl, rfl, rfl, by kernel_rfl, by kernel_rfl⟩⟩
def c_impl_isCount : ACode := .seq (.reg [⟨(some 4), .mv (.const (.bool false)), none⟩])
 (.seq (.reg [⟨(some 5), .mv (.tmp 0), none⟩,
  ⟨(some 6), .bin .gtr (.tmp 5) (.const (.int .i64 0)), none⟩,
  ⟨(some 7), .mv (.tmp 6), none⟩,
  ⟨(some 8), .mv (.tmp 0), (some (7, true))⟩,
  ⟨(some 9), .mv (.tmp 1), (some (7, true))⟩,
  ⟨(some 10), .call (.func 96) [(.tmp 8), (.tmp 9)], (some (7, true))⟩,
  ⟨(some 11), .pick (.tmp 7) (.tmp 10) (.const (.bool false)), none⟩,
  ⟨(some 4), .mv (.tmp 11), none⟩])
 (.ret))
def r_impl_isCount : List ARes := [.tmp 4]
theorem ok_impl_isCount : FnOk Try.prog 123 12 c_impl_isCount r_impl_isCount := ⟨⟨Try.f123, _, Try.func123, by kernel_rfl, rfl, rfl, by kernel_rfl, by kernel_rfl⟩⟩
def c_spec_l1Most : ACode := .seq (.reg [⟨(some 4), .mv (.const (.int .i64 0)), none⟩])
 (.seq (.seq (.reg [⟨(some 5), .mv (.tmp 0), none⟩,
  ⟨(some 6), .mv (.tmp 1), none⟩,
  ⟨(some 7), .bin .gtr (.tmp 5) (.tmp 6), none⟩])
 (.cond (.tmp 7) (.seq (.reg [⟨(some 8), .mv (.tmp 0), none⟩,
  ⟨(some 4), .mv (.tmp 8), none⟩])
 (.ret)) (.skip)))
 (.seq (.reg [⟨(some 9), .mv (.tmp 1), none⟩,
  ⟨(some 4), .mv (.tmp 9), none⟩])
 (.ret)))
def r_spec_l1Most : List ARes := [.tmp 4]
theorem ok_spec_l1Most : FnOk Try.prog 124 10 c_spec_l1Most r_spec_l1Most := ⟨⟨Try.f124, _, Try.func124, by kernel_rfl, rfl, rfl, by kernel_rfl, by kernel_rfl⟩⟩
def c_slices_Clone : ACode := .seq (.reg [⟨(some 2), .mv (.const (.slice none 0 0)), none⟩])
 (.seq (.seq (.reg [⟨(some 3), .mv (.tmp 0), none⟩,
  ⟨(some 4), .sln false (.tmp 3), none⟩])
 (.cond (.tmp 4) (.seq (.reg [⟨(some 2), .mv (.const (.slice none 0 0)), none⟩])
 (.ret)) (.skip)))
 (.seq (.reg [⟨(some 5), .bsl 3 1 0 [] [], none⟩,
  ⟨(some 6), .mv (.tmp 0), none⟩,
  ⟨(some 7), .app 3 1 8 (.tmp 5) (.tmp 6), none⟩,
  ⟨(some 2), .mv (.tmp 7), none⟩])
 (.ret)))
def r_slices_Clone : List ARes := [.tmp 2]
theorem ok_slices_Clone : FnOk Try.prog 125 8 c_slices_Clone r_slices_Clone := ⟨⟨Try.f125, _, Try.func125, by kernel_rfl, rfl, rfl, by kernel_rfl, by kernel_rfl⟩⟩
def c_impl_courseOf_flowDay : ACode := .seq (.reg [⟨(some 3), .box 98 (.tmp 0), none⟩,
  ⟨(some 6), .mv (.const (.slice none 0 0)), none⟩,
  ⟨(some 7), .mv (.const (.bool false)), none⟩])
 (.seq (.reg [⟨(some 12), .ld (some 3) (.tmp 3), none⟩,
  ⟨(some 13), .bsl 98 3 1 [(.int .i64 0), (.int .i64 0), (.slice none 0 0)] [(0, 3, (.tmp 12))], none⟩,
  ⟨(some 8), .mv (.tmp 13), none⟩])
 (.seq (.seq (.reg [⟨(some 14), .mv (.tmp 1), none⟩,
  ⟨(some 15), .mv (.const (.int .i64 0)), none⟩])
 (.block 0 (.loop (.seq (.reg [⟨(some 16), .bin .lss (.tmp 15) (.tmp 14), none⟩])
 (.seq (.cond (.tmp 16) (.skip) (.exit 0))
 (.seq (.block 1 (.seq (.reg [⟨(some 17), .mv (.tmp 15), none⟩,
  ⟨(some 9), .mv (.tmp 17), none⟩])
 (.seq (.reg [⟨(some 19), .mv (.tmp 2), none⟩,
  ⟨(some 20), .mv (.tmp 8), none⟩,
  ⟨(some 21), .mv (.tmp 9), none⟩,
  ⟨(some 22), .iad 3 (.tmp 20) (.tmp 21), none⟩,
  ⟨(some 23), .ld (some 3) (.tmp 22), none⟩,
  ⟨(some 24), .mv (.tmp 9), none⟩,
  ⟨(some 25), .call (.tmp 19) [(.tmp 23), (.tmp 24)], none⟩,
  ⟨(some 18), .mv (.tmp 25), none⟩,
  ⟨(some 26), .ext 0 (.tmp 18), none⟩,
  ⟨(some 27), .ext 1 (.tmp 18), none⟩,
  ⟨(some 10), .alc 98 [(.int .i64 0), (.int .i64 0), (.slice none 0 0)], none⟩,
  ⟨none, .st 3 (.tmp 10) (.tmp 26), none⟩,
  ⟨(some 11), .mv (.tmp 27), none⟩])
 (.seq (.seq (.reg [⟨(some 28), .mv (.tmp 11), none⟩,
  ⟨(some 29), .un .not (.tmp 28), none⟩])
 (.cond (.tmp 29) (.seq (.reg [⟨(some 30), .bsl 98 3 0 [] [], none⟩,
  ⟨(some 6), .mv (.tmp 30), none⟩,
  ⟨(some 7), .mv (.const (.bool false)), none⟩])
 (.ret)) (.skip)))
 (.reg [⟨(some 31), .mv (.tmp 8), none⟩,
  ⟨(some 32), .ld (some 3) (.tmp 10), none⟩,
  ⟨(some 33), .bsl 98 3 1 [(.int .i64 0), (.int .i64 0), (.slice none 0 0)] [(0, 3, (.tmp 32))], none⟩,
  ⟨(some 34), .app 98 3 40 (.tmp 31) (.tmp 33), none⟩,
  ⟨(some 8), .mv (.tmp 34), none⟩])))))
 (.reg [⟨(some 35), .bin .add (.tmp 15) (.const (.int .i64 1)), none⟩,
  ⟨(some 15), .mv (.tmp 35), none⟩])))))))
 (.seq (.reg [⟨(some 36), .mv (.tmp 8), none⟩,
  ⟨(some 6), .mv (.tmp 36), none⟩,
  ⟨(some 7), .mv (.const (.bool true)), none⟩])
 (.ret))))
def r_impl_courseOf_flowDay : List ARes := [.tmp 6, .tmp 7]
theorem ok_impl_courseOf_flowDay : FnOk Try.prog 126 37 c_impl_courseOf_flowDay r_impl_courseOf_flowDay := ⟨⟨Try.f126, _, Try.func126, by kernel_rfl, rfl, rfl, by kernel_rfl, by kernel_rfl⟩⟩
def c_impl_daysOf_1 : ACode := .seq (.reg [⟨(some 4), .box 98 (.tmp 0), none⟩,
  ⟨(some 6), .alc 98 [(.int .i64 0), (.int .i64 0), (.slice none 0 0)], none⟩,
  ⟨(some 7), .mv (.const (.bool false)), none⟩])
 (.seq (.reg [⟨(some 13), .ld none (.tmp 2), none⟩,
  ⟨(some 14), .fad 1 (.tmp 4), none⟩,
  ⟨(some 15), .ld (some 2) (.tmp 14), none⟩,
  ⟨(some 16), .mv (.tmp 1), none⟩,
  ⟨(some 17), .call (.tmp 13) [(.tmp 15), (.tmp 16)], none⟩,
  ⟨(some 12), .mv (.tmp 17), none⟩,
  ⟨(some 18), .ext 0 (.tmp 12), none⟩,
  ⟨(some 19), .ext 1 (.tmp 12), none⟩,
  ⟨(some 8), .mv (.tmp 18), none⟩,
  ⟨(some 9), .mv (.tmp 19), none⟩])
 (.seq (.seq (.reg [⟨(some 21), .fad 1 (.tmp 4), none⟩]) (.seq (.reg [⟨(some 22), .ld (some 2) (.tmp 21), none⟩]) (.seq (.reg [⟨(some 23), .mv (.tmp 8), none⟩]) (.seq (.reg [⟨(some 24), .ld none (.tmp 3), none⟩]) (.seq (.reg [⟨(some 25), .mv (.tmp 1), none⟩]) (.seq (.reg [⟨(some 26), .iad 1 (.tmp 24) (.tmp 25), none⟩]) (.seq (.reg [⟨(some 27), .ld none (.tmp 26), none⟩]) (.both (.seq (.reg [⟨(some 28), .rcall (.func 26) [(.tmp 22), (.tmp 23), (.tmp 27)], none⟩]) (.seq (.reg [⟨(some 20), .mv (.tmp 28), none⟩]) (.seq (.reg [⟨(some 29), .ext 0 (.tmp 20), none⟩]) (.seq (.reg [⟨(some 30), .ext 1 (.tmp 20), none⟩]) (.seq (.reg [⟨(some 10), .alc 27 [(.int .i64 0), (.slice none 0 0)], none⟩]) (.seq (.reg [⟨none, .st 2 (.tmp 10) (.tmp 29), none⟩]) (.seq (.reg [⟨(some 11), .mv (.tmp 30), none⟩]) (.skip)))))))) (.seq (.reg [⟨(some 10), .alc 27 [(.int .i64 0), (.slice none 0 0)], none⟩]) (.seq (.reg [⟨(some 28), .rcall (.func 26) [(.tmp 22), (.tmp 23), (.tmp 27)], none⟩]) (.seq (.reg [⟨(some 20), .mv (.tmp 28), none⟩]) (.seq (.reg [⟨(some 29), .ext 0 (.tmp 20), none⟩]) (.seq (.reg [⟨(some 30), .ext 1 (.tmp 20), none⟩]) (.seq (.reg [⟨none, .st 2 (.tmp 10) (.tmp 29), none⟩]) (.seq (.reg [⟨(some 11), .mv (.tmp 30), none⟩]) (.skip))))))))))))))))
 (.seq (.reg [⟨(some 31), .mv (.tmp 8), none⟩,
  ⟨(some 32), .ld (some 2) (.tmp 10), none⟩,
  ⟨(some 33), .bld [(.int .i64 0), (.int .i64 0), (.slice none 0 0)] [(0, 1, (.tmp 31)), (1, 2, (.tmp 32))], none⟩,
  ⟨(some 34), .mv (.tmp 9), none⟩,
  ⟨(some 35), .mv (.tmp 34), none⟩,
  ⟨(some 36), .mv (.tmp 11), (some (35, true))⟩,
  ⟨(some 37), .pick (.tmp 35) (.tmp 36) (.const (.bool false)), none⟩,
  ⟨none, .st 3 (.tmp 6) (.tmp 33), none⟩,
  ⟨(some 7), .mv (.tmp 37), none⟩])
 (.ret))))
def r_impl_daysOf_1 : List ARes := [.cell 6 (some 3), .tmp 7]
theorem ok_impl_daysOf_1 : FnOk Try.prog 127 38 c_impl_daysOf_1 r_impl_daysOf_1 := ⟨⟨Try.f127, _, Try.func127, by kernel_rfl, rfl, rfl, by kernel_rfl, by kernel_rfl⟩⟩
def c_spec_l1Least : ACode := .seq (.reg [⟨(some 4), .mv (.const (.int .i64 0)), none⟩])
 (.seq (.seq (.reg [⟨(some 5), .mv (.tmp 0), none⟩,
  ⟨(some 6), .mv (.tmp 1), none⟩,
  ⟨(some 7), .bin .lss (.tmp 5) (.tmp 6), none⟩])
 (.cond (.tmp 7) (.seq (.reg [⟨(some 8), .mv (.tmp 0), none⟩,
  ⟨(some 4), .mv (.tmp 8), none⟩])
 (.ret)) (.skip)))
 (.seq (.reg [⟨(some 9), .mv (.tmp 1), none⟩,
  ⟨(some 4), .mv (.tmp 9), none⟩])
 (.ret)))
def r_spec_l1Least : List ARes := [.tmp 4]
theorem ok_spec_l1Least : FnOk Try.prog 128 10 c_spec_l1Least r_spec_l1Least := ⟨⟨Try.f128, _, Try.func128, by kernel_rfl, rfl, rfl, by kernel_rfl, by kernel_rfl⟩⟩
def c_impl_stockCost_1 : ACode := .seq (.reg [⟨(some 4), .mv (.const (.int .i64 0)), none⟩])
 (.seq (.reg [⟨(some 5), .ld none (.tmp 1), none⟩,
  ⟨(some 6), .mv (.tmp 0), none⟩,
  ⟨(some 7), .mmx true (.const (.int .i64 0)) (.tmp 6), none⟩,
  ⟨(some 8), .bin .mul (.tmp 5) (.tmp 7), none⟩,
  ⟨(some 9), .ld none (.tmp 2), none⟩,
  ⟨(some 10), .mv (.tmp 0), none⟩,
  ⟨(some 11), .un .neg (.tmp 10), none⟩,
  ⟨(some 12), .mmx true (.const (.int .i64 0)) (.tmp 11), none⟩,
  ⟨(some 13), .bin .mul (.tmp 9) (.tmp 12), none⟩,
  ⟨(some 14), .bin .add (.tmp 8) (.tmp 13), none⟩,
  ⟨(some 4), .mv (.tmp 14), none⟩])
 (.ret))
def r_impl_stockCost_1 : List ARes := [.tmp 4]
theorem ok_impl_stockCost_1 : FnOk Try.prog 129 15 c_impl_stockCost_1 r_impl_stockCost_1 := ⟨⟨Try.f129, _, Try.func129, by kernel_rfl, rfl, rfl, by kernel_rfl, by kernel_rfl⟩⟩
def c_impl_areParcels_1 : ACode := .seq (.reg [⟨(some 2), .box 113 (.tmp 0), none⟩,
  ⟨(some 3), .box 113 (.tmp 1), none⟩,
  ⟨(some 4), .mv (.const (.int .i64 0)), none⟩])
 (.seq (.reg [⟨(some 5), .fad 0 (.tmp 2), none⟩,
  ⟨(some 6), .ld none (.tmp 5), none⟩,
  ⟨(some 7), .fad 0 (.tmp 3), none⟩,
  ⟨(some 8), .ld none (.tmp 7), none⟩,
  ⟨(some 9), .bin .sub (.tmp 6) (.tmp 8), none⟩,
  ⟨(some 4), .mv (.tmp 9), none⟩])
 (.ret))
def r_impl_areParcels_1 : List ARes := [.tmp 4]
theorem ok_impl_areParcels_1 : FnOk Try.prog 130 10 c_impl_areParcels_1 r_impl_areParcels_1 := ⟨⟨Try.f130, _, Try.func130, by kernel_rfl, rfl, rfl, by kernel_rfl, by kernel_rfl⟩⟩
def c_impl_areAtMost_Parcel : ACode := .seq (.reg [⟨(some 5), .box 119 (.tmp 2), none⟩,
  ⟨(some 6), .mv (.const (.bool false)), none⟩])
 (.seq (.reg [⟨(some 8), .mkf 141 [] [(.tmp 5)], none⟩,
  ⟨(some 7), .mv (.tmp 8), none⟩])
 (.seq (.reg [⟨(some 9), .mv (.tmp 1), none⟩,
  ⟨(some 10), .len (.tmp 9), none⟩,
  ⟨(some 11), .mv (.tmp 0), none⟩,
  ⟨(some 12), .bin .leq (.tmp 10) (.tmp 11), none⟩,
  ⟨(some 13), .mv (.tmp 12), none⟩,
  ⟨(some 14), .mv (.tmp 1), (some (13, true))⟩,
  ⟨(some 15), .mv (.tmp 7), (some (13, true))⟩,
  ⟨(some 16), .call (.func 110) [(.tmp 14), (.tmp 15)], (some (13, true))⟩,
  ⟨(some 17), .un .not (.tmp 16), (some (13, true))⟩,
  ⟨(some 18), .pick (.tmp 13) (.tmp 17) (.const (.bool false)), none⟩,
  ⟨(some 6), .mv (.tmp 18), none⟩])
 (.ret)))
def r_impl_areAtMost_Parcel : List ARes := [.tmp 6]
theorem ok_impl_areAtMost_Parcel : FnOk Try.prog 131 19 c_impl_areAtMost_Parcel r_impl_areAtMost_Parcel := ⟨⟨Try.f131, _, Try.func131, by kernel_rfl, rfl, rfl, by kernel_rfl, by kernel_rfl⟩⟩
def c_impl_isParcel : ACode := .seq (.reg [⟨(some 1), .box 113 (.tmp 0), none⟩,
  ⟨(some 2), .mv (.const (.bool false)), none⟩])
 (.seq (.reg [⟨(some 3), .fad 0 (.tmp 1), none⟩,
  ⟨(some 4), .ld none (.tmp 3), none⟩,
  ⟨(some 5), .call (.func 123) [(.tmp 4), (.const (.int .i64 20))], none⟩,
  ⟨(some 6), .mv (.tmp 5), none⟩,
  ⟨(some 7), .fad 1 (.tmp 1), (some (6, true))⟩,
  ⟨(some 8), .ld none (.tmp 7), (some (6, true))⟩,
  ⟨(some 9), .call (.func 123) [(.tmp 8), (.const (.int .i64 40))], (some (6, true))⟩,
  ⟨(some 10), .pick (.tmp 6) (.tmp 9) (.const (.bool false)), none⟩,
  ⟨(some 11), .mv (.tmp 10), none⟩,
  ⟨(some 12), .fad 2 (.tmp 1), (some (11, true))⟩,
  ⟨(some 13), .ld none (.tmp 12), (some (11, true))⟩,
  ⟨(some 14), .call (.func 96) [(.tmp 13), (.const (.int .i64 4))], (some (11, true))⟩,
  ⟨(some 15), .pick (.tmp 11) (.tmp 14) (.const (.bool false)), none⟩,
  ⟨(some 2), .mv (.tmp 15), none⟩])
 (.ret))
def r_impl_isParcel : List ARes := [.tmp 2]
theorem ok_impl_isParcel : FnOk Try.prog 132 16 c_impl_isParcel r_impl_isParcel := ⟨⟨Try.f132, _, Try.func132, by kernel_rfl, rfl, rfl, by kernel_rfl, by kernel_rfl⟩⟩
def c_slices_IsSortedFunc_Parcel : ACode := .seq (.reg [⟨(some 4), .mv (.const (.bool false)), none⟩])
 (.seq (.seq (.reg [⟨(some 6), .mv (.tmp 0), none⟩,
  ⟨(some 7), .len (.tmp 6), none⟩,
  ⟨(some 8), .bin .sub (.tmp 7) (.const (.int .i64 1)), none⟩,
  ⟨(some 5), .mv (.tmp 8), none⟩])
 (.block 0 (.loop (.seq (.seq (.reg [⟨(some 9), .mv (.tmp 5), none⟩,
  ⟨(some 10), .bin .gtr (.tmp 9) (.const (.int .i64 0)), none⟩])
 (.cond (.tmp 10) (.skip) (.exit 0)))
 (.seq (.block 1 (.seq (.reg [⟨(some 13), .mv (.tmp 1), none⟩,
  ⟨(some 14), .mv (.tmp 0), none⟩,
  ⟨(some 15), .mv (.tmp 5), none⟩,
  ⟨(some 16), .iad 3 (.tmp 14) (.tmp 15), none⟩,
  ⟨(some 17), .ld (some 3) (.tmp 16), none⟩,
  ⟨(some 18), .mv (.tmp 0), none⟩,
  ⟨(some 19), .mv (.tmp 5), none⟩,
  ⟨(some 20), .bin .sub (.tmp 19) (.const (.int .i64 1)), none⟩,
  ⟨(some 21), .iad 3 (.tmp 18) (.tmp 20), none⟩,
  ⟨(some 22), .ld (some 3) (.tmp 21), none⟩,
  ⟨(some 23), .rcall (.tmp 13) [(.tmp 17), (.tmp 22)], none⟩,
  ⟨(some 24), .bin .lss (.tmp 23) (.const (.int .i64 0)), none⟩])
 (.cond (.tmp 24) (.seq (.reg [⟨(some 4), .mv (.const (.bool false)), none⟩])
 (.ret)) (.skip))))
 (.reg [⟨(some 11), .mv (.tmp 5), none⟩,
  ⟨(some 12), .bin .sub (.tmp 11) (.const (.int .i64 1)), none⟩,
  ⟨(some 5), .mv (.tmp 12), none⟩]))))))
 (.seq (.reg [⟨(some 4), .mv (.const (.bool true)), none⟩])
 (.ret)))
def r_slices_IsSortedFunc_Parcel : List ARes := [.tmp 4]
theorem ok_slices_IsSortedFunc_Parcel : FnOk Try.prog 133 25 c_slices_IsSortedFunc_Parcel r_slices_IsSortedFunc_Parcel := ⟨⟨Try.f133, _, Try.func133, by kernel_rfl, rfl, rfl, by kernel_rfl, by kernel_rfl⟩⟩
def c_slices_IndexFunc_Parcel : ACode := .seq (.reg [⟨(some 4), .mv (.const (.int .i64 0)), none⟩])
 (.seq (.seq (.reg [⟨(some 6), .mv (.tmp 0), none⟩,
  ⟨(some 7), .len (.tmp 6), none⟩,
  ⟨(some 8), .mv (.const (.int .i64 0)), none⟩])
 (.block 0 (.loop (.seq (.reg [⟨(some 9), .bin .lss (.tmp 8) (.tmp 7), none⟩])
 (.seq (.cond (.tmp 9) (.skip) (.exit 0))
 (.seq (.block 1 (.seq (.reg [⟨(some 10), .mv (.tmp 8), none⟩,
  ⟨(some 5), .mv (.tmp 10), none⟩])
 (.seq (.reg [⟨(some 11), .mv (.tmp 1), none⟩,
  ⟨(some 12), .mv (.tmp 0), none⟩,
  ⟨(some 13), .mv (.tmp 5), none⟩,
  ⟨(some 14), .iad 3 (.tmp 12) (.tmp 13), none⟩,
  ⟨(some 15), .ld (some 3) (.tmp 14), none⟩,
  ⟨(some 16), .call (.tmp 11) [(.tmp 15)], none⟩])
 (.cond (.tmp 16) (.seq (.reg [⟨(some 17), .mv (.tmp 5), none⟩,
  ⟨(some 4), .mv (.tmp 17), none⟩])
 (.ret)) (.skip)))))
 (.reg [⟨(some 18), .bin .add (.tmp 8) (.const (.int .i64 1)), none⟩,
  ⟨(some 8), .mv (.tmp 18), none⟩])))))))
 (.seq (.reg [⟨(some 4), .mv (.const (.int .i64 (-1))), none⟩])
 (.ret)))
def r_slices_IndexFunc_Parcel : List ARes := [.tmp 4]
theorem ok_slices_IndexFunc_Parcel : FnOk Try.prog 134 19 c_slices_IndexFunc_Parcel r_slices_IndexFunc_Parcel := ⟨⟨Try.f134, _, Try.func134, by kernel_rfl, rfl, rfl, by kernel_rfl, by kernel_rfl⟩⟩
def c_slices_pdqsortOrdered : ACode := .seq (.reg [⟨(some 8), .mv (.const (.bool true)), none⟩])
 (.seq (.reg [⟨(some 9), .mv (.const (.bool true)), none⟩])
 (.block 0 (.loop (.block 1 (.seq (.reg [⟨(some 19), .mv (.tmp 2), none⟩,
  ⟨(some 20), .mv (.tmp 1), none⟩,
  ⟨(some 21), .bin .sub (.tmp 19) (.tmp 20), none⟩,
  ⟨(some 10), .mv (.tmp 21), none⟩])
 (.seq (.seq (.reg [⟨(some 22), .mv (.tmp 10), none⟩,
  ⟨(some 23), .bin .leq (.tmp 22) (.const (.int .i64 12)), none⟩])
 (.cond (.tmp 23) (.seq (.reg [⟨(some 24), .mv (.tmp 0), none⟩,
  ⟨(some 25), .mv (.tmp 1), none⟩,
  ⟨(some 26), .mv (.tmp 2), none⟩,
  ⟨(some 27), .call (.func 142) [(.tmp 24), (.tmp 25), (.tmp 26)], none⟩])
 (.ret)) (.skip)))
 (.seq (.seq (.reg [⟨(some 28), .mv (.tmp 3), none⟩,
  ⟨(some 29), .bin .eql (.tmp 28) (.const (.int .i64 0)), none⟩])
 (.cond (.tmp 29) (.seq (.reg [⟨(some 30), .mv (.tmp 0), none⟩,
  ⟨(some 31), .mv (.tmp 1), none⟩,
  ⟨(some 32), .mv (.tmp 2), none⟩,
  ⟨(some 33), .call (.func 143) [(.tmp 30), (.tmp 31), (.tmp 32)], none⟩])
 (.ret)) (.skip)))
 (.seq (.seq (.reg [⟨(some 34), .mv (.tmp 8), none⟩,
  ⟨(some 35), .un .not (.tmp 34), none⟩])
 (.cond (.tmp 35) (.seq (.reg [⟨(some 36), .mv (.tmp 0), none⟩,
  ⟨(some 37), .mv (.tmp 1), none⟩,
  ⟨(some 38), .mv (.tmp 2), none⟩,
  ⟨(some 39), .call (.func 144) [(.tmp 36), (.tmp 37), (.tmp 38)], none⟩])
 (.reg [⟨(some 40), .mv (.tmp 3), none⟩,
  ⟨(some 41), .bin .sub (.tmp 40) (.const (.int .i64 1)), none⟩,
  ⟨(some 3), .mv (.tmp 41), none⟩])) (.skip)))
 (.seq (.reg [⟨(some 43), .mv (.tmp 0), none⟩,
  ⟨(some 44), .mv (.tmp 1), none⟩,
  ⟨(some 45), .mv (.tmp 2), none⟩,
  ⟨(some 46), .call (.func 145) [(.tmp 43), (.tmp 44), (.tmp 45)], none⟩,
  ⟨(some 42), .mv (.tmp 46), none⟩,
  ⟨(some 47), .ext 0 (.tmp 42), none⟩,
  ⟨(some 48), .ext 1 (.tmp 42), none⟩,
  ⟨(some 11), .mv (.tmp 47), none⟩,
  ⟨(some 12), .mv (.tmp 48), none⟩])
 (.seq (.seq (.reg [⟨(some 49), .mv (.tmp 12), none⟩,
  ⟨(some 50), .bin .eql (.tmp 49) (.const (.int .i64 2)), none⟩])
 (.cond (.tmp 50) (.seq (.reg [⟨(some 51), .mv (.tmp 0), none⟩,
  ⟨(some 52), .mv (.tmp 1), none⟩,
  ⟨(some 53), .mv (.tmp 2), none⟩,
  ⟨(some 54), .call (.func 146) [(.tmp 51), (.tmp 52), (.tmp 53)], none⟩])
 (.seq (.reg [⟨(some 55), .mv (.tmp 2), none⟩,
  ⟨(some 56), .bin .sub (.tmp 55) (.const (.int .i64 1)), none⟩,
  ⟨(some 57), .mv (.tmp 11), none⟩,
  ⟨(some 58), .mv (.tmp 1), none⟩,
  ⟨(some 59), .bin .sub (.tmp 57) (.tmp 58), none⟩,
  ⟨(some 60), .bin .sub (.tmp 56) (.tmp 59), none⟩,
  ⟨(some 11), .mv (.tmp 60), none⟩])
 (.reg [⟨(some 12), .mv (.const (.int .i64 1)), none⟩]))) (.skip)))
 (.seq (.seq (.reg [⟨(some 61), .mv (.tmp 8), none⟩,
  ⟨(some 62), .mv (.tmp 61), none⟩,
  ⟨(some 63), .mv (.tmp 9), (some (62, true))⟩,
  ⟨(some 64), .pick (.tmp 62) (.tmp 63) (.const (.bool false)), none⟩,
  ⟨(some 65), .mv (.tmp 64), none⟩,
  ⟨(some 66), .mv (.tmp 12), (some (65, true))⟩,
  ⟨(some 67), .bin .eql (.tmp 66) (.const (.int .i64 1)), (some (65, true))⟩,
  ⟨(some 68), .pick (.tmp 65) (.tmp 67) (.const (.bool false)), none⟩])
 (.cond (.tmp 68) (.seq (.reg [⟨(some 69), .mv (.tmp 0), none⟩,
  ⟨(some 70), .mv (.tmp 1), none⟩,
  ⟨(some 71), .mv (.tmp 2), none⟩,
  ⟨(some 72), .call (.func 147) [(.tmp 69), (.tmp 70), (.tmp 71)], none⟩])
 (.cond (.tmp 72) (.ret) (.skip))) (.skip)))
 (.seq (.seq (.reg [⟨(some 73), .mv (.tmp 1), none⟩,
  ⟨(some 74), .bin .gtr (.tmp 73) (.const (.int .i64 0)), none⟩,
  ⟨(some 75), .mv (.tmp 74), none⟩,
  ⟨(some 76), .mv (.tmp 0), (some (75, true))⟩,
  ⟨(some 77), .mv (.tmp 1), (some (75, true))⟩,
  ⟨(some 78), .bin .sub (.tmp 77) (.const (.int .i64 1)), (some (75, true))⟩,
  ⟨(some 79), .iad 1 (.tmp 76) (.tmp 78), (some (75, true))⟩,
  ⟨(some 80), .ld none (.tmp 79), (some (75, true))⟩,
  ⟨(some 81), .mv (.tmp 0), (some (75, true))⟩,
  ⟨(some 82), .mv (.tmp 11), (some (75, true))⟩,
  ⟨(some 83), .iad 1 (.tmp 81) (.tmp 82), (some (75, true))⟩,
  ⟨(some 84), .ld none (.tmp 83), (some (75, true))⟩,
  ⟨(some 85), .rcall (.func 148) [(.tmp 80), (.tmp 84)], (some (75, true))⟩,
  ⟨(some 86), .un .not (.tmp 85), (some (75, true))⟩,
  ⟨(some 87), .pick (.tmp 75) (.tmp 86) (.const (.bool false)), none⟩])
 (.cond (.tmp 87) (.seq (.reg [⟨(some 88), .mv (.tmp 0), none⟩,
  ⟨(some 89), .mv (.tmp 1), none⟩,
  ⟨(some 90), .mv (.tmp 2), none⟩,
  ⟨(some 91), .mv (.tmp 11), none⟩,
  ⟨(some 92), .call (.func 149) [(.tmp 88), (.tmp 89), (.tmp 90), (.tmp 91)], none⟩,
  ⟨(some 13), .mv (.tmp 92), none⟩])
 (.seq (.reg [⟨(some 93), .mv (.tmp 13), none⟩,
  ⟨(some 1), .mv (.tmp 93), none⟩])
 (.exit 1))) (.skip)))
 (.seq (.reg [⟨(some 95), .mv (.tmp 0), none⟩,
  ⟨(some 96), .mv (.tmp 1), none⟩,
  ⟨(some 97), .mv (.tmp 2), none⟩,
  ⟨(some 98), .mv (.tmp 11), none⟩,
  ⟨(some 99), .call (.func 150) [(.tmp 95), (.tmp 96), (.tmp 97), (.tmp 98)], none⟩,
  ⟨(some 94), .mv (.tmp 99), none⟩,
  ⟨(some 100), .ext 0 (.tmp 94), none⟩,
  ⟨(some 101), .ext 1 (.tmp 94), none⟩,
  ⟨(some 14), .mv (.tmp 100), none⟩,
  ⟨(some 15), .mv (.tmp 101), none⟩])
 (.seq (.reg [⟨(some 102), .mv (.tmp 15), none⟩,
  ⟨(some 9), .mv (.tmp 102), none⟩])
 (.seq (.reg [⟨(some 103), .mv (.tmp 14), none⟩,
  ⟨(some 104), .mv (.tmp 1), none⟩,
  ⟨(some 105), .bin .sub (.tmp 103) (.tmp 104), none⟩,
  ⟨(some 106), .mv (.tmp 2), none⟩,
  ⟨(some 107), .mv (.tmp 14), none⟩,
  ⟨(some 108), .bin .sub (.tmp 106) (.tmp 107), none⟩,
  ⟨(some 16), .mv (.tmp 105), none⟩,
  ⟨(some 17), .mv (.tmp 108), none⟩])
 (.seq (.reg [⟨(some 109), .mv (.tmp 10), none⟩,
  ⟨(some 110), .bin .quo (.tmp 109) (.const (.int .i64 8)), none⟩,
  ⟨(some 18), .mv (.tmp 110), none⟩])
 (.seq (.reg [⟨(some 111), .mv (.tmp 16), none⟩,
  ⟨(some 112), .mv (.tmp 17), none⟩,
  ⟨(some 113), .bin .lss (.tmp 111) (.tmp 112), none⟩])
 (.cond (.tmp 113) (.seq (.reg [⟨(some 114), .mv (.tmp 16), none⟩,
  ⟨(some 115), .mv (.tmp 18), none⟩,
  ⟨(some 116), .bin .geq (.tmp 114) (.tmp 115), none⟩,
  ⟨(some 8), .mv (.tmp 116), none⟩])
 (.seq (.reg [⟨(some 117), .mv (.tmp 0), none⟩,
  ⟨(some 118), .mv (.tmp 1), none⟩,
  ⟨(some 119), .mv (.tmp 14), none⟩,
  ⟨(some 120), .mv (.tmp 3), none⟩,
  ⟨(some 121), .call (.func 135) [(.tmp 117), (.tmp 118), (.tmp 119), (.tmp 120)], none⟩])
 (.reg [⟨(some 122), .mv (.tmp 14), none⟩,
  ⟨(some 123), .bin .add (.tmp 122) (.const (.int .i64 1)), none⟩,
  ⟨(some 1), .mv (.tmp 123), none⟩]))) (.seq (.reg [⟨(some 124), .mv (.tmp 17), none⟩,
  ⟨(some 125), .mv (.tmp 18), none⟩,
  ⟨(some 126), .bin .geq (.tmp 124) (.tmp 125), none⟩,
  ⟨(some 8), .mv (.tmp 126), none⟩])
 (.seq (.reg [⟨(some 127), .mv (.tmp 0), none⟩,
  ⟨(some 128), .mv (.tmp 14), none⟩,
  ⟨(some 129), .bin .add (.tmp 128) (.const (.int .i64 1)), none⟩,
  ⟨(some 130), .mv (.tmp 2), none⟩,
  ⟨(some 131), .mv (.tmp 3), none⟩,
  ⟨(some 132), .call (.func 135) [(.tmp 127), (.tmp 129), (.tmp 130), (.tmp 131)], none⟩])
 (.reg [⟨(some 133), .mv (.tmp 14), none⟩,
  ⟨(some 2), .mv (.tmp 133), none⟩])))))))))))))))))))))
def r_slices_pdqsortOrdered : List ARes := []
theorem ok_slices_pdqsortOrdered : FnOk Try.prog 135 134 c_slices_pdqsortOrdered r_slices_pdqsortOrdered := ⟨⟨Try.f135, _, Try.func135, by kernel_rfl, rfl, rfl, by kernel_rfl, by kernel_rfl⟩⟩
def c_math_bits_Len : ACode := .seq (.reg [⟨(some 2), .mv (.const (.int .i64 0)), none⟩])
 (.seq (.cond (.const (.bool false)) (.seq (.reg [⟨(some 3), .mv (.tmp 0), none⟩,
  ⟨(some 4), .conv .u32 (.tmp 3), none⟩,
  ⟨(some 5), .call (.func 151) [(.tmp 4)], none⟩,
  ⟨(some 2), .mv (.tmp 5), none⟩])
 (.ret)) (.skip))
 (.seq (.reg [⟨(some 6), .mv (.tmp 0), none⟩,
  ⟨(some 7), .call (.func 152) [(.tmp 6)], none⟩,
  ⟨(some 2), .mv (.tmp 7), none⟩])
 (.ret)))
def r_math_bits_Len : List ARes := [.tmp 2]
theorem ok_math_bits_Len : FnOk Try.prog 136 8 c_math_bits_Len r_math_bits_Len := ⟨⟨Try.f136, _, Try.func136, by kernel_rfl, rfl, rfl, by kernel_rfl, by kernel_rfl⟩⟩
def c_spec_l2Row : ACode := .seq (.reg [⟨(some 6), .mv (.const (.bool false)), none⟩])
 (.seq (.seq (.reg [⟨(some 7), .mv (.const (.int .i64 0)), none⟩])
 (.block 0 (.loop (.seq (.seq (.reg [⟨(some 8), .mv (.tmp 7), none⟩,
  ⟨(some 9), .mv (.tmp 0), none⟩,
  ⟨(some 10), .len (.tmp 9), none⟩,
  ⟨(some 11), .bin .lss (.tmp 8) (.tmp 10), none⟩])
 (.cond (.tmp 11) (.skip) (.exit 0)))
 (.seq (.block 1 (.seq (.reg [⟨(some 14), .mv (.tmp 0), none⟩,
  ⟨(some 15), .mv (.tmp 7), none⟩,
  ⟨(some 16), .iad 1 (.tmp 14) (.tmp 15), none⟩,
  ⟨(some 17), .ld none (.tmp 16), none⟩,
  ⟨(some 18), .mv (.tmp 2), none⟩,
  ⟨(some 19), .call (.func 73) [(.tmp 17), (.const (.int .i64 0)), (.tmp 18)], none⟩,
  ⟨(some 20), .un .not (.tmp 19), none⟩])
 (.cond (.tmp 20) (.seq (.reg [⟨(some 6), .mv (.const (.bool false)), none⟩])
 (.ret)) (.skip))))
 (.reg [⟨(some 12), .mv (.tmp 7), none⟩,
  ⟨(some 13), .bin .add (.tmp 12) (.const (.int .i64 1)), none⟩,
  ⟨(some 7), .mv (.tmp 13), none⟩]))))))
 (.seq (.reg [⟨(some 21), .mv (.tmp 0), none⟩,
  ⟨(some 22), .len (.tmp 21), none⟩,
  ⟨(some 23), .mv (.tmp 1), none⟩,
  ⟨(some 24), .bin .eql (.tmp 22) (.tmp 23), none⟩,
  ⟨(some 6), .mv (.tmp 24), none⟩])
 (.ret)))
def r_spec_l2Row : List ARes := [.tmp 6]
theorem ok_spec_l2Row : FnOk Try.prog 137 25 c_spec_l2Row r_spec_l2Row := ⟨⟨Try.f137, _, Try.func137, by kernel_rfl, rfl, rfl, by kernel_rfl, by kernel_rfl⟩⟩
def c_slices_IndexFunc : ACode := .seq (.reg [⟨(some 4), .mv (.const (.int .i64 0)), none⟩])
 (.seq (.seq (.reg [⟨(some 6), .mv (.tmp 0), none⟩,
  ⟨(some 7), .len (.tmp 6), none⟩,
  ⟨(some 8), .mv (.const (.int .i64 0)), none⟩])
 (.block 0 (.loop (.seq (.reg [⟨(some 9), .bin .lss (.tmp 8) (.tmp 7), none⟩])
 (.seq (.cond (.tmp 9) (.skip) (.exit 0))
 (.seq (.block 1 (.seq (.reg [⟨(some 10), .mv (.tmp 8), none⟩,
  ⟨(some 5), .mv (.tmp 10), none⟩])
 (.seq (.reg [⟨(some 11), .mv (.tmp 1), none⟩,
  ⟨(some 12), .mv (.tmp 0), none⟩,
  ⟨(some 13), .mv (.tmp 5), none⟩,
  ⟨(some 14), .iad 1 (.tmp 12) (.tmp 13), none⟩,
  ⟨(some 15), .ld none (.tmp 14), none⟩,
  ⟨(some 16), .call (.tmp 11) [(.tmp 15)], none⟩])
 (.cond (.tmp 16) (.seq (.reg [⟨(some 17), .mv (.tmp 5), none⟩,
  ⟨(some 4), .mv (.tmp 17), none⟩])
 (.ret)) (.skip)))))
 (.reg [⟨(some 18), .bin .add (.tmp 8) (.const (.int .i64 1)), none⟩,
  ⟨(some 8), .mv (.tmp 18), none⟩])))))))
 (.seq (.reg [⟨(some 4), .mv (.const (.int .i64 (-1))), none⟩])
 (.ret)))
def r_slices_IndexFunc : List ARes := [.tmp 4]
theorem ok_slices_IndexFunc : FnOk Try.prog 138 19 c_slices_IndexFunc r_slices_IndexFunc := ⟨⟨Try.f138, _, Try.func138, by kernel_rfl, rfl, rfl, by kernel_rfl, by kernel_rfl⟩⟩
def c_impl_liftFrom_1 : ACode := .seq (.reg [⟨(some 4), .mv (.const (.int .i64 0)), none⟩])
 (.seq (.seq (.reg [⟨(some 5), .mv (.tmp 0), none⟩,
  ⟨(some 6), .ld none (.tmp 1), none⟩,
  ⟨(some 7), .bin .geq (.tmp 5) (.tmp 6), none⟩])
 (.cond (.tmp 7) (.seq (.reg [⟨(some 4), .mv (.const (.int .i64 0)), none⟩])
 (.ret)) (.skip)))
 (.seq (.reg [⟨(some 8), .ld none (.tmp 2), none⟩,
  ⟨(some 9), .mv (.tmp 0), none⟩,
  ⟨(some 10), .bin .sub (.tmp 8) (.tmp 9), none⟩,
  ⟨(some 4), .mv (.tmp 10), none⟩])
 (.ret)))
def r_impl_liftFrom_1 : List ARes := [.tmp 4]
theorem ok_impl_liftFrom_1 : FnOk Try.prog 139 11 c_impl_liftFrom_1 r_impl_liftFrom_1 := ⟨⟨Try.f139, _, Try.func139, by kernel_rfl, rfl, rfl, by kernel_rfl, by kernel_rfl⟩⟩
def c_impl_lotsUpTo_1 : ACode := .seq (.reg [⟨(some 4), .mv (.const (.int .i64 0)), none⟩])
 (.seq (.reg [⟨(some 5), .mv (.const (.int .i64 0)), none⟩])
 (.seq (.block 0 (.loop (.seq (.seq (.reg [⟨(some 6), .mv (.tmp 0), none⟩,
  ⟨(some 7), .mv (.tmp 5), none⟩,
  ⟨(some 8), .bin .add (.tmp 6) (.tmp 7), none⟩,
  ⟨(some 9), .ld none (.tmp 1), none⟩,
  ⟨(some 10), .bin .lss (.tmp 8) (.tmp 9), none⟩])
 (.cond (.tmp 10) (.skip) (.exit 0)))
 (.block 1 (.reg [⟨(some 11), .mv (.tmp 5), none⟩,
  ⟨(some 12), .ld none (.tmp 2), none⟩,
  ⟨(some 13), .bin .add (.tmp 11) (.tmp 12), none⟩,
  ⟨(some 5), .mv (.tmp 13), none⟩])))))
 (.seq (.reg [⟨(some 14), .mv (.tmp 5), none⟩,
  ⟨(some 4), .mv (.tmp 14), none⟩])
 (.ret))))
def r_impl_lotsUpTo_1 : List ARes := [.tmp 4]
theorem ok_impl_lotsUpTo_1 : FnOk Try.prog 140 15 c_impl_lotsUpTo_1 r_impl_lotsUpTo_1 := ⟨⟨Try.f140, _, Try.func140, by kernel_rfl, rfl, rfl, by kernel_rfl, by kernel_rfl⟩⟩
def c_impl_areAtMost_1_Parcel : ACode := .seq (.reg [⟨(some 2), .box 113 (.tmp 0), none⟩,
  ⟨(some 3), .mv (.const (.bool false)), none⟩])
 (.seq (.reg [⟨(some 4), .ld none (.tmp 1), none⟩,
  ⟨(some 5), .ld (some 3) (.tmp 2), none⟩,
  ⟨(some 6), .call (.tmp 4) [(.tmp 5)], none⟩,
  ⟨(some 7), .un .not (.tmp 6), none⟩,
  ⟨(some 3), .mv (.tmp 7), none⟩])
 (.ret))
def r_impl_areAtMost_1_Parcel : List ARes := [.tmp 3]
theorem ok_impl_areAtMost_1_Parcel : FnOk Try.prog 141 8 c_impl_areAtMost_1_Parcel r_impl_areAtMost_1_Parcel := ⟨⟨Try.f141, _, Try.func141, by kernel_rfl, rfl, rfl, by kernel_rfl, by kernel_rfl⟩⟩
def c_slices_insertionSortOrdered : ACode := .seq (.reg [⟨(some 8), .mv (.tmp 1), none⟩,
  ⟨(some 9), .bin .add (.tmp 8) (.const (.int .i64 1)), none⟩,
  ⟨(some 6), .mv (.tmp 9), none⟩])
 (.block 0 (.loop (.seq (.seq (.reg [⟨(some 10), .mv (.tmp 6), none⟩,
  ⟨(some 11), .mv (.tmp 2), none⟩,
  ⟨(some 12), .bin .lss (.tmp 10) (.tmp 11), none⟩])
 (.cond (.tmp 12) (.skip) (.exit 0)))
 (.seq (.block 1 (.seq (.reg [⟨(some 15), .mv (.tmp 6), none⟩,
  ⟨(some 7), .mv (.tmp 15), none⟩])
 (.block 2 (.loop (.seq (.seq (.reg [⟨(some 16), .mv (.tmp 7), none⟩,
  ⟨(some 17), .mv (.tmp 1), none⟩,
  ⟨(some 18), .bin .gtr (.tmp 16) (.tmp 17), none⟩,
  ⟨(some 19), .mv (.tmp 18), none⟩,
  ⟨(some 20), .mv (.tmp 0), (some (19, true))⟩,
  ⟨(some 21), .mv (.tmp 7), (some (19, true))⟩,
  ⟨(some 22), .iad 1 (.tmp 20) (.tmp 21), (some (19, true))⟩,
  ⟨(some 23), .ld none (.tmp 22), (some (19, true))⟩,
  ⟨(some 24), .mv (.tmp 0), (some (19, true))⟩,
  ⟨(some 25), .mv (.tmp 7), (some (19, true))⟩,
  ⟨(some 26), .bin .sub (.tmp 25) (.const (.int .i64 1)), (some (19, true))⟩,
  ⟨(some 27), .iad 1 (.tmp 24) (.tmp 26), (some (19, true))⟩,
  ⟨(some 28), .ld none (.tmp 27), (some (19, true))⟩,
  ⟨(some 29), .rcall (.func 148) [(.tmp 23), (.tmp 28)], (some (19, true))⟩,
  ⟨(some 30), .pick (.tmp 19) (.tmp 29) (.const (.bool false)), none⟩])
 (.cond (.tmp 30) (.skip) (.exit 2)))
 (.seq (.block 3 (.reg [⟨(some 33), .mv (.tmp 0), none⟩,
  ⟨(some 34), .mv (.tmp 7), none⟩,
  ⟨(some 35), .mv (.tmp 0), none⟩,
  ⟨(some 36), .mv (.tmp 7), none⟩,
  ⟨(some 37), .bin .sub (.tmp 36) (.const (.int .i64 1)), none⟩,
  ⟨(some 38), .mv (.tmp 0), none⟩,
  ⟨(some 39), .mv (.tmp 7), none⟩,
  ⟨(some 40), .bin .sub (.tmp 39) (.const (.int .i64 1)), none⟩,
  ⟨(some 41), .iad 1 (.tmp 38) (.tmp 40), none⟩,
  ⟨(some 42), .ld none (.tmp 41), none⟩,
  ⟨(some 43), .mv (.tmp 0), none⟩,
  ⟨(some 44), .mv (.tmp 7), none⟩,
  ⟨(some 45), .iad 1 (.tmp 43) (.tmp 44), none⟩,
  ⟨(some 46), .ld none (.tmp 45), none⟩,
  ⟨(some 47), .iad 1 (.tmp 33) (.tmp 34), none⟩,
  ⟨none, .st 1 (.tmp 47) (.tmp 42), none⟩,
  ⟨(some 48), .iad 1 (.tmp 35) (.tmp 37), none⟩,
  ⟨none, .st 1 (.tmp 48) (.tmp 46), none⟩]))
 (.reg [⟨(some 31), .mv (.tmp 7), none⟩,
  ⟨(some 32), .bin .sub (.tmp 31) (.const (.int .i64 1)), none⟩,
  ⟨(some 7), .mv (.tmp 32), none⟩])))))))
 (.reg [⟨(some 13), .mv (.tmp 6), none⟩,
  ⟨(some 14), .bin .add (.tmp 13) (.const (.int .i64 1)), none⟩,
  ⟨(some 6), .mv (.tmp 14), none⟩])))))
def r_slices_insertionSortOrdered : List ARes := []
theorem ok_slices_insertionSortOrdered : FnOk Try.prog 142 49 c_slices_insertionSortOrdered r_slices_insertionSortOrdered := ⟨⟨Try.f142, _, Try.func142, by kernel_rfl, rfl, rfl, by kernel_rfl, by kernel_rfl⟩⟩
def c_slices_heapSortOrdered : ACode := .seq (.reg [⟨(some 11), .mv (.tmp 1), none⟩,
  ⟨(some 6), .mv (.tmp 11), none⟩])
 (.seq (.reg [⟨(some 7), .mv (.const (.int .i64 0)), none⟩])
 (.seq (.reg [⟨(some 12), .mv (.tmp 2), none⟩,
  ⟨(some 13), .mv (.tmp 1), none⟩,
  ⟨(some 14), .bin .sub (.tmp 12) (.tmp 13), none⟩,
  ⟨(some 8), .mv (.tmp 14), none⟩])
 (.seq (.seq (.reg [⟨(some 15), .mv (.tmp 8), none⟩,
  ⟨(some 16), .bin .sub (.tmp 15) (.const (.int .i64 1)), none⟩,
  ⟨(some 17), .bin .quo (.tmp 16) (.const (.int .i64 2)), none⟩,
  ⟨(some 9), .mv (.tmp 17), none⟩])
 (.block 0 (.loop (.seq (.seq (.reg [⟨(some 18), .mv (.tmp 9), none⟩,
  ⟨(some 19), .bin .geq (.tmp 18) (.const (.int .i64 0)), none⟩])
 (.cond (.tmp 19) (.skip) (.exit 0)))
 (.seq (.block 1 (.reg [⟨(some 22), .mv (.tmp 0), none⟩,
  ⟨(some 23), .mv (.tmp 9), none⟩,
  ⟨(some 24), .mv (.tmp 8), none⟩,
  ⟨(some 25), .mv (.tmp 6), none⟩,
  ⟨(some 26), .call (.func 153) [(.tmp 22), (.tmp 23), (.tmp 24), (.tmp 25)], none⟩]))
 (.reg [⟨(some 20), .mv (.tmp 9), none⟩,
  ⟨(some 21), .bin .sub (.tmp 20) (.const (.int .i64 1)), none⟩,
  ⟨(some 9), .mv (.tmp 21), none⟩]))))))
 (.seq (.reg [⟨(some 27), .mv (.tmp 8), none⟩,
  ⟨(some 28), .bin .sub (.tmp 27) (.const (.int .i64 1)), none⟩,
  ⟨(some 10), .mv (.tmp 28), none⟩])
 (.block 2 (.loop (.seq (.seq (.reg [⟨(some 29), .mv (.tmp 10), none⟩,
  ⟨(some 30), .bin .geq (.tmp 29) (.const (.int .i64 0)), none⟩])
 (.cond (.tmp 30) (.skip) (.exit 2)))
 (.seq (.block 3 (.seq (.reg [⟨(some 33), .mv (.tmp 0), none⟩,
  ⟨(some 34), .mv (.tmp 6), none⟩,
  ⟨(some 35), .mv (.tmp 0), none⟩,
  ⟨(some 36), .mv (.tmp 6), none⟩,
  ⟨(some 37), .mv (.tmp 10), none⟩,
  ⟨(some 38), .bin .add (.tmp 36) (.tmp 37), none⟩,
  ⟨(some 39), .mv (.tmp 0), none⟩,
  ⟨(some 40), .mv (.tmp 6), none⟩,
  ⟨(some 41), .mv (.tmp 10), none⟩,
  ⟨(some 42), .bin .add (.tmp 40) (.tmp 41), none⟩,
  ⟨(some 43), .iad 1 (.tmp 39) (.tmp 42), none⟩,
  ⟨(some 44), .ld none (.tmp 43), none⟩,
  ⟨(some 45), .mv (.tmp 0), none⟩,
  ⟨(some 46), .mv (.tmp 6), none⟩,
  ⟨(some 47), .iad 1 (.tmp 45) (.tmp 46), none⟩,
  ⟨(some 48), .ld none (.tmp 47), none⟩,
  ⟨(some 49), .iad 1 (.tmp 33) (.tmp 34), none⟩,
  ⟨none, .st 1 (.tmp 49) (.tmp 44), none⟩,
  ⟨(some 50), .iad 1 (.tmp 35) (.tmp 38), none⟩,
  ⟨none, .st 1 (.tmp 50) (.tmp 48), none⟩])
 (.reg [⟨(some 51), .mv (.tmp 0), none⟩,
  ⟨(some 52), .mv (.tmp 7), none⟩,
  ⟨(some 53), .mv (.tmp 10), none⟩,
  ⟨(some 54), .mv (.tmp 6), none⟩,
  ⟨(some 55), .call (.func 153) [(.tmp 51), (.tmp 52), (.tmp 53), (.tmp 54)], none⟩])))
 (.reg [⟨(some 31), .mv (.tmp 10), none⟩,
  ⟨(some 32), .bin .sub (.tmp 31) (.const (.int .i64 1)), none⟩,
  ⟨(some 10), .mv (.tmp 32), none⟩])))))))))
def r_slices_heapSortOrdered : List ARes := []
theorem ok_slices_heapSortOrdered : FnOk Try.prog 143 56 c_slices_heapSortOrdered r_slices_heapSortOrdered := ⟨⟨Try.f143, _, Try.func143, by kernel_rfl, rfl, rfl, by kernel_rfl, by kernel_rfl⟩⟩
def c_slices_breakPatternsOrdered : ACode := .seq (.reg [⟨(some 11), .mv (.tmp 2), none⟩,
  ⟨(some 12), .mv (.tmp 1), none⟩,
  ⟨(some 13), .bin .sub (.tmp 11) (.tmp 12), none⟩,
  ⟨(some 6), .mv (.tmp 13), none⟩])
 (.seq (.reg [⟨(some 14), .mv (.tmp 6), none⟩,
  ⟨(some 15), .bin .geq (.tmp 14) (.const (.int .i64 8)), none⟩])
 (.cond (.tmp 15) (.seq (.reg [⟨(some 16), .mv (.tmp 6), none⟩,
  ⟨(some 17), .conv .u64 (.tmp 16), none⟩,
  ⟨(some 7), .alc 151 [(.int .u64 0)], none⟩,
  ⟨none, .st 1 (.tmp 7) (.tmp 17), none⟩])
 (.seq (.reg [⟨(some 18), .mv (.tmp 6), none⟩,
  ⟨(some 19), .call (.func 154) [(.tmp 18)], none⟩,
  ⟨(some 8), .mv (.tmp 19), none⟩])
 (.seq (.reg [⟨(some 20), .mv (.tmp 1), none⟩,
  ⟨(some 21), .mv (.tmp 6), none⟩,
  ⟨(some 22), .bin .quo (.tmp 21) (.const (.int .i64 4)), none⟩,
  ⟨(some 23), .bin .mul (.tmp 22) (.const (.int .i64 2)), none⟩,
  ⟨(some 24), .bin .add (.tmp 20) (.tmp 23), none⟩,
  ⟨(some 25), .bin .sub (.tmp 24) (.const (.int .i64 1)), none⟩,
  ⟨(some 9), .mv (.tmp 25), none⟩])
 (.block 0 (.loop (.seq (.seq (.reg [⟨(some 26), .mv (.tmp 9), none⟩,
  ⟨(some 27), .mv (.tmp 1), none⟩,
  ⟨(some 28), .mv (.tmp 6), none⟩,
  ⟨(some 29), .bin .quo (.tmp 28) (.const (.int .i64 4)), none⟩,
  ⟨(some 30), .bin .mul (.tmp 29) (.const (.int .i64 2)), none⟩,
  ⟨(some 31), .bin .add (.tmp 27) (.tmp 30), none⟩,
  ⟨(some 32), .bin .add (.tmp 31) (.const (.int .i64 1)), none⟩,
  ⟨(some 33), .bin .leq (.tmp 26) (.tmp 32), none⟩])
 (.cond (.tmp 33) (.skip) (.exit 0)))
 (.seq (.block 1 (.seq (.reg [⟨(some 36), .call (.func 155) [(.tmp 7)], none⟩,
  ⟨(some 37), .mv (.tmp 8), none⟩,
  ⟨(some 38), .bin .sub (.tmp 37) (.const (.int .u64 1)), none⟩,
  ⟨(some 39), .bin .and (.tmp 36) (.tmp 38), none⟩,
  ⟨(some 40), .conv .i64 (.tmp 39), none⟩,
  ⟨(some 10), .mv (.tmp 40), none⟩])
 (.seq (.seq (.reg [⟨(some 41), .mv (.tmp 10), none⟩,
  ⟨(some 42), .mv (.tmp 6), none⟩,
  ⟨(some 43), .bin .geq (.tmp 41) (.tmp 42), none⟩])
 (.cond (.tmp 43) (.reg [⟨(some 44), .mv (.tmp 10), none⟩,
  ⟨(some 45), .mv (.tmp 6), none⟩,
  ⟨(some 46), .bin .sub (.tmp 44) (.tmp 45), none⟩,
  ⟨(some 10), .mv (.tmp 46), none⟩]) (.skip)))
 (.reg [⟨(some 47), .mv (.tmp 0), none⟩,
  ⟨(some 48), .mv (.tmp 9), none⟩,
  ⟨(some 49), .mv (.tmp 0), none⟩,
  ⟨(some 50), .mv (.tmp 1), none⟩,
  ⟨(some 51), .mv (.tmp 10), none⟩,
  ⟨(some 52), .bin .add (.tmp 50) (.tmp 51), none⟩,
  ⟨(some 53), .mv (.tmp 0), none⟩,
  ⟨(some 54), .mv (.tmp 1), none⟩,
  ⟨(some 55), .mv (.tmp 10), none⟩,
  ⟨(some 56), .bin .add (.tmp 54) (.tmp 55), none⟩,
  ⟨(some 57), .iad 1 (.tmp 53) (.tmp 56), none⟩,
  ⟨(some 58), .ld none (.tmp 57), none⟩,
  ⟨(some 59), .mv (.tmp 0), none⟩,
  ⟨(some 60), .mv (.tmp 9), none⟩,
  ⟨(some 61), .iad 1 (.tmp 59) (.tmp 60), none⟩,
  ⟨(some 62), .ld none (.tmp 61), none⟩,
  ⟨(some 63), .iad 1 (.tmp 47) (.tmp 48), none⟩,
  ⟨none, .st 1 (.tmp 63) (.tmp 58), none⟩,
  ⟨(some 64), .iad 1 (.tmp 49) (.tmp 52), none⟩,
  ⟨none, .st 1 (.tmp 64) (.tmp 62), none⟩]))))
 (.reg [⟨(some 34), .mv (.tmp 9), none⟩,
  ⟨(some 35), .bin .add (.tmp 34) (.const (.int .i64 1)), none⟩,
  ⟨(some 9), .mv (.tmp 35), none⟩])))))))) (.skip)))
def r_slices_breakPatternsOrdered : List ARes := []
theorem ok_slices_breakPatternsOrdered : FnOk Try.prog 144 65 c_slices_breakPatternsOrdered r_slices_breakPatternsOrdered := ⟨⟨Try.f144, _, Try.func144, by kernel_rfl, rfl, rfl, by kernel_rfl, by kernel_rfl⟩⟩
def c_slices_choosePivotOrdered : ACode := .seq (.reg [⟨(some 6), .mv (.const (.int .i64 0)), none⟩,
  ⟨(some 7), .mv (.const (.int .i64 0)), none⟩])
 (.seq (.reg [⟨(some 13), .mv (.tmp 2), none⟩,
  ⟨(some 14), .mv (.tmp 1), none⟩,
  ⟨(some 15), .bin .sub (.tmp 13) (.tmp 14), none⟩,
  ⟨(some 8), .mv (.tmp 15), none⟩])
 (.seq (.reg [⟨(some 9), .alc 3 [(.int .i64 0)], none⟩])
 (.seq (.reg [⟨(some 16), .mv (.tmp 1), none⟩,
  ⟨(some 17), .mv (.tmp 8), none⟩,
  ⟨(some 18), .bin .quo (.tmp 17) (.const (.int .i64 4)), none⟩,
  ⟨(some 19), .bin .mul (.tmp 18) (.const (.int .i64 1)), none⟩,
  ⟨(some 20), .bin .add (.tmp 16) (.tmp 19), none⟩,
  ⟨(some 10), .mv (.tmp 20), none⟩])
 (.seq (.reg [⟨(some 21), .mv (.tmp 1), none⟩,
  ⟨(some 22), .mv (.tmp 8), none⟩,
  ⟨(some 23), .bin .quo (.tmp 22) (.const (.int .i64 4)), none⟩,
  ⟨(some 24), .bin .mul (.tmp 23) (.const (.int .i64 2)), none⟩,
  ⟨(some 25), .bin .add (.tmp 21) (.tmp 24), none⟩,
  ⟨(some 11), .mv (.tmp 25), none⟩])
 (.seq (.reg [⟨(some 26), .mv (.tmp 1), none⟩,
  ⟨(some 27), .mv (.tmp 8), none⟩,
  ⟨(some 28), .bin .quo (.tmp 27) (.const (.int .i64 4)), none⟩,
  ⟨(some 29), .bin .mul (.tmp 28) (.const (.int .i64 3)), none⟩,
  ⟨(some 30), .bin .add (.tmp 26) (.tmp 29), none⟩,
  ⟨(some 12), .mv (.tmp 30), none⟩])
 (.seq (.seq (.reg [⟨(some 31), .mv (.tmp 8), none⟩,
  ⟨(some 32), .bin .geq (.tmp 31) (.const (.int .i64 8)), none⟩])
 (.cond (.tmp 32) (.seq (.seq (.reg [⟨(some 33), .mv (.tmp 8), none⟩,
  ⟨(some 34), .bin .geq (.tmp 33) (.const (.int .i64 50)), none⟩])
 (.cond (.tmp 34) (.seq (.reg [⟨(some 35), .mv (.tmp 0), none⟩,
  ⟨(some 36), .mv (.tmp 10), none⟩,
  ⟨(some 37), .call (.func 156) [(.tmp 35), (.tmp 36), (.tmp 9)], none⟩,
  ⟨(some 10), .mv (.tmp 37), none⟩])
 (.seq (.reg [⟨(some 38), .mv (.tmp 0), none⟩,
  ⟨(some 39), .mv (.tmp 11), none⟩,
  ⟨(some 40), .call (.func 156) [(.tmp 38), (.tmp 39), (.tmp 9)], none⟩,
  ⟨(some 11), .mv (.tmp 40), none⟩])
 (.reg [⟨(some 41), .mv (.tmp 0), none⟩,
  ⟨(some 42), .mv (.tmp 12), none⟩,
  ⟨(some 43), .call (.func 156) [(.tmp 41), (.tmp 42), (.tmp 9)], none⟩,
  ⟨(some 12), .mv (.tmp 43), none⟩]))) (.skip)))
 (.reg [⟨(some 44), .mv (.tmp 0), none⟩,
  ⟨(some 45), .mv (.tmp 10), none⟩,
  ⟨(some 46), .mv (.tmp 11), none⟩,
  ⟨(some 47), .mv (.tmp 12), none⟩,
  ⟨(some 48), .call (.func 157) [(.tmp 44), (.tmp 45), (.tmp 46), (.tmp 47), (.tmp 9)], none⟩,
  ⟨(some 11), .mv (.tmp 48), none⟩])) (.skip)))
 (.seq (.reg [⟨(some 49), .ld none (.tmp 9), none⟩])
 (.block 0 (.seq (.reg [⟨(some 52), .bin .eql (.tmp 49) (.const (.int .i64 0)), none⟩,
  ⟨(some 51), .mv (.tmp 52), none⟩])
 (.cond (.tmp 51) (.seq (.reg [⟨(some 53), .mv (.tmp 11), none⟩,
  ⟨(some 6), .mv (.tmp 53), none⟩,
  ⟨(some 7), .mv (.const (.int .i64 1)), none⟩])
 (.ret)) (.seq (.reg [⟨(some 55), .bin .eql (.tmp 49) (.const (.int .i64 12)), none⟩,
  ⟨(some 54), .mv (.tmp 55), none⟩])
 (.cond (.tmp 54) (.seq (.reg [⟨(some 56), .mv (.tmp 11), none⟩,
  ⟨(some 6), .mv (.tmp 56), none⟩,
  ⟨(some 7), .mv (.const (.int .i64 2)), none⟩])
 (.ret)) (.seq (.reg [⟨(some 50), .mv (.tmp 11), none⟩,
  ⟨(some 6), .mv (.tmp 50), none⟩,
  ⟨(some 7), .mv (.const (.int .i64 0)), none⟩])
 (.ret))))))))))))))
def r_slices_choosePivotOrdered : List ARes := [.tmp 6, .tmp 7]
theorem ok_slices_choosePivotOrdered : FnOk Try.prog 145 57 c_slices_choosePivotOrdered r_slices_choosePivotOrdered := ⟨⟨Try.f145, _, Try.func145, by kernel_rfl, rfl, rfl, by kernel_rfl, by kernel_rfl⟩⟩
def c_slices_reverseRangeOrdered : ACode := .seq (.reg [⟨(some 8), .mv (.tmp 1), none⟩,
  ⟨(some 6), .mv (.tmp 8), none⟩])
 (.seq (.reg [⟨(some 9), .mv (.tmp 2), none⟩,
  ⟨(some 10), .bin .sub (.tmp 9) (.const (.int .i64 1)), none⟩,
  ⟨(some 7), .mv (.tmp 10), none⟩])
 (.block 0 (.loop (.seq (.seq (.reg [⟨(some 11), .mv (.tmp 6), none⟩,
  ⟨(some 12), .mv (.tmp 7), none⟩,
  ⟨(some 13), .bin .lss (.tmp 11) (.tmp 12), none⟩])
 (.cond (.tmp 13) (.skip) (.exit 0)))
 (.block 1 (.seq (.reg [⟨(some 14), .mv (.tmp 0), none⟩,
  ⟨(some 15), .mv (.tmp 6), none⟩,
  ⟨(some 16), .mv (.tmp 0), none⟩,
  ⟨(some 17), .mv (.tmp 7), none⟩,
  ⟨(some 18), .mv (.tmp 0), none⟩,
  ⟨(some 19), .mv (.tmp 7), none⟩,
  ⟨(some 20), .iad 1 (.tmp 18) (.tmp 19), none⟩,
  ⟨(some 21), .ld none (.tmp 20), none⟩,
  ⟨(some 22), .mv (.tmp 0), none⟩,
  ⟨(some 23), .mv (.tmp 6), none⟩,
  ⟨(some 24), .iad 1 (.tmp 22) (.tmp 23), none⟩,
  ⟨(some 25), .ld none (.tmp 24), none⟩,
  ⟨(some 26), .iad 1 (.tmp 14) (.tmp 15), none⟩,
  ⟨none, .st 1 (.tmp 26) (.tmp 21), none⟩,
  ⟨(some 27), .iad 1 (.tmp 16) (.tmp 17), none⟩,
  ⟨none, .st 1 (.tmp 27) (.tmp 25), none⟩])
 (.seq (.reg [⟨(some 28), .mv (.tmp 6), none⟩,
  ⟨(some 29), .bin .add (.tmp 28) (.const (.int .i64 1)), none⟩,
  ⟨(some 6), .mv (.tmp 29), none⟩])
 (.reg [⟨(some 30), .mv (.tmp 7), none⟩,
  ⟨(some 31), .bin .sub (.tmp 30) (.const (.int .i64 1)), none⟩,
  ⟨(some 7), .mv (.tmp 31), none⟩]))))))))
def r_slices_reverseRangeOrdered : List ARes := []
theorem ok_slices_reverseRangeOrdered : FnOk Try.prog 146 32 c_slices_reverseRangeOrdered r_slices_reverseRangeOrdered := ⟨⟨Try.f146, _, Try.func146, by kernel_rfl, rfl, rfl, by kernel_rfl, by kernel_rfl⟩⟩
def c_slices_partialInsertionSortOrdered : ACode := .seq (.reg [⟨(some 6), .mv (.const (.bool false)), none⟩])
 (.seq (.reg [⟨(some 11), .mv (.tmp 1), none⟩,
  ⟨(some 12), .bin .add (.tmp 11) (.const (.int .i64 1)), none⟩,
  ⟨(some 7), .mv (.tmp 12), none⟩])
 (.seq (.seq (.reg [⟨(some 8), .mv (.const (.int .i64 0)), none⟩])
 (.block 0 (.loop (.seq (.seq (.reg [⟨(some 13), .mv (.tmp 8), none⟩,
  ⟨(some 14), .bin .lss (.tmp 13) (.const (.int .i64 5)), none⟩])
 (.cond (.tmp 14) (.skip) (.exit 0)))
 (.seq (.block 1 (.seq (.block 2 (.loop (.seq (.seq (.reg [⟨(some 17), .mv (.tmp 7), none⟩,
  ⟨(some 18), .mv (.tmp 2), none⟩,
  ⟨(some 19), .bin .lss (.tmp 17) (.tmp 18), none⟩,
  ⟨(some 20), .mv (.tmp 19), none⟩,
  ⟨(some 21), .mv (.tmp 0), (some (20, true))⟩,
  ⟨(some 22), .mv (.tmp 7), (some (20, true))⟩,
  ⟨(some 23), .iad 1 (.tmp 21) (.tmp 22), (some (20, true))⟩,
  ⟨(some 24), .ld none (.tmp 23), (some (20, true))⟩,
  ⟨(some 25), .mv (.tmp 0), (some (20, true))⟩,
  ⟨(some 26), .mv (.tmp 7), (some (20, true))⟩,
  ⟨(some 27), .bin .sub (.tmp 26) (.const (.int .i64 1)), (some (20, true))⟩,
  ⟨(some 28), .iad 1 (.tmp 25) (.tmp 27), (some (20, true))⟩,
  ⟨(some 29), .ld none (.tmp 28), (some (20, true))⟩,
  ⟨(some 30), .rcall (.func 148) [(.tmp 24), (.tmp 29)], (some (20, true))⟩,
  ⟨(some 31), .un .not (.tmp 30), (some (20, true))⟩,
  ⟨(some 32), .pick (.tmp 20) (.tmp 31) (.const (.bool false)), none⟩])
 (.cond (.tmp 32) (.skip) (.exit 2)))
 (.block 3 (.reg [⟨(some 33), .mv (.tmp 7), none⟩,
  ⟨(some 34), .bin .add (.tmp 33) (.const (.int .i64 1)), none⟩,
  ⟨(some 7), .mv (.tmp 34), none⟩])))))
 (.seq (.seq (.reg [⟨(some 35), .mv (.tmp 7), none⟩,
  ⟨(some 36), .mv (.tmp 2), none⟩,
  ⟨(some 37), .bin .eql (.tmp 35) (.tmp 36), none⟩])
 (.cond (.tmp 37) (.seq (.reg [⟨(some 6), .mv (.const (.bool true)), none⟩])
 (.ret)) (.skip)))
 (.seq (.seq (.reg [⟨(some 38), .mv (.tmp 2), none⟩,
  ⟨(some 39), .mv (.tmp 1), none⟩,
  ⟨(some 40), .bin .sub (.tmp 38) (.tmp 39), none⟩,
  ⟨(some 41), .bin .lss (.tmp 40) (.const (.int .i64 50)), none⟩])
 (.cond (.tmp 41) (.seq (.reg [⟨(some 6), .mv (.const (.bool false)), none⟩])
 (.ret)) (.skip)))
 (.seq (.reg [⟨(some 42), .mv (.tmp 0), none⟩,
  ⟨(some 43), .mv (.tmp 7), none⟩,
  ⟨(some 44), .mv (.tmp 0), none⟩,
  ⟨(some 45), .mv (.tmp 7), none⟩,
  ⟨(some 46), .bin .sub (.tmp 45) (.const (.int .i64 1)), none⟩,
  ⟨(some 47), .mv (.tmp 0), none⟩,
  ⟨(some 48), .mv (.tmp 7), none⟩,
  ⟨(some 49), .bin .sub (.tmp 48) (.const (.int .i64 1)), none⟩,
  ⟨(some 50), .iad 1 (.tmp 47) (.tmp 49), none⟩,
  ⟨(some 51), .ld none (.tmp 50), none⟩,
  ⟨(some 52), .mv (.tmp 0), none⟩,
  ⟨(some 53), .mv (.tmp 7), none⟩,
  ⟨(some 54), .iad 1 (.tmp 52) (.tmp 53), none⟩,
  ⟨(some 55), .ld none (.tmp 54), none⟩,
  ⟨(some 56), .iad 1 (.tmp 42) (.tmp 43), none⟩,
  ⟨none, .st 1 (.tmp 56) (.tmp 51), none⟩,
  ⟨(some 57), .iad 1 (.tmp 44) (.tmp 46), none⟩,
  ⟨none, .st 1 (.tmp 57) (.tmp 55), none⟩])
 (.seq (.seq (.reg [⟨(some 58), .mv (.tmp 7), none⟩,
  ⟨(some 59), .mv (.tmp 1), none⟩,
  ⟨(some 60), .bin .sub (.tmp 58) (.tmp 59), none⟩,
  ⟨(some 61), .bin .geq (.tmp 60) (.const (.int .i64 2)), none⟩])
 (.cond (.tmp 61) (.seq (.reg [⟨(some 62), .mv (.tmp 7), none⟩,
  ⟨(some 63), .bin .sub (.tmp 62) (.const (.int .i64 1)), none⟩,
  ⟨(some 9), .mv (.tmp 63), none⟩])
 (.block 4 (.loop (.seq (.seq (.reg [⟨(some 64), .mv (.tmp 9), none⟩,
  ⟨(some 65), .bin .geq (.tmp 64) (.const (.int .i64 1)), none⟩])
 (.cond (.tmp 65) (.skip) (.exit 4)))
 (.seq (.block 5 (.seq (.seq (.reg [⟨(some 68), .mv (.tmp 0), none⟩,
  ⟨(some 69), .mv (.tmp 9), none⟩,
  ⟨(some 70), .iad 1 (.tmp 68) (.tmp 69), none⟩,
  ⟨(some 71), .ld none (.tmp 70), none⟩,
  ⟨(some 72), .mv (.tmp 0), none⟩,
  ⟨(some 73), .mv (.tmp 9), none⟩,
  ⟨(some 74), .bin .sub (.tmp 73) (.const (.int .i64 1)), none⟩,
  ⟨(some 75), .iad 1 (.tmp 72) (.tmp 74), none⟩,
  ⟨(some 76), .ld none (.tmp 75), none⟩,
  ⟨(some 77), .rcall (.func 148) [(.tmp 71), (.tmp 76)], none⟩,
  ⟨(some 78), .un .not (.tmp 77), none⟩])
 (.cond (.tmp 78) (.exit 4) (.skip)))
 (.reg [⟨(some 79), .mv (.tmp 0), none⟩,
  ⟨(some 80), .mv (.tmp 9), none⟩,
  ⟨(some 81), .mv (.tmp 0), none⟩,
  ⟨(some 82), .mv (.tmp 9), none⟩,
  ⟨(some 83), .bin .sub (.tmp 82) (.const (.int .i64 1)), none⟩,
  ⟨(some 84), .mv (.tmp 0), none⟩,
  ⟨(some 85), .mv (.tmp 9), none⟩,
  ⟨(some 86), .bin .sub (.tmp 85) (.const (.int .i64 1)), none⟩,
  ⟨(some 87), .iad 1 (.tmp 84) (.tmp 86), none⟩,
  ⟨(some 88), .ld none (.tmp 87), none⟩,
  ⟨(some 89), .mv (.tmp 0), none⟩,
  ⟨(some 90), .mv (.tmp 9), none⟩,
  ⟨(some 91), .iad 1 (.tmp 89) (.tmp 90), none⟩,
  ⟨(some 92), .ld none (.tmp 91), none⟩,
  ⟨(some 93), .iad 1 (.tmp 79) (.tmp 80), none⟩,
  ⟨none, .st 1 (.tmp 93) (.tmp 88), none⟩,
  ⟨(some 94), .iad 1 (.tmp 81) (.tmp 83), none⟩,
  ⟨none, .st 1 (.tmp 94) (.tmp 92), none⟩])))
 (.reg [⟨(some 66), .mv (.tmp 9), none⟩,
  ⟨(some 67), .bin .sub (.tmp 66) (.const (.int .i64 1)), none⟩,
  ⟨(some 9), .mv (.tmp 67), none⟩])))))) (.skip)))
 (.seq (.reg [⟨(some 95), .mv (.tmp 2), none⟩,
  ⟨(some 96), .mv (.tmp 7), none⟩,
  ⟨(some 97), .bin .sub (.tmp 95) (.tmp 96), none⟩,
  ⟨(some 98), .bin .geq (.tmp 97) (.const (.int .i64 2)), none⟩])
 (.cond (.tmp 98) (.seq (.reg [⟨(some 99), .mv (.tmp 7), none⟩,
  ⟨(some 100), .bin .add (.tmp 99) (.const (.int .i64 1)), none⟩,
  ⟨(some 10), .mv (.tmp 100), none⟩])
 (.block 6 (.loop (.seq (.seq (.reg [⟨(some 101), .mv (.tmp 10), none⟩,
  ⟨(some 102), .mv (.tmp 2), none⟩,
  ⟨(some 103), .bin .lss (.tmp 101) (.tmp 102), none⟩])
 (.cond (.tmp 103) (.skip) (.exit 6)))
 (.seq (.block 7 (.seq (.seq (.reg [⟨(some 106), .mv (.tmp 0), none⟩,
  ⟨(some 107), .mv (.tmp 10), none⟩,
  ⟨(some 108), .iad 1 (.tmp 106) (.tmp 107), none⟩,
  ⟨(some 109), .ld none (.tmp 108), none⟩,
  ⟨(some 110), .mv (.tmp 0), none⟩,
  ⟨(some 111), .mv (.tmp 10), none⟩,
  ⟨(some 112), .bin .sub (.tmp 111) (.const (.int .i64 1)), none⟩,
  ⟨(some 113), .iad 1 (.tmp 110) (.tmp 112), none⟩,
  ⟨(some 114), .ld none (.tmp 113), none⟩,
  ⟨(some 115), .rcall (.func 148) [(.tmp 109), (.tmp 114)], none⟩,
  ⟨(some 116), .un .not (.tmp 115), none⟩])
 (.cond (.tmp 116) (.exit 6) (.skip)))
 (.reg [⟨(some 117), .mv (.tmp 0), none⟩,
  ⟨(some 118), .mv (.tmp 10), none⟩,
  ⟨(some 119), .mv (.tmp 0), none⟩,
  ⟨(some 120), .mv (.tmp 10), none⟩,
  ⟨(some 121), .bin .sub (.tmp 120) (.const (.int .i64 1)), none⟩,
  ⟨(some 122), .mv (.tmp 0), none⟩,
  ⟨(some 123), .mv (.tmp 10), none⟩,
  ⟨(some 124), .bin .sub (.tmp 123) (.const (.int .i64 1)), none⟩,
  ⟨(some 125), .iad 1 (.tmp 122) (.tmp 124), none⟩,
  ⟨(some 126), .ld none (.tmp 125), none⟩,
  ⟨(some 127), .mv (.tmp 0), none⟩,
  ⟨(some 128), .mv (.tmp 10), none⟩,
  ⟨(some 129), .iad 1 (.tmp 127) (.tmp 128), none⟩,
  ⟨(some 130), .ld none (.tmp 129), none⟩,
  ⟨(some 131), .iad 1 (.tmp 117) (.tmp 118), none⟩,
  ⟨none, .st 1 (.tmp 131) (.tmp 126), none⟩,
  ⟨(some 132), .iad 1 (.tmp 119) (.tmp 121), none⟩,
  ⟨none, .st 1 (.tmp 132) (.tmp 130), none⟩])))
 (.reg [⟨(some 104), .mv (.tmp 10), none⟩,
  ⟨(some 105), .bin .add (.tmp 104) (.const (.int .i64 1)), none⟩,
  ⟨(some 10), .mv (.tmp 105), none⟩])))))) (.skip)))))))))
 (.reg [⟨(some 15), .mv (.tmp 8), none⟩,
  ⟨(some 16), .bin .add (.tmp 15) (.const (.int .i64 1)), none⟩,
  ⟨(some 8), .mv (.tmp 16), none⟩]))))))
 (.seq (.reg [⟨(some 6), .mv (.const (.bool false)), none⟩])
 (.ret))))
def r_slices_partialInsertionSortOrdered : List ARes := [.tmp 6]
theorem ok_slices_partialInsertionSortOrdered : FnOk Try.prog 147 133 c_slices_partialInsertionSortOrdered r_slices_partialInsertionSortOrdered := ⟨⟨Try.f147, _, Try.func147, by kernel_rfl, rfl, rfl, by kernel_rfl, by kernel_rfl⟩⟩
def c_cmp_Less : ACode := .seq (.reg [⟨(some 4), .mv (.const (.bool false)), none⟩])
 (.seq (.reg [⟨(some 5), .mv (.tmp 0), none⟩,
  ⟨(some 6), .call (.func 158) [(.tmp 5)], none⟩,
  ⟨(some 7), .mv (.tmp 6), none⟩,
  ⟨(some 8), .mv (.tmp 1), (some (7, true))⟩,
  ⟨(some 9), .call (.func 158) [(.tmp 8)], (some (7, true))⟩,
  ⟨(some 10), .un .not (.tmp 9), (some (7, true))⟩,
  ⟨(some 11), .pick (.tmp 7) (.tmp 10) (.const (.bool false)), none⟩,
  ⟨(some 12), .mv (.tmp 11), none⟩,
  ⟨(some 13), .mv (.tmp 0), (some (12, false))⟩,
  ⟨(some 14), .mv (.tmp 1), (some (12, false))⟩,
  ⟨(some 15), .bin .lss (.tmp 13) (.tmp 14), (some (12, false))⟩,
  ⟨(some 16), .pick (.tmp 12) (.const (.bool true)) (.tmp 15), none⟩,
  ⟨(some 4), .mv (.tmp 16), none⟩])
 (.ret))
def r_cmp_Less : List ARes := [.tmp 4]
theorem ok_cmp_Less : FnOk Try.prog 148 17 c_cmp_Less r_cmp_Less := ⟨⟨Try.f148, _, Try.func148, by kernel_rfl, rfl, rfl, by kernel_rfl, by kernel_rfl⟩⟩
def c_slices_partitionEqualOrdered : ACode := .seq (.reg [⟨(some 8), .mv (.const (.int .i64 0)), none⟩])
 (.seq (.reg [⟨(some 11), .mv (.tmp 0), none⟩,
  ⟨(some 12), .mv (.tmp 1), none⟩,
  ⟨(some 13), .mv (.tmp 0), none⟩,
  ⟨(some 14), .mv (.tmp 3), none⟩,
  ⟨(some 15), .mv (.tmp 0), none⟩,
  ⟨(some 16), .mv (.tmp 3), none⟩,
  ⟨(some 17), .iad 1 (.tmp 15) (.tmp 16), none⟩,
  ⟨(some 18), .ld none (.tmp 17), none⟩,
  ⟨(some 19), .mv (.tmp 0), none⟩,
  ⟨(some 20), .mv (.tmp 1), none⟩,
  ⟨(some 21), .iad 1 (.tmp 19) (.tmp 20), none⟩,
  ⟨(some 22), .ld none (.tmp 21), none⟩,
  ⟨(some 23), .iad 1 (.tmp 11) (.tmp 12), none⟩,
  ⟨none, .st 1 (.tmp 23) (.tmp 18), none⟩,
  ⟨(some 24), .iad 1 (.tmp 13) (.tmp 14), none⟩,
  ⟨none, .st 1 (.tmp 24) (.tmp 22), none⟩])
 (.seq (.reg [⟨(some 25), .mv (.tmp 1), none⟩,
  ⟨(some 26), .bin .add (.tmp 25) (.const (.int .i64 1)), none⟩,
  ⟨(some 27), .mv (.tmp 2), none⟩,
  ⟨(some 28), .bin .sub (.tmp 27) (.const (.int .i64 1)), none⟩,
  ⟨(some 9), .mv (.tmp 26), none⟩,
  ⟨(some 10), .mv (.tmp 28), none⟩])
 (.seq (.block 0 (.loop (.block 1 (.seq (.block 2 (.loop (.seq (.seq (.reg [⟨(some 29), .mv (.tmp 9), none⟩,
  ⟨(some 30), .mv (.tmp 10), none⟩,
  ⟨(some 31), .bin .leq (.tmp 29) (.tmp 30), none⟩,
  ⟨(some 32), .mv (.tmp 31), none⟩,
  ⟨(some 33), .mv (.tmp 0), (some (32, true))⟩,
  ⟨(some 34), .mv (.tmp 1), (some (32, true))⟩,
  ⟨(some 35), .iad 1 (.tmp 33) (.tmp 34), (some (32, true))⟩,
  ⟨(some 36), .ld none (.tmp 35), (some (32, true))⟩,
  ⟨(some 37), .mv (.tmp 0), (some (32, true))⟩,
  ⟨(some 38), .mv (.tmp 9), (some (32, true))⟩,
  ⟨(some 39), .iad 1 (.tmp 37) (.tmp 38), (some (32, true))⟩,
  ⟨(some 40), .ld none (.tmp 39), (some (32, true))⟩,
  ⟨(some 41), .rcall (.func 148) [(.tmp 36), (.tmp 40)], (some (32, true))⟩,
  ⟨(some 42), .un .not (.tmp 41), (some (32, true))⟩,
  ⟨(some 43), .pick (.tmp 32) (.tmp 42) (.const (.bool false)), none⟩])
 (.cond (.tmp 43) (.skip) (.exit 2)))
 (.block 3 (.reg [⟨(some 44), .mv (.tmp 9), none⟩,
  ⟨(some 45), .bin .add (.tmp 44) (.const (.int .i64 1)), none⟩,
  ⟨(some 9), .mv (.tmp 45), none⟩])))))
 (.seq (.block 4 (.loop (.seq (.seq (.reg [⟨(some 46), .mv (.tmp 9), none⟩,
  ⟨(some 47), .mv (.tmp 10), none⟩,
  ⟨(some 48), .bin .leq (.tmp 46) (.tmp 47), none⟩,
  ⟨(some 49), .mv (.tmp 48), none⟩,
  ⟨(some 50), .mv (.tmp 0), (some (49, true))⟩,
  ⟨(some 51), .mv (.tmp 1), (some (49, true))⟩,
  ⟨(some 52), .iad 1 (.tmp 50) (.tmp 51), (some (49, true))⟩,
  ⟨(some 53), .ld none (.tmp 52), (some (49, true))⟩,
  ⟨(some 54), .mv (.tmp 0), (some (49, true))⟩,
  ⟨(some 55), .mv (.tmp 10), (some (49, true))⟩,
  ⟨(some 56), .iad 1 (.tmp 54) (.tmp 55), (some (49, true))⟩,
  ⟨(some 57), .ld none (.tmp 56), (some (49, true))⟩,
  ⟨(some 58), .rcall (.func 148) [(.tmp 53), (.tmp 57)], (some (49, true))⟩,
  ⟨(some 59), .pick (.tmp 49) (.tmp 58) (.const (.bool false)), none⟩])
 (.cond (.tmp 59) (.skip) (.exit 4)))
 (.block 5 (.reg [⟨(some 60), .mv (.tmp 10), none⟩,
  ⟨(some 61), .bin .sub (.tmp 60) (.const (.int .i64 1)), none⟩,
  ⟨(some 10), .mv (.tmp 61), none⟩])))))
 (.seq (.seq (.reg [⟨(some 62), .mv (.tmp 9), none⟩,
  ⟨(some 63), .mv (.tmp 10), none⟩,
  ⟨(some 64), .bin .gtr (.tmp 62) (.tmp 63), none⟩])
 (.cond (.tmp 64) (.exit 0) (.skip)))
 (.seq (.reg [⟨(some 65), .mv (.tmp 0), none⟩,
  ⟨(some 66), .mv (.tmp 9), none⟩,
  ⟨(some 67), .mv (.tmp 0), none⟩,
  ⟨(some 68), .mv (.tmp 10), none⟩,
  ⟨(some 69), .mv (.tmp 0), none⟩,
  ⟨(some 70), .mv (.tmp 10), none⟩,
  ⟨(some 71), .iad 1 (.tmp 69) (.tmp 70), none⟩,
  ⟨(some 72), .ld none (.tmp 71), none⟩,
  ⟨(some 73), .mv (.tmp 0), none⟩,
  ⟨(some 74), .mv (.tmp 9), none⟩,
  ⟨(some 75), .iad 1 (.tmp 73) (.tmp 74), none⟩,
  ⟨(some 76), .ld none (.tmp 75), none⟩,
  ⟨(some 77), .iad 1 (.tmp 65) (.tmp 66), none⟩,
  ⟨none, .st 1 (.tmp 77) (.tmp 72), none⟩,
  ⟨(some 78), .iad 1 (.tmp 67) (.tmp 68), none⟩,
  ⟨none, .st 1 (.tmp 78) (.tmp 76), none⟩])
 (.seq (.reg [⟨(some 79), .mv (.tmp 9), none⟩,
  ⟨(some 80), .bin .add (.tmp 79) (.const (.int .i64 1)), none⟩,
  ⟨(some 9), .mv (.tmp 80), none⟩])
 (.reg [⟨(some 81), .mv (.tmp 10), none⟩,
  ⟨(some 82), .bin .sub (.tmp 81) (.const (.int .i64 1)), none⟩,
  ⟨(some 10), .mv (.tmp 82), none⟩])))))))))
 (.seq (.reg [⟨(some 83), .mv (.tmp 9), none⟩,
  ⟨(some 8), .mv (.tmp 83), none⟩])
 (.ret)))))
def r_slices_partitionEqualOrdered : List ARes := [.tmp 8]
theorem ok_slices_partitionEqualOrdered : FnOk Try.prog 149 84 c_slices_partitionEqualOrdered r_slices_partitionEqualOrdered := ⟨⟨Try.f149, _, Try.func149, by kernel_rfl, rfl, rfl, by kernel_rfl, by kernel_rfl⟩⟩
def c_slices_partitionOrdered : ACode := .seq (.reg [⟨(some 8), .mv (.const (.int .i64 0)), none⟩,
  ⟨(some 9), .mv (.const (.bool false)), none⟩])
 (.seq (.reg [⟨(some 12), .mv (.tmp 0), none⟩,
  ⟨(some 13), .mv (.tmp 1), none⟩,
  ⟨(some 14), .mv (.tmp 0), none⟩,
  ⟨(some 15), .mv (.tmp 3), none⟩,
  ⟨(some 16), .mv (.tmp 0), none⟩,
  ⟨(some 17), .mv (.tmp 3), none⟩,
  ⟨(some 18), .iad 1 (.tmp 16) (.tmp 17), none⟩,
  ⟨(some 19), .ld none (.tmp 18), none⟩,
  ⟨(some 20), .mv (.tmp 0), none⟩,
  ⟨(some 21), .mv (.tmp 1), none⟩,
  ⟨(some 22), .iad 1 (.tmp 20) (.tmp 21), none⟩,
  ⟨(some 23), .ld none (.tmp 22), none⟩,
  ⟨(some 24), .iad 1 (.tmp 12) (.tmp 13), none⟩,
  ⟨none, .st 1 (.tmp 24) (.tmp 19), none⟩,
  ⟨(some 25), .iad 1 (.tmp 14) (.tmp 15), none⟩,
  ⟨none, .st 1 (.tmp 25) (.tmp 23), none⟩])
 (.seq (.reg [⟨(some 26), .mv (.tmp 1), none⟩,
  ⟨(some 27), .bin .add (.tmp 26) (.const (.int .i64 1)), none⟩,
  ⟨(some 28), .mv (.tmp 2), none⟩,
  ⟨(some 29), .bin .sub (.tmp 28) (.const (.int .i64 1)), none⟩,
  ⟨(some 10), .mv (.tmp 27), none⟩,
  ⟨(some 11), .mv (.tmp 29), none⟩])
 (.seq (.block 0 (.loop (.seq (.seq (.reg [⟨(some 30), .mv (.tmp 10), none⟩,
  ⟨(some 31), .mv (.tmp 11), none⟩,
  ⟨(some 32), .bin .leq (.tmp 30) (.tmp 31), none⟩,
  ⟨(some 33), .mv (.tmp 32), none⟩,
  ⟨(some 34), .mv (.tmp 0), (some (33, true))⟩,
  ⟨(some 35), .mv (.tmp 10), (some (33, true))⟩,
  ⟨(some 36), .iad 1 (.tmp 34) (.tmp 35), (some (33, true))⟩,
  ⟨(some 37), .ld none (.tmp 36), (some (33, true))⟩,
  ⟨(some 38), .mv (.tmp 0), (some (33, true))⟩,
  ⟨(some 39), .mv (.tmp 1), (some (33, true))⟩,
  ⟨(some 40), .iad 1 (.tmp 38) (.tmp 39), (some (33, true))⟩,
  ⟨(some 41), .ld none (.tmp 40), (some (33, true))⟩,
  ⟨(some 42), .rcall (.func 148) [(.tmp 37), (.tmp 41)], (some (33, true))⟩,
  ⟨(some 43), .pick (.tmp 33) (.tmp 42) (.const (.bool false)), none⟩])
 (.cond (.tmp 43) (.skip) (.exit 0)))
 (.block 1 (.reg [⟨(some 44), .mv (.tmp 10), none⟩,
  ⟨(some 45), .bin .add (.tmp 44) (.const (.int .i64 1)), none⟩,
  ⟨(some 10), .mv (.tmp 45), none⟩])))))
 (.seq (.block 2 (.loop (.seq (.seq (.reg [⟨(some 46), .mv (.tmp 10), none⟩,
  ⟨(some 47), .mv (.tmp 11), none⟩,
  ⟨(some 48), .bin .leq (.tmp 46) (.tmp 47), none⟩,
  ⟨(some 49), .mv (.tmp 48), none⟩,
  ⟨(some 50), .mv (.tmp 0), (some (49, true))⟩,
  ⟨(some 51), .mv (.tmp 11), (some (49, true))⟩,
  ⟨(some 52), .iad 1 (.tmp 50) (.tmp 51), (some (49, true))⟩,
  ⟨(some 53), .ld none (.tmp 52), (some (49, true))⟩,
  ⟨(some 54), .mv (.tmp 0), (some (49, true))⟩,
  ⟨(some 55), .mv (.tmp 1), (some (49, true))⟩,
  ⟨(some 56), .iad 1 (.tmp 54) (.tmp 55), (some (49, true))⟩,
  ⟨(some 57), .ld none (.tmp 56), (some (49, true))⟩,
  ⟨(some 58), .rcall (.func 148) [(.tmp 53), (.tmp 57)], (some (49, true))⟩,
  ⟨(some 59), .un .not (.tmp 58), (some (49, true))⟩,
  ⟨(some 60), .pick (.tmp 49) (.tmp 59) (.const (.bool false)), none⟩])
 (.cond (.tmp 60) (.skip) (.exit 2)))
 (.block 3 (.reg [⟨(some 61), .mv (.tmp 11), none⟩,
  ⟨(some 62), .bin .sub (.tmp 61) (.const (.int .i64 1)), none⟩,
  ⟨(some 11), .mv (.tmp 62), none⟩])))))
 (.seq (.seq (.reg [⟨(some 63), .mv (.tmp 10), none⟩,
  ⟨(some 64), .mv (.tmp 11), none⟩,
  ⟨(some 65), .bin .gtr (.tmp 63) (.tmp 64), none⟩])
 (.cond (.tmp 65) (.seq (.reg [⟨(some 66), .mv (.tmp 0), none⟩,
  ⟨(some 67), .mv (.tmp 11), none⟩,
  ⟨(some 68), .mv (.tmp 0), none⟩,
  ⟨(some 69), .mv (.tmp 1), none⟩,
  ⟨(some 70), .mv (.tmp 0), none⟩,
  ⟨(some 71), .mv (.tmp 1), none⟩,
  ⟨(some 72), .iad 1 (.tmp 70) (.tmp 71), none⟩,
  ⟨(some 73), .ld none (.tmp 72), none⟩,
  ⟨(some 74), .mv (.tmp 0), none⟩,
  ⟨(some 75), .mv (.tmp 11), none⟩,
  ⟨(some 76), .iad 1 (.tmp 74) (.tmp 75), none⟩,
  ⟨(some 77), .ld none (.tmp 76), none⟩,
  ⟨(some 78), .iad 1 (.tmp 66) (.tmp 67), none⟩,
  ⟨none, .st 1 (.tmp 78) (.tmp 73), none⟩,
  ⟨(some 79), .iad 1 (.tmp 68) (.tmp 69), none⟩,
  ⟨none, .st 1 (.tmp 79) (.tmp 77), none⟩])
 (.seq (.reg [⟨(some 80), .mv (.tmp 11), none⟩,
  ⟨(some 8), .mv (.tmp 80), none⟩,
  ⟨(some 9), .mv (.const (.bool true)), none⟩])
 (.ret))) (.skip)))
 (.seq (.reg [⟨(some 81), .mv (.tmp 0), none⟩,
  ⟨(some 82), .mv (.tmp 10), none⟩,
  ⟨(some 83), .mv (.tmp 0), none⟩,
  ⟨(some 84), .mv (.tmp 11), none⟩,
  ⟨(some 85), .mv (.tmp 0), none⟩,
  ⟨(some 86), .mv (.tmp 11), none⟩,
  ⟨(some 87), .iad 1 (.tmp 85) (.tmp 86), none⟩,
  ⟨(some 88), .ld none (.tmp 87), none⟩,
  ⟨(some 89), .mv (.tmp 0), none⟩,
  ⟨(some 90), .mv (.tmp 10), none⟩,
  ⟨(some 91), .iad 1 (.tmp 89) (.tmp 90), none⟩,
  ⟨(some 92), .ld none (.tmp 91), none⟩,
  ⟨(some 93), .iad 1 (.tmp 81) (.tmp 82), none⟩,
  ⟨none, .st 1 (.tmp 93) (.tmp 88), none⟩,
  ⟨(some 94), .iad 1 (.tmp 83) (.tmp 84), none⟩,
  ⟨none, .st 1 (.tmp 94) (.tmp 92), none⟩])
 (.seq (.reg [⟨(some 95), .mv (.tmp 10), none⟩,
  ⟨(some 96), .bin .add (.tmp 95) (.const (.int .i64 1)), none⟩,
  ⟨(some 10), .mv (.tmp 96), none⟩])
 (.seq (.reg [⟨(some 97), .mv (.tmp 11), none⟩,
  ⟨(some 98), .bin .sub (.tmp 97) (.const (.int .i64 1)), none⟩,
  ⟨(some 11), .mv (.tmp 98), none⟩])
 (.seq (.block 4 (.loop (.block 5 (.seq (.block 6 (.loop (.seq (.seq (.reg [⟨(some 99), .mv (.tmp 10), none⟩,
  ⟨(some 100), .mv (.tmp 11), none⟩,
  ⟨(some 101), .bin .leq (.tmp 99) (.tmp 100), none⟩,
  ⟨(some 102), .mv (.tmp 101), none⟩,
  ⟨(some 103), .mv (.tmp 0), (some (102, true))⟩,
  ⟨(some 104), .mv (.tmp 10), (some (102, true))⟩,
  ⟨(some 105), .iad 1 (.tmp 103) (.tmp 104), (some (102, true))⟩,
  ⟨(some 106), .ld none (.tmp 105), (some (102, true))⟩,
  ⟨(some 107), .mv (.tmp 0), (some (102, true))⟩,
  ⟨(some 108), .mv (.tmp 1), (some (102, true))⟩,
  ⟨(some 109), .iad 1 (.tmp 107) (.tmp 108), (some (102, true))⟩,
  ⟨(some 110), .ld none (.tmp 109), (some (102, true))⟩,
  ⟨(some 111), .rcall (.func 148) [(.tmp 106), (.tmp 110)], (some (102, true))⟩,
  ⟨(some 112), .pick (.tmp 102) (.tmp 111) (.const (.bool false)), none⟩])
 (.cond (.tmp 112) (.skip) (.exit 6)))
 (.block 7 (.reg [⟨(some 113), .mv (.tmp 10), none⟩,
  ⟨(some 114), .bin .add (.tmp 113) (.const (.int .i64 1)), none⟩,
  ⟨(some 10), .mv (.tmp 114), none⟩])))))
 (.seq (.block 8 (.loop (.seq (.seq (.reg [⟨(some 115), .mv (.tmp 10), none⟩,
  ⟨(some 116), .mv (.tmp 11), none⟩,
  ⟨(some 117), .bin .leq (.tmp 115) (.tmp 116), none⟩,
  ⟨(some 118), .mv (.tmp 117), none⟩,
  ⟨(some 119), .mv (.tmp 0), (some (118, true))⟩,
  ⟨(some 120), .mv (.tmp 11), (some (118, true))⟩,
  ⟨(some 121), .iad 1 (.tmp 119) (.tmp 120), (some (118, true))⟩,
  ⟨(some 122), .ld none (.tmp 121), (some (118, true))⟩,
  ⟨(some 123), .mv (.tmp 0), (some (118, true))⟩,
  ⟨(some 124), .mv (.tmp 1), (some (118, true))⟩,
  ⟨(some 125), .iad 1 (.tmp 123) (.tmp 124), (some (118, true))⟩,
  ⟨(some 126), .ld none (.tmp 125), (some (118, true))⟩,
  ⟨(some 127), .rcall (.func 148) [(.tmp 122), (.tmp 126)], (some (118, true))⟩,
  ⟨(some 128), .un .not (.tmp 127), (some (118, true))⟩,
  ⟨(some 129), .pick (.tmp 118) (.tmp 128) (.const (.bool false)), none⟩])
 (.cond (.tmp 129) (.skip) (.exit 8)))
 (.block 9 (.reg [⟨(some 130), .mv (.tmp 11), none⟩,
  ⟨(some 131), .bin .sub (.tmp 130) (.const (.int .i64 1)), none⟩,
  ⟨(some 11), .mv (.tmp 131), none⟩])))))
 (.seq (.seq (.reg [⟨(some 132), .mv (.tmp 10), none⟩,
  ⟨(some 133), .mv (.tmp 11), none⟩,
  ⟨(some 134), .bin .gtr (.tmp 132) (.tmp 133), none⟩])
 (.cond (.tmp 134) (.exit 4) (.skip)))
 (.seq (.reg [⟨(some 135), .mv (.tmp 0), none⟩,
  ⟨(some 136), .mv (.tmp 10), none⟩,
  ⟨(some 137), .mv (.tmp 0), none⟩,
  ⟨(some 138), .mv (.tmp 11), none⟩,
  ⟨(some 139), .mv (.tmp 0), none⟩,
  ⟨(some 140), .mv (.tmp 11), none⟩,
  ⟨(some 141), .iad 1 (.tmp 139) (.tmp 140), none⟩,
  ⟨(some 142), .ld none (.tmp 141), none⟩,
  ⟨(some 143), .mv (.tmp 0), none⟩,
  ⟨(some 144), .mv (.tmp 10), none⟩,
  ⟨(some 145), .iad 1 (.tmp 143) (.tmp 144), none⟩,
  ⟨(some 146), .ld none (.tmp 145), none⟩,
  ⟨(some 147), .iad 1 (.tmp 135) (.tmp 136), none⟩,
  ⟨none, .st 1 (.tmp 147) (.tmp 142), none⟩,
  ⟨(some 148), .iad 1 (.tmp 137) (.tmp 138), none⟩,
  ⟨none, .st 1 (.tmp 148) (.tmp 146), none⟩])
 (.seq (.reg [⟨(some 149), .mv (.tmp 10), none⟩,
  ⟨(some 150), .bin .add (.tmp 149) (.const (.int .i64 1)), none⟩,
  ⟨(some 10), .mv (.tmp 150), none⟩])
 (.reg [⟨(some 151), .mv (.tmp 11), none⟩,
  ⟨(some 152), .bin .sub (.tmp 151) (.const (.int .i64 1)), none⟩,
  ⟨(some 11), .mv (.tmp 152), none⟩])))))))))
 (.seq (.reg [⟨(some 153), .mv (.tmp 0), none⟩,
  ⟨(some 154), .mv (.tmp 11), none⟩,
  ⟨(some 155), .mv (.tmp 0), none⟩,
  ⟨(some 156), .mv (.tmp 1), none⟩,
  ⟨(some 157), .mv (.tmp 0), none⟩,
  ⟨(some 158), .mv (.tmp 1), none⟩,
  ⟨(some 159), .iad 1 (.tmp 157) (.tmp 158), none⟩,
  ⟨(some 160), .ld none (.tmp 159), none⟩,
  ⟨(some 161), .mv (.tmp 0), none⟩,
  ⟨(some 162), .mv (.tmp 11), none⟩,
  ⟨(some 163), .iad 1 (.tmp 161) (.tmp 162), none⟩,
  ⟨(some 164), .ld none (.tmp 163), none⟩,
  ⟨(some 165), .iad 1 (.tmp 153) (.tmp 154), none⟩,
  ⟨none, .st 1 (.tmp 165) (.tmp 160), none⟩,
  ⟨(some 166), .iad 1 (.tmp 155) (.tmp 156), none⟩,
  ⟨none, .st 1 (.tmp 166) (.tmp 164), none⟩])
 (.seq (.reg [⟨(some 167), .mv (.tmp 11), none⟩,
  ⟨(some 8), .mv (.tmp 167), none⟩,
  ⟨(some 9), .mv (.const (.bool false)), none⟩])
 (.ret))))))))))))
def r_slices_partitionOrdered : List ARes := [.tmp 8, .tmp 9]
theorem ok_slices_partitionOrdered : FnOk Try.prog 150 168 c_slices_partitionOrdered r_slices_partitionOrdered := ⟨⟨Try.f150, _, Try.func150, by kernel_rfl, rfl, rfl, by kernel_rfl, by kernel_rfl⟩⟩
def c_math_bits_Len32 : ACode := .seq (.reg [⟨(some 2), .mv (.const (.int .i64 0)), none⟩])
 (.seq (.seq (.reg [⟨(some 3), .mv (.tmp 0), none⟩,
  ⟨(some 4), .bin .geq (.tmp 3) (.const (.int .u32 65536)), none⟩])
 (.cond (.tmp 4) (.seq (.reg [⟨(some 5), .mv (.tmp 0), none⟩,
  ⟨(some 6), .bin .shr (.tmp 5) (.const (.int .u64 16)), none⟩,
  ⟨(some 0), .mv (.tmp 6), none⟩])
 (.reg [⟨(some 2), .mv (.const (.int .i64 16)), none⟩])) (.skip)))
 (.seq (.seq (.reg [⟨(some 7), .mv (.tmp 0), none⟩,
  ⟨(some 8), .bin .geq (.tmp 7) (.const (.int .u32 256)), none⟩])
 (.cond (.tmp 8) (.seq (.reg [⟨(some 9), .mv (.tmp 0), none⟩,
  ⟨(some 10), .bin .shr (.tmp 9) (.const (.int .u64 8)), none⟩,
  ⟨(some 0), .mv (.tmp 10), none⟩])
 (.reg [⟨(some 11), .mv (.tmp 2), none⟩,
  ⟨(some 12), .bin .add (.tmp 11) (.const (.int .i64 8)), none⟩,
  ⟨(some 2), .mv (.tmp 12), none⟩])) (.skip)))
 (.seq (.reg [⟨(some 13), .mv (.tmp 2), none⟩,
  ⟨(some 14), .mv (.tmp 0), none⟩,
  ⟨(some 15), .conv .u8 (.tmp 14), none⟩,
  ⟨(some 16), .idxs (.const (.string ⟨#[0, 1, 2, 2, 3, 3, 3, 3, 4, 4, 4, 4, 4, 4, 4, 4, 5, 5, 5, 5, 5, 5, 5, 5, 5, 5, 5, 5, 5, 5, 5, 5, 6, 6, 6, 6, 6, 6, 6, 6, 6, 6, 6, 6, 6, 6, 6, 6, 6, 6, 6, 6, 6, 6, 6, 6, 6, 6, 6, 6, 6, 6, 6, 6, 7, 7, 7, 7, 7, 7, 7, 7, 7, 7, 7, 7, 7, 7, 7, 7, 7, 7, 7, 7, 7, 7, 7, 7, 7, 7, 7, 7, 7, 7, 7, 7, 7, 7, 7, 7, 7, 7, 7, 7, 7, 7, 7, 7, 7, 7, 7, 7, 7, 7, 7, 7, 7, 7, 7, 7, 7, 7, 7, 7, 7, 7, 7, 7, 8, 8, 8, 8, 8, 8, 8, 8, 8, 8, 8, 8, 8, 8, 8, 8, 8, 8, 8, 8, 8, 8, 8, 8, 8, 8, 8, 8, 8, 8, 8, 8, 8, 8, 8, 8, 8, 8, 8, 8, 8, 8, 8, 8, 8, 8, 8, 8, 8, 8, 8, 8, 8, 8, 8, 8, 8, 8, 8, 8, 8, 8, 8, 8, 8, 8, 8, 8, 8, 8, 8, 8, 8, 8, 8, 8, 8, 8, 8, 8, 8, 8, 8, 8, 8, 8, 8, 8, 8, 8, 8, 8, 8, 8, 8, 8, 8, 8, 8, 8, 8, 8, 8, 8, 8, 8, 8, 8, 8, 8, 8, 8, 8, 8, 8, 8, 8, 8, 8, 8, 8, 8, 8, 8, 8, 8, 8, 8]⟩)) (.tmp 15), none⟩,
  ⟨(some 17), .conv .i64 (.tmp 16), none⟩,
  ⟨(some 18), .bin .add (.tmp 13) (.tmp 17), none⟩,
  ⟨(some 2), .mv (.tmp 18), none⟩])
 (.ret))))
def r_math_bits_Len32 : List ARes := [.tmp 2]
theorem ok_math_bits_Len32 : FnOk Try.prog 151 19 c_math_bits_Len32 r_math_bits_Len32 := ⟨⟨Try.f151, _, Try.func151, by kernel_rfl, rfl, rfl, by kernel_rfl, by kernel_rfl⟩⟩
def c_math_bits_Len64 : ACode := .seq (.reg [⟨(some 2), .mv (.const (.int .i64 0)), none⟩])
 (.seq (.seq (.reg [⟨(some 3), .mv (.tmp 0), none⟩,
  ⟨(some 4), .bin .geq (.tmp 3) (.const (.int .u64 4294967296)), none⟩])
 (.cond (.tmp 4) (.seq (.reg [⟨(some 5), .mv (.tmp 0), none⟩,
  ⟨(some 6), .bin .shr (.tmp 5) (.const (.int .u64 32)), none⟩,
  ⟨(some 0), .mv (.tmp 6), none⟩])
 (.reg [⟨(some 2), .mv (.const (.int .i64 32)), none⟩])) (.skip)))
 (.seq (.seq (.reg [⟨(some 7), .mv (.tmp 0), none⟩,
  ⟨(some 8), .bin .geq (.tmp 7) (.const (.int .u64 65536)), none⟩])
 (.cond (.tmp 8) (.seq (.reg [⟨(some 9), .mv (.tmp 0), none⟩,
  ⟨(some 10), .bin .shr (.tmp 9) (.const (.int .u64 16)), none⟩,
  ⟨(some 0), .mv (.tmp 10), none⟩])
 (.reg [⟨(some 11), .mv (.tmp 2), none⟩,
  ⟨(some 12), .bin .add (.tmp 11) (.const (.int .i64 16)), none⟩,
  ⟨(some 2), .mv (.tmp 12), none⟩])) (.skip)))
 (.seq (.seq (.reg [⟨(some 13), .mv (.tmp 0), none⟩,
  ⟨(some 14), .bin .geq (.tmp 13) (.const (.int .u64 256)), none⟩])
 (.cond (.tmp 14) (.seq (.reg [⟨(some 15), .mv (.tmp 0), none⟩,
  ⟨(some 16), .bin .shr (.tmp 15) (.const (.int .u64 8)), none⟩,
  ⟨(some 0), .mv (.tmp 16), none⟩])
 (.reg [⟨(some 17), .mv (.tmp 2), none⟩,
  ⟨(some 18), .bin .add (.tmp 17) (.const (.int .i64 8)), none⟩,
  ⟨(some 2), .mv (.tmp 18), none⟩])) (.skip)))
 (.seq (.reg [⟨(some 19), .mv (.tmp 2), none⟩,
  ⟨(some 20), .mv (.tmp 0), none⟩,
  ⟨(some 21), .conv .u8 (.tmp 20), none⟩,
  ⟨(some 22), .idxs (.const (.string ⟨#[0, 1, 2, 2, 3, 3, 3, 3, 4, 4, 4, 4, 4, 4, 4, 4, 5, 5, 5, 5, 5, 5, 5, 5, 5, 5, 5, 5, 5, 5, 5, 5, 6, 6, 6, 6, 6, 6, 6, 6, 6, 6, 6, 6, 6, 6, 6, 6, 6, 6, 6, 6, 6, 6, 6, 6, 6, 6, 6, 6, 6, 6, 6, 6, 7, 7, 7, 7, 7, 7, 7, 7, 7, 7, 7, 7, 7, 7, 7, 7, 7, 7, 7, 7, 7, 7, 7, 7, 7, 7, 7, 7, 7, 7, 7, 7, 7, 7, 7, 7, 7, 7, 7, 7, 7, 7, 7, 7, 7, 7, 7, 7, 7, 7, 7, 7, 7, 7, 7, 7, 7, 7, 7, 7, 7, 7, 7, 7, 8, 8, 8, 8, 8, 8, 8, 8, 8, 8, 8, 8, 8, 8, 8, 8, 8, 8, 8, 8, 8, 8, 8, 8, 8, 8, 8, 8, 8, 8, 8, 8, 8, 8, 8, 8, 8, 8, 8, 8, 8, 8, 8, 8, 8, 8, 8, 8, 8, 8, 8, 8, 8, 8, 8, 8, 8, 8, 8, 8, 8, 8, 8, 8, 8, 8, 8, 8, 8, 8, 8, 8, 8, 8, 8, 8, 8, 8, 8, 8, 8, 8, 8, 8, 8, 8, 8, 8, 8, 8, 8, 8, 8, 8, 8, 8, 8, 8, 8, 8, 8, 8, 8, 8, 8, 8, 8, 8, 8, 8, 8, 8, 8, 8, 8, 8, 8, 8, 8, 8, 8, 8, 8, 8, 8, 8, 8, 8]⟩)) (.tmp 21), none⟩,
  ⟨(some 23), .conv .i64 (.tmp 22), none⟩,
  ⟨(some 24), .bin .add (.tmp 19) (.tmp 23), none⟩,
  ⟨(some 2), .mv (.tmp 24), none⟩])
 (.ret)))))
def r_math_bits_Len64 : List ARes := [.tmp 2]
theorem ok_math_bits_Len64 : FnOk Try.prog 152 25 c_math_bits_Len64 r_math_bits_Len64 := ⟨⟨Try.f152, _, Try.func152, by kernel_rfl, rfl, rfl, by kernel_rfl, by kernel_rfl⟩⟩
def c_slices_siftDownOrdered : ACode := .seq (.reg [⟨(some 10), .mv (.tmp 1), none⟩,
  ⟨(some 8), .mv (.tmp 10), none⟩])
 (.block 0 (.loop (.block 1 (.seq (.reg [⟨(some 11), .mv (.tmp 8), none⟩,
  ⟨(some 12), .bin .mul (.const (.int .i64 2)) (.tmp 11), none⟩,
  ⟨(some 13), .bin .add (.tmp 12) (.const (.int .i64 1)), none⟩,
  ⟨(some 9), .mv (.tmp 13), none⟩])
 (.seq (.seq (.reg [⟨(some 14), .mv (.tmp 9), none⟩,
  ⟨(some 15), .mv (.tmp 2), none⟩,
  ⟨(some 16), .bin .geq (.tmp 14) (.tmp 15), none⟩])
 (.cond (.tmp 16) (.exit 0) (.skip)))
 (.seq (.seq (.reg [⟨(some 17), .mv (.tmp 9), none⟩,
  ⟨(some 18), .bin .add (.tmp 17) (.const (.int .i64 1)), none⟩,
  ⟨(some 19), .mv (.tmp 2), none⟩,
  ⟨(some 20), .bin .lss (.tmp 18) (.tmp 19), none⟩,
  ⟨(some 21), .mv (.tmp 20), none⟩,
  ⟨(some 22), .mv (.tmp 0), (some (21, true))⟩,
  ⟨(some 23), .mv (.tmp 3), (some (21, true))⟩,
  ⟨(some 24), .mv (.tmp 9), (some (21, true))⟩,
  ⟨(some 25), .bin .add (.tmp 23) (.tmp 24), (some (21, true))⟩,
  ⟨(some 26), .iad 1 (.tmp 22) (.tmp 25), (some (21, true))⟩,
  ⟨(some 27), .ld none (.tmp 26), (some (21, true))⟩,
  ⟨(some 28), .mv (.tmp 0), (some (21, true))⟩,
  ⟨(some 29), .mv (.tmp 3), (some (21, true))⟩,
  ⟨(some 30), .mv (.tmp 9), (some (21, true))⟩,
  ⟨(some 31), .bin .add (.tmp 29) (.tmp 30), (some (21, true))⟩,
  ⟨(some 32), .bin .add (.tmp 31) (.const (.int .i64 1)), (some (21, true))⟩,
  ⟨(some 33), .iad 1 (.tmp 28) (.tmp 32), (some (21, true))⟩,
  ⟨(some 34), .ld none (.tmp 33), (some (21, true))⟩,
  ⟨(some 35), .rcall (.func 148) [(.tmp 27), (.tmp 34)], (some (21, true))⟩,
  ⟨(some 36), .pick (.tmp 21) (.tmp 35) (.const (.bool false)), none⟩])
 (.cond (.tmp 36) (.reg [⟨(some 37), .mv (.tmp 9), none⟩,
  ⟨(some 38), .bin .add (.tmp 37) (.const (.int .i64 1)), none⟩,
  ⟨(some 9), .mv (.tmp 38), none⟩]) (.skip)))
 (.seq (.seq (.reg [⟨(some 39), .mv (.tmp 0), none⟩,
  ⟨(some 40), .mv (.tmp 3), none⟩,
  ⟨(some 41), .mv (.tmp 8), none⟩,
  ⟨(some 42), .bin .add (.tmp 40) (.tmp 41), none⟩,
  ⟨(some 43), .iad 1 (.tmp 39) (.tmp 42), none⟩,
  ⟨(some 44), .ld none (.tmp 43), none⟩,
  ⟨(some 45), .mv (.tmp 0), none⟩,
  ⟨(some 46), .mv (.tmp 3), none⟩,
  ⟨(some 47), .mv (.tmp 9), none⟩,
  ⟨(some 48), .bin .add (.tmp 46) (.tmp 47), none⟩,
  ⟨(some 49), .iad 1 (.tmp 45) (.tmp 48), none⟩,
  ⟨(some 50), .ld none (.tmp 49), none⟩,
  ⟨(some 51), .rcall (.func 148) [(.tmp 44), (.tmp 50)], none⟩,
  ⟨(some 52), .un .not (.tmp 51), none⟩])
 (.cond (.tmp 52) (.ret) (.skip)))
 (.seq (.reg [⟨(some 53), .mv (.tmp 0), none⟩,
  ⟨(some 54), .mv (.tmp 3), none⟩,
  ⟨(some 55), .mv (.tmp 8), none⟩,
  ⟨(some 56), .bin .add (.tmp 54) (.tmp 55), none⟩,
  ⟨(some 57), .mv (.tmp 0), none⟩,
  ⟨(some 58), .mv (.tmp 3), none⟩,
  ⟨(some 59), .mv (.tmp 9), none⟩,
  ⟨(some 60), .bin .add (.tmp 58) (.tmp 59), none⟩,
  ⟨(some 61), .mv (.tmp 0), none⟩,
  ⟨(some 62), .mv (.tmp 3), none⟩,
  ⟨(some 63), .mv (.tmp 9), none⟩,
  ⟨(some 64), .bin .add (.tmp 62) (.tmp 63), none⟩,
  ⟨(some 65), .iad 1 (.tmp 61) (.tmp 64), none⟩,
  ⟨(some 66), .ld none (.tmp 65), none⟩,
  ⟨(some 67), .mv (.tmp 0), none⟩,
  ⟨(some 68), .mv (.tmp 3), none⟩,
  ⟨(some 69), .mv (.tmp 8), none⟩,
  ⟨(some 70), .bin .add (.tmp 68) (.tmp 69), none⟩,
  ⟨(some 71), .iad 1 (.tmp 67) (.tmp 70), none⟩,
  ⟨(some 72), .ld none (.tmp 71), none⟩,
  ⟨(some 73), .iad 1 (.tmp 53) (.tmp 56), none⟩,
  ⟨none, .st 1 (.tmp 73) (.tmp 66), none⟩,
  ⟨(some 74), .iad 1 (.tmp 57) (.tmp 60), none⟩,
  ⟨none, .st 1 (.tmp 74) (.tmp 72), none⟩])
 (.reg [⟨(some 75), .mv (.tmp 9), none⟩,
  ⟨(some 8), .mv (.tmp 75), none⟩])))))))))
def r_slices_siftDownOrdered : List ARes := []
theorem ok_slices_siftDownOrdered : FnOk Try.prog 153 76 c_slices_siftDownOrdered r_slices_siftDownOrdered := ⟨⟨Try.f153, _, Try.func153, by kernel_rfl, rfl, rfl, by kernel_rfl, by kernel_rfl⟩⟩
def c_slices_nextPowerOfTwo : ACode := .seq (.reg [⟨(some 2), .mv (.const (.int .u64 0)), none⟩])
 (.seq (.reg [⟨(some 3), .mv (.tmp 0), none⟩,
  ⟨(some 4), .conv .u64 (.tmp 3), none⟩,
  ⟨(some 5), .call (.func 136) [(.tmp 4)], none⟩,
  ⟨(some 6), .bin .shl (.const (.int .u64 1)) (.tmp 5), none⟩,
  ⟨(some 2), .mv (.tmp 6), none⟩])
 (.ret))
def r_slices_nextPowerOfTwo : List ARes := [.tmp 2]
theorem ok_slices_nextPowerOfTwo : FnOk Try.prog 154 7 c_slices_nextPowerOfTwo r_slices_nextPowerOfTwo := ⟨⟨Try.f154, _, Try.func154, by kernel_rfl, rfl, rfl, by kernel_rfl, by kernel_rfl⟩⟩
def c_slices_medianAdjacentOrdered : ACode := .seq (.reg [⟨(some 6), .mv (.const (.int .i64 0)), none⟩])
 (.seq (.reg [⟨(some 7), .mv (.tmp 0), none⟩,
  ⟨(some 8), .mv (.tmp 1), none⟩,
  ⟨(some 9), .bin .sub (.tmp 8) (.const (.int .i64 1)), none⟩,
  ⟨(some 10), .mv (.tmp 1), none⟩,
  ⟨(some 11), .mv (.tmp 1), none⟩,
  ⟨(some 12), .bin .add (.tmp 11) (.const (.int .i64 1)), none⟩,
  ⟨(some 13), .mv (.tmp 2), none⟩,
  ⟨(some 14), .call (.func 157) [(.tmp 7), (.tmp 9), (.tmp 10), (.tmp 12), (.tmp 13)], none⟩,
  ⟨(some 6), .mv (.tmp 14), none⟩])
 (.ret))
def r_slices_medianAdjacentOrdered : List ARes := [.tmp 6]
theorem ok_slices_medianAdjacentOrdered : FnOk Try.prog 156 15 c_slices_medianAdjacentOrdered r_slices_medianAdjacentOrdered := ⟨⟨Try.f156, _, Try.func156, by kernel_rfl, rfl, rfl, by kernel_rfl, by kernel_rfl⟩⟩
def c_slices_medianOrdered : ACode := .seq (.reg [⟨(some 10), .mv (.const (.int .i64 0)), none⟩])
 (.seq (.reg [⟨(some 12), .mv (.tmp 0), none⟩,
  ⟨(some 13), .mv (.tmp 1), none⟩,
  ⟨(some 14), .mv (.tmp 2), none⟩,
  ⟨(some 15), .mv (.tmp 4), none⟩,
  ⟨(some 16), .call (.func 159) [(.tmp 12), (.tmp 13), (.tmp 14), (.tmp 15)], none⟩,
  ⟨(some 11), .mv (.tmp 16), none⟩,
  ⟨(some 17), .ext 0 (.tmp 11), none⟩,
  ⟨(some 18), .ext 1 (.tmp 11), none⟩,
  ⟨(some 1), .mv (.tmp 17), none⟩,
  ⟨(some 2), .mv (.tmp 18), none⟩])
 (.seq (.reg [⟨(some 20), .mv (.tmp 0), none⟩,
  ⟨(some 21), .mv (.tmp 2), none⟩,
  ⟨(some 22), .mv (.tmp 3), none⟩,
  ⟨(some 23), .mv (.tmp 4), none⟩,
  ⟨(some 24), .call (.func 159) [(.tmp 20), (.tmp 21), (.tmp 22), (.tmp 23)], none⟩,
  ⟨(some 19), .mv (.tmp 24), none⟩,
  ⟨(some 25), .ext 0 (.tmp 19), none⟩,
  ⟨(some 26), .ext 1 (.tmp 19), none⟩,
  ⟨(some 2), .mv (.tmp 25), none⟩,
  ⟨(some 3), .mv (.tmp 26), none⟩])
 (.seq (.reg [⟨(some 28), .mv (.tmp 0), none⟩,
  ⟨(some 29), .mv (.tmp 1), none⟩,
  ⟨(some 30), .mv (.tmp 2), none⟩,
  ⟨(some 31), .mv (.tmp 4), none⟩,
  ⟨(some 32), .call (.func 159) [(.tmp 28), (.tmp 29), (.tmp 30), (.tmp 31)], none⟩,
  ⟨(some 27), .mv (.tmp 32), none⟩,
  ⟨(some 33), .ext 0 (.tmp 27), none⟩,
  ⟨(some 34), .ext 1 (.tmp 27), none⟩,
  ⟨(some 1), .mv (.tmp 33), none⟩,
  ⟨(some 2), .mv (.tmp 34), none⟩])
 (.seq (.reg [⟨(some 35), .mv (.tmp 2), none⟩,
  ⟨(some 10), .mv (.tmp 35), none⟩])
 (.ret)))))
def r_slices_medianOrdered : List ARes := [.tmp 10]
theorem ok_slices_medianOrdered : FnOk Try.prog 157 36 c_slices_medianOrdered r_slices_medianOrdered := ⟨⟨Try.f157, _, Try.func157, by kernel_rfl, rfl, rfl, by kernel_rfl, by kernel_rfl⟩⟩
def c_cmp_isNaN : ACode := .seq (.reg [⟨(some 2), .mv (.const (.bool false)), none⟩])
 (.seq (.reg [⟨(some 3), .mv (.tmp 0), none⟩,
  ⟨(some 4), .mv (.tmp 0), none⟩,
  ⟨(some 5), .bin .neq (.tmp 3) (.tmp 4), none⟩,
  ⟨(some 2), .mv (.tmp 5), none⟩])
 (.ret))
def r_cmp_isNaN : List ARes := [.tmp 2]
theorem ok_cmp_isNaN : FnOk Try.prog 158 6 c_cmp_isNaN r_cmp_isNaN := ⟨⟨Try.f158, _, Try.func158, by kernel_rfl, rfl, rfl, by kernel_rfl, by kernel_rfl⟩⟩
def c_slices_order2Ordered : ACode := .seq (.reg [⟨(some 8), .mv (.const (.int .i64 0)), none⟩,
  ⟨(some 9), .mv (.const (.int .i64 0)), none⟩])
 (.seq (.seq (.reg [⟨(some 10), .mv (.tmp 0), none⟩,
  ⟨(some 11), .mv (.tmp 2), none⟩,
  ⟨(some 12), .iad 1 (.tmp 10) (.tmp 11), none⟩,
  ⟨(some 13), .ld none (.tmp 12), none⟩,
  ⟨(some 14), .mv (.tmp 0), none⟩,
  ⟨(some 15), .mv (.tmp 1), none⟩,
  ⟨(some 16), .iad 1 (.tmp 14) (.tmp 15), none⟩,
  ⟨(some 17), .ld none (.tmp 16), none⟩,
  ⟨(some 18), .rcall (.func 148) [(.tmp 13), (.tmp 17)], none⟩])
 (.cond (.tmp 18) (.seq (.reg [⟨(some 19), .mv (.tmp 3), none⟩,
  ⟨(some 20), .nilc (.tmp 19), none⟩,
  ⟨(some 21), .ld none (.tmp 20), none⟩,
  ⟨(some 22), .bin .add (.tmp 21) (.const (.int .i64 1)), none⟩,
  ⟨(some 23), .nilc (.tmp 19), none⟩,
  ⟨none, .st 1 (.tmp 23) (.tmp 22), none⟩])
 (.seq (.reg [⟨(some 24), .mv (.tmp 2), none⟩,
  ⟨(some 25), .mv (.tmp 1), none⟩,
  ⟨(some 8), .mv (.tmp 24), none⟩,
  ⟨(some 9), .mv (.tmp 25), none⟩])
 (.ret))) (.skip)))
 (.seq (.reg [⟨(some 26), .mv (.tmp 1), none⟩,
  ⟨(some 27), .mv (.tmp 2), none⟩,
  ⟨(some 8), .mv (.tmp 26), none⟩,
  ⟨(some 9), .mv (.tmp 27), none⟩])
 (.ret)))
def r_slices_order2Ordered : List ARes := [.tmp 8, .tmp 9]
theorem ok_slices_order2Ordered : FnOk Try.prog 159 28 c_slices_order2Ordered r_slices_order2Ordered := ⟨⟨Try.f159, _, Try.func159, by kernel_rfl, rfl, rfl, by kernel_rfl, by kernel_rfl⟩⟩
end Go.Proofs.Ytnkbjliidenldaa.Ab
