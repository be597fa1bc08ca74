/- The compiled forms of functions, each checked against the translation. -/
import Derived.Test.YtolfmoniedgmeaaDoorAb2
import Derived.Test.YtolfmoniedgmeaaDoorProg
namespace Go.Proofs.YtolfmoniedgmeaaDoor.Ab
open Go Go.RowKit Go.Proofs
set_option maxRecDepth 100000
def c_spec_CaseText : ACode := .seq (.reg [⟨(some 1), .box 28 (.tmp 0), none⟩,
  ⟨(some 2), .mv (.const (.string ⟨#[]⟩)), none⟩,
  ⟨(some 3), .mv (.const (.bool false)), none⟩])
 (.seq (.seq (.reg [⟨(some 4), .ld (some 4) (.tmp 1), none⟩,
  ⟨(some 5), .call (.func 15) [(.tmp 4)], none⟩,
  ⟨(some 6), .un .not (.tmp 5), none⟩])
 (.cond (.tmp 6) (.seq (.reg [⟨(some 2), .mv (.const (.string ⟨#[]⟩)), none⟩,
  ⟨(some 3), .mv (.const (.bool false)), none⟩])
 (.ret)) (.skip)))
 (.seq (.reg [⟨(some 7), .ld (some 4) (.tmp 1), none⟩,
  ⟨(some 8), .call (.func 16) [(.tmp 7)], none⟩,
  ⟨(some 2), .mv (.tmp 8), none⟩,
  ⟨(some 3), .mv (.const (.bool true)), none⟩])
 (.ret)))
def r_spec_CaseText : List ARes := [.tmp 2, .tmp 3]
theorem ok_spec_CaseText : FnOk Tryd.prog 6 9 c_spec_CaseText r_spec_CaseText := ⟨⟨Tryd.f6, _, Tryd.func6, by kernel_rfl, rfl, rfl, by kernel_rfl, by kernel_rfl⟩⟩
def c_impl_CaseText : ACode := .seq (.reg [⟨(some 1), .box 28 (.tmp 0), none⟩,
  ⟨(some 2), .mv (.const (.string ⟨#[]⟩)), none⟩,
  ⟨(some 3), .mv (.const (.bool false)), none⟩])
 (.seq (.seq (.reg [⟨(some 6), .ld (some 4) (.tmp 1), none⟩,
  ⟨(some 7), .call (.func 18) [(.tmp 6)], none⟩,
  ⟨(some 8), .un .not (.tmp 7), none⟩])
 (.cond (.tmp 8) (.seq (.reg [⟨(some 2), .mv (.const (.string ⟨#[]⟩)), none⟩,
  ⟨(some 3), .mv (.const (.bool false)), none⟩])
 (.ret)) (.skip)))
 (.seq (.reg [⟨(some 9), .bsl 22 1 0 [] [], none⟩,
  ⟨(some 4), .mv (.tmp 9), none⟩])
 (.seq (.seq (.reg [⟨(some 10), .fad 0 (.tmp 1), none⟩,
  ⟨(some 11), .ld none (.tmp 10), none⟩,
  ⟨(some 12), .len (.tmp 11), none⟩,
  ⟨(some 13), .mv (.const (.int .i64 0)), none⟩])
 (.block 0 (.loop (.seq (.reg [⟨(some 14), .bin .lss (.tmp 13) (.tmp 12), none⟩])
 (.seq (.cond (.tmp 14) (.skip) (.exit 0))
 (.seq (.block 1 (.seq (.reg [⟨(some 15), .mv (.tmp 13), none⟩,
  ⟨(some 5), .mv (.tmp 15), none⟩])
 (.reg [⟨(some 16), .mv (.tmp 4), none⟩,
  ⟨(some 17), .fad 0 (.tmp 1), none⟩,
  ⟨(some 18), .ld none (.tmp 17), none⟩,
  ⟨(some 19), .mv (.tmp 5), none⟩,
  ⟨(some 20), .iad 1 (.tmp 18) (.tmp 19), none⟩,
  ⟨(some 21), .ld none (.tmp 20), none⟩,
  ⟨(some 22), .fad 1 (.tmp 1), none⟩,
  ⟨(some 23), .ld none (.tmp 22), none⟩,
  ⟨(some 24), .mv (.tmp 5), none⟩,
  ⟨(some 25), .iad 1 (.tmp 23) (.tmp 24), none⟩,
  ⟨(some 26), .ld none (.tmp 25), none⟩,
  ⟨(some 27), .fad 2 (.tmp 1), none⟩,
  ⟨(some 28), .ld none (.tmp 27), none⟩,
  ⟨(some 29), .mv (.tmp 5), none⟩,
  ⟨(some 30), .iad 1 (.tmp 28) (.tmp 29), none⟩,
  ⟨(some 31), .ld none (.tmp 30), none⟩,
  ⟨(some 32), .fad 3 (.tmp 1), none⟩,
  ⟨(some 33), .ld none (.tmp 32), none⟩,
  ⟨(some 34), .mv (.tmp 5), none⟩,
  ⟨(some 35), .iad 1 (.tmp 33) (.tmp 34), none⟩,
  ⟨(some 36), .ld none (.tmp 35), none⟩,
  ⟨(some 37), .bsl 3 1 4 [(.int .i64 0), (.int .i64 0), (.int .i64 0), (.int .i64 0)] [(0, 1, (.tmp 21)), (1, 1, (.tmp 26)), (2, 1, (.tmp 31)), (3, 1, (.tmp 36))], none⟩,
  ⟨(some 38), .bsl 22 1 1 [(.slice none 0 0)] [(0, 1, (.tmp 37))], none⟩,
  ⟨(some 39), .app 22 1 24 (.tmp 16) (.tmp 38), none⟩,
  ⟨(some 4), .mv (.tmp 39), none⟩])))
 (.reg [⟨(some 40), .bin .add (.tmp 13) (.const (.int .i64 1)), none⟩,
  ⟨(some 13), .mv (.tmp 40), none⟩])))))))
 (.seq (.reg [⟨(some 41), .mv (.tmp 4), none⟩,
  ⟨(some 42), .call (.func 19) [(.tmp 41)], none⟩,
  ⟨(some 43), .ext 0 (.tmp 42), none⟩,
  ⟨(some 44), .ext 1 (.tmp 42), none⟩,
  ⟨(some 2), .mv (.tmp 43), none⟩,
  ⟨(some 3), .mv (.tmp 44), none⟩])
 (.ret)))))
def r_impl_CaseText : List ARes := [.tmp 2, .tmp 3]
theorem ok_impl_CaseText : FnOk Tryd.prog 8 45 c_impl_CaseText r_impl_CaseText := ⟨⟨Tryd.f8, _, Tryd.func8, by kernel_rfl, rfl, rfl, by kernel_rfl, by kernel_rfl⟩⟩
def c_spec_ParseCase : ACode := .seq (.reg [⟨(some 2), .alc 28 [(.slice none 0 0), (.slice none 0 0), (.slice none 0 0), (.slice none 0 0)], none⟩,
  ⟨(some 3), .mv (.const (.bool false)), none⟩])
 (.seq (.reg [⟨(some 9), .bsl 3 1 0 [] [], none⟩,
  ⟨(some 10), .bsl 3 1 0 [] [], none⟩,
  ⟨(some 11), .bsl 3 1 0 [] [], none⟩,
  ⟨(some 12), .bsl 3 1 0 [] [], none⟩,
  ⟨(some 13), .bld [(.slice none 0 0), (.slice none 0 0), (.slice none 0 0), (.slice none 0 0)] [(0, 1, (.tmp 9)), (1, 1, (.tmp 10)), (2, 1, (.tmp 11)), (3, 1, (.tmp 12))], none⟩,
  ⟨(some 4), .alc 28 [(.slice none 0 0), (.slice none 0 0), (.slice none 0 0), (.slice none 0 0)], none⟩,
  ⟨none, .st 4 (.tmp 4) (.tmp 13), none⟩])
 (.seq (.seq (.reg [⟨(some 14), .mv (.tmp 0), none⟩,
  ⟨(some 15), .bin .eql (.tmp 14) (.const (.string ⟨#[110, 111, 110, 101]⟩)), none⟩])
 (.cond (.tmp 15) (.seq (.reg [⟨(some 16), .ld (some 4) (.tmp 4), none⟩,
  ⟨none, .st 4 (.tmp 2) (.tmp 16), none⟩,
  ⟨(some 3), .mv (.const (.bool true)), none⟩])
 (.ret)) (.skip)))
 (.seq (.reg [⟨(some 17), .mv (.tmp 0), none⟩,
  ⟨(some 18), .call (.func 21) [(.tmp 17), (.const (.int .u8 32))], none⟩,
  ⟨(some 5), .mv (.tmp 18), none⟩])
 (.seq (.seq (.reg [⟨(some 6), .mv (.const (.int .i64 0)), none⟩])
 (.block 0 (.loop (.seq (.seq (.reg [⟨(some 19), .mv (.tmp 6), none⟩,
  ⟨(some 20), .mv (.tmp 5), none⟩,
  ⟨(some 21), .len (.tmp 20), none⟩,
  ⟨(some 22), .bin .lss (.tmp 19) (.tmp 21), none⟩,
  ⟨(some 23), .mv (.tmp 22), none⟩,
  ⟨(some 24), .mv (.tmp 6), (some (23, true))⟩,
  ⟨(some 25), .bin .leq (.tmp 24) (.const (.int .i64 8)), (some (23, true))⟩,
  ⟨(some 26), .pick (.tmp 23) (.tmp 25) (.const (.bool false)), none⟩])
 (.cond (.tmp 26) (.skip) (.exit 0)))
 (.seq (.block 1 (.seq (.reg [⟨(some 30), .mv (.tmp 5), none⟩,
  ⟨(some 31), .mv (.tmp 6), none⟩,
  ⟨(some 32), .iad 1 (.tmp 30) (.tmp 31), none⟩,
  ⟨(some 33), .ld none (.tmp 32), none⟩,
  ⟨(some 34), .call (.func 22) [(.tmp 33)], none⟩,
  ⟨(some 29), .mv (.tmp 34), none⟩,
  ⟨(some 35), .ext 0 (.tmp 29), none⟩,
  ⟨(some 36), .ext 1 (.tmp 29), none⟩,
  ⟨(some 7), .alc 45 [(.int .i64 0), (.int .i64 0), (.int .i64 0), (.int .i64 0)], none⟩,
  ⟨none, .st 4 (.tmp 7) (.tmp 35), none⟩,
  ⟨(some 8), .mv (.tmp 36), none⟩])
 (.seq (.seq (.reg [⟨(some 37), .mv (.tmp 8), none⟩,
  ⟨(some 38), .un .not (.tmp 37), none⟩])
 (.cond (.tmp 38) (.seq (.reg [⟨(some 39), .bld [(.slice none 0 0), (.slice none 0 0), (.slice none 0 0), (.slice none 0 0)] [], none⟩,
  ⟨none, .st 4 (.tmp 2) (.tmp 39), none⟩,
  ⟨(some 3), .mv (.const (.bool false)), none⟩])
 (.ret)) (.skip)))
 (.seq (.reg [⟨(some 40), .fad 0 (.tmp 4), none⟩,
  ⟨(some 41), .ld none (.tmp 40), none⟩,
  ⟨(some 42), .iada 1 4 (.tmp 7) (.const (.int .i64 0)), none⟩,
  ⟨(some 43), .ld none (.tmp 42), none⟩,
  ⟨(some 44), .bsl 3 1 1 [(.int .i64 0)] [(0, 1, (.tmp 43))], none⟩,
  ⟨(some 45), .app 3 1 8 (.tmp 41) (.tmp 44), none⟩,
  ⟨(some 46), .fad 0 (.tmp 4), none⟩,
  ⟨none, .st 1 (.tmp 46) (.tmp 45), none⟩])
 (.seq (.reg [⟨(some 47), .fad 1 (.tmp 4), none⟩,
  ⟨(some 48), .ld none (.tmp 47), none⟩,
  ⟨(some 49), .iada 1 4 (.tmp 7) (.const (.int .i64 1)), none⟩,
  ⟨(some 50), .ld none (.tmp 49), none⟩,
  ⟨(some 51), .bsl 3 1 1 [(.int .i64 0)] [(0, 1, (.tmp 50))], none⟩,
  ⟨(some 52), .app 3 1 8 (.tmp 48) (.tmp 51), none⟩,
  ⟨(some 53), .fad 1 (.tmp 4), none⟩,
  ⟨none, .st 1 (.tmp 53) (.tmp 52), none⟩])
 (.seq (.reg [⟨(some 54), .fad 2 (.tmp 4), none⟩,
  ⟨(some 55), .ld none (.tmp 54), none⟩,
  ⟨(some 56), .iada 1 4 (.tmp 7) (.const (.int .i64 2)), none⟩,
  ⟨(some 57), .ld none (.tmp 56), none⟩,
  ⟨(some 58), .bsl 3 1 1 [(.int .i64 0)] [(0, 1, (.tmp 57))], none⟩,
  ⟨(some 59), .app 3 1 8 (.tmp 55) (.tmp 58), none⟩,
  ⟨(some 60), .fad 2 (.tmp 4), none⟩,
  ⟨none, .st 1 (.tmp 60) (.tmp 59), none⟩])
 (.reg [⟨(some 61), .fad 3 (.tmp 4), none⟩,
  ⟨(some 62), .ld none (.tmp 61), none⟩,
  ⟨(some 63), .iada 1 4 (.tmp 7) (.const (.int .i64 3)), none⟩,
  ⟨(some 64), .ld none (.tmp 63), none⟩,
  ⟨(some 65), .bsl 3 1 1 [(.int .i64 0)] [(0, 1, (.tmp 64))], none⟩,
  ⟨(some 66), .app 3 1 8 (.tmp 62) (.tmp 65), none⟩,
  ⟨(some 67), .fad 3 (.tmp 4), none⟩,
  ⟨none, .st 1 (.tmp 67) (.tmp 66), none⟩])))))))
 (.reg [⟨(some 27), .mv (.tmp 6), none⟩,
  ⟨(some 28), .bin .add (.tmp 27) (.const (.int .i64 1)), none⟩,
  ⟨(some 6), .mv (.tmp 28), none⟩]))))))
 (.seq (.seq (.reg [⟨(some 68), .ld (some 4) (.tmp 4), none⟩,
  ⟨(some 69), .call (.func 15) [(.tmp 68)], none⟩,
  ⟨(some 70), .un .not (.tmp 69), none⟩,
  ⟨(some 71), .mv (.tmp 70), none⟩,
  ⟨(some 72), .ld (some 4) (.tmp 4), (some (71, false))⟩,
  ⟨(some 73), .call (.func 16) [(.tmp 72)], (some (71, false))⟩,
  ⟨(some 74), .mv (.tmp 0), (some (71, false))⟩,
  ⟨(some 75), .bin .neq (.tmp 73) (.tmp 74), (some (71, false))⟩,
  ⟨(some 76), .pick (.tmp 71) (.const (.bool true)) (.tmp 75), none⟩])
 (.cond (.tmp 76) (.seq (.reg [⟨(some 77), .bld [(.slice none 0 0), (.slice none 0 0), (.slice none 0 0), (.slice none 0 0)] [], none⟩,
  ⟨none, .st 4 (.tmp 2) (.tmp 77), none⟩,
  ⟨(some 3), .mv (.const (.bool false)), none⟩])
 (.ret)) (.skip)))
 (.seq (.reg [⟨(some 78), .ld (some 4) (.tmp 4), none⟩,
  ⟨none, .st 4 (.tmp 2) (.tmp 78), none⟩,
  ⟨(some 3), .mv (.const (.bool true)), none⟩])
 (.ret)))))))
def r_spec_ParseCase : List ARes := [.cell 2 (some 4), .tmp 3]
theorem ok_spec_ParseCase : FnOk Tryd.prog 10 79 c_spec_ParseCase r_spec_ParseCase := ⟨⟨Tryd.f10, _, Tryd.func10, by kernel_rfl, rfl, rfl, by kernel_rfl, by kernel_rfl⟩⟩
def c_impl_ParseCase : ACode := .seq (.reg [⟨(some 2), .alc 28 [(.slice none 0 0), (.slice none 0 0), (.slice none 0 0), (.slice none 0 0)], none⟩,
  ⟨(some 3), .mv (.const (.bool false)), none⟩])
 (.seq (.seq (.reg [⟨(some 11), .mv (.tmp 0), none⟩,
  ⟨(some 12), .bin .eql (.tmp 11) (.const (.string ⟨#[110, 111, 110, 101]⟩)), none⟩])
 (.cond (.tmp 12) (.seq (.reg [⟨(some 13), .bld [(.slice none 0 0), (.slice none 0 0), (.slice none 0 0), (.slice none 0 0)] [], none⟩,
  ⟨none, .st 4 (.tmp 2) (.tmp 13), none⟩,
  ⟨(some 3), .mv (.const (.bool true)), none⟩])
 (.ret)) (.skip)))
 (.seq (.reg [⟨(some 15), .mv (.tmp 0), none⟩,
  ⟨(some 16), .call (.func 23) [(.tmp 15), (.const (.string ⟨#[32]⟩))], none⟩,
  ⟨(some 14), .mv (.tmp 16), none⟩,
  ⟨(some 17), .ext 0 (.tmp 14), none⟩,
  ⟨(some 18), .ext 1 (.tmp 14), none⟩,
  ⟨(some 4), .mv (.tmp 17), none⟩,
  ⟨(some 5), .mv (.tmp 18), none⟩])
 (.seq (.seq (.reg [⟨(some 19), .mv (.tmp 5), none⟩,
  ⟨(some 20), .un .not (.tmp 19), none⟩])
 (.cond (.tmp 20) (.seq (.reg [⟨(some 21), .bld [(.slice none 0 0), (.slice none 0 0), (.slice none 0 0), (.slice none 0 0)] [], none⟩,
  ⟨none, .st 4 (.tmp 2) (.tmp 21), none⟩,
  ⟨(some 3), .mv (.const (.bool false)), none⟩])
 (.ret)) (.skip)))
 (.seq (.reg [⟨(some 6), .alc 28 [(.slice none 0 0), (.slice none 0 0), (.slice none 0 0), (.slice none 0 0)], none⟩])
 (.seq (.seq (.reg [⟨(some 22), .mv (.tmp 4), none⟩,
  ⟨(some 23), .len (.tmp 22), none⟩,
  ⟨(some 24), .mv (.const (.int .i64 0)), none⟩])
 (.block 0 (.loop (.seq (.reg [⟨(some 25), .bin .lss (.tmp 24) (.tmp 23), none⟩])
 (.seq (.cond (.tmp 25) (.skip) (.exit 0))
 (.seq (.block 1 (.seq (.reg [⟨(some 26), .iad 1 (.tmp 22) (.tmp 24), none⟩,
  ⟨(some 27), .ld none (.tmp 26), none⟩,
  ⟨(some 8), .mv (.tmp 27), none⟩])
 (.seq (.reg [⟨(some 29), .mv (.tmp 8), none⟩,
  ⟨(some 30), .call (.func 24) [(.tmp 29)], none⟩,
  ⟨(some 28), .mv (.tmp 30), none⟩,
  ⟨(some 31), .ext 0 (.tmp 28), none⟩,
  ⟨(some 32), .ext 1 (.tmp 28), none⟩,
  ⟨(some 9), .alc 45 [(.int .i64 0), (.int .i64 0), (.int .i64 0), (.int .i64 0)], none⟩,
  ⟨none, .st 4 (.tmp 9) (.tmp 31), none⟩,
  ⟨(some 10), .mv (.tmp 32), none⟩])
 (.seq (.seq (.reg [⟨(some 33), .mv (.tmp 10), none⟩,
  ⟨(some 34), .un .not (.tmp 33), none⟩])
 (.cond (.tmp 34) (.seq (.reg [⟨(some 35), .bld [(.slice none 0 0), (.slice none 0 0), (.slice none 0 0), (.slice none 0 0)] [], none⟩,
  ⟨none, .st 4 (.tmp 2) (.tmp 35), none⟩,
  ⟨(some 3), .mv (.const (.bool false)), none⟩])
 (.ret)) (.skip)))
 (.seq (.bad)
 (.bad))))))
 (.reg [⟨(some 64), .bin .add (.tmp 24) (.const (.int .i64 1)), none⟩,
  ⟨(some 24), .mv (.tmp 64), none⟩])))))))
 (.seq (.seq (.reg [⟨(some 65), .ld (some 4) (.tmp 6), none⟩,
  ⟨(some 66), .call (.func 18) [(.tmp 65)], none⟩,
  ⟨(some 67), .un .not (.tmp 66), none⟩])
 (.cond (.tmp 67) (.seq (.reg [⟨(some 68), .bld [(.slice none 0 0), (.slice none 0 0), (.slice none 0 0), (.slice none 0 0)] [], none⟩,
  ⟨none, .st 4 (.tmp 2) (.tmp 68), none⟩,
  ⟨(some 3), .mv (.const (.bool false)), none⟩])
 (.ret)) (.skip)))
 (.seq (.reg [⟨(some 69), .ld (some 4) (.tmp 6), none⟩,
  ⟨none, .st 4 (.tmp 2) (.tmp 69), none⟩,
  ⟨(some 3), .mv (.const (.bool true)), none⟩])
 (.ret))))))))
def r_impl_ParseCase : List ARes := [.cell 2 (some 4), .tmp 3]
theorem ok_impl_ParseCase : FnOk Tryd.prog 11 70 c_impl_ParseCase r_impl_ParseCase := ⟨⟨Tryd.f11, _, Tryd.func11, by kernel_rfl, rfl, rfl, by kernel_rfl, by kernel_rfl⟩⟩
def c_spec_l2Good : ACode := .seq (.reg [⟨(some 1), .box 28 (.tmp 0), none⟩,
  ⟨(some 2), .mv (.const (.bool false)), none⟩])
 (.seq (.reg [⟨(some 4), .fad 0 (.tmp 1), none⟩,
  ⟨(some 5), .ld none (.tmp 4), none⟩,
  ⟨(some 6), .len (.tmp 5), none⟩,
  ⟨(some 3), .mv (.tmp 6), none⟩])
 (.seq (.reg [⟨(some 7), .mv (.tmp 3), none⟩,
  ⟨(some 8), .bin .leq (.tmp 7) (.const (.int .i64 8)), none⟩,
  ⟨(some 9), .mv (.tmp 8), none⟩,
  ⟨(some 10), .fad 0 (.tmp 1), (some (9, true))⟩,
  ⟨(some 11), .ld none (.tmp 10), (some (9, true))⟩,
  ⟨(some 12), .mv (.tmp 3), (some (9, true))⟩,
  ⟨(some 13), .call (.func 27) [(.tmp 11), (.tmp 12), (.const (.int .i64 20))], (some (9, true))⟩,
  ⟨(some 14), .pick (.tmp 9) (.tmp 13) (.const (.bool false)), none⟩,
  ⟨(some 15), .mv (.tmp 14), none⟩,
  ⟨(some 16), .fad 1 (.tmp 1), (some (15, true))⟩,
  ⟨(some 17), .ld none (.tmp 16), (some (15, true))⟩,
  ⟨(some 18), .mv (.tmp 3), (some (15, true))⟩,
  ⟨(some 19), .call (.func 27) [(.tmp 17), (.tmp 18), (.const (.int .i64 99))], (some (15, true))⟩,
  ⟨(some 20), .pick (.tmp 15) (.tmp 19) (.const (.bool false)), none⟩,
  ⟨(some 21), .mv (.tmp 20), none⟩,
  ⟨(some 22), .fad 2 (.tmp 1), (some (21, true))⟩,
  ⟨(some 23), .ld none (.tmp 22), (some (21, true))⟩,
  ⟨(some 24), .mv (.tmp 3), (some (21, true))⟩,
  ⟨(some 25), .call (.func 27) [(.tmp 23), (.tmp 24), (.const (.int .i64 9))], (some (21, true))⟩,
  ⟨(some 26), .pick (.tmp 21) (.tmp 25) (.const (.bool false)), none⟩,
  ⟨(some 27), .mv (.tmp 26), none⟩,
  ⟨(some 28), .fad 3 (.tmp 1), (some (27, true))⟩,
  ⟨(some 29), .ld none (.tmp 28), (some (27, true))⟩,
  ⟨(some 30), .mv (.tmp 3), (some (27, true))⟩,
  ⟨(some 31), .call (.func 27) [(.tmp 29), (.tmp 30), (.const (.int .i64 9))], (some (27, true))⟩,
  ⟨(some 32), .pick (.tmp 27) (.tmp 31) (.const (.bool false)), none⟩,
  ⟨(some 2), .mv (.tmp 32), none⟩])
 (.ret)))
def r_spec_l2Good : List ARes := [.tmp 2]
theorem ok_spec_l2Good : FnOk Tryd.prog 15 33 c_spec_l2Good r_spec_l2Good := ⟨⟨Tryd.f15, _, Tryd.func15, by kernel_rfl, rfl, rfl, by kernel_rfl, by kernel_rfl⟩⟩
def c_spec_l2Text : ACode := .seq (.reg [⟨(some 1), .box 28 (.tmp 0), none⟩,
  ⟨(some 2), .mv (.const (.string ⟨#[]⟩)), none⟩])
 (.seq (.reg [⟨(some 3), .mv (.const (.string ⟨#[]⟩)), none⟩])
 (.seq (.seq (.reg [⟨(some 4), .mv (.const (.int .i64 0)), none⟩])
 (.block 0 (.loop (.seq (.seq (.reg [⟨(some 5), .mv (.tmp 4), none⟩,
  ⟨(some 6), .fad 0 (.tmp 1), none⟩,
  ⟨(some 7), .ld none (.tmp 6), none⟩,
  ⟨(some 8), .len (.tmp 7), none⟩,
  ⟨(some 9), .bin .lss (.tmp 5) (.tmp 8), none⟩])
 (.cond (.tmp 9) (.skip) (.exit 0)))
 (.seq (.block 1 (.seq (.seq (.reg [⟨(some 12), .mv (.tmp 4), none⟩,
  ⟨(some 13), .bin .gtr (.tmp 12) (.const (.int .i64 0)), none⟩])
 (.cond (.tmp 13) (.reg [⟨(some 14), .mv (.tmp 3), none⟩,
  ⟨(some 15), .bin .add (.tmp 14) (.const (.string ⟨#[32]⟩)), none⟩,
  ⟨(some 3), .mv (.tmp 15), none⟩]) (.skip)))
 (.reg [⟨(some 16), .mv (.tmp 3), none⟩,
  ⟨(some 17), .fad 0 (.tmp 1), none⟩,
  ⟨(some 18), .ld none (.tmp 17), none⟩,
  ⟨(some 19), .mv (.tmp 4), none⟩,
  ⟨(some 20), .iad 1 (.tmp 18) (.tmp 19), none⟩,
  ⟨(some 21), .ld none (.tmp 20), none⟩,
  ⟨(some 25), .fad 1 (.tmp 1), none⟩,
  ⟨(some 26), .ld none (.tmp 25), none⟩,
  ⟨(some 27), .mv (.tmp 4), none⟩,
  ⟨(some 28), .iad 1 (.tmp 26) (.tmp 27), none⟩,
  ⟨(some 29), .ld none (.tmp 28), none⟩,
  ⟨(some 33), .fad 2 (.tmp 1), none⟩,
  ⟨(some 34), .ld none (.tmp 33), none⟩,
  ⟨(some 35), .mv (.tmp 4), none⟩,
  ⟨(some 36), .iad 1 (.tmp 34) (.tmp 35), none⟩,
  ⟨(some 37), .ld none (.tmp 36), none⟩,
  ⟨(some 41), .fad 3 (.tmp 1), none⟩,
  ⟨(some 42), .ld none (.tmp 41), none⟩,
  ⟨(some 43), .mv (.tmp 4), none⟩,
  ⟨(some 44), .iad 1 (.tmp 42) (.tmp 43), none⟩,
  ⟨(some 45), .ld none (.tmp 44), none⟩,
  ⟨(some 22), .rcall (.func 28) [(.tmp 21)], none⟩,
  ⟨(some 23), .bin .add (.tmp 16) (.tmp 22), none⟩,
  ⟨(some 24), .bin .add (.tmp 23) (.const (.string ⟨#[47]⟩)), none⟩,
  ⟨(some 30), .rcall (.func 28) [(.tmp 29)], none⟩,
  ⟨(some 31), .bin .add (.tmp 24) (.tmp 30), none⟩,
  ⟨(some 32), .bin .add (.tmp 31) (.const (.string ⟨#[47]⟩)), none⟩,
  ⟨(some 38), .rcall (.func 28) [(.tmp 37)], none⟩,
  ⟨(some 39), .bin .add (.tmp 32) (.tmp 38), none⟩,
  ⟨(some 40), .bin .add (.tmp 39) (.const (.string ⟨#[47]⟩)), none⟩,
  ⟨(some 46), .rcall (.func 28) [(.tmp 45)], none⟩,
  ⟨(some 47), .bin .add (.tmp 40) (.tmp 46), none⟩,
  ⟨(some 3), .mv (.tmp 47), none⟩])))
 (.reg [⟨(some 10), .mv (.tmp 4), none⟩,
  ⟨(some 11), .bin .add (.tmp 10) (.const (.int .i64 1)), none⟩,
  ⟨(some 4), .mv (.tmp 11), none⟩]))))))
 (.seq (.seq (.reg [⟨(some 48), .fad 0 (.tmp 1), none⟩,
  ⟨(some 49), .ld none (.tmp 48), none⟩,
  ⟨(some 50), .len (.tmp 49), none⟩,
  ⟨(some 51), .bin .eql (.tmp 50) (.const (.int .i64 0)), none⟩])
 (.cond (.tmp 51) (.seq (.reg [⟨(some 2), .mv (.const (.string ⟨#[110, 111, 110, 101]⟩)), none⟩])
 (.ret)) (.skip)))
 (.seq (.reg [⟨(some 52), .mv (.tmp 3), none⟩,
  ⟨(some 2), .mv (.tmp 52), none⟩])
 (.ret)))))
def r_spec_l2Text : List ARes := [.tmp 2]
theorem ok_spec_l2Text : FnOk Tryd.prog 16 53 c_spec_l2Text r_spec_l2Text := ⟨⟨Tryd.f16, _, Tryd.func16, by kernel_rfl, rfl, rfl, by kernel_rfl, by kernel_rfl⟩⟩
def c_impl_IsCase : ACode := .seq (.reg [⟨(some 1), .box 28 (.tmp 0), none⟩,
  ⟨(some 2), .mv (.const (.bool false)), none⟩])
 (.seq (.reg [⟨(some 4), .fad 0 (.tmp 1), none⟩,
  ⟨(some 5), .ld none (.tmp 4), none⟩,
  ⟨(some 6), .len (.tmp 5), none⟩,
  ⟨(some 3), .mv (.tmp 6), none⟩])
 (.seq (.reg [⟨(some 7), .mv (.tmp 3), none⟩,
  ⟨(some 8), .bin .leq (.tmp 7) (.const (.int .i64 8)), none⟩,
  ⟨(some 9), .mv (.tmp 8), none⟩,
  ⟨(some 10), .fad 0 (.tmp 1), (some (9, true))⟩,
  ⟨(some 11), .ld none (.tmp 10), (some (9, true))⟩,
  ⟨(some 12), .mv (.tmp 3), (some (9, true))⟩,
  ⟨(some 13), .call (.func 29) [(.tmp 11), (.tmp 12), (.const (.int .i64 20))], (some (9, true))⟩,
  ⟨(some 14), .pick (.tmp 9) (.tmp 13) (.const (.bool false)), none⟩,
  ⟨(some 15), .mv (.tmp 14), none⟩,
  ⟨(some 16), .fad 1 (.tmp 1), (some (15, true))⟩,
  ⟨(some 17), .ld none (.tmp 16), (some (15, true))⟩,
  ⟨(some 18), .mv (.tmp 3), (some (15, true))⟩,
  ⟨(some 19), .call (.func 29) [(.tmp 17), (.tmp 18), (.const (.int .i64 99))], (some (15, true))⟩,
  ⟨(some 20), .pick (.tmp 15) (.tmp 19) (.const (.bool false)), none⟩,
  ⟨(some 21), .mv (.tmp 20), none⟩,
  ⟨(some 22), .fad 2 (.tmp 1), (some (21, true))⟩,
  ⟨(some 23), .ld none (.tmp 22), (some (21, true))⟩,
  ⟨(some 24), .mv (.tmp 3), (some (21, true))⟩,
  ⟨(some 25), .call (.func 29) [(.tmp 23), (.tmp 24), (.const (.int .i64 9))], (some (21, true))⟩,
  ⟨(some 26), .pick (.tmp 21) (.tmp 25) (.const (.bool false)), none⟩,
  ⟨(some 27), .mv (.tmp 26), none⟩,
  ⟨(some 28), .fad 3 (.tmp 1), (some (27, true))⟩,
  ⟨(some 29), .ld none (.tmp 28), (some (27, true))⟩,
  ⟨(some 30), .mv (.tmp 3), (some (27, true))⟩,
  ⟨(some 31), .call (.func 29) [(.tmp 29), (.tmp 30), (.const (.int .i64 9))], (some (27, true))⟩,
  ⟨(some 32), .pick (.tmp 27) (.tmp 31) (.const (.bool false)), none⟩,
  ⟨(some 2), .mv (.tmp 32), none⟩])
 (.ret)))
def r_impl_IsCase : List ARes := [.tmp 2]
theorem ok_impl_IsCase : FnOk Tryd.prog 18 33 c_impl_IsCase r_impl_IsCase := ⟨⟨Tryd.f18, _, Tryd.func18, by kernel_rfl, rfl, rfl, by kernel_rfl, by kernel_rfl⟩⟩
def c_impl_rowsText : ACode := .seq (.reg [⟨(some 2), .mv (.const (.string ⟨#[]⟩)), none⟩,
  ⟨(some 3), .mv (.const (.bool false)), none⟩])
 (.seq (.seq (.reg [⟨(some 9), .mv (.tmp 0), none⟩,
  ⟨(some 10), .len (.tmp 9), none⟩,
  ⟨(some 11), .bin .eql (.tmp 10) (.const (.int .i64 0)), none⟩])
 (.cond (.tmp 11) (.seq (.reg [⟨(some 2), .mv (.const (.string ⟨#[110, 111, 110, 101]⟩)), none⟩,
  ⟨(some 3), .mv (.const (.bool true)), none⟩])
 (.ret)) (.skip)))
 (.seq (.reg [⟨(some 12), .bsl 9 1 0 [] [], none⟩,
  ⟨(some 4), .mv (.tmp 12), none⟩])
 (.seq (.seq (.reg [⟨(some 13), .mv (.tmp 0), none⟩,
  ⟨(some 14), .len (.tmp 13), none⟩,
  ⟨(some 15), .mv (.const (.int .i64 0)), none⟩])
 (.block 0 (.loop (.seq (.reg [⟨(some 16), .bin .lss (.tmp 15) (.tmp 14), none⟩])
 (.seq (.cond (.tmp 16) (.skip) (.exit 0))
 (.seq (.block 1 (.seq (.reg [⟨(some 17), .iad 1 (.tmp 13) (.tmp 15), none⟩,
  ⟨(some 18), .ld none (.tmp 17), none⟩,
  ⟨(some 6), .mv (.tmp 18), none⟩])
 (.seq (.reg [⟨(some 20), .mv (.tmp 6), none⟩,
  ⟨(some 21), .call (.func 30) [(.tmp 20)], none⟩,
  ⟨(some 19), .mv (.tmp 21), none⟩,
  ⟨(some 22), .ext 0 (.tmp 19), none⟩,
  ⟨(some 23), .ext 1 (.tmp 19), none⟩,
  ⟨(some 7), .mv (.tmp 22), none⟩,
  ⟨(some 8), .mv (.tmp 23), none⟩])
 (.seq (.seq (.reg [⟨(some 24), .mv (.tmp 8), none⟩,
  ⟨(some 25), .un .not (.tmp 24), none⟩])
 (.cond (.tmp 25) (.seq (.reg [⟨(some 2), .mv (.const (.string ⟨#[]⟩)), none⟩,
  ⟨(some 3), .mv (.const (.bool false)), none⟩])
 (.ret)) (.skip)))
 (.reg [⟨(some 26), .mv (.tmp 4), none⟩,
  ⟨(some 27), .mv (.tmp 7), none⟩,
  ⟨(some 28), .bsl 9 1 1 [(.string ⟨#[]⟩)] [(0, 1, (.tmp 27))], none⟩,
  ⟨(some 29), .app 9 1 16 (.tmp 26) (.tmp 28), none⟩,
  ⟨(some 4), .mv (.tmp 29), none⟩])))))
 (.reg [⟨(some 30), .bin .add (.tmp 15) (.const (.int .i64 1)), none⟩,
  ⟨(some 15), .mv (.tmp 30), none⟩])))))))
 (.seq (.reg [⟨(some 31), .mv (.tmp 4), none⟩,
  ⟨(some 32), .call (.func 31) [(.tmp 31), (.const (.string ⟨#[32]⟩))], none⟩,
  ⟨(some 33), .ext 0 (.tmp 32), none⟩,
  ⟨(some 34), .ext 1 (.tmp 32), none⟩,
  ⟨(some 2), .mv (.tmp 33), none⟩,
  ⟨(some 3), .mv (.tmp 34), none⟩])
 (.ret)))))
def r_impl_rowsText : List ARes := [.tmp 2, .tmp 3]
theorem ok_impl_rowsText : FnOk Tryd.prog 19 35 c_impl_rowsText r_impl_rowsText := ⟨⟨Tryd.f19, _, Tryd.func19, by kernel_rfl, rfl, rfl, by kernel_rfl, by kernel_rfl⟩⟩
def c_spec_l1Split : ACode := .seq (.reg [⟨(some 4), .mv (.const (.slice none 0 0)), none⟩])
 (.seq (.reg [⟨(some 8), .bsl 9 1 0 [] [], none⟩,
  ⟨(some 5), .mv (.tmp 8), none⟩])
 (.seq (.reg [⟨(some 6), .mv (.const (.int .i64 0)), none⟩])
 (.seq (.seq (.reg [⟨(some 7), .mv (.const (.int .i64 0)), none⟩])
 (.block 0 (.loop (.seq (.seq (.reg [⟨(some 9), .mv (.tmp 7), none⟩,
  ⟨(some 10), .mv (.tmp 0), none⟩,
  ⟨(some 11), .lens (.tmp 10), none⟩,
  ⟨(some 12), .bin .lss (.tmp 9) (.tmp 11), none⟩])
 (.cond (.tmp 12) (.skip) (.exit 0)))
 (.seq (.block 1 (.seq (.reg [⟨(some 15), .mv (.tmp 0), none⟩,
  ⟨(some 16), .mv (.tmp 7), none⟩,
  ⟨(some 17), .idxs (.tmp 15) (.tmp 16), none⟩,
  ⟨(some 18), .mv (.tmp 1), none⟩,
  ⟨(some 19), .bin .eql (.tmp 17) (.tmp 18), none⟩])
 (.cond (.tmp 19) (.seq (.reg [⟨(some 20), .mv (.tmp 5), none⟩,
  ⟨(some 21), .mv (.tmp 0), none⟩,
  ⟨(some 22), .mv (.tmp 6), none⟩,
  ⟨(some 23), .mv (.tmp 7), none⟩,
  ⟨(some 24), .slcs (.tmp 21) (some (.tmp 22)) (some (.tmp 23)), none⟩,
  ⟨(some 25), .bsl 9 1 1 [(.string ⟨#[]⟩)] [(0, 1, (.tmp 24))], none⟩,
  ⟨(some 26), .app 9 1 16 (.tmp 20) (.tmp 25), none⟩,
  ⟨(some 5), .mv (.tmp 26), none⟩])
 (.reg [⟨(some 27), .mv (.tmp 7), none⟩,
  ⟨(some 28), .bin .add (.tmp 27) (.const (.int .i64 1)), none⟩,
  ⟨(some 6), .mv (.tmp 28), none⟩])) (.skip))))
 (.reg [⟨(some 13), .mv (.tmp 7), none⟩,
  ⟨(some 14), .bin .add (.tmp 13) (.const (.int .i64 1)), none⟩,
  ⟨(some 7), .mv (.tmp 14), none⟩]))))))
 (.seq (.reg [⟨(some 29), .mv (.tmp 5), none⟩,
  ⟨(some 30), .mv (.tmp 0), none⟩,
  ⟨(some 31), .mv (.tmp 6), none⟩,
  ⟨(some 32), .slcs (.tmp 30) (some (.tmp 31)) none, none⟩,
  ⟨(some 33), .bsl 9 1 1 [(.string ⟨#[]⟩)] [(0, 1, (.tmp 32))], none⟩,
  ⟨(some 34), .app 9 1 16 (.tmp 29) (.tmp 33), none⟩,
  ⟨(some 4), .mv (.tmp 34), none⟩])
 (.ret)))))
def r_spec_l1Split : List ARes := [.tmp 4]
theorem ok_spec_l1Split : FnOk Tryd.prog 21 35 c_spec_l1Split r_spec_l1Split := ⟨⟨Tryd.f21, _, Tryd.func21, by kernel_rfl, rfl, rfl, by kernel_rfl, by kernel_rfl⟩⟩
def c_spec_l2Read : ACode := .seq (.reg [⟨(some 2), .alc 45 [(.int .i64 0), (.int .i64 0), (.int .i64 0), (.int .i64 0)], none⟩,
  ⟨(some 3), .mv (.const (.bool false)), none⟩])
 (.seq (.reg [⟨(some 9), .mv (.tmp 0), none⟩,
  ⟨(some 10), .call (.func 21) [(.tmp 9), (.const (.int .u8 47))], none⟩,
  ⟨(some 11), .bld [(.int .i64 0), (.int .i64 0), (.int .i64 0), (.int .i64 0)] [], none⟩,
  ⟨(some 5), .alc 45 [(.int .i64 0), (.int .i64 0), (.int .i64 0), (.int .i64 0)], none⟩,
  ⟨(some 4), .mv (.tmp 10), none⟩,
  ⟨none, .st 4 (.tmp 5) (.tmp 11), none⟩])
 (.seq (.seq (.reg [⟨(some 12), .mv (.tmp 4), none⟩,
  ⟨(some 13), .len (.tmp 12), none⟩,
  ⟨(some 14), .bin .neq (.tmp 13) (.const (.int .i64 4)), none⟩])
 (.cond (.tmp 14) (.seq (.reg [⟨(some 15), .ld (some 4) (.tmp 5), none⟩,
  ⟨none, .st 4 (.tmp 2) (.tmp 15), none⟩,
  ⟨(some 3), .mv (.const (.bool false)), none⟩])
 (.ret)) (.skip)))
 (.seq (.seq (.reg [⟨(some 6), .mv (.const (.int .i64 0)), none⟩])
 (.block 0 (.loop (.seq (.seq (.reg [⟨(some 16), .mv (.tmp 6), none⟩,
  ⟨(some 17), .bin .lss (.tmp 16) (.const (.int .i64 4)), none⟩])
 (.cond (.tmp 17) (.skip) (.exit 0)))
 (.seq (.block 1 (.seq (.reg [⟨(some 21), .mv (.tmp 4), none⟩,
  ⟨(some 22), .mv (.tmp 6), none⟩,
  ⟨(some 23), .iad 1 (.tmp 21) (.tmp 22), none⟩,
  ⟨(some 24), .ld none (.tmp 23), none⟩,
  ⟨(some 25), .call (.func 32) [(.tmp 24)], none⟩,
  ⟨(some 20), .mv (.tmp 25), none⟩,
  ⟨(some 26), .ext 0 (.tmp 20), none⟩,
  ⟨(some 27), .ext 1 (.tmp 20), none⟩,
  ⟨(some 7), .mv (.tmp 26), none⟩,
  ⟨(some 8), .mv (.tmp 27), none⟩])
 (.seq (.seq (.reg [⟨(some 28), .mv (.tmp 8), none⟩,
  ⟨(some 29), .un .not (.tmp 28), none⟩])
 (.cond (.tmp 29) (.seq (.reg [⟨(some 30), .bld [(.int .i64 0), (.int .i64 0), (.int .i64 0), (.int .i64 0)] [], none⟩,
  ⟨none, .st 4 (.tmp 2) (.tmp 30), none⟩,
  ⟨(some 3), .mv (.const (.bool false)), none⟩])
 (.ret)) (.skip)))
 (.reg [⟨(some 31), .mv (.tmp 6), none⟩,
  ⟨(some 32), .mv (.tmp 7), none⟩,
  ⟨(some 33), .iada 1 4 (.tmp 5) (.tmp 31), none⟩,
  ⟨none, .st 1 (.tmp 33) (.tmp 32), none⟩]))))
 (.reg [⟨(some 18), .mv (.tmp 6), none⟩,
  ⟨(some 19), .bin .add (.tmp 18) (.const (.int .i64 1)), none⟩,
  ⟨(some 6), .mv (.tmp 19), none⟩]))))))
 (.seq (.reg [⟨(some 34), .ld (some 4) (.tmp 5), none⟩,
  ⟨none, .st 4 (.tmp 2) (.tmp 34), none⟩,
  ⟨(some 3), .mv (.const (.bool true)), none⟩])
 (.ret)))))
def r_spec_l2Read : List ARes := [.cell 2 (some 4), .tmp 3]
theorem ok_spec_l2Read : FnOk Tryd.prog 22 35 c_spec_l2Read r_spec_l2Read := ⟨⟨Tryd.f22, _, Tryd.func22, by kernel_rfl, rfl, rfl, by kernel_rfl, by kernel_rfl⟩⟩
def c_impl_SplitString : ACode := .seq (.reg [⟨(some 4), .mv (.const (.slice none 0 0)), none⟩,
  ⟨(some 5), .mv (.const (.bool false)), none⟩])
 (.seq (.seq (.reg [⟨(some 8), .mv (.tmp 0), none⟩,
  ⟨(some 9), .lens (.tmp 8), none⟩,
  ⟨(some 10), .bin .gtr (.tmp 9) (.const (.int .i64 4000)), none⟩,
  ⟨(some 11), .mv (.tmp 10), none⟩,
  ⟨(some 12), .mv (.tmp 1), (some (11, false))⟩,
  ⟨(some 13), .lens (.tmp 12), (some (11, false))⟩,
  ⟨(some 14), .bin .neq (.tmp 13) (.const (.int .i64 1)), (some (11, false))⟩,
  ⟨(some 15), .pick (.tmp 11) (.const (.bool true)) (.tmp 14), none⟩])
 (.cond (.tmp 15) (.seq (.reg [⟨(some 16), .bsl 9 1 0 [] [], none⟩,
  ⟨(some 4), .mv (.tmp 16), none⟩,
  ⟨(some 5), .mv (.const (.bool false)), none⟩])
 (.ret)) (.skip)))
 (.seq (.reg [⟨(some 17), .bsl 9 1 0 [] [], none⟩,
  ⟨(some 6), .alc 43 [(.slice none 0 0)], none⟩,
  ⟨none, .st 1 (.tmp 6) (.tmp 17), none⟩])
 (.seq (.seq (.reg [⟨(some 18), .mv (.tmp 0), none⟩,
  ⟨(some 19), .mv (.tmp 1), none⟩,
  ⟨(some 20), .idxs (.tmp 19) (.const (.int .i64 0)), none⟩,
  ⟨(some 21), .call (.func 33) [(.tmp 18), (.tmp 20)], none⟩])
 (.block 0 (.range (.tmp 21) [22] (.reg [⟨(some 7), .mv (.tmp 22), none⟩]) (.block 1 (.reg [⟨(some 23), .ld none (.tmp 6), none⟩,
  ⟨(some 24), .mv (.tmp 7), none⟩,
  ⟨(some 25), .bsl 9 1 1 [(.string ⟨#[]⟩)] [(0, 1, (.tmp 24))], none⟩,
  ⟨(some 26), .app 9 1 16 (.tmp 23) (.tmp 25), none⟩,
  ⟨none, .st 1 (.tmp 6) (.tmp 26), none⟩])))))
 (.seq (.reg [⟨(some 27), .ld none (.tmp 6), none⟩,
  ⟨(some 4), .mv (.tmp 27), none⟩,
  ⟨(some 5), .mv (.const (.bool true)), none⟩])
 (.ret)))))
def r_impl_SplitString : List ARes := [.tmp 4, .tmp 5]
theorem ok_impl_SplitString : FnOk Tryd.prog 23 28 c_impl_SplitString r_impl_SplitString := ⟨⟨Tryd.f23, _, Tryd.func23, by kernel_rfl, rfl, rfl, by kernel_rfl, by kernel_rfl⟩⟩
def c_impl_parseNumbers : ACode := .seq (.reg [⟨(some 2), .alc 45 [(.int .i64 0), (.int .i64 0), (.int .i64 0), (.int .i64 0)], none⟩,
  ⟨(some 3), .mv (.const (.bool false)), none⟩])
 (.seq (.reg [⟨(some 12), .mv (.tmp 0), none⟩,
  ⟨(some 13), .call (.func 23) [(.tmp 12), (.const (.string ⟨#[47]⟩))], none⟩,
  ⟨(some 11), .mv (.tmp 13), none⟩,
  ⟨(some 14), .ext 0 (.tmp 11), none⟩,
  ⟨(some 15), .ext 1 (.tmp 11), none⟩,
  ⟨(some 4), .mv (.tmp 14), none⟩,
  ⟨(some 5), .mv (.tmp 15), none⟩])
 (.seq (.seq (.reg [⟨(some 16), .mv (.tmp 5), none⟩,
  ⟨(some 17), .un .not (.tmp 16), none⟩,
  ⟨(some 18), .mv (.tmp 17), none⟩,
  ⟨(some 19), .mv (.tmp 4), (some (18, false))⟩,
  ⟨(some 20), .len (.tmp 19), (some (18, false))⟩,
  ⟨(some 21), .bin .neq (.tmp 20) (.const (.int .i64 4)), (some (18, false))⟩,
  ⟨(some 22), .pick (.tmp 18) (.const (.bool true)) (.tmp 21), none⟩])
 (.cond (.tmp 22) (.seq (.reg [⟨(some 23), .bld [(.int .i64 0), (.int .i64 0), (.int .i64 0), (.int .i64 0)] [], none⟩,
  ⟨none, .st 4 (.tmp 2) (.tmp 23), none⟩,
  ⟨(some 3), .mv (.const (.bool false)), none⟩])
 (.ret)) (.skip)))
 (.seq (.reg [⟨(some 6), .alc 45 [(.int .i64 0), (.int .i64 0), (.int .i64 0), (.int .i64 0)], none⟩])
 (.seq (.seq (.reg [⟨(some 24), .mv (.tmp 4), none⟩,
  ⟨(some 25), .len (.tmp 24), none⟩,
  ⟨(some 26), .mv (.const (.int .i64 0)), none⟩])
 (.block 0 (.loop (.seq (.reg [⟨(some 27), .bin .lss (.tmp 26) (.tmp 25), none⟩])
 (.seq (.cond (.tmp 27) (.skip) (.exit 0))
 (.seq (.block 1 (.seq (.reg [⟨(some 28), .mv (.tmp 26), none⟩,
  ⟨(some 29), .iad 1 (.tmp 24) (.tmp 26), none⟩,
  ⟨(some 30), .ld none (.tmp 29), none⟩,
  ⟨(some 7), .mv (.tmp 28), none⟩,
  ⟨(some 8), .mv (.tmp 30), none⟩])
 (.seq (.reg [⟨(some 32), .mv (.tmp 8), none⟩,
  ⟨(some 33), .call (.func 34) [(.tmp 32)], none⟩,
  ⟨(some 31), .mv (.tmp 33), none⟩,
  ⟨(some 34), .ext 0 (.tmp 31), none⟩,
  ⟨(some 35), .ext 1 (.tmp 31), none⟩,
  ⟨(some 9), .mv (.tmp 34), none⟩,
  ⟨(some 10), .mv (.tmp 35), none⟩])
 (.seq (.seq (.reg [⟨(some 36), .mv (.tmp 10), none⟩,
  ⟨(some 37), .un .not (.tmp 36), none⟩])
 (.cond (.tmp 37) (.seq (.reg [⟨(some 38), .bld [(.int .i64 0), (.int .i64 0), (.int .i64 0), (.int .i64 0)] [], none⟩,
  ⟨none, .st 4 (.tmp 2) (.tmp 38), none⟩,
  ⟨(some 3), .mv (.const (.bool false)), none⟩])
 (.ret)) (.skip)))
 (.reg [⟨(some 39), .mv (.tmp 7), none⟩,
  ⟨(some 40), .mv (.tmp 9), none⟩,
  ⟨(some 41), .iada 1 4 (.tmp 6) (.tmp 39), none⟩,
  ⟨none, .st 1 (.tmp 41) (.tmp 40), none⟩])))))
 (.reg [⟨(some 42), .bin .add (.tmp 26) (.const (.int .i64 1)), none⟩,
  ⟨(some 26), .mv (.tmp 42), none⟩])))))))
 (.seq (.reg [⟨(some 43), .ld (some 4) (.tmp 6), none⟩,
  ⟨none, .st 4 (.tmp 2) (.tmp 43), none⟩,
  ⟨(some 3), .mv (.const (.bool true)), none⟩])
 (.ret))))))
def r_impl_parseNumbers : List ARes := [.cell 2 (some 4), .tmp 3]
theorem ok_impl_parseNumbers : FnOk Tryd.prog 24 44 c_impl_parseNumbers r_impl_parseNumbers := ⟨⟨Tryd.f24, _, Tryd.func24, by kernel_rfl, rfl, rfl, by kernel_rfl, by kernel_rfl⟩⟩
def c_spec_l2Row : ACode := .seq (.reg [⟨(some 6), .mv (.const (.bool false)), none⟩])
 (.seq (.seq (.reg [⟨(some 7), .mv (.const (.int .i64 0)), none⟩])
 (.block 0 (.loop (.seq (.seq (.reg [⟨(some 8), .mv (.tmp 7), none⟩,
  ⟨(some 9), .mv (.tmp 0), none⟩,
  ⟨(some 10), .len (.tmp 9), none⟩,
  ⟨(some 11), .bin .lss (.tmp 8) (.tmp 10), none⟩])
 (.cond (.tmp 11) (.skip) (.exit 0)))
 (.seq (.block 1 (.seq (.reg [⟨(some 14), .mv (.tmp 0), none⟩,
  ⟨(some 15), .mv (.tmp 7), none⟩,
  ⟨(some 16), .iad 1 (.tmp 14) (.tmp 15), none⟩,
  ⟨(some 17), .ld none (.tmp 16), none⟩,
  ⟨(some 18), .mv (.tmp 2), none⟩,
  ⟨(some 19), .call (.func 35) [(.tmp 17), (.const (.int .i64 0)), (.tmp 18)], none⟩,
  ⟨(some 20), .un .not (.tmp 19), none⟩])
 (.cond (.tmp 20) (.seq (.reg [⟨(some 6), .mv (.const (.bool false)), none⟩])
 (.ret)) (.skip))))
 (.reg [⟨(some 12), .mv (.tmp 7), none⟩,
  ⟨(some 13), .bin .add (.tmp 12) (.const (.int .i64 1)), none⟩,
  ⟨(some 7), .mv (.tmp 13), none⟩]))))))
 (.seq (.reg [⟨(some 21), .mv (.tmp 0), none⟩,
  ⟨(some 22), .len (.tmp 21), none⟩,
  ⟨(some 23), .mv (.tmp 1), none⟩,
  ⟨(some 24), .bin .eql (.tmp 22) (.tmp 23), none⟩,
  ⟨(some 6), .mv (.tmp 24), none⟩])
 (.ret)))
def r_spec_l2Row : List ARes := [.tmp 6]
theorem ok_spec_l2Row : FnOk Tryd.prog 27 25 c_spec_l2Row r_spec_l2Row := ⟨⟨Tryd.f27, _, Tryd.func27, by kernel_rfl, rfl, rfl, by kernel_rfl, by kernel_rfl⟩⟩
def c_spec_l1Num : ACode := .seq (.reg [⟨(some 2), .mv (.const (.string ⟨#[]⟩)), none⟩])
 (.seq (.seq (.reg [⟨(some 3), .mv (.tmp 0), none⟩,
  ⟨(some 4), .bin .lss (.tmp 3) (.const (.int .i64 0)), none⟩])
 (.cond (.tmp 4) (.seq (.reg [⟨(some 5), .mv (.tmp 0), none⟩,
  ⟨(some 6), .un .neg (.tmp 5), none⟩,
  ⟨(some 7), .call (.func 28) [(.tmp 6)], none⟩,
  ⟨(some 8), .bin .add (.const (.string ⟨#[45]⟩)) (.tmp 7), none⟩,
  ⟨(some 2), .mv (.tmp 8), none⟩])
 (.ret)) (.skip)))
 (.seq (.seq (.reg [⟨(some 9), .mv (.tmp 0), none⟩,
  ⟨(some 10), .bin .lss (.tmp 9) (.const (.int .i64 10)), none⟩])
 (.cond (.tmp 10) (.seq (.reg [⟨(some 11), .mv (.tmp 0), none⟩,
  ⟨(some 12), .mv (.tmp 0), none⟩,
  ⟨(some 13), .bin .add (.tmp 12) (.const (.int .i64 1)), none⟩,
  ⟨(some 14), .slcs (.const (.string ⟨#[48, 49, 50, 51, 52, 53, 54, 55, 56, 57]⟩)) (some (.tmp 11)) (some (.tmp 13)), none⟩,
  ⟨(some 2), .mv (.tmp 14), none⟩])
 (.ret)) (.skip)))
 (.seq (.reg [⟨(some 15), .mv (.tmp 0), none⟩,
  ⟨(some 16), .bin .quo (.tmp 15) (.const (.int .i64 10)), none⟩,
  ⟨(some 18), .mv (.tmp 0), none⟩,
  ⟨(some 19), .bin .rem (.tmp 18) (.const (.int .i64 10)), none⟩,
  ⟨(some 20), .mv (.tmp 0), none⟩,
  ⟨(some 21), .bin .rem (.tmp 20) (.const (.int .i64 10)), none⟩,
  ⟨(some 22), .bin .add (.tmp 21) (.const (.int .i64 1)), none⟩,
  ⟨(some 23), .slcs (.const (.string ⟨#[48, 49, 50, 51, 52, 53, 54, 55, 56, 57]⟩)) (some (.tmp 19)) (some (.tmp 22)), none⟩,
  ⟨(some 17), .rcall (.func 28) [(.tmp 16)], none⟩,
  ⟨(some 24), .bin .add (.tmp 17) (.tmp 23), none⟩,
  ⟨(some 2), .mv (.tmp 24), none⟩])
 (.ret))))
def r_spec_l1Num : List ARes := [.tmp 2]
theorem ok_spec_l1Num : FnOk Tryd.prog 28 25 c_spec_l1Num r_spec_l1Num := ⟨⟨Tryd.f28, _, Tryd.func28, by kernel_rfl, rfl, rfl, by kernel_rfl, by kernel_rfl⟩⟩
def c_impl_isRow : ACode := .seq (.reg [⟨(some 5), .box 3 (.tmp 2), none⟩,
  ⟨(some 6), .mv (.const (.bool false)), none⟩])
 (.seq (.reg [⟨(some 8), .mkf 36 [] [(.tmp 5)], none⟩,
  ⟨(some 7), .mv (.tmp 8), none⟩])
 (.seq (.reg [⟨(some 9), .mv (.tmp 0), none⟩,
  ⟨(some 10), .len (.tmp 9), none⟩,
  ⟨(some 11), .mv (.tmp 1), none⟩,
  ⟨(some 12), .bin .eql (.tmp 10) (.tmp 11), none⟩,
  ⟨(some 13), .mv (.tmp 12), none⟩,
  ⟨(some 14), .mv (.tmp 0), (some (13, true))⟩,
  ⟨(some 15), .mv (.tmp 7), (some (13, true))⟩,
  ⟨(some 16), .call (.func 38) [(.tmp 14), (.tmp 15)], (some (13, true))⟩,
  ⟨(some 17), .un .not (.tmp 16), (some (13, true))⟩,
  ⟨(some 18), .pick (.tmp 13) (.tmp 17) (.const (.bool false)), none⟩,
  ⟨(some 6), .mv (.tmp 18), none⟩])
 (.ret)))
def r_impl_isRow : List ARes := [.tmp 6]
theorem ok_impl_isRow : FnOk Tryd.prog 29 19 c_impl_isRow r_impl_isRow := ⟨⟨Tryd.f29, _, Tryd.func29, by kernel_rfl, rfl, rfl, by kernel_rfl, by kernel_rfl⟩⟩
def c_impl_numbersText : ACode := .seq (.reg [⟨(some 2), .mv (.const (.string ⟨#[]⟩)), none⟩,
  ⟨(some 3), .mv (.const (.bool false)), none⟩])
 (.seq (.reg [⟨(some 9), .bsl 9 1 0 [] [], none⟩,
  ⟨(some 4), .mv (.tmp 9), none⟩])
 (.seq (.seq (.reg [⟨(some 10), .mv (.tmp 0), none⟩,
  ⟨(some 11), .len (.tmp 10), none⟩,
  ⟨(some 12), .mv (.const (.int .i64 0)), none⟩])
 (.block 0 (.loop (.seq (.reg [⟨(some 13), .bin .lss (.tmp 12) (.tmp 11), none⟩])
 (.seq (.cond (.tmp 13) (.skip) (.exit 0))
 (.seq (.block 1 (.seq (.reg [⟨(some 14), .iad 1 (.tmp 10) (.tmp 12), none⟩,
  ⟨(some 15), .ld none (.tmp 14), none⟩,
  ⟨(some 6), .mv (.tmp 15), none⟩])
 (.seq (.reg [⟨(some 17), .mv (.tmp 6), none⟩,
  ⟨(some 18), .call (.func 39) [(.tmp 17)], none⟩,
  ⟨(some 16), .mv (.tmp 18), none⟩,
  ⟨(some 19), .ext 0 (.tmp 16), none⟩,
  ⟨(some 20), .ext 1 (.tmp 16), none⟩,
  ⟨(some 7), .mv (.tmp 19), none⟩,
  ⟨(some 8), .mv (.tmp 20), none⟩])
 (.seq (.seq (.reg [⟨(some 21), .mv (.tmp 8), none⟩,
  ⟨(some 22), .un .not (.tmp 21), none⟩])
 (.cond (.tmp 22) (.seq (.reg [⟨(some 2), .mv (.const (.string ⟨#[]⟩)), none⟩,
  ⟨(some 3), .mv (.const (.bool false)), none⟩])
 (.ret)) (.skip)))
 (.reg [⟨(some 23), .mv (.tmp 4), none⟩,
  ⟨(some 24), .mv (.tmp 7), none⟩,
  ⟨(some 25), .bsl 9 1 1 [(.string ⟨#[]⟩)] [(0, 1, (.tmp 24))], none⟩,
  ⟨(some 26), .app 9 1 16 (.tmp 23) (.tmp 25), none⟩,
  ⟨(some 4), .mv (.tmp 26), none⟩])))))
 (.reg [⟨(some 27), .bin .add (.tmp 12) (.const (.int .i64 1)), none⟩,
  ⟨(some 12), .mv (.tmp 27), none⟩])))))))
 (.seq (.reg [⟨(some 28), .mv (.tmp 4), none⟩,
  ⟨(some 29), .call (.func 31) [(.tmp 28), (.const (.string ⟨#[47]⟩))], none⟩,
  ⟨(some 30), .ext 0 (.tmp 29), none⟩,
  ⟨(some 31), .ext 1 (.tmp 29), none⟩,
  ⟨(some 2), .mv (.tmp 30), none⟩,
  ⟨(some 3), .mv (.tmp 31), none⟩])
 (.ret))))
def r_impl_numbersText : List ARes := [.tmp 2, .tmp 3]
theorem ok_impl_numbersText : FnOk Tryd.prog 30 32 c_impl_numbersText r_impl_numbersText := ⟨⟨Tryd.f30, _, Tryd.func30, by kernel_rfl, rfl, rfl, by kernel_rfl, by kernel_rfl⟩⟩
def c_impl_JoinStrings : ACode := .seq (.reg [⟨(some 4), .mv (.const (.string ⟨#[]⟩)), none⟩,
  ⟨(some 5), .mv (.const (.bool false)), none⟩])
 (.seq (.seq (.reg [⟨(some 6), .mv (.tmp 0), none⟩,
  ⟨(some 7), .len (.tmp 6), none⟩,
  ⟨(some 8), .bin .eql (.tmp 7) (.const (.int .i64 0)), none⟩,
  ⟨(some 9), .mv (.tmp 8), none⟩,
  ⟨(some 10), .mv (.tmp 1), (some (9, false))⟩,
  ⟨(some 11), .lens (.tmp 10), (some (9, false))⟩,
  ⟨(some 12), .bin .neq (.tmp 11) (.const (.int .i64 1)), (some (9, false))⟩,
  ⟨(some 13), .pick (.tmp 9) (.const (.bool true)) (.tmp 12), none⟩,
  ⟨(some 14), .mv (.tmp 13), none⟩,
  ⟨(some 15), .mv (.tmp 0), (some (14, false))⟩,
  ⟨(some 16), .mv (.tmp 1), (some (14, false))⟩,
  ⟨(some 17), .idxs (.tmp 16) (.const (.int .i64 0)), (some (14, false))⟩,
  ⟨(some 18), .call (.func 40) [(.tmp 15), (.tmp 17)], (some (14, false))⟩,
  ⟨(some 19), .un .not (.tmp 18), (some (14, false))⟩,
  ⟨(some 20), .pick (.tmp 14) (.const (.bool true)) (.tmp 19), none⟩])
 (.cond (.tmp 20) (.seq (.reg [⟨(some 4), .mv (.const (.string ⟨#[]⟩)), none⟩,
  ⟨(some 5), .mv (.const (.bool false)), none⟩])
 (.ret)) (.skip)))
 (.seq (.reg [⟨(some 21), .mv (.tmp 0), none⟩,
  ⟨(some 22), .mv (.tmp 1), none⟩,
  ⟨(some 23), .call (.func 41) [(.tmp 21), (.tmp 22)], none⟩,
  ⟨(some 4), .mv (.tmp 23), none⟩,
  ⟨(some 5), .mv (.const (.bool true)), none⟩])
 (.ret)))
def r_impl_JoinStrings : List ARes := [.tmp 4, .tmp 5]
theorem ok_impl_JoinStrings : FnOk Tryd.prog 31 24 c_impl_JoinStrings r_impl_JoinStrings := ⟨⟨Tryd.f31, _, Tryd.func31, by kernel_rfl, rfl, rfl, by kernel_rfl, by kernel_rfl⟩⟩
def c_spec_l1Read : ACode := .seq (.reg [⟨(some 2), .mv (.const (.int .i64 0)), none⟩,
  ⟨(some 3), .mv (.const (.bool false)), none⟩])
 (.seq (.reg [⟨(some 7), .mv (.tmp 0), none⟩,
  ⟨(some 4), .mv (.tmp 7), none⟩])
 (.seq (.seq (.reg [⟨(some 8), .mv (.tmp 4), none⟩,
  ⟨(some 9), .lens (.tmp 8), none⟩,
  ⟨(some 10), .bin .gtr (.tmp 9) (.const (.int .i64 1)), none⟩,
  ⟨(some 11), .mv (.tmp 10), none⟩,
  ⟨(some 12), .mv (.tmp 4), (some (11, true))⟩,
  ⟨(some 13), .idxs (.tmp 12) (.const (.int .i64 0)), (some (11, true))⟩,
  ⟨(some 14), .bin .eql (.tmp 13) (.const (.int .u8 45)), (some (11, true))⟩,
  ⟨(some 15), .pick (.tmp 11) (.tmp 14) (.const (.bool false)), none⟩])
 (.cond (.tmp 15) (.reg [⟨(some 16), .mv (.tmp 4), none⟩,
  ⟨(some 17), .slcs (.tmp 16) (some (.const (.int .i64 1))) none, none⟩,
  ⟨(some 4), .mv (.tmp 17), none⟩]) (.skip)))
 (.seq (.seq (.reg [⟨(some 18), .mv (.tmp 4), none⟩,
  ⟨(some 19), .lens (.tmp 18), none⟩,
  ⟨(some 20), .call (.func 35) [(.tmp 19), (.const (.int .i64 1)), (.const (.int .i64 6))], none⟩,
  ⟨(some 21), .un .not (.tmp 20), none⟩])
 (.cond (.tmp 21) (.seq (.reg [⟨(some 2), .mv (.const (.int .i64 0)), none⟩,
  ⟨(some 3), .mv (.const (.bool false)), none⟩])
 (.ret)) (.skip)))
 (.seq (.reg [⟨(some 5), .mv (.const (.int .i64 0)), none⟩])
 (.seq (.seq (.reg [⟨(some 6), .mv (.const (.int .i64 0)), none⟩])
 (.block 0 (.loop (.seq (.seq (.reg [⟨(some 22), .mv (.tmp 6), none⟩,
  ⟨(some 23), .mv (.tmp 4), none⟩,
  ⟨(some 24), .lens (.tmp 23), none⟩,
  ⟨(some 25), .bin .lss (.tmp 22) (.tmp 24), none⟩])
 (.cond (.tmp 25) (.skip) (.exit 0)))
 (.seq (.block 1 (.seq (.seq (.reg [⟨(some 28), .mv (.tmp 4), none⟩,
  ⟨(some 29), .mv (.tmp 6), none⟩,
  ⟨(some 30), .idxs (.tmp 28) (.tmp 29), none⟩,
  ⟨(some 31), .bin .lss (.tmp 30) (.const (.int .u8 48)), none⟩,
  ⟨(some 32), .mv (.tmp 31), none⟩,
  ⟨(some 33), .mv (.tmp 4), (some (32, false))⟩,
  ⟨(some 34), .mv (.tmp 6), (some (32, false))⟩,
  ⟨(some 35), .idxs (.tmp 33) (.tmp 34), (some (32, false))⟩,
  ⟨(some 36), .bin .gtr (.tmp 35) (.const (.int .u8 57)), (some (32, false))⟩,
  ⟨(some 37), .pick (.tmp 32) (.const (.bool true)) (.tmp 36), none⟩])
 (.cond (.tmp 37) (.seq (.reg [⟨(some 2), .mv (.const (.int .i64 0)), none⟩,
  ⟨(some 3), .mv (.const (.bool false)), none⟩])
 (.ret)) (.skip)))
 (.reg [⟨(some 38), .mv (.tmp 5), none⟩,
  ⟨(some 39), .bin .mul (.const (.int .i64 10)) (.tmp 38), none⟩,
  ⟨(some 40), .mv (.tmp 4), none⟩,
  ⟨(some 41), .mv (.tmp 6), none⟩,
  ⟨(some 42), .idxs (.tmp 40) (.tmp 41), none⟩,
  ⟨(some 43), .bin .sub (.tmp 42) (.const (.int .u8 48)), none⟩,
  ⟨(some 44), .conv .i64 (.tmp 43), none⟩,
  ⟨(some 45), .bin .add (.tmp 39) (.tmp 44), none⟩,
  ⟨(some 5), .mv (.tmp 45), none⟩])))
 (.reg [⟨(some 26), .mv (.tmp 6), none⟩,
  ⟨(some 27), .bin .add (.tmp 26) (.const (.int .i64 1)), none⟩,
  ⟨(some 6), .mv (.tmp 27), none⟩]))))))
 (.seq (.seq (.reg [⟨(some 46), .mv (.tmp 4), none⟩,
  ⟨(some 47), .lens (.tmp 46), none⟩,
  ⟨(some 48), .mv (.tmp 0), none⟩,
  ⟨(some 49), .lens (.tmp 48), none⟩,
  ⟨(some 50), .bin .lss (.tmp 47) (.tmp 49), none⟩])
 (.cond (.tmp 50) (.reg [⟨(some 51), .mv (.tmp 5), none⟩,
  ⟨(some 52), .un .neg (.tmp 51), none⟩,
  ⟨(some 5), .mv (.tmp 52), none⟩]) (.skip)))
 (.seq (.seq (.reg [⟨(some 53), .mv (.tmp 5), none⟩,
  ⟨(some 54), .call (.func 28) [(.tmp 53)], none⟩,
  ⟨(some 55), .mv (.tmp 0), none⟩,
  ⟨(some 56), .bin .neq (.tmp 54) (.tmp 55), none⟩])
 (.cond (.tmp 56) (.seq (.reg [⟨(some 2), .mv (.const (.int .i64 0)), none⟩,
  ⟨(some 3), .mv (.const (.bool false)), none⟩])
 (.ret)) (.skip)))
 (.seq (.reg [⟨(some 57), .mv (.tmp 5), none⟩,
  ⟨(some 2), .mv (.tmp 57), none⟩,
  ⟨(some 3), .mv (.const (.bool true)), none⟩])
 (.ret)))))))))
def r_spec_l1Read : List ARes := [.tmp 2, .tmp 3]
theorem ok_spec_l1Read : FnOk Tryd.prog 32 58 c_spec_l1Read r_spec_l1Read := ⟨⟨Tryd.f32, _, Tryd.func32, by kernel_rfl, rfl, rfl, by kernel_rfl, by kernel_rfl⟩⟩
def c_impl_partsBetween : ACode := .seq (.reg [⟨(some 2), .box 9 (.tmp 0), none⟩,
  ⟨(some 3), .box 5 (.tmp 1), none⟩,
  ⟨(some 4), .mv (.const .nilFunc), none⟩])
 (.seq (.reg [⟨(some 5), .mkf 42 [] [(.tmp 2), (.tmp 3)], none⟩,
  ⟨(some 4), .mv (.tmp 5), none⟩])
 (.ret))
def r_impl_partsBetween : List ARes := [.tmp 4]
theorem ok_impl_partsBetween : FnOk Tryd.prog 33 6 c_impl_partsBetween r_impl_partsBetween := ⟨⟨Tryd.f33, _, Tryd.func33, by kernel_rfl, rfl, rfl, by kernel_rfl, by kernel_rfl⟩⟩
def c_impl_ParseInt : ACode := .seq (.reg [⟨(some 2), .mv (.const (.int .i64 0)), none⟩,
  ⟨(some 3), .mv (.const (.bool false)), none⟩])
 (.seq (.reg [⟨(some 9), .mv (.tmp 0), none⟩,
  ⟨(some 10), .call (.func 43) [(.tmp 9)], none⟩,
  ⟨(some 8), .mv (.tmp 10), none⟩,
  ⟨(some 11), .ext 0 (.tmp 8), none⟩,
  ⟨(some 12), .ext 1 (.tmp 8), none⟩,
  ⟨(some 4), .mv (.tmp 11), none⟩,
  ⟨(some 5), .mv (.tmp 12), none⟩])
 (.seq (.seq (.reg [⟨(some 13), .mv (.tmp 5), none⟩,
  ⟨(some 14), .never, none⟩])
 (.cond (.tmp 14) (.seq (.reg [⟨(some 2), .mv (.const (.int .i64 0)), none⟩,
  ⟨(some 3), .mv (.const (.bool false)), none⟩])
 (.ret)) (.skip)))
 (.seq (.seq (.reg [⟨(some 16), .mv (.tmp 4), none⟩,
  ⟨(some 17), .call (.func 39) [(.tmp 16)], none⟩,
  ⟨(some 15), .mv (.tmp 17), none⟩,
  ⟨(some 18), .ext 0 (.tmp 15), none⟩,
  ⟨(some 19), .ext 1 (.tmp 15), none⟩,
  ⟨(some 6), .mv (.tmp 18), none⟩,
  ⟨(some 7), .mv (.tmp 19), none⟩])
 (.seq (.reg [⟨(some 20), .mv (.tmp 7), none⟩,
  ⟨(some 21), .un .not (.tmp 20), none⟩,
  ⟨(some 22), .mv (.tmp 21), none⟩,
  ⟨(some 23), .mv (.tmp 6), (some (22, false))⟩,
  ⟨(some 24), .mv (.tmp 0), (some (22, false))⟩,
  ⟨(some 25), .bin .neq (.tmp 23) (.tmp 24), (some (22, false))⟩,
  ⟨(some 26), .pick (.tmp 22) (.const (.bool true)) (.tmp 25), none⟩])
 (.cond (.tmp 26) (.seq (.reg [⟨(some 2), .mv (.const (.int .i64 0)), none⟩,
  ⟨(some 3), .mv (.const (.bool false)), none⟩])
 (.ret)) (.skip))))
 (.seq (.reg [⟨(some 27), .mv (.tmp 4), none⟩,
  ⟨(some 2), .mv (.tmp 27), none⟩,
  ⟨(some 3), .mv (.const (.bool true)), none⟩])
 (.ret)))))
def r_impl_ParseInt : List ARes := [.tmp 2, .tmp 3]
theorem ok_impl_ParseInt : FnOk Tryd.prog 34 28 c_impl_ParseInt r_impl_ParseInt := ⟨⟨Tryd.f34, _, Tryd.func34, by kernel_rfl, rfl, rfl, by kernel_rfl, by kernel_rfl⟩⟩
def c_spec_l1In : ACode := .seq (.reg [⟨(some 6), .mv (.const (.bool false)), none⟩])
 (.seq (.reg [⟨(some 7), .mv (.tmp 0), none⟩,
  ⟨(some 8), .mv (.tmp 1), none⟩,
  ⟨(some 9), .bin .geq (.tmp 7) (.tmp 8), none⟩,
  ⟨(some 10), .mv (.tmp 9), none⟩,
  ⟨(some 11), .mv (.tmp 0), (some (10, true))⟩,
  ⟨(some 12), .mv (.tmp 2), (some (10, true))⟩,
  ⟨(some 13), .bin .leq (.tmp 11) (.tmp 12), (some (10, true))⟩,
  ⟨(some 14), .pick (.tmp 10) (.tmp 13) (.const (.bool false)), none⟩,
  ⟨(some 6), .mv (.tmp 14), none⟩])
 (.ret))
def r_spec_l1In : List ARes := [.tmp 6]
theorem ok_spec_l1In : FnOk Tryd.prog 35 15 c_spec_l1In r_spec_l1In := ⟨⟨Tryd.f35, _, Tryd.func35, by kernel_rfl, rfl, rfl, by kernel_rfl, by kernel_rfl⟩⟩
def c_impl_isRow_1 : ACode := .seq (.reg [⟨(some 3), .mv (.const (.bool false)), none⟩])
 (.seq (.reg [⟨(some 4), .mv (.tmp 0), none⟩,
  ⟨(some 5), .ld none (.tmp 1), none⟩,
  ⟨(some 6), .call (.func 37) [(.tmp 4), (.tmp 5)], none⟩,
  ⟨(some 7), .un .not (.tmp 6), none⟩,
  ⟨(some 3), .mv (.tmp 7), none⟩])
 (.ret))
def r_impl_isRow_1 : List ARes := [.tmp 3]
theorem ok_impl_isRow_1 : FnOk Tryd.prog 36 8 c_impl_isRow_1 r_impl_isRow_1 := ⟨⟨Tryd.f36, _, Tryd.func36, by kernel_rfl, rfl, rfl, by kernel_rfl, by kernel_rfl⟩⟩
def c_impl_isWithin : ACode := .seq (.reg [⟨(some 4), .mv (.const (.bool false)), none⟩])
 (.seq (.reg [⟨(some 5), .mv (.tmp 0), none⟩,
  ⟨(some 6), .bin .geq (.tmp 5) (.const (.int .i64 0)), none⟩,
  ⟨(some 7), .mv (.tmp 6), none⟩,
  ⟨(some 8), .mv (.tmp 0), (some (7, true))⟩,
  ⟨(some 9), .mv (.tmp 1), (some (7, true))⟩,
  ⟨(some 10), .bin .leq (.tmp 8) (.tmp 9), (some (7, true))⟩,
  ⟨(some 11), .pick (.tmp 7) (.tmp 10) (.const (.bool false)), none⟩,
  ⟨(some 4), .mv (.tmp 11), none⟩])
 (.ret))
def r_impl_isWithin : List ARes := [.tmp 4]
theorem ok_impl_isWithin : FnOk Tryd.prog 37 12 c_impl_isWithin r_impl_isWithin := ⟨⟨Tryd.f37, _, Tryd.func37, by kernel_rfl, rfl, rfl, by kernel_rfl, by kernel_rfl⟩⟩
def c_slices_ContainsFunc : ACode := .seq (.reg [⟨(some 4), .mv (.const (.bool false)), none⟩])
 (.seq (.reg [⟨(some 5), .mv (.tmp 0), none⟩,
  ⟨(some 6), .mv (.tmp 1), none⟩,
  ⟨(some 7), .call (.func 44) [(.tmp 5), (.tmp 6)], none⟩,
  ⟨(some 8), .bin .geq (.tmp 7) (.const (.int .i64 0)), none⟩,
  ⟨(some 4), .mv (.tmp 8), none⟩])
 (.ret))
def r_slices_ContainsFunc : List ARes := [.tmp 4]
theorem ok_slices_ContainsFunc : FnOk Tryd.prog 38 9 c_slices_ContainsFunc r_slices_ContainsFunc := ⟨⟨Tryd.f38, _, Tryd.func38, by kernel_rfl, rfl, rfl, by kernel_rfl, by kernel_rfl⟩⟩
def c_impl_FormatInt : ACode := .seq (.reg [⟨(some 2), .mv (.const (.string ⟨#[]⟩)), none⟩,
  ⟨(some 3), .mv (.const (.bool false)), none⟩])
 (.seq (.seq (.reg [⟨(some 4), .mv (.tmp 0), none⟩,
  ⟨(some 5), .bin .lss (.tmp 4) (.const (.int .i64 (-999999))), none⟩,
  ⟨(some 6), .mv (.tmp 5), none⟩,
  ⟨(some 7), .mv (.tmp 0), (some (6, false))⟩,
  ⟨(some 8), .bin .gtr (.tmp 7) (.const (.int .i64 999999)), (some (6, false))⟩,
  ⟨(some 9), .pick (.tmp 6) (.const (.bool true)) (.tmp 8), none⟩])
 (.cond (.tmp 9) (.seq (.reg [⟨(some 2), .mv (.const (.string ⟨#[]⟩)), none⟩,
  ⟨(some 3), .mv (.const (.bool false)), none⟩])
 (.ret)) (.skip)))
 (.seq (.reg [⟨(some 10), .mv (.tmp 0), none⟩,
  ⟨(some 11), .call (.func 45) [(.tmp 10)], none⟩,
  ⟨(some 2), .mv (.tmp 11), none⟩,
  ⟨(some 3), .mv (.const (.bool true)), none⟩])
 (.ret)))
def r_impl_FormatInt : List ARes := [.tmp 2, .tmp 3]
theorem ok_impl_FormatInt : FnOk Tryd.prog 39 12 c_impl_FormatInt r_impl_FormatInt := ⟨⟨Tryd.f39, _, Tryd.func39, by kernel_rfl, rfl, rfl, by kernel_rfl, by kernel_rfl⟩⟩
def c_impl_canJoin : ACode := .seq (.reg [⟨(some 4), .mv (.const (.bool false)), none⟩])
 (.scope (.seq (.reg [⟨(some 5), .mv (.const (.int .i64 4001)), none⟩])
 (.seq (.reg [⟨(some 6), .mv (.const (.bool true)), none⟩])
 (.seq (.label 0)
 (.seq (.seq (.reg [⟨(some 10), .mv (.tmp 0), none⟩,
  ⟨(some 11), .len (.tmp 10), none⟩,
  ⟨(some 12), .mv (.const (.int .i64 0)), none⟩])
 (.block 0 (.loop (.seq (.reg [⟨(some 13), .bin .lss (.tmp 12) (.tmp 11), none⟩])
 (.seq (.cond (.tmp 13) (.skip) (.exit 0))
 (.seq (.block 1 (.seq (.reg [⟨(some 14), .iad 1 (.tmp 10) (.tmp 12), none⟩,
  ⟨(some 15), .ld none (.tmp 14), none⟩,
  ⟨(some 8), .mv (.tmp 15), none⟩])
 (.seq (.reg [⟨(some 16), .mv (.tmp 5), none⟩,
  ⟨(some 17), .mv (.tmp 8), none⟩,
  ⟨(some 18), .lens (.tmp 17), none⟩,
  ⟨(some 19), .bin .add (.tmp 18) (.const (.int .i64 1)), none⟩,
  ⟨(some 20), .bin .sub (.tmp 16) (.tmp 19), none⟩,
  ⟨(some 5), .mv (.tmp 20), none⟩])
 (.seq (.seq (.reg [⟨(some 21), .mv (.tmp 5), none⟩,
  ⟨(some 22), .bin .lss (.tmp 21) (.const (.int .i64 0)), none⟩])
 (.cond (.tmp 22) (.seq (.reg [⟨(some 6), .mv (.const (.bool false)), none⟩])
 (.exit 0)) (.skip)))
 (.seq (.reg [⟨(some 23), .mv (.tmp 8), none⟩,
  ⟨(some 24), .lens (.tmp 23), none⟩,
  ⟨(some 25), .mv (.const (.int .i64 0)), none⟩])
 (.block 2 (.loop (.seq (.reg [⟨(some 26), .bin .lss (.tmp 25) (.tmp 24), none⟩])
 (.seq (.cond (.tmp 26) (.skip) (.exit 2))
 (.seq (.block 3 (.seq (.reg [⟨(some 27), .mv (.tmp 25), none⟩,
  ⟨(some 9), .mv (.tmp 27), none⟩])
 (.seq (.reg [⟨(some 28), .mv (.tmp 8), none⟩,
  ⟨(some 29), .mv (.tmp 9), none⟩,
  ⟨(some 30), .idxs (.tmp 28) (.tmp 29), none⟩,
  ⟨(some 31), .mv (.tmp 1), none⟩,
  ⟨(some 32), .bin .eql (.tmp 30) (.tmp 31), none⟩])
 (.cond (.tmp 32) (.seq (.reg [⟨(some 6), .mv (.const (.bool false)), none⟩])
 (.exit 0)) (.skip)))))
 (.reg [⟨(some 33), .bin .add (.tmp 25) (.const (.int .i64 1)), none⟩,
  ⟨(some 25), .mv (.tmp 33), none⟩])))))))))))
 (.reg [⟨(some 34), .bin .add (.tmp 12) (.const (.int .i64 1)), none⟩,
  ⟨(some 12), .mv (.tmp 34), none⟩])))))))
 (.seq (.reg [⟨(some 35), .mv (.tmp 6), none⟩,
  ⟨(some 4), .mv (.tmp 35), none⟩])
 (.ret)))))))
def r_impl_canJoin : List ARes := [.tmp 4]
theorem ok_impl_canJoin : FnOk Tryd.prog 40 36 c_impl_canJoin r_impl_canJoin := ⟨⟨Tryd.f40, _, Tryd.func40, by kernel_rfl, rfl, rfl, by kernel_rfl, by kernel_rfl⟩⟩
def c_impl_partsBetween_1 : ACode := .seq (.reg [⟨(some 4), .mv (.const (.int .i64 0)), none⟩])
 (.seq (.seq (.reg [⟨(some 6), .ld none (.tmp 1), none⟩,
  ⟨(some 7), .lens (.tmp 6), none⟩,
  ⟨(some 8), .mv (.const (.int .i64 0)), none⟩])
 (.block 0 (.loop (.seq (.reg [⟨(some 9), .bin .lss (.tmp 8) (.tmp 7), none⟩])
 (.seq (.cond (.tmp 9) (.skip) (.exit 0))
 (.seq (.block 1 (.seq (.reg [⟨(some 10), .mv (.tmp 8), none⟩,
  ⟨(some 5), .mv (.tmp 10), none⟩])
 (.seq (.seq (.reg [⟨(some 11), .ld none (.tmp 1), none⟩,
  ⟨(some 12), .mv (.tmp 5), none⟩,
  ⟨(some 13), .idxs (.tmp 11) (.tmp 12), none⟩,
  ⟨(some 14), .ld none (.tmp 2), none⟩,
  ⟨(some 15), .bin .neq (.tmp 13) (.tmp 14), none⟩])
 (.cond (.tmp 15) (.exit 1) (.skip)))
 (.seq (.seq (.reg [⟨(some 16), .mv (.tmp 0), none⟩,
  ⟨(some 17), .ld none (.tmp 1), none⟩,
  ⟨(some 18), .mv (.tmp 4), none⟩,
  ⟨(some 19), .mv (.tmp 5), none⟩,
  ⟨(some 20), .slcs (.tmp 17) (some (.tmp 18)) (some (.tmp 19)), none⟩,
  ⟨(some 21), .call (.tmp 16) [(.tmp 20)], none⟩,
  ⟨(some 22), .un .not (.tmp 21), none⟩])
 (.cond (.tmp 22) (.ret) (.skip)))
 (.reg [⟨(some 23), .mv (.tmp 5), none⟩,
  ⟨(some 24), .bin .add (.tmp 23) (.const (.int .i64 1)), none⟩,
  ⟨(some 4), .mv (.tmp 24), none⟩])))))
 (.reg [⟨(some 25), .bin .add (.tmp 8) (.const (.int .i64 1)), none⟩,
  ⟨(some 8), .mv (.tmp 25), none⟩])))))))
 (.reg [⟨(some 26), .mv (.tmp 0), none⟩,
  ⟨(some 27), .ld none (.tmp 1), none⟩,
  ⟨(some 28), .mv (.tmp 4), none⟩,
  ⟨(some 29), .slcs (.tmp 27) (some (.tmp 28)) none, none⟩,
  ⟨(some 30), .call (.tmp 26) [(.tmp 29)], none⟩]))
def r_impl_partsBetween_1 : List ARes := []
theorem ok_impl_partsBetween_1 : FnOk Tryd.prog 42 31 c_impl_partsBetween_1 r_impl_partsBetween_1 := ⟨⟨Tryd.f42, _, Tryd.func42, by kernel_rfl, rfl, rfl, by kernel_rfl, by kernel_rfl⟩⟩
def c_slices_IndexFunc : ACode := .seq (.reg [⟨(some 4), .mv (.const (.int .i64 0)), none⟩])
 (.seq (.seq (.reg [⟨(some 6), .mv (.tmp 0), none⟩,
  ⟨(some 7), .len (.tmp 6), none⟩,
  ⟨(some 8), .mv (.const (.int .i64 0)), none⟩])
 (.block 0 (.loop (.seq (.reg [⟨(some 9), .bin .lss (.tmp 8) (.tmp 7), none⟩])
 (.seq (.cond (.tmp 9) (.skip) (.exit 0))
 (.seq (.block 1 (.seq (.reg [⟨(some 10), .mv (.tmp 8), none⟩,
  ⟨(some 5), .mv (.tmp 10), none⟩])
 (.seq (.reg [⟨(some 11), .mv (.tmp 1), none⟩,
  ⟨(some 12), .mv (.tmp 0), none⟩,
  ⟨(some 13), .mv (.tmp 5), none⟩,
  ⟨(some 14), .iad 1 (.tmp 12) (.tmp 13), none⟩,
  ⟨(some 15), .ld none (.tmp 14), none⟩,
  ⟨(some 16), .call (.tmp 11) [(.tmp 15)], none⟩])
 (.cond (.tmp 16) (.seq (.reg [⟨(some 17), .mv (.tmp 5), none⟩,
  ⟨(some 4), .mv (.tmp 17), none⟩])
 (.ret)) (.skip)))))
 (.reg [⟨(some 18), .bin .add (.tmp 8) (.const (.int .i64 1)), none⟩,
  ⟨(some 8), .mv (.tmp 18), none⟩])))))))
 (.seq (.reg [⟨(some 4), .mv (.const (.int .i64 (-1))), none⟩])
 (.ret)))
def r_slices_IndexFunc : List ARes := [.tmp 4]
theorem ok_slices_IndexFunc : FnOk Tryd.prog 44 19 c_slices_IndexFunc r_slices_IndexFunc := ⟨⟨Tryd.f44, _, Tryd.func44, by kernel_rfl, rfl, rfl, by kernel_rfl, by kernel_rfl⟩⟩
end Go.Proofs.YtolfmoniedgmeaaDoor.Ab
