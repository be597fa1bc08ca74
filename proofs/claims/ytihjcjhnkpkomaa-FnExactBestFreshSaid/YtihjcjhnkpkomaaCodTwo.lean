/- The compiled forms of functions, each checked against the translation. -/
import Derived.Test.YtihjcjhnkpkomaaAb2
import Derived.Test.YtihjcjhnkpkomaaProg
namespace Go.Proofs.Ytihjcjhnkpkomaa.Ab
open Go Go.RowKit Go.Proofs
set_option maxRecDepth 100000
def c_spec_IsShelf : ACode := .seq (.reg [⟨(some 1), .box 27 (.tmp 0), none⟩,
  ⟨(some 2), .mv (.const (.bool false)), none⟩])
 (.seq (.reg [⟨(some 3), .ld (some 5) (.tmp 1), none⟩,
  ⟨(some 4), .call (.func 60) [(.tmp 3)], none⟩,
  ⟨(some 2), .mv (.tmp 4), none⟩])
 (.ret))
def r_spec_IsShelf : List ARes := [.tmp 2]
theorem ok_spec_IsShelf : FnOk Try.prog 17 5 c_spec_IsShelf r_spec_IsShelf := ⟨⟨Try.f17, _, Try.func17, by kernel_rfl, rfl, rfl, by kernel_rfl, by kernel_rfl⟩⟩
def c_impl_IsShelf : ACode := .seq (.reg [⟨(some 1), .box 27 (.tmp 0), none⟩,
  ⟨(some 2), .mv (.const (.bool false)), none⟩])
 (.seq (.reg [⟨(some 4), .fad 1 (.tmp 1), none⟩,
  ⟨(some 5), .ld none (.tmp 4), none⟩,
  ⟨(some 6), .len (.tmp 5), none⟩,
  ⟨(some 3), .mv (.tmp 6), none⟩])
 (.seq (.reg [⟨(some 7), .fad 0 (.tmp 1), none⟩,
  ⟨(some 8), .ld none (.tmp 7), none⟩,
  ⟨(some 9), .call (.func 61) [(.tmp 8)], none⟩,
  ⟨(some 10), .mv (.tmp 9), none⟩,
  ⟨(some 11), .mv (.tmp 3), (some (10, true))⟩,
  ⟨(some 12), .bin .leq (.tmp 11) (.const (.int .i64 8)), (some (10, true))⟩,
  ⟨(some 13), .pick (.tmp 10) (.tmp 12) (.const (.bool false)), none⟩,
  ⟨(some 14), .mv (.tmp 13), none⟩,
  ⟨(some 15), .fad 1 (.tmp 1), (some (14, true))⟩,
  ⟨(some 16), .ld none (.tmp 15), (some (14, true))⟩,
  ⟨(some 17), .mv (.tmp 3), (some (14, true))⟩,
  ⟨(some 18), .call (.func 62) [(.tmp 16), (.tmp 17), (.const (.int .i64 20))], (some (14, true))⟩,
  ⟨(some 19), .pick (.tmp 14) (.tmp 18) (.const (.bool false)), none⟩,
  ⟨(some 20), .mv (.tmp 19), none⟩,
  ⟨(some 21), .fad 2 (.tmp 1), (some (20, true))⟩,
  ⟨(some 22), .ld none (.tmp 21), (some (20, true))⟩,
  ⟨(some 23), .mv (.tmp 3), (some (20, true))⟩,
  ⟨(some 24), .call (.func 62) [(.tmp 22), (.tmp 23), (.const (.int .i64 20))], (some (20, true))⟩,
  ⟨(some 25), .pick (.tmp 20) (.tmp 24) (.const (.bool false)), none⟩,
  ⟨(some 26), .mv (.tmp 25), none⟩,
  ⟨(some 27), .fad 3 (.tmp 1), (some (26, true))⟩,
  ⟨(some 28), .ld none (.tmp 27), (some (26, true))⟩,
  ⟨(some 29), .call (.func 63) [(.tmp 28), (.const (.int .i64 20))], (some (26, true))⟩,
  ⟨(some 30), .pick (.tmp 26) (.tmp 29) (.const (.bool false)), none⟩,
  ⟨(some 31), .mv (.tmp 30), none⟩,
  ⟨(some 32), .fad 4 (.tmp 1), (some (31, true))⟩,
  ⟨(some 33), .ld none (.tmp 32), (some (31, true))⟩,
  ⟨(some 34), .call (.func 63) [(.tmp 33), (.const (.int .i64 20))], (some (31, true))⟩,
  ⟨(some 35), .pick (.tmp 31) (.tmp 34) (.const (.bool false)), none⟩,
  ⟨(some 2), .mv (.tmp 35), none⟩])
 (.ret)))
def r_impl_IsShelf : List ARes := [.tmp 2]
theorem ok_impl_IsShelf : FnOk Try.prog 19 36 c_impl_IsShelf r_impl_IsShelf := ⟨⟨Try.f19, _, Try.func19, by kernel_rfl, rfl, rfl, by kernel_rfl, by kernel_rfl⟩⟩
def c_spec_IsIssue : ACode := .seq (.reg [⟨(some 2), .box 27 (.tmp 0), none⟩,
  ⟨(some 4), .mv (.const (.bool false)), none⟩,
  ⟨(some 5), .mv (.const (.bool false)), none⟩])
 (.seq (.seq (.reg [⟨(some 6), .ld (some 5) (.tmp 2), none⟩,
  ⟨(some 7), .call (.func 60) [(.tmp 6)], none⟩,
  ⟨(some 8), .un .not (.tmp 7), none⟩])
 (.cond (.tmp 8) (.seq (.reg [⟨(some 4), .mv (.const (.bool false)), none⟩,
  ⟨(some 5), .mv (.const (.bool false)), none⟩])
 (.ret)) (.skip)))
 (.seq (.reg [⟨(some 9), .ld (some 5) (.tmp 2), none⟩,
  ⟨(some 10), .mv (.tmp 1), none⟩,
  ⟨(some 11), .call (.func 64) [(.tmp 9), (.tmp 10)], none⟩,
  ⟨(some 4), .mv (.tmp 11), none⟩,
  ⟨(some 5), .mv (.const (.bool true)), none⟩])
 (.ret)))
def r_spec_IsIssue : List ARes := [.tmp 4, .tmp 5]
theorem ok_spec_IsIssue : FnOk Try.prog 22 12 c_spec_IsIssue r_spec_IsIssue := ⟨⟨Try.f22, _, Try.func22, by kernel_rfl, rfl, rfl, by kernel_rfl, by kernel_rfl⟩⟩
def c_impl_IsIssue : ACode := .seq (.reg [⟨(some 2), .box 27 (.tmp 0), none⟩,
  ⟨(some 4), .mv (.const (.bool false)), none⟩,
  ⟨(some 5), .mv (.const (.bool false)), none⟩])
 (.seq (.seq (.reg [⟨(some 8), .ld (some 5) (.tmp 2), none⟩,
  ⟨(some 9), .call (.func 19) [(.tmp 8)], none⟩,
  ⟨(some 10), .un .not (.tmp 9), none⟩])
 (.cond (.tmp 10) (.seq (.reg [⟨(some 4), .mv (.const (.bool false)), none⟩,
  ⟨(some 5), .mv (.const (.bool false)), none⟩])
 (.ret)) (.skip)))
 (.seq (.reg [⟨(some 12), .ld (some 5) (.tmp 2), none⟩,
  ⟨(some 13), .mv (.tmp 1), none⟩,
  ⟨(some 14), .call (.func 65) [(.tmp 12), (.tmp 13)], none⟩,
  ⟨(some 11), .mv (.tmp 14), none⟩,
  ⟨(some 15), .ext 0 (.tmp 11), none⟩,
  ⟨(some 16), .ext 1 (.tmp 11), none⟩,
  ⟨(some 6), .alc 27 [(.int .i64 0), (.slice none 0 0), (.slice none 0 0), (.int .i64 0), (.int .i64 0)], none⟩,
  ⟨none, .st 5 (.tmp 6) (.tmp 15), none⟩,
  ⟨(some 7), .mv (.tmp 16), none⟩])
 (.seq (.reg [⟨(some 17), .mv (.tmp 7), none⟩,
  ⟨(some 4), .mv (.tmp 17), none⟩,
  ⟨(some 5), .mv (.const (.bool true)), none⟩])
 (.ret))))
def r_impl_IsIssue : List ARes := [.tmp 4, .tmp 5]
theorem ok_impl_IsIssue : FnOk Try.prog 24 18 c_impl_IsIssue r_impl_IsIssue := ⟨⟨Try.f24, _, Try.func24, by kernel_rfl, rfl, rfl, by kernel_rfl, by kernel_rfl⟩⟩
def c_spec_OldestFirst : ACode := .seq (.reg [⟨(some 1), .box 27 (.tmp 0), none⟩,
  ⟨(some 2), .mv (.const (.slice none 0 0)), none⟩,
  ⟨(some 3), .mv (.const (.bool false)), none⟩])
 (.seq (.seq (.reg [⟨(some 4), .ld (some 5) (.tmp 1), none⟩,
  ⟨(some 5), .call (.func 60) [(.tmp 4)], none⟩,
  ⟨(some 6), .un .not (.tmp 5), none⟩])
 (.cond (.tmp 6) (.seq (.reg [⟨(some 7), .bsl 22 1 0 [] [], none⟩,
  ⟨(some 2), .mv (.tmp 7), none⟩,
  ⟨(some 3), .mv (.const (.bool false)), none⟩])
 (.ret)) (.skip)))
 (.seq (.reg [⟨(some 8), .ld (some 5) (.tmp 1), none⟩,
  ⟨(some 9), .call (.func 66) [(.tmp 8), (.const (.bool false))], none⟩,
  ⟨(some 2), .mv (.tmp 9), none⟩,
  ⟨(some 3), .mv (.const (.bool true)), none⟩])
 (.ret)))
def r_spec_OldestFirst : List ARes := [.tmp 2, .tmp 3]
theorem ok_spec_OldestFirst : FnOk Try.prog 26 10 c_spec_OldestFirst r_spec_OldestFirst := ⟨⟨Try.f26, _, Try.func26, by kernel_rfl, rfl, rfl, by kernel_rfl, by kernel_rfl⟩⟩
def c_impl_OldestFirst : ACode := .seq (.reg [⟨(some 1), .box 27 (.tmp 0), none⟩,
  ⟨(some 2), .mv (.const (.slice none 0 0)), none⟩,
  ⟨(some 3), .mv (.const (.bool false)), none⟩])
 (.seq (.seq (.reg [⟨(some 4), .ld (some 5) (.tmp 1), none⟩,
  ⟨(some 5), .call (.func 19) [(.tmp 4)], none⟩,
  ⟨(some 6), .un .not (.tmp 5), none⟩])
 (.cond (.tmp 6) (.seq (.reg [⟨(some 7), .bsl 22 1 0 [] [], none⟩,
  ⟨(some 2), .mv (.tmp 7), none⟩,
  ⟨(some 3), .mv (.const (.bool false)), none⟩])
 (.ret)) (.skip)))
 (.seq (.reg [⟨(some 8), .ld (some 5) (.tmp 1), none⟩,
  ⟨(some 9), .call (.func 67) [(.tmp 8), (.func 68), (.func 69), (.const (.int .i64 1))], none⟩,
  ⟨(some 2), .mv (.tmp 9), none⟩,
  ⟨(some 3), .mv (.const (.bool true)), none⟩])
 (.ret)))
def r_impl_OldestFirst : List ARes := [.tmp 2, .tmp 3]
theorem ok_impl_OldestFirst : FnOk Try.prog 27 10 c_impl_OldestFirst r_impl_OldestFirst := ⟨⟨Try.f27, _, Try.func27, by kernel_rfl, rfl, rfl, by kernel_rfl, by kernel_rfl⟩⟩
def c_spec_NewestFirst : ACode := .seq (.reg [⟨(some 1), .box 27 (.tmp 0), none⟩,
  ⟨(some 2), .mv (.const (.slice none 0 0)), none⟩,
  ⟨(some 3), .mv (.const (.bool false)), none⟩])
 (.seq (.seq (.reg [⟨(some 4), .ld (some 5) (.tmp 1), none⟩,
  ⟨(some 5), .call (.func 60) [(.tmp 4)], none⟩,
  ⟨(some 6), .un .not (.tmp 5), none⟩])
 (.cond (.tmp 6) (.seq (.reg [⟨(some 7), .bsl 22 1 0 [] [], none⟩,
  ⟨(some 2), .mv (.tmp 7), none⟩,
  ⟨(some 3), .mv (.const (.bool false)), none⟩])
 (.ret)) (.skip)))
 (.seq (.reg [⟨(some 8), .ld (some 5) (.tmp 1), none⟩,
  ⟨(some 9), .call (.func 66) [(.tmp 8), (.const (.bool true))], none⟩,
  ⟨(some 2), .mv (.tmp 9), none⟩,
  ⟨(some 3), .mv (.const (.bool true)), none⟩])
 (.ret)))
def r_spec_NewestFirst : List ARes := [.tmp 2, .tmp 3]
theorem ok_spec_NewestFirst : FnOk Try.prog 31 10 c_spec_NewestFirst r_spec_NewestFirst := ⟨⟨Try.f31, _, Try.func31, by kernel_rfl, rfl, rfl, by kernel_rfl, by kernel_rfl⟩⟩
def c_impl_NewestFirst : ACode := .seq (.reg [⟨(some 1), .box 27 (.tmp 0), none⟩,
  ⟨(some 2), .mv (.const (.slice none 0 0)), none⟩,
  ⟨(some 3), .mv (.const (.bool false)), none⟩])
 (.seq (.seq (.reg [⟨(some 4), .ld (some 5) (.tmp 1), none⟩,
  ⟨(some 5), .call (.func 19) [(.tmp 4)], none⟩,
  ⟨(some 6), .un .not (.tmp 5), none⟩])
 (.cond (.tmp 6) (.seq (.reg [⟨(some 7), .bsl 22 1 0 [] [], none⟩,
  ⟨(some 2), .mv (.tmp 7), none⟩,
  ⟨(some 3), .mv (.const (.bool false)), none⟩])
 (.ret)) (.skip)))
 (.seq (.reg [⟨(some 8), .ld (some 5) (.tmp 1), none⟩,
  ⟨(some 9), .call (.func 67) [(.tmp 8), (.func 69), (.func 68), (.const (.int .i64 (-1)))], none⟩,
  ⟨(some 2), .mv (.tmp 9), none⟩,
  ⟨(some 3), .mv (.const (.bool true)), none⟩])
 (.ret)))
def r_impl_NewestFirst : List ARes := [.tmp 2, .tmp 3]
theorem ok_impl_NewestFirst : FnOk Try.prog 32 10 c_impl_NewestFirst r_impl_NewestFirst := ⟨⟨Try.f32, _, Try.func32, by kernel_rfl, rfl, rfl, by kernel_rfl, by kernel_rfl⟩⟩
def c_impl_LostNeeds : ACode := .seq (.reg [⟨(some 2), .box 27 (.tmp 0), none⟩,
  ⟨(some 4), .mv (.const (.slice none 0 0)), none⟩,
  ⟨(some 5), .mv (.const (.bool false)), none⟩])
 (.seq (.reg [⟨(some 9), .ld (some 5) (.tmp 2), none⟩,
  ⟨(some 10), .mv (.tmp 1), none⟩,
  ⟨(some 11), .call (.func 65) [(.tmp 9), (.tmp 10)], none⟩,
  ⟨(some 8), .mv (.tmp 11), none⟩,
  ⟨(some 12), .ext 0 (.tmp 8), none⟩,
  ⟨(some 13), .ext 1 (.tmp 8), none⟩,
  ⟨(some 6), .alc 27 [(.int .i64 0), (.slice none 0 0), (.slice none 0 0), (.int .i64 0), (.int .i64 0)], none⟩,
  ⟨none, .st 5 (.tmp 6) (.tmp 12), none⟩,
  ⟨(some 7), .mv (.tmp 13), none⟩])
 (.seq (.reg [⟨(some 14), .fad 2 (.tmp 6), none⟩,
  ⟨(some 15), .ld none (.tmp 14), none⟩,
  ⟨(some 16), .mv (.tmp 7), none⟩,
  ⟨(some 4), .mv (.tmp 15), none⟩,
  ⟨(some 5), .mv (.tmp 16), none⟩])
 (.ret)))
def r_impl_LostNeeds : List ARes := [.tmp 4, .tmp 5]
theorem ok_impl_LostNeeds : FnOk Try.prog 34 17 c_impl_LostNeeds r_impl_LostNeeds := ⟨⟨Try.f34, _, Try.func34, by kernel_rfl, rfl, rfl, by kernel_rfl, by kernel_rfl⟩⟩
def c_spec_WastedUnits : ACode := .seq (.reg [⟨(some 2), .box 27 (.tmp 0), none⟩,
  ⟨(some 4), .mv (.const (.slice none 0 0)), none⟩,
  ⟨(some 5), .mv (.const (.bool false)), none⟩])
 (.seq (.seq (.reg [⟨(some 6), .ld (some 5) (.tmp 2), none⟩,
  ⟨(some 7), .mv (.tmp 1), none⟩,
  ⟨(some 8), .call (.func 70) [(.tmp 6), (.tmp 7)], none⟩,
  ⟨(some 9), .un .not (.tmp 8), none⟩])
 (.cond (.tmp 9) (.seq (.reg [⟨(some 10), .bsl 3 1 0 [] [], none⟩,
  ⟨(some 4), .mv (.tmp 10), none⟩,
  ⟨(some 5), .mv (.const (.bool false)), none⟩])
 (.ret)) (.skip)))
 (.seq (.reg [⟨(some 11), .ld (some 5) (.tmp 2), none⟩,
  ⟨(some 12), .mv (.tmp 1), none⟩,
  ⟨(some 13), .call (.func 72) [(.tmp 11), (.tmp 12)], none⟩,
  ⟨(some 4), .mv (.tmp 13), none⟩,
  ⟨(some 5), .mv (.const (.bool true)), none⟩])
 (.ret)))
def r_spec_WastedUnits : List ARes := [.tmp 4, .tmp 5]
theorem ok_spec_WastedUnits : FnOk Try.prog 38 14 c_spec_WastedUnits r_spec_WastedUnits := ⟨⟨Try.f38, _, Try.func38, by kernel_rfl, rfl, rfl, by kernel_rfl, by kernel_rfl⟩⟩
def c_impl_WastedUnits : ACode := .seq (.reg [⟨(some 2), .box 27 (.tmp 0), none⟩,
  ⟨(some 4), .mv (.const (.slice none 0 0)), none⟩,
  ⟨(some 5), .mv (.const (.bool false)), none⟩])
 (.seq (.reg [⟨(some 9), .ld (some 5) (.tmp 2), none⟩,
  ⟨(some 10), .mv (.tmp 1), none⟩,
  ⟨(some 11), .call (.func 65) [(.tmp 9), (.tmp 10)], none⟩,
  ⟨(some 8), .mv (.tmp 11), none⟩,
  ⟨(some 12), .ext 0 (.tmp 8), none⟩,
  ⟨(some 13), .ext 1 (.tmp 8), none⟩,
  ⟨(some 6), .alc 27 [(.int .i64 0), (.slice none 0 0), (.slice none 0 0), (.int .i64 0), (.int .i64 0)], none⟩,
  ⟨none, .st 5 (.tmp 6) (.tmp 12), none⟩,
  ⟨(some 7), .mv (.tmp 13), none⟩])
 (.seq (.reg [⟨(some 14), .fad 1 (.tmp 6), none⟩,
  ⟨(some 15), .ld none (.tmp 14), none⟩,
  ⟨(some 16), .mv (.tmp 7), none⟩,
  ⟨(some 4), .mv (.tmp 15), none⟩,
  ⟨(some 5), .mv (.tmp 16), none⟩])
 (.ret)))
def r_impl_WastedUnits : List ARes := [.tmp 4, .tmp 5]
theorem ok_impl_WastedUnits : FnOk Try.prog 39 17 c_impl_WastedUnits r_impl_WastedUnits := ⟨⟨Try.f39, _, Try.func39, by kernel_rfl, rfl, rfl, by kernel_rfl, by kernel_rfl⟩⟩
def c_spec_ShelfCost : ACode := .seq (.reg [⟨(some 2), .box 27 (.tmp 0), none⟩,
  ⟨(some 4), .mv (.const (.int .i64 0)), none⟩,
  ⟨(some 5), .mv (.const (.bool false)), none⟩])
 (.seq (.seq (.reg [⟨(some 6), .ld (some 5) (.tmp 2), none⟩,
  ⟨(some 7), .mv (.tmp 1), none⟩,
  ⟨(some 8), .call (.func 70) [(.tmp 6), (.tmp 7)], none⟩,
  ⟨(some 9), .un .not (.tmp 8), none⟩])
 (.cond (.tmp 9) (.seq (.reg [⟨(some 4), .mv (.const (.int .i64 0)), none⟩,
  ⟨(some 5), .mv (.const (.bool false)), none⟩])
 (.ret)) (.skip)))
 (.seq (.reg [⟨(some 10), .fad 4 (.tmp 2), none⟩,
  ⟨(some 11), .ld none (.tmp 10), none⟩,
  ⟨(some 12), .ld (some 5) (.tmp 2), none⟩,
  ⟨(some 13), .mv (.tmp 1), none⟩,
  ⟨(some 17), .fad 3 (.tmp 2), none⟩,
  ⟨(some 18), .ld none (.tmp 17), none⟩,
  ⟨(some 19), .ld (some 5) (.tmp 2), none⟩,
  ⟨(some 20), .mv (.tmp 1), none⟩,
  ⟨(some 14), .rcall (.func 71) [(.tmp 12), (.tmp 13)], none⟩,
  ⟨(some 15), .rcall (.func 73) [(.tmp 14)], none⟩,
  ⟨(some 16), .bin .mul (.tmp 11) (.tmp 15), none⟩,
  ⟨(some 21), .rcall (.func 72) [(.tmp 19), (.tmp 20)], none⟩,
  ⟨(some 22), .rcall (.func 73) [(.tmp 21)], none⟩,
  ⟨(some 23), .bin .mul (.tmp 18) (.tmp 22), none⟩,
  ⟨(some 24), .bin .add (.tmp 16) (.tmp 23), none⟩,
  ⟨(some 4), .mv (.tmp 24), none⟩,
  ⟨(some 5), .mv (.const (.bool true)), none⟩])
 (.ret)))
def r_spec_ShelfCost : List ARes := [.tmp 4, .tmp 5]
theorem ok_spec_ShelfCost : FnOk Try.prog 40 25 c_spec_ShelfCost r_spec_ShelfCost := ⟨⟨Try.f40, _, Try.func40, by kernel_rfl, rfl, rfl, by kernel_rfl, by kernel_rfl⟩⟩
def c_impl_ShelfCost : ACode := .seq (.reg [⟨(some 2), .box 27 (.tmp 0), none⟩,
  ⟨(some 4), .mv (.const (.int .i64 0)), none⟩,
  ⟨(some 5), .mv (.const (.bool false)), none⟩])
 (.seq (.reg [⟨(some 9), .ld (some 5) (.tmp 2), none⟩,
  ⟨(some 10), .mv (.tmp 1), none⟩,
  ⟨(some 11), .call (.func 65) [(.tmp 9), (.tmp 10)], none⟩,
  ⟨(some 8), .mv (.tmp 11), none⟩,
  ⟨(some 12), .ext 0 (.tmp 8), none⟩,
  ⟨(some 13), .ext 1 (.tmp 8), none⟩,
  ⟨(some 6), .alc 27 [(.int .i64 0), (.slice none 0 0), (.slice none 0 0), (.int .i64 0), (.int .i64 0)], none⟩,
  ⟨none, .st 5 (.tmp 6) (.tmp 12), none⟩,
  ⟨(some 7), .mv (.tmp 13), none⟩])
 (.seq (.reg [⟨(some 14), .fad 4 (.tmp 6), none⟩,
  ⟨(some 15), .ld none (.tmp 14), none⟩,
  ⟨(some 16), .fad 2 (.tmp 6), none⟩,
  ⟨(some 17), .ld none (.tmp 16), none⟩,
  ⟨(some 20), .fad 3 (.tmp 6), none⟩,
  ⟨(some 21), .ld none (.tmp 20), none⟩,
  ⟨(some 22), .fad 1 (.tmp 6), none⟩,
  ⟨(some 23), .ld none (.tmp 22), none⟩,
  ⟨(some 27), .mv (.tmp 7), none⟩,
  ⟨(some 18), .rcall (.func 74) [(.tmp 17)], none⟩,
  ⟨(some 19), .bin .mul (.tmp 15) (.tmp 18), none⟩,
  ⟨(some 24), .rcall (.func 74) [(.tmp 23)], none⟩,
  ⟨(some 25), .bin .mul (.tmp 21) (.tmp 24), none⟩,
  ⟨(some 26), .bin .add (.tmp 19) (.tmp 25), none⟩,
  ⟨(some 4), .mv (.tmp 26), none⟩,
  ⟨(some 5), .mv (.tmp 27), none⟩])
 (.ret)))
def r_impl_ShelfCost : List ARes := [.tmp 4, .tmp 5]
theorem ok_impl_ShelfCost : FnOk Try.prog 41 28 c_impl_ShelfCost r_impl_ShelfCost := ⟨⟨Try.f41, _, Try.func41, by kernel_rfl, rfl, rfl, by kernel_rfl, by kernel_rfl⟩⟩
def c_spec_StockByAge : ACode := .seq (.reg [⟨(some 3), .box 27 (.tmp 0), none⟩,
  ⟨(some 6), .mv (.const (.slice none 0 0)), none⟩,
  ⟨(some 7), .mv (.const (.bool false)), none⟩])
 (.seq (.reg [⟨(some 11), .bsl 3 1 0 [] [], none⟩,
  ⟨(some 8), .mv (.tmp 11), none⟩])
 (.seq (.seq (.reg [⟨(some 12), .ld (some 5) (.tmp 3), none⟩,
  ⟨(some 13), .mv (.tmp 1), none⟩,
  ⟨(some 14), .call (.func 70) [(.tmp 12), (.tmp 13)], none⟩,
  ⟨(some 15), .un .not (.tmp 14), none⟩,
  ⟨(some 16), .mv (.tmp 15), none⟩,
  ⟨(some 17), .mv (.tmp 2), (some (16, false))⟩,
  ⟨(some 18), .mv (.tmp 1), (some (16, false))⟩,
  ⟨(some 19), .len (.tmp 18), (some (16, false))⟩,
  ⟨(some 20), .bin .sub (.tmp 19) (.const (.int .i64 1)), (some (16, false))⟩,
  ⟨(some 21), .call (.func 75) [(.tmp 17), (.const (.int .i64 0)), (.tmp 20)], (some (16, false))⟩,
  ⟨(some 22), .un .not (.tmp 21), (some (16, false))⟩,
  ⟨(some 23), .pick (.tmp 16) (.const (.bool true)) (.tmp 22), none⟩])
 (.cond (.tmp 23) (.seq (.reg [⟨(some 24), .mv (.tmp 8), none⟩,
  ⟨(some 6), .mv (.tmp 24), none⟩,
  ⟨(some 7), .mv (.const (.bool false)), none⟩])
 (.ret)) (.skip)))
 (.seq (.seq (.reg [⟨(some 9), .mv (.const (.int .i64 0)), none⟩])
 (.block 0 (.loop (.seq (.seq (.reg [⟨(some 25), .mv (.tmp 9), none⟩,
  ⟨(some 26), .fad 0 (.tmp 3), none⟩,
  ⟨(some 27), .ld none (.tmp 26), none⟩,
  ⟨(some 28), .bin .sub (.tmp 27) (.const (.int .i64 1)), none⟩,
  ⟨(some 29), .bin .lss (.tmp 25) (.tmp 28), none⟩])
 (.cond (.tmp 29) (.skip) (.exit 0)))
 (.seq (.block 1 (.seq (.reg [⟨(some 32), .mv (.tmp 2), none⟩,
  ⟨(some 33), .mv (.tmp 9), none⟩,
  ⟨(some 34), .bin .sub (.tmp 32) (.tmp 33), none⟩,
  ⟨(some 10), .mv (.tmp 34), none⟩])
 (.seq (.seq (.reg [⟨(some 35), .mv (.tmp 10), none⟩,
  ⟨(some 36), .bin .lss (.tmp 35) (.const (.int .i64 0)), none⟩])
 (.cond (.tmp 36) (.seq (.reg [⟨(some 37), .mv (.tmp 8), none⟩,
  ⟨(some 38), .bsl 3 1 1 [(.int .i64 0)] [(0, 1, (.const (.int .i64 0)))], none⟩,
  ⟨(some 39), .app 3 1 8 (.tmp 37) (.tmp 38), none⟩,
  ⟨(some 8), .mv (.tmp 39), none⟩])
 (.exit 1)) (.skip)))
 (.reg [⟨(some 40), .mv (.tmp 8), none⟩,
  ⟨(some 41), .fad 1 (.tmp 3), none⟩,
  ⟨(some 42), .ld none (.tmp 41), none⟩,
  ⟨(some 43), .mv (.tmp 10), none⟩,
  ⟨(some 44), .iad 1 (.tmp 42) (.tmp 43), none⟩,
  ⟨(some 45), .ld none (.tmp 44), none⟩,
  ⟨(some 46), .mv (.tmp 1), none⟩,
  ⟨(some 47), .mv (.tmp 2), none⟩,
  ⟨(some 48), .bin .add (.tmp 47) (.const (.int .i64 1)), none⟩,
  ⟨(some 49), .slc 1 (.tmp 46) none (some (.tmp 48)), none⟩,
  ⟨(some 50), .mv (.tmp 10), none⟩,
  ⟨(some 51), .rcall (.func 76) [(.tmp 49), (.tmp 50)], none⟩,
  ⟨(some 52), .bin .sub (.tmp 45) (.tmp 51), none⟩,
  ⟨(some 53), .bsl 3 1 1 [(.int .i64 0)] [(0, 1, (.tmp 52))], none⟩,
  ⟨(some 54), .app 3 1 8 (.tmp 40) (.tmp 53), none⟩,
  ⟨(some 8), .mv (.tmp 54), none⟩]))))
 (.reg [⟨(some 30), .mv (.tmp 9), none⟩,
  ⟨(some 31), .bin .add (.tmp 30) (.const (.int .i64 1)), none⟩,
  ⟨(some 9), .mv (.tmp 31), none⟩]))))))
 (.seq (.reg [⟨(some 55), .mv (.tmp 8), none⟩,
  ⟨(some 6), .mv (.tmp 55), none⟩,
  ⟨(some 7), .mv (.const (.bool true)), none⟩])
 (.ret)))))
def r_spec_StockByAge : List ARes := [.tmp 6, .tmp 7]
theorem ok_spec_StockByAge : FnOk Try.prog 42 56 c_spec_StockByAge r_spec_StockByAge := ⟨⟨Try.f42, _, Try.func42, by kernel_rfl, rfl, rfl, by kernel_rfl, by kernel_rfl⟩⟩
def c_impl_StockByAge : ACode := .seq (.reg [⟨(some 3), .box 27 (.tmp 0), none⟩,
  ⟨(some 6), .mv (.const (.slice none 0 0)), none⟩,
  ⟨(some 7), .mv (.const (.bool false)), none⟩])
 (.seq (.seq (.reg [⟨(some 15), .ld (some 5) (.tmp 3), none⟩,
  ⟨(some 16), .mv (.tmp 1), none⟩,
  ⟨(some 17), .call (.func 65) [(.tmp 15), (.tmp 16)], none⟩,
  ⟨(some 14), .mv (.tmp 17), none⟩,
  ⟨(some 18), .ext 0 (.tmp 14), none⟩,
  ⟨(some 19), .ext 1 (.tmp 14), none⟩,
  ⟨(some 8), .alc 27 [(.int .i64 0), (.slice none 0 0), (.slice none 0 0), (.int .i64 0), (.int .i64 0)], none⟩,
  ⟨none, .st 5 (.tmp 8) (.tmp 18), none⟩,
  ⟨(some 9), .mv (.tmp 19), none⟩])
 (.seq (.reg [⟨(some 20), .mv (.tmp 9), none⟩,
  ⟨(some 21), .un .not (.tmp 20), none⟩,
  ⟨(some 22), .mv (.tmp 21), none⟩,
  ⟨(some 23), .mv (.tmp 2), (some (22, false))⟩,
  ⟨(some 24), .mv (.tmp 1), (some (22, false))⟩,
  ⟨(some 25), .len (.tmp 24), (some (22, false))⟩,
  ⟨(some 26), .bin .sub (.tmp 25) (.const (.int .i64 1)), (some (22, false))⟩,
  ⟨(some 27), .call (.func 63) [(.tmp 23), (.tmp 26)], (some (22, false))⟩,
  ⟨(some 28), .un .not (.tmp 27), (some (22, false))⟩,
  ⟨(some 29), .pick (.tmp 22) (.const (.bool true)) (.tmp 28), none⟩])
 (.cond (.tmp 29) (.seq (.reg [⟨(some 30), .bsl 3 1 0 [] [], none⟩,
  ⟨(some 6), .mv (.tmp 30), none⟩,
  ⟨(some 7), .mv (.const (.bool false)), none⟩])
 (.ret)) (.skip))))
 (.seq (.seq (.reg [⟨(some 32), .ld (some 5) (.tmp 3), none⟩]) (.seq (.reg [⟨(some 33), .mv (.tmp 1), none⟩]) (.seq (.reg [⟨(some 34), .mv (.tmp 2), none⟩]) (.seq (.reg [⟨(some 35), .bin .add (.tmp 34) (.const (.int .i64 1)), none⟩]) (.seq (.reg [⟨(some 36), .slc 1 (.tmp 33) none (some (.tmp 35)), none⟩]) (.both (.seq (.reg [⟨(some 37), .rcall (.func 77) [(.tmp 32), (.tmp 36)], none⟩]) (.seq (.reg [⟨(some 31), .mv (.tmp 37), none⟩]) (.seq (.reg [⟨(some 38), .ext 0 (.tmp 31), none⟩]) (.seq (.reg [⟨(some 39), .ext 1 (.tmp 31), none⟩]) (.seq (.reg [⟨(some 10), .alc 27 [(.int .i64 0), (.slice none 0 0), (.slice none 0 0), (.int .i64 0), (.int .i64 0)], none⟩]) (.seq (.reg [⟨none, .st 5 (.tmp 10) (.tmp 38), none⟩]) (.seq (.reg [⟨(some 11), .mv (.tmp 39), none⟩]) (.skip)))))))) (.seq (.reg [⟨(some 10), .alc 27 [(.int .i64 0), (.slice none 0 0), (.slice none 0 0), (.int .i64 0), (.int .i64 0)], none⟩]) (.seq (.reg [⟨(some 37), .rcall (.func 77) [(.tmp 32), (.tmp 36)], none⟩]) (.seq (.reg [⟨(some 31), .mv (.tmp 37), none⟩]) (.seq (.reg [⟨(some 38), .ext 0 (.tmp 31), none⟩]) (.seq (.reg [⟨(some 39), .ext 1 (.tmp 31), none⟩]) (.seq (.reg [⟨none, .st 5 (.tmp 10) (.tmp 38), none⟩]) (.seq (.reg [⟨(some 11), .mv (.tmp 39), none⟩]) (.skip))))))))))))))
 (.seq (.reg [⟨(some 40), .fad 0 (.tmp 3), none⟩,
  ⟨(some 41), .ld none (.tmp 40), none⟩,
  ⟨(some 42), .bin .sub (.tmp 41) (.const (.int .i64 1)), none⟩,
  ⟨(some 43), .mks 3 8 [(.int .i64 0)] (.tmp 42) (.tmp 42), none⟩,
  ⟨(some 12), .mv (.tmp 43), none⟩])
 (.seq (.seq (.reg [⟨(some 44), .mv (.tmp 12), none⟩,
  ⟨(some 45), .len (.tmp 44), none⟩,
  ⟨(some 46), .mv (.tmp 2), none⟩,
  ⟨(some 47), .bin .add (.tmp 46) (.const (.int .i64 1)), none⟩,
  ⟨(some 48), .mmx false (.tmp 45) (.tmp 47), none⟩,
  ⟨(some 49), .mv (.const (.int .i64 0)), none⟩])
 (.block 0 (.loop (.seq (.reg [⟨(some 50), .bin .lss (.tmp 49) (.tmp 48), none⟩])
 (.seq (.cond (.tmp 50) (.skip) (.exit 0))
 (.seq (.block 1 (.seq (.reg [⟨(some 51), .mv (.tmp 49), none⟩,
  ⟨(some 13), .mv (.tmp 51), none⟩])
 (.reg [⟨(some 52), .mv (.tmp 12), none⟩,
  ⟨(some 53), .mv (.tmp 13), none⟩,
  ⟨(some 54), .fad 1 (.tmp 10), none⟩,
  ⟨(some 55), .ld none (.tmp 54), none⟩,
  ⟨(some 56), .mv (.tmp 2), none⟩,
  ⟨(some 57), .mv (.tmp 13), none⟩,
  ⟨(some 58), .bin .sub (.tmp 56) (.tmp 57), none⟩,
  ⟨(some 59), .iad 1 (.tmp 55) (.tmp 58), none⟩,
  ⟨(some 60), .ld none (.tmp 59), none⟩,
  ⟨(some 61), .iad 1 (.tmp 52) (.tmp 53), none⟩,
  ⟨none, .st 1 (.tmp 61) (.tmp 60), none⟩])))
 (.reg [⟨(some 62), .bin .add (.tmp 49) (.const (.int .i64 1)), none⟩,
  ⟨(some 49), .mv (.tmp 62), none⟩])))))))
 (.seq (.reg [⟨(some 63), .mv (.tmp 12), none⟩,
  ⟨(some 6), .mv (.tmp 63), none⟩,
  ⟨(some 7), .mv (.const (.bool true)), none⟩])
 (.ret))))))
def r_impl_StockByAge : List ARes := [.tmp 6, .tmp 7]
theorem ok_impl_StockByAge : FnOk Try.prog 43 64 c_impl_StockByAge r_impl_StockByAge := ⟨⟨Try.f43, _, Try.func43, by kernel_rfl, rfl, rfl, by kernel_rfl, by kernel_rfl⟩⟩
def c_impl_LostBound : ACode := .seq (.reg [⟨(some 2), .box 27 (.tmp 0), none⟩,
  ⟨(some 4), .mv (.const (.int .i64 0)), none⟩,
  ⟨(some 5), .mv (.const (.bool false)), none⟩])
 (.seq (.seq (.reg [⟨(some 6), .ld (some 5) (.tmp 2), none⟩,
  ⟨(some 7), .call (.func 19) [(.tmp 6)], none⟩,
  ⟨(some 8), .un .not (.tmp 7), none⟩,
  ⟨(some 9), .mv (.tmp 8), none⟩,
  ⟨(some 10), .mv (.tmp 1), (some (9, false))⟩,
  ⟨(some 11), .fad 2 (.tmp 2), (some (9, false))⟩,
  ⟨(some 12), .ld none (.tmp 11), (some (9, false))⟩,
  ⟨(some 13), .len (.tmp 12), (some (9, false))⟩,
  ⟨(some 14), .call (.func 80) [(.tmp 10), (.tmp 13)], (some (9, false))⟩,
  ⟨(some 15), .un .not (.tmp 14), (some (9, false))⟩,
  ⟨(some 16), .pick (.tmp 9) (.const (.bool true)) (.tmp 15), none⟩])
 (.cond (.tmp 16) (.seq (.reg [⟨(some 4), .mv (.const (.int .i64 0)), none⟩,
  ⟨(some 5), .mv (.const (.bool false)), none⟩])
 (.ret)) (.skip)))
 (.seq (.reg [⟨(some 17), .ld (some 5) (.tmp 2), none⟩,
  ⟨(some 18), .mv (.tmp 1), none⟩,
  ⟨(some 19), .call (.func 81) [(.tmp 17), (.tmp 18)], none⟩,
  ⟨(some 4), .mv (.tmp 19), none⟩,
  ⟨(some 5), .mv (.const (.bool true)), none⟩])
 (.ret)))
def r_impl_LostBound : List ARes := [.tmp 4, .tmp 5]
theorem ok_impl_LostBound : FnOk Try.prog 46 20 c_impl_LostBound r_impl_LostBound := ⟨⟨Try.f46, _, Try.func46, by kernel_rfl, rfl, rfl, by kernel_rfl, by kernel_rfl⟩⟩
def c_impl_LostProof : ACode := .seq (.reg [⟨(some 1), .box 27 (.tmp 0), none⟩,
  ⟨(some 2), .mv (.const (.slice none 0 0)), none⟩,
  ⟨(some 3), .mv (.const (.bool false)), none⟩])
 (.seq (.seq (.reg [⟨(some 5), .ld (some 5) (.tmp 1), none⟩,
  ⟨(some 6), .call (.func 19) [(.tmp 5)], none⟩,
  ⟨(some 7), .un .not (.tmp 6), none⟩])
 (.cond (.tmp 7) (.seq (.reg [⟨(some 8), .bsl 3 1 0 [] [], none⟩,
  ⟨(some 2), .mv (.tmp 8), none⟩,
  ⟨(some 3), .mv (.const (.bool false)), none⟩])
 (.ret)) (.skip)))
 (.seq (.reg [⟨(some 9), .fad 2 (.tmp 1), none⟩,
  ⟨(some 10), .ld none (.tmp 9), none⟩,
  ⟨(some 11), .len (.tmp 10), none⟩,
  ⟨(some 12), .mkf 85 [] [(.tmp 1)], none⟩,
  ⟨(some 13), .call (.func 84) [(.tmp 11), (.tmp 12)], none⟩,
  ⟨(some 4), .alc 83 [(.int .i64 0), (.slice none 0 0)], none⟩,
  ⟨none, .st 2 (.tmp 4) (.tmp 13), none⟩])
 (.seq (.reg [⟨(some 14), .fad 1 (.tmp 4), none⟩,
  ⟨(some 15), .ld none (.tmp 14), none⟩,
  ⟨(some 2), .mv (.tmp 15), none⟩,
  ⟨(some 3), .mv (.const (.bool true)), none⟩])
 (.ret))))
def r_impl_LostProof : List ARes := [.tmp 2, .tmp 3]
theorem ok_impl_LostProof : FnOk Try.prog 48 16 c_impl_LostProof r_impl_LostProof := ⟨⟨Try.f48, _, Try.func48, by kernel_rfl, rfl, rfl, by kernel_rfl, by kernel_rfl⟩⟩
def c_spec_FreshCost : ACode := .seq (.reg [⟨(some 3), .box 57 (.tmp 0), none⟩,
  ⟨(some 6), .mv (.const (.int .i64 0)), none⟩,
  ⟨(some 7), .mv (.const (.bool false)), none⟩])
 (.seq (.seq (.reg [⟨(some 9), .ld (some 4) (.tmp 3), none⟩,
  ⟨(some 10), .mv (.tmp 1), none⟩,
  ⟨(some 11), .call (.func 86) [(.tmp 9), (.tmp 10)], none⟩,
  ⟨(some 12), .un .not (.tmp 11), none⟩,
  ⟨(some 13), .mv (.tmp 12), none⟩,
  ⟨(some 14), .ld (some 4) (.tmp 3), (some (13, false))⟩,
  ⟨(some 15), .mv (.tmp 2), (some (13, false))⟩,
  ⟨(some 16), .call (.func 87) [(.tmp 14), (.tmp 15)], (some (13, false))⟩,
  ⟨(some 17), .un .not (.tmp 16), (some (13, false))⟩,
  ⟨(some 18), .pick (.tmp 13) (.const (.bool true)) (.tmp 17), none⟩])
 (.cond (.tmp 18) (.seq (.reg [⟨(some 6), .mv (.const (.int .i64 0)), none⟩,
  ⟨(some 7), .mv (.const (.bool false)), none⟩])
 (.ret)) (.skip)))
 (.seq (.reg [⟨(some 19), .ld (some 4) (.tmp 3), none⟩,
  ⟨(some 20), .mv (.tmp 1), none⟩,
  ⟨(some 21), .mv (.tmp 2), none⟩,
  ⟨(some 22), .call (.func 88) [(.tmp 19), (.tmp 20), (.tmp 21)], none⟩,
  ⟨(some 8), .mv (.tmp 22), none⟩])
 (.seq (.seq (.reg [⟨(some 23), .mv (.tmp 8), none⟩,
  ⟨(some 24), .bin .lss (.tmp 23) (.const (.int .i64 0)), none⟩])
 (.cond (.tmp 24) (.seq (.reg [⟨(some 6), .mv (.const (.int .i64 0)), none⟩,
  ⟨(some 7), .mv (.const (.bool false)), none⟩])
 (.ret)) (.skip)))
 (.seq (.reg [⟨(some 25), .mv (.tmp 8), none⟩,
  ⟨(some 6), .mv (.tmp 25), none⟩,
  ⟨(some 7), .mv (.const (.bool true)), none⟩])
 (.ret)))))
def r_spec_FreshCost : List ARes := [.tmp 6, .tmp 7]
theorem ok_spec_FreshCost : FnOk Try.prog 50 26 c_spec_FreshCost r_spec_FreshCost := ⟨⟨Try.f50, _, Try.func50, by kernel_rfl, rfl, rfl, by kernel_rfl, by kernel_rfl⟩⟩
def c_impl_FreshCost : ACode := .seq (.reg [⟨(some 3), .box 57 (.tmp 0), none⟩,
  ⟨(some 6), .mv (.const (.int .i64 0)), none⟩,
  ⟨(some 7), .mv (.const (.bool false)), none⟩])
 (.seq (.seq (.reg [⟨(some 8), .ld (some 4) (.tmp 3), none⟩,
  ⟨(some 9), .call (.func 89) [(.tmp 8)], none⟩,
  ⟨(some 10), .un .not (.tmp 9), none⟩,
  ⟨(some 11), .mv (.tmp 10), none⟩,
  ⟨(some 12), .mv (.tmp 1), (some (11, false))⟩,
  ⟨(some 13), .call (.func 61) [(.tmp 12)], (some (11, false))⟩,
  ⟨(some 14), .un .not (.tmp 13), (some (11, false))⟩,
  ⟨(some 15), .pick (.tmp 11) (.const (.bool true)) (.tmp 14), none⟩,
  ⟨(some 16), .mv (.tmp 15), none⟩,
  ⟨(some 17), .mv (.tmp 2), (some (16, false))⟩,
  ⟨(some 18), .fad 0 (.tmp 3), (some (16, false))⟩,
  ⟨(some 19), .ld none (.tmp 18), (some (16, false))⟩,
  ⟨(some 20), .len (.tmp 19), (some (16, false))⟩,
  ⟨(some 21), .call (.func 80) [(.tmp 17), (.tmp 20)], (some (16, false))⟩,
  ⟨(some 22), .un .not (.tmp 21), (some (16, false))⟩,
  ⟨(some 23), .pick (.tmp 16) (.const (.bool true)) (.tmp 22), none⟩])
 (.cond (.tmp 23) (.seq (.reg [⟨(some 6), .mv (.const (.int .i64 0)), none⟩,
  ⟨(some 7), .mv (.const (.bool false)), none⟩])
 (.ret)) (.skip)))
 (.seq (.reg [⟨(some 24), .ld (some 4) (.tmp 3), none⟩,
  ⟨(some 25), .mv (.tmp 1), none⟩,
  ⟨(some 26), .mv (.tmp 2), none⟩,
  ⟨(some 27), .call (.func 90) [(.tmp 24), (.tmp 25), (.tmp 26)], none⟩,
  ⟨(some 28), .ext 0 (.tmp 27), none⟩,
  ⟨(some 29), .ext 1 (.tmp 27), none⟩,
  ⟨(some 6), .mv (.tmp 28), none⟩,
  ⟨(some 7), .mv (.tmp 29), none⟩])
 (.ret)))
def r_impl_FreshCost : List ARes := [.tmp 6, .tmp 7]
theorem ok_impl_FreshCost : FnOk Try.prog 52 30 c_impl_FreshCost r_impl_FreshCost := ⟨⟨Try.f52, _, Try.func52, by kernel_rfl, rfl, rfl, by kernel_rfl, by kernel_rfl⟩⟩
def c_spec_BestFresh : ACode := .seq (.reg [⟨(some 2), .box 57 (.tmp 0), none⟩,
  ⟨(some 4), .mv (.const (.slice none 0 0)), none⟩,
  ⟨(some 5), .mv (.const (.int .i64 0)), none⟩,
  ⟨(some 6), .mv (.const (.bool false)), none⟩])
 (.seq (.seq (.reg [⟨(some 9), .ld (some 4) (.tmp 2), none⟩,
  ⟨(some 10), .mv (.tmp 1), none⟩,
  ⟨(some 11), .call (.func 86) [(.tmp 9), (.tmp 10)], none⟩,
  ⟨(some 12), .un .not (.tmp 11), none⟩])
 (.cond (.tmp 12) (.seq (.reg [⟨(some 13), .bsl 3 1 0 [] [], none⟩,
  ⟨(some 4), .mv (.tmp 13), none⟩,
  ⟨(some 5), .mv (.const (.int .i64 0)), none⟩,
  ⟨(some 6), .mv (.const (.bool false)), none⟩])
 (.ret)) (.skip)))
 (.seq (.reg [⟨(some 15), .ld (some 4) (.tmp 2), none⟩,
  ⟨(some 16), .mv (.tmp 1), none⟩,
  ⟨(some 17), .call (.func 91) [(.tmp 15), (.tmp 16)], none⟩,
  ⟨(some 14), .mv (.tmp 17), none⟩,
  ⟨(some 18), .ext 0 (.tmp 14), none⟩,
  ⟨(some 19), .ext 1 (.tmp 14), none⟩,
  ⟨(some 7), .mv (.tmp 18), none⟩,
  ⟨(some 8), .mv (.tmp 19), none⟩])
 (.seq (.reg [⟨(some 20), .mv (.tmp 7), none⟩,
  ⟨(some 21), .mv (.tmp 8), none⟩,
  ⟨(some 4), .mv (.tmp 20), none⟩,
  ⟨(some 5), .mv (.tmp 21), none⟩,
  ⟨(some 6), .mv (.const (.bool true)), none⟩])
 (.ret))))
def r_spec_BestFresh : List ARes := [.tmp 4, .tmp 5, .tmp 6]
theorem ok_spec_BestFresh : FnOk Try.prog 54 22 c_spec_BestFresh r_spec_BestFresh := ⟨⟨Try.f54, _, Try.func54, by kernel_rfl, rfl, rfl, by kernel_rfl, by kernel_rfl⟩⟩
def c_impl_BestFresh : ACode := .seq (.reg [⟨(some 2), .box 57 (.tmp 0), none⟩,
  ⟨(some 3), .box 3 (.tmp 1), none⟩,
  ⟨(some 4), .mv (.const (.slice none 0 0)), none⟩,
  ⟨(some 5), .mv (.const (.int .i64 0)), none⟩,
  ⟨(some 6), .mv (.const (.bool false)), none⟩])
 (.seq (.seq (.reg [⟨(some 8), .ld (some 4) (.tmp 2), none⟩,
  ⟨(some 9), .call (.func 89) [(.tmp 8)], none⟩,
  ⟨(some 10), .un .not (.tmp 9), none⟩,
  ⟨(some 11), .mv (.tmp 10), none⟩,
  ⟨(some 12), .ld none (.tmp 3), (some (11, false))⟩,
  ⟨(some 13), .call (.func 61) [(.tmp 12)], (some (11, false))⟩,
  ⟨(some 14), .un .not (.tmp 13), (some (11, false))⟩,
  ⟨(some 15), .pick (.tmp 11) (.const (.bool true)) (.tmp 14), none⟩])
 (.cond (.tmp 15) (.seq (.reg [⟨(some 16), .bsl 3 1 0 [] [], none⟩,
  ⟨(some 4), .mv (.tmp 16), none⟩,
  ⟨(some 5), .mv (.const (.int .i64 0)), none⟩,
  ⟨(some 6), .mv (.const (.bool false)), none⟩])
 (.ret)) (.skip)))
 (.seq (.reg [⟨(some 17), .fad 0 (.tmp 2), none⟩,
  ⟨(some 18), .ld none (.tmp 17), none⟩,
  ⟨(some 19), .len (.tmp 18), none⟩,
  ⟨(some 20), .mkf 92 [] [(.tmp 2), (.tmp 3)], none⟩,
  ⟨(some 21), .call (.func 84) [(.tmp 19), (.tmp 20)], none⟩,
  ⟨(some 7), .alc 83 [(.int .i64 0), (.slice none 0 0)], none⟩,
  ⟨none, .st 2 (.tmp 7) (.tmp 21), none⟩])
 (.seq (.reg [⟨(some 22), .fad 1 (.tmp 7), none⟩,
  ⟨(some 23), .ld none (.tmp 22), none⟩,
  ⟨(some 24), .fad 0 (.tmp 7), none⟩,
  ⟨(some 25), .ld none (.tmp 24), none⟩,
  ⟨(some 4), .mv (.tmp 23), none⟩,
  ⟨(some 5), .mv (.tmp 25), none⟩,
  ⟨(some 6), .mv (.const (.bool true)), none⟩])
 (.ret))))
def r_impl_BestFresh : List ARes := [.tmp 4, .tmp 5, .tmp 6]
theorem ok_impl_BestFresh : FnOk Try.prog 55 26 c_impl_BestFresh r_impl_BestFresh := ⟨⟨Try.f55, _, Try.func55, by kernel_rfl, rfl, rfl, by kernel_rfl, by kernel_rfl⟩⟩
def c_impl_LifeGains : ACode := .seq (.reg [⟨(some 1), .box 57 (.tmp 0), none⟩,
  ⟨(some 2), .mv (.const (.slice none 0 0)), none⟩,
  ⟨(some 3), .mv (.const (.bool false)), none⟩])
 (.seq (.seq (.reg [⟨(some 12), .ld (some 4) (.tmp 1), none⟩,
  ⟨(some 13), .call (.func 89) [(.tmp 12)], none⟩,
  ⟨(some 14), .un .not (.tmp 13), none⟩])
 (.cond (.tmp 14) (.seq (.reg [⟨(some 15), .bsl 3 1 0 [] [], none⟩,
  ⟨(some 2), .mv (.tmp 15), none⟩,
  ⟨(some 3), .mv (.const (.bool false)), none⟩])
 (.ret)) (.skip)))
 (.seq (.reg [⟨(some 16), .bsl 3 1 0 [] [], none⟩,
  ⟨(some 4), .mv (.tmp 16), none⟩])
 (.seq (.reg [⟨(some 18), .ld (some 4) (.tmp 1), none⟩,
  ⟨(some 19), .call (.func 55) [(.tmp 18), (.const (.int .i64 1))], none⟩,
  ⟨(some 17), .mv (.tmp 19), none⟩,
  ⟨(some 20), .ext 0 (.tmp 17), none⟩,
  ⟨(some 21), .ext 1 (.tmp 17), none⟩,
  ⟨(some 22), .ext 2 (.tmp 17), none⟩,
  ⟨(some 5), .mv (.tmp 20), none⟩,
  ⟨(some 6), .mv (.tmp 21), none⟩,
  ⟨(some 7), .mv (.tmp 22), none⟩])
 (.seq (.seq (.reg [⟨(some 8), .mv (.const (.int .i64 2)), none⟩])
 (.block 0 (.loop (.seq (.seq (.reg [⟨(some 23), .mv (.tmp 8), none⟩,
  ⟨(some 24), .bin .leq (.tmp 23) (.const (.int .i64 8)), none⟩])
 (.cond (.tmp 24) (.skip) (.exit 0)))
 (.seq (.block 1 (.seq (.reg [⟨(some 28), .ld (some 4) (.tmp 1), none⟩,
  ⟨(some 29), .mv (.tmp 8), none⟩,
  ⟨(some 30), .call (.func 55) [(.tmp 28), (.tmp 29)], none⟩,
  ⟨(some 27), .mv (.tmp 30), none⟩,
  ⟨(some 31), .ext 0 (.tmp 27), none⟩,
  ⟨(some 32), .ext 1 (.tmp 27), none⟩,
  ⟨(some 33), .ext 2 (.tmp 27), none⟩,
  ⟨(some 9), .mv (.tmp 31), none⟩,
  ⟨(some 10), .mv (.tmp 32), none⟩,
  ⟨(some 11), .mv (.tmp 33), none⟩])
 (.seq (.reg [⟨(some 34), .mv (.tmp 4), none⟩,
  ⟨(some 35), .mv (.tmp 6), none⟩,
  ⟨(some 36), .mv (.tmp 10), none⟩,
  ⟨(some 37), .bin .sub (.tmp 35) (.tmp 36), none⟩,
  ⟨(some 38), .bsl 3 1 1 [(.int .i64 0)] [(0, 1, (.tmp 37))], none⟩,
  ⟨(some 39), .app 3 1 8 (.tmp 34) (.tmp 38), none⟩,
  ⟨(some 4), .mv (.tmp 39), none⟩])
 (.reg [⟨(some 40), .mv (.tmp 10), none⟩,
  ⟨(some 6), .mv (.tmp 40), none⟩]))))
 (.reg [⟨(some 25), .mv (.tmp 8), none⟩,
  ⟨(some 26), .bin .add (.tmp 25) (.const (.int .i64 1)), none⟩,
  ⟨(some 8), .mv (.tmp 26), none⟩]))))))
 (.seq (.reg [⟨(some 41), .mv (.tmp 4), none⟩,
  ⟨(some 2), .mv (.tmp 41), none⟩,
  ⟨(some 3), .mv (.const (.bool true)), none⟩])
 (.ret))))))
def r_impl_LifeGains : List ARes := [.tmp 2, .tmp 3]
theorem ok_impl_LifeGains : FnOk Try.prog 58 42 c_impl_LifeGains r_impl_LifeGains := ⟨⟨Try.f58, _, Try.func58, by kernel_rfl, rfl, rfl, by kernel_rfl, by kernel_rfl⟩⟩
def c_spec_l9Good : ACode := .seq (.reg [⟨(some 1), .box 27 (.tmp 0), none⟩,
  ⟨(some 2), .mv (.const (.bool false)), none⟩])
 (.seq (.seq (.reg [⟨(some 3), .fad 0 (.tmp 1), none⟩,
  ⟨(some 4), .ld none (.tmp 3), none⟩,
  ⟨(some 5), .call (.func 75) [(.tmp 4), (.const (.int .i64 1)), (.const (.int .i64 8))], none⟩,
  ⟨(some 6), .un .not (.tmp 5), none⟩,
  ⟨(some 7), .mv (.tmp 6), none⟩,
  ⟨(some 8), .fad 2 (.tmp 1), (some (7, false))⟩,
  ⟨(some 9), .ld none (.tmp 8), (some (7, false))⟩,
  ⟨(some 10), .len (.tmp 9), (some (7, false))⟩,
  ⟨(some 11), .bin .gtr (.tmp 10) (.const (.int .i64 8)), (some (7, false))⟩,
  ⟨(some 12), .pick (.tmp 7) (.const (.bool true)) (.tmp 11), none⟩])
 (.cond (.tmp 12) (.seq (.reg [⟨(some 2), .mv (.const (.bool false)), none⟩])
 (.ret)) (.skip)))
 (.seq (.reg [⟨(some 13), .fad 2 (.tmp 1), none⟩,
  ⟨(some 14), .ld none (.tmp 13), none⟩,
  ⟨(some 15), .fad 2 (.tmp 1), none⟩,
  ⟨(some 16), .ld none (.tmp 15), none⟩,
  ⟨(some 17), .len (.tmp 16), none⟩,
  ⟨(some 18), .call (.func 94) [(.tmp 14), (.tmp 17), (.const (.int .i64 20))], none⟩,
  ⟨(some 19), .mv (.tmp 18), none⟩,
  ⟨(some 20), .fad 1 (.tmp 1), (some (19, true))⟩,
  ⟨(some 21), .ld none (.tmp 20), (some (19, true))⟩,
  ⟨(some 22), .fad 2 (.tmp 1), (some (19, true))⟩,
  ⟨(some 23), .ld none (.tmp 22), (some (19, true))⟩,
  ⟨(some 24), .len (.tmp 23), (some (19, true))⟩,
  ⟨(some 25), .call (.func 94) [(.tmp 21), (.tmp 24), (.const (.int .i64 20))], (some (19, true))⟩,
  ⟨(some 26), .pick (.tmp 19) (.tmp 25) (.const (.bool false)), none⟩,
  ⟨(some 27), .mv (.tmp 26), none⟩,
  ⟨(some 28), .fad 3 (.tmp 1), (some (27, true))⟩,
  ⟨(some 29), .ld none (.tmp 28), (some (27, true))⟩,
  ⟨(some 30), .fad 4 (.tmp 1), (some (27, true))⟩,
  ⟨(some 31), .ld none (.tmp 30), (some (27, true))⟩,
  ⟨(some 32), .call (.func 95) [(.tmp 29), (.tmp 31)], (some (27, true))⟩,
  ⟨(some 33), .pick (.tmp 27) (.tmp 32) (.const (.bool false)), none⟩,
  ⟨(some 2), .mv (.tmp 33), none⟩])
 (.ret)))
def r_spec_l9Good : List ARes := [.tmp 2]
theorem ok_spec_l9Good : FnOk Try.prog 60 34 c_spec_l9Good r_spec_l9Good := ⟨⟨Try.f60, _, Try.func60, by kernel_rfl, rfl, rfl, by kernel_rfl, by kernel_rfl⟩⟩
def c_impl_isLife : ACode := .seq (.reg [⟨(some 2), .mv (.const (.bool false)), none⟩])
 (.seq (.reg [⟨(some 3), .mv (.tmp 0), none⟩,
  ⟨(some 4), .call (.func 96) [(.tmp 3), (.const (.int .i64 8))], none⟩,
  ⟨(some 2), .mv (.tmp 4), none⟩])
 (.ret))
def r_impl_isLife : List ARes := [.tmp 2]
theorem ok_impl_isLife : FnOk Try.prog 61 5 c_impl_isLife r_impl_isLife := ⟨⟨Try.f61, _, Try.func61, by kernel_rfl, rfl, rfl, by kernel_rfl, by kernel_rfl⟩⟩
def c_impl_isRow : ACode := .seq (.reg [⟨(some 5), .box 3 (.tmp 2), none⟩,
  ⟨(some 6), .mv (.const (.bool false)), none⟩])
 (.seq (.reg [⟨(some 8), .mkf 97 [] [(.tmp 5)], none⟩,
  ⟨(some 7), .mv (.tmp 8), none⟩])
 (.seq (.reg [⟨(some 9), .mv (.tmp 0), none⟩,
  ⟨(some 10), .len (.tmp 9), none⟩,
  ⟨(some 11), .mv (.tmp 1), none⟩,
  ⟨(some 12), .bin .eql (.tmp 10) (.tmp 11), none⟩,
  ⟨(some 13), .mv (.tmp 12), none⟩,
  ⟨(some 14), .mv (.tmp 0), (some (13, true))⟩,
  ⟨(some 15), .mv (.tmp 7), (some (13, true))⟩,
  ⟨(some 16), .call (.func 98) [(.tmp 14), (.tmp 15)], (some (13, true))⟩,
  ⟨(some 17), .un .not (.tmp 16), (some (13, true))⟩,
  ⟨(some 18), .pick (.tmp 13) (.tmp 17) (.const (.bool false)), none⟩,
  ⟨(some 6), .mv (.tmp 18), none⟩])
 (.ret)))
def r_impl_isRow : List ARes := [.tmp 6]
theorem ok_impl_isRow : FnOk Try.prog 62 19 c_impl_isRow r_impl_isRow := ⟨⟨Try.f62, _, Try.func62, by kernel_rfl, rfl, rfl, by kernel_rfl, by kernel_rfl⟩⟩
def c_impl_isWithin : ACode := .seq (.reg [⟨(some 4), .mv (.const (.bool false)), none⟩])
 (.seq (.reg [⟨(some 5), .mv (.tmp 0), none⟩,
  ⟨(some 6), .bin .geq (.tmp 5) (.const (.int .i64 0)), none⟩,
  ⟨(some 7), .mv (.tmp 6), none⟩,
  ⟨(some 8), .mv (.tmp 0), (some (7, true))⟩,
  ⟨(some 9), .mv (.tmp 1), (some (7, true))⟩,
  ⟨(some 10), .bin .leq (.tmp 8) (.tmp 9), (some (7, true))⟩,
  ⟨(some 11), .pick (.tmp 7) (.tmp 10) (.const (.bool false)), none⟩,
  ⟨(some 4), .mv (.tmp 11), none⟩])
 (.ret))
def r_impl_isWithin : List ARes := [.tmp 4]
theorem ok_impl_isWithin : FnOk Try.prog 63 12 c_impl_isWithin r_impl_isWithin := ⟨⟨Try.f63, _, Try.func63, by kernel_rfl, rfl, rfl, by kernel_rfl, by kernel_rfl⟩⟩
def c_spec_l9Issue : ACode := .seq (.reg [⟨(some 2), .box 27 (.tmp 0), none⟩,
  ⟨(some 4), .mv (.const (.bool false)), none⟩])
 (.seq (.reg [⟨(some 9), .fad 2 (.tmp 2), none⟩,
  ⟨(some 10), .ld none (.tmp 9), none⟩,
  ⟨(some 11), .len (.tmp 10), none⟩,
  ⟨(some 5), .mv (.tmp 11), none⟩])
 (.seq (.seq (.reg [⟨(some 6), .mv (.const (.int .i64 0)), none⟩])
 (.block 0 (.loop (.seq (.seq (.reg [⟨(some 12), .mv (.tmp 6), none⟩,
  ⟨(some 13), .mv (.tmp 1), none⟩,
  ⟨(some 14), .len (.tmp 13), none⟩,
  ⟨(some 15), .bin .lss (.tmp 12) (.tmp 14), none⟩,
  ⟨(some 16), .mv (.tmp 15), none⟩,
  ⟨(some 17), .mv (.tmp 6), (some (16, true))⟩,
  ⟨(some 18), .mv (.tmp 5), (some (16, true))⟩,
  ⟨(some 19), .bin .lss (.tmp 17) (.tmp 18), (some (16, true))⟩,
  ⟨(some 20), .pick (.tmp 16) (.tmp 19) (.const (.bool false)), none⟩])
 (.cond (.tmp 20) (.skip) (.exit 0)))
 (.seq (.block 1 (.seq (.seq (.reg [⟨(some 23), .mv (.tmp 1), none⟩,
  ⟨(some 24), .mv (.tmp 6), none⟩,
  ⟨(some 25), .iad 1 (.tmp 23) (.tmp 24), none⟩,
  ⟨(some 26), .ld none (.tmp 25), none⟩,
  ⟨(some 27), .mv (.tmp 5), none⟩,
  ⟨(some 28), .rcall (.func 94) [(.tmp 26), (.tmp 27), (.const (.int .i64 20))], none⟩,
  ⟨(some 29), .un .not (.tmp 28), none⟩,
  ⟨(some 30), .mv (.tmp 29), none⟩,
  ⟨(some 31), .mv (.tmp 1), (some (30, false))⟩,
  ⟨(some 32), .mv (.tmp 6), (some (30, false))⟩,
  ⟨(some 33), .iad 1 (.tmp 31) (.tmp 32), (some (30, false))⟩,
  ⟨(some 34), .ld none (.tmp 33), (some (30, false))⟩,
  ⟨(some 36), .fad 2 (.tmp 2), (some (30, false))⟩,
  ⟨(some 37), .ld none (.tmp 36), (some (30, false))⟩,
  ⟨(some 38), .mv (.tmp 6), (some (30, false))⟩,
  ⟨(some 39), .iad 1 (.tmp 37) (.tmp 38), (some (30, false))⟩,
  ⟨(some 40), .ld none (.tmp 39), (some (30, false))⟩,
  ⟨(some 35), .rcall (.func 73) [(.tmp 34)], (some (30, false))⟩,
  ⟨(some 41), .bin .gtr (.tmp 35) (.tmp 40), (some (30, false))⟩,
  ⟨(some 42), .pick (.tmp 30) (.const (.bool true)) (.tmp 41), none⟩])
 (.cond (.tmp 42) (.seq (.reg [⟨(some 4), .mv (.const (.bool false)), none⟩])
 (.ret)) (.skip)))
 (.seq (.reg [⟨(some 7), .mv (.const (.int .i64 0)), none⟩])
 (.block 2 (.loop (.seq (.seq (.reg [⟨(some 43), .mv (.tmp 7), none⟩,
  ⟨(some 44), .mv (.tmp 5), none⟩,
  ⟨(some 45), .bin .lss (.tmp 43) (.tmp 44), none⟩])
 (.cond (.tmp 45) (.skip) (.exit 2)))
 (.seq (.block 3 (.seq (.reg [⟨(some 48), .mv (.tmp 1), none⟩,
  ⟨(some 49), .mv (.tmp 6), none⟩,
  ⟨(some 50), .iad 1 (.tmp 48) (.tmp 49), none⟩,
  ⟨(some 51), .ld none (.tmp 50), none⟩,
  ⟨(some 52), .mv (.tmp 7), none⟩,
  ⟨(some 53), .iad 1 (.tmp 51) (.tmp 52), none⟩,
  ⟨(some 54), .ld none (.tmp 53), none⟩,
  ⟨(some 55), .bin .gtr (.tmp 54) (.const (.int .i64 0)), none⟩,
  ⟨(some 56), .mv (.tmp 55), none⟩,
  ⟨(some 57), .ld (some 5) (.tmp 2), (some (56, true))⟩,
  ⟨(some 58), .mv (.tmp 7), (some (56, true))⟩,
  ⟨(some 59), .mv (.tmp 6), (some (56, true))⟩,
  ⟨(some 60), .call (.func 99) [(.tmp 57), (.tmp 58), (.tmp 59)], (some (56, true))⟩,
  ⟨(some 61), .un .not (.tmp 60), (some (56, true))⟩,
  ⟨(some 62), .pick (.tmp 56) (.tmp 61) (.const (.bool false)), none⟩])
 (.cond (.tmp 62) (.seq (.reg [⟨(some 4), .mv (.const (.bool false)), none⟩])
 (.ret)) (.skip))))
 (.reg [⟨(some 46), .mv (.tmp 7), none⟩,
  ⟨(some 47), .bin .add (.tmp 46) (.const (.int .i64 1)), none⟩,
  ⟨(some 7), .mv (.tmp 47), none⟩]))))))))
 (.reg [⟨(some 21), .mv (.tmp 6), none⟩,
  ⟨(some 22), .bin .add (.tmp 21) (.const (.int .i64 1)), none⟩,
  ⟨(some 6), .mv (.tmp 22), none⟩]))))))
 (.seq (.seq (.reg [⟨(some 63), .mv (.tmp 1), none⟩,
  ⟨(some 64), .len (.tmp 63), none⟩,
  ⟨(some 65), .mv (.tmp 5), none⟩,
  ⟨(some 66), .bin .neq (.tmp 64) (.tmp 65), none⟩])
 (.cond (.tmp 66) (.seq (.reg [⟨(some 4), .mv (.const (.bool false)), none⟩])
 (.ret)) (.skip)))
 (.seq (.seq (.reg [⟨(some 8), .mv (.const (.int .i64 0)), none⟩])
 (.block 4 (.loop (.seq (.seq (.reg [⟨(some 67), .mv (.tmp 8), none⟩,
  ⟨(some 68), .mv (.tmp 5), none⟩,
  ⟨(some 69), .bin .lss (.tmp 67) (.tmp 68), none⟩])
 (.cond (.tmp 69) (.skip) (.exit 4)))
 (.seq (.block 5 (.seq (.reg [⟨(some 72), .mv (.tmp 1), none⟩,
  ⟨(some 73), .mv (.tmp 8), none⟩,
  ⟨(some 75), .fad 1 (.tmp 2), none⟩,
  ⟨(some 76), .ld none (.tmp 75), none⟩,
  ⟨(some 77), .mv (.tmp 8), none⟩,
  ⟨(some 78), .iad 1 (.tmp 76) (.tmp 77), none⟩,
  ⟨(some 79), .ld none (.tmp 78), none⟩,
  ⟨(some 74), .rcall (.func 76) [(.tmp 72), (.tmp 73)], none⟩,
  ⟨(some 80), .bin .gtr (.tmp 74) (.tmp 79), none⟩])
 (.cond (.tmp 80) (.seq (.reg [⟨(some 4), .mv (.const (.bool false)), none⟩])
 (.ret)) (.skip))))
 (.reg [⟨(some 70), .mv (.tmp 8), none⟩,
  ⟨(some 71), .bin .add (.tmp 70) (.const (.int .i64 1)), none⟩,
  ⟨(some 8), .mv (.tmp 71), none⟩]))))))
 (.seq (.reg [⟨(some 4), .mv (.const (.bool true)), none⟩])
 (.ret))))))
def r_spec_l9Issue : List ARes := [.tmp 4]
theorem ok_spec_l9Issue : FnOk Try.prog 64 81 c_spec_l9Issue r_spec_l9Issue := ⟨⟨Try.f64, _, Try.func64, by kernel_rfl, rfl, rfl, by kernel_rfl, by kernel_rfl⟩⟩
def c_impl_leftOf : ACode := .seq (.reg [⟨(some 2), .box 27 (.tmp 0), none⟩,
  ⟨(some 4), .alc 27 [(.int .i64 0), (.slice none 0 0), (.slice none 0 0), (.int .i64 0), (.int .i64 0)], none⟩,
  ⟨(some 5), .mv (.const (.bool false)), none⟩])
 (.seq (.seq (.reg [⟨(some 6), .ld (some 5) (.tmp 2), none⟩,
  ⟨(some 7), .call (.func 19) [(.tmp 6)], none⟩,
  ⟨(some 8), .un .not (.tmp 7), none⟩,
  ⟨(some 9), .mv (.tmp 8), none⟩,
  ⟨(some 10), .mv (.tmp 1), (some (9, false))⟩,
  ⟨(some 11), .len (.tmp 10), (some (9, false))⟩,
  ⟨(some 12), .fad 2 (.tmp 2), (some (9, false))⟩,
  ⟨(some 13), .ld none (.tmp 12), (some (9, false))⟩,
  ⟨(some 14), .len (.tmp 13), (some (9, false))⟩,
  ⟨(some 15), .bin .neq (.tmp 11) (.tmp 14), (some (9, false))⟩,
  ⟨(some 16), .pick (.tmp 9) (.const (.bool true)) (.tmp 15), none⟩])
 (.cond (.tmp 16) (.seq (.reg [⟨(some 17), .bld [(.int .i64 0), (.slice none 0 0), (.slice none 0 0), (.int .i64 0), (.int .i64 0)] [], none⟩,
  ⟨none, .st 5 (.tmp 4) (.tmp 17), none⟩,
  ⟨(some 5), .mv (.const (.bool false)), none⟩])
 (.ret)) (.skip)))
 (.seq (.reg [⟨(some 18), .ld (some 5) (.tmp 2), none⟩,
  ⟨(some 19), .mv (.tmp 1), none⟩,
  ⟨(some 20), .call (.func 77) [(.tmp 18), (.tmp 19)], none⟩,
  ⟨(some 21), .ext 0 (.tmp 20), none⟩,
  ⟨(some 22), .ext 1 (.tmp 20), none⟩,
  ⟨none, .st 5 (.tmp 4) (.tmp 21), none⟩,
  ⟨(some 5), .mv (.tmp 22), none⟩])
 (.ret)))
def r_impl_leftOf : List ARes := [.cell 4 (some 5), .tmp 5]
theorem ok_impl_leftOf : FnOk Try.prog 65 23 c_impl_leftOf r_impl_leftOf := ⟨⟨Try.f65, _, Try.func65, by kernel_rfl, rfl, rfl, by kernel_rfl, by kernel_rfl⟩⟩
def c_spec_l9Make : ACode := .seq (.reg [⟨(some 2), .box 27 (.tmp 0), none⟩,
  ⟨(some 4), .mv (.const (.slice none 0 0)), none⟩])
 (.seq (.reg [⟨(some 13), .fad 2 (.tmp 2), none⟩,
  ⟨(some 14), .ld none (.tmp 13), none⟩,
  ⟨(some 15), .len (.tmp 14), none⟩,
  ⟨(some 5), .mv (.tmp 15), none⟩])
 (.seq (.reg [⟨(some 16), .fad 1 (.tmp 2), none⟩,
  ⟨(some 17), .ld none (.tmp 16), none⟩,
  ⟨(some 18), .call (.func 100) [(.tmp 17)], none⟩,
  ⟨(some 6), .mv (.tmp 18), none⟩])
 (.seq (.reg [⟨(some 19), .bsl 22 1 0 [] [], none⟩,
  ⟨(some 7), .mv (.tmp 19), none⟩])
 (.seq (.seq (.reg [⟨(some 8), .mv (.const (.int .i64 0)), none⟩])
 (.block 0 (.loop (.seq (.seq (.reg [⟨(some 20), .mv (.tmp 8), none⟩,
  ⟨(some 21), .mv (.tmp 5), none⟩,
  ⟨(some 22), .bin .lss (.tmp 20) (.tmp 21), none⟩])
 (.cond (.tmp 22) (.skip) (.exit 0)))
 (.seq (.block 1 (.seq (.reg [⟨(some 25), .mv (.tmp 5), none⟩,
  ⟨(some 26), .mks 3 8 [(.int .i64 0)] (.tmp 25) (.tmp 25), none⟩,
  ⟨(some 9), .mv (.tmp 26), none⟩])
 (.seq (.reg [⟨(some 27), .fad 2 (.tmp 2), none⟩,
  ⟨(some 28), .ld none (.tmp 27), none⟩,
  ⟨(some 29), .mv (.tmp 8), none⟩,
  ⟨(some 30), .iad 1 (.tmp 28) (.tmp 29), none⟩,
  ⟨(some 31), .ld none (.tmp 30), none⟩,
  ⟨(some 10), .mv (.tmp 31), none⟩])
 (.seq (.seq (.reg [⟨(some 11), .mv (.const (.int .i64 0)), none⟩])
 (.block 2 (.loop (.seq (.seq (.reg [⟨(some 32), .mv (.tmp 11), none⟩,
  ⟨(some 33), .mv (.tmp 8), none⟩,
  ⟨(some 34), .bin .leq (.tmp 32) (.tmp 33), none⟩])
 (.cond (.tmp 34) (.skip) (.exit 2)))
 (.seq (.block 3 (.seq (.reg [⟨(some 37), .mv (.tmp 11), none⟩,
  ⟨(some 12), .mv (.tmp 37), none⟩])
 (.seq (.seq (.reg [⟨(some 38), .mv (.tmp 1), none⟩])
 (.cond (.tmp 38) (.reg [⟨(some 39), .mv (.tmp 8), none⟩,
  ⟨(some 40), .mv (.tmp 11), none⟩,
  ⟨(some 41), .bin .sub (.tmp 39) (.tmp 40), none⟩,
  ⟨(some 12), .mv (.tmp 41), none⟩]) (.skip)))
 (.seq (.reg [⟨(some 42), .ld (some 5) (.tmp 2), none⟩,
  ⟨(some 43), .mv (.tmp 12), none⟩,
  ⟨(some 44), .mv (.tmp 8), none⟩,
  ⟨(some 45), .call (.func 99) [(.tmp 42), (.tmp 43), (.tmp 44)], none⟩])
 (.cond (.tmp 45) (.seq (.reg [⟨(some 46), .mv (.tmp 9), none⟩,
  ⟨(some 47), .mv (.tmp 12), none⟩,
  ⟨(some 48), .mv (.tmp 10), none⟩,
  ⟨(some 49), .mv (.tmp 6), none⟩,
  ⟨(some 50), .mv (.tmp 12), none⟩,
  ⟨(some 51), .iad 1 (.tmp 49) (.tmp 50), none⟩,
  ⟨(some 52), .ld none (.tmp 51), none⟩,
  ⟨(some 53), .call (.func 101) [(.tmp 48), (.tmp 52)], none⟩,
  ⟨(some 54), .iad 1 (.tmp 46) (.tmp 47), none⟩,
  ⟨none, .st 1 (.tmp 54) (.tmp 53), none⟩])
 (.seq (.reg [⟨(some 55), .mv (.tmp 10), none⟩,
  ⟨(some 56), .mv (.tmp 9), none⟩,
  ⟨(some 57), .mv (.tmp 12), none⟩,
  ⟨(some 58), .iad 1 (.tmp 56) (.tmp 57), none⟩,
  ⟨(some 59), .ld none (.tmp 58), none⟩,
  ⟨(some 60), .bin .sub (.tmp 55) (.tmp 59), none⟩,
  ⟨(some 10), .mv (.tmp 60), none⟩])
 (.reg [⟨(some 61), .mv (.tmp 6), none⟩,
  ⟨(some 62), .mv (.tmp 12), none⟩,
  ⟨(some 63), .mv (.tmp 6), none⟩,
  ⟨(some 64), .mv (.tmp 12), none⟩,
  ⟨(some 65), .iad 1 (.tmp 63) (.tmp 64), none⟩,
  ⟨(some 66), .ld none (.tmp 65), none⟩,
  ⟨(some 67), .mv (.tmp 9), none⟩,
  ⟨(some 68), .mv (.tmp 12), none⟩,
  ⟨(some 69), .iad 1 (.tmp 67) (.tmp 68), none⟩,
  ⟨(some 70), .ld none (.tmp 69), none⟩,
  ⟨(some 71), .bin .sub (.tmp 66) (.tmp 70), none⟩,
  ⟨(some 72), .iad 1 (.tmp 61) (.tmp 62), none⟩,
  ⟨none, .st 1 (.tmp 72) (.tmp 71), none⟩]))) (.skip))))))
 (.reg [⟨(some 35), .mv (.tmp 11), none⟩,
  ⟨(some 36), .bin .add (.tmp 35) (.const (.int .i64 1)), none⟩,
  ⟨(some 11), .mv (.tmp 36), none⟩]))))))
 (.reg [⟨(some 73), .mv (.tmp 7), none⟩,
  ⟨(some 74), .mv (.tmp 9), none⟩,
  ⟨(some 75), .bsl 22 1 1 [(.slice none 0 0)] [(0, 1, (.tmp 74))], none⟩,
  ⟨(some 76), .app 22 1 24 (.tmp 73) (.tmp 75), none⟩,
  ⟨(some 7), .mv (.tmp 76), none⟩])))))
 (.reg [⟨(some 23), .mv (.tmp 8), none⟩,
  ⟨(some 24), .bin .add (.tmp 23) (.const (.int .i64 1)), none⟩,
  ⟨(some 8), .mv (.tmp 24), none⟩]))))))
 (.seq (.reg [⟨(some 77), .mv (.tmp 7), none⟩,
  ⟨(some 4), .mv (.tmp 77), none⟩])
 (.ret))))))
def r_spec_l9Make : List ARes := [.tmp 4]
theorem ok_spec_l9Make : FnOk Try.prog 66 78 c_spec_l9Make r_spec_l9Make := ⟨⟨Try.f66, _, Try.func66, by kernel_rfl, rfl, rfl, by kernel_rfl, by kernel_rfl⟩⟩
def c_impl_issueBy : ACode := .seq (.reg [⟨(some 4), .box 27 (.tmp 0), none⟩,
  ⟨(some 8), .mv (.const (.slice none 0 0)), none⟩])
 (.scope (.seq (.reg [⟨(some 16), .fad 2 (.tmp 4), none⟩,
  ⟨(some 17), .ld none (.tmp 16), none⟩,
  ⟨(some 18), .len (.tmp 17), none⟩,
  ⟨(some 9), .mv (.tmp 18), none⟩])
 (.seq (.reg [⟨(some 19), .mv (.tmp 9), none⟩,
  ⟨(some 20), .mks 22 24 [(.slice none 0 0)] (.tmp 19) (.tmp 19), none⟩,
  ⟨(some 10), .mv (.tmp 20), none⟩])
 (.seq (.seq (.reg [⟨(some 21), .mv (.tmp 10), none⟩,
  ⟨(some 22), .len (.tmp 21), none⟩,
  ⟨(some 23), .mv (.const (.int .i64 0)), none⟩])
 (.block 0 (.loop (.seq (.reg [⟨(some 24), .bin .lss (.tmp 23) (.tmp 22), none⟩])
 (.seq (.cond (.tmp 24) (.skip) (.exit 0))
 (.seq (.block 1 (.seq (.reg [⟨(some 25), .mv (.tmp 23), none⟩,
  ⟨(some 11), .mv (.tmp 25), none⟩])
 (.reg [⟨(some 26), .mv (.tmp 10), none⟩,
  ⟨(some 27), .mv (.tmp 11), none⟩,
  ⟨(some 28), .mv (.tmp 9), none⟩,
  ⟨(some 29), .mks 3 8 [(.int .i64 0)] (.tmp 28) (.tmp 28), none⟩,
  ⟨(some 30), .iad 1 (.tmp 26) (.tmp 27), none⟩,
  ⟨none, .st 1 (.tmp 30) (.tmp 29), none⟩])))
 (.reg [⟨(some 31), .bin .add (.tmp 23) (.const (.int .i64 1)), none⟩,
  ⟨(some 23), .mv (.tmp 31), none⟩])))))))
 (.seq (.reg [⟨(some 32), .ld (some 5) (.tmp 4), none⟩,
  ⟨(some 33), .call (.func 102) [(.tmp 32)], none⟩,
  ⟨(some 12), .alc 27 [(.int .i64 0), (.slice none 0 0), (.slice none 0 0), (.int .i64 0), (.int .i64 0)], none⟩,
  ⟨none, .st 5 (.tmp 12) (.tmp 33), none⟩])
 (.seq (.reg [⟨(some 34), .mv (.tmp 1), none⟩,
  ⟨(some 35), .call (.tmp 34) [(.const (.int .i64 0))], none⟩,
  ⟨(some 36), .mv (.tmp 1), none⟩,
  ⟨(some 37), .mv (.tmp 9), none⟩,
  ⟨(some 38), .call (.tmp 36) [(.tmp 37)], none⟩,
  ⟨(some 13), .alc 97 [(.int .i64 0), (.int .i64 0)], none⟩,
  ⟨(some 14), .alc 97 [(.int .i64 0), (.int .i64 0)], none⟩,
  ⟨none, .st 2 (.tmp 13) (.tmp 35), none⟩,
  ⟨none, .st 2 (.tmp 14) (.tmp 38), none⟩])
 (.seq (.label 0)
 (.seq (.seq (.reg [⟨(some 39), .ld (some 2) (.tmp 13), none⟩,
  ⟨(some 40), .ld (some 2) (.tmp 14), none⟩,
  ⟨(some 41), .aeq false 2 (.tmp 39) (.tmp 40), none⟩])
 (.cond (.tmp 41) (.seq (.reg [⟨(some 42), .mv (.tmp 10), none⟩,
  ⟨(some 8), .mv (.tmp 42), none⟩])
 (.ret)) (.skip)))
 (.seq (.reg [⟨(some 43), .ld (some 5) (.tmp 12), none⟩,
  ⟨(some 44), .ld (some 2) (.tmp 13), none⟩,
  ⟨(some 45), .call (.func 103) [(.tmp 43), (.tmp 44)], none⟩,
  ⟨(some 15), .mv (.tmp 45), none⟩])
 (.seq (.reg [⟨(some 46), .mv (.tmp 10), none⟩,
  ⟨(some 47), .fad 0 (.tmp 13), none⟩,
  ⟨(some 48), .ld none (.tmp 47), none⟩,
  ⟨(some 49), .iad 1 (.tmp 46) (.tmp 48), none⟩,
  ⟨(some 50), .ld none (.tmp 49), none⟩,
  ⟨(some 51), .fad 1 (.tmp 13), none⟩,
  ⟨(some 52), .ld none (.tmp 51), none⟩,
  ⟨(some 53), .mv (.tmp 15), none⟩,
  ⟨(some 54), .iad 1 (.tmp 50) (.tmp 52), none⟩,
  ⟨none, .st 1 (.tmp 54) (.tmp 53), none⟩])
 (.seq (.reg [⟨(some 55), .ld (some 5) (.tmp 12), none⟩,
  ⟨(some 56), .ld (some 2) (.tmp 13), none⟩,
  ⟨(some 57), .mv (.tmp 15), none⟩,
  ⟨(some 58), .call (.func 104) [(.tmp 55), (.tmp 56), (.tmp 57)], none⟩])
 (.seq (.seq (.reg [⟨(some 59), .ld (some 2) (.tmp 13), none⟩,
  ⟨(some 60), .mv (.tmp 2), none⟩,
  ⟨(some 61), .fad 0 (.tmp 13), none⟩,
  ⟨(some 62), .ld none (.tmp 61), none⟩,
  ⟨(some 63), .rcall (.tmp 60) [(.tmp 62)], none⟩,
  ⟨(some 64), .aeq false 2 (.tmp 59) (.tmp 63), none⟩])
 (.cond (.tmp 64) (.seq (.reg [⟨(some 65), .mv (.tmp 1), none⟩,
  ⟨(some 66), .fad 0 (.tmp 13), none⟩,
  ⟨(some 67), .ld none (.tmp 66), none⟩,
  ⟨(some 68), .bin .add (.tmp 67) (.const (.int .i64 1)), none⟩,
  ⟨(some 69), .call (.tmp 65) [(.tmp 68)], none⟩,
  ⟨none, .st 2 (.tmp 13) (.tmp 69), none⟩])
 (.goto 0)) (.skip)))
 (.seq (.reg [⟨(some 70), .fad 1 (.tmp 13), none⟩,
  ⟨(some 71), .ld none (.tmp 70), none⟩,
  ⟨(some 72), .mv (.tmp 3), none⟩,
  ⟨(some 73), .bin .add (.tmp 71) (.tmp 72), none⟩,
  ⟨(some 74), .fad 1 (.tmp 13), none⟩,
  ⟨none, .st 1 (.tmp 74) (.tmp 73), none⟩])
 (.goto 0))))))))))))))
def r_impl_issueBy : List ARes := [.tmp 8]
theorem ok_impl_issueBy : FnOk Try.prog 67 75 c_impl_issueBy r_impl_issueBy := ⟨⟨Try.f67, _, Try.func67, by kernel_rfl, rfl, rfl, by kernel_rfl, by kernel_rfl⟩⟩
def c_impl_oldestUse : ACode := .seq (.reg [⟨(some 2), .alc 97 [(.int .i64 0), (.int .i64 0)], none⟩])
 (.seq (.reg [⟨(some 3), .mv (.tmp 0), none⟩,
  ⟨(some 4), .bld [(.int .i64 0), (.int .i64 0)] [(0, 1, (.tmp 3)), (1, 1, (.const (.int .i64 0)))], none⟩,
  ⟨none, .st 2 (.tmp 2) (.tmp 4), none⟩])
 (.ret))
def r_impl_oldestUse : List ARes := [.cell 2 (some 2)]
theorem ok_impl_oldestUse : FnOk Try.prog 68 5 c_impl_oldestUse r_impl_oldestUse := ⟨⟨Try.f68, _, Try.func68, by kernel_rfl, rfl, rfl, by kernel_rfl, by kernel_rfl⟩⟩
def c_impl_newestUse : ACode := .seq (.reg [⟨(some 2), .alc 97 [(.int .i64 0), (.int .i64 0)], none⟩])
 (.seq (.reg [⟨(some 3), .mv (.tmp 0), none⟩,
  ⟨(some 4), .mv (.tmp 0), none⟩,
  ⟨(some 5), .bld [(.int .i64 0), (.int .i64 0)] [(0, 1, (.tmp 3)), (1, 1, (.tmp 4))], none⟩,
  ⟨none, .st 2 (.tmp 2) (.tmp 5), none⟩])
 (.ret))
def r_impl_newestUse : List ARes := [.cell 2 (some 2)]
theorem ok_impl_newestUse : FnOk Try.prog 69 6 c_impl_newestUse r_impl_newestUse := ⟨⟨Try.f69, _, Try.func69, by kernel_rfl, rfl, rfl, by kernel_rfl, by kernel_rfl⟩⟩
def c_spec_l9Two : ACode := .seq (.reg [⟨(some 2), .box 27 (.tmp 0), none⟩,
  ⟨(some 4), .mv (.const (.bool false)), none⟩])
 (.seq (.reg [⟨(some 5), .ld (some 5) (.tmp 2), none⟩,
  ⟨(some 6), .call (.func 60) [(.tmp 5)], none⟩,
  ⟨(some 7), .mv (.tmp 6), none⟩,
  ⟨(some 8), .ld (some 5) (.tmp 2), (some (7, true))⟩,
  ⟨(some 9), .mv (.tmp 1), (some (7, true))⟩,
  ⟨(some 10), .call (.func 64) [(.tmp 8), (.tmp 9)], (some (7, true))⟩,
  ⟨(some 11), .pick (.tmp 7) (.tmp 10) (.const (.bool false)), none⟩,
  ⟨(some 4), .mv (.tmp 11), none⟩])
 (.ret))
def r_spec_l9Two : List ARes := [.tmp 4]
theorem ok_spec_l9Two : FnOk Try.prog 70 12 c_spec_l9Two r_spec_l9Two := ⟨⟨Try.f70, _, Try.func70, by kernel_rfl, rfl, rfl, by kernel_rfl, by kernel_rfl⟩⟩
def c_spec_l9Lost : ACode := .seq (.reg [⟨(some 2), .box 27 (.tmp 0), none⟩,
  ⟨(some 4), .mv (.const (.slice none 0 0)), none⟩])
 (.seq (.reg [⟨(some 7), .bsl 3 1 0 [] [], none⟩,
  ⟨(some 5), .mv (.tmp 7), none⟩])
 (.seq (.seq (.reg [⟨(some 6), .mv (.const (.int .i64 0)), none⟩])
 (.block 0 (.loop (.seq (.seq (.reg [⟨(some 8), .mv (.tmp 6), none⟩,
  ⟨(some 9), .mv (.tmp 1), none⟩,
  ⟨(some 10), .len (.tmp 9), none⟩,
  ⟨(some 11), .bin .lss (.tmp 8) (.tmp 10), none⟩])
 (.cond (.tmp 11) (.skip) (.exit 0)))
 (.seq (.block 1 (.reg [⟨(some 14), .mv (.tmp 5), none⟩,
  ⟨(some 15), .fad 2 (.tmp 2), none⟩,
  ⟨(some 16), .ld none (.tmp 15), none⟩,
  ⟨(some 17), .mv (.tmp 6), none⟩,
  ⟨(some 18), .iad 1 (.tmp 16) (.tmp 17), none⟩,
  ⟨(some 19), .ld none (.tmp 18), none⟩,
  ⟨(some 20), .mv (.tmp 1), none⟩,
  ⟨(some 21), .mv (.tmp 6), none⟩,
  ⟨(some 22), .iad 1 (.tmp 20) (.tmp 21), none⟩,
  ⟨(some 23), .ld none (.tmp 22), none⟩,
  ⟨(some 24), .rcall (.func 73) [(.tmp 23)], none⟩,
  ⟨(some 25), .bin .sub (.tmp 19) (.tmp 24), none⟩,
  ⟨(some 26), .bsl 3 1 1 [(.int .i64 0)] [(0, 1, (.tmp 25))], none⟩,
  ⟨(some 27), .app 3 1 8 (.tmp 14) (.tmp 26), none⟩,
  ⟨(some 5), .mv (.tmp 27), none⟩]))
 (.reg [⟨(some 12), .mv (.tmp 6), none⟩,
  ⟨(some 13), .bin .add (.tmp 12) (.const (.int .i64 1)), none⟩,
  ⟨(some 6), .mv (.tmp 13), none⟩]))))))
 (.seq (.reg [⟨(some 28), .mv (.tmp 5), none⟩,
  ⟨(some 4), .mv (.tmp 28), none⟩])
 (.ret))))
def r_spec_l9Lost : List ARes := [.tmp 4]
theorem ok_spec_l9Lost : FnOk Try.prog 71 29 c_spec_l9Lost r_spec_l9Lost := ⟨⟨Try.f71, _, Try.func71, by kernel_rfl, rfl, rfl, by kernel_rfl, by kernel_rfl⟩⟩
def c_spec_l9Wasted : ACode := .seq (.reg [⟨(some 2), .box 27 (.tmp 0), none⟩,
  ⟨(some 4), .mv (.const (.slice none 0 0)), none⟩])
 (.seq (.reg [⟨(some 7), .bsl 3 1 0 [] [], none⟩,
  ⟨(some 5), .mv (.tmp 7), none⟩])
 (.seq (.seq (.reg [⟨(some 6), .mv (.const (.int .i64 0)), none⟩])
 (.block 0 (.loop (.seq (.seq (.reg [⟨(some 8), .mv (.tmp 6), none⟩,
  ⟨(some 9), .mv (.tmp 1), none⟩,
  ⟨(some 10), .len (.tmp 9), none⟩,
  ⟨(some 11), .bin .lss (.tmp 8) (.tmp 10), none⟩])
 (.cond (.tmp 11) (.skip) (.exit 0)))
 (.seq (.block 1 (.reg [⟨(some 14), .mv (.tmp 5), none⟩,
  ⟨(some 15), .fad 1 (.tmp 2), none⟩,
  ⟨(some 16), .ld none (.tmp 15), none⟩,
  ⟨(some 17), .mv (.tmp 6), none⟩,
  ⟨(some 18), .iad 1 (.tmp 16) (.tmp 17), none⟩,
  ⟨(some 19), .ld none (.tmp 18), none⟩,
  ⟨(some 20), .mv (.tmp 1), none⟩,
  ⟨(some 21), .mv (.tmp 6), none⟩,
  ⟨(some 22), .rcall (.func 76) [(.tmp 20), (.tmp 21)], none⟩,
  ⟨(some 23), .bin .sub (.tmp 19) (.tmp 22), none⟩,
  ⟨(some 24), .bsl 3 1 1 [(.int .i64 0)] [(0, 1, (.tmp 23))], none⟩,
  ⟨(some 25), .app 3 1 8 (.tmp 14) (.tmp 24), none⟩,
  ⟨(some 5), .mv (.tmp 25), none⟩]))
 (.reg [⟨(some 12), .mv (.tmp 6), none⟩,
  ⟨(some 13), .bin .add (.tmp 12) (.const (.int .i64 1)), none⟩,
  ⟨(some 6), .mv (.tmp 13), none⟩]))))))
 (.seq (.reg [⟨(some 26), .mv (.tmp 5), none⟩,
  ⟨(some 4), .mv (.tmp 26), none⟩])
 (.ret))))
def r_spec_l9Wasted : List ARes := [.tmp 4]
theorem ok_spec_l9Wasted : FnOk Try.prog 72 27 c_spec_l9Wasted r_spec_l9Wasted := ⟨⟨Try.f72, _, Try.func72, by kernel_rfl, rfl, rfl, by kernel_rfl, by kernel_rfl⟩⟩
def c_spec_l2Sum : ACode := .seq (.reg [⟨(some 2), .mv (.const (.int .i64 0)), none⟩])
 (.seq (.reg [⟨(some 3), .mv (.const (.int .i64 0)), none⟩])
 (.seq (.seq (.reg [⟨(some 4), .mv (.const (.int .i64 0)), none⟩])
 (.block 0 (.loop (.seq (.seq (.reg [⟨(some 5), .mv (.tmp 4), none⟩,
  ⟨(some 6), .mv (.tmp 0), none⟩,
  ⟨(some 7), .len (.tmp 6), none⟩,
  ⟨(some 8), .bin .lss (.tmp 5) (.tmp 7), none⟩])
 (.cond (.tmp 8) (.skip) (.exit 0)))
 (.seq (.block 1 (.reg [⟨(some 11), .mv (.tmp 3), none⟩,
  ⟨(some 12), .mv (.tmp 0), none⟩,
  ⟨(some 13), .mv (.tmp 4), none⟩,
  ⟨(some 14), .iad 1 (.tmp 12) (.tmp 13), none⟩,
  ⟨(some 15), .ld none (.tmp 14), none⟩,
  ⟨(some 16), .bin .add (.tmp 11) (.tmp 15), none⟩,
  ⟨(some 3), .mv (.tmp 16), none⟩]))
 (.reg [⟨(some 9), .mv (.tmp 4), none⟩,
  ⟨(some 10), .bin .add (.tmp 9) (.const (.int .i64 1)), none⟩,
  ⟨(some 4), .mv (.tmp 10), none⟩]))))))
 (.seq (.reg [⟨(some 17), .mv (.tmp 3), none⟩,
  ⟨(some 2), .mv (.tmp 17), none⟩])
 (.ret))))
def r_spec_l2Sum : List ARes := [.tmp 2]
theorem ok_spec_l2Sum : FnOk Try.prog 73 18 c_spec_l2Sum r_spec_l2Sum := ⟨⟨Try.f73, _, Try.func73, by kernel_rfl, rfl, rfl, by kernel_rfl, by kernel_rfl⟩⟩
def c_impl_sumOf : ACode := .seq (.reg [⟨(some 2), .mv (.const (.int .i64 0)), none⟩])
 (.seq (.reg [⟨(some 3), .mv (.const (.int .i64 0)), none⟩])
 (.seq (.seq (.reg [⟨(some 6), .mv (.tmp 0), none⟩,
  ⟨(some 7), .len (.tmp 6), none⟩,
  ⟨(some 8), .mv (.const (.int .i64 0)), none⟩])
 (.block 0 (.loop (.seq (.reg [⟨(some 9), .bin .lss (.tmp 8) (.tmp 7), none⟩])
 (.seq (.cond (.tmp 9) (.skip) (.exit 0))
 (.seq (.block 1 (.seq (.reg [⟨(some 10), .iad 1 (.tmp 6) (.tmp 8), none⟩,
  ⟨(some 11), .ld none (.tmp 10), none⟩,
  ⟨(some 5), .mv (.tmp 11), none⟩])
 (.reg [⟨(some 12), .mv (.tmp 3), none⟩,
  ⟨(some 13), .mv (.tmp 5), none⟩,
  ⟨(some 14), .bin .add (.tmp 12) (.tmp 13), none⟩,
  ⟨(some 3), .mv (.tmp 14), none⟩])))
 (.reg [⟨(some 15), .bin .add (.tmp 8) (.const (.int .i64 1)), none⟩,
  ⟨(some 8), .mv (.tmp 15), none⟩])))))))
 (.seq (.reg [⟨(some 16), .mv (.tmp 3), none⟩,
  ⟨(some 2), .mv (.tmp 16), none⟩])
 (.ret))))
def r_impl_sumOf : List ARes := [.tmp 2]
theorem ok_impl_sumOf : FnOk Try.prog 74 17 c_impl_sumOf r_impl_sumOf := ⟨⟨Try.f74, _, Try.func74, by kernel_rfl, rfl, rfl, by kernel_rfl, by kernel_rfl⟩⟩
def c_spec_l1In : ACode := .seq (.reg [⟨(some 6), .mv (.const (.bool false)), none⟩])
 (.seq (.reg [⟨(some 7), .mv (.tmp 0), none⟩,
  ⟨(some 8), .mv (.tmp 1), none⟩,
  ⟨(some 9), .bin .geq (.tmp 7) (.tmp 8), none⟩,
  ⟨(some 10), .mv (.tmp 9), none⟩,
  ⟨(some 11), .mv (.tmp 0), (some (10, true))⟩,
  ⟨(some 12), .mv (.tmp 2), (some (10, true))⟩,
  ⟨(some 13), .bin .leq (.tmp 11) (.tmp 12), (some (10, true))⟩,
  ⟨(some 14), .pick (.tmp 10) (.tmp 13) (.const (.bool false)), none⟩,
  ⟨(some 6), .mv (.tmp 14), none⟩])
 (.ret))
def r_spec_l1In : List ARes := [.tmp 6]
theorem ok_spec_l1In : FnOk Try.prog 75 15 c_spec_l1In r_spec_l1In := ⟨⟨Try.f75, _, Try.func75, by kernel_rfl, rfl, rfl, by kernel_rfl, by kernel_rfl⟩⟩
def c_spec_l9Column : ACode := .seq (.reg [⟨(some 4), .mv (.const (.int .i64 0)), none⟩])
 (.seq (.reg [⟨(some 5), .mv (.const (.int .i64 0)), none⟩])
 (.seq (.seq (.reg [⟨(some 6), .mv (.const (.int .i64 0)), none⟩])
 (.block 0 (.loop (.seq (.seq (.reg [⟨(some 7), .mv (.tmp 6), none⟩,
  ⟨(some 8), .mv (.tmp 0), none⟩,
  ⟨(some 9), .len (.tmp 8), none⟩,
  ⟨(some 10), .bin .lss (.tmp 7) (.tmp 9), none⟩])
 (.cond (.tmp 10) (.skip) (.exit 0)))
 (.seq (.block 1 (.reg [⟨(some 13), .mv (.tmp 5), none⟩,
  ⟨(some 14), .mv (.tmp 0), none⟩,
  ⟨(some 15), .mv (.tmp 6), none⟩,
  ⟨(some 16), .iad 1 (.tmp 14) (.tmp 15), none⟩,
  ⟨(some 17), .ld none (.tmp 16), none⟩,
  ⟨(some 18), .mv (.tmp 1), none⟩,
  ⟨(some 19), .iad 1 (.tmp 17) (.tmp 18), none⟩,
  ⟨(some 20), .ld none (.tmp 19), none⟩,
  ⟨(some 21), .bin .add (.tmp 13) (.tmp 20), none⟩,
  ⟨(some 5), .mv (.tmp 21), none⟩]))
 (.reg [⟨(some 11), .mv (.tmp 6), none⟩,
  ⟨(some 12), .bin .add (.tmp 11) (.const (.int .i64 1)), none⟩,
  ⟨(some 6), .mv (.tmp 12), none⟩]))))))
 (.seq (.reg [⟨(some 22), .mv (.tmp 5), none⟩,
  ⟨(some 4), .mv (.tmp 22), none⟩])
 (.ret))))
def r_spec_l9Column : List ARes := [.tmp 4]
theorem ok_spec_l9Column : FnOk Try.prog 76 23 c_spec_l9Column r_spec_l9Column := ⟨⟨Try.f76, _, Try.func76, by kernel_rfl, rfl, rfl, by kernel_rfl, by kernel_rfl⟩⟩
def c_impl_leftBehind : ACode := .seq (.reg [⟨(some 2), .box 27 (.tmp 0), none⟩,
  ⟨(some 4), .alc 27 [(.int .i64 0), (.slice none 0 0), (.slice none 0 0), (.int .i64 0), (.int .i64 0)], none⟩,
  ⟨(some 5), .mv (.const (.bool false)), none⟩])
 (.seq (.reg [⟨(some 12), .ld (some 5) (.tmp 2), none⟩,
  ⟨(some 13), .call (.func 102) [(.tmp 12)], none⟩,
  ⟨(some 6), .alc 27 [(.int .i64 0), (.slice none 0 0), (.slice none 0 0), (.int .i64 0), (.int .i64 0)], none⟩,
  ⟨none, .st 5 (.tmp 6) (.tmp 13), none⟩])
 (.seq (.seq (.reg [⟨(some 14), .mv (.tmp 1), none⟩,
  ⟨(some 15), .len (.tmp 14), none⟩,
  ⟨(some 16), .mv (.const (.int .i64 0)), none⟩])
 (.block 0 (.loop (.seq (.reg [⟨(some 17), .bin .lss (.tmp 16) (.tmp 15), none⟩])
 (.seq (.cond (.tmp 17) (.skip) (.exit 0))
 (.seq (.block 1 (.seq (.reg [⟨(some 18), .mv (.tmp 16), none⟩,
  ⟨(some 19), .iad 1 (.tmp 14) (.tmp 16), none⟩,
  ⟨(some 20), .ld none (.tmp 19), none⟩,
  ⟨(some 7), .mv (.tmp 18), none⟩,
  ⟨(some 8), .mv (.tmp 20), none⟩])
 (.seq (.seq (.reg [⟨(some 21), .mv (.tmp 8), none⟩,
  ⟨(some 22), .len (.tmp 21), none⟩,
  ⟨(some 23), .fad 1 (.tmp 2), none⟩,
  ⟨(some 24), .ld none (.tmp 23), none⟩,
  ⟨(some 25), .len (.tmp 24), none⟩,
  ⟨(some 26), .bin .neq (.tmp 22) (.tmp 25), none⟩])
 (.cond (.tmp 26) (.seq (.reg [⟨(some 27), .bld [(.int .i64 0), (.slice none 0 0), (.slice none 0 0), (.int .i64 0), (.int .i64 0)] [], none⟩,
  ⟨none, .st 5 (.tmp 4) (.tmp 27), none⟩,
  ⟨(some 5), .mv (.const (.bool false)), none⟩])
 (.ret)) (.skip)))
 (.seq (.reg [⟨(some 28), .mv (.tmp 8), none⟩,
  ⟨(some 29), .len (.tmp 28), none⟩,
  ⟨(some 30), .mv (.const (.int .i64 0)), none⟩])
 (.block 2 (.loop (.seq (.reg [⟨(some 31), .bin .lss (.tmp 30) (.tmp 29), none⟩])
 (.seq (.cond (.tmp 31) (.skip) (.exit 2))
 (.seq (.block 3 (.seq (.reg [⟨(some 32), .mv (.tmp 30), none⟩,
  ⟨(some 33), .iad 1 (.tmp 28) (.tmp 30), none⟩,
  ⟨(some 34), .ld none (.tmp 33), none⟩,
  ⟨(some 9), .mv (.tmp 32), none⟩,
  ⟨(some 10), .mv (.tmp 34), none⟩])
 (.seq (.reg [⟨(some 35), .mv (.tmp 7), none⟩,
  ⟨(some 36), .mv (.tmp 9), none⟩,
  ⟨(some 37), .bld [(.int .i64 0), (.int .i64 0)] [(0, 1, (.tmp 35)), (1, 1, (.tmp 36))], none⟩,
  ⟨(some 11), .alc 97 [(.int .i64 0), (.int .i64 0)], none⟩,
  ⟨none, .st 2 (.tmp 11) (.tmp 37), none⟩])
 (.seq (.seq (.reg [⟨(some 38), .mv (.tmp 10), none⟩,
  ⟨(some 39), .ld (some 5) (.tmp 6), none⟩,
  ⟨(some 40), .ld (some 2) (.tmp 11), none⟩,
  ⟨(some 41), .call (.func 103) [(.tmp 39), (.tmp 40)], none⟩,
  ⟨(some 42), .call (.func 63) [(.tmp 38), (.tmp 41)], none⟩,
  ⟨(some 43), .un .not (.tmp 42), none⟩])
 (.cond (.tmp 43) (.seq (.reg [⟨(some 44), .bld [(.int .i64 0), (.slice none 0 0), (.slice none 0 0), (.int .i64 0), (.int .i64 0)] [], none⟩,
  ⟨none, .st 5 (.tmp 4) (.tmp 44), none⟩,
  ⟨(some 5), .mv (.const (.bool false)), none⟩])
 (.ret)) (.skip)))
 (.reg [⟨(some 45), .ld (some 5) (.tmp 6), none⟩,
  ⟨(some 46), .ld (some 2) (.tmp 11), none⟩,
  ⟨(some 47), .mv (.tmp 10), none⟩,
  ⟨(some 48), .call (.func 104) [(.tmp 45), (.tmp 46), (.tmp 47)], none⟩])))))
 (.reg [⟨(some 49), .bin .add (.tmp 30) (.const (.int .i64 1)), none⟩,
  ⟨(some 30), .mv (.tmp 49), none⟩]))))))))))
 (.reg [⟨(some 50), .bin .add (.tmp 16) (.const (.int .i64 1)), none⟩,
  ⟨(some 16), .mv (.tmp 50), none⟩])))))))
 (.seq (.reg [⟨(some 51), .ld (some 5) (.tmp 6), none⟩,
  ⟨none, .st 5 (.tmp 4) (.tmp 51), none⟩,
  ⟨(some 5), .mv (.const (.bool true)), none⟩])
 (.ret))))
def r_impl_leftBehind : List ARes := [.cell 4 (some 5), .tmp 5]
theorem ok_impl_leftBehind : FnOk Try.prog 77 52 c_impl_leftBehind r_impl_leftBehind := ⟨⟨Try.f77, _, Try.func77, by kernel_rfl, rfl, rfl, by kernel_rfl, by kernel_rfl⟩⟩
def c_spec_l1Rising : ACode := .seq (.reg [⟨(some 6), .mv (.const (.bool false)), none⟩])
 (.seq (.seq (.reg [⟨(some 7), .mv (.const (.int .i64 0)), none⟩])
 (.block 0 (.loop (.seq (.seq (.reg [⟨(some 8), .mv (.tmp 7), none⟩,
  ⟨(some 9), .mv (.tmp 0), none⟩,
  ⟨(some 10), .len (.tmp 9), none⟩,
  ⟨(some 11), .bin .lss (.tmp 8) (.tmp 10), none⟩])
 (.cond (.tmp 11) (.skip) (.exit 0)))
 (.seq (.block 1 (.seq (.reg [⟨(some 14), .mv (.tmp 0), none⟩,
  ⟨(some 15), .mv (.tmp 7), none⟩,
  ⟨(some 16), .iad 1 (.tmp 14) (.tmp 15), none⟩,
  ⟨(some 17), .ld none (.tmp 16), none⟩,
  ⟨(some 18), .mv (.tmp 1), none⟩,
  ⟨(some 19), .mv (.tmp 2), none⟩,
  ⟨(some 20), .rcall (.func 75) [(.tmp 17), (.tmp 18), (.tmp 19)], none⟩,
  ⟨(some 21), .un .not (.tmp 20), none⟩,
  ⟨(some 22), .mv (.tmp 21), none⟩,
  ⟨(some 23), .mv (.tmp 7), (some (22, false))⟩,
  ⟨(some 24), .bin .gtr (.tmp 23) (.const (.int .i64 0)), (some (22, false))⟩,
  ⟨(some 25), .mv (.tmp 24), (some (22, false))⟩,
  ⟨(some 26), .mv (.tmp 0), (some (25, true))⟩,
  ⟨(some 27), .mv (.tmp 7), (some (25, true))⟩,
  ⟨(some 28), .bin .sub (.tmp 27) (.const (.int .i64 1)), (some (25, true))⟩,
  ⟨(some 29), .iad 1 (.tmp 26) (.tmp 28), (some (25, true))⟩,
  ⟨(some 30), .ld none (.tmp 29), (some (25, true))⟩,
  ⟨(some 31), .mv (.tmp 0), (some (25, true))⟩,
  ⟨(some 32), .mv (.tmp 7), (some (25, true))⟩,
  ⟨(some 33), .iad 1 (.tmp 31) (.tmp 32), (some (25, true))⟩,
  ⟨(some 34), .ld none (.tmp 33), (some (25, true))⟩,
  ⟨(some 35), .bin .geq (.tmp 30) (.tmp 34), (some (25, true))⟩,
  ⟨(some 36), .pick (.tmp 25) (.tmp 35) (.const (.bool false)), (some (22, false))⟩,
  ⟨(some 37), .pick (.tmp 22) (.const (.bool true)) (.tmp 36), none⟩])
 (.cond (.tmp 37) (.seq (.reg [⟨(some 6), .mv (.const (.bool false)), none⟩])
 (.ret)) (.skip))))
 (.reg [⟨(some 12), .mv (.tmp 7), none⟩,
  ⟨(some 13), .bin .add (.tmp 12) (.const (.int .i64 1)), none⟩,
  ⟨(some 7), .mv (.tmp 13), none⟩]))))))
 (.seq (.reg [⟨(some 6), .mv (.const (.bool true)), none⟩])
 (.ret)))
def r_spec_l1Rising : List ARes := [.tmp 6]
theorem ok_spec_l1Rising : FnOk Try.prog 78 38 c_spec_l1Rising r_spec_l1Rising := ⟨⟨Try.f78, _, Try.func78, by kernel_rfl, rfl, rfl, by kernel_rfl, by kernel_rfl⟩⟩
def c_spec_l9Bound : ACode := .seq (.reg [⟨(some 2), .box 27 (.tmp 0), none⟩,
  ⟨(some 4), .mv (.const (.int .i64 0)), none⟩])
 (.seq (.reg [⟨(some 5), .mv (.const (.int .i64 0)), none⟩])
 (.seq (.seq (.reg [⟨(some 6), .mv (.const (.int .i64 0)), none⟩])
 (.block 0 (.loop (.seq (.seq (.reg [⟨(some 10), .mv (.tmp 6), none⟩,
  ⟨(some 11), .mv (.tmp 1), none⟩,
  ⟨(some 12), .len (.tmp 11), none⟩,
  ⟨(some 13), .bin .lss (.tmp 10) (.tmp 12), none⟩])
 (.cond (.tmp 13) (.skip) (.exit 0)))
 (.seq (.block 1 (.reg [⟨(some 16), .mv (.tmp 5), none⟩,
  ⟨(some 17), .fad 2 (.tmp 2), none⟩,
  ⟨(some 18), .ld none (.tmp 17), none⟩,
  ⟨(some 19), .mv (.tmp 1), none⟩,
  ⟨(some 20), .mv (.tmp 6), none⟩,
  ⟨(some 21), .iad 1 (.tmp 19) (.tmp 20), none⟩,
  ⟨(some 22), .ld none (.tmp 21), none⟩,
  ⟨(some 23), .iad 1 (.tmp 18) (.tmp 22), none⟩,
  ⟨(some 24), .ld none (.tmp 23), none⟩,
  ⟨(some 25), .bin .add (.tmp 16) (.tmp 24), none⟩,
  ⟨(some 5), .mv (.tmp 25), none⟩]))
 (.reg [⟨(some 14), .mv (.tmp 6), none⟩,
  ⟨(some 15), .bin .add (.tmp 14) (.const (.int .i64 1)), none⟩,
  ⟨(some 6), .mv (.tmp 15), none⟩]))))))
 (.seq (.seq (.reg [⟨(some 7), .mv (.const (.int .i64 0)), none⟩])
 (.block 2 (.loop (.seq (.seq (.reg [⟨(some 26), .mv (.tmp 7), none⟩,
  ⟨(some 27), .fad 1 (.tmp 2), none⟩,
  ⟨(some 28), .ld none (.tmp 27), none⟩,
  ⟨(some 29), .len (.tmp 28), none⟩,
  ⟨(some 30), .bin .lss (.tmp 26) (.tmp 29), none⟩])
 (.cond (.tmp 30) (.skip) (.exit 2)))
 (.seq (.block 3 (.seq (.reg [⟨(some 8), .mv (.const (.bool false)), none⟩])
 (.seq (.seq (.reg [⟨(some 9), .mv (.const (.int .i64 0)), none⟩])
 (.block 4 (.loop (.seq (.seq (.reg [⟨(some 33), .mv (.tmp 9), none⟩,
  ⟨(some 34), .mv (.tmp 1), none⟩,
  ⟨(some 35), .len (.tmp 34), none⟩,
  ⟨(some 36), .bin .lss (.tmp 33) (.tmp 35), none⟩])
 (.cond (.tmp 36) (.skip) (.exit 4)))
 (.seq (.block 5 (.reg [⟨(some 39), .mv (.tmp 8), none⟩,
  ⟨(some 40), .mv (.tmp 39), none⟩,
  ⟨(some 41), .ld (some 5) (.tmp 2), (some (40, false))⟩,
  ⟨(some 42), .mv (.tmp 7), (some (40, false))⟩,
  ⟨(some 43), .mv (.tmp 1), (some (40, false))⟩,
  ⟨(some 44), .mv (.tmp 9), (some (40, false))⟩,
  ⟨(some 45), .iad 1 (.tmp 43) (.tmp 44), (some (40, false))⟩,
  ⟨(some 46), .ld none (.tmp 45), (some (40, false))⟩,
  ⟨(some 47), .rcall (.func 99) [(.tmp 41), (.tmp 42), (.tmp 46)], (some (40, false))⟩,
  ⟨(some 48), .pick (.tmp 40) (.const (.bool true)) (.tmp 47), none⟩,
  ⟨(some 8), .mv (.tmp 48), none⟩]))
 (.reg [⟨(some 37), .mv (.tmp 9), none⟩,
  ⟨(some 38), .bin .add (.tmp 37) (.const (.int .i64 1)), none⟩,
  ⟨(some 9), .mv (.tmp 38), none⟩]))))))
 (.seq (.reg [⟨(some 49), .mv (.tmp 8), none⟩])
 (.cond (.tmp 49) (.reg [⟨(some 50), .mv (.tmp 5), none⟩,
  ⟨(some 51), .fad 1 (.tmp 2), none⟩,
  ⟨(some 52), .ld none (.tmp 51), none⟩,
  ⟨(some 53), .mv (.tmp 7), none⟩,
  ⟨(some 54), .iad 1 (.tmp 52) (.tmp 53), none⟩,
  ⟨(some 55), .ld none (.tmp 54), none⟩,
  ⟨(some 56), .bin .sub (.tmp 50) (.tmp 55), none⟩,
  ⟨(some 5), .mv (.tmp 56), none⟩]) (.skip))))))
 (.reg [⟨(some 31), .mv (.tmp 7), none⟩,
  ⟨(some 32), .bin .add (.tmp 31) (.const (.int .i64 1)), none⟩,
  ⟨(some 7), .mv (.tmp 32), none⟩]))))))
 (.seq (.reg [⟨(some 57), .mv (.tmp 5), none⟩,
  ⟨(some 4), .mv (.tmp 57), none⟩])
 (.ret)))))
def r_spec_l9Bound : List ARes := [.tmp 4]
theorem ok_spec_l9Bound : FnOk Try.prog 79 58 c_spec_l9Bound r_spec_l9Bound := ⟨⟨Try.f79, _, Try.func79, by kernel_rfl, rfl, rfl, by kernel_rfl, by kernel_rfl⟩⟩
def c_impl_isAscending : ACode := .seq (.reg [⟨(some 4), .mv (.const (.bool false)), none⟩])
 (.seq (.reg [⟨(some 5), .mv (.const (.int .i64 0)), none⟩])
 (.seq (.seq (.reg [⟨(some 8), .mv (.tmp 0), none⟩,
  ⟨(some 9), .len (.tmp 8), none⟩,
  ⟨(some 10), .mv (.const (.int .i64 0)), none⟩])
 (.block 0 (.loop (.seq (.reg [⟨(some 11), .bin .lss (.tmp 10) (.tmp 9), none⟩])
 (.seq (.cond (.tmp 11) (.skip) (.exit 0))
 (.seq (.block 1 (.seq (.reg [⟨(some 12), .iad 1 (.tmp 8) (.tmp 10), none⟩,
  ⟨(some 13), .ld none (.tmp 12), none⟩,
  ⟨(some 7), .mv (.tmp 13), none⟩])
 (.seq (.seq (.reg [⟨(some 14), .mv (.tmp 7), none⟩,
  ⟨(some 15), .mv (.tmp 5), none⟩,
  ⟨(some 16), .bin .lss (.tmp 14) (.tmp 15), none⟩,
  ⟨(some 17), .mv (.tmp 16), none⟩,
  ⟨(some 18), .mv (.tmp 7), (some (17, false))⟩,
  ⟨(some 19), .mv (.tmp 1), (some (17, false))⟩,
  ⟨(some 20), .bin .geq (.tmp 18) (.tmp 19), (some (17, false))⟩,
  ⟨(some 21), .pick (.tmp 17) (.const (.bool true)) (.tmp 20), none⟩])
 (.cond (.tmp 21) (.seq (.reg [⟨(some 4), .mv (.const (.bool false)), none⟩])
 (.ret)) (.skip)))
 (.reg [⟨(some 22), .mv (.tmp 7), none⟩,
  ⟨(some 23), .bin .add (.tmp 22) (.const (.int .i64 1)), none⟩,
  ⟨(some 5), .mv (.tmp 23), none⟩]))))
 (.reg [⟨(some 24), .bin .add (.tmp 10) (.const (.int .i64 1)), none⟩,
  ⟨(some 10), .mv (.tmp 24), none⟩])))))))
 (.seq (.reg [⟨(some 4), .mv (.const (.bool true)), none⟩])
 (.ret))))
def r_impl_isAscending : List ARes := [.tmp 4]
theorem ok_impl_isAscending : FnOk Try.prog 80 25 c_impl_isAscending r_impl_isAscending := ⟨⟨Try.f80, _, Try.func80, by kernel_rfl, rfl, rfl, by kernel_rfl, by kernel_rfl⟩⟩
def c_impl_lostBound : ACode := .seq (.reg [⟨(some 2), .box 27 (.tmp 0), none⟩,
  ⟨(some 4), .mv (.const (.int .i64 0)), none⟩])
 (.seq (.reg [⟨(some 5), .mv (.const (.int .i64 0)), none⟩])
 (.seq (.seq (.reg [⟨(some 10), .mv (.tmp 1), none⟩,
  ⟨(some 11), .len (.tmp 10), none⟩,
  ⟨(some 12), .mv (.const (.int .i64 0)), none⟩])
 (.block 0 (.loop (.seq (.reg [⟨(some 13), .bin .lss (.tmp 12) (.tmp 11), none⟩])
 (.seq (.cond (.tmp 13) (.skip) (.exit 0))
 (.seq (.block 1 (.seq (.reg [⟨(some 14), .iad 1 (.tmp 10) (.tmp 12), none⟩,
  ⟨(some 15), .ld none (.tmp 14), none⟩,
  ⟨(some 7), .mv (.tmp 15), none⟩])
 (.reg [⟨(some 16), .mv (.tmp 5), none⟩,
  ⟨(some 17), .fad 2 (.tmp 2), none⟩,
  ⟨(some 18), .ld none (.tmp 17), none⟩,
  ⟨(some 19), .mv (.tmp 7), none⟩,
  ⟨(some 20), .iad 1 (.tmp 18) (.tmp 19), none⟩,
  ⟨(some 21), .ld none (.tmp 20), none⟩,
  ⟨(some 22), .bin .add (.tmp 16) (.tmp 21), none⟩,
  ⟨(some 5), .mv (.tmp 22), none⟩])))
 (.reg [⟨(some 23), .bin .add (.tmp 12) (.const (.int .i64 1)), none⟩,
  ⟨(some 12), .mv (.tmp 23), none⟩])))))))
 (.seq (.seq (.reg [⟨(some 24), .fad 1 (.tmp 2), none⟩,
  ⟨(some 25), .ld none (.tmp 24), none⟩,
  ⟨(some 26), .len (.tmp 25), none⟩,
  ⟨(some 27), .mv (.const (.int .i64 0)), none⟩])
 (.block 2 (.loop (.seq (.reg [⟨(some 28), .bin .lss (.tmp 27) (.tmp 26), none⟩])
 (.seq (.cond (.tmp 28) (.skip) (.exit 2))
 (.seq (.block 3 (.seq (.reg [⟨(some 29), .mv (.tmp 27), none⟩,
  ⟨(some 30), .iad 1 (.tmp 25) (.tmp 27), none⟩,
  ⟨(some 31), .ld none (.tmp 30), none⟩,
  ⟨(some 8), .alc 3 [(.int .i64 0)], none⟩,
  ⟨none, .st 1 (.tmp 8) (.tmp 29), none⟩,
  ⟨(some 9), .mv (.tmp 31), none⟩])
 (.seq (.reg [⟨(some 32), .mv (.tmp 1), none⟩,
  ⟨(some 33), .mkf 105 [] [(.tmp 8), (.tmp 2)], none⟩,
  ⟨(some 34), .call (.func 98) [(.tmp 32), (.tmp 33)], none⟩])
 (.cond (.tmp 34) (.reg [⟨(some 35), .mv (.tmp 5), none⟩,
  ⟨(some 36), .mv (.tmp 9), none⟩,
  ⟨(some 37), .bin .sub (.tmp 35) (.tmp 36), none⟩,
  ⟨(some 5), .mv (.tmp 37), none⟩]) (.skip)))))
 (.reg [⟨(some 38), .bin .add (.tmp 27) (.const (.int .i64 1)), none⟩,
  ⟨(some 27), .mv (.tmp 38), none⟩])))))))
 (.seq (.reg [⟨(some 39), .mv (.tmp 5), none⟩,
  ⟨(some 4), .mv (.tmp 39), none⟩])
 (.ret)))))
def r_impl_lostBound : List ARes := [.tmp 4]
theorem ok_impl_lostBound : FnOk Try.prog 81 40 c_impl_lostBound r_impl_lostBound := ⟨⟨Try.f81, _, Try.func81, by kernel_rfl, rfl, rfl, by kernel_rfl, by kernel_rfl⟩⟩
def c_spec_l2Bits : ACode := .seq (.reg [⟨(some 4), .mv (.const (.slice none 0 0)), none⟩])
 (.seq (.reg [⟨(some 7), .bsl 3 1 0 [] [], none⟩,
  ⟨(some 5), .mv (.tmp 7), none⟩])
 (.seq (.seq (.reg [⟨(some 6), .mv (.const (.int .i64 0)), none⟩])
 (.block 0 (.loop (.seq (.seq (.reg [⟨(some 8), .mv (.tmp 6), none⟩,
  ⟨(some 9), .mv (.tmp 0), none⟩,
  ⟨(some 10), .bin .lss (.tmp 8) (.tmp 9), none⟩])
 (.cond (.tmp 10) (.skip) (.exit 0)))
 (.seq (.block 1 (.seq (.reg [⟨(some 13), .mv (.tmp 1), none⟩,
  ⟨(some 14), .mv (.tmp 6), none⟩,
  ⟨(some 15), .bin .shr (.tmp 13) (.tmp 14), none⟩,
  ⟨(some 16), .bin .and (.tmp 15) (.const (.int .i64 1)), none⟩,
  ⟨(some 17), .bin .eql (.tmp 16) (.const (.int .i64 1)), none⟩])
 (.cond (.tmp 17) (.reg [⟨(some 18), .mv (.tmp 5), none⟩,
  ⟨(some 19), .mv (.tmp 6), none⟩,
  ⟨(some 20), .bsl 3 1 1 [(.int .i64 0)] [(0, 1, (.tmp 19))], none⟩,
  ⟨(some 21), .app 3 1 8 (.tmp 18) (.tmp 20), none⟩,
  ⟨(some 5), .mv (.tmp 21), none⟩]) (.skip))))
 (.reg [⟨(some 11), .mv (.tmp 6), none⟩,
  ⟨(some 12), .bin .add (.tmp 11) (.const (.int .i64 1)), none⟩,
  ⟨(some 6), .mv (.tmp 12), none⟩]))))))
 (.seq (.reg [⟨(some 22), .mv (.tmp 5), none⟩,
  ⟨(some 4), .mv (.tmp 22), none⟩])
 (.ret))))
def r_spec_l2Bits : List ARes := [.tmp 4]
theorem ok_spec_l2Bits : FnOk Try.prog 82 23 c_spec_l2Bits r_spec_l2Bits := ⟨⟨Try.f82, _, Try.func82, by kernel_rfl, rfl, rfl, by kernel_rfl, by kernel_rfl⟩⟩
def c_spec_l2Before : ACode := .seq (.reg [⟨(some 4), .mv (.const (.bool false)), none⟩])
 (.seq (.seq (.reg [⟨(some 6), .mv (.tmp 0), none⟩,
  ⟨(some 7), .len (.tmp 6), none⟩,
  ⟨(some 8), .mv (.tmp 1), none⟩,
  ⟨(some 9), .len (.tmp 8), none⟩,
  ⟨(some 10), .bin .neq (.tmp 7) (.tmp 9), none⟩])
 (.cond (.tmp 10) (.seq (.reg [⟨(some 11), .mv (.tmp 0), none⟩,
  ⟨(some 12), .len (.tmp 11), none⟩,
  ⟨(some 13), .mv (.tmp 1), none⟩,
  ⟨(some 14), .len (.tmp 13), none⟩,
  ⟨(some 15), .bin .lss (.tmp 12) (.tmp 14), none⟩,
  ⟨(some 4), .mv (.tmp 15), none⟩])
 (.ret)) (.skip)))
 (.seq (.seq (.reg [⟨(some 5), .mv (.const (.int .i64 0)), none⟩])
 (.block 0 (.loop (.seq (.seq (.reg [⟨(some 16), .mv (.tmp 5), none⟩,
  ⟨(some 17), .mv (.tmp 0), none⟩,
  ⟨(some 18), .len (.tmp 17), none⟩,
  ⟨(some 19), .bin .lss (.tmp 16) (.tmp 18), none⟩])
 (.cond (.tmp 19) (.skip) (.exit 0)))
 (.seq (.block 1 (.seq (.reg [⟨(some 22), .mv (.tmp 0), none⟩,
  ⟨(some 23), .mv (.tmp 5), none⟩,
  ⟨(some 24), .iad 1 (.tmp 22) (.tmp 23), none⟩,
  ⟨(some 25), .ld none (.tmp 24), none⟩,
  ⟨(some 26), .mv (.tmp 1), none⟩,
  ⟨(some 27), .mv (.tmp 5), none⟩,
  ⟨(some 28), .iad 1 (.tmp 26) (.tmp 27), none⟩,
  ⟨(some 29), .ld none (.tmp 28), none⟩,
  ⟨(some 30), .bin .neq (.tmp 25) (.tmp 29), none⟩])
 (.cond (.tmp 30) (.seq (.reg [⟨(some 31), .mv (.tmp 0), none⟩,
  ⟨(some 32), .mv (.tmp 5), none⟩,
  ⟨(some 33), .iad 1 (.tmp 31) (.tmp 32), none⟩,
  ⟨(some 34), .ld none (.tmp 33), none⟩,
  ⟨(some 35), .mv (.tmp 1), none⟩,
  ⟨(some 36), .mv (.tmp 5), none⟩,
  ⟨(some 37), .iad 1 (.tmp 35) (.tmp 36), none⟩,
  ⟨(some 38), .ld none (.tmp 37), none⟩,
  ⟨(some 39), .bin .lss (.tmp 34) (.tmp 38), none⟩,
  ⟨(some 4), .mv (.tmp 39), none⟩])
 (.ret)) (.skip))))
 (.reg [⟨(some 20), .mv (.tmp 5), none⟩,
  ⟨(some 21), .bin .add (.tmp 20) (.const (.int .i64 1)), none⟩,
  ⟨(some 5), .mv (.tmp 21), none⟩]))))))
 (.seq (.reg [⟨(some 4), .mv (.const (.bool false)), none⟩])
 (.ret))))
def r_spec_l2Before : List ARes := [.tmp 4]
theorem ok_spec_l2Before : FnOk Try.prog 83 40 c_spec_l2Before r_spec_l2Before := ⟨⟨Try.f83, _, Try.func83, by kernel_rfl, rfl, rfl, by kernel_rfl, by kernel_rfl⟩⟩
def c_impl_bestOfSets : ACode := .seq (.reg [⟨(some 4), .alc 83 [(.int .i64 0), (.slice none 0 0)], none⟩])
 (.seq (.reg [⟨(some 11), .bld [(.int .i64 0), (.slice none 0 0)] [(0, 1, (.const (.int .i64 9223372036854775807)))], none⟩,
  ⟨(some 5), .alc 83 [(.int .i64 0), (.slice none 0 0)], none⟩,
  ⟨none, .st 2 (.tmp 5) (.tmp 11), none⟩])
 (.seq (.seq (.reg [⟨(some 12), .mv (.tmp 0), none⟩,
  ⟨(some 13), .call (.func 107) [(.tmp 12)], none⟩,
  ⟨(some 14), .bin .add (.tmp 13) (.const (.int .u64 1)), none⟩,
  ⟨(some 15), .mv (.const (.int .u64 0)), none⟩])
 (.block 0 (.loop (.seq (.reg [⟨(some 16), .bin .lss (.tmp 15) (.tmp 14), none⟩])
 (.seq (.cond (.tmp 16) (.skip) (.exit 0))
 (.seq (.block 1 (.seq (.reg [⟨(some 17), .mv (.tmp 15), none⟩,
  ⟨(some 6), .mv (.tmp 17), none⟩])
 (.seq (.reg [⟨(some 18), .mv (.tmp 6), none⟩,
  ⟨(some 19), .call (.func 108) [(.tmp 18)], none⟩,
  ⟨(some 7), .mv (.tmp 19), none⟩])
 (.seq (.reg [⟨(some 21), .mv (.tmp 1), none⟩,
  ⟨(some 22), .mv (.tmp 7), none⟩,
  ⟨(some 23), .call (.tmp 21) [(.tmp 22)], none⟩,
  ⟨(some 20), .mv (.tmp 23), none⟩,
  ⟨(some 24), .ext 0 (.tmp 20), none⟩,
  ⟨(some 25), .ext 1 (.tmp 20), none⟩,
  ⟨(some 8), .mv (.tmp 24), none⟩,
  ⟨(some 9), .mv (.tmp 25), none⟩])
 (.seq (.reg [⟨(some 26), .mv (.tmp 8), none⟩,
  ⟨(some 27), .mv (.tmp 7), none⟩,
  ⟨(some 28), .bld [(.int .i64 0), (.slice none 0 0)] [(0, 1, (.tmp 26)), (1, 1, (.tmp 27))], none⟩,
  ⟨(some 10), .alc 83 [(.int .i64 0), (.slice none 0 0)], none⟩,
  ⟨none, .st 2 (.tmp 10) (.tmp 28), none⟩])
 (.seq (.reg [⟨(some 29), .mv (.tmp 9), none⟩,
  ⟨(some 30), .mv (.tmp 29), none⟩,
  ⟨(some 31), .ld (some 2) (.tmp 10), (some (30, true))⟩,
  ⟨(some 32), .ld (some 2) (.tmp 5), (some (30, true))⟩,
  ⟨(some 33), .call (.func 109) [(.tmp 31), (.tmp 32)], (some (30, true))⟩,
  ⟨(some 34), .pick (.tmp 30) (.tmp 33) (.const (.bool false)), none⟩])
 (.cond (.tmp 34) (.reg [⟨(some 35), .ld (some 2) (.tmp 10), none⟩,
  ⟨none, .st 2 (.tmp 5) (.tmp 35), none⟩]) (.skip))))))))
 (.reg [⟨(some 36), .bin .add (.tmp 15) (.const (.int .u64 1)), none⟩,
  ⟨(some 15), .mv (.tmp 36), none⟩])))))))
 (.seq (.reg [⟨(some 37), .ld (some 2) (.tmp 5), none⟩,
  ⟨none, .st 2 (.tmp 4) (.tmp 37), none⟩])
 (.ret))))
def r_impl_bestOfSets : List ARes := [.cell 4 (some 2)]
theorem ok_impl_bestOfSets : FnOk Try.prog 84 38 c_impl_bestOfSets r_impl_bestOfSets := ⟨⟨Try.f84, _, Try.func84, by kernel_rfl, rfl, rfl, by kernel_rfl, by kernel_rfl⟩⟩
def c_impl_LostProof_1 : ACode := .seq (.reg [⟨(some 3), .mv (.const (.int .i64 0)), none⟩,
  ⟨(some 4), .mv (.const (.bool false)), none⟩])
 (.seq (.reg [⟨(some 5), .ld (some 5) (.tmp 1), none⟩,
  ⟨(some 6), .mv (.tmp 0), none⟩,
  ⟨(some 7), .call (.func 81) [(.tmp 5), (.tmp 6)], none⟩,
  ⟨(some 8), .un .neg (.tmp 7), none⟩,
  ⟨(some 3), .mv (.tmp 8), none⟩,
  ⟨(some 4), .mv (.const (.bool true)), none⟩])
 (.ret))
def r_impl_LostProof_1 : List ARes := [.tmp 3, .tmp 4]
theorem ok_impl_LostProof_1 : FnOk Try.prog 85 9 c_impl_LostProof_1 r_impl_LostProof_1 := ⟨⟨Try.f85, _, Try.func85, by kernel_rfl, rfl, rfl, by kernel_rfl, by kernel_rfl⟩⟩
def c_spec_l9Life : ACode := .seq (.reg [⟨(some 2), .box 57 (.tmp 0), none⟩,
  ⟨(some 4), .mv (.const (.bool false)), none⟩])
 (.seq (.reg [⟨(some 5), .ld (some 4) (.tmp 2), none⟩,
  ⟨(some 6), .call (.func 93) [(.tmp 5)], none⟩,
  ⟨(some 7), .mv (.tmp 6), none⟩,
  ⟨(some 8), .mv (.tmp 1), (some (7, true))⟩,
  ⟨(some 9), .call (.func 75) [(.tmp 8), (.const (.int .i64 1)), (.const (.int .i64 8))], (some (7, true))⟩,
  ⟨(some 10), .pick (.tmp 7) (.tmp 9) (.const (.bool false)), none⟩,
  ⟨(some 4), .mv (.tmp 10), none⟩])
 (.ret))
def r_spec_l9Life : List ARes := [.tmp 4]
theorem ok_spec_l9Life : FnOk Try.prog 86 11 c_spec_l9Life r_spec_l9Life := ⟨⟨Try.f86, _, Try.func86, by kernel_rfl, rfl, rfl, by kernel_rfl, by kernel_rfl⟩⟩
def c_spec_l2Periods : ACode := .seq (.reg [⟨(some 2), .box 57 (.tmp 0), none⟩,
  ⟨(some 4), .mv (.const (.bool false)), none⟩])
 (.seq (.reg [⟨(some 5), .mv (.tmp 1), none⟩,
  ⟨(some 6), .fad 0 (.tmp 2), none⟩,
  ⟨(some 7), .ld none (.tmp 6), none⟩,
  ⟨(some 8), .len (.tmp 7), none⟩,
  ⟨(some 9), .bin .sub (.tmp 8) (.const (.int .i64 1)), none⟩,
  ⟨(some 10), .call (.func 78) [(.tmp 5), (.const (.int .i64 0)), (.tmp 9)], none⟩,
  ⟨(some 4), .mv (.tmp 10), none⟩])
 (.ret))
def r_spec_l2Periods : List ARes := [.tmp 4]
theorem ok_spec_l2Periods : FnOk Try.prog 87 11 c_spec_l2Periods r_spec_l2Periods := ⟨⟨Try.f87, _, Try.func87, by kernel_rfl, rfl, rfl, by kernel_rfl, by kernel_rfl⟩⟩
def c_spec_l9Fresh : ACode := .seq (.reg [⟨(some 3), .box 57 (.tmp 0), none⟩,
  ⟨(some 6), .mv (.const (.int .i64 0)), none⟩])
 (.seq (.reg [⟨(some 7), .mv (.const (.int .i64 0)), none⟩])
 (.seq (.seq (.reg [⟨(some 8), .mv (.const (.int .i64 0)), none⟩])
 (.block 0 (.loop (.seq (.seq (.reg [⟨(some 11), .mv (.tmp 8), none⟩,
  ⟨(some 12), .mv (.tmp 2), none⟩,
  ⟨(some 13), .len (.tmp 12), none⟩,
  ⟨(some 14), .bin .lss (.tmp 11) (.tmp 13), none⟩])
 (.cond (.tmp 14) (.skip) (.exit 0)))
 (.seq (.block 1 (.reg [⟨(some 17), .mv (.tmp 7), none⟩,
  ⟨(some 18), .fad 1 (.tmp 3), none⟩,
  ⟨(some 19), .ld none (.tmp 18), none⟩,
  ⟨(some 20), .mv (.tmp 2), none⟩,
  ⟨(some 21), .mv (.tmp 8), none⟩,
  ⟨(some 22), .iad 1 (.tmp 20) (.tmp 21), none⟩,
  ⟨(some 23), .ld none (.tmp 22), none⟩,
  ⟨(some 24), .iad 1 (.tmp 19) (.tmp 23), none⟩,
  ⟨(some 25), .ld none (.tmp 24), none⟩,
  ⟨(some 26), .bin .add (.tmp 17) (.tmp 25), none⟩,
  ⟨(some 7), .mv (.tmp 26), none⟩]))
 (.reg [⟨(some 15), .mv (.tmp 8), none⟩,
  ⟨(some 16), .bin .add (.tmp 15) (.const (.int .i64 1)), none⟩,
  ⟨(some 8), .mv (.tmp 16), none⟩]))))))
 (.seq (.seq (.reg [⟨(some 9), .mv (.const (.int .i64 0)), none⟩])
 (.block 2 (.loop (.seq (.seq (.reg [⟨(some 27), .mv (.tmp 9), none⟩,
  ⟨(some 28), .fad 0 (.tmp 3), none⟩,
  ⟨(some 29), .ld none (.tmp 28), none⟩,
  ⟨(some 30), .len (.tmp 29), none⟩,
  ⟨(some 31), .bin .lss (.tmp 27) (.tmp 30), none⟩])
 (.cond (.tmp 31) (.skip) (.exit 2)))
 (.seq (.block 3 (.seq (.reg [⟨(some 34), .ld (some 4) (.tmp 3), none⟩,
  ⟨(some 35), .mv (.tmp 1), none⟩,
  ⟨(some 36), .mv (.tmp 2), none⟩,
  ⟨(some 37), .mv (.tmp 9), none⟩,
  ⟨(some 38), .call (.func 110) [(.tmp 34), (.tmp 35), (.tmp 36), (.tmp 37)], none⟩,
  ⟨(some 10), .mv (.tmp 38), none⟩])
 (.seq (.seq (.reg [⟨(some 39), .fad 0 (.tmp 3), none⟩,
  ⟨(some 40), .ld none (.tmp 39), none⟩,
  ⟨(some 41), .mv (.tmp 9), none⟩,
  ⟨(some 42), .iad 1 (.tmp 40) (.tmp 41), none⟩,
  ⟨(some 43), .ld none (.tmp 42), none⟩,
  ⟨(some 44), .bin .gtr (.tmp 43) (.const (.int .i64 0)), none⟩,
  ⟨(some 45), .mv (.tmp 44), none⟩,
  ⟨(some 46), .mv (.tmp 10), (some (45, true))⟩,
  ⟨(some 47), .bin .lss (.tmp 46) (.const (.int .i64 0)), (some (45, true))⟩,
  ⟨(some 48), .pick (.tmp 45) (.tmp 47) (.const (.bool false)), none⟩])
 (.cond (.tmp 48) (.seq (.reg [⟨(some 6), .mv (.const (.int .i64 (-1))), none⟩])
 (.ret)) (.skip)))
 (.seq (.reg [⟨(some 49), .fad 0 (.tmp 3), none⟩,
  ⟨(some 50), .ld none (.tmp 49), none⟩,
  ⟨(some 51), .mv (.tmp 9), none⟩,
  ⟨(some 52), .iad 1 (.tmp 50) (.tmp 51), none⟩,
  ⟨(some 53), .ld none (.tmp 52), none⟩,
  ⟨(some 54), .bin .gtr (.tmp 53) (.const (.int .i64 0)), none⟩])
 (.cond (.tmp 54) (.reg [⟨(some 55), .mv (.tmp 7), none⟩,
  ⟨(some 56), .fad 0 (.tmp 3), none⟩,
  ⟨(some 57), .ld none (.tmp 56), none⟩,
  ⟨(some 58), .mv (.tmp 9), none⟩,
  ⟨(some 59), .iad 1 (.tmp 57) (.tmp 58), none⟩,
  ⟨(some 60), .ld none (.tmp 59), none⟩,
  ⟨(some 61), .mv (.tmp 10), none⟩,
  ⟨(some 62), .bin .mul (.tmp 60) (.tmp 61), none⟩,
  ⟨(some 63), .bin .add (.tmp 55) (.tmp 62), none⟩,
  ⟨(some 7), .mv (.tmp 63), none⟩]) (.skip))))))
 (.reg [⟨(some 32), .mv (.tmp 9), none⟩,
  ⟨(some 33), .bin .add (.tmp 32) (.const (.int .i64 1)), none⟩,
  ⟨(some 9), .mv (.tmp 33), none⟩]))))))
 (.seq (.reg [⟨(some 64), .mv (.tmp 7), none⟩,
  ⟨(some 6), .mv (.tmp 64), none⟩])
 (.ret)))))
def r_spec_l9Fresh : List ARes := [.tmp 6]
theorem ok_spec_l9Fresh : FnOk Try.prog 88 65 c_spec_l9Fresh r_spec_l9Fresh := ⟨⟨Try.f88, _, Try.func88, by kernel_rfl, rfl, rfl, by kernel_rfl, by kernel_rfl⟩⟩
def c_impl_IsCase : ACode := .seq (.reg [⟨(some 1), .box 57 (.tmp 0), none⟩,
  ⟨(some 2), .mv (.const (.bool false)), none⟩])
 (.seq (.reg [⟨(some 4), .fad 0 (.tmp 1), none⟩,
  ⟨(some 5), .ld none (.tmp 4), none⟩,
  ⟨(some 6), .len (.tmp 5), none⟩,
  ⟨(some 3), .mv (.tmp 6), none⟩])
 (.seq (.reg [⟨(some 7), .mv (.tmp 3), none⟩,
  ⟨(some 8), .bin .leq (.tmp 7) (.const (.int .i64 8)), none⟩,
  ⟨(some 9), .mv (.tmp 8), none⟩,
  ⟨(some 10), .fad 0 (.tmp 1), (some (9, true))⟩,
  ⟨(some 11), .ld none (.tmp 10), (some (9, true))⟩,
  ⟨(some 12), .mv (.tmp 3), (some (9, true))⟩,
  ⟨(some 13), .call (.func 62) [(.tmp 11), (.tmp 12), (.const (.int .i64 20))], (some (9, true))⟩,
  ⟨(some 14), .pick (.tmp 9) (.tmp 13) (.const (.bool false)), none⟩,
  ⟨(some 15), .mv (.tmp 14), none⟩,
  ⟨(some 16), .fad 1 (.tmp 1), (some (15, true))⟩,
  ⟨(some 17), .ld none (.tmp 16), (some (15, true))⟩,
  ⟨(some 18), .mv (.tmp 3), (some (15, true))⟩,
  ⟨(some 19), .call (.func 62) [(.tmp 17), (.tmp 18), (.const (.int .i64 99))], (some (15, true))⟩,
  ⟨(some 20), .pick (.tmp 15) (.tmp 19) (.const (.bool false)), none⟩,
  ⟨(some 21), .mv (.tmp 20), none⟩,
  ⟨(some 22), .fad 2 (.tmp 1), (some (21, true))⟩,
  ⟨(some 23), .ld none (.tmp 22), (some (21, true))⟩,
  ⟨(some 24), .mv (.tmp 3), (some (21, true))⟩,
  ⟨(some 25), .call (.func 62) [(.tmp 23), (.tmp 24), (.const (.int .i64 9))], (some (21, true))⟩,
  ⟨(some 26), .pick (.tmp 21) (.tmp 25) (.const (.bool false)), none⟩,
  ⟨(some 27), .mv (.tmp 26), none⟩,
  ⟨(some 28), .fad 3 (.tmp 1), (some (27, true))⟩,
  ⟨(some 29), .ld none (.tmp 28), (some (27, true))⟩,
  ⟨(some 30), .mv (.tmp 3), (some (27, true))⟩,
  ⟨(some 31), .call (.func 62) [(.tmp 29), (.tmp 30), (.const (.int .i64 9))], (some (27, true))⟩,
  ⟨(some 32), .pick (.tmp 27) (.tmp 31) (.const (.bool false)), none⟩,
  ⟨(some 2), .mv (.tmp 32), none⟩])
 (.ret)))
def r_impl_IsCase : List ARes := [.tmp 2]
theorem ok_impl_IsCase : FnOk Try.prog 89 33 c_impl_IsCase r_impl_IsCase := ⟨⟨Try.f89, _, Try.func89, by kernel_rfl, rfl, rfl, by kernel_rfl, by kernel_rfl⟩⟩
def c_impl_freshCost : ACode := .seq (.reg [⟨(some 3), .box 57 (.tmp 0), none⟩,
  ⟨(some 6), .mv (.const (.int .i64 0)), none⟩,
  ⟨(some 7), .mv (.const (.bool false)), none⟩])
 (.seq (.reg [⟨(some 8), .mv (.const (.int .i64 0)), none⟩])
 (.seq (.seq (.reg [⟨(some 15), .mv (.tmp 2), none⟩,
  ⟨(some 16), .len (.tmp 15), none⟩,
  ⟨(some 17), .mv (.const (.int .i64 0)), none⟩])
 (.block 0 (.loop (.seq (.reg [⟨(some 18), .bin .lss (.tmp 17) (.tmp 16), none⟩])
 (.seq (.cond (.tmp 18) (.skip) (.exit 0))
 (.seq (.block 1 (.seq (.reg [⟨(some 19), .iad 1 (.tmp 15) (.tmp 17), none⟩,
  ⟨(some 20), .ld none (.tmp 19), none⟩,
  ⟨(some 10), .mv (.tmp 20), none⟩])
 (.reg [⟨(some 21), .mv (.tmp 8), none⟩,
  ⟨(some 22), .fad 1 (.tmp 3), none⟩,
  ⟨(some 23), .ld none (.tmp 22), none⟩,
  ⟨(some 24), .mv (.tmp 10), none⟩,
  ⟨(some 25), .iad 1 (.tmp 23) (.tmp 24), none⟩,
  ⟨(some 26), .ld none (.tmp 25), none⟩,
  ⟨(some 27), .bin .add (.tmp 21) (.tmp 26), none⟩,
  ⟨(some 8), .mv (.tmp 27), none⟩])))
 (.reg [⟨(some 28), .bin .add (.tmp 17) (.const (.int .i64 1)), none⟩,
  ⟨(some 17), .mv (.tmp 28), none⟩])))))))
 (.seq (.seq (.reg [⟨(some 29), .fad 0 (.tmp 3), none⟩,
  ⟨(some 30), .ld none (.tmp 29), none⟩,
  ⟨(some 31), .len (.tmp 30), none⟩,
  ⟨(some 32), .mv (.const (.int .i64 0)), none⟩])
 (.block 2 (.loop (.seq (.reg [⟨(some 33), .bin .lss (.tmp 32) (.tmp 31), none⟩])
 (.seq (.cond (.tmp 33) (.skip) (.exit 2))
 (.seq (.block 3 (.seq (.reg [⟨(some 34), .mv (.tmp 32), none⟩,
  ⟨(some 35), .iad 1 (.tmp 30) (.tmp 32), none⟩,
  ⟨(some 36), .ld none (.tmp 35), none⟩,
  ⟨(some 11), .mv (.tmp 34), none⟩,
  ⟨(some 12), .mv (.tmp 36), none⟩])
 (.seq (.reg [⟨(some 38), .ld (some 4) (.tmp 3), none⟩,
  ⟨(some 39), .mv (.tmp 1), none⟩,
  ⟨(some 40), .mv (.tmp 2), none⟩,
  ⟨(some 41), .mv (.tmp 11), none⟩,
  ⟨(some 42), .call (.func 111) [(.tmp 38), (.tmp 39), (.tmp 40), (.tmp 41)], none⟩,
  ⟨(some 37), .mv (.tmp 42), none⟩,
  ⟨(some 43), .ext 0 (.tmp 37), none⟩,
  ⟨(some 44), .ext 1 (.tmp 37), none⟩,
  ⟨(some 13), .mv (.tmp 43), none⟩,
  ⟨(some 14), .mv (.tmp 44), none⟩])
 (.seq (.seq (.reg [⟨(some 45), .mv (.tmp 12), none⟩,
  ⟨(some 46), .bin .gtr (.tmp 45) (.const (.int .i64 0)), none⟩,
  ⟨(some 47), .mv (.tmp 46), none⟩,
  ⟨(some 48), .mv (.tmp 14), (some (47, true))⟩,
  ⟨(some 49), .un .not (.tmp 48), (some (47, true))⟩,
  ⟨(some 50), .pick (.tmp 47) (.tmp 49) (.const (.bool false)), none⟩])
 (.cond (.tmp 50) (.seq (.reg [⟨(some 6), .mv (.const (.int .i64 0)), none⟩,
  ⟨(some 7), .mv (.const (.bool false)), none⟩])
 (.ret)) (.skip)))
 (.reg [⟨(some 51), .mv (.tmp 8), none⟩,
  ⟨(some 52), .mv (.tmp 12), none⟩,
  ⟨(some 53), .mv (.tmp 13), none⟩,
  ⟨(some 54), .bin .mul (.tmp 52) (.tmp 53), none⟩,
  ⟨(some 55), .bin .add (.tmp 51) (.tmp 54), none⟩,
  ⟨(some 8), .mv (.tmp 55), none⟩])))))
 (.reg [⟨(some 56), .bin .add (.tmp 32) (.const (.int .i64 1)), none⟩,
  ⟨(some 32), .mv (.tmp 56), none⟩])))))))
 (.seq (.reg [⟨(some 57), .mv (.tmp 8), none⟩,
  ⟨(some 6), .mv (.tmp 57), none⟩,
  ⟨(some 7), .mv (.const (.bool true)), none⟩])
 (.ret)))))
def r_impl_freshCost : List ARes := [.tmp 6, .tmp 7]
theorem ok_impl_freshCost : FnOk Try.prog 90 58 c_impl_freshCost r_impl_freshCost := ⟨⟨Try.f90, _, Try.func90, by kernel_rfl, rfl, rfl, by kernel_rfl, by kernel_rfl⟩⟩
def c_spec_l9Best : ACode := .seq (.reg [⟨(some 2), .box 57 (.tmp 0), none⟩,
  ⟨(some 4), .mv (.const (.slice none 0 0)), none⟩,
  ⟨(some 5), .mv (.const (.int .i64 0)), none⟩])
 (.seq (.reg [⟨(some 11), .bsl 3 1 0 [] [], none⟩,
  ⟨(some 6), .mv (.tmp 11), none⟩,
  ⟨(some 7), .mv (.const (.int .i64 (-1))), none⟩])
 (.seq (.seq (.reg [⟨(some 8), .mv (.const (.int .i64 0)), none⟩])
 (.block 0 (.loop (.seq (.seq (.reg [⟨(some 12), .mv (.tmp 8), none⟩,
  ⟨(some 13), .fad 0 (.tmp 2), none⟩,
  ⟨(some 14), .ld none (.tmp 13), none⟩,
  ⟨(some 15), .len (.tmp 14), none⟩,
  ⟨(some 16), .bin .shl (.const (.int .i64 1)) (.tmp 15), none⟩,
  ⟨(some 17), .bin .lss (.tmp 12) (.tmp 16), none⟩])
 (.cond (.tmp 17) (.skip) (.exit 0)))
 (.seq (.block 1 (.seq (.reg [⟨(some 20), .fad 0 (.tmp 2), none⟩,
  ⟨(some 21), .ld none (.tmp 20), none⟩,
  ⟨(some 22), .len (.tmp 21), none⟩,
  ⟨(some 23), .mv (.tmp 8), none⟩,
  ⟨(some 24), .call (.func 82) [(.tmp 22), (.tmp 23)], none⟩,
  ⟨(some 9), .mv (.tmp 24), none⟩])
 (.seq (.reg [⟨(some 25), .ld (some 4) (.tmp 2), none⟩,
  ⟨(some 26), .mv (.tmp 1), none⟩,
  ⟨(some 27), .mv (.tmp 9), none⟩,
  ⟨(some 28), .call (.func 88) [(.tmp 25), (.tmp 26), (.tmp 27)], none⟩,
  ⟨(some 10), .mv (.tmp 28), none⟩])
 (.seq (.reg [⟨(some 29), .mv (.tmp 10), none⟩,
  ⟨(some 30), .bin .geq (.tmp 29) (.const (.int .i64 0)), none⟩,
  ⟨(some 31), .mv (.tmp 30), none⟩,
  ⟨(some 32), .mv (.tmp 7), (some (31, true))⟩,
  ⟨(some 33), .bin .lss (.tmp 32) (.const (.int .i64 0)), (some (31, true))⟩,
  ⟨(some 34), .mv (.tmp 33), (some (31, true))⟩,
  ⟨(some 35), .mv (.tmp 10), (some (34, false))⟩,
  ⟨(some 36), .mv (.tmp 7), (some (34, false))⟩,
  ⟨(some 37), .bin .lss (.tmp 35) (.tmp 36), (some (34, false))⟩,
  ⟨(some 38), .pick (.tmp 34) (.const (.bool true)) (.tmp 37), (some (31, true))⟩,
  ⟨(some 39), .mv (.tmp 38), (some (31, true))⟩,
  ⟨(some 40), .mv (.tmp 10), (some (39, false))⟩,
  ⟨(some 41), .mv (.tmp 7), (some (39, false))⟩,
  ⟨(some 42), .bin .eql (.tmp 40) (.tmp 41), (some (39, false))⟩,
  ⟨(some 43), .mv (.tmp 42), (some (39, false))⟩,
  ⟨(some 44), .mv (.tmp 9), (some (43, true))⟩,
  ⟨(some 45), .mv (.tmp 6), (some (43, true))⟩,
  ⟨(some 46), .call (.func 83) [(.tmp 44), (.tmp 45)], (some (43, true))⟩,
  ⟨(some 47), .pick (.tmp 43) (.tmp 46) (.const (.bool false)), (some (39, false))⟩,
  ⟨(some 48), .pick (.tmp 39) (.const (.bool true)) (.tmp 47), (some (31, true))⟩,
  ⟨(some 49), .pick (.tmp 31) (.tmp 48) (.const (.bool false)), none⟩])
 (.cond (.tmp 49) (.seq (.reg [⟨(some 50), .mv (.tmp 9), none⟩,
  ⟨(some 6), .mv (.tmp 50), none⟩])
 (.reg [⟨(some 51), .mv (.tmp 10), none⟩,
  ⟨(some 7), .mv (.tmp 51), none⟩])) (.skip))))))
 (.reg [⟨(some 18), .mv (.tmp 8), none⟩,
  ⟨(some 19), .bin .add (.tmp 18) (.const (.int .i64 1)), none⟩,
  ⟨(some 8), .mv (.tmp 19), none⟩]))))))
 (.seq (.reg [⟨(some 52), .mv (.tmp 6), none⟩,
  ⟨(some 53), .mv (.tmp 7), none⟩,
  ⟨(some 4), .mv (.tmp 52), none⟩,
  ⟨(some 5), .mv (.tmp 53), none⟩])
 (.ret))))
def r_spec_l9Best : List ARes := [.tmp 4, .tmp 5]
theorem ok_spec_l9Best : FnOk Try.prog 91 54 c_spec_l9Best r_spec_l9Best := ⟨⟨Try.f91, _, Try.func91, by kernel_rfl, rfl, rfl, by kernel_rfl, by kernel_rfl⟩⟩
def c_impl_BestFresh_1 : ACode := .seq (.reg [⟨(some 4), .mv (.const (.int .i64 0)), none⟩,
  ⟨(some 5), .mv (.const (.bool false)), none⟩])
 (.seq (.reg [⟨(some 6), .ld (some 4) (.tmp 1), none⟩,
  ⟨(some 7), .ld none (.tmp 2), none⟩,
  ⟨(some 8), .mv (.tmp 0), none⟩,
  ⟨(some 9), .call (.func 90) [(.tmp 6), (.tmp 7), (.tmp 8)], none⟩,
  ⟨(some 10), .ext 0 (.tmp 9), none⟩,
  ⟨(some 11), .ext 1 (.tmp 9), none⟩,
  ⟨(some 4), .mv (.tmp 10), none⟩,
  ⟨(some 5), .mv (.tmp 11), none⟩])
 (.ret))
def r_impl_BestFresh_1 : List ARes := [.tmp 4, .tmp 5]
theorem ok_impl_BestFresh_1 : FnOk Try.prog 92 12 c_impl_BestFresh_1 r_impl_BestFresh_1 := ⟨⟨Try.f92, _, Try.func92, by kernel_rfl, rfl, rfl, by kernel_rfl, by kernel_rfl⟩⟩
def c_spec_l2Good : ACode := .seq (.reg [⟨(some 1), .box 57 (.tmp 0), none⟩,
  ⟨(some 2), .mv (.const (.bool false)), none⟩])
 (.seq (.reg [⟨(some 4), .fad 0 (.tmp 1), none⟩,
  ⟨(some 5), .ld none (.tmp 4), none⟩,
  ⟨(some 6), .len (.tmp 5), none⟩,
  ⟨(some 3), .mv (.tmp 6), none⟩])
 (.seq (.reg [⟨(some 7), .mv (.tmp 3), none⟩,
  ⟨(some 8), .bin .leq (.tmp 7) (.const (.int .i64 8)), none⟩,
  ⟨(some 9), .mv (.tmp 8), none⟩,
  ⟨(some 10), .fad 0 (.tmp 1), (some (9, true))⟩,
  ⟨(some 11), .ld none (.tmp 10), (some (9, true))⟩,
  ⟨(some 12), .mv (.tmp 3), (some (9, true))⟩,
  ⟨(some 13), .call (.func 94) [(.tmp 11), (.tmp 12), (.const (.int .i64 20))], (some (9, true))⟩,
  ⟨(some 14), .pick (.tmp 9) (.tmp 13) (.const (.bool false)), none⟩,
  ⟨(some 15), .mv (.tmp 14), none⟩,
  ⟨(some 16), .fad 1 (.tmp 1), (some (15, true))⟩,
  ⟨(some 17), .ld none (.tmp 16), (some (15, true))⟩,
  ⟨(some 18), .mv (.tmp 3), (some (15, true))⟩,
  ⟨(some 19), .call (.func 94) [(.tmp 17), (.tmp 18), (.const (.int .i64 99))], (some (15, true))⟩,
  ⟨(some 20), .pick (.tmp 15) (.tmp 19) (.const (.bool false)), none⟩,
  ⟨(some 21), .mv (.tmp 20), none⟩,
  ⟨(some 22), .fad 2 (.tmp 1), (some (21, true))⟩,
  ⟨(some 23), .ld none (.tmp 22), (some (21, true))⟩,
  ⟨(some 24), .mv (.tmp 3), (some (21, true))⟩,
  ⟨(some 25), .call (.func 94) [(.tmp 23), (.tmp 24), (.const (.int .i64 9))], (some (21, true))⟩,
  ⟨(some 26), .pick (.tmp 21) (.tmp 25) (.const (.bool false)), none⟩,
  ⟨(some 27), .mv (.tmp 26), none⟩,
  ⟨(some 28), .fad 3 (.tmp 1), (some (27, true))⟩,
  ⟨(some 29), .ld none (.tmp 28), (some (27, true))⟩,
  ⟨(some 30), .mv (.tmp 3), (some (27, true))⟩,
  ⟨(some 31), .call (.func 94) [(.tmp 29), (.tmp 30), (.const (.int .i64 9))], (some (27, true))⟩,
  ⟨(some 32), .pick (.tmp 27) (.tmp 31) (.const (.bool false)), none⟩,
  ⟨(some 2), .mv (.tmp 32), none⟩])
 (.ret)))
def r_spec_l2Good : List ARes := [.tmp 2]
theorem ok_spec_l2Good : FnOk Try.prog 93 33 c_spec_l2Good r_spec_l2Good := ⟨⟨Try.f93, _, Try.func93, by kernel_rfl, rfl, rfl, by kernel_rfl, by kernel_rfl⟩⟩
def c_spec_l2Row : ACode := .seq (.reg [⟨(some 6), .mv (.const (.bool false)), none⟩])
 (.seq (.seq (.reg [⟨(some 7), .mv (.const (.int .i64 0)), none⟩])
 (.block 0 (.loop (.seq (.seq (.reg [⟨(some 8), .mv (.tmp 7), none⟩,
  ⟨(some 9), .mv (.tmp 0), none⟩,
  ⟨(some 10), .len (.tmp 9), none⟩,
  ⟨(some 11), .bin .lss (.tmp 8) (.tmp 10), none⟩])
 (.cond (.tmp 11) (.skip) (.exit 0)))
 (.seq (.block 1 (.seq (.reg [⟨(some 14), .mv (.tmp 0), none⟩,
  ⟨(some 15), .mv (.tmp 7), none⟩,
  ⟨(some 16), .iad 1 (.tmp 14) (.tmp 15), none⟩,
  ⟨(some 17), .ld none (.tmp 16), none⟩,
  ⟨(some 18), .mv (.tmp 2), none⟩,
  ⟨(some 19), .call (.func 75) [(.tmp 17), (.const (.int .i64 0)), (.tmp 18)], none⟩,
  ⟨(some 20), .un .not (.tmp 19), none⟩])
 (.cond (.tmp 20) (.seq (.reg [⟨(some 6), .mv (.const (.bool false)), none⟩])
 (.ret)) (.skip))))
 (.reg [⟨(some 12), .mv (.tmp 7), none⟩,
  ⟨(some 13), .bin .add (.tmp 12) (.const (.int .i64 1)), none⟩,
  ⟨(some 7), .mv (.tmp 13), none⟩]))))))
 (.seq (.reg [⟨(some 21), .mv (.tmp 0), none⟩,
  ⟨(some 22), .len (.tmp 21), none⟩,
  ⟨(some 23), .mv (.tmp 1), none⟩,
  ⟨(some 24), .bin .eql (.tmp 22) (.tmp 23), none⟩,
  ⟨(some 6), .mv (.tmp 24), none⟩])
 (.ret)))
def r_spec_l2Row : List ARes := [.tmp 6]
theorem ok_spec_l2Row : FnOk Try.prog 94 25 c_spec_l2Row r_spec_l2Row := ⟨⟨Try.f94, _, Try.func94, by kernel_rfl, rfl, rfl, by kernel_rfl, by kernel_rfl⟩⟩
def c_spec_l5Charges : ACode := .seq (.reg [⟨(some 4), .mv (.const (.bool false)), none⟩])
 (.seq (.reg [⟨(some 5), .mv (.tmp 0), none⟩,
  ⟨(some 6), .call (.func 75) [(.tmp 5), (.const (.int .i64 0)), (.const (.int .i64 20))], none⟩,
  ⟨(some 7), .mv (.tmp 6), none⟩,
  ⟨(some 8), .mv (.tmp 1), (some (7, true))⟩,
  ⟨(some 9), .call (.func 75) [(.tmp 8), (.const (.int .i64 0)), (.const (.int .i64 20))], (some (7, true))⟩,
  ⟨(some 10), .pick (.tmp 7) (.tmp 9) (.const (.bool false)), none⟩,
  ⟨(some 4), .mv (.tmp 10), none⟩])
 (.ret))
def r_spec_l5Charges : List ARes := [.tmp 4]
theorem ok_spec_l5Charges : FnOk Try.prog 95 11 c_spec_l5Charges r_spec_l5Charges := ⟨⟨Try.f95, _, Try.func95, by kernel_rfl, rfl, rfl, by kernel_rfl, by kernel_rfl⟩⟩
def c_impl_isCount : ACode := .seq (.reg [⟨(some 4), .mv (.const (.bool false)), none⟩])
 (.seq (.reg [⟨(some 5), .mv (.tmp 0), none⟩,
  ⟨(some 6), .bin .gtr (.tmp 5) (.const (.int .i64 0)), none⟩,
  ⟨(some 7), .mv (.tmp 6), none⟩,
  ⟨(some 8), .mv (.tmp 0), (some (7, true))⟩,
  ⟨(some 9), .mv (.tmp 1), (some (7, true))⟩,
  ⟨(some 10), .call (.func 63) [(.tmp 8), (.tmp 9)], (some (7, true))⟩,
  ⟨(some 11), .pick (.tmp 7) (.tmp 10) (.const (.bool false)), none⟩,
  ⟨(some 4), .mv (.tmp 11), none⟩])
 (.ret))
def r_impl_isCount : List ARes := [.tmp 4]
theorem ok_impl_isCount : FnOk Try.prog 96 12 c_impl_isCount r_impl_isCount := ⟨⟨Try.f96, _, Try.func96, by kernel_rfl, rfl, rfl, by kernel_rfl, by kernel_rfl⟩⟩
def c_impl_isRow_1 : ACode := .seq (.reg [⟨(some 3), .mv (.const (.bool false)), none⟩])
 (.seq (.reg [⟨(some 4), .mv (.tmp 0), none⟩,
  ⟨(some 5), .ld none (.tmp 1), none⟩,
  ⟨(some 6), .call (.func 63) [(.tmp 4), (.tmp 5)], none⟩,
  ⟨(some 7), .un .not (.tmp 6), none⟩,
  ⟨(some 3), .mv (.tmp 7), none⟩])
 (.ret))
def r_impl_isRow_1 : List ARes := [.tmp 3]
theorem ok_impl_isRow_1 : FnOk Try.prog 97 8 c_impl_isRow_1 r_impl_isRow_1 := ⟨⟨Try.f97, _, Try.func97, by kernel_rfl, rfl, rfl, by kernel_rfl, by kernel_rfl⟩⟩
def c_slices_ContainsFunc : ACode := .seq (.reg [⟨(some 4), .mv (.const (.bool false)), none⟩])
 (.seq (.reg [⟨(some 5), .mv (.tmp 0), none⟩,
  ⟨(some 6), .mv (.tmp 1), none⟩,
  ⟨(some 7), .call (.func 112) [(.tmp 5), (.tmp 6)], none⟩,
  ⟨(some 8), .bin .geq (.tmp 7) (.const (.int .i64 0)), none⟩,
  ⟨(some 4), .mv (.tmp 8), none⟩])
 (.ret))
def r_slices_ContainsFunc : List ARes := [.tmp 4]
theorem ok_slices_ContainsFunc : FnOk Try.prog 98 9 c_slices_ContainsFunc r_slices_ContainsFunc := ⟨⟨Try.f98, _, Try.func98, by kernel_rfl, rfl, rfl, by kernel_rfl, by kernel_rfl⟩⟩
def c_spec_l9Usable : ACode := .seq (.reg [⟨(some 3), .box 27 (.tmp 0), none⟩,
  ⟨(some 6), .mv (.const (.bool false)), none⟩])
 (.seq (.reg [⟨(some 7), .mv (.tmp 1), none⟩,
  ⟨(some 8), .mv (.tmp 2), none⟩,
  ⟨(some 9), .bin .leq (.tmp 7) (.tmp 8), none⟩,
  ⟨(some 10), .mv (.tmp 9), none⟩,
  ⟨(some 11), .mv (.tmp 2), (some (10, true))⟩,
  ⟨(some 12), .mv (.tmp 1), (some (10, true))⟩,
  ⟨(some 13), .fad 0 (.tmp 3), (some (10, true))⟩,
  ⟨(some 14), .ld none (.tmp 13), (some (10, true))⟩,
  ⟨(some 15), .bin .add (.tmp 12) (.tmp 14), (some (10, true))⟩,
  ⟨(some 16), .bin .lss (.tmp 11) (.tmp 15), (some (10, true))⟩,
  ⟨(some 17), .pick (.tmp 10) (.tmp 16) (.const (.bool false)), none⟩,
  ⟨(some 6), .mv (.tmp 17), none⟩])
 (.ret))
def r_spec_l9Usable : List ARes := [.tmp 6]
theorem ok_spec_l9Usable : FnOk Try.prog 99 18 c_spec_l9Usable r_spec_l9Usable := ⟨⟨Try.f99, _, Try.func99, by kernel_rfl, rfl, rfl, by kernel_rfl, by kernel_rfl⟩⟩
def c_spec_l1Own : ACode := .seq (.reg [⟨(some 2), .mv (.const (.slice none 0 0)), none⟩])
 (.seq (.reg [⟨(some 3), .bsl 3 1 0 [] [], none⟩,
  ⟨(some 4), .mv (.tmp 0), none⟩,
  ⟨(some 5), .app 3 1 8 (.tmp 3) (.tmp 4), none⟩,
  ⟨(some 2), .mv (.tmp 5), none⟩])
 (.ret))
def r_spec_l1Own : List ARes := [.tmp 2]
theorem ok_spec_l1Own : FnOk Try.prog 100 6 c_spec_l1Own r_spec_l1Own := ⟨⟨Try.f100, _, Try.func100, by kernel_rfl, rfl, rfl, by kernel_rfl, by kernel_rfl⟩⟩
def c_spec_l1Least : ACode := .seq (.reg [⟨(some 4), .mv (.const (.int .i64 0)), none⟩])
 (.seq (.seq (.reg [⟨(some 5), .mv (.tmp 0), none⟩,
  ⟨(some 6), .mv (.tmp 1), none⟩,
  ⟨(some 7), .bin .lss (.tmp 5) (.tmp 6), none⟩])
 (.cond (.tmp 7) (.seq (.reg [⟨(some 8), .mv (.tmp 0), none⟩,
  ⟨(some 4), .mv (.tmp 8), none⟩])
 (.ret)) (.skip)))
 (.seq (.reg [⟨(some 9), .mv (.tmp 1), none⟩,
  ⟨(some 4), .mv (.tmp 9), none⟩])
 (.ret)))
def r_spec_l1Least : List ARes := [.tmp 4]
theorem ok_spec_l1Least : FnOk Try.prog 101 10 c_spec_l1Least r_spec_l1Least := ⟨⟨Try.f101, _, Try.func101, by kernel_rfl, rfl, rfl, by kernel_rfl, by kernel_rfl⟩⟩
def c_impl_copyOf : ACode := .seq (.reg [⟨(some 1), .box 27 (.tmp 0), none⟩,
  ⟨(some 2), .alc 27 [(.int .i64 0), (.slice none 0 0), (.slice none 0 0), (.int .i64 0), (.int .i64 0)], none⟩])
 (.seq (.reg [⟨(some 3), .fad 1 (.tmp 1), none⟩,
  ⟨(some 4), .ld none (.tmp 3), none⟩,
  ⟨(some 6), .fad 2 (.tmp 1), none⟩,
  ⟨(some 7), .ld none (.tmp 6), none⟩,
  ⟨(some 5), .rcall (.func 113) [(.tmp 4)], none⟩,
  ⟨(some 9), .fad 1 (.tmp 1), none⟩,
  ⟨(some 8), .rcall (.func 113) [(.tmp 7)], none⟩,
  ⟨none, .st 1 (.tmp 9) (.tmp 5), none⟩,
  ⟨(some 10), .fad 2 (.tmp 1), none⟩,
  ⟨none, .st 1 (.tmp 10) (.tmp 8), none⟩])
 (.seq (.reg [⟨(some 11), .ld (some 5) (.tmp 1), none⟩,
  ⟨none, .st 5 (.tmp 2) (.tmp 11), none⟩])
 (.ret)))
def r_impl_copyOf : List ARes := [.cell 2 (some 5)]
theorem ok_impl_copyOf : FnOk Try.prog 102 12 c_impl_copyOf r_impl_copyOf := ⟨⟨Try.f102, _, Try.func102, by kernel_rfl, rfl, rfl, by kernel_rfl, by kernel_rfl⟩⟩
def c_impl_mostUnits : ACode := .seq (.reg [⟨(some 2), .box 27 (.tmp 0), none⟩,
  ⟨(some 3), .box 97 (.tmp 1), none⟩,
  ⟨(some 4), .mv (.const (.int .i64 0)), none⟩])
 (.seq (.seq (.reg [⟨(some 5), .fad 1 (.tmp 3), none⟩,
  ⟨(some 6), .ld none (.tmp 5), none⟩,
  ⟨(some 7), .fad 0 (.tmp 3), none⟩,
  ⟨(some 8), .ld none (.tmp 7), none⟩,
  ⟨(some 9), .fad 0 (.tmp 2), none⟩,
  ⟨(some 10), .ld none (.tmp 9), none⟩,
  ⟨(some 11), .call (.func 106) [(.tmp 6), (.tmp 8), (.tmp 10)], none⟩,
  ⟨(some 12), .un .not (.tmp 11), none⟩])
 (.cond (.tmp 12) (.seq (.reg [⟨(some 4), .mv (.const (.int .i64 0)), none⟩])
 (.ret)) (.skip)))
 (.seq (.reg [⟨(some 13), .fad 1 (.tmp 2), none⟩,
  ⟨(some 14), .ld none (.tmp 13), none⟩,
  ⟨(some 15), .fad 1 (.tmp 3), none⟩,
  ⟨(some 16), .ld none (.tmp 15), none⟩,
  ⟨(some 17), .iad 1 (.tmp 14) (.tmp 16), none⟩,
  ⟨(some 18), .ld none (.tmp 17), none⟩,
  ⟨(some 19), .fad 2 (.tmp 2), none⟩,
  ⟨(some 20), .ld none (.tmp 19), none⟩,
  ⟨(some 21), .fad 0 (.tmp 3), none⟩,
  ⟨(some 22), .ld none (.tmp 21), none⟩,
  ⟨(some 23), .iad 1 (.tmp 20) (.tmp 22), none⟩,
  ⟨(some 24), .ld none (.tmp 23), none⟩,
  ⟨(some 25), .mmx false (.tmp 18) (.tmp 24), none⟩,
  ⟨(some 4), .mv (.tmp 25), none⟩])
 (.ret)))
def r_impl_mostUnits : List ARes := [.tmp 4]
theorem ok_impl_mostUnits : FnOk Try.prog 103 26 c_impl_mostUnits r_impl_mostUnits := ⟨⟨Try.f103, _, Try.func103, by kernel_rfl, rfl, rfl, by kernel_rfl, by kernel_rfl⟩⟩
def c_impl_takeUnits : ACode := .seq (.reg [⟨(some 3), .box 27 (.tmp 0), none⟩,
  ⟨(some 4), .box 97 (.tmp 1), none⟩])
 (.seq (.reg [⟨(some 6), .fad 1 (.tmp 3), none⟩,
  ⟨(some 7), .ld none (.tmp 6), none⟩,
  ⟨(some 8), .fad 1 (.tmp 4), none⟩,
  ⟨(some 9), .ld none (.tmp 8), none⟩,
  ⟨(some 10), .iad 1 (.tmp 7) (.tmp 9), none⟩,
  ⟨(some 11), .ld none (.tmp 10), none⟩,
  ⟨(some 12), .mv (.tmp 2), none⟩,
  ⟨(some 13), .bin .sub (.tmp 11) (.tmp 12), none⟩,
  ⟨(some 14), .iad 1 (.tmp 7) (.tmp 9), none⟩,
  ⟨none, .st 1 (.tmp 14) (.tmp 13), none⟩])
 (.reg [⟨(some 15), .fad 2 (.tmp 3), none⟩,
  ⟨(some 16), .ld none (.tmp 15), none⟩,
  ⟨(some 17), .fad 0 (.tmp 4), none⟩,
  ⟨(some 18), .ld none (.tmp 17), none⟩,
  ⟨(some 19), .iad 1 (.tmp 16) (.tmp 18), none⟩,
  ⟨(some 20), .ld none (.tmp 19), none⟩,
  ⟨(some 21), .mv (.tmp 2), none⟩,
  ⟨(some 22), .bin .sub (.tmp 20) (.tmp 21), none⟩,
  ⟨(some 23), .iad 1 (.tmp 16) (.tmp 18), none⟩,
  ⟨none, .st 1 (.tmp 23) (.tmp 22), none⟩]))
def r_impl_takeUnits : List ARes := []
theorem ok_impl_takeUnits : FnOk Try.prog 104 24 c_impl_takeUnits r_impl_takeUnits := ⟨⟨Try.f104, _, Try.func104, by kernel_rfl, rfl, rfl, by kernel_rfl, by kernel_rfl⟩⟩
def c_impl_lostBound_1 : ACode := .seq (.reg [⟨(some 4), .mv (.const (.bool false)), none⟩])
 (.seq (.reg [⟨(some 5), .ld none (.tmp 1), none⟩,
  ⟨(some 6), .mv (.tmp 0), none⟩,
  ⟨(some 7), .fad 0 (.tmp 2), none⟩,
  ⟨(some 8), .ld none (.tmp 7), none⟩,
  ⟨(some 9), .call (.func 106) [(.tmp 5), (.tmp 6), (.tmp 8)], none⟩,
  ⟨(some 4), .mv (.tmp 9), none⟩])
 (.ret))
def r_impl_lostBound_1 : List ARes := [.tmp 4]
theorem ok_impl_lostBound_1 : FnOk Try.prog 105 10 c_impl_lostBound_1 r_impl_lostBound_1 := ⟨⟨Try.f105, _, Try.func105, by kernel_rfl, rfl, rfl, by kernel_rfl, by kernel_rfl⟩⟩
def c_impl_isFresh : ACode := .seq (.reg [⟨(some 6), .mv (.const (.bool false)), none⟩])
 (.seq (.reg [⟨(some 7), .mv (.tmp 0), none⟩,
  ⟨(some 8), .mv (.tmp 1), none⟩,
  ⟨(some 9), .bin .leq (.tmp 7) (.tmp 8), none⟩,
  ⟨(some 10), .mv (.tmp 9), none⟩,
  ⟨(some 11), .mv (.tmp 1), (some (10, true))⟩,
  ⟨(some 12), .mv (.tmp 0), (some (10, true))⟩,
  ⟨(some 13), .mv (.tmp 2), (some (10, true))⟩,
  ⟨(some 14), .bin .add (.tmp 12) (.tmp 13), (some (10, true))⟩,
  ⟨(some 15), .bin .lss (.tmp 11) (.tmp 14), (some (10, true))⟩,
  ⟨(some 16), .pick (.tmp 10) (.tmp 15) (.const (.bool false)), none⟩,
  ⟨(some 6), .mv (.tmp 16), none⟩])
 (.ret))
def r_impl_isFresh : List ARes := [.tmp 6]
theorem ok_impl_isFresh : FnOk Try.prog 106 17 c_impl_isFresh r_impl_isFresh := ⟨⟨Try.f106, _, Try.func106, by kernel_rfl, rfl, rfl, by kernel_rfl, by kernel_rfl⟩⟩
def c_impl_allPeriods : ACode := .seq (.reg [⟨(some 2), .mv (.const (.int .u64 0)), none⟩])
 (.seq (.reg [⟨(some 3), .mv (.tmp 0), none⟩,
  ⟨(some 4), .bin .shl (.const (.int .u64 1)) (.tmp 3), none⟩,
  ⟨(some 5), .bin .sub (.tmp 4) (.const (.int .u64 1)), none⟩,
  ⟨(some 2), .mv (.tmp 5), none⟩])
 (.ret))
def r_impl_allPeriods : List ARes := [.tmp 2]
theorem ok_impl_allPeriods : FnOk Try.prog 107 6 c_impl_allPeriods r_impl_allPeriods := ⟨⟨Try.f107, _, Try.func107, by kernel_rfl, rfl, rfl, by kernel_rfl, by kernel_rfl⟩⟩
def c_impl_periodSet__list : ACode := .seq (.reg [⟨(some 2), .mv (.const (.slice none 0 0)), none⟩])
 (.seq (.reg [⟨(some 5), .bsl 3 1 0 [] [], none⟩,
  ⟨(some 3), .mv (.tmp 5), none⟩])
 (.seq (.seq (.reg [⟨(some 6), .mv (.tmp 0), none⟩,
  ⟨(some 7), .call (.func 114) [(.tmp 6)], none⟩,
  ⟨(some 8), .mv (.const (.int .i64 0)), none⟩])
 (.block 0 (.loop (.seq (.reg [⟨(some 9), .bin .lss (.tmp 8) (.tmp 7), none⟩])
 (.seq (.cond (.tmp 9) (.skip) (.exit 0))
 (.seq (.block 1 (.seq (.reg [⟨(some 10), .mv (.tmp 8), none⟩,
  ⟨(some 4), .mv (.tmp 10), none⟩])
 (.seq (.reg [⟨(some 11), .mv (.tmp 0), none⟩,
  ⟨(some 12), .mv (.tmp 4), none⟩,
  ⟨(some 13), .bin .shr (.tmp 11) (.tmp 12), none⟩,
  ⟨(some 14), .bin .and (.tmp 13) (.const (.int .u64 1)), none⟩,
  ⟨(some 15), .bin .eql (.tmp 14) (.const (.int .u64 1)), none⟩])
 (.cond (.tmp 15) (.reg [⟨(some 16), .mv (.tmp 3), none⟩,
  ⟨(some 17), .mv (.tmp 4), none⟩,
  ⟨(some 18), .bsl 3 1 1 [(.int .i64 0)] [(0, 1, (.tmp 17))], none⟩,
  ⟨(some 19), .app 3 1 8 (.tmp 16) (.tmp 18), none⟩,
  ⟨(some 3), .mv (.tmp 19), none⟩]) (.skip)))))
 (.reg [⟨(some 20), .bin .add (.tmp 8) (.const (.int .i64 1)), none⟩,
  ⟨(some 8), .mv (.tmp 20), none⟩])))))))
 (.seq (.reg [⟨(some 21), .mv (.tmp 3), none⟩,
  ⟨(some 2), .mv (.tmp 21), none⟩])
 (.ret))))
def r_impl_periodSet__list : List ARes := [.tmp 2]
theorem ok_impl_periodSet__list : FnOk Try.prog 108 22 c_impl_periodSet__list r_impl_periodSet__list := ⟨⟨Try.f108, _, Try.func108, by kernel_rfl, rfl, rfl, by kernel_rfl, by kernel_rfl⟩⟩
def c_impl_comesBefore : ACode := .seq (.reg [⟨(some 2), .box 83 (.tmp 0), none⟩,
  ⟨(some 3), .box 83 (.tmp 1), none⟩,
  ⟨(some 4), .mv (.const (.bool false)), none⟩])
 (.seq (.reg [⟨(some 6), .fad 0 (.tmp 2), none⟩,
  ⟨(some 7), .ld none (.tmp 6), none⟩,
  ⟨(some 8), .fad 0 (.tmp 3), none⟩,
  ⟨(some 9), .ld none (.tmp 8), none⟩,
  ⟨(some 11), .fad 1 (.tmp 2), none⟩,
  ⟨(some 12), .ld none (.tmp 11), none⟩,
  ⟨(some 13), .len (.tmp 12), none⟩,
  ⟨(some 14), .fad 1 (.tmp 3), none⟩,
  ⟨(some 15), .ld none (.tmp 14), none⟩,
  ⟨(some 16), .len (.tmp 15), none⟩,
  ⟨(some 18), .fad 1 (.tmp 2), none⟩,
  ⟨(some 19), .ld none (.tmp 18), none⟩,
  ⟨(some 20), .fad 1 (.tmp 3), none⟩,
  ⟨(some 21), .ld none (.tmp 20), none⟩,
  ⟨(some 10), .rcall (.func 116) [(.tmp 7), (.tmp 9)], none⟩,
  ⟨(some 17), .rcall (.func 116) [(.tmp 13), (.tmp 16)], none⟩,
  ⟨(some 22), .rcall (.func 117) [(.tmp 19), (.tmp 21)], none⟩,
  ⟨(some 23), .bsl 3 1 3 [(.int .i64 0), (.int .i64 0), (.int .i64 0)] [(0, 1, (.tmp 10)), (1, 1, (.tmp 17)), (2, 1, (.tmp 22))], none⟩,
  ⟨(some 24), .rcall (.func 115) [(.tmp 23)], none⟩,
  ⟨(some 5), .mv (.tmp 24), none⟩])
 (.seq (.reg [⟨(some 25), .mv (.tmp 5), none⟩,
  ⟨(some 26), .bin .lss (.tmp 25) (.const (.int .i64 0)), none⟩,
  ⟨(some 4), .mv (.tmp 26), none⟩])
 (.ret)))
def r_impl_comesBefore : List ARes := [.tmp 4]
theorem ok_impl_comesBefore : FnOk Try.prog 109 27 c_impl_comesBefore r_impl_comesBefore := ⟨⟨Try.f109, _, Try.func109, by kernel_rfl, rfl, rfl, by kernel_rfl, by kernel_rfl⟩⟩
def c_spec_l9Rate : ACode := .seq (.reg [⟨(some 4), .box 57 (.tmp 0), none⟩,
  ⟨(some 8), .mv (.const (.int .i64 0)), none⟩])
 (.seq (.reg [⟨(some 9), .mv (.const (.int .i64 (-1))), none⟩])
 (.seq (.seq (.reg [⟨(some 10), .mv (.const (.int .i64 0)), none⟩])
 (.block 0 (.loop (.seq (.seq (.reg [⟨(some 13), .mv (.tmp 10), none⟩,
  ⟨(some 14), .mv (.tmp 2), none⟩,
  ⟨(some 15), .len (.tmp 14), none⟩,
  ⟨(some 16), .bin .lss (.tmp 13) (.tmp 15), none⟩])
 (.cond (.tmp 16) (.skip) (.exit 0)))
 (.seq (.block 1 (.seq (.reg [⟨(some 19), .mv (.tmp 2), none⟩,
  ⟨(some 20), .mv (.tmp 10), none⟩,
  ⟨(some 21), .iad 1 (.tmp 19) (.tmp 20), none⟩,
  ⟨(some 22), .ld none (.tmp 21), none⟩,
  ⟨(some 11), .mv (.tmp 22), none⟩])
 (.seq (.reg [⟨(some 23), .mv (.tmp 11), none⟩,
  ⟨(some 24), .mv (.tmp 3), none⟩,
  ⟨(some 25), .bin .leq (.tmp 23) (.tmp 24), none⟩,
  ⟨(some 26), .mv (.tmp 25), none⟩,
  ⟨(some 27), .mv (.tmp 3), (some (26, true))⟩,
  ⟨(some 28), .mv (.tmp 11), (some (26, true))⟩,
  ⟨(some 29), .mv (.tmp 1), (some (26, true))⟩,
  ⟨(some 30), .bin .add (.tmp 28) (.tmp 29), (some (26, true))⟩,
  ⟨(some 31), .bin .lss (.tmp 27) (.tmp 30), (some (26, true))⟩,
  ⟨(some 32), .pick (.tmp 26) (.tmp 31) (.const (.bool false)), none⟩])
 (.cond (.tmp 32) (.seq (.reg [⟨(some 33), .ld (some 4) (.tmp 4), none⟩,
  ⟨(some 34), .mv (.tmp 11), none⟩,
  ⟨(some 35), .mv (.tmp 3), none⟩,
  ⟨(some 36), .call (.func 118) [(.tmp 33), (.tmp 34), (.tmp 35)], none⟩,
  ⟨(some 12), .mv (.tmp 36), none⟩])
 (.seq (.reg [⟨(some 37), .mv (.tmp 9), none⟩,
  ⟨(some 38), .bin .lss (.tmp 37) (.const (.int .i64 0)), none⟩,
  ⟨(some 39), .mv (.tmp 38), none⟩,
  ⟨(some 40), .mv (.tmp 12), (some (39, false))⟩,
  ⟨(some 41), .mv (.tmp 9), (some (39, false))⟩,
  ⟨(some 42), .bin .lss (.tmp 40) (.tmp 41), (some (39, false))⟩,
  ⟨(some 43), .pick (.tmp 39) (.const (.bool true)) (.tmp 42), none⟩])
 (.cond (.tmp 43) (.reg [⟨(some 44), .mv (.tmp 12), none⟩,
  ⟨(some 9), .mv (.tmp 44), none⟩]) (.skip)))) (.skip)))))
 (.reg [⟨(some 17), .mv (.tmp 10), none⟩,
  ⟨(some 18), .bin .add (.tmp 17) (.const (.int .i64 1)), none⟩,
  ⟨(some 10), .mv (.tmp 18), none⟩]))))))
 (.seq (.reg [⟨(some 45), .mv (.tmp 9), none⟩,
  ⟨(some 8), .mv (.tmp 45), none⟩])
 (.ret))))
def r_spec_l9Rate : List ARes := [.tmp 8]
theorem ok_spec_l9Rate : FnOk Try.prog 110 46 c_spec_l9Rate r_spec_l9Rate := ⟨⟨Try.f110, _, Try.func110, by kernel_rfl, rfl, rfl, by kernel_rfl, by kernel_rfl⟩⟩
def c_impl_freshRate : ACode := .seq (.reg [⟨(some 4), .box 57 (.tmp 0), none⟩,
  ⟨(some 8), .mv (.const (.int .i64 0)), none⟩,
  ⟨(some 9), .mv (.const (.bool false)), none⟩])
 (.seq (.reg [⟨(some 13), .bsl 3 1 0 [] [], none⟩,
  ⟨(some 10), .mv (.tmp 13), none⟩])
 (.seq (.seq (.reg [⟨(some 14), .mv (.tmp 2), none⟩,
  ⟨(some 15), .len (.tmp 14), none⟩,
  ⟨(some 16), .mv (.const (.int .i64 0)), none⟩])
 (.block 0 (.loop (.seq (.reg [⟨(some 17), .bin .lss (.tmp 16) (.tmp 15), none⟩])
 (.seq (.cond (.tmp 17) (.skip) (.exit 0))
 (.seq (.block 1 (.seq (.reg [⟨(some 18), .iad 1 (.tmp 14) (.tmp 16), none⟩,
  ⟨(some 19), .ld none (.tmp 18), none⟩,
  ⟨(some 12), .mv (.tmp 19), none⟩])
 (.seq (.reg [⟨(some 20), .mv (.tmp 12), none⟩,
  ⟨(some 21), .mv (.tmp 3), none⟩,
  ⟨(some 22), .mv (.tmp 1), none⟩,
  ⟨(some 23), .call (.func 106) [(.tmp 20), (.tmp 21), (.tmp 22)], none⟩])
 (.cond (.tmp 23) (.reg [⟨(some 24), .mv (.tmp 10), none⟩,
  ⟨(some 25), .ld (some 4) (.tmp 4), none⟩,
  ⟨(some 26), .mv (.tmp 12), none⟩,
  ⟨(some 27), .mv (.tmp 3), none⟩,
  ⟨(some 28), .call (.func 119) [(.tmp 25), (.tmp 26), (.tmp 27)], none⟩,
  ⟨(some 29), .bsl 3 1 1 [(.int .i64 0)] [(0, 1, (.tmp 28))], none⟩,
  ⟨(some 30), .app 3 1 8 (.tmp 24) (.tmp 29), none⟩,
  ⟨(some 10), .mv (.tmp 30), none⟩]) (.skip)))))
 (.reg [⟨(some 31), .bin .add (.tmp 16) (.const (.int .i64 1)), none⟩,
  ⟨(some 16), .mv (.tmp 31), none⟩])))))))
 (.seq (.seq (.reg [⟨(some 32), .mv (.tmp 10), none⟩,
  ⟨(some 33), .len (.tmp 32), none⟩,
  ⟨(some 34), .bin .eql (.tmp 33) (.const (.int .i64 0)), none⟩])
 (.cond (.tmp 34) (.seq (.reg [⟨(some 8), .mv (.const (.int .i64 0)), none⟩,
  ⟨(some 9), .mv (.const (.bool false)), none⟩])
 (.ret)) (.skip)))
 (.seq (.reg [⟨(some 35), .mv (.tmp 10), none⟩,
  ⟨(some 36), .call (.func 120) [(.tmp 35)], none⟩,
  ⟨(some 8), .mv (.tmp 36), none⟩,
  ⟨(some 9), .mv (.const (.bool true)), none⟩])
 (.ret)))))
def r_impl_freshRate : List ARes := [.tmp 8, .tmp 9]
theorem ok_impl_freshRate : FnOk Try.prog 111 37 c_impl_freshRate r_impl_freshRate := ⟨⟨Try.f111, _, Try.func111, by kernel_rfl, rfl, rfl, by kernel_rfl, by kernel_rfl⟩⟩
def c_slices_IndexFunc : ACode := .seq (.reg [⟨(some 4), .mv (.const (.int .i64 0)), none⟩])
 (.seq (.seq (.reg [⟨(some 6), .mv (.tmp 0), none⟩,
  ⟨(some 7), .len (.tmp 6), none⟩,
  ⟨(some 8), .mv (.const (.int .i64 0)), none⟩])
 (.block 0 (.loop (.seq (.reg [⟨(some 9), .bin .lss (.tmp 8) (.tmp 7), none⟩])
 (.seq (.cond (.tmp 9) (.skip) (.exit 0))
 (.seq (.block 1 (.seq (.reg [⟨(some 10), .mv (.tmp 8), none⟩,
  ⟨(some 5), .mv (.tmp 10), none⟩])
 (.seq (.reg [⟨(some 11), .mv (.tmp 1), none⟩,
  ⟨(some 12), .mv (.tmp 0), none⟩,
  ⟨(some 13), .mv (.tmp 5), none⟩,
  ⟨(some 14), .iad 1 (.tmp 12) (.tmp 13), none⟩,
  ⟨(some 15), .ld none (.tmp 14), none⟩,
  ⟨(some 16), .call (.tmp 11) [(.tmp 15)], none⟩])
 (.cond (.tmp 16) (.seq (.reg [⟨(some 17), .mv (.tmp 5), none⟩,
  ⟨(some 4), .mv (.tmp 17), none⟩])
 (.ret)) (.skip)))))
 (.reg [⟨(some 18), .bin .add (.tmp 8) (.const (.int .i64 1)), none⟩,
  ⟨(some 8), .mv (.tmp 18), none⟩])))))))
 (.seq (.reg [⟨(some 4), .mv (.const (.int .i64 (-1))), none⟩])
 (.ret)))
def r_slices_IndexFunc : List ARes := [.tmp 4]
theorem ok_slices_IndexFunc : FnOk Try.prog 112 19 c_slices_IndexFunc r_slices_IndexFunc := ⟨⟨Try.f112, _, Try.func112, by kernel_rfl, rfl, rfl, by kernel_rfl, by kernel_rfl⟩⟩
def c_slices_Clone : ACode := .seq (.reg [⟨(some 2), .mv (.const (.slice none 0 0)), none⟩])
 (.seq (.seq (.reg [⟨(some 3), .mv (.tmp 0), none⟩,
  ⟨(some 4), .sln false (.tmp 3), none⟩])
 (.cond (.tmp 4) (.seq (.reg [⟨(some 2), .mv (.const (.slice none 0 0)), none⟩])
 (.ret)) (.skip)))
 (.seq (.reg [⟨(some 5), .bsl 3 1 0 [] [], none⟩,
  ⟨(some 6), .mv (.tmp 0), none⟩,
  ⟨(some 7), .app 3 1 8 (.tmp 5) (.tmp 6), none⟩,
  ⟨(some 2), .mv (.tmp 7), none⟩])
 (.ret)))
def r_slices_Clone : List ARes := [.tmp 2]
theorem ok_slices_Clone : FnOk Try.prog 113 8 c_slices_Clone r_slices_Clone := ⟨⟨Try.f113, _, Try.func113, by kernel_rfl, rfl, rfl, by kernel_rfl, by kernel_rfl⟩⟩
def c_math_bits_Len : ACode := .seq (.reg [⟨(some 2), .mv (.const (.int .i64 0)), none⟩])
 (.seq (.cond (.const (.bool false)) (.seq (.reg [⟨(some 3), .mv (.tmp 0), none⟩,
  ⟨(some 4), .conv .u32 (.tmp 3), none⟩,
  ⟨(some 5), .call (.func 121) [(.tmp 4)], none⟩,
  ⟨(some 2), .mv (.tmp 5), none⟩])
 (.ret)) (.skip))
 (.seq (.reg [⟨(some 6), .mv (.tmp 0), none⟩,
  ⟨(some 7), .call (.func 122) [(.tmp 6)], none⟩,
  ⟨(some 2), .mv (.tmp 7), none⟩])
 (.ret)))
def r_math_bits_Len : List ARes := [.tmp 2]
theorem ok_math_bits_Len : FnOk Try.prog 114 8 c_math_bits_Len r_math_bits_Len := ⟨⟨Try.f114, _, Try.func114, by kernel_rfl, rfl, rfl, by kernel_rfl, by kernel_rfl⟩⟩
def c_cmp_Or : ACode := .seq (.reg [⟨(some 2), .mv (.const (.int .i64 0)), none⟩])
 (.seq (.reg [⟨(some 3), .mv (.const (.int .i64 0)), none⟩])
 (.seq (.seq (.reg [⟨(some 6), .mv (.tmp 0), none⟩,
  ⟨(some 7), .len (.tmp 6), none⟩,
  ⟨(some 8), .mv (.const (.int .i64 0)), none⟩])
 (.block 0 (.loop (.seq (.reg [⟨(some 9), .bin .lss (.tmp 8) (.tmp 7), none⟩])
 (.seq (.cond (.tmp 9) (.skip) (.exit 0))
 (.seq (.block 1 (.seq (.reg [⟨(some 10), .iad 1 (.tmp 6) (.tmp 8), none⟩,
  ⟨(some 11), .ld none (.tmp 10), none⟩,
  ⟨(some 5), .mv (.tmp 11), none⟩])
 (.seq (.reg [⟨(some 12), .mv (.tmp 5), none⟩,
  ⟨(some 13), .mv (.tmp 3), none⟩,
  ⟨(some 14), .bin .neq (.tmp 12) (.tmp 13), none⟩])
 (.cond (.tmp 14) (.seq (.reg [⟨(some 15), .mv (.tmp 5), none⟩,
  ⟨(some 2), .mv (.tmp 15), none⟩])
 (.ret)) (.skip)))))
 (.reg [⟨(some 16), .bin .add (.tmp 8) (.const (.int .i64 1)), none⟩,
  ⟨(some 8), .mv (.tmp 16), none⟩])))))))
 (.seq (.reg [⟨(some 17), .mv (.tmp 3), none⟩,
  ⟨(some 2), .mv (.tmp 17), none⟩])
 (.ret))))
def r_cmp_Or : List ARes := [.tmp 2]
theorem ok_cmp_Or : FnOk Try.prog 115 18 c_cmp_Or r_cmp_Or := ⟨⟨Try.f115, _, Try.func115, by kernel_rfl, rfl, rfl, by kernel_rfl, by kernel_rfl⟩⟩
def c_cmp_Compare : ACode := .seq (.reg [⟨(some 4), .mv (.const (.int .i64 0)), none⟩])
 (.seq (.reg [⟨(some 7), .mv (.tmp 0), none⟩,
  ⟨(some 8), .call (.func 123) [(.tmp 7)], none⟩,
  ⟨(some 5), .mv (.tmp 8), none⟩])
 (.seq (.reg [⟨(some 9), .mv (.tmp 1), none⟩,
  ⟨(some 10), .call (.func 123) [(.tmp 9)], none⟩,
  ⟨(some 6), .mv (.tmp 10), none⟩])
 (.seq (.seq (.reg [⟨(some 11), .mv (.tmp 5), none⟩])
 (.cond (.tmp 11) (.seq (.seq (.reg [⟨(some 12), .mv (.tmp 6), none⟩])
 (.cond (.tmp 12) (.seq (.reg [⟨(some 4), .mv (.const (.int .i64 0)), none⟩])
 (.ret)) (.skip)))
 (.seq (.reg [⟨(some 4), .mv (.const (.int .i64 (-1))), none⟩])
 (.ret))) (.skip)))
 (.seq (.seq (.reg [⟨(some 13), .mv (.tmp 6), none⟩])
 (.cond (.tmp 13) (.seq (.reg [⟨(some 4), .mv (.const (.int .i64 1)), none⟩])
 (.ret)) (.skip)))
 (.seq (.seq (.reg [⟨(some 14), .mv (.tmp 0), none⟩,
  ⟨(some 15), .mv (.tmp 1), none⟩,
  ⟨(some 16), .bin .lss (.tmp 14) (.tmp 15), none⟩])
 (.cond (.tmp 16) (.seq (.reg [⟨(some 4), .mv (.const (.int .i64 (-1))), none⟩])
 (.ret)) (.skip)))
 (.seq (.seq (.reg [⟨(some 17), .mv (.tmp 0), none⟩,
  ⟨(some 18), .mv (.tmp 1), none⟩,
  ⟨(some 19), .bin .gtr (.tmp 17) (.tmp 18), none⟩])
 (.cond (.tmp 19) (.seq (.reg [⟨(some 4), .mv (.const (.int .i64 1)), none⟩])
 (.ret)) (.skip)))
 (.seq (.reg [⟨(some 4), .mv (.const (.int .i64 0)), none⟩])
 (.ret))))))))
def r_cmp_Compare : List ARes := [.tmp 4]
theorem ok_cmp_Compare : FnOk Try.prog 116 20 c_cmp_Compare r_cmp_Compare := ⟨⟨Try.f116, _, Try.func116, by kernel_rfl, rfl, rfl, by kernel_rfl, by kernel_rfl⟩⟩
def c_slices_Compare : ACode := .seq (.reg [⟨(some 4), .mv (.const (.int .i64 0)), none⟩])
 (.seq (.seq (.reg [⟨(some 9), .mv (.tmp 0), none⟩,
  ⟨(some 10), .len (.tmp 9), none⟩,
  ⟨(some 11), .mv (.const (.int .i64 0)), none⟩])
 (.block 0 (.loop (.seq (.reg [⟨(some 12), .bin .lss (.tmp 11) (.tmp 10), none⟩])
 (.seq (.cond (.tmp 12) (.skip) (.exit 0))
 (.seq (.block 1 (.seq (.reg [⟨(some 13), .mv (.tmp 11), none⟩,
  ⟨(some 14), .iad 1 (.tmp 9) (.tmp 11), none⟩,
  ⟨(some 15), .ld none (.tmp 14), none⟩,
  ⟨(some 5), .mv (.tmp 13), none⟩,
  ⟨(some 6), .mv (.tmp 15), none⟩])
 (.seq (.seq (.reg [⟨(some 16), .mv (.tmp 5), none⟩,
  ⟨(some 17), .mv (.tmp 1), none⟩,
  ⟨(some 18), .len (.tmp 17), none⟩,
  ⟨(some 19), .bin .geq (.tmp 16) (.tmp 18), none⟩])
 (.cond (.tmp 19) (.seq (.reg [⟨(some 4), .mv (.const (.int .i64 1)), none⟩])
 (.ret)) (.skip)))
 (.seq (.reg [⟨(some 20), .mv (.tmp 1), none⟩,
  ⟨(some 21), .mv (.tmp 5), none⟩,
  ⟨(some 22), .iad 1 (.tmp 20) (.tmp 21), none⟩,
  ⟨(some 23), .ld none (.tmp 22), none⟩,
  ⟨(some 7), .mv (.tmp 23), none⟩])
 (.seq (.reg [⟨(some 24), .mv (.tmp 6), none⟩,
  ⟨(some 25), .mv (.tmp 7), none⟩,
  ⟨(some 26), .call (.func 116) [(.tmp 24), (.tmp 25)], none⟩,
  ⟨(some 8), .mv (.tmp 26), none⟩])
 (.seq (.reg [⟨(some 27), .mv (.tmp 8), none⟩,
  ⟨(some 28), .bin .neq (.tmp 27) (.const (.int .i64 0)), none⟩])
 (.cond (.tmp 28) (.seq (.reg [⟨(some 29), .mv (.tmp 8), none⟩,
  ⟨(some 4), .mv (.tmp 29), none⟩])
 (.ret)) (.skip))))))))
 (.reg [⟨(some 30), .bin .add (.tmp 11) (.const (.int .i64 1)), none⟩,
  ⟨(some 11), .mv (.tmp 30), none⟩])))))))
 (.seq (.seq (.reg [⟨(some 31), .mv (.tmp 0), none⟩,
  ⟨(some 32), .len (.tmp 31), none⟩,
  ⟨(some 33), .mv (.tmp 1), none⟩,
  ⟨(some 34), .len (.tmp 33), none⟩,
  ⟨(some 35), .bin .lss (.tmp 32) (.tmp 34), none⟩])
 (.cond (.tmp 35) (.seq (.reg [⟨(some 4), .mv (.const (.int .i64 (-1))), none⟩])
 (.ret)) (.skip)))
 (.seq (.reg [⟨(some 4), .mv (.const (.int .i64 0)), none⟩])
 (.ret))))
def r_slices_Compare : List ARes := [.tmp 4]
theorem ok_slices_Compare : FnOk Try.prog 117 36 c_slices_Compare r_slices_Compare := ⟨⟨Try.f117, _, Try.func117, by kernel_rfl, rfl, rfl, by kernel_rfl, by kernel_rfl⟩⟩
def c_spec_l3Rate : ACode := .seq (.reg [⟨(some 3), .box 57 (.tmp 0), none⟩,
  ⟨(some 6), .mv (.const (.int .i64 0)), none⟩])
 (.seq (.reg [⟨(some 9), .fad 2 (.tmp 3), none⟩,
  ⟨(some 10), .ld none (.tmp 9), none⟩,
  ⟨(some 11), .mv (.tmp 1), none⟩,
  ⟨(some 12), .iad 1 (.tmp 10) (.tmp 11), none⟩,
  ⟨(some 13), .ld none (.tmp 12), none⟩,
  ⟨(some 7), .mv (.tmp 13), none⟩])
 (.seq (.seq (.reg [⟨(some 14), .mv (.tmp 1), none⟩,
  ⟨(some 8), .mv (.tmp 14), none⟩])
 (.block 0 (.loop (.seq (.seq (.reg [⟨(some 15), .mv (.tmp 8), none⟩,
  ⟨(some 16), .mv (.tmp 2), none⟩,
  ⟨(some 17), .bin .lss (.tmp 15) (.tmp 16), none⟩])
 (.cond (.tmp 17) (.skip) (.exit 0)))
 (.seq (.block 1 (.reg [⟨(some 20), .mv (.tmp 7), none⟩,
  ⟨(some 21), .fad 3 (.tmp 3), none⟩,
  ⟨(some 22), .ld none (.tmp 21), none⟩,
  ⟨(some 23), .mv (.tmp 8), none⟩,
  ⟨(some 24), .iad 1 (.tmp 22) (.tmp 23), none⟩,
  ⟨(some 25), .ld none (.tmp 24), none⟩,
  ⟨(some 26), .bin .add (.tmp 20) (.tmp 25), none⟩,
  ⟨(some 7), .mv (.tmp 26), none⟩]))
 (.reg [⟨(some 18), .mv (.tmp 8), none⟩,
  ⟨(some 19), .bin .add (.tmp 18) (.const (.int .i64 1)), none⟩,
  ⟨(some 8), .mv (.tmp 19), none⟩]))))))
 (.seq (.reg [⟨(some 27), .mv (.tmp 7), none⟩,
  ⟨(some 6), .mv (.tmp 27), none⟩])
 (.ret))))
def r_spec_l3Rate : List ARes := [.tmp 6]
theorem ok_spec_l3Rate : FnOk Try.prog 118 28 c_spec_l3Rate r_spec_l3Rate := ⟨⟨Try.f118, _, Try.func118, by kernel_rfl, rfl, rfl, by kernel_rfl, by kernel_rfl⟩⟩
def c_impl_rateFrom : ACode := .seq (.reg [⟨(some 3), .box 57 (.tmp 0), none⟩,
  ⟨(some 6), .mv (.const (.int .i64 0)), none⟩])
 (.seq (.reg [⟨(some 7), .fad 2 (.tmp 3), none⟩,
  ⟨(some 8), .ld none (.tmp 7), none⟩,
  ⟨(some 9), .mv (.tmp 1), none⟩,
  ⟨(some 10), .iad 1 (.tmp 8) (.tmp 9), none⟩,
  ⟨(some 11), .ld none (.tmp 10), none⟩,
  ⟨(some 12), .fad 3 (.tmp 3), none⟩,
  ⟨(some 13), .ld none (.tmp 12), none⟩,
  ⟨(some 14), .mv (.tmp 1), none⟩,
  ⟨(some 15), .mv (.tmp 2), none⟩,
  ⟨(some 16), .slc 1 (.tmp 13) (some (.tmp 14)) (some (.tmp 15)), none⟩,
  ⟨(some 17), .rcall (.func 74) [(.tmp 16)], none⟩,
  ⟨(some 18), .bin .add (.tmp 11) (.tmp 17), none⟩,
  ⟨(some 6), .mv (.tmp 18), none⟩])
 (.ret))
def r_impl_rateFrom : List ARes := [.tmp 6]
theorem ok_impl_rateFrom : FnOk Try.prog 119 19 c_impl_rateFrom r_impl_rateFrom := ⟨⟨Try.f119, _, Try.func119, by kernel_rfl, rfl, rfl, by kernel_rfl, by kernel_rfl⟩⟩
def c_slices_Min : ACode := .seq (.reg [⟨(some 2), .mv (.const (.int .i64 0)), none⟩])
 (.seq (.seq (.reg [⟨(some 5), .mv (.tmp 0), none⟩,
  ⟨(some 6), .len (.tmp 5), none⟩,
  ⟨(some 7), .bin .lss (.tmp 6) (.const (.int .i64 1)), none⟩])
 (.cond (.tmp 7) (.reg [⟨(some 8), .mif 9 (.const (.string ⟨#[115, 108, 105, 99, 101, 115, 46, 77, 105, 110, 58, 32, 101, 109, 112, 116, 121, 32, 108, 105, 115, 116]⟩)), none⟩,
  ⟨none, .never, none⟩]) (.skip)))
 (.seq (.reg [⟨(some 9), .mv (.tmp 0), none⟩,
  ⟨(some 10), .iad 1 (.tmp 9) (.const (.int .i64 0)), none⟩,
  ⟨(some 11), .ld none (.tmp 10), none⟩,
  ⟨(some 3), .mv (.tmp 11), none⟩])
 (.seq (.seq (.reg [⟨(some 4), .mv (.const (.int .i64 1)), none⟩])
 (.block 0 (.loop (.seq (.seq (.reg [⟨(some 12), .mv (.tmp 4), none⟩,
  ⟨(some 13), .mv (.tmp 0), none⟩,
  ⟨(some 14), .len (.tmp 13), none⟩,
  ⟨(some 15), .bin .lss (.tmp 12) (.tmp 14), none⟩])
 (.cond (.tmp 15) (.skip) (.exit 0)))
 (.seq (.block 1 (.reg [⟨(some 18), .mv (.tmp 3), none⟩,
  ⟨(some 19), .mv (.tmp 0), none⟩,
  ⟨(some 20), .mv (.tmp 4), none⟩,
  ⟨(some 21), .iad 1 (.tmp 19) (.tmp 20), none⟩,
  ⟨(some 22), .ld none (.tmp 21), none⟩,
  ⟨(some 23), .mmx false (.tmp 18) (.tmp 22), none⟩,
  ⟨(some 3), .mv (.tmp 23), none⟩]))
 (.reg [⟨(some 16), .mv (.tmp 4), none⟩,
  ⟨(some 17), .bin .add (.tmp 16) (.const (.int .i64 1)), none⟩,
  ⟨(some 4), .mv (.tmp 17), none⟩]))))))
 (.seq (.reg [⟨(some 24), .mv (.tmp 3), none⟩,
  ⟨(some 2), .mv (.tmp 24), none⟩])
 (.ret)))))
def r_slices_Min : List ARes := [.tmp 2]
theorem ok_slices_Min : FnOk Try.prog 120 25 c_slices_Min r_slices_Min := ⟨⟨Try.f120, _, Try.func120, by kernel_rfl, rfl, rfl, by kernel_rfl, by kernel_rfl⟩⟩
def c_math_bits_Len32 : ACode := .seq (.reg [⟨(some 2), .mv (.const (.int .i64 0)), none⟩])
 (.seq (.seq (.reg [⟨(some 3), .mv (.tmp 0), none⟩,
  ⟨(some 4), .bin .geq (.tmp 3) (.const (.int .u32 65536)), none⟩])
 (.cond (.tmp 4) (.seq (.reg [⟨(some 5), .mv (.tmp 0), none⟩,
  ⟨(some 6), .bin .shr (.tmp 5) (.const (.int .u64 16)), none⟩,
  ⟨(some 0), .mv (.tmp 6), none⟩])
 (.reg [⟨(some 2), .mv (.const (.int .i64 16)), none⟩])) (.skip)))
 (.seq (.seq (.reg [⟨(some 7), .mv (.tmp 0), none⟩,
  ⟨(some 8), .bin .geq (.tmp 7) (.const (.int .u32 256)), none⟩])
 (.cond (.tmp 8) (.seq (.reg [⟨(some 9), .mv (.tmp 0), none⟩,
  ⟨(some 10), .bin .shr (.tmp 9) (.const (.int .u64 8)), none⟩,
  ⟨(some 0), .mv (.tmp 10), none⟩])
 (.reg [⟨(some 11), .mv (.tmp 2), none⟩,
  ⟨(some 12), .bin .add (.tmp 11) (.const (.int .i64 8)), none⟩,
  ⟨(some 2), .mv (.tmp 12), none⟩])) (.skip)))
 (.seq (.reg [⟨(some 13), .mv (.tmp 2), none⟩,
  ⟨(some 14), .mv (.tmp 0), none⟩,
  ⟨(some 15), .conv .u8 (.tmp 14), none⟩,
  ⟨(some 16), .idxs (.const (.string ⟨#[0, 1, 2, 2, 3, 3, 3, 3, 4, 4, 4, 4, 4, 4, 4, 4, 5, 5, 5, 5, 5, 5, 5, 5, 5, 5, 5, 5, 5, 5, 5, 5, 6, 6, 6, 6, 6, 6, 6, 6, 6, 6, 6, 6, 6, 6, 6, 6, 6, 6, 6, 6, 6, 6, 6, 6, 6, 6, 6, 6, 6, 6, 6, 6, 7, 7, 7, 7, 7, 7, 7, 7, 7, 7, 7, 7, 7, 7, 7, 7, 7, 7, 7, 7, 7, 7, 7, 7, 7, 7, 7, 7, 7, 7, 7, 7, 7, 7, 7, 7, 7, 7, 7, 7, 7, 7, 7, 7, 7, 7, 7, 7, 7, 7, 7, 7, 7, 7, 7, 7, 7, 7, 7, 7, 7, 7, 7, 7, 8, 8, 8, 8, 8, 8, 8, 8, 8, 8, 8, 8, 8, 8, 8, 8, 8, 8, 8, 8, 8, 8, 8, 8, 8, 8, 8, 8, 8, 8, 8, 8, 8, 8, 8, 8, 8, 8, 8, 8, 8, 8, 8, 8, 8, 8, 8, 8, 8, 8, 8, 8, 8, 8, 8, 8, 8, 8, 8, 8, 8, 8, 8, 8, 8, 8, 8, 8, 8, 8, 8, 8, 8, 8, 8, 8, 8, 8, 8, 8, 8, 8, 8, 8, 8, 8, 8, 8, 8, 8, 8, 8, 8, 8, 8, 8, 8, 8, 8, 8, 8, 8, 8, 8, 8, 8, 8, 8, 8, 8, 8, 8, 8, 8, 8, 8, 8, 8, 8, 8, 8, 8, 8, 8, 8, 8, 8, 8]⟩)) (.tmp 15), none⟩,
  ⟨(some 17), .conv .i64 (.tmp 16), none⟩,
  ⟨(some 18), .bin .add (.tmp 13) (.tmp 17), none⟩,
  ⟨(some 2), .mv (.tmp 18), none⟩])
 (.ret))))
def r_math_bits_Len32 : List ARes := [.tmp 2]
theorem ok_math_bits_Len32 : FnOk Try.prog 121 19 c_math_bits_Len32 r_math_bits_Len32 := ⟨⟨Try.f121, _, Try.func121, by kernel_rfl, rfl, rfl, by kernel_rfl, by kernel_rfl⟩⟩
def c_math_bits_Len64 : ACode := .seq (.reg [⟨(some 2), .mv (.const (.int .i64 0)), none⟩])
 (.seq (.seq (.reg [⟨(some 3), .mv (.tmp 0), none⟩,
  ⟨(some 4), .bin .geq (.tmp 3) (.const (.int .u64 4294967296)), none⟩])
 (.cond (.tmp 4) (.seq (.reg [⟨(some 5), .mv (.tmp 0), none⟩,
  ⟨(some 6), .bin .shr (.tmp 5) (.const (.int .u64 32)), none⟩,
  ⟨(some 0), .mv (.tmp 6), none⟩])
 (.reg [⟨(some 2), .mv (.const (.int .i64 32)), none⟩])) (.skip)))
 (.seq (.seq (.reg [⟨(some 7), .mv (.tmp 0), none⟩,
  ⟨(some 8), .bin .geq (.tmp 7) (.const (.int .u64 65536)), none⟩])
 (.cond (.tmp 8) (.seq (.reg [⟨(some 9), .mv (.tmp 0), none⟩,
  ⟨(some 10), .bin .shr (.tmp 9) (.const (.int .u64 16)), none⟩,
  ⟨(some 0), .mv (.tmp 10), none⟩])
 (.reg [⟨(some 11), .mv (.tmp 2), none⟩,
  ⟨(some 12), .bin .add (.tmp 11) (.const (.int .i64 16)), none⟩,
  ⟨(some 2), .mv (.tmp 12), none⟩])) (.skip)))
 (.seq (.seq (.reg [⟨(some 13), .mv (.tmp 0), none⟩,
  ⟨(some 14), .bin .geq (.tmp 13) (.const (.int .u64 256)), none⟩])
 (.cond (.tmp 14) (.seq (.reg [⟨(some 15), .mv (.tmp 0), none⟩,
  ⟨(some 16), .bin .shr (.tmp 15) (.const (.int .u64 8)), none⟩,
  ⟨(some 0), .mv (.tmp 16), none⟩])
 (.reg [⟨(some 17), .mv (.tmp 2), none⟩,
  ⟨(some 18), .bin .add (.tmp 17) (.const (.int .i64 8)), none⟩,
  ⟨(some 2), .mv (.tmp 18), none⟩])) (.skip)))
 (.seq (.reg [⟨(some 19), .mv (.tmp 2), none⟩,
  ⟨(some 20), .mv (.tmp 0), none⟩,
  ⟨(some 21), .conv .u8 (.tmp 20), none⟩,
  ⟨(some 22), .idxs (.const (.string ⟨#[0, 1, 2, 2, 3, 3, 3, 3, 4, 4, 4, 4, 4, 4, 4, 4, 5, 5, 5, 5, 5, 5, 5, 5, 5, 5, 5, 5, 5, 5, 5, 5, 6, 6, 6, 6, 6, 6, 6, 6, 6, 6, 6, 6, 6, 6, 6, 6, 6, 6, 6, 6, 6, 6, 6, 6, 6, 6, 6, 6, 6, 6, 6, 6, 7, 7, 7, 7, 7, 7, 7, 7, 7, 7, 7, 7, 7, 7, 7, 7, 7, 7, 7, 7, 7, 7, 7, 7, 7, 7, 7, 7, 7, 7, 7, 7, 7, 7, 7, 7, 7, 7, 7, 7, 7, 7, 7, 7, 7, 7, 7, 7, 7, 7, 7, 7, 7, 7, 7, 7, 7, 7, 7, 7, 7, 7, 7, 7, 8, 8, 8, 8, 8, 8, 8, 8, 8, 8, 8, 8, 8, 8, 8, 8, 8, 8, 8, 8, 8, 8, 8, 8, 8, 8, 8, 8, 8, 8, 8, 8, 8, 8, 8, 8, 8, 8, 8, 8, 8, 8, 8, 8, 8, 8, 8, 8, 8, 8, 8, 8, 8, 8, 8, 8, 8, 8, 8, 8, 8, 8, 8, 8, 8, 8, 8, 8, 8, 8, 8, 8, 8, 8, 8, 8, 8, 8, 8, 8, 8, 8, 8, 8, 8, 8, 8, 8, 8, 8, 8, 8, 8, 8, 8, 8, 8, 8, 8, 8, 8, 8, 8, 8, 8, 8, 8, 8, 8, 8, 8, 8, 8, 8, 8, 8, 8, 8, 8, 8, 8, 8, 8, 8, 8, 8, 8, 8]⟩)) (.tmp 21), none⟩,
  ⟨(some 23), .conv .i64 (.tmp 22), none⟩,
  ⟨(some 24), .bin .add (.tmp 19) (.tmp 23), none⟩,
  ⟨(some 2), .mv (.tmp 24), none⟩])
 (.ret)))))
def r_math_bits_Len64 : List ARes := [.tmp 2]
theorem ok_math_bits_Len64 : FnOk Try.prog 122 25 c_math_bits_Len64 r_math_bits_Len64 := ⟨⟨Try.f122, _, Try.func122, by kernel_rfl, rfl, rfl, by kernel_rfl, by kernel_rfl⟩⟩
def c_cmp_isNaN : ACode := .seq (.reg [⟨(some 2), .mv (.const (.bool false)), none⟩])
 (.seq (.reg [⟨(some 3), .mv (.tmp 0), none⟩,
  ⟨(some 4), .mv (.tmp 0), none⟩,
  ⟨(some 5), .bin .neq (.tmp 3) (.tmp 4), none⟩,
  ⟨(some 2), .mv (.tmp 5), none⟩])
 (.ret))
def r_cmp_isNaN : List ARes := [.tmp 2]
theorem ok_cmp_isNaN : FnOk Try.prog 123 6 c_cmp_isNaN r_cmp_isNaN := ⟨⟨Try.f123, _, Try.func123, by kernel_rfl, rfl, rfl, by kernel_rfl, by kernel_rfl⟩⟩
end Go.Proofs.Ytihjcjhnkpkomaa.Ab
