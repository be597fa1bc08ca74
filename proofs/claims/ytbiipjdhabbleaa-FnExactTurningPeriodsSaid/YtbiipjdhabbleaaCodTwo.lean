/- The compiled forms of functions, each checked against the translation. -/
import Derived.Test.YtbiipjdhabbleaaAb2
import Derived.Test.YtbiipjdhabbleaaProg
namespace Go.Proofs.Ytbiipjdhabbleaa.Ab
open Go Go.RowKit Go.Proofs
set_option maxRecDepth 100000
def c_spec_OrdersAtEmpty : ACode := .seq (.reg [⟨(some 2), .box 28 (.tmp 0), none⟩,
  ⟨(some 4), .mv (.const (.bool false)), none⟩,
  ⟨(some 5), .mv (.const (.bool false)), none⟩])
 (.seq (.seq (.reg [⟨(some 6), .ld (some 4) (.tmp 2), none⟩,
  ⟨(some 7), .mv (.tmp 1), none⟩,
  ⟨(some 8), .call (.func 43) [(.tmp 6), (.tmp 7)], none⟩,
  ⟨(some 9), .un .not (.tmp 8), none⟩])
 (.cond (.tmp 9) (.seq (.reg [⟨(some 4), .mv (.const (.bool false)), none⟩,
  ⟨(some 5), .mv (.const (.bool false)), none⟩])
 (.ret)) (.skip)))
 (.seq (.reg [⟨(some 10), .ld (some 4) (.tmp 2), none⟩,
  ⟨(some 11), .mv (.tmp 1), none⟩,
  ⟨(some 12), .call (.func 44) [(.tmp 10), (.tmp 11)], none⟩,
  ⟨(some 13), .bin .lss (.tmp 12) (.const (.int .i64 0)), none⟩,
  ⟨(some 4), .mv (.tmp 13), none⟩,
  ⟨(some 5), .mv (.const (.bool true)), none⟩])
 (.ret)))
def r_spec_OrdersAtEmpty : List ARes := [.tmp 4, .tmp 5]
theorem ok_spec_OrdersAtEmpty : FnOk Try.prog 14 14 c_spec_OrdersAtEmpty r_spec_OrdersAtEmpty := ⟨⟨Try.f14, _, Try.func14, by kernel_rfl, rfl, rfl, by kernel_rfl, by kernel_rfl⟩⟩
def c_impl_OrdersAtEmpty : ACode := .seq (.reg [⟨(some 2), .box 28 (.tmp 0), none⟩,
  ⟨(some 4), .mv (.const (.bool false)), none⟩,
  ⟨(some 5), .mv (.const (.bool false)), none⟩])
 (.seq (.reg [⟨(some 11), .ld (some 4) (.tmp 2), none⟩,
  ⟨(some 12), .mv (.tmp 1), none⟩,
  ⟨(some 13), .call (.func 45) [(.tmp 11), (.tmp 12)], none⟩,
  ⟨(some 10), .mv (.tmp 13), none⟩,
  ⟨(some 14), .ext 0 (.tmp 10), none⟩,
  ⟨(some 15), .ext 1 (.tmp 10), none⟩,
  ⟨(some 6), .mv (.tmp 14), none⟩,
  ⟨(some 7), .mv (.tmp 15), none⟩])
 (.seq (.seq (.reg [⟨(some 16), .mv (.tmp 7), none⟩,
  ⟨(some 17), .un .not (.tmp 16), none⟩])
 (.cond (.tmp 17) (.seq (.reg [⟨(some 4), .mv (.const (.bool false)), none⟩,
  ⟨(some 5), .mv (.const (.bool false)), none⟩])
 (.ret)) (.skip)))
 (.seq (.reg [⟨(some 19), .mv (.tmp 1), none⟩,
  ⟨(some 20), .mv (.tmp 6), none⟩,
  ⟨(some 21), .call (.func 46) [(.tmp 19), (.tmp 20)], none⟩,
  ⟨(some 18), .mv (.tmp 21), none⟩,
  ⟨(some 22), .ext 0 (.tmp 18), none⟩,
  ⟨(some 23), .ext 1 (.tmp 18), none⟩,
  ⟨(some 8), .mv (.tmp 22), none⟩,
  ⟨(some 9), .mv (.tmp 23), none⟩])
 (.seq (.reg [⟨(some 24), .mv (.tmp 9), none⟩,
  ⟨(some 25), .un .not (.tmp 24), none⟩,
  ⟨(some 4), .mv (.tmp 25), none⟩,
  ⟨(some 5), .mv (.const (.bool true)), none⟩])
 (.ret)))))
def r_impl_OrdersAtEmpty : List ARes := [.tmp 4, .tmp 5]
theorem ok_impl_OrdersAtEmpty : FnOk Try.prog 17 26 c_impl_OrdersAtEmpty r_impl_OrdersAtEmpty := ⟨⟨Try.f17, _, Try.func17, by kernel_rfl, rfl, rfl, by kernel_rfl, by kernel_rfl⟩⟩
def c_spec_CutCase : ACode := .seq (.reg [⟨(some 3), .box 28 (.tmp 0), none⟩,
  ⟨(some 6), .alc 28 [(.slice none 0 0), (.slice none 0 0), (.slice none 0 0), (.slice none 0 0)], none⟩,
  ⟨(some 7), .mv (.const (.bool false)), none⟩])
 (.seq (.seq (.reg [⟨(some 8), .ld (some 4) (.tmp 3), none⟩,
  ⟨(some 9), .call (.func 47) [(.tmp 8)], none⟩,
  ⟨(some 10), .un .not (.tmp 9), none⟩,
  ⟨(some 11), .mv (.tmp 10), none⟩,
  ⟨(some 12), .mv (.tmp 1), (some (11, false))⟩,
  ⟨(some 13), .mv (.tmp 2), (some (11, false))⟩,
  ⟨(some 14), .call (.func 48) [(.tmp 12), (.const (.int .i64 0)), (.tmp 13)], (some (11, false))⟩,
  ⟨(some 15), .un .not (.tmp 14), (some (11, false))⟩,
  ⟨(some 16), .pick (.tmp 11) (.const (.bool true)) (.tmp 15), none⟩,
  ⟨(some 17), .mv (.tmp 16), none⟩,
  ⟨(some 18), .mv (.tmp 2), (some (17, false))⟩,
  ⟨(some 19), .fad 0 (.tmp 3), (some (17, false))⟩,
  ⟨(some 20), .ld none (.tmp 19), (some (17, false))⟩,
  ⟨(some 21), .len (.tmp 20), (some (17, false))⟩,
  ⟨(some 22), .call (.func 48) [(.tmp 18), (.const (.int .i64 0)), (.tmp 21)], (some (17, false))⟩,
  ⟨(some 23), .un .not (.tmp 22), (some (17, false))⟩,
  ⟨(some 24), .pick (.tmp 17) (.const (.bool true)) (.tmp 23), none⟩])
 (.cond (.tmp 24) (.seq (.reg [⟨(some 25), .bld [(.slice none 0 0), (.slice none 0 0), (.slice none 0 0), (.slice none 0 0)] [], none⟩,
  ⟨none, .st 4 (.tmp 6) (.tmp 25), none⟩,
  ⟨(some 7), .mv (.const (.bool false)), none⟩])
 (.ret)) (.skip)))
 (.seq (.reg [⟨(some 26), .fad 0 (.tmp 3), none⟩,
  ⟨(some 27), .ld none (.tmp 26), none⟩,
  ⟨(some 28), .mv (.tmp 1), none⟩,
  ⟨(some 29), .mv (.tmp 2), none⟩,
  ⟨(some 30), .slc 1 (.tmp 27) (some (.tmp 28)) (some (.tmp 29)), none⟩,
  ⟨(some 32), .fad 1 (.tmp 3), none⟩,
  ⟨(some 33), .ld none (.tmp 32), none⟩,
  ⟨(some 34), .mv (.tmp 1), none⟩,
  ⟨(some 35), .mv (.tmp 2), none⟩,
  ⟨(some 36), .slc 1 (.tmp 33) (some (.tmp 34)) (some (.tmp 35)), none⟩,
  ⟨(some 38), .fad 2 (.tmp 3), none⟩,
  ⟨(some 39), .ld none (.tmp 38), none⟩,
  ⟨(some 40), .mv (.tmp 1), none⟩,
  ⟨(some 41), .mv (.tmp 2), none⟩,
  ⟨(some 42), .slc 1 (.tmp 39) (some (.tmp 40)) (some (.tmp 41)), none⟩,
  ⟨(some 44), .fad 3 (.tmp 3), none⟩,
  ⟨(some 45), .ld none (.tmp 44), none⟩,
  ⟨(some 46), .mv (.tmp 1), none⟩,
  ⟨(some 47), .mv (.tmp 2), none⟩,
  ⟨(some 48), .slc 1 (.tmp 45) (some (.tmp 46)) (some (.tmp 47)), none⟩,
  ⟨(some 31), .rcall (.func 49) [(.tmp 30)], none⟩,
  ⟨(some 37), .rcall (.func 49) [(.tmp 36)], none⟩,
  ⟨(some 43), .rcall (.func 49) [(.tmp 42)], none⟩,
  ⟨(some 49), .rcall (.func 49) [(.tmp 48)], none⟩,
  ⟨(some 50), .bld [(.slice none 0 0), (.slice none 0 0), (.slice none 0 0), (.slice none 0 0)] [(0, 1, (.tmp 31)), (1, 1, (.tmp 37)), (2, 1, (.tmp 43)), (3, 1, (.tmp 49))], none⟩,
  ⟨none, .st 4 (.tmp 6) (.tmp 50), none⟩,
  ⟨(some 7), .mv (.const (.bool true)), none⟩])
 (.ret)))
def r_spec_CutCase : List ARes := [.cell 6 (some 4), .tmp 7]
theorem ok_spec_CutCase : FnOk Try.prog 20 51 c_spec_CutCase r_spec_CutCase := ⟨⟨Try.f20, _, Try.func20, by kernel_rfl, rfl, rfl, by kernel_rfl, by kernel_rfl⟩⟩
def c_impl_CutCase : ACode := .seq (.reg [⟨(some 3), .box 28 (.tmp 0), none⟩,
  ⟨(some 4), .box 3 (.tmp 1), none⟩,
  ⟨(some 5), .box 3 (.tmp 2), none⟩,
  ⟨(some 6), .alc 28 [(.slice none 0 0), (.slice none 0 0), (.slice none 0 0), (.slice none 0 0)], none⟩,
  ⟨(some 7), .mv (.const (.bool false)), none⟩])
 (.seq (.seq (.reg [⟨(some 9), .ld (some 4) (.tmp 3), none⟩,
  ⟨(some 10), .call (.func 50) [(.tmp 9)], none⟩,
  ⟨(some 11), .un .not (.tmp 10), none⟩,
  ⟨(some 12), .mv (.tmp 11), none⟩,
  ⟨(some 13), .ld none (.tmp 4), (some (12, false))⟩,
  ⟨(some 14), .bin .lss (.tmp 13) (.const (.int .i64 0)), (some (12, false))⟩,
  ⟨(some 15), .pick (.tmp 12) (.const (.bool true)) (.tmp 14), none⟩,
  ⟨(some 16), .mv (.tmp 15), none⟩,
  ⟨(some 17), .ld none (.tmp 4), (some (16, false))⟩,
  ⟨(some 18), .ld none (.tmp 5), (some (16, false))⟩,
  ⟨(some 19), .bin .gtr (.tmp 17) (.tmp 18), (some (16, false))⟩,
  ⟨(some 20), .pick (.tmp 16) (.const (.bool true)) (.tmp 19), none⟩,
  ⟨(some 21), .mv (.tmp 20), none⟩,
  ⟨(some 22), .ld none (.tmp 5), (some (21, false))⟩,
  ⟨(some 23), .fad 0 (.tmp 3), (some (21, false))⟩,
  ⟨(some 24), .ld none (.tmp 23), (some (21, false))⟩,
  ⟨(some 25), .len (.tmp 24), (some (21, false))⟩,
  ⟨(some 26), .bin .gtr (.tmp 22) (.tmp 25), (some (21, false))⟩,
  ⟨(some 27), .pick (.tmp 21) (.const (.bool true)) (.tmp 26), none⟩])
 (.cond (.tmp 27) (.seq (.reg [⟨(some 28), .bld [(.slice none 0 0), (.slice none 0 0), (.slice none 0 0), (.slice none 0 0)] [], none⟩,
  ⟨none, .st 4 (.tmp 6) (.tmp 28), none⟩,
  ⟨(some 7), .mv (.const (.bool false)), none⟩])
 (.ret)) (.skip)))
 (.seq (.reg [⟨(some 29), .mkf 51 [] [(.tmp 4), (.tmp 5)], none⟩,
  ⟨(some 8), .mv (.tmp 29), none⟩])
 (.seq (.reg [⟨(some 30), .mv (.tmp 8), none⟩,
  ⟨(some 31), .fad 0 (.tmp 3), none⟩,
  ⟨(some 32), .ld none (.tmp 31), none⟩,
  ⟨(some 34), .mv (.tmp 8), none⟩,
  ⟨(some 35), .fad 1 (.tmp 3), none⟩,
  ⟨(some 36), .ld none (.tmp 35), none⟩,
  ⟨(some 38), .mv (.tmp 8), none⟩,
  ⟨(some 39), .fad 2 (.tmp 3), none⟩,
  ⟨(some 40), .ld none (.tmp 39), none⟩,
  ⟨(some 42), .mv (.tmp 8), none⟩,
  ⟨(some 43), .fad 3 (.tmp 3), none⟩,
  ⟨(some 44), .ld none (.tmp 43), none⟩,
  ⟨(some 33), .rcall (.tmp 30) [(.tmp 32)], none⟩,
  ⟨(some 37), .rcall (.tmp 34) [(.tmp 36)], none⟩,
  ⟨(some 41), .rcall (.tmp 38) [(.tmp 40)], none⟩,
  ⟨(some 45), .rcall (.tmp 42) [(.tmp 44)], none⟩,
  ⟨(some 46), .bld [(.slice none 0 0), (.slice none 0 0), (.slice none 0 0), (.slice none 0 0)] [(0, 1, (.tmp 33)), (1, 1, (.tmp 37)), (2, 1, (.tmp 41)), (3, 1, (.tmp 45))], none⟩,
  ⟨none, .st 4 (.tmp 6) (.tmp 46), none⟩,
  ⟨(some 7), .mv (.const (.bool true)), none⟩])
 (.ret))))
def r_impl_CutCase : List ARes := [.cell 6 (some 4), .tmp 7]
theorem ok_impl_CutCase : FnOk Try.prog 21 47 c_impl_CutCase r_impl_CutCase := ⟨⟨Try.f21, _, Try.func21, by kernel_rfl, rfl, rfl, by kernel_rfl, by kernel_rfl⟩⟩
def c_spec_WaitsNever : ACode := .seq (.reg [⟨(some 1), .box 28 (.tmp 0), none⟩,
  ⟨(some 2), .mv (.const (.bool false)), none⟩,
  ⟨(some 3), .mv (.const (.bool false)), none⟩])
 (.seq (.seq (.reg [⟨(some 5), .ld (some 4) (.tmp 1), none⟩,
  ⟨(some 6), .call (.func 47) [(.tmp 5)], none⟩,
  ⟨(some 7), .un .not (.tmp 6), none⟩])
 (.cond (.tmp 7) (.seq (.reg [⟨(some 2), .mv (.const (.bool false)), none⟩,
  ⟨(some 3), .mv (.const (.bool false)), none⟩])
 (.ret)) (.skip)))
 (.seq (.seq (.reg [⟨(some 4), .mv (.const (.int .i64 0)), none⟩])
 (.block 0 (.loop (.seq (.seq (.reg [⟨(some 8), .mv (.tmp 4), none⟩,
  ⟨(some 9), .bin .add (.tmp 8) (.const (.int .i64 1)), none⟩,
  ⟨(some 10), .fad 0 (.tmp 1), none⟩,
  ⟨(some 11), .ld none (.tmp 10), none⟩,
  ⟨(some 12), .len (.tmp 11), none⟩,
  ⟨(some 13), .bin .lss (.tmp 9) (.tmp 12), none⟩])
 (.cond (.tmp 13) (.skip) (.exit 0)))
 (.seq (.block 1 (.seq (.reg [⟨(some 16), .fad 2 (.tmp 1), none⟩,
  ⟨(some 17), .ld none (.tmp 16), none⟩,
  ⟨(some 18), .mv (.tmp 4), none⟩,
  ⟨(some 19), .iad 1 (.tmp 17) (.tmp 18), none⟩,
  ⟨(some 20), .ld none (.tmp 19), none⟩,
  ⟨(some 21), .fad 3 (.tmp 1), none⟩,
  ⟨(some 22), .ld none (.tmp 21), none⟩,
  ⟨(some 23), .mv (.tmp 4), none⟩,
  ⟨(some 24), .iad 1 (.tmp 22) (.tmp 23), none⟩,
  ⟨(some 25), .ld none (.tmp 24), none⟩,
  ⟨(some 26), .bin .add (.tmp 20) (.tmp 25), none⟩,
  ⟨(some 27), .fad 2 (.tmp 1), none⟩,
  ⟨(some 28), .ld none (.tmp 27), none⟩,
  ⟨(some 29), .mv (.tmp 4), none⟩,
  ⟨(some 30), .bin .add (.tmp 29) (.const (.int .i64 1)), none⟩,
  ⟨(some 31), .iad 1 (.tmp 28) (.tmp 30), none⟩,
  ⟨(some 32), .ld none (.tmp 31), none⟩,
  ⟨(some 33), .bin .lss (.tmp 26) (.tmp 32), none⟩])
 (.cond (.tmp 33) (.seq (.reg [⟨(some 2), .mv (.const (.bool false)), none⟩,
  ⟨(some 3), .mv (.const (.bool true)), none⟩])
 (.ret)) (.skip))))
 (.reg [⟨(some 14), .mv (.tmp 4), none⟩,
  ⟨(some 15), .bin .add (.tmp 14) (.const (.int .i64 1)), none⟩,
  ⟨(some 4), .mv (.tmp 15), none⟩]))))))
 (.seq (.reg [⟨(some 2), .mv (.const (.bool true)), none⟩,
  ⟨(some 3), .mv (.const (.bool true)), none⟩])
 (.ret))))
def r_spec_WaitsNever : List ARes := [.tmp 2, .tmp 3]
theorem ok_spec_WaitsNever : FnOk Try.prog 24 34 c_spec_WaitsNever r_spec_WaitsNever := ⟨⟨Try.f24, _, Try.func24, by kernel_rfl, rfl, rfl, by kernel_rfl, by kernel_rfl⟩⟩
def c_impl_WaitsNever : ACode := .seq (.reg [⟨(some 1), .box 28 (.tmp 0), none⟩,
  ⟨(some 2), .mv (.const (.bool false)), none⟩,
  ⟨(some 3), .mv (.const (.bool false)), none⟩])
 (.seq (.seq (.reg [⟨(some 5), .ld (some 4) (.tmp 1), none⟩,
  ⟨(some 6), .call (.func 50) [(.tmp 5)], none⟩,
  ⟨(some 7), .un .not (.tmp 6), none⟩])
 (.cond (.tmp 7) (.seq (.reg [⟨(some 2), .mv (.const (.bool false)), none⟩,
  ⟨(some 3), .mv (.const (.bool false)), none⟩])
 (.ret)) (.skip)))
 (.seq (.seq (.reg [⟨(some 4), .mv (.const (.int .i64 1)), none⟩])
 (.block 0 (.loop (.seq (.seq (.reg [⟨(some 8), .mv (.tmp 4), none⟩,
  ⟨(some 9), .fad 2 (.tmp 1), none⟩,
  ⟨(some 10), .ld none (.tmp 9), none⟩,
  ⟨(some 11), .len (.tmp 10), none⟩,
  ⟨(some 12), .bin .lss (.tmp 8) (.tmp 11), none⟩])
 (.cond (.tmp 12) (.skip) (.exit 0)))
 (.seq (.block 1 (.seq (.reg [⟨(some 15), .fad 2 (.tmp 1), none⟩,
  ⟨(some 16), .ld none (.tmp 15), none⟩,
  ⟨(some 17), .mv (.tmp 4), none⟩,
  ⟨(some 18), .bin .sub (.tmp 17) (.const (.int .i64 1)), none⟩,
  ⟨(some 19), .iad 1 (.tmp 16) (.tmp 18), none⟩,
  ⟨(some 20), .ld none (.tmp 19), none⟩,
  ⟨(some 21), .fad 3 (.tmp 1), none⟩,
  ⟨(some 22), .ld none (.tmp 21), none⟩,
  ⟨(some 23), .mv (.tmp 4), none⟩,
  ⟨(some 24), .bin .sub (.tmp 23) (.const (.int .i64 1)), none⟩,
  ⟨(some 25), .iad 1 (.tmp 22) (.tmp 24), none⟩,
  ⟨(some 26), .ld none (.tmp 25), none⟩,
  ⟨(some 27), .bin .add (.tmp 20) (.tmp 26), none⟩,
  ⟨(some 28), .fad 2 (.tmp 1), none⟩,
  ⟨(some 29), .ld none (.tmp 28), none⟩,
  ⟨(some 30), .mv (.tmp 4), none⟩,
  ⟨(some 31), .iad 1 (.tmp 29) (.tmp 30), none⟩,
  ⟨(some 32), .ld none (.tmp 31), none⟩,
  ⟨(some 33), .bin .lss (.tmp 27) (.tmp 32), none⟩])
 (.cond (.tmp 33) (.seq (.reg [⟨(some 2), .mv (.const (.bool false)), none⟩,
  ⟨(some 3), .mv (.const (.bool true)), none⟩])
 (.ret)) (.skip))))
 (.reg [⟨(some 13), .mv (.tmp 4), none⟩,
  ⟨(some 14), .bin .add (.tmp 13) (.const (.int .i64 1)), none⟩,
  ⟨(some 4), .mv (.tmp 14), none⟩]))))))
 (.seq (.reg [⟨(some 2), .mv (.const (.bool true)), none⟩,
  ⟨(some 3), .mv (.const (.bool true)), none⟩])
 (.ret))))
def r_impl_WaitsNever : List ARes := [.tmp 2, .tmp 3]
theorem ok_impl_WaitsNever : FnOk Try.prog 25 34 c_impl_WaitsNever r_impl_WaitsNever := ⟨⟨Try.f25, _, Try.func25, by kernel_rfl, rfl, rfl, by kernel_rfl, by kernel_rfl⟩⟩
def c_spec_RateOf : ACode := .seq (.reg [⟨(some 3), .box 28 (.tmp 0), none⟩,
  ⟨(some 6), .mv (.const (.int .i64 0)), none⟩,
  ⟨(some 7), .mv (.const (.bool false)), none⟩])
 (.seq (.seq (.reg [⟨(some 8), .ld (some 4) (.tmp 3), none⟩,
  ⟨(some 9), .call (.func 47) [(.tmp 8)], none⟩,
  ⟨(some 10), .un .not (.tmp 9), none⟩,
  ⟨(some 11), .mv (.tmp 10), none⟩,
  ⟨(some 12), .mv (.tmp 1), (some (11, false))⟩,
  ⟨(some 13), .mv (.tmp 2), (some (11, false))⟩,
  ⟨(some 14), .call (.func 48) [(.tmp 12), (.const (.int .i64 0)), (.tmp 13)], (some (11, false))⟩,
  ⟨(some 15), .un .not (.tmp 14), (some (11, false))⟩,
  ⟨(some 16), .pick (.tmp 11) (.const (.bool true)) (.tmp 15), none⟩,
  ⟨(some 17), .mv (.tmp 16), none⟩,
  ⟨(some 18), .mv (.tmp 2), (some (17, false))⟩,
  ⟨(some 19), .fad 0 (.tmp 3), (some (17, false))⟩,
  ⟨(some 20), .ld none (.tmp 19), (some (17, false))⟩,
  ⟨(some 21), .len (.tmp 20), (some (17, false))⟩,
  ⟨(some 22), .bin .sub (.tmp 21) (.const (.int .i64 1)), (some (17, false))⟩,
  ⟨(some 23), .call (.func 48) [(.tmp 18), (.const (.int .i64 0)), (.tmp 22)], (some (17, false))⟩,
  ⟨(some 24), .un .not (.tmp 23), (some (17, false))⟩,
  ⟨(some 25), .pick (.tmp 17) (.const (.bool true)) (.tmp 24), none⟩])
 (.cond (.tmp 25) (.seq (.reg [⟨(some 6), .mv (.const (.int .i64 0)), none⟩,
  ⟨(some 7), .mv (.const (.bool false)), none⟩])
 (.ret)) (.skip)))
 (.seq (.reg [⟨(some 26), .ld (some 4) (.tmp 3), none⟩,
  ⟨(some 27), .mv (.tmp 1), none⟩,
  ⟨(some 28), .mv (.tmp 2), none⟩,
  ⟨(some 29), .call (.func 52) [(.tmp 26), (.tmp 27), (.tmp 28)], none⟩,
  ⟨(some 6), .mv (.tmp 29), none⟩,
  ⟨(some 7), .mv (.const (.bool true)), none⟩])
 (.ret)))
def r_spec_RateOf : List ARes := [.tmp 6, .tmp 7]
theorem ok_spec_RateOf : FnOk Try.prog 26 30 c_spec_RateOf r_spec_RateOf := ⟨⟨Try.f26, _, Try.func26, by kernel_rfl, rfl, rfl, by kernel_rfl, by kernel_rfl⟩⟩
def c_impl_RateOf : ACode := .seq (.reg [⟨(some 3), .box 28 (.tmp 0), none⟩,
  ⟨(some 6), .mv (.const (.int .i64 0)), none⟩,
  ⟨(some 7), .mv (.const (.bool false)), none⟩])
 (.seq (.seq (.reg [⟨(some 8), .ld (some 4) (.tmp 3), none⟩,
  ⟨(some 9), .call (.func 50) [(.tmp 8)], none⟩,
  ⟨(some 10), .un .not (.tmp 9), none⟩,
  ⟨(some 11), .mv (.tmp 10), none⟩,
  ⟨(some 12), .mv (.tmp 1), (some (11, false))⟩,
  ⟨(some 13), .bin .lss (.tmp 12) (.const (.int .i64 0)), (some (11, false))⟩,
  ⟨(some 14), .pick (.tmp 11) (.const (.bool true)) (.tmp 13), none⟩,
  ⟨(some 15), .mv (.tmp 14), none⟩,
  ⟨(some 16), .mv (.tmp 1), (some (15, false))⟩,
  ⟨(some 17), .mv (.tmp 2), (some (15, false))⟩,
  ⟨(some 18), .bin .gtr (.tmp 16) (.tmp 17), (some (15, false))⟩,
  ⟨(some 19), .pick (.tmp 15) (.const (.bool true)) (.tmp 18), none⟩,
  ⟨(some 20), .mv (.tmp 19), none⟩,
  ⟨(some 21), .mv (.tmp 2), (some (20, false))⟩,
  ⟨(some 22), .fad 0 (.tmp 3), (some (20, false))⟩,
  ⟨(some 23), .ld none (.tmp 22), (some (20, false))⟩,
  ⟨(some 24), .len (.tmp 23), (some (20, false))⟩,
  ⟨(some 25), .bin .geq (.tmp 21) (.tmp 24), (some (20, false))⟩,
  ⟨(some 26), .pick (.tmp 20) (.const (.bool true)) (.tmp 25), none⟩])
 (.cond (.tmp 26) (.seq (.reg [⟨(some 6), .mv (.const (.int .i64 0)), none⟩,
  ⟨(some 7), .mv (.const (.bool false)), none⟩])
 (.ret)) (.skip)))
 (.seq (.reg [⟨(some 27), .ld (some 4) (.tmp 3), none⟩,
  ⟨(some 28), .mv (.tmp 1), none⟩,
  ⟨(some 29), .mv (.tmp 2), none⟩,
  ⟨(some 30), .call (.func 53) [(.tmp 27), (.tmp 28), (.tmp 29)], none⟩,
  ⟨(some 6), .mv (.tmp 30), none⟩,
  ⟨(some 7), .mv (.const (.bool true)), none⟩])
 (.ret)))
def r_impl_RateOf : List ARes := [.tmp 6, .tmp 7]
theorem ok_impl_RateOf : FnOk Try.prog 27 31 c_impl_RateOf r_impl_RateOf := ⟨⟨Try.f27, _, Try.func27, by kernel_rfl, rfl, rfl, by kernel_rfl, by kernel_rfl⟩⟩
def c_spec_SpanCost : ACode := .seq (.reg [⟨(some 3), .box 28 (.tmp 0), none⟩,
  ⟨(some 6), .mv (.const (.int .i64 0)), none⟩,
  ⟨(some 7), .mv (.const (.bool false)), none⟩])
 (.seq (.seq (.reg [⟨(some 8), .ld (some 4) (.tmp 3), none⟩,
  ⟨(some 9), .mv (.tmp 1), none⟩,
  ⟨(some 10), .mv (.tmp 2), none⟩,
  ⟨(some 11), .call (.func 54) [(.tmp 8), (.tmp 9), (.tmp 10)], none⟩,
  ⟨(some 12), .un .not (.tmp 11), none⟩])
 (.cond (.tmp 12) (.seq (.reg [⟨(some 6), .mv (.const (.int .i64 0)), none⟩,
  ⟨(some 7), .mv (.const (.bool false)), none⟩])
 (.ret)) (.skip)))
 (.seq (.reg [⟨(some 13), .ld (some 4) (.tmp 3), none⟩,
  ⟨(some 14), .mv (.tmp 1), none⟩,
  ⟨(some 15), .mv (.tmp 2), none⟩,
  ⟨(some 16), .call (.func 55) [(.tmp 13), (.tmp 14), (.tmp 15)], none⟩,
  ⟨(some 6), .mv (.tmp 16), none⟩,
  ⟨(some 7), .mv (.const (.bool true)), none⟩])
 (.ret)))
def r_spec_SpanCost : List ARes := [.tmp 6, .tmp 7]
theorem ok_spec_SpanCost : FnOk Try.prog 28 17 c_spec_SpanCost r_spec_SpanCost := ⟨⟨Try.f28, _, Try.func28, by kernel_rfl, rfl, rfl, by kernel_rfl, by kernel_rfl⟩⟩
def c_impl_SpanCost : ACode := .seq (.reg [⟨(some 3), .box 28 (.tmp 0), none⟩,
  ⟨(some 6), .mv (.const (.int .i64 0)), none⟩,
  ⟨(some 7), .mv (.const (.bool false)), none⟩])
 (.seq (.seq (.reg [⟨(some 8), .ld (some 4) (.tmp 3), none⟩,
  ⟨(some 9), .call (.func 50) [(.tmp 8)], none⟩,
  ⟨(some 10), .un .not (.tmp 9), none⟩,
  ⟨(some 11), .mv (.tmp 10), none⟩,
  ⟨(some 12), .mv (.tmp 1), (some (11, false))⟩,
  ⟨(some 13), .bin .lss (.tmp 12) (.const (.int .i64 0)), (some (11, false))⟩,
  ⟨(some 14), .pick (.tmp 11) (.const (.bool true)) (.tmp 13), none⟩,
  ⟨(some 15), .mv (.tmp 14), none⟩,
  ⟨(some 16), .mv (.tmp 1), (some (15, false))⟩,
  ⟨(some 17), .mv (.tmp 2), (some (15, false))⟩,
  ⟨(some 18), .bin .geq (.tmp 16) (.tmp 17), (some (15, false))⟩,
  ⟨(some 19), .pick (.tmp 15) (.const (.bool true)) (.tmp 18), none⟩,
  ⟨(some 20), .mv (.tmp 19), none⟩,
  ⟨(some 21), .mv (.tmp 2), (some (20, false))⟩,
  ⟨(some 22), .fad 0 (.tmp 3), (some (20, false))⟩,
  ⟨(some 23), .ld none (.tmp 22), (some (20, false))⟩,
  ⟨(some 24), .len (.tmp 23), (some (20, false))⟩,
  ⟨(some 25), .bin .gtr (.tmp 21) (.tmp 24), (some (20, false))⟩,
  ⟨(some 26), .pick (.tmp 20) (.const (.bool true)) (.tmp 25), none⟩])
 (.cond (.tmp 26) (.seq (.reg [⟨(some 6), .mv (.const (.int .i64 0)), none⟩,
  ⟨(some 7), .mv (.const (.bool false)), none⟩])
 (.ret)) (.skip)))
 (.seq (.reg [⟨(some 27), .ld (some 4) (.tmp 3), none⟩,
  ⟨(some 28), .mv (.tmp 1), none⟩,
  ⟨(some 29), .mv (.tmp 2), none⟩,
  ⟨(some 30), .call (.func 56) [(.tmp 27), (.tmp 28), (.tmp 29)], none⟩,
  ⟨(some 6), .mv (.tmp 30), none⟩,
  ⟨(some 7), .mv (.const (.bool true)), none⟩])
 (.ret)))
def r_impl_SpanCost : List ARes := [.tmp 6, .tmp 7]
theorem ok_impl_SpanCost : FnOk Try.prog 29 31 c_impl_SpanCost r_impl_SpanCost := ⟨⟨Try.f29, _, Try.func29, by kernel_rfl, rfl, rfl, by kernel_rfl, by kernel_rfl⟩⟩
def c_spec_ForwardCosts : ACode := .seq (.reg [⟨(some 1), .box 28 (.tmp 0), none⟩,
  ⟨(some 2), .mv (.const (.slice none 0 0)), none⟩,
  ⟨(some 3), .mv (.const (.bool false)), none⟩])
 (.seq (.seq (.reg [⟨(some 6), .ld (some 4) (.tmp 1), none⟩,
  ⟨(some 7), .call (.func 47) [(.tmp 6)], none⟩,
  ⟨(some 8), .un .not (.tmp 7), none⟩])
 (.cond (.tmp 8) (.seq (.reg [⟨(some 9), .bsl 3 1 0 [] [], none⟩,
  ⟨(some 2), .mv (.tmp 9), none⟩,
  ⟨(some 3), .mv (.const (.bool false)), none⟩])
 (.ret)) (.skip)))
 (.seq (.reg [⟨(some 11), .ld (some 4) (.tmp 1), none⟩,
  ⟨(some 12), .call (.func 57) [(.tmp 11)], none⟩,
  ⟨(some 10), .mv (.tmp 12), none⟩,
  ⟨(some 13), .ext 0 (.tmp 10), none⟩,
  ⟨(some 14), .ext 1 (.tmp 10), none⟩,
  ⟨(some 4), .mv (.tmp 13), none⟩,
  ⟨(some 5), .mv (.tmp 14), none⟩])
 (.seq (.reg [⟨(some 15), .mv (.tmp 4), none⟩,
  ⟨(some 2), .mv (.tmp 15), none⟩,
  ⟨(some 3), .mv (.const (.bool true)), none⟩])
 (.ret))))
def r_spec_ForwardCosts : List ARes := [.tmp 2, .tmp 3]
theorem ok_spec_ForwardCosts : FnOk Try.prog 30 16 c_spec_ForwardCosts r_spec_ForwardCosts := ⟨⟨Try.f30, _, Try.func30, by kernel_rfl, rfl, rfl, by kernel_rfl, by kernel_rfl⟩⟩
def c_impl_ForwardCosts : ACode := .seq (.reg [⟨(some 1), .box 28 (.tmp 0), none⟩,
  ⟨(some 2), .mv (.const (.slice none 0 0)), none⟩,
  ⟨(some 3), .mv (.const (.bool false)), none⟩])
 (.seq (.seq (.reg [⟨(some 6), .ld (some 4) (.tmp 1), none⟩,
  ⟨(some 7), .call (.func 50) [(.tmp 6)], none⟩,
  ⟨(some 8), .un .not (.tmp 7), none⟩])
 (.cond (.tmp 8) (.seq (.reg [⟨(some 9), .bsl 3 1 0 [] [], none⟩,
  ⟨(some 2), .mv (.tmp 9), none⟩,
  ⟨(some 3), .mv (.const (.bool false)), none⟩])
 (.ret)) (.skip)))
 (.seq (.reg [⟨(some 11), .ld (some 4) (.tmp 1), none⟩,
  ⟨(some 12), .call (.func 58) [(.tmp 11)], none⟩,
  ⟨(some 10), .mv (.tmp 12), none⟩,
  ⟨(some 13), .ext 0 (.tmp 10), none⟩,
  ⟨(some 14), .ext 1 (.tmp 10), none⟩,
  ⟨(some 4), .mv (.tmp 13), none⟩,
  ⟨(some 5), .mv (.tmp 14), none⟩])
 (.seq (.reg [⟨(some 15), .mv (.tmp 4), none⟩,
  ⟨(some 2), .mv (.tmp 15), none⟩,
  ⟨(some 3), .mv (.const (.bool true)), none⟩])
 (.ret))))
def r_impl_ForwardCosts : List ARes := [.tmp 2, .tmp 3]
theorem ok_impl_ForwardCosts : FnOk Try.prog 31 16 c_impl_ForwardCosts r_impl_ForwardCosts := ⟨⟨Try.f31, _, Try.func31, by kernel_rfl, rfl, rfl, by kernel_rfl, by kernel_rfl⟩⟩
def c_spec_BackwardCosts : ACode := .seq (.reg [⟨(some 1), .box 28 (.tmp 0), none⟩,
  ⟨(some 2), .mv (.const (.slice none 0 0)), none⟩,
  ⟨(some 3), .mv (.const (.bool false)), none⟩])
 (.seq (.seq (.reg [⟨(some 4), .ld (some 4) (.tmp 1), none⟩,
  ⟨(some 5), .call (.func 47) [(.tmp 4)], none⟩,
  ⟨(some 6), .un .not (.tmp 5), none⟩])
 (.cond (.tmp 6) (.seq (.reg [⟨(some 7), .bsl 3 1 0 [] [], none⟩,
  ⟨(some 2), .mv (.tmp 7), none⟩,
  ⟨(some 3), .mv (.const (.bool false)), none⟩])
 (.ret)) (.skip)))
 (.seq (.reg [⟨(some 8), .ld (some 4) (.tmp 1), none⟩,
  ⟨(some 9), .call (.func 59) [(.tmp 8)], none⟩,
  ⟨(some 2), .mv (.tmp 9), none⟩,
  ⟨(some 3), .mv (.const (.bool true)), none⟩])
 (.ret)))
def r_spec_BackwardCosts : List ARes := [.tmp 2, .tmp 3]
theorem ok_spec_BackwardCosts : FnOk Try.prog 34 10 c_spec_BackwardCosts r_spec_BackwardCosts := ⟨⟨Try.f34, _, Try.func34, by kernel_rfl, rfl, rfl, by kernel_rfl, by kernel_rfl⟩⟩
def c_impl_BackwardCosts : ACode := .seq (.reg [⟨(some 1), .box 28 (.tmp 0), none⟩,
  ⟨(some 2), .mv (.const (.slice none 0 0)), none⟩,
  ⟨(some 3), .mv (.const (.bool false)), none⟩])
 (.seq (.seq (.reg [⟨(some 4), .ld (some 4) (.tmp 1), none⟩,
  ⟨(some 5), .call (.func 50) [(.tmp 4)], none⟩,
  ⟨(some 6), .un .not (.tmp 5), none⟩])
 (.cond (.tmp 6) (.seq (.reg [⟨(some 7), .bsl 3 1 0 [] [], none⟩,
  ⟨(some 2), .mv (.tmp 7), none⟩,
  ⟨(some 3), .mv (.const (.bool false)), none⟩])
 (.ret)) (.skip)))
 (.seq (.reg [⟨(some 8), .ld (some 4) (.tmp 1), none⟩,
  ⟨(some 9), .call (.func 60) [(.tmp 8)], none⟩,
  ⟨(some 2), .mv (.tmp 9), none⟩,
  ⟨(some 3), .mv (.const (.bool true)), none⟩])
 (.ret)))
def r_impl_BackwardCosts : List ARes := [.tmp 2, .tmp 3]
theorem ok_impl_BackwardCosts : FnOk Try.prog 35 10 c_impl_BackwardCosts r_impl_BackwardCosts := ⟨⟨Try.f35, _, Try.func35, by kernel_rfl, rfl, rfl, by kernel_rfl, by kernel_rfl⟩⟩
def c_impl_LastOrders : ACode := .seq (.reg [⟨(some 1), .box 28 (.tmp 0), none⟩,
  ⟨(some 2), .mv (.const (.slice none 0 0)), none⟩,
  ⟨(some 3), .mv (.const (.bool false)), none⟩])
 (.seq (.seq (.reg [⟨(some 6), .ld (some 4) (.tmp 1), none⟩,
  ⟨(some 7), .call (.func 50) [(.tmp 6)], none⟩,
  ⟨(some 8), .un .not (.tmp 7), none⟩])
 (.cond (.tmp 8) (.seq (.reg [⟨(some 9), .bsl 3 1 0 [] [], none⟩,
  ⟨(some 2), .mv (.tmp 9), none⟩,
  ⟨(some 3), .mv (.const (.bool false)), none⟩])
 (.ret)) (.skip)))
 (.seq (.reg [⟨(some 11), .ld (some 4) (.tmp 1), none⟩,
  ⟨(some 12), .call (.func 58) [(.tmp 11)], none⟩,
  ⟨(some 10), .mv (.tmp 12), none⟩,
  ⟨(some 13), .ext 0 (.tmp 10), none⟩,
  ⟨(some 14), .ext 1 (.tmp 10), none⟩,
  ⟨(some 4), .mv (.tmp 13), none⟩,
  ⟨(some 5), .mv (.tmp 14), none⟩])
 (.seq (.reg [⟨(some 15), .mv (.tmp 5), none⟩,
  ⟨(some 2), .mv (.tmp 15), none⟩,
  ⟨(some 3), .mv (.const (.bool true)), none⟩])
 (.ret))))
def r_impl_LastOrders : List ARes := [.tmp 2, .tmp 3]
theorem ok_impl_LastOrders : FnOk Try.prog 37 16 c_impl_LastOrders r_impl_LastOrders := ⟨⟨Try.f37, _, Try.func37, by kernel_rfl, rfl, rfl, by kernel_rfl, by kernel_rfl⟩⟩
def c_spec_TurningPeriods : ACode := .seq (.reg [⟨(some 1), .box 28 (.tmp 0), none⟩,
  ⟨(some 2), .mv (.const (.slice none 0 0)), none⟩,
  ⟨(some 3), .mv (.const (.bool false)), none⟩])
 (.seq (.reg [⟨(some 9), .bsl 3 1 0 [] [], none⟩,
  ⟨(some 4), .mv (.tmp 9), none⟩])
 (.seq (.seq (.reg [⟨(some 10), .ld (some 4) (.tmp 1), none⟩,
  ⟨(some 11), .call (.func 47) [(.tmp 10)], none⟩,
  ⟨(some 12), .un .not (.tmp 11), none⟩])
 (.cond (.tmp 12) (.seq (.reg [⟨(some 13), .mv (.tmp 4), none⟩,
  ⟨(some 2), .mv (.tmp 13), none⟩,
  ⟨(some 3), .mv (.const (.bool false)), none⟩])
 (.ret)) (.skip)))
 (.seq (.reg [⟨(some 15), .ld (some 4) (.tmp 1), none⟩,
  ⟨(some 16), .call (.func 57) [(.tmp 15)], none⟩,
  ⟨(some 14), .mv (.tmp 16), none⟩,
  ⟨(some 17), .ext 0 (.tmp 14), none⟩,
  ⟨(some 18), .ext 1 (.tmp 14), none⟩,
  ⟨(some 5), .mv (.tmp 17), none⟩,
  ⟨(some 6), .mv (.tmp 18), none⟩])
 (.seq (.reg [⟨(some 19), .ld (some 4) (.tmp 1), none⟩,
  ⟨(some 20), .call (.func 59) [(.tmp 19)], none⟩,
  ⟨(some 7), .mv (.tmp 20), none⟩])
 (.seq (.seq (.reg [⟨(some 8), .mv (.const (.int .i64 0)), none⟩])
 (.block 0 (.loop (.seq (.seq (.reg [⟨(some 21), .mv (.tmp 8), none⟩,
  ⟨(some 22), .mv (.tmp 5), none⟩,
  ⟨(some 23), .len (.tmp 22), none⟩,
  ⟨(some 24), .bin .lss (.tmp 21) (.tmp 23), none⟩])
 (.cond (.tmp 24) (.skip) (.exit 0)))
 (.seq (.block 1 (.seq (.reg [⟨(some 27), .mv (.tmp 5), none⟩,
  ⟨(some 28), .mv (.tmp 8), none⟩,
  ⟨(some 29), .iad 1 (.tmp 27) (.tmp 28), none⟩,
  ⟨(some 30), .ld none (.tmp 29), none⟩,
  ⟨(some 31), .mv (.tmp 7), none⟩,
  ⟨(some 32), .mv (.tmp 8), none⟩,
  ⟨(some 33), .iad 1 (.tmp 31) (.tmp 32), none⟩,
  ⟨(some 34), .ld none (.tmp 33), none⟩,
  ⟨(some 35), .bin .add (.tmp 30) (.tmp 34), none⟩,
  ⟨(some 36), .mv (.tmp 7), none⟩,
  ⟨(some 37), .iad 1 (.tmp 36) (.const (.int .i64 0)), none⟩,
  ⟨(some 38), .ld none (.tmp 37), none⟩,
  ⟨(some 39), .bin .eql (.tmp 35) (.tmp 38), none⟩])
 (.cond (.tmp 39) (.reg [⟨(some 40), .mv (.tmp 4), none⟩,
  ⟨(some 41), .mv (.tmp 8), none⟩,
  ⟨(some 42), .bsl 3 1 1 [(.int .i64 0)] [(0, 1, (.tmp 41))], none⟩,
  ⟨(some 43), .app 3 1 8 (.tmp 40) (.tmp 42), none⟩,
  ⟨(some 4), .mv (.tmp 43), none⟩]) (.skip))))
 (.reg [⟨(some 25), .mv (.tmp 8), none⟩,
  ⟨(some 26), .bin .add (.tmp 25) (.const (.int .i64 1)), none⟩,
  ⟨(some 8), .mv (.tmp 26), none⟩]))))))
 (.seq (.reg [⟨(some 44), .mv (.tmp 4), none⟩,
  ⟨(some 2), .mv (.tmp 44), none⟩,
  ⟨(some 3), .mv (.const (.bool true)), none⟩])
 (.ret)))))))
def r_spec_TurningPeriods : List ARes := [.tmp 2, .tmp 3]
theorem ok_spec_TurningPeriods : FnOk Try.prog 38 45 c_spec_TurningPeriods r_spec_TurningPeriods := ⟨⟨Try.f38, _, Try.func38, by kernel_rfl, rfl, rfl, by kernel_rfl, by kernel_rfl⟩⟩
def c_impl_TurningPeriods : ACode := .seq (.reg [⟨(some 1), .box 28 (.tmp 0), none⟩,
  ⟨(some 2), .mv (.const (.slice none 0 0)), none⟩,
  ⟨(some 3), .mv (.const (.bool false)), none⟩])
 (.seq (.seq (.reg [⟨(some 10), .ld (some 4) (.tmp 1), none⟩,
  ⟨(some 11), .call (.func 50) [(.tmp 10)], none⟩,
  ⟨(some 12), .un .not (.tmp 11), none⟩])
 (.cond (.tmp 12) (.seq (.reg [⟨(some 13), .bsl 3 1 0 [] [], none⟩,
  ⟨(some 2), .mv (.tmp 13), none⟩,
  ⟨(some 3), .mv (.const (.bool false)), none⟩])
 (.ret)) (.skip)))
 (.seq (.reg [⟨(some 15), .ld (some 4) (.tmp 1), none⟩,
  ⟨(some 16), .call (.func 58) [(.tmp 15)], none⟩,
  ⟨(some 14), .mv (.tmp 16), none⟩,
  ⟨(some 17), .ext 0 (.tmp 14), none⟩,
  ⟨(some 18), .ext 1 (.tmp 14), none⟩,
  ⟨(some 4), .mv (.tmp 17), none⟩,
  ⟨(some 5), .mv (.tmp 18), none⟩])
 (.seq (.reg [⟨(some 19), .ld (some 4) (.tmp 1), none⟩,
  ⟨(some 20), .call (.func 60) [(.tmp 19)], none⟩,
  ⟨(some 6), .mv (.tmp 20), none⟩])
 (.seq (.reg [⟨(some 21), .mv (.tmp 6), none⟩,
  ⟨(some 22), .iad 1 (.tmp 21) (.const (.int .i64 0)), none⟩,
  ⟨(some 23), .ld none (.tmp 22), none⟩,
  ⟨(some 7), .alc 3 [(.int .i64 0)], none⟩,
  ⟨none, .st 1 (.tmp 7) (.tmp 23), none⟩])
 (.seq (.seq (.reg [⟨(some 24), .mv (.tmp 4), none⟩,
  ⟨(some 25), .len (.tmp 24), none⟩,
  ⟨(some 26), .mv (.const (.int .i64 0)), none⟩])
 (.block 0 (.loop (.seq (.reg [⟨(some 27), .bin .lss (.tmp 26) (.tmp 25), none⟩])
 (.seq (.cond (.tmp 27) (.skip) (.exit 0))
 (.seq (.block 1 (.seq (.reg [⟨(some 28), .mv (.tmp 26), none⟩,
  ⟨(some 29), .iad 1 (.tmp 24) (.tmp 26), none⟩,
  ⟨(some 30), .ld none (.tmp 29), none⟩,
  ⟨(some 8), .mv (.tmp 28), none⟩,
  ⟨(some 9), .mv (.tmp 30), none⟩])
 (.reg [⟨(some 31), .mv (.tmp 6), none⟩,
  ⟨(some 32), .mv (.tmp 8), none⟩,
  ⟨(some 33), .iad 1 (.tmp 31) (.tmp 32), none⟩,
  ⟨(some 34), .ld none (.tmp 33), none⟩,
  ⟨(some 35), .mv (.tmp 9), none⟩,
  ⟨(some 36), .bin .add (.tmp 34) (.tmp 35), none⟩,
  ⟨(some 37), .iad 1 (.tmp 31) (.tmp 32), none⟩,
  ⟨none, .st 1 (.tmp 37) (.tmp 36), none⟩])))
 (.reg [⟨(some 38), .bin .add (.tmp 26) (.const (.int .i64 1)), none⟩,
  ⟨(some 26), .mv (.tmp 38), none⟩])))))))
 (.seq (.reg [⟨(some 39), .mv (.tmp 6), none⟩,
  ⟨(some 40), .mkf 62 [] [(.tmp 7)], none⟩,
  ⟨(some 41), .call (.func 61) [(.tmp 39), (.tmp 40)], none⟩,
  ⟨(some 2), .mv (.tmp 41), none⟩,
  ⟨(some 3), .mv (.const (.bool true)), none⟩])
 (.ret)))))))
def r_impl_TurningPeriods : List ARes := [.tmp 2, .tmp 3]
theorem ok_impl_TurningPeriods : FnOk Try.prog 39 42 c_impl_TurningPeriods r_impl_TurningPeriods := ⟨⟨Try.f39, _, Try.func39, by kernel_rfl, rfl, rfl, by kernel_rfl, by kernel_rfl⟩⟩
def c_spec_HorizonsOf : ACode := .seq (.reg [⟨(some 1), .box 28 (.tmp 0), none⟩,
  ⟨(some 2), .mv (.const (.slice none 0 0)), none⟩,
  ⟨(some 3), .mv (.const (.bool false)), none⟩])
 (.seq (.reg [⟨(some 8), .bsl 3 1 0 [] [], none⟩,
  ⟨(some 4), .mv (.tmp 8), none⟩])
 (.seq (.seq (.reg [⟨(some 9), .ld (some 4) (.tmp 1), none⟩,
  ⟨(some 10), .call (.func 47) [(.tmp 9)], none⟩,
  ⟨(some 11), .un .not (.tmp 10), none⟩])
 (.cond (.tmp 11) (.seq (.reg [⟨(some 12), .mv (.tmp 4), none⟩,
  ⟨(some 2), .mv (.tmp 12), none⟩,
  ⟨(some 3), .mv (.const (.bool false)), none⟩])
 (.ret)) (.skip)))
 (.seq (.reg [⟨(some 14), .ld (some 4) (.tmp 1), none⟩,
  ⟨(some 15), .call (.func 57) [(.tmp 14)], none⟩,
  ⟨(some 13), .mv (.tmp 15), none⟩,
  ⟨(some 16), .ext 0 (.tmp 13), none⟩,
  ⟨(some 17), .ext 1 (.tmp 13), none⟩,
  ⟨(some 5), .mv (.tmp 16), none⟩,
  ⟨(some 6), .mv (.tmp 17), none⟩])
 (.seq (.seq (.reg [⟨(some 7), .mv (.const (.int .i64 1)), none⟩])
 (.block 0 (.loop (.seq (.seq (.reg [⟨(some 18), .mv (.tmp 7), none⟩,
  ⟨(some 19), .mv (.tmp 6), none⟩,
  ⟨(some 20), .len (.tmp 19), none⟩,
  ⟨(some 21), .bin .leq (.tmp 18) (.tmp 20), none⟩])
 (.cond (.tmp 21) (.skip) (.exit 0)))
 (.seq (.block 1 (.seq (.reg [⟨(some 24), .mv (.tmp 6), none⟩,
  ⟨(some 25), .mv (.tmp 7), none⟩,
  ⟨(some 26), .bin .sub (.tmp 25) (.const (.int .i64 1)), none⟩,
  ⟨(some 27), .iad 1 (.tmp 24) (.tmp 26), none⟩,
  ⟨(some 28), .ld none (.tmp 27), none⟩,
  ⟨(some 29), .mv (.tmp 7), none⟩,
  ⟨(some 30), .bin .sub (.tmp 29) (.const (.int .i64 1)), none⟩,
  ⟨(some 31), .bin .eql (.tmp 28) (.tmp 30), none⟩,
  ⟨(some 32), .mv (.tmp 31), none⟩,
  ⟨(some 33), .fad 0 (.tmp 1), (some (32, true))⟩,
  ⟨(some 34), .ld none (.tmp 33), (some (32, true))⟩,
  ⟨(some 35), .mv (.tmp 7), (some (32, true))⟩,
  ⟨(some 36), .bin .sub (.tmp 35) (.const (.int .i64 1)), (some (32, true))⟩,
  ⟨(some 37), .iad 1 (.tmp 34) (.tmp 36), (some (32, true))⟩,
  ⟨(some 38), .ld none (.tmp 37), (some (32, true))⟩,
  ⟨(some 39), .bin .gtr (.tmp 38) (.const (.int .i64 0)), (some (32, true))⟩,
  ⟨(some 40), .pick (.tmp 32) (.tmp 39) (.const (.bool false)), none⟩])
 (.cond (.tmp 40) (.reg [⟨(some 41), .mv (.tmp 4), none⟩,
  ⟨(some 42), .mv (.tmp 7), none⟩,
  ⟨(some 43), .bsl 3 1 1 [(.int .i64 0)] [(0, 1, (.tmp 42))], none⟩,
  ⟨(some 44), .app 3 1 8 (.tmp 41) (.tmp 43), none⟩,
  ⟨(some 4), .mv (.tmp 44), none⟩]) (.skip))))
 (.reg [⟨(some 22), .mv (.tmp 7), none⟩,
  ⟨(some 23), .bin .add (.tmp 22) (.const (.int .i64 1)), none⟩,
  ⟨(some 7), .mv (.tmp 23), none⟩]))))))
 (.seq (.reg [⟨(some 45), .mv (.tmp 4), none⟩,
  ⟨(some 2), .mv (.tmp 45), none⟩,
  ⟨(some 3), .mv (.const (.bool true)), none⟩])
 (.ret))))))
def r_spec_HorizonsOf : List ARes := [.tmp 2, .tmp 3]
theorem ok_spec_HorizonsOf : FnOk Try.prog 40 46 c_spec_HorizonsOf r_spec_HorizonsOf := ⟨⟨Try.f40, _, Try.func40, by kernel_rfl, rfl, rfl, by kernel_rfl, by kernel_rfl⟩⟩
def c_impl_HorizonsOf : ACode := .seq (.reg [⟨(some 1), .box 28 (.tmp 0), none⟩,
  ⟨(some 2), .mv (.const (.slice none 0 0)), none⟩,
  ⟨(some 3), .mv (.const (.bool false)), none⟩])
 (.seq (.seq (.reg [⟨(some 9), .ld (some 4) (.tmp 1), none⟩,
  ⟨(some 10), .call (.func 50) [(.tmp 9)], none⟩,
  ⟨(some 11), .un .not (.tmp 10), none⟩])
 (.cond (.tmp 11) (.seq (.reg [⟨(some 12), .bsl 3 1 0 [] [], none⟩,
  ⟨(some 2), .mv (.tmp 12), none⟩,
  ⟨(some 3), .mv (.const (.bool false)), none⟩])
 (.ret)) (.skip)))
 (.seq (.reg [⟨(some 14), .ld (some 4) (.tmp 1), none⟩,
  ⟨(some 15), .call (.func 58) [(.tmp 14)], none⟩,
  ⟨(some 13), .mv (.tmp 15), none⟩,
  ⟨(some 16), .ext 0 (.tmp 13), none⟩,
  ⟨(some 17), .ext 1 (.tmp 13), none⟩,
  ⟨(some 4), .mv (.tmp 16), none⟩,
  ⟨(some 5), .mv (.tmp 17), none⟩])
 (.seq (.reg [⟨(some 18), .bsl 3 1 0 [] [], none⟩,
  ⟨(some 6), .mv (.tmp 18), none⟩])
 (.seq (.seq (.reg [⟨(some 19), .mv (.tmp 5), none⟩,
  ⟨(some 20), .len (.tmp 19), none⟩,
  ⟨(some 21), .mv (.const (.int .i64 0)), none⟩])
 (.block 0 (.loop (.seq (.reg [⟨(some 22), .bin .lss (.tmp 21) (.tmp 20), none⟩])
 (.seq (.cond (.tmp 22) (.skip) (.exit 0))
 (.seq (.block 1 (.seq (.reg [⟨(some 23), .mv (.tmp 21), none⟩,
  ⟨(some 24), .iad 1 (.tmp 19) (.tmp 21), none⟩,
  ⟨(some 25), .ld none (.tmp 24), none⟩,
  ⟨(some 7), .mv (.tmp 23), none⟩,
  ⟨(some 8), .mv (.tmp 25), none⟩])
 (.seq (.reg [⟨(some 26), .mv (.tmp 8), none⟩,
  ⟨(some 27), .mv (.tmp 7), none⟩,
  ⟨(some 28), .bin .eql (.tmp 26) (.tmp 27), none⟩,
  ⟨(some 29), .mv (.tmp 28), none⟩,
  ⟨(some 30), .fad 0 (.tmp 1), (some (29, true))⟩,
  ⟨(some 31), .ld none (.tmp 30), (some (29, true))⟩,
  ⟨(some 32), .mv (.tmp 7), (some (29, true))⟩,
  ⟨(some 33), .iad 1 (.tmp 31) (.tmp 32), (some (29, true))⟩,
  ⟨(some 34), .ld none (.tmp 33), (some (29, true))⟩,
  ⟨(some 35), .bin .gtr (.tmp 34) (.const (.int .i64 0)), (some (29, true))⟩,
  ⟨(some 36), .pick (.tmp 29) (.tmp 35) (.const (.bool false)), none⟩])
 (.cond (.tmp 36) (.reg [⟨(some 37), .mv (.tmp 6), none⟩,
  ⟨(some 38), .mv (.tmp 7), none⟩,
  ⟨(some 39), .bin .add (.tmp 38) (.const (.int .i64 1)), none⟩,
  ⟨(some 40), .bsl 3 1 1 [(.int .i64 0)] [(0, 1, (.tmp 39))], none⟩,
  ⟨(some 41), .app 3 1 8 (.tmp 37) (.tmp 40), none⟩,
  ⟨(some 6), .mv (.tmp 41), none⟩]) (.skip)))))
 (.reg [⟨(some 42), .bin .add (.tmp 21) (.const (.int .i64 1)), none⟩,
  ⟨(some 21), .mv (.tmp 42), none⟩])))))))
 (.seq (.reg [⟨(some 43), .mv (.tmp 6), none⟩,
  ⟨(some 2), .mv (.tmp 43), none⟩,
  ⟨(some 3), .mv (.const (.bool true)), none⟩])
 (.ret))))))
def r_impl_HorizonsOf : List ARes := [.tmp 2, .tmp 3]
theorem ok_impl_HorizonsOf : FnOk Try.prog 41 44 c_impl_HorizonsOf r_impl_HorizonsOf := ⟨⟨Try.f41, _, Try.func41, by kernel_rfl, rfl, rfl, by kernel_rfl, by kernel_rfl⟩⟩
def c_spec_l2Two : ACode := .seq (.reg [⟨(some 2), .box 28 (.tmp 0), none⟩,
  ⟨(some 4), .mv (.const (.bool false)), none⟩])
 (.seq (.reg [⟨(some 5), .ld (some 4) (.tmp 2), none⟩,
  ⟨(some 6), .call (.func 47) [(.tmp 5)], none⟩,
  ⟨(some 7), .mv (.tmp 6), none⟩,
  ⟨(some 8), .ld (some 4) (.tmp 2), (some (7, true))⟩,
  ⟨(some 9), .mv (.tmp 1), (some (7, true))⟩,
  ⟨(some 10), .call (.func 63) [(.tmp 8), (.tmp 9)], (some (7, true))⟩,
  ⟨(some 11), .pick (.tmp 7) (.tmp 10) (.const (.bool false)), none⟩,
  ⟨(some 4), .mv (.tmp 11), none⟩])
 (.ret))
def r_spec_l2Two : List ARes := [.tmp 4]
theorem ok_spec_l2Two : FnOk Try.prog 43 12 c_spec_l2Two r_spec_l2Two := ⟨⟨Try.f43, _, Try.func43, by kernel_rfl, rfl, rfl, by kernel_rfl, by kernel_rfl⟩⟩
def c_spec_l2Early : ACode := .seq (.reg [⟨(some 2), .box 28 (.tmp 0), none⟩,
  ⟨(some 4), .mv (.const (.int .i64 0)), none⟩])
 (.seq (.reg [⟨(some 7), .ld (some 4) (.tmp 2), none⟩,
  ⟨(some 8), .mv (.tmp 1), none⟩,
  ⟨(some 9), .call (.func 64) [(.tmp 7), (.tmp 8)], none⟩,
  ⟨(some 5), .mv (.tmp 9), none⟩])
 (.seq (.seq (.reg [⟨(some 6), .mv (.const (.int .i64 1)), none⟩])
 (.block 0 (.loop (.seq (.seq (.reg [⟨(some 10), .mv (.tmp 6), none⟩,
  ⟨(some 11), .mv (.tmp 1), none⟩,
  ⟨(some 12), .len (.tmp 11), none⟩,
  ⟨(some 13), .bin .lss (.tmp 10) (.tmp 12), none⟩])
 (.cond (.tmp 13) (.skip) (.exit 0)))
 (.seq (.block 1 (.seq (.reg [⟨(some 16), .mv (.tmp 1), none⟩,
  ⟨(some 17), .mv (.tmp 6), none⟩,
  ⟨(some 18), .iad 1 (.tmp 16) (.tmp 17), none⟩,
  ⟨(some 19), .ld none (.tmp 18), none⟩,
  ⟨(some 20), .bin .gtr (.tmp 19) (.const (.int .i64 0)), none⟩,
  ⟨(some 21), .mv (.tmp 20), none⟩,
  ⟨(some 22), .mv (.tmp 5), (some (21, true))⟩,
  ⟨(some 23), .mv (.tmp 6), (some (21, true))⟩,
  ⟨(some 24), .bin .sub (.tmp 23) (.const (.int .i64 1)), (some (21, true))⟩,
  ⟨(some 25), .iad 1 (.tmp 22) (.tmp 24), (some (21, true))⟩,
  ⟨(some 26), .ld none (.tmp 25), (some (21, true))⟩,
  ⟨(some 27), .bin .gtr (.tmp 26) (.const (.int .i64 0)), (some (21, true))⟩,
  ⟨(some 28), .pick (.tmp 21) (.tmp 27) (.const (.bool false)), none⟩])
 (.cond (.tmp 28) (.seq (.reg [⟨(some 29), .mv (.tmp 6), none⟩,
  ⟨(some 4), .mv (.tmp 29), none⟩])
 (.ret)) (.skip))))
 (.reg [⟨(some 14), .mv (.tmp 6), none⟩,
  ⟨(some 15), .bin .add (.tmp 14) (.const (.int .i64 1)), none⟩,
  ⟨(some 6), .mv (.tmp 15), none⟩]))))))
 (.seq (.reg [⟨(some 4), .mv (.const (.int .i64 (-1))), none⟩])
 (.ret))))
def r_spec_l2Early : List ARes := [.tmp 4]
theorem ok_spec_l2Early : FnOk Try.prog 44 30 c_spec_l2Early r_spec_l2Early := ⟨⟨Try.f44, _, Try.func44, by kernel_rfl, rfl, rfl, by kernel_rfl, by kernel_rfl⟩⟩
def c_impl_StocksOf : ACode := .seq (.reg [⟨(some 2), .box 28 (.tmp 0), none⟩,
  ⟨(some 4), .mv (.const (.slice none 0 0)), none⟩,
  ⟨(some 5), .mv (.const (.bool false)), none⟩])
 (.seq (.seq (.reg [⟨(some 6), .ld (some 4) (.tmp 2), none⟩,
  ⟨(some 7), .call (.func 50) [(.tmp 6)], none⟩,
  ⟨(some 8), .un .not (.tmp 7), none⟩])
 (.cond (.tmp 8) (.seq (.reg [⟨(some 9), .bsl 3 1 0 [] [], none⟩,
  ⟨(some 4), .mv (.tmp 9), none⟩,
  ⟨(some 5), .mv (.const (.bool false)), none⟩])
 (.ret)) (.skip)))
 (.seq (.reg [⟨(some 10), .fad 0 (.tmp 2), none⟩,
  ⟨(some 11), .ld none (.tmp 10), none⟩,
  ⟨(some 12), .mv (.tmp 1), none⟩,
  ⟨(some 13), .call (.func 65) [(.tmp 11), (.tmp 12)], none⟩,
  ⟨(some 14), .ext 0 (.tmp 13), none⟩,
  ⟨(some 15), .ext 1 (.tmp 13), none⟩,
  ⟨(some 4), .mv (.tmp 14), none⟩,
  ⟨(some 5), .mv (.tmp 15), none⟩])
 (.ret)))
def r_impl_StocksOf : List ARes := [.tmp 4, .tmp 5]
theorem ok_impl_StocksOf : FnOk Try.prog 45 16 c_impl_StocksOf r_impl_StocksOf := ⟨⟨Try.f45, _, Try.func45, by kernel_rfl, rfl, rfl, by kernel_rfl, by kernel_rfl⟩⟩
def c_impl_firstEarly : ACode := .seq (.reg [⟨(some 4), .mv (.const (.int .i64 0)), none⟩,
  ⟨(some 5), .mv (.const (.bool false)), none⟩])
 (.seq (.seq (.reg [⟨(some 6), .mv (.const (.int .i64 1)), none⟩])
 (.block 0 (.loop (.seq (.seq (.reg [⟨(some 7), .mv (.tmp 6), none⟩,
  ⟨(some 8), .mv (.tmp 0), none⟩,
  ⟨(some 9), .len (.tmp 8), none⟩,
  ⟨(some 10), .bin .lss (.tmp 7) (.tmp 9), none⟩])
 (.cond (.tmp 10) (.skip) (.exit 0)))
 (.seq (.block 1 (.seq (.reg [⟨(some 13), .mv (.tmp 0), none⟩,
  ⟨(some 14), .mv (.tmp 6), none⟩,
  ⟨(some 15), .iad 1 (.tmp 13) (.tmp 14), none⟩,
  ⟨(some 16), .ld none (.tmp 15), none⟩,
  ⟨(some 17), .bin .gtr (.tmp 16) (.const (.int .i64 0)), none⟩,
  ⟨(some 18), .mv (.tmp 17), none⟩,
  ⟨(some 19), .mv (.tmp 1), (some (18, true))⟩,
  ⟨(some 20), .mv (.tmp 6), (some (18, true))⟩,
  ⟨(some 21), .bin .sub (.tmp 20) (.const (.int .i64 1)), (some (18, true))⟩,
  ⟨(some 22), .iad 1 (.tmp 19) (.tmp 21), (some (18, true))⟩,
  ⟨(some 23), .ld none (.tmp 22), (some (18, true))⟩,
  ⟨(some 24), .bin .gtr (.tmp 23) (.const (.int .i64 0)), (some (18, true))⟩,
  ⟨(some 25), .pick (.tmp 18) (.tmp 24) (.const (.bool false)), none⟩])
 (.cond (.tmp 25) (.seq (.reg [⟨(some 26), .mv (.tmp 6), none⟩,
  ⟨(some 4), .mv (.tmp 26), none⟩,
  ⟨(some 5), .mv (.const (.bool true)), none⟩])
 (.ret)) (.skip))))
 (.reg [⟨(some 11), .mv (.tmp 6), none⟩,
  ⟨(some 12), .bin .add (.tmp 11) (.const (.int .i64 1)), none⟩,
  ⟨(some 6), .mv (.tmp 12), none⟩]))))))
 (.seq (.reg [⟨(some 4), .mv (.const (.int .i64 0)), none⟩,
  ⟨(some 5), .mv (.const (.bool false)), none⟩])
 (.ret)))
def r_impl_firstEarly : List ARes := [.tmp 4, .tmp 5]
theorem ok_impl_firstEarly : FnOk Try.prog 46 27 c_impl_firstEarly r_impl_firstEarly := ⟨⟨Try.f46, _, Try.func46, by kernel_rfl, rfl, rfl, by kernel_rfl, by kernel_rfl⟩⟩
def c_spec_l2Good : ACode := .seq (.reg [⟨(some 1), .box 28 (.tmp 0), none⟩,
  ⟨(some 2), .mv (.const (.bool false)), none⟩])
 (.seq (.reg [⟨(some 4), .fad 0 (.tmp 1), none⟩,
  ⟨(some 5), .ld none (.tmp 4), none⟩,
  ⟨(some 6), .len (.tmp 5), none⟩,
  ⟨(some 3), .mv (.tmp 6), none⟩])
 (.seq (.reg [⟨(some 7), .mv (.tmp 3), none⟩,
  ⟨(some 8), .bin .leq (.tmp 7) (.const (.int .i64 8)), none⟩,
  ⟨(some 9), .mv (.tmp 8), none⟩,
  ⟨(some 10), .fad 0 (.tmp 1), (some (9, true))⟩,
  ⟨(some 11), .ld none (.tmp 10), (some (9, true))⟩,
  ⟨(some 12), .mv (.tmp 3), (some (9, true))⟩,
  ⟨(some 13), .call (.func 66) [(.tmp 11), (.tmp 12), (.const (.int .i64 20))], (some (9, true))⟩,
  ⟨(some 14), .pick (.tmp 9) (.tmp 13) (.const (.bool false)), none⟩,
  ⟨(some 15), .mv (.tmp 14), none⟩,
  ⟨(some 16), .fad 1 (.tmp 1), (some (15, true))⟩,
  ⟨(some 17), .ld none (.tmp 16), (some (15, true))⟩,
  ⟨(some 18), .mv (.tmp 3), (some (15, true))⟩,
  ⟨(some 19), .call (.func 66) [(.tmp 17), (.tmp 18), (.const (.int .i64 99))], (some (15, true))⟩,
  ⟨(some 20), .pick (.tmp 15) (.tmp 19) (.const (.bool false)), none⟩,
  ⟨(some 21), .mv (.tmp 20), none⟩,
  ⟨(some 22), .fad 2 (.tmp 1), (some (21, true))⟩,
  ⟨(some 23), .ld none (.tmp 22), (some (21, true))⟩,
  ⟨(some 24), .mv (.tmp 3), (some (21, true))⟩,
  ⟨(some 25), .call (.func 66) [(.tmp 23), (.tmp 24), (.const (.int .i64 9))], (some (21, true))⟩,
  ⟨(some 26), .pick (.tmp 21) (.tmp 25) (.const (.bool false)), none⟩,
  ⟨(some 27), .mv (.tmp 26), none⟩,
  ⟨(some 28), .fad 3 (.tmp 1), (some (27, true))⟩,
  ⟨(some 29), .ld none (.tmp 28), (some (27, true))⟩,
  ⟨(some 30), .mv (.tmp 3), (some (27, true))⟩,
  ⟨(some 31), .call (.func 66) [(.tmp 29), (.tmp 30), (.const (.int .i64 9))], (some (27, true))⟩,
  ⟨(some 32), .pick (.tmp 27) (.tmp 31) (.const (.bool false)), none⟩,
  ⟨(some 2), .mv (.tmp 32), none⟩])
 (.ret)))
def r_spec_l2Good : List ARes := [.tmp 2]
theorem ok_spec_l2Good : FnOk Try.prog 47 33 c_spec_l2Good r_spec_l2Good := ⟨⟨Try.f47, _, Try.func47, by kernel_rfl, rfl, rfl, by kernel_rfl, by kernel_rfl⟩⟩
def c_spec_l1In : ACode := .seq (.reg [⟨(some 6), .mv (.const (.bool false)), none⟩])
 (.seq (.reg [⟨(some 7), .mv (.tmp 0), none⟩,
  ⟨(some 8), .mv (.tmp 1), none⟩,
  ⟨(some 9), .bin .geq (.tmp 7) (.tmp 8), none⟩,
  ⟨(some 10), .mv (.tmp 9), none⟩,
  ⟨(some 11), .mv (.tmp 0), (some (10, true))⟩,
  ⟨(some 12), .mv (.tmp 2), (some (10, true))⟩,
  ⟨(some 13), .bin .leq (.tmp 11) (.tmp 12), (some (10, true))⟩,
  ⟨(some 14), .pick (.tmp 10) (.tmp 13) (.const (.bool false)), none⟩,
  ⟨(some 6), .mv (.tmp 14), none⟩])
 (.ret))
def r_spec_l1In : List ARes := [.tmp 6]
theorem ok_spec_l1In : FnOk Try.prog 48 15 c_spec_l1In r_spec_l1In := ⟨⟨Try.f48, _, Try.func48, by kernel_rfl, rfl, rfl, by kernel_rfl, by kernel_rfl⟩⟩
def c_spec_l1Own : ACode := .seq (.reg [⟨(some 2), .mv (.const (.slice none 0 0)), none⟩])
 (.seq (.reg [⟨(some 3), .bsl 3 1 0 [] [], none⟩,
  ⟨(some 4), .mv (.tmp 0), none⟩,
  ⟨(some 5), .app 3 1 8 (.tmp 3) (.tmp 4), none⟩,
  ⟨(some 2), .mv (.tmp 5), none⟩])
 (.ret))
def r_spec_l1Own : List ARes := [.tmp 2]
theorem ok_spec_l1Own : FnOk Try.prog 49 6 c_spec_l1Own r_spec_l1Own := ⟨⟨Try.f49, _, Try.func49, by kernel_rfl, rfl, rfl, by kernel_rfl, by kernel_rfl⟩⟩
def c_impl_IsCase : ACode := .seq (.reg [⟨(some 1), .box 28 (.tmp 0), none⟩,
  ⟨(some 2), .mv (.const (.bool false)), none⟩])
 (.seq (.reg [⟨(some 4), .fad 0 (.tmp 1), none⟩,
  ⟨(some 5), .ld none (.tmp 4), none⟩,
  ⟨(some 6), .len (.tmp 5), none⟩,
  ⟨(some 3), .mv (.tmp 6), none⟩])
 (.seq (.reg [⟨(some 7), .mv (.tmp 3), none⟩,
  ⟨(some 8), .bin .leq (.tmp 7) (.const (.int .i64 8)), none⟩,
  ⟨(some 9), .mv (.tmp 8), none⟩,
  ⟨(some 10), .fad 0 (.tmp 1), (some (9, true))⟩,
  ⟨(some 11), .ld none (.tmp 10), (some (9, true))⟩,
  ⟨(some 12), .mv (.tmp 3), (some (9, true))⟩,
  ⟨(some 13), .call (.func 67) [(.tmp 11), (.tmp 12), (.const (.int .i64 20))], (some (9, true))⟩,
  ⟨(some 14), .pick (.tmp 9) (.tmp 13) (.const (.bool false)), none⟩,
  ⟨(some 15), .mv (.tmp 14), none⟩,
  ⟨(some 16), .fad 1 (.tmp 1), (some (15, true))⟩,
  ⟨(some 17), .ld none (.tmp 16), (some (15, true))⟩,
  ⟨(some 18), .mv (.tmp 3), (some (15, true))⟩,
  ⟨(some 19), .call (.func 67) [(.tmp 17), (.tmp 18), (.const (.int .i64 99))], (some (15, true))⟩,
  ⟨(some 20), .pick (.tmp 15) (.tmp 19) (.const (.bool false)), none⟩,
  ⟨(some 21), .mv (.tmp 20), none⟩,
  ⟨(some 22), .fad 2 (.tmp 1), (some (21, true))⟩,
  ⟨(some 23), .ld none (.tmp 22), (some (21, true))⟩,
  ⟨(some 24), .mv (.tmp 3), (some (21, true))⟩,
  ⟨(some 25), .call (.func 67) [(.tmp 23), (.tmp 24), (.const (.int .i64 9))], (some (21, true))⟩,
  ⟨(some 26), .pick (.tmp 21) (.tmp 25) (.const (.bool false)), none⟩,
  ⟨(some 27), .mv (.tmp 26), none⟩,
  ⟨(some 28), .fad 3 (.tmp 1), (some (27, true))⟩,
  ⟨(some 29), .ld none (.tmp 28), (some (27, true))⟩,
  ⟨(some 30), .mv (.tmp 3), (some (27, true))⟩,
  ⟨(some 31), .call (.func 67) [(.tmp 29), (.tmp 30), (.const (.int .i64 9))], (some (27, true))⟩,
  ⟨(some 32), .pick (.tmp 27) (.tmp 31) (.const (.bool false)), none⟩,
  ⟨(some 2), .mv (.tmp 32), none⟩])
 (.ret)))
def r_impl_IsCase : List ARes := [.tmp 2]
theorem ok_impl_IsCase : FnOk Try.prog 50 33 c_impl_IsCase r_impl_IsCase := ⟨⟨Try.f50, _, Try.func50, by kernel_rfl, rfl, rfl, by kernel_rfl, by kernel_rfl⟩⟩
def c_impl_CutCase_1 : ACode := .seq (.reg [⟨(some 4), .mv (.const (.slice none 0 0)), none⟩])
 (.seq (.reg [⟨(some 5), .bsl 3 1 0 [] [], none⟩,
  ⟨(some 6), .mv (.tmp 0), none⟩,
  ⟨(some 7), .ld none (.tmp 1), none⟩,
  ⟨(some 8), .ld none (.tmp 2), none⟩,
  ⟨(some 9), .slc 1 (.tmp 6) (some (.tmp 7)) (some (.tmp 8)), none⟩,
  ⟨(some 10), .app 3 1 8 (.tmp 5) (.tmp 9), none⟩,
  ⟨(some 4), .mv (.tmp 10), none⟩])
 (.ret))
def r_impl_CutCase_1 : List ARes := [.tmp 4]
theorem ok_impl_CutCase_1 : FnOk Try.prog 51 11 c_impl_CutCase_1 r_impl_CutCase_1 := ⟨⟨Try.f51, _, Try.func51, by kernel_rfl, rfl, rfl, by kernel_rfl, by kernel_rfl⟩⟩
def c_spec_l3Rate : ACode := .seq (.reg [⟨(some 3), .box 28 (.tmp 0), none⟩,
  ⟨(some 6), .mv (.const (.int .i64 0)), none⟩])
 (.seq (.reg [⟨(some 9), .fad 2 (.tmp 3), none⟩,
  ⟨(some 10), .ld none (.tmp 9), none⟩,
  ⟨(some 11), .mv (.tmp 1), none⟩,
  ⟨(some 12), .iad 1 (.tmp 10) (.tmp 11), none⟩,
  ⟨(some 13), .ld none (.tmp 12), none⟩,
  ⟨(some 7), .mv (.tmp 13), none⟩])
 (.seq (.seq (.reg [⟨(some 14), .mv (.tmp 1), none⟩,
  ⟨(some 8), .mv (.tmp 14), none⟩])
 (.block 0 (.loop (.seq (.seq (.reg [⟨(some 15), .mv (.tmp 8), none⟩,
  ⟨(some 16), .mv (.tmp 2), none⟩,
  ⟨(some 17), .bin .lss (.tmp 15) (.tmp 16), none⟩])
 (.cond (.tmp 17) (.skip) (.exit 0)))
 (.seq (.block 1 (.reg [⟨(some 20), .mv (.tmp 7), none⟩,
  ⟨(some 21), .fad 3 (.tmp 3), none⟩,
  ⟨(some 22), .ld none (.tmp 21), none⟩,
  ⟨(some 23), .mv (.tmp 8), none⟩,
  ⟨(some 24), .iad 1 (.tmp 22) (.tmp 23), none⟩,
  ⟨(some 25), .ld none (.tmp 24), none⟩,
  ⟨(some 26), .bin .add (.tmp 20) (.tmp 25), none⟩,
  ⟨(some 7), .mv (.tmp 26), none⟩]))
 (.reg [⟨(some 18), .mv (.tmp 8), none⟩,
  ⟨(some 19), .bin .add (.tmp 18) (.const (.int .i64 1)), none⟩,
  ⟨(some 8), .mv (.tmp 19), none⟩]))))))
 (.seq (.reg [⟨(some 27), .mv (.tmp 7), none⟩,
  ⟨(some 6), .mv (.tmp 27), none⟩])
 (.ret))))
def r_spec_l3Rate : List ARes := [.tmp 6]
theorem ok_spec_l3Rate : FnOk Try.prog 52 28 c_spec_l3Rate r_spec_l3Rate := ⟨⟨Try.f52, _, Try.func52, by kernel_rfl, rfl, rfl, by kernel_rfl, by kernel_rfl⟩⟩
def c_impl_rateFrom : ACode := .seq (.reg [⟨(some 3), .box 28 (.tmp 0), none⟩,
  ⟨(some 6), .mv (.const (.int .i64 0)), none⟩])
 (.seq (.reg [⟨(some 7), .fad 2 (.tmp 3), none⟩,
  ⟨(some 8), .ld none (.tmp 7), none⟩,
  ⟨(some 9), .mv (.tmp 1), none⟩,
  ⟨(some 10), .iad 1 (.tmp 8) (.tmp 9), none⟩,
  ⟨(some 11), .ld none (.tmp 10), none⟩,
  ⟨(some 12), .fad 3 (.tmp 3), none⟩,
  ⟨(some 13), .ld none (.tmp 12), none⟩,
  ⟨(some 14), .mv (.tmp 1), none⟩,
  ⟨(some 15), .mv (.tmp 2), none⟩,
  ⟨(some 16), .slc 1 (.tmp 13) (some (.tmp 14)) (some (.tmp 15)), none⟩,
  ⟨(some 17), .rcall (.func 68) [(.tmp 16)], none⟩,
  ⟨(some 18), .bin .add (.tmp 11) (.tmp 17), none⟩,
  ⟨(some 6), .mv (.tmp 18), none⟩])
 (.ret))
def r_impl_rateFrom : List ARes := [.tmp 6]
theorem ok_impl_rateFrom : FnOk Try.prog 53 19 c_impl_rateFrom r_impl_rateFrom := ⟨⟨Try.f53, _, Try.func53, by kernel_rfl, rfl, rfl, by kernel_rfl, by kernel_rfl⟩⟩
def c_spec_l3Ends : ACode := .seq (.reg [⟨(some 3), .box 28 (.tmp 0), none⟩,
  ⟨(some 6), .mv (.const (.bool false)), none⟩])
 (.seq (.reg [⟨(some 7), .ld (some 4) (.tmp 3), none⟩,
  ⟨(some 8), .call (.func 47) [(.tmp 7)], none⟩,
  ⟨(some 9), .mv (.tmp 8), none⟩,
  ⟨(some 10), .mv (.tmp 1), (some (9, true))⟩,
  ⟨(some 11), .mv (.tmp 2), (some (9, true))⟩,
  ⟨(some 12), .bin .sub (.tmp 11) (.const (.int .i64 1)), (some (9, true))⟩,
  ⟨(some 13), .call (.func 48) [(.tmp 10), (.const (.int .i64 0)), (.tmp 12)], (some (9, true))⟩,
  ⟨(some 14), .pick (.tmp 9) (.tmp 13) (.const (.bool false)), none⟩,
  ⟨(some 15), .mv (.tmp 14), none⟩,
  ⟨(some 16), .mv (.tmp 2), (some (15, true))⟩,
  ⟨(some 17), .fad 0 (.tmp 3), (some (15, true))⟩,
  ⟨(some 18), .ld none (.tmp 17), (some (15, true))⟩,
  ⟨(some 19), .len (.tmp 18), (some (15, true))⟩,
  ⟨(some 20), .call (.func 48) [(.tmp 16), (.const (.int .i64 1)), (.tmp 19)], (some (15, true))⟩,
  ⟨(some 21), .pick (.tmp 15) (.tmp 20) (.const (.bool false)), none⟩,
  ⟨(some 6), .mv (.tmp 21), none⟩])
 (.ret))
def r_spec_l3Ends : List ARes := [.tmp 6]
theorem ok_spec_l3Ends : FnOk Try.prog 54 22 c_spec_l3Ends r_spec_l3Ends := ⟨⟨Try.f54, _, Try.func54, by kernel_rfl, rfl, rfl, by kernel_rfl, by kernel_rfl⟩⟩
def c_spec_l3Span : ACode := .seq (.reg [⟨(some 3), .box 28 (.tmp 0), none⟩,
  ⟨(some 6), .mv (.const (.int .i64 0)), none⟩])
 (.seq (.reg [⟨(some 7), .mv (.const (.int .i64 0)), none⟩,
  ⟨(some 8), .mv (.const (.bool false)), none⟩])
 (.seq (.seq (.reg [⟨(some 10), .mv (.tmp 1), none⟩,
  ⟨(some 9), .mv (.tmp 10), none⟩])
 (.block 0 (.loop (.seq (.seq (.reg [⟨(some 11), .mv (.tmp 9), none⟩,
  ⟨(some 12), .mv (.tmp 2), none⟩,
  ⟨(some 13), .bin .lss (.tmp 11) (.tmp 12), none⟩])
 (.cond (.tmp 13) (.skip) (.exit 0)))
 (.seq (.block 1 (.seq (.reg [⟨(some 16), .mv (.tmp 7), none⟩,
  ⟨(some 17), .fad 0 (.tmp 3), none⟩,
  ⟨(some 18), .ld none (.tmp 17), none⟩,
  ⟨(some 19), .mv (.tmp 9), none⟩,
  ⟨(some 20), .iad 1 (.tmp 18) (.tmp 19), none⟩,
  ⟨(some 21), .ld none (.tmp 20), none⟩,
  ⟨(some 22), .ld (some 4) (.tmp 3), none⟩,
  ⟨(some 23), .mv (.tmp 1), none⟩,
  ⟨(some 24), .mv (.tmp 9), none⟩,
  ⟨(some 25), .rcall (.func 52) [(.tmp 22), (.tmp 23), (.tmp 24)], none⟩,
  ⟨(some 26), .bin .mul (.tmp 21) (.tmp 25), none⟩,
  ⟨(some 27), .bin .add (.tmp 16) (.tmp 26), none⟩,
  ⟨(some 7), .mv (.tmp 27), none⟩])
 (.reg [⟨(some 28), .mv (.tmp 8), none⟩,
  ⟨(some 29), .mv (.tmp 28), none⟩,
  ⟨(some 30), .fad 0 (.tmp 3), (some (29, false))⟩,
  ⟨(some 31), .ld none (.tmp 30), (some (29, false))⟩,
  ⟨(some 32), .mv (.tmp 9), (some (29, false))⟩,
  ⟨(some 33), .iad 1 (.tmp 31) (.tmp 32), (some (29, false))⟩,
  ⟨(some 34), .ld none (.tmp 33), (some (29, false))⟩,
  ⟨(some 35), .bin .gtr (.tmp 34) (.const (.int .i64 0)), (some (29, false))⟩,
  ⟨(some 36), .pick (.tmp 29) (.const (.bool true)) (.tmp 35), none⟩,
  ⟨(some 8), .mv (.tmp 36), none⟩])))
 (.reg [⟨(some 14), .mv (.tmp 9), none⟩,
  ⟨(some 15), .bin .add (.tmp 14) (.const (.int .i64 1)), none⟩,
  ⟨(some 9), .mv (.tmp 15), none⟩]))))))
 (.seq (.seq (.reg [⟨(some 37), .mv (.tmp 8), none⟩,
  ⟨(some 38), .un .not (.tmp 37), none⟩])
 (.cond (.tmp 38) (.seq (.reg [⟨(some 6), .mv (.const (.int .i64 0)), none⟩])
 (.ret)) (.skip)))
 (.seq (.reg [⟨(some 39), .fad 1 (.tmp 3), none⟩,
  ⟨(some 40), .ld none (.tmp 39), none⟩,
  ⟨(some 41), .mv (.tmp 1), none⟩,
  ⟨(some 42), .iad 1 (.tmp 40) (.tmp 41), none⟩,
  ⟨(some 43), .ld none (.tmp 42), none⟩,
  ⟨(some 44), .mv (.tmp 7), none⟩,
  ⟨(some 45), .bin .add (.tmp 43) (.tmp 44), none⟩,
  ⟨(some 6), .mv (.tmp 45), none⟩])
 (.ret)))))
def r_spec_l3Span : List ARes := [.tmp 6]
theorem ok_spec_l3Span : FnOk Try.prog 55 46 c_spec_l3Span r_spec_l3Span := ⟨⟨Try.f55, _, Try.func55, by kernel_rfl, rfl, rfl, by kernel_rfl, by kernel_rfl⟩⟩
def c_impl_orderCost : ACode := .seq (.reg [⟨(some 3), .box 28 (.tmp 0), none⟩,
  ⟨(some 6), .mv (.const (.int .i64 0)), none⟩])
 (.seq (.reg [⟨(some 10), .fad 0 (.tmp 3), none⟩,
  ⟨(some 11), .ld none (.tmp 10), none⟩,
  ⟨(some 12), .mv (.tmp 1), none⟩,
  ⟨(some 13), .mv (.tmp 2), none⟩,
  ⟨(some 14), .slc 1 (.tmp 11) (some (.tmp 12)) (some (.tmp 13)), none⟩,
  ⟨(some 15), .call (.func 68) [(.tmp 14)], none⟩,
  ⟨(some 7), .mv (.tmp 15), none⟩])
 (.seq (.seq (.reg [⟨(some 16), .mv (.tmp 7), none⟩,
  ⟨(some 17), .bin .eql (.tmp 16) (.const (.int .i64 0)), none⟩])
 (.cond (.tmp 17) (.seq (.reg [⟨(some 6), .mv (.const (.int .i64 0)), none⟩])
 (.ret)) (.skip)))
 (.seq (.reg [⟨(some 18), .fad 1 (.tmp 3), none⟩,
  ⟨(some 19), .ld none (.tmp 18), none⟩,
  ⟨(some 20), .mv (.tmp 1), none⟩,
  ⟨(some 21), .iad 1 (.tmp 19) (.tmp 20), none⟩,
  ⟨(some 22), .ld none (.tmp 21), none⟩,
  ⟨(some 23), .fad 2 (.tmp 3), none⟩,
  ⟨(some 24), .ld none (.tmp 23), none⟩,
  ⟨(some 25), .mv (.tmp 1), none⟩,
  ⟨(some 26), .iad 1 (.tmp 24) (.tmp 25), none⟩,
  ⟨(some 27), .ld none (.tmp 26), none⟩,
  ⟨(some 28), .mv (.tmp 7), none⟩,
  ⟨(some 29), .bin .mul (.tmp 27) (.tmp 28), none⟩,
  ⟨(some 30), .bin .add (.tmp 22) (.tmp 29), none⟩,
  ⟨(some 8), .mv (.tmp 30), none⟩])
 (.seq (.seq (.reg [⟨(some 31), .mv (.tmp 1), none⟩,
  ⟨(some 9), .mv (.tmp 31), none⟩])
 (.block 0 (.loop (.seq (.seq (.reg [⟨(some 32), .mv (.tmp 9), none⟩,
  ⟨(some 33), .mv (.tmp 2), none⟩,
  ⟨(some 34), .bin .lss (.tmp 32) (.tmp 33), none⟩])
 (.cond (.tmp 34) (.skip) (.exit 0)))
 (.seq (.block 1 (.seq (.reg [⟨(some 37), .mv (.tmp 7), none⟩,
  ⟨(some 38), .fad 0 (.tmp 3), none⟩,
  ⟨(some 39), .ld none (.tmp 38), none⟩,
  ⟨(some 40), .mv (.tmp 9), none⟩,
  ⟨(some 41), .iad 1 (.tmp 39) (.tmp 40), none⟩,
  ⟨(some 42), .ld none (.tmp 41), none⟩,
  ⟨(some 43), .bin .sub (.tmp 37) (.tmp 42), none⟩,
  ⟨(some 7), .mv (.tmp 43), none⟩])
 (.reg [⟨(some 44), .mv (.tmp 8), none⟩,
  ⟨(some 45), .fad 3 (.tmp 3), none⟩,
  ⟨(some 46), .ld none (.tmp 45), none⟩,
  ⟨(some 47), .mv (.tmp 9), none⟩,
  ⟨(some 48), .iad 1 (.tmp 46) (.tmp 47), none⟩,
  ⟨(some 49), .ld none (.tmp 48), none⟩,
  ⟨(some 50), .mv (.tmp 7), none⟩,
  ⟨(some 51), .bin .mul (.tmp 49) (.tmp 50), none⟩,
  ⟨(some 52), .bin .add (.tmp 44) (.tmp 51), none⟩,
  ⟨(some 8), .mv (.tmp 52), none⟩])))
 (.reg [⟨(some 35), .mv (.tmp 9), none⟩,
  ⟨(some 36), .bin .add (.tmp 35) (.const (.int .i64 1)), none⟩,
  ⟨(some 9), .mv (.tmp 36), none⟩]))))))
 (.seq (.reg [⟨(some 53), .mv (.tmp 8), none⟩,
  ⟨(some 6), .mv (.tmp 53), none⟩])
 (.ret))))))
def r_impl_orderCost : List ARes := [.tmp 6]
theorem ok_impl_orderCost : FnOk Try.prog 56 54 c_impl_orderCost r_impl_orderCost := ⟨⟨Try.f56, _, Try.func56, by kernel_rfl, rfl, rfl, by kernel_rfl, by kernel_rfl⟩⟩
def c_spec_l3Forward : ACode := .seq (.reg [⟨(some 1), .box 28 (.tmp 0), none⟩,
  ⟨(some 2), .mv (.const (.slice none 0 0)), none⟩,
  ⟨(some 3), .mv (.const (.slice none 0 0)), none⟩])
 (.seq (.reg [⟨(some 9), .bsl 3 1 1 [(.int .i64 0)] [(0, 1, (.const (.int .i64 0)))], none⟩,
  ⟨(some 10), .bsl 3 1 0 [] [], none⟩,
  ⟨(some 4), .mv (.tmp 9), none⟩,
  ⟨(some 5), .mv (.tmp 10), none⟩])
 (.seq (.seq (.reg [⟨(some 6), .mv (.const (.int .i64 1)), none⟩])
 (.block 0 (.loop (.seq (.seq (.reg [⟨(some 11), .mv (.tmp 6), none⟩,
  ⟨(some 12), .fad 0 (.tmp 1), none⟩,
  ⟨(some 13), .ld none (.tmp 12), none⟩,
  ⟨(some 14), .len (.tmp 13), none⟩,
  ⟨(some 15), .bin .leq (.tmp 11) (.tmp 14), none⟩])
 (.cond (.tmp 15) (.skip) (.exit 0)))
 (.seq (.block 1 (.seq (.reg [⟨(some 7), .mv (.const (.int .i64 0)), none⟩])
 (.seq (.seq (.reg [⟨(some 8), .mv (.const (.int .i64 1)), none⟩])
 (.block 2 (.loop (.seq (.seq (.reg [⟨(some 18), .mv (.tmp 8), none⟩,
  ⟨(some 19), .mv (.tmp 6), none⟩,
  ⟨(some 20), .bin .lss (.tmp 18) (.tmp 19), none⟩])
 (.cond (.tmp 20) (.skip) (.exit 2)))
 (.seq (.block 3 (.seq (.reg [⟨(some 23), .mv (.tmp 4), none⟩,
  ⟨(some 24), .mv (.tmp 8), none⟩,
  ⟨(some 25), .iad 1 (.tmp 23) (.tmp 24), none⟩,
  ⟨(some 26), .ld none (.tmp 25), none⟩,
  ⟨(some 27), .ld (some 4) (.tmp 1), none⟩,
  ⟨(some 28), .mv (.tmp 8), none⟩,
  ⟨(some 29), .mv (.tmp 6), none⟩,
  ⟨(some 32), .mv (.tmp 4), none⟩,
  ⟨(some 33), .mv (.tmp 7), none⟩,
  ⟨(some 34), .iad 1 (.tmp 32) (.tmp 33), none⟩,
  ⟨(some 35), .ld none (.tmp 34), none⟩,
  ⟨(some 36), .ld (some 4) (.tmp 1), none⟩,
  ⟨(some 37), .mv (.tmp 7), none⟩,
  ⟨(some 38), .mv (.tmp 6), none⟩,
  ⟨(some 30), .rcall (.func 55) [(.tmp 27), (.tmp 28), (.tmp 29)], none⟩,
  ⟨(some 31), .bin .add (.tmp 26) (.tmp 30), none⟩,
  ⟨(some 39), .rcall (.func 55) [(.tmp 36), (.tmp 37), (.tmp 38)], none⟩,
  ⟨(some 40), .bin .add (.tmp 35) (.tmp 39), none⟩,
  ⟨(some 41), .bin .leq (.tmp 31) (.tmp 40), none⟩])
 (.cond (.tmp 41) (.reg [⟨(some 42), .mv (.tmp 8), none⟩,
  ⟨(some 7), .mv (.tmp 42), none⟩]) (.skip))))
 (.reg [⟨(some 21), .mv (.tmp 8), none⟩,
  ⟨(some 22), .bin .add (.tmp 21) (.const (.int .i64 1)), none⟩,
  ⟨(some 8), .mv (.tmp 22), none⟩]))))))
 (.seq (.reg [⟨(some 43), .mv (.tmp 4), none⟩,
  ⟨(some 44), .mv (.tmp 4), none⟩,
  ⟨(some 45), .mv (.tmp 7), none⟩,
  ⟨(some 46), .iad 1 (.tmp 44) (.tmp 45), none⟩,
  ⟨(some 47), .ld none (.tmp 46), none⟩,
  ⟨(some 48), .ld (some 4) (.tmp 1), none⟩,
  ⟨(some 49), .mv (.tmp 7), none⟩,
  ⟨(some 50), .mv (.tmp 6), none⟩,
  ⟨(some 51), .rcall (.func 55) [(.tmp 48), (.tmp 49), (.tmp 50)], none⟩,
  ⟨(some 52), .bin .add (.tmp 47) (.tmp 51), none⟩,
  ⟨(some 53), .bsl 3 1 1 [(.int .i64 0)] [(0, 1, (.tmp 52))], none⟩,
  ⟨(some 54), .app 3 1 8 (.tmp 43) (.tmp 53), none⟩,
  ⟨(some 4), .mv (.tmp 54), none⟩])
 (.reg [⟨(some 55), .mv (.tmp 5), none⟩,
  ⟨(some 56), .mv (.tmp 7), none⟩,
  ⟨(some 57), .bsl 3 1 1 [(.int .i64 0)] [(0, 1, (.tmp 56))], none⟩,
  ⟨(some 58), .app 3 1 8 (.tmp 55) (.tmp 57), none⟩,
  ⟨(some 5), .mv (.tmp 58), none⟩])))))
 (.reg [⟨(some 16), .mv (.tmp 6), none⟩,
  ⟨(some 17), .bin .add (.tmp 16) (.const (.int .i64 1)), none⟩,
  ⟨(some 6), .mv (.tmp 17), none⟩]))))))
 (.seq (.reg [⟨(some 59), .mv (.tmp 4), none⟩,
  ⟨(some 60), .mv (.tmp 5), none⟩,
  ⟨(some 2), .mv (.tmp 59), none⟩,
  ⟨(some 3), .mv (.tmp 60), none⟩])
 (.ret))))
def r_spec_l3Forward : List ARes := [.tmp 2, .tmp 3]
theorem ok_spec_l3Forward : FnOk Try.prog 57 61 c_spec_l3Forward r_spec_l3Forward := ⟨⟨Try.f57, _, Try.func57, by kernel_rfl, rfl, rfl, by kernel_rfl, by kernel_rfl⟩⟩
def c_impl_forwardTable : ACode := .seq (.reg [⟨(some 1), .box 28 (.tmp 0), none⟩,
  ⟨(some 2), .mv (.const (.slice none 0 0)), none⟩,
  ⟨(some 3), .mv (.const (.slice none 0 0)), none⟩])
 (.seq (.reg [⟨(some 11), .bsl 3 1 1 [(.int .i64 0)] [(0, 1, (.const (.int .i64 0)))], none⟩,
  ⟨(some 4), .mv (.tmp 11), none⟩])
 (.seq (.reg [⟨(some 12), .bsl 3 1 0 [] [], none⟩,
  ⟨(some 5), .mv (.tmp 12), none⟩])
 (.seq (.seq (.reg [⟨(some 6), .mv (.const (.int .i64 1)), none⟩])
 (.block 0 (.loop (.seq (.seq (.reg [⟨(some 13), .mv (.tmp 6), none⟩,
  ⟨(some 14), .fad 0 (.tmp 1), none⟩,
  ⟨(some 15), .ld none (.tmp 14), none⟩,
  ⟨(some 16), .len (.tmp 15), none⟩,
  ⟨(some 17), .bin .leq (.tmp 13) (.tmp 16), none⟩])
 (.cond (.tmp 17) (.skip) (.exit 0)))
 (.seq (.block 1 (.seq (.reg [⟨(some 20), .ld (some 4) (.tmp 1), none⟩,
  ⟨(some 21), .mv (.tmp 6), none⟩,
  ⟨(some 22), .call (.func 56) [(.tmp 20), (.const (.int .i64 0)), (.tmp 21)], none⟩,
  ⟨(some 7), .mv (.tmp 22), none⟩,
  ⟨(some 8), .mv (.const (.int .i64 0)), none⟩])
 (.seq (.seq (.reg [⟨(some 9), .mv (.const (.int .i64 1)), none⟩])
 (.block 2 (.loop (.seq (.seq (.reg [⟨(some 23), .mv (.tmp 9), none⟩,
  ⟨(some 24), .mv (.tmp 6), none⟩,
  ⟨(some 25), .bin .lss (.tmp 23) (.tmp 24), none⟩])
 (.cond (.tmp 25) (.skip) (.exit 2)))
 (.seq (.block 3 (.seq (.reg [⟨(some 28), .mv (.tmp 4), none⟩,
  ⟨(some 29), .mv (.tmp 9), none⟩,
  ⟨(some 30), .iad 1 (.tmp 28) (.tmp 29), none⟩,
  ⟨(some 31), .ld none (.tmp 30), none⟩,
  ⟨(some 32), .ld (some 4) (.tmp 1), none⟩,
  ⟨(some 33), .mv (.tmp 9), none⟩,
  ⟨(some 34), .mv (.tmp 6), none⟩,
  ⟨(some 35), .rcall (.func 56) [(.tmp 32), (.tmp 33), (.tmp 34)], none⟩,
  ⟨(some 36), .bin .add (.tmp 31) (.tmp 35), none⟩,
  ⟨(some 10), .mv (.tmp 36), none⟩])
 (.seq (.reg [⟨(some 37), .mv (.tmp 10), none⟩,
  ⟨(some 38), .mv (.tmp 7), none⟩,
  ⟨(some 39), .bin .leq (.tmp 37) (.tmp 38), none⟩])
 (.cond (.tmp 39) (.reg [⟨(some 40), .mv (.tmp 10), none⟩,
  ⟨(some 41), .mv (.tmp 9), none⟩,
  ⟨(some 7), .mv (.tmp 40), none⟩,
  ⟨(some 8), .mv (.tmp 41), none⟩]) (.skip)))))
 (.reg [⟨(some 26), .mv (.tmp 9), none⟩,
  ⟨(some 27), .bin .add (.tmp 26) (.const (.int .i64 1)), none⟩,
  ⟨(some 9), .mv (.tmp 27), none⟩]))))))
 (.seq (.reg [⟨(some 42), .mv (.tmp 4), none⟩,
  ⟨(some 43), .mv (.tmp 7), none⟩,
  ⟨(some 44), .bsl 3 1 1 [(.int .i64 0)] [(0, 1, (.tmp 43))], none⟩,
  ⟨(some 45), .app 3 1 8 (.tmp 42) (.tmp 44), none⟩,
  ⟨(some 4), .mv (.tmp 45), none⟩])
 (.reg [⟨(some 46), .mv (.tmp 5), none⟩,
  ⟨(some 47), .mv (.tmp 8), none⟩,
  ⟨(some 48), .bsl 3 1 1 [(.int .i64 0)] [(0, 1, (.tmp 47))], none⟩,
  ⟨(some 49), .app 3 1 8 (.tmp 46) (.tmp 48), none⟩,
  ⟨(some 5), .mv (.tmp 49), none⟩])))))
 (.reg [⟨(some 18), .mv (.tmp 6), none⟩,
  ⟨(some 19), .bin .add (.tmp 18) (.const (.int .i64 1)), none⟩,
  ⟨(some 6), .mv (.tmp 19), none⟩]))))))
 (.seq (.reg [⟨(some 50), .mv (.tmp 4), none⟩,
  ⟨(some 51), .mv (.tmp 5), none⟩,
  ⟨(some 2), .mv (.tmp 50), none⟩,
  ⟨(some 3), .mv (.tmp 51), none⟩])
 (.ret)))))
def r_impl_forwardTable : List ARes := [.tmp 2, .tmp 3]
theorem ok_impl_forwardTable : FnOk Try.prog 58 52 c_impl_forwardTable r_impl_forwardTable := ⟨⟨Try.f58, _, Try.func58, by kernel_rfl, rfl, rfl, by kernel_rfl, by kernel_rfl⟩⟩
def c_spec_l3Backward : ACode := .seq (.reg [⟨(some 1), .box 28 (.tmp 0), none⟩,
  ⟨(some 2), .mv (.const (.slice none 0 0)), none⟩])
 (.seq (.reg [⟨(some 7), .fad 0 (.tmp 1), none⟩,
  ⟨(some 8), .ld none (.tmp 7), none⟩,
  ⟨(some 9), .len (.tmp 8), none⟩,
  ⟨(some 3), .mv (.tmp 9), none⟩])
 (.seq (.reg [⟨(some 10), .mv (.tmp 3), none⟩,
  ⟨(some 11), .bin .add (.tmp 10) (.const (.int .i64 1)), none⟩,
  ⟨(some 12), .mks 3 8 [(.int .i64 0)] (.tmp 11) (.tmp 11), none⟩,
  ⟨(some 4), .mv (.tmp 12), none⟩])
 (.seq (.seq (.reg [⟨(some 13), .mv (.tmp 3), none⟩,
  ⟨(some 14), .bin .sub (.tmp 13) (.const (.int .i64 1)), none⟩,
  ⟨(some 5), .mv (.tmp 14), none⟩])
 (.block 0 (.loop (.seq (.seq (.reg [⟨(some 15), .mv (.tmp 5), none⟩,
  ⟨(some 16), .bin .geq (.tmp 15) (.const (.int .i64 0)), none⟩])
 (.cond (.tmp 16) (.skip) (.exit 0)))
 (.seq (.block 1 (.seq (.reg [⟨(some 19), .mv (.tmp 4), none⟩,
  ⟨(some 20), .mv (.tmp 5), none⟩,
  ⟨(some 21), .ld (some 4) (.tmp 1), none⟩,
  ⟨(some 22), .mv (.tmp 5), none⟩,
  ⟨(some 23), .mv (.tmp 3), none⟩,
  ⟨(some 24), .call (.func 55) [(.tmp 21), (.tmp 22), (.tmp 23)], none⟩,
  ⟨(some 25), .iad 1 (.tmp 19) (.tmp 20), none⟩,
  ⟨none, .st 1 (.tmp 25) (.tmp 24), none⟩])
 (.seq (.reg [⟨(some 26), .mv (.tmp 5), none⟩,
  ⟨(some 27), .bin .add (.tmp 26) (.const (.int .i64 1)), none⟩,
  ⟨(some 6), .mv (.tmp 27), none⟩])
 (.block 2 (.loop (.seq (.seq (.reg [⟨(some 28), .mv (.tmp 6), none⟩,
  ⟨(some 29), .mv (.tmp 3), none⟩,
  ⟨(some 30), .bin .lss (.tmp 28) (.tmp 29), none⟩])
 (.cond (.tmp 30) (.skip) (.exit 2)))
 (.seq (.block 3 (.reg [⟨(some 33), .mv (.tmp 4), none⟩,
  ⟨(some 34), .mv (.tmp 5), none⟩,
  ⟨(some 35), .mv (.tmp 4), none⟩,
  ⟨(some 36), .mv (.tmp 5), none⟩,
  ⟨(some 37), .iad 1 (.tmp 35) (.tmp 36), none⟩,
  ⟨(some 38), .ld none (.tmp 37), none⟩,
  ⟨(some 39), .ld (some 4) (.tmp 1), none⟩,
  ⟨(some 40), .mv (.tmp 5), none⟩,
  ⟨(some 41), .mv (.tmp 6), none⟩,
  ⟨(some 43), .mv (.tmp 4), none⟩,
  ⟨(some 44), .mv (.tmp 6), none⟩,
  ⟨(some 45), .iad 1 (.tmp 43) (.tmp 44), none⟩,
  ⟨(some 46), .ld none (.tmp 45), none⟩,
  ⟨(some 42), .rcall (.func 55) [(.tmp 39), (.tmp 40), (.tmp 41)], none⟩,
  ⟨(some 47), .bin .add (.tmp 42) (.tmp 46), none⟩,
  ⟨(some 48), .rcall (.func 69) [(.tmp 38), (.tmp 47)], none⟩,
  ⟨(some 49), .iad 1 (.tmp 33) (.tmp 34), none⟩,
  ⟨none, .st 1 (.tmp 49) (.tmp 48), none⟩]))
 (.reg [⟨(some 31), .mv (.tmp 6), none⟩,
  ⟨(some 32), .bin .add (.tmp 31) (.const (.int .i64 1)), none⟩,
  ⟨(some 6), .mv (.tmp 32), none⟩]))))))))
 (.reg [⟨(some 17), .mv (.tmp 5), none⟩,
  ⟨(some 18), .bin .sub (.tmp 17) (.const (.int .i64 1)), none⟩,
  ⟨(some 5), .mv (.tmp 18), none⟩]))))))
 (.seq (.reg [⟨(some 50), .mv (.tmp 4), none⟩,
  ⟨(some 2), .mv (.tmp 50), none⟩])
 (.ret)))))
def r_spec_l3Backward : List ARes := [.tmp 2]
theorem ok_spec_l3Backward : FnOk Try.prog 59 51 c_spec_l3Backward r_spec_l3Backward := ⟨⟨Try.f59, _, Try.func59, by kernel_rfl, rfl, rfl, by kernel_rfl, by kernel_rfl⟩⟩
def c_impl_backwardTable : ACode := .seq (.reg [⟨(some 1), .box 28 (.tmp 0), none⟩,
  ⟨(some 2), .mv (.const (.slice none 0 0)), none⟩])
 (.seq (.reg [⟨(some 7), .fad 0 (.tmp 1), none⟩,
  ⟨(some 8), .ld none (.tmp 7), none⟩,
  ⟨(some 9), .len (.tmp 8), none⟩,
  ⟨(some 3), .mv (.tmp 9), none⟩])
 (.seq (.reg [⟨(some 10), .mv (.tmp 3), none⟩,
  ⟨(some 11), .bin .add (.tmp 10) (.const (.int .i64 1)), none⟩,
  ⟨(some 12), .mks 3 8 [(.int .i64 0)] (.tmp 11) (.tmp 11), none⟩,
  ⟨(some 4), .mv (.tmp 12), none⟩])
 (.seq (.seq (.reg [⟨(some 13), .mv (.tmp 3), none⟩,
  ⟨(some 14), .bin .sub (.tmp 13) (.const (.int .i64 1)), none⟩,
  ⟨(some 5), .mv (.tmp 14), none⟩])
 (.block 0 (.loop (.seq (.seq (.reg [⟨(some 15), .mv (.tmp 5), none⟩,
  ⟨(some 16), .bin .geq (.tmp 15) (.const (.int .i64 0)), none⟩])
 (.cond (.tmp 16) (.skip) (.exit 0)))
 (.seq (.block 1 (.seq (.reg [⟨(some 19), .mv (.tmp 4), none⟩,
  ⟨(some 20), .mv (.tmp 5), none⟩,
  ⟨(some 21), .ld (some 4) (.tmp 1), none⟩,
  ⟨(some 22), .mv (.tmp 5), none⟩,
  ⟨(some 23), .mv (.tmp 3), none⟩,
  ⟨(some 24), .call (.func 56) [(.tmp 21), (.tmp 22), (.tmp 23)], none⟩,
  ⟨(some 25), .iad 1 (.tmp 19) (.tmp 20), none⟩,
  ⟨none, .st 1 (.tmp 25) (.tmp 24), none⟩])
 (.seq (.reg [⟨(some 26), .mv (.tmp 5), none⟩,
  ⟨(some 27), .bin .add (.tmp 26) (.const (.int .i64 1)), none⟩,
  ⟨(some 6), .mv (.tmp 27), none⟩])
 (.block 2 (.loop (.seq (.seq (.reg [⟨(some 28), .mv (.tmp 6), none⟩,
  ⟨(some 29), .mv (.tmp 3), none⟩,
  ⟨(some 30), .bin .lss (.tmp 28) (.tmp 29), none⟩])
 (.cond (.tmp 30) (.skip) (.exit 2)))
 (.seq (.block 3 (.reg [⟨(some 33), .mv (.tmp 4), none⟩,
  ⟨(some 34), .mv (.tmp 5), none⟩,
  ⟨(some 35), .mv (.tmp 4), none⟩,
  ⟨(some 36), .mv (.tmp 5), none⟩,
  ⟨(some 37), .iad 1 (.tmp 35) (.tmp 36), none⟩,
  ⟨(some 38), .ld none (.tmp 37), none⟩,
  ⟨(some 39), .ld (some 4) (.tmp 1), none⟩,
  ⟨(some 40), .mv (.tmp 5), none⟩,
  ⟨(some 41), .mv (.tmp 6), none⟩,
  ⟨(some 43), .mv (.tmp 4), none⟩,
  ⟨(some 44), .mv (.tmp 6), none⟩,
  ⟨(some 45), .iad 1 (.tmp 43) (.tmp 44), none⟩,
  ⟨(some 46), .ld none (.tmp 45), none⟩,
  ⟨(some 42), .rcall (.func 56) [(.tmp 39), (.tmp 40), (.tmp 41)], none⟩,
  ⟨(some 47), .bin .add (.tmp 42) (.tmp 46), none⟩,
  ⟨(some 48), .mmx false (.tmp 38) (.tmp 47), none⟩,
  ⟨(some 49), .iad 1 (.tmp 33) (.tmp 34), none⟩,
  ⟨none, .st 1 (.tmp 49) (.tmp 48), none⟩]))
 (.reg [⟨(some 31), .mv (.tmp 6), none⟩,
  ⟨(some 32), .bin .add (.tmp 31) (.const (.int .i64 1)), none⟩,
  ⟨(some 6), .mv (.tmp 32), none⟩]))))))))
 (.reg [⟨(some 17), .mv (.tmp 5), none⟩,
  ⟨(some 18), .bin .sub (.tmp 17) (.const (.int .i64 1)), none⟩,
  ⟨(some 5), .mv (.tmp 18), none⟩]))))))
 (.seq (.reg [⟨(some 50), .mv (.tmp 4), none⟩,
  ⟨(some 2), .mv (.tmp 50), none⟩])
 (.ret)))))
def r_impl_backwardTable : List ARes := [.tmp 2]
theorem ok_impl_backwardTable : FnOk Try.prog 60 51 c_impl_backwardTable r_impl_backwardTable := ⟨⟨Try.f60, _, Try.func60, by kernel_rfl, rfl, rfl, by kernel_rfl, by kernel_rfl⟩⟩
def c_impl_periodsWith : ACode := .seq (.reg [⟨(some 4), .mv (.const (.slice none 0 0)), none⟩])
 (.seq (.reg [⟨(some 8), .bsl 3 1 0 [] [], none⟩,
  ⟨(some 5), .mv (.tmp 8), none⟩])
 (.seq (.seq (.reg [⟨(some 9), .mv (.tmp 0), none⟩,
  ⟨(some 10), .len (.tmp 9), none⟩,
  ⟨(some 11), .mv (.const (.int .i64 0)), none⟩])
 (.block 0 (.loop (.seq (.reg [⟨(some 12), .bin .lss (.tmp 11) (.tmp 10), none⟩])
 (.seq (.cond (.tmp 12) (.skip) (.exit 0))
 (.seq (.block 1 (.seq (.reg [⟨(some 13), .mv (.tmp 11), none⟩,
  ⟨(some 14), .iad 1 (.tmp 9) (.tmp 11), none⟩,
  ⟨(some 15), .ld none (.tmp 14), none⟩,
  ⟨(some 6), .mv (.tmp 13), none⟩,
  ⟨(some 7), .mv (.tmp 15), none⟩])
 (.seq (.reg [⟨(some 16), .mv (.tmp 1), none⟩,
  ⟨(some 17), .mv (.tmp 7), none⟩,
  ⟨(some 18), .call (.tmp 16) [(.tmp 17)], none⟩])
 (.cond (.tmp 18) (.reg [⟨(some 19), .mv (.tmp 5), none⟩,
  ⟨(some 20), .mv (.tmp 6), none⟩,
  ⟨(some 21), .bsl 3 1 1 [(.int .i64 0)] [(0, 1, (.tmp 20))], none⟩,
  ⟨(some 22), .app 3 1 8 (.tmp 19) (.tmp 21), none⟩,
  ⟨(some 5), .mv (.tmp 22), none⟩]) (.skip)))))
 (.reg [⟨(some 23), .bin .add (.tmp 11) (.const (.int .i64 1)), none⟩,
  ⟨(some 11), .mv (.tmp 23), none⟩])))))))
 (.seq (.reg [⟨(some 24), .mv (.tmp 5), none⟩,
  ⟨(some 4), .mv (.tmp 24), none⟩])
 (.ret))))
def r_impl_periodsWith : List ARes := [.tmp 4]
theorem ok_impl_periodsWith : FnOk Try.prog 61 25 c_impl_periodsWith r_impl_periodsWith := ⟨⟨Try.f61, _, Try.func61, by kernel_rfl, rfl, rfl, by kernel_rfl, by kernel_rfl⟩⟩
def c_impl_TurningPeriods_1 : ACode := .seq (.reg [⟨(some 3), .mv (.const (.bool false)), none⟩])
 (.seq (.reg [⟨(some 4), .mv (.tmp 0), none⟩,
  ⟨(some 5), .ld none (.tmp 1), none⟩,
  ⟨(some 6), .bin .eql (.tmp 4) (.tmp 5), none⟩,
  ⟨(some 3), .mv (.tmp 6), none⟩])
 (.ret))
def r_impl_TurningPeriods_1 : List ARes := [.tmp 3]
theorem ok_impl_TurningPeriods_1 : FnOk Try.prog 62 7 c_impl_TurningPeriods_1 r_impl_TurningPeriods_1 := ⟨⟨Try.f62, _, Try.func62, by kernel_rfl, rfl, rfl, by kernel_rfl, by kernel_rfl⟩⟩
def c_spec_l2Plan : ACode := .seq (.reg [⟨(some 2), .box 28 (.tmp 0), none⟩,
  ⟨(some 4), .mv (.const (.bool false)), none⟩])
 (.seq (.seq (.reg [⟨(some 7), .mv (.tmp 1), none⟩,
  ⟨(some 8), .fad 0 (.tmp 2), none⟩,
  ⟨(some 9), .ld none (.tmp 8), none⟩,
  ⟨(some 10), .len (.tmp 9), none⟩,
  ⟨(some 11), .call (.func 66) [(.tmp 7), (.tmp 10), (.const (.int .i64 160))], none⟩,
  ⟨(some 12), .un .not (.tmp 11), none⟩])
 (.cond (.tmp 12) (.seq (.reg [⟨(some 4), .mv (.const (.bool false)), none⟩])
 (.ret)) (.skip)))
 (.seq (.reg [⟨(some 13), .ld (some 4) (.tmp 2), none⟩,
  ⟨(some 14), .mv (.tmp 1), none⟩,
  ⟨(some 15), .call (.func 64) [(.tmp 13), (.tmp 14)], none⟩,
  ⟨(some 5), .mv (.tmp 15), none⟩])
 (.seq (.seq (.reg [⟨(some 6), .mv (.const (.int .i64 0)), none⟩])
 (.block 0 (.loop (.seq (.seq (.reg [⟨(some 16), .mv (.tmp 6), none⟩,
  ⟨(some 17), .mv (.tmp 5), none⟩,
  ⟨(some 18), .len (.tmp 17), none⟩,
  ⟨(some 19), .bin .lss (.tmp 16) (.tmp 18), none⟩])
 (.cond (.tmp 19) (.skip) (.exit 0)))
 (.seq (.block 1 (.seq (.reg [⟨(some 22), .mv (.tmp 5), none⟩,
  ⟨(some 23), .mv (.tmp 6), none⟩,
  ⟨(some 24), .iad 1 (.tmp 22) (.tmp 23), none⟩,
  ⟨(some 25), .ld none (.tmp 24), none⟩,
  ⟨(some 26), .bin .lss (.tmp 25) (.const (.int .i64 0)), none⟩])
 (.cond (.tmp 26) (.seq (.reg [⟨(some 4), .mv (.const (.bool false)), none⟩])
 (.ret)) (.skip))))
 (.reg [⟨(some 20), .mv (.tmp 6), none⟩,
  ⟨(some 21), .bin .add (.tmp 20) (.const (.int .i64 1)), none⟩,
  ⟨(some 6), .mv (.tmp 21), none⟩]))))))
 (.seq (.reg [⟨(some 27), .mv (.tmp 5), none⟩,
  ⟨(some 28), .len (.tmp 27), none⟩,
  ⟨(some 29), .bin .eql (.tmp 28) (.const (.int .i64 0)), none⟩,
  ⟨(some 30), .mv (.tmp 29), none⟩,
  ⟨(some 31), .mv (.tmp 5), (some (30, false))⟩,
  ⟨(some 32), .mv (.tmp 5), (some (30, false))⟩,
  ⟨(some 33), .len (.tmp 32), (some (30, false))⟩,
  ⟨(some 34), .bin .sub (.tmp 33) (.const (.int .i64 1)), (some (30, false))⟩,
  ⟨(some 35), .iad 1 (.tmp 31) (.tmp 34), (some (30, false))⟩,
  ⟨(some 36), .ld none (.tmp 35), (some (30, false))⟩,
  ⟨(some 37), .bin .eql (.tmp 36) (.const (.int .i64 0)), (some (30, false))⟩,
  ⟨(some 38), .pick (.tmp 30) (.const (.bool true)) (.tmp 37), none⟩,
  ⟨(some 4), .mv (.tmp 38), none⟩])
 (.ret)))))
def r_spec_l2Plan : List ARes := [.tmp 4]
theorem ok_spec_l2Plan : FnOk Try.prog 63 39 c_spec_l2Plan r_spec_l2Plan := ⟨⟨Try.f63, _, Try.func63, by kernel_rfl, rfl, rfl, by kernel_rfl, by kernel_rfl⟩⟩
def c_spec_l2Stocks : ACode := .seq (.reg [⟨(some 2), .box 28 (.tmp 0), none⟩,
  ⟨(some 4), .mv (.const (.slice none 0 0)), none⟩])
 (.seq (.reg [⟨(some 8), .bsl 3 1 0 [] [], none⟩,
  ⟨(some 5), .mv (.tmp 8), none⟩,
  ⟨(some 6), .mv (.const (.int .i64 0)), none⟩])
 (.seq (.seq (.reg [⟨(some 7), .mv (.const (.int .i64 0)), none⟩])
 (.block 0 (.loop (.seq (.seq (.reg [⟨(some 9), .mv (.tmp 7), none⟩,
  ⟨(some 10), .mv (.tmp 1), none⟩,
  ⟨(some 11), .len (.tmp 10), none⟩,
  ⟨(some 12), .bin .lss (.tmp 9) (.tmp 11), none⟩])
 (.cond (.tmp 12) (.skip) (.exit 0)))
 (.seq (.block 1 (.seq (.reg [⟨(some 15), .mv (.tmp 6), none⟩,
  ⟨(some 16), .mv (.tmp 1), none⟩,
  ⟨(some 17), .mv (.tmp 7), none⟩,
  ⟨(some 18), .iad 1 (.tmp 16) (.tmp 17), none⟩,
  ⟨(some 19), .ld none (.tmp 18), none⟩,
  ⟨(some 20), .bin .add (.tmp 15) (.tmp 19), none⟩,
  ⟨(some 21), .fad 0 (.tmp 2), none⟩,
  ⟨(some 22), .ld none (.tmp 21), none⟩,
  ⟨(some 23), .mv (.tmp 7), none⟩,
  ⟨(some 24), .iad 1 (.tmp 22) (.tmp 23), none⟩,
  ⟨(some 25), .ld none (.tmp 24), none⟩,
  ⟨(some 26), .bin .sub (.tmp 20) (.tmp 25), none⟩,
  ⟨(some 6), .mv (.tmp 26), none⟩])
 (.reg [⟨(some 27), .mv (.tmp 5), none⟩,
  ⟨(some 28), .mv (.tmp 6), none⟩,
  ⟨(some 29), .bsl 3 1 1 [(.int .i64 0)] [(0, 1, (.tmp 28))], none⟩,
  ⟨(some 30), .app 3 1 8 (.tmp 27) (.tmp 29), none⟩,
  ⟨(some 5), .mv (.tmp 30), none⟩])))
 (.reg [⟨(some 13), .mv (.tmp 7), none⟩,
  ⟨(some 14), .bin .add (.tmp 13) (.const (.int .i64 1)), none⟩,
  ⟨(some 7), .mv (.tmp 14), none⟩]))))))
 (.seq (.reg [⟨(some 31), .mv (.tmp 5), none⟩,
  ⟨(some 4), .mv (.tmp 31), none⟩])
 (.ret))))
def r_spec_l2Stocks : List ARes := [.tmp 4]
theorem ok_spec_l2Stocks : FnOk Try.prog 64 32 c_spec_l2Stocks r_spec_l2Stocks := ⟨⟨Try.f64, _, Try.func64, by kernel_rfl, rfl, rfl, by kernel_rfl, by kernel_rfl⟩⟩
def c_impl_stocksFor : ACode := .seq (.reg [⟨(some 4), .mv (.const (.slice none 0 0)), none⟩,
  ⟨(some 5), .mv (.const (.bool false)), none⟩])
 (.seq (.reg [⟨(some 9), .mv (.tmp 0), none⟩,
  ⟨(some 10), .mv (.tmp 1), none⟩,
  ⟨(some 11), .call (.func 70) [(.tmp 9), (.tmp 10)], none⟩,
  ⟨(some 8), .mv (.tmp 11), none⟩,
  ⟨(some 12), .ext 0 (.tmp 8), none⟩,
  ⟨(some 13), .ext 1 (.tmp 8), none⟩,
  ⟨(some 6), .mv (.tmp 12), none⟩,
  ⟨(some 7), .mv (.tmp 13), none⟩])
 (.seq (.seq (.reg [⟨(some 14), .mv (.tmp 7), none⟩,
  ⟨(some 15), .un .not (.tmp 14), none⟩,
  ⟨(some 16), .mv (.tmp 15), none⟩,
  ⟨(some 17), .mv (.tmp 6), (some (16, false))⟩,
  ⟨(some 18), .call (.func 71) [(.tmp 17), (.func 72)], (some (16, false))⟩,
  ⟨(some 19), .pick (.tmp 16) (.const (.bool true)) (.tmp 18), none⟩])
 (.cond (.tmp 19) (.seq (.reg [⟨(some 20), .bsl 3 1 0 [] [], none⟩,
  ⟨(some 4), .mv (.tmp 20), none⟩,
  ⟨(some 5), .mv (.const (.bool false)), none⟩])
 (.ret)) (.skip)))
 (.seq (.reg [⟨(some 21), .mv (.tmp 6), none⟩,
  ⟨(some 4), .mv (.tmp 21), none⟩,
  ⟨(some 5), .mv (.const (.bool true)), none⟩])
 (.ret))))
def r_impl_stocksFor : List ARes := [.tmp 4, .tmp 5]
theorem ok_impl_stocksFor : FnOk Try.prog 65 22 c_impl_stocksFor r_impl_stocksFor := ⟨⟨Try.f65, _, Try.func65, by kernel_rfl, rfl, rfl, by kernel_rfl, by kernel_rfl⟩⟩
def c_spec_l2Row : ACode := .seq (.reg [⟨(some 6), .mv (.const (.bool false)), none⟩])
 (.seq (.seq (.reg [⟨(some 7), .mv (.const (.int .i64 0)), none⟩])
 (.block 0 (.loop (.seq (.seq (.reg [⟨(some 8), .mv (.tmp 7), none⟩,
  ⟨(some 9), .mv (.tmp 0), none⟩,
  ⟨(some 10), .len (.tmp 9), none⟩,
  ⟨(some 11), .bin .lss (.tmp 8) (.tmp 10), none⟩])
 (.cond (.tmp 11) (.skip) (.exit 0)))
 (.seq (.block 1 (.seq (.reg [⟨(some 14), .mv (.tmp 0), none⟩,
  ⟨(some 15), .mv (.tmp 7), none⟩,
  ⟨(some 16), .iad 1 (.tmp 14) (.tmp 15), none⟩,
  ⟨(some 17), .ld none (.tmp 16), none⟩,
  ⟨(some 18), .mv (.tmp 2), none⟩,
  ⟨(some 19), .call (.func 48) [(.tmp 17), (.const (.int .i64 0)), (.tmp 18)], none⟩,
  ⟨(some 20), .un .not (.tmp 19), none⟩])
 (.cond (.tmp 20) (.seq (.reg [⟨(some 6), .mv (.const (.bool false)), none⟩])
 (.ret)) (.skip))))
 (.reg [⟨(some 12), .mv (.tmp 7), none⟩,
  ⟨(some 13), .bin .add (.tmp 12) (.const (.int .i64 1)), none⟩,
  ⟨(some 7), .mv (.tmp 13), none⟩]))))))
 (.seq (.reg [⟨(some 21), .mv (.tmp 0), none⟩,
  ⟨(some 22), .len (.tmp 21), none⟩,
  ⟨(some 23), .mv (.tmp 1), none⟩,
  ⟨(some 24), .bin .eql (.tmp 22) (.tmp 23), none⟩,
  ⟨(some 6), .mv (.tmp 24), none⟩])
 (.ret)))
def r_spec_l2Row : List ARes := [.tmp 6]
theorem ok_spec_l2Row : FnOk Try.prog 66 25 c_spec_l2Row r_spec_l2Row := ⟨⟨Try.f66, _, Try.func66, by kernel_rfl, rfl, rfl, by kernel_rfl, by kernel_rfl⟩⟩
def c_impl_isRow : ACode := .seq (.reg [⟨(some 5), .box 3 (.tmp 2), none⟩,
  ⟨(some 6), .mv (.const (.bool false)), none⟩])
 (.seq (.reg [⟨(some 8), .mkf 73 [] [(.tmp 5)], none⟩,
  ⟨(some 7), .mv (.tmp 8), none⟩])
 (.seq (.reg [⟨(some 9), .mv (.tmp 0), none⟩,
  ⟨(some 10), .len (.tmp 9), none⟩,
  ⟨(some 11), .mv (.tmp 1), none⟩,
  ⟨(some 12), .bin .eql (.tmp 10) (.tmp 11), none⟩,
  ⟨(some 13), .mv (.tmp 12), none⟩,
  ⟨(some 14), .mv (.tmp 0), (some (13, true))⟩,
  ⟨(some 15), .mv (.tmp 7), (some (13, true))⟩,
  ⟨(some 16), .call (.func 71) [(.tmp 14), (.tmp 15)], (some (13, true))⟩,
  ⟨(some 17), .un .not (.tmp 16), (some (13, true))⟩,
  ⟨(some 18), .pick (.tmp 13) (.tmp 17) (.const (.bool false)), none⟩,
  ⟨(some 6), .mv (.tmp 18), none⟩])
 (.ret)))
def r_impl_isRow : List ARes := [.tmp 6]
theorem ok_impl_isRow : FnOk Try.prog 67 19 c_impl_isRow r_impl_isRow := ⟨⟨Try.f67, _, Try.func67, by kernel_rfl, rfl, rfl, by kernel_rfl, by kernel_rfl⟩⟩
def c_impl_sumOf : ACode := .seq (.reg [⟨(some 2), .mv (.const (.int .i64 0)), none⟩])
 (.seq (.reg [⟨(some 3), .mv (.const (.int .i64 0)), none⟩])
 (.seq (.seq (.reg [⟨(some 6), .mv (.tmp 0), none⟩,
  ⟨(some 7), .len (.tmp 6), none⟩,
  ⟨(some 8), .mv (.const (.int .i64 0)), none⟩])
 (.block 0 (.loop (.seq (.reg [⟨(some 9), .bin .lss (.tmp 8) (.tmp 7), none⟩])
 (.seq (.cond (.tmp 9) (.skip) (.exit 0))
 (.seq (.block 1 (.seq (.reg [⟨(some 10), .iad 1 (.tmp 6) (.tmp 8), none⟩,
  ⟨(some 11), .ld none (.tmp 10), none⟩,
  ⟨(some 5), .mv (.tmp 11), none⟩])
 (.reg [⟨(some 12), .mv (.tmp 3), none⟩,
  ⟨(some 13), .mv (.tmp 5), none⟩,
  ⟨(some 14), .bin .add (.tmp 12) (.tmp 13), none⟩,
  ⟨(some 3), .mv (.tmp 14), none⟩])))
 (.reg [⟨(some 15), .bin .add (.tmp 8) (.const (.int .i64 1)), none⟩,
  ⟨(some 8), .mv (.tmp 15), none⟩])))))))
 (.seq (.reg [⟨(some 16), .mv (.tmp 3), none⟩,
  ⟨(some 2), .mv (.tmp 16), none⟩])
 (.ret))))
def r_impl_sumOf : List ARes := [.tmp 2]
theorem ok_impl_sumOf : FnOk Try.prog 68 17 c_impl_sumOf r_impl_sumOf := ⟨⟨Try.f68, _, Try.func68, by kernel_rfl, rfl, rfl, by kernel_rfl, by kernel_rfl⟩⟩
def c_spec_l1Least : ACode := .seq (.reg [⟨(some 4), .mv (.const (.int .i64 0)), none⟩])
 (.seq (.seq (.reg [⟨(some 5), .mv (.tmp 0), none⟩,
  ⟨(some 6), .mv (.tmp 1), none⟩,
  ⟨(some 7), .bin .lss (.tmp 5) (.tmp 6), none⟩])
 (.cond (.tmp 7) (.seq (.reg [⟨(some 8), .mv (.tmp 0), none⟩,
  ⟨(some 4), .mv (.tmp 8), none⟩])
 (.ret)) (.skip)))
 (.seq (.reg [⟨(some 9), .mv (.tmp 1), none⟩,
  ⟨(some 4), .mv (.tmp 9), none⟩])
 (.ret)))
def r_spec_l1Least : List ARes := [.tmp 4]
theorem ok_spec_l1Least : FnOk Try.prog 69 10 c_spec_l1Least r_spec_l1Least := ⟨⟨Try.f69, _, Try.func69, by kernel_rfl, rfl, rfl, by kernel_rfl, by kernel_rfl⟩⟩
def c_impl_balancesFor : ACode := .seq (.reg [⟨(some 4), .mv (.const (.slice none 0 0)), none⟩,
  ⟨(some 5), .mv (.const (.bool false)), none⟩])
 (.seq (.seq (.reg [⟨(some 10), .mv (.tmp 1), none⟩,
  ⟨(some 11), .mv (.tmp 0), none⟩,
  ⟨(some 12), .len (.tmp 11), none⟩,
  ⟨(some 13), .mv (.tmp 0), none⟩,
  ⟨(some 14), .call (.func 68) [(.tmp 13)], none⟩,
  ⟨(some 15), .call (.func 67) [(.tmp 10), (.tmp 12), (.tmp 14)], none⟩,
  ⟨(some 16), .un .not (.tmp 15), none⟩])
 (.cond (.tmp 16) (.seq (.reg [⟨(some 17), .bsl 3 1 0 [] [], none⟩,
  ⟨(some 4), .mv (.tmp 17), none⟩,
  ⟨(some 5), .mv (.const (.bool false)), none⟩])
 (.ret)) (.skip)))
 (.seq (.reg [⟨(some 6), .mv (.const (.int .i64 0)), none⟩])
 (.seq (.reg [⟨(some 18), .bsl 3 1 0 [] [], none⟩,
  ⟨(some 7), .mv (.tmp 18), none⟩])
 (.seq (.seq (.reg [⟨(some 19), .mv (.tmp 1), none⟩,
  ⟨(some 20), .len (.tmp 19), none⟩,
  ⟨(some 21), .mv (.const (.int .i64 0)), none⟩])
 (.block 0 (.loop (.seq (.reg [⟨(some 22), .bin .lss (.tmp 21) (.tmp 20), none⟩])
 (.seq (.cond (.tmp 22) (.skip) (.exit 0))
 (.seq (.block 1 (.seq (.reg [⟨(some 23), .mv (.tmp 21), none⟩,
  ⟨(some 24), .iad 1 (.tmp 19) (.tmp 21), none⟩,
  ⟨(some 25), .ld none (.tmp 24), none⟩,
  ⟨(some 8), .mv (.tmp 23), none⟩,
  ⟨(some 9), .mv (.tmp 25), none⟩])
 (.seq (.reg [⟨(some 26), .mv (.tmp 6), none⟩,
  ⟨(some 27), .mv (.tmp 9), none⟩,
  ⟨(some 28), .mv (.tmp 0), none⟩,
  ⟨(some 29), .mv (.tmp 8), none⟩,
  ⟨(some 30), .iad 1 (.tmp 28) (.tmp 29), none⟩,
  ⟨(some 31), .ld none (.tmp 30), none⟩,
  ⟨(some 32), .bin .sub (.tmp 27) (.tmp 31), none⟩,
  ⟨(some 33), .bin .add (.tmp 26) (.tmp 32), none⟩,
  ⟨(some 6), .mv (.tmp 33), none⟩])
 (.reg [⟨(some 34), .mv (.tmp 7), none⟩,
  ⟨(some 35), .mv (.tmp 6), none⟩,
  ⟨(some 36), .bsl 3 1 1 [(.int .i64 0)] [(0, 1, (.tmp 35))], none⟩,
  ⟨(some 37), .app 3 1 8 (.tmp 34) (.tmp 36), none⟩,
  ⟨(some 7), .mv (.tmp 37), none⟩]))))
 (.reg [⟨(some 38), .bin .add (.tmp 21) (.const (.int .i64 1)), none⟩,
  ⟨(some 21), .mv (.tmp 38), none⟩])))))))
 (.seq (.seq (.reg [⟨(some 39), .mv (.tmp 6), none⟩,
  ⟨(some 40), .bin .neq (.tmp 39) (.const (.int .i64 0)), none⟩])
 (.cond (.tmp 40) (.seq (.reg [⟨(some 41), .bsl 3 1 0 [] [], none⟩,
  ⟨(some 4), .mv (.tmp 41), none⟩,
  ⟨(some 5), .mv (.const (.bool false)), none⟩])
 (.ret)) (.skip)))
 (.seq (.reg [⟨(some 42), .mv (.tmp 7), none⟩,
  ⟨(some 4), .mv (.tmp 42), none⟩,
  ⟨(some 5), .mv (.const (.bool true)), none⟩])
 (.ret)))))))
def r_impl_balancesFor : List ARes := [.tmp 4, .tmp 5]
theorem ok_impl_balancesFor : FnOk Try.prog 70 43 c_impl_balancesFor r_impl_balancesFor := ⟨⟨Try.f70, _, Try.func70, by kernel_rfl, rfl, rfl, by kernel_rfl, by kernel_rfl⟩⟩
def c_slices_ContainsFunc : ACode := .seq (.reg [⟨(some 4), .mv (.const (.bool false)), none⟩])
 (.seq (.reg [⟨(some 5), .mv (.tmp 0), none⟩,
  ⟨(some 6), .mv (.tmp 1), none⟩,
  ⟨(some 7), .call (.func 75) [(.tmp 5), (.tmp 6)], none⟩,
  ⟨(some 8), .bin .geq (.tmp 7) (.const (.int .i64 0)), none⟩,
  ⟨(some 4), .mv (.tmp 8), none⟩])
 (.ret))
def r_slices_ContainsFunc : List ARes := [.tmp 4]
theorem ok_slices_ContainsFunc : FnOk Try.prog 71 9 c_slices_ContainsFunc r_slices_ContainsFunc := ⟨⟨Try.f71, _, Try.func71, by kernel_rfl, rfl, rfl, by kernel_rfl, by kernel_rfl⟩⟩
def c_impl_isOwed : ACode := .seq (.reg [⟨(some 2), .mv (.const (.bool false)), none⟩])
 (.seq (.reg [⟨(some 3), .mv (.tmp 0), none⟩,
  ⟨(some 4), .bin .lss (.tmp 3) (.const (.int .i64 0)), none⟩,
  ⟨(some 2), .mv (.tmp 4), none⟩])
 (.ret))
def r_impl_isOwed : List ARes := [.tmp 2]
theorem ok_impl_isOwed : FnOk Try.prog 72 5 c_impl_isOwed r_impl_isOwed := ⟨⟨Try.f72, _, Try.func72, by kernel_rfl, rfl, rfl, by kernel_rfl, by kernel_rfl⟩⟩
def c_impl_isRow_1 : ACode := .seq (.reg [⟨(some 3), .mv (.const (.bool false)), none⟩])
 (.seq (.reg [⟨(some 4), .mv (.tmp 0), none⟩,
  ⟨(some 5), .ld none (.tmp 1), none⟩,
  ⟨(some 6), .call (.func 74) [(.tmp 4), (.tmp 5)], none⟩,
  ⟨(some 7), .un .not (.tmp 6), none⟩,
  ⟨(some 3), .mv (.tmp 7), none⟩])
 (.ret))
def r_impl_isRow_1 : List ARes := [.tmp 3]
theorem ok_impl_isRow_1 : FnOk Try.prog 73 8 c_impl_isRow_1 r_impl_isRow_1 := ⟨⟨Try.f73, _, Try.func73, by kernel_rfl, rfl, rfl, by kernel_rfl, by kernel_rfl⟩⟩
def c_impl_isWithin : ACode := .seq (.reg [⟨(some 4), .mv (.const (.bool false)), none⟩])
 (.seq (.reg [⟨(some 5), .mv (.tmp 0), none⟩,
  ⟨(some 6), .bin .geq (.tmp 5) (.const (.int .i64 0)), none⟩,
  ⟨(some 7), .mv (.tmp 6), none⟩,
  ⟨(some 8), .mv (.tmp 0), (some (7, true))⟩,
  ⟨(some 9), .mv (.tmp 1), (some (7, true))⟩,
  ⟨(some 10), .bin .leq (.tmp 8) (.tmp 9), (some (7, true))⟩,
  ⟨(some 11), .pick (.tmp 7) (.tmp 10) (.const (.bool false)), none⟩,
  ⟨(some 4), .mv (.tmp 11), none⟩])
 (.ret))
def r_impl_isWithin : List ARes := [.tmp 4]
theorem ok_impl_isWithin : FnOk Try.prog 74 12 c_impl_isWithin r_impl_isWithin := ⟨⟨Try.f74, _, Try.func74, by kernel_rfl, rfl, rfl, by kernel_rfl, by kernel_rfl⟩⟩
def c_slices_IndexFunc : ACode := .seq (.reg [⟨(some 4), .mv (.const (.int .i64 0)), none⟩])
 (.seq (.seq (.reg [⟨(some 6), .mv (.tmp 0), none⟩,
  ⟨(some 7), .len (.tmp 6), none⟩,
  ⟨(some 8), .mv (.const (.int .i64 0)), none⟩])
 (.block 0 (.loop (.seq (.reg [⟨(some 9), .bin .lss (.tmp 8) (.tmp 7), none⟩])
 (.seq (.cond (.tmp 9) (.skip) (.exit 0))
 (.seq (.block 1 (.seq (.reg [⟨(some 10), .mv (.tmp 8), none⟩,
  ⟨(some 5), .mv (.tmp 10), none⟩])
 (.seq (.reg [⟨(some 11), .mv (.tmp 1), none⟩,
  ⟨(some 12), .mv (.tmp 0), none⟩,
  ⟨(some 13), .mv (.tmp 5), none⟩,
  ⟨(some 14), .iad 1 (.tmp 12) (.tmp 13), none⟩,
  ⟨(some 15), .ld none (.tmp 14), none⟩,
  ⟨(some 16), .call (.tmp 11) [(.tmp 15)], none⟩])
 (.cond (.tmp 16) (.seq (.reg [⟨(some 17), .mv (.tmp 5), none⟩,
  ⟨(some 4), .mv (.tmp 17), none⟩])
 (.ret)) (.skip)))))
 (.reg [⟨(some 18), .bin .add (.tmp 8) (.const (.int .i64 1)), none⟩,
  ⟨(some 8), .mv (.tmp 18), none⟩])))))))
 (.seq (.reg [⟨(some 4), .mv (.const (.int .i64 (-1))), none⟩])
 (.ret)))
def r_slices_IndexFunc : List ARes := [.tmp 4]
theorem ok_slices_IndexFunc : FnOk Try.prog 75 19 c_slices_IndexFunc r_slices_IndexFunc := ⟨⟨Try.f75, _, Try.func75, by kernel_rfl, rfl, rfl, by kernel_rfl, by kernel_rfl⟩⟩
end Go.Proofs.Ytbiipjdhabbleaa.Ab
