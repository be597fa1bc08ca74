/- The compiled forms of functions, each checked against the translation. -/
import Derived.Test.YtfdpieeopdhcmaaAb2
import Derived.Test.YtfdpieeopdhcmaaProg
namespace Go.Proofs.Ytfdpieeopdhcmaa.Ab
open Go Go.RowKit Go.Proofs
set_option maxRecDepth 100000
def c_laws_toIntS : ACode := .seq (.reg [⟨(some 2), .mv (.const (.slice none 0 0)), none⟩])
 (.seq (.reg [⟨(some 5), .mv (.tmp 0), none⟩,
  ⟨(some 6), .len (.tmp 5), none⟩,
  ⟨(some 7), .mks 3 8 [(.int .i64 0)] (.tmp 6) (.tmp 6), none⟩,
  ⟨(some 3), .mv (.tmp 7), none⟩])
 (.seq (.seq (.reg [⟨(some 4), .mv (.const (.int .i64 0)), none⟩])
 (.block 0 (.loop (.seq (.seq (.reg [⟨(some 8), .mv (.tmp 4), none⟩,
  ⟨(some 9), .mv (.tmp 0), none⟩,
  ⟨(some 10), .len (.tmp 9), none⟩,
  ⟨(some 11), .bin .lss (.tmp 8) (.tmp 10), none⟩])
 (.cond (.tmp 11) (.skip) (.exit 0)))
 (.seq (.block 1 (.reg [⟨(some 14), .mv (.tmp 3), none⟩,
  ⟨(some 15), .mv (.tmp 4), none⟩,
  ⟨(some 16), .mv (.tmp 0), none⟩,
  ⟨(some 17), .mv (.tmp 4), none⟩,
  ⟨(some 18), .iad 1 (.tmp 16) (.tmp 17), none⟩,
  ⟨(some 19), .ld none (.tmp 18), none⟩,
  ⟨(some 20), .iad 1 (.tmp 14) (.tmp 15), none⟩,
  ⟨none, .st 1 (.tmp 20) (.tmp 19), none⟩]))
 (.reg [⟨(some 12), .mv (.tmp 4), none⟩,
  ⟨(some 13), .bin .add (.tmp 12) (.const (.int .i64 1)), none⟩,
  ⟨(some 4), .mv (.tmp 13), none⟩]))))))
 (.seq (.reg [⟨(some 21), .mv (.tmp 3), none⟩,
  ⟨(some 2), .mv (.tmp 21), none⟩])
 (.ret))))
def r_laws_toIntS : List ARes := [.tmp 2]
theorem ok_laws_toIntS : FnOk Try.prog 70 22 c_laws_toIntS r_laws_toIntS := ⟨⟨Try.f70, _, Try.func70, by kernel_rfl, rfl, rfl, by kernel_rfl, by kernel_rfl⟩⟩
def c_laws_eqIntS : ACode := .seq (.reg [⟨(some 4), .mv (.const (.bool false)), none⟩])
 (.seq (.seq (.reg [⟨(some 6), .mv (.tmp 0), none⟩,
  ⟨(some 7), .len (.tmp 6), none⟩,
  ⟨(some 8), .mv (.tmp 1), none⟩,
  ⟨(some 9), .len (.tmp 8), none⟩,
  ⟨(some 10), .bin .neq (.tmp 7) (.tmp 9), none⟩])
 (.cond (.tmp 10) (.seq (.reg [⟨(some 4), .mv (.const (.bool false)), none⟩])
 (.ret)) (.skip)))
 (.seq (.seq (.reg [⟨(some 5), .mv (.const (.int .i64 0)), none⟩])
 (.block 0 (.loop (.seq (.seq (.reg [⟨(some 11), .mv (.tmp 5), none⟩,
  ⟨(some 12), .mv (.tmp 0), none⟩,
  ⟨(some 13), .len (.tmp 12), none⟩,
  ⟨(some 14), .bin .lss (.tmp 11) (.tmp 13), none⟩])
 (.cond (.tmp 14) (.skip) (.exit 0)))
 (.seq (.block 1 (.seq (.reg [⟨(some 17), .mv (.tmp 0), none⟩,
  ⟨(some 18), .mv (.tmp 5), none⟩,
  ⟨(some 19), .iad 1 (.tmp 17) (.tmp 18), none⟩,
  ⟨(some 20), .ld none (.tmp 19), none⟩,
  ⟨(some 21), .mv (.tmp 1), none⟩,
  ⟨(some 22), .mv (.tmp 5), none⟩,
  ⟨(some 23), .iad 1 (.tmp 21) (.tmp 22), none⟩,
  ⟨(some 24), .ld none (.tmp 23), none⟩,
  ⟨(some 25), .bin .neq (.tmp 20) (.tmp 24), none⟩])
 (.cond (.tmp 25) (.seq (.reg [⟨(some 4), .mv (.const (.bool false)), none⟩])
 (.ret)) (.skip))))
 (.reg [⟨(some 15), .mv (.tmp 5), none⟩,
  ⟨(some 16), .bin .add (.tmp 15) (.const (.int .i64 1)), none⟩,
  ⟨(some 5), .mv (.tmp 16), none⟩]))))))
 (.seq (.reg [⟨(some 4), .mv (.const (.bool true)), none⟩])
 (.ret))))
def r_laws_eqIntS : List ARes := [.tmp 4]
theorem ok_laws_eqIntS : FnOk Try.prog 71 26 c_laws_eqIntS r_laws_eqIntS := ⟨⟨Try.f71, _, Try.func71, by kernel_rfl, rfl, rfl, by kernel_rfl, by kernel_rfl⟩⟩
def c_laws_markIntS : ACode := .seq (.reg [⟨(some 4), .mv (.const (.int .i64 0)), none⟩])
 (.seq (.seq (.reg [⟨(some 5), .mv (.const (.int .i64 0)), none⟩])
 (.block 0 (.loop (.seq (.seq (.reg [⟨(some 6), .mv (.tmp 5), none⟩,
  ⟨(some 7), .mv (.tmp 0), none⟩,
  ⟨(some 8), .len (.tmp 7), none⟩,
  ⟨(some 9), .bin .lss (.tmp 6) (.tmp 8), none⟩])
 (.cond (.tmp 9) (.skip) (.exit 0)))
 (.seq (.block 1 (.seq (.reg [⟨(some 12), .mv (.tmp 0), none⟩,
  ⟨(some 13), .mv (.tmp 5), none⟩,
  ⟨(some 14), .mv (.tmp 1), none⟩,
  ⟨(some 15), .iad 1 (.tmp 12) (.tmp 13), none⟩,
  ⟨none, .st 1 (.tmp 15) (.tmp 14), none⟩])
 (.reg [⟨(some 16), .mv (.tmp 1), none⟩,
  ⟨(some 17), .bin .add (.tmp 16) (.const (.int .i64 1)), none⟩,
  ⟨(some 1), .mv (.tmp 17), none⟩])))
 (.reg [⟨(some 10), .mv (.tmp 5), none⟩,
  ⟨(some 11), .bin .add (.tmp 10) (.const (.int .i64 1)), none⟩,
  ⟨(some 5), .mv (.tmp 11), none⟩]))))))
 (.seq (.reg [⟨(some 18), .mv (.tmp 1), none⟩,
  ⟨(some 4), .mv (.tmp 18), none⟩])
 (.ret)))
def r_laws_markIntS : List ARes := [.tmp 4]
theorem ok_laws_markIntS : FnOk Try.prog 72 19 c_laws_markIntS r_laws_markIntS := ⟨⟨Try.f72, _, Try.func72, by kernel_rfl, rfl, rfl, by kernel_rfl, by kernel_rfl⟩⟩
def c_laws_heldIntS : ACode := .seq (.reg [⟨(some 4), .mv (.const (.int .i64 0)), none⟩])
 (.seq (.seq (.reg [⟨(some 5), .mv (.const (.int .i64 0)), none⟩])
 (.block 0 (.loop (.seq (.seq (.reg [⟨(some 6), .mv (.tmp 5), none⟩,
  ⟨(some 7), .mv (.tmp 0), none⟩,
  ⟨(some 8), .len (.tmp 7), none⟩,
  ⟨(some 9), .bin .lss (.tmp 6) (.tmp 8), none⟩])
 (.cond (.tmp 9) (.skip) (.exit 0)))
 (.seq (.block 1 (.seq (.seq (.reg [⟨(some 12), .mv (.tmp 0), none⟩,
  ⟨(some 13), .mv (.tmp 5), none⟩,
  ⟨(some 14), .iad 1 (.tmp 12) (.tmp 13), none⟩,
  ⟨(some 15), .ld none (.tmp 14), none⟩,
  ⟨(some 16), .mv (.tmp 1), none⟩,
  ⟨(some 17), .bin .neq (.tmp 15) (.tmp 16), none⟩])
 (.cond (.tmp 17) (.seq (.reg [⟨(some 4), .mv (.const (.int .i64 (-1))), none⟩])
 (.ret)) (.skip)))
 (.reg [⟨(some 18), .mv (.tmp 1), none⟩,
  ⟨(some 19), .bin .add (.tmp 18) (.const (.int .i64 1)), none⟩,
  ⟨(some 1), .mv (.tmp 19), none⟩])))
 (.reg [⟨(some 10), .mv (.tmp 5), none⟩,
  ⟨(some 11), .bin .add (.tmp 10) (.const (.int .i64 1)), none⟩,
  ⟨(some 5), .mv (.tmp 11), none⟩]))))))
 (.seq (.reg [⟨(some 20), .mv (.tmp 1), none⟩,
  ⟨(some 4), .mv (.tmp 20), none⟩])
 (.ret)))
def r_laws_heldIntS : List ARes := [.tmp 4]
theorem ok_laws_heldIntS : FnOk Try.prog 73 21 c_laws_heldIntS r_laws_heldIntS := ⟨⟨Try.f73, _, Try.func73, by kernel_rfl, rfl, rfl, by kernel_rfl, by kernel_rfl⟩⟩
def c_laws_szIntSS : ACode := .seq (.reg [⟨(some 4), .mv (.const (.int .i64 0)), none⟩])
 (.seq (.reg [⟨(some 6), .mv (.tmp 1), none⟩,
  ⟨(some 7), .mv (.tmp 0), none⟩,
  ⟨(some 8), .len (.tmp 7), none⟩,
  ⟨(some 9), .bin .sub (.tmp 6) (.tmp 8), none⟩,
  ⟨(some 1), .mv (.tmp 9), none⟩])
 (.seq (.seq (.reg [⟨(some 10), .mv (.tmp 1), none⟩,
  ⟨(some 11), .bin .lss (.tmp 10) (.const (.int .i64 0)), none⟩])
 (.cond (.tmp 11) (.seq (.reg [⟨(some 4), .mv (.const (.int .i64 (-1))), none⟩])
 (.ret)) (.skip)))
 (.seq (.seq (.reg [⟨(some 5), .mv (.const (.int .i64 0)), none⟩])
 (.block 0 (.loop (.seq (.seq (.reg [⟨(some 12), .mv (.tmp 5), none⟩,
  ⟨(some 13), .mv (.tmp 0), none⟩,
  ⟨(some 14), .len (.tmp 13), none⟩,
  ⟨(some 15), .bin .lss (.tmp 12) (.tmp 14), none⟩])
 (.cond (.tmp 15) (.skip) (.exit 0)))
 (.seq (.block 1 (.seq (.reg [⟨(some 18), .mv (.tmp 0), none⟩,
  ⟨(some 19), .mv (.tmp 5), none⟩,
  ⟨(some 20), .iad 1 (.tmp 18) (.tmp 19), none⟩,
  ⟨(some 21), .ld none (.tmp 20), none⟩,
  ⟨(some 22), .mv (.tmp 1), none⟩,
  ⟨(some 23), .call (.func 125) [(.tmp 21), (.tmp 22)], none⟩,
  ⟨(some 1), .mv (.tmp 23), none⟩])
 (.seq (.reg [⟨(some 24), .mv (.tmp 1), none⟩,
  ⟨(some 25), .bin .lss (.tmp 24) (.const (.int .i64 0)), none⟩])
 (.cond (.tmp 25) (.seq (.reg [⟨(some 4), .mv (.const (.int .i64 (-1))), none⟩])
 (.ret)) (.skip)))))
 (.reg [⟨(some 16), .mv (.tmp 5), none⟩,
  ⟨(some 17), .bin .add (.tmp 16) (.const (.int .i64 1)), none⟩,
  ⟨(some 5), .mv (.tmp 17), none⟩]))))))
 (.seq (.reg [⟨(some 26), .mv (.tmp 1), none⟩,
  ⟨(some 4), .mv (.tmp 26), none⟩])
 (.ret)))))
def r_laws_szIntSS : List ARes := [.tmp 4]
theorem ok_laws_szIntSS : FnOk Try.prog 74 27 c_laws_szIntSS r_laws_szIntSS := ⟨⟨Try.f74, _, Try.func74, by kernel_rfl, rfl, rfl, by kernel_rfl, by kernel_rfl⟩⟩
def c_laws_toIntSS : ACode := .seq (.reg [⟨(some 2), .mv (.const (.slice none 0 0)), none⟩])
 (.seq (.reg [⟨(some 5), .mv (.tmp 0), none⟩,
  ⟨(some 6), .len (.tmp 5), none⟩,
  ⟨(some 7), .mks 24 24 [(.slice none 0 0)] (.tmp 6) (.tmp 6), none⟩,
  ⟨(some 3), .mv (.tmp 7), none⟩])
 (.seq (.seq (.reg [⟨(some 4), .mv (.const (.int .i64 0)), none⟩])
 (.block 0 (.loop (.seq (.seq (.reg [⟨(some 8), .mv (.tmp 4), none⟩,
  ⟨(some 9), .mv (.tmp 0), none⟩,
  ⟨(some 10), .len (.tmp 9), none⟩,
  ⟨(some 11), .bin .lss (.tmp 8) (.tmp 10), none⟩])
 (.cond (.tmp 11) (.skip) (.exit 0)))
 (.seq (.block 1 (.reg [⟨(some 14), .mv (.tmp 3), none⟩,
  ⟨(some 15), .mv (.tmp 4), none⟩,
  ⟨(some 16), .mv (.tmp 0), none⟩,
  ⟨(some 17), .mv (.tmp 4), none⟩,
  ⟨(some 18), .iad 1 (.tmp 16) (.tmp 17), none⟩,
  ⟨(some 19), .ld none (.tmp 18), none⟩,
  ⟨(some 20), .call (.func 70) [(.tmp 19)], none⟩,
  ⟨(some 21), .iad 1 (.tmp 14) (.tmp 15), none⟩,
  ⟨none, .st 1 (.tmp 21) (.tmp 20), none⟩]))
 (.reg [⟨(some 12), .mv (.tmp 4), none⟩,
  ⟨(some 13), .bin .add (.tmp 12) (.const (.int .i64 1)), none⟩,
  ⟨(some 4), .mv (.tmp 13), none⟩]))))))
 (.seq (.reg [⟨(some 22), .mv (.tmp 3), none⟩,
  ⟨(some 2), .mv (.tmp 22), none⟩])
 (.ret))))
def r_laws_toIntSS : List ARes := [.tmp 2]
theorem ok_laws_toIntSS : FnOk Try.prog 75 23 c_laws_toIntSS r_laws_toIntSS := ⟨⟨Try.f75, _, Try.func75, by kernel_rfl, rfl, rfl, by kernel_rfl, by kernel_rfl⟩⟩
def c_laws_eqIntSS : ACode := .seq (.reg [⟨(some 4), .mv (.const (.bool false)), none⟩])
 (.seq (.seq (.reg [⟨(some 6), .mv (.tmp 0), none⟩,
  ⟨(some 7), .len (.tmp 6), none⟩,
  ⟨(some 8), .mv (.tmp 1), none⟩,
  ⟨(some 9), .len (.tmp 8), none⟩,
  ⟨(some 10), .bin .neq (.tmp 7) (.tmp 9), none⟩])
 (.cond (.tmp 10) (.seq (.reg [⟨(some 4), .mv (.const (.bool false)), none⟩])
 (.ret)) (.skip)))
 (.seq (.seq (.reg [⟨(some 5), .mv (.const (.int .i64 0)), none⟩])
 (.block 0 (.loop (.seq (.seq (.reg [⟨(some 11), .mv (.tmp 5), none⟩,
  ⟨(some 12), .mv (.tmp 0), none⟩,
  ⟨(some 13), .len (.tmp 12), none⟩,
  ⟨(some 14), .bin .lss (.tmp 11) (.tmp 13), none⟩])
 (.cond (.tmp 14) (.skip) (.exit 0)))
 (.seq (.block 1 (.seq (.reg [⟨(some 17), .mv (.tmp 0), none⟩,
  ⟨(some 18), .mv (.tmp 5), none⟩,
  ⟨(some 19), .iad 1 (.tmp 17) (.tmp 18), none⟩,
  ⟨(some 20), .ld none (.tmp 19), none⟩,
  ⟨(some 21), .mv (.tmp 1), none⟩,
  ⟨(some 22), .mv (.tmp 5), none⟩,
  ⟨(some 23), .iad 1 (.tmp 21) (.tmp 22), none⟩,
  ⟨(some 24), .ld none (.tmp 23), none⟩,
  ⟨(some 25), .rcall (.func 71) [(.tmp 20), (.tmp 24)], none⟩,
  ⟨(some 26), .un .not (.tmp 25), none⟩])
 (.cond (.tmp 26) (.seq (.reg [⟨(some 4), .mv (.const (.bool false)), none⟩])
 (.ret)) (.skip))))
 (.reg [⟨(some 15), .mv (.tmp 5), none⟩,
  ⟨(some 16), .bin .add (.tmp 15) (.const (.int .i64 1)), none⟩,
  ⟨(some 5), .mv (.tmp 16), none⟩]))))))
 (.seq (.reg [⟨(some 4), .mv (.const (.bool true)), none⟩])
 (.ret))))
def r_laws_eqIntSS : List ARes := [.tmp 4]
theorem ok_laws_eqIntSS : FnOk Try.prog 76 27 c_laws_eqIntSS r_laws_eqIntSS := ⟨⟨Try.f76, _, Try.func76, by kernel_rfl, rfl, rfl, by kernel_rfl, by kernel_rfl⟩⟩
def c_laws_markIntSS : ACode := .seq (.reg [⟨(some 4), .mv (.const (.int .i64 0)), none⟩])
 (.seq (.seq (.reg [⟨(some 5), .mv (.const (.int .i64 0)), none⟩])
 (.block 0 (.loop (.seq (.seq (.reg [⟨(some 6), .mv (.tmp 5), none⟩,
  ⟨(some 7), .mv (.tmp 0), none⟩,
  ⟨(some 8), .len (.tmp 7), none⟩,
  ⟨(some 9), .bin .lss (.tmp 6) (.tmp 8), none⟩])
 (.cond (.tmp 9) (.skip) (.exit 0)))
 (.seq (.block 1 (.reg [⟨(some 12), .mv (.tmp 0), none⟩,
  ⟨(some 13), .mv (.tmp 5), none⟩,
  ⟨(some 14), .iad 1 (.tmp 12) (.tmp 13), none⟩,
  ⟨(some 15), .ld none (.tmp 14), none⟩,
  ⟨(some 16), .mv (.tmp 1), none⟩,
  ⟨(some 17), .call (.func 72) [(.tmp 15), (.tmp 16)], none⟩,
  ⟨(some 1), .mv (.tmp 17), none⟩]))
 (.reg [⟨(some 10), .mv (.tmp 5), none⟩,
  ⟨(some 11), .bin .add (.tmp 10) (.const (.int .i64 1)), none⟩,
  ⟨(some 5), .mv (.tmp 11), none⟩]))))))
 (.seq (.reg [⟨(some 18), .mv (.tmp 1), none⟩,
  ⟨(some 4), .mv (.tmp 18), none⟩])
 (.ret)))
def r_laws_markIntSS : List ARes := [.tmp 4]
theorem ok_laws_markIntSS : FnOk Try.prog 77 19 c_laws_markIntSS r_laws_markIntSS := ⟨⟨Try.f77, _, Try.func77, by kernel_rfl, rfl, rfl, by kernel_rfl, by kernel_rfl⟩⟩
def c_laws_szIntS : ACode := .seq (.reg [⟨(some 4), .mv (.const (.int .i64 0)), none⟩])
 (.seq (.reg [⟨(some 5), .mv (.tmp 1), none⟩,
  ⟨(some 6), .mv (.tmp 0), none⟩,
  ⟨(some 7), .len (.tmp 6), none⟩,
  ⟨(some 8), .bin .sub (.tmp 5) (.tmp 7), none⟩,
  ⟨(some 1), .mv (.tmp 8), none⟩])
 (.seq (.seq (.reg [⟨(some 9), .mv (.tmp 1), none⟩,
  ⟨(some 10), .bin .lss (.tmp 9) (.const (.int .i64 0)), none⟩])
 (.cond (.tmp 10) (.seq (.reg [⟨(some 4), .mv (.const (.int .i64 (-1))), none⟩])
 (.ret)) (.skip)))
 (.seq (.reg [⟨(some 11), .mv (.tmp 1), none⟩,
  ⟨(some 4), .mv (.tmp 11), none⟩])
 (.ret))))
def r_laws_szIntS : List ARes := [.tmp 4]
theorem ok_laws_szIntS : FnOk Try.prog 125 12 c_laws_szIntS r_laws_szIntS := ⟨⟨Try.f125, _, Try.func125, by kernel_rfl, rfl, rfl, by kernel_rfl, by kernel_rfl⟩⟩
end Go.Proofs.Ytfdpieeopdhcmaa.Ab
