/- The compiled forms of functions, each checked against the translation. -/
import Derived.Test.YtfdpieeopdhcmaaAb2
import Derived.Test.YtfdpieeopdhcmaaProg
namespace Go.Proofs.Ytfdpieeopdhcmaa.Ab
open Go Go.RowKit Go.Proofs
set_option maxRecDepth 100000
def c_laws_vBig : ACode := .seq (.reg [⟨(some 2), .mv (.const (.bool false)), none⟩])
 (.seq (.reg [⟨(some 3), .mv (.tmp 0), none⟩,
  ⟨(some 4), .len (.tmp 3), none⟩,
  ⟨(some 5), .bin .gtr (.tmp 4) (.const (.int .i64 65536)), none⟩,
  ⟨(some 2), .mv (.tmp 5), none⟩])
 (.ret))
def r_laws_vBig : List ARes := [.tmp 2]
theorem ok_laws_vBig : FnOk Try.prog 23 6 c_laws_vBig r_laws_vBig := ⟨⟨Try.f23, _, Try.func23, by kernel_rfl, rfl, rfl, by kernel_rfl, by kernel_rfl⟩⟩
def c_laws_vCut : ACode := .seq (.reg [⟨(some 4), .mv (.const (.slice none 0 0)), none⟩])
 (.seq (.seq (.reg [⟨(some 5), .mv (.tmp 1), none⟩,
  ⟨(some 6), .mv (.tmp 0), none⟩,
  ⟨(some 7), .len (.tmp 6), none⟩,
  ⟨(some 8), .bin .gtr (.tmp 5) (.tmp 7), none⟩])
 (.cond (.tmp 8) (.reg [⟨(some 9), .mv (.tmp 0), none⟩,
  ⟨(some 10), .len (.tmp 9), none⟩,
  ⟨(some 1), .mv (.tmp 10), none⟩]) (.skip)))
 (.seq (.reg [⟨(some 11), .bsl 5 1 0 [] [], none⟩,
  ⟨(some 12), .mv (.tmp 0), none⟩,
  ⟨(some 13), .mv (.tmp 1), none⟩,
  ⟨(some 14), .slc 1 (.tmp 12) (some (.tmp 13)) none, none⟩,
  ⟨(some 15), .app 5 1 1 (.tmp 11) (.tmp 14), none⟩,
  ⟨(some 16), .mv (.tmp 1), none⟩,
  ⟨(some 17), .conv .u8 (.tmp 16), none⟩,
  ⟨(some 18), .bsl 5 1 1 [(.int .u8 0)] [(0, 1, (.tmp 17))], none⟩,
  ⟨(some 19), .app 5 1 1 (.tmp 15) (.tmp 18), none⟩,
  ⟨(some 4), .mv (.tmp 19), none⟩])
 (.ret)))
def r_laws_vCut : List ARes := [.tmp 4]
theorem ok_laws_vCut : FnOk Try.prog 30 20 c_laws_vCut r_laws_vCut := ⟨⟨Try.f30, _, Try.func30, by kernel_rfl, rfl, rfl, by kernel_rfl, by kernel_rfl⟩⟩
def c_laws_vInts : ACode := .seq (.reg [⟨(some 4), .mv (.const (.bool false)), none⟩])
 (.seq (.seq (.reg [⟨(some 6), .mv (.tmp 0), none⟩,
  ⟨(some 7), .len (.tmp 6), none⟩,
  ⟨(some 8), .mv (.tmp 1), none⟩,
  ⟨(some 9), .len (.tmp 8), none⟩,
  ⟨(some 10), .bin .neq (.tmp 7) (.tmp 9), none⟩])
 (.cond (.tmp 10) (.seq (.reg [⟨(some 4), .mv (.const (.bool false)), none⟩])
 (.ret)) (.skip)))
 (.seq (.seq (.reg [⟨(some 5), .mv (.const (.int .i64 0)), none⟩])
 (.block 0 (.loop (.seq (.seq (.reg [⟨(some 11), .mv (.tmp 5), none⟩,
  ⟨(some 12), .mv (.tmp 0), none⟩,
  ⟨(some 13), .len (.tmp 12), none⟩,
  ⟨(some 14), .bin .lss (.tmp 11) (.tmp 13), none⟩])
 (.cond (.tmp 14) (.skip) (.exit 0)))
 (.seq (.block 1 (.seq (.reg [⟨(some 17), .mv (.tmp 0), none⟩,
  ⟨(some 18), .mv (.tmp 5), none⟩,
  ⟨(some 19), .iad 1 (.tmp 17) (.tmp 18), none⟩,
  ⟨(some 20), .ld none (.tmp 19), none⟩,
  ⟨(some 21), .mv (.tmp 1), none⟩,
  ⟨(some 22), .mv (.tmp 5), none⟩,
  ⟨(some 23), .iad 1 (.tmp 21) (.tmp 22), none⟩,
  ⟨(some 24), .ld none (.tmp 23), none⟩,
  ⟨(some 25), .bin .neq (.tmp 20) (.tmp 24), none⟩])
 (.cond (.tmp 25) (.seq (.reg [⟨(some 4), .mv (.const (.bool false)), none⟩])
 (.ret)) (.skip))))
 (.reg [⟨(some 15), .mv (.tmp 5), none⟩,
  ⟨(some 16), .bin .add (.tmp 15) (.const (.int .i64 1)), none⟩,
  ⟨(some 5), .mv (.tmp 16), none⟩]))))))
 (.seq (.reg [⟨(some 4), .mv (.const (.bool true)), none⟩])
 (.ret))))
def r_laws_vInts : List ARes := [.tmp 4]
theorem ok_laws_vInts : FnOk Try.prog 43 26 c_laws_vInts r_laws_vInts := ⟨⟨Try.f43, _, Try.func43, by kernel_rfl, rfl, rfl, by kernel_rfl, by kernel_rfl⟩⟩
def c_laws_vAt : ACode := .seq (.reg [⟨(some 4), .mv (.const (.int .i64 0)), none⟩])
 (.seq (.seq (.reg [⟨(some 5), .mv (.tmp 1), none⟩,
  ⟨(some 6), .mv (.tmp 0), none⟩,
  ⟨(some 7), .len (.tmp 6), none⟩,
  ⟨(some 8), .bin .lss (.tmp 5) (.tmp 7), none⟩])
 (.cond (.tmp 8) (.seq (.reg [⟨(some 9), .mv (.tmp 0), none⟩,
  ⟨(some 10), .mv (.tmp 1), none⟩,
  ⟨(some 11), .iad 1 (.tmp 9) (.tmp 10), none⟩,
  ⟨(some 12), .ld none (.tmp 11), none⟩,
  ⟨(some 13), .conv .i64 (.tmp 12), none⟩,
  ⟨(some 4), .mv (.tmp 13), none⟩])
 (.ret)) (.skip)))
 (.seq (.reg [⟨(some 14), .mv (.tmp 1), none⟩,
  ⟨(some 15), .bin .mul (.tmp 14) (.const (.int .i64 7)), none⟩,
  ⟨(some 16), .mv (.tmp 0), none⟩,
  ⟨(some 17), .len (.tmp 16), none⟩,
  ⟨(some 18), .bin .add (.tmp 15) (.tmp 17), none⟩,
  ⟨(some 19), .bin .rem (.tmp 18) (.const (.int .i64 256)), none⟩,
  ⟨(some 4), .mv (.tmp 19), none⟩])
 (.ret)))
def r_laws_vAt : List ARes := [.tmp 4]
theorem ok_laws_vAt : FnOk Try.prog 55 20 c_laws_vAt r_laws_vAt := ⟨⟨Try.f55, _, Try.func55, by kernel_rfl, rfl, rfl, by kernel_rfl, by kernel_rfl⟩⟩
def c_laws_vBestSum : ACode := .seq (.reg [⟨(some 6), .mv (.const (.int .i64 0)), none⟩])
 (.seq (.reg [⟨(some 12), .mv (.tmp 0), none⟩,
  ⟨(some 13), .mv (.tmp 1), none⟩,
  ⟨(some 14), .mv (.tmp 2), none⟩,
  ⟨(some 15), .call (.func 25) [(.tmp 12), (.tmp 13), (.tmp 14)], none⟩,
  ⟨(some 11), .mv (.tmp 15), none⟩,
  ⟨(some 16), .ext 0 (.tmp 11), none⟩,
  ⟨(some 17), .ext 1 (.tmp 11), none⟩,
  ⟨(some 7), .mv (.tmp 16), none⟩,
  ⟨(some 8), .mv (.tmp 17), none⟩])
 (.seq (.reg [⟨(some 19), .mv (.tmp 0), none⟩,
  ⟨(some 20), .mv (.tmp 1), none⟩,
  ⟨(some 21), .mv (.tmp 2), none⟩,
  ⟨(some 22), .mv (.tmp 7), none⟩,
  ⟨(some 23), .call (.func 31) [(.tmp 19), (.tmp 20), (.tmp 21), (.tmp 22)], none⟩,
  ⟨(some 18), .mv (.tmp 23), none⟩,
  ⟨(some 24), .ext 0 (.tmp 18), none⟩,
  ⟨(some 25), .ext 1 (.tmp 18), none⟩,
  ⟨(some 9), .mv (.tmp 24), none⟩,
  ⟨(some 10), .mv (.tmp 25), none⟩])
 (.seq (.reg [⟨(some 26), .mv (.tmp 9), none⟩,
  ⟨(some 6), .mv (.tmp 26), none⟩])
 (.ret))))
def r_laws_vBestSum : List ARes := [.tmp 6]
theorem ok_laws_vBestSum : FnOk Try.prog 56 27 c_laws_vBestSum r_laws_vBestSum := ⟨⟨Try.f56, _, Try.func56, by kernel_rfl, rfl, rfl, by kernel_rfl, by kernel_rfl⟩⟩
def c_laws_vAdd : ACode := .seq (.reg [⟨(some 2), .mv (.const (.int .i64 0)), none⟩])
 (.seq (.reg [⟨(some 3), .mv (.const (.int .i64 0)), none⟩])
 (.seq (.seq (.reg [⟨(some 4), .mv (.const (.int .i64 0)), none⟩])
 (.block 0 (.loop (.seq (.seq (.reg [⟨(some 5), .mv (.tmp 4), none⟩,
  ⟨(some 6), .mv (.tmp 0), none⟩,
  ⟨(some 7), .len (.tmp 6), none⟩,
  ⟨(some 8), .bin .lss (.tmp 5) (.tmp 7), none⟩])
 (.cond (.tmp 8) (.skip) (.exit 0)))
 (.seq (.block 1 (.reg [⟨(some 11), .mv (.tmp 3), none⟩,
  ⟨(some 12), .mv (.tmp 0), none⟩,
  ⟨(some 13), .mv (.tmp 4), none⟩,
  ⟨(some 14), .iad 1 (.tmp 12) (.tmp 13), none⟩,
  ⟨(some 15), .ld none (.tmp 14), none⟩,
  ⟨(some 16), .bin .add (.tmp 11) (.tmp 15), none⟩,
  ⟨(some 3), .mv (.tmp 16), none⟩]))
 (.reg [⟨(some 9), .mv (.tmp 4), none⟩,
  ⟨(some 10), .bin .add (.tmp 9) (.const (.int .i64 1)), none⟩,
  ⟨(some 4), .mv (.tmp 10), none⟩]))))))
 (.seq (.reg [⟨(some 17), .mv (.tmp 3), none⟩,
  ⟨(some 2), .mv (.tmp 17), none⟩])
 (.ret))))
def r_laws_vAdd : List ARes := [.tmp 2]
theorem ok_laws_vAdd : FnOk Try.prog 57 18 c_laws_vAdd r_laws_vAdd := ⟨⟨Try.f57, _, Try.func57, by kernel_rfl, rfl, rfl, by kernel_rfl, by kernel_rfl⟩⟩
end Go.Proofs.Ytfdpieeopdhcmaa.Ab
