/- The compiled forms of functions, each checked against the translation. -/
import Derived.Test.YtonpeflncnccdaaAb2
import Derived.Test.YtonpeflncnccdaaProg
namespace Go.Proofs.Ytonpeflncnccdaa.Ab
open Go Go.RowKit Go.Proofs
set_option maxRecDepth 100000
def c_laws_FnExactIsPriceProof : ACode := .seq (.reg [⟨(some 3), .box 24 (.tmp 0), none⟩,
  ⟨(some 6), .mv (.const (.bool false)), none⟩])
 (.seq (.seq (.reg [⟨(some 15), .mv (.tmp 1), none⟩,
  ⟨(some 16), .len (.tmp 15), none⟩,
  ⟨(some 17), .bin .gtr (.tmp 16) (.const (.int .i64 1048576)), none⟩])
 (.cond (.tmp 17) (.seq (.reg [⟨(some 6), .mv (.const (.bool true)), none⟩])
 (.ret)) (.skip)))
 (.seq (.seq (.reg [⟨(some 18), .mv (.tmp 2), none⟩,
  ⟨(some 19), .len (.tmp 18), none⟩,
  ⟨(some 20), .bin .gtr (.tmp 19) (.const (.int .i64 1048576)), none⟩])
 (.cond (.tmp 20) (.seq (.reg [⟨(some 6), .mv (.const (.bool true)), none⟩])
 (.ret)) (.skip)))
 (.seq (.reg [⟨(some 7), .mv (.const (.int .i64 1048576)), none⟩])
 (.seq (.reg [⟨(some 21), .ld (some 4) (.tmp 3), none⟩,
  ⟨(some 22), .mv (.tmp 7), none⟩,
  ⟨(some 23), .call (.func 11) [(.tmp 21), (.tmp 22)], none⟩,
  ⟨(some 7), .mv (.tmp 23), none⟩])
 (.seq (.seq (.reg [⟨(some 24), .mv (.tmp 7), none⟩,
  ⟨(some 25), .bin .lss (.tmp 24) (.const (.int .i64 0)), none⟩])
 (.cond (.tmp 25) (.seq (.reg [⟨(some 6), .mv (.const (.bool true)), none⟩])
 (.ret)) (.skip)))
 (.seq (.reg [⟨(some 27), .ld (some 4) (.tmp 3), none⟩,
  ⟨(some 28), .call (.func 13) [(.tmp 27)], none⟩,
  ⟨(some 29), .mv (.tmp 1), none⟩,
  ⟨(some 30), .call (.func 23) [(.tmp 29)], none⟩,
  ⟨(some 31), .mv (.tmp 2), none⟩,
  ⟨(some 32), .call (.func 23) [(.tmp 31)], none⟩,
  ⟨(some 33), .call (.func 33) [(.tmp 28), (.tmp 30), (.tmp 32)], none⟩,
  ⟨(some 26), .mv (.tmp 33), none⟩,
  ⟨(some 34), .ext 0 (.tmp 26), none⟩,
  ⟨(some 35), .ext 1 (.tmp 26), none⟩,
  ⟨(some 8), .mv (.tmp 34), none⟩,
  ⟨(some 9), .mv (.tmp 35), none⟩])
 (.seq (.reg [⟨(some 36), .ld (some 4) (.tmp 3), none⟩,
  ⟨(some 37), .call (.func 13) [(.tmp 36)], none⟩,
  ⟨(some 10), .alc 28 [(.slice none 0 0), (.slice none 0 0), (.slice none 0 0), (.slice none 0 0)], none⟩,
  ⟨none, .st 4 (.tmp 10) (.tmp 37), none⟩])
 (.seq (.reg [⟨(some 38), .mv (.tmp 1), none⟩,
  ⟨(some 39), .call (.func 23) [(.tmp 38)], none⟩,
  ⟨(some 11), .mv (.tmp 39), none⟩])
 (.seq (.reg [⟨(some 40), .mv (.tmp 2), none⟩,
  ⟨(some 41), .call (.func 23) [(.tmp 40)], none⟩,
  ⟨(some 12), .mv (.tmp 41), none⟩])
 (.seq (.reg [⟨(some 43), .ld (some 4) (.tmp 10), none⟩,
  ⟨(some 44), .mv (.tmp 11), none⟩,
  ⟨(some 45), .mv (.tmp 12), none⟩,
  ⟨(some 46), .call (.func 34) [(.tmp 43), (.tmp 44), (.tmp 45)], none⟩,
  ⟨(some 42), .mv (.tmp 46), none⟩,
  ⟨(some 47), .ext 0 (.tmp 42), none⟩,
  ⟨(some 48), .ext 1 (.tmp 42), none⟩,
  ⟨(some 13), .mv (.tmp 47), none⟩,
  ⟨(some 14), .mv (.tmp 48), none⟩])
 (.seq (.seq (.reg [⟨(some 49), .mv (.tmp 13), none⟩,
  ⟨(some 50), .mv (.tmp 8), none⟩,
  ⟨(some 51), .beq true (.tmp 49) (.tmp 50), none⟩,
  ⟨(some 52), .mv (.tmp 51), none⟩,
  ⟨(some 53), .mv (.tmp 14), (some (52, false))⟩,
  ⟨(some 54), .mv (.tmp 9), (some (52, false))⟩,
  ⟨(some 55), .beq true (.tmp 53) (.tmp 54), (some (52, false))⟩,
  ⟨(some 56), .pick (.tmp 52) (.const (.bool true)) (.tmp 55), none⟩])
 (.cond (.tmp 56) (.seq (.reg [⟨(some 6), .mv (.const (.bool false)), none⟩])
 (.ret)) (.skip)))
 (.seq (.seq (.reg [⟨(some 57), .ld (some 4) (.tmp 10), none⟩,
  ⟨(some 58), .ld (some 4) (.tmp 3), none⟩,
  ⟨(some 59), .rcall (.func 13) [(.tmp 58)], none⟩,
  ⟨(some 60), .rcall (.func 15) [(.tmp 57), (.tmp 59)], none⟩,
  ⟨(some 61), .un .not (.tmp 60), none⟩])
 (.cond (.tmp 61) (.seq (.reg [⟨(some 6), .mv (.const (.bool false)), none⟩])
 (.ret)) (.skip)))
 (.seq (.seq (.reg [⟨(some 62), .mv (.tmp 11), none⟩,
  ⟨(some 63), .mv (.tmp 1), none⟩,
  ⟨(some 64), .call (.func 23) [(.tmp 63)], none⟩,
  ⟨(some 65), .call (.func 18) [(.tmp 62), (.tmp 64)], none⟩,
  ⟨(some 66), .un .not (.tmp 65), none⟩])
 (.cond (.tmp 66) (.seq (.reg [⟨(some 6), .mv (.const (.bool false)), none⟩])
 (.ret)) (.skip)))
 (.seq (.seq (.reg [⟨(some 67), .mv (.tmp 12), none⟩,
  ⟨(some 68), .mv (.tmp 2), none⟩,
  ⟨(some 69), .call (.func 23) [(.tmp 68)], none⟩,
  ⟨(some 70), .call (.func 18) [(.tmp 67), (.tmp 69)], none⟩,
  ⟨(some 71), .un .not (.tmp 70), none⟩])
 (.cond (.tmp 71) (.seq (.reg [⟨(some 6), .mv (.const (.bool false)), none⟩])
 (.ret)) (.skip)))
 (.seq (.reg [⟨(some 6), .mv (.const (.bool true)), none⟩])
 (.ret))))))))))))))))
def r_laws_FnExactIsPriceProof : List ARes := [.tmp 6]
theorem ok_laws_FnExactIsPriceProof : FnOk Try.prog 10 72 c_laws_FnExactIsPriceProof r_laws_FnExactIsPriceProof := ⟨⟨Try.f10, _, Try.func10, by kernel_rfl, rfl, rfl, by kernel_rfl, by kernel_rfl⟩⟩
end Go.Proofs.Ytonpeflncnccdaa.Ab
