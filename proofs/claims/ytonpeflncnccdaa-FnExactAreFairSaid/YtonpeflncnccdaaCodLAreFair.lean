/- The compiled forms of functions, each checked against the translation. -/
import Derived.Test.YtonpeflncnccdaaAb2
import Derived.Test.YtonpeflncnccdaaProg
namespace Go.Proofs.Ytonpeflncnccdaa.Ab
open Go Go.RowKit Go.Proofs
set_option maxRecDepth 100000
def c_laws_FnExactAreFair : ACode := .seq (.reg [⟨(some 2), .box 24 (.tmp 0), none⟩,
  ⟨(some 4), .mv (.const (.bool false)), none⟩])
 (.seq (.seq (.reg [⟨(some 12), .mv (.tmp 1), none⟩,
  ⟨(some 13), .len (.tmp 12), none⟩,
  ⟨(some 14), .bin .gtr (.tmp 13) (.const (.int .i64 1048576)), none⟩])
 (.cond (.tmp 14) (.seq (.reg [⟨(some 4), .mv (.const (.bool true)), none⟩])
 (.ret)) (.skip)))
 (.seq (.reg [⟨(some 5), .mv (.const (.int .i64 1048576)), none⟩])
 (.seq (.reg [⟨(some 15), .ld (some 4) (.tmp 2), none⟩,
  ⟨(some 16), .mv (.tmp 5), none⟩,
  ⟨(some 17), .call (.func 11) [(.tmp 15), (.tmp 16)], none⟩,
  ⟨(some 5), .mv (.tmp 17), none⟩])
 (.seq (.seq (.reg [⟨(some 18), .mv (.tmp 5), none⟩,
  ⟨(some 19), .bin .lss (.tmp 18) (.const (.int .i64 0)), none⟩])
 (.cond (.tmp 19) (.seq (.reg [⟨(some 4), .mv (.const (.bool true)), none⟩])
 (.ret)) (.skip)))
 (.seq (.reg [⟨(some 21), .ld (some 4) (.tmp 2), none⟩,
  ⟨(some 22), .call (.func 13) [(.tmp 21)], none⟩,
  ⟨(some 23), .mv (.tmp 1), none⟩,
  ⟨(some 24), .call (.func 23) [(.tmp 23)], none⟩,
  ⟨(some 25), .call (.func 31) [(.tmp 22), (.tmp 24)], none⟩,
  ⟨(some 20), .mv (.tmp 25), none⟩,
  ⟨(some 26), .ext 0 (.tmp 20), none⟩,
  ⟨(some 27), .ext 1 (.tmp 20), none⟩,
  ⟨(some 6), .mv (.tmp 26), none⟩,
  ⟨(some 7), .mv (.tmp 27), none⟩])
 (.seq (.reg [⟨(some 28), .ld (some 4) (.tmp 2), none⟩,
  ⟨(some 29), .call (.func 13) [(.tmp 28)], none⟩,
  ⟨(some 8), .alc 28 [(.slice none 0 0), (.slice none 0 0), (.slice none 0 0), (.slice none 0 0)], none⟩,
  ⟨none, .st 4 (.tmp 8) (.tmp 29), none⟩])
 (.seq (.reg [⟨(some 30), .mv (.tmp 1), none⟩,
  ⟨(some 31), .call (.func 23) [(.tmp 30)], none⟩,
  ⟨(some 9), .mv (.tmp 31), none⟩])
 (.seq (.reg [⟨(some 33), .ld (some 4) (.tmp 8), none⟩,
  ⟨(some 34), .mv (.tmp 9), none⟩,
  ⟨(some 35), .call (.func 32) [(.tmp 33), (.tmp 34)], none⟩,
  ⟨(some 32), .mv (.tmp 35), none⟩,
  ⟨(some 36), .ext 0 (.tmp 32), none⟩,
  ⟨(some 37), .ext 1 (.tmp 32), none⟩,
  ⟨(some 10), .mv (.tmp 36), none⟩,
  ⟨(some 11), .mv (.tmp 37), none⟩])
 (.seq (.seq (.reg [⟨(some 38), .mv (.tmp 10), none⟩,
  ⟨(some 39), .mv (.tmp 6), none⟩,
  ⟨(some 40), .beq true (.tmp 38) (.tmp 39), none⟩,
  ⟨(some 41), .mv (.tmp 40), none⟩,
  ⟨(some 42), .mv (.tmp 11), (some (41, false))⟩,
  ⟨(some 43), .mv (.tmp 7), (some (41, false))⟩,
  ⟨(some 44), .beq true (.tmp 42) (.tmp 43), (some (41, false))⟩,
  ⟨(some 45), .pick (.tmp 41) (.const (.bool true)) (.tmp 44), none⟩])
 (.cond (.tmp 45) (.seq (.reg [⟨(some 4), .mv (.const (.bool false)), none⟩])
 (.ret)) (.skip)))
 (.seq (.seq (.reg [⟨(some 46), .ld (some 4) (.tmp 8), none⟩,
  ⟨(some 47), .ld (some 4) (.tmp 2), none⟩,
  ⟨(some 48), .rcall (.func 13) [(.tmp 47)], none⟩,
  ⟨(some 49), .rcall (.func 15) [(.tmp 46), (.tmp 48)], none⟩,
  ⟨(some 50), .un .not (.tmp 49), none⟩])
 (.cond (.tmp 50) (.seq (.reg [⟨(some 4), .mv (.const (.bool false)), none⟩])
 (.ret)) (.skip)))
 (.seq (.seq (.reg [⟨(some 51), .mv (.tmp 9), none⟩,
  ⟨(some 52), .mv (.tmp 1), none⟩,
  ⟨(some 53), .call (.func 23) [(.tmp 52)], none⟩,
  ⟨(some 54), .call (.func 18) [(.tmp 51), (.tmp 53)], none⟩,
  ⟨(some 55), .un .not (.tmp 54), none⟩])
 (.cond (.tmp 55) (.seq (.reg [⟨(some 4), .mv (.const (.bool false)), none⟩])
 (.ret)) (.skip)))
 (.seq (.reg [⟨(some 4), .mv (.const (.bool true)), none⟩])
 (.ret)))))))))))))
def r_laws_FnExactAreFair : List ARes := [.tmp 4]
theorem ok_laws_FnExactAreFair : FnOk Try.prog 9 56 c_laws_FnExactAreFair r_laws_FnExactAreFair := ⟨⟨Try.f9, _, Try.func9, by kernel_rfl, rfl, rfl, by kernel_rfl, by kernel_rfl⟩⟩
end Go.Proofs.Ytonpeflncnccdaa.Ab
