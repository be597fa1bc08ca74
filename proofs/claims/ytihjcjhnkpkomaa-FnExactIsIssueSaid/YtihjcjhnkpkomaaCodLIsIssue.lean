/- The compiled forms of functions, each checked against the translation. -/
import Derived.Test.YtihjcjhnkpkomaaAb2
import Derived.Test.YtihjcjhnkpkomaaProg
namespace Go.Proofs.Ytihjcjhnkpkomaa.Ab
open Go Go.RowKit Go.Proofs
set_option maxRecDepth 100000
def c_laws_FnExactIsIssue : ACode := .seq (.reg [⟨(some 2), .box 24 (.tmp 0), none⟩,
  ⟨(some 4), .mv (.const (.bool false)), none⟩])
 (.seq (.reg [⟨(some 5), .mv (.const (.int .i64 1048576)), none⟩])
 (.seq (.reg [⟨(some 12), .ld (some 5) (.tmp 2), none⟩,
  ⟨(some 13), .mv (.tmp 5), none⟩,
  ⟨(some 14), .call (.func 16) [(.tmp 12), (.tmp 13)], none⟩,
  ⟨(some 5), .mv (.tmp 14), none⟩])
 (.seq (.seq (.reg [⟨(some 15), .mv (.tmp 5), none⟩,
  ⟨(some 16), .bin .lss (.tmp 15) (.const (.int .i64 0)), none⟩])
 (.cond (.tmp 16) (.seq (.reg [⟨(some 4), .mv (.const (.bool true)), none⟩])
 (.ret)) (.skip)))
 (.seq (.reg [⟨(some 17), .mv (.tmp 1), none⟩,
  ⟨(some 18), .mv (.tmp 5), none⟩,
  ⟨(some 19), .call (.func 21) [(.tmp 17), (.tmp 18)], none⟩,
  ⟨(some 5), .mv (.tmp 19), none⟩])
 (.seq (.seq (.reg [⟨(some 20), .mv (.tmp 5), none⟩,
  ⟨(some 21), .bin .lss (.tmp 20) (.const (.int .i64 0)), none⟩])
 (.cond (.tmp 21) (.seq (.reg [⟨(some 4), .mv (.const (.bool true)), none⟩])
 (.ret)) (.skip)))
 (.seq (.reg [⟨(some 23), .ld (some 5) (.tmp 2), none⟩,
  ⟨(some 24), .call (.func 18) [(.tmp 23)], none⟩,
  ⟨(some 25), .mv (.tmp 1), none⟩,
  ⟨(some 26), .call (.func 23) [(.tmp 25)], none⟩,
  ⟨(some 27), .call (.func 22) [(.tmp 24), (.tmp 26)], none⟩,
  ⟨(some 22), .mv (.tmp 27), none⟩,
  ⟨(some 28), .ext 0 (.tmp 22), none⟩,
  ⟨(some 29), .ext 1 (.tmp 22), none⟩,
  ⟨(some 6), .mv (.tmp 28), none⟩,
  ⟨(some 7), .mv (.tmp 29), none⟩])
 (.seq (.reg [⟨(some 30), .ld (some 5) (.tmp 2), none⟩,
  ⟨(some 31), .call (.func 18) [(.tmp 30)], none⟩,
  ⟨(some 8), .alc 27 [(.int .i64 0), (.slice none 0 0), (.slice none 0 0), (.int .i64 0), (.int .i64 0)], none⟩,
  ⟨none, .st 5 (.tmp 8) (.tmp 31), none⟩])
 (.seq (.reg [⟨(some 32), .mv (.tmp 1), none⟩,
  ⟨(some 33), .call (.func 23) [(.tmp 32)], none⟩,
  ⟨(some 9), .mv (.tmp 33), none⟩])
 (.seq (.reg [⟨(some 35), .ld (some 5) (.tmp 8), none⟩,
  ⟨(some 36), .mv (.tmp 9), none⟩,
  ⟨(some 37), .call (.func 24) [(.tmp 35), (.tmp 36)], none⟩,
  ⟨(some 34), .mv (.tmp 37), none⟩,
  ⟨(some 38), .ext 0 (.tmp 34), none⟩,
  ⟨(some 39), .ext 1 (.tmp 34), none⟩,
  ⟨(some 10), .mv (.tmp 38), none⟩,
  ⟨(some 11), .mv (.tmp 39), none⟩])
 (.seq (.seq (.reg [⟨(some 40), .mv (.tmp 10), none⟩,
  ⟨(some 41), .mv (.tmp 6), none⟩,
  ⟨(some 42), .beq true (.tmp 40) (.tmp 41), none⟩,
  ⟨(some 43), .mv (.tmp 42), none⟩,
  ⟨(some 44), .mv (.tmp 11), (some (43, false))⟩,
  ⟨(some 45), .mv (.tmp 7), (some (43, false))⟩,
  ⟨(some 46), .beq true (.tmp 44) (.tmp 45), (some (43, false))⟩,
  ⟨(some 47), .pick (.tmp 43) (.const (.bool true)) (.tmp 46), none⟩])
 (.cond (.tmp 47) (.seq (.reg [⟨(some 4), .mv (.const (.bool false)), none⟩])
 (.ret)) (.skip)))
 (.seq (.seq (.reg [⟨(some 48), .ld (some 5) (.tmp 8), none⟩,
  ⟨(some 49), .ld (some 5) (.tmp 2), none⟩,
  ⟨(some 50), .rcall (.func 18) [(.tmp 49)], none⟩,
  ⟨(some 51), .rcall (.func 20) [(.tmp 48), (.tmp 50)], none⟩,
  ⟨(some 52), .un .not (.tmp 51), none⟩])
 (.cond (.tmp 52) (.seq (.reg [⟨(some 4), .mv (.const (.bool false)), none⟩])
 (.ret)) (.skip)))
 (.seq (.seq (.reg [⟨(some 53), .mv (.tmp 9), none⟩,
  ⟨(some 54), .mv (.tmp 1), none⟩,
  ⟨(some 55), .call (.func 23) [(.tmp 54)], none⟩,
  ⟨(some 56), .call (.func 25) [(.tmp 53), (.tmp 55)], none⟩,
  ⟨(some 57), .un .not (.tmp 56), none⟩])
 (.cond (.tmp 57) (.seq (.reg [⟨(some 4), .mv (.const (.bool false)), none⟩])
 (.ret)) (.skip)))
 (.seq (.reg [⟨(some 4), .mv (.const (.bool true)), none⟩])
 (.ret))))))))))))))
def r_laws_FnExactIsIssue : List ARes := [.tmp 4]
theorem ok_laws_FnExactIsIssue : FnOk Try.prog 4 58 c_laws_FnExactIsIssue r_laws_FnExactIsIssue := ⟨⟨Try.f4, _, Try.func4, by kernel_rfl, rfl, rfl, by kernel_rfl, by kernel_rfl⟩⟩
end Go.Proofs.Ytihjcjhnkpkomaa.Ab
