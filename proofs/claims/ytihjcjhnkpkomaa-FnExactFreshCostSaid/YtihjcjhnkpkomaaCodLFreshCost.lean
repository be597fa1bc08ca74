/- The compiled forms of functions, each checked against the translation. -/
import Derived.Test.YtihjcjhnkpkomaaAb2
import Derived.Test.YtihjcjhnkpkomaaProg
namespace Go.Proofs.Ytihjcjhnkpkomaa.Ab
open Go Go.RowKit Go.Proofs
set_option maxRecDepth 100000
def c_laws_FnExactFreshCost : ACode := .seq (.reg [⟨(some 3), .box 54 (.tmp 0), none⟩,
  ⟨(some 6), .mv (.const (.bool false)), none⟩])
 (.seq (.seq (.reg [⟨(some 14), .mv (.tmp 2), none⟩,
  ⟨(some 15), .len (.tmp 14), none⟩,
  ⟨(some 16), .bin .gtr (.tmp 15) (.const (.int .i64 1048576)), none⟩])
 (.cond (.tmp 16) (.seq (.reg [⟨(some 6), .mv (.const (.bool true)), none⟩])
 (.ret)) (.skip)))
 (.seq (.reg [⟨(some 7), .mv (.const (.int .i64 1048576)), none⟩])
 (.seq (.reg [⟨(some 17), .ld (some 4) (.tmp 3), none⟩,
  ⟨(some 18), .mv (.tmp 7), none⟩,
  ⟨(some 19), .call (.func 49) [(.tmp 17), (.tmp 18)], none⟩,
  ⟨(some 7), .mv (.tmp 19), none⟩])
 (.seq (.seq (.reg [⟨(some 20), .mv (.tmp 7), none⟩,
  ⟨(some 21), .bin .lss (.tmp 20) (.const (.int .i64 0)), none⟩])
 (.cond (.tmp 21) (.seq (.reg [⟨(some 6), .mv (.const (.bool true)), none⟩])
 (.ret)) (.skip)))
 (.seq (.reg [⟨(some 23), .ld (some 4) (.tmp 3), none⟩,
  ⟨(some 24), .call (.func 51) [(.tmp 23)], none⟩,
  ⟨(some 25), .mv (.tmp 1), none⟩,
  ⟨(some 26), .mv (.tmp 2), none⟩,
  ⟨(some 27), .call (.func 45) [(.tmp 26)], none⟩,
  ⟨(some 28), .call (.func 50) [(.tmp 24), (.tmp 25), (.tmp 27)], none⟩,
  ⟨(some 22), .mv (.tmp 28), none⟩,
  ⟨(some 29), .ext 0 (.tmp 22), none⟩,
  ⟨(some 30), .ext 1 (.tmp 22), none⟩,
  ⟨(some 8), .mv (.tmp 29), none⟩,
  ⟨(some 9), .mv (.tmp 30), none⟩])
 (.seq (.reg [⟨(some 31), .ld (some 4) (.tmp 3), none⟩,
  ⟨(some 32), .call (.func 51) [(.tmp 31)], none⟩,
  ⟨(some 10), .alc 57 [(.slice none 0 0), (.slice none 0 0), (.slice none 0 0), (.slice none 0 0)], none⟩,
  ⟨none, .st 4 (.tmp 10) (.tmp 32), none⟩])
 (.seq (.reg [⟨(some 33), .mv (.tmp 2), none⟩,
  ⟨(some 34), .call (.func 45) [(.tmp 33)], none⟩,
  ⟨(some 11), .mv (.tmp 34), none⟩])
 (.seq (.reg [⟨(some 36), .ld (some 4) (.tmp 10), none⟩,
  ⟨(some 37), .mv (.tmp 1), none⟩,
  ⟨(some 38), .mv (.tmp 11), none⟩,
  ⟨(some 39), .call (.func 52) [(.tmp 36), (.tmp 37), (.tmp 38)], none⟩,
  ⟨(some 35), .mv (.tmp 39), none⟩,
  ⟨(some 40), .ext 0 (.tmp 35), none⟩,
  ⟨(some 41), .ext 1 (.tmp 35), none⟩,
  ⟨(some 12), .mv (.tmp 40), none⟩,
  ⟨(some 13), .mv (.tmp 41), none⟩])
 (.seq (.seq (.reg [⟨(some 42), .mv (.tmp 12), none⟩,
  ⟨(some 43), .mv (.tmp 8), none⟩,
  ⟨(some 44), .bin .neq (.tmp 42) (.tmp 43), none⟩,
  ⟨(some 45), .mv (.tmp 44), none⟩,
  ⟨(some 46), .mv (.tmp 13), (some (45, false))⟩,
  ⟨(some 47), .mv (.tmp 9), (some (45, false))⟩,
  ⟨(some 48), .beq true (.tmp 46) (.tmp 47), (some (45, false))⟩,
  ⟨(some 49), .pick (.tmp 45) (.const (.bool true)) (.tmp 48), none⟩])
 (.cond (.tmp 49) (.seq (.reg [⟨(some 6), .mv (.const (.bool false)), none⟩])
 (.ret)) (.skip)))
 (.seq (.seq (.reg [⟨(some 50), .ld (some 4) (.tmp 10), none⟩,
  ⟨(some 51), .ld (some 4) (.tmp 3), none⟩,
  ⟨(some 52), .rcall (.func 51) [(.tmp 51)], none⟩,
  ⟨(some 53), .rcall (.func 53) [(.tmp 50), (.tmp 52)], none⟩,
  ⟨(some 54), .un .not (.tmp 53), none⟩])
 (.cond (.tmp 54) (.seq (.reg [⟨(some 6), .mv (.const (.bool false)), none⟩])
 (.ret)) (.skip)))
 (.seq (.seq (.reg [⟨(some 55), .mv (.tmp 11), none⟩,
  ⟨(some 56), .mv (.tmp 2), none⟩,
  ⟨(some 57), .call (.func 45) [(.tmp 56)], none⟩,
  ⟨(some 58), .call (.func 35) [(.tmp 55), (.tmp 57)], none⟩,
  ⟨(some 59), .un .not (.tmp 58), none⟩])
 (.cond (.tmp 59) (.seq (.reg [⟨(some 6), .mv (.const (.bool false)), none⟩])
 (.ret)) (.skip)))
 (.seq (.reg [⟨(some 6), .mv (.const (.bool true)), none⟩])
 (.ret)))))))))))))
def r_laws_FnExactFreshCost : List ARes := [.tmp 6]
theorem ok_laws_FnExactFreshCost : FnOk Try.prog 13 60 c_laws_FnExactFreshCost r_laws_FnExactFreshCost := ⟨⟨Try.f13, _, Try.func13, by kernel_rfl, rfl, rfl, by kernel_rfl, by kernel_rfl⟩⟩
end Go.Proofs.Ytihjcjhnkpkomaa.Ab
