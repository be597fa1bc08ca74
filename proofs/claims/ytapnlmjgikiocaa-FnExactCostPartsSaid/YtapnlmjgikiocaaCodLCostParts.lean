/- The compiled forms of functions, each checked against the translation. -/
import Derived.Test.YtapnlmjgikiocaaAb2
import Derived.Test.YtapnlmjgikiocaaProg
namespace Go.Proofs.Ytapnlmjgikiocaa.Ab
open Go Go.RowKit Go.Proofs
set_option maxRecDepth 100000
def c_laws_FnExactCostParts : ACode := .seq (.reg [⟨(some 2), .box 24 (.tmp 0), none⟩,
  ⟨(some 4), .mv (.const (.bool false)), none⟩])
 (.seq (.seq (.reg [⟨(some 16), .mv (.tmp 1), none⟩,
  ⟨(some 17), .len (.tmp 16), none⟩,
  ⟨(some 18), .bin .gtr (.tmp 17) (.const (.int .i64 1048576)), none⟩])
 (.cond (.tmp 18) (.seq (.reg [⟨(some 4), .mv (.const (.bool true)), none⟩])
 (.ret)) (.skip)))
 (.seq (.reg [⟨(some 5), .mv (.const (.int .i64 1048576)), none⟩])
 (.seq (.reg [⟨(some 19), .ld (some 4) (.tmp 2), none⟩,
  ⟨(some 20), .mv (.tmp 5), none⟩,
  ⟨(some 21), .call (.func 11) [(.tmp 19), (.tmp 20)], none⟩,
  ⟨(some 5), .mv (.tmp 21), none⟩])
 (.seq (.seq (.reg [⟨(some 22), .mv (.tmp 5), none⟩,
  ⟨(some 23), .bin .lss (.tmp 22) (.const (.int .i64 0)), none⟩])
 (.cond (.tmp 23) (.seq (.reg [⟨(some 4), .mv (.const (.bool true)), none⟩])
 (.ret)) (.skip)))
 (.seq (.reg [⟨(some 25), .ld (some 4) (.tmp 2), none⟩,
  ⟨(some 26), .call (.func 13) [(.tmp 25)], none⟩,
  ⟨(some 27), .mv (.tmp 1), none⟩,
  ⟨(some 28), .call (.func 17) [(.tmp 27)], none⟩,
  ⟨(some 29), .call (.func 27) [(.tmp 26), (.tmp 28)], none⟩,
  ⟨(some 24), .mv (.tmp 29), none⟩,
  ⟨(some 30), .ext 0 (.tmp 24), none⟩,
  ⟨(some 31), .ext 1 (.tmp 24), none⟩,
  ⟨(some 32), .ext 2 (.tmp 24), none⟩,
  ⟨(some 33), .ext 3 (.tmp 24), none⟩,
  ⟨(some 6), .mv (.tmp 30), none⟩,
  ⟨(some 7), .mv (.tmp 31), none⟩,
  ⟨(some 8), .mv (.tmp 32), none⟩,
  ⟨(some 9), .mv (.tmp 33), none⟩])
 (.seq (.reg [⟨(some 34), .ld (some 4) (.tmp 2), none⟩,
  ⟨(some 35), .call (.func 13) [(.tmp 34)], none⟩,
  ⟨(some 10), .alc 27 [(.slice none 0 0), (.slice none 0 0), (.slice none 0 0), (.slice none 0 0)], none⟩,
  ⟨none, .st 4 (.tmp 10) (.tmp 35), none⟩])
 (.seq (.reg [⟨(some 36), .mv (.tmp 1), none⟩,
  ⟨(some 37), .call (.func 17) [(.tmp 36)], none⟩,
  ⟨(some 11), .mv (.tmp 37), none⟩])
 (.seq (.reg [⟨(some 39), .ld (some 4) (.tmp 10), none⟩,
  ⟨(some 40), .mv (.tmp 11), none⟩,
  ⟨(some 41), .call (.func 28) [(.tmp 39), (.tmp 40)], none⟩,
  ⟨(some 38), .mv (.tmp 41), none⟩,
  ⟨(some 42), .ext 0 (.tmp 38), none⟩,
  ⟨(some 43), .ext 1 (.tmp 38), none⟩,
  ⟨(some 44), .ext 2 (.tmp 38), none⟩,
  ⟨(some 45), .ext 3 (.tmp 38), none⟩,
  ⟨(some 12), .mv (.tmp 42), none⟩,
  ⟨(some 13), .mv (.tmp 43), none⟩,
  ⟨(some 14), .mv (.tmp 44), none⟩,
  ⟨(some 15), .mv (.tmp 45), none⟩])
 (.seq (.seq (.reg [⟨(some 46), .mv (.tmp 12), none⟩,
  ⟨(some 47), .mv (.tmp 6), none⟩,
  ⟨(some 48), .bin .neq (.tmp 46) (.tmp 47), none⟩,
  ⟨(some 49), .mv (.tmp 48), none⟩,
  ⟨(some 50), .mv (.tmp 13), (some (49, false))⟩,
  ⟨(some 51), .mv (.tmp 7), (some (49, false))⟩,
  ⟨(some 52), .bin .neq (.tmp 50) (.tmp 51), (some (49, false))⟩,
  ⟨(some 53), .pick (.tmp 49) (.const (.bool true)) (.tmp 52), none⟩,
  ⟨(some 54), .mv (.tmp 53), none⟩,
  ⟨(some 55), .mv (.tmp 14), (some (54, false))⟩,
  ⟨(some 56), .mv (.tmp 8), (some (54, false))⟩,
  ⟨(some 57), .bin .neq (.tmp 55) (.tmp 56), (some (54, false))⟩,
  ⟨(some 58), .pick (.tmp 54) (.const (.bool true)) (.tmp 57), none⟩,
  ⟨(some 59), .mv (.tmp 58), none⟩,
  ⟨(some 60), .mv (.tmp 15), (some (59, false))⟩,
  ⟨(some 61), .mv (.tmp 9), (some (59, false))⟩,
  ⟨(some 62), .beq true (.tmp 60) (.tmp 61), (some (59, false))⟩,
  ⟨(some 63), .pick (.tmp 59) (.const (.bool true)) (.tmp 62), none⟩])
 (.cond (.tmp 63) (.seq (.reg [⟨(some 4), .mv (.const (.bool false)), none⟩])
 (.ret)) (.skip)))
 (.seq (.seq (.reg [⟨(some 64), .ld (some 4) (.tmp 10), none⟩,
  ⟨(some 65), .ld (some 4) (.tmp 2), none⟩,
  ⟨(some 66), .rcall (.func 13) [(.tmp 65)], none⟩,
  ⟨(some 67), .rcall (.func 15) [(.tmp 64), (.tmp 66)], none⟩,
  ⟨(some 68), .un .not (.tmp 67), none⟩])
 (.cond (.tmp 68) (.seq (.reg [⟨(some 4), .mv (.const (.bool false)), none⟩])
 (.ret)) (.skip)))
 (.seq (.seq (.reg [⟨(some 69), .mv (.tmp 11), none⟩,
  ⟨(some 70), .mv (.tmp 1), none⟩,
  ⟨(some 71), .call (.func 17) [(.tmp 70)], none⟩,
  ⟨(some 72), .call (.func 19) [(.tmp 69), (.tmp 71)], none⟩,
  ⟨(some 73), .un .not (.tmp 72), none⟩])
 (.cond (.tmp 73) (.seq (.reg [⟨(some 4), .mv (.const (.bool false)), none⟩])
 (.ret)) (.skip)))
 (.seq (.reg [⟨(some 4), .mv (.const (.bool true)), none⟩])
 (.ret)))))))))))))
def r_laws_FnExactCostParts : List ARes := [.tmp 4]
theorem ok_laws_FnExactCostParts : FnOk Try.prog 7 74 c_laws_FnExactCostParts r_laws_FnExactCostParts := ⟨⟨Try.f7, _, Try.func7, by kernel_rfl, rfl, rfl, by kernel_rfl, by kernel_rfl⟩⟩
end Go.Proofs.Ytapnlmjgikiocaa.Ab
