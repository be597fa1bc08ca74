/- The compiled forms of functions, each checked against the translation. -/
import Derived.Test.YtddnedngjijpoaaAb2
import Derived.Test.YtddnedngjijpoaaProg
namespace Go.Proofs.Ytddnedngjijpoaa.Ab
open Go Go.RowKit Go.Proofs
set_option maxRecDepth 100000
def c_laws_FnExactStepLevel : ACode := .seq (.reg [⟨(some 5), .box 57 (.tmp 0), none⟩,
  ⟨(some 10), .mv (.const (.bool false)), none⟩])
 (.seq (.reg [⟨(some 11), .mv (.const (.int .i64 1048576)), none⟩])
 (.seq (.reg [⟨(some 22), .ld (some 6) (.tmp 5), none⟩,
  ⟨(some 23), .mv (.tmp 11), none⟩,
  ⟨(some 24), .call (.func 44) [(.tmp 22), (.tmp 23)], none⟩,
  ⟨(some 11), .mv (.tmp 24), none⟩])
 (.seq (.seq (.reg [⟨(some 25), .mv (.tmp 11), none⟩,
  ⟨(some 26), .bin .lss (.tmp 25) (.const (.int .i64 0)), none⟩])
 (.cond (.tmp 26) (.seq (.reg [⟨(some 10), .mv (.const (.bool true)), none⟩])
 (.ret)) (.skip)))
 (.seq (.reg [⟨(some 27), .mv (.tmp 1), none⟩,
  ⟨(some 28), .mv (.tmp 11), none⟩,
  ⟨(some 29), .call (.func 59) [(.tmp 27), (.tmp 28)], none⟩,
  ⟨(some 11), .mv (.tmp 29), none⟩])
 (.seq (.seq (.reg [⟨(some 30), .mv (.tmp 11), none⟩,
  ⟨(some 31), .bin .lss (.tmp 30) (.const (.int .i64 0)), none⟩])
 (.cond (.tmp 31) (.seq (.reg [⟨(some 10), .mv (.const (.bool true)), none⟩])
 (.ret)) (.skip)))
 (.seq (.reg [⟨(some 33), .ld (some 6) (.tmp 5), none⟩,
  ⟨(some 34), .call (.func 46) [(.tmp 33)], none⟩,
  ⟨(some 35), .mv (.tmp 1), none⟩,
  ⟨(some 36), .call (.func 60) [(.tmp 35)], none⟩,
  ⟨(some 37), .mv (.tmp 2), none⟩,
  ⟨(some 38), .mv (.tmp 3), none⟩,
  ⟨(some 39), .mv (.tmp 4), none⟩,
  ⟨(some 40), .call (.func 63) [(.tmp 34), (.tmp 36), (.tmp 37), (.tmp 38), (.tmp 39)], none⟩,
  ⟨(some 32), .mv (.tmp 40), none⟩,
  ⟨(some 41), .ext 0 (.tmp 32), none⟩,
  ⟨(some 42), .ext 1 (.tmp 32), none⟩,
  ⟨(some 43), .ext 2 (.tmp 32), none⟩,
  ⟨(some 44), .ext 3 (.tmp 32), none⟩,
  ⟨(some 12), .mv (.tmp 41), none⟩,
  ⟨(some 13), .mv (.tmp 42), none⟩,
  ⟨(some 14), .mv (.tmp 43), none⟩,
  ⟨(some 15), .mv (.tmp 44), none⟩])
 (.seq (.reg [⟨(some 45), .ld (some 6) (.tmp 5), none⟩,
  ⟨(some 46), .call (.func 46) [(.tmp 45)], none⟩,
  ⟨(some 16), .alc 26 [(.int .i64 0), (.slice none 0 0), (.int .i64 0), (.int .i64 0), (.int .i64 0), (.int .i64 0)], none⟩,
  ⟨none, .st 6 (.tmp 16) (.tmp 46), none⟩])
 (.seq (.reg [⟨(some 47), .mv (.tmp 1), none⟩,
  ⟨(some 48), .call (.func 60) [(.tmp 47)], none⟩,
  ⟨(some 17), .mv (.tmp 48), none⟩])
 (.seq (.reg [⟨(some 50), .ld (some 6) (.tmp 16), none⟩,
  ⟨(some 51), .mv (.tmp 17), none⟩,
  ⟨(some 52), .mv (.tmp 2), none⟩,
  ⟨(some 53), .mv (.tmp 3), none⟩,
  ⟨(some 54), .mv (.tmp 4), none⟩,
  ⟨(some 55), .call (.func 64) [(.tmp 50), (.tmp 51), (.tmp 52), (.tmp 53), (.tmp 54)], none⟩,
  ⟨(some 49), .mv (.tmp 55), none⟩,
  ⟨(some 56), .ext 0 (.tmp 49), none⟩,
  ⟨(some 57), .ext 1 (.tmp 49), none⟩,
  ⟨(some 58), .ext 2 (.tmp 49), none⟩,
  ⟨(some 59), .ext 3 (.tmp 49), none⟩,
  ⟨(some 18), .mv (.tmp 56), none⟩,
  ⟨(some 19), .mv (.tmp 57), none⟩,
  ⟨(some 20), .mv (.tmp 58), none⟩,
  ⟨(some 21), .mv (.tmp 59), none⟩])
 (.seq (.seq (.reg [⟨(some 60), .mv (.tmp 18), none⟩,
  ⟨(some 61), .mv (.tmp 12), none⟩,
  ⟨(some 62), .bin .neq (.tmp 60) (.tmp 61), none⟩,
  ⟨(some 63), .mv (.tmp 62), none⟩,
  ⟨(some 64), .mv (.tmp 19), (some (63, false))⟩,
  ⟨(some 65), .mv (.tmp 13), (some (63, false))⟩,
  ⟨(some 66), .bin .neq (.tmp 64) (.tmp 65), (some (63, false))⟩,
  ⟨(some 67), .pick (.tmp 63) (.const (.bool true)) (.tmp 66), none⟩,
  ⟨(some 68), .mv (.tmp 67), none⟩,
  ⟨(some 69), .mv (.tmp 20), (some (68, false))⟩,
  ⟨(some 70), .mv (.tmp 14), (some (68, false))⟩,
  ⟨(some 71), .bin .neq (.tmp 69) (.tmp 70), (some (68, false))⟩,
  ⟨(some 72), .pick (.tmp 68) (.const (.bool true)) (.tmp 71), none⟩,
  ⟨(some 73), .mv (.tmp 72), none⟩,
  ⟨(some 74), .mv (.tmp 21), (some (73, false))⟩,
  ⟨(some 75), .mv (.tmp 15), (some (73, false))⟩,
  ⟨(some 76), .beq true (.tmp 74) (.tmp 75), (some (73, false))⟩,
  ⟨(some 77), .pick (.tmp 73) (.const (.bool true)) (.tmp 76), none⟩])
 (.cond (.tmp 77) (.seq (.reg [⟨(some 10), .mv (.const (.bool false)), none⟩])
 (.ret)) (.skip)))
 (.seq (.seq (.reg [⟨(some 78), .ld (some 6) (.tmp 16), none⟩,
  ⟨(some 79), .ld (some 6) (.tmp 5), none⟩,
  ⟨(some 80), .rcall (.func 46) [(.tmp 79)], none⟩,
  ⟨(some 81), .rcall (.func 47) [(.tmp 78), (.tmp 80)], none⟩,
  ⟨(some 82), .un .not (.tmp 81), none⟩])
 (.cond (.tmp 82) (.seq (.reg [⟨(some 10), .mv (.const (.bool false)), none⟩])
 (.ret)) (.skip)))
 (.seq (.seq (.reg [⟨(some 83), .mv (.tmp 17), none⟩,
  ⟨(some 84), .mv (.tmp 1), none⟩,
  ⟨(some 85), .call (.func 60) [(.tmp 84)], none⟩,
  ⟨(some 86), .call (.func 55) [(.tmp 83), (.tmp 85)], none⟩,
  ⟨(some 87), .un .not (.tmp 86), none⟩])
 (.cond (.tmp 87) (.seq (.reg [⟨(some 10), .mv (.const (.bool false)), none⟩])
 (.ret)) (.skip)))
 (.seq (.reg [⟨(some 10), .mv (.const (.bool true)), none⟩])
 (.ret))))))))))))))
def r_laws_FnExactStepLevel : List ARes := [.tmp 10]
theorem ok_laws_FnExactStepLevel : FnOk Try.prog 15 88 c_laws_FnExactStepLevel r_laws_FnExactStepLevel := ⟨⟨Try.f15, _, Try.func15, by kernel_rfl, rfl, rfl, by kernel_rfl, by kernel_rfl⟩⟩
end Go.Proofs.Ytddnedngjijpoaa.Ab
