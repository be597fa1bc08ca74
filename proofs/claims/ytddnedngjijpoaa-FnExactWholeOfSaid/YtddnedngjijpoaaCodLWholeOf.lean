/- The compiled forms of functions, each checked against the translation. -/
import Derived.Test.YtddnedngjijpoaaAb2
import Derived.Test.YtddnedngjijpoaaProg
namespace Go.Proofs.Ytddnedngjijpoaa.Ab
open Go Go.RowKit Go.Proofs
set_option maxRecDepth 100000
def c_laws_FnExactWholeOf : ACode := .seq (.reg [⟨(some 1), .box 57 (.tmp 0), none⟩,
  ⟨(some 2), .mv (.const (.bool false)), none⟩])
 (.seq (.reg [⟨(some 3), .mv (.const (.int .i64 1048576)), none⟩])
 (.seq (.reg [⟨(some 11), .ld (some 6) (.tmp 1), none⟩,
  ⟨(some 12), .mv (.tmp 3), none⟩,
  ⟨(some 13), .call (.func 44) [(.tmp 11), (.tmp 12)], none⟩,
  ⟨(some 3), .mv (.tmp 13), none⟩])
 (.seq (.seq (.reg [⟨(some 14), .mv (.tmp 3), none⟩,
  ⟨(some 15), .bin .lss (.tmp 14) (.const (.int .i64 0)), none⟩])
 (.cond (.tmp 15) (.seq (.reg [⟨(some 2), .mv (.const (.bool true)), none⟩])
 (.ret)) (.skip)))
 (.seq (.reg [⟨(some 17), .ld (some 6) (.tmp 1), none⟩,
  ⟨(some 18), .call (.func 46) [(.tmp 17)], none⟩,
  ⟨(some 19), .call (.func 32) [(.tmp 18)], none⟩,
  ⟨(some 16), .mv (.tmp 19), none⟩,
  ⟨(some 20), .ext 0 (.tmp 16), none⟩,
  ⟨(some 21), .ext 1 (.tmp 16), none⟩,
  ⟨(some 22), .ext 2 (.tmp 16), none⟩,
  ⟨(some 4), .mv (.tmp 20), none⟩,
  ⟨(some 5), .mv (.tmp 21), none⟩,
  ⟨(some 6), .mv (.tmp 22), none⟩])
 (.seq (.reg [⟨(some 23), .ld (some 6) (.tmp 1), none⟩,
  ⟨(some 24), .call (.func 46) [(.tmp 23)], none⟩,
  ⟨(some 7), .alc 26 [(.int .i64 0), (.slice none 0 0), (.int .i64 0), (.int .i64 0), (.int .i64 0), (.int .i64 0)], none⟩,
  ⟨none, .st 6 (.tmp 7) (.tmp 24), none⟩])
 (.seq (.reg [⟨(some 26), .ld (some 6) (.tmp 7), none⟩,
  ⟨(some 27), .call (.func 31) [(.tmp 26)], none⟩,
  ⟨(some 25), .mv (.tmp 27), none⟩,
  ⟨(some 28), .ext 0 (.tmp 25), none⟩,
  ⟨(some 29), .ext 1 (.tmp 25), none⟩,
  ⟨(some 30), .ext 2 (.tmp 25), none⟩,
  ⟨(some 8), .mv (.tmp 28), none⟩,
  ⟨(some 9), .mv (.tmp 29), none⟩,
  ⟨(some 10), .mv (.tmp 30), none⟩])
 (.seq (.seq (.reg [⟨(some 31), .mv (.tmp 8), none⟩,
  ⟨(some 32), .mv (.tmp 4), none⟩,
  ⟨(some 33), .bin .neq (.tmp 31) (.tmp 32), none⟩,
  ⟨(some 34), .mv (.tmp 33), none⟩,
  ⟨(some 35), .mv (.tmp 9), (some (34, false))⟩,
  ⟨(some 36), .mv (.tmp 5), (some (34, false))⟩,
  ⟨(some 37), .bin .neq (.tmp 35) (.tmp 36), (some (34, false))⟩,
  ⟨(some 38), .pick (.tmp 34) (.const (.bool true)) (.tmp 37), none⟩,
  ⟨(some 39), .mv (.tmp 38), none⟩,
  ⟨(some 40), .mv (.tmp 10), (some (39, false))⟩,
  ⟨(some 41), .mv (.tmp 6), (some (39, false))⟩,
  ⟨(some 42), .beq true (.tmp 40) (.tmp 41), (some (39, false))⟩,
  ⟨(some 43), .pick (.tmp 39) (.const (.bool true)) (.tmp 42), none⟩])
 (.cond (.tmp 43) (.seq (.reg [⟨(some 2), .mv (.const (.bool false)), none⟩])
 (.ret)) (.skip)))
 (.seq (.seq (.reg [⟨(some 44), .ld (some 6) (.tmp 7), none⟩,
  ⟨(some 45), .ld (some 6) (.tmp 1), none⟩,
  ⟨(some 46), .rcall (.func 46) [(.tmp 45)], none⟩,
  ⟨(some 47), .rcall (.func 47) [(.tmp 44), (.tmp 46)], none⟩,
  ⟨(some 48), .un .not (.tmp 47), none⟩])
 (.cond (.tmp 48) (.seq (.reg [⟨(some 2), .mv (.const (.bool false)), none⟩])
 (.ret)) (.skip)))
 (.seq (.reg [⟨(some 2), .mv (.const (.bool true)), none⟩])
 (.ret))))))))))
def r_laws_FnExactWholeOf : List ARes := [.tmp 2]
theorem ok_laws_FnExactWholeOf : FnOk Try.prog 6 49 c_laws_FnExactWholeOf r_laws_FnExactWholeOf := ⟨⟨Try.f6, _, Try.func6, by kernel_rfl, rfl, rfl, by kernel_rfl, by kernel_rfl⟩⟩
end Go.Proofs.Ytddnedngjijpoaa.Ab
