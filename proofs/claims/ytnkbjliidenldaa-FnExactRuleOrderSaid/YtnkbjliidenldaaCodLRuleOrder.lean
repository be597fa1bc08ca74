/- The compiled forms of functions, each checked against the translation. -/
import Derived.Test.YtnkbjliidenldaaAb2
import Derived.Test.YtnkbjliidenldaaProg
namespace Go.Proofs.Ytnkbjliidenldaa.Ab
open Go Go.RowKit Go.Proofs
set_option maxRecDepth 100000
def c_laws_FnExactRuleOrder : ACode := .seq (.reg [⟨(some 2), .box 24 (.tmp 0), none⟩,
  ⟨(some 3), .box 38 (.tmp 1), none⟩,
  ⟨(some 4), .mv (.const (.bool false)), none⟩])
 (.seq (.reg [⟨(some 5), .mv (.const (.int .i64 1048576)), none⟩])
 (.seq (.reg [⟨(some 11), .ld (some 2) (.tmp 2), none⟩,
  ⟨(some 12), .mv (.tmp 5), none⟩,
  ⟨(some 13), .call (.func 18) [(.tmp 11), (.tmp 12)], none⟩,
  ⟨(some 5), .mv (.tmp 13), none⟩])
 (.seq (.seq (.reg [⟨(some 14), .mv (.tmp 5), none⟩,
  ⟨(some 15), .bin .lss (.tmp 14) (.const (.int .i64 0)), none⟩])
 (.cond (.tmp 15) (.seq (.reg [⟨(some 4), .mv (.const (.bool true)), none⟩])
 (.ret)) (.skip)))
 (.seq (.reg [⟨(some 17), .ld (some 2) (.tmp 2), none⟩,
  ⟨(some 19), .ld (some 3) (.tmp 3), none⟩,
  ⟨(some 18), .rcall (.func 20) [(.tmp 17)], none⟩,
  ⟨(some 20), .rcall (.func 30) [(.tmp 19)], none⟩,
  ⟨(some 21), .rcall (.func 32) [(.tmp 18), (.tmp 20)], none⟩,
  ⟨(some 16), .mv (.tmp 21), none⟩,
  ⟨(some 22), .ext 0 (.tmp 16), none⟩,
  ⟨(some 23), .ext 1 (.tmp 16), none⟩,
  ⟨(some 6), .mv (.tmp 22), none⟩,
  ⟨(some 7), .mv (.tmp 23), none⟩])
 (.seq (.reg [⟨(some 24), .ld (some 2) (.tmp 2), none⟩,
  ⟨(some 25), .call (.func 20) [(.tmp 24)], none⟩,
  ⟨(some 8), .alc 27 [(.int .i64 0), (.slice none 0 0)], none⟩,
  ⟨none, .st 2 (.tmp 8) (.tmp 25), none⟩])
 (.seq (.reg [⟨(some 27), .ld (some 2) (.tmp 8), none⟩,
  ⟨(some 28), .ld (some 3) (.tmp 3), none⟩,
  ⟨(some 29), .rcall (.func 30) [(.tmp 28)], none⟩,
  ⟨(some 30), .rcall (.func 33) [(.tmp 27), (.tmp 29)], none⟩,
  ⟨(some 26), .mv (.tmp 30), none⟩,
  ⟨(some 31), .ext 0 (.tmp 26), none⟩,
  ⟨(some 32), .ext 1 (.tmp 26), none⟩,
  ⟨(some 9), .mv (.tmp 31), none⟩,
  ⟨(some 10), .mv (.tmp 32), none⟩])
 (.seq (.seq (.reg [⟨(some 33), .mv (.tmp 9), none⟩,
  ⟨(some 34), .mv (.tmp 6), none⟩,
  ⟨(some 35), .bin .neq (.tmp 33) (.tmp 34), none⟩,
  ⟨(some 36), .mv (.tmp 35), none⟩,
  ⟨(some 37), .mv (.tmp 10), (some (36, false))⟩,
  ⟨(some 38), .mv (.tmp 7), (some (36, false))⟩,
  ⟨(some 39), .beq true (.tmp 37) (.tmp 38), (some (36, false))⟩,
  ⟨(some 40), .pick (.tmp 36) (.const (.bool true)) (.tmp 39), none⟩])
 (.cond (.tmp 40) (.seq (.reg [⟨(some 4), .mv (.const (.bool false)), none⟩])
 (.ret)) (.skip)))
 (.seq (.seq (.reg [⟨(some 41), .ld (some 2) (.tmp 8), none⟩,
  ⟨(some 42), .ld (some 2) (.tmp 2), none⟩,
  ⟨(some 43), .rcall (.func 20) [(.tmp 42)], none⟩,
  ⟨(some 44), .rcall (.func 22) [(.tmp 41), (.tmp 43)], none⟩,
  ⟨(some 45), .un .not (.tmp 44), none⟩])
 (.cond (.tmp 45) (.seq (.reg [⟨(some 4), .mv (.const (.bool false)), none⟩])
 (.ret)) (.skip)))
 (.seq (.reg [⟨(some 4), .mv (.const (.bool true)), none⟩])
 (.ret))))))))))
def r_laws_FnExactRuleOrder : List ARes := [.tmp 4]
theorem ok_laws_FnExactRuleOrder : FnOk Try.prog 7 46 c_laws_FnExactRuleOrder r_laws_FnExactRuleOrder := ⟨⟨Try.f7, _, Try.func7, by kernel_rfl, rfl, rfl, by kernel_rfl, by kernel_rfl⟩⟩
end Go.Proofs.Ytnkbjliidenldaa.Ab
