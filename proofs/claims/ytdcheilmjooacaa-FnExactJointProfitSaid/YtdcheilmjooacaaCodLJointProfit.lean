/- The compiled forms of functions, each checked against the translation. -/
import Derived.Test.YtdcheilmjooacaaAb2
import Derived.Test.YtdcheilmjooacaaProg
namespace Go.Proofs.Ytdcheilmjooacaa.Ab
open Go Go.RowKit Go.Proofs
set_option maxRecDepth 100000
def c_laws_FnExactJointProfit : ACode := .seq (.reg [⟨(some 2), .box 24 (.tmp 0), none⟩,
  ⟨(some 4), .mv (.const (.bool false)), none⟩])
 (.seq (.reg [⟨(some 5), .mv (.const (.int .i64 1048576)), none⟩])
 (.seq (.reg [⟨(some 11), .ld (some 4) (.tmp 2), none⟩,
  ⟨(some 12), .mv (.tmp 5), none⟩,
  ⟨(some 13), .call (.func 20) [(.tmp 11), (.tmp 12)], none⟩,
  ⟨(some 5), .mv (.tmp 13), none⟩])
 (.seq (.seq (.reg [⟨(some 14), .mv (.tmp 5), none⟩,
  ⟨(some 15), .bin .lss (.tmp 14) (.const (.int .i64 0)), none⟩])
 (.cond (.tmp 15) (.seq (.reg [⟨(some 4), .mv (.const (.bool true)), none⟩])
 (.ret)) (.skip)))
 (.seq (.reg [⟨(some 17), .ld (some 4) (.tmp 2), none⟩,
  ⟨(some 18), .call (.func 22) [(.tmp 17)], none⟩,
  ⟨(some 19), .mv (.tmp 1), none⟩,
  ⟨(some 20), .call (.func 34) [(.tmp 18), (.tmp 19)], none⟩,
  ⟨(some 16), .mv (.tmp 20), none⟩,
  ⟨(some 21), .ext 0 (.tmp 16), none⟩,
  ⟨(some 22), .ext 1 (.tmp 16), none⟩,
  ⟨(some 6), .mv (.tmp 21), none⟩,
  ⟨(some 7), .mv (.tmp 22), none⟩])
 (.seq (.reg [⟨(some 23), .ld (some 4) (.tmp 2), none⟩,
  ⟨(some 24), .call (.func 22) [(.tmp 23)], none⟩,
  ⟨(some 8), .alc 27 [(.slice none 0 0), (.int .i64 0), (.int .i64 0), (.int .i64 0)], none⟩,
  ⟨none, .st 4 (.tmp 8) (.tmp 24), none⟩])
 (.seq (.reg [⟨(some 26), .ld (some 4) (.tmp 8), none⟩,
  ⟨(some 27), .mv (.tmp 1), none⟩,
  ⟨(some 28), .call (.func 35) [(.tmp 26), (.tmp 27)], none⟩,
  ⟨(some 25), .mv (.tmp 28), none⟩,
  ⟨(some 29), .ext 0 (.tmp 25), none⟩,
  ⟨(some 30), .ext 1 (.tmp 25), none⟩,
  ⟨(some 9), .mv (.tmp 29), none⟩,
  ⟨(some 10), .mv (.tmp 30), none⟩])
 (.seq (.seq (.reg [⟨(some 31), .mv (.tmp 9), none⟩,
  ⟨(some 32), .mv (.tmp 6), none⟩,
  ⟨(some 33), .bin .neq (.tmp 31) (.tmp 32), none⟩,
  ⟨(some 34), .mv (.tmp 33), none⟩,
  ⟨(some 35), .mv (.tmp 10), (some (34, false))⟩,
  ⟨(some 36), .mv (.tmp 7), (some (34, false))⟩,
  ⟨(some 37), .beq true (.tmp 35) (.tmp 36), (some (34, false))⟩,
  ⟨(some 38), .pick (.tmp 34) (.const (.bool true)) (.tmp 37), none⟩])
 (.cond (.tmp 38) (.seq (.reg [⟨(some 4), .mv (.const (.bool false)), none⟩])
 (.ret)) (.skip)))
 (.seq (.seq (.reg [⟨(some 39), .ld (some 4) (.tmp 8), none⟩,
  ⟨(some 40), .ld (some 4) (.tmp 2), none⟩,
  ⟨(some 41), .rcall (.func 22) [(.tmp 40)], none⟩,
  ⟨(some 42), .rcall (.func 24) [(.tmp 39), (.tmp 41)], none⟩,
  ⟨(some 43), .un .not (.tmp 42), none⟩])
 (.cond (.tmp 43) (.seq (.reg [⟨(some 4), .mv (.const (.bool false)), none⟩])
 (.ret)) (.skip)))
 (.seq (.reg [⟨(some 4), .mv (.const (.bool true)), none⟩])
 (.ret))))))))))
def r_laws_FnExactJointProfit : List ARes := [.tmp 4]
theorem ok_laws_FnExactJointProfit : FnOk Try.prog 8 44 c_laws_FnExactJointProfit r_laws_FnExactJointProfit := ⟨⟨Try.f8, _, Try.func8, by kernel_rfl, rfl, rfl, by kernel_rfl, by kernel_rfl⟩⟩
end Go.Proofs.Ytdcheilmjooacaa.Ab
