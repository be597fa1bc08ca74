/- The compiled forms of functions, each checked against the translation. -/
import Derived.Test.YtdcheilmjooacaaAb2
import Derived.Test.YtdcheilmjooacaaProg
namespace Go.Proofs.Ytdcheilmjooacaa.Ab
open Go Go.RowKit Go.Proofs
set_option maxRecDepth 100000
def c_laws_FnExactPayFor : ACode := .seq (.reg [⟨(some 3), .box 24 (.tmp 0), none⟩,
  ⟨(some 6), .mv (.const (.bool false)), none⟩])
 (.seq (.reg [⟨(some 7), .mv (.const (.int .i64 1048576)), none⟩])
 (.seq (.reg [⟨(some 13), .ld (some 4) (.tmp 3), none⟩,
  ⟨(some 14), .mv (.tmp 7), none⟩,
  ⟨(some 15), .call (.func 20) [(.tmp 13), (.tmp 14)], none⟩,
  ⟨(some 7), .mv (.tmp 15), none⟩])
 (.seq (.seq (.reg [⟨(some 16), .mv (.tmp 7), none⟩,
  ⟨(some 17), .bin .lss (.tmp 16) (.const (.int .i64 0)), none⟩])
 (.cond (.tmp 17) (.seq (.reg [⟨(some 6), .mv (.const (.bool true)), none⟩])
 (.ret)) (.skip)))
 (.seq (.reg [⟨(some 19), .ld (some 4) (.tmp 3), none⟩,
  ⟨(some 20), .call (.func 22) [(.tmp 19)], none⟩,
  ⟨(some 21), .mv (.tmp 1), none⟩,
  ⟨(some 22), .mv (.tmp 2), none⟩,
  ⟨(some 23), .call (.func 54) [(.tmp 20), (.tmp 21), (.tmp 22)], none⟩,
  ⟨(some 18), .mv (.tmp 23), none⟩,
  ⟨(some 24), .ext 0 (.tmp 18), none⟩,
  ⟨(some 25), .ext 1 (.tmp 18), none⟩,
  ⟨(some 8), .mv (.tmp 24), none⟩,
  ⟨(some 9), .mv (.tmp 25), none⟩])
 (.seq (.reg [⟨(some 26), .ld (some 4) (.tmp 3), none⟩,
  ⟨(some 27), .call (.func 22) [(.tmp 26)], none⟩,
  ⟨(some 10), .alc 27 [(.slice none 0 0), (.int .i64 0), (.int .i64 0), (.int .i64 0)], none⟩,
  ⟨none, .st 4 (.tmp 10) (.tmp 27), none⟩])
 (.seq (.reg [⟨(some 29), .ld (some 4) (.tmp 10), none⟩,
  ⟨(some 30), .mv (.tmp 1), none⟩,
  ⟨(some 31), .mv (.tmp 2), none⟩,
  ⟨(some 32), .call (.func 55) [(.tmp 29), (.tmp 30), (.tmp 31)], none⟩,
  ⟨(some 28), .mv (.tmp 32), none⟩,
  ⟨(some 33), .ext 0 (.tmp 28), none⟩,
  ⟨(some 34), .ext 1 (.tmp 28), none⟩,
  ⟨(some 11), .mv (.tmp 33), none⟩,
  ⟨(some 12), .mv (.tmp 34), none⟩])
 (.seq (.seq (.reg [⟨(some 35), .mv (.tmp 11), none⟩,
  ⟨(some 36), .mv (.tmp 8), none⟩,
  ⟨(some 37), .bin .neq (.tmp 35) (.tmp 36), none⟩,
  ⟨(some 38), .mv (.tmp 37), none⟩,
  ⟨(some 39), .mv (.tmp 12), (some (38, false))⟩,
  ⟨(some 40), .mv (.tmp 9), (some (38, false))⟩,
  ⟨(some 41), .beq true (.tmp 39) (.tmp 40), (some (38, false))⟩,
  ⟨(some 42), .pick (.tmp 38) (.const (.bool true)) (.tmp 41), none⟩])
 (.cond (.tmp 42) (.seq (.reg [⟨(some 6), .mv (.const (.bool false)), none⟩])
 (.ret)) (.skip)))
 (.seq (.seq (.reg [⟨(some 43), .ld (some 4) (.tmp 10), none⟩,
  ⟨(some 44), .ld (some 4) (.tmp 3), none⟩,
  ⟨(some 45), .rcall (.func 22) [(.tmp 44)], none⟩,
  ⟨(some 46), .rcall (.func 24) [(.tmp 43), (.tmp 45)], none⟩,
  ⟨(some 47), .un .not (.tmp 46), none⟩])
 (.cond (.tmp 47) (.seq (.reg [⟨(some 6), .mv (.const (.bool false)), none⟩])
 (.ret)) (.skip)))
 (.seq (.reg [⟨(some 6), .mv (.const (.bool true)), none⟩])
 (.ret))))))))))
def r_laws_FnExactPayFor : List ARes := [.tmp 6]
theorem ok_laws_FnExactPayFor : FnOk Try.prog 16 48 c_laws_FnExactPayFor r_laws_FnExactPayFor := ⟨⟨Try.f16, _, Try.func16, by kernel_rfl, rfl, rfl, by kernel_rfl, by kernel_rfl⟩⟩
end Go.Proofs.Ytdcheilmjooacaa.Ab
