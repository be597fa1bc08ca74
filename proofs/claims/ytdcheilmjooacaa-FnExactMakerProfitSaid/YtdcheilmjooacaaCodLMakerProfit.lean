/- The compiled forms of functions, each checked against the translation. -/
import Derived.Test.YtdcheilmjooacaaAb2
import Derived.Test.YtdcheilmjooacaaProg
namespace Go.Proofs.Ytdcheilmjooacaa.Ab
open Go Go.RowKit Go.Proofs
set_option maxRecDepth 100000
def c_laws_FnExactMakerProfit : ACode := .seq (.reg [⟨(some 3), .box 24 (.tmp 0), none⟩,
  ⟨(some 4), .box 32 (.tmp 1), none⟩,
  ⟨(some 6), .mv (.const (.bool false)), none⟩])
 (.seq (.reg [⟨(some 7), .mv (.const (.int .i64 1048576)), none⟩])
 (.seq (.reg [⟨(some 13), .ld (some 4) (.tmp 3), none⟩,
  ⟨(some 14), .mv (.tmp 7), none⟩,
  ⟨(some 15), .call (.func 20) [(.tmp 13), (.tmp 14)], none⟩,
  ⟨(some 7), .mv (.tmp 15), none⟩])
 (.seq (.seq (.reg [⟨(some 16), .mv (.tmp 7), none⟩,
  ⟨(some 17), .bin .lss (.tmp 16) (.const (.int .i64 0)), none⟩])
 (.cond (.tmp 17) (.seq (.reg [⟨(some 6), .mv (.const (.bool true)), none⟩])
 (.ret)) (.skip)))
 (.seq (.reg [⟨(some 19), .ld (some 4) (.tmp 3), none⟩,
  ⟨(some 21), .ld (some 3) (.tmp 4), none⟩,
  ⟨(some 23), .mv (.tmp 2), none⟩,
  ⟨(some 20), .rcall (.func 22) [(.tmp 19)], none⟩,
  ⟨(some 22), .rcall (.func 26) [(.tmp 21)], none⟩,
  ⟨(some 24), .rcall (.func 32) [(.tmp 20), (.tmp 22), (.tmp 23)], none⟩,
  ⟨(some 18), .mv (.tmp 24), none⟩,
  ⟨(some 25), .ext 0 (.tmp 18), none⟩,
  ⟨(some 26), .ext 1 (.tmp 18), none⟩,
  ⟨(some 8), .mv (.tmp 25), none⟩,
  ⟨(some 9), .mv (.tmp 26), none⟩])
 (.seq (.reg [⟨(some 27), .ld (some 4) (.tmp 3), none⟩,
  ⟨(some 28), .call (.func 22) [(.tmp 27)], none⟩,
  ⟨(some 10), .alc 27 [(.slice none 0 0), (.int .i64 0), (.int .i64 0), (.int .i64 0)], none⟩,
  ⟨none, .st 4 (.tmp 10) (.tmp 28), none⟩])
 (.seq (.reg [⟨(some 30), .ld (some 4) (.tmp 10), none⟩,
  ⟨(some 31), .ld (some 3) (.tmp 4), none⟩,
  ⟨(some 33), .mv (.tmp 2), none⟩,
  ⟨(some 32), .rcall (.func 26) [(.tmp 31)], none⟩,
  ⟨(some 34), .rcall (.func 33) [(.tmp 30), (.tmp 32), (.tmp 33)], none⟩,
  ⟨(some 29), .mv (.tmp 34), none⟩,
  ⟨(some 35), .ext 0 (.tmp 29), none⟩,
  ⟨(some 36), .ext 1 (.tmp 29), none⟩,
  ⟨(some 11), .mv (.tmp 35), none⟩,
  ⟨(some 12), .mv (.tmp 36), none⟩])
 (.seq (.seq (.reg [⟨(some 37), .mv (.tmp 11), none⟩,
  ⟨(some 38), .mv (.tmp 8), none⟩,
  ⟨(some 39), .bin .neq (.tmp 37) (.tmp 38), none⟩,
  ⟨(some 40), .mv (.tmp 39), none⟩,
  ⟨(some 41), .mv (.tmp 12), (some (40, false))⟩,
  ⟨(some 42), .mv (.tmp 9), (some (40, false))⟩,
  ⟨(some 43), .beq true (.tmp 41) (.tmp 42), (some (40, false))⟩,
  ⟨(some 44), .pick (.tmp 40) (.const (.bool true)) (.tmp 43), none⟩])
 (.cond (.tmp 44) (.seq (.reg [⟨(some 6), .mv (.const (.bool false)), none⟩])
 (.ret)) (.skip)))
 (.seq (.seq (.reg [⟨(some 45), .ld (some 4) (.tmp 10), none⟩,
  ⟨(some 46), .ld (some 4) (.tmp 3), none⟩,
  ⟨(some 47), .rcall (.func 22) [(.tmp 46)], none⟩,
  ⟨(some 48), .rcall (.func 24) [(.tmp 45), (.tmp 47)], none⟩,
  ⟨(some 49), .un .not (.tmp 48), none⟩])
 (.cond (.tmp 49) (.seq (.reg [⟨(some 6), .mv (.const (.bool false)), none⟩])
 (.ret)) (.skip)))
 (.seq (.reg [⟨(some 6), .mv (.const (.bool true)), none⟩])
 (.ret))))))))))
def r_laws_FnExactMakerProfit : List ARes := [.tmp 6]
theorem ok_laws_FnExactMakerProfit : FnOk Try.prog 7 50 c_laws_FnExactMakerProfit r_laws_FnExactMakerProfit := ⟨⟨Try.f7, _, Try.func7, by kernel_rfl, rfl, rfl, by kernel_rfl, by kernel_rfl⟩⟩
end Go.Proofs.Ytdcheilmjooacaa.Ab
