/- The compiled forms of functions, each checked against the translation. -/
import Derived.Test.YtmjnjhdacliieaaAb2
import Derived.Test.YtmjnjhdacliieaaProg
namespace Go.Proofs.Ytmjnjhdacliieaa.Ab
open Go Go.RowKit Go.Proofs
set_option maxRecDepth 100000
def c_laws_FnExactShareOf : ACode := .seq (.reg [⟨(some 2), .mv (.const (.bool false)), none⟩])
 (.seq (.seq (.reg [⟨(some 8), .mv (.tmp 0), none⟩,
  ⟨(some 9), .len (.tmp 8), none⟩,
  ⟨(some 10), .bin .gtr (.tmp 9) (.const (.int .i64 1048576)), none⟩])
 (.cond (.tmp 10) (.seq (.reg [⟨(some 2), .mv (.const (.bool true)), none⟩])
 (.ret)) (.skip)))
 (.seq (.reg [⟨(some 12), .mv (.tmp 0), none⟩,
  ⟨(some 13), .call (.func 32) [(.tmp 12)], none⟩,
  ⟨(some 14), .call (.func 53) [(.tmp 13)], none⟩,
  ⟨(some 11), .mv (.tmp 14), none⟩,
  ⟨(some 15), .ext 0 (.tmp 11), none⟩,
  ⟨(some 16), .ext 1 (.tmp 11), none⟩,
  ⟨(some 3), .alc 28 [(.int .i64 0), (.int .i64 0)], none⟩,
  ⟨none, .st 2 (.tmp 3) (.tmp 15), none⟩,
  ⟨(some 4), .mv (.tmp 16), none⟩])
 (.seq (.reg [⟨(some 17), .mv (.tmp 0), none⟩,
  ⟨(some 18), .call (.func 32) [(.tmp 17)], none⟩,
  ⟨(some 5), .mv (.tmp 18), none⟩])
 (.seq (.reg [⟨(some 20), .mv (.tmp 5), none⟩,
  ⟨(some 21), .call (.func 54) [(.tmp 20)], none⟩,
  ⟨(some 19), .mv (.tmp 21), none⟩,
  ⟨(some 22), .ext 0 (.tmp 19), none⟩,
  ⟨(some 23), .ext 1 (.tmp 19), none⟩,
  ⟨(some 6), .alc 28 [(.int .i64 0), (.int .i64 0)], none⟩,
  ⟨none, .st 2 (.tmp 6) (.tmp 22), none⟩,
  ⟨(some 7), .mv (.tmp 23), none⟩])
 (.seq (.seq (.reg [⟨(some 24), .ld (some 2) (.tmp 6), none⟩,
  ⟨(some 25), .ld (some 2) (.tmp 3), none⟩,
  ⟨(some 26), .call (.func 24) [(.tmp 24), (.tmp 25)], none⟩,
  ⟨(some 27), .un .not (.tmp 26), none⟩,
  ⟨(some 28), .mv (.tmp 27), none⟩,
  ⟨(some 29), .mv (.tmp 7), (some (28, false))⟩,
  ⟨(some 30), .mv (.tmp 4), (some (28, false))⟩,
  ⟨(some 31), .beq true (.tmp 29) (.tmp 30), (some (28, false))⟩,
  ⟨(some 32), .pick (.tmp 28) (.const (.bool true)) (.tmp 31), none⟩])
 (.cond (.tmp 32) (.seq (.reg [⟨(some 2), .mv (.const (.bool false)), none⟩])
 (.ret)) (.skip)))
 (.seq (.seq (.reg [⟨(some 33), .mv (.tmp 5), none⟩,
  ⟨(some 34), .mv (.tmp 0), none⟩,
  ⟨(some 35), .call (.func 32) [(.tmp 34)], none⟩,
  ⟨(some 36), .call (.func 35) [(.tmp 33), (.tmp 35)], none⟩,
  ⟨(some 37), .un .not (.tmp 36), none⟩])
 (.cond (.tmp 37) (.seq (.reg [⟨(some 2), .mv (.const (.bool false)), none⟩])
 (.ret)) (.skip)))
 (.seq (.reg [⟨(some 2), .mv (.const (.bool true)), none⟩])
 (.ret))))))))
def r_laws_FnExactShareOf : List ARes := [.tmp 2]
theorem ok_laws_FnExactShareOf : FnOk Try.prog 15 38 c_laws_FnExactShareOf r_laws_FnExactShareOf := ⟨⟨Try.f15, _, Try.func15, by kernel_rfl, rfl, rfl, by kernel_rfl, by kernel_rfl⟩⟩
end Go.Proofs.Ytmjnjhdacliieaa.Ab
