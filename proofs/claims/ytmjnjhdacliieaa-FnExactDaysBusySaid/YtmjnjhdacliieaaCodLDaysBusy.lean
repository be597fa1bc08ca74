/- The compiled forms of functions, each checked against the translation. -/
import Derived.Test.YtmjnjhdacliieaaAb2
import Derived.Test.YtmjnjhdacliieaaProg
namespace Go.Proofs.Ytmjnjhdacliieaa.Ab
open Go Go.RowKit Go.Proofs
set_option maxRecDepth 100000
def c_laws_FnExactDaysBusy : ACode := .seq (.reg [⟨(some 6), .mv (.const (.bool false)), none⟩])
 (.seq (.seq (.reg [⟨(some 13), .mv (.tmp 0), none⟩,
  ⟨(some 14), .len (.tmp 13), none⟩,
  ⟨(some 15), .bin .gtr (.tmp 14) (.const (.int .i64 1048576)), none⟩])
 (.cond (.tmp 15) (.seq (.reg [⟨(some 6), .mv (.const (.bool true)), none⟩])
 (.ret)) (.skip)))
 (.seq (.seq (.reg [⟨(some 16), .mv (.tmp 1), none⟩,
  ⟨(some 17), .len (.tmp 16), none⟩,
  ⟨(some 18), .bin .gtr (.tmp 17) (.const (.int .i64 1048576)), none⟩])
 (.cond (.tmp 18) (.seq (.reg [⟨(some 6), .mv (.const (.bool true)), none⟩])
 (.ret)) (.skip)))
 (.seq (.reg [⟨(some 20), .mv (.tmp 0), none⟩,
  ⟨(some 21), .call (.func 32) [(.tmp 20)], none⟩,
  ⟨(some 22), .mv (.tmp 1), none⟩,
  ⟨(some 23), .call (.func 32) [(.tmp 22)], none⟩,
  ⟨(some 24), .mv (.tmp 2), none⟩,
  ⟨(some 25), .call (.func 59) [(.tmp 21), (.tmp 23), (.tmp 24)], none⟩,
  ⟨(some 19), .mv (.tmp 25), none⟩,
  ⟨(some 26), .ext 0 (.tmp 19), none⟩,
  ⟨(some 27), .ext 1 (.tmp 19), none⟩,
  ⟨(some 7), .mv (.tmp 26), none⟩,
  ⟨(some 8), .mv (.tmp 27), none⟩])
 (.seq (.reg [⟨(some 28), .mv (.tmp 0), none⟩,
  ⟨(some 29), .call (.func 32) [(.tmp 28)], none⟩,
  ⟨(some 9), .mv (.tmp 29), none⟩])
 (.seq (.reg [⟨(some 30), .mv (.tmp 1), none⟩,
  ⟨(some 31), .call (.func 32) [(.tmp 30)], none⟩,
  ⟨(some 10), .mv (.tmp 31), none⟩])
 (.seq (.reg [⟨(some 33), .mv (.tmp 9), none⟩,
  ⟨(some 34), .mv (.tmp 10), none⟩,
  ⟨(some 35), .mv (.tmp 2), none⟩,
  ⟨(some 36), .call (.func 60) [(.tmp 33), (.tmp 34), (.tmp 35)], none⟩,
  ⟨(some 32), .mv (.tmp 36), none⟩,
  ⟨(some 37), .ext 0 (.tmp 32), none⟩,
  ⟨(some 38), .ext 1 (.tmp 32), none⟩,
  ⟨(some 11), .mv (.tmp 37), none⟩,
  ⟨(some 12), .mv (.tmp 38), none⟩])
 (.seq (.seq (.reg [⟨(some 39), .mv (.tmp 11), none⟩,
  ⟨(some 40), .mv (.tmp 7), none⟩,
  ⟨(some 41), .bin .neq (.tmp 39) (.tmp 40), none⟩,
  ⟨(some 42), .mv (.tmp 41), none⟩,
  ⟨(some 43), .mv (.tmp 12), (some (42, false))⟩,
  ⟨(some 44), .mv (.tmp 8), (some (42, false))⟩,
  ⟨(some 45), .beq true (.tmp 43) (.tmp 44), (some (42, false))⟩,
  ⟨(some 46), .pick (.tmp 42) (.const (.bool true)) (.tmp 45), none⟩])
 (.cond (.tmp 46) (.seq (.reg [⟨(some 6), .mv (.const (.bool false)), none⟩])
 (.ret)) (.skip)))
 (.seq (.seq (.reg [⟨(some 47), .mv (.tmp 9), none⟩,
  ⟨(some 48), .mv (.tmp 0), none⟩,
  ⟨(some 49), .call (.func 32) [(.tmp 48)], none⟩,
  ⟨(some 50), .call (.func 35) [(.tmp 47), (.tmp 49)], none⟩,
  ⟨(some 51), .un .not (.tmp 50), none⟩])
 (.cond (.tmp 51) (.seq (.reg [⟨(some 6), .mv (.const (.bool false)), none⟩])
 (.ret)) (.skip)))
 (.seq (.seq (.reg [⟨(some 52), .mv (.tmp 10), none⟩,
  ⟨(some 53), .mv (.tmp 1), none⟩,
  ⟨(some 54), .call (.func 32) [(.tmp 53)], none⟩,
  ⟨(some 55), .call (.func 35) [(.tmp 52), (.tmp 54)], none⟩,
  ⟨(some 56), .un .not (.tmp 55), none⟩])
 (.cond (.tmp 56) (.seq (.reg [⟨(some 6), .mv (.const (.bool false)), none⟩])
 (.ret)) (.skip)))
 (.seq (.reg [⟨(some 6), .mv (.const (.bool true)), none⟩])
 (.ret)))))))))))
def r_laws_FnExactDaysBusy : List ARes := [.tmp 6]
theorem ok_laws_FnExactDaysBusy : FnOk Try.prog 18 57 c_laws_FnExactDaysBusy r_laws_FnExactDaysBusy := ⟨⟨Try.f18, _, Try.func18, by kernel_rfl, rfl, rfl, by kernel_rfl, by kernel_rfl⟩⟩
end Go.Proofs.Ytmjnjhdacliieaa.Ab
