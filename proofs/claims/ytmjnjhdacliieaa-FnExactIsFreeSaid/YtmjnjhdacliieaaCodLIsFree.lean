/- The compiled forms of functions, each checked against the translation. -/
import Derived.Test.YtmjnjhdacliieaaAb2
import Derived.Test.YtmjnjhdacliieaaProg
namespace Go.Proofs.Ytmjnjhdacliieaa.Ab
open Go Go.RowKit Go.Proofs
set_option maxRecDepth 100000
def c_laws_FnExactIsFree : ACode := .seq (.reg [⟨(some 4), .mv (.const (.bool false)), none⟩])
 (.seq (.seq (.reg [⟨(some 11), .mv (.tmp 0), none⟩,
  ⟨(some 12), .len (.tmp 11), none⟩,
  ⟨(some 13), .bin .gtr (.tmp 12) (.const (.int .i64 1048576)), none⟩])
 (.cond (.tmp 13) (.seq (.reg [⟨(some 4), .mv (.const (.bool true)), none⟩])
 (.ret)) (.skip)))
 (.seq (.seq (.reg [⟨(some 14), .mv (.tmp 1), none⟩,
  ⟨(some 15), .len (.tmp 14), none⟩,
  ⟨(some 16), .bin .gtr (.tmp 15) (.const (.int .i64 1048576)), none⟩])
 (.cond (.tmp 16) (.seq (.reg [⟨(some 4), .mv (.const (.bool true)), none⟩])
 (.ret)) (.skip)))
 (.seq (.reg [⟨(some 18), .mv (.tmp 0), none⟩,
  ⟨(some 19), .call (.func 32) [(.tmp 18)], none⟩,
  ⟨(some 20), .mv (.tmp 1), none⟩,
  ⟨(some 21), .call (.func 32) [(.tmp 20)], none⟩,
  ⟨(some 22), .call (.func 51) [(.tmp 19), (.tmp 21)], none⟩,
  ⟨(some 17), .mv (.tmp 22), none⟩,
  ⟨(some 23), .ext 0 (.tmp 17), none⟩,
  ⟨(some 24), .ext 1 (.tmp 17), none⟩,
  ⟨(some 5), .mv (.tmp 23), none⟩,
  ⟨(some 6), .mv (.tmp 24), none⟩])
 (.seq (.reg [⟨(some 25), .mv (.tmp 0), none⟩,
  ⟨(some 26), .call (.func 32) [(.tmp 25)], none⟩,
  ⟨(some 7), .mv (.tmp 26), none⟩])
 (.seq (.reg [⟨(some 27), .mv (.tmp 1), none⟩,
  ⟨(some 28), .call (.func 32) [(.tmp 27)], none⟩,
  ⟨(some 8), .mv (.tmp 28), none⟩])
 (.seq (.reg [⟨(some 30), .mv (.tmp 7), none⟩,
  ⟨(some 31), .mv (.tmp 8), none⟩,
  ⟨(some 32), .call (.func 52) [(.tmp 30), (.tmp 31)], none⟩,
  ⟨(some 29), .mv (.tmp 32), none⟩,
  ⟨(some 33), .ext 0 (.tmp 29), none⟩,
  ⟨(some 34), .ext 1 (.tmp 29), none⟩,
  ⟨(some 9), .mv (.tmp 33), none⟩,
  ⟨(some 10), .mv (.tmp 34), none⟩])
 (.seq (.seq (.reg [⟨(some 35), .mv (.tmp 9), none⟩,
  ⟨(some 36), .mv (.tmp 5), none⟩,
  ⟨(some 37), .beq true (.tmp 35) (.tmp 36), none⟩,
  ⟨(some 38), .mv (.tmp 37), none⟩,
  ⟨(some 39), .mv (.tmp 10), (some (38, false))⟩,
  ⟨(some 40), .mv (.tmp 6), (some (38, false))⟩,
  ⟨(some 41), .beq true (.tmp 39) (.tmp 40), (some (38, false))⟩,
  ⟨(some 42), .pick (.tmp 38) (.const (.bool true)) (.tmp 41), none⟩])
 (.cond (.tmp 42) (.seq (.reg [⟨(some 4), .mv (.const (.bool false)), none⟩])
 (.ret)) (.skip)))
 (.seq (.seq (.reg [⟨(some 43), .mv (.tmp 7), none⟩,
  ⟨(some 44), .mv (.tmp 0), none⟩,
  ⟨(some 45), .call (.func 32) [(.tmp 44)], none⟩,
  ⟨(some 46), .call (.func 35) [(.tmp 43), (.tmp 45)], none⟩,
  ⟨(some 47), .un .not (.tmp 46), none⟩])
 (.cond (.tmp 47) (.seq (.reg [⟨(some 4), .mv (.const (.bool false)), none⟩])
 (.ret)) (.skip)))
 (.seq (.seq (.reg [⟨(some 48), .mv (.tmp 8), none⟩,
  ⟨(some 49), .mv (.tmp 1), none⟩,
  ⟨(some 50), .call (.func 32) [(.tmp 49)], none⟩,
  ⟨(some 51), .call (.func 35) [(.tmp 48), (.tmp 50)], none⟩,
  ⟨(some 52), .un .not (.tmp 51), none⟩])
 (.cond (.tmp 52) (.seq (.reg [⟨(some 4), .mv (.const (.bool false)), none⟩])
 (.ret)) (.skip)))
 (.seq (.reg [⟨(some 4), .mv (.const (.bool true)), none⟩])
 (.ret)))))))))))
def r_laws_FnExactIsFree : List ARes := [.tmp 4]
theorem ok_laws_FnExactIsFree : FnOk Try.prog 14 53 c_laws_FnExactIsFree r_laws_FnExactIsFree := ⟨⟨Try.f14, _, Try.func14, by kernel_rfl, rfl, rfl, by kernel_rfl, by kernel_rfl⟩⟩
end Go.Proofs.Ytmjnjhdacliieaa.Ab
