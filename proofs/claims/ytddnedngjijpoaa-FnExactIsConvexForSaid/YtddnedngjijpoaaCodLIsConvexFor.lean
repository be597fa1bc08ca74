/- The compiled forms of functions, each checked against the translation. -/
import Derived.Test.YtddnedngjijpoaaAb2
import Derived.Test.YtddnedngjijpoaaProg
namespace Go.Proofs.Ytddnedngjijpoaa.Ab
open Go Go.RowKit Go.Proofs
set_option maxRecDepth 100000
def c_laws_FnExactIsConvexFor : ACode := .seq (.reg [⟨(some 4), .mv (.const (.bool false)), none⟩])
 (.seq (.seq (.reg [⟨(some 10), .mv (.tmp 0), none⟩,
  ⟨(some 11), .len (.tmp 10), none⟩,
  ⟨(some 12), .bin .gtr (.tmp 11) (.const (.int .i64 1048576)), none⟩])
 (.cond (.tmp 12) (.seq (.reg [⟨(some 4), .mv (.const (.bool true)), none⟩])
 (.ret)) (.skip)))
 (.seq (.reg [⟨(some 14), .mv (.tmp 0), none⟩,
  ⟨(some 15), .call (.func 58) [(.tmp 14)], none⟩,
  ⟨(some 16), .mv (.tmp 1), none⟩,
  ⟨(some 17), .call (.func 34) [(.tmp 15), (.tmp 16)], none⟩,
  ⟨(some 13), .mv (.tmp 17), none⟩,
  ⟨(some 18), .ext 0 (.tmp 13), none⟩,
  ⟨(some 19), .ext 1 (.tmp 13), none⟩,
  ⟨(some 5), .mv (.tmp 18), none⟩,
  ⟨(some 6), .mv (.tmp 19), none⟩])
 (.seq (.reg [⟨(some 20), .mv (.tmp 0), none⟩,
  ⟨(some 21), .call (.func 58) [(.tmp 20)], none⟩,
  ⟨(some 7), .mv (.tmp 21), none⟩])
 (.seq (.reg [⟨(some 23), .mv (.tmp 7), none⟩,
  ⟨(some 24), .mv (.tmp 1), none⟩,
  ⟨(some 25), .call (.func 33) [(.tmp 23), (.tmp 24)], none⟩,
  ⟨(some 22), .mv (.tmp 25), none⟩,
  ⟨(some 26), .ext 0 (.tmp 22), none⟩,
  ⟨(some 27), .ext 1 (.tmp 22), none⟩,
  ⟨(some 8), .mv (.tmp 26), none⟩,
  ⟨(some 9), .mv (.tmp 27), none⟩])
 (.seq (.seq (.reg [⟨(some 28), .mv (.tmp 8), none⟩,
  ⟨(some 29), .mv (.tmp 5), none⟩,
  ⟨(some 30), .beq true (.tmp 28) (.tmp 29), none⟩,
  ⟨(some 31), .mv (.tmp 30), none⟩,
  ⟨(some 32), .mv (.tmp 9), (some (31, false))⟩,
  ⟨(some 33), .mv (.tmp 6), (some (31, false))⟩,
  ⟨(some 34), .beq true (.tmp 32) (.tmp 33), (some (31, false))⟩,
  ⟨(some 35), .pick (.tmp 31) (.const (.bool true)) (.tmp 34), none⟩])
 (.cond (.tmp 35) (.seq (.reg [⟨(some 4), .mv (.const (.bool false)), none⟩])
 (.ret)) (.skip)))
 (.seq (.seq (.reg [⟨(some 36), .mv (.tmp 7), none⟩,
  ⟨(some 37), .mv (.tmp 0), none⟩,
  ⟨(some 38), .call (.func 58) [(.tmp 37)], none⟩,
  ⟨(some 39), .call (.func 52) [(.tmp 36), (.tmp 38)], none⟩,
  ⟨(some 40), .un .not (.tmp 39), none⟩])
 (.cond (.tmp 40) (.seq (.reg [⟨(some 4), .mv (.const (.bool false)), none⟩])
 (.ret)) (.skip)))
 (.seq (.reg [⟨(some 4), .mv (.const (.bool true)), none⟩])
 (.ret))))))))
def r_laws_FnExactIsConvexFor : List ARes := [.tmp 4]
theorem ok_laws_FnExactIsConvexFor : FnOk Try.prog 11 41 c_laws_FnExactIsConvexFor r_laws_FnExactIsConvexFor := ⟨⟨Try.f11, _, Try.func11, by kernel_rfl, rfl, rfl, by kernel_rfl, by kernel_rfl⟩⟩
end Go.Proofs.Ytddnedngjijpoaa.Ab
