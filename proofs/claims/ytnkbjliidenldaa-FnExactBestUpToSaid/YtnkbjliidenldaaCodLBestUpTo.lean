/- The compiled forms of functions, each checked against the translation. -/
import Derived.Test.YtnkbjliidenldaaAb2
import Derived.Test.YtnkbjliidenldaaProg
namespace Go.Proofs.Ytnkbjliidenldaa.Ab
open Go Go.RowKit Go.Proofs
set_option maxRecDepth 100000
def c_laws_FnExactBestUpTo : ACode := .seq (.reg [⟨(some 8), .mv (.const (.bool false)), none⟩])
 (.seq (.seq (.reg [⟨(some 16), .mv (.tmp 0), none⟩,
  ⟨(some 17), .len (.tmp 16), none⟩,
  ⟨(some 18), .bin .gtr (.tmp 17) (.const (.int .i64 1048576)), none⟩])
 (.cond (.tmp 18) (.seq (.reg [⟨(some 8), .mv (.const (.bool true)), none⟩])
 (.ret)) (.skip)))
 (.seq (.reg [⟨(some 20), .mv (.tmp 0), none⟩,
  ⟨(some 21), .call (.func 35) [(.tmp 20)], none⟩,
  ⟨(some 22), .mv (.tmp 1), none⟩,
  ⟨(some 23), .mv (.tmp 2), none⟩,
  ⟨(some 24), .mv (.tmp 3), none⟩,
  ⟨(some 25), .call (.func 48) [(.tmp 21), (.tmp 22), (.tmp 23), (.tmp 24)], none⟩,
  ⟨(some 19), .mv (.tmp 25), none⟩,
  ⟨(some 26), .ext 0 (.tmp 19), none⟩,
  ⟨(some 27), .ext 1 (.tmp 19), none⟩,
  ⟨(some 28), .ext 2 (.tmp 19), none⟩,
  ⟨(some 9), .mv (.tmp 26), none⟩,
  ⟨(some 10), .mv (.tmp 27), none⟩,
  ⟨(some 11), .mv (.tmp 28), none⟩])
 (.seq (.reg [⟨(some 29), .mv (.tmp 0), none⟩,
  ⟨(some 30), .call (.func 35) [(.tmp 29)], none⟩,
  ⟨(some 12), .mv (.tmp 30), none⟩])
 (.seq (.reg [⟨(some 32), .mv (.tmp 12), none⟩,
  ⟨(some 33), .mv (.tmp 1), none⟩,
  ⟨(some 34), .mv (.tmp 2), none⟩,
  ⟨(some 35), .mv (.tmp 3), none⟩,
  ⟨(some 36), .call (.func 49) [(.tmp 32), (.tmp 33), (.tmp 34), (.tmp 35)], none⟩,
  ⟨(some 31), .mv (.tmp 36), none⟩,
  ⟨(some 37), .ext 0 (.tmp 31), none⟩,
  ⟨(some 38), .ext 1 (.tmp 31), none⟩,
  ⟨(some 39), .ext 2 (.tmp 31), none⟩,
  ⟨(some 13), .mv (.tmp 37), none⟩,
  ⟨(some 14), .mv (.tmp 38), none⟩,
  ⟨(some 15), .mv (.tmp 39), none⟩])
 (.seq (.seq (.reg [⟨(some 40), .mv (.tmp 13), none⟩,
  ⟨(some 41), .mv (.tmp 9), none⟩,
  ⟨(some 42), .bin .neq (.tmp 40) (.tmp 41), none⟩,
  ⟨(some 43), .mv (.tmp 42), none⟩,
  ⟨(some 44), .mv (.tmp 14), (some (43, false))⟩,
  ⟨(some 45), .mv (.tmp 10), (some (43, false))⟩,
  ⟨(some 46), .bin .neq (.tmp 44) (.tmp 45), (some (43, false))⟩,
  ⟨(some 47), .pick (.tmp 43) (.const (.bool true)) (.tmp 46), none⟩,
  ⟨(some 48), .mv (.tmp 47), none⟩,
  ⟨(some 49), .mv (.tmp 15), (some (48, false))⟩,
  ⟨(some 50), .mv (.tmp 11), (some (48, false))⟩,
  ⟨(some 51), .beq true (.tmp 49) (.tmp 50), (some (48, false))⟩,
  ⟨(some 52), .pick (.tmp 48) (.const (.bool true)) (.tmp 51), none⟩])
 (.cond (.tmp 52) (.seq (.reg [⟨(some 8), .mv (.const (.bool false)), none⟩])
 (.ret)) (.skip)))
 (.seq (.seq (.reg [⟨(some 53), .mv (.tmp 12), none⟩,
  ⟨(some 54), .mv (.tmp 0), none⟩,
  ⟨(some 55), .call (.func 35) [(.tmp 54)], none⟩,
  ⟨(some 56), .call (.func 37) [(.tmp 53), (.tmp 55)], none⟩,
  ⟨(some 57), .un .not (.tmp 56), none⟩])
 (.cond (.tmp 57) (.seq (.reg [⟨(some 8), .mv (.const (.bool false)), none⟩])
 (.ret)) (.skip)))
 (.seq (.reg [⟨(some 8), .mv (.const (.bool true)), none⟩])
 (.ret))))))))
def r_laws_FnExactBestUpTo : List ARes := [.tmp 8]
theorem ok_laws_FnExactBestUpTo : FnOk Try.prog 13 58 c_laws_FnExactBestUpTo r_laws_FnExactBestUpTo := ⟨⟨Try.f13, _, Try.func13, by kernel_rfl, rfl, rfl, by kernel_rfl, by kernel_rfl⟩⟩
end Go.Proofs.Ytnkbjliidenldaa.Ab
