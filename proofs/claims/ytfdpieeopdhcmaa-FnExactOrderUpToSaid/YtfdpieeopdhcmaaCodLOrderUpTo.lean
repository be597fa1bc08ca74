/- The compiled forms of functions, each checked against the translation. -/
import Derived.Test.YtfdpieeopdhcmaaAb2
import Derived.Test.YtfdpieeopdhcmaaProg
namespace Go.Proofs.Ytfdpieeopdhcmaa.Ab
open Go Go.RowKit Go.Proofs
set_option maxRecDepth 100000
def c_laws_FnExactOrderUpTo : ACode := .seq (.reg [⟨(some 12), .mv (.const (.bool false)), none⟩])
 (.seq (.seq (.reg [⟨(some 18), .mv (.tmp 0), none⟩,
  ⟨(some 19), .len (.tmp 18), none⟩,
  ⟨(some 20), .bin .gtr (.tmp 19) (.const (.int .i64 1048576)), none⟩])
 (.cond (.tmp 20) (.seq (.reg [⟨(some 12), .mv (.const (.bool true)), none⟩])
 (.ret)) (.skip)))
 (.seq (.reg [⟨(some 22), .mv (.tmp 0), none⟩,
  ⟨(some 23), .call (.func 70) [(.tmp 22)], none⟩,
  ⟨(some 24), .mv (.tmp 1), none⟩,
  ⟨(some 25), .mv (.tmp 2), none⟩,
  ⟨(some 26), .mv (.tmp 3), none⟩,
  ⟨(some 27), .mv (.tmp 4), none⟩,
  ⟨(some 28), .mv (.tmp 5), none⟩,
  ⟨(some 29), .call (.func 66) [(.tmp 23), (.tmp 24), (.tmp 25), (.tmp 26), (.tmp 27), (.tmp 28)], none⟩,
  ⟨(some 21), .mv (.tmp 29), none⟩,
  ⟨(some 30), .ext 0 (.tmp 21), none⟩,
  ⟨(some 31), .ext 1 (.tmp 21), none⟩,
  ⟨(some 13), .mv (.tmp 30), none⟩,
  ⟨(some 14), .mv (.tmp 31), none⟩])
 (.seq (.reg [⟨(some 32), .mv (.tmp 0), none⟩,
  ⟨(some 33), .call (.func 70) [(.tmp 32)], none⟩,
  ⟨(some 15), .mv (.tmp 33), none⟩])
 (.seq (.reg [⟨(some 35), .mv (.tmp 15), none⟩,
  ⟨(some 36), .mv (.tmp 1), none⟩,
  ⟨(some 37), .mv (.tmp 2), none⟩,
  ⟨(some 38), .mv (.tmp 3), none⟩,
  ⟨(some 39), .mv (.tmp 4), none⟩,
  ⟨(some 40), .mv (.tmp 5), none⟩,
  ⟨(some 41), .call (.func 65) [(.tmp 35), (.tmp 36), (.tmp 37), (.tmp 38), (.tmp 39), (.tmp 40)], none⟩,
  ⟨(some 34), .mv (.tmp 41), none⟩,
  ⟨(some 42), .ext 0 (.tmp 34), none⟩,
  ⟨(some 43), .ext 1 (.tmp 34), none⟩,
  ⟨(some 16), .mv (.tmp 42), none⟩,
  ⟨(some 17), .mv (.tmp 43), none⟩])
 (.seq (.seq (.reg [⟨(some 44), .mv (.tmp 16), none⟩,
  ⟨(some 45), .mv (.tmp 13), none⟩,
  ⟨(some 46), .bin .neq (.tmp 44) (.tmp 45), none⟩,
  ⟨(some 47), .mv (.tmp 46), none⟩,
  ⟨(some 48), .mv (.tmp 17), (some (47, false))⟩,
  ⟨(some 49), .mv (.tmp 14), (some (47, false))⟩,
  ⟨(some 50), .beq true (.tmp 48) (.tmp 49), (some (47, false))⟩,
  ⟨(some 51), .pick (.tmp 47) (.const (.bool true)) (.tmp 50), none⟩])
 (.cond (.tmp 51) (.seq (.reg [⟨(some 12), .mv (.const (.bool false)), none⟩])
 (.ret)) (.skip)))
 (.seq (.seq (.reg [⟨(some 52), .mv (.tmp 15), none⟩,
  ⟨(some 53), .mv (.tmp 0), none⟩,
  ⟨(some 54), .call (.func 70) [(.tmp 53)], none⟩,
  ⟨(some 55), .call (.func 71) [(.tmp 52), (.tmp 54)], none⟩,
  ⟨(some 56), .un .not (.tmp 55), none⟩])
 (.cond (.tmp 56) (.seq (.reg [⟨(some 12), .mv (.const (.bool false)), none⟩])
 (.ret)) (.skip)))
 (.seq (.reg [⟨(some 12), .mv (.const (.bool true)), none⟩])
 (.ret))))))))
def r_laws_FnExactOrderUpTo : List ARes := [.tmp 12]
theorem ok_laws_FnExactOrderUpTo : FnOk Try.prog 21 57 c_laws_FnExactOrderUpTo r_laws_FnExactOrderUpTo := ⟨⟨Try.f21, _, Try.func21, by kernel_rfl, rfl, rfl, by kernel_rfl, by kernel_rfl⟩⟩
end Go.Proofs.Ytfdpieeopdhcmaa.Ab
