/- The compiled forms of functions, each checked against the translation. -/
import Derived.Test.YtfdpieeopdhcmaaAb2
import Derived.Test.YtfdpieeopdhcmaaProg
namespace Go.Proofs.Ytfdpieeopdhcmaa.Ab
open Go Go.RowKit Go.Proofs
set_option maxRecDepth 100000
def c_laws_FnExactCostSum : ACode := .seq (.reg [⟨(some 8), .mv (.const (.bool false)), none⟩])
 (.seq (.seq (.reg [⟨(some 14), .mv (.tmp 0), none⟩,
  ⟨(some 15), .len (.tmp 14), none⟩,
  ⟨(some 16), .bin .gtr (.tmp 15) (.const (.int .i64 1048576)), none⟩])
 (.cond (.tmp 16) (.seq (.reg [⟨(some 8), .mv (.const (.bool true)), none⟩])
 (.ret)) (.skip)))
 (.seq (.reg [⟨(some 18), .mv (.tmp 0), none⟩,
  ⟨(some 19), .call (.func 70) [(.tmp 18)], none⟩,
  ⟨(some 20), .mv (.tmp 1), none⟩,
  ⟨(some 21), .mv (.tmp 2), none⟩,
  ⟨(some 22), .mv (.tmp 3), none⟩,
  ⟨(some 23), .call (.func 32) [(.tmp 19), (.tmp 20), (.tmp 21), (.tmp 22)], none⟩,
  ⟨(some 17), .mv (.tmp 23), none⟩,
  ⟨(some 24), .ext 0 (.tmp 17), none⟩,
  ⟨(some 25), .ext 1 (.tmp 17), none⟩,
  ⟨(some 9), .mv (.tmp 24), none⟩,
  ⟨(some 10), .mv (.tmp 25), none⟩])
 (.seq (.reg [⟨(some 26), .mv (.tmp 0), none⟩,
  ⟨(some 27), .call (.func 70) [(.tmp 26)], none⟩,
  ⟨(some 11), .mv (.tmp 27), none⟩])
 (.seq (.reg [⟨(some 29), .mv (.tmp 11), none⟩,
  ⟨(some 30), .mv (.tmp 1), none⟩,
  ⟨(some 31), .mv (.tmp 2), none⟩,
  ⟨(some 32), .mv (.tmp 3), none⟩,
  ⟨(some 33), .call (.func 31) [(.tmp 29), (.tmp 30), (.tmp 31), (.tmp 32)], none⟩,
  ⟨(some 28), .mv (.tmp 33), none⟩,
  ⟨(some 34), .ext 0 (.tmp 28), none⟩,
  ⟨(some 35), .ext 1 (.tmp 28), none⟩,
  ⟨(some 12), .mv (.tmp 34), none⟩,
  ⟨(some 13), .mv (.tmp 35), none⟩])
 (.seq (.seq (.reg [⟨(some 36), .mv (.tmp 12), none⟩,
  ⟨(some 37), .mv (.tmp 9), none⟩,
  ⟨(some 38), .bin .neq (.tmp 36) (.tmp 37), none⟩,
  ⟨(some 39), .mv (.tmp 38), none⟩,
  ⟨(some 40), .mv (.tmp 13), (some (39, false))⟩,
  ⟨(some 41), .mv (.tmp 10), (some (39, false))⟩,
  ⟨(some 42), .beq true (.tmp 40) (.tmp 41), (some (39, false))⟩,
  ⟨(some 43), .pick (.tmp 39) (.const (.bool true)) (.tmp 42), none⟩])
 (.cond (.tmp 43) (.seq (.reg [⟨(some 8), .mv (.const (.bool false)), none⟩])
 (.ret)) (.skip)))
 (.seq (.seq (.reg [⟨(some 44), .mv (.tmp 11), none⟩,
  ⟨(some 45), .mv (.tmp 0), none⟩,
  ⟨(some 46), .call (.func 70) [(.tmp 45)], none⟩,
  ⟨(some 47), .call (.func 71) [(.tmp 44), (.tmp 46)], none⟩,
  ⟨(some 48), .un .not (.tmp 47), none⟩])
 (.cond (.tmp 48) (.seq (.reg [⟨(some 8), .mv (.const (.bool false)), none⟩])
 (.ret)) (.skip)))
 (.seq (.reg [⟨(some 8), .mv (.const (.bool true)), none⟩])
 (.ret))))))))
def r_laws_FnExactCostSum : List ARes := [.tmp 8]
theorem ok_laws_FnExactCostSum : FnOk Try.prog 13 49 c_laws_FnExactCostSum r_laws_FnExactCostSum := ⟨⟨Try.f13, _, Try.func13, by kernel_rfl, rfl, rfl, by kernel_rfl, by kernel_rfl⟩⟩
end Go.Proofs.Ytfdpieeopdhcmaa.Ab
