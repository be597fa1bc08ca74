/- The compiled forms of functions, each checked against the translation. -/
import Derived.Test.YtmjnjhdacliieaaAb2
import Derived.Test.YtmjnjhdacliieaaProg
namespace Go.Proofs.Ytmjnjhdacliieaa.Ab
open Go Go.RowKit Go.Proofs
set_option maxRecDepth 100000
def c_laws_FnExactPowerCycle : ACode := .seq (.reg [⟨(some 1), .box 23 (.tmp 0), none⟩,
  ⟨(some 2), .mv (.const (.bool false)), none⟩])
 (.seq (.reg [⟨(some 8), .ld (some 5) (.tmp 1), none⟩,
  ⟨(some 9), .call (.func 20) [(.tmp 8)], none⟩,
  ⟨(some 10), .call (.func 27) [(.tmp 9)], none⟩,
  ⟨(some 7), .mv (.tmp 10), none⟩,
  ⟨(some 11), .ext 0 (.tmp 7), none⟩,
  ⟨(some 12), .ext 1 (.tmp 7), none⟩,
  ⟨(some 3), .mv (.tmp 11), none⟩,
  ⟨(some 4), .mv (.tmp 12), none⟩])
 (.seq (.reg [⟨(some 14), .ld (some 5) (.tmp 1), none⟩,
  ⟨(some 15), .call (.func 20) [(.tmp 14)], none⟩,
  ⟨(some 16), .call (.func 28) [(.tmp 15)], none⟩,
  ⟨(some 13), .mv (.tmp 16), none⟩,
  ⟨(some 17), .ext 0 (.tmp 13), none⟩,
  ⟨(some 18), .ext 1 (.tmp 13), none⟩,
  ⟨(some 5), .mv (.tmp 17), none⟩,
  ⟨(some 6), .mv (.tmp 18), none⟩])
 (.seq (.seq (.reg [⟨(some 19), .mv (.tmp 5), none⟩,
  ⟨(some 20), .mv (.tmp 3), none⟩,
  ⟨(some 21), .bin .neq (.tmp 19) (.tmp 20), none⟩,
  ⟨(some 22), .mv (.tmp 21), none⟩,
  ⟨(some 23), .mv (.tmp 6), (some (22, false))⟩,
  ⟨(some 24), .mv (.tmp 4), (some (22, false))⟩,
  ⟨(some 25), .beq true (.tmp 23) (.tmp 24), (some (22, false))⟩,
  ⟨(some 26), .pick (.tmp 22) (.const (.bool true)) (.tmp 25), none⟩])
 (.cond (.tmp 26) (.seq (.reg [⟨(some 2), .mv (.const (.bool false)), none⟩])
 (.ret)) (.skip)))
 (.seq (.reg [⟨(some 2), .mv (.const (.bool true)), none⟩])
 (.ret)))))
def r_laws_FnExactPowerCycle : List ARes := [.tmp 2]
theorem ok_laws_FnExactPowerCycle : FnOk Try.prog 6 27 c_laws_FnExactPowerCycle r_laws_FnExactPowerCycle := ⟨⟨Try.f6, _, Try.func6, by kernel_rfl, rfl, rfl, by kernel_rfl, by kernel_rfl⟩⟩
end Go.Proofs.Ytmjnjhdacliieaa.Ab
