/- The compiled forms of functions, each checked against the translation. -/
import Derived.Test.YtbiipjdhabbleaaAb2
import Derived.Test.YtbiipjdhabbleaaProg
namespace Go.Proofs.Ytbiipjdhabbleaa.Ab
open Go Go.RowKit Go.Proofs
set_option maxRecDepth 100000
def c_spec_LastOrders : ACode := .seq (.reg [⟨(some 1), .box 28 (.tmp 0), none⟩,
  ⟨(some 2), .mv (.const (.slice none 0 0)), none⟩,
  ⟨(some 3), .mv (.const (.bool false)), none⟩])
 (.seq (.seq (.reg [⟨(some 6), .ld (some 4) (.tmp 1), none⟩,
  ⟨(some 7), .call (.func 47) [(.tmp 6)], none⟩,
  ⟨(some 8), .un .not (.tmp 7), none⟩])
 (.cond (.tmp 8) (.seq (.reg [⟨(some 9), .bsl 3 1 0 [] [], none⟩,
  ⟨(some 2), .mv (.tmp 9), none⟩,
  ⟨(some 3), .mv (.const (.bool false)), none⟩])
 (.ret)) (.skip)))
 (.seq (.reg [⟨(some 11), .ld (some 4) (.tmp 1), none⟩,
  ⟨(some 12), .call (.func 57) [(.tmp 11)], none⟩,
  ⟨(some 10), .mv (.tmp 12), none⟩,
  ⟨(some 13), .ext 0 (.tmp 10), none⟩,
  ⟨(some 14), .ext 1 (.tmp 10), none⟩,
  ⟨(some 4), .mv (.tmp 13), none⟩,
  ⟨(some 5), .mv (.tmp 14), none⟩])
 (.seq (.reg [⟨(some 15), .mv (.tmp 5), none⟩,
  ⟨(some 2), .mv (.tmp 15), none⟩,
  ⟨(some 3), .mv (.const (.bool true)), none⟩])
 (.ret))))
def r_spec_LastOrders : List ARes := [.tmp 2, .tmp 3]
theorem ok_spec_LastOrders : FnOk Try.prog 36 16 c_spec_LastOrders r_spec_LastOrders := ⟨⟨Try.f36, _, Try.func36, by kernel_rfl, rfl, rfl, by kernel_rfl, by kernel_rfl⟩⟩
end Go.Proofs.Ytbiipjdhabbleaa.Ab
