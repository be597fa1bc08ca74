/- The compiled forms of functions, each checked against the translation. -/
import Derived.Test.YtnkbjliidenldaaAb2
import Derived.Test.YtnkbjliidenldaaProg
namespace Go.Proofs.Ytnkbjliidenldaa.Ab
open Go Go.RowKit Go.Proofs
set_option maxRecDepth 100000
def c_laws_FnExactStockCost : ACode := .seq (.reg [⟨(some 6), .mv (.const (.bool false)), none⟩])
 (.seq (.seq (.reg [⟨(some 12), .mv (.tmp 0), none⟩,
  ⟨(some 13), .len (.tmp 12), none⟩,
  ⟨(some 14), .bin .gtr (.tmp 13) (.const (.int .i64 1048576)), none⟩])
 (.cond (.tmp 14) (.seq (.reg [⟨(some 6), .mv (.const (.bool true)), none⟩])
 (.ret)) (.skip)))
 (.seq (.reg [⟨(some 16), .mv (.tmp 0), none⟩,
  ⟨(some 17), .call (.func 35) [(.tmp 16)], none⟩,
  ⟨(some 18), .mv (.tmp 1), none⟩,
  ⟨(some 19), .mv (.tmp 2), none⟩,
  ⟨(some 20), .call (.func 44) [(.tmp 17), (.tmp 18), (.tmp 19)], none⟩,
  ⟨(some 15), .mv (.tmp 20), none⟩,
  ⟨(some 21), .ext 0 (.tmp 15), none⟩,
  ⟨(some 22), .ext 1 (.tmp 15), none⟩,
  ⟨(some 7), .mv (.tmp 21), none⟩,
  ⟨(some 8), .mv (.tmp 22), none⟩])
 (.seq (.reg [⟨(some 23), .mv (.tmp 0), none⟩,
  ⟨(some 24), .call (.func 35) [(.tmp 23)], none⟩,
  ⟨(some 9), .mv (.tmp 24), none⟩])
 (.seq (.reg [⟨(some 26), .mv (.tmp 9), none⟩,
  ⟨(some 27), .mv (.tmp 1), none⟩,
  ⟨(some 28), .mv (.tmp 2), none⟩,
  ⟨(some 29), .call (.func 45) [(.tmp 26), (.tmp 27), (.tmp 28)], none⟩,
  ⟨(some 25), .mv (.tmp 29), none⟩,
  ⟨(some 30), .ext 0 (.tmp 25), none⟩,
  ⟨(some 31), .ext 1 (.tmp 25), none⟩,
  ⟨(some 10), .mv (.tmp 30), none⟩,
  ⟨(some 11), .mv (.tmp 31), none⟩])
 (.seq (.seq (.reg [⟨(some 32), .mv (.tmp 10), none⟩,
  ⟨(some 33), .mv (.tmp 7), none⟩,
  ⟨(some 34), .bin .neq (.tmp 32) (.tmp 33), none⟩,
  ⟨(some 35), .mv (.tmp 34), none⟩,
  ⟨(some 36), .mv (.tmp 11), (some (35, false))⟩,
  ⟨(some 37), .mv (.tmp 8), (some (35, false))⟩,
  ⟨(some 38), .beq true (.tmp 36) (.tmp 37), (some (35, false))⟩,
  ⟨(some 39), .pick (.tmp 35) (.const (.bool true)) (.tmp 38), none⟩])
 (.cond (.tmp 39) (.seq (.reg [⟨(some 6), .mv (.const (.bool false)), none⟩])
 (.ret)) (.skip)))
 (.seq (.seq (.reg [⟨(some 40), .mv (.tmp 9), none⟩,
  ⟨(some 41), .mv (.tmp 0), none⟩,
  ⟨(some 42), .call (.func 35) [(.tmp 41)], none⟩,
  ⟨(some 43), .call (.func 37) [(.tmp 40), (.tmp 42)], none⟩,
  ⟨(some 44), .un .not (.tmp 43), none⟩])
 (.cond (.tmp 44) (.seq (.reg [⟨(some 6), .mv (.const (.bool false)), none⟩])
 (.ret)) (.skip)))
 (.seq (.reg [⟨(some 6), .mv (.const (.bool true)), none⟩])
 (.ret))))))))
def r_laws_FnExactStockCost : List ARes := [.tmp 6]
theorem ok_laws_FnExactStockCost : FnOk Try.prog 11 45 c_laws_FnExactStockCost r_laws_FnExactStockCost := ⟨⟨Try.f11, _, Try.func11, by kernel_rfl, rfl, rfl, by kernel_rfl, by kernel_rfl⟩⟩
end Go.Proofs.Ytnkbjliidenldaa.Ab
