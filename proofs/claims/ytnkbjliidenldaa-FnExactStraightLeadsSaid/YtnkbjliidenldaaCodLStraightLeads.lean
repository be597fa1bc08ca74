/- The compiled forms of functions, each checked against the translation. -/
import Derived.Test.YtnkbjliidenldaaAb2
import Derived.Test.YtnkbjliidenldaaProg
namespace Go.Proofs.Ytnkbjliidenldaa.Ab
open Go Go.RowKit Go.Proofs
set_option maxRecDepth 100000
def c_laws_FnExactStraightLeads : ACode := .seq (.reg [⟨(some 2), .mv (.const (.bool false)), none⟩])
 (.seq (.reg [⟨(some 3), .mv (.const (.int .i64 1048576)), none⟩])
 (.seq (.reg [⟨(some 14), .mv (.tmp 0), none⟩,
  ⟨(some 15), .mv (.tmp 3), none⟩,
  ⟨(some 16), .call (.func 50) [(.tmp 14), (.tmp 15)], none⟩,
  ⟨(some 3), .mv (.tmp 16), none⟩])
 (.seq (.seq (.reg [⟨(some 17), .mv (.tmp 3), none⟩,
  ⟨(some 18), .bin .lss (.tmp 17) (.const (.int .i64 0)), none⟩])
 (.cond (.tmp 18) (.seq (.reg [⟨(some 2), .mv (.const (.bool true)), none⟩])
 (.ret)) (.skip)))
 (.seq (.reg [⟨(some 20), .mv (.tmp 0), none⟩,
  ⟨(some 21), .call (.func 52) [(.tmp 20)], none⟩,
  ⟨(some 22), .call (.func 61) [(.tmp 21)], none⟩,
  ⟨(some 19), .mv (.tmp 22), none⟩,
  ⟨(some 23), .ext 0 (.tmp 19), none⟩,
  ⟨(some 24), .ext 1 (.tmp 19), none⟩,
  ⟨(some 4), .mv (.tmp 23), none⟩,
  ⟨(some 5), .mv (.tmp 24), none⟩])
 (.seq (.reg [⟨(some 25), .mv (.tmp 0), none⟩,
  ⟨(some 26), .call (.func 52) [(.tmp 25)], none⟩,
  ⟨(some 6), .mv (.tmp 26), none⟩])
 (.seq (.reg [⟨(some 28), .mv (.tmp 6), none⟩,
  ⟨(some 29), .call (.func 62) [(.tmp 28)], none⟩,
  ⟨(some 27), .mv (.tmp 29), none⟩,
  ⟨(some 30), .ext 0 (.tmp 27), none⟩,
  ⟨(some 31), .ext 1 (.tmp 27), none⟩,
  ⟨(some 7), .mv (.tmp 30), none⟩,
  ⟨(some 8), .mv (.tmp 31), none⟩])
 (.seq (.seq (.reg [⟨(some 32), .mv (.tmp 7), none⟩,
  ⟨(some 33), .mv (.tmp 4), none⟩,
  ⟨(some 34), .call (.func 54) [(.tmp 32), (.tmp 33)], none⟩,
  ⟨(some 35), .un .not (.tmp 34), none⟩,
  ⟨(some 36), .mv (.tmp 35), none⟩,
  ⟨(some 37), .mv (.tmp 8), (some (36, false))⟩,
  ⟨(some 38), .mv (.tmp 5), (some (36, false))⟩,
  ⟨(some 39), .beq true (.tmp 37) (.tmp 38), (some (36, false))⟩,
  ⟨(some 40), .pick (.tmp 36) (.const (.bool true)) (.tmp 39), none⟩])
 (.cond (.tmp 40) (.seq (.reg [⟨(some 2), .mv (.const (.bool false)), none⟩])
 (.ret)) (.skip)))
 (.seq (.seq (.reg [⟨(some 41), .mv (.tmp 6), none⟩,
  ⟨(some 42), .mv (.tmp 0), none⟩,
  ⟨(some 43), .call (.func 52) [(.tmp 42)], none⟩,
  ⟨(some 44), .call (.func 54) [(.tmp 41), (.tmp 43)], none⟩,
  ⟨(some 45), .un .not (.tmp 44), none⟩])
 (.cond (.tmp 45) (.seq (.reg [⟨(some 2), .mv (.const (.bool false)), none⟩])
 (.ret)) (.skip)))
 (.seq (.reg [⟨(some 9), .mv (.const (.int .i64 1)), none⟩])
 (.seq (.reg [⟨(some 46), .mv (.tmp 6), none⟩,
  ⟨(some 47), .mv (.tmp 9), none⟩,
  ⟨(some 48), .call (.func 55) [(.tmp 46), (.tmp 47)], none⟩,
  ⟨(some 9), .mv (.tmp 48), none⟩])
 (.seq (.seq (.reg [⟨(some 49), .mv (.tmp 9), none⟩,
  ⟨(some 50), .bin .lss (.tmp 49) (.const (.int .i64 0)), none⟩,
  ⟨(some 51), .mv (.tmp 50), none⟩,
  ⟨(some 52), .mv (.tmp 7), (some (51, false))⟩,
  ⟨(some 53), .mv (.tmp 4), (some (51, false))⟩,
  ⟨(some 54), .call (.func 54) [(.tmp 52), (.tmp 53)], (some (51, false))⟩,
  ⟨(some 55), .un .not (.tmp 54), (some (51, false))⟩,
  ⟨(some 56), .pick (.tmp 51) (.const (.bool true)) (.tmp 55), none⟩,
  ⟨(some 57), .mv (.tmp 56), none⟩,
  ⟨(some 58), .mv (.tmp 8), (some (57, false))⟩,
  ⟨(some 59), .mv (.tmp 5), (some (57, false))⟩,
  ⟨(some 60), .beq true (.tmp 58) (.tmp 59), (some (57, false))⟩,
  ⟨(some 61), .pick (.tmp 57) (.const (.bool true)) (.tmp 60), none⟩])
 (.cond (.tmp 61) (.seq (.reg [⟨(some 2), .mv (.const (.bool false)), none⟩])
 (.ret)) (.skip)))
 (.seq (.reg [⟨(some 10), .mv (.const (.int .i64 1)), none⟩])
 (.seq (.reg [⟨(some 62), .mv (.tmp 7), none⟩,
  ⟨(some 63), .mv (.tmp 10), none⟩,
  ⟨(some 64), .call (.func 55) [(.tmp 62), (.tmp 63)], none⟩,
  ⟨(some 10), .mv (.tmp 64), none⟩])
 (.seq (.reg [⟨(some 11), .mv (.const (.int .i64 1)), none⟩])
 (.seq (.reg [⟨(some 65), .mv (.tmp 7), none⟩,
  ⟨(some 66), .mv (.tmp 11), none⟩,
  ⟨(some 67), .call (.func 63) [(.tmp 65), (.tmp 66)], none⟩,
  ⟨(some 11), .mv (.tmp 67), none⟩])
 (.seq (.seq (.reg [⟨(some 68), .mv (.tmp 11), none⟩,
  ⟨(some 69), .bin .lss (.tmp 68) (.const (.int .i64 0)), none⟩])
 (.cond (.tmp 69) (.seq (.reg [⟨(some 2), .mv (.const (.bool false)), none⟩])
 (.ret)) (.skip)))
 (.seq (.seq (.reg [⟨(some 70), .mv (.tmp 11), none⟩,
  ⟨(some 71), .mv (.tmp 10), none⟩,
  ⟨(some 72), .bin .neq (.tmp 70) (.tmp 71), none⟩])
 (.cond (.tmp 72) (.seq (.reg [⟨(some 2), .mv (.const (.bool false)), none⟩])
 (.ret)) (.skip)))
 (.seq (.reg [⟨(some 74), .mv (.tmp 0), none⟩,
  ⟨(some 75), .call (.func 52) [(.tmp 74)], none⟩,
  ⟨(some 76), .call (.func 62) [(.tmp 75)], none⟩,
  ⟨(some 73), .mv (.tmp 76), none⟩,
  ⟨(some 77), .ext 0 (.tmp 73), none⟩,
  ⟨(some 78), .ext 1 (.tmp 73), none⟩,
  ⟨(some 12), .mv (.tmp 77), none⟩,
  ⟨(some 13), .mv (.tmp 78), none⟩])
 (.seq (.seq (.reg [⟨(some 79), .mv (.tmp 12), none⟩,
  ⟨(some 80), .mv (.tmp 4), none⟩,
  ⟨(some 81), .call (.func 54) [(.tmp 79), (.tmp 80)], none⟩,
  ⟨(some 82), .un .not (.tmp 81), none⟩,
  ⟨(some 83), .mv (.tmp 82), none⟩,
  ⟨(some 84), .mv (.tmp 13), (some (83, false))⟩,
  ⟨(some 85), .mv (.tmp 5), (some (83, false))⟩,
  ⟨(some 86), .beq true (.tmp 84) (.tmp 85), (some (83, false))⟩,
  ⟨(some 87), .pick (.tmp 83) (.const (.bool true)) (.tmp 86), none⟩])
 (.cond (.tmp 87) (.seq (.reg [⟨(some 2), .mv (.const (.bool false)), none⟩])
 (.ret)) (.skip)))
 (.seq (.reg [⟨(some 11), .mv (.const (.int .i64 1)), none⟩])
 (.seq (.reg [⟨(some 88), .mv (.tmp 7), none⟩,
  ⟨(some 89), .mv (.tmp 11), none⟩,
  ⟨(some 90), .call (.func 63) [(.tmp 88), (.tmp 89)], none⟩,
  ⟨(some 11), .mv (.tmp 90), none⟩])
 (.seq (.seq (.reg [⟨(some 91), .mv (.tmp 11), none⟩,
  ⟨(some 92), .bin .lss (.tmp 91) (.const (.int .i64 0)), none⟩])
 (.cond (.tmp 92) (.seq (.reg [⟨(some 2), .mv (.const (.bool false)), none⟩])
 (.ret)) (.skip)))
 (.seq (.seq (.reg [⟨(some 93), .mv (.tmp 11), none⟩,
  ⟨(some 94), .mv (.tmp 10), none⟩,
  ⟨(some 95), .bin .neq (.tmp 93) (.tmp 94), none⟩])
 (.cond (.tmp 95) (.seq (.reg [⟨(some 2), .mv (.const (.bool false)), none⟩])
 (.ret)) (.skip)))
 (.seq (.reg [⟨(some 2), .mv (.const (.bool true)), none⟩])
 (.ret)))))))))))))))))))))))))
def r_laws_FnExactStraightLeads : List ARes := [.tmp 2]
theorem ok_laws_FnExactStraightLeads : FnOk Try.prog 16 96 c_laws_FnExactStraightLeads r_laws_FnExactStraightLeads := ⟨⟨Try.f16, _, Try.func16, by kernel_rfl, rfl, rfl, by kernel_rfl, by kernel_rfl⟩⟩
end Go.Proofs.Ytnkbjliidenldaa.Ab
