/- The compiled forms of functions, each checked against the translation. -/
import Derived.Test.YtnkbjliidenldaaAb2
import Derived.Test.YtnkbjliidenldaaProg
namespace Go.Proofs.Ytnkbjliidenldaa.Ab
open Go Go.RowKit Go.Proofs
set_option maxRecDepth 100000
def c_laws_FnExactLeadNeeds : ACode := .seq (.reg [⟨(some 4), .mv (.const (.bool false)), none⟩])
 (.seq (.seq (.reg [⟨(some 15), .mv (.tmp 0), none⟩,
  ⟨(some 16), .len (.tmp 15), none⟩,
  ⟨(some 17), .bin .gtr (.tmp 16) (.const (.int .i64 1048576)), none⟩])
 (.cond (.tmp 17) (.seq (.reg [⟨(some 4), .mv (.const (.bool true)), none⟩])
 (.ret)) (.skip)))
 (.seq (.reg [⟨(some 19), .mv (.tmp 0), none⟩,
  ⟨(some 20), .call (.func 35) [(.tmp 19)], none⟩,
  ⟨(some 21), .mv (.tmp 1), none⟩,
  ⟨(some 22), .call (.func 46) [(.tmp 20), (.tmp 21)], none⟩,
  ⟨(some 18), .mv (.tmp 22), none⟩,
  ⟨(some 23), .ext 0 (.tmp 18), none⟩,
  ⟨(some 24), .ext 1 (.tmp 18), none⟩,
  ⟨(some 5), .mv (.tmp 23), none⟩,
  ⟨(some 6), .mv (.tmp 24), none⟩])
 (.seq (.reg [⟨(some 25), .mv (.tmp 0), none⟩,
  ⟨(some 26), .call (.func 35) [(.tmp 25)], none⟩,
  ⟨(some 7), .mv (.tmp 26), none⟩])
 (.seq (.reg [⟨(some 28), .mv (.tmp 7), none⟩,
  ⟨(some 29), .mv (.tmp 1), none⟩,
  ⟨(some 30), .call (.func 47) [(.tmp 28), (.tmp 29)], none⟩,
  ⟨(some 27), .mv (.tmp 30), none⟩,
  ⟨(some 31), .ext 0 (.tmp 27), none⟩,
  ⟨(some 32), .ext 1 (.tmp 27), none⟩,
  ⟨(some 8), .mv (.tmp 31), none⟩,
  ⟨(some 9), .mv (.tmp 32), none⟩])
 (.seq (.seq (.reg [⟨(some 33), .mv (.tmp 8), none⟩,
  ⟨(some 34), .mv (.tmp 5), none⟩,
  ⟨(some 35), .call (.func 37) [(.tmp 33), (.tmp 34)], none⟩,
  ⟨(some 36), .un .not (.tmp 35), none⟩,
  ⟨(some 37), .mv (.tmp 36), none⟩,
  ⟨(some 38), .mv (.tmp 9), (some (37, false))⟩,
  ⟨(some 39), .mv (.tmp 6), (some (37, false))⟩,
  ⟨(some 40), .beq true (.tmp 38) (.tmp 39), (some (37, false))⟩,
  ⟨(some 41), .pick (.tmp 37) (.const (.bool true)) (.tmp 40), none⟩])
 (.cond (.tmp 41) (.seq (.reg [⟨(some 4), .mv (.const (.bool false)), none⟩])
 (.ret)) (.skip)))
 (.seq (.seq (.reg [⟨(some 42), .mv (.tmp 7), none⟩,
  ⟨(some 43), .mv (.tmp 0), none⟩,
  ⟨(some 44), .call (.func 35) [(.tmp 43)], none⟩,
  ⟨(some 45), .call (.func 37) [(.tmp 42), (.tmp 44)], none⟩,
  ⟨(some 46), .un .not (.tmp 45), none⟩])
 (.cond (.tmp 46) (.seq (.reg [⟨(some 4), .mv (.const (.bool false)), none⟩])
 (.ret)) (.skip)))
 (.seq (.reg [⟨(some 10), .mv (.const (.int .i64 1)), none⟩])
 (.seq (.reg [⟨(some 47), .mv (.tmp 7), none⟩,
  ⟨(some 48), .mv (.tmp 10), none⟩,
  ⟨(some 49), .call (.func 38) [(.tmp 47), (.tmp 48)], none⟩,
  ⟨(some 10), .mv (.tmp 49), none⟩])
 (.seq (.seq (.reg [⟨(some 50), .mv (.tmp 10), none⟩,
  ⟨(some 51), .bin .lss (.tmp 50) (.const (.int .i64 0)), none⟩,
  ⟨(some 52), .mv (.tmp 51), none⟩,
  ⟨(some 53), .mv (.tmp 8), (some (52, false))⟩,
  ⟨(some 54), .mv (.tmp 5), (some (52, false))⟩,
  ⟨(some 55), .call (.func 37) [(.tmp 53), (.tmp 54)], (some (52, false))⟩,
  ⟨(some 56), .un .not (.tmp 55), (some (52, false))⟩,
  ⟨(some 57), .pick (.tmp 52) (.const (.bool true)) (.tmp 56), none⟩,
  ⟨(some 58), .mv (.tmp 57), none⟩,
  ⟨(some 59), .mv (.tmp 9), (some (58, false))⟩,
  ⟨(some 60), .mv (.tmp 6), (some (58, false))⟩,
  ⟨(some 61), .beq true (.tmp 59) (.tmp 60), (some (58, false))⟩,
  ⟨(some 62), .pick (.tmp 58) (.const (.bool true)) (.tmp 61), none⟩])
 (.cond (.tmp 62) (.seq (.reg [⟨(some 4), .mv (.const (.bool false)), none⟩])
 (.ret)) (.skip)))
 (.seq (.reg [⟨(some 11), .mv (.const (.int .i64 1)), none⟩])
 (.seq (.reg [⟨(some 63), .mv (.tmp 8), none⟩,
  ⟨(some 64), .mv (.tmp 11), none⟩,
  ⟨(some 65), .call (.func 38) [(.tmp 63), (.tmp 64)], none⟩,
  ⟨(some 11), .mv (.tmp 65), none⟩])
 (.seq (.reg [⟨(some 12), .mv (.const (.int .i64 1)), none⟩])
 (.seq (.reg [⟨(some 66), .mv (.tmp 8), none⟩,
  ⟨(some 67), .mv (.tmp 12), none⟩,
  ⟨(some 68), .call (.func 39) [(.tmp 66), (.tmp 67)], none⟩,
  ⟨(some 12), .mv (.tmp 68), none⟩])
 (.seq (.seq (.reg [⟨(some 69), .mv (.tmp 12), none⟩,
  ⟨(some 70), .bin .lss (.tmp 69) (.const (.int .i64 0)), none⟩])
 (.cond (.tmp 70) (.seq (.reg [⟨(some 4), .mv (.const (.bool false)), none⟩])
 (.ret)) (.skip)))
 (.seq (.seq (.reg [⟨(some 71), .mv (.tmp 12), none⟩,
  ⟨(some 72), .mv (.tmp 11), none⟩,
  ⟨(some 73), .bin .neq (.tmp 71) (.tmp 72), none⟩])
 (.cond (.tmp 73) (.seq (.reg [⟨(some 4), .mv (.const (.bool false)), none⟩])
 (.ret)) (.skip)))
 (.seq (.reg [⟨(some 75), .mv (.tmp 0), none⟩,
  ⟨(some 76), .call (.func 35) [(.tmp 75)], none⟩,
  ⟨(some 77), .mv (.tmp 1), none⟩,
  ⟨(some 78), .call (.func 47) [(.tmp 76), (.tmp 77)], none⟩,
  ⟨(some 74), .mv (.tmp 78), none⟩,
  ⟨(some 79), .ext 0 (.tmp 74), none⟩,
  ⟨(some 80), .ext 1 (.tmp 74), none⟩,
  ⟨(some 13), .mv (.tmp 79), none⟩,
  ⟨(some 14), .mv (.tmp 80), none⟩])
 (.seq (.seq (.reg [⟨(some 81), .mv (.tmp 13), none⟩,
  ⟨(some 82), .mv (.tmp 5), none⟩,
  ⟨(some 83), .call (.func 37) [(.tmp 81), (.tmp 82)], none⟩,
  ⟨(some 84), .un .not (.tmp 83), none⟩,
  ⟨(some 85), .mv (.tmp 84), none⟩,
  ⟨(some 86), .mv (.tmp 14), (some (85, false))⟩,
  ⟨(some 87), .mv (.tmp 6), (some (85, false))⟩,
  ⟨(some 88), .beq true (.tmp 86) (.tmp 87), (some (85, false))⟩,
  ⟨(some 89), .pick (.tmp 85) (.const (.bool true)) (.tmp 88), none⟩])
 (.cond (.tmp 89) (.seq (.reg [⟨(some 4), .mv (.const (.bool false)), none⟩])
 (.ret)) (.skip)))
 (.seq (.reg [⟨(some 12), .mv (.const (.int .i64 1)), none⟩])
 (.seq (.reg [⟨(some 90), .mv (.tmp 8), none⟩,
  ⟨(some 91), .mv (.tmp 12), none⟩,
  ⟨(some 92), .call (.func 39) [(.tmp 90), (.tmp 91)], none⟩,
  ⟨(some 12), .mv (.tmp 92), none⟩])
 (.seq (.seq (.reg [⟨(some 93), .mv (.tmp 12), none⟩,
  ⟨(some 94), .bin .lss (.tmp 93) (.const (.int .i64 0)), none⟩])
 (.cond (.tmp 94) (.seq (.reg [⟨(some 4), .mv (.const (.bool false)), none⟩])
 (.ret)) (.skip)))
 (.seq (.seq (.reg [⟨(some 95), .mv (.tmp 12), none⟩,
  ⟨(some 96), .mv (.tmp 11), none⟩,
  ⟨(some 97), .bin .neq (.tmp 95) (.tmp 96), none⟩])
 (.cond (.tmp 97) (.seq (.reg [⟨(some 4), .mv (.const (.bool false)), none⟩])
 (.ret)) (.skip)))
 (.seq (.reg [⟨(some 4), .mv (.const (.bool true)), none⟩])
 (.ret)))))))))))))))))))))))
def r_laws_FnExactLeadNeeds : List ARes := [.tmp 4]
theorem ok_laws_FnExactLeadNeeds : FnOk Try.prog 12 98 c_laws_FnExactLeadNeeds r_laws_FnExactLeadNeeds := ⟨⟨Try.f12, _, Try.func12, by kernel_rfl, rfl, rfl, by kernel_rfl, by kernel_rfl⟩⟩
end Go.Proofs.Ytnkbjliidenldaa.Ab
