/- The compiled forms of functions, each checked against the translation. -/
import Derived.Test.YtonpeflncnccdaaAb2
import Derived.Test.YtonpeflncnccdaaProg
namespace Go.Proofs.Ytonpeflncnccdaa.Ab
open Go Go.RowKit Go.Proofs
set_option maxRecDepth 100000
def c_laws_FnExactRulePeriods : ACode := .seq (.reg [⟨(some 2), .box 24 (.tmp 0), none⟩,
  ⟨(some 4), .mv (.const (.bool false)), none⟩])
 (.seq (.reg [⟨(some 5), .mv (.const (.int .i64 1048576)), none⟩])
 (.seq (.reg [⟨(some 16), .ld (some 4) (.tmp 2), none⟩,
  ⟨(some 17), .mv (.tmp 5), none⟩,
  ⟨(some 18), .call (.func 11) [(.tmp 16), (.tmp 17)], none⟩,
  ⟨(some 5), .mv (.tmp 18), none⟩])
 (.seq (.seq (.reg [⟨(some 19), .mv (.tmp 5), none⟩,
  ⟨(some 20), .bin .lss (.tmp 19) (.const (.int .i64 0)), none⟩])
 (.cond (.tmp 20) (.seq (.reg [⟨(some 4), .mv (.const (.bool true)), none⟩])
 (.ret)) (.skip)))
 (.seq (.reg [⟨(some 22), .ld (some 4) (.tmp 2), none⟩,
  ⟨(some 23), .call (.func 13) [(.tmp 22)], none⟩,
  ⟨(some 24), .mv (.tmp 1), none⟩,
  ⟨(some 25), .call (.func 25) [(.tmp 23), (.tmp 24)], none⟩,
  ⟨(some 21), .mv (.tmp 25), none⟩,
  ⟨(some 26), .ext 0 (.tmp 21), none⟩,
  ⟨(some 27), .ext 1 (.tmp 21), none⟩,
  ⟨(some 6), .mv (.tmp 26), none⟩,
  ⟨(some 7), .mv (.tmp 27), none⟩])
 (.seq (.reg [⟨(some 28), .ld (some 4) (.tmp 2), none⟩,
  ⟨(some 29), .call (.func 13) [(.tmp 28)], none⟩,
  ⟨(some 8), .alc 28 [(.slice none 0 0), (.slice none 0 0), (.slice none 0 0), (.slice none 0 0)], none⟩,
  ⟨none, .st 4 (.tmp 8) (.tmp 29), none⟩])
 (.seq (.reg [⟨(some 31), .ld (some 4) (.tmp 8), none⟩,
  ⟨(some 32), .mv (.tmp 1), none⟩,
  ⟨(some 33), .call (.func 26) [(.tmp 31), (.tmp 32)], none⟩,
  ⟨(some 30), .mv (.tmp 33), none⟩,
  ⟨(some 34), .ext 0 (.tmp 30), none⟩,
  ⟨(some 35), .ext 1 (.tmp 30), none⟩,
  ⟨(some 9), .mv (.tmp 34), none⟩,
  ⟨(some 10), .mv (.tmp 35), none⟩])
 (.seq (.seq (.reg [⟨(some 36), .mv (.tmp 9), none⟩,
  ⟨(some 37), .mv (.tmp 6), none⟩,
  ⟨(some 38), .call (.func 18) [(.tmp 36), (.tmp 37)], none⟩,
  ⟨(some 39), .un .not (.tmp 38), none⟩,
  ⟨(some 40), .mv (.tmp 39), none⟩,
  ⟨(some 41), .mv (.tmp 10), (some (40, false))⟩,
  ⟨(some 42), .mv (.tmp 7), (some (40, false))⟩,
  ⟨(some 43), .beq true (.tmp 41) (.tmp 42), (some (40, false))⟩,
  ⟨(some 44), .pick (.tmp 40) (.const (.bool true)) (.tmp 43), none⟩])
 (.cond (.tmp 44) (.seq (.reg [⟨(some 4), .mv (.const (.bool false)), none⟩])
 (.ret)) (.skip)))
 (.seq (.seq (.reg [⟨(some 45), .ld (some 4) (.tmp 8), none⟩,
  ⟨(some 46), .ld (some 4) (.tmp 2), none⟩,
  ⟨(some 47), .rcall (.func 13) [(.tmp 46)], none⟩,
  ⟨(some 48), .rcall (.func 15) [(.tmp 45), (.tmp 47)], none⟩,
  ⟨(some 49), .un .not (.tmp 48), none⟩])
 (.cond (.tmp 49) (.seq (.reg [⟨(some 4), .mv (.const (.bool false)), none⟩])
 (.ret)) (.skip)))
 (.seq (.reg [⟨(some 11), .mv (.const (.int .i64 1)), none⟩])
 (.seq (.reg [⟨(some 50), .ld (some 4) (.tmp 8), none⟩,
  ⟨(some 51), .mv (.tmp 11), none⟩,
  ⟨(some 52), .call (.func 19) [(.tmp 50), (.tmp 51)], none⟩,
  ⟨(some 11), .mv (.tmp 52), none⟩])
 (.seq (.seq (.reg [⟨(some 53), .mv (.tmp 11), none⟩,
  ⟨(some 54), .bin .lss (.tmp 53) (.const (.int .i64 0)), none⟩,
  ⟨(some 55), .mv (.tmp 54), none⟩,
  ⟨(some 56), .mv (.tmp 9), (some (55, false))⟩,
  ⟨(some 57), .mv (.tmp 6), (some (55, false))⟩,
  ⟨(some 58), .call (.func 18) [(.tmp 56), (.tmp 57)], (some (55, false))⟩,
  ⟨(some 59), .un .not (.tmp 58), (some (55, false))⟩,
  ⟨(some 60), .pick (.tmp 55) (.const (.bool true)) (.tmp 59), none⟩,
  ⟨(some 61), .mv (.tmp 60), none⟩,
  ⟨(some 62), .mv (.tmp 10), (some (61, false))⟩,
  ⟨(some 63), .mv (.tmp 7), (some (61, false))⟩,
  ⟨(some 64), .beq true (.tmp 62) (.tmp 63), (some (61, false))⟩,
  ⟨(some 65), .pick (.tmp 61) (.const (.bool true)) (.tmp 64), none⟩])
 (.cond (.tmp 65) (.seq (.reg [⟨(some 4), .mv (.const (.bool false)), none⟩])
 (.ret)) (.skip)))
 (.seq (.reg [⟨(some 12), .mv (.const (.int .i64 1)), none⟩])
 (.seq (.reg [⟨(some 66), .mv (.tmp 9), none⟩,
  ⟨(some 67), .mv (.tmp 12), none⟩,
  ⟨(some 68), .call (.func 20) [(.tmp 66), (.tmp 67)], none⟩,
  ⟨(some 12), .mv (.tmp 68), none⟩])
 (.seq (.reg [⟨(some 13), .mv (.const (.int .i64 1)), none⟩])
 (.seq (.reg [⟨(some 69), .mv (.tmp 9), none⟩,
  ⟨(some 70), .mv (.tmp 13), none⟩,
  ⟨(some 71), .call (.func 21) [(.tmp 69), (.tmp 70)], none⟩,
  ⟨(some 13), .mv (.tmp 71), none⟩])
 (.seq (.seq (.reg [⟨(some 72), .mv (.tmp 13), none⟩,
  ⟨(some 73), .bin .lss (.tmp 72) (.const (.int .i64 0)), none⟩])
 (.cond (.tmp 73) (.seq (.reg [⟨(some 4), .mv (.const (.bool false)), none⟩])
 (.ret)) (.skip)))
 (.seq (.seq (.reg [⟨(some 74), .mv (.tmp 13), none⟩,
  ⟨(some 75), .mv (.tmp 12), none⟩,
  ⟨(some 76), .bin .neq (.tmp 74) (.tmp 75), none⟩])
 (.cond (.tmp 76) (.seq (.reg [⟨(some 4), .mv (.const (.bool false)), none⟩])
 (.ret)) (.skip)))
 (.seq (.reg [⟨(some 78), .ld (some 4) (.tmp 2), none⟩,
  ⟨(some 79), .call (.func 13) [(.tmp 78)], none⟩,
  ⟨(some 80), .mv (.tmp 1), none⟩,
  ⟨(some 81), .call (.func 26) [(.tmp 79), (.tmp 80)], none⟩,
  ⟨(some 77), .mv (.tmp 81), none⟩,
  ⟨(some 82), .ext 0 (.tmp 77), none⟩,
  ⟨(some 83), .ext 1 (.tmp 77), none⟩,
  ⟨(some 14), .mv (.tmp 82), none⟩,
  ⟨(some 15), .mv (.tmp 83), none⟩])
 (.seq (.seq (.reg [⟨(some 84), .mv (.tmp 14), none⟩,
  ⟨(some 85), .mv (.tmp 6), none⟩,
  ⟨(some 86), .call (.func 18) [(.tmp 84), (.tmp 85)], none⟩,
  ⟨(some 87), .un .not (.tmp 86), none⟩,
  ⟨(some 88), .mv (.tmp 87), none⟩,
  ⟨(some 89), .mv (.tmp 15), (some (88, false))⟩,
  ⟨(some 90), .mv (.tmp 7), (some (88, false))⟩,
  ⟨(some 91), .beq true (.tmp 89) (.tmp 90), (some (88, false))⟩,
  ⟨(some 92), .pick (.tmp 88) (.const (.bool true)) (.tmp 91), none⟩])
 (.cond (.tmp 92) (.seq (.reg [⟨(some 4), .mv (.const (.bool false)), none⟩])
 (.ret)) (.skip)))
 (.seq (.reg [⟨(some 13), .mv (.const (.int .i64 1)), none⟩])
 (.seq (.reg [⟨(some 93), .mv (.tmp 9), none⟩,
  ⟨(some 94), .mv (.tmp 13), none⟩,
  ⟨(some 95), .call (.func 21) [(.tmp 93), (.tmp 94)], none⟩,
  ⟨(some 13), .mv (.tmp 95), none⟩])
 (.seq (.seq (.reg [⟨(some 96), .mv (.tmp 13), none⟩,
  ⟨(some 97), .bin .lss (.tmp 96) (.const (.int .i64 0)), none⟩])
 (.cond (.tmp 97) (.seq (.reg [⟨(some 4), .mv (.const (.bool false)), none⟩])
 (.ret)) (.skip)))
 (.seq (.seq (.reg [⟨(some 98), .mv (.tmp 13), none⟩,
  ⟨(some 99), .mv (.tmp 12), none⟩,
  ⟨(some 100), .bin .neq (.tmp 98) (.tmp 99), none⟩])
 (.cond (.tmp 100) (.seq (.reg [⟨(some 4), .mv (.const (.bool false)), none⟩])
 (.ret)) (.skip)))
 (.seq (.reg [⟨(some 4), .mv (.const (.bool true)), none⟩])
 (.ret)))))))))))))))))))))))))
def r_laws_FnExactRulePeriods : List ARes := [.tmp 4]
theorem ok_laws_FnExactRulePeriods : FnOk Try.prog 6 101 c_laws_FnExactRulePeriods r_laws_FnExactRulePeriods := ⟨⟨Try.f6, _, Try.func6, by kernel_rfl, rfl, rfl, by kernel_rfl, by kernel_rfl⟩⟩
end Go.Proofs.Ytonpeflncnccdaa.Ab
