/- The compiled forms of functions, each checked against the translation. -/
import Derived.Test.YtonpeflncnccdaaAb2
import Derived.Test.YtonpeflncnccdaaProg
namespace Go.Proofs.Ytonpeflncnccdaa.Ab
open Go Go.RowKit Go.Proofs
set_option maxRecDepth 100000
def c_laws_FnExactPlanFrom : ACode := .seq (.reg [⟨(some 2), .box 24 (.tmp 0), none⟩,
  ⟨(some 4), .mv (.const (.bool false)), none⟩])
 (.seq (.seq (.reg [⟨(some 17), .mv (.tmp 1), none⟩,
  ⟨(some 18), .len (.tmp 17), none⟩,
  ⟨(some 19), .bin .gtr (.tmp 18) (.const (.int .i64 1048576)), none⟩])
 (.cond (.tmp 19) (.seq (.reg [⟨(some 4), .mv (.const (.bool true)), none⟩])
 (.ret)) (.skip)))
 (.seq (.reg [⟨(some 5), .mv (.const (.int .i64 1048576)), none⟩])
 (.seq (.reg [⟨(some 20), .ld (some 4) (.tmp 2), none⟩,
  ⟨(some 21), .mv (.tmp 5), none⟩,
  ⟨(some 22), .call (.func 11) [(.tmp 20), (.tmp 21)], none⟩,
  ⟨(some 5), .mv (.tmp 22), none⟩])
 (.seq (.seq (.reg [⟨(some 23), .mv (.tmp 5), none⟩,
  ⟨(some 24), .bin .lss (.tmp 23) (.const (.int .i64 0)), none⟩])
 (.cond (.tmp 24) (.seq (.reg [⟨(some 4), .mv (.const (.bool true)), none⟩])
 (.ret)) (.skip)))
 (.seq (.reg [⟨(some 26), .ld (some 4) (.tmp 2), none⟩,
  ⟨(some 27), .call (.func 13) [(.tmp 26)], none⟩,
  ⟨(some 28), .mv (.tmp 1), none⟩,
  ⟨(some 29), .call (.func 23) [(.tmp 28)], none⟩,
  ⟨(some 30), .call (.func 22) [(.tmp 27), (.tmp 29)], none⟩,
  ⟨(some 25), .mv (.tmp 30), none⟩,
  ⟨(some 31), .ext 0 (.tmp 25), none⟩,
  ⟨(some 32), .ext 1 (.tmp 25), none⟩,
  ⟨(some 6), .mv (.tmp 31), none⟩,
  ⟨(some 7), .mv (.tmp 32), none⟩])
 (.seq (.reg [⟨(some 33), .ld (some 4) (.tmp 2), none⟩,
  ⟨(some 34), .call (.func 13) [(.tmp 33)], none⟩,
  ⟨(some 8), .alc 28 [(.slice none 0 0), (.slice none 0 0), (.slice none 0 0), (.slice none 0 0)], none⟩,
  ⟨none, .st 4 (.tmp 8) (.tmp 34), none⟩])
 (.seq (.reg [⟨(some 35), .mv (.tmp 1), none⟩,
  ⟨(some 36), .call (.func 23) [(.tmp 35)], none⟩,
  ⟨(some 9), .mv (.tmp 36), none⟩])
 (.seq (.reg [⟨(some 38), .ld (some 4) (.tmp 8), none⟩,
  ⟨(some 39), .mv (.tmp 9), none⟩,
  ⟨(some 40), .call (.func 24) [(.tmp 38), (.tmp 39)], none⟩,
  ⟨(some 37), .mv (.tmp 40), none⟩,
  ⟨(some 41), .ext 0 (.tmp 37), none⟩,
  ⟨(some 42), .ext 1 (.tmp 37), none⟩,
  ⟨(some 10), .mv (.tmp 41), none⟩,
  ⟨(some 11), .mv (.tmp 42), none⟩])
 (.seq (.seq (.reg [⟨(some 43), .mv (.tmp 10), none⟩,
  ⟨(some 44), .mv (.tmp 6), none⟩,
  ⟨(some 45), .call (.func 18) [(.tmp 43), (.tmp 44)], none⟩,
  ⟨(some 46), .un .not (.tmp 45), none⟩,
  ⟨(some 47), .mv (.tmp 46), none⟩,
  ⟨(some 48), .mv (.tmp 11), (some (47, false))⟩,
  ⟨(some 49), .mv (.tmp 7), (some (47, false))⟩,
  ⟨(some 50), .beq true (.tmp 48) (.tmp 49), (some (47, false))⟩,
  ⟨(some 51), .pick (.tmp 47) (.const (.bool true)) (.tmp 50), none⟩])
 (.cond (.tmp 51) (.seq (.reg [⟨(some 4), .mv (.const (.bool false)), none⟩])
 (.ret)) (.skip)))
 (.seq (.seq (.reg [⟨(some 52), .ld (some 4) (.tmp 8), none⟩,
  ⟨(some 53), .ld (some 4) (.tmp 2), none⟩,
  ⟨(some 54), .rcall (.func 13) [(.tmp 53)], none⟩,
  ⟨(some 55), .rcall (.func 15) [(.tmp 52), (.tmp 54)], none⟩,
  ⟨(some 56), .un .not (.tmp 55), none⟩])
 (.cond (.tmp 56) (.seq (.reg [⟨(some 4), .mv (.const (.bool false)), none⟩])
 (.ret)) (.skip)))
 (.seq (.seq (.reg [⟨(some 57), .mv (.tmp 9), none⟩,
  ⟨(some 58), .mv (.tmp 1), none⟩,
  ⟨(some 59), .call (.func 23) [(.tmp 58)], none⟩,
  ⟨(some 60), .call (.func 18) [(.tmp 57), (.tmp 59)], none⟩,
  ⟨(some 61), .un .not (.tmp 60), none⟩])
 (.cond (.tmp 61) (.seq (.reg [⟨(some 4), .mv (.const (.bool false)), none⟩])
 (.ret)) (.skip)))
 (.seq (.reg [⟨(some 12), .mv (.const (.int .i64 1)), none⟩])
 (.seq (.reg [⟨(some 62), .ld (some 4) (.tmp 8), none⟩,
  ⟨(some 63), .mv (.tmp 12), none⟩,
  ⟨(some 64), .call (.func 19) [(.tmp 62), (.tmp 63)], none⟩,
  ⟨(some 12), .mv (.tmp 64), none⟩])
 (.seq (.reg [⟨(some 65), .mv (.tmp 9), none⟩,
  ⟨(some 66), .mv (.tmp 12), none⟩,
  ⟨(some 67), .call (.func 20) [(.tmp 65), (.tmp 66)], none⟩,
  ⟨(some 12), .mv (.tmp 67), none⟩])
 (.seq (.seq (.reg [⟨(some 68), .mv (.tmp 12), none⟩,
  ⟨(some 69), .bin .lss (.tmp 68) (.const (.int .i64 0)), none⟩,
  ⟨(some 70), .mv (.tmp 69), none⟩,
  ⟨(some 71), .mv (.tmp 10), (some (70, false))⟩,
  ⟨(some 72), .mv (.tmp 6), (some (70, false))⟩,
  ⟨(some 73), .call (.func 18) [(.tmp 71), (.tmp 72)], (some (70, false))⟩,
  ⟨(some 74), .un .not (.tmp 73), (some (70, false))⟩,
  ⟨(some 75), .pick (.tmp 70) (.const (.bool true)) (.tmp 74), none⟩,
  ⟨(some 76), .mv (.tmp 75), none⟩,
  ⟨(some 77), .mv (.tmp 11), (some (76, false))⟩,
  ⟨(some 78), .mv (.tmp 7), (some (76, false))⟩,
  ⟨(some 79), .beq true (.tmp 77) (.tmp 78), (some (76, false))⟩,
  ⟨(some 80), .pick (.tmp 76) (.const (.bool true)) (.tmp 79), none⟩])
 (.cond (.tmp 80) (.seq (.reg [⟨(some 4), .mv (.const (.bool false)), none⟩])
 (.ret)) (.skip)))
 (.seq (.reg [⟨(some 13), .mv (.const (.int .i64 1)), none⟩])
 (.seq (.reg [⟨(some 81), .mv (.tmp 10), none⟩,
  ⟨(some 82), .mv (.tmp 13), none⟩,
  ⟨(some 83), .call (.func 20) [(.tmp 81), (.tmp 82)], none⟩,
  ⟨(some 13), .mv (.tmp 83), none⟩])
 (.seq (.reg [⟨(some 14), .mv (.const (.int .i64 1)), none⟩])
 (.seq (.reg [⟨(some 84), .mv (.tmp 10), none⟩,
  ⟨(some 85), .mv (.tmp 14), none⟩,
  ⟨(some 86), .call (.func 21) [(.tmp 84), (.tmp 85)], none⟩,
  ⟨(some 14), .mv (.tmp 86), none⟩])
 (.seq (.seq (.reg [⟨(some 87), .mv (.tmp 14), none⟩,
  ⟨(some 88), .bin .lss (.tmp 87) (.const (.int .i64 0)), none⟩])
 (.cond (.tmp 88) (.seq (.reg [⟨(some 4), .mv (.const (.bool false)), none⟩])
 (.ret)) (.skip)))
 (.seq (.seq (.reg [⟨(some 89), .mv (.tmp 14), none⟩,
  ⟨(some 90), .mv (.tmp 13), none⟩,
  ⟨(some 91), .bin .neq (.tmp 89) (.tmp 90), none⟩])
 (.cond (.tmp 91) (.seq (.reg [⟨(some 4), .mv (.const (.bool false)), none⟩])
 (.ret)) (.skip)))
 (.seq (.reg [⟨(some 93), .ld (some 4) (.tmp 2), none⟩,
  ⟨(some 94), .call (.func 13) [(.tmp 93)], none⟩,
  ⟨(some 95), .mv (.tmp 1), none⟩,
  ⟨(some 96), .call (.func 23) [(.tmp 95)], none⟩,
  ⟨(some 97), .call (.func 24) [(.tmp 94), (.tmp 96)], none⟩,
  ⟨(some 92), .mv (.tmp 97), none⟩,
  ⟨(some 98), .ext 0 (.tmp 92), none⟩,
  ⟨(some 99), .ext 1 (.tmp 92), none⟩,
  ⟨(some 15), .mv (.tmp 98), none⟩,
  ⟨(some 16), .mv (.tmp 99), none⟩])
 (.seq (.seq (.reg [⟨(some 100), .mv (.tmp 15), none⟩,
  ⟨(some 101), .mv (.tmp 6), none⟩,
  ⟨(some 102), .call (.func 18) [(.tmp 100), (.tmp 101)], none⟩,
  ⟨(some 103), .un .not (.tmp 102), none⟩,
  ⟨(some 104), .mv (.tmp 103), none⟩,
  ⟨(some 105), .mv (.tmp 16), (some (104, false))⟩,
  ⟨(some 106), .mv (.tmp 7), (some (104, false))⟩,
  ⟨(some 107), .beq true (.tmp 105) (.tmp 106), (some (104, false))⟩,
  ⟨(some 108), .pick (.tmp 104) (.const (.bool true)) (.tmp 107), none⟩])
 (.cond (.tmp 108) (.seq (.reg [⟨(some 4), .mv (.const (.bool false)), none⟩])
 (.ret)) (.skip)))
 (.seq (.reg [⟨(some 14), .mv (.const (.int .i64 1)), none⟩])
 (.seq (.reg [⟨(some 109), .mv (.tmp 10), none⟩,
  ⟨(some 110), .mv (.tmp 14), none⟩,
  ⟨(some 111), .call (.func 21) [(.tmp 109), (.tmp 110)], none⟩,
  ⟨(some 14), .mv (.tmp 111), none⟩])
 (.seq (.seq (.reg [⟨(some 112), .mv (.tmp 14), none⟩,
  ⟨(some 113), .bin .lss (.tmp 112) (.const (.int .i64 0)), none⟩])
 (.cond (.tmp 113) (.seq (.reg [⟨(some 4), .mv (.const (.bool false)), none⟩])
 (.ret)) (.skip)))
 (.seq (.seq (.reg [⟨(some 114), .mv (.tmp 14), none⟩,
  ⟨(some 115), .mv (.tmp 13), none⟩,
  ⟨(some 116), .bin .neq (.tmp 114) (.tmp 115), none⟩])
 (.cond (.tmp 116) (.seq (.reg [⟨(some 4), .mv (.const (.bool false)), none⟩])
 (.ret)) (.skip)))
 (.seq (.reg [⟨(some 4), .mv (.const (.bool true)), none⟩])
 (.ret)))))))))))))))))))))))))))))
def r_laws_FnExactPlanFrom : List ARes := [.tmp 4]
theorem ok_laws_FnExactPlanFrom : FnOk Try.prog 5 117 c_laws_FnExactPlanFrom r_laws_FnExactPlanFrom := ⟨⟨Try.f5, _, Try.func5, by kernel_rfl, rfl, rfl, by kernel_rfl, by kernel_rfl⟩⟩
end Go.Proofs.Ytonpeflncnccdaa.Ab
