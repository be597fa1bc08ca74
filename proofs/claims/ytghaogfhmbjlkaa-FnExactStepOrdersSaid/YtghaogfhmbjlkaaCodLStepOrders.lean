/- The compiled forms of functions, each checked against the translation. -/
import Derived.Test.YtghaogfhmbjlkaaAb2
import Derived.Test.YtghaogfhmbjlkaaProg
namespace Go.Proofs.Ytghaogfhmbjlkaa.Ab
open Go Go.RowKit Go.Proofs
set_option maxRecDepth 100000
def c_laws_FnExactStepOrders : ACode := .seq (.reg [⟨(some 8), .mv (.const (.bool false)), none⟩])
 (.seq (.reg [⟨(some 9), .mv (.const (.int .i64 1048576)), none⟩])
 (.seq (.reg [⟨(some 20), .mv (.tmp 0), none⟩,
  ⟨(some 21), .mv (.tmp 9), none⟩,
  ⟨(some 22), .call (.func 16) [(.tmp 20), (.tmp 21)], none⟩,
  ⟨(some 9), .mv (.tmp 22), none⟩])
 (.seq (.seq (.reg [⟨(some 23), .mv (.tmp 9), none⟩,
  ⟨(some 24), .bin .lss (.tmp 23) (.const (.int .i64 0)), none⟩])
 (.cond (.tmp 24) (.seq (.reg [⟨(some 8), .mv (.const (.bool true)), none⟩])
 (.ret)) (.skip)))
 (.seq (.reg [⟨(some 26), .mv (.tmp 0), none⟩,
  ⟨(some 27), .call (.func 18) [(.tmp 26)], none⟩,
  ⟨(some 28), .mv (.tmp 1), none⟩,
  ⟨(some 29), .mv (.tmp 2), none⟩,
  ⟨(some 30), .mv (.tmp 3), none⟩,
  ⟨(some 31), .call (.func 26) [(.tmp 27), (.tmp 28), (.tmp 29), (.tmp 30)], none⟩,
  ⟨(some 25), .mv (.tmp 31), none⟩,
  ⟨(some 32), .ext 0 (.tmp 25), none⟩,
  ⟨(some 33), .ext 1 (.tmp 25), none⟩,
  ⟨(some 10), .mv (.tmp 32), none⟩,
  ⟨(some 11), .mv (.tmp 33), none⟩])
 (.seq (.reg [⟨(some 34), .mv (.tmp 0), none⟩,
  ⟨(some 35), .call (.func 18) [(.tmp 34)], none⟩,
  ⟨(some 12), .mv (.tmp 35), none⟩])
 (.seq (.reg [⟨(some 37), .mv (.tmp 12), none⟩,
  ⟨(some 38), .mv (.tmp 1), none⟩,
  ⟨(some 39), .mv (.tmp 2), none⟩,
  ⟨(some 40), .mv (.tmp 3), none⟩,
  ⟨(some 41), .call (.func 27) [(.tmp 37), (.tmp 38), (.tmp 39), (.tmp 40)], none⟩,
  ⟨(some 36), .mv (.tmp 41), none⟩,
  ⟨(some 42), .ext 0 (.tmp 36), none⟩,
  ⟨(some 43), .ext 1 (.tmp 36), none⟩,
  ⟨(some 13), .mv (.tmp 42), none⟩,
  ⟨(some 14), .mv (.tmp 43), none⟩])
 (.seq (.seq (.reg [⟨(some 44), .mv (.tmp 13), none⟩,
  ⟨(some 45), .mv (.tmp 10), none⟩,
  ⟨(some 46), .call (.func 21) [(.tmp 44), (.tmp 45)], none⟩,
  ⟨(some 47), .un .not (.tmp 46), none⟩,
  ⟨(some 48), .mv (.tmp 47), none⟩,
  ⟨(some 49), .mv (.tmp 14), (some (48, false))⟩,
  ⟨(some 50), .mv (.tmp 11), (some (48, false))⟩,
  ⟨(some 51), .beq true (.tmp 49) (.tmp 50), (some (48, false))⟩,
  ⟨(some 52), .pick (.tmp 48) (.const (.bool true)) (.tmp 51), none⟩])
 (.cond (.tmp 52) (.seq (.reg [⟨(some 8), .mv (.const (.bool false)), none⟩])
 (.ret)) (.skip)))
 (.seq (.seq (.reg [⟨(some 53), .mv (.tmp 12), none⟩,
  ⟨(some 54), .mv (.tmp 0), none⟩,
  ⟨(some 55), .call (.func 18) [(.tmp 54)], none⟩,
  ⟨(some 56), .call (.func 22) [(.tmp 53), (.tmp 55)], none⟩,
  ⟨(some 57), .un .not (.tmp 56), none⟩])
 (.cond (.tmp 57) (.seq (.reg [⟨(some 8), .mv (.const (.bool false)), none⟩])
 (.ret)) (.skip)))
 (.seq (.reg [⟨(some 15), .mv (.const (.int .i64 1)), none⟩])
 (.seq (.reg [⟨(some 58), .mv (.tmp 12), none⟩,
  ⟨(some 59), .mv (.tmp 15), none⟩,
  ⟨(some 60), .call (.func 23) [(.tmp 58), (.tmp 59)], none⟩,
  ⟨(some 15), .mv (.tmp 60), none⟩])
 (.seq (.seq (.reg [⟨(some 61), .mv (.tmp 15), none⟩,
  ⟨(some 62), .bin .lss (.tmp 61) (.const (.int .i64 0)), none⟩,
  ⟨(some 63), .mv (.tmp 62), none⟩,
  ⟨(some 64), .mv (.tmp 13), (some (63, false))⟩,
  ⟨(some 65), .mv (.tmp 10), (some (63, false))⟩,
  ⟨(some 66), .call (.func 21) [(.tmp 64), (.tmp 65)], (some (63, false))⟩,
  ⟨(some 67), .un .not (.tmp 66), (some (63, false))⟩,
  ⟨(some 68), .pick (.tmp 63) (.const (.bool true)) (.tmp 67), none⟩,
  ⟨(some 69), .mv (.tmp 68), none⟩,
  ⟨(some 70), .mv (.tmp 14), (some (69, false))⟩,
  ⟨(some 71), .mv (.tmp 11), (some (69, false))⟩,
  ⟨(some 72), .beq true (.tmp 70) (.tmp 71), (some (69, false))⟩,
  ⟨(some 73), .pick (.tmp 69) (.const (.bool true)) (.tmp 72), none⟩])
 (.cond (.tmp 73) (.seq (.reg [⟨(some 8), .mv (.const (.bool false)), none⟩])
 (.ret)) (.skip)))
 (.seq (.reg [⟨(some 16), .mv (.const (.int .i64 1)), none⟩])
 (.seq (.reg [⟨(some 74), .mv (.tmp 13), none⟩,
  ⟨(some 75), .mv (.tmp 16), none⟩,
  ⟨(some 76), .call (.func 24) [(.tmp 74), (.tmp 75)], none⟩,
  ⟨(some 16), .mv (.tmp 76), none⟩])
 (.seq (.reg [⟨(some 17), .mv (.const (.int .i64 1)), none⟩])
 (.seq (.reg [⟨(some 77), .mv (.tmp 13), none⟩,
  ⟨(some 78), .mv (.tmp 17), none⟩,
  ⟨(some 79), .call (.func 25) [(.tmp 77), (.tmp 78)], none⟩,
  ⟨(some 17), .mv (.tmp 79), none⟩])
 (.seq (.seq (.reg [⟨(some 80), .mv (.tmp 17), none⟩,
  ⟨(some 81), .bin .lss (.tmp 80) (.const (.int .i64 0)), none⟩])
 (.cond (.tmp 81) (.seq (.reg [⟨(some 8), .mv (.const (.bool false)), none⟩])
 (.ret)) (.skip)))
 (.seq (.seq (.reg [⟨(some 82), .mv (.tmp 17), none⟩,
  ⟨(some 83), .mv (.tmp 16), none⟩,
  ⟨(some 84), .bin .neq (.tmp 82) (.tmp 83), none⟩])
 (.cond (.tmp 84) (.seq (.reg [⟨(some 8), .mv (.const (.bool false)), none⟩])
 (.ret)) (.skip)))
 (.seq (.reg [⟨(some 86), .mv (.tmp 0), none⟩,
  ⟨(some 87), .call (.func 18) [(.tmp 86)], none⟩,
  ⟨(some 88), .mv (.tmp 1), none⟩,
  ⟨(some 89), .mv (.tmp 2), none⟩,
  ⟨(some 90), .mv (.tmp 3), none⟩,
  ⟨(some 91), .call (.func 27) [(.tmp 87), (.tmp 88), (.tmp 89), (.tmp 90)], none⟩,
  ⟨(some 85), .mv (.tmp 91), none⟩,
  ⟨(some 92), .ext 0 (.tmp 85), none⟩,
  ⟨(some 93), .ext 1 (.tmp 85), none⟩,
  ⟨(some 18), .mv (.tmp 92), none⟩,
  ⟨(some 19), .mv (.tmp 93), none⟩])
 (.seq (.seq (.reg [⟨(some 94), .mv (.tmp 18), none⟩,
  ⟨(some 95), .mv (.tmp 10), none⟩,
  ⟨(some 96), .call (.func 21) [(.tmp 94), (.tmp 95)], none⟩,
  ⟨(some 97), .un .not (.tmp 96), none⟩,
  ⟨(some 98), .mv (.tmp 97), none⟩,
  ⟨(some 99), .mv (.tmp 19), (some (98, false))⟩,
  ⟨(some 100), .mv (.tmp 11), (some (98, false))⟩,
  ⟨(some 101), .beq true (.tmp 99) (.tmp 100), (some (98, false))⟩,
  ⟨(some 102), .pick (.tmp 98) (.const (.bool true)) (.tmp 101), none⟩])
 (.cond (.tmp 102) (.seq (.reg [⟨(some 8), .mv (.const (.bool false)), none⟩])
 (.ret)) (.skip)))
 (.seq (.reg [⟨(some 17), .mv (.const (.int .i64 1)), none⟩])
 (.seq (.reg [⟨(some 103), .mv (.tmp 13), none⟩,
  ⟨(some 104), .mv (.tmp 17), none⟩,
  ⟨(some 105), .call (.func 25) [(.tmp 103), (.tmp 104)], none⟩,
  ⟨(some 17), .mv (.tmp 105), none⟩])
 (.seq (.seq (.reg [⟨(some 106), .mv (.tmp 17), none⟩,
  ⟨(some 107), .bin .lss (.tmp 106) (.const (.int .i64 0)), none⟩])
 (.cond (.tmp 107) (.seq (.reg [⟨(some 8), .mv (.const (.bool false)), none⟩])
 (.ret)) (.skip)))
 (.seq (.seq (.reg [⟨(some 108), .mv (.tmp 17), none⟩,
  ⟨(some 109), .mv (.tmp 16), none⟩,
  ⟨(some 110), .bin .neq (.tmp 108) (.tmp 109), none⟩])
 (.cond (.tmp 110) (.seq (.reg [⟨(some 8), .mv (.const (.bool false)), none⟩])
 (.ret)) (.skip)))
 (.seq (.reg [⟨(some 8), .mv (.const (.bool true)), none⟩])
 (.ret)))))))))))))))))))))))))
def r_laws_FnExactStepOrders : List ARes := [.tmp 8]
theorem ok_laws_FnExactStepOrders : FnOk Try.prog 5 111 c_laws_FnExactStepOrders r_laws_FnExactStepOrders := ⟨⟨Try.f5, _, Try.func5, by kernel_rfl, rfl, rfl, by kernel_rfl, by kernel_rfl⟩⟩
end Go.Proofs.Ytghaogfhmbjlkaa.Ab
