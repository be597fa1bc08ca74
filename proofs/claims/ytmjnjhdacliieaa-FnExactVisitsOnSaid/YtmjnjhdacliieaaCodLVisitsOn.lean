/- The compiled forms of functions, each checked against the translation. -/
import Derived.Test.YtmjnjhdacliieaaAb2
import Derived.Test.YtmjnjhdacliieaaProg
namespace Go.Proofs.Ytmjnjhdacliieaa.Ab
open Go Go.RowKit Go.Proofs
set_option maxRecDepth 100000
def c_laws_FnExactVisitsOn : ACode := .seq (.reg [⟨(some 6), .mv (.const (.bool false)), none⟩])
 (.seq (.seq (.reg [⟨(some 18), .mv (.tmp 0), none⟩,
  ⟨(some 19), .len (.tmp 18), none⟩,
  ⟨(some 20), .bin .gtr (.tmp 19) (.const (.int .i64 1048576)), none⟩])
 (.cond (.tmp 20) (.seq (.reg [⟨(some 6), .mv (.const (.bool true)), none⟩])
 (.ret)) (.skip)))
 (.seq (.seq (.reg [⟨(some 21), .mv (.tmp 1), none⟩,
  ⟨(some 22), .len (.tmp 21), none⟩,
  ⟨(some 23), .bin .gtr (.tmp 22) (.const (.int .i64 1048576)), none⟩])
 (.cond (.tmp 23) (.seq (.reg [⟨(some 6), .mv (.const (.bool true)), none⟩])
 (.ret)) (.skip)))
 (.seq (.reg [⟨(some 25), .mv (.tmp 0), none⟩,
  ⟨(some 26), .call (.func 32) [(.tmp 25)], none⟩,
  ⟨(some 27), .mv (.tmp 1), none⟩,
  ⟨(some 28), .call (.func 32) [(.tmp 27)], none⟩,
  ⟨(some 29), .mv (.tmp 2), none⟩,
  ⟨(some 30), .call (.func 57) [(.tmp 26), (.tmp 28), (.tmp 29)], none⟩,
  ⟨(some 24), .mv (.tmp 30), none⟩,
  ⟨(some 31), .ext 0 (.tmp 24), none⟩,
  ⟨(some 32), .ext 1 (.tmp 24), none⟩,
  ⟨(some 7), .mv (.tmp 31), none⟩,
  ⟨(some 8), .mv (.tmp 32), none⟩])
 (.seq (.reg [⟨(some 33), .mv (.tmp 0), none⟩,
  ⟨(some 34), .call (.func 32) [(.tmp 33)], none⟩,
  ⟨(some 9), .mv (.tmp 34), none⟩])
 (.seq (.reg [⟨(some 35), .mv (.tmp 1), none⟩,
  ⟨(some 36), .call (.func 32) [(.tmp 35)], none⟩,
  ⟨(some 10), .mv (.tmp 36), none⟩])
 (.seq (.reg [⟨(some 38), .mv (.tmp 9), none⟩,
  ⟨(some 39), .mv (.tmp 10), none⟩,
  ⟨(some 40), .mv (.tmp 2), none⟩,
  ⟨(some 41), .call (.func 58) [(.tmp 38), (.tmp 39), (.tmp 40)], none⟩,
  ⟨(some 37), .mv (.tmp 41), none⟩,
  ⟨(some 42), .ext 0 (.tmp 37), none⟩,
  ⟨(some 43), .ext 1 (.tmp 37), none⟩,
  ⟨(some 11), .mv (.tmp 42), none⟩,
  ⟨(some 12), .mv (.tmp 43), none⟩])
 (.seq (.seq (.reg [⟨(some 44), .mv (.tmp 11), none⟩,
  ⟨(some 45), .mv (.tmp 7), none⟩,
  ⟨(some 46), .call (.func 35) [(.tmp 44), (.tmp 45)], none⟩,
  ⟨(some 47), .un .not (.tmp 46), none⟩,
  ⟨(some 48), .mv (.tmp 47), none⟩,
  ⟨(some 49), .mv (.tmp 12), (some (48, false))⟩,
  ⟨(some 50), .mv (.tmp 8), (some (48, false))⟩,
  ⟨(some 51), .beq true (.tmp 49) (.tmp 50), (some (48, false))⟩,
  ⟨(some 52), .pick (.tmp 48) (.const (.bool true)) (.tmp 51), none⟩])
 (.cond (.tmp 52) (.seq (.reg [⟨(some 6), .mv (.const (.bool false)), none⟩])
 (.ret)) (.skip)))
 (.seq (.seq (.reg [⟨(some 53), .mv (.tmp 9), none⟩,
  ⟨(some 54), .mv (.tmp 0), none⟩,
  ⟨(some 55), .call (.func 32) [(.tmp 54)], none⟩,
  ⟨(some 56), .call (.func 35) [(.tmp 53), (.tmp 55)], none⟩,
  ⟨(some 57), .un .not (.tmp 56), none⟩])
 (.cond (.tmp 57) (.seq (.reg [⟨(some 6), .mv (.const (.bool false)), none⟩])
 (.ret)) (.skip)))
 (.seq (.seq (.reg [⟨(some 58), .mv (.tmp 10), none⟩,
  ⟨(some 59), .mv (.tmp 1), none⟩,
  ⟨(some 60), .call (.func 32) [(.tmp 59)], none⟩,
  ⟨(some 61), .call (.func 35) [(.tmp 58), (.tmp 60)], none⟩,
  ⟨(some 62), .un .not (.tmp 61), none⟩])
 (.cond (.tmp 62) (.seq (.reg [⟨(some 6), .mv (.const (.bool false)), none⟩])
 (.ret)) (.skip)))
 (.seq (.reg [⟨(some 13), .mv (.const (.int .i64 1)), none⟩])
 (.seq (.reg [⟨(some 63), .mv (.tmp 9), none⟩,
  ⟨(some 64), .mv (.tmp 13), none⟩,
  ⟨(some 65), .call (.func 39) [(.tmp 63), (.tmp 64)], none⟩,
  ⟨(some 13), .mv (.tmp 65), none⟩])
 (.seq (.reg [⟨(some 66), .mv (.tmp 10), none⟩,
  ⟨(some 67), .mv (.tmp 13), none⟩,
  ⟨(some 68), .call (.func 39) [(.tmp 66), (.tmp 67)], none⟩,
  ⟨(some 13), .mv (.tmp 68), none⟩])
 (.seq (.seq (.reg [⟨(some 69), .mv (.tmp 13), none⟩,
  ⟨(some 70), .bin .lss (.tmp 69) (.const (.int .i64 0)), none⟩,
  ⟨(some 71), .mv (.tmp 70), none⟩,
  ⟨(some 72), .mv (.tmp 11), (some (71, false))⟩,
  ⟨(some 73), .mv (.tmp 7), (some (71, false))⟩,
  ⟨(some 74), .call (.func 35) [(.tmp 72), (.tmp 73)], (some (71, false))⟩,
  ⟨(some 75), .un .not (.tmp 74), (some (71, false))⟩,
  ⟨(some 76), .pick (.tmp 71) (.const (.bool true)) (.tmp 75), none⟩,
  ⟨(some 77), .mv (.tmp 76), none⟩,
  ⟨(some 78), .mv (.tmp 12), (some (77, false))⟩,
  ⟨(some 79), .mv (.tmp 8), (some (77, false))⟩,
  ⟨(some 80), .beq true (.tmp 78) (.tmp 79), (some (77, false))⟩,
  ⟨(some 81), .pick (.tmp 77) (.const (.bool true)) (.tmp 80), none⟩])
 (.cond (.tmp 81) (.seq (.reg [⟨(some 6), .mv (.const (.bool false)), none⟩])
 (.ret)) (.skip)))
 (.seq (.reg [⟨(some 14), .mv (.const (.int .i64 1)), none⟩])
 (.seq (.reg [⟨(some 82), .mv (.tmp 11), none⟩,
  ⟨(some 83), .mv (.tmp 14), none⟩,
  ⟨(some 84), .call (.func 39) [(.tmp 82), (.tmp 83)], none⟩,
  ⟨(some 14), .mv (.tmp 84), none⟩])
 (.seq (.reg [⟨(some 15), .mv (.const (.int .i64 1)), none⟩])
 (.seq (.reg [⟨(some 85), .mv (.tmp 11), none⟩,
  ⟨(some 86), .mv (.tmp 15), none⟩,
  ⟨(some 87), .call (.func 40) [(.tmp 85), (.tmp 86)], none⟩,
  ⟨(some 15), .mv (.tmp 87), none⟩])
 (.seq (.seq (.reg [⟨(some 88), .mv (.tmp 15), none⟩,
  ⟨(some 89), .bin .lss (.tmp 88) (.const (.int .i64 0)), none⟩])
 (.cond (.tmp 89) (.seq (.reg [⟨(some 6), .mv (.const (.bool false)), none⟩])
 (.ret)) (.skip)))
 (.seq (.seq (.reg [⟨(some 90), .mv (.tmp 15), none⟩,
  ⟨(some 91), .mv (.tmp 14), none⟩,
  ⟨(some 92), .bin .neq (.tmp 90) (.tmp 91), none⟩])
 (.cond (.tmp 92) (.seq (.reg [⟨(some 6), .mv (.const (.bool false)), none⟩])
 (.ret)) (.skip)))
 (.seq (.reg [⟨(some 94), .mv (.tmp 0), none⟩,
  ⟨(some 95), .call (.func 32) [(.tmp 94)], none⟩,
  ⟨(some 96), .mv (.tmp 1), none⟩,
  ⟨(some 97), .call (.func 32) [(.tmp 96)], none⟩,
  ⟨(some 98), .mv (.tmp 2), none⟩,
  ⟨(some 99), .call (.func 58) [(.tmp 95), (.tmp 97), (.tmp 98)], none⟩,
  ⟨(some 93), .mv (.tmp 99), none⟩,
  ⟨(some 100), .ext 0 (.tmp 93), none⟩,
  ⟨(some 101), .ext 1 (.tmp 93), none⟩,
  ⟨(some 16), .mv (.tmp 100), none⟩,
  ⟨(some 17), .mv (.tmp 101), none⟩])
 (.seq (.seq (.reg [⟨(some 102), .mv (.tmp 16), none⟩,
  ⟨(some 103), .mv (.tmp 7), none⟩,
  ⟨(some 104), .call (.func 35) [(.tmp 102), (.tmp 103)], none⟩,
  ⟨(some 105), .un .not (.tmp 104), none⟩,
  ⟨(some 106), .mv (.tmp 105), none⟩,
  ⟨(some 107), .mv (.tmp 17), (some (106, false))⟩,
  ⟨(some 108), .mv (.tmp 8), (some (106, false))⟩,
  ⟨(some 109), .beq true (.tmp 107) (.tmp 108), (some (106, false))⟩,
  ⟨(some 110), .pick (.tmp 106) (.const (.bool true)) (.tmp 109), none⟩])
 (.cond (.tmp 110) (.seq (.reg [⟨(some 6), .mv (.const (.bool false)), none⟩])
 (.ret)) (.skip)))
 (.seq (.reg [⟨(some 15), .mv (.const (.int .i64 1)), none⟩])
 (.seq (.reg [⟨(some 111), .mv (.tmp 11), none⟩,
  ⟨(some 112), .mv (.tmp 15), none⟩,
  ⟨(some 113), .call (.func 40) [(.tmp 111), (.tmp 112)], none⟩,
  ⟨(some 15), .mv (.tmp 113), none⟩])
 (.seq (.seq (.reg [⟨(some 114), .mv (.tmp 15), none⟩,
  ⟨(some 115), .bin .lss (.tmp 114) (.const (.int .i64 0)), none⟩])
 (.cond (.tmp 115) (.seq (.reg [⟨(some 6), .mv (.const (.bool false)), none⟩])
 (.ret)) (.skip)))
 (.seq (.seq (.reg [⟨(some 116), .mv (.tmp 15), none⟩,
  ⟨(some 117), .mv (.tmp 14), none⟩,
  ⟨(some 118), .bin .neq (.tmp 116) (.tmp 117), none⟩])
 (.cond (.tmp 118) (.seq (.reg [⟨(some 6), .mv (.const (.bool false)), none⟩])
 (.ret)) (.skip)))
 (.seq (.reg [⟨(some 6), .mv (.const (.bool true)), none⟩])
 (.ret)))))))))))))))))))))))))))
def r_laws_FnExactVisitsOn : List ARes := [.tmp 6]
theorem ok_laws_FnExactVisitsOn : FnOk Try.prog 17 119 c_laws_FnExactVisitsOn r_laws_FnExactVisitsOn := ⟨⟨Try.f17, _, Try.func17, by kernel_rfl, rfl, rfl, by kernel_rfl, by kernel_rfl⟩⟩
end Go.Proofs.Ytmjnjhdacliieaa.Ab
