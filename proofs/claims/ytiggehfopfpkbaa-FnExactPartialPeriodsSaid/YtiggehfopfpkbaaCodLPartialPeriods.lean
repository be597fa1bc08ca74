/- The compiled forms of functions, each checked against the translation. -/
import Derived.Test.YtiggehfopfpkbaaAb2
import Derived.Test.YtiggehfopfpkbaaProg
namespace Go.Proofs.Ytiggehfopfpkbaa.Ab
open Go Go.RowKit Go.Proofs
set_option maxRecDepth 100000
def c_laws_FnExactPartialPeriods : ACode := .seq (.reg [⟨(some 3), .box 24 (.tmp 0), none⟩,
  ⟨(some 6), .mv (.const (.bool false)), none⟩])
 (.seq (.seq (.reg [⟨(some 20), .mv (.tmp 1), none⟩,
  ⟨(some 21), .len (.tmp 20), none⟩,
  ⟨(some 22), .bin .gtr (.tmp 21) (.const (.int .i64 1048576)), none⟩])
 (.cond (.tmp 22) (.seq (.reg [⟨(some 6), .mv (.const (.bool true)), none⟩])
 (.ret)) (.skip)))
 (.seq (.seq (.reg [⟨(some 23), .mv (.tmp 2), none⟩,
  ⟨(some 24), .len (.tmp 23), none⟩,
  ⟨(some 25), .bin .gtr (.tmp 24) (.const (.int .i64 1048576)), none⟩])
 (.cond (.tmp 25) (.seq (.reg [⟨(some 6), .mv (.const (.bool true)), none⟩])
 (.ret)) (.skip)))
 (.seq (.reg [⟨(some 7), .mv (.const (.int .i64 1048576)), none⟩])
 (.seq (.reg [⟨(some 26), .ld (some 4) (.tmp 3), none⟩,
  ⟨(some 27), .mv (.tmp 7), none⟩,
  ⟨(some 28), .call (.func 20) [(.tmp 26), (.tmp 27)], none⟩,
  ⟨(some 7), .mv (.tmp 28), none⟩])
 (.seq (.seq (.reg [⟨(some 29), .mv (.tmp 7), none⟩,
  ⟨(some 30), .bin .lss (.tmp 29) (.const (.int .i64 0)), none⟩])
 (.cond (.tmp 30) (.seq (.reg [⟨(some 6), .mv (.const (.bool true)), none⟩])
 (.ret)) (.skip)))
 (.seq (.reg [⟨(some 32), .ld (some 4) (.tmp 3), none⟩,
  ⟨(some 33), .call (.func 22) [(.tmp 32)], none⟩,
  ⟨(some 34), .mv (.tmp 1), none⟩,
  ⟨(some 35), .call (.func 23) [(.tmp 34)], none⟩,
  ⟨(some 36), .mv (.tmp 2), none⟩,
  ⟨(some 37), .call (.func 23) [(.tmp 36)], none⟩,
  ⟨(some 38), .call (.func 40) [(.tmp 33), (.tmp 35), (.tmp 37)], none⟩,
  ⟨(some 31), .mv (.tmp 38), none⟩,
  ⟨(some 39), .ext 0 (.tmp 31), none⟩,
  ⟨(some 40), .ext 1 (.tmp 31), none⟩,
  ⟨(some 8), .mv (.tmp 39), none⟩,
  ⟨(some 9), .mv (.tmp 40), none⟩])
 (.seq (.reg [⟨(some 41), .ld (some 4) (.tmp 3), none⟩,
  ⟨(some 42), .call (.func 22) [(.tmp 41)], none⟩,
  ⟨(some 10), .alc 28 [(.slice none 0 0), (.slice none 0 0), (.slice none 0 0), (.slice none 0 0)], none⟩,
  ⟨none, .st 4 (.tmp 10) (.tmp 42), none⟩])
 (.seq (.reg [⟨(some 43), .mv (.tmp 1), none⟩,
  ⟨(some 44), .call (.func 23) [(.tmp 43)], none⟩,
  ⟨(some 11), .mv (.tmp 44), none⟩])
 (.seq (.reg [⟨(some 45), .mv (.tmp 2), none⟩,
  ⟨(some 46), .call (.func 23) [(.tmp 45)], none⟩,
  ⟨(some 12), .mv (.tmp 46), none⟩])
 (.seq (.reg [⟨(some 48), .ld (some 4) (.tmp 10), none⟩,
  ⟨(some 49), .mv (.tmp 11), none⟩,
  ⟨(some 50), .mv (.tmp 12), none⟩,
  ⟨(some 51), .call (.func 41) [(.tmp 48), (.tmp 49), (.tmp 50)], none⟩,
  ⟨(some 47), .mv (.tmp 51), none⟩,
  ⟨(some 52), .ext 0 (.tmp 47), none⟩,
  ⟨(some 53), .ext 1 (.tmp 47), none⟩,
  ⟨(some 13), .mv (.tmp 52), none⟩,
  ⟨(some 14), .mv (.tmp 53), none⟩])
 (.seq (.seq (.reg [⟨(some 54), .mv (.tmp 13), none⟩,
  ⟨(some 55), .mv (.tmp 8), none⟩,
  ⟨(some 56), .call (.func 26) [(.tmp 54), (.tmp 55)], none⟩,
  ⟨(some 57), .un .not (.tmp 56), none⟩,
  ⟨(some 58), .mv (.tmp 57), none⟩,
  ⟨(some 59), .mv (.tmp 14), (some (58, false))⟩,
  ⟨(some 60), .mv (.tmp 9), (some (58, false))⟩,
  ⟨(some 61), .beq true (.tmp 59) (.tmp 60), (some (58, false))⟩,
  ⟨(some 62), .pick (.tmp 58) (.const (.bool true)) (.tmp 61), none⟩])
 (.cond (.tmp 62) (.seq (.reg [⟨(some 6), .mv (.const (.bool false)), none⟩])
 (.ret)) (.skip)))
 (.seq (.seq (.reg [⟨(some 63), .ld (some 4) (.tmp 10), none⟩,
  ⟨(some 64), .ld (some 4) (.tmp 3), none⟩,
  ⟨(some 65), .rcall (.func 22) [(.tmp 64)], none⟩,
  ⟨(some 66), .rcall (.func 25) [(.tmp 63), (.tmp 65)], none⟩,
  ⟨(some 67), .un .not (.tmp 66), none⟩])
 (.cond (.tmp 67) (.seq (.reg [⟨(some 6), .mv (.const (.bool false)), none⟩])
 (.ret)) (.skip)))
 (.seq (.seq (.reg [⟨(some 68), .mv (.tmp 11), none⟩,
  ⟨(some 69), .mv (.tmp 1), none⟩,
  ⟨(some 70), .call (.func 23) [(.tmp 69)], none⟩,
  ⟨(some 71), .call (.func 26) [(.tmp 68), (.tmp 70)], none⟩,
  ⟨(some 72), .un .not (.tmp 71), none⟩])
 (.cond (.tmp 72) (.seq (.reg [⟨(some 6), .mv (.const (.bool false)), none⟩])
 (.ret)) (.skip)))
 (.seq (.seq (.reg [⟨(some 73), .mv (.tmp 12), none⟩,
  ⟨(some 74), .mv (.tmp 2), none⟩,
  ⟨(some 75), .call (.func 23) [(.tmp 74)], none⟩,
  ⟨(some 76), .call (.func 26) [(.tmp 73), (.tmp 75)], none⟩,
  ⟨(some 77), .un .not (.tmp 76), none⟩])
 (.cond (.tmp 77) (.seq (.reg [⟨(some 6), .mv (.const (.bool false)), none⟩])
 (.ret)) (.skip)))
 (.seq (.reg [⟨(some 15), .mv (.const (.int .i64 1)), none⟩])
 (.seq (.reg [⟨(some 78), .ld (some 4) (.tmp 10), none⟩,
  ⟨(some 79), .mv (.tmp 15), none⟩,
  ⟨(some 80), .call (.func 33) [(.tmp 78), (.tmp 79)], none⟩,
  ⟨(some 15), .mv (.tmp 80), none⟩])
 (.seq (.reg [⟨(some 81), .mv (.tmp 11), none⟩,
  ⟨(some 82), .mv (.tmp 15), none⟩,
  ⟨(some 83), .call (.func 34) [(.tmp 81), (.tmp 82)], none⟩,
  ⟨(some 15), .mv (.tmp 83), none⟩])
 (.seq (.reg [⟨(some 84), .mv (.tmp 12), none⟩,
  ⟨(some 85), .mv (.tmp 15), none⟩,
  ⟨(some 86), .call (.func 34) [(.tmp 84), (.tmp 85)], none⟩,
  ⟨(some 15), .mv (.tmp 86), none⟩])
 (.seq (.seq (.reg [⟨(some 87), .mv (.tmp 15), none⟩,
  ⟨(some 88), .bin .lss (.tmp 87) (.const (.int .i64 0)), none⟩,
  ⟨(some 89), .mv (.tmp 88), none⟩,
  ⟨(some 90), .mv (.tmp 13), (some (89, false))⟩,
  ⟨(some 91), .mv (.tmp 8), (some (89, false))⟩,
  ⟨(some 92), .call (.func 26) [(.tmp 90), (.tmp 91)], (some (89, false))⟩,
  ⟨(some 93), .un .not (.tmp 92), (some (89, false))⟩,
  ⟨(some 94), .pick (.tmp 89) (.const (.bool true)) (.tmp 93), none⟩,
  ⟨(some 95), .mv (.tmp 94), none⟩,
  ⟨(some 96), .mv (.tmp 14), (some (95, false))⟩,
  ⟨(some 97), .mv (.tmp 9), (some (95, false))⟩,
  ⟨(some 98), .beq true (.tmp 96) (.tmp 97), (some (95, false))⟩,
  ⟨(some 99), .pick (.tmp 95) (.const (.bool true)) (.tmp 98), none⟩])
 (.cond (.tmp 99) (.seq (.reg [⟨(some 6), .mv (.const (.bool false)), none⟩])
 (.ret)) (.skip)))
 (.seq (.reg [⟨(some 16), .mv (.const (.int .i64 1)), none⟩])
 (.seq (.reg [⟨(some 100), .mv (.tmp 13), none⟩,
  ⟨(some 101), .mv (.tmp 16), none⟩,
  ⟨(some 102), .call (.func 34) [(.tmp 100), (.tmp 101)], none⟩,
  ⟨(some 16), .mv (.tmp 102), none⟩])
 (.seq (.reg [⟨(some 17), .mv (.const (.int .i64 1)), none⟩])
 (.seq (.reg [⟨(some 103), .mv (.tmp 13), none⟩,
  ⟨(some 104), .mv (.tmp 17), none⟩,
  ⟨(some 105), .call (.func 35) [(.tmp 103), (.tmp 104)], none⟩,
  ⟨(some 17), .mv (.tmp 105), none⟩])
 (.seq (.seq (.reg [⟨(some 106), .mv (.tmp 17), none⟩,
  ⟨(some 107), .bin .lss (.tmp 106) (.const (.int .i64 0)), none⟩])
 (.cond (.tmp 107) (.seq (.reg [⟨(some 6), .mv (.const (.bool false)), none⟩])
 (.ret)) (.skip)))
 (.seq (.seq (.reg [⟨(some 108), .mv (.tmp 17), none⟩,
  ⟨(some 109), .mv (.tmp 16), none⟩,
  ⟨(some 110), .bin .neq (.tmp 108) (.tmp 109), none⟩])
 (.cond (.tmp 110) (.seq (.reg [⟨(some 6), .mv (.const (.bool false)), none⟩])
 (.ret)) (.skip)))
 (.seq (.reg [⟨(some 112), .ld (some 4) (.tmp 3), none⟩,
  ⟨(some 113), .call (.func 22) [(.tmp 112)], none⟩,
  ⟨(some 114), .mv (.tmp 1), none⟩,
  ⟨(some 115), .call (.func 23) [(.tmp 114)], none⟩,
  ⟨(some 116), .mv (.tmp 2), none⟩,
  ⟨(some 117), .call (.func 23) [(.tmp 116)], none⟩,
  ⟨(some 118), .call (.func 41) [(.tmp 113), (.tmp 115), (.tmp 117)], none⟩,
  ⟨(some 111), .mv (.tmp 118), none⟩,
  ⟨(some 119), .ext 0 (.tmp 111), none⟩,
  ⟨(some 120), .ext 1 (.tmp 111), none⟩,
  ⟨(some 18), .mv (.tmp 119), none⟩,
  ⟨(some 19), .mv (.tmp 120), none⟩])
 (.seq (.seq (.reg [⟨(some 121), .mv (.tmp 18), none⟩,
  ⟨(some 122), .mv (.tmp 8), none⟩,
  ⟨(some 123), .call (.func 26) [(.tmp 121), (.tmp 122)], none⟩,
  ⟨(some 124), .un .not (.tmp 123), none⟩,
  ⟨(some 125), .mv (.tmp 124), none⟩,
  ⟨(some 126), .mv (.tmp 19), (some (125, false))⟩,
  ⟨(some 127), .mv (.tmp 9), (some (125, false))⟩,
  ⟨(some 128), .beq true (.tmp 126) (.tmp 127), (some (125, false))⟩,
  ⟨(some 129), .pick (.tmp 125) (.const (.bool true)) (.tmp 128), none⟩])
 (.cond (.tmp 129) (.seq (.reg [⟨(some 6), .mv (.const (.bool false)), none⟩])
 (.ret)) (.skip)))
 (.seq (.reg [⟨(some 17), .mv (.const (.int .i64 1)), none⟩])
 (.seq (.reg [⟨(some 130), .mv (.tmp 13), none⟩,
  ⟨(some 131), .mv (.tmp 17), none⟩,
  ⟨(some 132), .call (.func 35) [(.tmp 130), (.tmp 131)], none⟩,
  ⟨(some 17), .mv (.tmp 132), none⟩])
 (.seq (.seq (.reg [⟨(some 133), .mv (.tmp 17), none⟩,
  ⟨(some 134), .bin .lss (.tmp 133) (.const (.int .i64 0)), none⟩])
 (.cond (.tmp 134) (.seq (.reg [⟨(some 6), .mv (.const (.bool false)), none⟩])
 (.ret)) (.skip)))
 (.seq (.seq (.reg [⟨(some 135), .mv (.tmp 17), none⟩,
  ⟨(some 136), .mv (.tmp 16), none⟩,
  ⟨(some 137), .bin .neq (.tmp 135) (.tmp 136), none⟩])
 (.cond (.tmp 137) (.seq (.reg [⟨(some 6), .mv (.const (.bool false)), none⟩])
 (.ret)) (.skip)))
 (.seq (.reg [⟨(some 6), .mv (.const (.bool true)), none⟩])
 (.ret)))))))))))))))))))))))))))))))))
def r_laws_FnExactPartialPeriods : List ARes := [.tmp 6]
theorem ok_laws_FnExactPartialPeriods : FnOk Try.prog 9 138 c_laws_FnExactPartialPeriods r_laws_FnExactPartialPeriods := ⟨⟨Try.f9, _, Try.func9, by kernel_rfl, rfl, rfl, by kernel_rfl, by kernel_rfl⟩⟩
end Go.Proofs.Ytiggehfopfpkbaa.Ab
