/- The compiled forms of functions, each checked against the translation. -/
import Derived.Test.YtihjcjhnkpkomaaAb2
import Derived.Test.YtihjcjhnkpkomaaProg
namespace Go.Proofs.Ytihjcjhnkpkomaa.Ab
open Go Go.RowKit Go.Proofs
set_option maxRecDepth 100000
def c_spec_LostNeeds : ACode := .seq (.reg [⟨(some 2), .box 27 (.tmp 0), none⟩,
  ⟨(some 4), .mv (.const (.slice none 0 0)), none⟩,
  ⟨(some 5), .mv (.const (.bool false)), none⟩])
 (.seq (.seq (.reg [⟨(some 6), .ld (some 5) (.tmp 2), none⟩,
  ⟨(some 7), .mv (.tmp 1), none⟩,
  ⟨(some 8), .call (.func 70) [(.tmp 6), (.tmp 7)], none⟩,
  ⟨(some 9), .un .not (.tmp 8), none⟩])
 (.cond (.tmp 9) (.seq (.reg [⟨(some 10), .bsl 3 1 0 [] [], none⟩,
  ⟨(some 4), .mv (.tmp 10), none⟩,
  ⟨(some 5), .mv (.const (.bool false)), none⟩])
 (.ret)) (.skip)))
 (.seq (.reg [⟨(some 11), .ld (some 5) (.tmp 2), none⟩,
  ⟨(some 12), .mv (.tmp 1), none⟩,
  ⟨(some 13), .call (.func 71) [(.tmp 11), (.tmp 12)], none⟩,
  ⟨(some 4), .mv (.tmp 13), none⟩,
  ⟨(some 5), .mv (.const (.bool true)), none⟩])
 (.ret)))
def r_spec_LostNeeds : List ARes := [.tmp 4, .tmp 5]
theorem ok_spec_LostNeeds : FnOk Try.prog 33 14 c_spec_LostNeeds r_spec_LostNeeds := ⟨⟨Try.f33, _, Try.func33, by kernel_rfl, rfl, rfl, by kernel_rfl, by kernel_rfl⟩⟩
def c_spec_LostBound : ACode := .seq (.reg [⟨(some 2), .box 27 (.tmp 0), none⟩,
  ⟨(some 4), .mv (.const (.int .i64 0)), none⟩,
  ⟨(some 5), .mv (.const (.bool false)), none⟩])
 (.seq (.seq (.reg [⟨(some 6), .ld (some 5) (.tmp 2), none⟩,
  ⟨(some 7), .call (.func 60) [(.tmp 6)], none⟩,
  ⟨(some 8), .un .not (.tmp 7), none⟩,
  ⟨(some 9), .mv (.tmp 8), none⟩,
  ⟨(some 10), .mv (.tmp 1), (some (9, false))⟩,
  ⟨(some 11), .fad 2 (.tmp 2), (some (9, false))⟩,
  ⟨(some 12), .ld none (.tmp 11), (some (9, false))⟩,
  ⟨(some 13), .len (.tmp 12), (some (9, false))⟩,
  ⟨(some 14), .bin .sub (.tmp 13) (.const (.int .i64 1)), (some (9, false))⟩,
  ⟨(some 15), .call (.func 78) [(.tmp 10), (.const (.int .i64 0)), (.tmp 14)], (some (9, false))⟩,
  ⟨(some 16), .un .not (.tmp 15), (some (9, false))⟩,
  ⟨(some 17), .pick (.tmp 9) (.const (.bool true)) (.tmp 16), none⟩])
 (.cond (.tmp 17) (.seq (.reg [⟨(some 4), .mv (.const (.int .i64 0)), none⟩,
  ⟨(some 5), .mv (.const (.bool false)), none⟩])
 (.ret)) (.skip)))
 (.seq (.reg [⟨(some 18), .ld (some 5) (.tmp 2), none⟩,
  ⟨(some 19), .mv (.tmp 1), none⟩,
  ⟨(some 20), .call (.func 79) [(.tmp 18), (.tmp 19)], none⟩,
  ⟨(some 4), .mv (.tmp 20), none⟩,
  ⟨(some 5), .mv (.const (.bool true)), none⟩])
 (.ret)))
def r_spec_LostBound : List ARes := [.tmp 4, .tmp 5]
theorem ok_spec_LostBound : FnOk Try.prog 44 21 c_spec_LostBound r_spec_LostBound := ⟨⟨Try.f44, _, Try.func44, by kernel_rfl, rfl, rfl, by kernel_rfl, by kernel_rfl⟩⟩
def c_spec_LostProof : ACode := .seq (.reg [⟨(some 1), .box 27 (.tmp 0), none⟩,
  ⟨(some 2), .mv (.const (.slice none 0 0)), none⟩,
  ⟨(some 3), .mv (.const (.bool false)), none⟩])
 (.seq (.reg [⟨(some 9), .bsl 3 1 0 [] [], none⟩,
  ⟨(some 4), .mv (.tmp 9), none⟩])
 (.seq (.seq (.reg [⟨(some 10), .ld (some 5) (.tmp 1), none⟩,
  ⟨(some 11), .call (.func 60) [(.tmp 10)], none⟩,
  ⟨(some 12), .un .not (.tmp 11), none⟩])
 (.cond (.tmp 12) (.seq (.reg [⟨(some 13), .mv (.tmp 4), none⟩,
  ⟨(some 2), .mv (.tmp 13), none⟩,
  ⟨(some 3), .mv (.const (.bool false)), none⟩])
 (.ret)) (.skip)))
 (.seq (.seq (.reg [⟨(some 5), .mv (.const (.int .i64 1)), none⟩])
 (.block 0 (.loop (.seq (.seq (.reg [⟨(some 14), .mv (.tmp 5), none⟩,
  ⟨(some 15), .fad 2 (.tmp 1), none⟩,
  ⟨(some 16), .ld none (.tmp 15), none⟩,
  ⟨(some 17), .len (.tmp 16), none⟩,
  ⟨(some 18), .bin .shl (.const (.int .i64 1)) (.tmp 17), none⟩,
  ⟨(some 19), .bin .lss (.tmp 14) (.tmp 18), none⟩])
 (.cond (.tmp 19) (.skip) (.exit 0)))
 (.seq (.block 1 (.seq (.reg [⟨(some 22), .fad 2 (.tmp 1), none⟩,
  ⟨(some 23), .ld none (.tmp 22), none⟩,
  ⟨(some 24), .len (.tmp 23), none⟩,
  ⟨(some 25), .mv (.tmp 5), none⟩,
  ⟨(some 26), .call (.func 82) [(.tmp 24), (.tmp 25)], none⟩,
  ⟨(some 6), .mv (.tmp 26), none⟩])
 (.seq (.reg [⟨(some 27), .ld (some 5) (.tmp 1), none⟩,
  ⟨(some 28), .mv (.tmp 6), none⟩,
  ⟨(some 30), .ld (some 5) (.tmp 1), none⟩,
  ⟨(some 31), .mv (.tmp 4), none⟩,
  ⟨(some 29), .rcall (.func 79) [(.tmp 27), (.tmp 28)], none⟩,
  ⟨(some 32), .rcall (.func 79) [(.tmp 30), (.tmp 31)], none⟩,
  ⟨(some 7), .mv (.tmp 29), none⟩,
  ⟨(some 8), .mv (.tmp 32), none⟩])
 (.seq (.reg [⟨(some 33), .mv (.tmp 7), none⟩,
  ⟨(some 34), .mv (.tmp 8), none⟩,
  ⟨(some 35), .bin .gtr (.tmp 33) (.tmp 34), none⟩,
  ⟨(some 36), .mv (.tmp 35), none⟩,
  ⟨(some 37), .mv (.tmp 7), (some (36, false))⟩,
  ⟨(some 38), .mv (.tmp 8), (some (36, false))⟩,
  ⟨(some 39), .bin .eql (.tmp 37) (.tmp 38), (some (36, false))⟩,
  ⟨(some 40), .mv (.tmp 39), (some (36, false))⟩,
  ⟨(some 41), .mv (.tmp 6), (some (40, true))⟩,
  ⟨(some 42), .mv (.tmp 4), (some (40, true))⟩,
  ⟨(some 43), .call (.func 83) [(.tmp 41), (.tmp 42)], (some (40, true))⟩,
  ⟨(some 44), .pick (.tmp 40) (.tmp 43) (.const (.bool false)), (some (36, false))⟩,
  ⟨(some 45), .pick (.tmp 36) (.const (.bool true)) (.tmp 44), none⟩])
 (.cond (.tmp 45) (.reg [⟨(some 46), .mv (.tmp 6), none⟩,
  ⟨(some 4), .mv (.tmp 46), none⟩]) (.skip))))))
 (.reg [⟨(some 20), .mv (.tmp 5), none⟩,
  ⟨(some 21), .bin .add (.tmp 20) (.const (.int .i64 1)), none⟩,
  ⟨(some 5), .mv (.tmp 21), none⟩]))))))
 (.seq (.reg [⟨(some 47), .mv (.tmp 4), none⟩,
  ⟨(some 2), .mv (.tmp 47), none⟩,
  ⟨(some 3), .mv (.const (.bool true)), none⟩])
 (.ret)))))
def r_spec_LostProof : List ARes := [.tmp 2, .tmp 3]
theorem ok_spec_LostProof : FnOk Try.prog 47 48 c_spec_LostProof r_spec_LostProof := ⟨⟨Try.f47, _, Try.func47, by kernel_rfl, rfl, rfl, by kernel_rfl, by kernel_rfl⟩⟩
def c_spec_LifeGains : ACode := .seq (.reg [⟨(some 1), .box 57 (.tmp 0), none⟩,
  ⟨(some 2), .mv (.const (.slice none 0 0)), none⟩,
  ⟨(some 3), .mv (.const (.bool false)), none⟩])
 (.seq (.reg [⟨(some 10), .bsl 3 1 0 [] [], none⟩,
  ⟨(some 4), .mv (.tmp 10), none⟩])
 (.seq (.seq (.reg [⟨(some 11), .ld (some 4) (.tmp 1), none⟩,
  ⟨(some 12), .call (.func 93) [(.tmp 11)], none⟩,
  ⟨(some 13), .un .not (.tmp 12), none⟩])
 (.cond (.tmp 13) (.seq (.reg [⟨(some 14), .mv (.tmp 4), none⟩,
  ⟨(some 2), .mv (.tmp 14), none⟩,
  ⟨(some 3), .mv (.const (.bool false)), none⟩])
 (.ret)) (.skip)))
 (.seq (.seq (.reg [⟨(some 5), .mv (.const (.int .i64 1)), none⟩])
 (.block 0 (.loop (.seq (.seq (.reg [⟨(some 15), .mv (.tmp 5), none⟩,
  ⟨(some 16), .bin .lss (.tmp 15) (.const (.int .i64 8)), none⟩])
 (.cond (.tmp 16) (.skip) (.exit 0)))
 (.seq (.block 1 (.seq (.reg [⟨(some 20), .ld (some 4) (.tmp 1), none⟩,
  ⟨(some 21), .mv (.tmp 5), none⟩,
  ⟨(some 22), .call (.func 91) [(.tmp 20), (.tmp 21)], none⟩,
  ⟨(some 19), .mv (.tmp 22), none⟩,
  ⟨(some 23), .ext 0 (.tmp 19), none⟩,
  ⟨(some 24), .ext 1 (.tmp 19), none⟩,
  ⟨(some 6), .mv (.tmp 23), none⟩,
  ⟨(some 7), .mv (.tmp 24), none⟩])
 (.seq (.reg [⟨(some 26), .ld (some 4) (.tmp 1), none⟩,
  ⟨(some 27), .mv (.tmp 5), none⟩,
  ⟨(some 28), .bin .add (.tmp 27) (.const (.int .i64 1)), none⟩,
  ⟨(some 29), .call (.func 91) [(.tmp 26), (.tmp 28)], none⟩,
  ⟨(some 25), .mv (.tmp 29), none⟩,
  ⟨(some 30), .ext 0 (.tmp 25), none⟩,
  ⟨(some 31), .ext 1 (.tmp 25), none⟩,
  ⟨(some 8), .mv (.tmp 30), none⟩,
  ⟨(some 9), .mv (.tmp 31), none⟩])
 (.reg [⟨(some 32), .mv (.tmp 4), none⟩,
  ⟨(some 33), .mv (.tmp 7), none⟩,
  ⟨(some 34), .mv (.tmp 9), none⟩,
  ⟨(some 35), .bin .sub (.tmp 33) (.tmp 34), none⟩,
  ⟨(some 36), .bsl 3 1 1 [(.int .i64 0)] [(0, 1, (.tmp 35))], none⟩,
  ⟨(some 37), .app 3 1 8 (.tmp 32) (.tmp 36), none⟩,
  ⟨(some 4), .mv (.tmp 37), none⟩]))))
 (.reg [⟨(some 17), .mv (.tmp 5), none⟩,
  ⟨(some 18), .bin .add (.tmp 17) (.const (.int .i64 1)), none⟩,
  ⟨(some 5), .mv (.tmp 18), none⟩]))))))
 (.seq (.reg [⟨(some 38), .mv (.tmp 4), none⟩,
  ⟨(some 2), .mv (.tmp 38), none⟩,
  ⟨(some 3), .mv (.const (.bool true)), none⟩])
 (.ret)))))
def r_spec_LifeGains : List ARes := [.tmp 2, .tmp 3]
theorem ok_spec_LifeGains : FnOk Try.prog 57 39 c_spec_LifeGains r_spec_LifeGains := ⟨⟨Try.f57, _, Try.func57, by kernel_rfl, rfl, rfl, by kernel_rfl, by kernel_rfl⟩⟩
end Go.Proofs.Ytihjcjhnkpkomaa.Ab
