/- The compiled forms of functions, each checked against the translation. -/
import Derived.Test.YtmjnjhdacliieaaAb2
import Derived.Test.YtmjnjhdacliieaaProg
namespace Go.Proofs.Ytmjnjhdacliieaa.Ab
open Go Go.RowKit Go.Proofs
set_option maxRecDepth 100000
def c_laws_FnExactFamilyCost : ACode := .seq (.reg [⟨(some 8), .mv (.const (.bool false)), none⟩])
 (.seq (.seq (.reg [⟨(some 16), .mv (.tmp 3), none⟩,
  ⟨(some 17), .len (.tmp 16), none⟩,
  ⟨(some 18), .bin .gtr (.tmp 17) (.const (.int .i64 1048576)), none⟩])
 (.cond (.tmp 18) (.seq (.reg [⟨(some 8), .mv (.const (.bool true)), none⟩])
 (.ret)) (.skip)))
 (.seq (.reg [⟨(some 9), .mv (.const (.int .i64 1048576)), none⟩])
 (.seq (.reg [⟨(some 19), .mv (.tmp 0), none⟩,
  ⟨(some 20), .mv (.tmp 9), none⟩,
  ⟨(some 21), .call (.func 29) [(.tmp 19), (.tmp 20)], none⟩,
  ⟨(some 9), .mv (.tmp 21), none⟩])
 (.seq (.seq (.reg [⟨(some 22), .mv (.tmp 9), none⟩,
  ⟨(some 23), .bin .lss (.tmp 22) (.const (.int .i64 0)), none⟩])
 (.cond (.tmp 23) (.seq (.reg [⟨(some 8), .mv (.const (.bool true)), none⟩])
 (.ret)) (.skip)))
 (.seq (.reg [⟨(some 25), .mv (.tmp 0), none⟩,
  ⟨(some 26), .call (.func 31) [(.tmp 25)], none⟩,
  ⟨(some 27), .mv (.tmp 1), none⟩,
  ⟨(some 28), .mv (.tmp 2), none⟩,
  ⟨(some 29), .mv (.tmp 3), none⟩,
  ⟨(some 30), .call (.func 32) [(.tmp 29)], none⟩,
  ⟨(some 31), .call (.func 30) [(.tmp 26), (.tmp 27), (.tmp 28), (.tmp 30)], none⟩,
  ⟨(some 24), .mv (.tmp 31), none⟩,
  ⟨(some 32), .ext 0 (.tmp 24), none⟩,
  ⟨(some 33), .ext 1 (.tmp 24), none⟩,
  ⟨(some 10), .alc 28 [(.int .i64 0), (.int .i64 0)], none⟩,
  ⟨none, .st 2 (.tmp 10) (.tmp 32), none⟩,
  ⟨(some 11), .mv (.tmp 33), none⟩])
 (.seq (.reg [⟨(some 34), .mv (.tmp 0), none⟩,
  ⟨(some 35), .call (.func 31) [(.tmp 34)], none⟩,
  ⟨(some 12), .mv (.tmp 35), none⟩])
 (.seq (.reg [⟨(some 36), .mv (.tmp 3), none⟩,
  ⟨(some 37), .call (.func 32) [(.tmp 36)], none⟩,
  ⟨(some 13), .mv (.tmp 37), none⟩])
 (.seq (.reg [⟨(some 39), .mv (.tmp 12), none⟩,
  ⟨(some 40), .mv (.tmp 1), none⟩,
  ⟨(some 41), .mv (.tmp 2), none⟩,
  ⟨(some 42), .mv (.tmp 13), none⟩,
  ⟨(some 43), .call (.func 33) [(.tmp 39), (.tmp 40), (.tmp 41), (.tmp 42)], none⟩,
  ⟨(some 38), .mv (.tmp 43), none⟩,
  ⟨(some 44), .ext 0 (.tmp 38), none⟩,
  ⟨(some 45), .ext 1 (.tmp 38), none⟩,
  ⟨(some 14), .alc 28 [(.int .i64 0), (.int .i64 0)], none⟩,
  ⟨none, .st 2 (.tmp 14) (.tmp 44), none⟩,
  ⟨(some 15), .mv (.tmp 45), none⟩])
 (.seq (.seq (.reg [⟨(some 46), .ld (some 2) (.tmp 14), none⟩,
  ⟨(some 47), .ld (some 2) (.tmp 10), none⟩,
  ⟨(some 48), .call (.func 24) [(.tmp 46), (.tmp 47)], none⟩,
  ⟨(some 49), .un .not (.tmp 48), none⟩,
  ⟨(some 50), .mv (.tmp 49), none⟩,
  ⟨(some 51), .mv (.tmp 15), (some (50, false))⟩,
  ⟨(some 52), .mv (.tmp 11), (some (50, false))⟩,
  ⟨(some 53), .beq true (.tmp 51) (.tmp 52), (some (50, false))⟩,
  ⟨(some 54), .pick (.tmp 50) (.const (.bool true)) (.tmp 53), none⟩])
 (.cond (.tmp 54) (.seq (.reg [⟨(some 8), .mv (.const (.bool false)), none⟩])
 (.ret)) (.skip)))
 (.seq (.seq (.reg [⟨(some 55), .mv (.tmp 12), none⟩,
  ⟨(some 56), .mv (.tmp 0), none⟩,
  ⟨(some 57), .call (.func 31) [(.tmp 56)], none⟩,
  ⟨(some 58), .call (.func 34) [(.tmp 55), (.tmp 57)], none⟩,
  ⟨(some 59), .un .not (.tmp 58), none⟩])
 (.cond (.tmp 59) (.seq (.reg [⟨(some 8), .mv (.const (.bool false)), none⟩])
 (.ret)) (.skip)))
 (.seq (.seq (.reg [⟨(some 60), .mv (.tmp 13), none⟩,
  ⟨(some 61), .mv (.tmp 3), none⟩,
  ⟨(some 62), .call (.func 32) [(.tmp 61)], none⟩,
  ⟨(some 63), .call (.func 35) [(.tmp 60), (.tmp 62)], none⟩,
  ⟨(some 64), .un .not (.tmp 63), none⟩])
 (.cond (.tmp 64) (.seq (.reg [⟨(some 8), .mv (.const (.bool false)), none⟩])
 (.ret)) (.skip)))
 (.seq (.reg [⟨(some 8), .mv (.const (.bool true)), none⟩])
 (.ret)))))))))))))
def r_laws_FnExactFamilyCost : List ARes := [.tmp 8]
theorem ok_laws_FnExactFamilyCost : FnOk Try.prog 7 65 c_laws_FnExactFamilyCost r_laws_FnExactFamilyCost := ⟨⟨Try.f7, _, Try.func7, by kernel_rfl, rfl, rfl, by kernel_rfl, by kernel_rfl⟩⟩
end Go.Proofs.Ytmjnjhdacliieaa.Ab
