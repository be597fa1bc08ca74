/- Contracts of the laws' helpers over lists of strings: eqStringS, szStringS, toStringS. -/
import Derived.Test.YtofcnabpfdnohaaProg
import Derived.Test.YtofcnabpfdnohaaMem
import Derived.Test.YtofcnabpfdnohaaPlain
import Derived.WalkKit
import Derived.WalkSpells
import Derived.WalkLawsBesides
import Derived.LoopTactic
import Derived.OwnWalk
import Derived.Deep.QuietTactic
import Derived.BigQuiet
import Derived.Outline
namespace Go.Proofs.Ytofcnabpfdnohaa
open Go.RowKit
set_option linter.unusedVariables false

/-- What szStringS returns: what is left, or -1. -/
def strsTot : List ByteArray → Int
  | [] => 0
  | s :: l => (s.size : Int) + strsTot l
def szOut (left : Int) (l : List ByteArray) : Int := if left - l.length - strsTot l < 0 then -1 else left - l.length - strsTot l
theorem strsTot_append (l m : List ByteArray) : strsTot (l ++ m) = strsTot l + strsTot m := by
  induction l with
  | nil => simp [strsTot]
  | cons s l ih => simp only [List.cons_append, strsTot, ih]; omega
theorem strsTot_snoc (l : List ByteArray) (s : ByteArray) : strsTot (l ++ [s]) = strsTot l + s.size := by
  rw [strsTot_append]; simp [strsTot]
theorem strsTot_nonneg : ∀ l : List ByteArray, 0 ≤ strsTot l
  | [] => by simp [strsTot]
  | s :: l => by have := strsTot_nonneg l; simp only [strsTot]; omega
theorem strsTot_take_le (l : List ByteArray) (k : Nat) : strsTot (l.take k) ≤ strsTot l := by
  have h := strsTot_append (l.take k) (l.drop k)
  rw [List.take_append_drop] at h
  have := strsTot_nonneg (l.drop k)
  omega

set_option maxHeartbeats 400000 in
theorem eqStringS_yes (l : List ByteArray) (A1 A2 : Option Addr) (c1 c2 B : Nat) (w : World) (h1 : Rd w B A1 (l.map .string)) (h2 : Rd w B A2 (l.map .string)) (hl : l.length ≤ maxLen) :
    Calls Try.prog 18 #[.slice A1 l.length c1, .slice A2 l.length c2] w fun e w' => e = .returned (.bool true) ∧ ∃ n, w' = w.drewN n := by
  unfold maxLen at hl
  go_enter Try.func18, Try.ntmps18
  go_wp2
  go_loopw [5] (fun i wr => ∃ k n : Nat, k ≤ l.length ∧ i = .int .i64 k ∧ wr = w.drewN n) (fun i _ => l.length - (intOf i).toNat)
  case atStart => exact ⟨0, 0, Nat.zero_le _, rfl, rfl⟩
  case round =>
    obtain ⟨k, n, hk, rfl, rfl⟩ := hrel
    by_cases hlt : k < l.length
    · obtain ⟨s, hs⟩ := at_lt l hlt
      obtain ⟨b1, o1, rfl, _, hc1⟩ := h1.at_ (map_at (f := .string) hs)
      obtain ⟨b2, o2, rfl, _, hc2⟩ := h2.at_ (map_at (f := .string) hs)
      clear hs h1 h2
      go_wp2
      go_quiet (fail)
      go_wp2
      go_roundw
      case rel => exact ⟨k + 1, _, by omega, by go_num, rfl⟩
      case measure => simp [intOf]; omega
    · clear h1 h2
      go_wp2
      go_ret
      exact ⟨rfl, _, rfl⟩

set_option maxHeartbeats 400000 in
theorem szStringS_any (l : List ByteArray) (A : Option Addr) (c B : Nat) (left : Int) (w : World) (h : Rd w B A (l.map .string)) (hl : l.length ≤ maxLen) (hs : ∀ s ∈ l, s.size ≤ maxLen) (h0 : 0 ≤ left) (h1 : left ≤ 1048576) :
    Calls Try.prog 21 #[.slice A l.length c, .int .i64 left] w fun e w' => e = .returned (.int .i64 (szOut left l)) ∧ w = w' := by
  unfold maxLen at hl hs
  have hT := strsTot_nonneg l
  by_cases hn : left - l.length < 0
  · have e : szOut left l = -1 := by unfold szOut; rw [if_pos (by omega)]
    rw [e]
    clear e
    go_enter Try.func21, Try.ntmps21
    go_wp2
    go_ret
    exact ⟨rfl, rfl⟩
  · go_enter Try.func21, Try.ntmps21
    go_wp2
    go_loop [1, 5] (fun t i => ∃ k : Nat, k ≤ l.length ∧ i = .int .i64 k ∧ t = .int .i64 (left - l.length - strsTot (l.take k)) ∧ 0 ≤ left - l.length - strsTot (l.take k)) (fun _ i => l.length - (intOf i).toNat)
    case atStart => exact ⟨0, Nat.zero_le _, rfl, by simp [strsTot], by simp [strsTot]; omega⟩
    case round =>
      obtain ⟨k, hk, rfl, rfl, hp⟩ := hrel
      have htk := strsTot_nonneg (l.take k)
      by_cases hlt : k < l.length
      · obtain ⟨s, hsk⟩ := at_lt l hlt
        obtain ⟨b1, o1, rfl, _, hc1⟩ := h.at_ (map_at (f := .string) hsk)
        have hsz := hs s (List.mem_of_getElem? hsk)
        have hsn := strsTot_snoc (l.take k) s
        rw [← take_at hsk] at hsn
        have hle := strsTot_take_le l (k + 1)
        have HS := Lib.hid hsn
        clear hsn hsk hs h
        by_cases hneg : left - l.length - strsTot (l.take k) - s.size < 0
        · have e : szOut left l = -1 := by have := HS.out; unfold szOut; rw [if_pos (by omega)]
          have HE := Lib.hid e
          clear e
          go_wp2
          go_ret
          exact ⟨ret_int HE.out.symm, rfl⟩
        · go_wp2
          go_round
          case rel => exact ⟨k + 1, by omega, by go_num, by rw [HS.out]; congr 1; omega, by rw [HS.out]; omega⟩
          case measure => simp [intOf]; omega
      · have e : szOut left l = left - l.length - strsTot (l.take k) := by
          rw [List.take_of_length_le (by omega)] at hp ⊢
          unfold szOut; rw [if_neg (by omega)]
        have HE := Lib.hid e
        clear e hs h
        go_wp2
        go_ret
        exact ⟨ret_int HE.out.symm, rfl⟩
end Go.Proofs.Ytofcnabpfdnohaa
