/- The contracts of spec.l2Row and impl.isRow: n numbers of 0..most. -/
import Derived.Test.YtkgmfbminnmpiaaCaseIn
import Derived.Test.YtkgmfbminnmpiaaProg
import Derived.Test.YtkgmfbminnmpiaaPlain
import Derived.WalkKit
import Derived.WalkSpells
import Derived.WalkLawsBesides
import Derived.LoopTactic
import Derived.OwnWalk
import Derived.Deep.QuietTactic
import Derived.BigQuiet
import Derived.Outline
namespace Go.Proofs.Ytkgmfbminnmpiaa
open Go.RowKit
set_option linter.unusedVariables false

def inB (most x : Int) : Bool := decide (0 ≤ x) && decide (x ≤ most)
theorem rowB_no {l : List Int} {n k : Nat} {most x : Int} (h : l[k]? = some x) (hx : ¬ (0 ≤ x ∧ x ≤ most)) : rowB l n most = false := by
  have h1 : ¬ (∀ x ∈ l, 0 ≤ x ∧ x ≤ most) := fun hh => hx (at_mem hh h)
  cases hr : rowB l n most with
  | false => rfl
  | true => exact absurd (rowB_iff.1 hr).1 h1
theorem rowB_end {l : List Int} {n : Nat} {most : Int} (h : ∀ (k : Nat) (x : Int), k < l.length → l[k]? = some x → 0 ≤ x ∧ x ≤ most) : rowB l n most = decide (l.length = n) := by
  have h1 : ∀ x ∈ l, 0 ≤ x ∧ x ≤ most := fun x hx => by
    obtain ⟨k, hk⟩ := List.mem_iff_getElem?.1 hx
    exact h k x (List.getElem?_eq_some_iff.1 hk).1 hk
  by_cases hn : l.length = n
  · rw [decide_eq_true hn]; exact rowB_iff.2 ⟨h1, hn⟩
  · rw [decide_eq_false hn]
    cases hr : rowB l n most with
    | false => rfl
    | true => exact absurd (rowB_iff.1 hr).2 hn
theorem ret_bool {a b : Bool} (h : a = b) : Ending.returned (.bool a) = Ending.returned (.bool b) := by rw [h]

set_option maxHeartbeats 400000 in
theorem l1In_any (x lo hi : Int) (w : World) :
    Calls Try.prog 63 #[.int .i64 x, .int .i64 lo, .int .i64 hi] w fun e w' => e = .returned (.bool (decide (lo ≤ x) && decide (x ≤ hi))) ∧ w = w' := by
  by_cases h1 : lo ≤ x
  · by_cases h2 : x ≤ hi
    · go_enter Try.func63, Try.ntmps63
      go_wp2
      go_ret
      exact ⟨ret_bool (by simp [h1, h2]), rfl⟩
    · go_enter Try.func63, Try.ntmps63
      go_wp2
      go_ret
      exact ⟨ret_bool (by simp [h2]), rfl⟩
  · go_enter Try.func63, Try.ntmps63
    go_wp2
    go_ret
    exact ⟨ret_bool (by simp; omega), rfl⟩

set_option maxHeartbeats 400000 in
theorem l2Row_any (v : Value) (l : List Int) (n : Nat) (most : Int) (w : World) (h : IntsIn w v l) (hn : n ≤ maxLen) :
    Calls Try.prog 66 #[v, .int .i64 n, .int .i64 most] w fun e w' => e = .returned (.bool (rowB l n most)) ∧ w = w' := by
  obtain ⟨A, c, rfl, hlc, hc, hr⟩ := h
  have hl : l.length ≤ maxLen := Nat.le_trans hlc hc
  unfold maxLen at hl hn
  clear hlc hc
  go_enter Try.func66, Try.ntmps66
  go_wp2
  go_loop [7] (fun i => ∃ k : Nat, k ≤ l.length ∧ i = .int .i64 k ∧ Hid (∀ (j : Nat) (x : Int), j < k → l[j]? = some x → 0 ≤ x ∧ x ≤ most)) (fun i => l.length - (intOf i).toNat)
  case atStart => exact ⟨0, Nat.zero_le _, rfl, fun j x hj => absurd hj (by omega)⟩
  case round =>
    obtain ⟨k, hk, rfl, HA⟩ := hrel
    by_cases hlt : k < l.length
    · obtain ⟨x, hx⟩ := at_lt l hlt
      obtain ⟨b1, o1, rfl, _, hc1⟩ := hr.at_ (map_at (f := Value.int .i64) hx)
      clear hr
      have HX := Lib.hid hx
      clear hx
      by_cases h2 : 0 ≤ x ∧ x ≤ most
      · have e1 : (decide (0 ≤ x) && decide (x ≤ most)) = true := by simp [h2]
        go_wp2_with (go_at_call 63; refine (l1In_any _ _ _ _).mono ?_; rintro e w' ⟨rfl, rfl⟩)
        go_round
        case rel =>
          refine ⟨k + 1, by omega, by go_num, fun j y hj hy => ?_⟩
          by_cases e : j = k
          · subst e
            have := HX.out.symm.trans hy
            cases this
            exact h2
          · exact HA.out j y (by omega) hy
        case measure => simp [intOf]; omega
      · have e1 : (decide (0 ≤ x) && decide (x ≤ most)) = false := by
          cases hd : (decide (0 ≤ x) && decide (x ≤ most)) with
          | false => rfl
          | true => simp only [Bool.and_eq_true, decide_eq_true_eq] at hd; exact absurd hd h2
        have HE := Lib.hid (rowB_no (n := n) HX.out h2)
        go_wp2_with (go_at_call 63; refine (l1In_any _ _ _ _).mono ?_; rintro e w' ⟨rfl, rfl⟩)
        go_ret
        exact ⟨ret_bool HE.out.symm, rfl⟩
    · have e : k = l.length := by omega
      subst e
      have HE := Lib.hid (rowB_end (n := n) HA.out)
      clear hr
      go_wp2
      go_ret
      exact ⟨ret_bool (by rw [HE.out]; by_cases hq : l.length = n <;> simp [hq] <;> omega), rfl⟩

theorem lt_not (a x : Int) : decide (a < x) = !decide (x ≤ a) := by
  rw [← decide_not]
  exact decide_eq_decide.2 (by omega)
set_option maxHeartbeats 400000 in
theorem outside_any (x most : Int) (b : Nat) (w : World) (hc : w.cell? ⟨b, 0, none⟩ = some (.int .i64 most)) :
    Calls Try.prog 67 #[.int .i64 x, .pointer (some ⟨b, 0, none⟩)] w fun e w' => e = .returned (.bool (!inB most x)) ∧ Drew w w' := by
  unfold inB
  by_cases h1 : x < 0
  · go_enter Try.func67, Try.ntmps67
    go_wp2
    go_ret
    exact ⟨ret_bool (by simp; omega), Drew.refl _⟩
  · go_enter Try.func67, Try.ntmps67
    go_wp2
    go_ret
    exact ⟨ret_bool (a := decide (most < x)) (lt_not _ _), Drew.refl _⟩
end Go.Proofs.Ytkgmfbminnmpiaa
