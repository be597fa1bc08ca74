/- The contract of the laws' helper toStringS: a new slice with the same strings. -/
import Derived.Test.YtofcnabpfdnohaaStrs
namespace Go.Proofs.Ytofcnabpfdnohaa
open Go.RowKit
set_option linter.unusedVariables false

theorem infoStr : (Try.prog.info? 9).map (fun i => (i.zero, i.size, i.bytes)) = some (some (.string ⟨#[]⟩), 1, 16) := by kernel_rfl

def NewStrs (l : List ByteArray) (w : World) (e : Ending) (w' : World) : Prop :=
  ∃ A c, e = .returned (.slice A l.length c) ∧ w'.ownsRow w.heap.size 9 1 (.slice A l.length c) l.length (l.map .string) ∧ Below w.heap.size w w'

set_option maxHeartbeats 400000 in
theorem toStringS_any (l : List ByteArray) (A : Option Addr) (c : Nat) (w : World) (h : Rd w w.heap.size A (l.map .string)) (hl : l.length ≤ 1048576) :
    Calls Try.prog 22 #[.slice A l.length c] w (NewStrs l w) := by
  obtain ⟨i0, hi, hz0, hz1, hz2⟩ := info_parts infoStr
  go_enter Try.func22, Try.ntmps22
  go_wp2_with (at_make; refine wpList_make_full _ rfl _ _ 26 rfl w.heap.size 9 i0 _ 1 Try.underlying26 hi hz0 hz1 .i64 .i64 _ _ l.length rfl rfl rfl rfl (by rw [hz2]; omega) (by unfold maxLen; omega) (Nat.le_refl _) ?_; intro w1 hown hg1)
  have hbw1 : Below w.heap.size w w1 := (Below.refl _ _).grown hg1 (Nat.le_refl _) (fun k hk => by cases hk)
  clear hg1
  go_loopw [4] (fun i wr => ∃ (k : Nat) (xs : List Value), k ≤ l.length ∧ i = .int .i64 k ∧ wr.ownsRow w.heap.size 9 1 (.slice (some ⟨w.heap.size, 0, none⟩) l.length l.length) l.length xs ∧ (∀ j, j < k → xs[j]? = (l.map Value.string)[j]?) ∧ Below w.heap.size w wr) (fun i _ => l.length - (intOf i).toNat)
  case atStart => exact ⟨0, _, Nat.zero_le _, rfl, hown, fun j hj => absurd hj (by omega), hbw1⟩
  case round =>
    obtain ⟨k, xs, hk, rfl, hrow, hpre, hbr⟩ := hrel
    clear hown hbw1
    by_cases hlt : k < l.length
    · obtain ⟨s, hs⟩ := at_lt l hlt
      obtain ⟨b1, o1, rfl, _, hc1⟩ := (h.below hbr).at_ (map_at (f := .string) hs)
      have hxl : xs.length = l.length := by have := hrow.1; omega
      have hcell := hrow.cellAt k (by omega)
      obtain ⟨old, hold⟩ := at_lt xs (k := k) (by omega)
      rw [hold] at hcell
      have hfr := hrow.frozenAt k
      have hst := hrow.stored k (.string s)
      have hbr2 := hbr.setCell (p := ⟨w.heap.size, k, none⟩) (Nat.le_refl _) (.string s)
      have hpre2 : ∀ j, j < k + 1 → (xs.set k (.string s))[j]? = (l.map Value.string)[j]? := by
        intro j hj
        rw [List.getElem?_set]
        by_cases e : k = j
        · subst e
          rw [if_pos rfl, if_pos (by omega), map_at hs]
        · rw [if_neg e]; exact hpre j (by omega)
      have HP := Lib.hid hpre2
      have HO := Lib.hid hst.1
      have HB := Lib.hid hbr2
      clear hs hpre hpre2 hst hbr2 h hrow hbr hold hxl
      go_wp2
      go_roundw
      case rel => exact ⟨k + 1, _, by omega, by go_num, HO.out, HP.out, HB.out⟩
      case measure => simp [intOf]; omega
    · have e : k = l.length := by omega
      have hxl : xs.length = l.length := by have := hrow.1; omega
      have hx : xs = l.map Value.string := by
        apply List.ext_getElem?
        intro j
        by_cases hj : j < k
        · exact hpre j hj
        · rw [List.getElem?_eq_none (by omega), List.getElem?_eq_none (by simp; omega)]
      rw [hx] at hrow
      have HO := Lib.hid hrow
      have HB := Lib.hid hbr
      clear hpre hx hrow hbr h hxl e
      go_wp2
      go_ret
      exact ⟨_, _, rfl, HO.out, HB.out⟩
end Go.Proofs.Ytofcnabpfdnohaa
