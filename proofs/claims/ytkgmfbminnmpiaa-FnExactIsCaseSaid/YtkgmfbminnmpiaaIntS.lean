/- Contracts of the laws' helpers over slices of numbers: toIntS, eqIntS, szIntS, markIntS, heldIntS. -/
import Derived.Test.YtkgmfbminnmpiaaProg
import Derived.Test.YtkgmfbminnmpiaaKept
import Derived.Test.YtkgmfbminnmpiaaPlain
import Derived.WalkKit
import Derived.WalkSpells
import Derived.WalkLawsBesides
import Derived.LoopTactic
import Derived.OwnWalk
import Derived.Deep.QuietTactic
import Derived.BigQuiet
import Derived.Outline
namespace Go.Proofs.Ytkgmfbminnmpiaa
open Go.RowKit
set_option linter.unusedVariables false

theorem infoInt : (Try.prog.info? 3).map (fun i => (i.zero, i.size, i.bytes)) = some (some (.int .i64 0), 1, 8) := by kernel_rfl
theorem at_lt' {α : Type} (l : List α) {k : Nat} (h : k < l.length) : ∃ x, l[k]? = some x := ⟨l[k], List.getElem?_eq_getElem h⟩

set_option maxHeartbeats 400000 in
theorem szIntS_any (v : Value) (l : List Int) (left : Int) (w : World) (h : IntsIn w v l) (h0 : 0 ≤ left) (h1 : left ≤ 1048576) :
    Calls Try.prog 48 #[v, .int .i64 left] w fun e w' => e = .returned (.int .i64 (if left - l.length < 0 then -1 else left - l.length)) ∧ w = w' := by
  obtain ⟨A, c, rfl, hlc, hc, hr⟩ := h
  have hl : l.length ≤ maxLen := Nat.le_trans hlc hc
  unfold maxLen at hl
  clear hr hlc hc
  by_cases hn : left - l.length < 0
  · rw [if_pos hn]
    go_enter Try.func48, Try.ntmps48
    go_wp2
    go_ret
    exact ⟨rfl, rfl⟩
  · rw [if_neg hn]
    go_enter Try.func48, Try.ntmps48
    go_wp2
    go_ret
    exact ⟨rfl, rfl⟩

set_option maxHeartbeats 400000 in
theorem eqIntS_yes (v1 v2 : Value) (l : List Int) (w : World) (h1 : IntsIn w v1 l) (h2 : IntsIn w v2 l) :
    Calls Try.prog 23 #[v1, v2] w fun e w' => e = .returned (.bool true) ∧ Drew w w' := by
  obtain ⟨A1, c1, rfl, hlc, hc, h1⟩ := h1
  obtain ⟨A2, c2, rfl, _, _, h2⟩ := h2
  have hl : l.length ≤ maxLen := Nat.le_trans hlc hc
  unfold maxLen at hl
  clear hlc hc
  go_enter Try.func23, Try.ntmps23
  go_wp2
  go_loopw [5] (fun i wr => ∃ k n : Nat, k ≤ l.length ∧ i = .int .i64 k ∧ wr = w.drewN n) (fun i _ => l.length - (intOf i).toNat)
  case atStart => exact ⟨0, 0, Nat.zero_le _, rfl, rfl⟩
  case round =>
    obtain ⟨k, n, hk, rfl, rfl⟩ := hrel
    by_cases hlt : k < l.length
    · obtain ⟨s, hs⟩ := at_lt l hlt
      obtain ⟨b1, o1, rfl, _, hc1⟩ := h1.at_ (map_at (f := Value.int .i64) hs)
      obtain ⟨b2, o2, rfl, _, hc2⟩ := h2.at_ (map_at (f := Value.int .i64) hs)
      clear hs h1 h2
      go_wp2
      go_quiet (fail)
      go_wp2
      go_roundw
      case rel => exact ⟨k + 1, _, by omega, by go_num, rfl⟩
      case measure => simp [intOf]; omega
    · clear h1 h2
      go_wp2
      go_ret
      exact ⟨rfl, _, rfl⟩

set_option maxHeartbeats 400000 in
theorem toIntS_any (v : Value) (l : List Int) (w : World) (h : IntsIn w v l) (hl : l.length ≤ 1048576) :
    Calls Try.prog 21 #[v] w fun e w' => ∃ v', e = .returned v' ∧ OwnInts w' w.heap.size w'.heap.size v' l ∧ Below w.heap.size w w' := by
  obtain ⟨i0, hi, hz0, hz1, hz2⟩ := info_parts infoInt
  obtain ⟨A, c, rfl, hlc, hc, h⟩ := h
  clear hlc hc
  go_enter Try.func21, Try.ntmps21
  go_wp2_with (at_make; refine wpList_make_full _ rfl _ _ 22 rfl w.heap.size 3 i0 _ 1 Try.underlying22 hi hz0 hz1 .i64 .i64 _ _ l.length rfl rfl rfl rfl (by rw [hz2]; omega) (by unfold maxLen; omega) (Nat.le_refl _) ?_; intro w1 hown hg1)
  have hbw1 : Below w.heap.size w w1 := (Below.refl _ _).grown hg1 (Nat.le_refl _) (fun k hk => by cases hk)
  clear hg1
  go_loopw [4] (fun i wr => ∃ (k : Nat) (xs : List Value), k ≤ l.length ∧ i = .int .i64 k ∧ wr.ownsRow w.heap.size 3 1 (.slice (some ⟨w.heap.size, 0, none⟩) l.length l.length) l.length xs ∧ (∀ j, j < k → xs[j]? = (l.map (Value.int .i64))[j]?) ∧ Below w.heap.size w wr) (fun i _ => l.length - (intOf i).toNat)
  case atStart => exact ⟨0, _, Nat.zero_le _, rfl, hown, fun j hj => absurd hj (by omega), hbw1⟩
  case round =>
    obtain ⟨k, xs, hk, rfl, hrow, hpre, hbr⟩ := hrel
    clear hown hbw1
    by_cases hlt : k < l.length
    · obtain ⟨s, hs⟩ := at_lt l hlt
      obtain ⟨b1, o1, rfl, _, hc1⟩ := (h.below hbr).at_ (map_at (f := Value.int .i64) hs)
      have hxl : xs.length = l.length := by have := hrow.1; omega
      have hcell := hrow.cellAt k (by omega)
      obtain ⟨old, hold⟩ := at_lt xs (k := k) (by omega)
      rw [hold] at hcell
      have hfr := hrow.frozenAt k
      have hst := hrow.stored k (.int .i64 s)
      have hbr2 := hbr.setCell (p := ⟨w.heap.size, k, none⟩) (Nat.le_refl _) (.int .i64 s)
      have hpre2 : ∀ j, j < k + 1 → (xs.set k (.int .i64 s))[j]? = (l.map (Value.int .i64))[j]? := by
        intro j hj
        rw [List.getElem?_set]
        by_cases e : k = j
        · subst e
          rw [if_pos rfl, if_pos (by omega), map_at hs]
        · rw [if_neg e]; exact hpre j (by omega)
      have HP := Lib.hid hpre2
      have HO := Lib.hid hst.1
      have HB := Lib.hid hbr2
      clear hs hpre hpre2 hst hbr2 h hrow hbr hold hxl
      go_wp2
      go_roundw
      case rel => exact ⟨k + 1, _, by omega, by go_num, HO.out, HP.out, HB.out⟩
      case measure => simp [intOf]; omega
    · have e : k = l.length := by omega
      have hxl : xs.length = l.length := by have := hrow.1; omega
      have hx : xs = l.map (Value.int .i64) := by
        apply List.ext_getElem?
        intro j
        by_cases hj : j < k
        · exact hpre j hj
        · rw [List.getElem?_eq_none (by omega), List.getElem?_eq_none (by simp; omega)]
      rw [hx] at hrow
      have HO := Lib.hid (OwnInts.now hrow)
      have HB := Lib.hid hbr
      clear hpre hx hrow hbr h hxl e
      go_wp2
      go_ret
      exact ⟨_, rfl, HO.out, HB.out⟩

/-- The marks from k on. -/
def imarks (k : Int) (n : Nat) : List Int := (List.range n).map fun (j : Nat) => k + (j : Int)
theorem imarks_len (k : Int) (n : Nat) : (imarks k n).length = n := by simp [imarks]
theorem imarks_at {k : Int} {n j : Nat} (h : j < n) : ((imarks k n).map (Value.int .i64))[j]? = some (.int .i64 (k + j)) := by
  simp [imarks, h]

set_option maxHeartbeats 1000000 in
theorem markIntS_any (v : Value) (l : List Int) (k0 : Int) (lo hi : Nat) (w : World) (h : OwnInts w lo hi v l) (hk0 : 0 ≤ k0) (hk1 : k0 ≤ 1099511627776) (hl : l.length ≤ 1099511627776) :
    Calls Try.prog 25 #[v, .int .i64 k0] w fun e w' => e = .returned (.int .i64 (k0 + (l.length : Int))) ∧ OwnInts w' lo hi v (imarks k0 l.length) ∧ Kept lo hi w w' := by
  obtain ⟨A, c, rfl, hlc, hc⟩ := h.form
  have hlt0 := h.2
  have hown := h.1
  clear h hlc hc
  generalize hn : l.length = n at *
  go_enter Try.func25, Try.ntmps25
  go_wp2
  go_loopw [1, 5] (fun t1 t5 wr => ∃ (k : Nat) (ys : List Value), k ≤ n ∧ t5 = .int .i64 k ∧ t1 = .int .i64 (k0 + (k : Int)) ∧ wr.ownsRow lo 3 1 (.slice A n c) n ys ∧ Hid (∀ j, j < k → ys[j]? = some (.int .i64 (k0 + j))) ∧ Hid (Kept lo hi w wr)) (fun _ t5 _ => n - (intOf t5).toNat)
  case atStart => exact ⟨0, _, Nat.zero_le _, rfl, by simp, hown, fun j hj => absurd hj (by omega), Kept.refl _ _ _⟩
  case round =>
    obtain ⟨k, ys, hk, rfl, rfl, hrow, HY, HK⟩ := hrel
    have hyl : ys.length = n := by have := hrow.1; omega
    by_cases hlt : k < n
    · obtain ⟨g, rfl, hbg, hgl⟩ := own_at' hrow (by omega)
      have hgh : g < hi := hlt0 g rfl
      obtain ⟨old, hold⟩ := at_lt ys (k := k) (by omega)
      have hcell := hrow.cellAt k (by omega)
      rw [hold] at hcell
      have hfr := hrow.frozenAt k
      have HO := Lib.hid (hrow.stored k (.int .i64 (k0 + k))).1
      have HK2 : Hid (Kept lo hi w (wr.setCell ⟨g, k, none⟩ (.int .i64 (k0 + k)))) := HK.out.trans (Kept.set hbg hgh _)
      have HY2 : Hid (∀ j, j < k + 1 → (ys.set k (.int .i64 (k0 + k)))[j]? = some (.int .i64 (k0 + j))) := by
        intro j hj
        rw [List.getElem?_set]
        by_cases e : k = j
        · subst e
          rw [if_pos rfl, if_pos (by omega)]
        · rw [if_neg e]; exact HY.out j (by omega)
      clear hrow hold hyl HK HY hown hlt0
      go_wp2
      go_roundw
      case rel => exact ⟨k + 1, _, by omega, by go_num, by congr 1; omega, HO.out, HY2, HK2⟩
      case measure => simp [intOf]; omega
    · have e : k = n := by omega
      subst e
      have hy : ys = (imarks k0 k).map (Value.int .i64) := by
        apply List.ext_getElem?
        intro j
        by_cases hj : j < k
        · rw [HY.out j hj, imarks_at hj]
        · rw [List.getElem?_eq_none (by omega), List.getElem?_eq_none (by simp [imarks]; omega)]
      rw [hy] at hrow
      have HR : Hid (OwnInts wr lo hi (.slice A k c) (imarks k0 k)) := ⟨by rw [imarks_len]; exact hrow, hlt0⟩
      clear hrow hy hyl HY hown hlt0
      go_wp2
      go_ret
      exact ⟨rfl, HR.out, HK.out⟩

set_option maxHeartbeats 1000000 in
theorem heldIntS_any (v : Value) (n : Nat) (k0 : Int) (w : World) (h : IntsIn w v (imarks k0 n)) (hk0 : 0 ≤ k0) (hk1 : k0 ≤ 1099511627776) (hl : n ≤ 1099511627776) :
    Calls Try.prog 26 #[v, .int .i64 k0] w fun e w' => e = .returned (.int .i64 (k0 + (n : Int))) ∧ Drew w w' := by
  obtain ⟨A, c, rfl, hlc, hc, h⟩ := h
  rw [imarks_len] at *
  clear hlc hc
  go_enter Try.func26, Try.ntmps26
  go_wp2
  go_loopw [1, 5] (fun t1 t5 wr => ∃ k m : Nat, k ≤ n ∧ t5 = .int .i64 k ∧ t1 = .int .i64 (k0 + (k : Int)) ∧ wr = w.drewN m) (fun _ t5 _ => n - (intOf t5).toNat)
  case atStart => exact ⟨0, 0, Nat.zero_le _, rfl, by simp, rfl⟩
  case round =>
    obtain ⟨k, m, hk, rfl, rfl, rfl⟩ := hrel
    by_cases hlt : k < n
    · obtain ⟨b1, o1, rfl, _, hc1⟩ := h.at_ (imarks_at hlt)
      clear h
      go_wp2
      go_roundw
      case rel => exact ⟨k + 1, _, by omega, by go_num, by congr 1; omega, rfl⟩
      case measure => simp [intOf]; omega
    · have e : k = n := by omega
      subst e
      clear h
      go_wp2
      go_ret
      exact ⟨rfl, _, rfl⟩
end Go.Proofs.Ytkgmfbminnmpiaa
