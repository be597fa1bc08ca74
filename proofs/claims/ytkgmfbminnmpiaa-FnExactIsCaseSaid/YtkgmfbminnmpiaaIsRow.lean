/- The contracts of slices.IndexFunc and slices.ContainsFunc at the closure of impl.isRow, and of impl.isRow. -/
import Derived.Test.YtkgmfbminnmpiaaRow
namespace Go.Proofs.Ytkgmfbminnmpiaa
open Go.RowKit
set_option linter.unusedVariables false

theorem makeFunc_run (fn : Fn) (first cap : Array Value) (w : World) : (Instr.makeFunc fn first cap).run Try.prog w = .ok (.func fn first cap) w := rfl
theorem inB_iff {most x : Int} : inB most x = true ↔ 0 ≤ x ∧ x ≤ most := by simp [inB]
theorem allIn_no {l : List Int} {k : Nat} {most x : Int} (h : l[k]? = some x) (hx : inB most x = false) : l.all (inB most) = false := by
  cases hr : l.all (inB most) with
  | false => rfl
  | true => rw [List.all_eq_true.1 hr x (List.mem_of_getElem? h)] at hx; cases hx
theorem allIn_yes {l : List Int} {most : Int} (h : ∀ (k : Nat) (x : Int), k < l.length → l[k]? = some x → inB most x = true) : l.all (inB most) = true :=
  List.all_eq_true.2 fun x hx => by
    obtain ⟨k, hk⟩ := List.mem_iff_getElem?.1 hx
    exact h k x (List.getElem?_eq_some_iff.1 hk).1 hk
theorem rowB_all (l : List Int) (n : Nat) (most : Int) : rowB l n most = (decide (l.length = n) && l.all (inB most)) := by
  rw [Bool.and_comm]; rfl

set_option maxHeartbeats 400000 in
theorem indexOutside_any (v : Value) (l : List Int) (most : Int) (b : Nat) (w : World) (h : IntsIn w v l) (hc : w.cell? ⟨b, 0, none⟩ = some (.int .i64 most)) :
    Calls Try.prog 70 #[v, .func (.func 67) #[] #[.pointer (some ⟨b, 0, none⟩)]] w fun e w' =>
      ∃ r : Int, e = .returned (.int .i64 r) ∧ decide (0 ≤ r) = !l.all (inB most) ∧ Drew w w' := by
  obtain ⟨A, c, rfl, hlc, hcm, hr⟩ := h
  have hl : l.length ≤ maxLen := Nat.le_trans hlc hcm
  unfold maxLen at hl
  clear hlc hcm
  go_enter Try.func70, Try.ntmps70
  go_wp2
  go_loopw [8] (fun i wr => ∃ k : Nat, k ≤ l.length ∧ i = .int .i64 k ∧ Drew w wr ∧ Hid (∀ (j : Nat) (x : Int), j < k → l[j]? = some x → inB most x = true)) (fun i _ => l.length - (intOf i).toNat)
  case atStart => exact ⟨0, Nat.zero_le _, rfl, Drew.refl _, fun j x hj => absurd hj (by omega)⟩
  case round =>
    obtain ⟨k, hk, rfl, hd, HA⟩ := hrel
    by_cases hlt : k < l.length
    · obtain ⟨x, hx⟩ := at_lt l hlt
      obtain ⟨b1, o1, rfl, _, hc1⟩ := (hr.drawn hd).at_ (map_at (f := Value.int .i64) hx)
      have hcb : wr.cell? ⟨b, 0, none⟩ = some (.int .i64 most) := (hd.cell _).trans hc
      clear hr hc
      have HX := Lib.hid hx
      have HD := Lib.hid hd
      clear hx hd
      by_cases h2 : inB most x = true
      · go_wp2_with (go_at_call 67; refine (outside_any _ _ _ _ hcb).mono ?_; rintro e w' ⟨rfl, hd2⟩)
        go_roundw
        case rel =>
          refine ⟨k + 1, by omega, by go_num, HD.out.trans hd2, fun j y hj hy => ?_⟩
          by_cases e : j = k
          · subst e
            have := HX.out.symm.trans hy
            cases this
            exact h2
          · exact HA.out j y (by omega) hy
        case measure => simp [intOf]; omega
      · have h3 : inB most x = false := by simpa using h2
        have HE := Lib.hid (allIn_no HX.out h3)
        clear h2
        go_wp2_with (go_at_call 67; refine (outside_any _ _ _ _ hcb).mono ?_; rintro e w' ⟨rfl, hd2⟩)
        go_ret
        exact ⟨_, rfl, by rw [HE.out]; simp, HD.out.trans hd2⟩
    · have e : k = l.length := by omega
      subst e
      have HE := Lib.hid (allIn_yes HA.out)
      clear hr
      go_wp2
      go_ret
      exact ⟨_, rfl, by rw [HE.out]; simp, hd⟩

set_option maxHeartbeats 400000 in
theorem containsOutside_any (v : Value) (l : List Int) (most : Int) (b : Nat) (w : World) (h : IntsIn w v l) (hc : w.cell? ⟨b, 0, none⟩ = some (.int .i64 most)) :
    Calls Try.prog 68 #[v, .func (.func 67) #[] #[.pointer (some ⟨b, 0, none⟩)]] w fun e w' =>
      e = .returned (.bool (!l.all (inB most))) ∧ Drew w w' := by
  have HI := Lib.hid (indexOutside_any v l most b w h hc)
  clear h hc
  go_enter Try.func68, Try.ntmps68
  go_wp2_with fail
  refine HI.out.mono ?_
  rintro e w1 ⟨r, rfl, hr, hd⟩
  have HR := Lib.hid hr
  clear hr
  go_wp2
  go_ret
  exact ⟨ret_bool HR.out, hd⟩

set_option maxHeartbeats 400000 in
theorem isRow_any (v : Value) (l : List Int) (n : Nat) (most : Int) (w : World) (h : IntsIn w v l) (hn : n ≤ maxLen) :
    Calls Try.prog 50 #[v, .int .i64 n, .int .i64 most] w fun e w' => e = .returned (.bool (rowB l n most)) ∧ Below w.heap.size w w' := by
  have hb0 := (Below.refl w.heap.size w).alloc (Nat.le_refl _) (.cells #[.int .i64 most] 3)
  have hc : (w.alloc (.cells #[.int .i64 most] 3)).cell? ⟨w.heap.size, 0, none⟩ = some (.int .i64 most) := cell_of_row _ w.heap.size 0 _ 3 (0, 0) (heap_alloc_new w _)
  have HI := Lib.hid (containsOutside_any v l most w.heap.size _ (h.below hb0) hc)
  have HB := Lib.hid hb0
  have hmf := makeFunc_run
  obtain ⟨A, c, rfl, hlc, hcm, hr⟩ := h
  have hl : l.length ≤ maxLen := Nat.le_trans hlc hcm
  unfold maxLen at hl hn
  clear hlc hcm hr hb0 hc
  rw [rowB_all]
  by_cases h1 : l.length = n
  · rw [decide_eq_true h1, Bool.true_and]
    subst h1
    go_enter Try.func50, Try.ntmps50
    go_wp2_with (go_at_call 68; refine HI.out.mono ?_; rintro e w1 ⟨rfl, hd⟩)
    go_ret
    exact ⟨ret_bool (by simp), HB.out.trans (hd.below _)⟩
  · rw [decide_eq_false h1, Bool.false_and]
    go_enter Try.func50, Try.ntmps50
    go_wp2_with (go_at_call 68; refine HI.out.mono ?_; rintro e w1 ⟨rfl, hd⟩)
    go_ret
    exact ⟨ret_bool (by simp), HB.out⟩
end Go.Proofs.Ytkgmfbminnmpiaa
