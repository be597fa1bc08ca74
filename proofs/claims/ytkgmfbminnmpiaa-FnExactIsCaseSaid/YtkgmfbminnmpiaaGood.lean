/- The contracts of spec.l2Good, spec.IsCase and impl.IsCase. -/
import Derived.Test.YtkgmfbminnmpiaaIsRow
import Derived.Test.YtkgmfbminnmpiaaCaseEq
import Derived.Test.YtkgmfbminnmpiaaBx
namespace Go.Proofs.Ytkgmfbminnmpiaa
open Go.RowKit
set_option linter.unusedVariables false

theorem box_below (w : World) (v1 v2 v3 v4 : Value) (T : TypeId) : Below w.heap.size w (w.alloc (.cells #[v1, v2, v3, v4] T)) := (Below.refl w.heap.size w).alloc (Nat.le_refl _) _

set_option maxHeartbeats 1000000 in
theorem l2Good_any (v : Value) (k : Cs) (w : World) (h : CaseIn w v k) :
    Calls Try.prog 49 #[v] w fun e w' => e = .returned (.bool k.good) ∧ Below w.heap.size w w' := by
  obtain ⟨v1, v2, v3, v4, rfl, i1, i2, i3, i4⟩ := h
  have hb0 := box_below w v1 v2 v3 v4 27
  have B0 := Lib.hid (Box4.new w 27 v1 v2 v3 v4)
  have I1 := Lib.hid (i1.below hb0)
  have I2 := Lib.hid (i2.below hb0)
  have I3 := Lib.hid (i3.below hb0)
  have I4 := Lib.hid (i4.below hb0)
  have HB := Lib.hid hb0
  obtain ⟨A1, c1, rfl, hlc, hc, _⟩ := i1
  have hn : k.need.length ≤ maxLen := Nat.le_trans hlc hc
  have hn' := hn
  unfold maxLen at hn'
  clear i2 i3 i4 hb0 hlc hc
  by_cases h0 : k.need.length ≤ 8
  · have g0 : k.good = (rowB k.need k.need.length 20 && rowB k.setup k.need.length 99 && rowB k.unit k.need.length 9 && rowB k.hold k.need.length 9) := by simp [Cs.good, h0]
    have G0 := Lib.hid g0
    clear g0
    go_enter Try.func49, Try.ntmps49
    go_wp2_with fail
    refine (l2Row_any _ k.need _ 20 _ I1.out hn).mono ?_
    rintro e wq ⟨rfl, rfl⟩
    cases e1 : rowB k.need k.need.length 20 with
    | false =>
      have GF := Lib.hid (show k.good = false by rw [G0.out]; simp [e1])
      go_wp2
      go_ret
      exact ⟨ret_bool GF.out.symm, HB.out⟩
    | true =>
      go_wp2_with fail
      refine (l2Row_any _ k.setup _ 99 _ I2.out hn).mono ?_
      rintro e wq ⟨rfl, rfl⟩
      cases e2 : rowB k.setup k.need.length 99 with
      | false =>
        have GF := Lib.hid (show k.good = false by rw [G0.out]; simp [e2])
        go_wp2
        go_ret
        exact ⟨ret_bool GF.out.symm, HB.out⟩
      | true =>
        go_wp2_with fail
        refine (l2Row_any _ k.unit _ 9 _ I3.out hn).mono ?_
        rintro e wq ⟨rfl, rfl⟩
        cases e3 : rowB k.unit k.need.length 9 with
        | false =>
          have GF := Lib.hid (show k.good = false by rw [G0.out]; simp [e3])
          go_wp2
          go_ret
          exact ⟨ret_bool GF.out.symm, HB.out⟩
        | true =>
          go_wp2_with fail
          refine (l2Row_any _ k.hold _ 9 _ I4.out hn).mono ?_
          rintro e wq ⟨rfl, rfl⟩
          cases e4 : rowB k.hold k.need.length 9 with
          | false =>
            have GF := Lib.hid (show k.good = false by rw [G0.out]; simp [e4])
            go_wp2
            go_ret
            exact ⟨ret_bool GF.out.symm, HB.out⟩
          | true =>
            have GT := Lib.hid (show k.good = true by rw [G0.out]; simp [e1, e2, e3, e4])
            go_wp2
            go_ret
            exact ⟨ret_bool GT.out.symm, HB.out⟩
  · have GF := Lib.hid (show k.good = false by simp [Cs.good, h0])
    go_enter Try.func49, Try.ntmps49
    go_wp2_with fail
    go_ret
    exact ⟨ret_bool GF.out.symm, HB.out⟩

set_option maxHeartbeats 1000000 in
theorem implIsCase_any (v : Value) (k : Cs) (w : World) (h : CaseIn w v k) :
    Calls Try.prog 18 #[v] w fun e w' => e = .returned (.bool k.good) ∧ Below w.heap.size w w' := by
  obtain ⟨v1, v2, v3, v4, rfl, i1, i2, i3, i4⟩ := h
  have hb0 := box_below w v1 v2 v3 v4 27
  have B0 := Lib.hid (Box4.new w 27 v1 v2 v3 v4)
  have I1 := Lib.hid (i1.below hb0)
  have I2 := Lib.hid (i2.below hb0)
  have I3 := Lib.hid (i3.below hb0)
  have I4 := Lib.hid (i4.below hb0)
  have HB := Lib.hid hb0
  have HS : Hid (w.heap.size < (w.alloc (.cells #[v1, v2, v3, v4] 27)).heap.size) := by show _ < _; simp
  obtain ⟨A1, c1, rfl, hlc, hc, _⟩ := i1
  have hn : k.need.length ≤ maxLen := Nat.le_trans hlc hc
  have hn' := hn
  unfold maxLen at hn'
  clear i2 i3 i4 hb0 hlc hc
  by_cases h0 : k.need.length ≤ 8
  · have g0 : k.good = (rowB k.need k.need.length 20 && rowB k.setup k.need.length 99 && rowB k.unit k.need.length 9 && rowB k.hold k.need.length 9) := by simp [Cs.good, h0]
    have G0 := Lib.hid g0
    clear g0
    go_enter Try.func18, Try.ntmps18
    go_wp2_with fail
    refine (isRow_any _ k.need _ 20 _ I1.out hn).mono ?_
    rintro e w1 ⟨rfl, b1⟩
    have H1 := Lib.hid (below_tr HB.out b1 HB.out.size)
    replace HB := H1
    clear H1
    replace B0 := Lib.hid (B0.out.below b1 HS.out)
    replace HS := Lib.hid (Nat.lt_of_lt_of_le HS.out b1.size)
    replace I2 := Lib.hid (I2.out.below b1)
    replace I3 := Lib.hid (I3.out.below b1)
    replace I4 := Lib.hid (I4.out.below b1)
    have c2 := B0.out.cells.2.1
    clear b1
    cases e1 : rowB k.need k.need.length 20 with
    | false =>
      have GF := Lib.hid (show k.good = false by rw [G0.out]; simp [e1])
      go_wp2
      go_ret
      exact ⟨ret_bool GF.out.symm, HB.out⟩
    | true =>
      go_wp2_with fail
      clear c2
      refine (isRow_any _ k.setup _ 99 _ I2.out hn).mono ?_
      rintro e w2 ⟨rfl, b2⟩
      have H2 := Lib.hid (below_tr HB.out b2 HB.out.size)
      replace HB := H2
      clear H2
      replace B0 := Lib.hid (B0.out.below b2 HS.out)
      replace HS := Lib.hid (Nat.lt_of_lt_of_le HS.out b2.size)
      replace I3 := Lib.hid (I3.out.below b2)
      replace I4 := Lib.hid (I4.out.below b2)
      have c3 := B0.out.cells.2.2.1
      clear b2
      cases e2 : rowB k.setup k.need.length 99 with
      | false =>
        have GF := Lib.hid (show k.good = false by rw [G0.out]; simp [e2])
        go_wp2
        go_ret
        exact ⟨ret_bool GF.out.symm, HB.out⟩
      | true =>
        go_wp2_with fail
        clear c3
        refine (isRow_any _ k.unit _ 9 _ I3.out hn).mono ?_
        rintro e w3 ⟨rfl, b3⟩
        have H3 := Lib.hid (below_tr HB.out b3 HB.out.size)
        replace HB := H3
        clear H3
        replace B0 := Lib.hid (B0.out.below b3 HS.out)
        replace HS := Lib.hid (Nat.lt_of_lt_of_le HS.out b3.size)
        replace I4 := Lib.hid (I4.out.below b3)
        have c4 := B0.out.cells.2.2.2
        clear b3
        cases e3 : rowB k.unit k.need.length 9 with
        | false =>
          have GF := Lib.hid (show k.good = false by rw [G0.out]; simp [e3])
          go_wp2
          go_ret
          exact ⟨ret_bool GF.out.symm, HB.out⟩
        | true =>
          go_wp2_with fail
          clear c4
          refine (isRow_any _ k.hold _ 9 _ I4.out hn).mono ?_
          rintro e w4 ⟨rfl, b4⟩
          have H4 := Lib.hid (below_tr HB.out b4 HB.out.size)
          replace HB := H4
          clear H4
          replace B0 := Lib.hid (B0.out.below b4 HS.out)
          replace HS := Lib.hid (Nat.lt_of_lt_of_le HS.out b4.size)
          clear b4
          cases e4 : rowB k.hold k.need.length 9 with
          | false =>
            have GF := Lib.hid (show k.good = false by rw [G0.out]; simp [e4])
            go_wp2
            go_ret
            exact ⟨ret_bool GF.out.symm, HB.out⟩
          | true =>
            have GT := Lib.hid (show k.good = true by rw [G0.out]; simp [e1, e2, e3, e4])
            go_wp2
            go_ret
            exact ⟨ret_bool GT.out.symm, HB.out⟩
  · have GF := Lib.hid (show k.good = false by simp [Cs.good, h0])
    go_enter Try.func18, Try.ntmps18
    go_wp2_with fail
    go_ret
    exact ⟨ret_bool GF.out.symm, HB.out⟩

set_option maxHeartbeats 1000000 in
theorem specIsCase_any (v : Value) (k : Cs) (w : World) (h : CaseIn w v k) :
    Calls Try.prog 16 #[v] w fun e w' => e = .returned (.bool k.good) ∧ Below w.heap.size w w' := by
  obtain ⟨v1, v2, v3, v4, rfl, i1, i2, i3, i4⟩ := h
  have hb0 := box_below w v1 v2 v3 v4 27
  have HI := Lib.hid (l2Good_any (.agg #[v1, v2, v3, v4]) k _ ⟨v1, v2, v3, v4, rfl, i1.below hb0, i2.below hb0, i3.below hb0, i4.below hb0⟩)
  have HB := Lib.hid hb0
  clear i1 i2 i3 i4 hb0
  go_enter Try.func16, Try.ntmps16
  go_wp2_with fail
  refine HI.out.mono ?_
  rintro e w1 ⟨rfl, b1⟩
  have H1 := Lib.hid (below_tr HB.out b1 HB.out.size)
  clear b1
  go_wp2
  go_ret
  exact ⟨rfl, H1.out⟩

theorem isCase_same (k : Cs) : ∃ x : Value, (∃ b : Bool, x = .bool b) ∧
    (∀ v w, CaseIn w v k → Calls Try.prog 16 #[v] w (Ans x w)) ∧ (∀ v w, CaseIn w v k → Calls Try.prog 18 #[v] w (Ans x w)) :=
  ⟨_, ⟨k.good, rfl⟩, fun v w h => specIsCase_any v k w h, fun v w h => implIsCase_any v k w h⟩
end Go.Proofs.Ytkgmfbminnmpiaa
