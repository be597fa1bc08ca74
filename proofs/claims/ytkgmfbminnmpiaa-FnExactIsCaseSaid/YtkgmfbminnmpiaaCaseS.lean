/- Contracts of the laws' helpers over Cases: szCase, toCase, eqCase, markCase, heldCase. -/
import Derived.Test.YtkgmfbminnmpiaaIntS
import Derived.Test.YtkgmfbminnmpiaaCaseIn
namespace Go.Proofs.Ytkgmfbminnmpiaa
open Go.RowKit
set_option linter.unusedVariables false

/-- What is left behind a Case: -1 or the rest. -/
def szC (left : Int) (k : Cs) : Int :=
  if left - k.need.length < 0 then -1 else if left - k.need.length - k.setup.length < 0 then -1
  else if left - k.need.length - k.setup.length - k.unit.length < 0 then -1 else if left - k.need.length - k.setup.length - k.unit.length - k.hold.length < 0 then -1
  else left - k.need.length - k.setup.length - k.unit.length - k.hold.length
theorem szC_no {left : Int} {k : Cs} (h : ¬ szC left k < 0) : szC left k = left - k.need.length - k.setup.length - k.unit.length - k.hold.length ∧ 0 ≤ szC left k := by
  unfold szC at *
  split at h
  · omega
  split at h
  · omega
  split at h
  · omega
  split at h
  · omega
  · rename_i h1 h2 h3 h4
    rw [if_neg h1, if_neg h2, if_neg h3, if_neg h4]
    omega

set_option maxHeartbeats 1000000 in
theorem szCase_any (v : Value) (k : Cs) (left : Int) (w : World) (h : CaseIn w v k) (h0 : 0 ≤ left) (h1 : left ≤ 1048576) :
    Calls Try.prog 15 #[v, .int .i64 left] w fun e w' => e = .returned (.int .i64 (szC left k)) ∧ Below w.heap.size w w' := by
  obtain ⟨v1, v2, v3, v4, rfl, i1, i2, i3, i4⟩ := h
  have hb := (Below.refl w.heap.size w).alloc (Nat.le_refl _) (.cells #[v1, v2, v3, v4] 24)
  have H1 := Lib.hid (i1.below hb)
  have H2 := Lib.hid (i2.below hb)
  have H3 := Lib.hid (i3.below hb)
  have H4 := Lib.hid (i4.below hb)
  have HB := Lib.hid hb
  clear i1 i2 i3 i4 hb
  unfold szC
  by_cases n1 : left - k.need.length < 0
  · rw [if_pos n1]
    have c1 := szIntS_any v1 k.need left _ H1.out h0 h1
    rw [if_pos n1] at c1
    have C1 := Lib.hid c1
    clear c1
    go_enter Try.func15, Try.ntmps15
    go_wp2_with fail
    refine C1.out.mono ?_
    rintro e w' ⟨rfl, rfl⟩
    go_wp2
    go_ret
    exact ⟨rfl, HB.out⟩
  · rw [if_neg n1]
    have c1 := szIntS_any v1 k.need left _ H1.out h0 h1
    rw [if_neg n1] at c1
    have C1 := Lib.hid c1
    clear c1
    generalize hl1 : left - (k.need.length : Int) = left1 at *
    by_cases n2 : left1 - k.setup.length < 0
    · rw [if_pos n2]
      have c2 := szIntS_any v2 k.setup left1 _ H2.out (by omega) (by omega)
      rw [if_pos n2] at c2
      have C2 := Lib.hid c2
      clear c2
      go_enter Try.func15, Try.ntmps15
      go_wp2_with fail
      refine C1.out.mono ?_
      rintro e w' ⟨rfl, rfl⟩
      go_wp2_with fail
      refine C2.out.mono ?_
      rintro e w' ⟨rfl, rfl⟩
      go_wp2
      go_ret
      exact ⟨rfl, HB.out⟩
    · rw [if_neg n2]
      have c2 := szIntS_any v2 k.setup left1 _ H2.out (by omega) (by omega)
      rw [if_neg n2] at c2
      have C2 := Lib.hid c2
      clear c2
      generalize hl2 : left1 - (k.setup.length : Int) = left2 at *
      by_cases n3 : left2 - k.unit.length < 0
      · rw [if_pos n3]
        have c3 := szIntS_any v3 k.unit left2 _ H3.out (by omega) (by omega)
        rw [if_pos n3] at c3
        have C3 := Lib.hid c3
        clear c3
        go_enter Try.func15, Try.ntmps15
        go_wp2_with fail
        refine C1.out.mono ?_
        rintro e w' ⟨rfl, rfl⟩
        go_wp2_with fail
        refine C2.out.mono ?_
        rintro e w' ⟨rfl, rfl⟩
        go_wp2_with fail
        refine C3.out.mono ?_
        rintro e w' ⟨rfl, rfl⟩
        go_wp2
        go_ret
        exact ⟨rfl, HB.out⟩
      · rw [if_neg n3]
        have c3 := szIntS_any v3 k.unit left2 _ H3.out (by omega) (by omega)
        rw [if_neg n3] at c3
        have C3 := Lib.hid c3
        clear c3
        generalize hl3 : left2 - (k.unit.length : Int) = left3 at *
        have C4 := Lib.hid (szIntS_any v4 k.hold left3 _ H4.out (by omega) (by omega))
        by_cases n4 : left3 - k.hold.length < 0
        · rw [if_pos n4] at C4 ⊢
          go_enter Try.func15, Try.ntmps15
          go_wp2_with fail
          refine C1.out.mono ?_
          rintro e w' ⟨rfl, rfl⟩
          go_wp2_with fail
          refine C2.out.mono ?_
          rintro e w' ⟨rfl, rfl⟩
          go_wp2_with fail
          refine C3.out.mono ?_
          rintro e w' ⟨rfl, rfl⟩
          go_wp2_with fail
          refine C4.out.mono ?_
          rintro e w' ⟨rfl, rfl⟩
          go_wp2
          go_ret
          exact ⟨rfl, HB.out⟩
        · rw [if_neg n4] at C4 ⊢
          go_enter Try.func15, Try.ntmps15
          go_wp2_with fail
          refine C1.out.mono ?_
          rintro e w' ⟨rfl, rfl⟩
          go_wp2_with fail
          refine C2.out.mono ?_
          rintro e w' ⟨rfl, rfl⟩
          go_wp2_with fail
          refine C3.out.mono ?_
          rintro e w' ⟨rfl, rfl⟩
          go_wp2_with fail
          refine C4.out.mono ?_
          rintro e w' ⟨rfl, rfl⟩
          go_wp2
          go_ret
          exact ⟨rfl, HB.out⟩

theorem load_case {w : World} {g : Nat} {v1 v2 v3 v4 : Value} (h : w.heap[g]? = some (.cells #[v1, v2, v3, v4] 27 (0, 0))) :
    (Instr.loadAt 27 (.pointer (some ⟨g, 0, none⟩))).run Try.prog w = .ok (.agg #[v1, v2, v3, v4]) w := by
  simp only [Instr.loadAt, Instr.sureAddr, Sem.run_bind, Sem.run_pure, Result.andThen_ok]
  exact run_loadVar_row w g _ _ _ (0, 0) _ h Try.underlying27 rfl (by kernel_rfl)
theorem load_case0 {w : World} {g : Nat} {v1 v2 v3 v4 : Value} (h : w.heap[g]? = some (.cells #[v1, v2, v3, v4] 24 (0, 0))) :
    (Instr.loadAt 24 (.pointer (some ⟨g, 0, none⟩))).run Try.prog w = .ok (.agg #[v1, v2, v3, v4]) w := by
  simp only [Instr.loadAt, Instr.sureAddr, Sem.run_bind, Sem.run_pure, Result.andThen_ok]
  exact run_loadVar_row w g _ _ _ (0, 0) _ h Try.underlying24 rfl (by kernel_rfl)
end Go.Proofs.Ytkgmfbminnmpiaa
