/- The contracts of markCase and heldCase. -/
import Derived.Test.YtkgmfbminnmpiaaCaseEq
namespace Go.Proofs.Ytkgmfbminnmpiaa
open Go.RowKit
set_option linter.unusedVariables false

/-- The marks of a Case. -/
def cmarks (k0 : Int) (n1 n2 n3 n4 : Nat) : Cs := ⟨imarks k0 n1, imarks (k0 + n1) n2, imarks (k0 + n1 + n2) n3, imarks (k0 + n1 + n2 + n3) n4⟩
def Cs.marks (k0 : Int) (k : Cs) : Cs := cmarks k0 k.need.length k.setup.length k.unit.length k.hold.length
def Cs.tot (k : Cs) : Int := k.need.length + k.setup.length + k.unit.length + k.hold.length

set_option maxHeartbeats 1000000 in
theorem markCase_any (v : Value) (k : Cs) (k0 : Int) (lo hi : Nat) (w : World) (h : OwnCase w lo hi v k) (hhi : hi ≤ w.heap.size) (hk0 : 0 ≤ k0) (hk1 : k0 ≤ 549755813888) (n1 : k.need.length ≤ 1048576) (n2 : k.setup.length ≤ 1048576) (n3 : k.unit.length ≤ 1048576) (n4 : k.hold.length ≤ 1048576) :
    Calls Try.prog 24 #[v, .int .i64 k0] w fun e w' => e = .returned (.int .i64 (k0 + k.tot)) ∧ OwnCase w' lo hi v (k.marks k0) ∧ Kept lo hi w w' := by
  obtain ⟨v1, v2, v3, v4, m1, m2, m3, rfl, e1, e2, e3, e4, o1, o2, o3, o4⟩ := h
  have hb0 := (Below.refl w.heap.size w).alloc (Nat.le_refl _) (.cells #[v1, v2, v3, v4] 27)
  have K0 : Hid (Kept lo hi w (w.alloc (.cells #[v1, v2, v3, v4] 27))) := Kept.of_below hb0
  have B0 := Lib.hid (Box4.new w 27 v1 v2 v3 v4)
  have O1 := Lib.hid (o1.below hb0 (by omega))
  have O2 := Lib.hid (o2.below hb0 (by omega))
  have O3 := Lib.hid (o3.below hb0 (by omega))
  have O4 := Lib.hid (o4.below hb0 (by omega))
  have HT : Hid (k0 + k.tot = k0 + k.need.length + k.setup.length + k.unit.length + k.hold.length) := by unfold Cs.tot; show _ = _; omega
  clear o1 o2 o3 o4 hb0
  go_enter Try.func24, Try.ntmps24
  go_wp2_with fail
  refine (markIntS_any v1 k.need k0 lo m1 _ O1.out hk0 (by omega) (by omega)).mono ?_
  rintro e w1 ⟨rfl, P1, K1⟩
  replace K0 := Lib.hid (K0.out.trans (K1.wider (Nat.le_refl _) (by omega)))
  replace B0 := Lib.hid (B0.out.kept K1 (.inr (by omega)))
  replace O2 := Lib.hid (O2.out.kept K1 (.inr (Nat.le_refl _)))
  replace O3 := Lib.hid (O3.out.kept K1 (.inr (by omega)))
  replace O4 := Lib.hid (O4.out.kept K1 (.inr (by omega)))
  have Q1 := Lib.hid P1
  have c := B0.out.cells.2.1
  clear P1 K1 O1
  go_wp2_with fail
  clear c
  refine (markIntS_any v2 k.setup _ m1 m2 _ O2.out (by omega) (by omega) (by omega)).mono ?_
  rintro e w2 ⟨rfl, P2, K2⟩
  replace K0 := Lib.hid (K0.out.trans (K2.wider (by omega) (by omega)))
  replace B0 := Lib.hid (B0.out.kept K2 (.inr (by omega)))
  replace Q1 := Lib.hid (Q1.out.kept K2 (.inl (Nat.le_refl _)))
  replace O3 := Lib.hid (O3.out.kept K2 (.inr (Nat.le_refl _)))
  replace O4 := Lib.hid (O4.out.kept K2 (.inr (by omega)))
  have Q2 := Lib.hid P2
  have c := B0.out.cells.2.2.1
  clear P2 K2 O2
  go_wp2_with fail
  clear c
  refine (markIntS_any v3 k.unit _ m2 m3 _ O3.out (by omega) (by omega) (by omega)).mono ?_
  rintro e w3 ⟨rfl, P3, K3⟩
  replace K0 := Lib.hid (K0.out.trans (K3.wider (by omega) (by omega)))
  replace B0 := Lib.hid (B0.out.kept K3 (.inr (by omega)))
  replace Q1 := Lib.hid (Q1.out.kept K3 (.inl (by omega)))
  replace Q2 := Lib.hid (Q2.out.kept K3 (.inl (Nat.le_refl _)))
  replace O4 := Lib.hid (O4.out.kept K3 (.inr (Nat.le_refl _)))
  have Q3 := Lib.hid P3
  have c := B0.out.cells.2.2.2
  clear P3 K3 O3
  go_wp2_with fail
  clear c
  refine (markIntS_any v4 k.hold _ m3 hi _ O4.out (by omega) (by omega) (by omega)).mono ?_
  rintro e w4 ⟨rfl, P4, K4⟩
  replace K0 := Lib.hid (K0.out.trans (K4.wider (by omega) (by omega)))
  replace Q1 := Lib.hid (Q1.out.kept K4 (.inl (by omega)))
  replace Q2 := Lib.hid (Q2.out.kept K4 (.inl (by omega)))
  replace Q3 := Lib.hid (Q3.out.kept K4 (.inl (Nat.le_refl _)))
  have Q4 := Lib.hid P4
  clear P4 K4 O4 B0
  go_wp2
  rw [HT.out]
  go_ret
  exact ⟨rfl, ⟨v1, v2, v3, v4, m1, m2, m3, rfl, e1, e2, e3, e4, Q1.out, Q2.out, Q3.out, Q4.out⟩, K0.out⟩

set_option maxHeartbeats 1000000 in
theorem heldCase_any (v : Value) (k0 : Int) (n1 n2 n3 n4 : Nat) (w : World) (h : CaseIn w v (cmarks k0 n1 n2 n3 n4)) (hk0 : 0 ≤ k0) (hk1 : k0 ≤ 549755813888) (l1 : n1 ≤ 1048576) (l2 : n2 ≤ 1048576) (l3 : n3 ≤ 1048576) (l4 : n4 ≤ 1048576) :
    Calls Try.prog 45 #[v, .int .i64 k0] w fun e w' => e = .returned (.int .i64 (k0 + n1 + n2 + n3 + n4)) ∧ Below w.heap.size w w' := by
  obtain ⟨v1, v2, v3, v4, rfl, i1, i2, i3, i4⟩ := h
  simp only [cmarks] at i1 i2 i3 i4
  have hb0 := (Below.refl w.heap.size w).alloc (Nat.le_refl _) (.cells #[v1, v2, v3, v4] 27)
  have B0 := Lib.hid (Box4.new w 27 v1 v2 v3 v4)
  have I1 := Lib.hid (i1.below hb0)
  have I2 := Lib.hid (i2.below hb0)
  have I3 := Lib.hid (i3.below hb0)
  have I4 := Lib.hid (i4.below hb0)
  have HB : Hid (∀ wx, Drew (w.alloc (.cells #[v1, v2, v3, v4] 27)) wx → Below w.heap.size w wx) := fun wx hd => hb0.trans (hd.below _)
  have D0 := Lib.hid (Drew.refl (w.alloc (.cells #[v1, v2, v3, v4] 27)))
  clear i1 i2 i3 i4 hb0
  go_enter Try.func45, Try.ntmps45
  go_wp2_with fail
  refine (heldIntS_any v1 n1 k0 _ I1.out (by omega) (by omega) (by omega)).mono ?_
  rintro e w1 ⟨rfl, hd⟩
  replace D0 := Lib.hid (D0.out.trans hd)
  clear hd
  have c := (B0.out.below (D0.out.below (w.heap.size + 1)) (by omega)).cells.2.1
  go_wp2_with fail
  clear c
  refine (heldIntS_any v2 n2 _ _ (I2.out.below (D0.out.below _)) (by omega) (by omega) (by omega)).mono ?_
  rintro e w2 ⟨rfl, hd⟩
  replace D0 := Lib.hid (D0.out.trans hd)
  clear hd
  have c := (B0.out.below (D0.out.below (w.heap.size + 1)) (by omega)).cells.2.2.1
  go_wp2_with fail
  clear c
  refine (heldIntS_any v3 n3 _ _ (I3.out.below (D0.out.below _)) (by omega) (by omega) (by omega)).mono ?_
  rintro e w3 ⟨rfl, hd⟩
  replace D0 := Lib.hid (D0.out.trans hd)
  clear hd
  have c := (B0.out.below (D0.out.below (w.heap.size + 1)) (by omega)).cells.2.2.2
  go_wp2_with fail
  clear c
  refine (heldIntS_any v4 n4 _ _ (I4.out.below (D0.out.below _)) (by omega) (by omega) (by omega)).mono ?_
  rintro e w4 ⟨rfl, hd⟩
  replace D0 := Lib.hid (D0.out.trans hd)
  clear hd
  go_wp2
  go_ret
  exact ⟨rfl, HB.out _ D0.out⟩
end Go.Proofs.Ytkgmfbminnmpiaa
