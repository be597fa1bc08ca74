/- The contract of toCase. -/
import Derived.Test.YtkgmfbminnmpiaaCaseEq
import Derived.Laws.Tables
namespace Go.Proofs.Ytkgmfbminnmpiaa
open Go.RowKit
set_option linter.unusedVariables false

/-- A Case's fields, one after the other, into a new Case. -/
structure ToMid (w : World) (v1 v2 v3 v4 u1 u2 u3 u4 : Value) (w' : World) : Prop where
  src : Box4 w' w.heap.size 24 v1 v2 v3 v4
  dst : Box4 w' (w.heap.size + 2) 27 u1 u2 u3 u4
  res : Box4 w' (w.heap.size + 1) 27 (.slice none 0 0) (.slice none 0 0) (.slice none 0 0) (.slice none 0 0)
  sz : w.heap.size + 3 ≤ w'.heap.size
  bl : Below w.heap.size w w'
theorem ToMid.step {w w1 w2 : World} {v1 v2 v3 v4 u1 u2 u3 u4 : Value} (h : ToMid w v1 v2 v3 v4 u1 u2 u3 u4 w1) (hb : Below w1.heap.size w1 w2) : ToMid w v1 v2 v3 v4 u1 u2 u3 u4 w2 := by
  have := h.sz
  exact ⟨h.src.below hb (by omega), h.dst.below hb (by omega), h.res.below hb (by omega), Nat.le_trans h.sz hb.size, below_tr h.bl hb (by omega)⟩
theorem ToMid.start (w : World) (v1 v2 v3 v4 : Value) : ToMid w v1 v2 v3 v4 (.slice none 0 0) (.slice none 0 0) (.slice none 0 0) (.slice none 0 0)
    (((w.alloc (.cells #[v1, v2, v3, v4] 24)).alloc (.cells #[(.slice none 0 0), (.slice none 0 0), (.slice none 0 0), (.slice none 0 0)] 27)).alloc (.cells #[(.slice none 0 0), (.slice none 0 0), (.slice none 0 0), (.slice none 0 0)] 27)) := by
  have s1 : (w.alloc (.cells #[v1, v2, v3, v4] 24)).heap.size = w.heap.size + 1 := by simp
  have s2 : ((w.alloc (.cells #[v1, v2, v3, v4] 24)).alloc (.cells #[(.slice none 0 0), (.slice none 0 0), (.slice none 0 0), (.slice none 0 0)] 27)).heap.size = w.heap.size + 2 := by simp
  have b2 := (Below.refl (w.heap.size + 1) (w.alloc (.cells #[v1, v2, v3, v4] 24))).alloc (by simp) (.cells #[(.slice none 0 0), (.slice none 0 0), (.slice none 0 0), (.slice none 0 0)] 27)
  have b3 := (Below.refl (w.heap.size + 2) ((w.alloc (.cells #[v1, v2, v3, v4] 24)).alloc (.cells #[(.slice none 0 0), (.slice none 0 0), (.slice none 0 0), (.slice none 0 0)] 27))).alloc (by simp) (.cells #[(.slice none 0 0), (.slice none 0 0), (.slice none 0 0), (.slice none 0 0)] 27)
  have n1 := Box4.new w 24 v1 v2 v3 v4
  have n2 := Box4.new (w.alloc (.cells #[v1, v2, v3, v4] 24)) 27 (.slice none 0 0) (.slice none 0 0) (.slice none 0 0) (.slice none 0 0)
  have n3 := Box4.new ((w.alloc (.cells #[v1, v2, v3, v4] 24)).alloc (.cells #[(.slice none 0 0), (.slice none 0 0), (.slice none 0 0), (.slice none 0 0)] 27)) 27 (.slice none 0 0) (.slice none 0 0) (.slice none 0 0) (.slice none 0 0)
  rw [s1] at n2
  rw [s2] at n3
  exact ⟨(n1.below b2 (by omega)).below b3 (by omega), n3, n2.below b3 (by omega), by simp, ((((Below.refl _ _).alloc (Nat.le_refl _) _).alloc (by simp) _).alloc (by simp; omega) _)⟩
theorem set_below {w : World} {b off : Nat} {u : Value} {B : Nat} (hb : B ≤ b) : Below B w (w.setCell ⟨b, off, none⟩ u) := (Below.refl B w).setCell (p := ⟨b, off, none⟩) hb u
theorem set_size (w : World) (b off : Nat) (u : Value) : w.heap.size ≤ (w.setCell ⟨b, off, none⟩ u).heap.size := (set_below (Nat.le_refl b)).size
theorem ToMid.set0 {w w1 : World} {v1 v2 v3 v4 u1 u2 u3 u4 : Value} (h : ToMid w v1 v2 v3 v4 u1 u2 u3 u4 w1) (u : Value) : ToMid w v1 v2 v3 v4 u u2 u3 u4 (w1.setCell ⟨w.heap.size + 2, 0, none⟩ u) :=
  ⟨h.src.below (set_below (B := w.heap.size + 2) (Nat.le_refl _)) (by omega), (h.dst.set u).1, h.res.below (set_below (B := w.heap.size + 2) (Nat.le_refl _)) (by omega), Nat.le_trans h.sz (set_size _ _ _ _), h.bl.trans (set_below (by omega))⟩
theorem ToMid.set1 {w w1 : World} {v1 v2 v3 v4 u1 u2 u3 u4 : Value} (h : ToMid w v1 v2 v3 v4 u1 u2 u3 u4 w1) (u : Value) : ToMid w v1 v2 v3 v4 u1 u u3 u4 (w1.setCell ⟨w.heap.size + 2, 1, none⟩ u) :=
  ⟨h.src.below (set_below (B := w.heap.size + 2) (Nat.le_refl _)) (by omega), (h.dst.set u).2.1, h.res.below (set_below (B := w.heap.size + 2) (Nat.le_refl _)) (by omega), Nat.le_trans h.sz (set_size _ _ _ _), h.bl.trans (set_below (by omega))⟩
theorem ToMid.set2 {w w1 : World} {v1 v2 v3 v4 u1 u2 u3 u4 : Value} (h : ToMid w v1 v2 v3 v4 u1 u2 u3 u4 w1) (u : Value) : ToMid w v1 v2 v3 v4 u1 u2 u u4 (w1.setCell ⟨w.heap.size + 2, 2, none⟩ u) :=
  ⟨h.src.below (set_below (B := w.heap.size + 2) (Nat.le_refl _)) (by omega), (h.dst.set u).2.2.1, h.res.below (set_below (B := w.heap.size + 2) (Nat.le_refl _)) (by omega), Nat.le_trans h.sz (set_size _ _ _ _), h.bl.trans (set_below (by omega))⟩
theorem ToMid.set3 {w w1 : World} {v1 v2 v3 v4 u1 u2 u3 u4 : Value} (h : ToMid w v1 v2 v3 v4 u1 u2 u3 u4 w1) (u : Value) : ToMid w v1 v2 v3 v4 u1 u2 u3 u (w1.setCell ⟨w.heap.size + 2, 3, none⟩ u) :=
  ⟨h.src.below (set_below (B := w.heap.size + 2) (Nat.le_refl _)) (by omega), (h.dst.set u).2.2.2, h.res.below (set_below (B := w.heap.size + 2) (Nat.le_refl _)) (by omega), Nat.le_trans h.sz (set_size _ _ _ _), h.bl.trans (set_below (by omega))⟩

theorem own_on {ws w' : World} {lo hi b off : Nat} {x u : Value} {l : List Int} (h : OwnInts ws lo hi u l) (hb : Below ws.heap.size ws w') (h1 : b < lo) (h2 : hi ≤ ws.heap.size) : OwnInts (w'.setCell ⟨b, off, none⟩ x) lo hi u l :=
  (h.below hb h2).kept (Kept.set (Nat.le_refl _) (Nat.lt_succ_self b) x) (.inr h1)

/-- Four stores, one a cell. -/
def set4 (w : World) (g : Nat) (u1 u2 u3 u4 : Value) : World := (((w.setCell ⟨g, 0, none⟩ u1).setCell ⟨g, 1, none⟩ u2).setCell ⟨g, 2, none⟩ u3).setCell ⟨g, 3, none⟩ u4
theorem Box4.set4 {w : World} {g : Nat} {T : TypeId} {o1 o2 o3 o4 : Value} (h : Box4 w g T o1 o2 o3 o4) (u1 u2 u3 u4 : Value) : Box4 (set4 w g u1 u2 u3 u4) g T u1 u2 u3 u4 :=
  ((((h.set u1).1.set u2).2.1.set u3).2.2.1.set u4).2.2.2
theorem Kept.set4 (w : World) (g : Nat) (u1 u2 u3 u4 : Value) : Kept g (g + 1) w (set4 w g u1 u2 u3 u4) :=
  (((Kept.set (Nat.le_refl _) (Nat.lt_succ_self _) u1).trans (Kept.set (Nat.le_refl _) (Nat.lt_succ_self _) u2)).trans (Kept.set (Nat.le_refl _) (Nat.lt_succ_self _) u3)).trans (Kept.set (Nat.le_refl _) (Nat.lt_succ_self _) u4)

set_option maxHeartbeats 1000000 in
theorem toCase_any (v : Value) (k : Cs) (w : World) (h : CaseIn w v k) (n1 : k.need.length ≤ 1048576) (n2 : k.setup.length ≤ 1048576) (n3 : k.unit.length ≤ 1048576) (n4 : k.hold.length ≤ 1048576) :
    Calls Try.prog 17 #[v] w fun e w' => ∃ v', e = .returned v' ∧ OwnCase w' w.heap.size w'.heap.size v' k ∧ Below w.heap.size w w' := by
  obtain ⟨v1, v2, v3, v4, rfl, i1, i2, i3, i4⟩ := h
  have M0 := Lib.hid (ToMid.start w v1 v2 v3 v4)
  have I1 := Lib.hid i1
  have I2 := Lib.hid i2
  have I3 := Lib.hid i3
  have I4 := Lib.hid i4
  clear i1 i2 i3 i4
  go_enter Try.func17, Try.ntmps17
  go_wp2_with fail
  refine (toIntS_any v1 _ _ (I1.out.below M0.out.bl) n1).mono ?_
  rintro e w1 ⟨u1, rfl, o1, b1⟩
  obtain ⟨A1, r1, rfl, g1, G1⟩ := o1.form
  clear g1 G1
  have m1 := M0.out.step b1
  have s1 := m1.set0 (.slice A1 k.need.length r1)
  have O1 := Lib.hid (o1.kept (Kept.set (b := w.heap.size + 2) (off := 0) (hi := w.heap.size + 3) (Nat.le_refl _) (by omega) (.slice A1 k.need.length r1)) (.inr M0.out.sz))
  have HS1 := Lib.hid (set_size w1 (w.heap.size + 2) 0 (.slice A1 k.need.length r1))
  have HB1 := Lib.hid b1
  have c1 := m1.dst.cells.1
  have f1 := m1.dst.frozen 0
  have d1 := s1.src.cells.2.1
  have M1 := Lib.hid s1
  clear m1 s1 o1 b1
  go_wp2_with fail
  clear c1 f1 d1
  refine (toIntS_any v2 _ _ (I2.out.below M1.out.bl) n2).mono ?_
  rintro e w2 ⟨u2, rfl, o2, b2⟩
  obtain ⟨A2, r2, rfl, g2, G2⟩ := o2.form
  clear g2 G2
  have m2 := M1.out.step b2
  have s2 := m2.set1 (.slice A2 k.setup.length r2)
  have O2 := Lib.hid (o2.kept (Kept.set (b := w.heap.size + 2) (off := 1) (hi := w.heap.size + 3) (Nat.le_refl _) (by omega) (.slice A2 k.setup.length r2)) (.inr M1.out.sz))
  have HS2 := Lib.hid (set_size w2 (w.heap.size + 2) 1 (.slice A2 k.setup.length r2))
  have HB2 := Lib.hid b2
  have c2 := m2.dst.cells.2.1
  have f2 := m2.dst.frozen 1
  have d2 := s2.src.cells.2.2.1
  have M2 := Lib.hid s2
  clear m2 s2 o2 b2
  go_wp2_with fail
  clear c2 f2 d2
  refine (toIntS_any v3 _ _ (I3.out.below M2.out.bl) n3).mono ?_
  rintro e w3 ⟨u3, rfl, o3, b3⟩
  obtain ⟨A3, r3, rfl, g3, G3⟩ := o3.form
  clear g3 G3
  have m3 := M2.out.step b3
  have s3 := m3.set2 (.slice A3 k.unit.length r3)
  have O3 := Lib.hid (o3.kept (Kept.set (b := w.heap.size + 2) (off := 2) (hi := w.heap.size + 3) (Nat.le_refl _) (by omega) (.slice A3 k.unit.length r3)) (.inr M2.out.sz))
  have HS3 := Lib.hid (set_size w3 (w.heap.size + 2) 2 (.slice A3 k.unit.length r3))
  have HB3 := Lib.hid b3
  have c3 := m3.dst.cells.2.2.1
  have f3 := m3.dst.frozen 2
  have d3 := s3.src.cells.2.2.2
  have M3 := Lib.hid s3
  clear m3 s3 o3 b3
  go_wp2_with fail
  clear c3 f3 d3
  refine (toIntS_any v4 _ _ (I4.out.below M3.out.bl) n4).mono ?_
  rintro e w4 ⟨u4, rfl, o4, b4⟩
  obtain ⟨A4, r4, rfl, g4, G4⟩ := o4.form
  clear g4 G4
  have m4 := M3.out.step b4
  have s4 := m4.set3 (.slice A4 k.hold.length r4)
  have O4 := Lib.hid (o4.kept (Kept.set (b := w.heap.size + 2) (off := 3) (hi := w.heap.size + 3) (Nat.le_refl _) (by omega) (.slice A4 k.hold.length r4)) (.inr M3.out.sz))
  have HS4 := Lib.hid (set_size w4 (w.heap.size + 2) 3 (.slice A4 k.hold.length r4))
  have HB4 := Lib.hid b4
  have c4 := m4.dst.cells.2.2.2
  have f4 := m4.dst.frozen 3
  obtain ⟨l1, l2, l3, l4⟩ := s4.dst.cells
  obtain ⟨r1', r2', r3', r4'⟩ := s4.res.cells
  have f0' := s4.res.frozen 0
  have f1' := s4.res.frozen 1
  have f2' := s4.res.frozen 2
  have f3' := s4.res.frozen 3
  have M4 := Lib.hid s4
  clear m4 s4 o4 b4
  go_wp2
  have R5 := M4.out.res.set4 (.slice A1 k.need.length r1) (.slice A2 k.setup.length r2) (.slice A3 k.unit.length r3) (.slice A4 k.hold.length r4)
  have K5 := Kept.set4 (w4.setCell ⟨w.heap.size + 2, 3, none⟩ (.slice A4 k.hold.length r4)) (w.heap.size + 1) (.slice A1 k.need.length r1) (.slice A2 k.setup.length r2) (.slice A3 k.unit.length r3) (.slice A4 k.hold.length r4)
  obtain ⟨q1, q2, q3, q4⟩ := R5.cells
  unfold set4 at q1 q2 q3 q4
  refine bodyPost_ret (v := .agg #[.slice A1 k.need.length r1, .slice A2 k.setup.length r2, .slice A3 k.unit.length r3, .slice A4 k.hold.length r4]) ?_ rfl ⟨_, rfl, ?_, ?_⟩
  · simp [results, Try.results17, go_sem, q1, q2, q3, q4]
  · have z0 : (((w.alloc (.cells #[v1, v2, v3, v4] 24)).alloc (.cells #[.slice none 0 0, .slice none 0 0, .slice none 0 0, .slice none 0 0] 27)).alloc (.cells #[.slice none 0 0, .slice none 0 0, .slice none 0 0, .slice none 0 0] 27)).heap.size = w.heap.size + 3 := by simp
    have y1 := HS1.out
    have y2 := HS2.out
    have y3 := HS3.out
    have y4 := HS4.out
    have x1 := HB1.out.size
    have x2 := HB2.out.size
    have x3 := HB3.out.size
    have x4 := HB4.out.size
    have x5 := K5.size
    have p1 := O1.out
    have p2 := O2.out
    have p3 := O3.out
    have p4 := O4.out
    rw [z0] at p1 x1
    have p1' := ((own_on (b := w.heap.size + 2) (off := 3) (x := .slice A4 k.hold.length r4) (own_on (b := w.heap.size + 2) (off := 2) (x := .slice A3 k.unit.length r3) (own_on (b := w.heap.size + 2) (off := 1) (x := .slice A2 k.setup.length r2) p1 HB2.out (by omega) (by omega)) HB3.out (by omega) (by omega)) HB4.out (by omega) (by omega)).kept K5 (.inr (by omega))).wider (lo' := w.heap.size) (by omega) (Nat.le_refl _)
    have p2' := ((own_on (b := w.heap.size + 2) (off := 3) (x := .slice A4 k.hold.length r4) (own_on (b := w.heap.size + 2) (off := 2) (x := .slice A3 k.unit.length r3) p2 HB3.out (by omega) (by omega)) HB4.out (by omega) (by omega)).kept K5 (.inr (by omega))).wider (lo' := w1.heap.size) (by omega) (Nat.le_refl _)
    have p3' := ((own_on (b := w.heap.size + 2) (off := 3) (x := .slice A4 k.hold.length r4) p3 HB4.out (by omega) (by omega)).kept K5 (.inr (by omega))).wider (lo' := w2.heap.size) (by omega) (Nat.le_refl _)
    have p4' := (p4.kept K5 (.inr (by omega))).wider (lo' := w3.heap.size) (hi' := (set4 (w4.setCell ⟨w.heap.size + 2, 3, none⟩ (.slice A4 k.hold.length r4)) (w.heap.size + 1) (.slice A1 k.need.length r1) (.slice A2 k.setup.length r2) (.slice A3 k.unit.length r3) (.slice A4 k.hold.length r4)).heap.size) (by omega) (by omega)
    exact ⟨_, _, _, _, w1.heap.size, w2.heap.size, w3.heap.size, rfl, by omega, by omega, by omega, Nat.le_trans (show w3.heap.size ≤ w4.heap.size by omega) (Nat.le_trans y4 x5), p1', p2', p3', p4'⟩
  · exact M4.out.bl.trans (K5.below (by omega) (by have := M4.out.sz; omega))
end Go.Proofs.Ytkgmfbminnmpiaa
