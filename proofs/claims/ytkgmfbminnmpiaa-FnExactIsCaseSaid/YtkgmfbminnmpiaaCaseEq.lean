/- The contracts of toCase and eqCase. -/
import Derived.Test.YtkgmfbminnmpiaaCaseS
namespace Go.Proofs.Ytkgmfbminnmpiaa
open Go.RowKit
set_option linter.unusedVariables false

/-- A block of four cells. -/
def Box4 (w : World) (g : Nat) (T : TypeId) (v1 v2 v3 v4 : Value) : Prop := w.heap[g]? = some (.cells #[v1, v2, v3, v4] T (0, 0))
theorem Box4.below {w w' : World} {g B : Nat} {T : TypeId} {v1 v2 v3 v4 : Value} (h : Box4 w g T v1 v2 v3 v4) (hb : Below B w w') (hg : g < B) : Box4 w' g T v1 v2 v3 v4 := (hb.block g hg).trans h
theorem Box4.kept {w w' : World} {g lo hi : Nat} {T : TypeId} {v1 v2 v3 v4 : Value} (h : Box4 w g T v1 v2 v3 v4) (hk : Kept lo hi w w') (hg : g < lo ∨ hi ≤ g) : Box4 w' g T v1 v2 v3 v4 :=
  (hk.block g (Array.getElem?_eq_some_iff.1 h).1 hg).trans h
theorem Box4.cells {w : World} {g : Nat} {T : TypeId} {v1 v2 v3 v4 : Value} (h : Box4 w g T v1 v2 v3 v4) :
    w.cell? ⟨g, 0, none⟩ = some v1 ∧ w.cell? ⟨g, 1, none⟩ = some v2 ∧ w.cell? ⟨g, 2, none⟩ = some v3 ∧ w.cell? ⟨g, 3, none⟩ = some v4 :=
  ⟨cell_of_row w g 0 _ T (0, 0) h, cell_of_row w g 1 _ T (0, 0) h, cell_of_row w g 2 _ T (0, 0) h, cell_of_row w g 3 _ T (0, 0) h⟩
theorem Box4.frozen {w : World} {g : Nat} {T : TypeId} {v1 v2 v3 v4 : Value} (h : Box4 w g T v1 v2 v3 v4) (i : Nat) : w.frozen? ⟨g, i, none⟩ = false := by
  have h2 : w.heap[g]? = some (.cells #[v1, v2, v3, v4] T (0, 0)) := h
  simp [World.frozen?, h2]
theorem Box4.new (w : World) (T : TypeId) (v1 v2 v3 v4 : Value) : Box4 (w.alloc (.cells #[v1, v2, v3, v4] T)) w.heap.size T v1 v2 v3 v4 := heap_alloc_new w _
theorem Box4.set {w : World} {g : Nat} {T : TypeId} {v1 v2 v3 v4 : Value} (h : Box4 w g T v1 v2 v3 v4) (u : Value) :
    Box4 (w.setCell ⟨g, 0, none⟩ u) g T u v2 v3 v4 ∧ Box4 (w.setCell ⟨g, 1, none⟩ u) g T v1 u v3 v4 ∧ Box4 (w.setCell ⟨g, 2, none⟩ u) g T v1 v2 u v4 ∧ Box4 (w.setCell ⟨g, 3, none⟩ u) g T v1 v2 v3 u := by
  have h2 : w.heap[g]? = some (.cells #[v1, v2, v3, v4] T (0, 0)) := h
  exact ⟨heap_setCell_same w g 0 _ T u h2, heap_setCell_same w g 1 _ T u h2, heap_setCell_same w g 2 _ T u h2, heap_setCell_same w g 3 _ T u h2⟩

set_option maxHeartbeats 1000000 in
theorem eqCase_yes (x y : Value) (k : Cs) (w : World) (hx : CaseIn w x k) (hy : CaseIn w y k) :
    Calls Try.prog 19 #[x, y] w fun e w' => e = .returned (.bool true) ∧ Below w.heap.size w w' := by
  obtain ⟨x1, x2, x3, x4, rfl, a1, a2, a3, a4⟩ := hx
  obtain ⟨y1, y2, y3, y4, rfl, b1, b2, b3, b4⟩ := hy
  have hb0 := ((Below.refl w.heap.size w).alloc (Nat.le_refl _) (.cells #[x1, x2, x3, x4] 27)).alloc (by simp) (.cells #[y1, y2, y3, y4] 27)
  have X := (Box4.new w 27 x1 x2 x3 x4).below ((Below.refl (w.heap.size + 1) _).alloc (by simp) (.cells #[y1, y2, y3, y4] 27)) (by omega)
  have Y := Box4.new (w.alloc (.cells #[x1, x2, x3, x4] 27)) 27 y1 y2 y3 y4
  have hsz : (w.alloc (.cells #[x1, x2, x3, x4] 27)).heap.size = w.heap.size + 1 := by simp
  rw [hsz] at Y
  replace a1 := a1.below hb0
  replace a2 := a2.below hb0
  replace a3 := a3.below hb0
  replace a4 := a4.below hb0
  replace b1 := b1.below hb0
  replace b2 := b2.below hb0
  replace b3 := b3.below hb0
  replace b4 := b4.below hb0
  have HF : Hid (∀ wx, Drew ((w.alloc (.cells #[x1, x2, x3, x4] 27)).alloc (.cells #[y1, y2, y3, y4] 27)) wx → Below w.heap.size w wx ∧
      (wx.cell? ⟨w.heap.size, 1, none⟩ = some x2 ∧ wx.cell? ⟨w.heap.size, 2, none⟩ = some x3 ∧ wx.cell? ⟨w.heap.size, 3, none⟩ = some x4) ∧
      (wx.cell? ⟨w.heap.size + 1, 1, none⟩ = some y2 ∧ wx.cell? ⟨w.heap.size + 1, 2, none⟩ = some y3 ∧ wx.cell? ⟨w.heap.size + 1, 3, none⟩ = some y4) ∧
      (IntsIn wx x2 k.setup ∧ IntsIn wx x3 k.unit ∧ IntsIn wx x4 k.hold) ∧ IntsIn wx y2 k.setup ∧ IntsIn wx y3 k.unit ∧ IntsIn wx y4 k.hold) := by
    intro wx hd
    have hbx := hd.below ((w.alloc (.cells #[x1, x2, x3, x4] 27)).alloc (.cells #[y1, y2, y3, y4] 27)).heap.size
    have X2 := (X.below hbx (by simp; omega)).cells
    have Y2 := (Y.below hbx (by simp)).cells
    exact ⟨below_tr hb0 hbx (by simp; omega), X2.2, Y2.2, ⟨a2.below hbx, a3.below hbx, a4.below hbx⟩, b2.below hbx, b3.below hbx, b4.below hbx⟩
  have C1 := Lib.hid (eqIntS_yes x1 y1 k.need _ a1 b1)
  clear a1 a2 a3 a4 b1 b2 b3 b4 X Y hb0 hsz
  go_enter Try.func19, Try.ntmps19
  go_wp2_with fail
  refine C1.out.mono ?_
  rintro e w1 ⟨rfl, hd1⟩
  obtain ⟨_, ⟨p1, p2, p3⟩, ⟨q1, q2, q3⟩, ⟨i1, _⟩, j1, _⟩ := HF.out w1 hd1
  clear p2 p3 q2 q3 C1
  go_wp2_with fail
  refine (eqIntS_yes x2 y2 k.setup _ i1 j1).mono ?_
  rintro e w2 ⟨rfl, hd2⟩
  replace hd2 := hd1.trans hd2
  clear p1 q1 i1 j1 hd1
  obtain ⟨_, ⟨p1, p2, p3⟩, ⟨q1, q2, q3⟩, ⟨_, i1, _⟩, _, j1, _⟩ := HF.out w2 hd2
  clear p1 p3 q1 q3
  go_wp2_with fail
  refine (eqIntS_yes x3 y3 k.unit _ i1 j1).mono ?_
  rintro e w3 ⟨rfl, hd3⟩
  replace hd3 := hd2.trans hd3
  clear p2 q2 i1 j1 hd2
  obtain ⟨_, ⟨p1, p2, p3⟩, ⟨q1, q2, q3⟩, ⟨_, _, i1⟩, _, _, j1⟩ := HF.out w3 hd3
  clear p1 p2 q1 q2
  go_wp2_with fail
  refine (eqIntS_yes x4 y4 k.hold _ i1 j1).mono ?_
  rintro e w4 ⟨rfl, hd4⟩
  replace hd4 := hd3.trans hd4
  have HB := (HF.out w4 hd4).1
  clear p3 q3 i1 j1 hd3 HF
  go_wp2
  go_ret
  exact ⟨rfl, HB⟩
end Go.Proofs.Ytkgmfbminnmpiaa
