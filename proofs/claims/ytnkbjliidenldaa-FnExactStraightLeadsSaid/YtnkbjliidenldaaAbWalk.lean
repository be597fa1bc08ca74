/- What a law's walk keeps: boxes, rows; a Case that came in. -/
import Derived.Test.YtnkbjliidenldaaAbStock
namespace Go.Proofs.Ytnkbjliidenldaa.Ab
open Go Go.RowKit
set_option linter.unusedVariables false
set_option linter.unusedSimpArgs false

/-- A block with a few known values. -/
def BoxA (m : Mem) (id : Nat) (vs : List Value) : Prop := ∃ e, m[id]? = some ⟨.own, e, vs⟩
theorem BoxA.lt {m : Mem} {id : Nat} {vs : List Value} (h : BoxA m id vs) : id < m.length := by
  obtain ⟨_, h⟩ := h
  exact (List.getElem?_eq_some_iff.1 h).1
theorem BoxA.ext {m : Mem} {id : Nat} {vs : List Value} (h : BoxA m id vs) (new : Mem) : BoxA (m ++ new) id vs := by
  have hl := h.lt
  obtain ⟨e, h⟩ := h
  exact ⟨e, by rw [List.getElem?_append_left hl]; exact h⟩
theorem BoxA.other {m : Mem} {id id' : Nat} {vs : List Value} {k0 : Int} {n : Nat} (h : BoxA m id' vs) (hne : id ≠ id') : BoxA (markR m id k0 n) id' vs := by
  obtain ⟨e, h⟩ := h
  exact ⟨e, by unfold markR; rw [List.getElem?_set_ne hne]; exact h⟩
theorem BoxA.here (m : Mem) (e : TypeId) (vs : List Value) {id : Nat} (h : id = m.length) : BoxA (m ++ [⟨.own, e, vs⟩]) id vs := ⟨e, by rw [h]; simp⟩
theorem BoxA.ld4 {m : Mem} {id : Nat} {a b c d : Value} (h : BoxA m id [a, b, c, d]) : ldA m (some 4) (.pointer (some ⟨id, 0, none⟩)) = some (.agg #[a, b, c, d]) := by
  obtain ⟨e, h⟩ := h
  simp [ldA, rdn, rdc, h]
theorem ext_2_0 (a b : Value) : extA 0 (.tuple #[a, b]) = some a := rfl
theorem ext_2_1 (a b : Value) : extA 1 (.tuple #[a, b]) = some b := rfl
theorem ext_3_0 (a b c : Value) : extA 0 (.tuple #[a, b, c]) = some a := rfl
theorem ext_3_1 (a b c : Value) : extA 1 (.tuple #[a, b, c]) = some b := rfl
theorem ext_3_2 (a b c : Value) : extA 2 (.tuple #[a, b, c]) = some c := rfl
theorem ext_5_0 (a b c d e : Value) : extA 0 (.tuple #[a, b, c, d, e]) = some a := rfl
theorem ext_5_1 (a b c d e : Value) : extA 1 (.tuple #[a, b, c, d, e]) = some b := rfl
theorem ext_5_2 (a b c d e : Value) : extA 2 (.tuple #[a, b, c, d, e]) = some c := rfl
theorem ext_5_3 (a b c d e : Value) : extA 3 (.tuple #[a, b, c, d, e]) = some d := rfl
theorem ext_5_4 (a b c d e : Value) : extA 4 (.tuple #[a, b, c, d, e]) = some e := rfl
theorem ext_6_0 (a b c d e f : Value) : extA 0 (.tuple #[a, b, c, d, e, f]) = some a := rfl
theorem ext_6_1 (a b c d e f : Value) : extA 1 (.tuple #[a, b, c, d, e, f]) = some b := rfl
theorem ext_6_2 (a b c d e f : Value) : extA 2 (.tuple #[a, b, c, d, e, f]) = some c := rfl
theorem ext_6_3 (a b c d e f : Value) : extA 3 (.tuple #[a, b, c, d, e, f]) = some d := rfl
theorem ext_6_4 (a b c d e f : Value) : extA 4 (.tuple #[a, b, c, d, e, f]) = some e := rfl
theorem ext_6_5 (a b c d e f : Value) : extA 5 (.tuple #[a, b, c, d, e, f]) = some f := rfl
theorem ext_4_0 (a b c d : Value) : extA 0 (.tuple #[a, b, c, d]) = some a := rfl
theorem ext_4_1 (a b c d : Value) : extA 1 (.tuple #[a, b, c, d]) = some b := rfl
theorem ext_4_2 (a b c d : Value) : extA 2 (.tuple #[a, b, c, d]) = some c := rfl
theorem ext_4_3 (a b c d : Value) : extA 3 (.tuple #[a, b, c, d]) = some d := rfl

theorem IntsIn.four {W : World} {v : Value} {k : Cs} (h : CaseIn W v k) : k.need.length ≤ 9223372036854775807 ∧ k.setup.length ≤ 9223372036854775807 ∧ k.unit.length ≤ 9223372036854775807 ∧ k.hold.length ≤ 9223372036854775807 := by
  obtain ⟨v1, v2, v3, v4, _, h1, h2, h3, h4⟩ := h
  exact ⟨IntsIn.bd h1, IntsIn.bd h2, IntsIn.bd h3, IntsIn.bd h4⟩
/-- A list that came in, behind others. -/
theorem argI {W : World} {ρ : Places} {m : Mem} (h : MRel W W.heap.size ρ m W) {v : Value} {l : List Int} (hi : IntsIn W v l) :
    ∃ ρ' m', ρ <+: ρ' ∧ MRel W W.heap.size ρ' m' W ∧ VR ρ' (.slice (some ⟨m.length, 0, none⟩) l.length 0) v ∧ RowA m' m.length l ∧ (∀ id l', RowA m id l' → RowA m' id l') ∧ m.length < m'.length := by
  obtain ⟨p, h1, h2⟩ := h.argInts hi
  exact ⟨_, _, pre_snoc _ _, h1, h2, RowA.arg (IntsIn.bd hi) rfl, fun id l' hr => hr.ext _, by simp⟩
/-- A Case that came in. -/
theorem argC {W : World} {ρ : Places} {m : Mem} (h : MRel W W.heap.size ρ m W) {v : Value} {k : Cs} (hk : CaseIn W v k) :
    ∃ ρ' m' i1 i2 i3 i4, ρ <+: ρ' ∧ MRel W W.heap.size ρ' m' W ∧
      VR ρ' (.agg #[.slice (some ⟨i1, 0, none⟩) k.need.length 0, .slice (some ⟨i2, 0, none⟩) k.setup.length 0, .slice (some ⟨i3, 0, none⟩) k.unit.length 0, .slice (some ⟨i4, 0, none⟩) k.hold.length 0]) v ∧
      RowA m' i1 k.need ∧ RowA m' i2 k.setup ∧ RowA m' i3 k.unit ∧ RowA m' i4 k.hold ∧ (∀ id l', RowA m id l' → RowA m' id l') ∧ m.length < m'.length := by
  obtain ⟨v1, v2, v3, v4, rfl, h1, h2, h3, h4⟩ := hk
  obtain ⟨ρ1, m1, p1, g1, q1, r1, s1, e1⟩ := argI h h1
  obtain ⟨ρ2, m2, p2, g2, q2, r2, s2, e2⟩ := argI g1 h2
  obtain ⟨ρ3, m3, p3, g3, q3, r3, s3, e3⟩ := argI g2 h3
  obtain ⟨ρ4, m4, p4, g4, q4, r4, s4, e4⟩ := argI g3 h4
  refine ⟨ρ4, m4, _, _, _, _, ((p1.trans p2).trans p3).trans p4, g4, ?_, s4 _ _ (s3 _ _ (s2 _ _ r1)), s4 _ _ (s3 _ _ r2), s4 _ _ r3, r4, fun id l' hr => s4 _ _ (s3 _ _ (s2 _ _ (s1 _ _ hr))), by omega⟩
  have hl := VL.cons (q1.mono ((p2.trans p3).trans p4)) (VL.cons (q2.mono (p3.trans p4)) (VL.cons (q3.mono p4) (VL.cons q4 (VL.nil ρ4))))
  obtain ⟨a1, a2⟩ := hl.arr
  exact .agg a1 a2
theorem pre_rfl (ρ : Places) : ρ <+: ρ := List.prefix_refl _
theorem Cs.tot_bd {k : Cs} (h : k.small) : 0 ≤ k.tot ∧ k.tot ≤ 4194304 := by
  unfold Cs.small at h; unfold Cs.tot; omega
end Go.Proofs.Ytnkbjliidenldaa.Ab
