/- Cases: four slices of numbers; the laws' helpers szCase, toCase, eqCase, markCase, heldCase. -/
import Derived.Test.YtnkbjliidenldaaAbInt
import Derived.Test.YtnkbjliidenldaaLotMath
namespace Go.Proofs.Ytnkbjliidenldaa.Ab
open Go Go.RowKit
set_option linter.unusedVariables false
set_option linter.unusedSimpArgs false

/-- A new row of numbers. -/
abbrev rowB (l : List Int) : Blk := ⟨.own, 3, l.map (Value.int .i64)⟩
/-- The marks from k0 on, in a row. -/
def markR (m : Mem) (id : Nat) (k0 : Int) (n : Nat) : Mem := m.set id (rowB (imarks k0 n))
theorem markR_len (m : Mem) (id : Nat) (k0 : Int) (n : Nat) : (markR m id k0 n).length = m.length := by simp [markR]

/-- A Case, somewhere. -/
structure CaseA (m : Mem) (v : Value) (k : Cs) : Prop where
  ok : ∃ v1 v2 v3 v4, v = .agg #[v1, v2, v3, v4] ∧ IntsA m v1 k.need ∧ IntsA m v2 k.setup ∧ IntsA m v3 k.unit ∧ IntsA m v4 k.hold
theorem CaseA.ext {m : Mem} {v : Value} {k : Cs} (h : CaseA m v k) (new : Mem) : CaseA (m ++ new) v k := by
  obtain ⟨v1, v2, v3, v4, h0, h1, h2, h3, h4⟩ := h.ok
  exact ⟨v1, v2, v3, v4, h0, h1.ext new, h2.ext new, h3.ext new, h4.ext new⟩
theorem CaseA.ro {m : Mem} {v : Value} {k : Cs} (h : CaseA m v k) : CaseA (roM m) v k := by
  obtain ⟨v1, v2, v3, v4, h0, h1, h2, h3, h4⟩ := h.ok
  exact ⟨v1, v2, v3, v4, h0, h1.ro, h2.ro, h3.ro, h4.ro⟩
def _root_.Go.Proofs.Ytnkbjliidenldaa.Cs.tot (k : Cs) : Int := k.need.length + k.setup.length + k.unit.length + k.hold.length
def _root_.Go.Proofs.Ytnkbjliidenldaa.Cs.small (k : Cs) : Prop := k.need.length ≤ 1048576 ∧ k.setup.length ≤ 1048576 ∧ k.unit.length ≤ 1048576 ∧ k.hold.length ≤ 1048576

abbrev slB (id n : Nat) : Value := .slice (some ⟨id, 0, none⟩) n 1
/-- A row of one's own. -/
def OwnR (m : Mem) (id : Nat) (l : List Int) : Prop := m[id]? = some (rowB l)
theorem OwnR.lt {m : Mem} {id : Nat} {l : List Int} (h : OwnR m id l) : id < m.length := (List.getElem?_eq_some_iff.1 h).1
theorem OwnR.ext {m : Mem} {id : Nat} {l : List Int} (h : OwnR m id l) (new : Mem) : OwnR (m ++ new) id l := by
  unfold OwnR; rw [List.getElem?_append_left h.lt]; exact h
theorem OwnR.ints {m : Mem} {id : Nat} {l : List Int} (h : OwnR m id l) (hb : l.length ≤ 9223372036854775807) (fl : Nat) : IntsA m (.slice (some ⟨id, 0, none⟩) l.length fl) l := by
  refine IntsA.of_block hb (fun k hk => ?_) ?_
  · unfold rdc
    rw [show m[id]? = some (rowB l) from h]
    simp [hk]
  · unfold rdl
    rw [show m[id]? = some (rowB l) from h]
    simp [List.take_of_length_le]
theorem markR_ext {m new : Mem} {id : Nat} (k0 : Int) (n : Nat) (h : id < m.length) : markR (m ++ new) id k0 n = markR m id k0 n ++ new := by
  unfold markR; rw [List.set_append_left _ _ h]
theorem OwnR.marked {m : Mem} {id : Nat} (k0 : Int) (n : Nat) (h : id < m.length) : OwnR (markR m id k0 n) id (imarks k0 n) := by
  unfold OwnR markR; rw [List.getElem?_set_self h]
theorem OwnR.other {m : Mem} {id id' : Nat} {l : List Int} (k0 : Int) (n : Nat) (h : OwnR m id' l) (hne : id ≠ id') : OwnR (markR m id k0 n) id' l := by
  unfold OwnR markR; rw [List.getElem?_set_ne hne]; exact h

theorem markIntS_any (m : Mem) (id fl : Nat) (l : List Int) (k0 : Int) (h : OwnR m id l) (h0 : 0 ≤ k0) (h1 : k0 ≤ 1099511627776) (hl : l.length ≤ 1099511627776) :
    AC Try.prog 38 [.slice (some ⟨id, 0, none⟩) l.length fl, .int .i64 k0] m fun r m' => r = .int .i64 (k0 + l.length) ∧ m' = markR m id k0 l.length :=
  markIntS_ac m id fl _ l k0 h h0 h1 hl

end Go.Proofs.Ytnkbjliidenldaa.Ab
