/- Boxes of structs that a law's walk keeps. -/
import Derived.Test.YtnkbjliidenldaaAbObj
namespace Go.Proofs.Ytnkbjliidenldaa.Ab
open Go Go.RowKit
set_option linter.unusedVariables false
theorem BoxA.ld6 {m : Mem} {id : Nat} {a b c d e f : Value} (h : BoxA m id [a, b, c, d, e, f]) : ldA m (some 6) (.pointer (some ⟨id, 0, none⟩)) = some (.agg #[a, b, c, d, e, f]) := by
  obtain ⟨_, h⟩ := h
  simp [ldA, rdn, rdc, h]
theorem BoxA.ld3 {m : Mem} {id : Nat} {a b c : Value} (h : BoxA m id [a, b, c]) : ldA m (some 3) (.pointer (some ⟨id, 0, none⟩)) = some (.agg #[a, b, c]) := by
  obtain ⟨_, h⟩ := h
  simp [ldA, rdn, rdc, h]
theorem BoxA.ld2 {m : Mem} {id : Nat} {a b : Value} (h : BoxA m id [a, b]) : ldA m (some 2) (.pointer (some ⟨id, 0, none⟩)) = some (.agg #[a, b]) := by
  obtain ⟨_, h⟩ := h
  simp [ldA, rdn, rdc, h]
theorem BoxA.ld5 {m : Mem} {id : Nat} {a b c d e : Value} (h : BoxA m id [a, b, c, d, e]) : ldA m (some 5) (.pointer (some ⟨id, 0, none⟩)) = some (.agg #[a, b, c, d, e]) := by
  obtain ⟨_, h⟩ := h
  simp [ldA, rdn, rdc, h]
theorem BoxA.but {m m' : Mem} {id lo hi : Nat} {vs : List Value} (h : BoxA m id vs) (hb : But lo hi m m') (hd : id < lo ∨ hi ≤ id) : BoxA m' id vs := by
  have hl := h.lt
  obtain ⟨e, h⟩ := h
  exact ⟨e, by rw [hb.2 id hl hd]; exact h⟩
theorem IntsA.one {m : Mem} {v : Value} {l : List Int} (h : IntsA m v l) (xs : List Value) : onesB (v :: xs) = onesB xs := by
  rcases h.form with ⟨rfl, _⟩ | ⟨id, off, fl, rfl⟩ <;> exact onesB_sl _ _ _ _
end Go.Proofs.Ytnkbjliidenldaa.Ab
