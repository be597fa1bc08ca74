/- What a memory has grown to; boxes in it; rows that are written in place; sums of parts. -/
import Derived.Test.YtiggehfopfpkbaaAbCut
import Derived.Test.YtiggehfopfpkbaaTabMath
namespace Go.Proofs.Ytiggehfopfpkbaa.Ab
open Go Go.RowKit
set_option linter.unusedVariables false
set_option linter.unusedSimpArgs false

/-- A memory and new blocks behind it. -/
def Grow (M0 M : Mem) : Prop := ∃ R, M = M0 ++ R ∧ NoRo R
theorem Grow.refl (M : Mem) : Grow M M := ⟨[], by simp, noRo_nil⟩
theorem Grow.app {M0 M new : Mem} (h : Grow M0 M) (hn : NoRo new) : Grow M0 (M ++ new) := by
  obtain ⟨R, rfl, h0⟩ := h
  exact ⟨R ++ new, by rw [List.append_assoc], noRo_app h0 hn⟩
theorem Grow.one {M0 M : Mem} (h : Grow M0 M) (e : TypeId) (cs : List Value) : Grow M0 (M ++ [⟨.own, e, cs⟩]) := h.app (noRo_own noRo_nil)
theorem Grow.len {M0 M : Mem} (h : Grow M0 M) : M0.length ≤ M.length := by
  obtain ⟨R, rfl, h0⟩ := h
  simp
theorem Grow.trans {A B C : Mem} (h : Grow A B) (h' : Grow B C) : Grow A C := by
  obtain ⟨R, rfl, h0⟩ := h
  obtain ⟨S, rfl, h1⟩ := h'
  exact ⟨R ++ S, by rw [List.append_assoc], noRo_app h0 h1⟩
theorem noRo_setO {l : Mem} {i : Nat} {e : TypeId} {cs : List Value} (h : NoRo l) : NoRo (l.set i ⟨.own, e, cs⟩) := fun b hb => by
  rcases List.mem_or_eq_of_mem_set hb with h1 | h1
  · exact h b h1
  · rw [h1]; simp
theorem Grow.dead {M0 M : Mem} (h : Grow M0 M) {id : Nat} (hid : M0.length ≤ id) : Grow M0 (M.set id deadB) := by
  obtain ⟨R, rfl, h0⟩ := h
  exact ⟨R.set (id - M0.length) deadB, by rw [List.set_append_right _ _ hid], noRo_set h0⟩
theorem Grow.put {M0 M : Mem} (h : Grow M0 M) {id : Nat} (hid : M0.length ≤ id) (e : TypeId) (cs : List Value) : Grow M0 (M.set id ⟨.own, e, cs⟩) := by
  obtain ⟨R, rfl, h0⟩ := h
  exact ⟨R.set (id - M0.length) ⟨.own, e, cs⟩, by rw [List.set_append_right _ _ hid], noRo_setO h0⟩
theorem Grow.rd {M0 M : Mem} (h : Grow M0 M) {id k : Nat} {v : Value} (hv : rdc M0 id k = some v) : rdc M id k = some v := by
  obtain ⟨R, rfl, h0⟩ := h
  exact rdc_ext hv
theorem Grow.ints {M0 M : Mem} (h : Grow M0 M) {v : Value} {l : List Int} (hi : IntsA M0 v l) : IntsA M v l := by
  obtain ⟨R, rfl, h0⟩ := h
  exact hi.ext R
theorem Grow.own {M0 M : Mem} (h : Grow M0 M) {id : Nat} {l : List Int} (hi : OwnR M0 id l) : OwnR M id l := by
  obtain ⟨R, rfl, h0⟩ := h
  exact hi.ext R
theorem Grow.case {M0 M : Mem} (h : Grow M0 M) {v : Value} {k : Cs} (hi : CaseA M0 v k) : CaseA M v k := by
  obtain ⟨R, rfl, h0⟩ := h
  exact hi.ext R
theorem Ext.grow {m M0 M : Mem} (h : Ext m M0) (h' : Grow M0 M) : Ext m M := by
  obtain ⟨R, rfl, h0⟩ := h'
  exact h.app h0
theorem OwnR.st {M : Mem} {id off : Nat} {L : List Int} {x : Int} (h : OwnR M id L) (ho : off < L.length) : stA M id off [.int .i64 x] = some (M.set id (rowB (L.set off x))) := by
  rw [stA_at (show M[id]? = some ⟨.own, 3, L.map (Value.int .i64)⟩ from h) (by simpa using ho) rfl]
  unfold rowB
  rw [List.map_set]
theorem OwnR.set_self {M : Mem} {id : Nat} {L L' : List Int} (h : OwnR M id L) : OwnR (M.set id (rowB L')) id L' := by
  unfold OwnR; rw [List.getElem?_set_self h.lt]
theorem OwnR.set_ne {M : Mem} {id id' : Nat} {L : List Int} {b : Blk} (h : OwnR M id' L) (hne : id ≠ id') : OwnR (M.set id b) id' L := by
  unfold OwnR; rw [List.getElem?_set_ne hne]; exact h
theorem rdc_box {m : Mem} {e : TypeId} {cs : List Value} {id : Nat} (h : id = m.length) (k : Nat) : rdc (m ++ [⟨.own, e, cs⟩]) id k = cs[k]? := by
  rw [h]; exact rdc_new m e cs k
theorem mksA_eq {m : Mem} {e byt n : Nat} {z : Value} {a : Int} (ha : a = n) (h : n * byt ≤ 140737488355328 ∧ n ≤ 140737488355328) :
    mksA m e byt [z] (.int .i64 a) (.int .i64 a) = some (.slice (some ⟨m.length, 0, none⟩) n 1, m ++ [⟨.own, e, List.replicate n z⟩]) := by
  subst ha
  exact mksA_nat m e byt n z (by omega)
theorem mksA_eqs {m : Mem} {e byt n : Nat} {z : List Value} {a : Int} (ha : a = n) (h : n * byt ≤ 140737488355328 ∧ n ≤ 140737488355328) :
    mksA m e byt z (.int .i64 a) (.int .i64 a) = some (.slice (some ⟨m.length, 0, none⟩) n z.length, m ++ [⟨.own, e, repL n z⟩]) := by
  subst ha
  exact mksA_many m e byt n z (by omega)
theorem OwnR.zeros {m : Mem} {n id : Nat} (h : id = m.length) : OwnR (m ++ [⟨.own, 3, List.replicate n (.int .i64 0)⟩]) id (List.replicate n 0) := by
  unfold OwnR rowB; rw [h]; simp
/-- The sum of a part is the difference of sums. -/
theorem sumTo_cut {l : List Int} {lo hi : Nat} (h1 : lo ≤ hi) (h2 : hi ≤ l.length) (k : Nat) (hk : k ≤ hi - lo) : sumTo (cutL l lo hi) k = sumR l lo (lo + k) := by
  induction k with
  | zero => rw [Nat.add_zero, sumR_self]; rfl
  | succ k ih => rw [sumTo_g, ih (by omega), ← Nat.add_assoc, sumR_s, cutL_at (by omega)]
theorem sumTo_cut' {l : List Int} {lo hi : Nat} (h1 : lo ≤ hi) (h2 : hi ≤ l.length) : sumTo (cutL l lo hi) (cutL l lo hi).length = sumR l lo hi := by
  rw [cutL_len h2, sumTo_cut h1 h2 _ (Nat.le_refl _), Nat.add_sub_cancel' h1]
theorem sumOf_cut_rc (m : Mem) (v' : Value) (l : List Int) {lo hi : Nat} {b : Int} (h : IntsA m v' (cutL l lo hi)) (h1 : lo ≤ hi) (h2 : hi ≤ l.length) (hb0 : 0 ≤ b) (hb1 : b ≤ 1000000) (hb : ∀ x ∈ l, 0 ≤ x ∧ x ≤ b) (h8 : l.length ≤ 1000) :
    RC Try.prog 107 [v'] m fun r new => r = .int .i64 (sumR l lo hi) ∧ new = [] := by
  have hc := cutL_len h2 (lo := lo)
  have := sumOf_rc m v' (cutL l lo hi) h fun k hk => by
    rw [hc] at hk
    rw [sumTo_cut h1 h2 k hk]
    have := sumR_in hb0 hb lo k
    have h3 : b * (k : Int) ≤ 1000000 * (k : Int) := Int.mul_le_mul_of_nonneg_right hb1 (by omega)
    omega
  rw [sumTo_cut' h1 h2] at this
  exact this
/-- A box of four values, in a memory that has grown. -/
theorem Grow.box4 {m M : Mem} {e : TypeId} {v1 v2 v3 v4 : Value} (h : Grow (roM m ++ [⟨.own, e, [v1, v2, v3, v4]⟩]) M) :
    rdc M m.length 0 = some v1 ∧ rdc M m.length 1 = some v2 ∧ rdc M m.length 2 = some v3 ∧ rdc M m.length 3 = some v4 ∧ m.length < M.length := by
  have hl := h.len
  simp only [List.length_append, List.length_cons, List.length_nil, roM_len] at hl
  refine ⟨h.rd ?_, h.rd ?_, h.rd ?_, h.rd ?_, by omega⟩ <;> (rw [rdc_box (roM_len m).symm]; rfl)
theorem Grow.ext {m M : Mem} {e : TypeId} {cs : List Value} (h : Grow (roM m ++ [⟨.own, e, cs⟩]) M) : Ext m M := ((Ext.refl m).one _ _).grow h
theorem Grow.caseV {m M : Mem} {e : TypeId} {cs : List Value} {v : Value} {k : Cs} (h : Grow (roM m ++ [⟨.own, e, cs⟩]) M) (hk : CaseA (roM m) v k) : CaseA M v k := h.case (hk.ext _)
theorem Grow.intsV {m M : Mem} {e : TypeId} {cs : List Value} {v : Value} {l : List Int} (h : Grow (roM m ++ [⟨.own, e, cs⟩]) M) (hk : IntsA (roM m) v l) : IntsA M v l := h.ints (hk.ext _)
end Go.Proofs.Ytiggehfopfpkbaa.Ab
