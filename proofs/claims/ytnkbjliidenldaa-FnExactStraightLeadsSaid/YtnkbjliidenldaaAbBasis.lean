/- What a memory has grown to; rows that are written in place; slices of slices; the places of right numbers. -/
import Derived.Test.YtnkbjliidenldaaAbPlan
namespace Go.Proofs.Ytnkbjliidenldaa.Ab
open Go Go.RowKit
set_option linter.unusedVariables false
set_option linter.unusedSimpArgs false

theorem goG_undef {P : Program} {n : Nat} (s : St) (k : Kont) (d : Option Nat) (rs : List ARow) (w : Bool) (x : AOp) : goG P n undef w d x rs k s = goR P n rs k (s.putT d undef) := rfl
/-- A memory and new blocks behind it. -/
def Grow (M0 M : Mem) : Prop := ∃ R, M = M0 ++ R ∧ NoRo R
theorem Grow.refl (M : Mem) : Grow M M := ⟨[], by simp, noRo_nil⟩
theorem Grow.app {M0 M new : Mem} (h : Grow M0 M) (hn : NoRo new) : Grow M0 (M ++ new) := by
  obtain ⟨R, rfl, h0⟩ := h
  exact ⟨R ++ new, by rw [List.append_assoc], noRo_app h0 hn⟩
theorem Grow.one {M0 M : Mem} (h : Grow M0 M) (e : TypeId) (cs : List Value) : Grow M0 (M ++ [⟨.own, e, cs⟩]) := h.app (noRo_own noRo_nil)
theorem Grow.len {M0 M : Mem} (h : Grow M0 M) : M0.length ≤ M.length := by
  obtain ⟨R, rfl, h0⟩ := h
  simp
theorem Grow.trans {A B C : Mem} (h : Grow A B) (h' : Grow B C) : Grow A C := by
  obtain ⟨R, rfl, h0⟩ := h
  obtain ⟨S, rfl, h1⟩ := h'
  exact ⟨R ++ S, by rw [List.append_assoc], noRo_app h0 h1⟩
theorem noRo_setO {l : Mem} {i : Nat} {e : TypeId} {cs : List Value} (h : NoRo l) : NoRo (l.set i ⟨.own, e, cs⟩) := fun b hb => by
  rcases List.mem_or_eq_of_mem_set hb with h1 | h1
  · exact h b h1
  · rw [h1]; simp
theorem Grow.dead {M0 M : Mem} (h : Grow M0 M) {id : Nat} (hid : M0.length ≤ id) : Grow M0 (M.set id deadB) := by
  obtain ⟨R, rfl, h0⟩ := h
  exact ⟨R.set (id - M0.length) deadB, by rw [List.set_append_right _ _ hid], noRo_set h0⟩
theorem Grow.put {M0 M : Mem} (h : Grow M0 M) {id : Nat} (hid : M0.length ≤ id) (e : TypeId) (cs : List Value) : Grow M0 (M.set id ⟨.own, e, cs⟩) := by
  obtain ⟨R, rfl, h0⟩ := h
  exact ⟨R.set (id - M0.length) ⟨.own, e, cs⟩, by rw [List.set_append_right _ _ hid], noRo_setO h0⟩
theorem Grow.rd {M0 M : Mem} (h : Grow M0 M) {id k : Nat} {v : Value} (hv : rdc M0 id k = some v) : rdc M id k = some v := by
  obtain ⟨R, rfl, h0⟩ := h
  exact rdc_ext hv
theorem Grow.ints {M0 M : Mem} (h : Grow M0 M) {v : Value} {l : List Int} (hi : IntsA M0 v l) : IntsA M v l := by
  obtain ⟨R, rfl, h0⟩ := h
  exact hi.ext R
theorem Grow.own {M0 M : Mem} (h : Grow M0 M) {id : Nat} {l : List Int} (hi : OwnR M0 id l) : OwnR M id l := by
  obtain ⟨R, rfl, h0⟩ := h
  exact hi.ext R
theorem Grow.case {M0 M : Mem} (h : Grow M0 M) {v : Value} {k : Cs} (hi : CaseA M0 v k) : CaseA M v k := by
  obtain ⟨R, rfl, h0⟩ := h
  exact hi.ext R
theorem Ext.grow {m M0 M : Mem} (h : Ext m M0) (h' : Grow M0 M) : Ext m M := by
  obtain ⟨R, rfl, h0⟩ := h'
  exact h.app h0
theorem iadA_at {id off n fl sz : Nat} {k : IntKind} {z : Int} {j : Nat} (h : z = j) (hj : j < n) : iadA sz (.slice (some ⟨id, off, none⟩) n fl) (.int k z) = some (.pointer (some ⟨id, off + j * sz, none⟩)) := by
  subst h; exact iadA_in hj
theorem iad0 {id n fl : Nat} {z : Int} {j : Nat} (h : z = j) (hj : j < n) : iadA 1 (.slice (some ⟨id, 0, none⟩) n fl) (.int .i64 z) = some (.pointer (some ⟨id, j, none⟩)) := by
  have := iadA_at (id := id) (off := 0) (fl := fl) (sz := 1) (k := .i64) h hj
  simpa using this
theorem OwnR.rd' {M : Mem} {id : Nat} {L : List Int} (h : OwnR M id L) {i : Nat} (hi : i < L.length) : rdc M id i = some (.int .i64 (L.getD i 0)) := by
  unfold rdc
  rw [show M[id]? = some (rowB L) from h]
  simp [List.getElem?_map, List.getElem?_eq_getElem hi, List.getD_eq_getElem?_getD]
theorem Ext.put {m M : Mem} (h : Ext m M) {id : Nat} (hid : m.length ≤ id) (e : TypeId) (cs : List Value) : Ext m (M.set id ⟨.own, e, cs⟩) := by
  obtain ⟨new, rfl, hn⟩ := h
  exact ⟨new.set (id - m.length) ⟨.own, e, cs⟩, by rw [List.set_append_right _ _ (by rw [roM_len]; exact hid), roM_len], noRo_setO hn⟩
theorem OwnR.st {M : Mem} {id off : Nat} {L : List Int} {x : Int} (h : OwnR M id L) (ho : off < L.length) : stA M id off [.int .i64 x] = some (M.set id (rowB (L.set off x))) := by
  rw [stA_at (show M[id]? = some ⟨.own, 3, L.map (Value.int .i64)⟩ from h) (by simpa using ho) rfl]
  unfold rowB
  rw [List.map_set]
theorem OwnR.set_self {M : Mem} {id : Nat} {L L' : List Int} (h : OwnR M id L) : OwnR (M.set id (rowB L')) id L' := by
  unfold OwnR; rw [List.getElem?_set_self h.lt]
theorem OwnR.set_ne {M : Mem} {id id' : Nat} {L : List Int} {b : Blk} (h : OwnR M id' L) (hne : id ≠ id') : OwnR (M.set id b) id' L := by
  unfold OwnR; rw [List.getElem?_set_ne hne]; exact h
theorem rdc_box {m : Mem} {e : TypeId} {cs : List Value} {id : Nat} (h : id = m.length) (k : Nat) : rdc (m ++ [⟨.own, e, cs⟩]) id k = cs[k]? := by
  rw [h]; exact rdc_new m e cs k
theorem mksA_eq {m : Mem} {e byt n : Nat} {z : Value} {a : Int} (ha : a = n) (h : n * byt ≤ 140737488355328 ∧ n ≤ 140737488355328) :
    mksA m e byt [z] (.int .i64 a) (.int .i64 a) = some (.slice (some ⟨m.length, 0, none⟩) n 1, m ++ [⟨.own, e, List.replicate n z⟩]) := by
  subst ha
  exact mksA_nat m e byt n z (by omega)
theorem mksA_eqs {m : Mem} {e byt n : Nat} {z : List Value} {a : Int} (ha : a = n) (h : n * byt ≤ 140737488355328 ∧ n ≤ 140737488355328) :
    mksA m e byt z (.int .i64 a) (.int .i64 a) = some (.slice (some ⟨m.length, 0, none⟩) n z.length, m ++ [⟨.own, e, repL n z⟩]) := by
  subst ha
  exact mksA_many m e byt n z (by omega)
theorem OwnR.zeros {m : Mem} {n id : Nat} (h : id = m.length) : OwnR (m ++ [⟨.own, 3, List.replicate n (.int .i64 0)⟩]) id (List.replicate n 0) := by
  unfold OwnR rowB; rw [h]; simp
/-- The numbers from lo on, up to the one before hi. -/
def cutL (l : List Int) (lo hi : Nat) : List Int := (l.take hi).drop lo
theorem cutL_len {l : List Int} {lo hi : Nat} (h : hi ≤ l.length) : (cutL l lo hi).length = hi - lo := by
  unfold cutL; rw [List.length_drop, List.length_take, Nat.min_eq_left h]
theorem cutL_at {l : List Int} {lo hi k : Nat} (hk : lo + k < hi) : (cutL l lo hi).getD k 0 = l.getD (lo + k) 0 := by
  unfold cutL
  rw [List.getD_eq_getElem?_getD, List.getD_eq_getElem?_getD, List.getElem?_drop, List.getElem?_take, if_pos hk]
theorem IntsA.lenOf {m : Mem} {v : Value} {l : List Int} (h : IntsA m v l) : lenOfA v = l.length := by
  have := h.len
  unfold lenA at this
  split at this
  · simp only [Option.some.injEq, Value.int.injEq, true_and] at this
    simp only [lenOfA]; omega
  · cases this
theorem IntsA.form {m : Mem} {v : Value} {l : List Int} (h : IntsA m v l) : (v = .slice none 0 0 ∧ l = []) ∨ ∃ id off fl, v = .slice (some ⟨id, off, none⟩) l.length fl := by
  have h1 := h.src
  have h2 := h.lenOf
  unfold slR at h1
  split at h1
  · exact .inl ⟨rfl, by simpa [lenOfA] using h2.symm⟩
  · simp only [lenOfA] at h2
    subst h2
    exact .inr ⟨_, _, _, rfl⟩
  · cases h1
theorem IntsA.cut {m : Mem} {v : Value} {l : List Int} (h : IntsA m v l) {lo hi : Nat} (h1 : lo ≤ hi) (h2 : hi ≤ l.length) :
    ∃ v', slcA 1 v (some (.int .i64 lo)) (some (.int .i64 hi)) = some v' ∧ IntsA m v' (cutL l lo hi) := by
  rcases h.form with ⟨rfl, rfl⟩ | ⟨id, off, fl, rfl⟩
  · have e1 : hi = 0 := by simpa using h2
    have e2 : lo = 0 := by omega
    subst e1 e2
    exact ⟨.slice none 0 0, rfl, IntsA.nil m⟩
  · refine ⟨.slice (some ⟨id, off + lo, none⟩) (hi - lo) 0, ?_, ?_⟩
    · simp [slcA, boundA, h1, h2]
    · have hb := h.bd
      rw [← cutL_len h2]
      refine IntsA.of_block (by rw [cutL_len h2]; omega) (fun k hk => ?_) ?_
      · rw [cutL_len h2] at hk
        rw [cutL_at (by omega)]
        have := h.ld (lo + k) (by omega)
        simp only [pAt, ldA] at this
        rw [Nat.add_assoc]; exact this
      · have hs := h.src
        simp only [slR, Nat.mul_one, rdl] at hs ⊢
        split at hs
        · rename_i b hb
          rw [cutL_len h2]
          split at hs
          · cases hs
          · split at hs
            · rename_i hd hle
              rw [if_neg hd, if_pos (by omega)]
              have hs' := Option.some.inj hs
              unfold cutL
              rw [List.map_drop, List.map_take, ← hs', List.take_take, List.drop_take, List.drop_drop, Nat.min_eq_left h2]
            · cases hs
        · cases hs

/-- The numbers up to the one before hi. -/
theorem IntsA.pre {m : Mem} {v : Value} {l : List Int} (h : IntsA m v l) {hi : Nat} (h2 : hi ≤ l.length) :
    ∃ v', slcA 1 v none (some (.int .i64 hi)) = some v' ∧ IntsA m v' (cutL l 0 hi) := by
  obtain ⟨x, e, hx⟩ := h.cut (lo := 0) (Nat.zero_le hi) h2
  rcases h.form with ⟨rfl, rfl⟩ | ⟨id, off, fl, rfl⟩
  · have e1 : hi = 0 := by simpa using h2
    subst e1
    exact ⟨.slice none 0 0, rfl, IntsA.nil m⟩
  · have hs : slcA 1 (.slice (some ⟨id, off, none⟩) l.length fl) none (some (.int .i64 hi)) = some (.slice (some ⟨id, off, none⟩) hi fl) := by
      simp [slcA, boundA, h2]
    have hs2 : slcA 1 (.slice (some ⟨id, off, none⟩) l.length fl) (some (.int .i64 0)) (some (.int .i64 hi)) = some (.slice (some ⟨id, off, none⟩) hi 0) := by
      simp [slcA, boundA, h2]
    have e0 : (((0 : Nat) : Int)) = 0 := rfl
    rw [e0, hs2] at e
    cases e
    have hc : (cutL l 0 hi).length = hi := by rw [cutL_len h2, Nat.sub_zero]
    refine ⟨_, hs, ?_⟩
    have a := hx
    refine ⟨a.len, a.bd, fun k hk => ?_, fun k hk => ?_, ?_⟩
    · have := a.at_ k hk
      simp only [iadA, pAt] at this ⊢
      exact this
    · exact a.ld k hk
    · exact a.src
theorem Ext.rd {m M : Mem} (h : Ext m M) {id k : Nat} {v : Value} (hv : rdc m id k = some v) : rdc M id k = some v := by
  obtain ⟨n0, rfl, h0⟩ := h
  exact rdc_ext (by rw [rdc_roM]; exact hv)
end Go.Proofs.Ytnkbjliidenldaa.Ab
