/- Arguments of other kinds, as blocks only to be read: pairs, tables. -/
import Derived.Test.YtnkbjliidenldaaAbObj
namespace Go.Proofs.Ytnkbjliidenldaa.Ab
open Go Go.RowKit
set_option linter.unusedVariables false
set_option linter.unusedSimpArgs false

/-- What every argument does: more places, more memory, what persists. -/
def Adds (W : World) (ρ ρ' : Places) (m m' : Mem) : Prop := ρ <+: ρ' ∧ MRel W W.heap.size ρ' m' W ∧ ∃ new, m' = m ++ new
theorem Adds.trans {W : World} {ρ1 ρ2 ρ3 : Places} {m1 m2 m3 : Mem} (h : Adds W ρ1 ρ2 m1 m2) (h' : Adds W ρ2 ρ3 m2 m3) : Adds W ρ1 ρ3 m1 m3 := by
  obtain ⟨a, b, n1, rfl⟩ := h
  obtain ⟨c, d, n2, rfl⟩ := h'
  exact ⟨a.trans c, d, n1 ++ n2, by rw [List.append_assoc]⟩
theorem Adds.refl {W : World} {ρ : Places} {m : Mem} (h : MRel W W.heap.size ρ m W) : Adds W ρ ρ m m := ⟨List.prefix_refl _, h, [], by simp⟩
/-- Cells that stand for others. -/
theorem addFlat {W : World} {ρ : Places} {m : Mem} (h : MRel W W.heap.size ρ m W) {v : Value} {n : Nat} {cs xs : List Value} (hi : FlatIn W v n cs) (hx : ∀ (k : Nat) (x : Value), xs[k]? = some x → ∃ y, cs[k]? = some y ∧ VR ρ x y) (hz : 0 < n → 0 < cs.length) :
    ∃ ρ', Adds W ρ ρ' m (m ++ [⟨.ro, 0, xs⟩]) ∧ VR ρ' (.slice (some ⟨m.length, 0, none⟩) n 0) v := by
  obtain ⟨A, c, rfl, hlc, hc, hr⟩ := hi
  by_cases hl : 0 < cs.length
  · obtain ⟨b, off, rfl, hb, hcell⟩ := hr hl
    refine ⟨ρ ++ [(b, off, 0)], ⟨pre_snoc _ _, h.addRo fun k x hk => ?_, _, rfl⟩, ?_⟩
    · obtain ⟨y, hy, hv⟩ := hx k x hk
      exact ⟨hb, y, hcell k y hy, hv⟩
    · exact .sl (b := b) (o := off) (tot := 0) (by rw [← h.len]; simp) hlc hc (fun _ _ => by simp) (fun hf => absurd hf (by omega))
  · refine ⟨ρ ++ [(0, 0, 0)], ⟨pre_snoc _ _, h.addRo fun k x hk => ?_, _, rfl⟩, ?_⟩
    · obtain ⟨y, hy, _⟩ := hx k x hk
      have := (List.getElem?_eq_some_iff.1 hy).1
      omega
    · exact .sl (b := 0) (o := 0) (tot := 0) (by rw [← h.len]; simp) hlc hc (fun _ hp => absurd (hz hp) hl) (fun hf => absurd hf (by omega))
theorem rdc_roNew (m : Mem) (xs : List Value) (k : Nat) : rdc (m ++ [⟨.ro, 0, xs⟩]) m.length k = xs[k]? := by simp [rdc]
/-- A list that came in. -/
theorem argI2 {W : World} {ρ : Places} {m : Mem} (h : MRel W W.heap.size ρ m W) {v : Value} {l : List Int} (hi : IntsIn W v l) :
    ∃ ρ' m', Adds W ρ ρ' m m' ∧ ∃ x, VR ρ' x v ∧ IntsA m' x l := by
  obtain ⟨p, h1, h2⟩ := h.argInts hi
  exact ⟨_, _, ⟨pre_snoc _ _, h1, _, rfl⟩, _, h2, (RowA.arg (IntsIn.bd hi) rfl).ints 0⟩
/-- Pairs that came in. -/
theorem argPairs {W : World} {ρ : Places} {m : Mem} (h : MRel W W.heap.size ρ m W) {v : Value} {L : List (Int × Int)} (hi : PairsIn W v L) :
    ∃ ρ' m', Adds W ρ ρ' m m' ∧ ∃ x, VR ρ' x v ∧ PairsA m' x L := by
  have hb : L.length ≤ 9223372036854775807 := by
    obtain ⟨A, c, _, h1, h2, _⟩ := hi
    unfold maxLen at h2; omega
  have hall : ∀ (k : Nat) (x : Value), (pairsC L)[k]? = some x → ∃ z, x = .int .i64 z := by
    intro k x hx
    have hk := (List.getElem?_eq_some_iff.1 hx).1
    rw [pairsC_len] at hk
    have p := pairsC_at L (k / 2) (by omega)
    have ei : k = k / 2 * 2 ∨ k = k / 2 * 2 + 1 := by omega
    rcases ei with ei | ei
    · rw [← ei] at p; rw [p.1] at hx; cases hx; exact ⟨_, rfl⟩
    · rw [← ei] at p; rw [p.2] at hx; cases hx; exact ⟨_, rfl⟩
  obtain ⟨ρ', ha, hv⟩ := addFlat h hi (xs := pairsC L) (fun k x hx => ⟨x, hx, by obtain ⟨z, rfl⟩ := hall k x hx; exact .int _ _⟩) (by rw [pairsC_len]; omega)
  exact ⟨ρ', _, ha, _, hv, hb, m.length, 0, rfl, fun k hk => by rw [rdc_roNew, rdc_roNew]; exact pairsC_at L k hk⟩
/-- Rows that came in, one by one. -/
theorem argRows {W : World} : ∀ (us : List Value) (T : List (List Int)) {ρ : Places} {m : Mem}, MRel W W.heap.size ρ m W → us.length = T.length → (∀ k u, us[k]? = some u → IntsIn W u (T.getD k [])) →
    ∃ ρ' m' xs, Adds W ρ ρ' m m' ∧ VL ρ' xs us ∧ ∀ k x, xs[k]? = some x → IntsA m' x (T.getD k [])
  | [], T, ρ, m, h, _, _ => ⟨ρ, m, [], .refl h, .nil _, fun k x hx => by simp at hx⟩
  | u :: us, [], ρ, m, h, hl, _ => by simp at hl
  | u :: us, l :: T, ρ, m, h, hl, hi => by
    obtain ⟨ρ1, m1, a1, x1, v1, i1⟩ := argI2 h (hi 0 u rfl)
    obtain ⟨ρ2, m2, xs, a2, v2, i2⟩ := argRows us T a1.2.1 (by simpa using hl) fun k u' hk => by simpa using hi (k + 1) u' (by simpa using hk)
    refine ⟨ρ2, m2, x1 :: xs, a1.trans a2, .cons (v1.mono a2.1) v2, fun k x hx => ?_⟩
    cases k with
    | zero =>
      simp at hx
      subst hx
      obtain ⟨n2, rfl⟩ := a2.2.2
      simpa using i1.ext n2
    | succ k => simpa using i2 k x (by simpa using hx)
theorem argTab {W : World} {ρ : Places} {m : Mem} (h : MRel W W.heap.size ρ m W) {v : Value} {T : List (List Int)} (hi : TabIn W v T) :
    ∃ ρ' m', Adds W ρ ρ' m m' ∧ ∃ x, VR ρ' x v ∧ TabA m' x T := by
  obtain ⟨us, hf, hl, hr⟩ := hi
  have hb : T.length ≤ 9223372036854775807 := by
    obtain ⟨A, c, _, h1, h2, _⟩ := hf
    unfold maxLen at h2; omega
  obtain ⟨ρ1, m1, xs, a1, v1, i1⟩ := argRows us T h hl hr
  obtain ⟨ρ2, a2, v2⟩ := addFlat a1.2.1 hf (xs := xs) (fun k x hx => v1.at_ hx) (by omega)
  refine ⟨ρ2, _, a1.trans a2, _, v2, TabA.blk hb fun k hk => ?_⟩
  have hlx : k < xs.length := by rw [v1.1, hl]; exact hk
  exact ⟨xs[k], by rw [rdc_roNew]; exact List.getElem?_eq_getElem hlx, (i1 k _ (List.getElem?_eq_getElem hlx)).ext _⟩
end Go.Proofs.Ytnkbjliidenldaa.Ab
