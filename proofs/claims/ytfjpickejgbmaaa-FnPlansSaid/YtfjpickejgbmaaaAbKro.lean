/- A Case whose rows grow in a box. -/
import Derived.Test.YtfjpickejgbmaaaAbBasis
namespace Go.Proofs.Ytfjpickejgbmaaa.Ab
open Go Go.RowKit
set_option linter.unusedVariables false
set_option linter.unusedSimpArgs false

theorem app_genK {M : Mem} {l : List Int} {x : Int} {id : Nat} (h : OwnR M id l) (hb : l.length ≤ 1048576) :
    appP (M ++ [⟨.own, 3, [.int .i64 x]⟩]) 3 1 8 (.slice (some ⟨id, 0, none⟩) l.length 1) (.slice (some ⟨M.length, 0, none⟩) 1 1) =
      some (.slice (some ⟨M.length + 1, 0, none⟩) (l.length + 1) 1, M.set id deadB ++ [⟨.own, 3, [.int .i64 x]⟩] ++ [⟨.own, 3, (l ++ [x]).map (Value.int .i64)⟩]) := by
  have hl := h.lt
  have e1 : slR (M ++ [⟨.own, 3, [.int .i64 x]⟩]) 1 (.slice (some ⟨M.length, 0, none⟩) 1 1) = some [.int .i64 x] := by
    simp only [slR, rdl, Nat.mul_one]
    simp
  unfold appP
  rw [e1]
  simp only [onesB_int, onesB_nil, if_true, appA, lenOfA]
  rw [List.getElem?_append_left hl, show M[id]? = some (rowB l) from h]
  simp only [List.length_map, Nat.mul_one, true_and]
  rw [if_pos (by omega), List.set_append_left _ _ hl]
  simp
/-- A row that grows: nil, or a block of its own. -/
def Gr (M : Mem) (v : Value) (l : List Int) (r : Nat) : Prop := (v = .slice none 0 0 ∧ l = []) ∨ (v = .slice (some ⟨r, 0, none⟩) l.length 1 ∧ l ≠ [] ∧ OwnR M r l)
theorem Gr.ints {M : Mem} {v : Value} {l : List Int} {r : Nat} (h : Gr M v l r) (hl : l.length ≤ 1000) : IntsA M v l := by
  rcases h with ⟨rfl, rfl⟩ | ⟨rfl, _, ho⟩
  · exact IntsA.nil M
  · exact ho.ints (by omega) 1
def up4 {α : Type} (f : Nat → α) (o : Nat) (x : α) : Nat → α := fun i => if i = o then x else f i
/-- Four rows in the box at b; all that is theirs lies from lo on. -/
structure KC (M : Mem) (b lo : Nat) (vs : Nat → Value) (ls : Nat → List Int) (rs : Nat → Nat) : Prop where
  box : M[b]? = some ⟨.own, 26, [vs 0, vs 1, vs 2, vs 3]⟩
  lob : lo ≤ b
  row : ∀ i, i < 4 → Gr M (vs i) (ls i) (rs i)
  ge : ∀ i, i < 4 → ls i ≠ [] → lo ≤ rs i ∧ rs i ≠ b
  ne : ∀ i j, i < 4 → j < 4 → i ≠ j → ls i ≠ [] → ls j ≠ [] → rs i ≠ rs j
/-- Append to a row that grows. -/
theorem Gr.app {M : Mem} {v : Value} {l : List Int} {r : Nat} (h : Gr M v l r) (hl : l.length ≤ 1000) (x : Int) : ∃ M1, appP (M ++ [⟨.own, 3, [.int .i64 x]⟩]) 3 1 8 v (.slice (some ⟨M.length, 0, none⟩) 1 1) = some (.slice (some ⟨M.length + 1, 0, none⟩) (l.length + 1) 1, M1) ∧
    M1.length = M.length + 2 ∧ OwnR M1 (M.length + 1) (l ++ [x]) ∧ (∀ i, i < M.length → (l ≠ [] → i ≠ r) → M1[i]? = M[i]?) ∧ ∀ (i : Nat) (b : Blk), (i = r ∧ l ≠ [] ∨ M.length ≤ i) → M1[i]? = some b → b.kd ≠ .ro := by
  rcases h with ⟨rfl, rfl⟩ | ⟨rfl, hne, ho⟩
  · refine ⟨M ++ [⟨.own, 3, [.int .i64 x]⟩] ++ [⟨.own, 3, [.int .i64 x]⟩], ?_, by simp, ?_, ?_, ?_⟩
    · have e1 : slR (M ++ [⟨.own, 3, [.int .i64 x]⟩]) 1 (.slice (some ⟨M.length, 0, none⟩) 1 1) = some [.int .i64 x] := by
        simp only [slR, rdl, Nat.mul_one]
        simp
      unfold appP
      rw [e1]
      simp [onesB_int, onesB_nil, appA, lenOfA]
    · unfold OwnR
      rw [List.getElem?_append_right (by simp)]
      simp
    · intro i hi _
      rw [List.getElem?_append_left (by simp; omega), List.getElem?_append_left hi]
    · intro i b hi hb
      have hi : M.length ≤ i := by
        rcases hi with ⟨_, h⟩ | h
        · exact absurd rfl h
        · exact h
      rw [List.append_assoc, List.getElem?_append_right hi] at hb
      match i - M.length, hb with
      | 0, hb => simp at hb; rw [← hb]; simp
      | 1, hb => simp at hb; rw [← hb]; simp
  · refine ⟨_, app_genK ho (by omega), by simp, ?_, ?_, ?_⟩
    · unfold OwnR
      rw [List.getElem?_append_right (by simp)]
      simp
    · intro i hi hir
      rw [List.getElem?_append_left (by simp; omega), List.getElem?_append_left (by simpa using hi), List.getElem?_set_ne (Ne.symm (hir hne))]
    · intro i b hi hb
      by_cases hlt : i < M.length
      · have hir : i = r := by
          rcases hi with ⟨h, _⟩ | h
          · exact h
          · omega
        subst hir
        rw [List.getElem?_append_left (by simp; omega), List.getElem?_append_left (by simpa using hlt), List.getElem?_set_self hlt] at hb
        cases hb
        simp [deadB]
      · rw [List.append_assoc, List.getElem?_append_right (by simp; omega)] at hb
        simp only [List.length_set] at hb
        match i - M.length, hb with
        | 0, hb => simp at hb; rw [← hb]; simp
        | 1, hb => simp at hb; rw [← hb]; simp
theorem KC.lt {M : Mem} {b lo : Nat} {vs : Nat → Value} {ls : Nat → List Int} {rs : Nat → Nat} (h : KC M b lo vs ls rs) {i : Nat} (hi : i < 4) (hne : ls i ≠ []) : rs i < M.length ∧ OwnR M (rs i) (ls i) := by
  rcases h.row i hi with ⟨_, h2⟩ | ⟨_, _, h3⟩
  · exact absurd h2 hne
  · exact ⟨h3.lt, h3⟩
/-- Append to one of the four rows. -/
theorem KC.app {M : Mem} {b lo : Nat} {vs : Nat → Value} {ls : Nat → List Int} {rs : Nat → Nat} (h : KC M b lo vs ls rs) {o : Nat} (ho : o < 4) (hl : (ls o).length ≤ 1000) (x : Int) : ∃ M1 M2,
    appP (M ++ [⟨.own, 3, [.int .i64 x]⟩]) 3 1 8 (vs o) (.slice (some ⟨M.length, 0, none⟩) 1 1) = some (.slice (some ⟨M.length + 1, 0, none⟩) ((ls o).length + 1) 1, M1) ∧
    stA M1 b o [.slice (some ⟨M.length + 1, 0, none⟩) ((ls o).length + 1) 1] = some M2 ∧
    KC M2 b lo (up4 vs o (.slice (some ⟨M.length + 1, 0, none⟩) ((ls o).length + 1) 1)) (up4 ls o (ls o ++ [x])) (up4 rs o (M.length + 1)) ∧ M2.length = M.length + 2 ∧ (∀ i, i < lo → M2[i]? = M[i]?) ∧
    ((∀ (i : Nat) (k : Blk), lo ≤ i → M[i]? = some k → k.kd ≠ .ro) → ∀ (i : Nat) (k : Blk), lo ≤ i → M2[i]? = some k → k.kd ≠ .ro) := by
  obtain ⟨M1, a1, a2, a3, a4, a5⟩ := (h.row o ho).app hl x
  have hb := (List.getElem?_eq_some_iff.1 h.box).1
  have hbo : ls o ≠ [] → b ≠ rs o := fun hne => Ne.symm (h.ge o ho hne).2
  have hb1 : M1[b]? = some ⟨.own, 26, [vs 0, vs 1, vs 2, vs 3]⟩ := (a4 b hb hbo).trans h.box
  obtain ⟨v', hv'⟩ : ∃ v', v' = Value.slice (some ⟨M.length + 1, 0, none⟩) ((ls o).length + 1) 1 := ⟨_, rfl⟩
  have hst : stA M1 b o [v'] = some (M1.set b ⟨.own, 26, [vs 0, vs 1, vs 2, vs 3].set o v'⟩) := stA_at hb1 (by simpa using ho) (by rw [hv']; rfl)
  rw [← hv'] at a1
  have hlo := h.lob
  rw [← hv']
  refine ⟨M1, _, a1, hst, ⟨?_, h.lob, ?_, ?_, ?_⟩, by simp [a2], ?_, ?_⟩
  · rw [List.getElem?_set_self (by omega)]
    match o, ho with
    | 0, _ => rfl
    | 1, _ => rfl
    | 2, _ => rfl
    | 3, _ => rfl
  · intro i hi
    by_cases e : i = o
    · subst e
      simp only [up4, if_true]
      refine .inr ⟨by rw [hv']; simp, by simp, ?_⟩
      unfold OwnR
      rw [List.getElem?_set_ne (by omega)]
      exact a3
    · simp only [up4, if_neg e]
      rcases h.row i hi with h1 | ⟨h1, h2, h3⟩
      · exact .inl h1
      · refine .inr ⟨h1, h2, ?_⟩
        unfold OwnR
        rw [List.getElem?_set_ne (Ne.symm (h.ge i hi h2).2), a4 (rs i) h3.lt fun hne => h.ne i o hi ho e h2 hne]
        exact h3
  · intro i hi hne
    by_cases e : i = o
    · subst e
      simp only [up4, if_true]
      omega
    · simp only [up4, if_neg e] at hne ⊢
      exact h.ge i hi hne
  · intro i j hi hj hij hne1 hne2
    by_cases e1 : i = o
    · by_cases e2 : j = o
      · omega
      · simp only [up4, if_pos e1, if_neg e2] at hne2 ⊢
        have := (h.lt hj hne2).1
        omega
    · by_cases e2 : j = o
      · simp only [up4, if_neg e1, if_pos e2] at hne1 ⊢
        have := (h.lt hi hne1).1
        omega
      · simp only [up4, if_neg e1, if_neg e2] at hne1 hne2 ⊢
        exact h.ne i j hi hj hij hne1 hne2
  · intro i hi
    rw [List.getElem?_set_ne (by omega)]
    exact a4 i (by omega) fun hne e => by have := (h.ge o ho hne).1; omega
  · intro hro i k hi hk
    by_cases e : i = b
    · subst e
      rw [List.getElem?_set_self (by omega)] at hk
      cases hk
      simp
    · rw [List.getElem?_set_ne (Ne.symm e)] at hk
      by_cases hlt : i < M.length
      · by_cases hr : i = rs o ∧ ls o ≠ []
        · exact a5 i k (.inl hr) hk
        · rw [a4 i hlt fun hne e => hr ⟨e, hne⟩] at hk
          exact hro i k hi hk
      · exact a5 i k (.inr (by omega)) hk
end Go.Proofs.Ytfjpickejgbmaaa.Ab
