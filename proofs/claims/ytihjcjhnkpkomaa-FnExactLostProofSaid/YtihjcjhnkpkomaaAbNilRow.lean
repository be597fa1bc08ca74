/- A row that may be nil, as an answer, may be taken for an empty row of one's own. -/
import Derived.Test.YtihjcjhnkpkomaaAbObj2
namespace Go.Proofs.Ytihjcjhnkpkomaa.Ab
open Go Go.RowKit
set_option linter.unusedVariables false
set_option linter.unusedSimpArgs false

theorem VR.nilRow9 {ρ : Places} {id : Nat} {p : Nat × Nat × Nat} (h : ρ[id]? = some p) : VR ρ (.slice (some ⟨id, 0, none⟩) 0 0) (.slice none 0 0) := by
  obtain ⟨b, o, t⟩ := p
  exact .sl h (Nat.le_refl _) (by unfold maxLen; omega) (fun _ h => absurd h (by omega)) (fun h => absurd h (by omega))
theorem rc_nilRow9 {P : Program} {f : FuncId} {args : List Value} {m : Mem} {Q : Value → Mem → Prop} {ok : Bool} {p : Prop} (h : RC P f args m fun r new => Q r new ∨ (p ∧ NoRo new ∧ r = .tuple #[.slice none 0 0, .bool ok]))
    (hq : ∀ new, p → NoRo new → Q (.tuple #[.slice (some ⟨m.length + new.length, 0, none⟩) 0 0, .bool ok]) (new ++ [⟨.own, 3, []⟩])) : RC P f args m Q := by
  refine ⟨h.1, fun ρ w cargs hm hv => (h.2 ρ w cargs hm hv).mono ?_⟩
  rintro e w' ⟨v, v', new, ρn, he, hQ | ⟨hp, hn, rfl⟩, hnn, hm2, hvr⟩
  · exact ⟨v, v', new, ρn, he, hQ, hnn, hm2, hvr⟩
  have hm3 := hm2.add (e := 3) (xs := []) (g := 0) (tot := 0) (by simp) (fun h => absurd h (by omega)) (fun h => absurd h (by omega))
  refine ⟨_, v', new ++ [⟨.own, 3, []⟩], ρn ++ [(0, 0, 0)], he, hq new hp hn, noRo_app hn (noRo_own noRo_nil), ?_, ?_⟩
  · rw [← List.append_assoc, ← List.append_assoc]; exact hm3
  · have hlen : (ρ ++ ρn).length = m.length + new.length := by rw [hm2.len]; simp [roM_len]
    rw [← List.append_assoc]
    cases hvr with
    | tup hs hh =>
      rename_i ds
      refine .tup (by simpa using hs) fun i x y hx hy => ?_
      match i with
      | 0 =>
        have h0 := hh 0 (.slice none 0 0) y rfl hy
        simp at hx
        subst hx
        cases h0
        exact VR.nilRow9 (p := (0, 0, 0)) (by rw [← hlen]; simp)
      | 1 =>
        have h1 := hh 1 (.bool ok) y rfl hy
        simp at hx
        subst hx
        cases h1
        exact .bool _
      | i + 2 => simp at hx
theorem nilRow_ans {m new : Mem} {ok : Bool} (hn : NoRo new) : AnsO m (IntsO []) (fun v => .tuple #[v, .bool ok]) (.tuple #[.slice (some ⟨m.length + new.length, 0, none⟩) 0 0, .bool ok]) (new ++ [⟨.own, 3, []⟩]) := by
  refine ⟨noRo_app hn (noRo_own noRo_nil), _, rfl, by omega, by simp, fun m' hm => ⟨by simp, m.length + new.length, 0, rfl, by omega, by simp, ?_⟩⟩
  have := hm (m.length + new.length) (by omega) (by simp)
  unfold OwnR
  rw [this, ← List.append_assoc, List.getElem?_append_right (by simp)]
  simp
end Go.Proofs.Ytihjcjhnkpkomaa.Ab
