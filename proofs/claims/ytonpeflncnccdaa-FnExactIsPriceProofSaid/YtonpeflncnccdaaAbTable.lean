/- Forward costs and last orders: ForwardCosts, LastOrders. -/
import Derived.Test.YtonpeflncnccdaaAbApp
import Derived.Test.YtonpeflncnccdaaAbSpan
namespace Go.Proofs.Ytonpeflncnccdaa.Ab
open Go Go.RowKit
set_option linter.unusedVariables false
set_option linter.unusedSimpArgs false

/-- An answer: two new rows. -/
def AnsT (m : Mem) (l1 l2 : List Int) (r : Value) (new : Mem) : Prop :=
  NoRo new ∧ ∃ i1 i2 f1 f2, r = .tuple #[.slice (some ⟨m.length + i1, 0, none⟩) l1.length f1, .slice (some ⟨m.length + i2, 0, none⟩) l2.length f2] ∧ new[i1]? = some (rowB l1) ∧ new[i2]? = some (rowB l2)
theorem AnsT.rows {m new : Mem} {l1 l2 : List Int} {r : Value} (h : AnsT m l1 l2 r new) :
    ∃ d1 d2 f1 f2, r = .tuple #[.slice (some ⟨d1, 0, none⟩) l1.length f1, .slice (some ⟨d2, 0, none⟩) l2.length f2] ∧ m.length ≤ d1 ∧ m.length ≤ d2 ∧ OwnR (m ++ new) d1 l1 ∧ OwnR (m ++ new) d2 l2 ∧ NoRo new := by
  obtain ⟨h1, i1, i2, f1, f2, rfl, h3, h4⟩ := h
  exact ⟨_, _, f1, f2, rfl, by omega, by omega, OwnR.new h3 rfl, OwnR.new h4 rfl, h1⟩
theorem ext_ansT {m M : Mem} {l1 l2 : List Int} {d1 d2 n1 n2 f1 f2 : Nat} (h : Ext m M) (o1 : OwnR M d1 l1) (o2 : OwnR M d2 l2) (h1 : m.length ≤ d1) (h2 : m.length ≤ d2) (e1 : n1 = l1.length) (e2 : n2 = l2.length) :
    newQ m (AnsT m l1 l2) (.tuple #[.slice (some ⟨d1, 0, none⟩) n1 f1, .slice (some ⟨d2, 0, none⟩) n2 f2]) M := by
  subst e1 e2
  obtain ⟨n0, rfl, h0⟩ := h
  unfold OwnR at o1 o2
  rw [List.getElem?_append_right (by rw [roM_len]; assumption), roM_len] at o1 o2
  exact ⟨n0, rfl, h0, h0, d1 - m.length, d2 - m.length, f1, f2, by rw [Nat.add_sub_cancel' h1, Nat.add_sub_cancel' h2], o1, o2⟩

def forwardA (k : Cs) : List Int := if k.good then fwdC k k.need.length else []
def lastsA (k : Cs) : List Int := if k.good then fwdL k k.need.length else []
theorem forwardA_no {k : Cs} (h : k.good = false) : forwardA k = [] := by unfold forwardA; rw [h]; rfl
theorem forwardA_yes {k : Cs} (h : k.good = true) : forwardA k = fwdC k k.need.length := by unfold forwardA; rw [h]; rfl
theorem lastsA_no {k : Cs} (h : k.good = false) : lastsA k = [] := by unfold lastsA; rw [h]; rfl
theorem lastsA_yes {k : Cs} (h : k.good = true) : lastsA k = fwdL k k.need.length := by unfold lastsA; rw [h]; rfl

end Go.Proofs.Ytonpeflncnccdaa.Ab
