/- Lists that grow behind other memory; IsPlan, EmptyPeriods, OrderPeriods, OrdersAtEmpty. -/
import Derived.Test.YtnkbjliidenldaaAbWalk
namespace Go.Proofs.Ytnkbjliidenldaa.Ab
open Go Go.RowKit
set_option linter.unusedVariables false
set_option linter.unusedSimpArgs false

/-- What a memory has become: the blocks that came in, only to be read, and new ones. -/
def Ext (m M : Mem) : Prop := ∃ new, M = roM m ++ new ∧ NoRo new
theorem Ext.refl (m : Mem) : Ext m (roM m) := ⟨[], by simp, noRo_nil⟩
theorem Ext.app {m M new : Mem} (h : Ext m M) (hn : NoRo new) : Ext m (M ++ new) := by
  obtain ⟨n0, rfl, h0⟩ := h
  exact ⟨n0 ++ new, by rw [List.append_assoc], noRo_app h0 hn⟩
theorem Ext.one {m M : Mem} (h : Ext m M) (e : TypeId) (cs : List Value) : Ext m (M ++ [⟨.own, e, cs⟩]) := h.app (noRo_own noRo_nil)
theorem Ext.len {m M : Mem} (h : Ext m M) : m.length ≤ M.length := by
  obtain ⟨n0, rfl, h0⟩ := h
  simp [roM_len]
theorem Ext.ints {m M : Mem} (h : Ext m M) {v : Value} {l : List Int} (hi : IntsA (roM m) v l) : IntsA M v l := by
  obtain ⟨n0, rfl, h0⟩ := h
  exact hi.ext _
theorem noRo_set {l : Mem} {i : Nat} (h : NoRo l) : NoRo (l.set i deadB) := fun b hb => by
  rcases List.mem_or_eq_of_mem_set hb with h1 | h1
  · exact h b h1
  · rw [h1]; simp [deadB]
theorem Ext.dead {m M : Mem} (h : Ext m M) {id : Nat} (hid : m.length ≤ id) : Ext m (M.set id deadB) := by
  obtain ⟨n0, rfl, h0⟩ := h
  exact ⟨n0.set (id - m.length) deadB, by rw [List.set_append_right _ _ (by rw [roM_len]; exact hid), roM_len], noRo_set h0⟩
theorem OwnR.dead {m : Mem} {id id' : Nat} {l : List Int} (h : OwnR m id' l) (hne : id ≠ id') : OwnR (m.set id deadB) id' l := by
  unfold OwnR; rw [List.getElem?_set_ne hne]; exact h
theorem OwnR.at_end (m : Mem) (l : List Int) : OwnR (m ++ [⟨.own, 3, l.map (Value.int .i64)⟩]) m.length l := by unfold OwnR; simp
theorem OwnR.end' {m : Mem} {l : List Int} {id : Nat} (h : id = m.length) : OwnR (m ++ [⟨.own, 3, l.map (Value.int .i64)⟩]) id l := by rw [h]; exact OwnR.at_end m l
theorem app_gen {M : Mem} {l : List Int} {x : Int} {id : Nat} (h : OwnR M id l) (hb : l.length ≤ 1048576) :
    appP (M ++ [⟨.own, 3, [.int .i64 x]⟩]) 3 1 8 (.slice (some ⟨id, 0, none⟩) l.length 1) (.slice (some ⟨M.length, 0, none⟩) 1 1) =
      some (.slice (some ⟨M.length + 1, 0, none⟩) (l.length + 1) 1, M.set id deadB ++ [⟨.own, 3, [.int .i64 x]⟩] ++ [⟨.own, 3, (l ++ [x]).map (Value.int .i64)⟩]) := by
  have hl := h.lt
  have e1 : slR (M ++ [⟨.own, 3, [.int .i64 x]⟩]) 1 (.slice (some ⟨M.length, 0, none⟩) 1 1) = some [.int .i64 x] := by
    simp only [slR, rdl, Nat.mul_one]
    simp
  unfold appP
  rw [e1]
  simp only [onesB_int, onesB_nil, if_true, appA, lenOfA]
  rw [List.getElem?_append_left hl, show M[id]? = some (rowB l) from h]
  simp only [List.length_map, Nat.mul_one, true_and]
  rw [if_pos (by omega), List.set_append_left _ _ hl]
  simp
theorem ext_ansL {m M : Mem} {l : List Int} {id n fl : Nat} {ok : Bool} (h : Ext m M) (ho : OwnR M id l) (hid : m.length ≤ id) (hn : n = l.length) (hl : l.length ≤ 1048576) :
    newQ m (AnsL m l ok) (.tuple #[.slice (some ⟨id, 0, none⟩) n fl, .bool ok]) M := by
  subst hn
  obtain ⟨n0, rfl, h0⟩ := h
  unfold OwnR at ho
  rw [List.getElem?_append_right (by rw [roM_len]; exact hid), roM_len] at ho
  exact ⟨n0, rfl, h0, h0, hl, id - m.length, fl, by rw [Nat.add_sub_cancel' hid], ho⟩
theorem ext_ansR {m M : Mem} {l : List Int} {id n fl : Nat} (h : Ext m M) (ho : OwnR M id l) (hid : m.length ≤ id) (hn : n = l.length) (hl : l.length ≤ 1048576) :
    newQ m (AnsR m l) (.slice (some ⟨id, 0, none⟩) n fl) M := by
  subst hn
  obtain ⟨n0, rfl, h0⟩ := h
  unfold OwnR at ho
  rw [List.getElem?_append_right (by rw [roM_len]; exact hid), roM_len] at ho
  exact ⟨n0, rfl, h0, h0, hl, id - m.length, fl, by rw [Nat.add_sub_cancel' hid], ho⟩
theorem ext_ansV {m M : Mem} {x v : Value} (h : Ext m M) (hv : v = x) : newQ m (AnsV x) v M := by
  obtain ⟨n0, rfl, h0⟩ := h
  exact ⟨n0, rfl, h0, hv, h0⟩
theorem AnsL.row {m new : Mem} {l : List Int} {ok : Bool} {r : Value} (h : AnsL m l ok r new) : ∃ id fl, r = .tuple #[.slice (some ⟨id, 0, none⟩) l.length fl, .bool ok] ∧ m.length ≤ id ∧ OwnR (m ++ new) id l ∧ l.length ≤ 1048576 ∧ NoRo new := by
  obtain ⟨h1, h2, i, fl, rfl, h3⟩ := h
  exact ⟨_, fl, rfl, by omega, OwnR.new h3 rfl, h2, h1⟩

/-- The places of the right numbers among the first k. -/
def picks (f : Int → Bool) (l : List Int) : Nat → List Int
  | 0 => []
  | k + 1 => if f (l.getD k 0) then picks f l k ++ [(k : Int)] else picks f l k
theorem picks_len (f : Int → Bool) (l : List Int) (k : Nat) : (picks f l k).length ≤ k := by
  induction k with
  | zero => simp [picks]
  | succ k ih => rw [picks]; split <;> (try rw [List.length_append, List.length_singleton]) <;> omega

def emptyA (k : Cs) (plan : List Int) : List Int := if two k plan then picks (fun x => x == 0) (stocksL plan k.need) (stocksL plan k.need).length else []
theorem emptyA_no {k : Cs} {plan : List Int} (h : two k plan = false) : emptyA k plan = [] := by unfold emptyA; rw [h]; rfl
theorem emptyA_yes {k : Cs} {plan : List Int} (h : two k plan = true) : emptyA k plan = picks (fun x => x == 0) (stocksL plan k.need) (stocksL plan k.need).length := by unfold emptyA; rw [h]; rfl
theorem stocksA_yes {k : Cs} {plan : List Int} (h : two k plan = true) : stocksA k plan = stocksL plan k.need := by unfold stocksA; rw [h]; rfl

def orderA (k : Cs) (plan : List Int) : List Int := if two k plan then picks (fun x => decide (0 < x)) plan plan.length else []
theorem orderA_no {k : Cs} {plan : List Int} (h : two k plan = false) : orderA k plan = [] := by unfold orderA; rw [h]; rfl
theorem orderA_yes {k : Cs} {plan : List Int} (h : two k plan = true) : orderA k plan = picks (fun x => decide (0 < x)) plan plan.length := by unfold orderA; rw [h]; rfl

end Go.Proofs.Ytnkbjliidenldaa.Ab
