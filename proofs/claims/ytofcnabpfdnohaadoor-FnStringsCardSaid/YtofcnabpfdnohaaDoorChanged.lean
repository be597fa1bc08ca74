/- A sealed text with one byte changed is no sealed text. -/
import Derived.Test.YtofcnabpfdnohaaDoorVerify
import Derived.Test.YtofcnabpfdnohaaDoorReadMath
namespace Go.Proofs.YtofcnabpfdnohaaDoor
set_option linter.unusedVariables false

theorem ckStep_ne {h1 h2 : Int} (b1 : 0 ≤ h1 ∧ h1 ≤ 999978) (b2 : 0 ≤ h2 ∧ h2 ≤ 999978) (h : h1 ≠ h2) (c : UInt8) : ckStep h1 c ≠ ckStep h2 c := by
  unfold ckStep
  omega
theorem ckFold_ne (q : List UInt8) : ∀ {h1 h2 : Int}, (0 ≤ h1 ∧ h1 ≤ 999978) → (0 ≤ h2 ∧ h2 ≤ 999978) → h1 ≠ h2 → q.foldl ckStep h1 ≠ q.foldl ckStep h2 := by
  induction q with
  | nil => intro h1 h2 _ _ h; exact h
  | cons c q ih =>
    intro h1 h2 b1 b2 h
    exact ih (ckStep_bd _ _) (ckStep_bd _ _) (ckStep_ne b1 b2 h c)
theorem ckStep_byte {h : Int} {a c : UInt8} (hac : a ≠ c) : ckStep h a ≠ ckStep h c := by
  have h1 : a.toNat ≠ c.toNat := fun e => hac (UInt8.toNat_inj.1 e)
  have h2 := a.toNat_lt
  have h3 := c.toNat_lt
  unfold ckStep
  omega
theorem ck_set {l : List UInt8} {k : Nat} {a c : UInt8} (hk : l[k]? = some a) (hac : a ≠ c) : ck (l.set k c) ≠ ck l := by
  have hlt := (List.getElem?_eq_some_iff.1 hk).1
  have e1 : l = l.take k ++ a :: l.drop (k + 1) := by
    rw [← drop_at hk, List.take_append_drop]
  have e2 : l.set k c = l.take k ++ c :: l.drop (k + 1) := List.set_eq_take_append_cons_drop.trans (if_pos hlt)
  rw [e2]
  conv => rhs; rw [e1]
  unfold ck
  rw [List.foldl_append, List.foldl_append, List.foldl_cons, List.foldl_cons]
  exact ckFold_ne _ (ckStep_bd _ _) (ckStep_bd _ _) (ckStep_byte (Ne.symm hac))

theorem no35 {l : List UInt8} (h : hasB l 35 = false) {j : Nat} (hj : l[j]? = some 35) : False := by
  unfold hasB at h
  rw [List.any_eq_false] at h
  exact h 35 (List.mem_of_getElem? hj) (by simp)
theorem only35 {S D : List UInt8} (hS : hasB S 35 = false) (hD : hasB D 35 = false) {j : Nat} (hj : (S ++ 35 :: D)[j]? = some 35) : j = S.length := by
  rcases Nat.lt_or_ge j S.length with h | h
  · rw [List.getElem?_append_left h] at hj
    exact (no35 hS hj).elim
  · rw [List.getElem?_append_right h] at hj
    cases e : j - S.length with
    | zero => omega
    | succ i =>
      rw [e, List.getElem?_cons_succ] at hj
      exact (no35 hD hj).elim
theorem at35 (S D : List UInt8) : (S ++ 35 :: D)[S.length]? = some 35 := by
  rw [List.getElem?_append_right (Nat.le_refl _)]; simp

theorem changed_list (S T : List UInt8) (hS : hasB S 35 = false) (hT : hasB T 35 = false) (k : Nat) (a c : UInt8) (hk : (S ++ 35 :: ckDigits S)[k]? = some a) (hac : a ≠ c) :
    (S ++ 35 :: ckDigits S).set k c ≠ T ++ 35 :: ckDigits T := by
  intro e
  have hD := ckDigits_no S
  have hE := ckDigits_no T
  have hlt := (List.getElem?_eq_some_iff.1 hk).1
  have hset : ∀ j, j ≠ k → ((S ++ 35 :: ckDigits S).set k c)[j]? = (S ++ 35 :: ckDigits S)[j]? := fun j hj => List.getElem?_set_ne (Ne.symm hj)
  have hkk : ((S ++ 35 :: ckDigits S).set k c)[k]? = some c := List.getElem?_set_self hlt
  by_cases h0 : k = S.length
  · have h1 := at35 T (ckDigits T)
    rw [← e] at h1
    by_cases h2 : T.length = k
    · rw [h2, hkk] at h1
      have h3 := at35 S (ckDigits S)
      rw [← h0, hk] at h3
      exact hac ((Option.some.inj h3).trans (Option.some.inj h1).symm)
    · rw [hset _ h2] at h1
      exact h2 (by rw [only35 hS hD h1, h0])
  · have h1 : (T ++ 35 :: ckDigits T)[S.length]? = some 35 := by
      rw [← e, hset _ (Ne.symm h0)]; exact at35 _ _
    have hlen := only35 hT hE h1
    rcases Nat.lt_or_ge k S.length with h2 | h2
    · rw [List.set_append_left _ _ h2] at e
      obtain ⟨e1, e2⟩ := List.append_inj e (by simpa using hlen)
      have e3 : ck S = ck T := by
        have := (List.cons.inj e2).2
        exact itoa_inj this
      rw [List.getElem?_append_left h2] at hk
      exact ck_set hk hac (by rw [e1, e3])
    · rw [List.set_append_right _ _ h2] at e
      obtain ⟨e1, e2⟩ := List.append_inj e hlen
      subst e1
      have h3 : ((35 :: ckDigits S).set (k - S.length) c)[k - S.length]? = some c := List.getElem?_set_self (by simp at hlt ⊢; omega)
      rw [e2] at h3
      rw [List.getElem?_append_right h2] at hk
      rw [hk] at h3
      exact hac (Option.some.inj h3)
end Go.Proofs.YtofcnabpfdnohaaDoor
