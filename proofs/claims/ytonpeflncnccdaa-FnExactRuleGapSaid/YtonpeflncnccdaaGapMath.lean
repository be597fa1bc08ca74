/- Backward costs and the best cost; plans from periods are plans; the lists of the rules. -/
import Derived.Test.YtonpeflncnccdaaBestMath
import Derived.Test.YtonpeflncnccdaaRuleMath
namespace Go.Proofs.Ytonpeflncnccdaa
set_option linter.unusedVariables false
set_option linter.unusedSimpArgs false

theorem bef_le {a b : Int × List Int} (h : bef a b = true) : a.1 ≤ b.1 := by
  unfold bef at h
  by_cases e : a.1 = b.1
  · omega
  · rw [if_neg e] at h; have := of_decide_eq_true h; omega
theorem bef_ge {a b : Int × List Int} (h : ¬ bef a b = true) : b.1 ≤ a.1 := by
  unfold bef at h
  by_cases e : a.1 = b.1
  · omega
  · rw [if_neg e] at h
    by_cases g : a.1 < b.1
    · exact absurd (decide_eq_true g) h
    · omega
theorem bwd_dp {k : Cs} (n m : Nat) (hm : m ≤ n) : ∀ x, x ≤ m → (bwdF k n m).getD x 0 = costL k n (dp k n (n - m + x)) := by
  induction m with
  | zero =>
    intro x hx
    obtain rfl : x = 0 := by omega
    rw [dp_end k (by omega)]; rfl
  | succ m ih =>
    intro x hx
    have ih := ih (by omega)
    rw [bwdF]
    cases x with
    | succ x =>
      rw [List.getD_cons_succ, ih x (by omega)]
      congr 2; omega
    | zero =>
      rw [List.getD_cons_zero, show n - (m + 1) + 0 = n - (m + 1) from rfl, dp_loop k (by omega), show n - 1 - (n - (m + 1)) = m by omega]
      have : ∀ q, q ≤ m → bmin k n (n - (m + 1)) (bwdF k n m) q = costL k n (dpLoop k n (n - (m + 1)) (dp k n) q) := by
        intro q
        induction q with
        | zero => intro _; rw [bmin, dpLoop, costL_cons, beg_nil, costL_nil]; simp
        | succ q ihq =>
          intro hq
          have e : n - m + q = n - (m + 1) + 1 + q := by omega
          have hd : beg n (dp k n (n - (m + 1) + 1 + q)) 0 = n - (m + 1) + 1 + q := ((dp_min k n (n - (n - (m + 1) + 1 + q)) _ (by omega)).1).2
          rw [bmin, ihq (by omega), ih q (by omega), e, dpLoop]
          have hc : costL k n (((n - (m + 1) : Nat) : Int) :: dp k n (n - (m + 1) + 1 + q)) = spanF k (n - (m + 1)) (n - (m + 1) + 1 + q) + costL k n (dp k n (n - (m + 1) + 1 + q)) := by
            rw [costL_cons, hd]; simp
          split
          · rename_i hb
            have := bef_le hb
            simp only [] at this
            rw [hc] at this ⊢
            omega
          · rename_i hb
            have := bef_ge hb
            simp only [] at this
            rw [hc] at this
            omega
      exact this m (Nat.le_refl _)
theorem needQ_spec (k : Cs) : ∀ (f t : Nat), (∀ j, t ≤ j → j < needQ k f t → k.need.getD j 0 = 0) ∧ (needQ k f t = t + f ∨ k.need.getD (needQ k f t) 0 ≠ 0) := by
  intro f
  induction f with
  | zero => intro t; exact ⟨fun j h1 h2 => by rw [needQ] at h2; omega, .inl rfl⟩
  | succ f ih =>
    intro t
    rw [needQ]
    by_cases h : k.need.getD t 0 = 0
    · rw [if_pos h]
      obtain ⟨h1, h2⟩ := ih (t + 1)
      refine ⟨fun j g1 g2 => ?_, ?_⟩
      · by_cases e : j = t
        · rw [e]; exact h
        · exact h1 j (by omega) g2
      · rcases h2 with h2 | h2
        · left; omega
        · exact .inr h2
    · rw [if_neg h]
      exact ⟨fun j g1 g2 => by omega, .inr h⟩
theorem firstN (k : Cs) : (∀ j, j < needN k 0 → k.need.getD j 0 = 0) ∧ (needN k 0 = k.need.length ∨ (needN k 0 < k.need.length ∧ k.need.getD (needN k 0) 0 ≠ 0)) := by
  obtain ⟨h1, h2⟩ := needQ_spec k (k.need.length - 0) 0
  have hle := needN_le (k := k) (t := 0) (by omega)
  refine ⟨fun j hj => h1 j (by omega) hj, ?_⟩
  rcases h2 with h2 | h2
  · left; unfold needN; omega
  · by_cases e : needN k 0 = k.need.length
    · exact .inl e
    · exact .inr ⟨by omega, h2⟩
theorem sumR_none {k : Cs} {f : Nat} (h : ∀ j, j < f → k.need.getD j 0 = 0) : ∀ t, t ≤ f → sumR k.need 0 t = 0 := by
  intro t
  induction t with
  | zero => intro _; exact sumR_self _ _
  | succ t ih => intro ht; rw [sumR_s, ih (by omega), h t (by omega)]; rfl
/-- The best cost is the first backward cost. -/
theorem bwd_best {k : Cs} (hg : Good k) : (bwdL k).getD 0 0 = bestCost k := by
  obtain ⟨hz, hT⟩ := firstN k
  have hle := needN_le (k := k) (t := 0) (by omega)
  obtain ⟨T, hTe⟩ : ∃ T, T = needN k 0 := ⟨_, rfl⟩
  rw [← hTe] at hz hT hle
  have hb := (bestL_dp hg hle hz hT).2
  have hd := bwd_dp (k := k) k.need.length k.need.length (Nat.le_refl _) 0 (Nat.zero_le _)
  rw [Nat.sub_self, Nat.add_zero] at hd
  unfold bwdL
  rw [hd, hb]
  have m0 := dp_min k k.need.length k.need.length 0 (by omega)
  have mT := blF_min k k.need.length T hle
  have a : costL k k.need.length (blF k k.need.length T) ≤ costL k k.need.length (dp k k.need.length 0) := by
    rcases mT.2 _ ⟨m0.1.1, by rw [m0.1.2]; omega⟩ with h | h
    · rw [h]; exact Int.le_refl _
    · exact bef_le h
  have b : costL k k.need.length (dp k k.need.length 0) ≤ costL k k.need.length (blF k k.need.length T) := by
    obtain ⟨h1, h2⟩ := mT.1
    by_cases e : beg k.need.length (blF k k.need.length T) 0 = 0
    · rcases m0.2 _ ⟨h1, e⟩ with h | h
      · rw [h]; exact Int.le_refl _
      · exact bef_le h
    · have hc : costL k k.need.length ((0 : Int) :: blF k k.need.length T) = costL k k.need.length (blF k k.need.length T) := by
        rw [costL_cons, show ((0 : Int)).toNat = 0 from rfl, spanF_zero k (sumR_none hz _ h2)]; simp
      rw [← hc]
      rcases m0.2 ((0 : Int) :: blF k k.need.length T) ⟨h1.cons (by omega) (show ((0 : Int)).toNat < _ by have : ((0 : Int)).toNat = 0 := rfl; omega), by rw [beg_cons0]; rfl⟩ with h | h
      · rw [h]; exact Int.le_refl _
      · exact bef_le h
  omega
theorem ruleP_rising (k : Cs) (rule : Int) : ∀ (f i : Nat), i ≤ k.need.length → k.need.length ≤ i + f → Rising (ruleP k rule f i) k.need.length ∧ beg k.need.length (ruleP k rule f i) 0 = i := by
  intro f
  induction f with
  | zero => intro i h1 h2; exact ⟨Rising.nil _, by rw [ruleP, beg_nil]; omega⟩
  | succ f ih =>
    intro i h1 h2
    by_cases h : i < k.need.length
    · rw [ruleP_go h]
      have e1 := endN_ge k rule i (i + 1)
      have e2 := endN_le (k := k) (rule := rule) (i := i) (j := i + 1) (by omega)
      have n1 := needN_ge k (endN k rule i (i + 1))
      have n2 := needN_le (k := k) e2
      obtain ⟨r1, r2⟩ := ih (needN k (endN k rule i (i + 1))) n2 (by omega)
      exact ⟨r1.cons (by omega) (by rw [r2]; omega), by rw [beg_cons0]; omega⟩
    · rw [ruleP_end (by omega)]
      exact ⟨Rising.nil _, by rw [beg_nil]; omega⟩
theorem ruleL_rising (k : Cs) (rule : Int) : Rising (ruleL k rule) k.need.length ∧ beg k.need.length (ruleL k rule) 0 = needN k 0 :=
  ruleP_rising k rule _ _ (needN_le (by omega)) (by omega)
theorem ruleL_covers {k : Cs} (hg : Good k) (rule : Int) : covers k.need (ruleL k rule) = true := by
  obtain ⟨hz, hT⟩ := firstN k
  obtain ⟨r1, r2⟩ := ruleL_rising k rule
  exact (cov_iff hg r1 hz hT).2 (by omega)
/-- The plan from order periods is a plan. -/
theorem fromL_plan {k : Cs} (hg : Good k) {ps : List Int} (hr : Rising ps k.need.length) (hc : covers k.need ps = true) :
    (∀ t, t < k.need.length → 0 ≤ stk (fromL k.need ps) k.need t) ∧ sumTo (fromL k.need ps) k.need.length = sumTo k.need k.need.length := by
  obtain ⟨plan, hplan⟩ : ∃ plan, plan = fromL k.need ps := ⟨_, rfl⟩
  have hno : ∀ t : Nat, (∀ j, j < ps.length → ps.getD j 0 ≠ (t : Int)) → plan.getD t 0 = 0 := fun t h => by rw [hplan]; exact fromI_no hr _ (Nat.le_refl _) h
  have hat : ∀ j, j < ps.length → plan.getD (beg k.need.length ps j) 0 = sumR k.need (beg k.need.length ps j) (beg k.need.length ps (j + 1)) := fun j h => by rw [hplan]; exact fromI_at hr _ (Nat.le_refl _) h
  have hbj : ∀ j, j < ps.length → (beg k.need.length ps j : Int) = ps.getD j 0 := fun j hj => by
    have := hr.bd j hj
    unfold beg; rw [if_pos hj]; omega
  have start : ∀ t, t ≤ beg k.need.length ps 0 → sumTo plan t = sumTo k.need t := by
    intro t
    induction t with
    | zero => intro _; rfl
    | succ t ih =>
      intro ht
      have hz := cov_zero hg hr hc t (by omega)
      have hp : plan.getD t 0 = 0 := hno t fun j hj he => by
        have h0 : 0 < ps.length := by omega
        have := hbj 0 h0
        rcases Nat.eq_zero_or_pos j with e | e
        · subst e; omega
        · have := hr.lt (i := 0) (j := j) e hj; omega
      rw [sumTo_g, sumTo_g, ih (by omega), hp, hz]
  have gap : ∀ i, i < ps.length → ∀ t, beg k.need.length ps i < t → t < beg k.need.length ps (i + 1) → plan.getD t 0 = 0 := fun i hi t h1 h2 => hno t fun j hj he => by
    have h3 := hbj i hi
    have h4 := hbj j hj
    by_cases hlt : j ≤ i
    · rcases Nat.lt_or_eq_of_le hlt with h | h
      · have := hr.lt h hi; omega
      · subst h; omega
    · have h5 := hbj (i + 1) (by omega)
      rcases Nat.lt_or_eq_of_le (show i + 1 ≤ j by omega) with h | h
      · have := hr.lt h hj; omega
      · subst h; omega
  have main : ∀ i, i ≤ ps.length → sumTo plan (beg k.need.length ps i) = sumTo k.need (beg k.need.length ps i) ∧ ∀ t, t < beg k.need.length ps i → 0 ≤ stk plan k.need t := by
    intro i
    induction i with
    | zero =>
      intro _
      refine ⟨start _ (Nat.le_refl _), fun t ht => ?_⟩
      unfold stk
      rw [start (t + 1) ht]; omega
    | succ i ih =>
      intro hi
      obtain ⟨i1, i2⟩ := ih (by omega)
      have hlt := beg_lt hr (i := i) (by omega)
      refine ⟨(seg_span hg hlt i1 (hat i (by omega)) (gap i (by omega))).1, fun t ht => ?_⟩
      by_cases h : t < beg k.need.length ps i
      · exact i2 t h
      · obtain ⟨s1, _⟩ := seg_cost hg hlt i1 (hat i (by omega)) (gap i (by omega)) (t - beg k.need.length ps i) (by omega)
        rw [show beg k.need.length ps i + (t - beg k.need.length ps i) + 1 = t + 1 by omega] at s1
        have := sumR_nn (m := 20) (by omega) hg.need (i := t + 1) (j := beg k.need.length ps (i + 1)) (by omega)
        unfold stk
        unfold sumR at this
        omega
  have hl : beg k.need.length ps ps.length = k.need.length := by unfold beg; rw [if_neg (by omega)]
  have he := main ps.length (Nat.le_refl _)
  rw [hl] at he
  rw [← hplan]
  exact ⟨he.2, he.1⟩
end Go.Proofs.Ytonpeflncnccdaa
