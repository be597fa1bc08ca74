/- The best lots by their first periods, and by all lists of order periods. -/
import Derived.Test.YtgomgpfofniloaaBestMath
namespace Go.Proofs.Ytgomgpfofniloaa
set_option linter.unusedVariables false
set_option linter.unusedSimpArgs false

/-! Where an order's span begins. -/
def beg (n : Nat) (ps : List Int) (i : Nat) : Nat := if i < ps.length then (ps.getD i 0).toNat else n
theorem nxt_beg (n : Nat) (ps : List Int) (i : Nat) : nxtP n ps i = beg n ps (i + 1) := rfl
theorem Rising.lt {ps : List Int} {n : Nat} (h : Rising ps n) {i j : Nat} (hij : i < j) (hj : j < ps.length) : ps.getD i 0 < ps.getD j 0 := by
  induction j with
  | zero => omega
  | succ j ih =>
    have := h.up j hj
    by_cases e : i = j
    · subst e; exact this
    · have := ih (by omega) (by omega); omega
theorem Rising.nil (n : Nat) : Rising [] n := ⟨fun i hi => absurd hi (by simp), fun i hi => absurd hi (by simp)⟩
theorem beg_le {n : Nat} {ps : List Int} (h : Rising ps n) (i : Nat) : beg n ps i ≤ n := by
  unfold beg
  split
  · have := h.bd i ‹_›; omega
  · omega
theorem beg_nil (n i : Nat) : beg n [] i = n := by simp [beg]
theorem beg_cons0 (n : Nat) (p : Int) (r : List Int) : beg n (p :: r) 0 = p.toNat := by simp [beg]
theorem beg_cons (n : Nat) (p : Int) (r : List Int) (i : Nat) : beg n (p :: r) (i + 1) = beg n r i := by
  unfold beg
  by_cases h : i < r.length
  · rw [if_pos (by simpa using h), if_pos h]; rfl
  · rw [if_neg (by simpa using h), if_neg h]
theorem Rising.tail {p : Int} {r : List Int} {n : Nat} (h : Rising (p :: r) n) : Rising r n ∧ 0 ≤ p ∧ p.toNat < beg n r 0 := by
  have h0 := h.bd 0 (by simp)
  simp only [List.getD_cons_zero] at h0
  refine ⟨⟨fun i hi => ?_, fun i hi => ?_⟩, h0.1, ?_⟩
  · have := h.bd (i + 1) (by simpa using hi); simpa using this
  · have := h.up (i + 1) (by simpa using hi); simpa using this
  · unfold beg
    split
    · rename_i hl
      have := h.up 0 (by simpa using hl)
      simp only [List.getD_cons_zero, Nat.zero_add, List.getD_cons_succ] at this
      omega
    · omega
theorem Rising.cons {p : Int} {r : List Int} {n : Nat} (h : Rising r n) (h0 : 0 ≤ p) (hp : p.toNat < beg n r 0) : Rising (p :: r) n := by
  have hb := beg_le h 0
  refine ⟨fun i hi => ?_, fun i hi => ?_⟩
  · cases i with
    | zero => simp only [List.getD_cons_zero]; omega
    | succ i => have := h.bd i (by simpa using hi); simpa using this
  · cases i with
    | zero =>
      simp only [List.getD_cons_zero, Nat.zero_add, List.getD_cons_succ]
      have hl : 0 < r.length := by simpa using hi
      unfold beg at hp
      rw [if_pos hl] at hp
      omega
    | succ i => have := h.up i (by simpa using hi); simpa using this

/-! What a plan from order periods costs: its spans. -/
def costI (k : Cs) (n : Nat) (ps : List Int) : Nat → Int
  | 0 => 0
  | i + 1 => costI k n ps i + spanF k (beg n ps i) (beg n ps (i + 1))
def costL (k : Cs) (n : Nat) (ps : List Int) : Int := costI k n ps ps.length
theorem costI_cons (k : Cs) (n : Nat) (p : Int) (r : List Int) (i : Nat) : costI k n (p :: r) (i + 1) = spanF k p.toNat (beg n r 0) + costI k n r i := by
  induction i with
  | zero => rw [costI, costI, costI, beg_cons0, beg_cons]; omega
  | succ i ih => rw [costI, ih, beg_cons, beg_cons, costI]; omega
theorem costL_nil (k : Cs) (n : Nat) : costL k n [] = 0 := rfl
theorem costL_cons (k : Cs) (n : Nat) (p : Int) (r : List Int) : costL k n (p :: r) = spanF k p.toNat (beg n r 0) + costL k n r := costI_cons k n p r r.length
theorem beg_mono {n : Nat} {ps : List Int} (h : Rising ps n) (i : Nat) (hi : i < ps.length) : beg n ps i < beg n ps (i + 1) ∨ (beg n ps i ≤ n ∧ beg n ps (i + 1) = n ∧ beg n ps i < n) := by
  have h1 := h.bd i hi
  unfold beg
  rw [if_pos hi]
  split
  · have := h.up i ‹_›; have := h.bd (i + 1) ‹_›; left; omega
  · right; omega
theorem beg_lt {n : Nat} {ps : List Int} (h : Rising ps n) {i : Nat} (hi : i < ps.length) : beg n ps i < beg n ps (i + 1) := by
  rcases beg_mono h i hi with h | ⟨_, h1, h2⟩ <;> omega
theorem costI_in {k : Cs} (hg : Good k) {ps : List Int} (h : Rising ps k.need.length) (i : Nat) (hi : i ≤ ps.length) : 0 ≤ costI k k.need.length ps i ∧ costI k k.need.length ps i ≤ 13059 * i := by
  induction i with
  | zero => simp [costI]
  | succ i ih =>
    have h1 := beg_lt h (i := i) (by omega)
    have h2 := beg_le h (i + 1)
    have h3 := hg.n8
    have := spanF_in hg (Nat.le_of_lt h1) (by omega)
    have := ih (by omega)
    rw [costI]
    omega
theorem Rising.len {n : Nat} : ∀ {ps : List Int}, Rising ps n → ps.length + beg n ps 0 ≤ n := by
  intro ps
  induction ps with
  | nil => intro h; rw [beg_nil]; simp
  | cons p r ih =>
    intro h
    obtain ⟨h1, h2, h3⟩ := h.tail
    have := ih h1
    rw [beg_cons0, List.length_cons]
    omega
theorem costL_in {k : Cs} (hg : Good k) {ps : List Int} (h : Rising ps k.need.length) : 0 ≤ costL k k.need.length ps ∧ costL k k.need.length ps ≤ 104472 := by
  have h1 := costI_in hg h ps.length (Nat.le_refl _)
  have h2 := h.len
  have h3 := hg.n8
  unfold costL
  omega
theorem fromI_no {need ps : List Int} (h : Rising ps need.length) {t : Nat} : ∀ i, i ≤ ps.length → (∀ j, j < i → ps.getD j 0 ≠ t) → (fromI need ps i).getD t 0 = 0 := by
  intro i
  induction i with
  | zero => intro _ _; rw [fromI, List.getD_eq_getElem?_getD, List.getElem?_replicate]; split <;> rfl
  | succ i ih =>
    intro hi hne
    have h1 := h.bd i (by omega)
    have h2 := hne i (by omega)
    rw [fromI, List.getD_eq_getElem?_getD, List.getElem?_set_ne (by omega), ← List.getD_eq_getElem?_getD]
    exact ih (by omega) fun j hj => hne j (by omega)
theorem fromI_at {need ps : List Int} (h : Rising ps need.length) {j : Nat} : ∀ i, i ≤ ps.length → j < i → (fromI need ps i).getD (beg need.length ps j) 0 = sumR need (beg need.length ps j) (beg need.length ps (j + 1)) := by
  intro i
  induction i with
  | zero => intro _ hj; omega
  | succ i ih =>
    intro hi hj
    have h1 := h.bd i (by omega)
    have hbi : beg need.length ps i = (ps.getD i 0).toNat := by unfold beg; rw [if_pos (by omega)]
    have hbj : beg need.length ps j = (ps.getD j 0).toNat := by unfold beg; rw [if_pos (by omega)]
    rw [fromI]
    by_cases e : j = i
    · subst e
      rw [nxt_beg, ← hbi, List.getD_eq_getElem?_getD, List.getElem?_set_self (by rw [fromI_len, hbi]; omega)]
      rfl
    · have h2 := h.lt (i := j) (j := i) (by omega) (by omega)
      have h3 := h.bd j (by omega)
      rw [List.getD_eq_getElem?_getD, List.getElem?_set_ne (by omega), ← List.getD_eq_getElem?_getD]
      exact ih (by omega) (by omega)
/-- The cost of the first t periods. -/
def cT (k : Cs) (plan : List Int) (t : Nat) : Int := cSet k plan t + cUnit k plan t + cHold k plan t
theorem seg_cost {k : Cs} (hg : Good k) {plan : List Int} {p e : Nat} (hpe : p < e) (hs : sumTo plan p = sumTo k.need p) (ha : plan.getD p 0 = sumR k.need p e) (hz : ∀ t, p < t → t < e → plan.getD t 0 = 0) (d : Nat) (hd : p + d + 1 ≤ e) :
    sumTo plan (p + d + 1) = sumTo k.need e ∧ cT k plan (p + d + 1) = cT k plan p + (if 0 < sumR k.need p e then k.setup.getD p 0 else 0) + k.unit.getD p 0 * sumR k.need p e + holdS k p e (p + d + 1) := by
  induction d with
  | zero =>
    have h1 : sumTo plan (p + 1) = sumTo k.need e := by rw [sumTo_g, ha, hs]; unfold sumR; omega
    refine ⟨h1, ?_⟩
    have h2 : stk plan k.need p = sumR k.need (p + 1) e := by unfold stk sumR; rw [h1]
    rw [Nat.add_zero, holdS_s k (Nat.le_refl _), holdS_self]
    unfold cT
    rw [cSet, cUnit, cHold, ha, h2]
    split <;> omega
  | succ d ih =>
    obtain ⟨i1, i2⟩ := ih (by omega)
    have hz' := hz (p + d + 1) (by omega) (by omega)
    have h1 : sumTo plan (p + d + 1 + 1) = sumTo k.need e := by rw [sumTo_g, hz', i1]; omega
    refine ⟨h1, ?_⟩
    have h2 : stk plan k.need (p + d + 1) = sumR k.need (p + d + 1 + 1) e := by unfold stk sumR; rw [h1]
    rw [show p + (d + 1) + 1 = p + d + 1 + 1 by omega, holdS_s k (by omega)]
    unfold cT at i2 ⊢
    rw [cSet, cUnit, cHold, hz', h2, if_neg (by omega), Int.mul_zero]
    omega
theorem holdS_none {k : Cs} (hg : Good k) {p e : Nat} (h : sumR k.need p e = 0) (d : Nat) (hd : p + d ≤ e) : holdS k p e (p + d) = 0 := by
  induction d with
  | zero => exact holdS_self k p e
  | succ d ih =>
    have h1 := sumR_nn (m := 20) (by omega) hg.need (i := p) (j := p + d + 1) (by omega)
    have h2 := sumR_nn (m := 20) (by omega) hg.need (i := p + d + 1) (j := e) (by omega)
    have h3 := sumR_add k.need p (p + d + 1) e
    have h4 : sumR k.need (p + d + 1) e = 0 := by omega
    rw [← Nat.add_assoc, holdS_s k (by omega), ih (by omega), h4]
    simp
theorem seg_span {k : Cs} (hg : Good k) {plan : List Int} {p e : Nat} (hpe : p < e) (hs : sumTo plan p = sumTo k.need p) (ha : plan.getD p 0 = sumR k.need p e) (hz : ∀ t, p < t → t < e → plan.getD t 0 = 0) :
    sumTo plan e = sumTo k.need e ∧ cT k plan e = cT k plan p + spanF k p e := by
  obtain ⟨h1, h2⟩ := seg_cost hg hpe hs ha hz (e - p - 1) (by omega)
  rw [show p + (e - p - 1) + 1 = e by omega] at h1 h2
  refine ⟨h1, ?_⟩
  have hnn := sumR_nn (m := 20) (by omega) hg.need (i := p) (j := e) (by omega)
  by_cases h0 : 0 < sumR k.need p e
  · rw [h2, spanF_order k (by omega) h0, if_pos h0]; omega
  · have hz0 : sumR k.need p e = 0 := by omega
    have hh := holdS_none hg hz0 (e - p) (by omega)
    rw [show p + (e - p) = e by omega] at hh
    rw [h2, hh, spanF_zero k hz0, hz0, Int.mul_zero]
    simp
theorem cov_zero {k : Cs} (hg : Good k) {ps : List Int} (hr : Rising ps k.need.length) (hc : covers k.need ps = true) (t : Nat) (ht : t < beg k.need.length ps 0) : k.need.getD t 0 = 0 := by
  have hb := beg_le hr 0
  have hn := getD_bound (m := 20) (by omega) hg.need t
  have h := of_decide_eq_true hc t (by omega) ?_
  · omega
  · cases ps with
    | nil => simp [beg] at ht; exact Int.ofNat_lt.2 ht
    | cons p r =>
      rw [beg_cons0] at ht
      show (t : Int) < p
      omega
theorem fromL_cost {k : Cs} (hg : Good k) {ps : List Int} (hr : Rising ps k.need.length) (hc : covers k.need ps = true) : costOf k (fromL k.need ps) = costL k k.need.length ps := by
  obtain ⟨plan, hplan⟩ : ∃ plan, plan = fromL k.need ps := ⟨_, rfl⟩
  have hno : ∀ t : Nat, (∀ j, j < ps.length → ps.getD j 0 ≠ (t : Int)) → plan.getD t 0 = 0 := fun t h => by rw [hplan]; exact fromI_no hr _ (Nat.le_refl _) h
  have hat : ∀ j, j < ps.length → plan.getD (beg k.need.length ps j) 0 = sumR k.need (beg k.need.length ps j) (beg k.need.length ps (j + 1)) := fun j h => by rw [hplan]; exact fromI_at hr _ (Nat.le_refl _) h
  have hbj : ∀ j, j < ps.length → (beg k.need.length ps j : Int) = ps.getD j 0 := fun j hj => by
    have := hr.bd j hj
    unfold beg; rw [if_pos hj]; omega
  have start : ∀ t, t ≤ beg k.need.length ps 0 → sumTo plan t = sumTo k.need t ∧ cT k plan t = 0 := by
    intro t
    induction t with
    | zero => intro _; exact ⟨rfl, rfl⟩
    | succ t ih =>
      intro ht
      obtain ⟨i1, i2⟩ := ih (by omega)
      have hz := cov_zero hg hr hc t (by omega)
      have hp : plan.getD t 0 = 0 := hno t fun j hj he => by
        have h0 : 0 < ps.length := by omega
        have := hbj 0 h0
        rcases Nat.eq_zero_or_pos j with e | e
        · subst e; omega
        · have := hr.lt (i := 0) (j := j) e hj; omega
      have s1 : sumTo plan (t + 1) = sumTo k.need (t + 1) := by rw [sumTo_g, sumTo_g, i1, hp, hz]
      refine ⟨s1, ?_⟩
      have s2 : stk plan k.need t = 0 := by unfold stk; omega
      unfold cT at i2 ⊢
      rw [cSet, cUnit, cHold, hp, s2, if_neg (by omega), Int.mul_zero, Int.mul_zero]
      omega
  have main : ∀ i, i ≤ ps.length → sumTo plan (beg k.need.length ps i) = sumTo k.need (beg k.need.length ps i) ∧ cT k plan (beg k.need.length ps i) = costI k k.need.length ps i := by
    intro i
    induction i with
    | zero => intro _; exact start _ (Nat.le_refl _)
    | succ i ih =>
      intro hi
      obtain ⟨i1, i2⟩ := ih (by omega)
      obtain ⟨s1, s2⟩ := seg_span hg (beg_lt hr (by omega)) i1 (hat i (by omega)) fun t h1 h2 => hno t fun j hj he => by
        have h3 := hbj i (by omega)
        have h4 := hbj j hj
        by_cases hlt : j ≤ i
        · rcases Nat.lt_or_eq_of_le hlt with h | h
          · have := hr.lt h (by omega); omega
          · subst h; omega
        · have h5 := hbj (i + 1) (by omega)
          rcases Nat.lt_or_eq_of_le (show i + 1 ≤ j by omega) with h | h
          · have := hr.lt h hj; omega
          · subst h; omega
      exact ⟨s1, by rw [s2, i2, costI]⟩
  have hend := (main ps.length (Nat.le_refl _)).2
  have hl : beg k.need.length ps ps.length = k.need.length := by unfold beg; rw [if_neg (by omega)]
  rw [hl] at hend
  have hpl : plan.length = k.need.length := by rw [hplan]; exact fromL_len _ _
  rw [← hplan]
  unfold costOf costL
  rw [hpl]
  exact hend
end Go.Proofs.Ytgomgpfofniloaa
