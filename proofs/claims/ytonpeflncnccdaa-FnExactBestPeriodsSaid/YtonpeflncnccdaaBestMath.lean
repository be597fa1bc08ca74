/- Plans from order periods, lists of order periods and their order. -/
import Derived.Test.YtonpeflncnccdaaTabMath
namespace Go.Proofs.Ytonpeflncnccdaa
set_option linter.unusedVariables false
set_option linter.unusedSimpArgs false

/-- Rising numbers below n. -/
structure Rising (ps : List Int) (n : Nat) : Prop where
  bd : ∀ i, i < ps.length → 0 ≤ ps.getD i 0 ∧ ps.getD i 0 < n
  up : ∀ i, i + 1 < ps.length → ps.getD i 0 < ps.getD (i + 1) 0
/-- Where the span of the i-th order ends. -/
def nxtP (n : Nat) (ps : List Int) (i : Nat) : Nat := if i + 1 < ps.length then (ps.getD (i + 1) 0).toNat else n
theorem nxtP_in {n : Nat} {ps : List Int} (h : Rising ps n) {i : Nat} (hi : i < ps.length) : (ps.getD i 0).toNat ≤ nxtP n ps i ∧ nxtP n ps i ≤ n := by
  have h1 := h.bd i hi
  unfold nxtP
  by_cases h2 : i + 1 < ps.length
  · rw [if_pos h2]
    have := h.bd (i + 1) h2
    have := h.up i h2
    omega
  · rw [if_neg h2]; omega
/-- The plan from the first i orders. -/
def fromI (need ps : List Int) : Nat → List Int
  | 0 => List.replicate need.length 0
  | i + 1 => (fromI need ps i).set (ps.getD i 0).toNat (sumR need (ps.getD i 0).toNat (nxtP need.length ps i))
def fromL (need ps : List Int) : List Int := fromI need ps ps.length
theorem fromI_len (need ps : List Int) (i : Nat) : (fromI need ps i).length = need.length := by
  induction i with
  | zero => simp [fromI]
  | succ i ih => rw [fromI, List.length_set, ih]
theorem fromI_in {need ps : List Int} (hn : ∀ x ∈ need, 0 ≤ x ∧ x ≤ 20) (h8 : need.length ≤ 8) (h : Rising ps need.length) (i : Nat) (hi : i ≤ ps.length) : ∀ x ∈ fromI need ps i, 0 ≤ x ∧ x ≤ 160 := by
  induction i with
  | zero => intro x hx; rw [fromI] at hx; have := List.eq_of_mem_replicate hx; omega
  | succ i ih =>
    intro x hx
    rw [fromI] at hx
    have h1 := nxtP_in h (i := i) (by omega)
    rcases List.mem_or_eq_of_mem_set hx with h2 | h2
    · exact ih (by omega) x h2
    · have a := sumR_nn (m := 20) (by omega) hn h1.1
      have b := sumR_le8 (m := 20) (by omega) hn h1.1 (by omega)
      omega
theorem fromL_len (need ps : List Int) : (fromL need ps).length = need.length := fromI_len _ _ _
theorem fromL_in {need ps : List Int} (hn : ∀ x ∈ need, 0 ≤ x ∧ x ≤ 20) (h8 : need.length ≤ 8) (h : Rising ps need.length) : ∀ x ∈ fromL need ps, 0 ≤ x ∧ x ≤ 160 := fromI_in hn h8 h _ (Nat.le_refl _)
/-- Nothing is needed before the first order. -/
def covers (need ps : List Int) : Bool := decide (∀ t, t < need.length → (t : Int) < ps.headD need.length → need.getD t 0 ≤ 0)
theorem covers_yes {need ps : List Int} {t : Nat} (ht : t ≤ need.length) (h : ∀ j, j < t → need.getD j 0 ≤ 0) (he : t = need.length ∨ (0 < ps.length ∧ ps.getD 0 0 ≤ t)) : covers need ps = true := by
  refine decide_eq_true fun j hj hl => ?_
  rcases he with he | ⟨h1, h2⟩
  · exact h j (by omega)
  · refine h j ?_
    cases ps with
    | nil => simp at h1
    | cons p ps =>
      have a : p ≤ t := h2
      have b : (j : Int) < p := hl
      omega
theorem covers_no {need ps : List Int} {t : Nat} (ht : t < need.length) (hn : 0 < need.getD t 0) (hf : ¬ (0 < ps.length ∧ ps.getD 0 0 ≤ t)) : covers need ps = false := by
  refine decide_eq_false fun h => ?_
  have := h t ht ?_
  · omega
  · cases ps with
    | nil => show (t : Int) < need.length; omega
    | cons p ps => exact Int.not_le.1 fun hh => hf ⟨by simp, hh⟩
/-- The numbers below x whose digits in the code are 1. -/
def bitsL (c : Nat) : Nat → List Int
  | 0 => []
  | x + 1 => if c / 2 ^ x % 2 = 1 then bitsL c x ++ [(x : Int)] else bitsL c x
theorem bitsL_len (c x : Nat) : (bitsL c x).length ≤ x := by
  induction x with
  | zero => simp [bitsL]
  | succ x ih =>
    rw [bitsL]
    split
    · rw [List.length_append]; simp only [List.length_cons, List.length_nil]; omega
    · omega
theorem bitsL_mem (c x : Nat) : ∀ y ∈ bitsL c x, 0 ≤ y ∧ y < (x : Int) := by
  induction x with
  | zero => intro y hy; simp [bitsL] at hy
  | succ x ih =>
    intro y hy
    rw [bitsL] at hy
    split at hy
    · rcases List.mem_append.1 hy with h | h
      · have := ih y h; omega
      · simp at h; omega
    · have := ih y hy; omega
theorem getD_app_l (l r : List Int) {i : Nat} (h : i < l.length) : (l ++ r).getD i 0 = l.getD i 0 := by
  rw [List.getD_eq_getElem?_getD, List.getElem?_append_left h, ← List.getD_eq_getElem?_getD]
theorem getD_app_one (l : List Int) (x : Int) : (l ++ [x]).getD l.length 0 = x := by simp [List.getD_eq_getElem?_getD]
theorem getD_mem {l : List Int} {i : Nat} (h : i < l.length) : l.getD i 0 ∈ l := by
  rw [List.getD_eq_getElem?_getD, List.getElem?_eq_getElem h]; exact List.getElem_mem h
theorem bitsL_rising (c x : Nat) : Rising (bitsL c x) x := by
  refine ⟨fun i hi => bitsL_mem c x _ (getD_mem hi), ?_⟩
  induction x with
  | zero => intro i hi; simp [bitsL] at hi
  | succ x ih =>
    intro i hi
    rw [bitsL] at hi ⊢
    by_cases hb : c / 2 ^ x % 2 = 1
    · rw [if_pos hb] at hi ⊢
      simp only [List.length_append, List.length_cons, List.length_nil] at hi
      rw [getD_app_l _ _ (by omega)]
      by_cases h2 : i + 1 < (bitsL c x).length
      · rw [getD_app_l _ _ h2]; exact ih i h2
      · have e : i + 1 = (bitsL c x).length := by omega
        rw [e, getD_app_one]
        exact (bitsL_mem c x _ (getD_mem (by omega))).2
    · rw [if_neg hb] at hi ⊢; exact ih i hi
/-- The first difference of two lists decides. -/
def lexB : List Int → List Int → Bool
  | x :: xs, y :: ys => if x = y then lexB xs ys else decide (x < y)
  | _, _ => false
def beforeB (a b : List Int) : Bool := if a.length = b.length then lexB a b else decide (a.length < b.length)
theorem lexB_drop {a b : List Int} {i : Nat} (ha : i < a.length) (hb : i < b.length) : lexB (a.drop i) (b.drop i) = if a.getD i 0 = b.getD i 0 then lexB (a.drop (i + 1)) (b.drop (i + 1)) else decide (a.getD i 0 < b.getD i 0) := by
  rw [List.drop_eq_getElem_cons ha, List.drop_eq_getElem_cons hb, lexB]
  simp [List.getD_eq_getElem?_getD, ha, hb]
/-- One more list against the best so far. -/
def stepB (k : Cs) (b : List Int × Int) (ps : List Int) : List Int × Int :=
  if covers k.need ps then
    (if b.2 < 0 ∨ costOf k (fromL k.need ps) < b.2 ∨ (costOf k (fromL k.need ps) = b.2 ∧ beforeB ps b.1 = true) then (ps, costOf k (fromL k.need ps)) else b)
  else b
def bestC (k : Cs) : Nat → List Int × Int
  | 0 => ([], -1)
  | c + 1 => stepB k (bestC k c) (bitsL c k.need.length)
def bestL (k : Cs) : List Int := (bestC k (2 ^ k.need.length)).1
theorem bestC_rising (k : Cs) (c : Nat) : Rising (bestC k c).1 k.need.length := by
  induction c with
  | zero => exact ⟨fun i hi => absurd hi (by simp [bestC]), fun i hi => absurd hi (by simp [bestC])⟩
  | succ c ih =>
    rw [bestC, stepB]
    split
    · split
      · exact bitsL_rising _ _
      · exact ih
    · exact ih
theorem bestC_len (k : Cs) (c : Nat) : (bestC k c).1.length ≤ k.need.length := by
  induction c with
  | zero => simp [bestC]
  | succ c ih =>
    rw [bestC, stepB]
    split
    · split
      · exact bitsL_len _ _
      · exact ih
    · exact ih
def bestCost (k : Cs) : Int := costOf k (fromL k.need (bestL k))

/-! Where an order's span begins. -/
def beg (n : Nat) (ps : List Int) (i : Nat) : Nat := if i < ps.length then (ps.getD i 0).toNat else n
theorem nxt_beg (n : Nat) (ps : List Int) (i : Nat) : nxtP n ps i = beg n ps (i + 1) := rfl
theorem Rising.lt {ps : List Int} {n : Nat} (h : Rising ps n) {i j : Nat} (hij : i < j) (hj : j < ps.length) : ps.getD i 0 < ps.getD j 0 := by
  induction j with
  | zero => omega
  | succ j ih =>
    have := h.up j hj
    by_cases e : i = j
    · subst e; exact this
    · have := ih (by omega) (by omega); omega
theorem Rising.nil (n : Nat) : Rising [] n := ⟨fun i hi => absurd hi (by simp), fun i hi => absurd hi (by simp)⟩
theorem beg_le {n : Nat} {ps : List Int} (h : Rising ps n) (i : Nat) : beg n ps i ≤ n := by
  unfold beg
  split
  · have := h.bd i ‹_›; omega
  · omega
theorem beg_nil (n i : Nat) : beg n [] i = n := by simp [beg]
theorem beg_cons0 (n : Nat) (p : Int) (r : List Int) : beg n (p :: r) 0 = p.toNat := by simp [beg]
theorem beg_cons (n : Nat) (p : Int) (r : List Int) (i : Nat) : beg n (p :: r) (i + 1) = beg n r i := by
  unfold beg
  by_cases h : i < r.length
  · rw [if_pos (by simpa using h), if_pos h]; rfl
  · rw [if_neg (by simpa using h), if_neg h]
theorem Rising.tail {p : Int} {r : List Int} {n : Nat} (h : Rising (p :: r) n) : Rising r n ∧ 0 ≤ p ∧ p.toNat < beg n r 0 := by
  have h0 := h.bd 0 (by simp)
  simp only [List.getD_cons_zero] at h0
  refine ⟨⟨fun i hi => ?_, fun i hi => ?_⟩, h0.1, ?_⟩
  · have := h.bd (i + 1) (by simpa using hi); simpa using this
  · have := h.up (i + 1) (by simpa using hi); simpa using this
  · unfold beg
    split
    · rename_i hl
      have := h.up 0 (by simpa using hl)
      simp only [List.getD_cons_zero, Nat.zero_add, List.getD_cons_succ] at this
      omega
    · omega
theorem Rising.cons {p : Int} {r : List Int} {n : Nat} (h : Rising r n) (h0 : 0 ≤ p) (hp : p.toNat < beg n r 0) : Rising (p :: r) n := by
  have hb := beg_le h 0
  refine ⟨fun i hi => ?_, fun i hi => ?_⟩
  · cases i with
    | zero => simp only [List.getD_cons_zero]; omega
    | succ i => have := h.bd i (by simpa using hi); simpa using this
  · cases i with
    | zero =>
      simp only [List.getD_cons_zero, Nat.zero_add, List.getD_cons_succ]
      have hl : 0 < r.length := by simpa using hi
      unfold beg at hp
      rw [if_pos hl] at hp
      omega
    | succ i => have := h.up i (by simpa using hi); simpa using this

/-! What a plan from order periods costs: its spans. -/
def costI (k : Cs) (n : Nat) (ps : List Int) : Nat → Int
  | 0 => 0
  | i + 1 => costI k n ps i + spanF k (beg n ps i) (beg n ps (i + 1))
def costL (k : Cs) (n : Nat) (ps : List Int) : Int := costI k n ps ps.length
theorem costI_cons (k : Cs) (n : Nat) (p : Int) (r : List Int) (i : Nat) : costI k n (p :: r) (i + 1) = spanF k p.toNat (beg n r 0) + costI k n r i := by
  induction i with
  | zero => rw [costI, costI, costI, beg_cons0, beg_cons]; omega
  | succ i ih => rw [costI, ih, beg_cons, beg_cons, costI]; omega
theorem costL_nil (k : Cs) (n : Nat) : costL k n [] = 0 := rfl
theorem costL_cons (k : Cs) (n : Nat) (p : Int) (r : List Int) : costL k n (p :: r) = spanF k p.toNat (beg n r 0) + costL k n r := costI_cons k n p r r.length
theorem beg_mono {n : Nat} {ps : List Int} (h : Rising ps n) (i : Nat) (hi : i < ps.length) : beg n ps i < beg n ps (i + 1) ∨ (beg n ps i ≤ n ∧ beg n ps (i + 1) = n ∧ beg n ps i < n) := by
  have h1 := h.bd i hi
  unfold beg
  rw [if_pos hi]
  split
  · have := h.up i ‹_›; have := h.bd (i + 1) ‹_›; left; omega
  · right; omega
theorem beg_lt {n : Nat} {ps : List Int} (h : Rising ps n) {i : Nat} (hi : i < ps.length) : beg n ps i < beg n ps (i + 1) := by
  rcases beg_mono h i hi with h | ⟨_, h1, h2⟩ <;> omega
theorem costI_in {k : Cs} (hg : Good k) {ps : List Int} (h : Rising ps k.need.length) (i : Nat) (hi : i ≤ ps.length) : 0 ≤ costI k k.need.length ps i ∧ costI k k.need.length ps i ≤ 13059 * i := by
  induction i with
  | zero => simp [costI]
  | succ i ih =>
    have h1 := beg_lt h (i := i) (by omega)
    have h2 := beg_le h (i + 1)
    have h3 := hg.n8
    have := spanF_in hg (Nat.le_of_lt h1) (by omega)
    have := ih (by omega)
    rw [costI]
    omega
theorem Rising.len {n : Nat} : ∀ {ps : List Int}, Rising ps n → ps.length + beg n ps 0 ≤ n := by
  intro ps
  induction ps with
  | nil => intro h; rw [beg_nil]; simp
  | cons p r ih =>
    intro h
    obtain ⟨h1, h2, h3⟩ := h.tail
    have := ih h1
    rw [beg_cons0, List.length_cons]
    omega
theorem costL_in {k : Cs} (hg : Good k) {ps : List Int} (h : Rising ps k.need.length) : 0 ≤ costL k k.need.length ps ∧ costL k k.need.length ps ≤ 104472 := by
  have h1 := costI_in hg h ps.length (Nat.le_refl _)
  have h2 := h.len
  have h3 := hg.n8
  unfold costL
  omega
theorem fromI_no {need ps : List Int} (h : Rising ps need.length) {t : Nat} : ∀ i, i ≤ ps.length → (∀ j, j < i → ps.getD j 0 ≠ t) → (fromI need ps i).getD t 0 = 0 := by
  intro i
  induction i with
  | zero => intro _ _; rw [fromI, List.getD_eq_getElem?_getD, List.getElem?_replicate]; split <;> rfl
  | succ i ih =>
    intro hi hne
    have h1 := h.bd i (by omega)
    have h2 := hne i (by omega)
    rw [fromI, List.getD_eq_getElem?_getD, List.getElem?_set_ne (by omega), ← List.getD_eq_getElem?_getD]
    exact ih (by omega) fun j hj => hne j (by omega)
theorem fromI_at {need ps : List Int} (h : Rising ps need.length) {j : Nat} : ∀ i, i ≤ ps.length → j < i → (fromI need ps i).getD (beg need.length ps j) 0 = sumR need (beg need.length ps j) (beg need.length ps (j + 1)) := by
  intro i
  induction i with
  | zero => intro _ hj; omega
  | succ i ih =>
    intro hi hj
    have h1 := h.bd i (by omega)
    have hbi : beg need.length ps i = (ps.getD i 0).toNat := by unfold beg; rw [if_pos (by omega)]
    have hbj : beg need.length ps j = (ps.getD j 0).toNat := by unfold beg; rw [if_pos (by omega)]
    rw [fromI]
    by_cases e : j = i
    · subst e
      rw [nxt_beg, ← hbi, List.getD_eq_getElem?_getD, List.getElem?_set_self (by rw [fromI_len, hbi]; omega)]
      rfl
    · have h2 := h.lt (i := j) (j := i) (by omega) (by omega)
      have h3 := h.bd j (by omega)
      rw [List.getD_eq_getElem?_getD, List.getElem?_set_ne (by omega), ← List.getD_eq_getElem?_getD]
      exact ih (by omega) (by omega)
/-- The cost of the first t periods. -/
def cT (k : Cs) (plan : List Int) (t : Nat) : Int := cSet k plan t + cUnit k plan t + cHold k plan t
theorem seg_cost {k : Cs} (hg : Good k) {plan : List Int} {p e : Nat} (hpe : p < e) (hs : sumTo plan p = sumTo k.need p) (ha : plan.getD p 0 = sumR k.need p e) (hz : ∀ t, p < t → t < e → plan.getD t 0 = 0) (d : Nat) (hd : p + d + 1 ≤ e) :
    sumTo plan (p + d + 1) = sumTo k.need e ∧ cT k plan (p + d + 1) = cT k plan p + (if 0 < sumR k.need p e then k.setup.getD p 0 else 0) + k.unit.getD p 0 * sumR k.need p e + holdS k p e (p + d + 1) := by
  induction d with
  | zero =>
    have h1 : sumTo plan (p + 1) = sumTo k.need e := by rw [sumTo_g, ha, hs]; unfold sumR; omega
    refine ⟨h1, ?_⟩
    have h2 : stk plan k.need p = sumR k.need (p + 1) e := by unfold stk sumR; rw [h1]
    rw [Nat.add_zero, holdS_s k (Nat.le_refl _), holdS_self]
    unfold cT
    rw [cSet, cUnit, cHold, ha, h2]
    split <;> omega
  | succ d ih =>
    obtain ⟨i1, i2⟩ := ih (by omega)
    have hz' := hz (p + d + 1) (by omega) (by omega)
    have h1 : sumTo plan (p + d + 1 + 1) = sumTo k.need e := by rw [sumTo_g, hz', i1]; omega
    refine ⟨h1, ?_⟩
    have h2 : stk plan k.need (p + d + 1) = sumR k.need (p + d + 1 + 1) e := by unfold stk sumR; rw [h1]
    rw [show p + (d + 1) + 1 = p + d + 1 + 1 by omega, holdS_s k (by omega)]
    unfold cT at i2 ⊢
    rw [cSet, cUnit, cHold, hz', h2, if_neg (by omega), Int.mul_zero]
    omega
theorem holdS_none {k : Cs} (hg : Good k) {p e : Nat} (h : sumR k.need p e = 0) (d : Nat) (hd : p + d ≤ e) : holdS k p e (p + d) = 0 := by
  induction d with
  | zero => exact holdS_self k p e
  | succ d ih =>
    have h1 := sumR_nn (m := 20) (by omega) hg.need (i := p) (j := p + d + 1) (by omega)
    have h2 := sumR_nn (m := 20) (by omega) hg.need (i := p + d + 1) (j := e) (by omega)
    have h3 := sumR_add k.need p (p + d + 1) e
    have h4 : sumR k.need (p + d + 1) e = 0 := by omega
    rw [← Nat.add_assoc, holdS_s k (by omega), ih (by omega), h4]
    simp
theorem seg_span {k : Cs} (hg : Good k) {plan : List Int} {p e : Nat} (hpe : p < e) (hs : sumTo plan p = sumTo k.need p) (ha : plan.getD p 0 = sumR k.need p e) (hz : ∀ t, p < t → t < e → plan.getD t 0 = 0) :
    sumTo plan e = sumTo k.need e ∧ cT k plan e = cT k plan p + spanF k p e := by
  obtain ⟨h1, h2⟩ := seg_cost hg hpe hs ha hz (e - p - 1) (by omega)
  rw [show p + (e - p - 1) + 1 = e by omega] at h1 h2
  refine ⟨h1, ?_⟩
  have hnn := sumR_nn (m := 20) (by omega) hg.need (i := p) (j := e) (by omega)
  by_cases h0 : 0 < sumR k.need p e
  · rw [h2, spanF_order k (by omega) h0, if_pos h0]; omega
  · have hz0 : sumR k.need p e = 0 := by omega
    have hh := holdS_none hg hz0 (e - p) (by omega)
    rw [show p + (e - p) = e by omega] at hh
    rw [h2, hh, spanF_zero k hz0, hz0, Int.mul_zero]
    simp
theorem cov_zero {k : Cs} (hg : Good k) {ps : List Int} (hr : Rising ps k.need.length) (hc : covers k.need ps = true) (t : Nat) (ht : t < beg k.need.length ps 0) : k.need.getD t 0 = 0 := by
  have hb := beg_le hr 0
  have hn := getD_bound (m := 20) (by omega) hg.need t
  have h := of_decide_eq_true hc t (by omega) ?_
  · omega
  · cases ps with
    | nil => simp [beg] at ht; exact Int.ofNat_lt.2 ht
    | cons p r =>
      rw [beg_cons0] at ht
      show (t : Int) < p
      omega
theorem fromL_cost {k : Cs} (hg : Good k) {ps : List Int} (hr : Rising ps k.need.length) (hc : covers k.need ps = true) : costOf k (fromL k.need ps) = costL k k.need.length ps := by
  obtain ⟨plan, hplan⟩ : ∃ plan, plan = fromL k.need ps := ⟨_, rfl⟩
  have hno : ∀ t : Nat, (∀ j, j < ps.length → ps.getD j 0 ≠ (t : Int)) → plan.getD t 0 = 0 := fun t h => by rw [hplan]; exact fromI_no hr _ (Nat.le_refl _) h
  have hat : ∀ j, j < ps.length → plan.getD (beg k.need.length ps j) 0 = sumR k.need (beg k.need.length ps j) (beg k.need.length ps (j + 1)) := fun j h => by rw [hplan]; exact fromI_at hr _ (Nat.le_refl _) h
  have hbj : ∀ j, j < ps.length → (beg k.need.length ps j : Int) = ps.getD j 0 := fun j hj => by
    have := hr.bd j hj
    unfold beg; rw [if_pos hj]; omega
  have start : ∀ t, t ≤ beg k.need.length ps 0 → sumTo plan t = sumTo k.need t ∧ cT k plan t = 0 := by
    intro t
    induction t with
    | zero => intro _; exact ⟨rfl, rfl⟩
    | succ t ih =>
      intro ht
      obtain ⟨i1, i2⟩ := ih (by omega)
      have hz := cov_zero hg hr hc t (by omega)
      have hp : plan.getD t 0 = 0 := hno t fun j hj he => by
        have h0 : 0 < ps.length := by omega
        have := hbj 0 h0
        rcases Nat.eq_zero_or_pos j with e | e
        · subst e; omega
        · have := hr.lt (i := 0) (j := j) e hj; omega
      have s1 : sumTo plan (t + 1) = sumTo k.need (t + 1) := by rw [sumTo_g, sumTo_g, i1, hp, hz]
      refine ⟨s1, ?_⟩
      have s2 : stk plan k.need t = 0 := by unfold stk; omega
      unfold cT at i2 ⊢
      rw [cSet, cUnit, cHold, hp, s2, if_neg (by omega), Int.mul_zero, Int.mul_zero]
      omega
  have main : ∀ i, i ≤ ps.length → sumTo plan (beg k.need.length ps i) = sumTo k.need (beg k.need.length ps i) ∧ cT k plan (beg k.need.length ps i) = costI k k.need.length ps i := by
    intro i
    induction i with
    | zero => intro _; exact start _ (Nat.le_refl _)
    | succ i ih =>
      intro hi
      obtain ⟨i1, i2⟩ := ih (by omega)
      obtain ⟨s1, s2⟩ := seg_span hg (beg_lt hr (by omega)) i1 (hat i (by omega)) fun t h1 h2 => hno t fun j hj he => by
        have h3 := hbj i (by omega)
        have h4 := hbj j hj
        by_cases hlt : j ≤ i
        · rcases Nat.lt_or_eq_of_le hlt with h | h
          · have := hr.lt h (by omega); omega
          · subst h; omega
        · have h5 := hbj (i + 1) (by omega)
          rcases Nat.lt_or_eq_of_le (show i + 1 ≤ j by omega) with h | h
          · have := hr.lt h hj; omega
          · subst h; omega
      exact ⟨s1, by rw [s2, i2, costI]⟩
  have hend := (main ps.length (Nat.le_refl _)).2
  have hl : beg k.need.length ps ps.length = k.need.length := by unfold beg; rw [if_neg (by omega)]
  rw [hl] at hend
  have hpl : plan.length = k.need.length := by rw [hplan]; exact fromL_len _ _
  rw [← hplan]
  unfold costOf costL
  rw [hpl]
  exact hend

/-! The order of lists. -/
theorem lexB_irr (a : List Int) : lexB a a = false := by
  induction a with
  | nil => rfl
  | cons x a ih => rw [lexB, if_pos rfl, ih]
theorem lexB_trans : ∀ {a b c : List Int}, lexB a b = true → lexB b c = true → lexB a c = true := by
  intro a
  induction a with
  | nil => intro b c h; simp [lexB] at h
  | cons x a ih =>
    intro b c h1 h2
    cases b with
    | nil => simp [lexB] at h1
    | cons y b =>
      cases c with
      | nil => simp [lexB] at h2
      | cons z c =>
        rw [lexB] at h1 h2 ⊢
        by_cases e1 : x = y
        · rw [if_pos e1] at h1
          by_cases e2 : y = z
          · rw [if_pos e2] at h2
            rw [if_pos (e1.trans e2)]
            exact ih h1 h2
          · rw [if_neg e2] at h2
            rw [if_neg (fun e => e2 (e1.symm.trans e)), e1]
            exact h2
        · rw [if_neg e1] at h1
          have l1 := of_decide_eq_true h1
          by_cases e2 : y = z
          · rw [if_neg (fun e => e1 (e.trans e2.symm))]
            exact decide_eq_true (by omega)
          · rw [if_neg e2] at h2
            have l2 := of_decide_eq_true h2
            rw [if_neg (by omega)]
            exact decide_eq_true (by omega)
theorem lexB_tot : ∀ {a b : List Int}, a.length = b.length → a = b ∨ lexB a b = true ∨ lexB b a = true := by
  intro a
  induction a with
  | nil => intro b h; left; exact (List.eq_nil_of_length_eq_zero (by rw [← h]; rfl)).symm
  | cons x a ih =>
    intro b h
    cases b with
    | nil => simp at h
    | cons y b =>
      rw [lexB, lexB]
      by_cases e : x = y
      · subst e
        rw [if_pos rfl, if_pos rfl]
        rcases ih (b := b) (by simpa using h) with h | h | h
        · left; rw [h]
        · right; left; exact h
        · right; right; exact h
      · rw [if_neg e, if_neg (Ne.symm e)]
        rcases Int.lt_or_gt_of_ne e with h | h
        · right; left; exact decide_eq_true h
        · right; right; exact decide_eq_true h
theorem beforeB_irr (a : List Int) : beforeB a a = false := by unfold beforeB; rw [if_pos rfl, lexB_irr]
theorem beforeB_trans {a b c : List Int} (h1 : beforeB a b = true) (h2 : beforeB b c = true) : beforeB a c = true := by
  unfold beforeB at *
  by_cases e1 : a.length = b.length
  · rw [if_pos e1] at h1
    by_cases e2 : b.length = c.length
    · rw [if_pos e2] at h2
      rw [if_pos (e1.trans e2)]
      exact lexB_trans h1 h2
    · rw [if_neg e2] at h2
      rw [if_neg (by omega), e1]; exact h2
  · rw [if_neg e1] at h1
    have l1 := of_decide_eq_true h1
    by_cases e2 : b.length = c.length
    · rw [if_neg (by omega)]; exact decide_eq_true (by omega)
    · rw [if_neg e2] at h2
      have l2 := of_decide_eq_true h2
      rw [if_neg (by omega)]; exact decide_eq_true (by omega)
theorem beforeB_tot (a b : List Int) : a = b ∨ beforeB a b = true ∨ beforeB b a = true := by
  unfold beforeB
  by_cases e : a.length = b.length
  · rw [if_pos e, if_pos e.symm]; exact lexB_tot e
  · rw [if_neg e, if_neg (Ne.symm e)]
    rcases Nat.lt_or_gt_of_ne e with h | h
    · right; left; exact decide_eq_true h
    · right; right; exact decide_eq_true h
/-- Lots before lots: costs, then lists. -/
def bef (a b : Int × List Int) : Bool := if a.1 = b.1 then beforeB a.2 b.2 else decide (a.1 < b.1)
theorem bef_irr (a : Int × List Int) : bef a a = false := by unfold bef; rw [if_pos rfl, beforeB_irr]
theorem bef_trans {a b c : Int × List Int} (h1 : bef a b = true) (h2 : bef b c = true) : bef a c = true := by
  unfold bef at *
  by_cases e1 : a.1 = b.1
  · rw [if_pos e1] at h1
    by_cases e2 : b.1 = c.1
    · rw [if_pos e2] at h2
      rw [if_pos (e1.trans e2)]
      exact beforeB_trans h1 h2
    · rw [if_neg e2] at h2
      rw [if_neg (fun e => e2 (e1.symm.trans e)), e1]; exact h2
  · rw [if_neg e1] at h1
    have l1 := of_decide_eq_true h1
    by_cases e2 : b.1 = c.1
    · rw [if_neg (by omega)]; exact decide_eq_true (by omega)
    · rw [if_neg e2] at h2
      have l2 := of_decide_eq_true h2
      rw [if_neg (by omega)]; exact decide_eq_true (by omega)
theorem bef_tot (f : List Int → Int) (a b : List Int) : a = b ∨ bef (f a, a) (f b, b) = true ∨ bef (f b, b) (f a, a) = true := by
  unfold bef
  by_cases e : f a = f b
  · simp only [if_pos e, if_pos e.symm]; exact beforeB_tot a b
  · simp only [if_neg e, if_neg (Ne.symm e)]
    rcases Int.lt_or_gt_of_ne e with h | h
    · right; left; exact decide_eq_true h
    · right; right; exact decide_eq_true h
theorem bef_asymm {a b : Int × List Int} (h : bef a b = true) : bef b a = false := by
  cases hb : bef b a with
  | false => rfl
  | true => have := bef_trans h hb; rw [bef_irr] at this; cases this

/-- The first one of some lists. -/
def IsMin (S : List Int → Prop) (f : List Int → Int) (b : List Int) : Prop := S b ∧ ∀ y, S y → y = b ∨ bef (f b, b) (f y, y) = true
theorem IsMin.uniq {S : List Int → Prop} {f : List Int → Int} {a b : List Int} (ha : IsMin S f a) (hb : IsMin S f b) : a = b := by
  rcases ha.2 b hb.1 with h | h
  · exact h.symm
  · rcases hb.2 a ha.1 with h' | h'
    · exact h'
    · rw [bef_asymm h] at h'; cases h'
theorem IsMin.congr {S T : List Int → Prop} {f : List Int → Int} {a : List Int} (ha : IsMin S f a) (h : ∀ y, T y ↔ S y) : IsMin T f a :=
  ⟨(h a).2 ha.1, fun y hy => ha.2 y ((h y).1 hy)⟩
theorem IsMin.union {S T : List Int → Prop} {f : List Int → Int} {a b : List Int} (ha : IsMin S f a) (hb : IsMin T f b) :
    IsMin (fun y => S y ∨ T y) f (if bef (f b, b) (f a, a) = true then b else a) := by
  by_cases h : bef (f b, b) (f a, a) = true
  · rw [if_pos h]
    refine ⟨.inr hb.1, fun y hy => ?_⟩
    rcases hy with hy | hy
    · rcases ha.2 y hy with e | e
      · rw [e]; exact .inr h
      · exact .inr (bef_trans h e)
    · exact hb.2 y hy
  · rw [if_neg h]
    refine ⟨.inl ha.1, fun y hy => ?_⟩
    rcases hy with hy | hy
    · exact ha.2 y hy
    · have hab : a = b ∨ bef (f a, a) (f b, b) = true := by
        rcases bef_tot f a b with e | e | e
        · exact .inl e
        · exact .inr e
        · exact absurd e h
      rcases hb.2 y hy with e | e
      · rcases hab with g | g
        · left; rw [e, g]
        · right; rw [e]; exact g
      · rcases hab with g | g
        · right; rw [g]; exact e
        · exact .inr (bef_trans g e)

/-! By first periods. -/
def dpLoop (k : Cs) (n first : Nat) (g : Nat → List Int) : Nat → List Int
  | 0 => [(first : Int)]
  | m + 1 => if bef (costL k n ((first : Int) :: g (first + 1 + m)), (first : Int) :: g (first + 1 + m)) (costL k n (dpLoop k n first g m), dpLoop k n first g m) = true
      then (first : Int) :: g (first + 1 + m) else dpLoop k n first g m
def dpF (k : Cs) (n : Nat) : Nat → Nat → List Int
  | 0, _ => []
  | f + 1, first => if first < n then dpLoop k n first (dpF k n f) (n - 1 - first) else []
def dp (k : Cs) (n first : Nat) : List Int := dpF k n (n - first) first
theorem dpLoop_congr (k : Cs) (n first : Nat) {g g' : Nat → List Int} (m : Nat) (h : ∀ j, first < j → j ≤ first + m → g j = g' j) : dpLoop k n first g m = dpLoop k n first g' m := by
  induction m with
  | zero => rfl
  | succ m ih =>
    rw [dpLoop, dpLoop, ih fun j h1 h2 => h j h1 (by omega), h (first + 1 + m) (by omega) (by omega)]
theorem dpF_fuel (k : Cs) (n : Nat) : ∀ (f f' first : Nat), n - first ≤ f → n - first ≤ f' → dpF k n f first = dpF k n f' first := by
  intro f
  induction f with
  | zero =>
    intro f' first h1 h2
    cases f' with
    | zero => rfl
    | succ f' => rw [dpF, dpF, if_neg (by omega)]
  | succ f ih =>
    intro f' first h1 h2
    cases f' with
    | zero => rw [dpF, dpF, if_neg (by omega)]
    | succ f' =>
      rw [dpF, dpF]
      by_cases h : first < n
      · rw [if_pos h, if_pos h]
        exact dpLoop_congr k n first _ fun j h3 h4 => ih f' j (by omega) (by omega)
      · rw [if_neg h, if_neg h]
theorem dp_end (k : Cs) {n first : Nat} (h : n ≤ first) : dp k n first = [] := by
  unfold dp
  rw [show n - first = 0 by omega]; rfl
theorem dp_loop (k : Cs) {n first : Nat} (h : first < n) : dp k n first = dpLoop k n first (dp k n) (n - 1 - first) := by
  obtain ⟨f, hf⟩ : ∃ f, n - first = f + 1 := ⟨n - first - 1, by omega⟩
  unfold dp
  rw [hf, dpF, if_pos h]
  exact dpLoop_congr k n first _ fun j h1 h2 => dpF_fuel k n f (n - j) j (by omega) (by omega)
/-- Lists of order periods with a first one. -/
def Firsts (n first : Nat) (ps : List Int) : Prop := Rising ps n ∧ beg n ps 0 = first
theorem firsts_cons {n first : Nat} {ps : List Int} (h : Firsts n first ps) (hf : first < n) : ∃ r, ps = (first : Int) :: r ∧ Firsts n (beg n r 0) r ∧ first < beg n r 0 ∧ beg n r 0 ≤ n := by
  obtain ⟨h1, h2⟩ := h
  cases ps with
  | nil => rw [beg_nil] at h2; omega
  | cons p r =>
    obtain ⟨t1, t2, t3⟩ := h1.tail
    rw [beg_cons0] at h2
    refine ⟨r, by rw [← h2]; congr 1; omega, ⟨t1, rfl⟩, by omega, beg_le t1 0⟩
theorem bef_cons (k : Cs) {n first : Nat} {r r' : List Int} (he : beg n r 0 = beg n r' 0) (h : bef (costL k n r, r) (costL k n r', r') = true) :
    bef (costL k n ((first : Int) :: r), (first : Int) :: r) (costL k n ((first : Int) :: r'), (first : Int) :: r') = true := by
  rw [costL_cons, costL_cons, he]
  unfold bef at *
  by_cases e : costL k n r = costL k n r'
  · simp only [if_pos e] at h
    simp only [e, if_true]
    unfold beforeB at *
    simp only [List.length_cons, Nat.add_right_cancel_iff, Nat.add_lt_add_iff_right]
    by_cases e2 : r.length = r'.length
    · rw [if_pos e2] at h ⊢
      rw [lexB, if_pos rfl]; exact h
    · rw [if_neg e2] at h ⊢; exact h
  · simp only [if_neg e] at h
    have := of_decide_eq_true h
    simp only []
    rw [if_neg (by omega)]
    exact decide_eq_true (by omega)
theorem dp_min (k : Cs) (n : Nat) : ∀ (d first : Nat), first + d = n → IsMin (Firsts n first) (costL k n) (dp k n first) := by
  intro d
  induction d using Nat.strongRecOn with
  | _ d ih =>
    intro first hfd
    rcases Nat.eq_zero_or_pos d with h0 | h0
    · rw [dp_end k (by omega)]
      refine ⟨⟨Rising.nil n, by rw [beg_nil]; omega⟩, fun y hy => .inl ?_⟩
      obtain ⟨h1, h2⟩ := hy
      cases y with
      | nil => rfl
      | cons p r =>
        have := h1.tail
        have := beg_le this.1 0
        rw [beg_cons0] at h2
        omega
    · rw [dp_loop k (by omega)]
      have loop : ∀ m, m ≤ n - 1 - first → IsMin (fun ps => Firsts n first ps ∧ (beg n ps.tail 0 = n ∨ beg n ps.tail 0 < first + 1 + m)) (costL k n) (dpLoop k n first (dp k n) m) := by
        intro m
        induction m with
        | zero =>
          intro _
          rw [dpLoop]
          refine ⟨⟨⟨(Rising.nil n).cons (by omega) (by rw [beg_nil]; omega), by rw [beg_cons0]; omega⟩, .inl (beg_nil n 0)⟩, fun y hy => .inl ?_⟩
          obtain ⟨hy1, hy2⟩ := hy
          obtain ⟨r, rfl, hr1, hr2, hr3⟩ := firsts_cons hy1 (by omega)
          simp only [List.tail_cons] at hy2
          have e : beg n r 0 = n := by omega
          cases r with
          | nil => rfl
          | cons p r =>
            have := hr1.1.tail
            have := beg_le this.1 0
            rw [beg_cons0] at e
            omega
        | succ m ihm =>
          intro hm
          have a := ihm (by omega)
          have b := ih (n - (first + 1 + m)) (by omega) (first + 1 + m) (by omega)
          have hcons : ∀ r, Firsts n (first + 1 + m) r → Firsts n first ((first : Int) :: r) := fun r hr =>
            ⟨hr.1.cons (by omega) (by rw [hr.2]; omega), by rw [beg_cons0]; omega⟩
          have b2 : IsMin (fun ps => Firsts n first ps ∧ beg n ps.tail 0 = first + 1 + m) (costL k n) ((first : Int) :: dp k n (first + 1 + m)) := by
            refine ⟨⟨hcons _ b.1, b.1.2⟩, fun y hy => ?_⟩
            obtain ⟨hy1, hy2⟩ := hy
            obtain ⟨r, rfl, hr1, hr2, hr3⟩ := firsts_cons hy1 (by omega)
            simp only [List.tail_cons] at hy2
            rw [hy2] at hr1
            rcases b.2 r hr1 with e | e
            · left; rw [e]
            · right; exact bef_cons k (by rw [b.1.2, hy2]) e
          refine (a.union b2).congr fun y => ?_
          constructor
          · rintro ⟨h1, h2⟩
            by_cases e : beg n y.tail 0 = first + 1 + m
            · exact .inr ⟨h1, e⟩
            · exact .inl ⟨h1, by omega⟩
          · rintro (⟨h1, h2⟩ | ⟨h1, h2⟩)
            · exact ⟨h1, by omega⟩
            · exact ⟨h1, .inr (by omega)⟩
      refine (loop _ (Nat.le_refl _)).congr fun y => ⟨fun hy => ⟨hy, ?_⟩, fun hy => hy.1⟩
      obtain ⟨r, rfl, hr1, hr2, hr3⟩ := firsts_cons hy (by omega)
      simp only [List.tail_cons]
      omega

/-! The best lots of all that cover the needs. -/
def blF (k : Cs) (n : Nat) : Nat → List Int
  | 0 => dp k n 0
  | t + 1 => if bef (costL k n (dp k n (t + 1)), dp k n (t + 1)) (costL k n (blF k n t), blF k n t) = true then dp k n (t + 1) else blF k n t
theorem blF_min (k : Cs) (n t : Nat) (ht : t ≤ n) : IsMin (fun ps => Rising ps n ∧ beg n ps 0 ≤ t) (costL k n) (blF k n t) := by
  induction t with
  | zero => exact (dp_min k n n 0 (by omega)).congr fun y => ⟨fun h => ⟨h.1, by omega⟩, fun h => ⟨h.1, by have := h.2; omega⟩⟩
  | succ t ih =>
    refine ((ih (by omega)).union (dp_min k n (n - (t + 1)) (t + 1) (by omega))).congr fun y => ?_
    constructor
    · rintro ⟨h1, h2⟩
      by_cases e : beg n y 0 = t + 1
      · exact .inr ⟨h1, e⟩
      · exact .inl ⟨h1, by omega⟩
    · rintro (⟨h1, h2⟩ | ⟨h1, h2⟩)
      · exact ⟨h1, by omega⟩
      · exact ⟨h1, by omega⟩
theorem cov_iff {k : Cs} (hg : Good k) {ps : List Int} (hr : Rising ps k.need.length) {T : Nat} (hz : ∀ j, j < T → k.need.getD j 0 = 0) (hT : T = k.need.length ∨ (T < k.need.length ∧ k.need.getD T 0 ≠ 0)) :
    covers k.need ps = true ↔ beg k.need.length ps 0 ≤ T := by
  constructor
  · intro hc
    have hb := beg_le hr 0
    by_cases h : beg k.need.length ps 0 ≤ T
    · exact h
    · exfalso
      have := cov_zero hg hr hc T (by omega)
      omega
  · intro h
    refine decide_eq_true fun t ht hl => ?_
    have : t < beg k.need.length ps 0 := by
      cases ps with
      | nil => rw [beg_nil]; exact ht
      | cons p r =>
        rw [beg_cons0]
        have : (t : Int) < p := hl
        omega
    rw [hz t (by omega)]; omega
theorem bits_all : ∀ (n : Nat) (ps : List Int), Rising ps n → ∃ c, c < 2 ^ n ∧ ps = bitsL c n := by
  intro n
  induction n with
  | zero =>
    intro ps h
    cases ps with
    | nil => exact ⟨0, by simp, rfl⟩
    | cons p r => have := h.bd 0 (by simp); simp at this; omega
  | succ n ih =>
    intro ps h
    have low : ∀ (c x : Nat), x ≤ n → bitsL (c + 2 ^ n) x = bitsL c x := by
      intro c x hx
      induction x with
      | zero => rfl
      | succ x ihx =>
        have e : (c + 2 ^ n) / 2 ^ x % 2 = c / 2 ^ x % 2 := by
          have h1 : 2 ^ n = 2 ^ x * (2 * 2 ^ (n - x - 1)) := by
            rw [← Nat.pow_succ', ← Nat.pow_add]; congr 1; omega
          rw [h1, Nat.add_mul_div_left _ _ (Nat.two_pow_pos x), Nat.add_mul_mod_self_left]
        rw [bitsL, bitsL, e, ihx (by omega)]
    by_cases hl : 0 < ps.length ∧ ps.getD (ps.length - 1) 0 = n
    · have hd : ps = ps.dropLast ++ [(n : Int)] := by
        have hne : ps ≠ [] := by intro e; rw [e] at hl; simp at hl
        have := List.dropLast_concat_getLast hne
        rw [← this]
        congr 1
        · simp
        · congr 1
          have h2 := hl.2
          rw [List.getD_eq_getElem?_getD, List.getElem?_eq_getElem (by omega)] at h2
          rw [List.getLast_eq_getElem]
          simpa using h2
      have hlen : ps.dropLast.length = ps.length - 1 := List.length_dropLast
      have hget : ∀ i, i < ps.length - 1 → ps.dropLast.getD i 0 = ps.getD i 0 := fun i hi => by
        rw [List.getD_eq_getElem?_getD, List.getD_eq_getElem?_getD, List.getElem?_dropLast, if_pos hi]
      have hr : Rising ps.dropLast n := by
        refine ⟨fun i hi => ?_, fun i hi => ?_⟩
        · rw [hget i (by omega)]
          have h1 := h.bd i (by omega)
          have h2 := h.lt (i := i) (j := ps.length - 1) (by omega) (by omega)
          rw [hl.2] at h2
          omega
        · rw [hget i (by omega), hget (i + 1) (by omega)]
          exact h.up i (by omega)
      obtain ⟨c, hc, he⟩ := ih _ hr
      refine ⟨c + 2 ^ n, by rw [Nat.pow_succ]; omega, ?_⟩
      have hbit : (c + 2 ^ n) / 2 ^ n % 2 = 1 := by
        rw [Nat.add_div_right _ (Nat.two_pow_pos n), Nat.div_eq_of_lt hc]
      rw [bitsL, if_pos hbit, low c n (Nat.le_refl _), ← he]
      exact hd
    · have hr : Rising ps n := by
        refine ⟨fun i hi => ?_, h.up⟩
        have h1 := h.bd i hi
        refine ⟨h1.1, ?_⟩
        by_cases e : i = ps.length - 1
        · have : ps.getD i 0 ≠ n := fun e2 => hl ⟨by omega, by rw [← e]; exact e2⟩
          omega
        · have := h.lt (i := i) (j := ps.length - 1) (by omega) (by omega)
          have := (h.bd (ps.length - 1) (by omega)).2
          omega
      obtain ⟨c, hc, he⟩ := ih _ hr
      refine ⟨c, by rw [Nat.pow_succ]; omega, ?_⟩
      rw [bitsL, Nat.div_eq_of_lt hc, if_neg (by simp)]
      exact he
theorem bestC_min {k : Cs} (hg : Good k) (c : Nat) : ((bestC k c).2 < 0 ∧ ∀ c', c' < c → covers k.need (bitsL c' k.need.length) = false) ∨
    (IsMin (fun ps => ∃ c', c' < c ∧ ps = bitsL c' k.need.length ∧ covers k.need ps = true) (costL k k.need.length) (bestC k c).1 ∧ (bestC k c).2 = costL k k.need.length (bestC k c).1) := by
  induction c with
  | zero => exact .inl ⟨by simp [bestC], fun c' h => by omega⟩
  | succ c ih =>
    obtain ⟨ps, hps⟩ : ∃ ps, ps = bitsL c k.need.length := ⟨_, rfl⟩
    have hr : Rising ps k.need.length := by rw [hps]; exact bitsL_rising _ _
    rw [bestC, ← hps, stepB]
    cases hcv : covers k.need ps with
    | false =>
      rw [if_neg (by simp)]
      rcases ih with ⟨h1, h2⟩ | ⟨h1, h2⟩
      · refine .inl ⟨h1, fun c' h => ?_⟩
        by_cases e : c' = c
        · rw [e, ← hps]; exact hcv
        · exact h2 c' (by omega)
      · refine .inr ⟨h1.congr fun y => ⟨?_, ?_⟩, h2⟩
        · rintro ⟨c', g1, g2, g3⟩
          by_cases e : c' = c
          · rw [g2, e, ← hps, hcv] at g3; cases g3
          · exact ⟨c', by omega, g2, g3⟩
        · rintro ⟨c', g1, g2, g3⟩
          exact ⟨c', by omega, g2, g3⟩
    | true =>
      rw [if_pos rfl, fromL_cost hg hr hcv]
      have hnn := (costL_in hg hr).1
      have one : IsMin (fun y => y = ps) (costL k k.need.length) ps := ⟨rfl, fun y hy => .inl hy⟩
      rcases ih with ⟨h1, h2⟩ | ⟨h1, h2⟩
      · rw [if_pos (.inl h1)]
        refine .inr ⟨one.congr fun y => ⟨?_, ?_⟩, rfl⟩
        · rintro ⟨c', g1, g2, g3⟩
          by_cases e : c' = c
          · rw [g2, e, ← hps]
          · rw [g2, h2 c' (by omega)] at g3; cases g3
        · rintro rfl
          exact ⟨c, by omega, hps, hcv⟩
      · have hb0 : ¬ ((bestC k c).2 < 0) := by
          obtain ⟨⟨c', g1, g2, g3⟩, _⟩ := h1
          rw [h2]
          have := (costL_in hg (bestC_rising k c)).1
          omega
        have hu := h1.union one
        have hset : ∀ y, (∃ c', c' < c + 1 ∧ y = bitsL c' k.need.length ∧ covers k.need y = true) ↔ ((∃ c', c' < c ∧ y = bitsL c' k.need.length ∧ covers k.need y = true) ∨ y = ps) := by
          intro y
          constructor
          · rintro ⟨c', g1, g2, g3⟩
            by_cases e : c' = c
            · right; rw [g2, e, ← hps]
            · exact .inl ⟨c', by omega, g2, g3⟩
          · rintro (⟨c', g1, g2, g3⟩ | rfl)
            · exact ⟨c', by omega, g2, g3⟩
            · exact ⟨c, by omega, hps, hcv⟩
        have hcond : ((bestC k c).2 < 0 ∨ costL k k.need.length ps < (bestC k c).2 ∨ (costL k k.need.length ps = (bestC k c).2 ∧ beforeB ps (bestC k c).1 = true)) ↔
            bef (costL k k.need.length ps, ps) (costL k k.need.length (bestC k c).1, (bestC k c).1) = true := by
          rw [← h2]
          unfold bef
          by_cases e : costL k k.need.length ps = (bestC k c).2
          · rw [if_pos e]
            constructor
            · rintro (g | g | g)
              · exact absurd g hb0
              · omega
              · exact g.2
            · intro g; exact .inr (.inr ⟨e, g⟩)
          · rw [if_neg e]
            constructor
            · rintro (g | g | g)
              · exact absurd g hb0
              · exact decide_eq_true g
              · exact absurd g.1 e
            · intro g; exact .inr (.inl (of_decide_eq_true g))
        right
        by_cases hbf : bef (costL k k.need.length ps, ps) (costL k k.need.length (bestC k c).1, (bestC k c).1) = true
        · rw [if_pos hbf] at hu
          rw [if_pos (hcond.2 hbf)]
          exact ⟨hu.congr hset, rfl⟩
        · rw [if_neg hbf] at hu
          rw [if_neg (fun g => hbf (hcond.1 g))]
          exact ⟨hu.congr hset, h2⟩
/-- The first period with a need, or the number of periods. -/
theorem bestL_dp {k : Cs} (hg : Good k) {T : Nat} (hTn : T ≤ k.need.length) (hz : ∀ j, j < T → k.need.getD j 0 = 0) (hT : T = k.need.length ∨ (T < k.need.length ∧ k.need.getD T 0 ≠ 0)) :
    bestL k = blF k k.need.length T ∧ bestCost k = costL k k.need.length (blF k k.need.length T) := by
  have hbl := (blF_min k k.need.length T hTn).congr (T := fun ps => ∃ c', c' < 2 ^ k.need.length ∧ ps = bitsL c' k.need.length ∧ covers k.need ps = true) fun y => by
    constructor
    · rintro ⟨c', g1, g2, g3⟩
      have hr : Rising y k.need.length := by rw [g2]; exact bitsL_rising _ _
      exact ⟨hr, (cov_iff hg hr hz hT).1 g3⟩
    · rintro ⟨g1, g2⟩
      obtain ⟨c', h1, h2⟩ := bits_all _ y g1
      exact ⟨c', h1, h2, (cov_iff hg g1 hz hT).2 g2⟩
  have e : bestL k = blF k k.need.length T := by
    rcases bestC_min hg (2 ^ k.need.length) with ⟨_, h2⟩ | ⟨h1, _⟩
    · obtain ⟨⟨c', g1, g2, g3⟩, _⟩ := hbl
      rw [g2, h2 c' g1] at g3
      cases g3
    · exact h1.uniq hbl
  refine ⟨e, ?_⟩
  unfold bestCost
  have hcv : covers k.need (bestL k) = true := by
    rw [e]
    obtain ⟨⟨c', g1, g2, g3⟩, _⟩ := hbl
    exact g3
  rw [fromL_cost hg (show Rising (bestL k) k.need.length from bestC_rising k _) hcv, e]
end Go.Proofs.Ytonpeflncnccdaa
