/- What the law needs of the texts that it rests on. -/
import Derived.Test.YtdgfbmilbhckiaaShFnFresh1
section
namespace Go.Proofs.Ytdgfbmilbhckiaa.Ab
open Go.Proofs.Ytdgfbmilbhckiaa
set_option linter.unusedVariables false
set_option linter.unusedSimpArgs false
theorem fwd_at (k : Cs) {n j : Nat} (hj : j + 1 ≤ n) : (fwdC k n).getD (j + 1) 0 = valF k (fwdC k j) (j + 1) (fwdB k j) := by
  rw [fwdC_keep k (Nat.le_refl (j + 1)) hj, fwdC, getD_app, fwdC_len, if_neg (by omega), if_pos rfl]
  rfl
theorem fwd_le (k : Cs) {n i j : Nat} (hij : i < j) (hj : j ≤ n) : (fwdC k n).getD j 0 ≤ (fwdC k n).getD i 0 + spanF k i j := by
  obtain ⟨j, rfl⟩ : ∃ q, j = q + 1 := ⟨j - 1, by omega⟩
  rw [fwd_at k hj]
  have := lastB_le (valF k (fwdC k j) (j + 1)) (j + 1) i hij
  rw [fwdC_keep k (show i ≤ j by omega) (show j ≤ n by omega)]
  exact this
theorem fwd_eq (k : Cs) {n j : Nat} (h0 : 0 < j) (hj : j ≤ n) : ∃ i, i < j ∧ (fwdC k n).getD j 0 = (fwdC k n).getD i 0 + spanF k i j := by
  obtain ⟨j, rfl⟩ : ∃ q, j = q + 1 := ⟨j - 1, by omega⟩
  refine ⟨fwdB k j, by have := fwdB_le k j; omega, ?_⟩
  rw [fwd_at k hj, fwdC_keep k (fwdB_le k j) (show j ≤ n by omega)]
  rfl
theorem bmin_le (k : Cs) (n i : Nat) (tail : List Int) (y : Nat) : bmin k n i tail y ≤ spanF k i n ∧ ∀ x, x < y → bmin k n i tail y ≤ spanF k i (i + 1 + x) + tail.getD x 0 := by
  induction y with
  | zero => exact ⟨Int.le_refl _, fun x hx => absurd hx (by omega)⟩
  | succ y ih =>
    rw [bmin]
    refine ⟨by have := ih.1; omega, fun x hx => ?_⟩
    by_cases e : x = y
    · rw [e]; omega
    · have := ih.2 x (by omega); omega
theorem bmin_mem (k : Cs) (n i : Nat) (tail : List Int) (y : Nat) : bmin k n i tail y = spanF k i n ∨ ∃ x, x < y ∧ bmin k n i tail y = spanF k i (i + 1 + x) + tail.getD x 0 := by
  induction y with
  | zero => exact .inl rfl
  | succ y ih =>
    rw [bmin]
    by_cases h : bmin k n i tail y ≤ spanF k i (i + 1 + y) + tail.getD y 0
    · rw [show min (bmin k n i tail y) (spanF k i (i + 1 + y) + tail.getD y 0) = bmin k n i tail y by omega]
      rcases ih with h1 | ⟨x, h1, h2⟩
      · exact .inl h1
      · exact .inr ⟨x, by omega, h2⟩
    · exact .inr ⟨y, by omega, by omega⟩
def bwdD (k : Cs) (y : Nat) : Int := costL k k.need.length (dp k k.need.length y)
theorem bwd_D (k : Cs) {y : Nat} (hy : y ≤ k.need.length) : (bwdL k).getD y 0 = bwdD k y := by
  have := bwd_dp (k := k) k.need.length k.need.length (Nat.le_refl _) y hy
  rw [Nat.sub_self, Nat.zero_add] at this
  exact this
theorem bwd_F (k : Cs) {m x : Nat} (hm : m ≤ k.need.length) (hx : x ≤ m) : (bwdF k k.need.length m).getD x 0 = bwdD k (k.need.length - m + x) := bwd_dp _ m hm x hx
theorem bwdD_n (k : Cs) : bwdD k k.need.length = 0 := by
  have := bwd_F k (m := 0) (x := 0) (by omega) (by omega)
  rw [Nat.sub_zero, Nat.add_zero] at this
  rw [← this]
  rfl
theorem bwdD_s (k : Cs) {i : Nat} (hi : i < k.need.length) : bwdD k i = bmin k k.need.length i (bwdF k k.need.length (k.need.length - i - 1)) (k.need.length - i - 1) := by
  have := bwd_F k (m := k.need.length - i - 1 + 1) (x := 0) (by omega) (by omega)
  rw [bwdF, show k.need.length - (k.need.length - i - 1 + 1) = i by omega, Nat.add_zero] at this
  rw [← this]
  rfl
theorem bwd_le (k : Cs) {i j : Nat} (hij : i < j) (hj : j ≤ k.need.length) : bwdD k i ≤ spanF k i j + bwdD k j := by
  rw [bwdD_s k (by omega)]
  have h := bmin_le k k.need.length i (bwdF k k.need.length (k.need.length - i - 1)) (k.need.length - i - 1)
  by_cases e : j = k.need.length
  · rw [e, bwdD_n]; have := h.1; omega
  · have h2 := h.2 (j - i - 1) (by omega)
    rw [bwd_F k (by omega) (by omega), show i + 1 + (j - i - 1) = j by omega, show k.need.length - (k.need.length - i - 1) + (j - i - 1) = j by omega] at h2
    exact h2
theorem bwd_eq (k : Cs) {i : Nat} (hi : i < k.need.length) : ∃ j, i < j ∧ j ≤ k.need.length ∧ bwdD k i = spanF k i j + bwdD k j := by
  have h := bmin_mem k k.need.length i (bwdF k k.need.length (k.need.length - i - 1)) (k.need.length - i - 1)
  rw [← bwdD_s k hi] at h
  rcases h with h | ⟨x, hx, h⟩
  · exact ⟨k.need.length, hi, Nat.le_refl _, by rw [bwdD_n]; omega⟩
  · refine ⟨i + 1 + x, by omega, by omega, ?_⟩
    rw [bwd_F k (by omega) (by omega), show k.need.length - (k.need.length - i - 1) + x = i + 1 + x by omega] at h
    exact h
theorem both_ge (k : Cs) : ∀ j, j ≤ k.need.length → bwdD k 0 ≤ (fwdC k k.need.length).getD j 0 + bwdD k j := by
  intro j
  induction j using Nat.strongRecOn with
  | ind j ih =>
    intro hj
    by_cases h0 : j = 0
    · subst h0; rw [fwdC_at0]; omega
    · obtain ⟨i, hi, e⟩ := fwd_eq k (Nat.pos_of_ne_zero h0) hj
      have h1 := ih i hi (by omega)
      have h2 := bwd_le k hi hj
      omega
theorem fwd_ge (k : Cs) : ∀ d j, j + d = k.need.length → (fwdC k k.need.length).getD k.need.length 0 ≤ (fwdC k k.need.length).getD j 0 + bwdD k j := by
  intro d
  induction d using Nat.strongRecOn with
  | ind d ih =>
    intro j hj
    by_cases h0 : j = k.need.length
    · rw [h0, bwdD_n]; omega
    · obtain ⟨i, hi, hi2, e⟩ := bwd_eq k (i := j) (by omega)
      have h1 := ih (k.need.length - i) (by omega) i (by omega)
      have h2 := fwd_le k hi hi2
      omega
theorem fwd_tot (k : Cs) : (fwdC k k.need.length).getD k.need.length 0 = bwdD k 0 := by
  have h1 := both_ge k k.need.length (Nat.le_refl _)
  have h2 := fwd_ge k k.need.length 0 (by omega)
  rw [bwdD_n] at h1
  rw [fwdC_at0] at h2
  omega
theorem best_D {k : Cs} (hg : Good k) : bestCost k = bwdD k 0 := by rw [← bwd_best hg, bwd_D k (by omega)]
end Go.Proofs.Ytdgfbmilbhckiaa.Ab
end
section
namespace Go.Proofs.Ytdgfbmilbhckiaa
set_option linter.unusedVariables false
structure Sh where
  life : Int
  arr : List Int
  need : List Int
  waste : Int
  lost : Int
def Sh.good (s : Sh) : Bool := (decide (1 ≤ s.life) && decide (s.life ≤ 8)) && decide (s.need.length ≤ 8) && rowB s.need s.need.length 20 && rowB s.arr s.need.length 20 && ((decide (0 ≤ s.waste) && decide (s.waste ≤ 20)) && (decide (0 ≤ s.lost) && decide (s.lost ≤ 20)))
structure GoodSh (s : Sh) : Prop where
  l1 : 1 ≤ s.life
  l8 : s.life ≤ 8
  n8 : s.need.length ≤ 8
  need : ∀ x ∈ s.need, 0 ≤ x ∧ x ≤ 20
  arr : ∀ x ∈ s.arr, 0 ≤ x ∧ x ≤ 20
  la : s.arr.length = s.need.length
  w : 0 ≤ s.waste ∧ s.waste ≤ 20
  l : 0 ≤ s.lost ∧ s.lost ≤ 20
def usB (life : Int) (f t : Nat) : Bool := decide ((f : Int) ≤ t) && decide ((t : Int) < f + life)
def colT (T : List (List Int)) (f : Nat) : Nat → Int
  | 0 => 0
  | t + 1 => colT T f t + (T.getD t []).getD f 0
def irow (s : Sh) (T : List (List Int)) (t : Nat) : Prop :=
  (T.getD t []).length = s.need.length ∧ (∀ f, f < s.need.length → 0 ≤ (T.getD t []).getD f 0 ∧ (0 < (T.getD t []).getD f 0 → usB s.life f t = true)) ∧ sumTo (T.getD t []) s.need.length ≤ s.need.getD t 0
def irows (s : Sh) (T : List (List Int)) (k : Nat) : Prop :=
  (∀ t, t < k → irow s T t) ∧ ∀ f, f < s.need.length → colT T f k ≤ s.arr.getD f 0
instance (s : Sh) (T : List (List Int)) (t : Nat) : Decidable (irow s T t) := by unfold irow; infer_instance
instance (s : Sh) (T : List (List Int)) (k : Nat) : Decidable (irows s T k) := by unfold irows; infer_instance
theorem mapD9 {n i : Nat} {f : Nat → Int} (h : i < n) : ((List.range n).map f).getD i 0 = f i := by
  simp [List.getD_eq_getElem?_getD, h]
theorem extD9 {a b : List Int} {n : Nat} (h1 : a.length = n) (h2 : b.length = n) (h : ∀ i, i < n → a.getD i 0 = b.getD i 0) : a = b := by
  apply List.ext_getElem (by omega)
  intro i hi hj
  have := h i (by omega)
  rw [List.getD_eq_getElem?_getD, List.getD_eq_getElem?_getD, List.getElem?_eq_getElem hi, List.getElem?_eq_getElem hj] at this
  simpa using this
theorem memD9 {l : List Int} {P : Int → Prop} (h : ∀ x ∈ l, P x) {k : Nat} (hk : k < l.length) : P (l.getD k 0) := by
  rw [List.getD_eq_getElem?_getD, List.getElem?_eq_getElem hk, Option.getD_some]
  exact h _ (List.getElem_mem hk)
def leftArr (s : Sh) (T : List (List Int)) (k : Nat) : List Int := (List.range s.need.length).map fun f => s.arr.getD f 0 - colT T f k
def leftNeed (s : Sh) (T : List (List Int)) (k : Nat) : List Int := (List.range s.need.length).map fun r => s.need.getD r 0 - if r < k then sumTo (T.getD r []) s.need.length else 0
structure LeftAt (s : Sh) (T : List (List Int)) (t j : Nat) (A N : List Int) : Prop where
  la : A.length = s.need.length
  ln : N.length = s.need.length
  a : ∀ f, f < s.need.length → A.getD f 0 = s.arr.getD f 0 - colT T f t - if f < j then (T.getD t []).getD f 0 else 0
  n : ∀ r, r < s.need.length → N.getD r 0 = s.need.getD r 0 - if r < t then sumTo (T.getD r []) s.need.length else if r = t then sumTo (T.getD t []) j else 0
  rows : ∀ r, r < t → irow s T r
  len : 0 < j → (T.getD t []).length = s.need.length
  pos : ∀ f, f < j → 0 ≤ (T.getD t []).getD f 0 ∧ (0 < (T.getD t []).getD f 0 → usB s.life f t = true)
  a0 : ∀ f, f < s.need.length → 0 ≤ A.getD f 0 ∧ A.getD f 0 ≤ 20
  n0 : ∀ r, r < s.need.length → 0 ≤ N.getD r 0 ∧ N.getD r 0 ≤ 20
theorem LeftAt.zero {s : Sh} {T : List (List Int)} (h : GoodSh s) : LeftAt s T 0 0 s.arr s.need :=
  ⟨h.la, rfl, fun f hf => by simp [colT], fun r hr => by simp [sumTo], fun r hr => absurd hr (by omega), fun h => absurd h (by omega), fun f hf => absurd hf (by omega),
    fun f hf => memD9 h.arr (by rw [h.la]; exact hf), fun r hr => memD9 h.need hr⟩
theorem LeftAt.row {s : Sh} {T : List (List Int)} {t : Nat} {A N : List Int} (h : LeftAt s T t s.need.length A N) (ht : t < s.need.length) (hl : (T.getD t []).length = s.need.length) : LeftAt s T (t + 1) 0 A N := by
  refine ⟨h.la, h.ln, fun f hf => ?_, fun r hr => ?_, fun r hr => ?_, fun h => absurd h (by omega), fun f hf => absurd hf (by omega), h.a0, h.n0⟩
  · rw [h.a f hf, if_pos hf, if_neg (by omega)]
    simp only [colT]; omega
  · rw [h.n r hr]
    by_cases e : r < t
    · rw [if_pos e, if_pos (by omega)]
    · by_cases e2 : r = t
      · subst e2; rw [if_neg e, if_pos rfl, if_pos (by omega)]
      · rw [if_neg e, if_neg e2, if_neg (by omega)]
        by_cases e3 : r = t + 1
        · rw [if_pos e3]; simp [sumTo]
        · rw [if_neg e3]
  · by_cases e : r = t
    · subst e
      refine ⟨hl, h.pos, ?_⟩
      have := h.n r ht
      rw [if_neg (by omega), if_pos rfl] at this
      have := h.n0 r ht
      omega
    · exact h.rows r (by omega)
theorem LeftAt.done {s : Sh} {T : List (List Int)} {k : Nat} {A N : List Int} (h : LeftAt s T k 0 A N) : irows s T k ∧ A = leftArr s T k ∧ N = leftNeed s T k := by
  refine ⟨⟨h.rows, fun f hf => ?_⟩, extD9 h.la (by simp [leftArr]) fun f hf => ?_, extD9 h.ln (by simp [leftNeed]) fun r hr => ?_⟩
  · have := h.a f hf
    rw [if_neg (by omega)] at this
    have := h.a0 f hf
    omega
  · rw [h.a f hf, if_neg (by omega), leftArr, mapD9 hf]; omega
  · rw [h.n r hr, leftNeed, mapD9 hr]
    by_cases e : r < k
    · rw [if_pos e, if_pos e]
    · rw [if_neg e, if_neg e]
      by_cases e2 : r = k
      · rw [if_pos e2]; simp [sumTo]
      · rw [if_neg e2]
end Go.Proofs.Ytdgfbmilbhckiaa
end
section
namespace Go.Proofs.Ytdgfbmilbhckiaa.Ab
open Go Go.RowKit
set_option linter.unusedVariables false
set_option linter.unusedSimpArgs false
abbrev shV (s : Sh) (a b : Value) : Value := .agg #[.int .i64 s.life, a, b, .int .i64 s.waste, .int .i64 s.lost]
def ShA (m : Mem) (v : Value) (s : Sh) : Prop := ∃ a b, v = shV s a b ∧ IntsA m a s.arr ∧ IntsA m b s.need
theorem ShA.ext {m : Mem} {v : Value} {s : Sh} (h : ShA m v s) (new : Mem) : ShA (m ++ new) v s := by
  obtain ⟨a, b, rfl, h1, h2⟩ := h
  exact ⟨a, b, rfl, h1.ext new, h2.ext new⟩
theorem ShA.ro {m : Mem} {v : Value} {s : Sh} (h : ShA m v s) : ShA (roM m) v s := by
  obtain ⟨a, b, rfl, h1, h2⟩ := h
  exact ⟨a, b, rfl, h1.ro, h2.ro⟩
def ShO (s : Sh) (lo hi : Nat) (M : Mem) (v : Value) : Prop := ∃ a b p, v = shV s a b ∧ lo ≤ p ∧ p ≤ hi ∧ IntsO s.arr lo p M a ∧ IntsO s.need p hi M b
theorem ShO.in {s : Sh} {lo hi : Nat} {M : Mem} {v : Value} (h : ShO s lo hi M v) : ShA M v s := by
  obtain ⟨a, b, p, rfl, _, _, h1, h2⟩ := h
  exact ⟨a, b, rfl, h1.in, h2.in⟩
end Go.Proofs.Ytdgfbmilbhckiaa.Ab
end
section
namespace Go.Proofs.Ytdgfbmilbhckiaa.Ab
open Go Go.RowKit
set_option linter.unusedVariables false
set_option linter.unusedSimpArgs false
theorem isCount9_rc (m : Mem) (x most : Int) : RC Try.prog 103 [.int .i64 x, .int .i64 most] m fun r new => r = .bool (decide (1 ≤ x) && decide (x ≤ most)) ∧ new = [] := by
  refine rc_of_run mixed ok_impl_isCount (by simp) (go_start _ _ _ ?_)
  by_cases h : 0 < x
  · simp (config := {implicitDefEqProofs := false, maxDischargeDepth := 20}) (disch := first | omega | (simp only [lenE]; done) | (simp only [lenE]; omega) | rfl | (simp only [lenE, markR_len]; done) | (simp only [lenE, markR_len]; omega)) only [runE, mapE, listE, initT_5, initT_6, initT_7, initT_8, resV, oneV, binA, unA, reduceCtorEq, Nat.reduceEqDiff, Nat.reduceAdd, Nat.reduceLT, Nat.reduceLeDiff, Nat.reduceMul, Nat.reduceSub, ↓reduceIte, decide_true, decide_false, Bool.true_eq_false, Bool.false_eq_true, Bool.not_true, Bool.not_false, if_true, if_false, and_true, true_and, memE, celE, w64, Nat.zero_add, Nat.add_zero, Nat.mul_one, putL, and_self, ldn, c_impl_isCount, r_impl_isCount, h, gt_iff_lt]
    refine callH_rc (isWithin_rc _ _ _) ?_
    rintro r new ⟨rfl, rfl⟩
    simp (config := {implicitDefEqProofs := false, maxDischargeDepth := 20}) (disch := first | omega | (simp only [lenE]; done) | (simp only [lenE]; omega) | rfl | (simp only [lenE, markR_len]; done) | (simp only [lenE, markR_len]; omega)) only [runE, mapE, listE, initT_5, initT_6, initT_7, initT_8, resV, oneV, binA, unA, reduceCtorEq, Nat.reduceEqDiff, Nat.reduceAdd, Nat.reduceLT, Nat.reduceLeDiff, Nat.reduceMul, Nat.reduceSub, ↓reduceIte, decide_true, decide_false, Bool.true_eq_false, Bool.false_eq_true, Bool.not_true, Bool.not_false, if_true, if_false, and_true, true_and, memE, celE, w64, Nat.zero_add, Nat.add_zero, Nat.mul_one, putL, and_self, ldn]
    refine newQ_nil ⟨?_, rfl⟩
    have e1 : decide (0 ≤ x) = true := decide_eq_true (by omega)
    have e2 : decide (1 ≤ x) = true := decide_eq_true (by omega)
    simp only [inB, e1, e2]
  · simp (config := {implicitDefEqProofs := false, maxDischargeDepth := 20}) (disch := first | omega | (simp only [lenE]; done) | (simp only [lenE]; omega) | rfl | (simp only [lenE, markR_len]; done) | (simp only [lenE, markR_len]; omega)) only [runE, mapE, listE, initT_5, initT_6, initT_7, initT_8, resV, oneV, binA, unA, reduceCtorEq, Nat.reduceEqDiff, Nat.reduceAdd, Nat.reduceLT, Nat.reduceLeDiff, Nat.reduceMul, Nat.reduceSub, ↓reduceIte, decide_true, decide_false, Bool.true_eq_false, Bool.false_eq_true, Bool.not_true, Bool.not_false, if_true, if_false, and_true, true_and, memE, celE, w64, Nat.zero_add, Nat.add_zero, Nat.mul_one, putL, and_self, ldn, c_impl_isCount, r_impl_isCount, h, gt_iff_lt]
    refine newQ_nil ⟨?_, rfl⟩
    have e2 : decide (1 ≤ x) = false := decide_eq_false (by omega)
    simp only [e2, Bool.false_and]
theorem isLife_rc (m : Mem) (x : Int) : RC Try.prog 63 [.int .i64 x] m fun r new => r = .bool (decide (1 ≤ x) && decide (x ≤ 8)) ∧ new = [] := by
  refine rc_of_run mixed ok_impl_isLife (by simp) (go_start _ _ _ ?_)
  simp (config := {implicitDefEqProofs := false, maxDischargeDepth := 20}) (disch := first | omega | (simp only [lenE]; done) | (simp only [lenE]; omega) | rfl | (simp only [lenE, markR_len]; done) | (simp only [lenE, markR_len]; omega)) only [runE, mapE, listE, initT_5, initT_6, initT_7, initT_8, resV, oneV, binA, unA, reduceCtorEq, Nat.reduceEqDiff, Nat.reduceAdd, Nat.reduceLT, Nat.reduceLeDiff, Nat.reduceMul, Nat.reduceSub, ↓reduceIte, decide_true, decide_false, Bool.true_eq_false, Bool.false_eq_true, Bool.not_true, Bool.not_false, if_true, if_false, and_true, true_and, memE, celE, w64, Nat.zero_add, Nat.add_zero, Nat.mul_one, putL, and_self, ldn, c_impl_isLife, r_impl_isLife]
  refine callH_rc (isCount9_rc _ _ _) ?_
  rintro r new ⟨rfl, rfl⟩
  simp (config := {implicitDefEqProofs := false, maxDischargeDepth := 20}) (disch := first | omega | (simp only [lenE]; done) | (simp only [lenE]; omega) | rfl | (simp only [lenE, markR_len]; done) | (simp only [lenE, markR_len]; omega)) only [runE, mapE, listE, initT_5, initT_6, initT_7, initT_8, resV, oneV, binA, unA, reduceCtorEq, Nat.reduceEqDiff, Nat.reduceAdd, Nat.reduceLT, Nat.reduceLeDiff, Nat.reduceMul, Nat.reduceSub, ↓reduceIte, decide_true, decide_false, Bool.true_eq_false, Bool.false_eq_true, Bool.not_true, Bool.not_false, if_true, if_false, and_true, true_and, memE, celE, w64, Nat.zero_add, Nat.add_zero, Nat.mul_one, putL, and_self, ldn]
  exact newQ_nil ⟨rfl, rfl⟩
end Go.Proofs.Ytdgfbmilbhckiaa.Ab
end
section
namespace Go.Proofs.Ytdgfbmilbhckiaa.Ab
open Go Go.RowKit
set_option linter.unusedVariables false
set_option linter.unusedSimpArgs false
theorem ascending_rc (m : Mem) (u : Value) (ps : List Int) (n : Nat) (h' : IntsA m u ps) (hn : n ≤ 1048576) :
    RC Try.prog 66 [u, .int .i64 (n : Int)] m (AnsV (.bool (risB ps n))) := by
  refine rc_of_run mixed ok_impl_isAscending (by simp) (go_start _ _ _ ?_)
  have hu := h'.ro
  have hbd := hu.bd
  simp (config := {implicitDefEqProofs := false, maxDischargeDepth := 20}) (disch := first | omega | (simp only [lenE]; done) | (simp only [lenE]; omega) | rfl | (simp only [lenE, markR_len]; done) | (simp only [lenE, markR_len]; omega)) only [runE, mapE, listE, initT_5, initT_6, initT_7, initT_8, resV, oneV, binA, unA, reduceCtorEq, Nat.reduceEqDiff, Nat.reduceAdd, Nat.reduceLT, Nat.reduceLeDiff, Nat.reduceMul, Nat.reduceSub, ↓reduceIte, decide_true, decide_false, Bool.true_eq_false, Bool.false_eq_true, Bool.not_true, Bool.not_false, if_true, if_false, and_true, true_and, memE, celE, w64, Nat.zero_add, Nat.add_zero, Nat.mul_one, putL, and_self, ldn, c_impl_isAscending, r_impl_isAscending, hu.len]
  refine loop_inv mixed (fun s => ∃ i : Nat, i ≤ ps.length ∧ (∀ j, j < i → (0 ≤ ps.getD j 0 ∧ ps.getD j 0 ≤ (n : Int) - 1) ∧ (0 < j → ps.getD (j - 1) 0 < ps.getD j 0)) ∧ s.t 1 = .int .i64 (n : Int) ∧ s.t 5 = .int .i64 (if i = 0 then 0 else ps.getD (i - 1) 0 + 1) ∧ s.t 8 = u ∧ s.t 9 = .int .i64 (ps.length : Int) ∧ s.t 10 = .int .i64 (i : Int) ∧ s.m = roM m) (fun s => ps.length - (intOf (s.t 10)).toNat)
    ⟨0, by omega, fun j hj => absurd hj (by omega), rfl, rfl, rfl, rfl, rfl, rfl⟩ ?_
  rintro s ⟨i, hk, hall, t1, t5, t8, t9, t10, tm⟩
  obtain ⟨x, hx⟩ : ∃ x : Int, x = if i = 0 then 0 else ps.getD (i - 1) 0 + 1 := ⟨_, rfl⟩
  rw [← hx] at t5
  have nx : ((0 ≤ ps.getD i 0 ∧ ps.getD i 0 ≤ (n : Int) - 1) ∧ (0 < i → ps.getD (i - 1) 0 < ps.getD i 0)) → ∀ j, j < i + 1 → (0 ≤ ps.getD j 0 ∧ ps.getD j 0 ≤ (n : Int) - 1) ∧ (0 < j → ps.getD (j - 1) 0 < ps.getD j 0) := fun hh j hj => by
    by_cases e : j < i
    · exact hall j e
    · have : j = i := by omega
      rw [this]; exact hh
  by_cases hlt : i < ps.length
  · have hlt' : (i : Int) < ps.length := by omega
    have ai := hu.at_ i hlt
    have li := hu.ld i hlt
    have hx1 : (ps.getD i 0 < x) ↔ ¬ (0 ≤ ps.getD i 0 ∧ (0 < i → ps.getD (i - 1) 0 < ps.getD i 0)) := by
      rw [hx]
      split
      · rename_i h0; subst h0; constructor
        · intro h1 h2; omega
        · intro h1; apply Int.not_le.1; intro h2; exact h1 ⟨h2, fun h => by omega⟩
      · rename_i h0
        have := (hall (i - 1) (by omega)).1
        constructor
        · intro h1 h2; have := h2.2 (by omega); omega
        · intro h1; apply Int.not_le.1; intro h2; exact h1 ⟨by omega, fun _ => by omega⟩
    by_cases hlo : ps.getD i 0 < x
    · simp (config := {implicitDefEqProofs := false, maxDischargeDepth := 20}) (disch := first | omega | (simp only [lenE]; done) | (simp only [lenE]; omega) | rfl | (simp only [lenE, markR_len]; done) | (simp only [lenE, markR_len]; omega)) only [runE, mapE, listE, initT_5, initT_6, initT_7, initT_8, resV, oneV, binA, unA, reduceCtorEq, Nat.reduceEqDiff, Nat.reduceAdd, Nat.reduceLT, Nat.reduceLeDiff, Nat.reduceMul, Nat.reduceSub, ↓reduceIte, decide_true, decide_false, Bool.true_eq_false, Bool.false_eq_true, Bool.not_true, Bool.not_false, if_true, if_false, and_true, true_and, memE, celE, w64, Nat.zero_add, Nat.add_zero, Nat.mul_one, putL, and_self, ldn, t1, t5, t8, t9, t10, tm, hlt', ai, li, hlo, goG_undef]
      rw [risB_no hlt fun hh => (hx1.1 hlo) ⟨hh.1.1, hh.2⟩]
      exact ext_ansV (Ext.refl m) rfl
    · have hge : (0 ≤ ps.getD i 0 ∧ (0 < i → ps.getD (i - 1) 0 < ps.getD i 0)) := Classical.byContradiction fun hh => hlo (hx1.2 hh)
      by_cases hhi : (n : Int) ≤ ps.getD i 0
      · simp (config := {implicitDefEqProofs := false, maxDischargeDepth := 20}) (disch := first | omega | (simp only [lenE]; done) | (simp only [lenE]; omega) | rfl | (simp only [lenE, markR_len]; done) | (simp only [lenE, markR_len]; omega)) only [runE, mapE, listE, initT_5, initT_6, initT_7, initT_8, resV, oneV, binA, unA, reduceCtorEq, Nat.reduceEqDiff, Nat.reduceAdd, Nat.reduceLT, Nat.reduceLeDiff, Nat.reduceMul, Nat.reduceSub, ↓reduceIte, decide_true, decide_false, Bool.true_eq_false, Bool.false_eq_true, Bool.not_true, Bool.not_false, if_true, if_false, and_true, true_and, memE, celE, w64, Nat.zero_add, Nat.add_zero, Nat.mul_one, putL, and_self, ldn, t1, t5, t8, t9, t10, tm, hlt', ai, li, hlo, hhi, ge_iff_le, goG_undef]
        rw [risB_no hlt fun hh => by omega]
        exact ext_ansV (Ext.refl m) rfl
      · simp (config := {implicitDefEqProofs := false, maxDischargeDepth := 20}) (disch := first | omega | (simp only [lenE]; done) | (simp only [lenE]; omega) | rfl | (simp only [lenE, markR_len]; done) | (simp only [lenE, markR_len]; omega)) only [runE, mapE, listE, initT_5, initT_6, initT_7, initT_8, resV, oneV, binA, unA, reduceCtorEq, Nat.reduceEqDiff, Nat.reduceAdd, Nat.reduceLT, Nat.reduceLeDiff, Nat.reduceMul, Nat.reduceSub, ↓reduceIte, decide_true, decide_false, Bool.true_eq_false, Bool.false_eq_true, Bool.not_true, Bool.not_false, if_true, if_false, and_true, true_and, memE, celE, w64, Nat.zero_add, Nat.add_zero, Nat.mul_one, putL, and_self, ldn, t1, t5, t8, t9, t10, tm, hlt', ai, li, hlo, hhi, ge_iff_le, goG_undef]
        refine ⟨⟨i + 1, by omega, nx ⟨⟨hge.1, by omega⟩, hge.2⟩, ?_⟩, ?_⟩
        · exact ⟨by rw [if_neg (by omega), Nat.add_sub_cancel], by simp⟩
        · simp [intOf]; omega
  · have e : i = ps.length := by omega
    subst e
    have hirr : ¬ ((ps.length : Int) < ps.length) := by omega
    simp (config := {implicitDefEqProofs := false, maxDischargeDepth := 20}) (disch := first | omega | (simp only [lenE]; done) | (simp only [lenE]; omega) | rfl | (simp only [lenE, markR_len]; done) | (simp only [lenE, markR_len]; omega)) only [runE, mapE, listE, initT_5, initT_6, initT_7, initT_8, resV, oneV, binA, unA, reduceCtorEq, Nat.reduceEqDiff, Nat.reduceAdd, Nat.reduceLT, Nat.reduceLeDiff, Nat.reduceMul, Nat.reduceSub, ↓reduceIte, decide_true, decide_false, Bool.true_eq_false, Bool.false_eq_true, Bool.not_true, Bool.not_false, if_true, if_false, and_true, true_and, memE, celE, w64, Nat.zero_add, Nat.add_zero, Nat.mul_one, putL, and_self, ldn, t1, t5, t8, t9, t10, tm, hirr]
    have hr : risB ps n = true := decide_eq_true hall
    rw [hr]
    exact ext_ansV (Ext.refl m) rfl
end Go.Proofs.Ytdgfbmilbhckiaa.Ab
end
section
namespace Go.Proofs.Ytdgfbmilbhckiaa.Ab
open Go Go.RowKit
set_option linter.unusedVariables false
set_option linter.unusedSimpArgs false
theorem l3Rate_rc (m : Mem) (v : Value) (k : Cs) (i t : Nat) (h : CaseA m v k) (hg : Good k) (hi : i < k.need.length) (hit : i ≤ t) (ht : t ≤ k.need.length) :
    RC Try.prog 118 [v, .int .i64 i, .int .i64 t] m (AnsV (.int .i64 (rateF k i t))) := by
  refine rc_of_run mixed ok_spec_l3Rate (by simp) (go_start _ _ _ ?_)
  obtain ⟨v1, v2, v3, v4, rfl, h1, h2, h3, h4⟩ := h.ro.ok
  have h8 := hg.n8
  have g1 := hg.lu
  have g2 := hg.lh
  simp (config := {implicitDefEqProofs := false, maxDischargeDepth := 20}) (disch := first | omega | (simp only [lenE]; done) | (simp only [lenE]; omega) | rfl | (simp only [lenE, markR_len]; done) | (simp only [lenE, markR_len]; omega)) only [runE, mapE, listE, initT_5, initT_6, initT_7, initT_8, resV, oneV, binA, unA, reduceCtorEq, Nat.reduceEqDiff, Nat.reduceAdd, Nat.reduceLT, Nat.reduceLeDiff, Nat.reduceMul, Nat.reduceSub, ↓reduceIte, decide_true, decide_false, Bool.true_eq_false, Bool.false_eq_true, Bool.not_true, Bool.not_false, if_true, if_false, and_true, true_and, memE, celE, w64, Nat.zero_add, Nat.add_zero, Nat.mul_one, putL, and_self, ldn, c_spec_l3Rate, r_spec_l3Rate, h3.at_ i (by omega), (h3.ext _).ld i (by omega)]
  refine loop_inv mixed (fun s => ∃ x : Nat, i ≤ x ∧ x ≤ t ∧ s.t 2 = .int .i64 t ∧ s.t 3 = .pointer (some ⟨m.length, 0, none⟩) ∧ s.t 7 = .int .i64 (rateF k i x) ∧ s.t 8 = .int .i64 x ∧ s.m = roM m ++ [⟨.own, 52, [v1, v2, v3, v4]⟩]) (fun s => t - (intOf (s.t 8)).toNat)
    ⟨i, Nat.le_refl _, hit, rfl, rfl, by rw [rateF_self]; rfl, rfl, rfl⟩ ?_
  rintro s ⟨x, hix, hxt, t2, t3, t7, t8, tm⟩
  by_cases hlt : x < t
  · have hlt' : (x : Int) < t := by omega
    have b1 := rateF_in hg hix (by omega)
    have b2 := getD_bound (m := 9) (by omega) hg.hold x
    simp (config := {implicitDefEqProofs := false, maxDischargeDepth := 20}) (disch := first | omega | (simp only [lenE]; done) | (simp only [lenE]; omega) | rfl | (simp only [lenE, markR_len]; done) | (simp only [lenE, markR_len]; omega)) only [runE, mapE, listE, initT_5, initT_6, initT_7, initT_8, resV, oneV, binA, unA, reduceCtorEq, Nat.reduceEqDiff, Nat.reduceAdd, Nat.reduceLT, Nat.reduceLeDiff, Nat.reduceMul, Nat.reduceSub, ↓reduceIte, decide_true, decide_false, Bool.true_eq_false, Bool.false_eq_true, Bool.not_true, Bool.not_false, if_true, if_false, and_true, true_and, memE, celE, w64, Nat.zero_add, Nat.add_zero, Nat.mul_one, putL, and_self, ldn, t2, t3, t7, t8, tm, hlt', h4.at_ x (by omega), (h4.ext _).ld x (by omega)]
    exact ⟨⟨x + 1, by omega, by omega, by rw [rateF_s], by simp⟩, by simp [intOf]; omega⟩
  · have hlt' : ¬ ((x : Int) < t) := by omega
    have e : x = t := by omega
    subst e
    simp (config := {implicitDefEqProofs := false, maxDischargeDepth := 20}) (disch := first | omega | (simp only [lenE]; done) | (simp only [lenE]; omega) | rfl | (simp only [lenE, markR_len]; done) | (simp only [lenE, markR_len]; omega)) only [runE, mapE, listE, initT_5, initT_6, initT_7, initT_8, resV, oneV, binA, unA, reduceCtorEq, Nat.reduceEqDiff, Nat.reduceAdd, Nat.reduceLT, Nat.reduceLeDiff, Nat.reduceMul, Nat.reduceSub, ↓reduceIte, decide_true, decide_false, Bool.true_eq_false, Bool.false_eq_true, Bool.not_true, Bool.not_false, if_true, if_false, and_true, true_and, memE, celE, w64, Nat.zero_add, Nat.add_zero, Nat.mul_one, putL, and_self, ldn, t2, t3, t7, t8, tm, hlt']
    exact ext_ansV ((Ext.refl m).one _ _) rfl

theorem rateFrom_rc (m : Mem) (v : Value) (k : Cs) (i t : Nat) (h : CaseA m v k) (hg : Good k) (hi : i < k.need.length) (hit : i ≤ t) (ht : t ≤ k.need.length) :
    RC Try.prog 116 [v, .int .i64 i, .int .i64 t] m (AnsV (.int .i64 (rateF k i t))) := by
  refine rc_of_run mixed ok_impl_rateFrom (by simp) (go_start _ _ _ ?_)
  obtain ⟨v1, v2, v3, v4, rfl, h1, h2, h3, h4⟩ := h.ro.ok
  have h8 := hg.n8
  have g1 := hg.lu
  have g2 := hg.lh
  obtain ⟨c4, e4, d4⟩ := (h4.ext [⟨.own, 52, [v1, v2, v3, v4]⟩]).cut hit (by omega)
  simp (config := {implicitDefEqProofs := false, maxDischargeDepth := 20}) (disch := first | omega | (simp only [lenE]; done) | (simp only [lenE]; omega) | rfl | (simp only [lenE, markR_len]; done) | (simp only [lenE, markR_len]; omega)) only [runE, mapE, listE, initT_5, initT_6, initT_7, initT_8, resV, oneV, binA, unA, reduceCtorEq, Nat.reduceEqDiff, Nat.reduceAdd, Nat.reduceLT, Nat.reduceLeDiff, Nat.reduceMul, Nat.reduceSub, ↓reduceIte, decide_true, decide_false, Bool.true_eq_false, Bool.false_eq_true, Bool.not_true, Bool.not_false, if_true, if_false, and_true, true_and, memE, celE, w64, Nat.zero_add, Nat.add_zero, Nat.mul_one, putL, and_self, ldn, c_impl_rateFrom, r_impl_rateFrom, h3.at_ i (by omega), (h3.ext _).ld i (by omega), e4]
  refine rcallH_rc (sumOf_cut_rc _ _ k.hold (b := 9) d4 hit (by omega) (by omega) (by omega) hg.hold (by omega)) ?_
  rintro r new ⟨rfl, rfl⟩
  have b1 := rateF_in hg hit (by omega)
  unfold rateF at b1
  simp (config := {implicitDefEqProofs := false, maxDischargeDepth := 20}) (disch := first | omega | (simp only [lenE]; done) | (simp only [lenE]; omega) | rfl | (simp only [lenE, markR_len]; done) | (simp only [lenE, markR_len]; omega)) only [runE, mapE, listE, initT_5, initT_6, initT_7, initT_8, resV, oneV, binA, unA, reduceCtorEq, Nat.reduceEqDiff, Nat.reduceAdd, Nat.reduceLT, Nat.reduceLeDiff, Nat.reduceMul, Nat.reduceSub, ↓reduceIte, decide_true, decide_false, Bool.true_eq_false, Bool.false_eq_true, Bool.not_true, Bool.not_false, if_true, if_false, and_true, true_and, memE, celE, w64, Nat.zero_add, Nat.add_zero, Nat.mul_one, putL, and_self, ldn]
  exact ext_ansV ((Ext.refl m).one _ _) rfl

end Go.Proofs.Ytdgfbmilbhckiaa.Ab
end
section
namespace Go.Proofs.Ytdgfbmilbhckiaa.Ab
open Go Go.RowKit
set_option linter.unusedVariables false
set_option linter.unusedSimpArgs false
def freshB (life p t : Int) : Bool := decide (p ≤ t) && decide (t < p + life)
def frTo (k : Cs) (life : Int) (ps : List Int) (t : Nat) : Nat → Option Int
  | 0 => none
  | i + 1 => if freshB life (ps.getD i 0) t then some (match frTo k life ps t i with | none => rateF k (ps.getD i 0).toNat t | some b => min b (rateF k (ps.getD i 0).toNat t)) else frTo k life ps t i
def frate (k : Cs) (life : Int) (ps : List Int) (t : Nat) : Option Int := frTo k life ps t ps.length
theorem fr_use {life : Int} {ps : List Int} {n t i : Nat} (hr : Rising ps n) (hi : i < ps.length) (h : freshB life (ps.getD i 0) t = true) : (ps.getD i 0).toNat ≤ t ∧ (ps.getD i 0).toNat < n ∧ ps.getD i 0 = ((ps.getD i 0).toNat : Int) := by
  have b := hr.bd i hi
  unfold freshB at h
  rw [Bool.and_eq_true, decide_eq_true_eq, decide_eq_true_eq] at h
  omega
theorem frTo_bd {k : Cs} (hg : Good k) {life : Int} {ps : List Int} {t : Nat} (hr : Rising ps k.need.length) (ht : t < k.need.length) : ∀ i, i ≤ ps.length → ∀ x, frTo k life ps t i = some x → 0 ≤ x ∧ x ≤ 81 := by
  intro i
  induction i with
  | zero => intro _ x hx; cases hx
  | succ i ih =>
    intro hi x hx
    have h8 := hg.n8
    rw [frTo] at hx
    by_cases hu : freshB life (ps.getD i 0) t = true
    · rw [if_pos hu] at hx
      obtain ⟨u1, u2, u3⟩ := fr_use hr (by omega) hu
      have rb := rateF_in hg u1 (by omega)
      injection hx with hx
      cases hf : frTo k life ps t i with
      | none => rw [hf] at hx; simp only at hx; omega
      | some b =>
        rw [hf] at hx
        have := ih (by omega) b hf
        simp only at hx
        omega
    · rw [if_neg hu] at hx
      exact ih (by omega) x hx
theorem frTo_no {k : Cs} {life : Int} {ps : List Int} {t i : Nat} (h : freshB life (ps.getD i 0) t = false) : frTo k life ps t (i + 1) = frTo k life ps t i := by rw [frTo, h]; rfl
theorem frTo_yes {k : Cs} {life : Int} {ps : List Int} {t i : Nat} (h : freshB life (ps.getD i 0) t = true) : frTo k life ps t (i + 1) = some (match frTo k life ps t i with | none => rateF k (ps.getD i 0).toNat t | some b => min b (rateF k (ps.getD i 0).toNat t)) := by rw [frTo, if_pos h]
theorem freshAt_rc (m : Mem) (p t life : Int) (hp : 0 ≤ p ∧ p ≤ 100) (hl : 0 ≤ life ∧ life ≤ 8) : RC Try.prog 102 [.int .i64 p, .int .i64 t, .int .i64 life] m fun r new => r = .bool (freshB life p t) ∧ new = [] := by
  refine rc_of_run mixed ok_impl_isFresh (by simp) (go_start _ _ _ ?_)
  unfold freshB
  by_cases g : p ≤ t
  · simp (config := {implicitDefEqProofs := false, maxDischargeDepth := 20}) (disch := first | omega | (simp only [lenE]; done) | (simp only [lenE]; omega) | rfl | (simp only [lenE, markR_len]; done) | (simp only [lenE, markR_len]; omega)) only [runE, mapE, listE, initT_5, initT_6, initT_7, initT_8, resV, oneV, binA, unA, reduceCtorEq, Nat.reduceEqDiff, Nat.reduceAdd, Nat.reduceLT, Nat.reduceLeDiff, Nat.reduceMul, Nat.reduceSub, ↓reduceIte, decide_true, decide_false, Bool.true_eq_false, Bool.false_eq_true, Bool.not_true, Bool.not_false, if_true, if_false, and_true, true_and, memE, celE, w64, Nat.zero_add, Nat.add_zero, Nat.mul_one, putL, and_self, ldn, c_impl_isFresh, r_impl_isFresh, g]
    exact newQ_nil ⟨by simp, rfl⟩
  · simp (config := {implicitDefEqProofs := false, maxDischargeDepth := 20}) (disch := first | omega | (simp only [lenE]; done) | (simp only [lenE]; omega) | rfl | (simp only [lenE, markR_len]; done) | (simp only [lenE, markR_len]; omega)) only [runE, mapE, listE, initT_5, initT_6, initT_7, initT_8, resV, oneV, binA, unA, reduceCtorEq, Nat.reduceEqDiff, Nat.reduceAdd, Nat.reduceLT, Nat.reduceLeDiff, Nat.reduceMul, Nat.reduceSub, ↓reduceIte, decide_true, decide_false, Bool.true_eq_false, Bool.false_eq_true, Bool.not_true, Bool.not_false, if_true, if_false, and_true, true_and, memE, celE, w64, Nat.zero_add, Nat.add_zero, Nat.mul_one, putL, and_self, ldn, c_impl_isFresh, r_impl_isFresh, g]
    exact newQ_nil ⟨by simp [g], rfl⟩
theorem l9Rate_rc (m : Mem) (v u : Value) (k : Cs) (life : Int) (ps : List Int) (t : Nat) (h : CaseA m v k) (hu : IntsA m u ps) (hg : Good k) (hr : Rising ps k.need.length) (hl : 1 ≤ life ∧ life ≤ 8) (ht : t < k.need.length) :
    RC Try.prog 108 [v, .int .i64 life, u, .int .i64 (t : Int)] m (AnsV (.int .i64 ((frate k life ps t).getD (-1)))) := by
  refine rc_of_run mixed ok_spec_l9Rate (by simp) (go_start _ _ _ ?_)
  obtain ⟨v1, v2, v3, v4, rfl, h1, h2, h3, h4⟩ := h.ro.ok
  have hu' := hu.ro
  have h8 := hg.n8
  have hX := (Ext.refl m).one 52 [v1, v2, v3, v4]
  have hbd := frTo_bd hg (life := life) hr ht
  have sl := hr.len
  simp (config := {implicitDefEqProofs := false, maxDischargeDepth := 20}) (disch := first | omega | (simp only [lenE]; done) | (simp only [lenE]; omega) | rfl | (simp only [lenE, markR_len]; done) | (simp only [lenE, markR_len]; omega)) only [runE, mapE, listE, initT_5, initT_6, initT_7, initT_8, resV, oneV, binA, unA, reduceCtorEq, Nat.reduceEqDiff, Nat.reduceAdd, Nat.reduceLT, Nat.reduceLeDiff, Nat.reduceMul, Nat.reduceSub, ↓reduceIte, decide_true, decide_false, Bool.true_eq_false, Bool.false_eq_true, Bool.not_true, Bool.not_false, if_true, if_false, and_true, true_and, memE, celE, w64, Nat.zero_add, Nat.add_zero, Nat.mul_one, putL, and_self, ldn, c_spec_l9Rate, r_spec_l9Rate]
  obtain ⟨M0, hM0⟩ : ∃ M0, M0 = roM m ++ [⟨.own, 52, [v1, v2, v3, v4]⟩] := ⟨_, rfl⟩
  have o1 : M0[m.length]? = some ⟨.own, 52, [v1, v2, v3, v4]⟩ := by rw [hM0]; simp [roM_len]
  have rdx : ∀ (M : Mem), M[m.length]? = some ⟨.own, 52, [v1, v2, v3, v4]⟩ → ∀ j, rdc M m.length j = [v1, v2, v3, v4][j]? := fun M h j => OwnB.rd (e := 52) h j
  rw [← hM0] at hX ⊢
  refine loop_inv mixed (fun s => ∃ (i : Nat) (M : Mem), i ≤ ps.length ∧ s.m = M ∧ Ext m M ∧ M[m.length]? = some ⟨.own, 52, [v1, v2, v3, v4]⟩ ∧ s.t 1 = .int .i64 life ∧ s.t 2 = u ∧ s.t 3 = .int .i64 (t : Int) ∧ s.t 4 = .pointer (some ⟨m.length, 0, none⟩) ∧ s.t 9 = .int .i64 ((frTo k life ps t i).getD (-1)) ∧ s.t 10 = .int .i64 (i : Int)) (fun s => ps.length - (intOf (s.t 10)).toNat)
    ⟨0, M0, by omega, (by first | rfl | simp only [put_t, put_t', put_m, putT_t, putT_t', putT_m, init_t, init_m, initT_0, initT_1, initT_2, initT_3, initT_4, initT_5, initT_6, initT_7, initT_8, Nat.reduceEqDiff, ↓reduceIte]), hX, o1, rfl, rfl, rfl, rfl, rfl, rfl⟩ ?_
  clear hX o1 hM0
  rintro s ⟨i, M, hk, tm, hX, o1, t1, t2, t3, t4, t9, t10⟩
  have ub := hX.ints hu'
  have ml : m.length < M.length := (List.getElem?_eq_some_iff.1 o1).1
  by_cases hlt : i < ps.length
  · have hlt' : (i : Int) < ps.length := by omega
    have b0 := hr.bd i hlt
    have hi := hbd i (by omega)
    cases hf : freshB life (ps.getD i 0) t with
    | false =>
      have e := frTo_no (k := k) hf
      have hf' := hf
      unfold freshB at hf'
      by_cases g : ps.getD i 0 ≤ t
      · have g2 : ¬ ((t : Int) < ps.getD i 0 + life) := by
          intro h9; rw [decide_eq_true g, decide_eq_true h9] at hf'; cases hf'
        simp (config := {implicitDefEqProofs := false, maxDischargeDepth := 20}) (disch := first | omega | (simp only [lenE]; done) | (simp only [lenE]; omega) | rfl | (simp only [lenE, markR_len]; done) | (simp only [lenE, markR_len]; omega)) only [runE, mapE, listE, initT_5, initT_6, initT_7, initT_8, resV, oneV, binA, unA, reduceCtorEq, Nat.reduceEqDiff, Nat.reduceAdd, Nat.reduceLT, Nat.reduceLeDiff, Nat.reduceMul, Nat.reduceSub, ↓reduceIte, decide_true, decide_false, Bool.true_eq_false, Bool.false_eq_true, Bool.not_true, Bool.not_false, if_true, if_false, and_true, true_and, memE, celE, w64, Nat.zero_add, Nat.add_zero, Nat.mul_one, putL, and_self, ldn, tm, t1, t2, t3, t4, t9, t10, ub.len, hlt', ub.at_ i hlt, ub.ld i hlt, g, g2]
        refine ⟨⟨i + 1, M, by omega, rfl, hX, o1, by rw [e], by simp⟩, ?_⟩
        simp [intOf]; omega
      · simp (config := {implicitDefEqProofs := false, maxDischargeDepth := 20}) (disch := first | omega | (simp only [lenE]; done) | (simp only [lenE]; omega) | rfl | (simp only [lenE, markR_len]; done) | (simp only [lenE, markR_len]; omega)) only [runE, mapE, listE, initT_5, initT_6, initT_7, initT_8, resV, oneV, binA, unA, reduceCtorEq, Nat.reduceEqDiff, Nat.reduceAdd, Nat.reduceLT, Nat.reduceLeDiff, Nat.reduceMul, Nat.reduceSub, ↓reduceIte, decide_true, decide_false, Bool.true_eq_false, Bool.false_eq_true, Bool.not_true, Bool.not_false, if_true, if_false, and_true, true_and, memE, celE, w64, Nat.zero_add, Nat.add_zero, Nat.mul_one, putL, and_self, ldn, tm, t1, t2, t3, t4, t9, t10, ub.len, hlt', ub.at_ i hlt, ub.ld i hlt, g]
        refine ⟨⟨i + 1, M, by omega, rfl, hX, o1, by rw [e], by simp⟩, ?_⟩
        simp [intOf]; omega
    | true =>
      have e := frTo_yes (k := k) hf
      obtain ⟨u1, u2, u3⟩ := fr_use hr hlt hf
      have hf' := hf
      unfold freshB at hf'
      rw [Bool.and_eq_true, decide_eq_true_eq, decide_eq_true_eq] at hf'
      obtain ⟨g, g2⟩ := hf'
      have rb := rateF_in hg u1 (by omega)
      have KR := l3Rate_rc M _ k (ps.getD i 0).toNat t ⟨v1, v2, v3, v4, rfl, hX.ints h1, hX.ints h2, hX.ints h3, hX.ints h4⟩ hg u2 u1 (by omega)
      rw [← u3] at KR
      simp (config := {implicitDefEqProofs := false, maxDischargeDepth := 20}) (disch := first | omega | (simp only [lenE]; done) | (simp only [lenE]; omega) | rfl | (simp only [lenE, markR_len]; done) | (simp only [lenE, markR_len]; omega)) only [runE, mapE, listE, initT_5, initT_6, initT_7, initT_8, resV, oneV, binA, unA, reduceCtorEq, Nat.reduceEqDiff, Nat.reduceAdd, Nat.reduceLT, Nat.reduceLeDiff, Nat.reduceMul, Nat.reduceSub, ↓reduceIte, decide_true, decide_false, Bool.true_eq_false, Bool.false_eq_true, Bool.not_true, Bool.not_false, if_true, if_false, and_true, true_and, memE, celE, w64, Nat.zero_add, Nat.add_zero, Nat.mul_one, putL, and_self, ldn, tm, t1, t2, t3, t4, t9, t10, ub.len, hlt', ub.at_ i hlt, ub.ld i hlt, g, g2, rdx M o1]
      refine callH_rc KR ?_
      rintro r n2 ⟨rfl, nr2⟩
      obtain ⟨rt, hrt⟩ : ∃ rt, rt = rateF k (ps.getD i 0).toNat t := ⟨_, rfl⟩
      rw [← hrt] at rb e ⊢
      have o2 : (M ++ n2)[m.length]? = some ⟨.own, 52, [v1, v2, v3, v4]⟩ := by rw [List.getElem?_append_left ml]; exact o1
      cases hq : frTo k life ps t i with
      | none =>
        rw [hq] at t9 e
        have hneg : ((-1 : Int) < 0) := by omega
        simp (config := {implicitDefEqProofs := false, maxDischargeDepth := 20}) (disch := first | omega | (simp only [lenE]; done) | (simp only [lenE]; omega) | rfl | (simp only [lenE, markR_len]; done) | (simp only [lenE, markR_len]; omega)) only [runE, mapE, listE, initT_5, initT_6, initT_7, initT_8, resV, oneV, binA, unA, reduceCtorEq, Nat.reduceEqDiff, Nat.reduceAdd, Nat.reduceLT, Nat.reduceLeDiff, Nat.reduceMul, Nat.reduceSub, ↓reduceIte, decide_true, decide_false, Bool.true_eq_false, Bool.false_eq_true, Bool.not_true, Bool.not_false, if_true, if_false, and_true, true_and, memE, celE, w64, Nat.zero_add, Nat.add_zero, Nat.mul_one, putL, and_self, ldn, t1, t2, t3, t4, t9, t10, Option.getD_none, show ((-1 : Int) < 0) = True by simp, goG_undef]
        refine ⟨⟨i + 1, M ++ n2, by omega, rfl, hX.app nr2, o2, by rw [e]; rfl, by simp⟩, ?_⟩
        simp [intOf]; omega
      | some b =>
        rw [hq] at t9 e
        have bb := hi b hq
        have hneg : ¬ (b < 0) := by omega
        by_cases hlt2 : rt < b
        · simp (config := {implicitDefEqProofs := false, maxDischargeDepth := 20}) (disch := first | omega | (simp only [lenE]; done) | (simp only [lenE]; omega) | rfl | (simp only [lenE, markR_len]; done) | (simp only [lenE, markR_len]; omega)) only [runE, mapE, listE, initT_5, initT_6, initT_7, initT_8, resV, oneV, binA, unA, reduceCtorEq, Nat.reduceEqDiff, Nat.reduceAdd, Nat.reduceLT, Nat.reduceLeDiff, Nat.reduceMul, Nat.reduceSub, ↓reduceIte, decide_true, decide_false, Bool.true_eq_false, Bool.false_eq_true, Bool.not_true, Bool.not_false, if_true, if_false, and_true, true_and, memE, celE, w64, Nat.zero_add, Nat.add_zero, Nat.mul_one, putL, and_self, ldn, t1, t2, t3, t4, t9, t10, Option.getD_some, hneg, hlt2, goG_undef]
          refine ⟨⟨i + 1, M ++ n2, by omega, rfl, hX.app nr2, o2, by rw [e]; simp only [Option.getD_some]; congr 1; omega, by simp⟩, ?_⟩
          simp [intOf]; omega
        · simp (config := {implicitDefEqProofs := false, maxDischargeDepth := 20}) (disch := first | omega | (simp only [lenE]; done) | (simp only [lenE]; omega) | rfl | (simp only [lenE, markR_len]; done) | (simp only [lenE, markR_len]; omega)) only [runE, mapE, listE, initT_5, initT_6, initT_7, initT_8, resV, oneV, binA, unA, reduceCtorEq, Nat.reduceEqDiff, Nat.reduceAdd, Nat.reduceLT, Nat.reduceLeDiff, Nat.reduceMul, Nat.reduceSub, ↓reduceIte, decide_true, decide_false, Bool.true_eq_false, Bool.false_eq_true, Bool.not_true, Bool.not_false, if_true, if_false, and_true, true_and, memE, celE, w64, Nat.zero_add, Nat.add_zero, Nat.mul_one, putL, and_self, ldn, t1, t2, t3, t4, t9, t10, Option.getD_some, hneg, hlt2, goG_undef]
          refine ⟨⟨i + 1, M ++ n2, by omega, rfl, hX.app nr2, o2, by rw [e]; simp only [Option.getD_some]; congr 1; omega, by simp⟩, ?_⟩
          simp [intOf]; omega
  · have hlt' : ¬ ((i : Int) < ps.length) := by omega
    have e : i = ps.length := by omega
    subst e
    simp (config := {implicitDefEqProofs := false, maxDischargeDepth := 20}) (disch := first | omega | (simp only [lenE]; done) | (simp only [lenE]; omega) | rfl | (simp only [lenE, markR_len]; done) | (simp only [lenE, markR_len]; omega)) only [runE, mapE, listE, initT_5, initT_6, initT_7, initT_8, resV, oneV, binA, unA, reduceCtorEq, Nat.reduceEqDiff, Nat.reduceAdd, Nat.reduceLT, Nat.reduceLeDiff, Nat.reduceMul, Nat.reduceSub, ↓reduceIte, decide_true, decide_false, Bool.true_eq_false, Bool.false_eq_true, Bool.not_true, Bool.not_false, if_true, if_false, and_true, true_and, memE, celE, w64, Nat.zero_add, Nat.add_zero, Nat.mul_one, putL, and_self, ldn, tm, t1, t2, t3, t4, t9, t10, ub.len, hlt']
    exact ext_ansV hX rfl
end Go.Proofs.Ytdgfbmilbhckiaa.Ab
end
section
namespace Go.Proofs.Ytdgfbmilbhckiaa.Ab
open Go Go.RowKit
set_option linter.unusedVariables false
set_option linter.unusedSimpArgs false
def minI (l : List Int) : Nat → Int
  | 0 => l.getD 0 0
  | k + 1 => min (minI l k) (l.getD (k + 1) 0)
theorem slMin_rc (m : Mem) (v : Value) (l : List Int) (h : IntsA m v l) (h0 : 0 < l.length) (hb : l.length ≤ 1000) : RC Try.prog 117 [v] m (AnsV (.int .i64 (minI l (l.length - 1)))) := by
  refine rc_of_run mixed ok_slices_Min (by simp) (go_start _ _ _ ?_)
  have hv := h.ro
  have hl1 : ¬ ((l.length : Int) < 1) := by omega
  have a0 := hv.at_ 0 h0
  have z0 : ((0 : Nat) : Int) = 0 := rfl
  rw [z0] at a0
  simp (config := {implicitDefEqProofs := false, maxDischargeDepth := 20}) (disch := first | omega | (simp only [lenE]; done) | (simp only [lenE]; omega) | rfl | (simp only [lenE, markR_len]; done) | (simp only [lenE, markR_len]; omega)) only [runE, mapE, listE, initT_5, initT_6, initT_7, initT_8, resV, oneV, binA, unA, reduceCtorEq, Nat.reduceEqDiff, Nat.reduceAdd, Nat.reduceLT, Nat.reduceLeDiff, Nat.reduceMul, Nat.reduceSub, ↓reduceIte, decide_true, decide_false, Bool.true_eq_false, Bool.false_eq_true, Bool.not_true, Bool.not_false, if_true, if_false, and_true, true_and, memE, celE, w64, Nat.zero_add, Nat.add_zero, Nat.mul_one, putL, and_self, ldn, c_slices_Min, r_slices_Min, hv.len, hl1, a0, hv.ld 0 h0]
  refine loop_inv mixed (fun s => ∃ i : Nat, i + 1 ≤ l.length ∧ s.m = roM m ∧ s.t 0 = v ∧ s.t 3 = .int .i64 (minI l i) ∧ s.t 4 = .int .i64 ((i : Int) + 1)) (fun s => l.length - (intOf (s.t 4)).toNat)
    ⟨0, by omega, rfl, rfl, rfl, rfl⟩ ?_
  rintro s ⟨i, hk, tm, t0, t3, t4⟩
  by_cases hlt : i + 1 < l.length
  · have hlt' : (i : Int) + 1 < l.length := by omega
    have ai := hv.at_ (i + 1) hlt
    rw [show (((i + 1 : Nat)) : Int) = (i : Int) + 1 by omega] at ai
    simp (config := {implicitDefEqProofs := false, maxDischargeDepth := 20}) (disch := first | omega | (simp only [lenE]; done) | (simp only [lenE]; omega) | rfl | (simp only [lenE, markR_len]; done) | (simp only [lenE, markR_len]; omega)) only [runE, mapE, listE, initT_5, initT_6, initT_7, initT_8, resV, oneV, binA, unA, reduceCtorEq, Nat.reduceEqDiff, Nat.reduceAdd, Nat.reduceLT, Nat.reduceLeDiff, Nat.reduceMul, Nat.reduceSub, ↓reduceIte, decide_true, decide_false, Bool.true_eq_false, Bool.false_eq_true, Bool.not_true, Bool.not_false, if_true, if_false, and_true, true_and, memE, celE, w64, Nat.zero_add, Nat.add_zero, Nat.mul_one, putL, and_self, ldn, tm, t0, t3, t4, hv.len, hlt', ai, hv.ld (i + 1) hlt]
    refine ⟨⟨i + 1, by omega, by rw [minI], by simp⟩, ?_⟩
    simp [intOf]; omega
  · have hlt' : ¬ ((i : Int) + 1 < l.length) := by omega
    have e : i = l.length - 1 := by omega
    simp (config := {implicitDefEqProofs := false, maxDischargeDepth := 20}) (disch := first | omega | (simp only [lenE]; done) | (simp only [lenE]; omega) | rfl | (simp only [lenE, markR_len]; done) | (simp only [lenE, markR_len]; omega)) only [runE, mapE, listE, initT_5, initT_6, initT_7, initT_8, resV, oneV, binA, unA, reduceCtorEq, Nat.reduceEqDiff, Nat.reduceAdd, Nat.reduceLT, Nat.reduceLeDiff, Nat.reduceMul, Nat.reduceSub, ↓reduceIte, decide_true, decide_false, Bool.true_eq_false, Bool.false_eq_true, Bool.not_true, Bool.not_false, if_true, if_false, and_true, true_and, memE, celE, w64, Nat.zero_add, Nat.add_zero, Nat.mul_one, putL, and_self, ldn, tm, t0, t3, t4, hv.len, hlt']
    exact ext_ansV (Ext.refl m) (by rw [← e])
def frL (k : Cs) (life : Int) (ps : List Int) (t : Nat) : Nat → List Int
  | 0 => []
  | i + 1 => if freshB life (ps.getD i 0) t then frL k life ps t i ++ [rateF k (ps.getD i 0).toNat t] else frL k life ps t i
theorem frL_len (k : Cs) (life : Int) (ps : List Int) (t i : Nat) : (frL k life ps t i).length ≤ i := by
  induction i with
  | zero => simp [frL]
  | succ i ih =>
    rw [frL]
    split
    · simp; omega
    · omega
theorem minI_app (l : List Int) (x : Int) : ∀ j, j < l.length → minI (l ++ [x]) j = minI l j := by
  intro j
  induction j with
  | zero => intro h; simp only [minI]; rw [List.getD_eq_getElem?_getD, List.getElem?_append_left h, ← List.getD_eq_getElem?_getD]
  | succ j ih =>
    intro h
    simp only [minI]
    rw [ih (by omega), List.getD_eq_getElem?_getD, List.getElem?_append_left h, ← List.getD_eq_getElem?_getD]
theorem minI_snoc (l : List Int) (x : Int) : minI (l ++ [x]) l.length = if l.length = 0 then x else min (minI l (l.length - 1)) x := by
  cases hn : l.length with
  | zero =>
    have : l = [] := List.length_eq_zero_iff.1 hn
    subst this
    rfl
  | succ n =>
    rw [if_neg (by omega), minI, minI_app _ _ _ (by omega)]
    congr 1
    rw [List.getD_eq_getElem?_getD, List.getElem?_append_right (by omega), hn]
    simp
theorem frL_min (k : Cs) (life : Int) (ps : List Int) (t : Nat) : ∀ i, frTo k life ps t i = if (frL k life ps t i).length = 0 then none else some (minI (frL k life ps t i) ((frL k life ps t i).length - 1)) := by
  intro i
  induction i with
  | zero => rfl
  | succ i ih =>
    cases hf : freshB life (ps.getD i 0) t with
    | false =>
      rw [frTo_no hf, ih]
      have : frL k life ps t (i + 1) = frL k life ps t i := by rw [frL, hf]; rfl
      rw [this]
    | true =>
      have : frL k life ps t (i + 1) = frL k life ps t i ++ [rateF k (ps.getD i 0).toNat t] := by rw [frL, if_pos hf]
      rw [frTo_yes hf, this, List.length_append, List.length_singleton, if_neg (by omega), Nat.add_sub_cancel, minI_snoc, ih]
      by_cases h0 : (frL k life ps t i).length = 0
      · rw [if_pos h0, if_pos h0]
      · rw [if_neg h0, if_neg h0]
theorem freshRate_rc (m : Mem) (v u : Value) (k : Cs) (life : Int) (ps : List Int) (t : Nat) (h : CaseA m v k) (hu : IntsA m u ps) (hg : Good k) (hr : Rising ps k.need.length) (hl : 1 ≤ life ∧ life ≤ 8) (ht : t < k.need.length) :
    RC Try.prog 107 [v, .int .i64 life, u, .int .i64 (t : Int)] m (AnsV (.tuple #[.int .i64 ((frate k life ps t).getD 0), .bool (frate k life ps t).isSome])) := by
  refine rc_of_run mixed ok_impl_freshRate (by simp) (go_start _ _ _ ?_)
  obtain ⟨v1, v2, v3, v4, rfl, h1, h2, h3, h4⟩ := h.ro.ok
  have hu' := hu.ro
  have h8 := hg.n8
  have sl := hr.len
  have hX := ((Ext.refl m).one 52 [v1, v2, v3, v4]).one 3 []
  simp (config := {implicitDefEqProofs := false, maxDischargeDepth := 20}) (disch := first | omega | (simp only [lenE]; done) | (simp only [lenE]; omega) | rfl | (simp only [lenE, markR_len]; done) | (simp only [lenE, markR_len]; omega)) only [runE, mapE, listE, initT_5, initT_6, initT_7, initT_8, resV, oneV, binA, unA, reduceCtorEq, Nat.reduceEqDiff, Nat.reduceAdd, Nat.reduceLT, Nat.reduceLeDiff, Nat.reduceMul, Nat.reduceSub, ↓reduceIte, decide_true, decide_false, Bool.true_eq_false, Bool.false_eq_true, Bool.not_true, Bool.not_false, if_true, if_false, and_true, true_and, memE, celE, w64, Nat.zero_add, Nat.add_zero, Nat.mul_one, putL, and_self, ldn, c_impl_freshRate, r_impl_freshRate, bsl_no, hu'.len]
  obtain ⟨M0, hM0⟩ : ∃ M0, M0 = roM m ++ [⟨.own, 52, [v1, v2, v3, v4]⟩] ++ [⟨.own, 3, []⟩] := ⟨_, rfl⟩
  have o1 : OwnB M0 m.length 52 [v1, v2, v3, v4] := by rw [hM0]; exact (OwnB.here (by simp [roM_len])).ext _
  have r1 : OwnR M0 (m.length + 1) [] := by rw [hM0]; exact OwnR.end' (l := []) (by simp [roM_len])
  rw [← hM0] at hX ⊢
  refine loop_inv mixed (fun s => ∃ (i : Nat) (M : Mem) (id : Nat), i ≤ ps.length ∧ s.m = M ∧ Ext m M ∧ OwnB M m.length 52 [v1, v2, v3, v4] ∧ m.length < id ∧ OwnR M id (frL k life ps t i) ∧ s.t 1 = .int .i64 life ∧ s.t 3 = .int .i64 (t : Int) ∧ s.t 4 = .pointer (some ⟨m.length, 0, none⟩) ∧ s.t 10 = .slice (some ⟨id, 0, none⟩) (frL k life ps t i).length 1 ∧ s.t 14 = u ∧ s.t 15 = .int .i64 (ps.length : Int) ∧ s.t 16 = .int .i64 (i : Int)) (fun s => ps.length - (intOf (s.t 16)).toNat)
    ⟨0, M0, m.length + 1, by omega, (by first | rfl | simp only [put_t, put_t', put_m, putT_t, putT_t', putT_m, init_t, init_m, initT_0, initT_1, initT_2, initT_3, initT_4, initT_5, initT_6, initT_7, initT_8, Nat.reduceEqDiff, ↓reduceIte]), hX, o1, by omega, r1, rfl, rfl, rfl, rfl, rfl, rfl, rfl⟩ ?_
  clear hX o1 hM0 r1
  rintro s ⟨i, M, id, hk, tm, hX, o1, hid, r1, t1, t3, t4, t10, t14, t15, t16⟩
  have ub := hX.ints hu'
  have ml := o1.lt
  have idl := r1.lt
  have fl := frL_len k life ps t i
  by_cases hlt : i < ps.length
  · have hlt' : (i : Int) < ps.length := by omega
    have b0 := hr.bd i hlt
    simp (config := {implicitDefEqProofs := false, maxDischargeDepth := 20}) (disch := first | omega | (simp only [lenE]; done) | (simp only [lenE]; omega) | rfl | (simp only [lenE, markR_len]; done) | (simp only [lenE, markR_len]; omega)) only [runE, mapE, listE, initT_5, initT_6, initT_7, initT_8, resV, oneV, binA, unA, reduceCtorEq, Nat.reduceEqDiff, Nat.reduceAdd, Nat.reduceLT, Nat.reduceLeDiff, Nat.reduceMul, Nat.reduceSub, ↓reduceIte, decide_true, decide_false, Bool.true_eq_false, Bool.false_eq_true, Bool.not_true, Bool.not_false, if_true, if_false, and_true, true_and, memE, celE, w64, Nat.zero_add, Nat.add_zero, Nat.mul_one, putL, and_self, ldn, tm, t1, t3, t4, t10, t14, t15, t16, hlt', ub.at_ i hlt, ub.ld i hlt]
    refine callH_rc (freshAt_rc M (ps.getD i 0) (t : Int) life ⟨by omega, by omega⟩ ⟨by omega, by omega⟩) ?_
    rintro r new ⟨rfl, rfl⟩
    rw [List.append_nil]
    cases hf : freshB life (ps.getD i 0) t with
    | false =>
      have e : frL k life ps t (i + 1) = frL k life ps t i := by rw [frL, hf]; rfl
      simp (config := {implicitDefEqProofs := false, maxDischargeDepth := 20}) (disch := first | omega | (simp only [lenE]; done) | (simp only [lenE]; omega) | rfl | (simp only [lenE, markR_len]; done) | (simp only [lenE, markR_len]; omega)) only [runE, mapE, listE, initT_5, initT_6, initT_7, initT_8, resV, oneV, binA, unA, reduceCtorEq, Nat.reduceEqDiff, Nat.reduceAdd, Nat.reduceLT, Nat.reduceLeDiff, Nat.reduceMul, Nat.reduceSub, ↓reduceIte, decide_true, decide_false, Bool.true_eq_false, Bool.false_eq_true, Bool.not_true, Bool.not_false, if_true, if_false, and_true, true_and, memE, celE, w64, Nat.zero_add, Nat.add_zero, Nat.mul_one, putL, and_self, ldn, t1, t3, t4, t10, t14, t15, t16]
      refine ⟨⟨i + 1, M, id, by omega, by first | exact tm | rfl, hX, o1, hid, by rw [e]; exact r1, by rw [e], by simp⟩, ?_⟩
      simp [intOf]; omega
    | true =>
      have e : frL k life ps t (i + 1) = frL k life ps t i ++ [rateF k (ps.getD i 0).toNat t] := by rw [frL, if_pos hf]
      obtain ⟨u1, u2, u3⟩ := fr_use hr hlt hf
      have KR := rateFrom_rc M (.agg #[v1, v2, v3, v4]) k (ps.getD i 0).toNat t ⟨v1, v2, v3, v4, rfl, hX.ints h1, hX.ints h2, hX.ints h3, hX.ints h4⟩ hg u2 u1 (by omega)
      rw [← u3] at KR
      simp (config := {implicitDefEqProofs := false, maxDischargeDepth := 20}) (disch := first | omega | (simp only [lenE]; done) | (simp only [lenE]; omega) | rfl | (simp only [lenE, markR_len]; done) | (simp only [lenE, markR_len]; omega)) only [runE, mapE, listE, initT_5, initT_6, initT_7, initT_8, resV, oneV, binA, unA, reduceCtorEq, Nat.reduceEqDiff, Nat.reduceAdd, Nat.reduceLT, Nat.reduceLeDiff, Nat.reduceMul, Nat.reduceSub, ↓reduceIte, decide_true, decide_false, Bool.true_eq_false, Bool.false_eq_true, Bool.not_true, Bool.not_false, if_true, if_false, and_true, true_and, memE, celE, w64, Nat.zero_add, Nat.add_zero, Nat.mul_one, putL, and_self, ldn, t1, t3, t4, t10, t14, t15, t16, o1.rd]
      refine callH_rc KR ?_
      rintro r n2 ⟨rfl, nr2⟩
      have r2 := r1.ext n2
      have o2 := o1.ext n2
      have hX2 := hX.app nr2
      obtain ⟨M2, hM2⟩ : ∃ M2, M2 = M ++ n2 := ⟨_, rfl⟩
      have m2l : M.length ≤ M2.length := by rw [hM2]; simp
      rw [← hM2] at r2 o2 hX2 ⊢
      have happ := app_num (x := rateF k (ps.getD i 0).toNat t) (id2 := M2.length) (n := (frL k life ps t i).length) r2 (by omega) rfl rfl
      simp (config := {implicitDefEqProofs := false, maxDischargeDepth := 20}) (disch := first | omega | (simp only [lenE]; done) | (simp only [lenE]; omega) | rfl | (simp only [lenE, markR_len]; done) | (simp only [lenE, markR_len]; omega)) only [runE, mapE, listE, initT_5, initT_6, initT_7, initT_8, resV, oneV, binA, unA, reduceCtorEq, Nat.reduceEqDiff, Nat.reduceAdd, Nat.reduceLT, Nat.reduceLeDiff, Nat.reduceMul, Nat.reduceSub, ↓reduceIte, decide_true, decide_false, Bool.true_eq_false, Bool.false_eq_true, Bool.not_true, Bool.not_false, if_true, if_false, and_true, true_and, memE, celE, w64, Nat.zero_add, Nat.add_zero, Nat.mul_one, putL, and_self, ldn, t1, t3, t4, t10, t14, t15, t16, bsl_one, happ]
      refine ⟨⟨i + 1, _, M2.length + 1, by omega, rfl, ((hX2.dead (by omega)).one _ _).one _ _, o2.at_ (same_gen (by omega) r2.lt), by omega, ?_, by rw [e]; simp, by simp⟩, ?_⟩
      · rw [e]
        exact OwnB.here (by simp)
      · simp [intOf]; omega
  · have hlt' : ¬ ((i : Int) < ps.length) := by omega
    have e : i = ps.length := by omega
    subst e
    have hm := frL_min k life ps t ps.length
    have hfr : frate k life ps t = frTo k life ps t ps.length := rfl
    rw [hfr, hm]
    by_cases h0 : (frL k life ps t ps.length).length = 0
    · have h0' : (((frL k life ps t ps.length).length : Int) == 0) = true := by rw [h0]; rfl
      simp (config := {implicitDefEqProofs := false, maxDischargeDepth := 20}) (disch := first | omega | (simp only [lenE]; done) | (simp only [lenE]; omega) | rfl | (simp only [lenE, markR_len]; done) | (simp only [lenE, markR_len]; omega)) only [runE, mapE, listE, initT_5, initT_6, initT_7, initT_8, resV, oneV, binA, unA, reduceCtorEq, Nat.reduceEqDiff, Nat.reduceAdd, Nat.reduceLT, Nat.reduceLeDiff, Nat.reduceMul, Nat.reduceSub, ↓reduceIte, decide_true, decide_false, Bool.true_eq_false, Bool.false_eq_true, Bool.not_true, Bool.not_false, if_true, if_false, and_true, true_and, memE, celE, w64, Nat.zero_add, Nat.add_zero, Nat.mul_one, putL, and_self, ldn, tm, t1, t3, t4, t10, t14, t15, t16, hlt', h0']
      exact ext_ansV hX (by rw [if_pos h0]; rfl)
    · have h0' : (((frL k life ps t ps.length).length : Int) == 0) = false := by rw [beq_eq_false_iff_ne]; omega
      simp (config := {implicitDefEqProofs := false, maxDischargeDepth := 20}) (disch := first | omega | (simp only [lenE]; done) | (simp only [lenE]; omega) | rfl | (simp only [lenE, markR_len]; done) | (simp only [lenE, markR_len]; omega)) only [runE, mapE, listE, initT_5, initT_6, initT_7, initT_8, resV, oneV, binA, unA, reduceCtorEq, Nat.reduceEqDiff, Nat.reduceAdd, Nat.reduceLT, Nat.reduceLeDiff, Nat.reduceMul, Nat.reduceSub, ↓reduceIte, decide_true, decide_false, Bool.true_eq_false, Bool.false_eq_true, Bool.not_true, Bool.not_false, if_true, if_false, and_true, true_and, memE, celE, w64, Nat.zero_add, Nat.add_zero, Nat.mul_one, putL, and_self, ldn, tm, t1, t3, t4, t10, t14, t15, t16, hlt', h0']
      refine callH_rc (slMin_rc M _ (frL k life ps t ps.length) (r1.ints (by omega) 1) (by omega) (by omega)) ?_
      rintro r n2 ⟨rfl, nr2⟩
      simp (config := {implicitDefEqProofs := false, maxDischargeDepth := 20}) (disch := first | omega | (simp only [lenE]; done) | (simp only [lenE]; omega) | rfl | (simp only [lenE, markR_len]; done) | (simp only [lenE, markR_len]; omega)) only [runE, mapE, listE, initT_5, initT_6, initT_7, initT_8, resV, oneV, binA, unA, reduceCtorEq, Nat.reduceEqDiff, Nat.reduceAdd, Nat.reduceLT, Nat.reduceLeDiff, Nat.reduceMul, Nat.reduceSub, ↓reduceIte, decide_true, decide_false, Bool.true_eq_false, Bool.false_eq_true, Bool.not_true, Bool.not_false, if_true, if_false, and_true, true_and, memE, celE, w64, Nat.zero_add, Nat.add_zero, Nat.mul_one, putL, and_self, ldn]
      exact ext_ansV (hX.app nr2) (by rw [if_neg h0]; rfl)
end Go.Proofs.Ytdgfbmilbhckiaa.Ab
end
section
namespace Go.Proofs.Ytdgfbmilbhckiaa.Ab
open Go Go.RowKit
set_option linter.unusedVariables false
set_option linter.unusedSimpArgs false
def setS (k : Cs) (ps : List Int) : Nat → Int
  | 0 => 0
  | i + 1 => setS k ps i + k.setup.getD (ps.getD i 0).toNat 0
def fcTo (k : Cs) (life : Int) (ps : List Int) : Nat → Int
  | 0 => 0
  | t + 1 => fcTo k life ps t + k.need.getD t 0 * (frate k life ps t).getD 0
def fcOk (k : Cs) (life : Int) (ps : List Int) : Nat → Bool
  | 0 => true
  | t + 1 => fcOk k life ps t && (decide (k.need.getD t 0 ≤ 0) || (frate k life ps t).isSome)
def freshC (k : Cs) (life : Int) (ps : List Int) : Option Int := if fcOk k life ps k.need.length then some (setS k ps ps.length + fcTo k life ps k.need.length) else none
theorem setS_bd {k : Cs} (hg : Good k) (ps : List Int) (i : Nat) : 0 ≤ setS k ps i ∧ setS k ps i ≤ 99 * i := by
  induction i with
  | zero => simp [setS]
  | succ i ih =>
    have := getD_bound (m := 99) (by omega) hg.setup (ps.getD i 0).toNat
    simp only [setS]; omega
theorem frate_bd {k : Cs} (hg : Good k) {life : Int} {ps : List Int} {t : Nat} (hr : Rising ps k.need.length) (ht : t < k.need.length) : 0 ≤ (frate k life ps t).getD 0 ∧ (frate k life ps t).getD 0 ≤ 81 := by
  cases h : frate k life ps t with
  | none => simp
  | some x => exact frTo_bd hg hr ht ps.length (Nat.le_refl _) x h
theorem fc_one {k : Cs} (hg : Good k) {life : Int} {ps : List Int} {t : Nat} (hr : Rising ps k.need.length) (ht : t < k.need.length) : 0 ≤ k.need.getD t 0 * (frate k life ps t).getD 0 ∧ k.need.getD t 0 * (frate k life ps t).getD 0 ≤ 1620 := by
  have h1 := getD_bound (m := 20) (by omega) hg.need t
  have h2 := frate_bd hg (life := life) hr ht
  have := mul_bound h1.1 h1.2 h2.1 h2.2
  omega
theorem fcTo_bd {k : Cs} (hg : Good k) {life : Int} {ps : List Int} (hr : Rising ps k.need.length) (t : Nat) (ht : t ≤ k.need.length) : 0 ≤ fcTo k life ps t ∧ fcTo k life ps t ≤ 1620 * t := by
  induction t with
  | zero => simp [fcTo]
  | succ t ih =>
    have := ih (by omega)
    have := fc_one hg (life := life) hr (t := t) (by omega)
    simp only [fcTo]; omega
theorem fcOk_no {k : Cs} {life : Int} {ps : List Int} {t : Nat} (h : fcOk k life ps t = false) : ∀ d, fcOk k life ps (t + d) = false := by
  intro d
  induction d with
  | zero => exact h
  | succ d ih => rw [← Nat.add_assoc, fcOk, ih]; rfl
theorem freshC_no {k : Cs} {life : Int} {ps : List Int} {t : Nat} (ht : t < k.need.length) (hn : 0 < k.need.getD t 0) (hf : frate k life ps t = none) : freshC k life ps = none := by
  have h1 : fcOk k life ps (t + 1) = false := by
    rw [fcOk, hf]
    have : decide (k.need.getD t 0 ≤ 0) = false := decide_eq_false (by omega)
    rw [this]; simp
  have := fcOk_no h1 (k.need.length - (t + 1))
  rw [show t + 1 + (k.need.length - (t + 1)) = k.need.length by omega] at this
  unfold freshC
  rw [this]; rfl
theorem l9Fresh_rc (m : Mem) (v u : Value) (k : Cs) (life : Int) (ps : List Int) (h : CaseA m v k) (hu : IntsA m u ps) (hg : Good k) (hr : Rising ps k.need.length) (hl : 1 ≤ life ∧ life ≤ 8) :
    RC Try.prog 87 [v, .int .i64 life, u] m (AnsV (.int .i64 ((freshC k life ps).getD (-1)))) := by
  refine rc_of_run mixed ok_spec_l9Fresh (by simp) (go_start _ _ _ ?_)
  obtain ⟨v1, v2, v3, v4, rfl, h1, h2, h3, h4⟩ := h.ro.ok
  have hu' := hu.ro
  have h8 := hg.n8
  have ls := hg.ls
  have sl := hr.len
  have hX := (Ext.refl m).one 52 [v1, v2, v3, v4]
  simp (config := {implicitDefEqProofs := false, maxDischargeDepth := 20}) (disch := first | omega | (simp only [lenE]; done) | (simp only [lenE]; omega) | rfl | (simp only [lenE, markR_len]; done) | (simp only [lenE, markR_len]; omega)) only [runE, mapE, listE, initT_5, initT_6, initT_7, initT_8, resV, oneV, binA, unA, reduceCtorEq, Nat.reduceEqDiff, Nat.reduceAdd, Nat.reduceLT, Nat.reduceLeDiff, Nat.reduceMul, Nat.reduceSub, ↓reduceIte, decide_true, decide_false, Bool.true_eq_false, Bool.false_eq_true, Bool.not_true, Bool.not_false, if_true, if_false, and_true, true_and, memE, celE, w64, Nat.zero_add, Nat.add_zero, Nat.mul_one, putL, and_self, ldn, c_spec_l9Fresh, r_spec_l9Fresh]
  obtain ⟨M0, hM0⟩ : ∃ M0, M0 = roM m ++ [⟨.own, 52, [v1, v2, v3, v4]⟩] := ⟨_, rfl⟩
  have o1 : OwnB M0 m.length 52 [v1, v2, v3, v4] := by rw [hM0]; exact OwnB.here (by simp [roM_len])
  rw [← hM0] at hX ⊢
  have ub := hX.ints hu'
  have sb := hX.ints h2
  have sbd := setS_bd hg ps
  refine loop_inv mixed (fun s => ∃ i : Nat, i ≤ ps.length ∧ s.m = M0 ∧ s.t 1 = .int .i64 life ∧ s.t 2 = u ∧ s.t 3 = .pointer (some ⟨m.length, 0, none⟩) ∧ s.t 7 = .int .i64 (setS k ps i) ∧ s.t 8 = .int .i64 (i : Int)) (fun s => ps.length - (intOf (s.t 8)).toNat)
    ⟨0, by omega, (by first | rfl | simp only [put_t, put_t', put_m, putT_t, putT_t', putT_m, init_t, init_m, initT_0, initT_1, initT_2, initT_3, initT_4, initT_5, initT_6, initT_7, initT_8, Nat.reduceEqDiff, ↓reduceIte]), rfl, rfl, rfl, rfl, rfl⟩ ?_
  rintro s ⟨i, hk, tm, t1, t2, t3, t7, t8⟩
  by_cases hlt : i < ps.length
  · have hlt' : (i : Int) < ps.length := by omega
    have b0 := hr.bd i hlt
    obtain ⟨p, hp⟩ : ∃ p : Nat, ps.getD i 0 = (p : Int) := ⟨(ps.getD i 0).toNat, by omega⟩
    have ld := ub.ld i hlt
    rw [hp] at ld
    have w1 := sbd i
    have w2 := getD_bound (m := 99) (by omega) hg.setup p
    simp (config := {implicitDefEqProofs := false, maxDischargeDepth := 20}) (disch := first | omega | (simp only [lenE]; done) | (simp only [lenE]; omega) | rfl | (simp only [lenE, markR_len]; done) | (simp only [lenE, markR_len]; omega)) only [runE, mapE, listE, initT_5, initT_6, initT_7, initT_8, resV, oneV, binA, unA, reduceCtorEq, Nat.reduceEqDiff, Nat.reduceAdd, Nat.reduceLT, Nat.reduceLeDiff, Nat.reduceMul, Nat.reduceSub, ↓reduceIte, decide_true, decide_false, Bool.true_eq_false, Bool.false_eq_true, Bool.not_true, Bool.not_false, if_true, if_false, and_true, true_and, memE, celE, w64, Nat.zero_add, Nat.add_zero, Nat.mul_one, putL, and_self, ldn, tm, t1, t2, t3, t7, t8, ub.len, hlt', ub.at_ i hlt, ld, o1.rd, sb.at_ p (by omega), sb.ld p (by omega)]
    refine ⟨⟨i + 1, by omega, by rw [setS, hp, Int.toNat_natCast], by simp⟩, ?_⟩
    simp [intOf]; omega
  · have hlt' : ¬ ((i : Int) < ps.length) := by omega
    have e : i = ps.length := by omega
    subst e
    have w1 := sbd ps.length
    simp (config := {implicitDefEqProofs := false, maxDischargeDepth := 20}) (disch := first | omega | (simp only [lenE]; done) | (simp only [lenE]; omega) | rfl | (simp only [lenE, markR_len]; done) | (simp only [lenE, markR_len]; omega)) only [runE, mapE, listE, initT_5, initT_6, initT_7, initT_8, resV, oneV, binA, unA, reduceCtorEq, Nat.reduceEqDiff, Nat.reduceAdd, Nat.reduceLT, Nat.reduceLeDiff, Nat.reduceMul, Nat.reduceSub, ↓reduceIte, decide_true, decide_false, Bool.true_eq_false, Bool.false_eq_true, Bool.not_true, Bool.not_false, if_true, if_false, and_true, true_and, memE, celE, w64, Nat.zero_add, Nat.add_zero, Nat.mul_one, putL, and_self, ldn, tm, t1, t2, t3, t7, t8, ub.len, hlt']
    refine loop_inv mixed (fun s => ∃ (t : Nat) (M : Mem), t ≤ k.need.length ∧ s.m = M ∧ Ext m M ∧ OwnB M m.length 52 [v1, v2, v3, v4] ∧ fcOk k life ps t = true ∧ s.t 1 = .int .i64 life ∧ s.t 2 = u ∧ s.t 3 = .pointer (some ⟨m.length, 0, none⟩) ∧ s.t 7 = .int .i64 (setS k ps ps.length + fcTo k life ps t) ∧ s.t 9 = .int .i64 (t : Int)) (fun s => k.need.length - (intOf (s.t 9)).toNat)
      ⟨0, M0, by omega, (by first | exact tm | rfl), hX, o1, rfl, (by first | exact t1 | simp only [put_t, put_t', put_m, putT_t, putT_t', putT_m, init_t, init_m, initT_0, initT_1, initT_2, initT_3, initT_4, initT_5, initT_6, initT_7, initT_8, Nat.reduceEqDiff, ↓reduceIte, t1]), (by first | exact t2 | simp only [put_t, put_t', put_m, putT_t, putT_t', putT_m, init_t, init_m, initT_0, initT_1, initT_2, initT_3, initT_4, initT_5, initT_6, initT_7, initT_8, Nat.reduceEqDiff, ↓reduceIte, t2]), (by first | exact t3 | simp only [put_t, put_t', put_m, putT_t, putT_t', putT_m, init_t, init_m, initT_0, initT_1, initT_2, initT_3, initT_4, initT_5, initT_6, initT_7, initT_8, Nat.reduceEqDiff, ↓reduceIte, t3]), (by simp only [put_t, put_t', put_m, putT_t, putT_t', putT_m, init_t, init_m, initT_0, initT_1, initT_2, initT_3, initT_4, initT_5, initT_6, initT_7, initT_8, Nat.reduceEqDiff, ↓reduceIte, t7]; simp [fcTo]), rfl⟩ ?_
    clear tm t1 t2 t3 t7 t8 ub sb o1 hX hM0
    rintro s ⟨t, M, ht, tm, hX, o1, hok, t1, t2, t3, t7, t9⟩
    have nb := hX.ints h1
    have ub := hX.ints hu'
    have w2 := fcTo_bd hg (life := life) hr t ht
    by_cases htl : t < k.need.length
    · have htl' : (t : Int) < k.need.length := by omega
      have w3 := fc_one hg (life := life) hr htl
      have nn := getD_bound (m := 20) (by omega) hg.need t
      simp (config := {implicitDefEqProofs := false, maxDischargeDepth := 20}) (disch := first | omega | (simp only [lenE]; done) | (simp only [lenE]; omega) | rfl | (simp only [lenE, markR_len]; done) | (simp only [lenE, markR_len]; omega)) only [runE, mapE, listE, initT_5, initT_6, initT_7, initT_8, resV, oneV, binA, unA, reduceCtorEq, Nat.reduceEqDiff, Nat.reduceAdd, Nat.reduceLT, Nat.reduceLeDiff, Nat.reduceMul, Nat.reduceSub, ↓reduceIte, decide_true, decide_false, Bool.true_eq_false, Bool.false_eq_true, Bool.not_true, Bool.not_false, if_true, if_false, and_true, true_and, memE, celE, w64, Nat.zero_add, Nat.add_zero, Nat.mul_one, putL, and_self, ldn, tm, t1, t2, t3, t7, t9, o1.rd, nb.len, htl']
      refine callH_rc (l9Rate_rc M _ u k life ps t ⟨v1, v2, v3, v4, rfl, nb, hX.ints h2, hX.ints h3, hX.ints h4⟩ ub hg hr hl htl) ?_
      rintro r n2 ⟨rfl, nr2⟩
      have o2 := o1.ext n2
      have nb2 := nb.ext n2
      have hX2 := hX.app nr2
      obtain ⟨M2, hM2⟩ : ∃ M2, M2 = M ++ n2 := ⟨_, rfl⟩
      rw [← hM2] at o2 nb2 hX2 ⊢
      have fin : fcOk k life ps (t + 1) = true → k.need.getD t 0 * (frate k life ps t).getD 0 = 0 ∨ True := fun _ => .inr trivial
      by_cases hn : 0 < k.need.getD t 0
      · cases hf : frate k life ps t with
        | none =>
          simp (config := {implicitDefEqProofs := false, maxDischargeDepth := 20}) (disch := first | omega | (simp only [lenE]; done) | (simp only [lenE]; omega) | rfl | (simp only [lenE, markR_len]; done) | (simp only [lenE, markR_len]; omega)) only [runE, mapE, listE, initT_5, initT_6, initT_7, initT_8, resV, oneV, binA, unA, reduceCtorEq, Nat.reduceEqDiff, Nat.reduceAdd, Nat.reduceLT, Nat.reduceLeDiff, Nat.reduceMul, Nat.reduceSub, ↓reduceIte, decide_true, decide_false, Bool.true_eq_false, Bool.false_eq_true, Bool.not_true, Bool.not_false, if_true, if_false, and_true, true_and, memE, celE, w64, Nat.zero_add, Nat.add_zero, Nat.mul_one, putL, and_self, ldn, t1, t2, t3, t7, t9, o2.rd, nb2.at_ t htl, nb2.ld t htl, hn, gt_iff_lt, Option.getD_none, show ((-1 : Int) < 0) = True by simp]
          exact ext_ansV hX2 (by rw [freshC_no htl hn hf]; rfl)
        | some x =>
          have xb := frate_bd hg (life := life) hr htl
          rw [hf] at xb w3
          simp only [Option.getD_some] at xb w3
          have hx0 : ¬ (x < 0) := by omega
          simp (config := {implicitDefEqProofs := false, maxDischargeDepth := 20}) (disch := first | omega | (simp only [lenE]; done) | (simp only [lenE]; omega) | rfl | (simp only [lenE, markR_len]; done) | (simp only [lenE, markR_len]; omega)) only [runE, mapE, listE, initT_5, initT_6, initT_7, initT_8, resV, oneV, binA, unA, reduceCtorEq, Nat.reduceEqDiff, Nat.reduceAdd, Nat.reduceLT, Nat.reduceLeDiff, Nat.reduceMul, Nat.reduceSub, ↓reduceIte, decide_true, decide_false, Bool.true_eq_false, Bool.false_eq_true, Bool.not_true, Bool.not_false, if_true, if_false, and_true, true_and, memE, celE, w64, Nat.zero_add, Nat.add_zero, Nat.mul_one, putL, and_self, ldn, t1, t2, t3, t7, t9, o2.rd, nb2.at_ t htl, nb2.ld t htl, hn, gt_iff_lt, Option.getD_some, hx0]
          refine ⟨⟨t + 1, M2, by omega, rfl, hX2, o2, by rw [fcOk, hok, hf]; simp, by rw [fcTo, hf]; simp only [Option.getD_some]; congr 1; omega, by simp⟩, ?_⟩
          simp [intOf]; omega
      · have hz : k.need.getD t 0 = 0 := by omega
        simp (config := {implicitDefEqProofs := false, maxDischargeDepth := 20}) (disch := first | omega | (simp only [lenE]; done) | (simp only [lenE]; omega) | rfl | (simp only [lenE, markR_len]; done) | (simp only [lenE, markR_len]; omega)) only [runE, mapE, listE, initT_5, initT_6, initT_7, initT_8, resV, oneV, binA, unA, reduceCtorEq, Nat.reduceEqDiff, Nat.reduceAdd, Nat.reduceLT, Nat.reduceLeDiff, Nat.reduceMul, Nat.reduceSub, ↓reduceIte, decide_true, decide_false, Bool.true_eq_false, Bool.false_eq_true, Bool.not_true, Bool.not_false, if_true, if_false, and_true, true_and, memE, celE, w64, Nat.zero_add, Nat.add_zero, Nat.mul_one, putL, and_self, ldn, t1, t2, t3, t7, t9, o2.rd, nb2.at_ t htl, nb2.ld t htl, hn, gt_iff_lt, goG_undef]
        refine ⟨⟨t + 1, M2, by omega, rfl, hX2, o2, by rw [fcOk, hok, hz]; simp, by rw [fcTo, hz]; congr 1; omega, by simp⟩, ?_⟩
        simp [intOf]; omega
    · have htl' : ¬ ((t : Int) < k.need.length) := by omega
      have e : t = k.need.length := by omega
      subst e
      simp (config := {implicitDefEqProofs := false, maxDischargeDepth := 20}) (disch := first | omega | (simp only [lenE]; done) | (simp only [lenE]; omega) | rfl | (simp only [lenE, markR_len]; done) | (simp only [lenE, markR_len]; omega)) only [runE, mapE, listE, initT_5, initT_6, initT_7, initT_8, resV, oneV, binA, unA, reduceCtorEq, Nat.reduceEqDiff, Nat.reduceAdd, Nat.reduceLT, Nat.reduceLeDiff, Nat.reduceMul, Nat.reduceSub, ↓reduceIte, decide_true, decide_false, Bool.true_eq_false, Bool.false_eq_true, Bool.not_true, Bool.not_false, if_true, if_false, and_true, true_and, memE, celE, w64, Nat.zero_add, Nat.add_zero, Nat.mul_one, putL, and_self, ldn, tm, t1, t2, t3, t7, t9, o1.rd, nb.len, htl']
      exact ext_ansV hX (by unfold freshC; rw [hok, if_pos rfl]; rfl)
theorem freshCost_rc (m : Mem) (v u : Value) (k : Cs) (life : Int) (ps : List Int) (h : CaseA m v k) (hu : IntsA m u ps) (hg : Good k) (hr : Rising ps k.need.length) (hl : 1 ≤ life ∧ life ≤ 8) :
    RC Try.prog 80 [v, .int .i64 life, u] m (AnsV (.tuple #[.int .i64 ((freshC k life ps).getD 0), .bool (freshC k life ps).isSome])) := by
  refine rc_of_run mixed ok_impl_freshCost (by simp) (go_start _ _ _ ?_)
  obtain ⟨v1, v2, v3, v4, rfl, h1, h2, h3, h4⟩ := h.ro.ok
  have hu' := hu.ro
  have h8 := hg.n8
  have ls := hg.ls
  have sl := hr.len
  have hX := (Ext.refl m).one 52 [v1, v2, v3, v4]
  simp (config := {implicitDefEqProofs := false, maxDischargeDepth := 20}) (disch := first | omega | (simp only [lenE]; done) | (simp only [lenE]; omega) | rfl | (simp only [lenE, markR_len]; done) | (simp only [lenE, markR_len]; omega)) only [runE, mapE, listE, initT_5, initT_6, initT_7, initT_8, resV, oneV, binA, unA, reduceCtorEq, Nat.reduceEqDiff, Nat.reduceAdd, Nat.reduceLT, Nat.reduceLeDiff, Nat.reduceMul, Nat.reduceSub, ↓reduceIte, decide_true, decide_false, Bool.true_eq_false, Bool.false_eq_true, Bool.not_true, Bool.not_false, if_true, if_false, and_true, true_and, memE, celE, w64, Nat.zero_add, Nat.add_zero, Nat.mul_one, putL, and_self, ldn, c_impl_freshCost, r_impl_freshCost, hu'.len]
  obtain ⟨M0, hM0⟩ : ∃ M0, M0 = roM m ++ [⟨.own, 52, [v1, v2, v3, v4]⟩] := ⟨_, rfl⟩
  have o1 : OwnB M0 m.length 52 [v1, v2, v3, v4] := by rw [hM0]; exact OwnB.here (by simp [roM_len])
  rw [← hM0] at hX ⊢
  have ub := hX.ints hu'
  have sb := hX.ints h2
  have nb := hX.ints h1
  have sbd := setS_bd hg ps
  refine loop_inv mixed (fun s => ∃ i : Nat, i ≤ ps.length ∧ s.m = M0 ∧ s.t 1 = .int .i64 life ∧ s.t 2 = u ∧ s.t 3 = .pointer (some ⟨m.length, 0, none⟩) ∧ s.t 8 = .int .i64 (setS k ps i) ∧ s.t 15 = u ∧ s.t 16 = .int .i64 (ps.length : Int) ∧ s.t 17 = .int .i64 (i : Int)) (fun s => ps.length - (intOf (s.t 17)).toNat)
    ⟨0, by omega, (by first | rfl | simp only [put_t, put_t', put_m, putT_t, putT_t', putT_m, init_t, init_m, initT_0, initT_1, initT_2, initT_3, initT_4, initT_5, initT_6, initT_7, initT_8, Nat.reduceEqDiff, ↓reduceIte]), rfl, rfl, rfl, rfl, rfl, rfl, rfl⟩ ?_
  rintro s ⟨i, hk, tm, t1, t2, t3, t8, t15, t16, t17⟩
  by_cases hlt : i < ps.length
  · have hlt' : (i : Int) < ps.length := by omega
    have b0 := hr.bd i hlt
    obtain ⟨p, hp⟩ : ∃ p : Nat, ps.getD i 0 = (p : Int) := ⟨(ps.getD i 0).toNat, by omega⟩
    have ld := ub.ld i hlt
    rw [hp] at ld
    have w1 := sbd i
    have w2 := getD_bound (m := 99) (by omega) hg.setup p
    simp (config := {implicitDefEqProofs := false, maxDischargeDepth := 20}) (disch := first | omega | (simp only [lenE]; done) | (simp only [lenE]; omega) | rfl | (simp only [lenE, markR_len]; done) | (simp only [lenE, markR_len]; omega)) only [runE, mapE, listE, initT_5, initT_6, initT_7, initT_8, resV, oneV, binA, unA, reduceCtorEq, Nat.reduceEqDiff, Nat.reduceAdd, Nat.reduceLT, Nat.reduceLeDiff, Nat.reduceMul, Nat.reduceSub, ↓reduceIte, decide_true, decide_false, Bool.true_eq_false, Bool.false_eq_true, Bool.not_true, Bool.not_false, if_true, if_false, and_true, true_and, memE, celE, w64, Nat.zero_add, Nat.add_zero, Nat.mul_one, putL, and_self, ldn, tm, t1, t2, t3, t8, t15, t16, t17, hlt', ub.at_ i hlt, ld, o1.rd, sb.at_ p (by omega), sb.ld p (by omega)]
    refine ⟨⟨i + 1, by omega, by rw [setS, hp, Int.toNat_natCast], by simp⟩, ?_⟩
    simp [intOf]; omega
  · have hlt' : ¬ ((i : Int) < ps.length) := by omega
    have e : i = ps.length := by omega
    subst e
    have w1 := sbd ps.length
    simp (config := {implicitDefEqProofs := false, maxDischargeDepth := 20}) (disch := first | omega | (simp only [lenE]; done) | (simp only [lenE]; omega) | rfl | (simp only [lenE, markR_len]; done) | (simp only [lenE, markR_len]; omega)) only [runE, mapE, listE, initT_5, initT_6, initT_7, initT_8, resV, oneV, binA, unA, reduceCtorEq, Nat.reduceEqDiff, Nat.reduceAdd, Nat.reduceLT, Nat.reduceLeDiff, Nat.reduceMul, Nat.reduceSub, ↓reduceIte, decide_true, decide_false, Bool.true_eq_false, Bool.false_eq_true, Bool.not_true, Bool.not_false, if_true, if_false, and_true, true_and, memE, celE, w64, Nat.zero_add, Nat.add_zero, Nat.mul_one, putL, and_self, ldn, tm, t1, t2, t3, t8, t15, t16, t17, hlt', o1.rd, nb.len]
    refine loop_inv mixed (fun s => ∃ (t : Nat) (M : Mem), t ≤ k.need.length ∧ s.m = M ∧ Ext m M ∧ OwnB M m.length 52 [v1, v2, v3, v4] ∧ fcOk k life ps t = true ∧ s.t 1 = .int .i64 life ∧ s.t 2 = u ∧ s.t 3 = .pointer (some ⟨m.length, 0, none⟩) ∧ s.t 8 = .int .i64 (setS k ps ps.length + fcTo k life ps t) ∧ s.t 30 = v1 ∧ s.t 31 = .int .i64 (k.need.length : Int) ∧ s.t 32 = .int .i64 (t : Int)) (fun s => k.need.length - (intOf (s.t 32)).toNat)
      ⟨0, M0, by omega, (by first | exact tm | rfl), hX, o1, rfl, (by first | exact t1 | simp only [put_t, put_t', put_m, putT_t, putT_t', putT_m, init_t, init_m, initT_0, initT_1, initT_2, initT_3, initT_4, initT_5, initT_6, initT_7, initT_8, Nat.reduceEqDiff, ↓reduceIte, t1]), (by first | exact t2 | simp only [put_t, put_t', put_m, putT_t, putT_t', putT_m, init_t, init_m, initT_0, initT_1, initT_2, initT_3, initT_4, initT_5, initT_6, initT_7, initT_8, Nat.reduceEqDiff, ↓reduceIte, t2]), (by first | exact t3 | simp only [put_t, put_t', put_m, putT_t, putT_t', putT_m, init_t, init_m, initT_0, initT_1, initT_2, initT_3, initT_4, initT_5, initT_6, initT_7, initT_8, Nat.reduceEqDiff, ↓reduceIte, t3]), (by simp only [put_t, put_t', put_m, putT_t, putT_t', putT_m, init_t, init_m, initT_0, initT_1, initT_2, initT_3, initT_4, initT_5, initT_6, initT_7, initT_8, Nat.reduceEqDiff, ↓reduceIte, t8]; simp [fcTo]), rfl, rfl, rfl⟩ ?_
    clear tm t1 t2 t3 t8 t15 t16 t17 ub sb o1 hX hM0 nb
    rintro s ⟨t, M, ht, tm, hX, o1, hok, t1, t2, t3, t8, t30, t31, t32⟩
    have nb := hX.ints h1
    have ub := hX.ints hu'
    have w2 := fcTo_bd hg (life := life) hr t ht
    by_cases htl : t < k.need.length
    · have htl' : (t : Int) < k.need.length := by omega
      have w3 := fc_one hg (life := life) hr htl
      have nn := getD_bound (m := 20) (by omega) hg.need t
      simp (config := {implicitDefEqProofs := false, maxDischargeDepth := 20}) (disch := first | omega | (simp only [lenE]; done) | (simp only [lenE]; omega) | rfl | (simp only [lenE, markR_len]; done) | (simp only [lenE, markR_len]; omega)) only [runE, mapE, listE, initT_5, initT_6, initT_7, initT_8, resV, oneV, binA, unA, reduceCtorEq, Nat.reduceEqDiff, Nat.reduceAdd, Nat.reduceLT, Nat.reduceLeDiff, Nat.reduceMul, Nat.reduceSub, ↓reduceIte, decide_true, decide_false, Bool.true_eq_false, Bool.false_eq_true, Bool.not_true, Bool.not_false, if_true, if_false, and_true, true_and, memE, celE, w64, Nat.zero_add, Nat.add_zero, Nat.mul_one, putL, and_self, ldn, tm, t1, t2, t3, t8, t30, t31, t32, htl', nb.at_ t htl, nb.ld t htl, o1.rd]
      refine callH_rc (freshRate_rc M _ u k life ps t ⟨v1, v2, v3, v4, rfl, nb, hX.ints h2, hX.ints h3, hX.ints h4⟩ ub hg hr hl htl) ?_
      rintro r n2 ⟨rfl, nr2⟩
      have o2 := o1.ext n2
      have hX2 := hX.app nr2
      obtain ⟨M2, hM2⟩ : ∃ M2, M2 = M ++ n2 := ⟨_, rfl⟩
      rw [← hM2] at o2 hX2 ⊢
      by_cases hn : 0 < k.need.getD t 0
      · cases hf : frate k life ps t with
        | none =>
          simp (config := {implicitDefEqProofs := false, maxDischargeDepth := 20}) (disch := first | omega | (simp only [lenE]; done) | (simp only [lenE]; omega) | rfl | (simp only [lenE, markR_len]; done) | (simp only [lenE, markR_len]; omega)) only [runE, mapE, listE, initT_5, initT_6, initT_7, initT_8, resV, oneV, binA, unA, reduceCtorEq, Nat.reduceEqDiff, Nat.reduceAdd, Nat.reduceLT, Nat.reduceLeDiff, Nat.reduceMul, Nat.reduceSub, ↓reduceIte, decide_true, decide_false, Bool.true_eq_false, Bool.false_eq_true, Bool.not_true, Bool.not_false, if_true, if_false, and_true, true_and, memE, celE, w64, Nat.zero_add, Nat.add_zero, Nat.mul_one, putL, and_self, ldn, t1, t2, t3, t8, t30, t31, t32, ext_2_0, ext_2_1, hn, gt_iff_lt, Option.getD_none, Option.isSome_none]
          exact ext_ansV hX2 (by rw [freshC_no htl hn hf]; rfl)
        | some x =>
          have xb := frate_bd hg (life := life) hr htl
          rw [hf] at xb w3
          simp only [Option.getD_some] at xb w3
          simp (config := {implicitDefEqProofs := false, maxDischargeDepth := 20}) (disch := first | omega | (simp only [lenE]; done) | (simp only [lenE]; omega) | rfl | (simp only [lenE, markR_len]; done) | (simp only [lenE, markR_len]; omega)) only [runE, mapE, listE, initT_5, initT_6, initT_7, initT_8, resV, oneV, binA, unA, reduceCtorEq, Nat.reduceEqDiff, Nat.reduceAdd, Nat.reduceLT, Nat.reduceLeDiff, Nat.reduceMul, Nat.reduceSub, ↓reduceIte, decide_true, decide_false, Bool.true_eq_false, Bool.false_eq_true, Bool.not_true, Bool.not_false, if_true, if_false, and_true, true_and, memE, celE, w64, Nat.zero_add, Nat.add_zero, Nat.mul_one, putL, and_self, ldn, t1, t2, t3, t8, t30, t31, t32, ext_2_0, ext_2_1, hn, gt_iff_lt, Option.getD_some, Option.isSome_some]
          refine ⟨⟨t + 1, M2, by omega, rfl, hX2, o2, by rw [fcOk, hok, hf]; simp, by rw [fcTo, hf]; simp only [Option.getD_some]; congr 1; omega, by simp⟩, ?_⟩
          simp [intOf]; omega
      · have hz : k.need.getD t 0 = 0 := by omega
        obtain ⟨x, hx⟩ : ∃ x, x = (frate k life ps t).getD 0 := ⟨_, rfl⟩
        rw [← hx] at w3 ⊢
        simp (config := {implicitDefEqProofs := false, maxDischargeDepth := 20}) (disch := first | omega | (simp only [lenE]; done) | (simp only [lenE]; omega) | rfl | (simp only [lenE, markR_len]; done) | (simp only [lenE, markR_len]; omega)) only [runE, mapE, listE, initT_5, initT_6, initT_7, initT_8, resV, oneV, binA, unA, reduceCtorEq, Nat.reduceEqDiff, Nat.reduceAdd, Nat.reduceLT, Nat.reduceLeDiff, Nat.reduceMul, Nat.reduceSub, ↓reduceIte, decide_true, decide_false, Bool.true_eq_false, Bool.false_eq_true, Bool.not_true, Bool.not_false, if_true, if_false, and_true, true_and, memE, celE, w64, Nat.zero_add, Nat.add_zero, Nat.mul_one, putL, and_self, ldn, t1, t2, t3, t8, t30, t31, t32, ext_2_0, ext_2_1, hn, gt_iff_lt, goG_undef]
        refine ⟨⟨t + 1, M2, by omega, rfl, hX2, o2, by rw [fcOk, hok, hz]; simp, by rw [fcTo, ← hx]; congr 1; omega, by simp⟩, ?_⟩
        simp [intOf]; omega
    · have htl' : ¬ ((t : Int) < k.need.length) := by omega
      have e : t = k.need.length := by omega
      subst e
      simp (config := {implicitDefEqProofs := false, maxDischargeDepth := 20}) (disch := first | omega | (simp only [lenE]; done) | (simp only [lenE]; omega) | rfl | (simp only [lenE, markR_len]; done) | (simp only [lenE, markR_len]; omega)) only [runE, mapE, listE, initT_5, initT_6, initT_7, initT_8, resV, oneV, binA, unA, reduceCtorEq, Nat.reduceEqDiff, Nat.reduceAdd, Nat.reduceLT, Nat.reduceLeDiff, Nat.reduceMul, Nat.reduceSub, ↓reduceIte, decide_true, decide_false, Bool.true_eq_false, Bool.false_eq_true, Bool.not_true, Bool.not_false, if_true, if_false, and_true, true_and, memE, celE, w64, Nat.zero_add, Nat.add_zero, Nat.mul_one, putL, and_self, ldn, tm, t1, t2, t3, t8, t30, t31, t32, htl']
      exact ext_ansV hX (by unfold freshC; rw [hok, if_pos rfl]; rfl)
end Go.Proofs.Ytdgfbmilbhckiaa.Ab
end
section
namespace Go.Proofs.Ytdgfbmilbhckiaa.Ab
open Go Go.RowKit
set_option linter.unusedVariables false
set_option linter.unusedSimpArgs false
def lifeOk (k : Cs) (life : Int) : Bool := k.good && (decide (1 ≤ life) && decide (life ≤ 8))
def freshIn (k : Cs) (life : Int) (ps : List Int) : Bool := lifeOk k life && risB ps k.need.length
def freshA (k : Cs) (life : Int) (ps : List Int) : Int := if freshIn k life ps then (freshC k life ps).getD 0 else 0
def freshOk (k : Cs) (life : Int) (ps : List Int) : Bool := freshIn k life ps && (freshC k life ps).isSome
theorem lifeOk_iff {k : Cs} {life : Int} : lifeOk k life = true ↔ Good k ∧ 1 ≤ life ∧ life ≤ 8 := by
  simp only [lifeOk, Bool.and_eq_true, decide_eq_true_eq, good_iff]
theorem l9Life_rc (m : Mem) (v : Value) (k : Cs) (life : Int) (h : CaseA m v k) :
    RC Try.prog 81 [v, .int .i64 life] m (AnsV (.bool (lifeOk k life))) := by
  refine rc_of_run mixed ok_spec_l9Life (by simp) (go_start _ _ _ ?_)
  obtain ⟨v1, v2, v3, v4, rfl, h1, h2, h3, h4⟩ := h.ro.ok
  have hX := (Ext.refl m).one 52 [v1, v2, v3, v4]
  simp (config := {implicitDefEqProofs := false, maxDischargeDepth := 20}) (disch := first | omega | (simp only [lenE]; done) | (simp only [lenE]; omega) | rfl | (simp only [lenE, markR_len]; done) | (simp only [lenE, markR_len]; omega)) only [runE, mapE, listE, initT_5, initT_6, initT_7, initT_8, resV, oneV, binA, unA, reduceCtorEq, Nat.reduceEqDiff, Nat.reduceAdd, Nat.reduceLT, Nat.reduceLeDiff, Nat.reduceMul, Nat.reduceSub, ↓reduceIte, decide_true, decide_false, Bool.true_eq_false, Bool.false_eq_true, Bool.not_true, Bool.not_false, if_true, if_false, and_true, true_and, memE, celE, w64, Nat.zero_add, Nat.add_zero, Nat.mul_one, putL, and_self, ldn, c_spec_l9Life, r_spec_l9Life]
  refine callH_rc (l2Good_rc _ _ k ⟨_, _, _, _, rfl, hX.ints h1, hX.ints h2, hX.ints h3, hX.ints h4⟩) ?_
  rintro r new ⟨rfl, nr⟩
  unfold lifeOk
  cases hg : k.good with
  | false =>
    simp (config := {implicitDefEqProofs := false, maxDischargeDepth := 20}) (disch := first | omega | (simp only [lenE]; done) | (simp only [lenE]; omega) | rfl | (simp only [lenE, markR_len]; done) | (simp only [lenE, markR_len]; omega)) only [runE, mapE, listE, initT_5, initT_6, initT_7, initT_8, resV, oneV, binA, unA, reduceCtorEq, Nat.reduceEqDiff, Nat.reduceAdd, Nat.reduceLT, Nat.reduceLeDiff, Nat.reduceMul, Nat.reduceSub, ↓reduceIte, decide_true, decide_false, Bool.true_eq_false, Bool.false_eq_true, Bool.not_true, Bool.not_false, if_true, if_false, and_true, true_and, memE, celE, w64, Nat.zero_add, Nat.add_zero, Nat.mul_one, putL, and_self, ldn, goG_undef]
    exact ext_ansV (hX.app nr) (by simp)
  | true =>
    simp (config := {implicitDefEqProofs := false, maxDischargeDepth := 20}) (disch := first | omega | (simp only [lenE]; done) | (simp only [lenE]; omega) | rfl | (simp only [lenE, markR_len]; done) | (simp only [lenE, markR_len]; omega)) only [runE, mapE, listE, initT_5, initT_6, initT_7, initT_8, resV, oneV, binA, unA, reduceCtorEq, Nat.reduceEqDiff, Nat.reduceAdd, Nat.reduceLT, Nat.reduceLeDiff, Nat.reduceMul, Nat.reduceSub, ↓reduceIte, decide_true, decide_false, Bool.true_eq_false, Bool.false_eq_true, Bool.not_true, Bool.not_false, if_true, if_false, and_true, true_and, memE, celE, w64, Nat.zero_add, Nat.add_zero, Nat.mul_one, putL, and_self, ldn]
    refine callH_rc (l1In_rc _ _ _ _) ?_
    rintro r new ⟨rfl, rfl⟩
    simp (config := {implicitDefEqProofs := false, maxDischargeDepth := 20}) (disch := first | omega | (simp only [lenE]; done) | (simp only [lenE]; omega) | rfl | (simp only [lenE, markR_len]; done) | (simp only [lenE, markR_len]; omega)) only [runE, mapE, listE, initT_5, initT_6, initT_7, initT_8, resV, oneV, binA, unA, reduceCtorEq, Nat.reduceEqDiff, Nat.reduceAdd, Nat.reduceLT, Nat.reduceLeDiff, Nat.reduceMul, Nat.reduceSub, ↓reduceIte, decide_true, decide_false, Bool.true_eq_false, Bool.false_eq_true, Bool.not_true, Bool.not_false, if_true, if_false, and_true, true_and, memE, celE, w64, Nat.zero_add, Nat.add_zero, Nat.mul_one, putL, and_self, ldn]
    exact ext_ansV (hX.app nr) (by simp)
theorem specFreshCost_rc (m : Mem) (v u : Value) (k : Cs) (life : Int) (ps : List Int) (h : CaseA m v k) (hu : IntsA m u ps) :
    RC Try.prog 40 [v, .int .i64 life, u] m (AnsV (.tuple #[.int .i64 (freshA k life ps), .bool (freshOk k life ps)])) := by
  refine rc_of_run mixed ok_spec_FreshCost (by simp) (go_start _ _ _ ?_)
  obtain ⟨v1, v2, v3, v4, rfl, h1, h2, h3, h4⟩ := h.ro.ok
  have hu' := hu.ro
  have hX := (Ext.refl m).one 52 [v1, v2, v3, v4]
  simp (config := {implicitDefEqProofs := false, maxDischargeDepth := 20}) (disch := first | omega | (simp only [lenE]; done) | (simp only [lenE]; omega) | rfl | (simp only [lenE, markR_len]; done) | (simp only [lenE, markR_len]; omega)) only [runE, mapE, listE, initT_5, initT_6, initT_7, initT_8, resV, oneV, binA, unA, reduceCtorEq, Nat.reduceEqDiff, Nat.reduceAdd, Nat.reduceLT, Nat.reduceLeDiff, Nat.reduceMul, Nat.reduceSub, ↓reduceIte, decide_true, decide_false, Bool.true_eq_false, Bool.false_eq_true, Bool.not_true, Bool.not_false, if_true, if_false, and_true, true_and, memE, celE, w64, Nat.zero_add, Nat.add_zero, Nat.mul_one, putL, and_self, ldn, c_spec_FreshCost, r_spec_FreshCost]
  obtain ⟨M0, hM0⟩ : ∃ M0, M0 = roM m ++ [⟨.own, 52, [v1, v2, v3, v4]⟩] := ⟨_, rfl⟩
  have o1 : OwnB M0 m.length 52 [v1, v2, v3, v4] := by rw [hM0]; exact OwnB.here (by simp [roM_len])
  rw [← hM0] at hX ⊢
  have hc : ∀ M, Ext m M → CaseA M (.agg #[v1, v2, v3, v4]) k := fun M hX => ⟨_, _, _, _, rfl, hX.ints h1, hX.ints h2, hX.ints h3, hX.ints h4⟩
  refine callH_rc (l9Life_rc _ _ k life (hc _ hX)) ?_
  rintro r n1 ⟨rfl, nr1⟩
  replace hX := hX.app nr1
  replace o1 := o1.ext n1
  obtain ⟨M1, hM1⟩ : ∃ M1, M1 = M0 ++ n1 := ⟨_, rfl⟩
  rw [← hM1] at hX o1 ⊢
  unfold freshA freshOk freshIn
  cases hl : lifeOk k life with
  | false =>
    simp (config := {implicitDefEqProofs := false, maxDischargeDepth := 20}) (disch := first | omega | (simp only [lenE]; done) | (simp only [lenE]; omega) | rfl | (simp only [lenE, markR_len]; done) | (simp only [lenE, markR_len]; omega)) only [runE, mapE, listE, initT_5, initT_6, initT_7, initT_8, resV, oneV, binA, unA, reduceCtorEq, Nat.reduceEqDiff, Nat.reduceAdd, Nat.reduceLT, Nat.reduceLeDiff, Nat.reduceMul, Nat.reduceSub, ↓reduceIte, decide_true, decide_false, Bool.true_eq_false, Bool.false_eq_true, Bool.not_true, Bool.not_false, if_true, if_false, and_true, true_and, memE, celE, w64, Nat.zero_add, Nat.add_zero, Nat.mul_one, putL, and_self, ldn, goG_undef]
    exact ext_ansV hX (by simp)
  | true =>
    obtain ⟨gd, hlife⟩ := lifeOk_iff.1 hl
    simp (config := {implicitDefEqProofs := false, maxDischargeDepth := 20}) (disch := first | omega | (simp only [lenE]; done) | (simp only [lenE]; omega) | rfl | (simp only [lenE, markR_len]; done) | (simp only [lenE, markR_len]; omega)) only [runE, mapE, listE, initT_5, initT_6, initT_7, initT_8, resV, oneV, binA, unA, reduceCtorEq, Nat.reduceEqDiff, Nat.reduceAdd, Nat.reduceLT, Nat.reduceLeDiff, Nat.reduceMul, Nat.reduceSub, ↓reduceIte, decide_true, decide_false, Bool.true_eq_false, Bool.false_eq_true, Bool.not_true, Bool.not_false, if_true, if_false, and_true, true_and, memE, celE, w64, Nat.zero_add, Nat.add_zero, Nat.mul_one, putL, and_self, ldn, o1.rd]
    refine callH_rc (l2Periods_rc _ _ u k ps (hc _ hX) (hX.ints hu') gd) ?_
    rintro r n2 ⟨rfl, nr2⟩
    replace hX := hX.app nr2
    replace o1 := o1.ext n2
    obtain ⟨M2, hM2⟩ : ∃ M2, M2 = M1 ++ n2 := ⟨_, rfl⟩
    rw [← hM2] at hX o1 ⊢
    cases hr : risB ps k.need.length with
    | false =>
      simp (config := {implicitDefEqProofs := false, maxDischargeDepth := 20}) (disch := first | omega | (simp only [lenE]; done) | (simp only [lenE]; omega) | rfl | (simp only [lenE, markR_len]; done) | (simp only [lenE, markR_len]; omega)) only [runE, mapE, listE, initT_5, initT_6, initT_7, initT_8, resV, oneV, binA, unA, reduceCtorEq, Nat.reduceEqDiff, Nat.reduceAdd, Nat.reduceLT, Nat.reduceLeDiff, Nat.reduceMul, Nat.reduceSub, ↓reduceIte, decide_true, decide_false, Bool.true_eq_false, Bool.false_eq_true, Bool.not_true, Bool.not_false, if_true, if_false, and_true, true_and, memE, celE, w64, Nat.zero_add, Nat.add_zero, Nat.mul_one, putL, and_self, ldn]
      exact ext_ansV hX (by simp)
    | true =>
      simp (config := {implicitDefEqProofs := false, maxDischargeDepth := 20}) (disch := first | omega | (simp only [lenE]; done) | (simp only [lenE]; omega) | rfl | (simp only [lenE, markR_len]; done) | (simp only [lenE, markR_len]; omega)) only [runE, mapE, listE, initT_5, initT_6, initT_7, initT_8, resV, oneV, binA, unA, reduceCtorEq, Nat.reduceEqDiff, Nat.reduceAdd, Nat.reduceLT, Nat.reduceLeDiff, Nat.reduceMul, Nat.reduceSub, ↓reduceIte, decide_true, decide_false, Bool.true_eq_false, Bool.false_eq_true, Bool.not_true, Bool.not_false, if_true, if_false, and_true, true_and, memE, celE, w64, Nat.zero_add, Nat.add_zero, Nat.mul_one, putL, and_self, ldn, o1.rd]
      refine callH_rc (l9Fresh_rc _ _ u k life ps (hc _ hX) (hX.ints hu') gd (risB_iff.1 hr) hlife) ?_
      rintro r n3 ⟨rfl, nr3⟩
      have rr := risB_iff.1 hr
      cases hf : freshC k life ps with
      | none =>
        simp (config := {implicitDefEqProofs := false, maxDischargeDepth := 20}) (disch := first | omega | (simp only [lenE]; done) | (simp only [lenE]; omega) | rfl | (simp only [lenE, markR_len]; done) | (simp only [lenE, markR_len]; omega)) only [runE, mapE, listE, initT_5, initT_6, initT_7, initT_8, resV, oneV, binA, unA, reduceCtorEq, Nat.reduceEqDiff, Nat.reduceAdd, Nat.reduceLT, Nat.reduceLeDiff, Nat.reduceMul, Nat.reduceSub, ↓reduceIte, decide_true, decide_false, Bool.true_eq_false, Bool.false_eq_true, Bool.not_true, Bool.not_false, if_true, if_false, and_true, true_and, memE, celE, w64, Nat.zero_add, Nat.add_zero, Nat.mul_one, putL, and_self, ldn, Option.getD_none, show ((-1 : Int) < 0) = True by simp]
        exact ext_ansV (hX.app nr3) (by simp)
      | some x =>
        have hx0 : ¬ (x < 0) := by
          have b1 := setS_bd gd ps ps.length
          have b2 := fcTo_bd gd (life := life) rr k.need.length (Nat.le_refl _)
          unfold freshC at hf
          split at hf
          · injection hf with hf; omega
          · cases hf
        simp (config := {implicitDefEqProofs := false, maxDischargeDepth := 20}) (disch := first | omega | (simp only [lenE]; done) | (simp only [lenE]; omega) | rfl | (simp only [lenE, markR_len]; done) | (simp only [lenE, markR_len]; omega)) only [runE, mapE, listE, initT_5, initT_6, initT_7, initT_8, resV, oneV, binA, unA, reduceCtorEq, Nat.reduceEqDiff, Nat.reduceAdd, Nat.reduceLT, Nat.reduceLeDiff, Nat.reduceMul, Nat.reduceSub, ↓reduceIte, decide_true, decide_false, Bool.true_eq_false, Bool.false_eq_true, Bool.not_true, Bool.not_false, if_true, if_false, and_true, true_and, memE, celE, w64, Nat.zero_add, Nat.add_zero, Nat.mul_one, putL, and_self, ldn, Option.getD_some, hx0]
        exact ext_ansV (hX.app nr3) (by simp)
theorem implFreshCost_rc (m : Mem) (v u : Value) (k : Cs) (life : Int) (ps : List Int) (h : CaseA m v k) (hu : IntsA m u ps) :
    RC Try.prog 39 [v, .int .i64 life, u] m (AnsV (.tuple #[.int .i64 (freshA k life ps), .bool (freshOk k life ps)])) := by
  refine rc_of_run mixed ok_impl_FreshCost (by simp) (go_start _ _ _ ?_)
  obtain ⟨v1, v2, v3, v4, rfl, h1, h2, h3, h4⟩ := h.ro.ok
  have hu' := hu.ro
  have hX := (Ext.refl m).one 52 [v1, v2, v3, v4]
  simp (config := {implicitDefEqProofs := false, maxDischargeDepth := 20}) (disch := first | omega | (simp only [lenE]; done) | (simp only [lenE]; omega) | rfl | (simp only [lenE, markR_len]; done) | (simp only [lenE, markR_len]; omega)) only [runE, mapE, listE, initT_5, initT_6, initT_7, initT_8, resV, oneV, binA, unA, reduceCtorEq, Nat.reduceEqDiff, Nat.reduceAdd, Nat.reduceLT, Nat.reduceLeDiff, Nat.reduceMul, Nat.reduceSub, ↓reduceIte, decide_true, decide_false, Bool.true_eq_false, Bool.false_eq_true, Bool.not_true, Bool.not_false, if_true, if_false, and_true, true_and, memE, celE, w64, Nat.zero_add, Nat.add_zero, Nat.mul_one, putL, and_self, ldn, c_impl_FreshCost, r_impl_FreshCost]
  obtain ⟨M0, hM0⟩ : ∃ M0, M0 = roM m ++ [⟨.own, 52, [v1, v2, v3, v4]⟩] := ⟨_, rfl⟩
  have o1 : OwnB M0 m.length 52 [v1, v2, v3, v4] := by rw [hM0]; exact OwnB.here (by simp [roM_len])
  rw [← hM0] at hX ⊢
  have hc : ∀ M, Ext m M → CaseA M (.agg #[v1, v2, v3, v4]) k := fun M hX => ⟨_, _, _, _, rfl, hX.ints h1, hX.ints h2, hX.ints h3, hX.ints h4⟩
  refine callH_rc (implIsCase_rc _ _ k (hc _ hX)) ?_
  rintro r n1 ⟨rfl, nr1⟩
  replace hX := hX.app nr1
  replace o1 := o1.ext n1
  obtain ⟨M1, hM1⟩ : ∃ M1, M1 = M0 ++ n1 := ⟨_, rfl⟩
  rw [← hM1] at hX o1 ⊢
  unfold freshA freshOk freshIn lifeOk
  cases hg : k.good with
  | false =>
    simp (config := {implicitDefEqProofs := false, maxDischargeDepth := 20}) (disch := first | omega | (simp only [lenE]; done) | (simp only [lenE]; omega) | rfl | (simp only [lenE, markR_len]; done) | (simp only [lenE, markR_len]; omega)) only [runE, mapE, listE, initT_5, initT_6, initT_7, initT_8, resV, oneV, binA, unA, reduceCtorEq, Nat.reduceEqDiff, Nat.reduceAdd, Nat.reduceLT, Nat.reduceLeDiff, Nat.reduceMul, Nat.reduceSub, ↓reduceIte, decide_true, decide_false, Bool.true_eq_false, Bool.false_eq_true, Bool.not_true, Bool.not_false, if_true, if_false, and_true, true_and, memE, celE, w64, Nat.zero_add, Nat.add_zero, Nat.mul_one, putL, and_self, ldn, goG_undef]
    exact ext_ansV hX (by simp)
  | true =>
    have gd := good_iff.1 hg
    have h8 := gd.n8
    simp (config := {implicitDefEqProofs := false, maxDischargeDepth := 20}) (disch := first | omega | (simp only [lenE]; done) | (simp only [lenE]; omega) | rfl | (simp only [lenE, markR_len]; done) | (simp only [lenE, markR_len]; omega)) only [runE, mapE, listE, initT_5, initT_6, initT_7, initT_8, resV, oneV, binA, unA, reduceCtorEq, Nat.reduceEqDiff, Nat.reduceAdd, Nat.reduceLT, Nat.reduceLeDiff, Nat.reduceMul, Nat.reduceSub, ↓reduceIte, decide_true, decide_false, Bool.true_eq_false, Bool.false_eq_true, Bool.not_true, Bool.not_false, if_true, if_false, and_true, true_and, memE, celE, w64, Nat.zero_add, Nat.add_zero, Nat.mul_one, putL, and_self, ldn]
    refine callH_rc (isLife_rc _ _) ?_
    rintro r new ⟨rfl, rfl⟩
    rw [List.append_nil]
    cases hl : (decide (1 ≤ life) && decide (life ≤ 8)) with
    | false =>
      simp (config := {implicitDefEqProofs := false, maxDischargeDepth := 20}) (disch := first | omega | (simp only [lenE]; done) | (simp only [lenE]; omega) | rfl | (simp only [lenE, markR_len]; done) | (simp only [lenE, markR_len]; omega)) only [runE, mapE, listE, initT_5, initT_6, initT_7, initT_8, resV, oneV, binA, unA, reduceCtorEq, Nat.reduceEqDiff, Nat.reduceAdd, Nat.reduceLT, Nat.reduceLeDiff, Nat.reduceMul, Nat.reduceSub, ↓reduceIte, decide_true, decide_false, Bool.true_eq_false, Bool.false_eq_true, Bool.not_true, Bool.not_false, if_true, if_false, and_true, true_and, memE, celE, w64, Nat.zero_add, Nat.add_zero, Nat.mul_one, putL, and_self, ldn, goG_undef]
      exact ext_ansV hX (by simp)
    | true =>
      have hlife : 1 ≤ life ∧ life ≤ 8 := by simpa using hl
      simp (config := {implicitDefEqProofs := false, maxDischargeDepth := 20}) (disch := first | omega | (simp only [lenE]; done) | (simp only [lenE]; omega) | rfl | (simp only [lenE, markR_len]; done) | (simp only [lenE, markR_len]; omega)) only [runE, mapE, listE, initT_5, initT_6, initT_7, initT_8, resV, oneV, binA, unA, reduceCtorEq, Nat.reduceEqDiff, Nat.reduceAdd, Nat.reduceLT, Nat.reduceLeDiff, Nat.reduceMul, Nat.reduceSub, ↓reduceIte, decide_true, decide_false, Bool.true_eq_false, Bool.false_eq_true, Bool.not_true, Bool.not_false, if_true, if_false, and_true, true_and, memE, celE, w64, Nat.zero_add, Nat.add_zero, Nat.mul_one, putL, and_self, ldn, o1.rd, (hX.ints h1).len]
      refine callH_rc (ascending_rc _ u ps k.need.length (hX.ints hu') (by omega)) ?_
      rintro r n2 ⟨rfl, nr2⟩
      replace hX := hX.app nr2
      replace o1 := o1.ext n2
      obtain ⟨M2, hM2⟩ : ∃ M2, M2 = M1 ++ n2 := ⟨_, rfl⟩
      rw [← hM2] at hX o1 ⊢
      cases hr : risB ps k.need.length with
      | false =>
        simp (config := {implicitDefEqProofs := false, maxDischargeDepth := 20}) (disch := first | omega | (simp only [lenE]; done) | (simp only [lenE]; omega) | rfl | (simp only [lenE, markR_len]; done) | (simp only [lenE, markR_len]; omega)) only [runE, mapE, listE, initT_5, initT_6, initT_7, initT_8, resV, oneV, binA, unA, reduceCtorEq, Nat.reduceEqDiff, Nat.reduceAdd, Nat.reduceLT, Nat.reduceLeDiff, Nat.reduceMul, Nat.reduceSub, ↓reduceIte, decide_true, decide_false, Bool.true_eq_false, Bool.false_eq_true, Bool.not_true, Bool.not_false, if_true, if_false, and_true, true_and, memE, celE, w64, Nat.zero_add, Nat.add_zero, Nat.mul_one, putL, and_self, ldn]
        exact ext_ansV hX (by simp)
      | true =>
        simp (config := {implicitDefEqProofs := false, maxDischargeDepth := 20}) (disch := first | omega | (simp only [lenE]; done) | (simp only [lenE]; omega) | rfl | (simp only [lenE, markR_len]; done) | (simp only [lenE, markR_len]; omega)) only [runE, mapE, listE, initT_5, initT_6, initT_7, initT_8, resV, oneV, binA, unA, reduceCtorEq, Nat.reduceEqDiff, Nat.reduceAdd, Nat.reduceLT, Nat.reduceLeDiff, Nat.reduceMul, Nat.reduceSub, ↓reduceIte, decide_true, decide_false, Bool.true_eq_false, Bool.false_eq_true, Bool.not_true, Bool.not_false, if_true, if_false, and_true, true_and, memE, celE, w64, Nat.zero_add, Nat.add_zero, Nat.mul_one, putL, and_self, ldn, o1.rd]
        refine callH_rc (freshCost_rc _ _ u k life ps (hc _ hX) (hX.ints hu') gd (risB_iff.1 hr) hlife) ?_
        rintro r n3 ⟨rfl, nr3⟩
        simp (config := {implicitDefEqProofs := false, maxDischargeDepth := 20}) (disch := first | omega | (simp only [lenE]; done) | (simp only [lenE]; omega) | rfl | (simp only [lenE, markR_len]; done) | (simp only [lenE, markR_len]; omega)) only [runE, mapE, listE, initT_5, initT_6, initT_7, initT_8, resV, oneV, binA, unA, reduceCtorEq, Nat.reduceEqDiff, Nat.reduceAdd, Nat.reduceLT, Nat.reduceLeDiff, Nat.reduceMul, Nat.reduceSub, ↓reduceIte, decide_true, decide_false, Bool.true_eq_false, Bool.false_eq_true, Bool.not_true, Bool.not_false, if_true, if_false, and_true, true_and, memE, celE, w64, Nat.zero_add, Nat.add_zero, Nat.mul_one, putL, and_self, ldn, ext_2_0, ext_2_1]
        exact ext_ansV (hX.app nr3) (by simp)
end Go.Proofs.Ytdgfbmilbhckiaa.Ab
end
section
namespace Go.Proofs.Ytdgfbmilbhckiaa.Ab
open Go Go.RowKit
set_option linter.unusedVariables false
set_option linter.unusedSimpArgs false
theorem isNaN_rc (m : Mem) (x : Int) : RC Try.prog 123 [.int .i64 x] m fun r new => r = .bool false ∧ new = [] := by
  refine rc_of_run mixed ok_cmp_isNaN (by simp) (go_start _ _ _ ?_)
  simp (config := {implicitDefEqProofs := false, maxDischargeDepth := 20}) (disch := first | omega | (simp only [lenE]; done) | (simp only [lenE]; omega) | rfl | (simp only [lenE, markR_len]; done) | (simp only [lenE, markR_len]; omega)) only [runE, mapE, listE, initT_5, initT_6, initT_7, initT_8, resV, oneV, binA, unA, reduceCtorEq, Nat.reduceEqDiff, Nat.reduceAdd, Nat.reduceLT, Nat.reduceLeDiff, Nat.reduceMul, Nat.reduceSub, ↓reduceIte, decide_true, decide_false, Bool.true_eq_false, Bool.false_eq_true, Bool.not_true, Bool.not_false, if_true, if_false, and_true, true_and, memE, celE, w64, Nat.zero_add, Nat.add_zero, Nat.mul_one, putL, and_self, ldn, c_cmp_isNaN, r_cmp_isNaN, bne_self_eq_false]
  exact newQ_nil ⟨rfl, rfl⟩
def cmpI (a b : Int) : Int := if a < b then -1 else if b < a then 1 else 0
theorem cmpI_rc (m : Mem) (a b : Int) : RC Try.prog 113 [.int .i64 a, .int .i64 b] m fun r new => r = .int .i64 (cmpI a b) ∧ new = [] := by
  refine rc_of_run mixed ok_cmp_Compare (by simp) (go_start _ _ _ ?_)
  simp (config := {implicitDefEqProofs := false, maxDischargeDepth := 20}) (disch := first | omega | (simp only [lenE]; done) | (simp only [lenE]; omega) | rfl | (simp only [lenE, markR_len]; done) | (simp only [lenE, markR_len]; omega)) only [runE, mapE, listE, initT_5, initT_6, initT_7, initT_8, resV, oneV, binA, unA, reduceCtorEq, Nat.reduceEqDiff, Nat.reduceAdd, Nat.reduceLT, Nat.reduceLeDiff, Nat.reduceMul, Nat.reduceSub, ↓reduceIte, decide_true, decide_false, Bool.true_eq_false, Bool.false_eq_true, Bool.not_true, Bool.not_false, if_true, if_false, and_true, true_and, memE, celE, w64, Nat.zero_add, Nat.add_zero, Nat.mul_one, putL, and_self, ldn, c_cmp_Compare, r_cmp_Compare]
  refine callH_rc (isNaN_rc _ a) ?_
  rintro r new ⟨rfl, rfl⟩
  simp (config := {implicitDefEqProofs := false, maxDischargeDepth := 20}) (disch := first | omega | (simp only [lenE]; done) | (simp only [lenE]; omega) | rfl | (simp only [lenE, markR_len]; done) | (simp only [lenE, markR_len]; omega)) only [runE, mapE, listE, initT_5, initT_6, initT_7, initT_8, resV, oneV, binA, unA, reduceCtorEq, Nat.reduceEqDiff, Nat.reduceAdd, Nat.reduceLT, Nat.reduceLeDiff, Nat.reduceMul, Nat.reduceSub, ↓reduceIte, decide_true, decide_false, Bool.true_eq_false, Bool.false_eq_true, Bool.not_true, Bool.not_false, if_true, if_false, and_true, true_and, memE, celE, w64, Nat.zero_add, Nat.add_zero, Nat.mul_one, putL, and_self, ldn]
  refine callH_rc (isNaN_rc _ b) ?_
  rintro r new ⟨rfl, rfl⟩
  unfold cmpI
  by_cases h1 : a < b
  · simp (config := {implicitDefEqProofs := false, maxDischargeDepth := 20}) (disch := first | omega | (simp only [lenE]; done) | (simp only [lenE]; omega) | rfl | (simp only [lenE, markR_len]; done) | (simp only [lenE, markR_len]; omega)) only [runE, mapE, listE, initT_5, initT_6, initT_7, initT_8, resV, oneV, binA, unA, reduceCtorEq, Nat.reduceEqDiff, Nat.reduceAdd, Nat.reduceLT, Nat.reduceLeDiff, Nat.reduceMul, Nat.reduceSub, ↓reduceIte, decide_true, decide_false, Bool.true_eq_false, Bool.false_eq_true, Bool.not_true, Bool.not_false, if_true, if_false, and_true, true_and, memE, celE, w64, Nat.zero_add, Nat.add_zero, Nat.mul_one, putL, and_self, ldn, h1]
    exact newQ_nil ⟨rfl, rfl⟩
  · by_cases h2 : b < a
    · simp (config := {implicitDefEqProofs := false, maxDischargeDepth := 20}) (disch := first | omega | (simp only [lenE]; done) | (simp only [lenE]; omega) | rfl | (simp only [lenE, markR_len]; done) | (simp only [lenE, markR_len]; omega)) only [runE, mapE, listE, initT_5, initT_6, initT_7, initT_8, resV, oneV, binA, unA, reduceCtorEq, Nat.reduceEqDiff, Nat.reduceAdd, Nat.reduceLT, Nat.reduceLeDiff, Nat.reduceMul, Nat.reduceSub, ↓reduceIte, decide_true, decide_false, Bool.true_eq_false, Bool.false_eq_true, Bool.not_true, Bool.not_false, if_true, if_false, and_true, true_and, memE, celE, w64, Nat.zero_add, Nat.add_zero, Nat.mul_one, putL, and_self, ldn, h1, gt_iff_lt, h2]
      exact newQ_nil ⟨rfl, rfl⟩
    · simp (config := {implicitDefEqProofs := false, maxDischargeDepth := 20}) (disch := first | omega | (simp only [lenE]; done) | (simp only [lenE]; omega) | rfl | (simp only [lenE, markR_len]; done) | (simp only [lenE, markR_len]; omega)) only [runE, mapE, listE, initT_5, initT_6, initT_7, initT_8, resV, oneV, binA, unA, reduceCtorEq, Nat.reduceEqDiff, Nat.reduceAdd, Nat.reduceLT, Nat.reduceLeDiff, Nat.reduceMul, Nat.reduceSub, ↓reduceIte, decide_true, decide_false, Bool.true_eq_false, Bool.false_eq_true, Bool.not_true, Bool.not_false, if_true, if_false, and_true, true_and, memE, celE, w64, Nat.zero_add, Nat.add_zero, Nat.mul_one, putL, and_self, ldn, h1, gt_iff_lt, h2]
      exact newQ_nil ⟨rfl, rfl⟩
def cmpL : List Int → List Int → Int
  | [], [] => 0
  | [], _ :: _ => -1
  | _ :: _, [] => 1
  | x :: a, y :: b => if cmpI x y = 0 then cmpL a b else cmpI x y
theorem cmpL_drop {a b : List Int} {i : Nat} (ha : i < a.length) (hb : i < b.length) : cmpL (a.drop i) (b.drop i) = if cmpI (a.getD i 0) (b.getD i 0) = 0 then cmpL (a.drop (i + 1)) (b.drop (i + 1)) else cmpI (a.getD i 0) (b.getD i 0) := by
  rw [List.drop_eq_getElem_cons ha, List.drop_eq_getElem_cons hb, cmpL]
  simp [List.getD_eq_getElem?_getD, ha, hb]
theorem slCompare_rc (m : Mem) (v u : Value) (a b : List Int) (h : IntsA m v a) (h' : IntsA m u b) :
    RC Try.prog 114 [v, u] m (AnsV (.int .i64 (cmpL a b))) := by
  refine rc_of_run mixed ok_slices_Compare (by simp) (go_start _ _ _ ?_)
  have hv := h.ro
  have hu := h'.ro
  have hbd := hv.bd
  simp (config := {implicitDefEqProofs := false, maxDischargeDepth := 20}) (disch := first | omega | (simp only [lenE]; done) | (simp only [lenE]; omega) | rfl | (simp only [lenE, markR_len]; done) | (simp only [lenE, markR_len]; omega)) only [runE, mapE, listE, initT_5, initT_6, initT_7, initT_8, resV, oneV, binA, unA, reduceCtorEq, Nat.reduceEqDiff, Nat.reduceAdd, Nat.reduceLT, Nat.reduceLeDiff, Nat.reduceMul, Nat.reduceSub, ↓reduceIte, decide_true, decide_false, Bool.true_eq_false, Bool.false_eq_true, Bool.not_true, Bool.not_false, if_true, if_false, and_true, true_and, memE, celE, w64, Nat.zero_add, Nat.add_zero, Nat.mul_one, putL, and_self, ldn, c_slices_Compare, r_slices_Compare, hv.len]
  refine loop_inv mixed (fun s => ∃ i : Nat, i ≤ a.length ∧ i ≤ b.length ∧ cmpL a b = cmpL (a.drop i) (b.drop i) ∧ s.t 0 = v ∧ s.t 1 = u ∧ s.t 9 = v ∧ s.t 10 = .int .i64 a.length ∧ s.t 11 = .int .i64 i ∧ s.m = roM m) (fun s => a.length - (intOf (s.t 11)).toNat)
    ⟨0, by omega, by omega, rfl, rfl, rfl, rfl, rfl, rfl, rfl⟩ ?_
  rintro s ⟨i, hk, hk2, he, t0, t1, t9, t10, t11, tm⟩
  by_cases hlt : i < a.length
  · have hlt' : (i : Int) < a.length := by omega
    by_cases hlb : i < b.length
    · have hlb' : ¬ ((b.length : Int) ≤ i) := by omega
      rw [cmpL_drop hlt hlb] at he
      simp (config := {implicitDefEqProofs := false, maxDischargeDepth := 20}) (disch := first | omega | (simp only [lenE]; done) | (simp only [lenE]; omega) | rfl | (simp only [lenE, markR_len]; done) | (simp only [lenE, markR_len]; omega)) only [runE, mapE, listE, initT_5, initT_6, initT_7, initT_8, resV, oneV, binA, unA, reduceCtorEq, Nat.reduceEqDiff, Nat.reduceAdd, Nat.reduceLT, Nat.reduceLeDiff, Nat.reduceMul, Nat.reduceSub, ↓reduceIte, decide_true, decide_false, Bool.true_eq_false, Bool.false_eq_true, Bool.not_true, Bool.not_false, if_true, if_false, and_true, true_and, memE, celE, w64, Nat.zero_add, Nat.add_zero, Nat.mul_one, putL, and_self, ldn, t0, t1, t9, t10, t11, tm, hlt', hv.at_ i hlt, hv.ld i hlt, hu.len, ge_iff_le, hlb', hu.at_ i hlb, hu.ld i hlb]
      refine callH_rc (cmpI_rc _ (a.getD i 0) (b.getD i 0)) ?_
      rintro r new ⟨rfl, rfl⟩
      by_cases hq : cmpI (a.getD i 0) (b.getD i 0) = 0
      · have hq' : (cmpI (a.getD i 0) (b.getD i 0) != 0) = false := by rw [hq]; rfl
        rw [if_pos hq] at he
        simp (config := {implicitDefEqProofs := false, maxDischargeDepth := 20}) (disch := first | omega | (simp only [lenE]; done) | (simp only [lenE]; omega) | rfl | (simp only [lenE, markR_len]; done) | (simp only [lenE, markR_len]; omega)) only [runE, mapE, listE, initT_5, initT_6, initT_7, initT_8, resV, oneV, binA, unA, reduceCtorEq, Nat.reduceEqDiff, Nat.reduceAdd, Nat.reduceLT, Nat.reduceLeDiff, Nat.reduceMul, Nat.reduceSub, ↓reduceIte, decide_true, decide_false, Bool.true_eq_false, Bool.false_eq_true, Bool.not_true, Bool.not_false, if_true, if_false, and_true, true_and, memE, celE, w64, Nat.zero_add, Nat.add_zero, Nat.mul_one, putL, and_self, ldn, t0, t1, t9, t10, t11, tm, hq']
        exact ⟨⟨i + 1, by omega, by omega, he, by simp⟩, by simp [intOf]; omega⟩
      · have hq' : (cmpI (a.getD i 0) (b.getD i 0) != 0) = true := by simpa using hq
        rw [if_neg hq] at he
        simp (config := {implicitDefEqProofs := false, maxDischargeDepth := 20}) (disch := first | omega | (simp only [lenE]; done) | (simp only [lenE]; omega) | rfl | (simp only [lenE, markR_len]; done) | (simp only [lenE, markR_len]; omega)) only [runE, mapE, listE, initT_5, initT_6, initT_7, initT_8, resV, oneV, binA, unA, reduceCtorEq, Nat.reduceEqDiff, Nat.reduceAdd, Nat.reduceLT, Nat.reduceLeDiff, Nat.reduceMul, Nat.reduceSub, ↓reduceIte, decide_true, decide_false, Bool.true_eq_false, Bool.false_eq_true, Bool.not_true, Bool.not_false, if_true, if_false, and_true, true_and, memE, celE, w64, Nat.zero_add, Nat.add_zero, Nat.mul_one, putL, and_self, ldn, t0, t1, t9, t10, t11, tm, hq']
        rw [he]
        exact ext_ansV (Ext.refl m) rfl
    · have hlb' : (b.length : Int) ≤ i := by omega
      have e : cmpL (a.drop i) (b.drop i) = 1 := by
        rw [show b.drop i = [] from List.drop_eq_nil_of_le (by omega), List.drop_eq_getElem_cons hlt]; rfl
      simp (config := {implicitDefEqProofs := false, maxDischargeDepth := 20}) (disch := first | omega | (simp only [lenE]; done) | (simp only [lenE]; omega) | rfl | (simp only [lenE, markR_len]; done) | (simp only [lenE, markR_len]; omega)) only [runE, mapE, listE, initT_5, initT_6, initT_7, initT_8, resV, oneV, binA, unA, reduceCtorEq, Nat.reduceEqDiff, Nat.reduceAdd, Nat.reduceLT, Nat.reduceLeDiff, Nat.reduceMul, Nat.reduceSub, ↓reduceIte, decide_true, decide_false, Bool.true_eq_false, Bool.false_eq_true, Bool.not_true, Bool.not_false, if_true, if_false, and_true, true_and, memE, celE, w64, Nat.zero_add, Nat.add_zero, Nat.mul_one, putL, and_self, ldn, t0, t1, t9, t10, t11, tm, hlt', hv.at_ i hlt, hv.ld i hlt, hu.len, ge_iff_le, hlb']
      rw [he, e]
      exact ext_ansV (Ext.refl m) rfl
  · have hlt' : ¬ ((i : Int) < a.length) := by omega
    have e : i = a.length := by omega
    by_cases hlb : a.length < b.length
    · have hlb' : (a.length : Int) < b.length := by omega
      have e2 : cmpL (a.drop i) (b.drop i) = -1 := by
        rw [e, List.drop_length, List.drop_eq_getElem_cons hlb]; rfl
      simp (config := {implicitDefEqProofs := false, maxDischargeDepth := 20}) (disch := first | omega | (simp only [lenE]; done) | (simp only [lenE]; omega) | rfl | (simp only [lenE, markR_len]; done) | (simp only [lenE, markR_len]; omega)) only [runE, mapE, listE, initT_5, initT_6, initT_7, initT_8, resV, oneV, binA, unA, reduceCtorEq, Nat.reduceEqDiff, Nat.reduceAdd, Nat.reduceLT, Nat.reduceLeDiff, Nat.reduceMul, Nat.reduceSub, ↓reduceIte, decide_true, decide_false, Bool.true_eq_false, Bool.false_eq_true, Bool.not_true, Bool.not_false, if_true, if_false, and_true, true_and, memE, celE, w64, Nat.zero_add, Nat.add_zero, Nat.mul_one, putL, and_self, ldn, t0, t1, t9, t10, t11, tm, hlt', hv.len, hu.len, hlb']
      rw [he, e2]
      exact ext_ansV (Ext.refl m) rfl
    · have hlb' : ¬ ((a.length : Int) < b.length) := by omega
      have e2 : cmpL (a.drop i) (b.drop i) = 0 := by
        rw [e, List.drop_length, show b.drop a.length = [] from List.drop_eq_nil_of_le (by omega)]; rfl
      simp (config := {implicitDefEqProofs := false, maxDischargeDepth := 20}) (disch := first | omega | (simp only [lenE]; done) | (simp only [lenE]; omega) | rfl | (simp only [lenE, markR_len]; done) | (simp only [lenE, markR_len]; omega)) only [runE, mapE, listE, initT_5, initT_6, initT_7, initT_8, resV, oneV, binA, unA, reduceCtorEq, Nat.reduceEqDiff, Nat.reduceAdd, Nat.reduceLT, Nat.reduceLeDiff, Nat.reduceMul, Nat.reduceSub, ↓reduceIte, decide_true, decide_false, Bool.true_eq_false, Bool.false_eq_true, Bool.not_true, Bool.not_false, if_true, if_false, and_true, true_and, memE, celE, w64, Nat.zero_add, Nat.add_zero, Nat.mul_one, putL, and_self, ldn, t0, t1, t9, t10, t11, tm, hlt', hv.len, hu.len, hlb']
      rw [he, e2]
      exact ext_ansV (Ext.refl m) rfl
def orL : List Int → Int
  | [] => 0
  | x :: l => if x = 0 then orL l else x
theorem orL_drop {a : List Int} {i : Nat} (ha : i < a.length) : orL (a.drop i) = if a.getD i 0 = 0 then orL (a.drop (i + 1)) else a.getD i 0 := by
  rw [List.drop_eq_getElem_cons ha, orL]
  simp [List.getD_eq_getElem?_getD, ha]
theorem cmpOr_rc (m : Mem) (v : Value) (a : List Int) (h : IntsA m v a) : RC Try.prog 112 [v] m (AnsV (.int .i64 (orL a))) := by
  refine rc_of_run mixed ok_cmp_Or (by simp) (go_start _ _ _ ?_)
  have hv := h.ro
  have hbd := hv.bd
  simp (config := {implicitDefEqProofs := false, maxDischargeDepth := 20}) (disch := first | omega | (simp only [lenE]; done) | (simp only [lenE]; omega) | rfl | (simp only [lenE, markR_len]; done) | (simp only [lenE, markR_len]; omega)) only [runE, mapE, listE, initT_5, initT_6, initT_7, initT_8, resV, oneV, binA, unA, reduceCtorEq, Nat.reduceEqDiff, Nat.reduceAdd, Nat.reduceLT, Nat.reduceLeDiff, Nat.reduceMul, Nat.reduceSub, ↓reduceIte, decide_true, decide_false, Bool.true_eq_false, Bool.false_eq_true, Bool.not_true, Bool.not_false, if_true, if_false, and_true, true_and, memE, celE, w64, Nat.zero_add, Nat.add_zero, Nat.mul_one, putL, and_self, ldn, c_cmp_Or, r_cmp_Or, hv.len]
  refine loop_inv mixed (fun s => ∃ i : Nat, i ≤ a.length ∧ orL a = orL (a.drop i) ∧ s.t 3 = .int .i64 0 ∧ s.t 6 = v ∧ s.t 7 = .int .i64 a.length ∧ s.t 8 = .int .i64 i ∧ s.m = roM m) (fun s => a.length - (intOf (s.t 8)).toNat)
    ⟨0, by omega, rfl, rfl, rfl, rfl, rfl, rfl⟩ ?_
  rintro s ⟨i, hk, he, t3, t6, t7, t8, tm⟩
  by_cases hlt : i < a.length
  · have hlt' : (i : Int) < a.length := by omega
    rw [orL_drop hlt] at he
    by_cases hq : a.getD i 0 = 0
    · have hq' : (a.getD i 0 != 0) = false := by rw [hq]; rfl
      rw [if_pos hq] at he
      simp (config := {implicitDefEqProofs := false, maxDischargeDepth := 20}) (disch := first | omega | (simp only [lenE]; done) | (simp only [lenE]; omega) | rfl | (simp only [lenE, markR_len]; done) | (simp only [lenE, markR_len]; omega)) only [runE, mapE, listE, initT_5, initT_6, initT_7, initT_8, resV, oneV, binA, unA, reduceCtorEq, Nat.reduceEqDiff, Nat.reduceAdd, Nat.reduceLT, Nat.reduceLeDiff, Nat.reduceMul, Nat.reduceSub, ↓reduceIte, decide_true, decide_false, Bool.true_eq_false, Bool.false_eq_true, Bool.not_true, Bool.not_false, if_true, if_false, and_true, true_and, memE, celE, w64, Nat.zero_add, Nat.add_zero, Nat.mul_one, putL, and_self, ldn, t3, t6, t7, t8, tm, hlt', hv.at_ i hlt, hv.ld i hlt, hq']
      exact ⟨⟨i + 1, by omega, he, by simp⟩, by simp [intOf]; omega⟩
    · have hq' : (a.getD i 0 != 0) = true := by simpa using hq
      rw [if_neg hq] at he
      simp (config := {implicitDefEqProofs := false, maxDischargeDepth := 20}) (disch := first | omega | (simp only [lenE]; done) | (simp only [lenE]; omega) | rfl | (simp only [lenE, markR_len]; done) | (simp only [lenE, markR_len]; omega)) only [runE, mapE, listE, initT_5, initT_6, initT_7, initT_8, resV, oneV, binA, unA, reduceCtorEq, Nat.reduceEqDiff, Nat.reduceAdd, Nat.reduceLT, Nat.reduceLeDiff, Nat.reduceMul, Nat.reduceSub, ↓reduceIte, decide_true, decide_false, Bool.true_eq_false, Bool.false_eq_true, Bool.not_true, Bool.not_false, if_true, if_false, and_true, true_and, memE, celE, w64, Nat.zero_add, Nat.add_zero, Nat.mul_one, putL, and_self, ldn, t3, t6, t7, t8, tm, hlt', hv.at_ i hlt, hv.ld i hlt, hq']
      rw [he]
      exact ext_ansV (Ext.refl m) rfl
  · have hlt' : ¬ ((i : Int) < a.length) := by omega
    have e : i = a.length := by omega
    rw [e, List.drop_length] at he
    simp (config := {implicitDefEqProofs := false, maxDischargeDepth := 20}) (disch := first | omega | (simp only [lenE]; done) | (simp only [lenE]; omega) | rfl | (simp only [lenE, markR_len]; done) | (simp only [lenE, markR_len]; omega)) only [runE, mapE, listE, initT_5, initT_6, initT_7, initT_8, resV, oneV, binA, unA, reduceCtorEq, Nat.reduceEqDiff, Nat.reduceAdd, Nat.reduceLT, Nat.reduceLeDiff, Nat.reduceMul, Nat.reduceSub, ↓reduceIte, decide_true, decide_false, Bool.true_eq_false, Bool.false_eq_true, Bool.not_true, Bool.not_false, if_true, if_false, and_true, true_and, memE, celE, w64, Nat.zero_add, Nat.add_zero, Nat.mul_one, putL, and_self, ldn, t3, t6, t7, t8, tm, hlt']
    rw [he]
    exact ext_ansV (Ext.refl m) rfl
theorem cmpL_lex : ∀ {a b : List Int}, a.length = b.length → decide (cmpL a b < 0) = lexB a b := by
  intro a
  induction a with
  | nil => intro b h; cases b with
    | nil => rfl
    | cons y b => simp at h
  | cons x a ih =>
    intro b h
    cases b with
    | nil => simp at h
    | cons y b =>
      rw [cmpL, lexB]
      unfold cmpI
      by_cases e : x = y
      · subst e
        simp only [Int.lt_irrefl, if_false, if_true]
        exact ih (by simpa using h)
      · rw [if_neg e]
        by_cases h1 : x < y
        · simp [h1]
        · have h2 : y < x := by omega
          simp [h1, h2]
theorem or_bef (c1 c2 : Int) (l1 l2 : List Int) : decide (orL [cmpI c1 c2, cmpI l1.length l2.length, cmpL l1 l2] < 0) = bef (c1, l1) (c2, l2) := by
  unfold bef beforeB
  simp only [orL]
  unfold cmpI
  by_cases e : c1 = c2
  · subst e
    simp only [Int.lt_irrefl, if_false, if_true]
    by_cases e2 : l1.length = l2.length
    · rw [if_pos e2, ← cmpL_lex e2, e2]
      simp only [Int.lt_irrefl, if_false, if_true]
      by_cases h0 : cmpL l1 l2 = 0
      · rw [h0]; simp
      · rw [if_neg h0]
    · rw [if_neg e2]
      by_cases h1 : l1.length < l2.length
      · have h1' : (l1.length : Int) < l2.length := by omega
        simp [h1]
      · have h2 : l2.length < l1.length := by omega
        simp [h1, h2]
  · rw [if_neg e]
    by_cases h1 : c1 < c2
    · simp [h1]
    · have h2 : c2 < c1 := by omega
      simp [h1, h2]
theorem comesBefore_rc (m : Mem) (c1 c2 : Int) (v u : Value) (a b : List Int) (h : IntsA m v a) (h' : IntsA m u b) :
    RC Try.prog 99 [.agg #[.int .i64 c1, v], .agg #[.int .i64 c2, u]] m (AnsV (.bool (bef (c1, a) (c2, b)))) := by
  refine rc_of_run mixed ok_impl_comesBefore (by simp) (go_start _ _ _ ?_)
  have hv := h.ro
  have hu := h'.ro
  have l1 := hv.len
  have l2 := hu.len
  simp (config := {implicitDefEqProofs := false, maxDischargeDepth := 20}) (disch := first | omega | (simp only [lenE]; done) | (simp only [lenE]; omega) | rfl | (simp only [lenE, markR_len]; done) | (simp only [lenE, markR_len]; omega)) only [runE, mapE, listE, initT_5, initT_6, initT_7, initT_8, resV, oneV, binA, unA, reduceCtorEq, Nat.reduceEqDiff, Nat.reduceAdd, Nat.reduceLT, Nat.reduceLeDiff, Nat.reduceMul, Nat.reduceSub, ↓reduceIte, decide_true, decide_false, Bool.true_eq_false, Bool.false_eq_true, Bool.not_true, Bool.not_false, if_true, if_false, and_true, true_and, memE, celE, w64, Nat.zero_add, Nat.add_zero, Nat.mul_one, putL, and_self, ldn, c_impl_comesBefore, r_impl_comesBefore, l1, l2]
  refine rcallH_rc (cmpI_rc _ c1 c2) ?_
  rintro r new ⟨rfl, rfl⟩
  simp (config := {implicitDefEqProofs := false, maxDischargeDepth := 20}) (disch := first | omega | (simp only [lenE]; done) | (simp only [lenE]; omega) | rfl | (simp only [lenE, markR_len]; done) | (simp only [lenE, markR_len]; omega)) only [runE, mapE, listE, initT_5, initT_6, initT_7, initT_8, resV, oneV, binA, unA, reduceCtorEq, Nat.reduceEqDiff, Nat.reduceAdd, Nat.reduceLT, Nat.reduceLeDiff, Nat.reduceMul, Nat.reduceSub, ↓reduceIte, decide_true, decide_false, Bool.true_eq_false, Bool.false_eq_true, Bool.not_true, Bool.not_false, if_true, if_false, and_true, true_and, memE, celE, w64, Nat.zero_add, Nat.add_zero, Nat.mul_one, putL, and_self, ldn]
  refine rcallH_rc (cmpI_rc _ (a.length : Int) (b.length : Int)) ?_
  rintro r new ⟨rfl, rfl⟩
  simp (config := {implicitDefEqProofs := false, maxDischargeDepth := 20}) (disch := first | omega | (simp only [lenE]; done) | (simp only [lenE]; omega) | rfl | (simp only [lenE, markR_len]; done) | (simp only [lenE, markR_len]; omega)) only [runE, mapE, listE, initT_5, initT_6, initT_7, initT_8, resV, oneV, binA, unA, reduceCtorEq, Nat.reduceEqDiff, Nat.reduceAdd, Nat.reduceLT, Nat.reduceLeDiff, Nat.reduceMul, Nat.reduceSub, ↓reduceIte, decide_true, decide_false, Bool.true_eq_false, Bool.false_eq_true, Bool.not_true, Bool.not_false, if_true, if_false, and_true, true_and, memE, celE, w64, Nat.zero_add, Nat.add_zero, Nat.mul_one, putL, and_self, ldn]
  refine rcallH_rc (slCompare_rc _ v u a b ((hv.ext _).ext _) ((hu.ext _).ext _)) ?_
  rintro r new ⟨rfl, nr⟩
  have b3 : ∀ (M : Mem) (x y z : Int), bslA M 3 1 3 [.int .i64 0, .int .i64 0, .int .i64 0] [(0, 1, .int .i64 x), (1, 1, .int .i64 y), (2, 1, .int .i64 z)] = some (.slice (some ⟨M.length, 0, none⟩) 3 1, M ++ [⟨.own, 3, [x, y, z].map (Value.int .i64)⟩]) := fun M x y z => rfl
  simp (config := {implicitDefEqProofs := false, maxDischargeDepth := 20}) (disch := first | omega | (simp only [lenE]; done) | (simp only [lenE]; omega) | rfl | (simp only [lenE, markR_len]; done) | (simp only [lenE, markR_len]; omega)) only [runE, mapE, listE, initT_5, initT_6, initT_7, initT_8, resV, oneV, binA, unA, reduceCtorEq, Nat.reduceEqDiff, Nat.reduceAdd, Nat.reduceLT, Nat.reduceLeDiff, Nat.reduceMul, Nat.reduceSub, ↓reduceIte, decide_true, decide_false, Bool.true_eq_false, Bool.false_eq_true, Bool.not_true, Bool.not_false, if_true, if_false, and_true, true_and, memE, celE, w64, Nat.zero_add, Nat.add_zero, Nat.mul_one, putL, and_self, ldn, b3]
  have o3 := fun M : Mem => OwnR.at_end M [cmpI c1 c2, cmpI (a.length : Int) (b.length : Int), cmpL a b]
  refine rcallH_rc (cmpOr_rc _ _ [cmpI c1 c2, cmpI (a.length : Int) (b.length : Int), cmpL a b] ((OwnR.end' (l := [cmpI c1 c2, cmpI (a.length : Int) (b.length : Int), cmpL a b]) (by simp [roM_len]; omega)).ints (by simp) 1)) ?_
  rintro r new2 ⟨rfl, nr2⟩
  simp (config := {implicitDefEqProofs := false, maxDischargeDepth := 20}) (disch := first | omega | (simp only [lenE]; done) | (simp only [lenE]; omega) | rfl | (simp only [lenE, markR_len]; done) | (simp only [lenE, markR_len]; omega)) only [runE, mapE, listE, initT_5, initT_6, initT_7, initT_8, resV, oneV, binA, unA, reduceCtorEq, Nat.reduceEqDiff, Nat.reduceAdd, Nat.reduceLT, Nat.reduceLeDiff, Nat.reduceMul, Nat.reduceSub, ↓reduceIte, decide_true, decide_false, Bool.true_eq_false, Bool.false_eq_true, Bool.not_true, Bool.not_false, if_true, if_false, and_true, true_and, memE, celE, w64, Nat.zero_add, Nat.add_zero, Nat.mul_one, putL, and_self, ldn]
  rw [or_bef]
  exact ext_ansV ((((((Ext.refl m).one _ _).one _ _).app nr).one _ _).app nr2) rfl
end Go.Proofs.Ytdgfbmilbhckiaa.Ab
end
section
namespace Go.Proofs.Ytdgfbmilbhckiaa.Ab
open Go Go.RowKit
set_option linter.unusedVariables false
set_option linter.unusedSimpArgs false
theorem wrapU (x : Int) (h : 0 ≤ x ∧ x ≤ 18446744073709551615) : IntKind.u64.wrap x = x := IntWalk.u64_in x ⟨h.1, by omega⟩
theorem FnOk.fn9 {P : Program} {f : FuncId} {n : Nat} {c : ACode} {res : List ARes} (hf : FnOk P f n c res) : ∃ fn, P.funcs[f]? = some fn ∧ (fn.name == "runtime.NumGoroutine") = false ∧ fn.body.isNone = false := by
  obtain ⟨fn, C, hfn, hname, hb, _⟩ := hf.ok
  exact ⟨fn, hfn, hname, by rw [hb]; rfl⟩
theorem rc_plain9 {P : Program} {f : FuncId} {args : List Value} {m : Mem} {v : Value} (hf : ∃ fn, P.funcs[f]? = some fn ∧ (fn.name == "runtime.NumGoroutine") = false ∧ fn.body.isNone = false) (hv : ∀ ρ, VR ρ v v)
    (H : ∀ (ρ : Places) (w : World) (cargs : List Value), MRel w w.heap.size ρ (roM m) w → VL ρ args cargs → Calls P f cargs.toArray w (fun e w' => e = .returned v ∧ Below w.heap.size w w')) : RC P f args m fun r new => r = v ∧ new = [] :=
  ⟨hf, fun ρ w cargs hm ha => (H ρ w cargs hm ha).mono fun e w' ⟨he, hb⟩ => ⟨v, v, [], [], he, ⟨rfl, rfl⟩, noRo_nil, by simpa using hm.keep hb, by simpa using hv ρ⟩⟩
theorem len_bits : ∀ c : Fin 256, c.val < 2 ^ Lib.bitLen c.val ∧ Lib.bitLen c.val ≤ 8 := by decide +kernel
theorem bitsLen_rc (m : Mem) (c : Nat) : c < 256 → RC Try.prog 111 [.int .u64 (c : Int)] m fun r new => r = .int .i64 ((Lib.bitLen c : Nat) : Int) ∧ new = [] := by
  intro hc
  refine rc_plain9 ok_math_bits_Len.fn9 (fun ρ => .int _ _) fun ρ w cargs hm ha => ?_
  obtain ⟨hl, hp⟩ := ha
  match cargs, hl with
  | [y], _ =>
    have hy := hp 0 (.int .u64 (c : Int)) y rfl rfl
    cases hy
    refine (Try.bits_Len (c : Int) w (by omega) (by omega)).mono ?_
    rintro e w' ⟨rfl, rfl⟩
    exact ⟨by rw [Int.toNat_natCast], Below.refl _ _⟩
theorem allPeriods_rc (m : Mem) (n : Nat) (hn : n ≤ 8) : RC Try.prog 97 [.int .i64 (n : Int)] m fun r new => r = .int .u64 ((2 ^ n - 1 : Nat) : Int) ∧ new = [] := by
  refine rc_of_run mixed ok_impl_allPeriods (by simp) (go_start _ _ _ ?_)
  have hn0 : ¬ ((n : Int) < 0) := by omega
  simp (config := {implicitDefEqProofs := false, maxDischargeDepth := 20}) (disch := first | omega | (simp only [lenE]; done) | (simp only [lenE]; omega) | rfl | (simp only [lenE, markR_len]; done) | (simp only [lenE, markR_len]; omega)) only [runE, mapE, listE, initT_5, initT_6, initT_7, initT_8, resV, oneV, binA, unA, reduceCtorEq, Nat.reduceEqDiff, Nat.reduceAdd, Nat.reduceLT, Nat.reduceLeDiff, Nat.reduceMul, Nat.reduceSub, ↓reduceIte, decide_true, decide_false, Bool.true_eq_false, Bool.false_eq_true, Bool.not_true, Bool.not_false, if_true, if_false, and_true, true_and, memE, celE, w64, Nat.zero_add, Nat.add_zero, Nat.mul_one, putL, and_self, ldn, c_impl_allPeriods, r_impl_allPeriods, hn0]
  have e1 : min ((n : Nat) : Int).toNat IntKind.u64.bits = n := by
    have : IntKind.u64.bits = 64 := rfl
    rw [this]; omega
  have h2 : 2 ^ n ≤ 2 ^ 8 := Nat.pow_le_pow_right (by omega) hn
  have h1 : 1 ≤ 2 ^ n := Nat.one_le_two_pow
  have e2 : (2 : Int) ^ n = ((2 ^ n : Nat) : Int) := by simp
  obtain ⟨N, hN⟩ : ∃ N : Nat, N = 2 ^ n := ⟨_, rfl⟩
  rw [e1, Int.one_mul, e2]
  rw [← hN] at h2 h1 ⊢
  rw [wrapU (N : Int) ⟨by omega, by omega⟩, wrapU ((N : Int) - 1) ⟨by omega, by omega⟩]
  exact newQ_nil ⟨by congr 1; omega, rfl⟩
theorem bitsL_stop {c L : Nat} (h : c < 2 ^ L) : ∀ k, bitsL c (L + k) = bitsL c L := by
  intro k
  induction k with
  | zero => rfl
  | succ k ih =>
    have h1 : c < 2 ^ (L + k) := Nat.lt_of_lt_of_le h (Nat.pow_le_pow_right (by omega) (by omega))
    have h2 : c / 2 ^ (L + k) = 0 := Nat.div_eq_of_lt h1
    rw [← Nat.add_assoc, bitsL, h2, if_neg (by simp), ih]
theorem bitsL_same {c L n : Nat} (h : c < 2 ^ L) (h' : c < 2 ^ n) : bitsL c L = bitsL c n := by
  rcases Nat.le_total L n with e | e
  · have := bitsL_stop h (n - L)
    rw [show L + (n - L) = n by omega] at this
    exact this.symm
  · have := bitsL_stop h' (L - n)
    rw [show n + (L - n) = L by omega] at this
    exact this
theorem and1U (x : Nat) (h : x ≤ 1000) : IntKind.wrap .u64 (((BitVec.ofInt IntKind.u64.bits (x : Int) &&& BitVec.ofInt IntKind.u64.bits 1).toNat : Nat) : Int) = ((x % 2 : Nat) : Int) := by
  rw [show ((BitVec.ofInt IntKind.u64.bits (x : Int) &&& BitVec.ofInt IntKind.u64.bits 1).toNat) = x % 2 from and1 x]
  exact wrapU _ ⟨by omega, by omega⟩
theorem shrU {c x : Nat} (h : x ≤ 63) : (c : Int).fdiv (2 ^ (min ((x : Nat) : Int).toNat IntKind.u64.bits)) = ((c / 2 ^ x : Nat) : Int) := shr_code h
theorem setList_rc (m : Mem) (n c : Nat) (hn : n ≤ 8) (hc : c < 2 ^ n) : RC Try.prog 98 [.int .u64 (c : Int)] m (AnsR m (bitsL c n)) := by
  refine rc_of_run mixed ok_impl_periodSet__list (by simp) (go_start _ _ _ ?_)
  have h28 : 2 ^ n ≤ 2 ^ 8 := Nat.pow_le_pow_right (by omega) hn
  have hc8 : c < 256 := by omega
  obtain ⟨hb1, hb2⟩ := len_bits ⟨c, hc8⟩
  obtain ⟨L, hL⟩ : ∃ L, L = Lib.bitLen c := ⟨_, rfl⟩
  simp only at hb1 hb2
  have K : ∀ m, RC Try.prog 111 [.int .u64 (c : Int)] m fun r new => r = .int .i64 (L : Int) ∧ new = [] := fun m => by rw [hL]; exact bitsLen_rc m c hc8
  rw [← hL] at hb1 hb2
  rw [bitsL_same hc hb1]
  simp (config := {implicitDefEqProofs := false, maxDischargeDepth := 20}) (disch := first | omega | (simp only [lenE]; done) | (simp only [lenE]; omega) | rfl | (simp only [lenE, markR_len]; done) | (simp only [lenE, markR_len]; omega)) only [runE, mapE, listE, initT_5, initT_6, initT_7, initT_8, resV, oneV, binA, unA, reduceCtorEq, Nat.reduceEqDiff, Nat.reduceAdd, Nat.reduceLT, Nat.reduceLeDiff, Nat.reduceMul, Nat.reduceSub, ↓reduceIte, decide_true, decide_false, Bool.true_eq_false, Bool.false_eq_true, Bool.not_true, Bool.not_false, if_true, if_false, and_true, true_and, memE, celE, w64, Nat.zero_add, Nat.add_zero, Nat.mul_one, putL, and_self, ldn, c_impl_periodSet__list, r_impl_periodSet__list, bsl_none]
  refine callH_rc (K _) ?_
  rintro r new ⟨rfl, rfl⟩
  simp (config := {implicitDefEqProofs := false, maxDischargeDepth := 20}) (disch := first | omega | (simp only [lenE]; done) | (simp only [lenE]; omega) | rfl | (simp only [lenE, markR_len]; done) | (simp only [lenE, markR_len]; omega)) only [runE, mapE, listE, initT_5, initT_6, initT_7, initT_8, resV, oneV, binA, unA, reduceCtorEq, Nat.reduceEqDiff, Nat.reduceAdd, Nat.reduceLT, Nat.reduceLeDiff, Nat.reduceMul, Nat.reduceSub, ↓reduceIte, decide_true, decide_false, Bool.true_eq_false, Bool.false_eq_true, Bool.not_true, Bool.not_false, if_true, if_false, and_true, true_and, memE, celE, w64, Nat.zero_add, Nat.add_zero, Nat.mul_one, putL, and_self, ldn]
  refine loop_inv mixed (fun s => ∃ (x : Nat) (M : Mem) (id : Nat), x ≤ L ∧ s.t 0 = .int .u64 (c : Int) ∧ s.t 3 = .slice (some ⟨id, 0, none⟩) (bitsL c x).length 1 ∧ s.t 7 = .int .i64 (L : Int) ∧ s.t 8 = .int .i64 x ∧ s.m = M ∧ Ext m M ∧ OwnR M id (bitsL c x) ∧ m.length ≤ id) (fun s => L - (intOf (s.t 8)).toNat)
    ⟨0, _, m.length, by omega, rfl, by simp only [put_t, put_t', put_m, putT_t, putT_t', putT_m, init_t, init_m, initT_0, initT_1, initT_2, initT_3, initT_4, initT_5, initT_6, initT_7, initT_8, Nat.reduceEqDiff, ↓reduceIte]; rfl, rfl, rfl, rfl, (Ext.refl m).one _ _, OwnR.end' (l := []) (by simp [roM_len]), Nat.le_refl _⟩ ?_
  rintro s ⟨x, M, id, hk, t0, t3, t7, t8, tm, hx, oM, lid⟩
  by_cases hlt : x < L
  · have hlt' : (x : Int) < L := by omega
    have hx0 : ¬ ((x : Int) < 0) := by omega
    have hd : c / 2 ^ x ≤ 1000 := Nat.le_trans (Nat.div_le_self _ _) (by omega)
    have bl := bitsL_len c x
    have aw := and1U (c / 2 ^ x) hd
    by_cases hb : c / 2 ^ x % 2 = 1
    · have hb' : (((c / 2 ^ x % 2 : Nat) : Int) == 1) = true := by rw [hb]; rfl
      simp (config := {implicitDefEqProofs := false, maxDischargeDepth := 20}) (disch := first | omega | (simp only [lenE]; done) | (simp only [lenE]; omega) | rfl | (simp only [lenE, markR_len]; done) | (simp only [lenE, markR_len]; omega)) only [runE, mapE, listE, initT_5, initT_6, initT_7, initT_8, resV, oneV, binA, unA, reduceCtorEq, Nat.reduceEqDiff, Nat.reduceAdd, Nat.reduceLT, Nat.reduceLeDiff, Nat.reduceMul, Nat.reduceSub, ↓reduceIte, decide_true, decide_false, Bool.true_eq_false, Bool.false_eq_true, Bool.not_true, Bool.not_false, if_true, if_false, and_true, true_and, memE, celE, w64, Nat.zero_add, Nat.add_zero, Nat.mul_one, putL, and_self, ldn, t0, t3, t7, t8, tm, hlt', hx0, shrU (c := c) (show x ≤ 63 by omega), aw, hb', bsl_one, app_gen oM (by omega)]
      refine ⟨⟨x + 1, _, M.length + 1, by omega, by rw [bitsL, if_pos hb]; simp, by simp, rfl, ((hx.dead lid).one _ _).one _ _, ?_, by have := hx.len; omega⟩, by simp [intOf]; omega⟩
      rw [bitsL, if_pos hb]
      have := OwnR.at_end (M.set id deadB ++ [⟨.own, 3, [.int .i64 (x : Int)]⟩]) (bitsL c x ++ [(x : Int)])
      simpa using this
    · have hb' : (((c / 2 ^ x % 2 : Nat) : Int) == 1) = false := by
        have : c / 2 ^ x % 2 = 0 := by omega
        rw [this]; rfl
      simp (config := {implicitDefEqProofs := false, maxDischargeDepth := 20}) (disch := first | omega | (simp only [lenE]; done) | (simp only [lenE]; omega) | rfl | (simp only [lenE, markR_len]; done) | (simp only [lenE, markR_len]; omega)) only [runE, mapE, listE, initT_5, initT_6, initT_7, initT_8, resV, oneV, binA, unA, reduceCtorEq, Nat.reduceEqDiff, Nat.reduceAdd, Nat.reduceLT, Nat.reduceLeDiff, Nat.reduceMul, Nat.reduceSub, ↓reduceIte, decide_true, decide_false, Bool.true_eq_false, Bool.false_eq_true, Bool.not_true, Bool.not_false, if_true, if_false, and_true, true_and, memE, celE, w64, Nat.zero_add, Nat.add_zero, Nat.mul_one, putL, and_self, ldn, t0, t3, t7, t8, tm, hlt', hx0, shrU (c := c) (show x ≤ 63 by omega), aw, hb']
      exact ⟨⟨x + 1, M, id, by omega, by rw [bitsL, if_neg hb], by simp, rfl, hx, by rw [bitsL, if_neg hb]; exact oM, lid⟩, by simp [intOf]; omega⟩
  · have hlt' : ¬ ((x : Int) < L) := by omega
    have e : x = L := by omega
    subst e
    have := bitsL_len c x
    simp (config := {implicitDefEqProofs := false, maxDischargeDepth := 20}) (disch := first | omega | (simp only [lenE]; done) | (simp only [lenE]; omega) | rfl | (simp only [lenE, markR_len]; done) | (simp only [lenE, markR_len]; omega)) only [runE, mapE, listE, initT_5, initT_6, initT_7, initT_8, resV, oneV, binA, unA, reduceCtorEq, Nat.reduceEqDiff, Nat.reduceAdd, Nat.reduceLT, Nat.reduceLeDiff, Nat.reduceMul, Nat.reduceSub, ↓reduceIte, decide_true, decide_false, Bool.true_eq_false, Bool.false_eq_true, Bool.not_true, Bool.not_false, if_true, if_false, and_true, true_and, memE, celE, w64, Nat.zero_add, Nat.add_zero, Nat.mul_one, putL, and_self, ldn, t0, t3, t7, t8, tm, hlt']
    exact ext_ansR hx oM (by omega) rfl (by omega)
def bestO (g : List Int → Option Int) (n : Nat) : Nat → Option (Int × List Int)
  | 0 => none
  | c + 1 => match g (bitsL c n) with
    | none => bestO g n c
    | some x => match bestO g n c with
      | none => some (x, bitsL c n)
      | some b => if bef (x, bitsL c n) b then some (x, bitsL c n) else some b
def bestV (b : Option (Int × List Int)) : Int × List Int := b.getD (9223372036854775807, [])
theorem bestO_no {g : List Int → Option Int} {n c : Nat} (h : g (bitsL c n) = none) : bestO g n (c + 1) = bestO g n c := by simp only [bestO, h]
theorem bestO_yes {g : List Int → Option Int} {n c : Nat} {x : Int} (h : g (bitsL c n) = some x) (hx : x < 9223372036854775807) : bestO g n (c + 1) = some (if bef (x, bitsL c n) (bestV (bestO g n c)) then (x, bitsL c n) else bestV (bestO g n c)) := by
  simp only [bestO, h]
  cases hb : bestO g n c with
  | none =>
    have : bef (x, bitsL c n) (bestV none) = true := by
      unfold bestV bef
      simp only [Option.getD_none]
      rw [if_neg (by omega)]
      exact decide_eq_true hx
    simp only [this, if_true]
  | some b =>
    simp only [bestV, Option.getD_some]
    by_cases e : bef (x, bitsL c n) b = true
    · simp [e]
    · simp [e]
theorem bestO_len (g : List Int → Option Int) (n : Nat) : ∀ c, (bestV (bestO g n c)).2.length ≤ n := by
  intro c
  induction c with
  | zero => simp [bestO, bestV]
  | succ c ih =>
    cases hg : g (bitsL c n) with
    | none => rw [bestO_no hg]; exact ih
    | some x =>
      simp only [bestO, hg]
      cases hb : bestO g n c with
      | none => simp only [bestV, Option.getD_some]; exact bitsL_len _ _
      | some b =>
        rw [hb] at ih
        simp only [bestV, Option.getD_some] at ih
        by_cases e : bef (x, bitsL c n) b = true
        · simp only [e, if_true, bestV, Option.getD_some]; exact bitsL_len _ _
        · simp only [Bool.not_eq_true] at e
          simp only [e, Bool.false_eq_true, if_false, bestV, Option.getD_some]; exact ih
def CostF (m : Mem) (fv : Value) (n : Nat) (g : List Int → Option Int) : Prop :=
  ∃ f cap, fv = .func (.func f) #[] cap ∧ ∀ (M : Mem) (u : Value) (c : Nat), Ext m M → c < 2 ^ n → IntsA M u (bitsL c n) → RC Try.prog f (u :: cap.toList) M (AnsV (.tuple #[.int .i64 ((g (bitsL c n)).getD 0), .bool (g (bitsL c n)).isSome]))
theorem bldL (x : Int) : bldA [.int .i64 0, .slice none 0 0] [(0, 1, .int .i64 x)] = some (.agg #[.int .i64 x, .slice none 0 0]) := rfl
theorem bldL2 (x : Int) (A : Option Addr) (n c : Nat) : bldA [.int .i64 0, .slice none 0 0] [(0, 1, .int .i64 x), (1, 1, .slice A n c)] = some (.agg #[.int .i64 x, .slice A n c]) := rfl
theorem stP_aggL2 (m : Mem) (id off : Nat) (u v : Value) : stP m 2 (.pointer (some ⟨id, off, none⟩)) (.agg #[u, v]) = stA m id off [u, v] := rfl
def ListV (p : Prop) (M : Mem) (k : Nat) (v : Value) (l : List Int) : Prop := (p ∧ v = .slice none 0 0 ∧ l = []) ∨ ∃ id fl, v = .slice (some ⟨id, 0, none⟩) l.length fl ∧ k < id ∧ OwnR M id l
theorem ListV.ints {p : Prop} {M : Mem} {k : Nat} {v : Value} {l : List Int} (h : ListV p M k v l) (hb : l.length ≤ 1000) : IntsA M v l := by
  rcases h with ⟨_, rfl, rfl⟩ | ⟨id, fl, rfl, _, ho⟩
  · exact IntsA.nil M
  · exact ho.ints (by omega) fl
theorem ListV.ext {p : Prop} {M : Mem} {k : Nat} {v : Value} {l : List Int} (h : ListV p M k v l) (new : Mem) : ListV p (M ++ new) k v l := by
  rcases h with ⟨hp, rfl, rfl⟩ | ⟨id, fl, rfl, hk, ho⟩
  · exact .inl ⟨hp, rfl, rfl⟩
  · exact .inr ⟨id, fl, rfl, hk, ho.ext new⟩
theorem ListV.set {p : Prop} {M : Mem} {k i : Nat} {v : Value} {l : List Int} (h : ListV p M k v l) (hi : i ≤ k) (b : Blk) : ListV p (M.set i b) k v l := by
  rcases h with ⟨hp, rfl, rfl⟩ | ⟨id, fl, rfl, hk, ho⟩
  · exact .inl ⟨hp, rfl, rfl⟩
  · exact .inr ⟨id, fl, rfl, hk, ho.set_ne (by omega)⟩
theorem ListV.one {p : Prop} {M : Mem} {k : Nat} {v : Value} {l : List Int} (h : ListV p M k v l) (xs : List Value) : onesB (v :: xs) = onesB xs := by
  rcases h with ⟨_, rfl, rfl⟩ | ⟨id, fl, rfl, hk, ho⟩ <;> rfl
def AnsBest (p : Prop) (m : Mem) (x : Int) (l : List Int) (r : Value) (new : Mem) : Prop := NoRo new ∧ ∃ v, r = .agg #[.int .i64 x, v] ∧ ListV p (m ++ new) m.length v l
theorem ext_best {p : Prop} {m M : Mem} {x : Int} {l : List Int} {v : Value} (h : Ext m M) (hv : ListV p M m.length v l) : newQ m (AnsBest p m x l) (.agg #[.int .i64 x, v]) M := by
  obtain ⟨n0, rfl, h0⟩ := h
  refine ⟨n0, rfl, h0, h0, v, rfl, ?_⟩
  rcases hv with ⟨hp, rfl, rfl⟩ | ⟨id, fl, rfl, hk, ho⟩
  · exact .inl ⟨hp, rfl, rfl⟩
  · exact .inr ⟨id, fl, rfl, hk, ho.at_ (by rw [List.getElem?_append_right (by omega), List.getElem?_append_right (by rw [roM_len]; omega), roM_len])⟩
theorem bestOfSets_rc (m : Mem) (fv : Value) (n : Nat) (g : List Int → Option Int) (hn : n ≤ 8) (hf : CostF m fv n g) (hg : ∀ c x, c < 2 ^ n → g (bitsL c n) = some x → x < 9223372036854775807) :
    RC Try.prog 57 [.int .i64 (n : Int), fv] m (AnsBest (bestO g n (2 ^ n) = none) m (bestV (bestO g n (2 ^ n))).1 (bestV (bestO g n (2 ^ n))).2) := by
  refine rc_of_run mixed ok_impl_bestOfSets (by simp) (go_start _ _ _ ?_)
  obtain ⟨f, cap, rfl, hC⟩ := hf
  have hX := ((Ext.refl m).one 70 [.int .i64 0, .slice none 0 0]).one 70 [.int .i64 9223372036854775807, .slice none 0 0]
  obtain ⟨M0, hM0⟩ : ∃ M0, M0 = roM m ++ [⟨.own, 70, [.int .i64 0, .slice none 0 0]⟩] ++ [⟨.own, 70, [.int .i64 9223372036854775807, .slice none 0 0]⟩] := ⟨_, rfl⟩
  have o1 : OwnB M0 m.length 70 [.int .i64 0, .slice none 0 0] := by rw [hM0]; exact (OwnB.here (by simp [roM_len])).ext _
  have o2 : OwnB M0 (m.length + 1) 70 [.int .i64 9223372036854775807, .slice none 0 0] := by rw [hM0]; exact OwnB.here (by simp [roM_len])
  have h28 : 2 ^ n ≤ 2 ^ 8 := Nat.pow_le_pow_right (by omega) hn
  have h1 : 1 ≤ 2 ^ n := Nat.one_le_two_pow
  obtain ⟨NN, hNN⟩ : ∃ NN, NN = 2 ^ n := ⟨_, rfl⟩
  rw [← hNN] at h28 h1 hC hg ⊢
  have KA := fun m' => allPeriods_rc m' n hn
  rw [← hNN] at KA
  have eN : ((NN - 1 : Nat) : Int) + 1 = (NN : Int) := by omega
  have wN : IntKind.u64.wrap (NN : Int) = (NN : Int) := wrapU _ ⟨by omega, by omega⟩
  simp (config := {implicitDefEqProofs := false, maxDischargeDepth := 20}) (disch := first | omega | (simp only [lenE]; done) | (simp only [lenE]; omega) | rfl | (simp only [lenE, markR_len]; done) | (simp only [lenE, markR_len]; omega)) only [runE, mapE, listE, initT_5, initT_6, initT_7, initT_8, resV, oneV, binA, unA, reduceCtorEq, Nat.reduceEqDiff, Nat.reduceAdd, Nat.reduceLT, Nat.reduceLeDiff, Nat.reduceMul, Nat.reduceSub, ↓reduceIte, decide_true, decide_false, Bool.true_eq_false, Bool.false_eq_true, Bool.not_true, Bool.not_false, if_true, if_false, and_true, true_and, memE, celE, w64, Nat.zero_add, Nat.add_zero, Nat.mul_one, putL, and_self, ldn, c_impl_bestOfSets, r_impl_bestOfSets, bldL, stP_aggL2]
  rw [← hM0] at hX ⊢
  refine callH_rc (KA _) ?_
  rintro r new ⟨rfl, rfl⟩
  rw [List.append_nil]
  simp (config := {implicitDefEqProofs := false, maxDischargeDepth := 20}) (disch := first | omega | (simp only [lenE]; done) | (simp only [lenE]; omega) | rfl | (simp only [lenE, markR_len]; done) | (simp only [lenE, markR_len]; omega)) only [runE, mapE, listE, initT_5, initT_6, initT_7, initT_8, resV, oneV, binA, unA, reduceCtorEq, Nat.reduceEqDiff, Nat.reduceAdd, Nat.reduceLT, Nat.reduceLeDiff, Nat.reduceMul, Nat.reduceSub, ↓reduceIte, decide_true, decide_false, Bool.true_eq_false, Bool.false_eq_true, Bool.not_true, Bool.not_false, if_true, if_false, and_true, true_and, memE, celE, w64, Nat.zero_add, Nat.add_zero, Nat.mul_one, putL, and_self, ldn, eN, wN]
  refine loop_inv mixed (fun s => ∃ (c : Nat) (M : Mem) (pv : Value), c ≤ NN ∧ s.m = M ∧ Ext m M ∧ OwnB M m.length 70 [.int .i64 0, .slice none 0 0] ∧ OwnB M (m.length + 1) 70 [.int .i64 (bestV (bestO g n c)).1, pv] ∧ ListV (bestO g n c = none) M (m.length + 1) pv (bestV (bestO g n c)).2 ∧
      s.t 1 = .func (.func f) #[] cap ∧ s.t 4 = .pointer (some ⟨m.length, 0, none⟩) ∧ s.t 5 = .pointer (some ⟨m.length + 1, 0, none⟩) ∧ s.t 14 = .int .u64 (NN : Int) ∧ s.t 15 = .int .u64 (c : Int)) (fun s => NN - (intOf (s.t 15)).toNat)
    ⟨0, M0, .slice none 0 0, by omega, (by first | rfl | simp only [put_t, put_t', put_m, putT_t, putT_t', putT_m, init_t, init_m, initT_0, initT_1, initT_2, initT_3, initT_4, initT_5, initT_6, initT_7, initT_8, Nat.reduceEqDiff, ↓reduceIte]), hX, o1, o2, .inl ⟨rfl, rfl, rfl⟩, rfl, rfl, rfl, rfl, rfl⟩ ?_
  clear hX o1 o2 hM0
  rintro s ⟨c, M, pv, hk, tm, hX, o1, o2, hL, t1, t4, t5, t14, t15⟩
  have bl := bestO_len g n c
  have hlm := o2.lt
  by_cases hlt : c < NN
  · have hlt' : (c : Int) < NN := by omega
    simp (config := {implicitDefEqProofs := false, maxDischargeDepth := 20}) (disch := first | omega | (simp only [lenE]; done) | (simp only [lenE]; omega) | rfl | (simp only [lenE, markR_len]; done) | (simp only [lenE, markR_len]; omega)) only [runE, mapE, listE, initT_5, initT_6, initT_7, initT_8, resV, oneV, binA, unA, reduceCtorEq, Nat.reduceEqDiff, Nat.reduceAdd, Nat.reduceLT, Nat.reduceLeDiff, Nat.reduceMul, Nat.reduceSub, ↓reduceIte, decide_true, decide_false, Bool.true_eq_false, Bool.false_eq_true, Bool.not_true, Bool.not_false, if_true, if_false, and_true, true_and, memE, celE, w64, Nat.zero_add, Nat.add_zero, Nat.mul_one, putL, and_self, ldn, tm, t1, t4, t5, t14, t15, hlt']
    refine callH_rc (setList_rc M n c hn (by omega)) ?_
    intro r n1 hA
    obtain ⟨pid, pf, rfl, pge, op, ple, nr1⟩ := hA.row
    have hb := bitsL_len c n
    obtain ⟨ps, hps⟩ : ∃ ps, ps = bitsL c n := ⟨_, rfl⟩
    rw [← hps] at op ple hb ⊢
    replace hX := hX.app nr1
    replace o1 := o1.ext n1
    replace o2 := o2.ext n1
    replace hL := hL.ext n1
    obtain ⟨M1, hM1⟩ : ∃ M1, M1 = M ++ n1 := ⟨_, rfl⟩
    rw [← hM1] at hX o1 o2 hL op ⊢
    have ip := op.ints (by omega) pf
    simp (config := {implicitDefEqProofs := false, maxDischargeDepth := 20}) (disch := first | omega | (simp only [lenE]; done) | (simp only [lenE]; omega) | rfl | (simp only [lenE, markR_len]; done) | (simp only [lenE, markR_len]; omega)) only [runE, mapE, listE, initT_5, initT_6, initT_7, initT_8, resV, oneV, binA, unA, reduceCtorEq, Nat.reduceEqDiff, Nat.reduceAdd, Nat.reduceLT, Nat.reduceLeDiff, Nat.reduceMul, Nat.reduceSub, ↓reduceIte, decide_true, decide_false, Bool.true_eq_false, Bool.false_eq_true, Bool.not_true, Bool.not_false, if_true, if_false, and_true, true_and, memE, celE, w64, Nat.zero_add, Nat.add_zero, Nat.mul_one, putL, and_self, ldn, t1]
    have KC := hC M1 (.slice (some ⟨pid, 0, none⟩) ps.length pf) c hX (by omega) (by rw [← hps]; exact ip)
    rw [← hps] at KC
    refine callH_rc KC ?_
    rintro r n2 ⟨rfl, nr2⟩
    replace hX := hX.app nr2
    replace o1 := o1.ext n2
    replace o2 := o2.ext n2
    replace hL := hL.ext n2
    replace op := op.ext n2
    obtain ⟨M2, hM2⟩ : ∃ M2, M2 = M1 ++ n2 := ⟨_, rfl⟩
    rw [← hM2] at hX o1 o2 hL op ⊢
    have wC : IntKind.u64.wrap ((c : Int) + 1) = (c : Int) + 1 := wrapU _ ⟨by omega, by omega⟩
    cases hgp : g ps with
    | none =>
      simp (config := {implicitDefEqProofs := false, maxDischargeDepth := 20}) (disch := first | omega | (simp only [lenE]; done) | (simp only [lenE]; omega) | rfl | (simp only [lenE, markR_len]; done) | (simp only [lenE, markR_len]; omega)) only [runE, mapE, listE, initT_5, initT_6, initT_7, initT_8, resV, oneV, binA, unA, reduceCtorEq, Nat.reduceEqDiff, Nat.reduceAdd, Nat.reduceLT, Nat.reduceLeDiff, Nat.reduceMul, Nat.reduceSub, ↓reduceIte, decide_true, decide_false, Bool.true_eq_false, Bool.false_eq_true, Bool.not_true, Bool.not_false, if_true, if_false, and_true, true_and, memE, celE, w64, Nat.zero_add, Nat.add_zero, Nat.mul_one, putL, and_self, ldn, ext_2_0, ext_2_1, bldL2, stP_aggL2, t1, t4, t5, t14, t15, goG_undef, Option.isSome_none, Option.getD_none, wC]
      refine ⟨⟨c + 1, _, pv, by omega, rfl, hX.one _ _, o1.ext _, ?_, ?_, by simp⟩, ?_⟩
      · rw [bestO_no (by rw [← hps]; exact hgp)]; exact o2.ext _
      · rw [bestO_no (by rw [← hps]; exact hgp)]; exact hL.ext _
      · simp [intOf]; omega
    | some x =>
      simp (config := {implicitDefEqProofs := false, maxDischargeDepth := 20}) (disch := first | omega | (simp only [lenE]; done) | (simp only [lenE]; omega) | rfl | (simp only [lenE, markR_len]; done) | (simp only [lenE, markR_len]; omega)) only [runE, mapE, listE, initT_5, initT_6, initT_7, initT_8, resV, oneV, binA, unA, reduceCtorEq, Nat.reduceEqDiff, Nat.reduceAdd, Nat.reduceLT, Nat.reduceLeDiff, Nat.reduceMul, Nat.reduceSub, ↓reduceIte, decide_true, decide_false, Bool.true_eq_false, Bool.false_eq_true, Bool.not_true, Bool.not_false, if_true, if_false, and_true, true_and, memE, celE, w64, Nat.zero_add, Nat.add_zero, Nat.mul_one, putL, and_self, ldn, ext_2_0, ext_2_1, bldL2, stP_aggL2, t1, t4, t5, t14, t15, Option.isSome_some, Option.getD_some, (o2.ext [⟨.own, 70, [.int .i64 x, .slice (some ⟨pid, 0, none⟩) ps.length pf]⟩]).rd, (o1.ext [⟨.own, 70, [.int .i64 x, .slice (some ⟨pid, 0, none⟩) ps.length pf]⟩]).rd]
      have hyes := bestO_yes (g := g) (n := n) (c := c) (x := x) (by rw [← hps]; exact hgp) (hg c x (by omega) (by rw [← hps]; exact hgp))
      rw [← hps] at hyes
      have ip2 := (op.ext [⟨.own, 70, [.int .i64 x, .slice (some ⟨pid, 0, none⟩) ps.length pf]⟩]).ints (by omega) pf
      have il2 := (hL.ext [⟨.own, 70, [.int .i64 x, .slice (some ⟨pid, 0, none⟩) ps.length pf]⟩]).ints (by omega)
      have ob : OwnB (M2 ++ [⟨.own, 70, [.int .i64 x, .slice (some ⟨pid, 0, none⟩) ps.length pf]⟩]) M2.length 70 [.int .i64 x, .slice (some ⟨pid, 0, none⟩) ps.length pf] := OwnB.here rfl
      have hXb := hX.one 70 [.int .i64 x, .slice (some ⟨pid, 0, none⟩) ps.length pf]
      have o1b := o1.ext [⟨.own, 70, [.int .i64 x, .slice (some ⟨pid, 0, none⟩) ps.length pf]⟩]
      have o2b := o2.ext [⟨.own, 70, [.int .i64 x, .slice (some ⟨pid, 0, none⟩) ps.length pf]⟩]
      have hLb := hL.ext [⟨.own, 70, [.int .i64 x, .slice (some ⟨pid, 0, none⟩) ps.length pf]⟩]
      have opb := op.ext [⟨.own, 70, [.int .i64 x, .slice (some ⟨pid, 0, none⟩) ps.length pf]⟩]
      have m2l : M.length ≤ M2.length := by rw [hM2, hM1]; simp; try omega
      obtain ⟨M3, hM3⟩ : ∃ M3, M3 = M2 ++ [⟨.own, 70, [.int .i64 x, .slice (some ⟨pid, 0, none⟩) ps.length pf]⟩] := ⟨_, rfl⟩
      rw [← hM3] at ip2 il2 ob hXb o1b o2b hLb opb ⊢
      obtain ⟨b, hb9⟩ : ∃ b, b = bestV (bestO g n c) := ⟨_, rfl⟩
      rw [← hb9] at hyes il2 o2b hLb bl ⊢
      obtain ⟨b1, b2⟩ := b
      have hsame : bef (x, ps) (b1, b2) = false → ∀ {p : Prop}, ListV p M3 (m.length + 1) pv b2 := fun hbf p => by
        rcases hLb with ⟨hp, e1, e2⟩ | h9
        · rw [hp] at hb9
          have : (b1, b2) = (9223372036854775807, ([] : List Int)) := hb9
          injection this with i1 i2
          have hx9 := hg c x (by omega) (by rw [← hps]; exact hgp)
          unfold bef at hbf
          simp only [i1] at hbf
          rw [if_neg (by omega)] at hbf
          simp only [decide_eq_false_iff_not] at hbf
          exact absurd hx9 hbf
        · exact .inr h9
      refine callH_rc (comesBefore_rc M3 x b1 _ pv ps b2 ip2 il2) ?_
      rintro r n4 ⟨rfl, nr4⟩
      cases hbf : bef (x, ps) (b1, b2) with
      | true =>
        have st := (o2b.ext n4).st (off := 0) (vs := [.int .i64 x, .slice (some ⟨pid, 0, none⟩) ps.length pf]) (by simp) rfl
        simp (config := {implicitDefEqProofs := false, maxDischargeDepth := 20}) (disch := first | omega | (simp only [lenE]; done) | (simp only [lenE]; omega) | rfl | (simp only [lenE, markR_len]; done) | (simp only [lenE, markR_len]; omega)) only [runE, mapE, listE, initT_5, initT_6, initT_7, initT_8, resV, oneV, binA, unA, reduceCtorEq, Nat.reduceEqDiff, Nat.reduceAdd, Nat.reduceLT, Nat.reduceLeDiff, Nat.reduceMul, Nat.reduceSub, ↓reduceIte, decide_true, decide_false, Bool.true_eq_false, Bool.false_eq_true, Bool.not_true, Bool.not_false, if_true, if_false, and_true, true_and, memE, celE, w64, Nat.zero_add, Nat.add_zero, Nat.mul_one, putL, and_self, ldn, t1, t4, t5, t14, t15, (ob.ext n4).rd, stP_aggL2, st, wC]
        rw [hbf, if_pos rfl] at hyes
        refine ⟨⟨c + 1, _, .slice (some ⟨pid, 0, none⟩) ps.length pf, by omega, rfl, (hXb.app nr4).put (by omega) _ _, (o1b.ext n4).set_ne (by omega) _, ?_, ?_, by simp⟩, ?_⟩
        · rw [hyes]; exact (o2b.ext n4).set_self _ _
        · rw [hyes]; exact .inr ⟨pid, pf, rfl, by omega, (opb.ext n4).set_ne (by omega)⟩
        · simp [intOf]; omega
      | false =>
        simp (config := {implicitDefEqProofs := false, maxDischargeDepth := 20}) (disch := first | omega | (simp only [lenE]; done) | (simp only [lenE]; omega) | rfl | (simp only [lenE, markR_len]; done) | (simp only [lenE, markR_len]; omega)) only [runE, mapE, listE, initT_5, initT_6, initT_7, initT_8, resV, oneV, binA, unA, reduceCtorEq, Nat.reduceEqDiff, Nat.reduceAdd, Nat.reduceLT, Nat.reduceLeDiff, Nat.reduceMul, Nat.reduceSub, ↓reduceIte, decide_true, decide_false, Bool.true_eq_false, Bool.false_eq_true, Bool.not_true, Bool.not_false, if_true, if_false, and_true, true_and, memE, celE, w64, Nat.zero_add, Nat.add_zero, Nat.mul_one, putL, and_self, ldn, t1, t4, t5, t14, t15, wC]
        rw [hbf, if_neg (by simp)] at hyes
        refine ⟨⟨c + 1, _, pv, by omega, rfl, hXb.app nr4, o1b.ext n4, ?_, ?_, by simp⟩, ?_⟩
        · rw [hyes]; exact o2b.ext n4
        · rw [hyes]; exact (hsame hbf).ext n4
        · simp [intOf]; omega
  · have hlt' : ¬ ((c : Int) < NN) := by omega
    have e : c = NN := by omega
    subst e
    have st := o1.st (off := 0) (vs := [.int .i64 (bestV (bestO g n c)).1, pv]) (by simp) (by rw [show onesB [.int .i64 (bestV (bestO g n c)).1, pv] = onesB [pv] from rfl, hL.one]; rfl)
    have se := o1.set_self 70 [.int .i64 (bestV (bestO g n c)).1, pv]
    simp (config := {implicitDefEqProofs := false, maxDischargeDepth := 20}) (disch := first | omega | (simp only [lenE]; done) | (simp only [lenE]; omega) | rfl | (simp only [lenE, markR_len]; done) | (simp only [lenE, markR_len]; omega)) only [runE, mapE, listE, initT_5, initT_6, initT_7, initT_8, resV, oneV, binA, unA, reduceCtorEq, Nat.reduceEqDiff, Nat.reduceAdd, Nat.reduceLT, Nat.reduceLeDiff, Nat.reduceMul, Nat.reduceSub, ↓reduceIte, decide_true, decide_false, Bool.true_eq_false, Bool.false_eq_true, Bool.not_true, Bool.not_false, if_true, if_false, and_true, true_and, memE, celE, w64, Nat.zero_add, Nat.add_zero, Nat.mul_one, putL, and_self, ldn, tm, t1, t4, t5, t14, t15, hlt', o2.rd, stP_aggL2, st, se.rd]
    refine ext_best (hX.put (by omega) _ _) ?_
    rcases hL.set (i := m.length) (by omega) ⟨.own, 70, [.int .i64 (bestV (bestO g n c)).1, pv]⟩ with h0 | ⟨id, fl, e1, e2, e3⟩
    · exact .inl h0
    · exact .inr ⟨id, fl, e1, by omega, e3⟩
end Go.Proofs.Ytdgfbmilbhckiaa.Ab
end
section
namespace Go.Proofs.Ytdgfbmilbhckiaa.Ab
open Go Go.RowKit
set_option linter.unusedVariables false
set_option linter.unusedSimpArgs false
theorem bestO_some {g : List Int → Option Int} {n c : Nat} (h : (g (bitsL c n)).isSome = true) : ∀ d, (bestO g n (c + 1 + d)).isSome = true := by
  intro d
  induction d with
  | zero =>
    obtain ⟨x, hx⟩ := Option.isSome_iff_exists.1 h
    simp only [Nat.add_zero, bestO, hx]
    cases bestO g n c with
    | none => rfl
    | some b => simp only; split <;> rfl
  | succ d ih =>
    rw [← Nat.add_assoc, bestO]
    cases hg : g (bitsL (c + 1 + d) n) with
    | none => exact ih
    | some x =>
      simp only
      cases bestO g n (c + 1 + d) with
      | none => rfl
      | some b => simp only; split <;> rfl
theorem bits_full {n : Nat} : ∀ j, j ≤ n → (bitsL (2 ^ n - 1) j).length = j ∧ ∀ i, i < j → (bitsL (2 ^ n - 1) j).getD i 0 = (i : Int) := by
  intro j
  induction j with
  | zero => intro _; exact ⟨rfl, fun i hi => absurd hi (by omega)⟩
  | succ j ih =>
    intro hj
    obtain ⟨h1, h2⟩ := ih (by omega)
    have hb : (2 ^ n - 1) / 2 ^ j % 2 = 1 := by
      have := Nat.testBit_two_pow_sub_one n j
      rw [Nat.testBit_eq_decide_div_mod_eq] at this
      have hd : decide (j < n) = true := decide_eq_true (by omega)
      rw [hd] at this
      exact of_decide_eq_true this
    rw [bitsL, if_pos hb]
    refine ⟨by rw [List.length_append, h1]; rfl, fun i hi => ?_⟩
    by_cases e : i < j
    · rw [getD_app_l _ _ (by omega)]; exact h2 i e
    · have : i = j := by omega
      subst this
      have := getD_app_one (bitsL (2 ^ n - 1) i) (i : Int)
      rw [h1] at this
      exact this
theorem frTo_some {k : Cs} {life : Int} {ps : List Int} {t i : Nat} (h : freshB life (ps.getD i 0) t = true) : ∀ d, (frTo k life ps t (i + 1 + d)).isSome = true := by
  intro d
  induction d with
  | zero => rw [Nat.add_zero, frTo_yes h]; rfl
  | succ d ih =>
    rw [← Nat.add_assoc]
    cases hf : freshB life (ps.getD (i + 1 + d) 0) t with
    | false => rw [frTo_no hf]; exact ih
    | true => rw [frTo_yes hf]; rfl
theorem fresh_full {k : Cs} {life : Int} (hl : 1 ≤ life) : (freshC k life (bitsL (2 ^ k.need.length - 1) k.need.length)).isSome = true := by
  obtain ⟨h1, h2⟩ := bits_full (n := k.need.length) k.need.length (Nat.le_refl _)
  have hr : ∀ t, t < k.need.length → (frate k life (bitsL (2 ^ k.need.length - 1) k.need.length) t).isSome = true := fun t ht => by
    have hf : freshB life ((bitsL (2 ^ k.need.length - 1) k.need.length).getD t 0) t = true := by
      rw [h2 t ht]
      unfold freshB
      rw [decide_eq_true (by omega), decide_eq_true (by omega)]; rfl
    have := frTo_some (k := k) hf (k.need.length - (t + 1))
    rw [show t + 1 + (k.need.length - (t + 1)) = k.need.length by omega] at this
    unfold frate
    rw [h1]
    exact this
  have hk : ∀ t, t ≤ k.need.length → fcOk k life (bitsL (2 ^ k.need.length - 1) k.need.length) t = true := by
    intro t
    induction t with
    | zero => intro _; rfl
    | succ t ih =>
      intro ht
      rw [fcOk, ih (by omega), hr t (by omega)]
      simp
  unfold freshC
  rw [hk _ (Nat.le_refl _), if_pos rfl]
  rfl
def bfO (k : Cs) (life : Int) (c : Nat) : Option (Int × List Int) := bestO (freshC k life) k.need.length c
def bfV (k : Cs) (life : Int) : Int × List Int := bestV (bfO k life (2 ^ k.need.length))
theorem bfO_some {k : Cs} {life : Int} (hl : 1 ≤ life) : bfO k life (2 ^ k.need.length) = some (bfV k life) := by
  have h1 : 1 ≤ 2 ^ k.need.length := Nat.one_le_two_pow
  have := bestO_some (fresh_full (k := k) hl) 0
  rw [show 2 ^ k.need.length - 1 + 1 + 0 = 2 ^ k.need.length by omega] at this
  obtain ⟨q, hq⟩ := Option.isSome_iff_exists.1 this
  unfold bfV bfO
  rw [hq]; rfl
theorem freshC_bd {k : Cs} (hg : Good k) {life : Int} {ps : List Int} (hr : Rising ps k.need.length) {x : Int} (h : freshC k life ps = some x) : 0 ≤ x ∧ x ≤ 20000 := by
  have b1 := setS_bd hg ps ps.length
  have b2 := fcTo_bd hg (life := life) hr k.need.length (Nat.le_refl _)
  have := hg.n8
  have := hr.len
  unfold freshC at h
  split at h
  · injection h with h; omega
  · cases h
theorem bfO_bd {k : Cs} (hg : Good k) {life : Int} : ∀ c q, bfO k life c = some q → (0 ≤ q.1 ∧ q.1 ≤ 20000) ∧ q.2.length ≤ k.need.length := by
  intro c
  induction c with
  | zero => intro q h; cases h
  | succ c ih =>
    intro q h
    unfold bfO at h ih
    rw [bestO] at h
    have hr := bitsL_rising c k.need.length
    have hl := bitsL_len c k.need.length
    cases hf : freshC k life (bitsL c k.need.length) with
    | none => rw [hf] at h; exact ih q h
    | some x =>
      rw [hf] at h
      have xb := freshC_bd hg hr hf
      cases hb : bestO (freshC k life) k.need.length c with
      | none => rw [hb] at h; injection h with h; rw [← h]; exact ⟨xb, hl⟩
      | some b =>
        rw [hb] at h
        simp only at h
        split at h
        · injection h with h; rw [← h]; exact ⟨xb, hl⟩
        · exact ih q (by rw [← h, hb])
def bS (b : Option (Int × List Int)) : List Int × Int := match b with
  | none => ([], -1)
  | some q => (q.2, q.1)
theorem bS_no {k : Cs} {life : Int} {c : Nat} (h : freshC k life (bitsL c k.need.length) = none) : bS (bfO k life (c + 1)) = bS (bfO k life c) := by
  unfold bfO; rw [bestO, h]
theorem bfO_none {k : Cs} {life : Int} {c : Nat} {x : Int} (h : freshC k life (bitsL c k.need.length) = some x) (hb : bfO k life c = none) : bfO k life (c + 1) = some (x, bitsL c k.need.length) := by
  unfold bfO at hb ⊢
  simp only [bestO, h, hb]
theorem bfO_yes {k : Cs} {life : Int} {c : Nat} {x : Int} {b : Int × List Int} (h : freshC k life (bitsL c k.need.length) = some x) (hb : bfO k life c = some b) (hq : bef (x, bitsL c k.need.length) b = true) : bfO k life (c + 1) = some (x, bitsL c k.need.length) := by
  unfold bfO at hb ⊢
  simp only [bestO, h, hb, hq, if_true]
theorem bfO_stay {k : Cs} {life : Int} {c : Nat} {x : Int} {b : Int × List Int} (h : freshC k life (bitsL c k.need.length) = some x) (hb : bfO k life c = some b) (hq : bef (x, bitsL c k.need.length) b = false) : bfO k life (c + 1) = some b := by
  unfold bfO at hb ⊢
  simp only [bestO, h, hb, hq]
  rfl
theorem bef_iff (x b1 : Int) (l b2 : List Int) : bef (x, l) (b1, b2) = true ↔ (x < b1 ∨ (x = b1 ∧ beforeB l b2 = true)) := by
  unfold bef
  by_cases h : x = b1
  · simp only [h, if_true]
    constructor
    · intro h2; exact .inr ⟨trivial, h2⟩
    · rintro (h2 | h2)
      · exact absurd h2 (Int.lt_irrefl _)
      · exact h2.2
  · simp only [h, if_false, decide_eq_true_eq, false_and, or_false]
theorem bS_up {k : Cs} {life : Int} {c : Nat} {x b2 : Int} {b1 : List Int} (h : freshC k life (bitsL c k.need.length) = some x) (hb : (b1, b2) = bS (bfO k life c)) (hh : b2 < 0 ∨ x < b2 ∨ (x = b2 ∧ beforeB (bitsL c k.need.length) b1 = true)) (h0 : ∀ q, bfO k life c = some q → 0 ≤ q.1) : bS (bfO k life (c + 1)) = (bitsL c k.need.length, x) := by
  cases hq : bfO k life c with
  | none => rw [bfO_none h hq]; rfl
  | some q =>
    rw [hq] at hb
    have e : (b1, b2) = (q.2, q.1) := hb
    injection e with e1 e2
    have := h0 q hq
    rcases hh with hh | hh
    · omega
    · rw [bfO_yes h hq ((bef_iff x q.1 _ q.2).2 (by rw [← e1, ← e2]; exact hh))]; rfl
theorem bS_keep {k : Cs} {life : Int} {c : Nat} {x b2 : Int} {b1 : List Int} (h : freshC k life (bitsL c k.need.length) = some x) (hb : (b1, b2) = bS (bfO k life c)) (hh : ¬ (b2 < 0 ∨ x < b2 ∨ (x = b2 ∧ beforeB (bitsL c k.need.length) b1 = true))) : bS (bfO k life (c + 1)) = (b1, b2) := by
  cases hq : bfO k life c with
  | none =>
    rw [hq] at hb
    have e : (b1, b2) = (([] : List Int), (-1 : Int)) := hb
    injection e with e1 e2
    exact absurd (.inl (by omega)) hh
  | some q =>
    rw [hq] at hb
    have e : (b1, b2) = (q.2, q.1) := hb
    injection e with e1 e2
    have hf : bef (x, bitsL c k.need.length) q = false := by
      cases hz : bef (x, bitsL c k.need.length) q with
      | false => rfl
      | true =>
        have := (bef_iff x q.1 _ q.2).1 hz
        rw [← e1, ← e2] at this
        exact absurd (.inr this) hh
    rw [bfO_stay h hq hf, hb]
theorem l9Best_rc (m : Mem) (v : Value) (k : Cs) (life : Int) (h : CaseA m v k) (hg : Good k) (hl : 1 ≤ life ∧ life ≤ 8) :
    RC Try.prog 82 [v, .int .i64 life] m (AnsO m (IntsO (bfV k life).2) fun v => .tuple #[v, .int .i64 (bfV k life).1]) := by
  refine rc_of_run mixed ok_spec_l9Best (by simp) (go_start _ _ _ ?_)
  obtain ⟨v1, v2, v3, v4, rfl, h1, h2, h3, h4⟩ := h.ro.ok
  have h8 := hg.n8
  have hX := ((Ext.refl m).one 52 [v1, v2, v3, v4]).one 3 []
  simp (config := {implicitDefEqProofs := false, maxDischargeDepth := 20}) (disch := first | omega | (simp only [lenE]; done) | (simp only [lenE]; omega) | rfl | (simp only [lenE, markR_len]; done) | (simp only [lenE, markR_len]; omega)) only [runE, mapE, listE, initT_5, initT_6, initT_7, initT_8, resV, oneV, binA, unA, reduceCtorEq, Nat.reduceEqDiff, Nat.reduceAdd, Nat.reduceLT, Nat.reduceLeDiff, Nat.reduceMul, Nat.reduceSub, ↓reduceIte, decide_true, decide_false, Bool.true_eq_false, Bool.false_eq_true, Bool.not_true, Bool.not_false, if_true, if_false, and_true, true_and, memE, celE, w64, Nat.zero_add, Nat.add_zero, Nat.mul_one, putL, and_self, ldn, c_spec_l9Best, r_spec_l9Best, bsl_no]
  obtain ⟨M0, hM0⟩ : ∃ M0, M0 = roM m ++ [⟨.own, 52, [v1, v2, v3, v4]⟩] ++ [⟨.own, 3, []⟩] := ⟨_, rfl⟩
  have o1 : OwnB M0 m.length 52 [v1, v2, v3, v4] := by rw [hM0]; exact (OwnB.here (by simp [roM_len])).ext _
  have r1 : OwnR M0 (m.length + 1) [] := by rw [hM0]; exact OwnR.end' (l := []) (by simp [roM_len])
  rw [← hM0] at hX ⊢
  have hc : ∀ M, Ext m M → CaseA M (.agg #[v1, v2, v3, v4]) k := fun M hX => ⟨_, _, _, _, rfl, hX.ints h1, hX.ints h2, hX.ints h3, hX.ints h4⟩
  have sh := shl1 h8
  have h28 : 2 ^ k.need.length ≤ 2 ^ 8 := Nat.pow_le_pow_right (by omega) h8
  have h01 : 1 ≤ 2 ^ k.need.length := Nat.one_le_two_pow
  have hn0 : ¬ ((k.need.length : Int) < 0) := by omega
  have hV := bfO_some (k := k) hl.1
  obtain ⟨NN, hNN⟩ : ∃ NN, NN = 2 ^ k.need.length := ⟨_, rfl⟩
  rw [← hNN] at h28 h01 sh hV
  refine loop_inv mixed (fun s => ∃ (c : Nat) (M : Mem) (id fl : Nat), c ≤ NN ∧ s.m = M ∧ Ext m M ∧ OwnB M m.length 52 [v1, v2, v3, v4] ∧ m.length < id ∧ OwnR M id (bS (bfO k life c)).1 ∧ s.t 1 = .int .i64 life ∧ s.t 2 = .pointer (some ⟨m.length, 0, none⟩) ∧ s.t 6 = .slice (some ⟨id, 0, none⟩) (bS (bfO k life c)).1.length fl ∧ s.t 7 = .int .i64 (bS (bfO k life c)).2 ∧ s.t 8 = .int .i64 (c : Int)) (fun s => NN - (intOf (s.t 8)).toNat)
    ⟨0, M0, m.length + 1, 1, by omega, (by first | rfl | simp only [put_t, put_t', put_m, putT_t, putT_t', putT_m, init_t, init_m, initT_0, initT_1, initT_2, initT_3, initT_4, initT_5, initT_6, initT_7, initT_8, Nat.reduceEqDiff, ↓reduceIte]), hX, o1, by omega, r1, rfl, rfl, rfl, rfl, rfl⟩ ?_
  clear hX o1 hM0 r1
  rintro s ⟨c, M, id, fl, hk, tm, hX, o1, hid, r1, t1, t2, t6, t7, t8⟩
  have nb := hX.ints h1
  have ml := o1.lt
  have bl : (bS (bfO k life c)).1.length ≤ k.need.length := by
    cases hq : bfO k life c with
    | none => simp [bS]
    | some q => exact (bfO_bd hg c q hq).2
  by_cases hlt : c < NN
  · have hlt' : (c : Int) < NN := by omega
    simp (config := {implicitDefEqProofs := false, maxDischargeDepth := 20}) (disch := first | omega | (simp only [lenE]; done) | (simp only [lenE]; omega) | rfl | (simp only [lenE, markR_len]; done) | (simp only [lenE, markR_len]; omega)) only [runE, mapE, listE, initT_5, initT_6, initT_7, initT_8, resV, oneV, binA, unA, reduceCtorEq, Nat.reduceEqDiff, Nat.reduceAdd, Nat.reduceLT, Nat.reduceLeDiff, Nat.reduceMul, Nat.reduceSub, ↓reduceIte, decide_true, decide_false, Bool.true_eq_false, Bool.false_eq_true, Bool.not_true, Bool.not_false, if_true, if_false, and_true, true_and, memE, celE, w64, Nat.zero_add, Nat.add_zero, Nat.mul_one, putL, and_self, ldn, tm, t1, t2, t6, t7, t8, o1.rd, nb.len, hn0, sh, hlt']
    refine callH_rc (l2Bits_rc M k.need.length c h8 (by omega)) ?_
    intro r n1 hA
    obtain ⟨pid, pf, rfl, pge, op, ple, nr1⟩ := hA.row
    have hrp := bitsL_rising c k.need.length
    have hup := fun x b1 b2 h hb hh => bS_up (k := k) (life := life) (c := c) (x := x) (b1 := b1) (b2 := b2) h hb hh (fun q hq => (bfO_bd hg c q hq).1.1)
    have hkeep := fun x b1 b2 => bS_keep (k := k) (life := life) (c := c) (x := x) (b1 := b1) (b2 := b2)
    have hno := bS_no (k := k) (life := life) (c := c)
    obtain ⟨ps, hps⟩ : ∃ ps, ps = bitsL c k.need.length := ⟨_, rfl⟩
    rw [← hps] at op ple hrp hup hkeep hno ⊢
    replace hX := hX.app nr1
    replace o1 := o1.ext n1
    replace r1 := r1.ext n1
    obtain ⟨M1, hM1⟩ : ∃ M1, M1 = M ++ n1 := ⟨_, rfl⟩
    rw [← hM1] at hX o1 r1 op ⊢
    have ip := op.ints (by omega) pf
    simp (config := {implicitDefEqProofs := false, maxDischargeDepth := 20}) (disch := first | omega | (simp only [lenE]; done) | (simp only [lenE]; omega) | rfl | (simp only [lenE, markR_len]; done) | (simp only [lenE, markR_len]; omega)) only [runE, mapE, listE, initT_5, initT_6, initT_7, initT_8, resV, oneV, binA, unA, reduceCtorEq, Nat.reduceEqDiff, Nat.reduceAdd, Nat.reduceLT, Nat.reduceLeDiff, Nat.reduceMul, Nat.reduceSub, ↓reduceIte, decide_true, decide_false, Bool.true_eq_false, Bool.false_eq_true, Bool.not_true, Bool.not_false, if_true, if_false, and_true, true_and, memE, celE, w64, Nat.zero_add, Nat.add_zero, Nat.mul_one, putL, and_self, ldn, t1, t2, t6, t7, t8, o1.rd]
    refine callH_rc (l9Fresh_rc M1 _ _ k life ps (hc _ hX) ip hg hrp hl) ?_
    rintro r n2 ⟨rfl, nr2⟩
    replace hX := hX.app nr2
    replace o1 := o1.ext n2
    replace r1 := r1.ext n2
    replace op := op.ext n2
    obtain ⟨M2, hM2⟩ : ∃ M2, M2 = M1 ++ n2 := ⟨_, rfl⟩
    rw [← hM2] at hX o1 r1 op ⊢
    obtain ⟨b, hb⟩ : ∃ b, b = bS (bfO k life c) := ⟨_, rfl⟩
    rw [← hb] at hno bl r1 t6 t7
    obtain ⟨b1, b2⟩ := b
    simp only at hno bl r1 t6 t7
    cases hf : freshC k life ps with
    | none =>
      have e := hno hf
      simp (config := {implicitDefEqProofs := false, maxDischargeDepth := 20}) (disch := first | omega | (simp only [lenE]; done) | (simp only [lenE]; omega) | rfl | (simp only [lenE, markR_len]; done) | (simp only [lenE, markR_len]; omega)) only [runE, mapE, listE, initT_5, initT_6, initT_7, initT_8, resV, oneV, binA, unA, reduceCtorEq, Nat.reduceEqDiff, Nat.reduceAdd, Nat.reduceLT, Nat.reduceLeDiff, Nat.reduceMul, Nat.reduceSub, ↓reduceIte, decide_true, decide_false, Bool.true_eq_false, Bool.false_eq_true, Bool.not_true, Bool.not_false, if_true, if_false, and_true, true_and, memE, celE, w64, Nat.zero_add, Nat.add_zero, Nat.mul_one, putL, and_self, ldn, t1, t2, t6, t7, t8, Option.getD_none, ge_iff_le, show ((0 : Int) ≤ -1) = False by simp, goG_undef]
      refine ⟨⟨c + 1, M2, id, fl, by omega, rfl, hX, o1, hid, by rw [e]; exact r1, by rw [e], by rw [e], by simp⟩, ?_⟩
      simp [intOf]; omega
    | some x =>
      have xb := freshC_bd hg hrp hf
      have x0 : 0 ≤ x := xb.1
      have up : (b2 < 0 ∨ x < b2 ∨ (x = b2 ∧ beforeB ps b1 = true)) → bS (bfO k life (c + 1)) = (ps, x) := fun hh => hup x b1 b2 hf hb hh
      have stay : ¬ (b2 < 0 ∨ x < b2 ∨ (x = b2 ∧ beforeB ps b1 = true)) → bS (bfO k life (c + 1)) = (b1, b2) := fun hh => hkeep x b1 b2 hf hb hh
      have pidl : m.length < pid := by omega
      by_cases d1 : b2 < 0
      · have e := up (.inl d1)
        simp (config := {implicitDefEqProofs := false, maxDischargeDepth := 20}) (disch := first | omega | (simp only [lenE]; done) | (simp only [lenE]; omega) | rfl | (simp only [lenE, markR_len]; done) | (simp only [lenE, markR_len]; omega)) only [runE, mapE, listE, initT_5, initT_6, initT_7, initT_8, resV, oneV, binA, unA, reduceCtorEq, Nat.reduceEqDiff, Nat.reduceAdd, Nat.reduceLT, Nat.reduceLeDiff, Nat.reduceMul, Nat.reduceSub, ↓reduceIte, decide_true, decide_false, Bool.true_eq_false, Bool.false_eq_true, Bool.not_true, Bool.not_false, if_true, if_false, and_true, true_and, memE, celE, w64, Nat.zero_add, Nat.add_zero, Nat.mul_one, putL, and_self, ldn, t1, t2, t6, t7, t8, Option.getD_some, ge_iff_le, x0, d1, goG_undef]
        refine ⟨⟨c + 1, M2, pid, pf, by omega, rfl, hX, o1, pidl, by rw [e]; exact op, by rw [e], by rw [e], by simp⟩, ?_⟩
        simp [intOf]; omega
      · by_cases d2 : x < b2
        · have e := up (.inr (.inl d2))
          simp (config := {implicitDefEqProofs := false, maxDischargeDepth := 20}) (disch := first | omega | (simp only [lenE]; done) | (simp only [lenE]; omega) | rfl | (simp only [lenE, markR_len]; done) | (simp only [lenE, markR_len]; omega)) only [runE, mapE, listE, initT_5, initT_6, initT_7, initT_8, resV, oneV, binA, unA, reduceCtorEq, Nat.reduceEqDiff, Nat.reduceAdd, Nat.reduceLT, Nat.reduceLeDiff, Nat.reduceMul, Nat.reduceSub, ↓reduceIte, decide_true, decide_false, Bool.true_eq_false, Bool.false_eq_true, Bool.not_true, Bool.not_false, if_true, if_false, and_true, true_and, memE, celE, w64, Nat.zero_add, Nat.add_zero, Nat.mul_one, putL, and_self, ldn, t1, t2, t6, t7, t8, Option.getD_some, ge_iff_le, x0, d1, d2, goG_undef]
          refine ⟨⟨c + 1, M2, pid, pf, by omega, rfl, hX, o1, pidl, by rw [e]; exact op, by rw [e], by rw [e], by simp⟩, ?_⟩
          simp [intOf]; omega
        · by_cases d3 : x = b2
          · have d3' : (x == b2) = true := by rw [d3]; simp
            simp (config := {implicitDefEqProofs := false, maxDischargeDepth := 20}) (disch := first | omega | (simp only [lenE]; done) | (simp only [lenE]; omega) | rfl | (simp only [lenE, markR_len]; done) | (simp only [lenE, markR_len]; omega)) only [runE, mapE, listE, initT_5, initT_6, initT_7, initT_8, resV, oneV, binA, unA, reduceCtorEq, Nat.reduceEqDiff, Nat.reduceAdd, Nat.reduceLT, Nat.reduceLeDiff, Nat.reduceMul, Nat.reduceSub, ↓reduceIte, decide_true, decide_false, Bool.true_eq_false, Bool.false_eq_true, Bool.not_true, Bool.not_false, if_true, if_false, and_true, true_and, memE, celE, w64, Nat.zero_add, Nat.add_zero, Nat.mul_one, putL, and_self, ldn, t1, t2, t6, t7, t8, Option.getD_some, ge_iff_le, x0, d1, d2, d3', goG_undef]
            refine callH_rc (l2Before_rc M2 _ _ ps b1 (op.ints (by omega) pf) (r1.ints (by omega) fl)) ?_
            rintro r n3 ⟨rfl, nr3⟩
            cases hb9 : beforeB ps b1 with
            | true =>
              have e := up (.inr (.inr ⟨d3, hb9⟩))
              simp (config := {implicitDefEqProofs := false, maxDischargeDepth := 20}) (disch := first | omega | (simp only [lenE]; done) | (simp only [lenE]; omega) | rfl | (simp only [lenE, markR_len]; done) | (simp only [lenE, markR_len]; omega)) only [runE, mapE, listE, initT_5, initT_6, initT_7, initT_8, resV, oneV, binA, unA, reduceCtorEq, Nat.reduceEqDiff, Nat.reduceAdd, Nat.reduceLT, Nat.reduceLeDiff, Nat.reduceMul, Nat.reduceSub, ↓reduceIte, decide_true, decide_false, Bool.true_eq_false, Bool.false_eq_true, Bool.not_true, Bool.not_false, if_true, if_false, and_true, true_and, memE, celE, w64, Nat.zero_add, Nat.add_zero, Nat.mul_one, putL, and_self, ldn, t1, t2, t6, t7, t8]
              refine ⟨⟨c + 1, M2 ++ n3, pid, pf, by omega, rfl, hX.app nr3, o1.ext _, pidl, by rw [e]; exact op.ext _, by rw [e], by rw [e], by simp⟩, ?_⟩
              simp [intOf]; omega
            | false =>
              have e := stay (fun hh => by rcases hh with hh | hh | hh; exact d1 hh; exact d2 hh; rw [hb9] at hh; cases hh.2)
              simp (config := {implicitDefEqProofs := false, maxDischargeDepth := 20}) (disch := first | omega | (simp only [lenE]; done) | (simp only [lenE]; omega) | rfl | (simp only [lenE, markR_len]; done) | (simp only [lenE, markR_len]; omega)) only [runE, mapE, listE, initT_5, initT_6, initT_7, initT_8, resV, oneV, binA, unA, reduceCtorEq, Nat.reduceEqDiff, Nat.reduceAdd, Nat.reduceLT, Nat.reduceLeDiff, Nat.reduceMul, Nat.reduceSub, ↓reduceIte, decide_true, decide_false, Bool.true_eq_false, Bool.false_eq_true, Bool.not_true, Bool.not_false, if_true, if_false, and_true, true_and, memE, celE, w64, Nat.zero_add, Nat.add_zero, Nat.mul_one, putL, and_self, ldn, t1, t2, t6, t7, t8]
              refine ⟨⟨c + 1, M2 ++ n3, id, fl, by omega, rfl, hX.app nr3, o1.ext _, hid, by rw [e]; exact r1.ext _, by rw [e], by rw [e], by simp⟩, ?_⟩
              simp [intOf]; omega
          · have d3' : (x == b2) = false := by simpa using d3
            have e := stay (fun hh => by rcases hh with hh | hh | hh; exact d1 hh; exact d2 hh; exact d3 hh.1)
            simp (config := {implicitDefEqProofs := false, maxDischargeDepth := 20}) (disch := first | omega | (simp only [lenE]; done) | (simp only [lenE]; omega) | rfl | (simp only [lenE, markR_len]; done) | (simp only [lenE, markR_len]; omega)) only [runE, mapE, listE, initT_5, initT_6, initT_7, initT_8, resV, oneV, binA, unA, reduceCtorEq, Nat.reduceEqDiff, Nat.reduceAdd, Nat.reduceLT, Nat.reduceLeDiff, Nat.reduceMul, Nat.reduceSub, ↓reduceIte, decide_true, decide_false, Bool.true_eq_false, Bool.false_eq_true, Bool.not_true, Bool.not_false, if_true, if_false, and_true, true_and, memE, celE, w64, Nat.zero_add, Nat.add_zero, Nat.mul_one, putL, and_self, ldn, t1, t2, t6, t7, t8, Option.getD_some, ge_iff_le, x0, d1, d2, d3', goG_undef]
            refine ⟨⟨c + 1, M2, id, fl, by omega, rfl, hX, o1, hid, by rw [e]; exact r1, by rw [e], by rw [e], by simp⟩, ?_⟩
            simp [intOf]; omega
  · have hlt' : ¬ ((c : Int) < NN) := by omega
    have e : c = NN := by omega
    subst e
    rw [hV] at r1 t6 t7 bl
    simp only [bS] at r1 t6 t7 bl
    simp (config := {implicitDefEqProofs := false, maxDischargeDepth := 20}) (disch := first | omega | (simp only [lenE]; done) | (simp only [lenE]; omega) | rfl | (simp only [lenE, markR_len]; done) | (simp only [lenE, markR_len]; omega)) only [runE, mapE, listE, initT_5, initT_6, initT_7, initT_8, resV, oneV, binA, unA, reduceCtorEq, Nat.reduceEqDiff, Nat.reduceAdd, Nat.reduceLT, Nat.reduceLeDiff, Nat.reduceMul, Nat.reduceSub, ↓reduceIte, decide_true, decide_false, Bool.true_eq_false, Bool.false_eq_true, Bool.not_true, Bool.not_false, if_true, if_false, and_true, true_and, memE, celE, w64, Nat.zero_add, Nat.add_zero, Nat.mul_one, putL, and_self, ldn, tm, t1, t2, t6, t7, t8, o1.rd, nb.len, hn0, sh, hlt']
    refine ext_ansO (f := fun v => .tuple #[v, .int .i64 (bfV k life).1]) hX fun M' hM => ?_
    exact IntsA.ownO (r1.at_ (hM _ (by omega) r1.lt)) (by omega) (by omega) r1.lt
def bfA (k : Cs) (life : Int) : List Int := if lifeOk k life then (bfV k life).2 else []
def bfC (k : Cs) (life : Int) : Int := if lifeOk k life then (bfV k life).1 else 0
def AnsL3 (m : Mem) (l : List Int) (x : Int) (ok : Bool) (r : Value) (new : Mem) : Prop :=
  NoRo new ∧ l.length ≤ 1048576 ∧ ∃ i fl, r = .tuple #[.slice (some ⟨m.length + i, 0, none⟩) l.length fl, .int .i64 x, .bool ok] ∧ new[i]? = some (rowB l)
theorem AnsO.l3 {m : Mem} {l : List Int} {x : Int} {ok : Bool} {r : Value} {new : Mem} (h : AnsO m (IntsO l) (fun v => .tuple #[v, .int .i64 x, .bool ok]) r new) : AnsL3 m l x ok r new := by
  obtain ⟨hn, v, rfl, hv⟩ := h
  obtain ⟨hl, id, fl, rfl, h1, h2, ho⟩ := hv.now
  refine ⟨hn, hl, id - m.length, fl, by rw [show m.length + (id - m.length) = id by omega], ?_⟩
  have : (m ++ new)[id]? = some (rowB l) := ho
  rwa [List.getElem?_append_right h1] at this
theorem specBestFresh_o (m : Mem) (v : Value) (k : Cs) (life : Int) (h : CaseA m v k) :
    RC Try.prog 37 [v, .int .i64 life] m (AnsO m (IntsO (bfA k life)) fun v => .tuple #[v, .int .i64 (bfC k life), .bool (lifeOk k life)]) := by
  refine rc_of_run mixed ok_spec_BestFresh (by simp) (go_start _ _ _ ?_)
  obtain ⟨v1, v2, v3, v4, rfl, h1, h2, h3, h4⟩ := h.ro.ok
  have hX := (Ext.refl m).one 52 [v1, v2, v3, v4]
  simp (config := {implicitDefEqProofs := false, maxDischargeDepth := 20}) (disch := first | omega | (simp only [lenE]; done) | (simp only [lenE]; omega) | rfl | (simp only [lenE, markR_len]; done) | (simp only [lenE, markR_len]; omega)) only [runE, mapE, listE, initT_5, initT_6, initT_7, initT_8, resV, oneV, binA, unA, reduceCtorEq, Nat.reduceEqDiff, Nat.reduceAdd, Nat.reduceLT, Nat.reduceLeDiff, Nat.reduceMul, Nat.reduceSub, ↓reduceIte, decide_true, decide_false, Bool.true_eq_false, Bool.false_eq_true, Bool.not_true, Bool.not_false, if_true, if_false, and_true, true_and, memE, celE, w64, Nat.zero_add, Nat.add_zero, Nat.mul_one, putL, and_self, ldn, c_spec_BestFresh, r_spec_BestFresh]
  obtain ⟨M0, hM0⟩ : ∃ M0, M0 = roM m ++ [⟨.own, 52, [v1, v2, v3, v4]⟩] := ⟨_, rfl⟩
  have o1 : OwnB M0 m.length 52 [v1, v2, v3, v4] := by rw [hM0]; exact OwnB.here (by simp [roM_len])
  rw [← hM0] at hX ⊢
  have hc : ∀ M, Ext m M → CaseA M (.agg #[v1, v2, v3, v4]) k := fun M hX => ⟨_, _, _, _, rfl, hX.ints h1, hX.ints h2, hX.ints h3, hX.ints h4⟩
  refine callH_rc (l9Life_rc _ _ k life (hc _ hX)) ?_
  rintro r n1 ⟨rfl, nr1⟩
  replace hX := hX.app nr1
  replace o1 := o1.ext n1
  obtain ⟨M1, hM1⟩ : ∃ M1, M1 = M0 ++ n1 := ⟨_, rfl⟩
  rw [← hM1] at hX o1 ⊢
  unfold bfA bfC
  cases hl : lifeOk k life with
  | false =>
    simp (config := {implicitDefEqProofs := false, maxDischargeDepth := 20}) (disch := first | omega | (simp only [lenE]; done) | (simp only [lenE]; omega) | rfl | (simp only [lenE, markR_len]; done) | (simp only [lenE, markR_len]; omega)) only [runE, mapE, listE, initT_5, initT_6, initT_7, initT_8, resV, oneV, binA, unA, reduceCtorEq, Nat.reduceEqDiff, Nat.reduceAdd, Nat.reduceLT, Nat.reduceLeDiff, Nat.reduceMul, Nat.reduceSub, ↓reduceIte, decide_true, decide_false, Bool.true_eq_false, Bool.false_eq_true, Bool.not_true, Bool.not_false, if_true, if_false, and_true, true_and, memE, celE, w64, Nat.zero_add, Nat.add_zero, Nat.mul_one, putL, and_self, ldn, bsl_no]
    exact ext_noInts (f := fun v => .tuple #[v, .int .i64 0, .bool false]) hX rfl
  | true =>
    obtain ⟨gd, hlife⟩ := lifeOk_iff.1 hl
    simp (config := {implicitDefEqProofs := false, maxDischargeDepth := 20}) (disch := first | omega | (simp only [lenE]; done) | (simp only [lenE]; omega) | rfl | (simp only [lenE, markR_len]; done) | (simp only [lenE, markR_len]; omega)) only [runE, mapE, listE, initT_5, initT_6, initT_7, initT_8, resV, oneV, binA, unA, reduceCtorEq, Nat.reduceEqDiff, Nat.reduceAdd, Nat.reduceLT, Nat.reduceLeDiff, Nat.reduceMul, Nat.reduceSub, ↓reduceIte, decide_true, decide_false, Bool.true_eq_false, Bool.false_eq_true, Bool.not_true, Bool.not_false, if_true, if_false, and_true, true_and, memE, celE, w64, Nat.zero_add, Nat.add_zero, Nat.mul_one, putL, and_self, ldn, o1.rd]
    refine callH_rc (l9Best_rc M1 _ k life (hc _ hX) gd hlife) ?_
    rintro r n2 ⟨nr2, w, rfl, hw⟩
    simp (config := {implicitDefEqProofs := false, maxDischargeDepth := 20}) (disch := first | omega | (simp only [lenE]; done) | (simp only [lenE]; omega) | rfl | (simp only [lenE, markR_len]; done) | (simp only [lenE, markR_len]; omega)) only [runE, mapE, listE, initT_5, initT_6, initT_7, initT_8, resV, oneV, binA, unA, reduceCtorEq, Nat.reduceEqDiff, Nat.reduceAdd, Nat.reduceLT, Nat.reduceLeDiff, Nat.reduceMul, Nat.reduceSub, ↓reduceIte, decide_true, decide_false, Bool.true_eq_false, Bool.false_eq_true, Bool.not_true, Bool.not_false, if_true, if_false, and_true, true_and, memE, celE, w64, Nat.zero_add, Nat.add_zero, Nat.mul_one, putL, and_self, ldn, ext_2_0, ext_2_1]
    exact Ext.pass (f := fun v => .tuple #[v, .int .i64 (bfV k life).1, .bool true]) hX nr2 (IntsO.wide _) hw
theorem bestFresh1_cost (m : Mem) (id id2 : Nat) (v1 v2 v3 v4 : Value) (k : Cs) (life : Int) (hg : Good k) (hl : 1 ≤ life ∧ life ≤ 8) (hid : rdc m id 0 = some v1 ∧ rdc m id 1 = some v2 ∧ rdc m id 2 = some v3 ∧ rdc m id 3 = some v4) (hid2 : rdc m id2 0 = some (.int .i64 life)) (hk : CaseA m (.agg #[v1, v2, v3, v4]) k) :
    CostF m (.func (.func 79) #[] #[.pointer (some ⟨id, 0, none⟩), .pointer (some ⟨id2, 0, none⟩)]) k.need.length (freshC k life) := by
  refine ⟨_, _, rfl, fun M u c hM hc hu => ?_⟩
  refine rc_of_run mixed ok_impl_BestFresh_1 (by simp) (go_start _ _ _ ?_)
  obtain ⟨q0, q1, q2, q3⟩ := hid
  have rr : ∀ id k v, rdc m id k = some v → rdc (roM M) id k = some v := fun id k v h => by
    rw [rdc_roM]
    exact hM.rd h
  have hkM : CaseA (roM M) (.agg #[v1, v2, v3, v4]) k := by
    obtain ⟨a1, a2, a3, a4, e, h1, h2, h3, h4⟩ := hk.ok
    exact ⟨a1, a2, a3, a4, e, (hM.ints h1.ro).ro, (hM.ints h2.ro).ro, (hM.ints h3.ro).ro, (hM.ints h4.ro).ro⟩
  have hr := bitsL_rising c k.need.length
  simp (config := {implicitDefEqProofs := false, maxDischargeDepth := 20}) (disch := first | omega | (simp only [lenE]; done) | (simp only [lenE]; omega) | rfl | (simp only [lenE, markR_len]; done) | (simp only [lenE, markR_len]; omega)) only [runE, mapE, listE, initT_5, initT_6, initT_7, initT_8, resV, oneV, binA, unA, reduceCtorEq, Nat.reduceEqDiff, Nat.reduceAdd, Nat.reduceLT, Nat.reduceLeDiff, Nat.reduceMul, Nat.reduceSub, ↓reduceIte, decide_true, decide_false, Bool.true_eq_false, Bool.false_eq_true, Bool.not_true, Bool.not_false, if_true, if_false, and_true, true_and, memE, celE, w64, Nat.zero_add, Nat.add_zero, Nat.mul_one, putL, and_self, ldn, c_impl_BestFresh_1, r_impl_BestFresh_1, rr _ 0 _ q0, rr _ 1 _ q1, rr _ 2 _ q2, rr _ 3 _ q3, rr _ 0 _ hid2]
  refine callH_rc (freshCost_rc _ _ u k life (bitsL c k.need.length) hkM hu.ro hg hr hl) ?_
  rintro r new ⟨rfl, nr⟩
  simp (config := {implicitDefEqProofs := false, maxDischargeDepth := 20}) (disch := first | omega | (simp only [lenE]; done) | (simp only [lenE]; omega) | rfl | (simp only [lenE, markR_len]; done) | (simp only [lenE, markR_len]; omega)) only [runE, mapE, listE, initT_5, initT_6, initT_7, initT_8, resV, oneV, binA, unA, reduceCtorEq, Nat.reduceEqDiff, Nat.reduceAdd, Nat.reduceLT, Nat.reduceLeDiff, Nat.reduceMul, Nat.reduceSub, ↓reduceIte, decide_true, decide_false, Bool.true_eq_false, Bool.false_eq_true, Bool.not_true, Bool.not_false, if_true, if_false, and_true, true_and, memE, celE, w64, Nat.zero_add, Nat.add_zero, Nat.mul_one, putL, and_self, ldn, ext_2_0, ext_2_1]
  exact ext_ansV ((Ext.refl M).app nr) rfl
theorem implBestFresh_o (m : Mem) (v : Value) (k : Cs) (life : Int) (h : CaseA m v k) :
    RC Try.prog 36 [v, .int .i64 life] m (AnsO m (IntsO (bfA k life)) fun v => .tuple #[v, .int .i64 (bfC k life), .bool (lifeOk k life)]) := by
  refine rc_of_run mixed ok_impl_BestFresh (by simp) (go_start _ _ _ ?_)
  obtain ⟨v1, v2, v3, v4, rfl, h1, h2, h3, h4⟩ := h.ro.ok
  have hX := ((Ext.refl m).one 52 [v1, v2, v3, v4]).one 3 [.int .i64 life]
  simp (config := {implicitDefEqProofs := false, maxDischargeDepth := 20}) (disch := first | omega | (simp only [lenE]; done) | (simp only [lenE]; omega) | rfl | (simp only [lenE, markR_len]; done) | (simp only [lenE, markR_len]; omega)) only [runE, mapE, listE, initT_5, initT_6, initT_7, initT_8, resV, oneV, binA, unA, reduceCtorEq, Nat.reduceEqDiff, Nat.reduceAdd, Nat.reduceLT, Nat.reduceLeDiff, Nat.reduceMul, Nat.reduceSub, ↓reduceIte, decide_true, decide_false, Bool.true_eq_false, Bool.false_eq_true, Bool.not_true, Bool.not_false, if_true, if_false, and_true, true_and, memE, celE, w64, Nat.zero_add, Nat.add_zero, Nat.mul_one, putL, and_self, ldn, c_impl_BestFresh, r_impl_BestFresh]
  obtain ⟨M0, hM0⟩ : ∃ M0, M0 = roM m ++ [⟨.own, 52, [v1, v2, v3, v4]⟩] ++ [⟨.own, 3, [.int .i64 life]⟩] := ⟨_, rfl⟩
  have o1 : OwnB M0 m.length 52 [v1, v2, v3, v4] := by rw [hM0]; exact (OwnB.here (by simp [roM_len])).ext _
  have o2 : OwnB M0 (m.length + 1) 3 [.int .i64 life] := by rw [hM0]; exact OwnB.here (by simp [roM_len])
  rw [← hM0] at hX ⊢
  have hc : ∀ M, Ext m M → CaseA M (.agg #[v1, v2, v3, v4]) k := fun M hX => ⟨_, _, _, _, rfl, hX.ints h1, hX.ints h2, hX.ints h3, hX.ints h4⟩
  refine callH_rc (implIsCase_rc _ _ k (hc _ hX)) ?_
  rintro r n1 ⟨rfl, nr1⟩
  replace hX := hX.app nr1
  replace o1 := o1.ext n1
  replace o2 := o2.ext n1
  obtain ⟨M1, hM1⟩ : ∃ M1, M1 = M0 ++ n1 := ⟨_, rfl⟩
  rw [← hM1] at hX o1 o2 ⊢
  have lo2 := o2.lt
  unfold bfA bfC
  have el : lifeOk k life = (k.good && (decide (1 ≤ life) && decide (life ≤ 8))) := rfl
  rw [el]
  cases hg : k.good with
  | false =>
    simp (config := {implicitDefEqProofs := false, maxDischargeDepth := 20}) (disch := first | omega | (simp only [lenE]; done) | (simp only [lenE]; omega) | rfl | (simp only [lenE, markR_len]; done) | (simp only [lenE, markR_len]; omega)) only [runE, mapE, listE, initT_5, initT_6, initT_7, initT_8, resV, oneV, binA, unA, reduceCtorEq, Nat.reduceEqDiff, Nat.reduceAdd, Nat.reduceLT, Nat.reduceLeDiff, Nat.reduceMul, Nat.reduceSub, ↓reduceIte, decide_true, decide_false, Bool.true_eq_false, Bool.false_eq_true, Bool.not_true, Bool.not_false, if_true, if_false, and_true, true_and, memE, celE, w64, Nat.zero_add, Nat.add_zero, Nat.mul_one, putL, and_self, ldn, goG_undef, bsl_no]
    exact ext_noInts (f := fun v => .tuple #[v, .int .i64 0, .bool false]) hX rfl
  | true =>
    have gd := good_iff.1 hg
    have h8 := gd.n8
    simp (config := {implicitDefEqProofs := false, maxDischargeDepth := 20}) (disch := first | omega | (simp only [lenE]; done) | (simp only [lenE]; omega) | rfl | (simp only [lenE, markR_len]; done) | (simp only [lenE, markR_len]; omega)) only [runE, mapE, listE, initT_5, initT_6, initT_7, initT_8, resV, oneV, binA, unA, reduceCtorEq, Nat.reduceEqDiff, Nat.reduceAdd, Nat.reduceLT, Nat.reduceLeDiff, Nat.reduceMul, Nat.reduceSub, ↓reduceIte, decide_true, decide_false, Bool.true_eq_false, Bool.false_eq_true, Bool.not_true, Bool.not_false, if_true, if_false, and_true, true_and, memE, celE, w64, Nat.zero_add, Nat.add_zero, Nat.mul_one, putL, and_self, ldn, o2.rd]
    refine callH_rc (isLife_rc _ _) ?_
    rintro r new ⟨rfl, rfl⟩
    rw [List.append_nil]
    cases hl : (decide (1 ≤ life) && decide (life ≤ 8)) with
    | false =>
      simp (config := {implicitDefEqProofs := false, maxDischargeDepth := 20}) (disch := first | omega | (simp only [lenE]; done) | (simp only [lenE]; omega) | rfl | (simp only [lenE, markR_len]; done) | (simp only [lenE, markR_len]; omega)) only [runE, mapE, listE, initT_5, initT_6, initT_7, initT_8, resV, oneV, binA, unA, reduceCtorEq, Nat.reduceEqDiff, Nat.reduceAdd, Nat.reduceLT, Nat.reduceLeDiff, Nat.reduceMul, Nat.reduceSub, ↓reduceIte, decide_true, decide_false, Bool.true_eq_false, Bool.false_eq_true, Bool.not_true, Bool.not_false, if_true, if_false, and_true, true_and, memE, celE, w64, Nat.zero_add, Nat.add_zero, Nat.mul_one, putL, and_self, ldn, bsl_no]
      exact ext_noInts (f := fun v => .tuple #[v, .int .i64 0, .bool false]) hX rfl
    | true =>
      have hlife : 1 ≤ life ∧ life ≤ 8 := by simpa using hl
      have CF := bestFresh1_cost M1 m.length (m.length + 1) v1 v2 v3 v4 k life gd hlife ⟨o1.rd 0, o1.rd 1, o1.rd 2, o1.rd 3⟩ (o2.rd 0) (hc _ hX)
      simp (config := {implicitDefEqProofs := false, maxDischargeDepth := 20}) (disch := first | omega | (simp only [lenE]; done) | (simp only [lenE]; omega) | rfl | (simp only [lenE, markR_len]; done) | (simp only [lenE, markR_len]; omega)) only [runE, mapE, listE, initT_5, initT_6, initT_7, initT_8, resV, oneV, binA, unA, reduceCtorEq, Nat.reduceEqDiff, Nat.reduceAdd, Nat.reduceLT, Nat.reduceLeDiff, Nat.reduceMul, Nat.reduceSub, ↓reduceIte, decide_true, decide_false, Bool.true_eq_false, Bool.false_eq_true, Bool.not_true, Bool.not_false, if_true, if_false, and_true, true_and, memE, celE, w64, Nat.zero_add, Nat.add_zero, Nat.mul_one, putL, and_self, ldn, o1.rd, (hX.ints h1).len]
      refine callH_rc (bestOfSets_rc M1 _ k.need.length (freshC k life) h8 CF ?_) ?_
      · intro c x hc2 hx
        have := freshC_bd gd (bitsL_rising c k.need.length) hx
        omega
      rintro r n2 ⟨nr2, pv, rfl, hL⟩
      have hV := bfO_some (k := k) hlife.1
      have eV : bestV (bestO (freshC k life) k.need.length (2 ^ k.need.length)) = bfV k life := rfl
      have hb := bfO_bd gd _ _ hV
      rcases hL with ⟨hn, _, _⟩ | ⟨id, fl, rfl, hid, ho⟩
      · have : bfO k life (2 ^ k.need.length) = none := hn
        rw [hV] at this; cases this
      · rw [eV] at ho ⊢
        have hxl := hX.len
        simp (config := {implicitDefEqProofs := false, maxDischargeDepth := 20}) (disch := first | omega | (simp only [lenE]; done) | (simp only [lenE]; omega) | rfl | (simp only [lenE, markR_len]; done) | (simp only [lenE, markR_len]; omega)) only [runE, mapE, listE, initT_5, initT_6, initT_7, initT_8, resV, oneV, binA, unA, reduceCtorEq, Nat.reduceEqDiff, Nat.reduceAdd, Nat.reduceLT, Nat.reduceLeDiff, Nat.reduceMul, Nat.reduceSub, ↓reduceIte, decide_true, decide_false, Bool.true_eq_false, Bool.false_eq_true, Bool.not_true, Bool.not_false, if_true, if_false, and_true, true_and, memE, celE, w64, Nat.zero_add, Nat.add_zero, Nat.mul_one, putL, and_self, ldn, stP_aggL2]
        have ho2 := ho.ext [⟨.own, 70, [.int .i64 (bfV k life).1, .slice (some ⟨id, 0, none⟩) (bfV k life).2.length fl]⟩]
        refine ext_ansO (f := fun v => .tuple #[v, .int .i64 (bfV k life).1, .bool true]) ((hX.app nr2).one _ _) fun M' hM => ?_
        exact IntsA.ownO (l := (bfV k life).2) (ho2.at_ (hM _ (by omega) ho2.lt)) (by omega) (by omega) ho2.lt
theorem specBestFresh_rc (m : Mem) (v : Value) (k : Cs) (life : Int) (h : CaseA m v k) :
    RC Try.prog 37 [v, .int .i64 life] m (AnsL3 m (bfA k life) (bfC k life) (lifeOk k life)) := (specBestFresh_o m v k life h).mono fun _ _ h => h.l3
theorem implBestFresh_rc (m : Mem) (v : Value) (k : Cs) (life : Int) (h : CaseA m v k) :
    RC Try.prog 36 [v, .int .i64 life] m (AnsL3 m (bfA k life) (bfC k life) (lifeOk k life)) := (implBestFresh_o m v k life h).mono fun _ _ h => h.l3
end Go.Proofs.Ytdgfbmilbhckiaa.Ab
end
section
namespace Go.Proofs.Ytdgfbmilbhckiaa.Ab
open Go Go.RowKit
set_option linter.unusedVariables false
set_option linter.unusedSimpArgs false
theorem spanF_up {k : Cs} (hg : Good k) {i j : Nat} (hij : i ≤ j) (h8 : j ≤ 8) : spanF k i j ≤ k.setup.getD i 0 + spanS k i j := by
  have h1 := spanS_in' hg hij h8
  have h2 := getD_bound (m := 99) (by omega) hg.setup i
  unfold spanF
  split <;> omega
theorem frTo_le {k : Cs} {life : Int} {ps : List Int} {t j : Nat} (h : freshB life (ps.getD j 0) t = true) : ∀ i, j < i → ∃ x, frTo k life ps t i = some x ∧ x ≤ rateF k (ps.getD j 0).toNat t := by
  intro i
  induction i with
  | zero => intro h; omega
  | succ i ih =>
    intro hj
    by_cases e : j = i
    · subst e
      rw [frTo_yes h]
      refine ⟨_, rfl, ?_⟩
      split
      · exact Int.le_refl _
      · exact Int.min_le_right _ _
    · obtain ⟨x, hx, hle⟩ := ih (by omega)
      cases hf : freshB life (ps.getD i 0) t with
      | false => rw [frTo_no hf]; exact ⟨x, hx, hle⟩
      | true =>
        rw [frTo_yes hf, hx]
        exact ⟨_, rfl, by simp only; omega⟩
theorem frTo_att {k : Cs} {life : Int} {ps : List Int} {t : Nat} : ∀ i x, frTo k life ps t i = some x → ∃ j, j < i ∧ freshB life (ps.getD j 0) t = true ∧ x = rateF k (ps.getD j 0).toNat t := by
  intro i
  induction i with
  | zero => intro x h; cases h
  | succ i ih =>
    intro x h
    cases hf : freshB life (ps.getD i 0) t with
    | false =>
      rw [frTo_no hf] at h
      obtain ⟨j, h1, h2⟩ := ih x h
      exact ⟨j, by omega, h2⟩
    | true =>
      rw [frTo_yes hf] at h
      injection h with h
      cases hb : frTo k life ps t i with
      | none => rw [hb] at h; exact ⟨i, by omega, hf, h.symm⟩
      | some b =>
        rw [hb] at h
        simp only at h
        obtain ⟨j, h1, h2, h3⟩ := ih b hb
        by_cases hl : b ≤ rateF k (ps.getD i 0).toNat t
        · exact ⟨j, by omega, h2, by omega⟩
        · exact ⟨i, by omega, hf, by omega⟩
theorem fcOk_iff {k : Cs} {life : Int} {ps : List Int} {t : Nat} : fcOk k life ps t = true ↔ ∀ s, s < t → k.need.getD s 0 ≤ 0 ∨ (frate k life ps s).isSome = true := by
  induction t with
  | zero => exact ⟨fun _ s hs => absurd hs (by omega), fun _ => rfl⟩
  | succ t ih =>
    rw [fcOk, Bool.and_eq_true, ih, Bool.or_eq_true, decide_eq_true_eq]
    constructor
    · rintro ⟨h1, h2⟩ s hs
      by_cases e : s = t
      · subst e; exact h2
      · exact h1 s (by omega)
    · intro h
      exact ⟨fun s hs => h s (by omega), h t (by omega)⟩
theorem freshC_is {k : Cs} {life : Int} {ps : List Int} {x : Int} (h : freshC k life ps = some x) : fcOk k life ps k.need.length = true ∧ x = setS k ps ps.length + fcTo k life ps k.need.length := by
  unfold freshC at h
  split at h
  · injection h with h; exact ⟨‹_›, h.symm⟩
  · cases h
theorem freshC_of {k : Cs} {life : Int} {ps : List Int} (h : fcOk k life ps k.need.length = true) : freshC k life ps = some (setS k ps ps.length + fcTo k life ps k.need.length) := by
  unfold freshC; rw [if_pos h]
theorem freshB_le {life p : Int} {t : Nat} (h : freshB life p t = true) : p ≤ t ∧ (t : Int) < p + life := by
  unfold freshB at h
  rw [Bool.and_eq_true, decide_eq_true_eq, decide_eq_true_eq] at h
  exact h
theorem freshB_of {life p : Int} {t : Nat} (h1 : p ≤ t) (h2 : (t : Int) < p + life) : freshB life p t = true := by
  unfold freshB
  rw [Bool.and_eq_true, decide_eq_true_eq, decide_eq_true_eq]
  exact ⟨h1, h2⟩

theorem fresh_ge {k : Cs} (hg : Good k) {life : Int} {ps : List Int} (hr : Rising ps k.need.length) {x : Int} (hx : freshC k life ps = some x) : bestCost k ≤ x := by
  obtain ⟨hok, rfl⟩ := freshC_is hx
  have hok := fcOk_iff.1 hok
  have h8 := hg.n8
  obtain ⟨F, hF⟩ : ∃ F : Nat → Int, F = fun j => (fwdC k k.need.length).getD j 0 := ⟨_, rfl⟩
  have F0 : F 0 = 0 := by rw [hF]; exact fwdC_at0 k _
  have Fle : ∀ i j, i < j → j ≤ k.need.length → F j ≤ F i + spanF k i j := fun i j h1 h2 => by rw [hF]; exact fwd_le k h1 h2
  have Fn : F k.need.length = bestCost k := by rw [hF, best_D hg]; exact fwd_tot k
  clear hF
  have key : ∀ t, t ≤ k.need.length → ∃ i, i ≤ ps.length ∧ (∀ j, j < i → ps.getD j 0 < t) ∧ (i < ps.length → (t : Int) ≤ ps.getD i 0) ∧
      ((i = 0 ∧ F t ≤ setS k ps i + fcTo k life ps t) ∨ ∃ j, j < i ∧ (∀ j', j' < i → rateF k (ps.getD j 0).toNat t ≤ rateF k (ps.getD j' 0).toNat t) ∧
        F (ps.getD j 0).toNat + k.setup.getD (ps.getD j 0).toNat 0 + spanS k (ps.getD j 0).toNat t ≤ setS k ps i + fcTo k life ps t) := by
    intro t
    induction t with
    | zero =>
      intro _
      refine ⟨0, by omega, fun j h => absurd h (by omega), fun h => by have := hr.bd 0 h; omega, .inl ⟨rfl, ?_⟩⟩
      rw [F0]; simp [setS, fcTo]
    | succ t ih =>
      intro ht
      obtain ⟨i, h1, h2, h3, h4⟩ := ih (by omega)
      have hn := getD_bound (m := 20) (by omega) hg.need t
      -- the orders up to t
      have mid : ∃ i, i ≤ ps.length ∧ (∀ j, j < i → ps.getD j 0 ≤ t) ∧ (i < ps.length → (t : Int) < ps.getD i 0) ∧
          ((i = 0 ∧ F t ≤ setS k ps i + fcTo k life ps t) ∨ ∃ j, j < i ∧ (∀ j', j' < i → rateF k (ps.getD j 0).toNat t ≤ rateF k (ps.getD j' 0).toNat t) ∧
            F (ps.getD j 0).toNat + k.setup.getD (ps.getD j 0).toNat 0 + spanS k (ps.getD j 0).toNat t ≤ setS k ps i + fcTo k life ps t) := by
        by_cases e : i < ps.length ∧ ps.getD i 0 = t
        · obtain ⟨e1, e2⟩ := e
          have e3 : (ps.getD i 0).toNat = t := by omega
          have hs := getD_bound (m := 99) (by omega) hg.setup t
          refine ⟨i + 1, by omega, fun j hj => ?_, fun hl => by have := hr.up i hl; omega, .inr ?_⟩
          · by_cases e4 : j = i
            · subst e4; omega
            · have := h2 j (by omega); omega
          have sS : setS k ps (i + 1) = setS k ps i + k.setup.getD t 0 := by rw [setS, e3]
          rcases h4 with ⟨g1, g2⟩ | ⟨j, g1, g2, g3⟩
          · refine ⟨i, by omega, fun j' hj' => ?_, ?_⟩
            · rw [show j' = i by omega]; exact Int.le_refl _
            · rw [e3, spanS_self, sS]; omega
          · have pj := h2 j g1
            have bj := hr.bd j (by omega)
            by_cases hc : rateF k (ps.getD j 0).toNat t ≤ rateF k (ps.getD i 0).toNat t
            · refine ⟨j, by omega, fun j' hj' => ?_, by rw [sS]; omega⟩
              by_cases e4 : j' = i
              · subst e4; exact hc
              · exact g2 j' (by omega)
            · refine ⟨i, by omega, fun j' hj' => ?_, ?_⟩
              · by_cases e4 : j' = i
                · subst e4; exact Int.le_refl _
                · have := g2 j' (by omega); omega
              · have a := Fle (ps.getD j 0).toNat t (by omega) (by omega)
                have b := spanF_up hg (i := (ps.getD j 0).toNat) (j := t) (by omega) (by omega)
                rw [e3, spanS_self, sS]
                omega
        · refine ⟨i, h1, fun j hj => by have := h2 j hj; omega, fun hl => ?_, h4⟩
          have := h3 hl
          by_cases e2 : ps.getD i 0 = t
          · exact absurd ⟨hl, e2⟩ e
          · omega
      clear h1 h2 h3 h4 i
      obtain ⟨i, h1, h2, h3, h4⟩ := mid
      refine ⟨i, h1, fun j hj => by have := h2 j hj; omega, fun hl => by have := h3 hl; omega, ?_⟩
      have late : ∀ j, j < ps.length → ps.getD j 0 ≤ t → j < i := fun j hj hp => by
        by_cases e : j < i
        · exact e
        · have e2 := h3 (by omega)
          by_cases e3 : i = j
          · subst e3; omega
          · have := hr.lt (i := i) (j := j) (by omega) hj; omega
      rcases h4 with ⟨g1, g2⟩ | ⟨j, g1, g2, g3⟩
      · left
        refine ⟨g1, ?_⟩
        have hz : k.need.getD t 0 = 0 := by
          rcases hok t (by omega) with h | h
          · omega
          · obtain ⟨y, hy⟩ := Option.isSome_iff_exists.1 h
            obtain ⟨j, a1, a2, _⟩ := frTo_att _ _ hy
            have := late j a1 (freshB_le a2).1
            omega
        have a := Fle t (t + 1) (by omega) ht
        have z : sumR k.need t (t + 1) = 0 := by rw [sumR_s, sumR_self, hz]; rfl
        rw [spanF_zero k z] at a
        rw [fcTo, hz, Int.zero_mul]
        omega
      · right
        have pj := h2 j g1
        have bj := hr.bd j (by omega)
        refine ⟨j, g1, fun j' hj' => ?_, ?_⟩
        · rw [rateF_s, rateF_s]
          have := g2 j' hj'; omega
        · rw [spanS_s k (by omega), fcTo]
          have : k.need.getD t 0 * rateF k (ps.getD j 0).toNat t ≤ k.need.getD t 0 * (frate k life ps t).getD 0 := by
            rcases hok t (by omega) with h | h
            · rw [show k.need.getD t 0 = 0 by omega, Int.zero_mul, Int.zero_mul]; omega
            · obtain ⟨y, hy⟩ := Option.isSome_iff_exists.1 h
              obtain ⟨j', a1, a2, a3⟩ := frTo_att _ _ hy
              have := g2 j' (late j' a1 (freshB_le a2).1)
              rw [show (frate k life ps t).getD 0 = y by rw [hy]; rfl]
              exact Int.mul_le_mul_of_nonneg_left (by omega) hn.1
          omega
  obtain ⟨i, h1, h2, h3, h4⟩ := key _ (Nat.le_refl _)
  have hi : i = ps.length := by
    by_cases e : i < ps.length
    · have := h3 e; have := hr.bd i e; omega
    · omega
  subst hi
  rcases h4 with ⟨g1, g2⟩ | ⟨j, g1, g2, g3⟩
  · omega
  · have bj := hr.bd j g1
    have a := Fle (ps.getD j 0).toNat _ (by omega) (Nat.le_refl _)
    have b := spanF_up hg (i := (ps.getD j 0).toNat) (j := k.need.length) (by omega) h8
    omega

theorem frTo_snoc (k : Cs) (life : Int) (ps : List Int) (p : Int) (t : Nat) : ∀ i, i ≤ ps.length → frTo k life (ps ++ [p]) t i = frTo k life ps t i := by
  intro i
  induction i with
  | zero => intro _; rfl
  | succ i ih =>
    intro hi
    rw [frTo, frTo, getD_app_l _ _ (by omega), ih (by omega)]
theorem frate_snoc (k : Cs) (life : Int) (ps : List Int) (p : Int) (t : Nat) : frate k life (ps ++ [p]) t = if freshB life p t then some (match frate k life ps t with | none => rateF k p.toNat t | some b => min b (rateF k p.toNat t)) else frate k life ps t := by
  unfold frate
  rw [List.length_append, List.length_singleton, frTo, getD_app_one, frTo_snoc k life ps p t _ (Nat.le_refl _)]
  all_goals rfl
theorem setS_snoc (k : Cs) (ps : List Int) (p : Int) : ∀ i, i ≤ ps.length → setS k (ps ++ [p]) i = setS k ps i := by
  intro i
  induction i with
  | zero => intro _; rfl
  | succ i ih => intro hi; rw [setS, setS, getD_app_l _ _ (by omega), ih (by omega)]
theorem fcTo_congr (k : Cs) (life : Int) (ps qs : List Int) (t : Nat) (h : ∀ s, s < t → frate k life ps s = frate k life qs s) : fcTo k life ps t = fcTo k life qs t := by
  induction t with
  | zero => rfl
  | succ t ih => rw [fcTo, fcTo, ih fun s hs => h s (by omega), h t (by omega)]
theorem rising_snoc {ps : List Int} {i t : Nat} (h : Rising ps i) (hit : i < t) : Rising (ps ++ [(i : Int)]) t := by
  refine ⟨fun j hj => ?_, fun j hj => ?_⟩
  · rw [List.length_append, List.length_singleton] at hj
    by_cases e : j < ps.length
    · rw [getD_app_l _ _ e]; have := h.bd j e; omega
    · rw [show j = ps.length by omega, getD_app_one]; omega
  · rw [List.length_append, List.length_singleton] at hj
    rw [getD_app_l _ _ (show j < ps.length by omega)]
    by_cases e : j + 1 < ps.length
    · rw [getD_app_l _ _ e]; exact h.up j e
    · rw [show j + 1 = ps.length by omega, getD_app_one]
      have := h.bd j (by omega); omega
theorem fresh_long {k : Cs} (hg : Good k) {life : Int} (hl : (k.need.length : Int) ≤ life) : ∃ ps y, Rising ps k.need.length ∧ freshC k life ps = some y ∧ y ≤ bestCost k := by
  have h8 := hg.n8
  obtain ⟨F, hF⟩ : ∃ F : Nat → Int, F = fun j => (fwdC k k.need.length).getD j 0 := ⟨_, rfl⟩
  have F0 : F 0 = 0 := by rw [hF]; exact fwdC_at0 k _
  have Feq : ∀ j, 0 < j → j ≤ k.need.length → ∃ i, i < j ∧ F j = F i + spanF k i j := fun j h1 h2 => by rw [hF]; exact fwd_eq k h1 h2
  have Fn : F k.need.length = bestCost k := by rw [hF, best_D hg]; exact fwd_tot k
  clear hF
  have key : ∀ t, t ≤ k.need.length → ∃ ps, Rising ps t ∧ (∀ s, s < t → k.need.getD s 0 ≤ 0 ∨ (frate k life ps s).isSome = true) ∧ setS k ps ps.length + fcTo k life ps t ≤ F t := by
    intro t
    induction t using Nat.strongRecOn with
    | ind t ih =>
      intro ht
      by_cases h0 : t = 0
      · subst h0
        exact ⟨[], Rising.nil 0, fun s hs => absurd hs (by omega), by rw [F0]; simp [setS, fcTo]⟩
      obtain ⟨i, hi, e⟩ := Feq t (by omega) ht
      obtain ⟨ps, r1, r2, r3⟩ := ih i hi (by omega)
      have nn := sumR_nn (m := 20) (by omega) hg.need (i := i) (j := t) (by omega)
      by_cases hz : sumR k.need i t = 0
      · have z : ∀ s, i ≤ s → s < t → k.need.getD s 0 = 0 := fun s h1 h2 => by
          have a := sumR_nn (m := 20) (by omega) hg.need (i := i) (j := s) h1
          have b := sumR_nn (m := 20) (by omega) hg.need (i := s + 1) (j := t) (by omega)
          have c := getD_bound (m := 20) (by omega) hg.need s
          have d := sumR_add k.need i s t
          have d2 := sumR_h k.need s t
          omega
        refine ⟨ps, ⟨fun j hj => by have := r1.bd j hj; omega, r1.up⟩, fun s hs => ?_, ?_⟩
        · by_cases h : s < i
          · exact r2 s h
          · left; rw [z s (by omega) hs]; omega
        · have : ∀ d, i + d ≤ t → fcTo k life ps (i + d) = fcTo k life ps i := by
            intro d
            induction d with
            | zero => intro _; rfl
            | succ d ihd => intro hd; rw [← Nat.add_assoc, fcTo, ihd (by omega), z (i + d) (by omega) (by omega), Int.zero_mul]; omega
          have := this (t - i) (by omega)
          rw [show i + (t - i) = t by omega] at this
          rw [this, e, spanF_zero k hz]; omega
      · have e2 : spanF k i t = k.setup.getD i 0 + spanS k i t := by unfold spanF; rw [if_pos (by omega)]
        have lo : ∀ s, s < i → frate k life (ps ++ [(i : Int)]) s = frate k life ps s := fun s hs => by
          rw [frate_snoc, if_neg]
          intro h; have := (freshB_le h).1; omega
        have hi2 : ∀ s, i ≤ s → s < t → ∃ y, frate k life (ps ++ [(i : Int)]) s = some y ∧ y ≤ rateF k i s := fun s h1 h2 => by
          have hb : freshB life (i : Int) s = true := freshB_of (by omega) (by omega)
          rw [frate_snoc, if_pos hb]
          refine ⟨_, rfl, ?_⟩
          rw [Int.toNat_natCast]
          split
          · exact Int.le_refl _
          · exact Int.min_le_right _ _
        refine ⟨ps ++ [(i : Int)], rising_snoc r1 hi, fun s hs => ?_, ?_⟩
        · by_cases h : s < i
          · rw [lo s h]; exact r2 s h
          · obtain ⟨y, hy, _⟩ := hi2 s (by omega) hs
            right; rw [hy]; rfl
        · have sS : setS k (ps ++ [(i : Int)]) (ps ++ [(i : Int)]).length = setS k ps ps.length + k.setup.getD i 0 := by
            rw [List.length_append, List.length_singleton, setS, getD_app_one, setS_snoc k ps _ _ (Nat.le_refl _), Int.toNat_natCast]
          have : ∀ d, i + d ≤ t → fcTo k life (ps ++ [(i : Int)]) (i + d) ≤ fcTo k life ps i + spanS k i (i + d) := by
            intro d
            induction d with
            | zero => intro _; rw [Nat.add_zero, spanS_self, fcTo_congr k life _ ps i lo]; omega
            | succ d ihd =>
              intro hd
              have a := ihd (by omega)
              obtain ⟨y, hy, hyl⟩ := hi2 (i + d) (by omega) (by omega)
              have c := getD_bound (m := 20) (by omega) hg.need (i + d)
              have b : k.need.getD (i + d) 0 * y ≤ k.need.getD (i + d) 0 * rateF k i (i + d) := Int.mul_le_mul_of_nonneg_left hyl c.1
              rw [← Nat.add_assoc, fcTo, spanS_s k (by omega), hy]
              simp only [Option.getD_some]
              omega
          have := this (t - i) (by omega)
          rw [show i + (t - i) = t by omega] at this
          rw [sS, e, e2]
          omega
  obtain ⟨ps, r1, r2, r3⟩ := key _ (Nat.le_refl _)
  exact ⟨ps, _, r1, freshC_of (fcOk_iff.2 r2), by omega⟩

theorem bestO_le {g : List Int → Option Int} {n : Nat} : ∀ c, (∃ q, bestO g n c = some q ∧ (∃ c', c' < c ∧ q.2 = bitsL c' n) ∧ g q.2 = some q.1 ∧ ∀ c' x, c' < c → g (bitsL c' n) = some x → q.1 ≤ x) ∨ (bestO g n c = none ∧ ∀ c', c' < c → g (bitsL c' n) = none) := by
  intro c
  induction c with
  | zero => exact .inr ⟨rfl, fun c' h => absurd h (by omega)⟩
  | succ c ih =>
    cases hg : g (bitsL c n) with
    | none =>
      rw [bestO_no hg]
      rcases ih with ⟨q, h1, ⟨c2, h2, h2'⟩, h3, h4⟩ | ⟨h1, h2⟩
      · refine .inl ⟨q, h1, ⟨c2, by omega, h2'⟩, h3, fun c' x hc hx => ?_⟩
        by_cases e : c' = c
        · rw [e, hg] at hx; cases hx
        · exact h4 c' x (by omega) hx
      · refine .inr ⟨h1, fun c' hc => ?_⟩
        by_cases e : c' = c
        · rw [e]; exact hg
        · exact h2 c' (by omega)
    | some y =>
      left
      rcases ih with ⟨q, h1, ⟨c2, h2, h2'⟩, h3, h4⟩ | ⟨h1, h2⟩
      · by_cases hb : bef (y, bitsL c n) q = true
        · refine ⟨(y, bitsL c n), by simp only [bestO, hg, h1, hb, if_true], ⟨c, by omega, rfl⟩, hg, fun c' x hc hx => ?_⟩
          by_cases e : c' = c
          · rw [e, hg] at hx; cases hx; exact Int.le_refl _
          · have := h4 c' x (by omega) hx
            rcases (bef_iff y q.1 (bitsL c n) q.2).1 hb with h | h <;> simp only <;> omega
        · refine ⟨q, by simp only [bestO, hg, h1, if_neg hb], ⟨c2, by omega, h2'⟩, h3, fun c' x hc hx => ?_⟩
          by_cases e : c' = c
          · rw [e, hg] at hx
            cases hx
            by_cases hh : y < q.1
            · exact absurd ((bef_iff y q.1 (bitsL c n) q.2).2 (.inl hh)) hb
            · omega
          · exact h4 c' x (by omega) hx
      · refine ⟨(y, bitsL c n), by simp only [bestO, hg, h1], ⟨c, by omega, rfl⟩, hg, fun c' x hc hx => ?_⟩
        by_cases e : c' = c
        · rw [e, hg] at hx; cases hx; exact Int.le_refl _
        · rw [h2 c' (by omega)] at hx; cases hx
theorem bfV_is {k : Cs} {life : Int} (hl : 1 ≤ life) : Rising (bfV k life).2 k.need.length ∧ freshC k life (bfV k life).2 = some (bfV k life).1 ∧ ∀ ps x, Rising ps k.need.length → freshC k life ps = some x → (bfV k life).1 ≤ x := by
  have hs := bfO_some (k := k) hl
  rcases bestO_le (g := freshC k life) (n := k.need.length) (2 ^ k.need.length) with ⟨q, h1, ⟨c2, h2, h2'⟩, h3, h4⟩ | ⟨h1, _⟩
  · have e : q = bfV k life := by
      unfold bfO at hs
      rw [h1] at hs
      injection hs
    subst e
    refine ⟨by rw [h2']; exact bitsL_rising _ _, h3, fun ps x hr hx => ?_⟩
    obtain ⟨c', h5, rfl⟩ := bits_all _ ps hr
    exact h4 c' x h5 hx
  · unfold bfO at hs
    rw [h1] at hs
    cases hs
theorem freshC_mono {k : Cs} (hg : Good k) {life : Int} {ps : List Int} {x : Int} (h : freshC k life ps = some x) : ∃ y, freshC k (life + 1) ps = some y ∧ y ≤ x := by
  obtain ⟨hok, rfl⟩ := freshC_is h
  have hok := fcOk_iff.1 hok
  have one : ∀ s y, frate k life ps s = some y → ∃ z, frate k (life + 1) ps s = some z ∧ z ≤ y := fun s y hy => by
    obtain ⟨j, h1, h2, h3⟩ := frTo_att _ _ hy
    have hb := freshB_le h2
    have hb2 : freshB (life + 1) (ps.getD j 0) s = true := freshB_of hb.1 (by omega)
    obtain ⟨z, hz, hle⟩ := frTo_le hb2 ps.length h1
    exact ⟨z, hz, by omega⟩
  refine ⟨_, freshC_of (fcOk_iff.2 fun s hs => ?_), ?_⟩
  · rcases hok s hs with h | h
    · exact .inl h
    · obtain ⟨y, hy⟩ := Option.isSome_iff_exists.1 h
      obtain ⟨z, hz, _⟩ := one s y hy
      right; rw [hz]; rfl
  · have : ∀ t, t ≤ k.need.length → fcTo k (life + 1) ps t ≤ fcTo k life ps t := by
      intro t
      induction t with
      | zero => intro _; exact Int.le_refl _
      | succ t ih =>
        intro ht
        have a := ih (by omega)
        have c := getD_bound (m := 20) (by omega) hg.need t
        have b : k.need.getD t 0 * (frate k (life + 1) ps t).getD 0 ≤ k.need.getD t 0 * (frate k life ps t).getD 0 := by
          rcases hok t (by omega) with h | h
          · rw [show k.need.getD t 0 = 0 by omega, Int.zero_mul, Int.zero_mul]; omega
          · obtain ⟨y, hy⟩ := Option.isSome_iff_exists.1 h
            obtain ⟨z, hz, hle⟩ := one t y hy
            rw [hy, hz]
            exact Int.mul_le_mul_of_nonneg_left hle c.1
        rw [fcTo, fcTo]
        omega
    have := this _ (Nat.le_refl _)
    omega
theorem bfV_mono {k : Cs} (hg : Good k) {life : Int} (hl : 1 ≤ life) : (bfV k (life + 1)).1 ≤ (bfV k life).1 := by
  obtain ⟨h1, h2, _⟩ := bfV_is (k := k) hl
  obtain ⟨_, _, h3⟩ := bfV_is (k := k) (life := life + 1) (by omega)
  obtain ⟨y, hy, hle⟩ := freshC_mono hg h2
  have := h3 _ _ h1 hy
  omega
theorem bfV_best {k : Cs} (hg : Good k) {life : Int} (hl : 1 ≤ life) : bestCost k ≤ (bfV k life).1 ∧ ((k.need.length : Int) ≤ life → (bfV k life).1 = bestCost k) := by
  obtain ⟨h1, h2, h3⟩ := bfV_is (k := k) hl
  have a := fresh_ge hg h1 h2
  refine ⟨a, fun hn => ?_⟩
  obtain ⟨ps, y, r1, r2, r3⟩ := fresh_long hg hn
  have := h3 ps y r1 r2
  omega
end Go.Proofs.Ytdgfbmilbhckiaa.Ab
end
section
namespace Go.Proofs.Ytdgfbmilbhckiaa.Ab
open Go Go.RowKit
set_option linter.unusedVariables false
set_option linter.unusedSimpArgs false
def gainsTo (k : Cs) (j : Nat) : List Int := (List.range j).map fun (i : Nat) => (bfV k ((i : Int) + 1)).1 - (bfV k ((i : Int) + 2)).1
theorem gainsTo_s (k : Cs) (j : Nat) : gainsTo k (j + 1) = gainsTo k j ++ [(bfV k ((j : Int) + 1)).1 - (bfV k ((j : Int) + 2)).1] := by simp [gainsTo, List.range_succ]
theorem gainsTo_len (k : Cs) (j : Nat) : (gainsTo k j).length = j := by simp [gainsTo]
def gainsA (k : Cs) : List Int := if k.good then gainsTo k 7 else []
theorem bfV_bd {k : Cs} (hg : Good k) {life : Int} (hl : 1 ≤ life) : 0 ≤ (bfV k life).1 ∧ (bfV k life).1 ≤ 20000 := (bfO_bd hg _ _ (bfO_some hl)).1
theorem specGains_rc (m : Mem) (v : Value) (k : Cs) (h : CaseA m v k) : RC Try.prog 42 [v] m (AnsL m (gainsA k) k.good) := by
  refine rc_of_run mixed ok_spec_LifeGains (by simp) (go_start _ _ _ ?_)
  obtain ⟨v1, v2, v3, v4, rfl, h1, h2, h3, h4⟩ := h.ro.ok
  have hX := ((Ext.refl m).one 52 [v1, v2, v3, v4]).one 3 []
  simp (config := {implicitDefEqProofs := false, maxDischargeDepth := 20}) (disch := first | omega | (simp only [lenE]; done) | (simp only [lenE]; omega) | rfl | (simp only [lenE, markR_len]; done) | (simp only [lenE, markR_len]; omega)) only [runE, mapE, listE, initT_5, initT_6, initT_7, initT_8, resV, oneV, binA, unA, reduceCtorEq, Nat.reduceEqDiff, Nat.reduceAdd, Nat.reduceLT, Nat.reduceLeDiff, Nat.reduceMul, Nat.reduceSub, ↓reduceIte, decide_true, decide_false, Bool.true_eq_false, Bool.false_eq_true, Bool.not_true, Bool.not_false, if_true, if_false, and_true, true_and, memE, celE, w64, Nat.zero_add, Nat.add_zero, Nat.mul_one, putL, and_self, ldn, c_spec_LifeGains, r_spec_LifeGains, bsl_no]
  obtain ⟨M0, hM0⟩ : ∃ M0, M0 = roM m ++ [⟨.own, 52, [v1, v2, v3, v4]⟩] ++ [⟨.own, 3, []⟩] := ⟨_, rfl⟩
  have o1 : OwnB M0 m.length 52 [v1, v2, v3, v4] := by rw [hM0]; exact (OwnB.here (by simp [roM_len])).ext _
  have r1 : OwnR M0 (m.length + 1) [] := by rw [hM0]; exact OwnR.end' (l := []) (by simp [roM_len])
  rw [← hM0] at hX ⊢
  have hc : ∀ M, Ext m M → CaseA M (.agg #[v1, v2, v3, v4]) k := fun M hX => ⟨_, _, _, _, rfl, hX.ints h1, hX.ints h2, hX.ints h3, hX.ints h4⟩
  refine callH_rc (l2Good_rc _ _ k (hc _ hX)) ?_
  rintro r n1 ⟨rfl, nr1⟩
  replace hX := hX.app nr1
  replace o1 := o1.ext n1
  replace r1 := r1.ext n1
  obtain ⟨M1, hM1⟩ : ∃ M1, M1 = M0 ++ n1 := ⟨_, rfl⟩
  rw [← hM1] at hX o1 r1 ⊢
  unfold gainsA
  cases hg : k.good with
  | false =>
    simp (config := {implicitDefEqProofs := false, maxDischargeDepth := 20}) (disch := first | omega | (simp only [lenE]; done) | (simp only [lenE]; omega) | rfl | (simp only [lenE, markR_len]; done) | (simp only [lenE, markR_len]; omega)) only [runE, mapE, listE, initT_5, initT_6, initT_7, initT_8, resV, oneV, binA, unA, reduceCtorEq, Nat.reduceEqDiff, Nat.reduceAdd, Nat.reduceLT, Nat.reduceLeDiff, Nat.reduceMul, Nat.reduceSub, ↓reduceIte, decide_true, decide_false, Bool.true_eq_false, Bool.false_eq_true, Bool.not_true, Bool.not_false, if_true, if_false, and_true, true_and, memE, celE, w64, Nat.zero_add, Nat.add_zero, Nat.mul_one, putL, and_self, ldn]
    exact ext_ansL (l := []) hX r1 (by omega) rfl (by simp)
  | true =>
    have gd := good_iff.1 hg
    rw [if_pos rfl]
    simp (config := {implicitDefEqProofs := false, maxDischargeDepth := 20}) (disch := first | omega | (simp only [lenE]; done) | (simp only [lenE]; omega) | rfl | (simp only [lenE, markR_len]; done) | (simp only [lenE, markR_len]; omega)) only [runE, mapE, listE, initT_5, initT_6, initT_7, initT_8, resV, oneV, binA, unA, reduceCtorEq, Nat.reduceEqDiff, Nat.reduceAdd, Nat.reduceLT, Nat.reduceLeDiff, Nat.reduceMul, Nat.reduceSub, ↓reduceIte, decide_true, decide_false, Bool.true_eq_false, Bool.false_eq_true, Bool.not_true, Bool.not_false, if_true, if_false, and_true, true_and, memE, celE, w64, Nat.zero_add, Nat.add_zero, Nat.mul_one, putL, and_self, ldn]
    refine loop_inv mixed (fun s => ∃ (j : Nat) (M : Mem) (id : Nat), j ≤ 7 ∧ s.m = M ∧ Ext m M ∧ OwnB M m.length 52 [v1, v2, v3, v4] ∧ m.length < id ∧ OwnR M id (gainsTo k j) ∧ s.t 1 = .pointer (some ⟨m.length, 0, none⟩) ∧ s.t 4 = .slice (some ⟨id, 0, none⟩) j 1 ∧ s.t 5 = .int .i64 ((j : Int) + 1)) (fun s => 8 - (intOf (s.t 5)).toNat)
      ⟨0, M1, m.length + 1, by omega, (by first | rfl | simp only [put_t, put_t', put_m, putT_t, putT_t', putT_m, init_t, init_m, initT_0, initT_1, initT_2, initT_3, initT_4, initT_5, initT_6, initT_7, initT_8, Nat.reduceEqDiff, ↓reduceIte]), hX, o1, by omega, r1, rfl, rfl, rfl⟩ ?_
    clear hX o1 r1 hM1
    rintro s ⟨j, M, id, hj, tm, hX, o1, hid, r1, t1, t4, t5⟩
    have ml := o1.lt
    by_cases hlt : j < 7
    · have hlt' : (j : Int) + 1 < 8 := by omega
      have bd1 := bfV_bd gd (life := (j : Int) + 1) (by omega)
      have bd2 := bfV_bd gd (life := (j : Int) + 1 + 1) (by omega)
      simp (config := {implicitDefEqProofs := false, maxDischargeDepth := 20}) (disch := first | omega | (simp only [lenE]; done) | (simp only [lenE]; omega) | rfl | (simp only [lenE, markR_len]; done) | (simp only [lenE, markR_len]; omega)) only [runE, mapE, listE, initT_5, initT_6, initT_7, initT_8, resV, oneV, binA, unA, reduceCtorEq, Nat.reduceEqDiff, Nat.reduceAdd, Nat.reduceLT, Nat.reduceLeDiff, Nat.reduceMul, Nat.reduceSub, ↓reduceIte, decide_true, decide_false, Bool.true_eq_false, Bool.false_eq_true, Bool.not_true, Bool.not_false, if_true, if_false, and_true, true_and, memE, celE, w64, Nat.zero_add, Nat.add_zero, Nat.mul_one, putL, and_self, ldn, tm, t1, t4, t5, hlt', o1.rd]
      refine callH_rc (l9Best_rc M _ k ((j : Int) + 1) (hc _ hX) gd ⟨by omega, by omega⟩) ?_
      rintro r n2 ⟨nr2, w, rfl, -⟩
      replace hX := hX.app nr2
      replace o1 := o1.ext n2
      replace r1 := r1.ext n2
      obtain ⟨M2, hM2⟩ : ∃ M2, M2 = M ++ n2 := ⟨_, rfl⟩
      rw [← hM2] at hX o1 r1 ⊢
      simp (config := {implicitDefEqProofs := false, maxDischargeDepth := 20}) (disch := first | omega | (simp only [lenE]; done) | (simp only [lenE]; omega) | rfl | (simp only [lenE, markR_len]; done) | (simp only [lenE, markR_len]; omega)) only [runE, mapE, listE, initT_5, initT_6, initT_7, initT_8, resV, oneV, binA, unA, reduceCtorEq, Nat.reduceEqDiff, Nat.reduceAdd, Nat.reduceLT, Nat.reduceLeDiff, Nat.reduceMul, Nat.reduceSub, ↓reduceIte, decide_true, decide_false, Bool.true_eq_false, Bool.false_eq_true, Bool.not_true, Bool.not_false, if_true, if_false, and_true, true_and, memE, celE, w64, Nat.zero_add, Nat.add_zero, Nat.mul_one, putL, and_self, ldn, ext_2_0, ext_2_1, t1, t4, t5, o1.rd]
      refine callH_rc (l9Best_rc M2 _ k ((j : Int) + 1 + 1) (hc _ hX) gd ⟨by omega, by omega⟩) ?_
      rintro r n3 ⟨nr3, w3, rfl, -⟩
      replace hX := hX.app nr3
      replace o1 := o1.ext n3
      replace r1 := r1.ext n3
      obtain ⟨M3, hM3⟩ : ∃ M3, M3 = M2 ++ n3 := ⟨_, rfl⟩
      rw [← hM3] at hX o1 r1 ⊢
      have happ := app_num (x := (bfV k ((j : Int) + 1)).1 - (bfV k ((j : Int) + 1 + 1)).1) (id2 := M3.length) (n := j) r1 (by rw [gainsTo_len]; omega) rfl (by rw [gainsTo_len])
      simp (config := {implicitDefEqProofs := false, maxDischargeDepth := 20}) (disch := first | omega | (simp only [lenE]; done) | (simp only [lenE]; omega) | rfl | (simp only [lenE, markR_len]; done) | (simp only [lenE, markR_len]; omega)) only [runE, mapE, listE, initT_5, initT_6, initT_7, initT_8, resV, oneV, binA, unA, reduceCtorEq, Nat.reduceEqDiff, Nat.reduceAdd, Nat.reduceLT, Nat.reduceLeDiff, Nat.reduceMul, Nat.reduceSub, ↓reduceIte, decide_true, decide_false, Bool.true_eq_false, Bool.false_eq_true, Bool.not_true, Bool.not_false, if_true, if_false, and_true, true_and, memE, celE, w64, Nat.zero_add, Nat.add_zero, Nat.mul_one, putL, and_self, ldn, ext_2_0, ext_2_1, t1, t4, t5, bsl_one, happ]
      have hidl := r1.lt
      have hxl := hX.len
      refine ⟨⟨j + 1, _, M3.length + 1, by omega, rfl, ((hX.dead (by omega)).one _ _).one _ _, o1.at_ (same_gen (by omega) hidl), by omega, ?_, rfl, by simp⟩, ?_⟩
      · rw [gainsTo_s, show (j : Int) + 2 = (j : Int) + 1 + 1 by omega]
        exact OwnB.here (by simp)
      · simp [intOf]; omega
    · have hlt' : ¬ ((j : Int) + 1 < 8) := by omega
      have e : j = 7 := by omega
      subst e
      simp (config := {implicitDefEqProofs := false, maxDischargeDepth := 20}) (disch := first | omega | (simp only [lenE]; done) | (simp only [lenE]; omega) | rfl | (simp only [lenE, markR_len]; done) | (simp only [lenE, markR_len]; omega)) only [runE, mapE, listE, initT_5, initT_6, initT_7, initT_8, resV, oneV, binA, unA, reduceCtorEq, Nat.reduceEqDiff, Nat.reduceAdd, Nat.reduceLT, Nat.reduceLeDiff, Nat.reduceMul, Nat.reduceSub, ↓reduceIte, decide_true, decide_false, Bool.true_eq_false, Bool.false_eq_true, Bool.not_true, Bool.not_false, if_true, if_false, and_true, true_and, memE, celE, w64, Nat.zero_add, Nat.add_zero, Nat.mul_one, putL, and_self, ldn, tm, t1, t4, t5, hlt']
      exact ext_ansL hX r1 (by omega) (by rw [gainsTo_len]) (by rw [gainsTo_len]; omega)
theorem implGains_rc (m : Mem) (v : Value) (k : Cs) (h : CaseA m v k) : RC Try.prog 41 [v] m (AnsL m (gainsA k) k.good) := by
  refine rc_of_run mixed ok_impl_LifeGains (by simp) (go_start _ _ _ ?_)
  obtain ⟨v1, v2, v3, v4, rfl, h1, h2, h3, h4⟩ := h.ro.ok
  have hX := (Ext.refl m).one 52 [v1, v2, v3, v4]
  simp (config := {implicitDefEqProofs := false, maxDischargeDepth := 20}) (disch := first | omega | (simp only [lenE]; done) | (simp only [lenE]; omega) | rfl | (simp only [lenE, markR_len]; done) | (simp only [lenE, markR_len]; omega)) only [runE, mapE, listE, initT_5, initT_6, initT_7, initT_8, resV, oneV, binA, unA, reduceCtorEq, Nat.reduceEqDiff, Nat.reduceAdd, Nat.reduceLT, Nat.reduceLeDiff, Nat.reduceMul, Nat.reduceSub, ↓reduceIte, decide_true, decide_false, Bool.true_eq_false, Bool.false_eq_true, Bool.not_true, Bool.not_false, if_true, if_false, and_true, true_and, memE, celE, w64, Nat.zero_add, Nat.add_zero, Nat.mul_one, putL, and_self, ldn, c_impl_LifeGains, r_impl_LifeGains]
  obtain ⟨M0, hM0⟩ : ∃ M0, M0 = roM m ++ [⟨.own, 52, [v1, v2, v3, v4]⟩] := ⟨_, rfl⟩
  have o1 : OwnB M0 m.length 52 [v1, v2, v3, v4] := by rw [hM0]; exact OwnB.here (by simp [roM_len])
  rw [← hM0] at hX ⊢
  have hc : ∀ M, Ext m M → CaseA M (.agg #[v1, v2, v3, v4]) k := fun M hX => ⟨_, _, _, _, rfl, hX.ints h1, hX.ints h2, hX.ints h3, hX.ints h4⟩
  refine callH_rc (implIsCase_rc _ _ k (hc _ hX)) ?_
  rintro r n1 ⟨rfl, nr1⟩
  replace hX := hX.app nr1
  replace o1 := o1.ext n1
  obtain ⟨M1, hM1⟩ : ∃ M1, M1 = M0 ++ n1 := ⟨_, rfl⟩
  rw [← hM1] at hX o1 ⊢
  unfold gainsA
  have hml := o1.lt
  cases hg : k.good with
  | false =>
    simp (config := {implicitDefEqProofs := false, maxDischargeDepth := 20}) (disch := first | omega | (simp only [lenE]; done) | (simp only [lenE]; omega) | rfl | (simp only [lenE, markR_len]; done) | (simp only [lenE, markR_len]; omega)) only [runE, mapE, listE, initT_5, initT_6, initT_7, initT_8, resV, oneV, binA, unA, reduceCtorEq, Nat.reduceEqDiff, Nat.reduceAdd, Nat.reduceLT, Nat.reduceLeDiff, Nat.reduceMul, Nat.reduceSub, ↓reduceIte, decide_true, decide_false, Bool.true_eq_false, Bool.false_eq_true, Bool.not_true, Bool.not_false, if_true, if_false, and_true, true_and, memE, celE, w64, Nat.zero_add, Nat.add_zero, Nat.mul_one, putL, and_self, ldn, bsl_none]
    exact ext_ansL (hX.one _ _) (OwnR.end' (l := []) rfl) (by omega) rfl (by simp)
  | true =>
    have gd := good_iff.1 hg
    rw [if_pos rfl]
    have eC : ∀ life : Int, 1 ≤ life → life ≤ 8 → bfC k life = (bfV k life).1 ∧ lifeOk k life = true := fun life h1 h8 => by
      have : lifeOk k life = true := lifeOk_iff.2 ⟨gd, h1, h8⟩
      exact ⟨by unfold bfC; rw [this, if_pos rfl], this⟩
    have r2 : OwnR (M1 ++ [⟨.own, 3, []⟩]) M1.length [] := OwnR.end' (l := []) rfl
    have o2 := o1.ext [⟨.own, 3, []⟩]
    have hX2 := hX.one 3 []
    obtain ⟨M2, hM2⟩ : ∃ M2, M2 = M1 ++ [⟨.own, 3, []⟩] := ⟨_, rfl⟩
    have m2l : M2.length = M1.length + 1 := by rw [hM2]; simp
    rw [← hM2] at r2 o2 hX2
    simp (config := {implicitDefEqProofs := false, maxDischargeDepth := 20}) (disch := first | omega | (simp only [lenE]; done) | (simp only [lenE]; omega) | rfl | (simp only [lenE, markR_len]; done) | (simp only [lenE, markR_len]; omega)) only [runE, mapE, listE, initT_5, initT_6, initT_7, initT_8, resV, oneV, binA, unA, reduceCtorEq, Nat.reduceEqDiff, Nat.reduceAdd, Nat.reduceLT, Nat.reduceLeDiff, Nat.reduceMul, Nat.reduceSub, ↓reduceIte, decide_true, decide_false, Bool.true_eq_false, Bool.false_eq_true, Bool.not_true, Bool.not_false, if_true, if_false, and_true, true_and, memE, celE, w64, Nat.zero_add, Nat.add_zero, Nat.mul_one, putL, and_self, ldn, bsl_no, o1.rd]
    rw [← hM2]
    refine callH_rc (implBestFresh_o M2 _ k 1 (hc _ hX2)) ?_
    rw [(eC 1 (by omega) (by omega)).1]
    rintro r n3 ⟨nr3, w, rfl, -⟩
    replace hX2 := hX2.app nr3
    replace o2 := o2.ext n3
    replace r2 := r2.ext n3
    obtain ⟨M3, hM3⟩ : ∃ M3, M3 = M2 ++ n3 := ⟨_, rfl⟩
    rw [← hM3] at hX2 o2 r2 ⊢
    simp (config := {implicitDefEqProofs := false, maxDischargeDepth := 20}) (disch := first | omega | (simp only [lenE]; done) | (simp only [lenE]; omega) | rfl | (simp only [lenE, markR_len]; done) | (simp only [lenE, markR_len]; omega)) only [runE, mapE, listE, initT_5, initT_6, initT_7, initT_8, resV, oneV, binA, unA, reduceCtorEq, Nat.reduceEqDiff, Nat.reduceAdd, Nat.reduceLT, Nat.reduceLeDiff, Nat.reduceMul, Nat.reduceSub, ↓reduceIte, decide_true, decide_false, Bool.true_eq_false, Bool.false_eq_true, Bool.not_true, Bool.not_false, if_true, if_false, and_true, true_and, memE, celE, w64, Nat.zero_add, Nat.add_zero, Nat.mul_one, putL, and_self, ldn, ext_3_0, ext_3_1, ext_3_2]
    refine loop_inv mixed (fun s => ∃ (j : Nat) (M : Mem) (id : Nat), j ≤ 7 ∧ s.m = M ∧ Ext m M ∧ OwnB M m.length 52 [v1, v2, v3, v4] ∧ m.length < id ∧ OwnR M id (gainsTo k j) ∧ s.t 1 = .pointer (some ⟨m.length, 0, none⟩) ∧ s.t 4 = .slice (some ⟨id, 0, none⟩) j 1 ∧ s.t 6 = .int .i64 (bfV k ((j : Int) + 1)).1 ∧ s.t 8 = .int .i64 ((j : Int) + 2)) (fun s => 9 - (intOf (s.t 8)).toNat)
      ⟨0, M3, M1.length, by omega, (by first | rfl | simp only [put_t, put_t', put_m, putT_t, putT_t', putT_m, init_t, init_m, initT_0, initT_1, initT_2, initT_3, initT_4, initT_5, initT_6, initT_7, initT_8, Nat.reduceEqDiff, ↓reduceIte]), hX2, o2, by omega, r2, rfl, rfl, rfl, rfl⟩ ?_
    clear hX2 o2 r2 hM3 hX o1
    rintro s ⟨j, M, id, hj, tm, hX, o1, hid, r1, t1, t4, t6, t8⟩
    have ml := o1.lt
    have bd1 := bfV_bd gd (life := (j : Int) + 1) (by omega)
    by_cases hlt : j < 7
    · have hlt' : (j : Int) + 2 ≤ 8 := by omega
      have bd2 := bfV_bd gd (life := (j : Int) + 2) (by omega)
      simp (config := {implicitDefEqProofs := false, maxDischargeDepth := 20}) (disch := first | omega | (simp only [lenE]; done) | (simp only [lenE]; omega) | rfl | (simp only [lenE, markR_len]; done) | (simp only [lenE, markR_len]; omega)) only [runE, mapE, listE, initT_5, initT_6, initT_7, initT_8, resV, oneV, binA, unA, reduceCtorEq, Nat.reduceEqDiff, Nat.reduceAdd, Nat.reduceLT, Nat.reduceLeDiff, Nat.reduceMul, Nat.reduceSub, ↓reduceIte, decide_true, decide_false, Bool.true_eq_false, Bool.false_eq_true, Bool.not_true, Bool.not_false, if_true, if_false, and_true, true_and, memE, celE, w64, Nat.zero_add, Nat.add_zero, Nat.mul_one, putL, and_self, ldn, tm, t1, t4, t6, t8, hlt', o1.rd]
      refine callH_rc (implBestFresh_o M _ k ((j : Int) + 2) (hc _ hX)) ?_
      rw [(eC ((j : Int) + 2) (by omega) (by omega)).1]
      rintro r n4 ⟨nr4, w4, rfl, -⟩
      replace hX := hX.app nr4
      replace o1 := o1.ext n4
      replace r1 := r1.ext n4
      obtain ⟨M4, hM4⟩ : ∃ M4, M4 = M ++ n4 := ⟨_, rfl⟩
      rw [← hM4] at hX o1 r1 ⊢
      have happ := app_num (x := (bfV k ((j : Int) + 1)).1 - (bfV k ((j : Int) + 2)).1) (id2 := M4.length) (n := j) r1 (by rw [gainsTo_len]; omega) rfl (by rw [gainsTo_len])
      simp (config := {implicitDefEqProofs := false, maxDischargeDepth := 20}) (disch := first | omega | (simp only [lenE]; done) | (simp only [lenE]; omega) | rfl | (simp only [lenE, markR_len]; done) | (simp only [lenE, markR_len]; omega)) only [runE, mapE, listE, initT_5, initT_6, initT_7, initT_8, resV, oneV, binA, unA, reduceCtorEq, Nat.reduceEqDiff, Nat.reduceAdd, Nat.reduceLT, Nat.reduceLeDiff, Nat.reduceMul, Nat.reduceSub, ↓reduceIte, decide_true, decide_false, Bool.true_eq_false, Bool.false_eq_true, Bool.not_true, Bool.not_false, if_true, if_false, and_true, true_and, memE, celE, w64, Nat.zero_add, Nat.add_zero, Nat.mul_one, putL, and_self, ldn, ext_3_0, ext_3_1, ext_3_2, t1, t4, t6, t8, bsl_one, happ]
      have hidl := r1.lt
      have hxl := hX.len
      refine ⟨⟨j + 1, _, M4.length + 1, by omega, rfl, ((hX.dead (by omega)).one _ _).one _ _, o1.at_ (same_gen (by omega) hidl), by omega, ?_, rfl, by congr 3 <;> omega, by congr 1 <;> omega⟩, ?_⟩
      · rw [gainsTo_s]
        exact OwnB.here (by simp)
      · simp [intOf]; omega
    · have hlt' : ¬ ((j : Int) + 2 ≤ 8) := by omega
      have e : j = 7 := by omega
      subst e
      simp (config := {implicitDefEqProofs := false, maxDischargeDepth := 20}) (disch := first | omega | (simp only [lenE]; done) | (simp only [lenE]; omega) | rfl | (simp only [lenE, markR_len]; done) | (simp only [lenE, markR_len]; omega)) only [runE, mapE, listE, initT_5, initT_6, initT_7, initT_8, resV, oneV, binA, unA, reduceCtorEq, Nat.reduceEqDiff, Nat.reduceAdd, Nat.reduceLT, Nat.reduceLeDiff, Nat.reduceMul, Nat.reduceSub, ↓reduceIte, decide_true, decide_false, Bool.true_eq_false, Bool.false_eq_true, Bool.not_true, Bool.not_false, if_true, if_false, and_true, true_and, memE, celE, w64, Nat.zero_add, Nat.add_zero, Nat.mul_one, putL, and_self, ldn, tm, t1, t4, t6, t8, hlt']
      exact ext_ansL hX r1 (by omega) (by rw [gainsTo_len]) (by rw [gainsTo_len]; omega)
end Go.Proofs.Ytdgfbmilbhckiaa.Ab
end
section
namespace Go.Proofs.Ytdgfbmilbhckiaa.Ab
open Go Go.RowKit
set_option linter.unusedVariables false
set_option linter.unusedSimpArgs false
theorem orderCost_rc (m : Mem) (v : Value) (k : Cs) (i j : Nat) (h : CaseA m v k) (hg : Good k) (hij : i < j) (hj : j ≤ k.need.length) :
    RC Try.prog 120 [v, .int .i64 i, .int .i64 j] m (AnsV (.int .i64 (spanF k i j))) := by
  refine rc_of_run mixed ok_impl_orderCost (by simp) (go_start _ _ _ ?_)
  obtain ⟨v1, v2, v3, v4, rfl, h1, h2, h3, h4⟩ := h.ro.ok
  have h8 := hg.n8
  have g0 := hg.ls
  have g1 := hg.lu
  have g2 := hg.lh
  obtain ⟨c1, e1, d1⟩ := (h1.ext [⟨.own, 52, [v1, v2, v3, v4]⟩]).cut (Nat.le_of_lt hij) hj
  simp (config := {implicitDefEqProofs := false, maxDischargeDepth := 20}) (disch := first | omega | (simp only [lenE]; done) | (simp only [lenE]; omega) | rfl | (simp only [lenE, markR_len]; done) | (simp only [lenE, markR_len]; omega)) only [runE, mapE, listE, initT_5, initT_6, initT_7, initT_8, resV, oneV, binA, unA, reduceCtorEq, Nat.reduceEqDiff, Nat.reduceAdd, Nat.reduceLT, Nat.reduceLeDiff, Nat.reduceMul, Nat.reduceSub, ↓reduceIte, decide_true, decide_false, Bool.true_eq_false, Bool.false_eq_true, Bool.not_true, Bool.not_false, if_true, if_false, and_true, true_and, memE, celE, w64, Nat.zero_add, Nat.add_zero, Nat.mul_one, putL, and_self, ldn, c_impl_orderCost, r_impl_orderCost, e1]
  refine callH_rc (sumOf_cut_rc _ _ k.need (b := 20) d1 (by omega) hj (by omega) (by omega) hg.need (by omega)) ?_
  rintro r new ⟨rfl, rfl⟩
  have s0 := sumR_nn (m := 20) (by omega) hg.need (i := i) (j := j) (by omega)
  have s1 := sumR_le8 (m := 20) (by omega) hg.need (i := i) (j := j) (by omega) (by omega)
  by_cases hz : sumR k.need i j = 0
  · have hz' : (sumR k.need i j == 0) = true := by simp [hz]
    simp (config := {implicitDefEqProofs := false, maxDischargeDepth := 20}) (disch := first | omega | (simp only [lenE]; done) | (simp only [lenE]; omega) | rfl | (simp only [lenE, markR_len]; done) | (simp only [lenE, markR_len]; omega)) only [runE, mapE, listE, initT_5, initT_6, initT_7, initT_8, resV, oneV, binA, unA, reduceCtorEq, Nat.reduceEqDiff, Nat.reduceAdd, Nat.reduceLT, Nat.reduceLeDiff, Nat.reduceMul, Nat.reduceSub, ↓reduceIte, decide_true, decide_false, Bool.true_eq_false, Bool.false_eq_true, Bool.not_true, Bool.not_false, if_true, if_false, and_true, true_and, memE, celE, w64, Nat.zero_add, Nat.add_zero, Nat.mul_one, putL, and_self, ldn, hz']
    exact ext_ansV ((Ext.refl m).one _ _) (by rw [spanF_zero k hz])
  · have hz' : (sumR k.need i j == 0) = false := by simp [hz]
    have u0 := getD_bound (m := 9) (by omega) hg.unit i
    have u1 := mul_bound u0.1 u0.2 s0 s1
    have u2 := getD_bound (m := 99) (by omega) hg.setup i
    have i2 := h2.ext [⟨.own, 52, [v1, v2, v3, v4]⟩]
    have i3 := h3.ext [⟨.own, 52, [v1, v2, v3, v4]⟩]
    have i1 := h1.ext [⟨.own, 52, [v1, v2, v3, v4]⟩]
    have i4 := h4.ext [⟨.own, 52, [v1, v2, v3, v4]⟩]
    have so := spanF_order k (Nat.le_of_lt hij) (by omega : 0 < sumR k.need i j)
    simp (config := {implicitDefEqProofs := false, maxDischargeDepth := 20}) (disch := first | omega | (simp only [lenE]; done) | (simp only [lenE]; omega) | rfl | (simp only [lenE, markR_len]; done) | (simp only [lenE, markR_len]; omega)) only [runE, mapE, listE, initT_5, initT_6, initT_7, initT_8, resV, oneV, binA, unA, reduceCtorEq, Nat.reduceEqDiff, Nat.reduceAdd, Nat.reduceLT, Nat.reduceLeDiff, Nat.reduceMul, Nat.reduceSub, ↓reduceIte, decide_true, decide_false, Bool.true_eq_false, Bool.false_eq_true, Bool.not_true, Bool.not_false, if_true, if_false, and_true, true_and, memE, celE, w64, Nat.zero_add, Nat.add_zero, Nat.mul_one, putL, and_self, ldn, hz', i2.at_ i (by omega), i2.ld i (by omega), i3.at_ i (by omega), i3.ld i (by omega)]
    refine loop_inv mixed (fun s => ∃ x : Nat, i ≤ x ∧ x ≤ j ∧ s.t 2 = .int .i64 j ∧ s.t 3 = .pointer (some ⟨m.length, 0, none⟩) ∧ s.t 7 = .int .i64 (sumR k.need x j) ∧ s.t 8 = .int .i64 (k.setup.getD i 0 + k.unit.getD i 0 * sumR k.need i j + holdS k i j x) ∧ s.t 9 = .int .i64 x ∧ s.m = roM m ++ [⟨.own, 52, [v1, v2, v3, v4]⟩]) (fun s => j - (intOf (s.t 9)).toNat)
      ⟨i, Nat.le_refl _, by omega, rfl, rfl, rfl, by rw [holdS_self, Int.add_zero]; rfl, rfl, rfl⟩ ?_
    rintro s ⟨x, hix, hxj, t2, t3, t7, t8, t9, tm⟩
    by_cases hlt : x < j
    · have hlt' : (x : Int) < j := by omega
      have w0 := sumR_h k.need x j
      have w1 := sumR_nn (m := 20) (by omega) hg.need (i := x + 1) (j := j) (by omega)
      have w2 := sumR_le8 (m := 20) (by omega) hg.need (i := x + 1) (j := j) (by omega) (by omega)
      have w3 := getD_bound (m := 9) (by omega) hg.hold x
      have w4 := mul_bound w3.1 w3.2 w1 w2
      have w5 := getD_bound (m := 20) (by omega) hg.need x
      have w6 := holdS_in' hg hix hxj (by omega)
      have w7 : sumR k.need x j - k.need.getD x 0 = sumR k.need (x + 1) j := by omega
      have w8 := holdS_s k (j := j) hix
      simp (config := {implicitDefEqProofs := false, maxDischargeDepth := 20}) (disch := first | omega | (simp only [lenE]; done) | (simp only [lenE]; omega) | rfl | (simp only [lenE, markR_len]; done) | (simp only [lenE, markR_len]; omega)) only [runE, mapE, listE, initT_5, initT_6, initT_7, initT_8, resV, oneV, binA, unA, reduceCtorEq, Nat.reduceEqDiff, Nat.reduceAdd, Nat.reduceLT, Nat.reduceLeDiff, Nat.reduceMul, Nat.reduceSub, ↓reduceIte, decide_true, decide_false, Bool.true_eq_false, Bool.false_eq_true, Bool.not_true, Bool.not_false, if_true, if_false, and_true, true_and, memE, celE, w64, Nat.zero_add, Nat.add_zero, Nat.mul_one, putL, and_self, ldn, t2, t3, t7, t8, t9, tm, hlt', i1.at_ x (by omega), i1.ld x (by omega), i4.at_ x (by omega), i4.ld x (by omega), w7]
      exact ⟨⟨x + 1, by omega, by omega, rfl, by rw [w8]; congr 1; omega, by simp⟩, by simp [intOf]; omega⟩
    · have hlt' : ¬ ((x : Int) < j) := by omega
      have e : x = j := by omega
      subst e
      simp (config := {implicitDefEqProofs := false, maxDischargeDepth := 20}) (disch := first | omega | (simp only [lenE]; done) | (simp only [lenE]; omega) | rfl | (simp only [lenE, markR_len]; done) | (simp only [lenE, markR_len]; omega)) only [runE, mapE, listE, initT_5, initT_6, initT_7, initT_8, resV, oneV, binA, unA, reduceCtorEq, Nat.reduceEqDiff, Nat.reduceAdd, Nat.reduceLT, Nat.reduceLeDiff, Nat.reduceMul, Nat.reduceSub, ↓reduceIte, decide_true, decide_false, Bool.true_eq_false, Bool.false_eq_true, Bool.not_true, Bool.not_false, if_true, if_false, and_true, true_and, memE, celE, w64, Nat.zero_add, Nat.add_zero, Nat.mul_one, putL, and_self, ldn, t2, t3, t7, t8, t9, tm, hlt']
      exact ext_ansV ((Ext.refl m).one _ _) (by rw [so])

end Go.Proofs.Ytdgfbmilbhckiaa.Ab
end
section
namespace Go.Proofs.Ytdgfbmilbhckiaa.Ab
open Go Go.RowKit
set_option linter.unusedVariables false
set_option linter.unusedSimpArgs false
structure Gw (mid : Nat) (m m' : Mem) : Prop where
  len : m.length ≤ m'.length
  old : ∀ id, id < m.length → id ≠ mid → m'[id]? = m[id]?
  new : ∀ id b, m.length ≤ id → m'[id]? = some b → b.kd ≠ .ro
  at_ : ∀ b, m'[mid]? = some b → b.kd ≠ .ro
theorem Gw.refl {mid : Nat} {m : Mem} (h : ∀ b, m[mid]? = some b → b.kd ≠ .ro) : Gw mid m m :=
  ⟨Nat.le_refl _, fun _ _ _ => rfl, fun id b h1 h2 => absurd (List.getElem?_eq_some_iff.1 h2).1 (by omega), h⟩
theorem Gw.app {mid : Nat} {m m' new : Mem} (h : Gw mid m m') (hn : NoRo new) : Gw mid m (m' ++ new) := by
  have key : ∀ (id : Nat) (b : Blk), (m' ++ new)[id]? = some b → m'[id]? = some b ∨ b.kd ≠ .ro := by
    intro id b hb
    by_cases hi : id < m'.length
    · rw [List.getElem?_append_left hi] at hb; exact .inl hb
    · rw [List.getElem?_append_right (by omega)] at hb; exact .inr (hn b (List.mem_of_getElem? hb))
  refine ⟨by rw [List.length_append]; have := h.len; omega, fun id h1 h2 => ?_, fun id b h1 h2 => ?_, fun b h2 => ?_⟩
  · rw [List.getElem?_append_left (by have := h.len; omega)]; exact h.old id h1 h2
  · rcases key id b h2 with h3 | h3
    · exact h.new id b h1 h3
    · exact h3
  · rcases key mid b h2 with h3 | h3
    · exact h.at_ b h3
    · exact h3
theorem Gw.one {mid : Nat} {m m' : Mem} (h : Gw mid m m') (e : TypeId) (cs : List Value) : Gw mid m (m' ++ [⟨.own, e, cs⟩]) := h.app (noRo_own noRo_nil)
theorem Gw.set {mid : Nat} {m m' : Mem} (h : Gw mid m m') {id : Nat} {b : Blk} (hid : m.length ≤ id ∨ id = mid) (hb : b.kd ≠ .ro) : Gw mid m (m'.set id b) := by
  refine ⟨by rw [List.length_set]; exact h.len, fun i h1 h2 => ?_, fun i b2 h1 h2 => ?_, fun b2 h2 => ?_⟩
  · rw [List.getElem?_set_ne (by omega)]; exact h.old i h1 h2
  · rcases at_set h2 with ⟨_, h3⟩ | ⟨_, h3, _⟩
    · exact h.new i b2 h1 h3
    · rw [← h3]; exact hb
  · rcases at_set h2 with ⟨_, h3⟩ | ⟨_, h3, _⟩
    · exact h.at_ b2 h3
    · rw [← h3]; exact hb
theorem Gw.trans {mid : Nat} {a b c : Mem} (h : Gw mid a b) (h' : Gw mid b c) : Gw mid a c := by
  have l1 := h.len
  have l2 := h'.len
  refine ⟨by omega, fun i h1 h2 => (h'.old i (by omega) h2).trans (h.old i h1 h2), fun i x h1 h2 => ?_, h'.at_⟩
  by_cases e : i = mid
  · subst e; exact h'.at_ x h2
  · by_cases hi : i < b.length
    · rw [h'.old i hi e] at h2; exact h.new i x h1 h2
    · exact h'.new i x (by omega) h2
theorem Gw.blk {mid : Nat} {m m' : Mem} (h : Gw mid m m') {id : Nat} {b : Blk} (hb : m[id]? = some b) (hne : id ≠ mid) : m'[id]? = some b := by
  rw [h.old id (List.getElem?_eq_some_iff.1 hb).1 hne]; exact hb
theorem rdc_blk {m : Mem} {id k : Nat} {v : Value} (h : rdc m id k = some v) : ∃ b, m[id]? = some b ∧ b.kd ≠ .dead := by
  unfold rdc at h
  cases hm : m[id]? with
  | none => rw [hm] at h; cases h
  | some b =>
    rw [hm] at h
    refine ⟨b, rfl, fun e => ?_⟩
    simp only [e, if_true] at h
    cases h
theorem Gw.rd {mid : Nat} {m m' : Mem} (h : Gw mid m m') {e : TypeId} {cs : List Value} (hd : m[mid]? = some ⟨.dead, e, cs⟩) {id k : Nat} {v : Value} (hv : rdc m id k = some v) : rdc m' id k = some v := by
  obtain ⟨b, hb, hk⟩ := rdc_blk hv
  have hne : id ≠ mid := fun e => by subst e; rw [hd] at hb; cases hb; exact hk rfl
  unfold rdc at hv ⊢
  rw [h.old id (List.getElem?_eq_some_iff.1 hb).1 hne]; exact hv
theorem IntsA.of_at {m m' : Mem} {id off n fl : Nat} {l : List Int} (h : IntsA m (.slice (some ⟨id, off, none⟩) n fl) l) (e : m'[id]? = m[id]?) : IntsA m' (.slice (some ⟨id, off, none⟩) n fl) l := by
  refine ⟨h.len, h.bd, h.at_, fun k hk => ?_, ?_⟩
  · have := h.ld k hk
    simp only [pAt, ldA, rdc] at this ⊢
    rw [e]; exact this
  · have := h.src
    simp only [slR, rdl] at this ⊢
    rw [e]; exact this
theorem Gw.ints {mid : Nat} {m m' : Mem} (h : Gw mid m m') {e : TypeId} {cs : List Value} (hd : m[mid]? = some ⟨.dead, e, cs⟩) {v : Value} {l : List Int} (hi : IntsA m v l) : IntsA m' v l := by
  rcases hi.form with ⟨rfl, rfl⟩ | ⟨id, off, fl, rfl⟩
  · exact IntsA.nil m'
  · have hs := hi.src
    simp only [slR, rdl] at hs
    cases hb : m[id]? with
    | none => rw [hb] at hs; cases hs
    | some b =>
      rw [hb] at hs
      refine hi.of_at (h.old id (List.getElem?_eq_some_iff.1 hb).1 fun e2 => ?_)
      subst e2
      rw [hd] at hb
      cases hb
      simp at hs
theorem Gw.case {mid : Nat} {m m' : Mem} (h : Gw mid m m') {e : TypeId} {cs : List Value} (hd : m[mid]? = some ⟨.dead, e, cs⟩) {v : Value} {k : Cs} (hk : CaseA m v k) : CaseA m' v k := by
  obtain ⟨v1, v2, v3, v4, e0, h1, h2, h3, h4⟩ := hk.ok
  exact ⟨v1, v2, v3, v4, e0, h.ints hd h1, h.ints hd h2, h.ints hd h3, h.ints hd h4⟩
theorem Gw.own {mid : Nat} {m m' : Mem} (h : Gw mid m m') {e : TypeId} {cs : List Value} (hd : m[mid]? = some ⟨.dead, e, cs⟩) {id : Nat} {l : List Int} (ho : OwnR m id l) : OwnR m' id l := by
  refine h.blk ho fun e2 => ?_
  subst e2
  have : m[id]? = some (rowB l) := ho
  rw [hd] at this
  cases this
def RowV (M : Mem) (v : Value) (l : List Int) : Prop := (v = .slice none 0 0 ∧ l = []) ∨ ∃ id fl, v = .slice (some ⟨id, 0, none⟩) l.length fl ∧ OwnR M id l ∧ l.length ≤ 1048576
theorem RowV.ints {M : Mem} {v : Value} {l : List Int} (h : RowV M v l) : IntsA M v l := by
  rcases h with ⟨rfl, rfl⟩ | ⟨id, fl, rfl, ho, hl⟩
  · exact IntsA.nil M
  · exact ho.ints (by omega) fl
theorem RowV.keep {M M' : Mem} {v : Value} {l : List Int} (h : RowV M v l) (hk : ∀ id l, OwnR M id l → OwnR M' id l) : RowV M' v l := by
  rcases h with h | ⟨id, fl, h1, ho, hl⟩
  · exact .inl h
  · exact .inr ⟨id, fl, h1, hk id l ho, hl⟩
def LotV (M : Mem) (v : Value) (c : Int) (l : List Int) : Prop := ∃ A ln cp, v = .agg #[.int .i64 c, .slice A ln cp] ∧ RowV M (.slice A ln cp) l
theorem LotV.keep {M M' : Mem} {v : Value} {c : Int} {l : List Int} (h : LotV M v c l) (hk : ∀ id l, OwnR M id l → OwnR M' id l) : LotV M' v c l := by
  obtain ⟨A, ln, cp, h1, h2⟩ := h
  exact ⟨A, ln, cp, h1, h2.keep hk⟩
structure MG (k : Cs) (mid : Nat) (e : TypeId) (es : List Value) (M : Mem) : Prop where
  mp : M[mid]? = some ⟨.dead, e, .bool true :: es⟩
  ok : ∀ x v, lkE es x = some v → ∃ j : Nat, x = j ∧ j ≤ k.need.length ∧ LotV M v (costL k k.need.length (dp k k.need.length j)) (dp k k.need.length j)
  end_ : (lkE es k.need.length).isSome = true
theorem MG.keep {k : Cs} {mid : Nat} {e : TypeId} {es : List Value} {M M' : Mem} (h : MG k mid e es M) (hm : M'[mid]? = M[mid]?) (hk : ∀ id l, OwnR M id l → OwnR M' id l) : MG k mid e es M' :=
  ⟨hm.trans h.mp, fun x v hv => by obtain ⟨j, h1, h2, h3⟩ := h.ok x v hv; exact ⟨j, h1, h2, h3.keep hk⟩, h.end_⟩
theorem MG.app {k : Cs} {mid : Nat} {e : TypeId} {es : List Value} {M : Mem} (h : MG k mid e es M) (R : Mem) : MG k mid e es (M ++ R) :=
  h.keep (List.getElem?_append_left (List.getElem?_eq_some_iff.1 h.mp).1) fun id l ho => ho.ext R
theorem MG.box {k : Cs} {mid : Nat} {e : TypeId} {es : List Value} {M : Mem} (h : MG k mid e es M) {id : Nat} {t : TypeId} {cs : List Value} {b : Blk} (hb : M[id]? = some ⟨.own, t, cs⟩) (ht : t ≠ 3) : MG k mid e es (M.set id b) := by
  refine h.keep (List.getElem?_set_ne fun e2 => ?_) fun i l ho => ho.set_ne fun e2 => ?_
  · subst e2; have := h.mp; rw [hb] at this; cases this
  · subst e2
    have : M[id]? = some (rowB l) := ho
    rw [hb] at this
    cases this
    exact ht rfl
structure LEnv (k : Cs) (v1 v2 v3 v4 : Value) (kb cb nb fb mid : Nat) (e : TypeId) (es : List Value) (m : Mem) : Prop where
  rk : rdc m kb 0 = some (.map (some mid))
  c0 : rdc m cb 0 = some v1
  c1 : rdc m cb 1 = some v2
  c2 : rdc m cb 2 = some v3
  c3 : rdc m cb 3 = some v4
  hc : CaseA m (.agg #[v1, v2, v3, v4]) k
  rn : rdc m nb 0 = some (.int .i64 k.need.length)
  rf : rdc m fb 0 = some (.func (.func 119) #[] #[.pointer (some ⟨kb, 0, none⟩), .pointer (some ⟨cb, 0, none⟩), .pointer (some ⟨nb, 0, none⟩), .pointer (some ⟨fb, 0, none⟩)])
  g : MG k mid e es m
theorem LEnv.gw {k : Cs} {v1 v2 v3 v4 : Value} {kb cb nb fb mid : Nat} {e : TypeId} {es es' : List Value} {m m' : Mem} (h : LEnv k v1 v2 v3 v4 kb cb nb fb mid e es m) (hg : Gw mid m m') (h2 : MG k mid e es' m') :
    LEnv k v1 v2 v3 v4 kb cb nb fb mid e es' m' :=
  ⟨hg.rd h.g.mp h.rk, hg.rd h.g.mp h.c0, hg.rd h.g.mp h.c1, hg.rd h.g.mp h.c2, hg.rd h.g.mp h.c3, hg.case h.g.mp h.hc, hg.rd h.g.mp h.rn, hg.rd h.g.mp h.rf, h2⟩
theorem rdc_lt {m : Mem} {id k : Nat} {v : Value} (h : rdc m id k = some v) : id < m.length := by
  obtain ⟨b, hb, _⟩ := rdc_blk h
  exact (List.getElem?_eq_some_iff.1 hb).1
theorem lkA_mp {M : Mem} {mid : Nat} {e : TypeId} {es : List Value} (h : M[mid]? = some ⟨.dead, e, .bool true :: es⟩) (z : Value) (x : Int) : lkA M true z (.map (some mid)) (.int .i64 x) = some (.tuple #[(lkE es x).getD z, .bool (lkE es x).isSome]) := by
  simp [lkA, mapOf, mapB, h]
theorem mupA_mp {M : Mem} {mid : Nat} {e : TypeId} {es : List Value} (h : M[mid]? = some ⟨.dead, e, .bool true :: es⟩) {x : Int} (hx : lkE es x = none) (v : Value) : mupA M (.map (some mid)) (.int .i64 x) v = some (M.set mid ⟨.dead, e, .bool true :: (es ++ [.tuple #[.int .i64 x, v]])⟩) := by
  simp [mupA, mapOf, mapB, h, hx]
theorem lkE_app : ∀ (es : List Value) (x y : Int) (v : Value), lkE (es ++ [.tuple #[.int .i64 y, v]]) x = match lkE es x with
    | some u => some u
    | none => if y = x then some v else none := by
  intro es
  induction es with
  | nil => intro x y v; simp [lkE]
  | cons a es ih =>
    intro x y v
    rw [List.cons_append]
    cases a with
    | tuple q =>
      simp only [lkE]
      split
      · split
        · rfl
        · exact ih x y v
      · exact ih x y v
    | _ => exact ih x y v
theorem rd_own {M : Mem} {id k : Nat} {t : TypeId} {cs : List Value} (h : M[id]? = some ⟨.own, t, cs⟩) : rdc M id k = cs[k]? := by
  simp [rdc, h]
theorem st2_own {M : Mem} {id : Nat} {t : TypeId} {a b : Value} (h : M[id]? = some ⟨.own, t, [a, b]⟩) (x : Int) (A : Option Addr) (ln cp : Nat) : stA M id 0 [.int .i64 x, .slice A ln cp] = some (M.set id ⟨.own, t, [.int .i64 x, .slice A ln cp]⟩) := by
  simp [stA, h, onesB, Value.oneCell', putL]
theorem dp_beg {k : Cs} {n nx : Nat} (h : nx ≤ n) : beg n (dp k n nx) 0 = nx := ((dp_min k n (n - nx) nx (by omega)).1).2
theorem dp_rising {k : Cs} {n nx : Nat} (h : nx ≤ n) : Rising (dp k n nx) n := ((dp_min k n (n - nx) nx (by omega)).1).1
end Go.Proofs.Ytdgfbmilbhckiaa.Ab
end
