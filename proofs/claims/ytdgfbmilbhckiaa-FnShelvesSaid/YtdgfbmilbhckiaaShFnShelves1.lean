/- What the law needs of the texts that it rests on. -/
import Derived.Test.YtdgfbmilbhckiaaShFnShelves0
section
namespace Go.Proofs.Ytdgfbmilbhckiaa
set_option linter.unusedVariables false
set_option linter.unusedSimpArgs false
structure Rising (ps : List Int) (n : Nat) : Prop where
  bd : ∀ i, i < ps.length → 0 ≤ ps.getD i 0 ∧ ps.getD i 0 < n
  up : ∀ i, i + 1 < ps.length → ps.getD i 0 < ps.getD (i + 1) 0
def bitsL (c : Nat) : Nat → List Int
  | 0 => []
  | x + 1 => if c / 2 ^ x % 2 = 1 then bitsL c x ++ [(x : Int)] else bitsL c x
theorem bitsL_len (c x : Nat) : (bitsL c x).length ≤ x := by
  induction x with
  | zero => simp [bitsL]
  | succ x ih =>
    rw [bitsL]
    split
    · rw [List.length_append]; simp only [List.length_cons, List.length_nil]; omega
    · omega
theorem bitsL_mem (c x : Nat) : ∀ y ∈ bitsL c x, 0 ≤ y ∧ y < (x : Int) := by
  induction x with
  | zero => intro y hy; simp [bitsL] at hy
  | succ x ih =>
    intro y hy
    rw [bitsL] at hy
    split at hy
    · rcases List.mem_append.1 hy with h | h
      · have := ih y h; omega
      · simp at h; omega
    · have := ih y hy; omega
theorem getD_app_l (l r : List Int) {i : Nat} (h : i < l.length) : (l ++ r).getD i 0 = l.getD i 0 := by
  rw [List.getD_eq_getElem?_getD, List.getElem?_append_left h, ← List.getD_eq_getElem?_getD]
theorem getD_app_one (l : List Int) (x : Int) : (l ++ [x]).getD l.length 0 = x := by simp [List.getD_eq_getElem?_getD]
theorem getD_mem {l : List Int} {i : Nat} (h : i < l.length) : l.getD i 0 ∈ l := by
  rw [List.getD_eq_getElem?_getD, List.getElem?_eq_getElem h]; exact List.getElem_mem h
theorem bitsL_rising (c x : Nat) : Rising (bitsL c x) x := by
  refine ⟨fun i hi => bitsL_mem c x _ (getD_mem hi), ?_⟩
  induction x with
  | zero => intro i hi; simp [bitsL] at hi
  | succ x ih =>
    intro i hi
    rw [bitsL] at hi ⊢
    by_cases hb : c / 2 ^ x % 2 = 1
    · rw [if_pos hb] at hi ⊢
      simp only [List.length_append, List.length_cons, List.length_nil] at hi
      rw [getD_app_l _ _ (by omega)]
      by_cases h2 : i + 1 < (bitsL c x).length
      · rw [getD_app_l _ _ h2]; exact ih i h2
      · have e : i + 1 = (bitsL c x).length := by omega
        rw [e, getD_app_one]
        exact (bitsL_mem c x _ (getD_mem (by omega))).2
    · rw [if_neg hb] at hi ⊢; exact ih i hi
def lexB : List Int → List Int → Bool
  | x :: xs, y :: ys => if x = y then lexB xs ys else decide (x < y)
  | _, _ => false
def beforeB (a b : List Int) : Bool := if a.length = b.length then lexB a b else decide (a.length < b.length)
theorem lexB_drop {a b : List Int} {i : Nat} (ha : i < a.length) (hb : i < b.length) : lexB (a.drop i) (b.drop i) = if a.getD i 0 = b.getD i 0 then lexB (a.drop (i + 1)) (b.drop (i + 1)) else decide (a.getD i 0 < b.getD i 0) := by
  rw [List.drop_eq_getElem_cons ha, List.drop_eq_getElem_cons hb, lexB]
  simp [List.getD_eq_getElem?_getD, ha, hb]
def beg (n : Nat) (ps : List Int) (i : Nat) : Nat := if i < ps.length then (ps.getD i 0).toNat else n
theorem Rising.lt {ps : List Int} {n : Nat} (h : Rising ps n) {i j : Nat} (hij : i < j) (hj : j < ps.length) : ps.getD i 0 < ps.getD j 0 := by
  induction j with
  | zero => omega
  | succ j ih =>
    have := h.up j hj
    by_cases e : i = j
    · subst e; exact this
    · have := ih (by omega) (by omega); omega
theorem Rising.nil (n : Nat) : Rising [] n := ⟨fun i hi => absurd hi (by simp), fun i hi => absurd hi (by simp)⟩
theorem beg_le {n : Nat} {ps : List Int} (h : Rising ps n) (i : Nat) : beg n ps i ≤ n := by
  unfold beg
  split
  · have := h.bd i ‹_›; omega
  · omega
theorem beg_nil (n i : Nat) : beg n [] i = n := by simp [beg]
theorem beg_cons0 (n : Nat) (p : Int) (r : List Int) : beg n (p :: r) 0 = p.toNat := by simp [beg]
theorem Rising.tail {p : Int} {r : List Int} {n : Nat} (h : Rising (p :: r) n) : Rising r n ∧ 0 ≤ p ∧ p.toNat < beg n r 0 := by
  have h0 := h.bd 0 (by simp)
  simp only [List.getD_cons_zero] at h0
  refine ⟨⟨fun i hi => ?_, fun i hi => ?_⟩, h0.1, ?_⟩
  · have := h.bd (i + 1) (by simpa using hi); simpa using this
  · have := h.up (i + 1) (by simpa using hi); simpa using this
  · unfold beg
    split
    · rename_i hl
      have := h.up 0 (by simpa using hl)
      simp only [List.getD_cons_zero, Nat.zero_add, List.getD_cons_succ] at this
      omega
    · omega
theorem Rising.cons {p : Int} {r : List Int} {n : Nat} (h : Rising r n) (h0 : 0 ≤ p) (hp : p.toNat < beg n r 0) : Rising (p :: r) n := by
  have hb := beg_le h 0
  refine ⟨fun i hi => ?_, fun i hi => ?_⟩
  · cases i with
    | zero => simp only [List.getD_cons_zero]; omega
    | succ i => have := h.bd i (by simpa using hi); simpa using this
  · cases i with
    | zero =>
      simp only [List.getD_cons_zero, Nat.zero_add, List.getD_cons_succ]
      have hl : 0 < r.length := by simpa using hi
      unfold beg at hp
      rw [if_pos hl] at hp
      omega
    | succ i => have := h.up i (by simpa using hi); simpa using this

theorem Rising.len {n : Nat} : ∀ {ps : List Int}, Rising ps n → ps.length + beg n ps 0 ≤ n := by
  intro ps
  induction ps with
  | nil => intro h; rw [beg_nil]; simp
  | cons p r ih =>
    intro h
    obtain ⟨h1, h2, h3⟩ := h.tail
    have := ih h1
    rw [beg_cons0, List.length_cons]
    omega
def bef (a b : Int × List Int) : Bool := if a.1 = b.1 then beforeB a.2 b.2 else decide (a.1 < b.1)
def IsMin (S : List Int → Prop) (f : List Int → Int) (b : List Int) : Prop := S b ∧ ∀ y, S y → y = b ∨ bef (f b, b) (f y, y) = true
theorem IsMin.congr {S T : List Int → Prop} {f : List Int → Int} {a : List Int} (ha : IsMin S f a) (h : ∀ y, T y ↔ S y) : IsMin T f a :=
  ⟨(h a).2 ha.1, fun y hy => ha.2 y ((h y).1 hy)⟩
theorem bits_all : ∀ (n : Nat) (ps : List Int), Rising ps n → ∃ c, c < 2 ^ n ∧ ps = bitsL c n := by
  intro n
  induction n with
  | zero =>
    intro ps h
    cases ps with
    | nil => exact ⟨0, by simp, rfl⟩
    | cons p r => have := h.bd 0 (by simp); simp at this; omega
  | succ n ih =>
    intro ps h
    have low : ∀ (c x : Nat), x ≤ n → bitsL (c + 2 ^ n) x = bitsL c x := by
      intro c x hx
      induction x with
      | zero => rfl
      | succ x ihx =>
        have e : (c + 2 ^ n) / 2 ^ x % 2 = c / 2 ^ x % 2 := by
          have h1 : 2 ^ n = 2 ^ x * (2 * 2 ^ (n - x - 1)) := by
            rw [← Nat.pow_succ', ← Nat.pow_add]; congr 1; omega
          rw [h1, Nat.add_mul_div_left _ _ (Nat.two_pow_pos x), Nat.add_mul_mod_self_left]
        rw [bitsL, bitsL, e, ihx (by omega)]
    by_cases hl : 0 < ps.length ∧ ps.getD (ps.length - 1) 0 = n
    · have hd : ps = ps.dropLast ++ [(n : Int)] := by
        have hne : ps ≠ [] := by intro e; rw [e] at hl; simp at hl
        have := List.dropLast_concat_getLast hne
        rw [← this]
        congr 1
        · simp
        · congr 1
          have h2 := hl.2
          rw [List.getD_eq_getElem?_getD, List.getElem?_eq_getElem (by omega)] at h2
          rw [List.getLast_eq_getElem]
          simpa using h2
      have hlen : ps.dropLast.length = ps.length - 1 := List.length_dropLast
      have hget : ∀ i, i < ps.length - 1 → ps.dropLast.getD i 0 = ps.getD i 0 := fun i hi => by
        rw [List.getD_eq_getElem?_getD, List.getD_eq_getElem?_getD, List.getElem?_dropLast, if_pos hi]
      have hr : Rising ps.dropLast n := by
        refine ⟨fun i hi => ?_, fun i hi => ?_⟩
        · rw [hget i (by omega)]
          have h1 := h.bd i (by omega)
          have h2 := h.lt (i := i) (j := ps.length - 1) (by omega) (by omega)
          rw [hl.2] at h2
          omega
        · rw [hget i (by omega), hget (i + 1) (by omega)]
          exact h.up i (by omega)
      obtain ⟨c, hc, he⟩ := ih _ hr
      refine ⟨c + 2 ^ n, by rw [Nat.pow_succ]; omega, ?_⟩
      have hbit : (c + 2 ^ n) / 2 ^ n % 2 = 1 := by
        rw [Nat.add_div_right _ (Nat.two_pow_pos n), Nat.div_eq_of_lt hc]
      rw [bitsL, if_pos hbit, low c n (Nat.le_refl _), ← he]
      exact hd
    · have hr : Rising ps n := by
        refine ⟨fun i hi => ?_, h.up⟩
        have h1 := h.bd i hi
        refine ⟨h1.1, ?_⟩
        by_cases e : i = ps.length - 1
        · have : ps.getD i 0 ≠ n := fun e2 => hl ⟨by omega, by rw [← e]; exact e2⟩
          omega
        · have := h.lt (i := i) (j := ps.length - 1) (by omega) (by omega)
          have := (h.bd (ps.length - 1) (by omega)).2
          omega
      obtain ⟨c, hc, he⟩ := ih _ hr
      refine ⟨c, by rw [Nat.pow_succ]; omega, ?_⟩
      rw [bitsL, Nat.div_eq_of_lt hc, if_neg (by simp)]
      exact he
end Go.Proofs.Ytdgfbmilbhckiaa
end
section
namespace Go.Proofs.Ytdgfbmilbhckiaa.Ab
open Go Go.RowKit
set_option linter.unusedVariables false
set_option linter.unusedSimpArgs false
theorem and1 (x : Nat) : (BitVec.ofInt 64 (x : Int) &&& BitVec.ofInt 64 1).toNat = x % 2 := by
  rw [show (BitVec.ofInt 64 (1 : Int)) = 1#64 from rfl]
  rw [BitVec.toNat_and, BitVec.toNat_ofInt]
  simp [Nat.and_one_is_mod]
  omega
theorem and1w (x : Nat) (h : x ≤ 1000) : IntKind.wrap .i64 (((BitVec.ofInt IntKind.i64.bits (x : Int) &&& BitVec.ofInt IntKind.i64.bits 1).toNat : Nat) : Int) = ((x % 2 : Nat) : Int) := by
  rw [show ((BitVec.ofInt IntKind.i64.bits (x : Int) &&& BitVec.ofInt IntKind.i64.bits 1).toNat) = x % 2 from and1 x]
  exact w64 ⟨by omega, by omega⟩
theorem shr_code {c x : Nat} (h : x ≤ 63) : (c : Int).fdiv (2 ^ (min ((x : Nat) : Int).toNat IntKind.i64.bits)) = ((c / 2 ^ x : Nat) : Int) := by
  have : min ((x : Nat) : Int).toNat IntKind.i64.bits = x := by
    have : IntKind.i64.bits = 64 := rfl
    rw [this]; omega
  rw [this]
  have e : (2 : Int) ^ x = ((2 ^ x : Nat) : Int) := by simp
  rw [e, Int.natCast_ediv]
  exact Int.fdiv_eq_ediv_of_nonneg _ (Int.natCast_nonneg _)

theorem l2Bits_rc (m : Mem) (n c : Nat) (hn : n ≤ 8) (hc : c ≤ 256) :
    RC Try.prog 60 [.int .i64 n, .int .i64 c] m (AnsR m (bitsL c n)) := by
  refine rc_of_run mixed ok_spec_l2Bits (by simp) (go_start _ _ _ ?_)
  simp (config := {implicitDefEqProofs := false, maxDischargeDepth := 20}) (disch := first | omega | (simp only [lenE]; done) | (simp only [lenE]; omega) | rfl | (simp only [lenE, markR_len]; done) | (simp only [lenE, markR_len]; omega)) only [runE, mapE, listE, initT_5, initT_6, initT_7, initT_8, resV, oneV, binA, unA, reduceCtorEq, Nat.reduceEqDiff, Nat.reduceAdd, Nat.reduceLT, Nat.reduceLeDiff, Nat.reduceMul, Nat.reduceSub, ↓reduceIte, decide_true, decide_false, Bool.true_eq_false, Bool.false_eq_true, Bool.not_true, Bool.not_false, if_true, if_false, and_true, true_and, memE, celE, w64, Nat.zero_add, Nat.add_zero, Nat.mul_one, putL, and_self, ldn, c_spec_l2Bits, r_spec_l2Bits, bsl_none]
  refine loop_inv mixed (fun s => ∃ (x : Nat) (M : Mem) (id : Nat), x ≤ n ∧ s.t 0 = .int .i64 n ∧ s.t 1 = .int .i64 c ∧ s.t 5 = .slice (some ⟨id, 0, none⟩) (bitsL c x).length 1 ∧ s.t 6 = .int .i64 x ∧ s.m = M ∧ Ext m M ∧ OwnR M id (bitsL c x) ∧ m.length ≤ id) (fun s => n - (intOf (s.t 6)).toNat)
    ⟨0, _, m.length, by omega, rfl, rfl, by simp only [put_t, put_t', put_m, putT_t, putT_t', putT_m, init_t, init_m, initT_0, initT_1, initT_2, initT_3, initT_4, initT_5, initT_6, initT_7, initT_8, Nat.reduceEqDiff, ↓reduceIte]; rfl, rfl, rfl, (Ext.refl m).one _ _, OwnR.end' (l := []) (by simp [roM_len]), Nat.le_refl _⟩ ?_
  rintro s ⟨x, M, id, hk, t0, t1, t5, t6, tm, hx, oM, lid⟩
  by_cases hlt : x < n
  · have hlt' : (x : Int) < n := by omega
    have hx0 : ¬ ((x : Int) < 0) := by omega
    have hd : c / 2 ^ x ≤ 1000 := Nat.le_trans (Nat.div_le_self _ _) (by omega)
    have aw := and1w (c / 2 ^ x) hd
    have bl := bitsL_len c x
    by_cases hb : c / 2 ^ x % 2 = 1
    · have hb' : (((c / 2 ^ x % 2 : Nat) : Int) == 1) = true := by rw [hb]; rfl
      simp (config := {implicitDefEqProofs := false, maxDischargeDepth := 20}) (disch := first | omega | (simp only [lenE]; done) | (simp only [lenE]; omega) | rfl | (simp only [lenE, markR_len]; done) | (simp only [lenE, markR_len]; omega)) only [runE, mapE, listE, initT_5, initT_6, initT_7, initT_8, resV, oneV, binA, unA, reduceCtorEq, Nat.reduceEqDiff, Nat.reduceAdd, Nat.reduceLT, Nat.reduceLeDiff, Nat.reduceMul, Nat.reduceSub, ↓reduceIte, decide_true, decide_false, Bool.true_eq_false, Bool.false_eq_true, Bool.not_true, Bool.not_false, if_true, if_false, and_true, true_and, memE, celE, w64, Nat.zero_add, Nat.add_zero, Nat.mul_one, putL, and_self, ldn, t0, t1, t5, t6, tm, hlt', hx0, shr_code (c := c) (show x ≤ 63 by omega), aw, hb', bsl_one, app_gen oM (by omega)]
      refine ⟨⟨x + 1, _, M.length + 1, by omega, by rw [bitsL, if_pos hb]; simp, by simp, rfl, ((hx.dead lid).one _ _).one _ _, ?_, by have := hx.len; omega⟩, by simp [intOf]; omega⟩
      rw [bitsL, if_pos hb]
      have := OwnR.at_end (M.set id deadB ++ [⟨.own, 3, [.int .i64 (x : Int)]⟩]) (bitsL c x ++ [(x : Int)])
      simpa using this
    · have hb' : (((c / 2 ^ x % 2 : Nat) : Int) == 1) = false := by
        have : c / 2 ^ x % 2 = 0 := by omega
        rw [this]; rfl
      simp (config := {implicitDefEqProofs := false, maxDischargeDepth := 20}) (disch := first | omega | (simp only [lenE]; done) | (simp only [lenE]; omega) | rfl | (simp only [lenE, markR_len]; done) | (simp only [lenE, markR_len]; omega)) only [runE, mapE, listE, initT_5, initT_6, initT_7, initT_8, resV, oneV, binA, unA, reduceCtorEq, Nat.reduceEqDiff, Nat.reduceAdd, Nat.reduceLT, Nat.reduceLeDiff, Nat.reduceMul, Nat.reduceSub, ↓reduceIte, decide_true, decide_false, Bool.true_eq_false, Bool.false_eq_true, Bool.not_true, Bool.not_false, if_true, if_false, and_true, true_and, memE, celE, w64, Nat.zero_add, Nat.add_zero, Nat.mul_one, putL, and_self, ldn, t0, t1, t5, t6, tm, hlt', hx0, shr_code (c := c) (show x ≤ 63 by omega), aw, hb']
      exact ⟨⟨x + 1, M, id, by omega, by rw [bitsL, if_neg hb], by simp, rfl, hx, by rw [bitsL, if_neg hb]; exact oM, lid⟩, by simp [intOf]; omega⟩
  · have hlt' : ¬ ((x : Int) < n) := by omega
    have e : x = n := by omega
    subst e
    have := bitsL_len c x
    simp (config := {implicitDefEqProofs := false, maxDischargeDepth := 20}) (disch := first | omega | (simp only [lenE]; done) | (simp only [lenE]; omega) | rfl | (simp only [lenE, markR_len]; done) | (simp only [lenE, markR_len]; omega)) only [runE, mapE, listE, initT_5, initT_6, initT_7, initT_8, resV, oneV, binA, unA, reduceCtorEq, Nat.reduceEqDiff, Nat.reduceAdd, Nat.reduceLT, Nat.reduceLeDiff, Nat.reduceMul, Nat.reduceSub, ↓reduceIte, decide_true, decide_false, Bool.true_eq_false, Bool.false_eq_true, Bool.not_true, Bool.not_false, if_true, if_false, and_true, true_and, memE, celE, w64, Nat.zero_add, Nat.add_zero, Nat.mul_one, putL, and_self, ldn, t0, t1, t5, t6, tm, hlt']
    exact ext_ansR hx oM (by omega) rfl (by omega)

theorem l2Before_rc (m : Mem) (v u : Value) (a b : List Int) (h : IntsA m v a) (h' : IntsA m u b) :
    RC Try.prog 62 [v, u] m (AnsV (.bool (beforeB a b))) := by
  refine rc_of_run mixed ok_spec_l2Before (by simp) (go_start _ _ _ ?_)
  have hv := h.ro
  have hu := h'.ro
  have hbd := hv.bd
  by_cases hl : a.length = b.length
  · have hl' : ((a.length : Int) != (b.length : Int)) = false := by rw [hl]; simp
    have eB : beforeB a b = lexB (a.drop 0) (b.drop 0) := by unfold beforeB; rw [if_pos hl]; rfl
    simp (config := {implicitDefEqProofs := false, maxDischargeDepth := 20}) (disch := first | omega | (simp only [lenE]; done) | (simp only [lenE]; omega) | rfl | (simp only [lenE, markR_len]; done) | (simp only [lenE, markR_len]; omega)) only [runE, mapE, listE, initT_5, initT_6, initT_7, initT_8, resV, oneV, binA, unA, reduceCtorEq, Nat.reduceEqDiff, Nat.reduceAdd, Nat.reduceLT, Nat.reduceLeDiff, Nat.reduceMul, Nat.reduceSub, ↓reduceIte, decide_true, decide_false, Bool.true_eq_false, Bool.false_eq_true, Bool.not_true, Bool.not_false, if_true, if_false, and_true, true_and, memE, celE, w64, Nat.zero_add, Nat.add_zero, Nat.mul_one, putL, and_self, ldn, c_spec_l2Before, r_spec_l2Before, hv.len, hu.len, hl']
    refine loop_inv mixed (fun s => ∃ i : Nat, i ≤ a.length ∧ beforeB a b = lexB (a.drop i) (b.drop i) ∧ s.t 0 = v ∧ s.t 1 = u ∧ s.t 5 = .int .i64 i ∧ s.m = roM m) (fun s => a.length - (intOf (s.t 5)).toNat)
      ⟨0, by omega, eB, rfl, rfl, rfl, rfl⟩ ?_
    rintro s ⟨i, hk, he, t0, t1, t5, tm⟩
    by_cases hlt : i < a.length
    · have hlt' : (i : Int) < a.length := by omega
      rw [lexB_drop hlt (by omega)] at he
      by_cases hq : a.getD i 0 = b.getD i 0
      · have hq' : (a.getD i 0 != b.getD i 0) = false := by rw [hq]; simp
        rw [if_pos hq] at he
        simp (config := {implicitDefEqProofs := false, maxDischargeDepth := 20}) (disch := first | omega | (simp only [lenE]; done) | (simp only [lenE]; omega) | rfl | (simp only [lenE, markR_len]; done) | (simp only [lenE, markR_len]; omega)) only [runE, mapE, listE, initT_5, initT_6, initT_7, initT_8, resV, oneV, binA, unA, reduceCtorEq, Nat.reduceEqDiff, Nat.reduceAdd, Nat.reduceLT, Nat.reduceLeDiff, Nat.reduceMul, Nat.reduceSub, ↓reduceIte, decide_true, decide_false, Bool.true_eq_false, Bool.false_eq_true, Bool.not_true, Bool.not_false, if_true, if_false, and_true, true_and, memE, celE, w64, Nat.zero_add, Nat.add_zero, Nat.mul_one, putL, and_self, ldn, t0, t1, t5, tm, hv.len, hlt', hv.at_ i hlt, hv.ld i hlt, hu.at_ i (by omega), hu.ld i (by omega), hq']
        exact ⟨⟨i + 1, by omega, he, by simp⟩, by simp [intOf]; omega⟩
      · have hq' : (a.getD i 0 != b.getD i 0) = true := by simpa using hq
        rw [if_neg hq] at he
        simp (config := {implicitDefEqProofs := false, maxDischargeDepth := 20}) (disch := first | omega | (simp only [lenE]; done) | (simp only [lenE]; omega) | rfl | (simp only [lenE, markR_len]; done) | (simp only [lenE, markR_len]; omega)) only [runE, mapE, listE, initT_5, initT_6, initT_7, initT_8, resV, oneV, binA, unA, reduceCtorEq, Nat.reduceEqDiff, Nat.reduceAdd, Nat.reduceLT, Nat.reduceLeDiff, Nat.reduceMul, Nat.reduceSub, ↓reduceIte, decide_true, decide_false, Bool.true_eq_false, Bool.false_eq_true, Bool.not_true, Bool.not_false, if_true, if_false, and_true, true_and, memE, celE, w64, Nat.zero_add, Nat.add_zero, Nat.mul_one, putL, and_self, ldn, t0, t1, t5, tm, hv.len, hlt', hv.at_ i hlt, hv.ld i hlt, hu.at_ i (by omega), hu.ld i (by omega), hq']
        rw [he]
        exact ext_ansV (Ext.refl m) rfl
    · have hlt' : ¬ ((i : Int) < a.length) := by omega
      have e : i = a.length := by omega
      have : lexB (a.drop i) (b.drop i) = false := by rw [e, List.drop_length]; rfl
      rw [this] at he
      simp (config := {implicitDefEqProofs := false, maxDischargeDepth := 20}) (disch := first | omega | (simp only [lenE]; done) | (simp only [lenE]; omega) | rfl | (simp only [lenE, markR_len]; done) | (simp only [lenE, markR_len]; omega)) only [runE, mapE, listE, initT_5, initT_6, initT_7, initT_8, resV, oneV, binA, unA, reduceCtorEq, Nat.reduceEqDiff, Nat.reduceAdd, Nat.reduceLT, Nat.reduceLeDiff, Nat.reduceMul, Nat.reduceSub, ↓reduceIte, decide_true, decide_false, Bool.true_eq_false, Bool.false_eq_true, Bool.not_true, Bool.not_false, if_true, if_false, and_true, true_and, memE, celE, w64, Nat.zero_add, Nat.add_zero, Nat.mul_one, putL, and_self, ldn, t0, t1, t5, tm, hv.len, hlt']
      rw [he]
      exact ext_ansV (Ext.refl m) rfl
  · have hl' : ((a.length : Int) != (b.length : Int)) = true := by
      have : (a.length : Int) ≠ b.length := by omega
      simpa using this
    have eB : beforeB a b = decide ((a.length : Int) < b.length) := by unfold beforeB; rw [if_neg hl]; simp
    simp (config := {implicitDefEqProofs := false, maxDischargeDepth := 20}) (disch := first | omega | (simp only [lenE]; done) | (simp only [lenE]; omega) | rfl | (simp only [lenE, markR_len]; done) | (simp only [lenE, markR_len]; omega)) only [runE, mapE, listE, initT_5, initT_6, initT_7, initT_8, resV, oneV, binA, unA, reduceCtorEq, Nat.reduceEqDiff, Nat.reduceAdd, Nat.reduceLT, Nat.reduceLeDiff, Nat.reduceMul, Nat.reduceSub, ↓reduceIte, decide_true, decide_false, Bool.true_eq_false, Bool.false_eq_true, Bool.not_true, Bool.not_false, if_true, if_false, and_true, true_and, memE, celE, w64, Nat.zero_add, Nat.add_zero, Nat.mul_one, putL, and_self, ldn, c_spec_l2Before, r_spec_l2Before, hv.len, hu.len, hl']
    rw [eB]
    exact ext_ansV (Ext.refl m) rfl

theorem shl1 {n : Nat} (h : n ≤ 8) : IntKind.wrap .i64 (1 * 2 ^ (min ((n : Nat) : Int).toNat IntKind.i64.bits)) = ((2 ^ n : Nat) : Int) := by
  have : min ((n : Nat) : Int).toNat IntKind.i64.bits = n := by
    have : IntKind.i64.bits = 64 := rfl
    rw [this]; omega
  rw [this]
  have e : (2 : Int) ^ n = ((2 ^ n : Nat) : Int) := by simp
  have h2 : 2 ^ n ≤ 2 ^ 8 := Nat.pow_le_pow_right (by omega) h
  rw [e, Int.one_mul]
  have h3 : ((2 ^ n : Nat) : Int) ≤ 256 := by omega
  exact w64 ⟨by have := Int.natCast_nonneg (2 ^ n); omega, by omega⟩

end Go.Proofs.Ytdgfbmilbhckiaa.Ab
end
section
namespace Go.Proofs.Ytdgfbmilbhckiaa.Ab
open Go Go.RowKit
set_option linter.unusedVariables false
set_option linter.unusedSimpArgs false
def risB (ps : List Int) (n : Nat) : Bool := decide (∀ i, i < ps.length → (0 ≤ ps.getD i 0 ∧ ps.getD i 0 ≤ (n : Int) - 1) ∧ (0 < i → ps.getD (i - 1) 0 < ps.getD i 0))
theorem risB_iff {ps : List Int} {n : Nat} : risB ps n = true ↔ Rising ps n := by
  unfold risB
  rw [decide_eq_true_iff]
  constructor
  · intro h
    refine ⟨fun i hi => by have := (h i hi).1; omega, fun i hi => ?_⟩
    have := (h (i + 1) hi).2 (by omega)
    simpa using this
  · intro h i hi
    refine ⟨by have := h.bd i hi; omega, fun h0 => ?_⟩
    have := h.up (i - 1) (by omega)
    rwa [show i - 1 + 1 = i by omega] at this
theorem risB_no {ps : List Int} {n i : Nat} (hi : i < ps.length) (h : ¬ ((0 ≤ ps.getD i 0 ∧ ps.getD i 0 ≤ (n : Int) - 1) ∧ (0 < i → ps.getD (i - 1) 0 < ps.getD i 0))) : risB ps n = false :=
  decide_eq_false fun hh => h (hh i hi)

end Go.Proofs.Ytdgfbmilbhckiaa.Ab
end
section
namespace Go.Proofs.Ytdgfbmilbhckiaa.Ab
open Go Go.RowKit
set_option linter.unusedVariables false
set_option linter.unusedSimpArgs false
theorem ascending_rc (m : Mem) (u : Value) (ps : List Int) (n : Nat) (h' : IntsA m u ps) (hn : n ≤ 1048576) :
    RC Try.prog 66 [u, .int .i64 (n : Int)] m (AnsV (.bool (risB ps n))) := by
  refine rc_of_run mixed ok_impl_isAscending (by simp) (go_start _ _ _ ?_)
  have hu := h'.ro
  have hbd := hu.bd
  simp (config := {implicitDefEqProofs := false, maxDischargeDepth := 20}) (disch := first | omega | (simp only [lenE]; done) | (simp only [lenE]; omega) | rfl | (simp only [lenE, markR_len]; done) | (simp only [lenE, markR_len]; omega)) only [runE, mapE, listE, initT_5, initT_6, initT_7, initT_8, resV, oneV, binA, unA, reduceCtorEq, Nat.reduceEqDiff, Nat.reduceAdd, Nat.reduceLT, Nat.reduceLeDiff, Nat.reduceMul, Nat.reduceSub, ↓reduceIte, decide_true, decide_false, Bool.true_eq_false, Bool.false_eq_true, Bool.not_true, Bool.not_false, if_true, if_false, and_true, true_and, memE, celE, w64, Nat.zero_add, Nat.add_zero, Nat.mul_one, putL, and_self, ldn, c_impl_isAscending, r_impl_isAscending, hu.len]
  refine loop_inv mixed (fun s => ∃ i : Nat, i ≤ ps.length ∧ (∀ j, j < i → (0 ≤ ps.getD j 0 ∧ ps.getD j 0 ≤ (n : Int) - 1) ∧ (0 < j → ps.getD (j - 1) 0 < ps.getD j 0)) ∧ s.t 1 = .int .i64 (n : Int) ∧ s.t 5 = .int .i64 (if i = 0 then 0 else ps.getD (i - 1) 0 + 1) ∧ s.t 8 = u ∧ s.t 9 = .int .i64 (ps.length : Int) ∧ s.t 10 = .int .i64 (i : Int) ∧ s.m = roM m) (fun s => ps.length - (intOf (s.t 10)).toNat)
    ⟨0, by omega, fun j hj => absurd hj (by omega), rfl, rfl, rfl, rfl, rfl, rfl⟩ ?_
  rintro s ⟨i, hk, hall, t1, t5, t8, t9, t10, tm⟩
  obtain ⟨x, hx⟩ : ∃ x : Int, x = if i = 0 then 0 else ps.getD (i - 1) 0 + 1 := ⟨_, rfl⟩
  rw [← hx] at t5
  have nx : ((0 ≤ ps.getD i 0 ∧ ps.getD i 0 ≤ (n : Int) - 1) ∧ (0 < i → ps.getD (i - 1) 0 < ps.getD i 0)) → ∀ j, j < i + 1 → (0 ≤ ps.getD j 0 ∧ ps.getD j 0 ≤ (n : Int) - 1) ∧ (0 < j → ps.getD (j - 1) 0 < ps.getD j 0) := fun hh j hj => by
    by_cases e : j < i
    · exact hall j e
    · have : j = i := by omega
      rw [this]; exact hh
  by_cases hlt : i < ps.length
  · have hlt' : (i : Int) < ps.length := by omega
    have ai := hu.at_ i hlt
    have li := hu.ld i hlt
    have hx1 : (ps.getD i 0 < x) ↔ ¬ (0 ≤ ps.getD i 0 ∧ (0 < i → ps.getD (i - 1) 0 < ps.getD i 0)) := by
      rw [hx]
      split
      · rename_i h0; subst h0; constructor
        · intro h1 h2; omega
        · intro h1; apply Int.not_le.1; intro h2; exact h1 ⟨h2, fun h => by omega⟩
      · rename_i h0
        have := (hall (i - 1) (by omega)).1
        constructor
        · intro h1 h2; have := h2.2 (by omega); omega
        · intro h1; apply Int.not_le.1; intro h2; exact h1 ⟨by omega, fun _ => by omega⟩
    by_cases hlo : ps.getD i 0 < x
    · simp (config := {implicitDefEqProofs := false, maxDischargeDepth := 20}) (disch := first | omega | (simp only [lenE]; done) | (simp only [lenE]; omega) | rfl | (simp only [lenE, markR_len]; done) | (simp only [lenE, markR_len]; omega)) only [runE, mapE, listE, initT_5, initT_6, initT_7, initT_8, resV, oneV, binA, unA, reduceCtorEq, Nat.reduceEqDiff, Nat.reduceAdd, Nat.reduceLT, Nat.reduceLeDiff, Nat.reduceMul, Nat.reduceSub, ↓reduceIte, decide_true, decide_false, Bool.true_eq_false, Bool.false_eq_true, Bool.not_true, Bool.not_false, if_true, if_false, and_true, true_and, memE, celE, w64, Nat.zero_add, Nat.add_zero, Nat.mul_one, putL, and_self, ldn, t1, t5, t8, t9, t10, tm, hlt', ai, li, hlo, goG_undef]
      rw [risB_no hlt fun hh => (hx1.1 hlo) ⟨hh.1.1, hh.2⟩]
      exact ext_ansV (Ext.refl m) rfl
    · have hge : (0 ≤ ps.getD i 0 ∧ (0 < i → ps.getD (i - 1) 0 < ps.getD i 0)) := Classical.byContradiction fun hh => hlo (hx1.2 hh)
      by_cases hhi : (n : Int) ≤ ps.getD i 0
      · simp (config := {implicitDefEqProofs := false, maxDischargeDepth := 20}) (disch := first | omega | (simp only [lenE]; done) | (simp only [lenE]; omega) | rfl | (simp only [lenE, markR_len]; done) | (simp only [lenE, markR_len]; omega)) only [runE, mapE, listE, initT_5, initT_6, initT_7, initT_8, resV, oneV, binA, unA, reduceCtorEq, Nat.reduceEqDiff, Nat.reduceAdd, Nat.reduceLT, Nat.reduceLeDiff, Nat.reduceMul, Nat.reduceSub, ↓reduceIte, decide_true, decide_false, Bool.true_eq_false, Bool.false_eq_true, Bool.not_true, Bool.not_false, if_true, if_false, and_true, true_and, memE, celE, w64, Nat.zero_add, Nat.add_zero, Nat.mul_one, putL, and_self, ldn, t1, t5, t8, t9, t10, tm, hlt', ai, li, hlo, hhi, ge_iff_le, goG_undef]
        rw [risB_no hlt fun hh => by omega]
        exact ext_ansV (Ext.refl m) rfl
      · simp (config := {implicitDefEqProofs := false, maxDischargeDepth := 20}) (disch := first | omega | (simp only [lenE]; done) | (simp only [lenE]; omega) | rfl | (simp only [lenE, markR_len]; done) | (simp only [lenE, markR_len]; omega)) only [runE, mapE, listE, initT_5, initT_6, initT_7, initT_8, resV, oneV, binA, unA, reduceCtorEq, Nat.reduceEqDiff, Nat.reduceAdd, Nat.reduceLT, Nat.reduceLeDiff, Nat.reduceMul, Nat.reduceSub, ↓reduceIte, decide_true, decide_false, Bool.true_eq_false, Bool.false_eq_true, Bool.not_true, Bool.not_false, if_true, if_false, and_true, true_and, memE, celE, w64, Nat.zero_add, Nat.add_zero, Nat.mul_one, putL, and_self, ldn, t1, t5, t8, t9, t10, tm, hlt', ai, li, hlo, hhi, ge_iff_le, goG_undef]
        refine ⟨⟨i + 1, by omega, nx ⟨⟨hge.1, by omega⟩, hge.2⟩, ?_⟩, ?_⟩
        · exact ⟨by rw [if_neg (by omega), Nat.add_sub_cancel], by simp⟩
        · simp [intOf]; omega
  · have e : i = ps.length := by omega
    subst e
    have hirr : ¬ ((ps.length : Int) < ps.length) := by omega
    simp (config := {implicitDefEqProofs := false, maxDischargeDepth := 20}) (disch := first | omega | (simp only [lenE]; done) | (simp only [lenE]; omega) | rfl | (simp only [lenE, markR_len]; done) | (simp only [lenE, markR_len]; omega)) only [runE, mapE, listE, initT_5, initT_6, initT_7, initT_8, resV, oneV, binA, unA, reduceCtorEq, Nat.reduceEqDiff, Nat.reduceAdd, Nat.reduceLT, Nat.reduceLeDiff, Nat.reduceMul, Nat.reduceSub, ↓reduceIte, decide_true, decide_false, Bool.true_eq_false, Bool.false_eq_true, Bool.not_true, Bool.not_false, if_true, if_false, and_true, true_and, memE, celE, w64, Nat.zero_add, Nat.add_zero, Nat.mul_one, putL, and_self, ldn, t1, t5, t8, t9, t10, tm, hirr]
    have hr : risB ps n = true := decide_eq_true hall
    rw [hr]
    exact ext_ansV (Ext.refl m) rfl
end Go.Proofs.Ytdgfbmilbhckiaa.Ab
end
section
namespace Go.Proofs.Ytdgfbmilbhckiaa.Ab
open Go Go.RowKit
set_option linter.unusedVariables false
set_option linter.unusedSimpArgs false
def usI (life : Int) (f : Nat) (t : Int) : Bool := decide ((f : Int) ≤ t) && decide (t < f + life)
def useAny (s : Sh) (set : List Int) (f : Nat) : Bool := set.any (usI s.life f)
def needS (s : Sh) (set : List Int) : Nat → Int
  | 0 => 0
  | k + 1 => needS s set k + s.need.getD (set.getD k 0).toNat 0
def subA (s : Sh) (set : List Int) : Nat → Int
  | 0 => 0
  | f + 1 => subA s set f + if useAny s set f then s.arr.getD f 0 else 0
def boundV (s : Sh) (set : List Int) : Int := needS s set set.length - subA s set s.arr.length
theorem needS_bd {s : Sh} (hg : GoodSh s) {set : List Int} (hr : Rising set s.need.length) (k : Nat) (hk : k ≤ set.length) : 0 ≤ needS s set k ∧ needS s set k ≤ 20 * k := by
  induction k with
  | zero => simp [needS]
  | succ k ih =>
    have := ih (by omega)
    have b := hr.bd k (by omega)
    have := memD9 hg.need (k := (set.getD k 0).toNat) (by omega)
    simp only [needS]; omega
theorem subA_bd {s : Sh} (hg : GoodSh s) (set : List Int) (k : Nat) (hk : k ≤ s.arr.length) : 0 ≤ subA s set k ∧ subA s set k ≤ 20 * k := by
  induction k with
  | zero => simp [subA]
  | succ k ih =>
    have := ih (by omega)
    have := memD9 hg.arr (k := k) (by omega)
    simp only [subA]
    split <;> omega
def lboundOk (s : Sh) (set : List Int) : Bool := s.good && risB set s.need.length
def lboundA (s : Sh) (set : List Int) : Int := if lboundOk s set then boundV s set else 0
def anyTo (s : Sh) (set : List Int) (f : Nat) : Nat → Bool
  | 0 => false
  | j + 1 => anyTo s set f j || usI s.life f (set.getD j 0)
theorem anyTo_all (s : Sh) (set : List Int) (f : Nat) : anyTo s set f set.length = useAny s set f := by
  have : ∀ j, j ≤ set.length → anyTo s set f j = (set.take j).any (usI s.life f) := by
    intro j
    induction j with
    | zero => intro _; rfl
    | succ j ih =>
      intro hj
      rw [take_next (by omega), List.any_append, anyTo, ih (by omega)]
      simp
  rw [this _ (Nat.le_refl _), List.take_length, useAny]
theorem usable9_rc (m : Mem) (v : Value) (s : Sh) (f : Nat) (t : Int) (h : ShA m v s) (hf : f ≤ 100) (hl : 0 ≤ s.life ∧ s.life ≤ 8) : RC Try.prog 92 [v, .int .i64 (f : Int), .int .i64 t] m (AnsV (.bool (usI s.life f t))) := by
  refine rc_of_run mixed ok_spec_l9Usable (by simp) (go_start _ _ _ ?_)
  obtain ⟨a, b, rfl, ha, hb⟩ := h.ro
  unfold usI
  by_cases g : (f : Int) ≤ t
  · simp (config := {implicitDefEqProofs := false, maxDischargeDepth := 20}) (disch := first | omega | (simp only [lenE]; done) | (simp only [lenE]; omega) | rfl | (simp only [lenE, markR_len]; done) | (simp only [lenE, markR_len]; omega)) only [runE, mapE, listE, initT_5, initT_6, initT_7, initT_8, resV, oneV, binA, unA, reduceCtorEq, Nat.reduceEqDiff, Nat.reduceAdd, Nat.reduceLT, Nat.reduceLeDiff, Nat.reduceMul, Nat.reduceSub, ↓reduceIte, decide_true, decide_false, Bool.true_eq_false, Bool.false_eq_true, Bool.not_true, Bool.not_false, if_true, if_false, and_true, true_and, memE, celE, w64, Nat.zero_add, Nat.add_zero, Nat.mul_one, putL, and_self, ldn, c_spec_l9Usable, r_spec_l9Usable, g]
    try simp only [List.append_assoc, List.cons_append, List.nil_append, List.append_nil]
    exact ⟨_, rfl, by (repeat (first | exact noRo_nil | assumption | apply noRo_own | apply noRo_dead | apply noRo_app)), by simp, by (repeat (first | exact noRo_nil | assumption | apply noRo_own | apply noRo_dead | apply noRo_app))⟩
  · simp (config := {implicitDefEqProofs := false, maxDischargeDepth := 20}) (disch := first | omega | (simp only [lenE]; done) | (simp only [lenE]; omega) | rfl | (simp only [lenE, markR_len]; done) | (simp only [lenE, markR_len]; omega)) only [runE, mapE, listE, initT_5, initT_6, initT_7, initT_8, resV, oneV, binA, unA, reduceCtorEq, Nat.reduceEqDiff, Nat.reduceAdd, Nat.reduceLT, Nat.reduceLeDiff, Nat.reduceMul, Nat.reduceSub, ↓reduceIte, decide_true, decide_false, Bool.true_eq_false, Bool.false_eq_true, Bool.not_true, Bool.not_false, if_true, if_false, and_true, true_and, memE, celE, w64, Nat.zero_add, Nat.add_zero, Nat.mul_one, putL, and_self, ldn, c_spec_l9Usable, r_spec_l9Usable, g]
    try simp only [List.append_assoc, List.cons_append, List.nil_append, List.append_nil]
    exact ⟨_, rfl, by (repeat (first | exact noRo_nil | assumption | apply noRo_own | apply noRo_dead | apply noRo_app)), by simp [g], by (repeat (first | exact noRo_nil | assumption | apply noRo_own | apply noRo_dead | apply noRo_app))⟩
theorem isFresh9_rc (m : Mem) (f : Nat) (t life : Int) (hf : f ≤ 100) (hl : 0 ≤ life ∧ life ≤ 8) : RC Try.prog 102 [.int .i64 (f : Int), .int .i64 t, .int .i64 life] m fun r new => r = .bool (usI life f t) ∧ new = [] := by
  refine rc_of_run mixed ok_impl_isFresh (by simp) (go_start _ _ _ ?_)
  unfold usI
  by_cases g : (f : Int) ≤ t
  · simp (config := {implicitDefEqProofs := false, maxDischargeDepth := 20}) (disch := first | omega | (simp only [lenE]; done) | (simp only [lenE]; omega) | rfl | (simp only [lenE, markR_len]; done) | (simp only [lenE, markR_len]; omega)) only [runE, mapE, listE, initT_5, initT_6, initT_7, initT_8, resV, oneV, binA, unA, reduceCtorEq, Nat.reduceEqDiff, Nat.reduceAdd, Nat.reduceLT, Nat.reduceLeDiff, Nat.reduceMul, Nat.reduceSub, ↓reduceIte, decide_true, decide_false, Bool.true_eq_false, Bool.false_eq_true, Bool.not_true, Bool.not_false, if_true, if_false, and_true, true_and, memE, celE, w64, Nat.zero_add, Nat.add_zero, Nat.mul_one, putL, and_self, ldn, c_impl_isFresh, r_impl_isFresh, g]
    exact newQ_nil ⟨by simp, rfl⟩
  · simp (config := {implicitDefEqProofs := false, maxDischargeDepth := 20}) (disch := first | omega | (simp only [lenE]; done) | (simp only [lenE]; omega) | rfl | (simp only [lenE, markR_len]; done) | (simp only [lenE, markR_len]; omega)) only [runE, mapE, listE, initT_5, initT_6, initT_7, initT_8, resV, oneV, binA, unA, reduceCtorEq, Nat.reduceEqDiff, Nat.reduceAdd, Nat.reduceLT, Nat.reduceLeDiff, Nat.reduceMul, Nat.reduceSub, ↓reduceIte, decide_true, decide_false, Bool.true_eq_false, Bool.false_eq_true, Bool.not_true, Bool.not_false, if_true, if_false, and_true, true_and, memE, celE, w64, Nat.zero_add, Nat.add_zero, Nat.mul_one, putL, and_self, ldn, c_impl_isFresh, r_impl_isFresh, g]
    exact newQ_nil ⟨by simp [g], rfl⟩
theorem fresh_test (m : Mem) (i1 i2 : Nat) (f : Nat) (life : Int) (h1 : rdc m i1 0 = some (.int .i64 (f : Int))) (h2 : rdc m i2 0 = some (.int .i64 life)) (hf : f ≤ 100) (hl : 0 ≤ life ∧ life ≤ 8) :
    TestA m (.func (.func 101) #[] #[.pointer (some ⟨i1, 0, none⟩), .pointer (some ⟨i2, 0, none⟩)]) (usI life f) := by
  refine ⟨_, _, rfl, fun x m' hm => ?_⟩
  refine rc_of_run mixed ok_impl_lostBound_1 (by simp) (go_start _ _ _ ?_)
  have h1' : rdc (roM m') i1 0 = some (.int .i64 (f : Int)) := by rw [rdc_roM]; exact hm _ _ _ h1
  have h2' : rdc (roM m') i2 0 = some (.int .i64 life) := by rw [rdc_roM]; exact hm _ _ _ h2
  simp (config := {implicitDefEqProofs := false, maxDischargeDepth := 20}) (disch := first | omega | (simp only [lenE]; done) | (simp only [lenE]; omega) | rfl | (simp only [lenE, markR_len]; done) | (simp only [lenE, markR_len]; omega)) only [runE, mapE, listE, initT_5, initT_6, initT_7, initT_8, resV, oneV, binA, unA, reduceCtorEq, Nat.reduceEqDiff, Nat.reduceAdd, Nat.reduceLT, Nat.reduceLeDiff, Nat.reduceMul, Nat.reduceSub, ↓reduceIte, decide_true, decide_false, Bool.true_eq_false, Bool.false_eq_true, Bool.not_true, Bool.not_false, if_true, if_false, and_true, true_and, memE, celE, w64, Nat.zero_add, Nat.add_zero, Nat.mul_one, putL, and_self, ldn, c_impl_lostBound_1, r_impl_lostBound_1, h1', h2']
  refine callH_rc (isFresh9_rc _ f x life hf hl) ?_
  rintro r new ⟨rfl, rfl⟩
  simp (config := {implicitDefEqProofs := false, maxDischargeDepth := 20}) (disch := first | omega | (simp only [lenE]; done) | (simp only [lenE]; omega) | rfl | (simp only [lenE, markR_len]; done) | (simp only [lenE, markR_len]; omega)) only [runE, mapE, listE, initT_5, initT_6, initT_7, initT_8, resV, oneV, binA, unA, reduceCtorEq, Nat.reduceEqDiff, Nat.reduceAdd, Nat.reduceLT, Nat.reduceLeDiff, Nat.reduceMul, Nat.reduceSub, ↓reduceIte, decide_true, decide_false, Bool.true_eq_false, Bool.false_eq_true, Bool.not_true, Bool.not_false, if_true, if_false, and_true, true_and, memE, celE, w64, Nat.zero_add, Nat.add_zero, Nat.mul_one, putL, and_self, ldn]
  exact newQ_nil ⟨rfl, rfl⟩
theorem l9Bound_rc (m : Mem) (v u : Value) (s : Sh) (set : List Int) (h : ShA m v s) (hu : IntsA m u set) (hg : GoodSh s) (hr : Rising set s.need.length) :
    RC Try.prog 61 [v, u] m (AnsV (.int .i64 (boundV s set))) := by
  refine rc_of_run mixed ok_spec_l9Bound (by simp) (go_start _ _ _ ?_)
  obtain ⟨a, b, rfl, ha, hb⟩ := h.ro
  have hu' := hu.ro
  have hla := hg.la
  have n8 := hg.n8
  have l1 := hg.l1
  have l8 := hg.l8
  have sl := hr.len
  have hX := (Ext.refl m).one 26 [.int .i64 s.life, a, b, .int .i64 s.waste, .int .i64 s.lost]
  simp (config := {implicitDefEqProofs := false, maxDischargeDepth := 20}) (disch := first | omega | (simp only [lenE]; done) | (simp only [lenE]; omega) | rfl | (simp only [lenE, markR_len]; done) | (simp only [lenE, markR_len]; omega)) only [runE, mapE, listE, initT_5, initT_6, initT_7, initT_8, resV, oneV, binA, unA, reduceCtorEq, Nat.reduceEqDiff, Nat.reduceAdd, Nat.reduceLT, Nat.reduceLeDiff, Nat.reduceMul, Nat.reduceSub, ↓reduceIte, decide_true, decide_false, Bool.true_eq_false, Bool.false_eq_true, Bool.not_true, Bool.not_false, if_true, if_false, and_true, true_and, memE, celE, w64, Nat.zero_add, Nat.add_zero, Nat.mul_one, putL, and_self, ldn, c_spec_l9Bound, r_spec_l9Bound]
  obtain ⟨M0, hM0⟩ : ∃ M0, M0 = roM m ++ [⟨.own, 26, [.int .i64 s.life, a, b, .int .i64 s.waste, .int .i64 s.lost]⟩] := ⟨_, rfl⟩
  have o1 : OwnB M0 m.length 26 [.int .i64 s.life, a, b, .int .i64 s.waste, .int .i64 s.lost] := by rw [hM0]; exact OwnB.here (by simp [roM_len])
  rw [← hM0] at hX ⊢
  have ub := hX.ints hu'
  have bb := hX.ints hb
  have hbx := needS_bd hg hr
  refine loop_inv mixed (fun s' => ∃ k : Nat, k ≤ set.length ∧ s'.m = M0 ∧ s'.t 1 = u ∧ s'.t 2 = .pointer (some ⟨m.length, 0, none⟩) ∧ s'.t 5 = .int .i64 (needS s set k) ∧ s'.t 6 = .int .i64 (k : Int)) (fun s' => set.length - (intOf (s'.t 6)).toNat)
    ⟨0, by omega, rfl, rfl, rfl, rfl, rfl⟩ ?_
  rintro s' ⟨k, hk, tm, t1, t2, t5, t6⟩
  by_cases hlt : k < set.length
  · have hlt' : (k : Int) < set.length := by omega
    have b0 := hr.bd k hlt
    obtain ⟨p, hp⟩ : ∃ p : Nat, set.getD k 0 = (p : Int) := ⟨(set.getD k 0).toNat, by omega⟩
    have ld := ub.ld k hlt
    rw [hp] at ld
    have pn : p < s.need.length := by omega
    have w := memD9 hg.need pn
    have w2 := hbx k (by omega)
    simp (config := {implicitDefEqProofs := false, maxDischargeDepth := 20}) (disch := first | omega | (simp only [lenE]; done) | (simp only [lenE]; omega) | rfl | (simp only [lenE, markR_len]; done) | (simp only [lenE, markR_len]; omega)) only [runE, mapE, listE, initT_5, initT_6, initT_7, initT_8, resV, oneV, binA, unA, reduceCtorEq, Nat.reduceEqDiff, Nat.reduceAdd, Nat.reduceLT, Nat.reduceLeDiff, Nat.reduceMul, Nat.reduceSub, ↓reduceIte, decide_true, decide_false, Bool.true_eq_false, Bool.false_eq_true, Bool.not_true, Bool.not_false, if_true, if_false, and_true, true_and, memE, celE, w64, Nat.zero_add, Nat.add_zero, Nat.mul_one, putL, and_self, ldn, tm, t1, t2, t5, t6, ub.len, hlt', ub.at_ k hlt, ld, o1.rd, bb.at_ p pn, bb.ld p pn]
    refine ⟨⟨k + 1, by omega, by rw [needS, hp, Int.toNat_natCast], by simp⟩, ?_⟩
    simp [intOf]; omega
  · have hlt' : ¬ ((k : Int) < set.length) := by omega
    have e : k = set.length := by omega
    subst e
    simp (config := {implicitDefEqProofs := false, maxDischargeDepth := 20}) (disch := first | omega | (simp only [lenE]; done) | (simp only [lenE]; omega) | rfl | (simp only [lenE, markR_len]; done) | (simp only [lenE, markR_len]; omega)) only [runE, mapE, listE, initT_5, initT_6, initT_7, initT_8, resV, oneV, binA, unA, reduceCtorEq, Nat.reduceEqDiff, Nat.reduceAdd, Nat.reduceLT, Nat.reduceLeDiff, Nat.reduceMul, Nat.reduceSub, ↓reduceIte, decide_true, decide_false, Bool.true_eq_false, Bool.false_eq_true, Bool.not_true, Bool.not_false, if_true, if_false, and_true, true_and, memE, celE, w64, Nat.zero_add, Nat.add_zero, Nat.mul_one, putL, and_self, ldn, tm, t1, t2, t5, t6, ub.len, hlt']
    have w2 := hbx set.length (Nat.le_refl _)
    refine loop_inv mixed (fun s' => ∃ (f : Nat) (M : Mem), f ≤ s.arr.length ∧ s'.m = M ∧ Ext m M ∧ OwnB M m.length 26 [.int .i64 s.life, a, b, .int .i64 s.waste, .int .i64 s.lost] ∧ s'.t 1 = u ∧ s'.t 2 = .pointer (some ⟨m.length, 0, none⟩) ∧ s'.t 5 = .int .i64 (needS s set set.length - subA s set f) ∧ s'.t 7 = .int .i64 (f : Int)) (fun s' => s.arr.length - (intOf (s'.t 7)).toNat)
      ⟨0, M0, by omega, (by first | exact tm | rfl), hX, o1, (by first | exact t1 | simp only [put_t, put_t', put_m, putT_t, putT_t', putT_m, init_t, init_m, initT_0, initT_1, initT_2, initT_3, initT_4, initT_5, initT_6, initT_7, initT_8, Nat.reduceEqDiff, ↓reduceIte, t1]), (by first | exact t2 | simp only [put_t, put_t', put_m, putT_t, putT_t', putT_m, init_t, init_m, initT_0, initT_1, initT_2, initT_3, initT_4, initT_5, initT_6, initT_7, initT_8, Nat.reduceEqDiff, ↓reduceIte, t2]), (by simp only [put_t, put_t', put_m, putT_t, putT_t', putT_m, init_t, init_m, initT_0, initT_1, initT_2, initT_3, initT_4, initT_5, initT_6, initT_7, initT_8, Nat.reduceEqDiff, ↓reduceIte, t5]; simp [subA]), rfl⟩ ?_
    clear tm t1 t2 t5 t6 ub bb o1 hX hM0
    rintro s' ⟨f, M, hf, tm, hX, o1, t1, t2, t5, t7⟩
    have ab := hX.ints ha
    have w3 := subA_bd hg set f hf
    by_cases hfl : f < s.arr.length
    · have hfl' : (f : Int) < s.arr.length := by omega
      have w4 := memD9 hg.arr hfl
      simp (config := {implicitDefEqProofs := false, maxDischargeDepth := 20}) (disch := first | omega | (simp only [lenE]; done) | (simp only [lenE]; omega) | rfl | (simp only [lenE, markR_len]; done) | (simp only [lenE, markR_len]; omega)) only [runE, mapE, listE, initT_5, initT_6, initT_7, initT_8, resV, oneV, binA, unA, reduceCtorEq, Nat.reduceEqDiff, Nat.reduceAdd, Nat.reduceLT, Nat.reduceLeDiff, Nat.reduceMul, Nat.reduceSub, ↓reduceIte, decide_true, decide_false, Bool.true_eq_false, Bool.false_eq_true, Bool.not_true, Bool.not_false, if_true, if_false, and_true, true_and, memE, celE, w64, Nat.zero_add, Nat.add_zero, Nat.mul_one, putL, and_self, ldn, tm, t1, t2, t5, t7, o1.rd, ab.len, hfl']
      refine loop_inv mixed (fun s' => ∃ (j : Nat) (M : Mem), j ≤ set.length ∧ s'.m = M ∧ Ext m M ∧ OwnB M m.length 26 [.int .i64 s.life, a, b, .int .i64 s.waste, .int .i64 s.lost] ∧ s'.t 1 = u ∧ s'.t 2 = .pointer (some ⟨m.length, 0, none⟩) ∧ s'.t 5 = .int .i64 (needS s set set.length - subA s set f) ∧ s'.t 7 = .int .i64 (f : Int) ∧ s'.t 8 = .bool (anyTo s set f j) ∧ s'.t 9 = .int .i64 (j : Int)) (fun s' => set.length - (intOf (s'.t 9)).toNat)
        ⟨0, M, by omega, (by first | exact tm | rfl), hX, o1, (by first | exact t1 | simp only [put_t, put_t', put_m, putT_t, putT_t', putT_m, init_t, init_m, initT_0, initT_1, initT_2, initT_3, initT_4, initT_5, initT_6, initT_7, initT_8, Nat.reduceEqDiff, ↓reduceIte, t1]), (by first | exact t2 | simp only [put_t, put_t', put_m, putT_t, putT_t', putT_m, init_t, init_m, initT_0, initT_1, initT_2, initT_3, initT_4, initT_5, initT_6, initT_7, initT_8, Nat.reduceEqDiff, ↓reduceIte, t2]), (by first | exact t5 | simp only [put_t, put_t', put_m, putT_t, putT_t', putT_m, init_t, init_m, initT_0, initT_1, initT_2, initT_3, initT_4, initT_5, initT_6, initT_7, initT_8, Nat.reduceEqDiff, ↓reduceIte, t5]), (by first | exact t7 | simp only [put_t, put_t', put_m, putT_t, putT_t', putT_m, init_t, init_m, initT_0, initT_1, initT_2, initT_3, initT_4, initT_5, initT_6, initT_7, initT_8, Nat.reduceEqDiff, ↓reduceIte, t7]), rfl, rfl⟩ ?_
      clear tm hX o1 t1 t2 t5 t7 ab
      rintro s' ⟨j, M, hj, tm, hX, o1, t1, t2, t5, t7, t8, t9⟩
      have ub := hX.ints hu'
      have ab := hX.ints ha
      by_cases hjl : j < set.length
      · have hjl' : (j : Int) < set.length := by omega
        cases hq : anyTo s set f j with
        | true =>
          rw [hq] at t8
          simp (config := {implicitDefEqProofs := false, maxDischargeDepth := 20}) (disch := first | omega | (simp only [lenE]; done) | (simp only [lenE]; omega) | rfl | (simp only [lenE, markR_len]; done) | (simp only [lenE, markR_len]; omega)) only [runE, mapE, listE, initT_5, initT_6, initT_7, initT_8, resV, oneV, binA, unA, reduceCtorEq, Nat.reduceEqDiff, Nat.reduceAdd, Nat.reduceLT, Nat.reduceLeDiff, Nat.reduceMul, Nat.reduceSub, ↓reduceIte, decide_true, decide_false, Bool.true_eq_false, Bool.false_eq_true, Bool.not_true, Bool.not_false, if_true, if_false, and_true, true_and, memE, celE, w64, Nat.zero_add, Nat.add_zero, Nat.mul_one, putL, and_self, ldn, tm, t1, t2, t5, t7, t8, t9, ub.len, hjl', goG_undef]
          refine ⟨⟨j + 1, M, by omega, rfl, hX, o1, by rw [anyTo, hq]; rfl, by simp⟩, ?_⟩
          simp [intOf]; omega
        | false =>
          rw [hq] at t8
          simp (config := {implicitDefEqProofs := false, maxDischargeDepth := 20}) (disch := first | omega | (simp only [lenE]; done) | (simp only [lenE]; omega) | rfl | (simp only [lenE, markR_len]; done) | (simp only [lenE, markR_len]; omega)) only [runE, mapE, listE, initT_5, initT_6, initT_7, initT_8, resV, oneV, binA, unA, reduceCtorEq, Nat.reduceEqDiff, Nat.reduceAdd, Nat.reduceLT, Nat.reduceLeDiff, Nat.reduceMul, Nat.reduceSub, ↓reduceIte, decide_true, decide_false, Bool.true_eq_false, Bool.false_eq_true, Bool.not_true, Bool.not_false, if_true, if_false, and_true, true_and, memE, celE, w64, Nat.zero_add, Nat.add_zero, Nat.mul_one, putL, and_self, ldn, tm, t1, t2, t5, t7, t8, t9, ub.len, hjl', o1.rd, ub.at_ j hjl, ub.ld j hjl]
          have K := usable9_rc M _ s f (set.getD j 0) (ShA.mk ab (hX.ints hb)) (by omega) ⟨by omega, l8⟩
          refine rcallH_rc K ?_
          rintro r n2 ⟨rfl, nr2⟩
          simp (config := {implicitDefEqProofs := false, maxDischargeDepth := 20}) (disch := first | omega | (simp only [lenE]; done) | (simp only [lenE]; omega) | rfl | (simp only [lenE, markR_len]; done) | (simp only [lenE, markR_len]; omega)) only [runE, mapE, listE, initT_5, initT_6, initT_7, initT_8, resV, oneV, binA, unA, reduceCtorEq, Nat.reduceEqDiff, Nat.reduceAdd, Nat.reduceLT, Nat.reduceLeDiff, Nat.reduceMul, Nat.reduceSub, ↓reduceIte, decide_true, decide_false, Bool.true_eq_false, Bool.false_eq_true, Bool.not_true, Bool.not_false, if_true, if_false, and_true, true_and, memE, celE, w64, Nat.zero_add, Nat.add_zero, Nat.mul_one, putL, and_self, ldn, t1, t2, t5, t7, t8, t9]
          refine ⟨⟨j + 1, M ++ n2, by omega, rfl, hX.app nr2, o1.ext _, by rw [anyTo, hq]; rfl, by simp⟩, ?_⟩
          simp [intOf]; omega
      · have hjl' : ¬ ((j : Int) < set.length) := by omega
        have e : j = set.length := by omega
        subst e
        rw [anyTo_all] at t8
        cases hq : useAny s set f with
        | true =>
          rw [hq] at t8
          simp (config := {implicitDefEqProofs := false, maxDischargeDepth := 20}) (disch := first | omega | (simp only [lenE]; done) | (simp only [lenE]; omega) | rfl | (simp only [lenE, markR_len]; done) | (simp only [lenE, markR_len]; omega)) only [runE, mapE, listE, initT_5, initT_6, initT_7, initT_8, resV, oneV, binA, unA, reduceCtorEq, Nat.reduceEqDiff, Nat.reduceAdd, Nat.reduceLT, Nat.reduceLeDiff, Nat.reduceMul, Nat.reduceSub, ↓reduceIte, decide_true, decide_false, Bool.true_eq_false, Bool.false_eq_true, Bool.not_true, Bool.not_false, if_true, if_false, and_true, true_and, memE, celE, w64, Nat.zero_add, Nat.add_zero, Nat.mul_one, putL, and_self, ldn, tm, t1, t2, t5, t7, t8, t9, ub.len, hjl', o1.rd, ab.at_ f hfl, ab.ld f hfl]
          refine ⟨⟨f + 1, M, by omega, rfl, hX, o1, by rw [subA, hq, if_pos rfl]; congr 1; omega, by simp⟩, ?_⟩
          simp [intOf]; omega
        | false =>
          rw [hq] at t8
          simp (config := {implicitDefEqProofs := false, maxDischargeDepth := 20}) (disch := first | omega | (simp only [lenE]; done) | (simp only [lenE]; omega) | rfl | (simp only [lenE, markR_len]; done) | (simp only [lenE, markR_len]; omega)) only [runE, mapE, listE, initT_5, initT_6, initT_7, initT_8, resV, oneV, binA, unA, reduceCtorEq, Nat.reduceEqDiff, Nat.reduceAdd, Nat.reduceLT, Nat.reduceLeDiff, Nat.reduceMul, Nat.reduceSub, ↓reduceIte, decide_true, decide_false, Bool.true_eq_false, Bool.false_eq_true, Bool.not_true, Bool.not_false, if_true, if_false, and_true, true_and, memE, celE, w64, Nat.zero_add, Nat.add_zero, Nat.mul_one, putL, and_self, ldn, tm, t1, t2, t5, t7, t8, t9, ub.len, hjl']
          refine ⟨⟨f + 1, M, by omega, rfl, hX, o1, by rw [subA, hq, if_neg (by simp)]; congr 1; omega, by simp⟩, ?_⟩
          simp [intOf]; omega
    · have hfl' : ¬ ((f : Int) < s.arr.length) := by omega
      have e : f = s.arr.length := by omega
      subst e
      simp (config := {implicitDefEqProofs := false, maxDischargeDepth := 20}) (disch := first | omega | (simp only [lenE]; done) | (simp only [lenE]; omega) | rfl | (simp only [lenE, markR_len]; done) | (simp only [lenE, markR_len]; omega)) only [runE, mapE, listE, initT_5, initT_6, initT_7, initT_8, resV, oneV, binA, unA, reduceCtorEq, Nat.reduceEqDiff, Nat.reduceAdd, Nat.reduceLT, Nat.reduceLeDiff, Nat.reduceMul, Nat.reduceSub, ↓reduceIte, decide_true, decide_false, Bool.true_eq_false, Bool.false_eq_true, Bool.not_true, Bool.not_false, if_true, if_false, and_true, true_and, memE, celE, w64, Nat.zero_add, Nat.add_zero, Nat.mul_one, putL, and_self, ldn, tm, t1, t2, t5, t7, o1.rd, ab.len, hfl']
      exact ext_ansV hX rfl
theorem lostBound_rc (m : Mem) (v u : Value) (s : Sh) (set : List Int) (h : ShA m v s) (hu : IntsA m u set) (hg : GoodSh s) (hr : Rising set s.need.length) :
    RC Try.prog 59 [v, u] m (AnsV (.int .i64 (boundV s set))) := by
  refine rc_of_run mixed ok_impl_lostBound (by simp) (go_start _ _ _ ?_)
  obtain ⟨a, b, rfl, ha, hb⟩ := h.ro
  have hu' := hu.ro
  have hla := hg.la
  have n8 := hg.n8
  have l1 := hg.l1
  have l8 := hg.l8
  have sl := hr.len
  have hX := (Ext.refl m).one 26 [.int .i64 s.life, a, b, .int .i64 s.waste, .int .i64 s.lost]
  simp (config := {implicitDefEqProofs := false, maxDischargeDepth := 20}) (disch := first | omega | (simp only [lenE]; done) | (simp only [lenE]; omega) | rfl | (simp only [lenE, markR_len]; done) | (simp only [lenE, markR_len]; omega)) only [runE, mapE, listE, initT_5, initT_6, initT_7, initT_8, resV, oneV, binA, unA, reduceCtorEq, Nat.reduceEqDiff, Nat.reduceAdd, Nat.reduceLT, Nat.reduceLeDiff, Nat.reduceMul, Nat.reduceSub, ↓reduceIte, decide_true, decide_false, Bool.true_eq_false, Bool.false_eq_true, Bool.not_true, Bool.not_false, if_true, if_false, and_true, true_and, memE, celE, w64, Nat.zero_add, Nat.add_zero, Nat.mul_one, putL, and_self, ldn, c_impl_lostBound, r_impl_lostBound, hu'.len]
  obtain ⟨M0, hM0⟩ : ∃ M0, M0 = roM m ++ [⟨.own, 26, [.int .i64 s.life, a, b, .int .i64 s.waste, .int .i64 s.lost]⟩] := ⟨_, rfl⟩
  have o1 : OwnB M0 m.length 26 [.int .i64 s.life, a, b, .int .i64 s.waste, .int .i64 s.lost] := by rw [hM0]; exact OwnB.here (by simp [roM_len])
  rw [← hM0] at hX ⊢
  have ub := hX.ints hu'
  have bb := hX.ints hb
  have ab := hX.ints ha
  have hbx := needS_bd hg hr
  refine loop_inv mixed (fun s' => ∃ k : Nat, k ≤ set.length ∧ s'.m = M0 ∧ s'.t 1 = u ∧ s'.t 2 = .pointer (some ⟨m.length, 0, none⟩) ∧ s'.t 5 = .int .i64 (needS s set k) ∧ s'.t 10 = u ∧ s'.t 11 = .int .i64 (set.length : Int) ∧ s'.t 12 = .int .i64 (k : Int)) (fun s' => set.length - (intOf (s'.t 12)).toNat)
    ⟨0, by omega, rfl, rfl, rfl, rfl, rfl, rfl, rfl⟩ ?_
  rintro s' ⟨k, hk, tm, t1, t2, t5, t10, t11, t12⟩
  by_cases hlt : k < set.length
  · have hlt' : (k : Int) < set.length := by omega
    have b0 := hr.bd k hlt
    obtain ⟨p, hp⟩ : ∃ p : Nat, set.getD k 0 = (p : Int) := ⟨(set.getD k 0).toNat, by omega⟩
    have ld := ub.ld k hlt
    rw [hp] at ld
    have pn : p < s.need.length := by omega
    have w := memD9 hg.need pn
    have w2 := hbx k (by omega)
    simp (config := {implicitDefEqProofs := false, maxDischargeDepth := 20}) (disch := first | omega | (simp only [lenE]; done) | (simp only [lenE]; omega) | rfl | (simp only [lenE, markR_len]; done) | (simp only [lenE, markR_len]; omega)) only [runE, mapE, listE, initT_5, initT_6, initT_7, initT_8, resV, oneV, binA, unA, reduceCtorEq, Nat.reduceEqDiff, Nat.reduceAdd, Nat.reduceLT, Nat.reduceLeDiff, Nat.reduceMul, Nat.reduceSub, ↓reduceIte, decide_true, decide_false, Bool.true_eq_false, Bool.false_eq_true, Bool.not_true, Bool.not_false, if_true, if_false, and_true, true_and, memE, celE, w64, Nat.zero_add, Nat.add_zero, Nat.mul_one, putL, and_self, ldn, tm, t1, t2, t5, t10, t11, t12, hlt', ub.at_ k hlt, ld, o1.rd, bb.at_ p pn, bb.ld p pn]
    refine ⟨⟨k + 1, by omega, by rw [needS, hp, Int.toNat_natCast], by simp⟩, ?_⟩
    simp [intOf]; omega
  · have hlt' : ¬ ((k : Int) < set.length) := by omega
    have e : k = set.length := by omega
    subst e
    have w2 := hbx set.length (Nat.le_refl _)
    simp (config := {implicitDefEqProofs := false, maxDischargeDepth := 20}) (disch := first | omega | (simp only [lenE]; done) | (simp only [lenE]; omega) | rfl | (simp only [lenE, markR_len]; done) | (simp only [lenE, markR_len]; omega)) only [runE, mapE, listE, initT_5, initT_6, initT_7, initT_8, resV, oneV, binA, unA, reduceCtorEq, Nat.reduceEqDiff, Nat.reduceAdd, Nat.reduceLT, Nat.reduceLeDiff, Nat.reduceMul, Nat.reduceSub, ↓reduceIte, decide_true, decide_false, Bool.true_eq_false, Bool.false_eq_true, Bool.not_true, Bool.not_false, if_true, if_false, and_true, true_and, memE, celE, w64, Nat.zero_add, Nat.add_zero, Nat.mul_one, putL, and_self, ldn, tm, t1, t2, t5, t10, t11, t12, hlt', o1.rd, ab.len]
    refine loop_inv mixed (fun s' => ∃ (f : Nat) (M : Mem), f ≤ s.arr.length ∧ s'.m = M ∧ Ext m M ∧ OwnB M m.length 26 [.int .i64 s.life, a, b, .int .i64 s.waste, .int .i64 s.lost] ∧ s'.t 1 = u ∧ s'.t 2 = .pointer (some ⟨m.length, 0, none⟩) ∧ s'.t 5 = .int .i64 (needS s set set.length - subA s set f) ∧ s'.t 25 = a ∧ s'.t 26 = .int .i64 (s.arr.length : Int) ∧ s'.t 27 = .int .i64 (f : Int)) (fun s' => s.arr.length - (intOf (s'.t 27)).toNat)
      ⟨0, M0, by omega, (by first | exact tm | rfl), hX, o1, (by first | exact t1 | simp only [put_t, put_t', put_m, putT_t, putT_t', putT_m, init_t, init_m, initT_0, initT_1, initT_2, initT_3, initT_4, initT_5, initT_6, initT_7, initT_8, Nat.reduceEqDiff, ↓reduceIte, t1]), (by first | exact t2 | simp only [put_t, put_t', put_m, putT_t, putT_t', putT_m, init_t, init_m, initT_0, initT_1, initT_2, initT_3, initT_4, initT_5, initT_6, initT_7, initT_8, Nat.reduceEqDiff, ↓reduceIte, t2]), (by simp only [put_t, put_t', put_m, putT_t, putT_t', putT_m, init_t, init_m, initT_0, initT_1, initT_2, initT_3, initT_4, initT_5, initT_6, initT_7, initT_8, Nat.reduceEqDiff, ↓reduceIte, t5]; simp [subA]), rfl, rfl, rfl⟩ ?_
    clear tm t1 t2 t5 t10 t11 t12 ub bb ab o1 hX hM0
    rintro s' ⟨f, M, hf, tm, hX, o1, t1, t2, t5, t25, t26, t27⟩
    have ab := hX.ints ha
    have ub := hX.ints hu'
    have w3 := subA_bd hg set f hf
    by_cases hfl : f < s.arr.length
    · have hfl' : (f : Int) < s.arr.length := by omega
      have w4 := memD9 hg.arr hfl
      have r1 : rdc (M ++ [⟨.own, 3, [.int .i64 (f : Int)]⟩]) M.length 0 = some (.int .i64 (f : Int)) := (OwnB.here rfl : OwnB (M ++ [⟨.own, 3, [.int .i64 (f : Int)]⟩]) M.length 3 [.int .i64 (f : Int)]).rd 0
      have r2 : rdc (M ++ [⟨.own, 3, [.int .i64 (f : Int)]⟩]) m.length 0 = some (.int .i64 s.life) := (o1.ext [⟨.own, 3, [.int .i64 (f : Int)]⟩]).rd 0
      simp (config := {implicitDefEqProofs := false, maxDischargeDepth := 20}) (disch := first | omega | (simp only [lenE]; done) | (simp only [lenE]; omega) | rfl | (simp only [lenE, markR_len]; done) | (simp only [lenE, markR_len]; omega)) only [runE, mapE, listE, initT_5, initT_6, initT_7, initT_8, resV, oneV, binA, unA, reduceCtorEq, Nat.reduceEqDiff, Nat.reduceAdd, Nat.reduceLT, Nat.reduceLeDiff, Nat.reduceMul, Nat.reduceSub, ↓reduceIte, decide_true, decide_false, Bool.true_eq_false, Bool.false_eq_true, Bool.not_true, Bool.not_false, if_true, if_false, and_true, true_and, memE, celE, w64, Nat.zero_add, Nat.add_zero, Nat.mul_one, putL, and_self, ldn, tm, t1, t2, t5, t25, t26, t27, hfl', ab.at_ f hfl, ab.ld f hfl]
      refine callH_rc (containsFunc_rc _ u _ set (usI s.life f) (ub.ext _) (fresh_test _ M.length m.length f s.life r1 r2 (by omega) ⟨by omega, l8⟩)) ?_
      rintro r new ⟨rfl, rfl⟩
      rw [List.append_nil]
      cases hq : set.any (usI s.life f) with
      | true =>
        simp (config := {implicitDefEqProofs := false, maxDischargeDepth := 20}) (disch := first | omega | (simp only [lenE]; done) | (simp only [lenE]; omega) | rfl | (simp only [lenE, markR_len]; done) | (simp only [lenE, markR_len]; omega)) only [runE, mapE, listE, initT_5, initT_6, initT_7, initT_8, resV, oneV, binA, unA, reduceCtorEq, Nat.reduceEqDiff, Nat.reduceAdd, Nat.reduceLT, Nat.reduceLeDiff, Nat.reduceMul, Nat.reduceSub, ↓reduceIte, decide_true, decide_false, Bool.true_eq_false, Bool.false_eq_true, Bool.not_true, Bool.not_false, if_true, if_false, and_true, true_and, memE, celE, w64, Nat.zero_add, Nat.add_zero, Nat.mul_one, putL, and_self, ldn, t1, t2, t5, t25, t26, t27]
        refine ⟨⟨f + 1, _, by omega, rfl, hX.one _ _, o1.ext _, by rw [subA, show useAny s set f = true from hq, if_pos rfl]; congr 1; omega, by simp⟩, ?_⟩
        simp [intOf]; omega
      | false =>
        simp (config := {implicitDefEqProofs := false, maxDischargeDepth := 20}) (disch := first | omega | (simp only [lenE]; done) | (simp only [lenE]; omega) | rfl | (simp only [lenE, markR_len]; done) | (simp only [lenE, markR_len]; omega)) only [runE, mapE, listE, initT_5, initT_6, initT_7, initT_8, resV, oneV, binA, unA, reduceCtorEq, Nat.reduceEqDiff, Nat.reduceAdd, Nat.reduceLT, Nat.reduceLeDiff, Nat.reduceMul, Nat.reduceSub, ↓reduceIte, decide_true, decide_false, Bool.true_eq_false, Bool.false_eq_true, Bool.not_true, Bool.not_false, if_true, if_false, and_true, true_and, memE, celE, w64, Nat.zero_add, Nat.add_zero, Nat.mul_one, putL, and_self, ldn, t1, t2, t5, t25, t26, t27]
        refine ⟨⟨f + 1, _, by omega, rfl, hX.one _ _, o1.ext _, by rw [subA, show useAny s set f = false from hq, if_neg (by simp)]; congr 1; omega, by simp⟩, ?_⟩
        simp [intOf]; omega
    · have hfl' : ¬ ((f : Int) < s.arr.length) := by omega
      have e : f = s.arr.length := by omega
      subst e
      simp (config := {implicitDefEqProofs := false, maxDischargeDepth := 20}) (disch := first | omega | (simp only [lenE]; done) | (simp only [lenE]; omega) | rfl | (simp only [lenE, markR_len]; done) | (simp only [lenE, markR_len]; omega)) only [runE, mapE, listE, initT_5, initT_6, initT_7, initT_8, resV, oneV, binA, unA, reduceCtorEq, Nat.reduceEqDiff, Nat.reduceAdd, Nat.reduceLT, Nat.reduceLeDiff, Nat.reduceMul, Nat.reduceSub, ↓reduceIte, decide_true, decide_false, Bool.true_eq_false, Bool.false_eq_true, Bool.not_true, Bool.not_false, if_true, if_false, and_true, true_and, memE, celE, w64, Nat.zero_add, Nat.add_zero, Nat.mul_one, putL, and_self, ldn, tm, t1, t2, t5, t25, t26, t27, hfl']
      exact ext_ansV hX rfl
theorem implLostBound_rc (m : Mem) (v u : Value) (s : Sh) (set : List Int) (h : ShA m v s) (hu : IntsA m u set) :
    RC Try.prog 26 [v, u] m (AnsV (.tuple #[.int .i64 (lboundA s set), .bool (lboundOk s set)])) := by
  refine rc_of_run mixed ok_impl_LostBound (by simp) (go_start _ _ _ ?_)
  obtain ⟨a, b, rfl, ha, hb⟩ := h.ro
  have hu' := hu.ro
  have hX := (Ext.refl m).one 26 [.int .i64 s.life, a, b, .int .i64 s.waste, .int .i64 s.lost]
  simp (config := {implicitDefEqProofs := false, maxDischargeDepth := 20}) (disch := first | omega | (simp only [lenE]; done) | (simp only [lenE]; omega) | rfl | (simp only [lenE, markR_len]; done) | (simp only [lenE, markR_len]; omega)) only [runE, mapE, listE, initT_5, initT_6, initT_7, initT_8, resV, oneV, binA, unA, reduceCtorEq, Nat.reduceEqDiff, Nat.reduceAdd, Nat.reduceLT, Nat.reduceLeDiff, Nat.reduceMul, Nat.reduceSub, ↓reduceIte, decide_true, decide_false, Bool.true_eq_false, Bool.false_eq_true, Bool.not_true, Bool.not_false, if_true, if_false, and_true, true_and, memE, celE, w64, Nat.zero_add, Nat.add_zero, Nat.mul_one, putL, and_self, ldn, c_impl_LostBound, r_impl_LostBound]
  obtain ⟨M0, hM0⟩ : ∃ M0, M0 = roM m ++ [⟨.own, 26, [.int .i64 s.life, a, b, .int .i64 s.waste, .int .i64 s.lost]⟩] := ⟨_, rfl⟩
  have o1 : OwnB M0 m.length 26 [.int .i64 s.life, a, b, .int .i64 s.waste, .int .i64 s.lost] := by rw [hM0]; exact OwnB.here (by simp [roM_len])
  rw [← hM0] at hX ⊢
  refine callH_rc (implIsShelf_rc _ _ s (ShA.mk (hX.ints ha) (hX.ints hb))) ?_
  rintro r n1 ⟨rfl, nr1⟩
  replace hX := hX.app nr1
  replace o1 := o1.ext n1
  obtain ⟨M1, hM1⟩ : ∃ M1, M1 = M0 ++ n1 := ⟨_, rfl⟩
  rw [← hM1] at hX o1 ⊢
  unfold lboundA lboundOk
  cases hg : s.good with
  | false =>
    simp (config := {implicitDefEqProofs := false, maxDischargeDepth := 20}) (disch := first | omega | (simp only [lenE]; done) | (simp only [lenE]; omega) | rfl | (simp only [lenE, markR_len]; done) | (simp only [lenE, markR_len]; omega)) only [runE, mapE, listE, initT_5, initT_6, initT_7, initT_8, resV, oneV, binA, unA, reduceCtorEq, Nat.reduceEqDiff, Nat.reduceAdd, Nat.reduceLT, Nat.reduceLeDiff, Nat.reduceMul, Nat.reduceSub, ↓reduceIte, decide_true, decide_false, Bool.true_eq_false, Bool.false_eq_true, Bool.not_true, Bool.not_false, if_true, if_false, and_true, true_and, memE, celE, w64, Nat.zero_add, Nat.add_zero, Nat.mul_one, putL, and_self, ldn, goG_undef]
    exact ext_ansV hX (by simp)
  | true =>
    have gd := goodSh_iff.1 hg
    have n8 := gd.n8
    simp (config := {implicitDefEqProofs := false, maxDischargeDepth := 20}) (disch := first | omega | (simp only [lenE]; done) | (simp only [lenE]; omega) | rfl | (simp only [lenE, markR_len]; done) | (simp only [lenE, markR_len]; omega)) only [runE, mapE, listE, initT_5, initT_6, initT_7, initT_8, resV, oneV, binA, unA, reduceCtorEq, Nat.reduceEqDiff, Nat.reduceAdd, Nat.reduceLT, Nat.reduceLeDiff, Nat.reduceMul, Nat.reduceSub, ↓reduceIte, decide_true, decide_false, Bool.true_eq_false, Bool.false_eq_true, Bool.not_true, Bool.not_false, if_true, if_false, and_true, true_and, memE, celE, w64, Nat.zero_add, Nat.add_zero, Nat.mul_one, putL, and_self, ldn, o1.rd, (hX.ints hb).len]
    refine callH_rc (ascending_rc _ u set s.need.length (hX.ints hu') (by omega)) ?_
    rintro r n2 ⟨rfl, nr2⟩
    cases hr : risB set s.need.length with
    | false =>
      simp (config := {implicitDefEqProofs := false, maxDischargeDepth := 20}) (disch := first | omega | (simp only [lenE]; done) | (simp only [lenE]; omega) | rfl | (simp only [lenE, markR_len]; done) | (simp only [lenE, markR_len]; omega)) only [runE, mapE, listE, initT_5, initT_6, initT_7, initT_8, resV, oneV, binA, unA, reduceCtorEq, Nat.reduceEqDiff, Nat.reduceAdd, Nat.reduceLT, Nat.reduceLeDiff, Nat.reduceMul, Nat.reduceSub, ↓reduceIte, decide_true, decide_false, Bool.true_eq_false, Bool.false_eq_true, Bool.not_true, Bool.not_false, if_true, if_false, and_true, true_and, memE, celE, w64, Nat.zero_add, Nat.add_zero, Nat.mul_one, putL, and_self, ldn]
      exact ext_ansV (hX.app nr2) (by simp)
    | true =>
      have hX2 := hX.app nr2
      simp (config := {implicitDefEqProofs := false, maxDischargeDepth := 20}) (disch := first | omega | (simp only [lenE]; done) | (simp only [lenE]; omega) | rfl | (simp only [lenE, markR_len]; done) | (simp only [lenE, markR_len]; omega)) only [runE, mapE, listE, initT_5, initT_6, initT_7, initT_8, resV, oneV, binA, unA, reduceCtorEq, Nat.reduceEqDiff, Nat.reduceAdd, Nat.reduceLT, Nat.reduceLeDiff, Nat.reduceMul, Nat.reduceSub, ↓reduceIte, decide_true, decide_false, Bool.true_eq_false, Bool.false_eq_true, Bool.not_true, Bool.not_false, if_true, if_false, and_true, true_and, memE, celE, w64, Nat.zero_add, Nat.add_zero, Nat.mul_one, putL, and_self, ldn, (o1.ext n2).rd]
      refine callH_rc (lostBound_rc _ _ u s set (ShA.mk (hX2.ints ha) (hX2.ints hb)) (hX2.ints hu') gd (risB_iff.1 hr)) ?_
      rintro r n3 ⟨rfl, nr3⟩
      simp (config := {implicitDefEqProofs := false, maxDischargeDepth := 20}) (disch := first | omega | (simp only [lenE]; done) | (simp only [lenE]; omega) | rfl | (simp only [lenE, markR_len]; done) | (simp only [lenE, markR_len]; omega)) only [runE, mapE, listE, initT_5, initT_6, initT_7, initT_8, resV, oneV, binA, unA, reduceCtorEq, Nat.reduceEqDiff, Nat.reduceAdd, Nat.reduceLT, Nat.reduceLeDiff, Nat.reduceMul, Nat.reduceSub, ↓reduceIte, decide_true, decide_false, Bool.true_eq_false, Bool.false_eq_true, Bool.not_true, Bool.not_false, if_true, if_false, and_true, true_and, memE, celE, w64, Nat.zero_add, Nat.add_zero, Nat.mul_one, putL, and_self, ldn]
      exact ext_ansV (hX2.app nr3) (by simp)
end Go.Proofs.Ytdgfbmilbhckiaa.Ab
end
section
namespace Go.Proofs.Ytdgfbmilbhckiaa.Ab
open Go Go.RowKit
set_option linter.unusedVariables false
set_option linter.unusedSimpArgs false
theorem VL.one1 {ρ : Places} {x : Value} {cs : List Value} (h : VL ρ [x] cs) : ∃ y, cs = [y] ∧ VR ρ x y := by
  obtain ⟨hl, hp⟩ := h
  match cs, hl with
  | [y], _ => exact ⟨y, rfl, hp 0 x y rfl rfl⟩
theorem FnOk.fn {P : Program} {f : FuncId} {n : Nat} {c : ACode} {res : List ARes} (hf : FnOk P f n c res) : ∃ fn, P.funcs[f]? = some fn ∧ (fn.name == "runtime.NumGoroutine") = false ∧ fn.body.isNone = false := by
  obtain ⟨fn, C, hfn, hname, hb, _⟩ := hf.ok
  exact ⟨fn, hfn, hname, by rw [hb]; rfl⟩
theorem VR.empty {ρ : Places} {id c : Nat} {A : Option Addr} {p : Nat × Nat × Nat} (h : ρ[id]? = some p) (hc : c ≤ maxLen) : VR ρ (.slice (some ⟨id, 0, none⟩) 0 0) (.slice A 0 c) := by
  obtain ⟨b, o, t⟩ := p
  exact .sl h (Nat.zero_le _) hc (fun _ h => absurd h (by omega)) (fun h => absurd h (by omega))
theorem clone0_rc (m : Mem) (v : Value) (hv : v = .slice none 0 0 ∨ ∃ id off fl, v = .slice (some ⟨id, off, none⟩) 0 fl) : RC Try.prog 110 [v] m (AnsR m []) := by
  refine ⟨ok_slices_Clone.fn, fun ρ w cargs hm ha => ?_⟩
  obtain ⟨y, rfl, hy⟩ := ha.one1
  have hs : ∃ A c, y = .slice A 0 c := by
    rcases hv with rfl | ⟨id, off, fl, rfl⟩
    · cases hy; exact ⟨_, _, rfl⟩
    · cases hy; exact ⟨_, _, rfl⟩
  obtain ⟨A, c, rfl⟩ := hs
  have fin : ∀ (A' : Option Addr) (c' : Nat) (w' : World), c' ≤ maxLen → Below w.heap.size w w' → ∃ v v' new ρn, Ending.returned (.slice A' 0 c') = .returned v' ∧ AnsR m [] v new ∧ NoRo new ∧ MRel w w.heap.size (ρ ++ ρn) (roM m ++ new) w' ∧ VR (ρ ++ ρn) v v' := by
    intro A' c' w' hc hb
    have hm2 := hm.keep hb
    have hm3 := hm2.add (e := 3) (xs := []) (g := 0) (tot := 0) (by simp) (fun h => absurd h (by omega)) (fun h => absurd h (by omega))
    refine ⟨.slice (some ⟨m.length, 0, none⟩) 0 0, _, [⟨.own, 3, []⟩], [(0, 0, 0)], rfl, ⟨noRo_own noRo_nil, by simp, 0, 0, rfl, rfl⟩, noRo_own noRo_nil, hm3, ?_⟩
    have hlen : ρ.length = m.length := by rw [hm.len]; simp [roM_len]
    exact VR.empty (p := (0, 0, 0)) (by rw [← hlen]; simp) hc
  cases A with
  | none =>
    refine (Try.slices_Clone_int_nil 0 c w).mono ?_
    rintro e w' ⟨rfl, rfl⟩
    exact fin none 0 _ (Nat.zero_le _) (Below.refl _ _)
  | some a =>
    refine (Try.slices_Clone_int_zero a c w).mono ?_
    rintro e w' ⟨v', rfl, ho, hn, hb⟩
    rcases ho.2 with ⟨rfl, _⟩ | ⟨g, cap, cur, rfl, _, _, _, hc, _⟩
    · exact fin none 0 w' (Nat.zero_le _) hb
    · exact fin _ cap w' hc hb
theorem clone_rc (m : Mem) (v : Value) (l : List Int) (h : IntsA m v l) (hl : l.length ≤ 1048576) : RC Try.prog 110 [v] m (AnsR m l) := by
  by_cases h0 : l = []
  · subst h0
    refine clone0_rc m v ?_
    rcases h.form with ⟨rfl, _⟩ | ⟨id, off, fl, rfl⟩
    · exact .inl rfl
    · exact .inr ⟨id, off, fl, rfl⟩
  · have hpos : 0 < l.length := List.length_pos_iff.2 h0
    refine rc_of_run mixed ok_slices_Clone (by simp) (go_start _ _ _ ?_)
    have hr := h.ro
    have ha := app_own hr hl
    rw [roM_len] at ha
    have hsl : slnA false v = some (.bool false) := by
      rcases h.form with ⟨_, e⟩ | ⟨id, off, fl, rfl⟩
      · exact absurd e h0
      · obtain ⟨n, hn⟩ : ∃ n, l.length = n + 1 := ⟨l.length - 1, by omega⟩
        rw [hn]; rfl
    simp (config := {implicitDefEqProofs := false, maxDischargeDepth := 20}) (disch := first | omega | (simp only [lenE]; done) | (simp only [lenE]; omega) | rfl | (simp only [lenE, markR_len]; done) | (simp only [lenE, markR_len]; omega)) only [runE, mapE, listE, initT_5, initT_6, initT_7, initT_8, resV, oneV, binA, unA, reduceCtorEq, Nat.reduceEqDiff, Nat.reduceAdd, Nat.reduceLT, Nat.reduceLeDiff, Nat.reduceMul, Nat.reduceSub, ↓reduceIte, decide_true, decide_false, Bool.true_eq_false, Bool.false_eq_true, Bool.not_true, Bool.not_false, if_true, if_false, and_true, true_and, memE, celE, w64, Nat.zero_add, Nat.add_zero, Nat.mul_one, putL, and_self, ldn, c_slices_Clone, r_slices_Clone, hsl, bsl_none', ha]
    exact ext_ansR (((Ext.refl m).app (noRo_dead noRo_nil)).one _ _) (OwnR.end' (by simp [roM_len])) (by omega) rfl hl
end Go.Proofs.Ytdgfbmilbhckiaa.Ab
end
section
namespace Go.Proofs.Ytdgfbmilbhckiaa.Ab
open Go Go.RowKit
set_option linter.unusedVariables false
theorem BoxA.ld5 {m : Mem} {id : Nat} {a b c d e : Value} (h : BoxA m id [a, b, c, d, e]) : ldA m (some 5) (.pointer (some ⟨id, 0, none⟩)) = some (.agg #[a, b, c, d, e]) := by
  obtain ⟨_, h⟩ := h
  simp [ldA, rdn, rdc, h]
theorem IntsA.one {m : Mem} {v : Value} {l : List Int} (h : IntsA m v l) (xs : List Value) : onesB (v :: xs) = onesB xs := by
  rcases h.form with ⟨rfl, _⟩ | ⟨id, off, fl, rfl⟩ <;> exact onesB_sl _ _ _ _
end Go.Proofs.Ytdgfbmilbhckiaa.Ab
end
section
namespace Go.Proofs.Ytdgfbmilbhckiaa.Ab
open Go Go.RowKit
set_option linter.unusedVariables false
set_option linter.unusedSimpArgs false
theorem stP_agg5' (m : Mem) (id off : Nat) (u v w x y : Value) : stP m 5 (.pointer (some ⟨id, off, none⟩)) (.agg #[u, v, w, x, y]) = stA m id off [u, v, w, x, y] := rfl
theorem OwnB.ld5' {M : Mem} {id : Nat} {e : TypeId} {a b c d f : Value} (h : OwnB M id e [a, b, c, d, f]) : ldA M (some 5) (.pointer (some ⟨id, 0, none⟩)) = some (.agg #[a, b, c, d, f]) := by
  exact BoxA.ld5 ⟨e, h⟩
def LeftR (m : Mem) (s : Sh) (A N : List Int) (M : Mem) (r : Value) : Prop :=
  ∃ ia ib fa fb, ia ≠ ib ∧ m.length ≤ ia ∧ m.length ≤ ib ∧ r = shV s (.slice (some ⟨ia, 0, none⟩) A.length fa) (.slice (some ⟨ib, 0, none⟩) N.length fb) ∧ OwnR M ia A ∧ OwnR M ib N
def AnsLeft (m : Mem) (s : Sh) (A N : List Int) (r : Value) (new : Mem) : Prop := NoRo new ∧ LeftR m s A N (m ++ new) r
theorem LeftR.swap {m n0 : Mem} {s : Sh} {A N : List Int} {r : Value} (h : LeftR m s A N (roM m ++ n0) r) : LeftR m s A N (m ++ n0) r := by
  obtain ⟨ia, ib, fa, fb, hne, h1, h2, rfl, ha, hb⟩ := h
  refine ⟨ia, ib, fa, fb, hne, h1, h2, rfl, ha.at_ ?_, hb.at_ ?_⟩
  · rw [List.getElem?_append_right h1, List.getElem?_append_right (by rw [roM_len]; exact h1), roM_len]
  · rw [List.getElem?_append_right h2, List.getElem?_append_right (by rw [roM_len]; exact h2), roM_len]
theorem ext_left {m M : Mem} {s : Sh} {A N : List Int} {r : Value} (h : Ext m M) (hl : LeftR m s A N M r) : newQ m (AnsLeft m s A N) r M := by
  obtain ⟨n0, rfl, h0⟩ := h
  exact ⟨n0, rfl, h0, h0, hl.swap⟩
theorem copyOf_rc (m : Mem) (v : Value) (s : Sh) (h : ShA m v s) (l1 : s.arr.length ≤ 1048576) (l2 : s.need.length ≤ 1048576) :
    RC Try.prog 93 [v] m (AnsLeft m s s.arr s.need) := by
  refine rc_of_run mixed ok_impl_copyOf (by simp) (go_start _ _ _ ?_)
  obtain ⟨a, b, rfl, ha, hb⟩ := h.ro
  simp (config := {implicitDefEqProofs := false, maxDischargeDepth := 20}) (disch := first | omega | (simp only [lenE]; done) | (simp only [lenE]; omega) | rfl | (simp only [lenE, markR_len]; done) | (simp only [lenE, markR_len]; omega)) only [runE, mapE, listE, initT_5, initT_6, initT_7, initT_8, resV, oneV, binA, unA, reduceCtorEq, Nat.reduceEqDiff, Nat.reduceAdd, Nat.reduceLT, Nat.reduceLeDiff, Nat.reduceMul, Nat.reduceSub, ↓reduceIte, decide_true, decide_false, Bool.true_eq_false, Bool.false_eq_true, Bool.not_true, Bool.not_false, if_true, if_false, and_true, true_and, memE, celE, w64, Nat.zero_add, Nat.add_zero, Nat.mul_one, putL, and_self, ldn, c_impl_copyOf, r_impl_copyOf]
  obtain ⟨M0, hM0⟩ : ∃ M0, M0 = roM m ++ [⟨.own, 26, [.int .i64 s.life, a, b, .int .i64 s.waste, .int .i64 s.lost]⟩] ++ [⟨.own, 26, [.int .i64 0, .slice none 0 0, .slice none 0 0, .int .i64 0, .int .i64 0]⟩] := ⟨_, rfl⟩
  rw [← hM0]
  have hX : Ext m M0 := by rw [hM0]; exact ((Ext.refl m).one _ _).one _ _
  have o1 : OwnB M0 m.length 26 [.int .i64 s.life, a, b, .int .i64 s.waste, .int .i64 s.lost] := by rw [hM0]; exact (OwnB.here (by simp [roM_len])).ext _
  have o2 : OwnB M0 (m.length + 1) 26 [.int .i64 0, .slice none 0 0, .slice none 0 0, .int .i64 0, .int .i64 0] := by rw [hM0]; exact OwnB.here (by simp [roM_len])
  have hl0 := o2.lt
  refine rcallH_rc (clone_rc _ a s.arr (hX.ints ha) l1) ?_
  intro r n1 hA
  obtain ⟨ia, fa, rfl, ga, oa, -, nr1⟩ := hA.row
  replace hX := hX.app nr1
  replace o1 := o1.ext n1
  replace o2 := o2.ext n1
  obtain ⟨M1, hM1⟩ : ∃ M1, M1 = M0 ++ n1 := ⟨_, rfl⟩
  rw [← hM1] at hX o1 o2 oa ⊢
  simp (config := {implicitDefEqProofs := false, maxDischargeDepth := 20}) (disch := first | omega | (simp only [lenE]; done) | (simp only [lenE]; omega) | rfl | (simp only [lenE, markR_len]; done) | (simp only [lenE, markR_len]; omega)) only [runE, mapE, listE, initT_5, initT_6, initT_7, initT_8, resV, oneV, binA, unA, reduceCtorEq, Nat.reduceEqDiff, Nat.reduceAdd, Nat.reduceLT, Nat.reduceLeDiff, Nat.reduceMul, Nat.reduceSub, ↓reduceIte, decide_true, decide_false, Bool.true_eq_false, Bool.false_eq_true, Bool.not_true, Bool.not_false, if_true, if_false, and_true, true_and, memE, celE, w64, Nat.zero_add, Nat.add_zero, Nat.mul_one, putL, and_self, ldn, o1.rd]
  refine rcallH_rc (clone_rc _ b s.need (hX.ints hb) l2) ?_
  intro r n2 hB
  obtain ⟨ib, fb, rfl, gb, ob, -, nr2⟩ := hB.row
  replace hX := hX.app nr2
  replace o1 := o1.ext n2
  replace o2 := o2.ext n2
  have ol := oa.lt
  replace oa := oa.ext n2
  obtain ⟨M2, hM2⟩ : ∃ M2, M2 = M1 ++ n2 := ⟨_, rfl⟩
  rw [← hM2] at hX o1 o2 oa ob ⊢
  have s1 := o1.st (off := 1) (vs := [.slice (some ⟨ia, 0, none⟩) s.arr.length fa]) (by simp) rfl
  simp (config := {implicitDefEqProofs := false, maxDischargeDepth := 20}) (disch := first | omega | (simp only [lenE]; done) | (simp only [lenE]; omega) | rfl | (simp only [lenE, markR_len]; done) | (simp only [lenE, markR_len]; omega)) only [runE, mapE, listE, initT_5, initT_6, initT_7, initT_8, resV, oneV, binA, unA, reduceCtorEq, Nat.reduceEqDiff, Nat.reduceAdd, Nat.reduceLT, Nat.reduceLeDiff, Nat.reduceMul, Nat.reduceSub, ↓reduceIte, decide_true, decide_false, Bool.true_eq_false, Bool.false_eq_true, Bool.not_true, Bool.not_false, if_true, if_false, and_true, true_and, memE, celE, w64, Nat.zero_add, Nat.add_zero, Nat.mul_one, putL, and_self, ldn, s1]
  have q1 := o1.set_self 26 [.int .i64 s.life, .slice (some ⟨ia, 0, none⟩) s.arr.length fa, b, .int .i64 s.waste, .int .i64 s.lost]
  have q2 := o2.set_ne (id := m.length) (by omega) ⟨.own, 26, [.int .i64 s.life, .slice (some ⟨ia, 0, none⟩) s.arr.length fa, b, .int .i64 s.waste, .int .i64 s.lost]⟩
  have qa : OwnR (M2.set m.length ⟨.own, 26, [.int .i64 s.life, .slice (some ⟨ia, 0, none⟩) s.arr.length fa, b, .int .i64 s.waste, .int .i64 s.lost]⟩) ia s.arr := OwnR.at_ oa (by rw [List.getElem?_set_ne (by omega)])
  have qb : OwnR (M2.set m.length ⟨.own, 26, [.int .i64 s.life, .slice (some ⟨ia, 0, none⟩) s.arr.length fa, b, .int .i64 s.waste, .int .i64 s.lost]⟩) ib s.need := OwnR.at_ ob (by rw [List.getElem?_set_ne (by omega)])
  have qX := hX.put (id := m.length) (by omega) 26 [.int .i64 s.life, .slice (some ⟨ia, 0, none⟩) s.arr.length fa, b, .int .i64 s.waste, .int .i64 s.lost]
  obtain ⟨M3, hM3⟩ : ∃ M3, M3 = M2.set m.length ⟨.own, 26, [.int .i64 s.life, .slice (some ⟨ia, 0, none⟩) s.arr.length fa, b, .int .i64 s.waste, .int .i64 s.lost]⟩ := ⟨_, rfl⟩
  rw [← hM3] at q1 q2 qa qb qX ⊢
  have s2 := q1.st (off := 2) (vs := [.slice (some ⟨ib, 0, none⟩) s.need.length fb]) (by simp) rfl
  simp (config := {implicitDefEqProofs := false, maxDischargeDepth := 20}) (disch := first | omega | (simp only [lenE]; done) | (simp only [lenE]; omega) | rfl | (simp only [lenE, markR_len]; done) | (simp only [lenE, markR_len]; omega)) only [runE, mapE, listE, initT_5, initT_6, initT_7, initT_8, resV, oneV, binA, unA, reduceCtorEq, Nat.reduceEqDiff, Nat.reduceAdd, Nat.reduceLT, Nat.reduceLeDiff, Nat.reduceMul, Nat.reduceSub, ↓reduceIte, decide_true, decide_false, Bool.true_eq_false, Bool.false_eq_true, Bool.not_true, Bool.not_false, if_true, if_false, and_true, true_and, memE, celE, w64, Nat.zero_add, Nat.add_zero, Nat.mul_one, putL, and_self, ldn, s2]
  have r1 := q1.set_self 26 [.int .i64 s.life, .slice (some ⟨ia, 0, none⟩) s.arr.length fa, .slice (some ⟨ib, 0, none⟩) s.need.length fb, .int .i64 s.waste, .int .i64 s.lost]
  have r2 := q2.set_ne (id := m.length) (by omega) ⟨.own, 26, [.int .i64 s.life, .slice (some ⟨ia, 0, none⟩) s.arr.length fa, .slice (some ⟨ib, 0, none⟩) s.need.length fb, .int .i64 s.waste, .int .i64 s.lost]⟩
  have ra : OwnR (M3.set m.length ⟨.own, 26, [.int .i64 s.life, .slice (some ⟨ia, 0, none⟩) s.arr.length fa, .slice (some ⟨ib, 0, none⟩) s.need.length fb, .int .i64 s.waste, .int .i64 s.lost]⟩) ia s.arr := OwnR.at_ qa (by rw [List.getElem?_set_ne (by omega)])
  have rb : OwnR (M3.set m.length ⟨.own, 26, [.int .i64 s.life, .slice (some ⟨ia, 0, none⟩) s.arr.length fa, .slice (some ⟨ib, 0, none⟩) s.need.length fb, .int .i64 s.waste, .int .i64 s.lost]⟩) ib s.need := OwnR.at_ qb (by rw [List.getElem?_set_ne (by omega)])
  have rX := qX.put (id := m.length) (by omega) 26 [.int .i64 s.life, .slice (some ⟨ia, 0, none⟩) s.arr.length fa, .slice (some ⟨ib, 0, none⟩) s.need.length fb, .int .i64 s.waste, .int .i64 s.lost]
  obtain ⟨M4, hM4⟩ : ∃ M4, M4 = M3.set m.length ⟨.own, 26, [.int .i64 s.life, .slice (some ⟨ia, 0, none⟩) s.arr.length fa, .slice (some ⟨ib, 0, none⟩) s.need.length fb, .int .i64 s.waste, .int .i64 s.lost]⟩ := ⟨_, rfl⟩
  rw [← hM4] at r1 r2 ra rb rX ⊢
  have s3 := r2.st (off := 0) (vs := [.int .i64 s.life, .slice (some ⟨ia, 0, none⟩) s.arr.length fa, .slice (some ⟨ib, 0, none⟩) s.need.length fb, .int .i64 s.waste, .int .i64 s.lost]) (by simp) rfl
  have u2 := r2.set_self 26 [.int .i64 s.life, .slice (some ⟨ia, 0, none⟩) s.arr.length fa, .slice (some ⟨ib, 0, none⟩) s.need.length fb, .int .i64 s.waste, .int .i64 s.lost]
  simp (config := {implicitDefEqProofs := false, maxDischargeDepth := 20}) (disch := first | omega | (simp only [lenE]; done) | (simp only [lenE]; omega) | rfl | (simp only [lenE, markR_len]; done) | (simp only [lenE, markR_len]; omega)) only [runE, mapE, listE, initT_5, initT_6, initT_7, initT_8, resV, oneV, binA, unA, reduceCtorEq, Nat.reduceEqDiff, Nat.reduceAdd, Nat.reduceLT, Nat.reduceLeDiff, Nat.reduceMul, Nat.reduceSub, ↓reduceIte, decide_true, decide_false, Bool.true_eq_false, Bool.false_eq_true, Bool.not_true, Bool.not_false, if_true, if_false, and_true, true_and, memE, celE, w64, Nat.zero_add, Nat.add_zero, Nat.mul_one, putL, and_self, ldn, r1.rd, stP_agg5', s3, u2.rd]
  refine ext_left (rX.put (by omega) _ _) ⟨ia, ib, fa, fb, by omega, by omega, by omega, rfl, OwnR.at_ ra ?_, OwnR.at_ rb ?_⟩
  · rw [List.getElem?_set_ne (by omega)]
  · rw [List.getElem?_set_ne (by omega)]
theorem mostUnits_rc (m : Mem) (s : Sh) (a b : Value) (A N : List Int) (f t : Nat) (ha : IntsA m a A) (hb : IntsA m b N) (hf : f < A.length) (ht : t < N.length) (h1 : f ≤ 100) (hl : 0 ≤ s.life ∧ s.life ≤ 8) :
    RC Try.prog 94 [shV s a b, .agg #[.int .i64 (t : Int), .int .i64 (f : Int)]] m (AnsV (.int .i64 (most9 s.life A N t f))) := by
  refine rc_of_run mixed ok_impl_mostUnits (by simp) (go_start _ _ _ ?_)
  have ha' := ha.ro
  have hb' := hb.ro
  have hX := ((Ext.refl m).one 26 [.int .i64 s.life, a, b, .int .i64 s.waste, .int .i64 s.lost]).one 102 [.int .i64 (t : Int), .int .i64 (f : Int)]
  have xa := hX.ints ha'
  have xb := hX.ints hb'
  simp (config := {implicitDefEqProofs := false, maxDischargeDepth := 20}) (disch := first | omega | (simp only [lenE]; done) | (simp only [lenE]; omega) | rfl | (simp only [lenE, markR_len]; done) | (simp only [lenE, markR_len]; omega)) only [runE, mapE, listE, initT_5, initT_6, initT_7, initT_8, resV, oneV, binA, unA, reduceCtorEq, Nat.reduceEqDiff, Nat.reduceAdd, Nat.reduceLT, Nat.reduceLeDiff, Nat.reduceMul, Nat.reduceSub, ↓reduceIte, decide_true, decide_false, Bool.true_eq_false, Bool.false_eq_true, Bool.not_true, Bool.not_false, if_true, if_false, and_true, true_and, memE, celE, w64, Nat.zero_add, Nat.add_zero, Nat.mul_one, putL, and_self, ldn, c_impl_mostUnits, r_impl_mostUnits]
  refine callH_rc (isFresh_rc _ f t _ h1 hl) ?_
  rintro r new ⟨rfl, rfl⟩
  unfold most9
  cases hu : usB s.life f t with
  | false =>
    simp (config := {implicitDefEqProofs := false, maxDischargeDepth := 20}) (disch := first | omega | (simp only [lenE]; done) | (simp only [lenE]; omega) | rfl | (simp only [lenE, markR_len]; done) | (simp only [lenE, markR_len]; omega)) only [runE, mapE, listE, initT_5, initT_6, initT_7, initT_8, resV, oneV, binA, unA, reduceCtorEq, Nat.reduceEqDiff, Nat.reduceAdd, Nat.reduceLT, Nat.reduceLeDiff, Nat.reduceMul, Nat.reduceSub, ↓reduceIte, decide_true, decide_false, Bool.true_eq_false, Bool.false_eq_true, Bool.not_true, Bool.not_false, if_true, if_false, and_true, true_and, memE, celE, w64, Nat.zero_add, Nat.add_zero, Nat.mul_one, putL, and_self, ldn]
    exact ext_ansV hX rfl
  | true =>
    simp (config := {implicitDefEqProofs := false, maxDischargeDepth := 20}) (disch := first | omega | (simp only [lenE]; done) | (simp only [lenE]; omega) | rfl | (simp only [lenE, markR_len]; done) | (simp only [lenE, markR_len]; omega)) only [runE, mapE, listE, initT_5, initT_6, initT_7, initT_8, resV, oneV, binA, unA, reduceCtorEq, Nat.reduceEqDiff, Nat.reduceAdd, Nat.reduceLT, Nat.reduceLeDiff, Nat.reduceMul, Nat.reduceSub, ↓reduceIte, decide_true, decide_false, Bool.true_eq_false, Bool.false_eq_true, Bool.not_true, Bool.not_false, if_true, if_false, and_true, true_and, memE, celE, w64, Nat.zero_add, Nat.add_zero, Nat.mul_one, putL, and_self, ldn, ha'.at_ f hf, xa.ld f hf, hb'.at_ t ht, xb.ld t ht]
    refine ext_ansV hX ?_
    rfl
theorem takeUnits_ac (M : Mem) (s : Sh) (ia ib fa fb : Nat) (A N : List Int) (f t : Nat) (u : Int) (ha : OwnR M ia A) (hb : OwnR M ib N) (hne : ia ≠ ib) (hf : f < A.length) (ht : t < N.length) (b1 : 0 ≤ A.getD f 0 ∧ A.getD f 0 ≤ 20) (b2 : 0 ≤ N.getD t 0 ∧ N.getD t 0 ≤ 20) (hu : -20 ≤ u ∧ u ≤ 20) :
    AC Try.prog 95 [shV s (.slice (some ⟨ia, 0, none⟩) A.length fa) (.slice (some ⟨ib, 0, none⟩) N.length fb), .agg #[.int .i64 (t : Int), .int .i64 (f : Int)], .int .i64 u] M fun r M' =>
      ∃ R, NoRo R ∧ M' = (M.set ia (Ab.rowB (A.set f (A.getD f 0 - u)))).set ib (Ab.rowB (N.set t (N.getD t 0 - u))) ++ R := by
  refine ac_of_run mixed ok_impl_takeUnits (by simp) (go_start _ _ _ ?_)
  obtain ⟨R, hR⟩ : ∃ R : Mem, R = [⟨.own, 26, [.int .i64 s.life, .slice (some ⟨ia, 0, none⟩) A.length fa, .slice (some ⟨ib, 0, none⟩) N.length fb, .int .i64 s.waste, .int .i64 s.lost]⟩] ++ [⟨.own, 102, [.int .i64 (t : Int), .int .i64 (f : Int)]⟩] := ⟨_, rfl⟩
  have nr : NoRo R := by rw [hR]; exact noRo_app (noRo_own noRo_nil) (noRo_own noRo_nil)
  have ia0 : iadA 1 (.slice (some ⟨ia, 0, none⟩) A.length fa) (.int .i64 (f : Int)) = some (.pointer (some ⟨ia, f, none⟩)) := iad0 rfl hf
  have ib0 : iadA 1 (.slice (some ⟨ib, 0, none⟩) N.length fb) (.int .i64 (t : Int)) = some (.pointer (some ⟨ib, t, none⟩)) := iad0 rfl ht
  obtain ⟨M1, hM1⟩ : ∃ M1, M1 = M ++ R := ⟨_, rfl⟩
  have eM : M1 = M ++ [⟨.own, 26, [.int .i64 s.life, .slice (some ⟨ia, 0, none⟩) A.length fa, .slice (some ⟨ib, 0, none⟩) N.length fb, .int .i64 s.waste, .int .i64 s.lost]⟩] ++ [⟨.own, 102, [.int .i64 (t : Int), .int .i64 (f : Int)]⟩] := by rw [hM1, hR, List.append_assoc]
  have oa : OwnR M1 ia A := by rw [hM1]; exact ha.ext _
  have ob : OwnR M1 ib N := by rw [hM1]; exact hb.ext _
  have o1 : OwnB M1 M.length 26 [.int .i64 s.life, .slice (some ⟨ia, 0, none⟩) A.length fa, .slice (some ⟨ib, 0, none⟩) N.length fb, .int .i64 s.waste, .int .i64 s.lost] := by rw [eM]; exact (OwnB.here rfl).ext _
  have o2 : OwnB M1 (M.length + 1) 102 [.int .i64 (t : Int), .int .i64 (f : Int)] := by rw [eM]; exact OwnB.here (by simp)
  have la := ha.lt
  have lb := hb.lt
  have ka := oa.rd' (i := f) hf
  have sa := oa.st (off := f) (x := A.getD f 0 - u) hf
  have oa2 := oa.set_self (L' := A.set f (A.getD f 0 - u))
  have ob2 : OwnR (M1.set ia (Ab.rowB (A.set f (A.getD f 0 - u)))) ib N := ob.set_ne hne
  have o12 := o1.set_ne (id := ia) (by omega) (Ab.rowB (A.set f (A.getD f 0 - u)))
  have o22 := o2.set_ne (id := ia) (by omega) (Ab.rowB (A.set f (A.getD f 0 - u)))
  have kb := ob2.rd' (i := t) ht
  have sb := ob2.st (off := t) (x := N.getD t 0 - u) ht
  simp (config := {implicitDefEqProofs := false, maxDischargeDepth := 20}) (disch := first | omega | (simp only [lenE]; done) | (simp only [lenE]; omega) | rfl | (simp only [lenE, markR_len]; done) | (simp only [lenE, markR_len]; omega)) only [runE, mapE, listE, initT_5, initT_6, initT_7, initT_8, resV, oneV, binA, unA, reduceCtorEq, Nat.reduceEqDiff, Nat.reduceAdd, Nat.reduceLT, Nat.reduceLeDiff, Nat.reduceMul, Nat.reduceSub, ↓reduceIte, decide_true, decide_false, Bool.true_eq_false, Bool.false_eq_true, Bool.not_true, Bool.not_false, if_true, if_false, and_true, true_and, memE, celE, w64, Nat.zero_add, Nat.add_zero, Nat.mul_one, putL, and_self, ldn, c_impl_takeUnits, r_impl_takeUnits]
  rw [← eM]
  simp (config := {implicitDefEqProofs := false, maxDischargeDepth := 20}) (disch := first | omega | (simp only [lenE]; done) | (simp only [lenE]; omega) | rfl | (simp only [lenE, markR_len]; done) | (simp only [lenE, markR_len]; omega)) only [runE, mapE, listE, initT_5, initT_6, initT_7, initT_8, resV, oneV, binA, unA, reduceCtorEq, Nat.reduceEqDiff, Nat.reduceAdd, Nat.reduceLT, Nat.reduceLeDiff, Nat.reduceMul, Nat.reduceSub, ↓reduceIte, decide_true, decide_false, Bool.true_eq_false, Bool.false_eq_true, Bool.not_true, Bool.not_false, if_true, if_false, and_true, true_and, memE, celE, w64, Nat.zero_add, Nat.add_zero, Nat.mul_one, putL, and_self, ldn, ia0, ka, o1.rd, o2.rd, sa]
  obtain ⟨M2, hM2⟩ : ∃ M2, M2 = M1.set ia (Ab.rowB (A.set f (A.getD f 0 - u))) := ⟨_, rfl⟩
  rw [← hM2] at o12 o22 kb sb ⊢
  simp (config := {implicitDefEqProofs := false, maxDischargeDepth := 20}) (disch := first | omega | (simp only [lenE]; done) | (simp only [lenE]; omega) | rfl | (simp only [lenE, markR_len]; done) | (simp only [lenE, markR_len]; omega)) only [runE, mapE, listE, initT_5, initT_6, initT_7, initT_8, resV, oneV, binA, unA, reduceCtorEq, Nat.reduceEqDiff, Nat.reduceAdd, Nat.reduceLT, Nat.reduceLeDiff, Nat.reduceMul, Nat.reduceSub, ↓reduceIte, decide_true, decide_false, Bool.true_eq_false, Bool.false_eq_true, Bool.not_true, Bool.not_false, if_true, if_false, and_true, true_and, memE, celE, w64, Nat.zero_add, Nat.add_zero, Nat.mul_one, putL, and_self, ldn, ib0, kb, o12.rd, o22.rd, sb]
  refine ⟨R, nr, ?_⟩
  rw [hM2, hM1, List.set_append_left _ _ la, List.set_append_left _ _ (by rw [List.length_set]; exact lb)]
theorem TabA.rowAt {m M : Mem} {vt : Value} {T : List (List Int)} (h : TabA m vt T) (hX : Ext m M) {t : Nat} (ht : t < T.length) : ∃ w, ldA M none (pAt vt t) = some w ∧ IntsA (roM m) w (T.getD t []) := by
  obtain ⟨n0, rfl, _⟩ := hX
  obtain ⟨w, h1, h2⟩ := h.ro.ld t ht
  exact ⟨w, ldA_ext h1, h2⟩
theorem bld0 (a b c d e : Value) : bldA [a, b, c, d, e] [] = some (.agg #[a, b, c, d, e]) := rfl
theorem bld2u (a b : Value) (u v : Int) : bldA [a, b] [(0, 1, .int .i64 u), (1, 1, .int .i64 v)] = some (.agg #[.int .i64 u, .int .i64 v]) := rfl
theorem stP_agg2u (m : Mem) (id off : Nat) (u v : Value) : stP m 2 (.pointer (some ⟨id, off, none⟩)) (.agg #[u, v]) = stA m id off [u, v] := rfl
def noShV : Value := .agg #[.int .i64 0, .slice none 0 0, .slice none 0 0, .int .i64 0, .int .i64 0]
def AnsLB (m : Mem) (s : Sh) (b : Bool) (A N : List Int) (r : Value) (new : Mem) : Prop :=
  NoRo new ∧ ((b = false ∧ r = .tuple #[noShV, .bool false]) ∨ (b = true ∧ ∃ v, r = .tuple #[v, .bool true] ∧ LeftR m s A N (m ++ new) v))
theorem ext_noLB {m M : Mem} {s : Sh} {b : Bool} {A N : List Int} (h : Ext m M) (hb : b = false) : newQ m (AnsLB m s b A N) (.tuple #[noShV, .bool false]) M := by
  obtain ⟨n0, rfl, h0⟩ := h
  exact ⟨n0, rfl, h0, h0, .inl ⟨hb, rfl⟩⟩
theorem ext_yesLB {m M : Mem} {s : Sh} {b : Bool} {A N : List Int} {v : Value} (h : Ext m M) (hb : b = true) (hl : LeftR m s A N M v) : newQ m (AnsLB m s b A N) (.tuple #[v, .bool true]) M := by
  obtain ⟨n0, rfl, h0⟩ := h
  exact ⟨n0, rfl, h0, h0, .inr ⟨hb, v, rfl, hl.swap⟩⟩
theorem leftBehind_rc (m : Mem) (v vt : Value) (s : Sh) (T : List (List Int)) (h : ShA m v s) (hT : TabA m vt T) (hg : GoodSh s) (hn : T.length ≤ s.need.length) :
    RC Try.prog 70 [v, vt] m (AnsLB m s (decide (irows s T T.length)) (leftArr s T T.length) (leftNeed s T T.length)) := by
  refine rc_of_run mixed ok_impl_leftBehind (by simp) (go_start _ _ _ ?_)
  obtain ⟨a, b, rfl, ha, hb⟩ := h.ro
  have hla := hg.la
  have n8 := hg.n8
  have hX := ((Ext.refl m).one 26 [.int .i64 s.life, a, b, .int .i64 s.waste, .int .i64 s.lost]).one 26 [.int .i64 0, .slice none 0 0, .slice none 0 0, .int .i64 0, .int .i64 0]
  have o1 : OwnB (roM m ++ [⟨.own, 26, [.int .i64 s.life, a, b, .int .i64 s.waste, .int .i64 s.lost]⟩] ++ [⟨.own, 26, [.int .i64 0, .slice none 0 0, .slice none 0 0, .int .i64 0, .int .i64 0]⟩]) m.length 26 [.int .i64 s.life, a, b, .int .i64 s.waste, .int .i64 s.lost] := (OwnB.here (by simp [roM_len])).ext _
  have o2 : OwnB (roM m ++ [⟨.own, 26, [.int .i64 s.life, a, b, .int .i64 s.waste, .int .i64 s.lost]⟩] ++ [⟨.own, 26, [.int .i64 0, .slice none 0 0, .slice none 0 0, .int .i64 0, .int .i64 0]⟩]) (m.length + 1) 26 [.int .i64 0, .slice none 0 0, .slice none 0 0, .int .i64 0, .int .i64 0] := OwnB.here (by simp [roM_len])
  simp (config := {implicitDefEqProofs := false, maxDischargeDepth := 20}) (disch := first | omega | (simp only [lenE]; done) | (simp only [lenE]; omega) | rfl | (simp only [lenE, markR_len]; done) | (simp only [lenE, markR_len]; omega)) only [runE, mapE, listE, initT_5, initT_6, initT_7, initT_8, resV, oneV, binA, unA, reduceCtorEq, Nat.reduceEqDiff, Nat.reduceAdd, Nat.reduceLT, Nat.reduceLeDiff, Nat.reduceMul, Nat.reduceSub, ↓reduceIte, decide_true, decide_false, Bool.true_eq_false, Bool.false_eq_true, Bool.not_true, Bool.not_false, if_true, if_false, and_true, true_and, memE, celE, w64, Nat.zero_add, Nat.add_zero, Nat.mul_one, putL, and_self, ldn, c_impl_leftBehind, r_impl_leftBehind]
  obtain ⟨M0, hM0⟩ : ∃ M0, M0 = roM m ++ [⟨.own, 26, [.int .i64 s.life, a, b, .int .i64 s.waste, .int .i64 s.lost]⟩] ++ [⟨.own, 26, [.int .i64 0, .slice none 0 0, .slice none 0 0, .int .i64 0, .int .i64 0]⟩] := ⟨_, rfl⟩
  rw [← hM0] at hX o1 o2 ⊢
  have hl0 := o2.lt
  refine callH_rc (copyOf_rc _ _ s (ShA.mk (hX.ints ha) (hX.ints hb)) (by omega) (by omega)) ?_
  rintro r n1 ⟨nr1, ia, ib, fa, fb, hne, ga, gb, rfl, oa, ob⟩
  replace hX := hX.app nr1
  replace o1 := o1.ext n1
  replace o2 := o2.ext n1
  obtain ⟨M1, hM1⟩ : ∃ M1, M1 = M0 ++ n1 := ⟨_, rfl⟩
  rw [← hM1] at hX o1 o2 oa ob ⊢
  have la := oa.lt
  have lb := ob.lt
  simp (config := {implicitDefEqProofs := false, maxDischargeDepth := 20}) (disch := first | omega | (simp only [lenE]; done) | (simp only [lenE]; omega) | rfl | (simp only [lenE, markR_len]; done) | (simp only [lenE, markR_len]; omega)) only [runE, mapE, listE, initT_5, initT_6, initT_7, initT_8, resV, oneV, binA, unA, reduceCtorEq, Nat.reduceEqDiff, Nat.reduceAdd, Nat.reduceLT, Nat.reduceLeDiff, Nat.reduceMul, Nat.reduceSub, ↓reduceIte, decide_true, decide_false, Bool.true_eq_false, Bool.false_eq_true, Bool.not_true, Bool.not_false, if_true, if_false, and_true, true_and, memE, celE, w64, Nat.zero_add, Nat.add_zero, Nat.mul_one, putL, and_self, ldn, stP_agg5', hT.ro.len]
  have hb1 : OwnB (M1 ++ [⟨.own, 26, [.int .i64 s.life, .slice (some ⟨ia, 0, none⟩) s.arr.length fa, .slice (some ⟨ib, 0, none⟩) s.need.length fb, .int .i64 s.waste, .int .i64 s.lost]⟩]) M1.length 26 [.int .i64 s.life, .slice (some ⟨ia, 0, none⟩) s.arr.length fa, .slice (some ⟨ib, 0, none⟩) s.need.length fb, .int .i64 s.waste, .int .i64 s.lost] := OwnB.here rfl
  obtain ⟨lf, hlf⟩ : ∃ lf, lf = M1.length := ⟨_, rfl⟩
  refine loop_inv mixed (fun s' => ∃ (t : Nat) (M : Mem) (A N : List Int), t ≤ T.length ∧ s'.m = M ∧ Ext m M ∧ OwnB M m.length 26 [.int .i64 s.life, a, b, .int .i64 s.waste, .int .i64 s.lost] ∧ OwnB M (m.length + 1) 26 [.int .i64 0, .slice none 0 0, .slice none 0 0, .int .i64 0, .int .i64 0] ∧
      OwnB M lf 26 [.int .i64 s.life, .slice (some ⟨ia, 0, none⟩) s.need.length fa, .slice (some ⟨ib, 0, none⟩) s.need.length fb, .int .i64 s.waste, .int .i64 s.lost] ∧ OwnR M ia A ∧ OwnR M ib N ∧ LeftAt s T t 0 A N ∧
      s'.t 2 = .pointer (some ⟨m.length, 0, none⟩) ∧ s'.t 4 = .pointer (some ⟨m.length + 1, 0, none⟩) ∧ s'.t 6 = .pointer (some ⟨lf, 0, none⟩) ∧ s'.t 14 = vt ∧ s'.t 15 = .int .i64 (T.length : Int) ∧ s'.t 16 = .int .i64 (t : Int)) (fun s' => T.length - (intOf (s'.t 16)).toNat)
    ⟨0, _, s.arr, s.need, by omega, rfl, hX.one _ _, o1.ext _, o2.ext _, by rw [hlf, ← hla]; rw [← hla] at hb1; exact hb1, oa.ext _, ob.ext _, LeftAt.zero hg, rfl, rfl, by rw [hlf]; rfl, rfl, rfl, rfl⟩ ?_
  rintro s' ⟨t, M, A, N, ht, tm, hX, o1, o2, o3, oa, ob, hL, t2, t4, t6, t14, t15, t16⟩
  by_cases hlt : t < T.length
  · have hlt' : (t : Int) < T.length := by omega
    obtain ⟨w, w1, w2⟩ := hT.rowAt hX hlt
    have wl := (hX.ints w2).len
    by_cases hrow : (T.getD t []).length = s.need.length
    · have hrow' : (((T.getD t []).length : Int) != (s.arr.length : Int)) = false := by rw [hrow, hla]; exact bne_self_eq_false _
      simp (config := {implicitDefEqProofs := false, maxDischargeDepth := 20}) (disch := first | omega | (simp only [lenE]; done) | (simp only [lenE]; omega) | rfl | (simp only [lenE, markR_len]; done) | (simp only [lenE, markR_len]; omega)) only [runE, mapE, listE, initT_5, initT_6, initT_7, initT_8, resV, oneV, binA, unA, reduceCtorEq, Nat.reduceEqDiff, Nat.reduceAdd, Nat.reduceLT, Nat.reduceLeDiff, Nat.reduceMul, Nat.reduceSub, ↓reduceIte, decide_true, decide_false, Bool.true_eq_false, Bool.false_eq_true, Bool.not_true, Bool.not_false, if_true, if_false, and_true, true_and, memE, celE, w64, Nat.zero_add, Nat.add_zero, Nat.mul_one, putL, and_self, ldn, tm, t2, t4, t6, t14, t15, t16, hlt', hT.at_ t hlt, w1, wl, o1.rd, (hX.ints ha).len, hrow']
      clear hb1
      refine loop_inv mixed (fun s' => ∃ (j : Nat) (M : Mem) (A N : List Int), j ≤ (T.getD t []).length ∧ s'.m = M ∧ Ext m M ∧ OwnB M m.length 26 [.int .i64 s.life, a, b, .int .i64 s.waste, .int .i64 s.lost] ∧ OwnB M (m.length + 1) 26 [.int .i64 0, .slice none 0 0, .slice none 0 0, .int .i64 0, .int .i64 0] ∧
          OwnB M lf 26 [.int .i64 s.life, .slice (some ⟨ia, 0, none⟩) s.need.length fa, .slice (some ⟨ib, 0, none⟩) s.need.length fb, .int .i64 s.waste, .int .i64 s.lost] ∧ OwnR M ia A ∧ OwnR M ib N ∧ LeftAt s T t j A N ∧
          s'.t 2 = .pointer (some ⟨m.length, 0, none⟩) ∧ s'.t 4 = .pointer (some ⟨m.length + 1, 0, none⟩) ∧ s'.t 6 = .pointer (some ⟨lf, 0, none⟩) ∧ s'.t 7 = .int .i64 (t : Int) ∧ s'.t 14 = vt ∧ s'.t 15 = .int .i64 (T.length : Int) ∧ s'.t 16 = .int .i64 (t : Int) ∧ s'.t 28 = w ∧ s'.t 29 = .int .i64 ((T.getD t []).length : Int) ∧ s'.t 30 = .int .i64 (j : Int)) (fun s' => s.need.length - (intOf (s'.t 30)).toNat)
        ⟨0, M, A, N, by omega, tm, hX, o1, o2, o3, oa, ob, hL, t2, t4, t6, rfl, t14, t15, t16, rfl, rfl, rfl⟩ ?_
      clear tm hX o1 o2 o3 oa ob hL w1 wl
      rintro s' ⟨j, M, A, N, hj, tm, hX, o1, o2, o3, oa, ob, hL, t2, t4, t6, t7, t14, t15, t16, t28, t29, t30⟩
      by_cases hjt : j < (T.getD t []).length
      · have hjt' : (j : Int) < (T.getD t []).length := by omega
        have wi := hX.ints w2
        have lA := hL.la
        have lN := hL.ln
        simp (config := {implicitDefEqProofs := false, maxDischargeDepth := 20}) (disch := first | omega | (simp only [lenE]; done) | (simp only [lenE]; omega) | rfl | (simp only [lenE, markR_len]; done) | (simp only [lenE, markR_len]; omega)) only [runE, mapE, listE, initT_5, initT_6, initT_7, initT_8, resV, oneV, binA, unA, reduceCtorEq, Nat.reduceEqDiff, Nat.reduceAdd, Nat.reduceLT, Nat.reduceLeDiff, Nat.reduceMul, Nat.reduceSub, ↓reduceIte, decide_true, decide_false, Bool.true_eq_false, Bool.false_eq_true, Bool.not_true, Bool.not_false, if_true, if_false, and_true, true_and, memE, celE, w64, Nat.zero_add, Nat.add_zero, Nat.mul_one, putL, and_self, ldn, tm, t2, t4, t6, t7, t14, t15, t16, t28, t29, t30, hjt', wi.at_ j hjt, wi.ld j hjt, bld2u, stP_agg2u, (o3.ext [⟨.own, 102, [.int .i64 (t : Int), .int .i64 (j : Int)]⟩]).rd]
        have hXe := hX.one 102 [.int .i64 (t : Int), .int .i64 (j : Int)]
        have oae := oa.ext [⟨.own, 102, [.int .i64 (t : Int), .int .i64 (j : Int)]⟩]
        have obe := ob.ext [⟨.own, 102, [.int .i64 (t : Int), .int .i64 (j : Int)]⟩]
        have o1e := o1.ext [⟨.own, 102, [.int .i64 (t : Int), .int .i64 (j : Int)]⟩]
        have o2e := o2.ext [⟨.own, 102, [.int .i64 (t : Int), .int .i64 (j : Int)]⟩]
        have o3e := o3.ext [⟨.own, 102, [.int .i64 (t : Int), .int .i64 (j : Int)]⟩]
        have oue : OwnB (M ++ [⟨.own, 102, [.int .i64 (t : Int), .int .i64 (j : Int)]⟩]) M.length 102 [.int .i64 (t : Int), .int .i64 (j : Int)] := OwnB.here rfl
        obtain ⟨M2, hM2⟩ : ∃ M2, M2 = M ++ [⟨.own, 102, [.int .i64 (t : Int), .int .i64 (j : Int)]⟩] := ⟨_, rfl⟩
        rw [← hM2] at hXe oae obe o1e o2e o3e oue ⊢
        have hlM := hX.len
        have iA := oae.ints (by omega) fa
        have iN := obe.ints (by omega) fb
        rw [lA] at iA
        rw [lN] at iN
        refine callH_rc (mostUnits_rc M2 s _ _ A N j t iA iN (by omega) (by omega) (by omega) ⟨by have := hg.l1; omega, hg.l8⟩) ?_
        rintro r n2 ⟨rfl, nr2⟩
        simp (config := {implicitDefEqProofs := false, maxDischargeDepth := 20}) (disch := first | omega | (simp only [lenE]; done) | (simp only [lenE]; omega) | rfl | (simp only [lenE, markR_len]; done) | (simp only [lenE, markR_len]; omega)) only [runE, mapE, listE, initT_5, initT_6, initT_7, initT_8, resV, oneV, binA, unA, reduceCtorEq, Nat.reduceEqDiff, Nat.reduceAdd, Nat.reduceLT, Nat.reduceLeDiff, Nat.reduceMul, Nat.reduceSub, ↓reduceIte, decide_true, decide_false, Bool.true_eq_false, Bool.false_eq_true, Bool.not_true, Bool.not_false, if_true, if_false, and_true, true_and, memE, celE, w64, Nat.zero_add, Nat.add_zero, Nat.mul_one, putL, and_self, ldn]
        refine callH_rc (isWithin_rc _ _ _) ?_
        rintro r new ⟨rfl, rfl⟩
        cases hw : inB (most9 s.life A N t j) ((T.getD t []).getD j 0) with
        | false =>
          have st2 := (o2e.ext n2).st (off := 0) (vs := [.int .i64 0, .slice none 0 0, .slice none 0 0, .int .i64 0, .int .i64 0]) (by simp) rfl
          have se2 := (o2e.ext n2).set_self 26 [.int .i64 0, .slice none 0 0, .slice none 0 0, .int .i64 0, .int .i64 0]
          simp (config := {implicitDefEqProofs := false, maxDischargeDepth := 20}) (disch := first | omega | (simp only [lenE]; done) | (simp only [lenE]; omega) | rfl | (simp only [lenE, markR_len]; done) | (simp only [lenE, markR_len]; omega)) only [runE, mapE, listE, initT_5, initT_6, initT_7, initT_8, resV, oneV, binA, unA, reduceCtorEq, Nat.reduceEqDiff, Nat.reduceAdd, Nat.reduceLT, Nat.reduceLeDiff, Nat.reduceMul, Nat.reduceSub, ↓reduceIte, decide_true, decide_false, Bool.true_eq_false, Bool.false_eq_true, Bool.not_true, Bool.not_false, if_true, if_false, and_true, true_and, memE, celE, w64, Nat.zero_add, Nat.add_zero, Nat.mul_one, putL, and_self, ldn, t4, bld0, stP_agg5', st2, se2.rd]
          refine ext_noLB ((hXe.app nr2).put (by omega) _ _) ?_
          refine decide_eq_false (hL.bad (by omega) (by omega) hlt hrow fun hc => ?_)
          have := inB_iff.2 hc
          rw [hw] at this; cases this
        | true =>
          have hw' := inB_iff.1 hw
          have ba := hL.a0 j (by omega)
          have bn := hL.n0 t (by omega)
          have hm20 : most9 s.life A N t j ≤ 20 := by
            unfold most9; split <;> omega
          simp (config := {implicitDefEqProofs := false, maxDischargeDepth := 20}) (disch := first | omega | (simp only [lenE]; done) | (simp only [lenE]; omega) | rfl | (simp only [lenE, markR_len]; done) | (simp only [lenE, markR_len]; omega)) only [runE, mapE, listE, initT_5, initT_6, initT_7, initT_8, resV, oneV, binA, unA, reduceCtorEq, Nat.reduceEqDiff, Nat.reduceAdd, Nat.reduceLT, Nat.reduceLeDiff, Nat.reduceMul, Nat.reduceSub, ↓reduceIte, decide_true, decide_false, Bool.true_eq_false, Bool.false_eq_true, Bool.not_true, Bool.not_false, if_true, if_false, and_true, true_and, memE, celE, w64, Nat.zero_add, Nat.add_zero, Nat.mul_one, putL, and_self, ldn, t6, t7, (o3e.ext n2).rd, (oue.ext n2).rd]
          have tk := takeUnits_ac (M2 ++ n2) s ia ib fa fb A N j t ((T.getD t []).getD j 0) (oae.ext n2) (obe.ext n2) hne (by omega) (by omega) ba bn ⟨by omega, by omega⟩
          rw [lA, lN] at tk
          refine callH_ac tk ?_
          rintro r M3 ⟨R, nrR, rfl⟩
          have la2 := (oae.ext n2).lt
          have lb2 := (obe.ext n2).lt
          have hX3 := hXe.app nr2
          obtain ⟨M3, hM3⟩ : ∃ M3, M3 = M2 ++ n2 := ⟨_, rfl⟩
          have o13 := o1e.ext n2
          have o23 := o2e.ext n2
          have o33 := o3e.ext n2
          have oa3 := oae.ext n2
          have ob3 := obe.ext n2
          rw [← hM3] at o13 o23 o33 oa3 ob3 hX3 la2 lb2 ⊢
          simp (config := {implicitDefEqProofs := false, maxDischargeDepth := 20}) (disch := first | omega | (simp only [lenE]; done) | (simp only [lenE]; omega) | rfl | (simp only [lenE, markR_len]; done) | (simp only [lenE, markR_len]; omega)) only [runE, mapE, listE, initT_5, initT_6, initT_7, initT_8, resV, oneV, binA, unA, reduceCtorEq, Nat.reduceEqDiff, Nat.reduceAdd, Nat.reduceLT, Nat.reduceLeDiff, Nat.reduceMul, Nat.reduceSub, ↓reduceIte, decide_true, decide_false, Bool.true_eq_false, Bool.false_eq_true, Bool.not_true, Bool.not_false, if_true, if_false, and_true, true_and, memE, celE, w64, Nat.zero_add, Nat.add_zero, Nat.mul_one, putL, and_self, ldn, tm, t2, t4, t6, t7, t14, t15, t16, t28, t29, t30]
          refine ⟨⟨j + 1, _, _, _, by omega, rfl, ((hX3.put (by omega) _ _).put (by omega) _ _).app nrR, ?_, ?_, ?_, ?_, ?_, hL.next (by omega) (by omega) hrow hw'.1 hw'.2, by simp⟩, ?_⟩
          · exact ((o13.set_ne (by omega) _).set_ne (by omega) _).ext _
          · exact ((o23.set_ne (by omega) _).set_ne (by omega) _).ext _
          · exact ((o33.set_ne (by omega) _).set_ne (by omega) _).ext _
          · exact (OwnR.set_ne oa3.set_self (Ne.symm hne)).ext _
          · exact (OwnR.set_self (ob3.set_ne hne)).ext _
          · simp [intOf]; omega
      · have ej : j = s.need.length := by omega
        have hjt' : ¬ ((j : Int) < (T.getD t []).length) := by omega
        simp (config := {implicitDefEqProofs := false, maxDischargeDepth := 20}) (disch := first | omega | (simp only [lenE]; done) | (simp only [lenE]; omega) | rfl | (simp only [lenE, markR_len]; done) | (simp only [lenE, markR_len]; omega)) only [runE, mapE, listE, initT_5, initT_6, initT_7, initT_8, resV, oneV, binA, unA, reduceCtorEq, Nat.reduceEqDiff, Nat.reduceAdd, Nat.reduceLT, Nat.reduceLeDiff, Nat.reduceMul, Nat.reduceSub, ↓reduceIte, decide_true, decide_false, Bool.true_eq_false, Bool.false_eq_true, Bool.not_true, Bool.not_false, if_true, if_false, and_true, true_and, memE, celE, w64, Nat.zero_add, Nat.add_zero, Nat.mul_one, putL, and_self, ldn, tm, t2, t4, t6, t7, t14, t15, t16, t28, t29, t30, hjt']
        subst ej
        refine ⟨⟨t + 1, M, A, N, by omega, rfl, hX, o1, o2, o3, oa, ob, hL.row (by omega) hrow, by simp⟩, ?_⟩
        simp [intOf]; omega
    · have hrow' : (((T.getD t []).length : Int) != (s.arr.length : Int)) = true := by rw [bne_iff_ne]; omega
      have st2 := o2.st (off := 0) (vs := [.int .i64 0, .slice none 0 0, .slice none 0 0, .int .i64 0, .int .i64 0]) (by simp) rfl
      have se2 := o2.set_self 26 [.int .i64 0, .slice none 0 0, .slice none 0 0, .int .i64 0, .int .i64 0]
      simp (config := {implicitDefEqProofs := false, maxDischargeDepth := 20}) (disch := first | omega | (simp only [lenE]; done) | (simp only [lenE]; omega) | rfl | (simp only [lenE, markR_len]; done) | (simp only [lenE, markR_len]; omega)) only [runE, mapE, listE, initT_5, initT_6, initT_7, initT_8, resV, oneV, binA, unA, reduceCtorEq, Nat.reduceEqDiff, Nat.reduceAdd, Nat.reduceLT, Nat.reduceLeDiff, Nat.reduceMul, Nat.reduceSub, ↓reduceIte, decide_true, decide_false, Bool.true_eq_false, Bool.false_eq_true, Bool.not_true, Bool.not_false, if_true, if_false, and_true, true_and, memE, celE, w64, Nat.zero_add, Nat.add_zero, Nat.mul_one, putL, and_self, ldn, tm, t2, t4, t6, t14, t15, t16, hlt', hT.at_ t hlt, w1, wl, o1.rd, (hX.ints ha).len, hrow', bld0, stP_agg5', st2, se2.rd]
      refine ext_noLB (hX.put (by omega) _ _) ?_
      exact decide_eq_false (bad_len hlt hrow)
  · have e : t = T.length := by omega
    subst e
    have hlt' : ¬ (((T.length : Nat) : Int) < T.length) := by omega
    obtain ⟨d1, d2, d3⟩ := hL.done
    have st2 := o2.st (off := 0) (vs := [.int .i64 s.life, .slice (some ⟨ia, 0, none⟩) s.need.length fa, .slice (some ⟨ib, 0, none⟩) s.need.length fb, .int .i64 s.waste, .int .i64 s.lost]) (by simp) rfl
    have se2 := o2.set_self 26 [.int .i64 s.life, .slice (some ⟨ia, 0, none⟩) s.need.length fa, .slice (some ⟨ib, 0, none⟩) s.need.length fb, .int .i64 s.waste, .int .i64 s.lost]
    simp (config := {implicitDefEqProofs := false, maxDischargeDepth := 20}) (disch := first | omega | (simp only [lenE]; done) | (simp only [lenE]; omega) | rfl | (simp only [lenE, markR_len]; done) | (simp only [lenE, markR_len]; omega)) only [runE, mapE, listE, initT_5, initT_6, initT_7, initT_8, resV, oneV, binA, unA, reduceCtorEq, Nat.reduceEqDiff, Nat.reduceAdd, Nat.reduceLT, Nat.reduceLeDiff, Nat.reduceMul, Nat.reduceSub, ↓reduceIte, decide_true, decide_false, Bool.true_eq_false, Bool.false_eq_true, Bool.not_true, Bool.not_false, if_true, if_false, and_true, true_and, memE, celE, w64, Nat.zero_add, Nat.add_zero, Nat.mul_one, putL, and_self, ldn, tm, t2, t4, t6, t14, t15, t16, hlt', o3.rd, stP_agg5', st2, se2.rd]
    refine ext_yesLB (hX.put (by omega) _ _) (decide_eq_true d1) ⟨ia, ib, fa, fb, hne, by omega, by omega, ?_, ?_, ?_⟩
    · rw [← d2, ← d3, hL.la, hL.ln]
    · rw [← d2]; exact oa.at_ (by rw [List.getElem?_set_ne (by omega)])
    · rw [← d3]; exact ob.at_ (by rw [List.getElem?_set_ne (by omega)])
theorem leftOf_rc (m : Mem) (v vt : Value) (s : Sh) (T : List (List Int)) (h : ShA m v s) (hT : TabA m vt T) :
    RC Try.prog 45 [v, vt] m (AnsLB m s (two9 s T) (leftArr s T T.length) (leftNeed s T T.length)) := by
  refine rc_of_run mixed ok_impl_leftOf (by simp) (go_start _ _ _ ?_)
  obtain ⟨a, b, rfl, ha, hb⟩ := h.ro
  have hX := ((Ext.refl m).one 26 [.int .i64 s.life, a, b, .int .i64 s.waste, .int .i64 s.lost]).one 26 [.int .i64 0, .slice none 0 0, .slice none 0 0, .int .i64 0, .int .i64 0]
  have o1 : OwnB (roM m ++ [⟨.own, 26, [.int .i64 s.life, a, b, .int .i64 s.waste, .int .i64 s.lost]⟩] ++ [⟨.own, 26, [.int .i64 0, .slice none 0 0, .slice none 0 0, .int .i64 0, .int .i64 0]⟩]) m.length 26 [.int .i64 s.life, a, b, .int .i64 s.waste, .int .i64 s.lost] := (OwnB.here (by simp [roM_len])).ext _
  have o2 : OwnB (roM m ++ [⟨.own, 26, [.int .i64 s.life, a, b, .int .i64 s.waste, .int .i64 s.lost]⟩] ++ [⟨.own, 26, [.int .i64 0, .slice none 0 0, .slice none 0 0, .int .i64 0, .int .i64 0]⟩]) (m.length + 1) 26 [.int .i64 0, .slice none 0 0, .slice none 0 0, .int .i64 0, .int .i64 0] := OwnB.here (by simp [roM_len])
  simp (config := {implicitDefEqProofs := false, maxDischargeDepth := 20}) (disch := first | omega | (simp only [lenE]; done) | (simp only [lenE]; omega) | rfl | (simp only [lenE, markR_len]; done) | (simp only [lenE, markR_len]; omega)) only [runE, mapE, listE, initT_5, initT_6, initT_7, initT_8, resV, oneV, binA, unA, reduceCtorEq, Nat.reduceEqDiff, Nat.reduceAdd, Nat.reduceLT, Nat.reduceLeDiff, Nat.reduceMul, Nat.reduceSub, ↓reduceIte, decide_true, decide_false, Bool.true_eq_false, Bool.false_eq_true, Bool.not_true, Bool.not_false, if_true, if_false, and_true, true_and, memE, celE, w64, Nat.zero_add, Nat.add_zero, Nat.mul_one, putL, and_self, ldn, c_impl_leftOf, r_impl_leftOf]
  obtain ⟨M0, hM0⟩ : ∃ M0, M0 = roM m ++ [⟨.own, 26, [.int .i64 s.life, a, b, .int .i64 s.waste, .int .i64 s.lost]⟩] ++ [⟨.own, 26, [.int .i64 0, .slice none 0 0, .slice none 0 0, .int .i64 0, .int .i64 0]⟩] := ⟨_, rfl⟩
  rw [← hM0] at hX o1 o2 ⊢
  have hl0 := o2.lt
  refine callH_rc (implIsShelf_rc _ _ s (ShA.mk (hX.ints ha) (hX.ints hb))) ?_
  rintro r n1 ⟨rfl, nr1⟩
  replace hX := hX.app nr1
  replace o1 := o1.ext n1
  replace o2 := o2.ext n1
  obtain ⟨M1, hM1⟩ : ∃ M1, M1 = M0 ++ n1 := ⟨_, rfl⟩
  rw [← hM1] at hX o1 o2 ⊢
  have st2 := o2.st (off := 0) (vs := [.int .i64 0, .slice none 0 0, .slice none 0 0, .int .i64 0, .int .i64 0]) (by simp) rfl
  have se2 := o2.set_self 26 [.int .i64 0, .slice none 0 0, .slice none 0 0, .int .i64 0, .int .i64 0]
  cases hg : s.good with
  | false =>
    simp (config := {implicitDefEqProofs := false, maxDischargeDepth := 20}) (disch := first | omega | (simp only [lenE]; done) | (simp only [lenE]; omega) | rfl | (simp only [lenE, markR_len]; done) | (simp only [lenE, markR_len]; omega)) only [runE, mapE, listE, initT_5, initT_6, initT_7, initT_8, resV, oneV, binA, unA, reduceCtorEq, Nat.reduceEqDiff, Nat.reduceAdd, Nat.reduceLT, Nat.reduceLeDiff, Nat.reduceMul, Nat.reduceSub, ↓reduceIte, decide_true, decide_false, Bool.true_eq_false, Bool.false_eq_true, Bool.not_true, Bool.not_false, if_true, if_false, and_true, true_and, memE, celE, w64, Nat.zero_add, Nat.add_zero, Nat.mul_one, putL, and_self, ldn, bld0, stP_agg5', st2, se2.rd]
    refine ext_noLB (hX.put (by omega) _ _) ?_
    unfold two9; rw [hg]; rfl
  | true =>
  have gd := goodSh_iff.1 hg
  by_cases hl : T.length = s.need.length
  · have hl' : ((T.length : Int) != (s.need.length : Int)) = false := by rw [hl]; exact bne_self_eq_false _
    simp (config := {implicitDefEqProofs := false, maxDischargeDepth := 20}) (disch := first | omega | (simp only [lenE]; done) | (simp only [lenE]; omega) | rfl | (simp only [lenE, markR_len]; done) | (simp only [lenE, markR_len]; omega)) only [runE, mapE, listE, initT_5, initT_6, initT_7, initT_8, resV, oneV, binA, unA, reduceCtorEq, Nat.reduceEqDiff, Nat.reduceAdd, Nat.reduceLT, Nat.reduceLeDiff, Nat.reduceMul, Nat.reduceSub, ↓reduceIte, decide_true, decide_false, Bool.true_eq_false, Bool.false_eq_true, Bool.not_true, Bool.not_false, if_true, if_false, and_true, true_and, memE, celE, w64, Nat.zero_add, Nat.add_zero, Nat.mul_one, putL, and_self, ldn, hT.ro.len, o1.rd, (hX.ints hb).len, hl']
    refine callH_rc (leftBehind_rc _ _ vt s T (ShA.mk (hX.ints ha) (hX.ints hb)) (TabA.xt hT hX) gd (by omega)) ?_
    have e2 : two9 s T = decide (irows s T T.length) := by
      simp only [two9, Sh.issB, hg, Bool.true_and, hl, true_and]
    rintro r n2 ⟨nr2, ⟨hb1, rfl⟩ | ⟨hb1, w, rfl, ia, ib, fa, fb, hne, ga, gb, rfl, oa, ob⟩⟩
    · have st3 := (o2.ext n2).st (off := 0) (vs := [.int .i64 0, .slice none 0 0, .slice none 0 0, .int .i64 0, .int .i64 0]) (by simp) rfl
      have se3 := (o2.ext n2).set_self 26 [.int .i64 0, .slice none 0 0, .slice none 0 0, .int .i64 0, .int .i64 0]
      simp (config := {implicitDefEqProofs := false, maxDischargeDepth := 20}) (disch := first | omega | (simp only [lenE]; done) | (simp only [lenE]; omega) | rfl | (simp only [lenE, markR_len]; done) | (simp only [lenE, markR_len]; omega)) only [runE, mapE, listE, initT_5, initT_6, initT_7, initT_8, resV, oneV, binA, unA, reduceCtorEq, Nat.reduceEqDiff, Nat.reduceAdd, Nat.reduceLT, Nat.reduceLeDiff, Nat.reduceMul, Nat.reduceSub, ↓reduceIte, decide_true, decide_false, Bool.true_eq_false, Bool.false_eq_true, Bool.not_true, Bool.not_false, if_true, if_false, and_true, true_and, memE, celE, w64, Nat.zero_add, Nat.add_zero, Nat.mul_one, putL, and_self, ldn, ext_2_0, ext_2_1, noShV, stP_agg5', st3, se3.rd]
      exact ext_noLB ((hX.app nr2).put (by omega) _ _) (by rw [e2]; exact hb1)
    · have hl1 := hX.len
      have st3 := (o2.ext n2).st (off := 0) (vs := [.int .i64 s.life, .slice (some ⟨ia, 0, none⟩) (leftArr s T T.length).length fa, .slice (some ⟨ib, 0, none⟩) (leftNeed s T T.length).length fb, .int .i64 s.waste, .int .i64 s.lost]) (by simp) rfl
      have se3 := (o2.ext n2).set_self 26 [.int .i64 s.life, .slice (some ⟨ia, 0, none⟩) (leftArr s T T.length).length fa, .slice (some ⟨ib, 0, none⟩) (leftNeed s T T.length).length fb, .int .i64 s.waste, .int .i64 s.lost]
      have l2 := o2.lt
      simp (config := {implicitDefEqProofs := false, maxDischargeDepth := 20}) (disch := first | omega | (simp only [lenE]; done) | (simp only [lenE]; omega) | rfl | (simp only [lenE, markR_len]; done) | (simp only [lenE, markR_len]; omega)) only [runE, mapE, listE, initT_5, initT_6, initT_7, initT_8, resV, oneV, binA, unA, reduceCtorEq, Nat.reduceEqDiff, Nat.reduceAdd, Nat.reduceLT, Nat.reduceLeDiff, Nat.reduceMul, Nat.reduceSub, ↓reduceIte, decide_true, decide_false, Bool.true_eq_false, Bool.false_eq_true, Bool.not_true, Bool.not_false, if_true, if_false, and_true, true_and, memE, celE, w64, Nat.zero_add, Nat.add_zero, Nat.mul_one, putL, and_self, ldn, ext_2_0, ext_2_1, stP_agg5', st3, se3.rd]
      exact ext_yesLB ((hX.app nr2).put (by omega) _ _) (by rw [e2]; exact hb1) ⟨ia, ib, fa, fb, hne, by omega, by omega, rfl, oa.at_ (by rw [List.getElem?_set_ne (by omega)]), ob.at_ (by rw [List.getElem?_set_ne (by omega)])⟩
  · have hl' : ((T.length : Int) != (s.need.length : Int)) = true := by rw [bne_iff_ne]; omega
    simp (config := {implicitDefEqProofs := false, maxDischargeDepth := 20}) (disch := first | omega | (simp only [lenE]; done) | (simp only [lenE]; omega) | rfl | (simp only [lenE, markR_len]; done) | (simp only [lenE, markR_len]; omega)) only [runE, mapE, listE, initT_5, initT_6, initT_7, initT_8, resV, oneV, binA, unA, reduceCtorEq, Nat.reduceEqDiff, Nat.reduceAdd, Nat.reduceLT, Nat.reduceLeDiff, Nat.reduceMul, Nat.reduceSub, ↓reduceIte, decide_true, decide_false, Bool.true_eq_false, Bool.false_eq_true, Bool.not_true, Bool.not_false, if_true, if_false, and_true, true_and, memE, celE, w64, Nat.zero_add, Nat.add_zero, Nat.mul_one, putL, and_self, ldn, hT.ro.len, o1.rd, (hX.ints hb).len, hl', bld0, stP_agg5', st2, se2.rd]
    refine ext_noLB (hX.put (by omega) _ _) ?_
    simp [two9, Sh.issB, hl]
theorem implIsIssue_rc (m : Mem) (v vt : Value) (s : Sh) (T : List (List Int)) (h : ShA m v s) (hT : TabA m vt T) :
    RC Try.prog 8 [v, vt] m (AnsV (.tuple #[.bool (two9 s T), .bool s.good])) := by
  refine rc_of_run mixed ok_impl_IsIssue (by simp) (go_start _ _ _ ?_)
  obtain ⟨a, b, rfl, ha, hb⟩ := h.ro
  have hX := (Ext.refl m).one 26 [.int .i64 s.life, a, b, .int .i64 s.waste, .int .i64 s.lost]
  simp (config := {implicitDefEqProofs := false, maxDischargeDepth := 20}) (disch := first | omega | (simp only [lenE]; done) | (simp only [lenE]; omega) | rfl | (simp only [lenE, markR_len]; done) | (simp only [lenE, markR_len]; omega)) only [runE, mapE, listE, initT_5, initT_6, initT_7, initT_8, resV, oneV, binA, unA, reduceCtorEq, Nat.reduceEqDiff, Nat.reduceAdd, Nat.reduceLT, Nat.reduceLeDiff, Nat.reduceMul, Nat.reduceSub, ↓reduceIte, decide_true, decide_false, Bool.true_eq_false, Bool.false_eq_true, Bool.not_true, Bool.not_false, if_true, if_false, and_true, true_and, memE, celE, w64, Nat.zero_add, Nat.add_zero, Nat.mul_one, putL, and_self, ldn, c_impl_IsIssue, r_impl_IsIssue]
  obtain ⟨M0, hM0⟩ : ∃ M0, M0 = roM m ++ [⟨.own, 26, [.int .i64 s.life, a, b, .int .i64 s.waste, .int .i64 s.lost]⟩] := ⟨_, rfl⟩
  have o1 : OwnB M0 m.length 26 [.int .i64 s.life, a, b, .int .i64 s.waste, .int .i64 s.lost] := by rw [hM0]; exact OwnB.here (by simp [roM_len])
  rw [← hM0] at hX ⊢
  refine callH_rc (implIsShelf_rc _ _ s (ShA.mk (hX.ints ha) (hX.ints hb))) ?_
  rintro r n1 ⟨rfl, nr1⟩
  cases hg : s.good with
  | false =>
    simp (config := {implicitDefEqProofs := false, maxDischargeDepth := 20}) (disch := first | omega | (simp only [lenE]; done) | (simp only [lenE]; omega) | rfl | (simp only [lenE, markR_len]; done) | (simp only [lenE, markR_len]; omega)) only [runE, mapE, listE, initT_5, initT_6, initT_7, initT_8, resV, oneV, binA, unA, reduceCtorEq, Nat.reduceEqDiff, Nat.reduceAdd, Nat.reduceLT, Nat.reduceLeDiff, Nat.reduceMul, Nat.reduceSub, ↓reduceIte, decide_true, decide_false, Bool.true_eq_false, Bool.false_eq_true, Bool.not_true, Bool.not_false, if_true, if_false, and_true, true_and, memE, celE, w64, Nat.zero_add, Nat.add_zero, Nat.mul_one, putL, and_self, ldn]
    refine ext_ansV (hX.app nr1) ?_
    simp [two9, hg]
  | true =>
    simp (config := {implicitDefEqProofs := false, maxDischargeDepth := 20}) (disch := first | omega | (simp only [lenE]; done) | (simp only [lenE]; omega) | rfl | (simp only [lenE, markR_len]; done) | (simp only [lenE, markR_len]; omega)) only [runE, mapE, listE, initT_5, initT_6, initT_7, initT_8, resV, oneV, binA, unA, reduceCtorEq, Nat.reduceEqDiff, Nat.reduceAdd, Nat.reduceLT, Nat.reduceLeDiff, Nat.reduceMul, Nat.reduceSub, ↓reduceIte, decide_true, decide_false, Bool.true_eq_false, Bool.false_eq_true, Bool.not_true, Bool.not_false, if_true, if_false, and_true, true_and, memE, celE, w64, Nat.zero_add, Nat.add_zero, Nat.mul_one, putL, and_self, ldn, (o1.ext n1).rd]
    refine callH_rc (leftOf_rc _ _ vt s T (ShA.mk ((hX.app nr1).ints ha) ((hX.app nr1).ints hb)) (TabA.xt hT (hX.app nr1))) ?_
    rintro r n2 ⟨nr2, ⟨hb1, rfl⟩ | ⟨hb1, w, rfl, ia, ib, fa, fb, hne, ga, gb, rfl, oa, ob⟩⟩
    · simp (config := {implicitDefEqProofs := false, maxDischargeDepth := 20}) (disch := first | omega | (simp only [lenE]; done) | (simp only [lenE]; omega) | rfl | (simp only [lenE, markR_len]; done) | (simp only [lenE, markR_len]; omega)) only [runE, mapE, listE, initT_5, initT_6, initT_7, initT_8, resV, oneV, binA, unA, reduceCtorEq, Nat.reduceEqDiff, Nat.reduceAdd, Nat.reduceLT, Nat.reduceLeDiff, Nat.reduceMul, Nat.reduceSub, ↓reduceIte, decide_true, decide_false, Bool.true_eq_false, Bool.false_eq_true, Bool.not_true, Bool.not_false, if_true, if_false, and_true, true_and, memE, celE, w64, Nat.zero_add, Nat.add_zero, Nat.mul_one, putL, and_self, ldn, ext_2_0, ext_2_1, noShV, stP_agg5']
      exact ext_ansV (((hX.app nr1).app nr2).one _ _) (by rw [hb1])
    · simp (config := {implicitDefEqProofs := false, maxDischargeDepth := 20}) (disch := first | omega | (simp only [lenE]; done) | (simp only [lenE]; omega) | rfl | (simp only [lenE, markR_len]; done) | (simp only [lenE, markR_len]; omega)) only [runE, mapE, listE, initT_5, initT_6, initT_7, initT_8, resV, oneV, binA, unA, reduceCtorEq, Nat.reduceEqDiff, Nat.reduceAdd, Nat.reduceLT, Nat.reduceLeDiff, Nat.reduceMul, Nat.reduceSub, ↓reduceIte, decide_true, decide_false, Bool.true_eq_false, Bool.false_eq_true, Bool.not_true, Bool.not_false, if_true, if_false, and_true, true_and, memE, celE, w64, Nat.zero_add, Nat.add_zero, Nat.mul_one, putL, and_self, ldn, ext_2_0, ext_2_1, stP_agg5']
      exact ext_ansV (((hX.app nr1).app nr2).one _ _) (by rw [hb1])
end Go.Proofs.Ytdgfbmilbhckiaa.Ab
end
section
namespace Go.Proofs.Ytdgfbmilbhckiaa.Ab
open Go Go.RowKit
set_option linter.unusedVariables false
set_option linter.unusedSimpArgs false
theorem column_rc (m : Mem) (vt : Value) (T : List (List Int)) (f : Nat) (hT : TabA m vt T) (hr : ∀ t, t < T.length → f < (T.getD t []).length) (hb : ∀ t, t < T.length → -1000 ≤ (T.getD t []).getD f 0 ∧ (T.getD t []).getD f 0 ≤ 1000) (hn : T.length ≤ 1000) :
    RC Try.prog 72 [vt, .int .i64 (f : Int)] m fun r new => r = .int .i64 (colT T f T.length) ∧ new = [] := by
  refine rc_of_run mixed ok_spec_l9Column (by simp) (go_start _ _ _ ?_)
  have hT' := hT.ro
  have cb : ∀ k, k ≤ T.length → -1000 * (k : Int) ≤ colT T f k ∧ colT T f k ≤ 1000 * (k : Int) := by
    intro k
    induction k with
    | zero => intro _; simp [colT]
    | succ k ih =>
      intro hk
      have h1 := ih (by omega)
      have h2 := hb k (by omega)
      simp only [colT]
      omega
  simp (config := {implicitDefEqProofs := false, maxDischargeDepth := 20}) (disch := first | omega | (simp only [lenE]; done) | (simp only [lenE]; omega) | rfl | (simp only [lenE, markR_len]; done) | (simp only [lenE, markR_len]; omega)) only [runE, mapE, listE, initT_5, initT_6, initT_7, initT_8, resV, oneV, binA, unA, reduceCtorEq, Nat.reduceEqDiff, Nat.reduceAdd, Nat.reduceLT, Nat.reduceLeDiff, Nat.reduceMul, Nat.reduceSub, ↓reduceIte, decide_true, decide_false, Bool.true_eq_false, Bool.false_eq_true, Bool.not_true, Bool.not_false, if_true, if_false, and_true, true_and, memE, celE, w64, Nat.zero_add, Nat.add_zero, Nat.mul_one, putL, and_self, ldn, c_spec_l9Column, r_spec_l9Column]
  refine loop_inv mixed (fun s => ∃ k : Nat, k ≤ T.length ∧ s.t 0 = vt ∧ s.t 1 = .int .i64 (f : Int) ∧ s.t 5 = .int .i64 (colT T f k) ∧ s.t 6 = .int .i64 k ∧ s.m = roM m) (fun s => T.length - (intOf (s.t 6)).toNat) ⟨0, by omega, rfl, rfl, rfl, rfl, rfl⟩ ?_
  rintro s ⟨k, hk, t0, t1, t5, t6, tm⟩
  by_cases hlt : k < T.length
  · have hlt' : (k : Int) < T.length := by omega
    obtain ⟨w, w1, w2⟩ := hT'.ld k hlt
    have hf := hr k hlt
    have b1 := cb k hk
    have b2 := hb k hlt
    simp (config := {implicitDefEqProofs := false, maxDischargeDepth := 20}) (disch := first | omega | (simp only [lenE]; done) | (simp only [lenE]; omega) | rfl | (simp only [lenE, markR_len]; done) | (simp only [lenE, markR_len]; omega)) only [runE, mapE, listE, initT_5, initT_6, initT_7, initT_8, resV, oneV, binA, unA, reduceCtorEq, Nat.reduceEqDiff, Nat.reduceAdd, Nat.reduceLT, Nat.reduceLeDiff, Nat.reduceMul, Nat.reduceSub, ↓reduceIte, decide_true, decide_false, Bool.true_eq_false, Bool.false_eq_true, Bool.not_true, Bool.not_false, if_true, if_false, and_true, true_and, memE, celE, w64, Nat.zero_add, Nat.add_zero, Nat.mul_one, putL, and_self, ldn, t0, t1, t5, t6, tm, hT'.len, hlt', hT'.at_ k hlt, w1, w2.at_ f hf, w2.ld f hf]
    refine ⟨⟨k + 1, by omega, by simp [colT]⟩, ?_⟩
    simp [intOf]; omega
  · have hlt' : ¬ ((k : Int) < T.length) := by omega
    have e : k = T.length := by omega
    simp (config := {implicitDefEqProofs := false, maxDischargeDepth := 20}) (disch := first | omega | (simp only [lenE]; done) | (simp only [lenE]; omega) | rfl | (simp only [lenE, markR_len]; done) | (simp only [lenE, markR_len]; omega)) only [runE, mapE, listE, initT_5, initT_6, initT_7, initT_8, resV, oneV, binA, unA, reduceCtorEq, Nat.reduceEqDiff, Nat.reduceAdd, Nat.reduceLT, Nat.reduceLeDiff, Nat.reduceMul, Nat.reduceSub, ↓reduceIte, decide_true, decide_false, Bool.true_eq_false, Bool.false_eq_true, Bool.not_true, Bool.not_false, if_true, if_false, and_true, true_and, memE, celE, w64, Nat.zero_add, Nat.add_zero, Nat.mul_one, putL, and_self, ldn, t0, t1, t5, t6, tm, hT'.len, hlt']
    exact newQ_nil ⟨by rw [e], rfl⟩
theorem l9Issue_rc (m : Mem) (v vt : Value) (s : Sh) (T : List (List Int)) (h : ShA m v s) (hT : TabA m vt T) (hg : GoodSh s) :
    RC Try.prog 47 [v, vt] m (AnsV (.bool (s.issB T))) := by
  refine rc_of_run mixed ok_spec_l9Issue (by simp) (go_start _ _ _ ?_)
  obtain ⟨a, b, rfl, ha, hb⟩ := h.ro
  have hla := hg.la
  have n8 := hg.n8
  have hX := (Ext.refl m).one 26 [.int .i64 s.life, a, b, .int .i64 s.waste, .int .i64 s.lost]
  simp (config := {implicitDefEqProofs := false, maxDischargeDepth := 20}) (disch := first | omega | (simp only [lenE]; done) | (simp only [lenE]; omega) | rfl | (simp only [lenE, markR_len]; done) | (simp only [lenE, markR_len]; omega)) only [runE, mapE, listE, initT_5, initT_6, initT_7, initT_8, resV, oneV, binA, unA, reduceCtorEq, Nat.reduceEqDiff, Nat.reduceAdd, Nat.reduceLT, Nat.reduceLeDiff, Nat.reduceMul, Nat.reduceSub, ↓reduceIte, decide_true, decide_false, Bool.true_eq_false, Bool.false_eq_true, Bool.not_true, Bool.not_false, if_true, if_false, and_true, true_and, memE, celE, w64, Nat.zero_add, Nat.add_zero, Nat.mul_one, putL, and_self, ldn, c_spec_l9Issue, r_spec_l9Issue, hb.len]
  obtain ⟨M0, hM0⟩ : ∃ M0, M0 = roM m ++ [⟨.own, 26, [.int .i64 s.life, a, b, .int .i64 s.waste, .int .i64 s.lost]⟩] := ⟨_, rfl⟩
  have o1 : OwnB M0 m.length 26 [.int .i64 s.life, a, b, .int .i64 s.waste, .int .i64 s.lost] := by rw [hM0]; exact OwnB.here (by simp [roM_len])
  rw [← hM0] at hX ⊢
  have no : ∀ M, Ext m M → ¬ (T.length = s.need.length ∧ irows s T s.need.length) → newQ m (AnsV (.bool (s.issB T))) (.bool false) M := fun M hM hq => ext_ansV hM (by rw [Sh.issB, decide_eq_false hq])
  refine loop_inv mixed (fun s' => ∃ (t : Nat) (M : Mem), t ≤ T.length ∧ t ≤ s.need.length ∧ s'.m = M ∧ Ext m M ∧ OwnB M m.length 26 [.int .i64 s.life, a, b, .int .i64 s.waste, .int .i64 s.lost] ∧ (∀ r, r < t → irow s T r) ∧
      s'.t 1 = vt ∧ s'.t 2 = .pointer (some ⟨m.length, 0, none⟩) ∧ s'.t 5 = .int .i64 (s.need.length : Int) ∧ s'.t 6 = .int .i64 (t : Int)) (fun s' => T.length - (intOf (s'.t 6)).toNat)
    ⟨0, M0, by omega, by omega, rfl, hX, o1, fun r hr => absurd hr (by omega), rfl, rfl, rfl, rfl⟩ ?_
  rintro s' ⟨t, M, ht, htn, tm, hX, o1, hall, t1, t2, t5, t6⟩
  have hTM := TabA.xt hT hX
  by_cases hlt : t < T.length
  · have hlt' : (t : Int) < T.length := by omega
    by_cases hln : t < s.need.length
    · have hln' : (t : Int) < s.need.length := by omega
      obtain ⟨w, w1, w2⟩ := hT.rowAt hX hlt
      have wi := hX.ints w2
      have key := irow_iff (T := T) hg hln
      simp (config := {implicitDefEqProofs := false, maxDischargeDepth := 20}) (disch := first | omega | (simp only [lenE]; done) | (simp only [lenE]; omega) | rfl | (simp only [lenE, markR_len]; done) | (simp only [lenE, markR_len]; omega)) only [runE, mapE, listE, initT_5, initT_6, initT_7, initT_8, resV, oneV, binA, unA, reduceCtorEq, Nat.reduceEqDiff, Nat.reduceAdd, Nat.reduceLT, Nat.reduceLeDiff, Nat.reduceMul, Nat.reduceSub, ↓reduceIte, decide_true, decide_false, Bool.true_eq_false, Bool.false_eq_true, Bool.not_true, Bool.not_false, if_true, if_false, and_true, true_and, memE, celE, w64, Nat.zero_add, Nat.add_zero, Nat.mul_one, putL, and_self, ldn, tm, t1, t2, t5, t6, hTM.len, hlt', hln', hTM.at_ t hlt, w1]
      refine rcallH_rc (l2Row_rc _ w (T.getD t []) s.need.length 20 wi) ?_
      rintro r new ⟨rfl, rfl⟩
      cases b1 : Go.Proofs.Ytdgfbmilbhckiaa.rowB (T.getD t []) s.need.length 20 with
      | false =>
        simp (config := {implicitDefEqProofs := false, maxDischargeDepth := 20}) (disch := first | omega | (simp only [lenE]; done) | (simp only [lenE]; omega) | rfl | (simp only [lenE, markR_len]; done) | (simp only [lenE, markR_len]; omega)) only [runE, mapE, listE, initT_5, initT_6, initT_7, initT_8, resV, oneV, binA, unA, reduceCtorEq, Nat.reduceEqDiff, Nat.reduceAdd, Nat.reduceLT, Nat.reduceLeDiff, Nat.reduceMul, Nat.reduceSub, ↓reduceIte, decide_true, decide_false, Bool.true_eq_false, Bool.false_eq_true, Bool.not_true, Bool.not_false, if_true, if_false, and_true, true_and, memE, celE, w64, Nat.zero_add, Nat.add_zero, Nat.mul_one, putL, and_self, ldn]
        refine no _ hX fun hq => ?_
        have := (key.1 (hq.2.1 t hln)).1
        rw [b1] at this; cases this
      | true =>
        have rb := rowB_iff.1 b1
        have sb := sumTo_bound (by omega) rb.1
        have xb := hX.ints hb
        simp (config := {implicitDefEqProofs := false, maxDischargeDepth := 20}) (disch := first | omega | (simp only [lenE]; done) | (simp only [lenE]; omega) | rfl | (simp only [lenE, markR_len]; done) | (simp only [lenE, markR_len]; omega)) only [runE, mapE, listE, initT_5, initT_6, initT_7, initT_8, resV, oneV, binA, unA, reduceCtorEq, Nat.reduceEqDiff, Nat.reduceAdd, Nat.reduceLT, Nat.reduceLeDiff, Nat.reduceMul, Nat.reduceSub, ↓reduceIte, decide_true, decide_false, Bool.true_eq_false, Bool.false_eq_true, Bool.not_true, Bool.not_false, if_true, if_false, and_true, true_and, memE, celE, w64, Nat.zero_add, Nat.add_zero, Nat.mul_one, putL, and_self, ldn, hTM.at_ t hlt, w1, t1, t2, t6, tm, o1.rd, xb.at_ t hln, xb.ld t hln]
        refine rcallH_rc (l2Sum_rc _ w (T.getD t []) wi (fun k hk => by have := sb k; omega)) ?_
        rintro r new ⟨rfl, rfl⟩
        by_cases hs : s.need.getD t 0 < sumTo (T.getD t []) (T.getD t []).length
        · simp (config := {implicitDefEqProofs := false, maxDischargeDepth := 20}) (disch := first | omega | (simp only [lenE]; done) | (simp only [lenE]; omega) | rfl | (simp only [lenE, markR_len]; done) | (simp only [lenE, markR_len]; omega)) only [runE, mapE, listE, initT_5, initT_6, initT_7, initT_8, resV, oneV, binA, unA, reduceCtorEq, Nat.reduceEqDiff, Nat.reduceAdd, Nat.reduceLT, Nat.reduceLeDiff, Nat.reduceMul, Nat.reduceSub, ↓reduceIte, decide_true, decide_false, Bool.true_eq_false, Bool.false_eq_true, Bool.not_true, Bool.not_false, if_true, if_false, and_true, true_and, memE, celE, w64, Nat.zero_add, Nat.add_zero, Nat.mul_one, putL, and_self, ldn, hs, gt_iff_lt]
          refine no _ hX fun hq => ?_
          have := (key.1 (hq.2.1 t hln)).2.1
          omega
        · simp (config := {implicitDefEqProofs := false, maxDischargeDepth := 20}) (disch := first | omega | (simp only [lenE]; done) | (simp only [lenE]; omega) | rfl | (simp only [lenE, markR_len]; done) | (simp only [lenE, markR_len]; omega)) only [runE, mapE, listE, initT_5, initT_6, initT_7, initT_8, resV, oneV, binA, unA, reduceCtorEq, Nat.reduceEqDiff, Nat.reduceAdd, Nat.reduceLT, Nat.reduceLeDiff, Nat.reduceMul, Nat.reduceSub, ↓reduceIte, decide_true, decide_false, Bool.true_eq_false, Bool.false_eq_true, Bool.not_true, Bool.not_false, if_true, if_false, and_true, true_and, memE, celE, w64, Nat.zero_add, Nat.add_zero, Nat.mul_one, putL, and_self, ldn, hs, gt_iff_lt]
          refine loop_inv mixed (fun s' => ∃ (f : Nat) (M : Mem), f ≤ s.need.length ∧ s'.m = M ∧ Ext m M ∧ OwnB M m.length 26 [.int .i64 s.life, a, b, .int .i64 s.waste, .int .i64 s.lost] ∧ (∀ q, q < f → 0 < (T.getD t []).getD q 0 → usB s.life q t = true) ∧
              s'.t 1 = vt ∧ s'.t 2 = .pointer (some ⟨m.length, 0, none⟩) ∧ s'.t 5 = .int .i64 (s.need.length : Int) ∧ s'.t 6 = .int .i64 (t : Int) ∧ s'.t 7 = .int .i64 (f : Int)) (fun s' => s.need.length - (intOf (s'.t 7)).toNat)
            ⟨0, M, by omega, (by first | exact tm | rfl), hX, o1, fun q hq => absurd hq (by omega), (by first | exact t1 | simp only [put_t, put_t', put_m, putT_t, putT_t', putT_m, init_t, init_m, initT_0, initT_1, initT_2, initT_3, initT_4, initT_5, initT_6, initT_7, initT_8, Nat.reduceEqDiff, ↓reduceIte, t1]), (by first | exact t2 | simp only [put_t, put_t', put_m, putT_t, putT_t', putT_m, init_t, init_m, initT_0, initT_1, initT_2, initT_3, initT_4, initT_5, initT_6, initT_7, initT_8, Nat.reduceEqDiff, ↓reduceIte, t2]), (by first | exact t5 | simp only [put_t, put_t', put_m, putT_t, putT_t', putT_m, init_t, init_m, initT_0, initT_1, initT_2, initT_3, initT_4, initT_5, initT_6, initT_7, initT_8, Nat.reduceEqDiff, ↓reduceIte, t5]), (by first | exact t6 | simp only [put_t, put_t', put_m, putT_t, putT_t', putT_m, init_t, init_m, initT_0, initT_1, initT_2, initT_3, initT_4, initT_5, initT_6, initT_7, initT_8, Nat.reduceEqDiff, ↓reduceIte, t6]), rfl⟩ ?_
          clear tm hX o1 w1 wi xb hTM t1 t2 t5 t6
          rintro s' ⟨f, M, hf, tm, hX, o1, hus, t1, t2, t5, t6, t7⟩
          have hTM := TabA.xt hT hX
          by_cases hfl : f < s.need.length
          · have hfl' : (f : Int) < s.need.length := by omega
            obtain ⟨w, w1, w2⟩ := hT.rowAt hX hlt
            have wi := hX.ints w2
            by_cases hp : 0 < (T.getD t []).getD f 0
            · simp (config := {implicitDefEqProofs := false, maxDischargeDepth := 20}) (disch := first | omega | (simp only [lenE]; done) | (simp only [lenE]; omega) | rfl | (simp only [lenE, markR_len]; done) | (simp only [lenE, markR_len]; omega)) only [runE, mapE, listE, initT_5, initT_6, initT_7, initT_8, resV, oneV, binA, unA, reduceCtorEq, Nat.reduceEqDiff, Nat.reduceAdd, Nat.reduceLT, Nat.reduceLeDiff, Nat.reduceMul, Nat.reduceSub, ↓reduceIte, decide_true, decide_false, Bool.true_eq_false, Bool.false_eq_true, Bool.not_true, Bool.not_false, if_true, if_false, and_true, true_and, memE, celE, w64, Nat.zero_add, Nat.add_zero, Nat.mul_one, putL, and_self, ldn, tm, t1, t2, t5, t6, t7, hfl', hTM.at_ t hlt, w1, wi.at_ f (by omega), wi.ld f (by omega), hp, gt_iff_lt, o1.rd]
              refine callH_rc (usable_rc M _ s f t (ShA.mk (hX.ints ha) (hX.ints hb)) (by omega) ⟨by have := hg.l1; omega, hg.l8⟩) ?_
              rintro r n2 ⟨rfl, nr2⟩
              cases hu : usB s.life f t with
              | false =>
                simp (config := {implicitDefEqProofs := false, maxDischargeDepth := 20}) (disch := first | omega | (simp only [lenE]; done) | (simp only [lenE]; omega) | rfl | (simp only [lenE, markR_len]; done) | (simp only [lenE, markR_len]; omega)) only [runE, mapE, listE, initT_5, initT_6, initT_7, initT_8, resV, oneV, binA, unA, reduceCtorEq, Nat.reduceEqDiff, Nat.reduceAdd, Nat.reduceLT, Nat.reduceLeDiff, Nat.reduceMul, Nat.reduceSub, ↓reduceIte, decide_true, decide_false, Bool.true_eq_false, Bool.false_eq_true, Bool.not_true, Bool.not_false, if_true, if_false, and_true, true_and, memE, celE, w64, Nat.zero_add, Nat.add_zero, Nat.mul_one, putL, and_self, ldn]
                refine no _ (hX.app nr2) fun hq => ?_
                have := (key.1 (hq.2.1 t hln)).2.2 f hfl hp
                rw [hu] at this; cases this
              | true =>
                simp (config := {implicitDefEqProofs := false, maxDischargeDepth := 20}) (disch := first | omega | (simp only [lenE]; done) | (simp only [lenE]; omega) | rfl | (simp only [lenE, markR_len]; done) | (simp only [lenE, markR_len]; omega)) only [runE, mapE, listE, initT_5, initT_6, initT_7, initT_8, resV, oneV, binA, unA, reduceCtorEq, Nat.reduceEqDiff, Nat.reduceAdd, Nat.reduceLT, Nat.reduceLeDiff, Nat.reduceMul, Nat.reduceSub, ↓reduceIte, decide_true, decide_false, Bool.true_eq_false, Bool.false_eq_true, Bool.not_true, Bool.not_false, if_true, if_false, and_true, true_and, memE, celE, w64, Nat.zero_add, Nat.add_zero, Nat.mul_one, putL, and_self, ldn, tm, t1, t2, t5, t6, t7]
                refine ⟨⟨f + 1, M ++ n2, by omega, rfl, hX.app nr2, o1.ext _, fun q hq hp2 => ?_, by simp⟩, ?_⟩
                · by_cases e : q = f
                  · subst e; exact hu
                  · exact hus q (by omega) hp2
                · simp [intOf]; omega
            · simp (config := {implicitDefEqProofs := false, maxDischargeDepth := 20}) (disch := first | omega | (simp only [lenE]; done) | (simp only [lenE]; omega) | rfl | (simp only [lenE, markR_len]; done) | (simp only [lenE, markR_len]; omega)) only [runE, mapE, listE, initT_5, initT_6, initT_7, initT_8, resV, oneV, binA, unA, reduceCtorEq, Nat.reduceEqDiff, Nat.reduceAdd, Nat.reduceLT, Nat.reduceLeDiff, Nat.reduceMul, Nat.reduceSub, ↓reduceIte, decide_true, decide_false, Bool.true_eq_false, Bool.false_eq_true, Bool.not_true, Bool.not_false, if_true, if_false, and_true, true_and, memE, celE, w64, Nat.zero_add, Nat.add_zero, Nat.mul_one, putL, and_self, ldn, tm, t1, t2, t5, t6, t7, hfl', hTM.at_ t hlt, w1, wi.at_ f (by omega), wi.ld f (by omega), hp, gt_iff_lt]
              refine ⟨⟨f + 1, M, by omega, rfl, hX, o1, fun q hq hp2 => ?_, by simp⟩, ?_⟩
              · by_cases e : q = f
                · subst e; exact absurd hp2 hp
                · exact hus q (by omega) hp2
              · simp [intOf]; omega
          · have hfl' : ¬ ((f : Int) < s.need.length) := by omega
            simp (config := {implicitDefEqProofs := false, maxDischargeDepth := 20}) (disch := first | omega | (simp only [lenE]; done) | (simp only [lenE]; omega) | rfl | (simp only [lenE, markR_len]; done) | (simp only [lenE, markR_len]; omega)) only [runE, mapE, listE, initT_5, initT_6, initT_7, initT_8, resV, oneV, binA, unA, reduceCtorEq, Nat.reduceEqDiff, Nat.reduceAdd, Nat.reduceLT, Nat.reduceLeDiff, Nat.reduceMul, Nat.reduceSub, ↓reduceIte, decide_true, decide_false, Bool.true_eq_false, Bool.false_eq_true, Bool.not_true, Bool.not_false, if_true, if_false, and_true, true_and, memE, celE, w64, Nat.zero_add, Nat.add_zero, Nat.mul_one, putL, and_self, ldn, tm, t1, t2, t5, t6, t7, hfl']
            refine ⟨⟨t + 1, M, by omega, by omega, rfl, hX, o1, fun r hr => ?_, by simp⟩, ?_⟩
            · by_cases e : r = t
              · subst e
                exact key.2 ⟨b1, by omega, fun q hq => hus q (by omega)⟩
              · exact hall r (by omega)
            · simp [intOf]; omega
    · have hln' : ¬ ((t : Int) < s.need.length) := by omega
      have hne : ((T.length : Int) != (s.need.length : Int)) = true := by rw [bne_iff_ne]; omega
      simp (config := {implicitDefEqProofs := false, maxDischargeDepth := 20}) (disch := first | omega | (simp only [lenE]; done) | (simp only [lenE]; omega) | rfl | (simp only [lenE, markR_len]; done) | (simp only [lenE, markR_len]; omega)) only [runE, mapE, listE, initT_5, initT_6, initT_7, initT_8, resV, oneV, binA, unA, reduceCtorEq, Nat.reduceEqDiff, Nat.reduceAdd, Nat.reduceLT, Nat.reduceLeDiff, Nat.reduceMul, Nat.reduceSub, ↓reduceIte, decide_true, decide_false, Bool.true_eq_false, Bool.false_eq_true, Bool.not_true, Bool.not_false, if_true, if_false, and_true, true_and, memE, celE, w64, Nat.zero_add, Nat.add_zero, Nat.mul_one, putL, and_self, ldn, tm, t1, t2, t5, t6, hTM.len, hlt', hln', hne]
      exact no _ hX fun hq => absurd hq.1 (by omega)
  · have hlt' : ¬ ((t : Int) < T.length) := by omega
    by_cases hln : T.length = s.need.length
    · have hne : ((T.length : Int) != (s.need.length : Int)) = false := by rw [hln]; exact bne_self_eq_false _
      have et : t = s.need.length := by omega
      subst et
      simp (config := {implicitDefEqProofs := false, maxDischargeDepth := 20}) (disch := first | omega | (simp only [lenE]; done) | (simp only [lenE]; omega) | rfl | (simp only [lenE, markR_len]; done) | (simp only [lenE, markR_len]; omega)) only [runE, mapE, listE, initT_5, initT_6, initT_7, initT_8, resV, oneV, binA, unA, reduceCtorEq, Nat.reduceEqDiff, Nat.reduceAdd, Nat.reduceLT, Nat.reduceLeDiff, Nat.reduceMul, Nat.reduceSub, ↓reduceIte, decide_true, decide_false, Bool.true_eq_false, Bool.false_eq_true, Bool.not_true, Bool.not_false, if_true, if_false, and_true, true_and, memE, celE, w64, Nat.zero_add, Nat.add_zero, Nat.mul_one, putL, and_self, ldn, tm, t1, t2, t5, t6, hTM.len, hlt', hne]
      refine loop_inv mixed (fun s' => ∃ (f : Nat) (M : Mem), f ≤ s.need.length ∧ s'.m = M ∧ Ext m M ∧ OwnB M m.length 26 [.int .i64 s.life, a, b, .int .i64 s.waste, .int .i64 s.lost] ∧ (∀ q, q < f → colT T q s.need.length ≤ s.arr.getD q 0) ∧
          s'.t 1 = vt ∧ s'.t 2 = .pointer (some ⟨m.length, 0, none⟩) ∧ s'.t 5 = .int .i64 (s.need.length : Int) ∧ s'.t 8 = .int .i64 (f : Int)) (fun s' => s.need.length - (intOf (s'.t 8)).toNat)
        ⟨0, M, by omega, tm, hX, o1, fun q hq => absurd hq (by omega), t1, t2, t5, rfl⟩ ?_
      clear tm hX o1 hTM t1 t2 t5 t6
      rintro s' ⟨f, M, hf, tm, hX, o1, hcol, t1, t2, t5, t8⟩
      have hTM := TabA.xt hT hX
      by_cases hfl : f < s.need.length
      · have hfl' : (f : Int) < s.need.length := by omega
        have xa := hX.ints ha
        simp (config := {implicitDefEqProofs := false, maxDischargeDepth := 20}) (disch := first | omega | (simp only [lenE]; done) | (simp only [lenE]; omega) | rfl | (simp only [lenE, markR_len]; done) | (simp only [lenE, markR_len]; omega)) only [runE, mapE, listE, initT_5, initT_6, initT_7, initT_8, resV, oneV, binA, unA, reduceCtorEq, Nat.reduceEqDiff, Nat.reduceAdd, Nat.reduceLT, Nat.reduceLeDiff, Nat.reduceMul, Nat.reduceSub, ↓reduceIte, decide_true, decide_false, Bool.true_eq_false, Bool.false_eq_true, Bool.not_true, Bool.not_false, if_true, if_false, and_true, true_and, memE, celE, w64, Nat.zero_add, Nat.add_zero, Nat.mul_one, putL, and_self, ldn, tm, t1, t2, t5, t8, hfl', o1.rd, xa.at_ f (by omega), xa.ld f (by omega)]
        refine rcallH_rc (column_rc M vt T f hTM (fun t ht => by rw [(hall t (by omega)).1]; exact hfl) (fun t ht => ?_) (by omega)) ?_
        · have k1 := (rowB_iff.1 ((irow_iff hg (by omega)).1 (hall t (by omega))).1).1
          have := memD9 k1 (k := f) (by rw [(hall t (by omega)).1]; exact hfl)
          omega
        rintro r new ⟨rfl, rfl⟩
        rw [hln]
        by_cases hc : s.arr.getD f 0 < colT T f s.need.length
        · simp (config := {implicitDefEqProofs := false, maxDischargeDepth := 20}) (disch := first | omega | (simp only [lenE]; done) | (simp only [lenE]; omega) | rfl | (simp only [lenE, markR_len]; done) | (simp only [lenE, markR_len]; omega)) only [runE, mapE, listE, initT_5, initT_6, initT_7, initT_8, resV, oneV, binA, unA, reduceCtorEq, Nat.reduceEqDiff, Nat.reduceAdd, Nat.reduceLT, Nat.reduceLeDiff, Nat.reduceMul, Nat.reduceSub, ↓reduceIte, decide_true, decide_false, Bool.true_eq_false, Bool.false_eq_true, Bool.not_true, Bool.not_false, if_true, if_false, and_true, true_and, memE, celE, w64, Nat.zero_add, Nat.add_zero, Nat.mul_one, putL, and_self, ldn, hc, gt_iff_lt]
          exact no _ hX fun hq => absurd (hq.2.2 f hfl) (by omega)
        · simp (config := {implicitDefEqProofs := false, maxDischargeDepth := 20}) (disch := first | omega | (simp only [lenE]; done) | (simp only [lenE]; omega) | rfl | (simp only [lenE, markR_len]; done) | (simp only [lenE, markR_len]; omega)) only [runE, mapE, listE, initT_5, initT_6, initT_7, initT_8, resV, oneV, binA, unA, reduceCtorEq, Nat.reduceEqDiff, Nat.reduceAdd, Nat.reduceLT, Nat.reduceLeDiff, Nat.reduceMul, Nat.reduceSub, ↓reduceIte, decide_true, decide_false, Bool.true_eq_false, Bool.false_eq_true, Bool.not_true, Bool.not_false, if_true, if_false, and_true, true_and, memE, celE, w64, Nat.zero_add, Nat.add_zero, Nat.mul_one, putL, and_self, ldn, tm, t1, t2, t5, t8, hc, gt_iff_lt]
          refine ⟨⟨f + 1, M, by omega, rfl, hX, o1, fun q hq => ?_, by simp⟩, ?_⟩
          · by_cases e : q = f
            · subst e; omega
            · exact hcol q (by omega)
          · simp [intOf]; omega
      · have hfl' : ¬ ((f : Int) < s.need.length) := by omega
        have e : f = s.need.length := by omega
        subst e
        simp (config := {implicitDefEqProofs := false, maxDischargeDepth := 20}) (disch := first | omega | (simp only [lenE]; done) | (simp only [lenE]; omega) | rfl | (simp only [lenE, markR_len]; done) | (simp only [lenE, markR_len]; omega)) only [runE, mapE, listE, initT_5, initT_6, initT_7, initT_8, resV, oneV, binA, unA, reduceCtorEq, Nat.reduceEqDiff, Nat.reduceAdd, Nat.reduceLT, Nat.reduceLeDiff, Nat.reduceMul, Nat.reduceSub, ↓reduceIte, decide_true, decide_false, Bool.true_eq_false, Bool.false_eq_true, Bool.not_true, Bool.not_false, if_true, if_false, and_true, true_and, memE, celE, w64, Nat.zero_add, Nat.add_zero, Nat.mul_one, putL, and_self, ldn, tm, t1, t2, t5, t8, hfl']
        refine ext_ansV hX ?_
        rw [Sh.issB, decide_eq_true (⟨hln, hall, hcol⟩ : T.length = s.need.length ∧ irows s T s.need.length)]
    · have hne : ((T.length : Int) != (s.need.length : Int)) = true := by rw [bne_iff_ne]; omega
      simp (config := {implicitDefEqProofs := false, maxDischargeDepth := 20}) (disch := first | omega | (simp only [lenE]; done) | (simp only [lenE]; omega) | rfl | (simp only [lenE, markR_len]; done) | (simp only [lenE, markR_len]; omega)) only [runE, mapE, listE, initT_5, initT_6, initT_7, initT_8, resV, oneV, binA, unA, reduceCtorEq, Nat.reduceEqDiff, Nat.reduceAdd, Nat.reduceLT, Nat.reduceLeDiff, Nat.reduceMul, Nat.reduceSub, ↓reduceIte, decide_true, decide_false, Bool.true_eq_false, Bool.false_eq_true, Bool.not_true, Bool.not_false, if_true, if_false, and_true, true_and, memE, celE, w64, Nat.zero_add, Nat.add_zero, Nat.mul_one, putL, and_self, ldn, tm, t1, t2, t5, t6, hTM.len, hlt', hne]
      exact no _ hX fun hq => absurd hq.1 hln
theorem specIsIssue_rc (m : Mem) (v vt : Value) (s : Sh) (T : List (List Int)) (h : ShA m v s) (hT : TabA m vt T) :
    RC Try.prog 9 [v, vt] m (AnsV (.tuple #[.bool (two9 s T), .bool s.good])) := by
  refine rc_of_run mixed ok_spec_IsIssue (by simp) (go_start _ _ _ ?_)
  obtain ⟨a, b, rfl, ha, hb⟩ := h.ro
  have hX := (Ext.refl m).one 26 [.int .i64 s.life, a, b, .int .i64 s.waste, .int .i64 s.lost]
  simp (config := {implicitDefEqProofs := false, maxDischargeDepth := 20}) (disch := first | omega | (simp only [lenE]; done) | (simp only [lenE]; omega) | rfl | (simp only [lenE, markR_len]; done) | (simp only [lenE, markR_len]; omega)) only [runE, mapE, listE, initT_5, initT_6, initT_7, initT_8, resV, oneV, binA, unA, reduceCtorEq, Nat.reduceEqDiff, Nat.reduceAdd, Nat.reduceLT, Nat.reduceLeDiff, Nat.reduceMul, Nat.reduceSub, ↓reduceIte, decide_true, decide_false, Bool.true_eq_false, Bool.false_eq_true, Bool.not_true, Bool.not_false, if_true, if_false, and_true, true_and, memE, celE, w64, Nat.zero_add, Nat.add_zero, Nat.mul_one, putL, and_self, ldn, c_spec_IsIssue, r_spec_IsIssue]
  obtain ⟨M0, hM0⟩ : ∃ M0, M0 = roM m ++ [⟨.own, 26, [.int .i64 s.life, a, b, .int .i64 s.waste, .int .i64 s.lost]⟩] := ⟨_, rfl⟩
  have o1 : OwnB M0 m.length 26 [.int .i64 s.life, a, b, .int .i64 s.waste, .int .i64 s.lost] := by rw [hM0]; exact OwnB.here (by simp [roM_len])
  rw [← hM0] at hX ⊢
  refine callH_rc (l9Good_rc _ _ s (ShA.mk (hX.ints ha) (hX.ints hb))) ?_
  rintro r n1 ⟨rfl, nr1⟩
  cases hg : s.good with
  | false =>
    simp (config := {implicitDefEqProofs := false, maxDischargeDepth := 20}) (disch := first | omega | (simp only [lenE]; done) | (simp only [lenE]; omega) | rfl | (simp only [lenE, markR_len]; done) | (simp only [lenE, markR_len]; omega)) only [runE, mapE, listE, initT_5, initT_6, initT_7, initT_8, resV, oneV, binA, unA, reduceCtorEq, Nat.reduceEqDiff, Nat.reduceAdd, Nat.reduceLT, Nat.reduceLeDiff, Nat.reduceMul, Nat.reduceSub, ↓reduceIte, decide_true, decide_false, Bool.true_eq_false, Bool.false_eq_true, Bool.not_true, Bool.not_false, if_true, if_false, and_true, true_and, memE, celE, w64, Nat.zero_add, Nat.add_zero, Nat.mul_one, putL, and_self, ldn]
    refine ext_ansV (hX.app nr1) ?_
    simp [two9, hg]
  | true =>
    simp (config := {implicitDefEqProofs := false, maxDischargeDepth := 20}) (disch := first | omega | (simp only [lenE]; done) | (simp only [lenE]; omega) | rfl | (simp only [lenE, markR_len]; done) | (simp only [lenE, markR_len]; omega)) only [runE, mapE, listE, initT_5, initT_6, initT_7, initT_8, resV, oneV, binA, unA, reduceCtorEq, Nat.reduceEqDiff, Nat.reduceAdd, Nat.reduceLT, Nat.reduceLeDiff, Nat.reduceMul, Nat.reduceSub, ↓reduceIte, decide_true, decide_false, Bool.true_eq_false, Bool.false_eq_true, Bool.not_true, Bool.not_false, if_true, if_false, and_true, true_and, memE, celE, w64, Nat.zero_add, Nat.add_zero, Nat.mul_one, putL, and_self, ldn, (o1.ext n1).rd]
    refine callH_rc (l9Issue_rc _ _ vt s T (ShA.mk ((hX.app nr1).ints ha) ((hX.app nr1).ints hb)) (TabA.xt hT (hX.app nr1)) (goodSh_iff.1 hg)) ?_
    rintro r n2 ⟨rfl, nr2⟩
    simp (config := {implicitDefEqProofs := false, maxDischargeDepth := 20}) (disch := first | omega | (simp only [lenE]; done) | (simp only [lenE]; omega) | rfl | (simp only [lenE, markR_len]; done) | (simp only [lenE, markR_len]; omega)) only [runE, mapE, listE, initT_5, initT_6, initT_7, initT_8, resV, oneV, binA, unA, reduceCtorEq, Nat.reduceEqDiff, Nat.reduceAdd, Nat.reduceLT, Nat.reduceLeDiff, Nat.reduceMul, Nat.reduceSub, ↓reduceIte, decide_true, decide_false, Bool.true_eq_false, Bool.false_eq_true, Bool.not_true, Bool.not_false, if_true, if_false, and_true, true_and, memE, celE, w64, Nat.zero_add, Nat.add_zero, Nat.mul_one, putL, and_self, ldn]
    exact ext_ansV ((hX.app nr1).app nr2) (by simp [two9, hg])
theorem l9Two_rc (m : Mem) (v vt : Value) (s : Sh) (T : List (List Int)) (h : ShA m v s) (hT : TabA m vt T) :
    RC Try.prog 49 [v, vt] m (AnsV (.bool (two9 s T))) := by
  refine rc_of_run mixed ok_spec_l9Two (by simp) (go_start _ _ _ ?_)
  obtain ⟨a, b, rfl, ha, hb⟩ := h.ro
  have hX := (Ext.refl m).one 26 [.int .i64 s.life, a, b, .int .i64 s.waste, .int .i64 s.lost]
  simp (config := {implicitDefEqProofs := false, maxDischargeDepth := 20}) (disch := first | omega | (simp only [lenE]; done) | (simp only [lenE]; omega) | rfl | (simp only [lenE, markR_len]; done) | (simp only [lenE, markR_len]; omega)) only [runE, mapE, listE, initT_5, initT_6, initT_7, initT_8, resV, oneV, binA, unA, reduceCtorEq, Nat.reduceEqDiff, Nat.reduceAdd, Nat.reduceLT, Nat.reduceLeDiff, Nat.reduceMul, Nat.reduceSub, ↓reduceIte, decide_true, decide_false, Bool.true_eq_false, Bool.false_eq_true, Bool.not_true, Bool.not_false, if_true, if_false, and_true, true_and, memE, celE, w64, Nat.zero_add, Nat.add_zero, Nat.mul_one, putL, and_self, ldn, c_spec_l9Two, r_spec_l9Two]
  obtain ⟨M0, hM0⟩ : ∃ M0, M0 = roM m ++ [⟨.own, 26, [.int .i64 s.life, a, b, .int .i64 s.waste, .int .i64 s.lost]⟩] := ⟨_, rfl⟩
  have o1 : OwnB M0 m.length 26 [.int .i64 s.life, a, b, .int .i64 s.waste, .int .i64 s.lost] := by rw [hM0]; exact OwnB.here (by simp [roM_len])
  rw [← hM0] at hX ⊢
  refine callH_rc (l9Good_rc _ _ s (ShA.mk (hX.ints ha) (hX.ints hb))) ?_
  rintro r n1 ⟨rfl, nr1⟩
  cases hg : s.good with
  | false =>
    simp (config := {implicitDefEqProofs := false, maxDischargeDepth := 20}) (disch := first | omega | (simp only [lenE]; done) | (simp only [lenE]; omega) | rfl | (simp only [lenE, markR_len]; done) | (simp only [lenE, markR_len]; omega)) only [runE, mapE, listE, initT_5, initT_6, initT_7, initT_8, resV, oneV, binA, unA, reduceCtorEq, Nat.reduceEqDiff, Nat.reduceAdd, Nat.reduceLT, Nat.reduceLeDiff, Nat.reduceMul, Nat.reduceSub, ↓reduceIte, decide_true, decide_false, Bool.true_eq_false, Bool.false_eq_true, Bool.not_true, Bool.not_false, if_true, if_false, and_true, true_and, memE, celE, w64, Nat.zero_add, Nat.add_zero, Nat.mul_one, putL, and_self, ldn]
    exact ext_ansV (hX.app nr1) (by simp [two9, hg])
  | true =>
    simp (config := {implicitDefEqProofs := false, maxDischargeDepth := 20}) (disch := first | omega | (simp only [lenE]; done) | (simp only [lenE]; omega) | rfl | (simp only [lenE, markR_len]; done) | (simp only [lenE, markR_len]; omega)) only [runE, mapE, listE, initT_5, initT_6, initT_7, initT_8, resV, oneV, binA, unA, reduceCtorEq, Nat.reduceEqDiff, Nat.reduceAdd, Nat.reduceLT, Nat.reduceLeDiff, Nat.reduceMul, Nat.reduceSub, ↓reduceIte, decide_true, decide_false, Bool.true_eq_false, Bool.false_eq_true, Bool.not_true, Bool.not_false, if_true, if_false, and_true, true_and, memE, celE, w64, Nat.zero_add, Nat.add_zero, Nat.mul_one, putL, and_self, ldn, (o1.ext n1).rd]
    refine callH_rc (l9Issue_rc _ _ vt s T (ShA.mk ((hX.app nr1).ints ha) ((hX.app nr1).ints hb)) (TabA.xt hT (hX.app nr1)) (goodSh_iff.1 hg)) ?_
    rintro r n2 ⟨rfl, nr2⟩
    simp (config := {implicitDefEqProofs := false, maxDischargeDepth := 20}) (disch := first | omega | (simp only [lenE]; done) | (simp only [lenE]; omega) | rfl | (simp only [lenE, markR_len]; done) | (simp only [lenE, markR_len]; omega)) only [runE, mapE, listE, initT_5, initT_6, initT_7, initT_8, resV, oneV, binA, unA, reduceCtorEq, Nat.reduceEqDiff, Nat.reduceAdd, Nat.reduceLT, Nat.reduceLeDiff, Nat.reduceMul, Nat.reduceSub, ↓reduceIte, decide_true, decide_false, Bool.true_eq_false, Bool.false_eq_true, Bool.not_true, Bool.not_false, if_true, if_false, and_true, true_and, memE, celE, w64, Nat.zero_add, Nat.add_zero, Nat.mul_one, putL, and_self, ldn]
    exact ext_ansV ((hX.app nr1).app nr2) (by simp [two9, hg])
end Go.Proofs.Ytdgfbmilbhckiaa.Ab
end
section
namespace Go.Proofs.Ytdgfbmilbhckiaa.Ab
open Go Go.RowKit
set_option linter.unusedVariables false
set_option linter.unusedSimpArgs false
theorem VR.nilRow9 {ρ : Places} {id : Nat} {p : Nat × Nat × Nat} (h : ρ[id]? = some p) : VR ρ (.slice (some ⟨id, 0, none⟩) 0 0) (.slice none 0 0) := by
  obtain ⟨b, o, t⟩ := p
  exact .sl h (Nat.le_refl _) (by unfold maxLen; omega) (fun _ h => absurd h (by omega)) (fun h => absurd h (by omega))
theorem rc_nilRow9 {P : Program} {f : FuncId} {args : List Value} {m : Mem} {Q : Value → Mem → Prop} {ok : Bool} {p : Prop} (h : RC P f args m fun r new => Q r new ∨ (p ∧ NoRo new ∧ r = .tuple #[.slice none 0 0, .bool ok]))
    (hq : ∀ new, p → NoRo new → Q (.tuple #[.slice (some ⟨m.length + new.length, 0, none⟩) 0 0, .bool ok]) (new ++ [⟨.own, 3, []⟩])) : RC P f args m Q := by
  refine ⟨h.1, fun ρ w cargs hm hv => (h.2 ρ w cargs hm hv).mono ?_⟩
  rintro e w' ⟨v, v', new, ρn, he, hQ | ⟨hp, hn, rfl⟩, hnn, hm2, hvr⟩
  · exact ⟨v, v', new, ρn, he, hQ, hnn, hm2, hvr⟩
  have hm3 := hm2.add (e := 3) (xs := []) (g := 0) (tot := 0) (by simp) (fun h => absurd h (by omega)) (fun h => absurd h (by omega))
  refine ⟨_, v', new ++ [⟨.own, 3, []⟩], ρn ++ [(0, 0, 0)], he, hq new hp hn, noRo_app hn (noRo_own noRo_nil), ?_, ?_⟩
  · rw [← List.append_assoc, ← List.append_assoc]; exact hm3
  · have hlen : (ρ ++ ρn).length = m.length + new.length := by rw [hm2.len]; simp [roM_len]
    rw [← List.append_assoc]
    cases hvr with
    | tup hs hh =>
      rename_i ds
      refine .tup (by simpa using hs) fun i x y hx hy => ?_
      match i with
      | 0 =>
        have h0 := hh 0 (.slice none 0 0) y rfl hy
        simp at hx
        subst hx
        cases h0
        exact VR.nilRow9 (p := (0, 0, 0)) (by rw [← hlen]; simp)
      | 1 =>
        have h1 := hh 1 (.bool ok) y rfl hy
        simp at hx
        subst hx
        cases h1
        exact .bool _
      | i + 2 => simp at hx
theorem nilRow_ans {m new : Mem} {ok : Bool} (hn : NoRo new) : AnsO m (IntsO []) (fun v => .tuple #[v, .bool ok]) (.tuple #[.slice (some ⟨m.length + new.length, 0, none⟩) 0 0, .bool ok]) (new ++ [⟨.own, 3, []⟩]) := by
  refine ⟨noRo_app hn (noRo_own noRo_nil), _, rfl, by omega, by simp, fun m' hm => ⟨by simp, m.length + new.length, 0, rfl, by omega, by simp, ?_⟩⟩
  have := hm (m.length + new.length) (by omega) (by simp)
  unfold OwnR
  rw [this, ← List.append_assoc, List.getElem?_append_right (by simp)]
  simp
end Go.Proofs.Ytdgfbmilbhckiaa.Ab
end
section
namespace Go.Proofs.Ytdgfbmilbhckiaa.Ab
open Go Go.RowKit
set_option linter.unusedVariables false
set_option linter.unusedSimpArgs false
theorem leftArr_len (s : Sh) (T : List (List Int)) (k : Nat) : (leftArr s T k).length = s.need.length := by simp [leftArr]
theorem leftNeed_len (s : Sh) (T : List (List Int)) (k : Nat) : (leftNeed s T k).length = s.need.length := by simp [leftNeed]
theorem leftArr_at {s : Sh} {T : List (List Int)} {k f : Nat} (h : f < s.need.length) : (leftArr s T k).getD f 0 = s.arr.getD f 0 - colT T f k := by rw [leftArr, mapD9 h]
theorem leftNeed_at {s : Sh} {T : List (List Int)} {k r : Nat} (h : r < s.need.length) (hk : r < k) : (leftNeed s T k).getD r 0 = s.need.getD r 0 - sumTo (T.getD r []) s.need.length := by rw [leftNeed, mapD9 h, if_pos hk]
def lostA (s : Sh) (T : List (List Int)) : List Int := if two9 s T then leftNeed s T T.length else []
def wastA (s : Sh) (T : List (List Int)) : List Int := if two9 s T then leftArr s T T.length else []
def cost9A (s : Sh) (T : List (List Int)) : Int := if two9 s T then s.lost * (leftNeed s T T.length).sum + s.waste * (leftArr s T T.length).sum else 0
structure Iss (s : Sh) (T : List (List Int)) : Prop where
  g : GoodSh s
  l : T.length = s.need.length
  len : ∀ t, t < T.length → (T.getD t []).length = s.need.length
  bd : ∀ t f, t < T.length → f < s.need.length → 0 ≤ (T.getD t []).getD f 0 ∧ (T.getD t []).getD f 0 ≤ 20
  sum : ∀ t, t < T.length → ∀ k, 0 ≤ sumTo (T.getD t []) k ∧ sumTo (T.getD t []) k ≤ 20 * k
  la : ∀ x ∈ leftArr s T T.length, 0 ≤ x ∧ x ≤ 20
  ln : ∀ x ∈ leftNeed s T T.length, 0 ≤ x ∧ x ≤ 20
theorem iss_of {s : Sh} {T : List (List Int)} (h : two9 s T = true) : Iss s T := by
  obtain ⟨g, l, hr⟩ := two9_iff.1 h
  have row : ∀ t, t < T.length → Go.Proofs.Ytdgfbmilbhckiaa.rowB (T.getD t []) s.need.length 20 = true := fun t ht => ((irow_iff g (by omega)).1 (hr.1 t (by omega))).1
  refine ⟨g, l, fun t ht => (hr.1 t (by omega)).1, fun t f ht hf => memD9 (rowB_iff.1 (row t ht)).1 (by rw [(rowB_iff.1 (row t ht)).2]; exact hf), fun t ht k => sumTo_bound (by omega) (rowB_iff.1 (row t ht)).1 k, ?_, ?_⟩
  · rw [l]; exact (left_bd g hr).1
  · rw [l]; exact (left_bd g hr).2
def lostTo (s : Sh) (T : List (List Int)) (k : Nat) : List Int := (List.range k).map fun t => s.need.getD t 0 - sumTo (T.getD t []) (T.getD t []).length
def wastTo (s : Sh) (T : List (List Int)) (k : Nat) : List Int := (List.range k).map fun f => s.arr.getD f 0 - colT T f T.length
theorem lostTo_s (s : Sh) (T : List (List Int)) (k : Nat) : lostTo s T (k + 1) = lostTo s T k ++ [s.need.getD k 0 - sumTo (T.getD k []) (T.getD k []).length] := by simp [lostTo, List.range_succ]
theorem wastTo_s (s : Sh) (T : List (List Int)) (k : Nat) : wastTo s T (k + 1) = wastTo s T k ++ [s.arr.getD k 0 - colT T k T.length] := by simp [wastTo, List.range_succ]
theorem lostTo_len (s : Sh) (T : List (List Int)) (k : Nat) : (lostTo s T k).length = k := by simp [lostTo]
theorem wastTo_len (s : Sh) (T : List (List Int)) (k : Nat) : (wastTo s T k).length = k := by simp [wastTo]
theorem lost_all {s : Sh} {T : List (List Int)} (h : Iss s T) : lostTo s T T.length = leftNeed s T T.length := by
  have l := h.l
  refine extD9 (n := s.need.length) (by rw [lostTo_len, l]) (leftNeed_len _ _ _) fun i hi => ?_
  rw [leftNeed_at hi (by omega), lostTo, mapD9 (by omega), h.len i (by omega)]
theorem wast_all {s : Sh} {T : List (List Int)} (h : Iss s T) : wastTo s T T.length = leftArr s T T.length := by
  have l := h.l
  refine extD9 (n := s.need.length) (by rw [wastTo_len, l]) (leftArr_len _ _ _) fun i hi => ?_
  rw [leftArr_at hi, wastTo, mapD9 (by omega)]
theorem l9Lost_rc (m : Mem) (v vt : Value) (s : Sh) (T : List (List Int)) (h : ShA m v s) (hT : TabA m vt T) (hI : Iss s T) :
    RC Try.prog 51 [v, vt] m (AnsO m (IntsO (leftNeed s T T.length)) _root_.id) := by
  refine rc_of_run mixed ok_spec_l9Lost (by simp) (go_start _ _ _ ?_)
  obtain ⟨a, b, rfl, ha, hb⟩ := h.ro
  have n8 := hI.g.n8
  have hl := hI.l
  have hX := ((Ext.refl m).one 26 [.int .i64 s.life, a, b, .int .i64 s.waste, .int .i64 s.lost]).one 3 (([] : List Int).map (Value.int .i64))
  have o1 : OwnB (roM m ++ [⟨.own, 26, [.int .i64 s.life, a, b, .int .i64 s.waste, .int .i64 s.lost]⟩] ++ [⟨.own, 3, ([] : List Int).map (Value.int .i64)⟩]) m.length 26 [.int .i64 s.life, a, b, .int .i64 s.waste, .int .i64 s.lost] := (OwnB.here (roM_len m).symm).ext _
  have r1 : OwnR (roM m ++ [⟨.own, 26, [.int .i64 s.life, a, b, .int .i64 s.waste, .int .i64 s.lost]⟩] ++ [⟨.own, 3, ([] : List Int).map (Value.int .i64)⟩]) (m.length + 1) [] := OwnR.end' (by simp [roM_len])
  simp (config := {implicitDefEqProofs := false, maxDischargeDepth := 20}) (disch := first | omega | (simp only [lenE]; done) | (simp only [lenE]; omega) | rfl | (simp only [lenE, markR_len]; done) | (simp only [lenE, markR_len]; omega)) only [runE, mapE, listE, initT_5, initT_6, initT_7, initT_8, resV, oneV, binA, unA, reduceCtorEq, Nat.reduceEqDiff, Nat.reduceAdd, Nat.reduceLT, Nat.reduceLeDiff, Nat.reduceMul, Nat.reduceSub, ↓reduceIte, decide_true, decide_false, Bool.true_eq_false, Bool.false_eq_true, Bool.not_true, Bool.not_false, if_true, if_false, and_true, true_and, memE, celE, w64, Nat.zero_add, Nat.add_zero, Nat.mul_one, putL, and_self, ldn, c_spec_l9Lost, r_spec_l9Lost, bsl_none]
  refine loop_inv mixed (fun s' => ∃ (k : Nat) (M : Mem) (id : Nat), k ≤ T.length ∧ s'.m = M ∧ Ext m M ∧ OwnB M m.length 26 [.int .i64 s.life, a, b, .int .i64 s.waste, .int .i64 s.lost] ∧ m.length < id ∧ OwnR M id (lostTo s T k) ∧ s'.t 1 = vt ∧ s'.t 2 = .pointer (some ⟨m.length, 0, none⟩) ∧ s'.t 5 = .slice (some ⟨id, 0, none⟩) k 1 ∧ s'.t 6 = .int .i64 (k : Int)) (fun s' => T.length - (intOf (s'.t 6)).toNat)
    ⟨0, _, m.length + 1, by omega, rfl, hX, o1, by omega, r1, rfl, rfl, rfl, rfl⟩ ?_
  rintro s' ⟨k, M, id, hk, tm, hX, o1, hid, r1, t1, t2, t5, t6⟩
  have hTM := TabA.xt hT hX
  by_cases hlt : k < T.length
  · have hlt' : (k : Int) < T.length := by omega
    obtain ⟨w, w1, w2⟩ := hT.rowAt hX hlt
    have wi := hX.ints w2
    have sb := hI.sum k hlt
    have xb := hX.ints hb
    have lk := hI.len k hlt
    simp (config := {implicitDefEqProofs := false, maxDischargeDepth := 20}) (disch := first | omega | (simp only [lenE]; done) | (simp only [lenE]; omega) | rfl | (simp only [lenE, markR_len]; done) | (simp only [lenE, markR_len]; omega)) only [runE, mapE, listE, initT_5, initT_6, initT_7, initT_8, resV, oneV, binA, unA, reduceCtorEq, Nat.reduceEqDiff, Nat.reduceAdd, Nat.reduceLT, Nat.reduceLeDiff, Nat.reduceMul, Nat.reduceSub, ↓reduceIte, decide_true, decide_false, Bool.true_eq_false, Bool.false_eq_true, Bool.not_true, Bool.not_false, if_true, if_false, and_true, true_and, memE, celE, w64, Nat.zero_add, Nat.add_zero, Nat.mul_one, putL, and_self, ldn, tm, t1, t2, t5, t6, hTM.len, hlt', o1.rd, xb.at_ k (by omega), xb.ld k (by omega), hTM.at_ k hlt, w1]
    refine rcallH_rc (l2Sum_rc _ w (T.getD k []) wi (fun j hj => by have := sb j; omega)) ?_
    rintro r new ⟨rfl, rfl⟩
    have sbk := sb (T.getD k []).length
    have nb := memD9 hI.g.need (k := k) (by omega)
    have happ := app_num (x := s.need.getD k 0 - sumTo (T.getD k []) (T.getD k []).length) (id2 := M.length) (n := k) r1 (by rw [lostTo_len]; omega) rfl (by rw [lostTo_len])
    simp (config := {implicitDefEqProofs := false, maxDischargeDepth := 20}) (disch := first | omega | (simp only [lenE]; done) | (simp only [lenE]; omega) | rfl | (simp only [lenE, markR_len]; done) | (simp only [lenE, markR_len]; omega)) only [runE, mapE, listE, initT_5, initT_6, initT_7, initT_8, resV, oneV, binA, unA, reduceCtorEq, Nat.reduceEqDiff, Nat.reduceAdd, Nat.reduceLT, Nat.reduceLeDiff, Nat.reduceMul, Nat.reduceSub, ↓reduceIte, decide_true, decide_false, Bool.true_eq_false, Bool.false_eq_true, Bool.not_true, Bool.not_false, if_true, if_false, and_true, true_and, memE, celE, w64, Nat.zero_add, Nat.add_zero, Nat.mul_one, putL, and_self, ldn, tm, t1, t2, t5, t6, bsl_one, happ]
    have hidl := r1.lt
    have hl2 := hX.len
    refine ⟨⟨k + 1, _, M.length + 1, by omega, rfl, ((hX.dead (by omega)).one _ _).one _ _, o1.at_ (same_gen (by omega) hidl), by omega, ?_, rfl, by simp⟩, ?_⟩
    · rw [lostTo_s]
      exact OwnB.here (by simp)
    · simp [intOf]; omega
  · have hlt' : ¬ ((k : Int) < T.length) := by omega
    have e : k = T.length := by omega
    subst e
    simp (config := {implicitDefEqProofs := false, maxDischargeDepth := 20}) (disch := first | omega | (simp only [lenE]; done) | (simp only [lenE]; omega) | rfl | (simp only [lenE, markR_len]; done) | (simp only [lenE, markR_len]; omega)) only [runE, mapE, listE, initT_5, initT_6, initT_7, initT_8, resV, oneV, binA, unA, reduceCtorEq, Nat.reduceEqDiff, Nat.reduceAdd, Nat.reduceLT, Nat.reduceLeDiff, Nat.reduceMul, Nat.reduceSub, ↓reduceIte, decide_true, decide_false, Bool.true_eq_false, Bool.false_eq_true, Bool.not_true, Bool.not_false, if_true, if_false, and_true, true_and, memE, celE, w64, Nat.zero_add, Nat.add_zero, Nat.mul_one, putL, and_self, ldn, tm, t1, t2, t5, t6, hTM.len, hlt']
    rw [lost_all hI] at r1
    refine ext_ansO (f := _root_.id) hX fun M' hM => ?_
    have := IntsA.ownO (fl := 1) (lo := m.length) (hi := M.length) (r1.at_ (hM _ (by omega) r1.lt)) (by rw [leftNeed_len]; omega) (by omega) r1.lt
    rw [leftNeed_len, ← hl] at this
    exact this
theorem l9Wasted_rc (m : Mem) (v vt : Value) (s : Sh) (T : List (List Int)) (h : ShA m v s) (hT : TabA m vt T) (hI : Iss s T) :
    RC Try.prog 52 [v, vt] m (AnsO m (IntsO (leftArr s T T.length)) _root_.id) := by
  refine rc_of_run mixed ok_spec_l9Wasted (by simp) (go_start _ _ _ ?_)
  obtain ⟨a, b, rfl, ha, hb⟩ := h.ro
  have n8 := hI.g.n8
  have hl := hI.l
  have hX := ((Ext.refl m).one 26 [.int .i64 s.life, a, b, .int .i64 s.waste, .int .i64 s.lost]).one 3 (([] : List Int).map (Value.int .i64))
  have o1 : OwnB (roM m ++ [⟨.own, 26, [.int .i64 s.life, a, b, .int .i64 s.waste, .int .i64 s.lost]⟩] ++ [⟨.own, 3, ([] : List Int).map (Value.int .i64)⟩]) m.length 26 [.int .i64 s.life, a, b, .int .i64 s.waste, .int .i64 s.lost] := (OwnB.here (roM_len m).symm).ext _
  have r1 : OwnR (roM m ++ [⟨.own, 26, [.int .i64 s.life, a, b, .int .i64 s.waste, .int .i64 s.lost]⟩] ++ [⟨.own, 3, ([] : List Int).map (Value.int .i64)⟩]) (m.length + 1) [] := OwnR.end' (by simp [roM_len])
  simp (config := {implicitDefEqProofs := false, maxDischargeDepth := 20}) (disch := first | omega | (simp only [lenE]; done) | (simp only [lenE]; omega) | rfl | (simp only [lenE, markR_len]; done) | (simp only [lenE, markR_len]; omega)) only [runE, mapE, listE, initT_5, initT_6, initT_7, initT_8, resV, oneV, binA, unA, reduceCtorEq, Nat.reduceEqDiff, Nat.reduceAdd, Nat.reduceLT, Nat.reduceLeDiff, Nat.reduceMul, Nat.reduceSub, ↓reduceIte, decide_true, decide_false, Bool.true_eq_false, Bool.false_eq_true, Bool.not_true, Bool.not_false, if_true, if_false, and_true, true_and, memE, celE, w64, Nat.zero_add, Nat.add_zero, Nat.mul_one, putL, and_self, ldn, c_spec_l9Wasted, r_spec_l9Wasted, bsl_none]
  refine loop_inv mixed (fun s' => ∃ (k : Nat) (M : Mem) (id : Nat), k ≤ T.length ∧ s'.m = M ∧ Ext m M ∧ OwnB M m.length 26 [.int .i64 s.life, a, b, .int .i64 s.waste, .int .i64 s.lost] ∧ m.length < id ∧ OwnR M id (wastTo s T k) ∧ s'.t 1 = vt ∧ s'.t 2 = .pointer (some ⟨m.length, 0, none⟩) ∧ s'.t 5 = .slice (some ⟨id, 0, none⟩) k 1 ∧ s'.t 6 = .int .i64 (k : Int)) (fun s' => T.length - (intOf (s'.t 6)).toNat)
    ⟨0, _, m.length + 1, by omega, rfl, hX, o1, by omega, r1, rfl, rfl, rfl, rfl⟩ ?_
  rintro s' ⟨k, M, id, hk, tm, hX, o1, hid, r1, t1, t2, t5, t6⟩
  have hTM := TabA.xt hT hX
  by_cases hlt : k < T.length
  · have hlt' : (k : Int) < T.length := by omega
    obtain ⟨w, w1, w2⟩ := hT.rowAt hX hlt
    have wi := hX.ints w2
    have sb := hI.sum k hlt
    have xa := hX.ints ha
    have hla := hI.g.la
    have lk := hI.len k hlt
    simp (config := {implicitDefEqProofs := false, maxDischargeDepth := 20}) (disch := first | omega | (simp only [lenE]; done) | (simp only [lenE]; omega) | rfl | (simp only [lenE, markR_len]; done) | (simp only [lenE, markR_len]; omega)) only [runE, mapE, listE, initT_5, initT_6, initT_7, initT_8, resV, oneV, binA, unA, reduceCtorEq, Nat.reduceEqDiff, Nat.reduceAdd, Nat.reduceLT, Nat.reduceLeDiff, Nat.reduceMul, Nat.reduceSub, ↓reduceIte, decide_true, decide_false, Bool.true_eq_false, Bool.false_eq_true, Bool.not_true, Bool.not_false, if_true, if_false, and_true, true_and, memE, celE, w64, Nat.zero_add, Nat.add_zero, Nat.mul_one, putL, and_self, ldn, tm, t1, t2, t5, t6, hTM.len, hlt', o1.rd, xa.at_ k (by omega), xa.ld k (by omega)]
    refine rcallH_rc (column_rc M vt T k hTM (fun t ht => by rw [hI.len t ht]; omega) (fun t ht => by have := hI.bd t k ht (by omega); omega) (by omega)) ?_
    rintro r new ⟨rfl, rfl⟩
    have ab := memD9 hI.g.arr (k := k) (by omega)
    have lb := memD9 hI.la (k := k) (by rw [leftArr_len]; omega)
    rw [leftArr_at (by omega)] at lb
    have happ := app_num (x := s.arr.getD k 0 - colT T k T.length) (id2 := M.length) (n := k) r1 (by rw [wastTo_len]; omega) rfl (by rw [wastTo_len])
    simp (config := {implicitDefEqProofs := false, maxDischargeDepth := 20}) (disch := first | omega | (simp only [lenE]; done) | (simp only [lenE]; omega) | rfl | (simp only [lenE, markR_len]; done) | (simp only [lenE, markR_len]; omega)) only [runE, mapE, listE, initT_5, initT_6, initT_7, initT_8, resV, oneV, binA, unA, reduceCtorEq, Nat.reduceEqDiff, Nat.reduceAdd, Nat.reduceLT, Nat.reduceLeDiff, Nat.reduceMul, Nat.reduceSub, ↓reduceIte, decide_true, decide_false, Bool.true_eq_false, Bool.false_eq_true, Bool.not_true, Bool.not_false, if_true, if_false, and_true, true_and, memE, celE, w64, Nat.zero_add, Nat.add_zero, Nat.mul_one, putL, and_self, ldn, tm, t1, t2, t5, t6, bsl_one, happ]
    have hidl := r1.lt
    have hl2 := hX.len
    refine ⟨⟨k + 1, _, M.length + 1, by omega, rfl, ((hX.dead (by omega)).one _ _).one _ _, o1.at_ (same_gen (by omega) hidl), by omega, ?_, rfl, by simp⟩, ?_⟩
    · rw [wastTo_s]
      exact OwnB.here (by simp)
    · simp [intOf]; omega
  · have hlt' : ¬ ((k : Int) < T.length) := by omega
    have e : k = T.length := by omega
    subst e
    simp (config := {implicitDefEqProofs := false, maxDischargeDepth := 20}) (disch := first | omega | (simp only [lenE]; done) | (simp only [lenE]; omega) | rfl | (simp only [lenE, markR_len]; done) | (simp only [lenE, markR_len]; omega)) only [runE, mapE, listE, initT_5, initT_6, initT_7, initT_8, resV, oneV, binA, unA, reduceCtorEq, Nat.reduceEqDiff, Nat.reduceAdd, Nat.reduceLT, Nat.reduceLeDiff, Nat.reduceMul, Nat.reduceSub, ↓reduceIte, decide_true, decide_false, Bool.true_eq_false, Bool.false_eq_true, Bool.not_true, Bool.not_false, if_true, if_false, and_true, true_and, memE, celE, w64, Nat.zero_add, Nat.add_zero, Nat.mul_one, putL, and_self, ldn, tm, t1, t2, t5, t6, hTM.len, hlt']
    rw [wast_all hI] at r1
    refine ext_ansO (f := _root_.id) hX fun M' hM => ?_
    have := IntsA.ownO (fl := 1) (lo := m.length) (hi := M.length) (r1.at_ (hM _ (by omega) r1.lt)) (by rw [leftArr_len]; omega) (by omega) r1.lt
    rw [leftArr_len, ← hl] at this
    exact this
theorem specLostNeeds_rc (m : Mem) (v vt : Value) (s : Sh) (T : List (List Int)) (h : ShA m v s) (hT : TabA m vt T) :
    RC Try.prog 13 [v, vt] m (AnsO m (IntsO (lostA s T)) fun v => .tuple #[v, .bool (two9 s T)]) := by
  refine rc_of_run mixed ok_spec_LostNeeds (by simp) (go_start _ _ _ ?_)
  obtain ⟨a, b, rfl, ha, hb⟩ := h.ro
  have hX := (Ext.refl m).one 26 [.int .i64 s.life, a, b, .int .i64 s.waste, .int .i64 s.lost]
  simp (config := {implicitDefEqProofs := false, maxDischargeDepth := 20}) (disch := first | omega | (simp only [lenE]; done) | (simp only [lenE]; omega) | rfl | (simp only [lenE, markR_len]; done) | (simp only [lenE, markR_len]; omega)) only [runE, mapE, listE, initT_5, initT_6, initT_7, initT_8, resV, oneV, binA, unA, reduceCtorEq, Nat.reduceEqDiff, Nat.reduceAdd, Nat.reduceLT, Nat.reduceLeDiff, Nat.reduceMul, Nat.reduceSub, ↓reduceIte, decide_true, decide_false, Bool.true_eq_false, Bool.false_eq_true, Bool.not_true, Bool.not_false, if_true, if_false, and_true, true_and, memE, celE, w64, Nat.zero_add, Nat.add_zero, Nat.mul_one, putL, and_self, ldn, c_spec_LostNeeds, r_spec_LostNeeds]
  obtain ⟨M0, hM0⟩ : ∃ M0, M0 = roM m ++ [⟨.own, 26, [.int .i64 s.life, a, b, .int .i64 s.waste, .int .i64 s.lost]⟩] := ⟨_, rfl⟩
  have o1 : OwnB M0 m.length 26 [.int .i64 s.life, a, b, .int .i64 s.waste, .int .i64 s.lost] := by rw [hM0]; exact OwnB.here (by simp [roM_len])
  rw [← hM0] at hX ⊢
  refine callH_rc (l9Two_rc _ _ vt s T (ShA.mk (hX.ints ha) (hX.ints hb)) (TabA.xt hT hX)) ?_
  rintro r n1 ⟨rfl, nr1⟩
  replace hX := hX.app nr1
  replace o1 := o1.ext n1
  obtain ⟨M1, hM1⟩ : ∃ M1, M1 = M0 ++ n1 := ⟨_, rfl⟩
  rw [← hM1] at hX o1 ⊢
  unfold lostA
  cases h2 : two9 s T with
  | false =>
    simp (config := {implicitDefEqProofs := false, maxDischargeDepth := 20}) (disch := first | omega | (simp only [lenE]; done) | (simp only [lenE]; omega) | rfl | (simp only [lenE, markR_len]; done) | (simp only [lenE, markR_len]; omega)) only [runE, mapE, listE, initT_5, initT_6, initT_7, initT_8, resV, oneV, binA, unA, reduceCtorEq, Nat.reduceEqDiff, Nat.reduceAdd, Nat.reduceLT, Nat.reduceLeDiff, Nat.reduceMul, Nat.reduceSub, ↓reduceIte, decide_true, decide_false, Bool.true_eq_false, Bool.false_eq_true, Bool.not_true, Bool.not_false, if_true, if_false, and_true, true_and, memE, celE, w64, Nat.zero_add, Nat.add_zero, Nat.mul_one, putL, and_self, ldn, bsl_no]
    exact ext_noInts (f := fun v => .tuple #[v, .bool false]) hX rfl
  | true =>
    have hI := iss_of h2
    simp (config := {implicitDefEqProofs := false, maxDischargeDepth := 20}) (disch := first | omega | (simp only [lenE]; done) | (simp only [lenE]; omega) | rfl | (simp only [lenE, markR_len]; done) | (simp only [lenE, markR_len]; omega)) only [runE, mapE, listE, initT_5, initT_6, initT_7, initT_8, resV, oneV, binA, unA, reduceCtorEq, Nat.reduceEqDiff, Nat.reduceAdd, Nat.reduceLT, Nat.reduceLeDiff, Nat.reduceMul, Nat.reduceSub, ↓reduceIte, decide_true, decide_false, Bool.true_eq_false, Bool.false_eq_true, Bool.not_true, Bool.not_false, if_true, if_false, and_true, true_and, memE, celE, w64, Nat.zero_add, Nat.add_zero, Nat.mul_one, putL, and_self, ldn, o1.rd]
    refine callH_rc (l9Lost_rc _ _ vt s T (ShA.mk (hX.ints ha) (hX.ints hb)) (TabA.xt hT hX) hI) ?_
    rintro r n2 ⟨nr2, w, rfl, hw⟩
    simp (config := {implicitDefEqProofs := false, maxDischargeDepth := 20}) (disch := first | omega | (simp only [lenE]; done) | (simp only [lenE]; omega) | rfl | (simp only [lenE, markR_len]; done) | (simp only [lenE, markR_len]; omega)) only [runE, mapE, listE, initT_5, initT_6, initT_7, initT_8, resV, oneV, binA, unA, reduceCtorEq, Nat.reduceEqDiff, Nat.reduceAdd, Nat.reduceLT, Nat.reduceLeDiff, Nat.reduceMul, Nat.reduceSub, ↓reduceIte, decide_true, decide_false, Bool.true_eq_false, Bool.false_eq_true, Bool.not_true, Bool.not_false, if_true, if_false, and_true, true_and, memE, celE, w64, Nat.zero_add, Nat.add_zero, Nat.mul_one, putL, and_self, ldn]
    exact Ext.pass (f := fun v => .tuple #[v, .bool true]) hX nr2 (IntsO.wide _) hw
theorem implLostNeeds_pre (m : Mem) (v vt : Value) (s : Sh) (T : List (List Int)) (h : ShA m v s) (hT : TabA m vt T) :
    RC Try.prog 12 [v, vt] m fun r new => AnsO m (IntsO (lostA s T)) (fun v => .tuple #[v, .bool (two9 s T)]) r new ∨ ((two9 s T = false) ∧ NoRo new ∧ r = .tuple #[.slice none 0 0, .bool (two9 s T)]) := by
  refine rc_of_run mixed ok_impl_LostNeeds (by simp) (go_start _ _ _ ?_)
  obtain ⟨a, b, rfl, ha, hb⟩ := h.ro
  have hX := (Ext.refl m).one 26 [.int .i64 s.life, a, b, .int .i64 s.waste, .int .i64 s.lost]
  simp (config := {implicitDefEqProofs := false, maxDischargeDepth := 20}) (disch := first | omega | (simp only [lenE]; done) | (simp only [lenE]; omega) | rfl | (simp only [lenE, markR_len]; done) | (simp only [lenE, markR_len]; omega)) only [runE, mapE, listE, initT_5, initT_6, initT_7, initT_8, resV, oneV, binA, unA, reduceCtorEq, Nat.reduceEqDiff, Nat.reduceAdd, Nat.reduceLT, Nat.reduceLeDiff, Nat.reduceMul, Nat.reduceSub, ↓reduceIte, decide_true, decide_false, Bool.true_eq_false, Bool.false_eq_true, Bool.not_true, Bool.not_false, if_true, if_false, and_true, true_and, memE, celE, w64, Nat.zero_add, Nat.add_zero, Nat.mul_one, putL, and_self, ldn, c_impl_LostNeeds, r_impl_LostNeeds]
  obtain ⟨M0, hM0⟩ : ∃ M0, M0 = roM m ++ [⟨.own, 26, [.int .i64 s.life, a, b, .int .i64 s.waste, .int .i64 s.lost]⟩] := ⟨_, rfl⟩
  have hl0 : M0.length = m.length + 1 := by rw [hM0]; simp [roM_len]
  rw [← hM0] at hX ⊢
  refine callH_rc (leftOf_rc _ _ vt s T (ShA.mk (hX.ints ha) (hX.ints hb)) (TabA.xt hT hX)) ?_
  rintro r n2 ⟨nr2, ⟨hb1, rfl⟩ | ⟨hb1, w, rfl, ia, ib, fa, fb, hne, ga, gb, rfl, oa, ob⟩⟩
  · simp (config := {implicitDefEqProofs := false, maxDischargeDepth := 20}) (disch := first | omega | (simp only [lenE]; done) | (simp only [lenE]; omega) | rfl | (simp only [lenE, markR_len]; done) | (simp only [lenE, markR_len]; omega)) only [runE, mapE, listE, initT_5, initT_6, initT_7, initT_8, resV, oneV, binA, unA, reduceCtorEq, Nat.reduceEqDiff, Nat.reduceAdd, Nat.reduceLT, Nat.reduceLeDiff, Nat.reduceMul, Nat.reduceSub, ↓reduceIte, decide_true, decide_false, Bool.true_eq_false, Bool.false_eq_true, Bool.not_true, Bool.not_false, if_true, if_false, and_true, true_and, memE, celE, w64, Nat.zero_add, Nat.add_zero, Nat.mul_one, putL, and_self, ldn, ext_2_0, ext_2_1, noShV, stP_agg5']
    obtain ⟨n0, e0, nr0⟩ := (hX.app nr2).one 26 [.int .i64 0, .slice none 0 0, .slice none 0 0, .int .i64 0, .int .i64 0]
    rw [e0]
    refine ⟨n0, rfl, nr0, .inr ⟨hb1, nr0, ?_⟩⟩
    rw [hb1]
  · have hI := iss_of hb1
    have hl := hI.l
    have n8 := hI.g.n8
    have la := oa.lt
    have lb := ob.lt
    simp (config := {implicitDefEqProofs := false, maxDischargeDepth := 20}) (disch := first | omega | (simp only [lenE]; done) | (simp only [lenE]; omega) | rfl | (simp only [lenE, markR_len]; done) | (simp only [lenE, markR_len]; omega)) only [runE, mapE, listE, initT_5, initT_6, initT_7, initT_8, resV, oneV, binA, unA, reduceCtorEq, Nat.reduceEqDiff, Nat.reduceAdd, Nat.reduceLT, Nat.reduceLeDiff, Nat.reduceMul, Nat.reduceSub, ↓reduceIte, decide_true, decide_false, Bool.true_eq_false, Bool.false_eq_true, Bool.not_true, Bool.not_false, if_true, if_false, and_true, true_and, memE, celE, w64, Nat.zero_add, Nat.add_zero, Nat.mul_one, putL, and_self, ldn, ext_2_0, ext_2_1, stP_agg5']
    rw [hb1]
    have hX2 := (hX.app nr2).one 26 [.int .i64 s.life, .slice (some ⟨ia, 0, none⟩) (leftArr s T T.length).length fa, .slice (some ⟨ib, 0, none⟩) (leftNeed s T T.length).length fb, .int .i64 s.waste, .int .i64 s.lost]
    have hq : newQ m (AnsO m (IntsO (lostA s T)) (fun v => .tuple #[v, .bool true])) (.tuple #[.slice (some ⟨ib, 0, none⟩) (leftNeed s T T.length).length fb, .bool true]) (M0 ++ n2 ++ [⟨.own, 26, [.int .i64 s.life, .slice (some ⟨ia, 0, none⟩) (leftArr s T T.length).length fa, .slice (some ⟨ib, 0, none⟩) (leftNeed s T T.length).length fb, .int .i64 s.waste, .int .i64 s.lost]⟩]) := by
      unfold lostA
      rw [hb1, if_pos rfl]
      refine ext_ansO (f := fun v => .tuple #[v, .bool true]) hX2 fun M' hM => ?_
      have hlt : ib < (M0 ++ n2 ++ [⟨.own, 26, [.int .i64 s.life, .slice (some ⟨ia, 0, none⟩) (leftArr s T T.length).length fa, .slice (some ⟨ib, 0, none⟩) (leftNeed s T T.length).length fb, .int .i64 s.waste, .int .i64 s.lost]⟩] : Mem).length := by rw [List.length_append]; omega
      exact IntsA.ownO ((ob.ext _).at_ (hM _ (by omega) hlt)) (by rw [leftNeed_len]; omega) (by omega) hlt
    obtain ⟨n0, e0, nr0, q⟩ := hq
    exact ⟨n0, e0, nr0, .inl q⟩
theorem implLostNeeds_rc (m : Mem) (v vt : Value) (s : Sh) (T : List (List Int)) (h : ShA m v s) (hT : TabA m vt T) :
    RC Try.prog 12 [v, vt] m (AnsO m (IntsO (lostA s T)) fun v => .tuple #[v, .bool (two9 s T)]) := by
  refine rc_nilRow9 (implLostNeeds_pre m v vt s T h hT) fun new hp hn => ?_
  unfold lostA
  rw [hp]
  exact nilRow_ans hn
theorem specWasted_rc (m : Mem) (v vt : Value) (s : Sh) (T : List (List Int)) (h : ShA m v s) (hT : TabA m vt T) :
    RC Try.prog 15 [v, vt] m (AnsO m (IntsO (wastA s T)) fun v => .tuple #[v, .bool (two9 s T)]) := by
  refine rc_of_run mixed ok_spec_WastedUnits (by simp) (go_start _ _ _ ?_)
  obtain ⟨a, b, rfl, ha, hb⟩ := h.ro
  have hX := (Ext.refl m).one 26 [.int .i64 s.life, a, b, .int .i64 s.waste, .int .i64 s.lost]
  simp (config := {implicitDefEqProofs := false, maxDischargeDepth := 20}) (disch := first | omega | (simp only [lenE]; done) | (simp only [lenE]; omega) | rfl | (simp only [lenE, markR_len]; done) | (simp only [lenE, markR_len]; omega)) only [runE, mapE, listE, initT_5, initT_6, initT_7, initT_8, resV, oneV, binA, unA, reduceCtorEq, Nat.reduceEqDiff, Nat.reduceAdd, Nat.reduceLT, Nat.reduceLeDiff, Nat.reduceMul, Nat.reduceSub, ↓reduceIte, decide_true, decide_false, Bool.true_eq_false, Bool.false_eq_true, Bool.not_true, Bool.not_false, if_true, if_false, and_true, true_and, memE, celE, w64, Nat.zero_add, Nat.add_zero, Nat.mul_one, putL, and_self, ldn, c_spec_WastedUnits, r_spec_WastedUnits]
  obtain ⟨M0, hM0⟩ : ∃ M0, M0 = roM m ++ [⟨.own, 26, [.int .i64 s.life, a, b, .int .i64 s.waste, .int .i64 s.lost]⟩] := ⟨_, rfl⟩
  have o1 : OwnB M0 m.length 26 [.int .i64 s.life, a, b, .int .i64 s.waste, .int .i64 s.lost] := by rw [hM0]; exact OwnB.here (by simp [roM_len])
  rw [← hM0] at hX ⊢
  refine callH_rc (l9Two_rc _ _ vt s T (ShA.mk (hX.ints ha) (hX.ints hb)) (TabA.xt hT hX)) ?_
  rintro r n1 ⟨rfl, nr1⟩
  replace hX := hX.app nr1
  replace o1 := o1.ext n1
  obtain ⟨M1, hM1⟩ : ∃ M1, M1 = M0 ++ n1 := ⟨_, rfl⟩
  rw [← hM1] at hX o1 ⊢
  unfold wastA
  cases h2 : two9 s T with
  | false =>
    simp (config := {implicitDefEqProofs := false, maxDischargeDepth := 20}) (disch := first | omega | (simp only [lenE]; done) | (simp only [lenE]; omega) | rfl | (simp only [lenE, markR_len]; done) | (simp only [lenE, markR_len]; omega)) only [runE, mapE, listE, initT_5, initT_6, initT_7, initT_8, resV, oneV, binA, unA, reduceCtorEq, Nat.reduceEqDiff, Nat.reduceAdd, Nat.reduceLT, Nat.reduceLeDiff, Nat.reduceMul, Nat.reduceSub, ↓reduceIte, decide_true, decide_false, Bool.true_eq_false, Bool.false_eq_true, Bool.not_true, Bool.not_false, if_true, if_false, and_true, true_and, memE, celE, w64, Nat.zero_add, Nat.add_zero, Nat.mul_one, putL, and_self, ldn, bsl_no]
    exact ext_noInts (f := fun v => .tuple #[v, .bool false]) hX rfl
  | true =>
    have hI := iss_of h2
    simp (config := {implicitDefEqProofs := false, maxDischargeDepth := 20}) (disch := first | omega | (simp only [lenE]; done) | (simp only [lenE]; omega) | rfl | (simp only [lenE, markR_len]; done) | (simp only [lenE, markR_len]; omega)) only [runE, mapE, listE, initT_5, initT_6, initT_7, initT_8, resV, oneV, binA, unA, reduceCtorEq, Nat.reduceEqDiff, Nat.reduceAdd, Nat.reduceLT, Nat.reduceLeDiff, Nat.reduceMul, Nat.reduceSub, ↓reduceIte, decide_true, decide_false, Bool.true_eq_false, Bool.false_eq_true, Bool.not_true, Bool.not_false, if_true, if_false, and_true, true_and, memE, celE, w64, Nat.zero_add, Nat.add_zero, Nat.mul_one, putL, and_self, ldn, o1.rd]
    refine callH_rc (l9Wasted_rc _ _ vt s T (ShA.mk (hX.ints ha) (hX.ints hb)) (TabA.xt hT hX) hI) ?_
    rintro r n2 ⟨nr2, w, rfl, hw⟩
    simp (config := {implicitDefEqProofs := false, maxDischargeDepth := 20}) (disch := first | omega | (simp only [lenE]; done) | (simp only [lenE]; omega) | rfl | (simp only [lenE, markR_len]; done) | (simp only [lenE, markR_len]; omega)) only [runE, mapE, listE, initT_5, initT_6, initT_7, initT_8, resV, oneV, binA, unA, reduceCtorEq, Nat.reduceEqDiff, Nat.reduceAdd, Nat.reduceLT, Nat.reduceLeDiff, Nat.reduceMul, Nat.reduceSub, ↓reduceIte, decide_true, decide_false, Bool.true_eq_false, Bool.false_eq_true, Bool.not_true, Bool.not_false, if_true, if_false, and_true, true_and, memE, celE, w64, Nat.zero_add, Nat.add_zero, Nat.mul_one, putL, and_self, ldn]
    exact Ext.pass (f := fun v => .tuple #[v, .bool true]) hX nr2 (IntsO.wide _) hw
theorem implWasted_pre (m : Mem) (v vt : Value) (s : Sh) (T : List (List Int)) (h : ShA m v s) (hT : TabA m vt T) :
    RC Try.prog 14 [v, vt] m fun r new => AnsO m (IntsO (wastA s T)) (fun v => .tuple #[v, .bool (two9 s T)]) r new ∨ ((two9 s T = false) ∧ NoRo new ∧ r = .tuple #[.slice none 0 0, .bool (two9 s T)]) := by
  refine rc_of_run mixed ok_impl_WastedUnits (by simp) (go_start _ _ _ ?_)
  obtain ⟨a, b, rfl, ha, hb⟩ := h.ro
  have hX := (Ext.refl m).one 26 [.int .i64 s.life, a, b, .int .i64 s.waste, .int .i64 s.lost]
  simp (config := {implicitDefEqProofs := false, maxDischargeDepth := 20}) (disch := first | omega | (simp only [lenE]; done) | (simp only [lenE]; omega) | rfl | (simp only [lenE, markR_len]; done) | (simp only [lenE, markR_len]; omega)) only [runE, mapE, listE, initT_5, initT_6, initT_7, initT_8, resV, oneV, binA, unA, reduceCtorEq, Nat.reduceEqDiff, Nat.reduceAdd, Nat.reduceLT, Nat.reduceLeDiff, Nat.reduceMul, Nat.reduceSub, ↓reduceIte, decide_true, decide_false, Bool.true_eq_false, Bool.false_eq_true, Bool.not_true, Bool.not_false, if_true, if_false, and_true, true_and, memE, celE, w64, Nat.zero_add, Nat.add_zero, Nat.mul_one, putL, and_self, ldn, c_impl_WastedUnits, r_impl_WastedUnits]
  obtain ⟨M0, hM0⟩ : ∃ M0, M0 = roM m ++ [⟨.own, 26, [.int .i64 s.life, a, b, .int .i64 s.waste, .int .i64 s.lost]⟩] := ⟨_, rfl⟩
  have hl0 : M0.length = m.length + 1 := by rw [hM0]; simp [roM_len]
  rw [← hM0] at hX ⊢
  refine callH_rc (leftOf_rc _ _ vt s T (ShA.mk (hX.ints ha) (hX.ints hb)) (TabA.xt hT hX)) ?_
  rintro r n2 ⟨nr2, ⟨hb1, rfl⟩ | ⟨hb1, w, rfl, ia, ib, fa, fb, hne, ga, gb, rfl, oa, ob⟩⟩
  · simp (config := {implicitDefEqProofs := false, maxDischargeDepth := 20}) (disch := first | omega | (simp only [lenE]; done) | (simp only [lenE]; omega) | rfl | (simp only [lenE, markR_len]; done) | (simp only [lenE, markR_len]; omega)) only [runE, mapE, listE, initT_5, initT_6, initT_7, initT_8, resV, oneV, binA, unA, reduceCtorEq, Nat.reduceEqDiff, Nat.reduceAdd, Nat.reduceLT, Nat.reduceLeDiff, Nat.reduceMul, Nat.reduceSub, ↓reduceIte, decide_true, decide_false, Bool.true_eq_false, Bool.false_eq_true, Bool.not_true, Bool.not_false, if_true, if_false, and_true, true_and, memE, celE, w64, Nat.zero_add, Nat.add_zero, Nat.mul_one, putL, and_self, ldn, ext_2_0, ext_2_1, noShV, stP_agg5']
    obtain ⟨n0, e0, nr0⟩ := (hX.app nr2).one 26 [.int .i64 0, .slice none 0 0, .slice none 0 0, .int .i64 0, .int .i64 0]
    rw [e0]
    refine ⟨n0, rfl, nr0, .inr ⟨hb1, nr0, ?_⟩⟩
    rw [hb1]
  · have hI := iss_of hb1
    have hl := hI.l
    have n8 := hI.g.n8
    have la := oa.lt
    have lb := ob.lt
    simp (config := {implicitDefEqProofs := false, maxDischargeDepth := 20}) (disch := first | omega | (simp only [lenE]; done) | (simp only [lenE]; omega) | rfl | (simp only [lenE, markR_len]; done) | (simp only [lenE, markR_len]; omega)) only [runE, mapE, listE, initT_5, initT_6, initT_7, initT_8, resV, oneV, binA, unA, reduceCtorEq, Nat.reduceEqDiff, Nat.reduceAdd, Nat.reduceLT, Nat.reduceLeDiff, Nat.reduceMul, Nat.reduceSub, ↓reduceIte, decide_true, decide_false, Bool.true_eq_false, Bool.false_eq_true, Bool.not_true, Bool.not_false, if_true, if_false, and_true, true_and, memE, celE, w64, Nat.zero_add, Nat.add_zero, Nat.mul_one, putL, and_self, ldn, ext_2_0, ext_2_1, stP_agg5']
    rw [hb1]
    have hX2 := (hX.app nr2).one 26 [.int .i64 s.life, .slice (some ⟨ia, 0, none⟩) (leftArr s T T.length).length fa, .slice (some ⟨ib, 0, none⟩) (leftNeed s T T.length).length fb, .int .i64 s.waste, .int .i64 s.lost]
    have hq : newQ m (AnsO m (IntsO (wastA s T)) (fun v => .tuple #[v, .bool true])) (.tuple #[.slice (some ⟨ia, 0, none⟩) (leftArr s T T.length).length fa, .bool true]) (M0 ++ n2 ++ [⟨.own, 26, [.int .i64 s.life, .slice (some ⟨ia, 0, none⟩) (leftArr s T T.length).length fa, .slice (some ⟨ib, 0, none⟩) (leftNeed s T T.length).length fb, .int .i64 s.waste, .int .i64 s.lost]⟩]) := by
      unfold wastA
      rw [hb1, if_pos rfl]
      refine ext_ansO (f := fun v => .tuple #[v, .bool true]) hX2 fun M' hM => ?_
      have hlt : ia < (M0 ++ n2 ++ [⟨.own, 26, [.int .i64 s.life, .slice (some ⟨ia, 0, none⟩) (leftArr s T T.length).length fa, .slice (some ⟨ib, 0, none⟩) (leftNeed s T T.length).length fb, .int .i64 s.waste, .int .i64 s.lost]⟩] : Mem).length := by rw [List.length_append]; omega
      exact IntsA.ownO ((oa.ext _).at_ (hM _ (by omega) hlt)) (by rw [leftArr_len]; omega) (by omega) hlt
    obtain ⟨n0, e0, nr0, q⟩ := hq
    exact ⟨n0, e0, nr0, .inl q⟩
theorem implWasted_rc (m : Mem) (v vt : Value) (s : Sh) (T : List (List Int)) (h : ShA m v s) (hT : TabA m vt T) :
    RC Try.prog 14 [v, vt] m (AnsO m (IntsO (wastA s T)) fun v => .tuple #[v, .bool (two9 s T)]) := by
  refine rc_nilRow9 (implWasted_pre m v vt s T h hT) fun new hp hn => ?_
  unfold wastA
  rw [hp]
  exact nilRow_ans hn
theorem sum_bd9 {l : List Int} (h : ∀ x ∈ l, 0 ≤ x ∧ x ≤ 20) (k : Nat) (hk : k ≤ 8) : 0 ≤ sumTo l k ∧ sumTo l k ≤ 160 := by
  have := sumTo_bound (by omega) h k
  omega
theorem mul_bd9 {x y : Int} (h : 0 ≤ x ∧ x ≤ 20) (g : 0 ≤ y ∧ y ≤ 160) : 0 ≤ x * y ∧ x * y ≤ 3200 := by
  refine ⟨Int.mul_nonneg h.1 g.1, ?_⟩
  have h1 : x * y ≤ 20 * y := Int.mul_le_mul_of_nonneg_right h.2 g.1
  omega
theorem specShelfCost_rc (m : Mem) (v vt : Value) (s : Sh) (T : List (List Int)) (h : ShA m v s) (hT : TabA m vt T) :
    RC Try.prog 11 [v, vt] m (AnsV (.tuple #[.int .i64 (cost9A s T), .bool (two9 s T)])) := by
  refine rc_of_run mixed ok_spec_ShelfCost (by simp) (go_start _ _ _ ?_)
  obtain ⟨a, b, rfl, ha, hb⟩ := h.ro
  have hX := (Ext.refl m).one 26 [.int .i64 s.life, a, b, .int .i64 s.waste, .int .i64 s.lost]
  simp (config := {implicitDefEqProofs := false, maxDischargeDepth := 20}) (disch := first | omega | (simp only [lenE]; done) | (simp only [lenE]; omega) | rfl | (simp only [lenE, markR_len]; done) | (simp only [lenE, markR_len]; omega)) only [runE, mapE, listE, initT_5, initT_6, initT_7, initT_8, resV, oneV, binA, unA, reduceCtorEq, Nat.reduceEqDiff, Nat.reduceAdd, Nat.reduceLT, Nat.reduceLeDiff, Nat.reduceMul, Nat.reduceSub, ↓reduceIte, decide_true, decide_false, Bool.true_eq_false, Bool.false_eq_true, Bool.not_true, Bool.not_false, if_true, if_false, and_true, true_and, memE, celE, w64, Nat.zero_add, Nat.add_zero, Nat.mul_one, putL, and_self, ldn, c_spec_ShelfCost, r_spec_ShelfCost]
  obtain ⟨M0, hM0⟩ : ∃ M0, M0 = roM m ++ [⟨.own, 26, [.int .i64 s.life, a, b, .int .i64 s.waste, .int .i64 s.lost]⟩] := ⟨_, rfl⟩
  have o1 : OwnB M0 m.length 26 [.int .i64 s.life, a, b, .int .i64 s.waste, .int .i64 s.lost] := by rw [hM0]; exact OwnB.here (by simp [roM_len])
  rw [← hM0] at hX ⊢
  refine callH_rc (l9Two_rc _ _ vt s T (ShA.mk (hX.ints ha) (hX.ints hb)) (TabA.xt hT hX)) ?_
  rintro r n1 ⟨rfl, nr1⟩
  replace hX := hX.app nr1
  replace o1 := o1.ext n1
  obtain ⟨M1, hM1⟩ : ∃ M1, M1 = M0 ++ n1 := ⟨_, rfl⟩
  rw [← hM1] at hX o1 ⊢
  unfold cost9A
  cases h2 : two9 s T with
  | false =>
    simp (config := {implicitDefEqProofs := false, maxDischargeDepth := 20}) (disch := first | omega | (simp only [lenE]; done) | (simp only [lenE]; omega) | rfl | (simp only [lenE, markR_len]; done) | (simp only [lenE, markR_len]; omega)) only [runE, mapE, listE, initT_5, initT_6, initT_7, initT_8, resV, oneV, binA, unA, reduceCtorEq, Nat.reduceEqDiff, Nat.reduceAdd, Nat.reduceLT, Nat.reduceLeDiff, Nat.reduceMul, Nat.reduceSub, ↓reduceIte, decide_true, decide_false, Bool.true_eq_false, Bool.false_eq_true, Bool.not_true, Bool.not_false, if_true, if_false, and_true, true_and, memE, celE, w64, Nat.zero_add, Nat.add_zero, Nat.mul_one, putL, and_self, ldn]
    exact ext_ansV hX rfl
  | true =>
    have hI := iss_of h2
    have n8 := hI.g.n8
    have hl := hI.l
    have q1 := sum_bd9 hI.ln (leftNeed s T T.length).length (by rw [leftNeed_len]; exact n8)
    have q2 := sum_bd9 hI.la (leftArr s T T.length).length (by rw [leftArr_len]; exact n8)
    have p1 := mul_bd9 hI.g.l q1
    have p2 := mul_bd9 hI.g.w q2
    simp (config := {implicitDefEqProofs := false, maxDischargeDepth := 20}) (disch := first | omega | (simp only [lenE]; done) | (simp only [lenE]; omega) | rfl | (simp only [lenE, markR_len]; done) | (simp only [lenE, markR_len]; omega)) only [runE, mapE, listE, initT_5, initT_6, initT_7, initT_8, resV, oneV, binA, unA, reduceCtorEq, Nat.reduceEqDiff, Nat.reduceAdd, Nat.reduceLT, Nat.reduceLeDiff, Nat.reduceMul, Nat.reduceSub, ↓reduceIte, decide_true, decide_false, Bool.true_eq_false, Bool.false_eq_true, Bool.not_true, Bool.not_false, if_true, if_false, and_true, true_and, memE, celE, w64, Nat.zero_add, Nat.add_zero, Nat.mul_one, putL, and_self, ldn, o1.rd]
    refine rcallH_rc (l9Lost_rc _ _ vt s T (ShA.mk (hX.ints ha) (hX.ints hb)) (TabA.xt hT hX) hI) ?_
    rintro r n2 ⟨nr2, w, rfl, hw⟩
    replace hX := hX.app nr2
    replace o1 := o1.ext n2
    have hwi := hw.now.in
    obtain ⟨M2, hM2⟩ : ∃ M2, M2 = M1 ++ n2 := ⟨_, rfl⟩
    rw [← hM2] at hX o1 hwi ⊢
    simp (config := {implicitDefEqProofs := false, maxDischargeDepth := 20}) (disch := first | omega | (simp only [lenE]; done) | (simp only [lenE]; omega) | rfl | (simp only [lenE, markR_len]; done) | (simp only [lenE, markR_len]; omega)) only [runE, mapE, listE, initT_5, initT_6, initT_7, initT_8, resV, oneV, binA, unA, reduceCtorEq, Nat.reduceEqDiff, Nat.reduceAdd, Nat.reduceLT, Nat.reduceLeDiff, Nat.reduceMul, Nat.reduceSub, ↓reduceIte, decide_true, decide_false, Bool.true_eq_false, Bool.false_eq_true, Bool.not_true, Bool.not_false, if_true, if_false, and_true, true_and, memE, celE, w64, Nat.zero_add, Nat.add_zero, Nat.mul_one, putL, and_self, ldn, o1.rd]
    refine rcallH_rc (l2Sum_rc _ _ _ hwi (fun j hj => by have := sum_bd9 hI.ln j (by rw [leftNeed_len] at hj; omega); omega)) ?_
    rintro r new ⟨rfl, rfl⟩
    simp (config := {implicitDefEqProofs := false, maxDischargeDepth := 20}) (disch := first | omega | (simp only [lenE]; done) | (simp only [lenE]; omega) | rfl | (simp only [lenE, markR_len]; done) | (simp only [lenE, markR_len]; omega)) only [runE, mapE, listE, initT_5, initT_6, initT_7, initT_8, resV, oneV, binA, unA, reduceCtorEq, Nat.reduceEqDiff, Nat.reduceAdd, Nat.reduceLT, Nat.reduceLeDiff, Nat.reduceMul, Nat.reduceSub, ↓reduceIte, decide_true, decide_false, Bool.true_eq_false, Bool.false_eq_true, Bool.not_true, Bool.not_false, if_true, if_false, and_true, true_and, memE, celE, w64, Nat.zero_add, Nat.add_zero, Nat.mul_one, putL, and_self, ldn, o1.rd]
    refine rcallH_rc (l9Wasted_rc _ _ vt s T (ShA.mk (hX.ints ha) (hX.ints hb)) (TabA.xt hT hX) hI) ?_
    rintro r n3 ⟨nr3, w3, rfl, hw3⟩
    replace hX := hX.app nr3
    have hwi3 := hw3.now.in
    simp (config := {implicitDefEqProofs := false, maxDischargeDepth := 20}) (disch := first | omega | (simp only [lenE]; done) | (simp only [lenE]; omega) | rfl | (simp only [lenE, markR_len]; done) | (simp only [lenE, markR_len]; omega)) only [runE, mapE, listE, initT_5, initT_6, initT_7, initT_8, resV, oneV, binA, unA, reduceCtorEq, Nat.reduceEqDiff, Nat.reduceAdd, Nat.reduceLT, Nat.reduceLeDiff, Nat.reduceMul, Nat.reduceSub, ↓reduceIte, decide_true, decide_false, Bool.true_eq_false, Bool.false_eq_true, Bool.not_true, Bool.not_false, if_true, if_false, and_true, true_and, memE, celE, w64, Nat.zero_add, Nat.add_zero, Nat.mul_one, putL, and_self, ldn]
    refine rcallH_rc (l2Sum_rc _ _ _ hwi3 (fun j hj => by have := sum_bd9 hI.la j (by rw [leftArr_len] at hj; omega); omega)) ?_
    rintro r new ⟨rfl, rfl⟩
    simp (config := {implicitDefEqProofs := false, maxDischargeDepth := 20}) (disch := first | omega | (simp only [lenE]; done) | (simp only [lenE]; omega) | rfl | (simp only [lenE, markR_len]; done) | (simp only [lenE, markR_len]; omega)) only [runE, mapE, listE, initT_5, initT_6, initT_7, initT_8, resV, oneV, binA, unA, reduceCtorEq, Nat.reduceEqDiff, Nat.reduceAdd, Nat.reduceLT, Nat.reduceLeDiff, Nat.reduceMul, Nat.reduceSub, ↓reduceIte, decide_true, decide_false, Bool.true_eq_false, Bool.false_eq_true, Bool.not_true, Bool.not_false, if_true, if_false, and_true, true_and, memE, celE, w64, Nat.zero_add, Nat.add_zero, Nat.mul_one, putL, and_self, ldn]
    refine ext_ansV hX ?_
    rw [sumTo_all (Nat.le_refl _), sumTo_all (Nat.le_refl _)]
    try rfl
theorem implShelfCost_rc (m : Mem) (v vt : Value) (s : Sh) (T : List (List Int)) (h : ShA m v s) (hT : TabA m vt T) :
    RC Try.prog 10 [v, vt] m (AnsV (.tuple #[.int .i64 (cost9A s T), .bool (two9 s T)])) := by
  refine rc_of_run mixed ok_impl_ShelfCost (by simp) (go_start _ _ _ ?_)
  obtain ⟨a, b, rfl, ha, hb⟩ := h.ro
  have hX := (Ext.refl m).one 26 [.int .i64 s.life, a, b, .int .i64 s.waste, .int .i64 s.lost]
  simp (config := {implicitDefEqProofs := false, maxDischargeDepth := 20}) (disch := first | omega | (simp only [lenE]; done) | (simp only [lenE]; omega) | rfl | (simp only [lenE, markR_len]; done) | (simp only [lenE, markR_len]; omega)) only [runE, mapE, listE, initT_5, initT_6, initT_7, initT_8, resV, oneV, binA, unA, reduceCtorEq, Nat.reduceEqDiff, Nat.reduceAdd, Nat.reduceLT, Nat.reduceLeDiff, Nat.reduceMul, Nat.reduceSub, ↓reduceIte, decide_true, decide_false, Bool.true_eq_false, Bool.false_eq_true, Bool.not_true, Bool.not_false, if_true, if_false, and_true, true_and, memE, celE, w64, Nat.zero_add, Nat.add_zero, Nat.mul_one, putL, and_self, ldn, c_impl_ShelfCost, r_impl_ShelfCost]
  obtain ⟨M0, hM0⟩ : ∃ M0, M0 = roM m ++ [⟨.own, 26, [.int .i64 s.life, a, b, .int .i64 s.waste, .int .i64 s.lost]⟩] := ⟨_, rfl⟩
  have hl0 : M0.length = m.length + 1 := by rw [hM0]; simp [roM_len]
  rw [← hM0] at hX ⊢
  refine callH_rc (leftOf_rc _ _ vt s T (ShA.mk (hX.ints ha) (hX.ints hb)) (TabA.xt hT hX)) ?_
  unfold cost9A
  rintro r n2 ⟨nr2, ⟨hb1, rfl⟩ | ⟨hb1, w, rfl, ia, ib, fa, fb, hne, ga, gb, rfl, oa, ob⟩⟩
  · have nil : ∀ M, IntsA M (.slice none 0 0) [] := fun M => IntsA.nil M
    simp (config := {implicitDefEqProofs := false, maxDischargeDepth := 20}) (disch := first | omega | (simp only [lenE]; done) | (simp only [lenE]; omega) | rfl | (simp only [lenE, markR_len]; done) | (simp only [lenE, markR_len]; omega)) only [runE, mapE, listE, initT_5, initT_6, initT_7, initT_8, resV, oneV, binA, unA, reduceCtorEq, Nat.reduceEqDiff, Nat.reduceAdd, Nat.reduceLT, Nat.reduceLeDiff, Nat.reduceMul, Nat.reduceSub, ↓reduceIte, decide_true, decide_false, Bool.true_eq_false, Bool.false_eq_true, Bool.not_true, Bool.not_false, if_true, if_false, and_true, true_and, memE, celE, w64, Nat.zero_add, Nat.add_zero, Nat.mul_one, putL, and_self, ldn, ext_2_0, ext_2_1, noShV, stP_agg5']
    refine rcallH_rc (sumOf_rc _ _ [] (nil _) (fun j hj => by simp [sumTo])) ?_
    rintro r new ⟨rfl, rfl⟩
    simp (config := {implicitDefEqProofs := false, maxDischargeDepth := 20}) (disch := first | omega | (simp only [lenE]; done) | (simp only [lenE]; omega) | rfl | (simp only [lenE, markR_len]; done) | (simp only [lenE, markR_len]; omega)) only [runE, mapE, listE, initT_5, initT_6, initT_7, initT_8, resV, oneV, binA, unA, reduceCtorEq, Nat.reduceEqDiff, Nat.reduceAdd, Nat.reduceLT, Nat.reduceLeDiff, Nat.reduceMul, Nat.reduceSub, ↓reduceIte, decide_true, decide_false, Bool.true_eq_false, Bool.false_eq_true, Bool.not_true, Bool.not_false, if_true, if_false, and_true, true_and, memE, celE, w64, Nat.zero_add, Nat.add_zero, Nat.mul_one, putL, and_self, ldn, show sumTo [] ([] : List Int).length = 0 from rfl]
    refine rcallH_rc (sumOf_rc _ _ [] (nil _) (fun j hj => by simp [sumTo])) ?_
    rintro r new ⟨rfl, rfl⟩
    simp (config := {implicitDefEqProofs := false, maxDischargeDepth := 20}) (disch := first | omega | (simp only [lenE]; done) | (simp only [lenE]; omega) | rfl | (simp only [lenE, markR_len]; done) | (simp only [lenE, markR_len]; omega)) only [runE, mapE, listE, initT_5, initT_6, initT_7, initT_8, resV, oneV, binA, unA, reduceCtorEq, Nat.reduceEqDiff, Nat.reduceAdd, Nat.reduceLT, Nat.reduceLeDiff, Nat.reduceMul, Nat.reduceSub, ↓reduceIte, decide_true, decide_false, Bool.true_eq_false, Bool.false_eq_true, Bool.not_true, Bool.not_false, if_true, if_false, and_true, true_and, memE, celE, w64, Nat.zero_add, Nat.add_zero, Nat.mul_one, putL, and_self, ldn, show sumTo [] ([] : List Int).length = 0 from rfl]
    exact ext_ansV ((hX.app nr2).one _ _) (by rw [hb1]; rfl)
  · have hI := iss_of hb1
    have hl := hI.l
    have n8 := hI.g.n8
    have q1 := sum_bd9 hI.ln (leftNeed s T T.length).length (by rw [leftNeed_len]; exact n8)
    have q2 := sum_bd9 hI.la (leftArr s T T.length).length (by rw [leftArr_len]; exact n8)
    have p1 := mul_bd9 hI.g.l q1
    have p2 := mul_bd9 hI.g.w q2
    have ia1 := oa.ints (by rw [leftArr_len]; omega) fa
    have ib1 := ob.ints (by rw [leftNeed_len]; omega) fb
    simp (config := {implicitDefEqProofs := false, maxDischargeDepth := 20}) (disch := first | omega | (simp only [lenE]; done) | (simp only [lenE]; omega) | rfl | (simp only [lenE, markR_len]; done) | (simp only [lenE, markR_len]; omega)) only [runE, mapE, listE, initT_5, initT_6, initT_7, initT_8, resV, oneV, binA, unA, reduceCtorEq, Nat.reduceEqDiff, Nat.reduceAdd, Nat.reduceLT, Nat.reduceLeDiff, Nat.reduceMul, Nat.reduceSub, ↓reduceIte, decide_true, decide_false, Bool.true_eq_false, Bool.false_eq_true, Bool.not_true, Bool.not_false, if_true, if_false, and_true, true_and, memE, celE, w64, Nat.zero_add, Nat.add_zero, Nat.mul_one, putL, and_self, ldn, ext_2_0, ext_2_1, stP_agg5']
    refine rcallH_rc (sumOf_rc _ _ _ (ib1.ext _) (fun j hj => by have := sum_bd9 hI.ln j (by rw [leftNeed_len] at hj; omega); omega)) ?_
    rintro r new ⟨rfl, rfl⟩
    simp (config := {implicitDefEqProofs := false, maxDischargeDepth := 20}) (disch := first | omega | (simp only [lenE]; done) | (simp only [lenE]; omega) | rfl | (simp only [lenE, markR_len]; done) | (simp only [lenE, markR_len]; omega)) only [runE, mapE, listE, initT_5, initT_6, initT_7, initT_8, resV, oneV, binA, unA, reduceCtorEq, Nat.reduceEqDiff, Nat.reduceAdd, Nat.reduceLT, Nat.reduceLeDiff, Nat.reduceMul, Nat.reduceSub, ↓reduceIte, decide_true, decide_false, Bool.true_eq_false, Bool.false_eq_true, Bool.not_true, Bool.not_false, if_true, if_false, and_true, true_and, memE, celE, w64, Nat.zero_add, Nat.add_zero, Nat.mul_one, putL, and_self, ldn]
    refine rcallH_rc (sumOf_rc _ _ _ (ia1.ext _) (fun j hj => by have := sum_bd9 hI.la j (by rw [leftArr_len] at hj; omega); omega)) ?_
    rintro r new ⟨rfl, rfl⟩
    simp (config := {implicitDefEqProofs := false, maxDischargeDepth := 20}) (disch := first | omega | (simp only [lenE]; done) | (simp only [lenE]; omega) | rfl | (simp only [lenE, markR_len]; done) | (simp only [lenE, markR_len]; omega)) only [runE, mapE, listE, initT_5, initT_6, initT_7, initT_8, resV, oneV, binA, unA, reduceCtorEq, Nat.reduceEqDiff, Nat.reduceAdd, Nat.reduceLT, Nat.reduceLeDiff, Nat.reduceMul, Nat.reduceSub, ↓reduceIte, decide_true, decide_false, Bool.true_eq_false, Bool.false_eq_true, Bool.not_true, Bool.not_false, if_true, if_false, and_true, true_and, memE, celE, w64, Nat.zero_add, Nat.add_zero, Nat.mul_one, putL, and_self, ldn]
    refine ext_ansV ((hX.app nr2).one _ _) ?_
    rw [sumTo_all (Nat.le_refl _), sumTo_all (Nat.le_refl _), hb1]
    try rfl
end Go.Proofs.Ytdgfbmilbhckiaa.Ab
end
section
namespace Go.Proofs.Ytdgfbmilbhckiaa.Ab
open Go Go.RowKit
set_option linter.unusedVariables false
set_option linter.unusedSimpArgs false
def ageTo (s : Sh) (T : List (List Int)) (t k : Nat) : List Int := (List.range k).map fun age => if t < age then 0 else s.arr.getD (t - age) 0 - colT T (t - age) (t + 1)
theorem ageTo_len (s : Sh) (T : List (List Int)) (t k : Nat) : (ageTo s T t k).length = k := by simp [ageTo]
def AgeAt (s : Sh) (T : List (List Int)) (t L k : Nat) (W : List Int) : Prop := W.length = L ∧ ∀ i, i < L → W.getD i 0 = if i < k then s.arr.getD (t - i) 0 - colT T (t - i) (t + 1) else 0
theorem AgeAt.zero (s : Sh) (T : List (List Int)) (t L : Nat) : AgeAt s T t L 0 (List.replicate L 0) := by
  refine ⟨by simp, fun i hi => ?_⟩
  rw [if_neg (by omega), List.getD_eq_getElem?_getD, List.getElem?_replicate, if_pos hi]; rfl
theorem AgeAt.next {s : Sh} {T : List (List Int)} {t L k : Nat} {W : List Int} (h : AgeAt s T t L k W) (hk : k < L) (hk2 : k ≤ t) : AgeAt s T t L (k + 1) (W.set k (s.arr.getD (t - k) 0 - colT T (t - k) (t + 1))) := by
  have hl := h.1
  refine ⟨by rw [List.length_set]; exact hl, fun i hi => ?_⟩
  rw [setD9 (by omega)]
  by_cases e : i = k
  · subst e; rw [if_pos rfl, if_pos (by omega)]
  · rw [if_neg e, h.2 i hi]
    by_cases e2 : i < k
    · rw [if_pos e2, if_pos (by omega)]
    · rw [if_neg e2, if_neg (by omega)]
theorem AgeAt.done {s : Sh} {T : List (List Int)} {t L k : Nat} {W : List Int} (h : AgeAt s T t L k W) (hk : L ≤ k ∨ t + 1 ≤ k) (hk2 : k ≤ t + 1) : W = ageTo s T t L := by
  refine extD9 h.1 (ageTo_len _ _ _ _) fun i hi => ?_
  rw [h.2 i hi, ageTo, mapD9 hi]
  by_cases e : t < i
  · rw [if_pos e]
    by_cases e2 : i < k
    · rw [if_pos e2]
      exact absurd e2 (by omega)
    · rw [if_neg e2]
  · rw [if_neg e, if_pos (by omega)]
end Go.Proofs.Ytdgfbmilbhckiaa.Ab
end
section
namespace Go.Proofs.Ytdgfbmilbhckiaa.Ab
open Go Go.RowKit
set_option linter.unusedVariables false
set_option linter.unusedSimpArgs false
theorem isNaN_rc (m : Mem) (x : Int) : RC Try.prog 123 [.int .i64 x] m fun r new => r = .bool false ∧ new = [] := by
  refine rc_of_run mixed ok_cmp_isNaN (by simp) (go_start _ _ _ ?_)
  simp (config := {implicitDefEqProofs := false, maxDischargeDepth := 20}) (disch := first | omega | (simp only [lenE]; done) | (simp only [lenE]; omega) | rfl | (simp only [lenE, markR_len]; done) | (simp only [lenE, markR_len]; omega)) only [runE, mapE, listE, initT_5, initT_6, initT_7, initT_8, resV, oneV, binA, unA, reduceCtorEq, Nat.reduceEqDiff, Nat.reduceAdd, Nat.reduceLT, Nat.reduceLeDiff, Nat.reduceMul, Nat.reduceSub, ↓reduceIte, decide_true, decide_false, Bool.true_eq_false, Bool.false_eq_true, Bool.not_true, Bool.not_false, if_true, if_false, and_true, true_and, memE, celE, w64, Nat.zero_add, Nat.add_zero, Nat.mul_one, putL, and_self, ldn, c_cmp_isNaN, r_cmp_isNaN, bne_self_eq_false]
  exact newQ_nil ⟨rfl, rfl⟩
def cmpI (a b : Int) : Int := if a < b then -1 else if b < a then 1 else 0
theorem cmpI_rc (m : Mem) (a b : Int) : RC Try.prog 113 [.int .i64 a, .int .i64 b] m fun r new => r = .int .i64 (cmpI a b) ∧ new = [] := by
  refine rc_of_run mixed ok_cmp_Compare (by simp) (go_start _ _ _ ?_)
  simp (config := {implicitDefEqProofs := false, maxDischargeDepth := 20}) (disch := first | omega | (simp only [lenE]; done) | (simp only [lenE]; omega) | rfl | (simp only [lenE, markR_len]; done) | (simp only [lenE, markR_len]; omega)) only [runE, mapE, listE, initT_5, initT_6, initT_7, initT_8, resV, oneV, binA, unA, reduceCtorEq, Nat.reduceEqDiff, Nat.reduceAdd, Nat.reduceLT, Nat.reduceLeDiff, Nat.reduceMul, Nat.reduceSub, ↓reduceIte, decide_true, decide_false, Bool.true_eq_false, Bool.false_eq_true, Bool.not_true, Bool.not_false, if_true, if_false, and_true, true_and, memE, celE, w64, Nat.zero_add, Nat.add_zero, Nat.mul_one, putL, and_self, ldn, c_cmp_Compare, r_cmp_Compare]
  refine callH_rc (isNaN_rc _ a) ?_
  rintro r new ⟨rfl, rfl⟩
  simp (config := {implicitDefEqProofs := false, maxDischargeDepth := 20}) (disch := first | omega | (simp only [lenE]; done) | (simp only [lenE]; omega) | rfl | (simp only [lenE, markR_len]; done) | (simp only [lenE, markR_len]; omega)) only [runE, mapE, listE, initT_5, initT_6, initT_7, initT_8, resV, oneV, binA, unA, reduceCtorEq, Nat.reduceEqDiff, Nat.reduceAdd, Nat.reduceLT, Nat.reduceLeDiff, Nat.reduceMul, Nat.reduceSub, ↓reduceIte, decide_true, decide_false, Bool.true_eq_false, Bool.false_eq_true, Bool.not_true, Bool.not_false, if_true, if_false, and_true, true_and, memE, celE, w64, Nat.zero_add, Nat.add_zero, Nat.mul_one, putL, and_self, ldn]
  refine callH_rc (isNaN_rc _ b) ?_
  rintro r new ⟨rfl, rfl⟩
  unfold cmpI
  by_cases h1 : a < b
  · simp (config := {implicitDefEqProofs := false, maxDischargeDepth := 20}) (disch := first | omega | (simp only [lenE]; done) | (simp only [lenE]; omega) | rfl | (simp only [lenE, markR_len]; done) | (simp only [lenE, markR_len]; omega)) only [runE, mapE, listE, initT_5, initT_6, initT_7, initT_8, resV, oneV, binA, unA, reduceCtorEq, Nat.reduceEqDiff, Nat.reduceAdd, Nat.reduceLT, Nat.reduceLeDiff, Nat.reduceMul, Nat.reduceSub, ↓reduceIte, decide_true, decide_false, Bool.true_eq_false, Bool.false_eq_true, Bool.not_true, Bool.not_false, if_true, if_false, and_true, true_and, memE, celE, w64, Nat.zero_add, Nat.add_zero, Nat.mul_one, putL, and_self, ldn, h1]
    exact newQ_nil ⟨rfl, rfl⟩
  · by_cases h2 : b < a
    · simp (config := {implicitDefEqProofs := false, maxDischargeDepth := 20}) (disch := first | omega | (simp only [lenE]; done) | (simp only [lenE]; omega) | rfl | (simp only [lenE, markR_len]; done) | (simp only [lenE, markR_len]; omega)) only [runE, mapE, listE, initT_5, initT_6, initT_7, initT_8, resV, oneV, binA, unA, reduceCtorEq, Nat.reduceEqDiff, Nat.reduceAdd, Nat.reduceLT, Nat.reduceLeDiff, Nat.reduceMul, Nat.reduceSub, ↓reduceIte, decide_true, decide_false, Bool.true_eq_false, Bool.false_eq_true, Bool.not_true, Bool.not_false, if_true, if_false, and_true, true_and, memE, celE, w64, Nat.zero_add, Nat.add_zero, Nat.mul_one, putL, and_self, ldn, h1, gt_iff_lt, h2]
      exact newQ_nil ⟨rfl, rfl⟩
    · simp (config := {implicitDefEqProofs := false, maxDischargeDepth := 20}) (disch := first | omega | (simp only [lenE]; done) | (simp only [lenE]; omega) | rfl | (simp only [lenE, markR_len]; done) | (simp only [lenE, markR_len]; omega)) only [runE, mapE, listE, initT_5, initT_6, initT_7, initT_8, resV, oneV, binA, unA, reduceCtorEq, Nat.reduceEqDiff, Nat.reduceAdd, Nat.reduceLT, Nat.reduceLeDiff, Nat.reduceMul, Nat.reduceSub, ↓reduceIte, decide_true, decide_false, Bool.true_eq_false, Bool.false_eq_true, Bool.not_true, Bool.not_false, if_true, if_false, and_true, true_and, memE, celE, w64, Nat.zero_add, Nat.add_zero, Nat.mul_one, putL, and_self, ldn, h1, gt_iff_lt, h2]
      exact newQ_nil ⟨rfl, rfl⟩
def cmpL : List Int → List Int → Int
  | [], [] => 0
  | [], _ :: _ => -1
  | _ :: _, [] => 1
  | x :: a, y :: b => if cmpI x y = 0 then cmpL a b else cmpI x y
theorem cmpL_drop {a b : List Int} {i : Nat} (ha : i < a.length) (hb : i < b.length) : cmpL (a.drop i) (b.drop i) = if cmpI (a.getD i 0) (b.getD i 0) = 0 then cmpL (a.drop (i + 1)) (b.drop (i + 1)) else cmpI (a.getD i 0) (b.getD i 0) := by
  rw [List.drop_eq_getElem_cons ha, List.drop_eq_getElem_cons hb, cmpL]
  simp [List.getD_eq_getElem?_getD, ha, hb]
theorem slCompare_rc (m : Mem) (v u : Value) (a b : List Int) (h : IntsA m v a) (h' : IntsA m u b) :
    RC Try.prog 114 [v, u] m (AnsV (.int .i64 (cmpL a b))) := by
  refine rc_of_run mixed ok_slices_Compare (by simp) (go_start _ _ _ ?_)
  have hv := h.ro
  have hu := h'.ro
  have hbd := hv.bd
  simp (config := {implicitDefEqProofs := false, maxDischargeDepth := 20}) (disch := first | omega | (simp only [lenE]; done) | (simp only [lenE]; omega) | rfl | (simp only [lenE, markR_len]; done) | (simp only [lenE, markR_len]; omega)) only [runE, mapE, listE, initT_5, initT_6, initT_7, initT_8, resV, oneV, binA, unA, reduceCtorEq, Nat.reduceEqDiff, Nat.reduceAdd, Nat.reduceLT, Nat.reduceLeDiff, Nat.reduceMul, Nat.reduceSub, ↓reduceIte, decide_true, decide_false, Bool.true_eq_false, Bool.false_eq_true, Bool.not_true, Bool.not_false, if_true, if_false, and_true, true_and, memE, celE, w64, Nat.zero_add, Nat.add_zero, Nat.mul_one, putL, and_self, ldn, c_slices_Compare, r_slices_Compare, hv.len]
  refine loop_inv mixed (fun s => ∃ i : Nat, i ≤ a.length ∧ i ≤ b.length ∧ cmpL a b = cmpL (a.drop i) (b.drop i) ∧ s.t 0 = v ∧ s.t 1 = u ∧ s.t 9 = v ∧ s.t 10 = .int .i64 a.length ∧ s.t 11 = .int .i64 i ∧ s.m = roM m) (fun s => a.length - (intOf (s.t 11)).toNat)
    ⟨0, by omega, by omega, rfl, rfl, rfl, rfl, rfl, rfl, rfl⟩ ?_
  rintro s ⟨i, hk, hk2, he, t0, t1, t9, t10, t11, tm⟩
  by_cases hlt : i < a.length
  · have hlt' : (i : Int) < a.length := by omega
    by_cases hlb : i < b.length
    · have hlb' : ¬ ((b.length : Int) ≤ i) := by omega
      rw [cmpL_drop hlt hlb] at he
      simp (config := {implicitDefEqProofs := false, maxDischargeDepth := 20}) (disch := first | omega | (simp only [lenE]; done) | (simp only [lenE]; omega) | rfl | (simp only [lenE, markR_len]; done) | (simp only [lenE, markR_len]; omega)) only [runE, mapE, listE, initT_5, initT_6, initT_7, initT_8, resV, oneV, binA, unA, reduceCtorEq, Nat.reduceEqDiff, Nat.reduceAdd, Nat.reduceLT, Nat.reduceLeDiff, Nat.reduceMul, Nat.reduceSub, ↓reduceIte, decide_true, decide_false, Bool.true_eq_false, Bool.false_eq_true, Bool.not_true, Bool.not_false, if_true, if_false, and_true, true_and, memE, celE, w64, Nat.zero_add, Nat.add_zero, Nat.mul_one, putL, and_self, ldn, t0, t1, t9, t10, t11, tm, hlt', hv.at_ i hlt, hv.ld i hlt, hu.len, ge_iff_le, hlb', hu.at_ i hlb, hu.ld i hlb]
      refine callH_rc (cmpI_rc _ (a.getD i 0) (b.getD i 0)) ?_
      rintro r new ⟨rfl, rfl⟩
      by_cases hq : cmpI (a.getD i 0) (b.getD i 0) = 0
      · have hq' : (cmpI (a.getD i 0) (b.getD i 0) != 0) = false := by rw [hq]; rfl
        rw [if_pos hq] at he
        simp (config := {implicitDefEqProofs := false, maxDischargeDepth := 20}) (disch := first | omega | (simp only [lenE]; done) | (simp only [lenE]; omega) | rfl | (simp only [lenE, markR_len]; done) | (simp only [lenE, markR_len]; omega)) only [runE, mapE, listE, initT_5, initT_6, initT_7, initT_8, resV, oneV, binA, unA, reduceCtorEq, Nat.reduceEqDiff, Nat.reduceAdd, Nat.reduceLT, Nat.reduceLeDiff, Nat.reduceMul, Nat.reduceSub, ↓reduceIte, decide_true, decide_false, Bool.true_eq_false, Bool.false_eq_true, Bool.not_true, Bool.not_false, if_true, if_false, and_true, true_and, memE, celE, w64, Nat.zero_add, Nat.add_zero, Nat.mul_one, putL, and_self, ldn, t0, t1, t9, t10, t11, tm, hq']
        exact ⟨⟨i + 1, by omega, by omega, he, by simp⟩, by simp [intOf]; omega⟩
      · have hq' : (cmpI (a.getD i 0) (b.getD i 0) != 0) = true := by simpa using hq
        rw [if_neg hq] at he
        simp (config := {implicitDefEqProofs := false, maxDischargeDepth := 20}) (disch := first | omega | (simp only [lenE]; done) | (simp only [lenE]; omega) | rfl | (simp only [lenE, markR_len]; done) | (simp only [lenE, markR_len]; omega)) only [runE, mapE, listE, initT_5, initT_6, initT_7, initT_8, resV, oneV, binA, unA, reduceCtorEq, Nat.reduceEqDiff, Nat.reduceAdd, Nat.reduceLT, Nat.reduceLeDiff, Nat.reduceMul, Nat.reduceSub, ↓reduceIte, decide_true, decide_false, Bool.true_eq_false, Bool.false_eq_true, Bool.not_true, Bool.not_false, if_true, if_false, and_true, true_and, memE, celE, w64, Nat.zero_add, Nat.add_zero, Nat.mul_one, putL, and_self, ldn, t0, t1, t9, t10, t11, tm, hq']
        rw [he]
        exact ext_ansV (Ext.refl m) rfl
    · have hlb' : (b.length : Int) ≤ i := by omega
      have e : cmpL (a.drop i) (b.drop i) = 1 := by
        rw [show b.drop i = [] from List.drop_eq_nil_of_le (by omega), List.drop_eq_getElem_cons hlt]; rfl
      simp (config := {implicitDefEqProofs := false, maxDischargeDepth := 20}) (disch := first | omega | (simp only [lenE]; done) | (simp only [lenE]; omega) | rfl | (simp only [lenE, markR_len]; done) | (simp only [lenE, markR_len]; omega)) only [runE, mapE, listE, initT_5, initT_6, initT_7, initT_8, resV, oneV, binA, unA, reduceCtorEq, Nat.reduceEqDiff, Nat.reduceAdd, Nat.reduceLT, Nat.reduceLeDiff, Nat.reduceMul, Nat.reduceSub, ↓reduceIte, decide_true, decide_false, Bool.true_eq_false, Bool.false_eq_true, Bool.not_true, Bool.not_false, if_true, if_false, and_true, true_and, memE, celE, w64, Nat.zero_add, Nat.add_zero, Nat.mul_one, putL, and_self, ldn, t0, t1, t9, t10, t11, tm, hlt', hv.at_ i hlt, hv.ld i hlt, hu.len, ge_iff_le, hlb']
      rw [he, e]
      exact ext_ansV (Ext.refl m) rfl
  · have hlt' : ¬ ((i : Int) < a.length) := by omega
    have e : i = a.length := by omega
    by_cases hlb : a.length < b.length
    · have hlb' : (a.length : Int) < b.length := by omega
      have e2 : cmpL (a.drop i) (b.drop i) = -1 := by
        rw [e, List.drop_length, List.drop_eq_getElem_cons hlb]; rfl
      simp (config := {implicitDefEqProofs := false, maxDischargeDepth := 20}) (disch := first | omega | (simp only [lenE]; done) | (simp only [lenE]; omega) | rfl | (simp only [lenE, markR_len]; done) | (simp only [lenE, markR_len]; omega)) only [runE, mapE, listE, initT_5, initT_6, initT_7, initT_8, resV, oneV, binA, unA, reduceCtorEq, Nat.reduceEqDiff, Nat.reduceAdd, Nat.reduceLT, Nat.reduceLeDiff, Nat.reduceMul, Nat.reduceSub, ↓reduceIte, decide_true, decide_false, Bool.true_eq_false, Bool.false_eq_true, Bool.not_true, Bool.not_false, if_true, if_false, and_true, true_and, memE, celE, w64, Nat.zero_add, Nat.add_zero, Nat.mul_one, putL, and_self, ldn, t0, t1, t9, t10, t11, tm, hlt', hv.len, hu.len, hlb']
      rw [he, e2]
      exact ext_ansV (Ext.refl m) rfl
    · have hlb' : ¬ ((a.length : Int) < b.length) := by omega
      have e2 : cmpL (a.drop i) (b.drop i) = 0 := by
        rw [e, List.drop_length, show b.drop a.length = [] from List.drop_eq_nil_of_le (by omega)]; rfl
      simp (config := {implicitDefEqProofs := false, maxDischargeDepth := 20}) (disch := first | omega | (simp only [lenE]; done) | (simp only [lenE]; omega) | rfl | (simp only [lenE, markR_len]; done) | (simp only [lenE, markR_len]; omega)) only [runE, mapE, listE, initT_5, initT_6, initT_7, initT_8, resV, oneV, binA, unA, reduceCtorEq, Nat.reduceEqDiff, Nat.reduceAdd, Nat.reduceLT, Nat.reduceLeDiff, Nat.reduceMul, Nat.reduceSub, ↓reduceIte, decide_true, decide_false, Bool.true_eq_false, Bool.false_eq_true, Bool.not_true, Bool.not_false, if_true, if_false, and_true, true_and, memE, celE, w64, Nat.zero_add, Nat.add_zero, Nat.mul_one, putL, and_self, ldn, t0, t1, t9, t10, t11, tm, hlt', hv.len, hu.len, hlb']
      rw [he, e2]
      exact ext_ansV (Ext.refl m) rfl
def orL : List Int → Int
  | [] => 0
  | x :: l => if x = 0 then orL l else x
theorem orL_drop {a : List Int} {i : Nat} (ha : i < a.length) : orL (a.drop i) = if a.getD i 0 = 0 then orL (a.drop (i + 1)) else a.getD i 0 := by
  rw [List.drop_eq_getElem_cons ha, orL]
  simp [List.getD_eq_getElem?_getD, ha]
theorem cmpOr_rc (m : Mem) (v : Value) (a : List Int) (h : IntsA m v a) : RC Try.prog 112 [v] m (AnsV (.int .i64 (orL a))) := by
  refine rc_of_run mixed ok_cmp_Or (by simp) (go_start _ _ _ ?_)
  have hv := h.ro
  have hbd := hv.bd
  simp (config := {implicitDefEqProofs := false, maxDischargeDepth := 20}) (disch := first | omega | (simp only [lenE]; done) | (simp only [lenE]; omega) | rfl | (simp only [lenE, markR_len]; done) | (simp only [lenE, markR_len]; omega)) only [runE, mapE, listE, initT_5, initT_6, initT_7, initT_8, resV, oneV, binA, unA, reduceCtorEq, Nat.reduceEqDiff, Nat.reduceAdd, Nat.reduceLT, Nat.reduceLeDiff, Nat.reduceMul, Nat.reduceSub, ↓reduceIte, decide_true, decide_false, Bool.true_eq_false, Bool.false_eq_true, Bool.not_true, Bool.not_false, if_true, if_false, and_true, true_and, memE, celE, w64, Nat.zero_add, Nat.add_zero, Nat.mul_one, putL, and_self, ldn, c_cmp_Or, r_cmp_Or, hv.len]
  refine loop_inv mixed (fun s => ∃ i : Nat, i ≤ a.length ∧ orL a = orL (a.drop i) ∧ s.t 3 = .int .i64 0 ∧ s.t 6 = v ∧ s.t 7 = .int .i64 a.length ∧ s.t 8 = .int .i64 i ∧ s.m = roM m) (fun s => a.length - (intOf (s.t 8)).toNat)
    ⟨0, by omega, rfl, rfl, rfl, rfl, rfl, rfl⟩ ?_
  rintro s ⟨i, hk, he, t3, t6, t7, t8, tm⟩
  by_cases hlt : i < a.length
  · have hlt' : (i : Int) < a.length := by omega
    rw [orL_drop hlt] at he
    by_cases hq : a.getD i 0 = 0
    · have hq' : (a.getD i 0 != 0) = false := by rw [hq]; rfl
      rw [if_pos hq] at he
      simp (config := {implicitDefEqProofs := false, maxDischargeDepth := 20}) (disch := first | omega | (simp only [lenE]; done) | (simp only [lenE]; omega) | rfl | (simp only [lenE, markR_len]; done) | (simp only [lenE, markR_len]; omega)) only [runE, mapE, listE, initT_5, initT_6, initT_7, initT_8, resV, oneV, binA, unA, reduceCtorEq, Nat.reduceEqDiff, Nat.reduceAdd, Nat.reduceLT, Nat.reduceLeDiff, Nat.reduceMul, Nat.reduceSub, ↓reduceIte, decide_true, decide_false, Bool.true_eq_false, Bool.false_eq_true, Bool.not_true, Bool.not_false, if_true, if_false, and_true, true_and, memE, celE, w64, Nat.zero_add, Nat.add_zero, Nat.mul_one, putL, and_self, ldn, t3, t6, t7, t8, tm, hlt', hv.at_ i hlt, hv.ld i hlt, hq']
      exact ⟨⟨i + 1, by omega, he, by simp⟩, by simp [intOf]; omega⟩
    · have hq' : (a.getD i 0 != 0) = true := by simpa using hq
      rw [if_neg hq] at he
      simp (config := {implicitDefEqProofs := false, maxDischargeDepth := 20}) (disch := first | omega | (simp only [lenE]; done) | (simp only [lenE]; omega) | rfl | (simp only [lenE, markR_len]; done) | (simp only [lenE, markR_len]; omega)) only [runE, mapE, listE, initT_5, initT_6, initT_7, initT_8, resV, oneV, binA, unA, reduceCtorEq, Nat.reduceEqDiff, Nat.reduceAdd, Nat.reduceLT, Nat.reduceLeDiff, Nat.reduceMul, Nat.reduceSub, ↓reduceIte, decide_true, decide_false, Bool.true_eq_false, Bool.false_eq_true, Bool.not_true, Bool.not_false, if_true, if_false, and_true, true_and, memE, celE, w64, Nat.zero_add, Nat.add_zero, Nat.mul_one, putL, and_self, ldn, t3, t6, t7, t8, tm, hlt', hv.at_ i hlt, hv.ld i hlt, hq']
      rw [he]
      exact ext_ansV (Ext.refl m) rfl
  · have hlt' : ¬ ((i : Int) < a.length) := by omega
    have e : i = a.length := by omega
    rw [e, List.drop_length] at he
    simp (config := {implicitDefEqProofs := false, maxDischargeDepth := 20}) (disch := first | omega | (simp only [lenE]; done) | (simp only [lenE]; omega) | rfl | (simp only [lenE, markR_len]; done) | (simp only [lenE, markR_len]; omega)) only [runE, mapE, listE, initT_5, initT_6, initT_7, initT_8, resV, oneV, binA, unA, reduceCtorEq, Nat.reduceEqDiff, Nat.reduceAdd, Nat.reduceLT, Nat.reduceLeDiff, Nat.reduceMul, Nat.reduceSub, ↓reduceIte, decide_true, decide_false, Bool.true_eq_false, Bool.false_eq_true, Bool.not_true, Bool.not_false, if_true, if_false, and_true, true_and, memE, celE, w64, Nat.zero_add, Nat.add_zero, Nat.mul_one, putL, and_self, ldn, t3, t6, t7, t8, tm, hlt']
    rw [he]
    exact ext_ansV (Ext.refl m) rfl
theorem cmpL_lex : ∀ {a b : List Int}, a.length = b.length → decide (cmpL a b < 0) = lexB a b := by
  intro a
  induction a with
  | nil => intro b h; cases b with
    | nil => rfl
    | cons y b => simp at h
  | cons x a ih =>
    intro b h
    cases b with
    | nil => simp at h
    | cons y b =>
      rw [cmpL, lexB]
      unfold cmpI
      by_cases e : x = y
      · subst e
        simp only [Int.lt_irrefl, if_false, if_true]
        exact ih (by simpa using h)
      · rw [if_neg e]
        by_cases h1 : x < y
        · simp [h1]
        · have h2 : y < x := by omega
          simp [h1, h2]
theorem or_bef (c1 c2 : Int) (l1 l2 : List Int) : decide (orL [cmpI c1 c2, cmpI l1.length l2.length, cmpL l1 l2] < 0) = bef (c1, l1) (c2, l2) := by
  unfold bef beforeB
  simp only [orL]
  unfold cmpI
  by_cases e : c1 = c2
  · subst e
    simp only [Int.lt_irrefl, if_false, if_true]
    by_cases e2 : l1.length = l2.length
    · rw [if_pos e2, ← cmpL_lex e2, e2]
      simp only [Int.lt_irrefl, if_false, if_true]
      by_cases h0 : cmpL l1 l2 = 0
      · rw [h0]; simp
      · rw [if_neg h0]
    · rw [if_neg e2]
      by_cases h1 : l1.length < l2.length
      · have h1' : (l1.length : Int) < l2.length := by omega
        simp [h1]
      · have h2 : l2.length < l1.length := by omega
        simp [h1, h2]
  · rw [if_neg e]
    by_cases h1 : c1 < c2
    · simp [h1]
    · have h2 : c2 < c1 := by omega
      simp [h1, h2]
theorem comesBefore_rc (m : Mem) (c1 c2 : Int) (v u : Value) (a b : List Int) (h : IntsA m v a) (h' : IntsA m u b) :
    RC Try.prog 99 [.agg #[.int .i64 c1, v], .agg #[.int .i64 c2, u]] m (AnsV (.bool (bef (c1, a) (c2, b)))) := by
  refine rc_of_run mixed ok_impl_comesBefore (by simp) (go_start _ _ _ ?_)
  have hv := h.ro
  have hu := h'.ro
  have l1 := hv.len
  have l2 := hu.len
  simp (config := {implicitDefEqProofs := false, maxDischargeDepth := 20}) (disch := first | omega | (simp only [lenE]; done) | (simp only [lenE]; omega) | rfl | (simp only [lenE, markR_len]; done) | (simp only [lenE, markR_len]; omega)) only [runE, mapE, listE, initT_5, initT_6, initT_7, initT_8, resV, oneV, binA, unA, reduceCtorEq, Nat.reduceEqDiff, Nat.reduceAdd, Nat.reduceLT, Nat.reduceLeDiff, Nat.reduceMul, Nat.reduceSub, ↓reduceIte, decide_true, decide_false, Bool.true_eq_false, Bool.false_eq_true, Bool.not_true, Bool.not_false, if_true, if_false, and_true, true_and, memE, celE, w64, Nat.zero_add, Nat.add_zero, Nat.mul_one, putL, and_self, ldn, c_impl_comesBefore, r_impl_comesBefore, l1, l2]
  refine rcallH_rc (cmpI_rc _ c1 c2) ?_
  rintro r new ⟨rfl, rfl⟩
  simp (config := {implicitDefEqProofs := false, maxDischargeDepth := 20}) (disch := first | omega | (simp only [lenE]; done) | (simp only [lenE]; omega) | rfl | (simp only [lenE, markR_len]; done) | (simp only [lenE, markR_len]; omega)) only [runE, mapE, listE, initT_5, initT_6, initT_7, initT_8, resV, oneV, binA, unA, reduceCtorEq, Nat.reduceEqDiff, Nat.reduceAdd, Nat.reduceLT, Nat.reduceLeDiff, Nat.reduceMul, Nat.reduceSub, ↓reduceIte, decide_true, decide_false, Bool.true_eq_false, Bool.false_eq_true, Bool.not_true, Bool.not_false, if_true, if_false, and_true, true_and, memE, celE, w64, Nat.zero_add, Nat.add_zero, Nat.mul_one, putL, and_self, ldn]
  refine rcallH_rc (cmpI_rc _ (a.length : Int) (b.length : Int)) ?_
  rintro r new ⟨rfl, rfl⟩
  simp (config := {implicitDefEqProofs := false, maxDischargeDepth := 20}) (disch := first | omega | (simp only [lenE]; done) | (simp only [lenE]; omega) | rfl | (simp only [lenE, markR_len]; done) | (simp only [lenE, markR_len]; omega)) only [runE, mapE, listE, initT_5, initT_6, initT_7, initT_8, resV, oneV, binA, unA, reduceCtorEq, Nat.reduceEqDiff, Nat.reduceAdd, Nat.reduceLT, Nat.reduceLeDiff, Nat.reduceMul, Nat.reduceSub, ↓reduceIte, decide_true, decide_false, Bool.true_eq_false, Bool.false_eq_true, Bool.not_true, Bool.not_false, if_true, if_false, and_true, true_and, memE, celE, w64, Nat.zero_add, Nat.add_zero, Nat.mul_one, putL, and_self, ldn]
  refine rcallH_rc (slCompare_rc _ v u a b ((hv.ext _).ext _) ((hu.ext _).ext _)) ?_
  rintro r new ⟨rfl, nr⟩
  have b3 : ∀ (M : Mem) (x y z : Int), bslA M 3 1 3 [.int .i64 0, .int .i64 0, .int .i64 0] [(0, 1, .int .i64 x), (1, 1, .int .i64 y), (2, 1, .int .i64 z)] = some (.slice (some ⟨M.length, 0, none⟩) 3 1, M ++ [⟨.own, 3, [x, y, z].map (Value.int .i64)⟩]) := fun M x y z => rfl
  simp (config := {implicitDefEqProofs := false, maxDischargeDepth := 20}) (disch := first | omega | (simp only [lenE]; done) | (simp only [lenE]; omega) | rfl | (simp only [lenE, markR_len]; done) | (simp only [lenE, markR_len]; omega)) only [runE, mapE, listE, initT_5, initT_6, initT_7, initT_8, resV, oneV, binA, unA, reduceCtorEq, Nat.reduceEqDiff, Nat.reduceAdd, Nat.reduceLT, Nat.reduceLeDiff, Nat.reduceMul, Nat.reduceSub, ↓reduceIte, decide_true, decide_false, Bool.true_eq_false, Bool.false_eq_true, Bool.not_true, Bool.not_false, if_true, if_false, and_true, true_and, memE, celE, w64, Nat.zero_add, Nat.add_zero, Nat.mul_one, putL, and_self, ldn, b3]
  have o3 := fun M : Mem => OwnR.at_end M [cmpI c1 c2, cmpI (a.length : Int) (b.length : Int), cmpL a b]
  refine rcallH_rc (cmpOr_rc _ _ [cmpI c1 c2, cmpI (a.length : Int) (b.length : Int), cmpL a b] ((OwnR.end' (l := [cmpI c1 c2, cmpI (a.length : Int) (b.length : Int), cmpL a b]) (by simp [roM_len]; omega)).ints (by simp) 1)) ?_
  rintro r new2 ⟨rfl, nr2⟩
  simp (config := {implicitDefEqProofs := false, maxDischargeDepth := 20}) (disch := first | omega | (simp only [lenE]; done) | (simp only [lenE]; omega) | rfl | (simp only [lenE, markR_len]; done) | (simp only [lenE, markR_len]; omega)) only [runE, mapE, listE, initT_5, initT_6, initT_7, initT_8, resV, oneV, binA, unA, reduceCtorEq, Nat.reduceEqDiff, Nat.reduceAdd, Nat.reduceLT, Nat.reduceLeDiff, Nat.reduceMul, Nat.reduceSub, ↓reduceIte, decide_true, decide_false, Bool.true_eq_false, Bool.false_eq_true, Bool.not_true, Bool.not_false, if_true, if_false, and_true, true_and, memE, celE, w64, Nat.zero_add, Nat.add_zero, Nat.mul_one, putL, and_self, ldn]
  rw [or_bef]
  exact ext_ansV ((((((Ext.refl m).one _ _).one _ _).app nr).one _ _).app nr2) rfl
end Go.Proofs.Ytdgfbmilbhckiaa.Ab
end
section
namespace Go.Proofs.Ytdgfbmilbhckiaa.Ab
open Go Go.RowKit
set_option linter.unusedVariables false
set_option linter.unusedSimpArgs false
theorem wrapU (x : Int) (h : 0 ≤ x ∧ x ≤ 18446744073709551615) : IntKind.u64.wrap x = x := IntWalk.u64_in x ⟨h.1, by omega⟩
theorem FnOk.fn9 {P : Program} {f : FuncId} {n : Nat} {c : ACode} {res : List ARes} (hf : FnOk P f n c res) : ∃ fn, P.funcs[f]? = some fn ∧ (fn.name == "runtime.NumGoroutine") = false ∧ fn.body.isNone = false := by
  obtain ⟨fn, C, hfn, hname, hb, _⟩ := hf.ok
  exact ⟨fn, hfn, hname, by rw [hb]; rfl⟩
theorem rc_plain9 {P : Program} {f : FuncId} {args : List Value} {m : Mem} {v : Value} (hf : ∃ fn, P.funcs[f]? = some fn ∧ (fn.name == "runtime.NumGoroutine") = false ∧ fn.body.isNone = false) (hv : ∀ ρ, VR ρ v v)
    (H : ∀ (ρ : Places) (w : World) (cargs : List Value), MRel w w.heap.size ρ (roM m) w → VL ρ args cargs → Calls P f cargs.toArray w (fun e w' => e = .returned v ∧ Below w.heap.size w w')) : RC P f args m fun r new => r = v ∧ new = [] :=
  ⟨hf, fun ρ w cargs hm ha => (H ρ w cargs hm ha).mono fun e w' ⟨he, hb⟩ => ⟨v, v, [], [], he, ⟨rfl, rfl⟩, noRo_nil, by simpa using hm.keep hb, by simpa using hv ρ⟩⟩
theorem len_bits : ∀ c : Fin 256, c.val < 2 ^ Lib.bitLen c.val ∧ Lib.bitLen c.val ≤ 8 := by decide +kernel
theorem bitsLen_rc (m : Mem) (c : Nat) : c < 256 → RC Try.prog 111 [.int .u64 (c : Int)] m fun r new => r = .int .i64 ((Lib.bitLen c : Nat) : Int) ∧ new = [] := by
  intro hc
  refine rc_plain9 ok_math_bits_Len.fn9 (fun ρ => .int _ _) fun ρ w cargs hm ha => ?_
  obtain ⟨hl, hp⟩ := ha
  match cargs, hl with
  | [y], _ =>
    have hy := hp 0 (.int .u64 (c : Int)) y rfl rfl
    cases hy
    refine (Try.bits_Len (c : Int) w (by omega) (by omega)).mono ?_
    rintro e w' ⟨rfl, rfl⟩
    exact ⟨by rw [Int.toNat_natCast], Below.refl _ _⟩
theorem allPeriods_rc (m : Mem) (n : Nat) (hn : n ≤ 8) : RC Try.prog 97 [.int .i64 (n : Int)] m fun r new => r = .int .u64 ((2 ^ n - 1 : Nat) : Int) ∧ new = [] := by
  refine rc_of_run mixed ok_impl_allPeriods (by simp) (go_start _ _ _ ?_)
  have hn0 : ¬ ((n : Int) < 0) := by omega
  simp (config := {implicitDefEqProofs := false, maxDischargeDepth := 20}) (disch := first | omega | (simp only [lenE]; done) | (simp only [lenE]; omega) | rfl | (simp only [lenE, markR_len]; done) | (simp only [lenE, markR_len]; omega)) only [runE, mapE, listE, initT_5, initT_6, initT_7, initT_8, resV, oneV, binA, unA, reduceCtorEq, Nat.reduceEqDiff, Nat.reduceAdd, Nat.reduceLT, Nat.reduceLeDiff, Nat.reduceMul, Nat.reduceSub, ↓reduceIte, decide_true, decide_false, Bool.true_eq_false, Bool.false_eq_true, Bool.not_true, Bool.not_false, if_true, if_false, and_true, true_and, memE, celE, w64, Nat.zero_add, Nat.add_zero, Nat.mul_one, putL, and_self, ldn, c_impl_allPeriods, r_impl_allPeriods, hn0]
  have e1 : min ((n : Nat) : Int).toNat IntKind.u64.bits = n := by
    have : IntKind.u64.bits = 64 := rfl
    rw [this]; omega
  have h2 : 2 ^ n ≤ 2 ^ 8 := Nat.pow_le_pow_right (by omega) hn
  have h1 : 1 ≤ 2 ^ n := Nat.one_le_two_pow
  have e2 : (2 : Int) ^ n = ((2 ^ n : Nat) : Int) := by simp
  obtain ⟨N, hN⟩ : ∃ N : Nat, N = 2 ^ n := ⟨_, rfl⟩
  rw [e1, Int.one_mul, e2]
  rw [← hN] at h2 h1 ⊢
  rw [wrapU (N : Int) ⟨by omega, by omega⟩, wrapU ((N : Int) - 1) ⟨by omega, by omega⟩]
  exact newQ_nil ⟨by congr 1; omega, rfl⟩
theorem bitsL_stop {c L : Nat} (h : c < 2 ^ L) : ∀ k, bitsL c (L + k) = bitsL c L := by
  intro k
  induction k with
  | zero => rfl
  | succ k ih =>
    have h1 : c < 2 ^ (L + k) := Nat.lt_of_lt_of_le h (Nat.pow_le_pow_right (by omega) (by omega))
    have h2 : c / 2 ^ (L + k) = 0 := Nat.div_eq_of_lt h1
    rw [← Nat.add_assoc, bitsL, h2, if_neg (by simp), ih]
theorem bitsL_same {c L n : Nat} (h : c < 2 ^ L) (h' : c < 2 ^ n) : bitsL c L = bitsL c n := by
  rcases Nat.le_total L n with e | e
  · have := bitsL_stop h (n - L)
    rw [show L + (n - L) = n by omega] at this
    exact this.symm
  · have := bitsL_stop h' (L - n)
    rw [show n + (L - n) = L by omega] at this
    exact this
theorem and1U (x : Nat) (h : x ≤ 1000) : IntKind.wrap .u64 (((BitVec.ofInt IntKind.u64.bits (x : Int) &&& BitVec.ofInt IntKind.u64.bits 1).toNat : Nat) : Int) = ((x % 2 : Nat) : Int) := by
  rw [show ((BitVec.ofInt IntKind.u64.bits (x : Int) &&& BitVec.ofInt IntKind.u64.bits 1).toNat) = x % 2 from and1 x]
  exact wrapU _ ⟨by omega, by omega⟩
theorem shrU {c x : Nat} (h : x ≤ 63) : (c : Int).fdiv (2 ^ (min ((x : Nat) : Int).toNat IntKind.u64.bits)) = ((c / 2 ^ x : Nat) : Int) := shr_code h
theorem setList_rc (m : Mem) (n c : Nat) (hn : n ≤ 8) (hc : c < 2 ^ n) : RC Try.prog 98 [.int .u64 (c : Int)] m (AnsR m (bitsL c n)) := by
  refine rc_of_run mixed ok_impl_periodSet__list (by simp) (go_start _ _ _ ?_)
  have h28 : 2 ^ n ≤ 2 ^ 8 := Nat.pow_le_pow_right (by omega) hn
  have hc8 : c < 256 := by omega
  obtain ⟨hb1, hb2⟩ := len_bits ⟨c, hc8⟩
  obtain ⟨L, hL⟩ : ∃ L, L = Lib.bitLen c := ⟨_, rfl⟩
  simp only at hb1 hb2
  have K : ∀ m, RC Try.prog 111 [.int .u64 (c : Int)] m fun r new => r = .int .i64 (L : Int) ∧ new = [] := fun m => by rw [hL]; exact bitsLen_rc m c hc8
  rw [← hL] at hb1 hb2
  rw [bitsL_same hc hb1]
  simp (config := {implicitDefEqProofs := false, maxDischargeDepth := 20}) (disch := first | omega | (simp only [lenE]; done) | (simp only [lenE]; omega) | rfl | (simp only [lenE, markR_len]; done) | (simp only [lenE, markR_len]; omega)) only [runE, mapE, listE, initT_5, initT_6, initT_7, initT_8, resV, oneV, binA, unA, reduceCtorEq, Nat.reduceEqDiff, Nat.reduceAdd, Nat.reduceLT, Nat.reduceLeDiff, Nat.reduceMul, Nat.reduceSub, ↓reduceIte, decide_true, decide_false, Bool.true_eq_false, Bool.false_eq_true, Bool.not_true, Bool.not_false, if_true, if_false, and_true, true_and, memE, celE, w64, Nat.zero_add, Nat.add_zero, Nat.mul_one, putL, and_self, ldn, c_impl_periodSet__list, r_impl_periodSet__list, bsl_none]
  refine callH_rc (K _) ?_
  rintro r new ⟨rfl, rfl⟩
  simp (config := {implicitDefEqProofs := false, maxDischargeDepth := 20}) (disch := first | omega | (simp only [lenE]; done) | (simp only [lenE]; omega) | rfl | (simp only [lenE, markR_len]; done) | (simp only [lenE, markR_len]; omega)) only [runE, mapE, listE, initT_5, initT_6, initT_7, initT_8, resV, oneV, binA, unA, reduceCtorEq, Nat.reduceEqDiff, Nat.reduceAdd, Nat.reduceLT, Nat.reduceLeDiff, Nat.reduceMul, Nat.reduceSub, ↓reduceIte, decide_true, decide_false, Bool.true_eq_false, Bool.false_eq_true, Bool.not_true, Bool.not_false, if_true, if_false, and_true, true_and, memE, celE, w64, Nat.zero_add, Nat.add_zero, Nat.mul_one, putL, and_self, ldn]
  refine loop_inv mixed (fun s => ∃ (x : Nat) (M : Mem) (id : Nat), x ≤ L ∧ s.t 0 = .int .u64 (c : Int) ∧ s.t 3 = .slice (some ⟨id, 0, none⟩) (bitsL c x).length 1 ∧ s.t 7 = .int .i64 (L : Int) ∧ s.t 8 = .int .i64 x ∧ s.m = M ∧ Ext m M ∧ OwnR M id (bitsL c x) ∧ m.length ≤ id) (fun s => L - (intOf (s.t 8)).toNat)
    ⟨0, _, m.length, by omega, rfl, by simp only [put_t, put_t', put_m, putT_t, putT_t', putT_m, init_t, init_m, initT_0, initT_1, initT_2, initT_3, initT_4, initT_5, initT_6, initT_7, initT_8, Nat.reduceEqDiff, ↓reduceIte]; rfl, rfl, rfl, rfl, (Ext.refl m).one _ _, OwnR.end' (l := []) (by simp [roM_len]), Nat.le_refl _⟩ ?_
  rintro s ⟨x, M, id, hk, t0, t3, t7, t8, tm, hx, oM, lid⟩
  by_cases hlt : x < L
  · have hlt' : (x : Int) < L := by omega
    have hx0 : ¬ ((x : Int) < 0) := by omega
    have hd : c / 2 ^ x ≤ 1000 := Nat.le_trans (Nat.div_le_self _ _) (by omega)
    have bl := bitsL_len c x
    have aw := and1U (c / 2 ^ x) hd
    by_cases hb : c / 2 ^ x % 2 = 1
    · have hb' : (((c / 2 ^ x % 2 : Nat) : Int) == 1) = true := by rw [hb]; rfl
      simp (config := {implicitDefEqProofs := false, maxDischargeDepth := 20}) (disch := first | omega | (simp only [lenE]; done) | (simp only [lenE]; omega) | rfl | (simp only [lenE, markR_len]; done) | (simp only [lenE, markR_len]; omega)) only [runE, mapE, listE, initT_5, initT_6, initT_7, initT_8, resV, oneV, binA, unA, reduceCtorEq, Nat.reduceEqDiff, Nat.reduceAdd, Nat.reduceLT, Nat.reduceLeDiff, Nat.reduceMul, Nat.reduceSub, ↓reduceIte, decide_true, decide_false, Bool.true_eq_false, Bool.false_eq_true, Bool.not_true, Bool.not_false, if_true, if_false, and_true, true_and, memE, celE, w64, Nat.zero_add, Nat.add_zero, Nat.mul_one, putL, and_self, ldn, t0, t3, t7, t8, tm, hlt', hx0, shrU (c := c) (show x ≤ 63 by omega), aw, hb', bsl_one, app_gen oM (by omega)]
      refine ⟨⟨x + 1, _, M.length + 1, by omega, by rw [bitsL, if_pos hb]; simp, by simp, rfl, ((hx.dead lid).one _ _).one _ _, ?_, by have := hx.len; omega⟩, by simp [intOf]; omega⟩
      rw [bitsL, if_pos hb]
      have := OwnR.at_end (M.set id deadB ++ [⟨.own, 3, [.int .i64 (x : Int)]⟩]) (bitsL c x ++ [(x : Int)])
      simpa using this
    · have hb' : (((c / 2 ^ x % 2 : Nat) : Int) == 1) = false := by
        have : c / 2 ^ x % 2 = 0 := by omega
        rw [this]; rfl
      simp (config := {implicitDefEqProofs := false, maxDischargeDepth := 20}) (disch := first | omega | (simp only [lenE]; done) | (simp only [lenE]; omega) | rfl | (simp only [lenE, markR_len]; done) | (simp only [lenE, markR_len]; omega)) only [runE, mapE, listE, initT_5, initT_6, initT_7, initT_8, resV, oneV, binA, unA, reduceCtorEq, Nat.reduceEqDiff, Nat.reduceAdd, Nat.reduceLT, Nat.reduceLeDiff, Nat.reduceMul, Nat.reduceSub, ↓reduceIte, decide_true, decide_false, Bool.true_eq_false, Bool.false_eq_true, Bool.not_true, Bool.not_false, if_true, if_false, and_true, true_and, memE, celE, w64, Nat.zero_add, Nat.add_zero, Nat.mul_one, putL, and_self, ldn, t0, t3, t7, t8, tm, hlt', hx0, shrU (c := c) (show x ≤ 63 by omega), aw, hb']
      exact ⟨⟨x + 1, M, id, by omega, by rw [bitsL, if_neg hb], by simp, rfl, hx, by rw [bitsL, if_neg hb]; exact oM, lid⟩, by simp [intOf]; omega⟩
  · have hlt' : ¬ ((x : Int) < L) := by omega
    have e : x = L := by omega
    subst e
    have := bitsL_len c x
    simp (config := {implicitDefEqProofs := false, maxDischargeDepth := 20}) (disch := first | omega | (simp only [lenE]; done) | (simp only [lenE]; omega) | rfl | (simp only [lenE, markR_len]; done) | (simp only [lenE, markR_len]; omega)) only [runE, mapE, listE, initT_5, initT_6, initT_7, initT_8, resV, oneV, binA, unA, reduceCtorEq, Nat.reduceEqDiff, Nat.reduceAdd, Nat.reduceLT, Nat.reduceLeDiff, Nat.reduceMul, Nat.reduceSub, ↓reduceIte, decide_true, decide_false, Bool.true_eq_false, Bool.false_eq_true, Bool.not_true, Bool.not_false, if_true, if_false, and_true, true_and, memE, celE, w64, Nat.zero_add, Nat.add_zero, Nat.mul_one, putL, and_self, ldn, t0, t3, t7, t8, tm, hlt']
    exact ext_ansR hx oM (by omega) rfl (by omega)
def bestO (g : List Int → Option Int) (n : Nat) : Nat → Option (Int × List Int)
  | 0 => none
  | c + 1 => match g (bitsL c n) with
    | none => bestO g n c
    | some x => match bestO g n c with
      | none => some (x, bitsL c n)
      | some b => if bef (x, bitsL c n) b then some (x, bitsL c n) else some b
def bestV (b : Option (Int × List Int)) : Int × List Int := b.getD (9223372036854775807, [])
theorem bestO_no {g : List Int → Option Int} {n c : Nat} (h : g (bitsL c n) = none) : bestO g n (c + 1) = bestO g n c := by simp only [bestO, h]
theorem bestO_yes {g : List Int → Option Int} {n c : Nat} {x : Int} (h : g (bitsL c n) = some x) (hx : x < 9223372036854775807) : bestO g n (c + 1) = some (if bef (x, bitsL c n) (bestV (bestO g n c)) then (x, bitsL c n) else bestV (bestO g n c)) := by
  simp only [bestO, h]
  cases hb : bestO g n c with
  | none =>
    have : bef (x, bitsL c n) (bestV none) = true := by
      unfold bestV bef
      simp only [Option.getD_none]
      rw [if_neg (by omega)]
      exact decide_eq_true hx
    simp only [this, if_true]
  | some b =>
    simp only [bestV, Option.getD_some]
    by_cases e : bef (x, bitsL c n) b = true
    · simp [e]
    · simp [e]
theorem bestO_len (g : List Int → Option Int) (n : Nat) : ∀ c, (bestV (bestO g n c)).2.length ≤ n := by
  intro c
  induction c with
  | zero => simp [bestO, bestV]
  | succ c ih =>
    cases hg : g (bitsL c n) with
    | none => rw [bestO_no hg]; exact ih
    | some x =>
      simp only [bestO, hg]
      cases hb : bestO g n c with
      | none => simp only [bestV, Option.getD_some]; exact bitsL_len _ _
      | some b =>
        rw [hb] at ih
        simp only [bestV, Option.getD_some] at ih
        by_cases e : bef (x, bitsL c n) b = true
        · simp only [e, if_true, bestV, Option.getD_some]; exact bitsL_len _ _
        · simp only [Bool.not_eq_true] at e
          simp only [e, Bool.false_eq_true, if_false, bestV, Option.getD_some]; exact ih
def CostF (m : Mem) (fv : Value) (n : Nat) (g : List Int → Option Int) : Prop :=
  ∃ f cap, fv = .func (.func f) #[] cap ∧ ∀ (M : Mem) (u : Value) (c : Nat), Ext m M → c < 2 ^ n → IntsA M u (bitsL c n) → RC Try.prog f (u :: cap.toList) M (AnsV (.tuple #[.int .i64 ((g (bitsL c n)).getD 0), .bool (g (bitsL c n)).isSome]))
theorem bldL (x : Int) : bldA [.int .i64 0, .slice none 0 0] [(0, 1, .int .i64 x)] = some (.agg #[.int .i64 x, .slice none 0 0]) := rfl
theorem bldL2 (x : Int) (A : Option Addr) (n c : Nat) : bldA [.int .i64 0, .slice none 0 0] [(0, 1, .int .i64 x), (1, 1, .slice A n c)] = some (.agg #[.int .i64 x, .slice A n c]) := rfl
theorem stP_aggL2 (m : Mem) (id off : Nat) (u v : Value) : stP m 2 (.pointer (some ⟨id, off, none⟩)) (.agg #[u, v]) = stA m id off [u, v] := rfl
def ListV (p : Prop) (M : Mem) (k : Nat) (v : Value) (l : List Int) : Prop := (p ∧ v = .slice none 0 0 ∧ l = []) ∨ ∃ id fl, v = .slice (some ⟨id, 0, none⟩) l.length fl ∧ k < id ∧ OwnR M id l
theorem ListV.ints {p : Prop} {M : Mem} {k : Nat} {v : Value} {l : List Int} (h : ListV p M k v l) (hb : l.length ≤ 1000) : IntsA M v l := by
  rcases h with ⟨_, rfl, rfl⟩ | ⟨id, fl, rfl, _, ho⟩
  · exact IntsA.nil M
  · exact ho.ints (by omega) fl
theorem ListV.ext {p : Prop} {M : Mem} {k : Nat} {v : Value} {l : List Int} (h : ListV p M k v l) (new : Mem) : ListV p (M ++ new) k v l := by
  rcases h with ⟨hp, rfl, rfl⟩ | ⟨id, fl, rfl, hk, ho⟩
  · exact .inl ⟨hp, rfl, rfl⟩
  · exact .inr ⟨id, fl, rfl, hk, ho.ext new⟩
theorem ListV.set {p : Prop} {M : Mem} {k i : Nat} {v : Value} {l : List Int} (h : ListV p M k v l) (hi : i ≤ k) (b : Blk) : ListV p (M.set i b) k v l := by
  rcases h with ⟨hp, rfl, rfl⟩ | ⟨id, fl, rfl, hk, ho⟩
  · exact .inl ⟨hp, rfl, rfl⟩
  · exact .inr ⟨id, fl, rfl, hk, ho.set_ne (by omega)⟩
theorem ListV.one {p : Prop} {M : Mem} {k : Nat} {v : Value} {l : List Int} (h : ListV p M k v l) (xs : List Value) : onesB (v :: xs) = onesB xs := by
  rcases h with ⟨_, rfl, rfl⟩ | ⟨id, fl, rfl, hk, ho⟩ <;> rfl
def AnsBest (p : Prop) (m : Mem) (x : Int) (l : List Int) (r : Value) (new : Mem) : Prop := NoRo new ∧ ∃ v, r = .agg #[.int .i64 x, v] ∧ ListV p (m ++ new) m.length v l
theorem ext_best {p : Prop} {m M : Mem} {x : Int} {l : List Int} {v : Value} (h : Ext m M) (hv : ListV p M m.length v l) : newQ m (AnsBest p m x l) (.agg #[.int .i64 x, v]) M := by
  obtain ⟨n0, rfl, h0⟩ := h
  refine ⟨n0, rfl, h0, h0, v, rfl, ?_⟩
  rcases hv with ⟨hp, rfl, rfl⟩ | ⟨id, fl, rfl, hk, ho⟩
  · exact .inl ⟨hp, rfl, rfl⟩
  · exact .inr ⟨id, fl, rfl, hk, ho.at_ (by rw [List.getElem?_append_right (by omega), List.getElem?_append_right (by rw [roM_len]; omega), roM_len])⟩
theorem bestOfSets_rc (m : Mem) (fv : Value) (n : Nat) (g : List Int → Option Int) (hn : n ≤ 8) (hf : CostF m fv n g) (hg : ∀ c x, c < 2 ^ n → g (bitsL c n) = some x → x < 9223372036854775807) :
    RC Try.prog 57 [.int .i64 (n : Int), fv] m (AnsBest (bestO g n (2 ^ n) = none) m (bestV (bestO g n (2 ^ n))).1 (bestV (bestO g n (2 ^ n))).2) := by
  refine rc_of_run mixed ok_impl_bestOfSets (by simp) (go_start _ _ _ ?_)
  obtain ⟨f, cap, rfl, hC⟩ := hf
  have hX := ((Ext.refl m).one 70 [.int .i64 0, .slice none 0 0]).one 70 [.int .i64 9223372036854775807, .slice none 0 0]
  obtain ⟨M0, hM0⟩ : ∃ M0, M0 = roM m ++ [⟨.own, 70, [.int .i64 0, .slice none 0 0]⟩] ++ [⟨.own, 70, [.int .i64 9223372036854775807, .slice none 0 0]⟩] := ⟨_, rfl⟩
  have o1 : OwnB M0 m.length 70 [.int .i64 0, .slice none 0 0] := by rw [hM0]; exact (OwnB.here (by simp [roM_len])).ext _
  have o2 : OwnB M0 (m.length + 1) 70 [.int .i64 9223372036854775807, .slice none 0 0] := by rw [hM0]; exact OwnB.here (by simp [roM_len])
  have h28 : 2 ^ n ≤ 2 ^ 8 := Nat.pow_le_pow_right (by omega) hn
  have h1 : 1 ≤ 2 ^ n := Nat.one_le_two_pow
  obtain ⟨NN, hNN⟩ : ∃ NN, NN = 2 ^ n := ⟨_, rfl⟩
  rw [← hNN] at h28 h1 hC hg ⊢
  have KA := fun m' => allPeriods_rc m' n hn
  rw [← hNN] at KA
  have eN : ((NN - 1 : Nat) : Int) + 1 = (NN : Int) := by omega
  have wN : IntKind.u64.wrap (NN : Int) = (NN : Int) := wrapU _ ⟨by omega, by omega⟩
  simp (config := {implicitDefEqProofs := false, maxDischargeDepth := 20}) (disch := first | omega | (simp only [lenE]; done) | (simp only [lenE]; omega) | rfl | (simp only [lenE, markR_len]; done) | (simp only [lenE, markR_len]; omega)) only [runE, mapE, listE, initT_5, initT_6, initT_7, initT_8, resV, oneV, binA, unA, reduceCtorEq, Nat.reduceEqDiff, Nat.reduceAdd, Nat.reduceLT, Nat.reduceLeDiff, Nat.reduceMul, Nat.reduceSub, ↓reduceIte, decide_true, decide_false, Bool.true_eq_false, Bool.false_eq_true, Bool.not_true, Bool.not_false, if_true, if_false, and_true, true_and, memE, celE, w64, Nat.zero_add, Nat.add_zero, Nat.mul_one, putL, and_self, ldn, c_impl_bestOfSets, r_impl_bestOfSets, bldL, stP_aggL2]
  rw [← hM0] at hX ⊢
  refine callH_rc (KA _) ?_
  rintro r new ⟨rfl, rfl⟩
  rw [List.append_nil]
  simp (config := {implicitDefEqProofs := false, maxDischargeDepth := 20}) (disch := first | omega | (simp only [lenE]; done) | (simp only [lenE]; omega) | rfl | (simp only [lenE, markR_len]; done) | (simp only [lenE, markR_len]; omega)) only [runE, mapE, listE, initT_5, initT_6, initT_7, initT_8, resV, oneV, binA, unA, reduceCtorEq, Nat.reduceEqDiff, Nat.reduceAdd, Nat.reduceLT, Nat.reduceLeDiff, Nat.reduceMul, Nat.reduceSub, ↓reduceIte, decide_true, decide_false, Bool.true_eq_false, Bool.false_eq_true, Bool.not_true, Bool.not_false, if_true, if_false, and_true, true_and, memE, celE, w64, Nat.zero_add, Nat.add_zero, Nat.mul_one, putL, and_self, ldn, eN, wN]
  refine loop_inv mixed (fun s => ∃ (c : Nat) (M : Mem) (pv : Value), c ≤ NN ∧ s.m = M ∧ Ext m M ∧ OwnB M m.length 70 [.int .i64 0, .slice none 0 0] ∧ OwnB M (m.length + 1) 70 [.int .i64 (bestV (bestO g n c)).1, pv] ∧ ListV (bestO g n c = none) M (m.length + 1) pv (bestV (bestO g n c)).2 ∧
      s.t 1 = .func (.func f) #[] cap ∧ s.t 4 = .pointer (some ⟨m.length, 0, none⟩) ∧ s.t 5 = .pointer (some ⟨m.length + 1, 0, none⟩) ∧ s.t 14 = .int .u64 (NN : Int) ∧ s.t 15 = .int .u64 (c : Int)) (fun s => NN - (intOf (s.t 15)).toNat)
    ⟨0, M0, .slice none 0 0, by omega, (by first | rfl | simp only [put_t, put_t', put_m, putT_t, putT_t', putT_m, init_t, init_m, initT_0, initT_1, initT_2, initT_3, initT_4, initT_5, initT_6, initT_7, initT_8, Nat.reduceEqDiff, ↓reduceIte]), hX, o1, o2, .inl ⟨rfl, rfl, rfl⟩, rfl, rfl, rfl, rfl, rfl⟩ ?_
  clear hX o1 o2 hM0
  rintro s ⟨c, M, pv, hk, tm, hX, o1, o2, hL, t1, t4, t5, t14, t15⟩
  have bl := bestO_len g n c
  have hlm := o2.lt
  by_cases hlt : c < NN
  · have hlt' : (c : Int) < NN := by omega
    simp (config := {implicitDefEqProofs := false, maxDischargeDepth := 20}) (disch := first | omega | (simp only [lenE]; done) | (simp only [lenE]; omega) | rfl | (simp only [lenE, markR_len]; done) | (simp only [lenE, markR_len]; omega)) only [runE, mapE, listE, initT_5, initT_6, initT_7, initT_8, resV, oneV, binA, unA, reduceCtorEq, Nat.reduceEqDiff, Nat.reduceAdd, Nat.reduceLT, Nat.reduceLeDiff, Nat.reduceMul, Nat.reduceSub, ↓reduceIte, decide_true, decide_false, Bool.true_eq_false, Bool.false_eq_true, Bool.not_true, Bool.not_false, if_true, if_false, and_true, true_and, memE, celE, w64, Nat.zero_add, Nat.add_zero, Nat.mul_one, putL, and_self, ldn, tm, t1, t4, t5, t14, t15, hlt']
    refine callH_rc (setList_rc M n c hn (by omega)) ?_
    intro r n1 hA
    obtain ⟨pid, pf, rfl, pge, op, ple, nr1⟩ := hA.row
    have hb := bitsL_len c n
    obtain ⟨ps, hps⟩ : ∃ ps, ps = bitsL c n := ⟨_, rfl⟩
    rw [← hps] at op ple hb ⊢
    replace hX := hX.app nr1
    replace o1 := o1.ext n1
    replace o2 := o2.ext n1
    replace hL := hL.ext n1
    obtain ⟨M1, hM1⟩ : ∃ M1, M1 = M ++ n1 := ⟨_, rfl⟩
    rw [← hM1] at hX o1 o2 hL op ⊢
    have ip := op.ints (by omega) pf
    simp (config := {implicitDefEqProofs := false, maxDischargeDepth := 20}) (disch := first | omega | (simp only [lenE]; done) | (simp only [lenE]; omega) | rfl | (simp only [lenE, markR_len]; done) | (simp only [lenE, markR_len]; omega)) only [runE, mapE, listE, initT_5, initT_6, initT_7, initT_8, resV, oneV, binA, unA, reduceCtorEq, Nat.reduceEqDiff, Nat.reduceAdd, Nat.reduceLT, Nat.reduceLeDiff, Nat.reduceMul, Nat.reduceSub, ↓reduceIte, decide_true, decide_false, Bool.true_eq_false, Bool.false_eq_true, Bool.not_true, Bool.not_false, if_true, if_false, and_true, true_and, memE, celE, w64, Nat.zero_add, Nat.add_zero, Nat.mul_one, putL, and_self, ldn, t1]
    have KC := hC M1 (.slice (some ⟨pid, 0, none⟩) ps.length pf) c hX (by omega) (by rw [← hps]; exact ip)
    rw [← hps] at KC
    refine callH_rc KC ?_
    rintro r n2 ⟨rfl, nr2⟩
    replace hX := hX.app nr2
    replace o1 := o1.ext n2
    replace o2 := o2.ext n2
    replace hL := hL.ext n2
    replace op := op.ext n2
    obtain ⟨M2, hM2⟩ : ∃ M2, M2 = M1 ++ n2 := ⟨_, rfl⟩
    rw [← hM2] at hX o1 o2 hL op ⊢
    have wC : IntKind.u64.wrap ((c : Int) + 1) = (c : Int) + 1 := wrapU _ ⟨by omega, by omega⟩
    cases hgp : g ps with
    | none =>
      simp (config := {implicitDefEqProofs := false, maxDischargeDepth := 20}) (disch := first | omega | (simp only [lenE]; done) | (simp only [lenE]; omega) | rfl | (simp only [lenE, markR_len]; done) | (simp only [lenE, markR_len]; omega)) only [runE, mapE, listE, initT_5, initT_6, initT_7, initT_8, resV, oneV, binA, unA, reduceCtorEq, Nat.reduceEqDiff, Nat.reduceAdd, Nat.reduceLT, Nat.reduceLeDiff, Nat.reduceMul, Nat.reduceSub, ↓reduceIte, decide_true, decide_false, Bool.true_eq_false, Bool.false_eq_true, Bool.not_true, Bool.not_false, if_true, if_false, and_true, true_and, memE, celE, w64, Nat.zero_add, Nat.add_zero, Nat.mul_one, putL, and_self, ldn, ext_2_0, ext_2_1, bldL2, stP_aggL2, t1, t4, t5, t14, t15, goG_undef, Option.isSome_none, Option.getD_none, wC]
      refine ⟨⟨c + 1, _, pv, by omega, rfl, hX.one _ _, o1.ext _, ?_, ?_, by simp⟩, ?_⟩
      · rw [bestO_no (by rw [← hps]; exact hgp)]; exact o2.ext _
      · rw [bestO_no (by rw [← hps]; exact hgp)]; exact hL.ext _
      · simp [intOf]; omega
    | some x =>
      simp (config := {implicitDefEqProofs := false, maxDischargeDepth := 20}) (disch := first | omega | (simp only [lenE]; done) | (simp only [lenE]; omega) | rfl | (simp only [lenE, markR_len]; done) | (simp only [lenE, markR_len]; omega)) only [runE, mapE, listE, initT_5, initT_6, initT_7, initT_8, resV, oneV, binA, unA, reduceCtorEq, Nat.reduceEqDiff, Nat.reduceAdd, Nat.reduceLT, Nat.reduceLeDiff, Nat.reduceMul, Nat.reduceSub, ↓reduceIte, decide_true, decide_false, Bool.true_eq_false, Bool.false_eq_true, Bool.not_true, Bool.not_false, if_true, if_false, and_true, true_and, memE, celE, w64, Nat.zero_add, Nat.add_zero, Nat.mul_one, putL, and_self, ldn, ext_2_0, ext_2_1, bldL2, stP_aggL2, t1, t4, t5, t14, t15, Option.isSome_some, Option.getD_some, (o2.ext [⟨.own, 70, [.int .i64 x, .slice (some ⟨pid, 0, none⟩) ps.length pf]⟩]).rd, (o1.ext [⟨.own, 70, [.int .i64 x, .slice (some ⟨pid, 0, none⟩) ps.length pf]⟩]).rd]
      have hyes := bestO_yes (g := g) (n := n) (c := c) (x := x) (by rw [← hps]; exact hgp) (hg c x (by omega) (by rw [← hps]; exact hgp))
      rw [← hps] at hyes
      have ip2 := (op.ext [⟨.own, 70, [.int .i64 x, .slice (some ⟨pid, 0, none⟩) ps.length pf]⟩]).ints (by omega) pf
      have il2 := (hL.ext [⟨.own, 70, [.int .i64 x, .slice (some ⟨pid, 0, none⟩) ps.length pf]⟩]).ints (by omega)
      have ob : OwnB (M2 ++ [⟨.own, 70, [.int .i64 x, .slice (some ⟨pid, 0, none⟩) ps.length pf]⟩]) M2.length 70 [.int .i64 x, .slice (some ⟨pid, 0, none⟩) ps.length pf] := OwnB.here rfl
      have hXb := hX.one 70 [.int .i64 x, .slice (some ⟨pid, 0, none⟩) ps.length pf]
      have o1b := o1.ext [⟨.own, 70, [.int .i64 x, .slice (some ⟨pid, 0, none⟩) ps.length pf]⟩]
      have o2b := o2.ext [⟨.own, 70, [.int .i64 x, .slice (some ⟨pid, 0, none⟩) ps.length pf]⟩]
      have hLb := hL.ext [⟨.own, 70, [.int .i64 x, .slice (some ⟨pid, 0, none⟩) ps.length pf]⟩]
      have opb := op.ext [⟨.own, 70, [.int .i64 x, .slice (some ⟨pid, 0, none⟩) ps.length pf]⟩]
      have m2l : M.length ≤ M2.length := by rw [hM2, hM1]; simp; try omega
      obtain ⟨M3, hM3⟩ : ∃ M3, M3 = M2 ++ [⟨.own, 70, [.int .i64 x, .slice (some ⟨pid, 0, none⟩) ps.length pf]⟩] := ⟨_, rfl⟩
      rw [← hM3] at ip2 il2 ob hXb o1b o2b hLb opb ⊢
      obtain ⟨b, hb9⟩ : ∃ b, b = bestV (bestO g n c) := ⟨_, rfl⟩
      rw [← hb9] at hyes il2 o2b hLb bl ⊢
      obtain ⟨b1, b2⟩ := b
      have hsame : bef (x, ps) (b1, b2) = false → ∀ {p : Prop}, ListV p M3 (m.length + 1) pv b2 := fun hbf p => by
        rcases hLb with ⟨hp, e1, e2⟩ | h9
        · rw [hp] at hb9
          have : (b1, b2) = (9223372036854775807, ([] : List Int)) := hb9
          injection this with i1 i2
          have hx9 := hg c x (by omega) (by rw [← hps]; exact hgp)
          unfold bef at hbf
          simp only [i1] at hbf
          rw [if_neg (by omega)] at hbf
          simp only [decide_eq_false_iff_not] at hbf
          exact absurd hx9 hbf
        · exact .inr h9
      refine callH_rc (comesBefore_rc M3 x b1 _ pv ps b2 ip2 il2) ?_
      rintro r n4 ⟨rfl, nr4⟩
      cases hbf : bef (x, ps) (b1, b2) with
      | true =>
        have st := (o2b.ext n4).st (off := 0) (vs := [.int .i64 x, .slice (some ⟨pid, 0, none⟩) ps.length pf]) (by simp) rfl
        simp (config := {implicitDefEqProofs := false, maxDischargeDepth := 20}) (disch := first | omega | (simp only [lenE]; done) | (simp only [lenE]; omega) | rfl | (simp only [lenE, markR_len]; done) | (simp only [lenE, markR_len]; omega)) only [runE, mapE, listE, initT_5, initT_6, initT_7, initT_8, resV, oneV, binA, unA, reduceCtorEq, Nat.reduceEqDiff, Nat.reduceAdd, Nat.reduceLT, Nat.reduceLeDiff, Nat.reduceMul, Nat.reduceSub, ↓reduceIte, decide_true, decide_false, Bool.true_eq_false, Bool.false_eq_true, Bool.not_true, Bool.not_false, if_true, if_false, and_true, true_and, memE, celE, w64, Nat.zero_add, Nat.add_zero, Nat.mul_one, putL, and_self, ldn, t1, t4, t5, t14, t15, (ob.ext n4).rd, stP_aggL2, st, wC]
        rw [hbf, if_pos rfl] at hyes
        refine ⟨⟨c + 1, _, .slice (some ⟨pid, 0, none⟩) ps.length pf, by omega, rfl, (hXb.app nr4).put (by omega) _ _, (o1b.ext n4).set_ne (by omega) _, ?_, ?_, by simp⟩, ?_⟩
        · rw [hyes]; exact (o2b.ext n4).set_self _ _
        · rw [hyes]; exact .inr ⟨pid, pf, rfl, by omega, (opb.ext n4).set_ne (by omega)⟩
        · simp [intOf]; omega
      | false =>
        simp (config := {implicitDefEqProofs := false, maxDischargeDepth := 20}) (disch := first | omega | (simp only [lenE]; done) | (simp only [lenE]; omega) | rfl | (simp only [lenE, markR_len]; done) | (simp only [lenE, markR_len]; omega)) only [runE, mapE, listE, initT_5, initT_6, initT_7, initT_8, resV, oneV, binA, unA, reduceCtorEq, Nat.reduceEqDiff, Nat.reduceAdd, Nat.reduceLT, Nat.reduceLeDiff, Nat.reduceMul, Nat.reduceSub, ↓reduceIte, decide_true, decide_false, Bool.true_eq_false, Bool.false_eq_true, Bool.not_true, Bool.not_false, if_true, if_false, and_true, true_and, memE, celE, w64, Nat.zero_add, Nat.add_zero, Nat.mul_one, putL, and_self, ldn, t1, t4, t5, t14, t15, wC]
        rw [hbf, if_neg (by simp)] at hyes
        refine ⟨⟨c + 1, _, pv, by omega, rfl, hXb.app nr4, o1b.ext n4, ?_, ?_, by simp⟩, ?_⟩
        · rw [hyes]; exact o2b.ext n4
        · rw [hyes]; exact (hsame hbf).ext n4
        · simp [intOf]; omega
  · have hlt' : ¬ ((c : Int) < NN) := by omega
    have e : c = NN := by omega
    subst e
    have st := o1.st (off := 0) (vs := [.int .i64 (bestV (bestO g n c)).1, pv]) (by simp) (by rw [show onesB [.int .i64 (bestV (bestO g n c)).1, pv] = onesB [pv] from rfl, hL.one]; rfl)
    have se := o1.set_self 70 [.int .i64 (bestV (bestO g n c)).1, pv]
    simp (config := {implicitDefEqProofs := false, maxDischargeDepth := 20}) (disch := first | omega | (simp only [lenE]; done) | (simp only [lenE]; omega) | rfl | (simp only [lenE, markR_len]; done) | (simp only [lenE, markR_len]; omega)) only [runE, mapE, listE, initT_5, initT_6, initT_7, initT_8, resV, oneV, binA, unA, reduceCtorEq, Nat.reduceEqDiff, Nat.reduceAdd, Nat.reduceLT, Nat.reduceLeDiff, Nat.reduceMul, Nat.reduceSub, ↓reduceIte, decide_true, decide_false, Bool.true_eq_false, Bool.false_eq_true, Bool.not_true, Bool.not_false, if_true, if_false, and_true, true_and, memE, celE, w64, Nat.zero_add, Nat.add_zero, Nat.mul_one, putL, and_self, ldn, tm, t1, t4, t5, t14, t15, hlt', o2.rd, stP_aggL2, st, se.rd]
    refine ext_best (hX.put (by omega) _ _) ?_
    rcases hL.set (i := m.length) (by omega) ⟨.own, 70, [.int .i64 (bestV (bestO g n c)).1, pv]⟩ with h0 | ⟨id, fl, e1, e2, e3⟩
    · exact .inl h0
    · exact .inr ⟨id, fl, e1, by omega, e3⟩
end Go.Proofs.Ytdgfbmilbhckiaa.Ab
end
