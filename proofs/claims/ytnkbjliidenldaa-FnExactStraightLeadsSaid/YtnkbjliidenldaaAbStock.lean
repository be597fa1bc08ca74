/- Rows that grow; sums; the stocks of a plan. -/
import Derived.Test.YtnkbjliidenldaaAbGood
namespace Go.Proofs.Ytnkbjliidenldaa.Ab
open Go Go.RowKit
set_option linter.unusedVariables false
set_option linter.unusedSimpArgs false

/-- A row at the end of memory, to which one number is appended. -/
theorem app_one {M : Mem} {l : List Int} {x : Int} {id id2 n : Nat} (h : id = M.length) (h2 : id2 = M.length + 1) (hn : n = l.length) (hb : l.length ≤ 1048576) :
    appP (M ++ [⟨.own, 3, l.map (Value.int .i64)⟩] ++ [⟨.own, 3, [.int .i64 x]⟩]) 3 1 8 (.slice (some ⟨id, 0, none⟩) n 1) (.slice (some ⟨id2, 0, none⟩) 1 1) =
      some (.slice (some ⟨M.length + 2, 0, none⟩) (n + 1) 1, M ++ [deadB, ⟨.own, 3, [.int .i64 x]⟩] ++ [⟨.own, 3, (l ++ [x]).map (Value.int .i64)⟩]) := by
  subst h h2 hn
  have e1 : slR (M ++ [⟨.own, 3, l.map (Value.int .i64)⟩] ++ [⟨.own, 3, [.int .i64 x]⟩]) 1 (.slice (some ⟨M.length + 1, 0, none⟩) 1 1) = some [.int .i64 x] := by
    simp only [slR, rdl, Nat.mul_one]
    rw [List.getElem?_append_right (by simp)]
    simp
  unfold appP
  rw [e1]
  simp only [onesB_int, onesB_nil, if_true, appA, lenOfA]
  rw [List.getElem?_append_left (by simp), List.getElem?_append_right (by simp)]
  simp only [Nat.sub_self, List.getElem?_cons_zero, List.length_map, Nat.mul_one, true_and]
  rw [if_pos (by omega)]
  have e2 : (M ++ [(⟨.own, 3, l.map (Value.int .i64)⟩ : Blk)] ++ [(⟨.own, 3, [.int .i64 x]⟩ : Blk)]).set M.length deadB = M ++ [deadB, (⟨.own, 3, [.int .i64 x]⟩ : Blk)] := by
    rw [List.append_assoc, List.set_append_right _ _ (Nat.le_refl _)]
    simp
  rw [e2]
  simp
theorem bsl_none {m : Mem} : bslA m 3 1 0 [] [] = some (.slice (some ⟨m.length, 0, none⟩) 0 1, m ++ [⟨.own, 3, ([] : List Int).map (Value.int .i64)⟩]) := rfl
theorem bsl_one {m : Mem} {y : Int} : bslA m 3 1 1 [.int .i64 0] [(0, 1, .int .i64 y)] = some (.slice (some ⟨m.length, 0, none⟩) 1 1, m ++ [⟨.own, 3, [.int .i64 y]⟩]) := rfl

/-- A row as an answer. -/
def AnsR (m : Mem) (l : List Int) (r : Value) (new : Mem) : Prop :=
  NoRo new ∧ l.length ≤ 1048576 ∧ ∃ i fl, r = .slice (some ⟨m.length + i, 0, none⟩) l.length fl ∧ new[i]? = some (rowB l)
theorem AnsR.row {m new : Mem} {l : List Int} {r : Value} (h : AnsR m l r new) : ∃ id fl, r = .slice (some ⟨id, 0, none⟩) l.length fl ∧ m.length ≤ id ∧ OwnR (m ++ new) id l ∧ l.length ≤ 1048576 ∧ NoRo new := by
  obtain ⟨h1, h2, i, fl, rfl, h3⟩ := h
  exact ⟨_, fl, rfl, by omega, OwnR.new h3 rfl, h2, h1⟩
theorem ansR_end {m A : Mem} {l : List Int} {id n : Nat} (hA : NoRo A) (hid : id = m.length + A.length) (hn : n = l.length) (hl : l.length ≤ 1048576) :
    newQ m (AnsR m l) (.slice (some ⟨id, 0, none⟩) n 1) (roM m ++ A ++ [⟨.own, 3, l.map (Value.int .i64)⟩]) := by
  subst hid hn
  refine ⟨A ++ [rowB l], by rw [List.append_assoc], noRo_app hA (noRo_own noRo_nil), noRo_app hA (noRo_own noRo_nil), hl, A.length, 1, rfl, by simp⟩
theorem ansL_end {m A : Mem} {l : List Int} {id n fl : Nat} {ok : Bool} (hA : NoRo A) (hid : id = m.length + A.length) (hn : n = l.length) (hl : l.length ≤ 1048576) :
    newQ m (AnsL m l ok) (.tuple #[.slice (some ⟨id, 0, none⟩) n fl, .bool ok]) (roM m ++ A ++ [⟨.own, 3, l.map (Value.int .i64)⟩]) := by
  subst hid hn
  refine ⟨A ++ [rowB l], by rw [List.append_assoc], noRo_app hA (noRo_own noRo_nil), noRo_app hA (noRo_own noRo_nil), hl, A.length, fl, rfl, by simp⟩
theorem AnsR.ansL {m A new : Mem} {l : List Int} {r : Value} {ok : Bool} (hA : NoRo A) (h : AnsR (roM m ++ A) l r new) : newQ m (AnsL m l ok) (.tuple #[r, .bool ok]) (roM m ++ A ++ new) := by
  obtain ⟨h1, h2, i, fl, rfl, h3⟩ := h
  refine ⟨A ++ new, by rw [List.append_assoc], noRo_app hA h1, noRo_app hA h1, h2, A.length + i, fl, by simp [roM_len, Nat.add_assoc], ?_⟩
  rw [List.getElem?_append_right (by omega)]; simpa using h3

theorem getD_in {l : List Int} {a b : Int} (h : ∀ x ∈ l, a ≤ x ∧ x ≤ b) {k : Nat} (hk : k < l.length) : a ≤ l.getD k 0 ∧ l.getD k 0 ≤ b := by
  rw [List.getD_eq_getElem?_getD, List.getElem?_eq_getElem hk]; exact h _ (List.getElem_mem hk)
theorem sumTo_s {l : List Int} {k : Nat} (h : k < l.length) : sumTo l (k + 1) = sumTo l k + l.getD k 0 := by
  rw [sumTo_succ (List.getElem?_eq_getElem h), List.getD_eq_getElem?_getD, List.getElem?_eq_getElem h]; rfl
theorem sumTo_in {l : List Int} {a b : Int} (h : ∀ x ∈ l, a ≤ x ∧ x ≤ b) : ∀ k : Nat, k ≤ l.length → a * k ≤ sumTo l k ∧ sumTo l k ≤ b * k := by
  intro k
  induction k with
  | zero => intro _; simp [sumTo]
  | succ k ih =>
    intro hk
    have := ih (by omega)
    have h2 := getD_in h (k := k) (by omega)
    rw [sumTo_s (by omega), Int.natCast_add, Int.mul_add, Int.mul_add]
    omega

theorem l2Sum_rc (m : Mem) (v : Value) (l : List Int) (h : IntsA m v l) (hb : ∀ k : Nat, k ≤ l.length → -4611686018427387904 ≤ sumTo l k ∧ sumTo l k ≤ 4611686018427387904) :
    RC Try.prog 88 [v] m fun r new => r = .int .i64 (sumTo l l.length) ∧ new = [] := by
  refine rc_of_run mixed ok_spec_l2Sum (by simp) (go_start _ _ _ ?_)
  obtain ⟨e1, e2, e3, e4, -⟩ := h.ro
  simp (config := {implicitDefEqProofs := false, maxDischargeDepth := 20}) (disch := first | omega | (simp only [lenE]; done) | (simp only [lenE]; omega) | rfl | (simp only [lenE, markR_len]; done) | (simp only [lenE, markR_len]; omega)) only [runE, mapE, listE, initT_5, initT_6, initT_7, initT_8, resV, oneV, binA, unA, reduceCtorEq, Nat.reduceEqDiff, Nat.reduceAdd, Nat.reduceLT, Nat.reduceLeDiff, Nat.reduceMul, Nat.reduceSub, ↓reduceIte, decide_true, decide_false, Bool.true_eq_false, Bool.false_eq_true, Bool.not_true, Bool.not_false, if_true, if_false, and_true, true_and, memE, celE, w64, Nat.zero_add, Nat.add_zero, Nat.mul_one, putL, and_self, ldn, c_spec_l2Sum, r_spec_l2Sum]
  refine loop_inv mixed (fun s => ∃ k : Nat, k ≤ l.length ∧ s.t 0 = v ∧ s.t 3 = .int .i64 (sumTo l k) ∧ s.t 4 = .int .i64 k ∧ s.m = roM m) (fun s => l.length - (intOf (s.t 4)).toNat) ⟨0, by omega, rfl, rfl, rfl, rfl⟩ ?_
  rintro s ⟨k, hk, t0, t3, t4, tm⟩
  by_cases hlt : k < l.length
  · have hlt' : (k : Int) < l.length := by omega
    have b1 := hb (k + 1) (by omega)
    have b2 := sumTo_s hlt
    rw [b2] at b1
    simp (config := {implicitDefEqProofs := false, maxDischargeDepth := 20}) (disch := first | omega | (simp only [lenE]; done) | (simp only [lenE]; omega) | rfl | (simp only [lenE, markR_len]; done) | (simp only [lenE, markR_len]; omega)) only [runE, mapE, listE, initT_5, initT_6, initT_7, initT_8, resV, oneV, binA, unA, reduceCtorEq, Nat.reduceEqDiff, Nat.reduceAdd, Nat.reduceLT, Nat.reduceLeDiff, Nat.reduceMul, Nat.reduceSub, ↓reduceIte, decide_true, decide_false, Bool.true_eq_false, Bool.false_eq_true, Bool.not_true, Bool.not_false, if_true, if_false, and_true, true_and, memE, celE, w64, Nat.zero_add, Nat.add_zero, Nat.mul_one, putL, and_self, ldn, t0, t3, t4, tm, e1, e3 k hlt, e4 k hlt, hlt']
    refine ⟨⟨k + 1, by omega, by simp [b2]⟩, ?_⟩
    simp [intOf]; omega
  · have hlt' : ¬ ((k : Int) < l.length) := by omega
    have e : k = l.length := by omega
    simp (config := {implicitDefEqProofs := false, maxDischargeDepth := 20}) (disch := first | omega | (simp only [lenE]; done) | (simp only [lenE]; omega) | rfl | (simp only [lenE, markR_len]; done) | (simp only [lenE, markR_len]; omega)) only [runE, mapE, listE, initT_5, initT_6, initT_7, initT_8, resV, oneV, binA, unA, reduceCtorEq, Nat.reduceEqDiff, Nat.reduceAdd, Nat.reduceLT, Nat.reduceLeDiff, Nat.reduceMul, Nat.reduceSub, ↓reduceIte, decide_true, decide_false, Bool.true_eq_false, Bool.false_eq_true, Bool.not_true, Bool.not_false, if_true, if_false, and_true, true_and, memE, celE, w64, Nat.zero_add, Nat.add_zero, Nat.mul_one, putL, and_self, ldn, t0, t3, t4, tm, e1, hlt']
    exact newQ_nil ⟨by rw [e], rfl⟩

theorem sumOf_rc (m : Mem) (v : Value) (l : List Int) (h : IntsA m v l) (hb : ∀ k : Nat, k ≤ l.length → -4611686018427387904 ≤ sumTo l k ∧ sumTo l k ≤ 4611686018427387904) :
    RC Try.prog 72 [v] m fun r new => r = .int .i64 (sumTo l l.length) ∧ new = [] := by
  refine rc_of_run mixed ok_impl_sumOf (by simp) (go_start _ _ _ ?_)
  obtain ⟨e1, e2, e3, e4, -⟩ := h.ro
  simp (config := {implicitDefEqProofs := false, maxDischargeDepth := 20}) (disch := first | omega | (simp only [lenE]; done) | (simp only [lenE]; omega) | rfl | (simp only [lenE, markR_len]; done) | (simp only [lenE, markR_len]; omega)) only [runE, mapE, listE, initT_5, initT_6, initT_7, initT_8, resV, oneV, binA, unA, reduceCtorEq, Nat.reduceEqDiff, Nat.reduceAdd, Nat.reduceLT, Nat.reduceLeDiff, Nat.reduceMul, Nat.reduceSub, ↓reduceIte, decide_true, decide_false, Bool.true_eq_false, Bool.false_eq_true, Bool.not_true, Bool.not_false, if_true, if_false, and_true, true_and, memE, celE, w64, Nat.zero_add, Nat.add_zero, Nat.mul_one, putL, and_self, ldn, c_impl_sumOf, r_impl_sumOf, e1]
  refine loop_inv mixed (fun s => ∃ k : Nat, k ≤ l.length ∧ s.t 6 = v ∧ s.t 7 = .int .i64 l.length ∧ s.t 3 = .int .i64 (sumTo l k) ∧ s.t 8 = .int .i64 k ∧ s.m = roM m) (fun s => l.length - (intOf (s.t 8)).toNat) ⟨0, by omega, rfl, rfl, rfl, rfl, rfl⟩ ?_
  rintro s ⟨k, hk, t6, t7, t3, t8, tm⟩
  by_cases hlt : k < l.length
  · have hlt' : (k : Int) < l.length := by omega
    have b1 := hb (k + 1) (by omega)
    have b2 := sumTo_s hlt
    rw [b2] at b1
    simp (config := {implicitDefEqProofs := false, maxDischargeDepth := 20}) (disch := first | omega | (simp only [lenE]; done) | (simp only [lenE]; omega) | rfl | (simp only [lenE, markR_len]; done) | (simp only [lenE, markR_len]; omega)) only [runE, mapE, listE, initT_5, initT_6, initT_7, initT_8, resV, oneV, binA, unA, reduceCtorEq, Nat.reduceEqDiff, Nat.reduceAdd, Nat.reduceLT, Nat.reduceLeDiff, Nat.reduceMul, Nat.reduceSub, ↓reduceIte, decide_true, decide_false, Bool.true_eq_false, Bool.false_eq_true, Bool.not_true, Bool.not_false, if_true, if_false, and_true, true_and, memE, celE, w64, Nat.zero_add, Nat.add_zero, Nat.mul_one, putL, and_self, ldn, t6, t7, t3, t8, tm, e1, e3 k hlt, e4 k hlt, hlt']
    refine ⟨⟨k + 1, by omega, by simp [b2]⟩, ?_⟩
    simp [intOf]; omega
  · have hlt' : ¬ ((k : Int) < l.length) := by omega
    have e : k = l.length := by omega
    simp (config := {implicitDefEqProofs := false, maxDischargeDepth := 20}) (disch := first | omega | (simp only [lenE]; done) | (simp only [lenE]; omega) | rfl | (simp only [lenE, markR_len]; done) | (simp only [lenE, markR_len]; omega)) only [runE, mapE, listE, initT_5, initT_6, initT_7, initT_8, resV, oneV, binA, unA, reduceCtorEq, Nat.reduceEqDiff, Nat.reduceAdd, Nat.reduceLT, Nat.reduceLeDiff, Nat.reduceMul, Nat.reduceSub, ↓reduceIte, decide_true, decide_false, Bool.true_eq_false, Bool.false_eq_true, Bool.not_true, Bool.not_false, if_true, if_false, and_true, true_and, memE, celE, w64, Nat.zero_add, Nat.add_zero, Nat.mul_one, putL, and_self, ldn, t6, t7, t3, t8, tm, e1, hlt']
    exact newQ_nil ⟨by rw [e], rfl⟩

/-- What is there before a period. -/
def nowK (plan need : List Int) (k : Nat) : Int := sumTo plan k - sumTo need k
theorem nowK_s {plan need : List Int} {k : Nat} (h : k < plan.length) (h' : k < need.length) : nowK plan need (k + 1) = nowK plan need k + plan.getD k 0 - need.getD k 0 := by
  unfold nowK; rw [sumTo_s h, sumTo_s h']; omega
theorem stk_now (plan need : List Int) (k : Nat) : stk plan need k = nowK plan need (k + 1) := rfl
theorem nowK_in {plan need : List Int} (hp : ∀ x ∈ plan, 0 ≤ x ∧ x ≤ 160) (hn : ∀ x ∈ need, 0 ≤ x ∧ x ≤ 20) (h8 : need.length ≤ 8) (k : Nat) (h1 : k ≤ plan.length) (h2 : k ≤ need.length) : -160 ≤ nowK plan need k ∧ nowK plan need k ≤ 1280 := by
  have b1 := sumTo_in hp k h1
  have b2 := sumTo_in hn k h2
  unfold nowK; omega

theorem sumTo_need {k : Cs} (hg : Good k) : 0 ≤ sumTo k.need k.need.length ∧ sumTo k.need k.need.length ≤ 160 := by
  have := sumTo_in hg.need k.need.length (Nat.le_refl _)
  have := hg.n8
  omega
theorem stocksL_len (plan need : List Int) : (stocksL plan need).length = plan.length := by simp [stocksL, stocksTo_len]
theorem stocksL_at {plan need : List Int} {t : Nat} (h : t < plan.length) : (stocksL plan need).getD t 0 = stk plan need t := by
  rw [List.getD_eq_getElem?_getD, stocksL, stocksTo_at h]; rfl
theorem planB_of {k : Cs} {plan : List Int} (hr : Go.Proofs.Ytnkbjliidenldaa.rowB plan k.need.length 160 = true) (hall : allTo (fun x => decide (0 ≤ x)) (stocksL plan k.need) (stocksL plan k.need).length) :
    planB k plan = decide (nowK plan k.need plan.length = 0) := by
  have e : decide (sumTo plan plan.length = sumTo k.need plan.length) = decide (nowK plan k.need plan.length = 0) := by
    unfold nowK; congr 1; apply propext; omega
  unfold planB
  rw [hr, allTo_all hall, e]; simp

theorem two_iff {k : Cs} {plan : List Int} : two k plan = true ↔ Good k ∧ Plan k plan := by
  unfold two; rw [Bool.and_eq_true, good_iff, planB_iff]
theorem two_bounds {k : Cs} {plan : List Int} (h : two k plan = true) : Good k ∧ plan.length = k.need.length ∧ (∀ x ∈ plan, 0 ≤ x ∧ x ≤ 160) := by
  obtain ⟨h1, h2, h3, _⟩ := two_iff.1 h
  exact ⟨h1, h2, h3⟩
def stocksA (k : Cs) (plan : List Int) : List Int := if two k plan then stocksL plan k.need else []

/-- A list whose sum is that of the needs. -/
def lateB (k : Cs) (plan : List Int) : Bool := k.good && (Go.Proofs.Ytnkbjliidenldaa.rowB plan k.need.length 160 && decide (nowK plan k.need plan.length = 0))
def balA (k : Cs) (plan : List Int) : List Int := if lateB k plan then stocksL plan k.need else []
theorem late_iff {k : Cs} {plan : List Int} : lateB k plan = true ↔ Good k ∧ plan.length = k.need.length ∧ (∀ x ∈ plan, 0 ≤ x ∧ x ≤ 160) ∧ nowK plan k.need plan.length = 0 := by
  unfold lateB
  rw [Bool.and_eq_true, Bool.and_eq_true, good_iff, rowB_iff, decide_eq_true_eq]
  exact ⟨fun ⟨h1, ⟨h2, h3⟩, h4⟩ => ⟨h1, h3, h2, h4⟩, fun ⟨h1, h3, h2, h4⟩ => ⟨h1, ⟨h2, h3⟩, h4⟩⟩
theorem late_two {k : Cs} {plan : List Int} : two k plan = (lateB k plan && !(stocksL plan k.need).any (fun x => decide (x < 0))) := by
  have e : decide (sumTo plan plan.length = sumTo k.need plan.length) = decide (nowK plan k.need plan.length = 0) := by
    unfold nowK; congr 1; apply propext; omega
  have e2 : (stocksL plan k.need).all (fun x => decide (0 ≤ x)) = !(stocksL plan k.need).any (fun x => decide (x < 0)) := by
    rw [List.any_eq_not_all_not, Bool.not_not]
    congr 1
    funext x
    by_cases hx : x < 0
    · simp [hx]
    · simp [hx]; omega
  unfold two planB lateB
  rw [e, e2]
  cases k.good <;> cases Go.Proofs.Ytnkbjliidenldaa.rowB plan k.need.length 160 <;> cases decide (nowK plan k.need plan.length = 0) <;> simp
/-- No number of a list is greater than their sum. -/
theorem late_le {k : Cs} {plan : List Int} (h : lateB k plan = true) : ∀ x ∈ plan, x ≤ sumTo k.need k.need.length := by
  obtain ⟨h0, h1, h2, h4⟩ := late_iff.1 h
  intro x hx
  obtain ⟨j, hj⟩ := List.mem_iff_getElem?.1 hx
  have hj2 : j < plan.length := (List.getElem?_eq_some_iff.1 hj).1
  have e := sumTo_succ hj
  have m1 := sumTo_mono (fun x hx => (h2 x hx).1) (j := j + 1) (k := plan.length) (by omega)
  have m0 := (sumTo_bound (by omega) h2 j).1
  unfold nowK at h4
  rw [h1] at h4 m1
  omega

/-- As many numbers as needs, none greater than all needs, all together the needs. -/
def balFB (need am : List Int) : Bool := Go.Proofs.Ytnkbjliidenldaa.rowB am need.length (sumTo need need.length) && decide (nowK am need am.length = 0)
def balFA (need am : List Int) : List Int := if balFB need am then stocksL am need else []
theorem late_bal {k : Cs} {plan : List Int} : lateB k plan = (k.good && balFB k.need plan) := by
  cases hg : k.good with
  | false => simp [lateB, hg]
  | true =>
    have gd := good_iff.1 hg
    have h8 := gd.n8
    have hS := sumTo_in gd.need k.need.length (Nat.le_refl _)
    rw [Bool.true_and]
    cases hq : lateB k plan with
    | true =>
      have hle := late_le hq
      obtain ⟨_, h1, h2, h4⟩ := late_iff.1 hq
      symm
      unfold balFB
      rw [Bool.and_eq_true]
      exact ⟨rowB_iff.2 ⟨fun x hx => ⟨(h2 x hx).1, hle x hx⟩, h1⟩, decide_eq_true h4⟩
    | false =>
      symm
      cases hb : balFB k.need plan with
      | false => rfl
      | true =>
        unfold balFB at hb
        rw [Bool.and_eq_true, rowB_iff, decide_eq_true_eq] at hb
        rw [late_iff.2 ⟨gd, hb.1.2, fun x hx => by have := hb.1.1 x hx; omega, hb.2⟩] at hq
        cases hq
theorem balF_len {need am : List Int} (h : balFB need am = true) : am.length = need.length := by
  unfold balFB at h
  rw [Bool.and_eq_true, rowB_iff] at h
  exact h.1.2
theorem AnsL.row0 {m new : Mem} {l : List Int} {ok : Bool} {r : Value} (h : AnsL m l ok r new) : ∃ id fl, r = .tuple #[.slice (some ⟨id, 0, none⟩) l.length fl, .bool ok] ∧ m.length ≤ id ∧ OwnR (m ++ new) id l ∧ l.length ≤ 1048576 ∧ NoRo new := by
  obtain ⟨h1, h2, i, fl, rfl, h3⟩ := h
  exact ⟨_, fl, rfl, by omega, OwnR.new h3 rfl, h2, h1⟩
theorem ext20 (a b : Value) : extA 0 (.tuple #[a, b]) = some a := rfl
theorem ext21 (a b : Value) : extA 1 (.tuple #[a, b]) = some b := rfl

/-- Stocks that are never below 0. -/
def stkFB (need am : List Int) : Bool := balFB need am && !(stocksL am need).any (fun x => decide (x < 0))
def stkFA (need am : List Int) : List Int := if stkFB need am then stocksL am need else []
/-- An answer is handed on. -/
theorem AnsL.pass {m A new : Mem} {l : List Int} {ok : Bool} {r : Value} (hA : NoRo A) (h : AnsL (roM m ++ A) l ok r new) : newQ m (AnsL m l ok) r (roM m ++ A ++ new) := by
  obtain ⟨h1, h2, i, fl, rfl, h3⟩ := h
  refine ⟨A ++ new, by rw [List.append_assoc], noRo_app hA h1, noRo_app hA h1, h2, A.length + i, fl, by simp [roM_len, Nat.add_assoc], ?_⟩
  rw [List.getElem?_append_right (by omega)]; simpa using h3
theorem balA_for {k : Cs} {plan : List Int} (hg : k.good = true) : balFA k.need plan = balA k plan ∧ balFB k.need plan = lateB k plan := by
  unfold balFA balA
  rw [late_bal, hg, Bool.true_and]
  exact ⟨rfl, rfl⟩
theorem stkA_for {k : Cs} {plan : List Int} (hg : k.good = true) : stkFA k.need plan = stocksA k plan ∧ stkFB k.need plan = two k plan := by
  have e : stkFB k.need plan = two k plan := by unfold stkFB; rw [late_two, late_bal, hg, Bool.true_and]
  unfold stkFA stocksA
  rw [e]
  exact ⟨rfl, rfl⟩
end Go.Proofs.Ytnkbjliidenldaa.Ab
