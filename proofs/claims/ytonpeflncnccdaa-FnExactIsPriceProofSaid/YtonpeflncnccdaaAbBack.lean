/- Backward costs: BackwardCosts; horizons: HorizonsOf. -/
import Derived.Test.YtonpeflncnccdaaAbTable
namespace Go.Proofs.Ytonpeflncnccdaa.Ab
open Go Go.RowKit
set_option linter.unusedVariables false
set_option linter.unusedSimpArgs false

theorem OwnR.rd {M : Mem} {id i : Nat} {L : List Int} (h : OwnR M id L) (hi : i < L.length) : rdc M id i = some (.int .i64 (L.getD i 0)) := by
  unfold rdc
  rw [show M[id]? = some (rowB L) from h]
  simp [hi]
theorem set_rep (i : Nat) (a v : Int) (T : List Int) : (List.replicate i 0 ++ a :: T).set i v = List.replicate i 0 ++ v :: T := by
  rw [List.set_append_right _ _ (by simp)]; simp
theorem getD_rep0 (i : Nat) (a : Int) (T : List Int) : (List.replicate i 0 ++ a :: T).getD i 0 = a := by
  rw [List.getD_eq_getElem?_getD, List.getElem?_append_right (by simp)]; simp
theorem getD_rep1 (i x : Nat) (a : Int) (T : List Int) : (List.replicate i 0 ++ a :: T).getD (i + 1 + x) 0 = T.getD x 0 := by
  rw [List.getD_eq_getElem?_getD, List.getElem?_append_right (by simp; omega), List.length_replicate, show i + 1 + x - i = x + 1 by omega, List.getElem?_cons_succ, List.getD_eq_getElem?_getD]
theorem rep_one (i : Nat) (T : List Int) : List.replicate (i + 1) (0 : Int) ++ T = List.replicate i 0 ++ 0 :: T := by
  rw [List.replicate_succ', List.append_assoc]; rfl

theorem l1Least_rc (m : Mem) (a b : Int) : RC Try.prog 76 [.int .i64 a, .int .i64 b] m fun r new => r = .int .i64 (min a b) ∧ new = [] := by
  refine rc_of_run mixed ok_spec_l1Least (by simp) (go_start _ _ _ ?_)
  by_cases h : a < b
  · simp (config := {implicitDefEqProofs := false, maxDischargeDepth := 20}) (disch := first | omega | (simp only [lenE]; done) | (simp only [lenE]; omega) | rfl | (simp only [lenE, markR_len]; done) | (simp only [lenE, markR_len]; omega)) only [runE, mapE, listE, initT_5, initT_6, initT_7, initT_8, resV, oneV, binA, unA, reduceCtorEq, Nat.reduceEqDiff, Nat.reduceAdd, Nat.reduceLT, Nat.reduceLeDiff, Nat.reduceMul, Nat.reduceSub, ↓reduceIte, decide_true, decide_false, Bool.true_eq_false, Bool.false_eq_true, Bool.not_true, Bool.not_false, if_true, if_false, and_true, true_and, memE, celE, w64, Nat.zero_add, Nat.add_zero, Nat.mul_one, putL, and_self, ldn, c_spec_l1Least, r_spec_l1Least, h]
    exact newQ_nil ⟨by congr 1; omega, rfl⟩
  · simp (config := {implicitDefEqProofs := false, maxDischargeDepth := 20}) (disch := first | omega | (simp only [lenE]; done) | (simp only [lenE]; omega) | rfl | (simp only [lenE, markR_len]; done) | (simp only [lenE, markR_len]; omega)) only [runE, mapE, listE, initT_5, initT_6, initT_7, initT_8, resV, oneV, binA, unA, reduceCtorEq, Nat.reduceEqDiff, Nat.reduceAdd, Nat.reduceLT, Nat.reduceLeDiff, Nat.reduceMul, Nat.reduceSub, ↓reduceIte, decide_true, decide_false, Bool.true_eq_false, Bool.false_eq_true, Bool.not_true, Bool.not_false, if_true, if_false, and_true, true_and, memE, celE, w64, Nat.zero_add, Nat.add_zero, Nat.mul_one, putL, and_self, ldn, c_spec_l1Least, r_spec_l1Least, h]
    exact newQ_nil ⟨by congr 1; omega, rfl⟩

theorem l3Backward_rc (m : Mem) (v : Value) (k : Cs) (h : CaseA m v k) (hg : Good k) :
    RC Try.prog 52 [v] m (AnsR m (bwdL k)) := by
  refine rc_of_run mixed ok_spec_l3Backward (by simp) (go_start _ _ _ ?_)
  obtain ⟨v1, v2, v3, v4, rfl, h1, h2, h3, h4⟩ := h.ro.ok
  have hc : CaseA (roM m) (.agg #[v1, v2, v3, v4]) k := ⟨_, _, _, _, rfl, h1, h2, h3, h4⟩
  have h8 := hg.n8
  unfold bwdL
  generalize hn : k.need.length = n at h8
  have mk : ∀ M : Mem, mksA M 3 8 [.int .i64 0] (.int .i64 ((n : Int) + 1)) (.int .i64 ((n : Int) + 1)) = some (.slice (some ⟨M.length, 0, none⟩) (n + 1) 1, M ++ [⟨.own, 3, List.replicate (n + 1) (.int .i64 0)⟩]) := fun M => mksA_eq (by simp) (by omega)
  have hl1 := h1.len
  rw [hn] at hl1
  simp (config := {implicitDefEqProofs := false, maxDischargeDepth := 20}) (disch := first | omega | (simp only [lenE]; done) | (simp only [lenE]; omega) | rfl | (simp only [lenE, markR_len]; done) | (simp only [lenE, markR_len]; omega)) only [runE, mapE, listE, initT_5, initT_6, initT_7, initT_8, resV, oneV, binA, unA, reduceCtorEq, Nat.reduceEqDiff, Nat.reduceAdd, Nat.reduceLT, Nat.reduceLeDiff, Nat.reduceMul, Nat.reduceSub, ↓reduceIte, decide_true, decide_false, Bool.true_eq_false, Bool.false_eq_true, Bool.not_true, Bool.not_false, if_true, if_false, and_true, true_and, memE, celE, w64, Nat.zero_add, Nat.add_zero, Nat.mul_one, putL, and_self, ldn, c_spec_l3Backward, r_spec_l3Backward, hl1, mk]
  refine loop_inv mixed (fun s => ∃ (r : Nat) (M : Mem) (id : Nat), r ≤ n ∧ s.t 1 = .pointer (some ⟨m.length, 0, none⟩) ∧ s.t 3 = .int .i64 n ∧ s.t 4 = .slice (some ⟨id, 0, none⟩) (n + 1) 1 ∧ s.t 5 = .int .i64 ((n : Int) - 1 - r) ∧ s.m = M ∧ Grow (roM m ++ [⟨.own, 28, [v1, v2, v3, v4]⟩]) M ∧ OwnR M id (List.replicate (n - r) 0 ++ bwdF k n r) ∧ m.length < id) (fun s => (intOf (s.t 5) + 1).toNat)
    ⟨0, _, m.length + 1, by omega, rfl, rfl, rfl, by simp only [put_t, put_t', put_m, putT_t, putT_t', putT_m, init_t, init_m, initT_0, initT_1, initT_2, initT_3, initT_4, initT_5, initT_6, initT_7, initT_8, Nat.reduceEqDiff, ↓reduceIte]; simp, rfl, (Grow.refl _).one _ _, ?_, by omega⟩ ?_
  · have := OwnR.zeros (m := roM m ++ [⟨.own, 28, [v1, v2, v3, v4]⟩]) (n := n + 1) (id := m.length + 1) (by simp [roM_len])
    have e : List.replicate (n - 0) (0 : Int) ++ bwdF k n 0 = List.replicate (n + 1) 0 := by rw [List.replicate_succ']; rfl
    rw [e]; exact this
  rintro s ⟨r, M, id, hr, t1, t3, t4, t5, tm, hx, oa, lid⟩
  obtain ⟨r0, r1, r2, r3, hlM⟩ := hx.box4
  have lM := oa.lt
  by_cases hlt : r < n
  · obtain ⟨i, hi0⟩ : ∃ i : Nat, i + r + 1 = n := ⟨n - 1 - r, by omega⟩
    have hge : (0 : Int) ≤ (n : Int) - 1 - r := by omega
    have ei : (n : Int) - 1 - r = (i : Int) := by omega
    have hge' : (0 : Int) ≤ (i : Int) := by omega
    have hi : i < n + 1 := by omega
    rw [ei] at t5
    rw [show n - r = i + 1 by omega, rep_one] at oa
    have bl := bwdF_len k n r
    have bll : (List.replicate i (0 : Int) ++ 0 :: bwdF k n r).length = n + 1 := by simp [bl]; omega
    simp (config := {implicitDefEqProofs := false, maxDischargeDepth := 20}) (disch := first | omega | (simp only [lenE]; done) | (simp only [lenE]; omega) | rfl | (simp only [lenE, markR_len]; done) | (simp only [lenE, markR_len]; omega)) only [runE, mapE, listE, initT_5, initT_6, initT_7, initT_8, resV, oneV, binA, unA, reduceCtorEq, Nat.reduceEqDiff, Nat.reduceAdd, Nat.reduceLT, Nat.reduceLeDiff, Nat.reduceMul, Nat.reduceSub, ↓reduceIte, decide_true, decide_false, Bool.true_eq_false, Bool.false_eq_true, Bool.not_true, Bool.not_false, if_true, if_false, and_true, true_and, memE, celE, w64, Nat.zero_add, Nat.add_zero, Nat.mul_one, putL, and_self, ldn, t1, t3, t4, t5, tm, ge_iff_le, hge', r0, r1, r2, r3]
    refine callH_rc (l3Span_rc _ _ k i n (hx.caseV hc) hg (by omega) (by omega)) ?_
    rintro rr new ⟨rfl, nr⟩
    have ost := oa.st (off := i) (x := spanF k i n) (by omega)
    rw [set_rep] at ost
    simp (config := {implicitDefEqProofs := false, maxDischargeDepth := 20}) (disch := first | omega | (simp only [lenE]; done) | (simp only [lenE]; omega) | rfl | (simp only [lenE, markR_len]; done) | (simp only [lenE, markR_len]; omega)) only [runE, mapE, listE, initT_5, initT_6, initT_7, initT_8, resV, oneV, binA, unA, reduceCtorEq, Nat.reduceEqDiff, Nat.reduceAdd, Nat.reduceLT, Nat.reduceLeDiff, Nat.reduceMul, Nat.reduceSub, ↓reduceIte, decide_true, decide_false, Bool.true_eq_false, Bool.false_eq_true, Bool.not_true, Bool.not_false, if_true, if_false, and_true, true_and, memE, celE, w64, Nat.zero_add, Nat.add_zero, Nat.mul_one, putL, and_self, ldn, t1, t3, t4, t5, tm, iadA_in hi, ost]
    refine loop_inv mixed (fun s => ∃ (x : Nat) (M' : Mem), x ≤ r ∧ s.t 1 = .pointer (some ⟨m.length, 0, none⟩) ∧ s.t 3 = .int .i64 n ∧ s.t 4 = .slice (some ⟨id, 0, none⟩) (n + 1) 1 ∧ s.t 5 = .int .i64 i ∧ s.t 6 = .int .i64 (i + 1 + x : Nat) ∧ s.m = M' ∧ Grow (roM m ++ [⟨.own, 28, [v1, v2, v3, v4]⟩]) M' ∧ OwnR M' id (List.replicate i 0 ++ bmin k n i (bwdF k n r) x :: bwdF k n r)) (fun s => n - (intOf (s.t 6)).toNat)
      ⟨0, _, by omega, by simp only [put_t, put_t', put_m, putT_t, putT_t', putT_m, init_t, init_m, initT_0, initT_1, initT_2, initT_3, initT_4, initT_5, initT_6, initT_7, initT_8, Nat.reduceEqDiff, ↓reduceIte, t1], by simp only [put_t, put_t', put_m, putT_t, putT_t', putT_m, init_t, init_m, initT_0, initT_1, initT_2, initT_3, initT_4, initT_5, initT_6, initT_7, initT_8, Nat.reduceEqDiff, ↓reduceIte, t3], by simp only [put_t, put_t', put_m, putT_t, putT_t', putT_m, init_t, init_m, initT_0, initT_1, initT_2, initT_3, initT_4, initT_5, initT_6, initT_7, initT_8, Nat.reduceEqDiff, ↓reduceIte, t4], by simp only [put_t, put_t', put_m, putT_t, putT_t', putT_m, init_t, init_m, initT_0, initT_1, initT_2, initT_3, initT_4, initT_5, initT_6, initT_7, initT_8, Nat.reduceEqDiff, ↓reduceIte, t5], by simp only [put_t, put_t', put_m, putT_t, putT_t', putT_m, init_t, init_m, initT_0, initT_1, initT_2, initT_3, initT_4, initT_5, initT_6, initT_7, initT_8, Nat.reduceEqDiff, ↓reduceIte]; simp, rfl, ?_, ?_⟩ ?_
    · exact (hx.put (by simp [roM_len]; omega) _ _).app nr
    · exact (OwnR.set_self oa).ext _
    clear ost
    rintro s2 ⟨x, M', hxr, w1, w3, w4, w5, w6, um, hx', oa'⟩
    obtain ⟨q0, q1, q2, q3, hlM'⟩ := hx'.box4
    have lM' := oa'.lt
    have bl2 : (List.replicate i (0 : Int) ++ bmin k n i (bwdF k n r) x :: bwdF k n r).length = n + 1 := by simp [bl]; omega
    by_cases hlt2 : x < r
    · obtain ⟨j, hj⟩ : ∃ j, j = i + 1 + x := ⟨_, rfl⟩
      have hjn : j < n + 1 := by omega
      have hlt2' : (j : Int) < n := by omega
      rw [← hj] at w6
      have ei : i = n - (r + 1) := by omega
      have b1 := bmin_in hg (n := n) (m := r) (x := x) (by omega) (by omega) (by omega)
      rw [← ei] at b1
      have b2 := getD_bound (m := 13059) (by omega) (bwdF_in hg n r (by omega) (by omega)) x
      have b3 := spanF_in hg (i := i) (j := j) (by omega) (by omega)
      have rdi := oa'.rd (i := i) (by omega)
      have rdj := oa'.rd (i := j) (by omega)
      rw [getD_rep0] at rdi
      rw [hj, getD_rep1, ← hj] at rdj
      simp (config := {implicitDefEqProofs := false, maxDischargeDepth := 20}) (disch := first | omega | (simp only [lenE]; done) | (simp only [lenE]; omega) | rfl | (simp only [lenE, markR_len]; done) | (simp only [lenE, markR_len]; omega)) only [runE, mapE, listE, initT_5, initT_6, initT_7, initT_8, resV, oneV, binA, unA, reduceCtorEq, Nat.reduceEqDiff, Nat.reduceAdd, Nat.reduceLT, Nat.reduceLeDiff, Nat.reduceMul, Nat.reduceSub, ↓reduceIte, decide_true, decide_false, Bool.true_eq_false, Bool.false_eq_true, Bool.not_true, Bool.not_false, if_true, if_false, and_true, true_and, memE, celE, w64, Nat.zero_add, Nat.add_zero, Nat.mul_one, putL, and_self, ldn, w1, w3, w4, w5, w6, um, hlt2', iadA_in hi, iadA_in hjn, rdi, rdj, q0, q1, q2, q3]
      refine rcallH_rc (l3Span_rc _ _ k i j (hx'.caseV hc) hg (by omega) (by omega)) ?_
      rintro rr2 new2 ⟨rfl, nr2⟩
      have ost := oa'.st (off := i) (x := min (bmin k n i (bwdF k n r) x) (spanF k i j + (bwdF k n r).getD x 0)) (by omega)
      rw [set_rep] at ost
      simp (config := {implicitDefEqProofs := false, maxDischargeDepth := 20}) (disch := first | omega | (simp only [lenE]; done) | (simp only [lenE]; omega) | rfl | (simp only [lenE, markR_len]; done) | (simp only [lenE, markR_len]; omega)) only [runE, mapE, listE, initT_5, initT_6, initT_7, initT_8, resV, oneV, binA, unA, reduceCtorEq, Nat.reduceEqDiff, Nat.reduceAdd, Nat.reduceLT, Nat.reduceLeDiff, Nat.reduceMul, Nat.reduceSub, ↓reduceIte, decide_true, decide_false, Bool.true_eq_false, Bool.false_eq_true, Bool.not_true, Bool.not_false, if_true, if_false, and_true, true_and, memE, celE, w64, Nat.zero_add, Nat.add_zero, Nat.mul_one, putL, and_self, ldn, w1, w3, w4, w5, w6, um]
      refine rcallH_rc (l1Least_rc _ _ _) ?_
      rintro r3 new3 ⟨rfl, rfl⟩
      simp (config := {implicitDefEqProofs := false, maxDischargeDepth := 20}) (disch := first | omega | (simp only [lenE]; done) | (simp only [lenE]; omega) | rfl | (simp only [lenE, markR_len]; done) | (simp only [lenE, markR_len]; omega)) only [runE, mapE, listE, initT_5, initT_6, initT_7, initT_8, resV, oneV, binA, unA, reduceCtorEq, Nat.reduceEqDiff, Nat.reduceAdd, Nat.reduceLT, Nat.reduceLeDiff, Nat.reduceMul, Nat.reduceSub, ↓reduceIte, decide_true, decide_false, Bool.true_eq_false, Bool.false_eq_true, Bool.not_true, Bool.not_false, if_true, if_false, and_true, true_and, memE, celE, w64, Nat.zero_add, Nat.add_zero, Nat.mul_one, putL, and_self, ldn, w1, w3, w4, w5, w6, um, iadA_in hi, ost]
      refine ⟨⟨x + 1, _, by omega, by simp; omega, rfl, ?_, ?_⟩, by simp [intOf]; omega⟩
      · exact (hx'.put (by simp [roM_len]; omega) _ _).app nr2
      · rw [bmin, ← hj]
        exact (OwnR.set_self oa').ext _
    · have hxe : x = r := by omega
      subst hxe
      have hlt2' : ¬ (((i + 1 + x : Nat) : Int) < n) := by omega
      simp (config := {implicitDefEqProofs := false, maxDischargeDepth := 20}) (disch := first | omega | (simp only [lenE]; done) | (simp only [lenE]; omega) | rfl | (simp only [lenE, markR_len]; done) | (simp only [lenE, markR_len]; omega)) only [runE, mapE, listE, initT_5, initT_6, initT_7, initT_8, resV, oneV, binA, unA, reduceCtorEq, Nat.reduceEqDiff, Nat.reduceAdd, Nat.reduceLT, Nat.reduceLeDiff, Nat.reduceMul, Nat.reduceSub, ↓reduceIte, decide_true, decide_false, Bool.true_eq_false, Bool.false_eq_true, Bool.not_true, Bool.not_false, if_true, if_false, and_true, true_and, memE, celE, w64, Nat.zero_add, Nat.add_zero, Nat.mul_one, putL, and_self, ldn, w1, w3, w4, w5, w6, um, hlt2']
      refine ⟨⟨x + 1, _, id, by omega, rfl, by congr 1; omega, rfl, hx', ?_, lid⟩, by simp [intOf] <;> omega⟩
      rw [bwdF, show n - (x + 1) = i by omega]
      exact oa'
  · have hre : r = n := by omega
    subst hre
    have hge : ¬ ((0 : Int) ≤ (r : Int) - 1 - r) := by omega
    simp (config := {implicitDefEqProofs := false, maxDischargeDepth := 20}) (disch := first | omega | (simp only [lenE]; done) | (simp only [lenE]; omega) | rfl | (simp only [lenE, markR_len]; done) | (simp only [lenE, markR_len]; omega)) only [runE, mapE, listE, initT_5, initT_6, initT_7, initT_8, resV, oneV, binA, unA, reduceCtorEq, Nat.reduceEqDiff, Nat.reduceAdd, Nat.reduceLT, Nat.reduceLeDiff, Nat.reduceMul, Nat.reduceSub, ↓reduceIte, decide_true, decide_false, Bool.true_eq_false, Bool.false_eq_true, Bool.not_true, Bool.not_false, if_true, if_false, and_true, true_and, memE, celE, w64, Nat.zero_add, Nat.add_zero, Nat.mul_one, putL, and_self, ldn, t1, t3, t4, t5, tm, ge_iff_le, hge]
    have bl := bwdF_len k r r
    rw [show r - r = 0 by omega] at oa
    exact ext_ansR hx.ext oa (by omega) (by simp [bl]) (by simp [bl]; omega)

def backA (k : Cs) : List Int := if k.good then bwdL k else []
theorem backA_no {k : Cs} (h : k.good = false) : backA k = [] := by unfold backA; rw [h]; rfl
theorem backA_yes {k : Cs} (h : k.good = true) : backA k = bwdL k := by unfold backA; rw [h]; rfl
def horA (k : Cs) : List Int := if k.good then horP k (fwdL k k.need.length) k.need.length else []
theorem horA_no {k : Cs} (h : k.good = false) : horA k = [] := by unfold horA; rw [h]; rfl
theorem horA_yes {k : Cs} (h : k.good = true) : horA k = horP k (fwdL k k.need.length) k.need.length := by unfold horA; rw [h]; rfl

theorem horP_s (k : Cs) (ls : List Int) (t : Nat) : horP k ls (t + 1) = if horAt k ls t then horP k ls t ++ [((t : Int) + 1)] else horP k ls t := rfl
end Go.Proofs.Ytonpeflncnccdaa.Ab
