/- What the law needs of the texts that it rests on. -/
import Derived.Test.YtibkaclkaigflaaShFnHorizons1
section
namespace Go.Proofs.Ytibkaclkaigflaa.Ab
open Go Go.RowKit
set_option linter.unusedVariables false
set_option linter.unusedSimpArgs false
theorem OwnR.rd {M : Mem} {id i : Nat} {L : List Int} (h : OwnR M id L) (hi : i < L.length) : rdc M id i = some (.int .i64 (L.getD i 0)) := by
  unfold rdc
  rw [show M[id]? = some (rowB L) from h]
  simp [hi]
theorem set_rep (i : Nat) (a v : Int) (T : List Int) : (List.replicate i 0 ++ a :: T).set i v = List.replicate i 0 ++ v :: T := by
  rw [List.set_append_right _ _ (by simp)]; simp
theorem getD_rep0 (i : Nat) (a : Int) (T : List Int) : (List.replicate i 0 ++ a :: T).getD i 0 = a := by
  rw [List.getD_eq_getElem?_getD, List.getElem?_append_right (by simp)]; simp
theorem getD_rep1 (i x : Nat) (a : Int) (T : List Int) : (List.replicate i 0 ++ a :: T).getD (i + 1 + x) 0 = T.getD x 0 := by
  rw [List.getD_eq_getElem?_getD, List.getElem?_append_right (by simp; omega), List.length_replicate, show i + 1 + x - i = x + 1 by omega, List.getElem?_cons_succ, List.getD_eq_getElem?_getD]
theorem rep_one (i : Nat) (T : List Int) : List.replicate (i + 1) (0 : Int) ++ T = List.replicate i 0 ++ 0 :: T := by
  rw [List.replicate_succ', List.append_assoc]; rfl

theorem backwardTable_rc (m : Mem) (v : Value) (k : Cs) (h : CaseA m v k) (hg : Good k) :
    RC Try.prog 30 [v] m (AnsR m (bwdL k)) := by
  refine rc_of_run mixed ok_impl_backwardTable (by simp) (go_start _ _ _ ?_)
  obtain ⟨v1, v2, v3, v4, rfl, h1, h2, h3, h4⟩ := h.ro.ok
  have hc : CaseA (roM m) (.agg #[v1, v2, v3, v4]) k := ⟨_, _, _, _, rfl, h1, h2, h3, h4⟩
  have h8 := hg.n8
  unfold bwdL
  generalize hn : k.need.length = n at h8
  have mk : ∀ M : Mem, mksA M 3 8 [.int .i64 0] (.int .i64 ((n : Int) + 1)) (.int .i64 ((n : Int) + 1)) = some (.slice (some ⟨M.length, 0, none⟩) (n + 1) 1, M ++ [⟨.own, 3, List.replicate (n + 1) (.int .i64 0)⟩]) := fun M => mksA_eq (by simp) (by omega)
  have hl1 := h1.len
  rw [hn] at hl1
  simp (config := {implicitDefEqProofs := false, maxDischargeDepth := 20}) (disch := first | omega | (simp only [lenE]; done) | (simp only [lenE]; omega) | rfl | (simp only [lenE, markR_len]; done) | (simp only [lenE, markR_len]; omega)) only [runE, mapE, listE, initT_5, initT_6, initT_7, initT_8, resV, oneV, binA, unA, reduceCtorEq, Nat.reduceEqDiff, Nat.reduceAdd, Nat.reduceLT, Nat.reduceLeDiff, Nat.reduceMul, Nat.reduceSub, ↓reduceIte, decide_true, decide_false, Bool.true_eq_false, Bool.false_eq_true, Bool.not_true, Bool.not_false, if_true, if_false, and_true, true_and, memE, celE, w64, Nat.zero_add, Nat.add_zero, Nat.mul_one, putL, and_self, ldn, c_impl_backwardTable, r_impl_backwardTable, hl1, mk]
  refine loop_inv mixed (fun s => ∃ (r : Nat) (M : Mem) (id : Nat), r ≤ n ∧ s.t 1 = .pointer (some ⟨m.length, 0, none⟩) ∧ s.t 3 = .int .i64 n ∧ s.t 4 = .slice (some ⟨id, 0, none⟩) (n + 1) 1 ∧ s.t 5 = .int .i64 ((n : Int) - 1 - r) ∧ s.m = M ∧ Grow (roM m ++ [⟨.own, 26, [v1, v2, v3, v4]⟩]) M ∧ OwnR M id (List.replicate (n - r) 0 ++ bwdF k n r) ∧ m.length < id) (fun s => (intOf (s.t 5) + 1).toNat)
    ⟨0, _, m.length + 1, by omega, rfl, rfl, rfl, by simp only [put_t, put_t', put_m, putT_t, putT_t', putT_m, init_t, init_m, initT_0, initT_1, initT_2, initT_3, initT_4, initT_5, initT_6, initT_7, initT_8, Nat.reduceEqDiff, ↓reduceIte]; simp, rfl, (Grow.refl _).one _ _, ?_, by omega⟩ ?_
  · have := OwnR.zeros (m := roM m ++ [⟨.own, 26, [v1, v2, v3, v4]⟩]) (n := n + 1) (id := m.length + 1) (by simp [roM_len])
    have e : List.replicate (n - 0) (0 : Int) ++ bwdF k n 0 = List.replicate (n + 1) 0 := by rw [List.replicate_succ']; rfl
    rw [e]; exact this
  rintro s ⟨r, M, id, hr, t1, t3, t4, t5, tm, hx, oa, lid⟩
  obtain ⟨r0, r1, r2, r3, hlM⟩ := hx.box4
  have lM := oa.lt
  by_cases hlt : r < n
  · obtain ⟨i, hi0⟩ : ∃ i : Nat, i + r + 1 = n := ⟨n - 1 - r, by omega⟩
    have hge : (0 : Int) ≤ (n : Int) - 1 - r := by omega
    have ei : (n : Int) - 1 - r = (i : Int) := by omega
    have hge' : (0 : Int) ≤ (i : Int) := by omega
    have hi : i < n + 1 := by omega
    rw [ei] at t5
    rw [show n - r = i + 1 by omega, rep_one] at oa
    have bl := bwdF_len k n r
    have bll : (List.replicate i (0 : Int) ++ 0 :: bwdF k n r).length = n + 1 := by simp [bl]; omega
    simp (config := {implicitDefEqProofs := false, maxDischargeDepth := 20}) (disch := first | omega | (simp only [lenE]; done) | (simp only [lenE]; omega) | rfl | (simp only [lenE, markR_len]; done) | (simp only [lenE, markR_len]; omega)) only [runE, mapE, listE, initT_5, initT_6, initT_7, initT_8, resV, oneV, binA, unA, reduceCtorEq, Nat.reduceEqDiff, Nat.reduceAdd, Nat.reduceLT, Nat.reduceLeDiff, Nat.reduceMul, Nat.reduceSub, ↓reduceIte, decide_true, decide_false, Bool.true_eq_false, Bool.false_eq_true, Bool.not_true, Bool.not_false, if_true, if_false, and_true, true_and, memE, celE, w64, Nat.zero_add, Nat.add_zero, Nat.mul_one, putL, and_self, ldn, t1, t3, t4, t5, tm, ge_iff_le, hge', r0, r1, r2, r3]
    refine callH_rc (orderCost_rc _ _ k i n (hx.caseV hc) hg (by omega) (by omega)) ?_
    rintro rr new ⟨rfl, nr⟩
    have ost := oa.st (off := i) (x := spanF k i n) (by omega)
    rw [set_rep] at ost
    simp (config := {implicitDefEqProofs := false, maxDischargeDepth := 20}) (disch := first | omega | (simp only [lenE]; done) | (simp only [lenE]; omega) | rfl | (simp only [lenE, markR_len]; done) | (simp only [lenE, markR_len]; omega)) only [runE, mapE, listE, initT_5, initT_6, initT_7, initT_8, resV, oneV, binA, unA, reduceCtorEq, Nat.reduceEqDiff, Nat.reduceAdd, Nat.reduceLT, Nat.reduceLeDiff, Nat.reduceMul, Nat.reduceSub, ↓reduceIte, decide_true, decide_false, Bool.true_eq_false, Bool.false_eq_true, Bool.not_true, Bool.not_false, if_true, if_false, and_true, true_and, memE, celE, w64, Nat.zero_add, Nat.add_zero, Nat.mul_one, putL, and_self, ldn, t1, t3, t4, t5, tm, iadA_in hi, ost]
    refine loop_inv mixed (fun s => ∃ (x : Nat) (M' : Mem), x ≤ r ∧ s.t 1 = .pointer (some ⟨m.length, 0, none⟩) ∧ s.t 3 = .int .i64 n ∧ s.t 4 = .slice (some ⟨id, 0, none⟩) (n + 1) 1 ∧ s.t 5 = .int .i64 i ∧ s.t 6 = .int .i64 (i + 1 + x : Nat) ∧ s.m = M' ∧ Grow (roM m ++ [⟨.own, 26, [v1, v2, v3, v4]⟩]) M' ∧ OwnR M' id (List.replicate i 0 ++ bmin k n i (bwdF k n r) x :: bwdF k n r)) (fun s => n - (intOf (s.t 6)).toNat)
      ⟨0, _, by omega, by simp only [put_t, put_t', put_m, putT_t, putT_t', putT_m, init_t, init_m, initT_0, initT_1, initT_2, initT_3, initT_4, initT_5, initT_6, initT_7, initT_8, Nat.reduceEqDiff, ↓reduceIte, t1], by simp only [put_t, put_t', put_m, putT_t, putT_t', putT_m, init_t, init_m, initT_0, initT_1, initT_2, initT_3, initT_4, initT_5, initT_6, initT_7, initT_8, Nat.reduceEqDiff, ↓reduceIte, t3], by simp only [put_t, put_t', put_m, putT_t, putT_t', putT_m, init_t, init_m, initT_0, initT_1, initT_2, initT_3, initT_4, initT_5, initT_6, initT_7, initT_8, Nat.reduceEqDiff, ↓reduceIte, t4], by simp only [put_t, put_t', put_m, putT_t, putT_t', putT_m, init_t, init_m, initT_0, initT_1, initT_2, initT_3, initT_4, initT_5, initT_6, initT_7, initT_8, Nat.reduceEqDiff, ↓reduceIte, t5], by simp only [put_t, put_t', put_m, putT_t, putT_t', putT_m, init_t, init_m, initT_0, initT_1, initT_2, initT_3, initT_4, initT_5, initT_6, initT_7, initT_8, Nat.reduceEqDiff, ↓reduceIte]; simp, rfl, ?_, ?_⟩ ?_
    · exact (hx.put (by simp [roM_len]; omega) _ _).app nr
    · exact (OwnR.set_self oa).ext _
    clear ost
    rintro s2 ⟨x, M', hxr, w1, w3, w4, w5, w6, um, hx', oa'⟩
    obtain ⟨q0, q1, q2, q3, hlM'⟩ := hx'.box4
    have lM' := oa'.lt
    have bl2 : (List.replicate i (0 : Int) ++ bmin k n i (bwdF k n r) x :: bwdF k n r).length = n + 1 := by simp [bl]; omega
    by_cases hlt2 : x < r
    · obtain ⟨j, hj⟩ : ∃ j, j = i + 1 + x := ⟨_, rfl⟩
      have hjn : j < n + 1 := by omega
      have hlt2' : (j : Int) < n := by omega
      rw [← hj] at w6
      have ei : i = n - (r + 1) := by omega
      have b1 := bmin_in hg (n := n) (m := r) (x := x) (by omega) (by omega) (by omega)
      rw [← ei] at b1
      have b2 := getD_bound (m := 13059) (by omega) (bwdF_in hg n r (by omega) (by omega)) x
      have b3 := spanF_in hg (i := i) (j := j) (by omega) (by omega)
      have rdi := oa'.rd (i := i) (by omega)
      have rdj := oa'.rd (i := j) (by omega)
      rw [getD_rep0] at rdi
      rw [hj, getD_rep1, ← hj] at rdj
      simp (config := {implicitDefEqProofs := false, maxDischargeDepth := 20}) (disch := first | omega | (simp only [lenE]; done) | (simp only [lenE]; omega) | rfl | (simp only [lenE, markR_len]; done) | (simp only [lenE, markR_len]; omega)) only [runE, mapE, listE, initT_5, initT_6, initT_7, initT_8, resV, oneV, binA, unA, reduceCtorEq, Nat.reduceEqDiff, Nat.reduceAdd, Nat.reduceLT, Nat.reduceLeDiff, Nat.reduceMul, Nat.reduceSub, ↓reduceIte, decide_true, decide_false, Bool.true_eq_false, Bool.false_eq_true, Bool.not_true, Bool.not_false, if_true, if_false, and_true, true_and, memE, celE, w64, Nat.zero_add, Nat.add_zero, Nat.mul_one, putL, and_self, ldn, w1, w3, w4, w5, w6, um, hlt2', iadA_in hi, iadA_in hjn, rdi, rdj, q0, q1, q2, q3]
      refine rcallH_rc (orderCost_rc _ _ k i j (hx'.caseV hc) hg (by omega) (by omega)) ?_
      rintro rr2 new2 ⟨rfl, nr2⟩
      have ost := oa'.st (off := i) (x := min (bmin k n i (bwdF k n r) x) (spanF k i j + (bwdF k n r).getD x 0)) (by omega)
      rw [set_rep] at ost
      simp (config := {implicitDefEqProofs := false, maxDischargeDepth := 20}) (disch := first | omega | (simp only [lenE]; done) | (simp only [lenE]; omega) | rfl | (simp only [lenE, markR_len]; done) | (simp only [lenE, markR_len]; omega)) only [runE, mapE, listE, initT_5, initT_6, initT_7, initT_8, resV, oneV, binA, unA, reduceCtorEq, Nat.reduceEqDiff, Nat.reduceAdd, Nat.reduceLT, Nat.reduceLeDiff, Nat.reduceMul, Nat.reduceSub, ↓reduceIte, decide_true, decide_false, Bool.true_eq_false, Bool.false_eq_true, Bool.not_true, Bool.not_false, if_true, if_false, and_true, true_and, memE, celE, w64, Nat.zero_add, Nat.add_zero, Nat.mul_one, putL, and_self, ldn, w1, w3, w4, w5, w6, um, iadA_in hi, ost]
      refine ⟨⟨x + 1, _, by omega, by simp; omega, rfl, ?_, ?_⟩, by simp [intOf]; omega⟩
      · exact (hx'.put (by simp [roM_len]; omega) _ _).app nr2
      · rw [bmin, ← hj]
        exact (OwnR.set_self oa').ext _
    · have hxe : x = r := by omega
      subst hxe
      have hlt2' : ¬ (((i + 1 + x : Nat) : Int) < n) := by omega
      simp (config := {implicitDefEqProofs := false, maxDischargeDepth := 20}) (disch := first | omega | (simp only [lenE]; done) | (simp only [lenE]; omega) | rfl | (simp only [lenE, markR_len]; done) | (simp only [lenE, markR_len]; omega)) only [runE, mapE, listE, initT_5, initT_6, initT_7, initT_8, resV, oneV, binA, unA, reduceCtorEq, Nat.reduceEqDiff, Nat.reduceAdd, Nat.reduceLT, Nat.reduceLeDiff, Nat.reduceMul, Nat.reduceSub, ↓reduceIte, decide_true, decide_false, Bool.true_eq_false, Bool.false_eq_true, Bool.not_true, Bool.not_false, if_true, if_false, and_true, true_and, memE, celE, w64, Nat.zero_add, Nat.add_zero, Nat.mul_one, putL, and_self, ldn, w1, w3, w4, w5, w6, um, hlt2']
      refine ⟨⟨x + 1, _, id, by omega, rfl, by congr 1; omega, rfl, hx', ?_, lid⟩, by simp [intOf] <;> omega⟩
      rw [bwdF, show n - (x + 1) = i by omega]
      exact oa'
  · have hre : r = n := by omega
    subst hre
    have hge : ¬ ((0 : Int) ≤ (r : Int) - 1 - r) := by omega
    simp (config := {implicitDefEqProofs := false, maxDischargeDepth := 20}) (disch := first | omega | (simp only [lenE]; done) | (simp only [lenE]; omega) | rfl | (simp only [lenE, markR_len]; done) | (simp only [lenE, markR_len]; omega)) only [runE, mapE, listE, initT_5, initT_6, initT_7, initT_8, resV, oneV, binA, unA, reduceCtorEq, Nat.reduceEqDiff, Nat.reduceAdd, Nat.reduceLT, Nat.reduceLeDiff, Nat.reduceMul, Nat.reduceSub, ↓reduceIte, decide_true, decide_false, Bool.true_eq_false, Bool.false_eq_true, Bool.not_true, Bool.not_false, if_true, if_false, and_true, true_and, memE, celE, w64, Nat.zero_add, Nat.add_zero, Nat.mul_one, putL, and_self, ldn, t1, t3, t4, t5, tm, ge_iff_le, hge]
    have bl := bwdF_len k r r
    rw [show r - r = 0 by omega] at oa
    exact ext_ansR hx.ext oa (by omega) (by simp [bl]) (by simp [bl]; omega)

def horA (k : Cs) : List Int := if k.good then horP k (fwdL k k.need.length) k.need.length else []
theorem horA_no {k : Cs} (h : k.good = false) : horA k = [] := by unfold horA; rw [h]; rfl
theorem horA_yes {k : Cs} (h : k.good = true) : horA k = horP k (fwdL k k.need.length) k.need.length := by unfold horA; rw [h]; rfl

theorem horP_s (k : Cs) (ls : List Int) (t : Nat) : horP k ls (t + 1) = if horAt k ls t then horP k ls t ++ [((t : Int) + 1)] else horP k ls t := rfl
theorem specHor_rc (m : Mem) (v : Value) (k : Cs) (h : CaseA m v k) : RC Try.prog 7 [v] m (AnsL m (horA k) k.good) := by
  refine rc_of_run mixed ok_spec_HorizonsOf (by simp) (go_start _ _ _ ?_)
  obtain ⟨v1, v2, v3, v4, rfl, h1, h2, h3, h4⟩ := h.ro.ok
  have hc : CaseA (roM m) (.agg #[v1, v2, v3, v4]) k := ⟨_, _, _, _, rfl, h1, h2, h3, h4⟩
  simp (config := {implicitDefEqProofs := false, maxDischargeDepth := 20}) (disch := first | omega | (simp only [lenE]; done) | (simp only [lenE]; omega) | rfl | (simp only [lenE, markR_len]; done) | (simp only [lenE, markR_len]; omega)) only [runE, mapE, listE, initT_5, initT_6, initT_7, initT_8, resV, oneV, binA, unA, reduceCtorEq, Nat.reduceEqDiff, Nat.reduceAdd, Nat.reduceLT, Nat.reduceLeDiff, Nat.reduceMul, Nat.reduceSub, ↓reduceIte, decide_true, decide_false, Bool.true_eq_false, Bool.false_eq_true, Bool.not_true, Bool.not_false, if_true, if_false, and_true, true_and, memE, celE, w64, Nat.zero_add, Nat.add_zero, Nat.mul_one, putL, and_self, ldn, c_spec_HorizonsOf, r_spec_HorizonsOf, bsl_none]
  refine callH_rc (l2Good_rc _ _ k ((hc.ext _).ext _)) ?_
  rintro r new ⟨rfl, nr1⟩
  have o0 : OwnR (roM m ++ [⟨.own, 26, [v1, v2, v3, v4]⟩] ++ [⟨.own, 3, []⟩] ++ new) (m.length + 1) [] := (OwnR.end' (l := []) (by simp [roM_len])).ext _
  have hx : Grow (roM m ++ [⟨.own, 26, [v1, v2, v3, v4]⟩]) (roM m ++ [⟨.own, 26, [v1, v2, v3, v4]⟩] ++ [⟨.own, 3, []⟩] ++ new) := ((Grow.refl _).one _ _).app nr1
  cases hg : k.good with
  | false =>
    simp (config := {implicitDefEqProofs := false, maxDischargeDepth := 20}) (disch := first | omega | (simp only [lenE]; done) | (simp only [lenE]; omega) | rfl | (simp only [lenE, markR_len]; done) | (simp only [lenE, markR_len]; omega)) only [runE, mapE, listE, initT_5, initT_6, initT_7, initT_8, resV, oneV, binA, unA, reduceCtorEq, Nat.reduceEqDiff, Nat.reduceAdd, Nat.reduceLT, Nat.reduceLeDiff, Nat.reduceMul, Nat.reduceSub, ↓reduceIte, decide_true, decide_false, Bool.true_eq_false, Bool.false_eq_true, Bool.not_true, Bool.not_false, if_true, if_false, and_true, true_and, memE, celE, w64, Nat.zero_add, Nat.add_zero, Nat.mul_one, putL, and_self, ldn, bsl_none]
    rw [horA_no hg]
    exact ext_ansL hx.ext o0 (by omega) rfl (by simp)
  | true =>
    have gd := good_iff.1 hg
    have h8 := gd.n8
    rw [horA_yes hg]
    simp (config := {implicitDefEqProofs := false, maxDischargeDepth := 20}) (disch := first | omega | (simp only [lenE]; done) | (simp only [lenE]; omega) | rfl | (simp only [lenE, markR_len]; done) | (simp only [lenE, markR_len]; omega)) only [runE, mapE, listE, initT_5, initT_6, initT_7, initT_8, resV, oneV, binA, unA, reduceCtorEq, Nat.reduceEqDiff, Nat.reduceAdd, Nat.reduceLT, Nat.reduceLeDiff, Nat.reduceMul, Nat.reduceSub, ↓reduceIte, decide_true, decide_false, Bool.true_eq_false, Bool.false_eq_true, Bool.not_true, Bool.not_false, if_true, if_false, and_true, true_and, memE, celE, w64, Nat.zero_add, Nat.add_zero, Nat.mul_one, putL, and_self, ldn]
    refine callH_rc (l3Forward_rc _ _ k (hx.caseV hc) gd) ?_
    intro r new2 hA
    obtain ⟨d1, d2, f1, f2, rfl, l1, l2, o1, o2, nr2⟩ := hA.rows
    have hx2 := hx.app nr2
    have o02 := o0.ext new2
    simp only [List.length_append, List.length_cons, List.length_nil, roM_len] at l1 l2
    have ll := fwdL_len k k.need.length
    have hle := fun t => horP_len k (fwdL k k.need.length) t
    obtain ⟨ls, hls⟩ : ∃ ls, ls = fwdL k k.need.length := ⟨_, rfl⟩
    rw [← hls] at o2 ll hle ⊢
    obtain ⟨M0, hM0⟩ : ∃ M0, M0 = roM m ++ [⟨.own, 26, [v1, v2, v3, v4]⟩] ++ [⟨.own, 3, []⟩] ++ new ++ new2 := ⟨_, rfl⟩
    simp (config := {implicitDefEqProofs := false, maxDischargeDepth := 20}) (disch := first | omega | (simp only [lenE]; done) | (simp only [lenE]; omega) | rfl | (simp only [lenE, markR_len]; done) | (simp only [lenE, markR_len]; omega)) only [runE, mapE, listE, initT_5, initT_6, initT_7, initT_8, resV, oneV, binA, unA, reduceCtorEq, Nat.reduceEqDiff, Nat.reduceAdd, Nat.reduceLT, Nat.reduceLeDiff, Nat.reduceMul, Nat.reduceSub, ↓reduceIte, decide_true, decide_false, Bool.true_eq_false, Bool.false_eq_true, Bool.not_true, Bool.not_false, if_true, if_false, and_true, true_and, memE, celE, w64, Nat.zero_add, Nat.add_zero, Nat.mul_one, putL, and_self, ldn, ext_2_0, ext_2_1]
    rw [← hM0] at hx2 o02 o2 ⊢
    refine loop_inv mixed (fun s => ∃ (t j : Nat) (M : Mem) (id : Nat), j = t + 1 ∧ t ≤ k.need.length ∧ s.t 1 = .pointer (some ⟨m.length, 0, none⟩) ∧ s.t 4 = .slice (some ⟨id, 0, none⟩) (horP k ls t).length 1 ∧ s.t 6 = .slice (some ⟨d2, 0, none⟩) ls.length f2 ∧ s.t 7 = .int .i64 j ∧ s.m = M ∧ Grow (roM m ++ [⟨.own, 26, [v1, v2, v3, v4]⟩]) M ∧ OwnR M id (horP k ls t) ∧ OwnR M d2 ls ∧ id ≠ d2 ∧ m.length < id) (fun s => k.need.length + 1 - (intOf (s.t 7)).toNat)
      ⟨0, 1, M0, m.length + 1, rfl, by omega, rfl, rfl, rfl, rfl, rfl, hx2, o02, o2, by omega, by omega⟩ ?_
    rintro s ⟨t, j, M, id, hj, hk, t1, t4, t6, t7, tm, hxM, oh, ol, hne, lid⟩
    obtain ⟨r0, r1, r2, r3, hlM⟩ := hxM.box4
    have li := ol.ints (by omega) f2
    by_cases hlt : t < k.need.length
    · have hlt' : (j : Int) ≤ ls.length := by omega
      have ej : (j : Int) - 1 = (t : Int) := by omega
      have i1 := hxM.intsV h1
      have hlt2 := hle t
      have ap := fun id2 n => app_genH (M := M) (x := (j : Int)) (id2 := id2) (n := n) oh (by omega)
      by_cases ha : ls.getD t 0 = (t : Int)
      · have ha' : (ls.getD t 0 == (t : Int)) = true := by simp only [beq_iff_eq]; exact ha
        by_cases hb : 0 < k.need.getD t 0
        · have hat : horAt k ls t = true := by unfold horAt; rw [ha', decide_eq_true hb]; rfl
          simp (config := {implicitDefEqProofs := false, maxDischargeDepth := 20}) (disch := first | omega | (simp only [lenE]; done) | (simp only [lenE]; omega) | rfl | (simp only [lenE, markR_len]; done) | (simp only [lenE, markR_len]; omega)) only [runE, mapE, listE, initT_5, initT_6, initT_7, initT_8, resV, oneV, binA, unA, reduceCtorEq, Nat.reduceEqDiff, Nat.reduceAdd, Nat.reduceLT, Nat.reduceLeDiff, Nat.reduceMul, Nat.reduceSub, ↓reduceIte, decide_true, decide_false, Bool.true_eq_false, Bool.false_eq_true, Bool.not_true, Bool.not_false, if_true, if_false, and_true, true_and, memE, celE, w64, Nat.zero_add, Nat.add_zero, Nat.mul_one, putL, and_self, ldn, t1, t4, t6, t7, tm, hlt', ej, li.at_ t (by omega), li.ld t (by omega), ha', r0, i1.at_ t (by omega), i1.ld t (by omega), gt_iff_lt, hb, bsl_one, ap]
          refine ⟨⟨t + 1, j + 1, _, M.length + 1, by omega, by omega, by rw [horP_s, if_pos hat, List.length_append]; rfl, by simp, rfl, ((hxM.dead ?_).one _ _).one _ _, ?_, ((ol.dead hne).ext _).ext _, ?_, ?_⟩, by simp [intOf]; omega⟩
          · simp [roM_len]; omega
          · rw [horP_s, if_pos hat, ← show (j : Int) = (t : Int) + 1 by omega]
            exact OwnR.end' (l := horP k ls t ++ [(j : Int)]) (by simp)
          · have := ol.lt; omega
          · omega
        · have hat : horAt k ls t = false := by unfold horAt; rw [ha', decide_eq_false hb]; rfl
          simp (config := {implicitDefEqProofs := false, maxDischargeDepth := 20}) (disch := first | omega | (simp only [lenE]; done) | (simp only [lenE]; omega) | rfl | (simp only [lenE, markR_len]; done) | (simp only [lenE, markR_len]; omega)) only [runE, mapE, listE, initT_5, initT_6, initT_7, initT_8, resV, oneV, binA, unA, reduceCtorEq, Nat.reduceEqDiff, Nat.reduceAdd, Nat.reduceLT, Nat.reduceLeDiff, Nat.reduceMul, Nat.reduceSub, ↓reduceIte, decide_true, decide_false, Bool.true_eq_false, Bool.false_eq_true, Bool.not_true, Bool.not_false, if_true, if_false, and_true, true_and, memE, celE, w64, Nat.zero_add, Nat.add_zero, Nat.mul_one, putL, and_self, ldn, t1, t4, t6, t7, tm, hlt', ej, li.at_ t (by omega), li.ld t (by omega), ha', r0, i1.at_ t (by omega), i1.ld t (by omega), gt_iff_lt, hb]
          exact ⟨⟨t + 1, j + 1, _, id, by omega, by omega, by rw [horP_s, hat]; rfl, by simp, rfl, hxM, by rw [horP_s, hat]; exact oh, ol, hne, lid⟩, by simp [intOf]; omega⟩
      · have ha' : (ls.getD t 0 == (t : Int)) = false := by simp only [beq_eq_false_iff_ne]; exact ha
        have hat : horAt k ls t = false := by unfold horAt; rw [ha']; rfl
        simp (config := {implicitDefEqProofs := false, maxDischargeDepth := 20}) (disch := first | omega | (simp only [lenE]; done) | (simp only [lenE]; omega) | rfl | (simp only [lenE, markR_len]; done) | (simp only [lenE, markR_len]; omega)) only [runE, mapE, listE, initT_5, initT_6, initT_7, initT_8, resV, oneV, binA, unA, reduceCtorEq, Nat.reduceEqDiff, Nat.reduceAdd, Nat.reduceLT, Nat.reduceLeDiff, Nat.reduceMul, Nat.reduceSub, ↓reduceIte, decide_true, decide_false, Bool.true_eq_false, Bool.false_eq_true, Bool.not_true, Bool.not_false, if_true, if_false, and_true, true_and, memE, celE, w64, Nat.zero_add, Nat.add_zero, Nat.mul_one, putL, and_self, ldn, t1, t4, t6, t7, tm, hlt', ej, li.at_ t (by omega), li.ld t (by omega), ha']
        exact ⟨⟨t + 1, j + 1, _, id, by omega, by omega, by rw [horP_s, hat]; rfl, by simp, rfl, hxM, by rw [horP_s, hat]; exact oh, ol, hne, lid⟩, by simp [intOf]; omega⟩
    · have hlt' : ¬ ((j : Int) ≤ ls.length) := by omega
      have e : t = k.need.length := by omega
      subst e
      have := hle k.need.length
      simp (config := {implicitDefEqProofs := false, maxDischargeDepth := 20}) (disch := first | omega | (simp only [lenE]; done) | (simp only [lenE]; omega) | rfl | (simp only [lenE, markR_len]; done) | (simp only [lenE, markR_len]; omega)) only [runE, mapE, listE, initT_5, initT_6, initT_7, initT_8, resV, oneV, binA, unA, reduceCtorEq, Nat.reduceEqDiff, Nat.reduceAdd, Nat.reduceLT, Nat.reduceLeDiff, Nat.reduceMul, Nat.reduceSub, ↓reduceIte, decide_true, decide_false, Bool.true_eq_false, Bool.false_eq_true, Bool.not_true, Bool.not_false, if_true, if_false, and_true, true_and, memE, celE, w64, Nat.zero_add, Nat.add_zero, Nat.mul_one, putL, and_self, ldn, t1, t4, t6, t7, tm, hlt']
      exact ext_ansL hxM.ext oh (by omega) rfl (by omega)

theorem implHor_rc (m : Mem) (v : Value) (k : Cs) (h : CaseA m v k) : RC Try.prog 6 [v] m (AnsL m (horA k) k.good) := by
  refine rc_of_run mixed ok_impl_HorizonsOf (by simp) (go_start _ _ _ ?_)
  obtain ⟨v1, v2, v3, v4, rfl, h1, h2, h3, h4⟩ := h.ro.ok
  have hc : CaseA (roM m) (.agg #[v1, v2, v3, v4]) k := ⟨_, _, _, _, rfl, h1, h2, h3, h4⟩
  simp (config := {implicitDefEqProofs := false, maxDischargeDepth := 20}) (disch := first | omega | (simp only [lenE]; done) | (simp only [lenE]; omega) | rfl | (simp only [lenE, markR_len]; done) | (simp only [lenE, markR_len]; omega)) only [runE, mapE, listE, initT_5, initT_6, initT_7, initT_8, resV, oneV, binA, unA, reduceCtorEq, Nat.reduceEqDiff, Nat.reduceAdd, Nat.reduceLT, Nat.reduceLeDiff, Nat.reduceMul, Nat.reduceSub, ↓reduceIte, decide_true, decide_false, Bool.true_eq_false, Bool.false_eq_true, Bool.not_true, Bool.not_false, if_true, if_false, and_true, true_and, memE, celE, w64, Nat.zero_add, Nat.add_zero, Nat.mul_one, putL, and_self, ldn, c_impl_HorizonsOf, r_impl_HorizonsOf]
  refine callH_rc (implIsCase_rc _ _ k (hc.ext _)) ?_
  rintro r new ⟨rfl, nr1⟩
  have hx : Grow (roM m ++ [⟨.own, 26, [v1, v2, v3, v4]⟩]) (roM m ++ [⟨.own, 26, [v1, v2, v3, v4]⟩] ++ new) := (Grow.refl _).app nr1
  cases hg : k.good with
  | false =>
    simp (config := {implicitDefEqProofs := false, maxDischargeDepth := 20}) (disch := first | omega | (simp only [lenE]; done) | (simp only [lenE]; omega) | rfl | (simp only [lenE, markR_len]; done) | (simp only [lenE, markR_len]; omega)) only [runE, mapE, listE, initT_5, initT_6, initT_7, initT_8, resV, oneV, binA, unA, reduceCtorEq, Nat.reduceEqDiff, Nat.reduceAdd, Nat.reduceLT, Nat.reduceLeDiff, Nat.reduceMul, Nat.reduceSub, ↓reduceIte, decide_true, decide_false, Bool.true_eq_false, Bool.false_eq_true, Bool.not_true, Bool.not_false, if_true, if_false, and_true, true_and, memE, celE, w64, Nat.zero_add, Nat.add_zero, Nat.mul_one, putL, and_self, ldn, bsl_none]
    rw [horA_no hg]
    refine ext_ansL (hx.ext.one _ _) (OwnR.end' (l := []) ?_) (by omega) rfl (by simp)
    simp only [List.length_append, List.length_cons, List.length_nil, roM_len]
  | true =>
    have gd := good_iff.1 hg
    have h8 := gd.n8
    rw [horA_yes hg]
    simp (config := {implicitDefEqProofs := false, maxDischargeDepth := 20}) (disch := first | omega | (simp only [lenE]; done) | (simp only [lenE]; omega) | rfl | (simp only [lenE, markR_len]; done) | (simp only [lenE, markR_len]; omega)) only [runE, mapE, listE, initT_5, initT_6, initT_7, initT_8, resV, oneV, binA, unA, reduceCtorEq, Nat.reduceEqDiff, Nat.reduceAdd, Nat.reduceLT, Nat.reduceLeDiff, Nat.reduceMul, Nat.reduceSub, ↓reduceIte, decide_true, decide_false, Bool.true_eq_false, Bool.false_eq_true, Bool.not_true, Bool.not_false, if_true, if_false, and_true, true_and, memE, celE, w64, Nat.zero_add, Nat.add_zero, Nat.mul_one, putL, and_self, ldn]
    refine callH_rc (forwardTable_rc _ _ k (hx.caseV hc) gd) ?_
    intro r new2 hA
    obtain ⟨d1, d2, f1, f2, rfl, l1, l2, o1, o2, nr2⟩ := hA.rows
    have hx2 := hx.app nr2
    simp only [List.length_append, List.length_cons, List.length_nil, roM_len] at l1 l2
    have ll := fwdL_len k k.need.length
    have hle := fun t => horP_len k (fwdL k k.need.length) t
    obtain ⟨ls, hls⟩ : ∃ ls, ls = fwdL k k.need.length := ⟨_, rfl⟩
    rw [← hls] at o2 ll hle ⊢
    obtain ⟨M0, hM0⟩ : ∃ M0, M0 = roM m ++ [⟨.own, 26, [v1, v2, v3, v4]⟩] ++ new ++ new2 := ⟨_, rfl⟩
    simp (config := {implicitDefEqProofs := false, maxDischargeDepth := 20}) (disch := first | omega | (simp only [lenE]; done) | (simp only [lenE]; omega) | rfl | (simp only [lenE, markR_len]; done) | (simp only [lenE, markR_len]; omega)) only [runE, mapE, listE, initT_5, initT_6, initT_7, initT_8, resV, oneV, binA, unA, reduceCtorEq, Nat.reduceEqDiff, Nat.reduceAdd, Nat.reduceLT, Nat.reduceLeDiff, Nat.reduceMul, Nat.reduceSub, ↓reduceIte, decide_true, decide_false, Bool.true_eq_false, Bool.false_eq_true, Bool.not_true, Bool.not_false, if_true, if_false, and_true, true_and, memE, celE, w64, Nat.zero_add, Nat.add_zero, Nat.mul_one, putL, and_self, ldn, ext_2_0, ext_2_1, bsl_none]
    rw [← hM0] at hx2 o2 ⊢
    have L0 : M0.length = m.length + 1 + new.length + new2.length := by rw [hM0]; simp [roM_len]; omega
    have d2l := o2.lt
    refine loop_inv mixed (fun s => ∃ (t : Nat) (M : Mem) (id : Nat), t ≤ k.need.length ∧ s.t 1 = .pointer (some ⟨m.length, 0, none⟩) ∧ s.t 6 = .slice (some ⟨id, 0, none⟩) (horP k ls t).length 1 ∧ s.t 19 = .slice (some ⟨d2, 0, none⟩) ls.length f2 ∧ s.t 20 = .int .i64 ls.length ∧ s.t 21 = .int .i64 t ∧ s.m = M ∧ Grow (roM m ++ [⟨.own, 26, [v1, v2, v3, v4]⟩]) M ∧ OwnR M id (horP k ls t) ∧ OwnR M d2 ls ∧ id ≠ d2 ∧ m.length < id) (fun s => k.need.length - (intOf (s.t 21)).toNat)
      ⟨0, _, M0.length, by omega, rfl, by simp only [put_t, put_t', put_m, putT_t, putT_t', putT_m, init_t, init_m, initT_0, initT_1, initT_2, initT_3, initT_4, initT_5, initT_6, initT_7, initT_8, Nat.reduceEqDiff, ↓reduceIte]; rw [L0]; rfl, rfl, rfl, rfl, rfl, hx2.one _ _, OwnR.at_end M0 [], o2.ext _, by omega, by omega⟩ ?_
    rintro s ⟨t, M, id, hk, t1, t6, t19, t20, t21, tm, hxM, oh, ol, hne, lid⟩
    obtain ⟨r0, r1, r2, r3, hlM⟩ := hxM.box4
    have li := ol.ints (by omega) f2
    by_cases hlt : t < k.need.length
    · have hlt' : (t : Int) < ls.length := by omega
      have i1 := hxM.intsV h1
      have hlt2 := hle t
      have ap := fun id2 n => app_genH (M := M) (x := (t : Int) + 1) (id2 := id2) (n := n) oh (by omega)
      by_cases ha : ls.getD t 0 = (t : Int)
      · have ha' : (ls.getD t 0 == (t : Int)) = true := by simp only [beq_iff_eq]; exact ha
        by_cases hb : 0 < k.need.getD t 0
        · have hat : horAt k ls t = true := by unfold horAt; rw [ha', decide_eq_true hb]; rfl
          simp (config := {implicitDefEqProofs := false, maxDischargeDepth := 20}) (disch := first | omega | (simp only [lenE]; done) | (simp only [lenE]; omega) | rfl | (simp only [lenE, markR_len]; done) | (simp only [lenE, markR_len]; omega)) only [runE, mapE, listE, initT_5, initT_6, initT_7, initT_8, resV, oneV, binA, unA, reduceCtorEq, Nat.reduceEqDiff, Nat.reduceAdd, Nat.reduceLT, Nat.reduceLeDiff, Nat.reduceMul, Nat.reduceSub, ↓reduceIte, decide_true, decide_false, Bool.true_eq_false, Bool.false_eq_true, Bool.not_true, Bool.not_false, if_true, if_false, and_true, true_and, memE, celE, w64, Nat.zero_add, Nat.add_zero, Nat.mul_one, putL, and_self, ldn, t1, t6, t19, t20, t21, tm, hlt', li.at_ t (by omega), li.ld t (by omega), ha', r0, i1.at_ t (by omega), i1.ld t (by omega), gt_iff_lt, hb, bsl_one, ap]
          refine ⟨⟨t + 1, _, M.length + 1, by omega, by rw [horP_s, if_pos hat, List.length_append]; rfl, by simp, rfl, ((hxM.dead ?_).one _ _).one _ _, ?_, ((ol.dead hne).ext _).ext _, ?_, ?_⟩, by simp [intOf]; omega⟩
          · simp [roM_len]; omega
          · rw [horP_s, if_pos hat]
            exact OwnR.end' (l := horP k ls t ++ [(t : Int) + 1]) (by simp)
          · have := ol.lt; omega
          · omega
        · have hat : horAt k ls t = false := by unfold horAt; rw [ha', decide_eq_false hb]; rfl
          simp (config := {implicitDefEqProofs := false, maxDischargeDepth := 20}) (disch := first | omega | (simp only [lenE]; done) | (simp only [lenE]; omega) | rfl | (simp only [lenE, markR_len]; done) | (simp only [lenE, markR_len]; omega)) only [runE, mapE, listE, initT_5, initT_6, initT_7, initT_8, resV, oneV, binA, unA, reduceCtorEq, Nat.reduceEqDiff, Nat.reduceAdd, Nat.reduceLT, Nat.reduceLeDiff, Nat.reduceMul, Nat.reduceSub, ↓reduceIte, decide_true, decide_false, Bool.true_eq_false, Bool.false_eq_true, Bool.not_true, Bool.not_false, if_true, if_false, and_true, true_and, memE, celE, w64, Nat.zero_add, Nat.add_zero, Nat.mul_one, putL, and_self, ldn, t1, t6, t19, t20, t21, tm, hlt', li.at_ t (by omega), li.ld t (by omega), ha', r0, i1.at_ t (by omega), i1.ld t (by omega), gt_iff_lt, hb]
          exact ⟨⟨t + 1, _, id, by omega, by rw [horP_s, hat]; rfl, by simp, rfl, hxM, by rw [horP_s, hat]; exact oh, ol, hne, lid⟩, by simp [intOf]; omega⟩
      · have ha' : (ls.getD t 0 == (t : Int)) = false := by simp only [beq_eq_false_iff_ne]; exact ha
        have hat : horAt k ls t = false := by unfold horAt; rw [ha']; rfl
        simp (config := {implicitDefEqProofs := false, maxDischargeDepth := 20}) (disch := first | omega | (simp only [lenE]; done) | (simp only [lenE]; omega) | rfl | (simp only [lenE, markR_len]; done) | (simp only [lenE, markR_len]; omega)) only [runE, mapE, listE, initT_5, initT_6, initT_7, initT_8, resV, oneV, binA, unA, reduceCtorEq, Nat.reduceEqDiff, Nat.reduceAdd, Nat.reduceLT, Nat.reduceLeDiff, Nat.reduceMul, Nat.reduceSub, ↓reduceIte, decide_true, decide_false, Bool.true_eq_false, Bool.false_eq_true, Bool.not_true, Bool.not_false, if_true, if_false, and_true, true_and, memE, celE, w64, Nat.zero_add, Nat.add_zero, Nat.mul_one, putL, and_self, ldn, t1, t6, t19, t20, t21, tm, hlt', li.at_ t (by omega), li.ld t (by omega), ha']
        exact ⟨⟨t + 1, _, id, by omega, by rw [horP_s, hat]; rfl, by simp, rfl, hxM, by rw [horP_s, hat]; exact oh, ol, hne, lid⟩, by simp [intOf]; omega⟩
    · have hlt' : ¬ ((t : Int) < ls.length) := by omega
      have e : t = k.need.length := by omega
      subst e
      have := hle k.need.length
      simp (config := {implicitDefEqProofs := false, maxDischargeDepth := 20}) (disch := first | omega | (simp only [lenE]; done) | (simp only [lenE]; omega) | rfl | (simp only [lenE, markR_len]; done) | (simp only [lenE, markR_len]; omega)) only [runE, mapE, listE, initT_5, initT_6, initT_7, initT_8, resV, oneV, binA, unA, reduceCtorEq, Nat.reduceEqDiff, Nat.reduceAdd, Nat.reduceLT, Nat.reduceLeDiff, Nat.reduceMul, Nat.reduceSub, ↓reduceIte, decide_true, decide_false, Bool.true_eq_false, Bool.false_eq_true, Bool.not_true, Bool.not_false, if_true, if_false, and_true, true_and, memE, celE, w64, Nat.zero_add, Nat.add_zero, Nat.mul_one, putL, and_self, ldn, t1, t6, t19, t20, t21, tm, hlt']
      exact ext_ansL hxM.ext oh (by omega) rfl (by omega)
end Go.Proofs.Ytibkaclkaigflaa.Ab
end
section
namespace Go.Proofs.Ytibkaclkaigflaa.Ab
open Go Go.RowKit
set_option linter.unusedVariables false
set_option linter.unusedSimpArgs false
theorem test_turn (m : Mem) (id : Nat) (x0 : Int) (h : rdc m id 0 = some (.int .i64 x0)) :
    TestA m (.func (.func 32) #[] #[.pointer (some ⟨id, 0, none⟩)]) (fun x => x == x0) := by
  refine ⟨_, _, rfl, fun x m' hm => ?_⟩
  refine rc_of_run mixed ok_impl_TurningPeriods_1 (by simp) (go_start _ _ _ ?_)
  have h' : rdc (roM m') id 0 = some (.int .i64 x0) := by rw [rdc_roM]; exact hm _ _ _ h
  simp (config := {implicitDefEqProofs := false, maxDischargeDepth := 20}) (disch := first | omega | (simp only [lenE]; done) | (simp only [lenE]; omega) | rfl | (simp only [lenE, markR_len]; done) | (simp only [lenE, markR_len]; omega)) only [runE, mapE, listE, initT_5, initT_6, initT_7, initT_8, resV, oneV, binA, unA, reduceCtorEq, Nat.reduceEqDiff, Nat.reduceAdd, Nat.reduceLT, Nat.reduceLeDiff, Nat.reduceMul, Nat.reduceSub, ↓reduceIte, decide_true, decide_false, Bool.true_eq_false, Bool.false_eq_true, Bool.not_true, Bool.not_false, if_true, if_false, and_true, true_and, memE, celE, w64, Nat.zero_add, Nat.add_zero, Nat.mul_one, putL, and_self, ldn, c_impl_TurningPeriods_1, r_impl_TurningPeriods_1, h']
  exact newQ_nil ⟨rfl, rfl⟩
theorem picks_turn {k : Cs} {f : Int → Bool} {L : List Int} (t : Nat) (h : ∀ i, i < t → f (L.getD i 0) = turnAt k i) : picks f L t = turnP k t := by
  induction t with
  | zero => rfl
  | succ t ih => rw [picks, turnP, ih (fun i hi => h i (by omega)), h t (by omega)]
def turnA (k : Cs) : List Int := if k.good then turnP k (k.need.length + 1) else []
theorem turnA_no {k : Cs} (h : k.good = false) : turnA k = [] := by unfold turnA; rw [h]; rfl
theorem turnA_yes {k : Cs} (h : k.good = true) : turnA k = turnP k (k.need.length + 1) := by unfold turnA; rw [h]; rfl
theorem bwdL_in {k : Cs} (hg : Good k) : ∀ x ∈ bwdL k, 0 ≤ x ∧ x ≤ 13059 := bwdF_in hg _ _ (Nat.le_refl _) hg.n8
theorem bwdL_len (k : Cs) : (bwdL k).length = k.need.length + 1 := bwdF_len _ _ _

theorem implTurn_rc (m : Mem) (v : Value) (k : Cs) (h : CaseA m v k) : RC Try.prog 17 [v] m (AnsL m (turnA k) k.good) := by
  refine rc_of_run mixed ok_impl_TurningPeriods (by simp) (go_start _ _ _ ?_)
  obtain ⟨v1, v2, v3, v4, rfl, h1, h2, h3, h4⟩ := h.ro.ok
  have hc : CaseA (roM m) (.agg #[v1, v2, v3, v4]) k := ⟨_, _, _, _, rfl, h1, h2, h3, h4⟩
  simp (config := {implicitDefEqProofs := false, maxDischargeDepth := 20}) (disch := first | omega | (simp only [lenE]; done) | (simp only [lenE]; omega) | rfl | (simp only [lenE, markR_len]; done) | (simp only [lenE, markR_len]; omega)) only [runE, mapE, listE, initT_5, initT_6, initT_7, initT_8, resV, oneV, binA, unA, reduceCtorEq, Nat.reduceEqDiff, Nat.reduceAdd, Nat.reduceLT, Nat.reduceLeDiff, Nat.reduceMul, Nat.reduceSub, ↓reduceIte, decide_true, decide_false, Bool.true_eq_false, Bool.false_eq_true, Bool.not_true, Bool.not_false, if_true, if_false, and_true, true_and, memE, celE, w64, Nat.zero_add, Nat.add_zero, Nat.mul_one, putL, and_self, ldn, c_impl_TurningPeriods, r_impl_TurningPeriods]
  refine callH_rc (implIsCase_rc _ _ k (hc.ext _)) ?_
  rintro r new ⟨rfl, nr1⟩
  have hx : Grow (roM m ++ [⟨.own, 26, [v1, v2, v3, v4]⟩]) (roM m ++ [⟨.own, 26, [v1, v2, v3, v4]⟩] ++ new) := (Grow.refl _).app nr1
  cases hg : k.good with
  | false =>
    simp (config := {implicitDefEqProofs := false, maxDischargeDepth := 20}) (disch := first | omega | (simp only [lenE]; done) | (simp only [lenE]; omega) | rfl | (simp only [lenE, markR_len]; done) | (simp only [lenE, markR_len]; omega)) only [runE, mapE, listE, initT_5, initT_6, initT_7, initT_8, resV, oneV, binA, unA, reduceCtorEq, Nat.reduceEqDiff, Nat.reduceAdd, Nat.reduceLT, Nat.reduceLeDiff, Nat.reduceMul, Nat.reduceSub, ↓reduceIte, decide_true, decide_false, Bool.true_eq_false, Bool.false_eq_true, Bool.not_true, Bool.not_false, if_true, if_false, and_true, true_and, memE, celE, w64, Nat.zero_add, Nat.add_zero, Nat.mul_one, putL, and_self, ldn, bsl_none]
    rw [turnA_no hg]
    refine ext_ansL (hx.ext.one _ _) (OwnR.end' (l := []) ?_) (by omega) rfl (by simp)
    simp only [List.length_append, List.length_cons, List.length_nil, roM_len]
  | true =>
    have gd := good_iff.1 hg
    have h8 := gd.n8
    rw [turnA_yes hg]
    simp (config := {implicitDefEqProofs := false, maxDischargeDepth := 20}) (disch := first | omega | (simp only [lenE]; done) | (simp only [lenE]; omega) | rfl | (simp only [lenE, markR_len]; done) | (simp only [lenE, markR_len]; omega)) only [runE, mapE, listE, initT_5, initT_6, initT_7, initT_8, resV, oneV, binA, unA, reduceCtorEq, Nat.reduceEqDiff, Nat.reduceAdd, Nat.reduceLT, Nat.reduceLeDiff, Nat.reduceMul, Nat.reduceSub, ↓reduceIte, decide_true, decide_false, Bool.true_eq_false, Bool.false_eq_true, Bool.not_true, Bool.not_false, if_true, if_false, and_true, true_and, memE, celE, w64, Nat.zero_add, Nat.add_zero, Nat.mul_one, putL, and_self, ldn]
    refine callH_rc (forwardTable_rc _ _ k (hx.caseV hc) gd) ?_
    intro r new2 hA
    obtain ⟨d1, d2, f1, f2, rfl, l1, l2, o1, o2, nr2⟩ := hA.rows
    have hx2 := hx.app nr2
    simp only [List.length_append, List.length_cons, List.length_nil, roM_len] at l1 l2
    simp (config := {implicitDefEqProofs := false, maxDischargeDepth := 20}) (disch := first | omega | (simp only [lenE]; done) | (simp only [lenE]; omega) | rfl | (simp only [lenE, markR_len]; done) | (simp only [lenE, markR_len]; omega)) only [runE, mapE, listE, initT_5, initT_6, initT_7, initT_8, resV, oneV, binA, unA, reduceCtorEq, Nat.reduceEqDiff, Nat.reduceAdd, Nat.reduceLT, Nat.reduceLeDiff, Nat.reduceMul, Nat.reduceSub, ↓reduceIte, decide_true, decide_false, Bool.true_eq_false, Bool.false_eq_true, Bool.not_true, Bool.not_false, if_true, if_false, and_true, true_and, memE, celE, w64, Nat.zero_add, Nat.add_zero, Nat.mul_one, putL, and_self, ldn, ext_2_0, ext_2_1]
    refine callH_rc (backwardTable_rc _ _ k (hx2.caseV hc) gd) ?_
    intro r new3 hB
    obtain ⟨d3, f3, rfl, l3, o3, -, nr3⟩ := hB.row
    have hx3 := hx2.app nr3
    have o13 := o1.ext new3
    simp only [List.length_append, List.length_cons, List.length_nil, roM_len] at l3
    have d1l := o1.lt
    simp only [List.length_append, List.length_cons, List.length_nil, roM_len] at d1l
    have ll := fwdC_len k k.need.length
    have lb := bwdL_len k
    have hle := fun t => turnP_len k t
    have bf := fwdC_in gd k.need.length h8
    have bb := bwdL_in gd
    have tat : ∀ t, turnAt k t = ((fwdC k k.need.length).getD t 0 + (bwdL k).getD t 0 == (bwdL k).getD 0 0) := fun _ => rfl
    generalize fwdC k k.need.length = ls at *
    generalize bwdL k = lk at *
    obtain ⟨M0, hM0⟩ : ∃ M0, M0 = roM m ++ [⟨.own, 26, [v1, v2, v3, v4]⟩] ++ new ++ new2 ++ new3 := ⟨_, rfl⟩
    have L0 : M0.length = m.length + 1 + new.length + new2.length + new3.length := by rw [hM0]; simp [roM_len]; omega
    rw [← hM0] at hx3 o13 o3 ⊢
    have ib := o3.ints (by omega) f3
    have a0 : iadA 1 (.slice (some ⟨d3, 0, none⟩) lk.length f3) (.int .i64 0) = some (pAt (.slice (some ⟨d3, 0, none⟩) lk.length f3) 0) := ib.at_ 0 (by omega)
    simp (config := {implicitDefEqProofs := false, maxDischargeDepth := 20}) (disch := first | omega | (simp only [lenE]; done) | (simp only [lenE]; omega) | rfl | (simp only [lenE, markR_len]; done) | (simp only [lenE, markR_len]; omega)) only [runE, mapE, listE, initT_5, initT_6, initT_7, initT_8, resV, oneV, binA, unA, reduceCtorEq, Nat.reduceEqDiff, Nat.reduceAdd, Nat.reduceLT, Nat.reduceLeDiff, Nat.reduceMul, Nat.reduceSub, ↓reduceIte, decide_true, decide_false, Bool.true_eq_false, Bool.false_eq_true, Bool.not_true, Bool.not_false, if_true, if_false, and_true, true_and, memE, celE, w64, Nat.zero_add, Nat.add_zero, Nat.mul_one, putL, and_self, ldn, a0, ib.ld 0 (by omega)]
    have o13b := o13.ext [⟨.own, 3, [.int .i64 (lk.getD 0 0)]⟩]
    have o3b := o3.ext [⟨.own, 3, [.int .i64 (lk.getD 0 0)]⟩]
    have hx4 := hx3.one 3 [.int .i64 (lk.getD 0 0)]
    have hbx : rdc (M0 ++ [⟨.own, 3, [.int .i64 (lk.getD 0 0)]⟩]) M0.length 0 = some (.int .i64 (lk.getD 0 0)) := by rw [rdc_box rfl]; rfl
    have d3l := o3.lt
    refine loop_inv mixed (fun s => ∃ (t : Nat) (M : Mem) (L : List Int), t ≤ k.need.length + 1 ∧ s.t 6 = .slice (some ⟨d3, 0, none⟩) (k.need.length + 1) f3 ∧ s.t 7 = .pointer (some ⟨M0.length, 0, none⟩) ∧ s.t 24 = .slice (some ⟨d1, 0, none⟩) ls.length f1 ∧ s.t 25 = .int .i64 ls.length ∧ s.t 26 = .int .i64 t ∧ s.m = M ∧ Grow (roM m ++ [⟨.own, 26, [v1, v2, v3, v4]⟩]) M ∧ OwnR M d1 ls ∧ OwnR M d3 L ∧ rdc M M0.length 0 = some (.int .i64 (lk.getD 0 0)) ∧ L.length = k.need.length + 1 ∧ (∀ i, i < t → L.getD i 0 = ls.getD i 0 + lk.getD i 0) ∧ (∀ i, t ≤ i → L.getD i 0 = lk.getD i 0)) (fun s => k.need.length + 1 - (intOf (s.t 26)).toNat)
      ⟨0, _, lk, by omega, by simp only [put_t, put_t', put_m, putT_t, putT_t', putT_m, init_t, init_m, initT_0, initT_1, initT_2, initT_3, initT_4, initT_5, initT_6, initT_7, initT_8, Nat.reduceEqDiff, ↓reduceIte]; rw [lb], rfl, rfl, rfl, rfl, rfl, hx4, o13b, o3b, hbx, lb, fun i hi => absurd hi (by omega), fun i _ => rfl⟩ ?_
    rintro s ⟨t, M, L, hk, t6, t7, t24, t25, t26, tm, hxM, oa, ob, hbM, hL, hpre, hpost⟩
    have ia := oa.ints (by omega) f1
    by_cases hlt : t < k.need.length + 1
    · have hlt' : (t : Int) < ls.length := by omega
      have b1 := getD_bound (by omega) bf t
      have b2 := getD_bound (by omega) bb t
      have rdt := ob.rd (i := t) (by omega)
      rw [hpost t (Nat.le_refl _)] at rdt
      have ost := ob.st (off := t) (x := lk.getD t 0 + ls.getD t 0) (by omega)
      simp (config := {implicitDefEqProofs := false, maxDischargeDepth := 20}) (disch := first | omega | (simp only [lenE]; done) | (simp only [lenE]; omega) | rfl | (simp only [lenE, markR_len]; done) | (simp only [lenE, markR_len]; omega)) only [runE, mapE, listE, initT_5, initT_6, initT_7, initT_8, resV, oneV, binA, unA, reduceCtorEq, Nat.reduceEqDiff, Nat.reduceAdd, Nat.reduceLT, Nat.reduceLeDiff, Nat.reduceMul, Nat.reduceSub, ↓reduceIte, decide_true, decide_false, Bool.true_eq_false, Bool.false_eq_true, Bool.not_true, Bool.not_false, if_true, if_false, and_true, true_and, memE, celE, w64, Nat.zero_add, Nat.add_zero, Nat.mul_one, putL, and_self, ldn, t6, t7, t24, t25, t26, tm, hlt', ia.at_ t (by omega), ia.ld t (by omega), iadA_in hlt, rdt, ost]
      have hne : d3 ≠ d1 := by omega
      have hneb : d3 ≠ M0.length := by omega
      have gs : ∀ i, (L.set t (lk.getD t 0 + ls.getD t 0)).getD i 0 = if i = t then lk.getD t 0 + ls.getD t 0 else L.getD i 0 := fun i => by
        rw [List.getD_eq_getElem?_getD, List.getElem?_set]
        by_cases e : t = i
        · subst e; rw [if_pos rfl, if_pos rfl, if_pos (by omega)]; rfl
        · rw [if_neg e, if_neg (fun h => e h.symm), List.getD_eq_getElem?_getD]
      refine ⟨⟨t + 1, _, L.set t (lk.getD t 0 + ls.getD t 0), by omega, by simp, rfl, hxM.put (by simp [roM_len]; omega) _ _, oa.set_ne hne, OwnR.set_self ob, ?_, by simpa using hL, ?_, ?_⟩, by simp [intOf]; omega⟩
      · unfold rdc at hbM ⊢
        rw [List.getElem?_set_ne hneb]; exact hbM
      · intro i hi
        rw [gs]
        by_cases e : i = t
        · rw [if_pos e, e]; omega
        · rw [if_neg e]; exact hpre i (by omega)
      · intro i hi
        rw [gs, if_neg (by omega)]
        exact hpost i (by omega)
    · have hlt' : ¬ ((t : Int) < ls.length) := by omega
      have e : t = k.need.length + 1 := by omega
      subst e
      have hi := ob.ints (by omega) f3
      rw [hL] at hi
      simp (config := {implicitDefEqProofs := false, maxDischargeDepth := 20}) (disch := first | omega | (simp only [lenE]; done) | (simp only [lenE]; omega) | rfl | (simp only [lenE, markR_len]; done) | (simp only [lenE, markR_len]; omega)) only [runE, mapE, listE, initT_5, initT_6, initT_7, initT_8, resV, oneV, binA, unA, reduceCtorEq, Nat.reduceEqDiff, Nat.reduceAdd, Nat.reduceLT, Nat.reduceLeDiff, Nat.reduceMul, Nat.reduceSub, ↓reduceIte, decide_true, decide_false, Bool.true_eq_false, Bool.false_eq_true, Bool.not_true, Bool.not_false, if_true, if_false, and_true, true_and, memE, celE, w64, Nat.zero_add, Nat.add_zero, Nat.mul_one, putL, and_self, ldn, t6, t7, t24, t25, t26, tm, hlt']
      refine callH_rc (periodsWith2_rc M _ _ L (fun x => x == lk.getD 0 0) hi (fun M' hM' => test_turn M' _ _ (hM'.rd hbM)) (by omega)) ?_
      intro r new4 hP
      obtain ⟨d4, f4, rfl, l4, o4, -, nr4⟩ := hP.row
      have ep : picks (fun x => x == lk.getD 0 0) L L.length = turnP k (k.need.length + 1) := by
        rw [hL]
        refine picks_turn _ fun i hi => ?_
        rw [tat, hpre i hi]
      rw [ep] at o4
      have := hle (k.need.length + 1)
      have hlm := hxM.len
      simp only [List.length_append, List.length_cons, List.length_nil, roM_len] at hlm
      simp (config := {implicitDefEqProofs := false, maxDischargeDepth := 20}) (disch := first | omega | (simp only [lenE]; done) | (simp only [lenE]; omega) | rfl | (simp only [lenE, markR_len]; done) | (simp only [lenE, markR_len]; omega)) only [runE, mapE, listE, initT_5, initT_6, initT_7, initT_8, resV, oneV, binA, unA, reduceCtorEq, Nat.reduceEqDiff, Nat.reduceAdd, Nat.reduceLT, Nat.reduceLeDiff, Nat.reduceMul, Nat.reduceSub, ↓reduceIte, decide_true, decide_false, Bool.true_eq_false, Bool.false_eq_true, Bool.not_true, Bool.not_false, if_true, if_false, and_true, true_and, memE, celE, w64, Nat.zero_add, Nat.add_zero, Nat.mul_one, putL, and_self, ldn, ep]
      exact ext_ansL (hxM.app nr4).ext o4 (by omega) rfl (by omega)
end Go.Proofs.Ytibkaclkaigflaa.Ab
end
section
namespace Go.Proofs.Ytibkaclkaigflaa.Ab
open Go Go.RowKit
set_option linter.unusedVariables false
set_option linter.unusedSimpArgs false
theorem IntsA.cutFrom {m : Mem} {v : Value} {l : List Int} (h : IntsA m v l) {lo : Nat} (h1 : lo ≤ l.length) :
    ∃ v', slcA 1 v (some (.int .i64 lo)) none = some v' ∧ IntsA m v' (l.drop lo) := by
  obtain ⟨v', e, d⟩ := h.cut h1 (Nat.le_refl _)
  have : cutL l lo l.length = l.drop lo := by unfold cutL; rw [List.take_length]
  rw [this] at d
  refine ⟨v', ?_, d⟩
  rw [← e]
  rcases h.form with ⟨rfl, rfl⟩ | ⟨id, off, fl, rfl⟩
  · rfl
  · simp [slcA, boundA]
theorem putL_all : ∀ (vs cs pre : List Value), cs.length = vs.length → putL (pre ++ cs) pre.length vs = pre ++ vs := by
  intro vs
  induction vs with
  | nil => intro cs pre h; have : cs = [] := List.eq_nil_of_length_eq_zero (by simpa using h); rw [this]; rfl
  | cons v vs ih =>
    intro cs pre h
    cases cs with
    | nil => simp at h
    | cons c cs =>
      rw [putL, List.set_append_right _ _ (Nat.le_refl _), Nat.sub_self, List.set_cons_zero]
      have := ih cs (pre ++ [v]) (by simpa using h)
      rw [List.length_append, List.length_singleton, List.append_assoc, List.append_assoc] at this
      exact this
theorem cpy_full {M : Mem} {pid fl n : Nat} {l : List Int} {v : Value} {L : List Int} (h : OwnR M pid L) (hL : L.length = l.length) (hn : n = l.length) (hi : IntsA M v l) :
    cpyA M 1 (.slice (some ⟨pid, 0, none⟩) n fl) v = some (.int .i64 l.length, M.set pid (rowB l)) := by
  subst hn
  unfold cpyA
  rw [hi.src]
  simp only [hi.lenOf, Nat.min_self, Nat.mul_one, onesB_ints, if_true]
  rw [List.take_of_length_le (by rw [List.length_map]; exact Nat.le_refl _)]
  unfold stA
  rw [show M[pid]? = some (rowB L) from h]
  have := putL_all (l.map (Value.int .i64)) (L.map (Value.int .i64)) [] (by simp [hL])
  simp only [List.nil_append, List.length_nil] at this
  simp only [onesB_ints, List.length_map, hL, Nat.zero_add, Nat.le_refl, and_self, if_true, this]
theorem drop_set_cons {F : List Int} {p : Nat} {x : Int} (h : p < F.length) : (F.set p x).drop p = x :: F.drop (p + 1) := by
  rw [List.drop_eq_getElem_cons (by simpa using h), List.getElem_set_self, List.drop_set_of_lt (by omega)]

theorem tabP_zero (k : Cs) (ls : List Int) (f : Nat) : tabP k ls f 0 = [] := by
  cases f with
  | zero => rfl
  | succ f => rw [tabP, if_pos rfl]
theorem tabP_s {k : Cs} {ls : List Int} {f j b : Nat} (hj : j ≠ 0) (hb : ls.getD (j - 1) 0 = (b : Int)) : tabP k ls (f + 1) j = tabP k ls f b ++ (if 0 < sumR k.need b j then [(b : Int)] else []) := by
  rw [tabP, if_neg hj, hb]; rfl
theorem fwdL_nat (k : Cs) {q n : Nat} (h : q < n) : ∃ b : Nat, (fwdL k n).getD q 0 = (b : Int) ∧ b ≤ q := ⟨fwdB k q, fwdL_at k h, fwdB_le k q⟩

theorem l3Asks_rc (m : Mem) (v : Value) (k : Cs) (i j : Nat) (h : CaseA m v k) (hg : Good k) (hij : i ≤ j) (hj : j ≤ k.need.length) :
    RC Try.prog 25 [v, .int .i64 i, .int .i64 j] m (AnsV (.bool (decide (0 < sumR k.need i j)))) := by
  refine rc_of_run mixed ok_spec_l3Asks (by simp) (go_start _ _ _ ?_)
  obtain ⟨v1, v2, v3, v4, rfl, h1, h2, h3, h4⟩ := h.ro.ok
  have h8 := hg.n8
  obtain ⟨c1, e1, d1⟩ := (h1.ext [⟨.own, 26, [v1, v2, v3, v4]⟩]).cut hij hj
  simp (config := {implicitDefEqProofs := false, maxDischargeDepth := 20}) (disch := first | omega | (simp only [lenE]; done) | (simp only [lenE]; omega) | rfl | (simp only [lenE, markR_len]; done) | (simp only [lenE, markR_len]; omega)) only [runE, mapE, listE, initT_5, initT_6, initT_7, initT_8, resV, oneV, binA, unA, reduceCtorEq, Nat.reduceEqDiff, Nat.reduceAdd, Nat.reduceLT, Nat.reduceLeDiff, Nat.reduceMul, Nat.reduceSub, ↓reduceIte, decide_true, decide_false, Bool.true_eq_false, Bool.false_eq_true, Bool.not_true, Bool.not_false, if_true, if_false, and_true, true_and, memE, celE, w64, Nat.zero_add, Nat.add_zero, Nat.mul_one, putL, and_self, ldn, c_spec_l3Asks, r_spec_l3Asks, e1]
  refine callH_rc (l2Sum_rc _ _ (cutL k.need i j) d1 fun q hq => ?_) ?_
  · rw [cutL_len hj] at hq
    rw [sumTo_cut hij hj q hq]
    have := sumR_in (m := 20) (by omega) hg.need i q
    omega
  rintro r new ⟨rfl, rfl⟩
  rw [sumTo_cut' hij hj]
  simp (config := {implicitDefEqProofs := false, maxDischargeDepth := 20}) (disch := first | omega | (simp only [lenE]; done) | (simp only [lenE]; omega) | rfl | (simp only [lenE, markR_len]; done) | (simp only [lenE, markR_len]; omega)) only [runE, mapE, listE, initT_5, initT_6, initT_7, initT_8, resV, oneV, binA, unA, reduceCtorEq, Nat.reduceEqDiff, Nat.reduceAdd, Nat.reduceLT, Nat.reduceLeDiff, Nat.reduceMul, Nat.reduceSub, ↓reduceIte, decide_true, decide_false, Bool.true_eq_false, Bool.false_eq_true, Bool.not_true, Bool.not_false, if_true, if_false, and_true, true_and, memE, celE, w64, Nat.zero_add, Nat.add_zero, Nat.mul_one, putL, and_self, ldn, gt_iff_lt]
  exact ext_ansV ((Ext.refl m).one _ _) rfl

def tableA (k : Cs) : List Int := if k.good then tabP k (fwdL k k.need.length) k.need.length k.need.length else []
theorem tableA_no {k : Cs} (h : k.good = false) : tableA k = [] := by unfold tableA; rw [h]; rfl
theorem tableA_yes {k : Cs} (h : k.good = true) : tableA k = tabP k (fwdL k k.need.length) k.need.length k.need.length := by unfold tableA; rw [h]; rfl

theorem specPeriods_rc (m : Mem) (v : Value) (k : Cs) (h : CaseA m v k) : RC Try.prog 11 [v] m (AnsL m (tableA k) k.good) := by
  refine rc_of_run mixed ok_spec_TablePeriods (by simp) (go_start _ _ _ ?_)
  obtain ⟨v1, v2, v3, v4, rfl, h1, h2, h3, h4⟩ := h.ro.ok
  have hc : CaseA (roM m) (.agg #[v1, v2, v3, v4]) k := ⟨_, _, _, _, rfl, h1, h2, h3, h4⟩
  simp (config := {implicitDefEqProofs := false, maxDischargeDepth := 20}) (disch := first | omega | (simp only [lenE]; done) | (simp only [lenE]; omega) | rfl | (simp only [lenE, markR_len]; done) | (simp only [lenE, markR_len]; omega)) only [runE, mapE, listE, initT_5, initT_6, initT_7, initT_8, resV, oneV, binA, unA, reduceCtorEq, Nat.reduceEqDiff, Nat.reduceAdd, Nat.reduceLT, Nat.reduceLeDiff, Nat.reduceMul, Nat.reduceSub, ↓reduceIte, decide_true, decide_false, Bool.true_eq_false, Bool.false_eq_true, Bool.not_true, Bool.not_false, if_true, if_false, and_true, true_and, memE, celE, w64, Nat.zero_add, Nat.add_zero, Nat.mul_one, putL, and_self, ldn, c_spec_TablePeriods, r_spec_TablePeriods, bsl_none]
  refine callH_rc (l2Good_rc _ _ k ((hc.ext _).ext _)) ?_
  rintro r new ⟨rfl, nr1⟩
  have o0 : OwnR (roM m ++ [⟨.own, 26, [v1, v2, v3, v4]⟩] ++ [⟨.own, 3, []⟩] ++ new) (m.length + 1) [] := (OwnR.end' (l := []) (by simp [roM_len])).ext _
  have hx : Grow (roM m ++ [⟨.own, 26, [v1, v2, v3, v4]⟩]) (roM m ++ [⟨.own, 26, [v1, v2, v3, v4]⟩] ++ [⟨.own, 3, []⟩] ++ new) := ((Grow.refl _).one _ _).app nr1
  cases hg : k.good with
  | false =>
    simp (config := {implicitDefEqProofs := false, maxDischargeDepth := 20}) (disch := first | omega | (simp only [lenE]; done) | (simp only [lenE]; omega) | rfl | (simp only [lenE, markR_len]; done) | (simp only [lenE, markR_len]; omega)) only [runE, mapE, listE, initT_5, initT_6, initT_7, initT_8, resV, oneV, binA, unA, reduceCtorEq, Nat.reduceEqDiff, Nat.reduceAdd, Nat.reduceLT, Nat.reduceLeDiff, Nat.reduceMul, Nat.reduceSub, ↓reduceIte, decide_true, decide_false, Bool.true_eq_false, Bool.false_eq_true, Bool.not_true, Bool.not_false, if_true, if_false, and_true, true_and, memE, celE, w64, Nat.zero_add, Nat.add_zero, Nat.mul_one, putL, and_self, ldn]
    rw [tableA_no hg]
    exact ext_ansL hx.ext o0 (by omega) rfl (by simp)
  | true =>
    have gd := good_iff.1 hg
    have h8 := gd.n8
    rw [tableA_yes hg]
    simp (config := {implicitDefEqProofs := false, maxDischargeDepth := 20}) (disch := first | omega | (simp only [lenE]; done) | (simp only [lenE]; omega) | rfl | (simp only [lenE, markR_len]; done) | (simp only [lenE, markR_len]; omega)) only [runE, mapE, listE, initT_5, initT_6, initT_7, initT_8, resV, oneV, binA, unA, reduceCtorEq, Nat.reduceEqDiff, Nat.reduceAdd, Nat.reduceLT, Nat.reduceLeDiff, Nat.reduceMul, Nat.reduceSub, ↓reduceIte, decide_true, decide_false, Bool.true_eq_false, Bool.false_eq_true, Bool.not_true, Bool.not_false, if_true, if_false, and_true, true_and, memE, celE, w64, Nat.zero_add, Nat.add_zero, Nat.mul_one, putL, and_self, ldn]
    refine callH_rc (l3Forward_rc _ _ k (hx.caseV hc) gd) ?_
    intro r new2 hA
    obtain ⟨d1, d2, f1, f2, rfl, l1, l2, o1, o2, nr2⟩ := hA.rows
    have hx2 := hx.app nr2
    have o02 := o0.ext new2
    simp only [List.length_append, List.length_cons, List.length_nil, roM_len] at l1 l2
    have ll := fwdL_len k k.need.length
    have hnat : ∀ q, q < k.need.length → ∃ b : Nat, (fwdL k k.need.length).getD q 0 = (b : Int) ∧ b ≤ q := fun q hq => fwdL_nat k hq
    obtain ⟨ls, hls⟩ : ∃ ls, ls = fwdL k k.need.length := ⟨_, rfl⟩
    rw [← hls] at o2 ll hnat ⊢
    obtain ⟨M0, hM0⟩ : ∃ M0, M0 = roM m ++ [⟨.own, 26, [v1, v2, v3, v4]⟩] ++ [⟨.own, 3, []⟩] ++ new ++ new2 := ⟨_, rfl⟩
    obtain ⟨r0, r1, r2, r3, hlM⟩ := hx2.box4
    have i1 := hx2.intsV h1
    rw [← hM0] at r0 i1
    simp (config := {implicitDefEqProofs := false, maxDischargeDepth := 20}) (disch := first | omega | (simp only [lenE]; done) | (simp only [lenE]; omega) | rfl | (simp only [lenE, markR_len]; done) | (simp only [lenE, markR_len]; omega)) only [runE, mapE, listE, initT_5, initT_6, initT_7, initT_8, resV, oneV, binA, unA, reduceCtorEq, Nat.reduceEqDiff, Nat.reduceAdd, Nat.reduceLT, Nat.reduceLeDiff, Nat.reduceMul, Nat.reduceSub, ↓reduceIte, decide_true, decide_false, Bool.true_eq_false, Bool.false_eq_true, Bool.not_true, Bool.not_false, if_true, if_false, and_true, true_and, memE, celE, w64, Nat.zero_add, Nat.add_zero, Nat.mul_one, putL, and_self, ldn, ext_2_0, ext_2_1]
    rw [← hM0]
    simp (config := {implicitDefEqProofs := false, maxDischargeDepth := 20}) (disch := first | omega | (simp only [lenE]; done) | (simp only [lenE]; omega) | rfl | (simp only [lenE, markR_len]; done) | (simp only [lenE, markR_len]; omega)) only [runE, mapE, listE, initT_5, initT_6, initT_7, initT_8, resV, oneV, binA, unA, reduceCtorEq, Nat.reduceEqDiff, Nat.reduceAdd, Nat.reduceLT, Nat.reduceLeDiff, Nat.reduceMul, Nat.reduceSub, ↓reduceIte, decide_true, decide_false, Bool.true_eq_false, Bool.false_eq_true, Bool.not_true, Bool.not_false, if_true, if_false, and_true, true_and, memE, celE, w64, Nat.zero_add, Nat.add_zero, Nat.mul_one, putL, and_self, ldn, r0, i1.len]
    rw [← hM0] at hx2 o02 o2
    refine loop_inv mixed (fun s => ∃ (j f : Nat) (M : Mem) (id : Nat) (out : List Int), j ≤ f ∧ j ≤ k.need.length ∧ out.length + j ≤ k.need.length ∧ tabP k ls f j ++ out = tabP k ls k.need.length k.need.length ∧ s.t 1 = .pointer (some ⟨m.length, 0, none⟩) ∧ s.t 4 = .slice (some ⟨id, 0, none⟩) out.length 1 ∧ s.t 6 = .slice (some ⟨d2, 0, none⟩) ls.length f2 ∧ s.t 7 = .int .i64 j ∧ s.m = M ∧ Grow M0 M ∧ OwnR M id out ∧ m.length < id) (fun s => (intOf (s.t 7)).toNat)
      ⟨k.need.length, k.need.length, M0, m.length + 1, [], by omega, by omega, by simp, List.append_nil _, rfl, rfl, rfl, rfl, rfl, Grow.refl _, o02, by omega⟩ ?_
    rintro s ⟨j, f, M, id, out, hjf, hjn, hol, hout, t1, t4, t6, t7, tm, hy, oh, lid⟩
    have hxM := hx2.trans hy
    obtain ⟨q0, q1, q2, q3, hlM'⟩ := hxM.box4
    have li := (hy.own o2).ints (by omega) f2
    have oi := oh.ints (by omega) 1
    by_cases hlt : 0 < j
    · have hlt' : (0 : Int) < j := by omega
      obtain ⟨p, rfl⟩ : ∃ p, j = p + 1 := ⟨j - 1, by omega⟩
      obtain ⟨f', rfl⟩ : ∃ f', f = f' + 1 := ⟨f - 1, by omega⟩
      obtain ⟨b, hb, hbp⟩ := hnat p (by omega)
      have ep : ((p + 1 : Nat) : Int) - 1 = (p : Int) := by omega
      have ldp := li.ld p (by omega)
      rw [hb] at ldp
      rw [tabP_s (by omega) (b := b) (by simpa using hb)] at hout
      simp (config := {implicitDefEqProofs := false, maxDischargeDepth := 20}) (disch := first | omega | (simp only [lenE]; done) | (simp only [lenE]; omega) | rfl | (simp only [lenE, markR_len]; done) | (simp only [lenE, markR_len]; omega)) only [runE, mapE, listE, initT_5, initT_6, initT_7, initT_8, resV, oneV, binA, unA, reduceCtorEq, Nat.reduceEqDiff, Nat.reduceAdd, Nat.reduceLT, Nat.reduceLeDiff, Nat.reduceMul, Nat.reduceSub, ↓reduceIte, decide_true, decide_false, Bool.true_eq_false, Bool.false_eq_true, Bool.not_true, Bool.not_false, if_true, if_false, and_true, true_and, memE, celE, w64, Nat.zero_add, Nat.add_zero, Nat.mul_one, putL, and_self, ldn, t1, t4, t6, t7, tm, gt_iff_lt, hlt', ep, li.at_ p (by omega), ldp, q0, q1, q2, q3]
      refine callH_rc (l3Asks_rc _ _ k b (p + 1) (hxM.caseV hc) gd (by omega) (by omega)) ?_
      rintro r new3 ⟨rfl, nr3⟩
      by_cases hn : 0 < sumR k.need b (p + 1)
      · rw [if_pos hn] at hout
        have ap := fun id2 => app_cons (M := M ++ new3) (x := (b : Int)) (id := id2) (oi.ext new3) (by omega)
        have ohl := oh.lt
        have hy3 := hy.app nr3
        have d3 : noRo_dead noRo_nil = noRo_dead noRo_nil := rfl
        simp (config := {implicitDefEqProofs := false, maxDischargeDepth := 20}) (disch := first | omega | (simp only [lenE]; done) | (simp only [lenE]; omega) | rfl | (simp only [lenE, markR_len]; done) | (simp only [lenE, markR_len]; omega)) only [runE, mapE, listE, initT_5, initT_6, initT_7, initT_8, resV, oneV, binA, unA, reduceCtorEq, Nat.reduceEqDiff, Nat.reduceAdd, Nat.reduceLT, Nat.reduceLeDiff, Nat.reduceMul, Nat.reduceSub, ↓reduceIte, decide_true, decide_false, Bool.true_eq_false, Bool.false_eq_true, Bool.not_true, Bool.not_false, if_true, if_false, and_true, true_and, memE, celE, w64, Nat.zero_add, Nat.add_zero, Nat.mul_one, putL, and_self, ldn, t1, t4, t6, t7, tm, hn, bsl_one, ap, ep, li.at_ p (by omega), (((li.ext _).ext _).ext _).ld p (by omega), hb]
        refine ⟨⟨b, f', _, M.length + new3.length + 1, (b : Int) :: out, by omega, by omega, by simp; omega, by rw [← hout, List.append_assoc]; rfl, by rw [List.length_cons]; congr 1; omega, rfl, rfl, (hy3.app (noRo_dead noRo_nil)).one _ _, ?_, by omega⟩, by simp [intOf]; omega⟩
        exact OwnR.end' (l := (b : Int) :: out) (by simp only [List.length_append, List.length_cons, List.length_nil])
      · rw [if_neg hn, List.append_nil] at hout
        simp (config := {implicitDefEqProofs := false, maxDischargeDepth := 20}) (disch := first | omega | (simp only [lenE]; done) | (simp only [lenE]; omega) | rfl | (simp only [lenE, markR_len]; done) | (simp only [lenE, markR_len]; omega)) only [runE, mapE, listE, initT_5, initT_6, initT_7, initT_8, resV, oneV, binA, unA, reduceCtorEq, Nat.reduceEqDiff, Nat.reduceAdd, Nat.reduceLT, Nat.reduceLeDiff, Nat.reduceMul, Nat.reduceSub, ↓reduceIte, decide_true, decide_false, Bool.true_eq_false, Bool.false_eq_true, Bool.not_true, Bool.not_false, if_true, if_false, and_true, true_and, memE, celE, w64, Nat.zero_add, Nat.add_zero, Nat.mul_one, putL, and_self, ldn, t1, t4, t6, t7, tm, hn, ep, li.at_ p (by omega), (li.ext _).ld p (by omega), hb]
        exact ⟨⟨b, f', _, id, out, by omega, by omega, by omega, hout, rfl, rfl, rfl, hy.app nr3, oh.ext _, lid⟩, by simp [intOf]; omega⟩
    · have hlt' : ¬ ((0 : Int) < j) := by omega
      have e : j = 0 := by omega
      subst e
      rw [tabP_zero, List.nil_append] at hout
      simp (config := {implicitDefEqProofs := false, maxDischargeDepth := 20}) (disch := first | omega | (simp only [lenE]; done) | (simp only [lenE]; omega) | rfl | (simp only [lenE, markR_len]; done) | (simp only [lenE, markR_len]; omega)) only [runE, mapE, listE, initT_5, initT_6, initT_7, initT_8, resV, oneV, binA, unA, reduceCtorEq, Nat.reduceEqDiff, Nat.reduceAdd, Nat.reduceLT, Nat.reduceLeDiff, Nat.reduceMul, Nat.reduceSub, ↓reduceIte, decide_true, decide_false, Bool.true_eq_false, Bool.false_eq_true, Bool.not_true, Bool.not_false, if_true, if_false, and_true, true_and, memE, celE, w64, Nat.zero_add, Nat.add_zero, Nat.mul_one, putL, and_self, ldn, t1, t4, t6, t7, tm, gt_iff_lt, hlt']
      rw [← hout]
      exact ext_ansL hxM.ext oh (by omega) rfl (by omega)

theorem implPeriods_rc (m : Mem) (v : Value) (k : Cs) (h : CaseA m v k) : RC Try.prog 10 [v] m (AnsL m (tableA k) k.good) := by
  refine rc_of_run mixed ok_impl_TablePeriods (by simp) (go_start _ _ _ ?_)
  obtain ⟨v1, v2, v3, v4, rfl, h1, h2, h3, h4⟩ := h.ro.ok
  have hc : CaseA (roM m) (.agg #[v1, v2, v3, v4]) k := ⟨_, _, _, _, rfl, h1, h2, h3, h4⟩
  simp (config := {implicitDefEqProofs := false, maxDischargeDepth := 20}) (disch := first | omega | (simp only [lenE]; done) | (simp only [lenE]; omega) | rfl | (simp only [lenE, markR_len]; done) | (simp only [lenE, markR_len]; omega)) only [runE, mapE, listE, initT_5, initT_6, initT_7, initT_8, resV, oneV, binA, unA, reduceCtorEq, Nat.reduceEqDiff, Nat.reduceAdd, Nat.reduceLT, Nat.reduceLeDiff, Nat.reduceMul, Nat.reduceSub, ↓reduceIte, decide_true, decide_false, Bool.true_eq_false, Bool.false_eq_true, Bool.not_true, Bool.not_false, if_true, if_false, and_true, true_and, memE, celE, w64, Nat.zero_add, Nat.add_zero, Nat.mul_one, putL, and_self, ldn, c_impl_TablePeriods, r_impl_TablePeriods]
  refine callH_rc (implIsCase_rc _ _ k (hc.ext _)) ?_
  rintro r new ⟨rfl, nr1⟩
  have hx : Grow (roM m ++ [⟨.own, 26, [v1, v2, v3, v4]⟩]) (roM m ++ [⟨.own, 26, [v1, v2, v3, v4]⟩] ++ new) := (Grow.refl _).app nr1
  cases hg : k.good with
  | false =>
    simp (config := {implicitDefEqProofs := false, maxDischargeDepth := 20}) (disch := first | omega | (simp only [lenE]; done) | (simp only [lenE]; omega) | rfl | (simp only [lenE, markR_len]; done) | (simp only [lenE, markR_len]; omega)) only [runE, mapE, listE, initT_5, initT_6, initT_7, initT_8, resV, oneV, binA, unA, reduceCtorEq, Nat.reduceEqDiff, Nat.reduceAdd, Nat.reduceLT, Nat.reduceLeDiff, Nat.reduceMul, Nat.reduceSub, ↓reduceIte, decide_true, decide_false, Bool.true_eq_false, Bool.false_eq_true, Bool.not_true, Bool.not_false, if_true, if_false, and_true, true_and, memE, celE, w64, Nat.zero_add, Nat.add_zero, Nat.mul_one, putL, and_self, ldn, bsl_none]
    rw [tableA_no hg]
    refine ext_ansL (hx.ext.one _ _) (OwnR.end' (l := []) ?_) (by omega) rfl (by simp)
    simp only [List.length_append, List.length_cons, List.length_nil, roM_len]
  | true =>
    have gd := good_iff.1 hg
    have h8 := gd.n8
    rw [tableA_yes hg]
    simp (config := {implicitDefEqProofs := false, maxDischargeDepth := 20}) (disch := first | omega | (simp only [lenE]; done) | (simp only [lenE]; omega) | rfl | (simp only [lenE, markR_len]; done) | (simp only [lenE, markR_len]; omega)) only [runE, mapE, listE, initT_5, initT_6, initT_7, initT_8, resV, oneV, binA, unA, reduceCtorEq, Nat.reduceEqDiff, Nat.reduceAdd, Nat.reduceLT, Nat.reduceLeDiff, Nat.reduceMul, Nat.reduceSub, ↓reduceIte, decide_true, decide_false, Bool.true_eq_false, Bool.false_eq_true, Bool.not_true, Bool.not_false, if_true, if_false, and_true, true_and, memE, celE, w64, Nat.zero_add, Nat.add_zero, Nat.mul_one, putL, and_self, ldn]
    refine callH_rc (forwardTable_rc _ _ k (hx.caseV hc) gd) ?_
    intro r new2 hA
    obtain ⟨d1, d2, f1, f2, rfl, l1, l2, o1, o2, nr2⟩ := hA.rows
    have hx2 := hx.app nr2
    simp only [List.length_append, List.length_cons, List.length_nil, roM_len] at l1 l2
    have ll := fwdL_len k k.need.length
    have hnat : ∀ q, q < k.need.length → ∃ b : Nat, (fwdL k k.need.length).getD q 0 = (b : Int) ∧ b ≤ q := fun q hq => fwdL_nat k hq
    obtain ⟨ls, hls⟩ : ∃ ls, ls = fwdL k k.need.length := ⟨_, rfl⟩
    rw [← hls] at o2 ll hnat ⊢
    obtain ⟨n, hn⟩ : ∃ n, n = k.need.length := ⟨_, rfl⟩
    rw [← hn] at ll hnat h8 ⊢
    have mk : ∀ M : Mem, mksA M 3 8 [.int .i64 0] (.int .i64 (n : Int)) (.int .i64 (n : Int)) = some (.slice (some ⟨M.length, 0, none⟩) n 1, M ++ [⟨.own, 3, List.replicate n (.int .i64 0)⟩]) := fun M => mksA_eq rfl (by omega)
    obtain ⟨M0, hM0⟩ : ∃ M0, M0 = roM m ++ [⟨.own, 26, [v1, v2, v3, v4]⟩] ++ new ++ new2 := ⟨_, rfl⟩
    have L0 : M0.length = m.length + 1 + new.length + new2.length := by rw [hM0]; simp [roM_len]; omega
    simp (config := {implicitDefEqProofs := false, maxDischargeDepth := 20}) (disch := first | omega | (simp only [lenE]; done) | (simp only [lenE]; omega) | rfl | (simp only [lenE, markR_len]; done) | (simp only [lenE, markR_len]; omega)) only [runE, mapE, listE, initT_5, initT_6, initT_7, initT_8, resV, oneV, binA, unA, reduceCtorEq, Nat.reduceEqDiff, Nat.reduceAdd, Nat.reduceLT, Nat.reduceLeDiff, Nat.reduceMul, Nat.reduceSub, ↓reduceIte, decide_true, decide_false, Bool.true_eq_false, Bool.false_eq_true, Bool.not_true, Bool.not_false, if_true, if_false, and_true, true_and, memE, celE, w64, Nat.zero_add, Nat.add_zero, Nat.mul_one, putL, and_self, ldn, ext_2_0, ext_2_1, ll, mk]
    rw [← hM0] at hx2 o2 ⊢
    have hx3 := hx2.one 3 (List.replicate n (.int .i64 0))
    have o3 := OwnR.zeros (m := M0) (n := n) (id := m.length + 1 + new.length + new2.length) L0.symm
    have o23 := o2.ext [⟨.own, 3, List.replicate n (.int .i64 0)⟩]
    have d2l := o2.lt
    refine loop_inv mixed (fun s => ∃ (j f : Nat) (M : Mem) (F out : List Int), j ≤ f ∧ j ≤ n ∧ out.length + j ≤ n ∧ tabP k ls f j ++ out = tabP k ls n n ∧ F.length = n ∧ F.drop (n - out.length) = out ∧ s.t 1 = .pointer (some ⟨m.length, 0, none⟩) ∧ s.t 5 = .slice (some ⟨d2, 0, none⟩) n f2 ∧ s.t 6 = .slice (some ⟨m.length + 1 + new.length + new2.length, 0, none⟩) n 1 ∧ s.t 7 = .int .i64 (n - out.length : Nat) ∧ s.t 8 = .int .i64 j ∧ s.m = M ∧ Grow (roM m ++ [⟨.own, 26, [v1, v2, v3, v4]⟩]) M ∧ OwnR M (m.length + 1 + new.length + new2.length) F ∧ OwnR M d2 ls) (fun s => (intOf (s.t 8)).toNat)
      ⟨n, n, _, List.replicate n 0, [], by omega, by omega, by simp, List.append_nil _, by simp, by simp, rfl, by simp only [put_t, put_t', put_m, putT_t, putT_t', putT_m, init_t, init_m, initT_0, initT_1, initT_2, initT_3, initT_4, initT_5, initT_6, initT_7, initT_8, Nat.reduceEqDiff, ↓reduceIte, ll], rfl, by simp only [put_t, put_t', put_m, putT_t, putT_t', putT_m, init_t, init_m, initT_0, initT_1, initT_2, initT_3, initT_4, initT_5, initT_6, initT_7, initT_8, Nat.reduceEqDiff, ↓reduceIte]; simp, by simp only [put_t, put_t', put_m, putT_t, putT_t', putT_m, init_t, init_m, initT_0, initT_1, initT_2, initT_3, initT_4, initT_5, initT_6, initT_7, initT_8, Nat.reduceEqDiff, ↓reduceIte, ll], rfl, hx3, o3, o23⟩ ?_
    rintro s ⟨j, f, M, F, out, hjf, hjn, hol, hout, hF, hdr, t1, t5, t6, t7, t8, tm, hxM, oF, o2M⟩
    obtain ⟨q0, q1, q2, q3, hlM'⟩ := hxM.box4
    have li := o2M.ints (by omega) f2
    rw [ll] at li
    have i1 := hxM.intsV h1
    by_cases hlt : 0 < j
    · have hlt' : (0 : Int) < j := by omega
      obtain ⟨p, rfl⟩ : ∃ p, j = p + 1 := ⟨j - 1, by omega⟩
      obtain ⟨f', rfl⟩ : ∃ f', f = f' + 1 := ⟨f - 1, by omega⟩
      obtain ⟨b, hb, hbp⟩ := hnat p (by omega)
      have ep : ((p + 1 : Nat) : Int) - 1 = (p : Int) := by omega
      have ldp := li.ld p (by omega)
      rw [hb] at ldp
      rw [tabP_s (by omega) (b := b) (by simpa using hb)] at hout
      obtain ⟨c1, e1, dd1⟩ := i1.cut (lo := b) (hi := p + 1) (by omega) (by omega)
      simp (config := {implicitDefEqProofs := false, maxDischargeDepth := 20}) (disch := first | omega | (simp only [lenE]; done) | (simp only [lenE]; omega) | rfl | (simp only [lenE, markR_len]; done) | (simp only [lenE, markR_len]; omega)) only [runE, mapE, listE, initT_5, initT_6, initT_7, initT_8, resV, oneV, binA, unA, reduceCtorEq, Nat.reduceEqDiff, Nat.reduceAdd, Nat.reduceLT, Nat.reduceLeDiff, Nat.reduceMul, Nat.reduceSub, ↓reduceIte, decide_true, decide_false, Bool.true_eq_false, Bool.false_eq_true, Bool.not_true, Bool.not_false, if_true, if_false, and_true, true_and, memE, celE, w64, Nat.zero_add, Nat.add_zero, Nat.mul_one, putL, and_self, ldn, t1, t5, t6, t7, t8, tm, gt_iff_lt, hlt', ep, li.at_ p (by omega), ldp, q0, e1]
      refine callH_rc (sumOf_cut_rc _ _ k.need (b := 20) dd1 (by omega) (by omega) (by omega) (by omega) gd.need (by omega)) ?_
      rintro r new3 ⟨rfl, rfl⟩
      by_cases hpos : 0 < sumR k.need b (p + 1)
      · rw [if_pos hpos] at hout
        obtain ⟨st, hst⟩ : ∃ st : Nat, st + 1 = n - out.length := ⟨n - out.length - 1, by omega⟩
        have est : ((n - out.length : Nat) : Int) - 1 = (st : Int) := by omega
        have hstn : st < n := by omega
        have ost := oF.st (off := st) (x := (b : Int)) (by omega)
        have hne : m.length + 1 + new.length + new2.length ≠ d2 := by omega
        have o2s := o2M.set_ne (b := rowB (F.set st (b : Int))) hne
        have lis := o2s.ints (by omega) f2
        rw [ll] at lis
        have ldps := lis.ld p (by omega)
        rw [hb] at ldps
        simp (config := {implicitDefEqProofs := false, maxDischargeDepth := 20}) (disch := first | omega | (simp only [lenE]; done) | (simp only [lenE]; omega) | rfl | (simp only [lenE, markR_len]; done) | (simp only [lenE, markR_len]; omega)) only [runE, mapE, listE, initT_5, initT_6, initT_7, initT_8, resV, oneV, binA, unA, reduceCtorEq, Nat.reduceEqDiff, Nat.reduceAdd, Nat.reduceLT, Nat.reduceLeDiff, Nat.reduceMul, Nat.reduceSub, ↓reduceIte, decide_true, decide_false, Bool.true_eq_false, Bool.false_eq_true, Bool.not_true, Bool.not_false, if_true, if_false, and_true, true_and, memE, celE, w64, Nat.zero_add, Nat.add_zero, Nat.mul_one, putL, and_self, ldn, t1, t5, t6, t7, t8, tm, hpos, est, iadA_in hstn, ost, ep, li.at_ p (by omega), ldps]
        refine ⟨⟨b, f', _, F.set st (b : Int), (b : Int) :: out, by omega, by omega, by simp; omega, by rw [← hout, List.append_assoc]; rfl, by simpa using hF, ?_, ?_, rfl, rfl, hxM.put (by simp [roM_len]; omega) _ _, OwnR.set_self oF, o2s⟩, by simp [intOf]; omega⟩
        · rw [List.length_cons, show n - (out.length + 1) = st by omega, drop_set_cons (by omega), hst, hdr]
        · rw [List.length_cons]; congr 1; omega
      · rw [if_neg hpos, List.append_nil] at hout
        simp (config := {implicitDefEqProofs := false, maxDischargeDepth := 20}) (disch := first | omega | (simp only [lenE]; done) | (simp only [lenE]; omega) | rfl | (simp only [lenE, markR_len]; done) | (simp only [lenE, markR_len]; omega)) only [runE, mapE, listE, initT_5, initT_6, initT_7, initT_8, resV, oneV, binA, unA, reduceCtorEq, Nat.reduceEqDiff, Nat.reduceAdd, Nat.reduceLT, Nat.reduceLeDiff, Nat.reduceMul, Nat.reduceSub, ↓reduceIte, decide_true, decide_false, Bool.true_eq_false, Bool.false_eq_true, Bool.not_true, Bool.not_false, if_true, if_false, and_true, true_and, memE, celE, w64, Nat.zero_add, Nat.add_zero, Nat.mul_one, putL, and_self, ldn, t1, t5, t6, t7, t8, tm, hpos, ep, li.at_ p (by omega), ldp]
        exact ⟨⟨b, f', _, F, out, by omega, by omega, by omega, hout, hF, hdr, rfl, rfl, rfl, hxM, oF, o2M⟩, by simp [intOf]; omega⟩
    · have hlt' : ¬ ((0 : Int) < j) := by omega
      have e : j = 0 := by omega
      subst e
      rw [tabP_zero, List.nil_append] at hout
      have ecnt : (n : Int) - ((n - out.length : Nat) : Int) = (out.length : Int) := by omega
      have mk2 : ∀ M : Mem, mksA M 3 8 [.int .i64 0] (.int .i64 (out.length : Int)) (.int .i64 (out.length : Int)) = some (.slice (some ⟨M.length, 0, none⟩) out.length 1, M ++ [⟨.own, 3, List.replicate out.length (.int .i64 0)⟩]) := fun M => mksA_eq rfl (by omega)
      have oF2 := oF.ext [⟨.own, 3, List.replicate out.length (.int .i64 0)⟩]
      have fi := oF2.ints (by omega) 1
      rw [hF] at fi
      obtain ⟨w', we, wd⟩ := fi.cutFrom (lo := n - out.length) (by omega)
      rw [hdr] at wd
      have oZ := OwnR.zeros (m := M) (n := out.length) (id := M.length) rfl
      have cp := cpy_full (fl := 1) (n := out.length) oZ (by simp) rfl wd
      simp (config := {implicitDefEqProofs := false, maxDischargeDepth := 20}) (disch := first | omega | (simp only [lenE]; done) | (simp only [lenE]; omega) | rfl | (simp only [lenE, markR_len]; done) | (simp only [lenE, markR_len]; omega)) only [runE, mapE, listE, initT_5, initT_6, initT_7, initT_8, resV, oneV, binA, unA, reduceCtorEq, Nat.reduceEqDiff, Nat.reduceAdd, Nat.reduceLT, Nat.reduceLeDiff, Nat.reduceMul, Nat.reduceSub, ↓reduceIte, decide_true, decide_false, Bool.true_eq_false, Bool.false_eq_true, Bool.not_true, Bool.not_false, if_true, if_false, and_true, true_and, memE, celE, w64, Nat.zero_add, Nat.add_zero, Nat.mul_one, putL, and_self, ldn, t1, t5, t6, t7, t8, tm, gt_iff_lt, hlt', ecnt, mk2, we, cp, Option.map_none]
      rw [← hout]
      have hlm := hxM.len
      simp only [List.length_append, List.length_cons, List.length_nil, roM_len] at hlm
      exact ext_ansL ((hxM.one _ _).put (by simp [roM_len]; omega) _ _).ext (OwnR.set_self (L' := out) oZ) (by omega) rfl (by omega)
end Go.Proofs.Ytibkaclkaigflaa.Ab
end
section
namespace Go.Proofs.Ytibkaclkaigflaa.Ab
open Go Go.RowKit
set_option linter.unusedVariables false
set_option linter.unusedSimpArgs false
theorem fwd_b (k : Cs) {n j : Nat} (hj : j + 1 ≤ n) : (fwdC k n).getD (j + 1) 0 = (fwdC k n).getD (fwdB k j) 0 + spanF k (fwdB k j) (j + 1) := by
  rw [fwd_at k hj, fwdC_keep k (fwdB_le k j) (show j ≤ n by omega)]
  rfl
theorem beg_snoc {ps : List Int} {b j i : Nat} (hi : i ≤ ps.length) : beg j (ps ++ [(b : Int)]) i = beg b ps i := by
  unfold beg
  rw [if_pos (by rw [List.length_append, List.length_singleton]; omega)]
  by_cases e : i < ps.length
  · rw [if_pos e, getD_app_l _ _ e]
  · rw [if_neg e, show i = ps.length by omega, getD_app_one, Int.toNat_natCast]
theorem costL_snoc (k : Cs) (ps : List Int) (b j : Nat) : costL k j (ps ++ [(b : Int)]) = costL k b ps + spanF k b j := by
  have h : ∀ i, i ≤ ps.length → costI k j (ps ++ [(b : Int)]) i = costI k b ps i := by
    intro i
    induction i with
    | zero => intro _; rfl
    | succ i ih => intro hi; rw [costI, costI, ih (by omega), beg_snoc (by omega), beg_snoc hi]
  unfold costL
  rw [List.length_append, List.length_singleton, costI, h _ (Nat.le_refl _), beg_snoc (Nat.le_refl _)]
  congr 2
  · unfold beg; rw [if_neg (by omega)]
  · unfold beg; rw [if_neg (by rw [List.length_append, List.length_singleton]; omega)]
theorem span_ext {k : Cs} {i b : Nat} (hib : i ≤ b) : ∀ d, (∀ t, b ≤ t → t < b + d → k.need.getD t 0 = 0) → sumR k.need i (b + d) = sumR k.need i b ∧ spanS k i (b + d) = spanS k i b := by
  intro d
  induction d with
  | zero => intro _; exact ⟨rfl, rfl⟩
  | succ d ih =>
    intro h
    obtain ⟨h1, h2⟩ := ih fun t a b => h t a (by omega)
    have z := h (b + d) (by omega) (by omega)
    rw [← Nat.add_assoc, sumR_s, spanS_s k (by omega), h1, h2, z, Int.zero_mul]
    omega
theorem costL_ext {k : Cs} {ps : List Int} {b j : Nat} (hr : Rising ps b) (hbj : b ≤ j) (hz : ∀ t, b ≤ t → t < j → k.need.getD t 0 = 0) : costL k j ps = costL k b ps := by
  have h : ∀ i, i ≤ ps.length → costI k j ps i = costI k b ps i := by
    intro i
    induction i with
    | zero => intro _; rfl
    | succ i ih =>
      intro hi
      have e1 : beg j ps i = beg b ps i := by unfold beg; rw [if_pos (by omega), if_pos (by omega)]
      rw [costI, costI, ih (by omega), e1]
      by_cases e : i + 1 < ps.length
      · have e2 : beg j ps (i + 1) = beg b ps (i + 1) := by unfold beg; rw [if_pos e, if_pos e]
        rw [e2]
      · have e2 : beg j ps (i + 1) = j := by unfold beg; rw [if_neg e]
        have e3 : beg b ps (i + 1) = b := by unfold beg; rw [if_neg e]
        obtain ⟨s1, s2⟩ := span_ext (k := k) (i := beg b ps i) (beg_le hr i) (j - b) fun t a c => hz t a (by omega)
        rw [show b + (j - b) = j by omega] at s1 s2
        rw [e2, e3]
        unfold spanF
        rw [s1, s2]
  exact h _ (Nat.le_refl _)
theorem rise_snoc {ps : List Int} {i t : Nat} (h : Rising ps i) (hit : i < t) : Rising (ps ++ [(i : Int)]) t := by
  refine ⟨fun j hj => ?_, fun j hj => ?_⟩
  · rw [List.length_append, List.length_singleton] at hj
    by_cases e : j < ps.length
    · rw [getD_app_l _ _ e]; have := h.bd j e; omega
    · rw [show j = ps.length by omega, getD_app_one]; omega
  · rw [List.length_append, List.length_singleton] at hj
    rw [getD_app_l _ _ (show j < ps.length by omega)]
    by_cases e : j + 1 < ps.length
    · rw [getD_app_l _ _ e]; exact h.up j e
    · rw [show j + 1 = ps.length by omega, getD_app_one]
      have := h.bd j (by omega); omega
theorem tab_path {k : Cs} (hg : Good k) : ∀ f j, j ≤ f → j ≤ k.need.length → Rising (tabP k (fwdL k k.need.length) f j) j ∧ costL k j (tabP k (fwdL k k.need.length) f j) = (fwdC k k.need.length).getD j 0 ∧ ∀ t, t < beg j (tabP k (fwdL k k.need.length) f j) 0 → k.need.getD t 0 = 0 := by
  intro f
  induction f with
  | zero =>
    intro j h1 h2
    obtain rfl : j = 0 := by omega
    exact ⟨Rising.nil 0, by rw [fwdC_at0]; rfl, fun t ht => by simp [tabP, beg] at ht⟩
  | succ f ih =>
    intro j h1 h2
    by_cases h0 : j = 0
    · subst h0
      rw [tabP_zero]
      exact ⟨Rising.nil 0, by rw [fwdC_at0]; rfl, fun t ht => by simp [beg] at ht⟩
    obtain ⟨j, rfl⟩ : ∃ q, j = q + 1 := ⟨j - 1, by omega⟩
    have hb := fwdB_le k j
    obtain ⟨i1, i2, i3⟩ := ih (fwdB k j) (by omega) (by omega)
    rw [tabP_s (b := fwdB k j) (by omega) (by rw [Nat.add_sub_cancel]; exact fwdL_at k (by omega))]
    generalize tabP k (fwdL k k.need.length) f (fwdB k j) = P at *
    rw [fwd_b k h2, ← i2]
    by_cases hp : 0 < sumR k.need (fwdB k j) (j + 1)
    · rw [if_pos hp]
      refine ⟨rise_snoc i1 (by omega), costL_snoc k P _ _, fun t ht => ?_⟩
      rw [beg_snoc (Nat.zero_le _)] at ht
      exact i3 t ht
    · rw [if_neg hp, List.append_nil]
      have nn := sumR_nn (m := 20) (by omega) hg.need (i := fwdB k j) (j := j + 1) (by omega)
      have hz0 : sumR k.need (fwdB k j) (j + 1) = 0 := by omega
      have z : ∀ s, fwdB k j ≤ s → s < j + 1 → k.need.getD s 0 = 0 := fun s h1 h2 => by
        have a := sumR_nn (m := 20) (by omega) hg.need (i := fwdB k j) (j := s) h1
        have b := sumR_nn (m := 20) (by omega) hg.need (i := s + 1) (j := j + 1) (by omega)
        have c := getD_bound (m := 20) (by omega) hg.need s
        have d := sumR_add k.need (fwdB k j) s (j + 1)
        have d2 := sumR_h k.need s (j + 1)
        omega
      refine ⟨⟨fun i hi => by have := i1.bd i hi; omega, i1.up⟩, by rw [spanF_zero k hz0, costL_ext i1 (by omega) z]; omega, fun t ht => ?_⟩
      by_cases e : t < fwdB k j
      · refine i3 t ?_
        unfold beg at ht ⊢
        split
        · rename_i hl; rw [if_pos hl] at ht; exact ht
        · exact e
      · have : t < j + 1 := by
          have := beg_le (n := j + 1) (ps := P) ⟨fun i hi => by have := i1.bd i hi; omega, i1.up⟩ 0
          omega
        exact z t (by omega) this
theorem table_best {k : Cs} (hg : Good k) : Rising (tabP k (fwdL k k.need.length) k.need.length k.need.length) k.need.length ∧ covers k.need (tabP k (fwdL k k.need.length) k.need.length k.need.length) = true ∧ costOf k (fromL k.need (tabP k (fwdL k k.need.length) k.need.length k.need.length)) = bestCost k := by
  obtain ⟨r1, r2, r3⟩ := tab_path hg k.need.length k.need.length (Nat.le_refl _) (Nat.le_refl _)
  generalize tabP k (fwdL k k.need.length) k.need.length k.need.length = P at *
  have hc : covers k.need P = true := by
    refine decide_eq_true fun t ht hl => ?_
    have : t < beg k.need.length P 0 := by
      cases P with
      | nil => rw [beg_nil]; exact ht
      | cons p r =>
        rw [beg_cons0]
        have : (t : Int) < p := hl
        omega
    rw [r3 t this]; omega
  refine ⟨r1, hc, ?_⟩
  rw [fromL_cost hg r1 hc, r2, best_D hg]
  exact fwd_tot k

theorem hor_mem (k : Cs) (ls : List Int) : ∀ n t : Nat, t < n → (((t : Int) + 1) ∈ horP k ls n ↔ horAt k ls t = true) := by
  have up : ∀ n, ∀ y ∈ horP k ls n, y ≤ (n : Int) := by
    intro n
    induction n with
    | zero => intro y hy; simp [horP] at hy
    | succ n ih =>
      intro y hy
      rw [horP] at hy
      split at hy
      · rcases List.mem_append.1 hy with h | h
        · have := ih y h; omega
        · simp at h; omega
      · have := ih y hy; omega
  intro n
  induction n with
  | zero => intro t h; omega
  | succ n ih =>
    intro t ht
    rw [horP]
    by_cases e : t = n
    · subst e
      by_cases hh : horAt k ls t = true
      · rw [if_pos hh]; simp [hh]
      · rw [if_neg hh]
        exact ⟨fun h => by have := up t _ h; omega, fun h => absurd h hh⟩
    · split
      · rw [List.mem_append, ih t (by omega)]
        constructor
        · rintro (h | h)
          · exact h
          · simp at h; omega
        · exact fun h => .inl h
      · exact ih t (by omega)
theorem turn_mem (k : Cs) : ∀ n t : Nat, t < n → turnAt k t = true → (t : Int) ∈ turnP k n := by
  intro n
  induction n with
  | zero => intro t h; omega
  | succ n ih =>
    intro t ht hh
    rw [turnP]
    by_cases e : t = n
    · subst e; rw [if_pos hh]; simp
    · have := ih t (by omega) hh
      split
      · exact List.mem_append_left _ this
      · exact this
theorem rate_falls {k : Cs} (hw : waitsB k = true) {t : Nat} : ∀ d i, i + d ≤ t → i + d < k.need.length → rateF k (i + d) t ≤ rateF k i t := by
  intro d
  induction d with
  | zero => intro i _ _; exact Int.le_refl _
  | succ d ih =>
    intro i h1 h2
    have a := ih i (by omega) (by omega)
    have w : waitAt k (i + d) = true := by
      unfold waitsB at hw
      rw [List.all_eq_true] at hw
      exact hw (i + d) (List.mem_range.2 (by omega))
    unfold waitAt at w
    have w := of_decide_eq_true w
    have e : rateF k (i + d) t = k.unit.getD (i + d) 0 + (k.hold.getD (i + d) 0 + sumR k.hold (i + d + 1) t) := by unfold rateF; rw [sumR_h]
    have e2 : rateF k (i + (d + 1)) t = k.unit.getD (i + d + 1) 0 + sumR k.hold (i + d + 1) t := rfl
    omega
theorem span_adds {k : Cs} (hg : Good k) (hw : waitsB k = true) {i t h : Nat} (hit : i ≤ t) (hth : t < h) (htn : t < k.need.length) : ∀ d, spanS k t (h + d) - spanS k t h ≤ spanS k i (h + d) - spanS k i h := by
  intro d
  induction d with
  | zero => simp
  | succ d ih =>
    have r := rate_falls hw (t := h + d) (t - i) i (by omega) (by omega)
    rw [show i + (t - i) = t by omega] at r
    have c := getD_bound (m := 20) (by omega) hg.need (h + d)
    have m := Int.mul_le_mul_of_nonneg_left r c.1
    rw [← Nat.add_assoc, spanS_s k (show t ≤ h + d by omega), spanS_s k (show i ≤ h + d by omega)]
    omega
theorem span_pos {k : Cs} (hg : Good k) {i j t : Nat} (h1 : i ≤ t) (h2 : t < j) (hp : 0 < k.need.getD t 0) : spanF k i j = k.setup.getD i 0 + spanS k i j := by
  unfold spanF
  rw [if_pos]
  have a := sumR_nn (m := 20) (by omega) hg.need (i := i) (j := t) h1
  have b := sumR_nn (m := 20) (by omega) hg.need (i := t + 1) (j := j) (by omega)
  have d := sumR_add k.need i t j
  have d2 := sumR_h k.need t j
  omega
theorem fwdB_min (k : Cs) {n t i : Nat} (ht : t + 1 ≤ n) (hi : i ≤ t) : (fwdC k n).getD (fwdB k t) 0 + spanF k (fwdB k t) (t + 1) ≤ (fwdC k n).getD i 0 + spanF k i (t + 1) := by
  rw [← fwd_b k ht]
  exact fwd_le k (by omega) ht
theorem hor_turn {k : Cs} (hg : Good k) (hw : waitsB k = true) {t : Nat} (ht : t < k.need.length) (hb : fwdB k t = t) (hp : 0 < k.need.getD t 0) : turnAt k t = true := by
  have key : ∀ d i, i + d = t → (fwdC k k.need.length).getD t 0 + bwdD k t ≤ (fwdC k k.need.length).getD i 0 + bwdD k i := by
    intro d
    induction d using Nat.strongRecOn with
    | ind d ih =>
      intro i hid
      by_cases h0 : d = 0
      · subst h0; rw [show i = t by omega]; exact Int.le_refl _
      · obtain ⟨j, h1, h2, e⟩ := bwd_eq k (i := i) (by omega)
        by_cases hj : j ≤ t
        · have a := fwd_le k (n := k.need.length) h1 h2
          have b := ih (t - j) (by omega) j (by omega)
          omega
        · have m := fwdB_min k (n := k.need.length) (t := t) (i := i) (by omega) (by omega)
          rw [hb] at m
          have s1 := span_pos hg (i := i) (j := j) (t := t) (by omega) (by omega) hp
          have s2 := span_pos hg (i := t) (j := j) (t := t) (by omega) (by omega) hp
          have s3 := span_pos hg (i := i) (j := t + 1) (t := t) (by omega) (by omega) hp
          have s4 := span_pos hg (i := t) (j := t + 1) (t := t) (by omega) (by omega) hp
          have ad := span_adds hg hw (i := i) (t := t) (h := t + 1) (by omega) (by omega) ht (j - (t + 1))
          rw [show t + 1 + (j - (t + 1)) = j by omega] at ad
          have bl := bwd_le k (i := t) (j := j) (by omega) h2
          omega
  have k0 := key t 0 (by omega)
  rw [fwdC_at0] at k0
  have ge := both_ge k t (by omega)
  unfold turnAt
  rw [bwd_D k (by omega), bwd_D k (by omega), beq_iff_eq]
  omega
theorem lastB_strict (f : Nat → Int) (n : Nat) : ∀ i, lastB f n < i → i < n → f (lastB f n) < f i := by
  induction n with
  | zero => intro i _ h; omega
  | succ n ih =>
    intro i h1 h2
    rw [lastB] at h1 ⊢
    by_cases hc : f n ≤ f (lastB f n)
    · rw [if_pos hc] at h1; omega
    · rw [if_neg hc] at h1 ⊢
      by_cases e : i = n
      · subst e; omega
      · exact ih i h1 (by omega)
theorem lasts_rise {k : Cs} (hg : Good k) (hw : waitsB k = true) (hp : ∀ t, t < k.need.length → 0 < k.need.getD t 0) {h : Nat} (h1 : h + 1 < k.need.length) : fwdB k h ≤ fwdB k (h + 1) := by
  refine Nat.le_of_not_lt fun hc => ?_
  have b1 := fwdB_le k h
  have st := lastB_strict (valF k (fwdC k (h + 1)) (h + 1 + 1)) (h + 1 + 1) (fwdB k h) hc (by omega)
  have mi := fwdB_min k (n := h + 1) (t := h) (i := fwdB k (h + 1)) (by omega) (by omega)
  unfold valF at st
  have st' : (fwdC k (h + 1)).getD (fwdB k (h + 1)) 0 + spanF k (fwdB k (h + 1)) (h + 1 + 1) < (fwdC k (h + 1)).getD (fwdB k h) 0 + spanF k (fwdB k h) (h + 1 + 1) := st
  have s1 := span_pos hg (i := fwdB k (h + 1)) (j := h + 1 + 1) (t := h) (by omega) (by omega) (hp h (by omega))
  have s2 := span_pos hg (i := fwdB k h) (j := h + 1 + 1) (t := h) (by omega) (by omega) (hp h (by omega))
  have s3 := span_pos hg (i := fwdB k (h + 1)) (j := h + 1) (t := h) (by omega) (by omega) (hp h (by omega))
  have s4 := span_pos hg (i := fwdB k h) (j := h + 1) (t := h) (by omega) (by omega) (hp h (by omega))
  have ad := span_adds hg hw (i := fwdB k (h + 1)) (t := fwdB k h) (h := h + 1) (by omega) (by omega) (by omega) 1
  omega
end Go.Proofs.Ytibkaclkaigflaa.Ab
end
section
namespace Go.Proofs.Ytibkaclkaigflaa.Ab
open Go Go.RowKit
set_option linter.unusedVariables false
set_option linter.unusedSimpArgs false
def bestCA (k : Cs) : Int := if k.good then bestCost k else 0
theorem bestCA_no {k : Cs} (h : k.good = false) : bestCA k = 0 := by unfold bestCA; rw [h]; rfl
theorem bestCA_yes {k : Cs} (h : k.good = true) : bestCA k = bestCost k := by unfold bestCA; rw [h]; rfl

def risB (ps : List Int) (n : Nat) : Bool := decide (∀ i, i < ps.length → (0 ≤ ps.getD i 0 ∧ ps.getD i 0 ≤ (n : Int) - 1) ∧ (0 < i → ps.getD (i - 1) 0 < ps.getD i 0))
theorem risB_iff {ps : List Int} {n : Nat} : risB ps n = true ↔ Rising ps n := by
  unfold risB
  rw [decide_eq_true_iff]
  constructor
  · intro h
    refine ⟨fun i hi => by have := (h i hi).1; omega, fun i hi => ?_⟩
    have := (h (i + 1) hi).2 (by omega)
    simpa using this
  · intro h i hi
    refine ⟨by have := h.bd i hi; omega, fun h0 => ?_⟩
    have := h.up (i - 1) (by omega)
    rwa [show i - 1 + 1 = i by omega] at this
theorem risB_no {ps : List Int} {n i : Nat} (hi : i < ps.length) (h : ¬ ((0 ≤ ps.getD i 0 ∧ ps.getD i 0 ≤ (n : Int) - 1) ∧ (0 < i → ps.getD (i - 1) 0 < ps.getD i 0))) : risB ps n = false :=
  decide_eq_false fun hh => h (hh i hi)

def fromOk (k : Cs) (ps : List Int) : Bool := k.good && risB ps k.need.length && covers k.need ps
def fromA (k : Cs) (ps : List Int) : List Int := if fromOk k ps then fromL k.need ps else []
theorem fromA_no {k : Cs} {ps : List Int} (h : fromOk k ps = false) : fromA k ps = [] := by unfold fromA; rw [h]; rfl
theorem fromA_yes {k : Cs} {ps : List Int} (h : fromOk k ps = true) : fromA k ps = fromL k.need ps := by unfold fromA; rw [h]; rfl

end Go.Proofs.Ytibkaclkaigflaa.Ab
end
section
namespace Go.Proofs.Ytibkaclkaigflaa.Ab
open Go Go.RowKit Go.Shelf Go.Proofs
attribute [local go_sem] Oper.semAt_some
set_option maxRecDepth 100000 in
set_option maxHeartbeats 2000000 in
theorem backward_pos (l Bs bo len : Nat) (zs : List Int) (hpos : 0 < len) (hreach : len * 8 ≤ 140737488355328) (J : Nat → World → Prop)
    (hc : ∀ k W, J k W → ∃ b off cap, W.cell? ⟨Bs, bo, none⟩ = some (.slice (some ⟨b, off, none⟩) len cap) ∧ ∀ j, j < len → W.cell? ⟨b, off + j, none⟩ = some (.int .i64 (zs[j]?.getD 0)))
    (hY : ∀ k W, k < len → J k W → ∃ (fn : FuncId) (T : Array Value) (X Y : Code), (Instr.yield l #[.int .i64 ((len : Int) - 1 - k), .int .i64 (zs[len - 1 - k]?.getD 0)]).run Try.prog W = .ok (.round l fn T X Y) W ∧
      RoundIn Fence.wide 0 Try.prog l fn T X Y W fun e W' => e = .returned (.bool true) ∧ J (k + 1) W')
    (W : World) (h0 : J 0 W) :
    CallsIn Fence.wide 0 Try.prog 39 #[.func (.yield l) #[] #[], .pointer (some ⟨Bs, bo, none⟩)] W fun e W' => (∃ v, e = .returned v) ∧ J len W' := by
  refine callsIn_of_wp Try.func39 rfl trivial ?_ rfl
  simp only [Try.ntmps39, List.size_toArray, List.length_cons, List.length_nil, Nat.reduceAdd, Nat.reduceSub, Array.replicate_succ, Array.replicate_zero, List.push_toArray, List.append_toArray, List.nil_append, List.cons_append]
  obtain ⟨_, _, _, hB, _⟩ := hc 0 W h0
  gi_wp2
  gi_loopw [3] (fun i wr => ∃ k : Nat, k ≤ len ∧ i = .int .i64 ((len : Int) - 1 - k) ∧ J k wr) (fun i _ => (intOf i + 1).toNat)
  case atStart => exact ⟨0, Nat.zero_le _, by simp, h0⟩
  case round =>
    obtain ⟨k, hk, rfl, hJs⟩ := hrel
    obtain ⟨b, off, cap, hbx, hcs⟩ := hc k wr hJs
    by_cases hlt : k < len
    · obtain ⟨fn, tmps, assign, body, hy, hR⟩ := hY k wr hlt hJs
      have hcx := hcs (len - 1 - k) (by omega)
      gi_wp2
      refine ⟨rfl, hR.mono ?_⟩
      rintro e W3 ⟨rfl, hJ3⟩
      gi_wp2
      go_roundw
      case rel => exact ⟨k + 1, by omega, by simp; omega, hJ3⟩
      case measure => simp [intOf]; omega
    · obtain rfl : k = len := by omega
      gi_wp2
      go_end0
      exact ⟨⟨_, rfl⟩, hJs⟩
set_option maxRecDepth 100000 in
set_option maxHeartbeats 2000000 in
theorem backward_nil (l Bs bo cap : Nat) (A : Option Addr) (J : Nat → World → Prop) (W : World) (hc : W.cell? ⟨Bs, bo, none⟩ = some (.slice A 0 cap)) (h0 : J 0 W) :
    CallsIn Fence.wide 0 Try.prog 39 #[.func (.yield l) #[] #[], .pointer (some ⟨Bs, bo, none⟩)] W fun e W' => (∃ v, e = .returned v) ∧ J 0 W' := by
  refine callsIn_of_wp Try.func39 rfl trivial ?_ rfl
  simp only [Try.ntmps39, List.size_toArray, List.length_cons, List.length_nil, Nat.reduceAdd, Nat.reduceSub, Array.replicate_succ, Array.replicate_zero, List.push_toArray, List.append_toArray, List.nil_append, List.cons_append]
  gi_wp2
  gi_loopw [3] (fun i wr => i = .int .i64 (-1) ∧ J 0 wr) (fun _ _ => 0)
  case atStart => exact ⟨by simp, h0⟩
  case round =>
    obtain ⟨rfl, hJs⟩ := hrel
    gi_wp2
    go_end0
    exact ⟨⟨_, rfl⟩, hJs⟩
theorem iter_backward {bi ri off fl len : Nat} {zs : List Int} {J : Nat → Mem → Prop} (hr : len * 8 ≤ 140737488355328)
    (hJ : ∀ k m, J k m → rdc m bi 0 = some (.slice (some ⟨ri, off, none⟩) len fl) ∧ ∀ j, j < len → rdc m ri (off + j) = some (.int .i64 (zs[j]?.getD 0))) :
    Iter Try.prog 39 [.pointer (some ⟨bi, 0, none⟩)] len (fun k => [.int .i64 ((len : Int) - 1 - k), .int .i64 (zs[len - 1 - k]?.getD 0)]) J := by
  refine ⟨⟨_, Try.func39, rfl, rfl⟩, fun base ρ lb hvl l J' hcalm hback hY W h0 => ?_⟩
  have hlen : lb.length = 1 := hvl.1.symm
  obtain ⟨y, rfl⟩ : ∃ y, lb = [y] := by
    match lb, hlen with
    | [y], _ => exact ⟨y, rfl⟩
  have hy := hvl.2 0 _ y rfl rfl
  cases hy with
  | @ptr _ _ b o tot hp =>
    have key : ∀ k W, J' k W → ∃ A c, W.cell? ⟨b, o + 0, none⟩ = some (.slice A len c) ∧ (0 < len → ∃ b2 o2, A = some ⟨b2, o2, none⟩ ∧ ∀ j, j < len → W.cell? ⟨b2, o2 + j, none⟩ = some (.int .i64 (zs[j]?.getD 0))) := by
      intro k W hk
      obtain ⟨W0, ρ', m', hj, hpre, hm⟩ := hback k W hk
      obtain ⟨h1, h2⟩ := hJ k m' hj
      obtain ⟨y, hy, hv⟩ := hm.load h1 (pre_at hpre hp)
      cases hv with
      | @sl _ _ _ _ b2 o2 t2 c A hp2 hc1 hc2 hc3 hc4 =>
        refine ⟨A, c, hy, fun hpos => ?_⟩
        have hcell : ∀ j, j < len → W.cell? ⟨b2, o2 + (off + j), none⟩ = some (.int .i64 (zs[j]?.getD 0)) := fun j hj => by
          obtain ⟨z, hz, hvz⟩ := hm.load (h2 j hj) hp2
          cases hvz
          exact hz
        have hA : A = some ⟨b2, o2 + off, none⟩ := by
          by_cases hf : fl = 0
          · exact hc3 hf hpos
          · obtain ⟨h5, h6⟩ := hc4 (by omega)
            refine h6 ?_
            have : 0 < c * fl := Nat.mul_pos (by omega) (by omega)
            omega
        exact ⟨b2, o2 + off, hA, fun j hj => by rw [Nat.add_assoc]; exact hcell j hj⟩
    rcases Nat.eq_zero_or_pos len with hz | hpos
    · subst hz
      obtain ⟨A, c, h1, _⟩ := key 0 W h0
      exact backward_nil l b (o + 0) c A J' W h1 h0
    · refine backward_pos l b (o + 0) len zs hpos hr J' (fun k W hk => ?_) (fun k W hk hj => ?_) W h0
      · obtain ⟨A, c, h1, h2⟩ := key k W hk
        obtain ⟨b2, o2, rfl, h3⟩ := h2 hpos
        exact ⟨b2, o2, c, h1, h3⟩
      · exact hY k W hk hj [.int .i64 ((len : Int) - 1 - k), .int .i64 (zs[len - 1 - k]?.getD 0)] ⟨rfl, fun i x y hx hy => by
          rw [hx] at hy
          cases hy
          match i with
          | 0 => simp at hx; subst hx; exact .int _ _
          | 1 => simp at hx; subst hx; exact .int _ _
          | i + 2 => simp at hx⟩
end Go.Proofs.Ytibkaclkaigflaa.Ab
end
section
namespace Go.Proofs.Ytibkaclkaigflaa.Ab
open Go
def backI (need ps : List Int) : Nat → List Int
  | 0 => List.replicate need.length 0
  | k + 1 => (backI need ps k).set (ps.getD (ps.length - 1 - k) 0).toNat (sumR need (ps.getD (ps.length - 1 - k) 0).toNat (nxtP need.length ps (ps.length - 1 - k)))
theorem backI_len (need ps : List Int) (k : Nat) : (backI need ps k).length = need.length := by
  induction k with
  | zero => simp [backI]
  | succ k ih => rw [backI, List.length_set, ih]
def endB (n : Nat) (ps : List Int) (k : Nat) : Nat := if k = 0 then n else (ps.getD (ps.length - k) 0).toNat
theorem endB_nxt (n : Nat) (ps : List Int) {k : Nat} (h : k < ps.length) : endB n ps k = nxtP n ps (ps.length - 1 - k) := by
  unfold endB nxtP
  by_cases h0 : k = 0
  · rw [if_pos h0, if_neg (by omega)]
  · rw [if_neg h0, if_pos (by omega), show ps.length - 1 - k + 1 = ps.length - k by omega]
theorem endB_s (n : Nat) (ps : List Int) (k : Nat) : endB n ps (k + 1) = (ps.getD (ps.length - 1 - k) 0).toNat := by
  unfold endB
  rw [if_neg (by omega), show ps.length - (k + 1) = ps.length - 1 - k by omega]
theorem endB_in {n : Nat} {ps : List Int} (h : Rising ps n) {k : Nat} (hk : k ≤ ps.length) : endB n ps k ≤ n := by
  unfold endB
  split
  · omega
  · have := h.bd (ps.length - k) (by omega); omega
theorem backI_no {need ps : List Int} (h : Rising ps need.length) {t : Nat} : ∀ k, k ≤ ps.length → (∀ j, ps.length - k ≤ j → j < ps.length → ps.getD j 0 ≠ t) → (backI need ps k).getD t 0 = 0 := by
  intro k
  induction k with
  | zero => intro _ _; rw [backI, List.getD_eq_getElem?_getD, List.getElem?_replicate]; split <;> rfl
  | succ k ih =>
    intro hk hne
    have h1 := h.bd (ps.length - 1 - k) (by omega)
    have h2 := hne (ps.length - 1 - k) (by omega) (by omega)
    rw [backI, List.getD_eq_getElem?_getD, List.getElem?_set_ne (by omega), ← List.getD_eq_getElem?_getD]
    exact ih (by omega) fun j hj hj2 => hne j (by omega) hj2
theorem backI_at {need ps : List Int} (h : Rising ps need.length) {j : Nat} (hj : j < ps.length) : ∀ k, k ≤ ps.length → ps.length - k ≤ j → (backI need ps k).getD (ps.getD j 0).toNat 0 = sumR need (ps.getD j 0).toNat (nxtP need.length ps j) := by
  intro k
  induction k with
  | zero => intro _ hk; omega
  | succ k ih =>
    intro hk hkj
    have h1 := h.bd (ps.length - 1 - k) (by omega)
    rw [backI]
    by_cases e : j = ps.length - 1 - k
    · subst e
      rw [List.getD_eq_getElem?_getD, List.getElem?_set_self (by rw [backI_len]; omega)]
      rfl
    · have h2 := h.lt (i := ps.length - 1 - k) (j := j) (by omega) (by omega)
      have h3 := h.bd j (by omega)
      rw [List.getD_eq_getElem?_getD, List.getElem?_set_ne (by omega), ← List.getD_eq_getElem?_getD]
      exact ih (by omega) (by omega)
theorem back_from {need ps : List Int} (h : Rising ps need.length) : backI need ps ps.length = fromL need ps := by
  have key : ∀ t, t < need.length → (backI need ps ps.length).getD t 0 = (fromL need ps).getD t 0 := by
    intro t ht
    by_cases hex : ∃ j, j < ps.length ∧ ps.getD j 0 = (t : Int)
    · obtain ⟨j, hj, hjt⟩ := hex
      have hb : beg need.length ps j = t := by unfold beg; rw [if_pos hj]; omega
      have h1 := backI_at h hj ps.length (Nat.le_refl _) (by omega)
      have h2 := fromI_at h (j := j) ps.length (Nat.le_refl _) hj
      rw [hb] at h2
      rw [show (ps.getD j 0).toNat = t by omega] at h1
      rw [h1]
      unfold fromL
      rw [h2, nxt_beg]
    · have hno : ∀ j, j < ps.length → ps.getD j 0 ≠ (t : Int) := fun j hj e => hex ⟨j, hj, e⟩
      rw [backI_no h ps.length (Nat.le_refl _) fun j _ hj => hno j hj]
      exact (fromI_no h ps.length (Nat.le_refl _) hno).symm
  refine List.ext_getElem (by rw [backI_len, fromL_len]) fun i h1 h2 => ?_
  have := key i (by rw [backI_len] at h1; exact h1)
  rw [List.getD_eq_getElem?_getD, List.getD_eq_getElem?_getD, List.getElem?_eq_getElem h1, List.getElem?_eq_getElem h2] at this
  exact this
theorem covers_end {need ps : List Int} {b : Int} (hb : 0 ≤ b) (hn : ∀ x ∈ need, 0 ≤ x ∧ x ≤ b) (h : Rising ps need.length) : (0 < sumR need 0 (endB need.length ps ps.length)) ↔ covers need ps = false := by
  have he := endB_in h (Nat.le_refl ps.length)
  obtain ⟨e, hee⟩ : ∃ e, e = endB need.length ps ps.length := ⟨_, rfl⟩
  have hhd : ∀ t : Nat, t < need.length → ((t : Int) < ps.headD need.length ↔ t < e) := by
    intro t ht
    rw [hee]
    unfold endB
    cases ps with
    | nil => simp
    | cons p ps =>
      have := h.bd 0 (by simp)
      simp at this
      simp
  rw [← hee]
  constructor
  · intro hs
    rw [← Bool.not_eq_true]
    intro hc
    have hc := of_decide_eq_true hc
    have hz : ∀ j, j ≤ e → sumR need 0 j = 0 := by
      intro j
      induction j with
      | zero => intro _; exact sumR_self _ _
      | succ j ih =>
        intro hj
        rw [sumR_s, ih (by omega)]
        have h1 := hc j (by omega) ((hhd j (by omega)).2 (by omega))
        have h2 := (hn (need.getD j 0) (by rw [List.getD_eq_getElem?_getD, List.getElem?_eq_getElem (by omega)]; exact List.getElem_mem _)).1
        omega
    have := hz e (Nat.le_refl _)
    omega
  · intro hc
    have hc := of_decide_eq_false hc
    have : ∃ t, t < need.length ∧ (t : Int) < ps.headD need.length ∧ ¬ need.getD t 0 ≤ 0 := by
      apply Classical.byContradiction
      intro hno
      exact hc fun t h1 h2 => Classical.byContradiction fun h3 => hno ⟨t, h1, h2, h3⟩
    obtain ⟨t, h1, h2, h3⟩ := this
    have ht := (hhd t h1).1 h2
    have e1 := sumR_add need 0 t e
    have e2 := sumR_h need t e
    have e3 := sumR_nn hb hn (i := 0) (j := t) (by omega)
    have e4 := sumR_nn hb hn (i := t + 1) (j := e) (by omega)
    omega
end Go.Proofs.Ytibkaclkaigflaa.Ab
end
section
namespace Go.Proofs.Ytibkaclkaigflaa.Ab
open Go Go.RowKit
set_option linter.unusedVariables false
set_option linter.unusedSimpArgs false
theorem IntsA.preB {m : Mem} {v : Value} {l : List Int} (h : IntsA m v l) {hi : Nat} (h2 : hi ≤ l.length) :
    ∃ v', slcA 1 v none (some (.int .i64 hi)) = some v' ∧ IntsA m v' (cutL l 0 hi) := by
  obtain ⟨x, e, hx⟩ := h.cut (lo := 0) (Nat.zero_le hi) h2
  rcases h.form with ⟨rfl, rfl⟩ | ⟨id, off, fl, rfl⟩
  · have e1 : hi = 0 := by simpa using h2
    subst e1
    exact ⟨.slice none 0 0, rfl, IntsA.nil m⟩
  · have hs : slcA 1 (.slice (some ⟨id, off, none⟩) l.length fl) none (some (.int .i64 hi)) = some (.slice (some ⟨id, off, none⟩) hi fl) := by
      simp [slcA, boundA, h2]
    have hs2 : slcA 1 (.slice (some ⟨id, off, none⟩) l.length fl) (some (.int .i64 0)) (some (.int .i64 hi)) = some (.slice (some ⟨id, off, none⟩) hi 0) := by
      simp [slcA, boundA, h2]
    have e0 : (((0 : Nat) : Int)) = 0 := rfl
    rw [e0, hs2] at e
    cases e
    have hc : (cutL l 0 hi).length = hi := by rw [cutL_len h2, Nat.sub_zero]
    refine ⟨_, hs, ?_⟩
    have a := hx
    refine ⟨a.len, a.bd, fun k hk => ?_, fun k hk => ?_, ?_⟩
    · have := a.at_ k hk
      simp only [iadA, pAt] at this ⊢
      exact this
    · exact a.ld k hk
    · exact a.src
theorem rd_ownB {M : Mem} {id k : Nat} {t : TypeId} {cs : List Value} (h : M[id]? = some ⟨.own, t, cs⟩) : rdc M id k = cs[k]? := by
  unfold rdc; rw [h]; rfl
theorem iter_ints {bi : Nat} {u : Value} {ps : List Int} {J : Nat → Mem → Prop} {m0 : Mem} (h : IntsA m0 u ps) (hr : ps.length ≤ 1048576) (hJ : ∀ k m, J k m → rdc m bi 0 = some u ∧ IntsA m u ps) :
    Iter Try.prog 39 [.pointer (some ⟨bi, 0, none⟩)] ps.length (fun k => [.int .i64 ((ps.length : Int) - 1 - k), .int .i64 (ps.getD (ps.length - 1 - k) 0)]) J := by
  rcases h.form with ⟨rfl, rfl⟩ | ⟨id, off, fl, rfl⟩
  · refine ⟨⟨_, Try.func39, rfl, rfl⟩, fun base ρ lb hvl l J' hcalm hback hY W h0 => ?_⟩
    have hlen : lb.length = 1 := hvl.1.symm
    obtain ⟨y, rfl⟩ : ∃ y, lb = [y] := by
      match lb, hlen with
      | [y], _ => exact ⟨y, rfl⟩
    have hy := hvl.2 0 _ y rfl rfl
    cases hy with
    | @ptr _ _ b o tot hp =>
      obtain ⟨W0, ρ', m', hj, hpre, hm⟩ := hback 0 W h0
      obtain ⟨z, hz, hv⟩ := hm.load (hJ 0 m' hj).1 (pre_at hpre hp)
      cases hv
      exact backward_nil l b (o + 0) 0 none J' W hz h0
  · have := iter_backward (bi := bi) (ri := id) (off := off) (fl := fl) (len := ps.length) (zs := ps) (J := J) (by omega) fun k m' hj => ⟨(hJ k m' hj).1, fun j hlt => ?_⟩
    · simpa only [List.getD_eq_getElem?_getD] using this
    · have := (hJ k m' hj).2.ld j hlt
      simp only [pAt, ld1] at this
      rw [← List.getD_eq_getElem?_getD]
      exact this
theorem backward_rc (m : Mem) (u : Value) (ps : List Int) (h : IntsA m u ps) :
    RC Try.prog 27 [u] m fun r new => r = .func (.func 39) #[] #[.pointer (some ⟨m.length, 0, none⟩)] ∧ new = [⟨.own, 24, [u]⟩] := by
  refine rc_of_run mixed ok_slices_Backward (by simp) (go_start _ _ _ ?_)
  have hu : u.cells = #[u] := by rcases h.form with ⟨rfl, rfl⟩ | ⟨id, off, fl, rfl⟩ <;> rfl
  simp (config := {implicitDefEqProofs := false, maxDischargeDepth := 20}) (disch := first | omega | (simp only [lenE]; done) | (simp only [lenE]; omega) | rfl | (simp only [lenE, markR_len]; done) | (simp only [lenE, markR_len]; omega)) only [runE, mapE, listE, initT_5, initT_6, initT_7, initT_8, resV, oneV, binA, unA, reduceCtorEq, Nat.reduceEqDiff, Nat.reduceAdd, Nat.reduceLT, Nat.reduceLeDiff, Nat.reduceMul, Nat.reduceSub, ↓reduceIte, decide_true, decide_false, Bool.true_eq_false, Bool.false_eq_true, Bool.not_true, Bool.not_false, if_true, if_false, and_true, true_and, memE, celE, w64, Nat.zero_add, Nat.add_zero, Nat.mul_one, putL, and_self, ldn, c_slices_Backward, r_slices_Backward, hu]
  exact ⟨[⟨.own, 24, [u]⟩], rfl, noRo_own noRo_nil, rfl, rfl⟩
theorem implAsc_rc (m : Mem) (u : Value) (ps : List Int) (n : Nat) (h' : IntsA m u ps) (hn : n ≤ 1048576) :
    RC Try.prog 26 [u, .int .i64 (n : Int)] m (AnsV (.bool (risB ps n))) := by
  refine rc_of_run mixed ok_impl_isAscending (by simp) (go_start _ _ _ ?_)
  have hu := h'.ro
  have hbd := hu.bd
  simp (config := {implicitDefEqProofs := false, maxDischargeDepth := 20}) (disch := first | omega | (simp only [lenE]; done) | (simp only [lenE]; omega) | rfl | (simp only [lenE, markR_len]; done) | (simp only [lenE, markR_len]; omega)) only [runE, mapE, listE, initT_5, initT_6, initT_7, initT_8, resV, oneV, binA, unA, reduceCtorEq, Nat.reduceEqDiff, Nat.reduceAdd, Nat.reduceLT, Nat.reduceLeDiff, Nat.reduceMul, Nat.reduceSub, ↓reduceIte, decide_true, decide_false, Bool.true_eq_false, Bool.false_eq_true, Bool.not_true, Bool.not_false, if_true, if_false, and_true, true_and, memE, celE, w64, Nat.zero_add, Nat.add_zero, Nat.mul_one, putL, and_self, ldn, c_impl_isAscending, r_impl_isAscending, hu.len]
  refine loop_inv mixed (fun s => ∃ i : Nat, i ≤ ps.length ∧ (∀ j, j < i → (0 ≤ ps.getD j 0 ∧ ps.getD j 0 ≤ (n : Int) - 1) ∧ (0 < j → ps.getD (j - 1) 0 < ps.getD j 0)) ∧ s.t 1 = .int .i64 (n : Int) ∧ s.t 5 = .int .i64 (if i = 0 then 0 else ps.getD (i - 1) 0 + 1) ∧ s.t 8 = u ∧ s.t 9 = .int .i64 (ps.length : Int) ∧ s.t 10 = .int .i64 (i : Int) ∧ s.m = roM m) (fun s => ps.length - (intOf (s.t 10)).toNat)
    ⟨0, by omega, fun j hj => absurd hj (by omega), rfl, rfl, rfl, rfl, rfl, rfl⟩ ?_
  rintro s ⟨i, hk, hall, t1, t5, t8, t9, t10, tm⟩
  obtain ⟨x, hx⟩ : ∃ x : Int, x = if i = 0 then 0 else ps.getD (i - 1) 0 + 1 := ⟨_, rfl⟩
  rw [← hx] at t5
  have nx : ((0 ≤ ps.getD i 0 ∧ ps.getD i 0 ≤ (n : Int) - 1) ∧ (0 < i → ps.getD (i - 1) 0 < ps.getD i 0)) → ∀ j, j < i + 1 → (0 ≤ ps.getD j 0 ∧ ps.getD j 0 ≤ (n : Int) - 1) ∧ (0 < j → ps.getD (j - 1) 0 < ps.getD j 0) := fun hh j hj => by
    by_cases e : j < i
    · exact hall j e
    · have : j = i := by omega
      rw [this]; exact hh
  by_cases hlt : i < ps.length
  · have hlt' : (i : Int) < ps.length := by omega
    have ai := hu.at_ i hlt
    have li := hu.ld i hlt
    have hx1 : (ps.getD i 0 < x) ↔ ¬ (0 ≤ ps.getD i 0 ∧ (0 < i → ps.getD (i - 1) 0 < ps.getD i 0)) := by
      rw [hx]
      split
      · rename_i h0; subst h0; constructor
        · intro h1 h2; omega
        · intro h1; apply Int.not_le.1; intro h2; exact h1 ⟨h2, fun h => by omega⟩
      · rename_i h0
        have := (hall (i - 1) (by omega)).1
        constructor
        · intro h1 h2; have := h2.2 (by omega); omega
        · intro h1; apply Int.not_le.1; intro h2; exact h1 ⟨by omega, fun _ => by omega⟩
    by_cases hlo : ps.getD i 0 < x
    · simp (config := {implicitDefEqProofs := false, maxDischargeDepth := 20}) (disch := first | omega | (simp only [lenE]; done) | (simp only [lenE]; omega) | rfl | (simp only [lenE, markR_len]; done) | (simp only [lenE, markR_len]; omega)) only [runE, mapE, listE, initT_5, initT_6, initT_7, initT_8, resV, oneV, binA, unA, reduceCtorEq, Nat.reduceEqDiff, Nat.reduceAdd, Nat.reduceLT, Nat.reduceLeDiff, Nat.reduceMul, Nat.reduceSub, ↓reduceIte, decide_true, decide_false, Bool.true_eq_false, Bool.false_eq_true, Bool.not_true, Bool.not_false, if_true, if_false, and_true, true_and, memE, celE, w64, Nat.zero_add, Nat.add_zero, Nat.mul_one, putL, and_self, ldn, t1, t5, t8, t9, t10, tm, hlt', ai, li, hlo, goG_undef]
      rw [risB_no hlt fun hh => (hx1.1 hlo) ⟨hh.1.1, hh.2⟩]
      exact ext_ansV (Ext.refl m) rfl
    · have hge : (0 ≤ ps.getD i 0 ∧ (0 < i → ps.getD (i - 1) 0 < ps.getD i 0)) := Classical.byContradiction fun hh => hlo (hx1.2 hh)
      by_cases hhi : (n : Int) ≤ ps.getD i 0
      · simp (config := {implicitDefEqProofs := false, maxDischargeDepth := 20}) (disch := first | omega | (simp only [lenE]; done) | (simp only [lenE]; omega) | rfl | (simp only [lenE, markR_len]; done) | (simp only [lenE, markR_len]; omega)) only [runE, mapE, listE, initT_5, initT_6, initT_7, initT_8, resV, oneV, binA, unA, reduceCtorEq, Nat.reduceEqDiff, Nat.reduceAdd, Nat.reduceLT, Nat.reduceLeDiff, Nat.reduceMul, Nat.reduceSub, ↓reduceIte, decide_true, decide_false, Bool.true_eq_false, Bool.false_eq_true, Bool.not_true, Bool.not_false, if_true, if_false, and_true, true_and, memE, celE, w64, Nat.zero_add, Nat.add_zero, Nat.mul_one, putL, and_self, ldn, t1, t5, t8, t9, t10, tm, hlt', ai, li, hlo, hhi, ge_iff_le, goG_undef]
        rw [risB_no hlt fun hh => by omega]
        exact ext_ansV (Ext.refl m) rfl
      · simp (config := {implicitDefEqProofs := false, maxDischargeDepth := 20}) (disch := first | omega | (simp only [lenE]; done) | (simp only [lenE]; omega) | rfl | (simp only [lenE, markR_len]; done) | (simp only [lenE, markR_len]; omega)) only [runE, mapE, listE, initT_5, initT_6, initT_7, initT_8, resV, oneV, binA, unA, reduceCtorEq, Nat.reduceEqDiff, Nat.reduceAdd, Nat.reduceLT, Nat.reduceLeDiff, Nat.reduceMul, Nat.reduceSub, ↓reduceIte, decide_true, decide_false, Bool.true_eq_false, Bool.false_eq_true, Bool.not_true, Bool.not_false, if_true, if_false, and_true, true_and, memE, celE, w64, Nat.zero_add, Nat.add_zero, Nat.mul_one, putL, and_self, ldn, t1, t5, t8, t9, t10, tm, hlt', ai, li, hlo, hhi, ge_iff_le, goG_undef]
        refine ⟨⟨i + 1, by omega, nx ⟨⟨hge.1, by omega⟩, hge.2⟩, ?_⟩, ?_⟩
        · exact ⟨by rw [if_neg (by omega), Nat.add_sub_cancel], by simp⟩
        · simp [intOf]; omega
  · have e : i = ps.length := by omega
    subst e
    have hirr : ¬ ((ps.length : Int) < ps.length) := by omega
    simp (config := {implicitDefEqProofs := false, maxDischargeDepth := 20}) (disch := first | omega | (simp only [lenE]; done) | (simp only [lenE]; omega) | rfl | (simp only [lenE, markR_len]; done) | (simp only [lenE, markR_len]; omega)) only [runE, mapE, listE, initT_5, initT_6, initT_7, initT_8, resV, oneV, binA, unA, reduceCtorEq, Nat.reduceEqDiff, Nat.reduceAdd, Nat.reduceLT, Nat.reduceLeDiff, Nat.reduceMul, Nat.reduceSub, ↓reduceIte, decide_true, decide_false, Bool.true_eq_false, Bool.false_eq_true, Bool.not_true, Bool.not_false, if_true, if_false, and_true, true_and, memE, celE, w64, Nat.zero_add, Nat.add_zero, Nat.mul_one, putL, and_self, ldn, t1, t5, t8, t9, t10, tm, hirr]
    have hr : risB ps n = true := decide_eq_true hall
    rw [hr]
    exact ext_ansV (Ext.refl m) rfl
theorem setT_2 (t : Nat → Value) (i j : Nat) (x y : Value) (k : Nat) : setT t [i, j] [x, y] k = if k = j then y else if k = i then x else t k := rfl
theorem at4 (M : Mem) (x y z w : Blk) : (M ++ [x] ++ [y] ++ [z] ++ [w])[M.length + 1 + 1]? = some z ∧ (M ++ [x] ++ [y] ++ [z] ++ [w])[M.length + 1 + 1 + 1]? = some w := by
  have e : M ++ [x] ++ [y] ++ [z] ++ [w] = M ++ [x, y, z, w] := by simp
  rw [e]
  constructor
  · rw [List.getElem?_append_right (by omega), show M.length + 1 + 1 - M.length = 2 by omega]; rfl
  · rw [List.getElem?_append_right (by omega), show M.length + 1 + 1 + 1 - M.length = 3 by omega]; rfl
theorem range_gen {P : Program} {n : Nat} {v : Value} {g : Operand} {qs : List Nat} {c d : ACode} {k : Kont} {s : St} (I : St → Prop) (h0 : I s) (h : ∀ s, I s → rangeH P n v g qs c d k s) : rangeH P n v g qs c d k s := h s h0
structure FI (M0 : Mem) (a b c d n : Nat) (need ps : List Int) (u : Value) (k : Nat) (M : Mem) : Prop where
  g : Grow M0 M
  row : OwnR M a (backI need ps k)
  pb : M[b]? = some ⟨.own, 24, [.slice (some ⟨a, 0, none⟩) n 1]⟩
  pc : OwnR M c [(endB n ps k : Int)]
  pd : M[d]? = some ⟨.own, 24, [u]⟩
theorem implPlanFrom_rc (m : Mem) (v u : Value) (k : Cs) (ps : List Int) (h : CaseA m v k) (h' : IntsA m u ps) (hl : ps.length ≤ 1048576) :
    RC Try.prog 13 [v, u] m (AnsL m (fromA k ps) (fromOk k ps)) := by
  refine rc_of_run mixed ok_impl_PlanFrom (by simp) (go_start _ _ _ ?_)
  obtain ⟨v1, v2, v3, v4, rfl, h1, h2, h3, h4⟩ := h.ro.ok
  have hc : CaseA (roM m) (.agg #[v1, v2, v3, v4]) k := ⟨_, _, _, _, rfl, h1, h2, h3, h4⟩
  have hu := h'.ro
  simp (config := {implicitDefEqProofs := false, maxDischargeDepth := 20}) (disch := first | omega | (simp only [lenE]; done) | (simp only [lenE]; omega) | rfl | (simp only [lenE, markR_len]; done) | (simp only [lenE, markR_len]; omega)) only [runE, mapE, listE, initT_5, initT_6, initT_7, initT_8, resV, oneV, binA, unA, reduceCtorEq, Nat.reduceEqDiff, Nat.reduceAdd, Nat.reduceLT, Nat.reduceLeDiff, Nat.reduceMul, Nat.reduceSub, ↓reduceIte, decide_true, decide_false, Bool.true_eq_false, Bool.false_eq_true, Bool.not_true, Bool.not_false, if_true, if_false, and_true, true_and, memE, celE, w64, Nat.zero_add, Nat.add_zero, Nat.mul_one, putL, and_self, ldn, c_impl_PlanFrom, r_impl_PlanFrom]
  refine callH_rc (implIsCase_rc _ _ k (hc.ext _)) ?_
  rintro r new ⟨rfl, nr1⟩
  have hx : Grow (roM m ++ [⟨.own, 26, [v1, v2, v3, v4]⟩]) (roM m ++ [⟨.own, 26, [v1, v2, v3, v4]⟩] ++ new) := (Grow.refl _).app nr1
  cases hg : k.good with
  | false =>
    have e : fromOk k ps = false := by unfold fromOk; rw [hg]; rfl
    simp (config := {implicitDefEqProofs := false, maxDischargeDepth := 20}) (disch := first | omega | (simp only [lenE]; done) | (simp only [lenE]; omega) | rfl | (simp only [lenE, markR_len]; done) | (simp only [lenE, markR_len]; omega)) only [runE, mapE, listE, initT_5, initT_6, initT_7, initT_8, resV, oneV, binA, unA, reduceCtorEq, Nat.reduceEqDiff, Nat.reduceAdd, Nat.reduceLT, Nat.reduceLeDiff, Nat.reduceMul, Nat.reduceSub, ↓reduceIte, decide_true, decide_false, Bool.true_eq_false, Bool.false_eq_true, Bool.not_true, Bool.not_false, if_true, if_false, and_true, true_and, memE, celE, w64, Nat.zero_add, Nat.add_zero, Nat.mul_one, putL, and_self, ldn, bsl_none, goG_undef]
    rw [e, fromA_no e]
    refine ext_ansL (hx.ext.one _ _) (OwnR.end' (l := []) ?_) (by omega) rfl (by simp)
    simp only [List.length_append, List.length_cons, List.length_nil, roM_len]
  | true =>
    have gd := good_iff.1 hg
    have h8 := gd.n8
    obtain ⟨n, hn⟩ : ∃ n, n = k.need.length := ⟨_, rfl⟩
    obtain ⟨M1, hM1⟩ : ∃ M1, M1 = roM m ++ [⟨.own, 26, [v1, v2, v3, v4]⟩] ++ new := ⟨_, rfl⟩
    rw [← hM1] at hx ⊢
    obtain ⟨q0, q1, q2, q3, hlM⟩ := hx.box4
    have l1 := h1.len
    rw [← hn] at l1 h8
    simp (config := {implicitDefEqProofs := false, maxDischargeDepth := 20}) (disch := first | omega | (simp only [lenE]; done) | (simp only [lenE]; omega) | rfl | (simp only [lenE, markR_len]; done) | (simp only [lenE, markR_len]; omega)) only [runE, mapE, listE, initT_5, initT_6, initT_7, initT_8, resV, oneV, binA, unA, reduceCtorEq, Nat.reduceEqDiff, Nat.reduceAdd, Nat.reduceLT, Nat.reduceLeDiff, Nat.reduceMul, Nat.reduceSub, ↓reduceIte, decide_true, decide_false, Bool.true_eq_false, Bool.false_eq_true, Bool.not_true, Bool.not_false, if_true, if_false, and_true, true_and, memE, celE, w64, Nat.zero_add, Nat.add_zero, Nat.mul_one, putL, and_self, ldn, q0, q1, q2, q3, l1]
    refine callH_rc (implAsc_rc _ u ps n (hx.intsV hu) (by omega)) ?_
    rintro r new2 ⟨rfl, nr2⟩
    have hx2 := hx.app nr2
    obtain ⟨M2, hM2⟩ : ∃ M2, M2 = M1 ++ new2 := ⟨_, rfl⟩
    rw [← hM2] at hx2 ⊢
    obtain ⟨q0, q1, q2, q3, hlM2⟩ := hx2.box4
    cases hr : risB ps n with
    | false =>
      have e : fromOk k ps = false := by unfold fromOk; rw [← hn, hr]; simp
      simp (config := {implicitDefEqProofs := false, maxDischargeDepth := 20}) (disch := first | omega | (simp only [lenE]; done) | (simp only [lenE]; omega) | rfl | (simp only [lenE, markR_len]; done) | (simp only [lenE, markR_len]; omega)) only [runE, mapE, listE, initT_5, initT_6, initT_7, initT_8, resV, oneV, binA, unA, reduceCtorEq, Nat.reduceEqDiff, Nat.reduceAdd, Nat.reduceLT, Nat.reduceLeDiff, Nat.reduceMul, Nat.reduceSub, ↓reduceIte, decide_true, decide_false, Bool.true_eq_false, Bool.false_eq_true, Bool.not_true, Bool.not_false, if_true, if_false, and_true, true_and, memE, celE, w64, Nat.zero_add, Nat.add_zero, Nat.mul_one, putL, and_self, ldn, bsl_none, goG_undef]
      rw [e, fromA_no e]
      refine ext_ansL (hx2.ext.one _ _) (OwnR.end' (l := []) rfl) (by omega) rfl (by simp)
    | true =>
      have mk : ∀ M : Mem, mksA M 3 8 [.int .i64 0] (.int .i64 (n : Int)) (.int .i64 (n : Int)) = some (.slice (some ⟨M.length, 0, none⟩) n 1, M ++ [⟨.own, 3, List.replicate n (.int .i64 0)⟩]) := fun M => mksA_eq rfl (by omega)
      have l2 := (hx2.intsV h1).len
      rw [← hn] at l2
      simp (config := {implicitDefEqProofs := false, maxDischargeDepth := 20}) (disch := first | omega | (simp only [lenE]; done) | (simp only [lenE]; omega) | rfl | (simp only [lenE, markR_len]; done) | (simp only [lenE, markR_len]; omega)) only [runE, mapE, listE, initT_5, initT_6, initT_7, initT_8, resV, oneV, binA, unA, reduceCtorEq, Nat.reduceEqDiff, Nat.reduceAdd, Nat.reduceLT, Nat.reduceLeDiff, Nat.reduceMul, Nat.reduceSub, ↓reduceIte, decide_true, decide_false, Bool.true_eq_false, Bool.false_eq_true, Bool.not_true, Bool.not_false, if_true, if_false, and_true, true_and, memE, celE, w64, Nat.zero_add, Nat.add_zero, Nat.mul_one, putL, and_self, ldn, q0, q1, q2, q3, l2, mk]
      have hu2 := hx2.intsV hu
      refine callH_rc (backward_rc _ u ps (((hu2.ext _).ext _).ext _)) ?_
      rintro r new3 ⟨rfl, rfl⟩
      simp (config := {implicitDefEqProofs := false, maxDischargeDepth := 20}) (disch := first | omega | (simp only [lenE]; done) | (simp only [lenE]; omega) | rfl | (simp only [lenE, markR_len]; done) | (simp only [lenE, markR_len]; omega)) only [runE, mapE, listE, initT_5, initT_6, initT_7, initT_8, resV, oneV, binA, unA, reduceCtorEq, Nat.reduceEqDiff, Nat.reduceAdd, Nat.reduceLT, Nat.reduceLeDiff, Nat.reduceMul, Nat.reduceSub, ↓reduceIte, decide_true, decide_false, Bool.true_eq_false, Bool.false_eq_true, Bool.not_true, Bool.not_false, if_true, if_false, and_true, true_and, memE, celE, w64, Nat.zero_add, Nat.add_zero, Nat.mul_one, putL, and_self, ldn]
      have rr : Rising ps n := risB_iff.1 hr
      have rn : Rising ps k.need.length := by rw [← hn]; exact rr
      obtain ⟨M3, hM3⟩ : ∃ M3, M3 = M2 ++ [⟨.own, 3, List.replicate n (.int .i64 0)⟩] ++ [⟨.own, 24, [.slice (some ⟨M2.length, 0, none⟩) n 1]⟩] ++ [⟨.own, 3, [.int .i64 (n : Int)]⟩] ++ [⟨.own, 24, [u]⟩] := ⟨_, rfl⟩
      have f0 : FI (roM m ++ [⟨.own, 26, [v1, v2, v3, v4]⟩]) M2.length (M2.length + 1) (M2.length + 1 + 1) (M2.length + 1 + 1 + 1) n k.need ps u 0 M3 := by
        rw [hM3]
        refine ⟨(((hx2.one _ _).one _ _).one _ _).one _ _, ?_, by simp, (at4 _ _ _ _ _).1, (at4 _ _ _ _ _).2⟩
        have := (((OwnR.zeros (m := M2) (n := n) rfl).ext [⟨.own, 24, [.slice (some ⟨M2.length, 0, none⟩) n 1]⟩]).ext [⟨.own, 3, [.int .i64 (n : Int)]⟩]).ext [⟨.own, 24, [u]⟩]
        rw [backI, ← hn]
        exact this
      refine range_gen (fun s => s.t 2 = .pointer (some ⟨m.length, 0, none⟩) ∧ s.t 6 = .pointer (some ⟨M2.length + 1, 0, none⟩) ∧ s.t 7 = .pointer (some ⟨M2.length + 1 + 1, 0, none⟩) ∧
        s.t 29 = .func (.func 39) #[] #[.pointer (some ⟨M2.length + 1 + 1 + 1, 0, none⟩)] ∧ s.m = M3) ⟨rfl, rfl, rfl, rfl, hM3.symm⟩ ?_
      rintro s ⟨t2, t6, t7, t29, tm⟩
      refine range_run mixed (gf := 39) (caps := #[.pointer (some ⟨M2.length + 1 + 1 + 1, 0, none⟩)]) (by rw [ev_tmp]; exact t29) ps.length _
        (FI (roM m ++ [⟨.own, 26, [v1, v2, v3, v4]⟩]) M2.length (M2.length + 1) (M2.length + 1 + 1) (M2.length + 1 + 1 + 1) n k.need ps u)
        (iter_ints hu2 hl fun i M hM => ⟨by rw [rd_ownB hM.pd]; rfl, hM.g.intsV hu⟩) (fun _ => rfl) (by rw [tm]; exact f0) ?_ ?_
      · intro i M hi hM
        have hb := rr.bd (ps.length - 1 - i) (by omega)
        obtain ⟨p, hp⟩ : ∃ p : Nat, ps.getD (ps.length - 1 - i) 0 = (p : Int) := ⟨(ps.getD (ps.length - 1 - i) 0).toNat, by omega⟩
        have hpn : (ps.getD (ps.length - 1 - i) 0).toNat = p := by omega
        have nx := nxtP_in rr (i := ps.length - 1 - i) (by omega)
        have eb := endB_nxt n ps hi
        obtain ⟨w, hw⟩ : ∃ w, w = endB n ps i := ⟨_, rfl⟩
        rw [hpn, ← eb, ← hw] at nx
        obtain ⟨q0, q1, q2, q3, hlM3⟩ := hM.g.box4
        obtain ⟨c1, e1, d1⟩ := (hM.g.intsV h1).cut nx.1 (by omega)
        have rb : rdc M (M2.length + 1) 0 = some (.slice (some ⟨M2.length, 0, none⟩) n 1) := by rw [rd_ownB hM.pb]; rfl
        have rc : rdc M (M2.length + 1 + 1) 0 = some (.int .i64 (w : Int)) := by rw [rd_ownB hM.pc, hw]; rfl
        simp (config := {implicitDefEqProofs := false, maxDischargeDepth := 20}) (disch := first | omega | (simp only [lenE]; done) | (simp only [lenE]; omega) | rfl | (simp only [lenE, markR_len]; done) | (simp only [lenE, markR_len]; omega)) only [runE, mapE, listE, initT_5, initT_6, initT_7, initT_8, resV, oneV, binA, unA, reduceCtorEq, Nat.reduceEqDiff, Nat.reduceAdd, Nat.reduceLT, Nat.reduceLeDiff, Nat.reduceMul, Nat.reduceSub, ↓reduceIte, decide_true, decide_false, Bool.true_eq_false, Bool.false_eq_true, Bool.not_true, Bool.not_false, if_true, if_false, and_true, true_and, memE, celE, w64, Nat.zero_add, Nat.add_zero, Nat.mul_one, putL, and_self, ldn, t2, t6, t7, q0, rb, rc, e1, hp, setT_2]
        refine rcallH_rc (sumOf_cut_rc _ _ k.need d1 nx.1 (by omega) (b := 20) (by omega) (by omega) gd.need (by omega)) ?_
        rintro r new ⟨rfl, rfl⟩
        have m0 := hx2.len
        simp only [List.length_append, List.length_cons, List.length_nil, roM_len] at m0
        have st1 := hM.row.st (off := p) (x := sumR k.need p w) (by rw [backI_len]; omega)
        obtain ⟨M4, hM4⟩ : ∃ M4, M4 = M.set M2.length (rowB ((backI k.need ps i).set p (sumR k.need p w))) := ⟨_, rfl⟩
        rw [← hM4] at st1
        have oc : OwnR M4 (M2.length + 1 + 1) [(w : Int)] := by rw [hM4, hw]; exact hM.pc.set_ne (by omega)
        have st2 := oc.st (off := 0) (x := (p : Int)) (by simp)
        have ia : iadA 1 (.slice (some ⟨M2.length, 0, none⟩) n 1) (.int .i64 (p : Int)) = some (.pointer (some ⟨M2.length, p, none⟩)) := by
          have := iadA_in (id := M2.length) (off := 0) (n := n) (fl := 1) (sz := 1) (k := .i64) (j := p) (by omega)
          simpa using this
        simp (config := {implicitDefEqProofs := false, maxDischargeDepth := 20}) (disch := first | omega | (simp only [lenE]; done) | (simp only [lenE]; omega) | rfl | (simp only [lenE, markR_len]; done) | (simp only [lenE, markR_len]; omega)) only [runE, mapE, listE, initT_5, initT_6, initT_7, initT_8, resV, oneV, binA, unA, reduceCtorEq, Nat.reduceEqDiff, Nat.reduceAdd, Nat.reduceLT, Nat.reduceLeDiff, Nat.reduceMul, Nat.reduceSub, ↓reduceIte, decide_true, decide_false, Bool.true_eq_false, Bool.false_eq_true, Bool.not_true, Bool.not_false, if_true, if_false, and_true, true_and, memE, celE, w64, Nat.zero_add, Nat.add_zero, Nat.mul_one, putL, and_self, ldn, t7, ia, st1, st2, setT_2]
        rw [hM4]
        refine ⟨(hM.g.put (by simp [roM_len]; omega) _ _).put (by simp [roM_len]; omega) _ _, ?_, ?_, ?_, ?_⟩
        · rw [backI, hpn, ← hn, ← eb, ← hw]
          exact (OwnR.set_self hM.row).set_ne (by omega)
        · rw [List.getElem?_set_ne (by omega), List.getElem?_set_ne (by omega)]; exact hM.pb
        · rw [endB_s, hpn]
          exact OwnR.set_self (hM.pc.set_ne (by omega))
        · rw [List.getElem?_set_ne (by omega), List.getElem?_set_ne (by omega)]; exact hM.pd
      · intro M hM
        obtain ⟨w, hw⟩ : ∃ w, w = endB n ps ps.length := ⟨_, rfl⟩
        have hwn : w ≤ n := by rw [hw]; exact endB_in rr (Nat.le_refl _)
        obtain ⟨q0, q1, q2, q3, hlM3⟩ := hM.g.box4
        have rb : rdc M (M2.length + 1) 0 = some (.slice (some ⟨M2.length, 0, none⟩) n 1) := by rw [rd_ownB hM.pb]; rfl
        have rc : rdc M (M2.length + 1 + 1) 0 = some (.int .i64 (w : Int)) := by rw [rd_ownB hM.pc, hw]; rfl
        obtain ⟨c1, e1, d1⟩ := (hM.g.intsV h1).preB (hi := w) (by omega)
        simp (config := {implicitDefEqProofs := false, maxDischargeDepth := 20}) (disch := first | omega | (simp only [lenE]; done) | (simp only [lenE]; omega) | rfl | (simp only [lenE, markR_len]; done) | (simp only [lenE, markR_len]; omega)) only [runE, mapE, listE, initT_5, initT_6, initT_7, initT_8, resV, oneV, binA, unA, reduceCtorEq, Nat.reduceEqDiff, Nat.reduceAdd, Nat.reduceLT, Nat.reduceLeDiff, Nat.reduceMul, Nat.reduceSub, ↓reduceIte, decide_true, decide_false, Bool.true_eq_false, Bool.false_eq_true, Bool.not_true, Bool.not_false, if_true, if_false, and_true, true_and, memE, celE, w64, Nat.zero_add, Nat.add_zero, Nat.mul_one, putL, and_self, ldn, t2, t6, t7, q0, rb, rc, e1, Option.map_none]
        refine callH_rc (sumOf_cut_rc _ _ k.need d1 (Nat.zero_le _) (by omega) (b := 20) (by omega) (by omega) gd.need (by omega)) ?_
        rintro r new ⟨rfl, rfl⟩
        have ce := covers_end (b := 20) (by omega) gd.need rn
        rw [← hn, ← hw] at ce
        cases hcv : covers k.need ps with
        | false =>
          have e : fromOk k ps = false := by unfold fromOk; rw [hcv]; simp
          have pos := ce.2 hcv
          simp (config := {implicitDefEqProofs := false, maxDischargeDepth := 20}) (disch := first | omega | (simp only [lenE]; done) | (simp only [lenE]; omega) | rfl | (simp only [lenE, markR_len]; done) | (simp only [lenE, markR_len]; omega)) only [runE, mapE, listE, initT_5, initT_6, initT_7, initT_8, resV, oneV, binA, unA, reduceCtorEq, Nat.reduceEqDiff, Nat.reduceAdd, Nat.reduceLT, Nat.reduceLeDiff, Nat.reduceMul, Nat.reduceSub, ↓reduceIte, decide_true, decide_false, Bool.true_eq_false, Bool.false_eq_true, Bool.not_true, Bool.not_false, if_true, if_false, and_true, true_and, memE, celE, w64, Nat.zero_add, Nat.add_zero, Nat.mul_one, putL, and_self, ldn, bsl_none, gt_iff_lt, pos]
          rw [e, fromA_no e]
          exact ext_ansL (hM.g.ext.one _ _) (OwnR.end' (l := []) rfl) (by omega) rfl (by simp)
        | true =>
          have e : fromOk k ps = true := by unfold fromOk; rw [hg, hcv, ← hn, hr]; rfl
          have pos : ¬ (0 < sumR k.need 0 w) := fun hp => by have := ce.1 hp; rw [hcv] at this; cases this
          simp (config := {implicitDefEqProofs := false, maxDischargeDepth := 20}) (disch := first | omega | (simp only [lenE]; done) | (simp only [lenE]; omega) | rfl | (simp only [lenE, markR_len]; done) | (simp only [lenE, markR_len]; omega)) only [runE, mapE, listE, initT_5, initT_6, initT_7, initT_8, resV, oneV, binA, unA, reduceCtorEq, Nat.reduceEqDiff, Nat.reduceAdd, Nat.reduceLT, Nat.reduceLeDiff, Nat.reduceMul, Nat.reduceSub, ↓reduceIte, decide_true, decide_false, Bool.true_eq_false, Bool.false_eq_true, Bool.not_true, Bool.not_false, if_true, if_false, and_true, true_and, memE, celE, w64, Nat.zero_add, Nat.add_zero, Nat.mul_one, putL, and_self, ldn, gt_iff_lt, pos, t6, rb]
          rw [e, fromA_yes e]
          exact ext_ansL hM.g.ext (by rw [← back_from rn]; exact hM.row) (by omega) (by rw [fromL_len, hn]) (by rw [fromL_len]; omega)
end Go.Proofs.Ytibkaclkaigflaa.Ab
end
section
namespace Go.Proofs.Ytibkaclkaigflaa.Ab
open Go Go.RowKit
set_option linter.unusedVariables false
set_option linter.unusedSimpArgs false
theorem isNaN_rc (m : Mem) (x : Int) : RC Try.prog 61 [.int .i64 x] m fun r new => r = .bool false ∧ new = [] := by
  refine rc_of_run mixed ok_cmp_isNaN (by simp) (go_start _ _ _ ?_)
  simp (config := {implicitDefEqProofs := false, maxDischargeDepth := 20}) (disch := first | omega | (simp only [lenE]; done) | (simp only [lenE]; omega) | rfl | (simp only [lenE, markR_len]; done) | (simp only [lenE, markR_len]; omega)) only [runE, mapE, listE, initT_5, initT_6, initT_7, initT_8, resV, oneV, binA, unA, reduceCtorEq, Nat.reduceEqDiff, Nat.reduceAdd, Nat.reduceLT, Nat.reduceLeDiff, Nat.reduceMul, Nat.reduceSub, ↓reduceIte, decide_true, decide_false, Bool.true_eq_false, Bool.false_eq_true, Bool.not_true, Bool.not_false, if_true, if_false, and_true, true_and, memE, celE, w64, Nat.zero_add, Nat.add_zero, Nat.mul_one, putL, and_self, ldn, c_cmp_isNaN, r_cmp_isNaN, bne_self_eq_false]
  exact newQ_nil ⟨rfl, rfl⟩
def cmpI (a b : Int) : Int := if a < b then -1 else if b < a then 1 else 0
theorem cmpI_rc (m : Mem) (a b : Int) : RC Try.prog 52 [.int .i64 a, .int .i64 b] m fun r new => r = .int .i64 (cmpI a b) ∧ new = [] := by
  refine rc_of_run mixed ok_cmp_Compare (by simp) (go_start _ _ _ ?_)
  simp (config := {implicitDefEqProofs := false, maxDischargeDepth := 20}) (disch := first | omega | (simp only [lenE]; done) | (simp only [lenE]; omega) | rfl | (simp only [lenE, markR_len]; done) | (simp only [lenE, markR_len]; omega)) only [runE, mapE, listE, initT_5, initT_6, initT_7, initT_8, resV, oneV, binA, unA, reduceCtorEq, Nat.reduceEqDiff, Nat.reduceAdd, Nat.reduceLT, Nat.reduceLeDiff, Nat.reduceMul, Nat.reduceSub, ↓reduceIte, decide_true, decide_false, Bool.true_eq_false, Bool.false_eq_true, Bool.not_true, Bool.not_false, if_true, if_false, and_true, true_and, memE, celE, w64, Nat.zero_add, Nat.add_zero, Nat.mul_one, putL, and_self, ldn, c_cmp_Compare, r_cmp_Compare]
  refine callH_rc (isNaN_rc _ a) ?_
  rintro r new ⟨rfl, rfl⟩
  simp (config := {implicitDefEqProofs := false, maxDischargeDepth := 20}) (disch := first | omega | (simp only [lenE]; done) | (simp only [lenE]; omega) | rfl | (simp only [lenE, markR_len]; done) | (simp only [lenE, markR_len]; omega)) only [runE, mapE, listE, initT_5, initT_6, initT_7, initT_8, resV, oneV, binA, unA, reduceCtorEq, Nat.reduceEqDiff, Nat.reduceAdd, Nat.reduceLT, Nat.reduceLeDiff, Nat.reduceMul, Nat.reduceSub, ↓reduceIte, decide_true, decide_false, Bool.true_eq_false, Bool.false_eq_true, Bool.not_true, Bool.not_false, if_true, if_false, and_true, true_and, memE, celE, w64, Nat.zero_add, Nat.add_zero, Nat.mul_one, putL, and_self, ldn]
  refine callH_rc (isNaN_rc _ b) ?_
  rintro r new ⟨rfl, rfl⟩
  unfold cmpI
  by_cases h1 : a < b
  · simp (config := {implicitDefEqProofs := false, maxDischargeDepth := 20}) (disch := first | omega | (simp only [lenE]; done) | (simp only [lenE]; omega) | rfl | (simp only [lenE, markR_len]; done) | (simp only [lenE, markR_len]; omega)) only [runE, mapE, listE, initT_5, initT_6, initT_7, initT_8, resV, oneV, binA, unA, reduceCtorEq, Nat.reduceEqDiff, Nat.reduceAdd, Nat.reduceLT, Nat.reduceLeDiff, Nat.reduceMul, Nat.reduceSub, ↓reduceIte, decide_true, decide_false, Bool.true_eq_false, Bool.false_eq_true, Bool.not_true, Bool.not_false, if_true, if_false, and_true, true_and, memE, celE, w64, Nat.zero_add, Nat.add_zero, Nat.mul_one, putL, and_self, ldn, h1]
    exact newQ_nil ⟨rfl, rfl⟩
  · by_cases h2 : b < a
    · simp (config := {implicitDefEqProofs := false, maxDischargeDepth := 20}) (disch := first | omega | (simp only [lenE]; done) | (simp only [lenE]; omega) | rfl | (simp only [lenE, markR_len]; done) | (simp only [lenE, markR_len]; omega)) only [runE, mapE, listE, initT_5, initT_6, initT_7, initT_8, resV, oneV, binA, unA, reduceCtorEq, Nat.reduceEqDiff, Nat.reduceAdd, Nat.reduceLT, Nat.reduceLeDiff, Nat.reduceMul, Nat.reduceSub, ↓reduceIte, decide_true, decide_false, Bool.true_eq_false, Bool.false_eq_true, Bool.not_true, Bool.not_false, if_true, if_false, and_true, true_and, memE, celE, w64, Nat.zero_add, Nat.add_zero, Nat.mul_one, putL, and_self, ldn, h1, gt_iff_lt, h2]
      exact newQ_nil ⟨rfl, rfl⟩
    · simp (config := {implicitDefEqProofs := false, maxDischargeDepth := 20}) (disch := first | omega | (simp only [lenE]; done) | (simp only [lenE]; omega) | rfl | (simp only [lenE, markR_len]; done) | (simp only [lenE, markR_len]; omega)) only [runE, mapE, listE, initT_5, initT_6, initT_7, initT_8, resV, oneV, binA, unA, reduceCtorEq, Nat.reduceEqDiff, Nat.reduceAdd, Nat.reduceLT, Nat.reduceLeDiff, Nat.reduceMul, Nat.reduceSub, ↓reduceIte, decide_true, decide_false, Bool.true_eq_false, Bool.false_eq_true, Bool.not_true, Bool.not_false, if_true, if_false, and_true, true_and, memE, celE, w64, Nat.zero_add, Nat.add_zero, Nat.mul_one, putL, and_self, ldn, h1, gt_iff_lt, h2]
      exact newQ_nil ⟨rfl, rfl⟩
def cmpL : List Int → List Int → Int
  | [], [] => 0
  | [], _ :: _ => -1
  | _ :: _, [] => 1
  | x :: a, y :: b => if cmpI x y = 0 then cmpL a b else cmpI x y
theorem cmpL_drop {a b : List Int} {i : Nat} (ha : i < a.length) (hb : i < b.length) : cmpL (a.drop i) (b.drop i) = if cmpI (a.getD i 0) (b.getD i 0) = 0 then cmpL (a.drop (i + 1)) (b.drop (i + 1)) else cmpI (a.getD i 0) (b.getD i 0) := by
  rw [List.drop_eq_getElem_cons ha, List.drop_eq_getElem_cons hb, cmpL]
  simp [List.getD_eq_getElem?_getD, ha, hb]
theorem slCompare_rc (m : Mem) (v u : Value) (a b : List Int) (h : IntsA m v a) (h' : IntsA m u b) :
    RC Try.prog 53 [v, u] m (AnsV (.int .i64 (cmpL a b))) := by
  refine rc_of_run mixed ok_slices_Compare (by simp) (go_start _ _ _ ?_)
  have hv := h.ro
  have hu := h'.ro
  have hbd := hv.bd
  simp (config := {implicitDefEqProofs := false, maxDischargeDepth := 20}) (disch := first | omega | (simp only [lenE]; done) | (simp only [lenE]; omega) | rfl | (simp only [lenE, markR_len]; done) | (simp only [lenE, markR_len]; omega)) only [runE, mapE, listE, initT_5, initT_6, initT_7, initT_8, resV, oneV, binA, unA, reduceCtorEq, Nat.reduceEqDiff, Nat.reduceAdd, Nat.reduceLT, Nat.reduceLeDiff, Nat.reduceMul, Nat.reduceSub, ↓reduceIte, decide_true, decide_false, Bool.true_eq_false, Bool.false_eq_true, Bool.not_true, Bool.not_false, if_true, if_false, and_true, true_and, memE, celE, w64, Nat.zero_add, Nat.add_zero, Nat.mul_one, putL, and_self, ldn, c_slices_Compare, r_slices_Compare, hv.len]
  refine loop_inv mixed (fun s => ∃ i : Nat, i ≤ a.length ∧ i ≤ b.length ∧ cmpL a b = cmpL (a.drop i) (b.drop i) ∧ s.t 0 = v ∧ s.t 1 = u ∧ s.t 9 = v ∧ s.t 10 = .int .i64 a.length ∧ s.t 11 = .int .i64 i ∧ s.m = roM m) (fun s => a.length - (intOf (s.t 11)).toNat)
    ⟨0, by omega, by omega, rfl, rfl, rfl, rfl, rfl, rfl, rfl⟩ ?_
  rintro s ⟨i, hk, hk2, he, t0, t1, t9, t10, t11, tm⟩
  by_cases hlt : i < a.length
  · have hlt' : (i : Int) < a.length := by omega
    by_cases hlb : i < b.length
    · have hlb' : ¬ ((b.length : Int) ≤ i) := by omega
      rw [cmpL_drop hlt hlb] at he
      simp (config := {implicitDefEqProofs := false, maxDischargeDepth := 20}) (disch := first | omega | (simp only [lenE]; done) | (simp only [lenE]; omega) | rfl | (simp only [lenE, markR_len]; done) | (simp only [lenE, markR_len]; omega)) only [runE, mapE, listE, initT_5, initT_6, initT_7, initT_8, resV, oneV, binA, unA, reduceCtorEq, Nat.reduceEqDiff, Nat.reduceAdd, Nat.reduceLT, Nat.reduceLeDiff, Nat.reduceMul, Nat.reduceSub, ↓reduceIte, decide_true, decide_false, Bool.true_eq_false, Bool.false_eq_true, Bool.not_true, Bool.not_false, if_true, if_false, and_true, true_and, memE, celE, w64, Nat.zero_add, Nat.add_zero, Nat.mul_one, putL, and_self, ldn, t0, t1, t9, t10, t11, tm, hlt', hv.at_ i hlt, hv.ld i hlt, hu.len, ge_iff_le, hlb', hu.at_ i hlb, hu.ld i hlb]
      refine callH_rc (cmpI_rc _ (a.getD i 0) (b.getD i 0)) ?_
      rintro r new ⟨rfl, rfl⟩
      by_cases hq : cmpI (a.getD i 0) (b.getD i 0) = 0
      · have hq' : (cmpI (a.getD i 0) (b.getD i 0) != 0) = false := by rw [hq]; rfl
        rw [if_pos hq] at he
        simp (config := {implicitDefEqProofs := false, maxDischargeDepth := 20}) (disch := first | omega | (simp only [lenE]; done) | (simp only [lenE]; omega) | rfl | (simp only [lenE, markR_len]; done) | (simp only [lenE, markR_len]; omega)) only [runE, mapE, listE, initT_5, initT_6, initT_7, initT_8, resV, oneV, binA, unA, reduceCtorEq, Nat.reduceEqDiff, Nat.reduceAdd, Nat.reduceLT, Nat.reduceLeDiff, Nat.reduceMul, Nat.reduceSub, ↓reduceIte, decide_true, decide_false, Bool.true_eq_false, Bool.false_eq_true, Bool.not_true, Bool.not_false, if_true, if_false, and_true, true_and, memE, celE, w64, Nat.zero_add, Nat.add_zero, Nat.mul_one, putL, and_self, ldn, t0, t1, t9, t10, t11, tm, hq']
        exact ⟨⟨i + 1, by omega, by omega, he, by simp⟩, by simp [intOf]; omega⟩
      · have hq' : (cmpI (a.getD i 0) (b.getD i 0) != 0) = true := by simpa using hq
        rw [if_neg hq] at he
        simp (config := {implicitDefEqProofs := false, maxDischargeDepth := 20}) (disch := first | omega | (simp only [lenE]; done) | (simp only [lenE]; omega) | rfl | (simp only [lenE, markR_len]; done) | (simp only [lenE, markR_len]; omega)) only [runE, mapE, listE, initT_5, initT_6, initT_7, initT_8, resV, oneV, binA, unA, reduceCtorEq, Nat.reduceEqDiff, Nat.reduceAdd, Nat.reduceLT, Nat.reduceLeDiff, Nat.reduceMul, Nat.reduceSub, ↓reduceIte, decide_true, decide_false, Bool.true_eq_false, Bool.false_eq_true, Bool.not_true, Bool.not_false, if_true, if_false, and_true, true_and, memE, celE, w64, Nat.zero_add, Nat.add_zero, Nat.mul_one, putL, and_self, ldn, t0, t1, t9, t10, t11, tm, hq']
        rw [he]
        exact ext_ansV (Ext.refl m) rfl
    · have hlb' : (b.length : Int) ≤ i := by omega
      have e : cmpL (a.drop i) (b.drop i) = 1 := by
        rw [show b.drop i = [] from List.drop_eq_nil_of_le (by omega), List.drop_eq_getElem_cons hlt]; rfl
      simp (config := {implicitDefEqProofs := false, maxDischargeDepth := 20}) (disch := first | omega | (simp only [lenE]; done) | (simp only [lenE]; omega) | rfl | (simp only [lenE, markR_len]; done) | (simp only [lenE, markR_len]; omega)) only [runE, mapE, listE, initT_5, initT_6, initT_7, initT_8, resV, oneV, binA, unA, reduceCtorEq, Nat.reduceEqDiff, Nat.reduceAdd, Nat.reduceLT, Nat.reduceLeDiff, Nat.reduceMul, Nat.reduceSub, ↓reduceIte, decide_true, decide_false, Bool.true_eq_false, Bool.false_eq_true, Bool.not_true, Bool.not_false, if_true, if_false, and_true, true_and, memE, celE, w64, Nat.zero_add, Nat.add_zero, Nat.mul_one, putL, and_self, ldn, t0, t1, t9, t10, t11, tm, hlt', hv.at_ i hlt, hv.ld i hlt, hu.len, ge_iff_le, hlb']
      rw [he, e]
      exact ext_ansV (Ext.refl m) rfl
  · have hlt' : ¬ ((i : Int) < a.length) := by omega
    have e : i = a.length := by omega
    by_cases hlb : a.length < b.length
    · have hlb' : (a.length : Int) < b.length := by omega
      have e2 : cmpL (a.drop i) (b.drop i) = -1 := by
        rw [e, List.drop_length, List.drop_eq_getElem_cons hlb]; rfl
      simp (config := {implicitDefEqProofs := false, maxDischargeDepth := 20}) (disch := first | omega | (simp only [lenE]; done) | (simp only [lenE]; omega) | rfl | (simp only [lenE, markR_len]; done) | (simp only [lenE, markR_len]; omega)) only [runE, mapE, listE, initT_5, initT_6, initT_7, initT_8, resV, oneV, binA, unA, reduceCtorEq, Nat.reduceEqDiff, Nat.reduceAdd, Nat.reduceLT, Nat.reduceLeDiff, Nat.reduceMul, Nat.reduceSub, ↓reduceIte, decide_true, decide_false, Bool.true_eq_false, Bool.false_eq_true, Bool.not_true, Bool.not_false, if_true, if_false, and_true, true_and, memE, celE, w64, Nat.zero_add, Nat.add_zero, Nat.mul_one, putL, and_self, ldn, t0, t1, t9, t10, t11, tm, hlt', hv.len, hu.len, hlb']
      rw [he, e2]
      exact ext_ansV (Ext.refl m) rfl
    · have hlb' : ¬ ((a.length : Int) < b.length) := by omega
      have e2 : cmpL (a.drop i) (b.drop i) = 0 := by
        rw [e, List.drop_length, show b.drop a.length = [] from List.drop_eq_nil_of_le (by omega)]; rfl
      simp (config := {implicitDefEqProofs := false, maxDischargeDepth := 20}) (disch := first | omega | (simp only [lenE]; done) | (simp only [lenE]; omega) | rfl | (simp only [lenE, markR_len]; done) | (simp only [lenE, markR_len]; omega)) only [runE, mapE, listE, initT_5, initT_6, initT_7, initT_8, resV, oneV, binA, unA, reduceCtorEq, Nat.reduceEqDiff, Nat.reduceAdd, Nat.reduceLT, Nat.reduceLeDiff, Nat.reduceMul, Nat.reduceSub, ↓reduceIte, decide_true, decide_false, Bool.true_eq_false, Bool.false_eq_true, Bool.not_true, Bool.not_false, if_true, if_false, and_true, true_and, memE, celE, w64, Nat.zero_add, Nat.add_zero, Nat.mul_one, putL, and_self, ldn, t0, t1, t9, t10, t11, tm, hlt', hv.len, hu.len, hlb']
      rw [he, e2]
      exact ext_ansV (Ext.refl m) rfl
def orL : List Int → Int
  | [] => 0
  | x :: l => if x = 0 then orL l else x
theorem orL_drop {a : List Int} {i : Nat} (ha : i < a.length) : orL (a.drop i) = if a.getD i 0 = 0 then orL (a.drop (i + 1)) else a.getD i 0 := by
  rw [List.drop_eq_getElem_cons ha, orL]
  simp [List.getD_eq_getElem?_getD, ha]
theorem cmpOr_rc (m : Mem) (v : Value) (a : List Int) (h : IntsA m v a) : RC Try.prog 51 [v] m (AnsV (.int .i64 (orL a))) := by
  refine rc_of_run mixed ok_cmp_Or (by simp) (go_start _ _ _ ?_)
  have hv := h.ro
  have hbd := hv.bd
  simp (config := {implicitDefEqProofs := false, maxDischargeDepth := 20}) (disch := first | omega | (simp only [lenE]; done) | (simp only [lenE]; omega) | rfl | (simp only [lenE, markR_len]; done) | (simp only [lenE, markR_len]; omega)) only [runE, mapE, listE, initT_5, initT_6, initT_7, initT_8, resV, oneV, binA, unA, reduceCtorEq, Nat.reduceEqDiff, Nat.reduceAdd, Nat.reduceLT, Nat.reduceLeDiff, Nat.reduceMul, Nat.reduceSub, ↓reduceIte, decide_true, decide_false, Bool.true_eq_false, Bool.false_eq_true, Bool.not_true, Bool.not_false, if_true, if_false, and_true, true_and, memE, celE, w64, Nat.zero_add, Nat.add_zero, Nat.mul_one, putL, and_self, ldn, c_cmp_Or, r_cmp_Or, hv.len]
  refine loop_inv mixed (fun s => ∃ i : Nat, i ≤ a.length ∧ orL a = orL (a.drop i) ∧ s.t 3 = .int .i64 0 ∧ s.t 6 = v ∧ s.t 7 = .int .i64 a.length ∧ s.t 8 = .int .i64 i ∧ s.m = roM m) (fun s => a.length - (intOf (s.t 8)).toNat)
    ⟨0, by omega, rfl, rfl, rfl, rfl, rfl, rfl⟩ ?_
  rintro s ⟨i, hk, he, t3, t6, t7, t8, tm⟩
  by_cases hlt : i < a.length
  · have hlt' : (i : Int) < a.length := by omega
    rw [orL_drop hlt] at he
    by_cases hq : a.getD i 0 = 0
    · have hq' : (a.getD i 0 != 0) = false := by rw [hq]; rfl
      rw [if_pos hq] at he
      simp (config := {implicitDefEqProofs := false, maxDischargeDepth := 20}) (disch := first | omega | (simp only [lenE]; done) | (simp only [lenE]; omega) | rfl | (simp only [lenE, markR_len]; done) | (simp only [lenE, markR_len]; omega)) only [runE, mapE, listE, initT_5, initT_6, initT_7, initT_8, resV, oneV, binA, unA, reduceCtorEq, Nat.reduceEqDiff, Nat.reduceAdd, Nat.reduceLT, Nat.reduceLeDiff, Nat.reduceMul, Nat.reduceSub, ↓reduceIte, decide_true, decide_false, Bool.true_eq_false, Bool.false_eq_true, Bool.not_true, Bool.not_false, if_true, if_false, and_true, true_and, memE, celE, w64, Nat.zero_add, Nat.add_zero, Nat.mul_one, putL, and_self, ldn, t3, t6, t7, t8, tm, hlt', hv.at_ i hlt, hv.ld i hlt, hq']
      exact ⟨⟨i + 1, by omega, he, by simp⟩, by simp [intOf]; omega⟩
    · have hq' : (a.getD i 0 != 0) = true := by simpa using hq
      rw [if_neg hq] at he
      simp (config := {implicitDefEqProofs := false, maxDischargeDepth := 20}) (disch := first | omega | (simp only [lenE]; done) | (simp only [lenE]; omega) | rfl | (simp only [lenE, markR_len]; done) | (simp only [lenE, markR_len]; omega)) only [runE, mapE, listE, initT_5, initT_6, initT_7, initT_8, resV, oneV, binA, unA, reduceCtorEq, Nat.reduceEqDiff, Nat.reduceAdd, Nat.reduceLT, Nat.reduceLeDiff, Nat.reduceMul, Nat.reduceSub, ↓reduceIte, decide_true, decide_false, Bool.true_eq_false, Bool.false_eq_true, Bool.not_true, Bool.not_false, if_true, if_false, and_true, true_and, memE, celE, w64, Nat.zero_add, Nat.add_zero, Nat.mul_one, putL, and_self, ldn, t3, t6, t7, t8, tm, hlt', hv.at_ i hlt, hv.ld i hlt, hq']
      rw [he]
      exact ext_ansV (Ext.refl m) rfl
  · have hlt' : ¬ ((i : Int) < a.length) := by omega
    have e : i = a.length := by omega
    rw [e, List.drop_length] at he
    simp (config := {implicitDefEqProofs := false, maxDischargeDepth := 20}) (disch := first | omega | (simp only [lenE]; done) | (simp only [lenE]; omega) | rfl | (simp only [lenE, markR_len]; done) | (simp only [lenE, markR_len]; omega)) only [runE, mapE, listE, initT_5, initT_6, initT_7, initT_8, resV, oneV, binA, unA, reduceCtorEq, Nat.reduceEqDiff, Nat.reduceAdd, Nat.reduceLT, Nat.reduceLeDiff, Nat.reduceMul, Nat.reduceSub, ↓reduceIte, decide_true, decide_false, Bool.true_eq_false, Bool.false_eq_true, Bool.not_true, Bool.not_false, if_true, if_false, and_true, true_and, memE, celE, w64, Nat.zero_add, Nat.add_zero, Nat.mul_one, putL, and_self, ldn, t3, t6, t7, t8, tm, hlt']
    rw [he]
    exact ext_ansV (Ext.refl m) rfl
theorem cmpL_lex : ∀ {a b : List Int}, a.length = b.length → decide (cmpL a b < 0) = lexB a b := by
  intro a
  induction a with
  | nil => intro b h; cases b with
    | nil => rfl
    | cons y b => simp at h
  | cons x a ih =>
    intro b h
    cases b with
    | nil => simp at h
    | cons y b =>
      rw [cmpL, lexB]
      unfold cmpI
      by_cases e : x = y
      · subst e
        simp only [Int.lt_irrefl, if_false, if_true]
        exact ih (by simpa using h)
      · rw [if_neg e]
        by_cases h1 : x < y
        · simp [h1]
        · have h2 : y < x := by omega
          simp [h1, h2]
theorem or_bef (c1 c2 : Int) (l1 l2 : List Int) : decide (orL [cmpI c1 c2, cmpI l1.length l2.length, cmpL l1 l2] < 0) = bef (c1, l1) (c2, l2) := by
  unfold bef beforeB
  simp only [orL]
  unfold cmpI
  by_cases e : c1 = c2
  · subst e
    simp only [Int.lt_irrefl, if_false, if_true]
    by_cases e2 : l1.length = l2.length
    · rw [if_pos e2, ← cmpL_lex e2, e2]
      simp only [Int.lt_irrefl, if_false, if_true]
      by_cases h0 : cmpL l1 l2 = 0
      · rw [h0]; simp
      · rw [if_neg h0]
    · rw [if_neg e2]
      by_cases h1 : l1.length < l2.length
      · have h1' : (l1.length : Int) < l2.length := by omega
        simp [h1]
      · have h2 : l2.length < l1.length := by omega
        simp [h1, h2]
  · rw [if_neg e]
    by_cases h1 : c1 < c2
    · simp [h1]
    · have h2 : c2 < c1 := by omega
      simp [h1, h2]
theorem comesBefore_rc (m : Mem) (c1 c2 : Int) (v u : Value) (a b : List Int) (h : IntsA m v a) (h' : IntsA m u b) :
    RC Try.prog 42 [.agg #[.int .i64 c1, v], .agg #[.int .i64 c2, u]] m (AnsV (.bool (bef (c1, a) (c2, b)))) := by
  refine rc_of_run mixed ok_impl_comesBefore (by simp) (go_start _ _ _ ?_)
  have hv := h.ro
  have hu := h'.ro
  have l1 := hv.len
  have l2 := hu.len
  simp (config := {implicitDefEqProofs := false, maxDischargeDepth := 20}) (disch := first | omega | (simp only [lenE]; done) | (simp only [lenE]; omega) | rfl | (simp only [lenE, markR_len]; done) | (simp only [lenE, markR_len]; omega)) only [runE, mapE, listE, initT_5, initT_6, initT_7, initT_8, resV, oneV, binA, unA, reduceCtorEq, Nat.reduceEqDiff, Nat.reduceAdd, Nat.reduceLT, Nat.reduceLeDiff, Nat.reduceMul, Nat.reduceSub, ↓reduceIte, decide_true, decide_false, Bool.true_eq_false, Bool.false_eq_true, Bool.not_true, Bool.not_false, if_true, if_false, and_true, true_and, memE, celE, w64, Nat.zero_add, Nat.add_zero, Nat.mul_one, putL, and_self, ldn, c_impl_comesBefore, r_impl_comesBefore, l1, l2]
  refine rcallH_rc (cmpI_rc _ c1 c2) ?_
  rintro r new ⟨rfl, rfl⟩
  simp (config := {implicitDefEqProofs := false, maxDischargeDepth := 20}) (disch := first | omega | (simp only [lenE]; done) | (simp only [lenE]; omega) | rfl | (simp only [lenE, markR_len]; done) | (simp only [lenE, markR_len]; omega)) only [runE, mapE, listE, initT_5, initT_6, initT_7, initT_8, resV, oneV, binA, unA, reduceCtorEq, Nat.reduceEqDiff, Nat.reduceAdd, Nat.reduceLT, Nat.reduceLeDiff, Nat.reduceMul, Nat.reduceSub, ↓reduceIte, decide_true, decide_false, Bool.true_eq_false, Bool.false_eq_true, Bool.not_true, Bool.not_false, if_true, if_false, and_true, true_and, memE, celE, w64, Nat.zero_add, Nat.add_zero, Nat.mul_one, putL, and_self, ldn]
  refine rcallH_rc (cmpI_rc _ (a.length : Int) (b.length : Int)) ?_
  rintro r new ⟨rfl, rfl⟩
  simp (config := {implicitDefEqProofs := false, maxDischargeDepth := 20}) (disch := first | omega | (simp only [lenE]; done) | (simp only [lenE]; omega) | rfl | (simp only [lenE, markR_len]; done) | (simp only [lenE, markR_len]; omega)) only [runE, mapE, listE, initT_5, initT_6, initT_7, initT_8, resV, oneV, binA, unA, reduceCtorEq, Nat.reduceEqDiff, Nat.reduceAdd, Nat.reduceLT, Nat.reduceLeDiff, Nat.reduceMul, Nat.reduceSub, ↓reduceIte, decide_true, decide_false, Bool.true_eq_false, Bool.false_eq_true, Bool.not_true, Bool.not_false, if_true, if_false, and_true, true_and, memE, celE, w64, Nat.zero_add, Nat.add_zero, Nat.mul_one, putL, and_self, ldn]
  refine rcallH_rc (slCompare_rc _ v u a b ((hv.ext _).ext _) ((hu.ext _).ext _)) ?_
  rintro r new ⟨rfl, nr⟩
  have b3 : ∀ (M : Mem) (x y z : Int), bslA M 3 1 3 [.int .i64 0, .int .i64 0, .int .i64 0] [(0, 1, .int .i64 x), (1, 1, .int .i64 y), (2, 1, .int .i64 z)] = some (.slice (some ⟨M.length, 0, none⟩) 3 1, M ++ [⟨.own, 3, [x, y, z].map (Value.int .i64)⟩]) := fun M x y z => rfl
  simp (config := {implicitDefEqProofs := false, maxDischargeDepth := 20}) (disch := first | omega | (simp only [lenE]; done) | (simp only [lenE]; omega) | rfl | (simp only [lenE, markR_len]; done) | (simp only [lenE, markR_len]; omega)) only [runE, mapE, listE, initT_5, initT_6, initT_7, initT_8, resV, oneV, binA, unA, reduceCtorEq, Nat.reduceEqDiff, Nat.reduceAdd, Nat.reduceLT, Nat.reduceLeDiff, Nat.reduceMul, Nat.reduceSub, ↓reduceIte, decide_true, decide_false, Bool.true_eq_false, Bool.false_eq_true, Bool.not_true, Bool.not_false, if_true, if_false, and_true, true_and, memE, celE, w64, Nat.zero_add, Nat.add_zero, Nat.mul_one, putL, and_self, ldn, b3]
  have o3 := fun M : Mem => OwnR.at_end M [cmpI c1 c2, cmpI (a.length : Int) (b.length : Int), cmpL a b]
  refine rcallH_rc (cmpOr_rc _ _ [cmpI c1 c2, cmpI (a.length : Int) (b.length : Int), cmpL a b] ((OwnR.end' (l := [cmpI c1 c2, cmpI (a.length : Int) (b.length : Int), cmpL a b]) (by simp [roM_len]; omega)).ints (by simp) 1)) ?_
  rintro r new2 ⟨rfl, nr2⟩
  simp (config := {implicitDefEqProofs := false, maxDischargeDepth := 20}) (disch := first | omega | (simp only [lenE]; done) | (simp only [lenE]; omega) | rfl | (simp only [lenE, markR_len]; done) | (simp only [lenE, markR_len]; omega)) only [runE, mapE, listE, initT_5, initT_6, initT_7, initT_8, resV, oneV, binA, unA, reduceCtorEq, Nat.reduceEqDiff, Nat.reduceAdd, Nat.reduceLT, Nat.reduceLeDiff, Nat.reduceMul, Nat.reduceSub, ↓reduceIte, decide_true, decide_false, Bool.true_eq_false, Bool.false_eq_true, Bool.not_true, Bool.not_false, if_true, if_false, and_true, true_and, memE, celE, w64, Nat.zero_add, Nat.add_zero, Nat.mul_one, putL, and_self, ldn]
  rw [or_bef]
  exact ext_ansV ((((((Ext.refl m).one _ _).one _ _).app nr).one _ _).app nr2) rfl
end Go.Proofs.Ytibkaclkaigflaa.Ab
end
section
namespace Go.Proofs.Ytibkaclkaigflaa.Ab
open Go Go.RowKit
set_option linter.unusedVariables false
set_option linter.unusedSimpArgs false
structure Gw (mid : Nat) (m m' : Mem) : Prop where
  len : m.length ≤ m'.length
  old : ∀ id, id < m.length → id ≠ mid → m'[id]? = m[id]?
  new : ∀ id b, m.length ≤ id → m'[id]? = some b → b.kd ≠ .ro
  at_ : ∀ b, m'[mid]? = some b → b.kd ≠ .ro
theorem Gw.refl {mid : Nat} {m : Mem} (h : ∀ b, m[mid]? = some b → b.kd ≠ .ro) : Gw mid m m :=
  ⟨Nat.le_refl _, fun _ _ _ => rfl, fun id b h1 h2 => absurd (List.getElem?_eq_some_iff.1 h2).1 (by omega), h⟩
theorem Gw.app {mid : Nat} {m m' new : Mem} (h : Gw mid m m') (hn : NoRo new) : Gw mid m (m' ++ new) := by
  have key : ∀ (id : Nat) (b : Blk), (m' ++ new)[id]? = some b → m'[id]? = some b ∨ b.kd ≠ .ro := by
    intro id b hb
    by_cases hi : id < m'.length
    · rw [List.getElem?_append_left hi] at hb; exact .inl hb
    · rw [List.getElem?_append_right (by omega)] at hb; exact .inr (hn b (List.mem_of_getElem? hb))
  refine ⟨by rw [List.length_append]; have := h.len; omega, fun id h1 h2 => ?_, fun id b h1 h2 => ?_, fun b h2 => ?_⟩
  · rw [List.getElem?_append_left (by have := h.len; omega)]; exact h.old id h1 h2
  · rcases key id b h2 with h3 | h3
    · exact h.new id b h1 h3
    · exact h3
  · rcases key mid b h2 with h3 | h3
    · exact h.at_ b h3
    · exact h3
theorem Gw.one {mid : Nat} {m m' : Mem} (h : Gw mid m m') (e : TypeId) (cs : List Value) : Gw mid m (m' ++ [⟨.own, e, cs⟩]) := h.app (noRo_own noRo_nil)
theorem Gw.set {mid : Nat} {m m' : Mem} (h : Gw mid m m') {id : Nat} {b : Blk} (hid : m.length ≤ id ∨ id = mid) (hb : b.kd ≠ .ro) : Gw mid m (m'.set id b) := by
  refine ⟨by rw [List.length_set]; exact h.len, fun i h1 h2 => ?_, fun i b2 h1 h2 => ?_, fun b2 h2 => ?_⟩
  · rw [List.getElem?_set_ne (by omega)]; exact h.old i h1 h2
  · rcases at_set h2 with ⟨_, h3⟩ | ⟨_, h3, _⟩
    · exact h.new i b2 h1 h3
    · rw [← h3]; exact hb
  · rcases at_set h2 with ⟨_, h3⟩ | ⟨_, h3, _⟩
    · exact h.at_ b2 h3
    · rw [← h3]; exact hb
theorem Gw.trans {mid : Nat} {a b c : Mem} (h : Gw mid a b) (h' : Gw mid b c) : Gw mid a c := by
  have l1 := h.len
  have l2 := h'.len
  refine ⟨by omega, fun i h1 h2 => (h'.old i (by omega) h2).trans (h.old i h1 h2), fun i x h1 h2 => ?_, h'.at_⟩
  by_cases e : i = mid
  · subst e; exact h'.at_ x h2
  · by_cases hi : i < b.length
    · rw [h'.old i hi e] at h2; exact h.new i x h1 h2
    · exact h'.new i x (by omega) h2
theorem Gw.blk {mid : Nat} {m m' : Mem} (h : Gw mid m m') {id : Nat} {b : Blk} (hb : m[id]? = some b) (hne : id ≠ mid) : m'[id]? = some b := by
  rw [h.old id (List.getElem?_eq_some_iff.1 hb).1 hne]; exact hb
theorem rdc_blk {m : Mem} {id k : Nat} {v : Value} (h : rdc m id k = some v) : ∃ b, m[id]? = some b ∧ b.kd ≠ .dead := by
  unfold rdc at h
  cases hm : m[id]? with
  | none => rw [hm] at h; cases h
  | some b =>
    rw [hm] at h
    refine ⟨b, rfl, fun e => ?_⟩
    simp only [e, if_true] at h
    cases h
theorem Gw.rd {mid : Nat} {m m' : Mem} (h : Gw mid m m') {e : TypeId} {cs : List Value} (hd : m[mid]? = some ⟨.dead, e, cs⟩) {id k : Nat} {v : Value} (hv : rdc m id k = some v) : rdc m' id k = some v := by
  obtain ⟨b, hb, hk⟩ := rdc_blk hv
  have hne : id ≠ mid := fun e => by subst e; rw [hd] at hb; cases hb; exact hk rfl
  unfold rdc at hv ⊢
  rw [h.old id (List.getElem?_eq_some_iff.1 hb).1 hne]; exact hv
theorem IntsA.of_at {m m' : Mem} {id off n fl : Nat} {l : List Int} (h : IntsA m (.slice (some ⟨id, off, none⟩) n fl) l) (e : m'[id]? = m[id]?) : IntsA m' (.slice (some ⟨id, off, none⟩) n fl) l := by
  refine ⟨h.len, h.bd, h.at_, fun k hk => ?_, ?_⟩
  · have := h.ld k hk
    simp only [pAt, ldA, rdc] at this ⊢
    rw [e]; exact this
  · have := h.src
    simp only [slR, rdl] at this ⊢
    rw [e]; exact this
theorem Gw.ints {mid : Nat} {m m' : Mem} (h : Gw mid m m') {e : TypeId} {cs : List Value} (hd : m[mid]? = some ⟨.dead, e, cs⟩) {v : Value} {l : List Int} (hi : IntsA m v l) : IntsA m' v l := by
  rcases hi.form with ⟨rfl, rfl⟩ | ⟨id, off, fl, rfl⟩
  · exact IntsA.nil m'
  · have hs := hi.src
    simp only [slR, rdl] at hs
    cases hb : m[id]? with
    | none => rw [hb] at hs; cases hs
    | some b =>
      rw [hb] at hs
      refine hi.of_at (h.old id (List.getElem?_eq_some_iff.1 hb).1 fun e2 => ?_)
      subst e2
      rw [hd] at hb
      cases hb
      simp at hs
theorem Gw.case {mid : Nat} {m m' : Mem} (h : Gw mid m m') {e : TypeId} {cs : List Value} (hd : m[mid]? = some ⟨.dead, e, cs⟩) {v : Value} {k : Cs} (hk : CaseA m v k) : CaseA m' v k := by
  obtain ⟨v1, v2, v3, v4, e0, h1, h2, h3, h4⟩ := hk.ok
  exact ⟨v1, v2, v3, v4, e0, h.ints hd h1, h.ints hd h2, h.ints hd h3, h.ints hd h4⟩
theorem Gw.own {mid : Nat} {m m' : Mem} (h : Gw mid m m') {e : TypeId} {cs : List Value} (hd : m[mid]? = some ⟨.dead, e, cs⟩) {id : Nat} {l : List Int} (ho : OwnR m id l) : OwnR m' id l := by
  refine h.blk ho fun e2 => ?_
  subst e2
  have : m[id]? = some (rowB l) := ho
  rw [hd] at this
  cases this
def RowV (M : Mem) (v : Value) (l : List Int) : Prop := (v = .slice none 0 0 ∧ l = []) ∨ ∃ id fl, v = .slice (some ⟨id, 0, none⟩) l.length fl ∧ OwnR M id l ∧ l.length ≤ 1048576
theorem RowV.ints {M : Mem} {v : Value} {l : List Int} (h : RowV M v l) : IntsA M v l := by
  rcases h with ⟨rfl, rfl⟩ | ⟨id, fl, rfl, ho, hl⟩
  · exact IntsA.nil M
  · exact ho.ints (by omega) fl
theorem RowV.keep {M M' : Mem} {v : Value} {l : List Int} (h : RowV M v l) (hk : ∀ id l, OwnR M id l → OwnR M' id l) : RowV M' v l := by
  rcases h with h | ⟨id, fl, h1, ho, hl⟩
  · exact .inl h
  · exact .inr ⟨id, fl, h1, hk id l ho, hl⟩
def LotV (M : Mem) (v : Value) (c : Int) (l : List Int) : Prop := ∃ A ln cp, v = .agg #[.int .i64 c, .slice A ln cp] ∧ RowV M (.slice A ln cp) l
theorem LotV.keep {M M' : Mem} {v : Value} {c : Int} {l : List Int} (h : LotV M v c l) (hk : ∀ id l, OwnR M id l → OwnR M' id l) : LotV M' v c l := by
  obtain ⟨A, ln, cp, h1, h2⟩ := h
  exact ⟨A, ln, cp, h1, h2.keep hk⟩
structure MG (k : Cs) (mid : Nat) (e : TypeId) (es : List Value) (M : Mem) : Prop where
  mp : M[mid]? = some ⟨.dead, e, .bool true :: es⟩
  ok : ∀ x v, lkE es x = some v → ∃ j : Nat, x = j ∧ j ≤ k.need.length ∧ LotV M v (costL k k.need.length (dp k k.need.length j)) (dp k k.need.length j)
  end_ : (lkE es k.need.length).isSome = true
theorem MG.keep {k : Cs} {mid : Nat} {e : TypeId} {es : List Value} {M M' : Mem} (h : MG k mid e es M) (hm : M'[mid]? = M[mid]?) (hk : ∀ id l, OwnR M id l → OwnR M' id l) : MG k mid e es M' :=
  ⟨hm.trans h.mp, fun x v hv => by obtain ⟨j, h1, h2, h3⟩ := h.ok x v hv; exact ⟨j, h1, h2, h3.keep hk⟩, h.end_⟩
theorem MG.app {k : Cs} {mid : Nat} {e : TypeId} {es : List Value} {M : Mem} (h : MG k mid e es M) (R : Mem) : MG k mid e es (M ++ R) :=
  h.keep (List.getElem?_append_left (List.getElem?_eq_some_iff.1 h.mp).1) fun id l ho => ho.ext R
theorem MG.box {k : Cs} {mid : Nat} {e : TypeId} {es : List Value} {M : Mem} (h : MG k mid e es M) {id : Nat} {t : TypeId} {cs : List Value} {b : Blk} (hb : M[id]? = some ⟨.own, t, cs⟩) (ht : t ≠ 3) : MG k mid e es (M.set id b) := by
  refine h.keep (List.getElem?_set_ne fun e2 => ?_) fun i l ho => ho.set_ne fun e2 => ?_
  · subst e2; have := h.mp; rw [hb] at this; cases this
  · subst e2
    have : M[id]? = some (rowB l) := ho
    rw [hb] at this
    cases this
    exact ht rfl
structure LEnv (k : Cs) (v1 v2 v3 v4 : Value) (kb cb nb fb mid : Nat) (e : TypeId) (es : List Value) (m : Mem) : Prop where
  rk : rdc m kb 0 = some (.map (some mid))
  c0 : rdc m cb 0 = some v1
  c1 : rdc m cb 1 = some v2
  c2 : rdc m cb 2 = some v3
  c3 : rdc m cb 3 = some v4
  hc : CaseA m (.agg #[v1, v2, v3, v4]) k
  rn : rdc m nb 0 = some (.int .i64 k.need.length)
  rf : rdc m fb 0 = some (.func (.func 50) #[] #[.pointer (some ⟨kb, 0, none⟩), .pointer (some ⟨cb, 0, none⟩), .pointer (some ⟨nb, 0, none⟩), .pointer (some ⟨fb, 0, none⟩)])
  g : MG k mid e es m
theorem LEnv.gw {k : Cs} {v1 v2 v3 v4 : Value} {kb cb nb fb mid : Nat} {e : TypeId} {es es' : List Value} {m m' : Mem} (h : LEnv k v1 v2 v3 v4 kb cb nb fb mid e es m) (hg : Gw mid m m') (h2 : MG k mid e es' m') :
    LEnv k v1 v2 v3 v4 kb cb nb fb mid e es' m' :=
  ⟨hg.rd h.g.mp h.rk, hg.rd h.g.mp h.c0, hg.rd h.g.mp h.c1, hg.rd h.g.mp h.c2, hg.rd h.g.mp h.c3, hg.case h.g.mp h.hc, hg.rd h.g.mp h.rn, hg.rd h.g.mp h.rf, h2⟩
theorem rdc_lt {m : Mem} {id k : Nat} {v : Value} (h : rdc m id k = some v) : id < m.length := by
  obtain ⟨b, hb, _⟩ := rdc_blk h
  exact (List.getElem?_eq_some_iff.1 hb).1
theorem lkA_mp {M : Mem} {mid : Nat} {e : TypeId} {es : List Value} (h : M[mid]? = some ⟨.dead, e, .bool true :: es⟩) (z : Value) (x : Int) : lkA M true z (.map (some mid)) (.int .i64 x) = some (.tuple #[(lkE es x).getD z, .bool (lkE es x).isSome]) := by
  simp [lkA, mapOf, mapB, h]
theorem mupA_mp {M : Mem} {mid : Nat} {e : TypeId} {es : List Value} (h : M[mid]? = some ⟨.dead, e, .bool true :: es⟩) {x : Int} (hx : lkE es x = none) (v : Value) : mupA M (.map (some mid)) (.int .i64 x) v = some (M.set mid ⟨.dead, e, .bool true :: (es ++ [.tuple #[.int .i64 x, v]])⟩) := by
  simp [mupA, mapOf, mapB, h, hx]
theorem lkE_app : ∀ (es : List Value) (x y : Int) (v : Value), lkE (es ++ [.tuple #[.int .i64 y, v]]) x = match lkE es x with
    | some u => some u
    | none => if y = x then some v else none := by
  intro es
  induction es with
  | nil => intro x y v; simp [lkE]
  | cons a es ih =>
    intro x y v
    rw [List.cons_append]
    cases a with
    | tuple q =>
      simp only [lkE]
      split
      · split
        · rfl
        · exact ih x y v
      · exact ih x y v
    | _ => exact ih x y v
theorem rd_own {M : Mem} {id k : Nat} {t : TypeId} {cs : List Value} (h : M[id]? = some ⟨.own, t, cs⟩) : rdc M id k = cs[k]? := by
  simp [rdc, h]
theorem st2_own {M : Mem} {id : Nat} {t : TypeId} {a b : Value} (h : M[id]? = some ⟨.own, t, [a, b]⟩) (x : Int) (A : Option Addr) (ln cp : Nat) : stA M id 0 [.int .i64 x, .slice A ln cp] = some (M.set id ⟨.own, t, [.int .i64 x, .slice A ln cp]⟩) := by
  simp [stA, h, onesB, Value.oneCell', putL]
theorem dp_beg {k : Cs} {n nx : Nat} (h : nx ≤ n) : beg n (dp k n nx) 0 = nx := ((dp_min k n (n - nx) nx (by omega)).1).2
theorem dp_rising {k : Cs} {n nx : Nat} (h : nx ≤ n) : Rising (dp k n nx) n := ((dp_min k n (n - nx) nx (by omega)).1).1
end Go.Proofs.Ytibkaclkaigflaa.Ab
end
section
namespace Go.Proofs.Ytibkaclkaigflaa.Ab
open Go Go.RowKit
set_option linter.unusedVariables false
set_option linter.unusedSimpArgs false
theorem bld2 (x : Int) (A : Option Addr) (ln cp : Nat) : bldA [.int .i64 0, .slice none 0 0] [(0, 1, .int .i64 x), (1, 1, .slice A ln cp)] = some (.agg #[.int .i64 x, .slice A ln cp]) := rfl
theorem from_ac (k : Cs) (hg : Good k) (v1 v2 v3 v4 : Value) (kb cb nb fb mid : Nat) (e : TypeId) : ∀ (d first : Nat) (m : Mem) (es : List Value), first + d = k.need.length → LEnv k v1 v2 v3 v4 kb cb nb fb mid e es m →
    AC Try.prog 50 [.int .i64 first, .pointer (some ⟨kb, 0, none⟩), .pointer (some ⟨cb, 0, none⟩), .pointer (some ⟨nb, 0, none⟩), .pointer (some ⟨fb, 0, none⟩)] m fun r m' =>
      ∃ es', Gw mid m m' ∧ LEnv k v1 v2 v3 v4 kb cb nb fb mid e es' m' ∧ (∀ x : Int, x < first → lkE es' x = lkE es x) ∧ LotV m' r (costL k k.need.length (dp k k.need.length first)) (dp k k.need.length first) := by
  intro d
  induction d using Nat.strongRecOn with
  | _ d ih =>
    intro first m es hfd hE
    refine ac_of_run mixed ok_impl_lotsFrom_1 (by simp) (go_start _ _ _ ?_)
    have h8 := hg.n8
    obtain ⟨n, hn⟩ : ∃ n, n = k.need.length := ⟨_, rfl⟩
    have hkb := rdc_lt hE.rk
    have hcb := rdc_lt hE.c0
    have hnb := rdc_lt hE.rn
    have hfb := rdc_lt hE.rf
    have hmid := (List.getElem?_eq_some_iff.1 hE.g.mp).1
    have rk := hE.rk
    have c0 := hE.c0
    have c1 := hE.c1
    have c2 := hE.c2
    have c3 := hE.c3
    have rn := hE.rn
    rw [← hn] at h8 rn hfd
    have lk : ∀ R : Mem, lkA (m ++ R) true (.agg #[.int .i64 0, .slice none 0 0]) (.map (some mid)) (.int .i64 first) = some (.tuple #[(lkE es first).getD (.agg #[.int .i64 0, .slice none 0 0]), .bool (lkE es first).isSome]) := fun R => lkA_mp (hE.g.app R).mp _ _
    have g0 : Gw mid m m := Gw.refl fun b hb => by rw [hE.g.mp] at hb; cases hb; simp
    cases hl : lkE es first with
    | some v =>
      obtain ⟨j, hj, hjn, A, ln, cp, rfl, hrow⟩ := hE.g.ok _ _ hl
      have hj' : first = j := by omega
      subst hj'
      simp only [hl, Option.getD_some, Option.isSome_some] at lk
      simp (config := {implicitDefEqProofs := false, maxDischargeDepth := 20}) (disch := first | omega | (simp only [lenE]; done) | (simp only [lenE]; omega) | rfl | (simp only [lenE, markR_len]; done) | (simp only [lenE, markR_len]; omega)) only [runE, mapE, listE, initT_5, initT_6, initT_7, initT_8, resV, oneV, binA, unA, reduceCtorEq, Nat.reduceEqDiff, Nat.reduceAdd, Nat.reduceLT, Nat.reduceLeDiff, Nat.reduceMul, Nat.reduceSub, ↓reduceIte, decide_true, decide_false, Bool.true_eq_false, Bool.false_eq_true, Bool.not_true, Bool.not_false, if_true, if_false, and_true, true_and, memE, celE, w64, Nat.zero_add, Nat.add_zero, Nat.mul_one, putL, and_self, ldn, c_impl_lotsFrom_1, r_impl_lotsFrom_1, rk, lk, ext_2_0, ext_2_1, stP_aggL]
      have gw := (g0.one 49 [.int .i64 (costL k k.need.length (dp k k.need.length first)), .slice A ln cp]).one 49 [.int .i64 (costL k k.need.length (dp k k.need.length first)), .slice A ln cp]
      exact ⟨es, gw, hE.gw gw ((hE.g.app _).app _), fun x _ => rfl, A, ln, cp, rfl, hrow.keep fun id l ho => (ho.ext _).ext _⟩
    | none =>
      have hlt : first < n := by
        have := hE.g.end_
        rw [← hn] at this
        rcases Nat.lt_or_ge first n with h | h
        · exact h
        · have e1 : first = n := by omega
          rw [← e1, hl] at this
          cases this
      simp only [hl, Option.getD_none, Option.isSome_none] at lk
      simp (config := {implicitDefEqProofs := false, maxDischargeDepth := 20}) (disch := first | omega | (simp only [lenE]; done) | (simp only [lenE]; omega) | rfl | (simp only [lenE, markR_len]; done) | (simp only [lenE, markR_len]; omega)) only [runE, mapE, listE, initT_5, initT_6, initT_7, initT_8, resV, oneV, binA, unA, reduceCtorEq, Nat.reduceEqDiff, Nat.reduceAdd, Nat.reduceLT, Nat.reduceLeDiff, Nat.reduceMul, Nat.reduceSub, ↓reduceIte, decide_true, decide_false, Bool.true_eq_false, Bool.false_eq_true, Bool.not_true, Bool.not_false, if_true, if_false, and_true, true_and, memE, celE, w64, Nat.zero_add, Nat.add_zero, Nat.mul_one, putL, and_self, ldn, c_impl_lotsFrom_1, r_impl_lotsFrom_1, rk, lk, ext_2_0, ext_2_1, stP_aggL, c0, c1, c2, c3, rn]
      refine callH_rc (orderCost_rc _ _ k first n ((hE.hc.ext _).ext _) hg hlt (by omega)) ?_
      rintro r new ⟨rfl, nr⟩
      simp (config := {implicitDefEqProofs := false, maxDischargeDepth := 20}) (disch := first | omega | (simp only [lenE]; done) | (simp only [lenE]; omega) | rfl | (simp only [lenE, markR_len]; done) | (simp only [lenE, markR_len]; omega)) only [runE, mapE, listE, initT_5, initT_6, initT_7, initT_8, resV, oneV, binA, unA, reduceCtorEq, Nat.reduceEqDiff, Nat.reduceAdd, Nat.reduceLT, Nat.reduceLeDiff, Nat.reduceMul, Nat.reduceSub, ↓reduceIte, decide_true, decide_false, Bool.true_eq_false, Bool.false_eq_true, Bool.not_true, Bool.not_false, if_true, if_false, and_true, true_and, memE, celE, w64, Nat.zero_add, Nat.add_zero, Nat.mul_one, putL, and_self, ldn, bsl_one, stP_aggL, bld2]
      obtain ⟨M1, hM1⟩ : ∃ M1, M1 = m ++ [⟨.own, 49, [.int .i64 0, .slice none 0 0]⟩] ++ [⟨.own, 49, [.int .i64 0, .slice none 0 0]⟩] ++ new := ⟨_, rfl⟩
      have L1 : M1.length = m.length + 1 + 1 + new.length := by rw [hM1]; simp; omega
      have gw1 : Gw mid m M1 := by rw [hM1]; exact ((g0.one _ _).one _ _).app nr
      have mg1 : MG k mid e es M1 := by rw [hM1]; exact ((hE.g.app _).app _).app _
      have b61 : M1[m.length]? = some ⟨.own, 49, [.int .i64 0, .slice none 0 0]⟩ := by rw [hM1]; simp
      have o1 := OwnR.at_end M1 [(first : Int)]
      have hrow0 : RowV (M1 ++ [⟨.own, 3, [(first : Int)].map (Value.int .i64)⟩] ++ [⟨.own, 49, [.int .i64 (spanF k first n), .slice (some ⟨M1.length, 0, none⟩) 1 1]⟩]) (.slice (some ⟨M1.length, 0, none⟩) 1 1) [(first : Int)] :=
        .inr ⟨M1.length, 1, rfl, o1.ext _, by simp⟩
      have hb90 : (M1 ++ [⟨.own, 3, [(first : Int)].map (Value.int .i64)⟩] ++ [⟨.own, 49, [.int .i64 (spanF k first n), .slice (some ⟨M1.length, 0, none⟩) 1 1]⟩])[M1.length + 1]? = some ⟨.own, 49, [.int .i64 (spanF k first n), .slice (some ⟨M1.length, 0, none⟩) 1 1]⟩ := by simp
      have hc0 : spanF k first n = costL k n (dpLoop k n first (dp k n) (first + 1 - 1 - first)) := by
        rw [show first + 1 - 1 - first = 0 by omega, dpLoop, costL_cons, beg_nil, costL_nil]; simp
      have hl0 : [(first : Int)] = dpLoop k n first (dp k n) (first + 1 - 1 - first) := by
        rw [show first + 1 - 1 - first = 0 by omega, dpLoop]
      rw [← hM1, ← L1]
      refine loop_inv mixed (fun s => ∃ (nx : Nat) (M : Mem) (es1 : List Value) (A : Option Addr) (ln cp : Nat), first < nx ∧ nx ≤ n ∧ s.t 0 = .int .i64 first ∧ s.t 1 = .pointer (some ⟨kb, 0, none⟩) ∧ s.t 2 = .pointer (some ⟨cb, 0, none⟩) ∧ s.t 3 = .pointer (some ⟨nb, 0, none⟩) ∧ s.t 4 = .pointer (some ⟨fb, 0, none⟩) ∧ s.t 6 = .pointer (some ⟨m.length, 0, none⟩) ∧ s.t 9 = .pointer (some ⟨M1.length + 1, 0, none⟩) ∧ s.t 10 = .int .i64 nx ∧ s.m = M ∧
          Gw mid m M ∧ MG k mid e es1 M ∧ (∀ x : Int, x ≤ first → lkE es1 x = lkE es x) ∧ M[m.length]? = some ⟨.own, 49, [.int .i64 0, .slice none 0 0]⟩ ∧
          M[M1.length + 1]? = some ⟨.own, 49, [.int .i64 (costL k n (dpLoop k n first (dp k n) (nx - 1 - first))), .slice A ln cp]⟩ ∧ RowV M (.slice A ln cp) (dpLoop k n first (dp k n) (nx - 1 - first))) (fun s => n - (intOf (s.t 10)).toNat)
        ⟨first + 1, _, es, some ⟨M1.length, 0, none⟩, 1, 1, by omega, by omega, rfl, rfl, rfl, rfl, rfl, rfl, rfl, by simp only [put_t, put_t', put_m, putT_t, putT_t', putT_m, init_t, init_m, initT_0, initT_1, initT_2, initT_3, initT_4, initT_5, initT_6, initT_7, initT_8, Nat.reduceEqDiff, ↓reduceIte]; simp, rfl, (gw1.one _ _).one _ _, (mg1.app _).app _, fun x _ => rfl, ?_, ?_, ?_⟩ ?_
      · simp only [put_t, put_t', put_m, putT_t, putT_t', putT_m, init_t, init_m, initT_0, initT_1, initT_2, initT_3, initT_4, initT_5, initT_6, initT_7, initT_8, Nat.reduceEqDiff, ↓reduceIte]
        have := (List.getElem?_eq_some_iff.1 b61).1
        rw [List.getElem?_append_left (by simp; omega), List.getElem?_append_left (by omega)]; exact b61
      · rw [← hc0]; exact hb90
      · rw [← hl0]; exact hrow0
      rintro s ⟨nx, M, es1, A, ln, cp, hnx, hnn, t0, t1, t2, t3, t4, t6, t9, t10, tm, gw, mg, hpre, b6, b9, hrow⟩
      have hE1 := hE.gw gw mg
      have rk := hE1.rk
      have c0 := hE1.c0
      have c1 := hE1.c1
      have c2 := hE1.c2
      have c3 := hE1.c3
      have rn := hE1.rn
      have rf := hE1.rf
      rw [← hn] at rn
      have h6l := (List.getElem?_eq_some_iff.1 b6).1
      have h9l := (List.getElem?_eq_some_iff.1 b9).1
      by_cases hlt2 : nx < n
      · have hlt2' : (nx : Int) < n := by omega
        simp (config := {implicitDefEqProofs := false, maxDischargeDepth := 20}) (disch := first | omega | (simp only [lenE]; done) | (simp only [lenE]; omega) | rfl | (simp only [lenE, markR_len]; done) | (simp only [lenE, markR_len]; omega)) only [runE, mapE, listE, initT_5, initT_6, initT_7, initT_8, resV, oneV, binA, unA, reduceCtorEq, Nat.reduceEqDiff, Nat.reduceAdd, Nat.reduceLT, Nat.reduceLeDiff, Nat.reduceMul, Nat.reduceSub, ↓reduceIte, decide_true, decide_false, Bool.true_eq_false, Bool.false_eq_true, Bool.not_true, Bool.not_false, if_true, if_false, and_true, true_and, memE, celE, w64, Nat.zero_add, Nat.add_zero, Nat.mul_one, putL, and_self, ldn, t0, t1, t2, t3, t4, t6, t9, t10, tm, rn, hlt2', rf]
        refine callH_ac (ih (n - nx) (by omega) nx M es1 (by omega) hE1) ?_
        rintro r M2 ⟨es2, gw2, hE2, hpre2, A2, ln2, cp2, rfl, hrow2⟩
        rw [← hn] at hrow2 ⊢
        have gwt := gw.trans gw2
        have hne6 : m.length ≠ mid := by omega
        have hne9 : M1.length + 1 ≠ mid := by omega
        have b62 := gw2.blk b6 hne6
        have b92 := gw2.blk b9 hne9
        have hrow9 := hrow.keep fun id l ho => gw2.own hE1.g.mp ho
        have c0 := hE2.c0
        have c1 := hE2.c1
        have c2 := hE2.c2
        have c3 := hE2.c3
        have l2c := rdc_lt hE2.c0
        have h9l2 := (List.getElem?_eq_some_iff.1 b92).1
        have h6l2 := (List.getElem?_eq_some_iff.1 b62).1
        have hpre3 : ∀ x : Int, x ≤ first → lkE es2 x = lkE es x := fun x hx => (hpre2 x (by omega)).trans (hpre x hx)
        have hris := dp_rising (k := k) hnn
        have hdl := hris.len
        have ap := app_cons (x := (first : Int)) (id := M2.length + 1) (hrow2.ints.ext [⟨.own, 49, [.int .i64 (costL k n (dp k n nx)), .slice A2 ln2 cp2]⟩]) (by omega) (by simp)
        rw [Nat.add_comm 1, List.map_cons] at ap
        have hcl : spanF k first nx + costL k n (dp k n nx) = costL k n ((first : Int) :: dp k n nx) := by rw [costL_cons, dp_beg hnn]; simp
        have hri1 : Rising ((first : Int) :: dp k n nx) n := hris.cons (by omega) (by rw [dp_beg hnn]; omega)
        have cb0 := costL_in hg (ps := (first : Int) :: dp k n nx) (by rw [← hn]; exact hri1)
        rw [← hn] at cb0
        have hc3 := hE2.hc
        simp (config := {implicitDefEqProofs := false, maxDischargeDepth := 20}) (disch := first | omega | (simp only [lenE]; done) | (simp only [lenE]; omega) | rfl | (simp only [lenE, markR_len]; done) | (simp only [lenE, markR_len]; omega)) only [runE, mapE, listE, initT_5, initT_6, initT_7, initT_8, resV, oneV, binA, unA, reduceCtorEq, Nat.reduceEqDiff, Nat.reduceAdd, Nat.reduceLT, Nat.reduceLeDiff, Nat.reduceMul, Nat.reduceSub, ↓reduceIte, decide_true, decide_false, Bool.true_eq_false, Bool.false_eq_true, Bool.not_true, Bool.not_false, if_true, if_false, and_true, true_and, memE, celE, w64, Nat.zero_add, Nat.add_zero, Nat.mul_one, putL, and_self, ldn, t0, t1, t2, t3, t4, t6, t9, t10, bld2, stP_aggL, bsl_one, ap, c0, c1, c2, c3]
        obtain ⟨M3, hM3⟩ : ∃ M3, M3 = M2 ++ [⟨.own, 49, [.int .i64 (costL k n (dp k n nx)), .slice A2 ln2 cp2]⟩] ++ [deadB] ++ [⟨.own, 3, .int .i64 first :: (dp k n nx).map (Value.int .i64)⟩] := ⟨_, rfl⟩
        have L3 : M3.length = M2.length + 1 + 1 + 1 := by rw [hM3]; simp
        have hc3 : CaseA M3 (.agg #[v1, v2, v3, v4]) k := by rw [hM3]; exact ((hc3.ext _).ext _).ext _
        have facts : ∀ X : Mem, NoRo X → Gw mid m (M3 ++ X) ∧ MG k mid e es2 (M3 ++ X) ∧ (M3 ++ X)[m.length]? = some ⟨.own, 49, [.int .i64 0, .slice none 0 0]⟩ ∧
            (M3 ++ X)[M1.length + 1]? = some ⟨.own, 49, [.int .i64 (costL k n (dpLoop k n first (dp k n) (nx - 1 - first))), .slice A ln cp]⟩ ∧ RowV (M3 ++ X) (.slice A ln cp) (dpLoop k n first (dp k n) (nx - 1 - first)) ∧ OwnR (M3 ++ X) (M2.length + 1 + 1) ((first : Int) :: dp k n nx) := by
          intro X hX
          have hR : M3 ++ X = M2 ++ ([⟨.own, 49, [.int .i64 (costL k n (dp k n nx)), .slice A2 ln2 cp2]⟩] ++ [deadB] ++ [⟨.own, 3, .int .i64 first :: (dp k n nx).map (Value.int .i64)⟩] ++ X) := by rw [hM3]; simp
          refine ⟨?_, ?_, ?_, ?_, ?_, ?_⟩
          · rw [hM3]; exact (((gwt.one _ _).app (noRo_dead noRo_nil)).one _ _).app hX
          · rw [hR]; exact hE2.g.app _
          · rw [hR, List.getElem?_append_left h6l2]; exact b62
          · rw [hR, List.getElem?_append_left h9l2]; exact b92
          · rw [hR]; exact hrow9.keep fun id l ho => ho.ext _
          · rw [hM3]
            exact (OwnR.end' (l := (first : Int) :: dp k n nx) (by simp)).ext X
        rw [← hM3]
        have dls : dpLoop k n first (dp k n) (nx + 1 - 1 - first) = if bef (costL k n ((first : Int) :: dp k n nx), (first : Int) :: dp k n nx) (costL k n (dpLoop k n first (dp k n) (nx - 1 - first)), dpLoop k n first (dp k n) (nx - 1 - first)) = true then (first : Int) :: dp k n nx else dpLoop k n first (dp k n) (nx - 1 - first) := by
          rw [show nx + 1 - 1 - first = (nx - 1 - first) + 1 by omega, dpLoop, show first + 1 + (nx - 1 - first) = nx by omega]
        have done : ∀ (M6 : Mem) (X : Mem), NoRo X → M6 = M3 ++ X → ∀ b, bef (costL k n ((first : Int) :: dp k n nx), (first : Int) :: dp k n nx) (costL k n (dpLoop k n first (dp k n) (nx - 1 - first)), dpLoop k n first (dp k n) (nx - 1 - first)) = b →
            (b = false → Gw mid m M6 ∧ MG k mid e es2 M6 ∧ M6[m.length]? = some ⟨.own, 49, [.int .i64 0, .slice none 0 0]⟩ ∧ M6[M1.length + 1]? = some ⟨.own, 49, [.int .i64 (costL k n (dpLoop k n first (dp k n) (nx + 1 - 1 - first))), .slice A ln cp]⟩ ∧ RowV M6 (.slice A ln cp) (dpLoop k n first (dp k n) (nx + 1 - 1 - first))) ∧
            (b = true → ∀ M7, M7 = M6.set (M1.length + 1) ⟨.own, 49, [.int .i64 (costL k n ((first : Int) :: dp k n nx)), .slice (some ⟨M2.length + 1 + 1, 0, none⟩) ((dp k n nx).length + 1) 1]⟩ → Gw mid m M7 ∧ MG k mid e es2 M7 ∧ M7[m.length]? = some ⟨.own, 49, [.int .i64 0, .slice none 0 0]⟩ ∧ M7[M1.length + 1]? = some ⟨.own, 49, [.int .i64 (costL k n (dpLoop k n first (dp k n) (nx + 1 - 1 - first))), .slice (some ⟨M2.length + 1 + 1, 0, none⟩) ((dp k n nx).length + 1) 1]⟩ ∧ RowV M7 (.slice (some ⟨M2.length + 1 + 1, 0, none⟩) ((dp k n nx).length + 1) 1) (dpLoop k n first (dp k n) (nx + 1 - 1 - first))) := by
          intro M6 X hX h6 b hb
          obtain ⟨f1, f2, f3, f4, f5, f6⟩ := facts X hX
          rw [← h6] at f1 f2 f3 f4 f5 f6
          refine ⟨fun hbf => ?_, fun hbt M7 h7 => ?_⟩
          · rw [dls, hb, hbf, if_neg (by simp)]
            exact ⟨f1, f2, f3, f4, f5⟩
          · rw [dls, hb, hbt, if_pos rfl, h7]
            refine ⟨f1.set (.inl (by omega)) (by simp), f2.box f4 (by decide), ?_, ?_, .inr ⟨_, 1, rfl, ?_, by simp; omega⟩⟩
            · rw [List.getElem?_set_ne (by omega)]; exact f3
            · rw [List.getElem?_set_self (List.getElem?_eq_some_iff.1 f4).1]
            · refine f6.set_ne fun e2 => ?_
              have : M6[M2.length + 1 + 1]? = some (rowB ((first : Int) :: dp k n nx)) := f6
              rw [← e2, f4] at this
              cases this
        refine ⟨?_, ?_⟩
        · refine rcallH_rc (orderCost_rc _ _ k first nx hc3 hg hnx (by omega)) ?_
          rintro r new3 ⟨rfl, nr3⟩
          obtain ⟨f1, f2, f3, f4, f5, f6⟩ := facts new3 nr3
          have q0 := rd_own (k := 0) f4
          have q1 := rd_own (k := 1) f4
          have hl9 := (List.getElem?_eq_some_iff.1 f4).1
          obtain ⟨M4, hM4⟩ : ∃ M4, M4 = M3 ++ new3 := ⟨_, rfl⟩
          rw [← hM4] at f1 f2 f3 f4 f5 f6 q0 q1 hl9 ⊢
          simp (config := {implicitDefEqProofs := false, maxDischargeDepth := 20}) (disch := first | omega | (simp only [lenE]; done) | (simp only [lenE]; omega) | rfl | (simp only [lenE, markR_len]; done) | (simp only [lenE, markR_len]; omega)) only [runE, mapE, listE, initT_5, initT_6, initT_7, initT_8, resV, oneV, binA, unA, reduceCtorEq, Nat.reduceEqDiff, Nat.reduceAdd, Nat.reduceLT, Nat.reduceLeDiff, Nat.reduceMul, Nat.reduceSub, ↓reduceIte, decide_true, decide_false, Bool.true_eq_false, Bool.false_eq_true, Bool.not_true, Bool.not_false, if_true, if_false, and_true, true_and, memE, celE, w64, Nat.zero_add, Nat.add_zero, Nat.mul_one, putL, and_self, ldn, t0, t1, t2, t3, t4, t6, t9, t10, hcl, bld2, stP_aggL, q0, q1]
          obtain ⟨M5, hM5⟩ : ∃ M5, M5 = M4 ++ [⟨.own, 49, [.int .i64 (costL k n ((first : Int) :: dp k n nx)), .slice (some ⟨M2.length + 1 + 1, 0, none⟩) ((dp k n nx).length + 1) 1]⟩] := ⟨_, rfl⟩
          have hsh : ∃ X, NoRo X ∧ M5 = M3 ++ X := ⟨new3 ++ [⟨.own, 49, [.int .i64 (costL k n ((first : Int) :: dp k n nx)), .slice (some ⟨M2.length + 1 + 1, 0, none⟩) ((dp k n nx).length + 1) 1]⟩], noRo_app nr3 (noRo_own noRo_nil), by rw [hM5, hM4, List.append_assoc]⟩
          have L4 : M4.length = M3.length + new3.length := by rw [hM4]; simp
          obtain ⟨b13, hb13⟩ : ∃ b13, b13 = M4.length := ⟨_, rfl⟩
          have b13e : M5[b13]? = some ⟨.own, 49, [.int .i64 (costL k n ((first : Int) :: dp k n nx)), .slice (some ⟨M2.length + 1 + 1, 0, none⟩) ((dp k n nx).length + 1) 1]⟩ := by rw [hM5, hb13]; simp
          rw [← hM5, ← hb13]
          obtain ⟨p1, p2, p3, p4, p5, p6⟩ := (by obtain ⟨X, hX, h5⟩ := hsh; rw [h5]; exact facts X hX : Gw mid m M5 ∧ MG k mid e es2 M5 ∧ M5[m.length]? = some ⟨.own, 49, [.int .i64 0, .slice none 0 0]⟩ ∧
            M5[M1.length + 1]? = some ⟨.own, 49, [.int .i64 (costL k n (dpLoop k n first (dp k n) (nx - 1 - first))), .slice A ln cp]⟩ ∧ RowV M5 (.slice A ln cp) (dpLoop k n first (dp k n) (nx - 1 - first)) ∧ OwnR M5 (M2.length + 1 + 1) ((first : Int) :: dp k n nx))
          have iz : IntsA M5 (.slice (some ⟨M2.length + 1 + 1, 0, none⟩) ((dp k n nx).length + 1) 1) ((first : Int) :: dp k n nx) := p6.ints (by simp; omega) 1
          refine callH_rc (comesBefore_rc _ _ _ _ _ ((first : Int) :: dp k n nx) (dpLoop k n first (dp k n) (nx - 1 - first)) iz p5.ints) ?_
          rintro r new6 ⟨rfl, nr6⟩
          obtain ⟨M6, hM6⟩ : ∃ M6, M6 = M5 ++ new6 := ⟨_, rfl⟩
          have b136 : M6[b13]? = some ⟨.own, 49, [.int .i64 (costL k n ((first : Int) :: dp k n nx)), .slice (some ⟨M2.length + 1 + 1, 0, none⟩) ((dp k n nx).length + 1) 1]⟩ := by rw [hM6, List.getElem?_append_left (List.getElem?_eq_some_iff.1 b13e).1]; exact b13e
          have s0 := rd_own (k := 0) b136
          have s1 := rd_own (k := 1) b136
          rw [← hM6]
          have p46 : M6[M1.length + 1]? = some ⟨.own, 49, [.int .i64 (costL k n (dpLoop k n first (dp k n) (nx - 1 - first))), .slice A ln cp]⟩ := by rw [hM6, List.getElem?_append_left (List.getElem?_eq_some_iff.1 p4).1]; exact p4
          have w6 := st2_own p46 (costL k n ((first : Int) :: dp k n nx)) (some ⟨M2.length + 1 + 1, 0, none⟩) ((dp k n nx).length + 1) 1
          obtain ⟨M7, hM7⟩ : ∃ M7, M7 = M6.set (M1.length + 1) ⟨.own, 49, [.int .i64 (costL k n ((first : Int) :: dp k n nx)), .slice (some ⟨M2.length + 1 + 1, 0, none⟩) ((dp k n nx).length + 1) 1]⟩ := ⟨_, rfl⟩
          rw [← hM7] at w6
          obtain ⟨X, hX, hX5⟩ := hsh
          have dn := done M6 (X ++ new6) (noRo_app hX nr6) (by rw [hM6, hX5, List.append_assoc])
          cases hb : bef (costL k n ((first : Int) :: dp k n nx), (first : Int) :: dp k n nx) (costL k n (dpLoop k n first (dp k n) (nx - 1 - first)), dpLoop k n first (dp k n) (nx - 1 - first)) with
          | false =>
            obtain ⟨z1, z2, z3, z4, z5⟩ := (dn false hb).1 rfl
            simp (config := {implicitDefEqProofs := false, maxDischargeDepth := 20}) (disch := first | omega | (simp only [lenE]; done) | (simp only [lenE]; omega) | rfl | (simp only [lenE, markR_len]; done) | (simp only [lenE, markR_len]; omega)) only [runE, mapE, listE, initT_5, initT_6, initT_7, initT_8, resV, oneV, binA, unA, reduceCtorEq, Nat.reduceEqDiff, Nat.reduceAdd, Nat.reduceLT, Nat.reduceLeDiff, Nat.reduceMul, Nat.reduceSub, ↓reduceIte, decide_true, decide_false, Bool.true_eq_false, Bool.false_eq_true, Bool.not_true, Bool.not_false, if_true, if_false, and_true, true_and, memE, celE, w64, Nat.zero_add, Nat.add_zero, Nat.mul_one, putL, and_self, ldn, t0, t1, t2, t3, t4, t6, t9, t10]
            exact ⟨⟨nx + 1, M6, es2, A, ln, cp, by omega, by omega, by simp, rfl, z1, z2, hpre3, z3, z4, z5⟩, by simp [intOf]; omega⟩
          | true =>
            obtain ⟨z1, z2, z3, z4, z5⟩ := (dn true hb).2 rfl M7 hM7
            simp (config := {implicitDefEqProofs := false, maxDischargeDepth := 20}) (disch := first | omega | (simp only [lenE]; done) | (simp only [lenE]; omega) | rfl | (simp only [lenE, markR_len]; done) | (simp only [lenE, markR_len]; omega)) only [runE, mapE, listE, initT_5, initT_6, initT_7, initT_8, resV, oneV, binA, unA, reduceCtorEq, Nat.reduceEqDiff, Nat.reduceAdd, Nat.reduceLT, Nat.reduceLeDiff, Nat.reduceMul, Nat.reduceSub, ↓reduceIte, decide_true, decide_false, Bool.true_eq_false, Bool.false_eq_true, Bool.not_true, Bool.not_false, if_true, if_false, and_true, true_and, memE, celE, w64, Nat.zero_add, Nat.add_zero, Nat.mul_one, putL, and_self, ldn, t0, t1, t2, t3, t4, t6, t9, t10, s0, s1, stP_aggL, w6]
            exact ⟨⟨nx + 1, M7, es2, _, _, _, by omega, by omega, by simp, rfl, z1, z2, hpre3, z3, z4, z5⟩, by simp [intOf]; omega⟩
        · obtain ⟨f1, f2, f3, f4, f5, f6⟩ := facts [] noRo_nil
          rw [List.append_nil] at f1 f2 f3 f4 f5 f6
          obtain ⟨M4, hM4⟩ : ∃ M4, M4 = M3 ++ [⟨.own, 49, [.int .i64 0, .slice none 0 0]⟩] := ⟨_, rfl⟩
          have hc4 : CaseA M4 (.agg #[v1, v2, v3, v4]) k := by rw [hM4]; exact hc3.ext _
          rw [← hM4]
          refine rcallH_rc (orderCost_rc _ _ k first nx hc4 hg hnx (by omega)) ?_
          rintro r new3 ⟨rfl, nr3⟩
          have b130 : (M4 ++ new3)[M3.length]? = some ⟨.own, 49, [.int .i64 0, .slice none 0 0]⟩ := by rw [hM4, List.append_assoc]; simp
          have w3 := st2_own b130 (costL k n ((first : Int) :: dp k n nx)) (some ⟨M2.length + 1 + 1, 0, none⟩) ((dp k n nx).length + 1) 1
          obtain ⟨M5, hM5⟩ : ∃ M5, M5 = (M4 ++ new3).set M3.length ⟨.own, 49, [.int .i64 (costL k n ((first : Int) :: dp k n nx)), .slice (some ⟨M2.length + 1 + 1, 0, none⟩) ((dp k n nx).length + 1) 1]⟩ := ⟨_, rfl⟩
          rw [← hM5] at w3
          have hsh : ∃ X, NoRo X ∧ M5 = M3 ++ X := ⟨[⟨.own, 49, [.int .i64 (costL k n ((first : Int) :: dp k n nx)), .slice (some ⟨M2.length + 1 + 1, 0, none⟩) ((dp k n nx).length + 1) 1]⟩] ++ new3, noRo_app (noRo_own noRo_nil) nr3, by rw [hM5, hM4, List.append_assoc, List.set_append_right _ _ (Nat.le_refl _), Nat.sub_self]; rfl⟩
          obtain ⟨b13, hb13⟩ : ∃ b13, b13 = M3.length := ⟨_, rfl⟩
          have b13e : M5[b13]? = some ⟨.own, 49, [.int .i64 (costL k n ((first : Int) :: dp k n nx)), .slice (some ⟨M2.length + 1 + 1, 0, none⟩) ((dp k n nx).length + 1) 1]⟩ := by rw [hM5, hb13, List.getElem?_set_self (List.getElem?_eq_some_iff.1 b130).1]
          obtain ⟨p1, p2, p3, p4, p5, p6⟩ := (by obtain ⟨X, hX, h5⟩ := hsh; rw [h5]; exact facts X hX : Gw mid m M5 ∧ MG k mid e es2 M5 ∧ M5[m.length]? = some ⟨.own, 49, [.int .i64 0, .slice none 0 0]⟩ ∧
            M5[M1.length + 1]? = some ⟨.own, 49, [.int .i64 (costL k n (dpLoop k n first (dp k n) (nx - 1 - first))), .slice A ln cp]⟩ ∧ RowV M5 (.slice A ln cp) (dpLoop k n first (dp k n) (nx - 1 - first)) ∧ OwnR M5 (M2.length + 1 + 1) ((first : Int) :: dp k n nx))
          have q0 := rd_own (k := 0) p4
          have q1 := rd_own (k := 1) p4
          have q2 := rd_own (k := 0) b13e
          have q3 := rd_own (k := 1) b13e
          obtain ⟨M45, hM45⟩ : ∃ M45, M45 = M4 ++ new3 := ⟨_, rfl⟩
          rw [← hM45] at w3 ⊢
          have hb13' : b13 = M2.length + 1 + 1 + 1 := by rw [hb13, L3]
          rw [← hb13] at w3
          rw [← hb13']
          simp (config := {implicitDefEqProofs := false, maxDischargeDepth := 20}) (disch := first | omega | (simp only [lenE]; done) | (simp only [lenE]; omega) | rfl | (simp only [lenE, markR_len]; done) | (simp only [lenE, markR_len]; omega)) only [runE, mapE, listE, initT_5, initT_6, initT_7, initT_8, resV, oneV, binA, unA, reduceCtorEq, Nat.reduceEqDiff, Nat.reduceAdd, Nat.reduceLT, Nat.reduceLeDiff, Nat.reduceMul, Nat.reduceSub, ↓reduceIte, decide_true, decide_false, Bool.true_eq_false, Bool.false_eq_true, Bool.not_true, Bool.not_false, if_true, if_false, and_true, true_and, memE, celE, w64, Nat.zero_add, Nat.add_zero, Nat.mul_one, putL, and_self, ldn, t0, t1, t2, t3, t4, t6, t9, t10, hcl, bld2, stP_aggL, w3, q0, q1, q2, q3]
          have iz : IntsA M5 (.slice (some ⟨M2.length + 1 + 1, 0, none⟩) ((dp k n nx).length + 1) 1) ((first : Int) :: dp k n nx) := p6.ints (by simp; omega) 1
          refine callH_rc (comesBefore_rc _ _ _ _ _ ((first : Int) :: dp k n nx) (dpLoop k n first (dp k n) (nx - 1 - first)) iz p5.ints) ?_
          rintro r new6 ⟨rfl, nr6⟩
          obtain ⟨M6, hM6⟩ : ∃ M6, M6 = M5 ++ new6 := ⟨_, rfl⟩
          have b136 : M6[b13]? = some ⟨.own, 49, [.int .i64 (costL k n ((first : Int) :: dp k n nx)), .slice (some ⟨M2.length + 1 + 1, 0, none⟩) ((dp k n nx).length + 1) 1]⟩ := by rw [hM6, List.getElem?_append_left (List.getElem?_eq_some_iff.1 b13e).1]; exact b13e
          have s0 := rd_own (k := 0) b136
          have s1 := rd_own (k := 1) b136
          rw [← hM6]
          have p46 : M6[M1.length + 1]? = some ⟨.own, 49, [.int .i64 (costL k n (dpLoop k n first (dp k n) (nx - 1 - first))), .slice A ln cp]⟩ := by rw [hM6, List.getElem?_append_left (List.getElem?_eq_some_iff.1 p4).1]; exact p4
          have w6 := st2_own p46 (costL k n ((first : Int) :: dp k n nx)) (some ⟨M2.length + 1 + 1, 0, none⟩) ((dp k n nx).length + 1) 1
          obtain ⟨M7, hM7⟩ : ∃ M7, M7 = M6.set (M1.length + 1) ⟨.own, 49, [.int .i64 (costL k n ((first : Int) :: dp k n nx)), .slice (some ⟨M2.length + 1 + 1, 0, none⟩) ((dp k n nx).length + 1) 1]⟩ := ⟨_, rfl⟩
          rw [← hM7] at w6
          obtain ⟨X, hX, hX5⟩ := hsh
          have dn := done M6 (X ++ new6) (noRo_app hX nr6) (by rw [hM6, hX5, List.append_assoc])
          cases hb : bef (costL k n ((first : Int) :: dp k n nx), (first : Int) :: dp k n nx) (costL k n (dpLoop k n first (dp k n) (nx - 1 - first)), dpLoop k n first (dp k n) (nx - 1 - first)) with
          | false =>
            obtain ⟨z1, z2, z3, z4, z5⟩ := (dn false hb).1 rfl
            simp (config := {implicitDefEqProofs := false, maxDischargeDepth := 20}) (disch := first | omega | (simp only [lenE]; done) | (simp only [lenE]; omega) | rfl | (simp only [lenE, markR_len]; done) | (simp only [lenE, markR_len]; omega)) only [runE, mapE, listE, initT_5, initT_6, initT_7, initT_8, resV, oneV, binA, unA, reduceCtorEq, Nat.reduceEqDiff, Nat.reduceAdd, Nat.reduceLT, Nat.reduceLeDiff, Nat.reduceMul, Nat.reduceSub, ↓reduceIte, decide_true, decide_false, Bool.true_eq_false, Bool.false_eq_true, Bool.not_true, Bool.not_false, if_true, if_false, and_true, true_and, memE, celE, w64, Nat.zero_add, Nat.add_zero, Nat.mul_one, putL, and_self, ldn, t0, t1, t2, t3, t4, t6, t9, t10]
            exact ⟨⟨nx + 1, M6, es2, A, ln, cp, by omega, by omega, by simp, rfl, z1, z2, hpre3, z3, z4, z5⟩, by simp [intOf]; omega⟩
          | true =>
            obtain ⟨z1, z2, z3, z4, z5⟩ := (dn true hb).2 rfl M7 hM7
            simp (config := {implicitDefEqProofs := false, maxDischargeDepth := 20}) (disch := first | omega | (simp only [lenE]; done) | (simp only [lenE]; omega) | rfl | (simp only [lenE, markR_len]; done) | (simp only [lenE, markR_len]; omega)) only [runE, mapE, listE, initT_5, initT_6, initT_7, initT_8, resV, oneV, binA, unA, reduceCtorEq, Nat.reduceEqDiff, Nat.reduceAdd, Nat.reduceLT, Nat.reduceLeDiff, Nat.reduceMul, Nat.reduceSub, ↓reduceIte, decide_true, decide_false, Bool.true_eq_false, Bool.false_eq_true, Bool.not_true, Bool.not_false, if_true, if_false, and_true, true_and, memE, celE, w64, Nat.zero_add, Nat.add_zero, Nat.mul_one, putL, and_self, ldn, t0, t1, t2, t3, t4, t6, t9, t10, s0, s1, stP_aggL, w6]
            exact ⟨⟨nx + 1, M7, es2, _, _, _, by omega, by omega, by simp, rfl, z1, z2, hpre3, z3, z4, z5⟩, by simp [intOf]; omega⟩
      · have hlt2' : ¬ ((nx : Int) < n) := by omega
        have e0 : nx = n := by omega
        subst e0
        have hes : lkE es1 first = none := by rw [hpre _ (Int.le_refl _)]; exact hl
        have dl := dp_loop k hlt
        rw [← dl] at hrow b9
        obtain ⟨M8, hM8⟩ : ∃ M8, M8 = M.set mid ⟨.dead, e, .bool true :: (es1 ++ [.tuple #[.int .i64 first, .agg #[.int .i64 (costL k nx (dp k nx first)), .slice A ln cp]]])⟩ := ⟨_, rfl⟩
        have mu := mupA_mp mg.mp hes (.agg #[.int .i64 (costL k nx (dp k nx first)), .slice A ln cp])
        rw [← hM8] at mu
        have hne6 : mid ≠ m.length := by omega
        have hne9 : mid ≠ M1.length + 1 := by omega
        have r90 := rd_own (k := 0) b9
        have r91 := rd_own (k := 1) b9
        have b98 : M8[M1.length + 1]? = some ⟨.own, 49, [.int .i64 (costL k nx (dp k nx first)), .slice A ln cp]⟩ := by rw [hM8, List.getElem?_set_ne hne9]; exact b9
        have b68 : M8[m.length]? = some ⟨.own, 49, [.int .i64 0, .slice none 0 0]⟩ := by rw [hM8, List.getElem?_set_ne hne6]; exact b6
        have r80 := rd_own (k := 0) b98
        have r81 := rd_own (k := 1) b98
        have w8 := st2_own b68 (costL k nx (dp k nx first)) A ln cp
        obtain ⟨M9, hM9⟩ : ∃ M9, M9 = M8.set m.length ⟨.own, 49, [.int .i64 (costL k nx (dp k nx first)), .slice A ln cp]⟩ := ⟨_, rfl⟩
        rw [← hM9] at w8
        have b99 : M9[m.length]? = some ⟨.own, 49, [.int .i64 (costL k nx (dp k nx first)), .slice A ln cp]⟩ := by rw [hM9, List.getElem?_set_self (List.getElem?_eq_some_iff.1 b68).1]
        have s90 := rd_own (k := 0) b99
        have s91 := rd_own (k := 1) b99
        simp (config := {implicitDefEqProofs := false, maxDischargeDepth := 20}) (disch := first | omega | (simp only [lenE]; done) | (simp only [lenE]; omega) | rfl | (simp only [lenE, markR_len]; done) | (simp only [lenE, markR_len]; omega)) only [runE, mapE, listE, initT_5, initT_6, initT_7, initT_8, resV, oneV, binA, unA, reduceCtorEq, Nat.reduceEqDiff, Nat.reduceAdd, Nat.reduceLT, Nat.reduceLeDiff, Nat.reduceMul, Nat.reduceSub, ↓reduceIte, decide_true, decide_false, Bool.true_eq_false, Bool.false_eq_true, Bool.not_true, Bool.not_false, if_true, if_false, and_true, true_and, memE, celE, w64, Nat.zero_add, Nat.add_zero, Nat.mul_one, putL, and_self, ldn, t0, t1, t2, t3, t4, t6, t9, t10, tm, rn, hlt2', rk, r90, r91, mu, stP_aggL, r80, r81, w8, s90, s91]
        have hml : mid < M.length := (List.getElem?_eq_some_iff.1 mg.mp).1
        have keepO : ∀ id l, OwnR M id l → OwnR M9 id l := fun id l ho => by
          rw [hM9, hM8]
          refine (ho.set_ne fun e2 => ?_).set_ne fun e2 => ?_
          · subst e2
            have : M[mid]? = some (rowB l) := ho
            rw [mg.mp] at this
            cases this
          · subst e2
            have : M[m.length]? = some (rowB l) := ho
            rw [b6] at this
            cases this
        have gw9 : Gw mid m M9 := by rw [hM9, hM8]; exact (gw.set (.inr rfl) (by simp)).set (.inl (Nat.le_refl _)) (by simp)
        have mid9 : M9[mid]? = some ⟨.dead, e, .bool true :: (es1 ++ [.tuple #[.int .i64 first, .agg #[.int .i64 (costL k nx (dp k nx first)), .slice A ln cp]]])⟩ := by
          rw [hM9, List.getElem?_set_ne (Ne.symm hne6), hM8, List.getElem?_set_self hml]
        rw [← hn]
        refine ⟨_, gw9, hE.gw gw9 ⟨mid9, fun x v hv => ?_, ?_⟩, fun x hx => ?_, A, ln, cp, rfl, hrow.keep keepO⟩
        · rw [lkE_app] at hv
          cases hx : lkE es1 x with
          | some u =>
            rw [hx] at hv
            cases hv
            obtain ⟨j, h1, h2, h3⟩ := mg.ok x _ hx
            exact ⟨j, h1, h2, h3.keep keepO⟩
          | none =>
            rw [hx] at hv
            simp only [] at hv
            split at hv
            · rename_i hfx
              cases hv
              refine ⟨first, hfx.symm, by omega, ?_⟩
              rw [← hn]
              exact ⟨A, ln, cp, rfl, hrow.keep keepO⟩
            · cases hv
        · rw [lkE_app]
          have := mg.end_
          cases hx : lkE es1 k.need.length with
          | some u => rfl
          | none => rw [hx] at this; cases this
        · rw [lkE_app, hpre x (by omega)]
          cases lkE es x with
          | some u => rfl
          | none => rw [if_neg (by omega)]
end Go.Proofs.Ytibkaclkaigflaa.Ab
end
section
namespace Go.Proofs.Ytibkaclkaigflaa.Ab
open Go Go.RowKit
set_option linter.unusedVariables false
set_option linter.unusedSimpArgs false
def fromV (n : Nat) : Value := .func (.func 50) #[] #[.pointer (some ⟨n + 1 + 1 + 1, 0, none⟩), .pointer (some ⟨n, 0, none⟩), .pointer (some ⟨n + 1, 0, none⟩), .pointer (some ⟨n + 1 + 1 + 1 + 1, 0, none⟩)]
def fromM (t : TypeId) (k : Cs) (v1 v2 v3 v4 : Value) (n : Nat) (e1 e2 : TypeId) : Mem := [⟨.own, t, [v1, v2, v3, v4]⟩, ⟨.own, 3, [.int .i64 k.need.length]⟩, ⟨.dead, e1, [.bool true, .tuple #[.int .i64 k.need.length, .agg #[.int .i64 0, .slice none 0 0]]]⟩,
  ⟨.own, e1, [.map (some (n + 1 + 1))]⟩, ⟨.own, e2, [fromV n]⟩]
theorem lenv_new {M : Mem} {t e1 e2 : TypeId} {k : Cs} {v1 v2 v3 v4 : Value} (h : CaseA M (.agg #[v1, v2, v3, v4]) k) :
    LEnv k v1 v2 v3 v4 (M.length + 1 + 1 + 1) M.length (M.length + 1) (M.length + 1 + 1 + 1 + 1) (M.length + 1 + 1) e1 [.tuple #[.int .i64 k.need.length, .agg #[.int .i64 0, .slice none 0 0]]] (M ++ fromM t k v1 v2 v3 v4 M.length e1 e2) := by
  have at_ : ∀ i, (M ++ fromM t k v1 v2 v3 v4 M.length e1 e2)[M.length + i]? = (fromM t k v1 v2 v3 v4 M.length e1 e2)[i]? := fun i => by
    rw [List.getElem?_append_right (by omega), Nat.add_sub_cancel_left]
  have a0 := at_ 0
  rw [Nat.add_zero] at a0
  have a1 := at_ 1
  have a2 := at_ 2
  have a3 := at_ 3
  have a4 := at_ 4
  refine ⟨?_, ?_, ?_, ?_, ?_, h.ext _, ?_, ?_, ⟨?_, fun x v hv => ?_, ?_⟩⟩
  · unfold rdc; rw [show M.length + 1 + 1 + 1 = M.length + 3 from rfl, a3]; rfl
  · unfold rdc; rw [a0]; rfl
  · unfold rdc; rw [a0]; rfl
  · unfold rdc; rw [a0]; rfl
  · unfold rdc; rw [a0]; rfl
  · unfold rdc; rw [a1]; rfl
  · unfold rdc; rw [show M.length + 1 + 1 + 1 + 1 = M.length + 4 from rfl, a4]; rfl
  · rw [show M.length + 1 + 1 = M.length + 2 from rfl, a2]; rfl
  · simp only [lkE] at hv
    split at hv
    · rename_i hx
      cases hv
      refine ⟨k.need.length, hx.symm, Nat.le_refl _, none, 0, 0, ?_, ?_⟩
      · rw [dp_end k (Nat.le_refl _)]; rfl
      · rw [dp_end k (Nat.le_refl _)]; exact .inl ⟨rfl, rfl⟩
    · cases hv
  · simp [lkE]
theorem lotsFrom_rc (m : Mem) (v : Value) (k : Cs) (h : CaseA m v k) (hg : Good k) :
    RC Try.prog 41 [v] m fun r new => r = fromV m.length ∧ ∃ v1 v2 v3 v4 e1 e2, CaseA m (.agg #[v1, v2, v3, v4]) k ∧ new = fromM 26 k v1 v2 v3 v4 m.length e1 e2 := by
  refine rc_of_run mixed ok_impl_lotsFrom (by simp) (go_start _ _ _ ?_)
  obtain ⟨v1, v2, v3, v4, rfl, -, -, -, -⟩ := h.ok
  obtain ⟨w1, w2, w3, w4, he, h1, h2, h3, h4⟩ := h.ro.ok
  cases he
  have mu : ∀ {M : Mem} {e : TypeId} {x : Int} {v : Value} {id : Nat}, id = M.length → mupA (M ++ [⟨.dead, e, [.bool true]⟩]) (.map (some id)) (.int .i64 x) v = some (M ++ [⟨.dead, e, [.bool true, .tuple #[.int .i64 x, v]]⟩]) := fun {M e x v id} hid => by
    subst hid
    have := mupA_mp (M := M ++ [⟨.dead, e, [.bool true]⟩]) (mid := M.length) (e := e) (es := []) (by simp) (x := x) rfl v
    rw [this]; simp
  simp (config := {implicitDefEqProofs := false, maxDischargeDepth := 20}) (disch := first | omega | (simp only [lenE]; done) | (simp only [lenE]; omega) | rfl | (simp only [lenE, markR_len]; done) | (simp only [lenE, markR_len]; omega)) only [runE, mapE, listE, initT_5, initT_6, initT_7, initT_8, resV, oneV, binA, unA, reduceCtorEq, Nat.reduceEqDiff, Nat.reduceAdd, Nat.reduceLT, Nat.reduceLeDiff, Nat.reduceMul, Nat.reduceSub, ↓reduceIte, decide_true, decide_false, Bool.true_eq_false, Bool.false_eq_true, Bool.not_true, Bool.not_false, if_true, if_false, and_true, true_and, memE, celE, w64, Nat.zero_add, Nat.add_zero, Nat.mul_one, putL, and_self, ldn, c_impl_lotsFrom, r_impl_lotsFrom, h1.len, bld_nil, mu]
  refine ⟨fromM 26 k v1 v2 v3 v4 m.length 69 62, ?_, ?_, rfl, v1, v2, v3, v4, _, _, h, rfl⟩
  · simp only [List.append_assoc]; rfl
  · intro b hb
    simp only [fromM, List.mem_cons, List.not_mem_nil, or_false] at hb
    rcases hb with rfl | rfl | rfl | rfl | rfl <;> simp

theorem ext_gw {m M0 M : Mem} {mid : Nat} (h : Ext m M0) (hg : Gw mid M0 M) (hmid : m.length ≤ mid) : Ext m M := by
  obtain ⟨new, rfl, hn⟩ := h
  have hl := hg.len
  rw [List.length_append, roM_len] at hl
  refine ⟨M.drop m.length, ?_, fun b hb => ?_⟩
  · have : M.take m.length = roM m := by
      apply List.ext_getElem?
      intro i
      rw [List.getElem?_take]
      by_cases hi : i < m.length
      · rw [if_pos hi, hg.old i (by rw [List.length_append, roM_len]; omega) (by omega), List.getElem?_append_left (by rw [roM_len]; exact hi)]
      · rw [if_neg hi, List.getElem?_eq_none (by rw [roM_len]; omega)]
    rw [← this, List.take_append_drop]
  · obtain ⟨i, hi⟩ := List.mem_iff_getElem?.1 hb
    rw [List.getElem?_drop] at hi
    by_cases e : m.length + i = mid
    · rw [e] at hi; exact hg.at_ b hi
    · by_cases h2 : m.length + i < (roM m ++ new).length
      · rw [hg.old _ h2 e, List.getElem?_append_right (by rw [roM_len]; omega)] at hi
        exact hn b (List.mem_of_getElem? hi)
      · exact hg.new _ b (by omega) hi
def AnsP (m : Mem) (c : Int) (l : List Int) (r : Value) (new : Mem) : Prop := NoRo new ∧ ∃ A ln cp, r = .agg #[.int .i64 c, .slice A ln cp] ∧ ((A = none ∧ ln = 0 ∧ cp = 0 ∧ l = []) ∨
  ∃ id fl, A = some ⟨id, 0, none⟩ ∧ ln = l.length ∧ cp = fl ∧ m.length ≤ id ∧ OwnR (m ++ new) id l ∧ l.length ≤ 1048576)
theorem own_new {m new : Mem} {id : Nat} {l : List Int} (h : OwnR (roM m ++ new) id l) : m.length ≤ id ∧ OwnR (m ++ new) id l := by
  have hb : (roM m ++ new)[id]? = some (rowB l) := h
  by_cases hi : id < m.length
  · rw [List.getElem?_append_left (by rw [roM_len]; exact hi), roM, List.getElem?_map] at hb
    cases hm : m[id]? with
    | none => rw [hm] at hb; cases hb
    | some b =>
      rw [hm] at hb
      obtain ⟨kd, e, xs⟩ := b
      cases kd <;> simp [roB, rowB, deadB] at hb
  · refine ⟨by omega, ?_⟩
    show (m ++ new)[id]? = some (rowB l)
    rw [List.getElem?_append_right (by rw [roM_len]; omega), roM_len] at hb
    rw [List.getElem?_append_right (by omega)]
    exact hb
theorem ansP_of {m M : Mem} {c : Int} {l : List Int} {A : Option Addr} {ln cp : Nat} (h : Ext m M) (hr : RowV M (.slice A ln cp) l) : newQ m (AnsP m c l) (.agg #[.int .i64 c, .slice A ln cp]) M := by
  obtain ⟨new, rfl, hn⟩ := h
  refine ⟨new, rfl, hn, hn, A, ln, cp, rfl, ?_⟩
  rcases hr with ⟨h1, h2⟩ | ⟨id, fl, h1, h2, h3⟩
  · cases h1; exact .inl ⟨rfl, rfl, rfl, h2⟩
  · cases h1
    obtain ⟨h4, h5⟩ := own_new h2
    exact .inr ⟨id, _, rfl, rfl, rfl, h4, h5, h3⟩
theorem RowV.box {M : Mem} {v : Value} {l : List Int} (h : RowV M v l) {id : Nat} {t : TypeId} {cs : List Value} {b : Blk} (hb : M[id]? = some ⟨.own, t, cs⟩) (ht : t ≠ 3) : RowV (M.set id b) v l :=
  h.keep fun i l ho => ho.set_ne fun e2 => by
    subst e2
    have : M[id]? = some (rowB l) := ho
    rw [hb] at this
    cases this
    exact ht rfl
theorem bestLots_rc (m : Mem) (v : Value) (k : Cs) (h : CaseA m v k) (hg : Good k) : RC Try.prog 29 [v] m (AnsP m (bestCost k) (bestL k)) := by
  refine rc_of_run mixed ok_impl_bestLots (by simp) (go_start _ _ _ ?_)
  obtain ⟨v1, v2, v3, v4, rfl, h1, h2, h3, h4⟩ := h.ro.ok
  have hc : CaseA (roM m) (.agg #[v1, v2, v3, v4]) k := ⟨_, _, _, _, rfl, h1, h2, h3, h4⟩
  have h8 := hg.n8
  simp (config := {implicitDefEqProofs := false, maxDischargeDepth := 20}) (disch := first | omega | (simp only [lenE]; done) | (simp only [lenE]; omega) | rfl | (simp only [lenE, markR_len]; done) | (simp only [lenE, markR_len]; omega)) only [runE, mapE, listE, initT_5, initT_6, initT_7, initT_8, resV, oneV, binA, unA, reduceCtorEq, Nat.reduceEqDiff, Nat.reduceAdd, Nat.reduceLT, Nat.reduceLeDiff, Nat.reduceMul, Nat.reduceSub, ↓reduceIte, decide_true, decide_false, Bool.true_eq_false, Bool.false_eq_true, Bool.not_true, Bool.not_false, if_true, if_false, and_true, true_and, memE, celE, w64, Nat.zero_add, Nat.add_zero, Nat.mul_one, putL, and_self, ldn, c_impl_bestLots, r_impl_bestLots]
  obtain ⟨M0, hM0⟩ : ∃ M0, M0 = roM m ++ [⟨.own, 26, [v1, v2, v3, v4]⟩] ++ [⟨.own, 49, [.int .i64 0, .slice none 0 0]⟩] := ⟨_, rfl⟩
  have L0 : M0.length = m.length + 1 + 1 := by rw [hM0]; simp [roM_len]
  have hx0 : Grow (roM m ++ [⟨.own, 26, [v1, v2, v3, v4]⟩]) M0 := by rw [hM0]; exact (Grow.refl _).one _ _
  have x0 : Ext m M0 := hx0.ext
  have b2 : M0[m.length + 1]? = some ⟨.own, 49, [.int .i64 0, .slice none 0 0]⟩ := by rw [hM0, List.getElem?_append_right (by simp [roM_len])]; simp [roM_len]
  obtain ⟨q0, -, -, -, hlM⟩ := hx0.box4
  rw [← hM0]
  refine callH_rc (lotsFrom_rc _ _ k (hx0.caseV hc) hg) ?_
  rintro r new ⟨rfl, w1, w2, w3, w4, e1, e2, hcw, rfl⟩
  have hE := lenv_new (t := 26) (e1 := e1) (e2 := e2) hcw
  obtain ⟨N, hN⟩ : ∃ N, N = M0.length := ⟨_, rfl⟩
  have nrF : NoRo (fromM 26 k w1 w2 w3 w4 M0.length e1 e2) := by
    intro b hb
    simp only [fromM, List.mem_cons, List.not_mem_nil, or_false] at hb
    rcases hb with rfl | rfl | rfl | rfl | rfl <;> simp
  obtain ⟨M1, hM1⟩ : ∃ M1, M1 = M0 ++ fromM 26 k w1 w2 w3 w4 M0.length e1 e2 := ⟨_, rfl⟩
  have x1 : Ext m M1 := by rw [hM1]; exact x0.app nrF
  have b21 : M1[m.length + 1]? = some ⟨.own, 49, [.int .i64 0, .slice none 0 0]⟩ := by rw [hM1, List.getElem?_append_left (by omega)]; exact b2
  have q01 : rdc M1 m.length 0 = some v1 := by rw [hM1]; exact rdc_ext q0
  have i11 : IntsA M1 v1 k.need := by rw [hM1]; exact (hx0.intsV h1).ext _
  rw [← hM1] at hE ⊢
  rw [← hN] at hE ⊢
  have hfr : fromV N = .func (.func 50) #[] #[.pointer (some ⟨N + 1 + 1 + 1, 0, none⟩), .pointer (some ⟨N, 0, none⟩), .pointer (some ⟨N + 1, 0, none⟩), .pointer (some ⟨N + 1 + 1 + 1 + 1, 0, none⟩)] := rfl
  have d1 := hE.g.mp
  have g1 : Gw (N + 1 + 1) M1 M1 := Gw.refl fun b hb => by rw [d1] at hb; cases hb; simp
  simp (config := {implicitDefEqProofs := false, maxDischargeDepth := 20}) (disch := first | omega | (simp only [lenE]; done) | (simp only [lenE]; omega) | rfl | (simp only [lenE, markR_len]; done) | (simp only [lenE, markR_len]; omega)) only [runE, mapE, listE, initT_5, initT_6, initT_7, initT_8, resV, oneV, binA, unA, reduceCtorEq, Nat.reduceEqDiff, Nat.reduceAdd, Nat.reduceLT, Nat.reduceLeDiff, Nat.reduceMul, Nat.reduceSub, ↓reduceIte, decide_true, decide_false, Bool.true_eq_false, Bool.false_eq_true, Bool.not_true, Bool.not_false, if_true, if_false, and_true, true_and, memE, celE, w64, Nat.zero_add, Nat.add_zero, Nat.mul_one, putL, and_self, ldn, hfr]
  refine callH_ac (from_ac k hg w1 w2 w3 w4 (N + 1 + 1 + 1) N (N + 1) (N + 1 + 1 + 1 + 1) (N + 1 + 1) e1 k.need.length 0 M1 _ (by omega) hE) ?_
  rintro r M2 ⟨es2, gw2, hE2, hpre2, A2, ln2, cp2, rfl, hrow2⟩
  obtain ⟨n, hn⟩ : ∃ n, n = k.need.length := ⟨_, rfl⟩
  rw [← hn] at hrow2 h8 ⊢
  simp (config := {implicitDefEqProofs := false, maxDischargeDepth := 20}) (disch := first | omega | (simp only [lenE]; done) | (simp only [lenE]; omega) | rfl | (simp only [lenE, markR_len]; done) | (simp only [lenE, markR_len]; omega)) only [runE, mapE, listE, initT_5, initT_6, initT_7, initT_8, resV, oneV, binA, unA, reduceCtorEq, Nat.reduceEqDiff, Nat.reduceAdd, Nat.reduceLT, Nat.reduceLeDiff, Nat.reduceMul, Nat.reduceSub, ↓reduceIte, decide_true, decide_false, Bool.true_eq_false, Bool.false_eq_true, Bool.not_true, Bool.not_false, if_true, if_false, and_true, true_and, memE, celE, w64, Nat.zero_add, Nat.add_zero, Nat.mul_one, putL, and_self, ldn, stP_aggL]
  have l12 := gw2.len
  have L1 : M1.length = N + 1 + 1 + 1 + 1 + 1 := by rw [hM1, List.length_append, ← hN]; rfl
  rw [L0] at hN
  have g22 := gw2.one 49 [.int .i64 (costL k n (dp k n 0)), .slice A2 ln2 cp2]
  have mg22 := hE2.g.app [⟨.own, 49, [.int .i64 (costL k n (dp k n 0)), .slice A2 ln2 cp2]⟩]
  have hrow22 : RowV (M2 ++ [⟨.own, 49, [.int .i64 (costL k n (dp k n 0)), .slice A2 ln2 cp2]⟩]) (.slice A2 ln2 cp2) (dp k n 0) := hrow2.keep fun id l ho => ho.ext _
  refine loop_inv mixed (fun s => ∃ (t : Nat) (M : Mem) (es : List Value) (A : Option Addr) (ln cp : Nat), t ≤ n ∧ (∀ j, j < t → k.need.getD j 0 = 0) ∧ s.t 1 = .pointer (some ⟨m.length, 0, none⟩) ∧ s.t 2 = .pointer (some ⟨m.length + 1, 0, none⟩) ∧
      s.t 3 = .func (.func 50) #[] #[.pointer (some ⟨N + 1 + 1 + 1, 0, none⟩), .pointer (some ⟨N, 0, none⟩), .pointer (some ⟨N + 1, 0, none⟩), .pointer (some ⟨N + 1 + 1 + 1 + 1, 0, none⟩)] ∧ s.t 4 = .pointer (some ⟨M2.length, 0, none⟩) ∧ s.t 5 = .int .i64 t ∧ s.m = M ∧
      Gw (N + 1 + 1) M1 M ∧ MG k (N + 1 + 1) e1 es M ∧ M[M2.length]? = some ⟨.own, 49, [.int .i64 (costL k n (blF k n t)), .slice A ln cp]⟩ ∧ RowV M (.slice A ln cp) (blF k n t)) (fun s => n - (intOf (s.t 5)).toNat)
    ⟨0, _, es2, A2, ln2, cp2, by omega, fun j hj => absurd hj (by omega), rfl, rfl, rfl, rfl, rfl, rfl, g22, mg22, by simp only [put_t, put_t', put_m, putT_t, putT_t', putT_m, init_t, init_m, initT_0, initT_1, initT_2, initT_3, initT_4, initT_5, initT_6, initT_7, initT_8, Nat.reduceEqDiff, ↓reduceIte]; rw [blF]; simp, by simp only [put_t, put_t', put_m, putT_t, putT_t', putT_m, init_t, init_m, initT_0, initT_1, initT_2, initT_3, initT_4, initT_5, initT_6, initT_7, initT_8, Nat.reduceEqDiff, ↓reduceIte]; rw [blF]; exact hrow22⟩ ?_
  rintro s ⟨t, M, es, A, ln, cp, htn, hz, t1, t2, t3, t4, t5, tm, gw, mg, b4, hrow⟩
  have hE1 := hE.gw gw mg
  have q0 := gw.rd d1 q01
  have i1 := gw.ints d1 i11
  have il := i1.len
  rw [← hn] at il
  have b2M := gw.blk b21 (by omega)
  have r40 := rd_own (k := 0) b4
  have r41 := rd_own (k := 1) b4
  have fin : ∀ (T : Nat), T = t → (T = n ∨ (T < n ∧ k.need.getD T 0 ≠ 0)) → ∀ M9, M9 = M.set (m.length + 1) ⟨.own, 49, [.int .i64 (costL k n (blF k n t)), .slice A ln cp]⟩ → newQ m (AnsP m (bestCost k) (bestL k)) (.agg #[.int .i64 (costL k n (blF k n t)), .slice A ln cp]) M9 := by
    intro T hT hTn M9 h9
    subst hT
    have hb := bestL_dp hg (T := T) (by omega) hz (by rw [← hn]; exact hTn)
    rw [hb.1, hb.2, ← hn]
    refine ansP_of ?_ ?_
    · rw [h9]; exact (ext_gw x1 gw (by omega)).put (by omega) _ _
    · rw [h9]; exact hrow.box b2M (by decide)
  have wr := st2_own b2M (costL k n (blF k n t)) A ln cp
  obtain ⟨M9, hM9⟩ : ∃ M9, M9 = M.set (m.length + 1) ⟨.own, 49, [.int .i64 (costL k n (blF k n t)), .slice A ln cp]⟩ := ⟨_, rfl⟩
  rw [← hM9] at wr
  have b99 : M9[m.length + 1]? = some ⟨.own, 49, [.int .i64 (costL k n (blF k n t)), .slice A ln cp]⟩ := by rw [hM9, List.getElem?_set_self (List.getElem?_eq_some_iff.1 b2M).1]
  have s90 := rd_own (k := 0) b99
  have s91 := rd_own (k := 1) b99
  by_cases hlt : t < n
  · have hlt' : (t : Int) < n := by omega
    have ai := i1.at_ t (by omega)
    have li := i1.ld t (by omega)
    by_cases hzt : k.need.getD t 0 = 0
    · have hzt' : (k.need.getD t 0 == 0) = true := by rw [hzt]; rfl
      obtain ⟨t', ht'⟩ : ∃ t', t' = t + 1 := ⟨_, rfl⟩
      have et : (t : Int) + 1 = (t' : Int) := by omega
      simp (config := {implicitDefEqProofs := false, maxDischargeDepth := 20}) (disch := first | omega | (simp only [lenE]; done) | (simp only [lenE]; omega) | rfl | (simp only [lenE, markR_len]; done) | (simp only [lenE, markR_len]; omega)) only [runE, mapE, listE, initT_5, initT_6, initT_7, initT_8, resV, oneV, binA, unA, reduceCtorEq, Nat.reduceEqDiff, Nat.reduceAdd, Nat.reduceLT, Nat.reduceLeDiff, Nat.reduceMul, Nat.reduceSub, ↓reduceIte, decide_true, decide_false, Bool.true_eq_false, Bool.false_eq_true, Bool.not_true, Bool.not_false, if_true, if_false, and_true, true_and, memE, celE, w64, Nat.zero_add, Nat.add_zero, Nat.mul_one, putL, and_self, ldn, t1, t2, t3, t4, t5, tm, q0, il, hlt', ai, li, hzt', et]
      refine callH_ac (from_ac k hg w1 w2 w3 w4 (N + 1 + 1 + 1) N (N + 1) (N + 1 + 1 + 1 + 1) (N + 1 + 1) e1 (n - t') t' M es (by omega) hE1) ?_
      rintro r M3 ⟨es3, gw3, hE3, hpre3, A3, ln3, cp3, rfl, hrow3⟩
      rw [← hn] at hrow3 ⊢
      have hgw := gw.trans gw3
      have b43 := gw3.blk b4 (by omega)
      have hl43 := (List.getElem?_eq_some_iff.1 b43).1
      have r430 := rd_own (k := 0) b43
      have r431 := rd_own (k := 1) b43
      have hrow43 := hrow.keep fun id l ho => gw3.own hE1.g.mp ho
      simp (config := {implicitDefEqProofs := false, maxDischargeDepth := 20}) (disch := first | omega | (simp only [lenE]; done) | (simp only [lenE]; omega) | rfl | (simp only [lenE, markR_len]; done) | (simp only [lenE, markR_len]; omega)) only [runE, mapE, listE, initT_5, initT_6, initT_7, initT_8, resV, oneV, binA, unA, reduceCtorEq, Nat.reduceEqDiff, Nat.reduceAdd, Nat.reduceLT, Nat.reduceLeDiff, Nat.reduceMul, Nat.reduceSub, ↓reduceIte, decide_true, decide_false, Bool.true_eq_false, Bool.false_eq_true, Bool.not_true, Bool.not_false, if_true, if_false, and_true, true_and, memE, celE, w64, Nat.zero_add, Nat.add_zero, Nat.mul_one, putL, and_self, ldn, t1, t2, t3, t4, t5, stP_aggL, r430, r431]
      refine callH_rc (comesBefore_rc _ _ _ _ _ (dp k n t') (blF k n t) (hrow3.ints.ext _) (hrow43.ints.ext _)) ?_
      rintro r new6 ⟨rfl, nr6⟩
      obtain ⟨M6, hM6⟩ : ∃ M6, M6 = M3 ++ [⟨.own, 49, [.int .i64 (costL k n (dp k n t')), .slice A3 ln3 cp3]⟩] ++ new6 := ⟨_, rfl⟩
      have g6 : Gw (N + 1 + 1) M1 M6 := by rw [hM6]; exact (hgw.one _ _).app nr6
      have mg6 : MG k (N + 1 + 1) e1 es3 M6 := by rw [hM6]; exact (hE3.g.app _).app _
      have b46 : M6[M2.length]? = some ⟨.own, 49, [.int .i64 (costL k n (blF k n t)), .slice A ln cp]⟩ := by
        rw [hM6, List.append_assoc, List.getElem?_append_left hl43]; exact b43
      have b66 : M6[M3.length]? = some ⟨.own, 49, [.int .i64 (costL k n (dp k n t')), .slice A3 ln3 cp3]⟩ := by rw [hM6, List.append_assoc]; simp
      have hrow6 : RowV M6 (.slice A ln cp) (blF k n t) := by rw [hM6]; exact hrow43.keep fun id l ho => (ho.ext _).ext _
      have hrow36 : RowV M6 (.slice A3 ln3 cp3) (dp k n t') := by rw [hM6]; exact hrow3.keep fun id l ho => (ho.ext _).ext _
      have r60 := rd_own (k := 0) b66
      have r61 := rd_own (k := 1) b66
      have w6 := st2_own b46 (costL k n (dp k n t')) A3 ln3 cp3
      have hbl : blF k n t' = if bef (costL k n (dp k n t'), dp k n t') (costL k n (blF k n t), blF k n t) = true then dp k n t' else blF k n t := by rw [ht', blF]
      have hz' : ∀ j, j < t' → k.need.getD j 0 = 0 := fun j hj => by
        by_cases e : j = t
        · rw [e]; exact hzt
        · exact hz j (by omega)
      rw [← hM6]
      cases hb : bef (costL k n (dp k n t'), dp k n t') (costL k n (blF k n t), blF k n t) with
      | false =>
        rw [hb, if_neg (by simp)] at hbl
        simp (config := {implicitDefEqProofs := false, maxDischargeDepth := 20}) (disch := first | omega | (simp only [lenE]; done) | (simp only [lenE]; omega) | rfl | (simp only [lenE, markR_len]; done) | (simp only [lenE, markR_len]; omega)) only [runE, mapE, listE, initT_5, initT_6, initT_7, initT_8, resV, oneV, binA, unA, reduceCtorEq, Nat.reduceEqDiff, Nat.reduceAdd, Nat.reduceLT, Nat.reduceLeDiff, Nat.reduceMul, Nat.reduceSub, ↓reduceIte, decide_true, decide_false, Bool.true_eq_false, Bool.false_eq_true, Bool.not_true, Bool.not_false, if_true, if_false, and_true, true_and, memE, celE, w64, Nat.zero_add, Nat.add_zero, Nat.mul_one, putL, and_self, ldn, t1, t2, t3, t4, t5, et]
        exact ⟨⟨t', M6, es3, A, ln, cp, by omega, hz', by simp, rfl, g6, mg6, by rw [hbl]; exact b46, by rw [hbl]; exact hrow6⟩, by simp [intOf]; omega⟩
      | true =>
        rw [hb, if_pos rfl] at hbl
        simp (config := {implicitDefEqProofs := false, maxDischargeDepth := 20}) (disch := first | omega | (simp only [lenE]; done) | (simp only [lenE]; omega) | rfl | (simp only [lenE, markR_len]; done) | (simp only [lenE, markR_len]; omega)) only [runE, mapE, listE, initT_5, initT_6, initT_7, initT_8, resV, oneV, binA, unA, reduceCtorEq, Nat.reduceEqDiff, Nat.reduceAdd, Nat.reduceLT, Nat.reduceLeDiff, Nat.reduceMul, Nat.reduceSub, ↓reduceIte, decide_true, decide_false, Bool.true_eq_false, Bool.false_eq_true, Bool.not_true, Bool.not_false, if_true, if_false, and_true, true_and, memE, celE, w64, Nat.zero_add, Nat.add_zero, Nat.mul_one, putL, and_self, ldn, t1, t2, t3, t4, t5, et, r60, r61, stP_aggL, w6]
        refine ⟨⟨t', _, es3, A3, ln3, cp3, by omega, hz', by simp, rfl, g6.set (.inl (by omega)) (by simp), mg6.box b46 (by decide), ?_, by rw [hbl]; exact hrow36.box b46 (by decide)⟩, by simp [intOf]; omega⟩
        rw [hbl, List.getElem?_set_self (List.getElem?_eq_some_iff.1 b46).1]
    · have hzt' : (k.need.getD t 0 == 0) = false := by simpa using hzt
      simp (config := {implicitDefEqProofs := false, maxDischargeDepth := 20}) (disch := first | omega | (simp only [lenE]; done) | (simp only [lenE]; omega) | rfl | (simp only [lenE, markR_len]; done) | (simp only [lenE, markR_len]; omega)) only [runE, mapE, listE, initT_5, initT_6, initT_7, initT_8, resV, oneV, binA, unA, reduceCtorEq, Nat.reduceEqDiff, Nat.reduceAdd, Nat.reduceLT, Nat.reduceLeDiff, Nat.reduceMul, Nat.reduceSub, ↓reduceIte, decide_true, decide_false, Bool.true_eq_false, Bool.false_eq_true, Bool.not_true, Bool.not_false, if_true, if_false, and_true, true_and, memE, celE, w64, Nat.zero_add, Nat.add_zero, Nat.mul_one, putL, and_self, ldn, t1, t2, t3, t4, t5, tm, q0, il, hlt', ai, li, hzt', r40, r41, stP_aggL, wr, s90, s91]
      exact fin t rfl (.inr ⟨hlt, hzt⟩) M9 hM9
  · have hlt' : ¬ ((t : Int) < n) := by omega
    simp (config := {implicitDefEqProofs := false, maxDischargeDepth := 20}) (disch := first | omega | (simp only [lenE]; done) | (simp only [lenE]; omega) | rfl | (simp only [lenE, markR_len]; done) | (simp only [lenE, markR_len]; omega)) only [runE, mapE, listE, initT_5, initT_6, initT_7, initT_8, resV, oneV, binA, unA, reduceCtorEq, Nat.reduceEqDiff, Nat.reduceAdd, Nat.reduceLT, Nat.reduceLeDiff, Nat.reduceMul, Nat.reduceSub, ↓reduceIte, decide_true, decide_false, Bool.true_eq_false, Bool.false_eq_true, Bool.not_true, Bool.not_false, if_true, if_false, and_true, true_and, memE, celE, w64, Nat.zero_add, Nat.add_zero, Nat.mul_one, putL, and_self, ldn, t1, t2, t3, t4, t5, tm, q0, il, hlt', r40, r41, stP_aggL, wr, s90, s91, goG_undef]
    exact fin t rfl (.inl (by omega)) M9 hM9

theorem implBestCost_rc (m : Mem) (v : Value) (k : Cs) (h : CaseA m v k) : RC Try.prog 15 [v] m (AnsV (.tuple #[.int .i64 (bestCA k), .bool k.good])) := by
  refine rc_of_run mixed ok_impl_BestCost (by simp) (go_start _ _ _ ?_)
  obtain ⟨v1, v2, v3, v4, rfl, h1, h2, h3, h4⟩ := h.ro.ok
  have hc : CaseA (roM m) (.agg #[v1, v2, v3, v4]) k := ⟨_, _, _, _, rfl, h1, h2, h3, h4⟩
  simp (config := {implicitDefEqProofs := false, maxDischargeDepth := 20}) (disch := first | omega | (simp only [lenE]; done) | (simp only [lenE]; omega) | rfl | (simp only [lenE, markR_len]; done) | (simp only [lenE, markR_len]; omega)) only [runE, mapE, listE, initT_5, initT_6, initT_7, initT_8, resV, oneV, binA, unA, reduceCtorEq, Nat.reduceEqDiff, Nat.reduceAdd, Nat.reduceLT, Nat.reduceLeDiff, Nat.reduceMul, Nat.reduceSub, ↓reduceIte, decide_true, decide_false, Bool.true_eq_false, Bool.false_eq_true, Bool.not_true, Bool.not_false, if_true, if_false, and_true, true_and, memE, celE, w64, Nat.zero_add, Nat.add_zero, Nat.mul_one, putL, and_self, ldn, c_impl_BestCost, r_impl_BestCost]
  refine callH_rc (implIsCase_rc _ _ k (hc.ext _)) ?_
  rintro r new ⟨rfl, nr1⟩
  have hx : Grow (roM m ++ [⟨.own, 26, [v1, v2, v3, v4]⟩]) (roM m ++ [⟨.own, 26, [v1, v2, v3, v4]⟩] ++ new) := (Grow.refl _).app nr1
  cases hg : k.good with
  | false =>
    simp (config := {implicitDefEqProofs := false, maxDischargeDepth := 20}) (disch := first | omega | (simp only [lenE]; done) | (simp only [lenE]; omega) | rfl | (simp only [lenE, markR_len]; done) | (simp only [lenE, markR_len]; omega)) only [runE, mapE, listE, initT_5, initT_6, initT_7, initT_8, resV, oneV, binA, unA, reduceCtorEq, Nat.reduceEqDiff, Nat.reduceAdd, Nat.reduceLT, Nat.reduceLeDiff, Nat.reduceMul, Nat.reduceSub, ↓reduceIte, decide_true, decide_false, Bool.true_eq_false, Bool.false_eq_true, Bool.not_true, Bool.not_false, if_true, if_false, and_true, true_and, memE, celE, w64, Nat.zero_add, Nat.add_zero, Nat.mul_one, putL, and_self, ldn]
    rw [bestCA_no hg]
    exact ext_ansV hx.ext rfl
  | true =>
    have gd := good_iff.1 hg
    rw [bestCA_yes hg]
    simp (config := {implicitDefEqProofs := false, maxDischargeDepth := 20}) (disch := first | omega | (simp only [lenE]; done) | (simp only [lenE]; omega) | rfl | (simp only [lenE, markR_len]; done) | (simp only [lenE, markR_len]; omega)) only [runE, mapE, listE, initT_5, initT_6, initT_7, initT_8, resV, oneV, binA, unA, reduceCtorEq, Nat.reduceEqDiff, Nat.reduceAdd, Nat.reduceLT, Nat.reduceLeDiff, Nat.reduceMul, Nat.reduceSub, ↓reduceIte, decide_true, decide_false, Bool.true_eq_false, Bool.false_eq_true, Bool.not_true, Bool.not_false, if_true, if_false, and_true, true_and, memE, celE, w64, Nat.zero_add, Nat.add_zero, Nat.mul_one, putL, and_self, ldn]
    refine callH_rc (bestLots_rc _ _ k (hx.caseV hc) gd) ?_
    rintro r new2 ⟨nr2, A, ln, cp, rfl, -⟩
    have f0 : fldA 0 none (.agg #[.int .i64 (bestCost k), .slice A ln cp]) = some (.int .i64 (bestCost k)) := rfl
    simp (config := {implicitDefEqProofs := false, maxDischargeDepth := 20}) (disch := first | omega | (simp only [lenE]; done) | (simp only [lenE]; omega) | rfl | (simp only [lenE, markR_len]; done) | (simp only [lenE, markR_len]; omega)) only [runE, mapE, listE, initT_5, initT_6, initT_7, initT_8, resV, oneV, binA, unA, reduceCtorEq, Nat.reduceEqDiff, Nat.reduceAdd, Nat.reduceLT, Nat.reduceLeDiff, Nat.reduceMul, Nat.reduceSub, ↓reduceIte, decide_true, decide_false, Bool.true_eq_false, Bool.false_eq_true, Bool.not_true, Bool.not_false, if_true, if_false, and_true, true_and, memE, celE, w64, Nat.zero_add, Nat.add_zero, Nat.mul_one, putL, and_self, ldn, f0]
    exact ext_ansV (hx.app nr2).ext rfl
end Go.Proofs.Ytibkaclkaigflaa.Ab
end
section
namespace Go.Proofs.Ytibkaclkaigflaa.Ab
open Go Go.RowKit Go.Proofs
set_option maxRecDepth 100000
def c_laws_FnHorizons : ACode := .seq (.reg [⟨(some 2), .mv (.const (.bool false)), none⟩])
 (.seq (.seq (.reg [⟨(some 29), .mv (.tmp 0), none⟩,
  ⟨(some 30), .call (.func 4) [(.tmp 29)], none⟩])
 (.cond (.tmp 30) (.seq (.reg [⟨(some 2), .mv (.const (.bool true)), none⟩])
 (.ret)) (.skip)))
 (.seq (.reg [⟨(some 31), .mv (.tmp 0), none⟩,
  ⟨(some 32), .call (.func 5) [(.tmp 31)], none⟩,
  ⟨(some 3), .alc 26 [(.slice none 0 0), (.slice none 0 0), (.slice none 0 0), (.slice none 0 0)], none⟩,
  ⟨none, .st 4 (.tmp 3) (.tmp 32), none⟩])
 (.seq (.reg [⟨(some 34), .ld (some 4) (.tmp 3), none⟩,
  ⟨(some 35), .call (.func 6) [(.tmp 34)], none⟩,
  ⟨(some 33), .mv (.tmp 35), none⟩,
  ⟨(some 36), .ext 0 (.tmp 33), none⟩,
  ⟨(some 37), .ext 1 (.tmp 33), none⟩,
  ⟨(some 4), .mv (.tmp 36), none⟩,
  ⟨(some 5), .mv (.tmp 37), none⟩])
 (.seq (.reg [⟨(some 39), .ld (some 4) (.tmp 3), none⟩,
  ⟨(some 40), .call (.func 7) [(.tmp 39)], none⟩,
  ⟨(some 38), .mv (.tmp 40), none⟩,
  ⟨(some 41), .ext 0 (.tmp 38), none⟩,
  ⟨(some 42), .ext 1 (.tmp 38), none⟩,
  ⟨(some 6), .mv (.tmp 41), none⟩,
  ⟨(some 7), .mv (.tmp 42), none⟩])
 (.seq (.reg [⟨(some 44), .ld (some 4) (.tmp 3), none⟩,
  ⟨(some 45), .call (.func 8) [(.tmp 44)], none⟩,
  ⟨(some 43), .mv (.tmp 45), none⟩,
  ⟨(some 46), .ext 0 (.tmp 43), none⟩,
  ⟨(some 47), .ext 1 (.tmp 43), none⟩,
  ⟨(some 8), .mv (.tmp 46), none⟩,
  ⟨(some 9), .mv (.tmp 47), none⟩])
 (.seq (.reg [⟨(some 49), .ld (some 4) (.tmp 3), none⟩,
  ⟨(some 50), .call (.func 9) [(.tmp 49)], none⟩,
  ⟨(some 48), .mv (.tmp 50), none⟩,
  ⟨(some 51), .ext 0 (.tmp 48), none⟩,
  ⟨(some 52), .ext 1 (.tmp 48), none⟩,
  ⟨(some 10), .mv (.tmp 51), none⟩,
  ⟨(some 11), .mv (.tmp 52), none⟩])
 (.seq (.reg [⟨(some 54), .ld (some 4) (.tmp 3), none⟩,
  ⟨(some 55), .call (.func 10) [(.tmp 54)], none⟩,
  ⟨(some 53), .mv (.tmp 55), none⟩,
  ⟨(some 56), .ext 0 (.tmp 53), none⟩,
  ⟨(some 57), .ext 1 (.tmp 53), none⟩,
  ⟨(some 12), .mv (.tmp 56), none⟩,
  ⟨(some 13), .mv (.tmp 57), none⟩])
 (.seq (.reg [⟨(some 59), .ld (some 4) (.tmp 3), none⟩,
  ⟨(some 60), .call (.func 11) [(.tmp 59)], none⟩,
  ⟨(some 58), .mv (.tmp 60), none⟩,
  ⟨(some 61), .ext 0 (.tmp 58), none⟩,
  ⟨(some 62), .ext 1 (.tmp 58), none⟩,
  ⟨(some 14), .mv (.tmp 61), none⟩,
  ⟨(some 15), .mv (.tmp 62), none⟩])
 (.seq (.seq (.reg [⟨(some 63), .mv (.tmp 5), none⟩,
  ⟨(some 64), .mv (.tmp 7), none⟩,
  ⟨(some 65), .beq true (.tmp 63) (.tmp 64), none⟩,
  ⟨(some 66), .mv (.tmp 65), none⟩,
  ⟨(some 67), .mv (.tmp 4), (some (66, false))⟩,
  ⟨(some 68), .mv (.tmp 6), (some (66, false))⟩,
  ⟨(some 69), .call (.func 12) [(.tmp 67), (.tmp 68)], (some (66, false))⟩,
  ⟨(some 70), .un .not (.tmp 69), (some (66, false))⟩,
  ⟨(some 71), .pick (.tmp 66) (.const (.bool true)) (.tmp 70), none⟩,
  ⟨(some 72), .mv (.tmp 71), none⟩,
  ⟨(some 73), .mv (.tmp 9), (some (72, false))⟩,
  ⟨(some 74), .mv (.tmp 11), (some (72, false))⟩,
  ⟨(some 75), .beq true (.tmp 73) (.tmp 74), (some (72, false))⟩,
  ⟨(some 76), .pick (.tmp 72) (.const (.bool true)) (.tmp 75), none⟩,
  ⟨(some 77), .mv (.tmp 76), none⟩,
  ⟨(some 78), .mv (.tmp 8), (some (77, false))⟩,
  ⟨(some 79), .mv (.tmp 10), (some (77, false))⟩,
  ⟨(some 80), .call (.func 12) [(.tmp 78), (.tmp 79)], (some (77, false))⟩,
  ⟨(some 81), .un .not (.tmp 80), (some (77, false))⟩,
  ⟨(some 82), .pick (.tmp 77) (.const (.bool true)) (.tmp 81), none⟩,
  ⟨(some 83), .mv (.tmp 82), none⟩,
  ⟨(some 84), .mv (.tmp 13), (some (83, false))⟩,
  ⟨(some 85), .mv (.tmp 15), (some (83, false))⟩,
  ⟨(some 86), .beq true (.tmp 84) (.tmp 85), (some (83, false))⟩,
  ⟨(some 87), .pick (.tmp 83) (.const (.bool true)) (.tmp 86), none⟩,
  ⟨(some 88), .mv (.tmp 87), none⟩,
  ⟨(some 89), .mv (.tmp 12), (some (88, false))⟩,
  ⟨(some 90), .mv (.tmp 14), (some (88, false))⟩,
  ⟨(some 91), .call (.func 12) [(.tmp 89), (.tmp 90)], (some (88, false))⟩,
  ⟨(some 92), .un .not (.tmp 91), (some (88, false))⟩,
  ⟨(some 93), .pick (.tmp 88) (.const (.bool true)) (.tmp 92), none⟩])
 (.cond (.tmp 93) (.seq (.reg [⟨(some 2), .mv (.const (.bool false)), none⟩])
 (.ret)) (.skip)))
 (.seq (.seq (.reg [⟨(some 94), .mv (.tmp 5), none⟩,
  ⟨(some 95), .un .not (.tmp 94), none⟩])
 (.cond (.tmp 95) (.seq (.reg [⟨(some 2), .mv (.const (.bool true)), none⟩])
 (.ret)) (.skip)))
 (.seq (.reg [⟨(some 97), .ld (some 4) (.tmp 3), none⟩,
  ⟨(some 98), .mv (.tmp 12), none⟩,
  ⟨(some 99), .call (.func 13) [(.tmp 97), (.tmp 98)], none⟩,
  ⟨(some 96), .mv (.tmp 99), none⟩,
  ⟨(some 100), .ext 0 (.tmp 96), none⟩,
  ⟨(some 101), .ext 1 (.tmp 96), none⟩,
  ⟨(some 16), .mv (.tmp 100), none⟩,
  ⟨(some 17), .mv (.tmp 101), none⟩])
 (.seq (.reg [⟨(some 103), .ld (some 4) (.tmp 3), none⟩,
  ⟨(some 104), .mv (.tmp 16), none⟩,
  ⟨(some 105), .call (.func 14) [(.tmp 103), (.tmp 104)], none⟩,
  ⟨(some 102), .mv (.tmp 105), none⟩,
  ⟨(some 106), .ext 0 (.tmp 102), none⟩,
  ⟨(some 107), .ext 1 (.tmp 102), none⟩,
  ⟨(some 18), .mv (.tmp 106), none⟩,
  ⟨(some 19), .mv (.tmp 107), none⟩])
 (.seq (.reg [⟨(some 109), .ld (some 4) (.tmp 3), none⟩,
  ⟨(some 110), .call (.func 15) [(.tmp 109)], none⟩,
  ⟨(some 108), .mv (.tmp 110), none⟩,
  ⟨(some 111), .ext 0 (.tmp 108), none⟩,
  ⟨(some 112), .ext 1 (.tmp 108), none⟩,
  ⟨(some 20), .mv (.tmp 111), none⟩,
  ⟨(some 21), .mv (.tmp 112), none⟩])
 (.seq (.reg [⟨(some 114), .ld (some 4) (.tmp 3), none⟩,
  ⟨(some 115), .call (.func 16) [(.tmp 114)], none⟩,
  ⟨(some 113), .mv (.tmp 115), none⟩,
  ⟨(some 116), .ext 0 (.tmp 113), none⟩,
  ⟨(some 117), .ext 1 (.tmp 113), none⟩,
  ⟨(some 22), .mv (.tmp 116), none⟩,
  ⟨(some 23), .mv (.tmp 117), none⟩])
 (.seq (.reg [⟨(some 119), .ld (some 4) (.tmp 3), none⟩,
  ⟨(some 120), .call (.func 17) [(.tmp 119)], none⟩,
  ⟨(some 118), .mv (.tmp 120), none⟩,
  ⟨(some 121), .ext 0 (.tmp 118), none⟩,
  ⟨(some 122), .ext 1 (.tmp 118), none⟩,
  ⟨(some 24), .mv (.tmp 121), none⟩,
  ⟨(some 25), .mv (.tmp 122), none⟩])
 (.seq (.seq (.reg [⟨(some 123), .mv (.tmp 17), none⟩,
  ⟨(some 124), .un .not (.tmp 123), none⟩,
  ⟨(some 125), .mv (.tmp 124), none⟩,
  ⟨(some 126), .mv (.tmp 25), (some (125, false))⟩,
  ⟨(some 127), .un .not (.tmp 126), (some (125, false))⟩,
  ⟨(some 128), .pick (.tmp 125) (.const (.bool true)) (.tmp 127), none⟩,
  ⟨(some 129), .mv (.tmp 128), none⟩,
  ⟨(some 130), .mv (.tmp 18), (some (129, false))⟩,
  ⟨(some 131), .mv (.tmp 20), (some (129, false))⟩,
  ⟨(some 132), .bin .neq (.tmp 130) (.tmp 131), (some (129, false))⟩,
  ⟨(some 133), .pick (.tmp 129) (.const (.bool true)) (.tmp 132), none⟩])
 (.cond (.tmp 133) (.seq (.reg [⟨(some 2), .mv (.const (.bool false)), none⟩])
 (.ret)) (.skip)))
 (.seq (.reg [⟨(some 26), .mv (.const (.bool true)), none⟩])
 (.seq (.seq (.reg [⟨(some 27), .mv (.const (.int .i64 1)), none⟩])
 (.block 0 (.loop (.seq (.seq (.reg [⟨(some 134), .mv (.tmp 27), none⟩,
  ⟨(some 135), .mv (.tmp 8), none⟩,
  ⟨(some 136), .len (.tmp 135), none⟩,
  ⟨(some 137), .bin .leq (.tmp 134) (.tmp 136), none⟩])
 (.cond (.tmp 137) (.skip) (.exit 0)))
 (.seq (.block 1 (.seq (.reg [⟨(some 140), .mv (.tmp 26), none⟩,
  ⟨(some 141), .mv (.tmp 140), none⟩,
  ⟨(some 142), .fad 0 (.tmp 3), (some (141, true))⟩,
  ⟨(some 143), .ld none (.tmp 142), (some (141, true))⟩,
  ⟨(some 144), .mv (.tmp 27), (some (141, true))⟩,
  ⟨(some 145), .bin .sub (.tmp 144) (.const (.int .i64 1)), (some (141, true))⟩,
  ⟨(some 146), .iad 1 (.tmp 143) (.tmp 145), (some (141, true))⟩,
  ⟨(some 147), .ld none (.tmp 146), (some (141, true))⟩,
  ⟨(some 148), .bin .gtr (.tmp 147) (.const (.int .i64 0)), (some (141, true))⟩,
  ⟨(some 149), .pick (.tmp 141) (.tmp 148) (.const (.bool false)), none⟩,
  ⟨(some 26), .mv (.tmp 149), none⟩])
 (.seq (.reg [⟨(some 150), .mv (.tmp 4), none⟩,
  ⟨(some 151), .mv (.tmp 27), none⟩,
  ⟨(some 153), .mv (.tmp 8), none⟩,
  ⟨(some 154), .mv (.tmp 27), none⟩,
  ⟨(some 155), .bin .sub (.tmp 154) (.const (.int .i64 1)), none⟩,
  ⟨(some 156), .iad 1 (.tmp 153) (.tmp 155), none⟩,
  ⟨(some 157), .ld none (.tmp 156), none⟩,
  ⟨(some 158), .mv (.tmp 27), none⟩,
  ⟨(some 159), .bin .sub (.tmp 158) (.const (.int .i64 1)), none⟩,
  ⟨(some 160), .bin .eql (.tmp 157) (.tmp 159), none⟩,
  ⟨(some 152), .rcall (.func 18) [(.tmp 150), (.tmp 151)], none⟩,
  ⟨(some 161), .mv (.tmp 160), none⟩,
  ⟨(some 162), .fad 0 (.tmp 3), (some (161, true))⟩,
  ⟨(some 163), .ld none (.tmp 162), (some (161, true))⟩,
  ⟨(some 164), .mv (.tmp 27), (some (161, true))⟩,
  ⟨(some 165), .bin .sub (.tmp 164) (.const (.int .i64 1)), (some (161, true))⟩,
  ⟨(some 166), .iad 1 (.tmp 163) (.tmp 165), (some (161, true))⟩,
  ⟨(some 167), .ld none (.tmp 166), (some (161, true))⟩,
  ⟨(some 168), .bin .gtr (.tmp 167) (.const (.int .i64 0)), (some (161, true))⟩,
  ⟨(some 169), .pick (.tmp 161) (.tmp 168) (.const (.bool false)), none⟩,
  ⟨(some 170), .beq true (.tmp 152) (.tmp 169), none⟩,
  ⟨(some 171), .mv (.tmp 170), none⟩,
  ⟨(some 172), .mv (.tmp 22), (some (171, false))⟩,
  ⟨(some 173), .mv (.tmp 172), (some (171, false))⟩,
  ⟨(some 174), .mv (.tmp 4), (some (173, true))⟩,
  ⟨(some 175), .mv (.tmp 27), (some (173, true))⟩,
  ⟨(some 176), .rcall (.func 18) [(.tmp 174), (.tmp 175)], (some (173, true))⟩,
  ⟨(some 177), .pick (.tmp 173) (.tmp 176) (.const (.bool false)), (some (171, false))⟩,
  ⟨(some 178), .mv (.tmp 177), (some (171, false))⟩,
  ⟨(some 179), .mv (.tmp 24), (some (178, true))⟩,
  ⟨(some 180), .mv (.tmp 27), (some (178, true))⟩,
  ⟨(some 181), .bin .sub (.tmp 180) (.const (.int .i64 1)), (some (178, true))⟩,
  ⟨(some 182), .rcall (.func 18) [(.tmp 179), (.tmp 181)], (some (178, true))⟩,
  ⟨(some 183), .un .not (.tmp 182), (some (178, true))⟩,
  ⟨(some 184), .pick (.tmp 178) (.tmp 183) (.const (.bool false)), (some (171, false))⟩,
  ⟨(some 185), .pick (.tmp 171) (.const (.bool true)) (.tmp 184), none⟩])
 (.cond (.tmp 185) (.seq (.reg [⟨(some 2), .mv (.const (.bool false)), none⟩])
 (.ret)) (.skip)))))
 (.reg [⟨(some 138), .mv (.tmp 27), none⟩,
  ⟨(some 139), .bin .add (.tmp 138) (.const (.int .i64 1)), none⟩,
  ⟨(some 27), .mv (.tmp 139), none⟩]))))))
 (.seq (.seq (.reg [⟨(some 28), .mv (.const (.int .i64 1)), none⟩])
 (.block 2 (.loop (.seq (.seq (.reg [⟨(some 186), .mv (.tmp 22), none⟩,
  ⟨(some 187), .mv (.tmp 186), none⟩,
  ⟨(some 188), .mv (.tmp 26), (some (187, true))⟩,
  ⟨(some 189), .pick (.tmp 187) (.tmp 188) (.const (.bool false)), none⟩,
  ⟨(some 190), .mv (.tmp 189), none⟩,
  ⟨(some 191), .mv (.tmp 28), (some (190, true))⟩,
  ⟨(some 192), .mv (.tmp 8), (some (190, true))⟩,
  ⟨(some 193), .len (.tmp 192), (some (190, true))⟩,
  ⟨(some 194), .bin .lss (.tmp 191) (.tmp 193), (some (190, true))⟩,
  ⟨(some 195), .pick (.tmp 190) (.tmp 194) (.const (.bool false)), none⟩])
 (.cond (.tmp 195) (.skip) (.exit 2)))
 (.seq (.block 3 (.seq (.reg [⟨(some 198), .mv (.tmp 8), none⟩,
  ⟨(some 199), .mv (.tmp 28), none⟩,
  ⟨(some 200), .iad 1 (.tmp 198) (.tmp 199), none⟩,
  ⟨(some 201), .ld none (.tmp 200), none⟩,
  ⟨(some 202), .mv (.tmp 8), none⟩,
  ⟨(some 203), .mv (.tmp 28), none⟩,
  ⟨(some 204), .bin .sub (.tmp 203) (.const (.int .i64 1)), none⟩,
  ⟨(some 205), .iad 1 (.tmp 202) (.tmp 204), none⟩,
  ⟨(some 206), .ld none (.tmp 205), none⟩,
  ⟨(some 207), .bin .lss (.tmp 201) (.tmp 206), none⟩])
 (.cond (.tmp 207) (.seq (.reg [⟨(some 2), .mv (.const (.bool false)), none⟩])
 (.ret)) (.skip))))
 (.reg [⟨(some 196), .mv (.tmp 28), none⟩,
  ⟨(some 197), .bin .add (.tmp 196) (.const (.int .i64 1)), none⟩,
  ⟨(some 28), .mv (.tmp 197), none⟩]))))))
 (.seq (.reg [⟨(some 2), .mv (.const (.bool true)), none⟩])
 (.ret)))))))))))))))))))))
def r_laws_FnHorizons : List ARes := [.tmp 2]
theorem ok_laws_FnHorizons : FnOk Try.prog 3 208 c_laws_FnHorizons r_laws_FnHorizons := ⟨⟨Try.f3, _, Try.func3, by kernel_rfl, rfl, rfl, by kernel_rfl, by kernel_rfl⟩⟩
end Go.Proofs.Ytibkaclkaigflaa.Ab
end
