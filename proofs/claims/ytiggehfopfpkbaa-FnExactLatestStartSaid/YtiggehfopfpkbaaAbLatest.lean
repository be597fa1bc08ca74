/- The plan whose amounts come as late as possible. -/
import Derived.Test.YtiggehfopfpkbaaAbFut
import Derived.Test.YtiggehfopfpkbaaAbBack
import Derived.Test.YtiggehfopfpkbaaAbFromI
namespace Go.Proofs.Ytiggehfopfpkbaa.Ab
open Go Go.RowKit
set_option linter.unusedVariables false
set_option linter.unusedSimpArgs false

/-- What is still open when the k last periods are done, and the plan then. -/
def openI (lims need : List Int) : Nat → Int
  | 0 => 0
  | k + 1 => openI lims need k + need.getD (lims.length - 1 - k) 0 - min (lims.getD (lims.length - 1 - k) 0) (openI lims need k + need.getD (lims.length - 1 - k) 0)
def latI (lims need : List Int) : Nat → List Int
  | 0 => List.replicate lims.length 0
  | k + 1 => (latI lims need k).set (lims.length - 1 - k) (min (lims.getD (lims.length - 1 - k) 0) (openI lims need k + need.getD (lims.length - 1 - k) 0))
theorem latI_len (lims need : List Int) (k : Nat) : (latI lims need k).length = lims.length := by
  induction k with
  | zero => simp [latI]
  | succ k ih => rw [latI, List.length_set, ih]
theorem openI_in {lims need : List Int} (hp : ∀ x ∈ lims, 0 ≤ x ∧ x ≤ 160) (hn : ∀ x ∈ need, 0 ≤ x ∧ x ≤ 20) (hl : lims.length = need.length) : ∀ k, k ≤ lims.length → 0 ≤ openI lims need k ∧ openI lims need k ≤ 20 * k := by
  intro k
  induction k with
  | zero => intro _; exact ⟨Int.le_refl _, Int.le_refl _⟩
  | succ k ih =>
    intro hk
    have h1 := ih (by omega)
    have h2 := getD_in hp (k := lims.length - 1 - k) (by omega)
    have h3 := getD_in hn (k := lims.length - 1 - k) (by omega)
    rw [openI]
    omega
def latestA (k : Cs) (lims : List Int) : List Int := if canB k lims then latI lims k.need lims.length else []
theorem latestA_no {k : Cs} {lims : List Int} (h : canB k lims = false) : latestA k lims = [] := by unfold latestA; rw [h]; rfl
theorem latestA_yes {k : Cs} {lims : List Int} (h : canB k lims = true) : latestA k lims = latI lims k.need lims.length := by unfold latestA; rw [h]; rfl
theorem can_iffB {k : Cs} {lims : List Int} (h : canB k lims = true) : Good k ∧ (∀ x ∈ lims, 0 ≤ x ∧ x ≤ 160) ∧ lims.length = k.need.length ∧ ∀ t, t ≤ k.need.length → 0 ≤ nowK lims k.need t := by
  unfold canB at h
  simp only [Bool.and_eq_true, decide_eq_true_eq] at h
  obtain ⟨g1, g2, g3⟩ := rowsB_iff.1 h.1
  refine ⟨g1, g2, g3, fun t ht => ?_⟩
  cases t with
  | zero => simp [nowK, sumTo]
  | succ t => exact shortF_none _ _ h.2 t (by omega) (by omega)
theorem specLatest_rc (m : Mem) (v u : Value) (k : Cs) (lims : List Int) (h : CaseA m v k) (h' : IntsA m u lims) :
    RC Try.prog 46 [v, u] m (AnsL m (latestA k lims) (canB k lims)) := by
  refine rc_of_run mixed ok_spec_LatestStart (by simp) (go_start _ _ _ ?_)
  obtain ⟨v1, v2, v3, v4, rfl, h1, h2, h3, h4⟩ := h.ro.ok
  have hc : CaseA (roM m) (.agg #[v1, v2, v3, v4]) k := ⟨_, _, _, _, rfl, h1, h2, h3, h4⟩
  have hu := h'.ro
  simp (config := {implicitDefEqProofs := false, maxDischargeDepth := 20}) (disch := first | omega | (simp only [lenE]; done) | (simp only [lenE]; omega) | rfl | (simp only [lenE, markR_len]; done) | (simp only [lenE, markR_len]; omega)) only [runE, mapE, listE, resV, oneV, binA, unA, reduceCtorEq, Nat.reduceEqDiff, Nat.reduceAdd, Nat.reduceLT, Nat.reduceLeDiff, Nat.reduceMul, Nat.reduceSub, ↓reduceIte, decide_true, decide_false, Bool.true_eq_false, Bool.false_eq_true, Bool.not_true, Bool.not_false, if_true, if_false, and_true, true_and, memE, celE, w64, Nat.zero_add, Nat.add_zero, Nat.mul_one, putL, and_self, ldn, c_spec_LatestStart, r_spec_LatestStart]
  refine callH_rc (l4Can_rc _ _ u k lims (hc.ext _) (hu.ext _)) ?_
  rintro r new ⟨rfl, nr1⟩
  have hx : Grow (roM m ++ [⟨.own, 28, [v1, v2, v3, v4]⟩]) (roM m ++ [⟨.own, 28, [v1, v2, v3, v4]⟩] ++ new) := (Grow.refl _).app nr1
  cases hcan : canB k lims with
  | false =>
    simp (config := {implicitDefEqProofs := false, maxDischargeDepth := 20}) (disch := first | omega | (simp only [lenE]; done) | (simp only [lenE]; omega) | rfl | (simp only [lenE, markR_len]; done) | (simp only [lenE, markR_len]; omega)) only [runE, mapE, listE, resV, oneV, binA, unA, reduceCtorEq, Nat.reduceEqDiff, Nat.reduceAdd, Nat.reduceLT, Nat.reduceLeDiff, Nat.reduceMul, Nat.reduceSub, ↓reduceIte, decide_true, decide_false, Bool.true_eq_false, Bool.false_eq_true, Bool.not_true, Bool.not_false, if_true, if_false, and_true, true_and, memE, celE, w64, Nat.zero_add, Nat.add_zero, Nat.mul_one, putL, and_self, ldn, bsl_none]
    rw [latestA_no hcan]
    refine ext_ansL (hx.ext.one _ _) (OwnR.end' (l := []) ?_) (by omega) rfl (by simp)
    simp only [List.length_append, List.length_cons, List.length_nil, roM_len]
  | true =>
    obtain ⟨gd, hp, hlen, -⟩ := can_iffB hcan
    have h8 := gd.n8
    rw [latestA_yes hcan]
    obtain ⟨n, hn⟩ : ∃ n, n = lims.length := ⟨_, rfl⟩
    obtain ⟨M1, hM1⟩ : ∃ M1, M1 = roM m ++ [⟨.own, 28, [v1, v2, v3, v4]⟩] ++ new := ⟨_, rfl⟩
    rw [← hM1] at hx ⊢
    have mk : ∀ M : Mem, mksA M 3 8 [.int .i64 0] (.int .i64 (n : Int)) (.int .i64 (n : Int)) = some (.slice (some ⟨M.length, 0, none⟩) n 1, M ++ [⟨.own, 3, List.replicate n (.int .i64 0)⟩]) := fun M => mksA_eq rfl (by omega)
    have l2 := hu.len
    rw [← hn] at l2
    simp (config := {implicitDefEqProofs := false, maxDischargeDepth := 20}) (disch := first | omega | (simp only [lenE]; done) | (simp only [lenE]; omega) | rfl | (simp only [lenE, markR_len]; done) | (simp only [lenE, markR_len]; omega)) only [runE, mapE, listE, resV, oneV, binA, unA, reduceCtorEq, Nat.reduceEqDiff, Nat.reduceAdd, Nat.reduceLT, Nat.reduceLeDiff, Nat.reduceMul, Nat.reduceSub, ↓reduceIte, decide_true, decide_false, Bool.true_eq_false, Bool.false_eq_true, Bool.not_true, Bool.not_false, if_true, if_false, and_true, true_and, memE, celE, w64, Nat.zero_add, Nat.add_zero, Nat.mul_one, putL, and_self, ldn, l2, mk]
    have m0 := hx.len
    simp only [List.length_append, List.length_cons, List.length_nil, roM_len] at m0
    refine loop_inv mixed (fun s => ∃ (i : Nat) (M : Mem), i ≤ n ∧ s.t 1 = u ∧ s.t 2 = .pointer (some ⟨m.length, 0, none⟩) ∧ s.t 6 = .slice (some ⟨M1.length, 0, none⟩) n 1 ∧ s.t 7 = .int .i64 (openI lims k.need i) ∧ s.t 8 = .int .i64 ((n : Int) - 1 - i) ∧ s.m = M ∧
        Grow (roM m ++ [⟨.own, 28, [v1, v2, v3, v4]⟩]) M ∧ OwnR M M1.length (latI lims k.need i)) (fun s => (intOf (s.t 8) + 1).toNat)
      ⟨0, _, by omega, rfl, rfl, rfl, rfl, by simp only [put_t, put_t', put_m, putT_t, putT_t', putT_m, init_t, init_m, initT_0, initT_1, initT_2, initT_3, initT_4, Nat.reduceEqDiff, ↓reduceIte]; simp, rfl, hx.one _ _, by rw [latI, ← hn]; exact OwnR.zeros rfl⟩ ?_
    rintro s ⟨i, M, hk, t1, t2, t6, t7, t8, tm, hxM, oM⟩
    obtain ⟨q0, q1, q2, q3, hlM⟩ := hxM.box4
    have i1 := hxM.intsV h1
    have iu := hxM.intsV hu
    by_cases hlt : i < n
    · obtain ⟨j, hj⟩ : ∃ j, j = lims.length - 1 - i := ⟨_, rfl⟩
      have e1 : (n : Int) - 1 - i = (j : Int) := by omega
      have hj0 : (0 : Int) ≤ (j : Int) := by omega
      rw [e1] at t8
      have b1 := openI_in hp gd.need hlen i (by omega)
      have b2 := getD_in hp (k := j) (by omega)
      have b3 := getD_in gd.need (k := j) (by omega)
      have a1 := i1.at_ j (by omega)
      have d1 := i1.ld j (by omega)
      have a2 := iu.at_ j (by omega)
      have d2 := iu.ld j (by omega)
      obtain ⟨x, hx0⟩ : ∃ x, x = min (lims.getD j 0) (openI lims k.need i + k.need.getD j 0) := ⟨_, rfl⟩
      have hxm : min (openI lims k.need i + k.need.getD j 0) (lims.getD j 0) = x := by rw [hx0]; omega
      simp (config := {implicitDefEqProofs := false, maxDischargeDepth := 20}) (disch := first | omega | (simp only [lenE]; done) | (simp only [lenE]; omega) | rfl | (simp only [lenE, markR_len]; done) | (simp only [lenE, markR_len]; omega)) only [runE, mapE, listE, resV, oneV, binA, unA, reduceCtorEq, Nat.reduceEqDiff, Nat.reduceAdd, Nat.reduceLT, Nat.reduceLeDiff, Nat.reduceMul, Nat.reduceSub, ↓reduceIte, decide_true, decide_false, Bool.true_eq_false, Bool.false_eq_true, Bool.not_true, Bool.not_false, if_true, if_false, and_true, true_and, memE, celE, w64, Nat.zero_add, Nat.add_zero, Nat.mul_one, putL, and_self, ldn, t1, t2, t6, t7, t8, tm, ge_iff_le, hj0, q0, a1, d1, a2, d2]
      refine callH_rc (l1Least_rc _ _ _) ?_
      rintro r new ⟨rfl, rfl⟩
      rw [hxm]
      have ia : iadA 1 (.slice (some ⟨M1.length, 0, none⟩) n 1) (.int .i64 (j : Int)) = some (.pointer (some ⟨M1.length, j, none⟩)) := by
        have := iadA_in (id := M1.length) (off := 0) (n := n) (fl := 1) (sz := 1) (k := .i64) (j := j) (by omega)
        simpa using this
      have st1 := oM.st (off := j) (x := x) (by rw [latI_len]; omega)
      obtain ⟨M5, hM5⟩ : ∃ M5, M5 = M.set M1.length (rowB ((latI lims k.need i).set j x)) := ⟨_, rfl⟩
      rw [← hM5] at st1
      have o5 : OwnR M5 M1.length ((latI lims k.need i).set j x) := by rw [hM5]; exact OwnR.set_self oM
      have rj : rdc M5 M1.length j = some (.int .i64 x) := by
        rw [rd_ownB o5]
        simp [latI_len, show j < lims.length by omega]
      simp (config := {implicitDefEqProofs := false, maxDischargeDepth := 20}) (disch := first | omega | (simp only [lenE]; done) | (simp only [lenE]; omega) | rfl | (simp only [lenE, markR_len]; done) | (simp only [lenE, markR_len]; omega)) only [runE, mapE, listE, resV, oneV, binA, unA, reduceCtorEq, Nat.reduceEqDiff, Nat.reduceAdd, Nat.reduceLT, Nat.reduceLeDiff, Nat.reduceMul, Nat.reduceSub, ↓reduceIte, decide_true, decide_false, Bool.true_eq_false, Bool.false_eq_true, Bool.not_true, Bool.not_false, if_true, if_false, and_true, true_and, memE, celE, w64, Nat.zero_add, Nat.add_zero, Nat.mul_one, putL, and_self, ldn, t6, t7, t8, ia, st1, rj]
      refine ⟨⟨i + 1, M5, by omega, t1, t2, ?_, ?_, rfl, ?_, ?_⟩, ?_⟩
      · rw [openI, ← hj, ← hx0]
      · rw [show (j : Int) - 1 = (n : Int) - 1 - ((i + 1 : Nat) : Int) by omega]
      · rw [hM5]; exact hxM.put (by simp [roM_len]; omega) _ _
      · rw [latI, ← hj, ← hx0]; exact o5
      · simp only [intOf]; omega
    · have e : i = n := by omega
      subst e
      have hneg : ¬ ((0 : Int) ≤ (i : Int) - 1 - i) := by omega
      simp (config := {implicitDefEqProofs := false, maxDischargeDepth := 20}) (disch := first | omega | (simp only [lenE]; done) | (simp only [lenE]; omega) | rfl | (simp only [lenE, markR_len]; done) | (simp only [lenE, markR_len]; omega)) only [runE, mapE, listE, resV, oneV, binA, unA, reduceCtorEq, Nat.reduceEqDiff, Nat.reduceAdd, Nat.reduceLT, Nat.reduceLeDiff, Nat.reduceMul, Nat.reduceSub, ↓reduceIte, decide_true, decide_false, Bool.true_eq_false, Bool.false_eq_true, Bool.not_true, Bool.not_false, if_true, if_false, and_true, true_and, memE, celE, w64, Nat.zero_add, Nat.add_zero, Nat.mul_one, putL, and_self, ldn, t6, t8, tm, ge_iff_le, hneg]
      exact ext_ansL hxM.ext (by rw [hn] at oM; exact oM) (by omega) (by rw [latI_len, hn]) (by rw [latI_len]; omega)
/-- The memory between two rounds. -/
structure LI (M0 : Mem) (a b c d n : Nat) (lims need : List Int) (u : Value) (k : Nat) (M : Mem) : Prop where
  g : Grow M0 M
  row : OwnR M a (latI lims need k)
  pb : M[b]? = some ⟨.own, 22, [.slice (some ⟨a, 0, none⟩) n 1]⟩
  pc : OwnR M c [openI lims need k]
  pd : M[d]? = some ⟨.own, 22, [u]⟩
theorem implLatest_rc (m : Mem) (v u : Value) (k : Cs) (lims : List Int) (h : CaseA m v k) (h' : IntsA m u lims) :
    RC Try.prog 47 [v, u] m (AnsL m (latestA k lims) (canB k lims)) := by
  refine rc_of_run mixed ok_impl_LatestStart (by simp) (go_start _ _ _ ?_)
  obtain ⟨v1, v2, v3, v4, rfl, h1, h2, h3, h4⟩ := h.ro.ok
  have hc : CaseA (roM m) (.agg #[v1, v2, v3, v4]) k := ⟨_, _, _, _, rfl, h1, h2, h3, h4⟩
  have hu := h'.ro
  simp (config := {implicitDefEqProofs := false, maxDischargeDepth := 20}) (disch := first | omega | (simp only [lenE]; done) | (simp only [lenE]; omega) | rfl | (simp only [lenE, markR_len]; done) | (simp only [lenE, markR_len]; omega)) only [runE, mapE, listE, resV, oneV, binA, unA, reduceCtorEq, Nat.reduceEqDiff, Nat.reduceAdd, Nat.reduceLT, Nat.reduceLeDiff, Nat.reduceMul, Nat.reduceSub, ↓reduceIte, decide_true, decide_false, Bool.true_eq_false, Bool.false_eq_true, Bool.not_true, Bool.not_false, if_true, if_false, and_true, true_and, memE, celE, w64, Nat.zero_add, Nat.add_zero, Nat.mul_one, putL, and_self, ldn, c_impl_LatestStart, r_impl_LatestStart]
  refine callH_rc (implCanMeet_rc _ _ u k lims (hc.ext _) (hu.ext _)) ?_
  rintro r new ⟨rfl, nr1⟩
  have hx : Grow (roM m ++ [⟨.own, 28, [v1, v2, v3, v4]⟩]) (roM m ++ [⟨.own, 28, [v1, v2, v3, v4]⟩] ++ new) := (Grow.refl _).app nr1
  have hb : canB k lims = true → rowsB k lims 160 = true := fun h => by unfold canB at h; simp only [Bool.and_eq_true] at h; exact h.1
  cases hcan : canB k lims with
  | false =>
    cases hr : rowsB k lims 160 <;>
    · simp (config := {implicitDefEqProofs := false, maxDischargeDepth := 20}) (disch := first | omega | (simp only [lenE]; done) | (simp only [lenE]; omega) | rfl | (simp only [lenE, markR_len]; done) | (simp only [lenE, markR_len]; omega)) only [runE, mapE, listE, resV, oneV, binA, unA, reduceCtorEq, Nat.reduceEqDiff, Nat.reduceAdd, Nat.reduceLT, Nat.reduceLeDiff, Nat.reduceMul, Nat.reduceSub, ↓reduceIte, decide_true, decide_false, Bool.true_eq_false, Bool.false_eq_true, Bool.not_true, Bool.not_false, if_true, if_false, and_true, true_and, memE, celE, w64, Nat.zero_add, Nat.add_zero, Nat.mul_one, putL, and_self, ldn, bsl_none, ext_2_0, ext_2_1, goG_undef]
      rw [latestA_no hcan]
      refine ext_ansL (hx.ext.one _ _) (OwnR.end' (l := []) ?_) (by omega) rfl (by simp)
      simp only [List.length_append, List.length_cons, List.length_nil, roM_len]
  | true =>
    obtain ⟨gd, hp, hlen, -⟩ := can_iffB hcan
    have h8 := gd.n8
    rw [latestA_yes hcan]
    have hr := hb hcan
    obtain ⟨n, hn⟩ : ∃ n, n = lims.length := ⟨_, rfl⟩
    obtain ⟨M2, hM2⟩ : ∃ M2, M2 = roM m ++ [⟨.own, 28, [v1, v2, v3, v4]⟩] ++ new := ⟨_, rfl⟩
    rw [← hM2] at hx ⊢
    have mk : ∀ M : Mem, mksA M 3 8 [.int .i64 0] (.int .i64 (n : Int)) (.int .i64 (n : Int)) = some (.slice (some ⟨M.length, 0, none⟩) n 1, M ++ [⟨.own, 3, List.replicate n (.int .i64 0)⟩]) := fun M => mksA_eq rfl (by omega)
    have l2 := hu.len
    rw [← hn] at l2
    simp (config := {implicitDefEqProofs := false, maxDischargeDepth := 20}) (disch := first | omega | (simp only [lenE]; done) | (simp only [lenE]; omega) | rfl | (simp only [lenE, markR_len]; done) | (simp only [lenE, markR_len]; omega)) only [runE, mapE, listE, resV, oneV, binA, unA, reduceCtorEq, Nat.reduceEqDiff, Nat.reduceAdd, Nat.reduceLT, Nat.reduceLeDiff, Nat.reduceMul, Nat.reduceSub, ↓reduceIte, decide_true, decide_false, Bool.true_eq_false, Bool.false_eq_true, Bool.not_true, Bool.not_false, if_true, if_false, and_true, true_and, memE, celE, w64, Nat.zero_add, Nat.add_zero, Nat.mul_one, putL, and_self, ldn, hr, ext_2_0, ext_2_1, l2, mk]
    have hu2 := hx.intsV hu
    refine callH_rc (backward_rc _ u lims (((hu2.ext _).ext _).ext _)) ?_
    rintro r new3 ⟨rfl, rfl⟩
    simp (config := {implicitDefEqProofs := false, maxDischargeDepth := 20}) (disch := first | omega | (simp only [lenE]; done) | (simp only [lenE]; omega) | rfl | (simp only [lenE, markR_len]; done) | (simp only [lenE, markR_len]; omega)) only [runE, mapE, listE, resV, oneV, binA, unA, reduceCtorEq, Nat.reduceEqDiff, Nat.reduceAdd, Nat.reduceLT, Nat.reduceLeDiff, Nat.reduceMul, Nat.reduceSub, ↓reduceIte, decide_true, decide_false, Bool.true_eq_false, Bool.false_eq_true, Bool.not_true, Bool.not_false, if_true, if_false, and_true, true_and, memE, celE, w64, Nat.zero_add, Nat.add_zero, Nat.mul_one, putL, and_self, ldn]
    obtain ⟨M3, hM3⟩ : ∃ M3, M3 = M2 ++ [⟨.own, 3, List.replicate n (.int .i64 0)⟩] ++ [⟨.own, 22, [.slice (some ⟨M2.length, 0, none⟩) n 1]⟩] ++ [⟨.own, 3, [.int .i64 0]⟩] ++ [⟨.own, 22, [u]⟩] := ⟨_, rfl⟩
    have f0 : LI (roM m ++ [⟨.own, 28, [v1, v2, v3, v4]⟩]) M2.length (M2.length + 1) (M2.length + 1 + 1) (M2.length + 1 + 1 + 1) n lims k.need u 0 M3 := by
      rw [hM3]
      refine ⟨(((hx.one _ _).one _ _).one _ _).one _ _, ?_, by simp, (at4 _ _ _ _ _).1, (at4 _ _ _ _ _).2⟩
      have := (((OwnR.zeros (m := M2) (n := n) rfl).ext [⟨.own, 22, [.slice (some ⟨M2.length, 0, none⟩) n 1]⟩]).ext [⟨.own, 3, [.int .i64 0]⟩]).ext [⟨.own, 22, [u]⟩]
      rw [latI, ← hn]
      exact this
    have m0 := hx.len
    simp only [List.length_append, List.length_cons, List.length_nil, roM_len] at m0
    refine range_gen (fun s => s.t 2 = .pointer (some ⟨m.length, 0, none⟩) ∧ s.t 8 = .pointer (some ⟨M2.length + 1, 0, none⟩) ∧ s.t 9 = .pointer (some ⟨M2.length + 1 + 1, 0, none⟩) ∧
      s.t 29 = .func (.func 121) #[] #[.pointer (some ⟨M2.length + 1 + 1 + 1, 0, none⟩)] ∧ s.m = M3) ⟨rfl, rfl, rfl, rfl, hM3.symm⟩ ?_
    rintro s ⟨t2, t8, t9, t29, tm⟩
    refine range_run mixed (gf := 121) (caps := #[.pointer (some ⟨M2.length + 1 + 1 + 1, 0, none⟩)]) (by rw [ev_tmp]; exact t29) lims.length _
      (LI (roM m ++ [⟨.own, 28, [v1, v2, v3, v4]⟩]) M2.length (M2.length + 1) (M2.length + 1 + 1) (M2.length + 1 + 1 + 1) n lims k.need u)
      (iter_ints hu2 (by omega) fun i M hM => ⟨by rw [rd_ownB hM.pd]; rfl, hM.g.intsV hu⟩) (fun _ => rfl) (by rw [tm]; exact f0) ?_ ?_
    · intro i M hi hM
      obtain ⟨j, hj⟩ : ∃ j, j = lims.length - 1 - i := ⟨_, rfl⟩
      have e1 : (lims.length : Int) - 1 - i = (j : Int) := by omega
      have b1 := openI_in hp gd.need hlen i (by omega)
      have b2 := getD_in hp (k := j) (by omega)
      have b3 := getD_in gd.need (k := j) (by omega)
      obtain ⟨q0, q1, q2, q3, hlM3⟩ := hM.g.box4
      have i1 := hM.g.intsV h1
      have a1 := i1.at_ j (by omega)
      have d1 := i1.ld j (by omega)
      have rb : rdc M (M2.length + 1) 0 = some (.slice (some ⟨M2.length, 0, none⟩) n 1) := by rw [rd_ownB hM.pb]; rfl
      have rc : rdc M (M2.length + 1 + 1) 0 = some (.int .i64 (openI lims k.need i)) := by rw [rd_ownB hM.pc]; rfl
      obtain ⟨o, ho⟩ : ∃ o, o = openI lims k.need i + k.need.getD j 0 := ⟨_, rfl⟩
      have st0 := hM.pc.st (off := 0) (x := o) (by simp)
      obtain ⟨M4, hM4⟩ : ∃ M4, M4 = M.set (M2.length + 1 + 1) (rowB ([openI lims k.need i].set 0 o)) := ⟨_, rfl⟩
      rw [← hM4] at st0
      simp (config := {implicitDefEqProofs := false, maxDischargeDepth := 20}) (disch := first | omega | (simp only [lenE]; done) | (simp only [lenE]; omega) | rfl | (simp only [lenE, markR_len]; done) | (simp only [lenE, markR_len]; omega)) only [runE, mapE, listE, resV, oneV, binA, unA, reduceCtorEq, Nat.reduceEqDiff, Nat.reduceAdd, Nat.reduceLT, Nat.reduceLeDiff, Nat.reduceMul, Nat.reduceSub, ↓reduceIte, decide_true, decide_false, Bool.true_eq_false, Bool.false_eq_true, Bool.not_true, Bool.not_false, if_true, if_false, and_true, true_and, memE, celE, w64, Nat.zero_add, Nat.add_zero, Nat.mul_one, putL, and_self, ldn, setT_2, t2, t8, t9, q0, rb, rc, a1, d1, e1, ← hj, ← ho, st0]
      obtain ⟨x, hx0⟩ : ∃ x, x = min (lims.getD j 0) o := ⟨_, rfl⟩
      have ia : iadA 1 (.slice (some ⟨M2.length, 0, none⟩) n 1) (.int .i64 (j : Int)) = some (.pointer (some ⟨M2.length, j, none⟩)) := by
        have := iadA_in (id := M2.length) (off := 0) (n := n) (fl := 1) (sz := 1) (k := .i64) (j := j) (by omega)
        simpa using this
      have g4 : Grow (roM m ++ [⟨.own, 28, [v1, v2, v3, v4]⟩]) M4 := by rw [hM4]; exact hM.g.put (by simp [roM_len]; omega) _ _
      have o4 : OwnR M4 M2.length (latI lims k.need i) := by rw [hM4]; exact hM.row.set_ne (by omega)
      have p4 : M4[M2.length + 1]? = some ⟨.own, 22, [.slice (some ⟨M2.length, 0, none⟩) n 1]⟩ := by rw [hM4, List.getElem?_set_ne (by omega)]; exact hM.pb
      have c4 : OwnR M4 (M2.length + 1 + 1) [o] := by rw [hM4]; exact OwnR.set_self hM.pc
      have d4 : M4[M2.length + 1 + 1 + 1]? = some ⟨.own, 22, [u]⟩ := by rw [hM4, List.getElem?_set_ne (by omega)]; exact hM.pd
      have rb4 : rdc M4 (M2.length + 1) 0 = some (.slice (some ⟨M2.length, 0, none⟩) n 1) := by rw [rd_ownB p4]; rfl
      have rc4 : rdc M4 (M2.length + 1 + 1) 0 = some (.int .i64 o) := by rw [rd_ownB c4]; rfl
      have st1 := o4.st (off := j) (x := x) (by rw [latI_len]; omega)
      clear hM4
      obtain ⟨M5, hM5⟩ : ∃ M5, M5 = M4.set M2.length (rowB ((latI lims k.need i).set j x)) := ⟨_, rfl⟩
      rw [← hM5] at st1
      simp (config := {implicitDefEqProofs := false, maxDischargeDepth := 20}) (disch := first | omega | (simp only [lenE]; done) | (simp only [lenE]; omega) | rfl | (simp only [lenE, markR_len]; done) | (simp only [lenE, markR_len]; omega)) only [runE, mapE, listE, resV, oneV, binA, unA, reduceCtorEq, Nat.reduceEqDiff, Nat.reduceAdd, Nat.reduceLT, Nat.reduceLeDiff, Nat.reduceMul, Nat.reduceSub, ↓reduceIte, decide_true, decide_false, Bool.true_eq_false, Bool.false_eq_true, Bool.not_true, Bool.not_false, if_true, if_false, and_true, true_and, memE, celE, w64, Nat.zero_add, Nat.add_zero, Nat.mul_one, putL, and_self, ldn, setT_2, t8, t9, rb4, rc4, mmA_min, ← hx0, ia, st1]
      have g5 : Grow (roM m ++ [⟨.own, 28, [v1, v2, v3, v4]⟩]) M5 := by rw [hM5]; exact g4.put (by simp [roM_len]; omega) _ _
      have o5 : OwnR M5 M2.length ((latI lims k.need i).set j x) := by rw [hM5]; exact OwnR.set_self o4
      have p5 : M5[M2.length + 1]? = some ⟨.own, 22, [.slice (some ⟨M2.length, 0, none⟩) n 1]⟩ := by rw [hM5, List.getElem?_set_ne (by omega)]; exact p4
      have c5 : OwnR M5 (M2.length + 1 + 1) [o] := by rw [hM5]; exact c4.set_ne (by omega)
      have d5 : M5[M2.length + 1 + 1 + 1]? = some ⟨.own, 22, [u]⟩ := by rw [hM5, List.getElem?_set_ne (by omega)]; exact d4
      have rb5 : rdc M5 (M2.length + 1) 0 = some (.slice (some ⟨M2.length, 0, none⟩) n 1) := by rw [rd_ownB p5]; rfl
      have rc5 : rdc M5 (M2.length + 1 + 1) 0 = some (.int .i64 o) := by rw [rd_ownB c5]; rfl
      have rj : rdc M5 M2.length j = some (.int .i64 x) := by
        rw [rd_ownB o5]
        simp [latI_len, show j < lims.length by omega]
      have st2 := c5.st (off := 0) (x := o - x) (by simp)
      simp (config := {implicitDefEqProofs := false, maxDischargeDepth := 20}) (disch := first | omega | (simp only [lenE]; done) | (simp only [lenE]; omega) | rfl | (simp only [lenE, markR_len]; done) | (simp only [lenE, markR_len]; omega)) only [runE, mapE, listE, resV, oneV, binA, unA, reduceCtorEq, Nat.reduceEqDiff, Nat.reduceAdd, Nat.reduceLT, Nat.reduceLeDiff, Nat.reduceMul, Nat.reduceSub, ↓reduceIte, decide_true, decide_false, Bool.true_eq_false, Bool.false_eq_true, Bool.not_true, Bool.not_false, if_true, if_false, and_true, true_and, memE, celE, w64, Nat.zero_add, Nat.add_zero, Nat.mul_one, putL, and_self, ldn, setT_2, t8, t9, rb5, rc5, ia, rj, st2]
      refine ⟨g5.put (by simp [roM_len]; omega) _ _, ?_, ?_, ?_, ?_⟩
      · rw [latI, ← hj, ← ho, ← hx0]
        exact o5.set_ne (by omega)
      · rw [List.getElem?_set_ne (by omega)]; exact p5
      · rw [openI, ← hj, ← ho, ← hx0]
        exact OwnR.set_self c5
      · rw [List.getElem?_set_ne (by omega)]; exact d5
    · intro M hM
      have rb : rdc M (M2.length + 1) 0 = some (.slice (some ⟨M2.length, 0, none⟩) n 1) := by rw [rd_ownB hM.pb]; rfl
      obtain ⟨q0, q1, q2, q3, hlM3⟩ := hM.g.box4
      simp (config := {implicitDefEqProofs := false, maxDischargeDepth := 20}) (disch := first | omega | (simp only [lenE]; done) | (simp only [lenE]; omega) | rfl | (simp only [lenE, markR_len]; done) | (simp only [lenE, markR_len]; omega)) only [runE, mapE, listE, resV, oneV, binA, unA, reduceCtorEq, Nat.reduceEqDiff, Nat.reduceAdd, Nat.reduceLT, Nat.reduceLeDiff, Nat.reduceMul, Nat.reduceSub, ↓reduceIte, decide_true, decide_false, Bool.true_eq_false, Bool.false_eq_true, Bool.not_true, Bool.not_false, if_true, if_false, and_true, true_and, memE, celE, w64, Nat.zero_add, Nat.add_zero, Nat.mul_one, putL, and_self, ldn, t8, rb]
      exact ext_ansL hM.g.ext hM.row (by omega) (by rw [latI_len, hn]) (by rw [latI_len]; omega)
end Go.Proofs.Ytiggehfopfpkbaa.Ab
