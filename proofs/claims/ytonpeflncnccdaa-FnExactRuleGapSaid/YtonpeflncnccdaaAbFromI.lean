/- impl.PlanFrom: a range over slices.Backward. -/
import Derived.Test.YtonpeflncnccdaaAbBest2
import Derived.Test.YtonpeflncnccdaaAbIterB
import Derived.Test.YtonpeflncnccdaaAbBackMath
namespace Go.Proofs.Ytonpeflncnccdaa.Ab
open Go Go.RowKit
set_option linter.unusedVariables false
set_option linter.unusedSimpArgs false

theorem IntsA.preB {m : Mem} {v : Value} {l : List Int} (h : IntsA m v l) {hi : Nat} (h2 : hi ≤ l.length) :
    ∃ v', slcA 1 v none (some (.int .i64 hi)) = some v' ∧ IntsA m v' (cutL l 0 hi) := by
  obtain ⟨x, e, hx⟩ := h.cut (lo := 0) (Nat.zero_le hi) h2
  rcases h.form with ⟨rfl, rfl⟩ | ⟨id, off, fl, rfl⟩
  · have e1 : hi = 0 := by simpa using h2
    subst e1
    exact ⟨.slice none 0 0, rfl, IntsA.nil m⟩
  · have hs : slcA 1 (.slice (some ⟨id, off, none⟩) l.length fl) none (some (.int .i64 hi)) = some (.slice (some ⟨id, off, none⟩) hi fl) := by
      simp [slcA, boundA, h2]
    have hs2 : slcA 1 (.slice (some ⟨id, off, none⟩) l.length fl) (some (.int .i64 0)) (some (.int .i64 hi)) = some (.slice (some ⟨id, off, none⟩) hi 0) := by
      simp [slcA, boundA, h2]
    have e0 : (((0 : Nat) : Int)) = 0 := rfl
    rw [e0, hs2] at e
    cases e
    have hc : (cutL l 0 hi).length = hi := by rw [cutL_len h2, Nat.sub_zero]
    refine ⟨_, hs, ?_⟩
    have a := hx
    refine ⟨a.len, a.bd, fun k hk => ?_, fun k hk => ?_, ?_⟩
    · have := a.at_ k hk
      simp only [iadA, pAt] at this ⊢
      exact this
    · exact a.ld k hk
    · exact a.src
theorem rd_ownB {M : Mem} {id k : Nat} {t : TypeId} {cs : List Value} (h : M[id]? = some ⟨.own, t, cs⟩) : rdc M id k = cs[k]? := by
  unfold rdc; rw [h]; rfl
/-- A row of ints is handed over from its end. -/
theorem iter_ints {bi : Nat} {u : Value} {ps : List Int} {J : Nat → Mem → Prop} {m0 : Mem} (h : IntsA m0 u ps) (hr : ps.length ≤ 1048576) (hJ : ∀ k m, J k m → rdc m bi 0 = some u ∧ IntsA m u ps) :
    Iter Try.prog 67 [.pointer (some ⟨bi, 0, none⟩)] ps.length (fun k => [.int .i64 ((ps.length : Int) - 1 - k), .int .i64 (ps.getD (ps.length - 1 - k) 0)]) J := by
  rcases h.form with ⟨rfl, rfl⟩ | ⟨id, off, fl, rfl⟩
  · refine ⟨⟨_, Try.func67, rfl, rfl⟩, fun base ρ lb hvl l J' hcalm hback hY W h0 => ?_⟩
    have hlen : lb.length = 1 := hvl.1.symm
    obtain ⟨y, rfl⟩ : ∃ y, lb = [y] := by
      match lb, hlen with
      | [y], _ => exact ⟨y, rfl⟩
    have hy := hvl.2 0 _ y rfl rfl
    cases hy with
    | @ptr _ _ b o tot hp =>
      obtain ⟨W0, ρ', m', hj, hpre, hm⟩ := hback 0 W h0
      obtain ⟨z, hz, hv⟩ := hm.load (hJ 0 m' hj).1 (pre_at hpre hp)
      cases hv
      exact backward_nil l b (o + 0) 0 none J' W hz h0
  · have := iter_backward (bi := bi) (ri := id) (off := off) (fl := fl) (len := ps.length) (zs := ps) (J := J) (by omega) fun k m' hj => ⟨(hJ k m' hj).1, fun j hlt => ?_⟩
    · simpa only [List.getD_eq_getElem?_getD] using this
    · have := (hJ k m' hj).2.ld j hlt
      simp only [pAt, ld1] at this
      rw [← List.getD_eq_getElem?_getD]
      exact this
theorem backward_rc (m : Mem) (u : Value) (ps : List Int) (h : IntsA m u ps) :
    RC Try.prog 45 [u] m fun r new => r = .func (.func 67) #[] #[.pointer (some ⟨m.length, 0, none⟩)] ∧ new = [⟨.own, 22, [u]⟩] := by
  refine rc_of_run mixed ok_slices_Backward (by simp) (go_start _ _ _ ?_)
  have hu : u.cells = #[u] := by rcases h.form with ⟨rfl, rfl⟩ | ⟨id, off, fl, rfl⟩ <;> rfl
  simp (config := {implicitDefEqProofs := false, maxDischargeDepth := 20}) (disch := first | omega | (simp only [lenE]; done) | (simp only [lenE]; omega) | rfl | (simp only [lenE, markR_len]; done) | (simp only [lenE, markR_len]; omega)) only [runE, mapE, listE, initT_5, initT_6, initT_7, initT_8, resV, oneV, binA, unA, reduceCtorEq, Nat.reduceEqDiff, Nat.reduceAdd, Nat.reduceLT, Nat.reduceLeDiff, Nat.reduceMul, Nat.reduceSub, ↓reduceIte, decide_true, decide_false, Bool.true_eq_false, Bool.false_eq_true, Bool.not_true, Bool.not_false, if_true, if_false, and_true, true_and, memE, celE, w64, Nat.zero_add, Nat.add_zero, Nat.mul_one, putL, and_self, ldn, c_slices_Backward, r_slices_Backward, hu]
  exact ⟨[⟨.own, 22, [u]⟩], rfl, noRo_own noRo_nil, rfl, rfl⟩
theorem implAsc_rc (m : Mem) (u : Value) (ps : List Int) (n : Nat) (h' : IntsA m u ps) (hn : n ≤ 1048576) :
    RC Try.prog 44 [u, .int .i64 (n : Int)] m (AnsV (.bool (risB ps n))) := by
  refine rc_of_run mixed ok_impl_isAscending (by simp) (go_start _ _ _ ?_)
  have hu := h'.ro
  have hbd := hu.bd
  simp (config := {implicitDefEqProofs := false, maxDischargeDepth := 20}) (disch := first | omega | (simp only [lenE]; done) | (simp only [lenE]; omega) | rfl | (simp only [lenE, markR_len]; done) | (simp only [lenE, markR_len]; omega)) only [runE, mapE, listE, initT_5, initT_6, initT_7, initT_8, resV, oneV, binA, unA, reduceCtorEq, Nat.reduceEqDiff, Nat.reduceAdd, Nat.reduceLT, Nat.reduceLeDiff, Nat.reduceMul, Nat.reduceSub, ↓reduceIte, decide_true, decide_false, Bool.true_eq_false, Bool.false_eq_true, Bool.not_true, Bool.not_false, if_true, if_false, and_true, true_and, memE, celE, w64, Nat.zero_add, Nat.add_zero, Nat.mul_one, putL, and_self, ldn, c_impl_isAscending, r_impl_isAscending, hu.len]
  refine loop_inv mixed (fun s => ∃ i : Nat, i ≤ ps.length ∧ (∀ j, j < i → (0 ≤ ps.getD j 0 ∧ ps.getD j 0 ≤ (n : Int) - 1) ∧ (0 < j → ps.getD (j - 1) 0 < ps.getD j 0)) ∧ s.t 1 = .int .i64 (n : Int) ∧ s.t 5 = .int .i64 (if i = 0 then 0 else ps.getD (i - 1) 0 + 1) ∧ s.t 8 = u ∧ s.t 9 = .int .i64 (ps.length : Int) ∧ s.t 10 = .int .i64 (i : Int) ∧ s.m = roM m) (fun s => ps.length - (intOf (s.t 10)).toNat)
    ⟨0, by omega, fun j hj => absurd hj (by omega), rfl, rfl, rfl, rfl, rfl, rfl⟩ ?_
  rintro s ⟨i, hk, hall, t1, t5, t8, t9, t10, tm⟩
  obtain ⟨x, hx⟩ : ∃ x : Int, x = if i = 0 then 0 else ps.getD (i - 1) 0 + 1 := ⟨_, rfl⟩
  rw [← hx] at t5
  have nx : ((0 ≤ ps.getD i 0 ∧ ps.getD i 0 ≤ (n : Int) - 1) ∧ (0 < i → ps.getD (i - 1) 0 < ps.getD i 0)) → ∀ j, j < i + 1 → (0 ≤ ps.getD j 0 ∧ ps.getD j 0 ≤ (n : Int) - 1) ∧ (0 < j → ps.getD (j - 1) 0 < ps.getD j 0) := fun hh j hj => by
    by_cases e : j < i
    · exact hall j e
    · have : j = i := by omega
      rw [this]; exact hh
  by_cases hlt : i < ps.length
  · have hlt' : (i : Int) < ps.length := by omega
    have ai := hu.at_ i hlt
    have li := hu.ld i hlt
    have hx1 : (ps.getD i 0 < x) ↔ ¬ (0 ≤ ps.getD i 0 ∧ (0 < i → ps.getD (i - 1) 0 < ps.getD i 0)) := by
      rw [hx]
      split
      · rename_i h0; subst h0; constructor
        · intro h1 h2; omega
        · intro h1; apply Int.not_le.1; intro h2; exact h1 ⟨h2, fun h => by omega⟩
      · rename_i h0
        have := (hall (i - 1) (by omega)).1
        constructor
        · intro h1 h2; have := h2.2 (by omega); omega
        · intro h1; apply Int.not_le.1; intro h2; exact h1 ⟨by omega, fun _ => by omega⟩
    by_cases hlo : ps.getD i 0 < x
    · simp (config := {implicitDefEqProofs := false, maxDischargeDepth := 20}) (disch := first | omega | (simp only [lenE]; done) | (simp only [lenE]; omega) | rfl | (simp only [lenE, markR_len]; done) | (simp only [lenE, markR_len]; omega)) only [runE, mapE, listE, initT_5, initT_6, initT_7, initT_8, resV, oneV, binA, unA, reduceCtorEq, Nat.reduceEqDiff, Nat.reduceAdd, Nat.reduceLT, Nat.reduceLeDiff, Nat.reduceMul, Nat.reduceSub, ↓reduceIte, decide_true, decide_false, Bool.true_eq_false, Bool.false_eq_true, Bool.not_true, Bool.not_false, if_true, if_false, and_true, true_and, memE, celE, w64, Nat.zero_add, Nat.add_zero, Nat.mul_one, putL, and_self, ldn, t1, t5, t8, t9, t10, tm, hlt', ai, li, hlo, goG_undef]
      rw [risB_no hlt fun hh => (hx1.1 hlo) ⟨hh.1.1, hh.2⟩]
      exact ext_ansV (Ext.refl m) rfl
    · have hge : (0 ≤ ps.getD i 0 ∧ (0 < i → ps.getD (i - 1) 0 < ps.getD i 0)) := Classical.byContradiction fun hh => hlo (hx1.2 hh)
      by_cases hhi : (n : Int) ≤ ps.getD i 0
      · simp (config := {implicitDefEqProofs := false, maxDischargeDepth := 20}) (disch := first | omega | (simp only [lenE]; done) | (simp only [lenE]; omega) | rfl | (simp only [lenE, markR_len]; done) | (simp only [lenE, markR_len]; omega)) only [runE, mapE, listE, initT_5, initT_6, initT_7, initT_8, resV, oneV, binA, unA, reduceCtorEq, Nat.reduceEqDiff, Nat.reduceAdd, Nat.reduceLT, Nat.reduceLeDiff, Nat.reduceMul, Nat.reduceSub, ↓reduceIte, decide_true, decide_false, Bool.true_eq_false, Bool.false_eq_true, Bool.not_true, Bool.not_false, if_true, if_false, and_true, true_and, memE, celE, w64, Nat.zero_add, Nat.add_zero, Nat.mul_one, putL, and_self, ldn, t1, t5, t8, t9, t10, tm, hlt', ai, li, hlo, hhi, ge_iff_le, goG_undef]
        rw [risB_no hlt fun hh => by omega]
        exact ext_ansV (Ext.refl m) rfl
      · simp (config := {implicitDefEqProofs := false, maxDischargeDepth := 20}) (disch := first | omega | (simp only [lenE]; done) | (simp only [lenE]; omega) | rfl | (simp only [lenE, markR_len]; done) | (simp only [lenE, markR_len]; omega)) only [runE, mapE, listE, initT_5, initT_6, initT_7, initT_8, resV, oneV, binA, unA, reduceCtorEq, Nat.reduceEqDiff, Nat.reduceAdd, Nat.reduceLT, Nat.reduceLeDiff, Nat.reduceMul, Nat.reduceSub, ↓reduceIte, decide_true, decide_false, Bool.true_eq_false, Bool.false_eq_true, Bool.not_true, Bool.not_false, if_true, if_false, and_true, true_and, memE, celE, w64, Nat.zero_add, Nat.add_zero, Nat.mul_one, putL, and_self, ldn, t1, t5, t8, t9, t10, tm, hlt', ai, li, hlo, hhi, ge_iff_le, goG_undef]
        refine ⟨⟨i + 1, by omega, nx ⟨⟨hge.1, by omega⟩, hge.2⟩, ?_⟩, ?_⟩
        · exact ⟨by rw [if_neg (by omega), Nat.add_sub_cancel], by simp⟩
        · simp [intOf]; omega
  · have e : i = ps.length := by omega
    subst e
    have hirr : ¬ ((ps.length : Int) < ps.length) := by omega
    simp (config := {implicitDefEqProofs := false, maxDischargeDepth := 20}) (disch := first | omega | (simp only [lenE]; done) | (simp only [lenE]; omega) | rfl | (simp only [lenE, markR_len]; done) | (simp only [lenE, markR_len]; omega)) only [runE, mapE, listE, initT_5, initT_6, initT_7, initT_8, resV, oneV, binA, unA, reduceCtorEq, Nat.reduceEqDiff, Nat.reduceAdd, Nat.reduceLT, Nat.reduceLeDiff, Nat.reduceMul, Nat.reduceSub, ↓reduceIte, decide_true, decide_false, Bool.true_eq_false, Bool.false_eq_true, Bool.not_true, Bool.not_false, if_true, if_false, and_true, true_and, memE, celE, w64, Nat.zero_add, Nat.add_zero, Nat.mul_one, putL, and_self, ldn, t1, t5, t8, t9, t10, tm, hirr]
    have hr : risB ps n = true := decide_eq_true hall
    rw [hr]
    exact ext_ansV (Ext.refl m) rfl
theorem setT_2 (t : Nat → Value) (i j : Nat) (x y : Value) (k : Nat) : setT t [i, j] [x, y] k = if k = j then y else if k = i then x else t k := rfl
theorem at4 (M : Mem) (x y z w : Blk) : (M ++ [x] ++ [y] ++ [z] ++ [w])[M.length + 1 + 1]? = some z ∧ (M ++ [x] ++ [y] ++ [z] ++ [w])[M.length + 1 + 1 + 1]? = some w := by
  have e : M ++ [x] ++ [y] ++ [z] ++ [w] = M ++ [x, y, z, w] := by simp
  rw [e]
  constructor
  · rw [List.getElem?_append_right (by omega), show M.length + 1 + 1 - M.length = 2 by omega]; rfl
  · rw [List.getElem?_append_right (by omega), show M.length + 1 + 1 + 1 - M.length = 3 by omega]; rfl
theorem range_gen {P : Program} {n : Nat} {v : Value} {g : Operand} {qs : List Nat} {c d : ACode} {k : Kont} {s : St} (I : St → Prop) (h0 : I s) (h : ∀ s, I s → rangeH P n v g qs c d k s) : rangeH P n v g qs c d k s := h s h0
/-- The memory between two rounds. -/
structure FI (M0 : Mem) (a b c d n : Nat) (need ps : List Int) (u : Value) (k : Nat) (M : Mem) : Prop where
  g : Grow M0 M
  row : OwnR M a (backI need ps k)
  pb : M[b]? = some ⟨.own, 22, [.slice (some ⟨a, 0, none⟩) n 1]⟩
  pc : OwnR M c [(endB n ps k : Int)]
  pd : M[d]? = some ⟨.own, 22, [u]⟩
theorem implPlanFrom_rc (m : Mem) (v u : Value) (k : Cs) (ps : List Int) (h : CaseA m v k) (h' : IntsA m u ps) (hl : ps.length ≤ 1048576) :
    RC Try.prog 24 [v, u] m (AnsL m (fromA k ps) (fromOk k ps)) := by
  refine rc_of_run mixed ok_impl_PlanFrom (by simp) (go_start _ _ _ ?_)
  obtain ⟨v1, v2, v3, v4, rfl, h1, h2, h3, h4⟩ := h.ro.ok
  have hc : CaseA (roM m) (.agg #[v1, v2, v3, v4]) k := ⟨_, _, _, _, rfl, h1, h2, h3, h4⟩
  have hu := h'.ro
  simp (config := {implicitDefEqProofs := false, maxDischargeDepth := 20}) (disch := first | omega | (simp only [lenE]; done) | (simp only [lenE]; omega) | rfl | (simp only [lenE, markR_len]; done) | (simp only [lenE, markR_len]; omega)) only [runE, mapE, listE, initT_5, initT_6, initT_7, initT_8, resV, oneV, binA, unA, reduceCtorEq, Nat.reduceEqDiff, Nat.reduceAdd, Nat.reduceLT, Nat.reduceLeDiff, Nat.reduceMul, Nat.reduceSub, ↓reduceIte, decide_true, decide_false, Bool.true_eq_false, Bool.false_eq_true, Bool.not_true, Bool.not_false, if_true, if_false, and_true, true_and, memE, celE, w64, Nat.zero_add, Nat.add_zero, Nat.mul_one, putL, and_self, ldn, c_impl_PlanFrom, r_impl_PlanFrom]
  refine callH_rc (implIsCase_rc _ _ k (hc.ext _)) ?_
  rintro r new ⟨rfl, nr1⟩
  have hx : Grow (roM m ++ [⟨.own, 28, [v1, v2, v3, v4]⟩]) (roM m ++ [⟨.own, 28, [v1, v2, v3, v4]⟩] ++ new) := (Grow.refl _).app nr1
  cases hg : k.good with
  | false =>
    have e : fromOk k ps = false := by unfold fromOk; rw [hg]; rfl
    simp (config := {implicitDefEqProofs := false, maxDischargeDepth := 20}) (disch := first | omega | (simp only [lenE]; done) | (simp only [lenE]; omega) | rfl | (simp only [lenE, markR_len]; done) | (simp only [lenE, markR_len]; omega)) only [runE, mapE, listE, initT_5, initT_6, initT_7, initT_8, resV, oneV, binA, unA, reduceCtorEq, Nat.reduceEqDiff, Nat.reduceAdd, Nat.reduceLT, Nat.reduceLeDiff, Nat.reduceMul, Nat.reduceSub, ↓reduceIte, decide_true, decide_false, Bool.true_eq_false, Bool.false_eq_true, Bool.not_true, Bool.not_false, if_true, if_false, and_true, true_and, memE, celE, w64, Nat.zero_add, Nat.add_zero, Nat.mul_one, putL, and_self, ldn, bsl_none, goG_undef]
    rw [e, fromA_no e]
    refine ext_ansL (hx.ext.one _ _) (OwnR.end' (l := []) ?_) (by omega) rfl (by simp)
    simp only [List.length_append, List.length_cons, List.length_nil, roM_len]
  | true =>
    have gd := good_iff.1 hg
    have h8 := gd.n8
    obtain ⟨n, hn⟩ : ∃ n, n = k.need.length := ⟨_, rfl⟩
    obtain ⟨M1, hM1⟩ : ∃ M1, M1 = roM m ++ [⟨.own, 28, [v1, v2, v3, v4]⟩] ++ new := ⟨_, rfl⟩
    rw [← hM1] at hx ⊢
    obtain ⟨q0, q1, q2, q3, hlM⟩ := hx.box4
    have l1 := h1.len
    rw [← hn] at l1 h8
    simp (config := {implicitDefEqProofs := false, maxDischargeDepth := 20}) (disch := first | omega | (simp only [lenE]; done) | (simp only [lenE]; omega) | rfl | (simp only [lenE, markR_len]; done) | (simp only [lenE, markR_len]; omega)) only [runE, mapE, listE, initT_5, initT_6, initT_7, initT_8, resV, oneV, binA, unA, reduceCtorEq, Nat.reduceEqDiff, Nat.reduceAdd, Nat.reduceLT, Nat.reduceLeDiff, Nat.reduceMul, Nat.reduceSub, ↓reduceIte, decide_true, decide_false, Bool.true_eq_false, Bool.false_eq_true, Bool.not_true, Bool.not_false, if_true, if_false, and_true, true_and, memE, celE, w64, Nat.zero_add, Nat.add_zero, Nat.mul_one, putL, and_self, ldn, q0, q1, q2, q3, l1]
    refine callH_rc (implAsc_rc _ u ps n (hx.intsV hu) (by omega)) ?_
    rintro r new2 ⟨rfl, nr2⟩
    have hx2 := hx.app nr2
    obtain ⟨M2, hM2⟩ : ∃ M2, M2 = M1 ++ new2 := ⟨_, rfl⟩
    rw [← hM2] at hx2 ⊢
    obtain ⟨q0, q1, q2, q3, hlM2⟩ := hx2.box4
    cases hr : risB ps n with
    | false =>
      have e : fromOk k ps = false := by unfold fromOk; rw [← hn, hr]; simp
      simp (config := {implicitDefEqProofs := false, maxDischargeDepth := 20}) (disch := first | omega | (simp only [lenE]; done) | (simp only [lenE]; omega) | rfl | (simp only [lenE, markR_len]; done) | (simp only [lenE, markR_len]; omega)) only [runE, mapE, listE, initT_5, initT_6, initT_7, initT_8, resV, oneV, binA, unA, reduceCtorEq, Nat.reduceEqDiff, Nat.reduceAdd, Nat.reduceLT, Nat.reduceLeDiff, Nat.reduceMul, Nat.reduceSub, ↓reduceIte, decide_true, decide_false, Bool.true_eq_false, Bool.false_eq_true, Bool.not_true, Bool.not_false, if_true, if_false, and_true, true_and, memE, celE, w64, Nat.zero_add, Nat.add_zero, Nat.mul_one, putL, and_self, ldn, bsl_none, goG_undef]
      rw [e, fromA_no e]
      refine ext_ansL (hx2.ext.one _ _) (OwnR.end' (l := []) rfl) (by omega) rfl (by simp)
    | true =>
      have mk : ∀ M : Mem, mksA M 3 8 [.int .i64 0] (.int .i64 (n : Int)) (.int .i64 (n : Int)) = some (.slice (some ⟨M.length, 0, none⟩) n 1, M ++ [⟨.own, 3, List.replicate n (.int .i64 0)⟩]) := fun M => mksA_eq rfl (by omega)
      have l2 := (hx2.intsV h1).len
      rw [← hn] at l2
      simp (config := {implicitDefEqProofs := false, maxDischargeDepth := 20}) (disch := first | omega | (simp only [lenE]; done) | (simp only [lenE]; omega) | rfl | (simp only [lenE, markR_len]; done) | (simp only [lenE, markR_len]; omega)) only [runE, mapE, listE, initT_5, initT_6, initT_7, initT_8, resV, oneV, binA, unA, reduceCtorEq, Nat.reduceEqDiff, Nat.reduceAdd, Nat.reduceLT, Nat.reduceLeDiff, Nat.reduceMul, Nat.reduceSub, ↓reduceIte, decide_true, decide_false, Bool.true_eq_false, Bool.false_eq_true, Bool.not_true, Bool.not_false, if_true, if_false, and_true, true_and, memE, celE, w64, Nat.zero_add, Nat.add_zero, Nat.mul_one, putL, and_self, ldn, q0, q1, q2, q3, l2, mk]
      have hu2 := hx2.intsV hu
      refine callH_rc (backward_rc _ u ps (((hu2.ext _).ext _).ext _)) ?_
      rintro r new3 ⟨rfl, rfl⟩
      simp (config := {implicitDefEqProofs := false, maxDischargeDepth := 20}) (disch := first | omega | (simp only [lenE]; done) | (simp only [lenE]; omega) | rfl | (simp only [lenE, markR_len]; done) | (simp only [lenE, markR_len]; omega)) only [runE, mapE, listE, initT_5, initT_6, initT_7, initT_8, resV, oneV, binA, unA, reduceCtorEq, Nat.reduceEqDiff, Nat.reduceAdd, Nat.reduceLT, Nat.reduceLeDiff, Nat.reduceMul, Nat.reduceSub, ↓reduceIte, decide_true, decide_false, Bool.true_eq_false, Bool.false_eq_true, Bool.not_true, Bool.not_false, if_true, if_false, and_true, true_and, memE, celE, w64, Nat.zero_add, Nat.add_zero, Nat.mul_one, putL, and_self, ldn]
      have rr : Rising ps n := risB_iff.1 hr
      have rn : Rising ps k.need.length := by rw [← hn]; exact rr
      obtain ⟨M3, hM3⟩ : ∃ M3, M3 = M2 ++ [⟨.own, 3, List.replicate n (.int .i64 0)⟩] ++ [⟨.own, 22, [.slice (some ⟨M2.length, 0, none⟩) n 1]⟩] ++ [⟨.own, 3, [.int .i64 (n : Int)]⟩] ++ [⟨.own, 22, [u]⟩] := ⟨_, rfl⟩
      have f0 : FI (roM m ++ [⟨.own, 28, [v1, v2, v3, v4]⟩]) M2.length (M2.length + 1) (M2.length + 1 + 1) (M2.length + 1 + 1 + 1) n k.need ps u 0 M3 := by
        rw [hM3]
        refine ⟨(((hx2.one _ _).one _ _).one _ _).one _ _, ?_, by simp, (at4 _ _ _ _ _).1, (at4 _ _ _ _ _).2⟩
        have := (((OwnR.zeros (m := M2) (n := n) rfl).ext [⟨.own, 22, [.slice (some ⟨M2.length, 0, none⟩) n 1]⟩]).ext [⟨.own, 3, [.int .i64 (n : Int)]⟩]).ext [⟨.own, 22, [u]⟩]
        rw [backI, ← hn]
        exact this
      refine range_gen (fun s => s.t 2 = .pointer (some ⟨m.length, 0, none⟩) ∧ s.t 6 = .pointer (some ⟨M2.length + 1, 0, none⟩) ∧ s.t 7 = .pointer (some ⟨M2.length + 1 + 1, 0, none⟩) ∧
        s.t 29 = .func (.func 67) #[] #[.pointer (some ⟨M2.length + 1 + 1 + 1, 0, none⟩)] ∧ s.m = M3) ⟨rfl, rfl, rfl, rfl, hM3.symm⟩ ?_
      rintro s ⟨t2, t6, t7, t29, tm⟩
      refine range_run mixed (gf := 67) (caps := #[.pointer (some ⟨M2.length + 1 + 1 + 1, 0, none⟩)]) (by rw [ev_tmp]; exact t29) ps.length _
        (FI (roM m ++ [⟨.own, 28, [v1, v2, v3, v4]⟩]) M2.length (M2.length + 1) (M2.length + 1 + 1) (M2.length + 1 + 1 + 1) n k.need ps u)
        (iter_ints hu2 hl fun i M hM => ⟨by rw [rd_ownB hM.pd]; rfl, hM.g.intsV hu⟩) (fun _ => rfl) (by rw [tm]; exact f0) ?_ ?_
      · intro i M hi hM
        have hb := rr.bd (ps.length - 1 - i) (by omega)
        obtain ⟨p, hp⟩ : ∃ p : Nat, ps.getD (ps.length - 1 - i) 0 = (p : Int) := ⟨(ps.getD (ps.length - 1 - i) 0).toNat, by omega⟩
        have hpn : (ps.getD (ps.length - 1 - i) 0).toNat = p := by omega
        have nx := nxtP_in rr (i := ps.length - 1 - i) (by omega)
        have eb := endB_nxt n ps hi
        obtain ⟨w, hw⟩ : ∃ w, w = endB n ps i := ⟨_, rfl⟩
        rw [hpn, ← eb, ← hw] at nx
        obtain ⟨q0, q1, q2, q3, hlM3⟩ := hM.g.box4
        obtain ⟨c1, e1, d1⟩ := (hM.g.intsV h1).cut nx.1 (by omega)
        have rb : rdc M (M2.length + 1) 0 = some (.slice (some ⟨M2.length, 0, none⟩) n 1) := by rw [rd_ownB hM.pb]; rfl
        have rc : rdc M (M2.length + 1 + 1) 0 = some (.int .i64 (w : Int)) := by rw [rd_ownB hM.pc, hw]; rfl
        simp (config := {implicitDefEqProofs := false, maxDischargeDepth := 20}) (disch := first | omega | (simp only [lenE]; done) | (simp only [lenE]; omega) | rfl | (simp only [lenE, markR_len]; done) | (simp only [lenE, markR_len]; omega)) only [runE, mapE, listE, initT_5, initT_6, initT_7, initT_8, resV, oneV, binA, unA, reduceCtorEq, Nat.reduceEqDiff, Nat.reduceAdd, Nat.reduceLT, Nat.reduceLeDiff, Nat.reduceMul, Nat.reduceSub, ↓reduceIte, decide_true, decide_false, Bool.true_eq_false, Bool.false_eq_true, Bool.not_true, Bool.not_false, if_true, if_false, and_true, true_and, memE, celE, w64, Nat.zero_add, Nat.add_zero, Nat.mul_one, putL, and_self, ldn, t2, t6, t7, q0, rb, rc, e1, hp, setT_2]
        refine rcallH_rc (sumOf_cut_rc _ _ k.need d1 nx.1 (by omega) (b := 20) (by omega) (by omega) gd.need (by omega)) ?_
        rintro r new ⟨rfl, rfl⟩
        have m0 := hx2.len
        simp only [List.length_append, List.length_cons, List.length_nil, roM_len] at m0
        have st1 := hM.row.st (off := p) (x := sumR k.need p w) (by rw [backI_len]; omega)
        obtain ⟨M4, hM4⟩ : ∃ M4, M4 = M.set M2.length (rowB ((backI k.need ps i).set p (sumR k.need p w))) := ⟨_, rfl⟩
        rw [← hM4] at st1
        have oc : OwnR M4 (M2.length + 1 + 1) [(w : Int)] := by rw [hM4, hw]; exact hM.pc.set_ne (by omega)
        have st2 := oc.st (off := 0) (x := (p : Int)) (by simp)
        have ia : iadA 1 (.slice (some ⟨M2.length, 0, none⟩) n 1) (.int .i64 (p : Int)) = some (.pointer (some ⟨M2.length, p, none⟩)) := by
          have := iadA_in (id := M2.length) (off := 0) (n := n) (fl := 1) (sz := 1) (k := .i64) (j := p) (by omega)
          simpa using this
        simp (config := {implicitDefEqProofs := false, maxDischargeDepth := 20}) (disch := first | omega | (simp only [lenE]; done) | (simp only [lenE]; omega) | rfl | (simp only [lenE, markR_len]; done) | (simp only [lenE, markR_len]; omega)) only [runE, mapE, listE, initT_5, initT_6, initT_7, initT_8, resV, oneV, binA, unA, reduceCtorEq, Nat.reduceEqDiff, Nat.reduceAdd, Nat.reduceLT, Nat.reduceLeDiff, Nat.reduceMul, Nat.reduceSub, ↓reduceIte, decide_true, decide_false, Bool.true_eq_false, Bool.false_eq_true, Bool.not_true, Bool.not_false, if_true, if_false, and_true, true_and, memE, celE, w64, Nat.zero_add, Nat.add_zero, Nat.mul_one, putL, and_self, ldn, t7, ia, st1, st2, setT_2]
        rw [hM4]
        refine ⟨(hM.g.put (by simp [roM_len]; omega) _ _).put (by simp [roM_len]; omega) _ _, ?_, ?_, ?_, ?_⟩
        · rw [backI, hpn, ← hn, ← eb, ← hw]
          exact (OwnR.set_self hM.row).set_ne (by omega)
        · rw [List.getElem?_set_ne (by omega), List.getElem?_set_ne (by omega)]; exact hM.pb
        · rw [endB_s, hpn]
          exact OwnR.set_self (hM.pc.set_ne (by omega))
        · rw [List.getElem?_set_ne (by omega), List.getElem?_set_ne (by omega)]; exact hM.pd
      · intro M hM
        obtain ⟨w, hw⟩ : ∃ w, w = endB n ps ps.length := ⟨_, rfl⟩
        have hwn : w ≤ n := by rw [hw]; exact endB_in rr (Nat.le_refl _)
        obtain ⟨q0, q1, q2, q3, hlM3⟩ := hM.g.box4
        have rb : rdc M (M2.length + 1) 0 = some (.slice (some ⟨M2.length, 0, none⟩) n 1) := by rw [rd_ownB hM.pb]; rfl
        have rc : rdc M (M2.length + 1 + 1) 0 = some (.int .i64 (w : Int)) := by rw [rd_ownB hM.pc, hw]; rfl
        obtain ⟨c1, e1, d1⟩ := (hM.g.intsV h1).preB (hi := w) (by omega)
        simp (config := {implicitDefEqProofs := false, maxDischargeDepth := 20}) (disch := first | omega | (simp only [lenE]; done) | (simp only [lenE]; omega) | rfl | (simp only [lenE, markR_len]; done) | (simp only [lenE, markR_len]; omega)) only [runE, mapE, listE, initT_5, initT_6, initT_7, initT_8, resV, oneV, binA, unA, reduceCtorEq, Nat.reduceEqDiff, Nat.reduceAdd, Nat.reduceLT, Nat.reduceLeDiff, Nat.reduceMul, Nat.reduceSub, ↓reduceIte, decide_true, decide_false, Bool.true_eq_false, Bool.false_eq_true, Bool.not_true, Bool.not_false, if_true, if_false, and_true, true_and, memE, celE, w64, Nat.zero_add, Nat.add_zero, Nat.mul_one, putL, and_self, ldn, t2, t6, t7, q0, rb, rc, e1, Option.map_none]
        refine callH_rc (sumOf_cut_rc _ _ k.need d1 (Nat.zero_le _) (by omega) (b := 20) (by omega) (by omega) gd.need (by omega)) ?_
        rintro r new ⟨rfl, rfl⟩
        have ce := covers_end (b := 20) (by omega) gd.need rn
        rw [← hn, ← hw] at ce
        cases hcv : covers k.need ps with
        | false =>
          have e : fromOk k ps = false := by unfold fromOk; rw [hcv]; simp
          have pos := ce.2 hcv
          simp (config := {implicitDefEqProofs := false, maxDischargeDepth := 20}) (disch := first | omega | (simp only [lenE]; done) | (simp only [lenE]; omega) | rfl | (simp only [lenE, markR_len]; done) | (simp only [lenE, markR_len]; omega)) only [runE, mapE, listE, initT_5, initT_6, initT_7, initT_8, resV, oneV, binA, unA, reduceCtorEq, Nat.reduceEqDiff, Nat.reduceAdd, Nat.reduceLT, Nat.reduceLeDiff, Nat.reduceMul, Nat.reduceSub, ↓reduceIte, decide_true, decide_false, Bool.true_eq_false, Bool.false_eq_true, Bool.not_true, Bool.not_false, if_true, if_false, and_true, true_and, memE, celE, w64, Nat.zero_add, Nat.add_zero, Nat.mul_one, putL, and_self, ldn, bsl_none, gt_iff_lt, pos]
          rw [e, fromA_no e]
          exact ext_ansL (hM.g.ext.one _ _) (OwnR.end' (l := []) rfl) (by omega) rfl (by simp)
        | true =>
          have e : fromOk k ps = true := by unfold fromOk; rw [hg, hcv, ← hn, hr]; rfl
          have pos : ¬ (0 < sumR k.need 0 w) := fun hp => by have := ce.1 hp; rw [hcv] at this; cases this
          simp (config := {implicitDefEqProofs := false, maxDischargeDepth := 20}) (disch := first | omega | (simp only [lenE]; done) | (simp only [lenE]; omega) | rfl | (simp only [lenE, markR_len]; done) | (simp only [lenE, markR_len]; omega)) only [runE, mapE, listE, initT_5, initT_6, initT_7, initT_8, resV, oneV, binA, unA, reduceCtorEq, Nat.reduceEqDiff, Nat.reduceAdd, Nat.reduceLT, Nat.reduceLeDiff, Nat.reduceMul, Nat.reduceSub, ↓reduceIte, decide_true, decide_false, Bool.true_eq_false, Bool.false_eq_true, Bool.not_true, Bool.not_false, if_true, if_false, and_true, true_and, memE, celE, w64, Nat.zero_add, Nat.add_zero, Nat.mul_one, putL, and_self, ldn, gt_iff_lt, pos, t6, rb]
          rw [e, fromA_yes e]
          exact ext_ansL hM.g.ext (by rw [← back_from rn]; exact hM.row) (by omega) (by rw [fromL_len, hn]) (by rw [fromL_len]; omega)
end Go.Proofs.Ytonpeflncnccdaa.Ab
