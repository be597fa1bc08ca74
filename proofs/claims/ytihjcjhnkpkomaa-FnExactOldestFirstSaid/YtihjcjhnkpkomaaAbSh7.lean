/- Shelves: the issues that take the oldest units first, or the newest ones, by the program: one way through all uses. -/
import Derived.Test.YtihjcjhnkpkomaaAbSh6
import Derived.Test.YtihjcjhnkpkomaaShMath3
namespace Go.Proofs.Ytihjcjhnkpkomaa.Ab
open Go Go.RowKit
set_option linter.unusedVariables false
set_option linter.unusedSimpArgs false

def useF (nw : Bool) : Nat := if nw then 69 else 68
abbrev useV (t f : Int) : Value := .agg #[.int .i64 t, .int .i64 f]
theorem oldestUse_rc (m : Mem) (t : Int) : RC Try.prog 68 [.int .i64 t] m (AnsV (useV t 0)) := by
  refine rc_of_run mixed ok_impl_oldestUse (by simp) (go_start _ _ _ ?_)
  simp (config := {implicitDefEqProofs := false, maxDischargeDepth := 20}) (disch := first | omega | (simp only [lenE]; done) | (simp only [lenE]; omega) | rfl | (simp only [lenE, markR_len]; done) | (simp only [lenE, markR_len]; omega)) only [runE, mapE, listE, initT_5, initT_6, initT_7, initT_8, resV, oneV, binA, unA, reduceCtorEq, Nat.reduceEqDiff, Nat.reduceAdd, Nat.reduceLT, Nat.reduceLeDiff, Nat.reduceMul, Nat.reduceSub, ↓reduceIte, decide_true, decide_false, Bool.true_eq_false, Bool.false_eq_true, Bool.not_true, Bool.not_false, if_true, if_false, and_true, true_and, memE, celE, w64, Nat.zero_add, Nat.add_zero, Nat.mul_one, putL, and_self, ldn, c_impl_oldestUse, r_impl_oldestUse, bld2u, stP_agg2u]
  try simp only [List.append_assoc, List.cons_append, List.nil_append, List.append_nil]
  exact ⟨_, rfl, by (repeat (first | exact noRo_nil | assumption | apply noRo_own | apply noRo_dead | apply noRo_app)), rfl, by (repeat (first | exact noRo_nil | assumption | apply noRo_own | apply noRo_dead | apply noRo_app))⟩
theorem newestUse_rc (m : Mem) (t : Int) : RC Try.prog 69 [.int .i64 t] m (AnsV (useV t t)) := by
  refine rc_of_run mixed ok_impl_newestUse (by simp) (go_start _ _ _ ?_)
  simp (config := {implicitDefEqProofs := false, maxDischargeDepth := 20}) (disch := first | omega | (simp only [lenE]; done) | (simp only [lenE]; omega) | rfl | (simp only [lenE, markR_len]; done) | (simp only [lenE, markR_len]; omega)) only [runE, mapE, listE, initT_5, initT_6, initT_7, initT_8, resV, oneV, binA, unA, reduceCtorEq, Nat.reduceEqDiff, Nat.reduceAdd, Nat.reduceLT, Nat.reduceLeDiff, Nat.reduceMul, Nat.reduceSub, ↓reduceIte, decide_true, decide_false, Bool.true_eq_false, Bool.false_eq_true, Bool.not_true, Bool.not_false, if_true, if_false, and_true, true_and, memE, celE, w64, Nat.zero_add, Nat.add_zero, Nat.mul_one, putL, and_self, ldn, c_impl_newestUse, r_impl_newestUse, bld2u, stP_agg2u]
  try simp only [List.append_assoc, List.cons_append, List.nil_append, List.append_nil]
  exact ⟨_, rfl, by (repeat (first | exact noRo_nil | assumption | apply noRo_own | apply noRo_dead | apply noRo_app)), rfl, by (repeat (first | exact noRo_nil | assumption | apply noRo_own | apply noRo_dead | apply noRo_app))⟩
theorem useF_rc (m : Mem) (nw : Bool) (t : Nat) (z : Int) (hz : z = t) : RC Try.prog (useF nw) [.int .i64 z] m (AnsV (useV (t : Int) (colO nw t 0 : Nat))) := by
  subst hz
  cases nw with
  | true => exact newestUse_rc m t
  | false => exact oldestUse_rc m t
theorem useL_rc (m : Mem) (nw : Bool) (t : Nat) (z : Int) (hz : z = t) : RC Try.prog (useF (!nw)) [.int .i64 z] m (AnsV (useV (t : Int) (colO nw t t : Nat))) := by
  subst hz
  cases nw with
  | true =>
    have := oldestUse_rc m (t : Int)
    rw [show (0 : Int) = ((colO true t t : Nat) : Int) by unfold colO; simp] at this
    exact this
  | false => exact newestUse_rc m t
theorem aeq2u (a b x y : Int) : aeqA false 2 (.agg #[.int .i64 a, .int .i64 b]) (.agg #[.int .i64 x, .int .i64 y]) = some (.bool ((a == x) && ((b == y) && true))) := rfl
/-- The code within the scope, and what lies behind its label. -/
def scC9 : ACode := match c_impl_issueBy with
  | .seq _ (.scope c) => c
  | _ => .skip
def scY9 : ACode := match scC9 with
  | .seq _ (.seq _ (.seq _ (.seq _ (.seq _ (.seq _ y))))) => y
  | _ => .skip
def scR9 : ACode := .seq .skip scY9
theorem sc_find9 : findA scC9 0 = some scR9 := rfl
theorem lab_rest9 {k : Kont} {s : St} (h : goC Try.prog 75 scR9 k s) : goC Try.prog 75 (.label 0) (.seq scY9 k) s := by
  rw [scR9, goC_seq, goC_skip] at h
  rw [goC_label]
  exact h
theorem issueBy_rc (m : Mem) (v : Value) (s : Sh) (nw : Bool) (h : ShA m v s) (hg : GoodSh s) :
    RC Try.prog 67 [v, .func (.func (useF nw)) #[] #[], .func (.func (useF (!nw))) #[] #[], .int .i64 (if nw then -1 else 1)] m (AnsO m (TabO (allG s nw s.need.length).2) _root_.id) := by
  refine rc_of_run mixed ok_impl_issueBy (by simp) (go_start _ _ _ ?_)
  obtain ⟨a, b, rfl, ha, hb⟩ := h.ro
  have hla := hg.la
  have n8 := hg.n8
  have l1 := hg.l1
  have l8 := hg.l8
  have hX := (Ext.refl m).one 27 [.int .i64 s.life, a, b, .int .i64 s.waste, .int .i64 s.lost]
  obtain ⟨n, hn⟩ : ∃ n, n = s.need.length := ⟨_, rfl⟩
  obtain ⟨Q, hQ⟩ : ∃ Q, Q = bodyQ r_impl_issueBy (newQ m (AnsO m (TabO (allG s nw s.need.length).2) _root_.id)) := ⟨_, rfl⟩
  have fin : ∀ (fu t k f : Nat) (s' : St) (M : Mem) (U : List (List Int)) (A N : List Int) (lo hi idT ia ib fa fb l12 l13 l14 : Nat) (R F : Nat → Nat),
      s'.m = M → Ext m M → m.length ≤ lo → TabX U lo hi M idT R F → OwnB M l12 27 [.int .i64 s.life, .slice (some ⟨ia, 0, none⟩) s.need.length fa, .slice (some ⟨ib, 0, none⟩) s.need.length fb, .int .i64 s.waste, .int .i64 s.lost] →
      OwnR M ia A → OwnR M ib N → OwnB M l13 97 [.int .i64 (t : Int), .int .i64 (f : Int)] → OwnB M l14 97 [.int .i64 (s.need.length : Int), .int .i64 ((colO nw s.need.length 0 : Nat) : Int)] →
      hi ≤ ia → hi ≤ ib → ia ≠ ib → ia < l12 → ib < l12 → l12 < l13 → l13 < l14 →
      s'.t 1 = .func (.func (useF nw)) #[] #[] → s'.t 2 = .func (.func (useF (!nw))) #[] #[] → s'.t 3 = .int .i64 (if nw then -1 else 1) → s'.t 10 = .slice (some ⟨idT, 0, none⟩) s.need.length 1 → s'.t 12 = .pointer (some ⟨l12, 0, none⟩) → s'.t 13 = .pointer (some ⟨l13, 0, none⟩) → s'.t 14 = .pointer (some ⟨l14, 0, none⟩) →
      GoAt s nw t k U A N → t ≤ s.need.length → (t < s.need.length → k ≤ t) → (t = s.need.length → k = 0) → f = colO nw t k → t = s.need.length → goC Try.prog 75 scR9 (.scope fu scC9 (.done Q)) s' := by
    intro fu t k f s' M U A N lo hi idT ia ib fa fb l12 l13 l14 R F tm hX hml hU o12 oa ob o13 o14 ga gb hne a1 a2 a3 a4 t1 t2 t3 t10 t12 t13 t14 hG ht hk hk0 hf htn
    subst htn
    obtain rfl := hk0 rfl
    subst hf
    obtain ⟨KK, hKK⟩ : ∃ KK, KK = Kont.scope fu scC9 (.done Q) := ⟨_, rfl⟩
    rw [← hKK]
    simp only [scR9, scY9, scC9, c_impl_issueBy]
    simp (config := {implicitDefEqProofs := false, maxDischargeDepth := 20}) (disch := first | omega | (simp only [lenE]; done) | (simp only [lenE]; omega) | rfl | (simp only [lenE, markR_len]; done) | (simp only [lenE, markR_len]; omega)) only [runE, listE, initT_5, initT_6, initT_7, initT_8, resV, oneV, binA, unA, reduceCtorEq, Nat.reduceEqDiff, Nat.reduceAdd, Nat.reduceLT, Nat.reduceLeDiff, Nat.reduceMul, Nat.reduceSub, ↓reduceIte, decide_true, decide_false, Bool.true_eq_false, Bool.false_eq_true, Bool.not_true, Bool.not_false, if_true, if_false, and_true, true_and, memE, celE, w64, Nat.zero_add, Nat.add_zero, Nat.mul_one, putL, and_self, goC_both, row_aeq, ldn, tm, t10, t13, t14, o13.rd, o14.rd, aeq2u, beq_self_eq_true, Bool.true_and, Bool.and_true]
    rw [hKK, hQ]
    simp (config := {implicitDefEqProofs := false, maxDischargeDepth := 20}) (disch := first | omega | (simp only [lenE]; done) | (simp only [lenE]; omega) | rfl | (simp only [lenE, markR_len]; done) | (simp only [lenE, markR_len]; omega)) only [runE, listE, initT_5, initT_6, initT_7, initT_8, resV, oneV, binA, unA, reduceCtorEq, Nat.reduceEqDiff, Nat.reduceAdd, Nat.reduceLT, Nat.reduceLeDiff, Nat.reduceMul, Nat.reduceSub, ↓reduceIte, decide_true, decide_false, Bool.true_eq_false, Bool.false_eq_true, Bool.not_true, Bool.not_false, if_true, if_false, and_true, true_and, memE, celE, w64, Nat.zero_add, Nat.add_zero, Nat.mul_one, putL, and_self, goC_both, row_aeq, ldn, r_impl_issueBy, goX_scope_ret, tm]
    have e := hG.done
    subst e
    obtain ⟨q1, q2, q3⟩ := allG_ok hg nw s.need.length (Nat.le_refl _)
    have ql := allG_len s nw s.need.length
    have h1 := o12.lt
    refine ext_ansO (f := _root_.id) hX fun M' hM => ?_
    have := (hU.at_ (M' := M') fun i h1 h2 => hM i (by omega) (by omega)).obj (fl := 1) (by omega) (by
      have := tsz_bd9 (T := (allG s nw s.need.length).2) (n := 8) (fun j hj => by rw [q3 j (by omega)]; exact n8)
      omega)
    rw [ql] at this
    exact TabO.wide _ _ _ _ _ _ _ hml (by omega) this
  have rest : ∀ (fu t k f : Nat) (s' : St) (M : Mem) (U : List (List Int)) (A N : List Int) (lo hi idT ia ib fa fb l12 l13 l14 : Nat) (R F : Nat → Nat),
      s'.m = M → Ext m M → m.length ≤ lo → TabX U lo hi M idT R F → OwnB M l12 27 [.int .i64 s.life, .slice (some ⟨ia, 0, none⟩) s.need.length fa, .slice (some ⟨ib, 0, none⟩) s.need.length fb, .int .i64 s.waste, .int .i64 s.lost] →
      OwnR M ia A → OwnR M ib N → OwnB M l13 97 [.int .i64 (t : Int), .int .i64 (f : Int)] → OwnB M l14 97 [.int .i64 (s.need.length : Int), .int .i64 ((colO nw s.need.length 0 : Nat) : Int)] →
      hi ≤ ia → hi ≤ ib → ia ≠ ib → ia < l12 → ib < l12 → l12 < l13 → l13 < l14 →
      s'.t 1 = .func (.func (useF nw)) #[] #[] → s'.t 2 = .func (.func (useF (!nw))) #[] #[] → s'.t 3 = .int .i64 (if nw then -1 else 1) → s'.t 10 = .slice (some ⟨idT, 0, none⟩) s.need.length 1 → s'.t 12 = .pointer (some ⟨l12, 0, none⟩) → s'.t 13 = .pointer (some ⟨l13, 0, none⟩) → s'.t 14 = .pointer (some ⟨l14, 0, none⟩) →
      GoAt s nw t k U A N → t ≤ s.need.length → (t < s.need.length → k ≤ t) → (t = s.need.length → k = 0) → f = colO nw t k → (s.need.length - t) * 20 + (20 - k) < fu + 21 → goC Try.prog 75 scR9 (.scope fu scC9 (.done Q)) s' := by
    intro fu
    induction fu with
    | zero =>
      intro t k f s' M U A N lo hi idT ia ib fa fb l12 l13 l14 R F tm hX hml hU o12 oa ob o13 o14 ga gb hne a1 a2 a3 a4 t1 t2 t3 t10 t12 t13 t14 hG ht hk hk0 hf hfu
      rcases Nat.lt_or_ge t s.need.length with e | e
      · have := hk e; omega
      · exact fin 0 t k f s' M U A N lo hi idT ia ib fa fb l12 l13 l14 R F tm hX hml hU o12 oa ob o13 o14 ga gb hne a1 a2 a3 a4 t1 t2 t3 t10 t12 t13 t14 hG ht hk hk0 hf (by omega)
    | succ fu ih =>
      intro t k f s' M U A N lo hi idT ia ib fa fb l12 l13 l14 R F tm hX hml hU o12 oa ob o13 o14 ga gb hne a1 a2 a3 a4 t1 t2 t3 t10 t12 t13 t14 hG ht hk hk0 hf hfu
      rcases Nat.lt_or_ge t s.need.length with htl | htl
      · have hkt := hk htl
        have hft : f ≤ t := by rw [hf]; exact colO_le hkt
        have hne3 : ((t : Int) == (s.need.length : Int)) = false := by rw [beq_eq_false_iff_ne]; omega
        have ok := gAt_ok hg nw htl (k := k) (by omega)
        have lA : A.length = s.need.length := by rw [hG.a]; exact ok.la
        have lN := hG.nl
        have bA : 0 ≤ A.getD f 0 ∧ A.getD f 0 ≤ 20 := by rw [hG.a]; exact ok.a f (by omega)
        have bN : 0 ≤ N.getD t 0 ∧ N.getD t 0 ≤ 20 := by rw [hG.n1]; exact ok.r
        have iA := oa.ints (by omega) fa
        have iN := ob.ints (by omega) fb
        rw [lA] at iA
        rw [lN] at iN
        have ul := hG.ul
        have urow := hG.len hg ht (fun _ => by omega) t htl
        have h12 := o12.lt
        have h14 := o14.lt
        obtain ⟨KK, hKK⟩ : ∃ KK, KK = Kont.scope (fu + 1) scC9 (.done Q) := ⟨_, rfl⟩
        rw [← hKK]
        simp only [scR9, scY9, scC9, c_impl_issueBy]
        simp (config := {implicitDefEqProofs := false, maxDischargeDepth := 20}) (disch := first | omega | (simp only [lenE]; done) | (simp only [lenE]; omega) | rfl | (simp only [lenE, markR_len]; done) | (simp only [lenE, markR_len]; omega)) only [runE, listE, initT_5, initT_6, initT_7, initT_8, resV, oneV, binA, unA, reduceCtorEq, Nat.reduceEqDiff, Nat.reduceAdd, Nat.reduceLT, Nat.reduceLeDiff, Nat.reduceMul, Nat.reduceSub, ↓reduceIte, decide_true, decide_false, Bool.true_eq_false, Bool.false_eq_true, Bool.not_true, Bool.not_false, if_true, if_false, and_true, true_and, memE, celE, w64, Nat.zero_add, Nat.add_zero, Nat.mul_one, putL, and_self, goC_both, row_aeq, ldn, tm, t10, t12, t13, t14, o12.rd, o13.rd, o14.rd, aeq2u, hne3, Bool.false_and]
        refine callH_rc (mostUnits_rc M s _ _ A N f t iA iN (by omega) (by omega) (by omega) ⟨by omega, l8⟩) ?_
        rintro r n1 ⟨rfl, nr1⟩
        obtain ⟨u, hu⟩ : ∃ u, u = most9 s.life A N t f := ⟨_, rfl⟩
        have ub : 0 ≤ u ∧ u ≤ 20 := by
          have := takeG_bd ok (life := s.life) (t := t) (f := f) (by omega)
          have := ok.r
          rw [hu, hG.take f]; omega
        rw [← hu]
        have hX1 := hX.app nr1
        have hU1 := hU.ext (by omega) n1
        have o121 := o12.ext n1
        have oa1 := oa.ext n1
        have ob1 := ob.ext n1
        have o131 := o13.ext n1
        have o141 := o14.ext n1
        obtain ⟨M1, hM1⟩ : ∃ M1, M1 = M ++ n1 := ⟨_, rfl⟩
        rw [← hM1] at hX1 hU1 o121 oa1 ob1 o131 o141 ⊢
        have hrow := hU1.row (j := t) (by omega) (by omega)
        rw [urow] at hrow
        have i1 : iadA 1 (.slice (some ⟨idT, 0, none⟩) s.need.length 1) (.int .i64 (t : Int)) = some (.pointer (some ⟨idT, t, none⟩)) := iad0 rfl (by omega)
        have i2 : iadA 1 (.slice (some ⟨R t, 0, none⟩) s.need.length (F t)) (.int .i64 (f : Int)) = some (.pointer (some ⟨R t, f, none⟩)) := iad0 rfl (by omega)
        have hRt := hU1.2.2.2.1 t (by omega)
        have sR := hRt.2.2.st (off := f) (x := u) (by omega)
        simp (config := {implicitDefEqProofs := false, maxDischargeDepth := 20}) (disch := first | omega | (simp only [lenE]; done) | (simp only [lenE]; omega) | rfl | (simp only [lenE, markR_len]; done) | (simp only [lenE, markR_len]; omega)) only [runE, listE, initT_5, initT_6, initT_7, initT_8, resV, oneV, binA, unA, reduceCtorEq, Nat.reduceEqDiff, Nat.reduceAdd, Nat.reduceLT, Nat.reduceLeDiff, Nat.reduceMul, Nat.reduceSub, ↓reduceIte, decide_true, decide_false, Bool.true_eq_false, Bool.false_eq_true, Bool.not_true, Bool.not_false, if_true, if_false, and_true, true_and, memE, celE, w64, Nat.zero_add, Nat.add_zero, Nat.mul_one, putL, and_self, goC_both, row_aeq, ldn, tm, t10, t12, t13, t14, o131.rd, i1, hrow.1, i2, sR]
        have hU2 := tabX_put hU1 (s := t) (r := (U.getD t []).set f u) (by omega) (by rw [List.length_set])
        have hX2 := hX1.put (id := R t) (by omega) 3 (((U.getD t []).set f u).map (Value.int .i64))
        have o122 := o121.set_ne (id := R t) (by omega) (Ab.rowB ((U.getD t []).set f u))
        have oa2 : OwnR (M1.set (R t) (Ab.rowB ((U.getD t []).set f u))) ia A := oa1.set_ne (by omega)
        have ob2 : OwnR (M1.set (R t) (Ab.rowB ((U.getD t []).set f u))) ib N := ob1.set_ne (by omega)
        have o132 := o131.set_ne (id := R t) (by omega) (Ab.rowB ((U.getD t []).set f u))
        have o142 := o141.set_ne (id := R t) (by omega) (Ab.rowB ((U.getD t []).set f u))
        obtain ⟨M2, hM2⟩ : ∃ M2 : Mem, M2 = M1.set (R t) (Ab.rowB ((U.getD t []).set f u)) := ⟨_, rfl⟩
        rw [← hM2] at hU2 hX2 o122 oa2 ob2 o132 o142
        try rw [← hM2]
        simp (config := {implicitDefEqProofs := false, maxDischargeDepth := 20}) (disch := first | omega | (simp only [lenE]; done) | (simp only [lenE]; omega) | rfl | (simp only [lenE, markR_len]; done) | (simp only [lenE, markR_len]; omega)) only [runE, listE, initT_5, initT_6, initT_7, initT_8, resV, oneV, binA, unA, reduceCtorEq, Nat.reduceEqDiff, Nat.reduceAdd, Nat.reduceLT, Nat.reduceLeDiff, Nat.reduceMul, Nat.reduceSub, ↓reduceIte, decide_true, decide_false, Bool.true_eq_false, Bool.false_eq_true, Bool.not_true, Bool.not_false, if_true, if_false, and_true, true_and, memE, celE, w64, Nat.zero_add, Nat.add_zero, Nat.mul_one, putL, and_self, goC_both, row_aeq, ldn, t12, t13, o122.rd, o132.rd]
        have tk := takeUnits_ac M2 s ia ib fa fb A N f t u oa2 ob2 hne (by omega) (by omega) bA bN ⟨by omega, by omega⟩
        rw [lA, lN] at tk
        refine callH_ac tk ?_
        rintro r M9 ⟨RR, nrR, rfl⟩
        have la2 := oa2.lt
        have lb2 := ob2.lt
        have hX3 := ((hX2.put (id := ia) (by omega) 3 ((A.set f (A.getD f 0 - u)).map (Value.int .i64))).put (id := ib) (by omega) 3 ((N.set t (N.getD t 0 - u)).map (Value.int .i64))).app nrR
        have o123 := ((o122.set_ne (id := ia) (by omega) (Ab.rowB (A.set f (A.getD f 0 - u)))).set_ne (id := ib) (by omega) (Ab.rowB (N.set t (N.getD t 0 - u)))).ext RR
        have o133 := ((o132.set_ne (id := ia) (by omega) (Ab.rowB (A.set f (A.getD f 0 - u)))).set_ne (id := ib) (by omega) (Ab.rowB (N.set t (N.getD t 0 - u)))).ext RR
        have o143 := ((o142.set_ne (id := ia) (by omega) (Ab.rowB (A.set f (A.getD f 0 - u)))).set_ne (id := ib) (by omega) (Ab.rowB (N.set t (N.getD t 0 - u)))).ext RR
        have oa3 : OwnR ((M2.set ia (Ab.rowB (A.set f (A.getD f 0 - u)))).set ib (Ab.rowB (N.set t (N.getD t 0 - u))) ++ RR) ia (A.set f (A.getD f 0 - u)) := (OwnR.set_ne oa2.set_self (Ne.symm hne)).ext _
        have ob3 : OwnR ((M2.set ia (Ab.rowB (A.set f (A.getD f 0 - u)))).set ib (Ab.rowB (N.set t (N.getD t 0 - u))) ++ RR) ib (N.set t (N.getD t 0 - u)) := (OwnR.set_self (ob2.set_ne hne)).ext _
        have hU3 : TabX (U.set t ((U.getD t []).set f u)) lo hi ((M2.set ia (Ab.rowB (A.set f (A.getD f 0 - u)))).set ib (Ab.rowB (N.set t (N.getD t 0 - u))) ++ RR) idT R F := by
          have := hU2.at_ (M' := (M2.set ia (Ab.rowB (A.set f (A.getD f 0 - u)))).set ib (Ab.rowB (N.set t (N.getD t 0 - u)))) fun i h1 h2 => by rw [List.getElem?_set_ne (by omega), List.getElem?_set_ne (by omega)]
          exact this.ext (by simp only [List.length_set]; omega) _
        obtain ⟨M3, hM3⟩ : ∃ M3 : Mem, M3 = (M2.set ia (Ab.rowB (A.set f (A.getD f 0 - u)))).set ib (Ab.rowB (N.set t (N.getD t 0 - u))) ++ RR := ⟨_, rfl⟩
        rw [← hM3] at hX3 o123 o133 o143 oa3 ob3 hU3 ⊢
        have hG1 := hG.step hg htl hkt hf hu
        have l133 := o133.lt
        have l143 := o143.lt
        simp (config := {implicitDefEqProofs := false, maxDischargeDepth := 20}) (disch := first | omega | (simp only [lenE]; done) | (simp only [lenE]; omega) | rfl | (simp only [lenE, markR_len]; done) | (simp only [lenE, markR_len]; omega)) only [runE, listE, initT_5, initT_6, initT_7, initT_8, resV, oneV, binA, unA, reduceCtorEq, Nat.reduceEqDiff, Nat.reduceAdd, Nat.reduceLT, Nat.reduceLeDiff, Nat.reduceMul, Nat.reduceSub, ↓reduceIte, decide_true, decide_false, Bool.true_eq_false, Bool.false_eq_true, Bool.not_true, Bool.not_false, if_true, if_false, and_true, true_and, memE, celE, w64, Nat.zero_add, Nat.add_zero, Nat.mul_one, putL, and_self, goC_both, row_aeq, ldn, t1, t2, t3, t13, o133.rd]
        have KL := useL_rc M3 nw t (t : Int) rfl
        refine rcallH_rc KL ?_
        rintro r n4 ⟨rfl, nr4⟩
        have hX4 := hX3.app nr4
        have o124 := o123.ext n4
        have oa4 := oa3.ext n4
        have ob4 := ob3.ext n4
        have o134 := o133.ext n4
        have o144 := o143.ext n4
        have hU4 := hU3.ext (by omega) n4
        obtain ⟨M4, hM4⟩ : ∃ M4, M4 = M3 ++ n4 := ⟨_, rfl⟩
        have l4 : M4.length = M3.length + n4.length := by rw [hM4, List.length_append]
        rw [← hM4] at hX4 hU4 o124 oa4 ob4 o134 o144 ⊢
        by_cases hkt2 : k = t
        · have el : (((f : Nat) : Int) == ((colO nw t t : Nat) : Int)) = true := by rw [hf, hkt2]; exact beq_self_eq_true _
          simp (config := {implicitDefEqProofs := false, maxDischargeDepth := 20}) (disch := first | omega | (simp only [lenE]; done) | (simp only [lenE]; omega) | rfl | (simp only [lenE, markR_len]; done) | (simp only [lenE, markR_len]; omega)) only [runE, listE, initT_5, initT_6, initT_7, initT_8, resV, oneV, binA, unA, reduceCtorEq, Nat.reduceEqDiff, Nat.reduceAdd, Nat.reduceLT, Nat.reduceLeDiff, Nat.reduceMul, Nat.reduceSub, ↓reduceIte, decide_true, decide_false, Bool.true_eq_false, Bool.false_eq_true, Bool.not_true, Bool.not_false, if_true, if_false, and_true, true_and, memE, celE, w64, Nat.zero_add, Nat.add_zero, Nat.mul_one, putL, and_self, goC_both, row_aeq, ldn, t1, t2, t3, t13, o134.rd, aeq2u, el, beq_self_eq_true, Bool.true_and, Bool.and_true]
          have KF := useF_rc M4 nw (t + 1) ((t : Int) + 1) (by omega)
          refine callH_rc KF ?_
          rintro r n5 ⟨rfl, nr5⟩
          have o135 := o134.ext n5
          have st := o135.st (off := 0) (vs := [.int .i64 ((t + 1 : Nat) : Int), .int .i64 ((colO nw (t + 1) 0 : Nat) : Int)]) (by simp) rfl
          simp (config := {implicitDefEqProofs := false, maxDischargeDepth := 20}) (disch := first | omega | (simp only [lenE]; done) | (simp only [lenE]; omega) | rfl | (simp only [lenE, markR_len]; done) | (simp only [lenE, markR_len]; omega)) only [runE, listE, initT_5, initT_6, initT_7, initT_8, resV, oneV, binA, unA, reduceCtorEq, Nat.reduceEqDiff, Nat.reduceAdd, Nat.reduceLT, Nat.reduceLeDiff, Nat.reduceMul, Nat.reduceSub, ↓reduceIte, decide_true, decide_false, Bool.true_eq_false, Bool.false_eq_true, Bool.not_true, Bool.not_false, if_true, if_false, and_true, true_and, memE, celE, w64, Nat.zero_add, Nat.add_zero, Nat.mul_one, putL, and_self, goC_both, row_aeq, ldn, t13, stP_agg2u, st]
          rw [hKK]
          simp (config := {implicitDefEqProofs := false, maxDischargeDepth := 20}) (disch := first | omega | (simp only [lenE]; done) | (simp only [lenE]; omega) | rfl | (simp only [lenE, markR_len]; done) | (simp only [lenE, markR_len]; omega)) only [runE, listE, initT_5, initT_6, initT_7, initT_8, resV, oneV, binA, unA, reduceCtorEq, Nat.reduceEqDiff, Nat.reduceAdd, Nat.reduceLT, Nat.reduceLeDiff, Nat.reduceMul, Nat.reduceSub, ↓reduceIte, decide_true, decide_false, Bool.true_eq_false, Bool.false_eq_true, Bool.not_true, Bool.not_false, if_true, if_false, and_true, true_and, memE, celE, w64, Nat.zero_add, Nat.add_zero, Nat.mul_one, putL, and_self, goC_both, row_aeq, ldn, goC_goto, goX_seq_goto, goX_block_goto, goX_scope_goto, sc_find9, goJ_some]
          have hG2 : GoAt s nw (t + 1) 0 (U.set t ((U.getD t []).set f u)) (A.set f (A.getD f 0 - u)) (N.set t (N.getD t 0 - u)) := by
            rw [hkt2] at hG1
            exact hG1.roll htl
          have hU5 : TabX (U.set t ((U.getD t []).set f u)) lo hi ((M4 ++ n5).set l13 (⟨.own, 97, [.int .i64 ((t + 1 : Nat) : Int), .int .i64 ((colO nw (t + 1) 0 : Nat) : Int)]⟩ : Blk)) idT R F := (hU4.ext (by omega) n5).at_ fun i h1 h2 => by rw [List.getElem?_set_ne (by omega)]
          exact ih (t + 1) 0 (colO nw (t + 1) 0) _ _ _ _ _ lo hi idT ia ib fa fb l12 l13 l14 R F rfl ((hX4.app nr5).put (by omega) _ _) hml hU5 ((o124.ext n5).set_ne (by omega) _) (OwnR.set_ne (oa4.ext n5) (by omega)) (OwnR.set_ne (ob4.ext n5) (by omega)) (o135.set_self _ _) ((o144.ext n5).set_ne (by omega) _) ga gb hne a1 a2 a3 a4 (by simp only [put_t, put_t', put_m, putT_t, putT_t', putT_m, init_t, init_m, initT_0, initT_1, initT_2, initT_3, initT_4, initT_5, initT_6, initT_7, initT_8, Nat.reduceEqDiff, ↓reduceIte, t1]) (by simp only [put_t, put_t', put_m, putT_t, putT_t', putT_m, init_t, init_m, initT_0, initT_1, initT_2, initT_3, initT_4, initT_5, initT_6, initT_7, initT_8, Nat.reduceEqDiff, ↓reduceIte, t2]) (by simp only [put_t, put_t', put_m, putT_t, putT_t', putT_m, init_t, init_m, initT_0, initT_1, initT_2, initT_3, initT_4, initT_5, initT_6, initT_7, initT_8, Nat.reduceEqDiff, ↓reduceIte, t3]) (by simp only [put_t, put_t', put_m, putT_t, putT_t', putT_m, init_t, init_m, initT_0, initT_1, initT_2, initT_3, initT_4, initT_5, initT_6, initT_7, initT_8, Nat.reduceEqDiff, ↓reduceIte, t10]) (by simp only [put_t, put_t', put_m, putT_t, putT_t', putT_m, init_t, init_m, initT_0, initT_1, initT_2, initT_3, initT_4, initT_5, initT_6, initT_7, initT_8, Nat.reduceEqDiff, ↓reduceIte, t12]) (by simp only [put_t, put_t', put_m, putT_t, putT_t', putT_m, init_t, init_m, initT_0, initT_1, initT_2, initT_3, initT_4, initT_5, initT_6, initT_7, initT_8, Nat.reduceEqDiff, ↓reduceIte, t13]) (by simp only [put_t, put_t', put_m, putT_t, putT_t', putT_m, init_t, init_m, initT_0, initT_1, initT_2, initT_3, initT_4, initT_5, initT_6, initT_7, initT_8, Nat.reduceEqDiff, ↓reduceIte, t14]) hG2 (by omega) (fun _ => by omega) (fun _ => rfl) rfl (by omega)
        · have el : (((f : Nat) : Int) == ((colO nw t t : Nat) : Int)) = false := by
            rw [beq_eq_false_iff_ne, hf]
            have := colO_inj (newest := nw) (j := k) (k := t) (t := t) (by omega) (Nat.le_refl _)
            omega
          obtain ⟨f2, hf2⟩ : ∃ f2, f2 = colO nw t (k + 1) := ⟨_, rfl⟩
          have ef : (f : Int) + (if nw then -1 else 1) = (f2 : Int) := by
            rw [hf, hf2]; unfold colO
            cases nw <;> simp <;> omega
          have hb : -1 ≤ (if nw then (-1 : Int) else 1) ∧ (if nw then (-1 : Int) else 1) ≤ 1 := by cases nw <;> simp
          obtain ⟨st9, hst9⟩ : ∃ z : Int, z = if nw then -1 else 1 := ⟨_, rfl⟩
          rw [← hst9] at ef hb t3
          have st := o134.st (off := 1) (vs := [.int .i64 (f2 : Int)]) (by simp) rfl
          simp (config := {implicitDefEqProofs := false, maxDischargeDepth := 20}) (disch := first | omega | (simp only [lenE]; done) | (simp only [lenE]; omega) | rfl | (simp only [lenE, markR_len]; done) | (simp only [lenE, markR_len]; omega)) only [runE, listE, initT_5, initT_6, initT_7, initT_8, resV, oneV, binA, unA, reduceCtorEq, Nat.reduceEqDiff, Nat.reduceAdd, Nat.reduceLT, Nat.reduceLeDiff, Nat.reduceMul, Nat.reduceSub, ↓reduceIte, decide_true, decide_false, Bool.true_eq_false, Bool.false_eq_true, Bool.not_true, Bool.not_false, if_true, if_false, and_true, true_and, memE, celE, w64, Nat.zero_add, Nat.add_zero, Nat.mul_one, putL, and_self, goC_both, row_aeq, ldn, t1, t2, t3, t13, o134.rd, aeq2u, el, beq_self_eq_true, Bool.true_and, Bool.and_true, Bool.and_false, Bool.false_and, ef, st]
          rw [hKK]
          simp (config := {implicitDefEqProofs := false, maxDischargeDepth := 20}) (disch := first | omega | (simp only [lenE]; done) | (simp only [lenE]; omega) | rfl | (simp only [lenE, markR_len]; done) | (simp only [lenE, markR_len]; omega)) only [runE, listE, initT_5, initT_6, initT_7, initT_8, resV, oneV, binA, unA, reduceCtorEq, Nat.reduceEqDiff, Nat.reduceAdd, Nat.reduceLT, Nat.reduceLeDiff, Nat.reduceMul, Nat.reduceSub, ↓reduceIte, decide_true, decide_false, Bool.true_eq_false, Bool.false_eq_true, Bool.not_true, Bool.not_false, if_true, if_false, and_true, true_and, memE, celE, w64, Nat.zero_add, Nat.add_zero, Nat.mul_one, putL, and_self, goC_both, row_aeq, ldn, goC_goto, goX_seq_goto, goX_block_goto, goX_scope_goto, sc_find9, goJ_some]
          have hU5 : TabX (U.set t ((U.getD t []).set f u)) lo hi (M4.set l13 (⟨.own, 97, [.int .i64 (t : Int), .int .i64 (f2 : Int)]⟩ : Blk)) idT R F := hU4.at_ fun i h1 h2 => by rw [List.getElem?_set_ne (by omega)]
          exact ih t (k + 1) f2 _ _ _ _ _ lo hi idT ia ib fa fb l12 l13 l14 R F rfl (hX4.put (by omega) _ _) hml hU5 (o124.set_ne (by omega) _) (OwnR.set_ne oa4 (by omega)) (OwnR.set_ne ob4 (by omega)) (o134.set_self _ _) (o144.set_ne (by omega) _) ga gb hne a1 a2 a3 a4 (by simp only [put_t, put_t', put_m, putT_t, putT_t', putT_m, init_t, init_m, initT_0, initT_1, initT_2, initT_3, initT_4, initT_5, initT_6, initT_7, initT_8, Nat.reduceEqDiff, ↓reduceIte, t1]) (by simp only [put_t, put_t', put_m, putT_t, putT_t', putT_m, init_t, init_m, initT_0, initT_1, initT_2, initT_3, initT_4, initT_5, initT_6, initT_7, initT_8, Nat.reduceEqDiff, ↓reduceIte, t2]) (by simp only [put_t, put_t', put_m, putT_t, putT_t', putT_m, init_t, init_m, initT_0, initT_1, initT_2, initT_3, initT_4, initT_5, initT_6, initT_7, initT_8, Nat.reduceEqDiff, ↓reduceIte, t3, hst9]) (by simp only [put_t, put_t', put_m, putT_t, putT_t', putT_m, init_t, init_m, initT_0, initT_1, initT_2, initT_3, initT_4, initT_5, initT_6, initT_7, initT_8, Nat.reduceEqDiff, ↓reduceIte, t10]) (by simp only [put_t, put_t', put_m, putT_t, putT_t', putT_m, init_t, init_m, initT_0, initT_1, initT_2, initT_3, initT_4, initT_5, initT_6, initT_7, initT_8, Nat.reduceEqDiff, ↓reduceIte, t12]) (by simp only [put_t, put_t', put_m, putT_t, putT_t', putT_m, init_t, init_m, initT_0, initT_1, initT_2, initT_3, initT_4, initT_5, initT_6, initT_7, initT_8, Nat.reduceEqDiff, ↓reduceIte, t13]) (by simp only [put_t, put_t', put_m, putT_t, putT_t', putT_m, init_t, init_m, initT_0, initT_1, initT_2, initT_3, initT_4, initT_5, initT_6, initT_7, initT_8, Nat.reduceEqDiff, ↓reduceIte, t14]) hG1 (by omega) (fun _ => by omega) (fun e => absurd e (by omega)) hf2 (by omega)
      · exact fin (fu + 1) t k f s' M U A N lo hi idT ia ib fa fb l12 l13 l14 R F tm hX hml hU o12 oa ob o13 o14 ga gb hne a1 a2 a3 a4 t1 t2 t3 t10 t12 t13 t14 hG ht hk hk0 hf (by omega)
  rw [hQ] at rest
  obtain ⟨FU, hFU⟩ : ∃ FU, FU = s.need.length * 20 + 100 := ⟨_, rfl⟩
  simp (config := {implicitDefEqProofs := false, maxDischargeDepth := 20}) (disch := first | omega | (simp only [lenE]; done) | (simp only [lenE]; omega) | rfl | (simp only [lenE, markR_len]; done) | (simp only [lenE, markR_len]; omega)) only [runE, listE, initT_5, initT_6, initT_7, initT_8, resV, oneV, binA, unA, reduceCtorEq, Nat.reduceEqDiff, Nat.reduceAdd, Nat.reduceLT, Nat.reduceLeDiff, Nat.reduceMul, Nat.reduceSub, ↓reduceIte, decide_true, decide_false, Bool.true_eq_false, Bool.false_eq_true, Bool.not_true, Bool.not_false, if_true, if_false, and_true, true_and, memE, celE, w64, Nat.zero_add, Nat.add_zero, Nat.mul_one, putL, and_self, goC_both, row_aeq, ldn, c_impl_issueBy, r_impl_issueBy, goC_scope]
  refine scope_run mixed FU ?_
  change goC _ _ _ (.scope FU scC9 (.done (bodyQ r_impl_issueBy (newQ m (AnsO m (TabO (allG s nw s.need.length).2) _root_.id))))) _
  obtain ⟨KK, hKK⟩ : ∃ KK, KK = Kont.scope FU scC9 (.done (bodyQ r_impl_issueBy (newQ m (AnsO m (TabO (allG s nw s.need.length).2) _root_.id)))) := ⟨_, rfl⟩
  rw [← hKK]
  obtain ⟨M0, hM0⟩ : ∃ M0, M0 = roM m ++ [⟨.own, 27, [.int .i64 s.life, a, b, .int .i64 s.waste, .int .i64 s.lost]⟩] := ⟨_, rfl⟩
  have o0 : OwnB M0 m.length 27 [.int .i64 s.life, a, b, .int .i64 s.waste, .int .i64 s.lost] := by rw [hM0]; exact OwnB.here (by simp [roM_len])
  have hl0 : M0.length = m.length + 1 := by rw [hM0]; simp [roM_len]
  rw [← hM0] at hX ⊢
  simp (config := {implicitDefEqProofs := false, maxDischargeDepth := 20}) (disch := first | omega | (simp only [lenE]; done) | (simp only [lenE]; omega) | rfl | (simp only [lenE, markR_len]; done) | (simp only [lenE, markR_len]; omega)) only [runE, listE, initT_5, initT_6, initT_7, initT_8, resV, oneV, binA, unA, reduceCtorEq, Nat.reduceEqDiff, Nat.reduceAdd, Nat.reduceLT, Nat.reduceLeDiff, Nat.reduceMul, Nat.reduceSub, ↓reduceIte, decide_true, decide_false, Bool.true_eq_false, Bool.false_eq_true, Bool.not_true, Bool.not_false, if_true, if_false, and_true, true_and, memE, celE, w64, Nat.zero_add, Nat.add_zero, Nat.mul_one, putL, and_self, goC_both, row_aeq, ldn, o0.rd, (hX.ints hb).len, mksA_eq (byt := 24) (n := s.need.length) rfl (by omega)]
  refine loop_inv mixed (fun s' => ∃ (k : Nat) (M : Mem) (cs : List Value) (R : Nat → Nat), k ≤ s.need.length ∧ s'.m = M ∧ Ext m M ∧ OwnB M m.length 27 [.int .i64 s.life, a, b, .int .i64 s.waste, .int .i64 s.lost] ∧ OwnB M M0.length 22 cs ∧ cs.length = s.need.length ∧ (∀ j, j < k → cs[j]? = some (.slice (some ⟨R j, 0, none⟩) s.need.length 1) ∧ M0.length < R j ∧ OwnR M (R j) (List.replicate s.need.length (0 : Int))) ∧ (∀ i j, i < j → j < k → R i < R j) ∧
      s'.t 1 = .func (.func (useF nw)) #[] #[] ∧ s'.t 2 = .func (.func (useF (!nw))) #[] #[] ∧ s'.t 3 = .int .i64 (if nw then -1 else 1) ∧ s'.t 4 = .pointer (some ⟨m.length, 0, none⟩) ∧ s'.t 9 = .int .i64 (s.need.length : Int) ∧ s'.t 10 = .slice (some ⟨M0.length, 0, none⟩) s.need.length 1 ∧ s'.t 22 = .int .i64 (s.need.length : Int) ∧ s'.t 23 = .int .i64 (k : Int)) (fun s' => s.need.length - (intOf (s'.t 23)).toNat)
    ⟨0, M0 ++ [⟨.own, 22, List.replicate s.need.length (.slice none 0 0)⟩], List.replicate s.need.length (.slice none 0 0), fun _ => 0, by omega, rfl, hX.one _ _, o0.ext _, OwnB.here rfl, by simp, fun j hj => absurd hj (by omega), fun i j _ hj => absurd hj (by omega), rfl, rfl, rfl, rfl, rfl, rfl, rfl, rfl⟩ ?_
  clear hX o0
  rintro s' ⟨k, M, cs, R, hk, tm, hX, o0, ho, hcl, hpre, hinc, t1, t2, t3, t4, t9, t10, t22, t23⟩
  by_cases hlt : k < s.need.length
  · have hlt' : (k : Int) < s.need.length := by omega
    have hst := (ho.ext [⟨.own, 3, List.replicate s.need.length (.int .i64 0)⟩]).st (off := k) (vs := [.slice (some ⟨M.length, 0, none⟩) s.need.length 1]) (by simp; omega) rfl
    have zr : OwnR (M ++ [⟨.own, 3, List.replicate s.need.length (.int .i64 0)⟩]) M.length (List.replicate s.need.length (0 : Int)) := OwnR.zeros rfl
    have hol := ho.lt
    simp (config := {implicitDefEqProofs := false, maxDischargeDepth := 20}) (disch := first | omega | (simp only [lenE]; done) | (simp only [lenE]; omega) | rfl | (simp only [lenE, markR_len]; done) | (simp only [lenE, markR_len]; omega)) only [runE, listE, initT_5, initT_6, initT_7, initT_8, resV, oneV, binA, unA, reduceCtorEq, Nat.reduceEqDiff, Nat.reduceAdd, Nat.reduceLT, Nat.reduceLeDiff, Nat.reduceMul, Nat.reduceSub, ↓reduceIte, decide_true, decide_false, Bool.true_eq_false, Bool.false_eq_true, Bool.not_true, Bool.not_false, if_true, if_false, and_true, true_and, memE, celE, w64, Nat.zero_add, Nat.add_zero, Nat.mul_one, putL, and_self, goC_both, row_aeq, ldn, tm, t1, t2, t3, t4, t9, t10, t22, t23, hlt', mksA_eq (byt := 8) (n := s.need.length) rfl (by omega), iad0 (n := s.need.length) rfl hlt, hst]
    refine ⟨⟨k + 1, _, _, fun j => if j = k then M.length else R j, by omega, rfl, (hX.one _ _).put (by omega) _ _, (o0.ext _).set_ne (by omega) _, (ho.ext _).set_self _ _, by simp [putL, hcl], fun j hj => ?_, fun i j hij hj => ?_, by simp⟩, ?_⟩
    · try simp only [putL]
      by_cases e : j = k
      · subst e
        simp only [if_true]
        refine ⟨by rw [List.getElem?_set_self (by omega)], by omega, ?_⟩
        exact OwnR.set_ne zr (by omega)
      · have hp := hpre j (by omega)
        simp only [if_neg e]
        refine ⟨by rw [List.getElem?_set_ne (by omega)]; exact hp.1, hp.2.1, OwnR.set_ne (hp.2.2.ext _) (by omega)⟩
    · show (if i = k then M.length else R i) < (if j = k then M.length else R j)
      by_cases e : j = k
      · subst e
        rw [if_neg (by omega), if_pos rfl]
        exact (hpre i (by omega)).2.2.lt
      · rw [if_neg (by omega), if_neg e]
        exact hinc i j hij (by omega)
    · simp [intOf]; omega
  · have hlt' : ¬ ((k : Int) < s.need.length) := by omega
    have e : k = s.need.length := by omega
    subst e
    have zlen : (List.replicate s.need.length (List.replicate s.need.length (0 : Int))).length = s.need.length := by simp
    have zat : ∀ j, j < s.need.length → (List.replicate s.need.length (List.replicate s.need.length (0 : Int))).getD j [] = (List.replicate s.need.length (0 : Int)) := fun j hj => by
      rw [List.getD_eq_getElem?_getD, List.getElem?_replicate, if_pos hj]; rfl
    have hcs : cs = rowsC (List.replicate s.need.length (List.replicate s.need.length (0 : Int))) R (fun _ => 1) := by
      apply List.ext_getElem?
      intro i
      by_cases hi : i < s.need.length
      · rw [(hpre i hi).1, rowsC_at (by rw [zlen]; exact hi), zat i hi, List.length_replicate]
      · rw [List.getElem?_eq_none (by omega), List.getElem?_eq_none (by rw [rowsC_len, zlen]; omega)]
    have hU : TabX (List.replicate s.need.length (List.replicate s.need.length (0 : Int))) M0.length M.length M M0.length R (fun _ => 1) := by
      refine ⟨Nat.le_refl _, ho.lt, by rw [← hcs]; exact ho, fun j hj => ?_, fun i j hi hj he => ?_⟩
      · rw [zlen] at hj
        have hp := hpre j hj
        rw [zat j hj]
        exact ⟨by omega, hp.2.2.lt, hp.2.2⟩
      · rw [zlen] at hi hj
        rcases Nat.lt_trichotomy i j with e | e | e
        · have := hinc i j e hj; omega
        · exact e
        · have := hinc j i e hi; omega
    simp (config := {implicitDefEqProofs := false, maxDischargeDepth := 20}) (disch := first | omega | (simp only [lenE]; done) | (simp only [lenE]; omega) | rfl | (simp only [lenE, markR_len]; done) | (simp only [lenE, markR_len]; omega)) only [runE, listE, initT_5, initT_6, initT_7, initT_8, resV, oneV, binA, unA, reduceCtorEq, Nat.reduceEqDiff, Nat.reduceAdd, Nat.reduceLT, Nat.reduceLeDiff, Nat.reduceMul, Nat.reduceSub, ↓reduceIte, decide_true, decide_false, Bool.true_eq_false, Bool.false_eq_true, Bool.not_true, Bool.not_false, if_true, if_false, and_true, true_and, memE, celE, w64, Nat.zero_add, Nat.add_zero, Nat.mul_one, putL, and_self, goC_both, row_aeq, ldn, tm, t1, t2, t3, t4, t9, t10, t22, t23, hlt', o0.rd]
    refine callH_rc (copyOf_rc M _ s (ShA.mk (hX.ints ha) (hX.ints hb)) (by omega) (by omega)) ?_
    rintro r n1 ⟨nr1, ia, ib, fa, fb, hne, ga, gb, rfl, oa, ob⟩
    have hX1 := (hX.app nr1).one 27 [.int .i64 s.life, .slice (some ⟨ia, 0, none⟩) s.arr.length fa, .slice (some ⟨ib, 0, none⟩) s.need.length fb, .int .i64 s.waste, .int .i64 s.lost]
    have la := oa.lt
    have lb := ob.lt
    rw [List.length_append] at la lb
    simp (config := {implicitDefEqProofs := false, maxDischargeDepth := 20}) (disch := first | omega | (simp only [lenE]; done) | (simp only [lenE]; omega) | rfl | (simp only [lenE, markR_len]; done) | (simp only [lenE, markR_len]; omega)) only [runE, listE, initT_5, initT_6, initT_7, initT_8, resV, oneV, binA, unA, reduceCtorEq, Nat.reduceEqDiff, Nat.reduceAdd, Nat.reduceLT, Nat.reduceLeDiff, Nat.reduceMul, Nat.reduceSub, ↓reduceIte, decide_true, decide_false, Bool.true_eq_false, Bool.false_eq_true, Bool.not_true, Bool.not_false, if_true, if_false, and_true, true_and, memE, celE, w64, Nat.zero_add, Nat.add_zero, Nat.mul_one, putL, and_self, goC_both, row_aeq, ldn, t1, t2, t3, t4, t9, t10, stP_agg5']
    obtain ⟨M2, hM2⟩ : ∃ M2, M2 = M ++ n1 ++ [⟨.own, 27, [.int .i64 s.life, .slice (some ⟨ia, 0, none⟩) s.arr.length fa, .slice (some ⟨ib, 0, none⟩) s.need.length fb, .int .i64 s.waste, .int .i64 s.lost]⟩] := ⟨_, rfl⟩
    have l2 : M2.length = M.length + n1.length + 1 := by rw [hM2]; simp; omega
    have o12 : OwnB M2 (M.length + n1.length) 27 [.int .i64 s.life, .slice (some ⟨ia, 0, none⟩) s.need.length fa, .slice (some ⟨ib, 0, none⟩) s.need.length fb, .int .i64 s.waste, .int .i64 s.lost] := by rw [hM2, hla]; exact OwnB.here (by simp)
    have oa2 : OwnR M2 ia s.arr := by rw [hM2]; exact oa.ext _
    have ob2 : OwnR M2 ib s.need := by rw [hM2]; exact ob.ext _
    have hU2 : TabX (List.replicate s.need.length (List.replicate s.need.length (0 : Int))) M0.length M.length M2 M0.length R (fun _ => 1) := by rw [hM2, List.append_assoc]; exact hU.ext (Nat.le_refl _) _
    rw [← hM2] at hX1 ⊢
    have fC : ∀ M2' : Mem, RC Try.prog (useF nw) [.int .i64 0] M2' (AnsV (useV ((0 : Nat) : Int) (colO nw 0 0 : Nat))) := fun M2' => useF_rc M2' nw 0 0 rfl
    refine callH_rc (fC M2) ?_
    rintro r n3 ⟨rfl, nr3⟩
    have hX3 := hX1.app nr3
    have o123 := o12.ext n3
    have oa3 := oa2.ext n3
    have ob3 := ob2.ext n3
    have hU3 := hU2.ext (by omega) n3
    obtain ⟨M3, hM3⟩ : ∃ M3, M3 = M2 ++ n3 := ⟨_, rfl⟩
    have l3 : M3.length = M2.length + n3.length := by rw [hM3, List.length_append]
    rw [← hM3] at hX3 o123 oa3 ob3 hU3 ⊢
    simp (config := {implicitDefEqProofs := false, maxDischargeDepth := 20}) (disch := first | omega | (simp only [lenE]; done) | (simp only [lenE]; omega) | rfl | (simp only [lenE, markR_len]; done) | (simp only [lenE, markR_len]; omega)) only [runE, listE, initT_5, initT_6, initT_7, initT_8, resV, oneV, binA, unA, reduceCtorEq, Nat.reduceEqDiff, Nat.reduceAdd, Nat.reduceLT, Nat.reduceLeDiff, Nat.reduceMul, Nat.reduceSub, ↓reduceIte, decide_true, decide_false, Bool.true_eq_false, Bool.false_eq_true, Bool.not_true, Bool.not_false, if_true, if_false, and_true, true_and, memE, celE, w64, Nat.zero_add, Nat.add_zero, Nat.mul_one, putL, and_self, goC_both, row_aeq, ldn, t1, t9]
    refine callH_rc (useF_rc M3 nw s.need.length _ rfl) ?_
    rintro r n4 ⟨rfl, nr4⟩
    have hX4 := hX3.app nr4
    have o124 := o123.ext n4
    have oa4 := oa3.ext n4
    have ob4 := ob3.ext n4
    have hU4 := hU3.ext (by omega) n4
    obtain ⟨M4, hM4⟩ : ∃ M4, M4 = M3 ++ n4 := ⟨_, rfl⟩
    have l4 : M4.length = M3.length + n4.length := by rw [hM4, List.length_append]
    rw [← hM4] at hX4 o124 oa4 ob4 hU4 ⊢
    simp (config := {implicitDefEqProofs := false, maxDischargeDepth := 20}) (disch := first | omega | (simp only [lenE]; done) | (simp only [lenE]; omega) | rfl | (simp only [lenE, markR_len]; done) | (simp only [lenE, markR_len]; omega)) only [runE, listE, initT_5, initT_6, initT_7, initT_8, resV, oneV, binA, unA, reduceCtorEq, Nat.reduceEqDiff, Nat.reduceAdd, Nat.reduceLT, Nat.reduceLeDiff, Nat.reduceMul, Nat.reduceSub, ↓reduceIte, decide_true, decide_false, Bool.true_eq_false, Bool.false_eq_true, Bool.not_true, Bool.not_false, if_true, if_false, and_true, true_and, memE, celE, w64, Nat.zero_add, Nat.add_zero, Nat.mul_one, putL, and_self, goC_both, row_aeq, ldn, t1, t2, t3, t10, stP_agg2u]
    refine lab_rest9 ?_
    rw [hKK]
    have hU5 : TabX (List.replicate s.need.length (List.replicate s.need.length (0 : Int))) M0.length M.length (M4 ++ [⟨.own, 97, [.int .i64 ((0 : Nat) : Int), .int .i64 ((colO nw 0 0 : Nat) : Int)]⟩] ++ [⟨.own, 97, [.int .i64 (s.need.length : Int), .int .i64 ((colO nw s.need.length 0 : Nat) : Int)]⟩]) M0.length R (fun _ => 1) := by
      rw [List.append_assoc]
      exact hU4.ext (by omega) _
    have b13 : OwnB (M4 ++ [⟨.own, 97, [.int .i64 ((0 : Nat) : Int), .int .i64 ((colO nw 0 0 : Nat) : Int)]⟩] ++ [⟨.own, 97, [.int .i64 (s.need.length : Int), .int .i64 ((colO nw s.need.length 0 : Nat) : Int)]⟩]) M4.length 97 [.int .i64 ((0 : Nat) : Int), .int .i64 ((colO nw 0 0 : Nat) : Int)] := (OwnB.here rfl).ext _
    have b14 : OwnB (M4 ++ [⟨.own, 97, [.int .i64 ((0 : Nat) : Int), .int .i64 ((colO nw 0 0 : Nat) : Int)]⟩] ++ [⟨.own, 97, [.int .i64 (s.need.length : Int), .int .i64 ((colO nw s.need.length 0 : Nat) : Int)]⟩]) (M4.length + 1) 97 [.int .i64 (s.need.length : Int), .int .i64 ((colO nw s.need.length 0 : Nat) : Int)] := OwnB.here (by simp)
    refine rest FU 0 0 (colO nw 0 0) _ _ _ s.arr s.need M0.length M.length M0.length ia ib fa fb (M.length + n1.length) M4.length (M4.length + 1) R (fun _ => 1) rfl ((hX4.one _ _).one _ _) (by omega) hU5 ((o124.ext _).ext _) ((oa4.ext _).ext _) ((ob4.ext _).ext _) b13 b14 (by omega) (by omega) hne (by omega) (by omega) (by omega) (by omega) (by simp only [put_t, put_t', put_m, putT_t, putT_t', putT_m, init_t, init_m, initT_0, initT_1, initT_2, initT_3, initT_4, initT_5, initT_6, initT_7, initT_8, Nat.reduceEqDiff, ↓reduceIte, t1]) (by simp only [put_t, put_t', put_m, putT_t, putT_t', putT_m, init_t, init_m, initT_0, initT_1, initT_2, initT_3, initT_4, initT_5, initT_6, initT_7, initT_8, Nat.reduceEqDiff, ↓reduceIte, t2]) (by simp only [put_t, put_t', put_m, putT_t, putT_t', putT_m, init_t, init_m, initT_0, initT_1, initT_2, initT_3, initT_4, initT_5, initT_6, initT_7, initT_8, Nat.reduceEqDiff, ↓reduceIte, t3]) (by simp only [put_t, put_t', put_m, putT_t, putT_t', putT_m, init_t, init_m, initT_0, initT_1, initT_2, initT_3, initT_4, initT_5, initT_6, initT_7, initT_8, Nat.reduceEqDiff, ↓reduceIte, t10]) ?_ ?_ ?_ (GoAt.zero s nw) (by omega) (fun _ => by omega) (fun _ => rfl) rfl (by omega)
    · first | rfl | (simp only [put_t, put_t', put_m, putT_t, putT_t', putT_m, init_t, init_m, initT_0, initT_1, initT_2, initT_3, initT_4, initT_5, initT_6, initT_7, initT_8, Nat.reduceEqDiff, ↓reduceIte]; done) | (simp only [put_t, put_t', put_m, putT_t, putT_t', putT_m, init_t, init_m, initT_0, initT_1, initT_2, initT_3, initT_4, initT_5, initT_6, initT_7, initT_8, Nat.reduceEqDiff, ↓reduceIte]; simp)
    · first | rfl | (simp only [put_t, put_t', put_m, putT_t, putT_t', putT_m, init_t, init_m, initT_0, initT_1, initT_2, initT_3, initT_4, initT_5, initT_6, initT_7, initT_8, Nat.reduceEqDiff, ↓reduceIte]; done) | (simp only [put_t, put_t', put_m, putT_t, putT_t', putT_m, init_t, init_m, initT_0, initT_1, initT_2, initT_3, initT_4, initT_5, initT_6, initT_7, initT_8, Nat.reduceEqDiff, ↓reduceIte]; simp)
    · first | rfl | (simp only [put_t, put_t', put_m, putT_t, putT_t', putT_m, init_t, init_m, initT_0, initT_1, initT_2, initT_3, initT_4, initT_5, initT_6, initT_7, initT_8, Nat.reduceEqDiff, ↓reduceIte]; done) | (simp only [put_t, put_t', put_m, putT_t, putT_t', putT_m, init_t, init_m, initT_0, initT_1, initT_2, initT_3, initT_4, initT_5, initT_6, initT_7, initT_8, Nat.reduceEqDiff, ↓reduceIte]; simp)
theorem implOldest_rc (m : Mem) (v : Value) (s : Sh) (h : ShA m v s) :
    RC Try.prog 27 [v] m (AnsO m (TabO (issA s false)) fun v => .tuple #[v, .bool s.good]) := by
  refine rc_of_run mixed ok_impl_OldestFirst (by simp) (go_start _ _ _ ?_)
  obtain ⟨a, b, rfl, ha, hb⟩ := h.ro
  have hX := (Ext.refl m).one 27 [.int .i64 s.life, a, b, .int .i64 s.waste, .int .i64 s.lost]
  simp (config := {implicitDefEqProofs := false, maxDischargeDepth := 20}) (disch := first | omega | (simp only [lenE]; done) | (simp only [lenE]; omega) | rfl | (simp only [lenE, markR_len]; done) | (simp only [lenE, markR_len]; omega)) only [runE, mapE, listE, initT_5, initT_6, initT_7, initT_8, resV, oneV, binA, unA, reduceCtorEq, Nat.reduceEqDiff, Nat.reduceAdd, Nat.reduceLT, Nat.reduceLeDiff, Nat.reduceMul, Nat.reduceSub, ↓reduceIte, decide_true, decide_false, Bool.true_eq_false, Bool.false_eq_true, Bool.not_true, Bool.not_false, if_true, if_false, and_true, true_and, memE, celE, w64, Nat.zero_add, Nat.add_zero, Nat.mul_one, putL, and_self, ldn, c_impl_OldestFirst, r_impl_OldestFirst]
  obtain ⟨M0, hM0⟩ : ∃ M0, M0 = roM m ++ [⟨.own, 27, [.int .i64 s.life, a, b, .int .i64 s.waste, .int .i64 s.lost]⟩] := ⟨_, rfl⟩
  have o1 : OwnB M0 m.length 27 [.int .i64 s.life, a, b, .int .i64 s.waste, .int .i64 s.lost] := by rw [hM0]; exact OwnB.here (by simp [roM_len])
  rw [← hM0] at hX ⊢
  refine callH_rc (implIsShelf_rc _ _ s (ShA.mk (hX.ints ha) (hX.ints hb))) ?_
  rintro r n1 ⟨rfl, nr1⟩
  replace hX := hX.app nr1
  replace o1 := o1.ext n1
  obtain ⟨M1, hM1⟩ : ∃ M1, M1 = M0 ++ n1 := ⟨_, rfl⟩
  rw [← hM1] at hX o1 ⊢
  unfold issA
  cases hg : s.good with
  | false =>
    simp (config := {implicitDefEqProofs := false, maxDischargeDepth := 20}) (disch := first | omega | (simp only [lenE]; done) | (simp only [lenE]; omega) | rfl | (simp only [lenE, markR_len]; done) | (simp only [lenE, markR_len]; omega)) only [runE, mapE, listE, initT_5, initT_6, initT_7, initT_8, resV, oneV, binA, unA, reduceCtorEq, Nat.reduceEqDiff, Nat.reduceAdd, Nat.reduceLT, Nat.reduceLeDiff, Nat.reduceMul, Nat.reduceSub, ↓reduceIte, decide_true, decide_false, Bool.true_eq_false, Bool.false_eq_true, Bool.not_true, Bool.not_false, if_true, if_false, and_true, true_and, memE, celE, w64, Nat.zero_add, Nat.add_zero, Nat.mul_one, putL, and_self, ldn, bsl_no]
    exact ext_noTab (f := fun v => .tuple #[v, .bool false]) hX rfl
  | true =>
    simp (config := {implicitDefEqProofs := false, maxDischargeDepth := 20}) (disch := first | omega | (simp only [lenE]; done) | (simp only [lenE]; omega) | rfl | (simp only [lenE, markR_len]; done) | (simp only [lenE, markR_len]; omega)) only [runE, mapE, listE, initT_5, initT_6, initT_7, initT_8, resV, oneV, binA, unA, reduceCtorEq, Nat.reduceEqDiff, Nat.reduceAdd, Nat.reduceLT, Nat.reduceLeDiff, Nat.reduceMul, Nat.reduceSub, ↓reduceIte, decide_true, decide_false, Bool.true_eq_false, Bool.false_eq_true, Bool.not_true, Bool.not_false, if_true, if_false, and_true, true_and, memE, celE, w64, Nat.zero_add, Nat.add_zero, Nat.mul_one, putL, and_self, ldn, o1.rd]
    have K := issueBy_rc M1 _ s false (ShA.mk (hX.ints ha) (hX.ints hb)) (goodSh_iff.1 hg)
    refine callH_rc K ?_
    rintro r n2 ⟨nr2, w, rfl, hw⟩
    simp (config := {implicitDefEqProofs := false, maxDischargeDepth := 20}) (disch := first | omega | (simp only [lenE]; done) | (simp only [lenE]; omega) | rfl | (simp only [lenE, markR_len]; done) | (simp only [lenE, markR_len]; omega)) only [runE, mapE, listE, initT_5, initT_6, initT_7, initT_8, resV, oneV, binA, unA, reduceCtorEq, Nat.reduceEqDiff, Nat.reduceAdd, Nat.reduceLT, Nat.reduceLeDiff, Nat.reduceMul, Nat.reduceSub, ↓reduceIte, decide_true, decide_false, Bool.true_eq_false, Bool.false_eq_true, Bool.not_true, Bool.not_false, if_true, if_false, and_true, true_and, memE, celE, w64, Nat.zero_add, Nat.add_zero, Nat.mul_one, putL, and_self, ldn]
    exact Ext.pass (f := fun v => .tuple #[v, .bool true]) hX nr2 (TabO.wide _) hw
theorem implNewest_rc (m : Mem) (v : Value) (s : Sh) (h : ShA m v s) :
    RC Try.prog 32 [v] m (AnsO m (TabO (issA s true)) fun v => .tuple #[v, .bool s.good]) := by
  refine rc_of_run mixed ok_impl_NewestFirst (by simp) (go_start _ _ _ ?_)
  obtain ⟨a, b, rfl, ha, hb⟩ := h.ro
  have hX := (Ext.refl m).one 27 [.int .i64 s.life, a, b, .int .i64 s.waste, .int .i64 s.lost]
  simp (config := {implicitDefEqProofs := false, maxDischargeDepth := 20}) (disch := first | omega | (simp only [lenE]; done) | (simp only [lenE]; omega) | rfl | (simp only [lenE, markR_len]; done) | (simp only [lenE, markR_len]; omega)) only [runE, mapE, listE, initT_5, initT_6, initT_7, initT_8, resV, oneV, binA, unA, reduceCtorEq, Nat.reduceEqDiff, Nat.reduceAdd, Nat.reduceLT, Nat.reduceLeDiff, Nat.reduceMul, Nat.reduceSub, ↓reduceIte, decide_true, decide_false, Bool.true_eq_false, Bool.false_eq_true, Bool.not_true, Bool.not_false, if_true, if_false, and_true, true_and, memE, celE, w64, Nat.zero_add, Nat.add_zero, Nat.mul_one, putL, and_self, ldn, c_impl_NewestFirst, r_impl_NewestFirst]
  obtain ⟨M0, hM0⟩ : ∃ M0, M0 = roM m ++ [⟨.own, 27, [.int .i64 s.life, a, b, .int .i64 s.waste, .int .i64 s.lost]⟩] := ⟨_, rfl⟩
  have o1 : OwnB M0 m.length 27 [.int .i64 s.life, a, b, .int .i64 s.waste, .int .i64 s.lost] := by rw [hM0]; exact OwnB.here (by simp [roM_len])
  rw [← hM0] at hX ⊢
  refine callH_rc (implIsShelf_rc _ _ s (ShA.mk (hX.ints ha) (hX.ints hb))) ?_
  rintro r n1 ⟨rfl, nr1⟩
  replace hX := hX.app nr1
  replace o1 := o1.ext n1
  obtain ⟨M1, hM1⟩ : ∃ M1, M1 = M0 ++ n1 := ⟨_, rfl⟩
  rw [← hM1] at hX o1 ⊢
  unfold issA
  cases hg : s.good with
  | false =>
    simp (config := {implicitDefEqProofs := false, maxDischargeDepth := 20}) (disch := first | omega | (simp only [lenE]; done) | (simp only [lenE]; omega) | rfl | (simp only [lenE, markR_len]; done) | (simp only [lenE, markR_len]; omega)) only [runE, mapE, listE, initT_5, initT_6, initT_7, initT_8, resV, oneV, binA, unA, reduceCtorEq, Nat.reduceEqDiff, Nat.reduceAdd, Nat.reduceLT, Nat.reduceLeDiff, Nat.reduceMul, Nat.reduceSub, ↓reduceIte, decide_true, decide_false, Bool.true_eq_false, Bool.false_eq_true, Bool.not_true, Bool.not_false, if_true, if_false, and_true, true_and, memE, celE, w64, Nat.zero_add, Nat.add_zero, Nat.mul_one, putL, and_self, ldn, bsl_no]
    exact ext_noTab (f := fun v => .tuple #[v, .bool false]) hX rfl
  | true =>
    simp (config := {implicitDefEqProofs := false, maxDischargeDepth := 20}) (disch := first | omega | (simp only [lenE]; done) | (simp only [lenE]; omega) | rfl | (simp only [lenE, markR_len]; done) | (simp only [lenE, markR_len]; omega)) only [runE, mapE, listE, initT_5, initT_6, initT_7, initT_8, resV, oneV, binA, unA, reduceCtorEq, Nat.reduceEqDiff, Nat.reduceAdd, Nat.reduceLT, Nat.reduceLeDiff, Nat.reduceMul, Nat.reduceSub, ↓reduceIte, decide_true, decide_false, Bool.true_eq_false, Bool.false_eq_true, Bool.not_true, Bool.not_false, if_true, if_false, and_true, true_and, memE, celE, w64, Nat.zero_add, Nat.add_zero, Nat.mul_one, putL, and_self, ldn, o1.rd]
    have K := issueBy_rc M1 _ s true (ShA.mk (hX.ints ha) (hX.ints hb)) (goodSh_iff.1 hg)
    refine callH_rc K ?_
    rintro r n2 ⟨nr2, w, rfl, hw⟩
    simp (config := {implicitDefEqProofs := false, maxDischargeDepth := 20}) (disch := first | omega | (simp only [lenE]; done) | (simp only [lenE]; omega) | rfl | (simp only [lenE, markR_len]; done) | (simp only [lenE, markR_len]; omega)) only [runE, mapE, listE, initT_5, initT_6, initT_7, initT_8, resV, oneV, binA, unA, reduceCtorEq, Nat.reduceEqDiff, Nat.reduceAdd, Nat.reduceLT, Nat.reduceLeDiff, Nat.reduceMul, Nat.reduceSub, ↓reduceIte, decide_true, decide_false, Bool.true_eq_false, Bool.false_eq_true, Bool.not_true, Bool.not_false, if_true, if_false, and_true, true_and, memE, celE, w64, Nat.zero_add, Nat.add_zero, Nat.mul_one, putL, and_self, ldn]
    exact Ext.pass (f := fun v => .tuple #[v, .bool true]) hX nr2 (TabO.wide _) hw
end Go.Proofs.Ytihjcjhnkpkomaa.Ab
