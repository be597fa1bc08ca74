/- Slices of slices; CutCase. -/
import Derived.Test.YtbiipjdhabbleaaAbCost
import Derived.Test.YtbiipjdhabbleaaAbBasis
namespace Go.Proofs.Ytbiipjdhabbleaa.Ab
open Go Go.RowKit
set_option linter.unusedVariables false
set_option linter.unusedSimpArgs false

/-- An answer: a Case of its own rows, or the empty one. -/
def AnsC (m : Mem) (k : Cs) (ok : Bool) (r : Value) (new : Mem) : Prop :=
  NoRo new ∧ k.small ∧ ((ok = true ∧ ∃ i1 i2 i3 i4 f1 f2 f3 f4, r = .tuple #[.agg #[.slice (some ⟨m.length + i1, 0, none⟩) k.need.length f1, .slice (some ⟨m.length + i2, 0, none⟩) k.setup.length f2, .slice (some ⟨m.length + i3, 0, none⟩) k.unit.length f3, .slice (some ⟨m.length + i4, 0, none⟩) k.hold.length f4], .bool true] ∧
      new[i1]? = some (rowB k.need) ∧ new[i2]? = some (rowB k.setup) ∧ new[i3]? = some (rowB k.unit) ∧ new[i4]? = some (rowB k.hold) ∧ i1 < i2 ∧ i2 < i3 ∧ i3 < i4) ∨
    (ok = false ∧ k = ⟨[], [], [], []⟩ ∧ r = .tuple #[.agg #[.slice none 0 0, .slice none 0 0, .slice none 0 0, .slice none 0 0], .bool false]))
theorem ansC_no {m M : Mem} (h : Ext m M) : newQ m (AnsC m ⟨[], [], [], []⟩ false) (.tuple #[.agg #[.slice none 0 0, .slice none 0 0, .slice none 0 0, .slice none 0 0], .bool false]) M := by
  obtain ⟨n0, rfl, h0⟩ := h
  exact ⟨n0, rfl, h0, h0, by simp [Cs.small], .inr ⟨rfl, rfl, rfl⟩⟩
theorem ansC_yes {m M : Mem} {k : Cs} {d1 d2 d3 d4 f1 f2 f3 f4 : Nat} (h : Ext m M) (hs : k.small) (o1 : OwnR M d1 k.need) (o2 : OwnR M d2 k.setup) (o3 : OwnR M d3 k.unit) (o4 : OwnR M d4 k.hold) (l1 : m.length ≤ d1) (l2 : d1 < d2) (l3 : d2 < d3) (l4 : d3 < d4) :
    newQ m (AnsC m k true) (.tuple #[.agg #[.slice (some ⟨d1, 0, none⟩) k.need.length f1, .slice (some ⟨d2, 0, none⟩) k.setup.length f2, .slice (some ⟨d3, 0, none⟩) k.unit.length f3, .slice (some ⟨d4, 0, none⟩) k.hold.length f4], .bool true]) M := by
  obtain ⟨n0, rfl, h0⟩ := h
  have tr : ∀ {d : Nat} {l : List Int}, OwnR (roM m ++ n0) d l → m.length ≤ d → n0[d - m.length]? = some (rowB l) := by
    intro d l ho hd
    unfold OwnR at ho
    rwa [List.getElem?_append_right (by rw [roM_len]; exact hd), roM_len] at ho
  refine ⟨n0, rfl, h0, h0, hs, .inl ⟨rfl, d1 - m.length, d2 - m.length, d3 - m.length, d4 - m.length, f1, f2, f3, f4, ?_, tr o1 l1, tr o2 (by omega), tr o3 (by omega), tr o4 (by omega), by omega, by omega, by omega⟩⟩
  rw [Nat.add_sub_cancel' l1, Nat.add_sub_cancel' (by omega : m.length ≤ d2), Nat.add_sub_cancel' (by omega : m.length ≤ d3), Nat.add_sub_cancel' (by omega : m.length ≤ d4)]
theorem bld4 (z1 z2 z3 z4 : Value) (i1 i2 i3 i4 : Option Addr) (n1 n2 n3 n4 c1 c2 c3 c4 : Nat) :
    bldA [z1, z2, z3, z4] [(0, 1, .slice i1 n1 c1), (1, 1, .slice i2 n2 c2), (2, 1, .slice i3 n3 c3), (3, 1, .slice i4 n4 c4)] = some (.agg #[.slice i1 n1 c1, .slice i2 n2 c2, .slice i3 n3 c3, .slice i4 n4 c4]) := rfl

def cutOk (k : Cs) (a b : Int) : Bool := k.good && (decide (0 ≤ a) && decide (a ≤ b)) && (decide (0 ≤ b) && decide (b ≤ k.need.length))
def cutC (k : Cs) (a b : Nat) : Cs := ⟨cutL k.need a b, cutL k.setup a b, cutL k.unit a b, cutL k.hold a b⟩
def cutA (k : Cs) (a b : Int) : Cs := if cutOk k a b then cutC k a.toNat b.toNat else ⟨[], [], [], []⟩
theorem cutA_no {k : Cs} {a b : Int} (h : cutOk k a b = false) : cutA k a b = ⟨[], [], [], []⟩ := by unfold cutA; rw [h]; rfl
theorem cutA_yes {k : Cs} {a b : Int} (h : cutOk k a b = true) : cutA k a b = cutC k a.toNat b.toNat := by unfold cutA; rw [h]; rfl

theorem specCut_rc (m : Mem) (v : Value) (k : Cs) (a b : Int) (h : CaseA m v k) :
    RC Try.prog 20 [v, .int .i64 a, .int .i64 b] m (AnsC m (cutA k a b) (cutOk k a b)) := by
  refine rc_of_run mixed ok_spec_CutCase (by simp) (go_start _ _ _ ?_)
  obtain ⟨v1, v2, v3, v4, rfl, h1, h2, h3, h4⟩ := h.ro.ok
  simp (config := {implicitDefEqProofs := false, maxDischargeDepth := 20}) (disch := first | omega | (simp only [lenE]; done) | (simp only [lenE]; omega) | rfl | (simp only [lenE, markR_len]; done) | (simp only [lenE, markR_len]; omega)) only [runE, mapE, listE, initT_5, initT_6, initT_7, initT_8, resV, oneV, binA, unA, reduceCtorEq, Nat.reduceEqDiff, Nat.reduceAdd, Nat.reduceLT, Nat.reduceLeDiff, Nat.reduceMul, Nat.reduceSub, ↓reduceIte, decide_true, decide_false, Bool.true_eq_false, Bool.false_eq_true, Bool.not_true, Bool.not_false, if_true, if_false, and_true, true_and, memE, celE, w64, Nat.zero_add, Nat.add_zero, Nat.mul_one, putL, and_self, ldn, c_spec_CutCase, r_spec_CutCase]
  refine callH_rc (l2Good_rc _ _ k ⟨_, _, _, _, rfl, (h1.ext _).ext _, (h2.ext _).ext _, (h3.ext _).ext _, (h4.ext _).ext _⟩) ?_
  rintro r new ⟨rfl, nr1⟩
  have hx : ∀ e cs, Ext m (roM m ++ [⟨.own, 28, [v1, v2, v3, v4]⟩] ++ [⟨.own, e, cs⟩] ++ new) := fun e cs => (((Ext.refl m).one _ _).one _ _).app nr1
  cases hg : k.good with
  | false =>
    simp (config := {implicitDefEqProofs := false, maxDischargeDepth := 20}) (disch := first | omega | (simp only [lenE]; done) | (simp only [lenE]; omega) | rfl | (simp only [lenE, markR_len]; done) | (simp only [lenE, markR_len]; omega)) only [runE, mapE, listE, initT_5, initT_6, initT_7, initT_8, resV, oneV, binA, unA, reduceCtorEq, Nat.reduceEqDiff, Nat.reduceAdd, Nat.reduceLT, Nat.reduceLeDiff, Nat.reduceMul, Nat.reduceSub, ↓reduceIte, decide_true, decide_false, Bool.true_eq_false, Bool.false_eq_true, Bool.not_true, Bool.not_false, if_true, if_false, and_true, true_and, memE, celE, w64, Nat.zero_add, Nat.add_zero, Nat.mul_one, putL, and_self, ldn, bld_nil]
    rw [show cutOk k a b = false by unfold cutOk; rw [hg]; rfl, cutA_no (by unfold cutOk; rw [hg]; rfl)]
    exact ansC_no (hx _ _)
  | true =>
    simp (config := {implicitDefEqProofs := false, maxDischargeDepth := 20}) (disch := first | omega | (simp only [lenE]; done) | (simp only [lenE]; omega) | rfl | (simp only [lenE, markR_len]; done) | (simp only [lenE, markR_len]; omega)) only [runE, mapE, listE, initT_5, initT_6, initT_7, initT_8, resV, oneV, binA, unA, reduceCtorEq, Nat.reduceEqDiff, Nat.reduceAdd, Nat.reduceLT, Nat.reduceLeDiff, Nat.reduceMul, Nat.reduceSub, ↓reduceIte, decide_true, decide_false, Bool.true_eq_false, Bool.false_eq_true, Bool.not_true, Bool.not_false, if_true, if_false, and_true, true_and, memE, celE, w64, Nat.zero_add, Nat.add_zero, Nat.mul_one, putL, and_self, ldn]
    refine callH_rc (l1In_rc _ _ _ _) ?_
    rintro r n2 ⟨rfl, rfl⟩
    cases hc : (decide (0 ≤ a) && decide (a ≤ b)) with
    | false =>
      simp (config := {implicitDefEqProofs := false, maxDischargeDepth := 20}) (disch := first | omega | (simp only [lenE]; done) | (simp only [lenE]; omega) | rfl | (simp only [lenE, markR_len]; done) | (simp only [lenE, markR_len]; omega)) only [runE, mapE, listE, initT_5, initT_6, initT_7, initT_8, resV, oneV, binA, unA, reduceCtorEq, Nat.reduceEqDiff, Nat.reduceAdd, Nat.reduceLT, Nat.reduceLeDiff, Nat.reduceMul, Nat.reduceSub, ↓reduceIte, decide_true, decide_false, Bool.true_eq_false, Bool.false_eq_true, Bool.not_true, Bool.not_false, if_true, if_false, and_true, true_and, memE, celE, w64, Nat.zero_add, Nat.add_zero, Nat.mul_one, putL, and_self, ldn, bld_nil]
      rw [show cutOk k a b = false by unfold cutOk; rw [hg, hc]; rfl, cutA_no (by unfold cutOk; rw [hg, hc]; rfl)]
      exact ansC_no (hx _ _)
    | true =>
      simp (config := {implicitDefEqProofs := false, maxDischargeDepth := 20}) (disch := first | omega | (simp only [lenE]; done) | (simp only [lenE]; omega) | rfl | (simp only [lenE, markR_len]; done) | (simp only [lenE, markR_len]; omega)) only [runE, mapE, listE, initT_5, initT_6, initT_7, initT_8, resV, oneV, binA, unA, reduceCtorEq, Nat.reduceEqDiff, Nat.reduceAdd, Nat.reduceLT, Nat.reduceLeDiff, Nat.reduceMul, Nat.reduceSub, ↓reduceIte, decide_true, decide_false, Bool.true_eq_false, Bool.false_eq_true, Bool.not_true, Bool.not_false, if_true, if_false, and_true, true_and, memE, celE, w64, Nat.zero_add, Nat.add_zero, Nat.mul_one, putL, and_self, ldn, h1.len]
      refine callH_rc (l1In_rc _ _ _ _) ?_
      rintro r n2 ⟨rfl, rfl⟩
      cases hd : (decide (0 ≤ b) && decide (b ≤ (k.need.length : Int))) with
      | false =>
        simp (config := {implicitDefEqProofs := false, maxDischargeDepth := 20}) (disch := first | omega | (simp only [lenE]; done) | (simp only [lenE]; omega) | rfl | (simp only [lenE, markR_len]; done) | (simp only [lenE, markR_len]; omega)) only [runE, mapE, listE, initT_5, initT_6, initT_7, initT_8, resV, oneV, binA, unA, reduceCtorEq, Nat.reduceEqDiff, Nat.reduceAdd, Nat.reduceLT, Nat.reduceLeDiff, Nat.reduceMul, Nat.reduceSub, ↓reduceIte, decide_true, decide_false, Bool.true_eq_false, Bool.false_eq_true, Bool.not_true, Bool.not_false, if_true, if_false, and_true, true_and, memE, celE, w64, Nat.zero_add, Nat.add_zero, Nat.mul_one, putL, and_self, ldn, bld_nil]
        rw [show cutOk k a b = false by unfold cutOk; rw [hg, hc, hd]; rfl, cutA_no (by unfold cutOk; rw [hg, hc, hd]; rfl)]
        exact ansC_no (hx _ _)
      | true =>
        have hok : cutOk k a b = true := by unfold cutOk; rw [hg, hc, hd]; rfl
        rw [hok, cutA_yes hok]
        have gd := good_iff.1 hg
        have h8 := gd.n8
        simp only [Bool.and_eq_true, decide_eq_true_eq] at hc hd
        obtain ⟨a', rfl⟩ : ∃ a' : Nat, a = a' := ⟨a.toNat, by omega⟩
        obtain ⟨b', rfl⟩ : ∃ b' : Nat, b = b' := ⟨b.toNat, by omega⟩
        simp only [Int.toNat_natCast]
        obtain ⟨w1, s1, g1⟩ := h1.cut (lo := a') (hi := b') (by omega) (by omega)
        obtain ⟨w2, s2, g2⟩ := h2.cut (lo := a') (hi := b') (by omega) (by rw [gd.ls]; omega)
        obtain ⟨w3, s3, g3⟩ := h3.cut (lo := a') (hi := b') (by omega) (by rw [gd.lu]; omega)
        obtain ⟨w4, s4, g4⟩ := h4.cut (lo := a') (hi := b') (by omega) (by rw [gd.lh]; omega)
        have e1 := cutL_len (l := k.need) (lo := a') (hi := b') (by omega)
        have e2 := cutL_len (l := k.setup) (lo := a') (hi := b') (by rw [gd.ls]; omega)
        have e3 := cutL_len (l := k.unit) (lo := a') (hi := b') (by rw [gd.lu]; omega)
        have e4 := cutL_len (l := k.hold) (lo := a') (hi := b') (by rw [gd.lh]; omega)
        have opt : ∀ (x : Value), Option.map (fun o : Value => o) (some x) = some x := fun _ => rfl
        simp (config := {implicitDefEqProofs := false, maxDischargeDepth := 20}) (disch := first | omega | (simp only [lenE]; done) | (simp only [lenE]; omega) | rfl | (simp only [lenE, markR_len]; done) | (simp only [lenE, markR_len]; omega)) only [runE, mapE, listE, initT_5, initT_6, initT_7, initT_8, resV, oneV, binA, unA, reduceCtorEq, Nat.reduceEqDiff, Nat.reduceAdd, Nat.reduceLT, Nat.reduceLeDiff, Nat.reduceMul, Nat.reduceSub, ↓reduceIte, decide_true, decide_false, Bool.true_eq_false, Bool.false_eq_true, Bool.not_true, Bool.not_false, if_true, if_false, and_true, true_and, memE, celE, w64, Nat.zero_add, Nat.add_zero, Nat.mul_one, putL, and_self, ldn, s1, s2, s3, s4, Option.map_some]
        refine rcallH_rc (l1Own_rc _ w1 _ (((g1.ext _).ext _).ext _) (by rw [e1]; omega)) ?_
        rintro r q1 ⟨z1, -, i1, f1, rfl, y1⟩
        simp (config := {implicitDefEqProofs := false, maxDischargeDepth := 20}) (disch := first | omega | (simp only [lenE]; done) | (simp only [lenE]; omega) | rfl | (simp only [lenE, markR_len]; done) | (simp only [lenE, markR_len]; omega)) only [runE, mapE, listE, initT_5, initT_6, initT_7, initT_8, resV, oneV, binA, unA, reduceCtorEq, Nat.reduceEqDiff, Nat.reduceAdd, Nat.reduceLT, Nat.reduceLeDiff, Nat.reduceMul, Nat.reduceSub, ↓reduceIte, decide_true, decide_false, Bool.true_eq_false, Bool.false_eq_true, Bool.not_true, Bool.not_false, if_true, if_false, and_true, true_and, memE, celE, w64, Nat.zero_add, Nat.add_zero, Nat.mul_one, putL, and_self, ldn]
        refine rcallH_rc (l1Own_rc _ w2 _ ((((g2.ext _).ext _).ext _).ext q1) (by rw [e2]; omega)) ?_
        rintro r q2 ⟨z2, -, i2, f2, rfl, y2⟩
        simp (config := {implicitDefEqProofs := false, maxDischargeDepth := 20}) (disch := first | omega | (simp only [lenE]; done) | (simp only [lenE]; omega) | rfl | (simp only [lenE, markR_len]; done) | (simp only [lenE, markR_len]; omega)) only [runE, mapE, listE, initT_5, initT_6, initT_7, initT_8, resV, oneV, binA, unA, reduceCtorEq, Nat.reduceEqDiff, Nat.reduceAdd, Nat.reduceLT, Nat.reduceLeDiff, Nat.reduceMul, Nat.reduceSub, ↓reduceIte, decide_true, decide_false, Bool.true_eq_false, Bool.false_eq_true, Bool.not_true, Bool.not_false, if_true, if_false, and_true, true_and, memE, celE, w64, Nat.zero_add, Nat.add_zero, Nat.mul_one, putL, and_self, ldn]
        refine rcallH_rc (l1Own_rc _ w3 _ (((((g3.ext _).ext _).ext _).ext q1).ext q2) (by rw [e3]; omega)) ?_
        rintro r q3 ⟨z3, -, i3, f3, rfl, y3⟩
        simp (config := {implicitDefEqProofs := false, maxDischargeDepth := 20}) (disch := first | omega | (simp only [lenE]; done) | (simp only [lenE]; omega) | rfl | (simp only [lenE, markR_len]; done) | (simp only [lenE, markR_len]; omega)) only [runE, mapE, listE, initT_5, initT_6, initT_7, initT_8, resV, oneV, binA, unA, reduceCtorEq, Nat.reduceEqDiff, Nat.reduceAdd, Nat.reduceLT, Nat.reduceLeDiff, Nat.reduceMul, Nat.reduceSub, ↓reduceIte, decide_true, decide_false, Bool.true_eq_false, Bool.false_eq_true, Bool.not_true, Bool.not_false, if_true, if_false, and_true, true_and, memE, celE, w64, Nat.zero_add, Nat.add_zero, Nat.mul_one, putL, and_self, ldn]
        refine rcallH_rc (l1Own_rc _ w4 _ ((((((g4.ext _).ext _).ext _).ext q1).ext q2).ext q3) (by rw [e4]; omega)) ?_
        rintro r q4 ⟨z4, -, i4, f4, rfl, y4⟩
        simp (config := {implicitDefEqProofs := false, maxDischargeDepth := 20}) (disch := first | omega | (simp only [lenE]; done) | (simp only [lenE]; omega) | rfl | (simp only [lenE, markR_len]; done) | (simp only [lenE, markR_len]; omega)) only [runE, mapE, listE, initT_5, initT_6, initT_7, initT_8, resV, oneV, binA, unA, reduceCtorEq, Nat.reduceEqDiff, Nat.reduceAdd, Nat.reduceLT, Nat.reduceLeDiff, Nat.reduceMul, Nat.reduceSub, ↓reduceIte, decide_true, decide_false, Bool.true_eq_false, Bool.false_eq_true, Bool.not_true, Bool.not_false, if_true, if_false, and_true, true_and, memE, celE, w64, Nat.zero_add, Nat.add_zero, Nat.mul_one, putL, and_self, ldn, bld4]
        have t1 := (List.getElem?_eq_some_iff.1 y1).1
        have t2 := (List.getElem?_eq_some_iff.1 y2).1
        have t3 := (List.getElem?_eq_some_iff.1 y3).1
        refine ansC_yes (k := cutC k a' b') (((((hx _ _).app z1).app z2).app z3).app z4) ?_ ((((OwnR.new y1 ?_).ext _).ext _).ext _) (((OwnR.new y2 ?_).ext _).ext _) ((OwnR.new y3 ?_).ext _) (OwnR.new y4 ?_) ?_ ?_ ?_ ?_
        · unfold Cs.small cutC; simp only [e1, e2, e3, e4]; omega
        all_goals (try simp only [List.length_append, List.length_cons, List.length_nil, roM_len])
        all_goals omega

theorem cut1_rc (m : Mem) (v : Value) (l : List Int) (p1 p2 a b : Nat) (h : IntsA m v l) (hp : rdc m p1 0 = some (.int .i64 a)) (hq : rdc m p2 0 = some (.int .i64 b)) (h1 : a ≤ b) (h2 : b ≤ l.length) (h3 : l.length ≤ 1048576) :
    RC Try.prog 51 [v, .pointer (some ⟨p1, 0, none⟩), .pointer (some ⟨p2, 0, none⟩)] m (AnsR m (cutL l a b)) := by
  refine rc_of_run mixed ok_impl_CutCase_1 (by simp) (go_start _ _ _ ?_)
  have l1 : p1 < m.length := by
    unfold rdc at hp
    cases hm : m[p1]? with
    | none => rw [hm] at hp; cases hp
    | some x => exact (List.getElem?_eq_some_iff.1 hm).1
  have l2 : p2 < m.length := by
    unfold rdc at hq
    cases hm : m[p2]? with
    | none => rw [hm] at hq; cases hq
    | some x => exact (List.getElem?_eq_some_iff.1 hm).1
  obtain ⟨w, s1, g1⟩ := h.ro.cut h1 h2
  have e1 := cutL_len (l := l) (lo := a) (hi := b) h2
  have ha := app_own g1 (by rw [e1]; omega)
  rw [roM_len] at ha
  simp (config := {implicitDefEqProofs := false, maxDischargeDepth := 20}) (disch := first | omega | (simp only [lenE]; done) | (simp only [lenE]; omega) | rfl | (simp only [lenE, markR_len]; done) | (simp only [lenE, markR_len]; omega)) only [runE, mapE, listE, initT_5, initT_6, initT_7, initT_8, resV, oneV, binA, unA, reduceCtorEq, Nat.reduceEqDiff, Nat.reduceAdd, Nat.reduceLT, Nat.reduceLeDiff, Nat.reduceMul, Nat.reduceSub, ↓reduceIte, decide_true, decide_false, Bool.true_eq_false, Bool.false_eq_true, Bool.not_true, Bool.not_false, if_true, if_false, and_true, true_and, memE, celE, w64, Nat.zero_add, Nat.add_zero, Nat.mul_one, putL, and_self, ldn, c_impl_CutCase_1, r_impl_CutCase_1, bsl_none', rdc_roM, hp, hq, s1, ha]
  exact ext_ansR (((Ext.refl m).app (noRo_dead noRo_nil)).one _ _) (OwnR.end' (by simp [roM_len])) (by omega) rfl (by rw [e1]; omega)

theorem implCut_rc (m : Mem) (v : Value) (k : Cs) (a b : Int) (h : CaseA m v k) :
    RC Try.prog 21 [v, .int .i64 a, .int .i64 b] m (AnsC m (cutA k a b) (cutOk k a b)) := by
  refine rc_of_run mixed ok_impl_CutCase (by simp) (go_start _ _ _ ?_)
  obtain ⟨v1, v2, v3, v4, rfl, h1, h2, h3, h4⟩ := h.ro.ok
  simp (config := {implicitDefEqProofs := false, maxDischargeDepth := 20}) (disch := first | omega | (simp only [lenE]; done) | (simp only [lenE]; omega) | rfl | (simp only [lenE, markR_len]; done) | (simp only [lenE, markR_len]; omega)) only [runE, mapE, listE, initT_5, initT_6, initT_7, initT_8, resV, oneV, binA, unA, reduceCtorEq, Nat.reduceEqDiff, Nat.reduceAdd, Nat.reduceLT, Nat.reduceLeDiff, Nat.reduceMul, Nat.reduceSub, ↓reduceIte, decide_true, decide_false, Bool.true_eq_false, Bool.false_eq_true, Bool.not_true, Bool.not_false, if_true, if_false, and_true, true_and, memE, celE, w64, Nat.zero_add, Nat.add_zero, Nat.mul_one, putL, and_self, ldn, c_impl_CutCase, r_impl_CutCase]
  refine callH_rc (implIsCase_rc _ _ k ⟨_, _, _, _, rfl, (((h1.ext _).ext _).ext _).ext _, (((h2.ext _).ext _).ext _).ext _, (((h3.ext _).ext _).ext _).ext _, (((h4.ext _).ext _).ext _).ext _⟩) ?_
  rintro r new ⟨rfl, nr1⟩
  have hx : ∀ e cs e2 cs2 e3 cs3, Ext m (roM m ++ [⟨.own, 28, [v1, v2, v3, v4]⟩] ++ [⟨.own, e, cs⟩] ++ [⟨.own, e2, cs2⟩] ++ [⟨.own, e3, cs3⟩] ++ new) := fun e cs e2 cs2 e3 cs3 => (((((Ext.refl m).one _ _).one _ _).one _ _).one _ _).app nr1
  cases hg : k.good with
  | false =>
    simp (config := {implicitDefEqProofs := false, maxDischargeDepth := 20}) (disch := first | omega | (simp only [lenE]; done) | (simp only [lenE]; omega) | rfl | (simp only [lenE, markR_len]; done) | (simp only [lenE, markR_len]; omega)) only [runE, mapE, listE, initT_5, initT_6, initT_7, initT_8, resV, oneV, binA, unA, reduceCtorEq, Nat.reduceEqDiff, Nat.reduceAdd, Nat.reduceLT, Nat.reduceLeDiff, Nat.reduceMul, Nat.reduceSub, ↓reduceIte, decide_true, decide_false, Bool.true_eq_false, Bool.false_eq_true, Bool.not_true, Bool.not_false, if_true, if_false, and_true, true_and, memE, celE, w64, Nat.zero_add, Nat.add_zero, Nat.mul_one, putL, and_self, ldn, bld_nil]
    rw [show cutOk k a b = false by unfold cutOk; rw [hg]; rfl, cutA_no (by unfold cutOk; rw [hg]; rfl)]
    exact ansC_no (hx _ _ _ _ _ _)
  | true =>
    by_cases ca : a < 0
    · have no : cutOk k a b = false := by unfold cutOk; simp; omega
      simp (config := {implicitDefEqProofs := false, maxDischargeDepth := 20}) (disch := first | omega | (simp only [lenE]; done) | (simp only [lenE]; omega) | rfl | (simp only [lenE, markR_len]; done) | (simp only [lenE, markR_len]; omega)) only [runE, mapE, listE, initT_5, initT_6, initT_7, initT_8, resV, oneV, binA, unA, reduceCtorEq, Nat.reduceEqDiff, Nat.reduceAdd, Nat.reduceLT, Nat.reduceLeDiff, Nat.reduceMul, Nat.reduceSub, ↓reduceIte, decide_true, decide_false, Bool.true_eq_false, Bool.false_eq_true, Bool.not_true, Bool.not_false, if_true, if_false, and_true, true_and, memE, celE, w64, Nat.zero_add, Nat.add_zero, Nat.mul_one, putL, and_self, ldn, bld_nil, ca]
      rw [no, cutA_no no]
      exact ansC_no (hx _ _ _ _ _ _)
    · by_cases cb : b < a
      · have no : cutOk k a b = false := by unfold cutOk; simp; omega
        simp (config := {implicitDefEqProofs := false, maxDischargeDepth := 20}) (disch := first | omega | (simp only [lenE]; done) | (simp only [lenE]; omega) | rfl | (simp only [lenE, markR_len]; done) | (simp only [lenE, markR_len]; omega)) only [runE, mapE, listE, initT_5, initT_6, initT_7, initT_8, resV, oneV, binA, unA, reduceCtorEq, Nat.reduceEqDiff, Nat.reduceAdd, Nat.reduceLT, Nat.reduceLeDiff, Nat.reduceMul, Nat.reduceSub, ↓reduceIte, decide_true, decide_false, Bool.true_eq_false, Bool.false_eq_true, Bool.not_true, Bool.not_false, if_true, if_false, and_true, true_and, memE, celE, w64, Nat.zero_add, Nat.add_zero, Nat.mul_one, putL, and_self, ldn, bld_nil, ca, cb, gt_iff_lt]
        rw [no, cutA_no no]
        exact ansC_no (hx _ _ _ _ _ _)
      · by_cases cc : (k.need.length : Int) < b
        · have no : cutOk k a b = false := by unfold cutOk; simp; omega
          simp (config := {implicitDefEqProofs := false, maxDischargeDepth := 20}) (disch := first | omega | (simp only [lenE]; done) | (simp only [lenE]; omega) | rfl | (simp only [lenE, markR_len]; done) | (simp only [lenE, markR_len]; omega)) only [runE, mapE, listE, initT_5, initT_6, initT_7, initT_8, resV, oneV, binA, unA, reduceCtorEq, Nat.reduceEqDiff, Nat.reduceAdd, Nat.reduceLT, Nat.reduceLeDiff, Nat.reduceMul, Nat.reduceSub, ↓reduceIte, decide_true, decide_false, Bool.true_eq_false, Bool.false_eq_true, Bool.not_true, Bool.not_false, if_true, if_false, and_true, true_and, memE, celE, w64, Nat.zero_add, Nat.add_zero, Nat.mul_one, putL, and_self, ldn, bld_nil, ca, cb, cc, gt_iff_lt, h1.len]
          rw [no, cutA_no no]
          exact ansC_no (hx _ _ _ _ _ _)
        · have hok : cutOk k a b = true := by unfold cutOk; simp [hg]; omega
          rw [hok, cutA_yes hok]
          have gd := good_iff.1 hg
          have h8 := gd.n8
          obtain ⟨a', rfl⟩ : ∃ a' : Nat, a = a' := ⟨a.toNat, by omega⟩
          obtain ⟨b', rfl⟩ : ∃ b' : Nat, b = b' := ⟨b.toNat, by omega⟩
          simp only [Int.toNat_natCast]
          have e1 := cutL_len (l := k.need) (lo := a') (hi := b') (by omega)
          have e2 := cutL_len (l := k.setup) (lo := a') (hi := b') (by rw [gd.ls]; omega)
          have e3 := cutL_len (l := k.unit) (lo := a') (hi := b') (by rw [gd.lu]; omega)
          have e4 := cutL_len (l := k.hold) (lo := a') (hi := b') (by rw [gd.lh]; omega)
          simp (config := {implicitDefEqProofs := false, maxDischargeDepth := 20}) (disch := first | omega | (simp only [lenE]; done) | (simp only [lenE]; omega) | rfl | (simp only [lenE, markR_len]; done) | (simp only [lenE, markR_len]; omega)) only [runE, mapE, listE, initT_5, initT_6, initT_7, initT_8, resV, oneV, binA, unA, reduceCtorEq, Nat.reduceEqDiff, Nat.reduceAdd, Nat.reduceLT, Nat.reduceLeDiff, Nat.reduceMul, Nat.reduceSub, ↓reduceIte, decide_true, decide_false, Bool.true_eq_false, Bool.false_eq_true, Bool.not_true, Bool.not_false, if_true, if_false, and_true, true_and, memE, celE, w64, Nat.zero_add, Nat.add_zero, Nat.mul_one, putL, and_self, ldn, ca, cb, cc, gt_iff_lt, h1.len]
          refine rcallH_rc (cut1_rc _ v1 k.need _ _ a' b' (((((h1.ext _).ext _).ext _).ext _).ext _) ?_ ?_ (by omega) (by omega) (by omega)) ?_
          · simp (config := {implicitDefEqProofs := false, maxDischargeDepth := 20}) (disch := first | omega | (simp only [lenE]; done) | (simp only [lenE]; omega) | rfl | (simp only [lenE, markR_len]; done) | (simp only [lenE, markR_len]; omega)) only [runE, mapE, listE, initT_5, initT_6, initT_7, initT_8, resV, oneV, binA, unA, reduceCtorEq, Nat.reduceEqDiff, Nat.reduceAdd, Nat.reduceLT, Nat.reduceLeDiff, Nat.reduceMul, Nat.reduceSub, ↓reduceIte, decide_true, decide_false, Bool.true_eq_false, Bool.false_eq_true, Bool.not_true, Bool.not_false, if_true, if_false, and_true, true_and, memE, celE, w64, Nat.zero_add, Nat.add_zero, Nat.mul_one, putL, and_self, ldn]
          · simp (config := {implicitDefEqProofs := false, maxDischargeDepth := 20}) (disch := first | omega | (simp only [lenE]; done) | (simp only [lenE]; omega) | rfl | (simp only [lenE, markR_len]; done) | (simp only [lenE, markR_len]; omega)) only [runE, mapE, listE, initT_5, initT_6, initT_7, initT_8, resV, oneV, binA, unA, reduceCtorEq, Nat.reduceEqDiff, Nat.reduceAdd, Nat.reduceLT, Nat.reduceLeDiff, Nat.reduceMul, Nat.reduceSub, ↓reduceIte, decide_true, decide_false, Bool.true_eq_false, Bool.false_eq_true, Bool.not_true, Bool.not_false, if_true, if_false, and_true, true_and, memE, celE, w64, Nat.zero_add, Nat.add_zero, Nat.mul_one, putL, and_self, ldn]
          rintro r q1 ⟨z1, -, i1, f1, rfl, y1⟩
          simp (config := {implicitDefEqProofs := false, maxDischargeDepth := 20}) (disch := first | omega | (simp only [lenE]; done) | (simp only [lenE]; omega) | rfl | (simp only [lenE, markR_len]; done) | (simp only [lenE, markR_len]; omega)) only [runE, mapE, listE, initT_5, initT_6, initT_7, initT_8, resV, oneV, binA, unA, reduceCtorEq, Nat.reduceEqDiff, Nat.reduceAdd, Nat.reduceLT, Nat.reduceLeDiff, Nat.reduceMul, Nat.reduceSub, ↓reduceIte, decide_true, decide_false, Bool.true_eq_false, Bool.false_eq_true, Bool.not_true, Bool.not_false, if_true, if_false, and_true, true_and, memE, celE, w64, Nat.zero_add, Nat.add_zero, Nat.mul_one, putL, and_self, ldn]
          refine rcallH_rc (cut1_rc _ v2 k.setup _ _ a' b' ((((((h2.ext _).ext _).ext _).ext _).ext _).ext q1) ?_ ?_ (by omega) (by rw [gd.ls]; omega) (by rw [gd.ls]; omega)) ?_
          · simp (config := {implicitDefEqProofs := false, maxDischargeDepth := 20}) (disch := first | omega | (simp only [lenE]; done) | (simp only [lenE]; omega) | rfl | (simp only [lenE, markR_len]; done) | (simp only [lenE, markR_len]; omega)) only [runE, mapE, listE, initT_5, initT_6, initT_7, initT_8, resV, oneV, binA, unA, reduceCtorEq, Nat.reduceEqDiff, Nat.reduceAdd, Nat.reduceLT, Nat.reduceLeDiff, Nat.reduceMul, Nat.reduceSub, ↓reduceIte, decide_true, decide_false, Bool.true_eq_false, Bool.false_eq_true, Bool.not_true, Bool.not_false, if_true, if_false, and_true, true_and, memE, celE, w64, Nat.zero_add, Nat.add_zero, Nat.mul_one, putL, and_self, ldn]
          · simp (config := {implicitDefEqProofs := false, maxDischargeDepth := 20}) (disch := first | omega | (simp only [lenE]; done) | (simp only [lenE]; omega) | rfl | (simp only [lenE, markR_len]; done) | (simp only [lenE, markR_len]; omega)) only [runE, mapE, listE, initT_5, initT_6, initT_7, initT_8, resV, oneV, binA, unA, reduceCtorEq, Nat.reduceEqDiff, Nat.reduceAdd, Nat.reduceLT, Nat.reduceLeDiff, Nat.reduceMul, Nat.reduceSub, ↓reduceIte, decide_true, decide_false, Bool.true_eq_false, Bool.false_eq_true, Bool.not_true, Bool.not_false, if_true, if_false, and_true, true_and, memE, celE, w64, Nat.zero_add, Nat.add_zero, Nat.mul_one, putL, and_self, ldn]
          rintro r q2 ⟨z2, -, i2, f2, rfl, y2⟩
          simp (config := {implicitDefEqProofs := false, maxDischargeDepth := 20}) (disch := first | omega | (simp only [lenE]; done) | (simp only [lenE]; omega) | rfl | (simp only [lenE, markR_len]; done) | (simp only [lenE, markR_len]; omega)) only [runE, mapE, listE, initT_5, initT_6, initT_7, initT_8, resV, oneV, binA, unA, reduceCtorEq, Nat.reduceEqDiff, Nat.reduceAdd, Nat.reduceLT, Nat.reduceLeDiff, Nat.reduceMul, Nat.reduceSub, ↓reduceIte, decide_true, decide_false, Bool.true_eq_false, Bool.false_eq_true, Bool.not_true, Bool.not_false, if_true, if_false, and_true, true_and, memE, celE, w64, Nat.zero_add, Nat.add_zero, Nat.mul_one, putL, and_self, ldn]
          refine rcallH_rc (cut1_rc _ v3 k.unit _ _ a' b' (((((((h3.ext _).ext _).ext _).ext _).ext _).ext q1).ext q2) ?_ ?_ (by omega) (by rw [gd.lu]; omega) (by rw [gd.lu]; omega)) ?_
          · simp (config := {implicitDefEqProofs := false, maxDischargeDepth := 20}) (disch := first | omega | (simp only [lenE]; done) | (simp only [lenE]; omega) | rfl | (simp only [lenE, markR_len]; done) | (simp only [lenE, markR_len]; omega)) only [runE, mapE, listE, initT_5, initT_6, initT_7, initT_8, resV, oneV, binA, unA, reduceCtorEq, Nat.reduceEqDiff, Nat.reduceAdd, Nat.reduceLT, Nat.reduceLeDiff, Nat.reduceMul, Nat.reduceSub, ↓reduceIte, decide_true, decide_false, Bool.true_eq_false, Bool.false_eq_true, Bool.not_true, Bool.not_false, if_true, if_false, and_true, true_and, memE, celE, w64, Nat.zero_add, Nat.add_zero, Nat.mul_one, putL, and_self, ldn]
          · simp (config := {implicitDefEqProofs := false, maxDischargeDepth := 20}) (disch := first | omega | (simp only [lenE]; done) | (simp only [lenE]; omega) | rfl | (simp only [lenE, markR_len]; done) | (simp only [lenE, markR_len]; omega)) only [runE, mapE, listE, initT_5, initT_6, initT_7, initT_8, resV, oneV, binA, unA, reduceCtorEq, Nat.reduceEqDiff, Nat.reduceAdd, Nat.reduceLT, Nat.reduceLeDiff, Nat.reduceMul, Nat.reduceSub, ↓reduceIte, decide_true, decide_false, Bool.true_eq_false, Bool.false_eq_true, Bool.not_true, Bool.not_false, if_true, if_false, and_true, true_and, memE, celE, w64, Nat.zero_add, Nat.add_zero, Nat.mul_one, putL, and_self, ldn]
          rintro r q3 ⟨z3, -, i3, f3, rfl, y3⟩
          simp (config := {implicitDefEqProofs := false, maxDischargeDepth := 20}) (disch := first | omega | (simp only [lenE]; done) | (simp only [lenE]; omega) | rfl | (simp only [lenE, markR_len]; done) | (simp only [lenE, markR_len]; omega)) only [runE, mapE, listE, initT_5, initT_6, initT_7, initT_8, resV, oneV, binA, unA, reduceCtorEq, Nat.reduceEqDiff, Nat.reduceAdd, Nat.reduceLT, Nat.reduceLeDiff, Nat.reduceMul, Nat.reduceSub, ↓reduceIte, decide_true, decide_false, Bool.true_eq_false, Bool.false_eq_true, Bool.not_true, Bool.not_false, if_true, if_false, and_true, true_and, memE, celE, w64, Nat.zero_add, Nat.add_zero, Nat.mul_one, putL, and_self, ldn]
          refine rcallH_rc (cut1_rc _ v4 k.hold _ _ a' b' ((((((((h4.ext _).ext _).ext _).ext _).ext _).ext q1).ext q2).ext q3) ?_ ?_ (by omega) (by rw [gd.lh]; omega) (by rw [gd.lh]; omega)) ?_
          · simp (config := {implicitDefEqProofs := false, maxDischargeDepth := 20}) (disch := first | omega | (simp only [lenE]; done) | (simp only [lenE]; omega) | rfl | (simp only [lenE, markR_len]; done) | (simp only [lenE, markR_len]; omega)) only [runE, mapE, listE, initT_5, initT_6, initT_7, initT_8, resV, oneV, binA, unA, reduceCtorEq, Nat.reduceEqDiff, Nat.reduceAdd, Nat.reduceLT, Nat.reduceLeDiff, Nat.reduceMul, Nat.reduceSub, ↓reduceIte, decide_true, decide_false, Bool.true_eq_false, Bool.false_eq_true, Bool.not_true, Bool.not_false, if_true, if_false, and_true, true_and, memE, celE, w64, Nat.zero_add, Nat.add_zero, Nat.mul_one, putL, and_self, ldn]
          · simp (config := {implicitDefEqProofs := false, maxDischargeDepth := 20}) (disch := first | omega | (simp only [lenE]; done) | (simp only [lenE]; omega) | rfl | (simp only [lenE, markR_len]; done) | (simp only [lenE, markR_len]; omega)) only [runE, mapE, listE, initT_5, initT_6, initT_7, initT_8, resV, oneV, binA, unA, reduceCtorEq, Nat.reduceEqDiff, Nat.reduceAdd, Nat.reduceLT, Nat.reduceLeDiff, Nat.reduceMul, Nat.reduceSub, ↓reduceIte, decide_true, decide_false, Bool.true_eq_false, Bool.false_eq_true, Bool.not_true, Bool.not_false, if_true, if_false, and_true, true_and, memE, celE, w64, Nat.zero_add, Nat.add_zero, Nat.mul_one, putL, and_self, ldn]
          rintro r q4 ⟨z4, -, i4, f4, rfl, y4⟩
          simp (config := {implicitDefEqProofs := false, maxDischargeDepth := 20}) (disch := first | omega | (simp only [lenE]; done) | (simp only [lenE]; omega) | rfl | (simp only [lenE, markR_len]; done) | (simp only [lenE, markR_len]; omega)) only [runE, mapE, listE, initT_5, initT_6, initT_7, initT_8, resV, oneV, binA, unA, reduceCtorEq, Nat.reduceEqDiff, Nat.reduceAdd, Nat.reduceLT, Nat.reduceLeDiff, Nat.reduceMul, Nat.reduceSub, ↓reduceIte, decide_true, decide_false, Bool.true_eq_false, Bool.false_eq_true, Bool.not_true, Bool.not_false, if_true, if_false, and_true, true_and, memE, celE, w64, Nat.zero_add, Nat.add_zero, Nat.mul_one, putL, and_self, ldn, bld4]
          have t1 := (List.getElem?_eq_some_iff.1 y1).1
          have t2 := (List.getElem?_eq_some_iff.1 y2).1
          have t3 := (List.getElem?_eq_some_iff.1 y3).1
          refine ansC_yes (k := cutC k a' b') (((((hx _ _ _ _ _ _).app z1).app z2).app z3).app z4) ?_ ((((OwnR.new y1 ?_).ext _).ext _).ext _) (((OwnR.new y2 ?_).ext _).ext _) ((OwnR.new y3 ?_).ext _) (OwnR.new y4 ?_) ?_ ?_ ?_ ?_
          · unfold Cs.small cutC; simp only [e1, e2, e3, e4]; omega
          all_goals (try simp only [List.length_append, List.length_cons, List.length_nil, roM_len])
          all_goals omega

theorem markIntS_nil (m : Mem) (k0 : Int) : AC Try.prog 32 [.slice none 0 0, .int .i64 k0] m fun r m' => r = .int .i64 k0 ∧ m' = m := by
  refine ac_of_run mixed ok_laws_markIntS (by simp) (go_start _ _ _ ?_)
  simp (config := {implicitDefEqProofs := false, maxDischargeDepth := 20}) (disch := first | omega | (simp only [lenE]; done) | (simp only [lenE]; omega) | rfl | (simp only [lenE, markR_len]; done) | (simp only [lenE, markR_len]; omega)) only [runE, mapE, listE, initT_5, initT_6, initT_7, initT_8, resV, oneV, binA, unA, reduceCtorEq, Nat.reduceEqDiff, Nat.reduceAdd, Nat.reduceLT, Nat.reduceLeDiff, Nat.reduceMul, Nat.reduceSub, ↓reduceIte, decide_true, decide_false, Bool.true_eq_false, Bool.false_eq_true, Bool.not_true, Bool.not_false, if_true, if_false, and_true, true_and, memE, celE, w64, Nat.zero_add, Nat.add_zero, Nat.mul_one, putL, and_self, ldn, c_laws_markIntS, r_laws_markIntS]
  refine loop_inv mixed (fun s => s.t 0 = .slice none 0 0 ∧ s.t 1 = .int .i64 k0 ∧ s.t 5 = .int .i64 0 ∧ s.m = m) (fun s => 0) ⟨rfl, rfl, rfl, rfl⟩ ?_
  rintro s ⟨t0, t1, t5, tm⟩
  simp (config := {implicitDefEqProofs := false, maxDischargeDepth := 20}) (disch := first | omega | (simp only [lenE]; done) | (simp only [lenE]; omega) | rfl | (simp only [lenE, markR_len]; done) | (simp only [lenE, markR_len]; omega)) only [runE, mapE, listE, initT_5, initT_6, initT_7, initT_8, resV, oneV, binA, unA, reduceCtorEq, Nat.reduceEqDiff, Nat.reduceAdd, Nat.reduceLT, Nat.reduceLeDiff, Nat.reduceMul, Nat.reduceSub, ↓reduceIte, decide_true, decide_false, Bool.true_eq_false, Bool.false_eq_true, Bool.not_true, Bool.not_false, if_true, if_false, and_true, true_and, memE, celE, w64, Nat.zero_add, Nat.add_zero, Nat.mul_one, putL, and_self, ldn, t0, t1, t5, tm, show ¬ ((0 : Int) < ((0 : Nat) : Int)) by decide]
  try exact ⟨rfl, rfl⟩
theorem markCase_nil (m : Mem) (k0 : Int) (g0 : 0 ≤ k0) (g1 : k0 ≤ 68719476736) :
    AC Try.prog 22 [.agg #[.slice none 0 0, .slice none 0 0, .slice none 0 0, .slice none 0 0], .int .i64 k0] m
      fun r m' => r = .int .i64 (k0 + ((0 : Nat) : Int) + ((0 : Nat) : Int) + ((0 : Nat) : Int) + ((0 : Nat) : Int)) ∧ ∃ b : Blk, m' = m ++ [b] := by
  refine ac_of_run mixed ok_laws_markCase (by simp) (go_start _ _ _ ?_)
  simp (config := {implicitDefEqProofs := false, maxDischargeDepth := 20}) (disch := first | omega | (simp only [lenE]; done) | (simp only [lenE]; omega) | rfl | (simp only [lenE, markR_len]; done) | (simp only [lenE, markR_len]; omega)) only [runE, mapE, listE, initT_5, initT_6, initT_7, initT_8, resV, oneV, binA, unA, reduceCtorEq, Nat.reduceEqDiff, Nat.reduceAdd, Nat.reduceLT, Nat.reduceLeDiff, Nat.reduceMul, Nat.reduceSub, ↓reduceIte, decide_true, decide_false, Bool.true_eq_false, Bool.false_eq_true, Bool.not_true, Bool.not_false, if_true, if_false, and_true, true_and, memE, celE, w64, Nat.zero_add, Nat.add_zero, Nat.mul_one, putL, and_self, ldn, c_laws_markCase, r_laws_markCase]
  refine callH_ac (markIntS_nil _ _) ?_
  rintro r m' ⟨rfl, rfl⟩
  simp (config := {implicitDefEqProofs := false, maxDischargeDepth := 20}) (disch := first | omega | (simp only [lenE]; done) | (simp only [lenE]; omega) | rfl | (simp only [lenE, markR_len]; done) | (simp only [lenE, markR_len]; omega)) only [runE, mapE, listE, initT_5, initT_6, initT_7, initT_8, resV, oneV, binA, unA, reduceCtorEq, Nat.reduceEqDiff, Nat.reduceAdd, Nat.reduceLT, Nat.reduceLeDiff, Nat.reduceMul, Nat.reduceSub, ↓reduceIte, decide_true, decide_false, Bool.true_eq_false, Bool.false_eq_true, Bool.not_true, Bool.not_false, if_true, if_false, and_true, true_and, memE, celE, w64, Nat.zero_add, Nat.add_zero, Nat.mul_one, putL, and_self, ldn]
  refine callH_ac (markIntS_nil _ _) ?_
  rintro r m' ⟨rfl, rfl⟩
  simp (config := {implicitDefEqProofs := false, maxDischargeDepth := 20}) (disch := first | omega | (simp only [lenE]; done) | (simp only [lenE]; omega) | rfl | (simp only [lenE, markR_len]; done) | (simp only [lenE, markR_len]; omega)) only [runE, mapE, listE, initT_5, initT_6, initT_7, initT_8, resV, oneV, binA, unA, reduceCtorEq, Nat.reduceEqDiff, Nat.reduceAdd, Nat.reduceLT, Nat.reduceLeDiff, Nat.reduceMul, Nat.reduceSub, ↓reduceIte, decide_true, decide_false, Bool.true_eq_false, Bool.false_eq_true, Bool.not_true, Bool.not_false, if_true, if_false, and_true, true_and, memE, celE, w64, Nat.zero_add, Nat.add_zero, Nat.mul_one, putL, and_self, ldn]
  refine callH_ac (markIntS_nil _ _) ?_
  rintro r m' ⟨rfl, rfl⟩
  simp (config := {implicitDefEqProofs := false, maxDischargeDepth := 20}) (disch := first | omega | (simp only [lenE]; done) | (simp only [lenE]; omega) | rfl | (simp only [lenE, markR_len]; done) | (simp only [lenE, markR_len]; omega)) only [runE, mapE, listE, initT_5, initT_6, initT_7, initT_8, resV, oneV, binA, unA, reduceCtorEq, Nat.reduceEqDiff, Nat.reduceAdd, Nat.reduceLT, Nat.reduceLeDiff, Nat.reduceMul, Nat.reduceSub, ↓reduceIte, decide_true, decide_false, Bool.true_eq_false, Bool.false_eq_true, Bool.not_true, Bool.not_false, if_true, if_false, and_true, true_and, memE, celE, w64, Nat.zero_add, Nat.add_zero, Nat.mul_one, putL, and_self, ldn]
  refine callH_ac (markIntS_nil _ _) ?_
  rintro r m' ⟨rfl, rfl⟩
  simp (config := {implicitDefEqProofs := false, maxDischargeDepth := 20}) (disch := first | omega | (simp only [lenE]; done) | (simp only [lenE]; omega) | rfl | (simp only [lenE, markR_len]; done) | (simp only [lenE, markR_len]; omega)) only [runE, mapE, listE, initT_5, initT_6, initT_7, initT_8, resV, oneV, binA, unA, reduceCtorEq, Nat.reduceEqDiff, Nat.reduceAdd, Nat.reduceLT, Nat.reduceLeDiff, Nat.reduceMul, Nat.reduceSub, ↓reduceIte, decide_true, decide_false, Bool.true_eq_false, Bool.false_eq_true, Bool.not_true, Bool.not_false, if_true, if_false, and_true, true_and, memE, celE, w64, Nat.zero_add, Nat.add_zero, Nat.mul_one, putL, and_self, ldn]
  exact ⟨by simp, _, rfl⟩
end Go.Proofs.Ytbiipjdhabbleaa.Ab
