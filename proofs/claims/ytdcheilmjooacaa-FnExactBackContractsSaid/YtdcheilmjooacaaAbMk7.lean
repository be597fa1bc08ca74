/- Contracts of markets: PlainContracts, BestPlain, BackContracts on both sides. -/
import Derived.Test.YtdcheilmjooacaaAbMk6
namespace Go.Proofs.Ytdcheilmjooacaa.Ab
open Go Go.RowKit
set_option linter.unusedVariables false
set_option linter.unusedSimpArgs false

def plainsA (k : Mk) : List (Int × Int) := if k.good then plainsL k (plainN k) else []
def backsA (k : Mk) : List Ct := if k.good then backsL k 100 else []
theorem bsl_ct {m : Mem} {e : TypeId} {a b c : Int} : bslA m e 3 1 [.int .i64 0, .int .i64 0, .int .i64 0] [(0, 3, .agg #[.int .i64 a, .int .i64 b, .int .i64 c])] = some (.slice (some ⟨m.length, 0, none⟩) 1 3, m ++ [⟨.own, e, [.int .i64 a, .int .i64 b, .int .i64 c]⟩]) := rfl
theorem ext_ctsM {m M : Mem} {L : List Ct} {id n : Nat} {e : TypeId} {f : Value → Value} (h : Ext m M) (ho : OwnB M id e (ctsC L)) (hid : m.length ≤ id) (hn : n = L.length) (hl : L.length ≤ 1048576) :
    newQ m (AnsO m (CtsO e L) f) (f (.slice (some ⟨id, 0, none⟩) n 3)) M := by
  subst hn
  exact ext_ansO h fun M' hM => ⟨hl, id, 3, rfl, hid, ho.lt, ho.at_ (hM _ hid ho.lt)⟩
theorem ext_noCts {m A : Mem} {f : Value → Value} {e : TypeId} {id : Nat} (hX : Ext m A) (hid : id = A.length) : newQ m (AnsO m (CtsO e []) f) (f (.slice (some ⟨id, 0, none⟩) 0 3)) (A ++ [⟨.own, e, []⟩]) := by
  subst hid
  exact ext_ansO (hX.one _ _) fun M' hM => ⟨by simp, _, 3, rfl, hX.len, by simp, (OwnB.here rfl).at_ (hM _ hX.len (by simp))⟩
theorem backs_bd {k : Mk} (h : GoodM k) {b : Nat} (hb : b < 100) (p : Nat) : (backsL k b ++ paysL k b 100 p).length ≤ 101 := by
  have h1 := backsL_len h b (by omega)
  have h2 := paysL_len (no_prop' h (b := (b : Int)) (s := 100) (by omega) (by omega)) p
  rw [List.length_append]; omega
theorem backs_s (k : Mk) (b : Nat) : backsL k (b + 1) = backsL k b ++ paysL k b 100 100 := rfl
theorem pays_s (k : Mk) (b s : Int) (p : Nat) : paysL k b s (p + 1) = paysL k b s p ++ (if propB k ⟨p, b, s⟩ then [⟨p, b, s⟩] else []) := rfl
theorem specPlainContracts_rc (m : Mem) (v : Value) (k : Mk) (h : MkA m v k) :
    RC Try.prog 56 [v] m (AnsO m (PairsO 83 (plainsA k)) fun v => .tuple #[v, .bool k.good]) := by
  refine rc_of_run mixed ok_spec_PlainContracts (by simp) (go_start _ _ _ ?_)
  obtain ⟨u, rfl, hu⟩ := h.ro
  unfold plainsA
  try simp (config := {implicitDefEqProofs := false, maxDischargeDepth := 20}) (disch := first | omega | (simp only [lenE]; done) | (simp only [lenE]; omega) | rfl | (simp only [lenE, markR_len]; done) | (simp only [lenE, markR_len]; omega)) only [runE, mapE, listE, initT_5, initT_6, initT_7, initT_8, resV, oneV, binA, unA, reduceCtorEq, Nat.reduceEqDiff, Nat.reduceAdd, Nat.reduceLT, Nat.reduceLeDiff, Nat.reduceMul, Nat.reduceSub, ↓reduceIte, decide_true, decide_false, Bool.true_eq_false, Bool.false_eq_true, Bool.not_true, Bool.not_false, if_true, if_false, and_true, true_and, memE, celE, w64, Nat.zero_add, Nat.add_zero, Nat.mul_one, putL, and_self, ldn, c_spec_PlainContracts, r_spec_PlainContracts]
  obtain ⟨E, hE⟩ : ∃ M', M' = roM m ++ [⟨.own, 27, [u, .int .i64 k.price, .int .i64 k.make, .int .i64 k.left]⟩] := ⟨_, rfl⟩
  rw [← hE]
  have hX : Ext m E := by rw [hE]; exact ((Ext.refl m).one _ _)
  have LE : E.length = m.length + 1 := by rw [hE]; simp [roM_len]
  have oM : OwnB E (m.length) 27 [u, .int .i64 k.price, .int .i64 k.make, .int .i64 k.left] := by rw [hE]; exact (OwnB.here (by simp [roM_len]))
  clear hE
  try simp (config := {implicitDefEqProofs := false, maxDischargeDepth := 20}) (disch := first | omega | (simp only [lenE]; done) | (simp only [lenE]; omega) | rfl | (simp only [lenE, markR_len]; done) | (simp only [lenE, markR_len]; omega)) only [runE, mapE, listE, initT_5, initT_6, initT_7, initT_8, resV, oneV, binA, unA, reduceCtorEq, Nat.reduceEqDiff, Nat.reduceAdd, Nat.reduceLT, Nat.reduceLeDiff, Nat.reduceMul, Nat.reduceSub, ↓reduceIte, decide_true, decide_false, Bool.true_eq_false, Bool.false_eq_true, Bool.not_true, Bool.not_false, if_true, if_false, and_true, true_and, memE, celE, w64, Nat.zero_add, Nat.add_zero, Nat.mul_one, putL, and_self, ldn, oM.mk4]
  first | refine callH_rc (l10Market_rc _ _ k ⟨u, rfl, hX.ints hu⟩) ?_ | refine rcallH_rc (l10Market_rc _ _ k ⟨u, rfl, hX.ints hu⟩) ?_
  rintro r n1 ⟨rfl, nr1⟩
  obtain ⟨E1, hE1⟩ : ∃ M', M' = E ++ n1 := ⟨_, rfl⟩
  rw [← hE1]
  replace hX : Ext m E1 := by rw [hE1]; exact hX.app nr1
  replace oM := oM.ext n1
  rw [← hE1] at oM
  clear hE1
  cases g1 : k.good with
  | false =>
    try simp (config := {implicitDefEqProofs := false, maxDischargeDepth := 20}) (disch := first | omega | (simp only [lenE]; done) | (simp only [lenE]; omega) | rfl | (simp only [lenE, markR_len]; done) | (simp only [lenE, markR_len]; omega)) only [runE, mapE, listE, initT_5, initT_6, initT_7, initT_8, resV, oneV, binA, unA, reduceCtorEq, Nat.reduceEqDiff, Nat.reduceAdd, Nat.reduceLT, Nat.reduceLeDiff, Nat.reduceMul, Nat.reduceSub, ↓reduceIte, decide_true, decide_false, Bool.true_eq_false, Bool.false_eq_true, Bool.not_true, Bool.not_false, if_true, if_false, and_true, true_and, memE, celE, w64, Nat.zero_add, Nat.add_zero, Nat.mul_one, putL, and_self, ldn, bsl_no, oM.mk4]
    try simp (config := {implicitDefEqProofs := false, maxDischargeDepth := 20}) (disch := first | omega | (simp only [lenE]; done) | (simp only [lenE]; omega) | rfl | (simp only [lenE, markR_len]; done) | (simp only [lenE, markR_len]; omega)) only [runE, mapE, listE, initT_5, initT_6, initT_7, initT_8, resV, oneV, binA, unA, reduceCtorEq, Nat.reduceEqDiff, Nat.reduceAdd, Nat.reduceLT, Nat.reduceLeDiff, Nat.reduceMul, Nat.reduceSub, ↓reduceIte, decide_true, decide_false, Bool.true_eq_false, Bool.false_eq_true, Bool.not_true, Bool.not_false, if_true, if_false, and_true, true_and, memE, celE, w64, Nat.zero_add, Nat.add_zero, Nat.mul_one, putL, and_self, ldn, bsl_no]
    exact ext_noPairs (f := fun v => .tuple #[v, .bool false]) hX rfl
  | true =>
  try simp (config := {implicitDefEqProofs := false, maxDischargeDepth := 20}) (disch := first | omega | (simp only [lenE]; done) | (simp only [lenE]; omega) | rfl | (simp only [lenE, markR_len]; done) | (simp only [lenE, markR_len]; omega)) only [runE, mapE, listE, initT_5, initT_6, initT_7, initT_8, resV, oneV, binA, unA, reduceCtorEq, Nat.reduceEqDiff, Nat.reduceAdd, Nat.reduceLT, Nat.reduceLeDiff, Nat.reduceMul, Nat.reduceSub, ↓reduceIte, decide_true, decide_false, Bool.true_eq_false, Bool.false_eq_true, Bool.not_true, Bool.not_false, if_true, if_false, and_true, true_and, memE, celE, w64, Nat.zero_add, Nat.add_zero, Nat.mul_one, putL, and_self, ldn, oM.mk4]
  have hg := goodM_iff.1 g1
  first | refine callH_rc (l10Plains_rc _ _ k ⟨u, rfl, hX.ints hu⟩ hg) ?_ | refine rcallH_rc (l10Plains_rc _ _ k ⟨u, rfl, hX.ints hu⟩ hg) ?_
  rintro r n2 ⟨nr2, w, e, hw⟩
  rw [id_eq] at e
  subst e
  simp (config := {implicitDefEqProofs := false, maxDischargeDepth := 20}) (disch := first | omega | (simp only [lenE]; done) | (simp only [lenE]; omega) | rfl | (simp only [lenE, markR_len]; done) | (simp only [lenE, markR_len]; omega)) only [runE, mapE, listE, initT_5, initT_6, initT_7, initT_8, resV, oneV, binA, unA, reduceCtorEq, Nat.reduceEqDiff, Nat.reduceAdd, Nat.reduceLT, Nat.reduceLeDiff, Nat.reduceMul, Nat.reduceSub, ↓reduceIte, decide_true, decide_false, Bool.true_eq_false, Bool.false_eq_true, Bool.not_true, Bool.not_false, if_true, if_false, and_true, true_and, memE, celE, w64, Nat.zero_add, Nat.add_zero, Nat.mul_one, putL, and_self, ldn]
  exact hX.pass (f := fun v => .tuple #[v, .bool true]) nr2 (PairsO.wide _ _) hw
theorem implPlainContracts_rc (m : Mem) (v : Value) (k : Mk) (h : MkA m v k) :
    RC Try.prog 57 [v] m (AnsO m (PairsO 83 (plainsA k)) fun v => .tuple #[v, .bool k.good]) := by
  refine rc_of_run mixed ok_impl_PlainContracts (by simp) (go_start _ _ _ ?_)
  obtain ⟨u, rfl, hu⟩ := h.ro
  unfold plainsA
  try simp (config := {implicitDefEqProofs := false, maxDischargeDepth := 20}) (disch := first | omega | (simp only [lenE]; done) | (simp only [lenE]; omega) | rfl | (simp only [lenE, markR_len]; done) | (simp only [lenE, markR_len]; omega)) only [runE, mapE, listE, initT_5, initT_6, initT_7, initT_8, resV, oneV, binA, unA, reduceCtorEq, Nat.reduceEqDiff, Nat.reduceAdd, Nat.reduceLT, Nat.reduceLeDiff, Nat.reduceMul, Nat.reduceSub, ↓reduceIte, decide_true, decide_false, Bool.true_eq_false, Bool.false_eq_true, Bool.not_true, Bool.not_false, if_true, if_false, and_true, true_and, memE, celE, w64, Nat.zero_add, Nat.add_zero, Nat.mul_one, putL, and_self, ldn, c_impl_PlainContracts, r_impl_PlainContracts]
  obtain ⟨E, hE⟩ : ∃ M', M' = roM m ++ [⟨.own, 27, [u, .int .i64 k.price, .int .i64 k.make, .int .i64 k.left]⟩] := ⟨_, rfl⟩
  rw [← hE]
  have hX : Ext m E := by rw [hE]; exact ((Ext.refl m).one _ _)
  have LE : E.length = m.length + 1 := by rw [hE]; simp [roM_len]
  have oM : OwnB E (m.length) 27 [u, .int .i64 k.price, .int .i64 k.make, .int .i64 k.left] := by rw [hE]; exact (OwnB.here (by simp [roM_len]))
  clear hE
  try simp (config := {implicitDefEqProofs := false, maxDischargeDepth := 20}) (disch := first | omega | (simp only [lenE]; done) | (simp only [lenE]; omega) | rfl | (simp only [lenE, markR_len]; done) | (simp only [lenE, markR_len]; omega)) only [runE, mapE, listE, initT_5, initT_6, initT_7, initT_8, resV, oneV, binA, unA, reduceCtorEq, Nat.reduceEqDiff, Nat.reduceAdd, Nat.reduceLT, Nat.reduceLeDiff, Nat.reduceMul, Nat.reduceSub, ↓reduceIte, decide_true, decide_false, Bool.true_eq_false, Bool.false_eq_true, Bool.not_true, Bool.not_false, if_true, if_false, and_true, true_and, memE, celE, w64, Nat.zero_add, Nat.add_zero, Nat.mul_one, putL, and_self, ldn, oM.mk4]
  first | refine callH_rc (implIsMarket_rc _ _ k ⟨u, rfl, hX.ints hu⟩) ?_ | refine rcallH_rc (implIsMarket_rc _ _ k ⟨u, rfl, hX.ints hu⟩) ?_
  rintro r n1 ⟨rfl, nr1⟩
  obtain ⟨E1, hE1⟩ : ∃ M', M' = E ++ n1 := ⟨_, rfl⟩
  rw [← hE1]
  replace hX : Ext m E1 := by rw [hE1]; exact hX.app nr1
  replace oM := oM.ext n1
  rw [← hE1] at oM
  clear hE1
  cases g1 : k.good with
  | false =>
    try simp (config := {implicitDefEqProofs := false, maxDischargeDepth := 20}) (disch := first | omega | (simp only [lenE]; done) | (simp only [lenE]; omega) | rfl | (simp only [lenE, markR_len]; done) | (simp only [lenE, markR_len]; omega)) only [runE, mapE, listE, initT_5, initT_6, initT_7, initT_8, resV, oneV, binA, unA, reduceCtorEq, Nat.reduceEqDiff, Nat.reduceAdd, Nat.reduceLT, Nat.reduceLeDiff, Nat.reduceMul, Nat.reduceSub, ↓reduceIte, decide_true, decide_false, Bool.true_eq_false, Bool.false_eq_true, Bool.not_true, Bool.not_false, if_true, if_false, and_true, true_and, memE, celE, w64, Nat.zero_add, Nat.add_zero, Nat.mul_one, putL, and_self, ldn, bsl_no, oM.mk4]
    try simp (config := {implicitDefEqProofs := false, maxDischargeDepth := 20}) (disch := first | omega | (simp only [lenE]; done) | (simp only [lenE]; omega) | rfl | (simp only [lenE, markR_len]; done) | (simp only [lenE, markR_len]; omega)) only [runE, mapE, listE, initT_5, initT_6, initT_7, initT_8, resV, oneV, binA, unA, reduceCtorEq, Nat.reduceEqDiff, Nat.reduceAdd, Nat.reduceLT, Nat.reduceLeDiff, Nat.reduceMul, Nat.reduceSub, ↓reduceIte, decide_true, decide_false, Bool.true_eq_false, Bool.false_eq_true, Bool.not_true, Bool.not_false, if_true, if_false, and_true, true_and, memE, celE, w64, Nat.zero_add, Nat.add_zero, Nat.mul_one, putL, and_self, ldn, bsl_no]
    exact ext_noPairs (f := fun v => .tuple #[v, .bool false]) hX rfl
  | true =>
  try simp (config := {implicitDefEqProofs := false, maxDischargeDepth := 20}) (disch := first | omega | (simp only [lenE]; done) | (simp only [lenE]; omega) | rfl | (simp only [lenE, markR_len]; done) | (simp only [lenE, markR_len]; omega)) only [runE, mapE, listE, initT_5, initT_6, initT_7, initT_8, resV, oneV, binA, unA, reduceCtorEq, Nat.reduceEqDiff, Nat.reduceAdd, Nat.reduceLT, Nat.reduceLeDiff, Nat.reduceMul, Nat.reduceSub, ↓reduceIte, decide_true, decide_false, Bool.true_eq_false, Bool.false_eq_true, Bool.not_true, Bool.not_false, if_true, if_false, and_true, true_and, memE, celE, w64, Nat.zero_add, Nat.add_zero, Nat.mul_one, putL, and_self, ldn, oM.mk4]
  have hg := goodM_iff.1 g1
  have pn := plainN_in hg
  first | refine callH_rc (plainContracts_rc _ _ k ⟨u, rfl, hX.ints hu⟩ hg) ?_ | refine rcallH_rc (plainContracts_rc _ _ k ⟨u, rfl, hX.ints hu⟩ hg) ?_
  rintro r n2 ⟨nr2, a, b, rfl, ha, hb, oA, oB⟩
  rw [fL_len, fL_len]
  obtain ⟨K, hK⟩ : ∃ M', M' = E1 ++ n2 := ⟨_, rfl⟩
  rw [← hK] at oA oB ⊢
  have hX2 : Ext m K := by rw [hK]; exact hX.app nr2
  clear hK
  have LE1 := hX.len
  have hal := oA.lt
  have hbl := oB.lt
  simp (config := {implicitDefEqProofs := false, maxDischargeDepth := 20}) (disch := first | omega | (simp only [lenE]; done) | (simp only [lenE]; omega) | rfl | (simp only [lenE, markR_len]; done) | (simp only [lenE, markR_len]; omega)) only [runE, mapE, listE, initT_5, initT_6, initT_7, initT_8, resV, oneV, binA, unA, reduceCtorEq, Nat.reduceEqDiff, Nat.reduceAdd, Nat.reduceLT, Nat.reduceLeDiff, Nat.reduceMul, Nat.reduceSub, ↓reduceIte, decide_true, decide_false, Bool.true_eq_false, Bool.false_eq_true, Bool.not_true, Bool.not_false, if_true, if_false, and_true, true_and, memE, celE, w64, Nat.zero_add, Nat.add_zero, Nat.mul_one, putL, and_self, ldn, ext_2_0, ext_2_1, bsl_no]
  refine loop_inv mixed (fun s => ∃ (j : Nat) (M : Mem) (id : Nat), j ≤ plainN k ∧ s.m = M ∧ Ext m M ∧ a < id ∧ b < id ∧ OwnR M a (fL (fun (i : Nat) => ((selO k (plainC (k.make + i)) : Nat) : Int)) (plainN k)) ∧ OwnR M b (fL (fun (i : Nat) => makP k (plainC (k.make + i)) (selO k (plainC (k.make + i)))) (plainN k)) ∧ OwnB M id 83 (pairsC (plainsL k j)) ∧ s.t 19 = .slice (some ⟨a, 0, none⟩) (plainN k) 1 ∧ s.t 5 = .slice (some ⟨b, 0, none⟩) (plainN k) 1 ∧ s.t 20 = .int .i64 (plainN k : Nat) ∧ s.t 6 = .slice (some ⟨id, 0, none⟩) j 2 ∧ s.t 21 = .int .i64 (j : Int)) (fun s => 105 - (intOf (s.t 21)).toNat)
    ⟨0, _, K.length, by omega, rfl, hX2.one _ _, by omega, by omega, oA.ext _, oB.ext _, OwnB.here rfl, rfl, rfl, rfl, rfl, rfl⟩ ?_
  rintro s ⟨j, M, id, hj, tm, hX, hai, hbi, oA, oB, ho, t19, t5, t20, t6, t21⟩
  by_cases hlt : j < plainN k
  · have hlt' : (j : Int) < (plainN k : Nat) := by omega
    have iA : IntsA M (.slice (some ⟨a, 0, none⟩) (fL (fun (i : Nat) => ((selO k (plainC (k.make + i)) : Nat) : Int)) (plainN k)).length 1) _ := oA.ints (by rw [fL_len]; omega) 1
    have iB : IntsA M (.slice (some ⟨b, 0, none⟩) (fL (fun (i : Nat) => makP k (plainC (k.make + i)) (selO k (plainC (k.make + i)))) (plainN k)).length 1) _ := oB.ints (by rw [fL_len]; omega) 1
    rw [fL_len] at iA iB
    have a1 := iA.at_ j (by rw [fL_len]; exact hlt)
    have a2 := iA.ld j (by rw [fL_len]; exact hlt)
    have b1 := iB.at_ j (by rw [fL_len]; exact hlt)
    have b2 := iB.ld j (by rw [fL_len]; exact hlt)
    rw [fL_at hlt] at a2 b2
    have happ := app_back (e := 83) (sz := 2) (byt := 16) (n := j) (ys := [.int .i64 (selO k (plainC (k.make + j)) : Int), .int .i64 (makP k (plainC (k.make + j)) (selO k (plainC (k.make + j))))]) ho rfl (by rw [pairsC_len, plainsL_len]) rfl rfl (by omega) (by omega)
    simp (config := {implicitDefEqProofs := false, maxDischargeDepth := 20}) (disch := first | omega | (simp only [lenE]; done) | (simp only [lenE]; omega) | rfl | (simp only [lenE, markR_len]; done) | (simp only [lenE, markR_len]; omega)) only [runE, mapE, listE, initT_5, initT_6, initT_7, initT_8, resV, oneV, binA, unA, reduceCtorEq, Nat.reduceEqDiff, Nat.reduceAdd, Nat.reduceLT, Nat.reduceLeDiff, Nat.reduceMul, Nat.reduceSub, ↓reduceIte, decide_true, decide_false, Bool.true_eq_false, Bool.false_eq_true, Bool.not_true, Bool.not_false, if_true, if_false, and_true, true_and, memE, celE, w64, Nat.zero_add, Nat.add_zero, Nat.mul_one, putL, and_self, ldn, tm, t19, t5, t20, t6, t21, hlt', a1, a2, b1, b2, bld_pairM, bsl_pair, happ]
    have hidl := ho.lt
    have hl2 := hX.len
    refine ⟨⟨j + 1, _, M.length + 1, by omega, rfl, ((hX.dead (by omega)).one _ _).one _ _, by omega, by omega, ((oA.set_neM (by omega) _).ext _).ext _, ((oB.set_neM (by omega) _).ext _).ext _, ?_, rfl, by simp⟩, ?_⟩
    · rw [plainsL_s, pairsC_sM]
      exact OwnB.here (by simp)
    · simp [intOf]; omega
  · have hlt' : ¬ ((j : Int) < (plainN k : Nat)) := by omega
    obtain rfl : j = plainN k := by omega
    simp (config := {implicitDefEqProofs := false, maxDischargeDepth := 20}) (disch := first | omega | (simp only [lenE]; done) | (simp only [lenE]; omega) | rfl | (simp only [lenE, markR_len]; done) | (simp only [lenE, markR_len]; omega)) only [runE, mapE, listE, initT_5, initT_6, initT_7, initT_8, resV, oneV, binA, unA, reduceCtorEq, Nat.reduceEqDiff, Nat.reduceAdd, Nat.reduceLT, Nat.reduceLeDiff, Nat.reduceMul, Nat.reduceSub, ↓reduceIte, decide_true, decide_false, Bool.true_eq_false, Bool.false_eq_true, Bool.not_true, Bool.not_false, if_true, if_false, and_true, true_and, memE, celE, w64, Nat.zero_add, Nat.add_zero, Nat.mul_one, putL, and_self, ldn, tm, t19, t5, t20, t6, t21, hlt']
    exact ext_pairsM (f := fun v => .tuple #[v, .bool true]) hX ho (by omega) (by simp [plainsL_len]) (by simp [plainsL_len]; omega)
theorem specBestPlain_rc (m : Mem) (v : Value) (k : Mk) (h : MkA m v k) :
    RC Try.prog 61 [v] m (AnsV (.tuple #[.int .i64 (if k.good then bestPl k else 0), .bool k.good])) := by
  refine rc_of_run mixed ok_spec_BestPlain (by simp) (go_start _ _ _ ?_)
  obtain ⟨u, rfl, hu⟩ := h.ro
  try simp (config := {implicitDefEqProofs := false, maxDischargeDepth := 20}) (disch := first | omega | (simp only [lenE]; done) | (simp only [lenE]; omega) | rfl | (simp only [lenE, markR_len]; done) | (simp only [lenE, markR_len]; omega)) only [runE, mapE, listE, initT_5, initT_6, initT_7, initT_8, resV, oneV, binA, unA, reduceCtorEq, Nat.reduceEqDiff, Nat.reduceAdd, Nat.reduceLT, Nat.reduceLeDiff, Nat.reduceMul, Nat.reduceSub, ↓reduceIte, decide_true, decide_false, Bool.true_eq_false, Bool.false_eq_true, Bool.not_true, Bool.not_false, if_true, if_false, and_true, true_and, memE, celE, w64, Nat.zero_add, Nat.add_zero, Nat.mul_one, putL, and_self, ldn, c_spec_BestPlain, r_spec_BestPlain]
  obtain ⟨E, hE⟩ : ∃ M', M' = roM m ++ [⟨.own, 27, [u, .int .i64 k.price, .int .i64 k.make, .int .i64 k.left]⟩] := ⟨_, rfl⟩
  rw [← hE]
  have hX : Ext m E := by rw [hE]; exact ((Ext.refl m).one _ _)
  have LE : E.length = m.length + 1 := by rw [hE]; simp [roM_len]
  have oM : OwnB E (m.length) 27 [u, .int .i64 k.price, .int .i64 k.make, .int .i64 k.left] := by rw [hE]; exact (OwnB.here (by simp [roM_len]))
  clear hE
  try simp (config := {implicitDefEqProofs := false, maxDischargeDepth := 20}) (disch := first | omega | (simp only [lenE]; done) | (simp only [lenE]; omega) | rfl | (simp only [lenE, markR_len]; done) | (simp only [lenE, markR_len]; omega)) only [runE, mapE, listE, initT_5, initT_6, initT_7, initT_8, resV, oneV, binA, unA, reduceCtorEq, Nat.reduceEqDiff, Nat.reduceAdd, Nat.reduceLT, Nat.reduceLeDiff, Nat.reduceMul, Nat.reduceSub, ↓reduceIte, decide_true, decide_false, Bool.true_eq_false, Bool.false_eq_true, Bool.not_true, Bool.not_false, if_true, if_false, and_true, true_and, memE, celE, w64, Nat.zero_add, Nat.add_zero, Nat.mul_one, putL, and_self, ldn, oM.mk4]
  first | refine callH_rc (l10Market_rc _ _ k ⟨u, rfl, hX.ints hu⟩) ?_ | refine rcallH_rc (l10Market_rc _ _ k ⟨u, rfl, hX.ints hu⟩) ?_
  rintro r n1 ⟨rfl, nr1⟩
  obtain ⟨E1, hE1⟩ : ∃ M', M' = E ++ n1 := ⟨_, rfl⟩
  rw [← hE1]
  replace hX : Ext m E1 := by rw [hE1]; exact hX.app nr1
  replace oM := oM.ext n1
  rw [← hE1] at oM
  clear hE1
  cases g1 : k.good with
  | false =>
    try simp (config := {implicitDefEqProofs := false, maxDischargeDepth := 20}) (disch := first | omega | (simp only [lenE]; done) | (simp only [lenE]; omega) | rfl | (simp only [lenE, markR_len]; done) | (simp only [lenE, markR_len]; omega)) only [runE, mapE, listE, initT_5, initT_6, initT_7, initT_8, resV, oneV, binA, unA, reduceCtorEq, Nat.reduceEqDiff, Nat.reduceAdd, Nat.reduceLT, Nat.reduceLeDiff, Nat.reduceMul, Nat.reduceSub, ↓reduceIte, decide_true, decide_false, Bool.true_eq_false, Bool.false_eq_true, Bool.not_true, Bool.not_false, if_true, if_false, and_true, true_and, memE, celE, w64, Nat.zero_add, Nat.add_zero, Nat.mul_one, putL, and_self, ldn, oM.mk4]
    exact ext_ansV hX (by simp)
  | true =>
  try simp (config := {implicitDefEqProofs := false, maxDischargeDepth := 20}) (disch := first | omega | (simp only [lenE]; done) | (simp only [lenE]; omega) | rfl | (simp only [lenE, markR_len]; done) | (simp only [lenE, markR_len]; omega)) only [runE, mapE, listE, initT_5, initT_6, initT_7, initT_8, resV, oneV, binA, unA, reduceCtorEq, Nat.reduceEqDiff, Nat.reduceAdd, Nat.reduceLT, Nat.reduceLeDiff, Nat.reduceMul, Nat.reduceSub, ↓reduceIte, decide_true, decide_false, Bool.true_eq_false, Bool.false_eq_true, Bool.not_true, Bool.not_false, if_true, if_false, and_true, true_and, memE, celE, w64, Nat.zero_add, Nat.add_zero, Nat.mul_one, putL, and_self, ldn, oM.mk4]
  have hg := goodM_iff.1 g1
  have pn := plainN_in hg
  have hm := hg.make
  have hp := hg.price
  first | refine callH_rc (l10Plains_rc _ _ k ⟨u, rfl, hX.ints hu⟩ hg) ?_ | refine rcallH_rc (l10Plains_rc _ _ k ⟨u, rfl, hX.ints hu⟩ hg) ?_
  rintro r n2 ⟨nr2, w, e, hw⟩
  rw [id_eq] at e
  subst e
  obtain ⟨-, id, fl, rfl, -, -, ho⟩ := hw.now
  rw [plainsL_len]
  obtain ⟨K, hK⟩ : ∃ M', M' = E1 ++ n2 := ⟨_, rfl⟩
  rw [← hK] at ho ⊢
  have hX2 : Ext m K := by rw [hK]; exact hX.app nr2
  have oM2 : OwnB K m.length 27 [u, .int .i64 k.price, .int .i64 k.make, .int .i64 k.left] := by rw [hK]; exact oM.ext _
  clear hK
  have rdp : ∀ j, j < plainN k → rdc K id (j * 2 + 1) = some (.int .i64 (plainP k j).2) := fun j hj => by rw [ho.rd, (pairsC_at _ j (by rw [plainsL_len]; exact hj)).2, plainsL_at hj]
  simp (config := {implicitDefEqProofs := false, maxDischargeDepth := 20}) (disch := first | omega | (simp only [lenE]; done) | (simp only [lenE]; omega) | rfl | (simp only [lenE, markR_len]; done) | (simp only [lenE, markR_len]; omega)) only [runE, mapE, listE, initT_5, initT_6, initT_7, initT_8, resV, oneV, binA, unA, reduceCtorEq, Nat.reduceEqDiff, Nat.reduceAdd, Nat.reduceLT, Nat.reduceLeDiff, Nat.reduceMul, Nat.reduceSub, ↓reduceIte, decide_true, decide_false, Bool.true_eq_false, Bool.false_eq_true, Bool.not_true, Bool.not_false, if_true, if_false, and_true, true_and, memE, celE, w64, Nat.zero_add, Nat.add_zero, Nat.mul_one, putL, and_self, ldn]
  obtain ⟨f, hf⟩ : ∃ f : Nat → Int, f = fun i => (plainP k i).2 := ⟨_, rfl⟩
  refine loop_inv mixed (fun s => ∃ (j : Nat), j + 1 ≤ plainN k ∧ s.m = K ∧ s.t 1 = .pointer (some ⟨m.length, 0, none⟩) ∧ s.t 4 = .slice (some ⟨id, 0, none⟩) (plainN k) fl ∧ s.t 5 = .int .i64 ((argG f j : Nat) : Int) ∧ s.t 6 = .int .i64 ((j + 1 : Nat) : Int)) (fun s => 105 - (intOf (s.t 6)).toNat)
    ⟨0, by omega, rfl, rfl, rfl, rfl, rfl⟩ ?_
  rintro s ⟨j, hj, tm, t1, t4, t5, t6⟩
  have hA := argG_le f j
  by_cases hlt : j + 1 < plainN k
  · have hlt' : ((j + 1 : Nat) : Int) < (plainN k : Nat) := by omega
    have hal : argG f j < plainN k := by omega
    have r1 := rdp (j + 1) hlt
    have r2 := rdp (argG f j) hal
    rw [show (plainP k (j + 1)).2 = f (j + 1) by rw [hf]] at r1
    rw [show (plainP k (argG f j)).2 = f (argG f j) by rw [hf]] at r2
    by_cases hc2 : f (argG f j) < f (j + 1)
    · simp (config := {implicitDefEqProofs := false, maxDischargeDepth := 20}) (disch := first | omega | (simp only [lenE]; done) | (simp only [lenE]; omega) | rfl | (simp only [lenE, markR_len]; done) | (simp only [lenE, markR_len]; omega)) only [runE, mapE, listE, initT_5, initT_6, initT_7, initT_8, resV, oneV, binA, unA, reduceCtorEq, Nat.reduceEqDiff, Nat.reduceAdd, Nat.reduceLT, Nat.reduceLeDiff, Nat.reduceMul, Nat.reduceSub, ↓reduceIte, decide_true, decide_false, Bool.true_eq_false, Bool.false_eq_true, Bool.not_true, Bool.not_false, if_true, if_false, and_true, true_and, memE, celE, w64, Nat.zero_add, Nat.add_zero, Nat.mul_one, putL, and_self, ldn, tm, t1, t4, t5, t6, hlt', iadA_in hlt, iadA_in hal, iada_1, r1, r2, gt_iff_lt, hc2]
      exact ⟨⟨j + 1, by omega, by simp only [argG]; rw [if_pos hc2], by simp⟩, by simp [intOf]; omega⟩
    · simp (config := {implicitDefEqProofs := false, maxDischargeDepth := 20}) (disch := first | omega | (simp only [lenE]; done) | (simp only [lenE]; omega) | rfl | (simp only [lenE, markR_len]; done) | (simp only [lenE, markR_len]; omega)) only [runE, mapE, listE, initT_5, initT_6, initT_7, initT_8, resV, oneV, binA, unA, reduceCtorEq, Nat.reduceEqDiff, Nat.reduceAdd, Nat.reduceLT, Nat.reduceLeDiff, Nat.reduceMul, Nat.reduceSub, ↓reduceIte, decide_true, decide_false, Bool.true_eq_false, Bool.false_eq_true, Bool.not_true, Bool.not_false, if_true, if_false, and_true, true_and, memE, celE, w64, Nat.zero_add, Nat.add_zero, Nat.mul_one, putL, and_self, ldn, tm, t1, t4, t5, t6, hlt', iadA_in hlt, iadA_in hal, iada_1, r1, r2, gt_iff_lt, hc2]
      exact ⟨⟨j + 1, by omega, by simp only [argG]; rw [if_neg hc2], by simp⟩, by simp [intOf]; omega⟩
  · have hlt' : ¬ (((j + 1 : Nat) : Int) < (plainN k : Nat)) := by omega
    have ej : j = plainN k - 1 := by omega
    simp (config := {implicitDefEqProofs := false, maxDischargeDepth := 20}) (disch := first | omega | (simp only [lenE]; done) | (simp only [lenE]; omega) | rfl | (simp only [lenE, markR_len]; done) | (simp only [lenE, markR_len]; omega)) only [runE, mapE, listE, initT_5, initT_6, initT_7, initT_8, resV, oneV, binA, unA, reduceCtorEq, Nat.reduceEqDiff, Nat.reduceAdd, Nat.reduceLT, Nat.reduceLeDiff, Nat.reduceMul, Nat.reduceSub, ↓reduceIte, decide_true, decide_false, Bool.true_eq_false, Bool.false_eq_true, Bool.not_true, Bool.not_false, if_true, if_false, and_true, true_and, memE, celE, w64, Nat.zero_add, Nat.add_zero, Nat.mul_one, putL, and_self, ldn, tm, t1, t4, t5, t6, hlt', oM2.mk4]
    exact ext_ansV hX2 (by simp [bestPl, ← hf, ej])
theorem implBestPlain_rc (m : Mem) (v : Value) (k : Mk) (h : MkA m v k) :
    RC Try.prog 62 [v] m (AnsV (.tuple #[.int .i64 (if k.good then bestPl k else 0), .bool k.good])) := by
  refine rc_of_run mixed ok_impl_BestPlain (by simp) (go_start _ _ _ ?_)
  obtain ⟨u, rfl, hu⟩ := h.ro
  try simp (config := {implicitDefEqProofs := false, maxDischargeDepth := 20}) (disch := first | omega | (simp only [lenE]; done) | (simp only [lenE]; omega) | rfl | (simp only [lenE, markR_len]; done) | (simp only [lenE, markR_len]; omega)) only [runE, mapE, listE, initT_5, initT_6, initT_7, initT_8, resV, oneV, binA, unA, reduceCtorEq, Nat.reduceEqDiff, Nat.reduceAdd, Nat.reduceLT, Nat.reduceLeDiff, Nat.reduceMul, Nat.reduceSub, ↓reduceIte, decide_true, decide_false, Bool.true_eq_false, Bool.false_eq_true, Bool.not_true, Bool.not_false, if_true, if_false, and_true, true_and, memE, celE, w64, Nat.zero_add, Nat.add_zero, Nat.mul_one, putL, and_self, ldn, c_impl_BestPlain, r_impl_BestPlain]
  obtain ⟨E, hE⟩ : ∃ M', M' = roM m ++ [⟨.own, 27, [u, .int .i64 k.price, .int .i64 k.make, .int .i64 k.left]⟩] := ⟨_, rfl⟩
  rw [← hE]
  have hX : Ext m E := by rw [hE]; exact ((Ext.refl m).one _ _)
  have LE : E.length = m.length + 1 := by rw [hE]; simp [roM_len]
  have oM : OwnB E (m.length) 27 [u, .int .i64 k.price, .int .i64 k.make, .int .i64 k.left] := by rw [hE]; exact (OwnB.here (by simp [roM_len]))
  clear hE
  try simp (config := {implicitDefEqProofs := false, maxDischargeDepth := 20}) (disch := first | omega | (simp only [lenE]; done) | (simp only [lenE]; omega) | rfl | (simp only [lenE, markR_len]; done) | (simp only [lenE, markR_len]; omega)) only [runE, mapE, listE, initT_5, initT_6, initT_7, initT_8, resV, oneV, binA, unA, reduceCtorEq, Nat.reduceEqDiff, Nat.reduceAdd, Nat.reduceLT, Nat.reduceLeDiff, Nat.reduceMul, Nat.reduceSub, ↓reduceIte, decide_true, decide_false, Bool.true_eq_false, Bool.false_eq_true, Bool.not_true, Bool.not_false, if_true, if_false, and_true, true_and, memE, celE, w64, Nat.zero_add, Nat.add_zero, Nat.mul_one, putL, and_self, ldn, oM.mk4]
  first | refine callH_rc (implIsMarket_rc _ _ k ⟨u, rfl, hX.ints hu⟩) ?_ | refine rcallH_rc (implIsMarket_rc _ _ k ⟨u, rfl, hX.ints hu⟩) ?_
  rintro r n1 ⟨rfl, nr1⟩
  obtain ⟨E1, hE1⟩ : ∃ M', M' = E ++ n1 := ⟨_, rfl⟩
  rw [← hE1]
  replace hX : Ext m E1 := by rw [hE1]; exact hX.app nr1
  replace oM := oM.ext n1
  rw [← hE1] at oM
  clear hE1
  cases g1 : k.good with
  | false =>
    try simp (config := {implicitDefEqProofs := false, maxDischargeDepth := 20}) (disch := first | omega | (simp only [lenE]; done) | (simp only [lenE]; omega) | rfl | (simp only [lenE, markR_len]; done) | (simp only [lenE, markR_len]; omega)) only [runE, mapE, listE, initT_5, initT_6, initT_7, initT_8, resV, oneV, binA, unA, reduceCtorEq, Nat.reduceEqDiff, Nat.reduceAdd, Nat.reduceLT, Nat.reduceLeDiff, Nat.reduceMul, Nat.reduceSub, ↓reduceIte, decide_true, decide_false, Bool.true_eq_false, Bool.false_eq_true, Bool.not_true, Bool.not_false, if_true, if_false, and_true, true_and, memE, celE, w64, Nat.zero_add, Nat.add_zero, Nat.mul_one, putL, and_self, ldn, oM.mk4]
    exact ext_ansV hX (by simp)
  | true =>
  try simp (config := {implicitDefEqProofs := false, maxDischargeDepth := 20}) (disch := first | omega | (simp only [lenE]; done) | (simp only [lenE]; omega) | rfl | (simp only [lenE, markR_len]; done) | (simp only [lenE, markR_len]; omega)) only [runE, mapE, listE, initT_5, initT_6, initT_7, initT_8, resV, oneV, binA, unA, reduceCtorEq, Nat.reduceEqDiff, Nat.reduceAdd, Nat.reduceLT, Nat.reduceLeDiff, Nat.reduceMul, Nat.reduceSub, ↓reduceIte, decide_true, decide_false, Bool.true_eq_false, Bool.false_eq_true, Bool.not_true, Bool.not_false, if_true, if_false, and_true, true_and, memE, celE, w64, Nat.zero_add, Nat.add_zero, Nat.mul_one, putL, and_self, ldn, oM.mk4]
  have hg := goodM_iff.1 g1
  have pn := plainN_in hg
  have hm := hg.make
  have hp := hg.price
  first | refine callH_rc (plainContracts_rc _ _ k ⟨u, rfl, hX.ints hu⟩ hg) ?_ | refine rcallH_rc (plainContracts_rc _ _ k ⟨u, rfl, hX.ints hu⟩ hg) ?_
  rintro r n2 ⟨nr2, a, b, rfl, ha, hb, oA, oB⟩
  obtain ⟨K, hK⟩ : ∃ M', M' = E1 ++ n2 := ⟨_, rfl⟩
  rw [← hK] at oA oB ⊢
  have hX2 : Ext m K := by rw [hK]; exact hX.app nr2
  have oM2 : OwnB K m.length 27 [u, .int .i64 k.price, .int .i64 k.make, .int .i64 k.left] := by rw [hK]; exact oM.ext _
  clear hK
  have iB : IntsA K (.slice (some ⟨b, 0, none⟩) (fL (fun (i : Nat) => makP k (plainC (k.make + i)) (selO k (plainC (k.make + i)))) (plainN k)).length 1) _ := oB.ints (by rw [fL_len]; omega) 1
  simp (config := {implicitDefEqProofs := false, maxDischargeDepth := 20}) (disch := first | omega | (simp only [lenE]; done) | (simp only [lenE]; omega) | rfl | (simp only [lenE, markR_len]; done) | (simp only [lenE, markR_len]; omega)) only [runE, mapE, listE, initT_5, initT_6, initT_7, initT_8, resV, oneV, binA, unA, reduceCtorEq, Nat.reduceEqDiff, Nat.reduceAdd, Nat.reduceLT, Nat.reduceLeDiff, Nat.reduceMul, Nat.reduceSub, ↓reduceIte, decide_true, decide_false, Bool.true_eq_false, Bool.false_eq_true, Bool.not_true, Bool.not_false, if_true, if_false, and_true, true_and, memE, celE, w64, Nat.zero_add, Nat.add_zero, Nat.mul_one, putL, and_self, ldn, ext_2_0, ext_2_1]
  refine callH_rc (firstGreatest_rc _ _ _ iB (by rw [fL_len]; omega)) ?_
  rintro r n3 ⟨rfl, rfl⟩
  rw [List.append_nil]
  have eg : gL (fL (fun (i : Nat) => makP k (plainC (k.make + i)) (selO k (plainC (k.make + i)))) (plainN k)) = argG (fun i => (plainP k i).2) (plainN k - 1) := by
    obtain ⟨q, hq⟩ : ∃ q, plainN k = q + 1 := ⟨plainN k - 1, by omega⟩
    rw [hq, gL_f, Nat.add_sub_cancel]; rfl
  rw [eg]
  have hA := argG_le (fun i => (plainP k i).2) (plainN k - 1)
  simp (config := {implicitDefEqProofs := false, maxDischargeDepth := 20}) (disch := first | omega | (simp only [lenE]; done) | (simp only [lenE]; omega) | rfl | (simp only [lenE, markR_len]; done) | (simp only [lenE, markR_len]; omega)) only [runE, mapE, listE, initT_5, initT_6, initT_7, initT_8, resV, oneV, binA, unA, reduceCtorEq, Nat.reduceEqDiff, Nat.reduceAdd, Nat.reduceLT, Nat.reduceLeDiff, Nat.reduceMul, Nat.reduceSub, ↓reduceIte, decide_true, decide_false, Bool.true_eq_false, Bool.false_eq_true, Bool.not_true, Bool.not_false, if_true, if_false, and_true, true_and, memE, celE, w64, Nat.zero_add, Nat.add_zero, Nat.mul_one, putL, and_self, ldn, ext_2_0, ext_2_1, oM2.mk4]
  exact ext_ansV hX2 (by simp [bestPl])
theorem specBackContracts_rc (m : Mem) (v : Value) (k : Mk) (h : MkA m v k) :
    RC Try.prog 63 [v] m (AnsO m (CtsO 34 (backsA k)) fun v => .tuple #[v, .bool k.good]) := by
  refine rc_of_run mixed ok_spec_BackContracts (by simp) (go_start _ _ _ ?_)
  obtain ⟨u, rfl, hu⟩ := h.ro
  unfold backsA
  try simp (config := {implicitDefEqProofs := false, maxDischargeDepth := 20}) (disch := first | omega | (simp only [lenE]; done) | (simp only [lenE]; omega) | rfl | (simp only [lenE, markR_len]; done) | (simp only [lenE, markR_len]; omega)) only [runE, mapE, listE, initT_5, initT_6, initT_7, initT_8, resV, oneV, binA, unA, reduceCtorEq, Nat.reduceEqDiff, Nat.reduceAdd, Nat.reduceLT, Nat.reduceLeDiff, Nat.reduceMul, Nat.reduceSub, ↓reduceIte, decide_true, decide_false, Bool.true_eq_false, Bool.false_eq_true, Bool.not_true, Bool.not_false, if_true, if_false, and_true, true_and, memE, celE, w64, Nat.zero_add, Nat.add_zero, Nat.mul_one, putL, and_self, ldn, c_spec_BackContracts, r_spec_BackContracts, bsl_no]
  obtain ⟨E, hE⟩ : ∃ M', M' = roM m ++ [⟨.own, 27, [u, .int .i64 k.price, .int .i64 k.make, .int .i64 k.left]⟩] ++ [⟨.own, 34, []⟩] := ⟨_, rfl⟩
  rw [← hE]
  have hX : Ext m E := by rw [hE]; exact (((Ext.refl m).one _ _).one _ _)
  have LE : E.length = m.length + 2 := by rw [hE]; simp [roM_len]
  have oM : OwnB E (m.length) 27 [u, .int .i64 k.price, .int .i64 k.make, .int .i64 k.left] := by rw [hE]; exact ((OwnB.here (by simp [roM_len])).ext _)
  have oP : OwnB E (m.length + 1) 34 [] := by rw [hE]; exact (OwnB.here (by simp [roM_len]))
  clear hE
  try simp (config := {implicitDefEqProofs := false, maxDischargeDepth := 20}) (disch := first | omega | (simp only [lenE]; done) | (simp only [lenE]; omega) | rfl | (simp only [lenE, markR_len]; done) | (simp only [lenE, markR_len]; omega)) only [runE, mapE, listE, initT_5, initT_6, initT_7, initT_8, resV, oneV, binA, unA, reduceCtorEq, Nat.reduceEqDiff, Nat.reduceAdd, Nat.reduceLT, Nat.reduceLeDiff, Nat.reduceMul, Nat.reduceSub, ↓reduceIte, decide_true, decide_false, Bool.true_eq_false, Bool.false_eq_true, Bool.not_true, Bool.not_false, if_true, if_false, and_true, true_and, memE, celE, w64, Nat.zero_add, Nat.add_zero, Nat.mul_one, putL, and_self, ldn, bsl_no, oM.mk4]
  first | refine callH_rc (l10Market_rc _ _ k ⟨u, rfl, hX.ints hu⟩) ?_ | refine rcallH_rc (l10Market_rc _ _ k ⟨u, rfl, hX.ints hu⟩) ?_
  rintro r n1 ⟨rfl, nr1⟩
  obtain ⟨E1, hE1⟩ : ∃ M', M' = E ++ n1 := ⟨_, rfl⟩
  rw [← hE1]
  replace hX : Ext m E1 := by rw [hE1]; exact hX.app nr1
  replace oM := oM.ext n1
  rw [← hE1] at oM
  replace oP := oP.ext n1
  rw [← hE1] at oP
  clear hE1
  cases g1 : k.good with
  | false =>
    try simp (config := {implicitDefEqProofs := false, maxDischargeDepth := 20}) (disch := first | omega | (simp only [lenE]; done) | (simp only [lenE]; omega) | rfl | (simp only [lenE, markR_len]; done) | (simp only [lenE, markR_len]; omega)) only [runE, mapE, listE, initT_5, initT_6, initT_7, initT_8, resV, oneV, binA, unA, reduceCtorEq, Nat.reduceEqDiff, Nat.reduceAdd, Nat.reduceLT, Nat.reduceLeDiff, Nat.reduceMul, Nat.reduceSub, ↓reduceIte, decide_true, decide_false, Bool.true_eq_false, Bool.false_eq_true, Bool.not_true, Bool.not_false, if_true, if_false, and_true, true_and, memE, celE, w64, Nat.zero_add, Nat.add_zero, Nat.mul_one, putL, and_self, ldn, oM.mk4]
    exact ext_ctsM (f := fun v => .tuple #[v, .bool false]) (L := []) hX oP (by omega) rfl (by simp)
  | true =>
  try simp (config := {implicitDefEqProofs := false, maxDischargeDepth := 20}) (disch := first | omega | (simp only [lenE]; done) | (simp only [lenE]; omega) | rfl | (simp only [lenE, markR_len]; done) | (simp only [lenE, markR_len]; omega)) only [runE, mapE, listE, initT_5, initT_6, initT_7, initT_8, resV, oneV, binA, unA, reduceCtorEq, Nat.reduceEqDiff, Nat.reduceAdd, Nat.reduceLT, Nat.reduceLeDiff, Nat.reduceMul, Nat.reduceSub, ↓reduceIte, decide_true, decide_false, Bool.true_eq_false, Bool.false_eq_true, Bool.not_true, Bool.not_false, if_true, if_false, and_true, true_and, memE, celE, w64, Nat.zero_add, Nat.add_zero, Nat.mul_one, putL, and_self, ldn, oM.mk4]
  have hg := goodM_iff.1 g1
  refine loop_inv mixed (fun s => ∃ (b : Nat) (M : Mem) (id : Nat), b ≤ 100 ∧ s.m = M ∧ Ext m M ∧ OwnB M m.length 27 [u, .int .i64 k.price, .int .i64 k.make, .int .i64 k.left] ∧ m.length + 1 ≤ id ∧ OwnB M id 34 (ctsC (backsL k b)) ∧ s.t 1 = .pointer (some ⟨m.length, 0, none⟩) ∧ s.t 4 = .slice (some ⟨id, 0, none⟩) (backsL k b).length 3 ∧ s.t 5 = .int .i64 (b : Int)) (fun s => 105 - (intOf (s.t 5)).toNat)
    ⟨0, _, m.length + 1, by omega, rfl, hX, oM, by omega, oP, rfl, rfl, rfl⟩ ?_
  rintro s ⟨b, M, id, hb, tm, hX, oM, hid, ho, t1, t4, t5⟩
  by_cases hlt : b < 100
  · have hlt' : (b : Int) ≤ 99 := by omega
    simp (config := {implicitDefEqProofs := false, maxDischargeDepth := 20}) (disch := first | omega | (simp only [lenE]; done) | (simp only [lenE]; omega) | rfl | (simp only [lenE, markR_len]; done) | (simp only [lenE, markR_len]; omega)) only [runE, mapE, listE, initT_5, initT_6, initT_7, initT_8, resV, oneV, binA, unA, reduceCtorEq, Nat.reduceEqDiff, Nat.reduceAdd, Nat.reduceLT, Nat.reduceLeDiff, Nat.reduceMul, Nat.reduceSub, ↓reduceIte, decide_true, decide_false, Bool.true_eq_false, Bool.false_eq_true, Bool.not_true, Bool.not_false, if_true, if_false, and_true, true_and, memE, celE, w64, Nat.zero_add, Nat.add_zero, Nat.mul_one, putL, and_self, ldn, tm, t1, t4, t5, hlt']
    refine loop_inv mixed (fun s => ∃ (p : Nat) (M : Mem) (id : Nat), p ≤ 100 ∧ s.m = M ∧ Ext m M ∧ OwnB M m.length 27 [u, .int .i64 k.price, .int .i64 k.make, .int .i64 k.left] ∧ m.length + 1 ≤ id ∧ OwnB M id 34 (ctsC (backsL k b ++ paysL k b 100 p)) ∧ s.t 1 = .pointer (some ⟨m.length, 0, none⟩) ∧ s.t 4 = .slice (some ⟨id, 0, none⟩) (backsL k b ++ paysL k b 100 p).length 3 ∧ s.t 5 = .int .i64 (b : Int) ∧ s.t 6 = .int .i64 (p : Int)) (fun s => 105 - (intOf (s.t 6)).toNat)
      ⟨0, M, id, by omega, tm, hX, oM, hid, by simpa [paysL] using ho, t1, by simp only [put_t, put_t', put_m, putT_t, putT_t', putT_m, init_t, init_m, initT_0, initT_1, initT_2, initT_3, initT_4, initT_5, initT_6, initT_7, initT_8, Nat.reduceEqDiff, ↓reduceIte, t4]; simp [paysL], t5, rfl⟩ ?_
    rintro s ⟨p, M, id, hp, tm, hX, oM, hid, ho, t1, t4, t5, t6⟩
    have hbd := backs_bd hg hlt p
    by_cases hlp : p < 100
    · have hlp' : (p : Int) ≤ 99 := by omega
      simp (config := {implicitDefEqProofs := false, maxDischargeDepth := 20}) (disch := first | omega | (simp only [lenE]; done) | (simp only [lenE]; omega) | rfl | (simp only [lenE, markR_len]; done) | (simp only [lenE, markR_len]; omega)) only [runE, mapE, listE, initT_5, initT_6, initT_7, initT_8, resV, oneV, binA, unA, reduceCtorEq, Nat.reduceEqDiff, Nat.reduceAdd, Nat.reduceLT, Nat.reduceLeDiff, Nat.reduceMul, Nat.reduceSub, ↓reduceIte, decide_true, decide_false, Bool.true_eq_false, Bool.false_eq_true, Bool.not_true, Bool.not_false, if_true, if_false, and_true, true_and, memE, celE, w64, Nat.zero_add, Nat.add_zero, Nat.mul_one, putL, and_self, ldn, tm, t1, t4, t5, t6, hlp', bld_ct3, oM.mk4]
      obtain ⟨M1, hM1⟩ : ∃ M', M' = M ++ [⟨.own, 34, [.int .i64 (p : Int), .int .i64 (b : Int), .int .i64 100]⟩] := ⟨_, rfl⟩
      try rw [← hM1]
      have hX1 : Ext m M1 := by rw [hM1]; exact hX.one _ _
      have oM1 : OwnB M1 m.length 27 [u, .int .i64 k.price, .int .i64 k.make, .int .i64 k.left] := by rw [hM1]; exact oM.ext _
      have oC : OwnB M1 M.length 34 [.int .i64 (p : Int), .int .i64 (b : Int), .int .i64 100] := by rw [hM1]; exact OwnB.here rfl
      have ho1 : OwnB M1 id 34 (ctsC (backsL k b ++ paysL k b 100 p)) := by rw [hM1]; exact ho.ext _
      clear hM1
      try simp (config := {implicitDefEqProofs := false, maxDischargeDepth := 20}) (disch := first | omega | (simp only [lenE]; done) | (simp only [lenE]; omega) | rfl | (simp only [lenE, markR_len]; done) | (simp only [lenE, markR_len]; omega)) only [runE, mapE, listE, initT_5, initT_6, initT_7, initT_8, resV, oneV, binA, unA, reduceCtorEq, Nat.reduceEqDiff, Nat.reduceAdd, Nat.reduceLT, Nat.reduceLeDiff, Nat.reduceMul, Nat.reduceSub, ↓reduceIte, decide_true, decide_false, Bool.true_eq_false, Bool.false_eq_true, Bool.not_true, Bool.not_false, if_true, if_false, and_true, true_and, memE, celE, w64, Nat.zero_add, Nat.add_zero, Nat.mul_one, putL, and_self, ldn, tm, t1, t4, t5, t6, oM1.mk4, oC.mk3]
      first | refine callH_rc (l10Proportion_rc _ _ k ⟨p, b, 100⟩ ⟨u, rfl, hX1.ints hu⟩ hg ⟨by simp; omega, by simp; omega, by simp⟩) ?_ | refine rcallH_rc (l10Proportion_rc _ _ k ⟨p, b, 100⟩ ⟨u, rfl, hX1.ints hu⟩ hg ⟨by simp; omega, by simp; omega, by simp⟩) ?_
      rintro r n2 ⟨rfl, nr2⟩
      obtain ⟨M2, hM2⟩ : ∃ M', M' = M1 ++ n2 := ⟨_, rfl⟩
      rw [← hM2]
      have hX2 : Ext m M2 := by rw [hM2]; exact hX1.app nr2
      have oM2 : OwnB M2 m.length 27 [u, .int .i64 k.price, .int .i64 k.make, .int .i64 k.left] := by rw [hM2]; exact oM1.ext _
      have oC2 : OwnB M2 M.length 34 [.int .i64 (p : Int), .int .i64 (b : Int), .int .i64 100] := by rw [hM2]; exact oC.ext _
      have ho2 : OwnB M2 id 34 (ctsC (backsL k b ++ paysL k b 100 p)) := by rw [hM2]; exact ho1.ext _
      clear hM2
      cases hpr : propB k ⟨p, b, 100⟩ with
      | true =>
        have happ := app_back (e := 34) (sz := 3) (byt := 24) (n := (backsL k b ++ paysL k b 100 p).length) (ys := [.int .i64 (p : Int), .int .i64 (b : Int), .int .i64 100]) ho2 rfl (by rw [ctsC_len]) rfl rfl (by omega) (by omega)
        obtain ⟨N, hN⟩ : ∃ N, N = (backsL k b ++ paysL k b 100 p).length := ⟨_, rfl⟩
        rw [← hN] at happ t4
        simp (config := {implicitDefEqProofs := false, maxDischargeDepth := 20}) (disch := first | omega | (simp only [lenE]; done) | (simp only [lenE]; omega) | rfl | (simp only [lenE, markR_len]; done) | (simp only [lenE, markR_len]; omega)) only [runE, mapE, listE, initT_5, initT_6, initT_7, initT_8, resV, oneV, binA, unA, reduceCtorEq, Nat.reduceEqDiff, Nat.reduceAdd, Nat.reduceLT, Nat.reduceLeDiff, Nat.reduceMul, Nat.reduceSub, ↓reduceIte, decide_true, decide_false, Bool.true_eq_false, Bool.false_eq_true, Bool.not_true, Bool.not_false, if_true, if_false, and_true, true_and, memE, celE, w64, Nat.zero_add, Nat.add_zero, Nat.mul_one, putL, and_self, ldn, tm, t1, t4, t5, t6, oC2.mk3, bsl_ct, happ]
        have hidl := ho2.lt
        have hl2 := hX2.len
        refine ⟨⟨p + 1, _, M2.length + 1, by omega, rfl, ((hX2.dead (by omega)).one _ _).one _ _, oM2.at_ (same_gen (by omega) hidl), by omega, ?_, ?_, by simp⟩, by simp [intOf]; omega⟩
        · rw [pays_s, hpr, if_pos rfl, ← List.append_assoc, ctsC_app (backsL k b ++ paysL k b 100 p)]; exact OwnB.here (by simp)
        · rw [pays_s, hpr, if_pos rfl]; simp only [List.length_append, List.length_cons, List.length_nil] at hN ⊢; congr 1; omega
      | false =>
        simp (config := {implicitDefEqProofs := false, maxDischargeDepth := 20}) (disch := first | omega | (simp only [lenE]; done) | (simp only [lenE]; omega) | rfl | (simp only [lenE, markR_len]; done) | (simp only [lenE, markR_len]; omega)) only [runE, mapE, listE, initT_5, initT_6, initT_7, initT_8, resV, oneV, binA, unA, reduceCtorEq, Nat.reduceEqDiff, Nat.reduceAdd, Nat.reduceLT, Nat.reduceLeDiff, Nat.reduceMul, Nat.reduceSub, ↓reduceIte, decide_true, decide_false, Bool.true_eq_false, Bool.false_eq_true, Bool.not_true, Bool.not_false, if_true, if_false, and_true, true_and, memE, celE, w64, Nat.zero_add, Nat.add_zero, Nat.mul_one, putL, and_self, ldn, tm, t1, t4, t5, t6]
        refine ⟨⟨p + 1, _, id, by omega, rfl, hX2, oM2, hid, ?_, ?_, by simp⟩, by simp [intOf]; omega⟩
        · rw [pays_s, hpr]; simpa using ho2
        · rw [pays_s, hpr]; simp
    · have hlp' : ¬ ((p : Int) ≤ 99) := by omega
      obtain rfl : p = 100 := by omega
      simp (config := {implicitDefEqProofs := false, maxDischargeDepth := 20}) (disch := first | omega | (simp only [lenE]; done) | (simp only [lenE]; omega) | rfl | (simp only [lenE, markR_len]; done) | (simp only [lenE, markR_len]; omega)) only [runE, mapE, listE, initT_5, initT_6, initT_7, initT_8, resV, oneV, binA, unA, reduceCtorEq, Nat.reduceEqDiff, Nat.reduceAdd, Nat.reduceLT, Nat.reduceLeDiff, Nat.reduceMul, Nat.reduceSub, ↓reduceIte, decide_true, decide_false, Bool.true_eq_false, Bool.false_eq_true, Bool.not_true, Bool.not_false, if_true, if_false, and_true, true_and, memE, celE, w64, Nat.zero_add, Nat.add_zero, Nat.mul_one, putL, and_self, ldn, tm, t1, t4, t5, t6, hlp']
      exact ⟨⟨b + 1, _, id, by omega, rfl, hX, oM, hid, by rw [backs_s]; exact ho, by rw [backs_s, List.length_append], by simp⟩, by simp [intOf]; omega⟩
  · have hlt' : ¬ ((b : Int) ≤ 99) := by omega
    obtain rfl : b = 100 := by omega
    simp (config := {implicitDefEqProofs := false, maxDischargeDepth := 20}) (disch := first | omega | (simp only [lenE]; done) | (simp only [lenE]; omega) | rfl | (simp only [lenE, markR_len]; done) | (simp only [lenE, markR_len]; omega)) only [runE, mapE, listE, initT_5, initT_6, initT_7, initT_8, resV, oneV, binA, unA, reduceCtorEq, Nat.reduceEqDiff, Nat.reduceAdd, Nat.reduceLT, Nat.reduceLeDiff, Nat.reduceMul, Nat.reduceSub, ↓reduceIte, decide_true, decide_false, Bool.true_eq_false, Bool.false_eq_true, Bool.not_true, Bool.not_false, if_true, if_false, and_true, true_and, memE, celE, w64, Nat.zero_add, Nat.add_zero, Nat.mul_one, putL, and_self, ldn, tm, t1, t4, t5, hlt']
    have hbd := backsL_len hg 100 (by omega)
    exact ext_ctsM (f := fun v => .tuple #[v, .bool true]) hX ho (by omega) (by first | rfl | simp) (by first | omega | (simp; omega))
theorem implBackContracts_rc (m : Mem) (v : Value) (k : Mk) (h : MkA m v k) :
    RC Try.prog 64 [v] m (AnsO m (CtsO 34 (backsA k)) fun v => .tuple #[v, .bool k.good]) := by
  refine rc_of_run mixed ok_impl_BackContracts (by simp) (go_start _ _ _ ?_)
  obtain ⟨u, rfl, hu⟩ := h.ro
  unfold backsA
  try simp (config := {implicitDefEqProofs := false, maxDischargeDepth := 20}) (disch := first | omega | (simp only [lenE]; done) | (simp only [lenE]; omega) | rfl | (simp only [lenE, markR_len]; done) | (simp only [lenE, markR_len]; omega)) only [runE, mapE, listE, initT_5, initT_6, initT_7, initT_8, resV, oneV, binA, unA, reduceCtorEq, Nat.reduceEqDiff, Nat.reduceAdd, Nat.reduceLT, Nat.reduceLeDiff, Nat.reduceMul, Nat.reduceSub, ↓reduceIte, decide_true, decide_false, Bool.true_eq_false, Bool.false_eq_true, Bool.not_true, Bool.not_false, if_true, if_false, and_true, true_and, memE, celE, w64, Nat.zero_add, Nat.add_zero, Nat.mul_one, putL, and_self, ldn, c_impl_BackContracts, r_impl_BackContracts]
  obtain ⟨E, hE⟩ : ∃ M', M' = roM m ++ [⟨.own, 27, [u, .int .i64 k.price, .int .i64 k.make, .int .i64 k.left]⟩] := ⟨_, rfl⟩
  rw [← hE]
  have hX : Ext m E := by rw [hE]; exact ((Ext.refl m).one _ _)
  have LE : E.length = m.length + 1 := by rw [hE]; simp [roM_len]
  have oM : OwnB E (m.length) 27 [u, .int .i64 k.price, .int .i64 k.make, .int .i64 k.left] := by rw [hE]; exact (OwnB.here (by simp [roM_len]))
  clear hE
  try simp (config := {implicitDefEqProofs := false, maxDischargeDepth := 20}) (disch := first | omega | (simp only [lenE]; done) | (simp only [lenE]; omega) | rfl | (simp only [lenE, markR_len]; done) | (simp only [lenE, markR_len]; omega)) only [runE, mapE, listE, initT_5, initT_6, initT_7, initT_8, resV, oneV, binA, unA, reduceCtorEq, Nat.reduceEqDiff, Nat.reduceAdd, Nat.reduceLT, Nat.reduceLeDiff, Nat.reduceMul, Nat.reduceSub, ↓reduceIte, decide_true, decide_false, Bool.true_eq_false, Bool.false_eq_true, Bool.not_true, Bool.not_false, if_true, if_false, and_true, true_and, memE, celE, w64, Nat.zero_add, Nat.add_zero, Nat.mul_one, putL, and_self, ldn, oM.mk4]
  first | refine callH_rc (implIsMarket_rc _ _ k ⟨u, rfl, hX.ints hu⟩) ?_ | refine rcallH_rc (implIsMarket_rc _ _ k ⟨u, rfl, hX.ints hu⟩) ?_
  rintro r n1 ⟨rfl, nr1⟩
  obtain ⟨E1, hE1⟩ : ∃ M', M' = E ++ n1 := ⟨_, rfl⟩
  rw [← hE1]
  replace hX : Ext m E1 := by rw [hE1]; exact hX.app nr1
  replace oM := oM.ext n1
  rw [← hE1] at oM
  clear hE1
  cases g1 : k.good with
  | false =>
    try simp (config := {implicitDefEqProofs := false, maxDischargeDepth := 20}) (disch := first | omega | (simp only [lenE]; done) | (simp only [lenE]; omega) | rfl | (simp only [lenE, markR_len]; done) | (simp only [lenE, markR_len]; omega)) only [runE, mapE, listE, initT_5, initT_6, initT_7, initT_8, resV, oneV, binA, unA, reduceCtorEq, Nat.reduceEqDiff, Nat.reduceAdd, Nat.reduceLT, Nat.reduceLeDiff, Nat.reduceMul, Nat.reduceSub, ↓reduceIte, decide_true, decide_false, Bool.true_eq_false, Bool.false_eq_true, Bool.not_true, Bool.not_false, if_true, if_false, and_true, true_and, memE, celE, w64, Nat.zero_add, Nat.add_zero, Nat.mul_one, putL, and_self, ldn, bsl_no, oM.mk4]
    try simp (config := {implicitDefEqProofs := false, maxDischargeDepth := 20}) (disch := first | omega | (simp only [lenE]; done) | (simp only [lenE]; omega) | rfl | (simp only [lenE, markR_len]; done) | (simp only [lenE, markR_len]; omega)) only [runE, mapE, listE, initT_5, initT_6, initT_7, initT_8, resV, oneV, binA, unA, reduceCtorEq, Nat.reduceEqDiff, Nat.reduceAdd, Nat.reduceLT, Nat.reduceLeDiff, Nat.reduceMul, Nat.reduceSub, ↓reduceIte, decide_true, decide_false, Bool.true_eq_false, Bool.false_eq_true, Bool.not_true, Bool.not_false, if_true, if_false, and_true, true_and, memE, celE, w64, Nat.zero_add, Nat.add_zero, Nat.mul_one, putL, and_self, ldn, bsl_no]
    exact ext_noCts (f := fun v => .tuple #[v, .bool false]) hX rfl
  | true =>
  try simp (config := {implicitDefEqProofs := false, maxDischargeDepth := 20}) (disch := first | omega | (simp only [lenE]; done) | (simp only [lenE]; omega) | rfl | (simp only [lenE, markR_len]; done) | (simp only [lenE, markR_len]; omega)) only [runE, mapE, listE, initT_5, initT_6, initT_7, initT_8, resV, oneV, binA, unA, reduceCtorEq, Nat.reduceEqDiff, Nat.reduceAdd, Nat.reduceLT, Nat.reduceLeDiff, Nat.reduceMul, Nat.reduceSub, ↓reduceIte, decide_true, decide_false, Bool.true_eq_false, Bool.false_eq_true, Bool.not_true, Bool.not_false, if_true, if_false, and_true, true_and, memE, celE, w64, Nat.zero_add, Nat.add_zero, Nat.mul_one, putL, and_self, ldn, bsl_no, oM.mk4]
  have hg := goodM_iff.1 g1
  have hl1 := hX.len
  have hE1l : m.length + 1 ≤ E1.length := oM.lt
  have oM := oM.ext [⟨.own, 34, []⟩]
  have oP : OwnB (E1 ++ [⟨.own, 34, []⟩]) E1.length 34 [] := OwnB.here rfl
  have hX := hX.one 34 []
  have hml := (oM).lt
  refine loop_inv mixed (fun s => ∃ (b : Nat) (M : Mem) (id : Nat), b ≤ 100 ∧ s.m = M ∧ Ext m M ∧ OwnB M m.length 27 [u, .int .i64 k.price, .int .i64 k.make, .int .i64 k.left] ∧ m.length + 1 ≤ id ∧ OwnB M id 34 (ctsC (backsL k b)) ∧ s.t 1 = .pointer (some ⟨m.length, 0, none⟩) ∧ s.t 4 = .slice (some ⟨id, 0, none⟩) (backsL k b).length 3 ∧ s.t 13 = .int .i64 (b : Int)) (fun s => 105 - (intOf (s.t 13)).toNat)
    ⟨0, _, E1.length, by omega, rfl, hX, oM, hE1l, oP, rfl, rfl, rfl⟩ ?_
  rintro s ⟨b, M, id, hb, tm, hX, oM, hid, ho, t1, t4, t5⟩
  by_cases hlt : b < 100
  · have hlt' : (b : Int) < 100 := by omega
    have hbd := backsL_len hg b (by omega)
    simp (config := {implicitDefEqProofs := false, maxDischargeDepth := 20}) (disch := first | omega | (simp only [lenE]; done) | (simp only [lenE]; omega) | rfl | (simp only [lenE, markR_len]; done) | (simp only [lenE, markR_len]; omega)) only [runE, mapE, listE, initT_5, initT_6, initT_7, initT_8, resV, oneV, binA, unA, reduceCtorEq, Nat.reduceEqDiff, Nat.reduceAdd, Nat.reduceLT, Nat.reduceLeDiff, Nat.reduceMul, Nat.reduceSub, ↓reduceIte, decide_true, decide_false, Bool.true_eq_false, Bool.false_eq_true, Bool.not_true, Bool.not_false, if_true, if_false, and_true, true_and, memE, celE, w64, Nat.zero_add, Nat.add_zero, Nat.mul_one, putL, and_self, ldn, tm, t1, t4, t5, oM.mk4, hlt']
    first | refine callH_rc (payFor_rc _ _ k b 100 ⟨u, rfl, hX.ints hu⟩ hg ⟨by omega, by omega⟩ ⟨by omega, by omega⟩) ?_ | refine rcallH_rc (payFor_rc _ _ k b 100 ⟨u, rfl, hX.ints hu⟩ hg ⟨by omega, by omega⟩ ⟨by omega, by omega⟩) ?_
    rintro r n2 ⟨rfl, nr2⟩
    obtain ⟨M2, hM2⟩ : ∃ M', M' = M ++ n2 := ⟨_, rfl⟩
    rw [← hM2]
    have hX2 : Ext m M2 := by rw [hM2]; exact hX.app nr2
    have oM2 : OwnB M2 m.length 27 [u, .int .i64 k.price, .int .i64 k.make, .int .i64 k.left] := by rw [hM2]; exact oM.ext _
    have ho2 : OwnB M2 id 34 (ctsC (backsL k b)) := by rw [hM2]; exact ho.ext _
    clear hM2
    have hps := paysL_is (k := k) (b := (b : Int)) (s := 100) (no_prop' hg (by omega) (by omega)) 100
    cases hpy : payN k b 100 100 with
    | some p =>
      rw [hpy] at hps
      simp only [payV, Option.isSome_some]
      have happ := app_back (e := 34) (sz := 3) (byt := 24) (n := (backsL k b).length) (ys := [.int .i64 (p : Int), .int .i64 (b : Int), .int .i64 100]) ho2 rfl (by rw [ctsC_len]) rfl rfl (by omega) (by omega)
      obtain ⟨N, hN⟩ : ∃ N, N = (backsL k b).length := ⟨_, rfl⟩
      rw [← hN] at happ t4
      simp (config := {implicitDefEqProofs := false, maxDischargeDepth := 20}) (disch := first | omega | (simp only [lenE]; done) | (simp only [lenE]; omega) | rfl | (simp only [lenE, markR_len]; done) | (simp only [lenE, markR_len]; omega)) only [runE, mapE, listE, initT_5, initT_6, initT_7, initT_8, resV, oneV, binA, unA, reduceCtorEq, Nat.reduceEqDiff, Nat.reduceAdd, Nat.reduceLT, Nat.reduceLeDiff, Nat.reduceMul, Nat.reduceSub, ↓reduceIte, decide_true, decide_false, Bool.true_eq_false, Bool.false_eq_true, Bool.not_true, Bool.not_false, if_true, if_false, and_true, true_and, memE, celE, w64, Nat.zero_add, Nat.add_zero, Nat.mul_one, putL, and_self, ldn, tm, t1, t4, t5, ext_2_0, ext_2_1, bld_ct3, bsl_ct, happ]
      have hidl := ho2.lt
      have hl2 := hX2.len
      refine ⟨⟨b + 1, _, M2.length + 1, by omega, rfl, ((hX2.dead (by omega)).one _ _).one _ _, oM2.at_ (same_gen (by omega) hidl), by omega, ?_, ?_, by simp⟩, by simp [intOf]; omega⟩
      · rw [backs_s, hps, ctsC_app]; exact OwnB.here (by simp)
      · rw [backs_s, hps, List.length_append, ← hN]; rfl
    | none =>
      rw [hpy] at hps
      simp only [payV, Option.isSome_none]
      simp (config := {implicitDefEqProofs := false, maxDischargeDepth := 20}) (disch := first | omega | (simp only [lenE]; done) | (simp only [lenE]; omega) | rfl | (simp only [lenE, markR_len]; done) | (simp only [lenE, markR_len]; omega)) only [runE, mapE, listE, initT_5, initT_6, initT_7, initT_8, resV, oneV, binA, unA, reduceCtorEq, Nat.reduceEqDiff, Nat.reduceAdd, Nat.reduceLT, Nat.reduceLeDiff, Nat.reduceMul, Nat.reduceSub, ↓reduceIte, decide_true, decide_false, Bool.true_eq_false, Bool.false_eq_true, Bool.not_true, Bool.not_false, if_true, if_false, and_true, true_and, memE, celE, w64, Nat.zero_add, Nat.add_zero, Nat.mul_one, putL, and_self, ldn, tm, t1, t4, t5, ext_2_0, ext_2_1]
      refine ⟨⟨b + 1, _, id, by omega, rfl, hX2, oM2, hid, ?_, ?_, by simp⟩, by simp [intOf]; omega⟩
      · rw [backs_s, hps]; simpa using ho2
      · rw [backs_s, hps]; simp
  · have hlt' : ¬ ((b : Int) < 100) := by omega
    obtain rfl : b = 100 := by omega
    simp (config := {implicitDefEqProofs := false, maxDischargeDepth := 20}) (disch := first | omega | (simp only [lenE]; done) | (simp only [lenE]; omega) | rfl | (simp only [lenE, markR_len]; done) | (simp only [lenE, markR_len]; omega)) only [runE, mapE, listE, initT_5, initT_6, initT_7, initT_8, resV, oneV, binA, unA, reduceCtorEq, Nat.reduceEqDiff, Nat.reduceAdd, Nat.reduceLT, Nat.reduceLeDiff, Nat.reduceMul, Nat.reduceSub, ↓reduceIte, decide_true, decide_false, Bool.true_eq_false, Bool.false_eq_true, Bool.not_true, Bool.not_false, if_true, if_false, and_true, true_and, memE, celE, w64, Nat.zero_add, Nat.add_zero, Nat.mul_one, putL, and_self, ldn, tm, t1, t4, t5, hlt']
    have hbd := backsL_len hg 100 (by omega)
    exact ext_ctsM (f := fun v => .tuple #[v, .bool true]) hX ho (by omega) (by first | rfl | simp) (by first | omega | (simp; omega))
end Go.Proofs.Ytdcheilmjooacaa.Ab
