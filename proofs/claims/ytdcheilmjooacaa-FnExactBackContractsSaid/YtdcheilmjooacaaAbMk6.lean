/- Contracts of markets: plain prices, the best of them, contracts in proportion with backs. -/
import Derived.Test.YtdcheilmjooacaaAbMk5
namespace Go.Proofs.Ytdcheilmjooacaa.Ab
open Go Go.RowKit
set_option linter.unusedVariables false
set_option linter.unusedSimpArgs false

theorem goodPlain {k : Mk} (h : GoodM k) {j : Nat} (hj : j < plainN k) : GoodC (plainC (k.make + j)) := by
  have h1 := h.price
  have h2 := h.make
  unfold plainN at hj
  exact ⟨by simp only [plainC]; omega, by simp [plainC], by simp [plainC]⟩
theorem plainN_in {k : Mk} (h : GoodM k) : 1 ≤ plainN k ∧ plainN k ≤ 100 ∧ (plainN k : Int) = k.price - k.make + 1 := by
  have h1 := h.price
  have h2 := h.make
  unfold plainN
  omega
theorem OwnR.set_neM {M : Mem} {id id' : Nat} {l : List Int} (h : OwnR M id' l) (hne : id ≠ id') (b : Blk) : OwnR (M.set id b) id' l := by
  unfold OwnR; rw [List.getElem?_set_ne hne]; exact h
/-- Two rows that were answered. -/
def AnsTwoR (m : Mem) (l1 l2 : List Int) (r : Value) (new : Mem) : Prop :=
  NoRo new ∧ ∃ id1 id2, r = .tuple #[.slice (some ⟨id1, 0, none⟩) l1.length 1, .slice (some ⟨id2, 0, none⟩) l2.length 1] ∧ m.length ≤ id1 ∧ m.length ≤ id2 ∧ OwnR (m ++ new) id1 l1 ∧ OwnR (m ++ new) id2 l2
theorem ext_twoR {m M : Mem} {l1 l2 : List Int} {id1 id2 n1 n2 : Nat} (h : Ext m M) (o1 : OwnR M id1 l1) (o2 : OwnR M id2 l2) (h1 : m.length ≤ id1) (h2 : m.length ≤ id2) (e1 : n1 = l1.length) (e2 : n2 = l2.length) :
    newQ m (AnsTwoR m l1 l2) (.tuple #[.slice (some ⟨id1, 0, none⟩) n1 1, .slice (some ⟨id2, 0, none⟩) n2 1]) M := by
  subst e1 e2
  obtain ⟨n0, rfl, h0⟩ := h
  have key : ∀ (id : Nat) (l : List Int), m.length ≤ id → OwnR (roM m ++ n0) id l → OwnR (m ++ n0) id l := fun id l hid ho => by
    unfold OwnR at ho ⊢
    rw [List.getElem?_append_right (by rw [roM_len]; exact hid), roM_len] at ho
    rw [List.getElem?_append_right hid]; exact ho
  exact ⟨n0, rfl, h0, h0, id1, id2, rfl, h1, h2, key _ _ h1 o1, key _ _ h2 o2⟩
theorem l10Plain_rc (m : Mem) (p : Int) : RC Try.prog 112 [.int .i64 p] m (AnsV (ctV (plainC p))) := by
  refine rc_of_run mixed ok_spec_l10Plain (by simp) (go_start _ _ _ ?_)
  simp (config := {implicitDefEqProofs := false, maxDischargeDepth := 20}) (disch := first | omega | (simp only [lenE]; done) | (simp only [lenE]; omega) | rfl | (simp only [lenE, markR_len]; done) | (simp only [lenE, markR_len]; omega)) only [runE, mapE, listE, initT_5, initT_6, initT_7, initT_8, resV, oneV, binA, unA, reduceCtorEq, Nat.reduceEqDiff, Nat.reduceAdd, Nat.reduceLT, Nat.reduceLeDiff, Nat.reduceMul, Nat.reduceSub, ↓reduceIte, decide_true, decide_false, Bool.true_eq_false, Bool.false_eq_true, Bool.not_true, Bool.not_false, if_true, if_false, and_true, true_and, memE, celE, w64, Nat.zero_add, Nat.add_zero, Nat.mul_one, putL, and_self, ldn, c_spec_l10Plain, r_spec_l10Plain, bld_ct02]
  try simp only [List.append_assoc, List.cons_append, List.nil_append, List.append_nil]
  exact ⟨_, rfl, by (repeat (first | exact noRo_nil | assumption | apply noRo_own | apply noRo_dead | apply noRo_app)), rfl, by (repeat (first | exact noRo_nil | assumption | apply noRo_own | apply noRo_dead | apply noRo_app))⟩
theorem ext_pairsM {m M : Mem} {L : List (Int × Int)} {id n : Nat} {e : TypeId} {f : Value → Value} (h : Ext m M) (ho : OwnB M id e (pairsC L)) (hid : m.length ≤ id) (hn : n = L.length) (hl : L.length ≤ 1048576) :
    newQ m (AnsO m (PairsO e L) f) (f (.slice (some ⟨id, 0, none⟩) n 2)) M := by
  subst hn
  exact ext_ansO h fun M' hM => ⟨hl, id, 2, rfl, hid, ho.lt, ho.at_ (hM _ hid ho.lt)⟩
theorem bld_pairM (a b : Int) : bldA [.int .i64 0, .int .i64 0] [(0, 1, .int .i64 a), (1, 1, .int .i64 b)] = some (.agg #[.int .i64 a, .int .i64 b]) := rfl
theorem pairsC_sM (L : List (Int × Int)) (p : Int × Int) : pairsC (L ++ [p]) = pairsC L ++ [.int .i64 p.1, .int .i64 p.2] := by simp [pairsC, pairC]
theorem fL_plain1 (k : Mk) (n : Nat) : fL (fun i => ((selO k (plainC (k.make + i)) : Nat) : Int)) n = (plainsL k n).map (·.1) := by simp [fL, plainsL, plainP]
theorem plain_ct (k : Mk) (j : Nat) : ctV (plainC (k.make + j)) = .agg #[.int .i64 (k.make + j), .int .i64 0, .int .i64 100] := rfl
theorem l10Plains_rc (m : Mem) (v : Value) (k : Mk) (h : MkA m v k) (hg : GoodM k) :
    RC Try.prog 99 [v] m (AnsO m (PairsO 83 (plainsL k (plainN k))) id) := by
  refine rc_of_run mixed ok_spec_l10Plains (by simp) (go_start _ _ _ ?_)
  obtain ⟨u, rfl, hu⟩ := h.ro
  have pn := plainN_in hg
  have hp := hg.price
  have hm := hg.make
  try simp (config := {implicitDefEqProofs := false, maxDischargeDepth := 20}) (disch := first | omega | (simp only [lenE]; done) | (simp only [lenE]; omega) | rfl | (simp only [lenE, markR_len]; done) | (simp only [lenE, markR_len]; omega)) only [runE, mapE, listE, initT_5, initT_6, initT_7, initT_8, resV, oneV, binA, unA, reduceCtorEq, Nat.reduceEqDiff, Nat.reduceAdd, Nat.reduceLT, Nat.reduceLeDiff, Nat.reduceMul, Nat.reduceSub, ↓reduceIte, decide_true, decide_false, Bool.true_eq_false, Bool.false_eq_true, Bool.not_true, Bool.not_false, if_true, if_false, and_true, true_and, memE, celE, w64, Nat.zero_add, Nat.add_zero, Nat.mul_one, putL, and_self, ldn, c_spec_l10Plains, r_spec_l10Plains, bsl_no]
  obtain ⟨E, hE⟩ : ∃ M', M' = roM m ++ [⟨.own, 27, [u, .int .i64 k.price, .int .i64 k.make, .int .i64 k.left]⟩] ++ [⟨.own, 83, []⟩] := ⟨_, rfl⟩
  rw [← hE]
  have hX : Ext m E := by rw [hE]; exact (((Ext.refl m).one _ _).one _ _)
  have LE : E.length = m.length + 2 := by rw [hE]; simp [roM_len]
  have oM : OwnB E (m.length) 27 [u, .int .i64 k.price, .int .i64 k.make, .int .i64 k.left] := by rw [hE]; exact ((OwnB.here (by simp [roM_len])).ext _)
  have oP : OwnB E (m.length + 1) 83 [] := by rw [hE]; exact (OwnB.here (by simp [roM_len]))
  clear hE
  try simp (config := {implicitDefEqProofs := false, maxDischargeDepth := 20}) (disch := first | omega | (simp only [lenE]; done) | (simp only [lenE]; omega) | rfl | (simp only [lenE, markR_len]; done) | (simp only [lenE, markR_len]; omega)) only [runE, mapE, listE, initT_5, initT_6, initT_7, initT_8, resV, oneV, binA, unA, reduceCtorEq, Nat.reduceEqDiff, Nat.reduceAdd, Nat.reduceLT, Nat.reduceLeDiff, Nat.reduceMul, Nat.reduceSub, ↓reduceIte, decide_true, decide_false, Bool.true_eq_false, Bool.false_eq_true, Bool.not_true, Bool.not_false, if_true, if_false, and_true, true_and, memE, celE, w64, Nat.zero_add, Nat.add_zero, Nat.mul_one, putL, and_self, ldn, oM.mk4]
  refine loop_inv mixed (fun s => ∃ (j : Nat) (M : Mem) (id : Nat), j ≤ plainN k ∧ s.m = M ∧ Ext m M ∧ OwnB M m.length 27 [u, .int .i64 k.price, .int .i64 k.make, .int .i64 k.left] ∧ m.length + 1 ≤ id ∧ OwnB M id 83 (pairsC (plainsL k j)) ∧ s.t 1 = .pointer (some ⟨m.length, 0, none⟩) ∧ s.t 3 = .slice (some ⟨id, 0, none⟩) j 2 ∧ s.t 4 = .int .i64 (k.make + (j : Int))) (fun s => (k.price + 1 - intOf (s.t 4)).toNat)
    ⟨0, _, m.length + 1, by omega, rfl, hX, oM, by omega, oP, rfl, rfl, by simp only [put_t, put_t', put_m, putT_t, putT_t', putT_m, init_t, init_m, initT_0, initT_1, initT_2, initT_3, initT_4, initT_5, initT_6, initT_7, initT_8, Nat.reduceEqDiff, ↓reduceIte]; simp⟩ ?_
  rintro s ⟨j, M, id, hj, tm, hX, oM, hid, ho, t1, t3, t4⟩
  by_cases hlt : j < plainN k
  · have hlt' : k.make + (j : Int) ≤ k.price := by omega
    have hc := goodPlain hg hlt
    have hs8 := selO_le k (plainC (k.make + j))
    simp (config := {implicitDefEqProofs := false, maxDischargeDepth := 20}) (disch := first | omega | (simp only [lenE]; done) | (simp only [lenE]; omega) | rfl | (simp only [lenE, markR_len]; done) | (simp only [lenE, markR_len]; omega)) only [runE, mapE, listE, initT_5, initT_6, initT_7, initT_8, resV, oneV, binA, unA, reduceCtorEq, Nat.reduceEqDiff, Nat.reduceAdd, Nat.reduceLT, Nat.reduceLeDiff, Nat.reduceMul, Nat.reduceSub, ↓reduceIte, decide_true, decide_false, Bool.true_eq_false, Bool.false_eq_true, Bool.not_true, Bool.not_false, if_true, if_false, and_true, true_and, memE, celE, w64, Nat.zero_add, Nat.add_zero, Nat.mul_one, putL, and_self, ldn, tm, t1, t3, t4, oM.mk4, hlt']
    first | refine callH_rc (l10Plain_rc _ _) ?_ | refine rcallH_rc (l10Plain_rc _ _) ?_
    rintro r n1 ⟨rfl, nrn1⟩
    simp (config := {implicitDefEqProofs := false, maxDischargeDepth := 20}) (disch := first | omega | (simp only [lenE]; done) | (simp only [lenE]; omega) | rfl | (simp only [lenE, markR_len]; done) | (simp only [lenE, markR_len]; omega)) only [runE, mapE, listE, initT_5, initT_6, initT_7, initT_8, resV, oneV, binA, unA, reduceCtorEq, Nat.reduceEqDiff, Nat.reduceAdd, Nat.reduceLT, Nat.reduceLeDiff, Nat.reduceMul, Nat.reduceSub, ↓reduceIte, decide_true, decide_false, Bool.true_eq_false, Bool.false_eq_true, Bool.not_true, Bool.not_false, if_true, if_false, and_true, true_and, memE, celE, w64, Nat.zero_add, Nat.add_zero, Nat.mul_one, putL, and_self, ldn, tm, t1, t3, t4, (oM.ext n1).mk4]
    first | refine callH_rc (l10Sold_rc _ _ k (plainC (k.make + j)) ⟨u, rfl, (hX.app nrn1).ints hu⟩ hg hc) ?_ | refine rcallH_rc (l10Sold_rc _ _ k (plainC (k.make + j)) ⟨u, rfl, (hX.app nrn1).ints hu⟩ hg hc) ?_
    rintro r n2 ⟨rfl, nrn2⟩
    obtain ⟨M1, hM1⟩ : ∃ M', M' = M ++ n1 ++ n2 := ⟨_, rfl⟩
    rw [← hM1]
    have hX1 : Ext m M1 := by rw [hM1]; exact (hX.app nrn1).app nrn2
    have oM1 : OwnB M1 m.length 27 [u, .int .i64 k.price, .int .i64 k.make, .int .i64 k.left] := by rw [hM1]; exact (oM.ext n1).ext n2
    have ho1 : OwnB M1 id 83 (pairsC (plainsL k j)) := by rw [hM1]; exact (ho.ext n1).ext n2
    clear hM1
    simp (config := {implicitDefEqProofs := false, maxDischargeDepth := 20}) (disch := first | omega | (simp only [lenE]; done) | (simp only [lenE]; omega) | rfl | (simp only [lenE, markR_len]; done) | (simp only [lenE, markR_len]; omega)) only [runE, mapE, listE, initT_5, initT_6, initT_7, initT_8, resV, oneV, binA, unA, reduceCtorEq, Nat.reduceEqDiff, Nat.reduceAdd, Nat.reduceLT, Nat.reduceLeDiff, Nat.reduceMul, Nat.reduceSub, ↓reduceIte, decide_true, decide_false, Bool.true_eq_false, Bool.false_eq_true, Bool.not_true, Bool.not_false, if_true, if_false, and_true, true_and, memE, celE, w64, Nat.zero_add, Nat.add_zero, Nat.mul_one, putL, and_self, ldn, tm, t1, t3, t4, oM1.mk4]
    first | refine callH_rc (l10Plain_rc _ _) ?_ | refine rcallH_rc (l10Plain_rc _ _) ?_
    rintro r n3 ⟨rfl, nrn3⟩
    simp (config := {implicitDefEqProofs := false, maxDischargeDepth := 20}) (disch := first | omega | (simp only [lenE]; done) | (simp only [lenE]; omega) | rfl | (simp only [lenE, markR_len]; done) | (simp only [lenE, markR_len]; omega)) only [runE, mapE, listE, initT_5, initT_6, initT_7, initT_8, resV, oneV, binA, unA, reduceCtorEq, Nat.reduceEqDiff, Nat.reduceAdd, Nat.reduceLT, Nat.reduceLeDiff, Nat.reduceMul, Nat.reduceSub, ↓reduceIte, decide_true, decide_false, Bool.true_eq_false, Bool.false_eq_true, Bool.not_true, Bool.not_false, if_true, if_false, and_true, true_and, memE, celE, w64, Nat.zero_add, Nat.add_zero, Nat.mul_one, putL, and_self, ldn, tm, t1, t3, t4, oM1.mk4, (oM1.ext n3).mk4]
    first | refine callH_rc (l10Maker_rc _ _ k (plainC (k.make + j)) (selO k (plainC (k.make + j))) ⟨u, rfl, (hX1.app nrn3).ints hu⟩ hg hc hs8) ?_ | refine rcallH_rc (l10Maker_rc _ _ k (plainC (k.make + j)) (selO k (plainC (k.make + j))) ⟨u, rfl, (hX1.app nrn3).ints hu⟩ hg hc hs8) ?_
    rintro r n4 ⟨rfl, nrn4⟩
    obtain ⟨M2, hM2⟩ : ∃ M', M' = M1 ++ n3 ++ n4 := ⟨_, rfl⟩
    rw [← hM2]
    have hX2 : Ext m M2 := by rw [hM2]; exact (hX1.app nrn3).app nrn4
    have oM2 : OwnB M2 m.length 27 [u, .int .i64 k.price, .int .i64 k.make, .int .i64 k.left] := by rw [hM2]; exact (oM1.ext n3).ext n4
    have ho2 : OwnB M2 id 83 (pairsC (plainsL k j)) := by rw [hM2]; exact (ho1.ext n3).ext n4
    clear hM2
    have happ := app_back (e := 83) (sz := 2) (byt := 16) (n := j) (ys := [.int .i64 (selO k (plainC (k.make + j)) : Int), .int .i64 (makP k (plainC (k.make + j)) (selO k (plainC (k.make + j))))]) ho2 rfl (by rw [pairsC_len, plainsL_len]) rfl rfl (by omega) (by omega)
    simp (config := {implicitDefEqProofs := false, maxDischargeDepth := 20}) (disch := first | omega | (simp only [lenE]; done) | (simp only [lenE]; omega) | rfl | (simp only [lenE, markR_len]; done) | (simp only [lenE, markR_len]; omega)) only [runE, mapE, listE, initT_5, initT_6, initT_7, initT_8, resV, oneV, binA, unA, reduceCtorEq, Nat.reduceEqDiff, Nat.reduceAdd, Nat.reduceLT, Nat.reduceLeDiff, Nat.reduceMul, Nat.reduceSub, ↓reduceIte, decide_true, decide_false, Bool.true_eq_false, Bool.false_eq_true, Bool.not_true, Bool.not_false, if_true, if_false, and_true, true_and, memE, celE, w64, Nat.zero_add, Nat.add_zero, Nat.mul_one, putL, and_self, ldn, tm, t1, t3, t4, bld_pairM, bsl_pair, happ]
    have hidl := ho2.lt
    have hl2 := hX2.len
    refine ⟨⟨j + 1, _, M2.length + 1, by omega, rfl, ((hX2.dead (by omega)).one _ _).one _ _, oM2.at_ (same_gen (by omega) hidl), by omega, ?_, rfl, by push_cast; congr 1; omega⟩, ?_⟩
    · rw [plainsL_s, pairsC_sM]
      exact OwnB.here (by simp)
    · simp [intOf]; omega
  · have hlt' : ¬ (k.make + (j : Int) ≤ k.price) := by omega
    obtain rfl : j = plainN k := by omega
    simp (config := {implicitDefEqProofs := false, maxDischargeDepth := 20}) (disch := first | omega | (simp only [lenE]; done) | (simp only [lenE]; omega) | rfl | (simp only [lenE, markR_len]; done) | (simp only [lenE, markR_len]; omega)) only [runE, mapE, listE, initT_5, initT_6, initT_7, initT_8, resV, oneV, binA, unA, reduceCtorEq, Nat.reduceEqDiff, Nat.reduceAdd, Nat.reduceLT, Nat.reduceLeDiff, Nat.reduceMul, Nat.reduceSub, ↓reduceIte, decide_true, decide_false, Bool.true_eq_false, Bool.false_eq_true, Bool.not_true, Bool.not_false, if_true, if_false, and_true, true_and, memE, celE, w64, Nat.zero_add, Nat.add_zero, Nat.mul_one, putL, and_self, ldn, tm, t1, t3, t4, oM.mk4, hlt']
    exact ext_pairsM (f := _root_.id) hX ho (by omega) (by rw [plainsL_len]) (by rw [plainsL_len]; omega)
theorem plainContracts_rc (m : Mem) (v : Value) (k : Mk) (h : MkA m v k) (hg : GoodM k) :
    RC Try.prog 100 [v] m (AnsTwoR m (fL (fun (i : Nat) => ((selO k (plainC (k.make + i)) : Nat) : Int)) (plainN k)) (fL (fun (i : Nat) => makP k (plainC (k.make + i)) (selO k (plainC (k.make + i)))) (plainN k))) := by
  refine rc_of_run mixed ok_impl_plainContracts (by simp) (go_start _ _ _ ?_)
  obtain ⟨u, rfl, hu⟩ := h.ro
  have pn := plainN_in hg
  have hp := hg.price
  have hm := hg.make
  try simp (config := {implicitDefEqProofs := false, maxDischargeDepth := 20}) (disch := first | omega | (simp only [lenE]; done) | (simp only [lenE]; omega) | rfl | (simp only [lenE, markR_len]; done) | (simp only [lenE, markR_len]; omega)) only [runE, mapE, listE, initT_5, initT_6, initT_7, initT_8, resV, oneV, binA, unA, reduceCtorEq, Nat.reduceEqDiff, Nat.reduceAdd, Nat.reduceLT, Nat.reduceLeDiff, Nat.reduceMul, Nat.reduceSub, ↓reduceIte, decide_true, decide_false, Bool.true_eq_false, Bool.false_eq_true, Bool.not_true, Bool.not_false, if_true, if_false, and_true, true_and, memE, celE, w64, Nat.zero_add, Nat.add_zero, Nat.mul_one, putL, and_self, ldn, c_impl_plainContracts, r_impl_plainContracts, bsl_none]
  obtain ⟨E, hE⟩ : ∃ M', M' = roM m ++ [⟨.own, 27, [u, .int .i64 k.price, .int .i64 k.make, .int .i64 k.left]⟩] ++ [⟨.own, 3, []⟩] ++ [⟨.own, 3, []⟩] := ⟨_, rfl⟩
  rw [← hE]
  have hX : Ext m E := by rw [hE]; exact ((((Ext.refl m).one _ _).one _ _).one _ _)
  have LE : E.length = m.length + 3 := by rw [hE]; simp [roM_len]
  have oM : OwnB E (m.length) 27 [u, .int .i64 k.price, .int .i64 k.make, .int .i64 k.left] := by rw [hE]; exact (((OwnB.here (by simp [roM_len])).ext _).ext _)
  have oA : OwnB E (m.length + 1) 3 [] := by rw [hE]; exact ((OwnB.here (by simp [roM_len])).ext _)
  have oB : OwnB E (m.length + 1 + 1) 3 [] := by rw [hE]; exact (OwnB.here (by simp [roM_len]))
  clear hE
  try simp (config := {implicitDefEqProofs := false, maxDischargeDepth := 20}) (disch := first | omega | (simp only [lenE]; done) | (simp only [lenE]; omega) | rfl | (simp only [lenE, markR_len]; done) | (simp only [lenE, markR_len]; omega)) only [runE, mapE, listE, initT_5, initT_6, initT_7, initT_8, resV, oneV, binA, unA, reduceCtorEq, Nat.reduceEqDiff, Nat.reduceAdd, Nat.reduceLT, Nat.reduceLeDiff, Nat.reduceMul, Nat.reduceSub, ↓reduceIte, decide_true, decide_false, Bool.true_eq_false, Bool.false_eq_true, Bool.not_true, Bool.not_false, if_true, if_false, and_true, true_and, memE, celE, w64, Nat.zero_add, Nat.add_zero, Nat.mul_one, putL, and_self, ldn, oM.mk4]
  obtain ⟨f1, hf1⟩ : ∃ f : Nat → Int, f = (fun (i : Nat) => ((selO k (plainC (k.make + i)) : Nat) : Int)) := ⟨_, rfl⟩
  obtain ⟨f2, hf2⟩ : ∃ f : Nat → Int, f = (fun (i : Nat) => makP k (plainC (k.make + i)) (selO k (plainC (k.make + i)))) := ⟨_, rfl⟩
  rw [← hf1, ← hf2]
  refine loop_inv mixed (fun s => ∃ (j : Nat) (M : Mem) (a b : Nat), j ≤ plainN k ∧ s.m = M ∧ Ext m M ∧ OwnB M m.length 27 [u, .int .i64 k.price, .int .i64 k.make, .int .i64 k.left] ∧ m.length + 1 ≤ a ∧ m.length + 1 ≤ b ∧ a ≠ b ∧ OwnR M a (fL f1 j) ∧ OwnR M b (fL f2 j) ∧ s.t 1 = .pointer (some ⟨m.length, 0, none⟩) ∧ s.t 4 = .slice (some ⟨a, 0, none⟩) j 1 ∧ s.t 5 = .slice (some ⟨b, 0, none⟩) j 1 ∧ s.t 6 = .int .i64 (k.make + (j : Int))) (fun s => (k.price + 1 - intOf (s.t 6)).toNat)
    ⟨0, _, m.length + 1, m.length + 1 + 1, by omega, rfl, hX, oM, by omega, by omega, by omega, oA, oB, rfl, rfl, rfl, by simp only [put_t, put_t', put_m, putT_t, putT_t', putT_m, init_t, init_m, initT_0, initT_1, initT_2, initT_3, initT_4, initT_5, initT_6, initT_7, initT_8, Nat.reduceEqDiff, ↓reduceIte]; simp⟩ ?_
  rintro s ⟨j, M, a, b, hj, tm, hX, oM, ha, hb, hab, oA, oB, t1, t4, t5, t6⟩
  by_cases hlt : j < plainN k
  · have hlt' : k.make + (j : Int) ≤ k.price := by omega
    have hc := goodPlain hg hlt
    have hs8 := selO_le k (plainC (k.make + j))
    simp (config := {implicitDefEqProofs := false, maxDischargeDepth := 20}) (disch := first | omega | (simp only [lenE]; done) | (simp only [lenE]; omega) | rfl | (simp only [lenE, markR_len]; done) | (simp only [lenE, markR_len]; omega)) only [runE, mapE, listE, initT_5, initT_6, initT_7, initT_8, resV, oneV, binA, unA, reduceCtorEq, Nat.reduceEqDiff, Nat.reduceAdd, Nat.reduceLT, Nat.reduceLeDiff, Nat.reduceMul, Nat.reduceSub, ↓reduceIte, decide_true, decide_false, Bool.true_eq_false, Bool.false_eq_true, Bool.not_true, Bool.not_false, if_true, if_false, and_true, true_and, memE, celE, w64, Nat.zero_add, Nat.add_zero, Nat.mul_one, putL, and_self, ldn, tm, t1, t4, t5, t6, oM.mk4, hlt', bld_ct02]
    obtain ⟨M1, hM1⟩ : ∃ M', M' = M ++ [⟨.own, 34, [.int .i64 (k.make + (j : Int)), .int .i64 0, .int .i64 100]⟩] := ⟨_, rfl⟩
    try rw [← hM1]
    have hX1 : Ext m M1 := by rw [hM1]; exact hX.one _ _
    have oM1 : OwnB M1 m.length 27 [u, .int .i64 k.price, .int .i64 k.make, .int .i64 k.left] := by rw [hM1]; exact oM.ext _
    have oC : OwnB M1 M.length 34 [.int .i64 (k.make + (j : Int)), .int .i64 0, .int .i64 100] := by rw [hM1]; exact OwnB.here rfl
    have oA1 : OwnR M1 a (fL f1 j) := by rw [hM1]; exact oA.ext _
    have oB1 : OwnR M1 b (fL f2 j) := by rw [hM1]; exact oB.ext _
    clear hM1
    try simp (config := {implicitDefEqProofs := false, maxDischargeDepth := 20}) (disch := first | omega | (simp only [lenE]; done) | (simp only [lenE]; omega) | rfl | (simp only [lenE, markR_len]; done) | (simp only [lenE, markR_len]; omega)) only [runE, mapE, listE, initT_5, initT_6, initT_7, initT_8, resV, oneV, binA, unA, reduceCtorEq, Nat.reduceEqDiff, Nat.reduceAdd, Nat.reduceLT, Nat.reduceLeDiff, Nat.reduceMul, Nat.reduceSub, ↓reduceIte, decide_true, decide_false, Bool.true_eq_false, Bool.false_eq_true, Bool.not_true, Bool.not_false, if_true, if_false, and_true, true_and, memE, celE, w64, Nat.zero_add, Nat.add_zero, Nat.mul_one, putL, and_self, ldn, tm, t1, t4, t5, t6, oM1.mk4, oC.mk3]
    first | refine callH_rc (sellerOrder_rc _ _ k (plainC (k.make + j)) ⟨u, rfl, hX1.ints hu⟩ hg hc) ?_ | refine rcallH_rc (sellerOrder_rc _ _ k (plainC (k.make + j)) ⟨u, rfl, hX1.ints hu⟩ hg hc) ?_
    rintro r n2 ⟨rfl, nrn2⟩
    simp (config := {implicitDefEqProofs := false, maxDischargeDepth := 20}) (disch := first | omega | (simp only [lenE]; done) | (simp only [lenE]; omega) | rfl | (simp only [lenE, markR_len]; done) | (simp only [lenE, markR_len]; omega)) only [runE, mapE, listE, initT_5, initT_6, initT_7, initT_8, resV, oneV, binA, unA, reduceCtorEq, Nat.reduceEqDiff, Nat.reduceAdd, Nat.reduceLT, Nat.reduceLeDiff, Nat.reduceMul, Nat.reduceSub, ↓reduceIte, decide_true, decide_false, Bool.true_eq_false, Bool.false_eq_true, Bool.not_true, Bool.not_false, if_true, if_false, and_true, true_and, memE, celE, w64, Nat.zero_add, Nat.add_zero, Nat.mul_one, putL, and_self, ldn, tm, t1, t4, t5, t6, (oM1.ext n2).mk4, (oC.ext n2).mk3]
    first | refine callH_rc (profitsOf_rc _ _ k (plainC (k.make + j)) (selO k (plainC (k.make + j))) ⟨u, rfl, (hX1.app nrn2).ints hu⟩ hg hc hs8) ?_ | refine rcallH_rc (profitsOf_rc _ _ k (plainC (k.make + j)) (selO k (plainC (k.make + j))) ⟨u, rfl, (hX1.app nrn2).ints hu⟩ hg hc hs8) ?_
    rintro r n3 ⟨rfl, nrn3⟩
    obtain ⟨M2, hM2⟩ : ∃ M', M' = M1 ++ n2 ++ n3 := ⟨_, rfl⟩
    rw [← hM2]
    have hX2 : Ext m M2 := by rw [hM2]; exact (hX1.app nrn2).app nrn3
    have oM2 : OwnB M2 m.length 27 [u, .int .i64 k.price, .int .i64 k.make, .int .i64 k.left] := by rw [hM2]; exact (oM1.ext n2).ext n3
    have oA2 : OwnR M2 a (fL f1 j) := by rw [hM2]; exact (oA1.ext n2).ext n3
    have oB2 : OwnR M2 b (fL f2 j) := by rw [hM2]; exact (oB1.ext n2).ext n3
    clear hM2
    have e1 : f1 j = (selO k (plainC (k.make + j)) : Int) := by rw [hf1]
    have e2 : f2 j = makP k (plainC (k.make + j)) (selO k (plainC (k.make + j))) := by rw [hf2]
    have happ := app_num (x := f1 j) (id2 := M2.length) (n := j) oA2 (by rw [fL_len]; omega) rfl (by rw [fL_len])
    try rw [← e1, ← e2]
    simp (config := {implicitDefEqProofs := false, maxDischargeDepth := 20}) (disch := first | omega | (simp only [lenE]; done) | (simp only [lenE]; omega) | rfl | (simp only [lenE, markR_len]; done) | (simp only [lenE, markR_len]; omega)) only [runE, mapE, listE, initT_5, initT_6, initT_7, initT_8, resV, oneV, binA, unA, reduceCtorEq, Nat.reduceEqDiff, Nat.reduceAdd, Nat.reduceLT, Nat.reduceLeDiff, Nat.reduceMul, Nat.reduceSub, ↓reduceIte, decide_true, decide_false, Bool.true_eq_false, Bool.false_eq_true, Bool.not_true, Bool.not_false, if_true, if_false, and_true, true_and, memE, celE, w64, Nat.zero_add, Nat.add_zero, Nat.mul_one, putL, and_self, ldn, t1, t4, t5, t6, ext_2_0, ext_2_1, ← e1, ← e2, bsl_one, happ]
    obtain ⟨M3, hM3⟩ : ∃ M', M' = M2.set a deadB ++ [⟨.own, 3, [.int .i64 (f1 j)]⟩] ++ [⟨.own, 3, (fL f1 j ++ [f1 j]).map (Value.int .i64)⟩] := ⟨_, rfl⟩
    have hal := oA2.lt
    have hbl := oB2.lt
    have hl2 := hX2.len
    have hX3 : Ext m M3 := by rw [hM3]; exact ((hX2.dead (by omega)).one _ _).one _ _
    have LM3 : M3.length = M2.length + 1 + 1 := by rw [hM3]; simp
    have oM3 : OwnB M3 m.length 27 [u, .int .i64 k.price, .int .i64 k.make, .int .i64 k.left] := by rw [hM3]; exact oM2.at_ (same_gen (by omega) hal)
    have oB3 : OwnR M3 b (fL f2 j) := by rw [hM3]; exact ((oB2.set_neM (by omega) _).ext _).ext _
    have oA3 : OwnR M3 (M2.length + 1) (fL f1 (j + 1)) := by rw [hM3, fL_s]; exact OwnB.here (by simp)
    have happ3 := app_num (x := f2 j) (id2 := M2.length + 1 + 1) (n := j) oB3 (by rw [fL_len]; omega) LM3.symm (by rw [fL_len])
    try rw [← hM3]
    simp (config := {implicitDefEqProofs := false, maxDischargeDepth := 20}) (disch := first | omega | (simp only [lenE]; done) | (simp only [lenE]; omega) | rfl | (simp only [lenE, markR_len]; done) | (simp only [lenE, markR_len]; omega)) only [runE, mapE, listE, initT_5, initT_6, initT_7, initT_8, resV, oneV, binA, unA, reduceCtorEq, Nat.reduceEqDiff, Nat.reduceAdd, Nat.reduceLT, Nat.reduceLeDiff, Nat.reduceMul, Nat.reduceSub, ↓reduceIte, decide_true, decide_false, Bool.true_eq_false, Bool.false_eq_true, Bool.not_true, Bool.not_false, if_true, if_false, and_true, true_and, memE, celE, w64, Nat.zero_add, Nat.add_zero, Nat.mul_one, putL, and_self, ldn, t1, t4, t5, t6, ext_2_0, ext_2_1, LM3, bsl_one, happ3]
    have hb3 := oB3.lt
    refine ⟨⟨j + 1, _, M2.length + 1, M2.length + 1 + 1 + 1, by omega, rfl, ((hX3.dead (by omega)).one _ _).one _ _, oM3.at_ (same_gen (by omega) hb3), by omega, by omega, by omega, ?_, ?_, rfl, rfl, by push_cast; congr 1; omega⟩, ?_⟩
    · exact ((oA3.set_neM (by omega) _).ext _).ext _
    · rw [fL_s]; exact OwnB.here (by simp [LM3])
    · simp [intOf]; omega
  · have hlt' : ¬ (k.make + (j : Int) ≤ k.price) := by omega
    obtain rfl : j = plainN k := by omega
    simp (config := {implicitDefEqProofs := false, maxDischargeDepth := 20}) (disch := first | omega | (simp only [lenE]; done) | (simp only [lenE]; omega) | rfl | (simp only [lenE, markR_len]; done) | (simp only [lenE, markR_len]; omega)) only [runE, mapE, listE, initT_5, initT_6, initT_7, initT_8, resV, oneV, binA, unA, reduceCtorEq, Nat.reduceEqDiff, Nat.reduceAdd, Nat.reduceLT, Nat.reduceLeDiff, Nat.reduceMul, Nat.reduceSub, ↓reduceIte, decide_true, decide_false, Bool.true_eq_false, Bool.false_eq_true, Bool.not_true, Bool.not_false, if_true, if_false, and_true, true_and, memE, celE, w64, Nat.zero_add, Nat.add_zero, Nat.mul_one, putL, and_self, ldn, tm, t1, t4, t5, t6, oM.mk4, hlt']
    exact ext_twoR hX oA oB (by omega) (by omega) (by rw [fL_len]) (by rw [fL_len])
end Go.Proofs.Ytdcheilmjooacaa.Ab
