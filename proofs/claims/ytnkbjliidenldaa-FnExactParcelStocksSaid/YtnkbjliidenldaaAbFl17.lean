/- Stocks behind the days on which parcels arrive: ParcelStocks on both sides. -/
import Derived.Test.YtnkbjliidenldaaAbFl16
namespace Go.Proofs.Ytnkbjliidenldaa.Ab
open Go Go.RowKit
set_option linter.unusedVariables false
set_option linter.unusedSimpArgs false

theorem IntsA.slP {m : Mem} {v : Value} {l : List Int} (h : IntsA m v l) : ∃ A n c, v = .slice A n c := by
  rcases h.form with ⟨rfl, _⟩ | ⟨id, off, fl, rfl⟩ <;> exact ⟨_, _, _, rfl⟩
theorem ext_intsP {m M : Mem} {l : List Int} {id : Nat} {pre : List Int} {fl : Nat} {f : Value → Value} {off n : Nat} (h : Ext m M) (ho : OwnR M id (pre ++ l)) (hid : m.length ≤ id) (hl : l.length ≤ 1048576) (hoff : off = pre.length) (hn : n = l.length) :
    newQ m (AnsO m (IntsP l) f) (f (.slice (some ⟨id, off, none⟩) n fl)) M := by
  subst hoff hn
  exact ext_ansO h fun M' hM => ⟨hl, .inr ⟨id, pre, fl, rfl, hid, ho.lt, ho.at_ (hM _ hid ho.lt)⟩⟩
theorem slc1i {id n fl : Nat} (h : 1 ≤ n) : slcA 1 (.slice (some ⟨id, 0, none⟩) n fl) (some (.int .i64 1)) none = some (.slice (some ⟨id, 1, none⟩) (n - 1) 0) := by
  simp [slcA, boundA, h]
theorem pst_no {start : Int} {L : List Pc} {asked : List Int} (h : pstOk start L asked = false) : pstA start L asked = [] := by unfold pstA; rw [h]; rfl
set_option maxHeartbeats 4000000 in
theorem implParcelStocks_rc (m : Mem) (v av : Value) (start : Int) (L : List Pc) (asked : List Int) (h : PcsA m v L) (hA : IntsA m av asked) :
    RC Try.prog 65 [.int .i64 start, v, av] m (AnsO m (IntsP (pstA start L asked)) fun v => .tuple #[v, .bool (pstOk start L asked)]) := by
  refine rc_of_run mixed ok_impl_ParcelStocks (by simp) (go_start _ _ _ ?_)
  obtain ⟨B, jo, co, rfl⟩ := hA.slP
  have hal := hA.len
  simp (config := {implicitDefEqProofs := false, maxDischargeDepth := 20}) (disch := first | omega | (simp only [lenE]; done) | (simp only [lenE]; omega) | rfl | (simp only [lenE, markR_len]; done) | (simp only [lenE, markR_len]; omega)) only [runE, mapE, listE, initT_5, initT_6, initT_7, initT_8, resV, oneV, binA, unA, reduceCtorEq, Nat.reduceEqDiff, Nat.reduceAdd, Nat.reduceLT, Nat.reduceLeDiff, Nat.reduceMul, Nat.reduceSub, ↓reduceIte, decide_true, decide_false, Bool.true_eq_false, Bool.false_eq_true, Bool.not_true, Bool.not_false, if_true, if_false, and_true, true_and, memE, celE, w64, Nat.zero_add, Nat.add_zero, Nat.mul_one, putL, and_self, ldn, c_impl_ParcelStocks, r_impl_ParcelStocks]
  obtain ⟨E, hE⟩ : ∃ E, E = roM m ++ [⟨.own, 22, [.slice B jo co]⟩] := ⟨_, rfl⟩
  have hX : Ext m E := by rw [hE]; exact (Ext.refl m).one _ _
  have LE : E.length = m.length + 1 := by rw [hE]; simp [roM_len]
  have b2 : OwnB E m.length 22 [.slice B jo co] := by rw [hE]; exact OwnB.here (roM_len m).symm
  try rw [← hE]
  clear hE
  have no : ∀ M, Ext m M → pstOk start L asked = false → newQ m (AnsO m (IntsP (pstA start L asked)) fun v => .tuple #[v, .bool (pstOk start L asked)]) (.tuple #[.slice (some ⟨M.length, 0, none⟩) 0 1, .bool false]) (M ++ [⟨.own, 3, []⟩]) := fun M hM hno => by
    rw [pst_no hno, hno]
    exact ext_intsP (f := fun v => .tuple #[v, .bool false]) (pre := []) (hM.one _ _) (OwnB.here rfl) hM.len (by simp) rfl rfl
  refine callH_rc (isStock_rc _ start) ?_
  rintro r new ⟨rfl, rfl⟩
  rw [List.append_nil]
  cases h1 : nearB 200 start with
  | false =>
    simp (config := {implicitDefEqProofs := false, maxDischargeDepth := 20}) (disch := first | omega | (simp only [lenE]; done) | (simp only [lenE]; omega) | rfl | (simp only [lenE, markR_len]; done) | (simp only [lenE, markR_len]; omega)) only [runE, mapE, listE, initT_5, initT_6, initT_7, initT_8, resV, oneV, binA, unA, reduceCtorEq, Nat.reduceEqDiff, Nat.reduceAdd, Nat.reduceLT, Nat.reduceLeDiff, Nat.reduceMul, Nat.reduceSub, ↓reduceIte, decide_true, decide_false, Bool.true_eq_false, Bool.false_eq_true, Bool.not_true, Bool.not_false, if_true, if_false, and_true, true_and, memE, celE, w64, Nat.zero_add, Nat.add_zero, Nat.mul_one, putL, and_self, ldn, bsl_no]
    exact no _ hX (by simp [pstOk, h1])
  | true =>
  simp (config := {implicitDefEqProofs := false, maxDischargeDepth := 20}) (disch := first | omega | (simp only [lenE]; done) | (simp only [lenE]; omega) | rfl | (simp only [lenE, markR_len]; done) | (simp only [lenE, markR_len]; omega)) only [runE, mapE, listE, initT_5, initT_6, initT_7, initT_8, resV, oneV, binA, unA, reduceCtorEq, Nat.reduceEqDiff, Nat.reduceAdd, Nat.reduceLT, Nat.reduceLeDiff, Nat.reduceMul, Nat.reduceSub, ↓reduceIte, decide_true, decide_false, Bool.true_eq_false, Bool.false_eq_true, Bool.not_true, Bool.not_false, if_true, if_false, and_true, true_and, memE, celE, w64, Nat.zero_add, Nat.add_zero, Nat.mul_one, putL, and_self, ldn]
  refine callH_rc (areParcels_rc _ v L (hX.keeps.pcs h)) ?_
  rintro r n1 ⟨rfl, hn1⟩
  obtain ⟨E1, hE1⟩ : ∃ E1, E1 = E ++ n1 := ⟨_, rfl⟩
  have hX1 : Ext m E1 := by rw [hE1]; exact hX.app hn1
  have b21 : OwnB E1 m.length 22 [.slice B jo co] := by rw [hE1]; exact b2.ext _
  rw [← hE1]
  clear hE1 b2 hX LE
  cases h2 : parB L with
  | false =>
    simp (config := {implicitDefEqProofs := false, maxDischargeDepth := 20}) (disch := first | omega | (simp only [lenE]; done) | (simp only [lenE]; omega) | rfl | (simp only [lenE, markR_len]; done) | (simp only [lenE, markR_len]; omega)) only [runE, mapE, listE, initT_5, initT_6, initT_7, initT_8, resV, oneV, binA, unA, reduceCtorEq, Nat.reduceEqDiff, Nat.reduceAdd, Nat.reduceLT, Nat.reduceLeDiff, Nat.reduceMul, Nat.reduceSub, ↓reduceIte, decide_true, decide_false, Bool.true_eq_false, Bool.false_eq_true, Bool.not_true, Bool.not_false, if_true, if_false, and_true, true_and, memE, celE, w64, Nat.zero_add, Nat.add_zero, Nat.mul_one, putL, and_self, ldn, bsl_no]
    exact no _ hX1 (by simp [pstOk, h2])
  | true =>
  simp (config := {implicitDefEqProofs := false, maxDischargeDepth := 20}) (disch := first | omega | (simp only [lenE]; done) | (simp only [lenE]; omega) | rfl | (simp only [lenE, markR_len]; done) | (simp only [lenE, markR_len]; omega)) only [runE, mapE, listE, initT_5, initT_6, initT_7, initT_8, resV, oneV, binA, unA, reduceCtorEq, Nat.reduceEqDiff, Nat.reduceAdd, Nat.reduceLT, Nat.reduceLeDiff, Nat.reduceMul, Nat.reduceSub, ↓reduceIte, decide_true, decide_false, Bool.true_eq_false, Bool.false_eq_true, Bool.not_true, Bool.not_false, if_true, if_false, and_true, true_and, memE, celE, w64, Nat.zero_add, Nat.add_zero, Nat.mul_one, putL, and_self, ldn, b21.mk1']
  refine callH_rc (areAsked_rc _ _ asked (hX1.keeps.ints hA)) ?_
  rintro r n2 ⟨rfl, hn2⟩
  obtain ⟨E2, hE2⟩ : ∃ E2, E2 = E1 ++ n2 := ⟨_, rfl⟩
  have hX2 : Ext m E2 := by rw [hE2]; exact hX1.app hn2
  have b22 : OwnB E2 m.length 22 [.slice B jo co] := by rw [hE2]; exact b21.ext _
  rw [← hE2]
  clear hE2 b21
  cases h3 : numsB asked 20 20 with
  | false =>
    simp (config := {implicitDefEqProofs := false, maxDischargeDepth := 20}) (disch := first | omega | (simp only [lenE]; done) | (simp only [lenE]; omega) | rfl | (simp only [lenE, markR_len]; done) | (simp only [lenE, markR_len]; omega)) only [runE, mapE, listE, initT_5, initT_6, initT_7, initT_8, resV, oneV, binA, unA, reduceCtorEq, Nat.reduceEqDiff, Nat.reduceAdd, Nat.reduceLT, Nat.reduceLeDiff, Nat.reduceMul, Nat.reduceSub, ↓reduceIte, decide_true, decide_false, Bool.true_eq_false, Bool.false_eq_true, Bool.not_true, Bool.not_false, if_true, if_false, and_true, true_and, memE, celE, w64, Nat.zero_add, Nat.add_zero, Nat.mul_one, putL, and_self, ldn, bsl_no]
    exact no _ hX2 (by simp [pstOk, h3])
  | true =>
  have hok : pstOk start L asked = true := by simp [pstOk, h1, h2, h3]
  have hG := parB_iff.1 h2
  have hs := nearB_iff.1 h1
  obtain ⟨ha20, haB⟩ := numsB_iff.1 h3
  have ePA : pstA start L asked = cL (fun d => pstk start (arrTo L L.length) asked (d + 1)) asked.length := by unfold pstA; rw [hok]; rfl
  rw [ePA, hok]
  simp (config := {implicitDefEqProofs := false, maxDischargeDepth := 20}) (disch := first | omega | (simp only [lenE]; done) | (simp only [lenE]; omega) | rfl | (simp only [lenE, markR_len]; done) | (simp only [lenE, markR_len]; omega)) only [runE, mapE, listE, initT_5, initT_6, initT_7, initT_8, resV, oneV, binA, unA, reduceCtorEq, Nat.reduceEqDiff, Nat.reduceAdd, Nat.reduceLT, Nat.reduceLeDiff, Nat.reduceMul, Nat.reduceSub, ↓reduceIte, decide_true, decide_false, Bool.true_eq_false, Bool.false_eq_true, Bool.not_true, Bool.not_false, if_true, if_false, and_true, true_and, memE, celE, w64, Nat.zero_add, Nat.add_zero, Nat.mul_one, putL, and_self, ldn]
  refine callH_rc (arrivalsOf_rc _ v L (hX2.keeps.pcs h) hG) ?_
  rintro r n3 hR
  obtain ⟨pid, pfl, rfl, hpid, hpo, hpl, hn3⟩ := hR.row
  obtain ⟨E3, hE3⟩ : ∃ E3, E3 = E2 ++ n3 := ⟨_, rfl⟩
  have hX3 : Ext m E3 := by rw [hE3]; exact hX2.app hn3
  have b23 : OwnB E3 m.length 22 [.slice B jo co] := by rw [hE3]; exact b22.ext _
  rw [← hE3] at hpo ⊢
  clear hE3 b22
  have hal24 := arrTo_len L L.length
  have hLm := hX3.len
  simp (config := {implicitDefEqProofs := false, maxDischargeDepth := 20}) (disch := first | omega | (simp only [lenE]; done) | (simp only [lenE]; omega) | rfl | (simp only [lenE, markR_len]; done) | (simp only [lenE, markR_len]; omega)) only [runE, mapE, listE, initT_5, initT_6, initT_7, initT_8, resV, oneV, binA, unA, reduceCtorEq, Nat.reduceEqDiff, Nat.reduceAdd, Nat.reduceLT, Nat.reduceLeDiff, Nat.reduceMul, Nat.reduceSub, ↓reduceIte, decide_true, decide_false, Bool.true_eq_false, Bool.false_eq_true, Bool.not_true, Bool.not_false, if_true, if_false, and_true, true_and, memE, celE, w64, Nat.zero_add, Nat.add_zero, Nat.mul_one, putL, and_self, ldn]
  obtain ⟨E4, hE4⟩ : ∃ E4, E4 = E3 ++ [⟨.own, 22, [.slice (some ⟨pid, 0, none⟩) (arrTo L L.length).length pfl]⟩] := ⟨_, rfl⟩
  have hX4 : Ext m E4 := by rw [hE4]; exact hX3.one _ _
  have b24 : OwnB E4 m.length 22 [.slice B jo co] := by rw [hE4]; exact b23.ext _
  have b14 : OwnB E4 E3.length 22 [.slice (some ⟨pid, 0, none⟩) (arrTo L L.length).length pfl] := by rw [hE4]; exact OwnB.here rfl
  have hp4 : IntsA E4 (.slice (some ⟨pid, 0, none⟩) (arrTo L L.length).length pfl) (arrTo L L.length) := by rw [hE4]; exact (hpo.ints (by omega) pfl).ext _
  try rw [← hE4]
  clear hE4
  have ha4 := hX4.keeps.ints hA
  try simp (config := {implicitDefEqProofs := false, maxDischargeDepth := 20}) (disch := first | omega | (simp only [lenE]; done) | (simp only [lenE]; omega) | rfl | (simp only [lenE, markR_len]; done) | (simp only [lenE, markR_len]; omega)) only [runE, mapE, listE, initT_5, initT_6, initT_7, initT_8, resV, oneV, binA, unA, reduceCtorEq, Nat.reduceEqDiff, Nat.reduceAdd, Nat.reduceLT, Nat.reduceLeDiff, Nat.reduceMul, Nat.reduceSub, ↓reduceIte, decide_true, decide_false, Bool.true_eq_false, Bool.false_eq_true, Bool.not_true, Bool.not_false, if_true, if_false, and_true, true_and, memE, celE, w64, Nat.zero_add, Nat.add_zero, Nat.mul_one, putL, and_self, ldn, b24.mk1', hal]
  refine callH_rc (courseI_rc _ _ (pstk start (arrTo L L.length) asked) asked.length ha20 (stockStep E4 E3.length m.length _ _ (arrTo L L.length) asked _ _ b14.mk1' b24.mk1' hp4 ha4 (Nat.le_refl _) (by omega) (fun k hk => rfl) (fun k hk => ?_))) ?_
  · have := pstk_bd hs hG haB k (by omega)
    have h5 := arrTo_bd hG L.length (Nat.le_refl _) k
    have h6 := getD_bd haB hk
    have h7 := hG.len
    exact ⟨⟨by omega, by omega⟩, ⟨by omega, by omega⟩, h6⟩
  · rintro r n5 ⟨hn5, id, rfl, hid, ho⟩
    have hX5 := hX4.app hn5
    have hL4 := hX4.len
    simp (config := {implicitDefEqProofs := false, maxDischargeDepth := 20}) (disch := first | omega | (simp only [lenE]; done) | (simp only [lenE]; omega) | rfl | (simp only [lenE, markR_len]; done) | (simp only [lenE, markR_len]; omega)) only [runE, mapE, listE, initT_5, initT_6, initT_7, initT_8, resV, oneV, binA, unA, reduceCtorEq, Nat.reduceEqDiff, Nat.reduceAdd, Nat.reduceLT, Nat.reduceLeDiff, Nat.reduceMul, Nat.reduceSub, ↓reduceIte, decide_true, decide_false, Bool.true_eq_false, Bool.false_eq_true, Bool.not_true, Bool.not_false, if_true, if_false, and_true, true_and, memE, celE, w64, Nat.zero_add, Nat.add_zero, Nat.mul_one, putL, and_self, ldn, ext_2_0, ext_2_1, slc1i (id := id) (n := asked.length + 1) (fl := 1) (by omega), Option.map_none]
    rw [cL_cons] at ho
    exact ext_intsP (f := fun v => .tuple #[v, .bool true]) (pre := [pstk start (arrTo L L.length) asked 0]) hX5 ho (by omega) (by rw [cL_len]; omega) rfl (by rw [cL_len]; omega)
set_option maxHeartbeats 4000000 in
theorem specParcelStocks_rc (m : Mem) (v av : Value) (start : Int) (L : List Pc) (asked : List Int) (h : PcsA m v L) (hA : IntsA m av asked) :
    RC Try.prog 64 [.int .i64 start, v, av] m (AnsO m (IntsP (pstA start L asked)) fun v => .tuple #[v, .bool (pstOk start L asked)]) := by
  refine rc_of_run mixed ok_spec_ParcelStocks (by simp) (go_start _ _ _ ?_)
  have hal := hA.len
  simp (config := {implicitDefEqProofs := false, maxDischargeDepth := 20}) (disch := first | omega | (simp only [lenE]; done) | (simp only [lenE]; omega) | rfl | (simp only [lenE, markR_len]; done) | (simp only [lenE, markR_len]; omega)) only [runE, mapE, listE, initT_5, initT_6, initT_7, initT_8, resV, oneV, binA, unA, reduceCtorEq, Nat.reduceEqDiff, Nat.reduceAdd, Nat.reduceLT, Nat.reduceLeDiff, Nat.reduceMul, Nat.reduceSub, ↓reduceIte, decide_true, decide_false, Bool.true_eq_false, Bool.false_eq_true, Bool.not_true, Bool.not_false, if_true, if_false, and_true, true_and, memE, celE, w64, Nat.zero_add, Nat.add_zero, Nat.mul_one, putL, and_self, ldn, c_spec_ParcelStocks, r_spec_ParcelStocks, bsl_no]
  obtain ⟨E, hE⟩ : ∃ E, E = roM m ++ [⟨.own, 3, []⟩] := ⟨_, rfl⟩
  have hX : Ext m E := by rw [hE]; exact (Ext.refl m).one _ _
  have o1 : OwnR E m.length [] := by rw [hE]; exact OwnB.here (roM_len m).symm
  try rw [← hE]
  clear hE
  have no : ∀ M, Ext m M → OwnR M m.length [] → pstOk start L asked = false → newQ m (AnsO m (IntsP (pstA start L asked)) fun v => .tuple #[v, .bool (pstOk start L asked)]) (.tuple #[.slice (some ⟨m.length, 0, none⟩) 0 1, .bool false]) M := fun M hM ho hno => by
    rw [pst_no hno, hno]
    exact ext_intsP (f := fun v => .tuple #[v, .bool false]) (pre := []) hM ho (Nat.le_refl _) (by simp) rfl rfl
  refine callH_rc (in11_rc _ start) ?_
  rintro r new ⟨rfl, rfl⟩
  rw [List.append_nil]
  cases h1 : nearB 200 start with
  | false =>
    simp (config := {implicitDefEqProofs := false, maxDischargeDepth := 20}) (disch := first | omega | (simp only [lenE]; done) | (simp only [lenE]; omega) | rfl | (simp only [lenE, markR_len]; done) | (simp only [lenE, markR_len]; omega)) only [runE, mapE, listE, initT_5, initT_6, initT_7, initT_8, resV, oneV, binA, unA, reduceCtorEq, Nat.reduceEqDiff, Nat.reduceAdd, Nat.reduceLT, Nat.reduceLeDiff, Nat.reduceMul, Nat.reduceSub, ↓reduceIte, decide_true, decide_false, Bool.true_eq_false, Bool.false_eq_true, Bool.not_true, Bool.not_false, if_true, if_false, and_true, true_and, memE, celE, w64, Nat.zero_add, Nat.add_zero, Nat.mul_one, putL, and_self, ldn]
    exact no _ hX o1 (by simp [pstOk, h1])
  | true =>
  simp (config := {implicitDefEqProofs := false, maxDischargeDepth := 20}) (disch := first | omega | (simp only [lenE]; done) | (simp only [lenE]; omega) | rfl | (simp only [lenE, markR_len]; done) | (simp only [lenE, markR_len]; omega)) only [runE, mapE, listE, initT_5, initT_6, initT_7, initT_8, resV, oneV, binA, unA, reduceCtorEq, Nat.reduceEqDiff, Nat.reduceAdd, Nat.reduceLT, Nat.reduceLeDiff, Nat.reduceMul, Nat.reduceSub, ↓reduceIte, decide_true, decide_false, Bool.true_eq_false, Bool.false_eq_true, Bool.not_true, Bool.not_false, if_true, if_false, and_true, true_and, memE, celE, w64, Nat.zero_add, Nat.add_zero, Nat.mul_one, putL, and_self, ldn]
  refine callH_rc (l11Parcels_rc _ v L (hX.keeps.pcs h)) ?_
  rintro r n1 ⟨rfl, hn1⟩
  obtain ⟨E1, hE1⟩ : ∃ E1, E1 = E ++ n1 := ⟨_, rfl⟩
  have hX1 : Ext m E1 := by rw [hE1]; exact hX.app hn1
  have o2 : OwnR E1 m.length [] := by rw [hE1]; exact o1.ext _
  rw [← hE1]
  clear hE1 o1 hX
  cases h2 : parB L with
  | false =>
    simp (config := {implicitDefEqProofs := false, maxDischargeDepth := 20}) (disch := first | omega | (simp only [lenE]; done) | (simp only [lenE]; omega) | rfl | (simp only [lenE, markR_len]; done) | (simp only [lenE, markR_len]; omega)) only [runE, mapE, listE, initT_5, initT_6, initT_7, initT_8, resV, oneV, binA, unA, reduceCtorEq, Nat.reduceEqDiff, Nat.reduceAdd, Nat.reduceLT, Nat.reduceLeDiff, Nat.reduceMul, Nat.reduceSub, ↓reduceIte, decide_true, decide_false, Bool.true_eq_false, Bool.false_eq_true, Bool.not_true, Bool.not_false, if_true, if_false, and_true, true_and, memE, celE, w64, Nat.zero_add, Nat.add_zero, Nat.mul_one, putL, and_self, ldn]
    exact no _ hX1 o2 (by simp [pstOk, h2])
  | true =>
  simp (config := {implicitDefEqProofs := false, maxDischargeDepth := 20}) (disch := first | omega | (simp only [lenE]; done) | (simp only [lenE]; omega) | rfl | (simp only [lenE, markR_len]; done) | (simp only [lenE, markR_len]; omega)) only [runE, mapE, listE, initT_5, initT_6, initT_7, initT_8, resV, oneV, binA, unA, reduceCtorEq, Nat.reduceEqDiff, Nat.reduceAdd, Nat.reduceLT, Nat.reduceLeDiff, Nat.reduceMul, Nat.reduceSub, ↓reduceIte, decide_true, decide_false, Bool.true_eq_false, Bool.false_eq_true, Bool.not_true, Bool.not_false, if_true, if_false, and_true, true_and, memE, celE, w64, Nat.zero_add, Nat.add_zero, Nat.mul_one, putL, and_self, ldn]
  refine callH_rc (l11Numbers_rc _ av asked 20 20 20 rfl (hX1.keeps.ints hA)) ?_
  rintro r new ⟨rfl, rfl⟩
  rw [List.append_nil]
  cases h3 : numsB asked 20 20 with
  | false =>
    simp (config := {implicitDefEqProofs := false, maxDischargeDepth := 20}) (disch := first | omega | (simp only [lenE]; done) | (simp only [lenE]; omega) | rfl | (simp only [lenE, markR_len]; done) | (simp only [lenE, markR_len]; omega)) only [runE, mapE, listE, initT_5, initT_6, initT_7, initT_8, resV, oneV, binA, unA, reduceCtorEq, Nat.reduceEqDiff, Nat.reduceAdd, Nat.reduceLT, Nat.reduceLeDiff, Nat.reduceMul, Nat.reduceSub, ↓reduceIte, decide_true, decide_false, Bool.true_eq_false, Bool.false_eq_true, Bool.not_true, Bool.not_false, if_true, if_false, and_true, true_and, memE, celE, w64, Nat.zero_add, Nat.add_zero, Nat.mul_one, putL, and_self, ldn]
    exact no _ hX1 o2 (by simp [pstOk, h3])
  | true =>
  have hok : pstOk start L asked = true := by simp [pstOk, h1, h2, h3]
  have hG := parB_iff.1 h2
  have hs := nearB_iff.1 h1
  obtain ⟨ha20, haB⟩ := numsB_iff.1 h3
  have ePA : pstA start L asked = cL (fun d => pstk start (arrTo L L.length) asked (d + 1)) asked.length := by unfold pstA; rw [hok]; rfl
  rw [ePA, hok]
  simp (config := {implicitDefEqProofs := false, maxDischargeDepth := 20}) (disch := first | omega | (simp only [lenE]; done) | (simp only [lenE]; omega) | rfl | (simp only [lenE, markR_len]; done) | (simp only [lenE, markR_len]; omega)) only [runE, mapE, listE, initT_5, initT_6, initT_7, initT_8, resV, oneV, binA, unA, reduceCtorEq, Nat.reduceEqDiff, Nat.reduceAdd, Nat.reduceLT, Nat.reduceLeDiff, Nat.reduceMul, Nat.reduceSub, ↓reduceIte, decide_true, decide_false, Bool.true_eq_false, Bool.false_eq_true, Bool.not_true, Bool.not_false, if_true, if_false, and_true, true_and, memE, celE, w64, Nat.zero_add, Nat.add_zero, Nat.mul_one, putL, and_self, ldn]
  refine callH_rc (l11Arrivals_rc _ v L (hX1.keeps.pcs h) hG) ?_
  rintro r n3 hR
  obtain ⟨pid, pfl, rfl, hpid, hpo, hpl, hn3⟩ := hR.row
  obtain ⟨E3, hE3⟩ : ∃ E3, E3 = E1 ++ n3 := ⟨_, rfl⟩
  have hX3 : Ext m E3 := by rw [hE3]; exact hX1.app hn3
  have o3 : OwnR E3 m.length [] := by rw [hE3]; exact o2.ext _
  have hL1 := hX1.len
  have hmp : m.length < pid := by have := o2.lt; omega
  rw [← hE3] at hpo ⊢
  clear hE3 o2
  have hal24 := arrTo_len L L.length
  obtain ⟨C, hC⟩ : ∃ C, C = fun d => pstk start (arrTo L L.length) asked (d + 1) := ⟨_, rfl⟩
  rw [← hC]
  simp (config := {implicitDefEqProofs := false, maxDischargeDepth := 20}) (disch := first | omega | (simp only [lenE]; done) | (simp only [lenE]; omega) | rfl | (simp only [lenE, markR_len]; done) | (simp only [lenE, markR_len]; omega)) only [runE, mapE, listE, initT_5, initT_6, initT_7, initT_8, resV, oneV, binA, unA, reduceCtorEq, Nat.reduceEqDiff, Nat.reduceAdd, Nat.reduceLT, Nat.reduceLeDiff, Nat.reduceMul, Nat.reduceSub, ↓reduceIte, decide_true, decide_false, Bool.true_eq_false, Bool.false_eq_true, Bool.not_true, Bool.not_false, if_true, if_false, and_true, true_and, memE, celE, w64, Nat.zero_add, Nat.add_zero, Nat.mul_one, putL, and_self, ldn]
  refine loop_inv mixed (fun s => ∃ (k : Nat) (M : Mem) (id : Nat), k ≤ asked.length ∧ s.m = M ∧ Ext m M ∧ OwnR M id (cL C k) ∧ m.length ≤ id ∧ id ≠ pid ∧ OwnR M pid (arrTo L L.length) ∧ s.t 2 = av ∧ s.t 8 = .slice (some ⟨id, 0, none⟩) k 1 ∧ s.t 9 = .slice (some ⟨pid, 0, none⟩) (arrTo L L.length).length pfl ∧ s.t 10 = .int .i64 (pstk start (arrTo L L.length) asked k) ∧ s.t 11 = .int .i64 k) (fun s => asked.length - (intOf (s.t 11)).toNat)
    ⟨0, _, m.length, by omega, rfl, hX3, o3, Nat.le_refl _, by omega, hpo, rfl, rfl, rfl, rfl, rfl⟩ ?_
  rintro s ⟨k, M, id, hk, tm, hx, ho, hid, hne, hp, t2, t8, t9, t10, t11⟩
  have haM := hx.keeps.ints hA
  by_cases hlt : k < asked.length
  · have hlt' : (k : Int) < asked.length := by omega
    have q1 := iad0 (id := pid) (n := (arrTo L L.length).length) (fl := pfl) (z := (k : Int)) rfl (by omega)
    have q2 := hp.rd' (i := k) (by omega)
    have a1 := haM.at_ k hlt
    have a2 := haM.ld k hlt
    have c1 := pstk_bd hs hG haB k (by omega)
    have c2 := arrTo_bd hG L.length (Nat.le_refl _) k
    have c3 := getD_bd haB hlt
    have c4 := hG.len
    have hul := cL_len C k
    have eC : pstk start (arrTo L L.length) asked k + (arrTo L L.length).getD k 0 - asked.getD k 0 = C k := by rw [hC]; rfl
    have ha := app_num (x := C k) (id2 := M.length) (n := k) ho (by omega) rfl hul.symm
    simp (config := {implicitDefEqProofs := false, maxDischargeDepth := 20}) (disch := first | omega | (simp only [lenE]; done) | (simp only [lenE]; omega) | rfl | (simp only [lenE, markR_len]; done) | (simp only [lenE, markR_len]; omega)) only [runE, mapE, listE, initT_5, initT_6, initT_7, initT_8, resV, oneV, binA, unA, reduceCtorEq, Nat.reduceEqDiff, Nat.reduceAdd, Nat.reduceLT, Nat.reduceLeDiff, Nat.reduceMul, Nat.reduceSub, ↓reduceIte, decide_true, decide_false, Bool.true_eq_false, Bool.false_eq_true, Bool.not_true, Bool.not_false, if_true, if_false, and_true, true_and, memE, celE, w64, Nat.zero_add, Nat.add_zero, Nat.mul_one, putL, and_self, ldn, tm, t2, t8, t9, t10, t11, hal, hlt', q1, q2, a1, a2, eC, bsl_one, ha]
    refine ⟨⟨k + 1, _, M.length + 1, by omega, rfl, ((hx.dead hid).one _ _).one _ _, ?_, by have := hx.len; omega, ?_, ?_, rfl, ?_⟩, ?_⟩
    · rw [cL_s]
      have := OwnR.at_end (M.set id deadB ++ [⟨.own, 3, [.int .i64 (C k)]⟩]) (cL C k ++ [C k])
      simpa using this
    · have := hp.lt; omega
    · exact ((hp.set_ne hne).ext _).ext _
    · rw [hC]; simp
    · simp [intOf]; omega
  · have hlt' : ¬ ((k : Int) < asked.length) := by omega
    obtain rfl : k = asked.length := by omega
    simp (config := {implicitDefEqProofs := false, maxDischargeDepth := 20}) (disch := first | omega | (simp only [lenE]; done) | (simp only [lenE]; omega) | rfl | (simp only [lenE, markR_len]; done) | (simp only [lenE, markR_len]; omega)) only [runE, mapE, listE, initT_5, initT_6, initT_7, initT_8, resV, oneV, binA, unA, reduceCtorEq, Nat.reduceEqDiff, Nat.reduceAdd, Nat.reduceLT, Nat.reduceLeDiff, Nat.reduceMul, Nat.reduceSub, ↓reduceIte, decide_true, decide_false, Bool.true_eq_false, Bool.false_eq_true, Bool.not_true, Bool.not_false, if_true, if_false, and_true, true_and, memE, celE, w64, Nat.zero_add, Nat.add_zero, Nat.mul_one, putL, and_self, ldn, tm, t2, t8, t9, t10, t11, hal, hlt']
    exact ext_intsP (f := fun v => .tuple #[v, .bool true]) (pre := []) hx ho hid (by rw [cL_len]; omega) rfl (by rw [cL_len])
end Go.Proofs.Ytnkbjliidenldaa.Ab
