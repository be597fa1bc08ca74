/- Parcels: what arrives, and the pairs that cross. -/
import Derived.Test.YtnkbjliidenldaaAbFl13
namespace Go.Proofs.Ytnkbjliidenldaa.Ab
open Go Go.RowKit
set_option linter.unusedVariables false
set_option linter.unusedSimpArgs false

theorem specArrivalsOf_rc (m : Mem) (v : Value) (L : List Pc) (h : PcsA m v L) : RC Try.prog 51 [v] m (AnsO m (IntsO (arrA L)) fun v => .tuple #[v, .bool (parB L)]) := by
  refine (?_ : RC Try.prog 51 [v] m (AnsL m (arrA L) (parB L))).mono fun r new h => h.obj
  refine rc_of_run mixed ok_spec_ArrivalsOf (by simp) (go_start _ _ _ ?_)
  simp (config := {implicitDefEqProofs := false, maxDischargeDepth := 20}) (disch := first | omega | (simp only [lenE]; done) | (simp only [lenE]; omega) | rfl | (simp only [lenE, markR_len]; done) | (simp only [lenE, markR_len]; omega)) only [runE, mapE, listE, initT_5, initT_6, initT_7, initT_8, resV, oneV, binA, unA, reduceCtorEq, Nat.reduceEqDiff, Nat.reduceAdd, Nat.reduceLT, Nat.reduceLeDiff, Nat.reduceMul, Nat.reduceSub, ↓reduceIte, decide_true, decide_false, Bool.true_eq_false, Bool.false_eq_true, Bool.not_true, Bool.not_false, if_true, if_false, and_true, true_and, memE, celE, w64, Nat.zero_add, Nat.add_zero, Nat.mul_one, putL, and_self, ldn, c_spec_ArrivalsOf, r_spec_ArrivalsOf]
  refine callH_rc (l11Parcels_rc _ v L h.ro) ?_
  rintro r n1 ⟨rfl, hn1⟩
  have hX := (Ext.refl m).app hn1
  obtain ⟨E0, hE0⟩ : ∃ E0, E0 = roM m ++ n1 := ⟨_, rfl⟩
  rw [← hE0] at hX ⊢
  clear hE0
  unfold arrA
  cases hp : parB L with
  | false =>
    simp (config := {implicitDefEqProofs := false, maxDischargeDepth := 20}) (disch := first | omega | (simp only [lenE]; done) | (simp only [lenE]; omega) | rfl | (simp only [lenE, markR_len]; done) | (simp only [lenE, markR_len]; omega)) only [runE, mapE, listE, initT_5, initT_6, initT_7, initT_8, resV, oneV, binA, unA, reduceCtorEq, Nat.reduceEqDiff, Nat.reduceAdd, Nat.reduceLT, Nat.reduceLeDiff, Nat.reduceMul, Nat.reduceSub, ↓reduceIte, decide_true, decide_false, Bool.true_eq_false, Bool.false_eq_true, Bool.not_true, Bool.not_false, if_true, if_false, and_true, true_and, memE, celE, w64, Nat.zero_add, Nat.add_zero, Nat.mul_one, putL, and_self, ldn, bsl_no]
    exact ext_ansL (hX.one _ _) (OwnB.here rfl) hX.len rfl (by simp)
  | true =>
    simp (config := {implicitDefEqProofs := false, maxDischargeDepth := 20}) (disch := first | omega | (simp only [lenE]; done) | (simp only [lenE]; omega) | rfl | (simp only [lenE, markR_len]; done) | (simp only [lenE, markR_len]; omega)) only [runE, mapE, listE, initT_5, initT_6, initT_7, initT_8, resV, oneV, binA, unA, reduceCtorEq, Nat.reduceEqDiff, Nat.reduceAdd, Nat.reduceLT, Nat.reduceLeDiff, Nat.reduceMul, Nat.reduceSub, ↓reduceIte, decide_true, decide_false, Bool.true_eq_false, Bool.false_eq_true, Bool.not_true, Bool.not_false, if_true, if_false, and_true, true_and, memE, celE, w64, Nat.zero_add, Nat.add_zero, Nat.mul_one, putL, and_self, ldn]
    refine callH_rc (l11Arrivals_rc _ v L (hX.keeps.pcs h) (parB_iff.1 hp)) ?_
    rintro r n2 hA
    obtain ⟨id, fl, rfl, hid, ho, hl, hn2⟩ := hA.row
    simp (config := {implicitDefEqProofs := false, maxDischargeDepth := 20}) (disch := first | omega | (simp only [lenE]; done) | (simp only [lenE]; omega) | rfl | (simp only [lenE, markR_len]; done) | (simp only [lenE, markR_len]; omega)) only [runE, mapE, listE, initT_5, initT_6, initT_7, initT_8, resV, oneV, binA, unA, reduceCtorEq, Nat.reduceEqDiff, Nat.reduceAdd, Nat.reduceLT, Nat.reduceLeDiff, Nat.reduceMul, Nat.reduceSub, ↓reduceIte, decide_true, decide_false, Bool.true_eq_false, Bool.false_eq_true, Bool.not_true, Bool.not_false, if_true, if_false, and_true, true_and, memE, celE, w64, Nat.zero_add, Nat.add_zero, Nat.mul_one, putL, and_self, ldn]
    exact ext_ansL (hX.app hn2) ho (by have := hX.len; omega) rfl hl
theorem implArrivalsOf_rc (m : Mem) (v : Value) (L : List Pc) (h : PcsA m v L) : RC Try.prog 53 [v] m (AnsO m (IntsO (arrA L)) fun v => .tuple #[v, .bool (parB L)]) := by
  refine (?_ : RC Try.prog 53 [v] m (AnsL m (arrA L) (parB L))).mono fun r new h => h.obj
  refine rc_of_run mixed ok_impl_ArrivalsOf (by simp) (go_start _ _ _ ?_)
  simp (config := {implicitDefEqProofs := false, maxDischargeDepth := 20}) (disch := first | omega | (simp only [lenE]; done) | (simp only [lenE]; omega) | rfl | (simp only [lenE, markR_len]; done) | (simp only [lenE, markR_len]; omega)) only [runE, mapE, listE, initT_5, initT_6, initT_7, initT_8, resV, oneV, binA, unA, reduceCtorEq, Nat.reduceEqDiff, Nat.reduceAdd, Nat.reduceLT, Nat.reduceLeDiff, Nat.reduceMul, Nat.reduceSub, ↓reduceIte, decide_true, decide_false, Bool.true_eq_false, Bool.false_eq_true, Bool.not_true, Bool.not_false, if_true, if_false, and_true, true_and, memE, celE, w64, Nat.zero_add, Nat.add_zero, Nat.mul_one, putL, and_self, ldn, c_impl_ArrivalsOf, r_impl_ArrivalsOf]
  refine callH_rc (areParcels_rc _ v L h.ro) ?_
  rintro r n1 ⟨rfl, hn1⟩
  have hX := (Ext.refl m).app hn1
  obtain ⟨E0, hE0⟩ : ∃ E0, E0 = roM m ++ n1 := ⟨_, rfl⟩
  rw [← hE0] at hX ⊢
  clear hE0
  unfold arrA
  cases hp : parB L with
  | false =>
    simp (config := {implicitDefEqProofs := false, maxDischargeDepth := 20}) (disch := first | omega | (simp only [lenE]; done) | (simp only [lenE]; omega) | rfl | (simp only [lenE, markR_len]; done) | (simp only [lenE, markR_len]; omega)) only [runE, mapE, listE, initT_5, initT_6, initT_7, initT_8, resV, oneV, binA, unA, reduceCtorEq, Nat.reduceEqDiff, Nat.reduceAdd, Nat.reduceLT, Nat.reduceLeDiff, Nat.reduceMul, Nat.reduceSub, ↓reduceIte, decide_true, decide_false, Bool.true_eq_false, Bool.false_eq_true, Bool.not_true, Bool.not_false, if_true, if_false, and_true, true_and, memE, celE, w64, Nat.zero_add, Nat.add_zero, Nat.mul_one, putL, and_self, ldn, bsl_no]
    exact ext_ansL (hX.one _ _) (OwnB.here rfl) hX.len rfl (by simp)
  | true =>
    simp (config := {implicitDefEqProofs := false, maxDischargeDepth := 20}) (disch := first | omega | (simp only [lenE]; done) | (simp only [lenE]; omega) | rfl | (simp only [lenE, markR_len]; done) | (simp only [lenE, markR_len]; omega)) only [runE, mapE, listE, initT_5, initT_6, initT_7, initT_8, resV, oneV, binA, unA, reduceCtorEq, Nat.reduceEqDiff, Nat.reduceAdd, Nat.reduceLT, Nat.reduceLeDiff, Nat.reduceMul, Nat.reduceSub, ↓reduceIte, decide_true, decide_false, Bool.true_eq_false, Bool.false_eq_true, Bool.not_true, Bool.not_false, if_true, if_false, and_true, true_and, memE, celE, w64, Nat.zero_add, Nat.add_zero, Nat.mul_one, putL, and_self, ldn]
    refine callH_rc (arrivalsOf_rc _ v L (hX.keeps.pcs h) (parB_iff.1 hp)) ?_
    rintro r n2 hA
    obtain ⟨id, fl, rfl, hid, ho, hl, hn2⟩ := hA.row
    simp (config := {implicitDefEqProofs := false, maxDischargeDepth := 20}) (disch := first | omega | (simp only [lenE]; done) | (simp only [lenE]; omega) | rfl | (simp only [lenE, markR_len]; done) | (simp only [lenE, markR_len]; omega)) only [runE, mapE, listE, initT_5, initT_6, initT_7, initT_8, resV, oneV, binA, unA, reduceCtorEq, Nat.reduceEqDiff, Nat.reduceAdd, Nat.reduceLT, Nat.reduceLeDiff, Nat.reduceMul, Nat.reduceSub, ↓reduceIte, decide_true, decide_false, Bool.true_eq_false, Bool.false_eq_true, Bool.not_true, Bool.not_false, if_true, if_false, and_true, true_and, memE, celE, w64, Nat.zero_add, Nat.add_zero, Nat.mul_one, putL, and_self, ldn]
    exact ext_ansL (hX.app hn2) ho (by have := hX.len; omega) rfl hl
/-! Pairs that cross. -/
def crossB (p q : Pc) : Bool := decide (p.day < q.day) && decide (q.day + q.lead < p.day + p.lead)
def xIn (L : List Pc) (i : Nat) : Nat → List (Int × Int)
  | 0 => []
  | j + 1 => xIn L i j ++ (if crossB (L.getD i Pc0) (L.getD j Pc0) = true then [((i : Int), (j : Int))] else [])
def xTo (L : List Pc) : Nat → List (Int × Int)
  | 0 => []
  | i + 1 => xTo L i ++ xIn L i L.length
theorem xIn_len (L : List Pc) (i : Nat) : ∀ j, (xIn L i j).length ≤ j
  | 0 => by simp [xIn]
  | j + 1 => by
    have := xIn_len L i j
    simp only [xIn, List.length_append]
    split <;> simp <;> omega
theorem xTo_len (L : List Pc) : ∀ i, (xTo L i).length ≤ i * L.length
  | 0 => by simp [xTo]
  | i + 1 => by
    have h1 := xTo_len L i
    have h2 := xIn_len L i L.length
    simp only [xTo, List.length_append]
    rw [Nat.succ_mul]; omega
theorem xs_bd {L : List Pc} (h : GoodL L) {i j : Nat} (hi : i ≤ L.length) (hj : j ≤ L.length) : (xTo L i ++ xIn L i j).length ≤ 200 := by
  have h1 := xTo_len L i
  have h2 := xIn_len L i j
  have h3 := h.len
  have h4 : i * L.length ≤ 12 * 12 := Nat.mul_le_mul (by omega) (by omega)
  rw [List.length_append]; omega
theorem xTo_bd {L : List Pc} (h : GoodL L) {i : Nat} (hi : i ≤ L.length) : (xTo L i).length ≤ 200 := by
  have := xs_bd h hi (Nat.zero_le _) (j := 0)
  simpa [xIn] using this
theorem xIn_nil {L : List Pc} {i : Nat} : ∀ j, (∀ k, k < j → crossB (L.getD i Pc0) (L.getD k Pc0) = false) → xIn L i j = []
  | 0, _ => rfl
  | j + 1, h => by
    simp only [xIn]
    rw [xIn_nil j fun k hk => h k (by omega), h j (by omega)]; rfl
theorem asc_le {L : List Pc} (h : GoodL L) {j : Nat} : ∀ d, j + d < L.length → (L.getD j Pc0).day ≤ (L.getD (j + d) Pc0).day
  | 0, _ => Int.le_refl _
  | d + 1, hd => Int.le_trans (asc_le h d (by omega)) (h.asc (j + d) (by omega))
theorem xIn_first {L : List Pc} (h : GoodL L) {i : Nat} (hi : i < L.length) : xIn L i (i + 1) = [] :=
  xIn_nil _ fun k hk => by
    have := asc_le h (j := k) (i - k) (by omega)
    rw [show k + (i - k) = i by omega] at this
    unfold crossB
    rw [decide_eq_false (by omega)]; rfl
def crossA (L : List Pc) : List (Int × Int) := if parB L then xTo L L.length else []
theorem bld_pairX (a b : Int) : bldA [.int .i64 0, .int .i64 0] [(0, 1, .int .i64 a), (1, 1, .int .i64 b)] = some (.agg #[.int .i64 a, .int .i64 b]) := rfl
theorem pairsC_sX (L : List (Int × Int)) (p : Int × Int) : pairsC (L ++ [p]) = pairsC L ++ [.int .i64 p.1, .int .i64 p.2] := by simp [pairsC, pairC]
theorem ext_pairsX {m M : Mem} {L : List (Int × Int)} {id n : Nat} {e : TypeId} {f : Value → Value} (h : Ext m M) (ho : OwnB M id e (pairsC L)) (hid : m.length ≤ id) (hn : n = L.length) (hl : L.length ≤ 1048576) :
    newQ m (AnsO m (PairsO e L) f) (f (.slice (some ⟨id, 0, none⟩) n 2)) M := by
  subst hn
  exact ext_ansO h fun M' hM => ⟨hl, id, 2, rfl, hid, ho.lt, ho.at_ (hM _ hid ho.lt)⟩
theorem isCrossed_rc (m : Mem) (p q : Pc) (hp : GoodP11 p) (hq : GoodP11 q) : RC Try.prog 107 [pcV p, pcV q] m (AnsV (.bool (crossB p q))) := by
  refine rc_of_run mixed ok_impl_isCrossed (by simp) (go_start _ _ _ ?_)
  simp (config := {implicitDefEqProofs := false, maxDischargeDepth := 20}) (disch := first | omega | (simp only [lenE]; done) | (simp only [lenE]; omega) | rfl | (simp only [lenE, markR_len]; done) | (simp only [lenE, markR_len]; omega)) only [runE, mapE, listE, initT_5, initT_6, initT_7, initT_8, resV, oneV, binA, unA, reduceCtorEq, Nat.reduceEqDiff, Nat.reduceAdd, Nat.reduceLT, Nat.reduceLeDiff, Nat.reduceMul, Nat.reduceSub, ↓reduceIte, decide_true, decide_false, Bool.true_eq_false, Bool.false_eq_true, Bool.not_true, Bool.not_false, if_true, if_false, and_true, true_and, memE, celE, w64, Nat.zero_add, Nat.add_zero, Nat.mul_one, putL, and_self, ldn, c_impl_isCrossed, r_impl_isCrossed, pcV]
  obtain ⟨E, hE⟩ : ∃ E, E = roM m ++ [⟨.own, 113, [.int .i64 p.day, .int .i64 p.amount, .int .i64 p.lead]⟩] ++ [⟨.own, 113, [.int .i64 q.day, .int .i64 q.amount, .int .i64 q.lead]⟩] := ⟨_, rfl⟩
  have hX : Ext m E := by rw [hE]; exact ((Ext.refl m).one _ _).one _ _
  have b1 : OwnB E m.length 113 [.int .i64 p.day, .int .i64 p.amount, .int .i64 p.lead] := by rw [hE]; exact (OwnB.here (roM_len m).symm).ext _
  have b2 : OwnB E (m.length + 1) 113 [.int .i64 q.day, .int .i64 q.amount, .int .i64 q.lead] := by rw [hE]; exact OwnB.here (by simp [roM_len])
  try rw [← hE]
  clear hE
  by_cases h1 : p.day < q.day
  · try simp (config := {implicitDefEqProofs := false, maxDischargeDepth := 20}) (disch := first | omega | (simp only [lenE]; done) | (simp only [lenE]; omega) | rfl | (simp only [lenE, markR_len]; done) | (simp only [lenE, markR_len]; omega)) only [runE, mapE, listE, initT_5, initT_6, initT_7, initT_8, resV, oneV, binA, unA, reduceCtorEq, Nat.reduceEqDiff, Nat.reduceAdd, Nat.reduceLT, Nat.reduceLeDiff, Nat.reduceMul, Nat.reduceSub, ↓reduceIte, decide_true, decide_false, Bool.true_eq_false, Bool.false_eq_true, Bool.not_true, Bool.not_false, if_true, if_false, and_true, true_and, memE, celE, w64, Nat.zero_add, Nat.add_zero, Nat.mul_one, putL, and_self, ldn, b1.mk3', b2.mk3', h1]
    refine rcallH_rc (arrivalOf_rc _ q hq) ?_
    rintro r n1 ⟨rfl, hn1⟩
    try simp (config := {implicitDefEqProofs := false, maxDischargeDepth := 20}) (disch := first | omega | (simp only [lenE]; done) | (simp only [lenE]; omega) | rfl | (simp only [lenE, markR_len]; done) | (simp only [lenE, markR_len]; omega)) only [runE, mapE, listE, initT_5, initT_6, initT_7, initT_8, resV, oneV, binA, unA, reduceCtorEq, Nat.reduceEqDiff, Nat.reduceAdd, Nat.reduceLT, Nat.reduceLeDiff, Nat.reduceMul, Nat.reduceSub, ↓reduceIte, decide_true, decide_false, Bool.true_eq_false, Bool.false_eq_true, Bool.not_true, Bool.not_false, if_true, if_false, and_true, true_and, memE, celE, w64, Nat.zero_add, Nat.add_zero, Nat.mul_one, putL, and_self, ldn, b1.mk3', b2.mk3', h1]
    refine rcallH_rc (arrivalOf_rc _ p hp) ?_
    rintro r n2 ⟨rfl, hn2⟩
    simp (config := {implicitDefEqProofs := false, maxDischargeDepth := 20}) (disch := first | omega | (simp only [lenE]; done) | (simp only [lenE]; omega) | rfl | (simp only [lenE, markR_len]; done) | (simp only [lenE, markR_len]; omega)) only [runE, mapE, listE, initT_5, initT_6, initT_7, initT_8, resV, oneV, binA, unA, reduceCtorEq, Nat.reduceEqDiff, Nat.reduceAdd, Nat.reduceLT, Nat.reduceLeDiff, Nat.reduceMul, Nat.reduceSub, ↓reduceIte, decide_true, decide_false, Bool.true_eq_false, Bool.false_eq_true, Bool.not_true, Bool.not_false, if_true, if_false, and_true, true_and, memE, celE, w64, Nat.zero_add, Nat.add_zero, Nat.mul_one, putL, and_self, ldn]
    exact ext_ansV ((hX.app hn1).app hn2) (by simp [crossB, h1])
  · try simp (config := {implicitDefEqProofs := false, maxDischargeDepth := 20}) (disch := first | omega | (simp only [lenE]; done) | (simp only [lenE]; omega) | rfl | (simp only [lenE, markR_len]; done) | (simp only [lenE, markR_len]; omega)) only [runE, mapE, listE, initT_5, initT_6, initT_7, initT_8, resV, oneV, binA, unA, reduceCtorEq, Nat.reduceEqDiff, Nat.reduceAdd, Nat.reduceLT, Nat.reduceLeDiff, Nat.reduceMul, Nat.reduceSub, ↓reduceIte, decide_true, decide_false, Bool.true_eq_false, Bool.false_eq_true, Bool.not_true, Bool.not_false, if_true, if_false, and_true, true_and, memE, celE, w64, Nat.zero_add, Nat.add_zero, Nat.mul_one, putL, and_self, ldn, b1.mk3', b2.mk3', h1]
    exact ext_ansV hX (by simp [crossB, h1])
def xAll (L : List Pc) (i j : Nat) : List (Int × Int) := xTo L i ++ xIn L i j
theorem xAll_0 (L : List Pc) (i : Nat) : xAll L i 0 = xTo L i := by simp [xAll, xIn]
theorem xAll_end (L : List Pc) (i : Nat) : xAll L i L.length = xTo L (i + 1) := rfl
theorem xAll_s (L : List Pc) (i j : Nat) : xAll L i (j + 1) = xAll L i j ++ (if crossB (L.getD i Pc0) (L.getD j Pc0) = true then [((i : Int), (j : Int))] else []) := by simp only [xAll, xIn, List.append_assoc]
theorem xAll_bd {L : List Pc} (h : GoodL L) {i j : Nat} (hi : i ≤ L.length) (hj : j ≤ L.length) : (xAll L i j).length ≤ 200 := xs_bd h hi hj
set_option maxHeartbeats 4000000 in
theorem implCrossing_rc (m : Mem) (v : Value) (L : List Pc) (h : PcsA m v L) : RC Try.prog 57 [v] m (AnsO m (PairsO 117 (crossA L)) fun v => .tuple #[v, .bool (parB L)]) := by
  refine rc_of_run mixed ok_impl_CrossingPairs (by simp) (go_start _ _ _ ?_)
  simp (config := {implicitDefEqProofs := false, maxDischargeDepth := 20}) (disch := first | omega | (simp only [lenE]; done) | (simp only [lenE]; omega) | rfl | (simp only [lenE, markR_len]; done) | (simp only [lenE, markR_len]; omega)) only [runE, mapE, listE, initT_5, initT_6, initT_7, initT_8, resV, oneV, binA, unA, reduceCtorEq, Nat.reduceEqDiff, Nat.reduceAdd, Nat.reduceLT, Nat.reduceLeDiff, Nat.reduceMul, Nat.reduceSub, ↓reduceIte, decide_true, decide_false, Bool.true_eq_false, Bool.false_eq_true, Bool.not_true, Bool.not_false, if_true, if_false, and_true, true_and, memE, celE, w64, Nat.zero_add, Nat.add_zero, Nat.mul_one, putL, and_self, ldn, c_impl_CrossingPairs, r_impl_CrossingPairs]
  refine callH_rc (areParcels_rc _ v L h.ro) ?_
  rintro r n1 ⟨rfl, hn1⟩
  have hX := (Ext.refl m).app hn1
  obtain ⟨E0, hE0⟩ : ∃ E0, E0 = roM m ++ n1 := ⟨_, rfl⟩
  rw [← hE0] at hX ⊢
  clear hE0
  unfold crossA
  cases hp : parB L with
  | false =>
    simp (config := {implicitDefEqProofs := false, maxDischargeDepth := 20}) (disch := first | omega | (simp only [lenE]; done) | (simp only [lenE]; omega) | rfl | (simp only [lenE, markR_len]; done) | (simp only [lenE, markR_len]; omega)) only [runE, mapE, listE, initT_5, initT_6, initT_7, initT_8, resV, oneV, binA, unA, reduceCtorEq, Nat.reduceEqDiff, Nat.reduceAdd, Nat.reduceLT, Nat.reduceLeDiff, Nat.reduceMul, Nat.reduceSub, ↓reduceIte, decide_true, decide_false, Bool.true_eq_false, Bool.false_eq_true, Bool.not_true, Bool.not_false, if_true, if_false, and_true, true_and, memE, celE, w64, Nat.zero_add, Nat.add_zero, Nat.mul_one, putL, and_self, ldn, bsl_no]
    exact ext_noPairs (f := fun v => .tuple #[v, .bool false]) hX rfl
  | true =>
  have hG := parB_iff.1 hp
  have hlen := hG.len
  have hl := h.len
  simp (config := {implicitDefEqProofs := false, maxDischargeDepth := 20}) (disch := first | omega | (simp only [lenE]; done) | (simp only [lenE]; omega) | rfl | (simp only [lenE, markR_len]; done) | (simp only [lenE, markR_len]; omega)) only [runE, mapE, listE, initT_5, initT_6, initT_7, initT_8, resV, oneV, binA, unA, reduceCtorEq, Nat.reduceEqDiff, Nat.reduceAdd, Nat.reduceLT, Nat.reduceLeDiff, Nat.reduceMul, Nat.reduceSub, ↓reduceIte, decide_true, decide_false, Bool.true_eq_false, Bool.false_eq_true, Bool.not_true, Bool.not_false, if_true, if_false, and_true, true_and, memE, celE, w64, Nat.zero_add, Nat.add_zero, Nat.mul_one, putL, and_self, ldn, bsl_no, hl]
  refine loop_inv mixed (fun s => ∃ (i : Nat) (M : Mem) (id : Nat), i ≤ L.length ∧ s.m = M ∧ Ext m M ∧ m.length ≤ id ∧ OwnB M id 117 (pairsC (xTo L i)) ∧ s.t 0 = v ∧ s.t 4 = .slice (some ⟨id, 0, none⟩) (xTo L i).length 2 ∧ s.t 14 = v ∧ s.t 15 = .int .i64 L.length ∧ s.t 16 = .int .i64 i) (fun s => L.length - (intOf (s.t 16)).toNat)
    ⟨0, _, _, by omega, rfl, hX.one _ _, hX.len, OwnB.here rfl, rfl, rfl, rfl, rfl, rfl⟩ ?_
  rintro s ⟨i, M, id, hi, tm, hx, hid, ho, t0, t4, t14, t15, t16⟩
  by_cases hlt : i < L.length
  · have hlt' : (i : Int) < L.length := by omega
    have hM := hx.keeps.pcs h
    obtain ⟨p, hpp⟩ : ∃ p, p = L.getD i Pc0 := ⟨_, rfl⟩
    have hgp : GoodP11 p := hpp ▸ hG.all i hlt
    have i1 := hM.at_ hlt
    have i2 := hM.ld hlt
    rw [← hpp] at i2
    simp (config := {implicitDefEqProofs := false, maxDischargeDepth := 20}) (disch := first | omega | (simp only [lenE]; done) | (simp only [lenE]; omega) | rfl | (simp only [lenE, markR_len]; done) | (simp only [lenE, markR_len]; omega)) only [runE, mapE, listE, initT_5, initT_6, initT_7, initT_8, resV, oneV, binA, unA, reduceCtorEq, Nat.reduceEqDiff, Nat.reduceAdd, Nat.reduceLT, Nat.reduceLeDiff, Nat.reduceMul, Nat.reduceSub, ↓reduceIte, decide_true, decide_false, Bool.true_eq_false, Bool.false_eq_true, Bool.not_true, Bool.not_false, if_true, if_false, and_true, true_and, memE, celE, w64, Nat.zero_add, Nat.add_zero, Nat.mul_one, putL, and_self, ldn, tm, t0, t4, t14, t15, t16, hlt', i1, i2, hl, pcV, stP_agg3p]
    have bB : OwnB (M ++ [⟨.own, 113, [.int .i64 p.day, .int .i64 p.amount, .int .i64 p.lead]⟩]) M.length 113 [.int .i64 p.day, .int .i64 p.amount, .int .i64 p.lead] := OwnB.here rfl
    obtain ⟨B, hB⟩ : ∃ B, B = M.length := ⟨_, rfl⟩
    rw [← hB] at bB
    rw [← hB]
    have hBm : m.length ≤ B := by have := hx.len; omega
    refine loop_inv mixed (fun s => ∃ (j : Nat) (M : Mem) (id : Nat), j ≤ L.length ∧ s.m = M ∧ Ext m M ∧ m.length ≤ id ∧ OwnB M B 113 [.int .i64 p.day, .int .i64 p.amount, .int .i64 p.lead] ∧ OwnB M id 117 (pairsC (xAll L i j)) ∧ s.t 0 = v ∧ s.t 4 = .slice (some ⟨id, 0, none⟩) (xAll L i j).length 2 ∧ s.t 5 = .int .i64 i ∧ s.t 6 = .pointer (some ⟨B, 0, none⟩) ∧ s.t 14 = v ∧ s.t 15 = .int .i64 L.length ∧ s.t 16 = .int .i64 i ∧ s.t 21 = v ∧ s.t 22 = .int .i64 L.length ∧ s.t 23 = .int .i64 j) (fun s => L.length - (intOf (s.t 23)).toNat)
      ⟨0, _, id, by omega, rfl, hx.one _ _, hid, bB, by rw [xAll_0]; exact ho.ext _, by simp only [put_t, put_t', put_m, putT_t, putT_t', putT_m, init_t, init_m, initT_0, initT_1, initT_2, initT_3, initT_4, initT_5, initT_6, initT_7, initT_8, Nat.reduceEqDiff, ↓reduceIte, t0], by simp only [put_t, put_t', put_m, putT_t, putT_t', putT_m, init_t, init_m, initT_0, initT_1, initT_2, initT_3, initT_4, initT_5, initT_6, initT_7, initT_8, Nat.reduceEqDiff, ↓reduceIte, t4]; rw [xAll_0], by simp only [put_t, put_t', put_m, putT_t, putT_t', putT_m, init_t, init_m, initT_0, initT_1, initT_2, initT_3, initT_4, initT_5, initT_6, initT_7, initT_8, Nat.reduceEqDiff, ↓reduceIte, t16], by simp only [put_t, put_t', put_m, putT_t, putT_t', putT_m, init_t, init_m, initT_0, initT_1, initT_2, initT_3, initT_4, initT_5, initT_6, initT_7, initT_8, Nat.reduceEqDiff, ↓reduceIte], by simp only [put_t, put_t', put_m, putT_t, putT_t', putT_m, init_t, init_m, initT_0, initT_1, initT_2, initT_3, initT_4, initT_5, initT_6, initT_7, initT_8, Nat.reduceEqDiff, ↓reduceIte, t14], by simp only [put_t, put_t', put_m, putT_t, putT_t', putT_m, init_t, init_m, initT_0, initT_1, initT_2, initT_3, initT_4, initT_5, initT_6, initT_7, initT_8, Nat.reduceEqDiff, ↓reduceIte, t15], by simp only [put_t, put_t', put_m, putT_t, putT_t', putT_m, init_t, init_m, initT_0, initT_1, initT_2, initT_3, initT_4, initT_5, initT_6, initT_7, initT_8, Nat.reduceEqDiff, ↓reduceIte, t16], by simp only [put_t, put_t', put_m, putT_t, putT_t', putT_m, init_t, init_m, initT_0, initT_1, initT_2, initT_3, initT_4, initT_5, initT_6, initT_7, initT_8, Nat.reduceEqDiff, ↓reduceIte], by simp only [put_t, put_t', put_m, putT_t, putT_t', putT_m, init_t, init_m, initT_0, initT_1, initT_2, initT_3, initT_4, initT_5, initT_6, initT_7, initT_8, Nat.reduceEqDiff, ↓reduceIte], by simp only [put_t, put_t', put_m, putT_t, putT_t', putT_m, init_t, init_m, initT_0, initT_1, initT_2, initT_3, initT_4, initT_5, initT_6, initT_7, initT_8, Nat.reduceEqDiff, ↓reduceIte]; simp⟩ ?_
    clear tm t0 t4 t14 t15 t16 hB bB ho hx i1 i2 hM
    rintro s ⟨j, M, id, hj, tm, hx, hid, bB, ho, t0, t4, t5, t6, t14, t15, t16, t21, t22, t23⟩
    by_cases hlj : j < L.length
    · have hlj' : (j : Int) < L.length := by omega
      have hM := hx.keeps.pcs h
      obtain ⟨q, hqq⟩ : ∃ q, q = L.getD j Pc0 := ⟨_, rfl⟩
      have hgq : GoodP11 q := hqq ▸ hG.all j hlj
      have i1 := hM.at_ hlj
      have i2 := hM.ld hlj
      rw [← hqq] at i2
      have hbd := xAll_bd hG hi hj
      have estep : xAll L i (j + 1) = xAll L i j ++ (if crossB p q = true then [((i : Int), (j : Int))] else []) := by rw [hpp, hqq]; exact xAll_s L i j
      simp (config := {implicitDefEqProofs := false, maxDischargeDepth := 20}) (disch := first | omega | (simp only [lenE]; done) | (simp only [lenE]; omega) | rfl | (simp only [lenE, markR_len]; done) | (simp only [lenE, markR_len]; omega)) only [runE, mapE, listE, initT_5, initT_6, initT_7, initT_8, resV, oneV, binA, unA, reduceCtorEq, Nat.reduceEqDiff, Nat.reduceAdd, Nat.reduceLT, Nat.reduceLeDiff, Nat.reduceMul, Nat.reduceSub, ↓reduceIte, decide_true, decide_false, Bool.true_eq_false, Bool.false_eq_true, Bool.not_true, Bool.not_false, if_true, if_false, and_true, true_and, memE, celE, w64, Nat.zero_add, Nat.add_zero, Nat.mul_one, putL, and_self, ldn, tm, t0, t4, t5, t6, t14, t15, t16, t21, t22, t23, hlj', i1, i2, pcV, stP_agg3p, (bB.ext _).mk3', bB.mk3']
      refine callH_rc (isCrossed_rc _ p q hgp hgq) ?_
      rintro r n1 ⟨rfl, hn1⟩
      obtain ⟨E, hE⟩ : ∃ E, E = M ++ [⟨.own, 113, [.int .i64 q.day, .int .i64 q.amount, .int .i64 q.lead]⟩] ++ n1 := ⟨_, rfl⟩
      have hxE : Ext m E := by rw [hE]; exact (hx.one _ _).app hn1
      have bE : OwnB E B 113 [.int .i64 p.day, .int .i64 p.amount, .int .i64 p.lead] := by rw [hE]; exact (bB.ext _).ext _
      have oE : OwnB E id 117 (pairsC (xAll L i j)) := by rw [hE]; exact (ho.ext _).ext _
      rw [← hE]
      clear hE
      cases hc : crossB p q with
      | false =>
        simp (config := {implicitDefEqProofs := false, maxDischargeDepth := 20}) (disch := first | omega | (simp only [lenE]; done) | (simp only [lenE]; omega) | rfl | (simp only [lenE, markR_len]; done) | (simp only [lenE, markR_len]; omega)) only [runE, mapE, listE, initT_5, initT_6, initT_7, initT_8, resV, oneV, binA, unA, reduceCtorEq, Nat.reduceEqDiff, Nat.reduceAdd, Nat.reduceLT, Nat.reduceLeDiff, Nat.reduceMul, Nat.reduceSub, ↓reduceIte, decide_true, decide_false, Bool.true_eq_false, Bool.false_eq_true, Bool.not_true, Bool.not_false, if_true, if_false, and_true, true_and, memE, celE, w64, Nat.zero_add, Nat.add_zero, Nat.mul_one, putL, and_self, ldn, tm, t0, t4, t5, t6, t14, t15, t16, t21, t22, t23]
        rw [hc] at estep
        simp only [Bool.false_eq_true, if_false, List.append_nil] at estep
        refine ⟨⟨j + 1, _, id, by omega, rfl, hxE, hid, bE, by rw [estep]; exact oE, by rw [estep], by simp⟩, ?_⟩
        simp [intOf]; omega
      | true =>
        have happ := app_back (e := 117) (sz := 2) (byt := 16) (n := (xAll L i j).length) (ys := [.int .i64 (i : Int), .int .i64 (j : Int)]) oE rfl (by rw [pairsC_len]) rfl rfl (by omega) (by omega)
        simp (config := {implicitDefEqProofs := false, maxDischargeDepth := 20}) (disch := first | omega | (simp only [lenE]; done) | (simp only [lenE]; omega) | rfl | (simp only [lenE, markR_len]; done) | (simp only [lenE, markR_len]; omega)) only [runE, mapE, listE, initT_5, initT_6, initT_7, initT_8, resV, oneV, binA, unA, reduceCtorEq, Nat.reduceEqDiff, Nat.reduceAdd, Nat.reduceLT, Nat.reduceLeDiff, Nat.reduceMul, Nat.reduceSub, ↓reduceIte, decide_true, decide_false, Bool.true_eq_false, Bool.false_eq_true, Bool.not_true, Bool.not_false, if_true, if_false, and_true, true_and, memE, celE, w64, Nat.zero_add, Nat.add_zero, Nat.mul_one, putL, and_self, ldn, tm, t0, t4, t5, t6, t14, t15, t16, t21, t22, t23, bld_pairX, bsl_pair, happ]
        rw [hc] at estep
        simp only [if_true] at estep
        have hBE := bE.lt
        have hne : id ≠ B := oE.ne bE (by decide)
        refine ⟨⟨j + 1, _, E.length + 1, by omega, rfl, ((hxE.dead hid).one _ _).one _ _, by have := hxE.len; omega, ((bE.dead' hne).ext _).ext _, ?_, ?_, by simp⟩, ?_⟩
        · rw [estep, pairsC_sX]
          exact OwnB.here (by simp)
        · rw [estep]; simp
        · simp [intOf]; omega
    · have hlj' : ¬ ((j : Int) < L.length) := by omega
      obtain rfl : j = L.length := by omega
      simp (config := {implicitDefEqProofs := false, maxDischargeDepth := 20}) (disch := first | omega | (simp only [lenE]; done) | (simp only [lenE]; omega) | rfl | (simp only [lenE, markR_len]; done) | (simp only [lenE, markR_len]; omega)) only [runE, mapE, listE, initT_5, initT_6, initT_7, initT_8, resV, oneV, binA, unA, reduceCtorEq, Nat.reduceEqDiff, Nat.reduceAdd, Nat.reduceLT, Nat.reduceLeDiff, Nat.reduceMul, Nat.reduceSub, ↓reduceIte, decide_true, decide_false, Bool.true_eq_false, Bool.false_eq_true, Bool.not_true, Bool.not_false, if_true, if_false, and_true, true_and, memE, celE, w64, Nat.zero_add, Nat.add_zero, Nat.mul_one, putL, and_self, ldn, tm, t0, t4, t5, t6, t14, t15, t16, t21, t22, t23, hlj']
      rw [xAll_end] at ho
      refine ⟨⟨i + 1, _, id, by omega, rfl, hx, hid, ho, by rw [xAll_end], by simp⟩, ?_⟩
      simp [intOf]; omega
  · have hlt' : ¬ ((i : Int) < L.length) := by omega
    obtain rfl : i = L.length := by omega
    simp (config := {implicitDefEqProofs := false, maxDischargeDepth := 20}) (disch := first | omega | (simp only [lenE]; done) | (simp only [lenE]; omega) | rfl | (simp only [lenE, markR_len]; done) | (simp only [lenE, markR_len]; omega)) only [runE, mapE, listE, initT_5, initT_6, initT_7, initT_8, resV, oneV, binA, unA, reduceCtorEq, Nat.reduceEqDiff, Nat.reduceAdd, Nat.reduceLT, Nat.reduceLeDiff, Nat.reduceMul, Nat.reduceSub, ↓reduceIte, decide_true, decide_false, Bool.true_eq_false, Bool.false_eq_true, Bool.not_true, Bool.not_false, if_true, if_false, and_true, true_and, memE, celE, w64, Nat.zero_add, Nat.add_zero, Nat.mul_one, putL, and_self, ldn, tm, t0, t4, t14, t15, t16, hlt']
    exact ext_pairsX (f := fun v => .tuple #[v, .bool true]) hx ho hid rfl (by have := xTo_bd hG (Nat.le_refl L.length); omega)
end Go.Proofs.Ytnkbjliidenldaa.Ab
