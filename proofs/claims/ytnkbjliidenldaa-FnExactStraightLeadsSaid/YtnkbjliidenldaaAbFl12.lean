/- Parcels: which lists are valid. -/
import Derived.Test.YtnkbjliidenldaaAbFl2
namespace Go.Proofs.Ytnkbjliidenldaa.Ab
open Go Go.RowKit
set_option linter.unusedVariables false
set_option linter.unusedSimpArgs false

theorem OwnR.backP {m n0 : Mem} {id : Nat} {l : List Int} (h : OwnR (roM m ++ n0) id l) (hid : m.length ≤ id) : OwnR (m ++ n0) id l :=
  h.at_ (by rw [List.getElem?_append_right hid, List.getElem?_append_right (by rw [roM_len]; exact hid), roM_len])
theorem OwnB.deadP {M : Mem} {id id' : Nat} {e : TypeId} {cs : List Value} (h : OwnB M id' e cs) (hne : id ≠ id') : OwnB (M.set id deadB) id' e cs := h.set_ne hne _
def pcOf (v : Value) : Pc := match v with
  | .agg #[.int _ a, .int _ b, .int _ c] => ⟨a, b, c⟩
  | _ => Pc0
theorem pcOf_v (x : Pc) : pcOf (pcV x) = x := rfl
def ascB (L : List Pc) : Bool := decide (∀ k, k < L.length - 1 → (L.getD k Pc0).day ≤ (L.getD (k + 1) Pc0).day)
def parB (L : List Pc) : Bool := (decide ((L.length : Int) ≤ 12) && L.all Pc.good) && ascB L
structure GoodL (L : List Pc) : Prop where
  len : L.length ≤ 12
  all : ∀ k, k < L.length → GoodP11 (L.getD k Pc0)
  asc : ∀ k, k + 1 < L.length → (L.getD k Pc0).day ≤ (L.getD (k + 1) Pc0).day
theorem allPc {L : List Pc} : L.all Pc.good = true ↔ ∀ k, k < L.length → GoodP11 (L.getD k Pc0) := by
  rw [List.all_eq_true]
  constructor
  · intro h k hk
    refine goodPc_iff.1 (h _ ?_)
    rw [List.getD_eq_getElem?_getD, List.getElem?_eq_getElem hk]; exact List.getElem_mem hk
  · intro h x hx
    obtain ⟨k, hk, rfl⟩ := List.getElem_of_mem hx
    have := h k hk
    rw [List.getD_eq_getElem?_getD, List.getElem?_eq_getElem hk] at this
    exact goodPc_iff.2 this
theorem parB_iff {L : List Pc} : parB L = true ↔ GoodL L := by
  unfold parB ascB
  rw [Bool.and_eq_true, Bool.and_eq_true, decide_eq_true_eq, decide_eq_true_eq, allPc]
  exact ⟨fun h => ⟨by omega, h.1.2, fun k hk => h.2 k (by omega)⟩, fun h => ⟨⟨by have := h.len; omega, h.all⟩, fun k hk => h.asc k (by omega)⟩⟩
theorem all_pc (L : List Pc) : (L.map pcV).all (fun x => (pcOf x).good) = L.all Pc.good := by
  rw [List.all_map]; rfl
theorem ones_pc (L : List Pc) : ∀ x ∈ L.map pcV, ∃ a b c, x = .agg #[a, b, c] ∧ onesB [a, b, c] = true := by
  intro x hx
  obtain ⟨p, _, rfl⟩ := List.mem_map.1 hx
  exact ⟨_, _, _, rfl, rfl⟩
theorem isParcel_rc (m : Mem) (p : Pc) : RC Try.prog 132 [pcV p] m (AnsV (.bool p.good)) := by
  refine rc_of_run mixed ok_impl_isParcel (by simp) (go_start _ _ _ ?_)
  have hx : Ext m (roM m ++ [⟨.own, 113, [.int .i64 p.day, .int .i64 p.amount, .int .i64 p.lead]⟩]) := (Ext.refl m).one _ _
  simp (config := {implicitDefEqProofs := false, maxDischargeDepth := 20}) (disch := first | omega | (simp only [lenE]; done) | (simp only [lenE]; omega) | rfl | (simp only [lenE, markR_len]; done) | (simp only [lenE, markR_len]; omega)) only [runE, mapE, listE, initT_5, initT_6, initT_7, initT_8, resV, oneV, binA, unA, reduceCtorEq, Nat.reduceEqDiff, Nat.reduceAdd, Nat.reduceLT, Nat.reduceLeDiff, Nat.reduceMul, Nat.reduceSub, ↓reduceIte, decide_true, decide_false, Bool.true_eq_false, Bool.false_eq_true, Bool.not_true, Bool.not_false, if_true, if_false, and_true, true_and, memE, celE, w64, Nat.zero_add, Nat.add_zero, Nat.mul_one, putL, and_self, ldn, c_impl_isParcel, r_impl_isParcel, pcV]
  refine callH_rc (isCount11_rc _ _ _) ?_
  rintro r1 new ⟨rfl, rfl⟩
  rw [List.append_nil]
  cases h1 : (decide (1 ≤ p.day) && decide (p.day ≤ 20)) with
  | false =>
    simp (config := {implicitDefEqProofs := false, maxDischargeDepth := 20}) (disch := first | omega | (simp only [lenE]; done) | (simp only [lenE]; omega) | rfl | (simp only [lenE, markR_len]; done) | (simp only [lenE, markR_len]; omega)) only [runE, mapE, listE, initT_5, initT_6, initT_7, initT_8, resV, oneV, binA, unA, reduceCtorEq, Nat.reduceEqDiff, Nat.reduceAdd, Nat.reduceLT, Nat.reduceLeDiff, Nat.reduceMul, Nat.reduceSub, ↓reduceIte, decide_true, decide_false, Bool.true_eq_false, Bool.false_eq_true, Bool.not_true, Bool.not_false, if_true, if_false, and_true, true_and, memE, celE, w64, Nat.zero_add, Nat.add_zero, Nat.mul_one, putL, and_self, ldn]
    exact ext_ansV hx (by simp only [Pc.good, h1]; rfl)
  | true =>
    simp (config := {implicitDefEqProofs := false, maxDischargeDepth := 20}) (disch := first | omega | (simp only [lenE]; done) | (simp only [lenE]; omega) | rfl | (simp only [lenE, markR_len]; done) | (simp only [lenE, markR_len]; omega)) only [runE, mapE, listE, initT_5, initT_6, initT_7, initT_8, resV, oneV, binA, unA, reduceCtorEq, Nat.reduceEqDiff, Nat.reduceAdd, Nat.reduceLT, Nat.reduceLeDiff, Nat.reduceMul, Nat.reduceSub, ↓reduceIte, decide_true, decide_false, Bool.true_eq_false, Bool.false_eq_true, Bool.not_true, Bool.not_false, if_true, if_false, and_true, true_and, memE, celE, w64, Nat.zero_add, Nat.add_zero, Nat.mul_one, putL, and_self, ldn]
    refine callH_rc (isCount11_rc _ _ _) ?_
    rintro r1 new ⟨rfl, rfl⟩
    rw [List.append_nil]
    cases h2 : (decide (1 ≤ p.amount) && decide (p.amount ≤ 40)) with
    | false =>
      simp (config := {implicitDefEqProofs := false, maxDischargeDepth := 20}) (disch := first | omega | (simp only [lenE]; done) | (simp only [lenE]; omega) | rfl | (simp only [lenE, markR_len]; done) | (simp only [lenE, markR_len]; omega)) only [runE, mapE, listE, initT_5, initT_6, initT_7, initT_8, resV, oneV, binA, unA, reduceCtorEq, Nat.reduceEqDiff, Nat.reduceAdd, Nat.reduceLT, Nat.reduceLeDiff, Nat.reduceMul, Nat.reduceSub, ↓reduceIte, decide_true, decide_false, Bool.true_eq_false, Bool.false_eq_true, Bool.not_true, Bool.not_false, if_true, if_false, and_true, true_and, memE, celE, w64, Nat.zero_add, Nat.add_zero, Nat.mul_one, putL, and_self, ldn]
      exact ext_ansV hx (by simp only [Pc.good, h1, h2]; rfl)
    | true =>
      simp (config := {implicitDefEqProofs := false, maxDischargeDepth := 20}) (disch := first | omega | (simp only [lenE]; done) | (simp only [lenE]; omega) | rfl | (simp only [lenE, markR_len]; done) | (simp only [lenE, markR_len]; omega)) only [runE, mapE, listE, initT_5, initT_6, initT_7, initT_8, resV, oneV, binA, unA, reduceCtorEq, Nat.reduceEqDiff, Nat.reduceAdd, Nat.reduceLT, Nat.reduceLeDiff, Nat.reduceMul, Nat.reduceSub, ↓reduceIte, decide_true, decide_false, Bool.true_eq_false, Bool.false_eq_true, Bool.not_true, Bool.not_false, if_true, if_false, and_true, true_and, memE, celE, w64, Nat.zero_add, Nat.add_zero, Nat.mul_one, putL, and_self, ldn]
      refine callH_rc (within_rc _ _ _) ?_
      rintro r1 new ⟨rfl, rfl⟩
      simp (config := {implicitDefEqProofs := false, maxDischargeDepth := 20}) (disch := first | omega | (simp only [lenE]; done) | (simp only [lenE]; omega) | rfl | (simp only [lenE, markR_len]; done) | (simp only [lenE, markR_len]; omega)) only [runE, mapE, listE, initT_5, initT_6, initT_7, initT_8, resV, oneV, binA, unA, reduceCtorEq, Nat.reduceEqDiff, Nat.reduceAdd, Nat.reduceLT, Nat.reduceLeDiff, Nat.reduceMul, Nat.reduceSub, ↓reduceIte, decide_true, decide_false, Bool.true_eq_false, Bool.false_eq_true, Bool.not_true, Bool.not_false, if_true, if_false, and_true, true_and, memE, celE, w64, Nat.zero_add, Nat.add_zero, Nat.mul_one, putL, and_self, ldn, List.append_nil]
      exact ext_ansV hx (by simp only [Pc.good, h1, h2]; rfl)
theorem funParcel {m : Mem} {L : List Pc} : FunG m (.func (.func 132) #[] #[]) (fun x : Value => [x]) (· ∈ L.map pcV) (fun x => .bool (pcOf x).good) :=
  ⟨_, _, rfl, fun M _ x hx => by
    obtain ⟨p, _, rfl⟩ := List.mem_map.1 hx
    exact isParcel_rc M p⟩
theorem dayDiff_rc (m : Mem) (p q : Pc) (hp : GoodP11 p) (hq : GoodP11 q) : RC Try.prog 130 [pcV p, pcV q] m (AnsV (.int .i64 (p.day - q.day))) := by
  refine rc_of_run mixed ok_impl_areParcels_1 (by simp) (go_start _ _ _ ?_)
  have := hp.day
  have := hq.day
  simp (config := {implicitDefEqProofs := false, maxDischargeDepth := 20}) (disch := first | omega | (simp only [lenE]; done) | (simp only [lenE]; omega) | rfl | (simp only [lenE, markR_len]; done) | (simp only [lenE, markR_len]; omega)) only [runE, mapE, listE, initT_5, initT_6, initT_7, initT_8, resV, oneV, binA, unA, reduceCtorEq, Nat.reduceEqDiff, Nat.reduceAdd, Nat.reduceLT, Nat.reduceLeDiff, Nat.reduceMul, Nat.reduceSub, ↓reduceIte, decide_true, decide_false, Bool.true_eq_false, Bool.false_eq_true, Bool.not_true, Bool.not_false, if_true, if_false, and_true, true_and, memE, celE, w64, Nat.zero_add, Nat.add_zero, Nat.mul_one, putL, and_self, ldn, c_impl_areParcels_1, r_impl_areParcels_1, pcV]
  exact ext_ansV (((Ext.refl m).one _ _).one _ _) rfl
theorem isSortedP_rc (m : Mem) (v : Value) (L : List Pc) (h : PcsA m v L) (hl : L.length ≤ 12) (hall : ∀ k, k < L.length → GoodP11 (L.getD k Pc0)) :
    RC Try.prog 133 [v, .func (.func 130) #[] #[]] m (AnsV (.bool (ascB L))) := by
  refine rc_of_run mixed ok_slices_IsSortedFunc_Parcel (by simp) (go_start _ _ _ ?_)
  simp (config := {implicitDefEqProofs := false, maxDischargeDepth := 20}) (disch := first | omega | (simp only [lenE]; done) | (simp only [lenE]; omega) | rfl | (simp only [lenE, markR_len]; done) | (simp only [lenE, markR_len]; omega)) only [runE, mapE, listE, initT_5, initT_6, initT_7, initT_8, resV, oneV, binA, unA, reduceCtorEq, Nat.reduceEqDiff, Nat.reduceAdd, Nat.reduceLT, Nat.reduceLeDiff, Nat.reduceMul, Nat.reduceSub, ↓reduceIte, decide_true, decide_false, Bool.true_eq_false, Bool.false_eq_true, Bool.not_true, Bool.not_false, if_true, if_false, and_true, true_and, memE, celE, w64, Nat.zero_add, Nat.add_zero, Nat.mul_one, putL, and_self, ldn, c_slices_IsSortedFunc_Parcel, r_slices_IsSortedFunc_Parcel, h.len]
  refine loop_inv mixed (fun s => ∃ (k : Nat) (M : Mem), k ≤ L.length ∧ s.m = M ∧ Ext m M ∧ s.t 0 = v ∧ s.t 1 = .func (.func 130) #[] #[] ∧ s.t 5 = .int .i64 ((k : Int) - 1) ∧ (∀ j, k ≤ j + 1 → j + 1 < L.length → (L.getD j Pc0).day ≤ (L.getD (j + 1) Pc0).day)) (fun s => (intOf (s.t 5) + 1).toNat)
    ⟨L.length, _, by omega, rfl, Ext.refl m, rfl, rfl, rfl, fun j h1 h2 => absurd h2 (by omega)⟩ ?_
  rintro s ⟨k, M, hk, tm, hx, t0, t1, t5, hasc⟩
  by_cases hlt : 2 ≤ k
  · have hlt' : (0 : Int) < (k : Int) - 1 := by omega
    have hM := hx.keeps.pcs h
    have ek : ((k : Int) - 1) = ((k - 1 : Nat) : Int) := by omega
    have ek2 : ((k : Int) - 1 - 1) = ((k - 2 : Nat) : Int) := by omega
    have i1 := hM.at_ (k := k - 1) (by omega)
    have i2 := hM.ld (k := k - 1) (by omega)
    have i3 := hM.at_ (k := k - 2) (by omega)
    have i4 := hM.ld (k := k - 2) (by omega)
    rw [← ek] at i1
    rw [← ek2] at i3
    simp (config := {implicitDefEqProofs := false, maxDischargeDepth := 20}) (disch := first | omega | (simp only [lenE]; done) | (simp only [lenE]; omega) | rfl | (simp only [lenE, markR_len]; done) | (simp only [lenE, markR_len]; omega)) only [runE, mapE, listE, initT_5, initT_6, initT_7, initT_8, resV, oneV, binA, unA, reduceCtorEq, Nat.reduceEqDiff, Nat.reduceAdd, Nat.reduceLT, Nat.reduceLeDiff, Nat.reduceMul, Nat.reduceSub, ↓reduceIte, decide_true, decide_false, Bool.true_eq_false, Bool.false_eq_true, Bool.not_true, Bool.not_false, if_true, if_false, and_true, true_and, memE, celE, w64, Nat.zero_add, Nat.add_zero, Nat.mul_one, putL, and_self, ldn, tm, t0, t1, t5, gt_iff_lt, hlt', i1, i2, i3, i4]
    refine rcallH_rc (dayDiff_rc _ _ _ (hall (k - 1) (by omega)) (hall (k - 2) (by omega))) ?_
    rintro r new ⟨rfl, hn⟩
    by_cases hc : (L.getD (k - 1) Pc0).day - (L.getD (k - 2) Pc0).day < 0
    · simp (config := {implicitDefEqProofs := false, maxDischargeDepth := 20}) (disch := first | omega | (simp only [lenE]; done) | (simp only [lenE]; omega) | rfl | (simp only [lenE, markR_len]; done) | (simp only [lenE, markR_len]; omega)) only [runE, mapE, listE, initT_5, initT_6, initT_7, initT_8, resV, oneV, binA, unA, reduceCtorEq, Nat.reduceEqDiff, Nat.reduceAdd, Nat.reduceLT, Nat.reduceLeDiff, Nat.reduceMul, Nat.reduceSub, ↓reduceIte, decide_true, decide_false, Bool.true_eq_false, Bool.false_eq_true, Bool.not_true, Bool.not_false, if_true, if_false, and_true, true_and, memE, celE, w64, Nat.zero_add, Nat.add_zero, Nat.mul_one, putL, and_self, ldn, tm, t0, t1, t5, hc]
      refine ext_ansV (hx.app hn) ?_
      congr 1
      symm
      refine decide_eq_false fun hh => ?_
      have := hh (k - 2) (by omega)
      rw [show k - 2 + 1 = k - 1 by omega] at this
      omega
    · simp (config := {implicitDefEqProofs := false, maxDischargeDepth := 20}) (disch := first | omega | (simp only [lenE]; done) | (simp only [lenE]; omega) | rfl | (simp only [lenE, markR_len]; done) | (simp only [lenE, markR_len]; omega)) only [runE, mapE, listE, initT_5, initT_6, initT_7, initT_8, resV, oneV, binA, unA, reduceCtorEq, Nat.reduceEqDiff, Nat.reduceAdd, Nat.reduceLT, Nat.reduceLeDiff, Nat.reduceMul, Nat.reduceSub, ↓reduceIte, decide_true, decide_false, Bool.true_eq_false, Bool.false_eq_true, Bool.not_true, Bool.not_false, if_true, if_false, and_true, true_and, memE, celE, w64, Nat.zero_add, Nat.add_zero, Nat.mul_one, putL, and_self, ldn, tm, t0, t1, t5, hc]
      refine ⟨⟨k - 1, _, by omega, rfl, hx.app hn, by congr 1; omega, fun j h1 h2 => ?_⟩, ?_⟩
      · by_cases e : j = k - 2
        · subst e
          rw [show k - 2 + 1 = k - 1 by omega]
          omega
        · exact hasc j (by omega) h2
      · simp [intOf]; omega
  · have hlt' : ¬ ((0 : Int) < (k : Int) - 1) := by omega
    simp (config := {implicitDefEqProofs := false, maxDischargeDepth := 20}) (disch := first | omega | (simp only [lenE]; done) | (simp only [lenE]; omega) | rfl | (simp only [lenE, markR_len]; done) | (simp only [lenE, markR_len]; omega)) only [runE, mapE, listE, initT_5, initT_6, initT_7, initT_8, resV, oneV, binA, unA, reduceCtorEq, Nat.reduceEqDiff, Nat.reduceAdd, Nat.reduceLT, Nat.reduceLeDiff, Nat.reduceMul, Nat.reduceSub, ↓reduceIte, decide_true, decide_false, Bool.true_eq_false, Bool.false_eq_true, Bool.not_true, Bool.not_false, if_true, if_false, and_true, true_and, memE, celE, w64, Nat.zero_add, Nat.add_zero, Nat.mul_one, putL, and_self, ldn, tm, t0, t1, t5, gt_iff_lt, hlt']
    refine ext_ansV hx ?_
    congr 1
    symm
    exact decide_eq_true fun j hj => hasc j (by omega) (by omega)
theorem areParcels_rc (m : Mem) (v : Value) (L : List Pc) (h : PcsA m v L) : RC Try.prog 104 [v] m (AnsV (.bool (parB L))) := by
  refine rc_of_run mixed ok_impl_areParcels (by simp) (go_start _ _ _ ?_)
  simp (config := {implicitDefEqProofs := false, maxDischargeDepth := 20}) (disch := first | omega | (simp only [lenE]; done) | (simp only [lenE]; omega) | rfl | (simp only [lenE, markR_len]; done) | (simp only [lenE, markR_len]; omega)) only [runE, mapE, listE, initT_5, initT_6, initT_7, initT_8, resV, oneV, binA, unA, reduceCtorEq, Nat.reduceEqDiff, Nat.reduceAdd, Nat.reduceLT, Nat.reduceLeDiff, Nat.reduceMul, Nat.reduceSub, ↓reduceIte, decide_true, decide_false, Bool.true_eq_false, Bool.false_eq_true, Bool.not_true, Bool.not_false, if_true, if_false, and_true, true_and, memE, celE, w64, Nat.zero_add, Nat.add_zero, Nat.mul_one, putL, and_self, ldn, c_impl_areParcels, r_impl_areParcels]
  refine callH_rc (areAtMostP_rc _ v _ _ _ 12 (ones_pc L) h.ro.el funParcel) ?_
  rintro r n1 ⟨rfl, hn1⟩
  have hX := (Ext.refl m).app hn1
  rw [all_pc, List.length_map]
  cases hc : (decide ((L.length : Int) ≤ 12) && L.all Pc.good) with
  | false =>
    simp (config := {implicitDefEqProofs := false, maxDischargeDepth := 20}) (disch := first | omega | (simp only [lenE]; done) | (simp only [lenE]; omega) | rfl | (simp only [lenE, markR_len]; done) | (simp only [lenE, markR_len]; omega)) only [runE, mapE, listE, initT_5, initT_6, initT_7, initT_8, resV, oneV, binA, unA, reduceCtorEq, Nat.reduceEqDiff, Nat.reduceAdd, Nat.reduceLT, Nat.reduceLeDiff, Nat.reduceMul, Nat.reduceSub, ↓reduceIte, decide_true, decide_false, Bool.true_eq_false, Bool.false_eq_true, Bool.not_true, Bool.not_false, if_true, if_false, and_true, true_and, memE, celE, w64, Nat.zero_add, Nat.add_zero, Nat.mul_one, putL, and_self, ldn]
    exact ext_ansV hX (by unfold parB; rw [hc]; rfl)
  | true =>
    simp only [Bool.and_eq_true, decide_eq_true_eq] at hc
    simp (config := {implicitDefEqProofs := false, maxDischargeDepth := 20}) (disch := first | omega | (simp only [lenE]; done) | (simp only [lenE]; omega) | rfl | (simp only [lenE, markR_len]; done) | (simp only [lenE, markR_len]; omega)) only [runE, mapE, listE, initT_5, initT_6, initT_7, initT_8, resV, oneV, binA, unA, reduceCtorEq, Nat.reduceEqDiff, Nat.reduceAdd, Nat.reduceLT, Nat.reduceLeDiff, Nat.reduceMul, Nat.reduceSub, ↓reduceIte, decide_true, decide_false, Bool.true_eq_false, Bool.false_eq_true, Bool.not_true, Bool.not_false, if_true, if_false, and_true, true_and, memE, celE, w64, Nat.zero_add, Nat.add_zero, Nat.mul_one, putL, and_self, ldn]
    refine callH_rc (isSortedP_rc _ v L (hX.keeps.pcs h) (by omega) (allPc.1 hc.2)) ?_
    rintro r n2 ⟨rfl, hn2⟩
    simp (config := {implicitDefEqProofs := false, maxDischargeDepth := 20}) (disch := first | omega | (simp only [lenE]; done) | (simp only [lenE]; omega) | rfl | (simp only [lenE, markR_len]; done) | (simp only [lenE, markR_len]; omega)) only [runE, mapE, listE, initT_5, initT_6, initT_7, initT_8, resV, oneV, binA, unA, reduceCtorEq, Nat.reduceEqDiff, Nat.reduceAdd, Nat.reduceLT, Nat.reduceLeDiff, Nat.reduceMul, Nat.reduceSub, ↓reduceIte, decide_true, decide_false, Bool.true_eq_false, Bool.false_eq_true, Bool.not_true, Bool.not_false, if_true, if_false, and_true, true_and, memE, celE, w64, Nat.zero_add, Nat.add_zero, Nat.mul_one, putL, and_self, ldn]
    refine ext_ansV (hX.app hn2) ?_
    unfold parB
    rw [hc.2, decide_eq_true hc.1]; rfl
end Go.Proofs.Ytnkbjliidenldaa.Ab
