/- What the law needs of the texts that it rests on. -/
import Derived.Test.YtckpfgkgigicpaaShFnLevels1
section
namespace Go.Proofs.Ytckpfgkgigicpaa.Ab
open Go Go.RowKit
set_option linter.unusedVariables false
set_option linter.unusedSimpArgs false
def upI (B : List Int) : Int := amin (fun i => B.getD i.toNat 0) 0 (B.length - 1)
def loI (B : List Int) (K : Int) : Int := firstAt (fun b => decide (b ≤ B.getD (upI B).toNat 0 + K)) B 0
theorem upI_least {B : List Int} (h : 0 < B.length) : IsLeast (fun i => B.getD i.toNat 0) 0 (B.length - 1) (upI B) := by
  have := amin_least (fun i => B.getD i.toNat 0) 0 (B.length - 1)
  rwa [Int.zero_add, show (((B.length - 1 : Nat)) : Int) = (B.length : Int) - 1 by omega] at this
theorem firstAt_is {f : Int → Bool} {l : List Int} {k : Nat} (hk : k < l.length) (h1 : ∀ j, j < k → f (l.getD j 0) = false) (h2 : f (l.getD k 0) = true) : firstAt f l 0 = k := by
  have key : ∀ j, j ≤ k → firstAt f l 0 = firstAt f (l.drop j) j := by
    intro j hj
    induction j with
    | zero => rfl
    | succ j ih => rw [ih (by omega), firstAt_step (by omega), h1 j (by omega)]; rfl
  rw [key k (Nat.le_refl _), firstAt_step hk, h2]; rfl
def pairOf (p : Pr) (next : List Int) (n : Nat) : Int × Int := (p.floor + loI (billsL p next n) (p.setup * p.pow (n + 1)), p.floor + upI (billsL p next n))
structure LoUp (B : List Int) (K : Int) : Prop where
  len : 0 < B.length
  k : 0 ≤ K
theorem LoUp.up {B : List Int} {K : Int} (h : LoUp B K) : 0 ≤ upI B ∧ upI B ≤ B.length - 1 := ⟨(upI_least h.len).1, (upI_least h.len).2.1⟩
theorem slMin_rc (m : Mem) (v : Value) (l : List Int) (h : IntsA m v l) (hl : 0 < l.length) :
    RC Try.prog 74 [v] m fun r new => r = .int .i64 (l.getD (upI l).toNat 0) ∧ new = [] := by
  refine rc_of_run mixed ok_slices_Min (by simp) (go_start _ _ _ ?_)
  have hr := h.ro
  have h1 : ¬ ((l.length : Int) < 1) := by omega
  have a0 : iadA 1 v (.int .i64 0) = some (pAt v 0) := hr.at_ 0 hl
  have hup := upI_least hl
  simp (config := {implicitDefEqProofs := false, maxDischargeDepth := 20}) (disch := first | omega | (simp only [lenE]; done) | (simp only [lenE]; omega) | rfl | (simp only [lenE, markR_len]; done) | (simp only [lenE, markR_len]; omega)) only [runE, mapE, listE, initT_5, initT_6, initT_7, initT_8, resV, oneV, binA, unA, reduceCtorEq, Nat.reduceEqDiff, Nat.reduceAdd, Nat.reduceLT, Nat.reduceLeDiff, Nat.reduceMul, Nat.reduceSub, ↓reduceIte, decide_true, decide_false, Bool.true_eq_false, Bool.false_eq_true, Bool.not_true, Bool.not_false, if_true, if_false, and_true, true_and, memE, celE, w64, Nat.zero_add, Nat.add_zero, Nat.mul_one, putL, and_self, ldn, c_slices_Min, r_slices_Min, hr.len, h1, a0, hr.ld 0 hl]
  refine loop_inv mixed (fun s => ∃ (k : Nat) (z : Int), k < l.length ∧ (∃ i : Nat, i ≤ k ∧ z = l.getD i 0) ∧ (∀ i : Nat, i ≤ k → z ≤ l.getD i 0) ∧ s.t 0 = v ∧ s.t 3 = .int .i64 z ∧ s.t 4 = .int .i64 ((k + 1 : Nat) : Int) ∧ s.m = roM m) (fun s => l.length + 1 - (intOf (s.t 4)).toNat) ⟨0, l.getD 0 0, hl, ⟨0, by omega, rfl⟩, fun i hi => by rw [show i = 0 by omega]; exact Int.le_refl _, rfl, rfl, rfl, rfl⟩ ?_
  rintro s ⟨k, z, hk, ⟨i0, hi0, hz⟩, hmin, t0, t3, t4, tm⟩
  have bd := hr.bd
  by_cases hlt : k + 1 < l.length
  · have hlt' : ((k + 1 : Nat) : Int) < l.length := by omega
    simp (config := {implicitDefEqProofs := false, maxDischargeDepth := 20}) (disch := first | omega | (simp only [lenE]; done) | (simp only [lenE]; omega) | rfl | (simp only [lenE, markR_len]; done) | (simp only [lenE, markR_len]; omega)) only [runE, mapE, listE, initT_5, initT_6, initT_7, initT_8, resV, oneV, binA, unA, reduceCtorEq, Nat.reduceEqDiff, Nat.reduceAdd, Nat.reduceLT, Nat.reduceLeDiff, Nat.reduceMul, Nat.reduceSub, ↓reduceIte, decide_true, decide_false, Bool.true_eq_false, Bool.false_eq_true, Bool.not_true, Bool.not_false, if_true, if_false, and_true, true_and, memE, celE, w64, Nat.zero_add, Nat.add_zero, Nat.mul_one, putL, and_self, ldn, t0, t3, t4, tm, hr.len, hr.at_ (k + 1) hlt, hr.ld (k + 1) hlt, hlt']
    refine ⟨⟨k + 1, min z (l.getD (k + 1) 0), hlt, ?_, fun i hi => ?_, rfl, by congr 1⟩, by simp [intOf]; omega⟩
    · by_cases e : z ≤ l.getD (k + 1) 0
      · exact ⟨i0, by omega, by rw [← hz]; omega⟩
      · exact ⟨k + 1, by omega, by omega⟩
    · by_cases e : i = k + 1
      · rw [e]; omega
      · have := hmin i (by omega); omega
  · have hlt' : ¬ (((k + 1 : Nat) : Int) < l.length) := by omega
    simp (config := {implicitDefEqProofs := false, maxDischargeDepth := 20}) (disch := first | omega | (simp only [lenE]; done) | (simp only [lenE]; omega) | rfl | (simp only [lenE, markR_len]; done) | (simp only [lenE, markR_len]; omega)) only [runE, mapE, listE, initT_5, initT_6, initT_7, initT_8, resV, oneV, binA, unA, reduceCtorEq, Nat.reduceEqDiff, Nat.reduceAdd, Nat.reduceLT, Nat.reduceLeDiff, Nat.reduceMul, Nat.reduceSub, ↓reduceIte, decide_true, decide_false, Bool.true_eq_false, Bool.false_eq_true, Bool.not_true, Bool.not_false, if_true, if_false, and_true, true_and, memE, celE, w64, Nat.zero_add, Nat.add_zero, Nat.mul_one, putL, and_self, ldn, t0, t3, t4, tm, hr.len, hlt']
    refine newQ_nil ⟨?_, rfl⟩
    have a := hmin (upI l).toNat (by have := hup.1; have := hup.2.1; omega)
    have b := hup.2.2.1 (i0 : Int) (by omega) (by omega)
    simp only [Int.toNat_natCast] at b
    congr 1; omega
theorem slIndex_rc (m : Mem) (v : Value) (l : List Int) (h : IntsA m v l) (hl : 0 < l.length) :
    RC Try.prog 77 [v, .int .i64 (l.getD (upI l).toNat 0)] m fun r new => r = .int .i64 (upI l) ∧ new = [] := by
  refine rc_of_run mixed ok_slices_Index (by simp) (go_start _ _ _ ?_)
  have i := h.ro
  have hup := upI_least hl
  simp (config := {implicitDefEqProofs := false, maxDischargeDepth := 20}) (disch := first | omega | (simp only [lenE]; done) | (simp only [lenE]; omega) | rfl | (simp only [lenE, markR_len]; done) | (simp only [lenE, markR_len]; omega)) only [runE, mapE, listE, initT_5, initT_6, initT_7, initT_8, resV, oneV, binA, unA, reduceCtorEq, Nat.reduceEqDiff, Nat.reduceAdd, Nat.reduceLT, Nat.reduceLeDiff, Nat.reduceMul, Nat.reduceSub, ↓reduceIte, decide_true, decide_false, Bool.true_eq_false, Bool.false_eq_true, Bool.not_true, Bool.not_false, if_true, if_false, and_true, true_and, memE, celE, w64, Nat.zero_add, Nat.add_zero, Nat.mul_one, putL, and_self, ldn, c_slices_Index, r_slices_Index, i.len]
  refine loop_inv mixed (fun s => ∃ j : Nat, j ≤ l.length ∧ (j : Int) ≤ upI l ∧ s.t 0 = v ∧ s.t 1 = .int .i64 (l.getD (upI l).toNat 0) ∧ s.t 7 = .int .i64 l.length ∧ s.t 8 = .int .i64 j ∧ s.m = roM m) (fun s => l.length - (intOf (s.t 8)).toNat)
    ⟨0, by omega, hup.1, rfl, rfl, rfl, rfl, rfl⟩ ?_
  rintro s ⟨j, hj, hno, t0, t1, t7, t8, tm⟩
  have u1 := hup.2.1
  have bd := i.bd
  by_cases hlt : j < l.length
  · have hlt' : (j : Int) < l.length := by omega
    by_cases e : (j : Int) = upI l
    · have ej : (upI l).toNat = j := by omega
      have hb : (l.getD (upI l).toNat 0 == l.getD j 0) = true := by rw [ej]; exact beq_self_eq_true _
      simp (config := {implicitDefEqProofs := false, maxDischargeDepth := 20}) (disch := first | omega | (simp only [lenE]; done) | (simp only [lenE]; omega) | rfl | (simp only [lenE, markR_len]; done) | (simp only [lenE, markR_len]; omega)) only [runE, mapE, listE, initT_5, initT_6, initT_7, initT_8, resV, oneV, binA, unA, reduceCtorEq, Nat.reduceEqDiff, Nat.reduceAdd, Nat.reduceLT, Nat.reduceLeDiff, Nat.reduceMul, Nat.reduceSub, ↓reduceIte, decide_true, decide_false, Bool.true_eq_false, Bool.false_eq_true, Bool.not_true, Bool.not_false, if_true, if_false, and_true, true_and, memE, celE, w64, Nat.zero_add, Nat.add_zero, Nat.mul_one, putL, and_self, ldn, tm, t0, t1, t7, t8, hlt', i.at_ j hlt, i.ld j hlt, hb]
      exact newQ_nil ⟨by rw [e], rfl⟩
    · have hs := hup.2.2.2 (j : Int) (by omega) (by omega)
      simp only [Int.toNat_natCast] at hs
      have hb : (l.getD (upI l).toNat 0 == l.getD j 0) = false := by rw [beq_eq_false_iff_ne]; omega
      simp (config := {implicitDefEqProofs := false, maxDischargeDepth := 20}) (disch := first | omega | (simp only [lenE]; done) | (simp only [lenE]; omega) | rfl | (simp only [lenE, markR_len]; done) | (simp only [lenE, markR_len]; omega)) only [runE, mapE, listE, initT_5, initT_6, initT_7, initT_8, resV, oneV, binA, unA, reduceCtorEq, Nat.reduceEqDiff, Nat.reduceAdd, Nat.reduceLT, Nat.reduceLeDiff, Nat.reduceMul, Nat.reduceSub, ↓reduceIte, decide_true, decide_false, Bool.true_eq_false, Bool.false_eq_true, Bool.not_true, Bool.not_false, if_true, if_false, and_true, true_and, memE, celE, w64, Nat.zero_add, Nat.add_zero, Nat.mul_one, putL, and_self, ldn, tm, t0, t1, t7, t8, hlt', i.at_ j hlt, i.ld j hlt, hb]
      exact ⟨⟨j + 1, by omega, by omega, by simp⟩, by simp [intOf]; omega⟩
  · omega
theorem enough_test (m : Mem) (id : Nat) (x0 : Int) (h : rdc m id 0 = some (.int .i64 x0)) :
    TestA m (.func (.func 76) #[] #[.pointer (some ⟨id, 0, none⟩)]) (fun x => decide (x ≤ x0)) := by
  refine ⟨_, _, rfl, fun x m' hm => ?_⟩
  refine rc_of_run mixed ok_impl_bestPair_1 (by simp) (go_start _ _ _ ?_)
  have h' : rdc (roM m') id 0 = some (.int .i64 x0) := by rw [rdc_roM]; exact hm _ _ _ h
  simp (config := {implicitDefEqProofs := false, maxDischargeDepth := 20}) (disch := first | omega | (simp only [lenE]; done) | (simp only [lenE]; omega) | rfl | (simp only [lenE, markR_len]; done) | (simp only [lenE, markR_len]; omega)) only [runE, mapE, listE, initT_5, initT_6, initT_7, initT_8, resV, oneV, binA, unA, reduceCtorEq, Nat.reduceEqDiff, Nat.reduceAdd, Nat.reduceLT, Nat.reduceLeDiff, Nat.reduceMul, Nat.reduceSub, ↓reduceIte, decide_true, decide_false, Bool.true_eq_false, Bool.false_eq_true, Bool.not_true, Bool.not_false, if_true, if_false, and_true, true_and, memE, celE, w64, Nat.zero_add, Nat.add_zero, Nat.mul_one, putL, and_self, ldn, c_impl_bestPair_1, r_impl_bestPair_1, h']
  exact newQ_nil ⟨rfl, rfl⟩
theorem bld_pair (a b : Int) : bldA [.int .i64 0, .int .i64 0] [(0, 1, .int .i64 a), (1, 1, .int .i64 b)] = some (.agg #[.int .i64 a, .int .i64 b]) := rfl
theorem bills_bd {p : Pr} (hg : GoodP p) {next : List Int} (hB : rowIn 30000000000000000 next) {n : Nat} (hn : n ≤ 4) (i : Nat) : -700000000000000000 ≤ (billsL p next n).getD i 0 ∧ (billsL p next n).getD i 0 ≤ 700000000000000000 := by
  have hfl := hg.floor
  have hlen := hg.len
  have hflo : p.floor = (p.w.length : Int) - 11 := by unfold Pr.floor; omega
  by_cases hi : i < 22 - p.w.length
  · rw [billsL_at hi]
    exact bill_bd hg hB hn ⟨by omega, by omega⟩
  · rw [List.getD_eq_getElem?_getD, List.getElem?_eq_none (by rw [billsL_len]; omega)]; exact ⟨by decide, by decide⟩
theorem setup_bd {p : Pr} (hg : GoodP p) {n : Nat} (hn : n ≤ 4) : 0 ≤ p.setup * p.pow (n + 1) ∧ p.setup * p.pow (n + 1) ≤ 316800000 := by
  have := hg.pow5 (n := n + 1) (by omega)
  exact mul_in' (A := 99) (B := 3200000) hg.setup (x := p.pow (n + 1)) (by omega)
theorem bestPair_rc (m : Mem) (v vn : Value) (p : Pr) (next : List Int) (t : Int) (n : Nat) (h : ProcA m v p) (hn : IntsA m vn next) (hg : GoodP p) (hl : next.length = 21) (hB : rowIn 30000000000000000 next) (ht : p.turns - t = (n : Int) + 1) (ht0 : 0 ≤ t) (hn4 : n ≤ 4) :
    RC Try.prog 47 [v, .int .i64 t, vn] m (AnsV (pairV (pairOf p next n))) := by
  refine rc_of_run mixed ok_impl_bestPair (by simp) (go_start _ _ _ ?_)
  obtain ⟨u, rfl, hu⟩ := h.ro
  have hlen := hg.len
  have hflo := hg.floor
  have hbl := billsL_len p next n
  have hbd := bills_bd hg hB hn4 (upI (billsL p next n)).toNat
  have hK := setup_bd hg hn4
  have hup := upI_least (B := billsL p next n) (by omega)
  have hu1 := hup.1
  have hu2 := hup.2.1
  simp (config := {implicitDefEqProofs := false, maxDischargeDepth := 20}) (disch := first | omega | (simp only [lenE]; done) | (simp only [lenE]; omega) | rfl | (simp only [lenE, markR_len]; done) | (simp only [lenE, markR_len]; omega)) only [runE, mapE, listE, initT_5, initT_6, initT_7, initT_8, resV, oneV, binA, unA, reduceCtorEq, Nat.reduceEqDiff, Nat.reduceAdd, Nat.reduceLT, Nat.reduceLeDiff, Nat.reduceMul, Nat.reduceSub, ↓reduceIte, decide_true, decide_false, Bool.true_eq_false, Bool.false_eq_true, Bool.not_true, Bool.not_false, if_true, if_false, and_true, true_and, memE, celE, w64, Nat.zero_add, Nat.add_zero, Nat.mul_one, putL, and_self, ldn, c_impl_bestPair, r_impl_bestPair]
  refine callH_rc (billsOf_rc _ _ vn p next t n (ProcA.mk ((hu.ext _).ext _)) ((hn.ro.ext _).ext _) hg hl hB ht ht0 hn4) ?_
  rintro r n1 ⟨nr1, w, rfl, hw⟩
  have hBI := hw.now.in
  simp (config := {implicitDefEqProofs := false, maxDischargeDepth := 20}) (disch := first | omega | (simp only [lenE]; done) | (simp only [lenE]; omega) | rfl | (simp only [lenE, markR_len]; done) | (simp only [lenE, markR_len]; omega)) only [runE, mapE, listE, initT_5, initT_6, initT_7, initT_8, resV, oneV, binA, unA, reduceCtorEq, Nat.reduceEqDiff, Nat.reduceAdd, Nat.reduceLT, Nat.reduceLeDiff, Nat.reduceMul, Nat.reduceSub, ↓reduceIte, decide_true, decide_false, Bool.true_eq_false, Bool.false_eq_true, Bool.not_true, Bool.not_false, if_true, if_false, and_true, true_and, memE, celE, w64, Nat.zero_add, Nat.add_zero, Nat.mul_one, putL, and_self, ldn, id_eq]
  refine callH_rc (slMin_rc _ _ _ hBI (by omega)) ?_
  rintro r n2 ⟨rfl, rfl⟩
  rw [List.append_nil]
  have hfa : -1 ≤ firstAt (fun x => decide (x ≤ (billsL p next n).getD (upI (billsL p next n)).toNat 0 + p.setup * p.pow (n + 1))) (billsL p next n) 0 ∧ firstAt (fun x => decide (x ≤ (billsL p next n).getD (upI (billsL p next n)).toNat 0 + p.setup * p.pow (n + 1))) (billsL p next n) 0 ≤ 21 := by
    have := firstAt_any (fun x => decide (x ≤ (billsL p next n).getD (upI (billsL p next n)).toNat 0 + p.setup * p.pow (n + 1))) (billsL p next n) 0
    omega
  have hX1 : Ext m (roM m ++ [⟨.own, 26, [.int .i64 p.turns, u, .int .i64 p.setup, .int .i64 p.unit, .int .i64 p.hold, .int .i64 p.back]⟩] ++ [⟨.own, 49, [.int .i64 0, .int .i64 0]⟩] ++ n1) := (((Ext.refl m).one _ _).one _ _).app nr1
  have hb1 : OwnB (roM m ++ [⟨.own, 26, [.int .i64 p.turns, u, .int .i64 p.setup, .int .i64 p.unit, .int .i64 p.hold, .int .i64 p.back]⟩] ++ [⟨.own, 49, [.int .i64 0, .int .i64 0]⟩] ++ n1) m.length 26 [.int .i64 p.turns, u, .int .i64 p.setup, .int .i64 p.unit, .int .i64 p.hold, .int .i64 p.back] := ((OwnB.here (roM_len m).symm).ext _).ext _
  have hc1 : OwnB (roM m ++ [⟨.own, 26, [.int .i64 p.turns, u, .int .i64 p.setup, .int .i64 p.unit, .int .i64 p.hold, .int .i64 p.back]⟩] ++ [⟨.own, 49, [.int .i64 0, .int .i64 0]⟩] ++ n1) (m.length + 1) 49 [.int .i64 0, .int .i64 0] := (OwnB.here (by simp [roM_len])).ext _
  simp (config := {implicitDefEqProofs := false, maxDischargeDepth := 20}) (disch := first | omega | (simp only [lenE]; done) | (simp only [lenE]; omega) | rfl | (simp only [lenE, markR_len]; done) | (simp only [lenE, markR_len]; omega)) only [runE, mapE, listE, initT_5, initT_6, initT_7, initT_8, resV, oneV, binA, unA, reduceCtorEq, Nat.reduceEqDiff, Nat.reduceAdd, Nat.reduceLT, Nat.reduceLeDiff, Nat.reduceMul, Nat.reduceSub, ↓reduceIte, decide_true, decide_false, Bool.true_eq_false, Bool.false_eq_true, Bool.not_true, Bool.not_false, if_true, if_false, and_true, true_and, memE, celE, w64, Nat.zero_add, Nat.add_zero, Nat.mul_one, putL, and_self, ldn]
  with_reducible refine ⟨?_, ?_⟩
  · refine rcallH_rc (powerFrom_rc _ _ p t (n + 1) (ProcA.mk (((hu.ext _).ext _).ext _)) hg (by omega) (by omega)) ?_
    rintro r n3 ⟨rfl, nr3⟩
    simp (config := {implicitDefEqProofs := false, maxDischargeDepth := 20}) (disch := first | omega | (simp only [lenE]; done) | (simp only [lenE]; omega) | rfl | (simp only [lenE, markR_len]; done) | (simp only [lenE, markR_len]; omega)) only [runE, mapE, listE, initT_5, initT_6, initT_7, initT_8, resV, oneV, binA, unA, reduceCtorEq, Nat.reduceEqDiff, Nat.reduceAdd, Nat.reduceLT, Nat.reduceLeDiff, Nat.reduceMul, Nat.reduceSub, ↓reduceIte, decide_true, decide_false, Bool.true_eq_false, Bool.false_eq_true, Bool.not_true, Bool.not_false, if_true, if_false, and_true, true_and, memE, celE, w64, Nat.zero_add, Nat.add_zero, Nat.mul_one, putL, and_self, ldn]
    obtain ⟨M3, hM3⟩ : ∃ M' : Mem, M' = roM m ++ [⟨.own, 26, [.int .i64 p.turns, u, .int .i64 p.setup, .int .i64 p.unit, .int .i64 p.hold, .int .i64 p.back]⟩] ++ [⟨.own, 49, [.int .i64 0, .int .i64 0]⟩] ++ n1 ++ n3 ++ [⟨.own, 3, [.int .i64 ((billsL p next n).getD (upI (billsL p next n)).toNat 0 + p.setup * p.pow (n + 1))]⟩] := ⟨_, rfl⟩
    have hX3 : Ext m M3 := by rw [hM3]; exact (hX1.app nr3).one _ _
    have hBI3 : IntsA M3 r (billsL p next n) := by rw [hM3]; exact (hBI.ext n3).ext _
    have hb3 : OwnB M3 m.length 26 [.int .i64 p.turns, u, .int .i64 p.setup, .int .i64 p.unit, .int .i64 p.hold, .int .i64 p.back] := by rw [hM3]; exact (hb1.ext _).ext _
    have hc3 : OwnB M3 (m.length + 1) 49 [.int .i64 0, .int .i64 0] := by rw [hM3]; exact (hc1.ext _).ext _
    have hv3 : rdc M3 (m.length + 1 + 1 + n1.length + n3.length) 0 = some (.int .i64 ((billsL p next n).getD (upI (billsL p next n)).toNat 0 + p.setup * p.pow (n + 1))) := by rw [hM3, rdc_lastH (by simp [roM_len]; try omega)]; rfl
    try rw [← hM3]
    refine callH_rc (indexFunc_rc _ _ _ (billsL p next n) _ hBI3 (enough_test _ _ _ hv3)) ?_
    rintro r n4 ⟨rfl, rfl⟩
    rw [List.append_nil]
    simp (config := {implicitDefEqProofs := false, maxDischargeDepth := 20}) (disch := first | omega | (simp only [lenE]; done) | (simp only [lenE]; omega) | rfl | (simp only [lenE, markR_len]; done) | (simp only [lenE, markR_len]; omega)) only [runE, mapE, listE, initT_5, initT_6, initT_7, initT_8, resV, oneV, binA, unA, reduceCtorEq, Nat.reduceEqDiff, Nat.reduceAdd, Nat.reduceLT, Nat.reduceLeDiff, Nat.reduceMul, Nat.reduceSub, ↓reduceIte, decide_true, decide_false, Bool.true_eq_false, Bool.false_eq_true, Bool.not_true, Bool.not_false, if_true, if_false, and_true, true_and, memE, celE, w64, Nat.zero_add, Nat.add_zero, Nat.mul_one, putL, and_self, ldn]
    refine callH_rc (slIndex_rc _ _ _ hBI3 (by omega)) ?_
    rintro r n4 ⟨rfl, rfl⟩
    rw [List.append_nil]
    simp (config := {implicitDefEqProofs := false, maxDischargeDepth := 20}) (disch := first | omega | (simp only [lenE]; done) | (simp only [lenE]; omega) | rfl | (simp only [lenE, markR_len]; done) | (simp only [lenE, markR_len]; omega)) only [runE, mapE, listE, initT_5, initT_6, initT_7, initT_8, resV, oneV, binA, unA, reduceCtorEq, Nat.reduceEqDiff, Nat.reduceAdd, Nat.reduceLT, Nat.reduceLeDiff, Nat.reduceMul, Nat.reduceSub, ↓reduceIte, decide_true, decide_false, Bool.true_eq_false, Bool.false_eq_true, Bool.not_true, Bool.not_false, if_true, if_false, and_true, true_and, memE, celE, w64, Nat.zero_add, Nat.add_zero, Nat.mul_one, putL, and_self, ldn, hb3.rd]
    refine rcallH_rc (floorOf_rc M3 _ p (ProcA.mk (hX3.ints hu)) hlen.2) ?_
    rintro r n5 ⟨rfl, nr5⟩
    have hb5 := hb3.ext n5
    simp (config := {implicitDefEqProofs := false, maxDischargeDepth := 20}) (disch := first | omega | (simp only [lenE]; done) | (simp only [lenE]; omega) | rfl | (simp only [lenE, markR_len]; done) | (simp only [lenE, markR_len]; omega)) only [runE, mapE, listE, initT_5, initT_6, initT_7, initT_8, resV, oneV, binA, unA, reduceCtorEq, Nat.reduceEqDiff, Nat.reduceAdd, Nat.reduceLT, Nat.reduceLeDiff, Nat.reduceMul, Nat.reduceSub, ↓reduceIte, decide_true, decide_false, Bool.true_eq_false, Bool.false_eq_true, Bool.not_true, Bool.not_false, if_true, if_false, and_true, true_and, memE, celE, w64, Nat.zero_add, Nat.add_zero, Nat.mul_one, putL, and_self, ldn, hb5.rd]
    refine rcallH_rc (floorOf_rc (M3 ++ n5) _ p (ProcA.mk ((hX3.ints hu).ext n5)) hlen.2) ?_
    rintro r n6 ⟨rfl, nr6⟩
    have hc6 := (hc3.ext n5).ext n6
    have hst := hc6.st (off := 0) (vs := [.int .i64 (p.floor + firstAt (fun x => decide (x ≤ (billsL p next n).getD (upI (billsL p next n)).toNat 0 + p.setup * p.pow (n + 1))) (billsL p next n) 0), .int .i64 (p.floor + upI (billsL p next n))]) (by simp) rfl
    have hrd := (hc6.set_self 49 [.int .i64 (p.floor + firstAt (fun x => decide (x ≤ (billsL p next n).getD (upI (billsL p next n)).toNat 0 + p.setup * p.pow (n + 1))) (billsL p next n) 0), .int .i64 (p.floor + upI (billsL p next n))]).rd
    simp (config := {implicitDefEqProofs := false, maxDischargeDepth := 20}) (disch := first | omega | (simp only [lenE]; done) | (simp only [lenE]; omega) | rfl | (simp only [lenE, markR_len]; done) | (simp only [lenE, markR_len]; omega)) only [runE, mapE, listE, initT_5, initT_6, initT_7, initT_8, resV, oneV, binA, unA, reduceCtorEq, Nat.reduceEqDiff, Nat.reduceAdd, Nat.reduceLT, Nat.reduceLeDiff, Nat.reduceMul, Nat.reduceSub, ↓reduceIte, decide_true, decide_false, Bool.true_eq_false, Bool.false_eq_true, Bool.not_true, Bool.not_false, if_true, if_false, and_true, true_and, memE, celE, w64, Nat.zero_add, Nat.add_zero, Nat.mul_one, putL, and_self, ldn, bld_pair, hst, hrd]
    exact ext_ansV2 (((hX3.app nr5).app nr6).put (id := m.length + 1) (by omega) _ _)
  · refine rcallH_rc (powerFrom_rc _ _ p t (n + 1) (ProcA.mk ((((hu.ext _).ext _).ext _).ext _)) hg (by omega) (by omega)) ?_
    rintro r n3 ⟨rfl, nr3⟩
    simp (config := {implicitDefEqProofs := false, maxDischargeDepth := 20}) (disch := first | omega | (simp only [lenE]; done) | (simp only [lenE]; omega) | rfl | (simp only [lenE, markR_len]; done) | (simp only [lenE, markR_len]; omega)) only [runE, mapE, listE, initT_5, initT_6, initT_7, initT_8, resV, oneV, binA, unA, reduceCtorEq, Nat.reduceEqDiff, Nat.reduceAdd, Nat.reduceLT, Nat.reduceLeDiff, Nat.reduceMul, Nat.reduceSub, ↓reduceIte, decide_true, decide_false, Bool.true_eq_false, Bool.false_eq_true, Bool.not_true, Bool.not_false, if_true, if_false, and_true, true_and, memE, celE, w64, Nat.zero_add, Nat.add_zero, Nat.mul_one, putL, and_self, ldn]
    obtain ⟨M3, hM3⟩ : ∃ M' : Mem, M' = roM m ++ [⟨.own, 26, [.int .i64 p.turns, u, .int .i64 p.setup, .int .i64 p.unit, .int .i64 p.hold, .int .i64 p.back]⟩] ++ [⟨.own, 49, [.int .i64 0, .int .i64 0]⟩] ++ n1 ++ [⟨.own, 3, [.int .i64 ((billsL p next n).getD (upI (billsL p next n)).toNat 0 + p.setup * p.pow (n + 1))]⟩] ++ n3 := ⟨_, rfl⟩
    have hX3 : Ext m M3 := by rw [hM3]; exact (hX1.one _ _).app nr3
    have hBI3 : IntsA M3 r (billsL p next n) := by rw [hM3]; exact (hBI.ext _).ext n3
    have hb3 : OwnB M3 m.length 26 [.int .i64 p.turns, u, .int .i64 p.setup, .int .i64 p.unit, .int .i64 p.hold, .int .i64 p.back] := by rw [hM3]; exact (hb1.ext _).ext _
    have hc3 : OwnB M3 (m.length + 1) 49 [.int .i64 0, .int .i64 0] := by rw [hM3]; exact (hc1.ext _).ext _
    have hv3 : rdc M3 (m.length + 1 + 1 + n1.length) 0 = some (.int .i64 ((billsL p next n).getD (upI (billsL p next n)).toNat 0 + p.setup * p.pow (n + 1))) := by rw [hM3, rdc_left (by simp [roM_len]; try omega), rdc_lastH (by simp [roM_len]; try omega)]; rfl
    try rw [← hM3]
    refine callH_rc (indexFunc_rc _ _ _ (billsL p next n) _ hBI3 (enough_test _ _ _ hv3)) ?_
    rintro r n4 ⟨rfl, rfl⟩
    rw [List.append_nil]
    simp (config := {implicitDefEqProofs := false, maxDischargeDepth := 20}) (disch := first | omega | (simp only [lenE]; done) | (simp only [lenE]; omega) | rfl | (simp only [lenE, markR_len]; done) | (simp only [lenE, markR_len]; omega)) only [runE, mapE, listE, initT_5, initT_6, initT_7, initT_8, resV, oneV, binA, unA, reduceCtorEq, Nat.reduceEqDiff, Nat.reduceAdd, Nat.reduceLT, Nat.reduceLeDiff, Nat.reduceMul, Nat.reduceSub, ↓reduceIte, decide_true, decide_false, Bool.true_eq_false, Bool.false_eq_true, Bool.not_true, Bool.not_false, if_true, if_false, and_true, true_and, memE, celE, w64, Nat.zero_add, Nat.add_zero, Nat.mul_one, putL, and_self, ldn]
    refine callH_rc (slIndex_rc _ _ _ hBI3 (by omega)) ?_
    rintro r n4 ⟨rfl, rfl⟩
    rw [List.append_nil]
    simp (config := {implicitDefEqProofs := false, maxDischargeDepth := 20}) (disch := first | omega | (simp only [lenE]; done) | (simp only [lenE]; omega) | rfl | (simp only [lenE, markR_len]; done) | (simp only [lenE, markR_len]; omega)) only [runE, mapE, listE, initT_5, initT_6, initT_7, initT_8, resV, oneV, binA, unA, reduceCtorEq, Nat.reduceEqDiff, Nat.reduceAdd, Nat.reduceLT, Nat.reduceLeDiff, Nat.reduceMul, Nat.reduceSub, ↓reduceIte, decide_true, decide_false, Bool.true_eq_false, Bool.false_eq_true, Bool.not_true, Bool.not_false, if_true, if_false, and_true, true_and, memE, celE, w64, Nat.zero_add, Nat.add_zero, Nat.mul_one, putL, and_self, ldn, hb3.rd]
    refine rcallH_rc (floorOf_rc M3 _ p (ProcA.mk (hX3.ints hu)) hlen.2) ?_
    rintro r n5 ⟨rfl, nr5⟩
    have hb5 := hb3.ext n5
    simp (config := {implicitDefEqProofs := false, maxDischargeDepth := 20}) (disch := first | omega | (simp only [lenE]; done) | (simp only [lenE]; omega) | rfl | (simp only [lenE, markR_len]; done) | (simp only [lenE, markR_len]; omega)) only [runE, mapE, listE, initT_5, initT_6, initT_7, initT_8, resV, oneV, binA, unA, reduceCtorEq, Nat.reduceEqDiff, Nat.reduceAdd, Nat.reduceLT, Nat.reduceLeDiff, Nat.reduceMul, Nat.reduceSub, ↓reduceIte, decide_true, decide_false, Bool.true_eq_false, Bool.false_eq_true, Bool.not_true, Bool.not_false, if_true, if_false, and_true, true_and, memE, celE, w64, Nat.zero_add, Nat.add_zero, Nat.mul_one, putL, and_self, ldn, hb5.rd]
    refine rcallH_rc (floorOf_rc (M3 ++ n5) _ p (ProcA.mk ((hX3.ints hu).ext n5)) hlen.2) ?_
    rintro r n6 ⟨rfl, nr6⟩
    have hc6 := (hc3.ext n5).ext n6
    have hst := hc6.st (off := 0) (vs := [.int .i64 (p.floor + firstAt (fun x => decide (x ≤ (billsL p next n).getD (upI (billsL p next n)).toNat 0 + p.setup * p.pow (n + 1))) (billsL p next n) 0), .int .i64 (p.floor + upI (billsL p next n))]) (by simp) rfl
    have hrd := (hc6.set_self 49 [.int .i64 (p.floor + firstAt (fun x => decide (x ≤ (billsL p next n).getD (upI (billsL p next n)).toNat 0 + p.setup * p.pow (n + 1))) (billsL p next n) 0), .int .i64 (p.floor + upI (billsL p next n))]).rd
    simp (config := {implicitDefEqProofs := false, maxDischargeDepth := 20}) (disch := first | omega | (simp only [lenE]; done) | (simp only [lenE]; omega) | rfl | (simp only [lenE, markR_len]; done) | (simp only [lenE, markR_len]; omega)) only [runE, mapE, listE, initT_5, initT_6, initT_7, initT_8, resV, oneV, binA, unA, reduceCtorEq, Nat.reduceEqDiff, Nat.reduceAdd, Nat.reduceLT, Nat.reduceLeDiff, Nat.reduceMul, Nat.reduceSub, ↓reduceIte, decide_true, decide_false, Bool.true_eq_false, Bool.false_eq_true, Bool.not_true, Bool.not_false, if_true, if_false, and_true, true_and, memE, celE, w64, Nat.zero_add, Nat.add_zero, Nat.mul_one, putL, and_self, ldn, bld_pair, hst, hrd]
    exact ext_ansV2 (((hX3.app nr5).app nr6).put (id := m.length + 1) (by omega) _ _)
end Go.Proofs.Ytckpfgkgigicpaa.Ab
end
section
namespace Go.Proofs.Ytckpfgkgigicpaa.Ab
open Go Go.RowKit
set_option linter.unusedVariables false
set_option linter.unusedSimpArgs false
theorem l6Levels_rc (m : Mem) (v vt : Value) (p : Pr) (T : List (List Int)) (next : List Int) (t : Int) (n : Nat) (h : ProcA m v p) (hT : TabA m vt T) (hg : GoodP p) (hnext : T.getD (t + 1).toNat [] = next) (htT : (t + 1).toNat < T.length) (hl : next.length = 21) (hB : rowIn 30000000000000000 next) (ht : p.turns - t = (n : Int) + 1) (ht0 : 0 ≤ t) (hn4 : n ≤ 4) :
    RC Try.prog 48 [v, vt, .int .i64 t] m (AnsV (pairV (pairOf p next n))) := by
  refine rc_of_run mixed ok_spec_l6Levels (by simp) (go_start _ _ _ ?_)
  obtain ⟨u, rfl, hu⟩ := h.ro
  have hlen := hg.len
  have hflo := hg.floor
  have hbl := billsL_len p next n
  have hbd := bills_bd hg hB hn4 (upI (billsL p next n)).toNat
  have hK := setup_bd hg hn4
  have hup := upI_least (B := billsL p next n) (by omega)
  have hu1 := hup.1
  have hu2 := hup.2.1
  simp (config := {implicitDefEqProofs := false, maxDischargeDepth := 20}) (disch := first | omega | (simp only [lenE]; done) | (simp only [lenE]; omega) | rfl | (simp only [lenE, markR_len]; done) | (simp only [lenE, markR_len]; omega)) only [runE, mapE, listE, initT_5, initT_6, initT_7, initT_8, resV, oneV, binA, unA, reduceCtorEq, Nat.reduceEqDiff, Nat.reduceAdd, Nat.reduceLT, Nat.reduceLeDiff, Nat.reduceMul, Nat.reduceSub, ↓reduceIte, decide_true, decide_false, Bool.true_eq_false, Bool.false_eq_true, Bool.not_true, Bool.not_false, if_true, if_false, and_true, true_and, memE, celE, w64, Nat.zero_add, Nat.add_zero, Nat.mul_one, putL, and_self, ldn, c_spec_l6Levels, r_spec_l6Levels]
  refine callH_rc (l6Bills_rc _ _ _ p T next t n (ProcA.mk ((hu.ext _).ext _)) ((hT.ro.ext _).ext _) hg hnext htT hl hB ht ht0 hn4) ?_
  rintro r n1 ⟨nr1, w, rfl, hw⟩
  have hBI := hw.now.in
  obtain ⟨M1, hM1⟩ : ∃ M' : Mem, M' = roM m ++ [⟨.own, 26, [.int .i64 p.turns, u, .int .i64 p.setup, .int .i64 p.unit, .int .i64 p.hold, .int .i64 p.back]⟩] ++ [⟨.own, 49, [.int .i64 0, .int .i64 0]⟩] ++ n1 := ⟨_, rfl⟩
  have hX1 : Ext m M1 := by rw [hM1]; exact (((Ext.refl m).one _ _).one _ _).app nr1
  have hb1 : OwnB M1 m.length 26 [.int .i64 p.turns, u, .int .i64 p.setup, .int .i64 p.unit, .int .i64 p.hold, .int .i64 p.back] := by rw [hM1]; exact ((OwnB.here (roM_len m).symm).ext _).ext _
  have hc1 : OwnB M1 (m.length + 1) 49 [.int .i64 0, .int .i64 0] := by rw [hM1]; exact (OwnB.here (by simp [roM_len])).ext _
  rw [← hM1] at hBI
  obtain ⟨B, hBe⟩ : ∃ B, B = billsL p next n := ⟨_, rfl⟩
  have hpair : pairOf p next n = (p.floor + loI B (p.setup * p.pow (n + 1)), p.floor + upI B) := by rw [hBe]; rfl
  rw [← hBe] at hbl hbd hup hu1 hu2 hBI
  rw [hpair]
  have hBL : B.length ≤ 21 := by omega
  simp (config := {implicitDefEqProofs := false, maxDischargeDepth := 20}) (disch := first | omega | (simp only [lenE]; done) | (simp only [lenE]; omega) | rfl | (simp only [lenE, markR_len]; done) | (simp only [lenE, markR_len]; omega)) only [runE, mapE, listE, initT_5, initT_6, initT_7, initT_8, resV, oneV, binA, unA, reduceCtorEq, Nat.reduceEqDiff, Nat.reduceAdd, Nat.reduceLT, Nat.reduceLeDiff, Nat.reduceMul, Nat.reduceSub, ↓reduceIte, decide_true, decide_false, Bool.true_eq_false, Bool.false_eq_true, Bool.not_true, Bool.not_false, if_true, if_false, and_true, true_and, memE, celE, w64, Nat.zero_add, Nat.add_zero, Nat.mul_one, putL, and_self, ldn, id_eq]
  try rw [← hM1]
  refine loop_inv mixed (fun s => ∃ (i up : Nat), 1 ≤ i ∧ i ≤ B.length ∧ IsLeast (fun i => B.getD i.toNat 0) 0 ((i : Int) - 1) up ∧ s.m = M1 ∧ s.t 2 = .int .i64 t ∧ s.t 3 = .pointer (some ⟨m.length, 0, none⟩) ∧ s.t 6 = .pointer (some ⟨m.length + 1, 0, none⟩) ∧ s.t 7 = r ∧ s.t 8 = .int .i64 up ∧ s.t 9 = .int .i64 0 ∧ s.t 10 = .int .i64 i) (fun s => B.length - (intOf (s.t 10)).toNat)
    ⟨1, 0, by omega, by omega, by simpa using IsLeast.one (fun i => B.getD i.toNat 0) 0, rfl, rfl, rfl, rfl, rfl, rfl, rfl, rfl⟩ ?_
  rintro s ⟨i, up, hi1, hi2, hle, tm, t2, t3, t6, t7, t8, t9, t10⟩
  have hul : up < B.length := by have := hle.2.1; omega
  by_cases hlt : i < B.length
  · have hlt' : (i : Int) < B.length := by omega
    have hd := hle.up
    rw [show (i : Int) - 1 + 1 = i by omega] at hd
    simp only [Int.toNat_natCast] at hd
    by_cases hc : B.getD i 0 < B.getD up 0
    · rw [if_pos hc] at hd
      simp (config := {implicitDefEqProofs := false, maxDischargeDepth := 20}) (disch := first | omega | (simp only [lenE]; done) | (simp only [lenE]; omega) | rfl | (simp only [lenE, markR_len]; done) | (simp only [lenE, markR_len]; omega)) only [runE, mapE, listE, initT_5, initT_6, initT_7, initT_8, resV, oneV, binA, unA, reduceCtorEq, Nat.reduceEqDiff, Nat.reduceAdd, Nat.reduceLT, Nat.reduceLeDiff, Nat.reduceMul, Nat.reduceSub, ↓reduceIte, decide_true, decide_false, Bool.true_eq_false, Bool.false_eq_true, Bool.not_true, Bool.not_false, if_true, if_false, and_true, true_and, memE, celE, w64, Nat.zero_add, Nat.add_zero, Nat.mul_one, putL, and_self, ldn, tm, t2, t3, t6, t7, t8, t9, t10, hBI.len, hlt', hBI.at_ i hlt, hBI.ld i hlt, hBI.at_ up hul, hBI.ld up hul, hc]
      refine ⟨⟨i + 1, i, by omega, by omega, by rw [show ((i + 1 : Nat) : Int) - 1 = i by omega]; exact hd, rfl, by simp⟩, by simp [intOf]; omega⟩
    · rw [if_neg hc] at hd
      simp (config := {implicitDefEqProofs := false, maxDischargeDepth := 20}) (disch := first | omega | (simp only [lenE]; done) | (simp only [lenE]; omega) | rfl | (simp only [lenE, markR_len]; done) | (simp only [lenE, markR_len]; omega)) only [runE, mapE, listE, initT_5, initT_6, initT_7, initT_8, resV, oneV, binA, unA, reduceCtorEq, Nat.reduceEqDiff, Nat.reduceAdd, Nat.reduceLT, Nat.reduceLeDiff, Nat.reduceMul, Nat.reduceSub, ↓reduceIte, decide_true, decide_false, Bool.true_eq_false, Bool.false_eq_true, Bool.not_true, Bool.not_false, if_true, if_false, and_true, true_and, memE, celE, w64, Nat.zero_add, Nat.add_zero, Nat.mul_one, putL, and_self, ldn, tm, t2, t3, t6, t7, t8, t9, t10, hBI.len, hlt', hBI.at_ i hlt, hBI.ld i hlt, hBI.at_ up hul, hBI.ld up hul, hc]
      refine ⟨⟨i + 1, up, by omega, by omega, by rw [show ((i + 1 : Nat) : Int) - 1 = i by omega]; exact hd, rfl, by simp⟩, by simp [intOf]; omega⟩
  · have hlt' : ¬ ((i : Int) < B.length) := by omega
    have e : (i : Int) = B.length := by omega
    rw [e] at hle
    have eu := hle.uniq hup
    have eun : (upI B).toNat = up := by omega
    simp (config := {implicitDefEqProofs := false, maxDischargeDepth := 20}) (disch := first | omega | (simp only [lenE]; done) | (simp only [lenE]; omega) | rfl | (simp only [lenE, markR_len]; done) | (simp only [lenE, markR_len]; omega)) only [runE, mapE, listE, initT_5, initT_6, initT_7, initT_8, resV, oneV, binA, unA, reduceCtorEq, Nat.reduceEqDiff, Nat.reduceAdd, Nat.reduceLT, Nat.reduceLeDiff, Nat.reduceMul, Nat.reduceSub, ↓reduceIte, decide_true, decide_false, Bool.true_eq_false, Bool.false_eq_true, Bool.not_true, Bool.not_false, if_true, if_false, and_true, true_and, memE, celE, w64, Nat.zero_add, Nat.add_zero, Nat.mul_one, putL, and_self, ldn, tm, t2, t3, t6, t7, t8, t9, t10, hBI.len, hlt']
    refine loop_inv mixed (fun s => ∃ (lo : Nat) (M : Mem), lo ≤ up ∧ (∀ j, j < lo → B.getD up 0 + p.setup * p.pow (n + 1) < B.getD j 0) ∧ s.m = M ∧ Ext m M ∧ OwnB M m.length 26 [.int .i64 p.turns, u, .int .i64 p.setup, .int .i64 p.unit, .int .i64 p.hold, .int .i64 p.back] ∧ OwnB M (m.length + 1) 49 [.int .i64 0, .int .i64 0] ∧ IntsA M r B ∧ s.t 2 = .int .i64 t ∧ s.t 3 = .pointer (some ⟨m.length, 0, none⟩) ∧ s.t 6 = .pointer (some ⟨m.length + 1, 0, none⟩) ∧ s.t 7 = r ∧ s.t 8 = .int .i64 up ∧ s.t 9 = .int .i64 lo) (fun s => up + 1 - (intOf (s.t 9)).toNat)
      ⟨0, M1, by omega, fun j hj => absurd hj (by omega), tm, hX1, hb1, hc1, hBI, t2, t3, t6, t7, t8, t9⟩ ?_
    rintro s ⟨lo, M, hlo, hno, tm, hX, hb, hcx, hBM, t2, t3, t6, t7, t8, t9⟩
    have hll : lo < B.length := by omega
    simp (config := {implicitDefEqProofs := false, maxDischargeDepth := 20}) (disch := first | omega | (simp only [lenE]; done) | (simp only [lenE]; omega) | rfl | (simp only [lenE, markR_len]; done) | (simp only [lenE, markR_len]; omega)) only [runE, mapE, listE, initT_5, initT_6, initT_7, initT_8, resV, oneV, binA, unA, reduceCtorEq, Nat.reduceEqDiff, Nat.reduceAdd, Nat.reduceLT, Nat.reduceLeDiff, Nat.reduceMul, Nat.reduceSub, ↓reduceIte, decide_true, decide_false, Bool.true_eq_false, Bool.false_eq_true, Bool.not_true, Bool.not_false, if_true, if_false, and_true, true_and, memE, celE, w64, Nat.zero_add, Nat.add_zero, Nat.mul_one, putL, and_self, ldn, tm, t2, t3, t6, t7, t8, t9, hBM.at_ lo hll, hBM.ld lo hll, hBM.at_ up hul, hBM.ld up hul, hb.rd]
    refine rcallH_rc (l6Power_rc _ _ p _ (n + 1) (ProcA.mk (hX.ints hu)) hg (by omega) (by omega)) ?_
    rintro r2 n2 ⟨rfl, nr2⟩
    rw [eun] at hbd
    have hX2 := hX.app nr2
    have hb2 := hb.ext n2
    have hc2 := hcx.ext n2
    have hB2 := hBM.ext n2
    by_cases hq : B.getD up 0 + p.setup * p.pow (n + 1) < B.getD lo 0
    · have hne : lo ≠ up := fun e => by rw [e] at hq; omega
      simp (config := {implicitDefEqProofs := false, maxDischargeDepth := 20}) (disch := first | omega | (simp only [lenE]; done) | (simp only [lenE]; omega) | rfl | (simp only [lenE, markR_len]; done) | (simp only [lenE, markR_len]; omega)) only [runE, mapE, listE, initT_5, initT_6, initT_7, initT_8, resV, oneV, binA, unA, reduceCtorEq, Nat.reduceEqDiff, Nat.reduceAdd, Nat.reduceLT, Nat.reduceLeDiff, Nat.reduceMul, Nat.reduceSub, ↓reduceIte, decide_true, decide_false, Bool.true_eq_false, Bool.false_eq_true, Bool.not_true, Bool.not_false, if_true, if_false, and_true, true_and, memE, celE, w64, Nat.zero_add, Nat.add_zero, Nat.mul_one, putL, and_self, ldn, t2, t3, t6, t7, t8, t9, gt_iff_lt, hq]
      refine ⟨⟨lo + 1, _, by omega, fun j hj => ?_, rfl, hX2, hb2, hc2, hB2, by simp⟩, by simp [intOf]; omega⟩
      by_cases e2 : j = lo
      · rw [e2]; exact hq
      · exact hno j (by omega)
    · have hloI : loI B (p.setup * p.pow (n + 1)) = lo := by
        unfold loI
        rw [eun]
        exact firstAt_is hll (fun j hj => decide_eq_false (by have := hno j hj; omega)) (decide_eq_true (by omega))
      rw [hloI, ← eu]
      simp (config := {implicitDefEqProofs := false, maxDischargeDepth := 20}) (disch := first | omega | (simp only [lenE]; done) | (simp only [lenE]; omega) | rfl | (simp only [lenE, markR_len]; done) | (simp only [lenE, markR_len]; omega)) only [runE, mapE, listE, initT_5, initT_6, initT_7, initT_8, resV, oneV, binA, unA, reduceCtorEq, Nat.reduceEqDiff, Nat.reduceAdd, Nat.reduceLT, Nat.reduceLeDiff, Nat.reduceMul, Nat.reduceSub, ↓reduceIte, decide_true, decide_false, Bool.true_eq_false, Bool.false_eq_true, Bool.not_true, Bool.not_false, if_true, if_false, and_true, true_and, memE, celE, w64, Nat.zero_add, Nat.add_zero, Nat.mul_one, putL, and_self, ldn, t2, t3, t6, t7, t8, t9, gt_iff_lt, hq, hb2.rd]
      refine rcallH_rc (l6Floor_rc _ _ p (ProcA.mk (hX2.ints hu)) hg) ?_
      rintro r3 n3 ⟨rfl, nr3⟩
      have hb3 := hb2.ext n3
      simp (config := {implicitDefEqProofs := false, maxDischargeDepth := 20}) (disch := first | omega | (simp only [lenE]; done) | (simp only [lenE]; omega) | rfl | (simp only [lenE, markR_len]; done) | (simp only [lenE, markR_len]; omega)) only [runE, mapE, listE, initT_5, initT_6, initT_7, initT_8, resV, oneV, binA, unA, reduceCtorEq, Nat.reduceEqDiff, Nat.reduceAdd, Nat.reduceLT, Nat.reduceLeDiff, Nat.reduceMul, Nat.reduceSub, ↓reduceIte, decide_true, decide_false, Bool.true_eq_false, Bool.false_eq_true, Bool.not_true, Bool.not_false, if_true, if_false, and_true, true_and, memE, celE, w64, Nat.zero_add, Nat.add_zero, Nat.mul_one, putL, and_self, ldn, t2, t3, t6, t7, t8, t9, hb3.rd]
      refine rcallH_rc (l6Floor_rc _ _ p (ProcA.mk ((hX2.ints hu).ext n3)) hg) ?_
      rintro r4 n4 ⟨rfl, nr4⟩
      have hc4 := (hc2.ext n3).ext n4
      have hst := hc4.st (off := 0) (vs := [.int .i64 (lo + p.floor), .int .i64 (up + p.floor)]) (by simp) rfl
      have hrd := (hc4.set_self 49 [.int .i64 (lo + p.floor), .int .i64 (up + p.floor)]).rd
      simp (config := {implicitDefEqProofs := false, maxDischargeDepth := 20}) (disch := first | omega | (simp only [lenE]; done) | (simp only [lenE]; omega) | rfl | (simp only [lenE, markR_len]; done) | (simp only [lenE, markR_len]; omega)) only [runE, mapE, listE, initT_5, initT_6, initT_7, initT_8, resV, oneV, binA, unA, reduceCtorEq, Nat.reduceEqDiff, Nat.reduceAdd, Nat.reduceLT, Nat.reduceLeDiff, Nat.reduceMul, Nat.reduceSub, ↓reduceIte, decide_true, decide_false, Bool.true_eq_false, Bool.false_eq_true, Bool.not_true, Bool.not_false, if_true, if_false, and_true, true_and, memE, celE, w64, Nat.zero_add, Nat.add_zero, Nat.mul_one, putL, and_self, ldn, t6, bld_pair, hst, hrd]
      rw [Int.add_comm p.floor, Int.add_comm p.floor]
      exact ext_ansV2 (((hX2.app nr3).app nr4).put (id := m.length + 1) (by omega) _ _)
def levelsL (p : Pr) (N : Nat) : List (Int × Int) := (List.range N).map fun t => pairOf p (p.rowsN p.bestC (N - 1 - t)) (N - 1 - t)
theorem levelsL_len (p : Pr) (N : Nat) : (levelsL p N).length = N := by simp [levelsL]
theorem levelsL_at {p : Pr} {N t : Nat} (h : t < N) : (levelsL p N).getD t (0, 0) = pairOf p (p.rowsN p.bestC (N - 1 - t)) (N - 1 - t) := by
  simp [levelsL, List.getD_eq_getElem?_getD, h]
def levelsA (p : Pr) : List (Int × Int) := if p.good then levelsL p p.turns.toNat else []
theorem take_nextP {l : List (Int × Int)} {i : Nat} (h : i < l.length) : l.take (i + 1) = l.take i ++ [l.getD i (0, 0)] := by
  rw [List.take_add_one, List.getD_eq_getElem?_getD, List.getElem?_eq_getElem h]; rfl
theorem pairsC_one (q : Int × Int) : pairsC [q] = [.int .i64 q.1, .int .i64 q.2] := rfl
theorem implBestLevels_rc (m : Mem) (v : Value) (p : Pr) (h : ProcA m v p) : RC Try.prog 20 [v] m (AnsO m (PairsO 49 (levelsA p)) fun v => .tuple #[v, .bool p.good]) := by
  refine rc_of_run mixed ok_impl_BestLevels (by simp) (go_start _ _ _ ?_)
  obtain ⟨u, rfl, hu⟩ := h.ro
  unfold levelsA
  simp (config := {implicitDefEqProofs := false, maxDischargeDepth := 20}) (disch := first | omega | (simp only [lenE]; done) | (simp only [lenE]; omega) | rfl | (simp only [lenE, markR_len]; done) | (simp only [lenE, markR_len]; omega)) only [runE, mapE, listE, initT_5, initT_6, initT_7, initT_8, resV, oneV, binA, unA, reduceCtorEq, Nat.reduceEqDiff, Nat.reduceAdd, Nat.reduceLT, Nat.reduceLeDiff, Nat.reduceMul, Nat.reduceSub, ↓reduceIte, decide_true, decide_false, Bool.true_eq_false, Bool.false_eq_true, Bool.not_true, Bool.not_false, if_true, if_false, and_true, true_and, memE, celE, w64, Nat.zero_add, Nat.add_zero, Nat.mul_one, putL, and_self, ldn, c_impl_BestLevels, r_impl_BestLevels]
  refine callH_rc (implIsProcess_rc _ _ p (ProcA.mk (hu.ext _))) ?_
  rintro r n1 ⟨rfl, nr1⟩
  cases hg : p.good with
  | false =>
    simp (config := {implicitDefEqProofs := false, maxDischargeDepth := 20}) (disch := first | omega | (simp only [lenE]; done) | (simp only [lenE]; omega) | rfl | (simp only [lenE, markR_len]; done) | (simp only [lenE, markR_len]; omega)) only [runE, mapE, listE, initT_5, initT_6, initT_7, initT_8, resV, oneV, binA, unA, reduceCtorEq, Nat.reduceEqDiff, Nat.reduceAdd, Nat.reduceLT, Nat.reduceLeDiff, Nat.reduceMul, Nat.reduceSub, ↓reduceIte, decide_true, decide_false, Bool.true_eq_false, Bool.false_eq_true, Bool.not_true, Bool.not_false, if_true, if_false, and_true, true_and, memE, celE, w64, Nat.zero_add, Nat.add_zero, Nat.mul_one, putL, and_self, ldn, bsl_no]
    exact ext_noPairs (f := fun v => .tuple #[v, .bool false]) (((Ext.refl m).one _ _).app nr1) (by simp [roM_len]; omega)
  | true =>
  have hG := goodP_iff.1 hg
  have ht := hG.turns
  simp (config := {implicitDefEqProofs := false, maxDischargeDepth := 20}) (disch := first | omega | (simp only [lenE]; done) | (simp only [lenE]; omega) | rfl | (simp only [lenE, markR_len]; done) | (simp only [lenE, markR_len]; omega)) only [runE, mapE, listE, initT_5, initT_6, initT_7, initT_8, resV, oneV, binA, unA, reduceCtorEq, Nat.reduceEqDiff, Nat.reduceAdd, Nat.reduceLT, Nat.reduceLeDiff, Nat.reduceMul, Nat.reduceSub, ↓reduceIte, decide_true, decide_false, Bool.true_eq_false, Bool.false_eq_true, Bool.not_true, Bool.not_false, if_true, if_false, and_true, true_and, memE, celE, w64, Nat.zero_add, Nat.add_zero, Nat.mul_one, putL, and_self, ldn]
  refine callH_rc (worthTable_rc _ _ p (ProcA.mk ((hu.ext _).ext _)) hG) ?_
  rintro r n2 ⟨nr2, w, rfl, hw⟩
  have hTA := hw.mono fun M h => h.in
  obtain ⟨A, hA⟩ : ∃ A : Mem, A = roM m ++ [⟨.own, 26, [.int .i64 p.turns, u, .int .i64 p.setup, .int .i64 p.unit, .int .i64 p.hold, .int .i64 p.back]⟩] ++ n1 ++ n2 := ⟨_, rfl⟩
  have hXA : Ext m A := by rw [hA]; exact (((Ext.refl m).one _ _).app nr1).app nr2
  have hbA : OwnB A m.length 26 [.int .i64 p.turns, u, .int .i64 p.setup, .int .i64 p.unit, .int .i64 p.hold, .int .i64 p.back] := by rw [hA]; exact ((OwnB.here (roM_len m).symm).ext _).ext _
  rw [← hA] at hTA
  simp (config := {implicitDefEqProofs := false, maxDischargeDepth := 20}) (disch := first | omega | (simp only [lenE]; done) | (simp only [lenE]; omega) | rfl | (simp only [lenE, markR_len]; done) | (simp only [lenE, markR_len]; omega)) only [runE, mapE, listE, initT_5, initT_6, initT_7, initT_8, resV, oneV, binA, unA, reduceCtorEq, Nat.reduceEqDiff, Nat.reduceAdd, Nat.reduceLT, Nat.reduceLeDiff, Nat.reduceMul, Nat.reduceSub, ↓reduceIte, decide_true, decide_false, Bool.true_eq_false, Bool.false_eq_true, Bool.not_true, Bool.not_false, if_true, if_false, and_true, true_and, memE, celE, w64, Nat.zero_add, Nat.add_zero, Nat.mul_one, putL, and_self, ldn, id_eq, bsl_no]
  try rw [← hA]
  obtain ⟨N, hN⟩ : ∃ N, N = p.turns.toNat := ⟨_, rfl⟩
  rw [← hN] at hTA ⊢
  obtain ⟨lo, hlo⟩ : ∃ lo, lo = (roM m ++ [(⟨.own, 26, [.int .i64 p.turns, u, .int .i64 p.setup, .int .i64 p.unit, .int .i64 p.hold, .int .i64 p.back]⟩ : Blk)] ++ n1).length := ⟨_, rfl⟩
  obtain ⟨hi, hhi⟩ : ∃ hi, hi = lo + n2.length := ⟨_, rfl⟩
  rw [← hlo, ← hhi] at hTA
  have hNt : p.turns = (N : Int) := by omega
  have hll := levelsL_len p N
  refine loop_inv mixed (fun s => ∃ (k : Nat) (M : Mem) (id : Nat), k ≤ N ∧ s.m = M ∧ Ext m M ∧ OwnB M m.length 26 [.int .i64 p.turns, u, .int .i64 p.setup, .int .i64 p.unit, .int .i64 p.hold, .int .i64 p.back] ∧ Lv lo hi M (fun M => TabA M r (p.tab p.bestC N)) ∧ (id < lo ∨ hi ≤ id) ∧ m.length < id ∧ OwnB M id 49 (pairsC ((levelsL p N).take k)) ∧ s.t 5 = .slice (some ⟨id, 0, none⟩) k 2 ∧ s.t 16 = .int .i64 k ∧ s.t 4 = r ∧ s.t 1 = .pointer (some ⟨m.length, 0, none⟩) ∧ s.t 15 = .int .i64 N) (fun s => N - (intOf (s.t 16)).toNat)
    ⟨0, _, A.length, by omega, rfl, hXA.one _ _, hbA.ext _, hTA.ext _, .inr (by have := hTA.2.1; omega), by have := hbA.lt; omega, OwnB.here rfl, by simp only [put_t, put_t', put_m, putT_t, putT_t', putT_m, init_t, init_m, initT_0, initT_1, initT_2, initT_3, initT_4, initT_5, initT_6, initT_7, initT_8, Nat.reduceEqDiff, ↓reduceIte]; try rw [hA]; simp [roM_len, Nat.add_assoc], rfl, rfl, rfl, by simp only [put_t, put_t', put_m, putT_t, putT_t', putT_m, init_t, init_m, initT_0, initT_1, initT_2, initT_3, initT_4, initT_5, initT_6, initT_7, initT_8, Nat.reduceEqDiff, ↓reduceIte]; rw [hNt]⟩ ?_
  rintro s ⟨k, M, id, hk, tm, hX, hb, hTL, hidd, hid, ho, t5, t16, t4, t1, t15⟩
  have hTM := hTL.now
  by_cases hlt : k < N
  · have hlt' : (k : Int) < N := by omega
    have hrow : (p.tab p.bestC N).getD (k + 1) [] = p.rowsN p.bestC (N - 1 - k) := by
      rw [Pr.tab_at p _ (by omega)]; congr 1; omega
    have hl21 := Pr.rowsN_len p p.bestC (N - 1 - k)
    have hBB := Pr.rows_big hG (N := 5) (by omega) (Pr.best_fair hG 5) (k := N - 1 - k) (by omega)
    have a1 := hTM.at_ (k + 1) (by rw [Pr.tab_len]; omega)
    rw [Int.natCast_add] at a1
    obtain ⟨y, a2, a3⟩ := hTM.ld (k + 1) (by rw [Pr.tab_len]; omega)
    rw [hrow] at a3
    simp (config := {implicitDefEqProofs := false, maxDischargeDepth := 20}) (disch := first | omega | (simp only [lenE]; done) | (simp only [lenE]; omega) | rfl | (simp only [lenE, markR_len]; done) | (simp only [lenE, markR_len]; omega)) only [runE, mapE, listE, initT_5, initT_6, initT_7, initT_8, resV, oneV, binA, unA, reduceCtorEq, Nat.reduceEqDiff, Nat.reduceAdd, Nat.reduceLT, Nat.reduceLeDiff, Nat.reduceMul, Nat.reduceSub, ↓reduceIte, decide_true, decide_false, Bool.true_eq_false, Bool.false_eq_true, Bool.not_true, Bool.not_false, if_true, if_false, and_true, true_and, memE, celE, w64, Nat.zero_add, Nat.add_zero, Nat.mul_one, putL, and_self, ldn, tm, t5, t16, t4, t1, t15, hlt', hb.rd, show (k : Int) + 1 = (k : Int) + ((1 : Nat) : Int) by rfl, a1, a2]
    refine rcallH_rc (bestPair_rc _ _ y p _ k (N - 1 - k) (ProcA.mk (hX.ints hu)) a3 hG hl21 hBB (by omega) (by omega) (by omega)) ?_
    rintro r2 n3 ⟨rfl, nr3⟩
    rw [← levelsL_at hlt]
    have ho3 := ho.ext n3
    have hidl := ho3.lt
    have happ := app_back (M := M ++ n3) (id2 := (M ++ n3).length) (sz := 2) (byt := 16) (n := k) (ys := [.int .i64 ((levelsL p N).getD k (0, 0)).1, .int .i64 ((levelsL p N).getD k (0, 0)).2]) ho3 rfl (by rw [pairsC_len, List.length_take]; omega) rfl rfl (by omega) (by omega)
    have hX3 := hX.app nr3
    have hXl := hX3.len
    have hb3 := hb.ext n3
    have hT3 := hTL.ext n3
    obtain ⟨M3, hM3⟩ : ∃ M', M' = M ++ n3 := ⟨_, rfl⟩
    rw [← hM3] at happ hidl hX3 hXl hb3 hT3 ho3
    rw [← hM3]
    simp (config := {implicitDefEqProofs := false, maxDischargeDepth := 20}) (disch := first | omega | (simp only [lenE]; done) | (simp only [lenE]; omega) | rfl | (simp only [lenE, markR_len]; done) | (simp only [lenE, markR_len]; omega)) only [runE, mapE, listE, initT_5, initT_6, initT_7, initT_8, resV, oneV, binA, unA, reduceCtorEq, Nat.reduceEqDiff, Nat.reduceAdd, Nat.reduceLT, Nat.reduceLeDiff, Nat.reduceMul, Nat.reduceSub, ↓reduceIte, decide_true, decide_false, Bool.true_eq_false, Bool.false_eq_true, Bool.not_true, Bool.not_false, if_true, if_false, and_true, true_and, memE, celE, w64, Nat.zero_add, Nat.add_zero, Nat.mul_one, putL, and_self, ldn, t5, t16, t4, t1, t15, bsl_pair, happ]
    refine ⟨⟨k + 1, _, M3.length + 1, by omega, rfl, ((hX3.dead (by omega)).one _ _).one _ _, hb3.at_ (same_gen (by omega) hidl), hT3.but ((((But.refl id (id + 1) M3).set (Nat.le_refl _) (Nat.lt_succ_self _) deadB).ext _).ext _) (by omega), .inr (by have := hT3.2.1; omega), by omega, ?_, rfl, by simp⟩, by simp [intOf]; omega⟩
    · rw [take_nextP (by omega), pairsC_app, pairsC_one]
      exact OwnB.here (by simp)
  · have hlt' : ¬ ((k : Int) < N) := by omega
    have e : k = N := by omega
    subst e
    simp (config := {implicitDefEqProofs := false, maxDischargeDepth := 20}) (disch := first | omega | (simp only [lenE]; done) | (simp only [lenE]; omega) | rfl | (simp only [lenE, markR_len]; done) | (simp only [lenE, markR_len]; omega)) only [runE, mapE, listE, initT_5, initT_6, initT_7, initT_8, resV, oneV, binA, unA, reduceCtorEq, Nat.reduceEqDiff, Nat.reduceAdd, Nat.reduceLT, Nat.reduceLeDiff, Nat.reduceMul, Nat.reduceSub, ↓reduceIte, decide_true, decide_false, Bool.true_eq_false, Bool.false_eq_true, Bool.not_true, Bool.not_false, if_true, if_false, and_true, true_and, memE, celE, w64, Nat.zero_add, Nat.add_zero, Nat.mul_one, putL, and_self, ldn, tm, t5, t16, t4, t1, t15, hlt', hb.rd]
    rw [List.take_of_length_le (by omega)] at ho
    refine ext_ansO (f := fun v => .tuple #[v, .bool true]) hX fun M' hM => ⟨by omega, id, 2, by rw [hll], by omega, ho.lt, ho.at_ (hM _ (by omega) ho.lt)⟩
def PairsQ (e : TypeId) (L : List (Int × Int)) (lo hi : Nat) (M : Mem) (v : Value) : Prop := PairsO e L lo hi M v ∧ ∃ id, v = .slice (some ⟨id, 0, none⟩) L.length 2
theorem specBestLevels_q (m : Mem) (v : Value) (p : Pr) (h : ProcA m v p) : RC Try.prog 21 [v] m (AnsO m (PairsQ 49 (levelsA p)) fun v => .tuple #[v, .bool p.good]) := by
  refine rc_of_run mixed ok_spec_BestLevels (by simp) (go_start _ _ _ ?_)
  obtain ⟨u, rfl, hu⟩ := h.ro
  unfold levelsA
  simp (config := {implicitDefEqProofs := false, maxDischargeDepth := 20}) (disch := first | omega | (simp only [lenE]; done) | (simp only [lenE]; omega) | rfl | (simp only [lenE, markR_len]; done) | (simp only [lenE, markR_len]; omega)) only [runE, mapE, listE, initT_5, initT_6, initT_7, initT_8, resV, oneV, binA, unA, reduceCtorEq, Nat.reduceEqDiff, Nat.reduceAdd, Nat.reduceLT, Nat.reduceLeDiff, Nat.reduceMul, Nat.reduceSub, ↓reduceIte, decide_true, decide_false, Bool.true_eq_false, Bool.false_eq_true, Bool.not_true, Bool.not_false, if_true, if_false, and_true, true_and, memE, celE, w64, Nat.zero_add, Nat.add_zero, Nat.mul_one, putL, and_self, ldn, c_spec_BestLevels, r_spec_BestLevels, bsl_no]
  refine callH_rc (l6Good_rc _ _ p (ProcA.mk ((hu.ext _).ext _))) ?_
  rintro r n1 ⟨rfl, nr1⟩
  cases hg : p.good with
  | false =>
    simp (config := {implicitDefEqProofs := false, maxDischargeDepth := 20}) (disch := first | omega | (simp only [lenE]; done) | (simp only [lenE]; omega) | rfl | (simp only [lenE, markR_len]; done) | (simp only [lenE, markR_len]; omega)) only [runE, mapE, listE, initT_5, initT_6, initT_7, initT_8, resV, oneV, binA, unA, reduceCtorEq, Nat.reduceEqDiff, Nat.reduceAdd, Nat.reduceLT, Nat.reduceLeDiff, Nat.reduceMul, Nat.reduceSub, ↓reduceIte, decide_true, decide_false, Bool.true_eq_false, Bool.false_eq_true, Bool.not_true, Bool.not_false, if_true, if_false, and_true, true_and, memE, celE, w64, Nat.zero_add, Nat.add_zero, Nat.mul_one, putL, and_self, ldn]
    refine ext_ansO (f := fun v => .tuple #[v, .bool false]) ((((Ext.refl m).one _ _).one _ _).app nr1) fun M' hM => ⟨⟨by simp, m.length + 1, 2, rfl, by omega, by simp [roM_len], ?_⟩, m.length + 1, rfl⟩
    refine OwnB.at_ ?_ (hM _ (by omega) (by simp [roM_len]))
    exact (OwnB.here (by simp [roM_len])).ext _
  | true =>
  have hG := goodP_iff.1 hg
  have ht := hG.turns
  simp (config := {implicitDefEqProofs := false, maxDischargeDepth := 20}) (disch := first | omega | (simp only [lenE]; done) | (simp only [lenE]; omega) | rfl | (simp only [lenE, markR_len]; done) | (simp only [lenE, markR_len]; omega)) only [runE, mapE, listE, initT_5, initT_6, initT_7, initT_8, resV, oneV, binA, unA, reduceCtorEq, Nat.reduceEqDiff, Nat.reduceAdd, Nat.reduceLT, Nat.reduceLeDiff, Nat.reduceMul, Nat.reduceSub, ↓reduceIte, decide_true, decide_false, Bool.true_eq_false, Bool.false_eq_true, Bool.not_true, Bool.not_false, if_true, if_false, and_true, true_and, memE, celE, w64, Nat.zero_add, Nat.add_zero, Nat.mul_one, putL, and_self, ldn]
  refine callH_rc (l6Worths_rc _ _ p (ProcA.mk (((hu.ext _).ext _).ext _)) hG) ?_
  rintro r n2 ⟨nr2, w, rfl, hw⟩
  have hTA := hw.mono fun M h => h.in
  obtain ⟨A, hA⟩ : ∃ A : Mem, A = roM m ++ [⟨.own, 26, [.int .i64 p.turns, u, .int .i64 p.setup, .int .i64 p.unit, .int .i64 p.hold, .int .i64 p.back]⟩] ++ [⟨.own, 49, []⟩] ++ n1 ++ n2 := ⟨_, rfl⟩
  have hXA : Ext m A := by rw [hA]; exact ((((Ext.refl m).one _ _).one _ _).app nr1).app nr2
  have hbA : OwnB A m.length 26 [.int .i64 p.turns, u, .int .i64 p.setup, .int .i64 p.unit, .int .i64 p.hold, .int .i64 p.back] := by rw [hA]; exact (((OwnB.here (roM_len m).symm).ext _).ext _).ext _
  rw [← hA] at hTA
  simp (config := {implicitDefEqProofs := false, maxDischargeDepth := 20}) (disch := first | omega | (simp only [lenE]; done) | (simp only [lenE]; omega) | rfl | (simp only [lenE, markR_len]; done) | (simp only [lenE, markR_len]; omega)) only [runE, mapE, listE, initT_5, initT_6, initT_7, initT_8, resV, oneV, binA, unA, reduceCtorEq, Nat.reduceEqDiff, Nat.reduceAdd, Nat.reduceLT, Nat.reduceLeDiff, Nat.reduceMul, Nat.reduceSub, ↓reduceIte, decide_true, decide_false, Bool.true_eq_false, Bool.false_eq_true, Bool.not_true, Bool.not_false, if_true, if_false, and_true, true_and, memE, celE, w64, Nat.zero_add, Nat.add_zero, Nat.mul_one, putL, and_self, ldn, id_eq]
  try rw [← hA]
  obtain ⟨N, hN⟩ : ∃ N, N = p.turns.toNat := ⟨_, rfl⟩
  rw [← hN] at hTA ⊢
  obtain ⟨lo, hlo⟩ : ∃ lo, lo = (roM m ++ [(⟨.own, 26, [.int .i64 p.turns, u, .int .i64 p.setup, .int .i64 p.unit, .int .i64 p.hold, .int .i64 p.back]⟩ : Blk)] ++ [(⟨.own, 49, []⟩ : Blk)] ++ n1).length := ⟨_, rfl⟩
  obtain ⟨hi, hhi⟩ : ∃ hi, hi = lo + n2.length := ⟨_, rfl⟩
  rw [← hlo, ← hhi] at hTA
  have hNt : p.turns = (N : Int) := by omega
  have hll := levelsL_len p N
  refine loop_inv mixed (fun s => ∃ (k : Nat) (M : Mem) (id : Nat), k ≤ N ∧ s.m = M ∧ Ext m M ∧ OwnB M m.length 26 [.int .i64 p.turns, u, .int .i64 p.setup, .int .i64 p.unit, .int .i64 p.hold, .int .i64 p.back] ∧ Lv lo hi M (fun M => TabA M r (p.tab p.bestC N)) ∧ (id < lo ∨ hi ≤ id) ∧ m.length < id ∧ OwnB M id 49 (pairsC ((levelsL p N).take k)) ∧ s.t 4 = .slice (some ⟨id, 0, none⟩) k 2 ∧ s.t 6 = .int .i64 k ∧ s.t 5 = r ∧ s.t 1 = .pointer (some ⟨m.length, 0, none⟩)) (fun s => N - (intOf (s.t 6)).toNat)
    ⟨0, A, m.length + 1, by omega, rfl, hXA, hbA, hTA, .inl (by rw [hlo]; simp [roM_len]), by omega, by rw [hA]; exact ((OwnB.here (by simp [roM_len])).ext _).ext _, rfl, rfl, rfl, rfl⟩ ?_
  rintro s ⟨k, M, id, hk, tm, hX, hb, hTL, hidd, hid, ho, t4, t6, t5, t1⟩
  have hTM := hTL.now
  by_cases hlt : k < N
  · have hlt' : (k : Int) < N := by omega
    have hrow : (p.tab p.bestC N).getD (k + 1) [] = p.rowsN p.bestC (N - 1 - k) := by
      rw [Pr.tab_at p _ (by omega)]; congr 1; omega
    have hl21 := Pr.rowsN_len p p.bestC (N - 1 - k)
    have hBB := Pr.rows_big hG (N := 5) (by omega) (Pr.best_fair hG 5) (k := N - 1 - k) (by omega)
    have hltT : (k : Int) < p.turns := by omega
    simp (config := {implicitDefEqProofs := false, maxDischargeDepth := 20}) (disch := first | omega | (simp only [lenE]; done) | (simp only [lenE]; omega) | rfl | (simp only [lenE, markR_len]; done) | (simp only [lenE, markR_len]; omega)) only [runE, mapE, listE, initT_5, initT_6, initT_7, initT_8, resV, oneV, binA, unA, reduceCtorEq, Nat.reduceEqDiff, Nat.reduceAdd, Nat.reduceLT, Nat.reduceLeDiff, Nat.reduceMul, Nat.reduceSub, ↓reduceIte, decide_true, decide_false, Bool.true_eq_false, Bool.false_eq_true, Bool.not_true, Bool.not_false, if_true, if_false, and_true, true_and, memE, celE, w64, Nat.zero_add, Nat.add_zero, Nat.mul_one, putL, and_self, ldn, tm, t4, t6, t5, t1, hltT, hb.rd]
    refine callH_rc (l6Levels_rc _ _ r p (p.tab p.bestC N) _ k (N - 1 - k) (ProcA.mk (hX.ints hu)) hTM hG (by rw [show ((k : Int) + 1).toNat = k + 1 by omega]; exact hrow) (by rw [Pr.tab_len]; omega) hl21 hBB (by omega) (by omega) (by omega)) ?_
    rintro r2 n3 ⟨rfl, nr3⟩
    rw [← levelsL_at hlt]
    have ho3 := ho.ext n3
    have hidl := ho3.lt
    have happ := app_back (M := M ++ n3) (id2 := (M ++ n3).length) (sz := 2) (byt := 16) (n := k) (ys := [.int .i64 ((levelsL p N).getD k (0, 0)).1, .int .i64 ((levelsL p N).getD k (0, 0)).2]) ho3 rfl (by rw [pairsC_len, List.length_take]; omega) rfl rfl (by omega) (by omega)
    have hX3 := hX.app nr3
    have hXl := hX3.len
    have hb3 := hb.ext n3
    have hT3 := hTL.ext n3
    obtain ⟨M3, hM3⟩ : ∃ M', M' = M ++ n3 := ⟨_, rfl⟩
    rw [← hM3] at happ hidl hX3 hXl hb3 hT3 ho3
    rw [← hM3]
    simp (config := {implicitDefEqProofs := false, maxDischargeDepth := 20}) (disch := first | omega | (simp only [lenE]; done) | (simp only [lenE]; omega) | rfl | (simp only [lenE, markR_len]; done) | (simp only [lenE, markR_len]; omega)) only [runE, mapE, listE, initT_5, initT_6, initT_7, initT_8, resV, oneV, binA, unA, reduceCtorEq, Nat.reduceEqDiff, Nat.reduceAdd, Nat.reduceLT, Nat.reduceLeDiff, Nat.reduceMul, Nat.reduceSub, ↓reduceIte, decide_true, decide_false, Bool.true_eq_false, Bool.false_eq_true, Bool.not_true, Bool.not_false, if_true, if_false, and_true, true_and, memE, celE, w64, Nat.zero_add, Nat.add_zero, Nat.mul_one, putL, and_self, ldn, t4, t6, t5, t1, bsl_pair, happ]
    refine ⟨⟨k + 1, _, M3.length + 1, by omega, rfl, ((hX3.dead (by omega)).one _ _).one _ _, hb3.at_ (same_gen (by omega) hidl), hT3.but ((((But.refl id (id + 1) M3).set (Nat.le_refl _) (Nat.lt_succ_self _) deadB).ext _).ext _) (by omega), .inr (by have := hT3.2.1; omega), by omega, ?_, rfl, by simp⟩, by simp [intOf]; omega⟩
    · rw [take_nextP (by omega), pairsC_app, pairsC_one]
      exact OwnB.here (by simp)
  · have hlt' : ¬ ((k : Int) < N) := by omega
    have e : k = N := by omega
    subst e
    have hltT : ¬ ((k : Int) < p.turns) := by omega
    simp (config := {implicitDefEqProofs := false, maxDischargeDepth := 20}) (disch := first | omega | (simp only [lenE]; done) | (simp only [lenE]; omega) | rfl | (simp only [lenE, markR_len]; done) | (simp only [lenE, markR_len]; omega)) only [runE, mapE, listE, initT_5, initT_6, initT_7, initT_8, resV, oneV, binA, unA, reduceCtorEq, Nat.reduceEqDiff, Nat.reduceAdd, Nat.reduceLT, Nat.reduceLeDiff, Nat.reduceMul, Nat.reduceSub, ↓reduceIte, decide_true, decide_false, Bool.true_eq_false, Bool.false_eq_true, Bool.not_true, Bool.not_false, if_true, if_false, and_true, true_and, memE, celE, w64, Nat.zero_add, Nat.add_zero, Nat.mul_one, putL, and_self, ldn, tm, t4, t6, t5, t1, hltT, hb.rd]
    rw [List.take_of_length_le (by omega)] at ho
    refine ext_ansO (f := fun v => .tuple #[v, .bool true]) hX fun M' hM => ⟨⟨by omega, id, 2, by rw [hll], by omega, ho.lt, ho.at_ (hM _ (by omega) ho.lt)⟩, id, by rw [hll]⟩
theorem specBestLevels_rc (m : Mem) (v : Value) (p : Pr) (h : ProcA m v p) : RC Try.prog 21 [v] m (AnsO m (PairsO 49 (levelsA p)) fun v => .tuple #[v, .bool p.good]) := by
  refine (specBestLevels_q m v p h).mono ?_
  rintro r new ⟨h1, w, h2, h3⟩
  exact ⟨h1, w, h2, h3.mono fun M h => h.1⟩
end Go.Proofs.Ytckpfgkgigicpaa.Ab
end
section
namespace Go.Proofs.Ytckpfgkgigicpaa.Ab
open Go Go.RowKit
set_option linter.unusedVariables false
set_option linter.unusedSimpArgs false
structure BytesA (m : Mem) (cb : Nat) (l : List Int) : Prop where
  blk : ∃ kd, kd ≠ Kd.dead ∧ m[cb]? = some ⟨kd, 5, l.map (Value.int .u8)⟩
  byte : ∀ x ∈ l, 0 ≤ x ∧ x ≤ 255
  few : l.length ≤ 65536
theorem BytesA.ro {m : Mem} {cb : Nat} {l : List Int} (h : BytesA m cb l) : (roM m)[cb]? = some ⟨.ro, 5, l.map (Value.int .u8)⟩ := by
  obtain ⟨kd, hk, hb⟩ := h.blk
  unfold roM
  rw [List.getElem?_map, hb]
  cases kd with
  | dead => exact absurd rfl hk
  | ro => rfl
  | own => rfl
theorem BytesA.ext {m : Mem} {cb : Nat} {l : List Int} (h : BytesA m cb l) (new : Mem) : BytesA (m ++ new) cb l := by
  obtain ⟨kd, hk, hb⟩ := h.blk
  exact ⟨⟨kd, hk, by rw [List.getElem?_append_left (List.getElem?_eq_some_iff.1 hb).1]; exact hb⟩, h.byte, h.few⟩
theorem CurA.start {m : Mem} {cb fl : Nat} {l : List Int} (h : BytesA m cb l) {id : Nat} (hid : id = m.length) : CurA (roM m ++ [⟨.own, 53, [.slice (some ⟨cb, 0, none⟩) l.length fl, .int .i64 0, .int .u64 0]⟩]) cb l id 0 := by
  subst hid
  have hb := h.ro
  have hlt := (List.getElem?_eq_some_iff.1 hb).1
  refine ⟨by rw [List.getElem?_append_left hlt]; exact hb, h.byte, h.few, (fl, 0), ?_⟩
  rw [List.getElem?_append_right (by rw [roM_len]; omega), roM_len]
  simp
theorem bldCur (A : Option Addr) (n c : Nat) : bldA [.slice none 0 0, .int .i64 0, .int .u64 0] [(0, 1, .slice A n c)] = some (.agg #[.slice A n c, .int .i64 0, .int .u64 0]) := rfl

theorem argB {W : World} {A : Option Addr} {c : Nat} {l : List Int} (hr : Rd W W.heap.size A (l.map (Value.int .u8))) (hlc : l.length ≤ c) (hc : c ≤ maxLen) :
    ∃ p, MRel W W.heap.size [p] [⟨.ro, 5, l.map (Value.int .u8)⟩] W ∧ VR [p] (.slice (some ⟨0, 0, none⟩) l.length 0) (.slice A l.length c) := by
  have h := MRel.start W
  by_cases hl : 0 < l.length
  · obtain ⟨b, off, rfl, hb, hcell⟩ := hr (by simpa using hl)
    refine ⟨(b, off, 0), by
      have := h.addRo (e := 5) (xs := l.map (Value.int .u8)) (b := b) (o := off) (tot := 0) (fun k x hx => ⟨hb, x, hcell k x hx, by
        rw [List.getElem?_map] at hx
        cases hk : l[k]? with
        | none => rw [hk] at hx; cases hx
        | some z => rw [hk] at hx; cases hx; exact .int _ _⟩)
      simpa using this, .sl (b := b) (o := off) (tot := 0) (by simp) hlc hc (fun _ _ => by simp) (fun hf => absurd hf (by omega))⟩
  · have hl0 : l = [] := List.eq_nil_of_length_eq_zero (by omega)
    subst hl0
    exact ⟨(0, 0, 0), by
      have := h.addRo (e := 5) (xs := []) (b := 0) (o := 0) (tot := 0) (fun k x hx => by simp at hx)
      simpa using this, .sl (b := 0) (o := 0) (tot := 0) (by simp) hlc hc (fun _ hp => absurd hp (by simp)) (fun hf => absurd hf (by omega))⟩
end Go.Proofs.Ytckpfgkgigicpaa.Ab
end
section
namespace Go.Proofs.Ytckpfgkgigicpaa.Ab
open Go Go.RowKit
set_option linter.unusedVariables false
set_option linter.unusedSimpArgs false
theorem bl_pT (m : Mem) : bslA m 3 1 7 [.int .i64 0, .int .i64 0, .int .i64 0, .int .i64 0, .int .i64 0, .int .i64 0, .int .i64 0] [(0, 1, .int .i64 2), (1, 1, .int .i64 3), (2, 1, .int .i64 1), (3, 1, .int .i64 2), (4, 1, .int .i64 0), (5, 1, .int .i64 4), (6, 1, .int .i64 5)] = some (.slice (some ⟨m.length, 0, none⟩) 7 1, m ++ [rowB [2, 3, 1, 2, 0, 4, 5]]) := rfl
theorem bl_pS (m : Mem) : bslA m 3 1 5 [.int .i64 0, .int .i64 0, .int .i64 0, .int .i64 0, .int .i64 0] [(0, 1, .int .i64 0), (1, 1, .int .i64 3), (2, 1, .int .i64 6), (3, 1, .int .i64 10), (4, 1, .int .i64 99)] = some (.slice (some ⟨m.length, 0, none⟩) 5 1, m ++ [rowB [0, 3, 6, 10, 99]]) := rfl
theorem bl_pB (m : Mem) : bslA m 3 1 5 [.int .i64 0, .int .i64 0, .int .i64 0, .int .i64 0, .int .i64 0] [(0, 1, .int .i64 2), (1, 1, .int .i64 4), (2, 1, .int .i64 6), (3, 1, .int .i64 9), (4, 1, .int .i64 0)] = some (.slice (some ⟨m.length, 0, none⟩) 5 1, m ++ [rowB [2, 4, 6, 9, 0]]) := rfl
theorem bl_pW (m : Mem) : bslA m 3 1 5 [.int .i64 0, .int .i64 0, .int .i64 0, .int .i64 0, .int .i64 0] [(0, 1, .int .i64 1), (1, 1, .int .i64 2), (2, 1, .int .i64 1), (3, 1, .int .i64 0), (4, 1, .int .i64 3)] = some (.slice (some ⟨m.length, 0, none⟩) 5 1, m ++ [rowB [1, 2, 1, 0, 3]]) := rfl
theorem bl_p0 (m : Mem) : bslA m 3 1 2 [.int .i64 0, .int .i64 0] [(0, 1, .int .i64 (-1)), (1, 1, .int .i64 6)] = some (.slice (some ⟨m.length, 0, none⟩) 2 1, m ++ [rowB [-1, 6]]) := rfl
theorem bl_p1 (m : Mem) : bslA m 3 1 3 [.int .i64 0, .int .i64 0, .int .i64 0] [(0, 1, .int .i64 (-1)), (1, 1, .int .i64 4), (2, 1, .int .i64 5)] = some (.slice (some ⟨m.length, 0, none⟩) 3 1, m ++ [rowB [-1, 4, 5]]) := rfl
theorem bl_p2 (m : Mem) : bslA m 3 1 2 [.int .i64 0, .int .i64 0] [(0, 1, .int .i64 (-1)), (1, 1, .int .i64 100)] = some (.slice (some ⟨m.length, 0, none⟩) 2 1, m ++ [rowB [-1, 100]]) := rfl
theorem bl_p3 (m : Mem) : bslA m 3 1 3 [.int .i64 0, .int .i64 0, .int .i64 0] [(0, 1, .int .i64 (-1)), (1, 1, .int .i64 9), (2, 1, .int .i64 10)] = some (.slice (some ⟨m.length, 0, none⟩) 3 1, m ++ [rowB [-1, 9, 10]]) := rfl
theorem bl_w (m : Mem) (x : Int) : bslA m 3 1 1 [.int .i64 0] [(0, 1, .int .i64 x)] = some (.slice (some ⟨m.length, 0, none⟩) 1 1, m ++ [⟨.own, 3, [.int .i64 x]⟩]) := rfl
theorem bld_p (a b c d f : Int) : bldA [.int .i64 0, .slice none 0 0, .int .i64 0, .int .i64 0, .int .i64 0, .int .i64 0] [(0, 1, .int .i64 a), (2, 1, .int .i64 b), (3, 1, .int .i64 c), (4, 1, .int .i64 d), (5, 1, .int .i64 f)] = some (.agg #[.int .i64 a, .slice none 0 0, .int .i64 b, .int .i64 c, .int .i64 d, .int .i64 f]) := rfl
theorem fin6 {M M0 M' : Mem} {cb id a : Nat} {l : List Int} {p : Pr} {u : Value} (hM0 : M0 = M ++ [⟨.own, 26, [.int .i64 0, .slice none 0 0, .int .i64 0, .int .i64 0, .int .i64 0, .int .i64 0]⟩]) (hid : id < M.length) (hcb : cb < M.length) (cw : Cw id M0 M') (cur : CurA M' cb l id a) (pl : PL M0.length M' u p.w) (ho : onesB [u] = true) : ∃ M2,
    stA M' M.length 0 (procC p u) = some M2 ∧ (∀ j, rdc M2 M.length j = (procC p u)[j]?) ∧ (Cw id M M2 ∧ CurA M2 cb l id a ∧ PL M.length M2 u p.w) := by
  have hl0 : M0.length = M.length + 1 := by rw [hM0]; simp
  have hres : OwnB M' M.length 26 [.int .i64 0, .slice none 0 0, .int .i64 0, .int .i64 0, .int .i64 0, .int .i64 0] := by
    refine OwnB.at_ (M := M0) ?_ (cw.old _ (by omega) (by omega))
    rw [hM0]; exact OwnB.here rfl
  have cw1 : Cw id M M' := by rw [hM0] at cw; exact cw.pre (noRo_own noRo_nil) hid
  refine ⟨_, hres.st (by simp) (by
    have e : u.oneCell' = true := by simpa [onesB] using ho
    simp only [onesB, procC, List.all_cons, List.all_nil, Bool.and_true, e]
    rfl), fun j => ?_, cw1.put (Nat.le_refl _) (by simp), cur.put (by omega) (by omega) _, fun M3 h3 => ?_⟩
  · rw [(hres.set_self _ _).rd]; rfl
  · refine pl M3 fun i h1 h2 => ?_
    rw [h3 i (by omega) (by rw [List.length_set]; exact h2), List.getElem?_set_ne (by omega)]
theorem process_ac (M : Mem) (cb id a : Nat) (l : List Int) (h : CurA M cb l id a) (ha : a ≤ 999999000) :
    AC Try.prog 23 [.pointer (some ⟨id, 0, none⟩)] M fun v M' => ∃ (p : Pr) (u : Value) (a' : Nat), v = procV p u ∧ a' ≤ a + 100 ∧ Cw id M M' ∧ CurA M' cb l id a' ∧ PL M.length M' u p.w := by
  refine ac_of_run mixed ok_spec_l1Cur__process (by simp) (go_start _ _ _ ?_)
  have hid := h.lt
  have hcb := h.cblt
  simp (config := {implicitDefEqProofs := false, maxDischargeDepth := 20}) (disch := first | omega | (simp only [lenE]; done) | (simp only [lenE]; omega) | rfl | (simp only [lenE, markR_len]; done) | (simp only [lenE, markR_len]; omega)) only [runE, mapE, listE, initT_5, initT_6, initT_7, initT_8, resV, oneV, binA, unA, reduceCtorEq, Nat.reduceEqDiff, Nat.reduceAdd, Nat.reduceLT, Nat.reduceLeDiff, Nat.reduceMul, Nat.reduceSub, ↓reduceIte, decide_true, decide_false, Bool.true_eq_false, Bool.false_eq_true, Bool.not_true, Bool.not_false, if_true, if_false, and_true, true_and, memE, celE, w64, Nat.zero_add, Nat.add_zero, Nat.mul_one, putL, and_self, ldn, c_spec_l1Cur__process, r_spec_l1Cur__process, bl_pT]
  obtain ⟨M0, hM0⟩ : ∃ M0 : Mem, M0 = M ++ [⟨.own, 26, [.int .i64 0, .slice none 0 0, .int .i64 0, .int .i64 0, .int .i64 0, .int .i64 0]⟩] := ⟨_, rfl⟩
  have h0 : CurA M0 cb l id a := by rw [hM0]; exact h.ext _
  have hres : OwnB M0 M.length 26 [.int .i64 0, .slice none 0 0, .int .i64 0, .int .i64 0, .int .i64 0, .int .i64 0] := by rw [hM0]; exact OwnB.here rfl
  have hl0 : M0.length = M.length + 1 := by rw [hM0]; simp
  have cw0 : Cw id M M0 := by rw [hM0]; exact (Cw.refl id M).ext (noRo_own noRo_nil)
  rw [← hM0]
  refine callH_ac (among_new M0 cb id a l [2, 3, 1, 2, 0, 4, 5] h0 (by omega) (by omega) rfl (by simp) (by simp)) ?_
  rintro v M1 ⟨xT, -, rfl, w1, a1, ha1, k1⟩
  simp (config := {implicitDefEqProofs := false, maxDischargeDepth := 20}) (disch := first | omega | (simp only [lenE]; done) | (simp only [lenE]; omega) | rfl | (simp only [lenE, markR_len]; done) | (simp only [lenE, markR_len]; omega)) only [runE, mapE, listE, initT_5, initT_6, initT_7, initT_8, resV, oneV, binA, unA, reduceCtorEq, Nat.reduceEqDiff, Nat.reduceAdd, Nat.reduceLT, Nat.reduceLeDiff, Nat.reduceMul, Nat.reduceSub, ↓reduceIte, decide_true, decide_false, Bool.true_eq_false, Bool.false_eq_true, Bool.not_true, Bool.not_false, if_true, if_false, and_true, true_and, memE, celE, w64, Nat.zero_add, Nat.add_zero, Nat.mul_one, putL, and_self, ldn, bl_pS]
  refine callH_ac (among_new M1 cb id a1 l [0, 3, 6, 10, 99] k1 (by omega) rfl rfl (by simp) (by simp)) ?_
  rintro v M2 ⟨xS, -, rfl, w2, a2, ha2, k2⟩
  have c2 := Cw.trans (by omega) w1 w2
  clear w1 w2 k1
  simp (config := {implicitDefEqProofs := false, maxDischargeDepth := 20}) (disch := first | omega | (simp only [lenE]; done) | (simp only [lenE]; omega) | rfl | (simp only [lenE, markR_len]; done) | (simp only [lenE, markR_len]; omega)) only [runE, mapE, listE, initT_5, initT_6, initT_7, initT_8, resV, oneV, binA, unA, reduceCtorEq, Nat.reduceEqDiff, Nat.reduceAdd, Nat.reduceLT, Nat.reduceLeDiff, Nat.reduceMul, Nat.reduceSub, ↓reduceIte, decide_true, decide_false, Bool.true_eq_false, Bool.false_eq_true, Bool.not_true, Bool.not_false, if_true, if_false, and_true, true_and, memE, celE, w64, Nat.zero_add, Nat.add_zero, Nat.mul_one, putL, and_self, ldn]
  refine callH_ac (pick_ac M2 cb id a2 l 3 k2 (by omega) (by omega) (by omega)) ?_
  rintro v M3 ⟨xU, rfl, hU0, hU1, w3, a3, ha3, k3⟩
  have c3 := Cw.trans (by omega) c2 w3
  clear c2 w3 k2
  simp (config := {implicitDefEqProofs := false, maxDischargeDepth := 20}) (disch := first | omega | (simp only [lenE]; done) | (simp only [lenE]; omega) | rfl | (simp only [lenE, markR_len]; done) | (simp only [lenE, markR_len]; omega)) only [runE, mapE, listE, initT_5, initT_6, initT_7, initT_8, resV, oneV, binA, unA, reduceCtorEq, Nat.reduceEqDiff, Nat.reduceAdd, Nat.reduceLT, Nat.reduceLeDiff, Nat.reduceMul, Nat.reduceSub, ↓reduceIte, decide_true, decide_false, Bool.true_eq_false, Bool.false_eq_true, Bool.not_true, Bool.not_false, if_true, if_false, and_true, true_and, memE, celE, w64, Nat.zero_add, Nat.add_zero, Nat.mul_one, putL, and_self, ldn]
  refine callH_ac (pick_ac M3 cb id a3 l 3 k3 (by omega) (by omega) (by omega)) ?_
  rintro v M4 ⟨xH, rfl, hH0, hH1, w4, a4, ha4, k4⟩
  have c4 := Cw.trans (by omega) c3 w4
  clear c3 w4 k3
  simp (config := {implicitDefEqProofs := false, maxDischargeDepth := 20}) (disch := first | omega | (simp only [lenE]; done) | (simp only [lenE]; omega) | rfl | (simp only [lenE, markR_len]; done) | (simp only [lenE, markR_len]; omega)) only [runE, mapE, listE, initT_5, initT_6, initT_7, initT_8, resV, oneV, binA, unA, reduceCtorEq, Nat.reduceEqDiff, Nat.reduceAdd, Nat.reduceLT, Nat.reduceLeDiff, Nat.reduceMul, Nat.reduceSub, ↓reduceIte, decide_true, decide_false, Bool.true_eq_false, Bool.false_eq_true, Bool.not_true, Bool.not_false, if_true, if_false, and_true, true_and, memE, celE, w64, Nat.zero_add, Nat.add_zero, Nat.mul_one, putL, and_self, ldn, bl_pB]
  refine callH_ac (among_new M4 cb id a4 l [2, 4, 6, 9, 0] k4 (by omega) rfl rfl (by simp) (by simp)) ?_
  rintro v M5 ⟨xB, -, rfl, w5, a5, ha5, k5⟩
  have c5 := Cw.trans (by omega) c4 w5
  clear c4 w5 k4
  have s1 : stA (M5 ++ [⟨.own, 26, [.int .i64 0, .slice none 0 0, .int .i64 0, .int .i64 0, .int .i64 0, .int .i64 0]⟩]) M5.length 0 [.int .i64 xT, .slice none 0 0, .int .i64 xS, .int .i64 xU, .int .i64 (1 + xH), .int .i64 xB] = some (M5 ++ [⟨.own, 26, procC ⟨xT, [], xS, xU, 1 + xH, xB⟩ (.slice none 0 0)⟩]) := by
    rw [(OwnB.here rfl).st (by simp) rfl]
    simp [putL]
  have b5 : PB M0 (M5 ++ [⟨.own, 26, procC ⟨xT, [], xS, xU, 1 + xH, xB⟩ (.slice none 0 0)⟩]) cb id a5 M5.length 0 l ⟨xT, [], xS, xU, 1 + xH, xB⟩ (.slice none 0 0) :=
    ⟨by omega, by omega, c5.ext (noRo_own noRo_nil), k5.ext _, OwnB.here rfl, c5.len, .inl ⟨rfl, rfl⟩, fun e => absurd rfl e⟩
  simp (config := {implicitDefEqProofs := false, maxDischargeDepth := 20}) (disch := first | omega | (simp only [lenE]; done) | (simp only [lenE]; omega) | rfl | (simp only [lenE, markR_len]; done) | (simp only [lenE, markR_len]; omega)) only [runE, mapE, listE, initT_5, initT_6, initT_7, initT_8, resV, oneV, binA, unA, reduceCtorEq, Nat.reduceEqDiff, Nat.reduceAdd, Nat.reduceLT, Nat.reduceLeDiff, Nat.reduceMul, Nat.reduceSub, ↓reduceIte, decide_true, decide_false, Bool.true_eq_false, Bool.false_eq_true, Bool.not_true, Bool.not_false, if_true, if_false, and_true, true_and, memE, celE, w64, Nat.zero_add, Nat.add_zero, Nat.mul_one, putL, and_self, ldn, bld_p, stP_aggL, s1]
  generalize M5 ++ [(⟨.own, 26, procC ⟨xT, [], xS, xU, 1 + xH, xB⟩ (.slice none 0 0)⟩ : Blk)] = N0 at *
  generalize M5.length = bx at *
  clear s1 c5 k5
  refine callH_ac (pick_ac N0 cb id a5 l 5 b5.cur (by omega) (by omega) (by omega)) ?_
  rintro v N1 ⟨n0, rfl, hn0, hn1, w6, a6, ha6, k6⟩
  have b6 := b5.draw w6 k6
  clear b5 w6 k6
  simp (config := {implicitDefEqProofs := false, maxDischargeDepth := 20}) (disch := first | omega | (simp only [lenE]; done) | (simp only [lenE]; omega) | rfl | (simp only [lenE, markR_len]; done) | (simp only [lenE, markR_len]; omega)) only [runE, mapE, listE, initT_5, initT_6, initT_7, initT_8, resV, oneV, binA, unA, reduceCtorEq, Nat.reduceEqDiff, Nat.reduceAdd, Nat.reduceLT, Nat.reduceLeDiff, Nat.reduceMul, Nat.reduceSub, ↓reduceIte, decide_true, decide_false, Bool.true_eq_false, Bool.false_eq_true, Bool.not_true, Bool.not_false, if_true, if_false, and_true, true_and, memE, celE, w64, Nat.zero_add, Nat.add_zero, Nat.mul_one, putL, and_self, ldn]
  obtain ⟨N, hN, hN6⟩ : ∃ N : Nat, 1 + n0 = N ∧ N ≤ 5 := ⟨(1 + n0).toNat, by omega, by omega⟩
  rw [hN]
  refine loop_inv mixed (fun s => ∃ (M' : Mem) (r : Nat) (p : Pr) (u : Value) (a' k : Nat), s.m = M' ∧ PB M0 M' cb id a' bx r l p u ∧ p.w.length + k = N ∧ (∀ x ∈ p.w, 0 ≤ x ∧ x ≤ 3) ∧ a' + 2 * k ≤ a6 + 10 ∧ s.t 0 = .pointer (some ⟨id, 0, none⟩) ∧ s.t 2 = .pointer (some ⟨M.length, 0, none⟩) ∧ s.t 3 = .pointer (some ⟨bx, 0, none⟩) ∧ s.t 4 = .int .i64 k) (fun s => (intOf (s.t 4)).toNat)
    ⟨N1, 0, _, _, a6, N, rfl, b6, by simp, by simp, by omega, rfl, rfl, rfl, rfl⟩ ?_
  rintro s ⟨M', r, p, u, a', k, tm, d, hk, hw, hak, t0, t2, t3, t4⟩
  by_cases hlt : 0 < k
  · have hlt' : (0 : Int) < k := by omega
    have dx := d.ext (new := [rowB [1, 2, 1, 0, 3]]) (noRo_own noRo_nil)
    simp (config := {implicitDefEqProofs := false, maxDischargeDepth := 20}) (disch := first | omega | (simp only [lenE]; done) | (simp only [lenE]; omega) | rfl | (simp only [lenE, markR_len]; done) | (simp only [lenE, markR_len]; omega)) only [runE, mapE, listE, initT_5, initT_6, initT_7, initT_8, resV, oneV, binA, unA, reduceCtorEq, Nat.reduceEqDiff, Nat.reduceAdd, Nat.reduceLT, Nat.reduceLeDiff, Nat.reduceMul, Nat.reduceSub, ↓reduceIte, decide_true, decide_false, Bool.true_eq_false, Bool.false_eq_true, Bool.not_true, Bool.not_false, if_true, if_false, and_true, true_and, memE, celE, w64, Nat.zero_add, Nat.add_zero, Nat.mul_one, putL, and_self, ldn, tm, t0, t2, t3, t4, gt_iff_lt, hlt', bl_pW, d.rd, dx.rd]
    with_reducible refine ⟨?_, ?_, ?_⟩
    all_goals
      refine callH_ac (among_new M' cb id a' l [1, 2, 1, 0, 3] d.cur (by omega) rfl rfl (by simp) (by simp)) ?_
      rintro v M2 ⟨x, hx, rfl, w2, a2, ha2, k2⟩
      have d2 := d.draw w2 k2
      obtain ⟨M3, M4, ap, sp, d4⟩ := d2.app (by omega) x
      simp (config := {implicitDefEqProofs := false, maxDischargeDepth := 20}) (disch := first | omega | (simp only [lenE]; done) | (simp only [lenE]; omega) | rfl | (simp only [lenE, markR_len]; done) | (simp only [lenE, markR_len]; omega)) only [runE, mapE, listE, initT_5, initT_6, initT_7, initT_8, resV, oneV, binA, unA, reduceCtorEq, Nat.reduceEqDiff, Nat.reduceAdd, Nat.reduceLT, Nat.reduceLeDiff, Nat.reduceMul, Nat.reduceSub, ↓reduceIte, decide_true, decide_false, Bool.true_eq_false, Bool.false_eq_true, Bool.not_true, Bool.not_false, if_true, if_false, and_true, true_and, memE, celE, w64, Nat.zero_add, Nat.add_zero, Nat.mul_one, putL, and_self, ldn, tm, t0, t2, t3, t4, d2.rd, bl_w, ap, sp]
      refine ⟨⟨M4, _, _, _, a2, k - 1, rfl, d4, by simp; omega, fun y hy => ?_, by omega, by congr 1; omega⟩, by simp [intOf]; omega⟩
      rcases List.mem_append.1 hy with g | g
      · exact hw y g
      · rw [List.mem_singleton.1 g]
        simp at hx
        omega
  · have hlt' : ¬ ((0 : Int) < k) := by omega
    have e : k = 0 := by omega
    subst e
    have hwl : p.w.length ≤ 5 := by omega
    have hwp : 0 < p.w.length := by omega
    clear b6
    simp (config := {implicitDefEqProofs := false, maxDischargeDepth := 20}) (disch := first | omega | (simp only [lenE]; done) | (simp only [lenE]; omega) | rfl | (simp only [lenE, markR_len]; done) | (simp only [lenE, markR_len]; omega)) only [runE, mapE, listE, initT_5, initT_6, initT_7, initT_8, resV, oneV, binA, unA, reduceCtorEq, Nat.reduceEqDiff, Nat.reduceAdd, Nat.reduceLT, Nat.reduceLeDiff, Nat.reduceMul, Nat.reduceSub, ↓reduceIte, decide_true, decide_false, Bool.true_eq_false, Bool.false_eq_true, Bool.not_true, Bool.not_false, if_true, if_false, and_true, true_and, memE, celE, w64, Nat.zero_add, Nat.add_zero, Nat.mul_one, putL, and_self, ldn, tm, t0, t2, t3, t4, gt_iff_lt, hlt', d.rd]
    refine callH_rc (l2Sum_rc _ u p.w (d.gr.ints (by omega)) (fun k hk => by have := sumTo_bound (m := 3) (by omega) hw k; omega)) ?_
    rintro v new ⟨rfl, rfl⟩
    generalize sumTo p.w p.w.length = sm
    cases hs : (sm == 0) with
    | false =>
      simp (config := {implicitDefEqProofs := false, maxDischargeDepth := 20}) (disch := first | omega | (simp only [lenE]; done) | (simp only [lenE]; omega) | rfl | (simp only [lenE, markR_len]; done) | (simp only [lenE, markR_len]; omega)) only [runE, mapE, listE, initT_5, initT_6, initT_7, initT_8, resV, oneV, binA, unA, reduceCtorEq, Nat.reduceEqDiff, Nat.reduceAdd, Nat.reduceLT, Nat.reduceLeDiff, Nat.reduceMul, Nat.reduceSub, ↓reduceIte, decide_true, decide_false, Bool.true_eq_false, Bool.false_eq_true, Bool.not_true, Bool.not_false, if_true, if_false, and_true, true_and, memE, celE, w64, Nat.zero_add, Nat.add_zero, Nat.mul_one, putL, and_self, ldn, tm, t0, t2, t3, t4, hs]
      refine callH_ac (pick_ac M' cb id a' l 40 d.cur (by omega) (by omega) (by omega)) ?_
      rintro v M2 ⟨x, rfl, hx0, hx1, w2, a2, ha2, k2⟩
      have d2 := d.draw w2 k2
      clear w2 k2 d
      by_cases x0 : x = 0
      · have x0' : (x == 0) = true := by simp [x0]
        simp (config := {implicitDefEqProofs := false, maxDischargeDepth := 20}) (disch := first | omega | (simp only [lenE]; done) | (simp only [lenE]; omega) | rfl | (simp only [lenE, markR_len]; done) | (simp only [lenE, markR_len]; omega)) only [runE, mapE, listE, initT_5, initT_6, initT_7, initT_8, resV, oneV, binA, unA, reduceCtorEq, Nat.reduceEqDiff, Nat.reduceAdd, Nat.reduceLT, Nat.reduceLeDiff, Nat.reduceMul, Nat.reduceSub, ↓reduceIte, decide_true, decide_false, Bool.true_eq_false, Bool.false_eq_true, Bool.not_true, Bool.not_false, if_true, if_false, and_true, true_and, memE, celE, w64, Nat.zero_add, Nat.add_zero, Nat.mul_one, putL, and_self, ldn, tm, t0, t2, t3, t4, x0', bl_p0]
        refine callH_ac (among_new M2 cb id a2 l [-1, 6] d2.cur (by omega) rfl rfl (by simp) (by simp)) ?_
        rintro v M3 ⟨y, -, rfl, w3, a3, ha3, k3⟩
        have d3 := d2.draw w3 k3
        obtain ⟨s1, d4⟩ := d3.st 0 y { p with turns := y } (by omega) (by simp [putL]) rfl
        obtain ⟨M5, f1, f2, f3⟩ := fin6 (p := { p with turns := y }) hM0 hid hcb d4.cw d4.cur (d4.pl (by show p.w.length ≤ 1000; omega)) d4.gr.one'
        simp (config := {implicitDefEqProofs := false, maxDischargeDepth := 20}) (disch := first | omega | (simp only [lenE]; done) | (simp only [lenE]; omega) | rfl | (simp only [lenE, markR_len]; done) | (simp only [lenE, markR_len]; omega)) only [runE, mapE, listE, initT_5, initT_6, initT_7, initT_8, resV, oneV, binA, unA, reduceCtorEq, Nat.reduceEqDiff, Nat.reduceAdd, Nat.reduceLT, Nat.reduceLeDiff, Nat.reduceMul, Nat.reduceSub, ↓reduceIte, decide_true, decide_false, Bool.true_eq_false, Bool.false_eq_true, Bool.not_true, Bool.not_false, if_true, if_false, and_true, true_and, memE, celE, w64, Nat.zero_add, Nat.add_zero, Nat.mul_one, putL, and_self, ldn, tm, t0, t2, t3, t4, s1, d4.rd, f1, f2]
        exact ⟨{ p with turns := y }, _, a3, rfl, by omega, f3⟩
      · have x0' : (x == 0) = false := by simp [x0]
        by_cases x1 : x = 1
        · have x1' : (x == 1) = true := by simp [x1]
          have dx := d2.ext (new := [rowB [-1, 4, 5]]) (noRo_own noRo_nil)
          simp (config := {implicitDefEqProofs := false, maxDischargeDepth := 20}) (disch := first | omega | (simp only [lenE]; done) | (simp only [lenE]; omega) | rfl | (simp only [lenE, markR_len]; done) | (simp only [lenE, markR_len]; omega)) only [runE, mapE, listE, initT_5, initT_6, initT_7, initT_8, resV, oneV, binA, unA, reduceCtorEq, Nat.reduceEqDiff, Nat.reduceAdd, Nat.reduceLT, Nat.reduceLeDiff, Nat.reduceMul, Nat.reduceSub, ↓reduceIte, decide_true, decide_false, Bool.true_eq_false, Bool.false_eq_true, Bool.not_true, Bool.not_false, if_true, if_false, and_true, true_and, memE, celE, w64, Nat.zero_add, Nat.add_zero, Nat.mul_one, putL, and_self, ldn, tm, t0, t2, t3, t4, x0', x1', bl_p1, d2.rd, dx.rd]
          with_reducible refine ⟨?_, ?_, ?_⟩
          all_goals
            refine callH_ac (among_new M2 cb id a2 l [-1, 4, 5] d2.cur (by omega) rfl rfl (by simp) (by simp)) ?_
            rintro v M3 ⟨y, -, rfl, w3, a3, ha3, k3⟩
            have d3 := d2.draw w3 k3
            obtain ⟨M4, i0, s1, d4⟩ := d3.put (by omega) hwp y
            obtain ⟨M5, f1, f2, f3⟩ := fin6 (p := { p with w := p.w.set 0 y }) hM0 hid hcb d4.cw d4.cur (d4.pl (by simp; omega)) d4.gr.one'
            simp (config := {implicitDefEqProofs := false, maxDischargeDepth := 20}) (disch := first | omega | (simp only [lenE]; done) | (simp only [lenE]; omega) | rfl | (simp only [lenE, markR_len]; done) | (simp only [lenE, markR_len]; omega)) only [runE, mapE, listE, initT_5, initT_6, initT_7, initT_8, resV, oneV, binA, unA, reduceCtorEq, Nat.reduceEqDiff, Nat.reduceAdd, Nat.reduceLT, Nat.reduceLeDiff, Nat.reduceMul, Nat.reduceSub, ↓reduceIte, decide_true, decide_false, Bool.true_eq_false, Bool.false_eq_true, Bool.not_true, Bool.not_false, if_true, if_false, and_true, true_and, memE, celE, w64, Nat.zero_add, Nat.add_zero, Nat.mul_one, putL, and_self, ldn, tm, t0, t2, t3, t4, d3.rd, i0, s1, d4.rd, f1, f2]
            exact ⟨{ p with w := p.w.set 0 y }, _, a3, rfl, by omega, f3⟩
        · have x1' : (x == 1) = false := by simp [x1]
          by_cases x2 : x = 2
          · have x2' : (x == 2) = true := by simp [x2]
            simp (config := {implicitDefEqProofs := false, maxDischargeDepth := 20}) (disch := first | omega | (simp only [lenE]; done) | (simp only [lenE]; omega) | rfl | (simp only [lenE, markR_len]; done) | (simp only [lenE, markR_len]; omega)) only [runE, mapE, listE, initT_5, initT_6, initT_7, initT_8, resV, oneV, binA, unA, reduceCtorEq, Nat.reduceEqDiff, Nat.reduceAdd, Nat.reduceLT, Nat.reduceLeDiff, Nat.reduceMul, Nat.reduceSub, ↓reduceIte, decide_true, decide_false, Bool.true_eq_false, Bool.false_eq_true, Bool.not_true, Bool.not_false, if_true, if_false, and_true, true_and, memE, celE, w64, Nat.zero_add, Nat.add_zero, Nat.mul_one, putL, and_self, ldn, tm, t0, t2, t3, t4, x0', x1', x2', bl_p2]
            refine callH_ac (among_new M2 cb id a2 l [-1, 100] d2.cur (by omega) rfl rfl (by simp) (by simp)) ?_
            rintro v M3 ⟨y, -, rfl, w3, a3, ha3, k3⟩
            have d3 := d2.draw w3 k3
            obtain ⟨s1, d4⟩ := d3.st 2 y { p with setup := y } (by omega) (by simp [putL]) rfl
            obtain ⟨M5, f1, f2, f3⟩ := fin6 (p := { p with setup := y }) hM0 hid hcb d4.cw d4.cur (d4.pl (by show p.w.length ≤ 1000; omega)) d4.gr.one'
            simp (config := {implicitDefEqProofs := false, maxDischargeDepth := 20}) (disch := first | omega | (simp only [lenE]; done) | (simp only [lenE]; omega) | rfl | (simp only [lenE, markR_len]; done) | (simp only [lenE, markR_len]; omega)) only [runE, mapE, listE, initT_5, initT_6, initT_7, initT_8, resV, oneV, binA, unA, reduceCtorEq, Nat.reduceEqDiff, Nat.reduceAdd, Nat.reduceLT, Nat.reduceLeDiff, Nat.reduceMul, Nat.reduceSub, ↓reduceIte, decide_true, decide_false, Bool.true_eq_false, Bool.false_eq_true, Bool.not_true, Bool.not_false, if_true, if_false, and_true, true_and, memE, celE, w64, Nat.zero_add, Nat.add_zero, Nat.mul_one, putL, and_self, ldn, tm, t0, t2, t3, t4, s1, d4.rd, f1, f2]
            exact ⟨{ p with setup := y }, _, a3, rfl, by omega, f3⟩
          · have x2' : (x == 2) = false := by simp [x2]
            by_cases x3 : x = 3
            · have x3' : (x == 3) = true := by simp [x3]
              simp (config := {implicitDefEqProofs := false, maxDischargeDepth := 20}) (disch := first | omega | (simp only [lenE]; done) | (simp only [lenE]; omega) | rfl | (simp only [lenE, markR_len]; done) | (simp only [lenE, markR_len]; omega)) only [runE, mapE, listE, initT_5, initT_6, initT_7, initT_8, resV, oneV, binA, unA, reduceCtorEq, Nat.reduceEqDiff, Nat.reduceAdd, Nat.reduceLT, Nat.reduceLeDiff, Nat.reduceMul, Nat.reduceSub, ↓reduceIte, decide_true, decide_false, Bool.true_eq_false, Bool.false_eq_true, Bool.not_true, Bool.not_false, if_true, if_false, and_true, true_and, memE, celE, w64, Nat.zero_add, Nat.add_zero, Nat.mul_one, putL, and_self, ldn, tm, t0, t2, t3, t4, x0', x1', x2', x3', bl_p3]
              refine callH_ac (among_new M2 cb id a2 l [-1, 9, 10] d2.cur (by omega) rfl rfl (by simp) (by simp)) ?_
              rintro v M3 ⟨y, -, rfl, w3, a3, ha3, k3⟩
              have d3 := d2.draw w3 k3
              obtain ⟨s1, d4⟩ := d3.st 5 y { p with back := y } (by omega) (by simp [putL]) rfl
              obtain ⟨M5, f1, f2, f3⟩ := fin6 (p := { p with back := y }) hM0 hid hcb d4.cw d4.cur (d4.pl (by show p.w.length ≤ 1000; omega)) d4.gr.one'
              simp (config := {implicitDefEqProofs := false, maxDischargeDepth := 20}) (disch := first | omega | (simp only [lenE]; done) | (simp only [lenE]; omega) | rfl | (simp only [lenE, markR_len]; done) | (simp only [lenE, markR_len]; omega)) only [runE, mapE, listE, initT_5, initT_6, initT_7, initT_8, resV, oneV, binA, unA, reduceCtorEq, Nat.reduceEqDiff, Nat.reduceAdd, Nat.reduceLT, Nat.reduceLeDiff, Nat.reduceMul, Nat.reduceSub, ↓reduceIte, decide_true, decide_false, Bool.true_eq_false, Bool.false_eq_true, Bool.not_true, Bool.not_false, if_true, if_false, and_true, true_and, memE, celE, w64, Nat.zero_add, Nat.add_zero, Nat.mul_one, putL, and_self, ldn, tm, t0, t2, t3, t4, s1, d4.rd, f1, f2]
              exact ⟨{ p with back := y }, _, a3, rfl, by omega, f3⟩
            · have x3' : (x == 3) = false := by simp [x3]
              by_cases x4 : x = 4
              · have x4' : (x == 4) = true := by simp [x4]
                have d3 := d2.ext (new := [(⟨.own, 3, []⟩ : Blk)]) (noRo_own noRo_nil)
                have s1 : stA (M2 ++ [(⟨.own, 3, []⟩ : Blk)]) bx 1 [.slice (some ⟨M2.length, 0, none⟩) 0 1] = some ((M2 ++ [(⟨.own, 3, []⟩ : Blk)]).set bx ⟨.own, 26, procC { p with w := [] } (.slice (some ⟨M2.length, 0, none⟩) 0 1)⟩) := by
                  rw [d3.box.st (by simp) rfl]; simp [putL]
                have b3 := d3.box.set_self 26 (procC { p with w := [] } (.slice (some ⟨M2.length, 0, none⟩) 0 1))
                have hbl := d2.box.lt
                have g3 := d2.ge
                have q3 := d2.hid
                have q4 := d2.hcb
                obtain ⟨M5, f1, f2, f3⟩ := fin6 (p := { p with w := [] }) (u := .slice (some ⟨M2.length, 0, none⟩) 0 1) (M' := (M2 ++ [(⟨.own, 3, []⟩ : Blk)]).set bx ⟨.own, 26, procC { p with w := [] } (.slice (some ⟨M2.length, 0, none⟩) 0 1)⟩) hM0 hid hcb (d3.cw.put (by omega) (by simp)) (d3.cur.put (by omega) (by omega) _) (fun M3 h3 => by
                  have e := h3 M2.length (by have := d2.cw.len; omega) (by simp)
                  rw [List.getElem?_set_ne (by omega), List.getElem?_append_right (Nat.le_refl _), Nat.sub_self] at e
                  exact OwnR.ints (l := []) e (by simp) 1) rfl
                simp (config := {implicitDefEqProofs := false, maxDischargeDepth := 20}) (disch := first | omega | (simp only [lenE]; done) | (simp only [lenE]; omega) | rfl | (simp only [lenE, markR_len]; done) | (simp only [lenE, markR_len]; omega)) only [runE, mapE, listE, initT_5, initT_6, initT_7, initT_8, resV, oneV, binA, unA, reduceCtorEq, Nat.reduceEqDiff, Nat.reduceAdd, Nat.reduceLT, Nat.reduceLeDiff, Nat.reduceMul, Nat.reduceSub, ↓reduceIte, decide_true, decide_false, Bool.true_eq_false, Bool.false_eq_true, Bool.not_true, Bool.not_false, if_true, if_false, and_true, true_and, memE, celE, w64, Nat.zero_add, Nat.add_zero, Nat.mul_one, putL, and_self, ldn, tm, t0, t2, t3, t4, x0', x1', x2', x3', x4', bsl_no, s1, b3.rd, f1, f2]
                exact ⟨{ p with w := [] }, _, a2, rfl, by omega, f3⟩
              · have x4' : (x == 4) = false := by simp [x4]
                obtain ⟨M5, f1, f2, f3⟩ := fin6 (p := p) hM0 hid hcb d2.cw d2.cur (d2.pl (by omega)) d2.gr.one'
                simp (config := {implicitDefEqProofs := false, maxDischargeDepth := 20}) (disch := first | omega | (simp only [lenE]; done) | (simp only [lenE]; omega) | rfl | (simp only [lenE, markR_len]; done) | (simp only [lenE, markR_len]; omega)) only [runE, mapE, listE, initT_5, initT_6, initT_7, initT_8, resV, oneV, binA, unA, reduceCtorEq, Nat.reduceEqDiff, Nat.reduceAdd, Nat.reduceLT, Nat.reduceLeDiff, Nat.reduceMul, Nat.reduceSub, ↓reduceIte, decide_true, decide_false, Bool.true_eq_false, Bool.false_eq_true, Bool.not_true, Bool.not_false, if_true, if_false, and_true, true_and, memE, celE, w64, Nat.zero_add, Nat.add_zero, Nat.mul_one, putL, and_self, ldn, tm, t0, t2, t3, t4, x0', x1', x2', x3', x4', d2.rd, f1, f2]
                exact ⟨_, _, a2, rfl, by omega, f3⟩
    | true =>
      simp (config := {implicitDefEqProofs := false, maxDischargeDepth := 20}) (disch := first | omega | (simp only [lenE]; done) | (simp only [lenE]; omega) | rfl | (simp only [lenE, markR_len]; done) | (simp only [lenE, markR_len]; omega)) only [runE, mapE, listE, initT_5, initT_6, initT_7, initT_8, resV, oneV, binA, unA, reduceCtorEq, Nat.reduceEqDiff, Nat.reduceAdd, Nat.reduceLT, Nat.reduceLeDiff, Nat.reduceMul, Nat.reduceSub, ↓reduceIte, decide_true, decide_false, Bool.true_eq_false, Bool.false_eq_true, Bool.not_true, Bool.not_false, if_true, if_false, and_true, true_and, memE, celE, w64, Nat.zero_add, Nat.add_zero, Nat.mul_one, putL, and_self, ldn, tm, t0, t2, t3, t4, hs]
      refine callH_ac (one_ac M' cb id a' l 4 d.cur (by omega) (by omega) (by omega)) ?_
      rintro v M'' ⟨b, rfl, w2, a'', ha2, k2⟩
      have d := d.draw w2 k2
      obtain ⟨M', hM'⟩ : ∃ M', M' = M'' := ⟨_, rfl⟩
      obtain ⟨a', haa, ha3⟩ : ∃ a', a' = a'' ∧ a' ≤ a + 40 := ⟨a'', rfl, by omega⟩
      rw [← hM', ← haa] at d
      rw [← hM']
      cases b with
      | true =>
        simp (config := {implicitDefEqProofs := false, maxDischargeDepth := 20}) (disch := first | omega | (simp only [lenE]; done) | (simp only [lenE]; omega) | rfl | (simp only [lenE, markR_len]; done) | (simp only [lenE, markR_len]; omega)) only [runE, mapE, listE, initT_5, initT_6, initT_7, initT_8, resV, oneV, binA, unA, reduceCtorEq, Nat.reduceEqDiff, Nat.reduceAdd, Nat.reduceLT, Nat.reduceLeDiff, Nat.reduceMul, Nat.reduceSub, ↓reduceIte, decide_true, decide_false, Bool.true_eq_false, Bool.false_eq_true, Bool.not_true, Bool.not_false, if_true, if_false, and_true, true_and, memE, celE, w64, Nat.zero_add, Nat.add_zero, Nat.mul_one, putL, and_self, ldn, tm, t0, t2, t3, t4]
        refine callH_ac (pick_ac M' cb id a' l 40 d.cur (by omega) (by omega) (by omega)) ?_
        rintro v M2 ⟨x, rfl, hx0, hx1, w2, a2, ha2, k2⟩
        have d2 := d.draw w2 k2
        clear w2 k2 d
        by_cases x0 : x = 0
        · have x0' : (x == 0) = true := by simp [x0]
          simp (config := {implicitDefEqProofs := false, maxDischargeDepth := 20}) (disch := first | omega | (simp only [lenE]; done) | (simp only [lenE]; omega) | rfl | (simp only [lenE, markR_len]; done) | (simp only [lenE, markR_len]; omega)) only [runE, mapE, listE, initT_5, initT_6, initT_7, initT_8, resV, oneV, binA, unA, reduceCtorEq, Nat.reduceEqDiff, Nat.reduceAdd, Nat.reduceLT, Nat.reduceLeDiff, Nat.reduceMul, Nat.reduceSub, ↓reduceIte, decide_true, decide_false, Bool.true_eq_false, Bool.false_eq_true, Bool.not_true, Bool.not_false, if_true, if_false, and_true, true_and, memE, celE, w64, Nat.zero_add, Nat.add_zero, Nat.mul_one, putL, and_self, ldn, tm, t0, t2, t3, t4, x0', bl_p0]
          refine callH_ac (among_new M2 cb id a2 l [-1, 6] d2.cur (by omega) rfl rfl (by simp) (by simp)) ?_
          rintro v M3 ⟨y, -, rfl, w3, a3, ha3, k3⟩
          have d3 := d2.draw w3 k3
          obtain ⟨s1, d4⟩ := d3.st 0 y { p with turns := y } (by omega) (by simp [putL]) rfl
          obtain ⟨M5, f1, f2, f3⟩ := fin6 (p := { p with turns := y }) hM0 hid hcb d4.cw d4.cur (d4.pl (by show p.w.length ≤ 1000; omega)) d4.gr.one'
          simp (config := {implicitDefEqProofs := false, maxDischargeDepth := 20}) (disch := first | omega | (simp only [lenE]; done) | (simp only [lenE]; omega) | rfl | (simp only [lenE, markR_len]; done) | (simp only [lenE, markR_len]; omega)) only [runE, mapE, listE, initT_5, initT_6, initT_7, initT_8, resV, oneV, binA, unA, reduceCtorEq, Nat.reduceEqDiff, Nat.reduceAdd, Nat.reduceLT, Nat.reduceLeDiff, Nat.reduceMul, Nat.reduceSub, ↓reduceIte, decide_true, decide_false, Bool.true_eq_false, Bool.false_eq_true, Bool.not_true, Bool.not_false, if_true, if_false, and_true, true_and, memE, celE, w64, Nat.zero_add, Nat.add_zero, Nat.mul_one, putL, and_self, ldn, tm, t0, t2, t3, t4, s1, d4.rd, f1, f2]
          exact ⟨{ p with turns := y }, _, a3, rfl, by omega, f3⟩
        · have x0' : (x == 0) = false := by simp [x0]
          by_cases x1 : x = 1
          · have x1' : (x == 1) = true := by simp [x1]
            have dx := d2.ext (new := [rowB [-1, 4, 5]]) (noRo_own noRo_nil)
            simp (config := {implicitDefEqProofs := false, maxDischargeDepth := 20}) (disch := first | omega | (simp only [lenE]; done) | (simp only [lenE]; omega) | rfl | (simp only [lenE, markR_len]; done) | (simp only [lenE, markR_len]; omega)) only [runE, mapE, listE, initT_5, initT_6, initT_7, initT_8, resV, oneV, binA, unA, reduceCtorEq, Nat.reduceEqDiff, Nat.reduceAdd, Nat.reduceLT, Nat.reduceLeDiff, Nat.reduceMul, Nat.reduceSub, ↓reduceIte, decide_true, decide_false, Bool.true_eq_false, Bool.false_eq_true, Bool.not_true, Bool.not_false, if_true, if_false, and_true, true_and, memE, celE, w64, Nat.zero_add, Nat.add_zero, Nat.mul_one, putL, and_self, ldn, tm, t0, t2, t3, t4, x0', x1', bl_p1, d2.rd, dx.rd]
            with_reducible refine ⟨?_, ?_, ?_⟩
            all_goals
              refine callH_ac (among_new M2 cb id a2 l [-1, 4, 5] d2.cur (by omega) rfl rfl (by simp) (by simp)) ?_
              rintro v M3 ⟨y, -, rfl, w3, a3, ha3, k3⟩
              have d3 := d2.draw w3 k3
              obtain ⟨M4, i0, s1, d4⟩ := d3.put (by omega) hwp y
              obtain ⟨M5, f1, f2, f3⟩ := fin6 (p := { p with w := p.w.set 0 y }) hM0 hid hcb d4.cw d4.cur (d4.pl (by simp; omega)) d4.gr.one'
              simp (config := {implicitDefEqProofs := false, maxDischargeDepth := 20}) (disch := first | omega | (simp only [lenE]; done) | (simp only [lenE]; omega) | rfl | (simp only [lenE, markR_len]; done) | (simp only [lenE, markR_len]; omega)) only [runE, mapE, listE, initT_5, initT_6, initT_7, initT_8, resV, oneV, binA, unA, reduceCtorEq, Nat.reduceEqDiff, Nat.reduceAdd, Nat.reduceLT, Nat.reduceLeDiff, Nat.reduceMul, Nat.reduceSub, ↓reduceIte, decide_true, decide_false, Bool.true_eq_false, Bool.false_eq_true, Bool.not_true, Bool.not_false, if_true, if_false, and_true, true_and, memE, celE, w64, Nat.zero_add, Nat.add_zero, Nat.mul_one, putL, and_self, ldn, tm, t0, t2, t3, t4, d3.rd, i0, s1, d4.rd, f1, f2]
              exact ⟨{ p with w := p.w.set 0 y }, _, a3, rfl, by omega, f3⟩
          · have x1' : (x == 1) = false := by simp [x1]
            by_cases x2 : x = 2
            · have x2' : (x == 2) = true := by simp [x2]
              simp (config := {implicitDefEqProofs := false, maxDischargeDepth := 20}) (disch := first | omega | (simp only [lenE]; done) | (simp only [lenE]; omega) | rfl | (simp only [lenE, markR_len]; done) | (simp only [lenE, markR_len]; omega)) only [runE, mapE, listE, initT_5, initT_6, initT_7, initT_8, resV, oneV, binA, unA, reduceCtorEq, Nat.reduceEqDiff, Nat.reduceAdd, Nat.reduceLT, Nat.reduceLeDiff, Nat.reduceMul, Nat.reduceSub, ↓reduceIte, decide_true, decide_false, Bool.true_eq_false, Bool.false_eq_true, Bool.not_true, Bool.not_false, if_true, if_false, and_true, true_and, memE, celE, w64, Nat.zero_add, Nat.add_zero, Nat.mul_one, putL, and_self, ldn, tm, t0, t2, t3, t4, x0', x1', x2', bl_p2]
              refine callH_ac (among_new M2 cb id a2 l [-1, 100] d2.cur (by omega) rfl rfl (by simp) (by simp)) ?_
              rintro v M3 ⟨y, -, rfl, w3, a3, ha3, k3⟩
              have d3 := d2.draw w3 k3
              obtain ⟨s1, d4⟩ := d3.st 2 y { p with setup := y } (by omega) (by simp [putL]) rfl
              obtain ⟨M5, f1, f2, f3⟩ := fin6 (p := { p with setup := y }) hM0 hid hcb d4.cw d4.cur (d4.pl (by show p.w.length ≤ 1000; omega)) d4.gr.one'
              simp (config := {implicitDefEqProofs := false, maxDischargeDepth := 20}) (disch := first | omega | (simp only [lenE]; done) | (simp only [lenE]; omega) | rfl | (simp only [lenE, markR_len]; done) | (simp only [lenE, markR_len]; omega)) only [runE, mapE, listE, initT_5, initT_6, initT_7, initT_8, resV, oneV, binA, unA, reduceCtorEq, Nat.reduceEqDiff, Nat.reduceAdd, Nat.reduceLT, Nat.reduceLeDiff, Nat.reduceMul, Nat.reduceSub, ↓reduceIte, decide_true, decide_false, Bool.true_eq_false, Bool.false_eq_true, Bool.not_true, Bool.not_false, if_true, if_false, and_true, true_and, memE, celE, w64, Nat.zero_add, Nat.add_zero, Nat.mul_one, putL, and_self, ldn, tm, t0, t2, t3, t4, s1, d4.rd, f1, f2]
              exact ⟨{ p with setup := y }, _, a3, rfl, by omega, f3⟩
            · have x2' : (x == 2) = false := by simp [x2]
              by_cases x3 : x = 3
              · have x3' : (x == 3) = true := by simp [x3]
                simp (config := {implicitDefEqProofs := false, maxDischargeDepth := 20}) (disch := first | omega | (simp only [lenE]; done) | (simp only [lenE]; omega) | rfl | (simp only [lenE, markR_len]; done) | (simp only [lenE, markR_len]; omega)) only [runE, mapE, listE, initT_5, initT_6, initT_7, initT_8, resV, oneV, binA, unA, reduceCtorEq, Nat.reduceEqDiff, Nat.reduceAdd, Nat.reduceLT, Nat.reduceLeDiff, Nat.reduceMul, Nat.reduceSub, ↓reduceIte, decide_true, decide_false, Bool.true_eq_false, Bool.false_eq_true, Bool.not_true, Bool.not_false, if_true, if_false, and_true, true_and, memE, celE, w64, Nat.zero_add, Nat.add_zero, Nat.mul_one, putL, and_self, ldn, tm, t0, t2, t3, t4, x0', x1', x2', x3', bl_p3]
                refine callH_ac (among_new M2 cb id a2 l [-1, 9, 10] d2.cur (by omega) rfl rfl (by simp) (by simp)) ?_
                rintro v M3 ⟨y, -, rfl, w3, a3, ha3, k3⟩
                have d3 := d2.draw w3 k3
                obtain ⟨s1, d4⟩ := d3.st 5 y { p with back := y } (by omega) (by simp [putL]) rfl
                obtain ⟨M5, f1, f2, f3⟩ := fin6 (p := { p with back := y }) hM0 hid hcb d4.cw d4.cur (d4.pl (by show p.w.length ≤ 1000; omega)) d4.gr.one'
                simp (config := {implicitDefEqProofs := false, maxDischargeDepth := 20}) (disch := first | omega | (simp only [lenE]; done) | (simp only [lenE]; omega) | rfl | (simp only [lenE, markR_len]; done) | (simp only [lenE, markR_len]; omega)) only [runE, mapE, listE, initT_5, initT_6, initT_7, initT_8, resV, oneV, binA, unA, reduceCtorEq, Nat.reduceEqDiff, Nat.reduceAdd, Nat.reduceLT, Nat.reduceLeDiff, Nat.reduceMul, Nat.reduceSub, ↓reduceIte, decide_true, decide_false, Bool.true_eq_false, Bool.false_eq_true, Bool.not_true, Bool.not_false, if_true, if_false, and_true, true_and, memE, celE, w64, Nat.zero_add, Nat.add_zero, Nat.mul_one, putL, and_self, ldn, tm, t0, t2, t3, t4, s1, d4.rd, f1, f2]
                exact ⟨{ p with back := y }, _, a3, rfl, by omega, f3⟩
              · have x3' : (x == 3) = false := by simp [x3]
                by_cases x4 : x = 4
                · have x4' : (x == 4) = true := by simp [x4]
                  have d3 := d2.ext (new := [(⟨.own, 3, []⟩ : Blk)]) (noRo_own noRo_nil)
                  have s1 : stA (M2 ++ [(⟨.own, 3, []⟩ : Blk)]) bx 1 [.slice (some ⟨M2.length, 0, none⟩) 0 1] = some ((M2 ++ [(⟨.own, 3, []⟩ : Blk)]).set bx ⟨.own, 26, procC { p with w := [] } (.slice (some ⟨M2.length, 0, none⟩) 0 1)⟩) := by
                    rw [d3.box.st (by simp) rfl]; simp [putL]
                  have b3 := d3.box.set_self 26 (procC { p with w := [] } (.slice (some ⟨M2.length, 0, none⟩) 0 1))
                  have hbl := d2.box.lt
                  have g3 := d2.ge
                  have q3 := d2.hid
                  have q4 := d2.hcb
                  obtain ⟨M5, f1, f2, f3⟩ := fin6 (p := { p with w := [] }) (u := .slice (some ⟨M2.length, 0, none⟩) 0 1) (M' := (M2 ++ [(⟨.own, 3, []⟩ : Blk)]).set bx ⟨.own, 26, procC { p with w := [] } (.slice (some ⟨M2.length, 0, none⟩) 0 1)⟩) hM0 hid hcb (d3.cw.put (by omega) (by simp)) (d3.cur.put (by omega) (by omega) _) (fun M3 h3 => by
                    have e := h3 M2.length (by have := d2.cw.len; omega) (by simp)
                    rw [List.getElem?_set_ne (by omega), List.getElem?_append_right (Nat.le_refl _), Nat.sub_self] at e
                    exact OwnR.ints (l := []) e (by simp) 1) rfl
                  simp (config := {implicitDefEqProofs := false, maxDischargeDepth := 20}) (disch := first | omega | (simp only [lenE]; done) | (simp only [lenE]; omega) | rfl | (simp only [lenE, markR_len]; done) | (simp only [lenE, markR_len]; omega)) only [runE, mapE, listE, initT_5, initT_6, initT_7, initT_8, resV, oneV, binA, unA, reduceCtorEq, Nat.reduceEqDiff, Nat.reduceAdd, Nat.reduceLT, Nat.reduceLeDiff, Nat.reduceMul, Nat.reduceSub, ↓reduceIte, decide_true, decide_false, Bool.true_eq_false, Bool.false_eq_true, Bool.not_true, Bool.not_false, if_true, if_false, and_true, true_and, memE, celE, w64, Nat.zero_add, Nat.add_zero, Nat.mul_one, putL, and_self, ldn, tm, t0, t2, t3, t4, x0', x1', x2', x3', x4', bsl_no, s1, b3.rd, f1, f2]
                  exact ⟨{ p with w := [] }, _, a2, rfl, by omega, f3⟩
                · have x4' : (x == 4) = false := by simp [x4]
                  obtain ⟨M5, f1, f2, f3⟩ := fin6 (p := p) hM0 hid hcb d2.cw d2.cur (d2.pl (by omega)) d2.gr.one'
                  simp (config := {implicitDefEqProofs := false, maxDischargeDepth := 20}) (disch := first | omega | (simp only [lenE]; done) | (simp only [lenE]; omega) | rfl | (simp only [lenE, markR_len]; done) | (simp only [lenE, markR_len]; omega)) only [runE, mapE, listE, initT_5, initT_6, initT_7, initT_8, resV, oneV, binA, unA, reduceCtorEq, Nat.reduceEqDiff, Nat.reduceAdd, Nat.reduceLT, Nat.reduceLeDiff, Nat.reduceMul, Nat.reduceSub, ↓reduceIte, decide_true, decide_false, Bool.true_eq_false, Bool.false_eq_true, Bool.not_true, Bool.not_false, if_true, if_false, and_true, true_and, memE, celE, w64, Nat.zero_add, Nat.add_zero, Nat.mul_one, putL, and_self, ldn, tm, t0, t2, t3, t4, x0', x1', x2', x3', x4', d2.rd, f1, f2]
                  exact ⟨_, _, a2, rfl, by omega, f3⟩
      | false =>
        obtain ⟨Mq, i0, sp, dq⟩ := d.put (by omega) hwp 1
        simp (config := {implicitDefEqProofs := false, maxDischargeDepth := 20}) (disch := first | omega | (simp only [lenE]; done) | (simp only [lenE]; omega) | rfl | (simp only [lenE, markR_len]; done) | (simp only [lenE, markR_len]; omega)) only [runE, mapE, listE, initT_5, initT_6, initT_7, initT_8, resV, oneV, binA, unA, reduceCtorEq, Nat.reduceEqDiff, Nat.reduceAdd, Nat.reduceLT, Nat.reduceLeDiff, Nat.reduceMul, Nat.reduceSub, ↓reduceIte, decide_true, decide_false, Bool.true_eq_false, Bool.false_eq_true, Bool.not_true, Bool.not_false, if_true, if_false, and_true, true_and, memE, celE, w64, Nat.zero_add, Nat.add_zero, Nat.mul_one, putL, and_self, ldn, tm, t0, t2, t3, t4, d.rd, i0, sp]
        clear d
        have d := dq
        clear dq sp i0
        generalize hpp : ({ p with w := p.w.set 0 1 } : Pr) = p' at d
        clear hw hs
        have hwl : p'.w.length ≤ 5 := by rw [← hpp]; simpa using hwl
        have hwp : 0 < p'.w.length := by rw [← hpp]; simpa using hwp
        clear hpp
        obtain ⟨M', hM'⟩ : ∃ M', M' = Mq := ⟨_, rfl⟩
        rw [← hM'] at d
        rw [← hM']
        refine callH_ac (pick_ac M' cb id a' l 40 d.cur (by omega) (by omega) (by omega)) ?_
        rintro v M2 ⟨x, rfl, hx0, hx1, w2, a2, ha2, k2⟩
        have d2 := d.draw w2 k2
        clear w2 k2 d
        by_cases x0 : x = 0
        · have x0' : (x == 0) = true := by simp [x0]
          simp (config := {implicitDefEqProofs := false, maxDischargeDepth := 20}) (disch := first | omega | (simp only [lenE]; done) | (simp only [lenE]; omega) | rfl | (simp only [lenE, markR_len]; done) | (simp only [lenE, markR_len]; omega)) only [runE, mapE, listE, initT_5, initT_6, initT_7, initT_8, resV, oneV, binA, unA, reduceCtorEq, Nat.reduceEqDiff, Nat.reduceAdd, Nat.reduceLT, Nat.reduceLeDiff, Nat.reduceMul, Nat.reduceSub, ↓reduceIte, decide_true, decide_false, Bool.true_eq_false, Bool.false_eq_true, Bool.not_true, Bool.not_false, if_true, if_false, and_true, true_and, memE, celE, w64, Nat.zero_add, Nat.add_zero, Nat.mul_one, putL, and_self, ldn, tm, t0, t2, t3, t4, x0', bl_p0]
          refine callH_ac (among_new M2 cb id a2 l [-1, 6] d2.cur (by omega) rfl rfl (by simp) (by simp)) ?_
          rintro v M3 ⟨y, -, rfl, w3, a3, ha3, k3⟩
          have d3 := d2.draw w3 k3
          obtain ⟨s1, d4⟩ := d3.st 0 y { p' with turns := y } (by omega) (by simp [putL]) rfl
          obtain ⟨M5, f1, f2, f3⟩ := fin6 (p := { p' with turns := y }) hM0 hid hcb d4.cw d4.cur (d4.pl (by show p'.w.length ≤ 1000; omega)) d4.gr.one'
          simp (config := {implicitDefEqProofs := false, maxDischargeDepth := 20}) (disch := first | omega | (simp only [lenE]; done) | (simp only [lenE]; omega) | rfl | (simp only [lenE, markR_len]; done) | (simp only [lenE, markR_len]; omega)) only [runE, mapE, listE, initT_5, initT_6, initT_7, initT_8, resV, oneV, binA, unA, reduceCtorEq, Nat.reduceEqDiff, Nat.reduceAdd, Nat.reduceLT, Nat.reduceLeDiff, Nat.reduceMul, Nat.reduceSub, ↓reduceIte, decide_true, decide_false, Bool.true_eq_false, Bool.false_eq_true, Bool.not_true, Bool.not_false, if_true, if_false, and_true, true_and, memE, celE, w64, Nat.zero_add, Nat.add_zero, Nat.mul_one, putL, and_self, ldn, tm, t0, t2, t3, t4, s1, d4.rd, f1, f2]
          exact ⟨{ p' with turns := y }, _, a3, rfl, by omega, f3⟩
        · have x0' : (x == 0) = false := by simp [x0]
          by_cases x1 : x = 1
          · have x1' : (x == 1) = true := by simp [x1]
            have dx := d2.ext (new := [rowB [-1, 4, 5]]) (noRo_own noRo_nil)
            simp (config := {implicitDefEqProofs := false, maxDischargeDepth := 20}) (disch := first | omega | (simp only [lenE]; done) | (simp only [lenE]; omega) | rfl | (simp only [lenE, markR_len]; done) | (simp only [lenE, markR_len]; omega)) only [runE, mapE, listE, initT_5, initT_6, initT_7, initT_8, resV, oneV, binA, unA, reduceCtorEq, Nat.reduceEqDiff, Nat.reduceAdd, Nat.reduceLT, Nat.reduceLeDiff, Nat.reduceMul, Nat.reduceSub, ↓reduceIte, decide_true, decide_false, Bool.true_eq_false, Bool.false_eq_true, Bool.not_true, Bool.not_false, if_true, if_false, and_true, true_and, memE, celE, w64, Nat.zero_add, Nat.add_zero, Nat.mul_one, putL, and_self, ldn, tm, t0, t2, t3, t4, x0', x1', bl_p1, d2.rd, dx.rd]
            with_reducible refine ⟨?_, ?_, ?_⟩
            all_goals
              refine callH_ac (among_new M2 cb id a2 l [-1, 4, 5] d2.cur (by omega) rfl rfl (by simp) (by simp)) ?_
              rintro v M3 ⟨y, -, rfl, w3, a3, ha3, k3⟩
              have d3 := d2.draw w3 k3
              obtain ⟨M4, i0, s1, d4⟩ := d3.put (by omega) hwp y
              obtain ⟨M5, f1, f2, f3⟩ := fin6 (p := { p' with w := p'.w.set 0 y }) hM0 hid hcb d4.cw d4.cur (d4.pl (by simp; omega)) d4.gr.one'
              simp (config := {implicitDefEqProofs := false, maxDischargeDepth := 20}) (disch := first | omega | (simp only [lenE]; done) | (simp only [lenE]; omega) | rfl | (simp only [lenE, markR_len]; done) | (simp only [lenE, markR_len]; omega)) only [runE, mapE, listE, initT_5, initT_6, initT_7, initT_8, resV, oneV, binA, unA, reduceCtorEq, Nat.reduceEqDiff, Nat.reduceAdd, Nat.reduceLT, Nat.reduceLeDiff, Nat.reduceMul, Nat.reduceSub, ↓reduceIte, decide_true, decide_false, Bool.true_eq_false, Bool.false_eq_true, Bool.not_true, Bool.not_false, if_true, if_false, and_true, true_and, memE, celE, w64, Nat.zero_add, Nat.add_zero, Nat.mul_one, putL, and_self, ldn, tm, t0, t2, t3, t4, d3.rd, i0, s1, d4.rd, f1, f2]
              exact ⟨{ p' with w := p'.w.set 0 y }, _, a3, rfl, by omega, f3⟩
          · have x1' : (x == 1) = false := by simp [x1]
            by_cases x2 : x = 2
            · have x2' : (x == 2) = true := by simp [x2]
              simp (config := {implicitDefEqProofs := false, maxDischargeDepth := 20}) (disch := first | omega | (simp only [lenE]; done) | (simp only [lenE]; omega) | rfl | (simp only [lenE, markR_len]; done) | (simp only [lenE, markR_len]; omega)) only [runE, mapE, listE, initT_5, initT_6, initT_7, initT_8, resV, oneV, binA, unA, reduceCtorEq, Nat.reduceEqDiff, Nat.reduceAdd, Nat.reduceLT, Nat.reduceLeDiff, Nat.reduceMul, Nat.reduceSub, ↓reduceIte, decide_true, decide_false, Bool.true_eq_false, Bool.false_eq_true, Bool.not_true, Bool.not_false, if_true, if_false, and_true, true_and, memE, celE, w64, Nat.zero_add, Nat.add_zero, Nat.mul_one, putL, and_self, ldn, tm, t0, t2, t3, t4, x0', x1', x2', bl_p2]
              refine callH_ac (among_new M2 cb id a2 l [-1, 100] d2.cur (by omega) rfl rfl (by simp) (by simp)) ?_
              rintro v M3 ⟨y, -, rfl, w3, a3, ha3, k3⟩
              have d3 := d2.draw w3 k3
              obtain ⟨s1, d4⟩ := d3.st 2 y { p' with setup := y } (by omega) (by simp [putL]) rfl
              obtain ⟨M5, f1, f2, f3⟩ := fin6 (p := { p' with setup := y }) hM0 hid hcb d4.cw d4.cur (d4.pl (by show p'.w.length ≤ 1000; omega)) d4.gr.one'
              simp (config := {implicitDefEqProofs := false, maxDischargeDepth := 20}) (disch := first | omega | (simp only [lenE]; done) | (simp only [lenE]; omega) | rfl | (simp only [lenE, markR_len]; done) | (simp only [lenE, markR_len]; omega)) only [runE, mapE, listE, initT_5, initT_6, initT_7, initT_8, resV, oneV, binA, unA, reduceCtorEq, Nat.reduceEqDiff, Nat.reduceAdd, Nat.reduceLT, Nat.reduceLeDiff, Nat.reduceMul, Nat.reduceSub, ↓reduceIte, decide_true, decide_false, Bool.true_eq_false, Bool.false_eq_true, Bool.not_true, Bool.not_false, if_true, if_false, and_true, true_and, memE, celE, w64, Nat.zero_add, Nat.add_zero, Nat.mul_one, putL, and_self, ldn, tm, t0, t2, t3, t4, s1, d4.rd, f1, f2]
              exact ⟨{ p' with setup := y }, _, a3, rfl, by omega, f3⟩
            · have x2' : (x == 2) = false := by simp [x2]
              by_cases x3 : x = 3
              · have x3' : (x == 3) = true := by simp [x3]
                simp (config := {implicitDefEqProofs := false, maxDischargeDepth := 20}) (disch := first | omega | (simp only [lenE]; done) | (simp only [lenE]; omega) | rfl | (simp only [lenE, markR_len]; done) | (simp only [lenE, markR_len]; omega)) only [runE, mapE, listE, initT_5, initT_6, initT_7, initT_8, resV, oneV, binA, unA, reduceCtorEq, Nat.reduceEqDiff, Nat.reduceAdd, Nat.reduceLT, Nat.reduceLeDiff, Nat.reduceMul, Nat.reduceSub, ↓reduceIte, decide_true, decide_false, Bool.true_eq_false, Bool.false_eq_true, Bool.not_true, Bool.not_false, if_true, if_false, and_true, true_and, memE, celE, w64, Nat.zero_add, Nat.add_zero, Nat.mul_one, putL, and_self, ldn, tm, t0, t2, t3, t4, x0', x1', x2', x3', bl_p3]
                refine callH_ac (among_new M2 cb id a2 l [-1, 9, 10] d2.cur (by omega) rfl rfl (by simp) (by simp)) ?_
                rintro v M3 ⟨y, -, rfl, w3, a3, ha3, k3⟩
                have d3 := d2.draw w3 k3
                obtain ⟨s1, d4⟩ := d3.st 5 y { p' with back := y } (by omega) (by simp [putL]) rfl
                obtain ⟨M5, f1, f2, f3⟩ := fin6 (p := { p' with back := y }) hM0 hid hcb d4.cw d4.cur (d4.pl (by show p'.w.length ≤ 1000; omega)) d4.gr.one'
                simp (config := {implicitDefEqProofs := false, maxDischargeDepth := 20}) (disch := first | omega | (simp only [lenE]; done) | (simp only [lenE]; omega) | rfl | (simp only [lenE, markR_len]; done) | (simp only [lenE, markR_len]; omega)) only [runE, mapE, listE, initT_5, initT_6, initT_7, initT_8, resV, oneV, binA, unA, reduceCtorEq, Nat.reduceEqDiff, Nat.reduceAdd, Nat.reduceLT, Nat.reduceLeDiff, Nat.reduceMul, Nat.reduceSub, ↓reduceIte, decide_true, decide_false, Bool.true_eq_false, Bool.false_eq_true, Bool.not_true, Bool.not_false, if_true, if_false, and_true, true_and, memE, celE, w64, Nat.zero_add, Nat.add_zero, Nat.mul_one, putL, and_self, ldn, tm, t0, t2, t3, t4, s1, d4.rd, f1, f2]
                exact ⟨{ p' with back := y }, _, a3, rfl, by omega, f3⟩
              · have x3' : (x == 3) = false := by simp [x3]
                by_cases x4 : x = 4
                · have x4' : (x == 4) = true := by simp [x4]
                  have d3 := d2.ext (new := [(⟨.own, 3, []⟩ : Blk)]) (noRo_own noRo_nil)
                  have s1 : stA (M2 ++ [(⟨.own, 3, []⟩ : Blk)]) bx 1 [.slice (some ⟨M2.length, 0, none⟩) 0 1] = some ((M2 ++ [(⟨.own, 3, []⟩ : Blk)]).set bx ⟨.own, 26, procC { p' with w := [] } (.slice (some ⟨M2.length, 0, none⟩) 0 1)⟩) := by
                    rw [d3.box.st (by simp) rfl]; simp [putL]
                  have b3 := d3.box.set_self 26 (procC { p' with w := [] } (.slice (some ⟨M2.length, 0, none⟩) 0 1))
                  have hbl := d2.box.lt
                  have g3 := d2.ge
                  have q3 := d2.hid
                  have q4 := d2.hcb
                  obtain ⟨M5, f1, f2, f3⟩ := fin6 (p := { p' with w := [] }) (u := .slice (some ⟨M2.length, 0, none⟩) 0 1) (M' := (M2 ++ [(⟨.own, 3, []⟩ : Blk)]).set bx ⟨.own, 26, procC { p' with w := [] } (.slice (some ⟨M2.length, 0, none⟩) 0 1)⟩) hM0 hid hcb (d3.cw.put (by omega) (by simp)) (d3.cur.put (by omega) (by omega) _) (fun M3 h3 => by
                    have e := h3 M2.length (by have := d2.cw.len; omega) (by simp)
                    rw [List.getElem?_set_ne (by omega), List.getElem?_append_right (Nat.le_refl _), Nat.sub_self] at e
                    exact OwnR.ints (l := []) e (by simp) 1) rfl
                  simp (config := {implicitDefEqProofs := false, maxDischargeDepth := 20}) (disch := first | omega | (simp only [lenE]; done) | (simp only [lenE]; omega) | rfl | (simp only [lenE, markR_len]; done) | (simp only [lenE, markR_len]; omega)) only [runE, mapE, listE, initT_5, initT_6, initT_7, initT_8, resV, oneV, binA, unA, reduceCtorEq, Nat.reduceEqDiff, Nat.reduceAdd, Nat.reduceLT, Nat.reduceLeDiff, Nat.reduceMul, Nat.reduceSub, ↓reduceIte, decide_true, decide_false, Bool.true_eq_false, Bool.false_eq_true, Bool.not_true, Bool.not_false, if_true, if_false, and_true, true_and, memE, celE, w64, Nat.zero_add, Nat.add_zero, Nat.mul_one, putL, and_self, ldn, tm, t0, t2, t3, t4, x0', x1', x2', x3', x4', bsl_no, s1, b3.rd, f1, f2]
                  exact ⟨{ p' with w := [] }, _, a2, rfl, by omega, f3⟩
                · have x4' : (x == 4) = false := by simp [x4]
                  obtain ⟨M5, f1, f2, f3⟩ := fin6 (p := p') hM0 hid hcb d2.cw d2.cur (d2.pl (by omega)) d2.gr.one'
                  simp (config := {implicitDefEqProofs := false, maxDischargeDepth := 20}) (disch := first | omega | (simp only [lenE]; done) | (simp only [lenE]; omega) | rfl | (simp only [lenE, markR_len]; done) | (simp only [lenE, markR_len]; omega)) only [runE, mapE, listE, initT_5, initT_6, initT_7, initT_8, resV, oneV, binA, unA, reduceCtorEq, Nat.reduceEqDiff, Nat.reduceAdd, Nat.reduceLT, Nat.reduceLeDiff, Nat.reduceMul, Nat.reduceSub, ↓reduceIte, decide_true, decide_false, Bool.true_eq_false, Bool.false_eq_true, Bool.not_true, Bool.not_false, if_true, if_false, and_true, true_and, memE, celE, w64, Nat.zero_add, Nat.add_zero, Nat.mul_one, putL, and_self, ldn, tm, t0, t2, t3, t4, x0', x1', x2', x3', x4', d2.rd, f1, f2]
                  exact ⟨_, _, a2, rfl, by omega, f3⟩

end Go.Proofs.Ytckpfgkgigicpaa.Ab
end
section
namespace Go.Proofs.Ytckpfgkgigicpaa.Ab
open Go Go.RowKit
set_option linter.unusedVariables false
set_option linter.unusedSimpArgs false
theorem ext_of {m M' : Mem} (hl : m.length ≤ M'.length) (old : ∀ i, i < m.length → M'[i]? = (roM m)[i]?) (new : ∀ (i : Nat) (b : Blk), m.length ≤ i → M'[i]? = some b → b.kd ≠ .ro) : Ext m M' := by
  have e : M' = roM m ++ M'.drop m.length := by
    apply List.ext_getElem?
    intro i
    by_cases hi : i < m.length
    · rw [List.getElem?_append_left (by rw [roM_len]; exact hi), old i hi]
    · rw [List.getElem?_append_right (by rw [roM_len]; omega), List.getElem?_drop, roM_len, Nat.add_sub_cancel' (by omega)]
  refine ⟨M'.drop m.length, e, fun c hc => ?_⟩
  obtain ⟨j, hj, rfl⟩ := List.getElem_of_mem hc
  have hg : M'[m.length + j]? = some (M'.drop m.length)[j] := by
    rw [← List.getElem?_drop, List.getElem?_eq_getElem hj]
  exact new (m.length + j) _ (by omega) hg
theorem Cw.noRo {id : Nat} {A B : Mem} {lo : Nat} (h : Cw id A B) (hA : ∀ (i : Nat) (b : Blk), lo ≤ i → A[i]? = some b → b.kd ≠ .ro) {cb a : Nat} {l : List Int} (k : CurA B cb l id a) : ∀ (i : Nat) (b : Blk), lo ≤ i → B[i]? = some b → b.kd ≠ .ro := fun i b hi hb => by
  by_cases e : i = id
  · subst e
    obtain ⟨s, h2⟩ := k.box
    rw [h2] at hb
    cases hb
    simp
  · by_cases hl : i < A.length
    · rw [h.old i e hl] at hb; exact hA i b hi hb
    · exact h.new i b (by omega) hb
theorem PL.up {lo : Nat} {M M' : Mem} {u : Value} {w : List Int} (h : PL lo M u w) (hl : M.length ≤ M'.length) (hs : ∀ i, lo ≤ i → i < M.length → M'[i]? = M[i]?) : PL lo M' u w := fun M3 h3 =>
  h M3 fun i a b => (h3 i a (by omega)).trans (hs i a b)
theorem PL.lower {lo lo' : Nat} {M : Mem} {u : Value} {w : List Int} (h : PL lo M u w) (hl : lo' ≤ lo) : PL lo' M u w := fun M3 h3 => h M3 fun i a b => h3 i (by omega) b
theorem QL.up {lo : Nat} {M M' : Mem} {v : Value} {L : List (Int × Int)} (h : QL lo M v L) (hl : M.length ≤ M'.length) (hs : ∀ i, lo ≤ i → i < M.length → M'[i]? = M[i]?) : QL lo M' v L := fun M3 h3 =>
  h M3 fun i a b => (h3 i a (by omega)).trans (hs i a b)
theorem QL.lower {lo lo' : Nat} {M : Mem} {v : Value} {L : List (Int × Int)} (h : QL lo M v L) (hl : lo' ≤ lo) : QL lo' M v L := fun M3 h3 => h M3 fun i a b => h3 i (by omega) b
theorem ones_proc {M : Mem} {p : Pr} {u : Value} (h : IntsA M u p.w) : onesB (procC p u) = true := by
  have e : u.oneCell' = true := by simpa [onesB] using h.one []
  simp only [onesB, procC, List.all_cons, List.all_nil, Bool.and_true, e]
  rfl
theorem rBig_rc (m : Mem) (cb fl : Nat) (n : Nat) : RC Try.prog 4 [.slice (some ⟨cb, 0, none⟩) n fl] m fun r new => r = .bool (decide (65536 < n)) ∧ new = [] := by
  refine rc_of_run mixed ok_laws_rBig (by simp) (go_start _ _ _ ?_)
  simp (config := {implicitDefEqProofs := false, maxDischargeDepth := 20}) (disch := first | omega | (simp only [lenE]; done) | (simp only [lenE]; omega) | rfl | (simp only [lenE, markR_len]; done) | (simp only [lenE, markR_len]; omega)) only [runE, mapE, listE, initT_5, initT_6, initT_7, initT_8, resV, oneV, binA, unA, reduceCtorEq, Nat.reduceEqDiff, Nat.reduceAdd, Nat.reduceLT, Nat.reduceLeDiff, Nat.reduceMul, Nat.reduceSub, ↓reduceIte, decide_true, decide_false, Bool.true_eq_false, Bool.false_eq_true, Bool.not_true, Bool.not_false, if_true, if_false, and_true, true_and, memE, celE, w64, Nat.zero_add, Nat.add_zero, Nat.mul_one, putL, and_self, ldn, c_laws_rBig, r_laws_rBig, gt_iff_lt]
  refine newQ_nil ⟨?_, rfl⟩
  congr 1
  rw [decide_eq_decide]
  omega
theorem rInts_rc (m : Mem) (v u : Value) (l : List Int) (h : IntsA m v l) (h' : IntsA m u l) : RC Try.prog 10 [v, u] m fun r new => r = .bool true ∧ new = [] := by
  refine rc_of_run mixed ok_laws_rInts (by simp) (go_start _ _ _ ?_)
  obtain ⟨e1, e2, e3, e4, -⟩ := h.ro
  obtain ⟨d1, d2, d3, d4, -⟩ := h'.ro
  simp (config := {implicitDefEqProofs := false, maxDischargeDepth := 20}) (disch := first | omega | (simp only [lenE]; done) | (simp only [lenE]; omega) | rfl | (simp only [lenE, markR_len]; done) | (simp only [lenE, markR_len]; omega)) only [runE, mapE, listE, initT_5, initT_6, initT_7, initT_8, resV, oneV, binA, unA, reduceCtorEq, Nat.reduceEqDiff, Nat.reduceAdd, Nat.reduceLT, Nat.reduceLeDiff, Nat.reduceMul, Nat.reduceSub, ↓reduceIte, decide_true, decide_false, Bool.true_eq_false, Bool.false_eq_true, Bool.not_true, Bool.not_false, if_true, if_false, and_true, true_and, memE, celE, w64, Nat.zero_add, Nat.add_zero, Nat.mul_one, putL, and_self, ldn, c_laws_rInts, r_laws_rInts, e1, d1, bne_self_eq_false]
  refine loop_inv mixed (fun s => ∃ k : Nat, k ≤ l.length ∧ s.t 0 = v ∧ s.t 1 = u ∧ s.t 5 = .int .i64 k ∧ s.m = roM m) (fun s => l.length - (intOf (s.t 5)).toNat) ⟨0, by omega, rfl, rfl, rfl, rfl⟩ ?_
  rintro s ⟨k, hk, t0, t1, t5, tm⟩
  by_cases hlt : k < l.length
  · have hlt' : (k : Int) < l.length := by omega
    simp (config := {implicitDefEqProofs := false, maxDischargeDepth := 20}) (disch := first | omega | (simp only [lenE]; done) | (simp only [lenE]; omega) | rfl | (simp only [lenE, markR_len]; done) | (simp only [lenE, markR_len]; omega)) only [runE, mapE, listE, initT_5, initT_6, initT_7, initT_8, resV, oneV, binA, unA, reduceCtorEq, Nat.reduceEqDiff, Nat.reduceAdd, Nat.reduceLT, Nat.reduceLeDiff, Nat.reduceMul, Nat.reduceSub, ↓reduceIte, decide_true, decide_false, Bool.true_eq_false, Bool.false_eq_true, Bool.not_true, Bool.not_false, if_true, if_false, and_true, true_and, memE, celE, w64, Nat.zero_add, Nat.add_zero, Nat.mul_one, putL, and_self, ldn, t0, t1, t5, tm, e1, e3 k hlt, e4 k hlt, d3 k hlt, d4 k hlt, hlt', bne_self_eq_false]
    exact ⟨⟨k + 1, by omega, by simp⟩, by simp [intOf]; omega⟩
  · have hlt' : ¬ ((k : Int) < l.length) := by omega
    simp (config := {implicitDefEqProofs := false, maxDischargeDepth := 20}) (disch := first | omega | (simp only [lenE]; done) | (simp only [lenE]; omega) | rfl | (simp only [lenE, markR_len]; done) | (simp only [lenE, markR_len]; omega)) only [runE, mapE, listE, initT_5, initT_6, initT_7, initT_8, resV, oneV, binA, unA, reduceCtorEq, Nat.reduceEqDiff, Nat.reduceAdd, Nat.reduceLT, Nat.reduceLeDiff, Nat.reduceMul, Nat.reduceSub, ↓reduceIte, decide_true, decide_false, Bool.true_eq_false, Bool.false_eq_true, Bool.not_true, Bool.not_false, if_true, if_false, and_true, true_and, memE, celE, w64, Nat.zero_add, Nat.add_zero, Nat.mul_one, putL, and_self, ldn, t0, t1, t5, tm, e1, hlt']
    exact newQ_nil ⟨rfl, rfl⟩
theorem rTable_rc (m : Mem) (v u : Value) (T : List (List Int)) (h : TabA m v T) (h' : TabA m u T) : RC Try.prog 19 [v, u] m (AnsV (.bool true)) := by
  refine rc_of_run mixed ok_laws_rTable (by simp) (go_start _ _ _ ?_)
  have hr := h.ro
  have hr' := h'.ro
  have hb := hr.bd
  simp (config := {implicitDefEqProofs := false, maxDischargeDepth := 20}) (disch := first | omega | (simp only [lenE]; done) | (simp only [lenE]; omega) | rfl | (simp only [lenE, markR_len]; done) | (simp only [lenE, markR_len]; omega)) only [runE, mapE, listE, initT_5, initT_6, initT_7, initT_8, resV, oneV, binA, unA, reduceCtorEq, Nat.reduceEqDiff, Nat.reduceAdd, Nat.reduceLT, Nat.reduceLeDiff, Nat.reduceMul, Nat.reduceSub, ↓reduceIte, decide_true, decide_false, Bool.true_eq_false, Bool.false_eq_true, Bool.not_true, Bool.not_false, if_true, if_false, and_true, true_and, memE, celE, w64, Nat.zero_add, Nat.add_zero, Nat.mul_one, putL, and_self, ldn, c_laws_rTable, r_laws_rTable, hr.len, hr'.len, bne_self_eq_false]
  refine loop_inv mixed (fun s => ∃ (k : Nat), k ≤ T.length ∧ s.m = roM m ∧ s.t 0 = v ∧ s.t 1 = u ∧ s.t 5 = .int .i64 k) (fun s => T.length - (intOf (s.t 5)).toNat)
    ⟨0, by omega, rfl, rfl, rfl, rfl⟩ ?_
  rintro s ⟨k, hk, tm, t0, t1, t5⟩
  by_cases hlt : k < T.length
  · have hlt' : (k : Int) < T.length := by omega
    obtain ⟨x, hx, hl⟩ := hr.ld k hlt
    obtain ⟨y, hy, hl'⟩ := hr'.ld k hlt
    simp (config := {implicitDefEqProofs := false, maxDischargeDepth := 20}) (disch := first | omega | (simp only [lenE]; done) | (simp only [lenE]; omega) | rfl | (simp only [lenE, markR_len]; done) | (simp only [lenE, markR_len]; omega)) only [runE, mapE, listE, initT_5, initT_6, initT_7, initT_8, resV, oneV, binA, unA, reduceCtorEq, Nat.reduceEqDiff, Nat.reduceAdd, Nat.reduceLT, Nat.reduceLeDiff, Nat.reduceMul, Nat.reduceSub, ↓reduceIte, decide_true, decide_false, Bool.true_eq_false, Bool.false_eq_true, Bool.not_true, Bool.not_false, if_true, if_false, and_true, true_and, memE, celE, w64, Nat.zero_add, Nat.add_zero, Nat.mul_one, putL, and_self, ldn, tm, t0, t1, t5, hlt', hr.len, hr.at_ k hlt, hr'.at_ k hlt, hx, hy]
    refine rcallH_rc (rInts_rc _ x y _ hl hl') ?_
    rintro r new ⟨rfl, rfl⟩
    simp (config := {implicitDefEqProofs := false, maxDischargeDepth := 20}) (disch := first | omega | (simp only [lenE]; done) | (simp only [lenE]; omega) | rfl | (simp only [lenE, markR_len]; done) | (simp only [lenE, markR_len]; omega)) only [runE, mapE, listE, initT_5, initT_6, initT_7, initT_8, resV, oneV, binA, unA, reduceCtorEq, Nat.reduceEqDiff, Nat.reduceAdd, Nat.reduceLT, Nat.reduceLeDiff, Nat.reduceMul, Nat.reduceSub, ↓reduceIte, decide_true, decide_false, Bool.true_eq_false, Bool.false_eq_true, Bool.not_true, Bool.not_false, if_true, if_false, and_true, true_and, memE, celE, w64, Nat.zero_add, Nat.add_zero, Nat.mul_one, putL, and_self, ldn, tm, t0, t1, t5]
    refine ⟨⟨k + 1, by omega, by simp⟩, ?_⟩
    simp [intOf]; omega
  · have hlt' : ¬ ((k : Int) < T.length) := by omega
    simp (config := {implicitDefEqProofs := false, maxDischargeDepth := 20}) (disch := first | omega | (simp only [lenE]; done) | (simp only [lenE]; omega) | rfl | (simp only [lenE, markR_len]; done) | (simp only [lenE, markR_len]; omega)) only [runE, mapE, listE, initT_5, initT_6, initT_7, initT_8, resV, oneV, binA, unA, reduceCtorEq, Nat.reduceEqDiff, Nat.reduceAdd, Nat.reduceLT, Nat.reduceLeDiff, Nat.reduceMul, Nat.reduceSub, ↓reduceIte, decide_true, decide_false, Bool.true_eq_false, Bool.false_eq_true, Bool.not_true, Bool.not_false, if_true, if_false, and_true, true_and, memE, celE, w64, Nat.zero_add, Nat.add_zero, Nat.mul_one, putL, and_self, ldn, tm, t0, t1, t5, hlt', hr.len]
    exact newQ_nil ⟨rfl, noRo_nil⟩
theorem ae2 (a b : Int) : aeqA true 2 (.agg #[.int .i64 a, .int .i64 b]) (.agg #[.int .i64 a, .int .i64 b]) = some (.bool false) := by
  simp [aeqA, intsEq]
theorem rPairs_rc (m : Mem) (v u : Value) (L : List (Int × Int)) (h : PairsA m v L) (h' : PairsA m u L) : RC Try.prog 22 [v, u] m (AnsV (.bool true)) := by
  refine rc_of_run mixed ok_laws_rPairs (by simp) (go_start _ _ _ ?_)
  obtain ⟨hb, id, fl, rfl, hc⟩ := h.ro
  obtain ⟨-, id', fl', rfl, hc'⟩ := h'.ro
  simp (config := {implicitDefEqProofs := false, maxDischargeDepth := 20}) (disch := first | omega | (simp only [lenE]; done) | (simp only [lenE]; omega) | rfl | (simp only [lenE, markR_len]; done) | (simp only [lenE, markR_len]; omega)) only [runE, mapE, listE, initT_5, initT_6, initT_7, initT_8, resV, oneV, binA, unA, reduceCtorEq, Nat.reduceEqDiff, Nat.reduceAdd, Nat.reduceLT, Nat.reduceLeDiff, Nat.reduceMul, Nat.reduceSub, ↓reduceIte, decide_true, decide_false, Bool.true_eq_false, Bool.false_eq_true, Bool.not_true, Bool.not_false, if_true, if_false, and_true, true_and, memE, celE, w64, Nat.zero_add, Nat.add_zero, Nat.mul_one, putL, and_self, ldn, c_laws_rPairs, r_laws_rPairs, bne_self_eq_false]
  refine loop_inv mixed (fun s => ∃ (k : Nat), k ≤ L.length ∧ s.m = roM m ∧ s.t 0 = .slice (some ⟨id, 0, none⟩) L.length fl ∧ s.t 1 = .slice (some ⟨id', 0, none⟩) L.length fl' ∧ s.t 5 = .int .i64 k) (fun s => L.length - (intOf (s.t 5)).toNat)
    ⟨0, by omega, rfl, rfl, rfl, rfl⟩ ?_
  rintro s ⟨k, hk, tm, t0, t1, t5⟩
  by_cases hlt : k < L.length
  · have hlt' : (k : Int) < L.length := by omega
    simp (config := {implicitDefEqProofs := false, maxDischargeDepth := 20}) (disch := first | omega | (simp only [lenE]; done) | (simp only [lenE]; omega) | rfl | (simp only [lenE, markR_len]; done) | (simp only [lenE, markR_len]; omega)) only [runE, mapE, listE, initT_5, initT_6, initT_7, initT_8, resV, oneV, binA, unA, reduceCtorEq, Nat.reduceEqDiff, Nat.reduceAdd, Nat.reduceLT, Nat.reduceLeDiff, Nat.reduceMul, Nat.reduceSub, ↓reduceIte, decide_true, decide_false, Bool.true_eq_false, Bool.false_eq_true, Bool.not_true, Bool.not_false, if_true, if_false, and_true, true_and, memE, celE, w64, Nat.zero_add, Nat.add_zero, Nat.mul_one, putL, and_self, ldn, tm, t0, t1, t5, hlt', iadA_in hlt, (hc k hlt).1, (hc k hlt).2, (hc' k hlt).1, (hc' k hlt).2, ae2]
    refine ⟨⟨k + 1, by omega, by simp⟩, ?_⟩
    simp [intOf]; omega
  · have hlt' : ¬ ((k : Int) < L.length) := by omega
    simp (config := {implicitDefEqProofs := false, maxDischargeDepth := 20}) (disch := first | omega | (simp only [lenE]; done) | (simp only [lenE]; omega) | rfl | (simp only [lenE, markR_len]; done) | (simp only [lenE, markR_len]; omega)) only [runE, mapE, listE, initT_5, initT_6, initT_7, initT_8, resV, oneV, binA, unA, reduceCtorEq, Nat.reduceEqDiff, Nat.reduceAdd, Nat.reduceLT, Nat.reduceLeDiff, Nat.reduceMul, Nat.reduceSub, ↓reduceIte, decide_true, decide_false, Bool.true_eq_false, Bool.false_eq_true, Bool.not_true, Bool.not_false, if_true, if_false, and_true, true_and, memE, celE, w64, Nat.zero_add, Nat.add_zero, Nat.mul_one, putL, and_self, ldn, tm, t0, t1, t5, hlt']
    exact newQ_nil ⟨rfl, noRo_nil⟩
end Go.Proofs.Ytckpfgkgigicpaa.Ab
end
section
namespace Go.Proofs.Ytckpfgkgigicpaa.Ab
open Go Go.RowKit
set_option linter.unusedVariables false
set_option linter.unusedSimpArgs false
theorem bl_lev (m : Mem) : bslA m 3 1 12 [.int .i64 0, .int .i64 0, .int .i64 0, .int .i64 0, .int .i64 0, .int .i64 0, .int .i64 0, .int .i64 0, .int .i64 0, .int .i64 0, .int .i64 0, .int .i64 0] [(0, 1, .int .i64 0), (1, 1, .int .i64 1), (2, 1, .int .i64 (-1)), (3, 1, .int .i64 3), (4, 1, .int .i64 (-3)), (5, 1, .int .i64 5), (6, 1, .int .i64 (-8)), (7, 1, .int .i64 10), (8, 1, .int .i64 (-10)), (9, 1, .int .i64 7), (10, 1, .int .i64 11), (11, 1, .int .i64 (-11))] = some (.slice (some ⟨m.length, 0, none⟩) 12 1, m ++ [rowB [0, 1, -1, 3, -3, 5, -8, 10, -10, 7, 11, -11]]) := rfl
theorem level_ac (M : Mem) (cb id a : Nat) (l : List Int) (h : CurA M cb l id a) (ha : a ≤ 999999000) :
    AC Try.prog 25 [.pointer (some ⟨id, 0, none⟩)] M fun v M' => ∃ (x : Int) (a' : Nat), v = .int .i64 x ∧ a' ≤ a + 2 ∧ Cw id M M' ∧ CurA M' cb l id a' := by
  refine ac_of_run mixed ok_spec_l1Cur__level (by simp) (go_start _ _ _ ?_)
  simp (config := {implicitDefEqProofs := false, maxDischargeDepth := 20}) (disch := first | omega | (simp only [lenE]; done) | (simp only [lenE]; omega) | rfl | (simp only [lenE, markR_len]; done) | (simp only [lenE, markR_len]; omega)) only [runE, mapE, listE, initT_5, initT_6, initT_7, initT_8, resV, oneV, binA, unA, reduceCtorEq, Nat.reduceEqDiff, Nat.reduceAdd, Nat.reduceLT, Nat.reduceLeDiff, Nat.reduceMul, Nat.reduceSub, ↓reduceIte, decide_true, decide_false, Bool.true_eq_false, Bool.false_eq_true, Bool.not_true, Bool.not_false, if_true, if_false, and_true, true_and, memE, celE, w64, Nat.zero_add, Nat.add_zero, Nat.mul_one, putL, and_self, ldn, c_spec_l1Cur__level, r_spec_l1Cur__level, bl_lev]
  refine callH_ac (among_new M cb id a l [0, 1, -1, 3, -3, 5, -8, 10, -10, 7, 11, -11] h (by omega) rfl rfl (by simp) (by simp)) ?_
  rintro v M2 ⟨x, -, rfl, w2, a2, ha2, k2⟩
  simp (config := {implicitDefEqProofs := false, maxDischargeDepth := 20}) (disch := first | omega | (simp only [lenE]; done) | (simp only [lenE]; omega) | rfl | (simp only [lenE, markR_len]; done) | (simp only [lenE, markR_len]; omega)) only [runE, mapE, listE, initT_5, initT_6, initT_7, initT_8, resV, oneV, binA, unA, reduceCtorEq, Nat.reduceEqDiff, Nat.reduceAdd, Nat.reduceLT, Nat.reduceLeDiff, Nat.reduceMul, Nat.reduceSub, ↓reduceIte, decide_true, decide_false, Bool.true_eq_false, Bool.false_eq_true, Bool.not_true, Bool.not_false, if_true, if_false, and_true, true_and, memE, celE, w64, Nat.zero_add, Nat.add_zero, Nat.mul_one, putL, and_self, ldn]
  exact ⟨x, a2, rfl, by omega, w2, k2⟩
def AnsPXY (m : Mem) (r : Value) (new : Mem) : Prop :=
  NoRo new ∧ ∃ (p : Pr) (u : Value) (x y : Int), r = .tuple #[procV p u, .int .i64 x, .int .i64 y] ∧ PL m.length (m ++ new) u p.w
theorem fin_pxy {m M : Mem} {p : Pr} {u : Value} {x y : Int} (hX : Ext m M) (hp : PL m.length M u p.w) : newQ m (AnsPXY m) (.tuple #[procV p u, .int .i64 x, .int .i64 y]) M := by
  obtain ⟨n0, rfl, h0⟩ := hX
  have e : ∀ i, m.length ≤ i → (m ++ n0)[i]? = (roM m ++ n0)[i]? := fun i hi => by
    rw [List.getElem?_append_right hi, List.getElem?_append_right (by rw [roM_len]; exact hi), roM_len]
  exact ⟨n0, rfl, h0, h0, p, u, x, y, rfl, hp.up (by simp [roM_len]) fun i a _ => e i a⟩
theorem DrawBestOrder_rc (m : Mem) (cb fl : Nat) (l : List Int) (h : BytesA m cb l) :
    RC Try.prog 5 [.slice (some ⟨cb, 0, none⟩) l.length fl] m (AnsPXY m) := by
  refine rc_of_run mixed ok_spec_DrawBestOrder (by simp) (go_start _ _ _ ?_)
  simp (config := {implicitDefEqProofs := false, maxDischargeDepth := 20}) (disch := first | omega | (simp only [lenE]; done) | (simp only [lenE]; omega) | rfl | (simp only [lenE, markR_len]; done) | (simp only [lenE, markR_len]; omega)) only [runE, mapE, listE, initT_5, initT_6, initT_7, initT_8, resV, oneV, binA, unA, reduceCtorEq, Nat.reduceEqDiff, Nat.reduceAdd, Nat.reduceLT, Nat.reduceLeDiff, Nat.reduceMul, Nat.reduceSub, ↓reduceIte, decide_true, decide_false, Bool.true_eq_false, Bool.false_eq_true, Bool.not_true, Bool.not_false, if_true, if_false, and_true, true_and, memE, celE, w64, Nat.zero_add, Nat.add_zero, Nat.mul_one, putL, and_self, ldn, c_spec_DrawBestOrder, r_spec_DrawBestOrder, bldCur]
  obtain ⟨M0, hM0⟩ : ∃ M0 : Mem, M0 = roM m ++ [⟨.own, 26, [.int .i64 0, .slice none 0 0, .int .i64 0, .int .i64 0, .int .i64 0, .int .i64 0]⟩] := ⟨_, rfl⟩
  have hl0 : M0.length = m.length + 1 := by rw [hM0]; simp [roM_len]
  have hres : OwnB M0 m.length 26 [.int .i64 0, .slice none 0 0, .int .i64 0, .int .i64 0, .int .i64 0, .int .i64 0] := by rw [hM0]; exact OwnB.here (roM_len m).symm
  have hx0 : Ext m M0 := by rw [hM0]; exact (Ext.refl m).one _ _
  have hb0 : M0[cb]? = some ⟨.ro, 5, l.map (Value.int .u8)⟩ := by
    have := h.ro
    rw [hM0, List.getElem?_append_left (List.getElem?_eq_some_iff.1 this).1]; exact this
  rw [← hM0]
  have k0 : CurA (M0 ++ [⟨.own, 53, [.slice (some ⟨cb, 0, none⟩) l.length fl, .int .i64 0, .int .u64 0]⟩]) cb l M0.length 0 :=
    ⟨by rw [List.getElem?_append_left (List.getElem?_eq_some_iff.1 hb0).1]; exact hb0, h.byte, h.few, (fl, 0), by simp⟩
  have hx1 : Ext m (M0 ++ [⟨.own, 53, [.slice (some ⟨cb, 0, none⟩) l.length fl, .int .i64 0, .int .u64 0]⟩]) := hx0.one _ _
  have hl1 : (M0 ++ [(⟨.own, 53, [.slice (some ⟨cb, 0, none⟩) l.length fl, .int .i64 0, .int .u64 0]⟩ : Blk)]).length = m.length + 2 := by simp; omega
  have hres1 := hres.ext [⟨.own, 53, [.slice (some ⟨cb, 0, none⟩) l.length fl, .int .i64 0, .int .u64 0]⟩]
  obtain ⟨id, hid⟩ : ∃ id, id = m.length + 1 := ⟨_, rfl⟩
  rw [hl0, ← hid] at k0
  rw [← hid]
  generalize M0 ++ [(⟨.own, 53, [.slice (some ⟨cb, 0, none⟩) l.length fl, .int .i64 0, .int .u64 0]⟩ : Blk)] = M1 at *
  clear hres hx0 hM0
  refine callH_ac (process_ac M1 cb id 0 l k0 (by omega)) ?_
  rintro v M2 ⟨p, u, a2, rfl, ha2, w2, k2, pl2⟩
  have hu := pl2.here
  have on := ones_proc hu
  have l2 := w2.len
  have s1 : stA (M2 ++ [⟨.own, 26, [.int .i64 0, .slice none 0 0, .int .i64 0, .int .i64 0, .int .i64 0, .int .i64 0]⟩]) M2.length 0 (procC p u) = some (M2 ++ [⟨.own, 26, procC p u⟩]) := by
    rw [(OwnB.here rfl).st (by simp) on]
    simp [putL]
  have b3 : OwnB (M2 ++ [⟨.own, 26, procC p u⟩]) M2.length 26 (procC p u) := OwnB.here rfl
  have w3 : Cw id M1 (M2 ++ [⟨.own, 26, procC p u⟩]) := w2.ext (noRo_own noRo_nil)
  have k3 := k2.ext [⟨.own, 26, procC p u⟩]
  have pl3 : PL M1.length (M2 ++ [⟨.own, 26, procC p u⟩]) u p.w := pl2.up (by simp) fun i _ h2 => List.getElem?_append_left h2
  have l3 : (M2 ++ [(⟨.own, 26, procC p u⟩ : Blk)]).length = M2.length + 1 := by simp
  simp (config := {implicitDefEqProofs := false, maxDischargeDepth := 20}) (disch := first | omega | (simp only [lenE]; done) | (simp only [lenE]; omega) | rfl | (simp only [lenE, markR_len]; done) | (simp only [lenE, markR_len]; omega)) only [runE, mapE, listE, initT_5, initT_6, initT_7, initT_8, resV, oneV, binA, unA, reduceCtorEq, Nat.reduceEqDiff, Nat.reduceAdd, Nat.reduceLT, Nat.reduceLeDiff, Nat.reduceMul, Nat.reduceSub, ↓reduceIte, decide_true, decide_false, Bool.true_eq_false, Bool.false_eq_true, Bool.not_true, Bool.not_false, if_true, if_false, and_true, true_and, memE, celE, w64, Nat.zero_add, Nat.add_zero, Nat.mul_one, putL, and_self, ldn, stP_aggL, s1, b3.rd]
  clear s1 w2 k2 pl2
  generalize M2 ++ [(⟨.own, 26, procC p u⟩ : Blk)] = M3 at *
  with_reducible refine ⟨?_, ?_⟩
  · refine callH_ac (pick_ac M3 cb id a2 l 4 k3 (by omega) (by omega) (by omega)) ?_
    rintro v M4 ⟨x, rfl, hxa, hxb, w4, a4, ha4, k4⟩
    have b4 : OwnB M4 M2.length 26 (procC p u) := b3.at_ (w4.old _ (by omega) b3.lt)
    simp (config := {implicitDefEqProofs := false, maxDischargeDepth := 20}) (disch := first | omega | (simp only [lenE]; done) | (simp only [lenE]; omega) | rfl | (simp only [lenE, markR_len]; done) | (simp only [lenE, markR_len]; omega)) only [runE, mapE, listE, initT_5, initT_6, initT_7, initT_8, resV, oneV, binA, unA, reduceCtorEq, Nat.reduceEqDiff, Nat.reduceAdd, Nat.reduceLT, Nat.reduceLeDiff, Nat.reduceMul, Nat.reduceSub, ↓reduceIte, decide_true, decide_false, Bool.true_eq_false, Bool.false_eq_true, Bool.not_true, Bool.not_false, if_true, if_false, and_true, true_and, memE, celE, w64, Nat.zero_add, Nat.add_zero, Nat.mul_one, putL, and_self, ldn, b4.rd]
    refine callH_ac (pick_ac M4 cb id a4 l 2 k4 (by omega) (by omega) (by omega)) ?_
    rintro v M5 ⟨y, rfl, hy0, hy1, w5, a5, ha5, k5⟩
    have b5 : OwnB M5 M2.length 26 (procC p u) := b4.at_ (w5.old _ (by omega) b4.lt)
    simp (config := {implicitDefEqProofs := false, maxDischargeDepth := 20}) (disch := first | omega | (simp only [lenE]; done) | (simp only [lenE]; omega) | rfl | (simp only [lenE, markR_len]; done) | (simp only [lenE, markR_len]; omega)) only [runE, mapE, listE, initT_5, initT_6, initT_7, initT_8, resV, oneV, binA, unA, reduceCtorEq, Nat.reduceEqDiff, Nat.reduceAdd, Nat.reduceLT, Nat.reduceLeDiff, Nat.reduceMul, Nat.reduceSub, ↓reduceIte, decide_true, decide_false, Bool.true_eq_false, Bool.false_eq_true, Bool.not_true, Bool.not_false, if_true, if_false, and_true, true_and, memE, celE, w64, Nat.zero_add, Nat.add_zero, Nat.mul_one, putL, and_self, ldn, b5.rd]
    refine callH_ac (level_ac M5 cb id a5 l k5 (by omega)) ?_
    rintro v M6 ⟨z, a6, rfl, ha6, w6, k6⟩
    have l4 := w4.len
    have l5 := w5.len
    have l6 := w6.len
    have w36 := Cw.trans (by omega) (Cw.trans (by omega) w4 w5) w6
    have w16 := Cw.trans (by omega) w3 w36
    have b6 : OwnB M6 M2.length 26 (procC p u) := b5.at_ (w6.old _ (by omega) b5.lt)
    have r6 : OwnB M6 m.length 26 [.int .i64 0, .slice none 0 0, .int .i64 0, .int .i64 0, .int .i64 0, .int .i64 0] := hres1.at_ (w16.old _ (by omega) (by omega))
    have s6 := (r6.st (off := 0) (vs := procC p u) (by simp) on).trans (show _ = some (M6.set m.length ⟨.own, 26, procC p u⟩) by simp [putL])
    have br := r6.set_self 26 (procC p u)
    simp (config := {implicitDefEqProofs := false, maxDischargeDepth := 20}) (disch := first | omega | (simp only [lenE]; done) | (simp only [lenE]; omega) | rfl | (simp only [lenE, markR_len]; done) | (simp only [lenE, markR_len]; omega)) only [runE, mapE, listE, initT_5, initT_6, initT_7, initT_8, resV, oneV, binA, unA, reduceCtorEq, Nat.reduceEqDiff, Nat.reduceAdd, Nat.reduceLT, Nat.reduceLeDiff, Nat.reduceMul, Nat.reduceSub, ↓reduceIte, decide_true, decide_false, Bool.true_eq_false, Bool.false_eq_true, Bool.not_true, Bool.not_false, if_true, if_false, and_true, true_and, memE, celE, w64, Nat.zero_add, Nat.add_zero, Nat.mul_one, putL, and_self, ldn, b6.rd, stP_aggL, s6, br.rd]
    refine fin_pxy ?_ ?_
    · obtain ⟨n1, e1, h1⟩ := hx1
      have nro1 : ∀ (i : Nat) (b : Blk), m.length ≤ i → M1[i]? = some b → b.kd ≠ .ro := fun i b hi hb => by
        rw [e1, List.getElem?_append_right (by rw [roM_len]; exact hi)] at hb
        exact h1 b (List.mem_of_getElem? hb)
      have nro6 := w16.noRo nro1 k6
      refine ext_of (by rw [List.length_set]; omega) (fun i hi => ?_) (fun i b hi hb => ?_)
      · rw [List.getElem?_set_ne (by omega), w16.old i (by omega) (by omega), e1, List.getElem?_append_left (by rw [roM_len]; exact hi)]
      · by_cases e : i = m.length
        · subst e
          rw [List.getElem?_set_self r6.lt] at hb
          cases hb
          simp
        · rw [List.getElem?_set_ne (by omega)] at hb
          exact nro6 i b hi hb
    · refine ((pl3.lower (lo' := m.length + 2) (by omega)).up (M' := M6.set m.length ⟨.own, 26, procC p u⟩) (by rw [List.length_set]; omega) fun i h1 h2 => ?_).lower (by omega)
      rw [List.getElem?_set_ne (by omega), w36.old i (by omega) (by omega)]
  · refine callH_ac (pick_ac M3 cb id a2 l 4 k3 (by omega) (by omega) (by omega)) ?_
    rintro v M4 ⟨x, rfl, hxa, hxb, w4, a4, ha4, k4⟩
    have b4 : OwnB M4 M2.length 26 (procC p u) := b3.at_ (w4.old _ (by omega) b3.lt)
    simp (config := {implicitDefEqProofs := false, maxDischargeDepth := 20}) (disch := first | omega | (simp only [lenE]; done) | (simp only [lenE]; omega) | rfl | (simp only [lenE, markR_len]; done) | (simp only [lenE, markR_len]; omega)) only [runE, mapE, listE, initT_5, initT_6, initT_7, initT_8, resV, oneV, binA, unA, reduceCtorEq, Nat.reduceEqDiff, Nat.reduceAdd, Nat.reduceLT, Nat.reduceLeDiff, Nat.reduceMul, Nat.reduceSub, ↓reduceIte, decide_true, decide_false, Bool.true_eq_false, Bool.false_eq_true, Bool.not_true, Bool.not_false, if_true, if_false, and_true, true_and, memE, celE, w64, Nat.zero_add, Nat.add_zero, Nat.mul_one, putL, and_self, ldn, b4.rd]
    with_reducible refine ⟨?_, ?_⟩
    · refine callH_ac (pick_ac M4 cb id a4 l 2 k4 (by omega) (by omega) (by omega)) ?_
      rintro v M5 ⟨y, rfl, hy0, hy1, w5, a5, ha5, k5⟩
      have b5 : OwnB M5 M2.length 26 (procC p u) := b4.at_ (w5.old _ (by omega) b4.lt)
      simp (config := {implicitDefEqProofs := false, maxDischargeDepth := 20}) (disch := first | omega | (simp only [lenE]; done) | (simp only [lenE]; omega) | rfl | (simp only [lenE, markR_len]; done) | (simp only [lenE, markR_len]; omega)) only [runE, mapE, listE, initT_5, initT_6, initT_7, initT_8, resV, oneV, binA, unA, reduceCtorEq, Nat.reduceEqDiff, Nat.reduceAdd, Nat.reduceLT, Nat.reduceLeDiff, Nat.reduceMul, Nat.reduceSub, ↓reduceIte, decide_true, decide_false, Bool.true_eq_false, Bool.false_eq_true, Bool.not_true, Bool.not_false, if_true, if_false, and_true, true_and, memE, celE, w64, Nat.zero_add, Nat.add_zero, Nat.mul_one, putL, and_self, ldn, b5.rd]
      refine callH_ac (level_ac M5 cb id a5 l k5 (by omega)) ?_
      rintro v M6 ⟨z, a6, rfl, ha6, w6, k6⟩
      have l4 := w4.len
      have l5 := w5.len
      have l6 := w6.len
      have w36 := Cw.trans (by omega) (Cw.trans (by omega) w4 w5) w6
      have w16 := Cw.trans (by omega) w3 w36
      have b6 : OwnB M6 M2.length 26 (procC p u) := b5.at_ (w6.old _ (by omega) b5.lt)
      have r6 : OwnB M6 m.length 26 [.int .i64 0, .slice none 0 0, .int .i64 0, .int .i64 0, .int .i64 0, .int .i64 0] := hres1.at_ (w16.old _ (by omega) (by omega))
      have s6 := (r6.st (off := 0) (vs := procC p u) (by simp) on).trans (show _ = some (M6.set m.length ⟨.own, 26, procC p u⟩) by simp [putL])
      have br := r6.set_self 26 (procC p u)
      simp (config := {implicitDefEqProofs := false, maxDischargeDepth := 20}) (disch := first | omega | (simp only [lenE]; done) | (simp only [lenE]; omega) | rfl | (simp only [lenE, markR_len]; done) | (simp only [lenE, markR_len]; omega)) only [runE, mapE, listE, initT_5, initT_6, initT_7, initT_8, resV, oneV, binA, unA, reduceCtorEq, Nat.reduceEqDiff, Nat.reduceAdd, Nat.reduceLT, Nat.reduceLeDiff, Nat.reduceMul, Nat.reduceSub, ↓reduceIte, decide_true, decide_false, Bool.true_eq_false, Bool.false_eq_true, Bool.not_true, Bool.not_false, if_true, if_false, and_true, true_and, memE, celE, w64, Nat.zero_add, Nat.add_zero, Nat.mul_one, putL, and_self, ldn, b6.rd, stP_aggL, s6, br.rd]
      refine fin_pxy ?_ ?_
      · obtain ⟨n1, e1, h1⟩ := hx1
        have nro1 : ∀ (i : Nat) (b : Blk), m.length ≤ i → M1[i]? = some b → b.kd ≠ .ro := fun i b hi hb => by
          rw [e1, List.getElem?_append_right (by rw [roM_len]; exact hi)] at hb
          exact h1 b (List.mem_of_getElem? hb)
        have nro6 := w16.noRo nro1 k6
        refine ext_of (by rw [List.length_set]; omega) (fun i hi => ?_) (fun i b hi hb => ?_)
        · rw [List.getElem?_set_ne (by omega), w16.old i (by omega) (by omega), e1, List.getElem?_append_left (by rw [roM_len]; exact hi)]
        · by_cases e : i = m.length
          · subst e
            rw [List.getElem?_set_self r6.lt] at hb
            cases hb
            simp
          · rw [List.getElem?_set_ne (by omega)] at hb
            exact nro6 i b hi hb
      · refine ((pl3.lower (lo' := m.length + 2) (by omega)).up (M' := M6.set m.length ⟨.own, 26, procC p u⟩) (by rw [List.length_set]; omega) fun i h1 h2 => ?_).lower (by omega)
        rw [List.getElem?_set_ne (by omega), w36.old i (by omega) (by omega)]
    · refine callH_ac (pick_ac M4 cb id a4 l 2 k4 (by omega) (by omega) (by omega)) ?_
      rintro v M5 ⟨y, rfl, hy0, hy1, w5, a5, ha5, k5⟩
      have b5 : OwnB M5 M2.length 26 (procC p u) := b4.at_ (w5.old _ (by omega) b4.lt)
      simp (config := {implicitDefEqProofs := false, maxDischargeDepth := 20}) (disch := first | omega | (simp only [lenE]; done) | (simp only [lenE]; omega) | rfl | (simp only [lenE, markR_len]; done) | (simp only [lenE, markR_len]; omega)) only [runE, mapE, listE, initT_5, initT_6, initT_7, initT_8, resV, oneV, binA, unA, reduceCtorEq, Nat.reduceEqDiff, Nat.reduceAdd, Nat.reduceLT, Nat.reduceLeDiff, Nat.reduceMul, Nat.reduceSub, ↓reduceIte, decide_true, decide_false, Bool.true_eq_false, Bool.false_eq_true, Bool.not_true, Bool.not_false, if_true, if_false, and_true, true_and, memE, celE, w64, Nat.zero_add, Nat.add_zero, Nat.mul_one, putL, and_self, ldn, b5.rd]
      with_reducible refine ⟨?_, ?_⟩
      · refine callH_ac (level_ac M5 cb id a5 l k5 (by omega)) ?_
        rintro v M6 ⟨z, a6, rfl, ha6, w6, k6⟩
        have l4 := w4.len
        have l5 := w5.len
        have l6 := w6.len
        have w36 := Cw.trans (by omega) (Cw.trans (by omega) w4 w5) w6
        have w16 := Cw.trans (by omega) w3 w36
        have b6 : OwnB M6 M2.length 26 (procC p u) := b5.at_ (w6.old _ (by omega) b5.lt)
        have r6 : OwnB M6 m.length 26 [.int .i64 0, .slice none 0 0, .int .i64 0, .int .i64 0, .int .i64 0, .int .i64 0] := hres1.at_ (w16.old _ (by omega) (by omega))
        have s6 := (r6.st (off := 0) (vs := procC p u) (by simp) on).trans (show _ = some (M6.set m.length ⟨.own, 26, procC p u⟩) by simp [putL])
        have br := r6.set_self 26 (procC p u)
        simp (config := {implicitDefEqProofs := false, maxDischargeDepth := 20}) (disch := first | omega | (simp only [lenE]; done) | (simp only [lenE]; omega) | rfl | (simp only [lenE, markR_len]; done) | (simp only [lenE, markR_len]; omega)) only [runE, mapE, listE, initT_5, initT_6, initT_7, initT_8, resV, oneV, binA, unA, reduceCtorEq, Nat.reduceEqDiff, Nat.reduceAdd, Nat.reduceLT, Nat.reduceLeDiff, Nat.reduceMul, Nat.reduceSub, ↓reduceIte, decide_true, decide_false, Bool.true_eq_false, Bool.false_eq_true, Bool.not_true, Bool.not_false, if_true, if_false, and_true, true_and, memE, celE, w64, Nat.zero_add, Nat.add_zero, Nat.mul_one, putL, and_self, ldn, b6.rd, stP_aggL, s6, br.rd]
        refine fin_pxy ?_ ?_
        · obtain ⟨n1, e1, h1⟩ := hx1
          have nro1 : ∀ (i : Nat) (b : Blk), m.length ≤ i → M1[i]? = some b → b.kd ≠ .ro := fun i b hi hb => by
            rw [e1, List.getElem?_append_right (by rw [roM_len]; exact hi)] at hb
            exact h1 b (List.mem_of_getElem? hb)
          have nro6 := w16.noRo nro1 k6
          refine ext_of (by rw [List.length_set]; omega) (fun i hi => ?_) (fun i b hi hb => ?_)
          · rw [List.getElem?_set_ne (by omega), w16.old i (by omega) (by omega), e1, List.getElem?_append_left (by rw [roM_len]; exact hi)]
          · by_cases e : i = m.length
            · subst e
              rw [List.getElem?_set_self r6.lt] at hb
              cases hb
              simp
            · rw [List.getElem?_set_ne (by omega)] at hb
              exact nro6 i b hi hb
        · refine ((pl3.lower (lo' := m.length + 2) (by omega)).up (M' := M6.set m.length ⟨.own, 26, procC p u⟩) (by rw [List.length_set]; omega) fun i h1 h2 => ?_).lower (by omega)
          rw [List.getElem?_set_ne (by omega), w36.old i (by omega) (by omega)]
      · refine callH_ac (level_ac M5 cb id a5 l k5 (by omega)) ?_
        rintro v M6 ⟨z, a6, rfl, ha6, w6, k6⟩
        have l4 := w4.len
        have l5 := w5.len
        have l6 := w6.len
        have w36 := Cw.trans (by omega) (Cw.trans (by omega) w4 w5) w6
        have w16 := Cw.trans (by omega) w3 w36
        have b6 : OwnB M6 M2.length 26 (procC p u) := b5.at_ (w6.old _ (by omega) b5.lt)
        have r6 : OwnB M6 m.length 26 [.int .i64 0, .slice none 0 0, .int .i64 0, .int .i64 0, .int .i64 0, .int .i64 0] := hres1.at_ (w16.old _ (by omega) (by omega))
        have s6 := (r6.st (off := 0) (vs := procC p u) (by simp) on).trans (show _ = some (M6.set m.length ⟨.own, 26, procC p u⟩) by simp [putL])
        have br := r6.set_self 26 (procC p u)
        simp (config := {implicitDefEqProofs := false, maxDischargeDepth := 20}) (disch := first | omega | (simp only [lenE]; done) | (simp only [lenE]; omega) | rfl | (simp only [lenE, markR_len]; done) | (simp only [lenE, markR_len]; omega)) only [runE, mapE, listE, initT_5, initT_6, initT_7, initT_8, resV, oneV, binA, unA, reduceCtorEq, Nat.reduceEqDiff, Nat.reduceAdd, Nat.reduceLT, Nat.reduceLeDiff, Nat.reduceMul, Nat.reduceSub, ↓reduceIte, decide_true, decide_false, Bool.true_eq_false, Bool.false_eq_true, Bool.not_true, Bool.not_false, if_true, if_false, and_true, true_and, memE, celE, w64, Nat.zero_add, Nat.add_zero, Nat.mul_one, putL, and_self, ldn, b6.rd, stP_aggL, s6, br.rd]
        refine fin_pxy ?_ ?_
        · obtain ⟨n1, e1, h1⟩ := hx1
          have nro1 : ∀ (i : Nat) (b : Blk), m.length ≤ i → M1[i]? = some b → b.kd ≠ .ro := fun i b hi hb => by
            rw [e1, List.getElem?_append_right (by rw [roM_len]; exact hi)] at hb
            exact h1 b (List.mem_of_getElem? hb)
          have nro6 := w16.noRo nro1 k6
          refine ext_of (by rw [List.length_set]; omega) (fun i hi => ?_) (fun i b hi hb => ?_)
          · rw [List.getElem?_set_ne (by omega), w16.old i (by omega) (by omega), e1, List.getElem?_append_left (by rw [roM_len]; exact hi)]
          · by_cases e : i = m.length
            · subst e
              rw [List.getElem?_set_self r6.lt] at hb
              cases hb
              simp
            · rw [List.getElem?_set_ne (by omega)] at hb
              exact nro6 i b hi hb
        · refine ((pl3.lower (lo' := m.length + 2) (by omega)).up (M' := M6.set m.length ⟨.own, 26, procC p u⟩) (by rw [List.length_set]; omega) fun i h1 h2 => ?_).lower (by omega)
          rw [List.getElem?_set_ne (by omega), w36.old i (by omega) (by omega)]
theorem bl_c7 (m : Mem) : bslA m 3 1 7 [.int .i64 0, .int .i64 0, .int .i64 0, .int .i64 0, .int .i64 0, .int .i64 0, .int .i64 0] [(0, 1, .int .i64 3), (1, 1, .int .i64 5), (2, 1, .int .i64 8), (3, 1, .int .i64 2), (4, 1, .int .i64 1), (5, 1, .int .i64 0), (6, 1, .int .i64 12)] = some (.slice (some ⟨m.length, 0, none⟩) 7 1, m ++ [rowB [3, 5, 8, 2, 1, 0, 12]]) := rfl
theorem bl_c3 (m : Mem) : bslA m 3 1 3 [.int .i64 0, .int .i64 0, .int .i64 0] [(0, 1, .int .i64 1000000000000), (1, 1, .int .i64 1000000000001), (2, 1, .int .i64 (-1000000000001))] = some (.slice (some ⟨m.length, 0, none⟩) 3 1, m ++ [rowB [1000000000000, 1000000000001, -1000000000001]]) := rfl
theorem bl_c8 (m : Mem) : bslA m 3 1 8 [.int .i64 0, .int .i64 0, .int .i64 0, .int .i64 0, .int .i64 0, .int .i64 0, .int .i64 0, .int .i64 0] [(0, 1, .int .i64 0), (1, 1, .int .i64 0), (2, 1, .int .i64 1), (3, 1, .int .i64 3), (4, 1, .int .i64 10), (5, 1, .int .i64 (-1)), (6, 1, .int .i64 1000000000000), (7, 1, .int .i64 1000000000001)] = some (.slice (some ⟨m.length, 0, none⟩) 8 1, m ++ [rowB [0, 0, 1, 3, 10, -1, 1000000000000, 1000000000001]]) := rfl
end Go.Proofs.Ytckpfgkgigicpaa.Ab
end
section
namespace Go.Proofs.Ytckpfgkgigicpaa.Ab
open Go Go.RowKit
set_option linter.unusedVariables false
set_option linter.unusedSimpArgs false
def AnsLK (m : Mem) (r : Value) (new : Mem) : Prop :=
  NoRo new ∧ ∃ (i : Nat) (L : List Int) (k : Int), r = .tuple #[.slice (some ⟨m.length + i, 0, none⟩) L.length 1, .int .i64 k] ∧ new[i]? = some (rowB L) ∧ L.length ≤ 60
theorem fin_lk {m M : Mem} {b : Blk} {cb a r n : Nat} {l L : List Int} {k : Int} (d : Dr (roM m ++ [b]) M cb m.length a r l L) (hn : n = L.length) (hL : L.length ≤ 60) : newQ m (AnsLK m) (.tuple #[.slice (some ⟨r, 0, none⟩) n 1, .int .i64 k]) M := by
  subst hn
  have hg := d.ge
  simp only [List.length_append, roM_len, List.length_cons, List.length_nil] at hg
  obtain ⟨n0, i, rfl, h0, rfl, hrow⟩ := draw_row' (d.cw.toExt d.cur) d.own (by omega)
  exact ⟨n0, rfl, h0, h0, i, L, k, rfl, hrow, hL⟩
theorem DrawIsConvexFor_rc (m : Mem) (cb fl : Nat) (l : List Int) (h : BytesA m cb l) :
    RC Try.prog 11 [.slice (some ⟨cb, 0, none⟩) l.length fl] m (AnsLK m) := by
  refine rc_of_run mixed ok_spec_DrawIsConvexFor (by simp) (go_start _ _ _ ?_)
  simp (config := {implicitDefEqProofs := false, maxDischargeDepth := 20}) (disch := first | omega | (simp only [lenE]; done) | (simp only [lenE]; omega) | rfl | (simp only [lenE, markR_len]; done) | (simp only [lenE, markR_len]; omega)) only [runE, mapE, listE, initT_5, initT_6, initT_7, initT_8, resV, oneV, binA, unA, reduceCtorEq, Nat.reduceEqDiff, Nat.reduceAdd, Nat.reduceLT, Nat.reduceLeDiff, Nat.reduceMul, Nat.reduceSub, ↓reduceIte, decide_true, decide_false, Bool.true_eq_false, Bool.false_eq_true, Bool.not_true, Bool.not_false, if_true, if_false, and_true, true_and, memE, celE, w64, Nat.zero_add, Nat.add_zero, Nat.mul_one, putL, and_self, ldn, c_spec_DrawIsConvexFor, r_spec_DrawIsConvexFor, bldCur, bsl_no]
  have k0 := CurA.start (fl := fl) h (id := m.length) rfl
  have d0 := Dr.new k0.lt k0.cblt (Cw.refl _ _) k0 rfl []
  rw [show rowB [] = (⟨.own, 3, []⟩ : Blk) from rfl] at d0
  obtain ⟨M0, hM0⟩ : ∃ M0, M0 = roM m ++ [(⟨.own, 53, [.slice (some ⟨cb, 0, none⟩) l.length fl, .int .i64 0, .int .u64 0]⟩ : Blk)] := ⟨_, rfl⟩
  have hl0 : M0.length = m.length + 1 := by rw [hM0]; simp [roM_len]
  rw [← hM0] at d0 ⊢
  rw [hl0] at d0
  obtain ⟨M1, hM1⟩ : ∃ M1, M1 = M0 ++ [(⟨.own, 3, []⟩ : Blk)] := ⟨_, rfl⟩
  rw [← hM1] at d0 ⊢
  clear hM1 k0
  refine callH_ac (pick_ac M1 cb m.length 0 l 6 d0.cur (by omega) (by omega) (by omega)) ?_
  rintro v M2 ⟨x, rfl, hx0, hx1, w2, a2, ha2, k2⟩
  have d2 := d0.draw w2 k2
  simp (config := {implicitDefEqProofs := false, maxDischargeDepth := 20}) (disch := first | omega | (simp only [lenE]; done) | (simp only [lenE]; omega) | rfl | (simp only [lenE, markR_len]; done) | (simp only [lenE, markR_len]; omega)) only [runE, mapE, listE, initT_5, initT_6, initT_7, initT_8, resV, oneV, binA, unA, reduceCtorEq, Nat.reduceEqDiff, Nat.reduceAdd, Nat.reduceLT, Nat.reduceLeDiff, Nat.reduceMul, Nat.reduceSub, ↓reduceIte, decide_true, decide_false, Bool.true_eq_false, Bool.false_eq_true, Bool.not_true, Bool.not_false, if_true, if_false, and_true, true_and, memE, celE, w64, Nat.zero_add, Nat.add_zero, Nat.mul_one, putL, and_self, ldn]
  refine callH_ac (pick_ac M2 cb m.length a2 l 20 d2.cur (by omega) (by omega) (by omega)) ?_
  rintro v M3 ⟨y, rfl, hy0, hy1, w3, a3, ha3, k3⟩
  have d3 := d2.draw w3 k3
  simp (config := {implicitDefEqProofs := false, maxDischargeDepth := 20}) (disch := first | omega | (simp only [lenE]; done) | (simp only [lenE]; omega) | rfl | (simp only [lenE, markR_len]; done) | (simp only [lenE, markR_len]; omega)) only [runE, mapE, listE, initT_5, initT_6, initT_7, initT_8, resV, oneV, binA, unA, reduceCtorEq, Nat.reduceEqDiff, Nat.reduceAdd, Nat.reduceLT, Nat.reduceLeDiff, Nat.reduceMul, Nat.reduceSub, ↓reduceIte, decide_true, decide_false, Bool.true_eq_false, Bool.false_eq_true, Bool.not_true, Bool.not_false, if_true, if_false, and_true, true_and, memE, celE, w64, Nat.zero_add, Nat.add_zero, Nat.mul_one, putL, and_self, ldn, bl_c7]
  refine callH_ac (among_new M3 cb m.length a3 l [3, 5, 8, 2, 1, 0, 12] d3.cur (by omega) rfl rfl (by simp) (by simp)) ?_
  rintro v M4 ⟨n, hn, rfl, w4, a4, ha4, k4⟩
  have d4 := d3.draw w4 k4
  obtain ⟨N, rfl, hN⟩ : ∃ N : Nat, n = N ∧ N ≤ 12 := ⟨n.toNat, by simp at hn; omega, by simp at hn; omega⟩
  clear d0 d2 d3 w2 w3 w4 k2 k3 k4 hn
  simp (config := {implicitDefEqProofs := false, maxDischargeDepth := 20}) (disch := first | omega | (simp only [lenE]; done) | (simp only [lenE]; omega) | rfl | (simp only [lenE, markR_len]; done) | (simp only [lenE, markR_len]; omega)) only [runE, mapE, listE, initT_5, initT_6, initT_7, initT_8, resV, oneV, binA, unA, reduceCtorEq, Nat.reduceEqDiff, Nat.reduceAdd, Nat.reduceLT, Nat.reduceLeDiff, Nat.reduceMul, Nat.reduceSub, ↓reduceIte, decide_true, decide_false, Bool.true_eq_false, Bool.false_eq_true, Bool.not_true, Bool.not_false, if_true, if_false, and_true, true_and, memE, celE, w64, Nat.zero_add, Nat.add_zero, Nat.mul_one, putL, and_self, ldn]
  refine loop_inv mixed (fun s => ∃ (M' : Mem) (r : Nat) (L : List Int) (a' k : Nat) (sl nw : Int), s.m = M' ∧ Dr M0 M' cb m.length a' r l L ∧ L.length + k = N ∧ a' ≤ a4 + 4 * L.length ∧ -6 - 3 * L.length ≤ sl ∧ sl ≤ 3 * L.length ∧ -100 * L.length ≤ nw ∧ nw ≤ 20 + 100 * L.length ∧ s.t 4 = .pointer (some ⟨m.length, 0, none⟩) ∧ s.t 5 = .slice (some ⟨r, 0, none⟩) L.length 1 ∧ s.t 6 = .int .i64 sl ∧ s.t 7 = .int .i64 nw ∧ s.t 8 = .int .i64 k) (fun s => (intOf (s.t 8)).toNat)
    ⟨M4, _, [], a4, N, 0 - x, y, rfl, d4, by simp, by omega, by simp; omega, by simp; omega, by simp; omega, by simp; omega, by simp only [put_t, put_t', put_m, putT_t, putT_t', putT_m, init_t, init_m, initT_0, initT_1, initT_2, initT_3, initT_4, initT_5, initT_6, initT_7, initT_8, Nat.reduceEqDiff, ↓reduceIte], by simp only [put_t, put_t', put_m, putT_t, putT_t', putT_m, init_t, init_m, initT_0, initT_1, initT_2, initT_3, initT_4, initT_5, initT_6, initT_7, initT_8, Nat.reduceEqDiff, ↓reduceIte]; try simp [hl0], by simp only [put_t, put_t', put_m, putT_t, putT_t', putT_m, init_t, init_m, initT_0, initT_1, initT_2, initT_3, initT_4, initT_5, initT_6, initT_7, initT_8, Nat.reduceEqDiff, ↓reduceIte], by simp only [put_t, put_t', put_m, putT_t, putT_t', putT_m, init_t, init_m, initT_0, initT_1, initT_2, initT_3, initT_4, initT_5, initT_6, initT_7, initT_8, Nat.reduceEqDiff, ↓reduceIte], by simp only [put_t, put_t', put_m, putT_t, putT_t', putT_m, init_t, init_m, initT_0, initT_1, initT_2, initT_3, initT_4, initT_5, initT_6, initT_7, initT_8, Nat.reduceEqDiff, ↓reduceIte]⟩ ?_
  clear d4
  rintro s ⟨M', r, L, a', k, sl, nw, tm, d, hk, hak, b1, b2, b3, b4, t4, t5, t6, t7, t8⟩
  by_cases hlt : 0 < k
  · have hlt' : (0 : Int) < k := by omega
    obtain ⟨M5, ap, d5⟩ := d.app nw (by omega) rfl
    simp (config := {implicitDefEqProofs := false, maxDischargeDepth := 20}) (disch := first | omega | (simp only [lenE]; done) | (simp only [lenE]; omega) | rfl | (simp only [lenE, markR_len]; done) | (simp only [lenE, markR_len]; omega)) only [runE, mapE, listE, initT_5, initT_6, initT_7, initT_8, resV, oneV, binA, unA, reduceCtorEq, Nat.reduceEqDiff, Nat.reduceAdd, Nat.reduceLT, Nat.reduceLeDiff, Nat.reduceMul, Nat.reduceSub, ↓reduceIte, decide_true, decide_false, Bool.true_eq_false, Bool.false_eq_true, Bool.not_true, Bool.not_false, if_true, if_false, and_true, true_and, memE, celE, w64, Nat.zero_add, Nat.add_zero, Nat.mul_one, putL, and_self, ldn, tm, t4, t5, t6, t7, t8, gt_iff_lt, hlt', bl_w, ap]
    refine callH_ac (pick_ac M5 cb m.length a' l 3 d5.cur (by omega) (by omega) (by omega)) ?_
    rintro v M6 ⟨p, rfl, hp0, hp1, w6, a6, ha6, k6⟩
    have d6 := d5.draw w6 k6
    simp (config := {implicitDefEqProofs := false, maxDischargeDepth := 20}) (disch := first | omega | (simp only [lenE]; done) | (simp only [lenE]; omega) | rfl | (simp only [lenE, markR_len]; done) | (simp only [lenE, markR_len]; omega)) only [runE, mapE, listE, initT_5, initT_6, initT_7, initT_8, resV, oneV, binA, unA, reduceCtorEq, Nat.reduceEqDiff, Nat.reduceAdd, Nat.reduceLT, Nat.reduceLeDiff, Nat.reduceMul, Nat.reduceSub, ↓reduceIte, decide_true, decide_false, Bool.true_eq_false, Bool.false_eq_true, Bool.not_true, Bool.not_false, if_true, if_false, and_true, true_and, memE, celE, w64, Nat.zero_add, Nat.add_zero, Nat.mul_one, putL, and_self, ldn, tm, t4, t5, t6, t7, t8]
    refine callH_ac (pick_ac M6 cb m.length a6 l 12 d6.cur (by omega) (by omega) (by omega)) ?_
    rintro v M7 ⟨q, rfl, hq0, hq1, w7, a7, ha7, k7⟩
    have d7 := d6.draw w7 k7
    have q0 : 0 ≤ q.tdiv 11 ∧ q.tdiv 11 ≤ 1 := by
      rw [Int.tdiv_eq_ediv_of_nonneg hq0]; omega
    have d11 : ¬ ((11 : Int) = 0) := by decide
    simp (config := {implicitDefEqProofs := false, maxDischargeDepth := 20}) (disch := first | omega | (simp only [lenE]; done) | (simp only [lenE]; omega) | rfl | (simp only [lenE, markR_len]; done) | (simp only [lenE, markR_len]; omega)) only [runE, mapE, listE, initT_5, initT_6, initT_7, initT_8, resV, oneV, binA, unA, reduceCtorEq, Nat.reduceEqDiff, Nat.reduceAdd, Nat.reduceLT, Nat.reduceLeDiff, Nat.reduceMul, Nat.reduceSub, ↓reduceIte, decide_true, decide_false, Bool.true_eq_false, Bool.false_eq_true, Bool.not_true, Bool.not_false, if_true, if_false, and_true, true_and, memE, celE, w64, Nat.zero_add, Nat.add_zero, Nat.mul_one, putL, and_self, ldn, tm, t4, t5, t6, t7, t8, d11]
    refine ⟨⟨M7, _, L ++ [nw], a7, k - 1, sl + p - q.tdiv 11 * 3, nw + sl, rfl, d7, by simp; omega, by simp; omega, by simp; omega, by simp; omega, by simp; omega, by simp; omega, by simp, rfl, rfl, by congr 1; omega⟩, by simp [intOf]; omega⟩
  · have hlt' : ¬ ((0 : Int) < k) := by omega
    have hL : L.length ≤ 12 := by omega
    simp (config := {implicitDefEqProofs := false, maxDischargeDepth := 20}) (disch := first | omega | (simp only [lenE]; done) | (simp only [lenE]; omega) | rfl | (simp only [lenE, markR_len]; done) | (simp only [lenE, markR_len]; omega)) only [runE, mapE, listE, initT_5, initT_6, initT_7, initT_8, resV, oneV, binA, unA, reduceCtorEq, Nat.reduceEqDiff, Nat.reduceAdd, Nat.reduceLT, Nat.reduceLeDiff, Nat.reduceMul, Nat.reduceSub, ↓reduceIte, decide_true, decide_false, Bool.true_eq_false, Bool.false_eq_true, Bool.not_true, Bool.not_false, if_true, if_false, and_true, true_and, memE, celE, w64, Nat.zero_add, Nat.add_zero, Nat.mul_one, putL, and_self, ldn, tm, t4, t5, t6, t7, t8, gt_iff_lt, hlt']
    refine callH_ac (pick_ac M' cb m.length a' l 30 d.cur (by omega) (by omega) (by omega)) ?_
    rintro v M5 ⟨z, rfl, hz0, hz1, w5, a5, ha5, k5⟩
    have d := d.draw w5 k5
    clear w5 k5 tm
    by_cases z0 : z = 0
    · have z0' : (z == 0) = true := by simp [z0]
      by_cases hp : 0 < L.length
      · have hp' : (0 : Int) < L.length := by omega
        simp (config := {implicitDefEqProofs := false, maxDischargeDepth := 20}) (disch := first | omega | (simp only [lenE]; done) | (simp only [lenE]; omega) | rfl | (simp only [lenE, markR_len]; done) | (simp only [lenE, markR_len]; omega)) only [runE, mapE, listE, initT_5, initT_6, initT_7, initT_8, resV, oneV, binA, unA, reduceCtorEq, Nat.reduceEqDiff, Nat.reduceAdd, Nat.reduceLT, Nat.reduceLeDiff, Nat.reduceMul, Nat.reduceSub, ↓reduceIte, decide_true, decide_false, Bool.true_eq_false, Bool.false_eq_true, Bool.not_true, Bool.not_false, if_true, if_false, and_true, true_and, memE, celE, w64, Nat.zero_add, Nat.add_zero, Nat.mul_one, putL, and_self, ldn, t4, t5, t6, t7, t8, z0', gt_iff_lt, hp', bl_c3]
        refine callH_ac (among_new M5 cb m.length a5 l [1000000000000, 1000000000001, -1000000000001] d.cur (by omega) rfl rfl (by simp) (by simp)) ?_
        rintro v M6 ⟨g, -, rfl, w6, a6, ha6, k6⟩
        have d6 := d.draw w6 k6
        obtain ⟨hst, d7⟩ := d6.st (j := 0) hp g
        have q1 : iadA 1 (.slice (some ⟨r, 0, none⟩) L.length 1) (.int .i64 0) = some (.pointer (some ⟨r, 0, none⟩)) := by
          have := iadA_in (id := r) (off := 0) (n := L.length) (fl := 1) (sz := 1) (k := .i64) (j := 0) hp
          simpa using this
        simp (config := {implicitDefEqProofs := false, maxDischargeDepth := 20}) (disch := first | omega | (simp only [lenE]; done) | (simp only [lenE]; omega) | rfl | (simp only [lenE, markR_len]; done) | (simp only [lenE, markR_len]; omega)) only [runE, mapE, listE, initT_5, initT_6, initT_7, initT_8, resV, oneV, binA, unA, reduceCtorEq, Nat.reduceEqDiff, Nat.reduceAdd, Nat.reduceLT, Nat.reduceLeDiff, Nat.reduceMul, Nat.reduceSub, ↓reduceIte, decide_true, decide_false, Bool.true_eq_false, Bool.false_eq_true, Bool.not_true, Bool.not_false, if_true, if_false, and_true, true_and, memE, celE, w64, Nat.zero_add, Nat.add_zero, Nat.mul_one, putL, and_self, ldn, t4, t5, t6, t7, t8, q1, hst, bl_c8]
        refine callH_ac (among_new (M6.set r (rowB (L.set 0 g))) cb m.length a6 l [0, 0, 1, 3, 10, -1, 1000000000000, 1000000000001] d7.cur (by omega) (by simp) rfl (by simp) (by simp)) ?_
        rintro v M9 ⟨g9, -, rfl, w9, a9, ha9, k9⟩
        have d9 := d7.draw w9 k9
        simp (config := {implicitDefEqProofs := false, maxDischargeDepth := 20}) (disch := first | omega | (simp only [lenE]; done) | (simp only [lenE]; omega) | rfl | (simp only [lenE, markR_len]; done) | (simp only [lenE, markR_len]; omega)) only [runE, mapE, listE, initT_5, initT_6, initT_7, initT_8, resV, oneV, binA, unA, reduceCtorEq, Nat.reduceEqDiff, Nat.reduceAdd, Nat.reduceLT, Nat.reduceLeDiff, Nat.reduceMul, Nat.reduceSub, ↓reduceIte, decide_true, decide_false, Bool.true_eq_false, Bool.false_eq_true, Bool.not_true, Bool.not_false, if_true, if_false, and_true, true_and, memE, celE, w64, Nat.zero_add, Nat.add_zero, Nat.mul_one, putL, and_self, ldn, t4, t5]
        rw [hM0] at d9
        exact fin_lk d9 (by simp) (by simp; omega)
      · have hp' : ¬ ((0 : Int) < L.length) := by omega
        simp (config := {implicitDefEqProofs := false, maxDischargeDepth := 20}) (disch := first | omega | (simp only [lenE]; done) | (simp only [lenE]; omega) | rfl | (simp only [lenE, markR_len]; done) | (simp only [lenE, markR_len]; omega)) only [runE, mapE, listE, initT_5, initT_6, initT_7, initT_8, resV, oneV, binA, unA, reduceCtorEq, Nat.reduceEqDiff, Nat.reduceAdd, Nat.reduceLT, Nat.reduceLeDiff, Nat.reduceMul, Nat.reduceSub, ↓reduceIte, decide_true, decide_false, Bool.true_eq_false, Bool.false_eq_true, Bool.not_true, Bool.not_false, if_true, if_false, and_true, true_and, memE, celE, w64, Nat.zero_add, Nat.add_zero, Nat.mul_one, putL, and_self, ldn, t4, t5, t6, t7, t8, z0', gt_iff_lt, hp', bl_c8]
        refine callH_ac (among_new M5 cb m.length a5 l [0, 0, 1, 3, 10, -1, 1000000000000, 1000000000001] d.cur (by omega) (by simp) rfl (by simp) (by simp)) ?_
        rintro v M9 ⟨g9, -, rfl, w9, a9, ha9, k9⟩
        have d9 := d.draw w9 k9
        simp (config := {implicitDefEqProofs := false, maxDischargeDepth := 20}) (disch := first | omega | (simp only [lenE]; done) | (simp only [lenE]; omega) | rfl | (simp only [lenE, markR_len]; done) | (simp only [lenE, markR_len]; omega)) only [runE, mapE, listE, initT_5, initT_6, initT_7, initT_8, resV, oneV, binA, unA, reduceCtorEq, Nat.reduceEqDiff, Nat.reduceAdd, Nat.reduceLT, Nat.reduceLeDiff, Nat.reduceMul, Nat.reduceSub, ↓reduceIte, decide_true, decide_false, Bool.true_eq_false, Bool.false_eq_true, Bool.not_true, Bool.not_false, if_true, if_false, and_true, true_and, memE, celE, w64, Nat.zero_add, Nat.add_zero, Nat.mul_one, putL, and_self, ldn, t4, t5]
        rw [hM0] at d9
        exact fin_lk d9 (by simp) (by omega)
    · have z0' : (z == 0) = false := by simp [z0]
      by_cases z1 : z = 1
      · have z1' : (z == 1) = true := by simp [z1]
        simp (config := {implicitDefEqProofs := false, maxDischargeDepth := 20}) (disch := first | omega | (simp only [lenE]; done) | (simp only [lenE]; omega) | rfl | (simp only [lenE, markR_len]; done) | (simp only [lenE, markR_len]; omega)) only [runE, mapE, listE, initT_5, initT_6, initT_7, initT_8, resV, oneV, binA, unA, reduceCtorEq, Nat.reduceEqDiff, Nat.reduceAdd, Nat.reduceLT, Nat.reduceLeDiff, Nat.reduceMul, Nat.reduceSub, ↓reduceIte, decide_true, decide_false, Bool.true_eq_false, Bool.false_eq_true, Bool.not_true, Bool.not_false, if_true, if_false, and_true, true_and, memE, celE, w64, Nat.zero_add, Nat.add_zero, Nat.mul_one, putL, and_self, ldn, t4, t5, t6, t7, t8, z0', z1']
        refine callH_ac (pick_ac M5 cb m.length a5 l 2 d.cur (by omega) (by omega) (by omega)) ?_
        rintro v M6 ⟨g, rfl, hg0, hg1, w6, a6, ha6, k6⟩
        have d6 := d.draw w6 k6
        obtain ⟨G, hG, hG2⟩ : ∃ G : Nat, 41 + g = G ∧ G ≤ 42 := ⟨(41 + g).toNat, by omega, by omega⟩
        simp (config := {implicitDefEqProofs := false, maxDischargeDepth := 20}) (disch := first | omega | (simp only [lenE]; done) | (simp only [lenE]; omega) | rfl | (simp only [lenE, markR_len]; done) | (simp only [lenE, markR_len]; omega)) only [runE, mapE, listE, initT_5, initT_6, initT_7, initT_8, resV, oneV, binA, unA, reduceCtorEq, Nat.reduceEqDiff, Nat.reduceAdd, Nat.reduceLT, Nat.reduceLeDiff, Nat.reduceMul, Nat.reduceSub, ↓reduceIte, decide_true, decide_false, Bool.true_eq_false, Bool.false_eq_true, Bool.not_true, Bool.not_false, if_true, if_false, and_true, true_and, memE, celE, w64, Nat.zero_add, Nat.add_zero, Nat.mul_one, putL, and_self, ldn, t4, t5, t6, t7, t8, hG]
        refine loop_inv mixed (fun s => ∃ (M' : Mem) (r : Nat) (L : List Int), s.m = M' ∧ Dr M0 M' cb m.length a6 r l L ∧ L.length ≤ 42 ∧ s.t 4 = .pointer (some ⟨m.length, 0, none⟩) ∧ s.t 5 = .slice (some ⟨r, 0, none⟩) L.length 1 ∧ s.t 9 = .int .i64 G) (fun s => 60 - lenOfA (s.t 5))
          ⟨M6, r, L, by simp only [put_t, put_t', put_m, putT_t, putT_t', putT_m, init_t, init_m, initT_0, initT_1, initT_2, initT_3, initT_4, initT_5, initT_6, initT_7, initT_8, Nat.reduceEqDiff, ↓reduceIte], d6, by omega, by simp only [put_t, put_t', put_m, putT_t, putT_t', putT_m, init_t, init_m, initT_0, initT_1, initT_2, initT_3, initT_4, initT_5, initT_6, initT_7, initT_8, Nat.reduceEqDiff, ↓reduceIte, t4], by simp only [put_t, put_t', put_m, putT_t, putT_t', putT_m, init_t, init_m, initT_0, initT_1, initT_2, initT_3, initT_4, initT_5, initT_6, initT_7, initT_8, Nat.reduceEqDiff, ↓reduceIte, t5], rfl⟩ ?_
        clear t4 t5 t6 t7 t8 d6 d
        rintro s ⟨M', r, L, tm, d, hL2, t4, t5, t9⟩
        by_cases hc : (L.length : Int) < G
        · obtain ⟨M7, ap, d7⟩ := d.app 0 (by omega) rfl
          simp (config := {implicitDefEqProofs := false, maxDischargeDepth := 20}) (disch := first | omega | (simp only [lenE]; done) | (simp only [lenE]; omega) | rfl | (simp only [lenE, markR_len]; done) | (simp only [lenE, markR_len]; omega)) only [runE, mapE, listE, initT_5, initT_6, initT_7, initT_8, resV, oneV, binA, unA, reduceCtorEq, Nat.reduceEqDiff, Nat.reduceAdd, Nat.reduceLT, Nat.reduceLeDiff, Nat.reduceMul, Nat.reduceSub, ↓reduceIte, decide_true, decide_false, Bool.true_eq_false, Bool.false_eq_true, Bool.not_true, Bool.not_false, if_true, if_false, and_true, true_and, memE, celE, w64, Nat.zero_add, Nat.add_zero, Nat.mul_one, putL, and_self, ldn, tm, t4, t5, t9, hc, bl_w, ap]
          exact ⟨⟨M7, _, L ++ [0], rfl, d7, by simp; omega, by simp⟩, by simp [lenOfA]; omega⟩
        · skip
          simp (config := {implicitDefEqProofs := false, maxDischargeDepth := 20}) (disch := first | omega | (simp only [lenE]; done) | (simp only [lenE]; omega) | rfl | (simp only [lenE, markR_len]; done) | (simp only [lenE, markR_len]; omega)) only [runE, mapE, listE, initT_5, initT_6, initT_7, initT_8, resV, oneV, binA, unA, reduceCtorEq, Nat.reduceEqDiff, Nat.reduceAdd, Nat.reduceLT, Nat.reduceLeDiff, Nat.reduceMul, Nat.reduceSub, ↓reduceIte, decide_true, decide_false, Bool.true_eq_false, Bool.false_eq_true, Bool.not_true, Bool.not_false, if_true, if_false, and_true, true_and, memE, celE, w64, Nat.zero_add, Nat.add_zero, Nat.mul_one, putL, and_self, ldn, tm, t4, t5, t9, hc, bl_c8]
          refine callH_ac (among_new M' cb m.length a6 l [0, 0, 1, 3, 10, -1, 1000000000000, 1000000000001] d.cur (by omega) (by simp) rfl (by simp) (by simp)) ?_
          rintro v M9 ⟨g9, -, rfl, w9, a9, ha9, k9⟩
          have d9 := d.draw w9 k9
          simp (config := {implicitDefEqProofs := false, maxDischargeDepth := 20}) (disch := first | omega | (simp only [lenE]; done) | (simp only [lenE]; omega) | rfl | (simp only [lenE, markR_len]; done) | (simp only [lenE, markR_len]; omega)) only [runE, mapE, listE, initT_5, initT_6, initT_7, initT_8, resV, oneV, binA, unA, reduceCtorEq, Nat.reduceEqDiff, Nat.reduceAdd, Nat.reduceLT, Nat.reduceLeDiff, Nat.reduceMul, Nat.reduceSub, ↓reduceIte, decide_true, decide_false, Bool.true_eq_false, Bool.false_eq_true, Bool.not_true, Bool.not_false, if_true, if_false, and_true, true_and, memE, celE, w64, Nat.zero_add, Nat.add_zero, Nat.mul_one, putL, and_self, ldn, t4, t5]
          rw [hM0] at d9
          exact fin_lk d9 (by simp) (by omega)
      · have z1' : (z == 1) = false := by simp [z1]
        simp (config := {implicitDefEqProofs := false, maxDischargeDepth := 20}) (disch := first | omega | (simp only [lenE]; done) | (simp only [lenE]; omega) | rfl | (simp only [lenE, markR_len]; done) | (simp only [lenE, markR_len]; omega)) only [runE, mapE, listE, initT_5, initT_6, initT_7, initT_8, resV, oneV, binA, unA, reduceCtorEq, Nat.reduceEqDiff, Nat.reduceAdd, Nat.reduceLT, Nat.reduceLeDiff, Nat.reduceMul, Nat.reduceSub, ↓reduceIte, decide_true, decide_false, Bool.true_eq_false, Bool.false_eq_true, Bool.not_true, Bool.not_false, if_true, if_false, and_true, true_and, memE, celE, w64, Nat.zero_add, Nat.add_zero, Nat.mul_one, putL, and_self, ldn, t4, t5, t6, t7, t8, z0', z1', bl_c8]
        refine callH_ac (among_new M5 cb m.length a5 l [0, 0, 1, 3, 10, -1, 1000000000000, 1000000000001] d.cur (by omega) (by simp) rfl (by simp) (by simp)) ?_
        rintro v M9 ⟨g9, -, rfl, w9, a9, ha9, k9⟩
        have d9 := d.draw w9 k9
        simp (config := {implicitDefEqProofs := false, maxDischargeDepth := 20}) (disch := first | omega | (simp only [lenE]; done) | (simp only [lenE]; omega) | rfl | (simp only [lenE, markR_len]; done) | (simp only [lenE, markR_len]; omega)) only [runE, mapE, listE, initT_5, initT_6, initT_7, initT_8, resV, oneV, binA, unA, reduceCtorEq, Nat.reduceEqDiff, Nat.reduceAdd, Nat.reduceLT, Nat.reduceLeDiff, Nat.reduceMul, Nat.reduceSub, ↓reduceIte, decide_true, decide_false, Bool.true_eq_false, Bool.false_eq_true, Bool.not_true, Bool.not_false, if_true, if_false, and_true, true_and, memE, celE, w64, Nat.zero_add, Nat.add_zero, Nat.mul_one, putL, and_self, ldn, t4, t5]
        rw [hM0] at d9
        exact fin_lk d9 (by simp) (by omega)
end Go.Proofs.Ytckpfgkgigicpaa.Ab
end
section
namespace Go.Proofs.Ytckpfgkgigicpaa.Ab
open Go Go.RowKit
set_option linter.unusedVariables false
set_option linter.unusedSimpArgs false
theorem rowsC_set9 {T : List (List Int)} {R F : Nat → Nat} {s : Nat} {r : List Int} (hs : s < T.length) (hl : r.length = (T.getD s []).length) : rowsC (T.set s r) R F = rowsC T R F := by
  apply List.ext_getElem?
  intro i
  by_cases hi : i < T.length
  · rw [rowsC_at hi, rowsC_at (by rw [List.length_set]; exact hi)]
    by_cases e : i = s
    · subst e
      rw [List.getD_eq_getElem?_getD, List.getElem?_set_self hi, Option.getD_some, hl]
    · rw [List.getD_eq_getElem?_getD, List.getElem?_set_ne (Ne.symm e), ← List.getD_eq_getElem?_getD]
  · rw [List.getElem?_eq_none (by rw [rowsC_len, List.length_set]; omega), List.getElem?_eq_none (by rw [rowsC_len]; omega)]
theorem tabX_put {T : List (List Int)} {lo hi : Nat} {M : Mem} {id : Nat} {R F : Nat → Nat} (h : TabX T lo hi M id R F) {s : Nat} {r : List Int} (hs : s < T.length) (hl : r.length = (T.getD s []).length) : TabX (T.set s r) lo hi (M.set (R s) (Ab.rowB r)) id R F := by
  have hne : R s ≠ id := fun e2 => by
    have c' : M[R s]? = some (Ab.rowB (T.getD s [])) := (h.2.2.2.1 s hs).2.2
    have d : M[id]? = some ⟨.own, 24, rowsC T R F⟩ := h.2.2.1
    rw [e2, d] at c'
    cases c'
  refine ⟨h.1, h.2.1, by rw [rowsC_set9 hs hl]; exact h.2.2.1.set_ne hne _, fun j hj => ?_, fun i j hi hj => h.2.2.2.2 i j (by simpa using hi) (by simpa using hj)⟩
  rw [List.length_set] at hj
  obtain ⟨a, b, c⟩ := h.2.2.2.1 j hj
  refine ⟨a, b, ?_⟩
  by_cases e : j = s
  · subst e
    rw [List.getD_eq_getElem?_getD, List.getElem?_set_self hj, Option.getD_some]
    exact c.set_self
  · rw [List.getD_eq_getElem?_getD, List.getElem?_set_ne (Ne.symm e), ← List.getD_eq_getElem?_getD]
    exact c.set_ne fun e2 => e (h.2.2.2.2 j s hj hs e2.symm)
end Go.Proofs.Ytckpfgkgigicpaa.Ab
end
section
namespace Go.Proofs.Ytckpfgkgigicpaa.Ab
open Go Go.RowKit
set_option linter.unusedVariables false
set_option linter.unusedSimpArgs false
def valB (x : Int) : Bool := decide (-1000000000000 ≤ x) && decide (x ≤ 1000000000000)
def valsB (l : List Int) : Bool := l.all valB
def convOk (l : List Int) (k : Int) : Bool := decide (l.length ≤ 41) && valsB l && inZ 1000000000000 k
def convQ (l : List Int) (k : Int) (a v u : Nat) : Bool := decide ((v : Int) * l.getD a 0 + (u : Int) * (l.getD a 0 - l.getD (a - v) 0) ≤ (v : Int) * (k + l.getD (a + u) 0))
def convAt (l : List Int) (k : Int) (a : Nat) : Bool := (List.range a).all fun v => (List.range (l.length - a - 1)).all fun u => convQ l k a (v + 1) (u + 1)
def convB (l : List Int) (k : Int) : Bool := (List.range l.length).all (convAt l k)
theorem convAt_yes {l : List Int} {k : Int} {a : Nat} (h : ∀ v u, 1 ≤ v → v ≤ a → 1 ≤ u → a + u < l.length → convQ l k a v u = true) : convAt l k a = true := by
  simp only [convAt, List.all_eq_true, List.mem_range]
  exact fun v hv u hu => h (v + 1) (u + 1) (by omega) (by omega) (by omega) (by omega)
theorem convAt_no {l : List Int} {k : Int} {a v u : Nat} (h1 : 1 ≤ v) (h2 : v ≤ a) (h3 : 1 ≤ u) (h4 : a + u < l.length) (h : convQ l k a v u = false) : convAt l k a = false := by
  cases hr : convAt l k a with
  | false => rfl
  | true =>
    simp only [convAt, List.all_eq_true, List.mem_range] at hr
    have := hr (v - 1) (by omega) (u - 1) (by omega)
    rw [show v - 1 + 1 = v by omega, show u - 1 + 1 = u by omega, h] at this
    cases this
theorem convB_yes {l : List Int} {k : Int} (h : ∀ a, a < l.length → convAt l k a = true) : convB l k = true := by
  simp only [convB, List.all_eq_true, List.mem_range]; exact h
theorem convB_no {l : List Int} {k : Int} {a : Nat} (ha : a < l.length) (h : convAt l k a = false) : convB l k = false := by
  cases hr : convB l k with
  | false => rfl
  | true =>
    simp only [convB, List.all_eq_true, List.mem_range] at hr
    rw [hr a ha] at h; cases h
theorem vals_at {l : List Int} (h : valsB l = true) (i : Nat) : -1000000000000 ≤ l.getD i 0 ∧ l.getD i 0 ≤ 1000000000000 := by
  by_cases hi : i < l.length
  · simp only [valsB, List.all_eq_true] at h
    have := h l[i] (List.getElem_mem hi)
    simp only [valB, Bool.and_eq_true, decide_eq_true_eq] at this
    rw [List.getD_eq_getElem?_getD, List.getElem?_eq_getElem hi]; exact this
  · rw [List.getD_eq_getElem?_getD, List.getElem?_eq_none (by omega)]; exact ⟨by decide, by decide⟩
theorem mul_b {v : Nat} {x : Int} (hv : v ≤ 41) (h : -3000000000000 ≤ x ∧ x ≤ 3000000000000) : -123000000000000 ≤ (v : Int) * x ∧ (v : Int) * x ≤ 123000000000000 := by
  rcases Int.le_total 0 x with hx | hx
  · have := mul_in' (a := (v : Int)) (x := x) (A := 41) (B := 3000000000000) (by omega) (by omega); omega
  · have := mul_in' (a := (v : Int)) (x := -x) (A := 41) (B := 3000000000000) (by omega) (by omega)
    rw [Int.mul_neg] at this; omega
theorem at_z {m : Mem} {v : Value} {l : List Int} (h : IntsA m v l) {z : Int} {i : Nat} (hz : z = i) (hi : i < l.length) : iadA 1 v (.int .i64 z) = some (pAt v i) := by
  subst hz; exact h.at_ i hi
theorem vals_any (l : List Int) : (!l.any fun x => !valB x) = valsB l := by
  unfold valsB
  induction l with
  | nil => rfl
  | cons x l ih => rw [List.any_cons, List.all_cons, ← ih]; cases valB x <;> simp
theorem areValues_rc (m : Mem) (v : Value) (l : List Int) (h : IntsA m v l) : RC Try.prog 37 [v] m fun r new => r = .bool (valsB l) ∧ new = [] := by
  refine rc_of_run mixed ok_impl_areValues (by simp) (go_start _ _ _ ?_)
  simp (config := {implicitDefEqProofs := false, maxDischargeDepth := 20}) (disch := first | omega | (simp only [lenE]; done) | (simp only [lenE]; omega) | rfl | (simp only [lenE, markR_len]; done) | (simp only [lenE, markR_len]; omega)) only [runE, mapE, listE, initT_5, initT_6, initT_7, initT_8, resV, oneV, binA, unA, reduceCtorEq, Nat.reduceEqDiff, Nat.reduceAdd, Nat.reduceLT, Nat.reduceLeDiff, Nat.reduceMul, Nat.reduceSub, ↓reduceIte, decide_true, decide_false, Bool.true_eq_false, Bool.false_eq_true, Bool.not_true, Bool.not_false, if_true, if_false, and_true, true_and, memE, celE, w64, Nat.zero_add, Nat.add_zero, Nat.mul_one, putL, and_self, ldn, c_impl_areValues, r_impl_areValues]
  refine callH_rc (containsFunc_rc _ v _ l (fun x => !valB x) h.ro ⟨_, _, rfl, fun x m' _ => ?_⟩) ?_
  · refine rc_of_run mixed ok_impl_areValues_1 (by simp) (go_start _ _ _ ?_)
    simp (config := {implicitDefEqProofs := false, maxDischargeDepth := 20}) (disch := first | omega | (simp only [lenE]; done) | (simp only [lenE]; omega) | rfl | (simp only [lenE, markR_len]; done) | (simp only [lenE, markR_len]; omega)) only [runE, mapE, listE, initT_5, initT_6, initT_7, initT_8, resV, oneV, binA, unA, reduceCtorEq, Nat.reduceEqDiff, Nat.reduceAdd, Nat.reduceLT, Nat.reduceLeDiff, Nat.reduceMul, Nat.reduceSub, ↓reduceIte, decide_true, decide_false, Bool.true_eq_false, Bool.false_eq_true, Bool.not_true, Bool.not_false, if_true, if_false, and_true, true_and, memE, celE, w64, Nat.zero_add, Nat.add_zero, Nat.mul_one, putL, and_self, ldn, c_impl_areValues_1, r_impl_areValues_1]
    refine callH_rc (isNear_rc _ x 1000000000000 (by decide)) ?_
    rintro r new ⟨rfl, rfl⟩
    simp (config := {implicitDefEqProofs := false, maxDischargeDepth := 20}) (disch := first | omega | (simp only [lenE]; done) | (simp only [lenE]; omega) | rfl | (simp only [lenE, markR_len]; done) | (simp only [lenE, markR_len]; omega)) only [runE, mapE, listE, initT_5, initT_6, initT_7, initT_8, resV, oneV, binA, unA, reduceCtorEq, Nat.reduceEqDiff, Nat.reduceAdd, Nat.reduceLT, Nat.reduceLeDiff, Nat.reduceMul, Nat.reduceSub, ↓reduceIte, decide_true, decide_false, Bool.true_eq_false, Bool.false_eq_true, Bool.not_true, Bool.not_false, if_true, if_false, and_true, true_and, memE, celE, w64, Nat.zero_add, Nat.add_zero, Nat.mul_one, putL, and_self, ldn]
    exact newQ_nil ⟨rfl, rfl⟩
  rintro r new ⟨rfl, rfl⟩
  simp (config := {implicitDefEqProofs := false, maxDischargeDepth := 20}) (disch := first | omega | (simp only [lenE]; done) | (simp only [lenE]; omega) | rfl | (simp only [lenE, markR_len]; done) | (simp only [lenE, markR_len]; omega)) only [runE, mapE, listE, initT_5, initT_6, initT_7, initT_8, resV, oneV, binA, unA, reduceCtorEq, Nat.reduceEqDiff, Nat.reduceAdd, Nat.reduceLT, Nat.reduceLeDiff, Nat.reduceMul, Nat.reduceSub, ↓reduceIte, decide_true, decide_false, Bool.true_eq_false, Bool.false_eq_true, Bool.not_true, Bool.not_false, if_true, if_false, and_true, true_and, memE, celE, w64, Nat.zero_add, Nat.add_zero, Nat.mul_one, putL, and_self, ldn]
  refine newQ_nil ⟨?_, rfl⟩
  rw [vals_any]
theorem isConvexAt_rc (m : Mem) (v : Value) (l : List Int) (k : Int) (a : Nat) (h : IntsA m v l) (hl : l.length ≤ 41) (hv : valsB l = true) (hk : 0 ≤ k ∧ k ≤ 1000000000000) (ha : a < l.length) :
    RC Try.prog 39 [v, .int .i64 k, .int .i64 a] m fun r new => r = .bool (convAt l k a) ∧ new = [] := by
  refine rc_of_run mixed ok_impl_isConvexAt (by simp) (go_start _ _ _ ?_)
  have hr := h.ro
  simp (config := {implicitDefEqProofs := false, maxDischargeDepth := 20}) (disch := first | omega | (simp only [lenE]; done) | (simp only [lenE]; omega) | rfl | (simp only [lenE, markR_len]; done) | (simp only [lenE, markR_len]; omega)) only [runE, mapE, listE, initT_5, initT_6, initT_7, initT_8, resV, oneV, binA, unA, reduceCtorEq, Nat.reduceEqDiff, Nat.reduceAdd, Nat.reduceLT, Nat.reduceLeDiff, Nat.reduceMul, Nat.reduceSub, ↓reduceIte, decide_true, decide_false, Bool.true_eq_false, Bool.false_eq_true, Bool.not_true, Bool.not_false, if_true, if_false, and_true, true_and, memE, celE, w64, Nat.zero_add, Nat.add_zero, Nat.mul_one, putL, and_self, ldn, c_impl_isConvexAt, r_impl_isConvexAt]
  refine loop_inv mixed (fun s => ∃ (x : Nat), 1 ≤ x ∧ x ≤ a + 1 ∧ s.m = roM m ∧ (∀ w u, 1 ≤ w → w < x → 1 ≤ u → a + u < l.length → convQ l k a w u = true) ∧ s.t 0 = v ∧ s.t 1 = .int .i64 k ∧ s.t 2 = .int .i64 a ∧ s.t 7 = .int .i64 x) (fun s => a + 1 - (intOf (s.t 7)).toNat)
    ⟨1, by omega, by omega, rfl, fun w u h1 h2 => absurd h2 (by omega), rfl, rfl, rfl, rfl⟩ ?_
  rintro s ⟨x, hx1, hx2, tm, hall, t0, t1, t2, t7⟩
  by_cases hlt : x ≤ a
  · have hlt' : (x : Int) ≤ a := by omega
    simp (config := {implicitDefEqProofs := false, maxDischargeDepth := 20}) (disch := first | omega | (simp only [lenE]; done) | (simp only [lenE]; omega) | rfl | (simp only [lenE, markR_len]; done) | (simp only [lenE, markR_len]; omega)) only [runE, mapE, listE, initT_5, initT_6, initT_7, initT_8, resV, oneV, binA, unA, reduceCtorEq, Nat.reduceEqDiff, Nat.reduceAdd, Nat.reduceLT, Nat.reduceLeDiff, Nat.reduceMul, Nat.reduceSub, ↓reduceIte, decide_true, decide_false, Bool.true_eq_false, Bool.false_eq_true, Bool.not_true, Bool.not_false, if_true, if_false, and_true, true_and, memE, celE, w64, Nat.zero_add, Nat.add_zero, Nat.mul_one, putL, and_self, ldn, tm, t0, t1, t2, t7, hlt']
    refine loop_inv mixed (fun s => ∃ (u : Nat), 1 ≤ u ∧ u ≤ l.length ∧ s.m = roM m ∧ (∀ w, 1 ≤ w → w < u → a + w < l.length → convQ l k a x w = true) ∧ s.t 0 = v ∧ s.t 1 = .int .i64 k ∧ s.t 2 = .int .i64 a ∧ s.t 7 = .int .i64 x ∧ s.t 8 = .int .i64 u) (fun s => l.length - (intOf (s.t 8)).toNat)
      ⟨1, by omega, by omega, tm, fun w h1 h2 => absurd h2 (by omega), t0, t1, t2, t7, rfl⟩ ?_
    rintro s ⟨u, hu1, hu2, tm, hin, t0, t1, t2, t7, t8⟩
    by_cases hltu : a + u < l.length
    · have hltu' : (a : Int) + u < l.length := by omega
      have b1 := vals_at hv a
      have b2 := vals_at hv (a + u)
      have b3 := vals_at hv (a - x)
      have m1 := mul_b (v := x) (x := k + l.getD (a + u) 0) (by omega) (by omega)
      have m2 := mul_b (v := x) (x := l.getD a 0) (by omega) (by omega)
      have m3 := mul_b (v := u) (x := l.getD a 0 - l.getD (a - x) 0) (by omega) (by omega)
      have e1 := at_z hr (z := (a : Int) + u) (i := a + u) (by omega) hltu
      have e3 := at_z hr (z := (a : Int) - x) (i := a - x) (by omega) (by omega)
      by_cases hq : (x : Int) * (k + l.getD (a + u) 0) < (x : Int) * l.getD a 0 + (u : Int) * (l.getD a 0 - l.getD (a - x) 0)
      · simp (config := {implicitDefEqProofs := false, maxDischargeDepth := 20}) (disch := first | omega | (simp only [lenE]; done) | (simp only [lenE]; omega) | rfl | (simp only [lenE, markR_len]; done) | (simp only [lenE, markR_len]; omega)) only [runE, mapE, listE, initT_5, initT_6, initT_7, initT_8, resV, oneV, binA, unA, reduceCtorEq, Nat.reduceEqDiff, Nat.reduceAdd, Nat.reduceLT, Nat.reduceLeDiff, Nat.reduceMul, Nat.reduceSub, ↓reduceIte, decide_true, decide_false, Bool.true_eq_false, Bool.false_eq_true, Bool.not_true, Bool.not_false, if_true, if_false, and_true, true_and, memE, celE, w64, Nat.zero_add, Nat.add_zero, Nat.mul_one, putL, and_self, ldn, tm, t0, t1, t2, t7, t8, hr.len, hltu', e1, e3, hr.at_ a ha, hr.ld a ha, hr.ld (a + u) hltu, hr.ld (a - x) (by omega), hq]
        exact newQ_nil ⟨by rw [convAt_no (v := x) (u := u) hx1 hlt hu1 hltu (by simp only [convQ]; exact decide_eq_false (by omega))], rfl⟩
      · simp (config := {implicitDefEqProofs := false, maxDischargeDepth := 20}) (disch := first | omega | (simp only [lenE]; done) | (simp only [lenE]; omega) | rfl | (simp only [lenE, markR_len]; done) | (simp only [lenE, markR_len]; omega)) only [runE, mapE, listE, initT_5, initT_6, initT_7, initT_8, resV, oneV, binA, unA, reduceCtorEq, Nat.reduceEqDiff, Nat.reduceAdd, Nat.reduceLT, Nat.reduceLeDiff, Nat.reduceMul, Nat.reduceSub, ↓reduceIte, decide_true, decide_false, Bool.true_eq_false, Bool.false_eq_true, Bool.not_true, Bool.not_false, if_true, if_false, and_true, true_and, memE, celE, w64, Nat.zero_add, Nat.add_zero, Nat.mul_one, putL, and_self, ldn, tm, t0, t1, t2, t7, t8, hr.len, hltu', e1, e3, hr.at_ a ha, hr.ld a ha, hr.ld (a + u) hltu, hr.ld (a - x) (by omega), hq]
        refine ⟨⟨u + 1, by omega, by omega, fun w h1 h2 h3 => ?_, by simp⟩, by simp [intOf]; omega⟩
        by_cases e : w = u
        · rw [e]; simp only [convQ]; exact decide_eq_true (by omega)
        · exact hin w h1 (by omega) h3
    · have hltu' : ¬ ((a : Int) + u < l.length) := by omega
      simp (config := {implicitDefEqProofs := false, maxDischargeDepth := 20}) (disch := first | omega | (simp only [lenE]; done) | (simp only [lenE]; omega) | rfl | (simp only [lenE, markR_len]; done) | (simp only [lenE, markR_len]; omega)) only [runE, mapE, listE, initT_5, initT_6, initT_7, initT_8, resV, oneV, binA, unA, reduceCtorEq, Nat.reduceEqDiff, Nat.reduceAdd, Nat.reduceLT, Nat.reduceLeDiff, Nat.reduceMul, Nat.reduceSub, ↓reduceIte, decide_true, decide_false, Bool.true_eq_false, Bool.false_eq_true, Bool.not_true, Bool.not_false, if_true, if_false, and_true, true_and, memE, celE, w64, Nat.zero_add, Nat.add_zero, Nat.mul_one, putL, and_self, ldn, tm, t0, t1, t2, t7, t8, hr.len, hltu']
      refine ⟨⟨x + 1, by omega, by omega, fun w u' h1 h2 h3 h4 => ?_, by simp⟩, by simp [intOf]; omega⟩
      by_cases e : w = x
      · rw [e]; exact hin u' h3 (by omega) h4
      · exact hall w u' h1 (by omega) h3 h4
  · have hlt' : ¬ ((x : Int) ≤ a) := by omega
    simp (config := {implicitDefEqProofs := false, maxDischargeDepth := 20}) (disch := first | omega | (simp only [lenE]; done) | (simp only [lenE]; omega) | rfl | (simp only [lenE, markR_len]; done) | (simp only [lenE, markR_len]; omega)) only [runE, mapE, listE, initT_5, initT_6, initT_7, initT_8, resV, oneV, binA, unA, reduceCtorEq, Nat.reduceEqDiff, Nat.reduceAdd, Nat.reduceLT, Nat.reduceLeDiff, Nat.reduceMul, Nat.reduceSub, ↓reduceIte, decide_true, decide_false, Bool.true_eq_false, Bool.false_eq_true, Bool.not_true, Bool.not_false, if_true, if_false, and_true, true_and, memE, celE, w64, Nat.zero_add, Nat.add_zero, Nat.mul_one, putL, and_self, ldn, tm, t0, t1, t2, t7, hlt']
    exact newQ_nil ⟨by rw [convAt_yes fun w u h1 h2 h3 h4 => hall w u h1 (by omega) h3 h4], rfl⟩
theorem implConvex_rc (m : Mem) (v : Value) (l : List Int) (k : Int) (h : IntsA m v l) : RC Try.prog 12 [v, .int .i64 k] m (AnsV (.tuple #[.bool (convOk l k && convB l k), .bool (convOk l k)])) := by
  refine rc_of_run mixed ok_impl_IsConvexFor (by simp) (go_start _ _ _ ?_)
  have hr := h.ro
  have fin : convOk l k = false → newQ m (AnsV (.tuple #[.bool (convOk l k && convB l k), .bool (convOk l k)])) (.tuple #[.bool false, .bool false]) (roM m) := fun e => newQ_nil ⟨by rw [e]; rfl, noRo_nil⟩
  by_cases hl : l.length ≤ 41
  · have hl' : ¬ ((41 : Int) < l.length) := by omega
    simp (config := {implicitDefEqProofs := false, maxDischargeDepth := 20}) (disch := first | omega | (simp only [lenE]; done) | (simp only [lenE]; omega) | rfl | (simp only [lenE, markR_len]; done) | (simp only [lenE, markR_len]; omega)) only [runE, mapE, listE, initT_5, initT_6, initT_7, initT_8, resV, oneV, binA, unA, reduceCtorEq, Nat.reduceEqDiff, Nat.reduceAdd, Nat.reduceLT, Nat.reduceLeDiff, Nat.reduceMul, Nat.reduceSub, ↓reduceIte, decide_true, decide_false, Bool.true_eq_false, Bool.false_eq_true, Bool.not_true, Bool.not_false, if_true, if_false, and_true, true_and, memE, celE, w64, Nat.zero_add, Nat.add_zero, Nat.mul_one, putL, and_self, ldn, c_impl_IsConvexFor, r_impl_IsConvexFor, hr.len, gt_iff_lt, hl']
    refine callH_rc (areValues_rc _ v l hr) ?_
    rintro r new ⟨rfl, rfl⟩
    rw [List.append_nil]
    cases hv : valsB l with
    | false =>
      simp (config := {implicitDefEqProofs := false, maxDischargeDepth := 20}) (disch := first | omega | (simp only [lenE]; done) | (simp only [lenE]; omega) | rfl | (simp only [lenE, markR_len]; done) | (simp only [lenE, markR_len]; omega)) only [runE, mapE, listE, initT_5, initT_6, initT_7, initT_8, resV, oneV, binA, unA, reduceCtorEq, Nat.reduceEqDiff, Nat.reduceAdd, Nat.reduceLT, Nat.reduceLeDiff, Nat.reduceMul, Nat.reduceSub, ↓reduceIte, decide_true, decide_false, Bool.true_eq_false, Bool.false_eq_true, Bool.not_true, Bool.not_false, if_true, if_false, and_true, true_and, memE, celE, w64, Nat.zero_add, Nat.add_zero, Nat.mul_one, putL, and_self, ldn]
      exact fin (by simp [convOk, hv])
    | true =>
    simp (config := {implicitDefEqProofs := false, maxDischargeDepth := 20}) (disch := first | omega | (simp only [lenE]; done) | (simp only [lenE]; omega) | rfl | (simp only [lenE, markR_len]; done) | (simp only [lenE, markR_len]; omega)) only [runE, mapE, listE, initT_5, initT_6, initT_7, initT_8, resV, oneV, binA, unA, reduceCtorEq, Nat.reduceEqDiff, Nat.reduceAdd, Nat.reduceLT, Nat.reduceLeDiff, Nat.reduceMul, Nat.reduceSub, ↓reduceIte, decide_true, decide_false, Bool.true_eq_false, Bool.false_eq_true, Bool.not_true, Bool.not_false, if_true, if_false, and_true, true_and, memE, celE, w64, Nat.zero_add, Nat.add_zero, Nat.mul_one, putL, and_self, ldn]
    refine callH_rc (isWithin_rc _ _ _) ?_
    rintro r new ⟨rfl, rfl⟩
    rw [List.append_nil, show inB 1000000000000 k = inZ 1000000000000 k from rfl]
    cases hk : inZ 1000000000000 k with
    | false =>
      simp (config := {implicitDefEqProofs := false, maxDischargeDepth := 20}) (disch := first | omega | (simp only [lenE]; done) | (simp only [lenE]; omega) | rfl | (simp only [lenE, markR_len]; done) | (simp only [lenE, markR_len]; omega)) only [runE, mapE, listE, initT_5, initT_6, initT_7, initT_8, resV, oneV, binA, unA, reduceCtorEq, Nat.reduceEqDiff, Nat.reduceAdd, Nat.reduceLT, Nat.reduceLeDiff, Nat.reduceMul, Nat.reduceSub, ↓reduceIte, decide_true, decide_false, Bool.true_eq_false, Bool.false_eq_true, Bool.not_true, Bool.not_false, if_true, if_false, and_true, true_and, memE, celE, w64, Nat.zero_add, Nat.add_zero, Nat.mul_one, putL, and_self, ldn]
      exact fin (by simp [convOk, hk])
    | true =>
    have hok : convOk l k = true := by simp [convOk, hv, hk, hl]
    have hk' : 0 ≤ k ∧ k ≤ 1000000000000 := by simpa only [inZ, Bool.and_eq_true, decide_eq_true_eq] using hk
    rw [hok]
    simp (config := {implicitDefEqProofs := false, maxDischargeDepth := 20}) (disch := first | omega | (simp only [lenE]; done) | (simp only [lenE]; omega) | rfl | (simp only [lenE, markR_len]; done) | (simp only [lenE, markR_len]; omega)) only [runE, mapE, listE, initT_5, initT_6, initT_7, initT_8, resV, oneV, binA, unA, reduceCtorEq, Nat.reduceEqDiff, Nat.reduceAdd, Nat.reduceLT, Nat.reduceLeDiff, Nat.reduceMul, Nat.reduceSub, ↓reduceIte, decide_true, decide_false, Bool.true_eq_false, Bool.false_eq_true, Bool.not_true, Bool.not_false, if_true, if_false, and_true, true_and, memE, celE, w64, Nat.zero_add, Nat.add_zero, Nat.mul_one, putL, and_self, ldn, hr.len]
    refine loop_inv mixed (fun s => ∃ (a : Nat), a ≤ l.length ∧ s.m = roM m ∧ (∀ b, b < a → convAt l k b = true) ∧ s.t 0 = v ∧ s.t 1 = .int .i64 k ∧ s.t 21 = .int .i64 l.length ∧ s.t 22 = .int .i64 a) (fun s => l.length - (intOf (s.t 22)).toNat)
      ⟨0, by omega, rfl, fun b hb => absurd hb (by omega), rfl, rfl, rfl, rfl⟩ ?_
    rintro s ⟨a, ha, tm, hall, t0, t1, t21, t22⟩
    by_cases hlt : a < l.length
    · have hlt' : (a : Int) < l.length := by omega
      simp (config := {implicitDefEqProofs := false, maxDischargeDepth := 20}) (disch := first | omega | (simp only [lenE]; done) | (simp only [lenE]; omega) | rfl | (simp only [lenE, markR_len]; done) | (simp only [lenE, markR_len]; omega)) only [runE, mapE, listE, initT_5, initT_6, initT_7, initT_8, resV, oneV, binA, unA, reduceCtorEq, Nat.reduceEqDiff, Nat.reduceAdd, Nat.reduceLT, Nat.reduceLeDiff, Nat.reduceMul, Nat.reduceSub, ↓reduceIte, decide_true, decide_false, Bool.true_eq_false, Bool.false_eq_true, Bool.not_true, Bool.not_false, if_true, if_false, and_true, true_and, memE, celE, w64, Nat.zero_add, Nat.add_zero, Nat.mul_one, putL, and_self, ldn, tm, t0, t1, t21, t22, hlt']
      refine callH_rc (isConvexAt_rc _ v l k a hr hl hv hk' hlt) ?_
      rintro r new ⟨rfl, rfl⟩
      rw [List.append_nil]
      cases hc : convAt l k a with
      | false =>
        simp (config := {implicitDefEqProofs := false, maxDischargeDepth := 20}) (disch := first | omega | (simp only [lenE]; done) | (simp only [lenE]; omega) | rfl | (simp only [lenE, markR_len]; done) | (simp only [lenE, markR_len]; omega)) only [runE, mapE, listE, initT_5, initT_6, initT_7, initT_8, resV, oneV, binA, unA, reduceCtorEq, Nat.reduceEqDiff, Nat.reduceAdd, Nat.reduceLT, Nat.reduceLeDiff, Nat.reduceMul, Nat.reduceSub, ↓reduceIte, decide_true, decide_false, Bool.true_eq_false, Bool.false_eq_true, Bool.not_true, Bool.not_false, if_true, if_false, and_true, true_and, memE, celE, w64, Nat.zero_add, Nat.add_zero, Nat.mul_one, putL, and_self, ldn, tm, t0, t1, t21, t22]
        exact newQ_nil ⟨by rw [convB_no hlt hc]; rfl, noRo_nil⟩
      | true =>
        simp (config := {implicitDefEqProofs := false, maxDischargeDepth := 20}) (disch := first | omega | (simp only [lenE]; done) | (simp only [lenE]; omega) | rfl | (simp only [lenE, markR_len]; done) | (simp only [lenE, markR_len]; omega)) only [runE, mapE, listE, initT_5, initT_6, initT_7, initT_8, resV, oneV, binA, unA, reduceCtorEq, Nat.reduceEqDiff, Nat.reduceAdd, Nat.reduceLT, Nat.reduceLeDiff, Nat.reduceMul, Nat.reduceSub, ↓reduceIte, decide_true, decide_false, Bool.true_eq_false, Bool.false_eq_true, Bool.not_true, Bool.not_false, if_true, if_false, and_true, true_and, memE, celE, w64, Nat.zero_add, Nat.add_zero, Nat.mul_one, putL, and_self, ldn, tm, t0, t1, t21, t22]
        refine ⟨⟨a + 1, by omega, fun b hb => ?_, by simp⟩, by simp [intOf]; omega⟩
        by_cases e : b = a
        · rw [e]; exact hc
        · exact hall b (by omega)
    · have hlt' : ¬ ((a : Int) < l.length) := by omega
      simp (config := {implicitDefEqProofs := false, maxDischargeDepth := 20}) (disch := first | omega | (simp only [lenE]; done) | (simp only [lenE]; omega) | rfl | (simp only [lenE, markR_len]; done) | (simp only [lenE, markR_len]; omega)) only [runE, mapE, listE, initT_5, initT_6, initT_7, initT_8, resV, oneV, binA, unA, reduceCtorEq, Nat.reduceEqDiff, Nat.reduceAdd, Nat.reduceLT, Nat.reduceLeDiff, Nat.reduceMul, Nat.reduceSub, ↓reduceIte, decide_true, decide_false, Bool.true_eq_false, Bool.false_eq_true, Bool.not_true, Bool.not_false, if_true, if_false, and_true, true_and, memE, celE, w64, Nat.zero_add, Nat.add_zero, Nat.mul_one, putL, and_self, ldn, tm, t0, t1, t21, t22, hlt']
      exact newQ_nil ⟨by rw [convB_yes fun b hb => hall b (by omega)]; rfl, noRo_nil⟩
  · have hl' : (41 : Int) < l.length := by omega
    simp (config := {implicitDefEqProofs := false, maxDischargeDepth := 20}) (disch := first | omega | (simp only [lenE]; done) | (simp only [lenE]; omega) | rfl | (simp only [lenE, markR_len]; done) | (simp only [lenE, markR_len]; omega)) only [runE, mapE, listE, initT_5, initT_6, initT_7, initT_8, resV, oneV, binA, unA, reduceCtorEq, Nat.reduceEqDiff, Nat.reduceAdd, Nat.reduceLT, Nat.reduceLeDiff, Nat.reduceMul, Nat.reduceSub, ↓reduceIte, decide_true, decide_false, Bool.true_eq_false, Bool.false_eq_true, Bool.not_true, Bool.not_false, if_true, if_false, and_true, true_and, memE, celE, w64, Nat.zero_add, Nat.add_zero, Nat.mul_one, putL, and_self, ldn, c_impl_IsConvexFor, r_impl_IsConvexFor, hr.len, gt_iff_lt, hl']
    exact fin (by simp [convOk, hl])
theorem specConvex_rc (m : Mem) (v : Value) (l : List Int) (k : Int) (h : IntsA m v l) : RC Try.prog 13 [v, .int .i64 k] m (AnsV (.tuple #[.bool (convOk l k && convB l k), .bool (convOk l k)])) := by
  refine rc_of_run mixed ok_spec_IsConvexFor (by simp) (go_start _ _ _ ?_)
  have hr := h.ro
  have fin : convOk l k = false → newQ m (AnsV (.tuple #[.bool (convOk l k && convB l k), .bool (convOk l k)])) (.tuple #[.bool false, .bool false]) (roM m) := fun e => newQ_nil ⟨by rw [e]; rfl, noRo_nil⟩
  simp (config := {implicitDefEqProofs := false, maxDischargeDepth := 20}) (disch := first | omega | (simp only [lenE]; done) | (simp only [lenE]; omega) | rfl | (simp only [lenE, markR_len]; done) | (simp only [lenE, markR_len]; omega)) only [runE, mapE, listE, initT_5, initT_6, initT_7, initT_8, resV, oneV, binA, unA, reduceCtorEq, Nat.reduceEqDiff, Nat.reduceAdd, Nat.reduceLT, Nat.reduceLeDiff, Nat.reduceMul, Nat.reduceSub, ↓reduceIte, decide_true, decide_false, Bool.true_eq_false, Bool.false_eq_true, Bool.not_true, Bool.not_false, if_true, if_false, and_true, true_and, memE, celE, w64, Nat.zero_add, Nat.add_zero, Nat.mul_one, putL, and_self, ldn, c_spec_IsConvexFor, r_spec_IsConvexFor]
  refine loop_inv mixed (fun s => ∃ (i : Nat), i ≤ l.length ∧ i ≤ 42 ∧ s.m = roM m ∧ (∀ j, j < i → valB (l.getD j 0) = true) ∧ s.t 0 = v ∧ s.t 1 = .int .i64 k ∧ s.t 6 = .int .i64 i) (fun s => 43 - (intOf (s.t 6)).toNat)
    ⟨0, by omega, by omega, rfl, fun j hj => absurd hj (by omega), rfl, rfl, rfl⟩ ?_
  rintro s ⟨i, hi, hi42, tm, hall, t0, t1, t6⟩
  by_cases hgo : i < l.length ∧ i ≤ 41
  · have g1 : (i : Int) < l.length := by omega
    have g2 : (i : Int) ≤ 41 := by omega
    simp (config := {implicitDefEqProofs := false, maxDischargeDepth := 20}) (disch := first | omega | (simp only [lenE]; done) | (simp only [lenE]; omega) | rfl | (simp only [lenE, markR_len]; done) | (simp only [lenE, markR_len]; omega)) only [runE, mapE, listE, initT_5, initT_6, initT_7, initT_8, resV, oneV, binA, unA, reduceCtorEq, Nat.reduceEqDiff, Nat.reduceAdd, Nat.reduceLT, Nat.reduceLeDiff, Nat.reduceMul, Nat.reduceSub, ↓reduceIte, decide_true, decide_false, Bool.true_eq_false, Bool.false_eq_true, Bool.not_true, Bool.not_false, if_true, if_false, and_true, true_and, memE, celE, w64, Nat.zero_add, Nat.add_zero, Nat.mul_one, putL, and_self, ldn, tm, t0, t1, t6, hr.len, g1, g2, hr.at_ i hgo.1, hr.ld i hgo.1]
    refine callH_rc (l1In_rc _ _ _ _) ?_
    rintro r new ⟨rfl, rfl⟩
    rw [List.append_nil, show (decide ((-1000000000000 : Int) ≤ l.getD i 0) && decide (l.getD i 0 ≤ 1000000000000)) = valB (l.getD i 0) from rfl]
    cases hv : valB (l.getD i 0) with
    | false =>
      simp (config := {implicitDefEqProofs := false, maxDischargeDepth := 20}) (disch := first | omega | (simp only [lenE]; done) | (simp only [lenE]; omega) | rfl | (simp only [lenE, markR_len]; done) | (simp only [lenE, markR_len]; omega)) only [runE, mapE, listE, initT_5, initT_6, initT_7, initT_8, resV, oneV, binA, unA, reduceCtorEq, Nat.reduceEqDiff, Nat.reduceAdd, Nat.reduceLT, Nat.reduceLeDiff, Nat.reduceMul, Nat.reduceSub, ↓reduceIte, decide_true, decide_false, Bool.true_eq_false, Bool.false_eq_true, Bool.not_true, Bool.not_false, if_true, if_false, and_true, true_and, memE, celE, w64, Nat.zero_add, Nat.add_zero, Nat.mul_one, putL, and_self, ldn, tm, t0, t1, t6]
      refine fin ?_
      have : valsB l = false := by
        cases hr : valsB l with
        | false => rfl
        | true =>
          have := vals_at hr i
          have h2 : valB (l.getD i 0) = true := by simp only [valB, Bool.and_eq_true, decide_eq_true_eq]; exact this
          rw [h2] at hv; cases hv
      simp [convOk, this]
    | true =>
      simp (config := {implicitDefEqProofs := false, maxDischargeDepth := 20}) (disch := first | omega | (simp only [lenE]; done) | (simp only [lenE]; omega) | rfl | (simp only [lenE, markR_len]; done) | (simp only [lenE, markR_len]; omega)) only [runE, mapE, listE, initT_5, initT_6, initT_7, initT_8, resV, oneV, binA, unA, reduceCtorEq, Nat.reduceEqDiff, Nat.reduceAdd, Nat.reduceLT, Nat.reduceLeDiff, Nat.reduceMul, Nat.reduceSub, ↓reduceIte, decide_true, decide_false, Bool.true_eq_false, Bool.false_eq_true, Bool.not_true, Bool.not_false, if_true, if_false, and_true, true_and, memE, celE, w64, Nat.zero_add, Nat.add_zero, Nat.mul_one, putL, and_self, ldn, tm, t0, t1, t6]
      refine ⟨⟨i + 1, by omega, by omega, fun j hj => ?_, by simp⟩, by simp [intOf]; omega⟩
      by_cases e : j = i
      · rw [e]; exact hv
      · exact hall j (by omega)
  · have stop : (decide ((i : Int) < l.length) && decide ((i : Int) ≤ 41)) = false := by
      by_cases g1 : (i : Int) < l.length
      · have : ¬ ((i : Int) ≤ 41) := by omega
        simp [this]
      · simp [g1]
    have hstep : ∀ {X : Prop}, ((i : Int) < l.length → ¬ ((i : Int) ≤ 41) → X) → (¬ ((i : Int) < l.length) → X) → X := fun a b => by
      by_cases g1 : (i : Int) < l.length
      · exact a g1 (by omega)
      · exact b g1
    have tail : 41 < l.length ∨ (l.length ≤ 41 ∧ valsB l = true) := by
      by_cases hl : l.length ≤ 41
      · right
        refine ⟨hl, ?_⟩
        simp only [valsB, List.all_eq_true]
        intro x hx
        obtain ⟨j, hj, rfl⟩ := List.getElem_of_mem hx
        have := hall j (by omega)
        rwa [List.getD_eq_getElem?_getD, List.getElem?_eq_getElem hj] at this
      · left; omega
    have hb := hr.bd
    rcases tail with hl | ⟨hl, hv⟩
    · have hl' : (41 : Int) < l.length := by omega
      have key : convOk l k = false := by
        have : ¬ (l.length ≤ 41) := by omega
        simp [convOk, this]
      refine hstep (fun g1 g2 => ?_) (fun g1 => ?_)
      · simp (config := {implicitDefEqProofs := false, maxDischargeDepth := 20}) (disch := first | omega | (simp only [lenE]; done) | (simp only [lenE]; omega) | rfl | (simp only [lenE, markR_len]; done) | (simp only [lenE, markR_len]; omega)) only [runE, mapE, listE, initT_5, initT_6, initT_7, initT_8, resV, oneV, binA, unA, reduceCtorEq, Nat.reduceEqDiff, Nat.reduceAdd, Nat.reduceLT, Nat.reduceLeDiff, Nat.reduceMul, Nat.reduceSub, ↓reduceIte, decide_true, decide_false, Bool.true_eq_false, Bool.false_eq_true, Bool.not_true, Bool.not_false, if_true, if_false, and_true, true_and, memE, celE, w64, Nat.zero_add, Nat.add_zero, Nat.mul_one, putL, and_self, ldn, tm, t0, t1, t6, hr.len, g1, g2, gt_iff_lt, hl']
        exact fin key
      · simp (config := {implicitDefEqProofs := false, maxDischargeDepth := 20}) (disch := first | omega | (simp only [lenE]; done) | (simp only [lenE]; omega) | rfl | (simp only [lenE, markR_len]; done) | (simp only [lenE, markR_len]; omega)) only [runE, mapE, listE, initT_5, initT_6, initT_7, initT_8, resV, oneV, binA, unA, reduceCtorEq, Nat.reduceEqDiff, Nat.reduceAdd, Nat.reduceLT, Nat.reduceLeDiff, Nat.reduceMul, Nat.reduceSub, ↓reduceIte, decide_true, decide_false, Bool.true_eq_false, Bool.false_eq_true, Bool.not_true, Bool.not_false, if_true, if_false, and_true, true_and, memE, celE, w64, Nat.zero_add, Nat.add_zero, Nat.mul_one, putL, and_self, ldn, tm, t0, t1, t6, hr.len, g1, gt_iff_lt, hl']
        exact fin key
    · have hl' : ¬ ((41 : Int) < l.length) := by omega
      have g1 : ¬ ((i : Int) < l.length) := by omega
      simp (config := {implicitDefEqProofs := false, maxDischargeDepth := 20}) (disch := first | omega | (simp only [lenE]; done) | (simp only [lenE]; omega) | rfl | (simp only [lenE, markR_len]; done) | (simp only [lenE, markR_len]; omega)) only [runE, mapE, listE, initT_5, initT_6, initT_7, initT_8, resV, oneV, binA, unA, reduceCtorEq, Nat.reduceEqDiff, Nat.reduceAdd, Nat.reduceLT, Nat.reduceLeDiff, Nat.reduceMul, Nat.reduceSub, ↓reduceIte, decide_true, decide_false, Bool.true_eq_false, Bool.false_eq_true, Bool.not_true, Bool.not_false, if_true, if_false, and_true, true_and, memE, celE, w64, Nat.zero_add, Nat.add_zero, Nat.mul_one, putL, and_self, ldn, tm, t0, t1, t6, hr.len, g1, gt_iff_lt, hl']
      refine callH_rc (l1In_rc _ _ _ _) ?_
      rintro r new ⟨rfl, rfl⟩
      rw [List.append_nil, show (decide ((0 : Int) ≤ k) && decide (k ≤ 1000000000000)) = inZ 1000000000000 k from rfl]
      cases hk : inZ 1000000000000 k with
      | false =>
        simp (config := {implicitDefEqProofs := false, maxDischargeDepth := 20}) (disch := first | omega | (simp only [lenE]; done) | (simp only [lenE]; omega) | rfl | (simp only [lenE, markR_len]; done) | (simp only [lenE, markR_len]; omega)) only [runE, mapE, listE, initT_5, initT_6, initT_7, initT_8, resV, oneV, binA, unA, reduceCtorEq, Nat.reduceEqDiff, Nat.reduceAdd, Nat.reduceLT, Nat.reduceLeDiff, Nat.reduceMul, Nat.reduceSub, ↓reduceIte, decide_true, decide_false, Bool.true_eq_false, Bool.false_eq_true, Bool.not_true, Bool.not_false, if_true, if_false, and_true, true_and, memE, celE, w64, Nat.zero_add, Nat.add_zero, Nat.mul_one, putL, and_self, ldn]
        exact fin (by simp [convOk, hk])
      | true =>
      have hok : convOk l k = true := by simp [convOk, hv, hk, hl]
      have hk' : 0 ≤ k ∧ k ≤ 1000000000000 := by simpa only [inZ, Bool.and_eq_true, decide_eq_true_eq] using hk
      rw [hok]
      simp (config := {implicitDefEqProofs := false, maxDischargeDepth := 20}) (disch := first | omega | (simp only [lenE]; done) | (simp only [lenE]; omega) | rfl | (simp only [lenE, markR_len]; done) | (simp only [lenE, markR_len]; omega)) only [runE, mapE, listE, initT_5, initT_6, initT_7, initT_8, resV, oneV, binA, unA, reduceCtorEq, Nat.reduceEqDiff, Nat.reduceAdd, Nat.reduceLT, Nat.reduceLeDiff, Nat.reduceMul, Nat.reduceSub, ↓reduceIte, decide_true, decide_false, Bool.true_eq_false, Bool.false_eq_true, Bool.not_true, Bool.not_false, if_true, if_false, and_true, true_and, memE, celE, w64, Nat.zero_add, Nat.add_zero, Nat.mul_one, putL, and_self, ldn, t0, t1]
      refine loop_inv mixed (fun s => ∃ (a : Nat), a ≤ l.length ∧ s.m = roM m ∧ (∀ b, b < a → convAt l k b = true) ∧ s.t 0 = v ∧ s.t 1 = .int .i64 k ∧ s.t 7 = .int .i64 a) (fun s => l.length - (intOf (s.t 7)).toNat)
        ⟨0, by omega, rfl, fun b hb => absurd hb (by omega), by simp only [put_t, put_t', put_m, putT_t, putT_t', putT_m, init_t, init_m, initT_0, initT_1, initT_2, initT_3, initT_4, initT_5, initT_6, initT_7, initT_8, Nat.reduceEqDiff, ↓reduceIte, t0], by simp only [put_t, put_t', put_m, putT_t, putT_t', putT_m, init_t, init_m, initT_0, initT_1, initT_2, initT_3, initT_4, initT_5, initT_6, initT_7, initT_8, Nat.reduceEqDiff, ↓reduceIte, t1], rfl⟩ ?_
      rintro s ⟨a, ha, tm, hall, t0, t1, t7⟩
      by_cases hlt : a < l.length
      · have hlt' : (a : Int) < l.length := by omega
        simp (config := {implicitDefEqProofs := false, maxDischargeDepth := 20}) (disch := first | omega | (simp only [lenE]; done) | (simp only [lenE]; omega) | rfl | (simp only [lenE, markR_len]; done) | (simp only [lenE, markR_len]; omega)) only [runE, mapE, listE, initT_5, initT_6, initT_7, initT_8, resV, oneV, binA, unA, reduceCtorEq, Nat.reduceEqDiff, Nat.reduceAdd, Nat.reduceLT, Nat.reduceLeDiff, Nat.reduceMul, Nat.reduceSub, ↓reduceIte, decide_true, decide_false, Bool.true_eq_false, Bool.false_eq_true, Bool.not_true, Bool.not_false, if_true, if_false, and_true, true_and, memE, celE, w64, Nat.zero_add, Nat.add_zero, Nat.mul_one, putL, and_self, ldn, tm, t0, t1, t7, hr.len, hlt']
        refine loop_inv mixed (fun s => ∃ (x : Nat), 1 ≤ x ∧ x ≤ a + 1 ∧ s.m = roM m ∧ (∀ w u, 1 ≤ w → w < x → 1 ≤ u → a + u < l.length → convQ l k a w u = true) ∧ s.t 0 = v ∧ s.t 1 = .int .i64 k ∧ s.t 7 = .int .i64 a ∧ s.t 8 = .int .i64 x) (fun s => a + 1 - (intOf (s.t 8)).toNat)
          ⟨1, by omega, by omega, tm, fun w u h1 h2 => absurd h2 (by omega), t0, t1, t7, rfl⟩ ?_
        rintro s ⟨x, hx1, hx2, tm, hall2, t0, t1, t7, t8⟩
        by_cases hltx : x ≤ a
        · have hltx' : (x : Int) ≤ a := by omega
          simp (config := {implicitDefEqProofs := false, maxDischargeDepth := 20}) (disch := first | omega | (simp only [lenE]; done) | (simp only [lenE]; omega) | rfl | (simp only [lenE, markR_len]; done) | (simp only [lenE, markR_len]; omega)) only [runE, mapE, listE, initT_5, initT_6, initT_7, initT_8, resV, oneV, binA, unA, reduceCtorEq, Nat.reduceEqDiff, Nat.reduceAdd, Nat.reduceLT, Nat.reduceLeDiff, Nat.reduceMul, Nat.reduceSub, ↓reduceIte, decide_true, decide_false, Bool.true_eq_false, Bool.false_eq_true, Bool.not_true, Bool.not_false, if_true, if_false, and_true, true_and, memE, celE, w64, Nat.zero_add, Nat.add_zero, Nat.mul_one, putL, and_self, ldn, tm, t0, t1, t7, t8, hltx']
          refine loop_inv mixed (fun s => ∃ (u : Nat), 1 ≤ u ∧ u ≤ l.length ∧ s.m = roM m ∧ (∀ w, 1 ≤ w → w < u → a + w < l.length → convQ l k a x w = true) ∧ s.t 0 = v ∧ s.t 1 = .int .i64 k ∧ s.t 7 = .int .i64 a ∧ s.t 8 = .int .i64 x ∧ s.t 9 = .int .i64 u) (fun s => l.length - (intOf (s.t 9)).toNat)
            ⟨1, by omega, by omega, tm, fun w h1 h2 => absurd h2 (by omega), t0, t1, t7, t8, rfl⟩ ?_
          rintro s ⟨u, hu1, hu2, tm, hin, t0, t1, t7, t8, t9⟩
          by_cases hltu : a + u < l.length
          · have hltu' : (a : Int) + u < l.length := by omega
            have b1 := vals_at hv a
            have b2 := vals_at hv (a + u)
            have b3 := vals_at hv (a - x)
            have m1 := mul_b (v := x) (x := k + l.getD (a + u) 0) (by omega) (by omega)
            have m2 := mul_b (v := x) (x := l.getD a 0) (by omega) (by omega)
            have m3 := mul_b (v := u) (x := l.getD a 0 - l.getD (a - x) 0) (by omega) (by omega)
            have e1 := at_z hr (z := (a : Int) + u) (i := a + u) (by omega) hltu
            have e3 := at_z hr (z := (a : Int) - x) (i := a - x) (by omega) (by omega)
            by_cases hq : (x : Int) * (k + l.getD (a + u) 0) < (x : Int) * l.getD a 0 + (u : Int) * (l.getD a 0 - l.getD (a - x) 0)
            · simp (config := {implicitDefEqProofs := false, maxDischargeDepth := 20}) (disch := first | omega | (simp only [lenE]; done) | (simp only [lenE]; omega) | rfl | (simp only [lenE, markR_len]; done) | (simp only [lenE, markR_len]; omega)) only [runE, mapE, listE, initT_5, initT_6, initT_7, initT_8, resV, oneV, binA, unA, reduceCtorEq, Nat.reduceEqDiff, Nat.reduceAdd, Nat.reduceLT, Nat.reduceLeDiff, Nat.reduceMul, Nat.reduceSub, ↓reduceIte, decide_true, decide_false, Bool.true_eq_false, Bool.false_eq_true, Bool.not_true, Bool.not_false, if_true, if_false, and_true, true_and, memE, celE, w64, Nat.zero_add, Nat.add_zero, Nat.mul_one, putL, and_self, ldn, tm, t0, t1, t7, t8, t9, hr.len, hltu', e1, e3, hr.at_ a hlt, hr.ld a hlt, hr.ld (a + u) hltu, hr.ld (a - x) (by omega), hq]
              exact newQ_nil ⟨by rw [convB_no hlt (convAt_no (v := x) (u := u) hx1 hltx hu1 hltu (by simp only [convQ]; exact decide_eq_false (by omega)))]; rfl, noRo_nil⟩
            · simp (config := {implicitDefEqProofs := false, maxDischargeDepth := 20}) (disch := first | omega | (simp only [lenE]; done) | (simp only [lenE]; omega) | rfl | (simp only [lenE, markR_len]; done) | (simp only [lenE, markR_len]; omega)) only [runE, mapE, listE, initT_5, initT_6, initT_7, initT_8, resV, oneV, binA, unA, reduceCtorEq, Nat.reduceEqDiff, Nat.reduceAdd, Nat.reduceLT, Nat.reduceLeDiff, Nat.reduceMul, Nat.reduceSub, ↓reduceIte, decide_true, decide_false, Bool.true_eq_false, Bool.false_eq_true, Bool.not_true, Bool.not_false, if_true, if_false, and_true, true_and, memE, celE, w64, Nat.zero_add, Nat.add_zero, Nat.mul_one, putL, and_self, ldn, tm, t0, t1, t7, t8, t9, hr.len, hltu', e1, e3, hr.at_ a hlt, hr.ld a hlt, hr.ld (a + u) hltu, hr.ld (a - x) (by omega), hq]
              refine ⟨⟨u + 1, by omega, by omega, fun w h1 h2 h3 => ?_, by simp⟩, by simp [intOf]; omega⟩
              by_cases e : w = u
              · rw [e]; simp only [convQ]; exact decide_eq_true (by omega)
              · exact hin w h1 (by omega) h3
          · have hltu' : ¬ ((a : Int) + u < l.length) := by omega
            simp (config := {implicitDefEqProofs := false, maxDischargeDepth := 20}) (disch := first | omega | (simp only [lenE]; done) | (simp only [lenE]; omega) | rfl | (simp only [lenE, markR_len]; done) | (simp only [lenE, markR_len]; omega)) only [runE, mapE, listE, initT_5, initT_6, initT_7, initT_8, resV, oneV, binA, unA, reduceCtorEq, Nat.reduceEqDiff, Nat.reduceAdd, Nat.reduceLT, Nat.reduceLeDiff, Nat.reduceMul, Nat.reduceSub, ↓reduceIte, decide_true, decide_false, Bool.true_eq_false, Bool.false_eq_true, Bool.not_true, Bool.not_false, if_true, if_false, and_true, true_and, memE, celE, w64, Nat.zero_add, Nat.add_zero, Nat.mul_one, putL, and_self, ldn, tm, t0, t1, t7, t8, t9, hr.len, hltu']
            refine ⟨⟨x + 1, by omega, by omega, fun w u' h1 h2 h3 h4 => ?_, by simp⟩, by simp [intOf]; omega⟩
            by_cases e : w = x
            · rw [e]; exact hin u' h3 (by omega) h4
            · exact hall2 w u' h1 (by omega) h3 h4
        · have hltx' : ¬ ((x : Int) ≤ a) := by omega
          simp (config := {implicitDefEqProofs := false, maxDischargeDepth := 20}) (disch := first | omega | (simp only [lenE]; done) | (simp only [lenE]; omega) | rfl | (simp only [lenE, markR_len]; done) | (simp only [lenE, markR_len]; omega)) only [runE, mapE, listE, initT_5, initT_6, initT_7, initT_8, resV, oneV, binA, unA, reduceCtorEq, Nat.reduceEqDiff, Nat.reduceAdd, Nat.reduceLT, Nat.reduceLeDiff, Nat.reduceMul, Nat.reduceSub, ↓reduceIte, decide_true, decide_false, Bool.true_eq_false, Bool.false_eq_true, Bool.not_true, Bool.not_false, if_true, if_false, and_true, true_and, memE, celE, w64, Nat.zero_add, Nat.add_zero, Nat.mul_one, putL, and_self, ldn, tm, t0, t1, t7, t8, hltx']
          refine ⟨⟨a + 1, by omega, fun b hb => ?_, by simp⟩, by simp [intOf]; omega⟩
          by_cases e : b = a
          · rw [e]; exact convAt_yes fun w u h1 h2 h3 h4 => hall2 w u h1 (by omega) h3 h4
          · exact hall b (by omega)
      · have hlt' : ¬ ((a : Int) < l.length) := by omega
        simp (config := {implicitDefEqProofs := false, maxDischargeDepth := 20}) (disch := first | omega | (simp only [lenE]; done) | (simp only [lenE]; omega) | rfl | (simp only [lenE, markR_len]; done) | (simp only [lenE, markR_len]; omega)) only [runE, mapE, listE, initT_5, initT_6, initT_7, initT_8, resV, oneV, binA, unA, reduceCtorEq, Nat.reduceEqDiff, Nat.reduceAdd, Nat.reduceLT, Nat.reduceLeDiff, Nat.reduceMul, Nat.reduceSub, ↓reduceIte, decide_true, decide_false, Bool.true_eq_false, Bool.false_eq_true, Bool.not_true, Bool.not_false, if_true, if_false, and_true, true_and, memE, celE, w64, Nat.zero_add, Nat.add_zero, Nat.mul_one, putL, and_self, ldn, tm, t0, t1, t7, hr.len, hlt']
        exact newQ_nil ⟨by rw [convB_yes fun b hb => hall b (by omega)]; rfl, noRo_nil⟩
end Go.Proofs.Ytckpfgkgigicpaa.Ab
end
