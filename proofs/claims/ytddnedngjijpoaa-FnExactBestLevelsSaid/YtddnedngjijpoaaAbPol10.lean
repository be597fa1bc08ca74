/- Policies: the lower and the upper level of each turn, by both programs. -/
import Derived.Test.YtddnedngjijpoaaAbPol9
namespace Go.Proofs.Ytddnedngjijpoaa.Ab
open Go Go.RowKit
set_option linter.unusedVariables false
set_option linter.unusedSimpArgs false

/-- The place of the least one of the least numbers, and the first place with at most K more. -/
def upI (B : List Int) : Int := amin (fun i => B.getD i.toNat 0) 0 (B.length - 1)
def loI (B : List Int) (K : Int) : Int := firstAt (fun b => decide (b ≤ B.getD (upI B).toNat 0 + K)) B 0
theorem upI_least {B : List Int} (h : 0 < B.length) : IsLeast (fun i => B.getD i.toNat 0) 0 (B.length - 1) (upI B) := by
  have := amin_least (fun i => B.getD i.toNat 0) 0 (B.length - 1)
  rwa [Int.zero_add, show (((B.length - 1 : Nat)) : Int) = (B.length : Int) - 1 by omega] at this
theorem firstAt_is {f : Int → Bool} {l : List Int} {k : Nat} (hk : k < l.length) (h1 : ∀ j, j < k → f (l.getD j 0) = false) (h2 : f (l.getD k 0) = true) : firstAt f l 0 = k := by
  have key : ∀ j, j ≤ k → firstAt f l 0 = firstAt f (l.drop j) j := by
    intro j hj
    induction j with
    | zero => rfl
    | succ j ih => rw [ih (by omega), firstAt_step (by omega), h1 j (by omega)]; rfl
  rw [key k (Nat.le_refl _), firstAt_step hk, h2]; rfl
def pairOf (p : Pr) (next : List Int) (n : Nat) : Int × Int := (p.floor + loI (billsL p next n) (p.setup * p.pow (n + 1)), p.floor + upI (billsL p next n))
/-- What the places are. -/
structure LoUp (B : List Int) (K : Int) : Prop where
  len : 0 < B.length
  k : 0 ≤ K
theorem LoUp.up {B : List Int} {K : Int} (h : LoUp B K) : 0 ≤ upI B ∧ upI B ≤ B.length - 1 := ⟨(upI_least h.len).1, (upI_least h.len).2.1⟩
theorem slMin_rc (m : Mem) (v : Value) (l : List Int) (h : IntsA m v l) (hl : 0 < l.length) :
    RC Try.prog 123 [v] m fun r new => r = .int .i64 (l.getD (upI l).toNat 0) ∧ new = [] := by
  refine rc_of_run mixed ok_slices_Min (by simp) (go_start _ _ _ ?_)
  have hr := h.ro
  have h1 : ¬ ((l.length : Int) < 1) := by omega
  have a0 : iadA 1 v (.int .i64 0) = some (pAt v 0) := hr.at_ 0 hl
  have hup := upI_least hl
  simp (config := {implicitDefEqProofs := false, maxDischargeDepth := 20}) (disch := first | omega | (simp only [lenE]; done) | (simp only [lenE]; omega) | rfl | (simp only [lenE, markR_len]; done) | (simp only [lenE, markR_len]; omega)) only [runE, mapE, listE, initT_5, initT_6, initT_7, initT_8, resV, oneV, binA, unA, reduceCtorEq, Nat.reduceEqDiff, Nat.reduceAdd, Nat.reduceLT, Nat.reduceLeDiff, Nat.reduceMul, Nat.reduceSub, ↓reduceIte, decide_true, decide_false, Bool.true_eq_false, Bool.false_eq_true, Bool.not_true, Bool.not_false, if_true, if_false, and_true, true_and, memE, celE, w64, Nat.zero_add, Nat.add_zero, Nat.mul_one, putL, and_self, ldn, c_slices_Min, r_slices_Min, hr.len, h1, a0, hr.ld 0 hl]
  refine loop_inv mixed (fun s => ∃ (k : Nat) (z : Int), k < l.length ∧ (∃ i : Nat, i ≤ k ∧ z = l.getD i 0) ∧ (∀ i : Nat, i ≤ k → z ≤ l.getD i 0) ∧ s.t 0 = v ∧ s.t 3 = .int .i64 z ∧ s.t 4 = .int .i64 ((k + 1 : Nat) : Int) ∧ s.m = roM m) (fun s => l.length + 1 - (intOf (s.t 4)).toNat) ⟨0, l.getD 0 0, hl, ⟨0, by omega, rfl⟩, fun i hi => by rw [show i = 0 by omega]; exact Int.le_refl _, rfl, rfl, rfl, rfl⟩ ?_
  rintro s ⟨k, z, hk, ⟨i0, hi0, hz⟩, hmin, t0, t3, t4, tm⟩
  have bd := hr.bd
  by_cases hlt : k + 1 < l.length
  · have hlt' : ((k + 1 : Nat) : Int) < l.length := by omega
    simp (config := {implicitDefEqProofs := false, maxDischargeDepth := 20}) (disch := first | omega | (simp only [lenE]; done) | (simp only [lenE]; omega) | rfl | (simp only [lenE, markR_len]; done) | (simp only [lenE, markR_len]; omega)) only [runE, mapE, listE, initT_5, initT_6, initT_7, initT_8, resV, oneV, binA, unA, reduceCtorEq, Nat.reduceEqDiff, Nat.reduceAdd, Nat.reduceLT, Nat.reduceLeDiff, Nat.reduceMul, Nat.reduceSub, ↓reduceIte, decide_true, decide_false, Bool.true_eq_false, Bool.false_eq_true, Bool.not_true, Bool.not_false, if_true, if_false, and_true, true_and, memE, celE, w64, Nat.zero_add, Nat.add_zero, Nat.mul_one, putL, and_self, ldn, t0, t3, t4, tm, hr.len, hr.at_ (k + 1) hlt, hr.ld (k + 1) hlt, hlt']
    refine ⟨⟨k + 1, min z (l.getD (k + 1) 0), hlt, ?_, fun i hi => ?_, rfl, by congr 1⟩, by simp [intOf]; omega⟩
    · by_cases e : z ≤ l.getD (k + 1) 0
      · exact ⟨i0, by omega, by rw [← hz]; omega⟩
      · exact ⟨k + 1, by omega, by omega⟩
    · by_cases e : i = k + 1
      · rw [e]; omega
      · have := hmin i (by omega); omega
  · have hlt' : ¬ (((k + 1 : Nat) : Int) < l.length) := by omega
    simp (config := {implicitDefEqProofs := false, maxDischargeDepth := 20}) (disch := first | omega | (simp only [lenE]; done) | (simp only [lenE]; omega) | rfl | (simp only [lenE, markR_len]; done) | (simp only [lenE, markR_len]; omega)) only [runE, mapE, listE, initT_5, initT_6, initT_7, initT_8, resV, oneV, binA, unA, reduceCtorEq, Nat.reduceEqDiff, Nat.reduceAdd, Nat.reduceLT, Nat.reduceLeDiff, Nat.reduceMul, Nat.reduceSub, ↓reduceIte, decide_true, decide_false, Bool.true_eq_false, Bool.false_eq_true, Bool.not_true, Bool.not_false, if_true, if_false, and_true, true_and, memE, celE, w64, Nat.zero_add, Nat.add_zero, Nat.mul_one, putL, and_self, ldn, t0, t3, t4, tm, hr.len, hlt']
    refine newQ_nil ⟨?_, rfl⟩
    have a := hmin (upI l).toNat (by have := hup.1; have := hup.2.1; omega)
    have b := hup.2.2.1 (i0 : Int) (by omega) (by omega)
    simp only [Int.toNat_natCast] at b
    congr 1; omega
theorem slIndex_rc (m : Mem) (v : Value) (l : List Int) (h : IntsA m v l) (hl : 0 < l.length) :
    RC Try.prog 126 [v, .int .i64 (l.getD (upI l).toNat 0)] m fun r new => r = .int .i64 (upI l) ∧ new = [] := by
  refine rc_of_run mixed ok_slices_Index (by simp) (go_start _ _ _ ?_)
  have i := h.ro
  have hup := upI_least hl
  simp (config := {implicitDefEqProofs := false, maxDischargeDepth := 20}) (disch := first | omega | (simp only [lenE]; done) | (simp only [lenE]; omega) | rfl | (simp only [lenE, markR_len]; done) | (simp only [lenE, markR_len]; omega)) only [runE, mapE, listE, initT_5, initT_6, initT_7, initT_8, resV, oneV, binA, unA, reduceCtorEq, Nat.reduceEqDiff, Nat.reduceAdd, Nat.reduceLT, Nat.reduceLeDiff, Nat.reduceMul, Nat.reduceSub, ↓reduceIte, decide_true, decide_false, Bool.true_eq_false, Bool.false_eq_true, Bool.not_true, Bool.not_false, if_true, if_false, and_true, true_and, memE, celE, w64, Nat.zero_add, Nat.add_zero, Nat.mul_one, putL, and_self, ldn, c_slices_Index, r_slices_Index, i.len]
  refine loop_inv mixed (fun s => ∃ j : Nat, j ≤ l.length ∧ (j : Int) ≤ upI l ∧ s.t 0 = v ∧ s.t 1 = .int .i64 (l.getD (upI l).toNat 0) ∧ s.t 7 = .int .i64 l.length ∧ s.t 8 = .int .i64 j ∧ s.m = roM m) (fun s => l.length - (intOf (s.t 8)).toNat)
    ⟨0, by omega, hup.1, rfl, rfl, rfl, rfl, rfl⟩ ?_
  rintro s ⟨j, hj, hno, t0, t1, t7, t8, tm⟩
  have u1 := hup.2.1
  have bd := i.bd
  by_cases hlt : j < l.length
  · have hlt' : (j : Int) < l.length := by omega
    by_cases e : (j : Int) = upI l
    · have ej : (upI l).toNat = j := by omega
      have hb : (l.getD (upI l).toNat 0 == l.getD j 0) = true := by rw [ej]; exact beq_self_eq_true _
      simp (config := {implicitDefEqProofs := false, maxDischargeDepth := 20}) (disch := first | omega | (simp only [lenE]; done) | (simp only [lenE]; omega) | rfl | (simp only [lenE, markR_len]; done) | (simp only [lenE, markR_len]; omega)) only [runE, mapE, listE, initT_5, initT_6, initT_7, initT_8, resV, oneV, binA, unA, reduceCtorEq, Nat.reduceEqDiff, Nat.reduceAdd, Nat.reduceLT, Nat.reduceLeDiff, Nat.reduceMul, Nat.reduceSub, ↓reduceIte, decide_true, decide_false, Bool.true_eq_false, Bool.false_eq_true, Bool.not_true, Bool.not_false, if_true, if_false, and_true, true_and, memE, celE, w64, Nat.zero_add, Nat.add_zero, Nat.mul_one, putL, and_self, ldn, tm, t0, t1, t7, t8, hlt', i.at_ j hlt, i.ld j hlt, hb]
      exact newQ_nil ⟨by rw [e], rfl⟩
    · have hs := hup.2.2.2 (j : Int) (by omega) (by omega)
      simp only [Int.toNat_natCast] at hs
      have hb : (l.getD (upI l).toNat 0 == l.getD j 0) = false := by rw [beq_eq_false_iff_ne]; omega
      simp (config := {implicitDefEqProofs := false, maxDischargeDepth := 20}) (disch := first | omega | (simp only [lenE]; done) | (simp only [lenE]; omega) | rfl | (simp only [lenE, markR_len]; done) | (simp only [lenE, markR_len]; omega)) only [runE, mapE, listE, initT_5, initT_6, initT_7, initT_8, resV, oneV, binA, unA, reduceCtorEq, Nat.reduceEqDiff, Nat.reduceAdd, Nat.reduceLT, Nat.reduceLeDiff, Nat.reduceMul, Nat.reduceSub, ↓reduceIte, decide_true, decide_false, Bool.true_eq_false, Bool.false_eq_true, Bool.not_true, Bool.not_false, if_true, if_false, and_true, true_and, memE, celE, w64, Nat.zero_add, Nat.add_zero, Nat.mul_one, putL, and_self, ldn, tm, t0, t1, t7, t8, hlt', i.at_ j hlt, i.ld j hlt, hb]
      exact ⟨⟨j + 1, by omega, by omega, by simp⟩, by simp [intOf]; omega⟩
  · omega
theorem enough_test (m : Mem) (id : Nat) (x0 : Int) (h : rdc m id 0 = some (.int .i64 x0)) :
    TestA m (.func (.func 125) #[] #[.pointer (some ⟨id, 0, none⟩)]) (fun x => decide (x ≤ x0)) := by
  refine ⟨_, _, rfl, fun x m' hm => ?_⟩
  refine rc_of_run mixed ok_impl_bestPair_1 (by simp) (go_start _ _ _ ?_)
  have h' : rdc (roM m') id 0 = some (.int .i64 x0) := by rw [rdc_roM]; exact hm _ _ _ h
  simp (config := {implicitDefEqProofs := false, maxDischargeDepth := 20}) (disch := first | omega | (simp only [lenE]; done) | (simp only [lenE]; omega) | rfl | (simp only [lenE, markR_len]; done) | (simp only [lenE, markR_len]; omega)) only [runE, mapE, listE, initT_5, initT_6, initT_7, initT_8, resV, oneV, binA, unA, reduceCtorEq, Nat.reduceEqDiff, Nat.reduceAdd, Nat.reduceLT, Nat.reduceLeDiff, Nat.reduceMul, Nat.reduceSub, ↓reduceIte, decide_true, decide_false, Bool.true_eq_false, Bool.false_eq_true, Bool.not_true, Bool.not_false, if_true, if_false, and_true, true_and, memE, celE, w64, Nat.zero_add, Nat.add_zero, Nat.mul_one, putL, and_self, ldn, c_impl_bestPair_1, r_impl_bestPair_1, h']
  exact newQ_nil ⟨rfl, rfl⟩
theorem bld_pair (a b : Int) : bldA [.int .i64 0, .int .i64 0] [(0, 1, .int .i64 a), (1, 1, .int .i64 b)] = some (.agg #[.int .i64 a, .int .i64 b]) := rfl
theorem bills_bd {p : Pr} (hg : GoodP p) {next : List Int} (hB : rowIn 30000000000000000 next) {n : Nat} (hn : n ≤ 4) (i : Nat) : -700000000000000000 ≤ (billsL p next n).getD i 0 ∧ (billsL p next n).getD i 0 ≤ 700000000000000000 := by
  have hfl := hg.floor
  have hlen := hg.len
  have hflo : p.floor = (p.w.length : Int) - 11 := by unfold Pr.floor; omega
  by_cases hi : i < 22 - p.w.length
  · rw [billsL_at hi]
    exact bill_bd hg hB hn ⟨by omega, by omega⟩
  · rw [List.getD_eq_getElem?_getD, List.getElem?_eq_none (by rw [billsL_len]; omega)]; exact ⟨by decide, by decide⟩
theorem setup_bd {p : Pr} (hg : GoodP p) {n : Nat} (hn : n ≤ 4) : 0 ≤ p.setup * p.pow (n + 1) ∧ p.setup * p.pow (n + 1) ≤ 316800000 := by
  have := hg.pow5 (n := n + 1) (by omega)
  exact mul_in' (A := 99) (B := 3200000) hg.setup (x := p.pow (n + 1)) (by omega)
theorem bestPair_rc (m : Mem) (v vn : Value) (p : Pr) (next : List Int) (t : Int) (n : Nat) (h : ProcA m v p) (hn : IntsA m vn next) (hg : GoodP p) (hl : next.length = 21) (hB : rowIn 30000000000000000 next) (ht : p.turns - t = (n : Int) + 1) (ht0 : 0 ≤ t) (hn4 : n ≤ 4) :
    RC Try.prog 82 [v, .int .i64 t, vn] m (AnsV (pairV (pairOf p next n))) := by
  refine rc_of_run mixed ok_impl_bestPair (by simp) (go_start _ _ _ ?_)
  obtain ⟨u, rfl, hu⟩ := h.ro
  have hlen := hg.len
  have hflo := hg.floor
  have hbl := billsL_len p next n
  have hbd := bills_bd hg hB hn4 (upI (billsL p next n)).toNat
  have hK := setup_bd hg hn4
  have hup := upI_least (B := billsL p next n) (by omega)
  have hu1 := hup.1
  have hu2 := hup.2.1
  simp (config := {implicitDefEqProofs := false, maxDischargeDepth := 20}) (disch := first | omega | (simp only [lenE]; done) | (simp only [lenE]; omega) | rfl | (simp only [lenE, markR_len]; done) | (simp only [lenE, markR_len]; omega)) only [runE, mapE, listE, initT_5, initT_6, initT_7, initT_8, resV, oneV, binA, unA, reduceCtorEq, Nat.reduceEqDiff, Nat.reduceAdd, Nat.reduceLT, Nat.reduceLeDiff, Nat.reduceMul, Nat.reduceSub, ↓reduceIte, decide_true, decide_false, Bool.true_eq_false, Bool.false_eq_true, Bool.not_true, Bool.not_false, if_true, if_false, and_true, true_and, memE, celE, w64, Nat.zero_add, Nat.add_zero, Nat.mul_one, putL, and_self, ldn, c_impl_bestPair, r_impl_bestPair]
  refine callH_rc (billsOf_rc _ _ vn p next t n (ProcA.mk ((hu.ext _).ext _)) ((hn.ro.ext _).ext _) hg hl hB ht ht0 hn4) ?_
  rintro r n1 ⟨nr1, w, rfl, hw⟩
  have hBI := hw.now.in
  simp (config := {implicitDefEqProofs := false, maxDischargeDepth := 20}) (disch := first | omega | (simp only [lenE]; done) | (simp only [lenE]; omega) | rfl | (simp only [lenE, markR_len]; done) | (simp only [lenE, markR_len]; omega)) only [runE, mapE, listE, initT_5, initT_6, initT_7, initT_8, resV, oneV, binA, unA, reduceCtorEq, Nat.reduceEqDiff, Nat.reduceAdd, Nat.reduceLT, Nat.reduceLeDiff, Nat.reduceMul, Nat.reduceSub, ↓reduceIte, decide_true, decide_false, Bool.true_eq_false, Bool.false_eq_true, Bool.not_true, Bool.not_false, if_true, if_false, and_true, true_and, memE, celE, w64, Nat.zero_add, Nat.add_zero, Nat.mul_one, putL, and_self, ldn, id_eq]
  refine callH_rc (slMin_rc _ _ _ hBI (by omega)) ?_
  rintro r n2 ⟨rfl, rfl⟩
  rw [List.append_nil]
  have hfa : -1 ≤ firstAt (fun x => decide (x ≤ (billsL p next n).getD (upI (billsL p next n)).toNat 0 + p.setup * p.pow (n + 1))) (billsL p next n) 0 ∧ firstAt (fun x => decide (x ≤ (billsL p next n).getD (upI (billsL p next n)).toNat 0 + p.setup * p.pow (n + 1))) (billsL p next n) 0 ≤ 21 := by
    have := firstAt_any (fun x => decide (x ≤ (billsL p next n).getD (upI (billsL p next n)).toNat 0 + p.setup * p.pow (n + 1))) (billsL p next n) 0
    omega
  have hX1 : Ext m (roM m ++ [⟨.own, 26, [.int .i64 p.turns, u, .int .i64 p.setup, .int .i64 p.unit, .int .i64 p.hold, .int .i64 p.back]⟩] ++ [⟨.own, 46, [.int .i64 0, .int .i64 0]⟩] ++ n1) := (((Ext.refl m).one _ _).one _ _).app nr1
  have hb1 : OwnB (roM m ++ [⟨.own, 26, [.int .i64 p.turns, u, .int .i64 p.setup, .int .i64 p.unit, .int .i64 p.hold, .int .i64 p.back]⟩] ++ [⟨.own, 46, [.int .i64 0, .int .i64 0]⟩] ++ n1) m.length 26 [.int .i64 p.turns, u, .int .i64 p.setup, .int .i64 p.unit, .int .i64 p.hold, .int .i64 p.back] := ((OwnB.here (roM_len m).symm).ext _).ext _
  have hc1 : OwnB (roM m ++ [⟨.own, 26, [.int .i64 p.turns, u, .int .i64 p.setup, .int .i64 p.unit, .int .i64 p.hold, .int .i64 p.back]⟩] ++ [⟨.own, 46, [.int .i64 0, .int .i64 0]⟩] ++ n1) (m.length + 1) 46 [.int .i64 0, .int .i64 0] := (OwnB.here (by simp [roM_len])).ext _
  simp (config := {implicitDefEqProofs := false, maxDischargeDepth := 20}) (disch := first | omega | (simp only [lenE]; done) | (simp only [lenE]; omega) | rfl | (simp only [lenE, markR_len]; done) | (simp only [lenE, markR_len]; omega)) only [runE, mapE, listE, initT_5, initT_6, initT_7, initT_8, resV, oneV, binA, unA, reduceCtorEq, Nat.reduceEqDiff, Nat.reduceAdd, Nat.reduceLT, Nat.reduceLeDiff, Nat.reduceMul, Nat.reduceSub, ↓reduceIte, decide_true, decide_false, Bool.true_eq_false, Bool.false_eq_true, Bool.not_true, Bool.not_false, if_true, if_false, and_true, true_and, memE, celE, w64, Nat.zero_add, Nat.add_zero, Nat.mul_one, putL, and_self, ldn]
  with_reducible refine ⟨?_, ?_⟩
  · refine rcallH_rc (powerFrom_rc _ _ p t (n + 1) (ProcA.mk (((hu.ext _).ext _).ext _)) hg (by omega) (by omega)) ?_
    rintro r n3 ⟨rfl, nr3⟩
    simp (config := {implicitDefEqProofs := false, maxDischargeDepth := 20}) (disch := first | omega | (simp only [lenE]; done) | (simp only [lenE]; omega) | rfl | (simp only [lenE, markR_len]; done) | (simp only [lenE, markR_len]; omega)) only [runE, mapE, listE, initT_5, initT_6, initT_7, initT_8, resV, oneV, binA, unA, reduceCtorEq, Nat.reduceEqDiff, Nat.reduceAdd, Nat.reduceLT, Nat.reduceLeDiff, Nat.reduceMul, Nat.reduceSub, ↓reduceIte, decide_true, decide_false, Bool.true_eq_false, Bool.false_eq_true, Bool.not_true, Bool.not_false, if_true, if_false, and_true, true_and, memE, celE, w64, Nat.zero_add, Nat.add_zero, Nat.mul_one, putL, and_self, ldn]
    obtain ⟨M3, hM3⟩ : ∃ M' : Mem, M' = roM m ++ [⟨.own, 26, [.int .i64 p.turns, u, .int .i64 p.setup, .int .i64 p.unit, .int .i64 p.hold, .int .i64 p.back]⟩] ++ [⟨.own, 46, [.int .i64 0, .int .i64 0]⟩] ++ n1 ++ n3 ++ [⟨.own, 3, [.int .i64 ((billsL p next n).getD (upI (billsL p next n)).toNat 0 + p.setup * p.pow (n + 1))]⟩] := ⟨_, rfl⟩
    have hX3 : Ext m M3 := by rw [hM3]; exact (hX1.app nr3).one _ _
    have hBI3 : IntsA M3 r (billsL p next n) := by rw [hM3]; exact (hBI.ext n3).ext _
    have hb3 : OwnB M3 m.length 26 [.int .i64 p.turns, u, .int .i64 p.setup, .int .i64 p.unit, .int .i64 p.hold, .int .i64 p.back] := by rw [hM3]; exact (hb1.ext _).ext _
    have hc3 : OwnB M3 (m.length + 1) 46 [.int .i64 0, .int .i64 0] := by rw [hM3]; exact (hc1.ext _).ext _
    have hv3 : rdc M3 (m.length + 1 + 1 + n1.length + n3.length) 0 = some (.int .i64 ((billsL p next n).getD (upI (billsL p next n)).toNat 0 + p.setup * p.pow (n + 1))) := by rw [hM3, rdc_lastH (by simp [roM_len]; try omega)]; rfl
    try rw [← hM3]
    refine callH_rc (indexFunc_rc _ _ _ (billsL p next n) _ hBI3 (enough_test _ _ _ hv3)) ?_
    rintro r n4 ⟨rfl, rfl⟩
    rw [List.append_nil]
    simp (config := {implicitDefEqProofs := false, maxDischargeDepth := 20}) (disch := first | omega | (simp only [lenE]; done) | (simp only [lenE]; omega) | rfl | (simp only [lenE, markR_len]; done) | (simp only [lenE, markR_len]; omega)) only [runE, mapE, listE, initT_5, initT_6, initT_7, initT_8, resV, oneV, binA, unA, reduceCtorEq, Nat.reduceEqDiff, Nat.reduceAdd, Nat.reduceLT, Nat.reduceLeDiff, Nat.reduceMul, Nat.reduceSub, ↓reduceIte, decide_true, decide_false, Bool.true_eq_false, Bool.false_eq_true, Bool.not_true, Bool.not_false, if_true, if_false, and_true, true_and, memE, celE, w64, Nat.zero_add, Nat.add_zero, Nat.mul_one, putL, and_self, ldn]
    refine callH_rc (slIndex_rc _ _ _ hBI3 (by omega)) ?_
    rintro r n4 ⟨rfl, rfl⟩
    rw [List.append_nil]
    simp (config := {implicitDefEqProofs := false, maxDischargeDepth := 20}) (disch := first | omega | (simp only [lenE]; done) | (simp only [lenE]; omega) | rfl | (simp only [lenE, markR_len]; done) | (simp only [lenE, markR_len]; omega)) only [runE, mapE, listE, initT_5, initT_6, initT_7, initT_8, resV, oneV, binA, unA, reduceCtorEq, Nat.reduceEqDiff, Nat.reduceAdd, Nat.reduceLT, Nat.reduceLeDiff, Nat.reduceMul, Nat.reduceSub, ↓reduceIte, decide_true, decide_false, Bool.true_eq_false, Bool.false_eq_true, Bool.not_true, Bool.not_false, if_true, if_false, and_true, true_and, memE, celE, w64, Nat.zero_add, Nat.add_zero, Nat.mul_one, putL, and_self, ldn, hb3.rd]
    refine rcallH_rc (floorOf_rc M3 _ p (ProcA.mk (hX3.ints hu)) hlen.2) ?_
    rintro r n5 ⟨rfl, nr5⟩
    have hb5 := hb3.ext n5
    simp (config := {implicitDefEqProofs := false, maxDischargeDepth := 20}) (disch := first | omega | (simp only [lenE]; done) | (simp only [lenE]; omega) | rfl | (simp only [lenE, markR_len]; done) | (simp only [lenE, markR_len]; omega)) only [runE, mapE, listE, initT_5, initT_6, initT_7, initT_8, resV, oneV, binA, unA, reduceCtorEq, Nat.reduceEqDiff, Nat.reduceAdd, Nat.reduceLT, Nat.reduceLeDiff, Nat.reduceMul, Nat.reduceSub, ↓reduceIte, decide_true, decide_false, Bool.true_eq_false, Bool.false_eq_true, Bool.not_true, Bool.not_false, if_true, if_false, and_true, true_and, memE, celE, w64, Nat.zero_add, Nat.add_zero, Nat.mul_one, putL, and_self, ldn, hb5.rd]
    refine rcallH_rc (floorOf_rc (M3 ++ n5) _ p (ProcA.mk ((hX3.ints hu).ext n5)) hlen.2) ?_
    rintro r n6 ⟨rfl, nr6⟩
    have hc6 := (hc3.ext n5).ext n6
    have hst := hc6.st (off := 0) (vs := [.int .i64 (p.floor + firstAt (fun x => decide (x ≤ (billsL p next n).getD (upI (billsL p next n)).toNat 0 + p.setup * p.pow (n + 1))) (billsL p next n) 0), .int .i64 (p.floor + upI (billsL p next n))]) (by simp) rfl
    have hrd := (hc6.set_self 46 [.int .i64 (p.floor + firstAt (fun x => decide (x ≤ (billsL p next n).getD (upI (billsL p next n)).toNat 0 + p.setup * p.pow (n + 1))) (billsL p next n) 0), .int .i64 (p.floor + upI (billsL p next n))]).rd
    simp (config := {implicitDefEqProofs := false, maxDischargeDepth := 20}) (disch := first | omega | (simp only [lenE]; done) | (simp only [lenE]; omega) | rfl | (simp only [lenE, markR_len]; done) | (simp only [lenE, markR_len]; omega)) only [runE, mapE, listE, initT_5, initT_6, initT_7, initT_8, resV, oneV, binA, unA, reduceCtorEq, Nat.reduceEqDiff, Nat.reduceAdd, Nat.reduceLT, Nat.reduceLeDiff, Nat.reduceMul, Nat.reduceSub, ↓reduceIte, decide_true, decide_false, Bool.true_eq_false, Bool.false_eq_true, Bool.not_true, Bool.not_false, if_true, if_false, and_true, true_and, memE, celE, w64, Nat.zero_add, Nat.add_zero, Nat.mul_one, putL, and_self, ldn, bld_pair, hst, hrd]
    exact ext_ansV2 (((hX3.app nr5).app nr6).put (id := m.length + 1) (by omega) _ _)
  · refine rcallH_rc (powerFrom_rc _ _ p t (n + 1) (ProcA.mk ((((hu.ext _).ext _).ext _).ext _)) hg (by omega) (by omega)) ?_
    rintro r n3 ⟨rfl, nr3⟩
    simp (config := {implicitDefEqProofs := false, maxDischargeDepth := 20}) (disch := first | omega | (simp only [lenE]; done) | (simp only [lenE]; omega) | rfl | (simp only [lenE, markR_len]; done) | (simp only [lenE, markR_len]; omega)) only [runE, mapE, listE, initT_5, initT_6, initT_7, initT_8, resV, oneV, binA, unA, reduceCtorEq, Nat.reduceEqDiff, Nat.reduceAdd, Nat.reduceLT, Nat.reduceLeDiff, Nat.reduceMul, Nat.reduceSub, ↓reduceIte, decide_true, decide_false, Bool.true_eq_false, Bool.false_eq_true, Bool.not_true, Bool.not_false, if_true, if_false, and_true, true_and, memE, celE, w64, Nat.zero_add, Nat.add_zero, Nat.mul_one, putL, and_self, ldn]
    obtain ⟨M3, hM3⟩ : ∃ M' : Mem, M' = roM m ++ [⟨.own, 26, [.int .i64 p.turns, u, .int .i64 p.setup, .int .i64 p.unit, .int .i64 p.hold, .int .i64 p.back]⟩] ++ [⟨.own, 46, [.int .i64 0, .int .i64 0]⟩] ++ n1 ++ [⟨.own, 3, [.int .i64 ((billsL p next n).getD (upI (billsL p next n)).toNat 0 + p.setup * p.pow (n + 1))]⟩] ++ n3 := ⟨_, rfl⟩
    have hX3 : Ext m M3 := by rw [hM3]; exact (hX1.one _ _).app nr3
    have hBI3 : IntsA M3 r (billsL p next n) := by rw [hM3]; exact (hBI.ext _).ext n3
    have hb3 : OwnB M3 m.length 26 [.int .i64 p.turns, u, .int .i64 p.setup, .int .i64 p.unit, .int .i64 p.hold, .int .i64 p.back] := by rw [hM3]; exact (hb1.ext _).ext _
    have hc3 : OwnB M3 (m.length + 1) 46 [.int .i64 0, .int .i64 0] := by rw [hM3]; exact (hc1.ext _).ext _
    have hv3 : rdc M3 (m.length + 1 + 1 + n1.length) 0 = some (.int .i64 ((billsL p next n).getD (upI (billsL p next n)).toNat 0 + p.setup * p.pow (n + 1))) := by rw [hM3, rdc_left (by simp [roM_len]; try omega), rdc_lastH (by simp [roM_len]; try omega)]; rfl
    try rw [← hM3]
    refine callH_rc (indexFunc_rc _ _ _ (billsL p next n) _ hBI3 (enough_test _ _ _ hv3)) ?_
    rintro r n4 ⟨rfl, rfl⟩
    rw [List.append_nil]
    simp (config := {implicitDefEqProofs := false, maxDischargeDepth := 20}) (disch := first | omega | (simp only [lenE]; done) | (simp only [lenE]; omega) | rfl | (simp only [lenE, markR_len]; done) | (simp only [lenE, markR_len]; omega)) only [runE, mapE, listE, initT_5, initT_6, initT_7, initT_8, resV, oneV, binA, unA, reduceCtorEq, Nat.reduceEqDiff, Nat.reduceAdd, Nat.reduceLT, Nat.reduceLeDiff, Nat.reduceMul, Nat.reduceSub, ↓reduceIte, decide_true, decide_false, Bool.true_eq_false, Bool.false_eq_true, Bool.not_true, Bool.not_false, if_true, if_false, and_true, true_and, memE, celE, w64, Nat.zero_add, Nat.add_zero, Nat.mul_one, putL, and_self, ldn]
    refine callH_rc (slIndex_rc _ _ _ hBI3 (by omega)) ?_
    rintro r n4 ⟨rfl, rfl⟩
    rw [List.append_nil]
    simp (config := {implicitDefEqProofs := false, maxDischargeDepth := 20}) (disch := first | omega | (simp only [lenE]; done) | (simp only [lenE]; omega) | rfl | (simp only [lenE, markR_len]; done) | (simp only [lenE, markR_len]; omega)) only [runE, mapE, listE, initT_5, initT_6, initT_7, initT_8, resV, oneV, binA, unA, reduceCtorEq, Nat.reduceEqDiff, Nat.reduceAdd, Nat.reduceLT, Nat.reduceLeDiff, Nat.reduceMul, Nat.reduceSub, ↓reduceIte, decide_true, decide_false, Bool.true_eq_false, Bool.false_eq_true, Bool.not_true, Bool.not_false, if_true, if_false, and_true, true_and, memE, celE, w64, Nat.zero_add, Nat.add_zero, Nat.mul_one, putL, and_self, ldn, hb3.rd]
    refine rcallH_rc (floorOf_rc M3 _ p (ProcA.mk (hX3.ints hu)) hlen.2) ?_
    rintro r n5 ⟨rfl, nr5⟩
    have hb5 := hb3.ext n5
    simp (config := {implicitDefEqProofs := false, maxDischargeDepth := 20}) (disch := first | omega | (simp only [lenE]; done) | (simp only [lenE]; omega) | rfl | (simp only [lenE, markR_len]; done) | (simp only [lenE, markR_len]; omega)) only [runE, mapE, listE, initT_5, initT_6, initT_7, initT_8, resV, oneV, binA, unA, reduceCtorEq, Nat.reduceEqDiff, Nat.reduceAdd, Nat.reduceLT, Nat.reduceLeDiff, Nat.reduceMul, Nat.reduceSub, ↓reduceIte, decide_true, decide_false, Bool.true_eq_false, Bool.false_eq_true, Bool.not_true, Bool.not_false, if_true, if_false, and_true, true_and, memE, celE, w64, Nat.zero_add, Nat.add_zero, Nat.mul_one, putL, and_self, ldn, hb5.rd]
    refine rcallH_rc (floorOf_rc (M3 ++ n5) _ p (ProcA.mk ((hX3.ints hu).ext n5)) hlen.2) ?_
    rintro r n6 ⟨rfl, nr6⟩
    have hc6 := (hc3.ext n5).ext n6
    have hst := hc6.st (off := 0) (vs := [.int .i64 (p.floor + firstAt (fun x => decide (x ≤ (billsL p next n).getD (upI (billsL p next n)).toNat 0 + p.setup * p.pow (n + 1))) (billsL p next n) 0), .int .i64 (p.floor + upI (billsL p next n))]) (by simp) rfl
    have hrd := (hc6.set_self 46 [.int .i64 (p.floor + firstAt (fun x => decide (x ≤ (billsL p next n).getD (upI (billsL p next n)).toNat 0 + p.setup * p.pow (n + 1))) (billsL p next n) 0), .int .i64 (p.floor + upI (billsL p next n))]).rd
    simp (config := {implicitDefEqProofs := false, maxDischargeDepth := 20}) (disch := first | omega | (simp only [lenE]; done) | (simp only [lenE]; omega) | rfl | (simp only [lenE, markR_len]; done) | (simp only [lenE, markR_len]; omega)) only [runE, mapE, listE, initT_5, initT_6, initT_7, initT_8, resV, oneV, binA, unA, reduceCtorEq, Nat.reduceEqDiff, Nat.reduceAdd, Nat.reduceLT, Nat.reduceLeDiff, Nat.reduceMul, Nat.reduceSub, ↓reduceIte, decide_true, decide_false, Bool.true_eq_false, Bool.false_eq_true, Bool.not_true, Bool.not_false, if_true, if_false, and_true, true_and, memE, celE, w64, Nat.zero_add, Nat.add_zero, Nat.mul_one, putL, and_self, ldn, bld_pair, hst, hrd]
    exact ext_ansV2 (((hX3.app nr5).app nr6).put (id := m.length + 1) (by omega) _ _)
end Go.Proofs.Ytddnedngjijpoaa.Ab
