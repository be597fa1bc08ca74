/- What the law needs of the texts that it rests on. -/
import Derived.Test.YtckpfgkgigicpaaShFnLevels2
section
namespace Go.Proofs.Ytckpfgkgigicpaa.Ab
open Go Go.RowKit
set_option linter.unusedVariables false
set_option linter.unusedSimpArgs false
def rowVB (l : List Int) : Bool := decide (l.length = 21) && valsB l
def tabVB (p : Pr) (T : List (List Int)) : Bool := decide ((T.length : Int) = p.turns + 1) && T.all rowVB
def lastB (p : Pr) (T : List (List Int)) : Bool := (T.getD p.turns.toNat []).all fun x => decide (x ≤ 0)
def underI (p : Pr) (T : List (List Int)) (t i : Nat) : Bool :=
  decide ((T.getD t []).getD i 0 ≤ p.move (T.getD (t + 1) []) ((i : Int) - 10) (p.up (T.getD (t + 1) []) ((i : Int) - 10) (p.turns.toNat - 1 - t)) (p.turns.toNat - 1 - t))
def underB (p : Pr) (T : List (List Int)) (t : Nat) : Bool := (List.range 21).all (underI p T t)
def proofB (p : Pr) (T : List (List Int)) : Bool := (tabVB p T && lastB p T) && (List.range p.turns.toNat).all (underB p T)
theorem tabV_row {p : Pr} {T : List (List Int)} (h : tabVB p T = true) {t : Nat} (ht : t < T.length) : (T.getD t []).length = 21 ∧ valsB (T.getD t []) = true := by
  simp only [tabVB, Bool.and_eq_true, List.all_eq_true] at h
  have := h.2 T[t] (List.getElem_mem ht)
  simp only [rowVB, Bool.and_eq_true, decide_eq_true_eq] at this
  rw [List.getD_eq_getElem?_getD, List.getElem?_eq_getElem ht]
  exact this
theorem tabV_len {p : Pr} {T : List (List Int)} (h : tabVB p T = true) : (T.length : Int) = p.turns + 1 := by
  simp only [tabVB, Bool.and_eq_true, decide_eq_true_eq] at h; exact h.1
theorem vals_in {l : List Int} (h : valsB l = true) : rowIn 30000000000000000 l := fun k _ => by
  have := vals_at h k; omega
theorem TabA.xt2 {m M : Mem} {v : Value} {T : List (List Int)} (h : TabA m v T) (hx : Ext m M) : TabA M v T := by
  obtain ⟨n0, rfl, _⟩ := hx
  exact h.ro.ext n0
theorem TabA.at_z {m : Mem} {v : Value} {T : List (List Int)} (h : TabA m v T) {z : Int} {k : Nat} (hz : z = k) (hk : k < T.length) : iadA 1 v (.int .i64 z) = some (pAt v k) := by
  subst hz; exact h.at_ k hk
theorem all_getD {l : List Int} {f : Int → Bool} (h : ∀ i, i < l.length → f (l.getD i 0) = true) : l.all f = true := by
  rw [List.all_eq_true]
  intro x hx
  obtain ⟨j, hj, rfl⟩ := List.getElem_of_mem hx
  have := h j hj
  rwa [List.getD_eq_getElem?_getD, List.getElem?_eq_getElem hj] at this
theorem all_noD {l : List Int} {f : Int → Bool} {i : Nat} (hi : i < l.length) (h : f (l.getD i 0) = false) : l.all f = false := by
  cases hr : l.all f with
  | false => rfl
  | true =>
    rw [List.all_eq_true] at hr
    rw [List.getD_eq_getElem?_getD, List.getElem?_eq_getElem hi] at h
    have := hr l[i] (List.getElem_mem hi)
    rw [show f l[i] = false from h] at this; cases this
theorem allT_getD {T : List (List Int)} {f : List Int → Bool} (h : ∀ i, i < T.length → f (T.getD i []) = true) : T.all f = true := by
  rw [List.all_eq_true]
  intro x hx
  obtain ⟨j, hj, rfl⟩ := List.getElem_of_mem hx
  have := h j hj
  rwa [List.getD_eq_getElem?_getD, List.getElem?_eq_getElem hj] at this
theorem allT_noD {T : List (List Int)} {f : List Int → Bool} {i : Nat} (hi : i < T.length) (h : f (T.getD i []) = false) : T.all f = false := by
  cases hr : T.all f with
  | false => rfl
  | true =>
    rw [List.all_eq_true] at hr
    rw [List.getD_eq_getElem?_getD, List.getElem?_eq_getElem hi] at h
    have := hr T[i] (List.getElem_mem hi)
    rw [show f T[i] = false from h] at this; cases this
structure TabZ (m : Mem) (v : Value) (T : List (List Int)) : Prop where
  len : lenA v = some (.int .i64 T.length)
  bd : T.length ≤ 9223372036854775807
  at_ : ∀ k, k < T.length → iadA 1 v (.int .i64 (k : Int)) = some (pAt v k)
  ld : ∀ k, k < T.length → ∃ u, ldA m none (pAt v k) = some u ∧ IntsA m u (T.getD k [])
theorem TabA.z {m : Mem} {v : Value} {T : List (List Int)} (h : TabA m v T) : TabZ m v T := ⟨h.len, h.bd, h.at_, h.ld⟩
theorem TabZ.ext {m : Mem} {v : Value} {T : List (List Int)} (h : TabZ m v T) (new : Mem) : TabZ (m ++ new) v T :=
  ⟨h.len, h.bd, h.at_, fun k hk => by obtain ⟨u, h1, h2⟩ := h.ld k hk; exact ⟨u, ldA_ext h1, h2.ext new⟩⟩
theorem TabZ.ro {m : Mem} {v : Value} {T : List (List Int)} (h : TabZ m v T) : TabZ (roM m) v T :=
  ⟨h.len, h.bd, h.at_, fun k hk => by obtain ⟨u, h1, h2⟩ := h.ld k hk; exact ⟨u, by rw [ldA_roM]; exact h1, h2.ro⟩⟩
theorem TabZ.xt2 {m M : Mem} {v : Value} {T : List (List Int)} (h : TabZ m v T) (hx : Ext m M) : TabZ M v T := by
  obtain ⟨n0, rfl, _⟩ := hx
  exact h.ro.ext n0
theorem TabZ.at_z {m : Mem} {v : Value} {T : List (List Int)} (h : TabZ m v T) {z : Int} {k : Nat} (hz : z = k) (hk : k < T.length) : iadA 1 v (.int .i64 z) = some (pAt v k) := by
  subst hz; exact h.at_ k hk
theorem l6Table_rc (m : Mem) (v vt : Value) (p : Pr) (T : List (List Int)) (h : ProcA m v p) (hT : TabZ m vt T) (hG : GoodP p) : RC Try.prog 45 [v, vt] m (AnsV (.bool (tabVB p T))) := by
  refine rc_of_run mixed ok_spec_l6Table (by simp) (go_start _ _ _ ?_)
  obtain ⟨u, rfl, hu⟩ := h.ro
  have htu := hG.turns
  have hno : ∀ {t : Nat}, t < T.length → rowVB (T.getD t []) = false → tabVB p T = false := fun ht e => by rw [tabVB, allT_noD ht e, Bool.and_false]
  simp (config := {implicitDefEqProofs := false, maxDischargeDepth := 20}) (disch := first | omega | (simp only [lenE]; done) | (simp only [lenE]; omega) | rfl | (simp only [lenE, markR_len]; done) | (simp only [lenE, markR_len]; omega)) only [runE, mapE, listE, initT_5, initT_6, initT_7, initT_8, resV, oneV, binA, unA, reduceCtorEq, Nat.reduceEqDiff, Nat.reduceAdd, Nat.reduceLT, Nat.reduceLeDiff, Nat.reduceMul, Nat.reduceSub, ↓reduceIte, decide_true, decide_false, Bool.true_eq_false, Bool.false_eq_true, Bool.not_true, Bool.not_false, if_true, if_false, and_true, true_and, memE, celE, w64, Nat.zero_add, Nat.add_zero, Nat.mul_one, putL, and_self, ldn, c_spec_l6Table, r_spec_l6Table]
  have hX0 := (Ext.refl m).one 26 [.int .i64 p.turns, u, .int .i64 p.setup, .int .i64 p.unit, .int .i64 p.hold, .int .i64 p.back]
  have hT0 := hT.xt2 hX0
  have hb0 : OwnB (roM m ++ [⟨.own, 26, [.int .i64 p.turns, u, .int .i64 p.setup, .int .i64 p.unit, .int .i64 p.hold, .int .i64 p.back]⟩]) m.length 26 [.int .i64 p.turns, u, .int .i64 p.setup, .int .i64 p.unit, .int .i64 p.hold, .int .i64 p.back] := OwnB.here (roM_len m).symm
  obtain ⟨A, hA⟩ : ∃ A : Mem, A = roM m ++ [⟨.own, 26, [.int .i64 p.turns, u, .int .i64 p.setup, .int .i64 p.unit, .int .i64 p.hold, .int .i64 p.back]⟩] := ⟨_, rfl⟩
  rw [← hA] at hX0 hT0 hb0
  refine loop_inv mixed (fun s => ∃ (t : Nat), t ≤ T.length ∧ s.m = A ∧ (∀ j, j < t → rowVB (T.getD j []) = true) ∧ s.t 1 = vt ∧ s.t 2 = .pointer (some ⟨m.length, 0, none⟩) ∧ s.t 5 = .int .i64 t) (fun s => T.length - (intOf (s.t 5)).toNat)
    ⟨0, by omega, hA.symm, fun j hj => absurd hj (by omega), rfl, rfl, rfl⟩ ?_
  rintro s ⟨t, ht, tm, hall, t1, t2, t5⟩
  have hTb := hT0.bd
  by_cases hlt : t < T.length
  · have hlt' : (t : Int) < T.length := by omega
    obtain ⟨y, hy, hi⟩ := hT0.ld t hlt
    obtain ⟨row, hrow⟩ : ∃ row, row = T.getD t [] := ⟨_, rfl⟩
    rw [← hrow] at hi
    have hib := hi.bd
    simp (config := {implicitDefEqProofs := false, maxDischargeDepth := 20}) (disch := first | omega | (simp only [lenE]; done) | (simp only [lenE]; omega) | rfl | (simp only [lenE, markR_len]; done) | (simp only [lenE, markR_len]; omega)) only [runE, mapE, listE, initT_5, initT_6, initT_7, initT_8, resV, oneV, binA, unA, reduceCtorEq, Nat.reduceEqDiff, Nat.reduceAdd, Nat.reduceLT, Nat.reduceLeDiff, Nat.reduceMul, Nat.reduceSub, ↓reduceIte, decide_true, decide_false, Bool.true_eq_false, Bool.false_eq_true, Bool.not_true, Bool.not_false, if_true, if_false, and_true, true_and, memE, celE, w64, Nat.zero_add, Nat.add_zero, Nat.mul_one, putL, and_self, ldn, tm, t1, t2, t5, hT0.len, hlt']
    refine loop_inv mixed (fun s => ∃ (i : Nat), i ≤ row.length ∧ s.m = A ∧ (∀ j, j < i → valB (row.getD j 0) = true) ∧ s.t 1 = vt ∧ s.t 2 = .pointer (some ⟨m.length, 0, none⟩) ∧ s.t 5 = .int .i64 t ∧ s.t 6 = .int .i64 i) (fun s => row.length - (intOf (s.t 6)).toNat)
      ⟨0, by omega, tm, fun j hj => absurd hj (by omega), t1, t2, t5, rfl⟩ ?_
    rintro s ⟨i, hi2, tm, hin, t1, t2, t5, t6⟩
    by_cases hlti : i < row.length
    · have hlti' : (i : Int) < row.length := by omega
      simp (config := {implicitDefEqProofs := false, maxDischargeDepth := 20}) (disch := first | omega | (simp only [lenE]; done) | (simp only [lenE]; omega) | rfl | (simp only [lenE, markR_len]; done) | (simp only [lenE, markR_len]; omega)) only [runE, mapE, listE, initT_5, initT_6, initT_7, initT_8, resV, oneV, binA, unA, reduceCtorEq, Nat.reduceEqDiff, Nat.reduceAdd, Nat.reduceLT, Nat.reduceLeDiff, Nat.reduceMul, Nat.reduceSub, ↓reduceIte, decide_true, decide_false, Bool.true_eq_false, Bool.false_eq_true, Bool.not_true, Bool.not_false, if_true, if_false, and_true, true_and, memE, celE, w64, Nat.zero_add, Nat.add_zero, Nat.mul_one, putL, and_self, ldn, tm, t1, t2, t5, t6, hT0.at_ t hlt, hy, hi.len, hlti', hi.at_ i hlti, hi.ld i hlti]
      refine callH_rc (l1In_rc _ _ _ _) ?_
      rintro r new ⟨rfl, rfl⟩
      rw [List.append_nil, show (decide ((-1000000000000 : Int) ≤ row.getD i 0) && decide (row.getD i 0 ≤ 1000000000000)) = valB (row.getD i 0) from rfl]
      cases hv : valB (row.getD i 0) with
      | false =>
        simp (config := {implicitDefEqProofs := false, maxDischargeDepth := 20}) (disch := first | omega | (simp only [lenE]; done) | (simp only [lenE]; omega) | rfl | (simp only [lenE, markR_len]; done) | (simp only [lenE, markR_len]; omega)) only [runE, mapE, listE, initT_5, initT_6, initT_7, initT_8, resV, oneV, binA, unA, reduceCtorEq, Nat.reduceEqDiff, Nat.reduceAdd, Nat.reduceLT, Nat.reduceLeDiff, Nat.reduceMul, Nat.reduceSub, ↓reduceIte, decide_true, decide_false, Bool.true_eq_false, Bool.false_eq_true, Bool.not_true, Bool.not_false, if_true, if_false, and_true, true_and, memE, celE, w64, Nat.zero_add, Nat.add_zero, Nat.mul_one, putL, and_self, ldn, tm, t1, t2, t5, t6]
        refine ext_ansV3 hX0 ?_
        rw [hno hlt (by rw [← hrow, rowVB, valsB, all_noD hlti hv, Bool.and_false])]
      | true =>
        simp (config := {implicitDefEqProofs := false, maxDischargeDepth := 20}) (disch := first | omega | (simp only [lenE]; done) | (simp only [lenE]; omega) | rfl | (simp only [lenE, markR_len]; done) | (simp only [lenE, markR_len]; omega)) only [runE, mapE, listE, initT_5, initT_6, initT_7, initT_8, resV, oneV, binA, unA, reduceCtorEq, Nat.reduceEqDiff, Nat.reduceAdd, Nat.reduceLT, Nat.reduceLeDiff, Nat.reduceMul, Nat.reduceSub, ↓reduceIte, decide_true, decide_false, Bool.true_eq_false, Bool.false_eq_true, Bool.not_true, Bool.not_false, if_true, if_false, and_true, true_and, memE, celE, w64, Nat.zero_add, Nat.add_zero, Nat.mul_one, putL, and_self, ldn, tm, t1, t2, t5, t6]
        refine ⟨⟨i + 1, by omega, fun j hj => ?_, by simp⟩, by simp [intOf]; omega⟩
        by_cases e : j = i
        · rw [e]; exact hv
        · exact hin j (by omega)
    · have hlti' : ¬ ((i : Int) < row.length) := by omega
      have hvs : valsB row = true := all_getD fun j hj => hin j (by omega)
      by_cases h21 : row.length = 21
      · have h21' : ((row.length : Int) != 21) = false := by rw [h21]; rfl
        simp (config := {implicitDefEqProofs := false, maxDischargeDepth := 20}) (disch := first | omega | (simp only [lenE]; done) | (simp only [lenE]; omega) | rfl | (simp only [lenE, markR_len]; done) | (simp only [lenE, markR_len]; omega)) only [runE, mapE, listE, initT_5, initT_6, initT_7, initT_8, resV, oneV, binA, unA, reduceCtorEq, Nat.reduceEqDiff, Nat.reduceAdd, Nat.reduceLT, Nat.reduceLeDiff, Nat.reduceMul, Nat.reduceSub, ↓reduceIte, decide_true, decide_false, Bool.true_eq_false, Bool.false_eq_true, Bool.not_true, Bool.not_false, if_true, if_false, and_true, true_and, memE, celE, w64, Nat.zero_add, Nat.add_zero, Nat.mul_one, putL, and_self, ldn, tm, t1, t2, t5, t6, hT0.at_ t hlt, hy, hi.len, hlti', h21']
        refine ⟨⟨t + 1, by omega, fun j hj => ?_, by simp⟩, by simp [intOf]; omega⟩
        by_cases e : j = t
        · rw [e, ← hrow, rowVB, hvs, h21]; rfl
        · exact hall j (by omega)
      · have h21' : ((row.length : Int) != 21) = true := by rw [bne_iff_ne]; omega
        simp (config := {implicitDefEqProofs := false, maxDischargeDepth := 20}) (disch := first | omega | (simp only [lenE]; done) | (simp only [lenE]; omega) | rfl | (simp only [lenE, markR_len]; done) | (simp only [lenE, markR_len]; omega)) only [runE, mapE, listE, initT_5, initT_6, initT_7, initT_8, resV, oneV, binA, unA, reduceCtorEq, Nat.reduceEqDiff, Nat.reduceAdd, Nat.reduceLT, Nat.reduceLeDiff, Nat.reduceMul, Nat.reduceSub, ↓reduceIte, decide_true, decide_false, Bool.true_eq_false, Bool.false_eq_true, Bool.not_true, Bool.not_false, if_true, if_false, and_true, true_and, memE, celE, w64, Nat.zero_add, Nat.add_zero, Nat.mul_one, putL, and_self, ldn, tm, t1, t2, t5, t6, hT0.at_ t hlt, hy, hi.len, hlti', h21']
        refine ext_ansV3 hX0 ?_
        rw [hno hlt (by rw [← hrow, rowVB, hvs]; simp [h21])]
  · have hlt' : ¬ ((t : Int) < T.length) := by omega
    simp (config := {implicitDefEqProofs := false, maxDischargeDepth := 20}) (disch := first | omega | (simp only [lenE]; done) | (simp only [lenE]; omega) | rfl | (simp only [lenE, markR_len]; done) | (simp only [lenE, markR_len]; omega)) only [runE, mapE, listE, initT_5, initT_6, initT_7, initT_8, resV, oneV, binA, unA, reduceCtorEq, Nat.reduceEqDiff, Nat.reduceAdd, Nat.reduceLT, Nat.reduceLeDiff, Nat.reduceMul, Nat.reduceSub, ↓reduceIte, decide_true, decide_false, Bool.true_eq_false, Bool.false_eq_true, Bool.not_true, Bool.not_false, if_true, if_false, and_true, true_and, memE, celE, w64, Nat.zero_add, Nat.add_zero, Nat.mul_one, putL, and_self, ldn, tm, t1, t2, t5, hT0.len, hlt', hb0.rd]
    refine ext_ansV3 hX0 ?_
    rw [tabVB, allT_getD fun j hj => hall j (by omega)]
    by_cases e : (T.length : Int) = p.turns + 1 <;> simp [e]
theorem slMax_rc (m : Mem) (v : Value) (l : List Int) (h : IntsA m v l) (hl : 0 < l.length) :
    RC Try.prog 70 [v] m fun r new => (∃ z : Int, r = .int .i64 z ∧ decide (z ≤ 0) = l.all fun x => decide (x ≤ 0)) ∧ new = [] := by
  refine rc_of_run mixed ok_slices_Max (by simp) (go_start _ _ _ ?_)
  have hr := h.ro
  have h1 : ¬ ((l.length : Int) < 1) := by omega
  have a0 : iadA 1 v (.int .i64 0) = some (pAt v 0) := hr.at_ 0 hl
  simp (config := {implicitDefEqProofs := false, maxDischargeDepth := 20}) (disch := first | omega | (simp only [lenE]; done) | (simp only [lenE]; omega) | rfl | (simp only [lenE, markR_len]; done) | (simp only [lenE, markR_len]; omega)) only [runE, mapE, listE, initT_5, initT_6, initT_7, initT_8, resV, oneV, binA, unA, reduceCtorEq, Nat.reduceEqDiff, Nat.reduceAdd, Nat.reduceLT, Nat.reduceLeDiff, Nat.reduceMul, Nat.reduceSub, ↓reduceIte, decide_true, decide_false, Bool.true_eq_false, Bool.false_eq_true, Bool.not_true, Bool.not_false, if_true, if_false, and_true, true_and, memE, celE, w64, Nat.zero_add, Nat.add_zero, Nat.mul_one, putL, and_self, ldn, c_slices_Max, r_slices_Max, hr.len, h1, a0, hr.ld 0 hl]
  refine loop_inv mixed (fun s => ∃ (k : Nat) (z : Int), k < l.length ∧ (∃ i : Nat, i ≤ k ∧ z = l.getD i 0) ∧ (∀ i : Nat, i ≤ k → l.getD i 0 ≤ z) ∧ s.t 0 = v ∧ s.t 3 = .int .i64 z ∧ s.t 4 = .int .i64 ((k + 1 : Nat) : Int) ∧ s.m = roM m) (fun s => l.length + 1 - (intOf (s.t 4)).toNat) ⟨0, l.getD 0 0, hl, ⟨0, by omega, rfl⟩, fun i hi => by rw [show i = 0 by omega]; exact Int.le_refl _, rfl, rfl, rfl, rfl⟩ ?_
  rintro s ⟨k, z, hk, ⟨i0, hi0, hz⟩, hmin, t0, t3, t4, tm⟩
  have bd := hr.bd
  by_cases hlt : k + 1 < l.length
  · have hlt' : ((k + 1 : Nat) : Int) < l.length := by omega
    simp (config := {implicitDefEqProofs := false, maxDischargeDepth := 20}) (disch := first | omega | (simp only [lenE]; done) | (simp only [lenE]; omega) | rfl | (simp only [lenE, markR_len]; done) | (simp only [lenE, markR_len]; omega)) only [runE, mapE, listE, initT_5, initT_6, initT_7, initT_8, resV, oneV, binA, unA, reduceCtorEq, Nat.reduceEqDiff, Nat.reduceAdd, Nat.reduceLT, Nat.reduceLeDiff, Nat.reduceMul, Nat.reduceSub, ↓reduceIte, decide_true, decide_false, Bool.true_eq_false, Bool.false_eq_true, Bool.not_true, Bool.not_false, if_true, if_false, and_true, true_and, memE, celE, w64, Nat.zero_add, Nat.add_zero, Nat.mul_one, putL, and_self, ldn, t0, t3, t4, tm, hr.len, hr.at_ (k + 1) hlt, hr.ld (k + 1) hlt, hlt']
    refine ⟨⟨k + 1, max z (l.getD (k + 1) 0), hlt, ?_, fun i hi => ?_, rfl, by congr 1⟩, by simp [intOf]; omega⟩
    · by_cases e : l.getD (k + 1) 0 ≤ z
      · exact ⟨i0, by omega, by rw [← hz]; omega⟩
      · exact ⟨k + 1, by omega, by omega⟩
    · by_cases e : i = k + 1
      · rw [e]; omega
      · have := hmin i (by omega); omega
  · have hlt' : ¬ (((k + 1 : Nat) : Int) < l.length) := by omega
    simp (config := {implicitDefEqProofs := false, maxDischargeDepth := 20}) (disch := first | omega | (simp only [lenE]; done) | (simp only [lenE]; omega) | rfl | (simp only [lenE, markR_len]; done) | (simp only [lenE, markR_len]; omega)) only [runE, mapE, listE, initT_5, initT_6, initT_7, initT_8, resV, oneV, binA, unA, reduceCtorEq, Nat.reduceEqDiff, Nat.reduceAdd, Nat.reduceLT, Nat.reduceLeDiff, Nat.reduceMul, Nat.reduceSub, ↓reduceIte, decide_true, decide_false, Bool.true_eq_false, Bool.false_eq_true, Bool.not_true, Bool.not_false, if_true, if_false, and_true, true_and, memE, celE, w64, Nat.zero_add, Nat.add_zero, Nat.mul_one, putL, and_self, ldn, t0, t3, t4, tm, hr.len, hlt']
    refine newQ_nil ⟨⟨z, rfl, ?_⟩, rfl⟩
    by_cases e : z ≤ 0
    · rw [all_getD (l := l) (f := fun x => decide (x ≤ 0)) fun i hi => decide_eq_true (by have := hmin i (by omega); omega)]
      exact decide_eq_true e
    · rw [all_noD (l := l) (f := fun x => decide (x ≤ 0)) (i := i0) (by omega) (decide_eq_false (by omega))]
      exact decide_eq_false e
theorem rowTest_rc (m : Mem) (v : Value) (l : List Int) (h : IntsA m v l) : RC Try.prog 68 [v] m fun r new => r = .bool (!rowVB l) ∧ new = [] := by
  refine rc_of_run mixed ok_impl_isValueTable_1 (by simp) (go_start _ _ _ ?_)
  have hr := h.ro
  unfold rowVB
  by_cases h21 : l.length = 21
  · have h21' : ((l.length : Int) != 21) = false := by rw [h21]; rfl
    simp (config := {implicitDefEqProofs := false, maxDischargeDepth := 20}) (disch := first | omega | (simp only [lenE]; done) | (simp only [lenE]; omega) | rfl | (simp only [lenE, markR_len]; done) | (simp only [lenE, markR_len]; omega)) only [runE, mapE, listE, initT_5, initT_6, initT_7, initT_8, resV, oneV, binA, unA, reduceCtorEq, Nat.reduceEqDiff, Nat.reduceAdd, Nat.reduceLT, Nat.reduceLeDiff, Nat.reduceMul, Nat.reduceSub, ↓reduceIte, decide_true, decide_false, Bool.true_eq_false, Bool.false_eq_true, Bool.not_true, Bool.not_false, if_true, if_false, and_true, true_and, memE, celE, w64, Nat.zero_add, Nat.add_zero, Nat.mul_one, putL, and_self, ldn, c_impl_isValueTable_1, r_impl_isValueTable_1, hr.len, h21']
    refine callH_rc (areValues_rc _ v l hr) ?_
    rintro r new ⟨rfl, rfl⟩
    simp (config := {implicitDefEqProofs := false, maxDischargeDepth := 20}) (disch := first | omega | (simp only [lenE]; done) | (simp only [lenE]; omega) | rfl | (simp only [lenE, markR_len]; done) | (simp only [lenE, markR_len]; omega)) only [runE, mapE, listE, initT_5, initT_6, initT_7, initT_8, resV, oneV, binA, unA, reduceCtorEq, Nat.reduceEqDiff, Nat.reduceAdd, Nat.reduceLT, Nat.reduceLeDiff, Nat.reduceMul, Nat.reduceSub, ↓reduceIte, decide_true, decide_false, Bool.true_eq_false, Bool.false_eq_true, Bool.not_true, Bool.not_false, if_true, if_false, and_true, true_and, memE, celE, w64, Nat.zero_add, Nat.add_zero, Nat.mul_one, putL, and_self, ldn]
    exact newQ_nil ⟨by simp [h21], rfl⟩
  · have h21' : ((l.length : Int) != 21) = true := by rw [bne_iff_ne]; omega
    simp (config := {implicitDefEqProofs := false, maxDischargeDepth := 20}) (disch := first | omega | (simp only [lenE]; done) | (simp only [lenE]; omega) | rfl | (simp only [lenE, markR_len]; done) | (simp only [lenE, markR_len]; omega)) only [runE, mapE, listE, initT_5, initT_6, initT_7, initT_8, resV, oneV, binA, unA, reduceCtorEq, Nat.reduceEqDiff, Nat.reduceAdd, Nat.reduceLT, Nat.reduceLeDiff, Nat.reduceMul, Nat.reduceSub, ↓reduceIte, decide_true, decide_false, Bool.true_eq_false, Bool.false_eq_true, Bool.not_true, Bool.not_false, if_true, if_false, and_true, true_and, memE, celE, w64, Nat.zero_add, Nat.add_zero, Nat.mul_one, putL, and_self, ldn, c_impl_isValueTable_1, r_impl_isValueTable_1, hr.len, h21']
    exact newQ_nil ⟨by simp [h21], rfl⟩
theorem indexFuncT_rc (m : Mem) (v : Value) (T : List (List Int)) (h : TabZ m v T) :
    RC Try.prog 83 [v, .func (.func 68) #[] #[]] m fun r new => (∃ z : Int, r = .int .i64 z ∧ decide (0 ≤ z) = !T.all rowVB) ∧ new = [] := by
  refine rc_of_run mixed ok_slices_IndexFunc_sint (by simp) (go_start _ _ _ ?_)
  have hr := h.ro
  have hb := hr.bd
  simp (config := {implicitDefEqProofs := false, maxDischargeDepth := 20}) (disch := first | omega | (simp only [lenE]; done) | (simp only [lenE]; omega) | rfl | (simp only [lenE, markR_len]; done) | (simp only [lenE, markR_len]; omega)) only [runE, mapE, listE, initT_5, initT_6, initT_7, initT_8, resV, oneV, binA, unA, reduceCtorEq, Nat.reduceEqDiff, Nat.reduceAdd, Nat.reduceLT, Nat.reduceLeDiff, Nat.reduceMul, Nat.reduceSub, ↓reduceIte, decide_true, decide_false, Bool.true_eq_false, Bool.false_eq_true, Bool.not_true, Bool.not_false, if_true, if_false, and_true, true_and, memE, celE, w64, Nat.zero_add, Nat.add_zero, Nat.mul_one, putL, and_self, ldn, c_slices_IndexFunc_sint, r_slices_IndexFunc_sint, hr.len]
  refine loop_inv mixed (fun s => ∃ (k : Nat), k ≤ T.length ∧ s.m = roM m ∧ s.t 0 = v ∧ s.t 1 = .func (.func 68) #[] #[] ∧ s.t 7 = .int .i64 T.length ∧ s.t 8 = .int .i64 k ∧ ∀ j, j < k → rowVB (T.getD j []) = true) (fun s => T.length - (intOf (s.t 8)).toNat)
    ⟨0, by omega, rfl, rfl, rfl, rfl, rfl, fun j hj => absurd hj (by omega)⟩ ?_
  rintro s ⟨k, hk, tm, t0, t1, t7, t8, hno⟩
  by_cases hlt : k < T.length
  · have hlt' : (k : Int) < T.length := by omega
    obtain ⟨y, hy, hi⟩ := hr.ld k hlt
    simp (config := {implicitDefEqProofs := false, maxDischargeDepth := 20}) (disch := first | omega | (simp only [lenE]; done) | (simp only [lenE]; omega) | rfl | (simp only [lenE, markR_len]; done) | (simp only [lenE, markR_len]; omega)) only [runE, mapE, listE, initT_5, initT_6, initT_7, initT_8, resV, oneV, binA, unA, reduceCtorEq, Nat.reduceEqDiff, Nat.reduceAdd, Nat.reduceLT, Nat.reduceLeDiff, Nat.reduceMul, Nat.reduceSub, ↓reduceIte, decide_true, decide_false, Bool.true_eq_false, Bool.false_eq_true, Bool.not_true, Bool.not_false, if_true, if_false, and_true, true_and, memE, celE, w64, Nat.zero_add, Nat.add_zero, Nat.mul_one, putL, and_self, ldn, tm, t0, t1, t7, t8, hlt', hr.at_ k hlt, hy]
    refine callH_rc (rowTest_rc _ y _ hi) ?_
    rintro r new ⟨rfl, rfl⟩
    rw [List.append_nil]
    cases hb2 : rowVB (T.getD k []) with
    | false =>
      simp (config := {implicitDefEqProofs := false, maxDischargeDepth := 20}) (disch := first | omega | (simp only [lenE]; done) | (simp only [lenE]; omega) | rfl | (simp only [lenE, markR_len]; done) | (simp only [lenE, markR_len]; omega)) only [runE, mapE, listE, initT_5, initT_6, initT_7, initT_8, resV, oneV, binA, unA, reduceCtorEq, Nat.reduceEqDiff, Nat.reduceAdd, Nat.reduceLT, Nat.reduceLeDiff, Nat.reduceMul, Nat.reduceSub, ↓reduceIte, decide_true, decide_false, Bool.true_eq_false, Bool.false_eq_true, Bool.not_true, Bool.not_false, if_true, if_false, and_true, true_and, memE, celE, w64, Nat.zero_add, Nat.add_zero, Nat.mul_one, putL, and_self, ldn, tm, t0, t1, t7, t8]
      exact newQ_nil ⟨⟨_, rfl, by rw [allT_noD hlt hb2]; simp⟩, rfl⟩
    | true =>
      simp (config := {implicitDefEqProofs := false, maxDischargeDepth := 20}) (disch := first | omega | (simp only [lenE]; done) | (simp only [lenE]; omega) | rfl | (simp only [lenE, markR_len]; done) | (simp only [lenE, markR_len]; omega)) only [runE, mapE, listE, initT_5, initT_6, initT_7, initT_8, resV, oneV, binA, unA, reduceCtorEq, Nat.reduceEqDiff, Nat.reduceAdd, Nat.reduceLT, Nat.reduceLeDiff, Nat.reduceMul, Nat.reduceSub, ↓reduceIte, decide_true, decide_false, Bool.true_eq_false, Bool.false_eq_true, Bool.not_true, Bool.not_false, if_true, if_false, and_true, true_and, memE, celE, w64, Nat.zero_add, Nat.add_zero, Nat.mul_one, putL, and_self, ldn, tm, t0, t1, t7, t8]
      refine ⟨⟨k + 1, by omega, by simp, fun j hj => ?_⟩, by simp [intOf]; omega⟩
      by_cases e : j = k
      · rw [e]; exact hb2
      · exact hno j (by omega)
  · have hlt' : ¬ ((k : Int) < T.length) := by omega
    simp (config := {implicitDefEqProofs := false, maxDischargeDepth := 20}) (disch := first | omega | (simp only [lenE]; done) | (simp only [lenE]; omega) | rfl | (simp only [lenE, markR_len]; done) | (simp only [lenE, markR_len]; omega)) only [runE, mapE, listE, initT_5, initT_6, initT_7, initT_8, resV, oneV, binA, unA, reduceCtorEq, Nat.reduceEqDiff, Nat.reduceAdd, Nat.reduceLT, Nat.reduceLeDiff, Nat.reduceMul, Nat.reduceSub, ↓reduceIte, decide_true, decide_false, Bool.true_eq_false, Bool.false_eq_true, Bool.not_true, Bool.not_false, if_true, if_false, and_true, true_and, memE, celE, w64, Nat.zero_add, Nat.add_zero, Nat.mul_one, putL, and_self, ldn, tm, t0, t1, t7, t8, hlt']
    exact newQ_nil ⟨⟨_, rfl, by rw [allT_getD fun j hj => hno j (by omega)]; rfl⟩, rfl⟩
theorem isValueTable_rc (m : Mem) (v vt : Value) (p : Pr) (T : List (List Int)) (h : ProcA m v p) (hT : TabZ m vt T) (hG : GoodP p) : RC Try.prog 42 [v, vt] m (AnsV (.bool (tabVB p T && lastB p T))) := by
  refine rc_of_run mixed ok_impl_isValueTable (by simp) (go_start _ _ _ ?_)
  obtain ⟨u, rfl, hu⟩ := h.ro
  have htu := hG.turns
  have hTr := hT.ro
  by_cases hl : (T.length : Int) = p.turns + 1
  · simp (config := {implicitDefEqProofs := false, maxDischargeDepth := 20}) (disch := first | omega | (simp only [lenE]; done) | (simp only [lenE]; omega) | rfl | (simp only [lenE, markR_len]; done) | (simp only [lenE, markR_len]; omega)) only [runE, mapE, listE, initT_5, initT_6, initT_7, initT_8, resV, oneV, binA, unA, reduceCtorEq, Nat.reduceEqDiff, Nat.reduceAdd, Nat.reduceLT, Nat.reduceLeDiff, Nat.reduceMul, Nat.reduceSub, ↓reduceIte, decide_true, decide_false, Bool.true_eq_false, Bool.false_eq_true, Bool.not_true, Bool.not_false, if_true, if_false, and_true, true_and, memE, celE, w64, Nat.zero_add, Nat.add_zero, Nat.mul_one, putL, and_self, ldn, c_impl_isValueTable, r_impl_isValueTable, hTr.len, hl, beq_self_eq_true]
    refine callH_rc (?_ : RC Try.prog 69 [vt, .func (.func 68) #[] #[]] (roM m ++ [⟨.own, 26, [.int .i64 p.turns, u, .int .i64 p.setup, .int .i64 p.unit, .int .i64 p.hold, .int .i64 p.back]⟩]) fun r new => r = .bool (!T.all rowVB) ∧ new = []) ?_
    · refine rc_of_run mixed ok_slices_ContainsFunc_sint (by simp) (go_start _ _ _ ?_)
      simp (config := {implicitDefEqProofs := false, maxDischargeDepth := 20}) (disch := first | omega | (simp only [lenE]; done) | (simp only [lenE]; omega) | rfl | (simp only [lenE, markR_len]; done) | (simp only [lenE, markR_len]; omega)) only [runE, mapE, listE, initT_5, initT_6, initT_7, initT_8, resV, oneV, binA, unA, reduceCtorEq, Nat.reduceEqDiff, Nat.reduceAdd, Nat.reduceLT, Nat.reduceLeDiff, Nat.reduceMul, Nat.reduceSub, ↓reduceIte, decide_true, decide_false, Bool.true_eq_false, Bool.false_eq_true, Bool.not_true, Bool.not_false, if_true, if_false, and_true, true_and, memE, celE, w64, Nat.zero_add, Nat.add_zero, Nat.mul_one, putL, and_self, ldn, c_slices_ContainsFunc_sint, r_slices_ContainsFunc_sint]
      refine callH_rc (indexFuncT_rc _ vt T ((hTr.ext _).ro)) ?_
      rintro r new ⟨⟨z, rfl, hz⟩, rfl⟩
      simp (config := {implicitDefEqProofs := false, maxDischargeDepth := 20}) (disch := first | omega | (simp only [lenE]; done) | (simp only [lenE]; omega) | rfl | (simp only [lenE, markR_len]; done) | (simp only [lenE, markR_len]; omega)) only [runE, mapE, listE, initT_5, initT_6, initT_7, initT_8, resV, oneV, binA, unA, reduceCtorEq, Nat.reduceEqDiff, Nat.reduceAdd, Nat.reduceLT, Nat.reduceLeDiff, Nat.reduceMul, Nat.reduceSub, ↓reduceIte, decide_true, decide_false, Bool.true_eq_false, Bool.false_eq_true, Bool.not_true, Bool.not_false, if_true, if_false, and_true, true_and, memE, celE, w64, Nat.zero_add, Nat.add_zero, Nat.mul_one, putL, and_self, ldn, ge_iff_le]
      exact newQ_nil ⟨by rw [hz], rfl⟩
    rintro r new ⟨rfl, rfl⟩
    rw [List.append_nil]
    cases hall : T.all rowVB with
    | false =>
      simp (config := {implicitDefEqProofs := false, maxDischargeDepth := 20}) (disch := first | omega | (simp only [lenE]; done) | (simp only [lenE]; omega) | rfl | (simp only [lenE, markR_len]; done) | (simp only [lenE, markR_len]; omega)) only [runE, mapE, listE, initT_5, initT_6, initT_7, initT_8, resV, oneV, binA, unA, reduceCtorEq, Nat.reduceEqDiff, Nat.reduceAdd, Nat.reduceLT, Nat.reduceLeDiff, Nat.reduceMul, Nat.reduceSub, ↓reduceIte, decide_true, decide_false, Bool.true_eq_false, Bool.false_eq_true, Bool.not_true, Bool.not_false, if_true, if_false, and_true, true_and, memE, celE, w64, Nat.zero_add, Nat.add_zero, Nat.mul_one, putL, and_self, ldn]
      try simp only [List.append_assoc, List.cons_append, List.nil_append, List.append_nil]
      exact ⟨_, rfl, by (repeat (first | exact noRo_nil | assumption | apply noRo_own | apply noRo_dead | apply noRo_app)), by simp [tabVB, hall], by (repeat (first | exact noRo_nil | assumption | apply noRo_own | apply noRo_dead | apply noRo_app))⟩
    | true =>
      have hv : tabVB p T = true := by simp [tabVB, hall, hl]
      have hlen := tabV_row hv (t := p.turns.toNat) (by omega)
      have hT1 := hTr.ext [⟨.own, 26, [.int .i64 p.turns, u, .int .i64 p.setup, .int .i64 p.unit, .int .i64 p.hold, .int .i64 p.back]⟩]
      have a1 := hT1.at_z (z := p.turns) (k := p.turns.toNat) (by omega) (by omega)
      obtain ⟨y, a2, a3⟩ := hT1.ld p.turns.toNat (by omega)
      simp (config := {implicitDefEqProofs := false, maxDischargeDepth := 20}) (disch := first | omega | (simp only [lenE]; done) | (simp only [lenE]; omega) | rfl | (simp only [lenE, markR_len]; done) | (simp only [lenE, markR_len]; omega)) only [runE, mapE, listE, initT_5, initT_6, initT_7, initT_8, resV, oneV, binA, unA, reduceCtorEq, Nat.reduceEqDiff, Nat.reduceAdd, Nat.reduceLT, Nat.reduceLeDiff, Nat.reduceMul, Nat.reduceSub, ↓reduceIte, decide_true, decide_false, Bool.true_eq_false, Bool.false_eq_true, Bool.not_true, Bool.not_false, if_true, if_false, and_true, true_and, memE, celE, w64, Nat.zero_add, Nat.add_zero, Nat.mul_one, putL, and_self, ldn, a1, a2]
      refine callH_rc (slMax_rc _ y _ a3 (by omega)) ?_
      rintro r new ⟨⟨z, rfl, hz⟩, rfl⟩
      simp (config := {implicitDefEqProofs := false, maxDischargeDepth := 20}) (disch := first | omega | (simp only [lenE]; done) | (simp only [lenE]; omega) | rfl | (simp only [lenE, markR_len]; done) | (simp only [lenE, markR_len]; omega)) only [runE, mapE, listE, initT_5, initT_6, initT_7, initT_8, resV, oneV, binA, unA, reduceCtorEq, Nat.reduceEqDiff, Nat.reduceAdd, Nat.reduceLT, Nat.reduceLeDiff, Nat.reduceMul, Nat.reduceSub, ↓reduceIte, decide_true, decide_false, Bool.true_eq_false, Bool.false_eq_true, Bool.not_true, Bool.not_false, if_true, if_false, and_true, true_and, memE, celE, w64, Nat.zero_add, Nat.add_zero, Nat.mul_one, putL, and_self, ldn]
      try simp only [List.append_assoc, List.cons_append, List.nil_append, List.append_nil]
      refine ⟨_, rfl, by (repeat (first | exact noRo_nil | assumption | apply noRo_own | apply noRo_dead | apply noRo_app)), ?_, by (repeat (first | exact noRo_nil | assumption | apply noRo_own | apply noRo_dead | apply noRo_app))⟩
      rw [hz, hv]; rfl
  · have hl' : ((T.length : Int) == p.turns + 1) = false := by simp [hl]
    simp (config := {implicitDefEqProofs := false, maxDischargeDepth := 20}) (disch := first | omega | (simp only [lenE]; done) | (simp only [lenE]; omega) | rfl | (simp only [lenE, markR_len]; done) | (simp only [lenE, markR_len]; omega)) only [runE, mapE, listE, initT_5, initT_6, initT_7, initT_8, resV, oneV, binA, unA, reduceCtorEq, Nat.reduceEqDiff, Nat.reduceAdd, Nat.reduceLT, Nat.reduceLeDiff, Nat.reduceMul, Nat.reduceSub, ↓reduceIte, decide_true, decide_false, Bool.true_eq_false, Bool.false_eq_true, Bool.not_true, Bool.not_false, if_true, if_false, and_true, true_and, memE, celE, w64, Nat.zero_add, Nat.add_zero, Nat.mul_one, putL, and_self, ldn, c_impl_isValueTable, r_impl_isValueTable, hTr.len, hl']
    try simp only [List.append_assoc, List.cons_append, List.nil_append, List.append_nil]
    exact ⟨_, rfl, by (repeat (first | exact noRo_nil | assumption | apply noRo_own | apply noRo_dead | apply noRo_app)), by simp [tabVB, hl], by (repeat (first | exact noRo_nil | assumption | apply noRo_own | apply noRo_dead | apply noRo_app))⟩
theorem underB_no {p : Pr} {T : List (List Int)} {t i : Nat} (hi : i < 21) (h : underI p T t i = false) : underB p T t = false := by
  cases hr : underB p T t with
  | false => rfl
  | true =>
    simp only [underB, List.all_eq_true, List.mem_range] at hr
    rw [hr i hi] at h; cases h
theorem underB_yes {p : Pr} {T : List (List Int)} {t : Nat} (h : ∀ i, i < 21 → underI p T t i = true) : underB p T t = true := by
  simp only [underB, List.all_eq_true, List.mem_range]; exact h
theorem l6Under_rc (m : Mem) (v vt : Value) (p : Pr) (T : List (List Int)) (t : Nat) (h : ProcA m v p) (hT : TabZ m vt T) (hG : GoodP p) (hv : tabVB p T = true) (ht : (t : Int) < p.turns) : RC Try.prog 46 [v, vt, .int .i64 t] m (AnsV (.bool (underB p T t))) := by
  refine rc_of_run mixed ok_spec_l6Under (by simp) (go_start _ _ _ ?_)
  obtain ⟨u, rfl, hu⟩ := h.ro
  have htu := hG.turns
  have hTl := tabV_len hv
  have hr1 := tabV_row hv (t := t) (by omega)
  have hr2 := tabV_row hv (t := t + 1) (by omega)
  simp (config := {implicitDefEqProofs := false, maxDischargeDepth := 20}) (disch := first | omega | (simp only [lenE]; done) | (simp only [lenE]; omega) | rfl | (simp only [lenE, markR_len]; done) | (simp only [lenE, markR_len]; omega)) only [runE, mapE, listE, initT_5, initT_6, initT_7, initT_8, resV, oneV, binA, unA, reduceCtorEq, Nat.reduceEqDiff, Nat.reduceAdd, Nat.reduceLT, Nat.reduceLeDiff, Nat.reduceMul, Nat.reduceSub, ↓reduceIte, decide_true, decide_false, Bool.true_eq_false, Bool.false_eq_true, Bool.not_true, Bool.not_false, if_true, if_false, and_true, true_and, memE, celE, w64, Nat.zero_add, Nat.add_zero, Nat.mul_one, putL, and_self, ldn, c_spec_l6Under, r_spec_l6Under]
  refine loop_inv mixed (fun s => ∃ (i : Nat) (M : Mem), i ≤ 21 ∧ s.m = M ∧ Ext m M ∧ OwnB M m.length 26 [.int .i64 p.turns, u, .int .i64 p.setup, .int .i64 p.unit, .int .i64 p.hold, .int .i64 p.back] ∧ (∀ j, j < i → underI p T t j = true) ∧ s.t 1 = vt ∧ s.t 2 = .int .i64 t ∧ s.t 3 = .pointer (some ⟨m.length, 0, none⟩) ∧ s.t 7 = .int .i64 ((i : Int) - 10)) (fun s => (20 - intOf (s.t 7)).toNat)
    ⟨0, _, by omega, rfl, (Ext.refl m).one _ _, OwnB.here (roM_len m).symm, fun j hj => absurd hj (by omega), rfl, rfl, rfl, by simp only [put_t, put_t', put_m, putT_t, putT_t', putT_m, init_t, init_m, initT_0, initT_1, initT_2, initT_3, initT_4, initT_5, initT_6, initT_7, initT_8, Nat.reduceEqDiff, ↓reduceIte]; simp⟩ ?_
  rintro s ⟨i, M, hi, tm, hX, hb, hall, t1, t2, t3, t7⟩
  by_cases hlt : i < 21
  · have hlt' : (i : Int) - 10 ≤ 10 := by omega
    have hTM := hT.xt2 hX
    have a1 := hTM.at_z (z := (t : Int) + 1) (k := t + 1) (by omega) (by omega)
    obtain ⟨y, a2, a3⟩ := hTM.ld (t + 1) (by omega)
    simp (config := {implicitDefEqProofs := false, maxDischargeDepth := 20}) (disch := first | omega | (simp only [lenE]; done) | (simp only [lenE]; omega) | rfl | (simp only [lenE, markR_len]; done) | (simp only [lenE, markR_len]; omega)) only [runE, mapE, listE, initT_5, initT_6, initT_7, initT_8, resV, oneV, binA, unA, reduceCtorEq, Nat.reduceEqDiff, Nat.reduceAdd, Nat.reduceLT, Nat.reduceLeDiff, Nat.reduceMul, Nat.reduceSub, ↓reduceIte, decide_true, decide_false, Bool.true_eq_false, Bool.false_eq_true, Bool.not_true, Bool.not_false, if_true, if_false, and_true, true_and, memE, celE, w64, Nat.zero_add, Nat.add_zero, Nat.mul_one, putL, and_self, ldn, tm, t1, t2, t3, t7, hlt', hb.rd, a1, a2]
    refine rcallH_rc (l6Best_rc _ _ y p _ _ _ (p.turns.toNat - 1 - t) (ProcA.mk (hX.ints hu)) a3 hG hr2.1 (vals_in hr2.2) (by omega) (by omega) (by omega)) ?_
    rintro r n1 ⟨rfl, nr1⟩
    have hX1 := hX.app nr1
    have hTM1 := hT.xt2 hX1
    have b1 := hTM1.at_ t (by omega)
    obtain ⟨z, b2, b3⟩ := hTM1.ld t (by omega)
    have b4 := at_z b3 (z := (i : Int) - 10 + 10) (i := i) (by omega) (by omega)
    have b5 := b3.ld i (by omega)
    have hui : underI p T t i = decide ((T.getD t []).getD i 0 ≤ p.move (T.getD (t + 1) []) ((i : Int) - 10) (p.up (T.getD (t + 1) []) ((i : Int) - 10) (p.turns.toNat - 1 - t)) (p.turns.toNat - 1 - t)) := rfl
    by_cases hq : p.move (T.getD (t + 1) []) ((i : Int) - 10) (p.up (T.getD (t + 1) []) ((i : Int) - 10) (p.turns.toNat - 1 - t)) (p.turns.toNat - 1 - t) < (T.getD t []).getD i 0
    · simp (config := {implicitDefEqProofs := false, maxDischargeDepth := 20}) (disch := first | omega | (simp only [lenE]; done) | (simp only [lenE]; omega) | rfl | (simp only [lenE, markR_len]; done) | (simp only [lenE, markR_len]; omega)) only [runE, mapE, listE, initT_5, initT_6, initT_7, initT_8, resV, oneV, binA, unA, reduceCtorEq, Nat.reduceEqDiff, Nat.reduceAdd, Nat.reduceLT, Nat.reduceLeDiff, Nat.reduceMul, Nat.reduceSub, ↓reduceIte, decide_true, decide_false, Bool.true_eq_false, Bool.false_eq_true, Bool.not_true, Bool.not_false, if_true, if_false, and_true, true_and, memE, celE, w64, Nat.zero_add, Nat.add_zero, Nat.mul_one, putL, and_self, ldn, t1, t2, t3, t7, ext_2_0, ext_2_1, b1, b2, b4, b5, gt_iff_lt, hq]
      refine ext_ansV3 hX1 ?_
      rw [underB_no hlt (by rw [hui]; exact decide_eq_false (by omega))]
    · simp (config := {implicitDefEqProofs := false, maxDischargeDepth := 20}) (disch := first | omega | (simp only [lenE]; done) | (simp only [lenE]; omega) | rfl | (simp only [lenE, markR_len]; done) | (simp only [lenE, markR_len]; omega)) only [runE, mapE, listE, initT_5, initT_6, initT_7, initT_8, resV, oneV, binA, unA, reduceCtorEq, Nat.reduceEqDiff, Nat.reduceAdd, Nat.reduceLT, Nat.reduceLeDiff, Nat.reduceMul, Nat.reduceSub, ↓reduceIte, decide_true, decide_false, Bool.true_eq_false, Bool.false_eq_true, Bool.not_true, Bool.not_false, if_true, if_false, and_true, true_and, memE, celE, w64, Nat.zero_add, Nat.add_zero, Nat.mul_one, putL, and_self, ldn, t1, t2, t3, t7, ext_2_0, ext_2_1, b1, b2, b4, b5, gt_iff_lt, hq]
      refine ⟨⟨i + 1, _, by omega, rfl, hX1, hb.ext _, fun j hj => ?_, by congr 1; simp; omega⟩, by simp [intOf]; omega⟩
      by_cases e : j = i
      · rw [e, hui]; exact decide_eq_true (by omega)
      · exact hall j (by omega)
  · have hlt' : ¬ ((i : Int) - 10 ≤ 10) := by omega
    simp (config := {implicitDefEqProofs := false, maxDischargeDepth := 20}) (disch := first | omega | (simp only [lenE]; done) | (simp only [lenE]; omega) | rfl | (simp only [lenE, markR_len]; done) | (simp only [lenE, markR_len]; omega)) only [runE, mapE, listE, initT_5, initT_6, initT_7, initT_8, resV, oneV, binA, unA, reduceCtorEq, Nat.reduceEqDiff, Nat.reduceAdd, Nat.reduceLT, Nat.reduceLeDiff, Nat.reduceMul, Nat.reduceSub, ↓reduceIte, decide_true, decide_false, Bool.true_eq_false, Bool.false_eq_true, Bool.not_true, Bool.not_false, if_true, if_false, and_true, true_and, memE, celE, w64, Nat.zero_add, Nat.add_zero, Nat.mul_one, putL, and_self, ldn, tm, t1, t2, t3, t7, hlt']
    refine ext_ansV3 hX ?_
    rw [underB_yes fun j hj => hall j (by omega)]
theorem specProof6Z_rc (m : Mem) (v vt : Value) (p : Pr) (T : List (List Int)) (h : ProcA m v p) (hT : TabZ m vt T) : RC Try.prog 16 [v, vt] m (AnsV (.tuple #[.bool (p.good && proofB p T), .bool p.good])) := by
  refine rc_of_run mixed ok_spec_IsWorthProof (by simp) (go_start _ _ _ ?_)
  obtain ⟨u, rfl, hu⟩ := h.ro
  simp (config := {implicitDefEqProofs := false, maxDischargeDepth := 20}) (disch := first | omega | (simp only [lenE]; done) | (simp only [lenE]; omega) | rfl | (simp only [lenE, markR_len]; done) | (simp only [lenE, markR_len]; omega)) only [runE, mapE, listE, initT_5, initT_6, initT_7, initT_8, resV, oneV, binA, unA, reduceCtorEq, Nat.reduceEqDiff, Nat.reduceAdd, Nat.reduceLT, Nat.reduceLeDiff, Nat.reduceMul, Nat.reduceSub, ↓reduceIte, decide_true, decide_false, Bool.true_eq_false, Bool.false_eq_true, Bool.not_true, Bool.not_false, if_true, if_false, and_true, true_and, memE, celE, w64, Nat.zero_add, Nat.add_zero, Nat.mul_one, putL, and_self, ldn, c_spec_IsWorthProof, r_spec_IsWorthProof]
  refine callH_rc (l6Good_rc _ _ p (ProcA.mk (hu.ext _))) ?_
  rintro r n1 ⟨rfl, nr1⟩
  cases hg : p.good with
  | false =>
    simp (config := {implicitDefEqProofs := false, maxDischargeDepth := 20}) (disch := first | omega | (simp only [lenE]; done) | (simp only [lenE]; omega) | rfl | (simp only [lenE, markR_len]; done) | (simp only [lenE, markR_len]; omega)) only [runE, mapE, listE, initT_5, initT_6, initT_7, initT_8, resV, oneV, binA, unA, reduceCtorEq, Nat.reduceEqDiff, Nat.reduceAdd, Nat.reduceLT, Nat.reduceLeDiff, Nat.reduceMul, Nat.reduceSub, ↓reduceIte, decide_true, decide_false, Bool.true_eq_false, Bool.false_eq_true, Bool.not_true, Bool.not_false, if_true, if_false, and_true, true_and, memE, celE, w64, Nat.zero_add, Nat.add_zero, Nat.mul_one, putL, and_self, ldn]
    try simp only [List.append_assoc, List.cons_append, List.nil_append, List.append_nil]
    exact ⟨_, rfl, by (repeat (first | exact noRo_nil | assumption | apply noRo_own | apply noRo_dead | apply noRo_app)), by simp, by (repeat (first | exact noRo_nil | assumption | apply noRo_own | apply noRo_dead | apply noRo_app))⟩
  | true =>
  have hG := goodP_iff.1 hg
  have htu := hG.turns
  have hX1 := ((Ext.refl m).one 26 [.int .i64 p.turns, u, .int .i64 p.setup, .int .i64 p.unit, .int .i64 p.hold, .int .i64 p.back]).app nr1
  simp (config := {implicitDefEqProofs := false, maxDischargeDepth := 20}) (disch := first | omega | (simp only [lenE]; done) | (simp only [lenE]; omega) | rfl | (simp only [lenE, markR_len]; done) | (simp only [lenE, markR_len]; omega)) only [runE, mapE, listE, initT_5, initT_6, initT_7, initT_8, resV, oneV, binA, unA, reduceCtorEq, Nat.reduceEqDiff, Nat.reduceAdd, Nat.reduceLT, Nat.reduceLeDiff, Nat.reduceMul, Nat.reduceSub, ↓reduceIte, decide_true, decide_false, Bool.true_eq_false, Bool.false_eq_true, Bool.not_true, Bool.not_false, if_true, if_false, and_true, true_and, memE, celE, w64, Nat.zero_add, Nat.add_zero, Nat.mul_one, putL, and_self, ldn]
  refine callH_rc (l6Table_rc _ _ vt p T (ProcA.mk ((hu.ext _).ext _)) ((hT.ro.ext _).ext _) hG) ?_
  rintro r n2 ⟨rfl, nr2⟩
  have hX2 := hX1.app nr2
  cases hv : tabVB p T with
  | false =>
    simp (config := {implicitDefEqProofs := false, maxDischargeDepth := 20}) (disch := first | omega | (simp only [lenE]; done) | (simp only [lenE]; omega) | rfl | (simp only [lenE, markR_len]; done) | (simp only [lenE, markR_len]; omega)) only [runE, mapE, listE, initT_5, initT_6, initT_7, initT_8, resV, oneV, binA, unA, reduceCtorEq, Nat.reduceEqDiff, Nat.reduceAdd, Nat.reduceLT, Nat.reduceLeDiff, Nat.reduceMul, Nat.reduceSub, ↓reduceIte, decide_true, decide_false, Bool.true_eq_false, Bool.false_eq_true, Bool.not_true, Bool.not_false, if_true, if_false, and_true, true_and, memE, celE, w64, Nat.zero_add, Nat.add_zero, Nat.mul_one, putL, and_self, ldn]
    exact ext_ansV3 hX2 (by simp [proofB, hv])
  | true =>
  have hTl := tabV_len hv
  have hlast := tabV_row hv (t := p.turns.toNat) (by omega)
  have hb2 : OwnB (roM m ++ [⟨.own, 26, [.int .i64 p.turns, u, .int .i64 p.setup, .int .i64 p.unit, .int .i64 p.hold, .int .i64 p.back]⟩] ++ n1 ++ n2) m.length 26 [.int .i64 p.turns, u, .int .i64 p.setup, .int .i64 p.unit, .int .i64 p.hold, .int .i64 p.back] := ((OwnB.here (roM_len m).symm).ext _).ext _
  have hT2 := hT.xt2 hX2
  obtain ⟨A, hA⟩ : ∃ A : Mem, A = roM m ++ [⟨.own, 26, [.int .i64 p.turns, u, .int .i64 p.setup, .int .i64 p.unit, .int .i64 p.hold, .int .i64 p.back]⟩] ++ n1 ++ n2 := ⟨_, rfl⟩
  rw [← hA] at hX2 hb2 hT2
  have a1 := hT2.at_z (z := p.turns) (k := p.turns.toNat) (by omega) (by omega)
  obtain ⟨y, a2, a3⟩ := hT2.ld p.turns.toNat (by omega)
  have fin : lastB p T = false → newQ m (AnsV (.tuple #[.bool (true && proofB p T), .bool true])) (.tuple #[.bool false, .bool true]) A := fun e => ext_ansV3 hX2 (by simp [proofB, e])
  simp (config := {implicitDefEqProofs := false, maxDischargeDepth := 20}) (disch := first | omega | (simp only [lenE]; done) | (simp only [lenE]; omega) | rfl | (simp only [lenE, markR_len]; done) | (simp only [lenE, markR_len]; omega)) only [runE, mapE, listE, initT_5, initT_6, initT_7, initT_8, resV, oneV, binA, unA, reduceCtorEq, Nat.reduceEqDiff, Nat.reduceAdd, Nat.reduceLT, Nat.reduceLeDiff, Nat.reduceMul, Nat.reduceSub, ↓reduceIte, decide_true, decide_false, Bool.true_eq_false, Bool.false_eq_true, Bool.not_true, Bool.not_false, if_true, if_false, and_true, true_and, memE, celE, w64, Nat.zero_add, Nat.add_zero, Nat.mul_one, putL, and_self, ldn]
  refine loop_inv mixed (fun s => ∃ (i : Nat), i ≤ 21 ∧ s.m = A ∧ (∀ j, j < i → (T.getD p.turns.toNat []).getD j 0 ≤ 0) ∧ s.t 1 = vt ∧ s.t 2 = .pointer (some ⟨m.length, 0, none⟩) ∧ s.t 6 = .int .i64 i) (fun s => 21 - (intOf (s.t 6)).toNat)
    ⟨0, by omega, by rw [hA]; rfl, fun j hj => absurd hj (by omega), rfl, rfl, rfl⟩ ?_
  rintro s ⟨i, hi, tm, hall, t1, t2, t6⟩
  have hl21 : ((T.getD p.turns.toNat []).length : Int) = 21 := by omega
  by_cases hlt : i < 21
  · have hlt' : (i : Int) < 21 := by omega
    by_cases hq : 0 < (T.getD p.turns.toNat []).getD i 0
    · simp (config := {implicitDefEqProofs := false, maxDischargeDepth := 20}) (disch := first | omega | (simp only [lenE]; done) | (simp only [lenE]; omega) | rfl | (simp only [lenE, markR_len]; done) | (simp only [lenE, markR_len]; omega)) only [runE, mapE, listE, initT_5, initT_6, initT_7, initT_8, resV, oneV, binA, unA, reduceCtorEq, Nat.reduceEqDiff, Nat.reduceAdd, Nat.reduceLT, Nat.reduceLeDiff, Nat.reduceMul, Nat.reduceSub, ↓reduceIte, decide_true, decide_false, Bool.true_eq_false, Bool.false_eq_true, Bool.not_true, Bool.not_false, if_true, if_false, and_true, true_and, memE, celE, w64, Nat.zero_add, Nat.add_zero, Nat.mul_one, putL, and_self, ldn, tm, t1, t2, t6, hb2.rd, a1, a2, a3.len, hl21, hlt', a3.at_ i (by omega), a3.ld i (by omega), gt_iff_lt, hq]
      exact fin (all_noD (i := i) (by omega) (decide_eq_false (by omega)))
    · simp (config := {implicitDefEqProofs := false, maxDischargeDepth := 20}) (disch := first | omega | (simp only [lenE]; done) | (simp only [lenE]; omega) | rfl | (simp only [lenE, markR_len]; done) | (simp only [lenE, markR_len]; omega)) only [runE, mapE, listE, initT_5, initT_6, initT_7, initT_8, resV, oneV, binA, unA, reduceCtorEq, Nat.reduceEqDiff, Nat.reduceAdd, Nat.reduceLT, Nat.reduceLeDiff, Nat.reduceMul, Nat.reduceSub, ↓reduceIte, decide_true, decide_false, Bool.true_eq_false, Bool.false_eq_true, Bool.not_true, Bool.not_false, if_true, if_false, and_true, true_and, memE, celE, w64, Nat.zero_add, Nat.add_zero, Nat.mul_one, putL, and_self, ldn, tm, t1, t2, t6, hb2.rd, a1, a2, a3.len, hl21, hlt', a3.at_ i (by omega), a3.ld i (by omega), gt_iff_lt, hq]
      refine ⟨⟨i + 1, by omega, fun j hj => ?_, by simp⟩, by simp [intOf]; omega⟩
      by_cases e : j = i
      · rw [e]; omega
      · exact hall j (by omega)
  · have hlt' : ¬ ((i : Int) < 21) := by omega
    have hlb : lastB p T = true := all_getD fun j hj => decide_eq_true (hall j (by omega))
    simp (config := {implicitDefEqProofs := false, maxDischargeDepth := 20}) (disch := first | omega | (simp only [lenE]; done) | (simp only [lenE]; omega) | rfl | (simp only [lenE, markR_len]; done) | (simp only [lenE, markR_len]; omega)) only [runE, mapE, listE, initT_5, initT_6, initT_7, initT_8, resV, oneV, binA, unA, reduceCtorEq, Nat.reduceEqDiff, Nat.reduceAdd, Nat.reduceLT, Nat.reduceLeDiff, Nat.reduceMul, Nat.reduceSub, ↓reduceIte, decide_true, decide_false, Bool.true_eq_false, Bool.false_eq_true, Bool.not_true, Bool.not_false, if_true, if_false, and_true, true_and, memE, celE, w64, Nat.zero_add, Nat.add_zero, Nat.mul_one, putL, and_self, ldn, tm, t1, t2, t6, hb2.rd, a1, a2, a3.len, hl21, hlt']
    refine loop_inv mixed (fun s => ∃ (k : Nat) (M : Mem), (k : Int) ≤ p.turns ∧ s.m = M ∧ Ext m M ∧ OwnB M m.length 26 [.int .i64 p.turns, u, .int .i64 p.setup, .int .i64 p.unit, .int .i64 p.hold, .int .i64 p.back] ∧ (∀ j, j < k → underB p T j = true) ∧ s.t 1 = vt ∧ s.t 2 = .pointer (some ⟨m.length, 0, none⟩) ∧ s.t 7 = .int .i64 k) (fun s => (p.turns - intOf (s.t 7)).toNat)
      ⟨0, A, by omega, tm, hX2, hb2, fun j hj => absurd hj (by omega), t1, t2, rfl⟩ ?_
    rintro s ⟨k, M, hk, tm, hX, hb, hall, t1, t2, t7⟩
    by_cases hlt : (k : Int) < p.turns
    · simp (config := {implicitDefEqProofs := false, maxDischargeDepth := 20}) (disch := first | omega | (simp only [lenE]; done) | (simp only [lenE]; omega) | rfl | (simp only [lenE, markR_len]; done) | (simp only [lenE, markR_len]; omega)) only [runE, mapE, listE, initT_5, initT_6, initT_7, initT_8, resV, oneV, binA, unA, reduceCtorEq, Nat.reduceEqDiff, Nat.reduceAdd, Nat.reduceLT, Nat.reduceLeDiff, Nat.reduceMul, Nat.reduceSub, ↓reduceIte, decide_true, decide_false, Bool.true_eq_false, Bool.false_eq_true, Bool.not_true, Bool.not_false, if_true, if_false, and_true, true_and, memE, celE, w64, Nat.zero_add, Nat.add_zero, Nat.mul_one, putL, and_self, ldn, tm, t1, t2, t7, hb.rd, hlt]
      refine callH_rc (l6Under_rc _ _ vt p T k (ProcA.mk (hX.ints hu)) (hT.xt2 hX) hG hv hlt) ?_
      rintro r n3 ⟨rfl, nr3⟩
      cases hc : underB p T k with
      | false =>
        simp (config := {implicitDefEqProofs := false, maxDischargeDepth := 20}) (disch := first | omega | (simp only [lenE]; done) | (simp only [lenE]; omega) | rfl | (simp only [lenE, markR_len]; done) | (simp only [lenE, markR_len]; omega)) only [runE, mapE, listE, initT_5, initT_6, initT_7, initT_8, resV, oneV, binA, unA, reduceCtorEq, Nat.reduceEqDiff, Nat.reduceAdd, Nat.reduceLT, Nat.reduceLeDiff, Nat.reduceMul, Nat.reduceSub, ↓reduceIte, decide_true, decide_false, Bool.true_eq_false, Bool.false_eq_true, Bool.not_true, Bool.not_false, if_true, if_false, and_true, true_and, memE, celE, w64, Nat.zero_add, Nat.add_zero, Nat.mul_one, putL, and_self, ldn, t1, t2, t7]
        refine ext_ansV3 (hX.app nr3) ?_
        have : (List.range p.turns.toNat).all (underB p T) = false := by
          cases hr : (List.range p.turns.toNat).all (underB p T) with
          | false => rfl
          | true =>
            rw [List.all_eq_true] at hr
            have := hr k (List.mem_range.2 (by omega))
            rw [hc] at this; cases this
        simp [proofB, this]
      | true =>
        simp (config := {implicitDefEqProofs := false, maxDischargeDepth := 20}) (disch := first | omega | (simp only [lenE]; done) | (simp only [lenE]; omega) | rfl | (simp only [lenE, markR_len]; done) | (simp only [lenE, markR_len]; omega)) only [runE, mapE, listE, initT_5, initT_6, initT_7, initT_8, resV, oneV, binA, unA, reduceCtorEq, Nat.reduceEqDiff, Nat.reduceAdd, Nat.reduceLT, Nat.reduceLeDiff, Nat.reduceMul, Nat.reduceSub, ↓reduceIte, decide_true, decide_false, Bool.true_eq_false, Bool.false_eq_true, Bool.not_true, Bool.not_false, if_true, if_false, and_true, true_and, memE, celE, w64, Nat.zero_add, Nat.add_zero, Nat.mul_one, putL, and_self, ldn, t1, t2, t7]
        refine ⟨⟨k + 1, _, by omega, rfl, hX.app nr3, hb.ext _, fun j hj => ?_, by simp⟩, by simp [intOf]; omega⟩
        by_cases e : j = k
        · rw [e]; exact hc
        · exact hall j (by omega)
    · simp (config := {implicitDefEqProofs := false, maxDischargeDepth := 20}) (disch := first | omega | (simp only [lenE]; done) | (simp only [lenE]; omega) | rfl | (simp only [lenE, markR_len]; done) | (simp only [lenE, markR_len]; omega)) only [runE, mapE, listE, initT_5, initT_6, initT_7, initT_8, resV, oneV, binA, unA, reduceCtorEq, Nat.reduceEqDiff, Nat.reduceAdd, Nat.reduceLT, Nat.reduceLeDiff, Nat.reduceMul, Nat.reduceSub, ↓reduceIte, decide_true, decide_false, Bool.true_eq_false, Bool.false_eq_true, Bool.not_true, Bool.not_false, if_true, if_false, and_true, true_and, memE, celE, w64, Nat.zero_add, Nat.add_zero, Nat.mul_one, putL, and_self, ldn, tm, t1, t2, t7, hb.rd, hlt]
      refine ext_ansV3 hX ?_
      have : (List.range p.turns.toNat).all (underB p T) = true := by
        rw [List.all_eq_true]
        intro j hj
        exact hall j (by have := List.mem_range.1 hj; omega)
      simp [proofB, this, hv, hlb]
end Go.Proofs.Ytckpfgkgigicpaa.Ab
end
section
namespace Go.Proofs.Ytckpfgkgigicpaa
open Go
set_option linter.unusedVariables false
def KConv (K : Int) (f : Int → Int) (lo hi : Int) : Prop := ∀ a v u, 0 < v → 0 < u → lo ≤ a - v → a + u ≤ hi → v * f a + u * (f a - f (a - v)) ≤ v * (K + f (a + u))
theorem least_ex (P : Int → Prop) [DecidablePred P] (lo : Int) : ∀ n : Nat, P (lo + n) → ∃ s, lo ≤ s ∧ s ≤ lo + n ∧ P s ∧ ∀ x, lo ≤ x → x < s → ¬ P x
  | 0, h => ⟨lo, Int.le_refl _, by omega, by simpa using h, fun x h1 h2 => by omega⟩
  | n + 1, h => by
    by_cases h0 : P lo
    · exact ⟨lo, Int.le_refl _, by omega, h0, fun x h1 h2 => by omega⟩
    · obtain ⟨s, h1, h2, h3, h4⟩ := least_ex P (lo + 1) n (by rw [show lo + 1 + (n : Int) = lo + ((n + 1 : Nat) : Int) by omega]; exact h)
      refine ⟨s, by omega, by omega, h3, fun x hx hs => ?_⟩
      by_cases e : x = lo
      · rw [e]; exact h0
      · exact h4 x (by omega) hs
section
variable {K : Int} {H V : Int → Int} {fl lo hi S s : Int}
theorem KConv.upto (hH : KConv K H fl hi) (hK : 0 ≤ K) (h1 : fl ≤ s) (h2 : s ≤ S) (h3 : S ≤ hi) (hs : H s ≤ K + H S) {x : Int} (hx : s ≤ x) (hx2 : x ≤ S) : H x ≤ K + H S := by
  by_cases e1 : x = s
  · rw [e1]; exact hs
  by_cases e2 : x = S
  · rw [e2]; omega
  have h := hH x (x - s) (S - x) (by omega) (by omega) (by omega) (by omega)
  rw [show x - (x - s) = s by omega, show x + (S - x) = S by omega] at h
  rcases Int.lt_or_le (K + H S) (H x) with hc | hc
  · have p1 : (x - s) * (K + H S) < (x - s) * H x := Int.mul_lt_mul_of_pos_left hc (by omega)
    have p2 : 0 ≤ (S - x) * (H x - H s) := Int.mul_nonneg (by omega) (by omega)
    omega
  · exact hc
theorem KConv.behind (hH : KConv K H fl hi) (hK : 0 ≤ K) (h1 : fl ≤ s) (h2 : s ≤ S) (h3 : S ≤ hi) (hs : H s ≤ K + H S) (hmin : ∀ y, fl ≤ y → y ≤ hi → H S ≤ H y) {x y : Int} (hx : s ≤ x) (hxy : x ≤ y) (hy : y ≤ hi) : H x ≤ K + H y := by
  rcases Int.lt_or_le S x with hS | hS
  · by_cases e : x = y
    · rw [e]; omega
    have h := hH x (x - S) (y - x) (by omega) (by omega) (by omega) (by omega)
    rw [show x - (x - S) = S by omega, show x + (y - x) = y by omega] at h
    have p2 : 0 ≤ (y - x) * (H x - H S) := Int.mul_nonneg (by omega) (by have := hmin x (by omega) (by omega); omega)
    exact Int.le_of_mul_le_mul_left (a := x - S) (by omega) (by omega)
  · have p1 := hH.upto hK h1 h2 h3 hs hx hS
    have p2 := hmin y (by omega) hy
    omega
theorem KConv.scarf (hH : KConv K H fl hi) (hK : 0 ≤ K) (hl : lo ≤ fl) (h1 : fl ≤ s) (h2 : s ≤ S) (h3 : S ≤ hi) (hs : H s ≤ K + H S) (hb : ∀ x, fl ≤ x → x < s → K + H S < H x) (hmin : ∀ y, fl ≤ y → y ≤ hi → H S ≤ H y)
    (v1 : ∀ x y, lo ≤ x → x ≤ y → fl ≤ y → y ≤ hi → V x ≤ (if x < y then K else 0) + H y) (v2 : ∀ x, lo ≤ x → x ≤ hi → ∃ y, x ≤ y ∧ fl ≤ y ∧ y ≤ hi ∧ V x = (if x < y then K else 0) + H y) :
    (∀ x, s ≤ x → x ≤ hi → V x = H x) ∧ (∀ x, lo ≤ x → x < s → V x = K + H S) ∧ KConv K V lo hi := by
  have f1 : ∀ x, s ≤ x → x ≤ hi → V x = H x := fun x hx hx2 => by
    have a := v1 x x (by omega) (Int.le_refl _) (by omega) hx2
    rw [if_neg (Int.lt_irrefl x)] at a
    obtain ⟨y, b1, b2, b3, b4⟩ := v2 x (by omega) hx2
    by_cases e : x < y
    · rw [if_pos e] at b4
      have := hH.behind hK h1 h2 h3 hs hmin hx b1 b3
      omega
    · obtain rfl : x = y := by omega
      rw [if_neg e] at b4
      omega
  have f2 : ∀ x, lo ≤ x → x < s → V x = K + H S := fun x hx hx2 => by
    have a := v1 x S hx (by omega) (by omega) h3
    rw [if_pos (by omega)] at a
    obtain ⟨y, b1, b2, b3, b4⟩ := v2 x hx (by omega)
    have hm := hmin y b2 b3
    by_cases e : x < y
    · rw [if_pos e] at b4
      omega
    · obtain rfl : x = y := by omega
      rw [if_neg e] at b4
      have := hb x b2 hx2
      omega
  refine ⟨f1, f2, fun a v u hv hu hp hq => ?_⟩
  rcases Int.lt_or_le (a - v) s with c1 | c1
  · rcases Int.lt_or_le a s with c2 | c2
    · rw [f2 a (by omega) c2, f2 (a - v) hp c1, Int.sub_self, Int.mul_zero, Int.add_zero]
      refine Int.mul_le_mul_of_nonneg_left ?_ (by omega)
      rcases Int.lt_or_le (a + u) s with c3 | c3
      · rw [f2 (a + u) (by omega) c3]; omega
      · rw [f1 (a + u) c3 hq]
        have := hmin (a + u) (by omega) hq
        omega
    · rw [f1 a c2 (by omega), f2 (a - v) hp c1, f1 (a + u) (by omega) hq]
      have g1 := hH.behind hK h1 h2 h3 hs hmin c2 (show a ≤ a + u by omega) hq
      have g2 : v * H a ≤ v * (K + H (a + u)) := Int.mul_le_mul_of_nonneg_left g1 (by omega)
      rcases Int.lt_or_le (K + H S) (H a) with c3 | c3
      · have c4 : S < a := by
          rcases Int.lt_or_le S a with h | h
          · exact h
          · have := hH.upto hK h1 h2 h3 hs c2 h; omega
        have h := hH a (a - S) u (by omega) hu (by omega) hq
        rw [show a - (a - S) = S by omega] at h
        -- v' := a - S, D := K + H (a + u) - H a, E := H a - H S
        have hD : (a - S) * (K + H (a + u)) = (a - S) * H a + (a - S) * (K + H (a + u) - H a) := by rw [← Int.mul_add]; congr 1; omega
        have hE : u * (H a - H S) ≤ (a - S) * (K + H (a + u) - H a) := by omega
        have hv' : (a - S) * (K + H (a + u) - H a) ≤ v * (K + H (a + u) - H a) := Int.mul_le_mul_of_nonneg_right (by omega) (by omega)
        have hu' : u * (H a - (K + H S)) ≤ u * (H a - H S) := Int.mul_le_mul_of_nonneg_left (by omega) (by omega)
        have hD2 : v * (K + H (a + u)) = v * H a + v * (K + H (a + u) - H a) := by rw [← Int.mul_add]; congr 1; omega
        omega
      · have : u * (H a - (K + H S)) ≤ 0 := by
          have := Int.mul_le_mul_of_nonneg_left (show H a - (K + H S) ≤ 0 by omega) (show 0 ≤ u by omega)
          simpa using this
        omega
  · rw [f1 a (by omega) (by omega), f1 (a - v) c1 (by omega), f1 (a + u) (by omega) hq]
    exact hH a v u hv hu (by omega) hq
end
theorem KConv.mono {K : Int} {f : Int → Int} {lo hi lo' hi' : Int} (h : KConv K f lo hi) (h1 : lo ≤ lo') (h2 : hi' ≤ hi) : KConv K f lo' hi' := fun a v u hv hu hp hq => h a v u hv hu (by omega) (by omega)
theorem KConv.congr {K K' : Int} {f g : Int → Int} {lo hi : Int} (h : KConv K f lo hi) (hK : K = K') (he : ∀ x, lo ≤ x → x ≤ hi → g x = f x) : KConv K' g lo hi := fun a v u hv hu hp hq => by
  subst hK
  rw [he a (by omega) (by omega), he (a - v) hp (by omega), he (a + u) (by omega) hq]
  exact h a v u hv hu hp hq
theorem KConv.shift {K : Int} {f : Int → Int} {lo hi : Int} (h : KConv K f lo hi) (d : Int) : KConv K (fun x => f (x - d)) (lo + d) (hi + d) := fun a v u hv hu hp hq => by
  have := h (a - d) v u hv hu (by omega) (by omega)
  show v * f (a - d) + u * (f (a - d) - f (a - v - d)) ≤ v * (K + f (a + u - d))
  rw [show a - v - d = a - d - v by omega, show a + u - d = a - d + u by omega]
  exact this
theorem KConv.add {K L : Int} {f g : Int → Int} {lo hi : Int} (h : KConv K f lo hi) (h' : KConv L g lo hi) : KConv (K + L) (fun x => f x + g x) lo hi := fun a v u hv hu hp hq => by
  have h1 := h a v u hv hu hp hq
  have h2 := h' a v u hv hu hp hq
  show v * (f a + g a) + u * (f a + g a - (f (a - v) + g (a - v))) ≤ v * (K + L + (f (a + u) + g (a + u)))
  have e1 : v * (f a + g a) + u * (f a + g a - (f (a - v) + g (a - v))) = (v * f a + u * (f a - f (a - v))) + (v * g a + u * (g a - g (a - v))) := by grind
  have e2 : v * (K + L + (f (a + u) + g (a + u))) = v * (K + f (a + u)) + v * (L + g (a + u)) := by grind
  omega
theorem KConv.mul {K : Int} {f : Int → Int} {lo hi : Int} (h : KConv K f lo hi) {w : Int} (hw : 0 ≤ w) : KConv (w * K) (fun x => w * f x) lo hi := fun a v u hv hu hp hq => by
  have h1 := Int.mul_le_mul_of_nonneg_left (h a v u hv hu hp hq) hw
  show v * (w * f a) + u * (w * f a - w * f (a - v)) ≤ v * (w * K + w * f (a + u))
  have e1 : v * (w * f a) + u * (w * f a - w * f (a - v)) = w * (v * f a + u * (f a - f (a - v))) := by grind
  have e2 : v * (w * K + w * f (a + u)) = w * (v * (K + f (a + u))) := by grind
  rw [e1, e2]
  exact h1
theorem KConv.line (c d : Int) {lo hi : Int} : KConv 0 (fun x => c * x + d) lo hi := fun a v u hv hu hp hq => by
  show v * (c * a + d) + u * (c * a + d - (c * (a - v) + d)) ≤ v * (0 + (c * (a + u) + d))
  have e : v * (c * a + d) + u * (c * a + d - (c * (a - v) + d)) = v * (0 + (c * (a + u) + d)) := by grind
  omega
theorem KConv.zero {K : Int} (hK : 0 ≤ K) {lo hi : Int} : KConv K (fun _ => 0) lo hi := fun a v u hv hu hp hq => by
  show v * 0 + u * (0 - 0) ≤ v * (K + 0)
  have : 0 ≤ v * K := Int.mul_nonneg (by omega) hK
  simpa using this
theorem kept_ge {p : Pr} (h1 : 0 ≤ p.hold) (h2 : 0 ≤ p.back) (x : Int) : p.hold * x ≤ p.kept x ∧ -p.back * x ≤ p.kept x := by
  unfold Pr.kept
  split
  · refine ⟨Int.le_refl _, ?_⟩
    have a := Int.mul_nonneg h1 (show 0 ≤ x by omega)
    have b := Int.mul_nonneg h2 (show 0 ≤ x by omega)
    rw [Int.neg_mul]; omega
  · refine ⟨?_, Int.le_refl _⟩
    have a := Int.mul_nonneg h1 (show 0 ≤ -x by omega)
    have b := Int.mul_nonneg h2 (show 0 ≤ -x by omega)
    rw [Int.mul_neg] at a b
    rw [Int.neg_mul]; omega
theorem KConv.kept {p : Pr} (h1 : 0 ≤ p.hold) (h2 : 0 ≤ p.back) {lo hi : Int} : KConv 0 p.kept lo hi := fun a v u hv hu hp hq => by
  have g1 := kept_ge h1 h2 (a + u)
  have g2 := kept_ge h1 h2 (a - v)
  have key : ∀ c : Int, p.kept a = c * a → c * (a + u) ≤ p.kept (a + u) → c * (a - v) ≤ p.kept (a - v) → v * p.kept a + u * (p.kept a - p.kept (a - v)) ≤ v * (0 + p.kept (a + u)) := fun c e q1 q2 => by
    have m1 := Int.mul_le_mul_of_nonneg_left q1 (show 0 ≤ v by omega)
    have m2 := Int.mul_le_mul_of_nonneg_left q2 (show 0 ≤ u by omega)
    rw [e]
    generalize p.kept (a + u) = X at *
    generalize p.kept (a - v) = Y at *
    have e1 : v * (c * a) + u * (c * a - Y) = v * (c * (a + u)) + (u * (c * (a - v)) - u * Y) := by grind
    rw [e1, Int.zero_add]
    omega
  by_cases ha : 0 < a
  · exact key p.hold (by unfold Pr.kept; rw [if_pos ha]) g1.1 g2.1
  · exact key (-p.back) (by unfold Pr.kept; rw [if_neg ha]) g1.2 g2.2
def fun21 (l : List Int) (x : Int) : Int := l.getD (x + 10).toNat 0
theorem KConv.weighted {p : Pr} (hG : GoodP p) {next : List Int} {n : Nat} (hn : KConv (p.setup * p.pow n) (fun21 next) (-10) 10) : ∀ k, k ≤ p.w.length → KConv (sumTo p.w k * (p.setup * p.pow n)) (fun y => wsum p.w (p.part next y n) k) p.floor 10
  | 0, _ => by
    have := KConv.zero (K := 0) (Int.le_refl 0) (lo := p.floor) (hi := 10)
    exact this.congr (by simp [sumTo]) fun x _ _ => rfl
  | k + 1, hk => by
    have ih := KConv.weighted hG hn k (by omega)
    have hw := hG.at_ k
    have hl := hG.len
    have hp := hG.pow n
    have a1 : KConv (p.pow n * 0) (fun x => p.pow n * p.kept x) (-10) 10 := (KConv.kept (p := p) (by have := hG.hold; omega) (by have := hG.back; omega)).mul (by omega)
    have a2 := ((a1.add hn).shift (k : Int)).mul hw.1
    have a3 : KConv (p.w.getD k 0 * (p.setup * p.pow n)) (fun y => p.w.getD k 0 * p.part next y n k) p.floor 10 := by
      refine (a2.mono (by unfold Pr.floor; omega) (by omega)).congr (by rw [Int.mul_zero, Int.zero_add]) fun x _ _ => ?_
      show _ = p.w.getD k 0 * (p.pow n * p.kept (x - k) + fun21 next (x - k))
      unfold Pr.part fun21
      rw [Int.mul_comm (p.pow n)]
    refine (ih.add a3).congr ?_ fun x _ _ => rfl
    rw [sumTo_sD (by omega), Int.add_mul]
theorem KConv.bill {p : Pr} (hG : GoodP p) {next : List Int} {n : Nat} (hn : KConv (p.setup * p.pow n) (fun21 next) (-10) 10) : KConv (p.setup * p.pow (n + 1)) (fun y => p.bill next y n) p.floor 10 := by
  have h1 := (KConv.line (p.unit * p.pow (n + 1)) 0 (lo := p.floor) (hi := 10)).add (KConv.weighted hG hn p.w.length (Nat.le_refl _))
  refine h1.congr ?_ fun y _ _ => ?_
  · rw [Int.zero_add]
    show p.whole * (p.setup * p.pow n) = p.setup * (p.pow n * p.whole)
    grind
  · unfold Pr.bill Pr.after
    grind
theorem Pr.move_bill (p : Pr) (next : List Int) (n : Nat) {x y : Int} (hxy : x ≤ y) : p.move next x y n + p.unit * p.pow (n + 1) * x = (if x < y then p.setup * p.pow (n + 1) else 0) + p.bill next y n := by
  unfold Pr.move Pr.bill Pr.ord
  by_cases e : x < y
  · rw [if_pos e, if_pos e]; grind
  · obtain rfl : x = y := by omega
    rw [if_neg e, if_neg e]; grind
theorem Pr.row_scarf {p : Pr} (hG : GoodP p) {next : List Int} {n : Nat} (hn : KConv (p.setup * p.pow n) (fun21 next) (-10) 10) {W : Int → Int} (hW : ∀ x, -10 ≤ x → x ≤ 10 → W x = p.move next x (p.up next x n) n) {s S : Int}
    (m : IsLeast (fun y => p.bill next y n) p.floor 10 S) (s1 : p.floor ≤ s) (s2 : s ≤ S) (s3 : p.bill next s n ≤ p.setup * p.pow (n + 1) + p.bill next S n) (s4 : ∀ x, p.floor ≤ x → x < s → p.setup * p.pow (n + 1) + p.bill next S n < p.bill next x n) :
    (∀ x, s ≤ x → x ≤ 10 → W x + p.unit * p.pow (n + 1) * x = p.bill next x n) ∧ (∀ x, -10 ≤ x → x < s → W x + p.unit * p.pow (n + 1) * x = p.setup * p.pow (n + 1) + p.bill next S n) ∧ KConv (p.setup * p.pow (n + 1)) W (-10) 10 := by
  have hB := KConv.bill hG hn
  have hfl := hG.floor
  have hpw := hG.pow (n + 1)
  have hK : 0 ≤ p.setup * p.pow (n + 1) := Int.mul_nonneg (by have := hG.setup; omega) (by omega)
  have mv := fun x y (h : x ≤ y) => Pr.move_bill p next n h
  obtain ⟨K, hKe⟩ : ∃ K, K = p.setup * p.pow (n + 1) := ⟨_, rfl⟩
  obtain ⟨c, hc⟩ : ∃ c, c = p.unit * p.pow (n + 1) := ⟨_, rfl⟩
  obtain ⟨m1, m2, m3, m4⟩ := m
  rw [← hKe] at hB hK s3 s4 mv ⊢
  rw [← hc] at mv ⊢
  have H := KConv.scarf (V := fun x => W x + c * x) (lo := -10) hB hK (by omega) s1 s2 m2 s3 s4 m3
    (fun x y h1 h2 h3 h4 => by
      have hu := Pr.up_least hG next (x := x) ⟨h1, by omega⟩ n
      have := hu.2.2.1 y (by unfold Pr.lo; omega) h4
      have e := mv x y h2
      show W x + c * x ≤ _
      rw [hW x h1 (by omega), ← e]
      show p.move next x (p.up next x n) n + c * x ≤ p.move next x y n + c * x
      exact Int.add_le_add_right this _)
    (fun x h1 h2 => by
      have hu := Pr.up_may hG next (x := x) ⟨h1, h2⟩ n
      refine ⟨p.up next x n, hu.2, hu.1.1, hu.1.2, ?_⟩
      show W x + c * x = _
      rw [hW x h1 h2, mv x _ hu.2])
  refine ⟨H.1, H.2.1, ?_⟩
  have h2 := H.2.2.add (KConv.line (-c) 0)
  refine h2.congr (Int.add_zero _) fun x _ _ => ?_
  show W x = W x + c * x + (-c * x + 0)
  rw [Int.neg_mul]; omega
theorem Pr.row_conv {p : Pr} (hG : GoodP p) {next : List Int} {n : Nat} (hn : KConv (p.setup * p.pow n) (fun21 next) (-10) 10) {W : Int → Int} (hW : ∀ x, -10 ≤ x → x ≤ 10 → W x = p.move next x (p.up next x n) n) :
    KConv (p.setup * p.pow (n + 1)) W (-10) 10 := by
  have hfl := hG.floor
  have hpw := hG.pow (n + 1)
  have hK : 0 ≤ p.setup * p.pow (n + 1) := Int.mul_nonneg (by have := hG.setup; omega) (by omega)
  have hmin := amin_least (fun y => p.bill next y n) p.floor (10 - p.floor).toNat
  rw [show p.floor + ((10 - p.floor).toNat : Int) = 10 by omega] at hmin
  obtain ⟨S, hS⟩ : ∃ S, S = amin (fun y => p.bill next y n) p.floor (10 - p.floor).toNat := ⟨_, rfl⟩
  rw [← hS] at hmin
  have m1 := hmin.1
  obtain ⟨s, s1, s2, s3, s4⟩ := least_ex (fun x => p.bill next x n ≤ p.setup * p.pow (n + 1) + p.bill next S n) p.floor (S - p.floor).toNat (by rw [show p.floor + ((S - p.floor).toNat : Int) = S by omega]; omega)
  exact (Pr.row_scarf hG hn hW hmin s1 (by omega) s3 (fun x h1 h2 => by have := s4 x h1 h2; omega)).2.2
theorem Pr.rows_conv {p : Pr} (hG : GoodP p) : ∀ k, KConv (p.setup * p.pow k) (fun21 (p.rowsN p.bestC k)) (-10) 10
  | 0 => (KConv.zero (Int.mul_nonneg (by have := hG.setup; omega) (by have := hG.pow 0; omega))).congr rfl fun x h1 h2 => by
      show (List.replicate 21 (0 : Int)).getD (x + 10).toNat 0 = 0
      rw [List.getD_eq_getElem?_getD, List.getElem?_replicate, if_pos (by omega)]; rfl
  | k + 1 => Pr.row_conv hG (Pr.rows_conv hG k) fun x h1 h2 => by
      show (p.rowsN p.bestC (k + 1)).getD (x + 10).toNat 0 = _
      rw [Pr.rowsN_at p _ k (by omega), show (((x + 10).toNat : Nat) : Int) - 10 = x by omega]
      rfl
end Go.Proofs.Ytckpfgkgigicpaa
end
section
namespace Go.Proofs.Ytckpfgkgigicpaa.Ab
open Go Go.RowKit
set_option linter.unusedVariables false
theorem pair_is {p : Pr} (hG : GoodP p) (next : List Int) (n : Nat) : ∃ s S, pairOf p next n = (s, S) ∧ IsLeast (fun y => p.bill next y n) p.floor 10 S ∧ p.floor ≤ s ∧ s ≤ S ∧ p.bill next s n ≤ p.setup * p.pow (n + 1) + p.bill next S n ∧
    ∀ x, p.floor ≤ x → x < s → p.setup * p.pow (n + 1) + p.bill next S n < p.bill next x n := by
  have hl := hG.len
  have hfl : p.floor = p.w.length - 1 - 10 := rfl
  have hpw := hG.pow (n + 1)
  have hK : 0 ≤ p.setup * p.pow (n + 1) := Int.mul_nonneg (by have := hG.setup; omega) (by omega)
  obtain ⟨K, hKe⟩ : ∃ K, K = p.setup * p.pow (n + 1) := ⟨_, rfl⟩
  rw [← hKe] at hK ⊢
  have hbl := billsL_len p next n
  obtain ⟨B, hB⟩ : ∃ B, B = billsL p next n := ⟨_, rfl⟩
  have at_ : ∀ i : Nat, i < B.length → B.getD i 0 = p.bill next (p.floor + i) n := fun i hi => by rw [hB]; exact billsL_at (by rw [hB, hbl] at hi; exact hi)
  have hpair : pairOf p next n = (p.floor + loI B K, p.floor + upI B) := by rw [hB, hKe]; rfl
  rw [← hB] at hbl
  rw [hpair]
  have hup := upI_least (B := B) (by omega)
  obtain ⟨u, hu⟩ : ∃ u : Nat, upI B = u := ⟨(upI B).toNat, by have := hup.1; omega⟩
  have hlo : loI B K = firstAt (fun b => decide (b ≤ B.getD u 0 + K)) B 0 := by unfold loI; rw [hu]; rfl
  rw [hu] at hup ⊢
  have hul : u < B.length := by have := hup.2.1; omega
  have hS : IsLeast (fun y => p.bill next y n) p.floor 10 (p.floor + u) := by
    refine ⟨by omega, by omega, fun y h1 h2 => ?_, fun y h1 h2 => ?_⟩
    · have := hup.2.2.1 (y - p.floor) (by omega) (by omega)
      simp only [Int.toNat_natCast] at this
      rw [at_ u hul, at_ (y - p.floor).toNat (by omega), show p.floor + (((y - p.floor).toNat : Nat) : Int) = y by omega] at this
      exact this
    · have := hup.2.2.2 (y - p.floor) (by omega) (by omega)
      simp only [Int.toNat_natCast] at this
      rw [at_ u hul, at_ (y - p.floor).toNat (by omega), show p.floor + (((y - p.floor).toNat : Nat) : Int) = y by omega] at this
      exact this
  obtain ⟨s, s1, s2, s3, s4⟩ := least_ex (fun x => p.bill next x n ≤ K + p.bill next (p.floor + u) n) p.floor u (by omega)
  refine ⟨s, p.floor + u, ?_, hS, s1, s2, s3, fun x h1 h2 => by have := s4 x h1 h2; omega⟩
  rw [hlo, firstAt_is (k := (s - p.floor).toNat) (by omega) (fun j hj => ?_) ?_]
  · rw [show p.floor + (((s - p.floor).toNat : Nat) : Int) = s by omega]
  · rw [at_ _ (by omega), at_ u hul, show p.floor + (((s - p.floor).toNat : Nat) : Int) = s by omega]
    exact decide_eq_true (by omega)
  · rw [at_ j (by omega), at_ u hul]
    have := s4 (p.floor + j) (by omega) (by omega)
    exact decide_eq_false (by omega)
theorem pair_move {p : Pr} (hG : GoodP p) {next : List Int} {n : Nat} (hn : KConv (p.setup * p.pow n) (fun21 next) (-10) 10) {x : Int} (h1 : -10 ≤ x) (h2 : x ≤ 10) : p.move next x (p.upOf (pairOf p next n) x) n = p.move next x (p.up next x n) n := by
  obtain ⟨s, S, e, hS, a1, a2, a3, a4⟩ := pair_is hG next n
  have H := Pr.row_scarf hG hn (W := fun x => p.move next x (p.up next x n) n) (fun x _ _ => rfl) hS a1 a2 a3 a4
  rw [e]
  unfold Pr.upOf
  by_cases c : x < s
  · rw [if_pos (.inl c)]
    have := H.2.1 x h1 c
    have m := Pr.move_bill p next n (x := x) (y := S) (by omega)
    rw [if_pos (by omega)] at m
    (try simp only at this)
    (try simp only)
    omega
  · rw [if_neg (by simp only [not_or]; omega)]
    have := H.1 x (by omega) h2
    have m := Pr.move_bill p next n (x := x) (y := x) (Int.le_refl _)
    rw [if_neg (Int.lt_irrefl x)] at m
    (try simp only at this)
    (try simp only)
    omega
theorem wsum_le {p : Pr} (hG : GoodP p) {f g : Nat → Int} : ∀ k : Nat, (∀ d, d < k → f d ≤ g d) → wsum p.w f k ≤ wsum p.w g k
  | 0, _ => Int.le_refl _
  | k + 1, h => by
    have h1 := wsum_le hG k fun d hd => h d (by omega)
    have h2 := Int.mul_le_mul_of_nonneg_left (h k (Nat.lt_succ_self k)) (hG.at_ k).1
    rw [wsum_s, wsum_s]
    omega
theorem move_le {p : Pr} (hG : GoodP p) {l l' : List Int} {n : Nat} (h : ∀ i, i < 21 → l.getD i 0 ≤ l'.getD i 0) {x y : Int} (hy : p.may y) : p.move l x y n ≤ p.move l' x y n := by
  unfold Pr.move Pr.after
  refine Int.add_le_add_left (wsum_le hG _ fun d hd => ?_) _
  unfold Pr.part
  have := hy.lv hd
  exact Int.add_le_add_left (h _ (by omega)) _
end Go.Proofs.Ytckpfgkgigicpaa.Ab
end
section
namespace Go.Proofs.Ytckpfgkgigicpaa.Ab
open Go Go.RowKit
set_option linter.unusedVariables false
theorem wsum_bd {p : Pr} (hG : GoodP p) {f : Nat → Int} {M : Int} : ∀ k : Nat, k ≤ p.w.length → (∀ d, d < k → 0 ≤ f d ∧ f d ≤ M) → 0 ≤ wsum p.w f k ∧ wsum p.w f k ≤ sumTo p.w k * M
  | 0, _, _ => by simp [wsum, sumTo]
  | k + 1, hk, h => by
    have h1 := wsum_bd hG k (by omega) fun d hd => h d (by omega)
    have hw := (hG.at_ k).1
    have hf := h k (Nat.lt_succ_self k)
    have a := Int.mul_nonneg hw hf.1
    have b := Int.mul_le_mul_of_nonneg_left hf.2 hw
    rw [wsum_s, sumTo_sD (by omega), Int.add_mul]
    omega
theorem rows_few {p : Pr} (hG : GoodP p) : ∀ k : Nat, ∀ i, i < 21 → 0 ≤ (p.rowsN p.bestC k).getD i 0 ∧ (p.rowsN p.bestC k).getD i 0 ≤ 400 * k * p.pow k
  | 0, i, hi => by
    have : (p.rowsN p.bestC 0).getD i 0 = 0 := by
      show (List.replicate 21 (0 : Int)).getD i 0 = 0
      rw [List.getD_eq_getElem?_getD, List.getElem?_replicate, if_pos hi]; rfl
    rw [this]; simp
  | k + 1, i, hi => by
    have ih := rows_few hG k
    rw [Pr.rowsN_at p _ k hi]
    obtain ⟨y, hy⟩ : ∃ y, y = p.bestC k (p.rowsN p.bestC k) ((i : Int) - 10) := ⟨_, rfl⟩
    have hm : p.may y := by rw [hy]; exact (Pr.up_may hG _ ⟨by omega, by omega⟩ k).1
    rw [← hy]
    have hpw := hG.pow k
    have hpw1 := hG.pow (k + 1)
    have ho := hG.ord (x := (i : Int) - 10) (y := y) (by omega) hm.2
    have hA := wsum_bd hG (f := p.part (p.rowsN p.bestC k) y k) (M := 90 * p.pow k + 400 * k * p.pow k) p.w.length (Nat.le_refl _) fun d hd => by
      have hlv := hm.lv hd
      have hk1 := hG.kept hlv
      have hn := ih (y - d + 10).toNat (by omega)
      have a := Int.mul_nonneg hk1.1 (show 0 ≤ p.pow k by omega)
      have b := Int.mul_le_mul_of_nonneg_right hk1.2 (show 0 ≤ p.pow k by omega)
      unfold Pr.part
      omega
    have e : sumTo p.w p.w.length * (90 * p.pow k + 400 * k * p.pow k) = 90 * p.pow (k + 1) + 400 * k * p.pow (k + 1) := by
      show p.whole * (90 * p.pow k + 400 * k * p.pow k) = 90 * (p.pow k * p.whole) + 400 * k * (p.pow k * p.whole)
      grind
    rw [e] at hA
    have a := Int.mul_nonneg ho.1 (show 0 ≤ p.pow (k + 1) by omega)
    have b := Int.mul_le_mul_of_nonneg_right ho.2 (show 0 ≤ p.pow (k + 1) by omega)
    have e2 : 400 * ((k + 1 : Nat) : Int) * p.pow (k + 1) = 400 * k * p.pow (k + 1) + 400 * p.pow (k + 1) := by
      rw [Int.natCast_add]
      grind
    rw [e2]
    unfold Pr.move Pr.after
    omega
theorem rows_value {p : Pr} (hG : GoodP p) {k : Nat} (hk : k ≤ 5) {i : Nat} (hi : i < 21) : 0 ≤ (p.rowsN p.bestC k).getD i 0 ∧ (p.rowsN p.bestC k).getD i 0 ≤ 6400000000 := by
  have h := rows_few hG k i hi
  have hp := hG.pow5 hk
  refine ⟨h.1, Int.le_trans h.2 ?_⟩
  have a := Int.mul_le_mul (show 400 * (k : Int) ≤ 2000 by omega) hp.2 (by omega) (by omega)
  exact Int.le_trans a (by decide)
theorem proof_under {p : Pr} (hG : GoodP p) {T : List (List Int)} (h : proofB p T = true) : ∀ k, k ≤ p.turns.toNat → ∀ i, i < 21 → (T.getD (p.turns.toNat - k) []).getD i 0 ≤ (p.rowsN p.bestC k).getD i 0
  | 0, _, i, hi => by
    unfold proofB lastB at h
    simp only [Bool.and_eq_true] at h
    have hT := tabV_len h.1.1
    have ht := hG.turns
    have hr := tabV_row h.1.1 (t := p.turns.toNat) (by omega)
    have hl := List.all_eq_true.1 h.1.2
    have e : (p.rowsN p.bestC 0).getD i 0 = 0 := by
      show (List.replicate 21 (0 : Int)).getD i 0 = 0
      rw [List.getD_eq_getElem?_getD, List.getElem?_replicate, if_pos hi]; rfl
    rw [e, Nat.sub_zero]
    have hi2 : i < (T.getD p.turns.toNat []).length := by omega
    have := hl (T.getD p.turns.toNat [])[i] (List.getElem_mem hi2)
    rw [List.getD_eq_getElem?_getD (l := T.getD p.turns.toNat []), List.getElem?_eq_getElem hi2]
    simpa using this
  | k + 1, hk, i, hi => by
    have ih := proof_under hG h k (by omega)
    obtain ⟨N, hN⟩ : ∃ N, N = p.turns.toNat := ⟨_, rfl⟩
    unfold proofB at h
    simp only [Bool.and_eq_true] at h
    have hu := List.all_eq_true.1 h.2 (N - (k + 1)) (List.mem_range.2 (by omega))
    have hui := List.all_eq_true.1 hu i (List.mem_range.2 hi)
    unfold underI at hui
    rw [← hN] at ih hk hui ⊢
    have hle := of_decide_eq_true hui
    rw [show N - (k + 1) + 1 = N - k by omega, show N - 1 - (N - (k + 1)) = k by omega] at hle
    rw [Pr.rowsN_at p _ k hi]
    obtain ⟨y, hy⟩ : ∃ y, y = p.bestC k (p.rowsN p.bestC k) ((i : Int) - 10) := ⟨_, rfl⟩
    have hm : p.may y ∧ (i : Int) - 10 ≤ y := by rw [hy]; exact Pr.up_may hG _ ⟨by omega, by omega⟩ k
    rw [← hy]
    have h1 := (Pr.up_least hG (T.getD (N - k) []) (x := (i : Int) - 10) ⟨by omega, by omega⟩ k).2.2.1 y (by unfold Pr.lo; have := hm.1.1; omega) hm.1.2
    have h2 := move_le hG ih (n := k) (x := (i : Int) - 10) hm.1
    exact Int.le_trans hle (Int.le_trans h1 h2)
end Go.Proofs.Ytckpfgkgigicpaa.Ab
end
section
namespace Go.Proofs.Ytckpfgkgigicpaa.Ab
open Go Go.RowKit
set_option linter.unusedVariables false
set_option linter.unusedSimpArgs false
def LivesZ (lo : Nat) (M : Mem) (v : Value) (T : List (List Int)) : Prop := ∀ M3 : Mem, (∀ i, lo ≤ i → i < M.length → M3[i]? = M[i]?) → TabZ M3 v T
theorem LivesZ.here {lo : Nat} {M : Mem} {v : Value} {T : List (List Int)} (h : LivesZ lo M v T) : TabZ M v T := h M fun _ _ _ => rfl
theorem LivesZ.up {lo : Nat} {M M' : Mem} {v : Value} {T : List (List Int)} (h : LivesZ lo M v T) (hl : M.length ≤ M'.length) (he : ∀ i, lo ≤ i → i < M.length → M'[i]? = M[i]?) : LivesZ lo M' v T := fun M3 h3 =>
  h M3 fun i h1 h2 => (h3 i h1 (by omega)).trans (he i h1 h2)
theorem LivesZ.lower {lo lo' : Nat} {M : Mem} {v : Value} {T : List (List Int)} (h : LivesZ lo M v T) (hl : lo' ≤ lo) : LivesZ lo' M v T := fun M3 h3 => h M3 fun i a b => h3 i (by omega) b
def AnsPT (m : Mem) (r : Value) (new : Mem) : Prop :=
  NoRo new ∧ ∃ (p : Pr) (u v : Value) (T : List (List Int)), r = .tuple #[procV p u, v] ∧ PL m.length (m ++ new) u p.w ∧ LivesZ m.length (m ++ new) v T
theorem fin_pt {m M : Mem} {p : Pr} {u v : Value} {T : List (List Int)} (hX : Ext m M) (hp : PL m.length M u p.w) (hq : LivesZ m.length M v T) : newQ m (AnsPT m) (.tuple #[procV p u, v]) M := by
  obtain ⟨n0, rfl, h0⟩ := hX
  have e : ∀ i, m.length ≤ i → (m ++ n0)[i]? = (roM m ++ n0)[i]? := fun i hi => by
    rw [List.getElem?_append_right hi, List.getElem?_append_right (by rw [roM_len]; exact hi), roM_len]
  exact ⟨n0, rfl, h0, h0, p, u, v, T, rfl, hp.up (by simp [roM_len]) fun i a _ => e i a, hq.up (by simp [roM_len]) fun i a _ => e i a⟩
structure WT (M0 M : Mem) (cb id a : Nat) (l : List Int) (T : List (List Int)) (tid : Nat) (R F : Nat → Nat) (b : Int) : Prop where
  hid : id < M0.length
  hcb : cb < M0.length
  cw : Cw id M0 M
  cur : CurA M cb l id a
  tab : TabX T M0.length M.length M tid R F
  few : T.length ≤ 6
  row : ∀ j, j < T.length → (T.getD j []).length = 21
  val : ∀ j f, j < T.length → f < 21 → -b ≤ (T.getD j []).getD f 0 ∧ (T.getD j []).getD f 0 ≤ b
section
variable {M0 M M2 : Mem} {cb id a a2 tid fl : Nat} {l : List Int} {T : List (List Int)} {R F : Nat → Nat} {b b' : Int}
theorem WT.draw (h : WT M0 M cb id a l T tid R F b) (w : Cw id M M2) (k : CurA M2 cb l id a2) : WT M0 M2 cb id a2 l T tid R F b :=
  ⟨h.hid, h.hcb, Cw.trans h.hid h.cw w, k, (h.tab.at_ (M' := M2) fun i h1 h2 => w.old i (by have := h.hid; omega) h2).wider w.len, h.few, h.row, h.val⟩
theorem WT.rd (h : WT M0 M cb id a l T tid R F b) {j : Nat} (hj : j < T.length) : rdc M tid j = some (.slice (some ⟨R j, 0, none⟩) (T.getD j []).length (F j)) := by
  rw [h.tab.2.2.1.rd j, rowsC_at hj]
theorem WT.own (h : WT M0 M cb id a l T tid R F b) {j : Nat} (hj : j < T.length) : OwnR M (R j) (T.getD j []) := (h.tab.2.2.2.1 j hj).2.2
theorem WT.rd2 (h : WT M0 M cb id a l T tid R F b) {j f : Nat} (hj : j < T.length) (hf : f < 21) : rdc M (R j) f = some (.int .i64 ((T.getD j []).getD f 0)) := (h.own hj).rd' (by rw [h.row j hj]; exact hf)
theorem WT.iadR (h : WT M0 M cb id a l T tid R F b) {j f : Nat} (hj : j < T.length) (hf : f < 21) : iadA 1 (.slice (some ⟨R j, 0, none⟩) (T.getD j []).length (F j)) (.int .i64 (f : Int)) = some (.pointer (some ⟨R j, f, none⟩)) := iad0 rfl (by rw [h.row j hj]; exact hf)
theorem WT.put (h : WT M0 M cb id a l T tid R F b) {j f : Nat} (hj : j < T.length) (hf : f < 21) (x : Int) (hb : b ≤ b') (hx : -b' ≤ x ∧ x ≤ b') :
    stA M (R j) f [.int .i64 x] = some (M.set (R j) (rowB ((T.getD j []).set f x))) ∧ WT M0 (M.set (R j) (rowB ((T.getD j []).set f x))) cb id a l (T.set j ((T.getD j []).set f x)) tid R F b' := by
  have q := (h.tab.2.2.2.1 j hj).1
  have hid := h.hid
  have hcb := h.hcb
  have gd : ∀ i, (T.set j ((T.getD j []).set f x)).getD i [] = if i = j then (T.getD j []).set f x else T.getD i [] := fun i => by
    by_cases e : i = j
    · subst e
      rw [if_pos rfl, List.getD_eq_getElem?_getD, List.getElem?_set_self hj]; rfl
    · rw [if_neg e, List.getD_eq_getElem?_getD, List.getElem?_set_ne (Ne.symm e), ← List.getD_eq_getElem?_getD]
  refine ⟨(h.own hj).st (by rw [h.row j hj]; exact hf), hid, hcb, h.cw.put (by omega) (by simp), h.cur.put (by omega) (by omega) _, ?_, by rw [List.length_set]; exact h.few, fun i hi => ?_, fun i g hi hg => ?_⟩
  · have := tabX_put h.tab hj (r := (T.getD j []).set f x) (by rw [List.length_set])
    simpa using this
  · rw [List.length_set] at hi
    rw [gd]
    split
    · rw [List.length_set]; exact h.row j hj
    · exact h.row i hi
  · rw [List.length_set] at hi
    rw [gd]
    split
    · rw [getD_set (by rw [h.row j hj]; exact hf)]
      split
      · exact hx
      · have := h.val j g hj hg; omega
    · have := h.val i g hi hg; omega
theorem WT.lives (h : WT M0 M cb id a l T tid R F b) : LivesZ M0.length M (.slice (some ⟨tid, 0, none⟩) T.length fl) T := fun M3 h3 => by
  have t3 : TabX T M0.length M.length M3 tid R F := h.tab.at_ fun i h1 h2 => h3 i h1 h2
  exact (TabA.blk (by have := h.few; omega) fun k hk => ⟨_, t3.row hk (by rw [h.row k hk]; omega)⟩).z
theorem WT.cutT (h : WT M0 M cb id a l T tid R F b) (h0 : 0 < T.length) : LivesZ M0.length M (.slice (some ⟨tid, 1, none⟩) (T.length - 1) 0) (T.drop 1) := fun M3 h3 => by
  have t3 : TabX T M0.length M.length M3 tid R F := h.tab.at_ fun i h1 h2 => h3 i h1 h2
  have hf := h.few
  have hl : (T.drop 1).length = T.length - 1 := List.length_drop
  refine ⟨by rw [hl]; rfl, by omega, fun k hk => ?_, fun k hk => ?_⟩
  · simp only [iadA, pAt, Int.toNat_natCast, Nat.mul_one]
    rw [if_pos (by omega)]
  · obtain ⟨r1, r2⟩ := t3.row (j := 1 + k) (by omega) (by rw [h.row (1 + k) (by omega)]; omega)
    refine ⟨_, r1, ?_⟩
    have e : (T.drop 1).getD k [] = T.getD (1 + k) [] := by
      rw [List.getD_eq_getElem?_getD, List.getElem?_drop, ← List.getD_eq_getElem?_getD]
    rw [e]; exact r2
theorem WT.cutR (h : WT M0 M cb id a l T tid R F b) {t : Nat} (ht : t < T.length) :
    stA M tid t [.slice (some ⟨R t, 1, none⟩) ((T.getD t []).length - 1) 0] = some (M.set tid ⟨.own, 24, (rowsC T R F).set t (.slice (some ⟨R t, 1, none⟩) ((T.getD t []).length - 1) 0)⟩) ∧
    LivesZ M0.length (M.set tid ⟨.own, 24, (rowsC T R F).set t (.slice (some ⟨R t, 1, none⟩) ((T.getD t []).length - 1) 0)⟩) (.slice (some ⟨tid, 0, none⟩) T.length fl) (T.set t ((T.getD t []).drop 1)) ∧
    Cw id M0 (M.set tid ⟨.own, 24, (rowsC T R F).set t (.slice (some ⟨R t, 1, none⟩) ((T.getD t []).length - 1) 0)⟩) ∧
    CurA (M.set tid ⟨.own, 24, (rowsC T R F).set t (.slice (some ⟨R t, 1, none⟩) ((T.getD t []).length - 1) 0)⟩) cb l id a := by
  have hid := h.hid
  have hcb := h.hcb
  have hge := h.tab.1
  have hlt := h.tab.2.1
  have h21 := h.row t ht
  have hf := h.few
  have ne : ∀ j, j < T.length → R j ≠ tid := fun j hj e => by
    have c' : M[R j]? = some (Ab.rowB (T.getD j [])) := h.own hj
    have d : M[tid]? = some ⟨.own, 24, rowsC T R F⟩ := h.tab.2.2.1
    rw [e, d] at c'
    cases c'
  refine ⟨h.tab.2.2.1.st (off := t) (by rw [rowsC_len]; simp; omega) rfl, fun M3 h3 => ?_, h.cw.put hge (by simp), h.cur.put (by omega) (by omega) _⟩
  have o3 : OwnB M3 tid 24 ((rowsC T R F).set t (.slice (some ⟨R t, 1, none⟩) ((T.getD t []).length - 1) 0)) := (h.tab.2.2.1.set_self _ _).at_ (h3 tid hge (by rw [List.length_set]; exact hlt))
  have r3 : ∀ j, j < T.length → OwnR M3 (R j) (T.getD j []) := fun j hj => by
    obtain ⟨a1, a2, a3⟩ := h.tab.2.2.2.1 j hj
    exact (a3.set_ne (Ne.symm (ne j hj))).at_ (h3 (R j) a1 (by rw [List.length_set]; exact a2))
  have hl : (T.set t ((T.getD t []).drop 1)).length = T.length := List.length_set
  refine (TabA.z ?_)
  rw [show T.length = (T.set t ((T.getD t []).drop 1)).length from hl.symm]
  refine TabA.blk (by omega) fun k hk => ?_
  rw [hl] at hk
  by_cases e : k = t
  · subst e
    refine ⟨_, by rw [o3.rd, List.getElem?_set_self (by rw [rowsC_len]; exact ht)], ?_⟩
    rw [List.getD_eq_getElem?_getD (l := T.set _ _), List.getElem?_set_self ht, Option.getD_some]
    have hdl : ((T.getD k []).drop 1).length = (T.getD k []).length - 1 := List.length_drop
    rw [show (T.getD k []).length - 1 = ((T.getD k []).drop 1).length from hdl.symm]
    refine IntsA.of_block (by omega) (fun q hq => ?_) ?_
    · rw [(r3 k ht).rd' (i := 1 + q) (by omega), List.getD_eq_getElem?_getD (l := List.drop _ _), List.getElem?_drop, ← List.getD_eq_getElem?_getD]
    · have o := r3 k ht
      unfold OwnR at o
      unfold rdl
      rw [o]
      simp only [rowB]
      rw [if_neg (by simp), if_pos (by rw [List.length_map]; omega), ← List.map_drop, List.take_of_length_le (by rw [List.length_map]; omega)]
  · refine ⟨.slice (some ⟨R k, 0, none⟩) (T.getD k []).length (F k), by rw [o3.rd, List.getElem?_set_ne (Ne.symm e), rowsC_at hk], ?_⟩
    rw [List.getD_eq_getElem?_getD (l := T.set _ _), List.getElem?_set_ne (Ne.symm e), ← List.getD_eq_getElem?_getD]
    exact (r3 k hk).ints (by rw [h.row k hk]; omega) _
end
end Go.Proofs.Ytckpfgkgigicpaa.Ab
end
section
namespace Go.Proofs.Ytckpfgkgigicpaa.Ab
open Go Go.RowKit
set_option linter.unusedVariables false
set_option linter.unusedSimpArgs false
theorem bl_pm (m : Mem) : bslA m 3 1 2 [.int .i64 0, .int .i64 0] [(0, 1, .int .i64 1), (1, 1, .int .i64 (-1))] = some (.slice (some ⟨m.length, 0, none⟩) 2 1, m ++ [rowB [1, -1]]) := rfl
theorem bl_big (m : Mem) : bslA m 3 1 4 [.int .i64 0, .int .i64 0, .int .i64 0, .int .i64 0] [(0, 1, .int .i64 (-1000000000000)), (1, 1, .int .i64 (-1000000000001)), (2, 1, .int .i64 1000000000001), (3, 1, .int .i64 4611686018427387904)] = some (.slice (some ⟨m.length, 0, none⟩) 4 1, m ++ [rowB [-1000000000000, -1000000000001, 1000000000001, 4611686018427387904]]) := rfl
theorem slc_1 {id n fl : Nat} (h : 1 ≤ n) : slcA 1 (.slice (some ⟨id, 0, none⟩) n fl) (some (.int .i64 1)) none = some (.slice (some ⟨id, 1, none⟩) (n - 1) 0) := by
  simp [slcA, boundA, h]
set_option maxHeartbeats 16000000 in
theorem DrawIsWorthProof_rc (m : Mem) (cb fl : Nat) (l : List Int) (h : BytesA m cb l) :
    RC Try.prog 14 [.slice (some ⟨cb, 0, none⟩) l.length fl] m (AnsPT m) := by
  refine rc_of_run mixed ok_spec_DrawIsWorthProof (by simp) (go_start _ _ _ ?_)
  simp (config := {implicitDefEqProofs := false, maxDischargeDepth := 20}) (disch := first | omega | (simp only [lenE]; done) | (simp only [lenE]; omega) | rfl | (simp only [lenE, markR_len]; done) | (simp only [lenE, markR_len]; omega)) only [runE, mapE, listE, initT_5, initT_6, initT_7, initT_8, resV, oneV, binA, unA, reduceCtorEq, Nat.reduceEqDiff, Nat.reduceAdd, Nat.reduceLT, Nat.reduceLeDiff, Nat.reduceMul, Nat.reduceSub, ↓reduceIte, decide_true, decide_false, Bool.true_eq_false, Bool.false_eq_true, Bool.not_true, Bool.not_false, if_true, if_false, and_true, true_and, memE, celE, w64, Nat.zero_add, Nat.add_zero, Nat.mul_one, putL, and_self, ldn, c_spec_DrawIsWorthProof, r_spec_DrawIsWorthProof, bldCur]
  obtain ⟨M0, hM0⟩ : ∃ M0 : Mem, M0 = roM m ++ [⟨.own, 26, [.int .i64 0, .slice none 0 0, .int .i64 0, .int .i64 0, .int .i64 0, .int .i64 0]⟩] := ⟨_, rfl⟩
  have hl0 : M0.length = m.length + 1 := by rw [hM0]; simp [roM_len]
  have hres : OwnB M0 m.length 26 [.int .i64 0, .slice none 0 0, .int .i64 0, .int .i64 0, .int .i64 0, .int .i64 0] := by rw [hM0]; exact OwnB.here (roM_len m).symm
  have hx0 : Ext m M0 := by rw [hM0]; exact (Ext.refl m).one _ _
  have hb0 : M0[cb]? = some ⟨.ro, 5, l.map (Value.int .u8)⟩ := by
    have := h.ro
    rw [hM0, List.getElem?_append_left (List.getElem?_eq_some_iff.1 this).1]; exact this
  rw [← hM0]
  have k0 : CurA (M0 ++ [⟨.own, 53, [.slice (some ⟨cb, 0, none⟩) l.length fl, .int .i64 0, .int .u64 0]⟩]) cb l M0.length 0 :=
    ⟨by rw [List.getElem?_append_left (List.getElem?_eq_some_iff.1 hb0).1]; exact hb0, h.byte, h.few, (fl, 0), by simp⟩
  have hx1 : Ext m (M0 ++ [⟨.own, 53, [.slice (some ⟨cb, 0, none⟩) l.length fl, .int .i64 0, .int .u64 0]⟩]) := hx0.one _ _
  have hl1 : (M0 ++ ([⟨.own, 53, [.slice (some ⟨cb, 0, none⟩) l.length fl, .int .i64 0, .int .u64 0]⟩] : Mem)).length = m.length + 2 := by simp; omega
  have hres1 := hres.ext [⟨.own, 53, [.slice (some ⟨cb, 0, none⟩) l.length fl, .int .i64 0, .int .u64 0]⟩]
  obtain ⟨id, hid⟩ : ∃ id, id = m.length + 1 := ⟨_, rfl⟩
  rw [hl0, ← hid] at k0
  rw [← hid]
  generalize M0 ++ ([⟨.own, 53, [.slice (some ⟨cb, 0, none⟩) l.length fl, .int .i64 0, .int .u64 0]⟩] : Mem) = M1 at *
  clear hres hx0 hM0
  refine callH_ac (process_ac M1 cb id 0 l k0 (by omega)) ?_
  rintro v M2 ⟨p, u, a2, rfl, ha2, w2, k2, pl2⟩
  have hu := pl2.here
  have on := ones_proc hu
  have l2 := w2.len
  have s1 : stA (M2 ++ [⟨.own, 26, [.int .i64 0, .slice none 0 0, .int .i64 0, .int .i64 0, .int .i64 0, .int .i64 0]⟩]) M2.length 0 (procC p u) = some (M2 ++ [⟨.own, 26, procC p u⟩]) := by
    rw [(OwnB.here rfl).st (by simp) on]
    simp [putL]
  have b3 : OwnB (M2 ++ [⟨.own, 26, procC p u⟩]) M2.length 26 (procC p u) := OwnB.here rfl
  have w3 : Cw id M1 (M2 ++ [⟨.own, 26, procC p u⟩]) := w2.ext (noRo_own noRo_nil)
  have k3 := k2.ext [⟨.own, 26, procC p u⟩]
  have hu3 := hu.ext [⟨.own, 26, procC p u⟩]
  have l3 : (M2 ++ [(⟨.own, 26, procC p u⟩ : Blk)]).length = M2.length + 1 := by simp
  simp (config := {implicitDefEqProofs := false, maxDischargeDepth := 20}) (disch := first | omega | (simp only [lenE]; done) | (simp only [lenE]; omega) | rfl | (simp only [lenE, markR_len]; done) | (simp only [lenE, markR_len]; omega)) only [runE, mapE, listE, initT_5, initT_6, initT_7, initT_8, resV, oneV, binA, unA, reduceCtorEq, Nat.reduceEqDiff, Nat.reduceAdd, Nat.reduceLT, Nat.reduceLeDiff, Nat.reduceMul, Nat.reduceSub, ↓reduceIte, decide_true, decide_false, Bool.true_eq_false, Bool.false_eq_true, Bool.not_true, Bool.not_false, if_true, if_false, and_true, true_and, memE, celE, w64, Nat.zero_add, Nat.add_zero, Nat.mul_one, putL, and_self, ldn, stP_aggL, s1, b3.rd]
  have wt := specWorthTable_rc _ _ p ⟨u, rfl, hu3⟩
  obtain ⟨T0, hT0⟩ : ∃ T, T = (if p.good then p.tab p.bestC p.turns.toNat else []) := ⟨_, rfl⟩
  rw [← hT0] at wt
  have few0 : T0.length ≤ 6 ∧ (∀ j, j < T0.length → (T0.getD j []).length = 21) ∧ ∀ j f, j < T0.length → f < 21 → -6400000000 ≤ (T0.getD j []).getD f 0 ∧ (T0.getD j []).getD f 0 ≤ 6400000000 := by
    rw [hT0]
    cases hg : p.good with
    | false => exact ⟨by simp, fun j hj => absurd hj (by simp), fun j f hj => absurd hj (by simp)⟩
    | true =>
      have hG := goodP_iff.1 hg
      have tn := hG.turns
      simp only [if_true]
      rw [Pr.tab_len]
      refine ⟨by omega, fun j hj => by rw [Pr.tab_at _ _ (by omega), Pr.rowsN_len], fun j f hj hf => ?_⟩
      rw [Pr.tab_at _ _ (by omega)]
      have := rows_value hG (k := p.turns.toNat - j) (by omega) hf
      omega
  clear hT0
  refine callH_rc wt ?_
  clear wt
  rintro r new ⟨nr, w, rfl, hw⟩
  obtain ⟨-, -, tid, tf, R, F, rfl, g1, g2, ho, hrw, hd⟩ := hw.now
  clear hw
  obtain ⟨M3, hM3⟩ : ∃ M, M = M2 ++ [(⟨.own, 26, procC p u⟩ : Blk)] := ⟨_, rfl⟩
  rw [← hM3] at w3 k3 b3 l3 g1 g2 ho hrw ⊢
  have d4 : WT M3 (M3 ++ new) cb id a2 l T0 tid R F 6400000000 :=
    ⟨k3.lt, k3.cblt, (Cw.refl id M3).ext nr, k3.ext new, ⟨g1, by rw [List.length_append]; exact g2, ho, fun j hj => by rw [List.length_append]; exact hrw j hj, hd⟩, few0.1, few0.2.1, few0.2.2⟩
  have E : ∀ M', Cw id M3 M' → (∀ k, rdc M' M2.length k = (procC p u)[k]?) ∧ stA M' m.length 0 (procC p u) = some (M'.set m.length ⟨.own, 26, procC p u⟩) ∧ ∀ k, rdc (M'.set m.length ⟨.own, 26, procC p u⟩) m.length k = (procC p u)[k]? := fun M' w => by
    have w1 := Cw.trans (by omega) w3 w
    have b4 : OwnB M' M2.length 26 (procC p u) := b3.at_ (w.old _ (by omega) (by omega))
    have r4 : OwnB M' m.length 26 [.int .i64 0, .slice none 0 0, .int .i64 0, .int .i64 0, .int .i64 0, .int .i64 0] := hres1.at_ (w1.old _ (by omega) (by omega))
    exact ⟨b4.rd, (r4.st (off := 0) (vs := procC p u) (by simp) on).trans (show _ = some (M'.set m.length ⟨.own, 26, procC p u⟩) by simp [putL]), (r4.set_self _ _).rd⟩
  have fin : ∀ (M' : Mem) (v : Value) (T : List (List Int)) (a' : Nat), Cw id M3 M' → CurA M' cb l id a' → LivesZ M3.length M' v T → newQ m (AnsPT m) (.tuple #[procV p u, v]) (M'.set m.length ⟨.own, 26, procC p u⟩) := fun M' v T a' w k lv => by
    have w1 := Cw.trans (by omega) w3 w
    have r4 : OwnB M' m.length 26 [.int .i64 0, .slice none 0 0, .int .i64 0, .int .i64 0, .int .i64 0, .int .i64 0] := hres1.at_ (w1.old _ (by omega) (by omega))
    have l4 := w1.len
    have l5 := w.len
    refine fin_pt (T := T) ?_ ?_ ?_
    · obtain ⟨n1, e1, h1⟩ := hx1
      have nro1 : ∀ (i : Nat) (b : Blk), m.length ≤ i → M1[i]? = some b → b.kd ≠ .ro := fun i b hi hb => by
        rw [e1, List.getElem?_append_right (by rw [roM_len]; exact hi)] at hb
        exact h1 b (List.mem_of_getElem? hb)
      have nro4 := w1.noRo nro1 k
      refine ext_of (by rw [List.length_set]; omega) (fun i hi => ?_) (fun i b hi hb => ?_)
      · rw [List.getElem?_set_ne (by omega), w1.old i (by omega) (by omega), e1, List.getElem?_append_left (by rw [roM_len]; exact hi)]
      · by_cases e : i = m.length
        · subst e
          rw [List.getElem?_set_self r4.lt] at hb
          cases hb
          simp
        · rw [List.getElem?_set_ne (by omega)] at hb
          exact nro4 i b hi hb
    · refine ((pl2.lower (lo' := m.length + 2) (by omega)).up (M' := M'.set m.length ⟨.own, 26, procC p u⟩) (by rw [List.length_set]; omega) fun i h1 h2 => ?_).lower (by omega)
      rw [List.getElem?_set_ne (by omega), w.old i (by omega) (by omega), hM3, List.getElem?_append_left h2]
    · refine ((lv.lower (lo' := m.length + 2) (by omega)).up (M' := M'.set m.length ⟨.own, 26, procC p u⟩) (by rw [List.length_set]; omega) fun i h1 h2 => ?_).lower (by omega)
      rw [List.getElem?_set_ne (by omega)]
  clear hM3 s1 w2 k2 hres1 hu hu3 k3 few0 g1 g2 ho hrw hd nr pl2 on hx1 k0 w3
  generalize M3 ++ new = M4 at *
  by_cases hT : 0 < T0.length
  · have hT' : (0 : Int) < T0.length := by omega
    have few := d4.few
    simp (config := {implicitDefEqProofs := false, maxDischargeDepth := 20}) (disch := first | omega | (simp only [lenE]; done) | (simp only [lenE]; omega) | rfl | (simp only [lenE, markR_len]; done) | (simp only [lenE, markR_len]; omega)) only [runE, mapE, listE, initT_5, initT_6, initT_7, initT_8, resV, oneV, binA, unA, reduceCtorEq, Nat.reduceEqDiff, Nat.reduceAdd, Nat.reduceLT, Nat.reduceLeDiff, Nat.reduceMul, Nat.reduceSub, ↓reduceIte, decide_true, decide_false, Bool.true_eq_false, Bool.false_eq_true, Bool.not_true, Bool.not_false, if_true, if_false, and_true, true_and, memE, celE, w64, Nat.zero_add, Nat.add_zero, Nat.mul_one, putL, and_self, ldn, ext_2_0, ext_2_1, gt_iff_lt, hT']
    refine callH_ac (pick_ac M4 cb id a2 l T0.length d4.cur (by omega) (by omega) (by omega)) ?_
    rintro v M5 ⟨x, rfl, hx0, hx1, w5, a5, ha5, k5⟩
    have d5 := d4.draw w5 k5
    obtain ⟨t, rfl⟩ : ∃ t : Nat, x = t := ⟨x.toNat, (Int.toNat_of_nonneg hx0).symm⟩
    have ht : t < T0.length := by omega
    have h21 := d5.row t ht
    have iT : iadA 1 (.slice (some ⟨tid, 0, none⟩) T0.length tf) (.int .i64 (t : Int)) = some (.pointer (some ⟨tid, t, none⟩)) := iad0 rfl ht
    clear d4 w5 k5
    simp (config := {implicitDefEqProofs := false, maxDischargeDepth := 20}) (disch := first | omega | (simp only [lenE]; done) | (simp only [lenE]; omega) | rfl | (simp only [lenE, markR_len]; done) | (simp only [lenE, markR_len]; omega)) only [runE, mapE, listE, initT_5, initT_6, initT_7, initT_8, resV, oneV, binA, unA, reduceCtorEq, Nat.reduceEqDiff, Nat.reduceAdd, Nat.reduceLT, Nat.reduceLeDiff, Nat.reduceMul, Nat.reduceSub, ↓reduceIte, decide_true, decide_false, Bool.true_eq_false, Bool.false_eq_true, Bool.not_true, Bool.not_false, if_true, if_false, and_true, true_and, memE, celE, w64, Nat.zero_add, Nat.add_zero, Nat.mul_one, putL, and_self, ldn, iT, d5.rd ht]
    refine callH_ac (pick_ac M5 cb id a5 l (T0.getD t []).length d5.cur (by omega) (by omega) (by omega)) ?_
    rintro v M6 ⟨x, rfl, hy0, hy1, w6, a6, ha6, k6⟩
    have d6 := d5.draw w6 k6
    obtain ⟨i, rfl⟩ : ∃ i : Nat, x = i := ⟨x.toNat, (Int.toNat_of_nonneg hy0).symm⟩
    have hi : i < 21 := by omega
    clear d5 w6 k6
    simp (config := {implicitDefEqProofs := false, maxDischargeDepth := 20}) (disch := first | omega | (simp only [lenE]; done) | (simp only [lenE]; omega) | rfl | (simp only [lenE, markR_len]; done) | (simp only [lenE, markR_len]; omega)) only [runE, mapE, listE, initT_5, initT_6, initT_7, initT_8, resV, oneV, binA, unA, reduceCtorEq, Nat.reduceEqDiff, Nat.reduceAdd, Nat.reduceLT, Nat.reduceLeDiff, Nat.reduceMul, Nat.reduceSub, ↓reduceIte, decide_true, decide_false, Bool.true_eq_false, Bool.false_eq_true, Bool.not_true, Bool.not_false, if_true, if_false, and_true, true_and, memE, celE, w64, Nat.zero_add, Nat.add_zero, Nat.mul_one, putL, and_self, ldn]
    refine callH_ac (pick_ac M6 cb id a6 l 8 d6.cur (by omega) (by omega) (by omega)) ?_
    rintro v M7 ⟨c, rfl, hc0, hc1, w7, a7, ha7, k7⟩
    have d7 := d6.draw w7 k7
    clear d6 w7 k7
    have iR := d7.iadR ht hi
    have vl := d7.val t i ht hi
    have r1 := d7.rd ht
    have r2 := d7.rd2 ht hi
    by_cases c0 : c = 0
    · have q0 : (c == 0) = true := by simp [c0]
      have r1' : rdc (M7 ++ [Ab.rowB [1, -1]]) tid t = some (.slice (some ⟨R t, 0, none⟩) (T0.getD t []).length (F t)) := rdc_ext r1
      have r2' : rdc (M7 ++ [Ab.rowB [1, -1]]) (R t) i = some (.int .i64 ((T0.getD t []).getD i 0)) := rdc_ext r2
      simp (config := {implicitDefEqProofs := false, maxDischargeDepth := 20}) (disch := first | omega | (simp only [lenE]; done) | (simp only [lenE]; omega) | rfl | (simp only [lenE, markR_len]; done) | (simp only [lenE, markR_len]; omega)) only [runE, mapE, listE, initT_5, initT_6, initT_7, initT_8, resV, oneV, binA, unA, reduceCtorEq, Nat.reduceEqDiff, Nat.reduceAdd, Nat.reduceLT, Nat.reduceLeDiff, Nat.reduceMul, Nat.reduceSub, ↓reduceIte, decide_true, decide_false, Bool.true_eq_false, Bool.false_eq_true, Bool.not_true, Bool.not_false, if_true, if_false, and_true, true_and, memE, celE, w64, Nat.zero_add, Nat.add_zero, Nat.mul_one, putL, and_self, ldn, q0, iT, iR, r1, r2, r1', r2', bl_pm]
      repeat' with_reducible apply And.intro
      all_goals
        refine callH_ac (among_new M7 cb id a7 l [1, -1] d7.cur (by omega) rfl rfl (by simp) (by simp)) ?_
        rintro v M8 ⟨g, hg, rfl, w8, a8, ha8, k8⟩
        have hgb : -1 ≤ g ∧ g ≤ 1 := by simp at hg; omega
        have d8 := d7.draw w8 k8
        obtain ⟨hst, d9⟩ := d8.put ht hi ((T0.getD t []).getD i 0 + g) (b' := 6400000001) (by omega) (by omega)
        obtain ⟨e1, e2, e3⟩ := E _ d9.cw
        simp (config := {implicitDefEqProofs := false, maxDischargeDepth := 20}) (disch := first | omega | (simp only [lenE]; done) | (simp only [lenE]; omega) | rfl | (simp only [lenE, markR_len]; done) | (simp only [lenE, markR_len]; omega)) only [runE, mapE, listE, initT_5, initT_6, initT_7, initT_8, resV, oneV, binA, unA, reduceCtorEq, Nat.reduceEqDiff, Nat.reduceAdd, Nat.reduceLT, Nat.reduceLeDiff, Nat.reduceMul, Nat.reduceSub, ↓reduceIte, decide_true, decide_false, Bool.true_eq_false, Bool.false_eq_true, Bool.not_true, Bool.not_false, if_true, if_false, and_true, true_and, memE, celE, w64, Nat.zero_add, Nat.add_zero, Nat.mul_one, putL, and_self, ldn, iT, iR, d8.rd ht, d8.rd2 ht hi, hst, stP_aggL, e1, e2, e3]
        exact fin _ _ _ _ d9.cw d9.cur (by have := d9.lives (fl := tf); rwa [List.length_set] at this)
    have q0 : (c == 0) = false := by simp [c0]
    by_cases c1 : c = 1
    · have q1 : (c == 1) = true := by simp [c1]
      have r1' : rdc (M7 ++ [Ab.rowB [-1000000000000, -1000000000001, 1000000000001, 4611686018427387904]]) tid t = some (.slice (some ⟨R t, 0, none⟩) (T0.getD t []).length (F t)) := rdc_ext r1
      simp (config := {implicitDefEqProofs := false, maxDischargeDepth := 20}) (disch := first | omega | (simp only [lenE]; done) | (simp only [lenE]; omega) | rfl | (simp only [lenE, markR_len]; done) | (simp only [lenE, markR_len]; omega)) only [runE, mapE, listE, initT_5, initT_6, initT_7, initT_8, resV, oneV, binA, unA, reduceCtorEq, Nat.reduceEqDiff, Nat.reduceAdd, Nat.reduceLT, Nat.reduceLeDiff, Nat.reduceMul, Nat.reduceSub, ↓reduceIte, decide_true, decide_false, Bool.true_eq_false, Bool.false_eq_true, Bool.not_true, Bool.not_false, if_true, if_false, and_true, true_and, memE, celE, w64, Nat.zero_add, Nat.add_zero, Nat.mul_one, putL, and_self, ldn, q0, q1, iT, iR, r1, r1', bl_big]
      repeat' with_reducible apply And.intro
      all_goals
        refine callH_ac (among_new M7 cb id a7 l [-1000000000000, -1000000000001, 1000000000001, 4611686018427387904] d7.cur (by omega) rfl rfl (by simp) (by simp)) ?_
        rintro v M8 ⟨g, hg, rfl, w8, a8, ha8, k8⟩
        have hgb : -4611686018427387904 ≤ g ∧ g ≤ 4611686018427387904 := by simp at hg; omega
        have d8 := d7.draw w8 k8
        obtain ⟨hst, d9⟩ := d8.put ht hi g (b' := 4611686018427387904) (by omega) (by omega)
        obtain ⟨e1, e2, e3⟩ := E _ d9.cw
        simp (config := {implicitDefEqProofs := false, maxDischargeDepth := 20}) (disch := first | omega | (simp only [lenE]; done) | (simp only [lenE]; omega) | rfl | (simp only [lenE, markR_len]; done) | (simp only [lenE, markR_len]; omega)) only [runE, mapE, listE, initT_5, initT_6, initT_7, initT_8, resV, oneV, binA, unA, reduceCtorEq, Nat.reduceEqDiff, Nat.reduceAdd, Nat.reduceLT, Nat.reduceLeDiff, Nat.reduceMul, Nat.reduceSub, ↓reduceIte, decide_true, decide_false, Bool.true_eq_false, Bool.false_eq_true, Bool.not_true, Bool.not_false, if_true, if_false, and_true, true_and, memE, celE, w64, Nat.zero_add, Nat.add_zero, Nat.mul_one, putL, and_self, ldn, iT, iR, d8.rd ht, hst, stP_aggL, e1, e2, e3]
        exact fin _ _ _ _ d9.cw d9.cur (by have := d9.lives (fl := tf); rwa [List.length_set] at this)
    have q1 : (c == 1) = false := by simp [c1]
    by_cases c2 : c = 2
    · have q2 : (c == 2) = true := by simp [c2]
      obtain ⟨e1, e2, e3⟩ := E _ d7.cw
      simp (config := {implicitDefEqProofs := false, maxDischargeDepth := 20}) (disch := first | omega | (simp only [lenE]; done) | (simp only [lenE]; omega) | rfl | (simp only [lenE, markR_len]; done) | (simp only [lenE, markR_len]; omega)) only [runE, mapE, listE, initT_5, initT_6, initT_7, initT_8, resV, oneV, binA, unA, reduceCtorEq, Nat.reduceEqDiff, Nat.reduceAdd, Nat.reduceLT, Nat.reduceLeDiff, Nat.reduceMul, Nat.reduceSub, ↓reduceIte, decide_true, decide_false, Bool.true_eq_false, Bool.false_eq_true, Bool.not_true, Bool.not_false, if_true, if_false, and_true, true_and, memE, celE, w64, Nat.zero_add, Nat.add_zero, Nat.mul_one, putL, and_self, ldn, q0, q1, q2, Option.map_none, slc_1 (id := tid) (n := T0.length) (fl := tf) hT, stP_aggL, e1, e2, e3]
      exact fin _ _ _ _ d7.cw d7.cur (d7.cutT hT)
    have q2 : (c == 2) = false := by simp [c2]
    by_cases c3 : c = 3
    · have q3 : (c == 3) = true := by simp [c3]
      obtain ⟨hst, lv, cw8, k8⟩ := d7.cutR (fl := tf) ht
      obtain ⟨e1, e2, e3⟩ := E _ cw8
      simp (config := {implicitDefEqProofs := false, maxDischargeDepth := 20}) (disch := first | omega | (simp only [lenE]; done) | (simp only [lenE]; omega) | rfl | (simp only [lenE, markR_len]; done) | (simp only [lenE, markR_len]; omega)) only [runE, mapE, listE, initT_5, initT_6, initT_7, initT_8, resV, oneV, binA, unA, reduceCtorEq, Nat.reduceEqDiff, Nat.reduceAdd, Nat.reduceLT, Nat.reduceLeDiff, Nat.reduceMul, Nat.reduceSub, ↓reduceIte, decide_true, decide_false, Bool.true_eq_false, Bool.false_eq_true, Bool.not_true, Bool.not_false, if_true, if_false, and_true, true_and, memE, celE, w64, Nat.zero_add, Nat.add_zero, Nat.mul_one, putL, and_self, ldn, q0, q1, q2, q3, iT, r1, Option.map_none, slc_1 (id := R t) (n := (T0.getD t []).length) (fl := F t) (by omega), hst, stP_aggL, e1, e2, e3]
      exact fin _ _ _ _ cw8 k8 lv
    have q3 : (c == 3) = false := by simp [c3]
    by_cases c4 : c = 4
    · have q4 : (c == 4) = true := by simp [c4]
      simp (config := {implicitDefEqProofs := false, maxDischargeDepth := 20}) (disch := first | omega | (simp only [lenE]; done) | (simp only [lenE]; omega) | rfl | (simp only [lenE, markR_len]; done) | (simp only [lenE, markR_len]; omega)) only [runE, mapE, listE, initT_5, initT_6, initT_7, initT_8, resV, oneV, binA, unA, reduceCtorEq, Nat.reduceEqDiff, Nat.reduceAdd, Nat.reduceLT, Nat.reduceLeDiff, Nat.reduceMul, Nat.reduceSub, ↓reduceIte, decide_true, decide_false, Bool.true_eq_false, Bool.false_eq_true, Bool.not_true, Bool.not_false, if_true, if_false, and_true, true_and, memE, celE, w64, Nat.zero_add, Nat.add_zero, Nat.mul_one, putL, and_self, ldn, q0, q1, q2, q3, q4]
      clear r1 r2 iR vl iT
      refine loop_inv mixed (fun s => ∃ (k : Nat) (M' : Mem) (T : List (List Int)), s.m = M' ∧ WT M3 M' cb id a7 l T tid R F (6400000000 + 5 * k) ∧ T.length = T0.length ∧ k ≤ 21 ∧ s.t 5 = .pointer (some ⟨M2.length, 0, none⟩) ∧ s.t 2 = .pointer (some ⟨m.length, 0, none⟩) ∧ s.t 6 = .slice (some ⟨tid, 0, none⟩) T0.length tf ∧ s.t 10 = .int .i64 k) (fun s => 21 - (intOf (s.t 10)).toNat)
        ⟨0, M7, T0, rfl, by simpa using d7, rfl, by omega, by simp only [put_t, put_t', put_m, putT_t, putT_t', putT_m, init_t, init_m, initT_0, initT_1, initT_2, initT_3, initT_4, initT_5, initT_6, initT_7, initT_8, Nat.reduceEqDiff, ↓reduceIte], by simp only [put_t, put_t', put_m, putT_t, putT_t', putT_m, init_t, init_m, initT_0, initT_1, initT_2, initT_3, initT_4, initT_5, initT_6, initT_7, initT_8, Nat.reduceEqDiff, ↓reduceIte], by simp only [put_t, put_t', put_m, putT_t, putT_t', putT_m, init_t, init_m, initT_0, initT_1, initT_2, initT_3, initT_4, initT_5, initT_6, initT_7, initT_8, Nat.reduceEqDiff, ↓reduceIte], by simp only [put_t, put_t', put_m, putT_t, putT_t', putT_m, init_t, init_m, initT_0, initT_1, initT_2, initT_3, initT_4, initT_5, initT_6, initT_7, initT_8, Nat.reduceEqDiff, ↓reduceIte]; rfl⟩ ?_
      clear d7
      rintro s ⟨k, M', T, tm, d, hTl, hk, t5, t2, t6, t10⟩
      have h0 : 0 < T.length := by omega
      have h21 := d.row 0 h0
      have i0 : iadA 1 (.slice (some ⟨tid, 0, none⟩) T0.length tf) (.int .i64 0) = some (.pointer (some ⟨tid, 0, none⟩)) := iad0 (j := 0) rfl (by omega)
      by_cases hlt : k < 21
      · have hlt' : (k : Int) < (T.getD 0 []).length := by omega
        have vl := d.val 0 k h0 hlt
        obtain ⟨hst, d9⟩ := d.put h0 hlt ((T.getD 0 []).getD k 0 - 5) (b' := 6400000000 + 5 * (k + 1 : Nat)) (by omega) (by omega)
        simp (config := {implicitDefEqProofs := false, maxDischargeDepth := 20}) (disch := first | omega | (simp only [lenE]; done) | (simp only [lenE]; omega) | rfl | (simp only [lenE, markR_len]; done) | (simp only [lenE, markR_len]; omega)) only [runE, mapE, listE, initT_5, initT_6, initT_7, initT_8, resV, oneV, binA, unA, reduceCtorEq, Nat.reduceEqDiff, Nat.reduceAdd, Nat.reduceLT, Nat.reduceLeDiff, Nat.reduceMul, Nat.reduceSub, ↓reduceIte, decide_true, decide_false, Bool.true_eq_false, Bool.false_eq_true, Bool.not_true, Bool.not_false, if_true, if_false, and_true, true_and, memE, celE, w64, Nat.zero_add, Nat.add_zero, Nat.mul_one, putL, and_self, ldn, tm, t5, t2, t6, t10, i0, d.rd h0, hlt', d.iadR h0 hlt, d.rd2 h0 hlt, hst]
        all_goals exact ⟨⟨k + 1, _, _, rfl, d9, by rw [List.length_set]; exact hTl, by omega, by simp⟩, by simp [intOf]; omega⟩
      · have hlt' : ¬ ((k : Int) < (T.getD 0 []).length) := by omega
        obtain ⟨e1, e2, e3⟩ := E _ d.cw
        simp (config := {implicitDefEqProofs := false, maxDischargeDepth := 20}) (disch := first | omega | (simp only [lenE]; done) | (simp only [lenE]; omega) | rfl | (simp only [lenE, markR_len]; done) | (simp only [lenE, markR_len]; omega)) only [runE, mapE, listE, initT_5, initT_6, initT_7, initT_8, resV, oneV, binA, unA, reduceCtorEq, Nat.reduceEqDiff, Nat.reduceAdd, Nat.reduceLT, Nat.reduceLeDiff, Nat.reduceMul, Nat.reduceSub, ↓reduceIte, decide_true, decide_false, Bool.true_eq_false, Bool.false_eq_true, Bool.not_true, Bool.not_false, if_true, if_false, and_true, true_and, memE, celE, w64, Nat.zero_add, Nat.add_zero, Nat.mul_one, putL, and_self, ldn, tm, t5, t2, t6, t10, i0, d.rd h0, hlt', stP_aggL, e1, e2, e3]
        exact fin _ _ _ _ d.cw d.cur (by have := d.lives (fl := tf); rwa [hTl] at this)
    have q4 : (c == 4) = false := by simp [c4]
    obtain ⟨e1, e2, e3⟩ := E _ d7.cw
    simp (config := {implicitDefEqProofs := false, maxDischargeDepth := 20}) (disch := first | omega | (simp only [lenE]; done) | (simp only [lenE]; omega) | rfl | (simp only [lenE, markR_len]; done) | (simp only [lenE, markR_len]; omega)) only [runE, mapE, listE, initT_5, initT_6, initT_7, initT_8, resV, oneV, binA, unA, reduceCtorEq, Nat.reduceEqDiff, Nat.reduceAdd, Nat.reduceLT, Nat.reduceLeDiff, Nat.reduceMul, Nat.reduceSub, ↓reduceIte, decide_true, decide_false, Bool.true_eq_false, Bool.false_eq_true, Bool.not_true, Bool.not_false, if_true, if_false, and_true, true_and, memE, celE, w64, Nat.zero_add, Nat.add_zero, Nat.mul_one, putL, and_self, ldn, q0, q1, q2, q3, q4, stP_aggL, e1, e2, e3]
    exact fin _ _ _ _ d7.cw d7.cur d7.lives
  · have hT' : ¬ ((0 : Int) < T0.length) := by omega
    obtain ⟨e1, e2, e3⟩ := E _ d4.cw
    simp (config := {implicitDefEqProofs := false, maxDischargeDepth := 20}) (disch := first | omega | (simp only [lenE]; done) | (simp only [lenE]; omega) | rfl | (simp only [lenE, markR_len]; done) | (simp only [lenE, markR_len]; omega)) only [runE, mapE, listE, initT_5, initT_6, initT_7, initT_8, resV, oneV, binA, unA, reduceCtorEq, Nat.reduceEqDiff, Nat.reduceAdd, Nat.reduceLT, Nat.reduceLeDiff, Nat.reduceMul, Nat.reduceSub, ↓reduceIte, decide_true, decide_false, Bool.true_eq_false, Bool.false_eq_true, Bool.not_true, Bool.not_false, if_true, if_false, and_true, true_and, memE, celE, w64, Nat.zero_add, Nat.add_zero, Nat.mul_one, putL, and_self, ldn, ext_2_0, ext_2_1, gt_iff_lt, hT', stP_aggL, e1, e2, e3]
    exact fin _ _ _ _ d4.cw d4.cur d4.lives
end Go.Proofs.Ytckpfgkgigicpaa.Ab
end
section
namespace Go.Proofs.Ytckpfgkgigicpaa.Ab
open Go Go.RowKit
set_option linter.unusedVariables false
theorem order_is {p : Pr} (hG : GoodP p) {next : List Int} {n : Nat} (hn : KConv (p.setup * p.pow n) (fun21 next) (-10) 10) {x : Int} (h1 : -10 ≤ x) (h2 : x ≤ 10) :
    (x < (pairOf p next n).1 → p.up next x n = (pairOf p next n).2) ∧ ((pairOf p next n).1 ≤ x → p.up next x n = x) := by
  have pm := pair_move hG hn h1 h2
  obtain ⟨s, S, e, hS, a1, a2, a3, a4⟩ := pair_is hG next n
  obtain ⟨b1, b2, b3, b4⟩ := Pr.up_least hG next ⟨h1, h2⟩ n
  obtain ⟨c1, c2, c3⟩ := Pr.lo_in hG ⟨h1, h2⟩
  obtain ⟨d1, d2, d3, d4⟩ := hS
  rw [e] at pm ⊢
  unfold Pr.upOf at pm
  simp only at pm ⊢
  refine ⟨fun hx => ?_, fun hx => ?_⟩
  · rw [if_pos (.inl hx)] at pm
    have l1 : ¬ S < p.up next x n := fun h => by
      have := b4 S (by have : p.lo x = max x p.floor := rfl; omega) h
      simp only at this
      omega
    have l2 : ¬ p.up next x n < S := fun h => by
      have m1 := Pr.move_bill p next n (x := x) (y := S) (by omega)
      have m2 := Pr.move_bill p next n (x := x) (y := p.up next x n) (by omega)
      rw [if_pos (by omega)] at m1
      by_cases q : x < p.up next x n
      · rw [if_pos q] at m2
        have := d4 (p.up next x n) (by omega) h
        simp only at this
        omega
      · rw [if_neg q] at m2
        have ex : p.up next x n = x := by omega
        rw [ex] at m2 b1 pm
        have := a4 x (by omega) hx
        omega
    omega
  · rw [if_neg (by omega)] at pm
    by_cases q : x < p.up next x n
    · have := b4 x (by have : p.lo x = max x p.floor := rfl; omega) q
      simp only at this
      omega
    · omega
theorem bills_least {p : Pr} (hG : GoodP p) (next : List Int) (n : Nat) : ∃ j : Nat, (pairOf p next n).2 - p.floor = j ∧ j < 22 - p.w.length ∧ ∀ i, i < 22 - p.w.length → (billsL p next n).getD j 0 ≤ (billsL p next n).getD i 0 := by
  obtain ⟨s, S, e, ⟨d1, d2, d3, d4⟩, a1, a2, a3, a4⟩ := pair_is hG next n
  have hl := hG.len
  have hfl : p.floor = p.w.length - 1 - 10 := rfl
  rw [e]
  refine ⟨(S - p.floor).toNat, by simp only; omega, by omega, fun i hi => ?_⟩
  rw [billsL_at (by omega), billsL_at hi, show p.floor + ((S - p.floor).toNat : Int) = S by omega]
  exact d3 (p.floor + i) (by omega) (by omega)
theorem order_turn {p : Pr} {t x : Int} (h : orderB p t x = true) : turnB p t = true ∧ p.good = true ∧ (0 ≤ t ∧ t < p.turns) ∧ -10 ≤ x ∧ x ≤ 10 := by
  unfold orderB at h
  rw [Bool.and_eq_true] at h
  refine ⟨h.1, ?_⟩
  have h1 := h.1
  unfold turnB at h1
  rw [Bool.and_eq_true] at h1
  have q1 : 0 ≤ t ∧ t ≤ p.turns - 1 := by have := h1.2; simp [inZ] at this; omega
  have q2 : -10 ≤ x ∧ x ≤ 10 := by have := h.2; simp [levB] at this; omega
  exact ⟨h1.1, by omega, q2⟩
theorem levels_say {p : Pr} {t : Nat} {x : Int} (h : orderB p t x = true) : ∃ (s S : Int) (j : Nat), (levelsA p).getD t (0, 0) = (s, S) ∧ t < (levelsA p).length ∧ S - p.floor = j ∧ j < (billsA p t).length ∧
    (∀ i, i < (billsA p t).length → (billsA p t).getD j 0 ≤ (billsA p t).getD i 0) ∧ (x < s → orderUp p t x = S) ∧ (s ≤ x → orderUp p t x = x) ∧ -10 ≤ S ∧ S ≤ 10 := by
  obtain ⟨ht, hg, h1, h2⟩ := order_turn h
  have hG := goodP_iff.1 hg
  have tn := hG.turns
  have e : (levelsA p).getD t (0, 0) = pairOf p (p.rowsN p.bestC (p.turns - 1 - t).toNat) (p.turns - 1 - t).toNat := by
    unfold levelsA
    rw [if_pos hg, levelsL_at (by omega), show p.turns.toNat - 1 - t = (p.turns - 1 - t).toNat by omega]
  have hlen : (levelsA p).length = p.turns.toNat := by unfold levelsA; rw [if_pos hg, levelsL_len]
  have eb : billsA p t = billsL p (p.rowsN p.bestC (p.turns - 1 - t).toNat) (p.turns - 1 - t).toNat := by unfold billsA; rw [if_pos ht]
  have eo : orderUp p t x = p.up (p.rowsN p.bestC (p.turns - 1 - t).toNat) x (p.turns - 1 - t).toNat := by unfold orderUp; rw [if_pos h]
  obtain ⟨j, j1, j2, j3⟩ := bills_least hG (p.rowsN p.bestC (p.turns - 1 - t).toNat) (p.turns - 1 - t).toNat
  have o := order_is hG (Pr.rows_conv hG (p.turns - 1 - t).toNat) h2.1 h2.2
  obtain ⟨s, S, ep, ⟨d1, d2, -, -⟩, -⟩ := pair_is hG (p.rowsN p.bestC (p.turns - 1 - t).toNat) (p.turns - 1 - t).toNat
  have hf := hG.floor
  rw [ep] at o j1
  refine ⟨s, S, j, by rw [e, ep], by omega, j1, by rw [eb, billsL_len]; exact j2, ?_, by rw [eo]; exact o.1, by rw [eo]; exact o.2, by omega, d2⟩
  rw [eb, billsL_len]
  exact j3
theorem proof_row {p : Pr} {T : List (List Int)} (h : (p.good && proofB p T) = true) : T.length ≠ 0 ∧ (T.getD 0 []).length = 21 ∧ ∀ i, i < 21 → ¬ ((p.tab p.bestC p.turns.toNat).getD 0 []).getD i 0 < (T.getD 0 []).getD i 0 := by
  rw [Bool.and_eq_true] at h
  have hG := goodP_iff.1 h.1
  have tn := hG.turns
  have hp := h.2
  unfold proofB at hp
  rw [Bool.and_eq_true, Bool.and_eq_true] at hp
  have hl := tabV_len hp.1.1
  refine ⟨by omega, (tabV_row hp.1.1 (t := 0) (by omega)).1, fun i hi => ?_⟩
  have := proof_under hG h.2 p.turns.toNat (Nat.le_refl _) i hi
  rw [Nat.sub_self] at this
  rw [Pr.tab_at _ _ (Nat.zero_le _), Nat.sub_zero]
  omega
end Go.Proofs.Ytckpfgkgigicpaa.Ab
end
section
namespace Go.Proofs.Ytckpfgkgigicpaa.Ab
open Go Go.RowKit
set_option linter.unusedVariables false
set_option linter.unusedSimpArgs false
theorem bld_move2 (t x y : Int) : bldA [.int .i64 0, .int .i64 0, .int .i64 0] [(0, 1, .int .i64 t), (1, 1, .int .i64 x), (2, 1, .int .i64 y)] = some (moveV t x y) := rfl
theorem firstMove_rc (m : Mem) (v : Value) (p : Pr) (t : Int) (h : ProcA m v p) (hl : p.w.length ≤ 5) : RC Try.prog 71 [v, .int .i64 t] m (AnsV (moveV t (-10) p.floor)) := by
  refine rc_of_run mixed ok_impl_firstMove (by simp) (go_start _ _ _ ?_)
  obtain ⟨u, rfl, hu⟩ := h.ro
  simp (config := {implicitDefEqProofs := false, maxDischargeDepth := 20}) (disch := first | omega | (simp only [lenE]; done) | (simp only [lenE]; omega) | rfl | (simp only [lenE, markR_len]; done) | (simp only [lenE, markR_len]; omega)) only [runE, mapE, listE, initT_5, initT_6, initT_7, initT_8, resV, oneV, binA, unA, reduceCtorEq, Nat.reduceEqDiff, Nat.reduceAdd, Nat.reduceLT, Nat.reduceLeDiff, Nat.reduceMul, Nat.reduceSub, ↓reduceIte, decide_true, decide_false, Bool.true_eq_false, Bool.false_eq_true, Bool.not_true, Bool.not_false, if_true, if_false, and_true, true_and, memE, celE, w64, Nat.zero_add, Nat.add_zero, Nat.mul_one, putL, and_self, ldn, c_impl_firstMove, r_impl_firstMove]
  refine callH_rc (floorOf_rc _ _ p (ProcA.mk ((hu.ext _).ext _)) hl) ?_
  rintro r n1 ⟨rfl, nr1⟩
  simp (config := {implicitDefEqProofs := false, maxDischargeDepth := 20}) (disch := first | omega | (simp only [lenE]; done) | (simp only [lenE]; omega) | rfl | (simp only [lenE, markR_len]; done) | (simp only [lenE, markR_len]; omega)) only [runE, mapE, listE, initT_5, initT_6, initT_7, initT_8, resV, oneV, binA, unA, reduceCtorEq, Nat.reduceEqDiff, Nat.reduceAdd, Nat.reduceLT, Nat.reduceLeDiff, Nat.reduceMul, Nat.reduceSub, ↓reduceIte, decide_true, decide_false, Bool.true_eq_false, Bool.false_eq_true, Bool.not_true, Bool.not_false, if_true, if_false, and_true, true_and, memE, celE, w64, Nat.zero_add, Nat.add_zero, Nat.mul_one, putL, and_self, ldn, bld_move2]
  try simp only [List.append_assoc, List.cons_append, List.nil_append, List.append_nil]
  exact ⟨_, rfl, by (repeat (first | exact noRo_nil | assumption | apply noRo_own | apply noRo_dead | apply noRo_app)), rfl, by (repeat (first | exact noRo_nil | assumption | apply noRo_own | apply noRo_dead | apply noRo_app))⟩
theorem aeq3 (a b c x y z : Int) : aeqA false 3 (.agg #[.int .i64 a, .int .i64 b, .int .i64 c]) (.agg #[.int .i64 x, .int .i64 y, .int .i64 z]) = some (.bool ((a == x) && ((b == y) && ((c == z) && true)))) := rfl
theorem next_turn {N t f a : Nat} {fl : Int} (ht : t < N) (h : -10 ≤ fl) (hf : (N - t) * 462 + a < f + 1 + 441) : (N - (t + 1)) * 462 + ((10 : Int) - -10).toNat * 21 + (10 - fl).toNat < f + 441 := by
  obtain ⟨b, hb⟩ : ∃ b, b = f + 441 := ⟨_, rfl⟩
  have hf' : (N - t) * 462 + a < b + 1 := by omega
  rw [← hb]
  have e1 : ((10 : Int) - -10).toNat * 21 = 420 := rfl
  rw [e1]
  have e2 : (10 - fl).toNat ≤ 20 := by omega
  obtain ⟨d, hd⟩ : ∃ d, d = N - (t + 1) := ⟨_, rfl⟩
  rw [show N - t = d + 1 from by omega, Nat.succ_mul] at hf'
  rw [← hd]
  generalize d * 462 = z at hf' ⊢
  generalize (10 - fl).toNat = y at e2 ⊢
  clear hf hb e1 h ht
  omega
def scC : ACode := match c_impl_noMoveCostsLess with
  | .seq _ (.scope c) => c
  | _ => .skip
def scY : ACode := match scC with
  | .seq _ (.seq _ y) => y
  | _ => .skip
def scR : ACode := .seq .skip scY
theorem sc_find : findA scC 0 = some scR := rfl
theorem lab_rest {k : Kont} {s : St} (h : goC Try.prog 61 scR k s) : goC Try.prog 61 (.label 0) (.seq scY k) s := by
  rw [scR, goC_seq, goC_skip] at h
  rw [goC_label]
  exact h
theorem noMove_rc (m : Mem) (v vt : Value) (p : Pr) (T : List (List Int)) (h : ProcA m v p) (hT : TabZ m vt T) (hG : GoodP p) (hv : tabVB p T = true) :
    RC Try.prog 43 [v, vt] m (AnsV (.bool ((List.range p.turns.toNat).all (underB p T)))) := by
  refine rc_of_run mixed ok_impl_noMoveCostsLess (by simp) (go_start _ _ _ ?_)
  obtain ⟨u, rfl, hu⟩ := h.ro
  have htu := hG.turns
  have hlen := hG.len
  have hfl := hG.floor
  have hTl := tabV_len hv
  obtain ⟨N, hN⟩ : ∃ N, N = p.turns.toNat := ⟨_, rfl⟩
  have hNt : p.turns = (N : Int) := by omega
  rw [← hN]
  obtain ⟨Q, hQ⟩ : ∃ Q, Q = bodyQ r_impl_noMoveCostsLess (newQ m (AnsV (.bool ((List.range N).all (underB p T))))) := ⟨_, rfl⟩
  have fin : ∀ (f t : Nat) (x y : Int) (s : St) (M : Mem) (id5 id6 : Nat), s.m = M → Ext m M → OwnB M id5 60 [.int .i64 t, .int .i64 x, .int .i64 y] → OwnB M id6 60 [.int .i64 N, .int .i64 (-10), .int .i64 p.floor] →
      s.t 5 = .pointer (some ⟨id5, 0, none⟩) → s.t 6 = .pointer (some ⟨id6, 0, none⟩) → t = N → (x = -10 ∧ y = p.floor) → (∀ j, j < t → underB p T j = true) → goC Try.prog 61 scR (.scope f scC (.done Q)) s := by
    intro f t x y s M id5 id6 tm hX h5 h6 t5 t6 ht hxy hall
    obtain ⟨rfl, rfl⟩ := hxy
    subst ht
    have hall' : (List.range t).all (underB p T) = true := by
      rw [List.all_eq_true]
      intro j hj
      exact hall j (List.mem_range.1 hj)
    obtain ⟨KK, hKK⟩ : ∃ KK, KK = Kont.scope f scC (.done Q) := ⟨_, rfl⟩
    rw [← hKK]
    simp only [scR, scY, scC, c_impl_noMoveCostsLess]
    simp (config := {implicitDefEqProofs := false, maxDischargeDepth := 20}) (disch := first | omega | (simp only [lenE]; done) | (simp only [lenE]; omega) | rfl | (simp only [lenE, markR_len]; done) | (simp only [lenE, markR_len]; omega)) only [runE, listE, initT_5, initT_6, initT_7, initT_8, resV, oneV, binA, unA, reduceCtorEq, Nat.reduceEqDiff, Nat.reduceAdd, Nat.reduceLT, Nat.reduceLeDiff, Nat.reduceMul, Nat.reduceSub, ↓reduceIte, decide_true, decide_false, Bool.true_eq_false, Bool.false_eq_true, Bool.not_true, Bool.not_false, if_true, if_false, and_true, true_and, memE, celE, w64, Nat.zero_add, Nat.add_zero, Nat.mul_one, putL, and_self, goC_both, row_aeq, ldn, tm, t5, t6, h5.rd, h6.rd, aeq3, beq_self_eq_true, Bool.true_and, Bool.and_true]
    rw [hKK, hQ]
    simp (config := {implicitDefEqProofs := false, maxDischargeDepth := 20}) (disch := first | omega | (simp only [lenE]; done) | (simp only [lenE]; omega) | rfl | (simp only [lenE, markR_len]; done) | (simp only [lenE, markR_len]; omega)) only [runE, listE, initT_5, initT_6, initT_7, initT_8, resV, oneV, binA, unA, reduceCtorEq, Nat.reduceEqDiff, Nat.reduceAdd, Nat.reduceLT, Nat.reduceLeDiff, Nat.reduceMul, Nat.reduceSub, ↓reduceIte, decide_true, decide_false, Bool.true_eq_false, Bool.false_eq_true, Bool.not_true, Bool.not_false, if_true, if_false, and_true, true_and, memE, celE, w64, Nat.zero_add, Nat.add_zero, Nat.mul_one, putL, and_self, goC_both, row_aeq, ldn, r_impl_noMoveCostsLess, goX_scope_ret, tm]
    refine ext_ansV3 hX ?_
    rw [hall']
  have rest : ∀ (f t : Nat) (x y : Int) (s : St) (M : Mem) (id5 id6 : Nat), s.m = M → Ext m M → OwnB M m.length 26 [.int .i64 p.turns, u, .int .i64 p.setup, .int .i64 p.unit, .int .i64 p.hold, .int .i64 p.back] → OwnB M id5 60 [.int .i64 t, .int .i64 x, .int .i64 y] → OwnB M id6 60 [.int .i64 N, .int .i64 (-10), .int .i64 p.floor] → id5 ≠ id6 → m.length < id5 → m.length < id6 →
      s.t 1 = vt → s.t 2 = .pointer (some ⟨m.length, 0, none⟩) → s.t 5 = .pointer (some ⟨id5, 0, none⟩) → s.t 6 = .pointer (some ⟨id6, 0, none⟩) → t ≤ N → (t < N → -10 ≤ x ∧ x ≤ 10 ∧ p.lo x ≤ y ∧ y ≤ 10) → (t = N → x = -10 ∧ y = p.floor) →
      (∀ j, j < t → underB p T j = true) → (t < N → ∀ i : Nat, (i : Int) < x + 10 → underI p T t i = true) → (t < N → ∀ z, p.lo x ≤ z → z < y → (T.getD t []).getD (x + 10).toNat 0 ≤ p.move (T.getD (t + 1) []) x z (N - 1 - t)) →
      (N - t) * 462 + (10 - x).toNat * 21 + (10 - y).toNat < f + 441 → goC Try.prog 61 scR (.scope f scC (.done Q)) s := by
    intro f
    induction f with
    | zero =>
      intro t x y s M id5 id6 tm hX hb h5 h6 hne h5m h6m t1 t2 t5 t6 htN hin hend hall hlev hz hf
      rcases Nat.lt_or_ge t N with e | e
      · omega
      · exact fin 0 t x y s M id5 id6 tm hX h5 h6 t5 t6 (by omega) (hend (by omega)) hall
    | succ f ih =>
      intro t x y s M id5 id6 tm hX hb h5 h6 hne h5m h6m t1 t2 t5 t6 htN hin hend hall hlev hz hf
      have hs : scR = scR := rfl
      rcases Nat.lt_or_ge t N with htl | htl
      · obtain ⟨hx1, hx2, hy1, hy2⟩ := hin htl
        have hlo := Pr.lo_in hG (x := x) ⟨hx1, hx2⟩
        have hne3 : ((t : Int) == (N : Int)) = false := by simp; omega
        have hr1 := tabV_row hv (t := t) (by omega)
        have hr2 := tabV_row hv (t := t + 1) (by omega)
        have hTM := hT.xt2 hX
        have a1 := hTM.at_z (z := (t : Int) + 1) (k := t + 1) (by omega) (by omega)
        obtain ⟨w1, a2, a3⟩ := hTM.ld (t + 1) (by omega)
        have b1 := hTM.at_ t (by omega)
        obtain ⟨w2, b2, b3⟩ := hTM.ld t (by omega)
        have hmay : p.may y := ⟨by omega, hy2⟩
        have hup := Pr.up_least hG (T.getD (t + 1) []) (x := x) ⟨hx1, hx2⟩ (N - 1 - t)
        have hi21 : (x + 10).toNat < 21 := by omega
        have hix : (((x + 10).toNat : Nat) : Int) - 10 = x := by omega
        have hui : underI p T t (x + 10).toNat = decide ((T.getD t []).getD (x + 10).toNat 0 ≤ p.move (T.getD (t + 1) []) x (p.up (T.getD (t + 1) []) x (N - 1 - t)) (N - 1 - t)) := by
          unfold underI; rw [hix, ← hN]
        have bad : p.move (T.getD (t + 1) []) x y (N - 1 - t) < (T.getD t []).getD (x + 10).toNat 0 → ∀ A, Ext m A → newQ m (AnsV (.bool ((List.range N).all (underB p T)))) (.bool false) A := fun hq A hA => by
          refine ext_ansV3 hA ?_
          have h1 : underI p T t (x + 10).toNat = false := by
            rw [hui]
            have : p.move (T.getD (t + 1) []) x (p.up (T.getD (t + 1) []) x (N - 1 - t)) (N - 1 - t) ≤ p.move (T.getD (t + 1) []) x y (N - 1 - t) := hup.2.2.1 y hy1 hy2
            exact decide_eq_false (by omega)
          have h2 := underB_no hi21 h1
          have : (List.range N).all (underB p T) = false := by
            cases hr : (List.range N).all (underB p T) with
            | false => rfl
            | true =>
              rw [List.all_eq_true] at hr
              rw [hr t (List.mem_range.2 htl)] at h2; cases h2
          rw [this]
        obtain ⟨KK, hKK⟩ : ∃ KK, KK = Kont.scope (f + 1) scC (.done Q) := ⟨_, rfl⟩
        rw [← hKK]
        simp only [scR, scY, scC, c_impl_noMoveCostsLess]
        simp (config := {implicitDefEqProofs := false, maxDischargeDepth := 20}) (disch := first | omega | (simp only [lenE]; done) | (simp only [lenE]; omega) | rfl | (simp only [lenE, markR_len]; done) | (simp only [lenE, markR_len]; omega)) only [runE, listE, initT_5, initT_6, initT_7, initT_8, resV, oneV, binA, unA, reduceCtorEq, Nat.reduceEqDiff, Nat.reduceAdd, Nat.reduceLT, Nat.reduceLeDiff, Nat.reduceMul, Nat.reduceSub, ↓reduceIte, decide_true, decide_false, Bool.true_eq_false, Bool.false_eq_true, Bool.not_true, Bool.not_false, if_true, if_false, and_true, true_and, memE, celE, w64, Nat.zero_add, Nat.add_zero, Nat.mul_one, putL, and_self, goC_both, row_aeq, ldn, tm, t1, t2, t5, t6, h5.rd, h6.rd, hb.rd, aeq3, hne3, Bool.false_and, a1, a2, b1, b2]
        refine rcallH_rc (moveCost_rc M _ w1 p (T.getD (t + 1) []) t x y (N - 1 - t) (ProcA.mk (hX.ints hu)) a3 hG hr2.1 (vals_in hr2.2) ⟨hx1, hx2⟩ hmay (by omega) (by omega) (by omega) (by omega)) ?_
        rintro r n1 ⟨rfl, nr1⟩
        simp (config := {implicitDefEqProofs := false, maxDischargeDepth := 20}) (disch := first | omega | (simp only [lenE]; done) | (simp only [lenE]; omega) | rfl | (simp only [lenE, markR_len]; done) | (simp only [lenE, markR_len]; omega)) only [runE, listE, initT_5, initT_6, initT_7, initT_8, resV, oneV, binA, unA, reduceCtorEq, Nat.reduceEqDiff, Nat.reduceAdd, Nat.reduceLT, Nat.reduceLeDiff, Nat.reduceMul, Nat.reduceSub, ↓reduceIte, decide_true, decide_false, Bool.true_eq_false, Bool.false_eq_true, Bool.not_true, Bool.not_false, if_true, if_false, and_true, true_and, memE, celE, w64, Nat.zero_add, Nat.add_zero, Nat.mul_one, putL, and_self, goC_both, row_aeq, ldn]
        refine rcallH_rc (placeOf_rc _ x ⟨hx1, hx2⟩) ?_
        rintro r n2 ⟨rfl, rfl⟩
        rw [List.append_nil]
        have hX1 := hX.app nr1
        have hb1 := hb.ext n1
        have h51 := h5.ext n1
        have h61 := h6.ext n1
        have c1 := at_z (b3.ext n1) (z := x + 10) (i := (x + 10).toNat) (by omega) (by omega)
        have c2 := (b3.ext n1).ld (x + 10).toNat (by omega)
        obtain ⟨M1, hM1⟩ : ∃ M', M' = M ++ n1 := ⟨_, rfl⟩
        rw [← hM1] at hX1 hb1 h51 h61 c2
        rw [← hM1]
        have hM1l := hX1.len
        by_cases hq : p.move (T.getD (t + 1) []) x y (N - 1 - t) < (T.getD t []).getD (x + 10).toNat 0
        · simp (config := {implicitDefEqProofs := false, maxDischargeDepth := 20}) (disch := first | omega | (simp only [lenE]; done) | (simp only [lenE]; omega) | rfl | (simp only [lenE, markR_len]; done) | (simp only [lenE, markR_len]; omega)) only [runE, listE, initT_5, initT_6, initT_7, initT_8, resV, oneV, binA, unA, reduceCtorEq, Nat.reduceEqDiff, Nat.reduceAdd, Nat.reduceLT, Nat.reduceLeDiff, Nat.reduceMul, Nat.reduceSub, ↓reduceIte, decide_true, decide_false, Bool.true_eq_false, Bool.false_eq_true, Bool.not_true, Bool.not_false, if_true, if_false, and_true, true_and, memE, celE, w64, Nat.zero_add, Nat.add_zero, Nat.mul_one, putL, and_self, goC_both, row_aeq, ldn, c1, c2, hq]
          rw [hKK, hQ]
          simp (config := {implicitDefEqProofs := false, maxDischargeDepth := 20}) (disch := first | omega | (simp only [lenE]; done) | (simp only [lenE]; omega) | rfl | (simp only [lenE, markR_len]; done) | (simp only [lenE, markR_len]; omega)) only [runE, listE, initT_5, initT_6, initT_7, initT_8, resV, oneV, binA, unA, reduceCtorEq, Nat.reduceEqDiff, Nat.reduceAdd, Nat.reduceLT, Nat.reduceLeDiff, Nat.reduceMul, Nat.reduceSub, ↓reduceIte, decide_true, decide_false, Bool.true_eq_false, Bool.false_eq_true, Bool.not_true, Bool.not_false, if_true, if_false, and_true, true_and, memE, celE, w64, Nat.zero_add, Nat.add_zero, Nat.mul_one, putL, and_self, goC_both, row_aeq, ldn, r_impl_noMoveCostsLess, goX_scope_ret]
          exact bad hq _ hX1
        · have hz' : ∀ z, p.lo x ≤ z → z < y + 1 → (T.getD t []).getD (x + 10).toNat 0 ≤ p.move (T.getD (t + 1) []) x z (N - 1 - t) := fun z h1 h2 => by
            by_cases e : z = y
            · rw [e]; omega
            · exact hz htl z h1 (by omega)
          by_cases hy : y < 10
          · have hst := h51.st (off := 2) (vs := [.int .i64 (y + 1)]) (by simp) rfl
            simp (config := {implicitDefEqProofs := false, maxDischargeDepth := 20}) (disch := first | omega | (simp only [lenE]; done) | (simp only [lenE]; omega) | rfl | (simp only [lenE, markR_len]; done) | (simp only [lenE, markR_len]; omega)) only [runE, listE, initT_5, initT_6, initT_7, initT_8, resV, oneV, binA, unA, reduceCtorEq, Nat.reduceEqDiff, Nat.reduceAdd, Nat.reduceLT, Nat.reduceLeDiff, Nat.reduceMul, Nat.reduceSub, ↓reduceIte, decide_true, decide_false, Bool.true_eq_false, Bool.false_eq_true, Bool.not_true, Bool.not_false, if_true, if_false, and_true, true_and, memE, celE, w64, Nat.zero_add, Nat.add_zero, Nat.mul_one, putL, and_self, goC_both, row_aeq, ldn, c1, c2, hq, t1, t2, t5, t6, h51.rd, hy, hst]
            rw [hKK]
            simp (config := {implicitDefEqProofs := false, maxDischargeDepth := 20}) (disch := first | omega | (simp only [lenE]; done) | (simp only [lenE]; omega) | rfl | (simp only [lenE, markR_len]; done) | (simp only [lenE, markR_len]; omega)) only [runE, listE, initT_5, initT_6, initT_7, initT_8, resV, oneV, binA, unA, reduceCtorEq, Nat.reduceEqDiff, Nat.reduceAdd, Nat.reduceLT, Nat.reduceLeDiff, Nat.reduceMul, Nat.reduceSub, ↓reduceIte, decide_true, decide_false, Bool.true_eq_false, Bool.false_eq_true, Bool.not_true, Bool.not_false, if_true, if_false, and_true, true_and, memE, celE, w64, Nat.zero_add, Nat.add_zero, Nat.mul_one, putL, and_self, goC_both, row_aeq, ldn, goC_goto, goX_seq_goto, goX_block_goto, goX_scope_goto, sc_find, goJ_some]
            exact ih t x (y + 1) _ _ id5 id6 rfl (hX1.put (by omega) _ _) (OwnB.set_ne hb1 (by omega) _) (h51.set_self _ _) (OwnB.set_ne h61 hne _) hne h5m h6m (by simp only [put_t, put_t', put_m, putT_t, putT_t', putT_m, init_t, init_m, initT_0, initT_1, initT_2, initT_3, initT_4, initT_5, initT_6, initT_7, initT_8, Nat.reduceEqDiff, ↓reduceIte, t1]) (by simp only [put_t, put_t', put_m, putT_t, putT_t', putT_m, init_t, init_m, initT_0, initT_1, initT_2, initT_3, initT_4, initT_5, initT_6, initT_7, initT_8, Nat.reduceEqDiff, ↓reduceIte, t2]) (by simp only [put_t, put_t', put_m, putT_t, putT_t', putT_m, init_t, init_m, initT_0, initT_1, initT_2, initT_3, initT_4, initT_5, initT_6, initT_7, initT_8, Nat.reduceEqDiff, ↓reduceIte, t5]) (by simp only [put_t, put_t', put_m, putT_t, putT_t', putT_m, init_t, init_m, initT_0, initT_1, initT_2, initT_3, initT_4, initT_5, initT_6, initT_7, initT_8, Nat.reduceEqDiff, ↓reduceIte, t6]) htN (fun _ => ⟨hx1, hx2, by omega, by omega⟩) (fun e => absurd e (by omega)) hall hlev (fun _ => hz') (by omega)
          · have hy10 : y = 10 := by omega
            have hlx : underI p T t (x + 10).toNat = true := by
              rw [hui]
              exact decide_eq_true (hz' _ hup.1 (by have := hup.2.1; omega))
            by_cases hx : x < 10
            · have hst := h51.st (off := 1) (vs := [.int .i64 (x + 1)]) (by simp) rfl
              have h52 : OwnB (M1.set id5 ⟨.own, 60, [.int .i64 t, .int .i64 (x + 1), .int .i64 y]⟩) id5 60 [.int .i64 t, .int .i64 (x + 1), .int .i64 y] := h51.set_self _ _
              have hb2 : OwnB (M1.set id5 ⟨.own, 60, [.int .i64 t, .int .i64 (x + 1), .int .i64 y]⟩) m.length 26 [.int .i64 p.turns, u, .int .i64 p.setup, .int .i64 p.unit, .int .i64 p.hold, .int .i64 p.back] := OwnB.set_ne hb1 (by omega) _
              have h62 : OwnB (M1.set id5 ⟨.own, 60, [.int .i64 t, .int .i64 (x + 1), .int .i64 y]⟩) id6 60 [.int .i64 N, .int .i64 (-10), .int .i64 p.floor] := OwnB.set_ne h61 hne _
              have hX2 : Ext m (M1.set id5 ⟨.own, 60, [.int .i64 t, .int .i64 (x + 1), .int .i64 y]⟩) := hX1.put (by omega) _ _
              simp (config := {implicitDefEqProofs := false, maxDischargeDepth := 20}) (disch := first | omega | (simp only [lenE]; done) | (simp only [lenE]; omega) | rfl | (simp only [lenE, markR_len]; done) | (simp only [lenE, markR_len]; omega)) only [runE, listE, initT_5, initT_6, initT_7, initT_8, resV, oneV, binA, unA, reduceCtorEq, Nat.reduceEqDiff, Nat.reduceAdd, Nat.reduceLT, Nat.reduceLeDiff, Nat.reduceMul, Nat.reduceSub, ↓reduceIte, decide_true, decide_false, Bool.true_eq_false, Bool.false_eq_true, Bool.not_true, Bool.not_false, if_true, if_false, and_true, true_and, memE, celE, w64, Nat.zero_add, Nat.add_zero, Nat.mul_one, putL, and_self, goC_both, row_aeq, ldn, c1, c2, hq, t1, t2, t5, t6, h51.rd, hy, hx, hst]
              obtain ⟨M2, hM2⟩ : ∃ M' : Mem, M' = M1.set id5 ⟨.own, 60, [.int .i64 t, .int .i64 (x + 1), .int .i64 y]⟩ := ⟨_, rfl⟩
              rw [← hM2] at h52 hb2 h62 hX2
              try rw [← hM2]
              simp (config := {implicitDefEqProofs := false, maxDischargeDepth := 20}) (disch := first | omega | (simp only [lenE]; done) | (simp only [lenE]; omega) | rfl | (simp only [lenE, markR_len]; done) | (simp only [lenE, markR_len]; omega)) only [runE, listE, initT_5, initT_6, initT_7, initT_8, resV, oneV, binA, unA, reduceCtorEq, Nat.reduceEqDiff, Nat.reduceAdd, Nat.reduceLT, Nat.reduceLeDiff, Nat.reduceMul, Nat.reduceSub, ↓reduceIte, decide_true, decide_false, Bool.true_eq_false, Bool.false_eq_true, Bool.not_true, Bool.not_false, if_true, if_false, and_true, true_and, memE, celE, w64, Nat.zero_add, Nat.add_zero, Nat.mul_one, putL, and_self, goC_both, row_aeq, ldn, t1, t2, t5, t6, h52.rd, hb2.rd]
              refine rcallH_rc (floorOf_rc M2 _ p (ProcA.mk (hX2.ints hu)) hlen.2) ?_
              rintro r n3 ⟨rfl, nr3⟩
              have h53 := h52.ext n3
              have hst3 := h53.st (off := 2) (vs := [.int .i64 (p.lo (x + 1))]) (by simp) rfl
              simp (config := {implicitDefEqProofs := false, maxDischargeDepth := 20}) (disch := first | omega | (simp only [lenE]; done) | (simp only [lenE]; omega) | rfl | (simp only [lenE, markR_len]; done) | (simp only [lenE, markR_len]; omega)) only [runE, listE, initT_5, initT_6, initT_7, initT_8, resV, oneV, binA, unA, reduceCtorEq, Nat.reduceEqDiff, Nat.reduceAdd, Nat.reduceLT, Nat.reduceLeDiff, Nat.reduceMul, Nat.reduceSub, ↓reduceIte, decide_true, decide_false, Bool.true_eq_false, Bool.false_eq_true, Bool.not_true, Bool.not_false, if_true, if_false, and_true, true_and, memE, celE, w64, Nat.zero_add, Nat.add_zero, Nat.mul_one, putL, and_self, goC_both, row_aeq, ldn, t1, t2, t5, t6, h53.rd, show max (x + 1) p.floor = p.lo (x + 1) from rfl, hst3]
              rw [hKK]
              simp (config := {implicitDefEqProofs := false, maxDischargeDepth := 20}) (disch := first | omega | (simp only [lenE]; done) | (simp only [lenE]; omega) | rfl | (simp only [lenE, markR_len]; done) | (simp only [lenE, markR_len]; omega)) only [runE, listE, initT_5, initT_6, initT_7, initT_8, resV, oneV, binA, unA, reduceCtorEq, Nat.reduceEqDiff, Nat.reduceAdd, Nat.reduceLT, Nat.reduceLeDiff, Nat.reduceMul, Nat.reduceSub, ↓reduceIte, decide_true, decide_false, Bool.true_eq_false, Bool.false_eq_true, Bool.not_true, Bool.not_false, if_true, if_false, and_true, true_and, memE, celE, w64, Nat.zero_add, Nat.add_zero, Nat.mul_one, putL, and_self, goC_both, row_aeq, ldn, goC_goto, goX_seq_goto, goX_block_goto, goX_scope_goto, sc_find, goJ_some]
              have hlo' := Pr.lo_in hG (x := x + 1) ⟨by omega, by omega⟩
              exact ih t (x + 1) (p.lo (x + 1)) _ _ id5 id6 rfl ((hX2.app nr3).put (by omega) _ _) (OwnB.set_ne (hb2.ext n3) (by omega) _) (h53.set_self _ _) (OwnB.set_ne (h62.ext n3) hne _) hne h5m h6m (by simp only [put_t, put_t', put_m, putT_t, putT_t', putT_m, init_t, init_m, initT_0, initT_1, initT_2, initT_3, initT_4, initT_5, initT_6, initT_7, initT_8, Nat.reduceEqDiff, ↓reduceIte, t1]) (by simp only [put_t, put_t', put_m, putT_t, putT_t', putT_m, init_t, init_m, initT_0, initT_1, initT_2, initT_3, initT_4, initT_5, initT_6, initT_7, initT_8, Nat.reduceEqDiff, ↓reduceIte, t2]) (by simp only [put_t, put_t', put_m, putT_t, putT_t', putT_m, init_t, init_m, initT_0, initT_1, initT_2, initT_3, initT_4, initT_5, initT_6, initT_7, initT_8, Nat.reduceEqDiff, ↓reduceIte, t5]) (by simp only [put_t, put_t', put_m, putT_t, putT_t', putT_m, init_t, init_m, initT_0, initT_1, initT_2, initT_3, initT_4, initT_5, initT_6, initT_7, initT_8, Nat.reduceEqDiff, ↓reduceIte, t6]) htN (fun _ => ⟨by omega, by omega, by omega, by omega⟩) (fun e => absurd e (by omega)) hall (fun _ i hi => by
                by_cases e : i = (x + 10).toNat
                · rw [e]; exact hlx
                · exact hlev htl i (by omega)) (fun _ z h1 h2 => absurd h2 (by omega)) (by omega)
            · have hx10 : x = 10 := by omega
              have hut : underB p T t = true := underB_yes fun i hi => by
                by_cases e : i = (x + 10).toNat
                · rw [e]; exact hlx
                · exact hlev htl i (by omega)
              simp (config := {implicitDefEqProofs := false, maxDischargeDepth := 20}) (disch := first | omega | (simp only [lenE]; done) | (simp only [lenE]; omega) | rfl | (simp only [lenE, markR_len]; done) | (simp only [lenE, markR_len]; omega)) only [runE, listE, initT_5, initT_6, initT_7, initT_8, resV, oneV, binA, unA, reduceCtorEq, Nat.reduceEqDiff, Nat.reduceAdd, Nat.reduceLT, Nat.reduceLeDiff, Nat.reduceMul, Nat.reduceSub, ↓reduceIte, decide_true, decide_false, Bool.true_eq_false, Bool.false_eq_true, Bool.not_true, Bool.not_false, if_true, if_false, and_true, true_and, memE, celE, w64, Nat.zero_add, Nat.add_zero, Nat.mul_one, putL, and_self, goC_both, row_aeq, ldn, c1, c2, hq, t1, t2, t5, t6, h51.rd, hy, hx, hb1.rd]
              refine callH_rc (firstMove_rc M1 _ p ((t : Int) + 1) (ProcA.mk (hX1.ints hu)) hlen.2) ?_
              rintro r n3 ⟨rfl, nr3⟩
              have h53 := h51.ext n3
              have hst3 := h53.st (off := 0) (vs := [.int .i64 ((t : Int) + 1), .int .i64 (-10), .int .i64 p.floor]) (by simp) rfl
              simp (config := {implicitDefEqProofs := false, maxDischargeDepth := 20}) (disch := first | omega | (simp only [lenE]; done) | (simp only [lenE]; omega) | rfl | (simp only [lenE, markR_len]; done) | (simp only [lenE, markR_len]; omega)) only [runE, listE, initT_5, initT_6, initT_7, initT_8, resV, oneV, binA, unA, reduceCtorEq, Nat.reduceEqDiff, Nat.reduceAdd, Nat.reduceLT, Nat.reduceLeDiff, Nat.reduceMul, Nat.reduceSub, ↓reduceIte, decide_true, decide_false, Bool.true_eq_false, Bool.false_eq_true, Bool.not_true, Bool.not_false, if_true, if_false, and_true, true_and, memE, celE, w64, Nat.zero_add, Nat.add_zero, Nat.mul_one, putL, and_self, goC_both, row_aeq, ldn, t1, t2, t5, t6, hst3]
              rw [hKK]
              simp (config := {implicitDefEqProofs := false, maxDischargeDepth := 20}) (disch := first | omega | (simp only [lenE]; done) | (simp only [lenE]; omega) | rfl | (simp only [lenE, markR_len]; done) | (simp only [lenE, markR_len]; omega)) only [runE, listE, initT_5, initT_6, initT_7, initT_8, resV, oneV, binA, unA, reduceCtorEq, Nat.reduceEqDiff, Nat.reduceAdd, Nat.reduceLT, Nat.reduceLeDiff, Nat.reduceMul, Nat.reduceSub, ↓reduceIte, decide_true, decide_false, Bool.true_eq_false, Bool.false_eq_true, Bool.not_true, Bool.not_false, if_true, if_false, and_true, true_and, memE, celE, w64, Nat.zero_add, Nat.add_zero, Nat.mul_one, putL, and_self, goC_both, row_aeq, ldn, goC_goto, goX_seq_goto, goX_block_goto, goX_scope_goto, sc_find, goJ_some]
              have hlo' : p.lo (-10) = p.floor := by unfold Pr.lo; omega
              have hme := next_turn htl (fl := p.floor) (a := (10 - x).toNat * 21 + (10 - y).toNat) hfl.1 (by rw [← Nat.add_assoc]; exact hf)
              refine ih (t + 1) (-10) p.floor _ _ id5 id6 rfl ((hX1.app nr3).put (by omega) _ _) (OwnB.set_ne (hb1.ext n3) (by omega) _) (h53.set_self _ _) (OwnB.set_ne (h61.ext n3) hne _) hne h5m h6m (by simp only [put_t, put_t', put_m, putT_t, putT_t', putT_m, init_t, init_m, initT_0, initT_1, initT_2, initT_3, initT_4, initT_5, initT_6, initT_7, initT_8, Nat.reduceEqDiff, ↓reduceIte, t1]) (by simp only [put_t, put_t', put_m, putT_t, putT_t', putT_m, init_t, init_m, initT_0, initT_1, initT_2, initT_3, initT_4, initT_5, initT_6, initT_7, initT_8, Nat.reduceEqDiff, ↓reduceIte, t2]) (by simp only [put_t, put_t', put_m, putT_t, putT_t', putT_m, init_t, init_m, initT_0, initT_1, initT_2, initT_3, initT_4, initT_5, initT_6, initT_7, initT_8, Nat.reduceEqDiff, ↓reduceIte, t5]) (by simp only [put_t, put_t', put_m, putT_t, putT_t', putT_m, init_t, init_m, initT_0, initT_1, initT_2, initT_3, initT_4, initT_5, initT_6, initT_7, initT_8, Nat.reduceEqDiff, ↓reduceIte, t6]) (by omega) (fun _ => ⟨by omega, by omega, by omega, by omega⟩) (fun _ => ⟨rfl, rfl⟩) (fun j hj => ?_) (fun _ i hi => absurd hi (by omega)) (fun _ z h1 h2 => absurd h2 (by omega)) hme
              by_cases e : j = t
              · rw [e]; exact hut
              · exact hall j (by omega)
      · exact fin (f + 1) t x y s M id5 id6 tm hX h5 h6 t5 t6 (by omega) (hend (by omega)) hall
  rw [hQ] at rest
  obtain ⟨F, hF⟩ : ∃ F, F = N * 462 + 1000 := ⟨_, rfl⟩
  simp (config := {implicitDefEqProofs := false, maxDischargeDepth := 20}) (disch := first | omega | (simp only [lenE]; done) | (simp only [lenE]; omega) | rfl | (simp only [lenE, markR_len]; done) | (simp only [lenE, markR_len]; omega)) only [runE, listE, initT_5, initT_6, initT_7, initT_8, resV, oneV, binA, unA, reduceCtorEq, Nat.reduceEqDiff, Nat.reduceAdd, Nat.reduceLT, Nat.reduceLeDiff, Nat.reduceMul, Nat.reduceSub, ↓reduceIte, decide_true, decide_false, Bool.true_eq_false, Bool.false_eq_true, Bool.not_true, Bool.not_false, if_true, if_false, and_true, true_and, memE, celE, w64, Nat.zero_add, Nat.add_zero, Nat.mul_one, putL, and_self, goC_both, row_aeq, ldn, c_impl_noMoveCostsLess, r_impl_noMoveCostsLess, goC_scope]
  refine scope_run mixed F ?_
  change goC _ _ _ (.scope F scC (.done (bodyQ r_impl_noMoveCostsLess (newQ m (AnsV (.bool ((List.range N).all (underB p T)))))))) _
  simp (config := {implicitDefEqProofs := false, maxDischargeDepth := 20}) (disch := first | omega | (simp only [lenE]; done) | (simp only [lenE]; omega) | rfl | (simp only [lenE, markR_len]; done) | (simp only [lenE, markR_len]; omega)) only [runE, listE, initT_5, initT_6, initT_7, initT_8, resV, oneV, binA, unA, reduceCtorEq, Nat.reduceEqDiff, Nat.reduceAdd, Nat.reduceLT, Nat.reduceLeDiff, Nat.reduceMul, Nat.reduceSub, ↓reduceIte, decide_true, decide_false, Bool.true_eq_false, Bool.false_eq_true, Bool.not_true, Bool.not_false, if_true, if_false, and_true, true_and, memE, celE, w64, Nat.zero_add, Nat.add_zero, Nat.mul_one, putL, and_self, goC_both, row_aeq, ldn]
  repeat' (with_reducible apply And.intro)
  all_goals
    refine rcallH_rc (firstMove_rc _ _ p 0 (ProcA.mk (by repeat (first | exact hu | apply IntsA.ext))) hlen.2) ?_
    rintro r n1 ⟨rfl, nr1⟩
    simp (config := {implicitDefEqProofs := false, maxDischargeDepth := 20}) (disch := first | omega | (simp only [lenE]; done) | (simp only [lenE]; omega) | rfl | (simp only [lenE, markR_len]; done) | (simp only [lenE, markR_len]; omega)) only [runE, listE, initT_5, initT_6, initT_7, initT_8, resV, oneV, binA, unA, reduceCtorEq, Nat.reduceEqDiff, Nat.reduceAdd, Nat.reduceLT, Nat.reduceLeDiff, Nat.reduceMul, Nat.reduceSub, ↓reduceIte, decide_true, decide_false, Bool.true_eq_false, Bool.false_eq_true, Bool.not_true, Bool.not_false, if_true, if_false, and_true, true_and, memE, celE, w64, Nat.zero_add, Nat.add_zero, Nat.mul_one, putL, and_self, goC_both, row_aeq, ldn]
    repeat' (with_reducible apply And.intro)
  all_goals
    refine rcallH_rc (firstMove_rc _ _ p p.turns (ProcA.mk (by repeat (first | exact hu | apply IntsA.ext))) hlen.2) ?_
    rintro r n2 ⟨rfl, nr2⟩
    simp (config := {implicitDefEqProofs := false, maxDischargeDepth := 20}) (disch := first | omega | (simp only [lenE]; done) | (simp only [lenE]; omega) | rfl | (simp only [lenE, markR_len]; done) | (simp only [lenE, markR_len]; omega)) only [runE, listE, initT_5, initT_6, initT_7, initT_8, resV, oneV, binA, unA, reduceCtorEq, Nat.reduceEqDiff, Nat.reduceAdd, Nat.reduceLT, Nat.reduceLeDiff, Nat.reduceMul, Nat.reduceSub, ↓reduceIte, decide_true, decide_false, Bool.true_eq_false, Bool.false_eq_true, Bool.not_true, Bool.not_false, if_true, if_false, and_true, true_and, memE, celE, w64, Nat.zero_add, Nat.add_zero, Nat.mul_one, putL, and_self, goC_both, row_aeq, ldn]
    repeat' (with_reducible apply And.intro)
  all_goals
    refine lab_rest ?_
    refine rest F 0 (-10) p.floor _ _ _ _ rfl ?_ ?_ ?_ ?_ ?_ ?_ ?_ rfl rfl rfl rfl (by omega) (fun _ => ⟨by omega, by omega, ?_, by omega⟩) (fun _ => ⟨rfl, rfl⟩) (fun j hj => absurd hj (by omega)) (fun _ i hi => absurd hi (by omega)) (fun _ z h1 h2 => absurd h2 ?_) (by omega)
    · repeat (first | exact Ext.refl m | apply Ext.one | refine Ext.app ?_ (by assumption))
    · repeat (first | exact OwnB.here (by simp [roM_len] <;> omega) | exact OwnB.here (by simp [roM_len]) | refine OwnB.ext ?_ _)
    · repeat (first | exact OwnB.here (by simp [roM_len] <;> omega) | exact OwnB.here (by simp [roM_len]) | refine OwnB.ext ?_ _)
    · rw [← hNt]
      repeat (first | exact OwnB.here (by simp [roM_len] <;> omega) | exact OwnB.here (by simp [roM_len]) | refine OwnB.ext ?_ _)
    · omega
    · omega
    · omega
    · unfold Pr.lo; omega
    · unfold Pr.lo at h1; omega
theorem implProof6Z_rc (m : Mem) (v vt : Value) (p : Pr) (T : List (List Int)) (h : ProcA m v p) (hT : TabZ m vt T) : RC Try.prog 15 [v, vt] m (AnsV (.tuple #[.bool (p.good && proofB p T), .bool p.good])) := by
  refine rc_of_run mixed ok_impl_IsWorthProof (by simp) (go_start _ _ _ ?_)
  obtain ⟨u, rfl, hu⟩ := h.ro
  simp (config := {implicitDefEqProofs := false, maxDischargeDepth := 20}) (disch := first | omega | (simp only [lenE]; done) | (simp only [lenE]; omega) | rfl | (simp only [lenE, markR_len]; done) | (simp only [lenE, markR_len]; omega)) only [runE, mapE, listE, initT_5, initT_6, initT_7, initT_8, resV, oneV, binA, unA, reduceCtorEq, Nat.reduceEqDiff, Nat.reduceAdd, Nat.reduceLT, Nat.reduceLeDiff, Nat.reduceMul, Nat.reduceSub, ↓reduceIte, decide_true, decide_false, Bool.true_eq_false, Bool.false_eq_true, Bool.not_true, Bool.not_false, if_true, if_false, and_true, true_and, memE, celE, w64, Nat.zero_add, Nat.add_zero, Nat.mul_one, putL, and_self, ldn, c_impl_IsWorthProof, r_impl_IsWorthProof]
  refine callH_rc (implIsProcess_rc _ _ p (ProcA.mk (hu.ext _))) ?_
  rintro r n1 ⟨rfl, nr1⟩
  cases hg : p.good with
  | false =>
    simp (config := {implicitDefEqProofs := false, maxDischargeDepth := 20}) (disch := first | omega | (simp only [lenE]; done) | (simp only [lenE]; omega) | rfl | (simp only [lenE, markR_len]; done) | (simp only [lenE, markR_len]; omega)) only [runE, mapE, listE, initT_5, initT_6, initT_7, initT_8, resV, oneV, binA, unA, reduceCtorEq, Nat.reduceEqDiff, Nat.reduceAdd, Nat.reduceLT, Nat.reduceLeDiff, Nat.reduceMul, Nat.reduceSub, ↓reduceIte, decide_true, decide_false, Bool.true_eq_false, Bool.false_eq_true, Bool.not_true, Bool.not_false, if_true, if_false, and_true, true_and, memE, celE, w64, Nat.zero_add, Nat.add_zero, Nat.mul_one, putL, and_self, ldn]
    try simp only [List.append_assoc, List.cons_append, List.nil_append, List.append_nil]
    exact ⟨_, rfl, by (repeat (first | exact noRo_nil | assumption | apply noRo_own | apply noRo_dead | apply noRo_app)), by simp, by (repeat (first | exact noRo_nil | assumption | apply noRo_own | apply noRo_dead | apply noRo_app))⟩
  | true =>
    have hG := goodP_iff.1 hg
    simp (config := {implicitDefEqProofs := false, maxDischargeDepth := 20}) (disch := first | omega | (simp only [lenE]; done) | (simp only [lenE]; omega) | rfl | (simp only [lenE, markR_len]; done) | (simp only [lenE, markR_len]; omega)) only [runE, mapE, listE, initT_5, initT_6, initT_7, initT_8, resV, oneV, binA, unA, reduceCtorEq, Nat.reduceEqDiff, Nat.reduceAdd, Nat.reduceLT, Nat.reduceLeDiff, Nat.reduceMul, Nat.reduceSub, ↓reduceIte, decide_true, decide_false, Bool.true_eq_false, Bool.false_eq_true, Bool.not_true, Bool.not_false, if_true, if_false, and_true, true_and, memE, celE, w64, Nat.zero_add, Nat.add_zero, Nat.mul_one, putL, and_self, ldn]
    refine callH_rc (isValueTable_rc _ _ vt p T (ProcA.mk ((hu.ext _).ext _)) ((hT.ro.ext _).ext _) hG) ?_
    rintro r n2 ⟨rfl, nr2⟩
    cases hc : (tabVB p T && lastB p T) with
    | false =>
      simp (config := {implicitDefEqProofs := false, maxDischargeDepth := 20}) (disch := first | omega | (simp only [lenE]; done) | (simp only [lenE]; omega) | rfl | (simp only [lenE, markR_len]; done) | (simp only [lenE, markR_len]; omega)) only [runE, mapE, listE, initT_5, initT_6, initT_7, initT_8, resV, oneV, binA, unA, reduceCtorEq, Nat.reduceEqDiff, Nat.reduceAdd, Nat.reduceLT, Nat.reduceLeDiff, Nat.reduceMul, Nat.reduceSub, ↓reduceIte, decide_true, decide_false, Bool.true_eq_false, Bool.false_eq_true, Bool.not_true, Bool.not_false, if_true, if_false, and_true, true_and, memE, celE, w64, Nat.zero_add, Nat.add_zero, Nat.mul_one, putL, and_self, ldn]
      try simp only [List.append_assoc, List.cons_append, List.nil_append, List.append_nil]
      exact ⟨_, rfl, by (repeat (first | exact noRo_nil | assumption | apply noRo_own | apply noRo_dead | apply noRo_app)), by simp [proofB, hc], by (repeat (first | exact noRo_nil | assumption | apply noRo_own | apply noRo_dead | apply noRo_app))⟩
    | true =>
      have hv : tabVB p T = true := by
        rw [Bool.and_eq_true] at hc; exact hc.1
      simp (config := {implicitDefEqProofs := false, maxDischargeDepth := 20}) (disch := first | omega | (simp only [lenE]; done) | (simp only [lenE]; omega) | rfl | (simp only [lenE, markR_len]; done) | (simp only [lenE, markR_len]; omega)) only [runE, mapE, listE, initT_5, initT_6, initT_7, initT_8, resV, oneV, binA, unA, reduceCtorEq, Nat.reduceEqDiff, Nat.reduceAdd, Nat.reduceLT, Nat.reduceLeDiff, Nat.reduceMul, Nat.reduceSub, ↓reduceIte, decide_true, decide_false, Bool.true_eq_false, Bool.false_eq_true, Bool.not_true, Bool.not_false, if_true, if_false, and_true, true_and, memE, celE, w64, Nat.zero_add, Nat.add_zero, Nat.mul_one, putL, and_self, ldn]
      refine callH_rc (noMove_rc _ _ vt p T (ProcA.mk (((hu.ext _).ext _).ext _)) (((hT.ro.ext _).ext _).ext _) hG hv) ?_
      rintro r n3 ⟨rfl, nr3⟩
      simp (config := {implicitDefEqProofs := false, maxDischargeDepth := 20}) (disch := first | omega | (simp only [lenE]; done) | (simp only [lenE]; omega) | rfl | (simp only [lenE, markR_len]; done) | (simp only [lenE, markR_len]; omega)) only [runE, mapE, listE, initT_5, initT_6, initT_7, initT_8, resV, oneV, binA, unA, reduceCtorEq, Nat.reduceEqDiff, Nat.reduceAdd, Nat.reduceLT, Nat.reduceLeDiff, Nat.reduceMul, Nat.reduceSub, ↓reduceIte, decide_true, decide_false, Bool.true_eq_false, Bool.false_eq_true, Bool.not_true, Bool.not_false, if_true, if_false, and_true, true_and, memE, celE, w64, Nat.zero_add, Nat.add_zero, Nat.mul_one, putL, and_self, ldn]
      try simp only [List.append_assoc, List.cons_append, List.nil_append, List.append_nil]
      exact ⟨_, rfl, by (repeat (first | exact noRo_nil | assumption | apply noRo_own | apply noRo_dead | apply noRo_app)), by simp [proofB, hc], by (repeat (first | exact noRo_nil | assumption | apply noRo_own | apply noRo_dead | apply noRo_app))⟩
end Go.Proofs.Ytckpfgkgigicpaa.Ab
end
section
namespace Go.Proofs.Ytckpfgkgigicpaa.Ab
open Go Go.RowKit Go.Proofs
set_option maxRecDepth 100000
def c_laws_FnLevels : ACode := .seq (.reg [⟨(some 2), .mv (.const (.bool false)), none⟩])
 (.seq (.seq (.reg [⟨(some 38), .mv (.tmp 0), none⟩,
  ⟨(some 39), .call (.func 4) [(.tmp 38)], none⟩])
 (.cond (.tmp 39) (.seq (.reg [⟨(some 2), .mv (.const (.bool true)), none⟩])
 (.ret)) (.skip)))
 (.seq (.reg [⟨(some 41), .mv (.tmp 0), none⟩,
  ⟨(some 42), .call (.func 5) [(.tmp 41)], none⟩,
  ⟨(some 40), .mv (.tmp 42), none⟩,
  ⟨(some 43), .ext 0 (.tmp 40), none⟩,
  ⟨(some 44), .ext 1 (.tmp 40), none⟩,
  ⟨(some 45), .ext 2 (.tmp 40), none⟩,
  ⟨(some 3), .alc 26 [(.int .i64 0), (.slice none 0 0), (.int .i64 0), (.int .i64 0), (.int .i64 0), (.int .i64 0)], none⟩,
  ⟨none, .st 6 (.tmp 3) (.tmp 43), none⟩,
  ⟨(some 4), .mv (.tmp 44), none⟩,
  ⟨(some 5), .mv (.tmp 45), none⟩])
 (.seq (.reg [⟨(some 47), .ld (some 6) (.tmp 3), none⟩,
  ⟨(some 48), .mv (.tmp 4), none⟩,
  ⟨(some 49), .mv (.tmp 5), none⟩,
  ⟨(some 50), .call (.func 6) [(.tmp 47), (.tmp 48), (.tmp 49)], none⟩,
  ⟨(some 46), .mv (.tmp 50), none⟩,
  ⟨(some 51), .ext 0 (.tmp 46), none⟩,
  ⟨(some 52), .ext 1 (.tmp 46), none⟩,
  ⟨(some 6), .mv (.tmp 51), none⟩,
  ⟨(some 7), .mv (.tmp 52), none⟩])
 (.seq (.seq (.reg [⟨(some 54), .ld (some 6) (.tmp 3), none⟩,
  ⟨(some 55), .mv (.tmp 4), none⟩,
  ⟨(some 56), .mv (.tmp 5), none⟩,
  ⟨(some 57), .call (.func 7) [(.tmp 54), (.tmp 55), (.tmp 56)], none⟩,
  ⟨(some 53), .mv (.tmp 57), none⟩,
  ⟨(some 58), .ext 0 (.tmp 53), none⟩,
  ⟨(some 59), .ext 1 (.tmp 53), none⟩,
  ⟨(some 8), .mv (.tmp 58), none⟩,
  ⟨(some 9), .mv (.tmp 59), none⟩])
 (.seq (.reg [⟨(some 60), .mv (.tmp 6), none⟩,
  ⟨(some 61), .mv (.tmp 8), none⟩,
  ⟨(some 62), .bin .neq (.tmp 60) (.tmp 61), none⟩,
  ⟨(some 63), .mv (.tmp 62), none⟩,
  ⟨(some 64), .mv (.tmp 7), (some (63, false))⟩,
  ⟨(some 65), .mv (.tmp 9), (some (63, false))⟩,
  ⟨(some 66), .beq true (.tmp 64) (.tmp 65), (some (63, false))⟩,
  ⟨(some 67), .pick (.tmp 63) (.const (.bool true)) (.tmp 66), none⟩])
 (.cond (.tmp 67) (.seq (.reg [⟨(some 2), .mv (.const (.bool false)), none⟩])
 (.ret)) (.skip))))
 (.seq (.reg [⟨(some 69), .ld (some 6) (.tmp 3), none⟩,
  ⟨(some 70), .mv (.tmp 4), none⟩,
  ⟨(some 71), .call (.func 8) [(.tmp 69), (.tmp 70)], none⟩,
  ⟨(some 68), .mv (.tmp 71), none⟩,
  ⟨(some 72), .ext 0 (.tmp 68), none⟩,
  ⟨(some 73), .ext 1 (.tmp 68), none⟩,
  ⟨(some 10), .mv (.tmp 72), none⟩,
  ⟨(some 11), .mv (.tmp 73), none⟩])
 (.seq (.seq (.reg [⟨(some 75), .ld (some 6) (.tmp 3), none⟩,
  ⟨(some 76), .mv (.tmp 4), none⟩,
  ⟨(some 77), .call (.func 9) [(.tmp 75), (.tmp 76)], none⟩,
  ⟨(some 74), .mv (.tmp 77), none⟩,
  ⟨(some 78), .ext 0 (.tmp 74), none⟩,
  ⟨(some 79), .ext 1 (.tmp 74), none⟩,
  ⟨(some 12), .mv (.tmp 78), none⟩,
  ⟨(some 13), .mv (.tmp 79), none⟩])
 (.seq (.reg [⟨(some 80), .mv (.tmp 11), none⟩,
  ⟨(some 81), .mv (.tmp 13), none⟩,
  ⟨(some 82), .beq true (.tmp 80) (.tmp 81), none⟩,
  ⟨(some 83), .mv (.tmp 82), none⟩,
  ⟨(some 84), .mv (.tmp 7), (some (83, false))⟩,
  ⟨(some 85), .mv (.tmp 84), (some (83, false))⟩,
  ⟨(some 86), .mv (.tmp 11), (some (85, true))⟩,
  ⟨(some 87), .un .not (.tmp 86), (some (85, true))⟩,
  ⟨(some 88), .pick (.tmp 85) (.tmp 87) (.const (.bool false)), (some (83, false))⟩,
  ⟨(some 89), .pick (.tmp 83) (.const (.bool true)) (.tmp 88), none⟩,
  ⟨(some 90), .mv (.tmp 89), none⟩,
  ⟨(some 91), .mv (.tmp 10), (some (90, false))⟩,
  ⟨(some 92), .mv (.tmp 12), (some (90, false))⟩,
  ⟨(some 93), .call (.func 10) [(.tmp 91), (.tmp 92)], (some (90, false))⟩,
  ⟨(some 94), .un .not (.tmp 93), (some (90, false))⟩,
  ⟨(some 95), .pick (.tmp 90) (.const (.bool true)) (.tmp 94), none⟩])
 (.cond (.tmp 95) (.seq (.reg [⟨(some 2), .mv (.const (.bool false)), none⟩])
 (.ret)) (.skip))))
 (.seq (.reg [⟨(some 97), .mv (.tmp 0), none⟩,
  ⟨(some 98), .call (.func 11) [(.tmp 97)], none⟩,
  ⟨(some 96), .mv (.tmp 98), none⟩,
  ⟨(some 99), .ext 0 (.tmp 96), none⟩,
  ⟨(some 100), .ext 1 (.tmp 96), none⟩,
  ⟨(some 14), .mv (.tmp 99), none⟩,
  ⟨(some 15), .mv (.tmp 100), none⟩])
 (.seq (.reg [⟨(some 102), .mv (.tmp 14), none⟩,
  ⟨(some 103), .mv (.tmp 15), none⟩,
  ⟨(some 104), .call (.func 12) [(.tmp 102), (.tmp 103)], none⟩,
  ⟨(some 101), .mv (.tmp 104), none⟩,
  ⟨(some 105), .ext 0 (.tmp 101), none⟩,
  ⟨(some 106), .ext 1 (.tmp 101), none⟩,
  ⟨(some 16), .mv (.tmp 105), none⟩,
  ⟨(some 17), .mv (.tmp 106), none⟩])
 (.seq (.seq (.reg [⟨(some 108), .mv (.tmp 14), none⟩,
  ⟨(some 109), .mv (.tmp 15), none⟩,
  ⟨(some 110), .call (.func 13) [(.tmp 108), (.tmp 109)], none⟩,
  ⟨(some 107), .mv (.tmp 110), none⟩,
  ⟨(some 111), .ext 0 (.tmp 107), none⟩,
  ⟨(some 112), .ext 1 (.tmp 107), none⟩,
  ⟨(some 18), .mv (.tmp 111), none⟩,
  ⟨(some 19), .mv (.tmp 112), none⟩])
 (.seq (.reg [⟨(some 113), .mv (.tmp 16), none⟩,
  ⟨(some 114), .mv (.tmp 18), none⟩,
  ⟨(some 115), .beq true (.tmp 113) (.tmp 114), none⟩,
  ⟨(some 116), .mv (.tmp 115), none⟩,
  ⟨(some 117), .mv (.tmp 17), (some (116, false))⟩,
  ⟨(some 118), .mv (.tmp 19), (some (116, false))⟩,
  ⟨(some 119), .beq true (.tmp 117) (.tmp 118), (some (116, false))⟩,
  ⟨(some 120), .pick (.tmp 116) (.const (.bool true)) (.tmp 119), none⟩])
 (.cond (.tmp 120) (.seq (.reg [⟨(some 2), .mv (.const (.bool false)), none⟩])
 (.ret)) (.skip))))
 (.seq (.reg [⟨(some 122), .mv (.tmp 0), none⟩,
  ⟨(some 123), .call (.func 14) [(.tmp 122)], none⟩,
  ⟨(some 121), .mv (.tmp 123), none⟩,
  ⟨(some 124), .ext 0 (.tmp 121), none⟩,
  ⟨(some 125), .ext 1 (.tmp 121), none⟩,
  ⟨(some 20), .alc 26 [(.int .i64 0), (.slice none 0 0), (.int .i64 0), (.int .i64 0), (.int .i64 0), (.int .i64 0)], none⟩,
  ⟨none, .st 6 (.tmp 20) (.tmp 124), none⟩,
  ⟨(some 21), .mv (.tmp 125), none⟩])
 (.seq (.reg [⟨(some 127), .ld (some 6) (.tmp 20), none⟩,
  ⟨(some 128), .mv (.tmp 21), none⟩,
  ⟨(some 129), .call (.func 15) [(.tmp 127), (.tmp 128)], none⟩,
  ⟨(some 126), .mv (.tmp 129), none⟩,
  ⟨(some 130), .ext 0 (.tmp 126), none⟩,
  ⟨(some 131), .ext 1 (.tmp 126), none⟩,
  ⟨(some 22), .mv (.tmp 130), none⟩,
  ⟨(some 23), .mv (.tmp 131), none⟩])
 (.seq (.seq (.reg [⟨(some 133), .ld (some 6) (.tmp 20), none⟩,
  ⟨(some 134), .mv (.tmp 21), none⟩,
  ⟨(some 135), .call (.func 16) [(.tmp 133), (.tmp 134)], none⟩,
  ⟨(some 132), .mv (.tmp 135), none⟩,
  ⟨(some 136), .ext 0 (.tmp 132), none⟩,
  ⟨(some 137), .ext 1 (.tmp 132), none⟩,
  ⟨(some 24), .mv (.tmp 136), none⟩,
  ⟨(some 25), .mv (.tmp 137), none⟩])
 (.seq (.reg [⟨(some 138), .mv (.tmp 22), none⟩,
  ⟨(some 139), .mv (.tmp 24), none⟩,
  ⟨(some 140), .beq true (.tmp 138) (.tmp 139), none⟩,
  ⟨(some 141), .mv (.tmp 140), none⟩,
  ⟨(some 142), .mv (.tmp 23), (some (141, false))⟩,
  ⟨(some 143), .mv (.tmp 25), (some (141, false))⟩,
  ⟨(some 144), .beq true (.tmp 142) (.tmp 143), (some (141, false))⟩,
  ⟨(some 145), .pick (.tmp 141) (.const (.bool true)) (.tmp 144), none⟩])
 (.cond (.tmp 145) (.seq (.reg [⟨(some 2), .mv (.const (.bool false)), none⟩])
 (.ret)) (.skip))))
 (.seq (.seq (.reg [⟨(some 146), .mv (.tmp 22), none⟩])
 (.cond (.tmp 146) (.seq (.reg [⟨(some 148), .ld (some 6) (.tmp 20), none⟩,
  ⟨(some 149), .call (.func 17) [(.tmp 148)], none⟩,
  ⟨(some 147), .mv (.tmp 149), none⟩,
  ⟨(some 150), .ext 0 (.tmp 147), none⟩,
  ⟨(some 151), .ext 1 (.tmp 147), none⟩,
  ⟨(some 26), .mv (.tmp 150), none⟩,
  ⟨(some 27), .mv (.tmp 151), none⟩])
 (.seq (.seq (.reg [⟨(some 153), .ld (some 6) (.tmp 20), none⟩,
  ⟨(some 154), .call (.func 18) [(.tmp 153)], none⟩,
  ⟨(some 152), .mv (.tmp 154), none⟩,
  ⟨(some 155), .ext 0 (.tmp 152), none⟩,
  ⟨(some 156), .ext 1 (.tmp 152), none⟩,
  ⟨(some 28), .mv (.tmp 155), none⟩,
  ⟨(some 29), .mv (.tmp 156), none⟩])
 (.seq (.reg [⟨(some 157), .mv (.tmp 27), none⟩,
  ⟨(some 158), .un .not (.tmp 157), none⟩,
  ⟨(some 159), .mv (.tmp 158), none⟩,
  ⟨(some 160), .mv (.tmp 29), (some (159, false))⟩,
  ⟨(some 161), .un .not (.tmp 160), (some (159, false))⟩,
  ⟨(some 162), .pick (.tmp 159) (.const (.bool true)) (.tmp 161), none⟩,
  ⟨(some 163), .mv (.tmp 162), none⟩,
  ⟨(some 164), .mv (.tmp 26), (some (163, false))⟩,
  ⟨(some 165), .mv (.tmp 28), (some (163, false))⟩,
  ⟨(some 166), .call (.func 19) [(.tmp 164), (.tmp 165)], (some (163, false))⟩,
  ⟨(some 167), .un .not (.tmp 166), (some (163, false))⟩,
  ⟨(some 168), .pick (.tmp 163) (.const (.bool true)) (.tmp 167), none⟩])
 (.cond (.tmp 168) (.seq (.reg [⟨(some 2), .mv (.const (.bool false)), none⟩])
 (.ret)) (.skip))))
 (.seq (.reg [⟨(some 30), .mv (.const (.int .i64 0)), none⟩])
 (.block 0 (.loop (.seq (.seq (.reg [⟨(some 169), .mv (.tmp 30), none⟩,
  ⟨(some 170), .mv (.tmp 26), none⟩,
  ⟨(some 171), .iad 1 (.tmp 170) (.const (.int .i64 0)), none⟩,
  ⟨(some 172), .ld none (.tmp 171), none⟩,
  ⟨(some 173), .len (.tmp 172), none⟩,
  ⟨(some 174), .bin .lss (.tmp 169) (.tmp 173), none⟩])
 (.cond (.tmp 174) (.skip) (.exit 0)))
 (.seq (.block 1 (.seq (.reg [⟨(some 177), .mv (.tmp 21), none⟩,
  ⟨(some 178), .iad 1 (.tmp 177) (.const (.int .i64 0)), none⟩,
  ⟨(some 179), .ld none (.tmp 178), none⟩,
  ⟨(some 180), .mv (.tmp 30), none⟩,
  ⟨(some 181), .iad 1 (.tmp 179) (.tmp 180), none⟩,
  ⟨(some 182), .ld none (.tmp 181), none⟩,
  ⟨(some 183), .mv (.tmp 26), none⟩,
  ⟨(some 184), .iad 1 (.tmp 183) (.const (.int .i64 0)), none⟩,
  ⟨(some 185), .ld none (.tmp 184), none⟩,
  ⟨(some 186), .mv (.tmp 30), none⟩,
  ⟨(some 187), .iad 1 (.tmp 185) (.tmp 186), none⟩,
  ⟨(some 188), .ld none (.tmp 187), none⟩,
  ⟨(some 189), .bin .gtr (.tmp 182) (.tmp 188), none⟩])
 (.cond (.tmp 189) (.seq (.reg [⟨(some 2), .mv (.const (.bool false)), none⟩])
 (.ret)) (.skip))))
 (.reg [⟨(some 175), .mv (.tmp 30), none⟩,
  ⟨(some 176), .bin .add (.tmp 175) (.const (.int .i64 1)), none⟩,
  ⟨(some 30), .mv (.tmp 176), none⟩])))))))) (.skip)))
 (.seq (.seq (.reg [⟨(some 190), .mv (.tmp 7), none⟩,
  ⟨(some 191), .un .not (.tmp 190), none⟩])
 (.cond (.tmp 191) (.seq (.reg [⟨(some 2), .mv (.const (.bool true)), none⟩])
 (.ret)) (.skip)))
 (.seq (.reg [⟨(some 193), .ld (some 6) (.tmp 3), none⟩,
  ⟨(some 194), .call (.func 20) [(.tmp 193)], none⟩,
  ⟨(some 192), .mv (.tmp 194), none⟩,
  ⟨(some 195), .ext 0 (.tmp 192), none⟩,
  ⟨(some 196), .ext 1 (.tmp 192), none⟩,
  ⟨(some 31), .mv (.tmp 195), none⟩,
  ⟨(some 32), .mv (.tmp 196), none⟩])
 (.seq (.seq (.reg [⟨(some 198), .ld (some 6) (.tmp 3), none⟩,
  ⟨(some 199), .call (.func 21) [(.tmp 198)], none⟩,
  ⟨(some 197), .mv (.tmp 199), none⟩,
  ⟨(some 200), .ext 0 (.tmp 197), none⟩,
  ⟨(some 201), .ext 1 (.tmp 197), none⟩,
  ⟨(some 33), .mv (.tmp 200), none⟩,
  ⟨(some 34), .mv (.tmp 201), none⟩])
 (.seq (.reg [⟨(some 202), .mv (.tmp 32), none⟩,
  ⟨(some 203), .un .not (.tmp 202), none⟩,
  ⟨(some 204), .mv (.tmp 203), none⟩,
  ⟨(some 205), .mv (.tmp 34), (some (204, false))⟩,
  ⟨(some 206), .un .not (.tmp 205), (some (204, false))⟩,
  ⟨(some 207), .pick (.tmp 204) (.const (.bool true)) (.tmp 206), none⟩,
  ⟨(some 208), .mv (.tmp 207), none⟩,
  ⟨(some 209), .mv (.tmp 31), (some (208, false))⟩,
  ⟨(some 210), .mv (.tmp 33), (some (208, false))⟩,
  ⟨(some 211), .call (.func 22) [(.tmp 209), (.tmp 210)], (some (208, false))⟩,
  ⟨(some 212), .un .not (.tmp 211), (some (208, false))⟩,
  ⟨(some 213), .pick (.tmp 208) (.const (.bool true)) (.tmp 212), none⟩])
 (.cond (.tmp 213) (.seq (.reg [⟨(some 2), .mv (.const (.bool false)), none⟩])
 (.ret)) (.skip))))
 (.seq (.reg [⟨(some 214), .mv (.tmp 31), none⟩,
  ⟨(some 215), .mv (.tmp 4), none⟩,
  ⟨(some 216), .iad 2 (.tmp 214) (.tmp 215), none⟩,
  ⟨(some 217), .ld (some 2) (.tmp 216), none⟩,
  ⟨(some 35), .alc 49 [(.int .i64 0), (.int .i64 0)], none⟩,
  ⟨none, .st 2 (.tmp 35) (.tmp 217), none⟩])
 (.seq (.reg [⟨(some 218), .fad 1 (.tmp 3), none⟩,
  ⟨(some 219), .ld none (.tmp 218), none⟩,
  ⟨(some 220), .len (.tmp 219), none⟩,
  ⟨(some 221), .bin .sub (.tmp 220) (.const (.int .i64 1)), none⟩,
  ⟨(some 222), .bin .sub (.tmp 221) (.const (.int .i64 10)), none⟩,
  ⟨(some 36), .mv (.tmp 222), none⟩])
 (.seq (.seq (.reg [⟨(some 223), .mv (.tmp 5), none⟩,
  ⟨(some 224), .iada 1 2 (.tmp 35) (.const (.int .i64 0)), none⟩,
  ⟨(some 225), .ld none (.tmp 224), none⟩,
  ⟨(some 226), .bin .lss (.tmp 223) (.tmp 225), none⟩])
 (.cond (.tmp 226) (.seq (.reg [⟨(some 227), .mv (.tmp 6), none⟩,
  ⟨(some 228), .iada 1 2 (.tmp 35) (.const (.int .i64 1)), none⟩,
  ⟨(some 229), .ld none (.tmp 228), none⟩,
  ⟨(some 230), .bin .eql (.tmp 227) (.tmp 229), none⟩,
  ⟨(some 2), .mv (.tmp 230), none⟩])
 (.ret)) (.skip)))
 (.seq (.seq (.reg [⟨(some 37), .mv (.const (.int .i64 0)), none⟩])
 (.block 2 (.loop (.seq (.seq (.reg [⟨(some 231), .mv (.tmp 37), none⟩,
  ⟨(some 232), .mv (.tmp 10), none⟩,
  ⟨(some 233), .len (.tmp 232), none⟩,
  ⟨(some 234), .bin .lss (.tmp 231) (.tmp 233), none⟩])
 (.cond (.tmp 234) (.skip) (.exit 2)))
 (.seq (.block 3 (.seq (.reg [⟨(some 237), .mv (.tmp 10), none⟩,
  ⟨(some 238), .mv (.tmp 37), none⟩,
  ⟨(some 239), .iad 1 (.tmp 237) (.tmp 238), none⟩,
  ⟨(some 240), .ld none (.tmp 239), none⟩,
  ⟨(some 241), .mv (.tmp 10), none⟩,
  ⟨(some 242), .iada 1 2 (.tmp 35) (.const (.int .i64 1)), none⟩,
  ⟨(some 243), .ld none (.tmp 242), none⟩,
  ⟨(some 244), .mv (.tmp 36), none⟩,
  ⟨(some 245), .bin .sub (.tmp 243) (.tmp 244), none⟩,
  ⟨(some 246), .iad 1 (.tmp 241) (.tmp 245), none⟩,
  ⟨(some 247), .ld none (.tmp 246), none⟩,
  ⟨(some 248), .bin .lss (.tmp 240) (.tmp 247), none⟩])
 (.cond (.tmp 248) (.seq (.reg [⟨(some 2), .mv (.const (.bool false)), none⟩])
 (.ret)) (.skip))))
 (.reg [⟨(some 235), .mv (.tmp 37), none⟩,
  ⟨(some 236), .bin .add (.tmp 235) (.const (.int .i64 1)), none⟩,
  ⟨(some 37), .mv (.tmp 236), none⟩]))))))
 (.seq (.reg [⟨(some 249), .mv (.tmp 6), none⟩,
  ⟨(some 250), .mv (.tmp 5), none⟩,
  ⟨(some 251), .bin .eql (.tmp 249) (.tmp 250), none⟩,
  ⟨(some 2), .mv (.tmp 251), none⟩])
 (.ret))))))))))))))))))))))
def r_laws_FnLevels : List ARes := [.tmp 2]
theorem ok_laws_FnLevels : FnOk Try.prog 3 252 c_laws_FnLevels r_laws_FnLevels := ⟨⟨Try.f3, _, Try.func3, by kernel_rfl, rfl, rfl, by kernel_rfl, by kernel_rfl⟩⟩
end Go.Proofs.Ytckpfgkgigicpaa.Ab
end
section
namespace Go.Proofs.Ytckpfgkgigicpaa.Ab
open Go Go.RowKit
set_option linter.unusedVariables false
set_option linter.unusedSimpArgs false
set_option maxRecDepth 100000
set_option maxHeartbeats 16000000 in
theorem law_FnLevels (l : List Int) (hb : ∀ x ∈ l, 0 ≤ x ∧ x ≤ 255) :
    AC Try.prog 3 [.slice (some ⟨0, 0, none⟩) l.length 0] [⟨.ro, 5, l.map (Value.int .u8)⟩] fun r _ => r = .bool true := by
  refine ac_of_run mixed ok_laws_FnLevels (by simp) (go_start _ _ _ ?_)
  simp (config := {implicitDefEqProofs := false, maxDischargeDepth := 20}) (disch := first | omega | (simp only [lenE]; done) | (simp only [lenE]; omega) | rfl | (simp only [lenE, markR_len]; done) | (simp only [lenE, markR_len]; omega)) only [runE, mapE, listE, initT_5, initT_6, initT_7, initT_8, resV, oneV, binA, unA, reduceCtorEq, Nat.reduceEqDiff, Nat.reduceAdd, Nat.reduceLT, Nat.reduceLeDiff, Nat.reduceMul, Nat.reduceSub, ↓reduceIte, decide_true, decide_false, Bool.true_eq_false, Bool.false_eq_true, Bool.not_true, Bool.not_false, if_true, if_false, and_true, true_and, memE, celE, w64, Nat.zero_add, Nat.add_zero, Nat.mul_one, putL, and_self, ldn, c_laws_FnLevels, r_laws_FnLevels]
  refine callH_rc (rBig_rc _ 0 0 l.length) ?_
  rintro r new ⟨rfl, rfl⟩
  by_cases hbig : 65536 < l.length
  · simp (config := {implicitDefEqProofs := false, maxDischargeDepth := 20}) (disch := first | omega | (simp only [lenE]; done) | (simp only [lenE]; omega) | rfl | (simp only [lenE, markR_len]; done) | (simp only [lenE, markR_len]; omega)) only [runE, mapE, listE, initT_5, initT_6, initT_7, initT_8, resV, oneV, binA, unA, reduceCtorEq, Nat.reduceEqDiff, Nat.reduceAdd, Nat.reduceLT, Nat.reduceLeDiff, Nat.reduceMul, Nat.reduceSub, ↓reduceIte, decide_true, decide_false, Bool.true_eq_false, Bool.false_eq_true, Bool.not_true, Bool.not_false, if_true, if_false, and_true, true_and, memE, celE, w64, Nat.zero_add, Nat.add_zero, Nat.mul_one, putL, and_self, ldn, decide_eq_true hbig]
  have hB : BytesA [⟨.ro, 5, l.map (Value.int .u8)⟩] 0 l := ⟨⟨.ro, by simp, rfl⟩, hb, by omega⟩
  obtain ⟨M0, hM0⟩ : ∃ M : Mem, M = [⟨.ro, 5, l.map (Value.int .u8)⟩] := ⟨_, rfl⟩
  rw [← hM0] at hB
  rw [List.append_nil, ← hM0]
  clear hM0
  simp (config := {implicitDefEqProofs := false, maxDischargeDepth := 20}) (disch := first | omega | (simp only [lenE]; done) | (simp only [lenE]; omega) | rfl | (simp only [lenE, markR_len]; done) | (simp only [lenE, markR_len]; omega)) only [runE, mapE, listE, initT_5, initT_6, initT_7, initT_8, resV, oneV, binA, unA, reduceCtorEq, Nat.reduceEqDiff, Nat.reduceAdd, Nat.reduceLT, Nat.reduceLeDiff, Nat.reduceMul, Nat.reduceSub, ↓reduceIte, decide_true, decide_false, Bool.true_eq_false, Bool.false_eq_true, Bool.not_true, Bool.not_false, if_true, if_false, and_true, true_and, memE, celE, w64, Nat.zero_add, Nat.add_zero, Nat.mul_one, putL, and_self, ldn, decide_eq_false hbig]
  refine callH_rc (DrawBestOrder_rc _ 0 0 l hB) ?_
  rintro r new ⟨nr, p, u, tq, xq, rfl, pl⟩
  have hu := pl.here
  have on := ones_proc hu
  have hB1 := hB.ext new
  obtain ⟨M1, hM1⟩ : ∃ M, M = M0 ++ new := ⟨_, rfl⟩
  rw [← hM1] at hu hB1 ⊢
  clear hM1 pl nr hB
  have s1 : stA (M1 ++ [(⟨.own, 26, [.int .i64 0, .slice none 0 0, .int .i64 0, .int .i64 0, .int .i64 0, .int .i64 0]⟩ : Blk)]) M1.length 0 (procC p u) = some (M1 ++ [⟨.own, 26, procC p u⟩]) := by
    rw [(OwnB.here rfl).st (by simp) on]
    simp [putL]
  have x1 : OwnB (M1 ++ [(⟨.own, 26, procC p u⟩ : Blk)]) M1.length 26 (procC p u) := OwnB.here rfl
  have u1 := hu.ext [(⟨.own, 26, procC p u⟩ : Blk)]
  have b1 := hB1.ext [(⟨.own, 26, procC p u⟩ : Blk)]
  simp (config := {implicitDefEqProofs := false, maxDischargeDepth := 20}) (disch := first | omega | (simp only [lenE]; done) | (simp only [lenE]; omega) | rfl | (simp only [lenE, markR_len]; done) | (simp only [lenE, markR_len]; omega)) only [runE, mapE, listE, initT_5, initT_6, initT_7, initT_8, resV, oneV, binA, unA, reduceCtorEq, Nat.reduceEqDiff, Nat.reduceAdd, Nat.reduceLT, Nat.reduceLeDiff, Nat.reduceMul, Nat.reduceSub, ↓reduceIte, decide_true, decide_false, Bool.true_eq_false, Bool.false_eq_true, Bool.not_true, Bool.not_false, if_true, if_false, and_true, true_and, memE, celE, w64, Nat.zero_add, Nat.add_zero, Nat.mul_one, putL, and_self, ldn, ext_3_0, ext_3_1, ext_3_2, stP_aggL, s1]
  clear s1 hu hB1 on
  generalize M1 ++ [(⟨.own, 26, procC p u⟩ : Blk)] = M at *
  generalize M1.length = bd at *
  obtain ⟨K, hK⟩ : ∃ K : Mem → Prop, K = fun M => IntsA M u p.w ∧ OwnB M bd 26 (procC p u) ∧ BytesA M 0 l := ⟨_, rfl⟩
  have K0 : K M := by rw [hK]; exact ⟨u1, x1, b1⟩
  have Kx : ∀ {M : Mem} (new : Mem), K M → K (M ++ new) := fun {M} new h => by
    rw [hK] at h ⊢
    exact ⟨h.1.ext _, h.2.1.ext _, h.2.2.ext _⟩
  have kP : ∀ {M}, K M → ProcA M (procV p u) p := fun h => by rw [hK] at h; exact ⟨u, rfl, h.1⟩
  have kR : ∀ {M}, K M → ∀ j, rdc M bd j = (procC p u)[j]? := fun h j => by rw [hK] at h; exact h.2.1.rd j
  have kB : ∀ {M}, K M → BytesA M 0 l := fun h => by rw [hK] at h; exact h.2.2
  have kU : ∀ {M}, K M → IntsA M u p.w := fun h => by rw [hK] at h; exact h.1
  clear hK u1 x1 b1
  have say : orderB p tq xq = true → turnB p tq = true ∧ p.good = true ∧ ∃ (t : Nat) (s S : Int) (j : Nat), tq = t ∧ (levelsA p).getD t (0, 0) = (s, S) ∧ t < (levelsA p).length ∧ S - p.floor = j ∧ j < (billsA p tq).length ∧
      (∀ i, i < (billsA p tq).length → (billsA p tq).getD j 0 ≤ (billsA p tq).getD i 0) ∧ (xq < s → orderUp p tq xq = S) ∧ (s ≤ xq → orderUp p tq xq = xq) ∧ -10 ≤ S ∧ S ≤ 10 := fun h => by
    obtain ⟨h1, h2, h3, -⟩ := order_turn h
    obtain ⟨t, rfl⟩ : ∃ t : Nat, tq = t := ⟨tq.toNat, (Int.toNat_of_nonneg h3.1).symm⟩
    obtain ⟨s, S, j, q⟩ := levels_say h
    exact ⟨h1, h2, t, s, S, j, rfl, q⟩
  obtain ⟨yo, hyo⟩ : ∃ t, t = orderUp p tq xq := ⟨_, rfl⟩
  obtain ⟨ob, hob⟩ : ∃ t, t = orderB p tq xq := ⟨_, rfl⟩
  obtain ⟨tb, htb⟩ : ∃ t, t = turnB p tq := ⟨_, rfl⟩
  obtain ⟨bl, hbl⟩ : ∃ t, t = billsA p tq := ⟨_, rfl⟩
  obtain ⟨lv, hlv⟩ : ∃ t, t = levelsA p := ⟨_, rfl⟩
  obtain ⟨gp, hgp⟩ : ∃ t, t = p.good := ⟨_, rfl⟩
  have C1 : ∀ M, K M → RC Try.prog 6 [procV p u, .int .i64 tq, .int .i64 xq] M (AnsV (.tuple #[.int .i64 yo, .bool ob])) := fun M h => by rw [hyo, hob]; exact implBestOrder_rc _ _ p tq xq (kP h)
  have C2 : ∀ M, K M → RC Try.prog 7 [procV p u, .int .i64 tq, .int .i64 xq] M (AnsV (.tuple #[.int .i64 yo, .bool ob])) := fun M h => by rw [hyo, hob]; exact specBestOrder_rc _ _ p tq xq (kP h)
  have C3 : ∀ M, K M → RC Try.prog 8 [procV p u, .int .i64 tq] M (AnsO M (IntsO bl) fun w => .tuple #[w, .bool tb]) := fun M h => by rw [hbl, htb]; exact implBillsOf_rc _ _ p tq (kP h)
  have C4 : ∀ M, K M → RC Try.prog 9 [procV p u, .int .i64 tq] M (AnsO M (IntsO bl) fun w => .tuple #[w, .bool tb]) := fun M h => by rw [hbl, htb]; exact specBillsOf_rc _ _ p tq (kP h)
  have C5 : ∀ M, K M → RC Try.prog 20 [procV p u] M (AnsO M (PairsO 49 lv) fun w => .tuple #[w, .bool gp]) := fun M h => by rw [hlv, hgp]; exact implBestLevels_rc _ _ p (kP h)
  have C6 : ∀ M, K M → RC Try.prog 21 [procV p u] M (AnsO M (PairsO 49 lv) fun w => .tuple #[w, .bool gp]) := fun M h => by rw [hlv, hgp]; exact specBestLevels_rc _ _ p (kP h)
  rw [← hyo, ← hob, ← htb, ← hbl, ← hlv, ← hgp] at say
  clear hyo hob htb hbl hlv hgp kP
  cases ob with
  | false =>
    as_aux_lemma =>
    refine callH_rc (C1 _ K0) ?_
    rintro r new ⟨rfl, nr⟩
    have K1 := Kx new K0
    obtain ⟨N1, hN1⟩ : ∃ N, N = M ++ new := ⟨_, rfl⟩
    rw [← hN1] at K1 ⊢
    clear hN1 K0
    clear nr
    simp (config := {implicitDefEqProofs := false, maxDischargeDepth := 20}) (disch := first | omega | (simp only [lenE]; done) | (simp only [lenE]; omega) | rfl | (simp only [lenE, markR_len]; done) | (simp only [lenE, markR_len]; omega)) only [runE, mapE, listE, initT_5, initT_6, initT_7, initT_8, resV, oneV, binA, unA, reduceCtorEq, Nat.reduceEqDiff, Nat.reduceAdd, Nat.reduceLT, Nat.reduceLeDiff, Nat.reduceMul, Nat.reduceSub, ↓reduceIte, decide_true, decide_false, Bool.true_eq_false, Bool.false_eq_true, Bool.not_true, Bool.not_false, if_true, if_false, and_true, true_and, memE, celE, w64, Nat.zero_add, Nat.add_zero, Nat.mul_one, putL, and_self, ldn, kR K1, ext_2_0, ext_2_1, ext_3_0, ext_3_1, ext_3_2, bne_self_eq_false, beq_self_eq_true, goG_undef, Bool.not_true, Bool.not_false]
    refine callH_rc (C2 _ K1) ?_
    rintro r new ⟨rfl, nr⟩
    have K2 := Kx new K1
    obtain ⟨N2, hN2⟩ : ∃ N, N = N1 ++ new := ⟨_, rfl⟩
    rw [← hN2] at K2 ⊢
    clear hN2 K1
    clear nr
    simp (config := {implicitDefEqProofs := false, maxDischargeDepth := 20}) (disch := first | omega | (simp only [lenE]; done) | (simp only [lenE]; omega) | rfl | (simp only [lenE, markR_len]; done) | (simp only [lenE, markR_len]; omega)) only [runE, mapE, listE, initT_5, initT_6, initT_7, initT_8, resV, oneV, binA, unA, reduceCtorEq, Nat.reduceEqDiff, Nat.reduceAdd, Nat.reduceLT, Nat.reduceLeDiff, Nat.reduceMul, Nat.reduceSub, ↓reduceIte, decide_true, decide_false, Bool.true_eq_false, Bool.false_eq_true, Bool.not_true, Bool.not_false, if_true, if_false, and_true, true_and, memE, celE, w64, Nat.zero_add, Nat.add_zero, Nat.mul_one, putL, and_self, ldn, kR K2, ext_2_0, ext_2_1, ext_3_0, ext_3_1, ext_3_2, bne_self_eq_false, beq_self_eq_true, goG_undef, Bool.not_true, Bool.not_false]
    refine callH_rc (C3 _ K2) ?_
    rintro r new ⟨nr, Rv, rfl, hw⟩
    have Rn := IntsO.in hw.now
    clear hw
    have K3 := Kx new K2
    obtain ⟨N3, hN3⟩ : ∃ N, N = N2 ++ new := ⟨_, rfl⟩
    rw [← hN3] at K3 Rn ⊢
    clear hN3 K2
    have R3 := Rn
    clear Rn nr
    simp (config := {implicitDefEqProofs := false, maxDischargeDepth := 20}) (disch := first | omega | (simp only [lenE]; done) | (simp only [lenE]; omega) | rfl | (simp only [lenE, markR_len]; done) | (simp only [lenE, markR_len]; omega)) only [runE, mapE, listE, initT_5, initT_6, initT_7, initT_8, resV, oneV, binA, unA, reduceCtorEq, Nat.reduceEqDiff, Nat.reduceAdd, Nat.reduceLT, Nat.reduceLeDiff, Nat.reduceMul, Nat.reduceSub, ↓reduceIte, decide_true, decide_false, Bool.true_eq_false, Bool.false_eq_true, Bool.not_true, Bool.not_false, if_true, if_false, and_true, true_and, memE, celE, w64, Nat.zero_add, Nat.add_zero, Nat.mul_one, putL, and_self, ldn, kR K3, ext_2_0, ext_2_1, ext_3_0, ext_3_1, ext_3_2, bne_self_eq_false, beq_self_eq_true, goG_undef, Bool.not_true, Bool.not_false]
    refine callH_rc (C4 _ K3) ?_
    rintro r new ⟨nr, Sv, rfl, hw⟩
    have Sn := IntsO.in hw.now
    clear hw
    have K4 := Kx new K3
    have R4 := R3.ext new
    obtain ⟨N4, hN4⟩ : ∃ N, N = N3 ++ new := ⟨_, rfl⟩
    rw [← hN4] at K4 R4 Sn ⊢
    clear hN4 R3 K3
    have S4 := Sn
    clear Sn nr
    simp (config := {implicitDefEqProofs := false, maxDischargeDepth := 20}) (disch := first | omega | (simp only [lenE]; done) | (simp only [lenE]; omega) | rfl | (simp only [lenE, markR_len]; done) | (simp only [lenE, markR_len]; omega)) only [runE, mapE, listE, initT_5, initT_6, initT_7, initT_8, resV, oneV, binA, unA, reduceCtorEq, Nat.reduceEqDiff, Nat.reduceAdd, Nat.reduceLT, Nat.reduceLeDiff, Nat.reduceMul, Nat.reduceSub, ↓reduceIte, decide_true, decide_false, Bool.true_eq_false, Bool.false_eq_true, Bool.not_true, Bool.not_false, if_true, if_false, and_true, true_and, memE, celE, w64, Nat.zero_add, Nat.add_zero, Nat.mul_one, putL, and_self, ldn, kR K4, ext_2_0, ext_2_1, ext_3_0, ext_3_1, ext_3_2, bne_self_eq_false, beq_self_eq_true, goG_undef, Bool.not_true, Bool.not_false]
    refine callH_rc (rInts_rc _ _ _ bl R4 S4) ?_
    rintro r new ⟨rfl, rfl⟩
    rw [List.append_nil]
    simp (config := {implicitDefEqProofs := false, maxDischargeDepth := 20}) (disch := first | omega | (simp only [lenE]; done) | (simp only [lenE]; omega) | rfl | (simp only [lenE, markR_len]; done) | (simp only [lenE, markR_len]; omega)) only [runE, mapE, listE, initT_5, initT_6, initT_7, initT_8, resV, oneV, binA, unA, reduceCtorEq, Nat.reduceEqDiff, Nat.reduceAdd, Nat.reduceLT, Nat.reduceLeDiff, Nat.reduceMul, Nat.reduceSub, ↓reduceIte, decide_true, decide_false, Bool.true_eq_false, Bool.false_eq_true, Bool.not_true, Bool.not_false, if_true, if_false, and_true, true_and, memE, celE, w64, Nat.zero_add, Nat.add_zero, Nat.mul_one, putL, and_self, ldn, kR K4, ext_2_0, ext_2_1, ext_3_0, ext_3_1, ext_3_2, bne_self_eq_false, beq_self_eq_true, goG_undef, Bool.not_true, Bool.not_false]
    clear S4
    clear R4
    clear C1 C2 C3 C4
    refine callH_rc (DrawIsConvexFor_rc _ 0 0 l (kB K4)) ?_
    rintro r new ⟨nr, i, L, kk, rfl, hrow, hL⟩
    have Jn : IntsA (N4 ++ new) (.slice (some ⟨N4.length + i, 0, none⟩) L.length 1) L := (OwnR.new hrow rfl).ints (by omega) 1
    clear hrow hL
    have K5 := Kx new K4
    obtain ⟨N5, hN5⟩ : ∃ N, N = N4 ++ new := ⟨_, rfl⟩
    rw [← hN5] at K5 Jn ⊢
    clear hN5 K4
    have J5 := Jn
    clear Jn nr
    simp (config := {implicitDefEqProofs := false, maxDischargeDepth := 20}) (disch := first | omega | (simp only [lenE]; done) | (simp only [lenE]; omega) | rfl | (simp only [lenE, markR_len]; done) | (simp only [lenE, markR_len]; omega)) only [runE, mapE, listE, initT_5, initT_6, initT_7, initT_8, resV, oneV, binA, unA, reduceCtorEq, Nat.reduceEqDiff, Nat.reduceAdd, Nat.reduceLT, Nat.reduceLeDiff, Nat.reduceMul, Nat.reduceSub, ↓reduceIte, decide_true, decide_false, Bool.true_eq_false, Bool.false_eq_true, Bool.not_true, Bool.not_false, if_true, if_false, and_true, true_and, memE, celE, w64, Nat.zero_add, Nat.add_zero, Nat.mul_one, putL, and_self, ldn, kR K5, ext_2_0, ext_2_1, ext_3_0, ext_3_1, ext_3_2, bne_self_eq_false, beq_self_eq_true, goG_undef, Bool.not_true, Bool.not_false]
    refine callH_rc (implConvex_rc _ _ L kk J5) ?_
    rintro r new ⟨rfl, nr⟩
    have K6 := Kx new K5
    have J6 := J5.ext new
    obtain ⟨N6, hN6⟩ : ∃ N, N = N5 ++ new := ⟨_, rfl⟩
    rw [← hN6] at K6 J6 ⊢
    clear hN6 J5 K5
    clear nr
    simp (config := {implicitDefEqProofs := false, maxDischargeDepth := 20}) (disch := first | omega | (simp only [lenE]; done) | (simp only [lenE]; omega) | rfl | (simp only [lenE, markR_len]; done) | (simp only [lenE, markR_len]; omega)) only [runE, mapE, listE, initT_5, initT_6, initT_7, initT_8, resV, oneV, binA, unA, reduceCtorEq, Nat.reduceEqDiff, Nat.reduceAdd, Nat.reduceLT, Nat.reduceLeDiff, Nat.reduceMul, Nat.reduceSub, ↓reduceIte, decide_true, decide_false, Bool.true_eq_false, Bool.false_eq_true, Bool.not_true, Bool.not_false, if_true, if_false, and_true, true_and, memE, celE, w64, Nat.zero_add, Nat.add_zero, Nat.mul_one, putL, and_self, ldn, kR K6, ext_2_0, ext_2_1, ext_3_0, ext_3_1, ext_3_2, bne_self_eq_false, beq_self_eq_true, goG_undef, Bool.not_true, Bool.not_false]
    refine callH_rc (specConvex_rc _ _ L kk J6) ?_
    rintro r new ⟨rfl, nr⟩
    have K7 := Kx new K6
    have J7 := J6.ext new
    obtain ⟨N7, hN7⟩ : ∃ N, N = N6 ++ new := ⟨_, rfl⟩
    rw [← hN7] at K7 J7 ⊢
    clear hN7 J6 K6
    clear nr
    simp (config := {implicitDefEqProofs := false, maxDischargeDepth := 20}) (disch := first | omega | (simp only [lenE]; done) | (simp only [lenE]; omega) | rfl | (simp only [lenE, markR_len]; done) | (simp only [lenE, markR_len]; omega)) only [runE, mapE, listE, initT_5, initT_6, initT_7, initT_8, resV, oneV, binA, unA, reduceCtorEq, Nat.reduceEqDiff, Nat.reduceAdd, Nat.reduceLT, Nat.reduceLeDiff, Nat.reduceMul, Nat.reduceSub, ↓reduceIte, decide_true, decide_false, Bool.true_eq_false, Bool.false_eq_true, Bool.not_true, Bool.not_false, if_true, if_false, and_true, true_and, memE, celE, w64, Nat.zero_add, Nat.add_zero, Nat.mul_one, putL, and_self, ldn, kR K7, ext_2_0, ext_2_1, ext_3_0, ext_3_1, ext_3_2, bne_self_eq_false, beq_self_eq_true, goG_undef, Bool.not_true, Bool.not_false]
    clear J7
    refine callH_rc (DrawIsWorthProof_rc _ 0 0 l (kB K7)) ?_
    rintro r new ⟨nr, p2, u2, v2, T2, rfl, pl2, lz⟩
    have hu2 := pl2.here
    have hz2 := lz.here
    have on2 := ones_proc hu2
    have K8 := Kx new K7
    obtain ⟨N8, hN8⟩ : ∃ N, N = N7 ++ new := ⟨_, rfl⟩
    rw [← hN8] at K8 hu2 hz2 ⊢
    clear hN8 K7
    clear pl2 lz nr
    have s2 : stA (N8 ++ [(⟨.own, 26, [.int .i64 0, .slice none 0 0, .int .i64 0, .int .i64 0, .int .i64 0, .int .i64 0]⟩ : Blk)]) N8.length 0 (procC p2 u2) = some (N8 ++ [⟨.own, 26, procC p2 u2⟩]) := by
      rw [(OwnB.here rfl).st (by simp) on2]
      simp [putL]
    have y2 : OwnB (N8 ++ [(⟨.own, 26, procC p2 u2⟩ : Blk)]) N8.length 26 (procC p2 u2) := OwnB.here rfl
    have w2 := hu2.ext [(⟨.own, 26, procC p2 u2⟩ : Blk)]
    have z2 := hz2.ext [(⟨.own, 26, procC p2 u2⟩ : Blk)]
    have k2 := Kx [(⟨.own, 26, procC p2 u2⟩ : Blk)] K8

    simp (config := {implicitDefEqProofs := false, maxDischargeDepth := 20}) (disch := first | omega | (simp only [lenE]; done) | (simp only [lenE]; omega) | rfl | (simp only [lenE, markR_len]; done) | (simp only [lenE, markR_len]; omega)) only [runE, mapE, listE, initT_5, initT_6, initT_7, initT_8, resV, oneV, binA, unA, reduceCtorEq, Nat.reduceEqDiff, Nat.reduceAdd, Nat.reduceLT, Nat.reduceLeDiff, Nat.reduceMul, Nat.reduceSub, ↓reduceIte, decide_true, decide_false, Bool.true_eq_false, Bool.false_eq_true, Bool.not_true, Bool.not_false, if_true, if_false, and_true, true_and, memE, celE, w64, Nat.zero_add, Nat.add_zero, Nat.mul_one, putL, and_self, ldn, kR K8, ext_2_0, ext_2_1, ext_3_0, ext_3_1, ext_3_2, bne_self_eq_false, beq_self_eq_true, goG_undef, Bool.not_true, Bool.not_false, stP_aggL, s2]
    clear s2 hu2 hz2 on2 K8 
    generalize N8 ++ [(⟨.own, 26, procC p2 u2⟩ : Blk)] = N at *
    generalize N8.length = bd2 at *
    obtain ⟨Q, hQ⟩ : ∃ Q : Mem → Prop, Q = fun M => K M ∧ IntsA M u2 p2.w ∧ OwnB M bd2 26 (procC p2 u2) ∧ TabZ M v2 T2 := ⟨_, rfl⟩
    have Qx : ∀ {M : Mem} (new : Mem), Q M → Q (M ++ new) := fun {M} new h => by
      rw [hQ] at h ⊢
      exact ⟨Kx _ h.1, h.2.1.ext _, h.2.2.1.ext _, h.2.2.2.ext _⟩
    have qK : ∀ {M}, Q M → K M := fun h => by rw [hQ] at h; exact h.1
    have qP : ∀ {M}, Q M → ProcA M (procV p2 u2) p2 := fun h => by rw [hQ] at h; exact ⟨u2, rfl, h.2.1⟩
    have qR : ∀ {M}, Q M → ∀ j, rdc M bd2 j = (procC p2 u2)[j]? := fun h j => by rw [hQ] at h; exact h.2.2.1.rd j
    have qT : ∀ {M}, Q M → TabZ M v2 T2 := fun h => by rw [hQ] at h; exact h.2.2.2
    have KE : Q N := by rw [hQ]; exact ⟨k2, w2, y2, z2⟩
    clear hQ w2 y2 z2 k2
    have row0 := @proof_row p2 T2
    obtain ⟨pf, hpf⟩ : ∃ t, t = (p2.good && proofB p2 T2) := ⟨_, rfl⟩
    obtain ⟨g2, hg2⟩ : ∃ t, t = p2.good := ⟨_, rfl⟩
    obtain ⟨W2, hW2⟩ : ∃ t, t = (if p2.good then p2.tab p2.bestC p2.turns.toNat else []) := ⟨_, rfl⟩
    have pg : pf = true → g2 = true ∧ W2 = p2.tab p2.bestC p2.turns.toNat ∧ W2.length ≠ 0 ∧ (W2.getD 0 []).length = 21 := fun h => by
      rw [hpf, Bool.and_eq_true] at h
      rw [hg2, hW2, if_pos h.1]
      exact ⟨h.1, rfl, by rw [Pr.tab_len]; omega, by rw [Pr.tab_at _ _ (Nat.zero_le _)]; exact Pr.rowsN_len _ _ _⟩
    obtain ⟨N9, hNN⟩ : ∃ X, X = N := ⟨_, rfl⟩
    rw [← hNN] at KE  ⊢
    clear hNN
    have K9 := KE
    clear KE
    have D1 : ∀ M, Q M → RC Try.prog 15 [procV p2 u2, v2] M (AnsV (.tuple #[.bool pf, .bool g2])) := fun M h => by rw [hpf, hg2]; exact implProof6Z_rc _ _ _ p2 T2 (qP h) (qT h)
    have D2 : ∀ M, Q M → RC Try.prog 16 [procV p2 u2, v2] M (AnsV (.tuple #[.bool pf, .bool g2])) := fun M h => by rw [hpf, hg2]; exact specProof6Z_rc _ _ _ p2 T2 (qP h) (qT h)
    have D3 : ∀ M, Q M → RC Try.prog 17 [procV p2 u2] M (AnsO M (TabO W2) fun w => .tuple #[w, .bool g2]) := fun M h => by rw [hW2, hg2]; exact implWorthTable_rc _ _ p2 (qP h)
    have D4 : ∀ M, Q M → RC Try.prog 18 [procV p2 u2] M (AnsO M (TabO W2) fun w => .tuple #[w, .bool g2]) := fun M h => by rw [hW2, hg2]; exact specWorthTable_rc _ _ p2 (qP h)
    rw [← hpf] at row0
    clear hpf hg2 hW2 qP
    refine callH_rc (D1 _ K9) ?_
    rintro r new ⟨rfl, nr⟩
    have K10 := Qx new K9
    obtain ⟨N10, hN10⟩ : ∃ N, N = N9 ++ new := ⟨_, rfl⟩
    rw [← hN10] at K10 ⊢
    clear hN10 K9
    clear nr
    simp (config := {implicitDefEqProofs := false, maxDischargeDepth := 20}) (disch := first | omega | (simp only [lenE]; done) | (simp only [lenE]; omega) | rfl | (simp only [lenE, markR_len]; done) | (simp only [lenE, markR_len]; omega)) only [runE, mapE, listE, initT_5, initT_6, initT_7, initT_8, resV, oneV, binA, unA, reduceCtorEq, Nat.reduceEqDiff, Nat.reduceAdd, Nat.reduceLT, Nat.reduceLeDiff, Nat.reduceMul, Nat.reduceSub, ↓reduceIte, decide_true, decide_false, Bool.true_eq_false, Bool.false_eq_true, Bool.not_true, Bool.not_false, if_true, if_false, and_true, true_and, memE, celE, w64, Nat.zero_add, Nat.add_zero, Nat.mul_one, putL, and_self, ldn, kR (qK K10), qR K10, ext_2_0, ext_2_1, ext_3_0, ext_3_1, ext_3_2, bne_self_eq_false, beq_self_eq_true, goG_undef, Bool.not_true, Bool.not_false]
    refine callH_rc (D2 _ K10) ?_
    rintro r new ⟨rfl, nr⟩
    have K11 := Qx new K10
    obtain ⟨N11, hN11⟩ : ∃ N, N = N10 ++ new := ⟨_, rfl⟩
    rw [← hN11] at K11 ⊢
    clear hN11 K10
    clear nr
    cases pf with
    | false =>
      as_aux_lemma =>
      clear D1 D2 D3 D4 row0 pg
      simp (config := {implicitDefEqProofs := false, maxDischargeDepth := 20}) (disch := first | omega | (simp only [lenE]; done) | (simp only [lenE]; omega) | rfl | (simp only [lenE, markR_len]; done) | (simp only [lenE, markR_len]; omega)) only [runE, mapE, listE, initT_5, initT_6, initT_7, initT_8, resV, oneV, binA, unA, reduceCtorEq, Nat.reduceEqDiff, Nat.reduceAdd, Nat.reduceLT, Nat.reduceLeDiff, Nat.reduceMul, Nat.reduceSub, ↓reduceIte, decide_true, decide_false, Bool.true_eq_false, Bool.false_eq_true, Bool.not_true, Bool.not_false, if_true, if_false, and_true, true_and, memE, celE, w64, Nat.zero_add, Nat.add_zero, Nat.mul_one, putL, and_self, ldn, kR (qK K11), qR K11, ext_2_0, ext_2_1, ext_3_0, ext_3_1, ext_3_2, bne_self_eq_false, beq_self_eq_true, goG_undef, Bool.not_true, Bool.not_false]
    | true =>
      as_aux_lemma =>
      obtain ⟨g2t, hW, hW0, hW21⟩ := pg rfl
      rw [g2t] at D3 D4
      obtain ⟨ht0, ht21, hle⟩ := row0 rfl
      rw [← hW] at hle
      clear hW D1 D2 row0 pg
      simp (config := {implicitDefEqProofs := false, maxDischargeDepth := 20}) (disch := first | omega | (simp only [lenE]; done) | (simp only [lenE]; omega) | rfl | (simp only [lenE, markR_len]; done) | (simp only [lenE, markR_len]; omega)) only [runE, mapE, listE, initT_5, initT_6, initT_7, initT_8, resV, oneV, binA, unA, reduceCtorEq, Nat.reduceEqDiff, Nat.reduceAdd, Nat.reduceLT, Nat.reduceLeDiff, Nat.reduceMul, Nat.reduceSub, ↓reduceIte, decide_true, decide_false, Bool.true_eq_false, Bool.false_eq_true, Bool.not_true, Bool.not_false, if_true, if_false, and_true, true_and, memE, celE, w64, Nat.zero_add, Nat.add_zero, Nat.mul_one, putL, and_self, ldn, kR (qK K11), qR K11, ext_2_0, ext_2_1, ext_3_0, ext_3_1, ext_3_2, bne_self_eq_false, beq_self_eq_true, goG_undef, Bool.not_true, Bool.not_false]
      refine callH_rc (D3 _ K11) ?_
      rintro r new ⟨nr, Tv, rfl, hw⟩
      have Tn := TabO.in hw.now
      clear hw
      have K12 := Qx new K11
      obtain ⟨N12, hN12⟩ : ∃ N, N = N11 ++ new := ⟨_, rfl⟩
      rw [← hN12] at K12 Tn ⊢
      clear hN12 K11
      have T12 := Tn
      clear Tn nr
      simp (config := {implicitDefEqProofs := false, maxDischargeDepth := 20}) (disch := first | omega | (simp only [lenE]; done) | (simp only [lenE]; omega) | rfl | (simp only [lenE, markR_len]; done) | (simp only [lenE, markR_len]; omega)) only [runE, mapE, listE, initT_5, initT_6, initT_7, initT_8, resV, oneV, binA, unA, reduceCtorEq, Nat.reduceEqDiff, Nat.reduceAdd, Nat.reduceLT, Nat.reduceLeDiff, Nat.reduceMul, Nat.reduceSub, ↓reduceIte, decide_true, decide_false, Bool.true_eq_false, Bool.false_eq_true, Bool.not_true, Bool.not_false, if_true, if_false, and_true, true_and, memE, celE, w64, Nat.zero_add, Nat.add_zero, Nat.mul_one, putL, and_self, ldn, kR (qK K12), qR K12, ext_2_0, ext_2_1, ext_3_0, ext_3_1, ext_3_2, bne_self_eq_false, beq_self_eq_true, goG_undef, Bool.not_true, Bool.not_false]
      refine callH_rc (D4 _ K12) ?_
      rintro r new ⟨nr, Uv, rfl, hw⟩
      have Un := TabO.in hw.now
      clear hw
      have K13 := Qx new K12
      have T13 := T12.ext new
      obtain ⟨N13, hN13⟩ : ∃ N, N = N12 ++ new := ⟨_, rfl⟩
      rw [← hN13] at K13 T13 Un ⊢
      clear hN13 T12 K12
      have U13 := Un
      clear Un nr
      simp (config := {implicitDefEqProofs := false, maxDischargeDepth := 20}) (disch := first | omega | (simp only [lenE]; done) | (simp only [lenE]; omega) | rfl | (simp only [lenE, markR_len]; done) | (simp only [lenE, markR_len]; omega)) only [runE, mapE, listE, initT_5, initT_6, initT_7, initT_8, resV, oneV, binA, unA, reduceCtorEq, Nat.reduceEqDiff, Nat.reduceAdd, Nat.reduceLT, Nat.reduceLeDiff, Nat.reduceMul, Nat.reduceSub, ↓reduceIte, decide_true, decide_false, Bool.true_eq_false, Bool.false_eq_true, Bool.not_true, Bool.not_false, if_true, if_false, and_true, true_and, memE, celE, w64, Nat.zero_add, Nat.add_zero, Nat.mul_one, putL, and_self, ldn, kR (qK K13), qR K13, ext_2_0, ext_2_1, ext_3_0, ext_3_1, ext_3_2, bne_self_eq_false, beq_self_eq_true, goG_undef, Bool.not_true, Bool.not_false]
      refine callH_rc (rTable_rc _ _ _ W2 T13 U13) ?_
      rintro r new ⟨rfl, nr⟩
      have K14 := Qx new K13
      have T14 := T13.ext new
      have U14 := U13.ext new
      obtain ⟨N14, hN14⟩ : ∃ N, N = N13 ++ new := ⟨_, rfl⟩
      rw [← hN14] at K14 T14 U14 ⊢
      clear hN14 T13 U13 K13
      clear nr
      simp (config := {implicitDefEqProofs := false, maxDischargeDepth := 20}) (disch := first | omega | (simp only [lenE]; done) | (simp only [lenE]; omega) | rfl | (simp only [lenE, markR_len]; done) | (simp only [lenE, markR_len]; omega)) only [runE, mapE, listE, initT_5, initT_6, initT_7, initT_8, resV, oneV, binA, unA, reduceCtorEq, Nat.reduceEqDiff, Nat.reduceAdd, Nat.reduceLT, Nat.reduceLeDiff, Nat.reduceMul, Nat.reduceSub, ↓reduceIte, decide_true, decide_false, Bool.true_eq_false, Bool.false_eq_true, Bool.not_true, Bool.not_false, if_true, if_false, and_true, true_and, memE, celE, w64, Nat.zero_add, Nat.add_zero, Nat.mul_one, putL, and_self, ldn, kR (qK K14), qR K14, ext_2_0, ext_2_1, ext_3_0, ext_3_1, ext_3_2, bne_self_eq_false, beq_self_eq_true, goG_undef, Bool.not_true, Bool.not_false]
      clear U14
      obtain ⟨w0, hw0, hW0'⟩ := T14.ld 0 (by omega)
      have wa : iadA 1 Tv (.int .i64 0) = some (pAt Tv 0) := T14.at_ 0 (by omega)
      have hZ := qT K14
      obtain ⟨z0, hz0, hZ0⟩ := hZ.ld 0 (by omega)
      have za : iadA 1 v2 (.int .i64 0) = some (pAt v2 0) := hZ.at_ 0 (by omega)
      clear hZ D3 D4
      refine loop_inv mixed (fun s => ∃ i : Nat, s.m = N14 ∧ s.t 3 = .pointer (some ⟨bd, 0, none⟩) ∧ s.t 4 = .int .i64 tq ∧ s.t 5 = .int .i64 xq ∧ s.t 6 = .int .i64 yo ∧ s.t 7 = .bool false ∧ s.t 21 = v2 ∧ s.t 26 = Tv ∧ s.t 30 = .int .i64 i) (fun s => 21 - (intOf (s.t 30)).toNat)
        ⟨0, rfl, rfl, rfl, rfl, rfl, rfl, rfl, rfl, rfl⟩ ?_
      rintro σ ⟨i, tm, t3, t4, t5, t6, t7, t21, t26, t30⟩
      by_cases hlt : i < 21
      · have hlt' : (i : Int) < (W2.getD 0 []).length := by omega
        have hng := hle i hlt
        simp (config := {implicitDefEqProofs := false, maxDischargeDepth := 20}) (disch := first | omega | (simp only [lenE]; done) | (simp only [lenE]; omega) | rfl | (simp only [lenE, markR_len]; done) | (simp only [lenE, markR_len]; omega)) only [runE, mapE, listE, initT_5, initT_6, initT_7, initT_8, resV, oneV, binA, unA, reduceCtorEq, Nat.reduceEqDiff, Nat.reduceAdd, Nat.reduceLT, Nat.reduceLeDiff, Nat.reduceMul, Nat.reduceSub, ↓reduceIte, decide_true, decide_false, Bool.true_eq_false, Bool.false_eq_true, Bool.not_true, Bool.not_false, if_true, if_false, and_true, true_and, memE, celE, w64, Nat.zero_add, Nat.add_zero, Nat.mul_one, putL, and_self, ldn, tm, t3, t4, t5, t6, t7, t21, t26, t30, wa, hw0, hW0'.len, hlt', za, hz0, hZ0.at_ i (by omega), hZ0.ld i (by omega), hW0'.at_ i (by omega), hW0'.ld i (by omega), gt_iff_lt, hng]
        all_goals exact ⟨⟨i + 1, by simp⟩, by simp [intOf]; omega⟩
      · have hlt' : ¬ ((i : Int) < (W2.getD 0 []).length) := by omega
        clear hle hlt
        simp (config := {implicitDefEqProofs := false, maxDischargeDepth := 20}) (disch := first | omega | (simp only [lenE]; done) | (simp only [lenE]; omega) | rfl | (simp only [lenE, markR_len]; done) | (simp only [lenE, markR_len]; omega)) only [runE, mapE, listE, initT_5, initT_6, initT_7, initT_8, resV, oneV, binA, unA, reduceCtorEq, Nat.reduceEqDiff, Nat.reduceAdd, Nat.reduceLT, Nat.reduceLeDiff, Nat.reduceMul, Nat.reduceSub, ↓reduceIte, decide_true, decide_false, Bool.true_eq_false, Bool.false_eq_true, Bool.not_true, Bool.not_false, if_true, if_false, and_true, true_and, memE, celE, w64, Nat.zero_add, Nat.add_zero, Nat.mul_one, putL, and_self, ldn, tm, t3, t4, t5, t6, t7, t21, t26, t30, wa, hw0, hW0'.len, hlt', kR (qK K14), qR K14, ext_2_0, ext_2_1, ext_3_0, ext_3_1, ext_3_2, bne_self_eq_false, beq_self_eq_true, goG_undef, Bool.not_true, Bool.not_false]
  | true =>
    as_aux_lemma =>
    obtain ⟨rfl, rfl, t, s, S, j, rfl, le, lt, jS, jl, bmin, o1, o2, S1, S2⟩ := say rfl
    refine callH_rc (C1 _ K0) ?_
    rintro r new ⟨rfl, nr⟩
    have K1 := Kx new K0
    obtain ⟨N1, hN1⟩ : ∃ N, N = M ++ new := ⟨_, rfl⟩
    rw [← hN1] at K1 ⊢
    clear hN1 K0
    clear nr
    simp (config := {implicitDefEqProofs := false, maxDischargeDepth := 20}) (disch := first | omega | (simp only [lenE]; done) | (simp only [lenE]; omega) | rfl | (simp only [lenE, markR_len]; done) | (simp only [lenE, markR_len]; omega)) only [runE, mapE, listE, initT_5, initT_6, initT_7, initT_8, resV, oneV, binA, unA, reduceCtorEq, Nat.reduceEqDiff, Nat.reduceAdd, Nat.reduceLT, Nat.reduceLeDiff, Nat.reduceMul, Nat.reduceSub, ↓reduceIte, decide_true, decide_false, Bool.true_eq_false, Bool.false_eq_true, Bool.not_true, Bool.not_false, if_true, if_false, and_true, true_and, memE, celE, w64, Nat.zero_add, Nat.add_zero, Nat.mul_one, putL, and_self, ldn, kR K1, ext_2_0, ext_2_1, ext_3_0, ext_3_1, ext_3_2, bne_self_eq_false, beq_self_eq_true, goG_undef, Bool.not_true, Bool.not_false]
    refine callH_rc (C2 _ K1) ?_
    rintro r new ⟨rfl, nr⟩
    have K2 := Kx new K1
    obtain ⟨N2, hN2⟩ : ∃ N, N = N1 ++ new := ⟨_, rfl⟩
    rw [← hN2] at K2 ⊢
    clear hN2 K1
    clear nr
    simp (config := {implicitDefEqProofs := false, maxDischargeDepth := 20}) (disch := first | omega | (simp only [lenE]; done) | (simp only [lenE]; omega) | rfl | (simp only [lenE, markR_len]; done) | (simp only [lenE, markR_len]; omega)) only [runE, mapE, listE, initT_5, initT_6, initT_7, initT_8, resV, oneV, binA, unA, reduceCtorEq, Nat.reduceEqDiff, Nat.reduceAdd, Nat.reduceLT, Nat.reduceLeDiff, Nat.reduceMul, Nat.reduceSub, ↓reduceIte, decide_true, decide_false, Bool.true_eq_false, Bool.false_eq_true, Bool.not_true, Bool.not_false, if_true, if_false, and_true, true_and, memE, celE, w64, Nat.zero_add, Nat.add_zero, Nat.mul_one, putL, and_self, ldn, kR K2, ext_2_0, ext_2_1, ext_3_0, ext_3_1, ext_3_2, bne_self_eq_false, beq_self_eq_true, goG_undef, Bool.not_true, Bool.not_false]
    refine callH_rc (C3 _ K2) ?_
    rintro r new ⟨nr, Rv, rfl, hw⟩
    have Rn := IntsO.in hw.now
    clear hw
    have K3 := Kx new K2
    obtain ⟨N3, hN3⟩ : ∃ N, N = N2 ++ new := ⟨_, rfl⟩
    rw [← hN3] at K3 Rn ⊢
    clear hN3 K2
    have R3 := Rn
    clear Rn nr
    simp (config := {implicitDefEqProofs := false, maxDischargeDepth := 20}) (disch := first | omega | (simp only [lenE]; done) | (simp only [lenE]; omega) | rfl | (simp only [lenE, markR_len]; done) | (simp only [lenE, markR_len]; omega)) only [runE, mapE, listE, initT_5, initT_6, initT_7, initT_8, resV, oneV, binA, unA, reduceCtorEq, Nat.reduceEqDiff, Nat.reduceAdd, Nat.reduceLT, Nat.reduceLeDiff, Nat.reduceMul, Nat.reduceSub, ↓reduceIte, decide_true, decide_false, Bool.true_eq_false, Bool.false_eq_true, Bool.not_true, Bool.not_false, if_true, if_false, and_true, true_and, memE, celE, w64, Nat.zero_add, Nat.add_zero, Nat.mul_one, putL, and_self, ldn, kR K3, ext_2_0, ext_2_1, ext_3_0, ext_3_1, ext_3_2, bne_self_eq_false, beq_self_eq_true, goG_undef, Bool.not_true, Bool.not_false]
    refine callH_rc (C4 _ K3) ?_
    rintro r new ⟨nr, Sv, rfl, hw⟩
    have Sn := IntsO.in hw.now
    clear hw
    have K4 := Kx new K3
    have R4 := R3.ext new
    obtain ⟨N4, hN4⟩ : ∃ N, N = N3 ++ new := ⟨_, rfl⟩
    rw [← hN4] at K4 R4 Sn ⊢
    clear hN4 R3 K3
    have S4 := Sn
    clear Sn nr
    simp (config := {implicitDefEqProofs := false, maxDischargeDepth := 20}) (disch := first | omega | (simp only [lenE]; done) | (simp only [lenE]; omega) | rfl | (simp only [lenE, markR_len]; done) | (simp only [lenE, markR_len]; omega)) only [runE, mapE, listE, initT_5, initT_6, initT_7, initT_8, resV, oneV, binA, unA, reduceCtorEq, Nat.reduceEqDiff, Nat.reduceAdd, Nat.reduceLT, Nat.reduceLeDiff, Nat.reduceMul, Nat.reduceSub, ↓reduceIte, decide_true, decide_false, Bool.true_eq_false, Bool.false_eq_true, Bool.not_true, Bool.not_false, if_true, if_false, and_true, true_and, memE, celE, w64, Nat.zero_add, Nat.add_zero, Nat.mul_one, putL, and_self, ldn, kR K4, ext_2_0, ext_2_1, ext_3_0, ext_3_1, ext_3_2, bne_self_eq_false, beq_self_eq_true, goG_undef, Bool.not_true, Bool.not_false]
    refine callH_rc (rInts_rc _ _ _ bl R4 S4) ?_
    rintro r new ⟨rfl, rfl⟩
    rw [List.append_nil]
    simp (config := {implicitDefEqProofs := false, maxDischargeDepth := 20}) (disch := first | omega | (simp only [lenE]; done) | (simp only [lenE]; omega) | rfl | (simp only [lenE, markR_len]; done) | (simp only [lenE, markR_len]; omega)) only [runE, mapE, listE, initT_5, initT_6, initT_7, initT_8, resV, oneV, binA, unA, reduceCtorEq, Nat.reduceEqDiff, Nat.reduceAdd, Nat.reduceLT, Nat.reduceLeDiff, Nat.reduceMul, Nat.reduceSub, ↓reduceIte, decide_true, decide_false, Bool.true_eq_false, Bool.false_eq_true, Bool.not_true, Bool.not_false, if_true, if_false, and_true, true_and, memE, celE, w64, Nat.zero_add, Nat.add_zero, Nat.mul_one, putL, and_self, ldn, kR K4, ext_2_0, ext_2_1, ext_3_0, ext_3_1, ext_3_2, bne_self_eq_false, beq_self_eq_true, goG_undef, Bool.not_true, Bool.not_false]
    clear S4
    clear C1 C2 C3 C4
    refine callH_rc (DrawIsConvexFor_rc _ 0 0 l (kB K4)) ?_
    rintro r new ⟨nr, i, L, kk, rfl, hrow, hL⟩
    have Jn : IntsA (N4 ++ new) (.slice (some ⟨N4.length + i, 0, none⟩) L.length 1) L := (OwnR.new hrow rfl).ints (by omega) 1
    clear hrow hL
    have K5 := Kx new K4
    have R5 := R4.ext new
    obtain ⟨N5, hN5⟩ : ∃ N, N = N4 ++ new := ⟨_, rfl⟩
    rw [← hN5] at K5 R5 Jn ⊢
    clear hN5 R4 K4
    have J5 := Jn
    clear Jn nr
    simp (config := {implicitDefEqProofs := false, maxDischargeDepth := 20}) (disch := first | omega | (simp only [lenE]; done) | (simp only [lenE]; omega) | rfl | (simp only [lenE, markR_len]; done) | (simp only [lenE, markR_len]; omega)) only [runE, mapE, listE, initT_5, initT_6, initT_7, initT_8, resV, oneV, binA, unA, reduceCtorEq, Nat.reduceEqDiff, Nat.reduceAdd, Nat.reduceLT, Nat.reduceLeDiff, Nat.reduceMul, Nat.reduceSub, ↓reduceIte, decide_true, decide_false, Bool.true_eq_false, Bool.false_eq_true, Bool.not_true, Bool.not_false, if_true, if_false, and_true, true_and, memE, celE, w64, Nat.zero_add, Nat.add_zero, Nat.mul_one, putL, and_self, ldn, kR K5, ext_2_0, ext_2_1, ext_3_0, ext_3_1, ext_3_2, bne_self_eq_false, beq_self_eq_true, goG_undef, Bool.not_true, Bool.not_false]
    refine callH_rc (implConvex_rc _ _ L kk J5) ?_
    rintro r new ⟨rfl, nr⟩
    have K6 := Kx new K5
    have R6 := R5.ext new
    have J6 := J5.ext new
    obtain ⟨N6, hN6⟩ : ∃ N, N = N5 ++ new := ⟨_, rfl⟩
    rw [← hN6] at K6 R6 J6 ⊢
    clear hN6 R5 J5 K5
    clear nr
    simp (config := {implicitDefEqProofs := false, maxDischargeDepth := 20}) (disch := first | omega | (simp only [lenE]; done) | (simp only [lenE]; omega) | rfl | (simp only [lenE, markR_len]; done) | (simp only [lenE, markR_len]; omega)) only [runE, mapE, listE, initT_5, initT_6, initT_7, initT_8, resV, oneV, binA, unA, reduceCtorEq, Nat.reduceEqDiff, Nat.reduceAdd, Nat.reduceLT, Nat.reduceLeDiff, Nat.reduceMul, Nat.reduceSub, ↓reduceIte, decide_true, decide_false, Bool.true_eq_false, Bool.false_eq_true, Bool.not_true, Bool.not_false, if_true, if_false, and_true, true_and, memE, celE, w64, Nat.zero_add, Nat.add_zero, Nat.mul_one, putL, and_self, ldn, kR K6, ext_2_0, ext_2_1, ext_3_0, ext_3_1, ext_3_2, bne_self_eq_false, beq_self_eq_true, goG_undef, Bool.not_true, Bool.not_false]
    refine callH_rc (specConvex_rc _ _ L kk J6) ?_
    rintro r new ⟨rfl, nr⟩
    have K7 := Kx new K6
    have R7 := R6.ext new
    have J7 := J6.ext new
    obtain ⟨N7, hN7⟩ : ∃ N, N = N6 ++ new := ⟨_, rfl⟩
    rw [← hN7] at K7 R7 J7 ⊢
    clear hN7 R6 J6 K6
    clear nr
    simp (config := {implicitDefEqProofs := false, maxDischargeDepth := 20}) (disch := first | omega | (simp only [lenE]; done) | (simp only [lenE]; omega) | rfl | (simp only [lenE, markR_len]; done) | (simp only [lenE, markR_len]; omega)) only [runE, mapE, listE, initT_5, initT_6, initT_7, initT_8, resV, oneV, binA, unA, reduceCtorEq, Nat.reduceEqDiff, Nat.reduceAdd, Nat.reduceLT, Nat.reduceLeDiff, Nat.reduceMul, Nat.reduceSub, ↓reduceIte, decide_true, decide_false, Bool.true_eq_false, Bool.false_eq_true, Bool.not_true, Bool.not_false, if_true, if_false, and_true, true_and, memE, celE, w64, Nat.zero_add, Nat.add_zero, Nat.mul_one, putL, and_self, ldn, kR K7, ext_2_0, ext_2_1, ext_3_0, ext_3_1, ext_3_2, bne_self_eq_false, beq_self_eq_true, goG_undef, Bool.not_true, Bool.not_false]
    clear J7
    refine callH_rc (DrawIsWorthProof_rc _ 0 0 l (kB K7)) ?_
    rintro r new ⟨nr, p2, u2, v2, T2, rfl, pl2, lz⟩
    have hu2 := pl2.here
    have hz2 := lz.here
    have on2 := ones_proc hu2
    have K8 := Kx new K7
    have R8 := R7.ext new
    obtain ⟨N8, hN8⟩ : ∃ N, N = N7 ++ new := ⟨_, rfl⟩
    rw [← hN8] at K8 R8 hu2 hz2 ⊢
    clear hN8 R7 K7
    clear pl2 lz nr
    have s2 : stA (N8 ++ [(⟨.own, 26, [.int .i64 0, .slice none 0 0, .int .i64 0, .int .i64 0, .int .i64 0, .int .i64 0]⟩ : Blk)]) N8.length 0 (procC p2 u2) = some (N8 ++ [⟨.own, 26, procC p2 u2⟩]) := by
      rw [(OwnB.here rfl).st (by simp) on2]
      simp [putL]
    have y2 : OwnB (N8 ++ [(⟨.own, 26, procC p2 u2⟩ : Blk)]) N8.length 26 (procC p2 u2) := OwnB.here rfl
    have w2 := hu2.ext [(⟨.own, 26, procC p2 u2⟩ : Blk)]
    have z2 := hz2.ext [(⟨.own, 26, procC p2 u2⟩ : Blk)]
    have k2 := Kx [(⟨.own, 26, procC p2 u2⟩ : Blk)] K8
    have RE := R8.ext [(⟨.own, 26, procC p2 u2⟩ : Blk)]
    simp (config := {implicitDefEqProofs := false, maxDischargeDepth := 20}) (disch := first | omega | (simp only [lenE]; done) | (simp only [lenE]; omega) | rfl | (simp only [lenE, markR_len]; done) | (simp only [lenE, markR_len]; omega)) only [runE, mapE, listE, initT_5, initT_6, initT_7, initT_8, resV, oneV, binA, unA, reduceCtorEq, Nat.reduceEqDiff, Nat.reduceAdd, Nat.reduceLT, Nat.reduceLeDiff, Nat.reduceMul, Nat.reduceSub, ↓reduceIte, decide_true, decide_false, Bool.true_eq_false, Bool.false_eq_true, Bool.not_true, Bool.not_false, if_true, if_false, and_true, true_and, memE, celE, w64, Nat.zero_add, Nat.add_zero, Nat.mul_one, putL, and_self, ldn, kR K8, ext_2_0, ext_2_1, ext_3_0, ext_3_1, ext_3_2, bne_self_eq_false, beq_self_eq_true, goG_undef, Bool.not_true, Bool.not_false, stP_aggL, s2]
    clear s2 hu2 hz2 on2 K8 R8
    generalize N8 ++ [(⟨.own, 26, procC p2 u2⟩ : Blk)] = N at *
    generalize N8.length = bd2 at *
    obtain ⟨Q, hQ⟩ : ∃ Q : Mem → Prop, Q = fun M => K M ∧ IntsA M u2 p2.w ∧ OwnB M bd2 26 (procC p2 u2) ∧ TabZ M v2 T2 := ⟨_, rfl⟩
    have Qx : ∀ {M : Mem} (new : Mem), Q M → Q (M ++ new) := fun {M} new h => by
      rw [hQ] at h ⊢
      exact ⟨Kx _ h.1, h.2.1.ext _, h.2.2.1.ext _, h.2.2.2.ext _⟩
    have qK : ∀ {M}, Q M → K M := fun h => by rw [hQ] at h; exact h.1
    have qP : ∀ {M}, Q M → ProcA M (procV p2 u2) p2 := fun h => by rw [hQ] at h; exact ⟨u2, rfl, h.2.1⟩
    have qR : ∀ {M}, Q M → ∀ j, rdc M bd2 j = (procC p2 u2)[j]? := fun h j => by rw [hQ] at h; exact h.2.2.1.rd j
    have qT : ∀ {M}, Q M → TabZ M v2 T2 := fun h => by rw [hQ] at h; exact h.2.2.2
    have KE : Q N := by rw [hQ]; exact ⟨k2, w2, y2, z2⟩
    clear hQ w2 y2 z2 k2
    have row0 := @proof_row p2 T2
    obtain ⟨pf, hpf⟩ : ∃ t, t = (p2.good && proofB p2 T2) := ⟨_, rfl⟩
    obtain ⟨g2, hg2⟩ : ∃ t, t = p2.good := ⟨_, rfl⟩
    obtain ⟨W2, hW2⟩ : ∃ t, t = (if p2.good then p2.tab p2.bestC p2.turns.toNat else []) := ⟨_, rfl⟩
    have pg : pf = true → g2 = true ∧ W2 = p2.tab p2.bestC p2.turns.toNat ∧ W2.length ≠ 0 ∧ (W2.getD 0 []).length = 21 := fun h => by
      rw [hpf, Bool.and_eq_true] at h
      rw [hg2, hW2, if_pos h.1]
      exact ⟨h.1, rfl, by rw [Pr.tab_len]; omega, by rw [Pr.tab_at _ _ (Nat.zero_le _)]; exact Pr.rowsN_len _ _ _⟩
    obtain ⟨N9, hNN⟩ : ∃ X, X = N := ⟨_, rfl⟩
    rw [← hNN] at KE RE ⊢
    clear hNN
    have K9 := KE
    clear KE
    have R9 := RE
    clear RE
    have D1 : ∀ M, Q M → RC Try.prog 15 [procV p2 u2, v2] M (AnsV (.tuple #[.bool pf, .bool g2])) := fun M h => by rw [hpf, hg2]; exact implProof6Z_rc _ _ _ p2 T2 (qP h) (qT h)
    have D2 : ∀ M, Q M → RC Try.prog 16 [procV p2 u2, v2] M (AnsV (.tuple #[.bool pf, .bool g2])) := fun M h => by rw [hpf, hg2]; exact specProof6Z_rc _ _ _ p2 T2 (qP h) (qT h)
    have D3 : ∀ M, Q M → RC Try.prog 17 [procV p2 u2] M (AnsO M (TabO W2) fun w => .tuple #[w, .bool g2]) := fun M h => by rw [hW2, hg2]; exact implWorthTable_rc _ _ p2 (qP h)
    have D4 : ∀ M, Q M → RC Try.prog 18 [procV p2 u2] M (AnsO M (TabO W2) fun w => .tuple #[w, .bool g2]) := fun M h => by rw [hW2, hg2]; exact specWorthTable_rc _ _ p2 (qP h)
    rw [← hpf] at row0
    clear hpf hg2 hW2 qP
    refine callH_rc (D1 _ K9) ?_
    rintro r new ⟨rfl, nr⟩
    have K10 := Qx new K9
    have R10 := R9.ext new
    obtain ⟨N10, hN10⟩ : ∃ N, N = N9 ++ new := ⟨_, rfl⟩
    rw [← hN10] at K10 R10 ⊢
    clear hN10 R9 K9
    clear nr
    simp (config := {implicitDefEqProofs := false, maxDischargeDepth := 20}) (disch := first | omega | (simp only [lenE]; done) | (simp only [lenE]; omega) | rfl | (simp only [lenE, markR_len]; done) | (simp only [lenE, markR_len]; omega)) only [runE, mapE, listE, initT_5, initT_6, initT_7, initT_8, resV, oneV, binA, unA, reduceCtorEq, Nat.reduceEqDiff, Nat.reduceAdd, Nat.reduceLT, Nat.reduceLeDiff, Nat.reduceMul, Nat.reduceSub, ↓reduceIte, decide_true, decide_false, Bool.true_eq_false, Bool.false_eq_true, Bool.not_true, Bool.not_false, if_true, if_false, and_true, true_and, memE, celE, w64, Nat.zero_add, Nat.add_zero, Nat.mul_one, putL, and_self, ldn, kR (qK K10), qR K10, ext_2_0, ext_2_1, ext_3_0, ext_3_1, ext_3_2, bne_self_eq_false, beq_self_eq_true, goG_undef, Bool.not_true, Bool.not_false]
    refine callH_rc (D2 _ K10) ?_
    rintro r new ⟨rfl, nr⟩
    have K11 := Qx new K10
    have R11 := R10.ext new
    obtain ⟨N11, hN11⟩ : ∃ N, N = N10 ++ new := ⟨_, rfl⟩
    rw [← hN11] at K11 R11 ⊢
    clear hN11 R10 K10
    clear nr
    cases pf with
    | false =>
      as_aux_lemma =>
      clear D1 D2 D3 D4 row0 pg
      simp (config := {implicitDefEqProofs := false, maxDischargeDepth := 20}) (disch := first | omega | (simp only [lenE]; done) | (simp only [lenE]; omega) | rfl | (simp only [lenE, markR_len]; done) | (simp only [lenE, markR_len]; omega)) only [runE, mapE, listE, initT_5, initT_6, initT_7, initT_8, resV, oneV, binA, unA, reduceCtorEq, Nat.reduceEqDiff, Nat.reduceAdd, Nat.reduceLT, Nat.reduceLeDiff, Nat.reduceMul, Nat.reduceSub, ↓reduceIte, decide_true, decide_false, Bool.true_eq_false, Bool.false_eq_true, Bool.not_true, Bool.not_false, if_true, if_false, and_true, true_and, memE, celE, w64, Nat.zero_add, Nat.add_zero, Nat.mul_one, putL, and_self, ldn, kR (qK K11), qR K11, ext_2_0, ext_2_1, ext_3_0, ext_3_1, ext_3_2, bne_self_eq_false, beq_self_eq_true, goG_undef, Bool.not_true, Bool.not_false]
      refine callH_rc (C5 _ (qK K11)) ?_
      rintro r new ⟨nr, Vv, rfl, hw⟩
      have Vn := PairsO.in hw.now
      clear hw
      have K12 := Qx new K11
      have R12 := R11.ext new
      obtain ⟨N12, hN12⟩ : ∃ N, N = N11 ++ new := ⟨_, rfl⟩
      rw [← hN12] at K12 R12 Vn ⊢
      clear hN12 R11 K11
      have V12 := Vn
      clear Vn nr
      simp (config := {implicitDefEqProofs := false, maxDischargeDepth := 20}) (disch := first | omega | (simp only [lenE]; done) | (simp only [lenE]; omega) | rfl | (simp only [lenE, markR_len]; done) | (simp only [lenE, markR_len]; omega)) only [runE, mapE, listE, initT_5, initT_6, initT_7, initT_8, resV, oneV, binA, unA, reduceCtorEq, Nat.reduceEqDiff, Nat.reduceAdd, Nat.reduceLT, Nat.reduceLeDiff, Nat.reduceMul, Nat.reduceSub, ↓reduceIte, decide_true, decide_false, Bool.true_eq_false, Bool.false_eq_true, Bool.not_true, Bool.not_false, if_true, if_false, and_true, true_and, memE, celE, w64, Nat.zero_add, Nat.add_zero, Nat.mul_one, putL, and_self, ldn, kR (qK K12), qR K12, ext_2_0, ext_2_1, ext_3_0, ext_3_1, ext_3_2, bne_self_eq_false, beq_self_eq_true, goG_undef, Bool.not_true, Bool.not_false, iada_0, iada_1]
      refine callH_rc (C6 _ (qK K12)) ?_
      rintro r new ⟨nr, Wv, rfl, hw⟩
      have Wn := PairsO.in hw.now
      clear hw
      have K13 := Qx new K12
      have R13 := R12.ext new
      have V13 := V12.ext new
      obtain ⟨N13, hN13⟩ : ∃ N, N = N12 ++ new := ⟨_, rfl⟩
      rw [← hN13] at K13 R13 V13 Wn ⊢
      clear hN13 R12 V12 K12
      have W13 := Wn
      clear Wn nr
      simp (config := {implicitDefEqProofs := false, maxDischargeDepth := 20}) (disch := first | omega | (simp only [lenE]; done) | (simp only [lenE]; omega) | rfl | (simp only [lenE, markR_len]; done) | (simp only [lenE, markR_len]; omega)) only [runE, mapE, listE, initT_5, initT_6, initT_7, initT_8, resV, oneV, binA, unA, reduceCtorEq, Nat.reduceEqDiff, Nat.reduceAdd, Nat.reduceLT, Nat.reduceLeDiff, Nat.reduceMul, Nat.reduceSub, ↓reduceIte, decide_true, decide_false, Bool.true_eq_false, Bool.false_eq_true, Bool.not_true, Bool.not_false, if_true, if_false, and_true, true_and, memE, celE, w64, Nat.zero_add, Nat.add_zero, Nat.mul_one, putL, and_self, ldn, kR (qK K13), qR K13, ext_2_0, ext_2_1, ext_3_0, ext_3_1, ext_3_2, bne_self_eq_false, beq_self_eq_true, goG_undef, Bool.not_true, Bool.not_false, iada_0, iada_1]
      refine callH_rc (rPairs_rc _ _ _ lv V13 W13) ?_
      rintro r new ⟨rfl, nr⟩
      have K14 := Qx new K13
      have R14 := R13.ext new
      have V14 := V13.ext new
      have W14 := W13.ext new
      obtain ⟨N14, hN14⟩ : ∃ N, N = N13 ++ new := ⟨_, rfl⟩
      rw [← hN14] at K14 R14 V14 W14 ⊢
      clear hN14 R13 V13 W13 K13
      clear nr
      clear W14
      obtain ⟨-, vi, vf, rfl, hvc⟩ := V14
      obtain ⟨c1, c2⟩ := hvc t lt
      rw [le] at c1 c2
      clear hvc
      have ik : iadA 2 (.slice (some ⟨vi, 0, none⟩) lv.length vf) (.int .i64 (t : Int)) = some (.pointer (some ⟨vi, t * 2, none⟩)) := by
        have := iadA_in (id := vi) (off := 0) (n := lv.length) (fl := vf) (sz := 2) (k := .i64) (j := t) lt
        simpa using this
      have hU := (kU (qK K14)).len
      have hb10 := R14.len
      have fl0 : ((p.w.length : Int) - 1 - 10) = p.floor := rfl
      have wl : p.w.length ≤ 9223372036854775807 := (kU (qK K14)).bd
      have KL := kR (qK (Qx [(⟨.own, 49, [.int .i64 s, .int .i64 S]⟩ : Blk)] K14))
      simp (config := {implicitDefEqProofs := false, maxDischargeDepth := 20}) (disch := first | omega | (simp only [lenE]; done) | (simp only [lenE]; omega) | rfl | (simp only [lenE, markR_len]; done) | (simp only [lenE, markR_len]; omega)) only [runE, mapE, listE, initT_5, initT_6, initT_7, initT_8, resV, oneV, binA, unA, reduceCtorEq, Nat.reduceEqDiff, Nat.reduceAdd, Nat.reduceLT, Nat.reduceLeDiff, Nat.reduceMul, Nat.reduceSub, ↓reduceIte, decide_true, decide_false, Bool.true_eq_false, Bool.false_eq_true, Bool.not_true, Bool.not_false, if_true, if_false, and_true, true_and, memE, celE, w64, Nat.zero_add, Nat.add_zero, Nat.mul_one, putL, and_self, ldn, kR (qK K14), qR K14, ext_2_0, ext_2_1, ext_3_0, ext_3_1, ext_3_2, bne_self_eq_false, beq_self_eq_true, goG_undef, Bool.not_true, Bool.not_false, iada_0, iada_1, ik, c1, c2, KL, hU]
      have RB := R14.ext [(⟨.own, 49, [.int .i64 s, .int .i64 S]⟩ : Blk)]
      by_cases hxs : xq < s
      · have ey : (yo == S) = true := by rw [o1 hxs]; exact beq_self_eq_true _
        simp (config := {implicitDefEqProofs := false, maxDischargeDepth := 20}) (disch := first | omega | (simp only [lenE]; done) | (simp only [lenE]; omega) | rfl | (simp only [lenE, markR_len]; done) | (simp only [lenE, markR_len]; omega)) only [runE, mapE, listE, initT_5, initT_6, initT_7, initT_8, resV, oneV, binA, unA, reduceCtorEq, Nat.reduceEqDiff, Nat.reduceAdd, Nat.reduceLT, Nat.reduceLeDiff, Nat.reduceMul, Nat.reduceSub, ↓reduceIte, decide_true, decide_false, Bool.true_eq_false, Bool.false_eq_true, Bool.not_true, Bool.not_false, if_true, if_false, and_true, true_and, memE, celE, w64, Nat.zero_add, Nat.add_zero, Nat.mul_one, putL, and_self, ldn, kR (qK K14), qR K14, ext_2_0, ext_2_1, ext_3_0, ext_3_1, ext_3_2, bne_self_eq_false, beq_self_eq_true, goG_undef, Bool.not_true, Bool.not_false, iada_0, iada_1, hxs, ey]
      · have ey : (yo == xq) = true := by rw [o2 (by omega)]; exact beq_self_eq_true _
        simp (config := {implicitDefEqProofs := false, maxDischargeDepth := 20}) (disch := first | omega | (simp only [lenE]; done) | (simp only [lenE]; omega) | rfl | (simp only [lenE, markR_len]; done) | (simp only [lenE, markR_len]; omega)) only [runE, mapE, listE, initT_5, initT_6, initT_7, initT_8, resV, oneV, binA, unA, reduceCtorEq, Nat.reduceEqDiff, Nat.reduceAdd, Nat.reduceLT, Nat.reduceLeDiff, Nat.reduceMul, Nat.reduceSub, ↓reduceIte, decide_true, decide_false, Bool.true_eq_false, Bool.false_eq_true, Bool.not_true, Bool.not_false, if_true, if_false, and_true, true_and, memE, celE, w64, Nat.zero_add, Nat.add_zero, Nat.mul_one, putL, and_self, ldn, kR (qK K14), qR K14, ext_2_0, ext_2_1, ext_3_0, ext_3_1, ext_3_2, bne_self_eq_false, beq_self_eq_true, goG_undef, Bool.not_true, Bool.not_false, iada_0, iada_1, hxs]
        rw [fl0]
        refine loop_inv mixed (fun σ => ∃ i : Nat, σ.m = N14 ++ [(⟨.own, 49, [.int .i64 s, .int .i64 S]⟩ : Blk)] ∧ σ.t 5 = .int .i64 xq ∧ σ.t 6 = .int .i64 yo ∧ σ.t 10 = Rv ∧ σ.t 35 = .pointer (some ⟨N14.length, 0, none⟩) ∧ σ.t 36 = .int .i64 p.floor ∧ σ.t 37 = .int .i64 i) (fun σ => bl.length - (intOf (σ.t 37)).toNat)
          ⟨0, rfl, rfl, rfl, rfl, rfl, rfl, rfl⟩ ?_
        rintro σ ⟨i, um, u5, u6, u10, u35, u36, u37⟩
        by_cases hi : i < bl.length
        · have hi' : (i : Int) < bl.length := by omega
          have aj := at_z RB (z := S - p.floor) (i := j) jS jl
          have lj := RB.ld j jl
          have rbd := RB.bd
          have ng : ¬ (bl.getD i 0 < bl.getD j 0) := by have := bmin i hi; omega
          have pf1 : -100 ≤ p.floor ∧ p.floor ≤ 100 := by have : p.floor = S - j := by omega
                                                          omega
          simp (config := {implicitDefEqProofs := false, maxDischargeDepth := 20}) (disch := first | omega | (simp only [lenE]; done) | (simp only [lenE]; omega) | rfl | (simp only [lenE, markR_len]; done) | (simp only [lenE, markR_len]; omega)) only [runE, mapE, listE, initT_5, initT_6, initT_7, initT_8, resV, oneV, binA, unA, reduceCtorEq, Nat.reduceEqDiff, Nat.reduceAdd, Nat.reduceLT, Nat.reduceLeDiff, Nat.reduceMul, Nat.reduceSub, ↓reduceIte, decide_true, decide_false, Bool.true_eq_false, Bool.false_eq_true, Bool.not_true, Bool.not_false, if_true, if_false, and_true, true_and, memE, celE, w64, Nat.zero_add, Nat.add_zero, Nat.mul_one, putL, and_self, ldn, um, u5, u6, u10, u35, u36, u37, iada_0, iada_1, RB.len, hi', RB.at_ i hi, RB.ld i hi, aj, lj, ng]
          all_goals exact ⟨⟨i + 1, by simp⟩, by simp [intOf]; omega⟩
        · have hi' : ¬ ((i : Int) < bl.length) := by omega
          simp (config := {implicitDefEqProofs := false, maxDischargeDepth := 20}) (disch := first | omega | (simp only [lenE]; done) | (simp only [lenE]; omega) | rfl | (simp only [lenE, markR_len]; done) | (simp only [lenE, markR_len]; omega)) only [runE, mapE, listE, initT_5, initT_6, initT_7, initT_8, resV, oneV, binA, unA, reduceCtorEq, Nat.reduceEqDiff, Nat.reduceAdd, Nat.reduceLT, Nat.reduceLeDiff, Nat.reduceMul, Nat.reduceSub, ↓reduceIte, decide_true, decide_false, Bool.true_eq_false, Bool.false_eq_true, Bool.not_true, Bool.not_false, if_true, if_false, and_true, true_and, memE, celE, w64, Nat.zero_add, Nat.add_zero, Nat.mul_one, putL, and_self, ldn, um, u5, u6, u10, u35, u36, u37, RB.len, hi', ey]
    | true =>
      as_aux_lemma =>
      obtain ⟨g2t, hW, hW0, hW21⟩ := pg rfl
      rw [g2t] at D3 D4
      obtain ⟨ht0, ht21, hle⟩ := row0 rfl
      rw [← hW] at hle
      clear hW D1 D2 row0 pg
      simp (config := {implicitDefEqProofs := false, maxDischargeDepth := 20}) (disch := first | omega | (simp only [lenE]; done) | (simp only [lenE]; omega) | rfl | (simp only [lenE, markR_len]; done) | (simp only [lenE, markR_len]; omega)) only [runE, mapE, listE, initT_5, initT_6, initT_7, initT_8, resV, oneV, binA, unA, reduceCtorEq, Nat.reduceEqDiff, Nat.reduceAdd, Nat.reduceLT, Nat.reduceLeDiff, Nat.reduceMul, Nat.reduceSub, ↓reduceIte, decide_true, decide_false, Bool.true_eq_false, Bool.false_eq_true, Bool.not_true, Bool.not_false, if_true, if_false, and_true, true_and, memE, celE, w64, Nat.zero_add, Nat.add_zero, Nat.mul_one, putL, and_self, ldn, kR (qK K11), qR K11, ext_2_0, ext_2_1, ext_3_0, ext_3_1, ext_3_2, bne_self_eq_false, beq_self_eq_true, goG_undef, Bool.not_true, Bool.not_false]
      refine callH_rc (D3 _ K11) ?_
      rintro r new ⟨nr, Tv, rfl, hw⟩
      have Tn := TabO.in hw.now
      clear hw
      have K12 := Qx new K11
      have R12 := R11.ext new
      obtain ⟨N12, hN12⟩ : ∃ N, N = N11 ++ new := ⟨_, rfl⟩
      rw [← hN12] at K12 R12 Tn ⊢
      clear hN12 R11 K11
      have T12 := Tn
      clear Tn nr
      simp (config := {implicitDefEqProofs := false, maxDischargeDepth := 20}) (disch := first | omega | (simp only [lenE]; done) | (simp only [lenE]; omega) | rfl | (simp only [lenE, markR_len]; done) | (simp only [lenE, markR_len]; omega)) only [runE, mapE, listE, initT_5, initT_6, initT_7, initT_8, resV, oneV, binA, unA, reduceCtorEq, Nat.reduceEqDiff, Nat.reduceAdd, Nat.reduceLT, Nat.reduceLeDiff, Nat.reduceMul, Nat.reduceSub, ↓reduceIte, decide_true, decide_false, Bool.true_eq_false, Bool.false_eq_true, Bool.not_true, Bool.not_false, if_true, if_false, and_true, true_and, memE, celE, w64, Nat.zero_add, Nat.add_zero, Nat.mul_one, putL, and_self, ldn, kR (qK K12), qR K12, ext_2_0, ext_2_1, ext_3_0, ext_3_1, ext_3_2, bne_self_eq_false, beq_self_eq_true, goG_undef, Bool.not_true, Bool.not_false]
      refine callH_rc (D4 _ K12) ?_
      rintro r new ⟨nr, Uv, rfl, hw⟩
      have Un := TabO.in hw.now
      clear hw
      have K13 := Qx new K12
      have R13 := R12.ext new
      have T13 := T12.ext new
      obtain ⟨N13, hN13⟩ : ∃ N, N = N12 ++ new := ⟨_, rfl⟩
      rw [← hN13] at K13 R13 T13 Un ⊢
      clear hN13 R12 T12 K12
      have U13 := Un
      clear Un nr
      simp (config := {implicitDefEqProofs := false, maxDischargeDepth := 20}) (disch := first | omega | (simp only [lenE]; done) | (simp only [lenE]; omega) | rfl | (simp only [lenE, markR_len]; done) | (simp only [lenE, markR_len]; omega)) only [runE, mapE, listE, initT_5, initT_6, initT_7, initT_8, resV, oneV, binA, unA, reduceCtorEq, Nat.reduceEqDiff, Nat.reduceAdd, Nat.reduceLT, Nat.reduceLeDiff, Nat.reduceMul, Nat.reduceSub, ↓reduceIte, decide_true, decide_false, Bool.true_eq_false, Bool.false_eq_true, Bool.not_true, Bool.not_false, if_true, if_false, and_true, true_and, memE, celE, w64, Nat.zero_add, Nat.add_zero, Nat.mul_one, putL, and_self, ldn, kR (qK K13), qR K13, ext_2_0, ext_2_1, ext_3_0, ext_3_1, ext_3_2, bne_self_eq_false, beq_self_eq_true, goG_undef, Bool.not_true, Bool.not_false]
      refine callH_rc (rTable_rc _ _ _ W2 T13 U13) ?_
      rintro r new ⟨rfl, nr⟩
      have K14 := Qx new K13
      have R14 := R13.ext new
      have T14 := T13.ext new
      have U14 := U13.ext new
      obtain ⟨N14, hN14⟩ : ∃ N, N = N13 ++ new := ⟨_, rfl⟩
      rw [← hN14] at K14 R14 T14 U14 ⊢
      clear hN14 R13 T13 U13 K13
      clear nr
      simp (config := {implicitDefEqProofs := false, maxDischargeDepth := 20}) (disch := first | omega | (simp only [lenE]; done) | (simp only [lenE]; omega) | rfl | (simp only [lenE, markR_len]; done) | (simp only [lenE, markR_len]; omega)) only [runE, mapE, listE, initT_5, initT_6, initT_7, initT_8, resV, oneV, binA, unA, reduceCtorEq, Nat.reduceEqDiff, Nat.reduceAdd, Nat.reduceLT, Nat.reduceLeDiff, Nat.reduceMul, Nat.reduceSub, ↓reduceIte, decide_true, decide_false, Bool.true_eq_false, Bool.false_eq_true, Bool.not_true, Bool.not_false, if_true, if_false, and_true, true_and, memE, celE, w64, Nat.zero_add, Nat.add_zero, Nat.mul_one, putL, and_self, ldn, kR (qK K14), qR K14, ext_2_0, ext_2_1, ext_3_0, ext_3_1, ext_3_2, bne_self_eq_false, beq_self_eq_true, goG_undef, Bool.not_true, Bool.not_false]
      clear U14
      obtain ⟨w0, hw0, hW0'⟩ := T14.ld 0 (by omega)
      have wa : iadA 1 Tv (.int .i64 0) = some (pAt Tv 0) := T14.at_ 0 (by omega)
      have hZ := qT K14
      obtain ⟨z0, hz0, hZ0⟩ := hZ.ld 0 (by omega)
      have za : iadA 1 v2 (.int .i64 0) = some (pAt v2 0) := hZ.at_ 0 (by omega)
      clear hZ D3 D4
      refine loop_inv mixed (fun s => ∃ i : Nat, s.m = N14 ∧ s.t 3 = .pointer (some ⟨bd, 0, none⟩) ∧ s.t 4 = .int .i64 (t : Int) ∧ s.t 5 = .int .i64 xq ∧ s.t 6 = .int .i64 yo ∧ s.t 7 = .bool true ∧ s.t 10 = Rv ∧ s.t 21 = v2 ∧ s.t 26 = Tv ∧ s.t 30 = .int .i64 i) (fun s => 21 - (intOf (s.t 30)).toNat)
        ⟨0, rfl, rfl, rfl, rfl, rfl, rfl, rfl, rfl, rfl, rfl⟩ ?_
      rintro σ ⟨i, tm, t3, t4, t5, t6, t7, t10, t21, t26, t30⟩
      by_cases hlt : i < 21
      · have hlt' : (i : Int) < (W2.getD 0 []).length := by omega
        have hng := hle i hlt
        simp (config := {implicitDefEqProofs := false, maxDischargeDepth := 20}) (disch := first | omega | (simp only [lenE]; done) | (simp only [lenE]; omega) | rfl | (simp only [lenE, markR_len]; done) | (simp only [lenE, markR_len]; omega)) only [runE, mapE, listE, initT_5, initT_6, initT_7, initT_8, resV, oneV, binA, unA, reduceCtorEq, Nat.reduceEqDiff, Nat.reduceAdd, Nat.reduceLT, Nat.reduceLeDiff, Nat.reduceMul, Nat.reduceSub, ↓reduceIte, decide_true, decide_false, Bool.true_eq_false, Bool.false_eq_true, Bool.not_true, Bool.not_false, if_true, if_false, and_true, true_and, memE, celE, w64, Nat.zero_add, Nat.add_zero, Nat.mul_one, putL, and_self, ldn, tm, t3, t4, t5, t6, t7, t10, t21, t26, t30, wa, hw0, hW0'.len, hlt', za, hz0, hZ0.at_ i (by omega), hZ0.ld i (by omega), hW0'.at_ i (by omega), hW0'.ld i (by omega), gt_iff_lt, hng]
        all_goals exact ⟨⟨i + 1, by simp⟩, by simp [intOf]; omega⟩
      · have hlt' : ¬ ((i : Int) < (W2.getD 0 []).length) := by omega
        clear hle hlt
        simp (config := {implicitDefEqProofs := false, maxDischargeDepth := 20}) (disch := first | omega | (simp only [lenE]; done) | (simp only [lenE]; omega) | rfl | (simp only [lenE, markR_len]; done) | (simp only [lenE, markR_len]; omega)) only [runE, mapE, listE, initT_5, initT_6, initT_7, initT_8, resV, oneV, binA, unA, reduceCtorEq, Nat.reduceEqDiff, Nat.reduceAdd, Nat.reduceLT, Nat.reduceLeDiff, Nat.reduceMul, Nat.reduceSub, ↓reduceIte, decide_true, decide_false, Bool.true_eq_false, Bool.false_eq_true, Bool.not_true, Bool.not_false, if_true, if_false, and_true, true_and, memE, celE, w64, Nat.zero_add, Nat.add_zero, Nat.mul_one, putL, and_self, ldn, tm, t3, t4, t5, t6, t7, t10, t21, t26, t30, wa, hw0, hW0'.len, hlt', kR (qK K14), qR K14, ext_2_0, ext_2_1, ext_3_0, ext_3_1, ext_3_2, bne_self_eq_false, beq_self_eq_true, goG_undef, Bool.not_true, Bool.not_false]
        clear wa hw0 hW0' za hz0 hZ0
        clear T14
        refine callH_rc (C5 _ (qK K14)) ?_
        rintro r new ⟨nr, Vv, rfl, hw⟩
        have Vn := PairsO.in hw.now
        clear hw
        have K15 := Qx new K14
        have R15 := R14.ext new
        obtain ⟨N15, hN15⟩ : ∃ N, N = N14 ++ new := ⟨_, rfl⟩
        rw [← hN15] at K15 R15 Vn ⊢
        clear hN15 R14 K14
        have V15 := Vn
        clear Vn nr
        simp (config := {implicitDefEqProofs := false, maxDischargeDepth := 20}) (disch := first | omega | (simp only [lenE]; done) | (simp only [lenE]; omega) | rfl | (simp only [lenE, markR_len]; done) | (simp only [lenE, markR_len]; omega)) only [runE, mapE, listE, initT_5, initT_6, initT_7, initT_8, resV, oneV, binA, unA, reduceCtorEq, Nat.reduceEqDiff, Nat.reduceAdd, Nat.reduceLT, Nat.reduceLeDiff, Nat.reduceMul, Nat.reduceSub, ↓reduceIte, decide_true, decide_false, Bool.true_eq_false, Bool.false_eq_true, Bool.not_true, Bool.not_false, if_true, if_false, and_true, true_and, memE, celE, w64, Nat.zero_add, Nat.add_zero, Nat.mul_one, putL, and_self, ldn, kR (qK K15), qR K15, ext_2_0, ext_2_1, ext_3_0, ext_3_1, ext_3_2, bne_self_eq_false, beq_self_eq_true, goG_undef, Bool.not_true, Bool.not_false, iada_0, iada_1, t3, t4, t5, t6, t7, t10, t21, t26, t30]
        refine callH_rc (C6 _ (qK K15)) ?_
        rintro r new ⟨nr, Wv, rfl, hw⟩
        have Wn := PairsO.in hw.now
        clear hw
        have K16 := Qx new K15
        have R16 := R15.ext new
        have V16 := V15.ext new
        obtain ⟨N16, hN16⟩ : ∃ N, N = N15 ++ new := ⟨_, rfl⟩
        rw [← hN16] at K16 R16 V16 Wn ⊢
        clear hN16 R15 V15 K15
        have W16 := Wn
        clear Wn nr
        simp (config := {implicitDefEqProofs := false, maxDischargeDepth := 20}) (disch := first | omega | (simp only [lenE]; done) | (simp only [lenE]; omega) | rfl | (simp only [lenE, markR_len]; done) | (simp only [lenE, markR_len]; omega)) only [runE, mapE, listE, initT_5, initT_6, initT_7, initT_8, resV, oneV, binA, unA, reduceCtorEq, Nat.reduceEqDiff, Nat.reduceAdd, Nat.reduceLT, Nat.reduceLeDiff, Nat.reduceMul, Nat.reduceSub, ↓reduceIte, decide_true, decide_false, Bool.true_eq_false, Bool.false_eq_true, Bool.not_true, Bool.not_false, if_true, if_false, and_true, true_and, memE, celE, w64, Nat.zero_add, Nat.add_zero, Nat.mul_one, putL, and_self, ldn, kR (qK K16), qR K16, ext_2_0, ext_2_1, ext_3_0, ext_3_1, ext_3_2, bne_self_eq_false, beq_self_eq_true, goG_undef, Bool.not_true, Bool.not_false, iada_0, iada_1, t3, t4, t5, t6, t7, t10, t21, t26, t30]
        refine callH_rc (rPairs_rc _ _ _ lv V16 W16) ?_
        rintro r new ⟨rfl, nr⟩
        have K17 := Qx new K16
        have R17 := R16.ext new
        have V17 := V16.ext new
        have W17 := W16.ext new
        obtain ⟨N17, hN17⟩ : ∃ N, N = N16 ++ new := ⟨_, rfl⟩
        rw [← hN17] at K17 R17 V17 W17 ⊢
        clear hN17 R16 V16 W16 K16
        clear nr
        clear W17
        obtain ⟨-, vi, vf, rfl, hvc⟩ := V17
        obtain ⟨c1, c2⟩ := hvc t lt
        rw [le] at c1 c2
        clear hvc
        have ik : iadA 2 (.slice (some ⟨vi, 0, none⟩) lv.length vf) (.int .i64 (t : Int)) = some (.pointer (some ⟨vi, t * 2, none⟩)) := by
          have := iadA_in (id := vi) (off := 0) (n := lv.length) (fl := vf) (sz := 2) (k := .i64) (j := t) lt
          simpa using this
        have hU := (kU (qK K17)).len
        have hb10 := R17.len
        have fl0 : ((p.w.length : Int) - 1 - 10) = p.floor := rfl
        have wl : p.w.length ≤ 9223372036854775807 := (kU (qK K17)).bd
        have KL := kR (qK (Qx [(⟨.own, 49, [.int .i64 s, .int .i64 S]⟩ : Blk)] K17))
        simp (config := {implicitDefEqProofs := false, maxDischargeDepth := 20}) (disch := first | omega | (simp only [lenE]; done) | (simp only [lenE]; omega) | rfl | (simp only [lenE, markR_len]; done) | (simp only [lenE, markR_len]; omega)) only [runE, mapE, listE, initT_5, initT_6, initT_7, initT_8, resV, oneV, binA, unA, reduceCtorEq, Nat.reduceEqDiff, Nat.reduceAdd, Nat.reduceLT, Nat.reduceLeDiff, Nat.reduceMul, Nat.reduceSub, ↓reduceIte, decide_true, decide_false, Bool.true_eq_false, Bool.false_eq_true, Bool.not_true, Bool.not_false, if_true, if_false, and_true, true_and, memE, celE, w64, Nat.zero_add, Nat.add_zero, Nat.mul_one, putL, and_self, ldn, kR (qK K17), qR K17, ext_2_0, ext_2_1, ext_3_0, ext_3_1, ext_3_2, bne_self_eq_false, beq_self_eq_true, goG_undef, Bool.not_true, Bool.not_false, iada_0, iada_1, t3, t4, t5, t6, t7, t10, t21, t26, t30, ik, c1, c2, KL, hU]
        have RB := R17.ext [(⟨.own, 49, [.int .i64 s, .int .i64 S]⟩ : Blk)]
        by_cases hxs : xq < s
        · have ey : (yo == S) = true := by rw [o1 hxs]; exact beq_self_eq_true _
          simp (config := {implicitDefEqProofs := false, maxDischargeDepth := 20}) (disch := first | omega | (simp only [lenE]; done) | (simp only [lenE]; omega) | rfl | (simp only [lenE, markR_len]; done) | (simp only [lenE, markR_len]; omega)) only [runE, mapE, listE, initT_5, initT_6, initT_7, initT_8, resV, oneV, binA, unA, reduceCtorEq, Nat.reduceEqDiff, Nat.reduceAdd, Nat.reduceLT, Nat.reduceLeDiff, Nat.reduceMul, Nat.reduceSub, ↓reduceIte, decide_true, decide_false, Bool.true_eq_false, Bool.false_eq_true, Bool.not_true, Bool.not_false, if_true, if_false, and_true, true_and, memE, celE, w64, Nat.zero_add, Nat.add_zero, Nat.mul_one, putL, and_self, ldn, kR (qK K17), qR K17, ext_2_0, ext_2_1, ext_3_0, ext_3_1, ext_3_2, bne_self_eq_false, beq_self_eq_true, goG_undef, Bool.not_true, Bool.not_false, iada_0, iada_1, t3, t4, t5, t6, t7, t10, t21, t26, t30, hxs, ey]
        · have ey : (yo == xq) = true := by rw [o2 (by omega)]; exact beq_self_eq_true _
          simp (config := {implicitDefEqProofs := false, maxDischargeDepth := 20}) (disch := first | omega | (simp only [lenE]; done) | (simp only [lenE]; omega) | rfl | (simp only [lenE, markR_len]; done) | (simp only [lenE, markR_len]; omega)) only [runE, mapE, listE, initT_5, initT_6, initT_7, initT_8, resV, oneV, binA, unA, reduceCtorEq, Nat.reduceEqDiff, Nat.reduceAdd, Nat.reduceLT, Nat.reduceLeDiff, Nat.reduceMul, Nat.reduceSub, ↓reduceIte, decide_true, decide_false, Bool.true_eq_false, Bool.false_eq_true, Bool.not_true, Bool.not_false, if_true, if_false, and_true, true_and, memE, celE, w64, Nat.zero_add, Nat.add_zero, Nat.mul_one, putL, and_self, ldn, kR (qK K17), qR K17, ext_2_0, ext_2_1, ext_3_0, ext_3_1, ext_3_2, bne_self_eq_false, beq_self_eq_true, goG_undef, Bool.not_true, Bool.not_false, iada_0, iada_1, t3, t4, t5, t6, t7, t10, t21, t26, t30, hxs]
          rw [fl0]
          refine loop_inv mixed (fun σ => ∃ i : Nat, σ.m = N17 ++ [(⟨.own, 49, [.int .i64 s, .int .i64 S]⟩ : Blk)] ∧ σ.t 5 = .int .i64 xq ∧ σ.t 6 = .int .i64 yo ∧ σ.t 10 = Rv ∧ σ.t 35 = .pointer (some ⟨N17.length, 0, none⟩) ∧ σ.t 36 = .int .i64 p.floor ∧ σ.t 37 = .int .i64 i) (fun σ => bl.length - (intOf (σ.t 37)).toNat)
            ⟨0, by simp only [put_t, put_t', put_m, putT_t, putT_t', putT_m, init_t, init_m, initT_0, initT_1, initT_2, initT_3, initT_4, initT_5, initT_6, initT_7, initT_8, Nat.reduceEqDiff, ↓reduceIte], by simp only [put_t, put_t', put_m, putT_t, putT_t', putT_m, init_t, init_m, initT_0, initT_1, initT_2, initT_3, initT_4, initT_5, initT_6, initT_7, initT_8, Nat.reduceEqDiff, ↓reduceIte, t5], by simp only [put_t, put_t', put_m, putT_t, putT_t', putT_m, init_t, init_m, initT_0, initT_1, initT_2, initT_3, initT_4, initT_5, initT_6, initT_7, initT_8, Nat.reduceEqDiff, ↓reduceIte, t6], by simp only [put_t, put_t', put_m, putT_t, putT_t', putT_m, init_t, init_m, initT_0, initT_1, initT_2, initT_3, initT_4, initT_5, initT_6, initT_7, initT_8, Nat.reduceEqDiff, ↓reduceIte, t10], by simp only [put_t, put_t', put_m, putT_t, putT_t', putT_m, init_t, init_m, initT_0, initT_1, initT_2, initT_3, initT_4, initT_5, initT_6, initT_7, initT_8, Nat.reduceEqDiff, ↓reduceIte], by simp only [put_t, put_t', put_m, putT_t, putT_t', putT_m, init_t, init_m, initT_0, initT_1, initT_2, initT_3, initT_4, initT_5, initT_6, initT_7, initT_8, Nat.reduceEqDiff, ↓reduceIte], by simp only [put_t, put_t', put_m, putT_t, putT_t', putT_m, init_t, init_m, initT_0, initT_1, initT_2, initT_3, initT_4, initT_5, initT_6, initT_7, initT_8, Nat.reduceEqDiff, ↓reduceIte]; rfl⟩ ?_
          rintro σ ⟨i, um, u5, u6, u10, u35, u36, u37⟩
          by_cases hi : i < bl.length
          · have hi' : (i : Int) < bl.length := by omega
            have aj := at_z RB (z := S - p.floor) (i := j) jS jl
            have lj := RB.ld j jl
            have rbd := RB.bd
            have ng : ¬ (bl.getD i 0 < bl.getD j 0) := by have := bmin i hi; omega
            have pf1 : -100 ≤ p.floor ∧ p.floor ≤ 100 := by have : p.floor = S - j := by omega
                                                            omega
            simp (config := {implicitDefEqProofs := false, maxDischargeDepth := 20}) (disch := first | omega | (simp only [lenE]; done) | (simp only [lenE]; omega) | rfl | (simp only [lenE, markR_len]; done) | (simp only [lenE, markR_len]; omega)) only [runE, mapE, listE, initT_5, initT_6, initT_7, initT_8, resV, oneV, binA, unA, reduceCtorEq, Nat.reduceEqDiff, Nat.reduceAdd, Nat.reduceLT, Nat.reduceLeDiff, Nat.reduceMul, Nat.reduceSub, ↓reduceIte, decide_true, decide_false, Bool.true_eq_false, Bool.false_eq_true, Bool.not_true, Bool.not_false, if_true, if_false, and_true, true_and, memE, celE, w64, Nat.zero_add, Nat.add_zero, Nat.mul_one, putL, and_self, ldn, um, u5, u6, u10, u35, u36, u37, iada_0, iada_1, RB.len, hi', RB.at_ i hi, RB.ld i hi, aj, lj, ng]
            all_goals exact ⟨⟨i + 1, by simp⟩, by simp [intOf]; omega⟩
          · have hi' : ¬ ((i : Int) < bl.length) := by omega
            simp (config := {implicitDefEqProofs := false, maxDischargeDepth := 20}) (disch := first | omega | (simp only [lenE]; done) | (simp only [lenE]; omega) | rfl | (simp only [lenE, markR_len]; done) | (simp only [lenE, markR_len]; omega)) only [runE, mapE, listE, initT_5, initT_6, initT_7, initT_8, resV, oneV, binA, unA, reduceCtorEq, Nat.reduceEqDiff, Nat.reduceAdd, Nat.reduceLT, Nat.reduceLeDiff, Nat.reduceMul, Nat.reduceSub, ↓reduceIte, decide_true, decide_false, Bool.true_eq_false, Bool.false_eq_true, Bool.not_true, Bool.not_false, if_true, if_false, and_true, true_and, memE, celE, w64, Nat.zero_add, Nat.add_zero, Nat.mul_one, putL, and_self, ldn, um, u5, u6, u10, u35, u36, u37, RB.len, hi', ey]
end Go.Proofs.Ytckpfgkgigicpaa.Ab
end
section
namespace Go.Proofs.Ytckpfgkgigicpaa.Ab
open Go Go.RowKit
set_option linter.unusedVariables false
theorem ws_word : ∀ (p r : List Char), p.all (fun c => c != ' ') = true → wordsSigns (p ++ ' ' :: r) = p :: wordsSigns r
  | [], r, _ => by rw [List.nil_append, wordsSigns]
  | c :: p, r, h => by
    rw [List.all_cons, Bool.and_eq_true] at h
    have hc : c ≠ ' ' := by simpa using h.1
    rw [List.cons_append, wordsSigns, ws_word p r h.2]
    intro e; exact hc e
def sumW : List Char := ['0', '9', 'c', 'e', '4', '5', 'd', 'b', 'a', '0', '9', '4', '6', '4', '2', '5', 'b', 'f', '6', 'c', '7', '6', 'a', 'f', '8', '1', 'a', '9', '0', 'a', '5', 'c', '2', 'e', '3', 'e', '1', 'a', 'b', 'f', 'a', '8', '5', '5', '4', '6', '7', '4', '6', '4', '2', 'b', '8', '6', 'f', '2', '8', '5', 'd', 'e', 'c', 'f', 'a', '8']
def restW : List Char := ['a', 't', ' ', 'l', 'o', 'o', 'p', '.', 'e', 'x', 'a', 'm', 'p', 'l', 'e', '/', 'g', '0', '1', '1', '1', '1', '/', 'l', 'a', 'w', 's', '.', 'F', 'n', 'L', 'e', 'v', 'e', 'l', 's']
set_option maxRecDepth 100000 in
theorem head_is : Try.prog.initOrder = String.ofList (['h', 'a', 'r', 'n', 'e', 's', 's'] ++ ' ' :: (sumW ++ ' ' :: (['c', 'u', 't'] ++ ' ' :: restW))) := by kernel_rfl
set_option maxRecDepth 100000 in
theorem sum_ok : isSumSigns sumW = true := by kernel_rfl
theorem head_words : behindMainWord (wordsSigns Try.prog.initOrder.toList) = ['c', 'u', 't'] :: wordsSigns restW := by
  rw [head_is, String.toList_ofList, ws_word _ _ (by decide), ws_word _ _ (by decide), ws_word _ _ (by decide)]
  simp only [behindMainWord, sum_ok, Bool.and_true]
  rfl
set_option maxRecDepth 100000 in
theorem strip_cut (X : List (List Char)) : stripLifts liftWords (['c', 'u', 't'] :: X) = ([], ['c', 'u', 't'] :: X) := by kernel_rfl
theorem lifts_gen (P : Program) (X : List (List Char)) (h : behindMainWord (wordsSigns P.initOrder.toList) = ['c', 'u', 't'] :: X) : P.headLifts = [] := by
  unfold Program.headLifts
  rw [h, strip_cut]
  rfl
theorem enters_gen (P : Program) (X : List (List Char)) (h : behindMainWord (wordsSigns P.initOrder.toList) = ['c', 'u', 't'] :: X) (h1 : P.laysLater = false) (h2 : P.bearsReflect = false) (h3 : P.doorFits [] = true) : P.mayEnter = true := by
  unfold Program.mayEnter
  rw [h]
  simp only [strip_cut, h1, h2, h3]
  rfl
theorem finals_gen (P : Program) (X : List (List Char)) (h : behindMainWord (wordsSigns P.initOrder.toList) = ['c', 'u', 't'] :: X) : P.liftsFinal = false := by
  unfold Program.liftsFinal
  rw [lifts_gen P X h, h]
  rfl
theorem make_gen (P : Program) (X : List (List Char)) (h : behindMainWord (wordsSigns P.initOrder.toList) = ['c', 'u', 't'] :: X) : P.make = some .cut := by
  unfold Program.make
  rw [h]
  rfl
set_option maxRecDepth 100000 in
theorem enters : Try.prog.mayEnter = true := enters_gen _ _ head_words (by kernel_rfl) (by kernel_rfl) (by kernel_rfl)
theorem no_finals : Try.prog.liftsFinal = false := finals_gen _ _ head_words
theorem makes : Try.prog.make = some .cut := make_gen _ _ head_words
end Go.Proofs.Ytckpfgkgigicpaa.Ab
end
