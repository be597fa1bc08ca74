/- What the law needs of the texts that it rests on. -/
import Derived.Test.YtmjnjhdacliieaaShFindOffsets0
section
namespace Go.Proofs.Ytmjnjhdacliieaa.Ab
open Go Go.RowKit
set_option linter.unusedVariables false
set_option linter.unusedSimpArgs false
set_option maxRecDepth 10000
def AnsC (m : Mem) (l : List Int) (r : Value) (new : Mem) : Prop := NoRo new ∧ ∃ id, r = .slice (some ⟨id, 0, none⟩) l.length 1 ∧ m.length ≤ id ∧ OwnR (m ++ new) id l
theorem app_toNone {M : Mem} {l : List Int} {v : Value} (hi : IntsA M v l) (hb : l.length ≤ 1048576) :
    appP (M ++ [⟨.own, 3, []⟩]) 3 1 8 (.slice (some ⟨M.length, 0, none⟩) 0 1) v = some (.slice (some ⟨M.length + 1, 0, none⟩) l.length 1, M ++ [deadB] ++ [⟨.own, 3, l.map (Value.int .i64)⟩]) := by
  have h : OwnR (M ++ [⟨.own, 3, []⟩]) M.length [] := OwnR.here M [] M.length rfl
  have hi2 := hi.ext [⟨.own, 3, []⟩]
  unfold appP
  rw [hi2.src]
  simp only [onesB_ints, if_true, appA, hi2.lenOf]
  rw [show (M ++ [⟨.own, 3, []⟩])[M.length]? = some (rowB []) from h]
  simp only [List.length_map, List.length_nil, Nat.zero_mul, true_and]
  rw [if_pos (by omega)]
  simp
theorem ownCopy_rc (m : Mem) (v : Value) (l : List Int) (h : IntsA m v l) (hl : l.length ≤ 1048576) : RC Try.prog 120 [v] m (AnsC m l) := by
  refine rc_of_run mixed ok_spec_l1Own (by simp) (go_start _ _ _ ?_)
  have ha := app_toNone h.ro hl
  rw [roM_len] at ha
  simp (config := {implicitDefEqProofs := false, maxDischargeDepth := 20}) (disch := first | omega | (simp only [lenE]; done) | (simp only [lenE]; omega) | rfl | (simp only [lenE, markR_len]; done) | (simp only [lenE, markR_len]; omega)) only [runE, mapE, listE, initT_5, initT_6, initT_7, initT_8, resV, oneV, binA, unA, reduceCtorEq, Nat.reduceEqDiff, Nat.reduceAdd, Nat.reduceLT, Nat.reduceLeDiff, Nat.reduceMul, Nat.reduceSub, ↓reduceIte, decide_true, decide_false, Bool.true_eq_false, Bool.false_eq_true, Bool.not_true, Bool.not_false, if_true, if_false, and_true, true_and, memE, celE, w64, Nat.zero_add, Nat.add_zero, Nat.mul_one, putL, and_self, ldn, c_spec_l1Own, r_spec_l1Own, bsl_no, ha]
  have hX : Ext m (roM m ++ [deadB] ++ [⟨.own, 3, l.map (Value.int .i64)⟩]) := ((Ext.refl m).app (noRo_dead noRo_nil)).one _ _
  obtain ⟨n0, e0, h0⟩ := hX
  refine ⟨n0, e0, h0, h0, m.length + 1, rfl, by omega, ?_⟩
  rw [List.append_assoc] at e0
  have := List.append_cancel_left e0
  subst this
  unfold OwnR
  rw [List.getElem?_append_right (by omega)]
  simp [rowB]
def OffB (b : List Int) : Prop := ∀ k, k < b.length → 0 ≤ b.getD k 0 ∧ b.getD k 0 ≤ 63
theorem OffB.app {b : List Int} (h : OffB b) {x : Int} (hx : 0 ≤ x ∧ x ≤ 63) : OffB (b ++ [x]) := fun k hk => by
  rw [List.length_append, List.length_singleton] at hk
  by_cases e : k = b.length
  · subst e; rw [getD_end]; exact hx
  · rw [getD_app (by omega)]; exact h k (by omega)
theorem may_no {l b : List Int} {i k : Nat} {x : Int} (hk : k < b.length) (h : meetB (l.getD i 0) x (l.getD k 0) (b.getD k 0) = true) : mayB l b i x = false := by
  cases hm : mayB l b i x with
  | false => rfl
  | true =>
    have := List.all_eq_true.1 hm k (List.mem_range.2 hk)
    rw [h] at this; cases this
theorem may_yes {l b : List Int} {i : Nat} {x : Int} (h : ∀ k, k < b.length → meetB (l.getD i 0) x (l.getD k 0) (b.getD k 0) = false) : mayB l b i x = true :=
  List.all_eq_true.2 fun k hk => by rw [h k (List.mem_range.1 hk)]; rfl
theorem l8May_rc (m : Mem) (v u : Value) (l b : List Int) (i : Nat) (x : Int) (h : IntsA m v l) (hu : IntsA m u b) (hC : GoodC l) (hb : b.length ≤ l.length) (hi : i < l.length) (hx : 0 ≤ x ∧ x ≤ 63) (ho : OffB b) :
    RC Try.prog 119 [v, u, .int .i64 (i : Int), .int .i64 x] m (AnsV (.bool (mayB l b i x))) := by
  refine rc_of_run mixed ok_spec_l8May (by simp) (go_start _ _ _ ?_)
  simp (config := {implicitDefEqProofs := false, maxDischargeDepth := 20}) (disch := first | omega | (simp only [lenE]; done) | (simp only [lenE]; omega) | rfl | (simp only [lenE, markR_len]; done) | (simp only [lenE, markR_len]; omega)) only [runE, mapE, listE, initT_5, initT_6, initT_7, initT_8, resV, oneV, binA, unA, reduceCtorEq, Nat.reduceEqDiff, Nat.reduceAdd, Nat.reduceLT, Nat.reduceLeDiff, Nat.reduceMul, Nat.reduceSub, ↓reduceIte, decide_true, decide_false, Bool.true_eq_false, Bool.false_eq_true, Bool.not_true, Bool.not_false, if_true, if_false, and_true, true_and, memE, celE, w64, Nat.zero_add, Nat.add_zero, Nat.mul_one, putL, and_self, ldn, c_spec_l8May, r_spec_l8May]
  have hlc := hC.len
  refine loop_inv mixed (fun s => ∃ (k : Nat) (M : Mem), k ≤ b.length ∧ (∀ j, j < k → meetB (l.getD i 0) x (l.getD j 0) (b.getD j 0) = false) ∧ s.m = M ∧ Ext m M ∧ s.t 0 = v ∧ s.t 1 = u ∧ s.t 2 = .int .i64 (i : Int) ∧ s.t 3 = .int .i64 x ∧ s.t 9 = .int .i64 (k : Int)) (fun s => b.length - (intOf (s.t 9)).toNat)
    ⟨0, _, by omega, fun j hj => absurd hj (by omega), rfl, Ext.refl m, rfl, rfl, rfl, rfl, rfl⟩ ?_
  rintro s ⟨k, M, hk, hno, tm, hX, t0, t1, t2, t3, t9⟩
  have hA := (Sees.ext hX).ints h
  have hB := (Sees.ext hX).ints hu
  have hl2 := hB.len
  by_cases hkl : k < b.length
  · have hlt : (k : Int) < b.length := by omega
    have i1 := hA.at_ i hi
    have i2 := hA.ld i hi
    have j1 := hA.at_ k (by omega)
    have j2 := hA.ld k (by omega)
    have j3 := hB.at_ k hkl
    have j4 := hB.ld k hkl
    have n1 := hC.all i hi
    have n2 := hC.all k (by omega)
    simp (config := {implicitDefEqProofs := false, maxDischargeDepth := 20}) (disch := first | omega | (simp only [lenE]; done) | (simp only [lenE]; omega) | rfl | (simp only [lenE, markR_len]; done) | (simp only [lenE, markR_len]; omega)) only [runE, mapE, listE, initT_5, initT_6, initT_7, initT_8, resV, oneV, binA, unA, reduceCtorEq, Nat.reduceEqDiff, Nat.reduceAdd, Nat.reduceLT, Nat.reduceLeDiff, Nat.reduceMul, Nat.reduceSub, ↓reduceIte, decide_true, decide_false, Bool.true_eq_false, Bool.false_eq_true, Bool.not_true, Bool.not_false, if_true, if_false, and_true, true_and, memE, celE, w64, Nat.zero_add, Nat.add_zero, Nat.mul_one, putL, and_self, ldn, tm, t0, t1, t2, t3, t9, hl2, hlt, i1, i2, j1, j2, j3, j4]
    refine rcallH_rc (l8Meet_rc _ _ _ _ _ n1 n2 hx (ho k hkl)) ?_
    rintro r new ⟨rfl, nrn⟩
    cases hm : meetB (l.getD i 0) x (l.getD k 0) (b.getD k 0) with
    | true =>
      simp (config := {implicitDefEqProofs := false, maxDischargeDepth := 20}) (disch := first | omega | (simp only [lenE]; done) | (simp only [lenE]; omega) | rfl | (simp only [lenE, markR_len]; done) | (simp only [lenE, markR_len]; omega)) only [runE, mapE, listE, initT_5, initT_6, initT_7, initT_8, resV, oneV, binA, unA, reduceCtorEq, Nat.reduceEqDiff, Nat.reduceAdd, Nat.reduceLT, Nat.reduceLeDiff, Nat.reduceMul, Nat.reduceSub, ↓reduceIte, decide_true, decide_false, Bool.true_eq_false, Bool.false_eq_true, Bool.not_true, Bool.not_false, if_true, if_false, and_true, true_and, memE, celE, w64, Nat.zero_add, Nat.add_zero, Nat.mul_one, putL, and_self, ldn, tm, t0, t1, t2, t3, t9]
      refine ext_ansV (hX.app nrn) ?_
      rw [may_no hkl hm]
    | false =>
      simp (config := {implicitDefEqProofs := false, maxDischargeDepth := 20}) (disch := first | omega | (simp only [lenE]; done) | (simp only [lenE]; omega) | rfl | (simp only [lenE, markR_len]; done) | (simp only [lenE, markR_len]; omega)) only [runE, mapE, listE, initT_5, initT_6, initT_7, initT_8, resV, oneV, binA, unA, reduceCtorEq, Nat.reduceEqDiff, Nat.reduceAdd, Nat.reduceLT, Nat.reduceLeDiff, Nat.reduceMul, Nat.reduceSub, ↓reduceIte, decide_true, decide_false, Bool.true_eq_false, Bool.false_eq_true, Bool.not_true, Bool.not_false, if_true, if_false, and_true, true_and, memE, celE, w64, Nat.zero_add, Nat.add_zero, Nat.mul_one, putL, and_self, ldn, tm, t0, t1, t2, t3, t9]
      refine ⟨⟨k + 1, _, by omega, fun j hj => ?_, rfl, hX.app nrn, by simp⟩, ?_⟩
      · by_cases e : j = k
        · subst e; exact hm
        · exact hno j (by omega)
      · simp [intOf]; omega
  · have hlt : ¬ ((k : Int) < b.length) := by omega
    have e : k = b.length := by omega
    subst e
    simp (config := {implicitDefEqProofs := false, maxDischargeDepth := 20}) (disch := first | omega | (simp only [lenE]; done) | (simp only [lenE]; omega) | rfl | (simp only [lenE, markR_len]; done) | (simp only [lenE, markR_len]; omega)) only [runE, mapE, listE, initT_5, initT_6, initT_7, initT_8, resV, oneV, binA, unA, reduceCtorEq, Nat.reduceEqDiff, Nat.reduceAdd, Nat.reduceLT, Nat.reduceLeDiff, Nat.reduceMul, Nat.reduceSub, ↓reduceIte, decide_true, decide_false, Bool.true_eq_false, Bool.false_eq_true, Bool.not_true, Bool.not_false, if_true, if_false, and_true, true_and, memE, celE, w64, Nat.zero_add, Nat.add_zero, Nat.mul_one, putL, and_self, ldn, tm, t0, t1, t2, t3, t9, hl2, hlt]
    refine ext_ansV hX ?_
    rw [may_yes hno]
theorem room_no {l b : List Int} {n j : Nat} (hj : j < n) (h : anyB l b (b.length + j) = false) : roomB l b n = false := by
  cases hr : roomB l b n with
  | false => rfl
  | true =>
    have := List.all_eq_true.1 hr j (List.mem_range.2 hj)
    rw [h] at this; cases this
theorem l8Room_rc (m : Mem) (v u : Value) (l b : List Int) (n : Nat) (h : IntsA m v l) (hu : IntsA m u b) (hC : GoodC l) (hn : n + b.length = l.length) (ho : OffB b) :
    RC Try.prog 118 [v, u] m (AnsV (.bool (roomB l b n))) := by
  refine rc_of_run mixed ok_spec_l8Room (by simp) (go_start _ _ _ ?_)
  have hlc := hC.len
  have hlu := hu.ro.len
  simp (config := {implicitDefEqProofs := false, maxDischargeDepth := 20}) (disch := first | omega | (simp only [lenE]; done) | (simp only [lenE]; omega) | rfl | (simp only [lenE, markR_len]; done) | (simp only [lenE, markR_len]; omega)) only [runE, mapE, listE, initT_5, initT_6, initT_7, initT_8, resV, oneV, binA, unA, reduceCtorEq, Nat.reduceEqDiff, Nat.reduceAdd, Nat.reduceLT, Nat.reduceLeDiff, Nat.reduceMul, Nat.reduceSub, ↓reduceIte, decide_true, decide_false, Bool.true_eq_false, Bool.false_eq_true, Bool.not_true, Bool.not_false, if_true, if_false, and_true, true_and, memE, celE, w64, Nat.zero_add, Nat.add_zero, Nat.mul_one, putL, and_self, ldn, c_spec_l8Room, r_spec_l8Room, hlu]
  refine loop_inv mixed (fun s => ∃ (j : Nat) (M : Mem), j ≤ n ∧ (∀ q, q < j → anyB l b (b.length + q) = true) ∧ s.m = M ∧ Ext m M ∧ s.t 0 = v ∧ s.t 1 = u ∧ s.t 5 = .int .i64 ((b.length + j : Nat) : Int)) (fun s => l.length - (intOf (s.t 5)).toNat)
    ⟨0, _, by omega, fun q hq => absurd hq (by omega), rfl, Ext.refl m, rfl, rfl, rfl⟩ ?_
  rintro s ⟨j, M, hj, hall, tm, hX, t0, t1, t5⟩
  have hA := (Sees.ext hX).ints h
  have hl1 := hA.len
  by_cases hjn : j < n
  · have hil : b.length + j < l.length := by omega
    generalize hi0 : b.length + j = i at *
    have hlt : (i : Int) < l.length := by omega
    have c := hC.all i hil
    obtain ⟨c0, hc0⟩ := Int.eq_ofNat_of_zero_le (show 0 ≤ l.getD i 0 by omega)
    simp (config := {implicitDefEqProofs := false, maxDischargeDepth := 20}) (disch := first | omega | (simp only [lenE]; done) | (simp only [lenE]; omega) | rfl | (simp only [lenE, markR_len]; done) | (simp only [lenE, markR_len]; omega)) only [runE, mapE, listE, initT_5, initT_6, initT_7, initT_8, resV, oneV, binA, unA, reduceCtorEq, Nat.reduceEqDiff, Nat.reduceAdd, Nat.reduceLT, Nat.reduceLeDiff, Nat.reduceMul, Nat.reduceSub, ↓reduceIte, decide_true, decide_false, Bool.true_eq_false, Bool.false_eq_true, Bool.not_true, Bool.not_false, if_true, if_false, and_true, true_and, memE, celE, w64, Nat.zero_add, Nat.add_zero, Nat.mul_one, putL, and_self, ldn, tm, t0, t1, t5, hl1, hlt]
    refine loop_inv mixed (fun s => ∃ (x : Nat) (M : Mem), x ≤ c0 ∧ (∀ y, y < x → mayB l b i (y : Int) = false) ∧ s.m = M ∧ Ext m M ∧ s.t 0 = v ∧ s.t 1 = u ∧ s.t 5 = .int .i64 (i : Int) ∧ s.t 6 = .int .i64 (x : Int)) (fun s => c0 - (intOf (s.t 6)).toNat)
      ⟨0, M, by omega, fun y hy => absurd hy (by omega), tm, hX, t0, t1, t5, rfl⟩ ?_
    rintro s ⟨x, M, hx, hno, tm, hX, t0, t1, t5, t6⟩
    have hA := (Sees.ext hX).ints h
    have hB := (Sees.ext hX).ints hu
    have i1 := hA.at_ i hil
    have i2 := hA.ld i hil
    rw [hc0] at i2
    by_cases hxc : x < c0
    · have hlt2 : (x : Int) < c0 := by omega
      simp (config := {implicitDefEqProofs := false, maxDischargeDepth := 20}) (disch := first | omega | (simp only [lenE]; done) | (simp only [lenE]; omega) | rfl | (simp only [lenE, markR_len]; done) | (simp only [lenE, markR_len]; omega)) only [runE, mapE, listE, initT_5, initT_6, initT_7, initT_8, resV, oneV, binA, unA, reduceCtorEq, Nat.reduceEqDiff, Nat.reduceAdd, Nat.reduceLT, Nat.reduceLeDiff, Nat.reduceMul, Nat.reduceSub, ↓reduceIte, decide_true, decide_false, Bool.true_eq_false, Bool.false_eq_true, Bool.not_true, Bool.not_false, if_true, if_false, and_true, true_and, memE, celE, w64, Nat.zero_add, Nat.add_zero, Nat.mul_one, putL, and_self, ldn, tm, t0, t1, t5, t6, i1, i2, hlt2]
      refine callH_rc (l8May_rc _ v u l b i (x : Int) hA hB hC (by omega) hil (by omega) ho) ?_
      rintro r new ⟨rfl, nrn⟩
      cases hm : mayB l b i (x : Int) with
      | true =>
        have i3 := (hA.ext new).at_ i hil
        have i4 := (hA.ext new).ld i hil
        rw [hc0] at i4
        have hne : ((x : Int) == (c0 : Int)) = false := by rw [beq_eq_false_iff_ne]; omega
        simp (config := {implicitDefEqProofs := false, maxDischargeDepth := 20}) (disch := first | omega | (simp only [lenE]; done) | (simp only [lenE]; omega) | rfl | (simp only [lenE, markR_len]; done) | (simp only [lenE, markR_len]; omega)) only [runE, mapE, listE, initT_5, initT_6, initT_7, initT_8, resV, oneV, binA, unA, reduceCtorEq, Nat.reduceEqDiff, Nat.reduceAdd, Nat.reduceLT, Nat.reduceLeDiff, Nat.reduceMul, Nat.reduceSub, ↓reduceIte, decide_true, decide_false, Bool.true_eq_false, Bool.false_eq_true, Bool.not_true, Bool.not_false, if_true, if_false, and_true, true_and, memE, celE, w64, Nat.zero_add, Nat.add_zero, Nat.mul_one, putL, and_self, ldn, tm, t0, t1, t5, t6, i3, i4, hne]
        refine ⟨⟨j + 1, _, by omega, fun q hq => ?_, rfl, hX.app nrn, by simp; omega⟩, ?_⟩
        · by_cases e : q = j
          · subst e
            rw [hi0]
            exact List.any_eq_true.2 ⟨x, List.mem_range.2 (by rw [hc0]; omega), hm⟩
          · exact hall q (by omega)
        · simp [intOf]; omega
      | false =>
        simp (config := {implicitDefEqProofs := false, maxDischargeDepth := 20}) (disch := first | omega | (simp only [lenE]; done) | (simp only [lenE]; omega) | rfl | (simp only [lenE, markR_len]; done) | (simp only [lenE, markR_len]; omega)) only [runE, mapE, listE, initT_5, initT_6, initT_7, initT_8, resV, oneV, binA, unA, reduceCtorEq, Nat.reduceEqDiff, Nat.reduceAdd, Nat.reduceLT, Nat.reduceLeDiff, Nat.reduceMul, Nat.reduceSub, ↓reduceIte, decide_true, decide_false, Bool.true_eq_false, Bool.false_eq_true, Bool.not_true, Bool.not_false, if_true, if_false, and_true, true_and, memE, celE, w64, Nat.zero_add, Nat.add_zero, Nat.mul_one, putL, and_self, ldn, tm, t0, t1, t5, t6]
        refine ⟨⟨x + 1, _, by omega, fun y hy => ?_, rfl, hX.app nrn, by simp⟩, ?_⟩
        · by_cases e : y = x
          · subst e; exact hm
          · exact hno y (by omega)
        · simp [intOf]; omega
    · have hlt2 : ¬ ((x : Int) < c0) := by omega
      have e : x = c0 := by omega
      subst e
      simp (config := {implicitDefEqProofs := false, maxDischargeDepth := 20}) (disch := first | omega | (simp only [lenE]; done) | (simp only [lenE]; omega) | rfl | (simp only [lenE, markR_len]; done) | (simp only [lenE, markR_len]; omega)) only [runE, mapE, listE, initT_5, initT_6, initT_7, initT_8, resV, oneV, binA, unA, reduceCtorEq, Nat.reduceEqDiff, Nat.reduceAdd, Nat.reduceLT, Nat.reduceLeDiff, Nat.reduceMul, Nat.reduceSub, ↓reduceIte, decide_true, decide_false, Bool.true_eq_false, Bool.false_eq_true, Bool.not_true, Bool.not_false, if_true, if_false, and_true, true_and, memE, celE, w64, Nat.zero_add, Nat.add_zero, Nat.mul_one, putL, and_self, ldn, tm, t0, t1, t5, t6, i1, i2, hlt2, beq_self_eq_true]
      refine ext_ansV hX ?_
      have : anyB l b (b.length + j) = false := by
        rw [hi0]
        unfold anyB
        rw [hc0, Int.toNat_natCast, List.any_eq_false]
        intro y hy
        rw [hno y (List.mem_range.1 hy)]
        simp
      rw [room_no hjn this]
  · have e : j = n := by omega
    subst e
    have hlt : ¬ (((b.length + j : Nat) : Int) < l.length) := by omega
    simp (config := {implicitDefEqProofs := false, maxDischargeDepth := 20}) (disch := first | omega | (simp only [lenE]; done) | (simp only [lenE]; omega) | rfl | (simp only [lenE, markR_len]; done) | (simp only [lenE, markR_len]; omega)) only [runE, mapE, listE, initT_5, initT_6, initT_7, initT_8, resV, oneV, binA, unA, reduceCtorEq, Nat.reduceEqDiff, Nat.reduceAdd, Nat.reduceLT, Nat.reduceLeDiff, Nat.reduceMul, Nat.reduceSub, ↓reduceIte, decide_true, decide_false, Bool.true_eq_false, Bool.false_eq_true, Bool.not_true, Bool.not_false, if_true, if_false, and_true, true_and, memE, celE, w64, Nat.zero_add, Nat.add_zero, Nat.mul_one, putL, and_self, ldn, tm, t0, t1, t5, hl1, hlt]
    refine ext_ansV hX ?_
    have : roomB l b j = true := List.all_eq_true.2 fun q hq => hall q (List.mem_range.1 hq)
    rw [this]
def AnsW (lo : Nat) (m : Mem) (x : Option (List Int)) (r : Value) (new : Mem) : Prop :=
  NoRo new ∧ ∃ id fl, r = .tuple #[.slice (some ⟨id, 0, none⟩) (x.getD []).length fl, .bool x.isSome] ∧ lo ≤ id ∧ OwnR (m ++ new) id (x.getD [])
theorem AnsW.fin {m M : Mem} {lo id fl n : Nat} {q : Bool} {x : Option (List Int)} (hX : Ext m M) (hlo : lo ≤ m.length) (hid : m.length ≤ id) (ho : OwnR M id (x.getD [])) (hn : n = (x.getD []).length) (hq : q = x.isSome) :
    newQ m (AnsW lo m x) (.tuple #[.slice (some ⟨id, 0, none⟩) n fl, .bool q]) M := by
  subst hn hq
  obtain ⟨n0, rfl, h0⟩ := hX
  refine ⟨n0, rfl, h0, h0, id, fl, rfl, by omega, ?_⟩
  unfold OwnR at ho ⊢
  rw [List.getElem?_append_right (by rw [roM_len]; omega), roM_len] at ho
  rw [List.getElem?_append_right (by omega)]
  exact ho
def stepS (l : List Int) (n : Nat) (b : List Int) (x : Nat) : Option (List Int) := if mayB l b b.length (x : Int) then placeS l n (b ++ [(x : Int)]) else none
theorem placeS_step (l : List Int) (n : Nat) (b : List Int) : placeS l (n + 1) b = if roomB l b (n + 1) then (List.range (l.getD b.length 0).toNat).findSome? (stepS l n b) else none := rfl
theorem l8Place_rc (l : List Int) (hC : GoodC l) (v : Value) : ∀ (n : Nat) (m : Mem) (idb lo : Nat) (b : List Int), n + b.length = l.length → IntsA m v l → OwnR m idb b → lo ≤ idb → lo ≤ m.length → OffB b →
    RC Try.prog 97 [v, .slice (some ⟨idb, 0, none⟩) b.length 1] m (AnsW lo m (placeS l n b)) := by
  intro n
  have hlc := hC.len
  induction n with
  | zero =>
    intro m idb lo b hn h hu hlo hlo2 ho
    refine rc_of_run mixed ok_spec_l8Place (by simp) (go_start _ _ _ ?_)
    have hl1 := h.ro.len
    have hbl : ((b.length : Int) == (l.length : Int)) = true := by rw [beq_iff_eq]; omega
    simp (config := {implicitDefEqProofs := false, maxDischargeDepth := 20}) (disch := first | omega | (simp only [lenE]; done) | (simp only [lenE]; omega) | rfl | (simp only [lenE, markR_len]; done) | (simp only [lenE, markR_len]; omega)) only [runE, mapE, listE, initT_5, initT_6, initT_7, initT_8, resV, oneV, binA, unA, reduceCtorEq, Nat.reduceEqDiff, Nat.reduceAdd, Nat.reduceLT, Nat.reduceLeDiff, Nat.reduceMul, Nat.reduceSub, ↓reduceIte, decide_true, decide_false, Bool.true_eq_false, Bool.false_eq_true, Bool.not_true, Bool.not_false, if_true, if_false, and_true, true_and, memE, celE, w64, Nat.zero_add, Nat.add_zero, Nat.mul_one, putL, and_self, ldn, c_spec_l8Place, r_spec_l8Place, hl1, hbl]
    exact ⟨[], by simp, noRo_nil, noRo_nil, idb, 1, rfl, hlo, by rw [List.append_nil]; exact hu⟩
  | succ n ih =>
    intro m idb lo b hn h hu hlo hlo2 ho
    refine rc_of_run mixed ok_spec_l8Place (by simp) (go_start _ _ _ ?_)
    have hl1 := h.ro.len
    have hU : IntsA m (.slice (some ⟨idb, 0, none⟩) b.length 1) b := hu.ints (by omega) 1
    have hbl : ((b.length : Int) == (l.length : Int)) = false := by rw [beq_eq_false_iff_ne]; omega
    have hil : b.length < l.length := by omega
    have c := hC.all b.length hil
    obtain ⟨c0, hc0⟩ := Int.eq_ofNat_of_zero_le (show 0 ≤ l.getD b.length 0 by omega)
    simp (config := {implicitDefEqProofs := false, maxDischargeDepth := 20}) (disch := first | omega | (simp only [lenE]; done) | (simp only [lenE]; omega) | rfl | (simp only [lenE, markR_len]; done) | (simp only [lenE, markR_len]; omega)) only [runE, mapE, listE, initT_5, initT_6, initT_7, initT_8, resV, oneV, binA, unA, reduceCtorEq, Nat.reduceEqDiff, Nat.reduceAdd, Nat.reduceLT, Nat.reduceLeDiff, Nat.reduceMul, Nat.reduceSub, ↓reduceIte, decide_true, decide_false, Bool.true_eq_false, Bool.false_eq_true, Bool.not_true, Bool.not_false, if_true, if_false, and_true, true_and, memE, celE, w64, Nat.zero_add, Nat.add_zero, Nat.mul_one, putL, and_self, ldn, c_spec_l8Place, r_spec_l8Place, hl1, hbl]
    refine callH_rc (l8Room_rc _ v _ l b (n + 1) h.ro hU.ro hC hn ho) ?_
    rintro r new0 ⟨rfl, nr0⟩
    have hX := (Ext.refl m).app nr0
    rw [placeS_step, hc0, Int.toNat_natCast]
    generalize hroom : roomB l b (n + 1) = room
    simp (config := {implicitDefEqProofs := false, maxDischargeDepth := 20}) (disch := first | omega | (simp only [lenE]; done) | (simp only [lenE]; omega) | rfl | (simp only [lenE, markR_len]; done) | (simp only [lenE, markR_len]; omega)) only [runE, mapE, listE, initT_5, initT_6, initT_7, initT_8, resV, oneV, binA, unA, reduceCtorEq, Nat.reduceEqDiff, Nat.reduceAdd, Nat.reduceLT, Nat.reduceLeDiff, Nat.reduceMul, Nat.reduceSub, ↓reduceIte, decide_true, decide_false, Bool.true_eq_false, Bool.false_eq_true, Bool.not_true, Bool.not_false, if_true, if_false, and_true, true_and, memE, celE, w64, Nat.zero_add, Nat.add_zero, Nat.mul_one, putL, and_self, ldn]
    refine loop_inv mixed (fun s => ∃ (x : Nat) (M : Mem), x ≤ c0 ∧ (∀ y, y < x → stepS l n b y = none) ∧ s.m = M ∧ Ext m M ∧ s.t 0 = v ∧ s.t 1 = .slice (some ⟨idb, 0, none⟩) b.length 1 ∧ s.t 6 = .int .i64 (b.length : Int) ∧ s.t 7 = .bool room ∧ s.t 8 = .int .i64 (x : Int)) (fun s => c0 - (intOf (s.t 8)).toNat)
      ⟨0, _, by omega, fun y hy => absurd hy (by omega), rfl, hX, rfl, rfl, rfl, rfl, rfl⟩ ?_
    rintro s ⟨x, M, hx, hno, tm, hX, t0, t1, t6, t7, t8⟩
    have hA := (Sees.ext hX).ints h
    have hB := (Sees.ext hX).ints hU
    have i1 := hA.at_ b.length hil
    have i2 := hA.ld b.length hil
    rw [hc0] at i2
    have hge := hX.len
    by_cases hxc : x < c0
    · have hlt : (x : Int) < c0 := by omega
      cases room with
      | false =>
        simp (config := {implicitDefEqProofs := false, maxDischargeDepth := 20}) (disch := first | omega | (simp only [lenE]; done) | (simp only [lenE]; omega) | rfl | (simp only [lenE, markR_len]; done) | (simp only [lenE, markR_len]; omega)) only [runE, mapE, listE, initT_5, initT_6, initT_7, initT_8, resV, oneV, binA, unA, reduceCtorEq, Nat.reduceEqDiff, Nat.reduceAdd, Nat.reduceLT, Nat.reduceLeDiff, Nat.reduceMul, Nat.reduceSub, ↓reduceIte, decide_true, decide_false, Bool.true_eq_false, Bool.false_eq_true, Bool.not_true, Bool.not_false, if_true, if_false, and_true, true_and, memE, celE, w64, Nat.zero_add, Nat.add_zero, Nat.mul_one, putL, and_self, ldn, tm, t0, t1, t6, t7, t8, i1, i2, hlt, bsl_none]
        exact AnsW.fin (x := none) (hX.one _ _) hlo2 hge (by exact OwnR.here M [] _ rfl) rfl rfl
      | true =>
      simp (config := {implicitDefEqProofs := false, maxDischargeDepth := 20}) (disch := first | omega | (simp only [lenE]; done) | (simp only [lenE]; omega) | rfl | (simp only [lenE, markR_len]; done) | (simp only [lenE, markR_len]; omega)) only [runE, mapE, listE, initT_5, initT_6, initT_7, initT_8, resV, oneV, binA, unA, reduceCtorEq, Nat.reduceEqDiff, Nat.reduceAdd, Nat.reduceLT, Nat.reduceLeDiff, Nat.reduceMul, Nat.reduceSub, ↓reduceIte, decide_true, decide_false, Bool.true_eq_false, Bool.false_eq_true, Bool.not_true, Bool.not_false, if_true, if_false, and_true, true_and, memE, celE, w64, Nat.zero_add, Nat.add_zero, Nat.mul_one, putL, and_self, ldn, tm, t0, t1, t6, t7, t8, i1, i2, hlt]
      refine callH_rc (l8May_rc _ v _ l b b.length (x : Int) hA hB hC (by omega) hil (by omega) ho) ?_
      rintro r new1 ⟨rfl, nr1⟩
      have hstep : stepS l n b x = if mayB l b b.length (x : Int) then placeS l n (b ++ [(x : Int)]) else none := rfl
      cases hm : mayB l b b.length (x : Int) with
      | false =>
        rw [hm] at hstep
        simp (config := {implicitDefEqProofs := false, maxDischargeDepth := 20}) (disch := first | omega | (simp only [lenE]; done) | (simp only [lenE]; omega) | rfl | (simp only [lenE, markR_len]; done) | (simp only [lenE, markR_len]; omega)) only [runE, mapE, listE, initT_5, initT_6, initT_7, initT_8, resV, oneV, binA, unA, reduceCtorEq, Nat.reduceEqDiff, Nat.reduceAdd, Nat.reduceLT, Nat.reduceLeDiff, Nat.reduceMul, Nat.reduceSub, ↓reduceIte, decide_true, decide_false, Bool.true_eq_false, Bool.false_eq_true, Bool.not_true, Bool.not_false, if_true, if_false, and_true, true_and, memE, celE, w64, Nat.zero_add, Nat.add_zero, Nat.mul_one, putL, and_self, ldn, tm, t0, t1, t6, t7, t8]
        refine ⟨⟨x + 1, _, by omega, fun y hy => ?_, rfl, hX.app nr1, by simp⟩, ?_⟩
        · by_cases e : y = x
          · subst e; exact hstep
          · exact hno y (by omega)
        · simp [intOf]; omega
      | true =>
        rw [hm, if_pos rfl] at hstep
        simp (config := {implicitDefEqProofs := false, maxDischargeDepth := 20}) (disch := first | omega | (simp only [lenE]; done) | (simp only [lenE]; omega) | rfl | (simp only [lenE, markR_len]; done) | (simp only [lenE, markR_len]; omega)) only [runE, mapE, listE, initT_5, initT_6, initT_7, initT_8, resV, oneV, binA, unA, reduceCtorEq, Nat.reduceEqDiff, Nat.reduceAdd, Nat.reduceLT, Nat.reduceLeDiff, Nat.reduceMul, Nat.reduceSub, ↓reduceIte, decide_true, decide_false, Bool.true_eq_false, Bool.false_eq_true, Bool.not_true, Bool.not_false, if_true, if_false, and_true, true_and, memE, celE, w64, Nat.zero_add, Nat.add_zero, Nat.mul_one, putL, and_self, ldn, tm, t0, t1, t6, t7, t8]
        refine callH_rc (ownCopy_rc _ _ b (hB.ext new1) (by omega)) ?_
        rintro r new2 ⟨nr2, id2, rfl, hid2, ho2⟩
        have hX2 := (hX.app nr1).app nr2
        have hap := app_num (x := (x : Int)) (id2 := (M ++ new1 ++ new2).length) ho2 (by omega) rfl rfl
        have hlen : (M ++ new1 ++ new2).length = M.length + new1.length + new2.length := by simp only [List.length_append]
        rw [hlen] at hap
        rw [List.length_append] at hid2
        simp (config := {implicitDefEqProofs := false, maxDischargeDepth := 20}) (disch := first | omega | (simp only [lenE]; done) | (simp only [lenE]; omega) | rfl | (simp only [lenE, markR_len]; done) | (simp only [lenE, markR_len]; omega)) only [runE, mapE, listE, initT_5, initT_6, initT_7, initT_8, resV, oneV, binA, unA, reduceCtorEq, Nat.reduceEqDiff, Nat.reduceAdd, Nat.reduceLT, Nat.reduceLeDiff, Nat.reduceMul, Nat.reduceSub, ↓reduceIte, decide_true, decide_false, Bool.true_eq_false, Bool.false_eq_true, Bool.not_true, Bool.not_false, if_true, if_false, and_true, true_and, memE, celE, w64, Nat.zero_add, Nat.add_zero, Nat.mul_one, putL, and_self, ldn, tm, t0, t1, t6, t7, t8, bsl_one, hap, hlen]
        obtain ⟨F, hF⟩ : ∃ F, F = (M ++ new1 ++ new2).set id2 deadB ++ [⟨.own, 3, [.int .i64 (x : Int)]⟩] ++ [⟨.own, 3, (b ++ [(x : Int)]).map (Value.int .i64)⟩] := ⟨_, rfl⟩
        have hXF : Ext m F := by rw [hF]; exact ((hX2.dead (by omega)).one _ _).one _ _
        have hoF : OwnR F (M.length + new1.length + new2.length + 1) (b ++ [(x : Int)]) := by rw [hF]; exact OwnR.here _ _ _ (by simp only [List.length_append, List.length_set, List.length_singleton])
        have hlF := hXF.len
        first | rw [← hF] | skip
        have hnb : b.length + 1 = (b ++ [(x : Int)]).length := by simp
        rw [hnb]
        refine callH_rc (ih F (M.length + new1.length + new2.length + 1) m.length (b ++ [(x : Int)]) (by simp; omega) ((Sees.ext hXF).ints h) hoF (by omega) hlF (ho.app (by omega))) ?_
        rintro r new3 ⟨nr3, id3, fl3, rfl, hid3, ho3⟩
        cases hp : placeS l n (b ++ [(x : Int)]) with
        | some o =>
          rw [hp] at ho3
          simp (config := {implicitDefEqProofs := false, maxDischargeDepth := 20}) (disch := first | omega | (simp only [lenE]; done) | (simp only [lenE]; omega) | rfl | (simp only [lenE, markR_len]; done) | (simp only [lenE, markR_len]; omega)) only [runE, mapE, listE, initT_5, initT_6, initT_7, initT_8, resV, oneV, binA, unA, reduceCtorEq, Nat.reduceEqDiff, Nat.reduceAdd, Nat.reduceLT, Nat.reduceLeDiff, Nat.reduceMul, Nat.reduceSub, ↓reduceIte, decide_true, decide_false, Bool.true_eq_false, Bool.false_eq_true, Bool.not_true, Bool.not_false, if_true, if_false, and_true, true_and, memE, celE, w64, Nat.zero_add, Nat.add_zero, Nat.mul_one, putL, and_self, ldn, ext_2_0, ext_2_1, Option.isSome]
          have hres : (List.range c0).findSome? (stepS l n b) = some o := find_atN hxc hno (by rw [hstep, hp])
          rw [hres]
          exact AnsW.fin (x := some o) (hXF.app nr3) hlo2 hid3 ho3 rfl rfl
        | none =>
          simp (config := {implicitDefEqProofs := false, maxDischargeDepth := 20}) (disch := first | omega | (simp only [lenE]; done) | (simp only [lenE]; omega) | rfl | (simp only [lenE, markR_len]; done) | (simp only [lenE, markR_len]; omega)) only [runE, mapE, listE, initT_5, initT_6, initT_7, initT_8, resV, oneV, binA, unA, reduceCtorEq, Nat.reduceEqDiff, Nat.reduceAdd, Nat.reduceLT, Nat.reduceLeDiff, Nat.reduceMul, Nat.reduceSub, ↓reduceIte, decide_true, decide_false, Bool.true_eq_false, Bool.false_eq_true, Bool.not_true, Bool.not_false, if_true, if_false, and_true, true_and, memE, celE, w64, Nat.zero_add, Nat.add_zero, Nat.mul_one, putL, and_self, ldn, tm, t0, t1, t6, t7, t8, ext_2_0, ext_2_1, Option.isSome]
          refine ⟨⟨x + 1, _, by omega, fun y hy => ?_, rfl, hXF.app nr3, by simp⟩, ?_⟩
          · by_cases e : y = x
            · subst e; rw [hstep, hp]
            · exact hno y (by omega)
          · simp [intOf]; omega
    · have hlt : ¬ ((x : Int) < c0) := by omega
      have e : x = c0 := by omega
      subst e
      simp (config := {implicitDefEqProofs := false, maxDischargeDepth := 20}) (disch := first | omega | (simp only [lenE]; done) | (simp only [lenE]; omega) | rfl | (simp only [lenE, markR_len]; done) | (simp only [lenE, markR_len]; omega)) only [runE, mapE, listE, initT_5, initT_6, initT_7, initT_8, resV, oneV, binA, unA, reduceCtorEq, Nat.reduceEqDiff, Nat.reduceAdd, Nat.reduceLT, Nat.reduceLeDiff, Nat.reduceMul, Nat.reduceSub, ↓reduceIte, decide_true, decide_false, Bool.true_eq_false, Bool.false_eq_true, Bool.not_true, Bool.not_false, if_true, if_false, and_true, true_and, memE, celE, w64, Nat.zero_add, Nat.add_zero, Nat.mul_one, putL, and_self, ldn, tm, t0, t1, t6, t7, t8, i1, i2, hlt, bsl_none]
      have hres : (if room = true then (List.range x).findSome? (stepS l n b) else none) = none := by
        rw [find_noneN hno]; split <;> rfl
      rw [hres]
      exact AnsW.fin (x := none) (hX.one _ _) hlo2 hge (by exact OwnR.here M [] _ rfl) rfl rfl
def findP (l : List Int) : Option (List Int) := if cycB l then placeS l l.length [] else none
def offA (l : List Int) : List Int := (findP l).getD []
def offOk (l : List Int) : Bool := (findP l).isSome
theorem find_len (l : List Int) (hC : GoodC l) : ((placeS l l.length []).getD []).length ≤ 1048576 := by
  have := hC.len
  cases h : placeS l l.length [] with
  | none => simp
  | some o =>
    obtain ⟨_, h2, _⟩ := place_sound l l.length [] o (by simp) ⟨fun i hi => absurd hi (by simp), fun i k _ hi => absurd hi (by simp)⟩ h
    simp only [Option.getD_some]; omega
theorem specFindOffsets_rc (m : Mem) (v : Value) (l : List Int) (h : IntsA m v l) : RC Try.prog 55 [v] m (AnsO m (IntsO (offA l)) fun w => .tuple #[w, .bool (offOk l)]) := by
  refine rc_of_run mixed ok_spec_FindOffsets (by simp) (go_start _ _ _ ?_)
  unfold offA offOk findP
  have hX := Ext.refl m
  simp (config := {implicitDefEqProofs := false, maxDischargeDepth := 20}) (disch := first | omega | (simp only [lenE]; done) | (simp only [lenE]; omega) | rfl | (simp only [lenE, markR_len]; done) | (simp only [lenE, markR_len]; omega)) only [runE, mapE, listE, initT_5, initT_6, initT_7, initT_8, resV, oneV, binA, unA, reduceCtorEq, Nat.reduceEqDiff, Nat.reduceAdd, Nat.reduceLT, Nat.reduceLeDiff, Nat.reduceMul, Nat.reduceSub, ↓reduceIte, decide_true, decide_false, Bool.true_eq_false, Bool.false_eq_true, Bool.not_true, Bool.not_false, if_true, if_false, and_true, true_and, memE, celE, w64, Nat.zero_add, Nat.add_zero, Nat.mul_one, putL, and_self, ldn, c_spec_FindOffsets, r_spec_FindOffsets]
  refine callH_rc (l8Cycles_rc _ v l ((Sees.ext hX).ints h)) ?_
  rintro r new0 ⟨rfl, nr0⟩
  have hX := hX.app nr0
  cases g1 : cycB l with
  | false =>
    simp (config := {implicitDefEqProofs := false, maxDischargeDepth := 20}) (disch := first | omega | (simp only [lenE]; done) | (simp only [lenE]; omega) | rfl | (simp only [lenE, markR_len]; done) | (simp only [lenE, markR_len]; omega)) only [runE, mapE, listE, initT_5, initT_6, initT_7, initT_8, resV, oneV, binA, unA, reduceCtorEq, Nat.reduceEqDiff, Nat.reduceAdd, Nat.reduceLT, Nat.reduceLeDiff, Nat.reduceMul, Nat.reduceSub, ↓reduceIte, decide_true, decide_false, Bool.true_eq_false, Bool.false_eq_true, Bool.not_true, Bool.not_false, if_true, if_false, and_true, true_and, memE, celE, w64, Nat.zero_add, Nat.add_zero, Nat.mul_one, putL, and_self, ldn, bsl_no]
    exact int_noInts (f := fun w => .tuple #[w, .bool false]) hX (by simp [roM_len])
  | true =>
  have hC := cycB_iff.1 g1
  have hlc := hC.len
  rw [if_pos rfl]
  simp (config := {implicitDefEqProofs := false, maxDischargeDepth := 20}) (disch := first | omega | (simp only [lenE]; done) | (simp only [lenE]; omega) | rfl | (simp only [lenE, markR_len]; done) | (simp only [lenE, markR_len]; omega)) only [runE, mapE, listE, initT_5, initT_6, initT_7, initT_8, resV, oneV, binA, unA, reduceCtorEq, Nat.reduceEqDiff, Nat.reduceAdd, Nat.reduceLT, Nat.reduceLeDiff, Nat.reduceMul, Nat.reduceSub, ↓reduceIte, decide_true, decide_false, Bool.true_eq_false, Bool.false_eq_true, Bool.not_true, Bool.not_false, if_true, if_false, and_true, true_and, memE, celE, w64, Nat.zero_add, Nat.add_zero, Nat.mul_one, putL, and_self, ldn]
  refine callH_rc (specShare_rc _ v l ((Sees.ext hX).ints h) hC) ?_
  rintro r new1 ⟨rfl, nr1⟩
  have hX := hX.app nr1
  have hs := share_nums hC l.length (Nat.le_refl _)
  have hpl := place_share hC
  rw [show shareTo l l.length = shareF l from rfl] at hs
  generalize shareF l = z at *
  obtain ⟨E, hE⟩ : ∃ E, E = roM m ++ new0 ++ new1 := ⟨_, rfl⟩
  have LE : m.length + new0.length + new1.length = E.length := by rw [hE]; simp only [List.length_append, roM_len]
  simp (config := {implicitDefEqProofs := false, maxDischargeDepth := 20}) (disch := first | omega | (simp only [lenE]; done) | (simp only [lenE]; omega) | rfl | (simp only [lenE, markR_len]; done) | (simp only [lenE, markR_len]; omega)) only [runE, mapE, listE, initT_5, initT_6, initT_7, initT_8, resV, oneV, binA, unA, reduceCtorEq, Nat.reduceEqDiff, Nat.reduceAdd, Nat.reduceLT, Nat.reduceLeDiff, Nat.reduceMul, Nat.reduceSub, ↓reduceIte, decide_true, decide_false, Bool.true_eq_false, Bool.false_eq_true, Bool.not_true, Bool.not_false, if_true, if_false, and_true, true_and, memE, celE, w64, Nat.zero_add, Nat.add_zero, Nat.mul_one, putL, and_self, ldn, frV, stP_agg2]
  first | rw [← List.append_assoc] | skip
  first | rw [← hE] at hX ⊢ | rw [← hE] at hX
  rw [LE]
  obtain ⟨F, hF⟩ : ∃ F, F = E ++ [⟨.own, 28, [.int .i64 z.1, .int .i64 z.2]⟩] := ⟨_, rfl⟩
  have hXF : Ext m F := by rw [hF]; exact hX.one _ _
  have o0 : OwnB F E.length 28 [.int .i64 z.1, .int .i64 z.2] := by rw [hF]; exact OwnB.here rfl
  have LF : E.length + 1 = F.length := by rw [hF]; simp
  first | rw [← hF] | skip
  have r0 := o0.rd 0
  have r1 := o0.rd 1
  have ia0 := iada_0 E.length 0 1
  have ia1 := iada_1 E.length 0 0
  rw [show (0 : Nat) + 1 = 1 from rfl] at ia1
  rw [show (1 : Nat) + 1 = 2 from rfl] at ia0
  rw [show (0 : Nat) + 2 = 2 from rfl] at ia1
  by_cases hz : z.2 < z.1
  · rw [hpl hz]
    simp (config := {implicitDefEqProofs := false, maxDischargeDepth := 20}) (disch := first | omega | (simp only [lenE]; done) | (simp only [lenE]; omega) | rfl | (simp only [lenE, markR_len]; done) | (simp only [lenE, markR_len]; omega)) only [runE, mapE, listE, initT_5, initT_6, initT_7, initT_8, resV, oneV, binA, unA, reduceCtorEq, Nat.reduceEqDiff, Nat.reduceAdd, Nat.reduceLT, Nat.reduceLeDiff, Nat.reduceMul, Nat.reduceSub, ↓reduceIte, decide_true, decide_false, Bool.true_eq_false, Bool.false_eq_true, Bool.not_true, Bool.not_false, if_true, if_false, and_true, true_and, memE, celE, w64, Nat.zero_add, Nat.add_zero, Nat.mul_one, putL, and_self, ldn, ia0, ia1, r0, r1, hz, gt_iff_lt, bsl_no]
    exact int_noInts (f := fun w => .tuple #[w, .bool false]) hXF (by omega)
  · simp (config := {implicitDefEqProofs := false, maxDischargeDepth := 20}) (disch := first | omega | (simp only [lenE]; done) | (simp only [lenE]; omega) | rfl | (simp only [lenE, markR_len]; done) | (simp only [lenE, markR_len]; omega)) only [runE, mapE, listE, initT_5, initT_6, initT_7, initT_8, resV, oneV, binA, unA, reduceCtorEq, Nat.reduceEqDiff, Nat.reduceAdd, Nat.reduceLT, Nat.reduceLeDiff, Nat.reduceMul, Nat.reduceSub, ↓reduceIte, decide_true, decide_false, Bool.true_eq_false, Bool.false_eq_true, Bool.not_true, Bool.not_false, if_true, if_false, and_true, true_and, memE, celE, w64, Nat.zero_add, Nat.add_zero, Nat.mul_one, putL, and_self, ldn, ia0, ia1, r0, r1, hz, gt_iff_lt, bsl_none]
    have hge := hXF.len
    refine callH_rc (l8Place_rc l hC v l.length _ F.length m.length [] (by simp) ((Sees.ext (hXF.one _ _)).ints h) (by exact OwnR.here F [] _ rfl) hge ((hXF.one _ _).len) (fun k hk => absurd hk (by simp))) ?_
    rintro r new3 ⟨nr3, id3, fl3, rfl, hid3, ho3⟩
    simp (config := {implicitDefEqProofs := false, maxDischargeDepth := 20}) (disch := first | omega | (simp only [lenE]; done) | (simp only [lenE]; omega) | rfl | (simp only [lenE, markR_len]; done) | (simp only [lenE, markR_len]; omega)) only [runE, mapE, listE, initT_5, initT_6, initT_7, initT_8, resV, oneV, binA, unA, reduceCtorEq, Nat.reduceEqDiff, Nat.reduceAdd, Nat.reduceLT, Nat.reduceLeDiff, Nat.reduceMul, Nat.reduceSub, ↓reduceIte, decide_true, decide_false, Bool.true_eq_false, Bool.false_eq_true, Bool.not_true, Bool.not_false, if_true, if_false, and_true, true_and, memE, celE, w64, Nat.zero_add, Nat.add_zero, Nat.mul_one, putL, and_self, ldn, ext_2_0, ext_2_1]
    exact ext_ansO (f := fun w => .tuple #[w, .bool (placeS l l.length []).isSome]) ((hXF.one _ _).app nr3) fun M' hM => ⟨find_len l hC, id3, fl3, rfl, hid3, ho3.lt, ho3.at_ (hM _ hid3 ho3.lt)⟩
end Go.Proofs.Ytmjnjhdacliieaa.Ab
end
section
namespace Go.Proofs.Ytmjnjhdacliieaa.Ab
open Go Go.RowKit
set_option linter.unusedVariables false
set_option linter.unusedSimpArgs false
set_option maxRecDepth 10000
def SeesX (id : Nat) (m M : Mem) : Prop := ∀ (i : Nat) (b : Blk), i ≠ id → m[i]? = some b → b.kd ≠ .dead → ∃ b', M[i]? = some b' ∧ b'.cs = b.cs ∧ b'.kd ≠ .dead
theorem SeesX.then {id : Nat} {m M M' : Mem} (h : SeesX id m M) (h' : Sees M M') : SeesX id m M' := fun i b hi hx hd => by
  obtain ⟨y, hy, e, hd2⟩ := h i b hi hx hd
  obtain ⟨z, hz, e2, hd3⟩ := h' i y hy hd2
  exact ⟨z, hz, e2.trans e, hd3⟩
theorem SeesX.set {id : Nat} {m M : Mem} (h : SeesX id m M) (x : Blk) : SeesX id m (M.set id x) := fun i b hi hx hd => by
  obtain ⟨y, hy, e, hd2⟩ := h i b hi hx hd
  exact ⟨y, by rw [List.getElem?_set_ne (Ne.symm hi)]; exact hy, e, hd2⟩
theorem ints_part {m : Mem} {id fl : Nat} {e : TypeId} {cs : List Value} {l : List Int} (h : OwnB m id e cs) (hl : l.length ≤ cs.length) (hb : l.length ≤ 9223372036854775807) (hc : ∀ q, q < l.length → cs[q]? = some (.int .i64 (l.getD q 0))) :
    IntsA m (.slice (some ⟨id, 0, none⟩) l.length fl) l := by
  refine IntsA.of_block hb (fun k hk => by rw [Nat.zero_add, h.rd]; exact hc k hk) ?_
  unfold OwnB at h
  unfold rdl
  rw [h]
  simp only [Nat.zero_add, List.drop_zero]
  rw [if_neg (by simp), if_pos hl]
  congr 1
  apply List.ext_getElem?
  intro i
  by_cases hi : i < l.length
  · rw [List.getElem?_take_of_lt hi, hc i hi, List.getElem?_map, List.getElem?_eq_getElem hi, List.getD_eq_getElem?_getD, List.getElem?_eq_getElem hi]
    rfl
  · rw [List.getElem?_eq_none (by rw [List.length_take]; omega), List.getElem?_eq_none (by rw [List.length_map]; omega)]
def PartA (id : Nat) (M : Mem) (r : Value) (l : List Int) : Prop := l.length ≤ 1048576 ∧ ∃ fl cs, r = .slice (some ⟨id, 0, none⟩) l.length fl ∧ OwnB M id 3 cs ∧ l.length ≤ cs.length ∧ ∀ q, q < l.length → cs[q]? = some (.int .i64 (l.getD q 0))
theorem PartA.ints {id : Nat} {M : Mem} {r : Value} {l : List Int} (h : PartA id M r l) : IntsA M r l := by
  obtain ⟨h8, fl, cs, rfl, ho, hl, hc⟩ := h
  exact ints_part ho hl (by omega) hc
theorem PartA.at_ {id : Nat} {M M' : Mem} {r : Value} {l : List Int} (h : PartA id M r l) (he : M'[id]? = M[id]?) : PartA id M' r l := by
  obtain ⟨h8, fl, cs, rfl, ho, hl, hc⟩ := h
  exact ⟨h8, fl, cs, rfl, ho.at_ he, hl, hc⟩
structure Left (id : Nat) (m M : Mem) : Prop where
  le : m.length ≤ M.length
  same : ∀ i, i < m.length → i ≠ id → M[i]? = m[i]?
  new : ∀ (i : Nat) (k : Blk), m.length ≤ i → M[i]? = some k → k.kd ≠ .ro
  own : (∀ k, m[id]? = some k → k.kd ≠ .ro) → ∀ k, M[id]? = some k → k.kd ≠ .ro
theorem Left.refl (id : Nat) (m : Mem) : Left id m m := ⟨Nat.le_refl _, fun _ _ _ => rfl, fun i k h1 h2 => by have := (List.getElem?_eq_some_iff.1 h2).1; omega, fun h => h⟩
theorem Left.app {id : Nat} {m M new : Mem} (h : Left id m M) (hn : NoRo new) : Left id m (M ++ new) := by
  have := h.le
  refine ⟨by rw [List.length_append]; omega, fun i h1 h2 => by rw [List.getElem?_append_left (by omega)]; exact h.same i h1 h2, fun i k h1 h2 => ?_, fun h0 k h2 => ?_⟩
  · by_cases hi : i < M.length
    · rw [List.getElem?_append_left hi] at h2; exact h.new i k h1 h2
    · rw [List.getElem?_append_right (by omega)] at h2
      exact hn k (List.mem_of_getElem? h2)
  · by_cases hi : id < M.length
    · rw [List.getElem?_append_left hi] at h2; exact h.own h0 k h2
    · rw [List.getElem?_append_right (by omega)] at h2
      exact hn k (List.mem_of_getElem? h2)
theorem Left.set {id : Nat} {m M : Mem} (h : Left id m M) (e : TypeId) (cs : List Value) : Left id m (M.set id ⟨.own, e, cs⟩) := by
  have key : ∀ k, (M.set id ⟨.own, e, cs⟩)[id]? = some k → k.kd ≠ .ro := fun k h2 => by
    rw [List.getElem?_set] at h2
    simp only [if_true] at h2
    split at h2
    · cases h2; simp
    · cases h2
  refine ⟨by rw [List.length_set]; exact h.le, fun i h1 h2 => by rw [List.getElem?_set_ne (Ne.symm h2)]; exact h.same i h1 h2, fun i k h1 h2 => ?_, fun _ => key⟩
  by_cases hi : i = id
  · subst hi; exact key k h2
  · rw [List.getElem?_set_ne (Ne.symm hi)] at h2; exact h.new i k h1 h2
theorem Left.extX {id : Nat} {m A M : Mem} (hX : Ext m A) (h : Left id A M) (hid : m.length ≤ id) : Ext m M := by
  obtain ⟨n0, rfl, h0⟩ := hX
  have hle := h.le
  rw [List.length_append, roM_len] at hle
  have hsame : ∀ i, i < m.length → M[i]? = (roM m)[i]? := fun i hi => by
    rw [h.same i (by rw [List.length_append, roM_len]; omega) (by omega), List.getElem?_append_left (by rw [roM_len]; exact hi)]
  refine ⟨M.drop m.length, ?_, fun b hb => ?_⟩
  · apply List.ext_getElem?
    intro i
    by_cases hi : i < m.length
    · rw [List.getElem?_append_left (by rw [roM_len]; exact hi)]; exact hsame i hi
    · rw [List.getElem?_append_right (by rw [roM_len]; omega), List.getElem?_drop, roM_len]
      congr 1
      omega
  · obtain ⟨j, hj, rfl⟩ := List.mem_iff_getElem.1 hb
    rw [List.length_drop] at hj
    have hat : M[m.length + j]? = some ((M.drop m.length)[j]'(by rw [List.length_drop]; exact hj)) := by
      rw [List.getElem_drop]; exact List.getElem?_eq_getElem (by omega)
    have old : ∀ (i : Nat) (k : Blk), m.length ≤ i → (roM m ++ n0)[i]? = some k → k.kd ≠ .ro := fun i k h1 h2 => by
      rw [List.getElem?_append_right (by rw [roM_len]; omega)] at h2
      exact h0 k (List.mem_of_getElem? h2)
    by_cases h1 : m.length + j < (roM m ++ n0).length
    · by_cases h2 : m.length + j = id
      · rw [h2] at hat
        exact h.own (fun k hk => old id k hid hk) _ hat
      · rw [h.same _ h1 h2] at hat
        exact old _ _ (by omega) hat
    · exact h.new _ _ (by omega) hat
end Go.Proofs.Ytmjnjhdacliieaa.Ab
end
section
namespace Go.Proofs.Ytmjnjhdacliieaa.Ab
open Go Go.RowKit
set_option linter.unusedVariables false
set_option linter.unusedSimpArgs false
set_option maxRecDepth 10000
def PartR (m : Mem) (w : Value) (L : List (Int × Int)) : Prop := L.length ≤ 64 ∧ ∃ id fl kd e t, w = .slice (some ⟨id, 0, none⟩) L.length fl ∧ m[id]? = some ⟨kd, e, pairsC L ++ t⟩ ∧ kd ≠ .dead
theorem PartR.pairs {m : Mem} {w : Value} {L : List (Int × Int)} (h : PartR m w L) : PairsA m w L := by
  obtain ⟨h8, id, fl, kd, e, t, rfl, hb, hd⟩ := h
  refine ⟨by omega, id, fl, rfl, fun k hk => ?_⟩
  have p := pairsC_at L k hk
  have hl := pairsC_len L
  simp only [rdc, hb, hd, if_false]
  rw [List.getElem?_append_left (by omega), List.getElem?_append_left (by omega)]
  exact p
theorem PartR.src {m : Mem} {w : Value} {L : List (Int × Int)} (h : PartR m w L) : slR m 2 w = some (pairsC L) ∧ lenOfA w = L.length := by
  obtain ⟨h8, id, fl, kd, e, t, rfl, hb, hd⟩ := h
  refine ⟨?_, rfl⟩
  have hl := pairsC_len L
  simp only [slR, rdl, hb, hd, if_false, Nat.zero_add, List.drop_zero]
  rw [if_pos (by rw [List.length_append]; omega), ← hl, List.take_left]
theorem Sees.part {m M : Mem} (h : Sees m M) {w : Value} {L : List (Int × Int)} (hp : PartR m w L) : PartR M w L := by
  obtain ⟨h8, id, fl, kd, e, t, rfl, hb, hd⟩ := hp
  obtain ⟨b', hb', hc, hd'⟩ := h id _ hb hd
  obtain ⟨kd', e', cs'⟩ := b'
  simp only at hc hd'
  subst hc
  exact ⟨h8, id, fl, kd', e', t, rfl, hb', hd'⟩
def PartO (m : Mem) (w : Value) (L : List (Int × Int)) : Prop := L.length ≤ 64 ∧ ∃ id fl t, w = .slice (some ⟨id, 0, none⟩) L.length fl ∧ OwnB m id 96 (pairsC L ++ t)
theorem PartO.r {m : Mem} {w : Value} {L : List (Int × Int)} (h : PartO m w L) : PartR m w L := by
  obtain ⟨h8, id, fl, t, rfl, ho⟩ := h
  exact ⟨h8, id, fl, .own, _, t, rfl, ho, by simp⟩
theorem PartO.ext {m : Mem} {w : Value} {L : List (Int × Int)} (h : PartO m w L) (new : Mem) : PartO (m ++ new) w L := by
  obtain ⟨h8, id, fl, t, rfl, ho⟩ := h
  exact ⟨h8, id, fl, t, rfl, ho.ext new⟩
theorem PartO.dead {m : Mem} {w : Value} {L : List (Int × Int)} (h : PartO m w L) {id : Nat} {cs : List Value} (ht : OwnB m id 92 cs) (b : Blk) : PartO (m.set id b) w L := by
  obtain ⟨h8, id2, fl, t, rfl, ho⟩ := h
  exact ⟨h8, id2, fl, t, rfl, ho.set_ne (ht.ne ho (by decide)) b⟩
theorem PartO.left {m M : Mem} {w : Value} {L : List (Int × Int)} {c n : Nat} (h : PartO m w L) (new : Mem) (hL : Left c (m ++ new) M) (hc : m.length ≤ c) : PartO M w L := by
  obtain ⟨h8, id, fl, t, rfl, ho⟩ := h
  have := ho.lt
  exact ⟨h8, id, fl, t, rfl, (ho.ext new).at_ (hL.same id (by rw [List.length_append]; omega) (by omega))⟩
theorem OwnB.left {m M : Mem} {id c : Nat} {e : TypeId} {cs : List Value} (h : OwnB m id e cs) (new : Mem) (hL : Left c (m ++ new) M) (hc : m.length ≤ c) : OwnB M id e cs := by
  have := h.lt
  exact (h.ext new).at_ (hL.same id (by rw [List.length_append]; omega) (by omega))
theorem PairsO.part {M : Mem} {w : Value} {L : List (Int × Int)} {lo hi : Nat} (h : PairsO 96 L lo hi M w) (h8 : L.length ≤ 64) : PartO M w L := by
  obtain ⟨hl, id, fl, rfl, a, b, ho⟩ := h
  exact ⟨h8, id, fl, [], rfl, by rw [List.append_nil]; exact ho⟩
def rowTo (c : Int) (k : Nat) : List (Int × Int) := (List.range k).map fun (x : Nat) => (c, (x : Int))
theorem rowTo_len (c : Int) (k : Nat) : (rowTo c k).length = k := by simp [rowTo]
theorem rowTo_step (c : Int) (k : Nat) : rowTo c (k + 1) = rowTo c k ++ [(c, (k : Int))] := by simp [rowTo, List.range_succ]
theorem visitsOf_rc (m : Mem) (c : Int) (hc : 1 ≤ c ∧ c ≤ 64) : RC Try.prog 98 [.int .i64 c] m (AnsO m (PairsO 96 (rowTo c c.toNat)) _root_.id) := by
  refine rc_of_run mixed ok_impl_visitsOf (by simp) (go_start _ _ _ ?_)
  obtain ⟨n, rfl⟩ := Int.eq_ofNat_of_zero_le (show 0 ≤ c by omega)
  have hX := Ext.refl m
  simp (config := {implicitDefEqProofs := false, maxDischargeDepth := 20}) (disch := first | omega | (simp only [lenE]; done) | (simp only [lenE]; omega) | rfl | (simp only [lenE, markR_len]; done) | (simp only [lenE, markR_len]; omega)) only [runE, mapE, listE, initT_5, initT_6, initT_7, initT_8, resV, oneV, binA, unA, reduceCtorEq, Nat.reduceEqDiff, Nat.reduceAdd, Nat.reduceLT, Nat.reduceLeDiff, Nat.reduceMul, Nat.reduceSub, ↓reduceIte, decide_true, decide_false, Bool.true_eq_false, Bool.false_eq_true, Bool.not_true, Bool.not_false, if_true, if_false, and_true, true_and, memE, celE, w64, Nat.zero_add, Nat.add_zero, Nat.mul_one, putL, and_self, ldn, c_impl_visitsOf, r_impl_visitsOf, bsl_no, Int.toNat_natCast]
  refine loop_inv mixed (fun s => ∃ (k : Nat) (M : Mem) (id : Nat), k ≤ n ∧ s.m = M ∧ Ext m M ∧ m.length ≤ id ∧ OwnB M id 96 (pairsC (rowTo (n : Int) k)) ∧ s.t 0 = .int .i64 (n : Int) ∧ s.t 3 = .slice (some ⟨id, 0, none⟩) k 2 ∧ s.t 6 = .int .i64 (n : Int) ∧ s.t 7 = .int .i64 (k : Int)) (fun s => n - (intOf (s.t 7)).toNat)
    ⟨0, _, m.length, by omega, rfl, hX.one _ _, Nat.le_refl _, OwnB.here (roM_len m).symm, rfl, rfl, rfl, rfl⟩ ?_
  rintro s ⟨k, M, id, hk, tm, hX, hid, ho, t0, t3, t6, t7⟩
  by_cases hkn : k < n
  · have hlt : (k : Int) < n := by omega
    have hap := app_back (byt := 16) (sz := 2) (n := k) (ys := [.int .i64 (n : Int), .int .i64 (k : Int)]) ho rfl (by rw [pairsC_len, rowTo_len]) rfl rfl (by omega) (by omega)
    have e : pairsC (rowTo (n : Int) k) ++ [.int .i64 (n : Int), .int .i64 (k : Int)] = pairsC (rowTo (n : Int) (k + 1)) := by
      rw [rowTo_step, pairsC_app]; rfl
    rw [e] at hap
    simp (config := {implicitDefEqProofs := false, maxDischargeDepth := 20}) (disch := first | omega | (simp only [lenE]; done) | (simp only [lenE]; omega) | rfl | (simp only [lenE, markR_len]; done) | (simp only [lenE, markR_len]; omega)) only [runE, mapE, listE, initT_5, initT_6, initT_7, initT_8, resV, oneV, binA, unA, reduceCtorEq, Nat.reduceEqDiff, Nat.reduceAdd, Nat.reduceLT, Nat.reduceLeDiff, Nat.reduceMul, Nat.reduceSub, ↓reduceIte, decide_true, decide_false, Bool.true_eq_false, Bool.false_eq_true, Bool.not_true, Bool.not_false, if_true, if_false, and_true, true_and, memE, celE, w64, Nat.zero_add, Nat.add_zero, Nat.mul_one, putL, and_self, ldn, tm, t0, t3, t6, t7, hlt, bld2, bsl_pair, hap]
    refine ⟨⟨k + 1, _, M.length + 1, by omega, rfl, ((hX.dead hid).one _ _).one _ _, ?_, OwnB.here ?_, rfl, by simp⟩, ?_⟩
    · have := hX.len; omega
    · simp
    · simp [intOf]; omega
  · have hlt : ¬ ((k : Int) < n) := by omega
    have e : k = n := by omega
    subst e
    simp (config := {implicitDefEqProofs := false, maxDischargeDepth := 20}) (disch := first | omega | (simp only [lenE]; done) | (simp only [lenE]; omega) | rfl | (simp only [lenE, markR_len]; done) | (simp only [lenE, markR_len]; omega)) only [runE, mapE, listE, initT_5, initT_6, initT_7, initT_8, resV, oneV, binA, unA, reduceCtorEq, Nat.reduceEqDiff, Nat.reduceAdd, Nat.reduceLT, Nat.reduceLeDiff, Nat.reduceMul, Nat.reduceSub, ↓reduceIte, decide_true, decide_false, Bool.true_eq_false, Bool.false_eq_true, Bool.not_true, Bool.not_false, if_true, if_false, and_true, true_and, memE, celE, w64, Nat.zero_add, Nat.add_zero, Nat.mul_one, putL, and_self, ldn, tm, t0, t3, t6, t7, hlt]
    refine ext_ansO (f := _root_.id) hX fun M' hM => ⟨by rw [rowTo_len]; omega, id, 2, by rw [rowTo_len], hid, ho.lt, ho.at_ (hM _ hid ho.lt)⟩
theorem cloneV_rc (m : Mem) (w : Value) (L : List (Int × Int)) (h : PartR m w L) (h0 : 0 < L.length) : RC Try.prog 122 [w] m (AnsO m (PairsO 96 L) _root_.id) := by
  refine rc_of_run mixed ok_slices_Clone_visit (by simp) (go_start _ _ _ ?_)
  have hX := (Ext.refl m).one 96 []
  have hs := ((Sees.ext hX).part h).src
  have h8 := h.1
  have hap : appP (roM m ++ [⟨.own, 96, []⟩]) 96 2 16 (.slice (some ⟨m.length, 0, none⟩) 0 2) w = some (.slice (some ⟨m.length + 1, 0, none⟩) L.length 2, roM m ++ [deadB] ++ [⟨.own, 96, pairsC L⟩]) := by
    have ho : OwnB (roM m ++ [⟨.own, 96, []⟩]) m.length 96 [] := OwnB.here (roM_len m).symm
    unfold appP
    rw [hs.1]
    simp only [onesB_pairs, if_true, appA, hs.2]
    rw [show (roM m ++ [⟨.own, 96, []⟩])[m.length]? = some ⟨.own, 96, []⟩ from ho]
    simp only [List.length_nil, Nat.zero_mul, true_and, Nat.zero_add]
    rw [if_pos (by omega)]
    simp [roM_len]
  obtain ⟨_, id, fl, kd, e, t, rfl, hb, hd⟩ := h
  have hsl : slnA false (.slice (some ⟨id, 0, none⟩) L.length fl) = some (.bool false) := by
    obtain ⟨n, hn⟩ : ∃ n, L.length = n + 1 := ⟨L.length - 1, by omega⟩
    rw [hn]; rfl
  simp (config := {implicitDefEqProofs := false, maxDischargeDepth := 20}) (disch := first | omega | (simp only [lenE]; done) | (simp only [lenE]; omega) | rfl | (simp only [lenE, markR_len]; done) | (simp only [lenE, markR_len]; omega)) only [runE, mapE, listE, initT_5, initT_6, initT_7, initT_8, resV, oneV, binA, unA, reduceCtorEq, Nat.reduceEqDiff, Nat.reduceAdd, Nat.reduceLT, Nat.reduceLeDiff, Nat.reduceMul, Nat.reduceSub, ↓reduceIte, decide_true, decide_false, Bool.true_eq_false, Bool.false_eq_true, Bool.not_true, Bool.not_false, if_true, if_false, and_true, true_and, memE, celE, w64, Nat.zero_add, Nat.add_zero, Nat.mul_one, putL, and_self, ldn, c_slices_Clone_visit, r_slices_Clone_visit, hsl, bsl_no, hap]
  have hX2 : Ext m (roM m ++ [deadB] ++ [⟨.own, 96, pairsC L⟩]) := ((Ext.refl m).app (noRo_dead noRo_nil)).one _ _
  have ho : OwnB (roM m ++ [deadB] ++ [⟨.own, 96, pairsC L⟩]) (m.length + 1) 96 (pairsC L) := OwnB.here (by simp [roM_len])
  exact ext_ansO (f := _root_.id) hX2 fun M' hM => ⟨by omega, m.length + 1, 2, rfl, by omega, ho.lt, ho.at_ (hM _ (by omega) ho.lt)⟩
def TestP (fv : Value) (L : List (Int × Int)) (f : Int × Int → Bool) : Prop := ∃ g first cap, fv = .func (.func g) (List.toArray first) (List.toArray cap) ∧ ∀ M p, p ∈ L → RC Try.prog g (first ++ (pairV p :: cap)) M (AnsV (.bool (f p)))
def firstP (f : Int × Int → Bool) (L : List (Int × Int)) : Nat := (L.takeWhile (fun x => !f x)).length
theorem firstP_le (f : Int × Int → Bool) (L : List (Int × Int)) : firstP f L ≤ L.length := by
  unfold firstP
  exact List.Sublist.length_le (List.takeWhile_sublist _)
theorem firstP_no (f : Int × Int → Bool) : ∀ (L : List (Int × Int)) (k : Nat), k < firstP f L → f (L.getD k (0, 0)) = false := by
  intro l
  induction l with
  | nil => intro k h; simp [firstP] at h
  | cons x l ih =>
    intro k h
    cases hx : f x with
    | true => simp [firstP, List.takeWhile_cons, hx] at h
    | false =>
      cases k with
      | zero => simpa using hx
      | succ k => simp only [List.getD_cons_succ]; exact ih k (by simpa [firstP, List.takeWhile_cons, hx] using h)
theorem firstP_at (f : Int × Int → Bool) : ∀ (L : List (Int × Int)), firstP f L < L.length → f (L.getD (firstP f L) (0, 0)) = true := by
  intro l
  induction l with
  | nil => intro h; simp at h
  | cons x l ih =>
    intro h
    cases hx : f x with
    | true => simp [firstP, List.takeWhile_cons, hx]
    | false =>
      have e : firstP f (x :: l) = firstP f l + 1 := by simp [firstP, List.takeWhile_cons, hx]
      rw [e] at h ⊢
      simp only [List.getD_cons_succ]
      exact ih (by simpa using h)
theorem firstP_eq (f : Int × Int → Bool) (L : List (Int × Int)) (k : Nat) (hk : k < L.length) (h1 : ∀ j, j < k → f (L.getD j (0, 0)) = false) (h2 : f (L.getD k (0, 0)) = true) : firstP f L = k := by
  rcases Nat.lt_trichotomy (firstP f L) k with h | h | h
  · have := firstP_at f L (by omega)
    rw [h1 _ h] at this; cases this
  · exact h
  · have := firstP_no f L k h
    rw [h2] at this; cases this
theorem firstP_all (f : Int × Int → Bool) (L : List (Int × Int)) (h1 : ∀ j, j < L.length → f (L.getD j (0, 0)) = false) : firstP f L = L.length := by
  rcases Nat.lt_or_ge (firstP f L) L.length with h | h
  · have := firstP_at f L h
    rw [h1 _ h] at this; cases this
  · have := firstP_le f L; omega
theorem indexP_rc (m : Mem) (v fv : Value) (L : List (Int × Int)) (f : Int × Int → Bool) (h : PairsA m v L) (hf : TestP fv L f) :
    RC Try.prog 116 [v, fv] m (AnsV (.int .i64 (if firstP f L < L.length then (firstP f L : Int) else -1))) := by
  refine rc_of_run mixed ok_slices_IndexFunc_visit (by simp) (go_start _ _ _ ?_)
  obtain ⟨g, first, cap, rfl, hg⟩ := hf
  have hl := h.len2
  have hbd := h.1
  simp (config := {implicitDefEqProofs := false, maxDischargeDepth := 20}) (disch := first | omega | (simp only [lenE]; done) | (simp only [lenE]; omega) | rfl | (simp only [lenE, markR_len]; done) | (simp only [lenE, markR_len]; omega)) only [runE, mapE, listE, initT_5, initT_6, initT_7, initT_8, resV, oneV, binA, unA, reduceCtorEq, Nat.reduceEqDiff, Nat.reduceAdd, Nat.reduceLT, Nat.reduceLeDiff, Nat.reduceMul, Nat.reduceSub, ↓reduceIte, decide_true, decide_false, Bool.true_eq_false, Bool.false_eq_true, Bool.not_true, Bool.not_false, if_true, if_false, and_true, true_and, memE, celE, w64, Nat.zero_add, Nat.add_zero, Nat.mul_one, putL, and_self, ldn, c_slices_IndexFunc_visit, r_slices_IndexFunc_visit, hl]
  refine loop_inv mixed (fun s => ∃ (k : Nat) (M : Mem), k ≤ L.length ∧ (∀ j, j < k → f (L.getD j (0, 0)) = false) ∧ s.m = M ∧ Ext m M ∧ s.t 0 = v ∧ s.t 1 = .func (.func g) (List.toArray first) (List.toArray cap) ∧ s.t 7 = .int .i64 (L.length : Int) ∧ s.t 8 = .int .i64 (k : Int)) (fun s => L.length - (intOf (s.t 8)).toNat)
    ⟨0, _, by omega, fun j hj => absurd hj (by omega), rfl, Ext.refl m, rfl, rfl, rfl, rfl⟩ ?_
  rintro s ⟨k, M, hk, hno, tm, hX, t0, t1, t7, t8⟩
  have hM := (Sees.ext hX).pairs h
  by_cases hkl : k < L.length
  · have hlt : (k : Int) < L.length := by omega
    have i1 := hM.at2 hkl
    have i2 := hM.ld2 hkl
    have hh := hg M (L.getD k (0, 0)) (pair_in hkl)
    simp (config := {implicitDefEqProofs := false, maxDischargeDepth := 20}) (disch := first | omega | (simp only [lenE]; done) | (simp only [lenE]; omega) | rfl | (simp only [lenE, markR_len]; done) | (simp only [lenE, markR_len]; omega)) only [runE, mapE, listE, initT_5, initT_6, initT_7, initT_8, resV, oneV, binA, unA, reduceCtorEq, Nat.reduceEqDiff, Nat.reduceAdd, Nat.reduceLT, Nat.reduceLeDiff, Nat.reduceMul, Nat.reduceSub, ↓reduceIte, decide_true, decide_false, Bool.true_eq_false, Bool.false_eq_true, Bool.not_true, Bool.not_false, if_true, if_false, and_true, true_and, memE, celE, w64, Nat.zero_add, Nat.add_zero, Nat.mul_one, putL, and_self, ldn, tm, t0, t1, t7, t8, hlt, i1, i2, List.append_assoc]
    refine callH_rc hh ?_
    rintro r new ⟨rfl, nrn⟩
    cases hb : f (L.getD k (0, 0)) with
    | true =>
      simp (config := {implicitDefEqProofs := false, maxDischargeDepth := 20}) (disch := first | omega | (simp only [lenE]; done) | (simp only [lenE]; omega) | rfl | (simp only [lenE, markR_len]; done) | (simp only [lenE, markR_len]; omega)) only [runE, mapE, listE, initT_5, initT_6, initT_7, initT_8, resV, oneV, binA, unA, reduceCtorEq, Nat.reduceEqDiff, Nat.reduceAdd, Nat.reduceLT, Nat.reduceLeDiff, Nat.reduceMul, Nat.reduceSub, ↓reduceIte, decide_true, decide_false, Bool.true_eq_false, Bool.false_eq_true, Bool.not_true, Bool.not_false, if_true, if_false, and_true, true_and, memE, celE, w64, Nat.zero_add, Nat.add_zero, Nat.mul_one, putL, and_self, ldn, tm, t0, t1, t7, t8]
      refine ext_ansV (hX.app nrn) ?_
      rw [firstP_eq f L k hkl hno hb, if_pos hkl]
    | false =>
      simp (config := {implicitDefEqProofs := false, maxDischargeDepth := 20}) (disch := first | omega | (simp only [lenE]; done) | (simp only [lenE]; omega) | rfl | (simp only [lenE, markR_len]; done) | (simp only [lenE, markR_len]; omega)) only [runE, mapE, listE, initT_5, initT_6, initT_7, initT_8, resV, oneV, binA, unA, reduceCtorEq, Nat.reduceEqDiff, Nat.reduceAdd, Nat.reduceLT, Nat.reduceLeDiff, Nat.reduceMul, Nat.reduceSub, ↓reduceIte, decide_true, decide_false, Bool.true_eq_false, Bool.false_eq_true, Bool.not_true, Bool.not_false, if_true, if_false, and_true, true_and, memE, celE, w64, Nat.zero_add, Nat.add_zero, Nat.mul_one, putL, and_self, ldn, tm, t0, t1, t7, t8]
      refine ⟨⟨k + 1, _, by omega, fun j hj => ?_, rfl, hX.app nrn, by simp⟩, ?_⟩
      · by_cases e : j = k
        · subst e; exact hb
        · exact hno j (by omega)
      · simp [intOf]; omega
  · have hlt : ¬ ((k : Int) < L.length) := by omega
    have e : k = L.length := by omega
    subst e
    simp (config := {implicitDefEqProofs := false, maxDischargeDepth := 20}) (disch := first | omega | (simp only [lenE]; done) | (simp only [lenE]; omega) | rfl | (simp only [lenE, markR_len]; done) | (simp only [lenE, markR_len]; omega)) only [runE, mapE, listE, initT_5, initT_6, initT_7, initT_8, resV, oneV, binA, unA, reduceCtorEq, Nat.reduceEqDiff, Nat.reduceAdd, Nat.reduceLT, Nat.reduceLeDiff, Nat.reduceMul, Nat.reduceSub, ↓reduceIte, decide_true, decide_false, Bool.true_eq_false, Bool.false_eq_true, Bool.not_true, Bool.not_false, if_true, if_false, and_true, true_and, memE, celE, w64, Nat.zero_add, Nat.add_zero, Nat.mul_one, putL, and_self, ldn, tm, t0, t1, t7, t8, hlt]
    refine ext_ansV hX ?_
    rw [firstP_all f L hno, if_neg (by omega)]
theorem filter_takeP (f : Int × Int → Bool) (L : List (Int × Int)) (k : Nat) (hk : k < L.length) : (L.take (k + 1)).filter f = (L.take k).filter f ++ (if f (L.getD k (0, 0)) then [L.getD k (0, 0)] else []) := by
  rw [List.take_add_one, List.filter_append, List.getD_eq_getElem?_getD, List.getElem?_eq_getElem hk]
  simp only [Option.toList, Option.getD_some]
  cases hb : f L[k] <;> simp [hb]
theorem pairs_set {X : List (Int × Int)} {i : Nat} {p : Int × Int} (hi : i < X.length) : putL (pairsC X) (i * 2) [.int .i64 p.1, .int .i64 p.2] = pairsC (X.set i p) := by
  have hl := pairsC_len X
  refine pairsC_ext (by rw [putL_len, hl, List.length_set]) fun k hk => ?_
  rw [List.length_set] at hk
  have hp := pairsC_at X k hk
  rw [putL_at _ _ _ _ (by simp only [List.length_cons, List.length_nil]; omega), putL_at _ _ _ _ (by simp only [List.length_cons, List.length_nil]; omega)]
  simp only [List.length_cons, List.length_nil]
  by_cases e : k = i
  · subst e
    have : (X.set k p).getD k (0, 0) = p := by simp [List.getD_eq_getElem?_getD, hk]
    rw [this, if_pos (by omega), if_pos (by omega), Nat.sub_self, show k * 2 + 1 - k * 2 = 1 by omega]
    exact ⟨rfl, rfl⟩
  · have : (X.set i p).getD k (0, 0) = X.getD k (0, 0) := by
      rw [List.getD_eq_getElem?_getD, List.getD_eq_getElem?_getD, List.getElem?_set_ne (Ne.symm e)]
    rw [this, if_neg (by omega), if_neg (by omega)]
    exact hp
theorem take_set {X : List (Int × Int)} {i : Nat} {p : Int × Int} (hi : i < X.length) : (X.set i p).take (i + 1) = X.take i ++ [p] := by
  rw [List.take_add_one, List.getElem?_set_self hi]
  congr 1
  apply List.ext_getElem?
  intro q
  by_cases h : q < i
  · rw [List.getElem?_take_of_lt h, List.getElem?_take_of_lt h, List.getElem?_set_ne (by omega)]
  · rw [List.getElem?_eq_none (by rw [List.length_take]; omega), List.getElem?_eq_none (by rw [List.length_take]; omega)]
theorem onesB_rep (n : Nat) : onesB (repL n [.int .i64 0, .int .i64 0]) = true := by
  unfold onesB
  rw [List.all_eq_true]
  intro x hx
  obtain ⟨z, hz, hx⟩ := List.mem_flatten.1 hx
  rw [(List.mem_replicate.1 hz).2] at hx
  simp only [List.mem_cons, List.not_mem_nil, or_false] at hx
  rcases hx with rfl | rfl <;> rfl
theorem clr_pairs {M : Mem} {id n i : Nat} {X : List (Int × Int)} (h : OwnB M id 96 (pairsC X)) (hn : i + n = X.length) :
    ∃ t M', clrA M [.int .i64 0, .int .i64 0] (.slice (some ⟨id, i * 2, none⟩) n 0) = some M' ∧ OwnB M' id 96 (pairsC (X.take i) ++ t) ∧ ∀ m, Left id m M → Left id m M' := by
  have hl := pairsC_len X
  have hsp : pairsC X = pairsC (X.take i) ++ pairsC (X.drop i) := by rw [← pairsC_app, List.take_append_drop]
  have hlt : (pairsC (X.take i)).length = i * 2 := by rw [pairsC_len, List.length_take]; omega
  by_cases h0 : n = 0
  · subst h0
    exact ⟨pairsC (X.drop i), M, by simp [clrA], by rw [← hsp]; exact h, fun m hL => hL⟩
  · have hrl : (repL n [Value.int .i64 0, .int .i64 0]).length = n * 2 := by rw [repL_len]; rfl
    refine ⟨(putL (pairsC X) (i * 2) (repL n [.int .i64 0, .int .i64 0])).drop (i * 2), M.set id ⟨.own, 96, putL (pairsC X) (i * 2) (repL n [.int .i64 0, .int .i64 0])⟩, ?_, ?_, fun m hL => hL.set _ _⟩
    · simp only [clrA, h0, if_false]
      exact h.st (by rw [hrl]; omega) (onesB_rep n)
    · have key : (putL (pairsC X) (i * 2) (repL n [.int .i64 0, .int .i64 0])).take (i * 2) = pairsC (X.take i) := by
        apply List.ext_getElem?
        intro q
        by_cases hq : q < i * 2
        · rw [List.getElem?_take_of_lt hq, putL_at _ _ _ _ (by rw [hrl]; omega), if_neg (by omega), hsp, List.getElem?_append_left (by omega)]
        · rw [List.getElem?_eq_none (by rw [List.length_take]; omega), List.getElem?_eq_none (by omega)]
      have e := List.take_append_drop (i * 2) (putL (pairsC X) (i * 2) (repL n [.int .i64 0, .int .i64 0]))
      rw [key] at e
      rw [e]
      exact h.set_self _ _
theorem deleteV_ac (m : Mem) (id fl : Nat) (fv : Value) (L : List (Int × Int)) (f : Int × Int → Bool) (h : OwnB m id 96 (pairsC L)) (h8 : L.length ≤ 64) (hf : TestP fv L f) :
    AC Try.prog 121 [.slice (some ⟨id, 0, none⟩) L.length fl, fv] m fun r m' => Left id m m' ∧ ∃ t, r = .slice (some ⟨id, 0, none⟩) (L.filter (fun x => !f x)).length fl ∧ OwnB m' id 96 (pairsC (L.filter (fun x => !f x)) ++ t) := by
  refine ac_of_run mixed ok_slices_DeleteFunc_visit (by simp) (go_start _ _ _ ?_)
  have hT := hf
  obtain ⟨g, first, cap, rfl, hg⟩ := hf
  have hI : PairsA m (.slice (some ⟨id, 0, none⟩) L.length fl) L := ⟨by omega, id, fl, rfl, fun k hk => by rw [h.rd, h.rd]; exact pairsC_at L k hk⟩
  simp (config := {implicitDefEqProofs := false, maxDischargeDepth := 20}) (disch := first | omega | (simp only [lenE]; done) | (simp only [lenE]; omega) | rfl | (simp only [lenE, markR_len]; done) | (simp only [lenE, markR_len]; omega)) only [runE, mapE, listE, initT_5, initT_6, initT_7, initT_8, resV, oneV, binA, unA, reduceCtorEq, Nat.reduceEqDiff, Nat.reduceAdd, Nat.reduceLT, Nat.reduceLeDiff, Nat.reduceMul, Nat.reduceSub, ↓reduceIte, decide_true, decide_false, Bool.true_eq_false, Bool.false_eq_true, Bool.not_true, Bool.not_false, if_true, if_false, and_true, true_and, memE, celE, w64, Nat.zero_add, Nat.add_zero, Nat.mul_one, putL, and_self, ldn, c_slices_DeleteFunc_visit, r_slices_DeleteFunc_visit]
  refine callH_rc (indexP_rc m _ _ L f hI hT) ?_
  rintro r new0 ⟨rfl, nr0⟩
  by_cases hfi : firstP f L < L.length
  · rw [if_pos hfi]
    have hne : ((firstP f L : Int) == -1) = false := by rw [beq_eq_false_iff_ne]; omega
    simp (config := {implicitDefEqProofs := false, maxDischargeDepth := 20}) (disch := first | omega | (simp only [lenE]; done) | (simp only [lenE]; omega) | rfl | (simp only [lenE, markR_len]; done) | (simp only [lenE, markR_len]; omega)) only [runE, mapE, listE, initT_5, initT_6, initT_7, initT_8, resV, oneV, binA, unA, reduceCtorEq, Nat.reduceEqDiff, Nat.reduceAdd, Nat.reduceLT, Nat.reduceLeDiff, Nat.reduceMul, Nat.reduceSub, ↓reduceIte, decide_true, decide_false, Bool.true_eq_false, Bool.false_eq_true, Bool.not_true, Bool.not_false, if_true, if_false, and_true, true_and, memE, celE, w64, Nat.zero_add, Nat.add_zero, Nat.mul_one, putL, and_self, ldn, hne]
    have hkeep : (L.take (firstP f L)).filter (fun x => !f x) = L.take (firstP f L) := by
      apply List.filter_eq_self.2
      intro x hx
      obtain ⟨j, hj, rfl⟩ := List.mem_iff_getElem.1 hx
      rw [List.length_take] at hj
      have := firstP_no f L j (by omega)
      rw [List.getD_eq_getElem?_getD, List.getElem?_eq_getElem (by omega)] at this
      simp at this ⊢
      exact this
    have hfst := firstP_at f L hfi
    have hstep0 := filter_takeP (fun x => !f x) L (firstP f L) hfi
    rw [hfst, hkeep] at hstep0
    simp only [Bool.not_true, Bool.false_eq_true, if_false, List.append_nil] at hstep0
    refine loop_inv mixed (fun s => ∃ (j i : Nat) (M : Mem) (X : List (Int × Int)), j ≤ L.length ∧ i < j ∧ X.take i = (L.take j).filter (fun x => !f x) ∧ s.m = M ∧ Left id m M ∧ OwnB M id 96 (pairsC X) ∧ X.length = L.length ∧
        (∀ q, j ≤ q → q < L.length → X.getD q (0, 0) = L.getD q (0, 0)) ∧
        s.t 0 = .slice (some ⟨id, 0, none⟩) L.length fl ∧ s.t 1 = .func (.func g) (List.toArray first) (List.toArray cap) ∧ s.t 5 = .int .i64 (i : Int) ∧ s.t 6 = .int .i64 (j : Int)) (fun s => L.length - (intOf (s.t 6)).toNat)
      ⟨firstP f L + 1, firstP f L, _, L, by omega, by omega, hstep0.symm, rfl, (Left.refl id m).app nr0, h.ext _, rfl, fun q _ _ => rfl, rfl, rfl, rfl, by simp; rfl⟩ ?_
    rintro s ⟨j, i, M, X, hj, hij, hi, tm, hL, ho, hcl, hpost, t0, t1, t5, t6⟩
    by_cases hjl : j < L.length
    · have hlt : (j : Int) < L.length := by omega
      have hIM : PairsA M (.slice (some ⟨id, 0, none⟩) L.length fl) X := ⟨by omega, id, fl, by rw [hcl], fun k hk => by rw [ho.rd, ho.rd]; exact pairsC_at X k hk⟩
      have i1 := hIM.at2 (k := j) (by omega)
      have i2 := hIM.ld2 (k := j) (by omega)
      rw [hpost j (Nat.le_refl _) hjl] at i2
      have hin := pair_in hjl
      have hft := filter_takeP (fun x => !f x) L j hjl
      generalize L.getD j (0, 0) = p at *
      obtain ⟨a, b⟩ := p
      simp only [pairV] at i2
      simp (config := {implicitDefEqProofs := false, maxDischargeDepth := 20}) (disch := first | omega | (simp only [lenE]; done) | (simp only [lenE]; omega) | rfl | (simp only [lenE, markR_len]; done) | (simp only [lenE, markR_len]; omega)) only [runE, mapE, listE, initT_5, initT_6, initT_7, initT_8, resV, oneV, binA, unA, reduceCtorEq, Nat.reduceEqDiff, Nat.reduceAdd, Nat.reduceLT, Nat.reduceLeDiff, Nat.reduceMul, Nat.reduceSub, ↓reduceIte, decide_true, decide_false, Bool.true_eq_false, Bool.false_eq_true, Bool.not_true, Bool.not_false, if_true, if_false, and_true, true_and, memE, celE, w64, Nat.zero_add, Nat.add_zero, Nat.mul_one, putL, and_self, ldn, tm, t0, t1, t5, t6, hlt, i1, i2, stP_agg2]
      obtain ⟨F, hF⟩ : ∃ F, F = M ++ [⟨.own, 96, [.int .i64 a, .int .i64 b]⟩] := ⟨_, rfl⟩
      have oF : OwnB F M.length 96 [.int .i64 a, .int .i64 b] := by rw [hF]; exact OwnB.here rfl
      have hLF : Left id m F := by rw [hF]; exact hL.app (noRo_own noRo_nil)
      have hoF : OwnB F id 96 (pairsC X) := by rw [hF]; exact ho.ext _
      rw [← hF]
      clear hF
      simp (config := {implicitDefEqProofs := false, maxDischargeDepth := 20}) (disch := first | omega | (simp only [lenE]; done) | (simp only [lenE]; omega) | rfl | (simp only [lenE, markR_len]; done) | (simp only [lenE, markR_len]; omega)) only [runE, mapE, listE, initT_5, initT_6, initT_7, initT_8, resV, oneV, binA, unA, reduceCtorEq, Nat.reduceEqDiff, Nat.reduceAdd, Nat.reduceLT, Nat.reduceLeDiff, Nat.reduceMul, Nat.reduceSub, ↓reduceIte, decide_true, decide_false, Bool.true_eq_false, Bool.false_eq_true, Bool.not_true, Bool.not_false, if_true, if_false, and_true, true_and, memE, celE, w64, Nat.zero_add, Nat.add_zero, Nat.mul_one, putL, and_self, ldn, oF.ld2, List.append_assoc]
      have hh := hg F (a, b) hin
      simp only [pairV] at hh
      refine callH_rc hh ?_
      rintro r new ⟨rfl, nrn⟩
      cases hb : f (a, b) with
      | true =>
        rw [hb] at hft
        simp only [Bool.not_true, Bool.false_eq_true, if_false, List.append_nil] at hft
        simp (config := {implicitDefEqProofs := false, maxDischargeDepth := 20}) (disch := first | omega | (simp only [lenE]; done) | (simp only [lenE]; omega) | rfl | (simp only [lenE, markR_len]; done) | (simp only [lenE, markR_len]; omega)) only [runE, mapE, listE, initT_5, initT_6, initT_7, initT_8, resV, oneV, binA, unA, reduceCtorEq, Nat.reduceEqDiff, Nat.reduceAdd, Nat.reduceLT, Nat.reduceLeDiff, Nat.reduceMul, Nat.reduceSub, ↓reduceIte, decide_true, decide_false, Bool.true_eq_false, Bool.false_eq_true, Bool.not_true, Bool.not_false, if_true, if_false, and_true, true_and, memE, celE, w64, Nat.zero_add, Nat.add_zero, Nat.mul_one, putL, and_self, ldn, tm, t0, t1, t5, t6]
        refine ⟨⟨j + 1, i, _, X, by omega, by omega, by rw [hft]; exact hi, rfl, hLF.app nrn, hoF.ext _, hcl, fun q h1 h2 => hpost q (by omega) h2, rfl, by simp⟩, ?_⟩
        simp [intOf]; omega
      | false =>
        rw [hb] at hft
        simp only [Bool.not_false, if_true] at hft
        have hst := (hoF.ext new).st (off := i * 2) (vs := [.int .i64 a, .int .i64 b]) (by rw [pairsC_len]; simp only [List.length_cons, List.length_nil]; omega) rfl
        rw [show [Value.int .i64 a, .int .i64 b] = [.int .i64 (a, b).1, .int .i64 (a, b).2] from rfl, pairs_set (by omega)] at hst
        have hil : i < L.length := by omega
        have hil' : (i : Int) < L.length := by omega
        have l2 := (oF.ext new).ld2
        have hst' : stA (F ++ new) id (0 + i * 2) [.int .i64 a, .int .i64 b] = some ((F ++ new).set id ⟨.own, 96, pairsC (X.set i (a, b))⟩) := by rw [Nat.zero_add]; exact hst
        simp (config := {implicitDefEqProofs := false, maxDischargeDepth := 20}) (disch := first | omega | (simp only [lenE]; done) | (simp only [lenE]; omega) | rfl | (simp only [lenE, markR_len]; done) | (simp only [lenE, markR_len]; omega)) only [runE, mapE, listE, initT_5, initT_6, initT_7, initT_8, resV, oneV, binA, unA, reduceCtorEq, Nat.reduceEqDiff, Nat.reduceAdd, Nat.reduceLT, Nat.reduceLeDiff, Nat.reduceMul, Nat.reduceSub, ↓reduceIte, decide_true, decide_false, Bool.true_eq_false, Bool.false_eq_true, Bool.not_true, Bool.not_false, if_true, if_false, and_true, true_and, memE, celE, w64, Nat.zero_add, Nat.add_zero, Nat.mul_one, putL, and_self, ldn, tm, t0, t1, t5, t6, l2, iadA_in hil, stP_agg2, hst', hst]
        refine ⟨⟨j + 1, i + 1, _, X.set i (a, b), by omega, by omega, ?_, rfl, (hLF.app nrn).set _ _, (hoF.ext new).set_self _ _, by rw [List.length_set]; exact hcl, fun q h1 h2 => ?_, by simp⟩, ?_⟩
        · rw [hft, take_set (by omega), hi]
        · rw [List.getD_eq_getElem?_getD, List.getElem?_set_ne (by omega), ← List.getD_eq_getElem?_getD]; exact hpost q (by omega) h2
        · simp [intOf]; omega
    · have hlt : ¬ ((j : Int) < L.length) := by omega
      have e : j = L.length := by omega
      subst e
      rw [List.take_length] at hi
      have hfl : (L.filter (fun x => !f x)).length = i := by rw [← hi, List.length_take]; omega
      obtain ⟨t, M', hclr, ho', hL'⟩ := clr_pairs (n := L.length - i) (i := i) ho (by omega)
      have hil : i ≤ L.length := by omega
      have hs1 : slcA 2 (.slice (some ⟨id, 0, none⟩) L.length fl) (some (.int .i64 (i : Int))) none = some (.slice (some ⟨id, i * 2, none⟩) (L.length - i) 0) := by
        simp only [slcA, boundA, Int.toNat_natCast]
        rw [if_pos (by omega)]
        simp [hil]
      have hs2 : slcA 2 (.slice (some ⟨id, 0, none⟩) L.length fl) none (some (.int .i64 (i : Int))) = some (.slice (some ⟨id, 0, none⟩) i fl) := by
        simp only [slcA, boundA, Int.toNat_natCast]
        rw [if_pos (by omega)]
        simp [hil]
      simp (config := {implicitDefEqProofs := false, maxDischargeDepth := 20}) (disch := first | omega | (simp only [lenE]; done) | (simp only [lenE]; omega) | rfl | (simp only [lenE, markR_len]; done) | (simp only [lenE, markR_len]; omega)) only [runE, mapE, listE, initT_5, initT_6, initT_7, initT_8, resV, oneV, binA, unA, reduceCtorEq, Nat.reduceEqDiff, Nat.reduceAdd, Nat.reduceLT, Nat.reduceLeDiff, Nat.reduceMul, Nat.reduceSub, ↓reduceIte, decide_true, decide_false, Bool.true_eq_false, Bool.false_eq_true, Bool.not_true, Bool.not_false, if_true, if_false, and_true, true_and, memE, celE, w64, Nat.zero_add, Nat.add_zero, Nat.mul_one, putL, and_self, ldn, tm, t0, t1, t5, t6, hlt, hs1, hs2, hclr, Option.map_none]
      refine ⟨hL' m hL, t, by rw [hfl], ?_⟩
      rw [← hi]
      exact ho'
  · rw [if_neg hfi]
    have e : firstP f L = L.length := by have := firstP_le f L; omega
    simp (config := {implicitDefEqProofs := false, maxDischargeDepth := 20}) (disch := first | omega | (simp only [lenE]; done) | (simp only [lenE]; omega) | rfl | (simp only [lenE, markR_len]; done) | (simp only [lenE, markR_len]; omega)) only [runE, mapE, listE, initT_5, initT_6, initT_7, initT_8, resV, oneV, binA, unA, reduceCtorEq, Nat.reduceEqDiff, Nat.reduceAdd, Nat.reduceLT, Nat.reduceLeDiff, Nat.reduceMul, Nat.reduceSub, ↓reduceIte, decide_true, decide_false, Bool.true_eq_false, Bool.false_eq_true, Bool.not_true, Bool.not_false, if_true, if_false, and_true, true_and, memE, celE, w64, Nat.zero_add, Nat.add_zero, Nat.mul_one, putL, and_self, ldn, show ((-1 : Int) == -1) = true by rfl]
    have : L.filter (fun x => !f x) = L := by
      apply List.filter_eq_self.2
      intro x hx
      obtain ⟨j, hj, rfl⟩ := List.mem_iff_getElem.1 hx
      have := firstP_no f L j (by omega)
      rw [List.getD_eq_getElem?_getD, List.getElem?_eq_getElem hj] at this
      simp at this ⊢
      exact this
    refine ⟨(Left.refl id m).app nr0, [], by rw [this], ?_⟩
    rw [this, List.append_nil]
    exact h.ext _
end Go.Proofs.Ytmjnjhdacliieaa.Ab
end
section
namespace Go.Proofs.Ytmjnjhdacliieaa.Ab
open Go Go.RowKit
set_option linter.unusedVariables false
set_option linter.unusedSimpArgs false
set_option maxRecDepth 10000
def RowsV (m : Mem) (v : Value) (rows : List (List (Int × Int))) : Prop := rows.length ≤ 5 ∧ ∃ id off fl, ∃ ws : Nat → Value, v = .slice (some ⟨id, off, none⟩) rows.length fl ∧ ∀ k, k < rows.length → rdc m id (off + k) = some (ws k) ∧ PartR m (ws k) (rows.getD k [])
def pRow (v : Value) (k : Nat) : Value := match v with
  | .slice (some ⟨id, off, _⟩) _ _ => .pointer (some ⟨id, off + k * 1, none⟩)
  | _ => undef
theorem RowsV.len {m : Mem} {v : Value} {rows : List (List (Int × Int))} (h : RowsV m v rows) : lenA v = some (.int .i64 rows.length) := by
  obtain ⟨_, id, off, fl, ws, rfl, _⟩ := h; rfl
theorem RowsV.at_ {m : Mem} {v : Value} {rows : List (List (Int × Int))} (h : RowsV m v rows) {k : Nat} (hk : k < rows.length) : iadA 1 v (.int .i64 (k : Int)) = some (pRow v k) := by
  obtain ⟨_, id, off, fl, ws, rfl, _⟩ := h
  exact iadA_in hk
theorem RowsV.ld {m : Mem} {v : Value} {rows : List (List (Int × Int))} (h : RowsV m v rows) {k : Nat} (hk : k < rows.length) : ∃ w, ldA m none (pRow v k) = some w ∧ PartR m w (rows.getD k []) := by
  obtain ⟨_, id, off, fl, ws, rfl, hc⟩ := h
  refine ⟨ws k, ?_, (hc k hk).2⟩
  simp only [pRow, ldA, Nat.mul_one]
  exact (hc k hk).1
theorem RowsV.tail {m : Mem} {v : Value} {r : List (Int × Int)} {rest : List (List (Int × Int))} (h : RowsV m v (r :: rest)) : ∃ w, slcA 1 v (some (.int .i64 1)) none = some w ∧ RowsV m w rest := by
  obtain ⟨h5, id, off, fl, ws, rfl, hc⟩ := h
  rw [List.length_cons] at h5 hc
  refine ⟨.slice (some ⟨id, off + 1, none⟩) rest.length 0, ?_, by omega, id, off + 1, 0, fun k => ws (k + 1), rfl, fun k hk => ?_⟩
  · simp [slcA, boundA]
  · have := hc (k + 1) (by omega)
    rw [List.getD_cons_succ] at this
    rw [show off + 1 + k = off + (k + 1) by omega]
    exact this
theorem Sees.rows {m M : Mem} (h : Sees m M) {v : Value} {rows : List (List (Int × Int))} (hr : RowsV m v rows) : RowsV M v rows := by
  obtain ⟨h5, id, off, fl, ws, rfl, hc⟩ := hr
  exact ⟨h5, id, off, fl, ws, rfl, fun k hk => ⟨h.rdc (hc k hk).1, h.part (hc k hk).2⟩⟩
def GoodRows (rows : List (List (Int × Int))) : Prop := ∀ r ∈ rows, 0 < r.length ∧ ∀ p ∈ r, (1 ≤ p.1 ∧ p.1 ≤ 64) ∧ (0 ≤ p.2 ∧ p.2 ≤ 63)
theorem row_in {rows : List (List (Int × Int))} {k : Nat} (hk : k < rows.length) : rows.getD k [] ∈ rows := by
  rw [List.getD_eq_getElem?_getD, List.getElem?_eq_getElem hk]; exact List.getElem_mem hk
theorem find_noneL {β : Type} {g : Int × Int → Option β} {L : List (Int × Int)} (h : ∀ j, j < L.length → g (L.getD j (0, 0)) = none) : L.findSome? g = none := find_none fun x hx => by
  obtain ⟨j, hj, rfl⟩ := List.mem_iff_getElem.1 hx
  have := h j hj
  rw [List.getD_eq_getElem?_getD, List.getElem?_eq_getElem hj] at this
  exact this
theorem getD_appX {α : Type} {d x : α} {ws : List α} {q : Nat} (h : q < ws.length) : (ws ++ [x]).getD q d = ws.getD q d := by
  rw [List.getD_eq_getElem?_getD, List.getElem?_append_left h, ← List.getD_eq_getElem?_getD]
theorem getD_endX {α : Type} {d x : α} {ws : List α} {q : Nat} (h : ws.length = q) : (ws ++ [x]).getD q d = x := by
  subst h; simp [List.getD_eq_getElem?_getD]
theorem firstO_len : ∀ (n : Nat) (rows : List (List (Int × Int))) (o : List Int), firstO n rows = some o → o.length = n := by
  intro n
  induction n with
  | zero => intro rows o h; simp only [firstO, Option.some.injEq] at h; subst h; rfl
  | succ n ih =>
    intro rows o h
    cases rows with
    | nil => simp [firstO] at h
    | cons r rest =>
      simp only [firstO] at h
      obtain ⟨p, _, hp⟩ := List.exists_of_findSome?_eq_some h
      unfold tryV at hp
      split at hp
      · cases hp
      · cases hf : firstO n (leftOf p rest) with
        | none => rw [hf] at hp; cases hp
        | some o2 =>
          rw [hf] at hp
          have := ih _ _ hf
          simp only [Option.map_some, Option.some.injEq] at hp
          subst hp
          simp [this]
def AnsF (m : Mem) (x : Option (List Int)) : Value → Mem → Prop := AnsO m (IntsO (x.getD [])) fun w => .tuple #[w, .bool x.isSome]
theorem firstOffsets_rc : ∀ (n : Nat) (m : Mem) (v : Value) (rows : List (List (Int × Int))), rows.length = n → RowsV m v rows → GoodRows rows →
    RC Try.prog 99 [v] m (AnsF m (firstO n rows)) := by
  intro n
  induction n with
  | zero =>
    intro m v rows hn hR hG
    refine rc_of_run mixed ok_impl_firstOffsets (by simp) (go_start _ _ _ ?_)
    have hl := hR.len
    rw [hn] at hl
    simp (config := {implicitDefEqProofs := false, maxDischargeDepth := 20}) (disch := first | omega | (simp only [lenE]; done) | (simp only [lenE]; omega) | rfl | (simp only [lenE, markR_len]; done) | (simp only [lenE, markR_len]; omega)) only [runE, mapE, listE, initT_5, initT_6, initT_7, initT_8, resV, oneV, binA, unA, reduceCtorEq, Nat.reduceEqDiff, Nat.reduceAdd, Nat.reduceLT, Nat.reduceLeDiff, Nat.reduceMul, Nat.reduceSub, ↓reduceIte, decide_true, decide_false, Bool.true_eq_false, Bool.false_eq_true, Bool.not_true, Bool.not_false, if_true, if_false, and_true, true_and, memE, celE, w64, Nat.zero_add, Nat.add_zero, Nat.mul_one, putL, and_self, ldn, c_impl_firstOffsets, r_impl_firstOffsets]
    refine scope_run mixed 0 ?_
    simp (config := {implicitDefEqProofs := false, maxDischargeDepth := 20}) (disch := first | omega | (simp only [lenE]; done) | (simp only [lenE]; omega) | rfl | (simp only [lenE, markR_len]; done) | (simp only [lenE, markR_len]; omega)) only [runE, mapE, listE, initT_5, initT_6, initT_7, initT_8, resV, oneV, binA, unA, reduceCtorEq, Nat.reduceEqDiff, Nat.reduceAdd, Nat.reduceLT, Nat.reduceLeDiff, Nat.reduceMul, Nat.reduceSub, ↓reduceIte, decide_true, decide_false, Bool.true_eq_false, Bool.false_eq_true, Bool.not_true, Bool.not_false, if_true, if_false, and_true, true_and, memE, celE, w64, Nat.zero_add, Nat.add_zero, Nat.mul_one, putL, and_self, ldn, hl, show (((0 : Nat) : Int) == 0) = true by rfl, bsl_no]
    exact int_noInts (f := fun w => .tuple #[w, .bool true]) (Ext.refl m) (by simp [roM_len])
  | succ n ih =>
    intro m v rows hn hR hG
    refine rc_of_run mixed ok_impl_firstOffsets (by simp) (go_start _ _ _ ?_)
    obtain ⟨r, rest, rfl⟩ : ∃ r rest, rows = r :: rest := by
      cases rows with
      | nil => simp at hn
      | cons r rest => exact ⟨r, rest, rfl⟩
    have hnr : rest.length = n := by simpa using hn
    have h5 := hR.1
    rw [hn] at h5
    have hl := hR.len
    rw [hn] at hl
    have hl0 : (((n + 1 : Nat) : Int) == 0) = false := by rw [beq_eq_false_iff_ne]; omega
    have a0 : iadA 1 v (.int .i64 0) = some (pRow v 0) := hR.at_ (k := 0) (by simp)
    obtain ⟨w0, l0, hp0⟩ := hR.ld (k := 0) (by simp)
    have l0' : ldA (roM m) none (pRow v 0) = some w0 := by rw [ldA_roM]; exact l0
    rw [List.getD_cons_zero] at hp0
    have hlw := hp0.pairs.len2
    have h64 := hp0.1
    obtain ⟨vt, ht, hRt⟩ := hR.tail
    have hltl := hRt.len
    simp (config := {implicitDefEqProofs := false, maxDischargeDepth := 20}) (disch := first | omega | (simp only [lenE]; done) | (simp only [lenE]; omega) | rfl | (simp only [lenE, markR_len]; done) | (simp only [lenE, markR_len]; omega)) only [runE, mapE, listE, initT_5, initT_6, initT_7, initT_8, resV, oneV, binA, unA, reduceCtorEq, Nat.reduceEqDiff, Nat.reduceAdd, Nat.reduceLT, Nat.reduceLeDiff, Nat.reduceMul, Nat.reduceSub, ↓reduceIte, decide_true, decide_false, Bool.true_eq_false, Bool.false_eq_true, Bool.not_true, Bool.not_false, if_true, if_false, and_true, true_and, memE, celE, w64, Nat.zero_add, Nat.add_zero, Nat.mul_one, putL, and_self, ldn, c_impl_firstOffsets, r_impl_firstOffsets]
    refine scope_run mixed 0 ?_
    simp (config := {implicitDefEqProofs := false, maxDischargeDepth := 20}) (disch := first | omega | (simp only [lenE]; done) | (simp only [lenE]; omega) | rfl | (simp only [lenE, markR_len]; done) | (simp only [lenE, markR_len]; omega)) only [runE, mapE, listE, initT_5, initT_6, initT_7, initT_8, resV, oneV, binA, unA, reduceCtorEq, Nat.reduceEqDiff, Nat.reduceAdd, Nat.reduceLT, Nat.reduceLeDiff, Nat.reduceMul, Nat.reduceSub, ↓reduceIte, decide_true, decide_false, Bool.true_eq_false, Bool.false_eq_true, Bool.not_true, Bool.not_false, if_true, if_false, and_true, true_and, memE, celE, w64, Nat.zero_add, Nat.add_zero, Nat.mul_one, putL, and_self, ldn, hl, hl0, a0, l0', hlw]
    refine loop_inv mixed (fun s => ∃ (k : Nat) (M : Mem), k ≤ r.length ∧ (∀ j, j < k → tryV (firstO n) rest (r.getD j (0, 0)) = none) ∧ s.m = M ∧ Ext m M ∧ s.t 0 = v ∧ s.t 18 = w0 ∧ s.t 19 = .int .i64 (r.length : Int) ∧ s.t 20 = .int .i64 (k : Int)) (fun s => r.length - (intOf (s.t 20)).toNat)
      ⟨0, _, by omega, fun j hj => absurd hj (by omega), rfl, Ext.refl m, rfl, rfl, rfl, rfl⟩ ?_
    rintro s ⟨k, M, hk, hno, tm, hX, t0, t18, t19, t20⟩
    by_cases hkr : k < r.length
    · have hlt : (k : Int) < r.length := by omega
      have hPM := ((Sees.ext hX).part hp0).pairs
      have i1 := hPM.at2 hkr
      have i2 := hPM.ld2 hkr
      have hin := pair_in hkr
      have gp := (hG r (by simp)).2 _ hin
      have hfin : ∀ o, tryV (firstO n) rest (r.getD k (0, 0)) = some o → firstO (n + 1) (r :: rest) = some o := fun o ho => find_at hkr hno ho
      have hnext : tryV (firstO n) rest (r.getD k (0, 0)) = none → ∀ j, j < k + 1 → tryV (firstO n) rest (r.getD j (0, 0)) = none := fun h0 j hj => by
        by_cases e : j = k
        · subst e; exact h0
        · exact hno j (by omega)
      generalize r.getD k (0, 0) = p at i2 gp hfin hnext
      obtain ⟨a, b⟩ := p
      simp only [pairV] at i2
      simp (config := {implicitDefEqProofs := false, maxDischargeDepth := 20}) (disch := first | omega | (simp only [lenE]; done) | (simp only [lenE]; omega) | rfl | (simp only [lenE, markR_len]; done) | (simp only [lenE, markR_len]; omega)) only [runE, mapE, listE, initT_5, initT_6, initT_7, initT_8, resV, oneV, binA, unA, reduceCtorEq, Nat.reduceEqDiff, Nat.reduceAdd, Nat.reduceLT, Nat.reduceLeDiff, Nat.reduceMul, Nat.reduceSub, ↓reduceIte, decide_true, decide_false, Bool.true_eq_false, Bool.false_eq_true, Bool.not_true, Bool.not_false, if_true, if_false, and_true, true_and, memE, celE, w64, Nat.zero_add, Nat.add_zero, Nat.mul_one, putL, and_self, ldn, tm, t0, t18, t19, t20, hlt, i1, i2, stP_agg2, bsl_no, ht, hltl, Option.map_none]
      obtain ⟨F, hF⟩ : ∃ F, F = M ++ [⟨.own, 96, [.int .i64 a, .int .i64 b]⟩] := ⟨_, rfl⟩
      have hXF : Ext m F := by rw [hF]; exact hX.one _ _
      have oF : OwnB F M.length 96 [.int .i64 a, .int .i64 b] := by rw [hF]; exact OwnB.here rfl
      have LF : M.length + 1 = F.length := by rw [hF]; simp
      rw [← hF, LF]
      clear hF
      have hge := hXF.len
      refine loop_inv mixed (fun s => ∃ (j : Nat) (M2 : Mem) (idl : Nat) (ws : List Value), j ≤ rest.length ∧ (∀ q, q < j → apart (a, b) (rest.getD q []) ≠ []) ∧ s.m = M2 ∧ Ext m M2 ∧ m.length ≤ idl ∧ OwnB M2 idl 92 ws ∧ ws.length = j ∧
          (∀ q, q < j → PartO M2 (ws.getD q undef) (apart (a, b) (rest.getD q []))) ∧ OwnB M2 M.length 96 [.int .i64 a, .int .i64 b] ∧
          s.t 0 = v ∧ s.t 5 = .pointer (some ⟨M.length, 0, none⟩) ∧ s.t 6 = .slice (some ⟨idl, 0, none⟩) j 1 ∧ s.t 18 = w0 ∧ s.t 19 = .int .i64 (r.length : Int) ∧ s.t 20 = .int .i64 (k : Int) ∧ s.t 26 = vt ∧ s.t 27 = .int .i64 (rest.length : Int) ∧ s.t 28 = .int .i64 (j : Int)) (fun s => rest.length - (intOf (s.t 28)).toNat)
        ⟨0, _, F.length, [], by omega, fun q hq => absurd hq (by omega), rfl, hXF.one _ _, hge, OwnB.here rfl, rfl, fun q hq => absurd hq (by omega), by exact oF.ext _, t0, rfl, rfl, t18, t19, t20, rfl, rfl, rfl⟩ ?_
      rintro s ⟨j, M2, idl, ws, hj, hne, tm, hX2, hidl, hol, hwl, hws, oc, t0, t5, t6, t18, t19, t20, t26, t27, t28⟩
      by_cases hjr : j < rest.length
      · have hlt2 : (j : Int) < rest.length := by omega
        have hR2 := (Sees.ext hX2).rows hRt
        have b1 := hR2.at_ hjr
        obtain ⟨w, b2, hpw⟩ := hR2.ld hjr
        have hgr := hG (rest.getD j []) (List.mem_cons_of_mem _ (row_in hjr))
        have hRin := row_in hjr
        generalize hR0 : rest.getD j [] = R at hpw hgr hRin
        simp (config := {implicitDefEqProofs := false, maxDischargeDepth := 20}) (disch := first | omega | (simp only [lenE]; done) | (simp only [lenE]; omega) | rfl | (simp only [lenE, markR_len]; done) | (simp only [lenE, markR_len]; omega)) only [runE, mapE, listE, initT_5, initT_6, initT_7, initT_8, resV, oneV, binA, unA, reduceCtorEq, Nat.reduceEqDiff, Nat.reduceAdd, Nat.reduceLT, Nat.reduceLeDiff, Nat.reduceMul, Nat.reduceSub, ↓reduceIte, decide_true, decide_false, Bool.true_eq_false, Bool.false_eq_true, Bool.not_true, Bool.not_false, if_true, if_false, and_true, true_and, memE, celE, w64, Nat.zero_add, Nat.add_zero, Nat.mul_one, putL, and_self, ldn, tm, t0, t5, t6, t18, t19, t20, t26, t27, t28, hlt2, b1, b2, oc.ld2]
        refine rcallH_rc (cloneV_rc _ w _ hpw hgr.1) ?_
        rintro w2 new2 ⟨nr2, w2', rfl, hO⟩
        obtain ⟨h9, idc, flc, rfl, hlo, hhi, hoc⟩ := hO.now
        have hle2 := hX2.len
        simp (config := {implicitDefEqProofs := false, maxDischargeDepth := 20}) (disch := first | omega | (simp only [lenE]; done) | (simp only [lenE]; omega) | rfl | (simp only [lenE, markR_len]; done) | (simp only [lenE, markR_len]; omega)) only [runE, mapE, listE, initT_5, initT_6, initT_7, initT_8, resV, oneV, binA, unA, reduceCtorEq, Nat.reduceEqDiff, Nat.reduceAdd, Nat.reduceLT, Nat.reduceLeDiff, Nat.reduceMul, Nat.reduceSub, ↓reduceIte, decide_true, decide_false, Bool.true_eq_false, Bool.false_eq_true, Bool.not_true, Bool.not_false, if_true, if_false, and_true, true_and, memE, celE, w64, Nat.zero_add, Nat.add_zero, Nat.mul_one, putL, and_self, ldn, id_eq]
        have hT : TestP (.func (.func 91) #[.agg #[.int .i64 a, .int .i64 b]] #[]) (R) (fun q => meetB a b q.1 q.2) :=
          ⟨_, [.agg #[.int .i64 a, .int .i64 b]], [], rfl, fun M' q hq => meets_rc M' a b q.1 q.2 gp.1 (hgr.2 q hq).1 gp.2 (hgr.2 q hq).2⟩
        refine callH_ac (deleteV_ac _ idc flc _ (R) _ hoc hpw.1 hT) ?_
        rintro r3 M3 ⟨hL, t3, er, ho3⟩
        have er : r3 = .slice (some ⟨idc, 0, none⟩) (apart (a, b) (R)).length flc := er
        have ho3 : OwnB M3 idc 96 (pairsC (apart (a, b) (R)) ++ t3) := ho3
        subst er
        have hX3 : Ext m M3 := hL.extX (hX2.app nr2) (by omega)
        have hol3 := hol.left new2 hL hlo
        have oc3 := oc.left new2 hL hlo
        have hws3 : ∀ q, q < j → PartO M3 (ws.getD q undef) (apart (a, b) (rest.getD q [])) := fun q hq => (hws q hq).left (n := 0) new2 hL hlo
        have hal : (apart (a, b) (R)).length ≤ (R).length := List.length_filter_le _ _
        have hw8 := hpw.1
        by_cases hA : apart (a, b) (R) = []
        · have hz : (((apart (a, b) (R)).length : Int) == 0) = true := by rw [hA]; rfl
          have htry : tryV (firstO n) rest (a, b) = none := by
            unfold tryV
            have hhole : (leftOf (a, b) rest).any List.isEmpty = true := List.any_eq_true.2 ⟨[], List.mem_map.2 ⟨R, hRin, hA⟩, rfl⟩
            rw [if_pos hhole]
          simp (config := {implicitDefEqProofs := false, maxDischargeDepth := 20}) (disch := first | omega | (simp only [lenE]; done) | (simp only [lenE]; omega) | rfl | (simp only [lenE, markR_len]; done) | (simp only [lenE, markR_len]; omega)) only [runE, mapE, listE, initT_5, initT_6, initT_7, initT_8, resV, oneV, binA, unA, reduceCtorEq, Nat.reduceEqDiff, Nat.reduceAdd, Nat.reduceLT, Nat.reduceLeDiff, Nat.reduceMul, Nat.reduceSub, ↓reduceIte, decide_true, decide_false, Bool.true_eq_false, Bool.false_eq_true, Bool.not_true, Bool.not_false, if_true, if_false, and_true, true_and, memE, celE, w64, Nat.zero_add, Nat.add_zero, Nat.mul_one, putL, and_self, ldn, tm, t0, t5, t6, t18, t19, t20, t26, t27, t28, hz]
          refine ⟨⟨k + 1, _, by omega, hnext htry, rfl, hX3, by simp⟩, ?_⟩
          simp [intOf]; omega
        · have hz : (((apart (a, b) (R)).length : Int) == 0) = false := by
            rw [beq_eq_false_iff_ne]
            intro h0
            exact hA (List.length_eq_zero_iff.1 (by omega))
          have hap := app_back (byt := 24) (sz := 1) (n := j) (id := idl) (ys := [.slice (some ⟨idc, 0, none⟩) (apart (a, b) (R)).length flc]) hol3 rfl (by rw [hwl, Nat.mul_one]) rfl rfl (by omega) (by omega)
          simp (config := {implicitDefEqProofs := false, maxDischargeDepth := 20}) (disch := first | omega | (simp only [lenE]; done) | (simp only [lenE]; omega) | rfl | (simp only [lenE, markR_len]; done) | (simp only [lenE, markR_len]; omega)) only [runE, mapE, listE, initT_5, initT_6, initT_7, initT_8, resV, oneV, binA, unA, reduceCtorEq, Nat.reduceEqDiff, Nat.reduceAdd, Nat.reduceLT, Nat.reduceLeDiff, Nat.reduceMul, Nat.reduceSub, ↓reduceIte, decide_true, decide_false, Bool.true_eq_false, Bool.false_eq_true, Bool.not_true, Bool.not_false, if_true, if_false, and_true, true_and, memE, celE, w64, Nat.zero_add, Nat.add_zero, Nat.mul_one, putL, and_self, ldn, tm, t0, t5, t6, t18, t19, t20, t26, t27, t28, hz, bsl_sl', hap]
          refine ⟨⟨j + 1, _, M3.length + 1, ws ++ [Value.slice (some ⟨idc, 0, none⟩) (apart (a, b) R).length flc], by omega, fun q hq => ?_, rfl, ((hX3.dead hidl).one _ _).one _ _, ?_, OwnB.here (by simp), by simp [hwl], fun q hq => ?_, ((oc3.set_ne (hol3.ne oc3 (by decide)) deadB).ext _).ext _, by simp⟩, ?_⟩
          · by_cases e : q = j
            · subst e; rw [hR0]; exact hA
            · exact hne q (by omega)
          · have := hX3.len; omega
          · by_cases e : q = j
            · subst e
              rw [getD_endX hwl, hR0]
              have hp3 : PartO M3 (.slice (some ⟨idc, 0, none⟩) (apart (a, b) R).length flc) (apart (a, b) R) := ⟨by omega, idc, flc, t3, rfl, ho3⟩
              exact ((hp3.dead hol3 deadB).ext _).ext _
            · rw [getD_appX (by omega)]
              exact (((hws3 q (by omega)).dead hol3 deadB).ext _).ext _
          · simp [intOf]; omega
      · have hlt2 : ¬ ((j : Int) < rest.length) := by omega
        have e : j = rest.length := by omega
        subst e
        have hll : (leftOf (a, b) rest).length = rest.length := by simp [leftOf]
        have hlg : ∀ q, q < rest.length → (leftOf (a, b) rest).getD q [] = apart (a, b) (rest.getD q []) := fun q hq => by
          simp [leftOf, List.getD_eq_getElem?_getD, hq]
        have hRl : RowsV M2 (.slice (some ⟨idl, 0, none⟩) rest.length 1) (leftOf (a, b) rest) := by
          refine ⟨by rw [hll]; omega, idl, 0, 1, fun q => ws.getD q undef, by rw [hll], fun q hq => ?_⟩
          rw [hll] at hq
          rw [hlg q hq]
          refine ⟨?_, (hws q hq).r⟩
          rw [Nat.zero_add, hol.rd]
          show ws[q]? = some (ws.getD q undef)
          rw [List.getD_eq_getElem?_getD, List.getElem?_eq_getElem (by omega)]
          rfl
        have hGl : GoodRows (leftOf (a, b) rest) := by
          intro r' hr'
          obtain ⟨q, hq, rfl⟩ := List.mem_iff_getElem.1 hr'
          rw [hll] at hq
          have e2 := hlg q hq
          rw [List.getD_eq_getElem?_getD, List.getElem?_eq_getElem (by rw [hll]; exact hq), Option.getD_some] at e2
          rw [e2]
          have := hne q hq
          refine ⟨List.length_pos_iff.2 this, fun p hp => ?_⟩
          exact (hG (rest.getD q []) (List.mem_cons_of_mem _ (row_in hq))).2 p (List.mem_filter.1 hp).1
        have htry := tryV_plain hnr (a, b)
        simp (config := {implicitDefEqProofs := false, maxDischargeDepth := 20}) (disch := first | omega | (simp only [lenE]; done) | (simp only [lenE]; omega) | rfl | (simp only [lenE, markR_len]; done) | (simp only [lenE, markR_len]; omega)) only [runE, mapE, listE, initT_5, initT_6, initT_7, initT_8, resV, oneV, binA, unA, reduceCtorEq, Nat.reduceEqDiff, Nat.reduceAdd, Nat.reduceLT, Nat.reduceLeDiff, Nat.reduceMul, Nat.reduceSub, ↓reduceIte, decide_true, decide_false, Bool.true_eq_false, Bool.false_eq_true, Bool.not_true, Bool.not_false, if_true, if_false, and_true, true_and, memE, celE, w64, Nat.zero_add, Nat.add_zero, Nat.mul_one, putL, and_self, ldn, tm, t0, t5, t6, t18, t19, t20, t26, t27, t28, hlt2]
        refine callH_rc (ih M2 _ (leftOf (a, b) rest) (by rw [hll]; exact hnr) hRl hGl) ?_
        rintro w4 new4 ⟨nr4, x4, rfl, hO⟩
        have hX4 := hX2.app nr4
        have oc4 := oc.ext new4
        have hle2 := hX2.len
        cases hp : firstO n (leftOf (a, b) rest) with
        | some o =>
          have hO := hO.now
          rw [hp] at hO htry
          have hol5 := firstO_len _ _ _ hp
          obtain ⟨h9, id5, fl5, rfl, hlo5, hhi5, ho5⟩ := hO
          have ho5 : OwnB (M2 ++ new4) id5 3 (o.map (Value.int .i64)) := ho5
          have hap := app_front (byt := 8) (sz := 1) (n := o.length) (fl := fl5) (ys := [.int .i64 b]) ho5 rfl (by rw [List.length_map, Nat.mul_one]) rfl (onesB_ints o) (by omega) (by omega)
          have r1 := oc4.rd 1
          rw [List.length_append] at hap
          simp (config := {implicitDefEqProofs := false, maxDischargeDepth := 20}) (disch := first | omega | (simp only [lenE]; done) | (simp only [lenE]; omega) | rfl | (simp only [lenE, markR_len]; done) | (simp only [lenE, markR_len]; omega)) only [runE, mapE, listE, initT_5, initT_6, initT_7, initT_8, resV, oneV, binA, unA, reduceCtorEq, Nat.reduceEqDiff, Nat.reduceAdd, Nat.reduceLT, Nat.reduceLeDiff, Nat.reduceMul, Nat.reduceSub, ↓reduceIte, decide_true, decide_false, Bool.true_eq_false, Bool.false_eq_true, Bool.not_true, Bool.not_false, if_true, if_false, and_true, true_and, memE, celE, w64, Nat.zero_add, Nat.add_zero, Nat.mul_one, putL, and_self, ldn, tm, t0, t5, t6, t18, t19, t20, t26, t27, t28, ext_2_0, ext_2_1, Option.isSome, r1, Nat.zero_add, Option.getD_some, bsl_one, hap]
          rw [hfin (b :: o) htry]
          obtain ⟨G, hG2⟩ : ∃ G, G = M2 ++ new4 ++ [deadB] ++ [⟨.own, 3, .int .i64 b :: o.map (Value.int .i64)⟩] := ⟨_, rfl⟩
          have hXG : Ext m G := by rw [hG2]; exact (hX4.app (noRo_dead noRo_nil)).one _ _
          have hoG : OwnR G (M2.length + new4.length + 1) (b :: o) := by rw [hG2]; exact OwnR.here _ (b :: o) _ (by simp only [List.length_append, List.length_singleton])
          first | rw [← hG2] | skip
          refine ext_ansO (f := fun w => .tuple #[w, .bool true]) hXG fun M' hM => ⟨by simp; omega, M2.length + new4.length + 1, 1, ?_, by omega, hoG.lt, hoG.at_ (hM _ (by omega) hoG.lt)⟩
          simp [Nat.add_comm]
        | none =>
          rw [hp] at htry
          simp (config := {implicitDefEqProofs := false, maxDischargeDepth := 20}) (disch := first | omega | (simp only [lenE]; done) | (simp only [lenE]; omega) | rfl | (simp only [lenE, markR_len]; done) | (simp only [lenE, markR_len]; omega)) only [runE, mapE, listE, initT_5, initT_6, initT_7, initT_8, resV, oneV, binA, unA, reduceCtorEq, Nat.reduceEqDiff, Nat.reduceAdd, Nat.reduceLT, Nat.reduceLeDiff, Nat.reduceMul, Nat.reduceSub, ↓reduceIte, decide_true, decide_false, Bool.true_eq_false, Bool.false_eq_true, Bool.not_true, Bool.not_false, if_true, if_false, and_true, true_and, memE, celE, w64, Nat.zero_add, Nat.add_zero, Nat.mul_one, putL, and_self, ldn, tm, t0, t5, t6, t18, t19, t20, t26, t27, t28, ext_2_0, ext_2_1, Option.isSome]
          refine ⟨⟨k + 1, _, by omega, hnext htry, rfl, hX4, by simp⟩, ?_⟩
          simp [intOf]; omega
    · have hlt : ¬ ((k : Int) < r.length) := by omega
      have e : k = r.length := by omega
      subst e
      have hres : firstO (n + 1) (r :: rest) = none := find_noneL hno
      rw [hres]
      simp (config := {implicitDefEqProofs := false, maxDischargeDepth := 20}) (disch := first | omega | (simp only [lenE]; done) | (simp only [lenE]; omega) | rfl | (simp only [lenE, markR_len]; done) | (simp only [lenE, markR_len]; omega)) only [runE, mapE, listE, initT_5, initT_6, initT_7, initT_8, resV, oneV, binA, unA, reduceCtorEq, Nat.reduceEqDiff, Nat.reduceAdd, Nat.reduceLT, Nat.reduceLeDiff, Nat.reduceMul, Nat.reduceSub, ↓reduceIte, decide_true, decide_false, Bool.true_eq_false, Bool.false_eq_true, Bool.not_true, Bool.not_false, if_true, if_false, and_true, true_and, memE, celE, w64, Nat.zero_add, Nat.add_zero, Nat.mul_one, putL, and_self, ldn, tm, t0, t18, t19, t20, hlt, bsl_no]
      exact int_noInts (f := fun w => .tuple #[w, .bool false]) hX rfl
end Go.Proofs.Ytmjnjhdacliieaa.Ab
end
section
namespace Go.Proofs.Ytmjnjhdacliieaa.Ab
open Go Go.RowKit
set_option linter.unusedVariables false
set_option linter.unusedSimpArgs false
set_option maxRecDepth 10000
def tailR (l : List Int) (n : Nat) : List (List (Int × Int)) := (List.range n).map fun j => rowTo (l.getD (j + 1) 0) (l.getD (j + 1) 0).toNat
theorem tailR_len (l : List Int) (n : Nat) : (tailR l n).length = n := by simp [tailR]
theorem rowS_nil (l : List Int) (i : Nat) : rowS l [] i = rowTo (l.getD i 0) (l.getD i 0).toNat := List.filter_eq_self.2 fun _ _ => rfl
theorem first_place {l : List Int} (hC : GoodC l) {n : Nat} (hn : l.length = n + 1) : firstO (n + 1) ([(l.getD 0 0, 0)] :: tailR l n) = placeS l (n + 1) [] := by
  rw [zero_first hC hn, place_first l n [0] (by simp; omega)]
  simp only [firstO, List.findSome?_cons, List.findSome?_nil]
  rw [tryV_plain (tailR_len l n)]
  have h := left_step l [] n 0
  simp only [List.length_nil, List.nil_append] at h
  have e : ((List.range n).map fun j => rowS l [] (0 + 1 + j)) = tailR l n := by
    apply List.map_congr_left
    intro j _
    rw [rowS_nil, show 0 + 1 + j = j + 1 by omega]
  rw [e] at h
  rw [h]
  cases firstO n (rowsS l [0] n) with
  | none => rfl
  | some o => rfl
theorem rowTo_in {c : Int} (hc : 1 ≤ c ∧ c ≤ 64) : 0 < (rowTo c c.toNat).length ∧ ∀ p ∈ rowTo c c.toNat, (1 ≤ p.1 ∧ p.1 ≤ 64) ∧ (0 ≤ p.2 ∧ p.2 ≤ 63) := by
  refine ⟨by rw [rowTo_len]; omega, fun p hp => ?_⟩
  obtain ⟨x, hx, rfl⟩ := List.mem_map.1 hp
  have := List.mem_range.1 hx
  simp only
  omega
theorem PartO.one {m : Mem} {w : Value} {p : Int × Int} {L : List (Int × Int)} (h : PartO m w (p :: L)) : ∃ w', slcA 2 w none (some (.int .i64 1)) = some w' ∧ PartO m w' [p] ∧ w'.oneCell' = true ∧ w'.cells = #[w'] := by
  obtain ⟨h8, id, fl, t, rfl, ho⟩ := h
  refine ⟨.slice (some ⟨id, 0, none⟩) 1 fl, by simp [slcA, boundA], ⟨by simp, id, fl, pairsC L ++ t, rfl, ?_⟩, rfl, rfl⟩
  have e : pairsC (p :: L) ++ t = pairsC [p] ++ (pairsC L ++ t) := by
    rw [← List.append_assoc, ← pairsC_app]; rfl
  rw [← e]; exact ho
theorem PartO.cell {m : Mem} {w : Value} {L : List (Int × Int)} (h : PartO m w L) : w.oneCell' = true := by
  obtain ⟨h8, id, fl, t, rfl, ho⟩ := h; rfl
theorem implFindOffsets_rc (m : Mem) (v : Value) (l : List Int) (h : IntsA m v l) : RC Try.prog 56 [v] m (AnsO m (IntsO (offA l)) fun w => .tuple #[w, .bool (offOk l)]) := by
  refine rc_of_run mixed ok_impl_FindOffsets (by simp) (go_start _ _ _ ?_)
  unfold offA offOk findP
  have hX := Ext.refl m
  have hl := h.len
  simp (config := {implicitDefEqProofs := false, maxDischargeDepth := 20}) (disch := first | omega | (simp only [lenE]; done) | (simp only [lenE]; omega) | rfl | (simp only [lenE, markR_len]; done) | (simp only [lenE, markR_len]; omega)) only [runE, mapE, listE, initT_5, initT_6, initT_7, initT_8, resV, oneV, binA, unA, reduceCtorEq, Nat.reduceEqDiff, Nat.reduceAdd, Nat.reduceLT, Nat.reduceLeDiff, Nat.reduceMul, Nat.reduceSub, ↓reduceIte, decide_true, decide_false, Bool.true_eq_false, Bool.false_eq_true, Bool.not_true, Bool.not_false, if_true, if_false, and_true, true_and, memE, celE, w64, Nat.zero_add, Nat.add_zero, Nat.mul_one, putL, and_self, ldn, c_impl_FindOffsets, r_impl_FindOffsets]
  refine callH_rc (areCycles_rc _ v l ((Sees.ext hX).ints h)) ?_
  rintro r new0 ⟨rfl, nr0⟩
  have hX := hX.app nr0
  cases g1 : cycB l with
  | false =>
    simp (config := {implicitDefEqProofs := false, maxDischargeDepth := 20}) (disch := first | omega | (simp only [lenE]; done) | (simp only [lenE]; omega) | rfl | (simp only [lenE, markR_len]; done) | (simp only [lenE, markR_len]; omega)) only [runE, mapE, listE, initT_5, initT_6, initT_7, initT_8, resV, oneV, binA, unA, reduceCtorEq, Nat.reduceEqDiff, Nat.reduceAdd, Nat.reduceLT, Nat.reduceLeDiff, Nat.reduceMul, Nat.reduceSub, ↓reduceIte, decide_true, decide_false, Bool.true_eq_false, Bool.false_eq_true, Bool.not_true, Bool.not_false, if_true, if_false, and_true, true_and, memE, celE, w64, Nat.zero_add, Nat.add_zero, Nat.mul_one, putL, and_self, ldn, bsl_no]
    exact int_noInts (f := fun w => .tuple #[w, .bool false]) hX (by simp [roM_len])
  | true =>
  have hC := cycB_iff.1 g1
  have hlc := hC.len
  rw [if_pos rfl]
  simp (config := {implicitDefEqProofs := false, maxDischargeDepth := 20}) (disch := first | omega | (simp only [lenE]; done) | (simp only [lenE]; omega) | rfl | (simp only [lenE, markR_len]; done) | (simp only [lenE, markR_len]; omega)) only [runE, mapE, listE, initT_5, initT_6, initT_7, initT_8, resV, oneV, binA, unA, reduceCtorEq, Nat.reduceEqDiff, Nat.reduceAdd, Nat.reduceLT, Nat.reduceLeDiff, Nat.reduceMul, Nat.reduceSub, ↓reduceIte, decide_true, decide_false, Bool.true_eq_false, Bool.false_eq_true, Bool.not_true, Bool.not_false, if_true, if_false, and_true, true_and, memE, celE, w64, Nat.zero_add, Nat.add_zero, Nat.mul_one, putL, and_self, ldn, bsl_no, hl]
  obtain ⟨E, hE⟩ : ∃ M, M = roM m ++ new0 := ⟨_, rfl⟩
  rw [← hE] at hX ⊢
  have LE : m.length + new0.length = E.length := by rw [hE, List.length_append, roM_len]
  rw [LE]
  clear hE
  have hge := hX.len
  refine loop_inv mixed (fun s => ∃ (k : Nat) (M : Mem) (id : Nat) (ws : List Value), k ≤ l.length ∧ s.m = M ∧ Ext m M ∧ m.length ≤ id ∧ OwnB M id 92 ws ∧ ws.length = k ∧
      (∀ q, q < k → PartO M (ws.getD q undef) (rowTo (l.getD q 0) (l.getD q 0).toNat)) ∧
      s.t 4 = .slice (some ⟨id, 0, none⟩) k 1 ∧ s.t 12 = v ∧ s.t 13 = .int .i64 (l.length : Int) ∧ s.t 14 = .int .i64 (k : Int)) (fun s => l.length - (intOf (s.t 14)).toNat)
    ⟨0, _, E.length, [], by omega, rfl, hX.one _ _, hge, OwnB.here rfl, rfl, fun q hq => absurd hq (by omega), rfl, rfl, rfl, rfl⟩ ?_
  rintro s ⟨k, M, id, ws, hk, tm, hX, hid, ho, hwl, hws, t4, t12, t13, t14⟩
  have hA := (Sees.ext hX).ints h
  by_cases hkl : k < l.length
  · have hlt : (k : Int) < l.length := by omega
    have i1 := hA.at_ k hkl
    have i2 := hA.ld k hkl
    have g := hC.all k hkl
    simp (config := {implicitDefEqProofs := false, maxDischargeDepth := 20}) (disch := first | omega | (simp only [lenE]; done) | (simp only [lenE]; omega) | rfl | (simp only [lenE, markR_len]; done) | (simp only [lenE, markR_len]; omega)) only [runE, mapE, listE, initT_5, initT_6, initT_7, initT_8, resV, oneV, binA, unA, reduceCtorEq, Nat.reduceEqDiff, Nat.reduceAdd, Nat.reduceLT, Nat.reduceLeDiff, Nat.reduceMul, Nat.reduceSub, ↓reduceIte, decide_true, decide_false, Bool.true_eq_false, Bool.false_eq_true, Bool.not_true, Bool.not_false, if_true, if_false, and_true, true_and, memE, celE, w64, Nat.zero_add, Nat.add_zero, Nat.mul_one, putL, and_self, ldn, tm, t4, t12, t13, t14, hlt, i1, i2]
    refine callH_rc (visitsOf_rc _ (l.getD k 0) g) ?_
    rintro w2 new2 ⟨nr2, w, rfl, hO⟩
    have hp := hO.now.part (by rw [rowTo_len]; omega)
    have ho2 := ho.ext new2
    have hws2 : ∀ q, q < k → PartO (M ++ new2) (ws.getD q undef) (rowTo (l.getD q 0) (l.getD q 0).toNat) := fun q hq => (hws q hq).ext new2
    have hX2 := hX.app nr2
    obtain ⟨F, hF⟩ : ∃ F, F = M ++ new2 := ⟨_, rfl⟩
    rw [← hF] at hp ho2 hws2 hX2 ⊢
    clear hF
    obtain ⟨hp8, idw, flw, tw, rfl, hpo⟩ := _root_.id hp
    have hap := app_back (byt := 24) (sz := 1) (n := k) (id := id) (ys := [.slice (some ⟨idw, 0, none⟩) (rowTo (l.getD k 0) (l.getD k 0).toNat).length flw]) ho2 rfl (by rw [hwl, Nat.mul_one]) rfl rfl (by omega) (by omega)
    simp (config := {implicitDefEqProofs := false, maxDischargeDepth := 20}) (disch := first | omega | (simp only [lenE]; done) | (simp only [lenE]; omega) | rfl | (simp only [lenE, markR_len]; done) | (simp only [lenE, markR_len]; omega)) only [runE, mapE, listE, initT_5, initT_6, initT_7, initT_8, resV, oneV, binA, unA, reduceCtorEq, Nat.reduceEqDiff, Nat.reduceAdd, Nat.reduceLT, Nat.reduceLeDiff, Nat.reduceMul, Nat.reduceSub, ↓reduceIte, decide_true, decide_false, Bool.true_eq_false, Bool.false_eq_true, Bool.not_true, Bool.not_false, if_true, if_false, and_true, true_and, memE, celE, w64, Nat.zero_add, Nat.add_zero, Nat.mul_one, putL, and_self, ldn, tm, t4, t12, t13, t14, id_eq, bsl_sl', hap]
    refine ⟨⟨k + 1, _, F.length + 1, ws ++ [Value.slice (some ⟨idw, 0, none⟩) (rowTo (l.getD k 0) (l.getD k 0).toNat).length flw], by omega, rfl, ((hX2.dead hid).one _ _).one _ _, ?_, OwnB.here (by simp), by simp [hwl], fun q hq => ?_, by simp⟩, ?_⟩
    · have := hX2.len; omega
    · by_cases e : q = k
      · subst e
        rw [getD_endX hwl]
        exact ((hp.dead ho2 deadB).ext _).ext _
      · rw [getD_appX (by omega)]
        exact (((hws2 q (by omega)).dead ho2 deadB).ext _).ext _
    · simp [intOf]; omega
  · have hlt : ¬ ((k : Int) < l.length) := by omega
    have e : k = l.length := by omega
    subst e
    have hfl := find_len l hC
    have fin : ∀ (M' : Mem) (w2 : Value) (new2 : Mem), Ext m M' → NoRo new2 → AnsF M' (placeS l l.length []) w2 new2 → ∃ w, w2 = .tuple #[w, .bool (placeS l l.length []).isSome] ∧ newQ m (AnsO m (IntsO ((placeS l l.length []).getD [])) fun w => .tuple #[w, .bool (placeS l l.length []).isSome]) (.tuple #[w, .bool (placeS l l.length []).isSome]) (M' ++ new2) := by
      intro M' w2 new2 hX' nr2 hO
      obtain ⟨_, w, rfl, hO⟩ := hO
      obtain ⟨h9, id5, fl5, rfl, hlo5, hhi5, ho5⟩ := hO.now
      have := hX'.len
      exact ⟨_, rfl, ext_ansO (f := fun w => .tuple #[w, .bool (placeS l l.length []).isSome]) (hX'.app nr2) fun M2 hM => ⟨hfl, id5, fl5, rfl, by omega, ho5.lt, ho5.at_ (hM _ (by omega) ho5.lt)⟩⟩
    by_cases h0 : l.length = 0
    · have hz : ¬ ((0 : Int) < (l.length : Int)) := by omega
      have hR0 : RowsV M (.slice (some ⟨id, 0, none⟩) l.length 1) [] := ⟨by simp, id, 0, 1, fun _ => undef, by rw [h0]; rfl, fun q hq => absurd hq (by simp)⟩
      simp (config := {implicitDefEqProofs := false, maxDischargeDepth := 20}) (disch := first | omega | (simp only [lenE]; done) | (simp only [lenE]; omega) | rfl | (simp only [lenE, markR_len]; done) | (simp only [lenE, markR_len]; omega)) only [runE, mapE, listE, initT_5, initT_6, initT_7, initT_8, resV, oneV, binA, unA, reduceCtorEq, Nat.reduceEqDiff, Nat.reduceAdd, Nat.reduceLT, Nat.reduceLeDiff, Nat.reduceMul, Nat.reduceSub, ↓reduceIte, decide_true, decide_false, Bool.true_eq_false, Bool.false_eq_true, Bool.not_true, Bool.not_false, if_true, if_false, and_true, true_and, memE, celE, w64, Nat.zero_add, Nat.add_zero, Nat.mul_one, putL, and_self, ldn, tm, t4, t12, t13, t14, hlt, hz, gt_iff_lt]
      refine callH_rc (firstOffsets_rc 0 M _ [] rfl hR0 (fun r hr => absurd hr (by simp))) ?_
      rintro w2 new2 hO
      have e0 : firstO 0 [] = placeS l l.length [] := by rw [h0]; rfl
      rw [e0] at hO
      obtain ⟨w, rfl, hq⟩ := fin M w2 new2 hX hO.1 hO
      simp (config := {implicitDefEqProofs := false, maxDischargeDepth := 20}) (disch := first | omega | (simp only [lenE]; done) | (simp only [lenE]; omega) | rfl | (simp only [lenE, markR_len]; done) | (simp only [lenE, markR_len]; omega)) only [runE, mapE, listE, initT_5, initT_6, initT_7, initT_8, resV, oneV, binA, unA, reduceCtorEq, Nat.reduceEqDiff, Nat.reduceAdd, Nat.reduceLT, Nat.reduceLeDiff, Nat.reduceMul, Nat.reduceSub, ↓reduceIte, decide_true, decide_false, Bool.true_eq_false, Bool.false_eq_true, Bool.not_true, Bool.not_false, if_true, if_false, and_true, true_and, memE, celE, w64, Nat.zero_add, Nat.add_zero, Nat.mul_one, putL, and_self, ldn, ext_2_0, ext_2_1]
      exact hq
    · obtain ⟨n, hn⟩ : ∃ n, l.length = n + 1 := ⟨l.length - 1, by omega⟩
      have hz : (0 : Int) < (l.length : Int) := by omega
      have c0 := hC.all 0 (by omega)
      have hp0 := hws 0 (by omega)
      obtain ⟨k0, hk0⟩ : ∃ k0, (l.getD 0 0).toNat = k0 + 1 := ⟨(l.getD 0 0).toNat - 1, by omega⟩
      have er : rowTo (l.getD 0 0) (l.getD 0 0).toNat = (l.getD 0 0, 0) :: (List.range k0).map (fun (x : Nat) => (l.getD 0 0, ((x + 1 : Nat) : Int))) := by
        unfold rowTo
        rw [hk0, List.range_succ_eq_map, List.map_cons, List.map_map]
        rfl
      rw [er] at hp0
      obtain ⟨w', hs1, hp1, hw1, hw2⟩ := hp0.one
      have a0 : iadA 1 (.slice (some ⟨id, 0, none⟩) l.length 1) (.int .i64 0) = some (.pointer (some ⟨id, 0, none⟩)) := by
        have := iadA_in (id := id) (off := 0) (fl := 1) (sz := 1) (k := .i64) (show 0 < l.length by omega)
        exact this
      have r0 : rdc M id 0 = some (ws.getD 0 undef) := by
        rw [ho.rd, List.getD_eq_getElem?_getD, List.getElem?_eq_getElem (by omega)]; rfl
      have hst := ho.st (off := 0) (vs := [w']) (by simp; omega) (by simp [onesB, hw1])
      have hX' := hX.put hid 92 (putL ws 0 [w'])
      have ho' := ho.set_self 92 (putL ws 0 [w'])
      have hput : putL ws 0 [w'] = ws.set 0 w' := rfl
      rw [hput] at hst hX' ho'
      have stP1w : ∀ M2, stP M2 1 (.pointer (some ⟨id, 0, none⟩)) w' = stA M2 id 0 [w'] := fun M2 => by
        simp only [stP, hw2]
        rfl
      have hR1 : RowsV (M.set id ⟨.own, 92, ws.set 0 w'⟩) (.slice (some ⟨id, 0, none⟩) l.length 1) ([(l.getD 0 0, 0)] :: tailR l n) := by
        refine ⟨by rw [List.length_cons, tailR_len]; omega, id, 0, 1, fun q => (ws.set 0 w').getD q undef, by rw [List.length_cons, tailR_len, hn], fun q hq => ?_⟩
        rw [List.length_cons, tailR_len] at hq
        refine ⟨?_, ?_⟩
        · rw [Nat.zero_add, ho'.rd]
          show (ws.set 0 w')[q]? = some ((ws.set 0 w').getD q undef)
          rw [List.getD_eq_getElem?_getD, List.getElem?_eq_getElem (by rw [List.length_set]; omega)]
          rfl
        · cases q with
          | zero =>
            rw [List.getD_cons_zero]
            have : (ws.set 0 w').getD 0 undef = w' := by rw [List.getD_eq_getElem?_getD, List.getElem?_set_self (by omega)]; rfl
            show PartR _ ((ws.set 0 w').getD 0 undef) _
            rw [this]
            exact (hp1.dead ho _).r
          | succ q =>
            rw [List.getD_cons_succ]
            have e1 : (ws.set 0 w').getD (q + 1) undef = ws.getD (q + 1) undef := by
              rw [List.getD_eq_getElem?_getD, List.getElem?_set_ne (by omega), ← List.getD_eq_getElem?_getD]
            have e2 : (tailR l n).getD q [] = rowTo (l.getD (q + 1) 0) (l.getD (q + 1) 0).toNat := by
              simp [tailR, List.getD_eq_getElem?_getD, show q < n by omega]
            show PartR _ ((ws.set 0 w').getD (q + 1) undef) _
            rw [e1, e2]
            exact ((hws (q + 1) (by omega)).dead ho _).r
      have hG1 : GoodRows ([(l.getD 0 0, 0)] :: tailR l n) := by
        intro r hr
        rcases List.mem_cons.1 hr with rfl | hr
        · refine ⟨by simp, fun p hp => ?_⟩
          have hp := List.mem_singleton.1 hp
          subst hp
          exact ⟨c0, by simp only; omega⟩
        · obtain ⟨j, hj, rfl⟩ := List.mem_map.1 hr
          have := List.mem_range.1 hj
          exact rowTo_in (hC.all (j + 1) (by omega))
      simp (config := {implicitDefEqProofs := false, maxDischargeDepth := 20}) (disch := first | omega | (simp only [lenE]; done) | (simp only [lenE]; omega) | rfl | (simp only [lenE, markR_len]; done) | (simp only [lenE, markR_len]; omega)) only [runE, mapE, listE, initT_5, initT_6, initT_7, initT_8, resV, oneV, binA, unA, reduceCtorEq, Nat.reduceEqDiff, Nat.reduceAdd, Nat.reduceLT, Nat.reduceLeDiff, Nat.reduceMul, Nat.reduceSub, ↓reduceIte, decide_true, decide_false, Bool.true_eq_false, Bool.false_eq_true, Bool.not_true, Bool.not_false, if_true, if_false, and_true, true_and, memE, celE, w64, Nat.zero_add, Nat.add_zero, Nat.mul_one, putL, and_self, ldn, tm, t4, t12, t13, t14, hlt, hz, gt_iff_lt, a0, r0, hs1, hst, Option.map_none, stP1w]
      refine callH_rc (firstOffsets_rc (n + 1) _ _ _ (by rw [List.length_cons, tailR_len]) hR1 hG1) ?_
      rintro w2 new2 hO
      rw [first_place hC hn, ← hn] at hO
      obtain ⟨w, rfl, hq⟩ := fin _ w2 new2 hX' hO.1 hO
      simp (config := {implicitDefEqProofs := false, maxDischargeDepth := 20}) (disch := first | omega | (simp only [lenE]; done) | (simp only [lenE]; omega) | rfl | (simp only [lenE, markR_len]; done) | (simp only [lenE, markR_len]; omega)) only [runE, mapE, listE, initT_5, initT_6, initT_7, initT_8, resV, oneV, binA, unA, reduceCtorEq, Nat.reduceEqDiff, Nat.reduceAdd, Nat.reduceLT, Nat.reduceLeDiff, Nat.reduceMul, Nat.reduceSub, ↓reduceIte, decide_true, decide_false, Bool.true_eq_false, Bool.false_eq_true, Bool.not_true, Bool.not_false, if_true, if_false, and_true, true_and, memE, celE, w64, Nat.zero_add, Nat.add_zero, Nat.mul_one, putL, and_self, ldn, ext_2_0, ext_2_1]
      exact hq
end Go.Proofs.Ytmjnjhdacliieaa.Ab
end
section
namespace Go.Proofs.Ytmjnjhdacliieaa.Ab
open Go Go.RowKit Go.Proofs
set_option maxRecDepth 100000
def c_laws_FnExactFindOffsets : ACode := .seq (.reg [⟨(some 2), .mv (.const (.bool false)), none⟩])
 (.seq (.seq (.reg [⟨(some 13), .mv (.tmp 0), none⟩,
  ⟨(some 14), .len (.tmp 13), none⟩,
  ⟨(some 15), .bin .gtr (.tmp 14) (.const (.int .i64 1048576)), none⟩])
 (.cond (.tmp 15) (.seq (.reg [⟨(some 2), .mv (.const (.bool true)), none⟩])
 (.ret)) (.skip)))
 (.seq (.reg [⟨(some 17), .mv (.tmp 0), none⟩,
  ⟨(some 18), .call (.func 32) [(.tmp 17)], none⟩,
  ⟨(some 19), .call (.func 55) [(.tmp 18)], none⟩,
  ⟨(some 16), .mv (.tmp 19), none⟩,
  ⟨(some 20), .ext 0 (.tmp 16), none⟩,
  ⟨(some 21), .ext 1 (.tmp 16), none⟩,
  ⟨(some 3), .mv (.tmp 20), none⟩,
  ⟨(some 4), .mv (.tmp 21), none⟩])
 (.seq (.reg [⟨(some 22), .mv (.tmp 0), none⟩,
  ⟨(some 23), .call (.func 32) [(.tmp 22)], none⟩,
  ⟨(some 5), .mv (.tmp 23), none⟩])
 (.seq (.reg [⟨(some 25), .mv (.tmp 5), none⟩,
  ⟨(some 26), .call (.func 56) [(.tmp 25)], none⟩,
  ⟨(some 24), .mv (.tmp 26), none⟩,
  ⟨(some 27), .ext 0 (.tmp 24), none⟩,
  ⟨(some 28), .ext 1 (.tmp 24), none⟩,
  ⟨(some 6), .mv (.tmp 27), none⟩,
  ⟨(some 7), .mv (.tmp 28), none⟩])
 (.seq (.seq (.reg [⟨(some 29), .mv (.tmp 6), none⟩,
  ⟨(some 30), .mv (.tmp 3), none⟩,
  ⟨(some 31), .call (.func 35) [(.tmp 29), (.tmp 30)], none⟩,
  ⟨(some 32), .un .not (.tmp 31), none⟩,
  ⟨(some 33), .mv (.tmp 32), none⟩,
  ⟨(some 34), .mv (.tmp 7), (some (33, false))⟩,
  ⟨(some 35), .mv (.tmp 4), (some (33, false))⟩,
  ⟨(some 36), .beq true (.tmp 34) (.tmp 35), (some (33, false))⟩,
  ⟨(some 37), .pick (.tmp 33) (.const (.bool true)) (.tmp 36), none⟩])
 (.cond (.tmp 37) (.seq (.reg [⟨(some 2), .mv (.const (.bool false)), none⟩])
 (.ret)) (.skip)))
 (.seq (.seq (.reg [⟨(some 38), .mv (.tmp 5), none⟩,
  ⟨(some 39), .mv (.tmp 0), none⟩,
  ⟨(some 40), .call (.func 32) [(.tmp 39)], none⟩,
  ⟨(some 41), .call (.func 35) [(.tmp 38), (.tmp 40)], none⟩,
  ⟨(some 42), .un .not (.tmp 41), none⟩])
 (.cond (.tmp 42) (.seq (.reg [⟨(some 2), .mv (.const (.bool false)), none⟩])
 (.ret)) (.skip)))
 (.seq (.reg [⟨(some 8), .mv (.const (.int .i64 1)), none⟩])
 (.seq (.reg [⟨(some 43), .mv (.tmp 5), none⟩,
  ⟨(some 44), .mv (.tmp 8), none⟩,
  ⟨(some 45), .call (.func 39) [(.tmp 43), (.tmp 44)], none⟩,
  ⟨(some 8), .mv (.tmp 45), none⟩])
 (.seq (.seq (.reg [⟨(some 46), .mv (.tmp 8), none⟩,
  ⟨(some 47), .bin .lss (.tmp 46) (.const (.int .i64 0)), none⟩,
  ⟨(some 48), .mv (.tmp 47), none⟩,
  ⟨(some 49), .mv (.tmp 6), (some (48, false))⟩,
  ⟨(some 50), .mv (.tmp 3), (some (48, false))⟩,
  ⟨(some 51), .call (.func 35) [(.tmp 49), (.tmp 50)], (some (48, false))⟩,
  ⟨(some 52), .un .not (.tmp 51), (some (48, false))⟩,
  ⟨(some 53), .pick (.tmp 48) (.const (.bool true)) (.tmp 52), none⟩,
  ⟨(some 54), .mv (.tmp 53), none⟩,
  ⟨(some 55), .mv (.tmp 7), (some (54, false))⟩,
  ⟨(some 56), .mv (.tmp 4), (some (54, false))⟩,
  ⟨(some 57), .beq true (.tmp 55) (.tmp 56), (some (54, false))⟩,
  ⟨(some 58), .pick (.tmp 54) (.const (.bool true)) (.tmp 57), none⟩])
 (.cond (.tmp 58) (.seq (.reg [⟨(some 2), .mv (.const (.bool false)), none⟩])
 (.ret)) (.skip)))
 (.seq (.reg [⟨(some 9), .mv (.const (.int .i64 1)), none⟩])
 (.seq (.reg [⟨(some 59), .mv (.tmp 6), none⟩,
  ⟨(some 60), .mv (.tmp 9), none⟩,
  ⟨(some 61), .call (.func 39) [(.tmp 59), (.tmp 60)], none⟩,
  ⟨(some 9), .mv (.tmp 61), none⟩])
 (.seq (.reg [⟨(some 10), .mv (.const (.int .i64 1)), none⟩])
 (.seq (.reg [⟨(some 62), .mv (.tmp 6), none⟩,
  ⟨(some 63), .mv (.tmp 10), none⟩,
  ⟨(some 64), .call (.func 40) [(.tmp 62), (.tmp 63)], none⟩,
  ⟨(some 10), .mv (.tmp 64), none⟩])
 (.seq (.seq (.reg [⟨(some 65), .mv (.tmp 10), none⟩,
  ⟨(some 66), .bin .lss (.tmp 65) (.const (.int .i64 0)), none⟩])
 (.cond (.tmp 66) (.seq (.reg [⟨(some 2), .mv (.const (.bool false)), none⟩])
 (.ret)) (.skip)))
 (.seq (.seq (.reg [⟨(some 67), .mv (.tmp 10), none⟩,
  ⟨(some 68), .mv (.tmp 9), none⟩,
  ⟨(some 69), .bin .neq (.tmp 67) (.tmp 68), none⟩])
 (.cond (.tmp 69) (.seq (.reg [⟨(some 2), .mv (.const (.bool false)), none⟩])
 (.ret)) (.skip)))
 (.seq (.reg [⟨(some 71), .mv (.tmp 0), none⟩,
  ⟨(some 72), .call (.func 32) [(.tmp 71)], none⟩,
  ⟨(some 73), .call (.func 56) [(.tmp 72)], none⟩,
  ⟨(some 70), .mv (.tmp 73), none⟩,
  ⟨(some 74), .ext 0 (.tmp 70), none⟩,
  ⟨(some 75), .ext 1 (.tmp 70), none⟩,
  ⟨(some 11), .mv (.tmp 74), none⟩,
  ⟨(some 12), .mv (.tmp 75), none⟩])
 (.seq (.seq (.reg [⟨(some 76), .mv (.tmp 11), none⟩,
  ⟨(some 77), .mv (.tmp 3), none⟩,
  ⟨(some 78), .call (.func 35) [(.tmp 76), (.tmp 77)], none⟩,
  ⟨(some 79), .un .not (.tmp 78), none⟩,
  ⟨(some 80), .mv (.tmp 79), none⟩,
  ⟨(some 81), .mv (.tmp 12), (some (80, false))⟩,
  ⟨(some 82), .mv (.tmp 4), (some (80, false))⟩,
  ⟨(some 83), .beq true (.tmp 81) (.tmp 82), (some (80, false))⟩,
  ⟨(some 84), .pick (.tmp 80) (.const (.bool true)) (.tmp 83), none⟩])
 (.cond (.tmp 84) (.seq (.reg [⟨(some 2), .mv (.const (.bool false)), none⟩])
 (.ret)) (.skip)))
 (.seq (.reg [⟨(some 10), .mv (.const (.int .i64 1)), none⟩])
 (.seq (.reg [⟨(some 85), .mv (.tmp 6), none⟩,
  ⟨(some 86), .mv (.tmp 10), none⟩,
  ⟨(some 87), .call (.func 40) [(.tmp 85), (.tmp 86)], none⟩,
  ⟨(some 10), .mv (.tmp 87), none⟩])
 (.seq (.seq (.reg [⟨(some 88), .mv (.tmp 10), none⟩,
  ⟨(some 89), .bin .lss (.tmp 88) (.const (.int .i64 0)), none⟩])
 (.cond (.tmp 89) (.seq (.reg [⟨(some 2), .mv (.const (.bool false)), none⟩])
 (.ret)) (.skip)))
 (.seq (.seq (.reg [⟨(some 90), .mv (.tmp 10), none⟩,
  ⟨(some 91), .mv (.tmp 9), none⟩,
  ⟨(some 92), .bin .neq (.tmp 90) (.tmp 91), none⟩])
 (.cond (.tmp 92) (.seq (.reg [⟨(some 2), .mv (.const (.bool false)), none⟩])
 (.ret)) (.skip)))
 (.seq (.reg [⟨(some 2), .mv (.const (.bool true)), none⟩])
 (.ret)))))))))))))))))))))))
def r_laws_FnExactFindOffsets : List ARes := [.tmp 2]
theorem ok_laws_FnExactFindOffsets : FnOk Try.prog 16 93 c_laws_FnExactFindOffsets r_laws_FnExactFindOffsets := ⟨⟨Try.f16, _, Try.func16, by kernel_rfl, rfl, rfl, by kernel_rfl, by kernel_rfl⟩⟩
end Go.Proofs.Ytmjnjhdacliieaa.Ab
end
section
namespace Go.Proofs.Ytmjnjhdacliieaa.Ab
open Go Go.RowKit
set_option linter.unusedVariables false
set_option linter.unusedSimpArgs false
set_option maxRecDepth 100000
set_option maxHeartbeats 4000000 in
theorem law_FnExactFindOffsets (M0 : Mem) (d0 : List Int) (v0 : Value) (A0 : IntsA M0 v0 d0) :
    AC Try.prog 16 [v0] M0 fun r _ => r = .bool true := by
  refine ac_of_run mixed ok_laws_FnExactFindOffsets (by simp) (go_start _ _ _ ?_)
  have len0 := A0.len
  have bd0 := A0.bd
  have C0 : Lv 0 M0.length M0 fun M => IntsA M v0 d0 := Lv.all fun new => A0.ext new
  by_cases s0 : 1048576 < d0.length
  · have s0' : (1048576 : Int) < d0.length := by omega
    try simp (config := {implicitDefEqProofs := false, maxDischargeDepth := 20}) (disch := first | omega | (simp only [lenE]; done) | (simp only [lenE]; omega) | rfl | (simp only [lenE, markR_len]; done) | (simp only [lenE, markR_len]; omega)) only [runE, mapE, listE, initT_5, initT_6, initT_7, initT_8, resV, oneV, binA, unA, reduceCtorEq, Nat.reduceEqDiff, Nat.reduceAdd, Nat.reduceLT, Nat.reduceLeDiff, Nat.reduceMul, Nat.reduceSub, ↓reduceIte, decide_true, decide_false, Bool.true_eq_false, Bool.false_eq_true, Bool.not_true, Bool.not_false, if_true, if_false, and_true, true_and, memE, celE, w64, Nat.zero_add, Nat.add_zero, Nat.mul_one, putL, and_self, ldn, c_laws_FnExactFindOffsets, r_laws_FnExactFindOffsets, id_eq, ext_2_0, ext_2_1, ext_3_0, ext_3_1, ext_3_2, ext_4_0, ext_4_1, ext_4_2, ext_4_3, beq_self_eq_true, bne_self_eq_false, gt_iff_lt, s0', len0]
    done
  have s0' : ¬ ((1048576 : Int) < d0.length) := by omega
  try simp (config := {implicitDefEqProofs := false, maxDischargeDepth := 20}) (disch := first | omega | (simp only [lenE]; done) | (simp only [lenE]; omega) | rfl | (simp only [lenE, markR_len]; done) | (simp only [lenE, markR_len]; omega)) only [runE, mapE, listE, initT_5, initT_6, initT_7, initT_8, resV, oneV, binA, unA, reduceCtorEq, Nat.reduceEqDiff, Nat.reduceAdd, Nat.reduceLT, Nat.reduceLeDiff, Nat.reduceMul, Nat.reduceSub, ↓reduceIte, decide_true, decide_false, Bool.true_eq_false, Bool.false_eq_true, Bool.not_true, Bool.not_false, if_true, if_false, and_true, true_and, memE, celE, w64, Nat.zero_add, Nat.add_zero, Nat.mul_one, putL, and_self, ldn, c_laws_FnExactFindOffsets, r_laws_FnExactFindOffsets, id_eq, ext_2_0, ext_2_1, ext_3_0, ext_3_1, ext_3_2, ext_4_0, ext_4_1, ext_4_2, ext_4_3, beq_self_eq_true, bne_self_eq_false, gt_iff_lt, s0', len0]
  obtain ⟨W, hW⟩ : ∃ W : List Int, W = (offA d0) := ⟨_, rfl⟩
  obtain ⟨q0, hq0⟩ : ∃ q : Bool, q = (offOk d0) := ⟨_, rfl⟩
  have SPC := fun m u0 => specFindOffsets_rc m u0 d0
  have IMP := fun m u0 => implFindOffsets_rc m u0 d0
  try rw [← hW] at SPC
  try rw [← hW] at IMP
  try rw [← hq0] at SPC
  try rw [← hq0] at IMP
  try simp (config := {implicitDefEqProofs := false, maxDischargeDepth := 20}) (disch := first | omega | (simp only [lenE]; done) | (simp only [lenE]; omega) | rfl | (simp only [lenE, markR_len]; done) | (simp only [lenE, markR_len]; omega)) only [runE, mapE, listE, initT_5, initT_6, initT_7, initT_8, resV, oneV, binA, unA, reduceCtorEq, Nat.reduceEqDiff, Nat.reduceAdd, Nat.reduceLT, Nat.reduceLeDiff, Nat.reduceMul, Nat.reduceSub, ↓reduceIte, decide_true, decide_false, Bool.true_eq_false, Bool.false_eq_true, Bool.not_true, Bool.not_false, if_true, if_false, and_true, true_and, memE, celE, w64, Nat.zero_add, Nat.add_zero, Nat.mul_one, putL, and_self, ldn, id_eq, ext_2_0, ext_2_1, ext_3_0, ext_3_1, ext_3_2, ext_4_0, ext_4_1, ext_4_2, ext_4_3, beq_self_eq_true, bne_self_eq_false, gt_iff_lt]
  have TT := toIntsO_rc M0 _ d0 C0.now (by omega)
  first | refine callH_rc TT ?_ | refine rcallH_rc TT ?_
  clear TT
  rintro r new ⟨nrn, Sv0, Sv0e, S0⟩
  rw [id_eq] at Sv0e
  subst r
  obtain ⟨M1, hM1⟩ : ∃ M', M' = M0 ++ new := ⟨_, rfl⟩
  rw [← hM1]
  have LM1 : M1.length = M0.length + new.length := by rw [hM1, List.length_append]
  replace C0 : Lv 0 M0.length M1 fun M => IntsA M v0 d0 := by rw [hM1]; exact C0.ext _
  clear nrn
  rw [← hM1, ← LM1] at S0
  change Lv M0.length M1.length M1 fun M => IntsO d0 M0.length M1.length M Sv0 at S0
  try simp (config := {implicitDefEqProofs := false, maxDischargeDepth := 20}) (disch := first | omega | (simp only [lenE]; done) | (simp only [lenE]; omega) | rfl | (simp only [lenE, markR_len]; done) | (simp only [lenE, markR_len]; omega)) only [runE, mapE, listE, initT_5, initT_6, initT_7, initT_8, resV, oneV, binA, unA, reduceCtorEq, Nat.reduceEqDiff, Nat.reduceAdd, Nat.reduceLT, Nat.reduceLeDiff, Nat.reduceMul, Nat.reduceSub, ↓reduceIte, decide_true, decide_false, Bool.true_eq_false, Bool.false_eq_true, Bool.not_true, Bool.not_false, if_true, if_false, and_true, true_and, memE, celE, w64, Nat.zero_add, Nat.add_zero, Nat.mul_one, putL, and_self, ldn, id_eq, ext_2_0, ext_2_1, ext_3_0, ext_3_1, ext_3_2, ext_4_0, ext_4_1, ext_4_2, ext_4_3, beq_self_eq_true, bne_self_eq_false, gt_iff_lt]
  refine callH_rc (SPC _ _ S0.now.in) ?_
  rintro r new ⟨nrn, vw, rfl, w⟩
  obtain ⟨M2, hM2⟩ : ∃ M', M' = M1 ++ new := ⟨_, rfl⟩
  rw [← hM2]
  have LM2 : M2.length = M1.length + new.length := by rw [hM2, List.length_append]
  replace C0 : Lv 0 M0.length M2 fun M => IntsA M v0 d0 := by rw [hM2]; exact C0.ext _
  replace S0 : Lv M0.length M1.length M2 fun M => IntsO d0 M0.length M1.length M Sv0 := by rw [hM2]; exact S0.ext _
  clear nrn
  rw [← hM2, ← LM2] at w
  clear S0
  try simp (config := {implicitDefEqProofs := false, maxDischargeDepth := 20}) (disch := first | omega | (simp only [lenE]; done) | (simp only [lenE]; omega) | rfl | (simp only [lenE, markR_len]; done) | (simp only [lenE, markR_len]; omega)) only [runE, mapE, listE, initT_5, initT_6, initT_7, initT_8, resV, oneV, binA, unA, reduceCtorEq, Nat.reduceEqDiff, Nat.reduceAdd, Nat.reduceLT, Nat.reduceLeDiff, Nat.reduceMul, Nat.reduceSub, ↓reduceIte, decide_true, decide_false, Bool.true_eq_false, Bool.false_eq_true, Bool.not_true, Bool.not_false, if_true, if_false, and_true, true_and, memE, celE, w64, Nat.zero_add, Nat.add_zero, Nat.mul_one, putL, and_self, ldn, id_eq, ext_2_0, ext_2_1, ext_3_0, ext_3_1, ext_3_2, ext_4_0, ext_4_1, ext_4_2, ext_4_3, beq_self_eq_true, bne_self_eq_false, gt_iff_lt]
  have TT := toIntsO_rc M2 _ d0 C0.now (by omega)
  first | refine callH_rc TT ?_ | refine rcallH_rc TT ?_
  clear TT
  rintro r new ⟨nrn, Yv0, Yv0e, Y0⟩
  rw [id_eq] at Yv0e
  subst r
  obtain ⟨M3, hM3⟩ : ∃ M', M' = M2 ++ new := ⟨_, rfl⟩
  rw [← hM3]
  have LM3 : M3.length = M2.length + new.length := by rw [hM3, List.length_append]
  replace C0 : Lv 0 M0.length M3 fun M => IntsA M v0 d0 := by rw [hM3]; exact C0.ext _
  replace w : Lv M1.length M2.length M3 fun M => IntsO W M1.length M2.length M vw := by rw [hM3]; exact w.ext _
  clear nrn
  rw [← hM3, ← LM3] at Y0
  change Lv M2.length M3.length M3 fun M => IntsO d0 M2.length M3.length M Yv0 at Y0
  try simp (config := {implicitDefEqProofs := false, maxDischargeDepth := 20}) (disch := first | omega | (simp only [lenE]; done) | (simp only [lenE]; omega) | rfl | (simp only [lenE, markR_len]; done) | (simp only [lenE, markR_len]; omega)) only [runE, mapE, listE, initT_5, initT_6, initT_7, initT_8, resV, oneV, binA, unA, reduceCtorEq, Nat.reduceEqDiff, Nat.reduceAdd, Nat.reduceLT, Nat.reduceLeDiff, Nat.reduceMul, Nat.reduceSub, ↓reduceIte, decide_true, decide_false, Bool.true_eq_false, Bool.false_eq_true, Bool.not_true, Bool.not_false, if_true, if_false, and_true, true_and, memE, celE, w64, Nat.zero_add, Nat.add_zero, Nat.mul_one, putL, and_self, ldn, id_eq, ext_2_0, ext_2_1, ext_3_0, ext_3_1, ext_3_2, ext_4_0, ext_4_1, ext_4_2, ext_4_3, beq_self_eq_true, bne_self_eq_false, gt_iff_lt]
  refine callH_rc (IMP _ _ Y0.now.in) ?_
  rintro r new ⟨nrn, vg, rfl, g⟩
  obtain ⟨M4, hM4⟩ : ∃ M', M' = M3 ++ new := ⟨_, rfl⟩
  rw [← hM4]
  have LM4 : M4.length = M3.length + new.length := by rw [hM4, List.length_append]
  replace C0 : Lv 0 M0.length M4 fun M => IntsA M v0 d0 := by rw [hM4]; exact C0.ext _
  replace w : Lv M1.length M2.length M4 fun M => IntsO W M1.length M2.length M vw := by rw [hM4]; exact w.ext _
  replace Y0 : Lv M2.length M3.length M4 fun M => IntsO d0 M2.length M3.length M Yv0 := by rw [hM4]; exact Y0.ext _
  clear nrn
  rw [← hM4, ← LM4] at g
  try simp (config := {implicitDefEqProofs := false, maxDischargeDepth := 20}) (disch := first | omega | (simp only [lenE]; done) | (simp only [lenE]; omega) | rfl | (simp only [lenE, markR_len]; done) | (simp only [lenE, markR_len]; omega)) only [runE, mapE, listE, initT_5, initT_6, initT_7, initT_8, resV, oneV, binA, unA, reduceCtorEq, Nat.reduceEqDiff, Nat.reduceAdd, Nat.reduceLT, Nat.reduceLeDiff, Nat.reduceMul, Nat.reduceSub, ↓reduceIte, decide_true, decide_false, Bool.true_eq_false, Bool.false_eq_true, Bool.not_true, Bool.not_false, if_true, if_false, and_true, true_and, memE, celE, w64, Nat.zero_add, Nat.add_zero, Nat.mul_one, putL, and_self, ldn, id_eq, ext_2_0, ext_2_1, ext_3_0, ext_3_1, ext_3_2, ext_4_0, ext_4_1, ext_4_2, ext_4_3, beq_self_eq_true, bne_self_eq_false, gt_iff_lt]
  have TT := eqIntsO_rc M4 _ _ W g.now.in w.now.in
  refine callH_rc TT ?_
  clear TT
  rintro r new ⟨rfl, nrn⟩
  obtain ⟨M5, hM5⟩ : ∃ M', M' = M4 ++ new := ⟨_, rfl⟩
  rw [← hM5]
  have LM5 : M5.length = M4.length + new.length := by rw [hM5, List.length_append]
  replace C0 : Lv 0 M0.length M5 fun M => IntsA M v0 d0 := by rw [hM5]; exact C0.ext _
  replace w : Lv M1.length M2.length M5 fun M => IntsO W M1.length M2.length M vw := by rw [hM5]; exact w.ext _
  replace Y0 : Lv M2.length M3.length M5 fun M => IntsO d0 M2.length M3.length M Yv0 := by rw [hM5]; exact Y0.ext _
  replace g : Lv M3.length M4.length M5 fun M => IntsO W M3.length M4.length M vg := by rw [hM5]; exact g.ext _
  clear nrn
  try simp (config := {implicitDefEqProofs := false, maxDischargeDepth := 20}) (disch := first | omega | (simp only [lenE]; done) | (simp only [lenE]; omega) | rfl | (simp only [lenE, markR_len]; done) | (simp only [lenE, markR_len]; omega)) only [runE, mapE, listE, initT_5, initT_6, initT_7, initT_8, resV, oneV, binA, unA, reduceCtorEq, Nat.reduceEqDiff, Nat.reduceAdd, Nat.reduceLT, Nat.reduceLeDiff, Nat.reduceMul, Nat.reduceSub, ↓reduceIte, decide_true, decide_false, Bool.true_eq_false, Bool.false_eq_true, Bool.not_true, Bool.not_false, if_true, if_false, and_true, true_and, memE, celE, w64, Nat.zero_add, Nat.add_zero, Nat.mul_one, putL, and_self, ldn, id_eq, ext_2_0, ext_2_1, ext_3_0, ext_3_1, ext_3_2, ext_4_0, ext_4_1, ext_4_2, ext_4_3, beq_self_eq_true, bne_self_eq_false, gt_iff_lt]
  try simp (config := {implicitDefEqProofs := false, maxDischargeDepth := 20}) (disch := first | omega | (simp only [lenE]; done) | (simp only [lenE]; omega) | rfl | (simp only [lenE, markR_len]; done) | (simp only [lenE, markR_len]; omega)) only [runE, mapE, listE, initT_5, initT_6, initT_7, initT_8, resV, oneV, binA, unA, reduceCtorEq, Nat.reduceEqDiff, Nat.reduceAdd, Nat.reduceLT, Nat.reduceLeDiff, Nat.reduceMul, Nat.reduceSub, ↓reduceIte, decide_true, decide_false, Bool.true_eq_false, Bool.false_eq_true, Bool.not_true, Bool.not_false, if_true, if_false, and_true, true_and, memE, celE, w64, Nat.zero_add, Nat.add_zero, Nat.mul_one, putL, and_self, ldn, id_eq, ext_2_0, ext_2_1, ext_3_0, ext_3_1, ext_3_2, ext_4_0, ext_4_1, ext_4_2, ext_4_3, beq_self_eq_true, bne_self_eq_false, gt_iff_lt]
  have TT := toIntsO_rc M5 _ d0 C0.now (by omega)
  first | refine callH_rc TT ?_ | refine rcallH_rc TT ?_
  clear TT
  rintro r new ⟨nrn, Tv0, Tv0e, T0⟩
  rw [id_eq] at Tv0e
  subst r
  obtain ⟨M6, hM6⟩ : ∃ M', M' = M5 ++ new := ⟨_, rfl⟩
  rw [← hM6]
  have LM6 : M6.length = M5.length + new.length := by rw [hM6, List.length_append]
  replace C0 : Lv 0 M0.length M6 fun M => IntsA M v0 d0 := by rw [hM6]; exact C0.ext _
  replace w : Lv M1.length M2.length M6 fun M => IntsO W M1.length M2.length M vw := by rw [hM6]; exact w.ext _
  replace Y0 : Lv M2.length M3.length M6 fun M => IntsO d0 M2.length M3.length M Yv0 := by rw [hM6]; exact Y0.ext _
  replace g : Lv M3.length M4.length M6 fun M => IntsO W M3.length M4.length M vg := by rw [hM6]; exact g.ext _
  clear nrn
  rw [← hM6, ← LM6] at T0
  change Lv M5.length M6.length M6 fun M => IntsO d0 M5.length M6.length M Tv0 at T0
  try simp (config := {implicitDefEqProofs := false, maxDischargeDepth := 20}) (disch := first | omega | (simp only [lenE]; done) | (simp only [lenE]; omega) | rfl | (simp only [lenE, markR_len]; done) | (simp only [lenE, markR_len]; omega)) only [runE, mapE, listE, initT_5, initT_6, initT_7, initT_8, resV, oneV, binA, unA, reduceCtorEq, Nat.reduceEqDiff, Nat.reduceAdd, Nat.reduceLT, Nat.reduceLeDiff, Nat.reduceMul, Nat.reduceSub, ↓reduceIte, decide_true, decide_false, Bool.true_eq_false, Bool.false_eq_true, Bool.not_true, Bool.not_false, if_true, if_false, and_true, true_and, memE, celE, w64, Nat.zero_add, Nat.add_zero, Nat.mul_one, putL, and_self, ldn, id_eq, ext_2_0, ext_2_1, ext_3_0, ext_3_1, ext_3_2, ext_4_0, ext_4_1, ext_4_2, ext_4_3, beq_self_eq_true, bne_self_eq_false, gt_iff_lt]
  have TT := eqIntsO_rc M6 _ _ d0 Y0.now.in T0.now.in
  first | refine callH_rc TT ?_ | refine rcallH_rc TT ?_
  clear TT
  rintro r new ⟨rfl, nrn⟩
  obtain ⟨M7, hM7⟩ : ∃ M', M' = M6 ++ new := ⟨_, rfl⟩
  rw [← hM7]
  have LM7 : M7.length = M6.length + new.length := by rw [hM7, List.length_append]
  replace C0 : Lv 0 M0.length M7 fun M => IntsA M v0 d0 := by rw [hM7]; exact C0.ext _
  replace w : Lv M1.length M2.length M7 fun M => IntsO W M1.length M2.length M vw := by rw [hM7]; exact w.ext _
  replace Y0 : Lv M2.length M3.length M7 fun M => IntsO d0 M2.length M3.length M Yv0 := by rw [hM7]; exact Y0.ext _
  replace g : Lv M3.length M4.length M7 fun M => IntsO W M3.length M4.length M vg := by rw [hM7]; exact g.ext _
  replace T0 : Lv M5.length M6.length M7 fun M => IntsO d0 M5.length M6.length M Tv0 := by rw [hM7]; exact T0.ext _
  clear nrn
  clear T0
  try simp (config := {implicitDefEqProofs := false, maxDischargeDepth := 20}) (disch := first | omega | (simp only [lenE]; done) | (simp only [lenE]; omega) | rfl | (simp only [lenE, markR_len]; done) | (simp only [lenE, markR_len]; omega)) only [runE, mapE, listE, initT_5, initT_6, initT_7, initT_8, resV, oneV, binA, unA, reduceCtorEq, Nat.reduceEqDiff, Nat.reduceAdd, Nat.reduceLT, Nat.reduceLeDiff, Nat.reduceMul, Nat.reduceSub, ↓reduceIte, decide_true, decide_false, Bool.true_eq_false, Bool.false_eq_true, Bool.not_true, Bool.not_false, if_true, if_false, and_true, true_and, memE, celE, w64, Nat.zero_add, Nat.add_zero, Nat.mul_one, putL, and_self, ldn, id_eq, ext_2_0, ext_2_1, ext_3_0, ext_3_1, ext_3_2, ext_4_0, ext_4_1, ext_4_2, ext_4_3, beq_self_eq_true, bne_self_eq_false, gt_iff_lt]
  have sn0 : d0.length ≤ 1048576 := by omega
  try simp (config := {implicitDefEqProofs := false, maxDischargeDepth := 20}) (disch := first | omega | (simp only [lenE]; done) | (simp only [lenE]; omega) | rfl | (simp only [lenE, markR_len]; done) | (simp only [lenE, markR_len]; omega)) only [runE, mapE, listE, initT_5, initT_6, initT_7, initT_8, resV, oneV, binA, unA, reduceCtorEq, Nat.reduceEqDiff, Nat.reduceAdd, Nat.reduceLT, Nat.reduceLeDiff, Nat.reduceMul, Nat.reduceSub, ↓reduceIte, decide_true, decide_false, Bool.true_eq_false, Bool.false_eq_true, Bool.not_true, Bool.not_false, if_true, if_false, and_true, true_and, memE, celE, w64, Nat.zero_add, Nat.add_zero, Nat.mul_one, putL, and_self, ldn, id_eq, ext_2_0, ext_2_1, ext_3_0, ext_3_1, ext_3_2, ext_4_0, ext_4_1, ext_4_2, ext_4_3, beq_self_eq_true, bne_self_eq_false, gt_iff_lt]
  refine callH_ac (markIntsO_ac _ M2.length M3.length _ d0 _ Y0 (by omega) (by omega)) ?_
  rintro r M8 ⟨rfl, hB, -⟩
  have LM8 := hB.1
  replace C0 : Lv 0 M0.length M8 fun M => IntsA M v0 d0 := C0.but hB (by omega)
  replace w : Lv M1.length M2.length M8 fun M => IntsO W M1.length M2.length M vw := w.but hB (by omega)
  replace g : Lv M3.length M4.length M8 fun M => IntsO W M3.length M4.length M vg := g.but hB (by omega)
  clear Y0 hB
  have hkk : ¬ (1 + (d0.length : Int) < 0) := by omega
  try simp (config := {implicitDefEqProofs := false, maxDischargeDepth := 20}) (disch := first | omega | (simp only [lenE]; done) | (simp only [lenE]; omega) | rfl | (simp only [lenE, markR_len]; done) | (simp only [lenE, markR_len]; omega)) only [runE, mapE, listE, initT_5, initT_6, initT_7, initT_8, resV, oneV, binA, unA, reduceCtorEq, Nat.reduceEqDiff, Nat.reduceAdd, Nat.reduceLT, Nat.reduceLeDiff, Nat.reduceMul, Nat.reduceSub, ↓reduceIte, decide_true, decide_false, Bool.true_eq_false, Bool.false_eq_true, Bool.not_true, Bool.not_false, if_true, if_false, and_true, true_and, memE, celE, w64, Nat.zero_add, Nat.add_zero, Nat.mul_one, putL, and_self, ldn, id_eq, ext_2_0, ext_2_1, ext_3_0, ext_3_1, ext_3_2, ext_4_0, ext_4_1, ext_4_2, ext_4_3, beq_self_eq_true, bne_self_eq_false, gt_iff_lt, hkk]
  try simp (config := {implicitDefEqProofs := false, maxDischargeDepth := 20}) (disch := first | omega | (simp only [lenE]; done) | (simp only [lenE]; omega) | rfl | (simp only [lenE, markR_len]; done) | (simp only [lenE, markR_len]; omega)) only [runE, mapE, listE, initT_5, initT_6, initT_7, initT_8, resV, oneV, binA, unA, reduceCtorEq, Nat.reduceEqDiff, Nat.reduceAdd, Nat.reduceLT, Nat.reduceLeDiff, Nat.reduceMul, Nat.reduceSub, ↓reduceIte, decide_true, decide_false, Bool.true_eq_false, Bool.false_eq_true, Bool.not_true, Bool.not_false, if_true, if_false, and_true, true_and, memE, celE, w64, Nat.zero_add, Nat.add_zero, Nat.mul_one, putL, and_self, ldn, id_eq, ext_2_0, ext_2_1, ext_3_0, ext_3_1, ext_3_2, ext_4_0, ext_4_1, ext_4_2, ext_4_3, beq_self_eq_true, bne_self_eq_false, gt_iff_lt]
  have TT := eqIntsO_rc M8 _ _ W g.now.in w.now.in
  refine callH_rc TT ?_
  clear TT
  rintro r new ⟨rfl, nrn⟩
  obtain ⟨M9, hM9⟩ : ∃ M', M' = M8 ++ new := ⟨_, rfl⟩
  rw [← hM9]
  have LM9 : M9.length = M8.length + new.length := by rw [hM9, List.length_append]
  replace C0 : Lv 0 M0.length M9 fun M => IntsA M v0 d0 := by rw [hM9]; exact C0.ext _
  replace w : Lv M1.length M2.length M9 fun M => IntsO W M1.length M2.length M vw := by rw [hM9]; exact w.ext _
  replace g : Lv M3.length M4.length M9 fun M => IntsO W M3.length M4.length M vg := by rw [hM9]; exact g.ext _
  clear nrn
  try simp (config := {implicitDefEqProofs := false, maxDischargeDepth := 20}) (disch := first | omega | (simp only [lenE]; done) | (simp only [lenE]; omega) | rfl | (simp only [lenE, markR_len]; done) | (simp only [lenE, markR_len]; omega)) only [runE, mapE, listE, initT_5, initT_6, initT_7, initT_8, resV, oneV, binA, unA, reduceCtorEq, Nat.reduceEqDiff, Nat.reduceAdd, Nat.reduceLT, Nat.reduceLeDiff, Nat.reduceMul, Nat.reduceSub, ↓reduceIte, decide_true, decide_false, Bool.true_eq_false, Bool.false_eq_true, Bool.not_true, Bool.not_false, if_true, if_false, and_true, true_and, memE, celE, w64, Nat.zero_add, Nat.add_zero, Nat.mul_one, putL, and_self, ldn, id_eq, ext_2_0, ext_2_1, ext_3_0, ext_3_1, ext_3_2, ext_4_0, ext_4_1, ext_4_2, ext_4_3, beq_self_eq_true, bne_self_eq_false, gt_iff_lt]
  refine callH_ac (markIntsO_ac _ M3.length M4.length _ W 1 g (by omega) (by omega)) ?_
  rintro r M10 ⟨rfl, hB, gm⟩
  have LM10 := hB.1
  have gsm := g.now.1
  replace C0 : Lv 0 M0.length M10 fun M => IntsA M v0 d0 := C0.but hB (by omega)
  replace w : Lv M1.length M2.length M10 fun M => IntsO W M1.length M2.length M vw := w.but hB (by omega)
  clear g hB
  have hkq : ¬ (1 + (W.length : Int) < 0) := by omega
  try simp (config := {implicitDefEqProofs := false, maxDischargeDepth := 20}) (disch := first | omega | (simp only [lenE]; done) | (simp only [lenE]; omega) | rfl | (simp only [lenE, markR_len]; done) | (simp only [lenE, markR_len]; omega)) only [runE, mapE, listE, initT_5, initT_6, initT_7, initT_8, resV, oneV, binA, unA, reduceCtorEq, Nat.reduceEqDiff, Nat.reduceAdd, Nat.reduceLT, Nat.reduceLeDiff, Nat.reduceMul, Nat.reduceSub, ↓reduceIte, decide_true, decide_false, Bool.true_eq_false, Bool.false_eq_true, Bool.not_true, Bool.not_false, if_true, if_false, and_true, true_and, memE, celE, w64, Nat.zero_add, Nat.add_zero, Nat.mul_one, putL, and_self, ldn, id_eq, ext_2_0, ext_2_1, ext_3_0, ext_3_1, ext_3_2, ext_4_0, ext_4_1, ext_4_2, ext_4_3, beq_self_eq_true, bne_self_eq_false, gt_iff_lt]
  refine callH_rc (heldIntsO_rc _ _ 1 W.length gm.now.in (by omega) (by omega) (by omega)) ?_
  rintro r new ⟨rfl, nrn⟩
  obtain ⟨M11, hM11⟩ : ∃ M', M' = M10 ++ new := ⟨_, rfl⟩
  rw [← hM11]
  have LM11 : M11.length = M10.length + new.length := by rw [hM11, List.length_append]
  replace C0 : Lv 0 M0.length M11 fun M => IntsA M v0 d0 := by rw [hM11]; exact C0.ext _
  replace w : Lv M1.length M2.length M11 fun M => IntsO W M1.length M2.length M vw := by rw [hM11]; exact w.ext _
  replace gm : Lv M3.length M4.length M11 fun M => IntsO (imarks 1 W.length) M3.length M4.length M vg := by rw [hM11]; exact gm.ext _
  clear nrn
  try simp (config := {implicitDefEqProofs := false, maxDischargeDepth := 20}) (disch := first | omega | (simp only [lenE]; done) | (simp only [lenE]; omega) | rfl | (simp only [lenE, markR_len]; done) | (simp only [lenE, markR_len]; omega)) only [runE, mapE, listE, initT_5, initT_6, initT_7, initT_8, resV, oneV, binA, unA, reduceCtorEq, Nat.reduceEqDiff, Nat.reduceAdd, Nat.reduceLT, Nat.reduceLeDiff, Nat.reduceMul, Nat.reduceSub, ↓reduceIte, decide_true, decide_false, Bool.true_eq_false, Bool.false_eq_true, Bool.not_true, Bool.not_false, if_true, if_false, and_true, true_and, memE, celE, w64, Nat.zero_add, Nat.add_zero, Nat.mul_one, putL, and_self, ldn, id_eq, ext_2_0, ext_2_1, ext_3_0, ext_3_1, ext_3_2, ext_4_0, ext_4_1, ext_4_2, ext_4_3, beq_self_eq_true, bne_self_eq_false, gt_iff_lt, hkq]
  try simp (config := {implicitDefEqProofs := false, maxDischargeDepth := 20}) (disch := first | omega | (simp only [lenE]; done) | (simp only [lenE]; omega) | rfl | (simp only [lenE, markR_len]; done) | (simp only [lenE, markR_len]; omega)) only [runE, mapE, listE, initT_5, initT_6, initT_7, initT_8, resV, oneV, binA, unA, reduceCtorEq, Nat.reduceEqDiff, Nat.reduceAdd, Nat.reduceLT, Nat.reduceLeDiff, Nat.reduceMul, Nat.reduceSub, ↓reduceIte, decide_true, decide_false, Bool.true_eq_false, Bool.false_eq_true, Bool.not_true, Bool.not_false, if_true, if_false, and_true, true_and, memE, celE, w64, Nat.zero_add, Nat.add_zero, Nat.mul_one, putL, and_self, ldn, id_eq, ext_2_0, ext_2_1, ext_3_0, ext_3_1, ext_3_2, ext_4_0, ext_4_1, ext_4_2, ext_4_3, beq_self_eq_true, bne_self_eq_false, gt_iff_lt]
  have TT := toIntsO_rc M11 _ d0 C0.now (by omega)
  first | refine callH_rc TT ?_ | refine rcallH_rc TT ?_
  clear TT
  rintro r new ⟨nrn, Uv0, Uv0e, U0⟩
  rw [id_eq] at Uv0e
  subst r
  obtain ⟨M12, hM12⟩ : ∃ M', M' = M11 ++ new := ⟨_, rfl⟩
  rw [← hM12]
  have LM12 : M12.length = M11.length + new.length := by rw [hM12, List.length_append]
  replace C0 : Lv 0 M0.length M12 fun M => IntsA M v0 d0 := by rw [hM12]; exact C0.ext _
  replace w : Lv M1.length M2.length M12 fun M => IntsO W M1.length M2.length M vw := by rw [hM12]; exact w.ext _
  replace gm : Lv M3.length M4.length M12 fun M => IntsO (imarks 1 W.length) M3.length M4.length M vg := by rw [hM12]; exact gm.ext _
  clear nrn
  rw [← hM12, ← LM12] at U0
  change Lv M11.length M12.length M12 fun M => IntsO d0 M11.length M12.length M Uv0 at U0
  try simp (config := {implicitDefEqProofs := false, maxDischargeDepth := 20}) (disch := first | omega | (simp only [lenE]; done) | (simp only [lenE]; omega) | rfl | (simp only [lenE, markR_len]; done) | (simp only [lenE, markR_len]; omega)) only [runE, mapE, listE, initT_5, initT_6, initT_7, initT_8, resV, oneV, binA, unA, reduceCtorEq, Nat.reduceEqDiff, Nat.reduceAdd, Nat.reduceLT, Nat.reduceLeDiff, Nat.reduceMul, Nat.reduceSub, ↓reduceIte, decide_true, decide_false, Bool.true_eq_false, Bool.false_eq_true, Bool.not_true, Bool.not_false, if_true, if_false, and_true, true_and, memE, celE, w64, Nat.zero_add, Nat.add_zero, Nat.mul_one, putL, and_self, ldn, id_eq, ext_2_0, ext_2_1, ext_3_0, ext_3_1, ext_3_2, ext_4_0, ext_4_1, ext_4_2, ext_4_3, beq_self_eq_true, bne_self_eq_false, gt_iff_lt]
  refine callH_rc (IMP _ _ U0.now.in) ?_
  rintro r new ⟨nrn, vh, rfl, h⟩
  obtain ⟨M13, hM13⟩ : ∃ M', M' = M12 ++ new := ⟨_, rfl⟩
  rw [← hM13]
  have LM13 : M13.length = M12.length + new.length := by rw [hM13, List.length_append]
  replace C0 : Lv 0 M0.length M13 fun M => IntsA M v0 d0 := by rw [hM13]; exact C0.ext _
  replace w : Lv M1.length M2.length M13 fun M => IntsO W M1.length M2.length M vw := by rw [hM13]; exact w.ext _
  replace gm : Lv M3.length M4.length M13 fun M => IntsO (imarks 1 W.length) M3.length M4.length M vg := by rw [hM13]; exact gm.ext _
  replace U0 : Lv M11.length M12.length M13 fun M => IntsO d0 M11.length M12.length M Uv0 := by rw [hM13]; exact U0.ext _
  clear nrn
  rw [← hM13, ← LM13] at h
  clear U0
  try simp (config := {implicitDefEqProofs := false, maxDischargeDepth := 20}) (disch := first | omega | (simp only [lenE]; done) | (simp only [lenE]; omega) | rfl | (simp only [lenE, markR_len]; done) | (simp only [lenE, markR_len]; omega)) only [runE, mapE, listE, initT_5, initT_6, initT_7, initT_8, resV, oneV, binA, unA, reduceCtorEq, Nat.reduceEqDiff, Nat.reduceAdd, Nat.reduceLT, Nat.reduceLeDiff, Nat.reduceMul, Nat.reduceSub, ↓reduceIte, decide_true, decide_false, Bool.true_eq_false, Bool.false_eq_true, Bool.not_true, Bool.not_false, if_true, if_false, and_true, true_and, memE, celE, w64, Nat.zero_add, Nat.add_zero, Nat.mul_one, putL, and_self, ldn, id_eq, ext_2_0, ext_2_1, ext_3_0, ext_3_1, ext_3_2, ext_4_0, ext_4_1, ext_4_2, ext_4_3, beq_self_eq_true, bne_self_eq_false, gt_iff_lt]
  have TT := eqIntsO_rc M13 _ _ W h.now.in w.now.in
  refine callH_rc TT ?_
  clear TT
  rintro r new ⟨rfl, nrn⟩
  obtain ⟨M14, hM14⟩ : ∃ M', M' = M13 ++ new := ⟨_, rfl⟩
  rw [← hM14]
  have LM14 : M14.length = M13.length + new.length := by rw [hM14, List.length_append]
  replace C0 : Lv 0 M0.length M14 fun M => IntsA M v0 d0 := by rw [hM14]; exact C0.ext _
  replace w : Lv M1.length M2.length M14 fun M => IntsO W M1.length M2.length M vw := by rw [hM14]; exact w.ext _
  replace gm : Lv M3.length M4.length M14 fun M => IntsO (imarks 1 W.length) M3.length M4.length M vg := by rw [hM14]; exact gm.ext _
  replace h : Lv M12.length M13.length M14 fun M => IntsO W M12.length M13.length M vh := by rw [hM14]; exact h.ext _
  clear nrn
  try simp (config := {implicitDefEqProofs := false, maxDischargeDepth := 20}) (disch := first | omega | (simp only [lenE]; done) | (simp only [lenE]; omega) | rfl | (simp only [lenE, markR_len]; done) | (simp only [lenE, markR_len]; omega)) only [runE, mapE, listE, initT_5, initT_6, initT_7, initT_8, resV, oneV, binA, unA, reduceCtorEq, Nat.reduceEqDiff, Nat.reduceAdd, Nat.reduceLT, Nat.reduceLeDiff, Nat.reduceMul, Nat.reduceSub, ↓reduceIte, decide_true, decide_false, Bool.true_eq_false, Bool.false_eq_true, Bool.not_true, Bool.not_false, if_true, if_false, and_true, true_and, memE, celE, w64, Nat.zero_add, Nat.add_zero, Nat.mul_one, putL, and_self, ldn, id_eq, ext_2_0, ext_2_1, ext_3_0, ext_3_1, ext_3_2, ext_4_0, ext_4_1, ext_4_2, ext_4_3, beq_self_eq_true, bne_self_eq_false, gt_iff_lt]
  try simp (config := {implicitDefEqProofs := false, maxDischargeDepth := 20}) (disch := first | omega | (simp only [lenE]; done) | (simp only [lenE]; omega) | rfl | (simp only [lenE, markR_len]; done) | (simp only [lenE, markR_len]; omega)) only [runE, mapE, listE, initT_5, initT_6, initT_7, initT_8, resV, oneV, binA, unA, reduceCtorEq, Nat.reduceEqDiff, Nat.reduceAdd, Nat.reduceLT, Nat.reduceLeDiff, Nat.reduceMul, Nat.reduceSub, ↓reduceIte, decide_true, decide_false, Bool.true_eq_false, Bool.false_eq_true, Bool.not_true, Bool.not_false, if_true, if_false, and_true, true_and, memE, celE, w64, Nat.zero_add, Nat.add_zero, Nat.mul_one, putL, and_self, ldn, id_eq, ext_2_0, ext_2_1, ext_3_0, ext_3_1, ext_3_2, ext_4_0, ext_4_1, ext_4_2, ext_4_3, beq_self_eq_true, bne_self_eq_false, gt_iff_lt]
  refine callH_rc (heldIntsO_rc _ _ 1 W.length gm.now.in (by omega) (by omega) (by omega)) ?_
  rintro r new ⟨rfl, nrn⟩
  obtain ⟨M15, hM15⟩ : ∃ M', M' = M14 ++ new := ⟨_, rfl⟩
  rw [← hM15]
  have LM15 : M15.length = M14.length + new.length := by rw [hM15, List.length_append]
  replace C0 : Lv 0 M0.length M15 fun M => IntsA M v0 d0 := by rw [hM15]; exact C0.ext _
  replace w : Lv M1.length M2.length M15 fun M => IntsO W M1.length M2.length M vw := by rw [hM15]; exact w.ext _
  replace gm : Lv M3.length M4.length M15 fun M => IntsO (imarks 1 W.length) M3.length M4.length M vg := by rw [hM15]; exact gm.ext _
  replace h : Lv M12.length M13.length M15 fun M => IntsO W M12.length M13.length M vh := by rw [hM15]; exact h.ext _
  clear nrn
  try simp (config := {implicitDefEqProofs := false, maxDischargeDepth := 20}) (disch := first | omega | (simp only [lenE]; done) | (simp only [lenE]; omega) | rfl | (simp only [lenE, markR_len]; done) | (simp only [lenE, markR_len]; omega)) only [runE, mapE, listE, initT_5, initT_6, initT_7, initT_8, resV, oneV, binA, unA, reduceCtorEq, Nat.reduceEqDiff, Nat.reduceAdd, Nat.reduceLT, Nat.reduceLeDiff, Nat.reduceMul, Nat.reduceSub, ↓reduceIte, decide_true, decide_false, Bool.true_eq_false, Bool.false_eq_true, Bool.not_true, Bool.not_false, if_true, if_false, and_true, true_and, memE, celE, w64, Nat.zero_add, Nat.add_zero, Nat.mul_one, putL, and_self, ldn, id_eq, ext_2_0, ext_2_1, ext_3_0, ext_3_1, ext_3_2, ext_4_0, ext_4_1, ext_4_2, ext_4_3, beq_self_eq_true, bne_self_eq_false, gt_iff_lt, hkq]
end Go.Proofs.Ytmjnjhdacliieaa.Ab
end
section
namespace Go.Proofs.Ytmjnjhdacliieaa.Ab
open Go Go.RowKit
set_option linter.unusedVariables false
theorem ws_word : ∀ (p r : List Char), p.all (fun c => c != ' ') = true → wordsSigns (p ++ ' ' :: r) = p :: wordsSigns r
  | [], r, _ => by rw [List.nil_append, wordsSigns]
  | c :: p, r, h => by
    rw [List.all_cons, Bool.and_eq_true] at h
    have hc : c ≠ ' ' := by simpa using h.1
    rw [List.cons_append, wordsSigns, ws_word p r h.2]
    intro e; exact hc e
def sumW : List Char := ['6', 'c', '5', '2', '0', '4', 'f', '8', '1', 'e', '6', '5', 'b', 'a', 'b', '9', 'c', '4', '1', '0', 'a', 'f', '1', '7', 'e', '9', '7', 'b', '1', '3', '1', '7', 'd', 'b', '3', '5', '4', '8', '6', '1', 'f', '6', 'b', '6', 'b', '9', '3', 'e', '4', '5', '9', '3', 'e', '2', '0', '0', 'c', '1', '8', '1', '9', '4', '0', '8']
def restW : List Char := ['a', 't', ' ', 'l', 'o', 'o', 'p', '.', 'e', 'x', 'a', 'm', 'p', 'l', 'e', '/', 'g', '0', '1', '1', '1', '1', '/', 'l', 'a', 'w', 's', '.', 'F', 'n', 'E', 'x', 'a', 'c', 't', 'I', 's', 'I', 't', 'e', 'm', ' ', 'l', 'o', 'o', 'p', '.', 'e', 'x', 'a', 'm', 'p', 'l', 'e', '/', 'g', '0', '1', '1', '1', '1', '/', 'l', 'a', 'w', 's', '.', 'F', 'n', 'E', 'x', 'a', 'c', 't', 'C', 'y', 'c', 'l', 'e', 'C', 'o', 's', 't', ' ', 'l', 'o', 'o', 'p', '.', 'e', 'x', 'a', 'm', 'p', 'l', 'e', '/', 'g', '0', '1', '1', '1', '1', '/', 'l', 'a', 'w', 's', '.', 'F', 'n', 'E', 'x', 'a', 'c', 't', 'B', 'e', 's', 't', 'C', 'y', 'c', 'l', 'e', ' ', 'l', 'o', 'o', 'p', '.', 'e', 'x', 'a', 'm', 'p', 'l', 'e', '/', 'g', '0', '1', '1', '1', '1', '/', 'l', 'a', 'w', 's', '.', 'F', 'n', 'E', 'x', 'a', 'c', 't', 'P', 'o', 'w', 'e', 'r', 'C', 'y', 'c', 'l', 'e', ' ', 'l', 'o', 'o', 'p', '.', 'e', 'x', 'a', 'm', 'p', 'l', 'e', '/', 'g', '0', '1', '1', '1', '1', '/', 'l', 'a', 'w', 's', '.', 'F', 'n', 'E', 'x', 'a', 'c', 't', 'F', 'a', 'm', 'i', 'l', 'y', 'C', 'o', 's', 't', ' ', 'l', 'o', 'o', 'p', '.', 'e', 'x', 'a', 'm', 'p', 'l', 'e', '/', 'g', '0', '1', '1', '1', '1', '/', 'l', 'a', 'w', 's', '.', 'F', 'n', 'E', 'x', 'a', 'c', 't', 'B', 'e', 's', 't', 'F', 'a', 'c', 't', 'o', 'r', 's', ' ', 'l', 'o', 'o', 'p', '.', 'e', 'x', 'a', 'm', 'p', 'l', 'e', '/', 'g', '0', '1', '1', '1', '1', '/', 'l', 'a', 'w', 's', '.', 'F', 'n', 'E', 'x', 'a', 'c', 't', 'B', 'e', 's', 't', 'B', 'a', 's', 'e', ' ', 'l', 'o', 'o', 'p', '.', 'e', 'x', 'a', 'm', 'p', 'l', 'e', '/', 'g', '0', '1', '1', '1', '1', '/', 'l', 'a', 'w', 's', '.', 'F', 'n', 'E', 'x', 'a', 'c', 't', 'C', 'y', 'c', 'l', 'e', 'F', 'i', 't', 's', ' ', 'l', 'o', 'o', 'p', '.', 'e', 'x', 'a', 'm', 'p', 'l', 'e', '/', 'g', '0', '1', '1', '1', '1', '/', 'l', 'a', 'w', 's', '.', 'F', 'n', 'E', 'x', 'a', 'c', 't', 'L', 'e', 'a', 's', 't', 'C', 'o', 'm', 'm', 'o', 'n', ' ', 'l', 'o', 'o', 'p', '.', 'e', 'x', 'a', 'm', 'p', 'l', 'e', '/', 'g', '0', '1', '1', '1', '1', '/', 'l', 'a', 'w', 's', '.', 'F', 'n', 'E', 'x', 'a', 'c', 't', 'C', 'o', 'm', 'm', 'o', 'n', 'C', 'o', 's', 't', ' ', 'l', 'o', 'o', 'p', '.', 'e', 'x', 'a', 'm', 'p', 'l', 'e', '/', 'g', '0', '1', '1', '1', '1', '/', 'l', 'a', 'w', 's', '.', 'F', 'n', 'E', 'x', 'a', 'c', 't', 'B', 'e', 's', 't', 'C', 'o', 'm', 'm', 'o', 'n', ' ', 'l', 'o', 'o', 'p', '.', 'e', 'x', 'a', 'm', 'p', 'l', 'e', '/', 'g', '0', '1', '1', '1', '1', '/', 'l', 'a', 'w', 's', '.', 'F', 'n', 'E', 'x', 'a', 'c', 't', 'I', 's', 'F', 'r', 'e', 'e', ' ', 'l', 'o', 'o', 'p', '.', 'e', 'x', 'a', 'm', 'p', 'l', 'e', '/', 'g', '0', '1', '1', '1', '1', '/', 'l', 'a', 'w', 's', '.', 'F', 'n', 'E', 'x', 'a', 'c', 't', 'S', 'h', 'a', 'r', 'e', 'O', 'f', ' ', 'l', 'o', 'o', 'p', '.', 'e', 'x', 'a', 'm', 'p', 'l', 'e', '/', 'g', '0', '1', '1', '1', '1', '/', 'l', 'a', 'w', 's', '.', 'F', 'n', 'E', 'x', 'a', 'c', 't', 'F', 'i', 'n', 'd', 'O', 'f', 'f', 's', 'e', 't', 's', ' ', 'l', 'o', 'o', 'p', '.', 'e', 'x', 'a', 'm', 'p', 'l', 'e', '/', 'g', '0', '1', '1', '1', '1', '/', 'l', 'a', 'w', 's', '.', 'F', 'n', 'E', 'x', 'a', 'c', 't', 'V', 'i', 's', 'i', 't', 's', 'O', 'n', ' ', 'l', 'o', 'o', 'p', '.', 'e', 'x', 'a', 'm', 'p', 'l', 'e', '/', 'g', '0', '1', '1', '1', '1', '/', 'l', 'a', 'w', 's', '.', 'F', 'n', 'E', 'x', 'a', 'c', 't', 'D', 'a', 'y', 's', 'B', 'u', 's', 'y']
set_option maxRecDepth 100000 in
theorem head_is : Try.prog.initOrder = String.ofList (['h', 'a', 'r', 'n', 'e', 's', 's'] ++ ' ' :: (sumW ++ ' ' :: (['c', 'u', 't'] ++ ' ' :: restW))) := by kernel_rfl
set_option maxRecDepth 100000 in
theorem sum_ok : isSumSigns sumW = true := by kernel_rfl
theorem head_words : behindMainWord (wordsSigns Try.prog.initOrder.toList) = ['c', 'u', 't'] :: wordsSigns restW := by
  rw [head_is, String.toList_ofList, ws_word _ _ (by decide), ws_word _ _ (by decide), ws_word _ _ (by decide)]
  simp only [behindMainWord, sum_ok, Bool.and_true]
  rfl
set_option maxRecDepth 100000 in
theorem strip_cut (X : List (List Char)) : stripLifts liftWords (['c', 'u', 't'] :: X) = ([], ['c', 'u', 't'] :: X) := by kernel_rfl
theorem lifts_gen (P : Program) (X : List (List Char)) (h : behindMainWord (wordsSigns P.initOrder.toList) = ['c', 'u', 't'] :: X) : P.headLifts = [] := by
  unfold Program.headLifts
  rw [h, strip_cut]
  rfl
theorem enters_gen (P : Program) (X : List (List Char)) (h : behindMainWord (wordsSigns P.initOrder.toList) = ['c', 'u', 't'] :: X) (h1 : P.laysLater = false) (h2 : P.bearsReflect = false) (h3 : P.doorFits [] = true) : P.mayEnter = true := by
  unfold Program.mayEnter
  rw [h]
  simp only [strip_cut, h1, h2, h3]
  rfl
theorem finals_gen (P : Program) (X : List (List Char)) (h : behindMainWord (wordsSigns P.initOrder.toList) = ['c', 'u', 't'] :: X) : P.liftsFinal = false := by
  unfold Program.liftsFinal
  rw [lifts_gen P X h, h]
  rfl
theorem make_gen (P : Program) (X : List (List Char)) (h : behindMainWord (wordsSigns P.initOrder.toList) = ['c', 'u', 't'] :: X) : P.make = some .cut := by
  unfold Program.make
  rw [h]
  rfl
set_option maxRecDepth 100000 in
theorem enters : Try.prog.mayEnter = true := enters_gen _ _ head_words (by kernel_rfl) (by kernel_rfl) (by kernel_rfl)
theorem no_finals : Try.prog.liftsFinal = false := finals_gen _ _ head_words
theorem makes : Try.prog.make = some .cut := make_gen _ _ head_words
end Go.Proofs.Ytmjnjhdacliieaa.Ab
end
