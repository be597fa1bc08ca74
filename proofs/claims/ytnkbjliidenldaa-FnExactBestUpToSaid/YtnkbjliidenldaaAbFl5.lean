/- The best level: both searches. -/
import Derived.Test.YtnkbjliidenldaaAbFl4
namespace Go.Proofs.Ytnkbjliidenldaa.Ab
open Go Go.RowKit
set_option linter.unusedVariables false
set_option linter.unusedSimpArgs false

/-- What is best before a number, and how little it costs. -/
def bw (C : Nat → Int) : Nat → Nat
  | 0 => 0
  | s + 1 => bestS C s
def lw (C : Nat → Int) : Nat → Int
  | 0 => -1
  | s + 1 => C (bestS C s)
theorem bw_step {C : Nat → Int} {s : Nat} (h0 : ∀ j, j ≤ s → 0 ≤ C j) (h : lw C s < 0 ∨ C s < lw C s) : bw C (s + 1) = s ∧ lw C (s + 1) = C s := by
  cases s with
  | zero => exact ⟨rfl, rfl⟩
  | succ s =>
    have hc : C (s + 1) < C (bestS C s) := by
      rcases h with h | h
      · have h1 : C (bestS C s) < 0 := h
        have := h0 (bestS C s) (by have := (bestS_le C s).1; omega)
        omega
      · exact h
    have e : bestS C (s + 1) = s + 1 := by
      show (if C (s + 1) < C (bestS C s) then s + 1 else bestS C s) = s + 1
      rw [if_pos hc]
    exact ⟨e, by show C (bestS C (s + 1)) = _; rw [e]⟩
theorem bw_stay {C : Nat → Int} {s : Nat} (h1 : ¬ lw C s < 0) (h2 : ¬ C s < lw C s) : bw C (s + 1) = bw C s ∧ lw C (s + 1) = lw C s := by
  cases s with
  | zero => exact absurd (show lw C 0 < 0 by simp [lw]) h1
  | succ s =>
    have e : bestS C (s + 1) = bestS C s := by
      show (if C (s + 1) < C (bestS C s) then s + 1 else bestS C s) = _
      rw [if_neg (show ¬ (C (s + 1) < C (bestS C s)) from h2)]
    exact ⟨e, by show C (bestS C (s + 1)) = C (bestS C s); rw [e]⟩
def upA (l : List Int) (lead h b : Int) : Int := if bestOk l lead h b then (bestUp l lead h b : Int) else 0
def upV (l : List Int) (lead h b : Int) : Int := if bestOk l lead h b then upC (needA l lead) h b (bestUp l lead h b) else 0
theorem best_parts {l : List Int} {lead h b : Int} (hg : bestOk l lead h b = true) : leadOk l lead = true ∧ (0 ≤ h ∧ h ≤ 9) ∧ (0 ≤ b ∧ b ≤ 9) := by
  simp only [bestOk, Bool.and_eq_true, inF_iff] at hg
  exact hg
theorem need_bd {l : List Int} {lead : Int} (hg : leadOk l lead = true) : (needA l lead).length ≤ 20 ∧ ∀ x ∈ needA l lead, 0 ≤ x ∧ x ≤ 100 := by
  unfold needA
  rw [if_pos hg]
  simp only [leadOk, Bool.and_eq_true, inF_iff] at hg
  obtain ⟨h20, hall⟩ := asked_bd hg.1
  exact ⟨by rw [needL_len]; omega, needL_bd hall (by omega) _⟩
theorem sub_at {N : List Int} {s : Int} {i : Nat} (h : i < N.length) : (N.map (fun x => s - x)).getD i 0 = s - N.getD i 0 := by
  simp [List.getD_eq_getElem?_getD, h]
theorem sub_bd {N : List Int} (hN : ∀ x ∈ N, 0 ≤ x ∧ x ≤ 100) {s : Nat} (hs : s ≤ 200) : ∀ x ∈ N.map (fun x => (s : Int) - x), -10000 ≤ x ∧ x ≤ 10000 := fun x hx => by
  obtain ⟨y, hy, rfl⟩ := List.mem_map.1 hx
  have := hN y hy
  omega
theorem specBestUpTo_rc (m : Mem) (v : Value) (l : List Int) (lead h b : Int) (hl : IntsA m v l) :
    RC Try.prog 48 [v, .int .i64 lead, .int .i64 h, .int .i64 b] m (AnsV (.tuple #[.int .i64 (upA l lead h b), .int .i64 (upV l lead h b), .bool (bestOk l lead h b)])) := by
  refine rc_of_run mixed ok_spec_BestUpTo (by simp) (go_start _ _ _ ?_)
  have hr := hl.ro
  have no : bestOk l lead h b = false → newQ m (AnsV (.tuple #[.int .i64 (upA l lead h b), .int .i64 (upV l lead h b), .bool (bestOk l lead h b)])) (.tuple #[.int .i64 0, .int .i64 0, .bool false]) (roM m) := fun e => newQ_nil ⟨by simp [upA, upV, e], noRo_nil⟩
  simp (config := {implicitDefEqProofs := false, maxDischargeDepth := 20}) (disch := first | omega | (simp only [lenE]; done) | (simp only [lenE]; omega) | rfl | (simp only [lenE, markR_len]; done) | (simp only [lenE, markR_len]; omega)) only [runE, mapE, listE, initT_5, initT_6, initT_7, initT_8, resV, oneV, binA, unA, reduceCtorEq, Nat.reduceEqDiff, Nat.reduceAdd, Nat.reduceLT, Nat.reduceLeDiff, Nat.reduceMul, Nat.reduceSub, ↓reduceIte, decide_true, decide_false, Bool.true_eq_false, Bool.false_eq_true, Bool.not_true, Bool.not_false, if_true, if_false, and_true, true_and, memE, celE, w64, Nat.zero_add, Nat.add_zero, Nat.mul_one, putL, and_self, ldn, c_spec_BestUpTo, r_spec_BestUpTo]
  refine callH_rc (l11Asked_rc _ v l lead hr) ?_
  rintro r n1 ⟨rfl, rfl⟩
  rw [List.append_nil]
  cases hg : leadOk l lead with
  | false =>
    simp (config := {implicitDefEqProofs := false, maxDischargeDepth := 20}) (disch := first | omega | (simp only [lenE]; done) | (simp only [lenE]; omega) | rfl | (simp only [lenE, markR_len]; done) | (simp only [lenE, markR_len]; omega)) only [runE, mapE, listE, initT_5, initT_6, initT_7, initT_8, resV, oneV, binA, unA, reduceCtorEq, Nat.reduceEqDiff, Nat.reduceAdd, Nat.reduceLT, Nat.reduceLeDiff, Nat.reduceMul, Nat.reduceSub, ↓reduceIte, decide_true, decide_false, Bool.true_eq_false, Bool.false_eq_true, Bool.not_true, Bool.not_false, if_true, if_false, and_true, true_and, memE, celE, w64, Nat.zero_add, Nat.add_zero, Nat.mul_one, putL, and_self, ldn]
    exact no (by simp [bestOk, hg])
  | true =>
    simp (config := {implicitDefEqProofs := false, maxDischargeDepth := 20}) (disch := first | omega | (simp only [lenE]; done) | (simp only [lenE]; omega) | rfl | (simp only [lenE, markR_len]; done) | (simp only [lenE, markR_len]; omega)) only [runE, mapE, listE, initT_5, initT_6, initT_7, initT_8, resV, oneV, binA, unA, reduceCtorEq, Nat.reduceEqDiff, Nat.reduceAdd, Nat.reduceLT, Nat.reduceLeDiff, Nat.reduceMul, Nat.reduceSub, ↓reduceIte, decide_true, decide_false, Bool.true_eq_false, Bool.false_eq_true, Bool.not_true, Bool.not_false, if_true, if_false, and_true, true_and, memE, celE, w64, Nat.zero_add, Nat.add_zero, Nat.mul_one, putL, and_self, ldn]
    refine callH_rc (l11Rates_rc _ h b) ?_
    rintro r n2 ⟨rfl, rfl⟩
    rw [List.append_nil]
    cases hq : (inF 9 h && inF 9 b) with
    | false =>
      simp (config := {implicitDefEqProofs := false, maxDischargeDepth := 20}) (disch := first | omega | (simp only [lenE]; done) | (simp only [lenE]; omega) | rfl | (simp only [lenE, markR_len]; done) | (simp only [lenE, markR_len]; omega)) only [runE, mapE, listE, initT_5, initT_6, initT_7, initT_8, resV, oneV, binA, unA, reduceCtorEq, Nat.reduceEqDiff, Nat.reduceAdd, Nat.reduceLT, Nat.reduceLeDiff, Nat.reduceMul, Nat.reduceSub, ↓reduceIte, decide_true, decide_false, Bool.true_eq_false, Bool.false_eq_true, Bool.not_true, Bool.not_false, if_true, if_false, and_true, true_and, memE, celE, w64, Nat.zero_add, Nat.add_zero, Nat.mul_one, putL, and_self, ldn]
      exact no (by unfold bestOk; rw [hq, Bool.and_false])
    | true =>
      have hok : bestOk l lead h b = true := by unfold bestOk; rw [hg, hq]; rfl
      obtain ⟨-, hh, hb⟩ := best_parts hok
      obtain ⟨n20, nbd⟩ := need_bd hg
      have hg' := hg
      simp only [leadOk, Bool.and_eq_true, inF_iff] at hg'
      simp (config := {implicitDefEqProofs := false, maxDischargeDepth := 20}) (disch := first | omega | (simp only [lenE]; done) | (simp only [lenE]; omega) | rfl | (simp only [lenE, markR_len]; done) | (simp only [lenE, markR_len]; omega)) only [runE, mapE, listE, initT_5, initT_6, initT_7, initT_8, resV, oneV, binA, unA, reduceCtorEq, Nat.reduceEqDiff, Nat.reduceAdd, Nat.reduceLT, Nat.reduceLeDiff, Nat.reduceMul, Nat.reduceSub, ↓reduceIte, decide_true, decide_false, Bool.true_eq_false, Bool.false_eq_true, Bool.not_true, Bool.not_false, if_true, if_false, and_true, true_and, memE, celE, w64, Nat.zero_add, Nat.add_zero, Nat.mul_one, putL, and_self, ldn]
      refine callH_rc (l11Needs_rc _ v l lead.toNat lead (by omega) hr hg'.1 (by omega)) ?_
      intro r n3 hA
      obtain ⟨id, fl, rfl, hid, hown, hle, hn3⟩ := hA.row
      have eN : needL l lead.toNat (l.length - lead.toNat) = needA l lead := by unfold needA; rw [if_pos hg]
      rw [eN] at hown ⊢
      have hX := (Ext.refl m).app hn3
      obtain ⟨M, hM⟩ : ∃ M, M = roM m ++ n3 := ⟨_, rfl⟩
      rw [← hM] at hown hX ⊢
      clear hM
      have eA : upA l lead h b = (bestS (upC (needA l lead) h b) 200 : Nat) := by unfold upA; rw [if_pos hok]; rfl
      have eV : upV l lead h b = upC (needA l lead) h b (bestS (upC (needA l lead) h b) 200) := by unfold upV; rw [if_pos hok]; rfl
      rw [eA, eV, hok]
      obtain ⟨N, hN⟩ : ∃ N, N = needA l lead := ⟨_, rfl⟩
      rw [← hN] at hown n20 nbd ⊢
      clear hN eN eA eV
      obtain ⟨C, hC⟩ : ∃ C, C = upC N h b := ⟨_, rfl⟩
      rw [← hC]
      have hi := hown.ints (by omega) fl
      have cb : ∀ (s : Nat), s ≤ 200 → 0 ≤ C s ∧ C s ≤ 100000 := fun s hs => by rw [hC]; exact upC_bd nbd n20 hh hb hs _ n20
      have lb : ∀ (s : Nat), s ≤ 201 → -1 ≤ lw C s ∧ lw C s ≤ 100000 := fun s hs => by
        cases s with
        | zero => simp [lw]
        | succ s =>
          have h1 := (bestS_le C s).1
          have := cb (bestS C s) (by omega)
          simp only [lw]; omega
      simp (config := {implicitDefEqProofs := false, maxDischargeDepth := 20}) (disch := first | omega | (simp only [lenE]; done) | (simp only [lenE]; omega) | rfl | (simp only [lenE, markR_len]; done) | (simp only [lenE, markR_len]; omega)) only [runE, mapE, listE, initT_5, initT_6, initT_7, initT_8, resV, oneV, binA, unA, reduceCtorEq, Nat.reduceEqDiff, Nat.reduceAdd, Nat.reduceLT, Nat.reduceLeDiff, Nat.reduceMul, Nat.reduceSub, ↓reduceIte, decide_true, decide_false, Bool.true_eq_false, Bool.false_eq_true, Bool.not_true, Bool.not_false, if_true, if_false, and_true, true_and, memE, celE, w64, Nat.zero_add, Nat.add_zero, Nat.mul_one, putL, and_self, ldn]
      refine loop_inv mixed (fun st => ∃ s : Nat, s ≤ 201 ∧ st.m = M ∧ st.t 2 = .int .i64 h ∧ st.t 3 = .int .i64 b ∧ st.t 11 = .slice (some ⟨id, 0, none⟩) N.length fl ∧ st.t 12 = .int .i64 (bw C s : Nat) ∧ st.t 13 = .int .i64 (lw C s) ∧ st.t 14 = .int .i64 s) (fun st => 201 - (zOf (st.t 14)).toNat)
        ⟨0, by omega, rfl, rfl, rfl, rfl, rfl, rfl, rfl⟩ ?_
      rintro st ⟨s, hs, tm, t2, t3, t11, t12, t13, t14⟩
      by_cases hlt : s ≤ 200
      · have hlt' : (s : Int) ≤ 200 := by omega
        have hcs : C s = scosts h b (N.map (fun x => (s : Int) - x)) N.length := by rw [hC]; rfl
        simp (config := {implicitDefEqProofs := false, maxDischargeDepth := 20}) (disch := first | omega | (simp only [lenE]; done) | (simp only [lenE]; omega) | rfl | (simp only [lenE, markR_len]; done) | (simp only [lenE, markR_len]; omega)) only [runE, mapE, listE, initT_5, initT_6, initT_7, initT_8, resV, oneV, binA, unA, reduceCtorEq, Nat.reduceEqDiff, Nat.reduceAdd, Nat.reduceLT, Nat.reduceLeDiff, Nat.reduceMul, Nat.reduceSub, ↓reduceIte, decide_true, decide_false, Bool.true_eq_false, Bool.false_eq_true, Bool.not_true, Bool.not_false, if_true, if_false, and_true, true_and, memE, celE, w64, Nat.zero_add, Nat.add_zero, Nat.mul_one, putL, and_self, ldn, tm, t2, t3, t11, t12, t13, t14, hlt']
        refine loop_inv mixed (fun st => ∃ k : Nat, k ≤ N.length ∧ st.m = M ∧ st.t 2 = .int .i64 h ∧ st.t 3 = .int .i64 b ∧ st.t 11 = .slice (some ⟨id, 0, none⟩) N.length fl ∧ st.t 12 = .int .i64 (bw C s : Nat) ∧ st.t 13 = .int .i64 (lw C s) ∧ st.t 14 = .int .i64 s ∧ st.t 15 = .int .i64 (scosts h b (N.map (fun x => (s : Int) - x)) k) ∧ st.t 16 = .int .i64 k) (fun st => N.length - (zOf (st.t 16)).toNat)
          ⟨0, by omega, tm, t2, t3, t11, t12, t13, t14, rfl, rfl⟩ ?_
        rintro st ⟨k, hk, tm, t2, t3, t11, t12, t13, t14, t15, t16⟩
        by_cases hkl : k < N.length
        · have hkl' : (k : Int) < N.length := by omega
          have xb := nbd _ (getD_mem hkl)
          have b1 := upC_bd nbd n20 hh hb hlt k (by omega)
          have b2 := scost_bd (h := h) (b := b) (x := (s : Int) - N.getD k 0) (B := 300) hh hb (by omega)
          have hstep := scosts_s (h := h) (b := b) (l := N.map (fun x => (s : Int) - x)) (k := k) (by simpa using hkl)
          rw [sub_at hkl] at hstep
          simp (config := {implicitDefEqProofs := false, maxDischargeDepth := 20}) (disch := first | omega | (simp only [lenE]; done) | (simp only [lenE]; omega) | rfl | (simp only [lenE, markR_len]; done) | (simp only [lenE, markR_len]; omega)) only [runE, mapE, listE, initT_5, initT_6, initT_7, initT_8, resV, oneV, binA, unA, reduceCtorEq, Nat.reduceEqDiff, Nat.reduceAdd, Nat.reduceLT, Nat.reduceLeDiff, Nat.reduceMul, Nat.reduceSub, ↓reduceIte, decide_true, decide_false, Bool.true_eq_false, Bool.false_eq_true, Bool.not_true, Bool.not_false, if_true, if_false, and_true, true_and, memE, celE, w64, Nat.zero_add, Nat.add_zero, Nat.mul_one, putL, and_self, ldn, tm, t2, t3, t11, t14, t15, t16, hkl', hi.at_ k hkl, hi.ld k hkl]
          refine callH_rc (l11Cost_rc _ _ h b hh hb (by omega)) ?_
          rintro r n4 ⟨rfl, rfl⟩
          rw [List.append_nil]
          simp (config := {implicitDefEqProofs := false, maxDischargeDepth := 20}) (disch := first | omega | (simp only [lenE]; done) | (simp only [lenE]; omega) | rfl | (simp only [lenE, markR_len]; done) | (simp only [lenE, markR_len]; omega)) only [runE, mapE, listE, initT_5, initT_6, initT_7, initT_8, resV, oneV, binA, unA, reduceCtorEq, Nat.reduceEqDiff, Nat.reduceAdd, Nat.reduceLT, Nat.reduceLeDiff, Nat.reduceMul, Nat.reduceSub, ↓reduceIte, decide_true, decide_false, Bool.true_eq_false, Bool.false_eq_true, Bool.not_true, Bool.not_false, if_true, if_false, and_true, true_and, memE, celE, w64, Nat.zero_add, Nat.add_zero, Nat.mul_one, putL, and_self, ldn, tm, t2, t3, t11, t14, t15, t16]
          refine ⟨⟨k + 1, by omega, t12, t13, by rw [hstep], by simp⟩, ?_⟩
          simp [zOf]; omega
        · have hkl' : ¬ ((k : Int) < N.length) := by omega
          obtain rfl : k = N.length := by omega
          rw [← hcs] at t15
          have lbs := lb s (by omega)
          have cbs := cb s hlt
          by_cases h1 : lw C s < 0
          · obtain ⟨e1, e2⟩ := bw_step (fun j hj => (cb j (by omega)).1) (.inl h1)
            simp (config := {implicitDefEqProofs := false, maxDischargeDepth := 20}) (disch := first | omega | (simp only [lenE]; done) | (simp only [lenE]; omega) | rfl | (simp only [lenE, markR_len]; done) | (simp only [lenE, markR_len]; omega)) only [runE, mapE, listE, initT_5, initT_6, initT_7, initT_8, resV, oneV, binA, unA, reduceCtorEq, Nat.reduceEqDiff, Nat.reduceAdd, Nat.reduceLT, Nat.reduceLeDiff, Nat.reduceMul, Nat.reduceSub, ↓reduceIte, decide_true, decide_false, Bool.true_eq_false, Bool.false_eq_true, Bool.not_true, Bool.not_false, if_true, if_false, and_true, true_and, memE, celE, w64, Nat.zero_add, Nat.add_zero, Nat.mul_one, putL, and_self, ldn, tm, t2, t3, t11, t12, t13, t14, t15, t16, hkl', h1]
            refine ⟨⟨s + 1, by omega, by rw [e1], by rw [e2], by simp⟩, ?_⟩
            simp [zOf]; omega
          · by_cases h2 : C s < lw C s
            · obtain ⟨e1, e2⟩ := bw_step (fun j hj => (cb j (by omega)).1) (.inr h2)
              simp (config := {implicitDefEqProofs := false, maxDischargeDepth := 20}) (disch := first | omega | (simp only [lenE]; done) | (simp only [lenE]; omega) | rfl | (simp only [lenE, markR_len]; done) | (simp only [lenE, markR_len]; omega)) only [runE, mapE, listE, initT_5, initT_6, initT_7, initT_8, resV, oneV, binA, unA, reduceCtorEq, Nat.reduceEqDiff, Nat.reduceAdd, Nat.reduceLT, Nat.reduceLeDiff, Nat.reduceMul, Nat.reduceSub, ↓reduceIte, decide_true, decide_false, Bool.true_eq_false, Bool.false_eq_true, Bool.not_true, Bool.not_false, if_true, if_false, and_true, true_and, memE, celE, w64, Nat.zero_add, Nat.add_zero, Nat.mul_one, putL, and_self, ldn, tm, t2, t3, t11, t12, t13, t14, t15, t16, hkl', h1, h2]
              refine ⟨⟨s + 1, by omega, by rw [e1], by rw [e2], by simp⟩, ?_⟩
              simp [zOf]; omega
            · obtain ⟨e1, e2⟩ := bw_stay h1 h2
              simp (config := {implicitDefEqProofs := false, maxDischargeDepth := 20}) (disch := first | omega | (simp only [lenE]; done) | (simp only [lenE]; omega) | rfl | (simp only [lenE, markR_len]; done) | (simp only [lenE, markR_len]; omega)) only [runE, mapE, listE, initT_5, initT_6, initT_7, initT_8, resV, oneV, binA, unA, reduceCtorEq, Nat.reduceEqDiff, Nat.reduceAdd, Nat.reduceLT, Nat.reduceLeDiff, Nat.reduceMul, Nat.reduceSub, ↓reduceIte, decide_true, decide_false, Bool.true_eq_false, Bool.false_eq_true, Bool.not_true, Bool.not_false, if_true, if_false, and_true, true_and, memE, celE, w64, Nat.zero_add, Nat.add_zero, Nat.mul_one, putL, and_self, ldn, tm, t2, t3, t11, t12, t13, t14, t15, t16, hkl', h1, h2]
              refine ⟨⟨s + 1, by omega, by rw [e1], by rw [e2], by simp⟩, ?_⟩
              simp [zOf]; omega
      · have hlt' : ¬ ((s : Int) ≤ 200) := by omega
        obtain rfl : s = 201 := by omega
        simp (config := {implicitDefEqProofs := false, maxDischargeDepth := 20}) (disch := first | omega | (simp only [lenE]; done) | (simp only [lenE]; omega) | rfl | (simp only [lenE, markR_len]; done) | (simp only [lenE, markR_len]; omega)) only [runE, mapE, listE, initT_5, initT_6, initT_7, initT_8, resV, oneV, binA, unA, reduceCtorEq, Nat.reduceEqDiff, Nat.reduceAdd, Nat.reduceLT, Nat.reduceLeDiff, Nat.reduceMul, Nat.reduceSub, ↓reduceIte, decide_true, decide_false, Bool.true_eq_false, Bool.false_eq_true, Bool.not_true, Bool.not_false, if_true, if_false, and_true, true_and, memE, celE, w64, Nat.zero_add, Nat.add_zero, Nat.mul_one, putL, and_self, ldn, tm, t2, t3, t11, t12, t13, t14, hlt']
        exact ext_ansV hX rfl
theorem map_sub (N : List Int) (s : Int) : (N.map (Value.int .i64)).map (fun v => s - zOf v) = N.map (fun x => s - x) := by
  rw [List.map_map]; rfl
theorem implBestUpTo_rc (m : Mem) (v : Value) (l : List Int) (lead h b : Int) (hl : IntsA m v l) :
    RC Try.prog 49 [v, .int .i64 lead, .int .i64 h, .int .i64 b] m (AnsV (.tuple #[.int .i64 (upA l lead h b), .int .i64 (upV l lead h b), .bool (bestOk l lead h b)])) := by
  refine rc_of_run mixed ok_impl_BestUpTo (by simp) (go_start _ _ _ ?_)
  have hr := hl.ro
  have no : ∀ M, Ext m M → bestOk l lead h b = false → newQ m (AnsV (.tuple #[.int .i64 (upA l lead h b), .int .i64 (upV l lead h b), .bool (bestOk l lead h b)])) (.tuple #[.int .i64 0, .int .i64 0, .bool false]) M := fun M hM e => ext_ansV hM (by simp [upA, upV, e])
  simp (config := {implicitDefEqProofs := false, maxDischargeDepth := 20}) (disch := first | omega | (simp only [lenE]; done) | (simp only [lenE]; omega) | rfl | (simp only [lenE, markR_len]; done) | (simp only [lenE, markR_len]; omega)) only [runE, mapE, listE, initT_5, initT_6, initT_7, initT_8, resV, oneV, binA, unA, reduceCtorEq, Nat.reduceEqDiff, Nat.reduceAdd, Nat.reduceLT, Nat.reduceLeDiff, Nat.reduceMul, Nat.reduceSub, ↓reduceIte, decide_true, decide_false, Bool.true_eq_false, Bool.false_eq_true, Bool.not_true, Bool.not_false, if_true, if_false, and_true, true_and, memE, celE, w64, Nat.zero_add, Nat.add_zero, Nat.mul_one, putL, and_self, ldn, c_impl_BestUpTo, r_impl_BestUpTo]
  refine callH_rc (implLeadNeeds_rc _ v l lead hr) ?_
  intro r n1 hA
  obtain ⟨nid, fl, rfl, hnid, hnown, hnle, hn1⟩ := hA.row
  have hX := (Ext.refl m).app hn1
  obtain ⟨M0, hM0⟩ : ∃ M0, M0 = roM m ++ n1 := ⟨_, rfl⟩
  rw [← hM0] at hnown hX ⊢
  clear hM0
  cases hg : leadOk l lead with
  | false =>
    simp (config := {implicitDefEqProofs := false, maxDischargeDepth := 20}) (disch := first | omega | (simp only [lenE]; done) | (simp only [lenE]; omega) | rfl | (simp only [lenE, markR_len]; done) | (simp only [lenE, markR_len]; omega)) only [runE, mapE, listE, initT_5, initT_6, initT_7, initT_8, resV, oneV, binA, unA, reduceCtorEq, Nat.reduceEqDiff, Nat.reduceAdd, Nat.reduceLT, Nat.reduceLeDiff, Nat.reduceMul, Nat.reduceSub, ↓reduceIte, decide_true, decide_false, Bool.true_eq_false, Bool.false_eq_true, Bool.not_true, Bool.not_false, if_true, if_false, and_true, true_and, memE, celE, w64, Nat.zero_add, Nat.add_zero, Nat.mul_one, putL, and_self, ldn, ext_2_0, ext_2_1]
    exact no _ hX (by simp [bestOk, hg])
  | true =>
    simp (config := {implicitDefEqProofs := false, maxDischargeDepth := 20}) (disch := first | omega | (simp only [lenE]; done) | (simp only [lenE]; omega) | rfl | (simp only [lenE, markR_len]; done) | (simp only [lenE, markR_len]; omega)) only [runE, mapE, listE, initT_5, initT_6, initT_7, initT_8, resV, oneV, binA, unA, reduceCtorEq, Nat.reduceEqDiff, Nat.reduceAdd, Nat.reduceLT, Nat.reduceLeDiff, Nat.reduceMul, Nat.reduceSub, ↓reduceIte, decide_true, decide_false, Bool.true_eq_false, Bool.false_eq_true, Bool.not_true, Bool.not_false, if_true, if_false, and_true, true_and, memE, celE, w64, Nat.zero_add, Nat.add_zero, Nat.mul_one, putL, and_self, ldn, ext_2_0, ext_2_1]
    refine callH_rc (rates_rc _ h b) ?_
    rintro r n2 ⟨rfl, rfl⟩
    rw [List.append_nil]
    cases hq : (inF 9 h && inF 9 b) with
    | false =>
      simp (config := {implicitDefEqProofs := false, maxDischargeDepth := 20}) (disch := first | omega | (simp only [lenE]; done) | (simp only [lenE]; omega) | rfl | (simp only [lenE, markR_len]; done) | (simp only [lenE, markR_len]; omega)) only [runE, mapE, listE, initT_5, initT_6, initT_7, initT_8, resV, oneV, binA, unA, reduceCtorEq, Nat.reduceEqDiff, Nat.reduceAdd, Nat.reduceLT, Nat.reduceLeDiff, Nat.reduceMul, Nat.reduceSub, ↓reduceIte, decide_true, decide_false, Bool.true_eq_false, Bool.false_eq_true, Bool.not_true, Bool.not_false, if_true, if_false, and_true, true_and, memE, celE, w64, Nat.zero_add, Nat.add_zero, Nat.mul_one, putL, and_self, ldn]
      exact no _ hX (by unfold bestOk; rw [hq, Bool.and_false])
    | true =>
      have hok : bestOk l lead h b = true := by unfold bestOk; rw [hg, hq]; rfl
      obtain ⟨-, hh, hb⟩ := best_parts hok
      obtain ⟨n20, nbd⟩ := need_bd hg
      have eA : upA l lead h b = (bestS (upC (needA l lead) h b) 200 : Nat) := by unfold upA; rw [if_pos hok]; rfl
      have eV : upV l lead h b = upC (needA l lead) h b (bestS (upC (needA l lead) h b) 200) := by unfold upV; rw [if_pos hok]; rfl
      rw [eA, eV, hok]
      obtain ⟨N, hN⟩ : ∃ N, N = needA l lead := ⟨_, rfl⟩
      rw [← hN] at hnown n20 nbd ⊢
      clear hN eA eV
      obtain ⟨C, hC⟩ : ∃ C, C = upC N h b := ⟨_, rfl⟩
      rw [← hC]
      have hlid := hnown.lt
      simp (config := {implicitDefEqProofs := false, maxDischargeDepth := 20}) (disch := first | omega | (simp only [lenE]; done) | (simp only [lenE]; omega) | rfl | (simp only [lenE, markR_len]; done) | (simp only [lenE, markR_len]; omega)) only [runE, mapE, listE, initT_5, initT_6, initT_7, initT_8, resV, oneV, binA, unA, reduceCtorEq, Nat.reduceEqDiff, Nat.reduceAdd, Nat.reduceLT, Nat.reduceLeDiff, Nat.reduceMul, Nat.reduceSub, ↓reduceIte, decide_true, decide_false, Bool.true_eq_false, Bool.false_eq_true, Bool.not_true, Bool.not_false, if_true, if_false, and_true, true_and, memE, celE, w64, Nat.zero_add, Nat.add_zero, Nat.mul_one, putL, and_self, ldn, bsl_none]
      refine loop_inv mixed (fun st => ∃ (s : Nat) (M : Mem) (id : Nat), s ≤ 201 ∧ st.m = M ∧ Ext m M ∧ m.length ≤ id ∧ nid ≠ id ∧ OwnR M nid N ∧ OwnR M id (upL C s) ∧ st.t 2 = .int .i64 h ∧ st.t 3 = .int .i64 b ∧ st.t 11 = .slice (some ⟨nid, 0, none⟩) N.length fl ∧ st.t 13 = .slice (some ⟨id, 0, none⟩) s 1 ∧ st.t 32 = .int .i64 s) (fun st => 201 - (zOf (st.t 32)).toNat)
        ⟨0, _, M0.length, by omega, rfl, hX.one _ _, hX.len, by omega, hnown.ext _, OwnR.end' (l := []) rfl, rfl, rfl, rfl, rfl, rfl⟩ ?_
      rintro st ⟨s, M, id, hs, tm, hx, hid, hne, hno, ho, t2, t3, t11, t13, t32⟩
      by_cases hlt : s < 201
      · have hlt' : (s : Int) < 201 := by omega
        have hcs : C s = scosts h b (N.map (fun x => (s : Int) - x)) N.length := by rw [hC]; rfl
        simp (config := {implicitDefEqProofs := false, maxDischargeDepth := 20}) (disch := first | omega | (simp only [lenE]; done) | (simp only [lenE]; omega) | rfl | (simp only [lenE, markR_len]; done) | (simp only [lenE, markR_len]; omega)) only [runE, mapE, listE, initT_5, initT_6, initT_7, initT_8, resV, oneV, binA, unA, reduceCtorEq, Nat.reduceEqDiff, Nat.reduceAdd, Nat.reduceLT, Nat.reduceLeDiff, Nat.reduceMul, Nat.reduceSub, ↓reduceIte, decide_true, decide_false, Bool.true_eq_false, Bool.false_eq_true, Bool.not_true, Bool.not_false, if_true, if_false, and_true, true_and, memE, celE, w64, Nat.zero_add, Nat.add_zero, Nat.mul_one, putL, and_self, ldn, tm, t2, t3, t11, t13, t32, hlt']
        obtain ⟨E, hE⟩ : ∃ E, E = M ++ [⟨.own, 3, [.int .i64 s]⟩] := ⟨_, rfl⟩
        have b1 : OwnB E M.length 3 [.int .i64 s] := by rw [hE]; exact OwnB.here rfl
        have hxE : Ext m E := by rw [hE]; exact hx.one _ _
        have hnoE : OwnR E nid N := by rw [hE]; exact hno.ext _
        have hoE : OwnR E id (upL C s) := by rw [hE]; exact ho.ext _
        have LE : E.length = M.length + 1 := by rw [hE]; simp
        try rw [← hE]
        clear hE
        refine callH_rc (eachI_rc _ _ _ _ (fun v => (s : Int) - zOf v) (hnoE.ints (by omega) fl).el ⟨_, _, rfl, fun M2 hM2 x hx2 => ?_⟩ (by rw [List.length_map]; omega)) ?_
        · obtain ⟨z, hz, rfl⟩ := List.mem_map.1 hx2
          have zb := nbd z hz
          have r1 : rdc (roM M2) M.length 0 = some (.int .i64 s) := by rw [rdc_roM]; refine hM2.1 _ _ _ ?_; rw [b1.rd]; rfl
          refine rc_of_run mixed ok_impl_BestUpTo_1 (by simp) (go_start _ _ _ ?_)
          simp (config := {implicitDefEqProofs := false, maxDischargeDepth := 20}) (disch := first | omega | (simp only [lenE]; done) | (simp only [lenE]; omega) | rfl | (simp only [lenE, markR_len]; done) | (simp only [lenE, markR_len]; omega)) only [runE, mapE, listE, initT_5, initT_6, initT_7, initT_8, resV, oneV, binA, unA, reduceCtorEq, Nat.reduceEqDiff, Nat.reduceAdd, Nat.reduceLT, Nat.reduceLeDiff, Nat.reduceMul, Nat.reduceSub, ↓reduceIte, decide_true, decide_false, Bool.true_eq_false, Bool.false_eq_true, Bool.not_true, Bool.not_false, if_true, if_false, and_true, true_and, memE, celE, w64, Nat.zero_add, Nat.add_zero, Nat.mul_one, putL, and_self, ldn, c_impl_BestUpTo_1, r_impl_BestUpTo_1, r1]
          exact newQ_nil ⟨by simp only [zOf], noRo_nil⟩
        · intro r n3 hA3
          obtain ⟨i3, f3, rfl, hi3, ho3, hl3, hn3⟩ := hA3.row
          rw [map_sub] at ho3 hl3
          simp only [map_sub, List.length_map] at ho3 hl3 ⊢
          obtain ⟨E2, hE2⟩ : ∃ E2, E2 = E ++ n3 := ⟨_, rfl⟩
          have hxE2 : Ext m E2 := by rw [hE2]; exact hxE.app hn3
          have hnoE2 : OwnR E2 nid N := by rw [hE2]; exact hnoE.ext _
          have hoE2 : OwnR E2 id (upL C s) := by rw [hE2]; exact hoE.ext _
          rw [← hE2] at ho3 ⊢
          clear hE2
          simp (config := {implicitDefEqProofs := false, maxDischargeDepth := 20}) (disch := first | omega | (simp only [lenE]; done) | (simp only [lenE]; omega) | rfl | (simp only [lenE, markR_len]; done) | (simp only [lenE, markR_len]; omega)) only [runE, mapE, listE, initT_5, initT_6, initT_7, initT_8, resV, oneV, binA, unA, reduceCtorEq, Nat.reduceEqDiff, Nat.reduceAdd, Nat.reduceLT, Nat.reduceLeDiff, Nat.reduceMul, Nat.reduceSub, ↓reduceIte, decide_true, decide_false, Bool.true_eq_false, Bool.false_eq_true, Bool.not_true, Bool.not_false, if_true, if_false, and_true, true_and, memE, celE, w64, Nat.zero_add, Nat.add_zero, Nat.mul_one, putL, and_self, ldn, t2, t3, t11, t13, t32]
          have hi := ho3.ints (by rw [List.length_map]; omega) f3
          rw [List.length_map] at hi
          refine callH_rc (stockCost_rc _ _ _ h b hi hh hb (sub_bd nbd (by omega)) (by rw [List.length_map]; omega)) ?_
          rintro r n4 ⟨rfl, hn4⟩
          rw [List.length_map, ← hcs]
          obtain ⟨E3, hE3⟩ : ∃ E3, E3 = E2 ++ n4 := ⟨_, rfl⟩
          have hxE3 : Ext m E3 := by rw [hE3]; exact hxE2.app hn4
          have hnoE3 : OwnR E3 nid N := by rw [hE3]; exact hnoE2.ext _
          have hoE3 : OwnR E3 id (upL C s) := by rw [hE3]; exact hoE2.ext _
          rw [← hE3]
          clear hE3
          have ha := app_num (x := C s) (id2 := E3.length) (n := s) hoE3 (by rw [upL_len]; omega) rfl (by rw [upL_len])
          simp (config := {implicitDefEqProofs := false, maxDischargeDepth := 20}) (disch := first | omega | (simp only [lenE]; done) | (simp only [lenE]; omega) | rfl | (simp only [lenE, markR_len]; done) | (simp only [lenE, markR_len]; omega)) only [runE, mapE, listE, initT_5, initT_6, initT_7, initT_8, resV, oneV, binA, unA, reduceCtorEq, Nat.reduceEqDiff, Nat.reduceAdd, Nat.reduceLT, Nat.reduceLeDiff, Nat.reduceMul, Nat.reduceSub, ↓reduceIte, decide_true, decide_false, Bool.true_eq_false, Bool.false_eq_true, Bool.not_true, Bool.not_false, if_true, if_false, and_true, true_and, memE, celE, w64, Nat.zero_add, Nat.add_zero, Nat.mul_one, putL, and_self, ldn, t2, t3, t11, t13, t32, bsl_one, ha]
          have hl1 := hnoE3.lt
          refine ⟨⟨s + 1, _, E3.length + 1, by omega, rfl, ((hxE3.dead hid).one _ _).one _ _, by have := hxE3.len; omega, by omega, ((hnoE3.dead (Ne.symm hne)).ext _).ext _, ?_, rfl, by simp⟩, ?_⟩
          · rw [upL_s]
            exact OwnR.end' (by simp)
          · simp [zOf]; omega
      · have hlt' : ¬ ((s : Int) < 201) := by omega
        obtain rfl : s = 201 := by omega
        simp (config := {implicitDefEqProofs := false, maxDischargeDepth := 20}) (disch := first | omega | (simp only [lenE]; done) | (simp only [lenE]; omega) | rfl | (simp only [lenE, markR_len]; done) | (simp only [lenE, markR_len]; omega)) only [runE, mapE, listE, initT_5, initT_6, initT_7, initT_8, resV, oneV, binA, unA, reduceCtorEq, Nat.reduceEqDiff, Nat.reduceAdd, Nat.reduceLT, Nat.reduceLeDiff, Nat.reduceMul, Nat.reduceSub, ↓reduceIte, decide_true, decide_false, Bool.true_eq_false, Bool.false_eq_true, Bool.not_true, Bool.not_false, if_true, if_false, and_true, true_and, memE, celE, w64, Nat.zero_add, Nat.add_zero, Nat.mul_one, putL, and_self, ldn, tm, t2, t3, t11, t13, t32, hlt']
        have hi := ho.ints (by rw [upL_len]; omega) 1
        rw [upL_len] at hi
        refine callH_rc (min11_rc _ _ C 200 hi) ?_
        rintro r n5 ⟨rfl, rfl⟩
        rw [List.append_nil]
        simp (config := {implicitDefEqProofs := false, maxDischargeDepth := 20}) (disch := first | omega | (simp only [lenE]; done) | (simp only [lenE]; omega) | rfl | (simp only [lenE, markR_len]; done) | (simp only [lenE, markR_len]; omega)) only [runE, mapE, listE, initT_5, initT_6, initT_7, initT_8, resV, oneV, binA, unA, reduceCtorEq, Nat.reduceEqDiff, Nat.reduceAdd, Nat.reduceLT, Nat.reduceLeDiff, Nat.reduceMul, Nat.reduceSub, ↓reduceIte, decide_true, decide_false, Bool.true_eq_false, Bool.false_eq_true, Bool.not_true, Bool.not_false, if_true, if_false, and_true, true_and, memE, celE, w64, Nat.zero_add, Nat.add_zero, Nat.mul_one, putL, and_self, ldn, tm, t2, t3, t11, t13, t32]
        obtain ⟨p1, p2, p3⟩ := bestS_le C 200
        refine callH_rc (idx11_rc _ _ (upL C 201) (bestS C 200) _ hi (by rw [upL_len]; omega) (by rw [upL_at (by omega)]) fun j hj => ?_) ?_
        · rw [upL_at (by omega), upL_at (by omega)]
          have := p3 j hj
          omega
        · rintro r n6 ⟨rfl, rfl⟩
          rw [List.append_nil]
          simp (config := {implicitDefEqProofs := false, maxDischargeDepth := 20}) (disch := first | omega | (simp only [lenE]; done) | (simp only [lenE]; omega) | rfl | (simp only [lenE, markR_len]; done) | (simp only [lenE, markR_len]; omega)) only [runE, mapE, listE, initT_5, initT_6, initT_7, initT_8, resV, oneV, binA, unA, reduceCtorEq, Nat.reduceEqDiff, Nat.reduceAdd, Nat.reduceLT, Nat.reduceLeDiff, Nat.reduceMul, Nat.reduceSub, ↓reduceIte, decide_true, decide_false, Bool.true_eq_false, Bool.false_eq_true, Bool.not_true, Bool.not_false, if_true, if_false, and_true, true_and, memE, celE, w64, Nat.zero_add, Nat.add_zero, Nat.mul_one, putL, and_self, ldn]
          exact ext_ansV hx rfl
end Go.Proofs.Ytnkbjliidenldaa.Ab
