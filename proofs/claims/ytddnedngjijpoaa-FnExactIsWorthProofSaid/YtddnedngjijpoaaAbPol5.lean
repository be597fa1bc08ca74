/- Policies: tables by moves that are chosen, from the last turn back. -/
import Derived.Test.YtddnedngjijpoaaAbPol4
namespace Go.Proofs.Ytddnedngjijpoaa.Ab
open Go Go.RowKit
set_option linter.unusedVariables false
set_option linter.unusedSimpArgs false

/-- A function value that chooses moves. -/
def ChooseA (M : Mem) (fv : Value) (p : Pr) (ch : Nat → List Int → Int → Int) : Prop :=
  ∃ g cap, fv = .func (.func g) #[] cap ∧ ∀ (t x : Int) (vn : Value) (next : List Int) (k : Nat), p.turns - t = (k : Int) + 1 → 0 ≤ t → k ≤ 4 → -10 ≤ x ∧ x ≤ 10 → IntsA M vn next → next.length = 21 → rowIn 30000000000000000 next →
    RC Try.prog g ([.int .i64 t, .int .i64 x, vn] ++ cap.toList) M (AnsV (moveV t x (ch k next x)))
/-- Choices that may be made, and lie above. -/
def Pr.okC (p : Pr) (ch : Nat → List Int → Int → Int) (N : Nat) : Prop := ∀ k next x, k < N → -10 ≤ x ∧ x ≤ 10 → p.may (ch k next x) ∧ x ≤ ch k next x
theorem Pr.okC.fair {p : Pr} {ch : Nat → List Int → Int → Int} {N : Nat} (h : Pr.okC p ch N) : p.fair ch N := fun k next x h1 h2 h3 => (h k next x h1 ⟨h2, h3⟩).1
theorem tableBy_rc (m : Mem) (v fv : Value) (p : Pr) (ch : Nat → List Int → Int → Int) (h : ProcA m v p) (hg : GoodP p) (hf : ∀ M, Ext m M → ChooseA M fv p ch) (hch : Pr.okC p ch p.turns.toNat) :
    RC Try.prog 69 [v, fv] m (AnsO m (TabO (p.tab ch p.turns.toNat)) id) := by
  refine rc_of_run mixed ok_impl_tableBy (by simp) (go_start _ _ _ ?_)
  obtain ⟨u, rfl, hu⟩ := h.ro
  obtain ⟨N, hN⟩ : ∃ N, N = p.turns.toNat := ⟨_, rfl⟩
  rw [← hN] at hch
  rw [← hN]
  have ht := hg.turns
  have hN5 : N ≤ 5 := by omega
  have hNt : p.turns = (N : Int) := by omega
  have hfair := hch.fair
  obtain ⟨g, cap, rfl, -⟩ := hf _ (Ext.refl m)
  have hm0 := OwnB.here (M := roM m ++ [⟨.own, 26, [.int .i64 p.turns, u, .int .i64 p.setup, .int .i64 p.unit, .int .i64 p.hold, .int .i64 p.back]⟩]) (id := m.length + 1) (e := 24) (cs := List.replicate (N + 1) (.slice none 0 0)) (by simp [roM_len])
  have hm1 := hm0.ext [⟨.own, 3, List.replicate 21 (.int .i64 0)⟩]
  have hst1 := hm1.st (off := N) (vs := [.slice (some ⟨m.length + 1 + 1, 0, none⟩) 21 1]) (by simp) rfl
  obtain ⟨M1, hM1⟩ : ∃ M' : Mem, M' = List.set (roM m ++ [⟨.own, 26, [.int .i64 p.turns, u, .int .i64 p.setup, .int .i64 p.unit, .int .i64 p.hold, .int .i64 p.back]⟩] ++ [⟨.own, 24, List.replicate (N + 1) (.slice none 0 0)⟩] ++ [⟨.own, 3, List.replicate 21 (.int .i64 0)⟩]) (m.length + 1) ⟨.own, 24, (List.replicate (N + 1) (.slice none 0 0)).set N (.slice (some ⟨m.length + 1 + 1, 0, none⟩) 21 1)⟩ := ⟨_, rfl⟩
  have hX1 : Ext m M1 := by rw [hM1]; exact ((((Ext.refl m).one _ _).one _ _).one _ _).put (id := m.length + 1) (by omega) _ _
  have hb1 : OwnB M1 m.length 26 [.int .i64 p.turns, u, .int .i64 p.setup, .int .i64 p.unit, .int .i64 p.hold, .int .i64 p.back] := by rw [hM1]; exact OwnB.set_ne (((OwnB.here (roM_len m).symm).ext _).ext _) (by omega) _
  have ht1 : OwnB M1 (m.length + 1) 24 ((List.replicate (N + 1) (.slice none 0 0)).set N (.slice (some ⟨m.length + 1 + 1, 0, none⟩) 21 1)) := by rw [hM1]; exact hm1.set_self _ _
  have hr1 : OwnR M1 (m.length + 1 + 1) (p.rowsN ch 0) := by
    rw [hM1]
    refine OwnR.set_ne ?_ (by omega)
    exact OwnR.zeros (m := roM m ++ [⟨.own, 26, [.int .i64 p.turns, u, .int .i64 p.setup, .int .i64 p.unit, .int .i64 p.hold, .int .i64 p.back]⟩] ++ [⟨.own, 24, List.replicate (N + 1) (.slice none 0 0)⟩]) (n := 21) (id := m.length + 1 + 1) (by simp [roM_len])
  have hl1 : M1.length = m.length + 3 := by rw [hM1]; simp [roM_len]
  simp (config := {implicitDefEqProofs := false, maxDischargeDepth := 20}) (disch := first | omega | (simp only [lenE]; done) | (simp only [lenE]; omega) | rfl | (simp only [lenE, markR_len]; done) | (simp only [lenE, markR_len]; omega)) only [runE, mapE, listE, initT_5, initT_6, initT_7, initT_8, resV, oneV, binA, unA, reduceCtorEq, Nat.reduceEqDiff, Nat.reduceAdd, Nat.reduceLT, Nat.reduceLeDiff, Nat.reduceMul, Nat.reduceSub, ↓reduceIte, decide_true, decide_false, Bool.true_eq_false, Bool.false_eq_true, Bool.not_true, Bool.not_false, if_true, if_false, and_true, true_and, memE, celE, w64, Nat.zero_add, Nat.add_zero, Nat.mul_one, putL, and_self, ldn, c_impl_tableBy, r_impl_tableBy, mksA_eq (byt := 24) (n := N + 1) (a := p.turns + 1) (by omega) (by omega), mksA_eq (byt := 8) (n := 21) (a := 21) (by rfl) (by omega), iad0 (n := N + 1) (j := N) (z := p.turns) hNt (by omega), hst1]
  rw [← hM1]
  simp (config := {implicitDefEqProofs := false, maxDischargeDepth := 20}) (disch := first | omega | (simp only [lenE]; done) | (simp only [lenE]; omega) | rfl | (simp only [lenE, markR_len]; done) | (simp only [lenE, markR_len]; omega)) only [runE, mapE, listE, initT_5, initT_6, initT_7, initT_8, resV, oneV, binA, unA, reduceCtorEq, Nat.reduceEqDiff, Nat.reduceAdd, Nat.reduceLT, Nat.reduceLeDiff, Nat.reduceMul, Nat.reduceSub, ↓reduceIte, decide_true, decide_false, Bool.true_eq_false, Bool.false_eq_true, Bool.not_true, Bool.not_false, if_true, if_false, and_true, true_and, memE, celE, w64, Nat.zero_add, Nat.add_zero, Nat.mul_one, putL, and_self, ldn, hb1.rd]
  refine loop_inv mixed (fun s => ∃ (k : Nat) (M : Mem) (cs : List Value) (R : Nat → Nat), k ≤ N ∧ s.m = M ∧ Ext m M ∧ OwnB M m.length 26 [.int .i64 p.turns, u, .int .i64 p.setup, .int .i64 p.unit, .int .i64 p.hold, .int .i64 p.back] ∧ OwnB M (m.length + 1) 24 cs ∧ cs.length = N + 1 ∧
      (∀ j, j ≤ N → cs[j]? = some (if j + k < N then .slice none 0 0 else .slice (some ⟨R j, 0, none⟩) 21 1)) ∧ (∀ j, j ≤ N → N ≤ j + k → m.length ≤ R j ∧ R j < M.length ∧ OwnR M (R j) (p.rowsN ch (N - j))) ∧ (∀ i j, i < j → j ≤ N → N ≤ i + k → R j < R i) ∧
      s.t 1 = .func (.func g) #[] cap ∧ s.t 2 = .pointer (some ⟨m.length, 0, none⟩) ∧ s.t 5 = .slice (some ⟨m.length + 1, 0, none⟩) (N + 1) 1 ∧ s.t 6 = .int .i64 (p.turns - 1 - k)) (fun s => (intOf (s.t 6) + 1).toNat)
    ⟨0, M1, _, fun _ => m.length + 1 + 1, by omega, rfl, hX1, hb1, ht1, by simp, fun j hj => ?_, fun j hj hj2 => ?_, fun i j hij hj hi => absurd hij (by omega), rfl, rfl, rfl, by simp only [put_t, put_t', put_m, putT_t, putT_t', putT_m, init_t, init_m, initT_0, initT_1, initT_2, initT_3, initT_4, initT_5, initT_6, initT_7, initT_8, Nat.reduceEqDiff, ↓reduceIte]; simp⟩ ?_
  · by_cases e : j = N
    · subst e; rw [if_neg (by omega), List.getElem?_set_self (by simp)]
    · rw [if_pos (by omega), List.getElem?_set_ne (by omega), List.getElem?_replicate, if_pos (by omega)]
  · have : j = N := by omega
    subst this
    rw [Nat.sub_self]
    exact ⟨by show m.length ≤ m.length + 1 + 1; omega, by show m.length + 1 + 1 < M1.length; omega, hr1⟩
  rintro s ⟨k, M, cs, R, hk, tm, hX, hb, hT, hcl, hcs, hR, hinc, t1, t2, t5, t6⟩
  by_cases hlt : k < N
  · have hge : (0 : Int) ≤ p.turns - 1 - k := by omega
    obtain ⟨tu, htu⟩ : ∃ tu, tu = N - 1 - k := ⟨_, rfl⟩
    have htz : p.turns - 1 - k = (tu : Int) := by omega
    have hcell := hcs (tu + 1) (by omega)
    rw [if_neg (by omega)] at hcell
    have hrow := hR (tu + 1) (by omega) (by omega)
    rw [show N - (tu + 1) = k by omega] at hrow
    have hlen21 := Pr.rowsN_len p ch k
    have hl2 := Pr.rowsN_len p ch (k + 1)
    have hBB := Pr.rows_big hg hN5 hfair (k := k) (by omega)
    have hrd1 := hT.rd (tu + 1)
    rw [hcell] at hrd1
    have hnil := hcs tu (by omega)
    rw [if_pos (by omega)] at hnil
    obtain ⟨c, hc⟩ : ∃ c, c = M.length := ⟨_, rfl⟩
    have hmc : m.length + 1 < c := by rw [hc]; exact hT.lt
    rw [htz] at t6 hge
    simp (config := {implicitDefEqProofs := false, maxDischargeDepth := 20}) (disch := first | omega | (simp only [lenE]; done) | (simp only [lenE]; omega) | rfl | (simp only [lenE, markR_len]; done) | (simp only [lenE, markR_len]; omega)) only [runE, mapE, listE, initT_5, initT_6, initT_7, initT_8, resV, oneV, binA, unA, reduceCtorEq, Nat.reduceEqDiff, Nat.reduceAdd, Nat.reduceLT, Nat.reduceLeDiff, Nat.reduceMul, Nat.reduceSub, ↓reduceIte, decide_true, decide_false, Bool.true_eq_false, Bool.false_eq_true, Bool.not_true, Bool.not_false, if_true, if_false, and_true, true_and, memE, celE, w64, Nat.zero_add, Nat.add_zero, Nat.mul_one, putL, and_self, ldn, tm, t1, t2, t5, t6, ge_iff_le, hge, iad0 (n := N + 1) (j := tu + 1) (z := (tu : Int) + 1) (by omega) (by omega), hrd1]
    refine loop_inv mixed (fun s => ∃ (i : Nat) (M : Mem) (w : Value), i ≤ 21 ∧ s.m = M ∧ Ext m M ∧ OwnB M m.length 26 [.int .i64 p.turns, u, .int .i64 p.setup, .int .i64 p.unit, .int .i64 p.hold, .int .i64 p.back] ∧ OwnB M (m.length + 1) 24 (cs.set tu w) ∧ c ≤ M.length ∧ (∀ j, j ≤ N → N ≤ j + k → OwnR M (R j) (p.rowsN ch (N - j))) ∧
        ((i = 0 ∧ w = .slice none 0 0) ∨ (0 < i ∧ ∃ id5, w = .slice (some ⟨id5, 0, none⟩) i 1 ∧ c ≤ id5 ∧ OwnR M id5 ((p.rowsN ch (k + 1)).take i))) ∧
        s.t 1 = .func (.func g) #[] cap ∧ s.t 2 = .pointer (some ⟨m.length, 0, none⟩) ∧ s.t 5 = .slice (some ⟨m.length + 1, 0, none⟩) (N + 1) 1 ∧ s.t 6 = .int .i64 tu ∧ s.t 7 = .slice (some ⟨R (tu + 1), 0, none⟩) 21 1 ∧ s.t 8 = .int .i64 ((i : Int) - 10)) (fun s => (20 - intOf (s.t 8)).toNat)
      ⟨0, M, .slice none 0 0, by omega, tm, hX, hb, ?_, by omega, fun j h1 h2 => (hR j h1 h2).2.2, .inl ⟨rfl, rfl⟩, t1, t2, t5, t6, rfl, by simp only [put_t, put_t', put_m, putT_t, putT_t', putT_m, init_t, init_m, initT_0, initT_1, initT_2, initT_3, initT_4, initT_5, initT_6, initT_7, initT_8, Nat.reduceEqDiff, ↓reduceIte]; simp⟩ ?_
    · have : cs.set tu (.slice none 0 0) = cs := by
        apply List.ext_getElem?
        intro j
        by_cases e : j = tu
        · subst e; rw [List.getElem?_set_self (by omega), hnil]
        · rw [List.getElem?_set_ne (by omega)]
      rw [this]; exact hT
    rintro s ⟨i, M, w, hi, tm, hX, hb, hT, hcM, hRM, hw, t1, t2, t5, t6, t7, t8⟩
    by_cases hlti : i < 21
    · have hlti' : (i : Int) - 10 ≤ 10 := by omega
      have hrw := hT.rd tu
      rw [List.getElem?_set_self (by omega)] at hrw
      have hrowM := hRM (tu + 1) (by omega) (by omega)
      rw [show N - (tu + 1) = k by omega] at hrowM
      have hnext := hrowM.ints (by omega) 1
      rw [hlen21] at hnext
      have hxx : -10 ≤ (i : Int) - 10 ∧ (i : Int) - 10 ≤ 10 := by omega
      obtain ⟨g', cap', e, hcall⟩ := hf M hX
      cases e
      have hval := hch k (p.rowsN ch k) ((i : Int) - 10) (by omega) hxx
      simp (config := {implicitDefEqProofs := false, maxDischargeDepth := 20}) (disch := first | omega | (simp only [lenE]; done) | (simp only [lenE]; omega) | rfl | (simp only [lenE, markR_len]; done) | (simp only [lenE, markR_len]; omega)) only [runE, mapE, listE, initT_5, initT_6, initT_7, initT_8, resV, oneV, binA, unA, reduceCtorEq, Nat.reduceEqDiff, Nat.reduceAdd, Nat.reduceLT, Nat.reduceLeDiff, Nat.reduceMul, Nat.reduceSub, ↓reduceIte, decide_true, decide_false, Bool.true_eq_false, Bool.false_eq_true, Bool.not_true, Bool.not_false, if_true, if_false, and_true, true_and, memE, celE, w64, Nat.zero_add, Nat.add_zero, Nat.mul_one, putL, and_self, ldn, tm, t1, t2, t5, t6, t7, t8, hlti', iad0 (n := N + 1) (j := tu) (z := (tu : Int)) rfl (by omega), hrw, hb.rd]
      refine rcallH_rc (hcall _ _ _ (p.rowsN ch k) k (by omega) (by omega) (by omega) hxx hnext hlen21 hBB) ?_
      rintro r n1 ⟨rfl, nr1⟩
      simp (config := {implicitDefEqProofs := false, maxDischargeDepth := 20}) (disch := first | omega | (simp only [lenE]; done) | (simp only [lenE]; omega) | rfl | (simp only [lenE, markR_len]; done) | (simp only [lenE, markR_len]; omega)) only [runE, mapE, listE, initT_5, initT_6, initT_7, initT_8, resV, oneV, binA, unA, reduceCtorEq, Nat.reduceEqDiff, Nat.reduceAdd, Nat.reduceLT, Nat.reduceLeDiff, Nat.reduceMul, Nat.reduceSub, ↓reduceIte, decide_true, decide_false, Bool.true_eq_false, Bool.false_eq_true, Bool.not_true, Bool.not_false, if_true, if_false, and_true, true_and, memE, celE, w64, Nat.zero_add, Nat.add_zero, Nat.mul_one, putL, and_self, ldn]
      refine rcallH_rc (moveCost_rc (M ++ n1) _ _ p (p.rowsN ch k) _ _ _ k (ProcA.mk ((hX.ints hu).ext n1)) (hnext.ext n1) hg hlen21 hBB hxx hval.1 hval.2 (by omega) (by omega) (by omega)) ?_
      rintro r n2 ⟨rfl, nr2⟩
      rw [← Pr.rowsN_at p ch k hlti]
      obtain ⟨x, hx⟩ : ∃ x, x = (p.rowsN ch (k + 1)).getD i 0 := ⟨_, rfl⟩
      rw [← hx]
      have hX2 := (hX.app nr1).app nr2
      have hT2 := (hT.ext n1).ext n2
      have hb2 := (hb.ext n1).ext n2
      obtain ⟨M2, hM2⟩ : ∃ M', M' = M ++ n1 ++ n2 := ⟨_, rfl⟩
      have hl2M : M2.length = M.length + n1.length + n2.length := by rw [hM2]; simp [Nat.add_assoc]
      have hR2 : ∀ j, j ≤ N → N ≤ j + k → OwnR M2 (R j) (p.rowsN ch (N - j)) := fun j h1 h2 => by rw [hM2]; exact ((hRM j h1 h2).ext n1).ext n2
      have hRlt : ∀ j, j ≤ N → N ≤ j + k → R j < c := fun j h1 h2 => by rw [hc]; exact (hR j h1 h2).2.1
      rw [← hM2] at hX2 hT2 hb2
      rw [← hM2]
      rcases hw with ⟨hi0, rfl⟩ | ⟨hi0, id5, rfl, hid5, ho5⟩
      · subst hi0
        have happ := app_nil (M := M2) (id2 := M2.length) (e := 3) (sz := 1) (byt := 8) (ys := [.int .i64 x]) rfl rfl rfl (by omega)
        obtain ⟨M3, hM3⟩ : ∃ M', M' = M2 ++ [⟨.own, 3, [.int .i64 x]⟩] ++ [⟨.own, 3, [.int .i64 x]⟩] := ⟨_, rfl⟩
        have hX3 : Ext m M3 := by rw [hM3]; exact (hX2.one _ _).one _ _
        have hT3 : OwnB M3 (m.length + 1) 24 (cs.set tu (.slice none 0 0)) := by rw [hM3]; exact (hT2.ext _).ext _
        have hb3 : OwnB M3 m.length 26 [.int .i64 p.turns, u, .int .i64 p.setup, .int .i64 p.unit, .int .i64 p.hold, .int .i64 p.back] := by rw [hM3]; exact (hb2.ext _).ext _
        have ho3 : OwnR M3 (M2.length + 1) ((p.rowsN ch (k + 1)).take 1) := by
          rw [hM3, take_next (by omega), List.take_zero, List.nil_append, ← hx]
          exact OwnB.here (by simp)
        have hR3 : ∀ j, j ≤ N → N ≤ j + k → OwnR M3 (R j) (p.rowsN ch (N - j)) := fun j h1 h2 => by rw [hM3]; exact ((hR2 j h1 h2).ext _).ext _
        have hst := hT3.st (off := tu) (vs := [.slice (some ⟨M2.length + 1, 0, none⟩) 1 1]) (by simp; omega) rfl
        rw [← hM3] at happ
        simp (config := {implicitDefEqProofs := false, maxDischargeDepth := 20}) (disch := first | omega | (simp only [lenE]; done) | (simp only [lenE]; omega) | rfl | (simp only [lenE, markR_len]; done) | (simp only [lenE, markR_len]; omega)) only [runE, mapE, listE, initT_5, initT_6, initT_7, initT_8, resV, oneV, binA, unA, reduceCtorEq, Nat.reduceEqDiff, Nat.reduceAdd, Nat.reduceLT, Nat.reduceLeDiff, Nat.reduceMul, Nat.reduceSub, ↓reduceIte, decide_true, decide_false, Bool.true_eq_false, Bool.false_eq_true, Bool.not_true, Bool.not_false, if_true, if_false, and_true, true_and, memE, celE, w64, Nat.zero_add, Nat.add_zero, Nat.mul_one, putL, and_self, ldn, t1, t2, t5, t6, t7, t8, bsl_one, happ, iad0 (n := N + 1) (j := tu) (z := (tu : Int)) rfl (by omega), hst]
        refine ⟨⟨1, _, _, by omega, rfl, hX3.put (by omega) _ _, OwnB.set_ne hb3 (by omega) _, (by rw [List.set_set]; exact hT3.set_self _ _ : OwnB _ _ _ (cs.set tu (.slice (some ⟨M2.length + 1, 0, none⟩) 1 1))), by rw [List.length_set, hM3]; simp; omega, fun j h1 h2 => OwnR.set_ne (hR3 j h1 h2) (fun e => ?_), .inr ⟨by omega, _, rfl, by omega, OwnR.set_ne ho3 (by omega)⟩, by simp⟩, ?_⟩
        · have := hR3 j h1 h2
          rw [← e] at this
          exact absurd rfl (OwnB.ne hT3 (show OwnB M3 (m.length + 1) 3 _ from this) (by decide))
        · simp [intOf]
      · have ho52 : OwnR M2 id5 ((p.rowsN ch (k + 1)).take i) := by rw [hM2]; exact (ho5.ext n1).ext n2
        have happ := app_num (M := M2) (x := x) (id2 := M2.length) (n := i) ho52 (by rw [List.length_take]; omega) rfl (by rw [List.length_take]; omega)
        obtain ⟨M3, hM3⟩ : ∃ M', M' = M2.set id5 deadB ++ [⟨.own, 3, [.int .i64 x]⟩] ++ [⟨.own, 3, ((p.rowsN ch (k + 1)).take i ++ [x]).map (Value.int .i64)⟩] := ⟨_, rfl⟩
        have hid5l := ho52.lt
        have hX3 : Ext m M3 := by rw [hM3]; exact ((hX2.dead (by omega)).one _ _).one _ _
        have hT3 : OwnB M3 (m.length + 1) 24 (cs.set tu (.slice (some ⟨id5, 0, none⟩) i 1)) := by rw [hM3]; exact hT2.at_ (same_gen (by omega) hid5l)
        have hb3 : OwnB M3 m.length 26 [.int .i64 p.turns, u, .int .i64 p.setup, .int .i64 p.unit, .int .i64 p.hold, .int .i64 p.back] := by rw [hM3]; exact hb2.at_ (same_gen (by omega) hid5l)
        have ho3 : OwnR M3 (M2.length + 1) ((p.rowsN ch (k + 1)).take (i + 1)) := by
          rw [hM3, take_next (by omega), ← hx]
          exact OwnB.here (by simp)
        have hR3 : ∀ j, j ≤ N → N ≤ j + k → OwnR M3 (R j) (p.rowsN ch (N - j)) := fun j h1 h2 => by rw [hM3]; exact (hR2 j h1 h2).at_ (same_gen (by have := hRlt j h1 h2; omega) hid5l)
        have hst := hT3.st (off := tu) (vs := [.slice (some ⟨M2.length + 1, 0, none⟩) (i + 1) 1]) (by simp; omega) rfl
        rw [← hM3] at happ
        simp (config := {implicitDefEqProofs := false, maxDischargeDepth := 20}) (disch := first | omega | (simp only [lenE]; done) | (simp only [lenE]; omega) | rfl | (simp only [lenE, markR_len]; done) | (simp only [lenE, markR_len]; omega)) only [runE, mapE, listE, initT_5, initT_6, initT_7, initT_8, resV, oneV, binA, unA, reduceCtorEq, Nat.reduceEqDiff, Nat.reduceAdd, Nat.reduceLT, Nat.reduceLeDiff, Nat.reduceMul, Nat.reduceSub, ↓reduceIte, decide_true, decide_false, Bool.true_eq_false, Bool.false_eq_true, Bool.not_true, Bool.not_false, if_true, if_false, and_true, true_and, memE, celE, w64, Nat.zero_add, Nat.add_zero, Nat.mul_one, putL, and_self, ldn, t1, t2, t5, t6, t7, t8, bsl_one, happ, iad0 (n := N + 1) (j := tu) (z := (tu : Int)) rfl (by omega), hst]
        refine ⟨⟨i + 1, _, _, by omega, rfl, hX3.put (by omega) _ _, OwnB.set_ne hb3 (by omega) _, (by rw [List.set_set]; exact hT3.set_self _ _ : OwnB _ _ _ (cs.set tu (.slice (some ⟨M2.length + 1, 0, none⟩) (i + 1) 1))), by rw [List.length_set, hM3]; simp; omega, fun j h1 h2 => OwnR.set_ne (hR3 j h1 h2) (fun e => ?_), .inr ⟨by omega, _, rfl, by omega, OwnR.set_ne ho3 (by omega)⟩, by congr 1; simp; omega⟩, ?_⟩
        · have := hR3 j h1 h2
          rw [← e] at this
          exact absurd rfl (OwnB.ne hT3 (show OwnB M3 (m.length + 1) 3 _ from this) (by decide))
        · simp [intOf]; omega
    · have hlti' : ¬ ((i : Int) - 10 ≤ 10) := by omega
      have e : i = 21 := by omega
      subst e
      rcases hw with ⟨hi0, _⟩ | ⟨_, id5, rfl, hid5, ho5⟩
      · omega
      rw [List.take_of_length_le (by omega)] at ho5
      simp (config := {implicitDefEqProofs := false, maxDischargeDepth := 20}) (disch := first | omega | (simp only [lenE]; done) | (simp only [lenE]; omega) | rfl | (simp only [lenE, markR_len]; done) | (simp only [lenE, markR_len]; omega)) only [runE, mapE, listE, initT_5, initT_6, initT_7, initT_8, resV, oneV, binA, unA, reduceCtorEq, Nat.reduceEqDiff, Nat.reduceAdd, Nat.reduceLT, Nat.reduceLeDiff, Nat.reduceMul, Nat.reduceSub, ↓reduceIte, decide_true, decide_false, Bool.true_eq_false, Bool.false_eq_true, Bool.not_true, Bool.not_false, if_true, if_false, and_true, true_and, memE, celE, w64, Nat.zero_add, Nat.add_zero, Nat.mul_one, putL, and_self, ldn, tm, t1, t2, t5, t6, t7, t8, hlti']
      have hRlt : ∀ j, j ≤ N → N ≤ j + k → R j < c := fun j h1 h2 => by rw [hc]; exact (hR j h1 h2).2.1
      refine ⟨⟨k + 1, M, cs.set tu (.slice (some ⟨id5, 0, none⟩) 21 1), fun j => if j = tu then id5 else R j, by omega, rfl, hX, hb, hT, by rw [List.length_set]; exact hcl, fun j hj => ?_, fun j hj hj2 => ?_, fun a b hab hb hab2 => ?_, by congr 1; omega⟩, ?_⟩
      · by_cases e : j = tu
        · subst e
          rw [List.getElem?_set_self (by omega), if_neg (by omega)]; simp
        · rw [List.getElem?_set_ne (by omega), hcs j hj]
          simp only [if_neg e]
          by_cases e2 : j + k < N
          · rw [if_pos e2, if_pos (by omega)]
          · rw [if_neg e2, if_neg (by omega)]
      · by_cases e : j = tu
        · subst e
          simp only [if_true]
          rw [show N - j = k + 1 by omega]
          exact ⟨by omega, ho5.lt, ho5⟩
        · simp only [if_neg e]
          have := hR j hj (by omega)
          exact ⟨this.1, by have := hRlt j hj (by omega); omega, hRM j hj (by omega)⟩
      · show (if b = tu then id5 else R b) < (if a = tu then id5 else R a)
        by_cases e : a = tu
        · subst e
          rw [if_neg (by omega), if_pos rfl]
          have := hRlt b hb (by omega); omega
        · rw [if_neg (by omega), if_neg e]
          exact hinc a b hab hb (by omega)
      · simp [intOf]
  · have hge : ¬ ((0 : Int) ≤ p.turns - 1 - k) := by omega
    have e : k = N := by omega
    subst e
    simp (config := {implicitDefEqProofs := false, maxDischargeDepth := 20}) (disch := first | omega | (simp only [lenE]; done) | (simp only [lenE]; omega) | rfl | (simp only [lenE, markR_len]; done) | (simp only [lenE, markR_len]; omega)) only [runE, mapE, listE, initT_5, initT_6, initT_7, initT_8, resV, oneV, binA, unA, reduceCtorEq, Nat.reduceEqDiff, Nat.reduceAdd, Nat.reduceLT, Nat.reduceLeDiff, Nat.reduceMul, Nat.reduceSub, ↓reduceIte, decide_true, decide_false, Bool.true_eq_false, Bool.false_eq_true, Bool.not_true, Bool.not_false, if_true, if_false, and_true, true_and, memE, celE, w64, Nat.zero_add, Nat.add_zero, Nat.mul_one, putL, and_self, ldn, tm, t1, t2, t5, t6, ge_iff_le, hge]
    have hsz := tab_tsz p ch hN5
    have hcsT : cs = rowsC (p.tab ch k) R (fun _ => 1) := by
      apply List.ext_getElem?
      intro j
      by_cases hj : j ≤ k
      · rw [hcs j hj, if_neg (by omega), rowsC_at (by rw [Pr.tab_len]; omega), Pr.tab_at p ch hj, Pr.rowsN_len]
      · rw [List.getElem?_eq_none (by omega), List.getElem?_eq_none (by rw [rowsC_len, Pr.tab_len]; omega)]
    refine ext_ansO (f := _root_.id) hX fun M' hM => ?_
    refine ⟨hsz.1, hsz.2, m.length + 1, 1, R, fun _ => 1, by rw [Pr.tab_len], by omega, hT.lt, by rw [← hcsT]; exact hT.at_ (hM _ (by omega) hT.lt), fun j hj => ?_, fun a b ha hb hab => ?_⟩
    · rw [Pr.tab_len] at hj
      rw [Pr.tab_at p ch (by omega)]
      have := hR j (by omega) (by omega)
      exact ⟨this.1, this.2.1, this.2.2.at_ (hM _ this.1 this.2.1)⟩
    · rw [Pr.tab_len] at ha hb
      rcases Nat.lt_trichotomy a b with e | e | e
      · have := hinc a b e (by omega) (by omega); omega
      · exact e
      · have := hinc b a e (by omega) (by omega); omega
end Go.Proofs.Ytddnedngjijpoaa.Ab
