/- BestFresh, by both programs. -/
import Derived.Test.YtihjcjhnkpkomaaAbFresh4
import Derived.Test.YtihjcjhnkpkomaaAbSets
namespace Go.Proofs.Ytihjcjhnkpkomaa.Ab
open Go Go.RowKit
set_option linter.unusedVariables false
set_option linter.unusedSimpArgs false

theorem bestO_some {g : List Int → Option Int} {n c : Nat} (h : (g (bitsL c n)).isSome = true) : ∀ d, (bestO g n (c + 1 + d)).isSome = true := by
  intro d
  induction d with
  | zero =>
    obtain ⟨x, hx⟩ := Option.isSome_iff_exists.1 h
    simp only [Nat.add_zero, bestO, hx]
    cases bestO g n c with
    | none => rfl
    | some b => simp only; split <;> rfl
  | succ d ih =>
    rw [← Nat.add_assoc, bestO]
    cases hg : g (bitsL (c + 1 + d) n) with
    | none => exact ih
    | some x =>
      simp only
      cases bestO g n (c + 1 + d) with
      | none => rfl
      | some b => simp only; split <;> rfl
theorem bits_full {n : Nat} : ∀ j, j ≤ n → (bitsL (2 ^ n - 1) j).length = j ∧ ∀ i, i < j → (bitsL (2 ^ n - 1) j).getD i 0 = (i : Int) := by
  intro j
  induction j with
  | zero => intro _; exact ⟨rfl, fun i hi => absurd hi (by omega)⟩
  | succ j ih =>
    intro hj
    obtain ⟨h1, h2⟩ := ih (by omega)
    have hb : (2 ^ n - 1) / 2 ^ j % 2 = 1 := by
      have := Nat.testBit_two_pow_sub_one n j
      rw [Nat.testBit_eq_decide_div_mod_eq] at this
      have hd : decide (j < n) = true := decide_eq_true (by omega)
      rw [hd] at this
      exact of_decide_eq_true this
    rw [bitsL, if_pos hb]
    refine ⟨by rw [List.length_append, h1]; rfl, fun i hi => ?_⟩
    by_cases e : i < j
    · rw [getD_app_l _ _ (by omega)]; exact h2 i e
    · have : i = j := by omega
      subst this
      have := getD_app_one (bitsL (2 ^ n - 1) i) (i : Int)
      rw [h1] at this
      exact this
theorem frTo_some {k : Cs} {life : Int} {ps : List Int} {t i : Nat} (h : freshB life (ps.getD i 0) t = true) : ∀ d, (frTo k life ps t (i + 1 + d)).isSome = true := by
  intro d
  induction d with
  | zero => rw [Nat.add_zero, frTo_yes h]; rfl
  | succ d ih =>
    rw [← Nat.add_assoc]
    cases hf : freshB life (ps.getD (i + 1 + d) 0) t with
    | false => rw [frTo_no hf]; exact ih
    | true => rw [frTo_yes hf]; rfl
theorem fresh_full {k : Cs} {life : Int} (hl : 1 ≤ life) : (freshC k life (bitsL (2 ^ k.need.length - 1) k.need.length)).isSome = true := by
  obtain ⟨h1, h2⟩ := bits_full (n := k.need.length) k.need.length (Nat.le_refl _)
  have hr : ∀ t, t < k.need.length → (frate k life (bitsL (2 ^ k.need.length - 1) k.need.length) t).isSome = true := fun t ht => by
    have hf : freshB life ((bitsL (2 ^ k.need.length - 1) k.need.length).getD t 0) t = true := by
      rw [h2 t ht]
      unfold freshB
      rw [decide_eq_true (by omega), decide_eq_true (by omega)]; rfl
    have := frTo_some (k := k) hf (k.need.length - (t + 1))
    rw [show t + 1 + (k.need.length - (t + 1)) = k.need.length by omega] at this
    unfold frate
    rw [h1]
    exact this
  have hk : ∀ t, t ≤ k.need.length → fcOk k life (bitsL (2 ^ k.need.length - 1) k.need.length) t = true := by
    intro t
    induction t with
    | zero => intro _; rfl
    | succ t ih =>
      intro ht
      rw [fcOk, ih (by omega), hr t (by omega)]
      simp
  unfold freshC
  rw [hk _ (Nat.le_refl _), if_pos rfl]
  rfl
def bfO (k : Cs) (life : Int) (c : Nat) : Option (Int × List Int) := bestO (freshC k life) k.need.length c
def bfV (k : Cs) (life : Int) : Int × List Int := bestV (bfO k life (2 ^ k.need.length))
theorem bfO_some {k : Cs} {life : Int} (hl : 1 ≤ life) : bfO k life (2 ^ k.need.length) = some (bfV k life) := by
  have h1 : 1 ≤ 2 ^ k.need.length := Nat.one_le_two_pow
  have := bestO_some (fresh_full (k := k) hl) 0
  rw [show 2 ^ k.need.length - 1 + 1 + 0 = 2 ^ k.need.length by omega] at this
  obtain ⟨q, hq⟩ := Option.isSome_iff_exists.1 this
  unfold bfV bfO
  rw [hq]; rfl
theorem freshC_bd {k : Cs} (hg : Good k) {life : Int} {ps : List Int} (hr : Rising ps k.need.length) {x : Int} (h : freshC k life ps = some x) : 0 ≤ x ∧ x ≤ 20000 := by
  have b1 := setS_bd hg ps ps.length
  have b2 := fcTo_bd hg (life := life) hr k.need.length (Nat.le_refl _)
  have := hg.n8
  have := hr.len
  unfold freshC at h
  split at h
  · injection h with h; omega
  · cases h
theorem bfO_bd {k : Cs} (hg : Good k) {life : Int} : ∀ c q, bfO k life c = some q → (0 ≤ q.1 ∧ q.1 ≤ 20000) ∧ q.2.length ≤ k.need.length := by
  intro c
  induction c with
  | zero => intro q h; cases h
  | succ c ih =>
    intro q h
    unfold bfO at h ih
    rw [bestO] at h
    have hr := bitsL_rising c k.need.length
    have hl := bitsL_len c k.need.length
    cases hf : freshC k life (bitsL c k.need.length) with
    | none => rw [hf] at h; exact ih q h
    | some x =>
      rw [hf] at h
      have xb := freshC_bd hg hr hf
      cases hb : bestO (freshC k life) k.need.length c with
      | none => rw [hb] at h; injection h with h; rw [← h]; exact ⟨xb, hl⟩
      | some b =>
        rw [hb] at h
        simp only at h
        split at h
        · injection h with h; rw [← h]; exact ⟨xb, hl⟩
        · exact ih q (by rw [← h, hb])
/-- The best so far, as the model keeps it. -/
def bS (b : Option (Int × List Int)) : List Int × Int := match b with
  | none => ([], -1)
  | some q => (q.2, q.1)
theorem bS_no {k : Cs} {life : Int} {c : Nat} (h : freshC k life (bitsL c k.need.length) = none) : bS (bfO k life (c + 1)) = bS (bfO k life c) := by
  unfold bfO; rw [bestO, h]
theorem bfO_none {k : Cs} {life : Int} {c : Nat} {x : Int} (h : freshC k life (bitsL c k.need.length) = some x) (hb : bfO k life c = none) : bfO k life (c + 1) = some (x, bitsL c k.need.length) := by
  unfold bfO at hb ⊢
  simp only [bestO, h, hb]
theorem bfO_yes {k : Cs} {life : Int} {c : Nat} {x : Int} {b : Int × List Int} (h : freshC k life (bitsL c k.need.length) = some x) (hb : bfO k life c = some b) (hq : bef (x, bitsL c k.need.length) b = true) : bfO k life (c + 1) = some (x, bitsL c k.need.length) := by
  unfold bfO at hb ⊢
  simp only [bestO, h, hb, hq, if_true]
theorem bfO_stay {k : Cs} {life : Int} {c : Nat} {x : Int} {b : Int × List Int} (h : freshC k life (bitsL c k.need.length) = some x) (hb : bfO k life c = some b) (hq : bef (x, bitsL c k.need.length) b = false) : bfO k life (c + 1) = some b := by
  unfold bfO at hb ⊢
  simp only [bestO, h, hb, hq]
  rfl
theorem bef_iff (x b1 : Int) (l b2 : List Int) : bef (x, l) (b1, b2) = true ↔ (x < b1 ∨ (x = b1 ∧ beforeB l b2 = true)) := by
  unfold bef
  by_cases h : x = b1
  · simp only [h, if_true]
    constructor
    · intro h2; exact .inr ⟨trivial, h2⟩
    · rintro (h2 | h2)
      · exact absurd h2 (Int.lt_irrefl _)
      · exact h2.2
  · simp only [h, if_false, decide_eq_true_eq, false_and, or_false]
theorem bS_up {k : Cs} {life : Int} {c : Nat} {x b2 : Int} {b1 : List Int} (h : freshC k life (bitsL c k.need.length) = some x) (hb : (b1, b2) = bS (bfO k life c)) (hh : b2 < 0 ∨ x < b2 ∨ (x = b2 ∧ beforeB (bitsL c k.need.length) b1 = true)) (h0 : ∀ q, bfO k life c = some q → 0 ≤ q.1) : bS (bfO k life (c + 1)) = (bitsL c k.need.length, x) := by
  cases hq : bfO k life c with
  | none => rw [bfO_none h hq]; rfl
  | some q =>
    rw [hq] at hb
    have e : (b1, b2) = (q.2, q.1) := hb
    injection e with e1 e2
    have := h0 q hq
    rcases hh with hh | hh
    · omega
    · rw [bfO_yes h hq ((bef_iff x q.1 _ q.2).2 (by rw [← e1, ← e2]; exact hh))]; rfl
theorem bS_keep {k : Cs} {life : Int} {c : Nat} {x b2 : Int} {b1 : List Int} (h : freshC k life (bitsL c k.need.length) = some x) (hb : (b1, b2) = bS (bfO k life c)) (hh : ¬ (b2 < 0 ∨ x < b2 ∨ (x = b2 ∧ beforeB (bitsL c k.need.length) b1 = true))) : bS (bfO k life (c + 1)) = (b1, b2) := by
  cases hq : bfO k life c with
  | none =>
    rw [hq] at hb
    have e : (b1, b2) = (([] : List Int), (-1 : Int)) := hb
    injection e with e1 e2
    exact absurd (.inl (by omega)) hh
  | some q =>
    rw [hq] at hb
    have e : (b1, b2) = (q.2, q.1) := hb
    injection e with e1 e2
    have hf : bef (x, bitsL c k.need.length) q = false := by
      cases hz : bef (x, bitsL c k.need.length) q with
      | false => rfl
      | true =>
        have := (bef_iff x q.1 _ q.2).1 hz
        rw [← e1, ← e2] at this
        exact absurd (.inr this) hh
    rw [bfO_stay h hq hf, hb]
theorem l9Best_rc (m : Mem) (v : Value) (k : Cs) (life : Int) (h : CaseA m v k) (hg : Good k) (hl : 1 ≤ life ∧ life ≤ 8) :
    RC Try.prog 91 [v, .int .i64 life] m (AnsO m (IntsO (bfV k life).2) fun v => .tuple #[v, .int .i64 (bfV k life).1]) := by
  refine rc_of_run mixed ok_spec_l9Best (by simp) (go_start _ _ _ ?_)
  obtain ⟨v1, v2, v3, v4, rfl, h1, h2, h3, h4⟩ := h.ro.ok
  have h8 := hg.n8
  have hX := ((Ext.refl m).one 57 [v1, v2, v3, v4]).one 3 []
  simp (config := {implicitDefEqProofs := false, maxDischargeDepth := 20}) (disch := first | omega | (simp only [lenE]; done) | (simp only [lenE]; omega) | rfl | (simp only [lenE, markR_len]; done) | (simp only [lenE, markR_len]; omega)) only [runE, mapE, listE, initT_5, initT_6, initT_7, initT_8, resV, oneV, binA, unA, reduceCtorEq, Nat.reduceEqDiff, Nat.reduceAdd, Nat.reduceLT, Nat.reduceLeDiff, Nat.reduceMul, Nat.reduceSub, ↓reduceIte, decide_true, decide_false, Bool.true_eq_false, Bool.false_eq_true, Bool.not_true, Bool.not_false, if_true, if_false, and_true, true_and, memE, celE, w64, Nat.zero_add, Nat.add_zero, Nat.mul_one, putL, and_self, ldn, c_spec_l9Best, r_spec_l9Best, bsl_no]
  obtain ⟨M0, hM0⟩ : ∃ M0, M0 = roM m ++ [⟨.own, 57, [v1, v2, v3, v4]⟩] ++ [⟨.own, 3, []⟩] := ⟨_, rfl⟩
  have o1 : OwnB M0 m.length 57 [v1, v2, v3, v4] := by rw [hM0]; exact (OwnB.here (by simp [roM_len])).ext _
  have r1 : OwnR M0 (m.length + 1) [] := by rw [hM0]; exact OwnR.end' (l := []) (by simp [roM_len])
  rw [← hM0] at hX ⊢
  have hc : ∀ M, Ext m M → CaseA M (.agg #[v1, v2, v3, v4]) k := fun M hX => ⟨_, _, _, _, rfl, hX.ints h1, hX.ints h2, hX.ints h3, hX.ints h4⟩
  have sh := shl1 h8
  have h28 : 2 ^ k.need.length ≤ 2 ^ 8 := Nat.pow_le_pow_right (by omega) h8
  have h01 : 1 ≤ 2 ^ k.need.length := Nat.one_le_two_pow
  have hn0 : ¬ ((k.need.length : Int) < 0) := by omega
  have hV := bfO_some (k := k) hl.1
  obtain ⟨NN, hNN⟩ : ∃ NN, NN = 2 ^ k.need.length := ⟨_, rfl⟩
  rw [← hNN] at h28 h01 sh hV
  refine loop_inv mixed (fun s => ∃ (c : Nat) (M : Mem) (id fl : Nat), c ≤ NN ∧ s.m = M ∧ Ext m M ∧ OwnB M m.length 57 [v1, v2, v3, v4] ∧ m.length < id ∧ OwnR M id (bS (bfO k life c)).1 ∧ s.t 1 = .int .i64 life ∧ s.t 2 = .pointer (some ⟨m.length, 0, none⟩) ∧ s.t 6 = .slice (some ⟨id, 0, none⟩) (bS (bfO k life c)).1.length fl ∧ s.t 7 = .int .i64 (bS (bfO k life c)).2 ∧ s.t 8 = .int .i64 (c : Int)) (fun s => NN - (intOf (s.t 8)).toNat)
    ⟨0, M0, m.length + 1, 1, by omega, (by first | rfl | simp only [put_t, put_t', put_m, putT_t, putT_t', putT_m, init_t, init_m, initT_0, initT_1, initT_2, initT_3, initT_4, initT_5, initT_6, initT_7, initT_8, Nat.reduceEqDiff, ↓reduceIte]), hX, o1, by omega, r1, rfl, rfl, rfl, rfl, rfl⟩ ?_
  clear hX o1 hM0 r1
  rintro s ⟨c, M, id, fl, hk, tm, hX, o1, hid, r1, t1, t2, t6, t7, t8⟩
  have nb := hX.ints h1
  have ml := o1.lt
  have bl : (bS (bfO k life c)).1.length ≤ k.need.length := by
    cases hq : bfO k life c with
    | none => simp [bS]
    | some q => exact (bfO_bd hg c q hq).2
  by_cases hlt : c < NN
  · have hlt' : (c : Int) < NN := by omega
    simp (config := {implicitDefEqProofs := false, maxDischargeDepth := 20}) (disch := first | omega | (simp only [lenE]; done) | (simp only [lenE]; omega) | rfl | (simp only [lenE, markR_len]; done) | (simp only [lenE, markR_len]; omega)) only [runE, mapE, listE, initT_5, initT_6, initT_7, initT_8, resV, oneV, binA, unA, reduceCtorEq, Nat.reduceEqDiff, Nat.reduceAdd, Nat.reduceLT, Nat.reduceLeDiff, Nat.reduceMul, Nat.reduceSub, ↓reduceIte, decide_true, decide_false, Bool.true_eq_false, Bool.false_eq_true, Bool.not_true, Bool.not_false, if_true, if_false, and_true, true_and, memE, celE, w64, Nat.zero_add, Nat.add_zero, Nat.mul_one, putL, and_self, ldn, tm, t1, t2, t6, t7, t8, o1.rd, nb.len, hn0, sh, hlt']
    refine callH_rc (l2Bits_rc M k.need.length c h8 (by omega)) ?_
    intro r n1 hA
    obtain ⟨pid, pf, rfl, pge, op, ple, nr1⟩ := hA.row
    have hrp := bitsL_rising c k.need.length
    have hup := fun x b1 b2 h hb hh => bS_up (k := k) (life := life) (c := c) (x := x) (b1 := b1) (b2 := b2) h hb hh (fun q hq => (bfO_bd hg c q hq).1.1)
    have hkeep := fun x b1 b2 => bS_keep (k := k) (life := life) (c := c) (x := x) (b1 := b1) (b2 := b2)
    have hno := bS_no (k := k) (life := life) (c := c)
    obtain ⟨ps, hps⟩ : ∃ ps, ps = bitsL c k.need.length := ⟨_, rfl⟩
    rw [← hps] at op ple hrp hup hkeep hno ⊢
    replace hX := hX.app nr1
    replace o1 := o1.ext n1
    replace r1 := r1.ext n1
    obtain ⟨M1, hM1⟩ : ∃ M1, M1 = M ++ n1 := ⟨_, rfl⟩
    rw [← hM1] at hX o1 r1 op ⊢
    have ip := op.ints (by omega) pf
    simp (config := {implicitDefEqProofs := false, maxDischargeDepth := 20}) (disch := first | omega | (simp only [lenE]; done) | (simp only [lenE]; omega) | rfl | (simp only [lenE, markR_len]; done) | (simp only [lenE, markR_len]; omega)) only [runE, mapE, listE, initT_5, initT_6, initT_7, initT_8, resV, oneV, binA, unA, reduceCtorEq, Nat.reduceEqDiff, Nat.reduceAdd, Nat.reduceLT, Nat.reduceLeDiff, Nat.reduceMul, Nat.reduceSub, ↓reduceIte, decide_true, decide_false, Bool.true_eq_false, Bool.false_eq_true, Bool.not_true, Bool.not_false, if_true, if_false, and_true, true_and, memE, celE, w64, Nat.zero_add, Nat.add_zero, Nat.mul_one, putL, and_self, ldn, t1, t2, t6, t7, t8, o1.rd]
    refine callH_rc (l9Fresh_rc M1 _ _ k life ps (hc _ hX) ip hg hrp hl) ?_
    rintro r n2 ⟨rfl, nr2⟩
    replace hX := hX.app nr2
    replace o1 := o1.ext n2
    replace r1 := r1.ext n2
    replace op := op.ext n2
    obtain ⟨M2, hM2⟩ : ∃ M2, M2 = M1 ++ n2 := ⟨_, rfl⟩
    rw [← hM2] at hX o1 r1 op ⊢
    obtain ⟨b, hb⟩ : ∃ b, b = bS (bfO k life c) := ⟨_, rfl⟩
    rw [← hb] at hno bl r1 t6 t7
    obtain ⟨b1, b2⟩ := b
    simp only at hno bl r1 t6 t7
    cases hf : freshC k life ps with
    | none =>
      have e := hno hf
      simp (config := {implicitDefEqProofs := false, maxDischargeDepth := 20}) (disch := first | omega | (simp only [lenE]; done) | (simp only [lenE]; omega) | rfl | (simp only [lenE, markR_len]; done) | (simp only [lenE, markR_len]; omega)) only [runE, mapE, listE, initT_5, initT_6, initT_7, initT_8, resV, oneV, binA, unA, reduceCtorEq, Nat.reduceEqDiff, Nat.reduceAdd, Nat.reduceLT, Nat.reduceLeDiff, Nat.reduceMul, Nat.reduceSub, ↓reduceIte, decide_true, decide_false, Bool.true_eq_false, Bool.false_eq_true, Bool.not_true, Bool.not_false, if_true, if_false, and_true, true_and, memE, celE, w64, Nat.zero_add, Nat.add_zero, Nat.mul_one, putL, and_self, ldn, t1, t2, t6, t7, t8, Option.getD_none, ge_iff_le, show ((0 : Int) ≤ -1) = False by simp, goG_undef]
      refine ⟨⟨c + 1, M2, id, fl, by omega, rfl, hX, o1, hid, by rw [e]; exact r1, by rw [e], by rw [e], by simp⟩, ?_⟩
      simp [intOf]; omega
    | some x =>
      have xb := freshC_bd hg hrp hf
      have x0 : 0 ≤ x := xb.1
      have up : (b2 < 0 ∨ x < b2 ∨ (x = b2 ∧ beforeB ps b1 = true)) → bS (bfO k life (c + 1)) = (ps, x) := fun hh => hup x b1 b2 hf hb hh
      have stay : ¬ (b2 < 0 ∨ x < b2 ∨ (x = b2 ∧ beforeB ps b1 = true)) → bS (bfO k life (c + 1)) = (b1, b2) := fun hh => hkeep x b1 b2 hf hb hh
      have pidl : m.length < pid := by omega
      by_cases d1 : b2 < 0
      · have e := up (.inl d1)
        simp (config := {implicitDefEqProofs := false, maxDischargeDepth := 20}) (disch := first | omega | (simp only [lenE]; done) | (simp only [lenE]; omega) | rfl | (simp only [lenE, markR_len]; done) | (simp only [lenE, markR_len]; omega)) only [runE, mapE, listE, initT_5, initT_6, initT_7, initT_8, resV, oneV, binA, unA, reduceCtorEq, Nat.reduceEqDiff, Nat.reduceAdd, Nat.reduceLT, Nat.reduceLeDiff, Nat.reduceMul, Nat.reduceSub, ↓reduceIte, decide_true, decide_false, Bool.true_eq_false, Bool.false_eq_true, Bool.not_true, Bool.not_false, if_true, if_false, and_true, true_and, memE, celE, w64, Nat.zero_add, Nat.add_zero, Nat.mul_one, putL, and_self, ldn, t1, t2, t6, t7, t8, Option.getD_some, ge_iff_le, x0, d1, goG_undef]
        refine ⟨⟨c + 1, M2, pid, pf, by omega, rfl, hX, o1, pidl, by rw [e]; exact op, by rw [e], by rw [e], by simp⟩, ?_⟩
        simp [intOf]; omega
      · by_cases d2 : x < b2
        · have e := up (.inr (.inl d2))
          simp (config := {implicitDefEqProofs := false, maxDischargeDepth := 20}) (disch := first | omega | (simp only [lenE]; done) | (simp only [lenE]; omega) | rfl | (simp only [lenE, markR_len]; done) | (simp only [lenE, markR_len]; omega)) only [runE, mapE, listE, initT_5, initT_6, initT_7, initT_8, resV, oneV, binA, unA, reduceCtorEq, Nat.reduceEqDiff, Nat.reduceAdd, Nat.reduceLT, Nat.reduceLeDiff, Nat.reduceMul, Nat.reduceSub, ↓reduceIte, decide_true, decide_false, Bool.true_eq_false, Bool.false_eq_true, Bool.not_true, Bool.not_false, if_true, if_false, and_true, true_and, memE, celE, w64, Nat.zero_add, Nat.add_zero, Nat.mul_one, putL, and_self, ldn, t1, t2, t6, t7, t8, Option.getD_some, ge_iff_le, x0, d1, d2, goG_undef]
          refine ⟨⟨c + 1, M2, pid, pf, by omega, rfl, hX, o1, pidl, by rw [e]; exact op, by rw [e], by rw [e], by simp⟩, ?_⟩
          simp [intOf]; omega
        · by_cases d3 : x = b2
          · have d3' : (x == b2) = true := by rw [d3]; simp
            simp (config := {implicitDefEqProofs := false, maxDischargeDepth := 20}) (disch := first | omega | (simp only [lenE]; done) | (simp only [lenE]; omega) | rfl | (simp only [lenE, markR_len]; done) | (simp only [lenE, markR_len]; omega)) only [runE, mapE, listE, initT_5, initT_6, initT_7, initT_8, resV, oneV, binA, unA, reduceCtorEq, Nat.reduceEqDiff, Nat.reduceAdd, Nat.reduceLT, Nat.reduceLeDiff, Nat.reduceMul, Nat.reduceSub, ↓reduceIte, decide_true, decide_false, Bool.true_eq_false, Bool.false_eq_true, Bool.not_true, Bool.not_false, if_true, if_false, and_true, true_and, memE, celE, w64, Nat.zero_add, Nat.add_zero, Nat.mul_one, putL, and_self, ldn, t1, t2, t6, t7, t8, Option.getD_some, ge_iff_le, x0, d1, d2, d3', goG_undef]
            refine callH_rc (l2Before_rc M2 _ _ ps b1 (op.ints (by omega) pf) (r1.ints (by omega) fl)) ?_
            rintro r n3 ⟨rfl, nr3⟩
            cases hb9 : beforeB ps b1 with
            | true =>
              have e := up (.inr (.inr ⟨d3, hb9⟩))
              simp (config := {implicitDefEqProofs := false, maxDischargeDepth := 20}) (disch := first | omega | (simp only [lenE]; done) | (simp only [lenE]; omega) | rfl | (simp only [lenE, markR_len]; done) | (simp only [lenE, markR_len]; omega)) only [runE, mapE, listE, initT_5, initT_6, initT_7, initT_8, resV, oneV, binA, unA, reduceCtorEq, Nat.reduceEqDiff, Nat.reduceAdd, Nat.reduceLT, Nat.reduceLeDiff, Nat.reduceMul, Nat.reduceSub, ↓reduceIte, decide_true, decide_false, Bool.true_eq_false, Bool.false_eq_true, Bool.not_true, Bool.not_false, if_true, if_false, and_true, true_and, memE, celE, w64, Nat.zero_add, Nat.add_zero, Nat.mul_one, putL, and_self, ldn, t1, t2, t6, t7, t8]
              refine ⟨⟨c + 1, M2 ++ n3, pid, pf, by omega, rfl, hX.app nr3, o1.ext _, pidl, by rw [e]; exact op.ext _, by rw [e], by rw [e], by simp⟩, ?_⟩
              simp [intOf]; omega
            | false =>
              have e := stay (fun hh => by rcases hh with hh | hh | hh; exact d1 hh; exact d2 hh; rw [hb9] at hh; cases hh.2)
              simp (config := {implicitDefEqProofs := false, maxDischargeDepth := 20}) (disch := first | omega | (simp only [lenE]; done) | (simp only [lenE]; omega) | rfl | (simp only [lenE, markR_len]; done) | (simp only [lenE, markR_len]; omega)) only [runE, mapE, listE, initT_5, initT_6, initT_7, initT_8, resV, oneV, binA, unA, reduceCtorEq, Nat.reduceEqDiff, Nat.reduceAdd, Nat.reduceLT, Nat.reduceLeDiff, Nat.reduceMul, Nat.reduceSub, ↓reduceIte, decide_true, decide_false, Bool.true_eq_false, Bool.false_eq_true, Bool.not_true, Bool.not_false, if_true, if_false, and_true, true_and, memE, celE, w64, Nat.zero_add, Nat.add_zero, Nat.mul_one, putL, and_self, ldn, t1, t2, t6, t7, t8]
              refine ⟨⟨c + 1, M2 ++ n3, id, fl, by omega, rfl, hX.app nr3, o1.ext _, hid, by rw [e]; exact r1.ext _, by rw [e], by rw [e], by simp⟩, ?_⟩
              simp [intOf]; omega
          · have d3' : (x == b2) = false := by simpa using d3
            have e := stay (fun hh => by rcases hh with hh | hh | hh; exact d1 hh; exact d2 hh; exact d3 hh.1)
            simp (config := {implicitDefEqProofs := false, maxDischargeDepth := 20}) (disch := first | omega | (simp only [lenE]; done) | (simp only [lenE]; omega) | rfl | (simp only [lenE, markR_len]; done) | (simp only [lenE, markR_len]; omega)) only [runE, mapE, listE, initT_5, initT_6, initT_7, initT_8, resV, oneV, binA, unA, reduceCtorEq, Nat.reduceEqDiff, Nat.reduceAdd, Nat.reduceLT, Nat.reduceLeDiff, Nat.reduceMul, Nat.reduceSub, ↓reduceIte, decide_true, decide_false, Bool.true_eq_false, Bool.false_eq_true, Bool.not_true, Bool.not_false, if_true, if_false, and_true, true_and, memE, celE, w64, Nat.zero_add, Nat.add_zero, Nat.mul_one, putL, and_self, ldn, t1, t2, t6, t7, t8, Option.getD_some, ge_iff_le, x0, d1, d2, d3', goG_undef]
            refine ⟨⟨c + 1, M2, id, fl, by omega, rfl, hX, o1, hid, by rw [e]; exact r1, by rw [e], by rw [e], by simp⟩, ?_⟩
            simp [intOf]; omega
  · have hlt' : ¬ ((c : Int) < NN) := by omega
    have e : c = NN := by omega
    subst e
    rw [hV] at r1 t6 t7 bl
    simp only [bS] at r1 t6 t7 bl
    simp (config := {implicitDefEqProofs := false, maxDischargeDepth := 20}) (disch := first | omega | (simp only [lenE]; done) | (simp only [lenE]; omega) | rfl | (simp only [lenE, markR_len]; done) | (simp only [lenE, markR_len]; omega)) only [runE, mapE, listE, initT_5, initT_6, initT_7, initT_8, resV, oneV, binA, unA, reduceCtorEq, Nat.reduceEqDiff, Nat.reduceAdd, Nat.reduceLT, Nat.reduceLeDiff, Nat.reduceMul, Nat.reduceSub, ↓reduceIte, decide_true, decide_false, Bool.true_eq_false, Bool.false_eq_true, Bool.not_true, Bool.not_false, if_true, if_false, and_true, true_and, memE, celE, w64, Nat.zero_add, Nat.add_zero, Nat.mul_one, putL, and_self, ldn, tm, t1, t2, t6, t7, t8, o1.rd, nb.len, hn0, sh, hlt']
    refine ext_ansO (f := fun v => .tuple #[v, .int .i64 (bfV k life).1]) hX fun M' hM => ?_
    exact IntsA.ownO (r1.at_ (hM _ (by omega) r1.lt)) (by omega) (by omega) r1.lt
def bfA (k : Cs) (life : Int) : List Int := if lifeOk k life then (bfV k life).2 else []
def bfC (k : Cs) (life : Int) : Int := if lifeOk k life then (bfV k life).1 else 0
/-- A row, a number and a flag as an answer. -/
def AnsL3 (m : Mem) (l : List Int) (x : Int) (ok : Bool) (r : Value) (new : Mem) : Prop :=
  NoRo new ∧ l.length ≤ 1048576 ∧ ∃ i fl, r = .tuple #[.slice (some ⟨m.length + i, 0, none⟩) l.length fl, .int .i64 x, .bool ok] ∧ new[i]? = some (rowB l)
theorem AnsO.l3 {m : Mem} {l : List Int} {x : Int} {ok : Bool} {r : Value} {new : Mem} (h : AnsO m (IntsO l) (fun v => .tuple #[v, .int .i64 x, .bool ok]) r new) : AnsL3 m l x ok r new := by
  obtain ⟨hn, v, rfl, hv⟩ := h
  obtain ⟨hl, id, fl, rfl, h1, h2, ho⟩ := hv.now
  refine ⟨hn, hl, id - m.length, fl, by rw [show m.length + (id - m.length) = id by omega], ?_⟩
  have : (m ++ new)[id]? = some (rowB l) := ho
  rwa [List.getElem?_append_right h1] at this
theorem specBestFresh_o (m : Mem) (v : Value) (k : Cs) (life : Int) (h : CaseA m v k) :
    RC Try.prog 54 [v, .int .i64 life] m (AnsO m (IntsO (bfA k life)) fun v => .tuple #[v, .int .i64 (bfC k life), .bool (lifeOk k life)]) := by
  refine rc_of_run mixed ok_spec_BestFresh (by simp) (go_start _ _ _ ?_)
  obtain ⟨v1, v2, v3, v4, rfl, h1, h2, h3, h4⟩ := h.ro.ok
  have hX := (Ext.refl m).one 57 [v1, v2, v3, v4]
  simp (config := {implicitDefEqProofs := false, maxDischargeDepth := 20}) (disch := first | omega | (simp only [lenE]; done) | (simp only [lenE]; omega) | rfl | (simp only [lenE, markR_len]; done) | (simp only [lenE, markR_len]; omega)) only [runE, mapE, listE, initT_5, initT_6, initT_7, initT_8, resV, oneV, binA, unA, reduceCtorEq, Nat.reduceEqDiff, Nat.reduceAdd, Nat.reduceLT, Nat.reduceLeDiff, Nat.reduceMul, Nat.reduceSub, ↓reduceIte, decide_true, decide_false, Bool.true_eq_false, Bool.false_eq_true, Bool.not_true, Bool.not_false, if_true, if_false, and_true, true_and, memE, celE, w64, Nat.zero_add, Nat.add_zero, Nat.mul_one, putL, and_self, ldn, c_spec_BestFresh, r_spec_BestFresh]
  obtain ⟨M0, hM0⟩ : ∃ M0, M0 = roM m ++ [⟨.own, 57, [v1, v2, v3, v4]⟩] := ⟨_, rfl⟩
  have o1 : OwnB M0 m.length 57 [v1, v2, v3, v4] := by rw [hM0]; exact OwnB.here (by simp [roM_len])
  rw [← hM0] at hX ⊢
  have hc : ∀ M, Ext m M → CaseA M (.agg #[v1, v2, v3, v4]) k := fun M hX => ⟨_, _, _, _, rfl, hX.ints h1, hX.ints h2, hX.ints h3, hX.ints h4⟩
  refine callH_rc (l9Life_rc _ _ k life (hc _ hX)) ?_
  rintro r n1 ⟨rfl, nr1⟩
  replace hX := hX.app nr1
  replace o1 := o1.ext n1
  obtain ⟨M1, hM1⟩ : ∃ M1, M1 = M0 ++ n1 := ⟨_, rfl⟩
  rw [← hM1] at hX o1 ⊢
  unfold bfA bfC
  cases hl : lifeOk k life with
  | false =>
    simp (config := {implicitDefEqProofs := false, maxDischargeDepth := 20}) (disch := first | omega | (simp only [lenE]; done) | (simp only [lenE]; omega) | rfl | (simp only [lenE, markR_len]; done) | (simp only [lenE, markR_len]; omega)) only [runE, mapE, listE, initT_5, initT_6, initT_7, initT_8, resV, oneV, binA, unA, reduceCtorEq, Nat.reduceEqDiff, Nat.reduceAdd, Nat.reduceLT, Nat.reduceLeDiff, Nat.reduceMul, Nat.reduceSub, ↓reduceIte, decide_true, decide_false, Bool.true_eq_false, Bool.false_eq_true, Bool.not_true, Bool.not_false, if_true, if_false, and_true, true_and, memE, celE, w64, Nat.zero_add, Nat.add_zero, Nat.mul_one, putL, and_self, ldn, bsl_no]
    exact ext_noInts (f := fun v => .tuple #[v, .int .i64 0, .bool false]) hX rfl
  | true =>
    obtain ⟨gd, hlife⟩ := lifeOk_iff.1 hl
    simp (config := {implicitDefEqProofs := false, maxDischargeDepth := 20}) (disch := first | omega | (simp only [lenE]; done) | (simp only [lenE]; omega) | rfl | (simp only [lenE, markR_len]; done) | (simp only [lenE, markR_len]; omega)) only [runE, mapE, listE, initT_5, initT_6, initT_7, initT_8, resV, oneV, binA, unA, reduceCtorEq, Nat.reduceEqDiff, Nat.reduceAdd, Nat.reduceLT, Nat.reduceLeDiff, Nat.reduceMul, Nat.reduceSub, ↓reduceIte, decide_true, decide_false, Bool.true_eq_false, Bool.false_eq_true, Bool.not_true, Bool.not_false, if_true, if_false, and_true, true_and, memE, celE, w64, Nat.zero_add, Nat.add_zero, Nat.mul_one, putL, and_self, ldn, o1.rd]
    refine callH_rc (l9Best_rc M1 _ k life (hc _ hX) gd hlife) ?_
    rintro r n2 ⟨nr2, w, rfl, hw⟩
    simp (config := {implicitDefEqProofs := false, maxDischargeDepth := 20}) (disch := first | omega | (simp only [lenE]; done) | (simp only [lenE]; omega) | rfl | (simp only [lenE, markR_len]; done) | (simp only [lenE, markR_len]; omega)) only [runE, mapE, listE, initT_5, initT_6, initT_7, initT_8, resV, oneV, binA, unA, reduceCtorEq, Nat.reduceEqDiff, Nat.reduceAdd, Nat.reduceLT, Nat.reduceLeDiff, Nat.reduceMul, Nat.reduceSub, ↓reduceIte, decide_true, decide_false, Bool.true_eq_false, Bool.false_eq_true, Bool.not_true, Bool.not_false, if_true, if_false, and_true, true_and, memE, celE, w64, Nat.zero_add, Nat.add_zero, Nat.mul_one, putL, and_self, ldn, ext_2_0, ext_2_1]
    exact Ext.pass (f := fun v => .tuple #[v, .int .i64 (bfV k life).1, .bool true]) hX nr2 (IntsO.wide _) hw
theorem bestFresh1_cost (m : Mem) (id id2 : Nat) (v1 v2 v3 v4 : Value) (k : Cs) (life : Int) (hg : Good k) (hl : 1 ≤ life ∧ life ≤ 8) (hid : rdc m id 0 = some v1 ∧ rdc m id 1 = some v2 ∧ rdc m id 2 = some v3 ∧ rdc m id 3 = some v4) (hid2 : rdc m id2 0 = some (.int .i64 life)) (hk : CaseA m (.agg #[v1, v2, v3, v4]) k) :
    CostF m (.func (.func 92) #[] #[.pointer (some ⟨id, 0, none⟩), .pointer (some ⟨id2, 0, none⟩)]) k.need.length (freshC k life) := by
  refine ⟨_, _, rfl, fun M u c hM hc hu => ?_⟩
  refine rc_of_run mixed ok_impl_BestFresh_1 (by simp) (go_start _ _ _ ?_)
  obtain ⟨q0, q1, q2, q3⟩ := hid
  have rr : ∀ id k v, rdc m id k = some v → rdc (roM M) id k = some v := fun id k v h => by
    rw [rdc_roM]
    exact hM.rd h
  have hkM : CaseA (roM M) (.agg #[v1, v2, v3, v4]) k := by
    obtain ⟨a1, a2, a3, a4, e, h1, h2, h3, h4⟩ := hk.ok
    exact ⟨a1, a2, a3, a4, e, (hM.ints h1.ro).ro, (hM.ints h2.ro).ro, (hM.ints h3.ro).ro, (hM.ints h4.ro).ro⟩
  have hr := bitsL_rising c k.need.length
  simp (config := {implicitDefEqProofs := false, maxDischargeDepth := 20}) (disch := first | omega | (simp only [lenE]; done) | (simp only [lenE]; omega) | rfl | (simp only [lenE, markR_len]; done) | (simp only [lenE, markR_len]; omega)) only [runE, mapE, listE, initT_5, initT_6, initT_7, initT_8, resV, oneV, binA, unA, reduceCtorEq, Nat.reduceEqDiff, Nat.reduceAdd, Nat.reduceLT, Nat.reduceLeDiff, Nat.reduceMul, Nat.reduceSub, ↓reduceIte, decide_true, decide_false, Bool.true_eq_false, Bool.false_eq_true, Bool.not_true, Bool.not_false, if_true, if_false, and_true, true_and, memE, celE, w64, Nat.zero_add, Nat.add_zero, Nat.mul_one, putL, and_self, ldn, c_impl_BestFresh_1, r_impl_BestFresh_1, rr _ 0 _ q0, rr _ 1 _ q1, rr _ 2 _ q2, rr _ 3 _ q3, rr _ 0 _ hid2]
  refine callH_rc (freshCost_rc _ _ u k life (bitsL c k.need.length) hkM hu.ro hg hr hl) ?_
  rintro r new ⟨rfl, nr⟩
  simp (config := {implicitDefEqProofs := false, maxDischargeDepth := 20}) (disch := first | omega | (simp only [lenE]; done) | (simp only [lenE]; omega) | rfl | (simp only [lenE, markR_len]; done) | (simp only [lenE, markR_len]; omega)) only [runE, mapE, listE, initT_5, initT_6, initT_7, initT_8, resV, oneV, binA, unA, reduceCtorEq, Nat.reduceEqDiff, Nat.reduceAdd, Nat.reduceLT, Nat.reduceLeDiff, Nat.reduceMul, Nat.reduceSub, ↓reduceIte, decide_true, decide_false, Bool.true_eq_false, Bool.false_eq_true, Bool.not_true, Bool.not_false, if_true, if_false, and_true, true_and, memE, celE, w64, Nat.zero_add, Nat.add_zero, Nat.mul_one, putL, and_self, ldn, ext_2_0, ext_2_1]
  exact ext_ansV ((Ext.refl M).app nr) rfl
theorem implBestFresh_o (m : Mem) (v : Value) (k : Cs) (life : Int) (h : CaseA m v k) :
    RC Try.prog 55 [v, .int .i64 life] m (AnsO m (IntsO (bfA k life)) fun v => .tuple #[v, .int .i64 (bfC k life), .bool (lifeOk k life)]) := by
  refine rc_of_run mixed ok_impl_BestFresh (by simp) (go_start _ _ _ ?_)
  obtain ⟨v1, v2, v3, v4, rfl, h1, h2, h3, h4⟩ := h.ro.ok
  have hX := ((Ext.refl m).one 57 [v1, v2, v3, v4]).one 3 [.int .i64 life]
  simp (config := {implicitDefEqProofs := false, maxDischargeDepth := 20}) (disch := first | omega | (simp only [lenE]; done) | (simp only [lenE]; omega) | rfl | (simp only [lenE, markR_len]; done) | (simp only [lenE, markR_len]; omega)) only [runE, mapE, listE, initT_5, initT_6, initT_7, initT_8, resV, oneV, binA, unA, reduceCtorEq, Nat.reduceEqDiff, Nat.reduceAdd, Nat.reduceLT, Nat.reduceLeDiff, Nat.reduceMul, Nat.reduceSub, ↓reduceIte, decide_true, decide_false, Bool.true_eq_false, Bool.false_eq_true, Bool.not_true, Bool.not_false, if_true, if_false, and_true, true_and, memE, celE, w64, Nat.zero_add, Nat.add_zero, Nat.mul_one, putL, and_self, ldn, c_impl_BestFresh, r_impl_BestFresh]
  obtain ⟨M0, hM0⟩ : ∃ M0, M0 = roM m ++ [⟨.own, 57, [v1, v2, v3, v4]⟩] ++ [⟨.own, 3, [.int .i64 life]⟩] := ⟨_, rfl⟩
  have o1 : OwnB M0 m.length 57 [v1, v2, v3, v4] := by rw [hM0]; exact (OwnB.here (by simp [roM_len])).ext _
  have o2 : OwnB M0 (m.length + 1) 3 [.int .i64 life] := by rw [hM0]; exact OwnB.here (by simp [roM_len])
  rw [← hM0] at hX ⊢
  have hc : ∀ M, Ext m M → CaseA M (.agg #[v1, v2, v3, v4]) k := fun M hX => ⟨_, _, _, _, rfl, hX.ints h1, hX.ints h2, hX.ints h3, hX.ints h4⟩
  refine callH_rc (implIsCase_rc _ _ k (hc _ hX)) ?_
  rintro r n1 ⟨rfl, nr1⟩
  replace hX := hX.app nr1
  replace o1 := o1.ext n1
  replace o2 := o2.ext n1
  obtain ⟨M1, hM1⟩ : ∃ M1, M1 = M0 ++ n1 := ⟨_, rfl⟩
  rw [← hM1] at hX o1 o2 ⊢
  have lo2 := o2.lt
  unfold bfA bfC
  have el : lifeOk k life = (k.good && (decide (1 ≤ life) && decide (life ≤ 8))) := rfl
  rw [el]
  cases hg : k.good with
  | false =>
    simp (config := {implicitDefEqProofs := false, maxDischargeDepth := 20}) (disch := first | omega | (simp only [lenE]; done) | (simp only [lenE]; omega) | rfl | (simp only [lenE, markR_len]; done) | (simp only [lenE, markR_len]; omega)) only [runE, mapE, listE, initT_5, initT_6, initT_7, initT_8, resV, oneV, binA, unA, reduceCtorEq, Nat.reduceEqDiff, Nat.reduceAdd, Nat.reduceLT, Nat.reduceLeDiff, Nat.reduceMul, Nat.reduceSub, ↓reduceIte, decide_true, decide_false, Bool.true_eq_false, Bool.false_eq_true, Bool.not_true, Bool.not_false, if_true, if_false, and_true, true_and, memE, celE, w64, Nat.zero_add, Nat.add_zero, Nat.mul_one, putL, and_self, ldn, goG_undef, bsl_no]
    exact ext_noInts (f := fun v => .tuple #[v, .int .i64 0, .bool false]) hX rfl
  | true =>
    have gd := good_iff.1 hg
    have h8 := gd.n8
    simp (config := {implicitDefEqProofs := false, maxDischargeDepth := 20}) (disch := first | omega | (simp only [lenE]; done) | (simp only [lenE]; omega) | rfl | (simp only [lenE, markR_len]; done) | (simp only [lenE, markR_len]; omega)) only [runE, mapE, listE, initT_5, initT_6, initT_7, initT_8, resV, oneV, binA, unA, reduceCtorEq, Nat.reduceEqDiff, Nat.reduceAdd, Nat.reduceLT, Nat.reduceLeDiff, Nat.reduceMul, Nat.reduceSub, ↓reduceIte, decide_true, decide_false, Bool.true_eq_false, Bool.false_eq_true, Bool.not_true, Bool.not_false, if_true, if_false, and_true, true_and, memE, celE, w64, Nat.zero_add, Nat.add_zero, Nat.mul_one, putL, and_self, ldn, o2.rd]
    refine callH_rc (isLife_rc _ _) ?_
    rintro r new ⟨rfl, rfl⟩
    rw [List.append_nil]
    cases hl : (decide (1 ≤ life) && decide (life ≤ 8)) with
    | false =>
      simp (config := {implicitDefEqProofs := false, maxDischargeDepth := 20}) (disch := first | omega | (simp only [lenE]; done) | (simp only [lenE]; omega) | rfl | (simp only [lenE, markR_len]; done) | (simp only [lenE, markR_len]; omega)) only [runE, mapE, listE, initT_5, initT_6, initT_7, initT_8, resV, oneV, binA, unA, reduceCtorEq, Nat.reduceEqDiff, Nat.reduceAdd, Nat.reduceLT, Nat.reduceLeDiff, Nat.reduceMul, Nat.reduceSub, ↓reduceIte, decide_true, decide_false, Bool.true_eq_false, Bool.false_eq_true, Bool.not_true, Bool.not_false, if_true, if_false, and_true, true_and, memE, celE, w64, Nat.zero_add, Nat.add_zero, Nat.mul_one, putL, and_self, ldn, bsl_no]
      exact ext_noInts (f := fun v => .tuple #[v, .int .i64 0, .bool false]) hX rfl
    | true =>
      have hlife : 1 ≤ life ∧ life ≤ 8 := by simpa using hl
      have CF := bestFresh1_cost M1 m.length (m.length + 1) v1 v2 v3 v4 k life gd hlife ⟨o1.rd 0, o1.rd 1, o1.rd 2, o1.rd 3⟩ (o2.rd 0) (hc _ hX)
      simp (config := {implicitDefEqProofs := false, maxDischargeDepth := 20}) (disch := first | omega | (simp only [lenE]; done) | (simp only [lenE]; omega) | rfl | (simp only [lenE, markR_len]; done) | (simp only [lenE, markR_len]; omega)) only [runE, mapE, listE, initT_5, initT_6, initT_7, initT_8, resV, oneV, binA, unA, reduceCtorEq, Nat.reduceEqDiff, Nat.reduceAdd, Nat.reduceLT, Nat.reduceLeDiff, Nat.reduceMul, Nat.reduceSub, ↓reduceIte, decide_true, decide_false, Bool.true_eq_false, Bool.false_eq_true, Bool.not_true, Bool.not_false, if_true, if_false, and_true, true_and, memE, celE, w64, Nat.zero_add, Nat.add_zero, Nat.mul_one, putL, and_self, ldn, o1.rd, (hX.ints h1).len]
      refine callH_rc (bestOfSets_rc M1 _ k.need.length (freshC k life) h8 CF ?_) ?_
      · intro c x hc2 hx
        have := freshC_bd gd (bitsL_rising c k.need.length) hx
        omega
      rintro r n2 ⟨nr2, pv, rfl, hL⟩
      have hV := bfO_some (k := k) hlife.1
      have eV : bestV (bestO (freshC k life) k.need.length (2 ^ k.need.length)) = bfV k life := rfl
      have hb := bfO_bd gd _ _ hV
      rcases hL with ⟨hn, _, _⟩ | ⟨id, fl, rfl, hid, ho⟩
      · have : bfO k life (2 ^ k.need.length) = none := hn
        rw [hV] at this; cases this
      · rw [eV] at ho ⊢
        have hxl := hX.len
        simp (config := {implicitDefEqProofs := false, maxDischargeDepth := 20}) (disch := first | omega | (simp only [lenE]; done) | (simp only [lenE]; omega) | rfl | (simp only [lenE, markR_len]; done) | (simp only [lenE, markR_len]; omega)) only [runE, mapE, listE, initT_5, initT_6, initT_7, initT_8, resV, oneV, binA, unA, reduceCtorEq, Nat.reduceEqDiff, Nat.reduceAdd, Nat.reduceLT, Nat.reduceLeDiff, Nat.reduceMul, Nat.reduceSub, ↓reduceIte, decide_true, decide_false, Bool.true_eq_false, Bool.false_eq_true, Bool.not_true, Bool.not_false, if_true, if_false, and_true, true_and, memE, celE, w64, Nat.zero_add, Nat.add_zero, Nat.mul_one, putL, and_self, ldn, stP_aggL2]
        have ho2 := ho.ext [⟨.own, 83, [.int .i64 (bfV k life).1, .slice (some ⟨id, 0, none⟩) (bfV k life).2.length fl]⟩]
        refine ext_ansO (f := fun v => .tuple #[v, .int .i64 (bfV k life).1, .bool true]) ((hX.app nr2).one _ _) fun M' hM => ?_
        exact IntsA.ownO (l := (bfV k life).2) (ho2.at_ (hM _ (by omega) ho2.lt)) (by omega) (by omega) ho2.lt
theorem specBestFresh_rc (m : Mem) (v : Value) (k : Cs) (life : Int) (h : CaseA m v k) :
    RC Try.prog 54 [v, .int .i64 life] m (AnsL3 m (bfA k life) (bfC k life) (lifeOk k life)) := (specBestFresh_o m v k life h).mono fun _ _ h => h.l3
theorem implBestFresh_rc (m : Mem) (v : Value) (k : Cs) (life : Int) (h : CaseA m v k) :
    RC Try.prog 55 [v, .int .i64 life] m (AnsL3 m (bfA k life) (bfC k life) (lifeOk k life)) := (implBestFresh_o m v k life h).mono fun _ _ h => h.l3
end Go.Proofs.Ytihjcjhnkpkomaa.Ab
