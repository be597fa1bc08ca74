/- Shelves: the first set of periods with the greatest lost bound. -/
import Derived.Test.YtihjcjhnkpkomaaAbSh8
import Derived.Test.YtihjcjhnkpkomaaAbSets
import Derived.Test.YtihjcjhnkpkomaaAbNilRow
namespace Go.Proofs.Ytihjcjhnkpkomaa.Ab
open Go Go.RowKit
set_option linter.unusedVariables false
set_option linter.unusedSimpArgs false

def costP (s : Sh) (set : List Int) : Option Int := some (-(boundV s set))
def proofC (s : Sh) (c : Nat) : List Int := (bestV (bestO (costP s) s.need.length c)).2
def proof9A (s : Sh) : List Int := if s.good then proofC s (2 ^ s.need.length) else []
theorem bitsL_zero (n : Nat) : bitsL 0 n = [] := by
  induction n with
  | zero => rfl
  | succ n ih => rw [bitsL, ih]; simp
theorem subA_nil (s : Sh) (k : Nat) : subA s [] k = 0 := by
  induction k with
  | zero => rfl
  | succ k ih => simp only [subA, ih]; simp [useAny]
theorem boundV_nil (s : Sh) : boundV s [] = 0 := by
  unfold boundV
  rw [subA_nil]
  rfl
theorem boundV_bd {s : Sh} (hg : GoodSh s) {set : List Int} (hr : Rising set s.need.length) : -160 ≤ boundV s set ∧ boundV s set ≤ 160 := by
  have h1 := needS_bd hg hr set.length (Nat.le_refl _)
  have h2 := subA_bd hg set s.arr.length (Nat.le_refl _)
  have := hr.len
  have := hg.n8
  have := hg.la
  unfold boundV
  omega
theorem proof_step (s : Sh) : ∀ c, bestO (costP s) s.need.length (c + 1) = some (-(boundV s (proofC s (c + 1))), proofC s (c + 1)) ∧ Rising (proofC s (c + 1)) s.need.length := by
  intro c
  induction c with
  | zero =>
    have e : bestO (costP s) s.need.length (0 + 1) = some (-(boundV s []), []) := by
      simp only [bestO, costP, bitsL_zero]
    have e2 : proofC s (0 + 1) = [] := by unfold proofC; rw [e]; rfl
    rw [e2]
    exact ⟨e, Rising.nil _⟩
  | succ c ih =>
    obtain ⟨ih1, ih2⟩ := ih
    have e : bestO (costP s) s.need.length (c + 1 + 1) = if bef (-(boundV s (bitsL (c + 1) s.need.length)), bitsL (c + 1) s.need.length) (-(boundV s (proofC s (c + 1))), proofC s (c + 1)) then some (-(boundV s (bitsL (c + 1) s.need.length)), bitsL (c + 1) s.need.length) else some (-(boundV s (proofC s (c + 1))), proofC s (c + 1)) := by
      rw [bestO]
      simp only [costP]
      rw [show bestO (costP s) s.need.length (c + 1) = some (-(boundV s (proofC s (c + 1))), proofC s (c + 1)) from ih1]
    by_cases hb : bef (-(boundV s (bitsL (c + 1) s.need.length)), bitsL (c + 1) s.need.length) (-(boundV s (proofC s (c + 1))), proofC s (c + 1)) = true
    · rw [if_pos hb] at e
      have e2 : proofC s (c + 1 + 1) = bitsL (c + 1) s.need.length := by unfold proofC; rw [e]; rfl
      rw [e2]
      exact ⟨e, bitsL_rising _ _⟩
    · rw [if_neg hb] at e
      have e2 : proofC s (c + 1 + 1) = proofC s (c + 1) := by
        conv => lhs; unfold proofC
        rw [e]; rfl
      rw [e2]
      exact ⟨e, ih2⟩
theorem proof_next (s : Sh) (c : Nat) : proofC s (c + 1 + 1) = if boundV s (proofC s (c + 1)) < boundV s (bitsL (c + 1) s.need.length) ∨ (boundV s (bitsL (c + 1) s.need.length) = boundV s (proofC s (c + 1)) ∧ beforeB (bitsL (c + 1) s.need.length) (proofC s (c + 1)) = true) then bitsL (c + 1) s.need.length else proofC s (c + 1) := by
  obtain ⟨ih1, ih2⟩ := proof_step s c
  have e : bestO (costP s) s.need.length (c + 1 + 1) = if bef (-(boundV s (bitsL (c + 1) s.need.length)), bitsL (c + 1) s.need.length) (-(boundV s (proofC s (c + 1))), proofC s (c + 1)) then some (-(boundV s (bitsL (c + 1) s.need.length)), bitsL (c + 1) s.need.length) else some (-(boundV s (proofC s (c + 1))), proofC s (c + 1)) := by
    rw [bestO]
    simp only [costP]
    rw [show bestO (costP s) s.need.length (c + 1) = some (-(boundV s (proofC s (c + 1))), proofC s (c + 1)) from ih1]
  have hiff : bef (-(boundV s (bitsL (c + 1) s.need.length)), bitsL (c + 1) s.need.length) (-(boundV s (proofC s (c + 1))), proofC s (c + 1)) = true ↔ (boundV s (proofC s (c + 1)) < boundV s (bitsL (c + 1) s.need.length) ∨ (boundV s (bitsL (c + 1) s.need.length) = boundV s (proofC s (c + 1)) ∧ beforeB (bitsL (c + 1) s.need.length) (proofC s (c + 1)) = true)) := by
    unfold bef
    simp only
    by_cases h : boundV s (bitsL (c + 1) s.need.length) = boundV s (proofC s (c + 1))
    · rw [if_pos (by omega)]
      constructor
      · intro h2; exact .inr ⟨h, h2⟩
      · rintro (h2 | h2)
        · omega
        · exact h2.2
    · rw [if_neg (by omega), decide_eq_true_eq]
      constructor
      · intro h2; exact .inl (by omega)
      · rintro (h2 | h2)
        · omega
        · exact absurd h2.1 h
  conv => lhs; unfold proofC
  rw [e]
  by_cases hb : bef (-(boundV s (bitsL (c + 1) s.need.length)), bitsL (c + 1) s.need.length) (-(boundV s (proofC s (c + 1))), proofC s (c + 1)) = true
  · rw [if_pos hb, if_pos (hiff.1 hb)]; rfl
  · rw [if_neg hb, if_neg (fun h => hb (hiff.2 h))]; rfl
theorem lostProof1_cost (m : Mem) (id : Nat) (a b : Value) (s : Sh) (hg : GoodSh s) (hid : rdc m id 0 = some (.int .i64 s.life) ∧ rdc m id 1 = some a ∧ rdc m id 2 = some b ∧ rdc m id 3 = some (.int .i64 s.waste) ∧ rdc m id 4 = some (.int .i64 s.lost)) (ha : IntsA m a s.arr) (hb : IntsA m b s.need) :
    CostF m (.func (.func 85) #[] #[.pointer (some ⟨id, 0, none⟩)]) s.need.length (costP s) := by
  refine ⟨_, _, rfl, fun M u c hM hc hu => ?_⟩
  refine rc_of_run mixed ok_impl_LostProof_1 (by simp) (go_start _ _ _ ?_)
  obtain ⟨q0, q1, q2, q3, q4⟩ := hid
  have rr : ∀ k v, rdc m id k = some v → rdc (roM M) id k = some v := fun k v h => by
    rw [rdc_roM]
    exact hM.rd h
  have xa := (hM.ints ha.ro).ro
  have xb := (hM.ints hb.ro).ro
  have hr := bitsL_rising c s.need.length
  have bd := boundV_bd hg hr
  simp (config := {implicitDefEqProofs := false, maxDischargeDepth := 20}) (disch := first | omega | (simp only [lenE]; done) | (simp only [lenE]; omega) | rfl | (simp only [lenE, markR_len]; done) | (simp only [lenE, markR_len]; omega)) only [runE, mapE, listE, initT_5, initT_6, initT_7, initT_8, resV, oneV, binA, unA, reduceCtorEq, Nat.reduceEqDiff, Nat.reduceAdd, Nat.reduceLT, Nat.reduceLeDiff, Nat.reduceMul, Nat.reduceSub, ↓reduceIte, decide_true, decide_false, Bool.true_eq_false, Bool.false_eq_true, Bool.not_true, Bool.not_false, if_true, if_false, and_true, true_and, memE, celE, w64, Nat.zero_add, Nat.add_zero, Nat.mul_one, putL, and_self, ldn, c_impl_LostProof_1, r_impl_LostProof_1, rr 0 _ q0, rr 1 _ q1, rr 2 _ q2, rr 3 _ q3, rr 4 _ q4]
  refine callH_rc (lostBound_rc _ _ u s (bitsL c s.need.length) (ShA.mk xa xb) hu.ro hg hr) ?_
  rintro r new ⟨rfl, nr⟩
  simp (config := {implicitDefEqProofs := false, maxDischargeDepth := 20}) (disch := first | omega | (simp only [lenE]; done) | (simp only [lenE]; omega) | rfl | (simp only [lenE, markR_len]; done) | (simp only [lenE, markR_len]; omega)) only [runE, mapE, listE, initT_5, initT_6, initT_7, initT_8, resV, oneV, binA, unA, reduceCtorEq, Nat.reduceEqDiff, Nat.reduceAdd, Nat.reduceLT, Nat.reduceLeDiff, Nat.reduceMul, Nat.reduceSub, ↓reduceIte, decide_true, decide_false, Bool.true_eq_false, Bool.false_eq_true, Bool.not_true, Bool.not_false, if_true, if_false, and_true, true_and, memE, celE, w64, Nat.zero_add, Nat.add_zero, Nat.mul_one, putL, and_self, ldn]
  refine ext_ansV ((Ext.refl M).app nr) ?_
  have e : (0 : Int) - boundV s (bitsL c s.need.length) = -(boundV s (bitsL c s.need.length)) := by omega
  rw [e]
  rfl
theorem implProof9_pre (m : Mem) (v : Value) (s : Sh) (h : ShA m v s) :
    RC Try.prog 48 [v] m fun r new => AnsO m (IntsO (proof9A s)) (fun v => .tuple #[v, .bool s.good]) r new ∨ ((proof9A s = [] ∧ s.good = true) ∧ NoRo new ∧ r = .tuple #[.slice none 0 0, .bool s.good]) := by
  refine rc_of_run mixed ok_impl_LostProof (by simp) (go_start _ _ _ ?_)
  obtain ⟨a, b, rfl, ha, hb⟩ := h.ro
  have hX := (Ext.refl m).one 27 [.int .i64 s.life, a, b, .int .i64 s.waste, .int .i64 s.lost]
  simp (config := {implicitDefEqProofs := false, maxDischargeDepth := 20}) (disch := first | omega | (simp only [lenE]; done) | (simp only [lenE]; omega) | rfl | (simp only [lenE, markR_len]; done) | (simp only [lenE, markR_len]; omega)) only [runE, mapE, listE, initT_5, initT_6, initT_7, initT_8, resV, oneV, binA, unA, reduceCtorEq, Nat.reduceEqDiff, Nat.reduceAdd, Nat.reduceLT, Nat.reduceLeDiff, Nat.reduceMul, Nat.reduceSub, ↓reduceIte, decide_true, decide_false, Bool.true_eq_false, Bool.false_eq_true, Bool.not_true, Bool.not_false, if_true, if_false, and_true, true_and, memE, celE, w64, Nat.zero_add, Nat.add_zero, Nat.mul_one, putL, and_self, ldn, c_impl_LostProof, r_impl_LostProof]
  obtain ⟨M0, hM0⟩ : ∃ M0, M0 = roM m ++ [⟨.own, 27, [.int .i64 s.life, a, b, .int .i64 s.waste, .int .i64 s.lost]⟩] := ⟨_, rfl⟩
  have o1 : OwnB M0 m.length 27 [.int .i64 s.life, a, b, .int .i64 s.waste, .int .i64 s.lost] := by rw [hM0]; exact OwnB.here (by simp [roM_len])
  rw [← hM0] at hX ⊢
  refine callH_rc (implIsShelf_rc _ _ s (ShA.mk (hX.ints ha) (hX.ints hb))) ?_
  rintro r n1 ⟨rfl, nr1⟩
  replace hX := hX.app nr1
  replace o1 := o1.ext n1
  obtain ⟨M1, hM1⟩ : ∃ M1, M1 = M0 ++ n1 := ⟨_, rfl⟩
  rw [← hM1] at hX o1 ⊢
  have hlm := o1.lt
  have up : ∀ {M : Mem} {v : Value} {l : List Int} {ok : Bool} {p : Prop}, newQ m (AnsO m (IntsO l) fun v => .tuple #[v, .bool ok]) v M → newQ m (fun r new => AnsO m (IntsO l) (fun v => .tuple #[v, .bool ok]) r new ∨ (p ∧ NoRo new ∧ r = .tuple #[.slice none 0 0, .bool ok])) v M := by
    rintro M v l ok p ⟨new, h1, h2, h3⟩
    exact ⟨new, h1, h2, .inl h3⟩
  cases hg : s.good with
  | false =>
    simp (config := {implicitDefEqProofs := false, maxDischargeDepth := 20}) (disch := first | omega | (simp only [lenE]; done) | (simp only [lenE]; omega) | rfl | (simp only [lenE, markR_len]; done) | (simp only [lenE, markR_len]; omega)) only [runE, mapE, listE, initT_5, initT_6, initT_7, initT_8, resV, oneV, binA, unA, reduceCtorEq, Nat.reduceEqDiff, Nat.reduceAdd, Nat.reduceLT, Nat.reduceLeDiff, Nat.reduceMul, Nat.reduceSub, ↓reduceIte, decide_true, decide_false, Bool.true_eq_false, Bool.false_eq_true, Bool.not_true, Bool.not_false, if_true, if_false, and_true, true_and, memE, celE, w64, Nat.zero_add, Nat.add_zero, Nat.mul_one, putL, and_self, ldn, bsl_no]
    unfold proof9A
    rw [hg]
    exact up (ext_noInts (f := fun v => .tuple #[v, .bool false]) hX rfl)
  | true =>
    have gd := goodSh_iff.1 hg
    have n8 := gd.n8
    have CF := lostProof1_cost M1 m.length a b s gd ⟨o1.rd 0, o1.rd 1, o1.rd 2, o1.rd 3, o1.rd 4⟩ (hX.ints ha) (hX.ints hb)
    simp (config := {implicitDefEqProofs := false, maxDischargeDepth := 20}) (disch := first | omega | (simp only [lenE]; done) | (simp only [lenE]; omega) | rfl | (simp only [lenE, markR_len]; done) | (simp only [lenE, markR_len]; omega)) only [runE, mapE, listE, initT_5, initT_6, initT_7, initT_8, resV, oneV, binA, unA, reduceCtorEq, Nat.reduceEqDiff, Nat.reduceAdd, Nat.reduceLT, Nat.reduceLeDiff, Nat.reduceMul, Nat.reduceSub, ↓reduceIte, decide_true, decide_false, Bool.true_eq_false, Bool.false_eq_true, Bool.not_true, Bool.not_false, if_true, if_false, and_true, true_and, memE, celE, w64, Nat.zero_add, Nat.add_zero, Nat.mul_one, putL, and_self, ldn, o1.rd, (hX.ints hb).len]
    refine callH_rc (bestOfSets_rc M1 _ s.need.length (costP s) n8 CF ?_) ?_
    · intro c x hc hx
      simp only [costP, Option.some.injEq] at hx
      have := boundV_bd gd (bitsL_rising c s.need.length)
      omega
    rintro r n2 ⟨nr2, pv, rfl, hL⟩
    have h1 : onesB [pv] = true := hL.one []
    simp (config := {implicitDefEqProofs := false, maxDischargeDepth := 20}) (disch := first | omega | (simp only [lenE]; done) | (simp only [lenE]; omega) | rfl | (simp only [lenE, markR_len]; done) | (simp only [lenE, markR_len]; omega)) only [runE, mapE, listE, initT_5, initT_6, initT_7, initT_8, resV, oneV, binA, unA, reduceCtorEq, Nat.reduceEqDiff, Nat.reduceAdd, Nat.reduceLT, Nat.reduceLeDiff, Nat.reduceMul, Nat.reduceSub, ↓reduceIte, decide_true, decide_false, Bool.true_eq_false, Bool.false_eq_true, Bool.not_true, Bool.not_false, if_true, if_false, and_true, true_and, memE, celE, w64, Nat.zero_add, Nat.add_zero, Nat.mul_one, putL, and_self, ldn, stP_aggL2, h1]
    have eP : proof9A s = proofC s (2 ^ s.need.length) := by unfold proof9A; rw [hg, if_pos rfl]
    have hX2 := (hX.app nr2).one 83 [.int .i64 (bestV (bestO (costP s) s.need.length (2 ^ s.need.length))).1, pv]
    have hlen : (proofC s (2 ^ s.need.length)).length ≤ s.need.length := bestO_len _ _ _
    rcases hL with ⟨_, rfl, e0⟩ | ⟨id, fl, rfl, hid, ho⟩
    · obtain ⟨n0, e1, nr0⟩ := hX2
      rw [e1]
      exact ⟨n0, rfl, nr0, .inr ⟨eP.trans e0, nr0, rfl⟩⟩
    · rw [eP]
      have ho2 := ho.ext [⟨.own, 83, [.int .i64 (bestV (bestO (costP s) s.need.length (2 ^ s.need.length))).1, .slice (some ⟨id, 0, none⟩) (proofC s (2 ^ s.need.length)).length fl]⟩]
      refine up ?_
      refine ext_ansO (f := fun v => .tuple #[v, .bool true]) hX2 fun M' hM => ?_
      exact IntsA.ownO (ho2.at_ (hM _ (by omega) ho2.lt)) (by show (proofC s (2 ^ s.need.length)).length ≤ _; omega) (by omega) ho2.lt
theorem implProof9_rc (m : Mem) (v : Value) (s : Sh) (h : ShA m v s) :
    RC Try.prog 48 [v] m (AnsO m (IntsO (proof9A s)) fun v => .tuple #[v, .bool s.good]) := by
  refine rc_nilRow9 (implProof9_pre m v s h) fun new hp hn => ?_
  rw [hp.1]
  exact nilRow_ans hn
theorem specProof9_rc (m : Mem) (v : Value) (s : Sh) (h : ShA m v s) :
    RC Try.prog 47 [v] m (AnsO m (IntsO (proof9A s)) fun v => .tuple #[v, .bool s.good]) := by
  refine rc_of_run mixed ok_spec_LostProof (by simp) (go_start _ _ _ ?_)
  obtain ⟨a, b, rfl, ha, hb⟩ := h.ro
  have hX := ((Ext.refl m).one 27 [.int .i64 s.life, a, b, .int .i64 s.waste, .int .i64 s.lost]).one 3 []
  simp (config := {implicitDefEqProofs := false, maxDischargeDepth := 20}) (disch := first | omega | (simp only [lenE]; done) | (simp only [lenE]; omega) | rfl | (simp only [lenE, markR_len]; done) | (simp only [lenE, markR_len]; omega)) only [runE, mapE, listE, initT_5, initT_6, initT_7, initT_8, resV, oneV, binA, unA, reduceCtorEq, Nat.reduceEqDiff, Nat.reduceAdd, Nat.reduceLT, Nat.reduceLeDiff, Nat.reduceMul, Nat.reduceSub, ↓reduceIte, decide_true, decide_false, Bool.true_eq_false, Bool.false_eq_true, Bool.not_true, Bool.not_false, if_true, if_false, and_true, true_and, memE, celE, w64, Nat.zero_add, Nat.add_zero, Nat.mul_one, putL, and_self, ldn, c_spec_LostProof, r_spec_LostProof, bsl_no]
  obtain ⟨M0, hM0⟩ : ∃ M0, M0 = roM m ++ [⟨.own, 27, [.int .i64 s.life, a, b, .int .i64 s.waste, .int .i64 s.lost]⟩] ++ [⟨.own, 3, []⟩] := ⟨_, rfl⟩
  have o1 : OwnB M0 m.length 27 [.int .i64 s.life, a, b, .int .i64 s.waste, .int .i64 s.lost] := by rw [hM0]; exact (OwnB.here (by simp [roM_len])).ext _
  have r1 : OwnR M0 (m.length + 1) [] := by rw [hM0]; exact OwnR.end' (l := []) (by simp [roM_len])
  rw [← hM0] at hX ⊢
  refine callH_rc (l9Good_rc _ _ s (ShA.mk (hX.ints ha) (hX.ints hb))) ?_
  rintro r n1 ⟨rfl, nr1⟩
  replace hX := hX.app nr1
  replace o1 := o1.ext n1
  replace r1 := r1.ext n1
  obtain ⟨M1, hM1⟩ : ∃ M1, M1 = M0 ++ n1 := ⟨_, rfl⟩
  rw [← hM1] at hX o1 r1 ⊢
  unfold proof9A
  cases hg : s.good with
  | false =>
    simp (config := {implicitDefEqProofs := false, maxDischargeDepth := 20}) (disch := first | omega | (simp only [lenE]; done) | (simp only [lenE]; omega) | rfl | (simp only [lenE, markR_len]; done) | (simp only [lenE, markR_len]; omega)) only [runE, mapE, listE, initT_5, initT_6, initT_7, initT_8, resV, oneV, binA, unA, reduceCtorEq, Nat.reduceEqDiff, Nat.reduceAdd, Nat.reduceLT, Nat.reduceLeDiff, Nat.reduceMul, Nat.reduceSub, ↓reduceIte, decide_true, decide_false, Bool.true_eq_false, Bool.false_eq_true, Bool.not_true, Bool.not_false, if_true, if_false, and_true, true_and, memE, celE, w64, Nat.zero_add, Nat.add_zero, Nat.mul_one, putL, and_self, ldn]
    refine ext_ansO (f := fun v => .tuple #[v, .bool false]) hX fun M' hM => ?_
    exact IntsA.ownO (l := []) (fl := 1) (r1.at_ (hM _ (by omega) r1.lt)) (by simp) (by omega) r1.lt
  | true =>
    have gd := goodSh_iff.1 hg
    have n8 := gd.n8
    rw [if_pos rfl]
    have h28 : 2 ^ s.need.length ≤ 2 ^ 8 := Nat.pow_le_pow_right (by omega) n8
    have h1 : 1 ≤ 2 ^ s.need.length := Nat.one_le_two_pow
    have sh := shl1 n8
    have hn0 : ¬ ((s.need.length : Int) < 0) := by omega
    obtain ⟨NN, hNN⟩ : ∃ NN, NN = 2 ^ s.need.length := ⟨_, rfl⟩
    rw [← hNN] at h28 h1 sh ⊢
    obtain ⟨p1, p2⟩ := proof_step s 0
    have e0 : proofC s (0 + 1) = [] := by
      unfold proofC
      simp only [bestO, costP, bitsL_zero]; rfl
    simp (config := {implicitDefEqProofs := false, maxDischargeDepth := 20}) (disch := first | omega | (simp only [lenE]; done) | (simp only [lenE]; omega) | rfl | (simp only [lenE, markR_len]; done) | (simp only [lenE, markR_len]; omega)) only [runE, mapE, listE, initT_5, initT_6, initT_7, initT_8, resV, oneV, binA, unA, reduceCtorEq, Nat.reduceEqDiff, Nat.reduceAdd, Nat.reduceLT, Nat.reduceLeDiff, Nat.reduceMul, Nat.reduceSub, ↓reduceIte, decide_true, decide_false, Bool.true_eq_false, Bool.false_eq_true, Bool.not_true, Bool.not_false, if_true, if_false, and_true, true_and, memE, celE, w64, Nat.zero_add, Nat.add_zero, Nat.mul_one, putL, and_self, ldn]
    refine loop_inv mixed (fun s' => ∃ (c : Nat) (M : Mem) (id fl : Nat), c + 1 ≤ NN ∧ s'.m = M ∧ Ext m M ∧ OwnB M m.length 27 [.int .i64 s.life, a, b, .int .i64 s.waste, .int .i64 s.lost] ∧ OwnR M id (proofC s (c + 1)) ∧ m.length < id ∧ s'.t 1 = .pointer (some ⟨m.length, 0, none⟩) ∧ s'.t 4 = .slice (some ⟨id, 0, none⟩) (proofC s (c + 1)).length fl ∧ s'.t 5 = .int .i64 ((c : Int) + 1)) (fun s' => NN - (intOf (s'.t 5)).toNat)
      ⟨0, M1, m.length + 1, 1, by omega, rfl, hX, o1, by rw [e0]; exact r1, by omega, rfl, by rw [e0]; rfl, rfl⟩ ?_
    clear hX o1 r1
    rintro s' ⟨c, M, id, fl, hk, tm, hX, o1, r1, hid, t1, t4, t5⟩
    obtain ⟨q1, q2⟩ := proof_step s c
    have hlen := q2.len
    have xb := hX.ints hb
    by_cases hlt : c + 1 < NN
    · have hlt' : (c : Int) + 1 < NN := by omega
      have KB := l2Bits_rc M s.need.length (c + 1) n8 (by omega)
      rw [show (((c + 1 : Nat)) : Int) = (c : Int) + 1 by omega] at KB
      simp (config := {implicitDefEqProofs := false, maxDischargeDepth := 20}) (disch := first | omega | (simp only [lenE]; done) | (simp only [lenE]; omega) | rfl | (simp only [lenE, markR_len]; done) | (simp only [lenE, markR_len]; omega)) only [runE, mapE, listE, initT_5, initT_6, initT_7, initT_8, resV, oneV, binA, unA, reduceCtorEq, Nat.reduceEqDiff, Nat.reduceAdd, Nat.reduceLT, Nat.reduceLeDiff, Nat.reduceMul, Nat.reduceSub, ↓reduceIte, decide_true, decide_false, Bool.true_eq_false, Bool.false_eq_true, Bool.not_true, Bool.not_false, if_true, if_false, and_true, true_and, memE, celE, w64, Nat.zero_add, Nat.add_zero, Nat.mul_one, putL, and_self, ldn, tm, t1, t4, t5, o1.rd, xb.len, hn0, sh, hlt']
      refine callH_rc KB ?_
      intro r n2 hA
      obtain ⟨pid, pf, rfl, pge, op, ple, nr2⟩ := hA.row
      have hrp := bitsL_rising (c + 1) s.need.length
      have hnx := proof_next s c
      obtain ⟨ps, hps⟩ : ∃ ps, ps = bitsL (c + 1) s.need.length := ⟨_, rfl⟩
      rw [← hps] at op ple hrp hnx ⊢
      have hml := o1.lt
      replace hX := hX.app nr2
      replace o1 := o1.ext n2
      replace r1 := r1.ext n2
      obtain ⟨M2, hM2⟩ : ∃ M2, M2 = M ++ n2 := ⟨_, rfl⟩
      rw [← hM2] at hX o1 r1 op ⊢
      have ip := op.ints (by omega) pf
      have iq := r1.ints (by omega) fl
      have bd1 := boundV_bd gd hrp
      have bd2 := boundV_bd gd q2
      simp (config := {implicitDefEqProofs := false, maxDischargeDepth := 20}) (disch := first | omega | (simp only [lenE]; done) | (simp only [lenE]; omega) | rfl | (simp only [lenE, markR_len]; done) | (simp only [lenE, markR_len]; omega)) only [runE, mapE, listE, initT_5, initT_6, initT_7, initT_8, resV, oneV, binA, unA, reduceCtorEq, Nat.reduceEqDiff, Nat.reduceAdd, Nat.reduceLT, Nat.reduceLeDiff, Nat.reduceMul, Nat.reduceSub, ↓reduceIte, decide_true, decide_false, Bool.true_eq_false, Bool.false_eq_true, Bool.not_true, Bool.not_false, if_true, if_false, and_true, true_and, memE, celE, w64, Nat.zero_add, Nat.add_zero, Nat.mul_one, putL, and_self, ldn, t1, t4, t5, o1.rd]
      refine rcallH_rc (l9Bound_rc M2 _ _ s ps (ShA.mk (hX.ints ha) (hX.ints hb)) ip gd hrp) ?_
      rintro r n3 ⟨rfl, nr3⟩
      simp (config := {implicitDefEqProofs := false, maxDischargeDepth := 20}) (disch := first | omega | (simp only [lenE]; done) | (simp only [lenE]; omega) | rfl | (simp only [lenE, markR_len]; done) | (simp only [lenE, markR_len]; omega)) only [runE, mapE, listE, initT_5, initT_6, initT_7, initT_8, resV, oneV, binA, unA, reduceCtorEq, Nat.reduceEqDiff, Nat.reduceAdd, Nat.reduceLT, Nat.reduceLeDiff, Nat.reduceMul, Nat.reduceSub, ↓reduceIte, decide_true, decide_false, Bool.true_eq_false, Bool.false_eq_true, Bool.not_true, Bool.not_false, if_true, if_false, and_true, true_and, memE, celE, w64, Nat.zero_add, Nat.add_zero, Nat.mul_one, putL, and_self, ldn, t1, t4, t5]
      have hX3 := hX.app nr3
      refine rcallH_rc (l9Bound_rc (M2 ++ n3) _ _ s (proofC s (c + 1)) (ShA.mk (hX3.ints ha) (hX3.ints hb)) (iq.ext n3) gd q2) ?_
      rintro r n4 ⟨rfl, nr4⟩
      have hX4 := hX3.app nr4
      have o14 := (o1.ext n3).ext n4
      have r14 := (r1.ext n3).ext n4
      have op4 := (op.ext n3).ext n4
      have ip4 := (ip.ext n3).ext n4
      have iq4 := (iq.ext n3).ext n4
      obtain ⟨M4, hM4⟩ : ∃ M4, M4 = M2 ++ n3 ++ n4 := ⟨_, rfl⟩
      rw [← hM4] at hX4 o14 r14 op4 ip4 iq4 ⊢
      obtain ⟨x, hx⟩ : ∃ x, x = boundV s ps := ⟨_, rfl⟩
      obtain ⟨y, hy⟩ : ∃ y, y = boundV s (proofC s (c + 1)) := ⟨_, rfl⟩
      rw [← hx] at bd1 hnx ⊢
      rw [← hy] at bd2 hnx ⊢
      have yes : (y < x ∨ (x = y ∧ beforeB ps (proofC s (c + 1)) = true)) → proofC s (c + 1 + 1) = ps := fun hh => by rw [hnx, if_pos hh]
      have nope : ¬ (y < x ∨ (x = y ∧ beforeB ps (proofC s (c + 1)) = true)) → proofC s (c + 1 + 1) = proofC s (c + 1) := fun hh => by rw [hnx, if_neg hh]
      by_cases d1 : y < x
      · have e := yes (.inl d1)
        simp (config := {implicitDefEqProofs := false, maxDischargeDepth := 20}) (disch := first | omega | (simp only [lenE]; done) | (simp only [lenE]; omega) | rfl | (simp only [lenE, markR_len]; done) | (simp only [lenE, markR_len]; omega)) only [runE, mapE, listE, initT_5, initT_6, initT_7, initT_8, resV, oneV, binA, unA, reduceCtorEq, Nat.reduceEqDiff, Nat.reduceAdd, Nat.reduceLT, Nat.reduceLeDiff, Nat.reduceMul, Nat.reduceSub, ↓reduceIte, decide_true, decide_false, Bool.true_eq_false, Bool.false_eq_true, Bool.not_true, Bool.not_false, if_true, if_false, and_true, true_and, memE, celE, w64, Nat.zero_add, Nat.add_zero, Nat.mul_one, putL, and_self, ldn, t1, t4, t5, gt_iff_lt, d1, goG_undef]
        refine ⟨⟨c + 1, M4, pid, pf, by omega, rfl, hX4, o14, by rw [e]; exact op4, by omega, by rw [e], by simp⟩, ?_⟩
        simp [intOf]; omega
      · by_cases d2 : x = y
        · have d2' : (x == y) = true := by rw [d2]; simp
          simp (config := {implicitDefEqProofs := false, maxDischargeDepth := 20}) (disch := first | omega | (simp only [lenE]; done) | (simp only [lenE]; omega) | rfl | (simp only [lenE, markR_len]; done) | (simp only [lenE, markR_len]; omega)) only [runE, mapE, listE, initT_5, initT_6, initT_7, initT_8, resV, oneV, binA, unA, reduceCtorEq, Nat.reduceEqDiff, Nat.reduceAdd, Nat.reduceLT, Nat.reduceLeDiff, Nat.reduceMul, Nat.reduceSub, ↓reduceIte, decide_true, decide_false, Bool.true_eq_false, Bool.false_eq_true, Bool.not_true, Bool.not_false, if_true, if_false, and_true, true_and, memE, celE, w64, Nat.zero_add, Nat.add_zero, Nat.mul_one, putL, and_self, ldn, t1, t4, t5, gt_iff_lt, d1, d2', goG_undef]
          refine callH_rc (l2Before_rc M4 _ _ ps (proofC s (c + 1)) ip4 iq4) ?_
          rintro r n5 ⟨rfl, nr5⟩
          cases hb9 : beforeB ps (proofC s (c + 1)) with
          | true =>
            have e := yes (.inr ⟨d2, hb9⟩)
            simp (config := {implicitDefEqProofs := false, maxDischargeDepth := 20}) (disch := first | omega | (simp only [lenE]; done) | (simp only [lenE]; omega) | rfl | (simp only [lenE, markR_len]; done) | (simp only [lenE, markR_len]; omega)) only [runE, mapE, listE, initT_5, initT_6, initT_7, initT_8, resV, oneV, binA, unA, reduceCtorEq, Nat.reduceEqDiff, Nat.reduceAdd, Nat.reduceLT, Nat.reduceLeDiff, Nat.reduceMul, Nat.reduceSub, ↓reduceIte, decide_true, decide_false, Bool.true_eq_false, Bool.false_eq_true, Bool.not_true, Bool.not_false, if_true, if_false, and_true, true_and, memE, celE, w64, Nat.zero_add, Nat.add_zero, Nat.mul_one, putL, and_self, ldn, t1, t4, t5]
            refine ⟨⟨c + 1, M4 ++ n5, pid, pf, by omega, rfl, hX4.app nr5, o14.ext _, by rw [e]; exact op4.ext _, by omega, by rw [e], by simp⟩, ?_⟩
            simp [intOf]; omega
          | false =>
            have e := nope (fun hh => by rcases hh with hh | hh; exact d1 hh; rw [hb9] at hh; cases hh.2)
            simp (config := {implicitDefEqProofs := false, maxDischargeDepth := 20}) (disch := first | omega | (simp only [lenE]; done) | (simp only [lenE]; omega) | rfl | (simp only [lenE, markR_len]; done) | (simp only [lenE, markR_len]; omega)) only [runE, mapE, listE, initT_5, initT_6, initT_7, initT_8, resV, oneV, binA, unA, reduceCtorEq, Nat.reduceEqDiff, Nat.reduceAdd, Nat.reduceLT, Nat.reduceLeDiff, Nat.reduceMul, Nat.reduceSub, ↓reduceIte, decide_true, decide_false, Bool.true_eq_false, Bool.false_eq_true, Bool.not_true, Bool.not_false, if_true, if_false, and_true, true_and, memE, celE, w64, Nat.zero_add, Nat.add_zero, Nat.mul_one, putL, and_self, ldn, t1, t4, t5]
            refine ⟨⟨c + 1, M4 ++ n5, id, fl, by omega, rfl, hX4.app nr5, o14.ext _, by rw [e]; exact r14.ext _, by omega, by rw [e], by simp⟩, ?_⟩
            simp [intOf]; omega
        · have d2' : (x == y) = false := by simpa using d2
          have e := nope (fun hh => by rcases hh with hh | hh; exact d1 hh; exact d2 hh.1)
          simp (config := {implicitDefEqProofs := false, maxDischargeDepth := 20}) (disch := first | omega | (simp only [lenE]; done) | (simp only [lenE]; omega) | rfl | (simp only [lenE, markR_len]; done) | (simp only [lenE, markR_len]; omega)) only [runE, mapE, listE, initT_5, initT_6, initT_7, initT_8, resV, oneV, binA, unA, reduceCtorEq, Nat.reduceEqDiff, Nat.reduceAdd, Nat.reduceLT, Nat.reduceLeDiff, Nat.reduceMul, Nat.reduceSub, ↓reduceIte, decide_true, decide_false, Bool.true_eq_false, Bool.false_eq_true, Bool.not_true, Bool.not_false, if_true, if_false, and_true, true_and, memE, celE, w64, Nat.zero_add, Nat.add_zero, Nat.mul_one, putL, and_self, ldn, t1, t4, t5, gt_iff_lt, d1, d2', goG_undef]
          refine ⟨⟨c + 1, M4, id, fl, by omega, rfl, hX4, o14, by rw [e]; exact r14, by omega, by rw [e], by simp⟩, ?_⟩
          simp [intOf]; omega
    · have hlt' : ¬ ((c : Int) + 1 < NN) := by omega
      have e : NN = c + 1 := by omega
      simp (config := {implicitDefEqProofs := false, maxDischargeDepth := 20}) (disch := first | omega | (simp only [lenE]; done) | (simp only [lenE]; omega) | rfl | (simp only [lenE, markR_len]; done) | (simp only [lenE, markR_len]; omega)) only [runE, mapE, listE, initT_5, initT_6, initT_7, initT_8, resV, oneV, binA, unA, reduceCtorEq, Nat.reduceEqDiff, Nat.reduceAdd, Nat.reduceLT, Nat.reduceLeDiff, Nat.reduceMul, Nat.reduceSub, ↓reduceIte, decide_true, decide_false, Bool.true_eq_false, Bool.false_eq_true, Bool.not_true, Bool.not_false, if_true, if_false, and_true, true_and, memE, celE, w64, Nat.zero_add, Nat.add_zero, Nat.mul_one, putL, and_self, ldn, tm, t1, t4, t5, o1.rd, xb.len, hn0, sh, hlt']
      rw [e]
      refine ext_ansO (f := fun v => .tuple #[v, .bool true]) hX fun M' hM => ?_
      exact IntsA.ownO (r1.at_ (hM _ (by omega) r1.lt)) (by omega) (by omega) r1.lt
end Go.Proofs.Ytihjcjhnkpkomaa.Ab
