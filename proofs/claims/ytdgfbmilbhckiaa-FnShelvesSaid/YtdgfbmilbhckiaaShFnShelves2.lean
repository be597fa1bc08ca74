/- What the law needs of the texts that it rests on. -/
import Derived.Test.YtdgfbmilbhckiaaShFnShelves1
section
namespace Go.Proofs.Ytdgfbmilbhckiaa.Ab
open Go Go.RowKit
set_option linter.unusedVariables false
set_option linter.unusedSimpArgs false
def costP (s : Sh) (set : List Int) : Option Int := some (-(boundV s set))
def proofC (s : Sh) (c : Nat) : List Int := (bestV (bestO (costP s) s.need.length c)).2
def proof9A (s : Sh) : List Int := if s.good then proofC s (2 ^ s.need.length) else []
theorem bitsL_zero (n : Nat) : bitsL 0 n = [] := by
  induction n with
  | zero => rfl
  | succ n ih => rw [bitsL, ih]; simp
theorem boundV_bd {s : Sh} (hg : GoodSh s) {set : List Int} (hr : Rising set s.need.length) : -160 ≤ boundV s set ∧ boundV s set ≤ 160 := by
  have h1 := needS_bd hg hr set.length (Nat.le_refl _)
  have h2 := subA_bd hg set s.arr.length (Nat.le_refl _)
  have := hr.len
  have := hg.n8
  have := hg.la
  unfold boundV
  omega
theorem proof_step (s : Sh) : ∀ c, bestO (costP s) s.need.length (c + 1) = some (-(boundV s (proofC s (c + 1))), proofC s (c + 1)) ∧ Rising (proofC s (c + 1)) s.need.length := by
  intro c
  induction c with
  | zero =>
    have e : bestO (costP s) s.need.length (0 + 1) = some (-(boundV s []), []) := by
      simp only [bestO, costP, bitsL_zero]
    have e2 : proofC s (0 + 1) = [] := by unfold proofC; rw [e]; rfl
    rw [e2]
    exact ⟨e, Rising.nil _⟩
  | succ c ih =>
    obtain ⟨ih1, ih2⟩ := ih
    have e : bestO (costP s) s.need.length (c + 1 + 1) = if bef (-(boundV s (bitsL (c + 1) s.need.length)), bitsL (c + 1) s.need.length) (-(boundV s (proofC s (c + 1))), proofC s (c + 1)) then some (-(boundV s (bitsL (c + 1) s.need.length)), bitsL (c + 1) s.need.length) else some (-(boundV s (proofC s (c + 1))), proofC s (c + 1)) := by
      rw [bestO]
      simp only [costP]
      rw [show bestO (costP s) s.need.length (c + 1) = some (-(boundV s (proofC s (c + 1))), proofC s (c + 1)) from ih1]
    by_cases hb : bef (-(boundV s (bitsL (c + 1) s.need.length)), bitsL (c + 1) s.need.length) (-(boundV s (proofC s (c + 1))), proofC s (c + 1)) = true
    · rw [if_pos hb] at e
      have e2 : proofC s (c + 1 + 1) = bitsL (c + 1) s.need.length := by unfold proofC; rw [e]; rfl
      rw [e2]
      exact ⟨e, bitsL_rising _ _⟩
    · rw [if_neg hb] at e
      have e2 : proofC s (c + 1 + 1) = proofC s (c + 1) := by
        conv => lhs; unfold proofC
        rw [e]; rfl
      rw [e2]
      exact ⟨e, ih2⟩
theorem proof_next (s : Sh) (c : Nat) : proofC s (c + 1 + 1) = if boundV s (proofC s (c + 1)) < boundV s (bitsL (c + 1) s.need.length) ∨ (boundV s (bitsL (c + 1) s.need.length) = boundV s (proofC s (c + 1)) ∧ beforeB (bitsL (c + 1) s.need.length) (proofC s (c + 1)) = true) then bitsL (c + 1) s.need.length else proofC s (c + 1) := by
  obtain ⟨ih1, ih2⟩ := proof_step s c
  have e : bestO (costP s) s.need.length (c + 1 + 1) = if bef (-(boundV s (bitsL (c + 1) s.need.length)), bitsL (c + 1) s.need.length) (-(boundV s (proofC s (c + 1))), proofC s (c + 1)) then some (-(boundV s (bitsL (c + 1) s.need.length)), bitsL (c + 1) s.need.length) else some (-(boundV s (proofC s (c + 1))), proofC s (c + 1)) := by
    rw [bestO]
    simp only [costP]
    rw [show bestO (costP s) s.need.length (c + 1) = some (-(boundV s (proofC s (c + 1))), proofC s (c + 1)) from ih1]
  have hiff : bef (-(boundV s (bitsL (c + 1) s.need.length)), bitsL (c + 1) s.need.length) (-(boundV s (proofC s (c + 1))), proofC s (c + 1)) = true ↔ (boundV s (proofC s (c + 1)) < boundV s (bitsL (c + 1) s.need.length) ∨ (boundV s (bitsL (c + 1) s.need.length) = boundV s (proofC s (c + 1)) ∧ beforeB (bitsL (c + 1) s.need.length) (proofC s (c + 1)) = true)) := by
    unfold bef
    simp only
    by_cases h : boundV s (bitsL (c + 1) s.need.length) = boundV s (proofC s (c + 1))
    · rw [if_pos (by omega)]
      constructor
      · intro h2; exact .inr ⟨h, h2⟩
      · rintro (h2 | h2)
        · omega
        · exact h2.2
    · rw [if_neg (by omega), decide_eq_true_eq]
      constructor
      · intro h2; exact .inl (by omega)
      · rintro (h2 | h2)
        · omega
        · exact absurd h2.1 h
  conv => lhs; unfold proofC
  rw [e]
  by_cases hb : bef (-(boundV s (bitsL (c + 1) s.need.length)), bitsL (c + 1) s.need.length) (-(boundV s (proofC s (c + 1))), proofC s (c + 1)) = true
  · rw [if_pos hb, if_pos (hiff.1 hb)]; rfl
  · rw [if_neg hb, if_neg (fun h => hb (hiff.2 h))]; rfl
theorem lostProof1_cost (m : Mem) (id : Nat) (a b : Value) (s : Sh) (hg : GoodSh s) (hid : rdc m id 0 = some (.int .i64 s.life) ∧ rdc m id 1 = some a ∧ rdc m id 2 = some b ∧ rdc m id 3 = some (.int .i64 s.waste) ∧ rdc m id 4 = some (.int .i64 s.lost)) (ha : IntsA m a s.arr) (hb : IntsA m b s.need) :
    CostF m (.func (.func 58) #[] #[.pointer (some ⟨id, 0, none⟩)]) s.need.length (costP s) := by
  refine ⟨_, _, rfl, fun M u c hM hc hu => ?_⟩
  refine rc_of_run mixed ok_impl_LostProof_1 (by simp) (go_start _ _ _ ?_)
  obtain ⟨q0, q1, q2, q3, q4⟩ := hid
  have rr : ∀ k v, rdc m id k = some v → rdc (roM M) id k = some v := fun k v h => by
    rw [rdc_roM]
    exact hM.rd h
  have xa := (hM.ints ha.ro).ro
  have xb := (hM.ints hb.ro).ro
  have hr := bitsL_rising c s.need.length
  have bd := boundV_bd hg hr
  simp (config := {implicitDefEqProofs := false, maxDischargeDepth := 20}) (disch := first | omega | (simp only [lenE]; done) | (simp only [lenE]; omega) | rfl | (simp only [lenE, markR_len]; done) | (simp only [lenE, markR_len]; omega)) only [runE, mapE, listE, initT_5, initT_6, initT_7, initT_8, resV, oneV, binA, unA, reduceCtorEq, Nat.reduceEqDiff, Nat.reduceAdd, Nat.reduceLT, Nat.reduceLeDiff, Nat.reduceMul, Nat.reduceSub, ↓reduceIte, decide_true, decide_false, Bool.true_eq_false, Bool.false_eq_true, Bool.not_true, Bool.not_false, if_true, if_false, and_true, true_and, memE, celE, w64, Nat.zero_add, Nat.add_zero, Nat.mul_one, putL, and_self, ldn, c_impl_LostProof_1, r_impl_LostProof_1, rr 0 _ q0, rr 1 _ q1, rr 2 _ q2, rr 3 _ q3, rr 4 _ q4]
  refine callH_rc (lostBound_rc _ _ u s (bitsL c s.need.length) (ShA.mk xa xb) hu.ro hg hr) ?_
  rintro r new ⟨rfl, nr⟩
  simp (config := {implicitDefEqProofs := false, maxDischargeDepth := 20}) (disch := first | omega | (simp only [lenE]; done) | (simp only [lenE]; omega) | rfl | (simp only [lenE, markR_len]; done) | (simp only [lenE, markR_len]; omega)) only [runE, mapE, listE, initT_5, initT_6, initT_7, initT_8, resV, oneV, binA, unA, reduceCtorEq, Nat.reduceEqDiff, Nat.reduceAdd, Nat.reduceLT, Nat.reduceLeDiff, Nat.reduceMul, Nat.reduceSub, ↓reduceIte, decide_true, decide_false, Bool.true_eq_false, Bool.false_eq_true, Bool.not_true, Bool.not_false, if_true, if_false, and_true, true_and, memE, celE, w64, Nat.zero_add, Nat.add_zero, Nat.mul_one, putL, and_self, ldn]
  refine ext_ansV ((Ext.refl M).app nr) ?_
  have e : (0 : Int) - boundV s (bitsL c s.need.length) = -(boundV s (bitsL c s.need.length)) := by omega
  rw [e]
  rfl
theorem implProof9_pre (m : Mem) (v : Value) (s : Sh) (h : ShA m v s) :
    RC Try.prog 20 [v] m fun r new => AnsO m (IntsO (proof9A s)) (fun v => .tuple #[v, .bool s.good]) r new ∨ ((proof9A s = [] ∧ s.good = true) ∧ NoRo new ∧ r = .tuple #[.slice none 0 0, .bool s.good]) := by
  refine rc_of_run mixed ok_impl_LostProof (by simp) (go_start _ _ _ ?_)
  obtain ⟨a, b, rfl, ha, hb⟩ := h.ro
  have hX := (Ext.refl m).one 26 [.int .i64 s.life, a, b, .int .i64 s.waste, .int .i64 s.lost]
  simp (config := {implicitDefEqProofs := false, maxDischargeDepth := 20}) (disch := first | omega | (simp only [lenE]; done) | (simp only [lenE]; omega) | rfl | (simp only [lenE, markR_len]; done) | (simp only [lenE, markR_len]; omega)) only [runE, mapE, listE, initT_5, initT_6, initT_7, initT_8, resV, oneV, binA, unA, reduceCtorEq, Nat.reduceEqDiff, Nat.reduceAdd, Nat.reduceLT, Nat.reduceLeDiff, Nat.reduceMul, Nat.reduceSub, ↓reduceIte, decide_true, decide_false, Bool.true_eq_false, Bool.false_eq_true, Bool.not_true, Bool.not_false, if_true, if_false, and_true, true_and, memE, celE, w64, Nat.zero_add, Nat.add_zero, Nat.mul_one, putL, and_self, ldn, c_impl_LostProof, r_impl_LostProof]
  obtain ⟨M0, hM0⟩ : ∃ M0, M0 = roM m ++ [⟨.own, 26, [.int .i64 s.life, a, b, .int .i64 s.waste, .int .i64 s.lost]⟩] := ⟨_, rfl⟩
  have o1 : OwnB M0 m.length 26 [.int .i64 s.life, a, b, .int .i64 s.waste, .int .i64 s.lost] := by rw [hM0]; exact OwnB.here (by simp [roM_len])
  rw [← hM0] at hX ⊢
  refine callH_rc (implIsShelf_rc _ _ s (ShA.mk (hX.ints ha) (hX.ints hb))) ?_
  rintro r n1 ⟨rfl, nr1⟩
  replace hX := hX.app nr1
  replace o1 := o1.ext n1
  obtain ⟨M1, hM1⟩ : ∃ M1, M1 = M0 ++ n1 := ⟨_, rfl⟩
  rw [← hM1] at hX o1 ⊢
  have hlm := o1.lt
  have up : ∀ {M : Mem} {v : Value} {l : List Int} {ok : Bool} {p : Prop}, newQ m (AnsO m (IntsO l) fun v => .tuple #[v, .bool ok]) v M → newQ m (fun r new => AnsO m (IntsO l) (fun v => .tuple #[v, .bool ok]) r new ∨ (p ∧ NoRo new ∧ r = .tuple #[.slice none 0 0, .bool ok])) v M := by
    rintro M v l ok p ⟨new, h1, h2, h3⟩
    exact ⟨new, h1, h2, .inl h3⟩
  cases hg : s.good with
  | false =>
    simp (config := {implicitDefEqProofs := false, maxDischargeDepth := 20}) (disch := first | omega | (simp only [lenE]; done) | (simp only [lenE]; omega) | rfl | (simp only [lenE, markR_len]; done) | (simp only [lenE, markR_len]; omega)) only [runE, mapE, listE, initT_5, initT_6, initT_7, initT_8, resV, oneV, binA, unA, reduceCtorEq, Nat.reduceEqDiff, Nat.reduceAdd, Nat.reduceLT, Nat.reduceLeDiff, Nat.reduceMul, Nat.reduceSub, ↓reduceIte, decide_true, decide_false, Bool.true_eq_false, Bool.false_eq_true, Bool.not_true, Bool.not_false, if_true, if_false, and_true, true_and, memE, celE, w64, Nat.zero_add, Nat.add_zero, Nat.mul_one, putL, and_self, ldn, bsl_no]
    unfold proof9A
    rw [hg]
    exact up (ext_noInts (f := fun v => .tuple #[v, .bool false]) hX rfl)
  | true =>
    have gd := goodSh_iff.1 hg
    have n8 := gd.n8
    have CF := lostProof1_cost M1 m.length a b s gd ⟨o1.rd 0, o1.rd 1, o1.rd 2, o1.rd 3, o1.rd 4⟩ (hX.ints ha) (hX.ints hb)
    simp (config := {implicitDefEqProofs := false, maxDischargeDepth := 20}) (disch := first | omega | (simp only [lenE]; done) | (simp only [lenE]; omega) | rfl | (simp only [lenE, markR_len]; done) | (simp only [lenE, markR_len]; omega)) only [runE, mapE, listE, initT_5, initT_6, initT_7, initT_8, resV, oneV, binA, unA, reduceCtorEq, Nat.reduceEqDiff, Nat.reduceAdd, Nat.reduceLT, Nat.reduceLeDiff, Nat.reduceMul, Nat.reduceSub, ↓reduceIte, decide_true, decide_false, Bool.true_eq_false, Bool.false_eq_true, Bool.not_true, Bool.not_false, if_true, if_false, and_true, true_and, memE, celE, w64, Nat.zero_add, Nat.add_zero, Nat.mul_one, putL, and_self, ldn, o1.rd, (hX.ints hb).len]
    refine callH_rc (bestOfSets_rc M1 _ s.need.length (costP s) n8 CF ?_) ?_
    · intro c x hc hx
      simp only [costP, Option.some.injEq] at hx
      have := boundV_bd gd (bitsL_rising c s.need.length)
      omega
    rintro r n2 ⟨nr2, pv, rfl, hL⟩
    have h1 : onesB [pv] = true := hL.one []
    simp (config := {implicitDefEqProofs := false, maxDischargeDepth := 20}) (disch := first | omega | (simp only [lenE]; done) | (simp only [lenE]; omega) | rfl | (simp only [lenE, markR_len]; done) | (simp only [lenE, markR_len]; omega)) only [runE, mapE, listE, initT_5, initT_6, initT_7, initT_8, resV, oneV, binA, unA, reduceCtorEq, Nat.reduceEqDiff, Nat.reduceAdd, Nat.reduceLT, Nat.reduceLeDiff, Nat.reduceMul, Nat.reduceSub, ↓reduceIte, decide_true, decide_false, Bool.true_eq_false, Bool.false_eq_true, Bool.not_true, Bool.not_false, if_true, if_false, and_true, true_and, memE, celE, w64, Nat.zero_add, Nat.add_zero, Nat.mul_one, putL, and_self, ldn, stP_aggL2, h1]
    have eP : proof9A s = proofC s (2 ^ s.need.length) := by unfold proof9A; rw [hg, if_pos rfl]
    have hX2 := (hX.app nr2).one 70 [.int .i64 (bestV (bestO (costP s) s.need.length (2 ^ s.need.length))).1, pv]
    have hlen : (proofC s (2 ^ s.need.length)).length ≤ s.need.length := bestO_len _ _ _
    rcases hL with ⟨_, rfl, e0⟩ | ⟨id, fl, rfl, hid, ho⟩
    · obtain ⟨n0, e1, nr0⟩ := hX2
      rw [e1]
      exact ⟨n0, rfl, nr0, .inr ⟨eP.trans e0, nr0, rfl⟩⟩
    · rw [eP]
      have ho2 := ho.ext [⟨.own, 70, [.int .i64 (bestV (bestO (costP s) s.need.length (2 ^ s.need.length))).1, .slice (some ⟨id, 0, none⟩) (proofC s (2 ^ s.need.length)).length fl]⟩]
      refine up ?_
      refine ext_ansO (f := fun v => .tuple #[v, .bool true]) hX2 fun M' hM => ?_
      exact IntsA.ownO (ho2.at_ (hM _ (by omega) ho2.lt)) (by show (proofC s (2 ^ s.need.length)).length ≤ _; omega) (by omega) ho2.lt
theorem implProof9_rc (m : Mem) (v : Value) (s : Sh) (h : ShA m v s) :
    RC Try.prog 20 [v] m (AnsO m (IntsO (proof9A s)) fun v => .tuple #[v, .bool s.good]) := by
  refine rc_nilRow9 (implProof9_pre m v s h) fun new hp hn => ?_
  rw [hp.1]
  exact nilRow_ans hn
theorem specProof9_rc (m : Mem) (v : Value) (s : Sh) (h : ShA m v s) :
    RC Try.prog 21 [v] m (AnsO m (IntsO (proof9A s)) fun v => .tuple #[v, .bool s.good]) := by
  refine rc_of_run mixed ok_spec_LostProof (by simp) (go_start _ _ _ ?_)
  obtain ⟨a, b, rfl, ha, hb⟩ := h.ro
  have hX := ((Ext.refl m).one 26 [.int .i64 s.life, a, b, .int .i64 s.waste, .int .i64 s.lost]).one 3 []
  simp (config := {implicitDefEqProofs := false, maxDischargeDepth := 20}) (disch := first | omega | (simp only [lenE]; done) | (simp only [lenE]; omega) | rfl | (simp only [lenE, markR_len]; done) | (simp only [lenE, markR_len]; omega)) only [runE, mapE, listE, initT_5, initT_6, initT_7, initT_8, resV, oneV, binA, unA, reduceCtorEq, Nat.reduceEqDiff, Nat.reduceAdd, Nat.reduceLT, Nat.reduceLeDiff, Nat.reduceMul, Nat.reduceSub, ↓reduceIte, decide_true, decide_false, Bool.true_eq_false, Bool.false_eq_true, Bool.not_true, Bool.not_false, if_true, if_false, and_true, true_and, memE, celE, w64, Nat.zero_add, Nat.add_zero, Nat.mul_one, putL, and_self, ldn, c_spec_LostProof, r_spec_LostProof, bsl_no]
  obtain ⟨M0, hM0⟩ : ∃ M0, M0 = roM m ++ [⟨.own, 26, [.int .i64 s.life, a, b, .int .i64 s.waste, .int .i64 s.lost]⟩] ++ [⟨.own, 3, []⟩] := ⟨_, rfl⟩
  have o1 : OwnB M0 m.length 26 [.int .i64 s.life, a, b, .int .i64 s.waste, .int .i64 s.lost] := by rw [hM0]; exact (OwnB.here (by simp [roM_len])).ext _
  have r1 : OwnR M0 (m.length + 1) [] := by rw [hM0]; exact OwnR.end' (l := []) (by simp [roM_len])
  rw [← hM0] at hX ⊢
  refine callH_rc (l9Good_rc _ _ s (ShA.mk (hX.ints ha) (hX.ints hb))) ?_
  rintro r n1 ⟨rfl, nr1⟩
  replace hX := hX.app nr1
  replace o1 := o1.ext n1
  replace r1 := r1.ext n1
  obtain ⟨M1, hM1⟩ : ∃ M1, M1 = M0 ++ n1 := ⟨_, rfl⟩
  rw [← hM1] at hX o1 r1 ⊢
  unfold proof9A
  cases hg : s.good with
  | false =>
    simp (config := {implicitDefEqProofs := false, maxDischargeDepth := 20}) (disch := first | omega | (simp only [lenE]; done) | (simp only [lenE]; omega) | rfl | (simp only [lenE, markR_len]; done) | (simp only [lenE, markR_len]; omega)) only [runE, mapE, listE, initT_5, initT_6, initT_7, initT_8, resV, oneV, binA, unA, reduceCtorEq, Nat.reduceEqDiff, Nat.reduceAdd, Nat.reduceLT, Nat.reduceLeDiff, Nat.reduceMul, Nat.reduceSub, ↓reduceIte, decide_true, decide_false, Bool.true_eq_false, Bool.false_eq_true, Bool.not_true, Bool.not_false, if_true, if_false, and_true, true_and, memE, celE, w64, Nat.zero_add, Nat.add_zero, Nat.mul_one, putL, and_self, ldn]
    refine ext_ansO (f := fun v => .tuple #[v, .bool false]) hX fun M' hM => ?_
    exact IntsA.ownO (l := []) (fl := 1) (r1.at_ (hM _ (by omega) r1.lt)) (by simp) (by omega) r1.lt
  | true =>
    have gd := goodSh_iff.1 hg
    have n8 := gd.n8
    rw [if_pos rfl]
    have h28 : 2 ^ s.need.length ≤ 2 ^ 8 := Nat.pow_le_pow_right (by omega) n8
    have h1 : 1 ≤ 2 ^ s.need.length := Nat.one_le_two_pow
    have sh := shl1 n8
    have hn0 : ¬ ((s.need.length : Int) < 0) := by omega
    obtain ⟨NN, hNN⟩ : ∃ NN, NN = 2 ^ s.need.length := ⟨_, rfl⟩
    rw [← hNN] at h28 h1 sh ⊢
    obtain ⟨p1, p2⟩ := proof_step s 0
    have e0 : proofC s (0 + 1) = [] := by
      unfold proofC
      simp only [bestO, costP, bitsL_zero]; rfl
    simp (config := {implicitDefEqProofs := false, maxDischargeDepth := 20}) (disch := first | omega | (simp only [lenE]; done) | (simp only [lenE]; omega) | rfl | (simp only [lenE, markR_len]; done) | (simp only [lenE, markR_len]; omega)) only [runE, mapE, listE, initT_5, initT_6, initT_7, initT_8, resV, oneV, binA, unA, reduceCtorEq, Nat.reduceEqDiff, Nat.reduceAdd, Nat.reduceLT, Nat.reduceLeDiff, Nat.reduceMul, Nat.reduceSub, ↓reduceIte, decide_true, decide_false, Bool.true_eq_false, Bool.false_eq_true, Bool.not_true, Bool.not_false, if_true, if_false, and_true, true_and, memE, celE, w64, Nat.zero_add, Nat.add_zero, Nat.mul_one, putL, and_self, ldn]
    refine loop_inv mixed (fun s' => ∃ (c : Nat) (M : Mem) (id fl : Nat), c + 1 ≤ NN ∧ s'.m = M ∧ Ext m M ∧ OwnB M m.length 26 [.int .i64 s.life, a, b, .int .i64 s.waste, .int .i64 s.lost] ∧ OwnR M id (proofC s (c + 1)) ∧ m.length < id ∧ s'.t 1 = .pointer (some ⟨m.length, 0, none⟩) ∧ s'.t 4 = .slice (some ⟨id, 0, none⟩) (proofC s (c + 1)).length fl ∧ s'.t 5 = .int .i64 ((c : Int) + 1)) (fun s' => NN - (intOf (s'.t 5)).toNat)
      ⟨0, M1, m.length + 1, 1, by omega, rfl, hX, o1, by rw [e0]; exact r1, by omega, rfl, by rw [e0]; rfl, rfl⟩ ?_
    clear hX o1 r1
    rintro s' ⟨c, M, id, fl, hk, tm, hX, o1, r1, hid, t1, t4, t5⟩
    obtain ⟨q1, q2⟩ := proof_step s c
    have hlen := q2.len
    have xb := hX.ints hb
    by_cases hlt : c + 1 < NN
    · have hlt' : (c : Int) + 1 < NN := by omega
      have KB := l2Bits_rc M s.need.length (c + 1) n8 (by omega)
      rw [show (((c + 1 : Nat)) : Int) = (c : Int) + 1 by omega] at KB
      simp (config := {implicitDefEqProofs := false, maxDischargeDepth := 20}) (disch := first | omega | (simp only [lenE]; done) | (simp only [lenE]; omega) | rfl | (simp only [lenE, markR_len]; done) | (simp only [lenE, markR_len]; omega)) only [runE, mapE, listE, initT_5, initT_6, initT_7, initT_8, resV, oneV, binA, unA, reduceCtorEq, Nat.reduceEqDiff, Nat.reduceAdd, Nat.reduceLT, Nat.reduceLeDiff, Nat.reduceMul, Nat.reduceSub, ↓reduceIte, decide_true, decide_false, Bool.true_eq_false, Bool.false_eq_true, Bool.not_true, Bool.not_false, if_true, if_false, and_true, true_and, memE, celE, w64, Nat.zero_add, Nat.add_zero, Nat.mul_one, putL, and_self, ldn, tm, t1, t4, t5, o1.rd, xb.len, hn0, sh, hlt']
      refine callH_rc KB ?_
      intro r n2 hA
      obtain ⟨pid, pf, rfl, pge, op, ple, nr2⟩ := hA.row
      have hrp := bitsL_rising (c + 1) s.need.length
      have hnx := proof_next s c
      obtain ⟨ps, hps⟩ : ∃ ps, ps = bitsL (c + 1) s.need.length := ⟨_, rfl⟩
      rw [← hps] at op ple hrp hnx ⊢
      have hml := o1.lt
      replace hX := hX.app nr2
      replace o1 := o1.ext n2
      replace r1 := r1.ext n2
      obtain ⟨M2, hM2⟩ : ∃ M2, M2 = M ++ n2 := ⟨_, rfl⟩
      rw [← hM2] at hX o1 r1 op ⊢
      have ip := op.ints (by omega) pf
      have iq := r1.ints (by omega) fl
      have bd1 := boundV_bd gd hrp
      have bd2 := boundV_bd gd q2
      simp (config := {implicitDefEqProofs := false, maxDischargeDepth := 20}) (disch := first | omega | (simp only [lenE]; done) | (simp only [lenE]; omega) | rfl | (simp only [lenE, markR_len]; done) | (simp only [lenE, markR_len]; omega)) only [runE, mapE, listE, initT_5, initT_6, initT_7, initT_8, resV, oneV, binA, unA, reduceCtorEq, Nat.reduceEqDiff, Nat.reduceAdd, Nat.reduceLT, Nat.reduceLeDiff, Nat.reduceMul, Nat.reduceSub, ↓reduceIte, decide_true, decide_false, Bool.true_eq_false, Bool.false_eq_true, Bool.not_true, Bool.not_false, if_true, if_false, and_true, true_and, memE, celE, w64, Nat.zero_add, Nat.add_zero, Nat.mul_one, putL, and_self, ldn, t1, t4, t5, o1.rd]
      refine rcallH_rc (l9Bound_rc M2 _ _ s ps (ShA.mk (hX.ints ha) (hX.ints hb)) ip gd hrp) ?_
      rintro r n3 ⟨rfl, nr3⟩
      simp (config := {implicitDefEqProofs := false, maxDischargeDepth := 20}) (disch := first | omega | (simp only [lenE]; done) | (simp only [lenE]; omega) | rfl | (simp only [lenE, markR_len]; done) | (simp only [lenE, markR_len]; omega)) only [runE, mapE, listE, initT_5, initT_6, initT_7, initT_8, resV, oneV, binA, unA, reduceCtorEq, Nat.reduceEqDiff, Nat.reduceAdd, Nat.reduceLT, Nat.reduceLeDiff, Nat.reduceMul, Nat.reduceSub, ↓reduceIte, decide_true, decide_false, Bool.true_eq_false, Bool.false_eq_true, Bool.not_true, Bool.not_false, if_true, if_false, and_true, true_and, memE, celE, w64, Nat.zero_add, Nat.add_zero, Nat.mul_one, putL, and_self, ldn, t1, t4, t5]
      have hX3 := hX.app nr3
      refine rcallH_rc (l9Bound_rc (M2 ++ n3) _ _ s (proofC s (c + 1)) (ShA.mk (hX3.ints ha) (hX3.ints hb)) (iq.ext n3) gd q2) ?_
      rintro r n4 ⟨rfl, nr4⟩
      have hX4 := hX3.app nr4
      have o14 := (o1.ext n3).ext n4
      have r14 := (r1.ext n3).ext n4
      have op4 := (op.ext n3).ext n4
      have ip4 := (ip.ext n3).ext n4
      have iq4 := (iq.ext n3).ext n4
      obtain ⟨M4, hM4⟩ : ∃ M4, M4 = M2 ++ n3 ++ n4 := ⟨_, rfl⟩
      rw [← hM4] at hX4 o14 r14 op4 ip4 iq4 ⊢
      obtain ⟨x, hx⟩ : ∃ x, x = boundV s ps := ⟨_, rfl⟩
      obtain ⟨y, hy⟩ : ∃ y, y = boundV s (proofC s (c + 1)) := ⟨_, rfl⟩
      rw [← hx] at bd1 hnx ⊢
      rw [← hy] at bd2 hnx ⊢
      have yes : (y < x ∨ (x = y ∧ beforeB ps (proofC s (c + 1)) = true)) → proofC s (c + 1 + 1) = ps := fun hh => by rw [hnx, if_pos hh]
      have nope : ¬ (y < x ∨ (x = y ∧ beforeB ps (proofC s (c + 1)) = true)) → proofC s (c + 1 + 1) = proofC s (c + 1) := fun hh => by rw [hnx, if_neg hh]
      by_cases d1 : y < x
      · have e := yes (.inl d1)
        simp (config := {implicitDefEqProofs := false, maxDischargeDepth := 20}) (disch := first | omega | (simp only [lenE]; done) | (simp only [lenE]; omega) | rfl | (simp only [lenE, markR_len]; done) | (simp only [lenE, markR_len]; omega)) only [runE, mapE, listE, initT_5, initT_6, initT_7, initT_8, resV, oneV, binA, unA, reduceCtorEq, Nat.reduceEqDiff, Nat.reduceAdd, Nat.reduceLT, Nat.reduceLeDiff, Nat.reduceMul, Nat.reduceSub, ↓reduceIte, decide_true, decide_false, Bool.true_eq_false, Bool.false_eq_true, Bool.not_true, Bool.not_false, if_true, if_false, and_true, true_and, memE, celE, w64, Nat.zero_add, Nat.add_zero, Nat.mul_one, putL, and_self, ldn, t1, t4, t5, gt_iff_lt, d1, goG_undef]
        refine ⟨⟨c + 1, M4, pid, pf, by omega, rfl, hX4, o14, by rw [e]; exact op4, by omega, by rw [e], by simp⟩, ?_⟩
        simp [intOf]; omega
      · by_cases d2 : x = y
        · have d2' : (x == y) = true := by rw [d2]; simp
          simp (config := {implicitDefEqProofs := false, maxDischargeDepth := 20}) (disch := first | omega | (simp only [lenE]; done) | (simp only [lenE]; omega) | rfl | (simp only [lenE, markR_len]; done) | (simp only [lenE, markR_len]; omega)) only [runE, mapE, listE, initT_5, initT_6, initT_7, initT_8, resV, oneV, binA, unA, reduceCtorEq, Nat.reduceEqDiff, Nat.reduceAdd, Nat.reduceLT, Nat.reduceLeDiff, Nat.reduceMul, Nat.reduceSub, ↓reduceIte, decide_true, decide_false, Bool.true_eq_false, Bool.false_eq_true, Bool.not_true, Bool.not_false, if_true, if_false, and_true, true_and, memE, celE, w64, Nat.zero_add, Nat.add_zero, Nat.mul_one, putL, and_self, ldn, t1, t4, t5, gt_iff_lt, d1, d2', goG_undef]
          refine callH_rc (l2Before_rc M4 _ _ ps (proofC s (c + 1)) ip4 iq4) ?_
          rintro r n5 ⟨rfl, nr5⟩
          cases hb9 : beforeB ps (proofC s (c + 1)) with
          | true =>
            have e := yes (.inr ⟨d2, hb9⟩)
            simp (config := {implicitDefEqProofs := false, maxDischargeDepth := 20}) (disch := first | omega | (simp only [lenE]; done) | (simp only [lenE]; omega) | rfl | (simp only [lenE, markR_len]; done) | (simp only [lenE, markR_len]; omega)) only [runE, mapE, listE, initT_5, initT_6, initT_7, initT_8, resV, oneV, binA, unA, reduceCtorEq, Nat.reduceEqDiff, Nat.reduceAdd, Nat.reduceLT, Nat.reduceLeDiff, Nat.reduceMul, Nat.reduceSub, ↓reduceIte, decide_true, decide_false, Bool.true_eq_false, Bool.false_eq_true, Bool.not_true, Bool.not_false, if_true, if_false, and_true, true_and, memE, celE, w64, Nat.zero_add, Nat.add_zero, Nat.mul_one, putL, and_self, ldn, t1, t4, t5]
            refine ⟨⟨c + 1, M4 ++ n5, pid, pf, by omega, rfl, hX4.app nr5, o14.ext _, by rw [e]; exact op4.ext _, by omega, by rw [e], by simp⟩, ?_⟩
            simp [intOf]; omega
          | false =>
            have e := nope (fun hh => by rcases hh with hh | hh; exact d1 hh; rw [hb9] at hh; cases hh.2)
            simp (config := {implicitDefEqProofs := false, maxDischargeDepth := 20}) (disch := first | omega | (simp only [lenE]; done) | (simp only [lenE]; omega) | rfl | (simp only [lenE, markR_len]; done) | (simp only [lenE, markR_len]; omega)) only [runE, mapE, listE, initT_5, initT_6, initT_7, initT_8, resV, oneV, binA, unA, reduceCtorEq, Nat.reduceEqDiff, Nat.reduceAdd, Nat.reduceLT, Nat.reduceLeDiff, Nat.reduceMul, Nat.reduceSub, ↓reduceIte, decide_true, decide_false, Bool.true_eq_false, Bool.false_eq_true, Bool.not_true, Bool.not_false, if_true, if_false, and_true, true_and, memE, celE, w64, Nat.zero_add, Nat.add_zero, Nat.mul_one, putL, and_self, ldn, t1, t4, t5]
            refine ⟨⟨c + 1, M4 ++ n5, id, fl, by omega, rfl, hX4.app nr5, o14.ext _, by rw [e]; exact r14.ext _, by omega, by rw [e], by simp⟩, ?_⟩
            simp [intOf]; omega
        · have d2' : (x == y) = false := by simpa using d2
          have e := nope (fun hh => by rcases hh with hh | hh; exact d1 hh; exact d2 hh.1)
          simp (config := {implicitDefEqProofs := false, maxDischargeDepth := 20}) (disch := first | omega | (simp only [lenE]; done) | (simp only [lenE]; omega) | rfl | (simp only [lenE, markR_len]; done) | (simp only [lenE, markR_len]; omega)) only [runE, mapE, listE, initT_5, initT_6, initT_7, initT_8, resV, oneV, binA, unA, reduceCtorEq, Nat.reduceEqDiff, Nat.reduceAdd, Nat.reduceLT, Nat.reduceLeDiff, Nat.reduceMul, Nat.reduceSub, ↓reduceIte, decide_true, decide_false, Bool.true_eq_false, Bool.false_eq_true, Bool.not_true, Bool.not_false, if_true, if_false, and_true, true_and, memE, celE, w64, Nat.zero_add, Nat.add_zero, Nat.mul_one, putL, and_self, ldn, t1, t4, t5, gt_iff_lt, d1, d2', goG_undef]
          refine ⟨⟨c + 1, M4, id, fl, by omega, rfl, hX4, o14, by rw [e]; exact r14, by omega, by rw [e], by simp⟩, ?_⟩
          simp [intOf]; omega
    · have hlt' : ¬ ((c : Int) + 1 < NN) := by omega
      have e : NN = c + 1 := by omega
      simp (config := {implicitDefEqProofs := false, maxDischargeDepth := 20}) (disch := first | omega | (simp only [lenE]; done) | (simp only [lenE]; omega) | rfl | (simp only [lenE, markR_len]; done) | (simp only [lenE, markR_len]; omega)) only [runE, mapE, listE, initT_5, initT_6, initT_7, initT_8, resV, oneV, binA, unA, reduceCtorEq, Nat.reduceEqDiff, Nat.reduceAdd, Nat.reduceLT, Nat.reduceLeDiff, Nat.reduceMul, Nat.reduceSub, ↓reduceIte, decide_true, decide_false, Bool.true_eq_false, Bool.false_eq_true, Bool.not_true, Bool.not_false, if_true, if_false, and_true, true_and, memE, celE, w64, Nat.zero_add, Nat.add_zero, Nat.mul_one, putL, and_self, ldn, tm, t1, t4, t5, o1.rd, xb.len, hn0, sh, hlt']
      rw [e]
      refine ext_ansO (f := fun v => .tuple #[v, .bool true]) hX fun M' hM => ?_
      exact IntsA.ownO (r1.at_ (hM _ (by omega) r1.lt)) (by omega) (by omega) r1.lt
end Go.Proofs.Ytdgfbmilbhckiaa.Ab
end
section
namespace Go.Proofs.Ytdgfbmilbhckiaa.Ab
open Go Go.RowKit
set_option linter.unusedVariables false
set_option linter.unusedSimpArgs false
theorem proof_most (s : Sh) : ∀ c c', c' < c + 1 → boundV s (bitsL c' s.need.length) ≤ boundV s (proofC s (c + 1)) := by
  intro c
  induction c with
  | zero =>
    intro c' h
    have : c' = 0 := by omega
    subst this
    have e := (proof_step s 0).1
    simp only [bestO, costP, bitsL_zero] at e
    injection e with e
    have e2 := congrArg Prod.snd e
    simp only at e2
    rw [← e2, bitsL_zero]
    exact Int.le_refl _
  | succ c ih =>
    intro c' h
    rw [proof_next]
    by_cases e : c' = c + 1
    · subst e
      split
      · exact Int.le_refl _
      · rename_i hn
        exact Int.not_lt.1 fun h => hn (.inl h)
    · have := ih c' (by omega)
      split
      · rename_i hy
        rcases hy with h | h <;> omega
      · exact this
theorem bound_most {s : Sh} {set : List Int} (h : lboundOk s set = true) : lboundOk s (proof9A s) = true ∧ lboundA s set ≤ lboundA s (proof9A s) := by
  have h' := h
  unfold lboundOk at h
  rw [Bool.and_eq_true] at h
  obtain ⟨hg, hr⟩ := h
  obtain ⟨c', h1, h2⟩ := bits_all _ _ (risB_iff.1 hr)
  have h01 : 1 ≤ 2 ^ s.need.length := Nat.one_le_two_pow
  have e2 : 2 ^ s.need.length - 1 + 1 = 2 ^ s.need.length := by omega
  have st := (proof_step s (2 ^ s.need.length - 1)).2
  have mo := proof_most s (2 ^ s.need.length - 1) c' (by omega)
  rw [e2] at st mo
  have ep : proof9A s = proofC s (2 ^ s.need.length) := by unfold proof9A; rw [if_pos hg]
  have ok : lboundOk s (proof9A s) = true := by unfold lboundOk; rw [hg, ep, risB_iff.2 st]; rfl
  refine ⟨ok, ?_⟩
  unfold lboundA
  rw [if_pos h', if_pos ok, ep, h2]
  exact mo
structure AgeNext (s : Sh) (T : List (List Int)) (t : Nat) (P N : List Int) : Prop where
  tn : t + 1 < s.need.length
  la : s.arr.length = s.need.length
  lt : T.length = s.need.length
  lr : (T.getD (t + 1) []).length = s.need.length
  lp : (P.length : Int) = s.life - 1
  ln : N.length = P.length
  life : 1 ≤ s.life ∧ s.life ≤ 8
  ab : 0 ≤ s.arr.getD (t + 1) 0 ∧ s.arr.getD (t + 1) 0 ≤ 20
  tb : ∀ f, f < s.need.length → 0 ≤ (T.getD (t + 1) []).getD f 0 ∧ (T.getD (t + 1) []).getD f 0 ≤ 20
  pb : ∀ a, a < P.length → 0 ≤ P.getD a 0 ∧ P.getD a 0 ≤ 20
  z0 : ∀ a, a < P.length → a = 0 → N.getD a 0 = s.arr.getD (t + 1) 0 - (T.getD (t + 1) []).getD (t + 1) 0
  z1 : ∀ a, a < P.length → 0 < a → a ≤ t + 1 → N.getD a 0 = P.getD (a - 1) 0 - (T.getD (t + 1) []).getD (t + 1 - a) 0
  z2 : ∀ a, a < P.length → t + 1 < a → N.getD a 0 = P.getD (a - 1) 0
end Go.Proofs.Ytdgfbmilbhckiaa.Ab
end
section
namespace Go.Proofs.Ytdgfbmilbhckiaa.Ab
open Go Go.RowKit
set_option linter.unusedVariables false
set_option linter.unusedSimpArgs false
def Sg (f : Nat → Int) : Nat → Int
  | 0 => 0
  | k + 1 => Sg f k + f k
theorem Sg_congr {f g : Nat → Int} {n : Nat} (h : ∀ i, i < n → f i = g i) : Sg f n = Sg g n := by
  induction n with
  | zero => rfl
  | succ n ih => rw [Sg, Sg, ih fun i hi => h i (by omega), h n (by omega)]
theorem Sg_le {f g : Nat → Int} {n : Nat} (h : ∀ i, i < n → f i ≤ g i) : Sg f n ≤ Sg g n := by
  induction n with
  | zero => exact Int.le_refl _
  | succ n ih =>
    have := ih fun i hi => h i (by omega)
    have := h n (by omega)
    rw [Sg, Sg]; omega
theorem Sg_zero {f : Nat → Int} {n : Nat} (h : ∀ i, i < n → f i = 0) : Sg f n = 0 := by
  induction n with
  | zero => rfl
  | succ n ih => rw [Sg, ih fun i hi => h i (by omega), h n (by omega)]; rfl
theorem Sg_add (f g : Nat → Int) (n : Nat) : Sg (fun i => f i + g i) n = Sg f n + Sg g n := by
  induction n with
  | zero => rfl
  | succ n ih => rw [Sg, Sg, Sg, ih]; omega
theorem Sg_sub (f g : Nat → Int) (n : Nat) : Sg (fun i => f i - g i) n = Sg f n - Sg g n := by
  induction n with
  | zero => rfl
  | succ n ih => rw [Sg, Sg, Sg, ih]; omega
theorem Sg_swap (g : Nat → Nat → Int) (n m : Nat) : Sg (fun i => Sg (g i) m) n = Sg (fun j => Sg (fun i => g i j) n) m := by
  induction n with
  | zero => rw [Sg]; exact (Sg_zero fun _ _ => rfl).symm
  | succ n ih =>
    rw [Sg, ih, ← Sg_add]
    rfl
theorem Sg_if {b : Bool} (f : Nat → Int) (n : Nat) : Sg (fun i => if b then f i else 0) n = if b then Sg f n else 0 := by
  cases b
  · exact Sg_zero fun _ _ => rfl
  · rfl
theorem sumTo_Sg (l : List Int) (k : Nat) : sumTo l k = Sg (fun f => l.getD f 0) k := by
  induction k with
  | zero => simp [sumTo, Sg]
  | succ k ih => rw [sumTo_g, Sg, ih]
theorem colT_Sg (T : List (List Int)) (f k : Nat) : colT T f k = Sg (fun t => (T.getD t []).getD f 0) k := by
  induction k with
  | zero => rfl
  | succ k ih => rw [colT, Sg, ih]

def pl (p : Nat → Bool) : Nat → List Int
  | 0 => []
  | x + 1 => if p x then pl p x ++ [(x : Int)] else pl p x
theorem bits_pl (c x : Nat) : bitsL c x = pl (fun t => decide (c / 2 ^ t % 2 = 1)) x := by
  induction x with
  | zero => rfl
  | succ x ih =>
    rw [bitsL, pl, ih]
    by_cases h : c / 2 ^ x % 2 = 1 <;> simp [h]
theorem pl_mem (p : Nat → Bool) (x : Nat) : ∀ y ∈ pl p x, 0 ≤ y ∧ y < (x : Int) := by
  induction x with
  | zero => intro y hy; simp [pl] at hy
  | succ x ih =>
    intro y hy
    rw [pl] at hy
    split at hy
    · rcases List.mem_append.1 hy with h | h
      · have := ih y h; omega
      · simp at h; omega
    · have := ih y hy; omega
theorem pl_rising (p : Nat → Bool) (x : Nat) : Rising (pl p x) x := by
  refine ⟨fun i hi => pl_mem p x _ (getD_mem hi), ?_⟩
  induction x with
  | zero => intro i hi; simp [pl] at hi
  | succ x ih =>
    intro i hi
    rw [pl] at hi ⊢
    by_cases hb : p x = true
    · rw [if_pos hb] at hi ⊢
      simp only [List.length_append, List.length_cons, List.length_nil] at hi
      rw [getD_app_l _ _ (by omega)]
      by_cases h2 : i + 1 < (pl p x).length
      · rw [getD_app_l _ _ h2]; exact ih i h2
      · have e : i + 1 = (pl p x).length := by omega
        rw [e, getD_app_one]
        exact (pl_mem p x _ (getD_mem (by omega))).2
    · rw [if_neg hb] at hi ⊢; exact ih i hi
theorem needS_app (s : Sh) (l r : List Int) : ∀ k, k ≤ l.length → needS s (l ++ r) k = needS s l k := by
  intro k
  induction k with
  | zero => intro _; rfl
  | succ k ih => intro hk; rw [needS, needS, ih (by omega), getD_app_l _ _ (by omega)]
theorem needS_pl (s : Sh) (p : Nat → Bool) (x : Nat) : needS s (pl p x) (pl p x).length = Sg (fun t => if p t then s.need.getD t 0 else 0) x := by
  induction x with
  | zero => rfl
  | succ x ih =>
    rw [pl, Sg]
    by_cases hb : p x = true
    · rw [if_pos hb, if_pos hb, List.length_append, List.length_singleton, needS, needS_app _ _ _ _ (Nat.le_refl _), getD_app_one, ih, Int.toNat_natCast]
    · rw [if_neg hb, if_neg hb, ih]; omega
theorem useAny_pl (s : Sh) (p : Nat → Bool) (f x : Nat) : useAny s (pl p x) f = true ↔ ∃ t, t < x ∧ p t = true ∧ usB s.life f t = true := by
  induction x with
  | zero => exact ⟨fun h => by simp [useAny, pl] at h, fun ⟨t, h, _⟩ => absurd h (by omega)⟩
  | succ x ih =>
    rw [pl]
    by_cases hb : p x = true
    · rw [if_pos hb]
      have e : useAny s (pl p x ++ [(x : Int)]) f = (useAny s (pl p x) f || usB s.life f x) := by
        unfold useAny
        rw [List.any_append]
        simp [usI, usB]
      rw [e, Bool.or_eq_true, ih]
      constructor
      · rintro (⟨t, h1, h2⟩ | h)
        · exact ⟨t, by omega, h2⟩
        · exact ⟨x, by omega, hb, h⟩
      · rintro ⟨t, h1, h2, h3⟩
        by_cases e : t = x
        · subst e; exact .inr h3
        · exact .inl ⟨t, by omega, h2, h3⟩
    · rw [if_neg hb, ih]
      constructor
      · rintro ⟨t, h1, h2⟩; exact ⟨t, by omega, h2⟩
      · rintro ⟨t, h1, h2, h3⟩
        by_cases e : t = x
        · subst e; exact absurd h2 hb
        · exact ⟨t, by omega, h2, h3⟩
theorem subA_Sg (s : Sh) (set : List Int) (k : Nat) : subA s set k = Sg (fun f => if useAny s set f then s.arr.getD f 0 else 0) k := by
  induction k with
  | zero => rfl
  | succ k ih => rw [subA, Sg, ih]
def lostSum (s : Sh) (T : List (List Int)) : Int := Sg (fun t => s.need.getD t 0 - sumTo (T.getD t []) s.need.length) s.need.length
theorem bound_le {s : Sh} (hg : GoodSh s) {T : List (List Int)} (h : irows s T s.need.length) (p : Nat → Bool) : boundV s (pl p s.need.length) ≤ lostSum s T := by
  obtain ⟨n, hn⟩ : ∃ n, n = s.need.length := ⟨_, rfl⟩
  unfold boundV lostSum
  rw [needS_pl, subA_Sg, hg.la, ← hn]
  rw [← hn] at h
  have a1 : Sg (fun t => if p t then s.need.getD t 0 - sumTo (T.getD t []) n else 0) n ≤ Sg (fun t => s.need.getD t 0 - sumTo (T.getD t []) n) n := Sg_le fun t ht => by
    have := (h.1 t ht).2.2
    rw [← hn] at this
    split <;> omega
  have a2 : Sg (fun t => if p t then s.need.getD t 0 - sumTo (T.getD t []) n else 0) n = Sg (fun t => if p t then s.need.getD t 0 else 0) n - Sg (fun t => if p t then sumTo (T.getD t []) n else 0) n := by
    rw [← Sg_sub]
    exact Sg_congr fun t _ => by split <;> omega
  have a3 : Sg (fun t => if p t then sumTo (T.getD t []) n else 0) n = Sg (fun f => Sg (fun t => if p t then (T.getD t []).getD f 0 else 0) n) n := by
    rw [← Sg_swap (fun t f => if p t then (T.getD t []).getD f 0 else 0)]
    exact Sg_congr fun t _ => by rw [Sg_if, sumTo_Sg]
  have a4 : Sg (fun f => Sg (fun t => if p t then (T.getD t []).getD f 0 else 0) n) n ≤ Sg (fun f => if useAny s (pl p n) f then s.arr.getD f 0 else 0) n := Sg_le fun f hf => by
    by_cases hu : useAny s (pl p n) f = true
    · rw [if_pos hu]
      have c := h.2 f (by omega)
      rw [colT_Sg] at c
      refine Int.le_trans (Sg_le fun t ht => ?_) c
      have := ((h.1 t ht).2.1 f (by omega)).1
      split <;> omega
    · rw [if_neg hu]
      refine Int.le_of_eq (Sg_zero fun t ht => ?_)
      split
      · rename_i hp
        have q := (h.1 t ht).2.1 f (by omega)
        by_cases e : 0 < (T.getD t []).getD f 0
        · exact absurd ((useAny_pl s p f n).2 ⟨t, ht, hp, q.2 e⟩) hu
        · omega
      · rfl
  omega
end Go.Proofs.Ytdgfbmilbhckiaa.Ab
end
section
namespace Go.Proofs.Ytdgfbmilbhckiaa.Ab
open Go Go.RowKit
set_option linter.unusedVariables false
set_option linter.unusedSimpArgs false
theorem Sg_set {l : List Int} {i n : Nat} {x : Int} (hi : i < l.length) (hin : i < n) (h0 : l.getD i 0 = 0) : Sg (fun f => (l.set i x).getD f 0) n = Sg (fun f => l.getD f 0) n + x := by
  induction n with
  | zero => omega
  | succ n ih =>
    rw [Sg, Sg]
    by_cases e : i = n
    · subst e
      rw [setD9 hi, if_pos rfl, h0, Sg_congr (g := fun f => l.getD f 0) fun j hj => by rw [setD9 hi, if_neg (by omega)]]
      omega
    · rw [ih (by omega), setD9 hi, if_neg (Ne.symm e)]
      omega
structure WayG (s : Sh) (nw : Bool) (t k : Nat) : Prop where
  a : ∀ f, f < s.need.length → (gAt s nw t k).A.getD f 0 = (allG s nw t).1.getD f 0 - (gAt s nw t k).row.getD f 0
  r : (gAt s nw t k).r = s.need.getD t 0 - Sg (fun f => (gAt s nw t k).row.getD f 0) s.need.length
  u : ∀ f, f < s.need.length → 0 < (gAt s nw t k).row.getD f 0 → usB s.life f t = true
theorem wayG {s : Sh} (hg : GoodSh s) (nw : Bool) {t : Nat} (ht : t < s.need.length) : ∀ k, k ≤ t + 1 → WayG s nw t k := by
  intro k
  induction k with
  | zero =>
    intro _
    have z : ∀ f, (gAt s nw t 0).row.getD f 0 = 0 := fun f => zeros_at _ _
    refine ⟨fun f hf => by rw [z]; show (allG s nw t).1.getD f 0 = _; omega, ?_, fun f hf h => by rw [z] at h; omega⟩
    rw [Sg_zero fun f _ => z f]
    show s.need.getD t 0 = _; omega
  | succ k ih =>
    intro hk
    have w := ih (by omega)
    have ok := gAt_ok hg nw ht (k := k) (by omega)
    have hc := colO_le (newest := nw) (t := t) (k := k) (by omega)
    have fr := gAt_free hg (newest := nw) ht (k := k) (by omega)
    obtain ⟨c, hcc⟩ : ∃ c, c = colO nw t k := ⟨_, rfl⟩
    rw [← hcc] at hc fr
    have hcn : c < s.need.length := by omega
    have hA : c < (gAt s nw t k).A.length := by rw [ok.la]; exact hcn
    have hR : c < (gAt s nw t k).row.length := by rw [ok.lr]; exact hcn
    rw [show WayG s nw t (k + 1) ↔ _ from ⟨fun h => h, fun h => h⟩]
    have es : gAt s nw t (k + 1) = stepG s.life t c (gAt s nw t k) := by rw [gAt_s, ← hcc]
    refine ⟨fun f hf => ?_, ?_, fun f hf h => ?_⟩
    · rw [es]
      simp only [stepG]
      rw [setD9 hA, setD9 hR]
      by_cases e : f = c
      · subst e
        have := w.a f hf
        rw [if_pos rfl, if_pos rfl, this, fr]; omega
      · rw [if_neg e, if_neg e]; exact w.a f hf
    · rw [es]
      simp only [stepG]
      rw [Sg_set hR hcn fr, w.r]
      omega
    · rw [es] at h
      simp only [stepG] at h
      rw [setD9 hR] at h
      by_cases e : f = c
      · subst e
        rw [if_pos rfl] at h
        unfold takeG at h
        by_cases hu : usB s.life f t = true
        · exact hu
        · rw [if_neg hu] at h; omega
      · rw [if_neg e] at h; exact w.u f hf h
theorem allG_left {s : Sh} (hg : GoodSh s) (nw : Bool) : ∀ t, t ≤ s.need.length → ∀ f, f < s.need.length → (allG s nw t).1.getD f 0 = s.arr.getD f 0 - colT (allG s nw s.need.length).2 f t := by
  intro t
  induction t with
  | zero => intro _ f hf; show s.arr.getD f 0 = s.arr.getD f 0 - 0; omega
  | succ t ih =>
    intro ht f hf
    have w := (wayG hg nw (t := t) (by omega) (t + 1) (Nat.le_refl _)).a f hf
    have i1 := ih (by omega) f hf
    rw [allG_s]
    simp only
    rw [w, i1, colT, allG_row (by omega)]
    omega
theorem greedy_iss {s : Sh} (hg : GoodSh s) (nw : Bool) : irows s (allG s nw s.need.length).2 s.need.length := by
  refine ⟨fun t ht => ?_, fun f hf => ?_⟩
  · have w := wayG hg nw ht (t + 1) (Nat.le_refl _)
    have ok := gAt_ok hg nw ht (k := t + 1) (Nat.le_refl _)
    unfold irow
    rw [allG_row ht]
    refine ⟨ok.lr, fun f hf => ⟨(ok.row f hf).1, w.u f hf⟩, ?_⟩
    rw [sumTo_Sg]
    have := w.r
    have := ok.r
    omega
  · have l := allG_left hg nw s.need.length (Nat.le_refl _) f hf
    have := ((allG_ok hg nw s.need.length (Nat.le_refl _)).2.1 f hf).1
    omega
theorem colO_false (t k : Nat) : colO false t k = k := by unfold colO; rfl
theorem stepG_r {n : Nat} {g : Gs} (h : GsOk n g) {life : Int} {t f : Nat} (hf : f < n) (hu : usB life f t = true) : (stepG life t f g).A.getD f 0 = 0 ∨ (stepG life t f g).r = 0 := by
  simp only [stepG]
  rw [setD9 (by rw [h.la]; exact hf), if_pos rfl]
  unfold takeG
  rw [if_pos hu]
  omega
theorem old_gone {s : Sh} (hg : GoodSh s) {t : Nat} (ht : t < s.need.length) {g : Nat} (hu : usB s.life g t = true) : ∀ k, k ≤ t + 1 → g < k → (gAt s false t k).A.getD g 0 = 0 ∨ (gAt s false t k).r = 0 := by
  intro k
  induction k with
  | zero => intro _ h; omega
  | succ k ih =>
    intro hk hgk
    have ok := gAt_ok hg false ht (k := k) (by omega)
    rw [gAt_s, colO_false]
    by_cases e : g = k
    · subst e
      exact stepG_r ok (by omega) hu
    · rcases ih (by omega) (by omega) with h | h
      · left
        simp only [stepG]
        rw [setD9 (by rw [ok.la]; omega), if_neg e]
        exact h
      · right
        have := takeG_bd ok (life := s.life) (t := t) (f := k) (by omega)
        simp only [stepG]
        omega
theorem way_falls {s : Sh} (hg : GoodSh s) {t : Nat} (ht : t < s.need.length) {k : Nat} : ∀ d, k + d ≤ t + 1 → (gAt s false t (k + d)).r ≤ (gAt s false t k).r ∧ ∀ f, f < s.need.length → (gAt s false t (k + d)).A.getD f 0 ≤ (gAt s false t k).A.getD f 0 := by
  intro d
  induction d with
  | zero => intro _; exact ⟨Int.le_refl _, fun f _ => Int.le_refl _⟩
  | succ d ih =>
    intro hd
    obtain ⟨i1, i2⟩ := ih (by omega)
    have ok := gAt_ok hg false ht (k := k + d) (by omega)
    have b := takeG_bd ok (life := s.life) (t := t) (f := k + d) (by omega)
    rw [← Nat.add_assoc, gAt_s, colO_false]
    refine ⟨by simp only [stepG]; omega, fun f hf => ?_⟩
    have := i2 f hf
    simp only [stepG]
    rw [setD9 (by rw [ok.la]; omega)]
    by_cases e : f = k + d
    · subst e; rw [if_pos rfl]; omega
    · rw [if_neg e]; exact this
theorem row_stays {s : Sh} {t f : Nat} {k : Nat} (hfk : f < k) (hl : ∀ k, k ≤ t + 1 → (gAt s false t k).row.length = s.need.length) (ht : t < s.need.length) : ∀ d, k + d ≤ t + 1 → (gAt s false t (k + d)).row.getD f 0 = (gAt s false t k).row.getD f 0 := by
  intro d
  induction d with
  | zero => intro _; rfl
  | succ d ih =>
    intro hd
    rw [← Nat.add_assoc, gAt_s, colO_false]
    simp only [stepG]
    rw [setD9 (by rw [hl _ (by omega)]; omega), if_neg (by omega)]
    exact ih (by omega)
abbrev oldT (s : Sh) : List (List Int) := (allG s false s.need.length).2
theorem old_first {s : Sh} (hg : GoodSh s) {t f g : Nat} (ht : t < s.need.length) (hx : 0 < ((oldT s).getD t []).getD f 0) (hgf : g < f) (hf : f < s.need.length) (hu : usB s.life g t = true) : s.arr.getD g 0 - colT (oldT s) g (t + 1) = 0 := by
  have lr := fun k hk => (gAt_ok hg false ht (k := k) hk).lr
  rw [show oldT s = (allG s false s.need.length).2 from rfl, allG_row ht] at hx
  have hft : f ≤ t := by
    by_cases e : f ≤ t
    · exact e
    · have : (gAt s false t (t + 1)).row.getD f 0 = 0 := gAt_row hg ht (t + 1) (Nat.le_refl _) fun j hj => by rw [colO_false]; omega
      omega
  have okf := gAt_ok hg false ht (k := f) (by omega)
  have e1 := row_stays (s := s) (t := t) (f := f) (k := f + 1) (by omega) lr ht (t - f) (by omega)
  rw [show f + 1 + (t - f) = t + 1 by omega] at e1
  rw [e1, gAt_s, colO_false] at hx
  simp only [stepG] at hx
  rw [setD9 (by rw [okf.lr]; exact hf), if_pos rfl] at hx
  have b := takeG_bd okf (life := s.life) (t := t) hf
  have z : (gAt s false t f).A.getD g 0 = 0 := by
    rcases old_gone hg ht hu f (by omega) hgf with h | h
    · exact h
    · omega
  have fall := (way_falls hg ht (k := f) (t + 1 - f) (by omega)).2 g (by omega)
  rw [show f + (t + 1 - f) = t + 1 by omega] at fall
  have okt := (gAt_ok hg false ht (k := t + 1) (Nat.le_refl _)).a g (by omega)
  have l := allG_left hg false (t + 1) (by omega) g (by omega)
  rw [allG_s] at l
  simp only at l
  show s.arr.getD g 0 - colT (allG s false s.need.length).2 g (t + 1) = 0
  omega
theorem lost_empty {s : Sh} (hg : GoodSh s) {t f : Nat} (ht : t < s.need.length) (hl : sumTo ((oldT s).getD t []) s.need.length < s.need.getD t 0) (hf : f ≤ t) (hu : usB s.life f t = true) : s.arr.getD f 0 - colT (oldT s) f (t + 1) = 0 := by
  rw [show oldT s = (allG s false s.need.length).2 from rfl, allG_row ht, sumTo_Sg] at hl
  have w := (wayG hg false ht (t + 1) (Nat.le_refl _)).r
  have z : (gAt s false t (t + 1)).A.getD f 0 = 0 := by
    rcases old_gone hg ht hu (t + 1) (Nat.le_refl _) (by omega) with h | h
    · exact h
    · omega
  have l := allG_left hg false (t + 1) (by omega) f (by omega)
  rw [allG_s] at l
  simp only at l
  show s.arr.getD f 0 - colT (allG s false s.need.length).2 f (t + 1) = 0
  omega
end Go.Proofs.Ytdgfbmilbhckiaa.Ab
end
section
namespace Go.Proofs.Ytdgfbmilbhckiaa.Ab
open Go Go.RowKit
set_option linter.unusedVariables false
set_option linter.unusedSimpArgs false
def Gone (s : Sh) (t t1 : Nat) : Prop := t ≤ t1 ∧ t1 < s.need.length ∧ ∀ f : Nat, f ≤ t1 → (t : Int) < f + s.life → s.arr.getD f 0 - colT (oldT s) f (t1 + 1) = 0
open Classical in
noncomputable def goneB (s : Sh) (t : Nat) : Bool := decide (∃ t1, Gone s t t1)
theorem goneB_iff {s : Sh} {t : Nat} : goneB s t = true ↔ ∃ t1, Gone s t t1 := by unfold goneB; simp
theorem usB_iff {life : Int} {f t : Nat} : usB life f t = true ↔ f ≤ t ∧ (t : Int) < f + life := by
  unfold usB
  rw [Bool.and_eq_true, decide_eq_true_eq, decide_eq_true_eq]
  omega
theorem old_bound {s : Sh} (hg : GoodSh s) : lostSum s (oldT s) = boundV s (pl (goneB s) s.need.length) := by
  have h : irows s (oldT s) s.need.length := greedy_iss hg false
  have l1 := hg.l1
  obtain ⟨n, hn⟩ : ∃ n, n = s.need.length := ⟨_, rfl⟩
  have used : ∀ {t t1 f t2 : Nat}, Gone s t t1 → usB s.life f t = true → t2 < n → 0 < ((oldT s).getD t2 []).getD f 0 → goneB s t2 = true := fun {t t1 f t2} hG hu h2 hx => by
    obtain ⟨g1, g2, g3⟩ := hG
    obtain ⟨u1, u2⟩ := usB_iff.1 hu
    have hfn : f < s.need.length := by omega
    have z := g3 f (by omega) u2
    have hu2 := usB_iff.1 (((h.1 t2 (by omega)).2.1 f hfn).2 hx)
    have t21 : t2 ≤ t1 := by
      by_cases e : t2 ≤ t1
      · exact e
      · have c1 := col_mono h.1 hfn (i := t1 + 1) (j := t2) (by omega) (by omega)
        have c2 := col_mono h.1 hfn (i := t2 + 1) (j := s.need.length) (by omega) (Nat.le_refl _)
        have c3 := h.2 f hfn
        rw [colT] at c2
        have hx' : 0 < ((oldT s).getD t2 []).getD f 0 := hx
        have z' : s.arr.getD f 0 - colT (oldT s) f (t1 + 1) = 0 := z
        omega
    refine goneB_iff.2 ⟨t1, t21, g2, fun g hg1 hg2 => ?_⟩
    by_cases e : (t : Int) < g + s.life
    · exact g3 g hg1 e
    · have hgf : g < f := by omega
      have o := old_first hg (t := t2) (f := f) (g := g) (by omega) hx hgf hfn (usB_iff.2 ⟨by omega, hg2⟩)
      have c1 := col_mono h.1 (f := g) (by omega) (i := t2 + 1) (j := t1 + 1) (by omega) (by omega)
      have c2 := col_mono h.1 (f := g) (by omega) (i := t1 + 1) (j := s.need.length) (by omega) (Nat.le_refl _)
      have c3 := h.2 g (by omega)
      have o' : s.arr.getD g 0 - colT (oldT s) g (t2 + 1) = 0 := o
      show s.arr.getD g 0 - colT (oldT s) g (t1 + 1) = 0
      omega
  unfold boundV lostSum
  rw [needS_pl, subA_Sg, hg.la, ← hn]
  rw [← hn] at h
  have a1 : Sg (fun t => s.need.getD t 0 - sumTo ((oldT s).getD t []) n) n = Sg (fun t => if goneB s t then s.need.getD t 0 - sumTo ((oldT s).getD t []) n else 0) n := Sg_congr fun t ht => by
    by_cases hp : goneB s t = true
    · rw [if_pos hp]
    · rw [if_neg hp]
      have le := (h.1 t ht).2.2
      rw [← hn] at le
      by_cases e : sumTo ((oldT s).getD t []) n < s.need.getD t 0
      · exfalso
        refine hp (goneB_iff.2 ⟨t, Nat.le_refl _, by omega, fun f hf hl => ?_⟩)
        exact lost_empty hg (by omega) (by rw [← hn]; exact e) hf (usB_iff.2 ⟨hf, hl⟩)
      · have le' : sumTo ((oldT s).getD t []) n ≤ s.need.getD t 0 := le
        omega
  have a2 : Sg (fun t => if goneB s t then s.need.getD t 0 - sumTo ((oldT s).getD t []) n else 0) n = Sg (fun t => if goneB s t then s.need.getD t 0 else 0) n - Sg (fun t => if goneB s t then sumTo ((oldT s).getD t []) n else 0) n := by
    rw [← Sg_sub]
    exact Sg_congr fun t _ => by split <;> omega
  have a3 : Sg (fun t => if goneB s t then sumTo ((oldT s).getD t []) n else 0) n = Sg (fun f => Sg (fun t => if goneB s t then ((oldT s).getD t []).getD f 0 else 0) n) n := by
    rw [← Sg_swap (fun t f => if goneB s t then ((oldT s).getD t []).getD f 0 else 0)]
    exact Sg_congr fun t _ => by rw [Sg_if, sumTo_Sg]
  have a4 : Sg (fun f => Sg (fun t => if goneB s t then ((oldT s).getD t []).getD f 0 else 0) n) n = Sg (fun f => if useAny s (pl (goneB s) n) f then s.arr.getD f 0 else 0) n := Sg_congr fun f hf => by
    by_cases hu : useAny s (pl (goneB s) n) f = true
    · rw [if_pos hu]
      obtain ⟨t, ht, hp, hut⟩ := (useAny_pl s (goneB s) f n).1 hu
      obtain ⟨t1, hG⟩ := goneB_iff.1 hp
      have e1 : Sg (fun t => if goneB s t then ((oldT s).getD t []).getD f 0 else 0) n = colT (oldT s) f n := by
        rw [colT_Sg]
        refine Sg_congr fun t2 h2 => ?_
        by_cases hp2 : goneB s t2 = true
        · rw [if_pos hp2]
        · rw [if_neg hp2]
          have nn := ((h.1 t2 h2).2.1 f (by omega)).1
          have nn' : 0 ≤ ((oldT s).getD t2 []).getD f 0 := nn
          by_cases e : 0 < ((oldT s).getD t2 []).getD f 0
          · exact absurd (used hG hut h2 e) hp2
          · omega
      rw [e1]
      have z := hG.2.2 f (by have := usB_iff.1 hut; have := hG.1; omega) (usB_iff.1 hut).2
      have c2 := col_mono h.1 (f := f) (by omega) (i := t1 + 1) (j := n) (by have := hG.2.1; omega) (Nat.le_refl _)
      have c3 := h.2 f (by omega)
      have z' : s.arr.getD f 0 - colT (oldT s) f (t1 + 1) = 0 := z
      show colT (oldT s) f n = _
      omega
    · rw [if_neg hu]
      refine Sg_zero fun t ht => ?_
      split
      · rename_i hp
        have q := (h.1 t ht).2.1 f (by omega)
        have q1 : 0 ≤ ((oldT s).getD t []).getD f 0 := q.1
        by_cases e : 0 < ((oldT s).getD t []).getD f 0
        · exact absurd ((useAny_pl s (goneB s) f n).2 ⟨t, ht, hp, q.2 e⟩) hu
        · omega
      · rfl
  omega
theorem proof_old {s : Sh} (hg : GoodSh s) : lboundOk s (proof9A s) = true ∧ lboundA s (proof9A s) = lostSum s (oldT s) := by
  have hgb := goodSh_iff.2 hg
  have rp := pl_rising (goneB s) s.need.length
  have ok : lboundOk s (pl (goneB s) s.need.length) = true := by unfold lboundOk; rw [hgb, risB_iff.2 rp]; rfl
  obtain ⟨m1, m2⟩ := bound_most ok
  refine ⟨m1, ?_⟩
  have eA : lboundA s (pl (goneB s) s.need.length) = boundV s (pl (goneB s) s.need.length) := by unfold lboundA; rw [if_pos ok]
  have eP : lboundA s (proof9A s) = boundV s (proof9A s) := by unfold lboundA; rw [if_pos m1]
  have pr : Rising (proof9A s) s.need.length := by
    unfold lboundOk at m1
    rw [Bool.and_eq_true] at m1
    exact risB_iff.1 m1.2
  obtain ⟨c, _, hc⟩ := bits_all _ _ pr
  have up := bound_le hg (greedy_iss hg false) (fun t => decide (c / 2 ^ t % 2 = 1))
  rw [← bits_pl, ← hc] at up
  have lo := old_bound hg
  have up' : boundV s (proof9A s) ≤ lostSum s (oldT s) := up
  rw [eA] at m2
  omega
theorem old_least {s : Sh} (hg : GoodSh s) {T : List (List Int)} (h : irows s T s.need.length) : lostSum s (oldT s) ≤ lostSum s T := by
  rw [old_bound hg]
  exact bound_le hg h (goneB s)
def usedSum (s : Sh) (T : List (List Int)) : Int := Sg (fun t => sumTo (T.getD t []) s.need.length) s.need.length
theorem lost_used (s : Sh) (T : List (List Int)) : lostSum s T = Sg (fun t => s.need.getD t 0) s.need.length - usedSum s T := by
  unfold lostSum usedSum
  rw [← Sg_sub]
theorem wast_used (s : Sh) (T : List (List Int)) : Sg (fun f => s.arr.getD f 0 - colT T f s.need.length) s.need.length = Sg (fun f => s.arr.getD f 0) s.need.length - usedSum s T := by
  unfold usedSum
  rw [Sg_sub]
  congr 1
  rw [Sg_congr (g := fun f => Sg (fun t => (T.getD t []).getD f 0) s.need.length) fun f _ => colT_Sg T f _, Sg_swap (fun f t => (T.getD t []).getD f 0)]
  exact Sg_congr fun t _ => (sumTo_Sg _ _).symm
end Go.Proofs.Ytdgfbmilbhckiaa.Ab
end
section
namespace Go.Proofs.Ytdgfbmilbhckiaa.Ab
open Go Go.RowKit Go.Proofs
set_option maxRecDepth 100000
def c_spec_DrawShelfCost : ACode := .seq (.reg [⟨(some 2), .alc 26 [(.int .i64 0), (.slice none 0 0), (.slice none 0 0), (.int .i64 0), (.int .i64 0)], none⟩,
  ⟨(some 3), .mv (.const (.slice none 0 0)), none⟩])
 (.seq (.reg [⟨(some 4), .mv (.tmp 0), none⟩,
  ⟨(some 5), .call (.func 44) [(.tmp 4)], none⟩,
  ⟨(some 6), .ext 0 (.tmp 5), none⟩,
  ⟨(some 7), .ext 1 (.tmp 5), none⟩,
  ⟨none, .st 5 (.tmp 2) (.tmp 6), none⟩,
  ⟨(some 3), .mv (.tmp 7), none⟩])
 (.ret))
def r_spec_DrawShelfCost : List ARes := [.cell 2 (some 5), .tmp 3]
theorem ok_spec_DrawShelfCost : FnOk Try.prog 7 8 c_spec_DrawShelfCost r_spec_DrawShelfCost := ⟨⟨Try.f7, _, Try.func7, by kernel_rfl, rfl, rfl, by kernel_rfl, by kernel_rfl⟩⟩
def c_spec_DrawIsIssue : ACode := .seq (.reg [⟨(some 2), .alc 26 [(.int .i64 0), (.slice none 0 0), (.slice none 0 0), (.int .i64 0), (.int .i64 0)], none⟩,
  ⟨(some 3), .mv (.const (.slice none 0 0)), none⟩])
 (.seq (.reg [⟨(some 6), .mv (.tmp 0), none⟩,
  ⟨(some 7), .bld [(.slice none 0 0), (.int .i64 0), (.int .u64 0)] [(0, 1, (.tmp 6))], none⟩,
  ⟨(some 8), .box 82 (.tmp 7), none⟩,
  ⟨(some 4), .mv (.tmp 8), none⟩])
 (.seq (.reg [⟨(some 9), .mv (.tmp 4), none⟩,
  ⟨(some 10), .call (.func 67) [(.tmp 9)], none⟩,
  ⟨(some 5), .alc 26 [(.int .i64 0), (.slice none 0 0), (.slice none 0 0), (.int .i64 0), (.int .i64 0)], none⟩,
  ⟨none, .st 5 (.tmp 5) (.tmp 10), none⟩])
 (.seq (.seq (.reg [⟨(some 12), .mv (.tmp 4), none⟩]) (.seq (.reg [⟨(some 13), .ld (some 5) (.tmp 5), none⟩]) (.both (.seq (.reg [⟨(some 11), .ld (some 5) (.tmp 5), none⟩]) (.seq (.reg [⟨(some 14), .call (.func 68) [(.tmp 12), (.tmp 13)], none⟩]) (.seq (.reg [⟨none, .st 5 (.tmp 2) (.tmp 11), none⟩]) (.seq (.reg [⟨(some 3), .mv (.tmp 14), none⟩]) (.skip))))) (.seq (.reg [⟨(some 14), .call (.func 68) [(.tmp 12), (.tmp 13)], none⟩]) (.seq (.reg [⟨(some 11), .ld (some 5) (.tmp 5), none⟩]) (.seq (.reg [⟨none, .st 5 (.tmp 2) (.tmp 11), none⟩]) (.seq (.reg [⟨(some 3), .mv (.tmp 14), none⟩]) (.skip))))))))
 (.ret))))
def r_spec_DrawIsIssue : List ARes := [.cell 2 (some 5), .tmp 3]
theorem ok_spec_DrawIsIssue : FnOk Try.prog 44 15 c_spec_DrawIsIssue r_spec_DrawIsIssue := ⟨⟨Try.f44, _, Try.func44, by kernel_rfl, rfl, rfl, by kernel_rfl, by kernel_rfl⟩⟩
def c_spec_l1Cur__shelf : ACode := .seq (.reg [⟨(some 2), .alc 26 [(.int .i64 0), (.slice none 0 0), (.slice none 0 0), (.int .i64 0), (.int .i64 0)], none⟩])
 (.seq (.reg [⟨(some 5), .mv (.tmp 0), none⟩,
  ⟨(some 6), .bsl 3 1 6 [(.int .i64 0), (.int .i64 0), (.int .i64 0), (.int .i64 0), (.int .i64 0), (.int .i64 0)] [(0, 1, (.const (.int .i64 2))), (1, 1, (.const (.int .i64 3))), (2, 1, (.const (.int .i64 1))), (3, 1, (.const (.int .i64 2))), (4, 1, (.const (.int .i64 4))), (5, 1, (.const (.int .i64 8)))], none⟩,
  ⟨(some 7), .call (.func 75) [(.tmp 5), (.tmp 6)], none⟩,
  ⟨(some 8), .mv (.tmp 0), none⟩,
  ⟨(some 9), .call (.func 105) [(.tmp 8)], none⟩,
  ⟨(some 10), .mv (.tmp 0), none⟩,
  ⟨(some 11), .call (.func 105) [(.tmp 10)], none⟩,
  ⟨(some 12), .bld [(.int .i64 0), (.slice none 0 0), (.slice none 0 0), (.int .i64 0), (.int .i64 0)] [(0, 1, (.tmp 7)), (3, 1, (.tmp 9)), (4, 1, (.tmp 11))], none⟩,
  ⟨(some 3), .alc 26 [(.int .i64 0), (.slice none 0 0), (.slice none 0 0), (.int .i64 0), (.int .i64 0)], none⟩,
  ⟨none, .st 5 (.tmp 3) (.tmp 12), none⟩])
 (.seq (.seq (.reg [⟨(some 13), .mv (.tmp 0), none⟩,
  ⟨(some 14), .bsl 3 1 7 [(.int .i64 0), (.int .i64 0), (.int .i64 0), (.int .i64 0), (.int .i64 0), (.int .i64 0), (.int .i64 0)] [(0, 1, (.const (.int .i64 4))), (1, 1, (.const (.int .i64 5))), (2, 1, (.const (.int .i64 3))), (3, 1, (.const (.int .i64 6))), (4, 1, (.const (.int .i64 2))), (5, 1, (.const (.int .i64 1))), (6, 1, (.const (.int .i64 0)))], none⟩,
  ⟨(some 15), .call (.func 75) [(.tmp 13), (.tmp 14)], none⟩,
  ⟨(some 4), .mv (.tmp 15), none⟩])
 (.block 0 (.loop (.seq (.seq (.reg [⟨(some 16), .mv (.tmp 4), none⟩,
  ⟨(some 17), .bin .gtr (.tmp 16) (.const (.int .i64 0)), none⟩])
 (.cond (.tmp 17) (.skip) (.exit 0)))
 (.seq (.block 1 (.seq (.seq (.reg [⟨(some 20), .fad 1 (.tmp 3), none⟩]) (.seq (.reg [⟨(some 22), .mv (.tmp 0), none⟩]) (.both (.seq (.reg [⟨(some 21), .ld none (.tmp 20), none⟩]) (.seq (.reg [⟨(some 23), .bsl 3 1 6 [(.int .i64 0), (.int .i64 0), (.int .i64 0), (.int .i64 0), (.int .i64 0), (.int .i64 0)] [(0, 1, (.const (.int .i64 2))), (1, 1, (.const (.int .i64 3))), (2, 1, (.const (.int .i64 0))), (3, 1, (.const (.int .i64 5))), (4, 1, (.const (.int .i64 1))), (5, 1, (.const (.int .i64 8)))], none⟩]) (.seq (.reg [⟨(some 24), .call (.func 75) [(.tmp 22), (.tmp 23)], none⟩]) (.seq (.reg [⟨(some 25), .bsl 3 1 1 [(.int .i64 0)] [(0, 1, (.tmp 24))], none⟩]) (.seq (.reg [⟨(some 26), .app 3 1 8 (.tmp 21) (.tmp 25), none⟩]) (.seq (.reg [⟨(some 27), .fad 1 (.tmp 3), none⟩]) (.seq (.reg [⟨none, .st 1 (.tmp 27) (.tmp 26), none⟩]) (.skip)))))))) (.seq (.reg [⟨(some 23), .bsl 3 1 6 [(.int .i64 0), (.int .i64 0), (.int .i64 0), (.int .i64 0), (.int .i64 0), (.int .i64 0)] [(0, 1, (.const (.int .i64 2))), (1, 1, (.const (.int .i64 3))), (2, 1, (.const (.int .i64 0))), (3, 1, (.const (.int .i64 5))), (4, 1, (.const (.int .i64 1))), (5, 1, (.const (.int .i64 8)))], none⟩]) (.both (.seq (.reg [⟨(some 21), .ld none (.tmp 20), none⟩]) (.seq (.reg [⟨(some 24), .call (.func 75) [(.tmp 22), (.tmp 23)], none⟩]) (.seq (.reg [⟨(some 25), .bsl 3 1 1 [(.int .i64 0)] [(0, 1, (.tmp 24))], none⟩]) (.seq (.reg [⟨(some 26), .app 3 1 8 (.tmp 21) (.tmp 25), none⟩]) (.seq (.reg [⟨(some 27), .fad 1 (.tmp 3), none⟩]) (.seq (.reg [⟨none, .st 1 (.tmp 27) (.tmp 26), none⟩]) (.skip))))))) (.seq (.reg [⟨(some 24), .call (.func 75) [(.tmp 22), (.tmp 23)], none⟩]) (.seq (.reg [⟨(some 21), .ld none (.tmp 20), none⟩]) (.seq (.reg [⟨(some 25), .bsl 3 1 1 [(.int .i64 0)] [(0, 1, (.tmp 24))], none⟩]) (.seq (.reg [⟨(some 26), .app 3 1 8 (.tmp 21) (.tmp 25), none⟩]) (.seq (.reg [⟨(some 27), .fad 1 (.tmp 3), none⟩]) (.seq (.reg [⟨none, .st 1 (.tmp 27) (.tmp 26), none⟩]) (.skip))))))))))))
 (.seq (.reg [⟨(some 28), .fad 2 (.tmp 3), none⟩]) (.seq (.reg [⟨(some 30), .mv (.tmp 0), none⟩]) (.both (.seq (.reg [⟨(some 29), .ld none (.tmp 28), none⟩]) (.seq (.reg [⟨(some 31), .bsl 3 1 6 [(.int .i64 0), (.int .i64 0), (.int .i64 0), (.int .i64 0), (.int .i64 0), (.int .i64 0)] [(0, 1, (.const (.int .i64 2))), (1, 1, (.const (.int .i64 3))), (2, 1, (.const (.int .i64 0))), (3, 1, (.const (.int .i64 5))), (4, 1, (.const (.int .i64 1))), (5, 1, (.const (.int .i64 6)))], none⟩]) (.seq (.reg [⟨(some 32), .call (.func 75) [(.tmp 30), (.tmp 31)], none⟩]) (.seq (.reg [⟨(some 33), .bsl 3 1 1 [(.int .i64 0)] [(0, 1, (.tmp 32))], none⟩]) (.seq (.reg [⟨(some 34), .app 3 1 8 (.tmp 29) (.tmp 33), none⟩]) (.seq (.reg [⟨(some 35), .fad 2 (.tmp 3), none⟩]) (.seq (.reg [⟨none, .st 1 (.tmp 35) (.tmp 34), none⟩]) (.skip)))))))) (.seq (.reg [⟨(some 31), .bsl 3 1 6 [(.int .i64 0), (.int .i64 0), (.int .i64 0), (.int .i64 0), (.int .i64 0), (.int .i64 0)] [(0, 1, (.const (.int .i64 2))), (1, 1, (.const (.int .i64 3))), (2, 1, (.const (.int .i64 0))), (3, 1, (.const (.int .i64 5))), (4, 1, (.const (.int .i64 1))), (5, 1, (.const (.int .i64 6)))], none⟩]) (.both (.seq (.reg [⟨(some 29), .ld none (.tmp 28), none⟩]) (.seq (.reg [⟨(some 32), .call (.func 75) [(.tmp 30), (.tmp 31)], none⟩]) (.seq (.reg [⟨(some 33), .bsl 3 1 1 [(.int .i64 0)] [(0, 1, (.tmp 32))], none⟩]) (.seq (.reg [⟨(some 34), .app 3 1 8 (.tmp 29) (.tmp 33), none⟩]) (.seq (.reg [⟨(some 35), .fad 2 (.tmp 3), none⟩]) (.seq (.reg [⟨none, .st 1 (.tmp 35) (.tmp 34), none⟩]) (.skip))))))) (.seq (.reg [⟨(some 32), .call (.func 75) [(.tmp 30), (.tmp 31)], none⟩]) (.seq (.reg [⟨(some 29), .ld none (.tmp 28), none⟩]) (.seq (.reg [⟨(some 33), .bsl 3 1 1 [(.int .i64 0)] [(0, 1, (.tmp 32))], none⟩]) (.seq (.reg [⟨(some 34), .app 3 1 8 (.tmp 29) (.tmp 33), none⟩]) (.seq (.reg [⟨(some 35), .fad 2 (.tmp 3), none⟩]) (.seq (.reg [⟨none, .st 1 (.tmp 35) (.tmp 34), none⟩]) (.skip))))))))))))))
 (.reg [⟨(some 18), .mv (.tmp 4), none⟩,
  ⟨(some 19), .bin .sub (.tmp 18) (.const (.int .i64 1)), none⟩,
  ⟨(some 4), .mv (.tmp 19), none⟩]))))))
 (.seq (.seq (.reg [⟨(some 36), .mv (.tmp 0), none⟩,
  ⟨(some 37), .call (.func 69) [(.tmp 36), (.const (.int .i64 40))], none⟩])
 (.block 2 (.seq (.reg [⟨(some 39), .bin .eql (.tmp 37) (.const (.int .i64 0)), none⟩,
  ⟨(some 38), .mv (.tmp 39), none⟩])
 (.cond (.tmp 38) (.reg [⟨(some 40), .mv (.tmp 0), none⟩,
  ⟨(some 41), .bsl 3 1 3 [(.int .i64 0), (.int .i64 0), (.int .i64 0)] [(0, 1, (.const (.int .i64 0))), (1, 1, (.const (.int .i64 9))), (2, 1, (.const (.int .i64 (-1))))], none⟩,
  ⟨(some 42), .call (.func 75) [(.tmp 40), (.tmp 41)], none⟩,
  ⟨(some 43), .fad 0 (.tmp 3), none⟩,
  ⟨none, .st 1 (.tmp 43) (.tmp 42), none⟩]) (.seq (.reg [⟨(some 45), .bin .eql (.tmp 37) (.const (.int .i64 1)), none⟩,
  ⟨(some 44), .mv (.tmp 45), none⟩])
 (.cond (.tmp 44) (.reg [⟨(some 46), .fad 2 (.tmp 3), none⟩,
  ⟨(some 47), .ld none (.tmp 46), none⟩,
  ⟨(some 48), .bsl 3 1 1 [(.int .i64 0)] [(0, 1, (.const (.int .i64 1)))], none⟩,
  ⟨(some 49), .app 3 1 8 (.tmp 47) (.tmp 48), none⟩,
  ⟨(some 50), .fad 2 (.tmp 3), none⟩,
  ⟨none, .st 1 (.tmp 50) (.tmp 49), none⟩]) (.seq (.reg [⟨(some 52), .bin .eql (.tmp 37) (.const (.int .i64 2)), none⟩,
  ⟨(some 51), .mv (.tmp 52), none⟩])
 (.cond (.tmp 51) (.seq (.reg [⟨(some 53), .fad 2 (.tmp 3), none⟩,
  ⟨(some 54), .ld none (.tmp 53), none⟩,
  ⟨(some 55), .len (.tmp 54), none⟩,
  ⟨(some 56), .bin .gtr (.tmp 55) (.const (.int .i64 0)), none⟩])
 (.cond (.tmp 56) (.seq (.reg [⟨(some 57), .fad 2 (.tmp 3), none⟩]) (.seq (.reg [⟨(some 59), .mv (.tmp 0), none⟩]) (.both (.seq (.reg [⟨(some 58), .ld none (.tmp 57), none⟩]) (.seq (.reg [⟨(some 60), .bsl 3 1 3 [(.int .i64 0), (.int .i64 0), (.int .i64 0)] [(0, 1, (.const (.int .i64 (-1)))), (1, 1, (.const (.int .i64 20))), (2, 1, (.const (.int .i64 21)))], none⟩]) (.seq (.reg [⟨(some 61), .call (.func 75) [(.tmp 59), (.tmp 60)], none⟩]) (.seq (.reg [⟨(some 62), .iad 1 (.tmp 58) (.const (.int .i64 0)), none⟩]) (.seq (.reg [⟨none, .st 1 (.tmp 62) (.tmp 61), none⟩]) (.skip)))))) (.seq (.reg [⟨(some 60), .bsl 3 1 3 [(.int .i64 0), (.int .i64 0), (.int .i64 0)] [(0, 1, (.const (.int .i64 (-1)))), (1, 1, (.const (.int .i64 20))), (2, 1, (.const (.int .i64 21)))], none⟩]) (.both (.seq (.reg [⟨(some 58), .ld none (.tmp 57), none⟩]) (.seq (.reg [⟨(some 61), .call (.func 75) [(.tmp 59), (.tmp 60)], none⟩]) (.seq (.reg [⟨(some 62), .iad 1 (.tmp 58) (.const (.int .i64 0)), none⟩]) (.seq (.reg [⟨none, .st 1 (.tmp 62) (.tmp 61), none⟩]) (.skip))))) (.seq (.reg [⟨(some 61), .call (.func 75) [(.tmp 59), (.tmp 60)], none⟩]) (.seq (.reg [⟨(some 58), .ld none (.tmp 57), none⟩]) (.seq (.reg [⟨(some 62), .iad 1 (.tmp 58) (.const (.int .i64 0)), none⟩]) (.seq (.reg [⟨none, .st 1 (.tmp 62) (.tmp 61), none⟩]) (.skip)))))))))) (.skip))) (.seq (.reg [⟨(some 64), .bin .eql (.tmp 37) (.const (.int .i64 3)), none⟩,
  ⟨(some 63), .mv (.tmp 64), none⟩])
 (.cond (.tmp 63) (.block 3 (.loop (.seq (.seq (.reg [⟨(some 65), .fad 2 (.tmp 3), none⟩,
  ⟨(some 66), .ld none (.tmp 65), none⟩,
  ⟨(some 67), .len (.tmp 66), none⟩,
  ⟨(some 68), .bin .lss (.tmp 67) (.const (.int .i64 9)), none⟩])
 (.cond (.tmp 68) (.skip) (.exit 3)))
 (.block 4 (.seq (.reg [⟨(some 69), .fad 2 (.tmp 3), none⟩,
  ⟨(some 70), .ld none (.tmp 69), none⟩,
  ⟨(some 71), .bsl 3 1 1 [(.int .i64 0)] [(0, 1, (.const (.int .i64 1)))], none⟩,
  ⟨(some 72), .app 3 1 8 (.tmp 70) (.tmp 71), none⟩,
  ⟨(some 73), .fad 2 (.tmp 3), none⟩,
  ⟨none, .st 1 (.tmp 73) (.tmp 72), none⟩])
 (.reg [⟨(some 74), .fad 1 (.tmp 3), none⟩,
  ⟨(some 75), .ld none (.tmp 74), none⟩,
  ⟨(some 76), .bsl 3 1 1 [(.int .i64 0)] [(0, 1, (.const (.int .i64 1)))], none⟩,
  ⟨(some 77), .app 3 1 8 (.tmp 75) (.tmp 76), none⟩,
  ⟨(some 78), .fad 1 (.tmp 3), none⟩,
  ⟨none, .st 1 (.tmp 78) (.tmp 77), none⟩])))))) (.skip)))))))))))
 (.seq (.reg [⟨(some 79), .ld (some 5) (.tmp 3), none⟩,
  ⟨none, .st 5 (.tmp 2) (.tmp 79), none⟩])
 (.ret)))))
def r_spec_l1Cur__shelf : List ARes := [.cell 2 (some 5)]
theorem ok_spec_l1Cur__shelf : FnOk Try.prog 67 80 c_spec_l1Cur__shelf r_spec_l1Cur__shelf := ⟨⟨Try.f67, _, Try.func67, by kernel_rfl, rfl, rfl, by kernel_rfl, by kernel_rfl⟩⟩
def c_spec_l1Cur__issue : ACode := .seq (.reg [⟨(some 3), .box 26 (.tmp 1), none⟩,
  ⟨(some 4), .mv (.const (.slice none 0 0)), none⟩])
 (.seq (.seq (.reg [⟨(some 10), .ld (some 5) (.tmp 3), none⟩,
  ⟨(some 11), .call (.func 46) [(.tmp 10)], none⟩,
  ⟨(some 12), .un .not (.tmp 11), none⟩])
 (.cond (.tmp 12) (.seq (.reg [⟨(some 13), .bsl 3 1 1 [(.int .i64 0)] [(0, 1, (.const (.int .i64 0)))], none⟩,
  ⟨(some 14), .bsl 24 1 1 [(.slice none 0 0)] [(0, 1, (.tmp 13))], none⟩,
  ⟨(some 4), .mv (.tmp 14), none⟩])
 (.ret)) (.skip)))
 (.seq (.seq (.reg [⟨(some 16), .mv (.tmp 0), none⟩]) (.both (.seq (.reg [⟨(some 15), .ld (some 5) (.tmp 3), none⟩]) (.seq (.reg [⟨(some 17), .call (.func 74) [(.tmp 16), (.const (.int .i64 2))], none⟩]) (.seq (.reg [⟨(some 18), .rcall (.func 56) [(.tmp 15), (.tmp 17)], none⟩]) (.seq (.reg [⟨(some 5), .mv (.tmp 18), none⟩]) (.skip))))) (.seq (.reg [⟨(some 17), .call (.func 74) [(.tmp 16), (.const (.int .i64 2))], none⟩]) (.seq (.reg [⟨(some 15), .ld (some 5) (.tmp 3), none⟩]) (.seq (.reg [⟨(some 18), .rcall (.func 56) [(.tmp 15), (.tmp 17)], none⟩]) (.seq (.reg [⟨(some 5), .mv (.tmp 18), none⟩]) (.skip)))))))
 (.seq (.seq (.reg [⟨(some 19), .mv (.tmp 5), none⟩,
  ⟨(some 20), .len (.tmp 19), none⟩,
  ⟨(some 21), .bin .eql (.tmp 20) (.const (.int .i64 0)), none⟩])
 (.cond (.tmp 21) (.seq (.reg [⟨(some 22), .mv (.tmp 5), none⟩,
  ⟨(some 4), .mv (.tmp 22), none⟩])
 (.ret)) (.skip)))
 (.seq (.seq (.reg [⟨(some 23), .mv (.tmp 0), none⟩,
  ⟨(some 24), .call (.func 69) [(.tmp 23), (.const (.int .i64 4))], none⟩,
  ⟨(some 6), .mv (.tmp 24), none⟩])
 (.block 0 (.loop (.seq (.seq (.reg [⟨(some 25), .mv (.tmp 6), none⟩,
  ⟨(some 26), .bin .gtr (.tmp 25) (.const (.int .i64 0)), none⟩])
 (.cond (.tmp 26) (.skip) (.exit 0)))
 (.seq (.block 1 (.seq (.reg [⟨(some 29), .mv (.tmp 0), none⟩,
  ⟨(some 30), .mv (.tmp 5), none⟩,
  ⟨(some 31), .len (.tmp 30), none⟩,
  ⟨(some 32), .call (.func 69) [(.tmp 29), (.tmp 31)], none⟩,
  ⟨(some 33), .mv (.tmp 0), none⟩,
  ⟨(some 34), .mv (.tmp 5), none⟩,
  ⟨(some 35), .len (.tmp 34), none⟩,
  ⟨(some 36), .call (.func 69) [(.tmp 33), (.tmp 35)], none⟩,
  ⟨(some 7), .mv (.tmp 32), none⟩,
  ⟨(some 8), .mv (.tmp 36), none⟩])
 (.seq (.reg [⟨(some 37), .mv (.tmp 5), none⟩,
  ⟨(some 38), .mv (.tmp 7), none⟩,
  ⟨(some 39), .iad 1 (.tmp 37) (.tmp 38), none⟩,
  ⟨(some 40), .ld none (.tmp 39), none⟩,
  ⟨(some 41), .mv (.tmp 8), none⟩,
  ⟨(some 42), .iad 1 (.tmp 40) (.tmp 41), none⟩,
  ⟨(some 43), .ld none (.tmp 42), none⟩,
  ⟨(some 44), .bin .gtr (.tmp 43) (.const (.int .i64 0)), none⟩,
  ⟨(some 45), .mv (.tmp 44), none⟩,
  ⟨(some 46), .mv (.tmp 0), (some (45, false))⟩,
  ⟨(some 47), .call (.func 74) [(.tmp 46), (.const (.int .i64 8))], (some (45, false))⟩,
  ⟨(some 48), .pick (.tmp 45) (.const (.bool true)) (.tmp 47), none⟩])
 (.cond (.tmp 48) (.seq (.reg [⟨(some 49), .mv (.tmp 5), none⟩,
  ⟨(some 50), .mv (.tmp 7), none⟩,
  ⟨(some 51), .iad 1 (.tmp 49) (.tmp 50), none⟩,
  ⟨(some 52), .ld none (.tmp 51), none⟩,
  ⟨(some 53), .mv (.tmp 8), none⟩,
  ⟨(some 54), .mv (.tmp 5), none⟩,
  ⟨(some 55), .mv (.tmp 7), none⟩,
  ⟨(some 56), .iad 1 (.tmp 54) (.tmp 55), none⟩,
  ⟨(some 57), .ld none (.tmp 56), none⟩,
  ⟨(some 58), .mv (.tmp 8), none⟩,
  ⟨(some 59), .iad 1 (.tmp 57) (.tmp 58), none⟩,
  ⟨(some 60), .ld none (.tmp 59), none⟩,
  ⟨(some 61), .bin .sub (.tmp 60) (.const (.int .i64 1)), none⟩,
  ⟨(some 62), .iad 1 (.tmp 52) (.tmp 53), none⟩,
  ⟨none, .st 1 (.tmp 62) (.tmp 61), none⟩])
 (.seq (.reg [⟨(some 63), .mv (.tmp 0), none⟩,
  ⟨(some 64), .mv (.tmp 5), none⟩,
  ⟨(some 65), .len (.tmp 64), none⟩,
  ⟨(some 66), .call (.func 69) [(.tmp 63), (.tmp 65)], none⟩,
  ⟨(some 9), .mv (.tmp 66), none⟩])
 (.seq (.reg [⟨(some 67), .mv (.tmp 0), none⟩,
  ⟨(some 68), .call (.func 74) [(.tmp 67), (.const (.int .i64 2))], none⟩])
 (.cond (.tmp 68) (.reg [⟨(some 69), .mv (.tmp 5), none⟩,
  ⟨(some 70), .mv (.tmp 9), none⟩,
  ⟨(some 71), .iad 1 (.tmp 69) (.tmp 70), none⟩,
  ⟨(some 72), .ld none (.tmp 71), none⟩,
  ⟨(some 73), .mv (.tmp 8), none⟩,
  ⟨(some 74), .mv (.tmp 5), none⟩,
  ⟨(some 75), .mv (.tmp 9), none⟩,
  ⟨(some 76), .iad 1 (.tmp 74) (.tmp 75), none⟩,
  ⟨(some 77), .ld none (.tmp 76), none⟩,
  ⟨(some 78), .mv (.tmp 8), none⟩,
  ⟨(some 79), .iad 1 (.tmp 77) (.tmp 78), none⟩,
  ⟨(some 80), .ld none (.tmp 79), none⟩,
  ⟨(some 81), .bin .add (.tmp 80) (.const (.int .i64 1)), none⟩,
  ⟨(some 82), .iad 1 (.tmp 72) (.tmp 73), none⟩,
  ⟨none, .st 1 (.tmp 82) (.tmp 81), none⟩]) (.skip))))) (.skip)))))
 (.reg [⟨(some 27), .mv (.tmp 6), none⟩,
  ⟨(some 28), .bin .sub (.tmp 27) (.const (.int .i64 1)), none⟩,
  ⟨(some 6), .mv (.tmp 28), none⟩]))))))
 (.seq (.seq (.reg [⟨(some 83), .mv (.tmp 0), none⟩,
  ⟨(some 84), .call (.func 74) [(.tmp 83), (.const (.int .i64 24))], none⟩])
 (.cond (.tmp 84) (.reg [⟨(some 85), .mv (.tmp 5), none⟩,
  ⟨(some 86), .mv (.tmp 5), none⟩,
  ⟨(some 87), .iad 1 (.tmp 86) (.const (.int .i64 0)), none⟩,
  ⟨(some 88), .ld none (.tmp 87), none⟩,
  ⟨(some 89), .bsl 3 1 1 [(.int .i64 0)] [(0, 1, (.const (.int .i64 0)))], none⟩,
  ⟨(some 90), .app 3 1 8 (.tmp 88) (.tmp 89), none⟩,
  ⟨(some 91), .iad 1 (.tmp 85) (.const (.int .i64 0)), none⟩,
  ⟨none, .st 1 (.tmp 91) (.tmp 90), none⟩]) (.skip)))
 (.seq (.reg [⟨(some 92), .mv (.tmp 5), none⟩,
  ⟨(some 4), .mv (.tmp 92), none⟩])
 (.ret)))))))
def r_spec_l1Cur__issue : List ARes := [.tmp 4]
theorem ok_spec_l1Cur__issue : FnOk Try.prog 68 93 c_spec_l1Cur__issue r_spec_l1Cur__issue := ⟨⟨Try.f68, _, Try.func68, by kernel_rfl, rfl, rfl, by kernel_rfl, by kernel_rfl⟩⟩
def c_spec_l1Cur__pick : ACode := .seq (.reg [⟨(some 4), .mv (.const (.int .i64 0)), none⟩])
 (.seq (.seq (.reg [⟨(some 6), .mv (.tmp 1), none⟩,
  ⟨(some 7), .bin .leq (.tmp 6) (.const (.int .i64 1)), none⟩])
 (.cond (.tmp 7) (.seq (.reg [⟨(some 4), .mv (.const (.int .i64 0)), none⟩])
 (.ret)) (.skip)))
 (.seq (.reg [⟨(some 8), .mv (.tmp 0), none⟩,
  ⟨(some 9), .call (.func 106) [(.tmp 8)], none⟩,
  ⟨(some 5), .mv (.tmp 9), none⟩])
 (.seq (.seq (.reg [⟨(some 10), .mv (.tmp 1), none⟩,
  ⟨(some 11), .bin .gtr (.tmp 10) (.const (.int .i64 200)), none⟩])
 (.cond (.tmp 11) (.reg [⟨(some 12), .mv (.tmp 5), none⟩,
  ⟨(some 13), .bin .mul (.tmp 12) (.const (.int .i64 256)), none⟩,
  ⟨(some 14), .mv (.tmp 0), none⟩,
  ⟨(some 15), .call (.func 106) [(.tmp 14)], none⟩,
  ⟨(some 16), .bin .add (.tmp 13) (.tmp 15), none⟩,
  ⟨(some 5), .mv (.tmp 16), none⟩]) (.skip)))
 (.seq (.reg [⟨(some 17), .mv (.tmp 5), none⟩,
  ⟨(some 18), .mv (.tmp 1), none⟩,
  ⟨(some 19), .bin .rem (.tmp 17) (.tmp 18), none⟩,
  ⟨(some 4), .mv (.tmp 19), none⟩])
 (.ret)))))
def r_spec_l1Cur__pick : List ARes := [.tmp 4]
theorem ok_spec_l1Cur__pick : FnOk Try.prog 69 20 c_spec_l1Cur__pick r_spec_l1Cur__pick := ⟨⟨Try.f69, _, Try.func69, by kernel_rfl, rfl, rfl, by kernel_rfl, by kernel_rfl⟩⟩
def c_spec_l1Cur__one : ACode := .seq (.reg [⟨(some 4), .mv (.const (.bool false)), none⟩])
 (.seq (.reg [⟨(some 5), .mv (.tmp 0), none⟩,
  ⟨(some 6), .mv (.tmp 1), none⟩,
  ⟨(some 7), .call (.func 69) [(.tmp 5), (.tmp 6)], none⟩,
  ⟨(some 8), .bin .eql (.tmp 7) (.const (.int .i64 0)), none⟩,
  ⟨(some 4), .mv (.tmp 8), none⟩])
 (.ret))
def r_spec_l1Cur__one : List ARes := [.tmp 4]
theorem ok_spec_l1Cur__one : FnOk Try.prog 74 9 c_spec_l1Cur__one r_spec_l1Cur__one := ⟨⟨Try.f74, _, Try.func74, by kernel_rfl, rfl, rfl, by kernel_rfl, by kernel_rfl⟩⟩
def c_spec_l1Cur__among : ACode := .seq (.reg [⟨(some 4), .mv (.const (.int .i64 0)), none⟩])
 (.seq (.reg [⟨(some 5), .mv (.tmp 1), none⟩,
  ⟨(some 6), .mv (.tmp 0), none⟩,
  ⟨(some 7), .mv (.tmp 1), none⟩,
  ⟨(some 8), .len (.tmp 7), none⟩,
  ⟨(some 9), .call (.func 69) [(.tmp 6), (.tmp 8)], none⟩,
  ⟨(some 10), .iad 1 (.tmp 5) (.tmp 9), none⟩,
  ⟨(some 11), .ld none (.tmp 10), none⟩,
  ⟨(some 4), .mv (.tmp 11), none⟩])
 (.ret))
def r_spec_l1Cur__among : List ARes := [.tmp 4]
theorem ok_spec_l1Cur__among : FnOk Try.prog 75 12 c_spec_l1Cur__among r_spec_l1Cur__among := ⟨⟨Try.f75, _, Try.func75, by kernel_rfl, rfl, rfl, by kernel_rfl, by kernel_rfl⟩⟩
def c_spec_l1Cur__charge : ACode := .seq (.reg [⟨(some 2), .mv (.const (.int .i64 0)), none⟩])
 (.seq (.reg [⟨(some 3), .mv (.tmp 0), none⟩,
  ⟨(some 4), .bsl 3 1 9 [(.int .i64 0), (.int .i64 0), (.int .i64 0), (.int .i64 0), (.int .i64 0), (.int .i64 0), (.int .i64 0), (.int .i64 0), (.int .i64 0)] [(0, 1, (.const (.int .i64 1))), (1, 1, (.const (.int .i64 2))), (2, 1, (.const (.int .i64 3))), (3, 1, (.const (.int .i64 5))), (4, 1, (.const (.int .i64 0))), (5, 1, (.const (.int .i64 8))), (6, 1, (.const (.int .i64 20))), (7, 1, (.const (.int .i64 21))), (8, 1, (.const (.int .i64 (-1))))], none⟩,
  ⟨(some 5), .mv (.tmp 0), none⟩,
  ⟨(some 6), .call (.func 69) [(.tmp 5), (.const (.int .i64 24))], none⟩,
  ⟨(some 7), .bin .quo (.tmp 6) (.const (.int .i64 11)), none⟩,
  ⟨(some 8), .bin .add (.const (.int .i64 7)) (.tmp 7), none⟩,
  ⟨(some 9), .slc 1 (.tmp 4) none (some (.tmp 8)), none⟩,
  ⟨(some 10), .call (.func 75) [(.tmp 3), (.tmp 9)], none⟩,
  ⟨(some 2), .mv (.tmp 10), none⟩])
 (.ret))
def r_spec_l1Cur__charge : List ARes := [.tmp 2]
theorem ok_spec_l1Cur__charge : FnOk Try.prog 105 11 c_spec_l1Cur__charge r_spec_l1Cur__charge := ⟨⟨Try.f105, _, Try.func105, by kernel_rfl, rfl, rfl, by kernel_rfl, by kernel_rfl⟩⟩
def c_spec_l1Cur__next : ACode := .seq (.reg [⟨(some 2), .mv (.const (.int .i64 0)), none⟩])
 (.seq (.reg [⟨(some 3), .mv (.const (.int .i64 0)), none⟩])
 (.seq (.seq (.reg [⟨(some 4), .mv (.tmp 0), none⟩,
  ⟨(some 5), .nilc (.tmp 4), none⟩,
  ⟨(some 6), .fad 1 (.tmp 5), none⟩,
  ⟨(some 7), .ld none (.tmp 6), none⟩,
  ⟨(some 8), .mv (.tmp 0), none⟩,
  ⟨(some 9), .nilc (.tmp 8), none⟩,
  ⟨(some 10), .fad 0 (.tmp 9), none⟩,
  ⟨(some 11), .ld none (.tmp 10), none⟩,
  ⟨(some 12), .len (.tmp 11), none⟩,
  ⟨(some 13), .bin .lss (.tmp 7) (.tmp 12), none⟩])
 (.cond (.tmp 13) (.reg [⟨(some 14), .mv (.tmp 0), none⟩,
  ⟨(some 15), .nilc (.tmp 14), none⟩,
  ⟨(some 16), .fad 0 (.tmp 15), none⟩,
  ⟨(some 17), .ld none (.tmp 16), none⟩,
  ⟨(some 18), .mv (.tmp 0), none⟩,
  ⟨(some 19), .nilc (.tmp 18), none⟩,
  ⟨(some 20), .fad 1 (.tmp 19), none⟩,
  ⟨(some 21), .ld none (.tmp 20), none⟩,
  ⟨(some 22), .iad 1 (.tmp 17) (.tmp 21), none⟩,
  ⟨(some 23), .ld none (.tmp 22), none⟩,
  ⟨(some 24), .conv .i64 (.tmp 23), none⟩,
  ⟨(some 3), .mv (.tmp 24), none⟩]) (.skip)))
 (.seq (.reg [⟨(some 25), .mv (.tmp 0), none⟩,
  ⟨(some 26), .nilc (.tmp 25), none⟩,
  ⟨(some 27), .fad 1 (.tmp 26), none⟩,
  ⟨(some 28), .ld none (.tmp 27), none⟩,
  ⟨(some 29), .bin .add (.tmp 28) (.const (.int .i64 1)), none⟩,
  ⟨(some 30), .nilc (.tmp 25), none⟩,
  ⟨(some 31), .fad 1 (.tmp 30), none⟩,
  ⟨none, .st 1 (.tmp 31) (.tmp 29), none⟩])
 (.seq (.reg [⟨(some 32), .mv (.tmp 0), none⟩,
  ⟨(some 33), .mv (.tmp 0), none⟩,
  ⟨(some 34), .nilc (.tmp 33), none⟩,
  ⟨(some 35), .fad 2 (.tmp 34), none⟩,
  ⟨(some 36), .ld none (.tmp 35), none⟩,
  ⟨(some 37), .bin .mul (.tmp 36) (.const (.int .u64 6364136223846793005)), none⟩,
  ⟨(some 38), .mv (.tmp 3), none⟩,
  ⟨(some 39), .conv .u64 (.tmp 38), none⟩,
  ⟨(some 40), .bin .add (.tmp 37) (.tmp 39), none⟩,
  ⟨(some 41), .bin .add (.tmp 40) (.const (.int .u64 462197)), none⟩,
  ⟨(some 42), .nilc (.tmp 32), none⟩,
  ⟨(some 43), .fad 2 (.tmp 42), none⟩,
  ⟨none, .st 1 (.tmp 43) (.tmp 41), none⟩])
 (.seq (.seq (.reg [⟨(some 44), .mv (.tmp 0), none⟩,
  ⟨(some 45), .nilc (.tmp 44), none⟩,
  ⟨(some 46), .fad 1 (.tmp 45), none⟩,
  ⟨(some 47), .ld none (.tmp 46), none⟩,
  ⟨(some 48), .mv (.tmp 0), none⟩,
  ⟨(some 49), .nilc (.tmp 48), none⟩,
  ⟨(some 50), .fad 0 (.tmp 49), none⟩,
  ⟨(some 51), .ld none (.tmp 50), none⟩,
  ⟨(some 52), .len (.tmp 51), none⟩,
  ⟨(some 53), .bin .leq (.tmp 47) (.tmp 52), none⟩])
 (.cond (.tmp 53) (.seq (.reg [⟨(some 54), .mv (.tmp 3), none⟩,
  ⟨(some 2), .mv (.tmp 54), none⟩])
 (.ret)) (.skip)))
 (.seq (.reg [⟨(some 55), .mv (.tmp 0), none⟩,
  ⟨(some 56), .nilc (.tmp 55), none⟩,
  ⟨(some 57), .fad 2 (.tmp 56), none⟩,
  ⟨(some 58), .ld none (.tmp 57), none⟩,
  ⟨(some 59), .bin .shr (.tmp 58) (.const (.int .u64 40)), none⟩,
  ⟨(some 60), .bin .and (.tmp 59) (.const (.int .u64 255)), none⟩,
  ⟨(some 61), .conv .i64 (.tmp 60), none⟩,
  ⟨(some 2), .mv (.tmp 61), none⟩])
 (.ret)))))))
def r_spec_l1Cur__next : List ARes := [.tmp 2]
theorem ok_spec_l1Cur__next : FnOk Try.prog 106 62 c_spec_l1Cur__next r_spec_l1Cur__next := ⟨⟨Try.f106, _, Try.func106, by kernel_rfl, rfl, rfl, by kernel_rfl, by kernel_rfl⟩⟩
end Go.Proofs.Ytdgfbmilbhckiaa.Ab
end
section
namespace Go.Proofs.Ytdgfbmilbhckiaa.Ab
open Go Go.RowKit
set_option linter.unusedVariables false
set_option linter.unusedSimpArgs false
structure CurA (M : Mem) (cb : Nat) (l : List Int) (id : Nat) (at_ : Nat) : Prop where
  code : M[cb]? = some ⟨.ro, 5, l.map (Value.int .u8)⟩
  byte : ∀ x ∈ l, 0 ≤ x ∧ x ≤ 255
  few : l.length ≤ 65536
  box : ∃ seed : Nat × Int, M[id]? = some ⟨.own, 82, [.slice (some ⟨cb, 0, none⟩) l.length seed.1, .int .i64 (at_ : Int), .int .u64 seed.2]⟩
structure Cw (id : Nat) (m M : Mem) : Prop where
  len : m.length ≤ M.length
  old : ∀ i, i ≠ id → i < m.length → M[i]? = m[i]?
  new : ∀ (i : Nat) (b : Blk), m.length ≤ i → M[i]? = some b → b.kd ≠ .ro
theorem Cw.refl (id : Nat) (m : Mem) : Cw id m m := ⟨Nat.le_refl _, fun _ _ _ => rfl, fun i b h1 h2 => by rw [List.getElem?_eq_none h1] at h2; cases h2⟩
theorem Cw.set (id : Nat) (m : Mem) (b : Blk) : Cw id m (m.set id b) :=
  ⟨by simp, fun i h _ => List.getElem?_set_ne (Ne.symm h), fun i b h1 h2 => by rw [List.getElem?_eq_none (by simpa using h1)] at h2; cases h2⟩
theorem Cw.trans {id : Nat} {A B C : Mem} (hid : id < A.length) (h : Cw id A B) (h' : Cw id B C) : Cw id A C :=
  ⟨Nat.le_trans h.len h'.len, fun i h1 h2 => (h'.old i h1 (Nat.lt_of_lt_of_le h2 h.len)).trans (h.old i h1 h2), fun i b h1 h2 => by
    by_cases hb : B.length ≤ i
    · exact h'.new i b hb h2
    · by_cases e : i = id
      · exact absurd e (fun e => by omega)
      · rw [h'.old i e (by omega)] at h2; exact h.new i b h1 h2⟩
theorem nilcC (a : Addr) : nilcA (.pointer (some a)) = some (.pointer (some a)) := rfl
theorem and255A (x : Int) : 0 ≤ IntKind.i64.wrap (IntKind.u64.wrap ((BitVec.ofInt IntKind.u64.bits x &&& BitVec.ofInt IntKind.u64.bits 255).toNat : Int)) ∧ IntKind.i64.wrap (IntKind.u64.wrap ((BitVec.ofInt IntKind.u64.bits x &&& BitVec.ofInt IntKind.u64.bits 255).toNat : Int)) ≤ 255 := by
  obtain ⟨y, hy⟩ : ∃ y, y = (BitVec.ofInt IntKind.u64.bits x &&& BitVec.ofInt IntKind.u64.bits 255).toNat := ⟨_, rfl⟩
  have hle : y ≤ 255 := by
    rw [hy, BitVec.toNat_and]
    refine Nat.le_trans Nat.and_le_right ?_
    decide
  rw [← hy]
  have e1 : IntKind.u64.wrap (y : Int) = (y : Int) := by
    rw [IntKind.wrap_u64]
    omega
  rw [e1, w64 ⟨by omega, by omega⟩]
  omega
abbrev curB (cb n fl : Nat) (a : Int) (seed : Int) : Blk := ⟨.own, 82, [.slice (some ⟨cb, 0, none⟩) n fl, .int .i64 a, .int .u64 seed]⟩
theorem cur_rd {M : Mem} {id cb n fl : Nat} {a seed : Int} (hb : M[id]? = some (curB cb n fl a seed)) : rdc M id 0 = some (.slice (some ⟨cb, 0, none⟩) n fl) ∧ rdc M id 1 = some (.int .i64 a) ∧ rdc M id 2 = some (.int .u64 seed) := by
  refine ⟨?_, ?_, ?_⟩ <;> (unfold rdc; rw [hb]; rfl)
theorem cur_set {M : Mem} {id cb n fl : Nat} {a seed : Int} (hb : M[id]? = some (curB cb n fl a seed)) (a' seed' : Int) : (M.set id (curB cb n fl a' seed'))[id]? = some (curB cb n fl a' seed') := by
  rw [List.getElem?_set_self (List.getElem?_eq_some_iff.1 hb).1]
theorem next_ac (M : Mem) (cb id at_ : Nat) (l : List Int) (h : CurA M cb l id at_) (ha : at_ ≤ 1000000000) :
    AC Try.prog 106 [.pointer (some ⟨id, 0, none⟩)] M fun r M' => ∃ x : Int, r = .int .i64 x ∧ 0 ≤ x ∧ x ≤ 255 ∧ Cw id M M' ∧ CurA M' cb l id (at_ + 1) := by
  refine ac_of_run mixed ok_spec_l1Cur__next (by simp) (go_start _ _ _ ?_)
  obtain ⟨⟨fl, seed⟩, hb⟩ := h.box
  obtain ⟨r0, r1, r2⟩ := cur_rd hb
  have st1 : stA M id 1 [.int .i64 ((at_ : Int) + 1)] = some (M.set id (curB cb l.length fl ((at_ : Int) + 1) seed)) := stA_at hb (by simp) rfl
  have hb1 := cur_set hb ((at_ : Int) + 1) seed
  obtain ⟨M1, hM1⟩ : ∃ M1, M1 = M.set id (curB cb l.length fl ((at_ : Int) + 1) seed) := ⟨_, rfl⟩
  rw [← hM1] at st1 hb1
  obtain ⟨p0, p1, p2⟩ := cur_rd hb1
  have st2 : ∀ E : Int, stA M1 id 2 [.int .u64 E] = some (M1.set id (curB cb l.length fl ((at_ : Int) + 1) E)) := fun E => stA_at hb1 (by simp) rfl
  have s0 : ∀ E : Int, rdc (M1.set id (curB cb l.length fl ((at_ : Int) + 1) E)) id 0 = some (.slice (some ⟨cb, 0, none⟩) l.length fl) := fun E => (cur_rd (cur_set hb1 _ E)).1
  have s1 : ∀ E : Int, rdc (M1.set id (curB cb l.length fl ((at_ : Int) + 1) E)) id 1 = some (.int .i64 ((at_ : Int) + 1)) := fun E => (cur_rd (cur_set hb1 _ E)).2.1
  have s2 : ∀ E : Int, rdc (M1.set id (curB cb l.length fl ((at_ : Int) + 1) E)) id 2 = some (.int .u64 E) := fun E => (cur_rd (cur_set hb1 _ E)).2.2
  have hne : cb ≠ id := fun e => by have := h.code; rw [e, hb] at this; cases this
  have fin : ∀ E : Int, Cw id M (M1.set id (curB cb l.length fl ((at_ : Int) + 1) E)) ∧ CurA (M1.set id (curB cb l.length fl ((at_ : Int) + 1) E)) cb l id (at_ + 1) := fun E => by
    rw [hM1, List.set_set]
    refine ⟨Cw.set _ _ _, ⟨by rw [List.getElem?_set_ne (Ne.symm hne)]; exact h.code, h.byte, h.few, (fl, E), ?_⟩⟩
    rw [List.getElem?_set_self (List.getElem?_eq_some_iff.1 hb).1]
    simp
  by_cases hlt : (at_ : Int) < l.length
  · have ia : iadA 1 (.slice (some ⟨cb, 0, none⟩) l.length fl) (.int .i64 (at_ : Int)) = some (.pointer (some ⟨cb, at_, none⟩)) := by
      have := iadA_in (id := cb) (off := 0) (n := l.length) (fl := fl) (sz := 1) (k := .i64) (j := at_) (by omega)
      simpa using this
    have hx := h.byte (l.getD at_ 0) (by rw [List.getD_eq_getElem?_getD, List.getElem?_eq_getElem (by omega)]; exact List.getElem_mem _)
    have rx : rdc M cb at_ = some (.int .u8 (l.getD at_ 0)) := by
      unfold rdc
      rw [h.code]
      simp [List.getD_eq_getElem?_getD, List.getElem?_eq_getElem (show at_ < l.length by omega)]
    have hle : (at_ : Int) + 1 ≤ l.length := by omega
    have w1 : IntKind.i64.wrap (l.getD at_ 0) = l.getD at_ 0 := w64 ⟨by omega, by omega⟩
    simp (config := {implicitDefEqProofs := false, maxDischargeDepth := 20}) (disch := first | omega | (simp only [lenE]; done) | (simp only [lenE]; omega) | rfl | (simp only [lenE, markR_len]; done) | (simp only [lenE, markR_len]; omega)) only [runE, mapE, listE, initT_5, initT_6, initT_7, initT_8, resV, oneV, binA, unA, reduceCtorEq, Nat.reduceEqDiff, Nat.reduceAdd, Nat.reduceLT, Nat.reduceLeDiff, Nat.reduceMul, Nat.reduceSub, ↓reduceIte, decide_true, decide_false, Bool.true_eq_false, Bool.false_eq_true, Bool.not_true, Bool.not_false, if_true, if_false, and_true, true_and, memE, celE, w64, Nat.zero_add, Nat.add_zero, Nat.mul_one, putL, and_self, ldn, c_spec_l1Cur__next, r_spec_l1Cur__next, nilcC, r0, r1, r2, hlt, ia, rx, st1, p0, p1, p2, st2, s0, s1, s2, hle, w1]
    exact ⟨_, rfl, hx.1, hx.2, fin _⟩
  · have hle : ¬ ((at_ : Int) + 1 ≤ l.length) := by omega
    have h40 : ¬ ((40 : Int) < 0) := by decide
    simp (config := {implicitDefEqProofs := false, maxDischargeDepth := 20}) (disch := first | omega | (simp only [lenE]; done) | (simp only [lenE]; omega) | rfl | (simp only [lenE, markR_len]; done) | (simp only [lenE, markR_len]; omega)) only [runE, mapE, listE, initT_5, initT_6, initT_7, initT_8, resV, oneV, binA, unA, reduceCtorEq, Nat.reduceEqDiff, Nat.reduceAdd, Nat.reduceLT, Nat.reduceLeDiff, Nat.reduceMul, Nat.reduceSub, ↓reduceIte, decide_true, decide_false, Bool.true_eq_false, Bool.false_eq_true, Bool.not_true, Bool.not_false, if_true, if_false, and_true, true_and, memE, celE, w64, Nat.zero_add, Nat.add_zero, Nat.mul_one, putL, and_self, ldn, c_spec_l1Cur__next, r_spec_l1Cur__next, nilcC, r0, r1, r2, hlt, st1, p0, p1, p2, st2, s0, s1, s2, hle, h40]
    exact ⟨_, rfl, (and255A _).1, (and255A _).2, fin _⟩
theorem CurA.lt {M : Mem} {cb id a : Nat} {l : List Int} (h : CurA M cb l id a) : id < M.length := by
  obtain ⟨seed, hb⟩ := h.box
  exact (List.getElem?_eq_some_iff.1 hb).1
theorem pick_ac (M : Mem) (cb id a : Nat) (l : List Int) (n : Int) (h : CurA M cb l id a) (ha : a ≤ 999999998) (h1 : 1 ≤ n) (h2 : n ≤ 65536) :
    AC Try.prog 69 [.pointer (some ⟨id, 0, none⟩), .int .i64 n] M fun r M' => ∃ x : Int, r = .int .i64 x ∧ 0 ≤ x ∧ x < n ∧ Cw id M M' ∧ ∃ a', a' ≤ a + 2 ∧ CurA M' cb l id a' := by
  refine ac_of_run mixed ok_spec_l1Cur__pick (by simp) (go_start _ _ _ ?_)
  by_cases hn : n ≤ 1
  · simp (config := {implicitDefEqProofs := false, maxDischargeDepth := 20}) (disch := first | omega | (simp only [lenE]; done) | (simp only [lenE]; omega) | rfl | (simp only [lenE, markR_len]; done) | (simp only [lenE, markR_len]; omega)) only [runE, mapE, listE, initT_5, initT_6, initT_7, initT_8, resV, oneV, binA, unA, reduceCtorEq, Nat.reduceEqDiff, Nat.reduceAdd, Nat.reduceLT, Nat.reduceLeDiff, Nat.reduceMul, Nat.reduceSub, ↓reduceIte, decide_true, decide_false, Bool.true_eq_false, Bool.false_eq_true, Bool.not_true, Bool.not_false, if_true, if_false, and_true, true_and, memE, celE, w64, Nat.zero_add, Nat.add_zero, Nat.mul_one, putL, and_self, ldn, c_spec_l1Cur__pick, r_spec_l1Cur__pick, hn]
    exact ⟨0, rfl, by omega, by omega, Cw.refl _ _, a, by omega, h⟩
  · simp (config := {implicitDefEqProofs := false, maxDischargeDepth := 20}) (disch := first | omega | (simp only [lenE]; done) | (simp only [lenE]; omega) | rfl | (simp only [lenE, markR_len]; done) | (simp only [lenE, markR_len]; omega)) only [runE, mapE, listE, initT_5, initT_6, initT_7, initT_8, resV, oneV, binA, unA, reduceCtorEq, Nat.reduceEqDiff, Nat.reduceAdd, Nat.reduceLT, Nat.reduceLeDiff, Nat.reduceMul, Nat.reduceSub, ↓reduceIte, decide_true, decide_false, Bool.true_eq_false, Bool.false_eq_true, Bool.not_true, Bool.not_false, if_true, if_false, and_true, true_and, memE, celE, w64, Nat.zero_add, Nat.add_zero, Nat.mul_one, putL, and_self, ldn, c_spec_l1Cur__pick, r_spec_l1Cur__pick, hn]
    refine callH_ac (next_ac M cb id a l h (by omega)) ?_
    rintro r M1 ⟨x, rfl, x0, x1, w1, k1⟩
    have hn0 : ¬ (n = 0) := by omega
    by_cases hb : n > 200
    · simp (config := {implicitDefEqProofs := false, maxDischargeDepth := 20}) (disch := first | omega | (simp only [lenE]; done) | (simp only [lenE]; omega) | rfl | (simp only [lenE, markR_len]; done) | (simp only [lenE, markR_len]; omega)) only [runE, mapE, listE, initT_5, initT_6, initT_7, initT_8, resV, oneV, binA, unA, reduceCtorEq, Nat.reduceEqDiff, Nat.reduceAdd, Nat.reduceLT, Nat.reduceLeDiff, Nat.reduceMul, Nat.reduceSub, ↓reduceIte, decide_true, decide_false, Bool.true_eq_false, Bool.false_eq_true, Bool.not_true, Bool.not_false, if_true, if_false, and_true, true_and, memE, celE, w64, Nat.zero_add, Nat.add_zero, Nat.mul_one, putL, and_self, ldn, hb]
      refine callH_ac (next_ac M1 cb id (a + 1) l k1 (by omega)) ?_
      rintro r M2 ⟨y, rfl, y0, y1, w2, k2⟩
      have e1 : IntKind.i64.wrap (x * 256) = x * 256 := w64 ⟨by omega, by omega⟩
      have e2 : IntKind.i64.wrap (x * 256 + y) = x * 256 + y := w64 ⟨by omega, by omega⟩
      simp (config := {implicitDefEqProofs := false, maxDischargeDepth := 20}) (disch := first | omega | (simp only [lenE]; done) | (simp only [lenE]; omega) | rfl | (simp only [lenE, markR_len]; done) | (simp only [lenE, markR_len]; omega)) only [runE, mapE, listE, initT_5, initT_6, initT_7, initT_8, resV, oneV, binA, unA, reduceCtorEq, Nat.reduceEqDiff, Nat.reduceAdd, Nat.reduceLT, Nat.reduceLeDiff, Nat.reduceMul, Nat.reduceSub, ↓reduceIte, decide_true, decide_false, Bool.true_eq_false, Bool.false_eq_true, Bool.not_true, Bool.not_false, if_true, if_false, and_true, true_and, memE, celE, w64, Nat.zero_add, Nat.add_zero, Nat.mul_one, putL, and_self, ldn, e1, e2, hn0]
      exact ⟨_, rfl, Int.tmod_nonneg _ (by omega), Int.tmod_lt_of_pos _ (by omega), w1.trans h.lt w2, a + 1 + 1, by omega, k2⟩
    · simp (config := {implicitDefEqProofs := false, maxDischargeDepth := 20}) (disch := first | omega | (simp only [lenE]; done) | (simp only [lenE]; omega) | rfl | (simp only [lenE, markR_len]; done) | (simp only [lenE, markR_len]; omega)) only [runE, mapE, listE, initT_5, initT_6, initT_7, initT_8, resV, oneV, binA, unA, reduceCtorEq, Nat.reduceEqDiff, Nat.reduceAdd, Nat.reduceLT, Nat.reduceLeDiff, Nat.reduceMul, Nat.reduceSub, ↓reduceIte, decide_true, decide_false, Bool.true_eq_false, Bool.false_eq_true, Bool.not_true, Bool.not_false, if_true, if_false, and_true, true_and, memE, celE, w64, Nat.zero_add, Nat.add_zero, Nat.mul_one, putL, and_self, ldn, hb, hn0]
      exact ⟨_, rfl, Int.tmod_nonneg _ (by omega), Int.tmod_lt_of_pos _ (by omega), w1, a + 1, by omega, k1⟩
theorem one_ac (M : Mem) (cb id a : Nat) (l : List Int) (n : Int) (h : CurA M cb l id a) (ha : a ≤ 999999998) (h1 : 1 ≤ n) (h2 : n ≤ 65536) :
    AC Try.prog 74 [.pointer (some ⟨id, 0, none⟩), .int .i64 n] M fun r M' => ∃ b : Bool, r = .bool b ∧ Cw id M M' ∧ ∃ a', a' ≤ a + 2 ∧ CurA M' cb l id a' := by
  refine ac_of_run mixed ok_spec_l1Cur__one (by simp) (go_start _ _ _ ?_)
  simp (config := {implicitDefEqProofs := false, maxDischargeDepth := 20}) (disch := first | omega | (simp only [lenE]; done) | (simp only [lenE]; omega) | rfl | (simp only [lenE, markR_len]; done) | (simp only [lenE, markR_len]; omega)) only [runE, mapE, listE, initT_5, initT_6, initT_7, initT_8, resV, oneV, binA, unA, reduceCtorEq, Nat.reduceEqDiff, Nat.reduceAdd, Nat.reduceLT, Nat.reduceLeDiff, Nat.reduceMul, Nat.reduceSub, ↓reduceIte, decide_true, decide_false, Bool.true_eq_false, Bool.false_eq_true, Bool.not_true, Bool.not_false, if_true, if_false, and_true, true_and, memE, celE, w64, Nat.zero_add, Nat.add_zero, Nat.mul_one, putL, and_self, ldn, c_spec_l1Cur__one, r_spec_l1Cur__one]
  refine callH_ac (pick_ac M cb id a l n h ha h1 h2) ?_
  rintro r M1 ⟨x, rfl, x0, x1, w1, k1⟩
  simp (config := {implicitDefEqProofs := false, maxDischargeDepth := 20}) (disch := first | omega | (simp only [lenE]; done) | (simp only [lenE]; omega) | rfl | (simp only [lenE, markR_len]; done) | (simp only [lenE, markR_len]; omega)) only [runE, mapE, listE, initT_5, initT_6, initT_7, initT_8, resV, oneV, binA, unA, reduceCtorEq, Nat.reduceEqDiff, Nat.reduceAdd, Nat.reduceLT, Nat.reduceLeDiff, Nat.reduceMul, Nat.reduceSub, ↓reduceIte, decide_true, decide_false, Bool.true_eq_false, Bool.false_eq_true, Bool.not_true, Bool.not_false, if_true, if_false, and_true, true_and, memE, celE, w64, Nat.zero_add, Nat.add_zero, Nat.mul_one, putL, and_self, ldn]
  exact ⟨_, rfl, w1, k1⟩
theorem among_ac (M : Mem) (cb id a : Nat) (l : List Int) (u : Value) (xs : List Int) (h : CurA M cb l id a) (ha : a ≤ 999999998) (h0 : IntsA M u xs) (hk : ∀ M', Cw id M M' → IntsA M' u xs) (h1 : 1 ≤ xs.length) (h2 : xs.length ≤ 1000) :
    AC Try.prog 75 [.pointer (some ⟨id, 0, none⟩), u] M fun r M' => ∃ x ∈ xs, r = .int .i64 x ∧ Cw id M M' ∧ ∃ a', a' ≤ a + 2 ∧ CurA M' cb l id a' := by
  refine ac_of_run mixed ok_spec_l1Cur__among (by simp) (go_start _ _ _ ?_)
  simp (config := {implicitDefEqProofs := false, maxDischargeDepth := 20}) (disch := first | omega | (simp only [lenE]; done) | (simp only [lenE]; omega) | rfl | (simp only [lenE, markR_len]; done) | (simp only [lenE, markR_len]; omega)) only [runE, mapE, listE, initT_5, initT_6, initT_7, initT_8, resV, oneV, binA, unA, reduceCtorEq, Nat.reduceEqDiff, Nat.reduceAdd, Nat.reduceLT, Nat.reduceLeDiff, Nat.reduceMul, Nat.reduceSub, ↓reduceIte, decide_true, decide_false, Bool.true_eq_false, Bool.false_eq_true, Bool.not_true, Bool.not_false, if_true, if_false, and_true, true_and, memE, celE, w64, Nat.zero_add, Nat.add_zero, Nat.mul_one, putL, and_self, ldn, c_spec_l1Cur__among, r_spec_l1Cur__among, h0.len]
  refine callH_ac (pick_ac M cb id a l (xs.length : Int) h ha (by omega) (by omega)) ?_
  rintro r M1 ⟨x, rfl, x0, x1, w1, k1⟩
  obtain ⟨j, rfl⟩ : ∃ j : Nat, x = (j : Int) := ⟨x.toNat, by omega⟩
  have i1 := hk M1 w1
  simp (config := {implicitDefEqProofs := false, maxDischargeDepth := 20}) (disch := first | omega | (simp only [lenE]; done) | (simp only [lenE]; omega) | rfl | (simp only [lenE, markR_len]; done) | (simp only [lenE, markR_len]; omega)) only [runE, mapE, listE, initT_5, initT_6, initT_7, initT_8, resV, oneV, binA, unA, reduceCtorEq, Nat.reduceEqDiff, Nat.reduceAdd, Nat.reduceLT, Nat.reduceLeDiff, Nat.reduceMul, Nat.reduceSub, ↓reduceIte, decide_true, decide_false, Bool.true_eq_false, Bool.false_eq_true, Bool.not_true, Bool.not_false, if_true, if_false, and_true, true_and, memE, celE, w64, Nat.zero_add, Nat.add_zero, Nat.mul_one, putL, and_self, ldn, i1.at_ j (by omega), i1.ld j (by omega)]
  refine ⟨xs.getD j 0, ?_, rfl, w1, k1⟩
  rw [List.getD_eq_getElem?_getD, List.getElem?_eq_getElem (by omega)]
  exact List.getElem_mem _
theorem Cw.own {id b : Nat} {M M' : Mem} {xs : List Int} (h : Cw id M M') (ho : OwnR M b xs) (hne : b ≠ id) : OwnR M' b xs := (h.old b hne ho.lt).trans ho
end Go.Proofs.Ytdgfbmilbhckiaa.Ab
end
section
namespace Go.Proofs.Ytdgfbmilbhckiaa.Ab
open Go Go.RowKit
set_option linter.unusedVariables false
set_option linter.unusedSimpArgs false
theorem CurA.cw {M M' : Mem} {cb id a : Nat} {l : List Int} (h : CurA M cb l id a) (hlen : M.length ≤ M'.length) (hl : ∀ i, i < M.length → M'[i]? = M[i]?) : CurA M' cb l id a := by
  obtain ⟨seed, hb⟩ := h.box
  have h1 := (List.getElem?_eq_some_iff.1 h.code).1
  exact ⟨(hl cb h1).trans h.code, h.byte, h.few, seed, (hl id h.lt).trans hb⟩
theorem CurA.ext {M : Mem} {cb id a : Nat} {l : List Int} (h : CurA M cb l id a) (new : Mem) : CurA (M ++ new) cb l id a :=
  h.cw (by simp) fun i hi => List.getElem?_append_left hi
theorem Cw.ext {id : Nat} {M M' : Mem} (h : Cw id M M') {new : Mem} (hn : NoRo new) : Cw id M (M' ++ new) :=
  ⟨by have := h.len; simp; omega, fun i h1 h2 => by rw [List.getElem?_append_left (by have := h.len; omega)]; exact h.old i h1 h2, fun i b h1 h2 => by
    by_cases hi : i < M'.length
    · rw [List.getElem?_append_left hi] at h2; exact h.new i b h1 h2
    · rw [List.getElem?_append_right (by omega)] at h2; exact hn b (List.mem_of_getElem? h2)⟩
theorem Cw.pre {id : Nat} {M new M' : Mem} (h : Cw id (M ++ new) M') (hn : NoRo new) (hid : id < M.length) : Cw id M M' :=
  ⟨by have := h.len; simp at this; omega, fun i h1 h2 => (h.old i h1 (by simp; omega)).trans (List.getElem?_append_left h2), fun i b h1 h2 => by
    by_cases hi : (M ++ new).length ≤ i
    · exact h.new i b hi h2
    · rw [h.old i (by omega) (by omega), List.getElem?_append_right h1] at h2
      exact hn b (List.mem_of_getElem? h2)⟩
theorem among_new (M : Mem) (cb id a : Nat) (l : List Int) (xs : List Int) {i n : Nat} (h : CurA M cb l id a) (ha : a ≤ 999999998) (hi : i = M.length) (hn : n = xs.length) (h1 : 1 ≤ xs.length) (h2 : xs.length ≤ 1000) :
    AC Try.prog 75 [.pointer (some ⟨id, 0, none⟩), .slice (some ⟨i, 0, none⟩) n 1] (M ++ [rowB xs]) fun r M' => ∃ x ∈ xs, r = .int .i64 x ∧ Cw id M M' ∧ ∃ a', a' ≤ a + 2 ∧ CurA M' cb l id a' := by
  subst hi hn
  have hid := h.lt
  have ho : OwnR (M ++ [rowB xs]) M.length xs := by unfold OwnR; simp
  refine (among_ac (M ++ [rowB xs]) cb id a l _ xs (h.ext _) ha (ho.ints (by omega) 1) (fun M' w => (w.own ho (by omega)).ints (by omega) 1) h1 h2).mono ?_
  rintro r M' ⟨x, hx, hr, w, k⟩
  exact ⟨x, hx, hr, w.pre (noRo_own noRo_nil) hid, k⟩

theorem CurA.put {M : Mem} {cb id a r : Nat} {l : List Int} (h : CurA M cb l id a) (hr : r ≠ cb) (hi : r ≠ id) (b : Blk) : CurA (M.set r b) cb l id a := by
  obtain ⟨s, hb⟩ := h.box
  exact ⟨by rw [List.getElem?_set_ne hr]; exact h.code, h.byte, h.few, s, by rw [List.getElem?_set_ne hi]; exact hb⟩
theorem Cw.put {id r : Nat} {M M' : Mem} (h : Cw id M M') (hr : M.length ≤ r) {b : Blk} (hb : b.kd ≠ .ro) : Cw id M (M'.set r b) := by
  refine ⟨by simpa using h.len, fun i h1 h2 => by rw [List.getElem?_set_ne (by omega)]; exact h.old i h1 h2, fun i c h1 h2 => ?_⟩
  by_cases e : r = i
  · subst e
    rcases at_set h2 with ⟨hne, _⟩ | ⟨_, hc, _⟩
    · exact absurd rfl hne
    · rw [← hc]; exact hb
  · rw [List.getElem?_set_ne e] at h2; exact h.new i c h1 h2
theorem CurA.cblt {M : Mem} {cb id a : Nat} {l : List Int} (h : CurA M cb l id a) : cb < M.length := (List.getElem?_eq_some_iff.1 h.code).1
structure Dr (M M' : Mem) (cb id a r : Nat) (l L : List Int) : Prop where
  hid : id < M.length
  hcb : cb < M.length
  cw : Cw id M M'
  cur : CurA M' cb l id a
  own : OwnR M' r L
  ge : M.length ≤ r
section
variable {M M' M2 : Mem} {cb id a a2 r : Nat} {l L : List Int}
theorem Dr.draw (h : Dr M M' cb id a r l L) (w : Cw id M' M2) (k : CurA M2 cb l id a2) : Dr M M2 cb id a2 r l L :=
  ⟨h.hid, h.hcb, Cw.trans h.hid h.cw w, k, w.own h.own (by have := h.hid; have := h.ge; omega), h.ge⟩
theorem Dr.ext (h : Dr M M' cb id a r l L) {new : Mem} (hn : NoRo new) : Dr M (M' ++ new) cb id a r l L :=
  ⟨h.hid, h.hcb, h.cw.ext hn, h.cur.ext new, h.own.ext new, h.ge⟩
theorem Dr.new (hid : id < M.length) (hcb : cb < M.length) (w : Cw id M M') (k : CurA M' cb l id a) {r : Nat} (hr : r = M'.length) (L : List Int) : Dr M (M' ++ [rowB L]) cb id a r l L := by
  subst hr
  exact ⟨hid, hcb, w.ext (noRo_own noRo_nil), k.ext _, by unfold OwnR; simp, w.len⟩
theorem Dr.app (h : Dr M M' cb id a r l L) (x : Int) (hl : L.length ≤ 1000) {i : Nat} (hi : i = M'.length) : ∃ M2,
    appP (M' ++ [⟨.own, 3, [.int .i64 x]⟩]) 3 1 8 (.slice (some ⟨r, 0, none⟩) L.length 1) (.slice (some ⟨i, 0, none⟩) 1 1) = some (.slice (some ⟨M'.length + 1, 0, none⟩) (L.length + 1) 1, M2) ∧
    Dr M M2 cb id a (M'.length + 1) l (L ++ [x]) := by
  subst hi
  have hge := h.ge
  have hlt := h.hid
  have hlc := h.hcb
  refine ⟨_, app_gen h.own (by omega), ?_⟩
  have w : Cw id M (M'.set r deadB ++ [⟨.own, 3, [.int .i64 x]⟩]) := (h.cw.put hge (by simp [deadB])).ext (noRo_own noRo_nil)
  have k : CurA (M'.set r deadB ++ [⟨.own, 3, [.int .i64 x]⟩]) cb l id a := (h.cur.put (by omega) (by omega) deadB).ext _
  have := Dr.new hlt hlc w k (r := M'.length + 1) (by simp) (L ++ [x])
  simpa [rowB] using this
theorem Dr.st (h : Dr M M' cb id a r l L) {j : Nat} (hj : j < L.length) (x : Int) : stA M' r j [.int .i64 x] = some (M'.set r (rowB (L.set j x))) ∧ Dr M (M'.set r (rowB (L.set j x))) cb id a r l (L.set j x) := by
  have hge := h.ge
  have hlt := h.hid
  have hlc := h.hcb
  exact ⟨h.own.st hj, h.hid, h.hcb, h.cw.put hge (by simp), h.cur.put (by omega) (by omega) _, h.own.set_self, hge⟩
end
end Go.Proofs.Ytdgfbmilbhckiaa.Ab
end
section
namespace Go.Proofs.Ytdgfbmilbhckiaa.Ab
open Go Go.RowKit
set_option linter.unusedVariables false
set_option linter.unusedSimpArgs false
theorem app_genK {M : Mem} {l : List Int} {x : Int} {id : Nat} (h : OwnR M id l) (hb : l.length ≤ 1048576) :
    appP (M ++ [⟨.own, 3, [.int .i64 x]⟩]) 3 1 8 (.slice (some ⟨id, 0, none⟩) l.length 1) (.slice (some ⟨M.length, 0, none⟩) 1 1) =
      some (.slice (some ⟨M.length + 1, 0, none⟩) (l.length + 1) 1, M.set id deadB ++ [⟨.own, 3, [.int .i64 x]⟩] ++ [⟨.own, 3, (l ++ [x]).map (Value.int .i64)⟩]) := by
  have hl := h.lt
  have e1 : slR (M ++ [⟨.own, 3, [.int .i64 x]⟩]) 1 (.slice (some ⟨M.length, 0, none⟩) 1 1) = some [.int .i64 x] := by
    simp only [slR, rdl, Nat.mul_one]
    simp
  unfold appP
  rw [e1]
  simp only [onesB_int, onesB_nil, if_true, appA, lenOfA]
  rw [List.getElem?_append_left hl, show M[id]? = some (rowB l) from h]
  simp only [List.length_map, Nat.mul_one, true_and]
  rw [if_pos (by omega), List.set_append_left _ _ hl]
  simp
def Gr (M : Mem) (v : Value) (l : List Int) (r : Nat) : Prop := (v = .slice none 0 0 ∧ l = []) ∨ (v = .slice (some ⟨r, 0, none⟩) l.length 1 ∧ l ≠ [] ∧ OwnR M r l)
theorem Gr.ints {M : Mem} {v : Value} {l : List Int} {r : Nat} (h : Gr M v l r) (hl : l.length ≤ 1000) : IntsA M v l := by
  rcases h with ⟨rfl, rfl⟩ | ⟨rfl, _, ho⟩
  · exact IntsA.nil M
  · exact ho.ints (by omega) 1
def up4 {α : Type} (f : Nat → α) (o : Nat) (x : α) : Nat → α := fun i => if i = o then x else f i
structure KC (M : Mem) (b lo : Nat) (vs : Nat → Value) (ls : Nat → List Int) (rs : Nat → Nat) : Prop where
  box : M[b]? = some ⟨.own, 52, [vs 0, vs 1, vs 2, vs 3]⟩
  lob : lo ≤ b
  row : ∀ i, i < 4 → Gr M (vs i) (ls i) (rs i)
  ge : ∀ i, i < 4 → ls i ≠ [] → lo ≤ rs i ∧ rs i ≠ b
  ne : ∀ i j, i < 4 → j < 4 → i ≠ j → ls i ≠ [] → ls j ≠ [] → rs i ≠ rs j
theorem Gr.app {M : Mem} {v : Value} {l : List Int} {r : Nat} (h : Gr M v l r) (hl : l.length ≤ 1000) (x : Int) : ∃ M1, appP (M ++ [⟨.own, 3, [.int .i64 x]⟩]) 3 1 8 v (.slice (some ⟨M.length, 0, none⟩) 1 1) = some (.slice (some ⟨M.length + 1, 0, none⟩) (l.length + 1) 1, M1) ∧
    M1.length = M.length + 2 ∧ OwnR M1 (M.length + 1) (l ++ [x]) ∧ (∀ i, i < M.length → (l ≠ [] → i ≠ r) → M1[i]? = M[i]?) ∧ ∀ (i : Nat) (b : Blk), (i = r ∧ l ≠ [] ∨ M.length ≤ i) → M1[i]? = some b → b.kd ≠ .ro := by
  rcases h with ⟨rfl, rfl⟩ | ⟨rfl, hne, ho⟩
  · refine ⟨M ++ [⟨.own, 3, [.int .i64 x]⟩] ++ [⟨.own, 3, [.int .i64 x]⟩], ?_, by simp, ?_, ?_, ?_⟩
    · have e1 : slR (M ++ [⟨.own, 3, [.int .i64 x]⟩]) 1 (.slice (some ⟨M.length, 0, none⟩) 1 1) = some [.int .i64 x] := by
        simp only [slR, rdl, Nat.mul_one]
        simp
      unfold appP
      rw [e1]
      simp [onesB_int, onesB_nil, appA, lenOfA]
    · unfold OwnR
      rw [List.getElem?_append_right (by simp)]
      simp
    · intro i hi _
      rw [List.getElem?_append_left (by simp; omega), List.getElem?_append_left hi]
    · intro i b hi hb
      have hi : M.length ≤ i := by
        rcases hi with ⟨_, h⟩ | h
        · exact absurd rfl h
        · exact h
      rw [List.append_assoc, List.getElem?_append_right hi] at hb
      match i - M.length, hb with
      | 0, hb => simp at hb; rw [← hb]; simp
      | 1, hb => simp at hb; rw [← hb]; simp
  · refine ⟨_, app_genK ho (by omega), by simp, ?_, ?_, ?_⟩
    · unfold OwnR
      rw [List.getElem?_append_right (by simp)]
      simp
    · intro i hi hir
      rw [List.getElem?_append_left (by simp; omega), List.getElem?_append_left (by simpa using hi), List.getElem?_set_ne (Ne.symm (hir hne))]
    · intro i b hi hb
      by_cases hlt : i < M.length
      · have hir : i = r := by
          rcases hi with ⟨h, _⟩ | h
          · exact h
          · omega
        subst hir
        rw [List.getElem?_append_left (by simp; omega), List.getElem?_append_left (by simpa using hlt), List.getElem?_set_self hlt] at hb
        cases hb
        simp [deadB]
      · rw [List.append_assoc, List.getElem?_append_right (by simp; omega)] at hb
        simp only [List.length_set] at hb
        match i - M.length, hb with
        | 0, hb => simp at hb; rw [← hb]; simp
        | 1, hb => simp at hb; rw [← hb]; simp
theorem KC.lt {M : Mem} {b lo : Nat} {vs : Nat → Value} {ls : Nat → List Int} {rs : Nat → Nat} (h : KC M b lo vs ls rs) {i : Nat} (hi : i < 4) (hne : ls i ≠ []) : rs i < M.length ∧ OwnR M (rs i) (ls i) := by
  rcases h.row i hi with ⟨_, h2⟩ | ⟨_, _, h3⟩
  · exact absurd h2 hne
  · exact ⟨h3.lt, h3⟩
theorem KC.app {M : Mem} {b lo : Nat} {vs : Nat → Value} {ls : Nat → List Int} {rs : Nat → Nat} (h : KC M b lo vs ls rs) {o : Nat} (ho : o < 4) (hl : (ls o).length ≤ 1000) (x : Int) : ∃ M1 M2,
    appP (M ++ [⟨.own, 3, [.int .i64 x]⟩]) 3 1 8 (vs o) (.slice (some ⟨M.length, 0, none⟩) 1 1) = some (.slice (some ⟨M.length + 1, 0, none⟩) ((ls o).length + 1) 1, M1) ∧
    stA M1 b o [.slice (some ⟨M.length + 1, 0, none⟩) ((ls o).length + 1) 1] = some M2 ∧
    KC M2 b lo (up4 vs o (.slice (some ⟨M.length + 1, 0, none⟩) ((ls o).length + 1) 1)) (up4 ls o (ls o ++ [x])) (up4 rs o (M.length + 1)) ∧ M2.length = M.length + 2 ∧ (∀ i, i < lo → M2[i]? = M[i]?) ∧
    ((∀ (i : Nat) (k : Blk), lo ≤ i → M[i]? = some k → k.kd ≠ .ro) → ∀ (i : Nat) (k : Blk), lo ≤ i → M2[i]? = some k → k.kd ≠ .ro) := by
  obtain ⟨M1, a1, a2, a3, a4, a5⟩ := (h.row o ho).app hl x
  have hb := (List.getElem?_eq_some_iff.1 h.box).1
  have hbo : ls o ≠ [] → b ≠ rs o := fun hne => Ne.symm (h.ge o ho hne).2
  have hb1 : M1[b]? = some ⟨.own, 52, [vs 0, vs 1, vs 2, vs 3]⟩ := (a4 b hb hbo).trans h.box
  obtain ⟨v', hv'⟩ : ∃ v', v' = Value.slice (some ⟨M.length + 1, 0, none⟩) ((ls o).length + 1) 1 := ⟨_, rfl⟩
  have hst : stA M1 b o [v'] = some (M1.set b ⟨.own, 52, [vs 0, vs 1, vs 2, vs 3].set o v'⟩) := stA_at hb1 (by simpa using ho) (by rw [hv']; rfl)
  rw [← hv'] at a1
  have hlo := h.lob
  rw [← hv']
  refine ⟨M1, _, a1, hst, ⟨?_, h.lob, ?_, ?_, ?_⟩, by simp [a2], ?_, ?_⟩
  · rw [List.getElem?_set_self (by omega)]
    match o, ho with
    | 0, _ => rfl
    | 1, _ => rfl
    | 2, _ => rfl
    | 3, _ => rfl
  · intro i hi
    by_cases e : i = o
    · subst e
      simp only [up4, if_true]
      refine .inr ⟨by rw [hv']; simp, by simp, ?_⟩
      unfold OwnR
      rw [List.getElem?_set_ne (by omega)]
      exact a3
    · simp only [up4, if_neg e]
      rcases h.row i hi with h1 | ⟨h1, h2, h3⟩
      · exact .inl h1
      · refine .inr ⟨h1, h2, ?_⟩
        unfold OwnR
        rw [List.getElem?_set_ne (Ne.symm (h.ge i hi h2).2), a4 (rs i) h3.lt fun hne => h.ne i o hi ho e h2 hne]
        exact h3
  · intro i hi hne
    by_cases e : i = o
    · subst e
      simp only [up4, if_true]
      omega
    · simp only [up4, if_neg e] at hne ⊢
      exact h.ge i hi hne
  · intro i j hi hj hij hne1 hne2
    by_cases e1 : i = o
    · by_cases e2 : j = o
      · omega
      · simp only [up4, if_pos e1, if_neg e2] at hne2 ⊢
        have := (h.lt hj hne2).1
        omega
    · by_cases e2 : j = o
      · simp only [up4, if_neg e1, if_pos e2] at hne1 ⊢
        have := (h.lt hi hne1).1
        omega
      · simp only [up4, if_neg e1, if_neg e2] at hne1 hne2 ⊢
        exact h.ne i j hi hj hij hne1 hne2
  · intro i hi
    rw [List.getElem?_set_ne (by omega)]
    exact a4 i (by omega) fun hne e => by have := (h.ge o ho hne).1; omega
  · intro hro i k hi hk
    by_cases e : i = b
    · subst e
      rw [List.getElem?_set_self (by omega)] at hk
      cases hk
      simp
    · rw [List.getElem?_set_ne (Ne.symm e)] at hk
      by_cases hlt : i < M.length
      · by_cases hr : i = rs o ∧ ls o ≠ []
        · exact a5 i k (.inl hr) hk
        · rw [a4 i hlt fun hne e => hr ⟨e, hne⟩] at hk
          exact hro i k hi hk
      · exact a5 i k (.inr (by omega)) hk
end Go.Proofs.Ytdgfbmilbhckiaa.Ab
end
section
namespace Go.Proofs.Ytdgfbmilbhckiaa.Ab
open Go Go.RowKit
set_option linter.unusedVariables false
set_option linter.unusedSimpArgs false
set_option maxRecDepth 10000
theorem Gr.at9 {M M' : Mem} {v : Value} {l : List Int} {r : Nat} (h : Gr M v l r) (hs : l ≠ [] → M'[r]? = M[r]?) : Gr M' v l r := by
  rcases h with h | ⟨h1, h2, h3⟩
  · exact .inl h
  · exact .inr ⟨h1, h2, h3.at_ (hs h2)⟩
theorem Gr.one9 {M : Mem} {v : Value} {l : List Int} {r : Nat} (h : Gr M v l r) : v.oneCell' = true := by
  rcases h with ⟨rfl, _⟩ | ⟨rfl, _⟩ <;> rfl
abbrev shC (s : Sh) (u v : Value) : List Value := [.int .i64 s.life, u, v, .int .i64 s.waste, .int .i64 s.lost]
structure SB (M0 M : Mem) (cb id a bx : Nat) (l : List Int) (s : Sh) (u v : Value) (r1 r2 : Nat) : Prop where
  hid : id < M0.length
  hcb : cb < M0.length
  cw : Cw id M0 M
  cur : CurA M cb l id a
  box : OwnB M bx 26 (shC s u v)
  ge : M0.length ≤ bx
  g1 : Gr M u s.arr r1
  g2 : Gr M v s.need r2
  e1 : s.arr ≠ [] → M0.length ≤ r1 ∧ r1 ≠ bx
  e2 : s.need ≠ [] → M0.length ≤ r2 ∧ r2 ≠ bx
  ne : s.arr ≠ [] → s.need ≠ [] → r1 ≠ r2
section
variable {M0 M M2 : Mem} {cb id a a2 bx r1 r2 : Nat} {l : List Int} {s : Sh} {u v : Value}
theorem Gr.cw9 {lo : Nat} {w : List Int} {r : Nat} (g : Gr M v w r) (c : Cw id M M2) (hid : id < lo) (he : w ≠ [] → lo ≤ r) : Gr M2 v w r := by
  rcases g with g | ⟨g1, g2, g3⟩
  · exact .inl g
  · exact .inr ⟨g1, g2, c.own g3 (by have := he g2; omega)⟩
theorem SB.draw (h : SB M0 M cb id a bx l s u v r1 r2) (w : Cw id M M2) (k : CurA M2 cb l id a2) : SB M0 M2 cb id a2 bx l s u v r1 r2 :=
  ⟨h.hid, h.hcb, Cw.trans h.hid h.cw w, k, h.box.at_ (w.old bx (by have := h.hid; have := h.ge; omega) h.box.lt), h.ge, h.g1.cw9 w h.hid fun e => (h.e1 e).1, h.g2.cw9 w h.hid fun e => (h.e2 e).1, h.e1, h.e2, h.ne⟩
theorem SB.rd (h : SB M0 M cb id a bx l s u v r1 r2) (k : Nat) : rdc M bx k = (shC s u v)[k]? := h.box.rd k
theorem SB.life (h : SB M0 M cb id a bx l s u v r1 r2) (x : Int) : ∃ M2, stA M bx 0 [.int .i64 x] = some M2 ∧ SB M0 M2 cb id a bx l { s with life := x } u v r1 r2 := by
  have hid := h.hid
  have hcb := h.hcb
  have hge := h.ge
  exact ⟨_, h.box.st (by simp) rfl, hid, hcb, h.cw.put hge (by simp), h.cur.put (by omega) (by omega) _, h.box.set_self _ _, hge, h.g1.at9 fun e => List.getElem?_set_ne (Ne.symm (h.e1 e).2), h.g2.at9 fun e => List.getElem?_set_ne (Ne.symm (h.e2 e).2), h.e1, h.e2, h.ne⟩
theorem app9 {w : List Int} {r : Nat} {uv : Value} (hid : id < M0.length) (hcb : cb < M0.length) (cw : Cw id M0 M) (cur : CurA M cb l id a) (g : Gr M uv w r) (he : w ≠ [] → M0.length ≤ r) (hl : w.length ≤ 1000) (x : Int) : ∃ M1,
    appP (M ++ [⟨.own, 3, [.int .i64 x]⟩]) 3 1 8 uv (.slice (some ⟨M.length, 0, none⟩) 1 1) = some (.slice (some ⟨M.length + 1, 0, none⟩) (w.length + 1) 1, M1) ∧
    M1.length = M.length + 2 ∧ OwnR M1 (M.length + 1) (w ++ [x]) ∧ (∀ i, i < M.length → (w ≠ [] → i ≠ r) → M1[i]? = M[i]?) ∧ Cw id M0 M1 ∧ CurA M1 cb l id a := by
  obtain ⟨M1, h1, h2, h3, h4, h5⟩ := g.app hl x
  have same : ∀ i, i < M.length → i < M0.length → M1[i]? = M[i]? := fun i hi ho => h4 i hi fun e => by have := he e; omega
  have cl := cw.len
  refine ⟨M1, h1, h2, h3, h4, ⟨by omega, fun i e hi => (same i (by omega) hi).trans (cw.old i e hi), fun i b hi hb => ?_⟩, ?_⟩
  · by_cases e : i < M.length
    · by_cases e2 : i = r ∧ w ≠ []
      · exact h5 i b (.inl e2) hb
      · rw [h4 i e fun e3 e4 => e2 ⟨e4, e3⟩] at hb
        exact cw.new i b hi hb
    · exact h5 i b (.inr (by omega)) hb
  · obtain ⟨sd, hb⟩ := cur.box
    exact ⟨(same cb (by omega) hcb).trans cur.code, cur.byte, cur.few, sd, (same id (by omega) hid).trans hb⟩
theorem SB.app1 (h : SB M0 M cb id a bx l s u v r1 r2) (hl : s.arr.length ≤ 1000) (x : Int) : ∃ M1 M2,
    appP (M ++ [⟨.own, 3, [.int .i64 x]⟩]) 3 1 8 u (.slice (some ⟨M.length, 0, none⟩) 1 1) = some (.slice (some ⟨M.length + 1, 0, none⟩) (s.arr.length + 1) 1, M1) ∧
    stA M1 bx 1 [.slice (some ⟨M.length + 1, 0, none⟩) (s.arr.length + 1) 1] = some M2 ∧
    SB M0 M2 cb id a bx l { s with arr := s.arr ++ [x] } (.slice (some ⟨M.length + 1, 0, none⟩) (s.arr.length + 1) 1) v (M.length + 1) r2 := by
  have hid := h.hid
  have hcb := h.hcb
  have hge := h.ge
  have hbl := h.box.lt
  obtain ⟨M1, h1, h2, h3, h4, cw1, k1⟩ := app9 hid hcb h.cw h.cur h.g1 (fun e => (h.e1 e).1) hl x
  have b1 : OwnB M1 bx 26 (shC s u v) := h.box.at_ (h4 bx hbl fun e => Ne.symm (h.e1 e).2)
  have r2l : s.need ≠ [] → r2 < M.length := fun e => by
    rcases h.g2 with ⟨-, g⟩ | ⟨-, -, g⟩
    · exact absurd g e
    · exact g.lt
  refine ⟨M1, _, h1, b1.st (by simp) rfl, hid, hcb, cw1.put hge (by simp), k1.put (by omega) (by omega) _, b1.set_self _ _, hge, .inr ⟨by simp, by simp, h3.at_ (List.getElem?_set_ne (by omega))⟩, ?_, fun _ => ⟨by have := h.cw.len; omega, by omega⟩, h.e2, fun _ e => by have := r2l e; omega⟩
  exact h.g2.at9 fun e => by
    rw [List.getElem?_set_ne (Ne.symm (h.e2 e).2)]
    exact h4 r2 (r2l e) fun e1 => Ne.symm (h.ne e1 e)
theorem SB.app2 (h : SB M0 M cb id a bx l s u v r1 r2) (hl : s.need.length ≤ 1000) (x : Int) : ∃ M1 M2,
    appP (M ++ [⟨.own, 3, [.int .i64 x]⟩]) 3 1 8 v (.slice (some ⟨M.length, 0, none⟩) 1 1) = some (.slice (some ⟨M.length + 1, 0, none⟩) (s.need.length + 1) 1, M1) ∧
    stA M1 bx 2 [.slice (some ⟨M.length + 1, 0, none⟩) (s.need.length + 1) 1] = some M2 ∧
    SB M0 M2 cb id a bx l { s with need := s.need ++ [x] } u (.slice (some ⟨M.length + 1, 0, none⟩) (s.need.length + 1) 1) r1 (M.length + 1) := by
  have hid := h.hid
  have hcb := h.hcb
  have hge := h.ge
  have hbl := h.box.lt
  obtain ⟨M1, h1, h2, h3, h4, cw1, k1⟩ := app9 hid hcb h.cw h.cur h.g2 (fun e => (h.e2 e).1) hl x
  have b1 : OwnB M1 bx 26 (shC s u v) := h.box.at_ (h4 bx hbl fun e => Ne.symm (h.e2 e).2)
  have r1l : s.arr ≠ [] → r1 < M.length := fun e => by
    rcases h.g1 with ⟨-, g⟩ | ⟨-, -, g⟩
    · exact absurd g e
    · exact g.lt
  refine ⟨M1, _, h1, b1.st (by simp) rfl, hid, hcb, cw1.put hge (by simp), k1.put (by omega) (by omega) _, b1.set_self _ _, hge, ?_, .inr ⟨by simp, by simp, h3.at_ (List.getElem?_set_ne (by omega))⟩, h.e1, fun _ => ⟨by have := h.cw.len; omega, by omega⟩, fun e _ => by have := r1l e; omega⟩
  exact h.g1.at9 fun e => by
    rw [List.getElem?_set_ne (Ne.symm (h.e1 e).2)]
    exact h4 r1 (r1l e) fun e1 => h.ne e e1
theorem SB.put (h : SB M0 M cb id a bx l s u v r1 r2) (hl : s.need.length ≤ 1000) (h0 : 0 < s.need.length) (x : Int) : ∃ M2,
    iadA 1 v (.int .i64 0) = some (.pointer (some ⟨r2, 0, none⟩)) ∧ stA M r2 0 [.int .i64 x] = some M2 ∧ SB M0 M2 cb id a bx l { s with need := s.need.set 0 x } u v r1 r2 := by
  have hid := h.hid
  have hcb := h.hcb
  have hge := h.ge
  have hne : s.need ≠ [] := fun e => by rw [e] at h0; simp at h0
  obtain ⟨q1, q2⟩ := h.e2 hne
  rcases h.g2 with ⟨-, g⟩ | ⟨rfl, -, ho⟩
  · exact absurd g hne
  have i0 := (ho.ints (by omega) 1).at_ 0 h0
  have hne' : s.need.set 0 x ≠ [] := fun e => by
    have := congrArg List.length e
    simp at this
    exact hne this
  refine ⟨M.set r2 (rowB (s.need.set 0 x)), by simpa [pAt] using i0, ho.st h0, hid, hcb, h.cw.put q1 (by simp), h.cur.put (by omega) (by omega) _, h.box.set_ne q2 _, hge, ?_, .inr ⟨by simp, hne', ho.set_self⟩, h.e1, fun _ => ⟨q1, q2⟩, fun e _ => h.ne e hne⟩
  exact h.g1.at9 fun e => List.getElem?_set_ne (Ne.symm (h.ne e hne))
end
def LivesSh (lo : Nat) (M : Mem) (v : Value) (s : Sh) : Prop := ∀ M3 : Mem, (∀ i, lo ≤ i → i < M.length → M3[i]? = M[i]?) → ShA M3 v s
theorem LivesSh.here {lo : Nat} {M : Mem} {v : Value} {s : Sh} (h : LivesSh lo M v s) : ShA M v s := h M fun _ _ _ => rfl
theorem LivesSh.cw {lo id : Nat} {M M' : Mem} {v : Value} {s : Sh} (h : LivesSh lo M v s) (hid : id < lo) (c : Cw id M M') : LivesSh lo M' v s := fun M3 h3 =>
  h M3 fun i h1 h2 => (h3 i h1 (Nat.lt_of_lt_of_le h2 c.len)).trans (c.old i (by omega) h2)
theorem LivesSh.up {lo : Nat} {M M' : Mem} {v : Value} {s : Sh} (h : LivesSh lo M v s) (hl : M.length ≤ M'.length) (he : ∀ i, lo ≤ i → i < M.length → M'[i]? = M[i]?) : LivesSh lo M' v s := fun M3 h3 =>
  h M3 fun i h1 h2 => (h3 i h1 (by omega)).trans (he i h1 h2)
theorem SB.fin {M N : Mem} {cb id a bx r1 r2 : Nat} {l : List Int} {s : Sh} {u v : Value} (h : SB (M ++ [⟨.own, 26, [.int .i64 0, .slice none 0 0, .slice none 0 0, .int .i64 0, .int .i64 0]⟩]) N cb id a bx l s u v r1 r2) (hid : id < M.length) (hcb : cb < M.length) (l1 : s.arr.length ≤ 1000) (l2 : s.need.length ≤ 1000) : ∃ N2,
    stA N M.length 0 [.int .i64 s.life, u, v, .int .i64 s.waste, .int .i64 s.lost] = some N2 ∧ (∀ k, rdc N2 M.length k = (shC s u v)[k]?) ∧ LivesSh M.length N2 (shV s u v) s ∧ Cw id M N2 ∧ CurA N2 cb l id a := by
  have hge := h.ge
  have hcl := h.cw.len
  have hlen : (M ++ [(⟨.own, 26, [.int .i64 0, .slice none 0 0, .slice none 0 0, .int .i64 0, .int .i64 0]⟩ : Blk)]).length = M.length + 1 := by simp
  rw [hlen] at hge hcl
  have c : OwnB N M.length 26 [.int .i64 0, .slice none 0 0, .slice none 0 0, .int .i64 0, .int .i64 0] := (h.cw.old M.length (by omega) (by simp)).trans (by simp)
  have o5 : onesB [.int .i64 s.life, u, v, .int .i64 s.waste, .int .i64 s.lost] = true := by
    simp [onesB, h.g1.one9, h.g2.one9]
    exact ⟨rfl, rfl, rfl⟩
  have w0 : Cw id M N := h.cw.pre (noRo_own noRo_nil) hid
  refine ⟨_, c.st (by simp) o5, fun k => (c.set_self _ _).rd k, fun M3 h3 => ⟨u, v, rfl, ?_, ?_⟩, w0.put (Nat.le_refl _) (by simp), h.cur.put (by omega) (by omega) _⟩
  · refine Gr.ints (r := r1) (h.g1.at9 fun e => ?_) l1
    have g := (h.e1 e).1
    rw [hlen] at g
    have hl : r1 < N.length := by
      rcases h.g1 with ⟨-, e2⟩ | ⟨-, -, ho⟩
      · exact absurd e2 e
      · exact ho.lt
    rw [h3 r1 (by omega) (by simpa using hl), List.getElem?_set_ne (by omega)]
  · refine Gr.ints (r := r2) (h.g2.at9 fun e => ?_) l2
    have g := (h.e2 e).1
    rw [hlen] at g
    have hl : r2 < N.length := by
      rcases h.g2 with ⟨-, e2⟩ | ⟨-, -, ho⟩
      · exact absurd e2 e
      · exact ho.lt
    rw [h3 r2 (by omega) (by simpa using hl), List.getElem?_set_ne (by omega)]

theorem bD9 (m : Mem) : bslA m 3 1 9 [.int .i64 0, .int .i64 0, .int .i64 0, .int .i64 0, .int .i64 0, .int .i64 0, .int .i64 0, .int .i64 0, .int .i64 0] [(0, 1, .int .i64 1), (1, 1, .int .i64 2), (2, 1, .int .i64 3), (3, 1, .int .i64 5), (4, 1, .int .i64 0), (5, 1, .int .i64 8), (6, 1, .int .i64 20), (7, 1, .int .i64 21), (8, 1, .int .i64 (-1))] = some (.slice (some ⟨m.length, 0, none⟩) 9 1, m ++ [rowB [1, 2, 3, 5, 0, 8, 20, 21, -1]]) := rfl
theorem charge9_ac (M : Mem) (cb id a : Nat) (l : List Int) (h : CurA M cb l id a) (ha : a ≤ 999999000) :
    AC Try.prog 105 [.pointer (some ⟨id, 0, none⟩)] M fun v M' => ∃ (x : Int) (a' : Nat), v = .int .i64 x ∧ a' ≤ a + 10 ∧ Cw id M M' ∧ CurA M' cb l id a' := by
  refine ac_of_run mixed ok_spec_l1Cur__charge (by simp) (go_start _ _ _ ?_)
  have hid := h.lt
  have hcb := h.cblt
  simp (config := {implicitDefEqProofs := false, maxDischargeDepth := 20}) (disch := first | omega | (simp only [lenE]; done) | (simp only [lenE]; omega) | rfl | (simp only [lenE, markR_len]; done) | (simp only [lenE, markR_len]; omega)) only [runE, mapE, listE, initT_5, initT_6, initT_7, initT_8, resV, oneV, binA, unA, reduceCtorEq, Nat.reduceEqDiff, Nat.reduceAdd, Nat.reduceLT, Nat.reduceLeDiff, Nat.reduceMul, Nat.reduceSub, ↓reduceIte, decide_true, decide_false, Bool.true_eq_false, Bool.false_eq_true, Bool.not_true, Bool.not_false, if_true, if_false, and_true, true_and, memE, celE, w64, Nat.zero_add, Nat.add_zero, Nat.mul_one, putL, and_self, ldn, c_spec_l1Cur__charge, r_spec_l1Cur__charge, bD9]
  have d0 := Dr.new hid hcb (Cw.refl id M) h (r := M.length) rfl [1, 2, 3, 5, 0, 8, 20, 21, -1]
  refine callH_ac (pick_ac _ cb id a l 24 d0.cur (by omega) (by omega) (by omega)) ?_
  rintro v M1 ⟨y, rfl, hy0, hy1, w1, a1, ha1, k1⟩
  have d1 := d0.draw w1 k1
  have q0 : 0 ≤ y.tdiv 11 ∧ y.tdiv 11 ≤ 2 := by
    rw [Int.tdiv_eq_ediv_of_nonneg hy0]; omega
  obtain ⟨n, hn, hn9⟩ : ∃ n : Nat, 7 + y.tdiv 11 = n ∧ n ≤ 9 := ⟨(7 + y.tdiv 11).toNat, by omega, by omega⟩
  have hi := d1.own.ints (by simp) 1
  obtain ⟨u, eu, hu⟩ := hi.pre (hi := n) (by simpa using hn9)
  have d11 : ¬ ((11 : Int) = 0) := by decide
  rw [show (([1, 2, 3, 5, 0, 8, 20, 21, -1] : List Int).length) = 9 from rfl] at eu
  simp (config := {implicitDefEqProofs := false, maxDischargeDepth := 20}) (disch := first | omega | (simp only [lenE]; done) | (simp only [lenE]; omega) | rfl | (simp only [lenE, markR_len]; done) | (simp only [lenE, markR_len]; omega)) only [runE, mapE, listE, initT_5, initT_6, initT_7, initT_8, resV, oneV, binA, unA, reduceCtorEq, Nat.reduceEqDiff, Nat.reduceAdd, Nat.reduceLT, Nat.reduceLeDiff, Nat.reduceMul, Nat.reduceSub, ↓reduceIte, decide_true, decide_false, Bool.true_eq_false, Bool.false_eq_true, Bool.not_true, Bool.not_false, if_true, if_false, and_true, true_and, memE, celE, w64, Nat.zero_add, Nat.add_zero, Nat.mul_one, putL, and_self, ldn, hn, Option.map_none, eu, d11]
  have hcl : (cutL [1, 2, 3, 5, 0, 8, 20, 21, -1] 0 n).length = n := by rw [cutL_len (by simpa using hn9), Nat.sub_zero]
  refine callH_ac (among_ac M1 cb id a1 l u _ d1.cur (by omega) hu (fun M' w => ?_) (by omega) (by omega)) ?_
  · obtain ⟨u', eu', hu'⟩ := ((w.own d1.own (by have := d1.ge; omega)).ints (by simp) 1).pre (hi := n) (by simpa using hn9)
    rw [show (([1, 2, 3, 5, 0, 8, 20, 21, -1] : List Int).length) = 9 from rfl, eu] at eu'
    cases eu'
    exact hu'
  rintro v M2 ⟨x, hx, rfl, w2, a2, ha2, k2⟩
  simp (config := {implicitDefEqProofs := false, maxDischargeDepth := 20}) (disch := first | omega | (simp only [lenE]; done) | (simp only [lenE]; omega) | rfl | (simp only [lenE, markR_len]; done) | (simp only [lenE, markR_len]; omega)) only [runE, mapE, listE, initT_5, initT_6, initT_7, initT_8, resV, oneV, binA, unA, reduceCtorEq, Nat.reduceEqDiff, Nat.reduceAdd, Nat.reduceLT, Nat.reduceLeDiff, Nat.reduceMul, Nat.reduceSub, ↓reduceIte, decide_true, decide_false, Bool.true_eq_false, Bool.false_eq_true, Bool.not_true, Bool.not_false, if_true, if_false, and_true, true_and, memE, celE, w64, Nat.zero_add, Nat.add_zero, Nat.mul_one, putL, and_self, ldn]
  exact ⟨x, a2, rfl, by omega, (d1.draw w2 k2).cw, k2⟩
theorem b6s1 (m : Mem) : bslA m 3 1 6 [.int .i64 0, .int .i64 0, .int .i64 0, .int .i64 0, .int .i64 0, .int .i64 0] [(0, 1, .int .i64 2), (1, 1, .int .i64 3), (2, 1, .int .i64 1), (3, 1, .int .i64 2), (4, 1, .int .i64 4), (5, 1, .int .i64 8)] = some (.slice (some ⟨m.length, 0, none⟩) 6 1, m ++ [rowB [2, 3, 1, 2, 4, 8]]) := rfl
theorem b7s1 (m : Mem) : bslA m 3 1 7 [.int .i64 0, .int .i64 0, .int .i64 0, .int .i64 0, .int .i64 0, .int .i64 0, .int .i64 0] [(0, 1, .int .i64 4), (1, 1, .int .i64 5), (2, 1, .int .i64 3), (3, 1, .int .i64 6), (4, 1, .int .i64 2), (5, 1, .int .i64 1), (6, 1, .int .i64 0)] = some (.slice (some ⟨m.length, 0, none⟩) 7 1, m ++ [rowB [4, 5, 3, 6, 2, 1, 0]]) := rfl
theorem b6s2 (m : Mem) : bslA m 3 1 6 [.int .i64 0, .int .i64 0, .int .i64 0, .int .i64 0, .int .i64 0, .int .i64 0] [(0, 1, .int .i64 2), (1, 1, .int .i64 3), (2, 1, .int .i64 0), (3, 1, .int .i64 5), (4, 1, .int .i64 1), (5, 1, .int .i64 8)] = some (.slice (some ⟨m.length, 0, none⟩) 6 1, m ++ [rowB [2, 3, 0, 5, 1, 8]]) := rfl
theorem b6s3 (m : Mem) : bslA m 3 1 6 [.int .i64 0, .int .i64 0, .int .i64 0, .int .i64 0, .int .i64 0, .int .i64 0] [(0, 1, .int .i64 2), (1, 1, .int .i64 3), (2, 1, .int .i64 0), (3, 1, .int .i64 5), (4, 1, .int .i64 1), (5, 1, .int .i64 6)] = some (.slice (some ⟨m.length, 0, none⟩) 6 1, m ++ [rowB [2, 3, 0, 5, 1, 6]]) := rfl
theorem b3s1 (m : Mem) : bslA m 3 1 3 [.int .i64 0, .int .i64 0, .int .i64 0] [(0, 1, .int .i64 0), (1, 1, .int .i64 9), (2, 1, .int .i64 (-1))] = some (.slice (some ⟨m.length, 0, none⟩) 3 1, m ++ [rowB [0, 9, -1]]) := rfl
theorem b3s2 (m : Mem) : bslA m 3 1 3 [.int .i64 0, .int .i64 0, .int .i64 0] [(0, 1, .int .i64 (-1)), (1, 1, .int .i64 20), (2, 1, .int .i64 21)] = some (.slice (some ⟨m.length, 0, none⟩) 3 1, m ++ [rowB [-1, 20, 21]]) := rfl
theorem b1s (m : Mem) (x : Int) : bslA m 3 1 1 [.int .i64 0] [(0, 1, .int .i64 x)] = some (.slice (some ⟨m.length, 0, none⟩) 1 1, m ++ [⟨.own, 3, [.int .i64 x]⟩]) := rfl
theorem bld_s1 (x y z : Int) : bldA [.int .i64 0, .slice none 0 0, .slice none 0 0, .int .i64 0, .int .i64 0] [(0, 1, .int .i64 x), (3, 1, .int .i64 y), (4, 1, .int .i64 z)] = some (.agg #[.int .i64 x, .slice none 0 0, .slice none 0 0, .int .i64 y, .int .i64 z]) := rfl
theorem stP5s (m : Mem) (id off : Nat) (u v w x y : Value) : stP m 5 (.pointer (some ⟨id, off, none⟩)) (.agg #[u, v, w, x, y]) = stA m id off [u, v, w, x, y] := rfl
theorem Gr.len9 {M : Mem} {v : Value} {l : List Int} {r : Nat} (h : Gr M v l r) : lenA v = some (.int .i64 l.length) := by
  rcases h with ⟨rfl, rfl⟩ | ⟨rfl, _⟩ <;> rfl
theorem Gr.lenOf9 {M : Mem} {v : Value} {l : List Int} {r : Nat} (h : Gr M v l r) : lenOfA v = l.length := by
  rcases h with ⟨rfl, rfl⟩ | ⟨rfl, _⟩ <;> rfl
set_option maxHeartbeats 8000000 in
theorem shelf_ac (M : Mem) (cb id a : Nat) (l : List Int) (h : CurA M cb l id a) (ha : a ≤ 999000000) :
    AC Try.prog 67 [.pointer (some ⟨id, 0, none⟩)] M fun r M' => ∃ s : Sh, ((s.arr.length ≤ 100 ∧ s.need.length ≤ 100) ∧ LivesSh M.length M' r s) ∧ Cw id M M' ∧ ∃ a', a' ≤ a + 1000 ∧ CurA M' cb l id a' := by
  refine ac_of_run mixed ok_spec_l1Cur__shelf (by simp) (go_start _ _ _ ?_)
  have hid := h.lt
  have hcb := h.cblt
  simp (config := {implicitDefEqProofs := false, maxDischargeDepth := 20}) (disch := first | omega | (simp only [lenE]; done) | (simp only [lenE]; omega) | rfl | (simp only [lenE, markR_len]; done) | (simp only [lenE, markR_len]; omega)) only [runE, mapE, listE, initT_5, initT_6, initT_7, initT_8, resV, oneV, binA, unA, reduceCtorEq, Nat.reduceEqDiff, Nat.reduceAdd, Nat.reduceLT, Nat.reduceLeDiff, Nat.reduceMul, Nat.reduceSub, ↓reduceIte, decide_true, decide_false, Bool.true_eq_false, Bool.false_eq_true, Bool.not_true, Bool.not_false, if_true, if_false, and_true, true_and, memE, celE, w64, Nat.zero_add, Nat.add_zero, Nat.mul_one, putL, and_self, ldn, c_spec_l1Cur__shelf, r_spec_l1Cur__shelf, b6s1]
  obtain ⟨E, hE⟩ : ∃ E, E = M ++ [⟨.own, 26, [.int .i64 0, .slice none 0 0, .slice none 0 0, .int .i64 0, .int .i64 0]⟩] := ⟨_, rfl⟩
  have hEl : E.length = M.length + 1 := by rw [hE]; simp
  have kE : CurA E cb l id a := by rw [hE]; exact h.ext _
  rw [← hE]
  refine callH_ac (among_new E cb id a l [2, 3, 1, 2, 4, 8] kE (by omega) (by omega) rfl (by simp) (by simp)) ?_
  rintro r M1 ⟨x1, -, rfl, w1, a1, ha1, k1⟩
  simp (config := {implicitDefEqProofs := false, maxDischargeDepth := 20}) (disch := first | omega | (simp only [lenE]; done) | (simp only [lenE]; omega) | rfl | (simp only [lenE, markR_len]; done) | (simp only [lenE, markR_len]; omega)) only [runE, mapE, listE, initT_5, initT_6, initT_7, initT_8, resV, oneV, binA, unA, reduceCtorEq, Nat.reduceEqDiff, Nat.reduceAdd, Nat.reduceLT, Nat.reduceLeDiff, Nat.reduceMul, Nat.reduceSub, ↓reduceIte, decide_true, decide_false, Bool.true_eq_false, Bool.false_eq_true, Bool.not_true, Bool.not_false, if_true, if_false, and_true, true_and, memE, celE, w64, Nat.zero_add, Nat.add_zero, Nat.mul_one, putL, and_self, ldn]
  refine callH_ac (charge9_ac M1 cb id a1 l k1 (by omega)) ?_
  rintro r M2 ⟨x2, a2, rfl, ha2, w2, k2⟩
  simp (config := {implicitDefEqProofs := false, maxDischargeDepth := 20}) (disch := first | omega | (simp only [lenE]; done) | (simp only [lenE]; omega) | rfl | (simp only [lenE, markR_len]; done) | (simp only [lenE, markR_len]; omega)) only [runE, mapE, listE, initT_5, initT_6, initT_7, initT_8, resV, oneV, binA, unA, reduceCtorEq, Nat.reduceEqDiff, Nat.reduceAdd, Nat.reduceLT, Nat.reduceLeDiff, Nat.reduceMul, Nat.reduceSub, ↓reduceIte, decide_true, decide_false, Bool.true_eq_false, Bool.false_eq_true, Bool.not_true, Bool.not_false, if_true, if_false, and_true, true_and, memE, celE, w64, Nat.zero_add, Nat.add_zero, Nat.mul_one, putL, and_self, ldn]
  refine callH_ac (charge9_ac M2 cb id a2 l k2 (by omega)) ?_
  rintro r M3 ⟨x3, a3, rfl, ha3, w3, k3⟩
  have w03 : Cw id E M3 := Cw.trans (by omega) w1 (Cw.trans (by have := w1.len; omega) w2 w3)
  have st0 : stA (M3 ++ [⟨.own, 26, [.int .i64 0, .slice none 0 0, .slice none 0 0, .int .i64 0, .int .i64 0]⟩]) M3.length 0 [.int .i64 x1, .slice none 0 0, .slice none 0 0, .int .i64 x2, .int .i64 x3] = some (M3 ++ [⟨.own, 26, [.int .i64 x1, .slice none 0 0, .slice none 0 0, .int .i64 x2, .int .i64 x3]⟩]) := by
    rw [(OwnB.here rfl).st (by simp) rfl]
    simp
    rfl
  simp (config := {implicitDefEqProofs := false, maxDischargeDepth := 20}) (disch := first | omega | (simp only [lenE]; done) | (simp only [lenE]; omega) | rfl | (simp only [lenE, markR_len]; done) | (simp only [lenE, markR_len]; omega)) only [runE, mapE, listE, initT_5, initT_6, initT_7, initT_8, resV, oneV, binA, unA, reduceCtorEq, Nat.reduceEqDiff, Nat.reduceAdd, Nat.reduceLT, Nat.reduceLeDiff, Nat.reduceMul, Nat.reduceSub, ↓reduceIte, decide_true, decide_false, Bool.true_eq_false, Bool.false_eq_true, Bool.not_true, Bool.not_false, if_true, if_false, and_true, true_and, memE, celE, w64, Nat.zero_add, Nat.add_zero, Nat.mul_one, putL, and_self, ldn, bld_s1, stP5s, st0, b7s1]
  obtain ⟨bx, hbx⟩ : ∃ bx, bx = M3.length := ⟨_, rfl⟩
  have S0 : SB E (M3 ++ [⟨.own, 26, [.int .i64 x1, .slice none 0 0, .slice none 0 0, .int .i64 x2, .int .i64 x3]⟩]) cb id a3 bx l ⟨x1, [], [], x2, x3⟩ (.slice none 0 0) (.slice none 0 0) 0 0 :=
    ⟨by omega, by omega, w03.ext (noRo_own noRo_nil), k3.ext _, OwnB.here hbx, by have := w03.len; omega, .inl ⟨rfl, rfl⟩, .inl ⟨rfl, rfl⟩, fun e => absurd rfl e, fun e => absurd rfl e, fun e => absurd rfl e⟩
  have l30 : (M3 ++ [(⟨.own, 26, [.int .i64 x1, .slice none 0 0, .slice none 0 0, .int .i64 x2, .int .i64 x3]⟩ : Blk)]).length = bx + 1 := by rw [hbx]; simp
  rw [← hbx]
  obtain ⟨N0, hN0⟩ : ∃ N, N = M3 ++ [(⟨.own, 26, [.int .i64 x1, .slice none 0 0, .slice none 0 0, .int .i64 x2, .int .i64 x3]⟩ : Blk)] := ⟨_, rfl⟩
  rw [← hN0] at S0 l30 ⊢
  clear hN0 hbx st0
  refine callH_ac (among_new N0 cb id a3 l [4, 5, 3, 6, 2, 1, 0] S0.cur (by omega) (by omega) rfl (by simp) (by simp)) ?_
  rintro r N1 ⟨n0, hn0, rfl, w4, a4, ha4, k4⟩
  have S1 := S0.draw w4 k4
  clear S0
  obtain ⟨n, rfl, hn6⟩ : ∃ n : Nat, n0 = n ∧ n ≤ 6 := ⟨n0.toNat, by simp at hn0; omega, by simp at hn0; omega⟩
  clear hn0
  simp (config := {implicitDefEqProofs := false, maxDischargeDepth := 20}) (disch := first | omega | (simp only [lenE]; done) | (simp only [lenE]; omega) | rfl | (simp only [lenE, markR_len]; done) | (simp only [lenE, markR_len]; omega)) only [runE, mapE, listE, initT_5, initT_6, initT_7, initT_8, resV, oneV, binA, unA, reduceCtorEq, Nat.reduceEqDiff, Nat.reduceAdd, Nat.reduceLT, Nat.reduceLeDiff, Nat.reduceMul, Nat.reduceSub, ↓reduceIte, decide_true, decide_false, Bool.true_eq_false, Bool.false_eq_true, Bool.not_true, Bool.not_false, if_true, if_false, and_true, true_and, memE, celE, w64, Nat.zero_add, Nat.add_zero, Nat.mul_one, putL, and_self, ldn]
  refine loop_inv mixed (fun s => ∃ (j : Nat) (N : Mem) (a' : Nat) (sh : Sh) (u v : Value) (r1 r2 : Nat), j ≤ 6 ∧ s.m = N ∧ SB E N cb id a' bx l sh u v r1 r2 ∧ sh.arr.length + j ≤ 6 ∧ sh.need.length + j ≤ 6 ∧ a' + 10 * j ≤ a + 200 ∧ s.t 0 = .pointer (some ⟨id, 0, none⟩) ∧ s.t 2 = .pointer (some ⟨M.length, 0, none⟩) ∧ s.t 3 = .pointer (some ⟨bx, 0, none⟩) ∧ s.t 4 = .int .i64 (j : Int)) (fun s => (intOf (s.t 4)).toNat)
    ⟨n, N1, a4, _, _, _, _, _, hn6, rfl, S1, by simpa using hn6, by simpa using hn6, by omega, rfl, rfl, rfl, rfl⟩ ?_
  clear S1 k4 w4 ha4 hn6 k1 k2 k3 w1 w2 w3 w03 kE
  rintro s ⟨j, N, a', sh, u, v, r1, r2, hj, tm, S, la, ln, hab, t0, t2, t3, t4⟩
  by_cases hlt : 0 < j
  · have hlt' : (0 : Int) < j := by omega
    have p1 : rdc N bx 1 = some u := S.rd 1
    have pe1 : rdc (N ++ [rowB [2, 3, 0, 5, 1, 8]]) bx 1 = some u := rdc_ext p1
    simp (config := {implicitDefEqProofs := false, maxDischargeDepth := 20}) (disch := first | omega | (simp only [lenE]; done) | (simp only [lenE]; omega) | rfl | (simp only [lenE, markR_len]; done) | (simp only [lenE, markR_len]; omega)) only [runE, mapE, listE, initT_5, initT_6, initT_7, initT_8, resV, oneV, binA, unA, reduceCtorEq, Nat.reduceEqDiff, Nat.reduceAdd, Nat.reduceLT, Nat.reduceLeDiff, Nat.reduceMul, Nat.reduceSub, ↓reduceIte, decide_true, decide_false, Bool.true_eq_false, Bool.false_eq_true, Bool.not_true, Bool.not_false, if_true, if_false, and_true, true_and, memE, celE, w64, Nat.zero_add, Nat.add_zero, Nat.mul_one, putL, and_self, ldn, tm, t0, t2, t3, t4, gt_iff_lt, hlt', p1, pe1, b6s2]
    with_reducible refine ⟨?_, ?_, ?_⟩
    all_goals
      refine callH_ac (among_new N cb id a' l [2, 3, 0, 5, 1, 8] S.cur (by omega) rfl rfl (by simp) (by simp)) ?_
      rintro r P1 ⟨y1, -, rfl, c1, b1, hb1, f1⟩
      have S2 := S.draw c1 f1
      have p1' : rdc P1 bx 1 = some u := S2.rd 1
      obtain ⟨Q1, Q2, ap, sto, S3⟩ := S2.app1 (by omega) y1
      have p2 : rdc Q2 bx 2 = some v := S3.rd 2
      have pe2 : rdc (Q2 ++ [rowB [2, 3, 0, 5, 1, 6]]) bx 2 = some v := rdc_ext p2
      simp (config := {implicitDefEqProofs := false, maxDischargeDepth := 20}) (disch := first | omega | (simp only [lenE]; done) | (simp only [lenE]; omega) | rfl | (simp only [lenE, markR_len]; done) | (simp only [lenE, markR_len]; omega)) only [runE, mapE, listE, initT_5, initT_6, initT_7, initT_8, resV, oneV, binA, unA, reduceCtorEq, Nat.reduceEqDiff, Nat.reduceAdd, Nat.reduceLT, Nat.reduceLeDiff, Nat.reduceMul, Nat.reduceSub, ↓reduceIte, decide_true, decide_false, Bool.true_eq_false, Bool.false_eq_true, Bool.not_true, Bool.not_false, if_true, if_false, and_true, true_and, memE, celE, w64, Nat.zero_add, Nat.add_zero, Nat.mul_one, putL, and_self, ldn, t0, t2, t3, t4, p1', b1s, ap, sto, p2, pe2, b6s3]
      with_reducible refine ⟨?_, ?_, ?_⟩
    all_goals
      refine callH_ac (among_new Q2 cb id b1 l [2, 3, 0, 5, 1, 6] S3.cur (by omega) rfl rfl (by simp) (by simp)) ?_
      rintro r P2 ⟨y2, -, rfl, c2, b2, hb2, f2⟩
      have S4 := S3.draw c2 f2
      have p2' : rdc P2 bx 2 = some v := S4.rd 2
      obtain ⟨Q3, Q4, ap2, sto2, S5⟩ := S4.app2 (show sh.need.length ≤ 1000 by omega) y2
      simp (config := {implicitDefEqProofs := false, maxDischargeDepth := 20}) (disch := first | omega | (simp only [lenE]; done) | (simp only [lenE]; omega) | rfl | (simp only [lenE, markR_len]; done) | (simp only [lenE, markR_len]; omega)) only [runE, mapE, listE, initT_5, initT_6, initT_7, initT_8, resV, oneV, binA, unA, reduceCtorEq, Nat.reduceEqDiff, Nat.reduceAdd, Nat.reduceLT, Nat.reduceLeDiff, Nat.reduceMul, Nat.reduceSub, ↓reduceIte, decide_true, decide_false, Bool.true_eq_false, Bool.false_eq_true, Bool.not_true, Bool.not_false, if_true, if_false, and_true, true_and, memE, celE, w64, Nat.zero_add, Nat.add_zero, Nat.mul_one, putL, and_self, ldn, t0, t2, t3, t4, p2', b1s, ap2, sto2]
      exact ⟨⟨j - 1, Q4, b2, _, _, _, _, _, by omega, rfl, S5, by simp; omega, by simp; omega, by omega, by congr 1; omega⟩, by simp only [intOf]; omega⟩
  · have hlt' : ¬ ((0 : Int) < j) := by omega
    simp (config := {implicitDefEqProofs := false, maxDischargeDepth := 20}) (disch := first | omega | (simp only [lenE]; done) | (simp only [lenE]; omega) | rfl | (simp only [lenE, markR_len]; done) | (simp only [lenE, markR_len]; omega)) only [runE, mapE, listE, initT_5, initT_6, initT_7, initT_8, resV, oneV, binA, unA, reduceCtorEq, Nat.reduceEqDiff, Nat.reduceAdd, Nat.reduceLT, Nat.reduceLeDiff, Nat.reduceMul, Nat.reduceSub, ↓reduceIte, decide_true, decide_false, Bool.true_eq_false, Bool.false_eq_true, Bool.not_true, Bool.not_false, if_true, if_false, and_true, true_and, memE, celE, w64, Nat.zero_add, Nat.add_zero, Nat.mul_one, putL, and_self, ldn, tm, t0, t2, t3, t4, gt_iff_lt, hlt']
    refine callH_ac (pick_ac N cb id a' l 40 S.cur (by omega) (by omega) (by omega)) ?_
    rintro r P ⟨x, rfl, hx0, hx1, c1, b1, hb1, f1⟩
    have S := S.draw c1 f1
    have T0 : ∀ {k : Nat} {v : Value}, s.t k = v → s.t k = v := fun h => h
    by_cases x0 : x = 0
    · subst x0
      simp (config := {implicitDefEqProofs := false, maxDischargeDepth := 20}) (disch := first | omega | (simp only [lenE]; done) | (simp only [lenE]; omega) | rfl | (simp only [lenE, markR_len]; done) | (simp only [lenE, markR_len]; omega)) only [runE, mapE, listE, initT_5, initT_6, initT_7, initT_8, resV, oneV, binA, unA, reduceCtorEq, Nat.reduceEqDiff, Nat.reduceAdd, Nat.reduceLT, Nat.reduceLeDiff, Nat.reduceMul, Nat.reduceSub, ↓reduceIte, decide_true, decide_false, Bool.true_eq_false, Bool.false_eq_true, Bool.not_true, Bool.not_false, if_true, if_false, and_true, true_and, memE, celE, w64, Nat.zero_add, Nat.add_zero, Nat.mul_one, putL, and_self, ldn, t0, t2, t3, b3s1, beq_self_eq_true]
      refine callH_ac (among_new P cb id b1 l [0, 9, -1] S.cur (by omega) rfl rfl (by simp) (by simp)) ?_
      rintro r P1 ⟨y, -, rfl, c2, b2, hb2, f2⟩
      have S := S.draw c2 f2
      obtain ⟨Q, sto, S⟩ := S.life y
      rw [hE] at S
      obtain ⟨Q9, sf, rf, lv, cwf, kf⟩ := S.fin hid hcb (by first | omega | (simp; omega)) (by first | omega | (simp; omega))
      have z0 := S.rd 0
      have z1 := S.rd 1
      have z2 := S.rd 2
      have z3 := S.rd 3
      have z4 := S.rd 4
      have y0 := rf 0
      have y1 := rf 1
      have y2 := rf 2
      have y3 := rf 3
      have y4 := rf 4
      simp only [shC, List.getElem?_cons_zero, List.getElem?_cons_succ] at z0 z1 z2 z3 z4 y0 y1 y2 y3 y4
      simp (config := {implicitDefEqProofs := false, maxDischargeDepth := 20}) (disch := first | omega | (simp only [lenE]; done) | (simp only [lenE]; omega) | rfl | (simp only [lenE, markR_len]; done) | (simp only [lenE, markR_len]; omega)) only [runE, mapE, listE, initT_5, initT_6, initT_7, initT_8, resV, oneV, binA, unA, reduceCtorEq, Nat.reduceEqDiff, Nat.reduceAdd, Nat.reduceLT, Nat.reduceLeDiff, Nat.reduceMul, Nat.reduceSub, ↓reduceIte, decide_true, decide_false, Bool.true_eq_false, Bool.false_eq_true, Bool.not_true, Bool.not_false, if_true, if_false, and_true, true_and, memE, celE, w64, Nat.zero_add, Nat.add_zero, Nat.mul_one, putL, and_self, ldn, t0, t2, t3, beq_self_eq_true, sto, z0, z1, z2, z3, z4, stP5s, sf, y0, y1, y2, y3, y4]
      exact ⟨_, ⟨⟨by first | omega | (simp; omega), by first | omega | (simp; omega)⟩, lv⟩, cwf, _, by omega, kf⟩
    · have x0' : (x == 0) = false := by simp [x0]
      by_cases x1 : x = 1
      · subst x1
        have p2 : rdc P bx 2 = some v := S.rd 2
        obtain ⟨Q1, Q, ap, sto, S⟩ := S.app2 (by omega) 1
        rw [hE] at S
        obtain ⟨Q9, sf, rf, lv, cwf, kf⟩ := S.fin hid hcb (by first | omega | (simp; omega)) (by first | omega | (simp; omega))
        have z0 := S.rd 0
        have z1 := S.rd 1
        have z2 := S.rd 2
        have z3 := S.rd 3
        have z4 := S.rd 4
        have y0 := rf 0
        have y1 := rf 1
        have y2 := rf 2
        have y3 := rf 3
        have y4 := rf 4
        simp only [shC, List.getElem?_cons_zero, List.getElem?_cons_succ] at z0 z1 z2 z3 z4 y0 y1 y2 y3 y4
        simp (config := {implicitDefEqProofs := false, maxDischargeDepth := 20}) (disch := first | omega | (simp only [lenE]; done) | (simp only [lenE]; omega) | rfl | (simp only [lenE, markR_len]; done) | (simp only [lenE, markR_len]; omega)) only [runE, mapE, listE, initT_5, initT_6, initT_7, initT_8, resV, oneV, binA, unA, reduceCtorEq, Nat.reduceEqDiff, Nat.reduceAdd, Nat.reduceLT, Nat.reduceLeDiff, Nat.reduceMul, Nat.reduceSub, ↓reduceIte, decide_true, decide_false, Bool.true_eq_false, Bool.false_eq_true, Bool.not_true, Bool.not_false, if_true, if_false, and_true, true_and, memE, celE, w64, Nat.zero_add, Nat.add_zero, Nat.mul_one, putL, and_self, ldn, t0, t2, t3, beq_self_eq_true, sto, x0', p2, b1s, ap, z0, z1, z2, z3, z4, stP5s, sf, y0, y1, y2, y3, y4]
        exact ⟨_, ⟨⟨by first | omega | (simp; omega), by first | omega | (simp; omega)⟩, lv⟩, cwf, _, by omega, kf⟩
      · have x1' : (x == 1) = false := by simp [x1]
        by_cases x2 : x = 2
        · subst x2
          have p2 : rdc P bx 2 = some v := S.rd 2
          have ln2 := S.g2.len9
          by_cases hn0 : 0 < sh.need.length
          · have hn0' : (0 : Int) < (sh.need.length : Int) := by omega
            have pe2 : rdc (P ++ [rowB [-1, 20, 21]]) bx 2 = some v := rdc_ext p2
            simp (config := {implicitDefEqProofs := false, maxDischargeDepth := 20}) (disch := first | omega | (simp only [lenE]; done) | (simp only [lenE]; omega) | rfl | (simp only [lenE, markR_len]; done) | (simp only [lenE, markR_len]; omega)) only [runE, mapE, listE, initT_5, initT_6, initT_7, initT_8, resV, oneV, binA, unA, reduceCtorEq, Nat.reduceEqDiff, Nat.reduceAdd, Nat.reduceLT, Nat.reduceLeDiff, Nat.reduceMul, Nat.reduceSub, ↓reduceIte, decide_true, decide_false, Bool.true_eq_false, Bool.false_eq_true, Bool.not_true, Bool.not_false, if_true, if_false, and_true, true_and, memE, celE, w64, Nat.zero_add, Nat.add_zero, Nat.mul_one, putL, and_self, ldn, t0, t2, t3, beq_self_eq_true, x0', x1', p2, pe2, ln2, gt_iff_lt, hn0', b3s2]
            with_reducible refine ⟨?_, ?_, ?_⟩
            all_goals
              refine callH_ac (among_new P cb id b1 l [-1, 20, 21] S.cur (by omega) rfl rfl (by simp) (by simp)) ?_
              rintro r P1 ⟨y, -, rfl, c2, b2, hb2, f2⟩
              have S := S.draw c2 f2
              have p2' : rdc P1 bx 2 = some v := S.rd 2
              obtain ⟨Q, ia, sto, S⟩ := S.put (by omega) hn0 y
              rw [hE] at S
              obtain ⟨Q9, sf, rf, lv, cwf, kf⟩ := S.fin hid hcb (by first | omega | (simp; omega)) (by first | omega | (simp; omega))
              have z0 := S.rd 0
              have z1 := S.rd 1
              have z2 := S.rd 2
              have z3 := S.rd 3
              have z4 := S.rd 4
              have y0 := rf 0
              have y1 := rf 1
              have y2 := rf 2
              have y3 := rf 3
              have y4 := rf 4
              simp only [shC, List.getElem?_cons_zero, List.getElem?_cons_succ] at z0 z1 z2 z3 z4 y0 y1 y2 y3 y4
              simp (config := {implicitDefEqProofs := false, maxDischargeDepth := 20}) (disch := first | omega | (simp only [lenE]; done) | (simp only [lenE]; omega) | rfl | (simp only [lenE, markR_len]; done) | (simp only [lenE, markR_len]; omega)) only [runE, mapE, listE, initT_5, initT_6, initT_7, initT_8, resV, oneV, binA, unA, reduceCtorEq, Nat.reduceEqDiff, Nat.reduceAdd, Nat.reduceLT, Nat.reduceLeDiff, Nat.reduceMul, Nat.reduceSub, ↓reduceIte, decide_true, decide_false, Bool.true_eq_false, Bool.false_eq_true, Bool.not_true, Bool.not_false, if_true, if_false, and_true, true_and, memE, celE, w64, Nat.zero_add, Nat.add_zero, Nat.mul_one, putL, and_self, ldn, t0, t2, t3, beq_self_eq_true, sto, ia, p2', z0, z1, z2, z3, z4, stP5s, sf, y0, y1, y2, y3, y4]
              exact ⟨_, ⟨⟨by first | omega | (simp; omega), by first | omega | (simp; omega)⟩, lv⟩, cwf, _, by omega, kf⟩
          · have hn0' : ¬ ((0 : Int) < (sh.need.length : Int)) := by omega
            obtain ⟨Q, hQ⟩ : ∃ Q, Q = P := ⟨_, rfl⟩
            rw [← hQ] at S p2 ⊢
            rw [hE] at S
            obtain ⟨Q9, sf, rf, lv, cwf, kf⟩ := S.fin hid hcb (by first | omega | (simp; omega)) (by first | omega | (simp; omega))
            have z0 := S.rd 0
            have z1 := S.rd 1
            have z2 := S.rd 2
            have z3 := S.rd 3
            have z4 := S.rd 4
            have y0 := rf 0
            have y1 := rf 1
            have y2 := rf 2
            have y3 := rf 3
            have y4 := rf 4
            simp only [shC, List.getElem?_cons_zero, List.getElem?_cons_succ] at z0 z1 z2 z3 z4 y0 y1 y2 y3 y4
            simp (config := {implicitDefEqProofs := false, maxDischargeDepth := 20}) (disch := first | omega | (simp only [lenE]; done) | (simp only [lenE]; omega) | rfl | (simp only [lenE, markR_len]; done) | (simp only [lenE, markR_len]; omega)) only [runE, mapE, listE, initT_5, initT_6, initT_7, initT_8, resV, oneV, binA, unA, reduceCtorEq, Nat.reduceEqDiff, Nat.reduceAdd, Nat.reduceLT, Nat.reduceLeDiff, Nat.reduceMul, Nat.reduceSub, ↓reduceIte, decide_true, decide_false, Bool.true_eq_false, Bool.false_eq_true, Bool.not_true, Bool.not_false, if_true, if_false, and_true, true_and, memE, celE, w64, Nat.zero_add, Nat.add_zero, Nat.mul_one, putL, and_self, ldn, t0, t2, t3, beq_self_eq_true, x0', x1', p2, ln2, gt_iff_lt, hn0', z0, z1, z2, z3, z4, stP5s, sf, y0, y1, y2, y3, y4]
            exact ⟨_, ⟨⟨by first | omega | (simp; omega), by first | omega | (simp; omega)⟩, lv⟩, cwf, _, by omega, kf⟩
        · have x2' : (x == 2) = false := by simp [x2]
          by_cases x3 : x = 3
          · subst x3
            simp (config := {implicitDefEqProofs := false, maxDischargeDepth := 20}) (disch := first | omega | (simp only [lenE]; done) | (simp only [lenE]; omega) | rfl | (simp only [lenE, markR_len]; done) | (simp only [lenE, markR_len]; omega)) only [runE, mapE, listE, initT_5, initT_6, initT_7, initT_8, resV, oneV, binA, unA, reduceCtorEq, Nat.reduceEqDiff, Nat.reduceAdd, Nat.reduceLT, Nat.reduceLeDiff, Nat.reduceMul, Nat.reduceSub, ↓reduceIte, decide_true, decide_false, Bool.true_eq_false, Bool.false_eq_true, Bool.not_true, Bool.not_false, if_true, if_false, and_true, true_and, memE, celE, w64, Nat.zero_add, Nat.add_zero, Nat.mul_one, putL, and_self, ldn, t0, t2, t3, beq_self_eq_true, x0', x1', x2']
            clear T0
            refine loop_inv mixed (fun s => ∃ (N : Mem) (sh : Sh) (u v : Value) (r1 r2 : Nat), s.m = N ∧ SB E N cb id b1 bx l sh u v r1 r2 ∧ sh.arr.length ≤ sh.need.length + 6 ∧ sh.need.length ≤ 9 ∧ s.t 0 = .pointer (some ⟨id, 0, none⟩) ∧ s.t 2 = .pointer (some ⟨M.length, 0, none⟩) ∧ s.t 3 = .pointer (some ⟨bx, 0, none⟩)) (fun s => 9 - ((rdc s.m bx 2).elim 0 lenOfA))
              ⟨P, sh, u, v, r1, r2, rfl, S, by omega, by omega, t0, t2, t3⟩ ?_
            clear S la ln t0 t2 t3 t4 tm
            rintro s ⟨N, sh, u, v, r1, r2, tm, S, la, ln, t0, t2, t3⟩
            have p2 : rdc N bx 2 = some v := S.rd 2
            have ln2 := S.g2.len9
            have lo2 := S.g2.lenOf9
            by_cases hlt : sh.need.length < 9
            · have hlt' : (sh.need.length : Int) < 9 := by omega
              obtain ⟨Q1, Q2, ap, sto, S3⟩ := S.app2 (by omega) 1
              have p1 : rdc Q2 bx 1 = some u := S3.rd 1
              obtain ⟨Q3, Q4, ap2, sto2, S5⟩ := S3.app1 (show sh.arr.length ≤ 1000 by omega) 1
              have m5 : rdc Q4 bx 2 = some (.slice (some ⟨N.length + 1, 0, none⟩) (sh.need.length + 1) 1) := S5.rd 2
              simp (config := {implicitDefEqProofs := false, maxDischargeDepth := 20}) (disch := first | omega | (simp only [lenE]; done) | (simp only [lenE]; omega) | rfl | (simp only [lenE, markR_len]; done) | (simp only [lenE, markR_len]; omega)) only [runE, mapE, listE, initT_5, initT_6, initT_7, initT_8, resV, oneV, binA, unA, reduceCtorEq, Nat.reduceEqDiff, Nat.reduceAdd, Nat.reduceLT, Nat.reduceLeDiff, Nat.reduceMul, Nat.reduceSub, ↓reduceIte, decide_true, decide_false, Bool.true_eq_false, Bool.false_eq_true, Bool.not_true, Bool.not_false, if_true, if_false, and_true, true_and, memE, celE, w64, Nat.zero_add, Nat.add_zero, Nat.mul_one, putL, and_self, ldn, tm, t0, t2, t3, p2, ln2, hlt', b1s, ap, sto, p1, ap2, sto2]
              refine ⟨⟨Q4, _, _, _, _, _, rfl, S5, by simp; omega, by simp; omega⟩, ?_⟩
              rw [m5]
              show 9 - (sh.need.length + 1) < 9 - lenOfA v
              rw [lo2]
              omega
            · have hlt' : ¬ ((sh.need.length : Int) < 9) := by omega
              rw [hE] at S
              obtain ⟨Q9, sf, rf, lv, cwf, kf⟩ := S.fin hid hcb (by first | omega | (simp; omega)) (by first | omega | (simp; omega))
              have z0 := S.rd 0
              have z1 := S.rd 1
              have z2 := S.rd 2
              have z3 := S.rd 3
              have z4 := S.rd 4
              have y0 := rf 0
              have y1 := rf 1
              have y2 := rf 2
              have y3 := rf 3
              have y4 := rf 4
              simp only [shC, List.getElem?_cons_zero, List.getElem?_cons_succ] at z0 z1 z2 z3 z4 y0 y1 y2 y3 y4
              simp (config := {implicitDefEqProofs := false, maxDischargeDepth := 20}) (disch := first | omega | (simp only [lenE]; done) | (simp only [lenE]; omega) | rfl | (simp only [lenE, markR_len]; done) | (simp only [lenE, markR_len]; omega)) only [runE, mapE, listE, initT_5, initT_6, initT_7, initT_8, resV, oneV, binA, unA, reduceCtorEq, Nat.reduceEqDiff, Nat.reduceAdd, Nat.reduceLT, Nat.reduceLeDiff, Nat.reduceMul, Nat.reduceSub, ↓reduceIte, decide_true, decide_false, Bool.true_eq_false, Bool.false_eq_true, Bool.not_true, Bool.not_false, if_true, if_false, and_true, true_and, memE, celE, w64, Nat.zero_add, Nat.add_zero, Nat.mul_one, putL, and_self, ldn, t0, t2, t3, beq_self_eq_true, tm, p2, ln2, hlt', z0, z1, z2, z3, z4, stP5s, sf, y0, y1, y2, y3, y4]
              exact ⟨_, ⟨⟨by first | omega | (simp; omega), by first | omega | (simp; omega)⟩, lv⟩, cwf, _, by omega, kf⟩
          · have x3' : (x == 3) = false := by simp [x3]
            obtain ⟨Q, hQ⟩ : ∃ Q, Q = P := ⟨_, rfl⟩
            rw [← hQ] at S ⊢
            rw [hE] at S
            obtain ⟨Q9, sf, rf, lv, cwf, kf⟩ := S.fin hid hcb (by first | omega | (simp; omega)) (by first | omega | (simp; omega))
            have z0 := S.rd 0
            have z1 := S.rd 1
            have z2 := S.rd 2
            have z3 := S.rd 3
            have z4 := S.rd 4
            have y0 := rf 0
            have y1 := rf 1
            have y2 := rf 2
            have y3 := rf 3
            have y4 := rf 4
            simp only [shC, List.getElem?_cons_zero, List.getElem?_cons_succ] at z0 z1 z2 z3 z4 y0 y1 y2 y3 y4
            simp (config := {implicitDefEqProofs := false, maxDischargeDepth := 20}) (disch := first | omega | (simp only [lenE]; done) | (simp only [lenE]; omega) | rfl | (simp only [lenE, markR_len]; done) | (simp only [lenE, markR_len]; omega)) only [runE, mapE, listE, initT_5, initT_6, initT_7, initT_8, resV, oneV, binA, unA, reduceCtorEq, Nat.reduceEqDiff, Nat.reduceAdd, Nat.reduceLT, Nat.reduceLeDiff, Nat.reduceMul, Nat.reduceSub, ↓reduceIte, decide_true, decide_false, Bool.true_eq_false, Bool.false_eq_true, Bool.not_true, Bool.not_false, if_true, if_false, and_true, true_and, memE, celE, w64, Nat.zero_add, Nat.add_zero, Nat.mul_one, putL, and_self, ldn, t0, t2, t3, beq_self_eq_true, x0', x1', x2', x3', z0, z1, z2, z3, z4, stP5s, sf, y0, y1, y2, y3, y4]
            exact ⟨_, ⟨⟨by first | omega | (simp; omega), by first | omega | (simp; omega)⟩, lv⟩, cwf, _, by omega, kf⟩
end Go.Proofs.Ytdgfbmilbhckiaa.Ab
end
section
namespace Go.Proofs.Ytdgfbmilbhckiaa.Ab
open Go Go.RowKit
set_option linter.unusedVariables false
set_option linter.unusedSimpArgs false
theorem rowsC_set9 {T : List (List Int)} {R F : Nat → Nat} {s : Nat} {r : List Int} (hs : s < T.length) (hl : r.length = (T.getD s []).length) : rowsC (T.set s r) R F = rowsC T R F := by
  apply List.ext_getElem?
  intro i
  by_cases hi : i < T.length
  · rw [rowsC_at hi, rowsC_at (by rw [List.length_set]; exact hi)]
    by_cases e : i = s
    · subst e
      rw [List.getD_eq_getElem?_getD, List.getElem?_set_self hi, Option.getD_some, hl]
    · rw [List.getD_eq_getElem?_getD, List.getElem?_set_ne (Ne.symm e), ← List.getD_eq_getElem?_getD]
  · rw [List.getElem?_eq_none (by rw [rowsC_len, List.length_set]; omega), List.getElem?_eq_none (by rw [rowsC_len]; omega)]
theorem tabX_put {T : List (List Int)} {lo hi : Nat} {M : Mem} {id : Nat} {R F : Nat → Nat} (h : TabX T lo hi M id R F) {s : Nat} {r : List Int} (hs : s < T.length) (hl : r.length = (T.getD s []).length) : TabX (T.set s r) lo hi (M.set (R s) (Ab.rowB r)) id R F := by
  have hne : R s ≠ id := fun e2 => by
    have c' : M[R s]? = some (Ab.rowB (T.getD s [])) := (h.2.2.2.1 s hs).2.2
    have d : M[id]? = some ⟨.own, 24, rowsC T R F⟩ := h.2.2.1
    rw [e2, d] at c'
    cases c'
  refine ⟨h.1, h.2.1, by rw [rowsC_set9 hs hl]; exact h.2.2.1.set_ne hne _, fun j hj => ?_, fun i j hi hj => h.2.2.2.2 i j (by simpa using hi) (by simpa using hj)⟩
  rw [List.length_set] at hj
  obtain ⟨a, b, c⟩ := h.2.2.2.1 j hj
  refine ⟨a, b, ?_⟩
  by_cases e : j = s
  · subst e
    rw [List.getD_eq_getElem?_getD, List.getElem?_set_self hj, Option.getD_some]
    exact c.set_self
  · rw [List.getD_eq_getElem?_getD, List.getElem?_set_ne (Ne.symm e), ← List.getD_eq_getElem?_getD]
    exact c.set_ne fun e2 => e (h.2.2.2.2 j s hj hs e2.symm)
theorem rowsC_snoc9 {T : List (List Int)} {r : List Int} {R F : Nat → Nat} {rid f : Nat} :
    rowsC (T ++ [r]) (fun j => if j < T.length then R j else rid) (fun j => if j < T.length then F j else f) = rowsC T R F ++ [.slice (some ⟨rid, 0, none⟩) r.length f] := by
  unfold rowsC
  rw [List.length_append, List.length_singleton, List.range_succ, List.map_append]
  congr 1
  · apply List.map_congr_left
    intro j hj
    have hj' := List.mem_range.1 hj
    simp [hj', List.getD_eq_getElem?_getD, List.getElem?_append_left hj']
  · simp [List.getD_eq_getElem?_getD]
theorem tabX_snoc {T : List (List Int)} {r : List Int} {lo hi hi' : Nat} {M M' : Mem} {id id' rid f : Nat} {R F : Nat → Nat} (h : TabX T lo hi M id R F) (hs : ∀ i, lo ≤ i → i < hi → i ≠ id → M'[i]? = M[i]?)
    (h1 : lo ≤ id') (h2 : id' < hi') (h3 : OwnB M' id' 24 (rowsC T R F ++ [.slice (some ⟨rid, 0, none⟩) r.length f])) (h4 : hi ≤ rid) (h5 : rid < hi') (h6 : OwnR M' rid r) (h7 : hi ≤ hi') :
    TabX (T ++ [r]) lo hi' M' id' (fun j => if j < T.length then R j else rid) (fun j => if j < T.length then F j else f) := by
  refine ⟨h1, h2, by rw [rowsC_snoc9]; exact h3, fun j hj => ?_, fun i j hi hj he => ?_⟩
  · by_cases e : j < T.length
    · obtain ⟨a, b, c⟩ := h.2.2.2.1 j e
      have hne : R j ≠ id := fun e2 => by
        have c' : M[R j]? = some (Ab.rowB (T.getD j [])) := c
        have d : M[id]? = some ⟨.own, 24, rowsC T R F⟩ := h.2.2.1
        rw [e2, d] at c'
        cases c'
      simp only [e, if_true]
      refine ⟨a, by omega, ?_⟩
      have e3 : (T ++ [r]).getD j [] = T.getD j [] := by simp [List.getD_eq_getElem?_getD, List.getElem?_append_left e]
      rw [e3]
      exact c.at_ (hs _ a b hne)
    · have e4 : j = T.length := by simp at hj; omega
      simp only [e, if_false]
      refine ⟨by have := h.1; have := h.2.1; omega, h5, ?_⟩
      have e3 : (T ++ [r]).getD j [] = r := by subst e4; simp [List.getD_eq_getElem?_getD]
      rw [e3]; exact h6
  · simp at hi hj he
    by_cases e1 : i < T.length <;> by_cases e2 : j < T.length
    · rw [if_pos e1, if_pos e2] at he
      exact h.2.2.2.2 i j e1 e2 he
    · rw [if_pos e1, if_neg e2] at he
      have := (h.2.2.2.1 i e1).2.1
      omega
    · rw [if_neg e1, if_pos e2] at he
      have := (h.2.2.2.1 j e2).2.1
      omega
    · omega
theorem tabX_nil {lo : Nat} {M : Mem} {id : Nat} (h : OwnB M id 24 []) (h1 : lo ≤ id) : TabX [] lo (id + 1) M id (fun _ => 0) (fun _ => 0) :=
  ⟨h1, by omega, h, fun j hj => absurd hj (by simp), fun i j hi => absurd hi (by simp)⟩
theorem tsz_bd9 {T : List (List Int)} {n : Nat} (h : ∀ j, j < T.length → (T.getD j []).length ≤ n) : tsz T T.length ≤ T.length * n := by
  have : ∀ k, k ≤ T.length → tsz T k ≤ k * n := by
    intro k
    induction k with
    | zero => intro _; simp [tsz]
    | succ k ih =>
      intro hk
      have h1 := ih (by omega)
      have h2 := h k (by omega)
      simp only [tsz]
      rw [Int.natCast_add, Int.add_mul]
      omega
  exact this _ (Nat.le_refl _)
end Go.Proofs.Ytdgfbmilbhckiaa.Ab
end
section
namespace Go.Proofs.Ytdgfbmilbhckiaa.Ab
open Go Go.RowKit
set_option linter.unusedVariables false
set_option linter.unusedSimpArgs false
theorem least9_rc (m : Mem) (a b : Int) : RC Try.prog 73 [.int .i64 a, .int .i64 b] m fun r new => r = .int .i64 (min a b) ∧ new = [] := by
  refine rc_of_run mixed ok_spec_l1Least (by simp) (go_start _ _ _ ?_)
  by_cases h : a < b
  · simp (config := {implicitDefEqProofs := false, maxDischargeDepth := 20}) (disch := first | omega | (simp only [lenE]; done) | (simp only [lenE]; omega) | rfl | (simp only [lenE, markR_len]; done) | (simp only [lenE, markR_len]; omega)) only [runE, mapE, listE, initT_5, initT_6, initT_7, initT_8, resV, oneV, binA, unA, reduceCtorEq, Nat.reduceEqDiff, Nat.reduceAdd, Nat.reduceLT, Nat.reduceLeDiff, Nat.reduceMul, Nat.reduceSub, ↓reduceIte, decide_true, decide_false, Bool.true_eq_false, Bool.false_eq_true, Bool.not_true, Bool.not_false, if_true, if_false, and_true, true_and, memE, celE, w64, Nat.zero_add, Nat.add_zero, Nat.mul_one, putL, and_self, ldn, c_spec_l1Least, r_spec_l1Least, h]
    exact newQ_nil ⟨by congr 1; omega, rfl⟩
  · simp (config := {implicitDefEqProofs := false, maxDischargeDepth := 20}) (disch := first | omega | (simp only [lenE]; done) | (simp only [lenE]; omega) | rfl | (simp only [lenE, markR_len]; done) | (simp only [lenE, markR_len]; omega)) only [runE, mapE, listE, initT_5, initT_6, initT_7, initT_8, resV, oneV, binA, unA, reduceCtorEq, Nat.reduceEqDiff, Nat.reduceAdd, Nat.reduceLT, Nat.reduceLeDiff, Nat.reduceMul, Nat.reduceSub, ↓reduceIte, decide_true, decide_false, Bool.true_eq_false, Bool.false_eq_true, Bool.not_true, Bool.not_false, if_true, if_false, and_true, true_and, memE, celE, w64, Nat.zero_add, Nat.add_zero, Nat.mul_one, putL, and_self, ldn, c_spec_l1Least, r_spec_l1Least, h]
    exact newQ_nil ⟨by congr 1; omega, rfl⟩
theorem l9Make_rc (m : Mem) (v : Value) (s : Sh) (nw : Bool) (h : ShA m v s) (hg : GoodSh s) :
    RC Try.prog 56 [v, .bool nw] m (AnsO m (TabO (allG s nw s.need.length).2) _root_.id) := by
  refine rc_of_run mixed ok_spec_l9Make (by simp) (go_start _ _ _ ?_)
  obtain ⟨a, b, rfl, ha, hb⟩ := h.ro
  have hla := hg.la
  have n8 := hg.n8
  have l1 := hg.l1
  have l8 := hg.l8
  have hX := (Ext.refl m).one 26 [.int .i64 s.life, a, b, .int .i64 s.waste, .int .i64 s.lost]
  simp (config := {implicitDefEqProofs := false, maxDischargeDepth := 20}) (disch := first | omega | (simp only [lenE]; done) | (simp only [lenE]; omega) | rfl | (simp only [lenE, markR_len]; done) | (simp only [lenE, markR_len]; omega)) only [runE, mapE, listE, initT_5, initT_6, initT_7, initT_8, resV, oneV, binA, unA, reduceCtorEq, Nat.reduceEqDiff, Nat.reduceAdd, Nat.reduceLT, Nat.reduceLeDiff, Nat.reduceMul, Nat.reduceSub, ↓reduceIte, decide_true, decide_false, Bool.true_eq_false, Bool.false_eq_true, Bool.not_true, Bool.not_false, if_true, if_false, and_true, true_and, memE, celE, w64, Nat.zero_add, Nat.add_zero, Nat.mul_one, putL, and_self, ldn, c_spec_l9Make, r_spec_l9Make, hb.len]
  obtain ⟨M0, hM0⟩ : ∃ M0, M0 = roM m ++ [⟨.own, 26, [.int .i64 s.life, a, b, .int .i64 s.waste, .int .i64 s.lost]⟩] := ⟨_, rfl⟩
  have o1 : OwnB M0 m.length 26 [.int .i64 s.life, a, b, .int .i64 s.waste, .int .i64 s.lost] := by rw [hM0]; exact OwnB.here (by simp [roM_len])
  have hl0 : M0.length = m.length + 1 := by rw [hM0]; simp [roM_len]
  rw [← hM0] at hX ⊢
  refine callH_rc (l1Own_rc _ a s.arr (hX.ints ha) (by omega)) ?_
  intro r n1 hA
  obtain ⟨il, fl, rfl, gl, ol, -, nr1⟩ := hA.row
  replace hX := hX.app nr1
  replace o1 := o1.ext n1
  obtain ⟨M1, hM1⟩ : ∃ M1, M1 = M0 ++ n1 := ⟨_, rfl⟩
  rw [← hM1] at hX o1 ol ⊢
  have lol := ol.lt
  have hnil : TabX [] M1.length (M1 ++ [(⟨.own, 24, []⟩ : Blk)]).length (M1 ++ [⟨.own, 24, []⟩]) M1.length (fun _ => 0) (fun _ => 0) := by
    rw [List.length_append]
    exact tabX_nil (OwnB.here rfl) (Nat.le_refl _)
  simp (config := {implicitDefEqProofs := false, maxDischargeDepth := 20}) (disch := first | omega | (simp only [lenE]; done) | (simp only [lenE]; omega) | rfl | (simp only [lenE, markR_len]; done) | (simp only [lenE, markR_len]; omega)) only [runE, mapE, listE, initT_5, initT_6, initT_7, initT_8, resV, oneV, binA, unA, reduceCtorEq, Nat.reduceEqDiff, Nat.reduceAdd, Nat.reduceLT, Nat.reduceLeDiff, Nat.reduceMul, Nat.reduceSub, ↓reduceIte, decide_true, decide_false, Bool.true_eq_false, Bool.false_eq_true, Bool.not_true, Bool.not_false, if_true, if_false, and_true, true_and, memE, celE, w64, Nat.zero_add, Nat.add_zero, Nat.mul_one, putL, and_self, ldn, bsl_no]
  refine loop_inv mixed (fun s' => ∃ (t : Nat) (M : Mem) (id : Nat) (R F : Nat → Nat), t ≤ s.need.length ∧ s'.m = M ∧ Ext m M ∧ OwnB M m.length 26 [.int .i64 s.life, a, b, .int .i64 s.waste, .int .i64 s.lost] ∧ OwnR M il (allG s nw t).1 ∧ TabX (allG s nw t).2 M1.length M.length M id R F ∧
      s'.t 1 = .bool nw ∧ s'.t 2 = .pointer (some ⟨m.length, 0, none⟩) ∧ s'.t 5 = .int .i64 (s.need.length : Int) ∧ s'.t 6 = .slice (some ⟨il, 0, none⟩) s.arr.length fl ∧ s'.t 7 = .slice (some ⟨id, 0, none⟩) t 1 ∧ s'.t 8 = .int .i64 (t : Int)) (fun s' => s.need.length - (intOf (s'.t 8)).toNat)
    ⟨0, _, M1.length, _, _, by omega, rfl, hX.one _ _, o1.ext _, ol.ext _, hnil, rfl, rfl, rfl, rfl, rfl, rfl⟩ ?_
  rintro s' ⟨t, M, id, R, F, ht, tm, hX, o1, ol, hTX, t1, t2, t5, t6, t7, t8⟩
  by_cases hlt : t < s.need.length
  · have hlt' : (t : Int) < s.need.length := by omega
    have xb := hX.ints hb
    have zr : OwnR (M ++ [⟨.own, 3, List.replicate s.need.length (.int .i64 0)⟩]) M.length (List.replicate s.need.length 0) := OwnR.zeros rfl
    have xb' := (hX.one 3 (List.replicate s.need.length (.int .i64 0))).ints hb
    have ml : m.length < M.length := o1.lt
    have ill : il < M.length := ol.lt
    have tx := hTX.1
    have tx2 := hTX.2.1
    simp (config := {implicitDefEqProofs := false, maxDischargeDepth := 20}) (disch := first | omega | (simp only [lenE]; done) | (simp only [lenE]; omega) | rfl | (simp only [lenE, markR_len]; done) | (simp only [lenE, markR_len]; omega)) only [runE, mapE, listE, initT_5, initT_6, initT_7, initT_8, resV, oneV, binA, unA, reduceCtorEq, Nat.reduceEqDiff, Nat.reduceAdd, Nat.reduceLT, Nat.reduceLeDiff, Nat.reduceMul, Nat.reduceSub, ↓reduceIte, decide_true, decide_false, Bool.true_eq_false, Bool.false_eq_true, Bool.not_true, Bool.not_false, if_true, if_false, and_true, true_and, memE, celE, w64, Nat.zero_add, Nat.add_zero, Nat.mul_one, putL, and_self, ldn, tm, t1, t2, t5, t6, t7, t8, hlt', mksA_eq (byt := 8) (n := s.need.length) rfl (by omega), o1.rd, xb.at_ t hlt, xb'.ld t hlt]
    refine loop_inv mixed (fun s' => ∃ (k : Nat) (M' : Mem), k ≤ t + 1 ∧ s'.m = M' ∧ Ext m M' ∧ M'.length = M.length + 1 + (M'.length - M.length - 1) ∧ M.length < M'.length ∧ OwnB M' m.length 26 [.int .i64 s.life, a, b, .int .i64 s.waste, .int .i64 s.lost] ∧ OwnR M' il (gAt s nw t k).A ∧ OwnR M' M.length (gAt s nw t k).row ∧ TabX (allG s nw t).2 M1.length M.length M' id R F ∧
        s'.t 1 = .bool nw ∧ s'.t 2 = .pointer (some ⟨m.length, 0, none⟩) ∧ s'.t 5 = .int .i64 (s.need.length : Int) ∧ s'.t 6 = .slice (some ⟨il, 0, none⟩) s.arr.length fl ∧ s'.t 7 = .slice (some ⟨id, 0, none⟩) t 1 ∧ s'.t 8 = .int .i64 (t : Int) ∧ s'.t 9 = .slice (some ⟨M.length, 0, none⟩) s.need.length 1 ∧ s'.t 10 = .int .i64 (gAt s nw t k).r ∧ s'.t 11 = .int .i64 (k : Int)) (fun s' => t + 1 - (intOf (s'.t 11)).toNat)
      ⟨0, M ++ [⟨.own, 3, List.replicate s.need.length (.int .i64 0)⟩], by omega, rfl, hX.one _ _, by simp, by simp, o1.ext _, ol.ext _, zr, hTX.ext (Nat.le_refl _) _, (by first | exact t1 | simp only [put_t, put_t', put_m, putT_t, putT_t', putT_m, init_t, init_m, initT_0, initT_1, initT_2, initT_3, initT_4, initT_5, initT_6, initT_7, initT_8, Nat.reduceEqDiff, ↓reduceIte, t1]), (by first | exact t2 | simp only [put_t, put_t', put_m, putT_t, putT_t', putT_m, init_t, init_m, initT_0, initT_1, initT_2, initT_3, initT_4, initT_5, initT_6, initT_7, initT_8, Nat.reduceEqDiff, ↓reduceIte, t2]), (by first | exact t5 | simp only [put_t, put_t', put_m, putT_t, putT_t', putT_m, init_t, init_m, initT_0, initT_1, initT_2, initT_3, initT_4, initT_5, initT_6, initT_7, initT_8, Nat.reduceEqDiff, ↓reduceIte, t5]), (by first | exact t6 | simp only [put_t, put_t', put_m, putT_t, putT_t', putT_m, init_t, init_m, initT_0, initT_1, initT_2, initT_3, initT_4, initT_5, initT_6, initT_7, initT_8, Nat.reduceEqDiff, ↓reduceIte, t6]), (by first | exact t7 | simp only [put_t, put_t', put_m, putT_t, putT_t', putT_m, init_t, init_m, initT_0, initT_1, initT_2, initT_3, initT_4, initT_5, initT_6, initT_7, initT_8, Nat.reduceEqDiff, ↓reduceIte, t7]), (by first | exact t8 | simp only [put_t, put_t', put_m, putT_t, putT_t', putT_m, init_t, init_m, initT_0, initT_1, initT_2, initT_3, initT_4, initT_5, initT_6, initT_7, initT_8, Nat.reduceEqDiff, ↓reduceIte, t8]), rfl, rfl, rfl⟩ ?_
    clear tm t1 t2 t5 t6 t7 t8 xb' zr
    rintro s' ⟨k, M', hk, tm, hX', hML, hMl, o1', ol', or', hTX', t1, t2, t5, t6, t7, t8, t9, t10, t11⟩
    by_cases hkt : k ≤ t
    · have hkt' : (k : Int) ≤ t := by omega
      obtain ⟨f, hf⟩ : ∃ f, f = colO nw t k := ⟨_, rfl⟩
      have hft : f ≤ t := by rw [hf]; exact colO_le hkt
      have ok := gAt_ok hg nw hlt (k := k) (by omega)
      have okA := ok.la
      have okR := ok.lr
      have okr := ok.r
      have bA := ok.a f (by omega)
      cases nw with
      | true =>
        have ef : (t : Int) - k = (f : Int) := by rw [hf]; unfold colO; simp; omega
        simp (config := {implicitDefEqProofs := false, maxDischargeDepth := 20}) (disch := first | omega | (simp only [lenE]; done) | (simp only [lenE]; omega) | rfl | (simp only [lenE, markR_len]; done) | (simp only [lenE, markR_len]; omega)) only [runE, mapE, listE, initT_5, initT_6, initT_7, initT_8, resV, oneV, binA, unA, reduceCtorEq, Nat.reduceEqDiff, Nat.reduceAdd, Nat.reduceLT, Nat.reduceLeDiff, Nat.reduceMul, Nat.reduceSub, ↓reduceIte, decide_true, decide_false, Bool.true_eq_false, Bool.false_eq_true, Bool.not_true, Bool.not_false, if_true, if_false, and_true, true_and, memE, celE, w64, Nat.zero_add, Nat.add_zero, Nat.mul_one, putL, and_self, ldn, tm, t1, t2, t5, t6, t7, t8, t9, t10, t11, hkt', ef, o1'.rd]
        refine callH_rc (usable_rc M' _ s f t (ShA.mk (hX'.ints ha) (hX'.ints hb)) (by omega) ⟨by omega, l8⟩) ?_
        rintro r n2 ⟨rfl, nr2⟩
        cases hu : usB s.life f t with
        | false =>
          simp (config := {implicitDefEqProofs := false, maxDischargeDepth := 20}) (disch := first | omega | (simp only [lenE]; done) | (simp only [lenE]; omega) | rfl | (simp only [lenE, markR_len]; done) | (simp only [lenE, markR_len]; omega)) only [runE, mapE, listE, initT_5, initT_6, initT_7, initT_8, resV, oneV, binA, unA, reduceCtorEq, Nat.reduceEqDiff, Nat.reduceAdd, Nat.reduceLT, Nat.reduceLeDiff, Nat.reduceMul, Nat.reduceSub, ↓reduceIte, decide_true, decide_false, Bool.true_eq_false, Bool.false_eq_true, Bool.not_true, Bool.not_false, if_true, if_false, and_true, true_and, memE, celE, w64, Nat.zero_add, Nat.add_zero, Nat.mul_one, putL, and_self, ldn, tm, t1, t2, t5, t6, t7, t8, t9, t10, t11]
          have sk := gAt_skip hg (newest := true) hlt hkt (by rw [← hf]; exact hu)
          refine ⟨⟨k + 1, M' ++ n2, by omega, rfl, hX'.app nr2, by rw [List.length_append]; omega, by rw [List.length_append]; omega, o1'.ext _, by rw [sk]; exact ol'.ext _, by rw [sk]; exact or'.ext _, hTX'.ext (by omega) _, by rw [sk], by simp⟩, ?_⟩
          simp [intOf]; omega
        | true =>
          have hX2 := hX'.app nr2
          have o12 := o1'.ext n2
          have ol2 := ol'.ext n2
          have or2 := or'.ext n2
          have hTX2 := hTX'.ext (by omega) n2
          obtain ⟨M2, hM2⟩ : ∃ M2, M2 = M' ++ n2 := ⟨_, rfl⟩
          have M2l : M.length < M2.length := by rw [hM2, List.length_append]; omega
          have iA : iadA 1 (.slice (some ⟨il, 0, none⟩) s.arr.length fl) (.int .i64 (f : Int)) = some (.pointer (some ⟨il, f, none⟩)) := iad0 rfl (by omega)
          have iR : iadA 1 (.slice (some ⟨M.length, 0, none⟩) s.need.length 1) (.int .i64 (f : Int)) = some (.pointer (some ⟨M.length, f, none⟩)) := iad0 rfl (by omega)
          rw [← hM2] at hX2 o12 ol2 or2 hTX2
          have kA := ol2.rd' (i := f) (by omega)
          simp (config := {implicitDefEqProofs := false, maxDischargeDepth := 20}) (disch := first | omega | (simp only [lenE]; done) | (simp only [lenE]; omega) | rfl | (simp only [lenE, markR_len]; done) | (simp only [lenE, markR_len]; omega)) only [runE, mapE, listE, initT_5, initT_6, initT_7, initT_8, resV, oneV, binA, unA, reduceCtorEq, Nat.reduceEqDiff, Nat.reduceAdd, Nat.reduceLT, Nat.reduceLeDiff, Nat.reduceMul, Nat.reduceSub, ↓reduceIte, decide_true, decide_false, Bool.true_eq_false, Bool.false_eq_true, Bool.not_true, Bool.not_false, if_true, if_false, and_true, true_and, memE, celE, w64, Nat.zero_add, Nat.add_zero, Nat.mul_one, putL, and_self, ldn, tm, t1, t2, t5, t6, t7, t8, t9, t10, t11]
          rw [← hM2]
          simp (config := {implicitDefEqProofs := false, maxDischargeDepth := 20}) (disch := first | omega | (simp only [lenE]; done) | (simp only [lenE]; omega) | rfl | (simp only [lenE, markR_len]; done) | (simp only [lenE, markR_len]; omega)) only [runE, mapE, listE, initT_5, initT_6, initT_7, initT_8, resV, oneV, binA, unA, reduceCtorEq, Nat.reduceEqDiff, Nat.reduceAdd, Nat.reduceLT, Nat.reduceLeDiff, Nat.reduceMul, Nat.reduceSub, ↓reduceIte, decide_true, decide_false, Bool.true_eq_false, Bool.false_eq_true, Bool.not_true, Bool.not_false, if_true, if_false, and_true, true_and, memE, celE, w64, Nat.zero_add, Nat.add_zero, Nat.mul_one, putL, and_self, ldn, iA, kA]
          refine callH_rc (least9_rc _ _ _) ?_
          rintro r new ⟨rfl, rfl⟩
          rw [List.append_nil]
          obtain ⟨u, hu2⟩ : ∃ u, u = min (gAt s true t k).r ((gAt s true t k).A.getD f 0) := ⟨_, rfl⟩
          rw [← hu2]
          have etake : takeG s.life t f (gAt s true t k) = u := by unfold takeG; rw [hu, if_pos rfl, hu2]; omega
          have sR := or2.st (off := f) (x := u) (by omega)
          have or3 := or2.set_self (L' := (gAt s true t k).row.set f u)
          have ol3 : OwnR (M2.set M.length (Ab.rowB ((gAt s true t k).row.set f u))) il (gAt s true t k).A := ol2.set_ne (by omega)
          have kR : rdc (M2.set M.length (Ab.rowB ((gAt s true t k).row.set f u))) M.length f = some (.int .i64 u) := by
            have := or3.rd' (i := f) (by rw [List.length_set]; omega)
            rw [this, setD9 (by omega), if_pos rfl]
          have kA3 := ol3.rd' (i := f) (by omega)
          have sA := ol3.st (off := f) (x := (gAt s true t k).A.getD f 0 - u) (by omega)
          simp (config := {implicitDefEqProofs := false, maxDischargeDepth := 20}) (disch := first | omega | (simp only [lenE]; done) | (simp only [lenE]; omega) | rfl | (simp only [lenE, markR_len]; done) | (simp only [lenE, markR_len]; omega)) only [runE, mapE, listE, initT_5, initT_6, initT_7, initT_8, resV, oneV, binA, unA, reduceCtorEq, Nat.reduceEqDiff, Nat.reduceAdd, Nat.reduceLT, Nat.reduceLeDiff, Nat.reduceMul, Nat.reduceSub, ↓reduceIte, decide_true, decide_false, Bool.true_eq_false, Bool.false_eq_true, Bool.not_true, Bool.not_false, if_true, if_false, and_true, true_and, memE, celE, w64, Nat.zero_add, Nat.add_zero, Nat.mul_one, putL, and_self, ldn, t1, t2, t5, t6, t7, t8, t9, t10, t11, iR, iA, sR, kR, kA3, sA]
          have eg : gAt s true t (k + 1) = ⟨(gAt s true t k).A.set f ((gAt s true t k).A.getD f 0 - u), (gAt s true t k).r - u, (gAt s true t k).row.set f u⟩ := by
            rw [gAt_s, ← hf, stepG, etake]
          refine ⟨⟨k + 1, _, by omega, rfl, (hX2.put (by omega) _ _).put (by omega) _ _, by simp only [List.length_set]; omega, by simp only [List.length_set]; omega, (o12.set_ne (by omega) _).set_ne (by omega) _, ?_, ?_, ?_, by rw [eg], by simp⟩, ?_⟩
          · rw [eg]
            exact OwnR.set_self (L' := (gAt s true t k).A.set f ((gAt s true t k).A.getD f 0 - u)) ol3
          · rw [eg]
            exact OwnR.set_ne or3 (by omega)
          · exact hTX2.at_ fun i h1 h2 => by rw [List.getElem?_set_ne (by omega), List.getElem?_set_ne (by omega)]
          · simp [intOf]; omega
      | false =>
        obtain rfl : f = k := by rw [hf]; unfold colO; simp
        simp (config := {implicitDefEqProofs := false, maxDischargeDepth := 20}) (disch := first | omega | (simp only [lenE]; done) | (simp only [lenE]; omega) | rfl | (simp only [lenE, markR_len]; done) | (simp only [lenE, markR_len]; omega)) only [runE, mapE, listE, initT_5, initT_6, initT_7, initT_8, resV, oneV, binA, unA, reduceCtorEq, Nat.reduceEqDiff, Nat.reduceAdd, Nat.reduceLT, Nat.reduceLeDiff, Nat.reduceMul, Nat.reduceSub, ↓reduceIte, decide_true, decide_false, Bool.true_eq_false, Bool.false_eq_true, Bool.not_true, Bool.not_false, if_true, if_false, and_true, true_and, memE, celE, w64, Nat.zero_add, Nat.add_zero, Nat.mul_one, putL, and_self, ldn, tm, t1, t2, t5, t6, t7, t8, t9, t10, t11, hkt', o1'.rd]
        refine callH_rc (usable_rc M' _ s f t (ShA.mk (hX'.ints ha) (hX'.ints hb)) (by omega) ⟨by omega, l8⟩) ?_
        rintro r n2 ⟨rfl, nr2⟩
        cases hu : usB s.life f t with
        | false =>
          simp (config := {implicitDefEqProofs := false, maxDischargeDepth := 20}) (disch := first | omega | (simp only [lenE]; done) | (simp only [lenE]; omega) | rfl | (simp only [lenE, markR_len]; done) | (simp only [lenE, markR_len]; omega)) only [runE, mapE, listE, initT_5, initT_6, initT_7, initT_8, resV, oneV, binA, unA, reduceCtorEq, Nat.reduceEqDiff, Nat.reduceAdd, Nat.reduceLT, Nat.reduceLeDiff, Nat.reduceMul, Nat.reduceSub, ↓reduceIte, decide_true, decide_false, Bool.true_eq_false, Bool.false_eq_true, Bool.not_true, Bool.not_false, if_true, if_false, and_true, true_and, memE, celE, w64, Nat.zero_add, Nat.add_zero, Nat.mul_one, putL, and_self, ldn, tm, t1, t2, t5, t6, t7, t8, t9, t10, t11]
          have sk := gAt_skip hg (newest := false) hlt hkt (by rw [← hf]; exact hu)
          refine ⟨⟨f + 1, M' ++ n2, by omega, rfl, hX'.app nr2, by rw [List.length_append]; omega, by rw [List.length_append]; omega, o1'.ext _, by rw [sk]; exact ol'.ext _, by rw [sk]; exact or'.ext _, hTX'.ext (by omega) _, by rw [sk], by simp⟩, ?_⟩
          simp [intOf]; omega
        | true =>
          have hX2 := hX'.app nr2
          have o12 := o1'.ext n2
          have ol2 := ol'.ext n2
          have or2 := or'.ext n2
          have hTX2 := hTX'.ext (by omega) n2
          obtain ⟨M2, hM2⟩ : ∃ M2, M2 = M' ++ n2 := ⟨_, rfl⟩
          have M2l : M.length < M2.length := by rw [hM2, List.length_append]; omega
          have iA : iadA 1 (.slice (some ⟨il, 0, none⟩) s.arr.length fl) (.int .i64 (f : Int)) = some (.pointer (some ⟨il, f, none⟩)) := iad0 rfl (by omega)
          have iR : iadA 1 (.slice (some ⟨M.length, 0, none⟩) s.need.length 1) (.int .i64 (f : Int)) = some (.pointer (some ⟨M.length, f, none⟩)) := iad0 rfl (by omega)
          rw [← hM2] at hX2 o12 ol2 or2 hTX2
          have kA := ol2.rd' (i := f) (by omega)
          simp (config := {implicitDefEqProofs := false, maxDischargeDepth := 20}) (disch := first | omega | (simp only [lenE]; done) | (simp only [lenE]; omega) | rfl | (simp only [lenE, markR_len]; done) | (simp only [lenE, markR_len]; omega)) only [runE, mapE, listE, initT_5, initT_6, initT_7, initT_8, resV, oneV, binA, unA, reduceCtorEq, Nat.reduceEqDiff, Nat.reduceAdd, Nat.reduceLT, Nat.reduceLeDiff, Nat.reduceMul, Nat.reduceSub, ↓reduceIte, decide_true, decide_false, Bool.true_eq_false, Bool.false_eq_true, Bool.not_true, Bool.not_false, if_true, if_false, and_true, true_and, memE, celE, w64, Nat.zero_add, Nat.add_zero, Nat.mul_one, putL, and_self, ldn, tm, t1, t2, t5, t6, t7, t8, t9, t10, t11]
          rw [← hM2]
          simp (config := {implicitDefEqProofs := false, maxDischargeDepth := 20}) (disch := first | omega | (simp only [lenE]; done) | (simp only [lenE]; omega) | rfl | (simp only [lenE, markR_len]; done) | (simp only [lenE, markR_len]; omega)) only [runE, mapE, listE, initT_5, initT_6, initT_7, initT_8, resV, oneV, binA, unA, reduceCtorEq, Nat.reduceEqDiff, Nat.reduceAdd, Nat.reduceLT, Nat.reduceLeDiff, Nat.reduceMul, Nat.reduceSub, ↓reduceIte, decide_true, decide_false, Bool.true_eq_false, Bool.false_eq_true, Bool.not_true, Bool.not_false, if_true, if_false, and_true, true_and, memE, celE, w64, Nat.zero_add, Nat.add_zero, Nat.mul_one, putL, and_self, ldn, iA, kA]
          refine callH_rc (least9_rc _ _ _) ?_
          rintro r new ⟨rfl, rfl⟩
          rw [List.append_nil]
          obtain ⟨u, hu2⟩ : ∃ u, u = min (gAt s false t f).r ((gAt s false t f).A.getD f 0) := ⟨_, rfl⟩
          rw [← hu2]
          have etake : takeG s.life t f (gAt s false t f) = u := by unfold takeG; rw [hu, if_pos rfl, hu2]; omega
          have sR := or2.st (off := f) (x := u) (by omega)
          have or3 := or2.set_self (L' := (gAt s false t f).row.set f u)
          have ol3 : OwnR (M2.set M.length (Ab.rowB ((gAt s false t f).row.set f u))) il (gAt s false t f).A := ol2.set_ne (by omega)
          have kR : rdc (M2.set M.length (Ab.rowB ((gAt s false t f).row.set f u))) M.length f = some (.int .i64 u) := by
            have := or3.rd' (i := f) (by rw [List.length_set]; omega)
            rw [this, setD9 (by omega), if_pos rfl]
          have kA3 := ol3.rd' (i := f) (by omega)
          have sA := ol3.st (off := f) (x := (gAt s false t f).A.getD f 0 - u) (by omega)
          simp (config := {implicitDefEqProofs := false, maxDischargeDepth := 20}) (disch := first | omega | (simp only [lenE]; done) | (simp only [lenE]; omega) | rfl | (simp only [lenE, markR_len]; done) | (simp only [lenE, markR_len]; omega)) only [runE, mapE, listE, initT_5, initT_6, initT_7, initT_8, resV, oneV, binA, unA, reduceCtorEq, Nat.reduceEqDiff, Nat.reduceAdd, Nat.reduceLT, Nat.reduceLeDiff, Nat.reduceMul, Nat.reduceSub, ↓reduceIte, decide_true, decide_false, Bool.true_eq_false, Bool.false_eq_true, Bool.not_true, Bool.not_false, if_true, if_false, and_true, true_and, memE, celE, w64, Nat.zero_add, Nat.add_zero, Nat.mul_one, putL, and_self, ldn, t1, t2, t5, t6, t7, t8, t9, t10, t11, iR, iA, sR, kR, kA3, sA]
          have eg : gAt s false t (f + 1) = ⟨(gAt s false t f).A.set f ((gAt s false t f).A.getD f 0 - u), (gAt s false t f).r - u, (gAt s false t f).row.set f u⟩ := by
            rw [gAt_s, ← hf, stepG, etake]
          refine ⟨⟨f + 1, _, by omega, rfl, (hX2.put (by omega) _ _).put (by omega) _ _, by simp only [List.length_set]; omega, by simp only [List.length_set]; omega, (o12.set_ne (by omega) _).set_ne (by omega) _, ?_, ?_, ?_, by rw [eg], by simp⟩, ?_⟩
          · rw [eg]
            exact OwnR.set_self (L' := (gAt s false t f).A.set f ((gAt s false t f).A.getD f 0 - u)) ol3
          · rw [eg]
            exact OwnR.set_ne or3 (by omega)
          · exact hTX2.at_ fun i h1 h2 => by rw [List.getElem?_set_ne (by omega), List.getElem?_set_ne (by omega)]
          · simp [intOf]; omega
    · have hkt' : ¬ ((k : Int) ≤ t) := by omega
      have e : k = t + 1 := by omega
      subst e
      have ok := gAt_ok hg nw hlt (k := t + 1) (Nat.le_refl _)
      have okR := ok.lr
      have happ := app_back (e := 24) (sz := 1) (byt := 24) (n := t) (id2 := M'.length) (ys := [.slice (some ⟨M.length, 0, none⟩) s.need.length 1]) hTX'.2.2.1 rfl (by rw [rowsC_len, allG_len]; omega) rfl (by rfl) (by omega) (by omega)
      simp (config := {implicitDefEqProofs := false, maxDischargeDepth := 20}) (disch := first | omega | (simp only [lenE]; done) | (simp only [lenE]; omega) | rfl | (simp only [lenE, markR_len]; done) | (simp only [lenE, markR_len]; omega)) only [runE, mapE, listE, initT_5, initT_6, initT_7, initT_8, resV, oneV, binA, unA, reduceCtorEq, Nat.reduceEqDiff, Nat.reduceAdd, Nat.reduceLT, Nat.reduceLeDiff, Nat.reduceMul, Nat.reduceSub, ↓reduceIte, decide_true, decide_false, Bool.true_eq_false, Bool.false_eq_true, Bool.not_true, Bool.not_false, if_true, if_false, and_true, true_and, memE, celE, w64, Nat.zero_add, Nat.add_zero, Nat.mul_one, putL, and_self, ldn, tm, t1, t2, t5, t6, t7, t8, t9, t10, t11, hkt', bsl_sl', happ]
      have hidl := hTX'.2.2.1.lt
      have lr := or'.lt
      have lo := ol'.lt
      refine ⟨⟨t + 1, _, M'.length + 1, fun j => if j < (allG s nw t).2.length then R j else M.length, fun j => if j < (allG s nw t).2.length then F j else 1, by omega, rfl, ((hX'.dead (by omega)).one _ _).one _ _, ?_, ?_, ?_, rfl, by simp⟩, ?_⟩
      · exact o1'.at_ (by rw [List.append_assoc, List.getElem?_append_left (by rw [List.length_set]; exact o1'.lt), List.getElem?_set_ne (by omega)])
      · rw [allG_s]
        exact ol'.at_ (by rw [List.append_assoc, List.getElem?_append_left (by rw [List.length_set]; exact lo), List.getElem?_set_ne (by omega)])
      · rw [allG_s]
        refine tabX_snoc (rid := M.length) (f := 1) hTX' (fun i h1 h2 h3 => ?_) (by omega) (by simp) ?_ (by omega) (by simp; omega) ?_ (by simp; omega)
        · rw [List.append_assoc, List.getElem?_append_left (by rw [List.length_set]; omega), List.getElem?_set_ne (by omega)]
        · rw [okR]
          exact OwnB.here (by simp)
        · exact or'.at_ (by rw [List.append_assoc, List.getElem?_append_left (by rw [List.length_set]; exact lr), List.getElem?_set_ne (by omega)])
      · simp [intOf]; omega
  · have hlt' : ¬ ((t : Int) < s.need.length) := by omega
    have e : t = s.need.length := by omega
    subst e
    simp (config := {implicitDefEqProofs := false, maxDischargeDepth := 20}) (disch := first | omega | (simp only [lenE]; done) | (simp only [lenE]; omega) | rfl | (simp only [lenE, markR_len]; done) | (simp only [lenE, markR_len]; omega)) only [runE, mapE, listE, initT_5, initT_6, initT_7, initT_8, resV, oneV, binA, unA, reduceCtorEq, Nat.reduceEqDiff, Nat.reduceAdd, Nat.reduceLT, Nat.reduceLeDiff, Nat.reduceMul, Nat.reduceSub, ↓reduceIte, decide_true, decide_false, Bool.true_eq_false, Bool.false_eq_true, Bool.not_true, Bool.not_false, if_true, if_false, and_true, true_and, memE, celE, w64, Nat.zero_add, Nat.add_zero, Nat.mul_one, putL, and_self, ldn, tm, t1, t2, t5, t6, t7, t8, hlt']
    obtain ⟨q1, q2, q3⟩ := allG_ok hg nw s.need.length (Nat.le_refl _)
    have ql := allG_len s nw s.need.length
    have hl1 := hX.len
    refine ext_ansO (f := _root_.id) hX fun M' hM => ?_
    have := (hTX.at_ (M' := M') fun i h1 h2 => hM i (by omega) h2).obj (fl := 1) (by omega) (by
      have := tsz_bd9 (T := (allG s nw s.need.length).2) (n := 8) (fun j hj => by rw [q3 j (by omega)]; exact n8)
      omega)
    rw [ql] at this
    exact TabO.wide _ _ _ _ _ _ _ (by omega) (Nat.le_refl _) this
theorem specOldest_rc (m : Mem) (v : Value) (s : Sh) (h : ShA m v s) :
    RC Try.prog 17 [v] m (AnsO m (TabO (issA s false)) fun v => .tuple #[v, .bool s.good]) := by
  refine rc_of_run mixed ok_spec_OldestFirst (by simp) (go_start _ _ _ ?_)
  obtain ⟨a, b, rfl, ha, hb⟩ := h.ro
  have hX := (Ext.refl m).one 26 [.int .i64 s.life, a, b, .int .i64 s.waste, .int .i64 s.lost]
  simp (config := {implicitDefEqProofs := false, maxDischargeDepth := 20}) (disch := first | omega | (simp only [lenE]; done) | (simp only [lenE]; omega) | rfl | (simp only [lenE, markR_len]; done) | (simp only [lenE, markR_len]; omega)) only [runE, mapE, listE, initT_5, initT_6, initT_7, initT_8, resV, oneV, binA, unA, reduceCtorEq, Nat.reduceEqDiff, Nat.reduceAdd, Nat.reduceLT, Nat.reduceLeDiff, Nat.reduceMul, Nat.reduceSub, ↓reduceIte, decide_true, decide_false, Bool.true_eq_false, Bool.false_eq_true, Bool.not_true, Bool.not_false, if_true, if_false, and_true, true_and, memE, celE, w64, Nat.zero_add, Nat.add_zero, Nat.mul_one, putL, and_self, ldn, c_spec_OldestFirst, r_spec_OldestFirst]
  obtain ⟨M0, hM0⟩ : ∃ M0, M0 = roM m ++ [⟨.own, 26, [.int .i64 s.life, a, b, .int .i64 s.waste, .int .i64 s.lost]⟩] := ⟨_, rfl⟩
  have o1 : OwnB M0 m.length 26 [.int .i64 s.life, a, b, .int .i64 s.waste, .int .i64 s.lost] := by rw [hM0]; exact OwnB.here (by simp [roM_len])
  rw [← hM0] at hX ⊢
  refine callH_rc (l9Good_rc _ _ s (ShA.mk (hX.ints ha) (hX.ints hb))) ?_
  rintro r n1 ⟨rfl, nr1⟩
  replace hX := hX.app nr1
  replace o1 := o1.ext n1
  obtain ⟨M1, hM1⟩ : ∃ M1, M1 = M0 ++ n1 := ⟨_, rfl⟩
  rw [← hM1] at hX o1 ⊢
  unfold issA
  cases hg : s.good with
  | false =>
    simp (config := {implicitDefEqProofs := false, maxDischargeDepth := 20}) (disch := first | omega | (simp only [lenE]; done) | (simp only [lenE]; omega) | rfl | (simp only [lenE, markR_len]; done) | (simp only [lenE, markR_len]; omega)) only [runE, mapE, listE, initT_5, initT_6, initT_7, initT_8, resV, oneV, binA, unA, reduceCtorEq, Nat.reduceEqDiff, Nat.reduceAdd, Nat.reduceLT, Nat.reduceLeDiff, Nat.reduceMul, Nat.reduceSub, ↓reduceIte, decide_true, decide_false, Bool.true_eq_false, Bool.false_eq_true, Bool.not_true, Bool.not_false, if_true, if_false, and_true, true_and, memE, celE, w64, Nat.zero_add, Nat.add_zero, Nat.mul_one, putL, and_self, ldn, bsl_no]
    exact ext_noTab (f := fun v => .tuple #[v, .bool false]) hX rfl
  | true =>
    simp (config := {implicitDefEqProofs := false, maxDischargeDepth := 20}) (disch := first | omega | (simp only [lenE]; done) | (simp only [lenE]; omega) | rfl | (simp only [lenE, markR_len]; done) | (simp only [lenE, markR_len]; omega)) only [runE, mapE, listE, initT_5, initT_6, initT_7, initT_8, resV, oneV, binA, unA, reduceCtorEq, Nat.reduceEqDiff, Nat.reduceAdd, Nat.reduceLT, Nat.reduceLeDiff, Nat.reduceMul, Nat.reduceSub, ↓reduceIte, decide_true, decide_false, Bool.true_eq_false, Bool.false_eq_true, Bool.not_true, Bool.not_false, if_true, if_false, and_true, true_and, memE, celE, w64, Nat.zero_add, Nat.add_zero, Nat.mul_one, putL, and_self, ldn, o1.rd]
    refine callH_rc (l9Make_rc _ _ s false (ShA.mk (hX.ints ha) (hX.ints hb)) (goodSh_iff.1 hg)) ?_
    rintro r n2 ⟨nr2, w, rfl, hw⟩
    simp (config := {implicitDefEqProofs := false, maxDischargeDepth := 20}) (disch := first | omega | (simp only [lenE]; done) | (simp only [lenE]; omega) | rfl | (simp only [lenE, markR_len]; done) | (simp only [lenE, markR_len]; omega)) only [runE, mapE, listE, initT_5, initT_6, initT_7, initT_8, resV, oneV, binA, unA, reduceCtorEq, Nat.reduceEqDiff, Nat.reduceAdd, Nat.reduceLT, Nat.reduceLeDiff, Nat.reduceMul, Nat.reduceSub, ↓reduceIte, decide_true, decide_false, Bool.true_eq_false, Bool.false_eq_true, Bool.not_true, Bool.not_false, if_true, if_false, and_true, true_and, memE, celE, w64, Nat.zero_add, Nat.add_zero, Nat.mul_one, putL, and_self, ldn]
    exact Ext.pass (f := fun v => .tuple #[v, .bool true]) hX nr2 (TabO.wide _) hw
theorem specNewest_rc (m : Mem) (v : Value) (s : Sh) (h : ShA m v s) :
    RC Try.prog 19 [v] m (AnsO m (TabO (issA s true)) fun v => .tuple #[v, .bool s.good]) := by
  refine rc_of_run mixed ok_spec_NewestFirst (by simp) (go_start _ _ _ ?_)
  obtain ⟨a, b, rfl, ha, hb⟩ := h.ro
  have hX := (Ext.refl m).one 26 [.int .i64 s.life, a, b, .int .i64 s.waste, .int .i64 s.lost]
  simp (config := {implicitDefEqProofs := false, maxDischargeDepth := 20}) (disch := first | omega | (simp only [lenE]; done) | (simp only [lenE]; omega) | rfl | (simp only [lenE, markR_len]; done) | (simp only [lenE, markR_len]; omega)) only [runE, mapE, listE, initT_5, initT_6, initT_7, initT_8, resV, oneV, binA, unA, reduceCtorEq, Nat.reduceEqDiff, Nat.reduceAdd, Nat.reduceLT, Nat.reduceLeDiff, Nat.reduceMul, Nat.reduceSub, ↓reduceIte, decide_true, decide_false, Bool.true_eq_false, Bool.false_eq_true, Bool.not_true, Bool.not_false, if_true, if_false, and_true, true_and, memE, celE, w64, Nat.zero_add, Nat.add_zero, Nat.mul_one, putL, and_self, ldn, c_spec_NewestFirst, r_spec_NewestFirst]
  obtain ⟨M0, hM0⟩ : ∃ M0, M0 = roM m ++ [⟨.own, 26, [.int .i64 s.life, a, b, .int .i64 s.waste, .int .i64 s.lost]⟩] := ⟨_, rfl⟩
  have o1 : OwnB M0 m.length 26 [.int .i64 s.life, a, b, .int .i64 s.waste, .int .i64 s.lost] := by rw [hM0]; exact OwnB.here (by simp [roM_len])
  rw [← hM0] at hX ⊢
  refine callH_rc (l9Good_rc _ _ s (ShA.mk (hX.ints ha) (hX.ints hb))) ?_
  rintro r n1 ⟨rfl, nr1⟩
  replace hX := hX.app nr1
  replace o1 := o1.ext n1
  obtain ⟨M1, hM1⟩ : ∃ M1, M1 = M0 ++ n1 := ⟨_, rfl⟩
  rw [← hM1] at hX o1 ⊢
  unfold issA
  cases hg : s.good with
  | false =>
    simp (config := {implicitDefEqProofs := false, maxDischargeDepth := 20}) (disch := first | omega | (simp only [lenE]; done) | (simp only [lenE]; omega) | rfl | (simp only [lenE, markR_len]; done) | (simp only [lenE, markR_len]; omega)) only [runE, mapE, listE, initT_5, initT_6, initT_7, initT_8, resV, oneV, binA, unA, reduceCtorEq, Nat.reduceEqDiff, Nat.reduceAdd, Nat.reduceLT, Nat.reduceLeDiff, Nat.reduceMul, Nat.reduceSub, ↓reduceIte, decide_true, decide_false, Bool.true_eq_false, Bool.false_eq_true, Bool.not_true, Bool.not_false, if_true, if_false, and_true, true_and, memE, celE, w64, Nat.zero_add, Nat.add_zero, Nat.mul_one, putL, and_self, ldn, bsl_no]
    exact ext_noTab (f := fun v => .tuple #[v, .bool false]) hX rfl
  | true =>
    simp (config := {implicitDefEqProofs := false, maxDischargeDepth := 20}) (disch := first | omega | (simp only [lenE]; done) | (simp only [lenE]; omega) | rfl | (simp only [lenE, markR_len]; done) | (simp only [lenE, markR_len]; omega)) only [runE, mapE, listE, initT_5, initT_6, initT_7, initT_8, resV, oneV, binA, unA, reduceCtorEq, Nat.reduceEqDiff, Nat.reduceAdd, Nat.reduceLT, Nat.reduceLeDiff, Nat.reduceMul, Nat.reduceSub, ↓reduceIte, decide_true, decide_false, Bool.true_eq_false, Bool.false_eq_true, Bool.not_true, Bool.not_false, if_true, if_false, and_true, true_and, memE, celE, w64, Nat.zero_add, Nat.add_zero, Nat.mul_one, putL, and_self, ldn, o1.rd]
    refine callH_rc (l9Make_rc _ _ s true (ShA.mk (hX.ints ha) (hX.ints hb)) (goodSh_iff.1 hg)) ?_
    rintro r n2 ⟨nr2, w, rfl, hw⟩
    simp (config := {implicitDefEqProofs := false, maxDischargeDepth := 20}) (disch := first | omega | (simp only [lenE]; done) | (simp only [lenE]; omega) | rfl | (simp only [lenE, markR_len]; done) | (simp only [lenE, markR_len]; omega)) only [runE, mapE, listE, initT_5, initT_6, initT_7, initT_8, resV, oneV, binA, unA, reduceCtorEq, Nat.reduceEqDiff, Nat.reduceAdd, Nat.reduceLT, Nat.reduceLeDiff, Nat.reduceMul, Nat.reduceSub, ↓reduceIte, decide_true, decide_false, Bool.true_eq_false, Bool.false_eq_true, Bool.not_true, Bool.not_false, if_true, if_false, and_true, true_and, memE, celE, w64, Nat.zero_add, Nat.add_zero, Nat.mul_one, putL, and_self, ldn]
    exact Ext.pass (f := fun v => .tuple #[v, .bool true]) hX nr2 (TabO.wide _) hw
end Go.Proofs.Ytdgfbmilbhckiaa.Ab
end
section
namespace Go.Proofs.Ytdgfbmilbhckiaa.Ab
open Go Go.RowKit
set_option linter.unusedVariables false
set_option linter.unusedSimpArgs false
set_option maxRecDepth 10000
def AnsX (m : Mem) (T : List (List Int)) (r : Value) (new : Mem) : Prop :=
  NoRo new ∧ ∃ (id lo : Nat) (R F : Nat → Nat), r = .slice (some ⟨id, 0, none⟩) T.length 1 ∧ m.length ≤ lo ∧ TabX T lo (m ++ new).length (m ++ new) id R F ∧ ∀ j, j < T.length → F j = 1
theorem l9MakeX_rc (m : Mem) (v : Value) (s : Sh) (nw : Bool) (h : ShA m v s) (hg : GoodSh s) :
    RC Try.prog 56 [v, .bool nw] m (AnsX m (allG s nw s.need.length).2) := by
  refine rc_of_run mixed ok_spec_l9Make (by simp) (go_start _ _ _ ?_)
  obtain ⟨a, b, rfl, ha, hb⟩ := h.ro
  have hla := hg.la
  have n8 := hg.n8
  have l1 := hg.l1
  have l8 := hg.l8
  have hX := (Ext.refl m).one 26 [.int .i64 s.life, a, b, .int .i64 s.waste, .int .i64 s.lost]
  simp (config := {implicitDefEqProofs := false, maxDischargeDepth := 20}) (disch := first | omega | (simp only [lenE]; done) | (simp only [lenE]; omega) | rfl | (simp only [lenE, markR_len]; done) | (simp only [lenE, markR_len]; omega)) only [runE, mapE, listE, initT_5, initT_6, initT_7, initT_8, resV, oneV, binA, unA, reduceCtorEq, Nat.reduceEqDiff, Nat.reduceAdd, Nat.reduceLT, Nat.reduceLeDiff, Nat.reduceMul, Nat.reduceSub, ↓reduceIte, decide_true, decide_false, Bool.true_eq_false, Bool.false_eq_true, Bool.not_true, Bool.not_false, if_true, if_false, and_true, true_and, memE, celE, w64, Nat.zero_add, Nat.add_zero, Nat.mul_one, putL, and_self, ldn, c_spec_l9Make, r_spec_l9Make, hb.len]
  obtain ⟨M0, hM0⟩ : ∃ M0, M0 = roM m ++ [⟨.own, 26, [.int .i64 s.life, a, b, .int .i64 s.waste, .int .i64 s.lost]⟩] := ⟨_, rfl⟩
  have o1 : OwnB M0 m.length 26 [.int .i64 s.life, a, b, .int .i64 s.waste, .int .i64 s.lost] := by rw [hM0]; exact OwnB.here (by simp [roM_len])
  have hl0 : M0.length = m.length + 1 := by rw [hM0]; simp [roM_len]
  rw [← hM0] at hX ⊢
  refine callH_rc (l1Own_rc _ a s.arr (hX.ints ha) (by omega)) ?_
  intro r n1 hA
  obtain ⟨il, fl, rfl, gl, ol, -, nr1⟩ := hA.row
  replace hX := hX.app nr1
  replace o1 := o1.ext n1
  obtain ⟨M1, hM1⟩ : ∃ M1, M1 = M0 ++ n1 := ⟨_, rfl⟩
  rw [← hM1] at hX o1 ol ⊢
  have lol := ol.lt
  have hX0 := hX
  have hnil : TabX [] M1.length (M1 ++ [(⟨.own, 24, []⟩ : Blk)]).length (M1 ++ [⟨.own, 24, []⟩]) M1.length (fun _ => 0) (fun _ => 0) := by
    rw [List.length_append]
    exact tabX_nil (OwnB.here rfl) (Nat.le_refl _)
  simp (config := {implicitDefEqProofs := false, maxDischargeDepth := 20}) (disch := first | omega | (simp only [lenE]; done) | (simp only [lenE]; omega) | rfl | (simp only [lenE, markR_len]; done) | (simp only [lenE, markR_len]; omega)) only [runE, mapE, listE, initT_5, initT_6, initT_7, initT_8, resV, oneV, binA, unA, reduceCtorEq, Nat.reduceEqDiff, Nat.reduceAdd, Nat.reduceLT, Nat.reduceLeDiff, Nat.reduceMul, Nat.reduceSub, ↓reduceIte, decide_true, decide_false, Bool.true_eq_false, Bool.false_eq_true, Bool.not_true, Bool.not_false, if_true, if_false, and_true, true_and, memE, celE, w64, Nat.zero_add, Nat.add_zero, Nat.mul_one, putL, and_self, ldn, bsl_no]
  refine loop_inv mixed (fun s' => ∃ (t : Nat) (M : Mem) (id : Nat) (R F : Nat → Nat), t ≤ s.need.length ∧ s'.m = M ∧ Ext m M ∧ OwnB M m.length 26 [.int .i64 s.life, a, b, .int .i64 s.waste, .int .i64 s.lost] ∧ OwnR M il (allG s nw t).1 ∧ TabX (allG s nw t).2 M1.length M.length M id R F ∧ (∀ j, j < t → F j = 1) ∧
      s'.t 1 = .bool nw ∧ s'.t 2 = .pointer (some ⟨m.length, 0, none⟩) ∧ s'.t 5 = .int .i64 (s.need.length : Int) ∧ s'.t 6 = .slice (some ⟨il, 0, none⟩) s.arr.length fl ∧ s'.t 7 = .slice (some ⟨id, 0, none⟩) t 1 ∧ s'.t 8 = .int .i64 (t : Int)) (fun s' => s.need.length - (intOf (s'.t 8)).toNat)
    ⟨0, _, M1.length, _, _, by omega, rfl, hX.one _ _, o1.ext _, ol.ext _, hnil, fun j hj => absurd hj (by omega), rfl, rfl, rfl, rfl, rfl, rfl⟩ ?_
  rintro s' ⟨t, M, id, R, F, ht, tm, hX, o1, ol, hTX, hF1, t1, t2, t5, t6, t7, t8⟩
  by_cases hlt : t < s.need.length
  · have hlt' : (t : Int) < s.need.length := by omega
    have xb := hX.ints hb
    have zr : OwnR (M ++ [⟨.own, 3, List.replicate s.need.length (.int .i64 0)⟩]) M.length (List.replicate s.need.length 0) := OwnR.zeros rfl
    have xb' := (hX.one 3 (List.replicate s.need.length (.int .i64 0))).ints hb
    have ml : m.length < M.length := o1.lt
    have ill : il < M.length := ol.lt
    have tx := hTX.1
    have tx2 := hTX.2.1
    simp (config := {implicitDefEqProofs := false, maxDischargeDepth := 20}) (disch := first | omega | (simp only [lenE]; done) | (simp only [lenE]; omega) | rfl | (simp only [lenE, markR_len]; done) | (simp only [lenE, markR_len]; omega)) only [runE, mapE, listE, initT_5, initT_6, initT_7, initT_8, resV, oneV, binA, unA, reduceCtorEq, Nat.reduceEqDiff, Nat.reduceAdd, Nat.reduceLT, Nat.reduceLeDiff, Nat.reduceMul, Nat.reduceSub, ↓reduceIte, decide_true, decide_false, Bool.true_eq_false, Bool.false_eq_true, Bool.not_true, Bool.not_false, if_true, if_false, and_true, true_and, memE, celE, w64, Nat.zero_add, Nat.add_zero, Nat.mul_one, putL, and_self, ldn, tm, t1, t2, t5, t6, t7, t8, hlt', mksA_eq (byt := 8) (n := s.need.length) rfl (by omega), o1.rd, xb.at_ t hlt, xb'.ld t hlt]
    refine loop_inv mixed (fun s' => ∃ (k : Nat) (M' : Mem), k ≤ t + 1 ∧ s'.m = M' ∧ Ext m M' ∧ M'.length = M.length + 1 + (M'.length - M.length - 1) ∧ M.length < M'.length ∧ OwnB M' m.length 26 [.int .i64 s.life, a, b, .int .i64 s.waste, .int .i64 s.lost] ∧ OwnR M' il (gAt s nw t k).A ∧ OwnR M' M.length (gAt s nw t k).row ∧ TabX (allG s nw t).2 M1.length M.length M' id R F ∧
        s'.t 1 = .bool nw ∧ s'.t 2 = .pointer (some ⟨m.length, 0, none⟩) ∧ s'.t 5 = .int .i64 (s.need.length : Int) ∧ s'.t 6 = .slice (some ⟨il, 0, none⟩) s.arr.length fl ∧ s'.t 7 = .slice (some ⟨id, 0, none⟩) t 1 ∧ s'.t 8 = .int .i64 (t : Int) ∧ s'.t 9 = .slice (some ⟨M.length, 0, none⟩) s.need.length 1 ∧ s'.t 10 = .int .i64 (gAt s nw t k).r ∧ s'.t 11 = .int .i64 (k : Int)) (fun s' => t + 1 - (intOf (s'.t 11)).toNat)
      ⟨0, M ++ [⟨.own, 3, List.replicate s.need.length (.int .i64 0)⟩], by omega, rfl, hX.one _ _, by simp, by simp, o1.ext _, ol.ext _, zr, hTX.ext (Nat.le_refl _) _, (by first | exact t1 | simp only [put_t, put_t', put_m, putT_t, putT_t', putT_m, init_t, init_m, initT_0, initT_1, initT_2, initT_3, initT_4, initT_5, initT_6, initT_7, initT_8, Nat.reduceEqDiff, ↓reduceIte, t1]), (by first | exact t2 | simp only [put_t, put_t', put_m, putT_t, putT_t', putT_m, init_t, init_m, initT_0, initT_1, initT_2, initT_3, initT_4, initT_5, initT_6, initT_7, initT_8, Nat.reduceEqDiff, ↓reduceIte, t2]), (by first | exact t5 | simp only [put_t, put_t', put_m, putT_t, putT_t', putT_m, init_t, init_m, initT_0, initT_1, initT_2, initT_3, initT_4, initT_5, initT_6, initT_7, initT_8, Nat.reduceEqDiff, ↓reduceIte, t5]), (by first | exact t6 | simp only [put_t, put_t', put_m, putT_t, putT_t', putT_m, init_t, init_m, initT_0, initT_1, initT_2, initT_3, initT_4, initT_5, initT_6, initT_7, initT_8, Nat.reduceEqDiff, ↓reduceIte, t6]), (by first | exact t7 | simp only [put_t, put_t', put_m, putT_t, putT_t', putT_m, init_t, init_m, initT_0, initT_1, initT_2, initT_3, initT_4, initT_5, initT_6, initT_7, initT_8, Nat.reduceEqDiff, ↓reduceIte, t7]), (by first | exact t8 | simp only [put_t, put_t', put_m, putT_t, putT_t', putT_m, init_t, init_m, initT_0, initT_1, initT_2, initT_3, initT_4, initT_5, initT_6, initT_7, initT_8, Nat.reduceEqDiff, ↓reduceIte, t8]), rfl, rfl, rfl⟩ ?_
    clear tm t1 t2 t5 t6 t7 t8 xb' zr
    rintro s' ⟨k, M', hk, tm, hX', hML, hMl, o1', ol', or', hTX', t1, t2, t5, t6, t7, t8, t9, t10, t11⟩
    by_cases hkt : k ≤ t
    · have hkt' : (k : Int) ≤ t := by omega
      obtain ⟨f, hf⟩ : ∃ f, f = colO nw t k := ⟨_, rfl⟩
      have hft : f ≤ t := by rw [hf]; exact colO_le hkt
      have ok := gAt_ok hg nw hlt (k := k) (by omega)
      have okA := ok.la
      have okR := ok.lr
      have okr := ok.r
      have bA := ok.a f (by omega)
      cases nw with
      | true =>
        have ef : (t : Int) - k = (f : Int) := by rw [hf]; unfold colO; simp; omega
        simp (config := {implicitDefEqProofs := false, maxDischargeDepth := 20}) (disch := first | omega | (simp only [lenE]; done) | (simp only [lenE]; omega) | rfl | (simp only [lenE, markR_len]; done) | (simp only [lenE, markR_len]; omega)) only [runE, mapE, listE, initT_5, initT_6, initT_7, initT_8, resV, oneV, binA, unA, reduceCtorEq, Nat.reduceEqDiff, Nat.reduceAdd, Nat.reduceLT, Nat.reduceLeDiff, Nat.reduceMul, Nat.reduceSub, ↓reduceIte, decide_true, decide_false, Bool.true_eq_false, Bool.false_eq_true, Bool.not_true, Bool.not_false, if_true, if_false, and_true, true_and, memE, celE, w64, Nat.zero_add, Nat.add_zero, Nat.mul_one, putL, and_self, ldn, tm, t1, t2, t5, t6, t7, t8, t9, t10, t11, hkt', ef, o1'.rd]
        refine callH_rc (usable_rc M' _ s f t (ShA.mk (hX'.ints ha) (hX'.ints hb)) (by omega) ⟨by omega, l8⟩) ?_
        rintro r n2 ⟨rfl, nr2⟩
        cases hu : usB s.life f t with
        | false =>
          simp (config := {implicitDefEqProofs := false, maxDischargeDepth := 20}) (disch := first | omega | (simp only [lenE]; done) | (simp only [lenE]; omega) | rfl | (simp only [lenE, markR_len]; done) | (simp only [lenE, markR_len]; omega)) only [runE, mapE, listE, initT_5, initT_6, initT_7, initT_8, resV, oneV, binA, unA, reduceCtorEq, Nat.reduceEqDiff, Nat.reduceAdd, Nat.reduceLT, Nat.reduceLeDiff, Nat.reduceMul, Nat.reduceSub, ↓reduceIte, decide_true, decide_false, Bool.true_eq_false, Bool.false_eq_true, Bool.not_true, Bool.not_false, if_true, if_false, and_true, true_and, memE, celE, w64, Nat.zero_add, Nat.add_zero, Nat.mul_one, putL, and_self, ldn, tm, t1, t2, t5, t6, t7, t8, t9, t10, t11]
          have sk := gAt_skip hg (newest := true) hlt hkt (by rw [← hf]; exact hu)
          refine ⟨⟨k + 1, M' ++ n2, by omega, rfl, hX'.app nr2, by rw [List.length_append]; omega, by rw [List.length_append]; omega, o1'.ext _, by rw [sk]; exact ol'.ext _, by rw [sk]; exact or'.ext _, hTX'.ext (by omega) _, by rw [sk], by simp⟩, ?_⟩
          simp [intOf]; omega
        | true =>
          have hX2 := hX'.app nr2
          have o12 := o1'.ext n2
          have ol2 := ol'.ext n2
          have or2 := or'.ext n2
          have hTX2 := hTX'.ext (by omega) n2
          obtain ⟨M2, hM2⟩ : ∃ M2, M2 = M' ++ n2 := ⟨_, rfl⟩
          have M2l : M.length < M2.length := by rw [hM2, List.length_append]; omega
          have iA : iadA 1 (.slice (some ⟨il, 0, none⟩) s.arr.length fl) (.int .i64 (f : Int)) = some (.pointer (some ⟨il, f, none⟩)) := iad0 rfl (by omega)
          have iR : iadA 1 (.slice (some ⟨M.length, 0, none⟩) s.need.length 1) (.int .i64 (f : Int)) = some (.pointer (some ⟨M.length, f, none⟩)) := iad0 rfl (by omega)
          rw [← hM2] at hX2 o12 ol2 or2 hTX2
          have kA := ol2.rd' (i := f) (by omega)
          simp (config := {implicitDefEqProofs := false, maxDischargeDepth := 20}) (disch := first | omega | (simp only [lenE]; done) | (simp only [lenE]; omega) | rfl | (simp only [lenE, markR_len]; done) | (simp only [lenE, markR_len]; omega)) only [runE, mapE, listE, initT_5, initT_6, initT_7, initT_8, resV, oneV, binA, unA, reduceCtorEq, Nat.reduceEqDiff, Nat.reduceAdd, Nat.reduceLT, Nat.reduceLeDiff, Nat.reduceMul, Nat.reduceSub, ↓reduceIte, decide_true, decide_false, Bool.true_eq_false, Bool.false_eq_true, Bool.not_true, Bool.not_false, if_true, if_false, and_true, true_and, memE, celE, w64, Nat.zero_add, Nat.add_zero, Nat.mul_one, putL, and_self, ldn, tm, t1, t2, t5, t6, t7, t8, t9, t10, t11]
          rw [← hM2]
          simp (config := {implicitDefEqProofs := false, maxDischargeDepth := 20}) (disch := first | omega | (simp only [lenE]; done) | (simp only [lenE]; omega) | rfl | (simp only [lenE, markR_len]; done) | (simp only [lenE, markR_len]; omega)) only [runE, mapE, listE, initT_5, initT_6, initT_7, initT_8, resV, oneV, binA, unA, reduceCtorEq, Nat.reduceEqDiff, Nat.reduceAdd, Nat.reduceLT, Nat.reduceLeDiff, Nat.reduceMul, Nat.reduceSub, ↓reduceIte, decide_true, decide_false, Bool.true_eq_false, Bool.false_eq_true, Bool.not_true, Bool.not_false, if_true, if_false, and_true, true_and, memE, celE, w64, Nat.zero_add, Nat.add_zero, Nat.mul_one, putL, and_self, ldn, iA, kA]
          refine callH_rc (least9_rc _ _ _) ?_
          rintro r new ⟨rfl, rfl⟩
          rw [List.append_nil]
          obtain ⟨u, hu2⟩ : ∃ u, u = min (gAt s true t k).r ((gAt s true t k).A.getD f 0) := ⟨_, rfl⟩
          rw [← hu2]
          have etake : takeG s.life t f (gAt s true t k) = u := by unfold takeG; rw [hu, if_pos rfl, hu2]; omega
          have sR := or2.st (off := f) (x := u) (by omega)
          have or3 := or2.set_self (L' := (gAt s true t k).row.set f u)
          have ol3 : OwnR (M2.set M.length (Ab.rowB ((gAt s true t k).row.set f u))) il (gAt s true t k).A := ol2.set_ne (by omega)
          have kR : rdc (M2.set M.length (Ab.rowB ((gAt s true t k).row.set f u))) M.length f = some (.int .i64 u) := by
            have := or3.rd' (i := f) (by rw [List.length_set]; omega)
            rw [this, setD9 (by omega), if_pos rfl]
          have kA3 := ol3.rd' (i := f) (by omega)
          have sA := ol3.st (off := f) (x := (gAt s true t k).A.getD f 0 - u) (by omega)
          simp (config := {implicitDefEqProofs := false, maxDischargeDepth := 20}) (disch := first | omega | (simp only [lenE]; done) | (simp only [lenE]; omega) | rfl | (simp only [lenE, markR_len]; done) | (simp only [lenE, markR_len]; omega)) only [runE, mapE, listE, initT_5, initT_6, initT_7, initT_8, resV, oneV, binA, unA, reduceCtorEq, Nat.reduceEqDiff, Nat.reduceAdd, Nat.reduceLT, Nat.reduceLeDiff, Nat.reduceMul, Nat.reduceSub, ↓reduceIte, decide_true, decide_false, Bool.true_eq_false, Bool.false_eq_true, Bool.not_true, Bool.not_false, if_true, if_false, and_true, true_and, memE, celE, w64, Nat.zero_add, Nat.add_zero, Nat.mul_one, putL, and_self, ldn, t1, t2, t5, t6, t7, t8, t9, t10, t11, iR, iA, sR, kR, kA3, sA]
          have eg : gAt s true t (k + 1) = ⟨(gAt s true t k).A.set f ((gAt s true t k).A.getD f 0 - u), (gAt s true t k).r - u, (gAt s true t k).row.set f u⟩ := by
            rw [gAt_s, ← hf, stepG, etake]
          refine ⟨⟨k + 1, _, by omega, rfl, (hX2.put (by omega) _ _).put (by omega) _ _, by simp only [List.length_set]; omega, by simp only [List.length_set]; omega, (o12.set_ne (by omega) _).set_ne (by omega) _, ?_, ?_, ?_, by rw [eg], by simp⟩, ?_⟩
          · rw [eg]
            exact OwnR.set_self (L' := (gAt s true t k).A.set f ((gAt s true t k).A.getD f 0 - u)) ol3
          · rw [eg]
            exact OwnR.set_ne or3 (by omega)
          · exact hTX2.at_ fun i h1 h2 => by rw [List.getElem?_set_ne (by omega), List.getElem?_set_ne (by omega)]
          · simp [intOf]; omega
      | false =>
        obtain rfl : f = k := by rw [hf]; unfold colO; simp
        simp (config := {implicitDefEqProofs := false, maxDischargeDepth := 20}) (disch := first | omega | (simp only [lenE]; done) | (simp only [lenE]; omega) | rfl | (simp only [lenE, markR_len]; done) | (simp only [lenE, markR_len]; omega)) only [runE, mapE, listE, initT_5, initT_6, initT_7, initT_8, resV, oneV, binA, unA, reduceCtorEq, Nat.reduceEqDiff, Nat.reduceAdd, Nat.reduceLT, Nat.reduceLeDiff, Nat.reduceMul, Nat.reduceSub, ↓reduceIte, decide_true, decide_false, Bool.true_eq_false, Bool.false_eq_true, Bool.not_true, Bool.not_false, if_true, if_false, and_true, true_and, memE, celE, w64, Nat.zero_add, Nat.add_zero, Nat.mul_one, putL, and_self, ldn, tm, t1, t2, t5, t6, t7, t8, t9, t10, t11, hkt', o1'.rd]
        refine callH_rc (usable_rc M' _ s f t (ShA.mk (hX'.ints ha) (hX'.ints hb)) (by omega) ⟨by omega, l8⟩) ?_
        rintro r n2 ⟨rfl, nr2⟩
        cases hu : usB s.life f t with
        | false =>
          simp (config := {implicitDefEqProofs := false, maxDischargeDepth := 20}) (disch := first | omega | (simp only [lenE]; done) | (simp only [lenE]; omega) | rfl | (simp only [lenE, markR_len]; done) | (simp only [lenE, markR_len]; omega)) only [runE, mapE, listE, initT_5, initT_6, initT_7, initT_8, resV, oneV, binA, unA, reduceCtorEq, Nat.reduceEqDiff, Nat.reduceAdd, Nat.reduceLT, Nat.reduceLeDiff, Nat.reduceMul, Nat.reduceSub, ↓reduceIte, decide_true, decide_false, Bool.true_eq_false, Bool.false_eq_true, Bool.not_true, Bool.not_false, if_true, if_false, and_true, true_and, memE, celE, w64, Nat.zero_add, Nat.add_zero, Nat.mul_one, putL, and_self, ldn, tm, t1, t2, t5, t6, t7, t8, t9, t10, t11]
          have sk := gAt_skip hg (newest := false) hlt hkt (by rw [← hf]; exact hu)
          refine ⟨⟨f + 1, M' ++ n2, by omega, rfl, hX'.app nr2, by rw [List.length_append]; omega, by rw [List.length_append]; omega, o1'.ext _, by rw [sk]; exact ol'.ext _, by rw [sk]; exact or'.ext _, hTX'.ext (by omega) _, by rw [sk], by simp⟩, ?_⟩
          simp [intOf]; omega
        | true =>
          have hX2 := hX'.app nr2
          have o12 := o1'.ext n2
          have ol2 := ol'.ext n2
          have or2 := or'.ext n2
          have hTX2 := hTX'.ext (by omega) n2
          obtain ⟨M2, hM2⟩ : ∃ M2, M2 = M' ++ n2 := ⟨_, rfl⟩
          have M2l : M.length < M2.length := by rw [hM2, List.length_append]; omega
          have iA : iadA 1 (.slice (some ⟨il, 0, none⟩) s.arr.length fl) (.int .i64 (f : Int)) = some (.pointer (some ⟨il, f, none⟩)) := iad0 rfl (by omega)
          have iR : iadA 1 (.slice (some ⟨M.length, 0, none⟩) s.need.length 1) (.int .i64 (f : Int)) = some (.pointer (some ⟨M.length, f, none⟩)) := iad0 rfl (by omega)
          rw [← hM2] at hX2 o12 ol2 or2 hTX2
          have kA := ol2.rd' (i := f) (by omega)
          simp (config := {implicitDefEqProofs := false, maxDischargeDepth := 20}) (disch := first | omega | (simp only [lenE]; done) | (simp only [lenE]; omega) | rfl | (simp only [lenE, markR_len]; done) | (simp only [lenE, markR_len]; omega)) only [runE, mapE, listE, initT_5, initT_6, initT_7, initT_8, resV, oneV, binA, unA, reduceCtorEq, Nat.reduceEqDiff, Nat.reduceAdd, Nat.reduceLT, Nat.reduceLeDiff, Nat.reduceMul, Nat.reduceSub, ↓reduceIte, decide_true, decide_false, Bool.true_eq_false, Bool.false_eq_true, Bool.not_true, Bool.not_false, if_true, if_false, and_true, true_and, memE, celE, w64, Nat.zero_add, Nat.add_zero, Nat.mul_one, putL, and_self, ldn, tm, t1, t2, t5, t6, t7, t8, t9, t10, t11]
          rw [← hM2]
          simp (config := {implicitDefEqProofs := false, maxDischargeDepth := 20}) (disch := first | omega | (simp only [lenE]; done) | (simp only [lenE]; omega) | rfl | (simp only [lenE, markR_len]; done) | (simp only [lenE, markR_len]; omega)) only [runE, mapE, listE, initT_5, initT_6, initT_7, initT_8, resV, oneV, binA, unA, reduceCtorEq, Nat.reduceEqDiff, Nat.reduceAdd, Nat.reduceLT, Nat.reduceLeDiff, Nat.reduceMul, Nat.reduceSub, ↓reduceIte, decide_true, decide_false, Bool.true_eq_false, Bool.false_eq_true, Bool.not_true, Bool.not_false, if_true, if_false, and_true, true_and, memE, celE, w64, Nat.zero_add, Nat.add_zero, Nat.mul_one, putL, and_self, ldn, iA, kA]
          refine callH_rc (least9_rc _ _ _) ?_
          rintro r new ⟨rfl, rfl⟩
          rw [List.append_nil]
          obtain ⟨u, hu2⟩ : ∃ u, u = min (gAt s false t f).r ((gAt s false t f).A.getD f 0) := ⟨_, rfl⟩
          rw [← hu2]
          have etake : takeG s.life t f (gAt s false t f) = u := by unfold takeG; rw [hu, if_pos rfl, hu2]; omega
          have sR := or2.st (off := f) (x := u) (by omega)
          have or3 := or2.set_self (L' := (gAt s false t f).row.set f u)
          have ol3 : OwnR (M2.set M.length (Ab.rowB ((gAt s false t f).row.set f u))) il (gAt s false t f).A := ol2.set_ne (by omega)
          have kR : rdc (M2.set M.length (Ab.rowB ((gAt s false t f).row.set f u))) M.length f = some (.int .i64 u) := by
            have := or3.rd' (i := f) (by rw [List.length_set]; omega)
            rw [this, setD9 (by omega), if_pos rfl]
          have kA3 := ol3.rd' (i := f) (by omega)
          have sA := ol3.st (off := f) (x := (gAt s false t f).A.getD f 0 - u) (by omega)
          simp (config := {implicitDefEqProofs := false, maxDischargeDepth := 20}) (disch := first | omega | (simp only [lenE]; done) | (simp only [lenE]; omega) | rfl | (simp only [lenE, markR_len]; done) | (simp only [lenE, markR_len]; omega)) only [runE, mapE, listE, initT_5, initT_6, initT_7, initT_8, resV, oneV, binA, unA, reduceCtorEq, Nat.reduceEqDiff, Nat.reduceAdd, Nat.reduceLT, Nat.reduceLeDiff, Nat.reduceMul, Nat.reduceSub, ↓reduceIte, decide_true, decide_false, Bool.true_eq_false, Bool.false_eq_true, Bool.not_true, Bool.not_false, if_true, if_false, and_true, true_and, memE, celE, w64, Nat.zero_add, Nat.add_zero, Nat.mul_one, putL, and_self, ldn, t1, t2, t5, t6, t7, t8, t9, t10, t11, iR, iA, sR, kR, kA3, sA]
          have eg : gAt s false t (f + 1) = ⟨(gAt s false t f).A.set f ((gAt s false t f).A.getD f 0 - u), (gAt s false t f).r - u, (gAt s false t f).row.set f u⟩ := by
            rw [gAt_s, ← hf, stepG, etake]
          refine ⟨⟨f + 1, _, by omega, rfl, (hX2.put (by omega) _ _).put (by omega) _ _, by simp only [List.length_set]; omega, by simp only [List.length_set]; omega, (o12.set_ne (by omega) _).set_ne (by omega) _, ?_, ?_, ?_, by rw [eg], by simp⟩, ?_⟩
          · rw [eg]
            exact OwnR.set_self (L' := (gAt s false t f).A.set f ((gAt s false t f).A.getD f 0 - u)) ol3
          · rw [eg]
            exact OwnR.set_ne or3 (by omega)
          · exact hTX2.at_ fun i h1 h2 => by rw [List.getElem?_set_ne (by omega), List.getElem?_set_ne (by omega)]
          · simp [intOf]; omega
    · have hkt' : ¬ ((k : Int) ≤ t) := by omega
      have e : k = t + 1 := by omega
      subst e
      have ok := gAt_ok hg nw hlt (k := t + 1) (Nat.le_refl _)
      have okR := ok.lr
      have happ := app_back (e := 24) (sz := 1) (byt := 24) (n := t) (id2 := M'.length) (ys := [.slice (some ⟨M.length, 0, none⟩) s.need.length 1]) hTX'.2.2.1 rfl (by rw [rowsC_len, allG_len]; omega) rfl (by rfl) (by omega) (by omega)
      simp (config := {implicitDefEqProofs := false, maxDischargeDepth := 20}) (disch := first | omega | (simp only [lenE]; done) | (simp only [lenE]; omega) | rfl | (simp only [lenE, markR_len]; done) | (simp only [lenE, markR_len]; omega)) only [runE, mapE, listE, initT_5, initT_6, initT_7, initT_8, resV, oneV, binA, unA, reduceCtorEq, Nat.reduceEqDiff, Nat.reduceAdd, Nat.reduceLT, Nat.reduceLeDiff, Nat.reduceMul, Nat.reduceSub, ↓reduceIte, decide_true, decide_false, Bool.true_eq_false, Bool.false_eq_true, Bool.not_true, Bool.not_false, if_true, if_false, and_true, true_and, memE, celE, w64, Nat.zero_add, Nat.add_zero, Nat.mul_one, putL, and_self, ldn, tm, t1, t2, t5, t6, t7, t8, t9, t10, t11, hkt', bsl_sl', happ]
      have hidl := hTX'.2.2.1.lt
      have lr := or'.lt
      have lo := ol'.lt
      have hFs : ∀ j, j < t + 1 → (if j < (allG s nw t).2.length then F j else 1) = 1 := fun j hj => by
        rw [allG_len]
        split
        · exact hF1 j ‹_›
        · rfl
      refine ⟨⟨t + 1, _, M'.length + 1, fun j => if j < (allG s nw t).2.length then R j else M.length, fun j => if j < (allG s nw t).2.length then F j else 1, by omega, rfl, ((hX'.dead (by omega)).one _ _).one _ _, ?_, ?_, ?_, hFs, rfl, by simp⟩, ?_⟩
      · exact o1'.at_ (by rw [List.append_assoc, List.getElem?_append_left (by rw [List.length_set]; exact o1'.lt), List.getElem?_set_ne (by omega)])
      · rw [allG_s]
        exact ol'.at_ (by rw [List.append_assoc, List.getElem?_append_left (by rw [List.length_set]; exact lo), List.getElem?_set_ne (by omega)])
      · rw [allG_s]
        refine tabX_snoc (rid := M.length) (f := 1) hTX' (fun i h1 h2 h3 => ?_) (by omega) (by simp) ?_ (by omega) (by simp; omega) ?_ (by simp; omega)
        · rw [List.append_assoc, List.getElem?_append_left (by rw [List.length_set]; omega), List.getElem?_set_ne (by omega)]
        · rw [okR]
          exact OwnB.here (by simp)
        · exact or'.at_ (by rw [List.append_assoc, List.getElem?_append_left (by rw [List.length_set]; exact lr), List.getElem?_set_ne (by omega)])
      · simp [intOf]; omega
  · have hlt' : ¬ ((t : Int) < s.need.length) := by omega
    have e : t = s.need.length := by omega
    subst e
    simp (config := {implicitDefEqProofs := false, maxDischargeDepth := 20}) (disch := first | omega | (simp only [lenE]; done) | (simp only [lenE]; omega) | rfl | (simp only [lenE, markR_len]; done) | (simp only [lenE, markR_len]; omega)) only [runE, mapE, listE, initT_5, initT_6, initT_7, initT_8, resV, oneV, binA, unA, reduceCtorEq, Nat.reduceEqDiff, Nat.reduceAdd, Nat.reduceLT, Nat.reduceLeDiff, Nat.reduceMul, Nat.reduceSub, ↓reduceIte, decide_true, decide_false, Bool.true_eq_false, Bool.false_eq_true, Bool.not_true, Bool.not_false, if_true, if_false, and_true, true_and, memE, celE, w64, Nat.zero_add, Nat.add_zero, Nat.mul_one, putL, and_self, ldn, tm, t1, t2, t5, t6, t7, t8, hlt']
    obtain ⟨q1, q2, q3⟩ := allG_ok hg nw s.need.length (Nat.le_refl _)
    have ql := allG_len s nw s.need.length
    have hl1 := hX.len
    obtain ⟨n0, e0, h0⟩ := hX
    refine ⟨n0, e0, h0, h0, id, M1.length, R, F, by rw [ql], by have := hX0.len; omega, ?_, fun j hj => hF1 j (by rw [ql] at hj; exact hj)⟩
    have lM : (m ++ n0).length = M.length := by rw [e0]; simp [roM_len]
    rw [lM]
    refine hTX.at_ fun i h1 h2 => ?_
    rw [e0, List.getElem?_append_right (by have := hX0.len; omega), List.getElem?_append_right (by rw [roM_len]; have := hX0.len; omega), roM_len]
theorem allG_val {s : Sh} (hg : GoodSh s) (nw : Bool) (t : Nat) (ht : t ≤ s.need.length) : ∀ j f, j < t → f < s.need.length → 0 ≤ ((allG s nw t).2.getD j []).getD f 0 ∧ ((allG s nw t).2.getD j []).getD f 0 ≤ 20 := by
  induction t with
  | zero => intro j f hj; omega
  | succ t ih =>
    intro j f hj hf
    rw [allG_s]
    by_cases e : j < t
    · rw [List.getD_eq_getElem?_getD (l := _ ++ _), List.getElem?_append_left (by rw [allG_len]; exact e), ← List.getD_eq_getElem?_getD]
      exact ih (by omega) j f e hf
    · rw [List.getD_eq_getElem?_getD (l := _ ++ _), List.getElem?_append_right (by rw [allG_len]; omega), allG_len, show j - t = 0 by omega]
      exact (gAt_ok hg nw (t := t) (k := t + 1) (by omega) (Nat.le_refl _)).row f hf
structure IT (M0 M : Mem) (cb id a : Nat) (l : List Int) (T : List (List Int)) (n tid lo : Nat) (R : Nat → Nat) (b : Int) : Prop where
  hid : id < M0.length
  hcb : cb < M0.length
  cw : Cw id M0 M
  cur : CurA M cb l id a
  tab : TabX T lo M.length M tid R (fun _ => 1)
  ge : M0.length ≤ lo
  len : T.length = n
  row : ∀ j, j < n → (T.getD j []).length = n
  val : ∀ j f, j < n → f < n → -b ≤ (T.getD j []).getD f 0 ∧ (T.getD j []).getD f 0 ≤ b
section
variable {M0 M M2 : Mem} {cb id a a2 n tid lo : Nat} {l : List Int} {T : List (List Int)} {R : Nat → Nat} {b b' : Int}
theorem IT.draw (h : IT M0 M cb id a l T n tid lo R b) (w : Cw id M M2) (k : CurA M2 cb l id a2) : IT M0 M2 cb id a2 l T n tid lo R b :=
  ⟨h.hid, h.hcb, Cw.trans h.hid h.cw w, k, (h.tab.at_ (M' := M2) fun i h1 h2 => w.old i (by have := h.hid; have := h.ge; omega) h2).wider w.len, h.ge, h.len, h.row, h.val⟩
theorem IT.more (h : IT M0 M cb id a l T n tid lo R b) (hb : b ≤ b') : IT M0 M cb id a l T n tid lo R b' :=
  ⟨h.hid, h.hcb, h.cw, h.cur, h.tab, h.ge, h.len, h.row, fun j f hj hf => by have := h.val j f hj hf; omega⟩
theorem IT.rd (h : IT M0 M cb id a l T n tid lo R b) {j : Nat} (hj : j < n) : rdc M tid j = some (.slice (some ⟨R j, 0, none⟩) n 1) := by
  have := h.tab.2.2.1.rd j
  rw [this, rowsC_at (by rw [h.len]; exact hj), h.row j hj]
theorem IT.own (h : IT M0 M cb id a l T n tid lo R b) {j : Nat} (hj : j < n) : OwnR M (R j) (T.getD j []) := (h.tab.2.2.2.1 j (by rw [h.len]; exact hj)).2.2
theorem IT.rd2 (h : IT M0 M cb id a l T n tid lo R b) {j f : Nat} (hj : j < n) (hf : f < n) : rdc M (R j) f = some (.int .i64 ((T.getD j []).getD f 0)) := (h.own hj).rd' (by rw [h.row j hj]; exact hf)
theorem IT.put (h : IT M0 M cb id a l T n tid lo R b) {j f : Nat} (hj : j < n) (hf : f < n) (x : Int) (hb : b ≤ b') (hx : -b' ≤ x ∧ x ≤ b') : ∃ M2 T2, stA M (R j) f [.int .i64 x] = some M2 ∧ IT M0 M2 cb id a l T2 n tid lo R b' := by
  have hjT : j < T.length := by rw [h.len]; exact hj
  have q := (h.tab.2.2.2.1 j hjT).1
  have hge := h.ge
  have hid := h.hid
  have hcb := h.hcb
  have gd : ∀ i, (T.set j ((T.getD j []).set f x)).getD i [] = if i = j then (T.getD j []).set f x else T.getD i [] := fun i => by
    by_cases e : i = j
    · subst e
      rw [if_pos rfl, List.getD_eq_getElem?_getD, List.getElem?_set_self hjT]; rfl
    · rw [if_neg e, List.getD_eq_getElem?_getD, List.getElem?_set_ne (Ne.symm e), ← List.getD_eq_getElem?_getD]
  refine ⟨_, T.set j ((T.getD j []).set f x), (h.own hj).st (by rw [h.row j hj]; exact hf), hid, hcb, h.cw.put (by omega) (by simp), h.cur.put (by omega) (by omega) _, ?_, hge, by rw [List.length_set]; exact h.len, fun i hi => ?_, fun i g hi hg => ?_⟩
  · have := tabX_put h.tab hjT (r := (T.getD j []).set f x) (by rw [List.length_set])
    simpa using this
  · rw [gd]
    split
    · rw [List.length_set]; exact h.row j hj
    · exact h.row i hi
  · rw [gd]
    split
    · rw [setD9 (by rw [h.row j hj]; exact hf)]
      split
      · exact hx
      · have := h.val j g hj hg; omega
    · have := h.val i g hi hg; omega
end
def LivesT (lo : Nat) (M : Mem) (v : Value) (T : List (List Int)) : Prop := ∀ M3 : Mem, (∀ i, lo ≤ i → i < M.length → M3[i]? = M[i]?) → TabA M3 v T
theorem LivesT.here {lo : Nat} {M : Mem} {v : Value} {T : List (List Int)} (h : LivesT lo M v T) : TabA M v T := h M fun _ _ _ => rfl
theorem LivesT.cw {lo id : Nat} {M M' : Mem} {v : Value} {T : List (List Int)} (h : LivesT lo M v T) (hid : id < lo) (c : Cw id M M') : LivesT lo M' v T := fun M3 h3 =>
  h M3 fun i h1 h2 => (h3 i h1 (Nat.lt_of_lt_of_le h2 c.len)).trans (c.old i (by omega) h2)
theorem LivesT.up {lo : Nat} {M M' : Mem} {v : Value} {T : List (List Int)} (h : LivesT lo M v T) (hl : M.length ≤ M'.length) (he : ∀ i, lo ≤ i → i < M.length → M'[i]? = M[i]?) : LivesT lo M' v T := fun M3 h3 =>
  h M3 fun i h1 h2 => (h3 i h1 (by omega)).trans (he i h1 h2)
theorem tabX_lives {M : Mem} {T : List (List Int)} {lo lo' tid fl n : Nat} {R F : Nat → Nat} (h : TabX T lo M.length M tid R F) (hlo : lo' ≤ lo) (hl : T.length ≤ 8) (hr : ∀ j, j < T.length → (T.getD j []).length ≤ 9) (hn : n = T.length) : LivesT lo' M (.slice (some ⟨tid, 0, none⟩) n fl) T := fun M3 h3 => by
  subst hn
  have t3 : TabX T lo M.length M3 tid R F := h.at_ fun i h1 h2 => h3 i (by omega) h2
  have := tsz_bd9 (T := T) (n := 9) hr
  exact (t3.obj (fl := fl) (by omega) (by have : T.length * 9 ≤ 8 * 9 := Nat.mul_le_mul_right 9 hl; omega)).in
theorem IT.app {M0 M : Mem} {cb id a n tid lo : Nat} {l : List Int} {T : List (List Int)} {R : Nat → Nat} {b : Int} (h : IT M0 M cb id a l T n tid lo R b) (h0 : 0 < n) (h8 : n ≤ 8) (x : Int) : ∃ M1 M2 T2,
    appP (M ++ [⟨.own, 3, [.int .i64 x]⟩]) 3 1 8 (.slice (some ⟨R 0, 0, none⟩) n 1) (.slice (some ⟨M.length, 0, none⟩) 1 1) = some (.slice (some ⟨M.length + 1, 0, none⟩) (n + 1) 1, M1) ∧
    stA M1 tid 0 [.slice (some ⟨M.length + 1, 0, none⟩) (n + 1) 1] = some M2 ∧ LivesT M0.length M2 (.slice (some ⟨tid, 0, none⟩) n 1) T2 ∧ Cw id M0 M2 ∧ CurA M2 cb l id a := by
  have hlen := h.len
  have hr0 := h.row 0 h0
  obtain ⟨r, T', rfl⟩ : ∃ r T', T = r :: T' := by
    cases T with
    | nil => simp at hlen; omega
    | cons r T' => exact ⟨r, T', rfl⟩
  have hrn : r.length = n := by simpa using hr0
  have hge := h.ge
  have hid := h.hid
  have hcb := h.hcb
  have hcl := h.cw.len
  have tq := h.tab
  obtain ⟨g1, g2, g3⟩ := tq.2.2.2.1 0 (by simp)
  have g3' : OwnR M (R 0) r := by simpa using g3
  have gr : Gr M (.slice (some ⟨R 0, 0, none⟩) n 1) r (R 0) := .inr ⟨by rw [hrn], fun e => by rw [e] at hrn; simp at hrn; omega, g3'⟩
  obtain ⟨M1, a1, a2, a3, a4, a5⟩ := gr.app (by omega) x
  rw [hrn] at a1
  have ne : R 0 ≠ tid := fun e => by
    have c' : M[R 0]? = some (Ab.rowB r) := g3'
    have d : M[tid]? = some ⟨.own, 24, rowsC (r :: T') R (fun _ => 1)⟩ := tq.2.2.1
    rw [e, d] at c'
    cases c'
  have tl : tid < M.length := tq.2.1
  have b1 : OwnB M1 tid 24 (rowsC (r :: T') R (fun _ => 1)) := tq.2.2.1.at_ (a4 tid tl fun _ => Ne.symm ne)
  have same : ∀ i, i < M0.length → M1[i]? = M[i]? := fun i hi => a4 i (by omega) fun _ => by omega
  have cw1 : Cw id M0 M1 := ⟨by omega, fun i e hi => (same i hi).trans (h.cw.old i e hi), fun i bk hi hb => by
    by_cases e : i < M.length
    · by_cases e2 : i = R 0
      · exact a5 i bk (.inl ⟨e2, fun e => by rw [e] at hrn; simp at hrn; omega⟩) hb
      · rw [a4 i e fun _ => e2] at hb
        exact h.cw.new i bk hi hb
    · exact a5 i bk (.inr (by omega)) hb⟩
  have k1 : CurA M1 cb l id a := by
    obtain ⟨sd, hb⟩ := h.cur.box
    exact ⟨(same cb hcb).trans h.cur.code, h.cur.byte, h.cur.few, sd, (same id hid).trans hb⟩
  have ez : rowsC (r :: T') R (fun _ => 1) = .slice (some ⟨R 0, 0, none⟩) r.length 1 :: rowsC T' (fun j => R (j + 1)) (fun _ => 1) := by
    unfold rowsC
    rw [List.length_cons, List.range_succ_eq_map, List.map_cons, List.map_map]
    rfl
  have ez' : ∀ rid (r' : List Int), rowsC (r' :: T') (fun j => if j = 0 then rid else R j) (fun _ => 1) = .slice (some ⟨rid, 0, none⟩) r'.length 1 :: rowsC T' (fun j => R (j + 1)) (fun _ => 1) := fun rid r' => by
    unfold rowsC
    rw [List.length_cons, List.range_succ_eq_map, List.map_cons, List.map_map]
    rfl
  have st := b1.st (off := 0) (vs := [.slice (some ⟨M.length + 1, 0, none⟩) (n + 1) 1]) (by rw [ez]; simp) rfl
  refine ⟨M1, _, (r ++ [x]) :: T', a1, st, ?_, cw1.put (by have := tq.1; omega) (by simp), k1.put (by have := tq.1; omega) (by have := tq.1; omega) _⟩
  have TX : TabX ((r ++ [x]) :: T') lo (M1.set tid ⟨.own, 24, putL (rowsC (r :: T') R (fun _ => 1)) 0 [.slice (some ⟨M.length + 1, 0, none⟩) (n + 1) 1]⟩).length (M1.set tid ⟨.own, 24, putL (rowsC (r :: T') R (fun _ => 1)) 0 [.slice (some ⟨M.length + 1, 0, none⟩) (n + 1) 1]⟩) tid (fun j => if j = 0 then M.length + 1 else R j) (fun _ => 1) := by
    refine ⟨tq.1, by rw [List.length_set]; omega, ?_, fun j hj => ?_, fun i j hi hj he => ?_⟩
    · have : rowsC ((r ++ [x]) :: T') (fun j => if j = 0 then M.length + 1 else R j) (fun _ => 1) = putL (rowsC (r :: T') R (fun _ => 1)) 0 [.slice (some ⟨M.length + 1, 0, none⟩) (n + 1) 1] := by
        rw [ez', ez, List.length_append, hrn]
        rfl
      rw [this]
      exact b1.set_self _ _
    · rw [List.length_set]
      by_cases e : j = 0
      · subst e
        simp only [if_pos]
        exact ⟨by have := tq.1; omega, by omega, by simpa using a3.at_ (List.getElem?_set_ne (by omega))⟩
      · simp only [if_neg e]
        obtain ⟨c1, c2, c3⟩ := tq.2.2.2.1 j (by simpa using hj)
        have hne0 : R j ≠ R 0 := fun e2 => e (tq.2.2.2.2 j 0 (by simpa using hj) (by simp) e2)
        have hnt : R j ≠ tid := fun e2 => by
          have c' : M[R j]? = some (Ab.rowB ((r :: T').getD j [])) := c3
          have d : M[tid]? = some ⟨.own, 24, rowsC (r :: T') R (fun _ => 1)⟩ := tq.2.2.1
          rw [e2, d] at c'
          cases c'
        refine ⟨c1, by omega, ?_⟩
        have ej : ((r ++ [x]) :: T').getD j [] = (r :: T').getD j [] := by
          cases j with
          | zero => exact absurd rfl e
          | succ j => rfl
        rw [ej]
        exact c3.at_ (by rw [List.getElem?_set_ne (Ne.symm hnt)]; exact a4 (R j) c2 fun _ => hne0)
    · by_cases e1 : i = 0
      · by_cases e2 : j = 0
        · omega
        · simp only [if_pos e1, if_neg e2] at he
          have := (tq.2.2.2.1 j (by simpa using hj)).2.1
          omega
      · by_cases e2 : j = 0
        · simp only [if_neg e1, if_pos e2] at he
          have := (tq.2.2.2.1 i (by simpa using hi)).2.1
          omega
        · simp only [if_neg e1, if_neg e2] at he
          exact tq.2.2.2.2 i j (by simpa using hi) (by simpa using hj) he
  refine tabX_lives TX hge (by simp at hlen ⊢; omega) (fun j hj => ?_) (by simp at hlen ⊢; omega)
  cases j with
  | zero => simp; omega
  | succ j =>
    have := h.row (j + 1) (by simp at hj hlen; omega)
    simp at this ⊢
    omega

theorem rowsC_one {T : List (List Int)} {R F : Nat → Nat} (h : ∀ j, j < T.length → F j = 1) : rowsC T R F = rowsC T R (fun _ => 1) := by
  unfold rowsC
  exact List.map_congr_left fun j hj => by rw [h j (List.mem_range.1 hj)]
theorem one_lives {M M3 : Mem} {lo : Nat} (hlo : lo ≤ M.length) : LivesT lo (M ++ [⟨.own, 3, [.int .i64 0]⟩] ++ [⟨.own, 24, [.slice (some ⟨M.length, 0, none⟩) 1 1]⟩]) (.slice (some ⟨M.length + 1, 0, none⟩) 1 1) [[0]] := fun M3 h3 => by
  have q1 := h3 M.length hlo (by simp)
  have q2 := h3 (M.length + 1) (by omega) (by simp)
  rw [List.getElem?_append_left (by simp), List.getElem?_append_right (by simp)] at q1
  rw [List.getElem?_append_right (by simp)] at q2
  simp at q1 q2
  have o1 : OwnR M3 M.length [0] := q1
  have o2 : OwnB M3 (M.length + 1) 24 [.slice (some ⟨M.length, 0, none⟩) 1 1] := q2
  exact TabA.blk (T := [[0]]) (by simp) fun k hk => by
    have : k = 0 := by simp at hk; omega
    subst this
    exact ⟨_, by rw [o2.rd]; rfl, o1.ints (by simp) 1⟩
set_option maxHeartbeats 8000000 in
theorem issue_ac (M : Mem) (cb id a lo0 : Nat) (l : List Int) (v : Value) (s : Sh) (h : CurA M cb l id a) (ha : a ≤ 999000000) (lv : LivesSh lo0 M v s) (hlo : id < lo0) :
    AC Try.prog 68 [.pointer (some ⟨id, 0, none⟩), v] M fun r M' => ∃ T : List (List Int), LivesT M.length M' r T ∧ Cw id M M' ∧ ∃ a', a' ≤ a + 1000 ∧ CurA M' cb l id a' := by
  refine ac_of_run mixed ok_spec_l1Cur__issue (by simp) (go_start _ _ _ ?_)
  have hid := h.lt
  have hcb := h.cblt
  obtain ⟨u, w, rfl, -, -⟩ := lv.here
  have sh := fun (P : Mem) (c : Cw id M P) => (lv.cw hlo c).here
  obtain ⟨E, hE⟩ : ∃ E, E = M ++ [⟨.own, 26, [.int .i64 s.life, u, w, .int .i64 s.waste, .int .i64 s.lost]⟩] := ⟨_, rfl⟩
  have bE : OwnB E M.length 26 [.int .i64 s.life, u, w, .int .i64 s.waste, .int .i64 s.lost] := by rw [hE]; exact OwnB.here rfl
  have wE : Cw id M E := by rw [hE]; exact (Cw.refl id M).ext (noRo_own noRo_nil)
  have kE : CurA E cb l id a := by rw [hE]; exact h.ext _
  have bE2 := bE
  rw [hE] at bE2
  simp (config := {implicitDefEqProofs := false, maxDischargeDepth := 20}) (disch := first | omega | (simp only [lenE]; done) | (simp only [lenE]; omega) | rfl | (simp only [lenE, markR_len]; done) | (simp only [lenE, markR_len]; omega)) only [runE, mapE, listE, initT_5, initT_6, initT_7, initT_8, resV, oneV, binA, unA, reduceCtorEq, Nat.reduceEqDiff, Nat.reduceAdd, Nat.reduceLT, Nat.reduceLeDiff, Nat.reduceMul, Nat.reduceSub, ↓reduceIte, decide_true, decide_false, Bool.true_eq_false, Bool.false_eq_true, Bool.not_true, Bool.not_false, if_true, if_false, and_true, true_and, memE, celE, w64, Nat.zero_add, Nat.add_zero, Nat.mul_one, putL, and_self, ldn, c_spec_l1Cur__issue, r_spec_l1Cur__issue, bE2.rd]
  rw [← hE]
  clear bE2 hE
  refine callH_rc (l9Good_rc E _ s (sh E wE)) ?_
  rintro r n1 ⟨rfl, nr1⟩
  have wE1 := wE.ext nr1
  have kE1 := kE.ext n1
  have bE1 := bE.ext n1
  obtain ⟨E1, hE1⟩ : ∃ E1, E1 = E ++ n1 := ⟨_, rfl⟩
  rw [← hE1] at wE1 kE1 bE1 ⊢
  clear hE1 nr1 bE kE wE
  cases hg : s.good with
  | false =>
    simp (config := {implicitDefEqProofs := false, maxDischargeDepth := 20}) (disch := first | omega | (simp only [lenE]; done) | (simp only [lenE]; omega) | rfl | (simp only [lenE, markR_len]; done) | (simp only [lenE, markR_len]; omega)) only [runE, mapE, listE, initT_5, initT_6, initT_7, initT_8, resV, oneV, binA, unA, reduceCtorEq, Nat.reduceEqDiff, Nat.reduceAdd, Nat.reduceLT, Nat.reduceLeDiff, Nat.reduceMul, Nat.reduceSub, ↓reduceIte, decide_true, decide_false, Bool.true_eq_false, Bool.false_eq_true, Bool.not_true, Bool.not_false, if_true, if_false, and_true, true_and, memE, celE, w64, Nat.zero_add, Nat.add_zero, Nat.mul_one, putL, and_self, ldn, bsl_one, bsl_sl']
    exact ⟨[[0]], one_lives (M3 := []) wE1.len, (wE1.ext (noRo_own noRo_nil)).ext (noRo_own noRo_nil), a, by omega, (kE1.ext _).ext _⟩
  | true =>
    have gd := goodSh_iff.1 hg
    have n8 := gd.n8
    simp (config := {implicitDefEqProofs := false, maxDischargeDepth := 20}) (disch := first | omega | (simp only [lenE]; done) | (simp only [lenE]; omega) | rfl | (simp only [lenE, markR_len]; done) | (simp only [lenE, markR_len]; omega)) only [runE, mapE, listE, initT_5, initT_6, initT_7, initT_8, resV, oneV, binA, unA, reduceCtorEq, Nat.reduceEqDiff, Nat.reduceAdd, Nat.reduceLT, Nat.reduceLeDiff, Nat.reduceMul, Nat.reduceSub, ↓reduceIte, decide_true, decide_false, Bool.true_eq_false, Bool.false_eq_true, Bool.not_true, Bool.not_false, if_true, if_false, and_true, true_and, memE, celE, w64, Nat.zero_add, Nat.add_zero, Nat.mul_one, putL, and_self, ldn, bE1.rd, hg]
    with_reducible refine ⟨?_, ?_⟩
    all_goals
      refine callH_ac (one_ac E1 cb id a l 2 kE1 (by omega) (by omega) (by omega)) ?_
      rintro r E2 ⟨nw, rfl, c2, a2, ha2, k2⟩
      have w2 := Cw.trans hid wE1 c2
      have b2 : OwnB E2 M.length 26 [.int .i64 s.life, u, w, .int .i64 s.waste, .int .i64 s.lost] := bE1.at_ (c2.old M.length (by omega) bE1.lt)
      simp (config := {implicitDefEqProofs := false, maxDischargeDepth := 20}) (disch := first | omega | (simp only [lenE]; done) | (simp only [lenE]; omega) | rfl | (simp only [lenE, markR_len]; done) | (simp only [lenE, markR_len]; omega)) only [runE, mapE, listE, initT_5, initT_6, initT_7, initT_8, resV, oneV, binA, unA, reduceCtorEq, Nat.reduceEqDiff, Nat.reduceAdd, Nat.reduceLT, Nat.reduceLeDiff, Nat.reduceMul, Nat.reduceSub, ↓reduceIte, decide_true, decide_false, Bool.true_eq_false, Bool.false_eq_true, Bool.not_true, Bool.not_false, if_true, if_false, and_true, true_and, memE, celE, w64, Nat.zero_add, Nat.add_zero, Nat.mul_one, putL, and_self, ldn, b2.rd]
      refine rcallH_rc (l9MakeX_rc E2 _ s nw (sh E2 w2) gd) ?_
      rintro r n2 ⟨nr2, tid, lo, R, F, rfl, hlo2, TX, hF⟩
      have q3 := (allG_ok gd nw s.need.length (Nat.le_refl _)).2.2
      have qv := allG_val gd nw s.need.length (Nat.le_refl _)
      have ql := allG_len s nw s.need.length
      have I : IT M (E2 ++ n2) cb id a2 l (allG s nw s.need.length).2 s.need.length tid lo R 20 :=
        ⟨hid, hcb, w2.ext nr2, k2.ext n2, by have := TX; unfold TabX at this ⊢; rw [← rowsC_one hF]; exact this, by have := w2.len; omega, ql, q3, fun j f hj hf => by have := qv j f hj hf; omega⟩
      obtain ⟨N, hN⟩ : ∃ N, N = E2 ++ n2 := ⟨_, rfl⟩
      rw [ql]
      rw [← hN] at I ⊢
      clear hN TX hF nr2 q3 qv ql b2 hlo2
      generalize (allG s nw s.need.length).2 = T at *
      obtain ⟨n, hn⟩ : ∃ n, n = s.need.length := ⟨_, rfl⟩
      rw [← hn] at I n8 ⊢
      by_cases h0 : n = 0
      · have hz : (((n : Nat) : Int) == 0) = true := by simp [h0]
        simp (config := {implicitDefEqProofs := false, maxDischargeDepth := 20}) (disch := first | omega | (simp only [lenE]; done) | (simp only [lenE]; omega) | rfl | (simp only [lenE, markR_len]; done) | (simp only [lenE, markR_len]; omega)) only [runE, mapE, listE, initT_5, initT_6, initT_7, initT_8, resV, oneV, binA, unA, reduceCtorEq, Nat.reduceEqDiff, Nat.reduceAdd, Nat.reduceLT, Nat.reduceLeDiff, Nat.reduceMul, Nat.reduceSub, ↓reduceIte, decide_true, decide_false, Bool.true_eq_false, Bool.false_eq_true, Bool.not_true, Bool.not_false, if_true, if_false, and_true, true_and, memE, celE, w64, Nat.zero_add, Nat.add_zero, Nat.mul_one, putL, and_self, ldn, hz]
        exact ⟨T, tabX_lives I.tab I.ge (by rw [I.len]; omega) (fun j hj => by rw [I.row j (by rw [← I.len]; exact hj)]; omega) I.len.symm, I.cw, a2, by omega, I.cur⟩
      have hz : (((n : Nat) : Int) == 0) = false := by simp [h0]
      simp (config := {implicitDefEqProofs := false, maxDischargeDepth := 20}) (disch := first | omega | (simp only [lenE]; done) | (simp only [lenE]; omega) | rfl | (simp only [lenE, markR_len]; done) | (simp only [lenE, markR_len]; omega)) only [runE, mapE, listE, initT_5, initT_6, initT_7, initT_8, resV, oneV, binA, unA, reduceCtorEq, Nat.reduceEqDiff, Nat.reduceAdd, Nat.reduceLT, Nat.reduceLeDiff, Nat.reduceMul, Nat.reduceSub, ↓reduceIte, decide_true, decide_false, Bool.true_eq_false, Bool.false_eq_true, Bool.not_true, Bool.not_false, if_true, if_false, and_true, true_and, memE, celE, w64, Nat.zero_add, Nat.add_zero, Nat.mul_one, putL, and_self, ldn, hz]
      refine callH_ac (pick_ac N cb id a2 l 4 I.cur (by omega) (by omega) (by omega)) ?_
      rintro r N1 ⟨x, rfl, hx0, hx1, c3, a3, ha3, k3⟩
      obtain ⟨k0, rfl⟩ : ∃ k : Nat, x = k := ⟨x.toNat, by omega⟩
      have I1 := (I.draw c3 k3).more (b' := 26 - 2 * (k0 : Int)) (by omega)
      simp (config := {implicitDefEqProofs := false, maxDischargeDepth := 20}) (disch := first | omega | (simp only [lenE]; done) | (simp only [lenE]; omega) | rfl | (simp only [lenE, markR_len]; done) | (simp only [lenE, markR_len]; omega)) only [runE, mapE, listE, initT_5, initT_6, initT_7, initT_8, resV, oneV, binA, unA, reduceCtorEq, Nat.reduceEqDiff, Nat.reduceAdd, Nat.reduceLT, Nat.reduceLeDiff, Nat.reduceMul, Nat.reduceSub, ↓reduceIte, decide_true, decide_false, Bool.true_eq_false, Bool.false_eq_true, Bool.not_true, Bool.not_false, if_true, if_false, and_true, true_and, memE, celE, w64, Nat.zero_add, Nat.add_zero, Nat.mul_one, putL, and_self, ldn]
      refine loop_inv mixed (fun s => ∃ (k : Nat) (N : Mem) (a' : Nat) (T : List (List Int)), k ≤ 3 ∧ s.m = N ∧ IT M N cb id a' l T n tid lo R (26 - 2 * (k : Int)) ∧ a' + 20 * k ≤ a + 200 ∧ s.t 0 = .pointer (some ⟨id, 0, none⟩) ∧ s.t 5 = .slice (some ⟨tid, 0, none⟩) n 1 ∧ s.t 6 = .int .i64 (k : Int)) (fun s => (intOf (s.t 6)).toNat)
        ⟨k0, N1, a3, T, by omega, rfl, I1, by omega, rfl, rfl, rfl⟩ ?_
      clear I I1 c3 k3 c2 k2
      rintro s' ⟨k, N, a', T, hk, tm, I, hab, t0, t5, t6⟩
      by_cases hlt : 0 < k
      · have hlt' : (0 : Int) < k := by omega
        simp (config := {implicitDefEqProofs := false, maxDischargeDepth := 20}) (disch := first | omega | (simp only [lenE]; done) | (simp only [lenE]; omega) | rfl | (simp only [lenE, markR_len]; done) | (simp only [lenE, markR_len]; omega)) only [runE, mapE, listE, initT_5, initT_6, initT_7, initT_8, resV, oneV, binA, unA, reduceCtorEq, Nat.reduceEqDiff, Nat.reduceAdd, Nat.reduceLT, Nat.reduceLeDiff, Nat.reduceMul, Nat.reduceSub, ↓reduceIte, decide_true, decide_false, Bool.true_eq_false, Bool.false_eq_true, Bool.not_true, Bool.not_false, if_true, if_false, and_true, true_and, memE, celE, w64, Nat.zero_add, Nat.add_zero, Nat.mul_one, putL, and_self, ldn, tm, t0, t5, t6, gt_iff_lt, hlt']
        refine callH_ac (pick_ac N cb id a' l n I.cur (by omega) (by omega) (by omega)) ?_
        rintro r P1 ⟨xt, rfl, ht0, ht1, c1, b1, hb1, f1⟩
        obtain ⟨t, rfl⟩ : ∃ t : Nat, xt = t := ⟨xt.toNat, by omega⟩
        have I1 := I.draw c1 f1
        simp (config := {implicitDefEqProofs := false, maxDischargeDepth := 20}) (disch := first | omega | (simp only [lenE]; done) | (simp only [lenE]; omega) | rfl | (simp only [lenE, markR_len]; done) | (simp only [lenE, markR_len]; omega)) only [runE, mapE, listE, initT_5, initT_6, initT_7, initT_8, resV, oneV, binA, unA, reduceCtorEq, Nat.reduceEqDiff, Nat.reduceAdd, Nat.reduceLT, Nat.reduceLeDiff, Nat.reduceMul, Nat.reduceSub, ↓reduceIte, decide_true, decide_false, Bool.true_eq_false, Bool.false_eq_true, Bool.not_true, Bool.not_false, if_true, if_false, and_true, true_and, memE, celE, w64, Nat.zero_add, Nat.add_zero, Nat.mul_one, putL, and_self, ldn, t0, t5, t6]
        refine callH_ac (pick_ac P1 cb id b1 l n I1.cur (by omega) (by omega) (by omega)) ?_
        rintro r P ⟨xf, rfl, hf0, hf1, c2, b2, hb2, f2⟩
        obtain ⟨f, rfl⟩ : ∃ f : Nat, xf = f := ⟨xf.toNat, by omega⟩
        have I2 := I1.draw c2 f2
        have htn : t < n := by omega
        have hfn : f < n := by omega
        have j1 : iadA 1 (.slice (some ⟨tid, 0, none⟩) n 1) (.int .i64 (t : Int)) = some (.pointer (some ⟨tid, t, none⟩)) := iad0 rfl htn
        have j2 : iadA 1 (.slice (some ⟨R t, 0, none⟩) n 1) (.int .i64 (f : Int)) = some (.pointer (some ⟨R t, f, none⟩)) := iad0 rfl hfn
        have d1 := I2.rd htn
        have d2 := I2.rd2 htn hfn
        have vb := I2.val t f htn hfn
        obtain ⟨z, hz'⟩ : ∃ z, z = (T.getD t []).getD f 0 := ⟨_, rfl⟩
        rw [← hz'] at d2 vb
        by_cases hpos : 0 < z
        · simp (config := {implicitDefEqProofs := false, maxDischargeDepth := 20}) (disch := first | omega | (simp only [lenE]; done) | (simp only [lenE]; omega) | rfl | (simp only [lenE, markR_len]; done) | (simp only [lenE, markR_len]; omega)) only [runE, mapE, listE, initT_5, initT_6, initT_7, initT_8, resV, oneV, binA, unA, reduceCtorEq, Nat.reduceEqDiff, Nat.reduceAdd, Nat.reduceLT, Nat.reduceLeDiff, Nat.reduceMul, Nat.reduceSub, ↓reduceIte, decide_true, decide_false, Bool.true_eq_false, Bool.false_eq_true, Bool.not_true, Bool.not_false, if_true, if_false, and_true, true_and, memE, celE, w64, Nat.zero_add, Nat.add_zero, Nat.mul_one, putL, and_self, ldn, t0, t5, t6, j1, j2, d1, d2, gt_iff_lt, hpos]
          obtain ⟨Q, T2, st, I4⟩ := I2.put htn hfn (z - 1) (b' := 27 - 2 * (k : Int)) (by omega) (by omega)
          have zf : IntKind.i64.wrap (z - 1) = z - 1 := IntWalk.i64_in _ ⟨by omega, by omega⟩
          try simp (config := {implicitDefEqProofs := false, maxDischargeDepth := 20}) (disch := first | omega | (simp only [lenE]; done) | (simp only [lenE]; omega) | rfl | (simp only [lenE, markR_len]; done) | (simp only [lenE, markR_len]; omega)) only [runE, mapE, listE, initT_5, initT_6, initT_7, initT_8, resV, oneV, binA, unA, reduceCtorEq, Nat.reduceEqDiff, Nat.reduceAdd, Nat.reduceLT, Nat.reduceLeDiff, Nat.reduceMul, Nat.reduceSub, ↓reduceIte, decide_true, decide_false, Bool.true_eq_false, Bool.false_eq_true, Bool.not_true, Bool.not_false, if_true, if_false, and_true, true_and, memE, celE, w64, Nat.zero_add, Nat.add_zero, Nat.mul_one, putL, and_self, ldn, t0, t5, t6, j1, j2, d1, d2, zf, st]
          refine callH_ac (pick_ac Q cb id b2 l n I4.cur (by omega) (by omega) (by omega)) ?_
          rintro r Q1 ⟨xu, rfl, hu0, hu1, c5, b5, hb5, f5⟩
          obtain ⟨q, rfl⟩ : ∃ q : Nat, xu = q := ⟨xu.toNat, by omega⟩
          have hqn : q < n := by omega
          have I5 := I4.draw c5 f5
          simp (config := {implicitDefEqProofs := false, maxDischargeDepth := 20}) (disch := first | omega | (simp only [lenE]; done) | (simp only [lenE]; omega) | rfl | (simp only [lenE, markR_len]; done) | (simp only [lenE, markR_len]; omega)) only [runE, mapE, listE, initT_5, initT_6, initT_7, initT_8, resV, oneV, binA, unA, reduceCtorEq, Nat.reduceEqDiff, Nat.reduceAdd, Nat.reduceLT, Nat.reduceLeDiff, Nat.reduceMul, Nat.reduceSub, ↓reduceIte, decide_true, decide_false, Bool.true_eq_false, Bool.false_eq_true, Bool.not_true, Bool.not_false, if_true, if_false, and_true, true_and, memE, celE, w64, Nat.zero_add, Nat.add_zero, Nat.mul_one, putL, and_self, ldn, t0, t5, t6]
          refine callH_ac (one_ac Q1 cb id b5 l 2 I5.cur (by omega) (by omega) (by omega)) ?_
          rintro r Q2 ⟨oc, rfl, c6, b6, hb6, f6⟩
          have I6 := I5.draw c6 f6
          cases oc with
          | false =>
            simp (config := {implicitDefEqProofs := false, maxDischargeDepth := 20}) (disch := first | omega | (simp only [lenE]; done) | (simp only [lenE]; omega) | rfl | (simp only [lenE, markR_len]; done) | (simp only [lenE, markR_len]; omega)) only [runE, mapE, listE, initT_5, initT_6, initT_7, initT_8, resV, oneV, binA, unA, reduceCtorEq, Nat.reduceEqDiff, Nat.reduceAdd, Nat.reduceLT, Nat.reduceLeDiff, Nat.reduceMul, Nat.reduceSub, ↓reduceIte, decide_true, decide_false, Bool.true_eq_false, Bool.false_eq_true, Bool.not_true, Bool.not_false, if_true, if_false, and_true, true_and, memE, celE, w64, Nat.zero_add, Nat.add_zero, Nat.mul_one, putL, and_self, ldn, t0, t5, t6]
            exact ⟨⟨k - 1, Q2, b6, T2, by omega, rfl, I6.more (by omega), by omega, by congr 1; omega⟩, by simp only [intOf]; omega⟩
          | true =>
            have j3 : iadA 1 (.slice (some ⟨tid, 0, none⟩) n 1) (.int .i64 (q : Int)) = some (.pointer (some ⟨tid, q, none⟩)) := iad0 rfl hqn
            have j4 : iadA 1 (.slice (some ⟨R q, 0, none⟩) n 1) (.int .i64 (f : Int)) = some (.pointer (some ⟨R q, f, none⟩)) := iad0 rfl hfn
            have d3 := I6.rd hqn
            have d4 := I6.rd2 hqn hfn
            have vb2 := I6.val q f hqn hfn
            obtain ⟨y, hy⟩ : ∃ y, y = (T2.getD q []).getD f 0 := ⟨_, rfl⟩
            rw [← hy] at d4 vb2
            obtain ⟨Q3, T3, st2, I7⟩ := I6.put hqn hfn (y + 1) (b' := 26 - 2 * ((k - 1 : Nat) : Int)) (by omega) (by omega)
            have yf : IntKind.i64.wrap (y + 1) = y + 1 := IntWalk.i64_in _ ⟨by omega, by omega⟩
            simp (config := {implicitDefEqProofs := false, maxDischargeDepth := 20}) (disch := first | omega | (simp only [lenE]; done) | (simp only [lenE]; omega) | rfl | (simp only [lenE, markR_len]; done) | (simp only [lenE, markR_len]; omega)) only [runE, mapE, listE, initT_5, initT_6, initT_7, initT_8, resV, oneV, binA, unA, reduceCtorEq, Nat.reduceEqDiff, Nat.reduceAdd, Nat.reduceLT, Nat.reduceLeDiff, Nat.reduceMul, Nat.reduceSub, ↓reduceIte, decide_true, decide_false, Bool.true_eq_false, Bool.false_eq_true, Bool.not_true, Bool.not_false, if_true, if_false, and_true, true_and, memE, celE, w64, Nat.zero_add, Nat.add_zero, Nat.mul_one, putL, and_self, ldn, t0, t5, t6, j3, j4, d3, d4, yf, st2]
            exact ⟨⟨k - 1, Q3, b6, T3, by omega, rfl, I7, by omega, by congr 1; omega⟩, by simp only [intOf]; omega⟩
        · simp (config := {implicitDefEqProofs := false, maxDischargeDepth := 20}) (disch := first | omega | (simp only [lenE]; done) | (simp only [lenE]; omega) | rfl | (simp only [lenE, markR_len]; done) | (simp only [lenE, markR_len]; omega)) only [runE, mapE, listE, initT_5, initT_6, initT_7, initT_8, resV, oneV, binA, unA, reduceCtorEq, Nat.reduceEqDiff, Nat.reduceAdd, Nat.reduceLT, Nat.reduceLeDiff, Nat.reduceMul, Nat.reduceSub, ↓reduceIte, decide_true, decide_false, Bool.true_eq_false, Bool.false_eq_true, Bool.not_true, Bool.not_false, if_true, if_false, and_true, true_and, memE, celE, w64, Nat.zero_add, Nat.add_zero, Nat.mul_one, putL, and_self, ldn, t0, t5, t6, j1, j2, d1, d2, gt_iff_lt, hpos]
          refine callH_ac (one_ac P cb id b2 l 8 I2.cur (by omega) (by omega) (by omega)) ?_
          rintro r P3 ⟨ob, rfl, c3, b3, hb3, f3⟩
          have I3 := I2.draw c3 f3
          cases ob with
          | false =>
            simp (config := {implicitDefEqProofs := false, maxDischargeDepth := 20}) (disch := first | omega | (simp only [lenE]; done) | (simp only [lenE]; omega) | rfl | (simp only [lenE, markR_len]; done) | (simp only [lenE, markR_len]; omega)) only [runE, mapE, listE, initT_5, initT_6, initT_7, initT_8, resV, oneV, binA, unA, reduceCtorEq, Nat.reduceEqDiff, Nat.reduceAdd, Nat.reduceLT, Nat.reduceLeDiff, Nat.reduceMul, Nat.reduceSub, ↓reduceIte, decide_true, decide_false, Bool.true_eq_false, Bool.false_eq_true, Bool.not_true, Bool.not_false, if_true, if_false, and_true, true_and, memE, celE, w64, Nat.zero_add, Nat.add_zero, Nat.mul_one, putL, and_self, ldn, t0, t5, t6]
            exact ⟨⟨k - 1, P3, b3, T, by omega, rfl, I3.more (by omega), by omega, by congr 1; omega⟩, by simp only [intOf]; omega⟩
          | true =>
            have d1 := I3.rd htn
            have d2 := I3.rd2 htn hfn
            rw [← hz'] at d2
            simp (config := {implicitDefEqProofs := false, maxDischargeDepth := 20}) (disch := first | omega | (simp only [lenE]; done) | (simp only [lenE]; omega) | rfl | (simp only [lenE, markR_len]; done) | (simp only [lenE, markR_len]; omega)) only [runE, mapE, listE, initT_5, initT_6, initT_7, initT_8, resV, oneV, binA, unA, reduceCtorEq, Nat.reduceEqDiff, Nat.reduceAdd, Nat.reduceLT, Nat.reduceLeDiff, Nat.reduceMul, Nat.reduceSub, ↓reduceIte, decide_true, decide_false, Bool.true_eq_false, Bool.false_eq_true, Bool.not_true, Bool.not_false, if_true, if_false, and_true, true_and, memE, celE, w64, Nat.zero_add, Nat.add_zero, Nat.mul_one, putL, and_self, ldn, t0, t5, t6]
            obtain ⟨Q, T2, st, I4⟩ := I3.put htn hfn (z - 1) (b' := 27 - 2 * (k : Int)) (by omega) (by omega)
            have zf : IntKind.i64.wrap (z - 1) = z - 1 := IntWalk.i64_in _ ⟨by omega, by omega⟩
            try simp (config := {implicitDefEqProofs := false, maxDischargeDepth := 20}) (disch := first | omega | (simp only [lenE]; done) | (simp only [lenE]; omega) | rfl | (simp only [lenE, markR_len]; done) | (simp only [lenE, markR_len]; omega)) only [runE, mapE, listE, initT_5, initT_6, initT_7, initT_8, resV, oneV, binA, unA, reduceCtorEq, Nat.reduceEqDiff, Nat.reduceAdd, Nat.reduceLT, Nat.reduceLeDiff, Nat.reduceMul, Nat.reduceSub, ↓reduceIte, decide_true, decide_false, Bool.true_eq_false, Bool.false_eq_true, Bool.not_true, Bool.not_false, if_true, if_false, and_true, true_and, memE, celE, w64, Nat.zero_add, Nat.add_zero, Nat.mul_one, putL, and_self, ldn, t0, t5, t6, j1, j2, d1, d2, zf, st]
            refine callH_ac (pick_ac Q cb id b3 l n I4.cur (by omega) (by omega) (by omega)) ?_
            rintro r Q1 ⟨xu, rfl, hu0, hu1, c5, b5, hb5, f5⟩
            obtain ⟨q, rfl⟩ : ∃ q : Nat, xu = q := ⟨xu.toNat, by omega⟩
            have hqn : q < n := by omega
            have I5 := I4.draw c5 f5
            simp (config := {implicitDefEqProofs := false, maxDischargeDepth := 20}) (disch := first | omega | (simp only [lenE]; done) | (simp only [lenE]; omega) | rfl | (simp only [lenE, markR_len]; done) | (simp only [lenE, markR_len]; omega)) only [runE, mapE, listE, initT_5, initT_6, initT_7, initT_8, resV, oneV, binA, unA, reduceCtorEq, Nat.reduceEqDiff, Nat.reduceAdd, Nat.reduceLT, Nat.reduceLeDiff, Nat.reduceMul, Nat.reduceSub, ↓reduceIte, decide_true, decide_false, Bool.true_eq_false, Bool.false_eq_true, Bool.not_true, Bool.not_false, if_true, if_false, and_true, true_and, memE, celE, w64, Nat.zero_add, Nat.add_zero, Nat.mul_one, putL, and_self, ldn, t0, t5, t6]
            refine callH_ac (one_ac Q1 cb id b5 l 2 I5.cur (by omega) (by omega) (by omega)) ?_
            rintro r Q2 ⟨oc, rfl, c6, b6, hb6, f6⟩
            have I6 := I5.draw c6 f6
            cases oc with
            | false =>
              simp (config := {implicitDefEqProofs := false, maxDischargeDepth := 20}) (disch := first | omega | (simp only [lenE]; done) | (simp only [lenE]; omega) | rfl | (simp only [lenE, markR_len]; done) | (simp only [lenE, markR_len]; omega)) only [runE, mapE, listE, initT_5, initT_6, initT_7, initT_8, resV, oneV, binA, unA, reduceCtorEq, Nat.reduceEqDiff, Nat.reduceAdd, Nat.reduceLT, Nat.reduceLeDiff, Nat.reduceMul, Nat.reduceSub, ↓reduceIte, decide_true, decide_false, Bool.true_eq_false, Bool.false_eq_true, Bool.not_true, Bool.not_false, if_true, if_false, and_true, true_and, memE, celE, w64, Nat.zero_add, Nat.add_zero, Nat.mul_one, putL, and_self, ldn, t0, t5, t6]
              exact ⟨⟨k - 1, Q2, b6, T2, by omega, rfl, I6.more (by omega), by omega, by congr 1; omega⟩, by simp only [intOf]; omega⟩
            | true =>
              have j3 : iadA 1 (.slice (some ⟨tid, 0, none⟩) n 1) (.int .i64 (q : Int)) = some (.pointer (some ⟨tid, q, none⟩)) := iad0 rfl hqn
              have j4 : iadA 1 (.slice (some ⟨R q, 0, none⟩) n 1) (.int .i64 (f : Int)) = some (.pointer (some ⟨R q, f, none⟩)) := iad0 rfl hfn
              have d3 := I6.rd hqn
              have d4 := I6.rd2 hqn hfn
              have vb2 := I6.val q f hqn hfn
              obtain ⟨y, hy⟩ : ∃ y, y = (T2.getD q []).getD f 0 := ⟨_, rfl⟩
              rw [← hy] at d4 vb2
              obtain ⟨Q3, T3, st2, I7⟩ := I6.put hqn hfn (y + 1) (b' := 26 - 2 * ((k - 1 : Nat) : Int)) (by omega) (by omega)
              have yf : IntKind.i64.wrap (y + 1) = y + 1 := IntWalk.i64_in _ ⟨by omega, by omega⟩
              simp (config := {implicitDefEqProofs := false, maxDischargeDepth := 20}) (disch := first | omega | (simp only [lenE]; done) | (simp only [lenE]; omega) | rfl | (simp only [lenE, markR_len]; done) | (simp only [lenE, markR_len]; omega)) only [runE, mapE, listE, initT_5, initT_6, initT_7, initT_8, resV, oneV, binA, unA, reduceCtorEq, Nat.reduceEqDiff, Nat.reduceAdd, Nat.reduceLT, Nat.reduceLeDiff, Nat.reduceMul, Nat.reduceSub, ↓reduceIte, decide_true, decide_false, Bool.true_eq_false, Bool.false_eq_true, Bool.not_true, Bool.not_false, if_true, if_false, and_true, true_and, memE, celE, w64, Nat.zero_add, Nat.add_zero, Nat.mul_one, putL, and_self, ldn, t0, t5, t6, j3, j4, d3, d4, yf, st2]
              exact ⟨⟨k - 1, Q3, b6, T3, by omega, rfl, I7, by omega, by congr 1; omega⟩, by simp only [intOf]; omega⟩
      · have hlt' : ¬ ((0 : Int) < k) := by omega
        simp (config := {implicitDefEqProofs := false, maxDischargeDepth := 20}) (disch := first | omega | (simp only [lenE]; done) | (simp only [lenE]; omega) | rfl | (simp only [lenE, markR_len]; done) | (simp only [lenE, markR_len]; omega)) only [runE, mapE, listE, initT_5, initT_6, initT_7, initT_8, resV, oneV, binA, unA, reduceCtorEq, Nat.reduceEqDiff, Nat.reduceAdd, Nat.reduceLT, Nat.reduceLeDiff, Nat.reduceMul, Nat.reduceSub, ↓reduceIte, decide_true, decide_false, Bool.true_eq_false, Bool.false_eq_true, Bool.not_true, Bool.not_false, if_true, if_false, and_true, true_and, memE, celE, w64, Nat.zero_add, Nat.add_zero, Nat.mul_one, putL, and_self, ldn, tm, t0, t5, t6, gt_iff_lt, hlt']
        refine callH_ac (one_ac N cb id a' l 24 I.cur (by omega) (by omega) (by omega)) ?_
        rintro r P ⟨bb, rfl, c1, b1, hb1, f1⟩
        have I := I.draw c1 f1
        cases bb with
        | false =>
          simp (config := {implicitDefEqProofs := false, maxDischargeDepth := 20}) (disch := first | omega | (simp only [lenE]; done) | (simp only [lenE]; omega) | rfl | (simp only [lenE, markR_len]; done) | (simp only [lenE, markR_len]; omega)) only [runE, mapE, listE, initT_5, initT_6, initT_7, initT_8, resV, oneV, binA, unA, reduceCtorEq, Nat.reduceEqDiff, Nat.reduceAdd, Nat.reduceLT, Nat.reduceLeDiff, Nat.reduceMul, Nat.reduceSub, ↓reduceIte, decide_true, decide_false, Bool.true_eq_false, Bool.false_eq_true, Bool.not_true, Bool.not_false, if_true, if_false, and_true, true_and, memE, celE, w64, Nat.zero_add, Nat.add_zero, Nat.mul_one, putL, and_self, ldn, t0, t5, t6]
          exact ⟨T, tabX_lives I.tab I.ge (by rw [I.len]; omega) (fun j hj => by rw [I.row j (by rw [← I.len]; exact hj)]; omega) I.len.symm, I.cw, b1, by omega, I.cur⟩
        | true =>
          have j0 : iadA 1 (.slice (some ⟨tid, 0, none⟩) n 1) (.int .i64 0) = some (.pointer (some ⟨tid, 0, none⟩)) := iad0 (j := 0) rfl (by omega)
          have d0 := I.rd (j := 0) (by omega)
          obtain ⟨Q1, Q2, T2, ap, st, lt, cq, kq⟩ := I.app (by omega) n8 0
          simp (config := {implicitDefEqProofs := false, maxDischargeDepth := 20}) (disch := first | omega | (simp only [lenE]; done) | (simp only [lenE]; omega) | rfl | (simp only [lenE, markR_len]; done) | (simp only [lenE, markR_len]; omega)) only [runE, mapE, listE, initT_5, initT_6, initT_7, initT_8, resV, oneV, binA, unA, reduceCtorEq, Nat.reduceEqDiff, Nat.reduceAdd, Nat.reduceLT, Nat.reduceLeDiff, Nat.reduceMul, Nat.reduceSub, ↓reduceIte, decide_true, decide_false, Bool.true_eq_false, Bool.false_eq_true, Bool.not_true, Bool.not_false, if_true, if_false, and_true, true_and, memE, celE, w64, Nat.zero_add, Nat.add_zero, Nat.mul_one, putL, and_self, ldn, t0, t5, t6, j0, d0, bsl_one, ap, st]
          exact ⟨T2, lt, cq, b1, by omega, kq⟩
end Go.Proofs.Ytdgfbmilbhckiaa.Ab
end
section
namespace Go.Proofs.Ytdgfbmilbhckiaa.Ab
open Go Go.RowKit Go.Proofs
set_option maxRecDepth 100000
def c_laws_vBig : ACode := .seq (.reg [⟨(some 2), .mv (.const (.bool false)), none⟩])
 (.seq (.reg [⟨(some 3), .mv (.tmp 0), none⟩,
  ⟨(some 4), .len (.tmp 3), none⟩,
  ⟨(some 5), .bin .gtr (.tmp 4) (.const (.int .i64 65536)), none⟩,
  ⟨(some 2), .mv (.tmp 5), none⟩])
 (.ret))
def r_laws_vBig : List ARes := [.tmp 2]
theorem ok_laws_vBig : FnOk Try.prog 6 6 c_laws_vBig r_laws_vBig := ⟨⟨Try.f6, _, Try.func6, by kernel_rfl, rfl, rfl, by kernel_rfl, by kernel_rfl⟩⟩
def c_laws_vInts : ACode := .seq (.reg [⟨(some 4), .mv (.const (.bool false)), none⟩])
 (.seq (.seq (.reg [⟨(some 6), .mv (.tmp 0), none⟩,
  ⟨(some 7), .len (.tmp 6), none⟩,
  ⟨(some 8), .mv (.tmp 1), none⟩,
  ⟨(some 9), .len (.tmp 8), none⟩,
  ⟨(some 10), .bin .neq (.tmp 7) (.tmp 9), none⟩])
 (.cond (.tmp 10) (.seq (.reg [⟨(some 4), .mv (.const (.bool false)), none⟩])
 (.ret)) (.skip)))
 (.seq (.seq (.reg [⟨(some 5), .mv (.const (.int .i64 0)), none⟩])
 (.block 0 (.loop (.seq (.seq (.reg [⟨(some 11), .mv (.tmp 5), none⟩,
  ⟨(some 12), .mv (.tmp 0), none⟩,
  ⟨(some 13), .len (.tmp 12), none⟩,
  ⟨(some 14), .bin .lss (.tmp 11) (.tmp 13), none⟩])
 (.cond (.tmp 14) (.skip) (.exit 0)))
 (.seq (.block 1 (.seq (.reg [⟨(some 17), .mv (.tmp 0), none⟩,
  ⟨(some 18), .mv (.tmp 5), none⟩,
  ⟨(some 19), .iad 1 (.tmp 17) (.tmp 18), none⟩,
  ⟨(some 20), .ld none (.tmp 19), none⟩,
  ⟨(some 21), .mv (.tmp 1), none⟩,
  ⟨(some 22), .mv (.tmp 5), none⟩,
  ⟨(some 23), .iad 1 (.tmp 21) (.tmp 22), none⟩,
  ⟨(some 24), .ld none (.tmp 23), none⟩,
  ⟨(some 25), .bin .neq (.tmp 20) (.tmp 24), none⟩])
 (.cond (.tmp 25) (.seq (.reg [⟨(some 4), .mv (.const (.bool false)), none⟩])
 (.ret)) (.skip))))
 (.reg [⟨(some 15), .mv (.tmp 5), none⟩,
  ⟨(some 16), .bin .add (.tmp 15) (.const (.int .i64 1)), none⟩,
  ⟨(some 5), .mv (.tmp 16), none⟩]))))))
 (.seq (.reg [⟨(some 4), .mv (.const (.bool true)), none⟩])
 (.ret))))
def r_laws_vInts : List ARes := [.tmp 4]
theorem ok_laws_vInts : FnOk Try.prog 22 26 c_laws_vInts r_laws_vInts := ⟨⟨Try.f22, _, Try.func22, by kernel_rfl, rfl, rfl, by kernel_rfl, by kernel_rfl⟩⟩
def c_laws_vTable : ACode := .seq (.reg [⟨(some 4), .mv (.const (.bool false)), none⟩])
 (.seq (.seq (.reg [⟨(some 6), .mv (.tmp 0), none⟩,
  ⟨(some 7), .len (.tmp 6), none⟩,
  ⟨(some 8), .mv (.tmp 1), none⟩,
  ⟨(some 9), .len (.tmp 8), none⟩,
  ⟨(some 10), .bin .neq (.tmp 7) (.tmp 9), none⟩])
 (.cond (.tmp 10) (.seq (.reg [⟨(some 4), .mv (.const (.bool false)), none⟩])
 (.ret)) (.skip)))
 (.seq (.seq (.reg [⟨(some 5), .mv (.const (.int .i64 0)), none⟩])
 (.block 0 (.loop (.seq (.seq (.reg [⟨(some 11), .mv (.tmp 5), none⟩,
  ⟨(some 12), .mv (.tmp 0), none⟩,
  ⟨(some 13), .len (.tmp 12), none⟩,
  ⟨(some 14), .bin .lss (.tmp 11) (.tmp 13), none⟩])
 (.cond (.tmp 14) (.skip) (.exit 0)))
 (.seq (.block 1 (.seq (.reg [⟨(some 17), .mv (.tmp 0), none⟩,
  ⟨(some 18), .mv (.tmp 5), none⟩,
  ⟨(some 19), .iad 1 (.tmp 17) (.tmp 18), none⟩,
  ⟨(some 20), .ld none (.tmp 19), none⟩,
  ⟨(some 21), .mv (.tmp 1), none⟩,
  ⟨(some 22), .mv (.tmp 5), none⟩,
  ⟨(some 23), .iad 1 (.tmp 21) (.tmp 22), none⟩,
  ⟨(some 24), .ld none (.tmp 23), none⟩,
  ⟨(some 25), .rcall (.func 22) [(.tmp 20), (.tmp 24)], none⟩,
  ⟨(some 26), .un .not (.tmp 25), none⟩])
 (.cond (.tmp 26) (.seq (.reg [⟨(some 4), .mv (.const (.bool false)), none⟩])
 (.ret)) (.skip))))
 (.reg [⟨(some 15), .mv (.tmp 5), none⟩,
  ⟨(some 16), .bin .add (.tmp 15) (.const (.int .i64 1)), none⟩,
  ⟨(some 5), .mv (.tmp 16), none⟩]))))))
 (.seq (.reg [⟨(some 4), .mv (.const (.bool true)), none⟩])
 (.ret))))
def r_laws_vTable : List ARes := [.tmp 4]
theorem ok_laws_vTable : FnOk Try.prog 23 27 c_laws_vTable r_laws_vTable := ⟨⟨Try.f23, _, Try.func23, by kernel_rfl, rfl, rfl, by kernel_rfl, by kernel_rfl⟩⟩
def c_laws_vAdd : ACode := .seq (.reg [⟨(some 2), .mv (.const (.int .i64 0)), none⟩])
 (.seq (.reg [⟨(some 3), .mv (.const (.int .i64 0)), none⟩])
 (.seq (.seq (.reg [⟨(some 4), .mv (.const (.int .i64 0)), none⟩])
 (.block 0 (.loop (.seq (.seq (.reg [⟨(some 5), .mv (.tmp 4), none⟩,
  ⟨(some 6), .mv (.tmp 0), none⟩,
  ⟨(some 7), .len (.tmp 6), none⟩,
  ⟨(some 8), .bin .lss (.tmp 5) (.tmp 7), none⟩])
 (.cond (.tmp 8) (.skip) (.exit 0)))
 (.seq (.block 1 (.reg [⟨(some 11), .mv (.tmp 3), none⟩,
  ⟨(some 12), .mv (.tmp 0), none⟩,
  ⟨(some 13), .mv (.tmp 4), none⟩,
  ⟨(some 14), .iad 1 (.tmp 12) (.tmp 13), none⟩,
  ⟨(some 15), .ld none (.tmp 14), none⟩,
  ⟨(some 16), .bin .add (.tmp 11) (.tmp 15), none⟩,
  ⟨(some 3), .mv (.tmp 16), none⟩]))
 (.reg [⟨(some 9), .mv (.tmp 4), none⟩,
  ⟨(some 10), .bin .add (.tmp 9) (.const (.int .i64 1)), none⟩,
  ⟨(some 4), .mv (.tmp 10), none⟩]))))))
 (.seq (.reg [⟨(some 17), .mv (.tmp 3), none⟩,
  ⟨(some 2), .mv (.tmp 17), none⟩])
 (.ret))))
def r_laws_vAdd : List ARes := [.tmp 2]
theorem ok_laws_vAdd : FnOk Try.prog 27 18 c_laws_vAdd r_laws_vAdd := ⟨⟨Try.f27, _, Try.func27, by kernel_rfl, rfl, rfl, by kernel_rfl, by kernel_rfl⟩⟩
def c_laws_vShelf : ACode := .seq (.reg [⟨(some 2), .mv (.const (.int .i64 0)), none⟩])
 (.seq (.reg [⟨(some 3), .mv (.const (.int .i64 0)), none⟩])
 (.seq (.seq (.reg [⟨(some 4), .mv (.const (.int .i64 0)), none⟩])
 (.block 0 (.loop (.seq (.seq (.reg [⟨(some 5), .mv (.tmp 4), none⟩,
  ⟨(some 6), .mv (.tmp 0), none⟩,
  ⟨(some 7), .len (.tmp 6), none⟩,
  ⟨(some 8), .bin .lss (.tmp 5) (.tmp 7), none⟩])
 (.cond (.tmp 8) (.skip) (.exit 0)))
 (.seq (.block 1 (.reg [⟨(some 11), .mv (.tmp 3), none⟩,
  ⟨(some 12), .mv (.tmp 0), none⟩,
  ⟨(some 13), .mv (.tmp 4), none⟩,
  ⟨(some 14), .iad 1 (.tmp 12) (.tmp 13), none⟩,
  ⟨(some 15), .ld none (.tmp 14), none⟩,
  ⟨(some 16), .call (.func 27) [(.tmp 15)], none⟩,
  ⟨(some 17), .bin .add (.tmp 11) (.tmp 16), none⟩,
  ⟨(some 3), .mv (.tmp 17), none⟩]))
 (.reg [⟨(some 9), .mv (.tmp 4), none⟩,
  ⟨(some 10), .bin .add (.tmp 9) (.const (.int .i64 1)), none⟩,
  ⟨(some 4), .mv (.tmp 10), none⟩]))))))
 (.seq (.reg [⟨(some 18), .mv (.tmp 3), none⟩,
  ⟨(some 2), .mv (.tmp 18), none⟩])
 (.ret))))
def r_laws_vShelf : List ARes := [.tmp 2]
theorem ok_laws_vShelf : FnOk Try.prog 28 19 c_laws_vShelf r_laws_vShelf := ⟨⟨Try.f28, _, Try.func28, by kernel_rfl, rfl, rfl, by kernel_rfl, by kernel_rfl⟩⟩
end Go.Proofs.Ytdgfbmilbhckiaa.Ab
end
