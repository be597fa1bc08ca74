/- Policies: the worth of a policy, by both programs. -/
import Derived.Test.YtddnedngjijpoaaAbPol8
namespace Go.Proofs.Ytddnedngjijpoaa.Ab
open Go Go.RowKit
set_option linter.unusedVariables false
set_option linter.unusedSimpArgs false

theorem Pr.pol_len {p : Pr} {L : List (Int × Int)} (h : p.polB L = true) : (L.length : Int) = p.turns := by
  simp only [Pr.polB, Bool.and_eq_true, decide_eq_true_eq] at h; exact h.1
theorem Pr.pol_ok {p : Pr} {L : List (Int × Int)} (hL : p.polB L = true) : Pr.okC p (p.polC L) p.turns.toNat := fun k next x hk hx => by
  have hl := Pr.pol_len hL
  exact Pr.upOf_may (Pr.pol_at hL (k := p.turns.toNat - 1 - k) (by omega)) hx
/-- The worth of a policy before the first turn. -/
def worthA (p : Pr) (L : List (Int × Int)) : List Int := if p.good && p.polB L then p.rowsN (p.polC L) p.turns.toNat else []
theorem bld_move' (t x y : Int) : bldA [.int .i64 0, .int .i64 0, .int .i64 0] [(0, 1, .int .i64 t), (1, 1, .int .i64 x), (2, 1, .int .i64 y)] = some (moveV t x y) := rfl
theorem policyWorth1_rc (m : Mem) (id id2 : Nat) (u vl : Value) (p : Pr) (L : List (Int × Int)) (t x : Int) (vn : Value) (k : Nat) (hid : id < m.length) (hid2 : id2 < m.length) (hb : ∀ j, rdc m id j = [.int .i64 p.turns, u, .int .i64 p.setup, .int .i64 p.unit, .int .i64 p.hold, .int .i64 p.back][j]?) (hb2 : rdc m id2 0 = some vl) (hu : IntsA m u p.w) (hL : PairsA m vl L) (hl : p.w.length ≤ 5) (ht : t = (k : Int)) (hk : k < L.length) :
    RC Try.prog 70 [.int .i64 t, .int .i64 x, vn, .pointer (some ⟨id, 0, none⟩), .pointer (some ⟨id2, 0, none⟩)] m (AnsV (moveV t x (p.upOf (L.getD k (0, 0)) x))) := by
  subst ht
  refine rc_of_run mixed ok_impl_PolicyWorth_1 (by simp) (go_start _ _ _ ?_)
  have hrd : ∀ j, rdc (roM m) id j = [.int .i64 p.turns, u, .int .i64 p.setup, .int .i64 p.unit, .int .i64 p.hold, .int .i64 p.back][j]? := fun j => by rw [rdc_roM]; exact hb j
  have hrd2 : rdc (roM m) id2 0 = some vl := by rw [rdc_roM]; exact hb2
  obtain ⟨hbd, idl, fl, rfl, hc⟩ := hL.ro
  obtain ⟨r1, r2⟩ := hc k hk
  have hidl := rdc_blk2 r1
  rw [roM_len] at hidl
  simp (config := {implicitDefEqProofs := false, maxDischargeDepth := 20}) (disch := first | omega | (simp only [lenE]; done) | (simp only [lenE]; omega) | rfl | (simp only [lenE, markR_len]; done) | (simp only [lenE, markR_len]; omega)) only [runE, mapE, listE, initT_5, initT_6, initT_7, initT_8, resV, oneV, binA, unA, reduceCtorEq, Nat.reduceEqDiff, Nat.reduceAdd, Nat.reduceLT, Nat.reduceLeDiff, Nat.reduceMul, Nat.reduceSub, ↓reduceIte, decide_true, decide_false, Bool.true_eq_false, Bool.false_eq_true, Bool.not_true, Bool.not_false, if_true, if_false, and_true, true_and, memE, celE, w64, Nat.zero_add, Nat.add_zero, Nat.mul_one, putL, and_self, ldn, c_impl_PolicyWorth_1, r_impl_PolicyWorth_1, hrd, hrd2, iadA_in hk, r1, r2]
  refine rcallH_rc (policyOrder_rc _ _ p (L.getD k (0, 0)) x (ProcA.mk (hu.ro.ext _)) hl) ?_
  rintro r new ⟨rfl, nr⟩
  simp (config := {implicitDefEqProofs := false, maxDischargeDepth := 20}) (disch := first | omega | (simp only [lenE]; done) | (simp only [lenE]; omega) | rfl | (simp only [lenE, markR_len]; done) | (simp only [lenE, markR_len]; omega)) only [runE, mapE, listE, initT_5, initT_6, initT_7, initT_8, resV, oneV, binA, unA, reduceCtorEq, Nat.reduceEqDiff, Nat.reduceAdd, Nat.reduceLT, Nat.reduceLeDiff, Nat.reduceMul, Nat.reduceSub, ↓reduceIte, decide_true, decide_false, Bool.true_eq_false, Bool.false_eq_true, Bool.not_true, Bool.not_false, if_true, if_false, and_true, true_and, memE, celE, w64, Nat.zero_add, Nat.add_zero, Nat.mul_one, putL, and_self, ldn, bld_move']
  try simp only [List.append_assoc, List.cons_append, List.nil_append, List.append_nil]
  exact ⟨_, rfl, by (repeat (first | exact noRo_nil | assumption | apply noRo_own | apply noRo_dead | apply noRo_app)), rfl, by (repeat (first | exact noRo_nil | assumption | apply noRo_own | apply noRo_dead | apply noRo_app))⟩
theorem implPolicyWorth_rc (m : Mem) (v vl : Value) (p : Pr) (L : List (Int × Int)) (h : ProcA m v p) (hL : PairsA m vl L) : RC Try.prog 19 [v, vl] m (AnsO m (IntsO (worthA p L)) fun v => .tuple #[v, .bool (p.good && p.polB L)]) := by
  refine rc_of_run mixed ok_impl_PolicyWorth (by simp) (go_start _ _ _ ?_)
  obtain ⟨u, rfl, hu⟩ := h.ro
  have hLr := hL.ro
  obtain ⟨hbd, idl, fl, rfl, hc⟩ := hL.ro
  unfold worthA
  simp (config := {implicitDefEqProofs := false, maxDischargeDepth := 20}) (disch := first | omega | (simp only [lenE]; done) | (simp only [lenE]; omega) | rfl | (simp only [lenE, markR_len]; done) | (simp only [lenE, markR_len]; omega)) only [runE, mapE, listE, initT_5, initT_6, initT_7, initT_8, resV, oneV, binA, unA, reduceCtorEq, Nat.reduceEqDiff, Nat.reduceAdd, Nat.reduceLT, Nat.reduceLeDiff, Nat.reduceMul, Nat.reduceSub, ↓reduceIte, decide_true, decide_false, Bool.true_eq_false, Bool.false_eq_true, Bool.not_true, Bool.not_false, if_true, if_false, and_true, true_and, memE, celE, w64, Nat.zero_add, Nat.add_zero, Nat.mul_one, putL, and_self, ldn, c_impl_PolicyWorth, r_impl_PolicyWorth]
  refine callH_rc (isPolicy_rc _ _ _ p L (ProcA.mk ((hu.ext _).ext _)) ((hLr.ext _).ext _)) ?_
  rintro r n1 ⟨rfl, nr1⟩
  cases hb : (p.good && p.polB L) with
  | false =>
    simp (config := {implicitDefEqProofs := false, maxDischargeDepth := 20}) (disch := first | omega | (simp only [lenE]; done) | (simp only [lenE]; omega) | rfl | (simp only [lenE, markR_len]; done) | (simp only [lenE, markR_len]; omega)) only [runE, mapE, listE, initT_5, initT_6, initT_7, initT_8, resV, oneV, binA, unA, reduceCtorEq, Nat.reduceEqDiff, Nat.reduceAdd, Nat.reduceLT, Nat.reduceLeDiff, Nat.reduceMul, Nat.reduceSub, ↓reduceIte, decide_true, decide_false, Bool.true_eq_false, Bool.false_eq_true, Bool.not_true, Bool.not_false, if_true, if_false, and_true, true_and, memE, celE, w64, Nat.zero_add, Nat.add_zero, Nat.mul_one, putL, and_self, ldn, bsl_no]
    exact ext_noInts (f := fun v => .tuple #[v, .bool false]) ((((Ext.refl m).one _ _).one _ _).app nr1) (by simp [roM_len]; omega)
  | true =>
    rw [Bool.and_eq_true] at hb
    have hG := goodP_iff.1 hb.1
    have hpl := Pr.pol_len hb.2
    have ht := hG.turns
    simp (config := {implicitDefEqProofs := false, maxDischargeDepth := 20}) (disch := first | omega | (simp only [lenE]; done) | (simp only [lenE]; omega) | rfl | (simp only [lenE, markR_len]; done) | (simp only [lenE, markR_len]; omega)) only [runE, mapE, listE, initT_5, initT_6, initT_7, initT_8, resV, oneV, binA, unA, reduceCtorEq, Nat.reduceEqDiff, Nat.reduceAdd, Nat.reduceLT, Nat.reduceLeDiff, Nat.reduceMul, Nat.reduceSub, ↓reduceIte, decide_true, decide_false, Bool.true_eq_false, Bool.false_eq_true, Bool.not_true, Bool.not_false, if_true, if_false, and_true, true_and, memE, celE, w64, Nat.zero_add, Nat.add_zero, Nat.mul_one, putL, and_self, ldn]
    refine callH_rc (tableBy_rc _ _ _ p (p.polC L) (ProcA.mk (((hu.ext _).ext _).ext _)) hG ?_ (Pr.pol_ok hb.2)) ?_
    · intro M hX
      refine ⟨_, _, rfl, fun t x vn next k hk1 ht0 hk hx hn hl hB => ?_⟩
      have hl0 := hX.len
      simp only [List.length_append, roM_len, List.length_cons, List.length_nil] at hl0
      have hPA := (((hLr.ext _).ext _).ext _ : PairsA (roM m ++ [⟨.own, 26, [.int .i64 p.turns, u, .int .i64 p.setup, .int .i64 p.unit, .int .i64 p.hold, .int .i64 p.back]⟩] ++ [⟨.own, 27, [.slice (some ⟨idl, 0, none⟩) L.length fl]⟩] ++ n1) (.slice (some ⟨idl, 0, none⟩) L.length fl) L)
      have huA := (((hu.ext _).ext _).ext _ : IntsA (roM m ++ [⟨.own, 26, [.int .i64 p.turns, u, .int .i64 p.setup, .int .i64 p.unit, .int .i64 p.hold, .int .i64 p.back]⟩] ++ [⟨.own, 27, [.slice (some ⟨idl, 0, none⟩) L.length fl]⟩] ++ n1) u p.w)
      have e : p.polC L k next x = p.upOf (L.getD t.toNat (0, 0)) x := by
        show p.upOf (L.getD (p.turns.toNat - 1 - k) (0, 0)) x = _
        congr 2; omega
      rw [e]
      obtain ⟨n0, rfl, h0⟩ := hX
      refine policyWorth1_rc _ m.length (m.length + 1) u _ p L t x vn t.toNat (by omega) (by omega) (fun j => ?_) ?_ (huA.ro.ext n0) (hPA.ro.ext n0) hG.len.2 (by omega) (by omega)
      · rw [rdc_left (by simp [roM_len]), rdc_roM, rdc_left (by simp [roM_len]), rdc_left (by simp [roM_len]), rdc_lastH (roM_len m).symm]
        rfl
      · rw [rdc_left (by simp [roM_len]), rdc_roM, rdc_left (by simp [roM_len]), rdc_lastH (by simp [roM_len])]
        rfl
    · rintro r n2 ⟨nr2, w, rfl, hw⟩
      have hT := hw.now
      have a1 := hT.in.at_ 0 (by rw [Pr.tab_len]; omega)
      obtain ⟨hTl, hTs, idT, fT, R, F, hwv, _, _, hoT, hrows, _⟩ := hT
      have hw' : r = .slice (some ⟨idT, 0, none⟩) (p.tab (p.polC L) p.turns.toNat).length fT := hwv
      subst hw'
      have hrow := hrows 0 (by rw [Pr.tab_len]; omega)
      rw [Pr.tab_at p _ (by omega), Nat.sub_zero] at hrow
      have hcell := hoT.rd 0
      rw [rowsC_at (by rw [Pr.tab_len]; omega), Pr.tab_at p _ (by omega), Nat.sub_zero, Pr.rowsN_len] at hcell
      simp (config := {implicitDefEqProofs := false, maxDischargeDepth := 20}) (disch := first | omega | (simp only [lenE]; done) | (simp only [lenE]; omega) | rfl | (simp only [lenE, markR_len]; done) | (simp only [lenE, markR_len]; omega)) only [runE, mapE, listE, initT_5, initT_6, initT_7, initT_8, resV, oneV, binA, unA, reduceCtorEq, Nat.reduceEqDiff, Nat.reduceAdd, Nat.reduceLT, Nat.reduceLeDiff, Nat.reduceMul, Nat.reduceSub, ↓reduceIte, decide_true, decide_false, Bool.true_eq_false, Bool.false_eq_true, Bool.not_true, Bool.not_false, if_true, if_false, and_true, true_and, memE, celE, w64, Nat.zero_add, Nat.add_zero, Nat.mul_one, putL, and_self, ldn, id_eq, iad0 (n := (p.tab (p.polC L) p.turns.toNat).length) (j := 0) (z := 0) rfl (by rw [Pr.tab_len]; omega), hcell]
      have hX := (((Ext.refl m).one 26 [.int .i64 p.turns, u, .int .i64 p.setup, .int .i64 p.unit, .int .i64 p.hold, .int .i64 p.back]).one 27 [.slice (some ⟨idl, 0, none⟩) L.length fl]).app nr1
      have hlenX := hX.len
      refine ext_ansO (f := fun v => .tuple #[v, .bool true]) (hX.app nr2) fun M' hM => ?_
      have hl21 := Pr.rowsN_len p (p.polC L) p.turns.toNat
      have := IntsA.ownO (l := p.rowsN (p.polC L) p.turns.toNat) (lo := m.length) (hi := (roM m ++ [(⟨.own, 26, [.int .i64 p.turns, u, .int .i64 p.setup, .int .i64 p.unit, .int .i64 p.hold, .int .i64 p.back]⟩ : Blk)] ++ [(⟨.own, 27, [.slice (some ⟨idl, 0, none⟩) L.length fl]⟩ : Blk)] ++ n1 ++ n2).length) (fl := F 0) (hrow.2.2.at_ (hM _ (by omega) hrow.2.2.lt)) (by omega) (by omega) hrow.2.2.lt
      rw [hl21] at this
      exact this
theorem specPolicyWorth_rc (m : Mem) (v vl : Value) (p : Pr) (L : List (Int × Int)) (h : ProcA m v p) (hL : PairsA m vl L) : RC Try.prog 20 [v, vl] m (AnsO m (IntsO (worthA p L)) fun v => .tuple #[v, .bool (p.good && p.polB L)]) := by
  refine rc_of_run mixed ok_spec_PolicyWorth (by simp) (go_start _ _ _ ?_)
  obtain ⟨u, rfl, hu⟩ := h.ro
  have hLr := hL.ro
  obtain ⟨hbd, idl, fl, rfl, hc⟩ := hL.ro
  unfold worthA
  simp (config := {implicitDefEqProofs := false, maxDischargeDepth := 20}) (disch := first | omega | (simp only [lenE]; done) | (simp only [lenE]; omega) | rfl | (simp only [lenE, markR_len]; done) | (simp only [lenE, markR_len]; omega)) only [runE, mapE, listE, initT_5, initT_6, initT_7, initT_8, resV, oneV, binA, unA, reduceCtorEq, Nat.reduceEqDiff, Nat.reduceAdd, Nat.reduceLT, Nat.reduceLeDiff, Nat.reduceMul, Nat.reduceSub, ↓reduceIte, decide_true, decide_false, Bool.true_eq_false, Bool.false_eq_true, Bool.not_true, Bool.not_false, if_true, if_false, and_true, true_and, memE, celE, w64, Nat.zero_add, Nat.add_zero, Nat.mul_one, putL, and_self, ldn, c_spec_PolicyWorth, r_spec_PolicyWorth]
  refine callH_rc (l6Good_rc _ _ p (ProcA.mk (hu.ext _))) ?_
  rintro r n1 ⟨rfl, nr1⟩
  cases hg : p.good with
  | false =>
    simp (config := {implicitDefEqProofs := false, maxDischargeDepth := 20}) (disch := first | omega | (simp only [lenE]; done) | (simp only [lenE]; omega) | rfl | (simp only [lenE, markR_len]; done) | (simp only [lenE, markR_len]; omega)) only [runE, mapE, listE, initT_5, initT_6, initT_7, initT_8, resV, oneV, binA, unA, reduceCtorEq, Nat.reduceEqDiff, Nat.reduceAdd, Nat.reduceLT, Nat.reduceLeDiff, Nat.reduceMul, Nat.reduceSub, ↓reduceIte, decide_true, decide_false, Bool.true_eq_false, Bool.false_eq_true, Bool.not_true, Bool.not_false, if_true, if_false, and_true, true_and, memE, celE, w64, Nat.zero_add, Nat.add_zero, Nat.mul_one, putL, and_self, ldn, bsl_no]
    exact ext_noInts (f := fun v => .tuple #[v, .bool false]) (((Ext.refl m).one _ _).app nr1) (by simp [roM_len]; omega)
  | true =>
  have hG := goodP_iff.1 hg
  simp (config := {implicitDefEqProofs := false, maxDischargeDepth := 20}) (disch := first | omega | (simp only [lenE]; done) | (simp only [lenE]; omega) | rfl | (simp only [lenE, markR_len]; done) | (simp only [lenE, markR_len]; omega)) only [runE, mapE, listE, initT_5, initT_6, initT_7, initT_8, resV, oneV, binA, unA, reduceCtorEq, Nat.reduceEqDiff, Nat.reduceAdd, Nat.reduceLT, Nat.reduceLeDiff, Nat.reduceMul, Nat.reduceSub, ↓reduceIte, decide_true, decide_false, Bool.true_eq_false, Bool.false_eq_true, Bool.not_true, Bool.not_false, if_true, if_false, and_true, true_and, memE, celE, w64, Nat.zero_add, Nat.add_zero, Nat.mul_one, putL, and_self, ldn]
  refine callH_rc (l6Policy_rc _ _ _ p L (ProcA.mk ((hu.ext _).ext _)) ((hLr.ext _).ext _) hG) ?_
  rintro r n2 ⟨rfl, nr2⟩
  cases hp : p.polB L with
  | false =>
    simp (config := {implicitDefEqProofs := false, maxDischargeDepth := 20}) (disch := first | omega | (simp only [lenE]; done) | (simp only [lenE]; omega) | rfl | (simp only [lenE, markR_len]; done) | (simp only [lenE, markR_len]; omega)) only [runE, mapE, listE, initT_5, initT_6, initT_7, initT_8, resV, oneV, binA, unA, reduceCtorEq, Nat.reduceEqDiff, Nat.reduceAdd, Nat.reduceLT, Nat.reduceLeDiff, Nat.reduceMul, Nat.reduceSub, ↓reduceIte, decide_true, decide_false, Bool.true_eq_false, Bool.false_eq_true, Bool.not_true, Bool.not_false, if_true, if_false, and_true, true_and, memE, celE, w64, Nat.zero_add, Nat.add_zero, Nat.mul_one, putL, and_self, ldn, bsl_no]
    exact ext_noInts (f := fun v => .tuple #[v, .bool false]) ((((Ext.refl m).one _ _).app nr1).app nr2) (by simp [roM_len]; omega)
  | true =>
  have hpl := Pr.pol_len hp
  have ht := hG.turns
  obtain ⟨N, hN⟩ : ∃ N, N = p.turns.toNat := ⟨_, rfl⟩
  have hok := Pr.pol_ok hp
  have hfair := hok.fair
  rw [← hN] at hok hfair ⊢
  have hNt : p.turns = (N : Int) := by omega
  have hX0 := (((Ext.refl m).one 26 [.int .i64 p.turns, u, .int .i64 p.setup, .int .i64 p.unit, .int .i64 p.hold, .int .i64 p.back]).app nr1).app nr2
  have hb0 : OwnB (roM m ++ [⟨.own, 26, [.int .i64 p.turns, u, .int .i64 p.setup, .int .i64 p.unit, .int .i64 p.hold, .int .i64 p.back]⟩] ++ n1 ++ n2) m.length 26 [.int .i64 p.turns, u, .int .i64 p.setup, .int .i64 p.unit, .int .i64 p.hold, .int .i64 p.back] := ((OwnB.here (roM_len m).symm).ext _).ext _
  simp (config := {implicitDefEqProofs := false, maxDischargeDepth := 20}) (disch := first | omega | (simp only [lenE]; done) | (simp only [lenE]; omega) | rfl | (simp only [lenE, markR_len]; done) | (simp only [lenE, markR_len]; omega)) only [runE, mapE, listE, initT_5, initT_6, initT_7, initT_8, resV, oneV, binA, unA, reduceCtorEq, Nat.reduceEqDiff, Nat.reduceAdd, Nat.reduceLT, Nat.reduceLeDiff, Nat.reduceMul, Nat.reduceSub, ↓reduceIte, decide_true, decide_false, Bool.true_eq_false, Bool.false_eq_true, Bool.not_true, Bool.not_false, if_true, if_false, and_true, true_and, memE, celE, w64, Nat.zero_add, Nat.add_zero, Nat.mul_one, putL, and_self, ldn, mksA_eq (byt := 8) (n := 21) (a := 21) (by rfl) (by omega)]
  have hl0 : (roM m ++ [(⟨.own, 26, [.int .i64 p.turns, u, .int .i64 p.setup, .int .i64 p.unit, .int .i64 p.hold, .int .i64 p.back]⟩ : Blk)] ++ n1 ++ n2).length = m.length + 1 + n1.length + n2.length := by simp [roM_len]; omega
  obtain ⟨A, hA⟩ : ∃ A : Mem, A = roM m ++ [⟨.own, 26, [.int .i64 p.turns, u, .int .i64 p.setup, .int .i64 p.unit, .int .i64 p.hold, .int .i64 p.back]⟩] ++ n1 ++ n2 := ⟨_, rfl⟩
  have hz := OwnR.zeros (m := roM m ++ [⟨.own, 26, [.int .i64 p.turns, u, .int .i64 p.setup, .int .i64 p.unit, .int .i64 p.hold, .int .i64 p.back]⟩] ++ n1 ++ n2) (n := 21) (id := m.length + 1 + n1.length + n2.length) hl0.symm
  refine loop_inv mixed (fun s => ∃ (k : Nat) (M : Mem) (id6 fl6 : Nat), k ≤ N ∧ s.m = M ∧ Ext m M ∧ OwnB M m.length 26 [.int .i64 p.turns, u, .int .i64 p.setup, .int .i64 p.unit, .int .i64 p.hold, .int .i64 p.back] ∧ m.length < id6 ∧ OwnR M id6 (p.rowsN (p.polC L) k) ∧
      s.t 1 = .slice (some ⟨idl, 0, none⟩) L.length fl ∧ s.t 2 = .pointer (some ⟨m.length, 0, none⟩) ∧ s.t 6 = .slice (some ⟨id6, 0, none⟩) 21 fl6 ∧ s.t 7 = .int .i64 (p.turns - 1 - k)) (fun s => (intOf (s.t 7) + 1).toNat)
    ⟨0, _, m.length + 1 + n1.length + n2.length, 1, by omega, rfl, hX0.one _ _, hb0.ext _, by omega, hz, rfl, rfl, rfl, by simp only [put_t, put_t', put_m, putT_t, putT_t', putT_m, init_t, init_m, initT_0, initT_1, initT_2, initT_3, initT_4, initT_5, initT_6, initT_7, initT_8, Nat.reduceEqDiff, ↓reduceIte]; simp⟩ ?_
  rintro s ⟨k, M, id6, fl6, hk, tm, hX, hb, hid6, ho6, t1, t2, t6, t7⟩
  by_cases hlt : k < N
  · have hge : (0 : Int) ≤ p.turns - 1 - k := by omega
    obtain ⟨tu, htu⟩ : ∃ tu, tu = N - 1 - k := ⟨_, rfl⟩
    have htz : p.turns - 1 - k = (tu : Int) := by omega
    rw [htz] at t7 hge
    have hlen21 := Pr.rowsN_len p (p.polC L) k
    have hl2 := Pr.rowsN_len p (p.polC L) (k + 1)
    have hBB := Pr.rows_big hG (by omega) hfair (k := k) (by omega)
    have hml := hX.len
    have ho6l := ho6.lt
    simp (config := {implicitDefEqProofs := false, maxDischargeDepth := 20}) (disch := first | omega | (simp only [lenE]; done) | (simp only [lenE]; omega) | rfl | (simp only [lenE, markR_len]; done) | (simp only [lenE, markR_len]; omega)) only [runE, mapE, listE, initT_5, initT_6, initT_7, initT_8, resV, oneV, binA, unA, reduceCtorEq, Nat.reduceEqDiff, Nat.reduceAdd, Nat.reduceLT, Nat.reduceLeDiff, Nat.reduceMul, Nat.reduceSub, ↓reduceIte, decide_true, decide_false, Bool.true_eq_false, Bool.false_eq_true, Bool.not_true, Bool.not_false, if_true, if_false, and_true, true_and, memE, celE, w64, Nat.zero_add, Nat.add_zero, Nat.mul_one, putL, and_self, ldn, tm, t1, t2, t6, t7, ge_iff_le, hge, bsl_none]
    refine loop_inv mixed (fun s => ∃ (i : Nat) (M : Mem) (id8 : Nat), i ≤ 21 ∧ s.m = M ∧ Ext m M ∧ OwnB M m.length 26 [.int .i64 p.turns, u, .int .i64 p.setup, .int .i64 p.unit, .int .i64 p.hold, .int .i64 p.back] ∧ OwnR M id6 (p.rowsN (p.polC L) k) ∧ id6 < id8 ∧ OwnR M id8 ((p.rowsN (p.polC L) (k + 1)).take i) ∧
        s.t 1 = .slice (some ⟨idl, 0, none⟩) L.length fl ∧ s.t 2 = .pointer (some ⟨m.length, 0, none⟩) ∧ s.t 6 = .slice (some ⟨id6, 0, none⟩) 21 fl6 ∧ s.t 7 = .int .i64 tu ∧ s.t 8 = .slice (some ⟨id8, 0, none⟩) i 1 ∧ s.t 9 = .int .i64 ((i : Int) - 10)) (fun s => (20 - intOf (s.t 9)).toNat)
      ⟨0, _, M.length, by omega, rfl, hX.one _ _, hb.ext _, ho6.ext _, ho6l, OwnR.at_end M [], t1, t2, t6, t7, rfl, by simp only [put_t, put_t', put_m, putT_t, putT_t', putT_m, init_t, init_m, initT_0, initT_1, initT_2, initT_3, initT_4, initT_5, initT_6, initT_7, initT_8, Nat.reduceEqDiff, ↓reduceIte]; simp⟩ ?_
    rintro s ⟨i, M, id8, hi, tm, hX, hb, ho6, hid8, ho8, t1, t2, t6, t7, t8, t9⟩
    by_cases hlti : i < 21
    · have hlti' : (i : Int) - 10 ≤ 10 := by omega
      have hxx : -10 ≤ (i : Int) - 10 ∧ (i : Int) - 10 ≤ 10 := by omega
      have htl : tu < L.length := by omega
      have r1 := hX.rd ((rdc_roM m idl (tu * 2)).symm.trans (hc tu htl).1)
      have r2 := hX.rd ((rdc_roM m idl (tu * 2 + 1)).symm.trans (hc tu htl).2)
      have hnx := ho6.ints (by omega) fl6
      rw [hlen21] at hnx
      have hch := hok k (p.rowsN (p.polC L) k) ((i : Int) - 10) (by omega) hxx
      have e : p.polC L k (p.rowsN (p.polC L) k) ((i : Int) - 10) = p.upOf (L.getD tu (0, 0)) ((i : Int) - 10) := by
        show p.upOf (L.getD (p.turns.toNat - 1 - k) (0, 0)) _ = _
        congr 2; omega
      have hval := Pr.rowsN_at p (p.polC L) k hlti
      rw [e] at hch hval
      have hmv := move_bd hG hBB (n := k) (by omega) hxx.1 hch.1
      have hmay := hch.1
      have hfl := hG.floor
      simp (config := {implicitDefEqProofs := false, maxDischargeDepth := 20}) (disch := first | omega | (simp only [lenE]; done) | (simp only [lenE]; omega) | rfl | (simp only [lenE, markR_len]; done) | (simp only [lenE, markR_len]; omega)) only [runE, mapE, listE, initT_5, initT_6, initT_7, initT_8, resV, oneV, binA, unA, reduceCtorEq, Nat.reduceEqDiff, Nat.reduceAdd, Nat.reduceLT, Nat.reduceLeDiff, Nat.reduceMul, Nat.reduceSub, ↓reduceIte, decide_true, decide_false, Bool.true_eq_false, Bool.false_eq_true, Bool.not_true, Bool.not_false, if_true, if_false, and_true, true_and, memE, celE, w64, Nat.zero_add, Nat.add_zero, Nat.mul_one, putL, and_self, ldn, tm, t1, t2, t6, t7, t8, t9, hlti', hb.rd, iadA_in htl, r1, r2]
      refine rcallH_rc (l6Up_rc _ _ p (L.getD tu (0, 0)) _ (ProcA.mk (hX.ints hu)) hG) ?_
      rintro r x1 ⟨rfl, xr1⟩
      obtain ⟨y, hy⟩ : ∃ y, y = p.upOf (L.getD tu (0, 0)) ((i : Int) - 10) := ⟨_, rfl⟩
      rw [← hy] at hmv hmay hval ⊢
      have hm1 := hmay.1
      have hm2 := hmay.2
      have hb1 := hb.ext x1
      simp (config := {implicitDefEqProofs := false, maxDischargeDepth := 20}) (disch := first | omega | (simp only [lenE]; done) | (simp only [lenE]; omega) | rfl | (simp only [lenE, markR_len]; done) | (simp only [lenE, markR_len]; omega)) only [runE, mapE, listE, initT_5, initT_6, initT_7, initT_8, resV, oneV, binA, unA, reduceCtorEq, Nat.reduceEqDiff, Nat.reduceAdd, Nat.reduceLT, Nat.reduceLeDiff, Nat.reduceMul, Nat.reduceSub, ↓reduceIte, decide_true, decide_false, Bool.true_eq_false, Bool.false_eq_true, Bool.not_true, Bool.not_false, if_true, if_false, and_true, true_and, memE, celE, w64, Nat.zero_add, Nat.add_zero, Nat.mul_one, putL, and_self, ldn, t1, t2, t6, t7, t8, t9, hb1.rd]
      refine rcallH_rc (l6Order_rc _ _ p _ y (ProcA.mk ((hX.ints hu).ext x1)) hG hxx (by omega)) ?_
      rintro r x2 ⟨rfl, xr2⟩
      have hb2 := hb1.ext x2
      simp (config := {implicitDefEqProofs := false, maxDischargeDepth := 20}) (disch := first | omega | (simp only [lenE]; done) | (simp only [lenE]; omega) | rfl | (simp only [lenE, markR_len]; done) | (simp only [lenE, markR_len]; omega)) only [runE, mapE, listE, initT_5, initT_6, initT_7, initT_8, resV, oneV, binA, unA, reduceCtorEq, Nat.reduceEqDiff, Nat.reduceAdd, Nat.reduceLT, Nat.reduceLeDiff, Nat.reduceMul, Nat.reduceSub, ↓reduceIte, decide_true, decide_false, Bool.true_eq_false, Bool.false_eq_true, Bool.not_true, Bool.not_false, if_true, if_false, and_true, true_and, memE, celE, w64, Nat.zero_add, Nat.add_zero, Nat.mul_one, putL, and_self, ldn, t1, t2, t6, t7, t8, t9, hb2.rd]
      refine rcallH_rc (l6Power_rc _ _ p _ (k + 1) (ProcA.mk (((hX.ints hu).ext x1).ext x2)) hG (by omega) (by omega)) ?_
      rintro r x3 ⟨rfl, xr3⟩
      have hb3 := hb2.ext x3
      simp (config := {implicitDefEqProofs := false, maxDischargeDepth := 20}) (disch := first | omega | (simp only [lenE]; done) | (simp only [lenE]; omega) | rfl | (simp only [lenE, markR_len]; done) | (simp only [lenE, markR_len]; omega)) only [runE, mapE, listE, initT_5, initT_6, initT_7, initT_8, resV, oneV, binA, unA, reduceCtorEq, Nat.reduceEqDiff, Nat.reduceAdd, Nat.reduceLT, Nat.reduceLeDiff, Nat.reduceMul, Nat.reduceSub, ↓reduceIte, decide_true, decide_false, Bool.true_eq_false, Bool.false_eq_true, Bool.not_true, Bool.not_false, if_true, if_false, and_true, true_and, memE, celE, w64, Nat.zero_add, Nat.add_zero, Nat.mul_one, putL, and_self, ldn, t1, t2, t6, t7, t8, t9, hb3.rd]
      refine rcallH_rc (l6After_rc _ _ _ p (p.rowsN (p.polC L) k) _ y k (ProcA.mk ((((hX.ints hu).ext x1).ext x2).ext x3)) (((hnx.ext x1).ext x2).ext x3) hG hlen21 hBB hmay (by omega) (by omega)) ?_
      rintro r x4 ⟨rfl, xr4⟩
      have hX4 := (((hX.app xr1).app xr2).app xr3).app xr4
      have hb4 := hb3.ext x4
      have ho64 := (((ho6.ext x1).ext x2).ext x3).ext x4
      have ho84 := (((ho8.ext x1).ext x2).ext x3).ext x4
      have hval' : p.ord ((i : Int) - 10) y * p.pow (k + 1) + p.after (p.rowsN (p.polC L) k) y k = (p.rowsN (p.polC L) (k + 1)).getD i 0 := hval.symm
      have happ := app_num (x := (p.rowsN (p.polC L) (k + 1)).getD i 0) (id2 := (M ++ x1 ++ x2 ++ x3 ++ x4).length) (n := i) ho84 (by rw [List.length_take]; omega) rfl (by rw [List.length_take]; omega)
      obtain ⟨M2, hM2⟩ : ∃ M', M' = M ++ x1 ++ x2 ++ x3 ++ x4 := ⟨_, rfl⟩
      rw [← hM2] at happ hX4 hb4 ho64 ho84
      rw [← hM2]
      have hidl := ho84.lt
      have hX4l := hX4.len
      simp (config := {implicitDefEqProofs := false, maxDischargeDepth := 20}) (disch := first | omega | (simp only [lenE]; done) | (simp only [lenE]; omega) | rfl | (simp only [lenE, markR_len]; done) | (simp only [lenE, markR_len]; omega)) only [runE, mapE, listE, initT_5, initT_6, initT_7, initT_8, resV, oneV, binA, unA, reduceCtorEq, Nat.reduceEqDiff, Nat.reduceAdd, Nat.reduceLT, Nat.reduceLeDiff, Nat.reduceMul, Nat.reduceSub, ↓reduceIte, decide_true, decide_false, Bool.true_eq_false, Bool.false_eq_true, Bool.not_true, Bool.not_false, if_true, if_false, and_true, true_and, memE, celE, w64, Nat.zero_add, Nat.add_zero, Nat.mul_one, putL, and_self, ldn, t1, t2, t6, t7, t8, t9, hval', bsl_one, happ]
      refine ⟨⟨i + 1, _, M2.length + 1, by omega, rfl, ((hX4.dead (by omega)).one _ _).one _ _, hb4.at_ (same_gen (by omega) hidl), ho64.at_ (same_gen (by omega) hidl), by omega, ?_, rfl, by congr 1; simp; omega⟩, ?_⟩
      · rw [take_next (by omega)]
        exact OwnB.here (by simp)
      · simp [intOf]; omega
    · have hlti' : ¬ ((i : Int) - 10 ≤ 10) := by omega
      have e : i = 21 := by omega
      subst e
      rw [List.take_of_length_le (by omega)] at ho8
      simp (config := {implicitDefEqProofs := false, maxDischargeDepth := 20}) (disch := first | omega | (simp only [lenE]; done) | (simp only [lenE]; omega) | rfl | (simp only [lenE, markR_len]; done) | (simp only [lenE, markR_len]; omega)) only [runE, mapE, listE, initT_5, initT_6, initT_7, initT_8, resV, oneV, binA, unA, reduceCtorEq, Nat.reduceEqDiff, Nat.reduceAdd, Nat.reduceLT, Nat.reduceLeDiff, Nat.reduceMul, Nat.reduceSub, ↓reduceIte, decide_true, decide_false, Bool.true_eq_false, Bool.false_eq_true, Bool.not_true, Bool.not_false, if_true, if_false, and_true, true_and, memE, celE, w64, Nat.zero_add, Nat.add_zero, Nat.mul_one, putL, and_self, ldn, tm, t1, t2, t6, t7, t8, t9, hlti']
      refine ⟨⟨k + 1, M, id8, 1, by omega, rfl, hX, hb, by omega, ho8, rfl, by congr 1; omega⟩, ?_⟩
      simp [intOf]
  · have hge : ¬ ((0 : Int) ≤ p.turns - 1 - k) := by omega
    have e : k = N := by omega
    subst e
    simp (config := {implicitDefEqProofs := false, maxDischargeDepth := 20}) (disch := first | omega | (simp only [lenE]; done) | (simp only [lenE]; omega) | rfl | (simp only [lenE, markR_len]; done) | (simp only [lenE, markR_len]; omega)) only [runE, mapE, listE, initT_5, initT_6, initT_7, initT_8, resV, oneV, binA, unA, reduceCtorEq, Nat.reduceEqDiff, Nat.reduceAdd, Nat.reduceLT, Nat.reduceLeDiff, Nat.reduceMul, Nat.reduceSub, ↓reduceIte, decide_true, decide_false, Bool.true_eq_false, Bool.false_eq_true, Bool.not_true, Bool.not_false, if_true, if_false, and_true, true_and, memE, celE, w64, Nat.zero_add, Nat.add_zero, Nat.mul_one, putL, and_self, ldn, tm, t1, t2, t6, t7, ge_iff_le, hge]
    have hl21 := Pr.rowsN_len p (p.polC L) k
    refine ext_ansO (f := fun v => .tuple #[v, .bool true]) hX fun M' hM => ?_
    have := IntsA.ownO (l := p.rowsN (p.polC L) k) (lo := m.length) (hi := M.length) (fl := fl6) (ho6.at_ (hM _ (by omega) ho6.lt)) (by omega) (by omega) ho6.lt
    rw [hl21] at this
    exact this
end Go.Proofs.Ytddnedngjijpoaa.Ab
