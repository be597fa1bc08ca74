/- The best lots: BestCost, BestPeriods. -/
import Derived.Test.YtonpeflncnccdaaAbFrom
namespace Go.Proofs.Ytonpeflncnccdaa.Ab
open Go Go.RowKit
set_option linter.unusedVariables false
set_option linter.unusedSimpArgs false

/-- What lotsFrom makes, behind n blocks. -/
def fromV (n : Nat) : Value := .func (.func 85) #[] #[.pointer (some ⟨n + 1 + 1 + 1, 0, none⟩), .pointer (some ⟨n, 0, none⟩), .pointer (some ⟨n + 1, 0, none⟩), .pointer (some ⟨n + 1 + 1 + 1 + 1, 0, none⟩)]
def fromM (t : TypeId) (k : Cs) (v1 v2 v3 v4 : Value) (n : Nat) (e1 e2 : TypeId) : Mem := [⟨.own, t, [v1, v2, v3, v4]⟩, ⟨.own, 3, [.int .i64 k.need.length]⟩, ⟨.dead, e1, [.bool true, .tuple #[.int .i64 k.need.length, .agg #[.int .i64 0, .slice none 0 0]]]⟩,
  ⟨.own, e1, [.map (some (n + 1 + 1))]⟩, ⟨.own, e2, [fromV n]⟩]
theorem lenv_new {M : Mem} {t e1 e2 : TypeId} {k : Cs} {v1 v2 v3 v4 : Value} (h : CaseA M (.agg #[v1, v2, v3, v4]) k) :
    LEnv k v1 v2 v3 v4 (M.length + 1 + 1 + 1) M.length (M.length + 1) (M.length + 1 + 1 + 1 + 1) (M.length + 1 + 1) e1 [.tuple #[.int .i64 k.need.length, .agg #[.int .i64 0, .slice none 0 0]]] (M ++ fromM t k v1 v2 v3 v4 M.length e1 e2) := by
  have at_ : ∀ i, (M ++ fromM t k v1 v2 v3 v4 M.length e1 e2)[M.length + i]? = (fromM t k v1 v2 v3 v4 M.length e1 e2)[i]? := fun i => by
    rw [List.getElem?_append_right (by omega), Nat.add_sub_cancel_left]
  have a0 := at_ 0
  rw [Nat.add_zero] at a0
  have a1 := at_ 1
  have a2 := at_ 2
  have a3 := at_ 3
  have a4 := at_ 4
  refine ⟨?_, ?_, ?_, ?_, ?_, h.ext _, ?_, ?_, ⟨?_, fun x v hv => ?_, ?_⟩⟩
  · unfold rdc; rw [show M.length + 1 + 1 + 1 = M.length + 3 from rfl, a3]; rfl
  · unfold rdc; rw [a0]; rfl
  · unfold rdc; rw [a0]; rfl
  · unfold rdc; rw [a0]; rfl
  · unfold rdc; rw [a0]; rfl
  · unfold rdc; rw [a1]; rfl
  · unfold rdc; rw [show M.length + 1 + 1 + 1 + 1 = M.length + 4 from rfl, a4]; rfl
  · rw [show M.length + 1 + 1 = M.length + 2 from rfl, a2]; rfl
  · simp only [lkE] at hv
    split at hv
    · rename_i hx
      cases hv
      refine ⟨k.need.length, hx.symm, Nat.le_refl _, none, 0, 0, ?_, ?_⟩
      · rw [dp_end k (Nat.le_refl _)]; rfl
      · rw [dp_end k (Nat.le_refl _)]; exact .inl ⟨rfl, rfl⟩
    · cases hv
  · simp [lkE]
theorem lotsFrom_rc (m : Mem) (v : Value) (k : Cs) (h : CaseA m v k) (hg : Good k) :
    RC Try.prog 62 [v] m fun r new => r = fromV m.length ∧ ∃ v1 v2 v3 v4 e1 e2, CaseA m (.agg #[v1, v2, v3, v4]) k ∧ new = fromM 28 k v1 v2 v3 v4 m.length e1 e2 := by
  refine rc_of_run mixed ok_impl_lotsFrom (by simp) (go_start _ _ _ ?_)
  obtain ⟨v1, v2, v3, v4, rfl, -, -, -, -⟩ := h.ok
  obtain ⟨w1, w2, w3, w4, he, h1, h2, h3, h4⟩ := h.ro.ok
  cases he
  have mu : ∀ {M : Mem} {e : TypeId} {x : Int} {v : Value} {id : Nat}, id = M.length → mupA (M ++ [⟨.dead, e, [.bool true]⟩]) (.map (some id)) (.int .i64 x) v = some (M ++ [⟨.dead, e, [.bool true, .tuple #[.int .i64 x, v]]⟩]) := fun {M e x v id} hid => by
    subst hid
    have := mupA_mp (M := M ++ [⟨.dead, e, [.bool true]⟩]) (mid := M.length) (e := e) (es := []) (by simp) (x := x) rfl v
    rw [this]; simp
  simp (config := {implicitDefEqProofs := false, maxDischargeDepth := 20}) (disch := first | omega | (simp only [lenE]; done) | (simp only [lenE]; omega) | rfl | (simp only [lenE, markR_len]; done) | (simp only [lenE, markR_len]; omega)) only [runE, mapE, listE, initT_5, initT_6, initT_7, initT_8, resV, oneV, binA, unA, reduceCtorEq, Nat.reduceEqDiff, Nat.reduceAdd, Nat.reduceLT, Nat.reduceLeDiff, Nat.reduceMul, Nat.reduceSub, ↓reduceIte, decide_true, decide_false, Bool.true_eq_false, Bool.false_eq_true, Bool.not_true, Bool.not_false, if_true, if_false, and_true, true_and, memE, celE, w64, Nat.zero_add, Nat.add_zero, Nat.mul_one, putL, and_self, ldn, c_impl_lotsFrom, r_impl_lotsFrom, h1.len, bld_nil, mu]
  refine ⟨fromM 28 k v1 v2 v3 v4 m.length 83 69, ?_, ?_, rfl, v1, v2, v3, v4, _, _, h, rfl⟩
  · simp only [List.append_assoc]; rfl
  · intro b hb
    simp only [fromM, List.mem_cons, List.not_mem_nil, or_false] at hb
    rcases hb with rfl | rfl | rfl | rfl | rfl <;> simp

theorem ext_gw {m M0 M : Mem} {mid : Nat} (h : Ext m M0) (hg : Gw mid M0 M) (hmid : m.length ≤ mid) : Ext m M := by
  obtain ⟨new, rfl, hn⟩ := h
  have hl := hg.len
  rw [List.length_append, roM_len] at hl
  refine ⟨M.drop m.length, ?_, fun b hb => ?_⟩
  · have : M.take m.length = roM m := by
      apply List.ext_getElem?
      intro i
      rw [List.getElem?_take]
      by_cases hi : i < m.length
      · rw [if_pos hi, hg.old i (by rw [List.length_append, roM_len]; omega) (by omega), List.getElem?_append_left (by rw [roM_len]; exact hi)]
      · rw [if_neg hi, List.getElem?_eq_none (by rw [roM_len]; omega)]
    rw [← this, List.take_append_drop]
  · obtain ⟨i, hi⟩ := List.mem_iff_getElem?.1 hb
    rw [List.getElem?_drop] at hi
    by_cases e : m.length + i = mid
    · rw [e] at hi; exact hg.at_ b hi
    · by_cases h2 : m.length + i < (roM m ++ new).length
      · rw [hg.old _ h2 e, List.getElem?_append_right (by rw [roM_len]; omega)] at hi
        exact hn b (List.mem_of_getElem? hi)
      · exact hg.new _ b (by omega) hi
/-- Lots in blocks of one's own. -/
def AnsP (m : Mem) (c : Int) (l : List Int) (r : Value) (new : Mem) : Prop := NoRo new ∧ ∃ A ln cp, r = .agg #[.int .i64 c, .slice A ln cp] ∧ ((A = none ∧ ln = 0 ∧ cp = 0 ∧ l = []) ∨
  ∃ id fl, A = some ⟨id, 0, none⟩ ∧ ln = l.length ∧ cp = fl ∧ m.length ≤ id ∧ OwnR (m ++ new) id l ∧ l.length ≤ 1048576)
theorem own_new {m new : Mem} {id : Nat} {l : List Int} (h : OwnR (roM m ++ new) id l) : m.length ≤ id ∧ OwnR (m ++ new) id l := by
  have hb : (roM m ++ new)[id]? = some (rowB l) := h
  by_cases hi : id < m.length
  · rw [List.getElem?_append_left (by rw [roM_len]; exact hi), roM, List.getElem?_map] at hb
    cases hm : m[id]? with
    | none => rw [hm] at hb; cases hb
    | some b =>
      rw [hm] at hb
      obtain ⟨kd, e, xs⟩ := b
      cases kd <;> simp [roB, rowB, deadB] at hb
  · refine ⟨by omega, ?_⟩
    show (m ++ new)[id]? = some (rowB l)
    rw [List.getElem?_append_right (by rw [roM_len]; omega), roM_len] at hb
    rw [List.getElem?_append_right (by omega)]
    exact hb
theorem ansP_of {m M : Mem} {c : Int} {l : List Int} {A : Option Addr} {ln cp : Nat} (h : Ext m M) (hr : RowV M (.slice A ln cp) l) : newQ m (AnsP m c l) (.agg #[.int .i64 c, .slice A ln cp]) M := by
  obtain ⟨new, rfl, hn⟩ := h
  refine ⟨new, rfl, hn, hn, A, ln, cp, rfl, ?_⟩
  rcases hr with ⟨h1, h2⟩ | ⟨id, fl, h1, h2, h3⟩
  · cases h1; exact .inl ⟨rfl, rfl, rfl, h2⟩
  · cases h1
    obtain ⟨h4, h5⟩ := own_new h2
    exact .inr ⟨id, _, rfl, rfl, rfl, h4, h5, h3⟩
theorem RowV.box {M : Mem} {v : Value} {l : List Int} (h : RowV M v l) {id : Nat} {t : TypeId} {cs : List Value} {b : Blk} (hb : M[id]? = some ⟨.own, t, cs⟩) (ht : t ≠ 3) : RowV (M.set id b) v l :=
  h.keep fun i l ho => ho.set_ne fun e2 => by
    subst e2
    have : M[id]? = some (rowB l) := ho
    rw [hb] at this
    cases this
    exact ht rfl
theorem bestLots_rc (m : Mem) (v : Value) (k : Cs) (h : CaseA m v k) (hg : Good k) : RC Try.prog 39 [v] m (AnsP m (bestCost k) (bestL k)) := by
  refine rc_of_run mixed ok_impl_bestLots (by simp) (go_start _ _ _ ?_)
  obtain ⟨v1, v2, v3, v4, rfl, h1, h2, h3, h4⟩ := h.ro.ok
  have hc : CaseA (roM m) (.agg #[v1, v2, v3, v4]) k := ⟨_, _, _, _, rfl, h1, h2, h3, h4⟩
  have h8 := hg.n8
  simp (config := {implicitDefEqProofs := false, maxDischargeDepth := 20}) (disch := first | omega | (simp only [lenE]; done) | (simp only [lenE]; omega) | rfl | (simp only [lenE, markR_len]; done) | (simp only [lenE, markR_len]; omega)) only [runE, mapE, listE, initT_5, initT_6, initT_7, initT_8, resV, oneV, binA, unA, reduceCtorEq, Nat.reduceEqDiff, Nat.reduceAdd, Nat.reduceLT, Nat.reduceLeDiff, Nat.reduceMul, Nat.reduceSub, ↓reduceIte, decide_true, decide_false, Bool.true_eq_false, Bool.false_eq_true, Bool.not_true, Bool.not_false, if_true, if_false, and_true, true_and, memE, celE, w64, Nat.zero_add, Nat.add_zero, Nat.mul_one, putL, and_self, ldn, c_impl_bestLots, r_impl_bestLots]
  obtain ⟨M0, hM0⟩ : ∃ M0, M0 = roM m ++ [⟨.own, 28, [v1, v2, v3, v4]⟩] ++ [⟨.own, 50, [.int .i64 0, .slice none 0 0]⟩] := ⟨_, rfl⟩
  have L0 : M0.length = m.length + 1 + 1 := by rw [hM0]; simp [roM_len]
  have hx0 : Grow (roM m ++ [⟨.own, 28, [v1, v2, v3, v4]⟩]) M0 := by rw [hM0]; exact (Grow.refl _).one _ _
  have x0 : Ext m M0 := hx0.ext
  have b2 : M0[m.length + 1]? = some ⟨.own, 50, [.int .i64 0, .slice none 0 0]⟩ := by rw [hM0, List.getElem?_append_right (by simp [roM_len])]; simp [roM_len]
  obtain ⟨q0, -, -, -, hlM⟩ := hx0.box4
  rw [← hM0]
  refine callH_rc (lotsFrom_rc _ _ k (hx0.caseV hc) hg) ?_
  rintro r new ⟨rfl, w1, w2, w3, w4, e1, e2, hcw, rfl⟩
  have hE := lenv_new (t := 28) (e1 := e1) (e2 := e2) hcw
  obtain ⟨N, hN⟩ : ∃ N, N = M0.length := ⟨_, rfl⟩
  have nrF : NoRo (fromM 28 k w1 w2 w3 w4 M0.length e1 e2) := by
    intro b hb
    simp only [fromM, List.mem_cons, List.not_mem_nil, or_false] at hb
    rcases hb with rfl | rfl | rfl | rfl | rfl <;> simp
  obtain ⟨M1, hM1⟩ : ∃ M1, M1 = M0 ++ fromM 28 k w1 w2 w3 w4 M0.length e1 e2 := ⟨_, rfl⟩
  have x1 : Ext m M1 := by rw [hM1]; exact x0.app nrF
  have b21 : M1[m.length + 1]? = some ⟨.own, 50, [.int .i64 0, .slice none 0 0]⟩ := by rw [hM1, List.getElem?_append_left (by omega)]; exact b2
  have q01 : rdc M1 m.length 0 = some v1 := by rw [hM1]; exact rdc_ext q0
  have i11 : IntsA M1 v1 k.need := by rw [hM1]; exact (hx0.intsV h1).ext _
  rw [← hM1] at hE ⊢
  rw [← hN] at hE ⊢
  have hfr : fromV N = .func (.func 85) #[] #[.pointer (some ⟨N + 1 + 1 + 1, 0, none⟩), .pointer (some ⟨N, 0, none⟩), .pointer (some ⟨N + 1, 0, none⟩), .pointer (some ⟨N + 1 + 1 + 1 + 1, 0, none⟩)] := rfl
  have d1 := hE.g.mp
  have g1 : Gw (N + 1 + 1) M1 M1 := Gw.refl fun b hb => by rw [d1] at hb; cases hb; simp
  simp (config := {implicitDefEqProofs := false, maxDischargeDepth := 20}) (disch := first | omega | (simp only [lenE]; done) | (simp only [lenE]; omega) | rfl | (simp only [lenE, markR_len]; done) | (simp only [lenE, markR_len]; omega)) only [runE, mapE, listE, initT_5, initT_6, initT_7, initT_8, resV, oneV, binA, unA, reduceCtorEq, Nat.reduceEqDiff, Nat.reduceAdd, Nat.reduceLT, Nat.reduceLeDiff, Nat.reduceMul, Nat.reduceSub, ↓reduceIte, decide_true, decide_false, Bool.true_eq_false, Bool.false_eq_true, Bool.not_true, Bool.not_false, if_true, if_false, and_true, true_and, memE, celE, w64, Nat.zero_add, Nat.add_zero, Nat.mul_one, putL, and_self, ldn, hfr]
  refine callH_ac (from_ac k hg w1 w2 w3 w4 (N + 1 + 1 + 1) N (N + 1) (N + 1 + 1 + 1 + 1) (N + 1 + 1) e1 k.need.length 0 M1 _ (by omega) hE) ?_
  rintro r M2 ⟨es2, gw2, hE2, hpre2, A2, ln2, cp2, rfl, hrow2⟩
  obtain ⟨n, hn⟩ : ∃ n, n = k.need.length := ⟨_, rfl⟩
  rw [← hn] at hrow2 h8 ⊢
  simp (config := {implicitDefEqProofs := false, maxDischargeDepth := 20}) (disch := first | omega | (simp only [lenE]; done) | (simp only [lenE]; omega) | rfl | (simp only [lenE, markR_len]; done) | (simp only [lenE, markR_len]; omega)) only [runE, mapE, listE, initT_5, initT_6, initT_7, initT_8, resV, oneV, binA, unA, reduceCtorEq, Nat.reduceEqDiff, Nat.reduceAdd, Nat.reduceLT, Nat.reduceLeDiff, Nat.reduceMul, Nat.reduceSub, ↓reduceIte, decide_true, decide_false, Bool.true_eq_false, Bool.false_eq_true, Bool.not_true, Bool.not_false, if_true, if_false, and_true, true_and, memE, celE, w64, Nat.zero_add, Nat.add_zero, Nat.mul_one, putL, and_self, ldn, stP_aggL]
  have l12 := gw2.len
  have L1 : M1.length = N + 1 + 1 + 1 + 1 + 1 := by rw [hM1, List.length_append, ← hN]; rfl
  rw [L0] at hN
  have g22 := gw2.one 50 [.int .i64 (costL k n (dp k n 0)), .slice A2 ln2 cp2]
  have mg22 := hE2.g.app [⟨.own, 50, [.int .i64 (costL k n (dp k n 0)), .slice A2 ln2 cp2]⟩]
  have hrow22 : RowV (M2 ++ [⟨.own, 50, [.int .i64 (costL k n (dp k n 0)), .slice A2 ln2 cp2]⟩]) (.slice A2 ln2 cp2) (dp k n 0) := hrow2.keep fun id l ho => ho.ext _
  refine loop_inv mixed (fun s => ∃ (t : Nat) (M : Mem) (es : List Value) (A : Option Addr) (ln cp : Nat), t ≤ n ∧ (∀ j, j < t → k.need.getD j 0 = 0) ∧ s.t 1 = .pointer (some ⟨m.length, 0, none⟩) ∧ s.t 2 = .pointer (some ⟨m.length + 1, 0, none⟩) ∧
      s.t 3 = .func (.func 85) #[] #[.pointer (some ⟨N + 1 + 1 + 1, 0, none⟩), .pointer (some ⟨N, 0, none⟩), .pointer (some ⟨N + 1, 0, none⟩), .pointer (some ⟨N + 1 + 1 + 1 + 1, 0, none⟩)] ∧ s.t 4 = .pointer (some ⟨M2.length, 0, none⟩) ∧ s.t 5 = .int .i64 t ∧ s.m = M ∧
      Gw (N + 1 + 1) M1 M ∧ MG k (N + 1 + 1) e1 es M ∧ M[M2.length]? = some ⟨.own, 50, [.int .i64 (costL k n (blF k n t)), .slice A ln cp]⟩ ∧ RowV M (.slice A ln cp) (blF k n t)) (fun s => n - (intOf (s.t 5)).toNat)
    ⟨0, _, es2, A2, ln2, cp2, by omega, fun j hj => absurd hj (by omega), rfl, rfl, rfl, rfl, rfl, rfl, g22, mg22, by simp only [put_t, put_t', put_m, putT_t, putT_t', putT_m, init_t, init_m, initT_0, initT_1, initT_2, initT_3, initT_4, initT_5, initT_6, initT_7, initT_8, Nat.reduceEqDiff, ↓reduceIte]; rw [blF]; simp, by simp only [put_t, put_t', put_m, putT_t, putT_t', putT_m, init_t, init_m, initT_0, initT_1, initT_2, initT_3, initT_4, initT_5, initT_6, initT_7, initT_8, Nat.reduceEqDiff, ↓reduceIte]; rw [blF]; exact hrow22⟩ ?_
  rintro s ⟨t, M, es, A, ln, cp, htn, hz, t1, t2, t3, t4, t5, tm, gw, mg, b4, hrow⟩
  have hE1 := hE.gw gw mg
  have q0 := gw.rd d1 q01
  have i1 := gw.ints d1 i11
  have il := i1.len
  rw [← hn] at il
  have b2M := gw.blk b21 (by omega)
  have r40 := rd_own (k := 0) b4
  have r41 := rd_own (k := 1) b4
  have fin : ∀ (T : Nat), T = t → (T = n ∨ (T < n ∧ k.need.getD T 0 ≠ 0)) → ∀ M9, M9 = M.set (m.length + 1) ⟨.own, 50, [.int .i64 (costL k n (blF k n t)), .slice A ln cp]⟩ → newQ m (AnsP m (bestCost k) (bestL k)) (.agg #[.int .i64 (costL k n (blF k n t)), .slice A ln cp]) M9 := by
    intro T hT hTn M9 h9
    subst hT
    have hb := bestL_dp hg (T := T) (by omega) hz (by rw [← hn]; exact hTn)
    rw [hb.1, hb.2, ← hn]
    refine ansP_of ?_ ?_
    · rw [h9]; exact (ext_gw x1 gw (by omega)).put (by omega) _ _
    · rw [h9]; exact hrow.box b2M (by decide)
  have wr := st2_own b2M (costL k n (blF k n t)) A ln cp
  obtain ⟨M9, hM9⟩ : ∃ M9, M9 = M.set (m.length + 1) ⟨.own, 50, [.int .i64 (costL k n (blF k n t)), .slice A ln cp]⟩ := ⟨_, rfl⟩
  rw [← hM9] at wr
  have b99 : M9[m.length + 1]? = some ⟨.own, 50, [.int .i64 (costL k n (blF k n t)), .slice A ln cp]⟩ := by rw [hM9, List.getElem?_set_self (List.getElem?_eq_some_iff.1 b2M).1]
  have s90 := rd_own (k := 0) b99
  have s91 := rd_own (k := 1) b99
  by_cases hlt : t < n
  · have hlt' : (t : Int) < n := by omega
    have ai := i1.at_ t (by omega)
    have li := i1.ld t (by omega)
    by_cases hzt : k.need.getD t 0 = 0
    · have hzt' : (k.need.getD t 0 == 0) = true := by rw [hzt]; rfl
      obtain ⟨t', ht'⟩ : ∃ t', t' = t + 1 := ⟨_, rfl⟩
      have et : (t : Int) + 1 = (t' : Int) := by omega
      simp (config := {implicitDefEqProofs := false, maxDischargeDepth := 20}) (disch := first | omega | (simp only [lenE]; done) | (simp only [lenE]; omega) | rfl | (simp only [lenE, markR_len]; done) | (simp only [lenE, markR_len]; omega)) only [runE, mapE, listE, initT_5, initT_6, initT_7, initT_8, resV, oneV, binA, unA, reduceCtorEq, Nat.reduceEqDiff, Nat.reduceAdd, Nat.reduceLT, Nat.reduceLeDiff, Nat.reduceMul, Nat.reduceSub, ↓reduceIte, decide_true, decide_false, Bool.true_eq_false, Bool.false_eq_true, Bool.not_true, Bool.not_false, if_true, if_false, and_true, true_and, memE, celE, w64, Nat.zero_add, Nat.add_zero, Nat.mul_one, putL, and_self, ldn, t1, t2, t3, t4, t5, tm, q0, il, hlt', ai, li, hzt', et]
      refine callH_ac (from_ac k hg w1 w2 w3 w4 (N + 1 + 1 + 1) N (N + 1) (N + 1 + 1 + 1 + 1) (N + 1 + 1) e1 (n - t') t' M es (by omega) hE1) ?_
      rintro r M3 ⟨es3, gw3, hE3, hpre3, A3, ln3, cp3, rfl, hrow3⟩
      rw [← hn] at hrow3 ⊢
      have hgw := gw.trans gw3
      have b43 := gw3.blk b4 (by omega)
      have hl43 := (List.getElem?_eq_some_iff.1 b43).1
      have r430 := rd_own (k := 0) b43
      have r431 := rd_own (k := 1) b43
      have hrow43 := hrow.keep fun id l ho => gw3.own hE1.g.mp ho
      simp (config := {implicitDefEqProofs := false, maxDischargeDepth := 20}) (disch := first | omega | (simp only [lenE]; done) | (simp only [lenE]; omega) | rfl | (simp only [lenE, markR_len]; done) | (simp only [lenE, markR_len]; omega)) only [runE, mapE, listE, initT_5, initT_6, initT_7, initT_8, resV, oneV, binA, unA, reduceCtorEq, Nat.reduceEqDiff, Nat.reduceAdd, Nat.reduceLT, Nat.reduceLeDiff, Nat.reduceMul, Nat.reduceSub, ↓reduceIte, decide_true, decide_false, Bool.true_eq_false, Bool.false_eq_true, Bool.not_true, Bool.not_false, if_true, if_false, and_true, true_and, memE, celE, w64, Nat.zero_add, Nat.add_zero, Nat.mul_one, putL, and_self, ldn, t1, t2, t3, t4, t5, stP_aggL, r430, r431]
      refine callH_rc (comesBefore_rc _ _ _ _ _ (dp k n t') (blF k n t) (hrow3.ints.ext _) (hrow43.ints.ext _)) ?_
      rintro r new6 ⟨rfl, nr6⟩
      obtain ⟨M6, hM6⟩ : ∃ M6, M6 = M3 ++ [⟨.own, 50, [.int .i64 (costL k n (dp k n t')), .slice A3 ln3 cp3]⟩] ++ new6 := ⟨_, rfl⟩
      have g6 : Gw (N + 1 + 1) M1 M6 := by rw [hM6]; exact (hgw.one _ _).app nr6
      have mg6 : MG k (N + 1 + 1) e1 es3 M6 := by rw [hM6]; exact (hE3.g.app _).app _
      have b46 : M6[M2.length]? = some ⟨.own, 50, [.int .i64 (costL k n (blF k n t)), .slice A ln cp]⟩ := by
        rw [hM6, List.append_assoc, List.getElem?_append_left hl43]; exact b43
      have b66 : M6[M3.length]? = some ⟨.own, 50, [.int .i64 (costL k n (dp k n t')), .slice A3 ln3 cp3]⟩ := by rw [hM6, List.append_assoc]; simp
      have hrow6 : RowV M6 (.slice A ln cp) (blF k n t) := by rw [hM6]; exact hrow43.keep fun id l ho => (ho.ext _).ext _
      have hrow36 : RowV M6 (.slice A3 ln3 cp3) (dp k n t') := by rw [hM6]; exact hrow3.keep fun id l ho => (ho.ext _).ext _
      have r60 := rd_own (k := 0) b66
      have r61 := rd_own (k := 1) b66
      have w6 := st2_own b46 (costL k n (dp k n t')) A3 ln3 cp3
      have hbl : blF k n t' = if bef (costL k n (dp k n t'), dp k n t') (costL k n (blF k n t), blF k n t) = true then dp k n t' else blF k n t := by rw [ht', blF]
      have hz' : ∀ j, j < t' → k.need.getD j 0 = 0 := fun j hj => by
        by_cases e : j = t
        · rw [e]; exact hzt
        · exact hz j (by omega)
      rw [← hM6]
      cases hb : bef (costL k n (dp k n t'), dp k n t') (costL k n (blF k n t), blF k n t) with
      | false =>
        rw [hb, if_neg (by simp)] at hbl
        simp (config := {implicitDefEqProofs := false, maxDischargeDepth := 20}) (disch := first | omega | (simp only [lenE]; done) | (simp only [lenE]; omega) | rfl | (simp only [lenE, markR_len]; done) | (simp only [lenE, markR_len]; omega)) only [runE, mapE, listE, initT_5, initT_6, initT_7, initT_8, resV, oneV, binA, unA, reduceCtorEq, Nat.reduceEqDiff, Nat.reduceAdd, Nat.reduceLT, Nat.reduceLeDiff, Nat.reduceMul, Nat.reduceSub, ↓reduceIte, decide_true, decide_false, Bool.true_eq_false, Bool.false_eq_true, Bool.not_true, Bool.not_false, if_true, if_false, and_true, true_and, memE, celE, w64, Nat.zero_add, Nat.add_zero, Nat.mul_one, putL, and_self, ldn, t1, t2, t3, t4, t5, et]
        exact ⟨⟨t', M6, es3, A, ln, cp, by omega, hz', by simp, rfl, g6, mg6, by rw [hbl]; exact b46, by rw [hbl]; exact hrow6⟩, by simp [intOf]; omega⟩
      | true =>
        rw [hb, if_pos rfl] at hbl
        simp (config := {implicitDefEqProofs := false, maxDischargeDepth := 20}) (disch := first | omega | (simp only [lenE]; done) | (simp only [lenE]; omega) | rfl | (simp only [lenE, markR_len]; done) | (simp only [lenE, markR_len]; omega)) only [runE, mapE, listE, initT_5, initT_6, initT_7, initT_8, resV, oneV, binA, unA, reduceCtorEq, Nat.reduceEqDiff, Nat.reduceAdd, Nat.reduceLT, Nat.reduceLeDiff, Nat.reduceMul, Nat.reduceSub, ↓reduceIte, decide_true, decide_false, Bool.true_eq_false, Bool.false_eq_true, Bool.not_true, Bool.not_false, if_true, if_false, and_true, true_and, memE, celE, w64, Nat.zero_add, Nat.add_zero, Nat.mul_one, putL, and_self, ldn, t1, t2, t3, t4, t5, et, r60, r61, stP_aggL, w6]
        refine ⟨⟨t', _, es3, A3, ln3, cp3, by omega, hz', by simp, rfl, g6.set (.inl (by omega)) (by simp), mg6.box b46 (by decide), ?_, by rw [hbl]; exact hrow36.box b46 (by decide)⟩, by simp [intOf]; omega⟩
        rw [hbl, List.getElem?_set_self (List.getElem?_eq_some_iff.1 b46).1]
    · have hzt' : (k.need.getD t 0 == 0) = false := by simpa using hzt
      simp (config := {implicitDefEqProofs := false, maxDischargeDepth := 20}) (disch := first | omega | (simp only [lenE]; done) | (simp only [lenE]; omega) | rfl | (simp only [lenE, markR_len]; done) | (simp only [lenE, markR_len]; omega)) only [runE, mapE, listE, initT_5, initT_6, initT_7, initT_8, resV, oneV, binA, unA, reduceCtorEq, Nat.reduceEqDiff, Nat.reduceAdd, Nat.reduceLT, Nat.reduceLeDiff, Nat.reduceMul, Nat.reduceSub, ↓reduceIte, decide_true, decide_false, Bool.true_eq_false, Bool.false_eq_true, Bool.not_true, Bool.not_false, if_true, if_false, and_true, true_and, memE, celE, w64, Nat.zero_add, Nat.add_zero, Nat.mul_one, putL, and_self, ldn, t1, t2, t3, t4, t5, tm, q0, il, hlt', ai, li, hzt', r40, r41, stP_aggL, wr, s90, s91]
      exact fin t rfl (.inr ⟨hlt, hzt⟩) M9 hM9
  · have hlt' : ¬ ((t : Int) < n) := by omega
    simp (config := {implicitDefEqProofs := false, maxDischargeDepth := 20}) (disch := first | omega | (simp only [lenE]; done) | (simp only [lenE]; omega) | rfl | (simp only [lenE, markR_len]; done) | (simp only [lenE, markR_len]; omega)) only [runE, mapE, listE, initT_5, initT_6, initT_7, initT_8, resV, oneV, binA, unA, reduceCtorEq, Nat.reduceEqDiff, Nat.reduceAdd, Nat.reduceLT, Nat.reduceLeDiff, Nat.reduceMul, Nat.reduceSub, ↓reduceIte, decide_true, decide_false, Bool.true_eq_false, Bool.false_eq_true, Bool.not_true, Bool.not_false, if_true, if_false, and_true, true_and, memE, celE, w64, Nat.zero_add, Nat.add_zero, Nat.mul_one, putL, and_self, ldn, t1, t2, t3, t4, t5, tm, q0, il, hlt', r40, r41, stP_aggL, wr, s90, s91, goG_undef]
    exact fin t rfl (.inl (by omega)) M9 hM9

theorem implBestCost_rc (m : Mem) (v : Value) (k : Cs) (h : CaseA m v k) : RC Try.prog 14 [v] m (AnsV (.tuple #[.int .i64 (bestCA k), .bool k.good])) := by
  refine rc_of_run mixed ok_impl_BestCost (by simp) (go_start _ _ _ ?_)
  obtain ⟨v1, v2, v3, v4, rfl, h1, h2, h3, h4⟩ := h.ro.ok
  have hc : CaseA (roM m) (.agg #[v1, v2, v3, v4]) k := ⟨_, _, _, _, rfl, h1, h2, h3, h4⟩
  simp (config := {implicitDefEqProofs := false, maxDischargeDepth := 20}) (disch := first | omega | (simp only [lenE]; done) | (simp only [lenE]; omega) | rfl | (simp only [lenE, markR_len]; done) | (simp only [lenE, markR_len]; omega)) only [runE, mapE, listE, initT_5, initT_6, initT_7, initT_8, resV, oneV, binA, unA, reduceCtorEq, Nat.reduceEqDiff, Nat.reduceAdd, Nat.reduceLT, Nat.reduceLeDiff, Nat.reduceMul, Nat.reduceSub, ↓reduceIte, decide_true, decide_false, Bool.true_eq_false, Bool.false_eq_true, Bool.not_true, Bool.not_false, if_true, if_false, and_true, true_and, memE, celE, w64, Nat.zero_add, Nat.add_zero, Nat.mul_one, putL, and_self, ldn, c_impl_BestCost, r_impl_BestCost]
  refine callH_rc (implIsCase_rc _ _ k (hc.ext _)) ?_
  rintro r new ⟨rfl, nr1⟩
  have hx : Grow (roM m ++ [⟨.own, 28, [v1, v2, v3, v4]⟩]) (roM m ++ [⟨.own, 28, [v1, v2, v3, v4]⟩] ++ new) := (Grow.refl _).app nr1
  cases hg : k.good with
  | false =>
    simp (config := {implicitDefEqProofs := false, maxDischargeDepth := 20}) (disch := first | omega | (simp only [lenE]; done) | (simp only [lenE]; omega) | rfl | (simp only [lenE, markR_len]; done) | (simp only [lenE, markR_len]; omega)) only [runE, mapE, listE, initT_5, initT_6, initT_7, initT_8, resV, oneV, binA, unA, reduceCtorEq, Nat.reduceEqDiff, Nat.reduceAdd, Nat.reduceLT, Nat.reduceLeDiff, Nat.reduceMul, Nat.reduceSub, ↓reduceIte, decide_true, decide_false, Bool.true_eq_false, Bool.false_eq_true, Bool.not_true, Bool.not_false, if_true, if_false, and_true, true_and, memE, celE, w64, Nat.zero_add, Nat.add_zero, Nat.mul_one, putL, and_self, ldn]
    rw [bestCA_no hg]
    exact ext_ansV hx.ext rfl
  | true =>
    have gd := good_iff.1 hg
    rw [bestCA_yes hg]
    simp (config := {implicitDefEqProofs := false, maxDischargeDepth := 20}) (disch := first | omega | (simp only [lenE]; done) | (simp only [lenE]; omega) | rfl | (simp only [lenE, markR_len]; done) | (simp only [lenE, markR_len]; omega)) only [runE, mapE, listE, initT_5, initT_6, initT_7, initT_8, resV, oneV, binA, unA, reduceCtorEq, Nat.reduceEqDiff, Nat.reduceAdd, Nat.reduceLT, Nat.reduceLeDiff, Nat.reduceMul, Nat.reduceSub, ↓reduceIte, decide_true, decide_false, Bool.true_eq_false, Bool.false_eq_true, Bool.not_true, Bool.not_false, if_true, if_false, and_true, true_and, memE, celE, w64, Nat.zero_add, Nat.add_zero, Nat.mul_one, putL, and_self, ldn]
    refine callH_rc (bestLots_rc _ _ k (hx.caseV hc) gd) ?_
    rintro r new2 ⟨nr2, A, ln, cp, rfl, -⟩
    have f0 : fldA 0 none (.agg #[.int .i64 (bestCost k), .slice A ln cp]) = some (.int .i64 (bestCost k)) := rfl
    simp (config := {implicitDefEqProofs := false, maxDischargeDepth := 20}) (disch := first | omega | (simp only [lenE]; done) | (simp only [lenE]; omega) | rfl | (simp only [lenE, markR_len]; done) | (simp only [lenE, markR_len]; omega)) only [runE, mapE, listE, initT_5, initT_6, initT_7, initT_8, resV, oneV, binA, unA, reduceCtorEq, Nat.reduceEqDiff, Nat.reduceAdd, Nat.reduceLT, Nat.reduceLeDiff, Nat.reduceMul, Nat.reduceSub, ↓reduceIte, decide_true, decide_false, Bool.true_eq_false, Bool.false_eq_true, Bool.not_true, Bool.not_false, if_true, if_false, and_true, true_and, memE, celE, w64, Nat.zero_add, Nat.add_zero, Nat.mul_one, putL, and_self, ldn, f0]
    exact ext_ansV (hx.app nr2).ext rfl
end Go.Proofs.Ytonpeflncnccdaa.Ab
