/- What the law needs of the texts that it rests on. -/
import Derived.Test.YtamhhicnfpemeaaShChainBound1
section
namespace Go.Proofs.Ytamhhicnfpemeaa.Ab
open Go Go.RowKit
set_option linter.unusedVariables false
set_option linter.unusedSimpArgs false
def fromV (n : Nat) : Value := .func (.func 155) #[] #[.pointer (some ⟨n + 1 + 1 + 1, 0, none⟩), .pointer (some ⟨n, 0, none⟩), .pointer (some ⟨n + 1, 0, none⟩), .pointer (some ⟨n + 1 + 1 + 1 + 1, 0, none⟩)]
def fromM (t : TypeId) (k : Cs) (v1 v2 v3 v4 : Value) (n : Nat) (e1 e2 : TypeId) : Mem := [⟨.own, t, [v1, v2, v3, v4]⟩, ⟨.own, 3, [.int .i64 k.need.length]⟩, ⟨.dead, e1, [.bool true, .tuple #[.int .i64 k.need.length, .agg #[.int .i64 0, .slice none 0 0]]]⟩,
  ⟨.own, e1, [.map (some (n + 1 + 1))]⟩, ⟨.own, e2, [fromV n]⟩]
theorem lenv_new {M : Mem} {t e1 e2 : TypeId} {k : Cs} {v1 v2 v3 v4 : Value} (h : CaseA M (.agg #[v1, v2, v3, v4]) k) :
    LEnv k v1 v2 v3 v4 (M.length + 1 + 1 + 1) M.length (M.length + 1) (M.length + 1 + 1 + 1 + 1) (M.length + 1 + 1) e1 [.tuple #[.int .i64 k.need.length, .agg #[.int .i64 0, .slice none 0 0]]] (M ++ fromM t k v1 v2 v3 v4 M.length e1 e2) := by
  have at_ : ∀ i, (M ++ fromM t k v1 v2 v3 v4 M.length e1 e2)[M.length + i]? = (fromM t k v1 v2 v3 v4 M.length e1 e2)[i]? := fun i => by
    rw [List.getElem?_append_right (by omega), Nat.add_sub_cancel_left]
  have a0 := at_ 0
  rw [Nat.add_zero] at a0
  have a1 := at_ 1
  have a2 := at_ 2
  have a3 := at_ 3
  have a4 := at_ 4
  refine ⟨?_, ?_, ?_, ?_, ?_, h.ext _, ?_, ?_, ⟨?_, fun x v hv => ?_, ?_⟩⟩
  · unfold rdc; rw [show M.length + 1 + 1 + 1 = M.length + 3 from rfl, a3]; rfl
  · unfold rdc; rw [a0]; rfl
  · unfold rdc; rw [a0]; rfl
  · unfold rdc; rw [a0]; rfl
  · unfold rdc; rw [a0]; rfl
  · unfold rdc; rw [a1]; rfl
  · unfold rdc; rw [show M.length + 1 + 1 + 1 + 1 = M.length + 4 from rfl, a4]; rfl
  · rw [show M.length + 1 + 1 = M.length + 2 from rfl, a2]; rfl
  · simp only [lkE] at hv
    split at hv
    · rename_i hx
      cases hv
      refine ⟨k.need.length, hx.symm, Nat.le_refl _, none, 0, 0, ?_, ?_⟩
      · rw [dp_end k (Nat.le_refl _)]; rfl
      · rw [dp_end k (Nat.le_refl _)]; exact .inl ⟨rfl, rfl⟩
    · cases hv
  · simp [lkE]
theorem lotsFrom_rc (m : Mem) (v : Value) (k : Cs) (h : CaseA m v k) (hg : Good k) :
    RC Try.prog 126 [v] m fun r new => r = fromV m.length ∧ ∃ v1 v2 v3 v4 e1 e2, CaseA m (.agg #[v1, v2, v3, v4]) k ∧ new = fromM 30 k v1 v2 v3 v4 m.length e1 e2 := by
  refine rc_of_run mixed ok_impl_lotsFrom (by simp) (go_start _ _ _ ?_)
  obtain ⟨v1, v2, v3, v4, rfl, -, -, -, -⟩ := h.ok
  obtain ⟨w1, w2, w3, w4, he, h1, h2, h3, h4⟩ := h.ro.ok
  cases he
  have mu : ∀ {M : Mem} {e : TypeId} {x : Int} {v : Value} {id : Nat}, id = M.length → mupA (M ++ [⟨.dead, e, [.bool true]⟩]) (.map (some id)) (.int .i64 x) v = some (M ++ [⟨.dead, e, [.bool true, .tuple #[.int .i64 x, v]]⟩]) := fun {M e x v id} hid => by
    subst hid
    have := mupA_mp (M := M ++ [⟨.dead, e, [.bool true]⟩]) (mid := M.length) (e := e) (es := []) (by simp) (x := x) rfl v
    rw [this]; simp
  simp (config := {implicitDefEqProofs := false, maxDischargeDepth := 20}) (disch := first | omega | (simp only [lenE]; done) | (simp only [lenE]; omega) | rfl | (simp only [lenE, markR_len]; done) | (simp only [lenE, markR_len]; omega)) only [runE, mapE, listE, initT_5, initT_6, initT_7, initT_8, resV, oneV, binA, unA, reduceCtorEq, Nat.reduceEqDiff, Nat.reduceAdd, Nat.reduceLT, Nat.reduceLeDiff, Nat.reduceMul, Nat.reduceSub, ↓reduceIte, decide_true, decide_false, Bool.true_eq_false, Bool.false_eq_true, Bool.not_true, Bool.not_false, if_true, if_false, and_true, true_and, memE, celE, w64, Nat.zero_add, Nat.add_zero, Nat.mul_one, putL, and_self, ldn, c_impl_lotsFrom, r_impl_lotsFrom, h1.len, bld_nil, mu]
  refine ⟨fromM 30 k v1 v2 v3 v4 m.length 158 134, ?_, ?_, rfl, v1, v2, v3, v4, _, _, h, rfl⟩
  · simp only [List.append_assoc]; rfl
  · intro b hb
    simp only [fromM, List.mem_cons, List.not_mem_nil, or_false] at hb
    rcases hb with rfl | rfl | rfl | rfl | rfl <;> simp

theorem ext_gw {m M0 M : Mem} {mid : Nat} (h : Ext m M0) (hg : Gw mid M0 M) (hmid : m.length ≤ mid) : Ext m M := by
  obtain ⟨new, rfl, hn⟩ := h
  have hl := hg.len
  rw [List.length_append, roM_len] at hl
  refine ⟨M.drop m.length, ?_, fun b hb => ?_⟩
  · have : M.take m.length = roM m := by
      apply List.ext_getElem?
      intro i
      rw [List.getElem?_take]
      by_cases hi : i < m.length
      · rw [if_pos hi, hg.old i (by rw [List.length_append, roM_len]; omega) (by omega), List.getElem?_append_left (by rw [roM_len]; exact hi)]
      · rw [if_neg hi, List.getElem?_eq_none (by rw [roM_len]; omega)]
    rw [← this, List.take_append_drop]
  · obtain ⟨i, hi⟩ := List.mem_iff_getElem?.1 hb
    rw [List.getElem?_drop] at hi
    by_cases e : m.length + i = mid
    · rw [e] at hi; exact hg.at_ b hi
    · by_cases h2 : m.length + i < (roM m ++ new).length
      · rw [hg.old _ h2 e, List.getElem?_append_right (by rw [roM_len]; omega)] at hi
        exact hn b (List.mem_of_getElem? hi)
      · exact hg.new _ b (by omega) hi
def AnsP (m : Mem) (c : Int) (l : List Int) (r : Value) (new : Mem) : Prop := NoRo new ∧ ∃ A ln cp, r = .agg #[.int .i64 c, .slice A ln cp] ∧ ((A = none ∧ ln = 0 ∧ cp = 0 ∧ l = []) ∨
  ∃ id fl, A = some ⟨id, 0, none⟩ ∧ ln = l.length ∧ cp = fl ∧ m.length ≤ id ∧ OwnR (m ++ new) id l ∧ l.length ≤ 1048576)
theorem own_new {m new : Mem} {id : Nat} {l : List Int} (h : OwnR (roM m ++ new) id l) : m.length ≤ id ∧ OwnR (m ++ new) id l := by
  have hb : (roM m ++ new)[id]? = some (rowB l) := h
  by_cases hi : id < m.length
  · rw [List.getElem?_append_left (by rw [roM_len]; exact hi), roM, List.getElem?_map] at hb
    cases hm : m[id]? with
    | none => rw [hm] at hb; cases hb
    | some b =>
      rw [hm] at hb
      obtain ⟨kd, e, xs⟩ := b
      cases kd <;> simp [roB, rowB, deadB] at hb
  · refine ⟨by omega, ?_⟩
    show (m ++ new)[id]? = some (rowB l)
    rw [List.getElem?_append_right (by rw [roM_len]; omega), roM_len] at hb
    rw [List.getElem?_append_right (by omega)]
    exact hb
theorem ansP_of {m M : Mem} {c : Int} {l : List Int} {A : Option Addr} {ln cp : Nat} (h : Ext m M) (hr : RowV M (.slice A ln cp) l) : newQ m (AnsP m c l) (.agg #[.int .i64 c, .slice A ln cp]) M := by
  obtain ⟨new, rfl, hn⟩ := h
  refine ⟨new, rfl, hn, hn, A, ln, cp, rfl, ?_⟩
  rcases hr with ⟨h1, h2⟩ | ⟨id, fl, h1, h2, h3⟩
  · cases h1; exact .inl ⟨rfl, rfl, rfl, h2⟩
  · cases h1
    obtain ⟨h4, h5⟩ := own_new h2
    exact .inr ⟨id, _, rfl, rfl, rfl, h4, h5, h3⟩
theorem RowV.box {M : Mem} {v : Value} {l : List Int} (h : RowV M v l) {id : Nat} {t : TypeId} {cs : List Value} {b : Blk} (hb : M[id]? = some ⟨.own, t, cs⟩) (ht : t ≠ 3) : RowV (M.set id b) v l :=
  h.keep fun i l ho => ho.set_ne fun e2 => by
    subst e2
    have : M[id]? = some (rowB l) := ho
    rw [hb] at this
    cases this
    exact ht rfl
theorem bestLots_rc (m : Mem) (v : Value) (k : Cs) (h : CaseA m v k) (hg : Good k) : RC Try.prog 93 [v] m (AnsP m (bestCost k) (bestL k)) := by
  refine rc_of_run mixed ok_impl_bestLots (by simp) (go_start _ _ _ ?_)
  obtain ⟨v1, v2, v3, v4, rfl, h1, h2, h3, h4⟩ := h.ro.ok
  have hc : CaseA (roM m) (.agg #[v1, v2, v3, v4]) k := ⟨_, _, _, _, rfl, h1, h2, h3, h4⟩
  have h8 := hg.n8
  simp (config := {implicitDefEqProofs := false, maxDischargeDepth := 20}) (disch := first | omega | (simp only [lenE]; done) | (simp only [lenE]; omega) | rfl | (simp only [lenE, markR_len]; done) | (simp only [lenE, markR_len]; omega)) only [runE, mapE, listE, initT_5, initT_6, initT_7, initT_8, resV, oneV, binA, unA, reduceCtorEq, Nat.reduceEqDiff, Nat.reduceAdd, Nat.reduceLT, Nat.reduceLeDiff, Nat.reduceMul, Nat.reduceSub, ↓reduceIte, decide_true, decide_false, Bool.true_eq_false, Bool.false_eq_true, Bool.not_true, Bool.not_false, if_true, if_false, and_true, true_and, memE, celE, w64, Nat.zero_add, Nat.add_zero, Nat.mul_one, putL, and_self, ldn, c_impl_bestLots, r_impl_bestLots]
  obtain ⟨M0, hM0⟩ : ∃ M0, M0 = roM m ++ [⟨.own, 30, [v1, v2, v3, v4]⟩] ++ [⟨.own, 103, [.int .i64 0, .slice none 0 0]⟩] := ⟨_, rfl⟩
  have L0 : M0.length = m.length + 1 + 1 := by rw [hM0]; simp [roM_len]
  have hx0 : Grow (roM m ++ [⟨.own, 30, [v1, v2, v3, v4]⟩]) M0 := by rw [hM0]; exact (Grow.refl _).one _ _
  have x0 : Ext m M0 := hx0.ext
  have b2 : M0[m.length + 1]? = some ⟨.own, 103, [.int .i64 0, .slice none 0 0]⟩ := by rw [hM0, List.getElem?_append_right (by simp [roM_len])]; simp [roM_len]
  obtain ⟨q0, -, -, -, hlM⟩ := hx0.box4
  rw [← hM0]
  refine callH_rc (lotsFrom_rc _ _ k (hx0.caseV hc) hg) ?_
  rintro r new ⟨rfl, w1, w2, w3, w4, e1, e2, hcw, rfl⟩
  have hE := lenv_new (t := 30) (e1 := e1) (e2 := e2) hcw
  obtain ⟨N, hN⟩ : ∃ N, N = M0.length := ⟨_, rfl⟩
  have nrF : NoRo (fromM 30 k w1 w2 w3 w4 M0.length e1 e2) := by
    intro b hb
    simp only [fromM, List.mem_cons, List.not_mem_nil, or_false] at hb
    rcases hb with rfl | rfl | rfl | rfl | rfl <;> simp
  obtain ⟨M1, hM1⟩ : ∃ M1, M1 = M0 ++ fromM 30 k w1 w2 w3 w4 M0.length e1 e2 := ⟨_, rfl⟩
  have x1 : Ext m M1 := by rw [hM1]; exact x0.app nrF
  have b21 : M1[m.length + 1]? = some ⟨.own, 103, [.int .i64 0, .slice none 0 0]⟩ := by rw [hM1, List.getElem?_append_left (by omega)]; exact b2
  have q01 : rdc M1 m.length 0 = some v1 := by rw [hM1]; exact rdc_ext q0
  have i11 : IntsA M1 v1 k.need := by rw [hM1]; exact (hx0.intsV h1).ext _
  rw [← hM1] at hE ⊢
  rw [← hN] at hE ⊢
  have hfr : fromV N = .func (.func 155) #[] #[.pointer (some ⟨N + 1 + 1 + 1, 0, none⟩), .pointer (some ⟨N, 0, none⟩), .pointer (some ⟨N + 1, 0, none⟩), .pointer (some ⟨N + 1 + 1 + 1 + 1, 0, none⟩)] := rfl
  have d1 := hE.g.mp
  have g1 : Gw (N + 1 + 1) M1 M1 := Gw.refl fun b hb => by rw [d1] at hb; cases hb; simp
  simp (config := {implicitDefEqProofs := false, maxDischargeDepth := 20}) (disch := first | omega | (simp only [lenE]; done) | (simp only [lenE]; omega) | rfl | (simp only [lenE, markR_len]; done) | (simp only [lenE, markR_len]; omega)) only [runE, mapE, listE, initT_5, initT_6, initT_7, initT_8, resV, oneV, binA, unA, reduceCtorEq, Nat.reduceEqDiff, Nat.reduceAdd, Nat.reduceLT, Nat.reduceLeDiff, Nat.reduceMul, Nat.reduceSub, ↓reduceIte, decide_true, decide_false, Bool.true_eq_false, Bool.false_eq_true, Bool.not_true, Bool.not_false, if_true, if_false, and_true, true_and, memE, celE, w64, Nat.zero_add, Nat.add_zero, Nat.mul_one, putL, and_self, ldn, hfr]
  refine callH_ac (from_ac k hg w1 w2 w3 w4 (N + 1 + 1 + 1) N (N + 1) (N + 1 + 1 + 1 + 1) (N + 1 + 1) e1 k.need.length 0 M1 _ (by omega) hE) ?_
  rintro r M2 ⟨es2, gw2, hE2, hpre2, A2, ln2, cp2, rfl, hrow2⟩
  obtain ⟨n, hn⟩ : ∃ n, n = k.need.length := ⟨_, rfl⟩
  rw [← hn] at hrow2 h8 ⊢
  simp (config := {implicitDefEqProofs := false, maxDischargeDepth := 20}) (disch := first | omega | (simp only [lenE]; done) | (simp only [lenE]; omega) | rfl | (simp only [lenE, markR_len]; done) | (simp only [lenE, markR_len]; omega)) only [runE, mapE, listE, initT_5, initT_6, initT_7, initT_8, resV, oneV, binA, unA, reduceCtorEq, Nat.reduceEqDiff, Nat.reduceAdd, Nat.reduceLT, Nat.reduceLeDiff, Nat.reduceMul, Nat.reduceSub, ↓reduceIte, decide_true, decide_false, Bool.true_eq_false, Bool.false_eq_true, Bool.not_true, Bool.not_false, if_true, if_false, and_true, true_and, memE, celE, w64, Nat.zero_add, Nat.add_zero, Nat.mul_one, putL, and_self, ldn, stP_aggL]
  have l12 := gw2.len
  have L1 : M1.length = N + 1 + 1 + 1 + 1 + 1 := by rw [hM1, List.length_append, ← hN]; rfl
  rw [L0] at hN
  have g22 := gw2.one 103 [.int .i64 (costL k n (dp k n 0)), .slice A2 ln2 cp2]
  have mg22 := hE2.g.app [⟨.own, 103, [.int .i64 (costL k n (dp k n 0)), .slice A2 ln2 cp2]⟩]
  have hrow22 : RowV (M2 ++ [⟨.own, 103, [.int .i64 (costL k n (dp k n 0)), .slice A2 ln2 cp2]⟩]) (.slice A2 ln2 cp2) (dp k n 0) := hrow2.keep fun id l ho => ho.ext _
  refine loop_inv mixed (fun s => ∃ (t : Nat) (M : Mem) (es : List Value) (A : Option Addr) (ln cp : Nat), t ≤ n ∧ (∀ j, j < t → k.need.getD j 0 = 0) ∧ s.t 1 = .pointer (some ⟨m.length, 0, none⟩) ∧ s.t 2 = .pointer (some ⟨m.length + 1, 0, none⟩) ∧
      s.t 3 = .func (.func 155) #[] #[.pointer (some ⟨N + 1 + 1 + 1, 0, none⟩), .pointer (some ⟨N, 0, none⟩), .pointer (some ⟨N + 1, 0, none⟩), .pointer (some ⟨N + 1 + 1 + 1 + 1, 0, none⟩)] ∧ s.t 4 = .pointer (some ⟨M2.length, 0, none⟩) ∧ s.t 5 = .int .i64 t ∧ s.m = M ∧
      Gw (N + 1 + 1) M1 M ∧ MG k (N + 1 + 1) e1 es M ∧ M[M2.length]? = some ⟨.own, 103, [.int .i64 (costL k n (blF k n t)), .slice A ln cp]⟩ ∧ RowV M (.slice A ln cp) (blF k n t)) (fun s => n - (intOf (s.t 5)).toNat)
    ⟨0, _, es2, A2, ln2, cp2, by omega, fun j hj => absurd hj (by omega), rfl, rfl, rfl, rfl, rfl, rfl, g22, mg22, by simp only [put_t, put_t', put_m, putT_t, putT_t', putT_m, init_t, init_m, initT_0, initT_1, initT_2, initT_3, initT_4, initT_5, initT_6, initT_7, initT_8, Nat.reduceEqDiff, ↓reduceIte]; rw [blF]; simp, by simp only [put_t, put_t', put_m, putT_t, putT_t', putT_m, init_t, init_m, initT_0, initT_1, initT_2, initT_3, initT_4, initT_5, initT_6, initT_7, initT_8, Nat.reduceEqDiff, ↓reduceIte]; rw [blF]; exact hrow22⟩ ?_
  rintro s ⟨t, M, es, A, ln, cp, htn, hz, t1, t2, t3, t4, t5, tm, gw, mg, b4, hrow⟩
  have hE1 := hE.gw gw mg
  have q0 := gw.rd d1 q01
  have i1 := gw.ints d1 i11
  have il := i1.len
  rw [← hn] at il
  have b2M := gw.blk b21 (by omega)
  have r40 := rd_own (k := 0) b4
  have r41 := rd_own (k := 1) b4
  have fin : ∀ (T : Nat), T = t → (T = n ∨ (T < n ∧ k.need.getD T 0 ≠ 0)) → ∀ M9, M9 = M.set (m.length + 1) ⟨.own, 103, [.int .i64 (costL k n (blF k n t)), .slice A ln cp]⟩ → newQ m (AnsP m (bestCost k) (bestL k)) (.agg #[.int .i64 (costL k n (blF k n t)), .slice A ln cp]) M9 := by
    intro T hT hTn M9 h9
    subst hT
    have hb := bestL_dp hg (T := T) (by omega) hz (by rw [← hn]; exact hTn)
    rw [hb.1, hb.2, ← hn]
    refine ansP_of ?_ ?_
    · rw [h9]; exact (ext_gw x1 gw (by omega)).put (by omega) _ _
    · rw [h9]; exact hrow.box b2M (by decide)
  have wr := st2_own b2M (costL k n (blF k n t)) A ln cp
  obtain ⟨M9, hM9⟩ : ∃ M9, M9 = M.set (m.length + 1) ⟨.own, 103, [.int .i64 (costL k n (blF k n t)), .slice A ln cp]⟩ := ⟨_, rfl⟩
  rw [← hM9] at wr
  have b99 : M9[m.length + 1]? = some ⟨.own, 103, [.int .i64 (costL k n (blF k n t)), .slice A ln cp]⟩ := by rw [hM9, List.getElem?_set_self (List.getElem?_eq_some_iff.1 b2M).1]
  have s90 := rd_own (k := 0) b99
  have s91 := rd_own (k := 1) b99
  by_cases hlt : t < n
  · have hlt' : (t : Int) < n := by omega
    have ai := i1.at_ t (by omega)
    have li := i1.ld t (by omega)
    by_cases hzt : k.need.getD t 0 = 0
    · have hzt' : (k.need.getD t 0 == 0) = true := by rw [hzt]; rfl
      obtain ⟨t', ht'⟩ : ∃ t', t' = t + 1 := ⟨_, rfl⟩
      have et : (t : Int) + 1 = (t' : Int) := by omega
      simp (config := {implicitDefEqProofs := false, maxDischargeDepth := 20}) (disch := first | omega | (simp only [lenE]; done) | (simp only [lenE]; omega) | rfl | (simp only [lenE, markR_len]; done) | (simp only [lenE, markR_len]; omega)) only [runE, mapE, listE, initT_5, initT_6, initT_7, initT_8, resV, oneV, binA, unA, reduceCtorEq, Nat.reduceEqDiff, Nat.reduceAdd, Nat.reduceLT, Nat.reduceLeDiff, Nat.reduceMul, Nat.reduceSub, ↓reduceIte, decide_true, decide_false, Bool.true_eq_false, Bool.false_eq_true, Bool.not_true, Bool.not_false, if_true, if_false, and_true, true_and, memE, celE, w64, Nat.zero_add, Nat.add_zero, Nat.mul_one, putL, and_self, ldn, t1, t2, t3, t4, t5, tm, q0, il, hlt', ai, li, hzt', et]
      refine callH_ac (from_ac k hg w1 w2 w3 w4 (N + 1 + 1 + 1) N (N + 1) (N + 1 + 1 + 1 + 1) (N + 1 + 1) e1 (n - t') t' M es (by omega) hE1) ?_
      rintro r M3 ⟨es3, gw3, hE3, hpre3, A3, ln3, cp3, rfl, hrow3⟩
      rw [← hn] at hrow3 ⊢
      have hgw := gw.trans gw3
      have b43 := gw3.blk b4 (by omega)
      have hl43 := (List.getElem?_eq_some_iff.1 b43).1
      have r430 := rd_own (k := 0) b43
      have r431 := rd_own (k := 1) b43
      have hrow43 := hrow.keep fun id l ho => gw3.own hE1.g.mp ho
      simp (config := {implicitDefEqProofs := false, maxDischargeDepth := 20}) (disch := first | omega | (simp only [lenE]; done) | (simp only [lenE]; omega) | rfl | (simp only [lenE, markR_len]; done) | (simp only [lenE, markR_len]; omega)) only [runE, mapE, listE, initT_5, initT_6, initT_7, initT_8, resV, oneV, binA, unA, reduceCtorEq, Nat.reduceEqDiff, Nat.reduceAdd, Nat.reduceLT, Nat.reduceLeDiff, Nat.reduceMul, Nat.reduceSub, ↓reduceIte, decide_true, decide_false, Bool.true_eq_false, Bool.false_eq_true, Bool.not_true, Bool.not_false, if_true, if_false, and_true, true_and, memE, celE, w64, Nat.zero_add, Nat.add_zero, Nat.mul_one, putL, and_self, ldn, t1, t2, t3, t4, t5, stP_aggL, r430, r431]
      refine callH_rc (comesBefore_rc _ _ _ _ _ (dp k n t') (blF k n t) (hrow3.ints.ext _) (hrow43.ints.ext _)) ?_
      rintro r new6 ⟨rfl, nr6⟩
      obtain ⟨M6, hM6⟩ : ∃ M6, M6 = M3 ++ [⟨.own, 103, [.int .i64 (costL k n (dp k n t')), .slice A3 ln3 cp3]⟩] ++ new6 := ⟨_, rfl⟩
      have g6 : Gw (N + 1 + 1) M1 M6 := by rw [hM6]; exact (hgw.one _ _).app nr6
      have mg6 : MG k (N + 1 + 1) e1 es3 M6 := by rw [hM6]; exact (hE3.g.app _).app _
      have b46 : M6[M2.length]? = some ⟨.own, 103, [.int .i64 (costL k n (blF k n t)), .slice A ln cp]⟩ := by
        rw [hM6, List.append_assoc, List.getElem?_append_left hl43]; exact b43
      have b66 : M6[M3.length]? = some ⟨.own, 103, [.int .i64 (costL k n (dp k n t')), .slice A3 ln3 cp3]⟩ := by rw [hM6, List.append_assoc]; simp
      have hrow6 : RowV M6 (.slice A ln cp) (blF k n t) := by rw [hM6]; exact hrow43.keep fun id l ho => (ho.ext _).ext _
      have hrow36 : RowV M6 (.slice A3 ln3 cp3) (dp k n t') := by rw [hM6]; exact hrow3.keep fun id l ho => (ho.ext _).ext _
      have r60 := rd_own (k := 0) b66
      have r61 := rd_own (k := 1) b66
      have w6 := st2_own b46 (costL k n (dp k n t')) A3 ln3 cp3
      have hbl : blF k n t' = if bef (costL k n (dp k n t'), dp k n t') (costL k n (blF k n t), blF k n t) = true then dp k n t' else blF k n t := by rw [ht', blF]
      have hz' : ∀ j, j < t' → k.need.getD j 0 = 0 := fun j hj => by
        by_cases e : j = t
        · rw [e]; exact hzt
        · exact hz j (by omega)
      rw [← hM6]
      cases hb : bef (costL k n (dp k n t'), dp k n t') (costL k n (blF k n t), blF k n t) with
      | false =>
        rw [hb, if_neg (by simp)] at hbl
        simp (config := {implicitDefEqProofs := false, maxDischargeDepth := 20}) (disch := first | omega | (simp only [lenE]; done) | (simp only [lenE]; omega) | rfl | (simp only [lenE, markR_len]; done) | (simp only [lenE, markR_len]; omega)) only [runE, mapE, listE, initT_5, initT_6, initT_7, initT_8, resV, oneV, binA, unA, reduceCtorEq, Nat.reduceEqDiff, Nat.reduceAdd, Nat.reduceLT, Nat.reduceLeDiff, Nat.reduceMul, Nat.reduceSub, ↓reduceIte, decide_true, decide_false, Bool.true_eq_false, Bool.false_eq_true, Bool.not_true, Bool.not_false, if_true, if_false, and_true, true_and, memE, celE, w64, Nat.zero_add, Nat.add_zero, Nat.mul_one, putL, and_self, ldn, t1, t2, t3, t4, t5, et]
        exact ⟨⟨t', M6, es3, A, ln, cp, by omega, hz', by simp, rfl, g6, mg6, by rw [hbl]; exact b46, by rw [hbl]; exact hrow6⟩, by simp [intOf]; omega⟩
      | true =>
        rw [hb, if_pos rfl] at hbl
        simp (config := {implicitDefEqProofs := false, maxDischargeDepth := 20}) (disch := first | omega | (simp only [lenE]; done) | (simp only [lenE]; omega) | rfl | (simp only [lenE, markR_len]; done) | (simp only [lenE, markR_len]; omega)) only [runE, mapE, listE, initT_5, initT_6, initT_7, initT_8, resV, oneV, binA, unA, reduceCtorEq, Nat.reduceEqDiff, Nat.reduceAdd, Nat.reduceLT, Nat.reduceLeDiff, Nat.reduceMul, Nat.reduceSub, ↓reduceIte, decide_true, decide_false, Bool.true_eq_false, Bool.false_eq_true, Bool.not_true, Bool.not_false, if_true, if_false, and_true, true_and, memE, celE, w64, Nat.zero_add, Nat.add_zero, Nat.mul_one, putL, and_self, ldn, t1, t2, t3, t4, t5, et, r60, r61, stP_aggL, w6]
        refine ⟨⟨t', _, es3, A3, ln3, cp3, by omega, hz', by simp, rfl, g6.set (.inl (by omega)) (by simp), mg6.box b46 (by decide), ?_, by rw [hbl]; exact hrow36.box b46 (by decide)⟩, by simp [intOf]; omega⟩
        rw [hbl, List.getElem?_set_self (List.getElem?_eq_some_iff.1 b46).1]
    · have hzt' : (k.need.getD t 0 == 0) = false := by simpa using hzt
      simp (config := {implicitDefEqProofs := false, maxDischargeDepth := 20}) (disch := first | omega | (simp only [lenE]; done) | (simp only [lenE]; omega) | rfl | (simp only [lenE, markR_len]; done) | (simp only [lenE, markR_len]; omega)) only [runE, mapE, listE, initT_5, initT_6, initT_7, initT_8, resV, oneV, binA, unA, reduceCtorEq, Nat.reduceEqDiff, Nat.reduceAdd, Nat.reduceLT, Nat.reduceLeDiff, Nat.reduceMul, Nat.reduceSub, ↓reduceIte, decide_true, decide_false, Bool.true_eq_false, Bool.false_eq_true, Bool.not_true, Bool.not_false, if_true, if_false, and_true, true_and, memE, celE, w64, Nat.zero_add, Nat.add_zero, Nat.mul_one, putL, and_self, ldn, t1, t2, t3, t4, t5, tm, q0, il, hlt', ai, li, hzt', r40, r41, stP_aggL, wr, s90, s91]
      exact fin t rfl (.inr ⟨hlt, hzt⟩) M9 hM9
  · have hlt' : ¬ ((t : Int) < n) := by omega
    simp (config := {implicitDefEqProofs := false, maxDischargeDepth := 20}) (disch := first | omega | (simp only [lenE]; done) | (simp only [lenE]; omega) | rfl | (simp only [lenE, markR_len]; done) | (simp only [lenE, markR_len]; omega)) only [runE, mapE, listE, initT_5, initT_6, initT_7, initT_8, resV, oneV, binA, unA, reduceCtorEq, Nat.reduceEqDiff, Nat.reduceAdd, Nat.reduceLT, Nat.reduceLeDiff, Nat.reduceMul, Nat.reduceSub, ↓reduceIte, decide_true, decide_false, Bool.true_eq_false, Bool.false_eq_true, Bool.not_true, Bool.not_false, if_true, if_false, and_true, true_and, memE, celE, w64, Nat.zero_add, Nat.add_zero, Nat.mul_one, putL, and_self, ldn, t1, t2, t3, t4, t5, tm, q0, il, hlt', r40, r41, stP_aggL, wr, s90, s91, goG_undef]
    exact fin t rfl (.inl (by omega)) M9 hM9

theorem implBestCost_rc (m : Mem) (v : Value) (k : Cs) (h : CaseA m v k) : RC Try.prog 27 [v] m (AnsV (.tuple #[.int .i64 (bestCA k), .bool k.good])) := by
  refine rc_of_run mixed ok_impl_BestCost (by simp) (go_start _ _ _ ?_)
  obtain ⟨v1, v2, v3, v4, rfl, h1, h2, h3, h4⟩ := h.ro.ok
  have hc : CaseA (roM m) (.agg #[v1, v2, v3, v4]) k := ⟨_, _, _, _, rfl, h1, h2, h3, h4⟩
  simp (config := {implicitDefEqProofs := false, maxDischargeDepth := 20}) (disch := first | omega | (simp only [lenE]; done) | (simp only [lenE]; omega) | rfl | (simp only [lenE, markR_len]; done) | (simp only [lenE, markR_len]; omega)) only [runE, mapE, listE, initT_5, initT_6, initT_7, initT_8, resV, oneV, binA, unA, reduceCtorEq, Nat.reduceEqDiff, Nat.reduceAdd, Nat.reduceLT, Nat.reduceLeDiff, Nat.reduceMul, Nat.reduceSub, ↓reduceIte, decide_true, decide_false, Bool.true_eq_false, Bool.false_eq_true, Bool.not_true, Bool.not_false, if_true, if_false, and_true, true_and, memE, celE, w64, Nat.zero_add, Nat.add_zero, Nat.mul_one, putL, and_self, ldn, c_impl_BestCost, r_impl_BestCost]
  refine callH_rc (implIsCase_rc _ _ k (hc.ext _)) ?_
  rintro r new ⟨rfl, nr1⟩
  have hx : Grow (roM m ++ [⟨.own, 30, [v1, v2, v3, v4]⟩]) (roM m ++ [⟨.own, 30, [v1, v2, v3, v4]⟩] ++ new) := (Grow.refl _).app nr1
  cases hg : k.good with
  | false =>
    simp (config := {implicitDefEqProofs := false, maxDischargeDepth := 20}) (disch := first | omega | (simp only [lenE]; done) | (simp only [lenE]; omega) | rfl | (simp only [lenE, markR_len]; done) | (simp only [lenE, markR_len]; omega)) only [runE, mapE, listE, initT_5, initT_6, initT_7, initT_8, resV, oneV, binA, unA, reduceCtorEq, Nat.reduceEqDiff, Nat.reduceAdd, Nat.reduceLT, Nat.reduceLeDiff, Nat.reduceMul, Nat.reduceSub, ↓reduceIte, decide_true, decide_false, Bool.true_eq_false, Bool.false_eq_true, Bool.not_true, Bool.not_false, if_true, if_false, and_true, true_and, memE, celE, w64, Nat.zero_add, Nat.add_zero, Nat.mul_one, putL, and_self, ldn]
    rw [bestCA_no hg]
    exact ext_ansV hx.ext rfl
  | true =>
    have gd := good_iff.1 hg
    rw [bestCA_yes hg]
    simp (config := {implicitDefEqProofs := false, maxDischargeDepth := 20}) (disch := first | omega | (simp only [lenE]; done) | (simp only [lenE]; omega) | rfl | (simp only [lenE, markR_len]; done) | (simp only [lenE, markR_len]; omega)) only [runE, mapE, listE, initT_5, initT_6, initT_7, initT_8, resV, oneV, binA, unA, reduceCtorEq, Nat.reduceEqDiff, Nat.reduceAdd, Nat.reduceLT, Nat.reduceLeDiff, Nat.reduceMul, Nat.reduceSub, ↓reduceIte, decide_true, decide_false, Bool.true_eq_false, Bool.false_eq_true, Bool.not_true, Bool.not_false, if_true, if_false, and_true, true_and, memE, celE, w64, Nat.zero_add, Nat.add_zero, Nat.mul_one, putL, and_self, ldn]
    refine callH_rc (bestLots_rc _ _ k (hx.caseV hc) gd) ?_
    rintro r new2 ⟨nr2, A, ln, cp, rfl, -⟩
    have f0 : fldA 0 none (.agg #[.int .i64 (bestCost k), .slice A ln cp]) = some (.int .i64 (bestCost k)) := rfl
    simp (config := {implicitDefEqProofs := false, maxDischargeDepth := 20}) (disch := first | omega | (simp only [lenE]; done) | (simp only [lenE]; omega) | rfl | (simp only [lenE, markR_len]; done) | (simp only [lenE, markR_len]; omega)) only [runE, mapE, listE, initT_5, initT_6, initT_7, initT_8, resV, oneV, binA, unA, reduceCtorEq, Nat.reduceEqDiff, Nat.reduceAdd, Nat.reduceLT, Nat.reduceLeDiff, Nat.reduceMul, Nat.reduceSub, ↓reduceIte, decide_true, decide_false, Bool.true_eq_false, Bool.false_eq_true, Bool.not_true, Bool.not_false, if_true, if_false, and_true, true_and, memE, celE, w64, Nat.zero_add, Nat.add_zero, Nat.mul_one, putL, and_self, ldn, f0]
    exact ext_ansV (hx.app nr2).ext rfl
end Go.Proofs.Ytamhhicnfpemeaa.Ab
end
section
namespace Go.Proofs.Ytamhhicnfpemeaa.Ab
open Go Go.RowKit
set_option linter.unusedVariables false
set_option linter.unusedSimpArgs false
theorem bestCost_bd {k : Cs} (hg : Good k) : -20000 ≤ bestCost k ∧ bestCost k ≤ 221000 := by
  have hl := fromL_len k.need (bestL k)
  have h8 := hg.n8
  have := cost_bounds hg (fromL_in hg.need hg.n8 (bestL_rising k)) (fromL k.need (bestL k)).length (by omega)
  unfold bestCost costOf
  omega
def boundTo (c : Ch) : Nat → Int
  | 0 => 0
  | s + 1 => boundTo c s + bestCost (c.stage s)
theorem boundTo_bd {c : Ch} (hg : GoodCh c) (s : Nat) (hs : s ≤ c.setup.length) : -20000 * (s : Int) ≤ boundTo c s ∧ boundTo c s ≤ 221000 * s := by
  induction s with
  | zero => simp [boundTo]
  | succ s ih =>
    have := ih (by omega)
    have := bestCost_bd (good_iff.1 (stage_good hg (s := s) (by omega)))
    simp only [boundTo]
    omega
def boundC (c : Ch) : Int := if c.good then boundTo c c.setup.length else 0
theorem specBound_rc (m : Mem) (v : Value) (c : Ch) (h : ChA m v c) : RC Try.prog 63 [v] m (AnsV (.tuple #[.int .i64 (boundC c), .bool c.good])) := by
  refine rc_of_run mixed ok_spec_ChainBound (by simp) (go_start _ _ _ ?_)
  obtain ⟨a, b, d, rfl, ha, hb, hd⟩ := h.ro
  have hX0 := (Ext.refl m).one 26 [a, b, d]
  have b0 : OwnB (roM m ++ [⟨.own, 26, [a, b, d]⟩]) m.length 26 [a, b, d] := OwnB.here (roM_len m).symm
  unfold boundC
  simp (config := {implicitDefEqProofs := false, maxDischargeDepth := 20}) (disch := first | omega | (simp only [lenE]; done) | (simp only [lenE]; omega) | rfl | (simp only [lenE, markR_len]; done) | (simp only [lenE, markR_len]; omega)) only [runE, mapE, listE, initT_5, initT_6, initT_7, initT_8, resV, oneV, binA, unA, reduceCtorEq, Nat.reduceEqDiff, Nat.reduceAdd, Nat.reduceLT, Nat.reduceLeDiff, Nat.reduceMul, Nat.reduceSub, ↓reduceIte, decide_true, decide_false, Bool.true_eq_false, Bool.false_eq_true, Bool.not_true, Bool.not_false, if_true, if_false, and_true, true_and, memE, celE, w64, Nat.zero_add, Nat.add_zero, Nat.mul_one, putL, and_self, ldn, c_spec_ChainBound, r_spec_ChainBound]
  refine callH_rc (l7Good_rc _ _ c (ChA.mk (ha.ext _) (hb.ext _) (hd.ext _))) ?_
  rintro r n1 ⟨rfl, nr1⟩
  have hX1 := hX0.app nr1
  replace b0 := b0.ext n1
  cases hg : c.good with
  | false =>
    simp (config := {implicitDefEqProofs := false, maxDischargeDepth := 20}) (disch := first | omega | (simp only [lenE]; done) | (simp only [lenE]; omega) | rfl | (simp only [lenE, markR_len]; done) | (simp only [lenE, markR_len]; omega)) only [runE, mapE, listE, initT_5, initT_6, initT_7, initT_8, resV, oneV, binA, unA, reduceCtorEq, Nat.reduceEqDiff, Nat.reduceAdd, Nat.reduceLT, Nat.reduceLeDiff, Nat.reduceMul, Nat.reduceSub, ↓reduceIte, decide_true, decide_false, Bool.true_eq_false, Bool.false_eq_true, Bool.not_true, Bool.not_false, if_true, if_false, and_true, true_and, memE, celE, w64, Nat.zero_add, Nat.add_zero, Nat.mul_one, putL, and_self, ldn]
    exact ext_ansV hX1 rfl
  | true =>
  have gd := goodCh_iff.1 hg
  have s3 := gd.s3
  have n6 := gd.n6
  have lh := gd.lh
  simp (config := {implicitDefEqProofs := false, maxDischargeDepth := 20}) (disch := first | omega | (simp only [lenE]; done) | (simp only [lenE]; omega) | rfl | (simp only [lenE, markR_len]; done) | (simp only [lenE, markR_len]; omega)) only [runE, mapE, listE, initT_5, initT_6, initT_7, initT_8, resV, oneV, binA, unA, reduceCtorEq, Nat.reduceEqDiff, Nat.reduceAdd, Nat.reduceLT, Nat.reduceLeDiff, Nat.reduceMul, Nat.reduceSub, ↓reduceIte, decide_true, decide_false, Bool.true_eq_false, Bool.false_eq_true, Bool.not_true, Bool.not_false, if_true, if_false, and_true, true_and, memE, celE, w64, Nat.zero_add, Nat.add_zero, Nat.mul_one, putL, and_self, ldn]
  refine loop_inv mixed (fun s => ∃ (k : Nat) (M : Mem), k ≤ c.setup.length ∧ s.m = M ∧ Ext m M ∧ OwnB M m.length 26 [a, b, d] ∧ s.t 1 = .pointer (some ⟨m.length, 0, none⟩) ∧ s.t 4 = .int .i64 (boundTo c k) ∧ s.t 5 = .int .i64 (k : Int)) (fun s => c.setup.length - (intOf (s.t 5)).toNat)
    ⟨0, _, by omega, rfl, hX1, b0, rfl, rfl, rfl⟩ ?_
  rintro s ⟨k, M, hk, tm, hX, hbx, t1, t4, t5⟩
  have hb1 := hX.ints hb
  by_cases hlt : k < c.setup.length
  · have hlt' : (k : Int) < c.setup.length := by omega
    have bd1 := boundTo_bd gd k hk
    have bd2 := bestCost_bd (good_iff.1 (stage_good gd hlt))
    simp (config := {implicitDefEqProofs := false, maxDischargeDepth := 20}) (disch := first | omega | (simp only [lenE]; done) | (simp only [lenE]; omega) | rfl | (simp only [lenE, markR_len]; done) | (simp only [lenE, markR_len]; omega)) only [runE, mapE, listE, initT_5, initT_6, initT_7, initT_8, resV, oneV, binA, unA, reduceCtorEq, Nat.reduceEqDiff, Nat.reduceAdd, Nat.reduceLT, Nat.reduceLeDiff, Nat.reduceMul, Nat.reduceSub, ↓reduceIte, decide_true, decide_false, Bool.true_eq_false, Bool.false_eq_true, Bool.not_true, Bool.not_false, if_true, if_false, and_true, true_and, memE, celE, w64, Nat.zero_add, Nat.add_zero, Nat.mul_one, putL, and_self, ldn, tm, t1, t4, t5, hbx.rd, hb1.len, hlt', hb1.at_ k hlt, hb1.ld k hlt]
    refine rcallH_rc (l7Echelon_rc _ _ c k _ rfl (ChA.mk (hX.ints ha) (hX.ints hb) (hX.ints hd)) gd (by omega)) ?_
    rintro r n2 ⟨rfl, nr2⟩
    simp (config := {implicitDefEqProofs := false, maxDischargeDepth := 20}) (disch := first | omega | (simp only [lenE]; done) | (simp only [lenE]; omega) | rfl | (simp only [lenE, markR_len]; done) | (simp only [lenE, markR_len]; omega)) only [runE, mapE, listE, initT_5, initT_6, initT_7, initT_8, resV, oneV, binA, unA, reduceCtorEq, Nat.reduceEqDiff, Nat.reduceAdd, Nat.reduceLT, Nat.reduceLeDiff, Nat.reduceMul, Nat.reduceSub, ↓reduceIte, decide_true, decide_false, Bool.true_eq_false, Bool.false_eq_true, Bool.not_true, Bool.not_false, if_true, if_false, and_true, true_and, memE, celE, w64, Nat.zero_add, Nat.add_zero, Nat.mul_one, putL, and_self, ldn]
    refine rcallH_rc (l7Case_rc _ a c.need _ _ ((hX.ints ha).ext n2) (by omega)) ?_
    rintro r n3 ⟨nr3, w, hwe, hw⟩
    rw [id_eq] at hwe
    subst r
    simp (config := {implicitDefEqProofs := false, maxDischargeDepth := 20}) (disch := first | omega | (simp only [lenE]; done) | (simp only [lenE]; omega) | rfl | (simp only [lenE, markR_len]; done) | (simp only [lenE, markR_len]; omega)) only [runE, mapE, listE, initT_5, initT_6, initT_7, initT_8, resV, oneV, binA, unA, reduceCtorEq, Nat.reduceEqDiff, Nat.reduceAdd, Nat.reduceLT, Nat.reduceLeDiff, Nat.reduceMul, Nat.reduceSub, ↓reduceIte, decide_true, decide_false, Bool.true_eq_false, Bool.false_eq_true, Bool.not_true, Bool.not_false, if_true, if_false, and_true, true_and, memE, celE, w64, Nat.zero_add, Nat.add_zero, Nat.mul_one, putL, and_self, ldn]
    refine rcallH_rc (l2Least_rc _ w (c.stage k) hw.now.in (good_iff.1 (stage_good gd hlt))) ?_
    rintro r n4 ⟨rfl, nr4⟩
    simp (config := {implicitDefEqProofs := false, maxDischargeDepth := 20}) (disch := first | omega | (simp only [lenE]; done) | (simp only [lenE]; omega) | rfl | (simp only [lenE, markR_len]; done) | (simp only [lenE, markR_len]; omega)) only [runE, mapE, listE, initT_5, initT_6, initT_7, initT_8, resV, oneV, binA, unA, reduceCtorEq, Nat.reduceEqDiff, Nat.reduceAdd, Nat.reduceLT, Nat.reduceLeDiff, Nat.reduceMul, Nat.reduceSub, ↓reduceIte, decide_true, decide_false, Bool.true_eq_false, Bool.false_eq_true, Bool.not_true, Bool.not_false, if_true, if_false, and_true, true_and, memE, celE, w64, Nat.zero_add, Nat.add_zero, Nat.mul_one, putL, and_self, ldn, t1, t4, t5]
    exact ⟨⟨k + 1, _, by omega, rfl, ((hX.app nr2).app nr3).app nr4, ((hbx.ext n2).ext n3).ext n4, by rw [boundTo], by simp⟩, by simp [intOf]; omega⟩
  · have hlt' : ¬ ((k : Int) < c.setup.length) := by omega
    have e : k = c.setup.length := by omega
    subst e
    simp (config := {implicitDefEqProofs := false, maxDischargeDepth := 20}) (disch := first | omega | (simp only [lenE]; done) | (simp only [lenE]; omega) | rfl | (simp only [lenE, markR_len]; done) | (simp only [lenE, markR_len]; omega)) only [runE, mapE, listE, initT_5, initT_6, initT_7, initT_8, resV, oneV, binA, unA, reduceCtorEq, Nat.reduceEqDiff, Nat.reduceAdd, Nat.reduceLT, Nat.reduceLeDiff, Nat.reduceMul, Nat.reduceSub, ↓reduceIte, decide_true, decide_false, Bool.true_eq_false, Bool.false_eq_true, Bool.not_true, Bool.not_false, if_true, if_false, and_true, true_and, memE, celE, w64, Nat.zero_add, Nat.add_zero, Nat.mul_one, putL, and_self, ldn, tm, t1, t4, t5, hbx.rd, hb1.len, hlt']
    exact ext_ansV hX rfl
theorem implBound_rc (m : Mem) (v : Value) (c : Ch) (h : ChA m v c) : RC Try.prog 64 [v] m (AnsV (.tuple #[.int .i64 (boundC c), .bool c.good])) := by
  refine rc_of_run mixed ok_impl_ChainBound (by simp) (go_start _ _ _ ?_)
  obtain ⟨a, b, d, rfl, ha, hb, hd⟩ := h.ro
  have hX0 := (Ext.refl m).one 26 [a, b, d]
  have b0 : OwnB (roM m ++ [⟨.own, 26, [a, b, d]⟩]) m.length 26 [a, b, d] := OwnB.here (roM_len m).symm
  unfold boundC
  simp (config := {implicitDefEqProofs := false, maxDischargeDepth := 20}) (disch := first | omega | (simp only [lenE]; done) | (simp only [lenE]; omega) | rfl | (simp only [lenE, markR_len]; done) | (simp only [lenE, markR_len]; omega)) only [runE, mapE, listE, initT_5, initT_6, initT_7, initT_8, resV, oneV, binA, unA, reduceCtorEq, Nat.reduceEqDiff, Nat.reduceAdd, Nat.reduceLT, Nat.reduceLeDiff, Nat.reduceMul, Nat.reduceSub, ↓reduceIte, decide_true, decide_false, Bool.true_eq_false, Bool.false_eq_true, Bool.not_true, Bool.not_false, if_true, if_false, and_true, true_and, memE, celE, w64, Nat.zero_add, Nat.add_zero, Nat.mul_one, putL, and_self, ldn, c_impl_ChainBound, r_impl_ChainBound]
  refine callH_rc (implIsChain_rc _ _ c (ChA.mk (ha.ext _) (hb.ext _) (hd.ext _))) ?_
  rintro r n1 ⟨rfl, nr1⟩
  have hX1 := hX0.app nr1
  replace b0 := b0.ext n1
  cases hg : c.good with
  | false =>
    simp (config := {implicitDefEqProofs := false, maxDischargeDepth := 20}) (disch := first | omega | (simp only [lenE]; done) | (simp only [lenE]; omega) | rfl | (simp only [lenE, markR_len]; done) | (simp only [lenE, markR_len]; omega)) only [runE, mapE, listE, initT_5, initT_6, initT_7, initT_8, resV, oneV, binA, unA, reduceCtorEq, Nat.reduceEqDiff, Nat.reduceAdd, Nat.reduceLT, Nat.reduceLeDiff, Nat.reduceMul, Nat.reduceSub, ↓reduceIte, decide_true, decide_false, Bool.true_eq_false, Bool.false_eq_true, Bool.not_true, Bool.not_false, if_true, if_false, and_true, true_and, memE, celE, w64, Nat.zero_add, Nat.add_zero, Nat.mul_one, putL, and_self, ldn]
    exact ext_ansV hX1 rfl
  | true =>
  have gd := goodCh_iff.1 hg
  have s3 := gd.s3
  have n6 := gd.n6
  have lh := gd.lh
  simp (config := {implicitDefEqProofs := false, maxDischargeDepth := 20}) (disch := first | omega | (simp only [lenE]; done) | (simp only [lenE]; omega) | rfl | (simp only [lenE, markR_len]; done) | (simp only [lenE, markR_len]; omega)) only [runE, mapE, listE, initT_5, initT_6, initT_7, initT_8, resV, oneV, binA, unA, reduceCtorEq, Nat.reduceEqDiff, Nat.reduceAdd, Nat.reduceLT, Nat.reduceLeDiff, Nat.reduceMul, Nat.reduceSub, ↓reduceIte, decide_true, decide_false, Bool.true_eq_false, Bool.false_eq_true, Bool.not_true, Bool.not_false, if_true, if_false, and_true, true_and, memE, celE, w64, Nat.zero_add, Nat.add_zero, Nat.mul_one, putL, and_self, ldn, b0.rd, hb.len]
  refine loop_inv mixed (fun s => ∃ (k : Nat) (M : Mem), k ≤ c.setup.length ∧ s.m = M ∧ Ext m M ∧ OwnB M m.length 26 [a, b, d] ∧ s.t 1 = .pointer (some ⟨m.length, 0, none⟩) ∧ s.t 4 = .int .i64 (boundTo c k) ∧ s.t 13 = .int .i64 (c.setup.length : Int) ∧ s.t 14 = .int .i64 (k : Int)) (fun s => c.setup.length - (intOf (s.t 14)).toNat)
    ⟨0, _, by omega, rfl, hX1, b0, rfl, rfl, rfl, rfl⟩ ?_
  rintro s ⟨k, M, hk, tm, hX, hbx, t1, t4, t13, t14⟩
  by_cases hlt : k < c.setup.length
  · have hlt' : (k : Int) < c.setup.length := by omega
    have bd1 := boundTo_bd gd k hk
    have sg := stage_good gd hlt
    have bd2 := bestCost_bd (good_iff.1 sg)
    simp (config := {implicitDefEqProofs := false, maxDischargeDepth := 20}) (disch := first | omega | (simp only [lenE]; done) | (simp only [lenE]; omega) | rfl | (simp only [lenE, markR_len]; done) | (simp only [lenE, markR_len]; omega)) only [runE, mapE, listE, initT_5, initT_6, initT_7, initT_8, resV, oneV, binA, unA, reduceCtorEq, Nat.reduceEqDiff, Nat.reduceAdd, Nat.reduceLT, Nat.reduceLeDiff, Nat.reduceMul, Nat.reduceSub, ↓reduceIte, decide_true, decide_false, Bool.true_eq_false, Bool.false_eq_true, Bool.not_true, Bool.not_false, if_true, if_false, and_true, true_and, memE, celE, w64, Nat.zero_add, Nat.add_zero, Nat.mul_one, putL, and_self, ldn, tm, t1, t4, t13, t14, hbx.rd, hlt']
    refine callH_rc (stageCase_rc _ _ c k _ rfl (ChA.mk (hX.ints ha) (hX.ints hb) (hX.ints hd)) gd hlt) ?_
    rintro r n3 ⟨nr3, w, hwe, hw⟩
    rw [id_eq] at hwe
    subst r
    simp (config := {implicitDefEqProofs := false, maxDischargeDepth := 20}) (disch := first | omega | (simp only [lenE]; done) | (simp only [lenE]; omega) | rfl | (simp only [lenE, markR_len]; done) | (simp only [lenE, markR_len]; omega)) only [runE, mapE, listE, initT_5, initT_6, initT_7, initT_8, resV, oneV, binA, unA, reduceCtorEq, Nat.reduceEqDiff, Nat.reduceAdd, Nat.reduceLT, Nat.reduceLeDiff, Nat.reduceMul, Nat.reduceSub, ↓reduceIte, decide_true, decide_false, Bool.true_eq_false, Bool.false_eq_true, Bool.not_true, Bool.not_false, if_true, if_false, and_true, true_and, memE, celE, w64, Nat.zero_add, Nat.add_zero, Nat.mul_one, putL, and_self, ldn]
    refine callH_rc (implBestCost_rc _ w (c.stage k) hw.now.in) ?_
    rintro r n4 ⟨rfl, nr4⟩
    rw [bestCA_yes sg]
    simp (config := {implicitDefEqProofs := false, maxDischargeDepth := 20}) (disch := first | omega | (simp only [lenE]; done) | (simp only [lenE]; omega) | rfl | (simp only [lenE, markR_len]; done) | (simp only [lenE, markR_len]; omega)) only [runE, mapE, listE, initT_5, initT_6, initT_7, initT_8, resV, oneV, binA, unA, reduceCtorEq, Nat.reduceEqDiff, Nat.reduceAdd, Nat.reduceLT, Nat.reduceLeDiff, Nat.reduceMul, Nat.reduceSub, ↓reduceIte, decide_true, decide_false, Bool.true_eq_false, Bool.false_eq_true, Bool.not_true, Bool.not_false, if_true, if_false, and_true, true_and, memE, celE, w64, Nat.zero_add, Nat.add_zero, Nat.mul_one, putL, and_self, ldn, t1, t4, t13, t14, ext_2_0, ext_2_1]
    exact ⟨⟨k + 1, _, by omega, rfl, (hX.app nr3).app nr4, (hbx.ext n3).ext n4, by rw [boundTo], by simp⟩, by simp [intOf]; omega⟩
  · have hlt' : ¬ ((k : Int) < c.setup.length) := by omega
    have e : k = c.setup.length := by omega
    subst e
    simp (config := {implicitDefEqProofs := false, maxDischargeDepth := 20}) (disch := first | omega | (simp only [lenE]; done) | (simp only [lenE]; omega) | rfl | (simp only [lenE, markR_len]; done) | (simp only [lenE, markR_len]; omega)) only [runE, mapE, listE, initT_5, initT_6, initT_7, initT_8, resV, oneV, binA, unA, reduceCtorEq, Nat.reduceEqDiff, Nat.reduceAdd, Nat.reduceLT, Nat.reduceLeDiff, Nat.reduceMul, Nat.reduceSub, ↓reduceIte, decide_true, decide_false, Bool.true_eq_false, Bool.false_eq_true, Bool.not_true, Bool.not_false, if_true, if_false, and_true, true_and, memE, celE, w64, Nat.zero_add, Nat.add_zero, Nat.mul_one, putL, and_self, ldn, tm, t1, t4, t13, t14, hlt']
    exact ext_ansV hX rfl
end Go.Proofs.Ytamhhicnfpemeaa.Ab
end
section
namespace Go.Proofs.Ytamhhicnfpemeaa.Ab
open Go Go.RowKit
set_option linter.unusedVariables false
set_option linter.unusedSimpArgs false
def Adds (W : World) (ρ ρ' : Places) (m m' : Mem) : Prop := ρ <+: ρ' ∧ MRel W W.heap.size ρ' m' W ∧ ∃ new, m' = m ++ new
theorem Adds.trans {W : World} {ρ1 ρ2 ρ3 : Places} {m1 m2 m3 : Mem} (h : Adds W ρ1 ρ2 m1 m2) (h' : Adds W ρ2 ρ3 m2 m3) : Adds W ρ1 ρ3 m1 m3 := by
  obtain ⟨a, b, n1, rfl⟩ := h
  obtain ⟨c, d, n2, rfl⟩ := h'
  exact ⟨a.trans c, d, n1 ++ n2, by rw [List.append_assoc]⟩
theorem Adds.refl {W : World} {ρ : Places} {m : Mem} (h : MRel W W.heap.size ρ m W) : Adds W ρ ρ m m := ⟨List.prefix_refl _, h, [], by simp⟩
theorem argI2 {W : World} {ρ : Places} {m : Mem} (h : MRel W W.heap.size ρ m W) {v : Value} {l : List Int} (hi : IntsIn W v l) :
    ∃ ρ' m', Adds W ρ ρ' m m' ∧ ∃ x, VR ρ' x v ∧ IntsA m' x l := by
  obtain ⟨p, h1, h2⟩ := h.argInts hi
  exact ⟨_, _, ⟨pre_snoc _ _, h1, _, rfl⟩, _, h2, (RowA.arg (IntsIn.bd hi) rfl).ints 0⟩
end Go.Proofs.Ytamhhicnfpemeaa.Ab
end
section
namespace Go.Proofs.Ytamhhicnfpemeaa
open Go.RowKit Go.ChangeShapes Go.WideShapes Go.ChangeAt
open Go.WideMaps Go.WideElems
set_option linter.unusedVariables false
def ChainIn (W : World) (v : Value) (c : Ch) : Prop := ∃ a b d, v = .agg #[a, b, d] ∧ IntsIn W a c.need ∧ IntsIn W b c.setup ∧ IntsIn W d c.hold
set_option maxRecDepth 100000 in
theorem open_chain {H : Type} {enc : TypeId × Value → H} {W : World} {base : Nat} {v : Value} {d : DataW H} {ps : List MemPlace}
    (hval : Value.okWide Try.prog W .any base 41 v) (h : DataW.Trod enc Try.prog W 0 (fun _ => true) true 41 v d ps) : ∃ c, ChainIn W v c := by
  simp only [Value.okWide, Try.underlying41] at hval
  obtain ⟨cs, rfl, hsz, _⟩ := hval
  have hsz3 : cs.size = 3 := hsz.trans (by kernel_rfl)
  obtain ⟨fuel, hf⟩ := h
  obtain ⟨xs, n, _, _, _, hlen, hfield⟩ := DataW.trod_struct Try.underlying41 hf
  obtain ⟨a, b, c, rfl⟩ : ∃ a b c, cs = #[a, b, c] := by
    obtain ⟨l⟩ := cs
    match l, hsz3 with
    | [a, b, c], _ => exact ⟨a, b, c, rfl⟩
  have hcs : Try.prog.cellsOf 24 = 1 := by kernel_rfl
  match xs, hlen with
  | [y0, y1, y2], _ =>
    obtain ⟨u0, l0, k0, h0⟩ := ints_trod (cs := [a]) (by simpa [Value.cells, hcs] using hfield 0 _ rfl)
    obtain ⟨u1, l1, k1, h1⟩ := ints_trod (cs := [b]) (by simpa [Value.cells, hcs] using hfield 1 _ rfl)
    obtain ⟨u2, l2, k2, h2⟩ := ints_trod (cs := [c]) (by simpa [Value.cells, hcs] using hfield 2 _ rfl)
    cases k0; cases k1; cases k2
    exact ⟨⟨l0, l1, l2⟩, _, _, _, rfl, h0, h1, h2⟩
end Go.Proofs.Ytamhhicnfpemeaa
end
section
namespace Go.Proofs.Ytamhhicnfpemeaa.Ab
open Go Go.RowKit
set_option linter.unusedVariables false
theorem BoxA.ld3 {m : Mem} {id : Nat} {a b c : Value} (h : BoxA m id [a, b, c]) : ldA m (some 3) (.pointer (some ⟨id, 0, none⟩)) = some (.agg #[a, b, c]) := by
  obtain ⟨_, h⟩ := h
  simp [ldA, rdn, rdc, h]
theorem IntsA.one {m : Mem} {v : Value} {l : List Int} (h : IntsA m v l) (xs : List Value) : onesB (v :: xs) = onesB xs := by
  rcases h.form with ⟨rfl, _⟩ | ⟨id, off, fl, rfl⟩ <;> exact onesB_sl _ _ _ _
end Go.Proofs.Ytamhhicnfpemeaa.Ab
end
section
namespace Go.Proofs.Ytamhhicnfpemeaa.Ab
open Go Go.RowKit
set_option linter.unusedVariables false
theorem vr3 {ρ : Places} {a b c x y z : Value} (ha : VR ρ a x) (hb : VR ρ b y) (hc : VR ρ c z) : VR ρ (.agg #[a, b, c]) (.agg #[x, y, z]) := by
  obtain ⟨h1, h2⟩ := (VL.cons ha (VL.cons hb (VL.cons hc (VL.nil ρ)))).arr
  exact .agg h1 h2
theorem argChain {W : World} {ρ : Places} {m : Mem} (h : MRel W W.heap.size ρ m W) {v : Value} {c : Ch} (hi : ChainIn W v c) :
    ∃ ρ' m', Adds W ρ ρ' m m' ∧ ∃ x, VR ρ' x v ∧ ChA m' x c := by
  obtain ⟨u1, u2, u3, rfl, h1, h2, h3⟩ := hi
  obtain ⟨ρ1, m1, a1, x1, k1, A1⟩ := argI2 h h1
  obtain ⟨ρ2, m2, a2, x2, k2, A2⟩ := argI2 a1.2.1 h2
  obtain ⟨ρ3, m3, a3, x3, k3, A3⟩ := argI2 a2.2.1 h3
  obtain ⟨p2, q2, n2, e2⟩ := a2
  obtain ⟨p3, q3, n3, e3⟩ := a3
  refine ⟨ρ3, m3, a1.trans (Adds.trans ⟨p2, q2, n2, e2⟩ ⟨p3, q3, n3, e3⟩), _, vr3 (k1.mono (p2.trans p3)) (k2.mono p3) k3, ?_⟩
  subst e2
  subst e3
  exact ChA.mk ((A1.ext _).ext _) (A2.ext _) A3
theorem ChA.one1 {m : Mem} {c : Ch} {a b d : Value} (h : ChA m (chV a b d) c) (xs : List Value) : onesB (a :: xs) = onesB xs := by
  obtain ⟨a', b', d', e, h1, h2, h3⟩ := h
  obtain ⟨rfl, rfl, rfl⟩ : a = a' ∧ b = b' ∧ d = d' := by simpa [chV] using e
  exact h1.one xs
theorem ChA.one2 {m : Mem} {c : Ch} {a b d : Value} (h : ChA m (chV a b d) c) (xs : List Value) : onesB (b :: xs) = onesB xs := by
  obtain ⟨a', b', d', e, h1, h2, h3⟩ := h
  obtain ⟨rfl, rfl, rfl⟩ : a = a' ∧ b = b' ∧ d = d' := by simpa [chV] using e
  exact h2.one xs
theorem ChA.one3 {m : Mem} {c : Ch} {a b d : Value} (h : ChA m (chV a b d) c) (xs : List Value) : onesB (d :: xs) = onesB xs := by
  obtain ⟨a', b', d', e, h1, h2, h3⟩ := h
  obtain ⟨rfl, rfl, rfl⟩ : a = a' ∧ b = b' ∧ d = d' := by simpa [chV] using e
  exact h3.one xs
end Go.Proofs.Ytamhhicnfpemeaa.Ab
end
section
namespace Go.Proofs.Ytamhhicnfpemeaa.Ab
open Go Go.RowKit Go.Proofs
set_option maxRecDepth 100000
def c_laws_FnExactChainBound : ACode := .seq (.reg [⟨(some 1), .box 41 (.tmp 0), none⟩,
  ⟨(some 2), .mv (.const (.bool false)), none⟩])
 (.seq (.reg [⟨(some 3), .mv (.const (.int .i64 1048576)), none⟩])
 (.seq (.reg [⟨(some 9), .ld (some 3) (.tmp 1), none⟩,
  ⟨(some 10), .mv (.tmp 3), none⟩,
  ⟨(some 11), .call (.func 29) [(.tmp 9), (.tmp 10)], none⟩,
  ⟨(some 3), .mv (.tmp 11), none⟩])
 (.seq (.seq (.reg [⟨(some 12), .mv (.tmp 3), none⟩,
  ⟨(some 13), .bin .lss (.tmp 12) (.const (.int .i64 0)), none⟩])
 (.cond (.tmp 13) (.seq (.reg [⟨(some 2), .mv (.const (.bool true)), none⟩])
 (.ret)) (.skip)))
 (.seq (.reg [⟨(some 15), .ld (some 3) (.tmp 1), none⟩,
  ⟨(some 16), .call (.func 31) [(.tmp 15)], none⟩,
  ⟨(some 17), .call (.func 63) [(.tmp 16)], none⟩,
  ⟨(some 14), .mv (.tmp 17), none⟩,
  ⟨(some 18), .ext 0 (.tmp 14), none⟩,
  ⟨(some 19), .ext 1 (.tmp 14), none⟩,
  ⟨(some 4), .mv (.tmp 18), none⟩,
  ⟨(some 5), .mv (.tmp 19), none⟩])
 (.seq (.reg [⟨(some 20), .ld (some 3) (.tmp 1), none⟩,
  ⟨(some 21), .call (.func 31) [(.tmp 20)], none⟩,
  ⟨(some 6), .alc 26 [(.slice none 0 0), (.slice none 0 0), (.slice none 0 0)], none⟩,
  ⟨none, .st 3 (.tmp 6) (.tmp 21), none⟩])
 (.seq (.reg [⟨(some 23), .ld (some 3) (.tmp 6), none⟩,
  ⟨(some 24), .call (.func 64) [(.tmp 23)], none⟩,
  ⟨(some 22), .mv (.tmp 24), none⟩,
  ⟨(some 25), .ext 0 (.tmp 22), none⟩,
  ⟨(some 26), .ext 1 (.tmp 22), none⟩,
  ⟨(some 7), .mv (.tmp 25), none⟩,
  ⟨(some 8), .mv (.tmp 26), none⟩])
 (.seq (.seq (.reg [⟨(some 27), .mv (.tmp 7), none⟩,
  ⟨(some 28), .mv (.tmp 4), none⟩,
  ⟨(some 29), .bin .neq (.tmp 27) (.tmp 28), none⟩,
  ⟨(some 30), .mv (.tmp 29), none⟩,
  ⟨(some 31), .mv (.tmp 8), (some (30, false))⟩,
  ⟨(some 32), .mv (.tmp 5), (some (30, false))⟩,
  ⟨(some 33), .beq true (.tmp 31) (.tmp 32), (some (30, false))⟩,
  ⟨(some 34), .pick (.tmp 30) (.const (.bool true)) (.tmp 33), none⟩])
 (.cond (.tmp 34) (.seq (.reg [⟨(some 2), .mv (.const (.bool false)), none⟩])
 (.ret)) (.skip)))
 (.seq (.seq (.reg [⟨(some 35), .ld (some 3) (.tmp 6), none⟩,
  ⟨(some 36), .ld (some 3) (.tmp 1), none⟩,
  ⟨(some 37), .rcall (.func 31) [(.tmp 36)], none⟩,
  ⟨(some 38), .rcall (.func 33) [(.tmp 35), (.tmp 37)], none⟩,
  ⟨(some 39), .un .not (.tmp 38), none⟩])
 (.cond (.tmp 39) (.seq (.reg [⟨(some 2), .mv (.const (.bool false)), none⟩])
 (.ret)) (.skip)))
 (.seq (.reg [⟨(some 2), .mv (.const (.bool true)), none⟩])
 (.ret))))))))))
def r_laws_FnExactChainBound : List ARes := [.tmp 2]
theorem ok_laws_FnExactChainBound : FnOk Try.prog 15 40 c_laws_FnExactChainBound r_laws_FnExactChainBound := ⟨⟨Try.f15, _, Try.func15, by kernel_rfl, rfl, rfl, by kernel_rfl, by kernel_rfl⟩⟩
end Go.Proofs.Ytamhhicnfpemeaa.Ab
end
section
namespace Go.Proofs.Ytamhhicnfpemeaa.Ab
open Go Go.RowKit
set_option linter.unusedVariables false
set_option linter.unusedSimpArgs false
set_option maxRecDepth 100000
set_option maxHeartbeats 4000000 in
theorem law_FnExactChainBound (M0 : Mem) (d0 : Ch) (v0 : Value) (A0 : ChA M0 v0 d0) :
    AC Try.prog 15 [v0] M0 fun r _ => r = .bool true := by
  refine ac_of_run mixed ok_laws_FnExactChainBound (by simp) (go_start _ _ _ ?_)
  have A0c := A0
  obtain ⟨u0a, u0b, u0c, rfl, -⟩ := A0c
  have C0 : Lv 0 M0.length M0 fun M => ChA M (chV u0a u0b u0c) d0 := Lv.all fun new => A0.ext new
  try simp (config := {implicitDefEqProofs := false, maxDischargeDepth := 20}) (disch := first | omega | (simp only [lenE]; done) | (simp only [lenE]; omega) | rfl | (simp only [lenE, markR_len]; done) | (simp only [lenE, markR_len]; omega)) only [runE, mapE, listE, initT_5, initT_6, initT_7, initT_8, resV, oneV, binA, unA, reduceCtorEq, Nat.reduceEqDiff, Nat.reduceAdd, Nat.reduceLT, Nat.reduceLeDiff, Nat.reduceMul, Nat.reduceSub, ↓reduceIte, decide_true, decide_false, Bool.true_eq_false, Bool.false_eq_true, Bool.not_true, Bool.not_false, if_true, if_false, and_true, true_and, memE, celE, w64, Nat.zero_add, Nat.add_zero, Nat.mul_one, putL, and_self, ldn, c_laws_FnExactChainBound, r_laws_FnExactChainBound, id_eq, ext_2_0, ext_2_1, ext_3_0, ext_3_1, ext_3_2, ext_4_0, ext_4_1, ext_4_2, ext_4_3, beq_self_eq_true, bne_self_eq_false, gt_iff_lt]
  obtain ⟨M1, hM1⟩ : ∃ M', M' = M0 ++ [⟨.own, 41, [u0a, u0b, u0c]⟩] := ⟨_, rfl⟩
  rw [← hM1]
  have LM1 : M1.length = M0.length + 1 := by rw [hM1, List.length_append]; rfl
  replace C0 : Lv 0 M0.length M1 fun M => ChA M (chV u0a u0b u0c) d0 := by rw [hM1]; exact C0.ext _
  have X0 : BoxA M1 M0.length [u0a, u0b, u0c] := by rw [hM1]; exact BoxA.here _ _ _ rfl
  try simp (config := {implicitDefEqProofs := false, maxDischargeDepth := 20}) (disch := first | omega | (simp only [lenE]; done) | (simp only [lenE]; omega) | rfl | (simp only [lenE, markR_len]; done) | (simp only [lenE, markR_len]; omega)) only [runE, mapE, listE, initT_5, initT_6, initT_7, initT_8, resV, oneV, binA, unA, reduceCtorEq, Nat.reduceEqDiff, Nat.reduceAdd, Nat.reduceLT, Nat.reduceLeDiff, Nat.reduceMul, Nat.reduceSub, ↓reduceIte, decide_true, decide_false, Bool.true_eq_false, Bool.false_eq_true, Bool.not_true, Bool.not_false, if_true, if_false, and_true, true_and, memE, celE, w64, Nat.zero_add, Nat.add_zero, Nat.mul_one, putL, and_self, ldn, id_eq, ext_2_0, ext_2_1, ext_3_0, ext_3_1, ext_3_2, ext_4_0, ext_4_1, ext_4_2, ext_4_3, beq_self_eq_true, bne_self_eq_false, gt_iff_lt, X0.ld3]
  refine callH_rc (szChain_rc _ _ d0 1048576 C0.now (by omega) (by omega)) ?_
  rintro r new ⟨nrn, rfl | ⟨z1, za1, zb1, rfl, hs0⟩⟩
  · simp (config := {implicitDefEqProofs := false, maxDischargeDepth := 20}) (disch := first | omega | (simp only [lenE]; done) | (simp only [lenE]; omega) | rfl | (simp only [lenE, markR_len]; done) | (simp only [lenE, markR_len]; omega)) only [runE, mapE, listE, initT_5, initT_6, initT_7, initT_8, resV, oneV, binA, unA, reduceCtorEq, Nat.reduceEqDiff, Nat.reduceAdd, Nat.reduceLT, Nat.reduceLeDiff, Nat.reduceMul, Nat.reduceSub, ↓reduceIte, decide_true, decide_false, Bool.true_eq_false, Bool.false_eq_true, Bool.not_true, Bool.not_false, if_true, if_false, and_true, true_and, memE, celE, w64, Nat.zero_add, Nat.add_zero, Nat.mul_one, putL, and_self, ldn, show ((-1 : Int) < 0) = True by simp]
  have zc1 : ¬ (z1 < 0) := by omega
  obtain ⟨M2, hM2⟩ : ∃ M', M' = M1 ++ new := ⟨_, rfl⟩
  rw [← hM2]
  have LM2 : M2.length = M1.length + new.length := by rw [hM2, List.length_append]
  replace C0 : Lv 0 M0.length M2 fun M => ChA M (chV u0a u0b u0c) d0 := by rw [hM2]; exact C0.ext _
  replace X0 : BoxA M2 M0.length [u0a, u0b, u0c] := by rw [hM2]; exact X0.ext _
  clear nrn
  try simp (config := {implicitDefEqProofs := false, maxDischargeDepth := 20}) (disch := first | omega | (simp only [lenE]; done) | (simp only [lenE]; omega) | rfl | (simp only [lenE, markR_len]; done) | (simp only [lenE, markR_len]; omega)) only [runE, mapE, listE, initT_5, initT_6, initT_7, initT_8, resV, oneV, binA, unA, reduceCtorEq, Nat.reduceEqDiff, Nat.reduceAdd, Nat.reduceLT, Nat.reduceLeDiff, Nat.reduceMul, Nat.reduceSub, ↓reduceIte, decide_true, decide_false, Bool.true_eq_false, Bool.false_eq_true, Bool.not_true, Bool.not_false, if_true, if_false, and_true, true_and, memE, celE, w64, Nat.zero_add, Nat.add_zero, Nat.mul_one, putL, and_self, ldn, id_eq, ext_2_0, ext_2_1, ext_3_0, ext_3_1, ext_3_2, ext_4_0, ext_4_1, ext_4_2, ext_4_3, beq_self_eq_true, bne_self_eq_false, gt_iff_lt, zc1, X0.ld3]
  obtain ⟨q0, hq0⟩ : ∃ q : Int, q = (boundC d0) := ⟨_, rfl⟩
  obtain ⟨q1, hq1⟩ : ∃ q : Bool, q = d0.good := ⟨_, rfl⟩
  have SPC := fun m u0 => specBound_rc m u0 d0
  have IMP := fun m u0 => implBound_rc m u0 d0
  try rw [← hq0] at SPC
  try rw [← hq0] at IMP
  try rw [← hq1] at SPC
  try rw [← hq1] at IMP
  try simp (config := {implicitDefEqProofs := false, maxDischargeDepth := 20}) (disch := first | omega | (simp only [lenE]; done) | (simp only [lenE]; omega) | rfl | (simp only [lenE, markR_len]; done) | (simp only [lenE, markR_len]; omega)) only [runE, mapE, listE, initT_5, initT_6, initT_7, initT_8, resV, oneV, binA, unA, reduceCtorEq, Nat.reduceEqDiff, Nat.reduceAdd, Nat.reduceLT, Nat.reduceLeDiff, Nat.reduceMul, Nat.reduceSub, ↓reduceIte, decide_true, decide_false, Bool.true_eq_false, Bool.false_eq_true, Bool.not_true, Bool.not_false, if_true, if_false, and_true, true_and, memE, celE, w64, Nat.zero_add, Nat.add_zero, Nat.mul_one, putL, and_self, ldn, id_eq, ext_2_0, ext_2_1, ext_3_0, ext_3_1, ext_3_2, ext_4_0, ext_4_1, ext_4_2, ext_4_3, beq_self_eq_true, bne_self_eq_false, gt_iff_lt, X0.ld3]
  have TT := toChain_rc M2 _ d0 C0.now hs0.1 hs0.2.1 hs0.2.2
  first | refine callH_rc TT ?_ | refine rcallH_rc TT ?_
  clear TT
  rintro r new ⟨nrn, Sv0, Sv0e, S0⟩
  rw [id_eq] at Sv0e
  subst r
  obtain ⟨M3, hM3⟩ : ∃ M', M' = M2 ++ new := ⟨_, rfl⟩
  rw [← hM3]
  have LM3 : M3.length = M2.length + new.length := by rw [hM3, List.length_append]
  replace C0 : Lv 0 M0.length M3 fun M => ChA M (chV u0a u0b u0c) d0 := by rw [hM3]; exact C0.ext _
  replace X0 : BoxA M3 M0.length [u0a, u0b, u0c] := by rw [hM3]; exact X0.ext _
  clear nrn
  rw [← hM3, ← LM3] at S0
  obtain ⟨Su0a, Su0b, Su0c, rfl, -⟩ := S0.now.in
  change Lv M2.length M3.length M3 fun M => ChO d0 M2.length M3.length M (chV Su0a Su0b Su0c) at S0
  try simp (config := {implicitDefEqProofs := false, maxDischargeDepth := 20}) (disch := first | omega | (simp only [lenE]; done) | (simp only [lenE]; omega) | rfl | (simp only [lenE, markR_len]; done) | (simp only [lenE, markR_len]; omega)) only [runE, mapE, listE, initT_5, initT_6, initT_7, initT_8, resV, oneV, binA, unA, reduceCtorEq, Nat.reduceEqDiff, Nat.reduceAdd, Nat.reduceLT, Nat.reduceLeDiff, Nat.reduceMul, Nat.reduceSub, ↓reduceIte, decide_true, decide_false, Bool.true_eq_false, Bool.false_eq_true, Bool.not_true, Bool.not_false, if_true, if_false, and_true, true_and, memE, celE, w64, Nat.zero_add, Nat.add_zero, Nat.mul_one, putL, and_self, ldn, id_eq, ext_2_0, ext_2_1, ext_3_0, ext_3_1, ext_3_2, ext_4_0, ext_4_1, ext_4_2, ext_4_3, beq_self_eq_true, bne_self_eq_false, gt_iff_lt, X0.ld3]
  refine callH_rc (SPC _ _ S0.now.in) ?_
  rintro r new ⟨rfl, nrn⟩
  obtain ⟨M4, hM4⟩ : ∃ M', M' = M3 ++ new := ⟨_, rfl⟩
  rw [← hM4]
  have LM4 : M4.length = M3.length + new.length := by rw [hM4, List.length_append]
  replace C0 : Lv 0 M0.length M4 fun M => ChA M (chV u0a u0b u0c) d0 := by rw [hM4]; exact C0.ext _
  replace X0 : BoxA M4 M0.length [u0a, u0b, u0c] := by rw [hM4]; exact X0.ext _
  replace S0 : Lv M2.length M3.length M4 fun M => ChO d0 M2.length M3.length M (chV Su0a Su0b Su0c) := by rw [hM4]; exact S0.ext _
  clear nrn
  clear S0
  try simp (config := {implicitDefEqProofs := false, maxDischargeDepth := 20}) (disch := first | omega | (simp only [lenE]; done) | (simp only [lenE]; omega) | rfl | (simp only [lenE, markR_len]; done) | (simp only [lenE, markR_len]; omega)) only [runE, mapE, listE, initT_5, initT_6, initT_7, initT_8, resV, oneV, binA, unA, reduceCtorEq, Nat.reduceEqDiff, Nat.reduceAdd, Nat.reduceLT, Nat.reduceLeDiff, Nat.reduceMul, Nat.reduceSub, ↓reduceIte, decide_true, decide_false, Bool.true_eq_false, Bool.false_eq_true, Bool.not_true, Bool.not_false, if_true, if_false, and_true, true_and, memE, celE, w64, Nat.zero_add, Nat.add_zero, Nat.mul_one, putL, and_self, ldn, id_eq, ext_2_0, ext_2_1, ext_3_0, ext_3_1, ext_3_2, ext_4_0, ext_4_1, ext_4_2, ext_4_3, beq_self_eq_true, bne_self_eq_false, gt_iff_lt, X0.ld3]
  have TT := toChain_rc M4 _ d0 C0.now hs0.1 hs0.2.1 hs0.2.2
  first | refine callH_rc TT ?_ | refine rcallH_rc TT ?_
  clear TT
  rintro r new ⟨nrn, Yv0, Yv0e, Y0⟩
  rw [id_eq] at Yv0e
  subst r
  obtain ⟨M5, hM5⟩ : ∃ M', M' = M4 ++ new := ⟨_, rfl⟩
  rw [← hM5]
  have LM5 : M5.length = M4.length + new.length := by rw [hM5, List.length_append]
  replace C0 : Lv 0 M0.length M5 fun M => ChA M (chV u0a u0b u0c) d0 := by rw [hM5]; exact C0.ext _
  replace X0 : BoxA M5 M0.length [u0a, u0b, u0c] := by rw [hM5]; exact X0.ext _
  clear nrn
  rw [← hM5, ← LM5] at Y0
  obtain ⟨Yu0a, Yu0b, Yu0c, rfl, -⟩ := Y0.now.in
  change Lv M4.length M5.length M5 fun M => ChO d0 M4.length M5.length M (chV Yu0a Yu0b Yu0c) at Y0
  have on00 := fun xs => ChA.one1 Y0.now.in xs
  have on01 := fun xs => ChA.one2 Y0.now.in xs
  have on02 := fun xs => ChA.one3 Y0.now.in xs
  try simp (config := {implicitDefEqProofs := false, maxDischargeDepth := 20}) (disch := first | omega | (simp only [lenE]; done) | (simp only [lenE]; omega) | rfl | (simp only [lenE, markR_len]; done) | (simp only [lenE, markR_len]; omega)) only [runE, mapE, listE, initT_5, initT_6, initT_7, initT_8, resV, oneV, binA, unA, reduceCtorEq, Nat.reduceEqDiff, Nat.reduceAdd, Nat.reduceLT, Nat.reduceLeDiff, Nat.reduceMul, Nat.reduceSub, ↓reduceIte, decide_true, decide_false, Bool.true_eq_false, Bool.false_eq_true, Bool.not_true, Bool.not_false, if_true, if_false, and_true, true_and, memE, celE, w64, Nat.zero_add, Nat.add_zero, Nat.mul_one, putL, and_self, ldn, id_eq, ext_2_0, ext_2_1, ext_3_0, ext_3_1, ext_3_2, ext_4_0, ext_4_1, ext_4_2, ext_4_3, beq_self_eq_true, bne_self_eq_false, gt_iff_lt, on00, on01, on02, X0.ld3]
  obtain ⟨M6, hM6⟩ : ∃ M', M' = M5 ++ [⟨.own, 26, [Yu0a, Yu0b, Yu0c]⟩] := ⟨_, rfl⟩
  rw [← hM6]
  have LM6 : M6.length = M5.length + 1 := by rw [hM6, List.length_append]; rfl
  replace C0 : Lv 0 M0.length M6 fun M => ChA M (chV u0a u0b u0c) d0 := by rw [hM6]; exact C0.ext _
  replace X0 : BoxA M6 M0.length [u0a, u0b, u0c] := by rw [hM6]; exact X0.ext _
  replace Y0 : Lv M4.length M5.length M6 fun M => ChO d0 M4.length M5.length M (chV Yu0a Yu0b Yu0c) := by rw [hM6]; exact Y0.ext _
  have Z0 : BoxA M6 M5.length [Yu0a, Yu0b, Yu0c] := by rw [hM6]; exact BoxA.here _ _ _ rfl
  try simp (config := {implicitDefEqProofs := false, maxDischargeDepth := 20}) (disch := first | omega | (simp only [lenE]; done) | (simp only [lenE]; omega) | rfl | (simp only [lenE, markR_len]; done) | (simp only [lenE, markR_len]; omega)) only [runE, mapE, listE, initT_5, initT_6, initT_7, initT_8, resV, oneV, binA, unA, reduceCtorEq, Nat.reduceEqDiff, Nat.reduceAdd, Nat.reduceLT, Nat.reduceLeDiff, Nat.reduceMul, Nat.reduceSub, ↓reduceIte, decide_true, decide_false, Bool.true_eq_false, Bool.false_eq_true, Bool.not_true, Bool.not_false, if_true, if_false, and_true, true_and, memE, celE, w64, Nat.zero_add, Nat.add_zero, Nat.mul_one, putL, and_self, ldn, id_eq, ext_2_0, ext_2_1, ext_3_0, ext_3_1, ext_3_2, ext_4_0, ext_4_1, ext_4_2, ext_4_3, beq_self_eq_true, bne_self_eq_false, gt_iff_lt, X0.ld3, Z0.ld3]
  refine callH_rc (IMP _ _ Y0.now.in) ?_
  rintro r new ⟨rfl, nrn⟩
  obtain ⟨M7, hM7⟩ : ∃ M', M' = M6 ++ new := ⟨_, rfl⟩
  rw [← hM7]
  have LM7 : M7.length = M6.length + new.length := by rw [hM7, List.length_append]
  replace C0 : Lv 0 M0.length M7 fun M => ChA M (chV u0a u0b u0c) d0 := by rw [hM7]; exact C0.ext _
  replace X0 : BoxA M7 M0.length [u0a, u0b, u0c] := by rw [hM7]; exact X0.ext _
  replace Y0 : Lv M4.length M5.length M7 fun M => ChO d0 M4.length M5.length M (chV Yu0a Yu0b Yu0c) := by rw [hM7]; exact Y0.ext _
  replace Z0 : BoxA M7 M5.length [Yu0a, Yu0b, Yu0c] := by rw [hM7]; exact Z0.ext _
  clear nrn
  try simp (config := {implicitDefEqProofs := false, maxDischargeDepth := 20}) (disch := first | omega | (simp only [lenE]; done) | (simp only [lenE]; omega) | rfl | (simp only [lenE, markR_len]; done) | (simp only [lenE, markR_len]; omega)) only [runE, mapE, listE, initT_5, initT_6, initT_7, initT_8, resV, oneV, binA, unA, reduceCtorEq, Nat.reduceEqDiff, Nat.reduceAdd, Nat.reduceLT, Nat.reduceLeDiff, Nat.reduceMul, Nat.reduceSub, ↓reduceIte, decide_true, decide_false, Bool.true_eq_false, Bool.false_eq_true, Bool.not_true, Bool.not_false, if_true, if_false, and_true, true_and, memE, celE, w64, Nat.zero_add, Nat.add_zero, Nat.mul_one, putL, and_self, ldn, id_eq, ext_2_0, ext_2_1, ext_3_0, ext_3_1, ext_3_2, ext_4_0, ext_4_1, ext_4_2, ext_4_3, beq_self_eq_true, bne_self_eq_false, gt_iff_lt, X0.ld3, Z0.ld3]
  try simp (config := {implicitDefEqProofs := false, maxDischargeDepth := 20}) (disch := first | omega | (simp only [lenE]; done) | (simp only [lenE]; omega) | rfl | (simp only [lenE, markR_len]; done) | (simp only [lenE, markR_len]; omega)) only [runE, mapE, listE, initT_5, initT_6, initT_7, initT_8, resV, oneV, binA, unA, reduceCtorEq, Nat.reduceEqDiff, Nat.reduceAdd, Nat.reduceLT, Nat.reduceLeDiff, Nat.reduceMul, Nat.reduceSub, ↓reduceIte, decide_true, decide_false, Bool.true_eq_false, Bool.false_eq_true, Bool.not_true, Bool.not_false, if_true, if_false, and_true, true_and, memE, celE, w64, Nat.zero_add, Nat.add_zero, Nat.mul_one, putL, and_self, ldn, id_eq, ext_2_0, ext_2_1, ext_3_0, ext_3_1, ext_3_2, ext_4_0, ext_4_1, ext_4_2, ext_4_3, beq_self_eq_true, bne_self_eq_false, gt_iff_lt, X0.ld3, Z0.ld3]
  have TT := toChain_rc M7 _ d0 C0.now hs0.1 hs0.2.1 hs0.2.2
  first | refine callH_rc TT ?_ | refine rcallH_rc TT ?_
  clear TT
  rintro r new ⟨nrn, Tv0, Tv0e, T0⟩
  rw [id_eq] at Tv0e
  subst r
  obtain ⟨M8, hM8⟩ : ∃ M', M' = M7 ++ new := ⟨_, rfl⟩
  rw [← hM8]
  have LM8 : M8.length = M7.length + new.length := by rw [hM8, List.length_append]
  replace C0 : Lv 0 M0.length M8 fun M => ChA M (chV u0a u0b u0c) d0 := by rw [hM8]; exact C0.ext _
  replace X0 : BoxA M8 M0.length [u0a, u0b, u0c] := by rw [hM8]; exact X0.ext _
  replace Y0 : Lv M4.length M5.length M8 fun M => ChO d0 M4.length M5.length M (chV Yu0a Yu0b Yu0c) := by rw [hM8]; exact Y0.ext _
  replace Z0 : BoxA M8 M5.length [Yu0a, Yu0b, Yu0c] := by rw [hM8]; exact Z0.ext _
  clear nrn
  rw [← hM8, ← LM8] at T0
  obtain ⟨Tu0a, Tu0b, Tu0c, rfl, -⟩ := T0.now.in
  change Lv M7.length M8.length M8 fun M => ChO d0 M7.length M8.length M (chV Tu0a Tu0b Tu0c) at T0
  try simp (config := {implicitDefEqProofs := false, maxDischargeDepth := 20}) (disch := first | omega | (simp only [lenE]; done) | (simp only [lenE]; omega) | rfl | (simp only [lenE, markR_len]; done) | (simp only [lenE, markR_len]; omega)) only [runE, mapE, listE, initT_5, initT_6, initT_7, initT_8, resV, oneV, binA, unA, reduceCtorEq, Nat.reduceEqDiff, Nat.reduceAdd, Nat.reduceLT, Nat.reduceLeDiff, Nat.reduceMul, Nat.reduceSub, ↓reduceIte, decide_true, decide_false, Bool.true_eq_false, Bool.false_eq_true, Bool.not_true, Bool.not_false, if_true, if_false, and_true, true_and, memE, celE, w64, Nat.zero_add, Nat.add_zero, Nat.mul_one, putL, and_self, ldn, id_eq, ext_2_0, ext_2_1, ext_3_0, ext_3_1, ext_3_2, ext_4_0, ext_4_1, ext_4_2, ext_4_3, beq_self_eq_true, bne_self_eq_false, gt_iff_lt, X0.ld3, Z0.ld3]
  have TT := eqChain_rc M8 _ _ d0 Y0.now.in T0.now.in
  first | refine callH_rc TT ?_ | refine rcallH_rc TT ?_
  clear TT
  rintro r new ⟨rfl, nrn⟩
  obtain ⟨M9, hM9⟩ : ∃ M', M' = M8 ++ new := ⟨_, rfl⟩
  rw [← hM9]
  have LM9 : M9.length = M8.length + new.length := by rw [hM9, List.length_append]
  replace C0 : Lv 0 M0.length M9 fun M => ChA M (chV u0a u0b u0c) d0 := by rw [hM9]; exact C0.ext _
  replace X0 : BoxA M9 M0.length [u0a, u0b, u0c] := by rw [hM9]; exact X0.ext _
  replace Y0 : Lv M4.length M5.length M9 fun M => ChO d0 M4.length M5.length M (chV Yu0a Yu0b Yu0c) := by rw [hM9]; exact Y0.ext _
  replace Z0 : BoxA M9 M5.length [Yu0a, Yu0b, Yu0c] := by rw [hM9]; exact Z0.ext _
  replace T0 : Lv M7.length M8.length M9 fun M => ChO d0 M7.length M8.length M (chV Tu0a Tu0b Tu0c) := by rw [hM9]; exact T0.ext _
  clear nrn
  clear T0
  try simp (config := {implicitDefEqProofs := false, maxDischargeDepth := 20}) (disch := first | omega | (simp only [lenE]; done) | (simp only [lenE]; omega) | rfl | (simp only [lenE, markR_len]; done) | (simp only [lenE, markR_len]; omega)) only [runE, mapE, listE, initT_5, initT_6, initT_7, initT_8, resV, oneV, binA, unA, reduceCtorEq, Nat.reduceEqDiff, Nat.reduceAdd, Nat.reduceLT, Nat.reduceLeDiff, Nat.reduceMul, Nat.reduceSub, ↓reduceIte, decide_true, decide_false, Bool.true_eq_false, Bool.false_eq_true, Bool.not_true, Bool.not_false, if_true, if_false, and_true, true_and, memE, celE, w64, Nat.zero_add, Nat.add_zero, Nat.mul_one, putL, and_self, ldn, id_eq, ext_2_0, ext_2_1, ext_3_0, ext_3_1, ext_3_2, ext_4_0, ext_4_1, ext_4_2, ext_4_3, beq_self_eq_true, bne_self_eq_false, gt_iff_lt, X0.ld3, Z0.ld3]
end Go.Proofs.Ytamhhicnfpemeaa.Ab
end
section
namespace Go.Proofs.Ytamhhicnfpemeaa.Ab
open Go Go.RowKit
set_option linter.unusedVariables false
theorem ws_word : ∀ (p r : List Char), p.all (fun c => c != ' ') = true → wordsSigns (p ++ ' ' :: r) = p :: wordsSigns r
  | [], r, _ => by rw [List.nil_append, wordsSigns]
  | c :: p, r, h => by
    rw [List.all_cons, Bool.and_eq_true] at h
    have hc : c ≠ ' ' := by simpa using h.1
    rw [List.cons_append, wordsSigns, ws_word p r h.2]
    intro e; exact hc e
def sumW : List Char := ['f', 'b', 'd', '5', '7', '7', '5', '0', '7', 'b', '4', '9', '1', '0', 'c', 'e', '0', 'f', 'c', 'b', '6', 'f', '2', '5', '2', 'b', '1', '4', 'b', '8', '3', '3', 'f', 'e', '4', '0', '6', '4', 'e', 'c', '5', 'a', '8', '2', 'd', 'd', '4', 'c', 'f', '4', '6', '1', '0', '9', 'f', '6', '2', '7', 'e', 'd', 'c', 'c', '6', '0']
def restW : List Char := ['a', 't', ' ', 'l', 'o', 'o', 'p', '.', 'e', 'x', 'a', 'm', 'p', 'l', 'e', '/', 'g', '0', '1', '1', '1', '1', '/', 'l', 'a', 'w', 's', '.', 'F', 'n', 'A', 's', 's', 'e', 'm', 'b', 'l', 'i', 'e', 's', ' ', 'l', 'o', 'o', 'p', '.', 'e', 'x', 'a', 'm', 'p', 'l', 'e', '/', 'g', '0', '1', '1', '1', '1', '/', 'l', 'a', 'w', 's', '.', 'F', 'n', 'E', 'x', 'a', 'c', 't', 'I', 's', 'C', 'h', 'a', 'i', 'n', ' ', 'l', 'o', 'o', 'p', '.', 'e', 'x', 'a', 'm', 'p', 'l', 'e', '/', 'g', '0', '1', '1', '1', '1', '/', 'l', 'a', 'w', 's', '.', 'F', 'n', 'E', 'x', 'a', 'c', 't', 'C', 'h', 'a', 'i', 'n', 'S', 't', 'o', 'c', 'k', 's', ' ', 'l', 'o', 'o', 'p', '.', 'e', 'x', 'a', 'm', 'p', 'l', 'e', '/', 'g', '0', '1', '1', '1', '1', '/', 'l', 'a', 'w', 's', '.', 'F', 'n', 'E', 'x', 'a', 'c', 't', 'I', 's', 'C', 'h', 'a', 'i', 'n', 'P', 'l', 'a', 'n', ' ', 'l', 'o', 'o', 'p', '.', 'e', 'x', 'a', 'm', 'p', 'l', 'e', '/', 'g', '0', '1', '1', '1', '1', '/', 'l', 'a', 'w', 's', '.', 'F', 'n', 'E', 'x', 'a', 'c', 't', 'C', 'h', 'a', 'i', 'n', 'C', 'o', 's', 't', ' ', 'l', 'o', 'o', 'p', '.', 'e', 'x', 'a', 'm', 'p', 'l', 'e', '/', 'g', '0', '1', '1', '1', '1', '/', 'l', 'a', 'w', 's', '.', 'F', 'n', 'E', 'x', 'a', 'c', 't', 'E', 'c', 'h', 'e', 'l', 'o', 'n', 'H', 'o', 'l', 'd', 's', ' ', 'l', 'o', 'o', 'p', '.', 'e', 'x', 'a', 'm', 'p', 'l', 'e', '/', 'g', '0', '1', '1', '1', '1', '/', 'l', 'a', 'w', 's', '.', 'F', 'n', 'E', 'x', 'a', 'c', 't', 'E', 'c', 'h', 'e', 'l', 'o', 'n', 'S', 't', 'o', 'c', 'k', 's', ' ', 'l', 'o', 'o', 'p', '.', 'e', 'x', 'a', 'm', 'p', 'l', 'e', '/', 'g', '0', '1', '1', '1', '1', '/', 'l', 'a', 'w', 's', '.', 'F', 'n', 'E', 'x', 'a', 'c', 't', 'I', 's', 'N', 'e', 's', 't', 'e', 'd', 'P', 'l', 'a', 'n', ' ', 'l', 'o', 'o', 'p', '.', 'e', 'x', 'a', 'm', 'p', 'l', 'e', '/', 'g', '0', '1', '1', '1', '1', '/', 'l', 'a', 'w', 's', '.', 'F', 'n', 'E', 'x', 'a', 'c', 't', 'N', 'e', 's', 't', 'e', 'd', 'P', 'l', 'a', 'n', ' ', 'l', 'o', 'o', 'p', '.', 'e', 'x', 'a', 'm', 'p', 'l', 'e', '/', 'g', '0', '1', '1', '1', '1', '/', 'l', 'a', 'w', 's', '.', 'F', 'n', 'E', 'x', 'a', 'c', 't', 'B', 'e', 's', 't', 'N', 'e', 's', 't', 'e', 'd', ' ', 'l', 'o', 'o', 'p', '.', 'e', 'x', 'a', 'm', 'p', 'l', 'e', '/', 'g', '0', '1', '1', '1', '1', '/', 'l', 'a', 'w', 's', '.', 'F', 'n', 'E', 'x', 'a', 'c', 't', 'B', 'e', 's', 't', 'C', 'h', 'a', 'i', 'n', 'C', 'o', 's', 't', ' ', 'l', 'o', 'o', 'p', '.', 'e', 'x', 'a', 'm', 'p', 'l', 'e', '/', 'g', '0', '1', '1', '1', '1', '/', 'l', 'a', 'w', 's', '.', 'F', 'n', 'E', 'x', 'a', 'c', 't', 'S', 't', 'a', 'g', 'e', 'C', 'a', 's', 'e', ' ', 'l', 'o', 'o', 'p', '.', 'e', 'x', 'a', 'm', 'p', 'l', 'e', '/', 'g', '0', '1', '1', '1', '1', '/', 'l', 'a', 'w', 's', '.', 'F', 'n', 'E', 'x', 'a', 'c', 't', 'C', 'h', 'a', 'i', 'n', 'B', 'o', 'u', 'n', 'd', ' ', 'l', 'o', 'o', 'p', '.', 'e', 'x', 'a', 'm', 'p', 'l', 'e', '/', 'g', '0', '1', '1', '1', '1', '/', 'l', 'a', 'w', 's', '.', 'F', 'n', 'E', 'x', 'a', 'c', 't', 'S', 't', 'a', 'g', 'e', 'w', 'i', 's', 'e', 'P', 'l', 'a', 'n', ' ', 'l', 'o', 'o', 'p', '.', 'e', 'x', 'a', 'm', 'p', 'l', 'e', '/', 'g', '0', '1', '1', '1', '1', '/', 'l', 'a', 'w', 's', '.', 'F', 'n', 'E', 'x', 'a', 'c', 't', 'B', 'e', 's', 't', 'A', 's', 's', 'e', 'm', 'b', 'l', 'y']
set_option maxRecDepth 100000 in
theorem head_is : Try.prog.initOrder = String.ofList (['h', 'a', 'r', 'n', 'e', 's', 's'] ++ ' ' :: (sumW ++ ' ' :: (['c', 'u', 't'] ++ ' ' :: restW))) := by kernel_rfl
set_option maxRecDepth 100000 in
theorem sum_ok : isSumSigns sumW = true := by kernel_rfl
theorem head_words : behindMainWord (wordsSigns Try.prog.initOrder.toList) = ['c', 'u', 't'] :: wordsSigns restW := by
  rw [head_is, String.toList_ofList, ws_word _ _ (by decide), ws_word _ _ (by decide), ws_word _ _ (by decide)]
  simp only [behindMainWord, sum_ok, Bool.and_true]
  rfl
set_option maxRecDepth 100000 in
theorem strip_cut (X : List (List Char)) : stripLifts liftWords (['c', 'u', 't'] :: X) = ([], ['c', 'u', 't'] :: X) := by kernel_rfl
theorem lifts_gen (P : Program) (X : List (List Char)) (h : behindMainWord (wordsSigns P.initOrder.toList) = ['c', 'u', 't'] :: X) : P.headLifts = [] := by
  unfold Program.headLifts
  rw [h, strip_cut]
  rfl
theorem enters_gen (P : Program) (X : List (List Char)) (h : behindMainWord (wordsSigns P.initOrder.toList) = ['c', 'u', 't'] :: X) (h1 : P.laysLater = false) (h2 : P.bearsReflect = false) (h3 : P.doorFits [] = true) : P.mayEnter = true := by
  unfold Program.mayEnter
  rw [h]
  simp only [strip_cut, h1, h2, h3]
  rfl
theorem finals_gen (P : Program) (X : List (List Char)) (h : behindMainWord (wordsSigns P.initOrder.toList) = ['c', 'u', 't'] :: X) : P.liftsFinal = false := by
  unfold Program.liftsFinal
  rw [lifts_gen P X h, h]
  rfl
theorem make_gen (P : Program) (X : List (List Char)) (h : behindMainWord (wordsSigns P.initOrder.toList) = ['c', 'u', 't'] :: X) : P.make = some .cut := by
  unfold Program.make
  rw [h]
  rfl
set_option maxRecDepth 100000 in
theorem enters : Try.prog.mayEnter = true := enters_gen _ _ head_words (by kernel_rfl) (by kernel_rfl) (by kernel_rfl)
theorem no_finals : Try.prog.liftsFinal = false := finals_gen _ _ head_words
theorem makes : Try.prog.make = some .cut := make_gen _ _ head_words
end Go.Proofs.Ytamhhicnfpemeaa.Ab
end
