/- Rows behind each other (slices.Concat, slices.Grow), and the flow behind a day. -/
import Derived.Test.YtnkbjliidenldaaAbFl2
import Derived.Test.YtnkbjliidenldaaAbEarly
namespace Go.Proofs.Ytnkbjliidenldaa.Ab
open Go Go.RowKit
set_option linter.unusedVariables false
set_option linter.unusedSimpArgs false

theorem grow_rc (m : Mem) (n : Nat) (h0 : 0 < n) (hb : n ≤ 100000) :
    RC Try.prog 120 [.slice none 0 0, .int .i64 n] m fun r new => r = .slice (some ⟨m.length, 0, none⟩) 0 1 ∧ new = [⟨.own, 3, List.replicate n (.int .i64 0)⟩] := by
  refine rc_of_run mixed ok_slices_Grow (by simp) (go_start _ _ _ ?_)
  have e1 : ¬ ((n : Int) < 0) := by omega
  have e2 : (n : Int) - (0 - ((0 : Nat) : Int)) = n := by simp
  have e3 : (n : Int) > 0 := by omega
  have s1 : slcA 1 (.slice none 0 0) none (some (.int .i64 0)) = some (.slice none 0 0) := rfl
  have a1 : apzA (roM m) 3 8 [.int .i64 0] (.slice none 0 0) (.int .i64 n) = some (.slice (some ⟨m.length, 0, none⟩) n 1, roM m ++ [⟨.own, 3, List.replicate n (.int .i64 0)⟩]) := by
    simp only [apzA]
    rw [if_pos (by omega), roM_len, repL_one]
    simp
  have s2 : slcA 1 (.slice (some ⟨m.length, 0, none⟩) n 1) none (some (.int .i64 ((0 : Nat) : Int))) = some (.slice (some ⟨m.length, 0, none⟩) 0 1) := by
    simp [slcA, boundA]
  simp (config := {implicitDefEqProofs := false, maxDischargeDepth := 20}) (disch := first | omega | (simp only [lenE]; done) | (simp only [lenE]; omega) | rfl | (simp only [lenE, markR_len]; done) | (simp only [lenE, markR_len]; omega)) only [runE, mapE, listE, initT_5, initT_6, initT_7, initT_8, resV, oneV, binA, unA, reduceCtorEq, Nat.reduceEqDiff, Nat.reduceAdd, Nat.reduceLT, Nat.reduceLeDiff, Nat.reduceMul, Nat.reduceSub, ↓reduceIte, decide_true, decide_false, Bool.true_eq_false, Bool.false_eq_true, Bool.not_true, Bool.not_false, if_true, if_false, and_true, true_and, memE, celE, w64, Nat.zero_add, Nat.add_zero, Nat.mul_one, putL, and_self, ldn, c_slices_Grow, r_slices_Grow, e1, e2, e3, s1, a1, s2, Option.map_none]
  exact ⟨_, rfl, noRo_own noRo_nil, rfl, rfl⟩
theorem app_spare {M : Mem} {l0 l rest : List Int} {id : Nat} {v : Value} (h : OwnR M id (l0 ++ rest)) (hi : IntsA M v l) (hb : l0.length + l.length ≤ 1048576) :
    appP M 3 1 8 (.slice (some ⟨id, 0, none⟩) l0.length 1) v = some (.slice (some ⟨M.length, 0, none⟩) (l0.length + l.length) 1, M.set id deadB ++ [⟨.own, 3, (l0 ++ l).map (Value.int .i64)⟩]) := by
  cases rest with
  | nil => rw [List.append_nil] at h; exact app_all h hi hb
  | cons x rest =>
    unfold appP
    rw [hi.src]
    simp only [onesB_ints, if_true, appA, hi.lenOf]
    rw [show M[id]? = some (rowB (l0 ++ x :: rest)) from h]
    simp only [List.length_map, Nat.mul_one, true_and]
    rw [if_neg (by simp), if_pos (by simp; omega)]
    simp
theorem flat_s {T : List (List Int)} {k : Nat} (h : k < T.length) : (T.take (k + 1)).flatten = (T.take k).flatten ++ T.getD k [] := by
  rw [List.take_succ_eq_append_getElem h, List.flatten_append, List.getD_eq_getElem?_getD, List.getElem?_eq_getElem h]; simp
theorem flat_len {T : List (List Int)} : ∀ {k : Nat}, k ≤ T.length → ((T.take k).flatten.length : Int) = tsz T k
  | 0, _ => by simp [tsz]
  | k + 1, h => by rw [flat_s (by omega), List.length_append]; have := flat_len (T := T) (k := k) (by omega); simp only [tsz]; omega
/-- A new row of one's own to which may be appended. -/
def AnsQ (m : Mem) (l : List Int) (r : Value) (new : Mem) : Prop :=
  NoRo new ∧ l.length ≤ 1048576 ∧ ∃ i, r = .slice (some ⟨m.length + i, 0, none⟩) l.length 1 ∧ new[i]? = some (rowB l)
theorem AnsQ.row {m new : Mem} {l : List Int} {r : Value} (h : AnsQ m l r new) : ∃ id, r = .slice (some ⟨id, 0, none⟩) l.length 1 ∧ m.length ≤ id ∧ OwnR (m ++ new) id l ∧ l.length ≤ 1048576 ∧ NoRo new := by
  obtain ⟨h1, h2, i, rfl, h3⟩ := h
  exact ⟨_, rfl, by omega, OwnR.new h3 rfl, h2, h1⟩
theorem ext_ansQ {m M : Mem} {l : List Int} {id n : Nat} (h : Ext m M) (ho : OwnR M id l) (hid : m.length ≤ id) (hn : n = l.length) (hl : l.length ≤ 1048576) :
    newQ m (AnsQ m l) (.slice (some ⟨id, 0, none⟩) n 1) M := by
  subst hn
  obtain ⟨n0, rfl, h0⟩ := h
  unfold OwnR at ho
  rw [List.getElem?_append_right (by rw [roM_len]; exact hid), roM_len] at ho
  exact ⟨n0, rfl, h0, h0, hl, id - m.length, by rw [Nat.add_sub_cancel' hid], ho⟩
theorem concat_rc (m : Mem) (v : Value) (T : List (List Int)) (h : TabA m v T) (h0 : 0 < tsz T T.length) (hb : tsz T T.length ≤ 100000) :
    RC Try.prog 76 [v] m (AnsQ m T.flatten) := by
  refine rc_of_run mixed ok_slices_Concat (by simp) (go_start _ _ _ ?_)
  have hr := h.ro
  have hbd := h.bd
  simp (config := {implicitDefEqProofs := false, maxDischargeDepth := 20}) (disch := first | omega | (simp only [lenE]; done) | (simp only [lenE]; omega) | rfl | (simp only [lenE, markR_len]; done) | (simp only [lenE, markR_len]; omega)) only [runE, mapE, listE, initT_5, initT_6, initT_7, initT_8, resV, oneV, binA, unA, reduceCtorEq, Nat.reduceEqDiff, Nat.reduceAdd, Nat.reduceLT, Nat.reduceLeDiff, Nat.reduceMul, Nat.reduceSub, ↓reduceIte, decide_true, decide_false, Bool.true_eq_false, Bool.false_eq_true, Bool.not_true, Bool.not_false, if_true, if_false, and_true, true_and, memE, celE, w64, Nat.zero_add, Nat.add_zero, Nat.mul_one, putL, and_self, ldn, c_slices_Concat, r_slices_Concat, hr.len]
  refine loop_inv mixed (fun s => ∃ k : Nat, k ≤ T.length ∧ s.m = roM m ∧ s.t 0 = v ∧ s.t 3 = .int .i64 (tsz T k) ∧ s.t 9 = v ∧ s.t 10 = .int .i64 T.length ∧ s.t 11 = .int .i64 k) (fun s => T.length - (zOf (s.t 11)).toNat)
    ⟨0, by omega, rfl, rfl, rfl, rfl, rfl, rfl⟩ ?_
  rintro s ⟨k, hk, tm, t0, t3, t9, t10, t11⟩
  by_cases hlt : k < T.length
  · have hlt' : (k : Int) < T.length := by omega
    obtain ⟨u, e4, hu⟩ := hr.ld k hlt
    have n1 := tsz_le T (j := k + 1) (k := T.length) (by omega)
    have n2 := tsz_nonneg T k
    have n3 : ¬ (tsz T k + ((T.getD k []).length : Int) < 0) := by omega
    simp only [tsz] at n1
    simp (config := {implicitDefEqProofs := false, maxDischargeDepth := 20}) (disch := first | omega | (simp only [lenE]; done) | (simp only [lenE]; omega) | rfl | (simp only [lenE, markR_len]; done) | (simp only [lenE, markR_len]; omega)) only [runE, mapE, listE, initT_5, initT_6, initT_7, initT_8, resV, oneV, binA, unA, reduceCtorEq, Nat.reduceEqDiff, Nat.reduceAdd, Nat.reduceLT, Nat.reduceLeDiff, Nat.reduceMul, Nat.reduceSub, ↓reduceIte, decide_true, decide_false, Bool.true_eq_false, Bool.false_eq_true, Bool.not_true, Bool.not_false, if_true, if_false, and_true, true_and, memE, celE, w64, Nat.zero_add, Nat.add_zero, Nat.mul_one, putL, and_self, ldn, tm, t0, t3, t9, t10, t11, hr.at_ k hlt, e4, hu.len, hlt', n3]
    refine ⟨⟨k + 1, by omega, by simp only [tsz], by simp⟩, ?_⟩
    simp [zOf]; omega
  · have hlt' : ¬ ((k : Int) < T.length) := by omega
    obtain rfl : k = T.length := by omega
    simp (config := {implicitDefEqProofs := false, maxDischargeDepth := 20}) (disch := first | omega | (simp only [lenE]; done) | (simp only [lenE]; omega) | rfl | (simp only [lenE, markR_len]; done) | (simp only [lenE, markR_len]; omega)) only [runE, mapE, listE, initT_5, initT_6, initT_7, initT_8, resV, oneV, binA, unA, reduceCtorEq, Nat.reduceEqDiff, Nat.reduceAdd, Nat.reduceLT, Nat.reduceLeDiff, Nat.reduceMul, Nat.reduceSub, ↓reduceIte, decide_true, decide_false, Bool.true_eq_false, Bool.false_eq_true, Bool.not_true, Bool.not_false, if_true, if_false, and_true, true_and, memE, celE, w64, Nat.zero_add, Nat.add_zero, Nat.mul_one, putL, and_self, ldn, tm, t0, t3, t9, t10, t11, hlt']
    obtain ⟨n, hn⟩ : ∃ n : Nat, tsz T T.length = n := ⟨(tsz T T.length).toNat, by omega⟩
    rw [hn]
    refine callH_rc (grow_rc _ n (by omega) (by omega)) ?_
    rintro r new ⟨rfl, rfl⟩
    simp (config := {implicitDefEqProofs := false, maxDischargeDepth := 20}) (disch := first | omega | (simp only [lenE]; done) | (simp only [lenE]; omega) | rfl | (simp only [lenE, markR_len]; done) | (simp only [lenE, markR_len]; omega)) only [runE, mapE, listE, initT_5, initT_6, initT_7, initT_8, resV, oneV, binA, unA, reduceCtorEq, Nat.reduceEqDiff, Nat.reduceAdd, Nat.reduceLT, Nat.reduceLeDiff, Nat.reduceMul, Nat.reduceSub, ↓reduceIte, decide_true, decide_false, Bool.true_eq_false, Bool.false_eq_true, Bool.not_true, Bool.not_false, if_true, if_false, and_true, true_and, memE, celE, w64, Nat.zero_add, Nat.add_zero, Nat.mul_one, putL, and_self, ldn, t0, hr.len]
    refine loop_inv mixed (fun s => ∃ (k : Nat) (M : Mem) (id : Nat) (rest : List Int), k ≤ T.length ∧ s.m = M ∧ Ext m M ∧ m.length ≤ id ∧ OwnR M id ((T.take k).flatten ++ rest) ∧ s.t 6 = .slice (some ⟨id, 0, none⟩) (T.take k).flatten.length 1 ∧ s.t 25 = v ∧ s.t 26 = .int .i64 T.length ∧ s.t 27 = .int .i64 k ∧ (0 < k → rest = [])) (fun s => T.length - (zOf (s.t 27)).toNat)
      ⟨0, _, m.length, List.replicate n 0, by omega, rfl, (Ext.refl m).one _ _, by omega, ?_, rfl, rfl, rfl, rfl, fun h => absurd h (by omega)⟩ ?_
    · simp only [List.take_zero, List.flatten_nil, List.nil_append]
      exact OwnR.zeros (by rw [roM_len])
    rintro s ⟨k, M, id, rest, hk, tm, hx, hid, ho, t6, t25, t26, t27, hrest⟩
    by_cases hlt : k < T.length
    · have hlt' : (k : Int) < T.length := by omega
      obtain ⟨u, e4, hu⟩ := hr.ld k hlt
      have kp : Keeps (roM m) M := by
        obtain ⟨n0, rfl, _⟩ := hx
        exact Keeps.app _ _
      have e4' := kp.ldA e4
      have hu' := kp.ints hu
      have n1 := tsz_le T (j := k + 1) (k := T.length) (by omega)
      have n2 := flat_len (T := T) (k := k) (by omega)
      simp only [tsz] at n1
      have ha := app_spare ho hu' (by omega)
      simp (config := {implicitDefEqProofs := false, maxDischargeDepth := 20}) (disch := first | omega | (simp only [lenE]; done) | (simp only [lenE]; omega) | rfl | (simp only [lenE, markR_len]; done) | (simp only [lenE, markR_len]; omega)) only [runE, mapE, listE, initT_5, initT_6, initT_7, initT_8, resV, oneV, binA, unA, reduceCtorEq, Nat.reduceEqDiff, Nat.reduceAdd, Nat.reduceLT, Nat.reduceLeDiff, Nat.reduceMul, Nat.reduceSub, ↓reduceIte, decide_true, decide_false, Bool.true_eq_false, Bool.false_eq_true, Bool.not_true, Bool.not_false, if_true, if_false, and_true, true_and, memE, celE, w64, Nat.zero_add, Nat.add_zero, Nat.mul_one, putL, and_self, ldn, tm, t6, t25, t26, t27, h.at_ k hlt, e4', hlt', ha]
      have hidl := ho.lt
      refine ⟨⟨k + 1, _, M.length, [], by omega, rfl, (hx.dead hid).one _ _, hx.len, ?_, ?_, by simp, fun _ => rfl⟩, ?_⟩
      · rw [List.append_nil, flat_s hlt]
        exact OwnR.end' (by simp)
      · rw [flat_s hlt, List.length_append]
      · simp [zOf]; omega
    · have hlt' : ¬ ((k : Int) < T.length) := by omega
      obtain rfl : k = T.length := by omega
      have hpos : 0 < T.length := by
        rcases Nat.eq_zero_or_pos T.length with e | e
        · rw [e] at h0; simp [tsz] at h0
        · exact e
      rw [hrest hpos, List.append_nil, List.take_length] at ho
      rw [List.take_length] at t6
      have n2 := flat_len (T := T) (k := T.length) (Nat.le_refl _)
      rw [List.take_length] at n2
      simp (config := {implicitDefEqProofs := false, maxDischargeDepth := 20}) (disch := first | omega | (simp only [lenE]; done) | (simp only [lenE]; omega) | rfl | (simp only [lenE, markR_len]; done) | (simp only [lenE, markR_len]; omega)) only [runE, mapE, listE, initT_5, initT_6, initT_7, initT_8, resV, oneV, binA, unA, reduceCtorEq, Nat.reduceEqDiff, Nat.reduceAdd, Nat.reduceLT, Nat.reduceLeDiff, Nat.reduceMul, Nat.reduceSub, ↓reduceIte, decide_true, decide_false, Bool.true_eq_false, Bool.false_eq_true, Bool.not_true, Bool.not_false, if_true, if_false, and_true, true_and, memE, celE, w64, Nat.zero_add, Nat.add_zero, Nat.mul_one, putL, and_self, ldn, tm, t6, t25, t26, t27, hlt']
      exact ext_ansQ hx ho hid rfl (by omega)
theorem own11_rc (m : Mem) (v : Value) (l : List Int) (h : IntsA m v l) (hl : l.length ≤ 1048576) : RC Try.prog 80 [v] m (AnsQ m l) := by
  refine rc_of_run mixed ok_spec_l1Own (by simp) (go_start _ _ _ ?_)
  have hr := h.ro
  have ha := app_own hr hl
  rw [roM_len] at ha
  simp (config := {implicitDefEqProofs := false, maxDischargeDepth := 20}) (disch := first | omega | (simp only [lenE]; done) | (simp only [lenE]; omega) | rfl | (simp only [lenE, markR_len]; done) | (simp only [lenE, markR_len]; omega)) only [runE, mapE, listE, initT_5, initT_6, initT_7, initT_8, resV, oneV, binA, unA, reduceCtorEq, Nat.reduceEqDiff, Nat.reduceAdd, Nat.reduceLT, Nat.reduceLeDiff, Nat.reduceMul, Nat.reduceSub, ↓reduceIte, decide_true, decide_false, Bool.true_eq_false, Bool.false_eq_true, Bool.not_true, Bool.not_false, if_true, if_false, and_true, true_and, memE, celE, w64, Nat.zero_add, Nat.add_zero, Nat.mul_one, putL, and_self, ldn, c_spec_l1Own, r_spec_l1Own, bsl_none', ha]
  exact ext_ansQ (((Ext.refl m).app (noRo_dead noRo_nil)).one _ _) (OwnR.end' (by simp [roM_len])) (by omega) rfl hl
/-! Days. -/
abbrev FT : TypeId := 27
theorem FlO.zero (lo hi : Nat) (M : Mem) : FlO Fl0 lo hi M (.agg #[.int .i64 0, .slice none 0 0]) := ⟨_, rfl, IntsP.nil lo hi M⟩
/-- No flow is answered. -/
theorem ext_noFl {m M : Mem} {s : Fl} {f : Value → Value} (h : Ext m M) (hs : s = Fl0) : newQ m (AnsO m (FlO s) f) (f (.agg #[.int .i64 0, .slice none 0 0])) M := by
  subst hs
  exact ext_ansO h fun M' hM => FlO.zero _ _ _
theorem ext_fl {m M : Mem} {s : Fl} {f : Value → Value} {id n fl p : Nat} {st : Int} {pre : List Int} (h : Ext m M) (ho : OwnR M id (pre ++ s.under)) (hid : m.length ≤ id) (hp : p = pre.length) (hn : n = s.under.length) (hst : st = s.stock) (hl : s.under.length ≤ 1048576) :
    newQ m (AnsO m (FlO s) f) (f (.agg #[.int .i64 st, .slice (some ⟨id, p, none⟩) n fl])) M := by
  subst hp hn hst
  exact ext_ansO h fun M' hM => ⟨_, rfl, hl, .inr ⟨id, pre, fl, rfl, hid, ho.lt, ho.at_ (hM _ hid ho.lt)⟩⟩
theorem slc1 {id n fl : Nat} (h : 1 ≤ n) : slcA 1 (.slice (some ⟨id, 0, none⟩) n fl) (some (.int .i64 1)) none = some (.slice (some ⟨id, 1, none⟩) (n - 1) 0) := by
  simp [slcA, boundA, h]
theorem bld_fl (st : Int) (A : Option Addr) (n c : Nat) : bldA [.int .i64 0, .slice none 0 0] [(0, 1, .int .i64 st), (1, 1, .slice A n c)] = some (.agg #[.int .i64 st, .slice A n c]) := rfl
theorem bld_fl0 : bldA [.int .i64 0, .slice none 0 0] [] = some (.agg #[.int .i64 0, .slice none 0 0]) := rfl
theorem bsl_two {m : Mem} {e : TypeId} {A B : Option Addr} {n c k d : Nat} : bslA m e 1 2 [.slice none 0 0, .slice none 0 0] [(0, 1, .slice A n c), (1, 1, .slice B k d)] = some (.slice (some ⟨m.length, 0, none⟩) 2 1, m ++ [⟨.own, e, [.slice A n c, .slice B k d]⟩]) := rfl
theorem IntsA.sl {m : Mem} {v : Value} {l : List Int} (h : IntsA m v l) : ∃ A n c, v = .slice A n c := by
  rcases h.form with ⟨rfl, _⟩ | ⟨i, o, fl, rfl⟩ <;> exact ⟨_, _, _, rfl⟩
theorem dayA_no {f : Fl} {o a : Int} (h : dayOk f o a = false) : dayA f o a = Fl0 := by unfold dayA; rw [h]; rfl
theorem dayA_yes {f : Fl} {o a : Int} (h : dayOk f o a = true) : dayA f o a = dayL f o a := by unfold dayA; rw [h]; rfl
theorem under_cut (f : Fl) (o : Int) : f.under ++ [o] = [(f.under ++ [o]).getD 0 0] ++ (f.under ++ [o]).drop 1 := by
  cases f.under with
  | nil => rfl
  | cons x l => rfl
theorem l11Day_rc (m : Mem) (v : Value) (f : Fl) (o a : Int) (h : FlA m v f) (hF : GoodF f) (hO : 0 ≤ o ∧ o ≤ 40) (hA : 0 ≤ a ∧ a ≤ 20) :
    RC Try.prog 74 [v, .int .i64 o, .int .i64 a] m (AnsO m (FlO (dayL f o a)) (fun v => .tuple #[v, .int .i64 (f.stock + (f.under ++ [o]).getD 0 0)])) := by
  refine rc_of_run mixed ok_spec_l11Day (by simp) (go_start _ _ _ ?_)
  obtain ⟨u, rfl, hu⟩ := h.ro
  obtain ⟨uA, un, uc, rfl⟩ := hu.sl
  have hl4 := hF.l4
  have hst := dayL_st hF hO hA
  have hun := under_bd hF hO 0
  have hfs := hF.st
  have hde : (dayL f o a).stock = f.stock + (f.under ++ [o]).getD 0 0 - a := rfl
  have hdu : (dayL f o a).under = (f.under ++ [o]).drop 1 := rfl
  have hlen : (f.under ++ [o]).length = f.under.length + 1 := by simp
  have hdl : (dayL f o a).under.length = f.under.length := dayL_len f o a
  simp (config := {implicitDefEqProofs := false, maxDischargeDepth := 20}) (disch := first | omega | (simp only [lenE]; done) | (simp only [lenE]; omega) | rfl | (simp only [lenE, markR_len]; done) | (simp only [lenE, markR_len]; omega)) only [runE, mapE, listE, initT_5, initT_6, initT_7, initT_8, resV, oneV, binA, unA, reduceCtorEq, Nat.reduceEqDiff, Nat.reduceAdd, Nat.reduceLT, Nat.reduceLeDiff, Nat.reduceMul, Nat.reduceSub, ↓reduceIte, decide_true, decide_false, Bool.true_eq_false, Bool.false_eq_true, Bool.not_true, Bool.not_false, if_true, if_false, and_true, true_and, memE, celE, w64, Nat.zero_add, Nat.add_zero, Nat.mul_one, putL, and_self, ldn, c_spec_l11Day, r_spec_l11Day]
  obtain ⟨E, hE⟩ : ∃ E, E = roM m ++ [⟨.own, FT, [.int .i64 f.stock, .slice uA un uc]⟩] ++ [⟨.own, FT, [.int .i64 0, .slice none 0 0]⟩] := ⟨_, rfl⟩
  try rw [← hE]
  have hX : Ext m E := by rw [hE]; exact ((Ext.refl m).one _ _).one _ _
  have LE : E.length = m.length + 2 := by rw [hE]; simp [roM_len]
  have b1 : OwnB E m.length FT [.int .i64 f.stock, .slice uA un uc] := by rw [hE]; exact (OwnB.here (roM_len m).symm).ext _
  have b2 : OwnB E (m.length + 1) FT [.int .i64 0, .slice none 0 0] := by rw [hE]; exact OwnB.here (by simp [roM_len])
  have huE : IntsA E (.slice uA un uc) f.under := by rw [hE]; exact (hu.ext _).ext _
  clear hE
  try simp (config := {implicitDefEqProofs := false, maxDischargeDepth := 20}) (disch := first | omega | (simp only [lenE]; done) | (simp only [lenE]; omega) | rfl | (simp only [lenE, markR_len]; done) | (simp only [lenE, markR_len]; omega)) only [runE, mapE, listE, initT_5, initT_6, initT_7, initT_8, resV, oneV, binA, unA, reduceCtorEq, Nat.reduceEqDiff, Nat.reduceAdd, Nat.reduceLT, Nat.reduceLeDiff, Nat.reduceMul, Nat.reduceSub, ↓reduceIte, decide_true, decide_false, Bool.true_eq_false, Bool.false_eq_true, Bool.not_true, Bool.not_false, if_true, if_false, and_true, true_and, memE, celE, w64, Nat.zero_add, Nat.add_zero, Nat.mul_one, putL, and_self, ldn, b1.mk2']
  refine callH_rc (own11_rc _ _ f.under huE (by omega)) ?_
  intro r n1 hA1
  obtain ⟨i1, rfl, hi1, ho1, hle1, hn1⟩ := hA1.row
  obtain ⟨M1, hM1⟩ : ∃ M1, M1 = E ++ n1 := ⟨_, rfl⟩
  have hX1 : Ext m M1 := by rw [hM1]; exact hX.app hn1
  have c1 : OwnB M1 m.length FT [.int .i64 f.stock, .slice uA un uc] := by rw [hM1]; exact b1.ext _
  have c2 : OwnB M1 (m.length + 1) FT [.int .i64 0, .slice none 0 0] := by rw [hM1]; exact b2.ext _
  rw [← hM1] at ho1 ⊢
  have L1 : m.length + 2 ≤ M1.length := by rw [hM1, List.length_append]; omega
  clear hM1
  have ha := app_num (x := o) (id2 := M1.length) (n := f.under.length) ho1 (by omega) rfl rfl
  have hli1 := ho1.lt
  have c1d : OwnB (M1.set i1 deadB) m.length FT [.int .i64 f.stock, .slice uA un uc] := c1.set_ne (by omega) _
  obtain ⟨z, hz⟩ : ∃ z, z = (f.under ++ [o]).getD 0 0 := ⟨_, rfl⟩
  have hcell : ((f.under ++ [o]).map (Value.int .i64))[0]? = some (.int .i64 z) := by
    rw [hz, List.getElem?_map, List.getD_eq_getElem?_getD, List.getElem?_eq_getElem (by rw [hlen]; omega)]; rfl
  rw [← hz] at hun hde ⊢
  simp (config := {implicitDefEqProofs := false, maxDischargeDepth := 20}) (disch := first | omega | (simp only [lenE]; done) | (simp only [lenE]; omega) | rfl | (simp only [lenE, markR_len]; done) | (simp only [lenE, markR_len]; omega)) only [runE, mapE, listE, initT_5, initT_6, initT_7, initT_8, resV, oneV, binA, unA, reduceCtorEq, Nat.reduceEqDiff, Nat.reduceAdd, Nat.reduceLT, Nat.reduceLeDiff, Nat.reduceMul, Nat.reduceSub, ↓reduceIte, decide_true, decide_false, Bool.true_eq_false, Bool.false_eq_true, Bool.not_true, Bool.not_false, if_true, if_false, and_true, true_and, memE, celE, w64, Nat.zero_add, Nat.add_zero, Nat.mul_one, putL, and_self, ldn, bsl_one, ha, c1d.mk2', iad0 (n := f.under.length + 1) (z := 0) (j := 0) rfl (by omega), hcell, slc1 (n := f.under.length + 1) (by omega), Nat.add_sub_cancel, Option.map_none]
  obtain ⟨M2, hM2⟩ : ∃ M2, M2 = M1.set i1 deadB ++ [⟨.own, 3, [.int .i64 o]⟩] ++ [⟨.own, 3, (f.under ++ [o]).map (Value.int .i64)⟩] := ⟨_, rfl⟩
  have hX2 : Ext m M2 := by rw [hM2]; exact ((hX1.dead (by omega)).one _ _).one _ _
  have d2 : OwnB M2 (m.length + 1) FT [.int .i64 0, .slice none 0 0] := by rw [hM2]; exact ((c2.set_ne (by omega) _).ext _).ext _
  have ho2 : OwnR M2 (M1.length + 1) (f.under ++ [o]) := by rw [hM2]; exact OwnR.end' (by simp)
  have L2 : M2.length = M1.length + 2 := by rw [hM2]; simp
  rw [← hM2]
  clear hM2
  have hw : IntsA M2 (.slice (some ⟨M1.length + 1, 1, none⟩) f.under.length 0) (dayL f o a).under := by
    have h1 : OwnR M2 (M1.length + 1) ([z] ++ (dayL f o a).under) := by rw [hdu, hz, ← under_cut]; exact ho2
    have := OwnR.intsP (pre := [z]) h1 (by omega) 0
    rw [hdl] at this; exact this
  refine callH_rc (own11_rc _ _ (dayL f o a).under hw (by omega)) ?_
  intro r n3 hA3
  obtain ⟨i3, rfl, hi3, ho3, hle3, hn3⟩ := hA3.row
  obtain ⟨M3, hM3⟩ : ∃ M3, M3 = M2 ++ n3 := ⟨_, rfl⟩
  have hX3 : Ext m M3 := by rw [hM3]; exact hX2.app hn3
  have g2 : OwnB M3 (m.length + 1) FT [.int .i64 0, .slice none 0 0] := by rw [hM3]; exact d2.ext _
  rw [← hM3] at ho3 ⊢
  clear hM3
  have s3 := g2.st (off := 0) (vs := [.int .i64 (f.stock + z - a), .slice (some ⟨i3, 0, none⟩) (dayL f o a).under.length 1]) (by simp) rfl
  have p3 : OwnB (M3.set (m.length + 1) ⟨.own, FT, [.int .i64 (f.stock + z - a), .slice (some ⟨i3, 0, none⟩) (dayL f o a).under.length 1]⟩) (m.length + 1) FT [.int .i64 (f.stock + z - a), .slice (some ⟨i3, 0, none⟩) (dayL f o a).under.length 1] := g2.set_self _ _
  simp (config := {implicitDefEqProofs := false, maxDischargeDepth := 20}) (disch := first | omega | (simp only [lenE]; done) | (simp only [lenE]; omega) | rfl | (simp only [lenE, markR_len]; done) | (simp only [lenE, markR_len]; omega)) only [runE, mapE, listE, initT_5, initT_6, initT_7, initT_8, resV, oneV, binA, unA, reduceCtorEq, Nat.reduceEqDiff, Nat.reduceAdd, Nat.reduceLT, Nat.reduceLeDiff, Nat.reduceMul, Nat.reduceSub, ↓reduceIte, decide_true, decide_false, Bool.true_eq_false, Bool.false_eq_true, Bool.not_true, Bool.not_false, if_true, if_false, and_true, true_and, memE, celE, w64, Nat.zero_add, Nat.add_zero, Nat.mul_one, putL, and_self, ldn, bld_fl, stP_agg2f, putL, s3, p3.mk2']
  exact ext_fl (pre := []) (f := fun v => .tuple #[v, .int .i64 (f.stock + z)]) (hX3.put (by omega) _ _) (ho3.set_ne (by omega)) (by omega) rfl rfl hde.symm (by omega)
theorem specDayOf_rc (m : Mem) (v : Value) (f : Fl) (o a : Int) (h : FlA m v f) :
    RC Try.prog 25 [v, .int .i64 o, .int .i64 a] m (AnsO m (FlO (dayA f o a)) (fun v => .tuple #[v, .bool (dayOk f o a)])) := by
  refine rc_of_run mixed ok_spec_DayOf (by simp) (go_start _ _ _ ?_)
  obtain ⟨u, rfl, hu⟩ := h.ro
  obtain ⟨uA, un, uc, rfl⟩ := hu.sl
  simp (config := {implicitDefEqProofs := false, maxDischargeDepth := 20}) (disch := first | omega | (simp only [lenE]; done) | (simp only [lenE]; omega) | rfl | (simp only [lenE, markR_len]; done) | (simp only [lenE, markR_len]; omega)) only [runE, mapE, listE, initT_5, initT_6, initT_7, initT_8, resV, oneV, binA, unA, reduceCtorEq, Nat.reduceEqDiff, Nat.reduceAdd, Nat.reduceLT, Nat.reduceLeDiff, Nat.reduceMul, Nat.reduceSub, ↓reduceIte, decide_true, decide_false, Bool.true_eq_false, Bool.false_eq_true, Bool.not_true, Bool.not_false, if_true, if_false, and_true, true_and, memE, celE, w64, Nat.zero_add, Nat.add_zero, Nat.mul_one, putL, and_self, ldn, c_spec_DayOf, r_spec_DayOf]
  obtain ⟨E, hE⟩ : ∃ E, E = roM m ++ [⟨.own, FT, [.int .i64 f.stock, .slice uA un uc]⟩] ++ [⟨.own, FT, [.int .i64 0, .slice none 0 0]⟩] := ⟨_, rfl⟩
  try rw [← hE]
  have hX : Ext m E := by rw [hE]; exact ((Ext.refl m).one _ _).one _ _
  have LE : E.length = m.length + 2 := by rw [hE]; simp [roM_len]
  have b1 : OwnB E m.length FT [.int .i64 f.stock, .slice uA un uc] := by rw [hE]; exact (OwnB.here (roM_len m).symm).ext _
  have b2 : OwnB E (m.length + 1) FT [.int .i64 0, .slice none 0 0] := by rw [hE]; exact OwnB.here (by simp [roM_len])
  have huE : IntsA E (.slice uA un uc) f.under := by rw [hE]; exact (hu.ext _).ext _
  clear hE
  try simp (config := {implicitDefEqProofs := false, maxDischargeDepth := 20}) (disch := first | omega | (simp only [lenE]; done) | (simp only [lenE]; omega) | rfl | (simp only [lenE, markR_len]; done) | (simp only [lenE, markR_len]; omega)) only [runE, mapE, listE, initT_5, initT_6, initT_7, initT_8, resV, oneV, binA, unA, reduceCtorEq, Nat.reduceEqDiff, Nat.reduceAdd, Nat.reduceLT, Nat.reduceLeDiff, Nat.reduceMul, Nat.reduceSub, ↓reduceIte, decide_true, decide_false, Bool.true_eq_false, Bool.false_eq_true, Bool.not_true, Bool.not_false, if_true, if_false, and_true, true_and, memE, celE, w64, Nat.zero_add, Nat.add_zero, Nat.mul_one, putL, and_self, ldn, b1.mk2']
  have no : ∀ M : Mem, Ext m M → OwnB M (m.length + 1) FT [.int .i64 0, .slice none 0 0] → dayOk f o a = false →
      newQ m (AnsO m (FlO (dayA f o a)) (fun v => .tuple #[v, .bool (dayOk f o a)])) (.tuple #[.agg #[.int .i64 0, .slice none 0 0], .bool false]) M := fun M hM hb hd => by
    rw [hd]; exact ext_noFl (f := fun v => .tuple #[v, .bool false]) hM (dayA_no hd)
  have fin0 : ∀ M : Mem, OwnB M (m.length + 1) FT [.int .i64 0, .slice none 0 0] → stA M (m.length + 1) 0 [.int .i64 0, .slice none 0 0] = some (M.set (m.length + 1) ⟨.own, FT, [.int .i64 0, .slice none 0 0]⟩) := fun M hb => hb.st (by simp) rfl
  refine callH_rc (l11Flow_rc _ _ f ⟨_, rfl, huE⟩) ?_
  rintro r1 n1 ⟨rfl, hn1⟩
  have hX1 : Ext m (E ++ n1) := hX.app hn1
  have c1 := b1.ext n1
  have c2 := b2.ext n1
  have f0 := fin0 _ c2
  have hu1 := huE.ext n1
  have L1 : m.length + 2 ≤ (E ++ n1).length := by rw [List.length_append]; omega
  obtain ⟨M1, hM1⟩ : ∃ M1, M1 = E ++ n1 := ⟨_, rfl⟩
  rw [← hM1] at hX1 c1 c2 f0 hu1 L1 ⊢
  clear hM1
  have put0 : OwnB (M1.set (m.length + 1) ⟨.own, FT, [.int .i64 0, .slice none 0 0]⟩) (m.length + 1) FT [.int .i64 0, .slice none 0 0] := c2.set_self _ _
  have ext0 : Ext m (M1.set (m.length + 1) ⟨.own, FT, [.int .i64 0, .slice none 0 0]⟩) := hX1.put (by omega) _ _
  cases hg : f.good with
  | false =>
    simp (config := {implicitDefEqProofs := false, maxDischargeDepth := 20}) (disch := first | omega | (simp only [lenE]; done) | (simp only [lenE]; omega) | rfl | (simp only [lenE, markR_len]; done) | (simp only [lenE, markR_len]; omega)) only [runE, mapE, listE, initT_5, initT_6, initT_7, initT_8, resV, oneV, binA, unA, reduceCtorEq, Nat.reduceEqDiff, Nat.reduceAdd, Nat.reduceLT, Nat.reduceLeDiff, Nat.reduceMul, Nat.reduceSub, ↓reduceIte, decide_true, decide_false, Bool.true_eq_false, Bool.false_eq_true, Bool.not_true, Bool.not_false, if_true, if_false, and_true, true_and, memE, celE, w64, Nat.zero_add, Nat.add_zero, Nat.mul_one, putL, and_self, ldn, bld_fl0, stP_agg2f, f0, put0.mk2']
    exact no _ ext0 put0 (by simp [dayOk, hg])
  | true =>
    simp (config := {implicitDefEqProofs := false, maxDischargeDepth := 20}) (disch := first | omega | (simp only [lenE]; done) | (simp only [lenE]; omega) | rfl | (simp only [lenE, markR_len]; done) | (simp only [lenE, markR_len]; omega)) only [runE, mapE, listE, initT_5, initT_6, initT_7, initT_8, resV, oneV, binA, unA, reduceCtorEq, Nat.reduceEqDiff, Nat.reduceAdd, Nat.reduceLT, Nat.reduceLeDiff, Nat.reduceMul, Nat.reduceSub, ↓reduceIte, decide_true, decide_false, Bool.true_eq_false, Bool.false_eq_true, Bool.not_true, Bool.not_false, if_true, if_false, and_true, true_and, memE, celE, w64, Nat.zero_add, Nat.add_zero, Nat.mul_one, putL, and_self, ldn]
    refine callH_rc (inF_rc _ o 40) ?_
    rintro r1 n2 ⟨rfl, rfl⟩
    rw [List.append_nil]
    cases ho : inF 40 o with
    | false =>
      simp (config := {implicitDefEqProofs := false, maxDischargeDepth := 20}) (disch := first | omega | (simp only [lenE]; done) | (simp only [lenE]; omega) | rfl | (simp only [lenE, markR_len]; done) | (simp only [lenE, markR_len]; omega)) only [runE, mapE, listE, initT_5, initT_6, initT_7, initT_8, resV, oneV, binA, unA, reduceCtorEq, Nat.reduceEqDiff, Nat.reduceAdd, Nat.reduceLT, Nat.reduceLeDiff, Nat.reduceMul, Nat.reduceSub, ↓reduceIte, decide_true, decide_false, Bool.true_eq_false, Bool.false_eq_true, Bool.not_true, Bool.not_false, if_true, if_false, and_true, true_and, memE, celE, w64, Nat.zero_add, Nat.add_zero, Nat.mul_one, putL, and_self, ldn, bld_fl0, stP_agg2f, f0, put0.mk2']
      exact no _ ext0 put0 (by simp [dayOk, ho])
    | true =>
      simp (config := {implicitDefEqProofs := false, maxDischargeDepth := 20}) (disch := first | omega | (simp only [lenE]; done) | (simp only [lenE]; omega) | rfl | (simp only [lenE, markR_len]; done) | (simp only [lenE, markR_len]; omega)) only [runE, mapE, listE, initT_5, initT_6, initT_7, initT_8, resV, oneV, binA, unA, reduceCtorEq, Nat.reduceEqDiff, Nat.reduceAdd, Nat.reduceLT, Nat.reduceLeDiff, Nat.reduceMul, Nat.reduceSub, ↓reduceIte, decide_true, decide_false, Bool.true_eq_false, Bool.false_eq_true, Bool.not_true, Bool.not_false, if_true, if_false, and_true, true_and, memE, celE, w64, Nat.zero_add, Nat.add_zero, Nat.mul_one, putL, and_self, ldn]
      refine callH_rc (inF_rc _ a 20) ?_
      rintro r1 n2 ⟨rfl, rfl⟩
      rw [List.append_nil]
      cases ha : inF 20 a with
      | false =>
        simp (config := {implicitDefEqProofs := false, maxDischargeDepth := 20}) (disch := first | omega | (simp only [lenE]; done) | (simp only [lenE]; omega) | rfl | (simp only [lenE, markR_len]; done) | (simp only [lenE, markR_len]; omega)) only [runE, mapE, listE, initT_5, initT_6, initT_7, initT_8, resV, oneV, binA, unA, reduceCtorEq, Nat.reduceEqDiff, Nat.reduceAdd, Nat.reduceLT, Nat.reduceLeDiff, Nat.reduceMul, Nat.reduceSub, ↓reduceIte, decide_true, decide_false, Bool.true_eq_false, Bool.false_eq_true, Bool.not_true, Bool.not_false, if_true, if_false, and_true, true_and, memE, celE, w64, Nat.zero_add, Nat.add_zero, Nat.mul_one, putL, and_self, ldn, bld_fl0, stP_agg2f, f0, put0.mk2']
        exact no _ ext0 put0 (by simp [dayOk, ha])
      | true =>
        have hF := goodF_iff.1 hg
        have hO := inF_iff.1 ho
        have hA := inF_iff.1 ha
        have hl4 := hF.l4
        have hst := dayL_st hF hO hA
        have hun := under_bd hF hO 0
        have hfs := hF.st
        have hde : (dayL f o a).stock = f.stock + (f.under ++ [o]).getD 0 0 - a := rfl
        have hdu : (dayL f o a).under = (f.under ++ [o]).drop 1 := rfl
        have hlen : (f.under ++ [o]).length = f.under.length + 1 := by simp
        have hdl : (dayL f o a).under.length = f.under.length := dayL_len f o a
        have hok : dayOk f o a = (dayL f o a).good := by simp [dayOk, hg, ho, ha]
        simp (config := {implicitDefEqProofs := false, maxDischargeDepth := 20}) (disch := first | omega | (simp only [lenE]; done) | (simp only [lenE]; omega) | rfl | (simp only [lenE, markR_len]; done) | (simp only [lenE, markR_len]; omega)) only [runE, mapE, listE, initT_5, initT_6, initT_7, initT_8, resV, oneV, binA, unA, reduceCtorEq, Nat.reduceEqDiff, Nat.reduceAdd, Nat.reduceLT, Nat.reduceLeDiff, Nat.reduceMul, Nat.reduceSub, ↓reduceIte, decide_true, decide_false, Bool.true_eq_false, Bool.false_eq_true, Bool.not_true, Bool.not_false, if_true, if_false, and_true, true_and, memE, celE, w64, Nat.zero_add, Nat.add_zero, Nat.mul_one, putL, and_self, ldn, c1.mk2']
        refine callH_rc (l11Day_rc _ _ f o a ⟨_, rfl, hu1⟩ hF hO hA) ?_
        rintro r n3 ⟨hn3, w, rfl, hw⟩
        obtain ⟨uw, rfl, hl, hw2⟩ := hw.now
        have hsl : ∃ B k d, uw = .slice B k d := by
          rcases hw2 with ⟨rfl, _⟩ | ⟨id, pre, fl, rfl, _⟩ <;> exact ⟨_, _, _, rfl⟩
        obtain ⟨B, k, d, rfl⟩ := hsl
        obtain ⟨M3, hM3⟩ : ∃ M3, M3 = M1 ++ n3 := ⟨_, rfl⟩
        have hX3 : Ext m M3 := by rw [hM3]; exact hX1.app hn3
        have g2 : OwnB M3 (m.length + 1) FT [.int .i64 0, .slice none 0 0] := by rw [hM3]; exact c2.ext _
        have hO3 : IntsP (dayL f o a).under m.length M3.length M3 (.slice B k d) := by
          have e : M3.length = M1.length + n3.length := by rw [hM3, List.length_append]
          rw [e, hM3]
          exact IntsP.wide _ _ _ _ _ _ _ (by omega) (Nat.le_refl _) ⟨hl, hw2⟩
        rw [← hM3]
        clear hM3
        simp (config := {implicitDefEqProofs := false, maxDischargeDepth := 20}) (disch := first | omega | (simp only [lenE]; done) | (simp only [lenE]; omega) | rfl | (simp only [lenE, markR_len]; done) | (simp only [lenE, markR_len]; omega)) only [runE, mapE, listE, initT_5, initT_6, initT_7, initT_8, resV, oneV, binA, unA, reduceCtorEq, Nat.reduceEqDiff, Nat.reduceAdd, Nat.reduceLT, Nat.reduceLeDiff, Nat.reduceMul, Nat.reduceSub, ↓reduceIte, decide_true, decide_false, Bool.true_eq_false, Bool.false_eq_true, Bool.not_true, Bool.not_false, if_true, if_false, and_true, true_and, memE, celE, w64, Nat.zero_add, Nat.add_zero, Nat.mul_one, putL, and_self, ldn, ext_2_0, ext_2_1, stP_agg2f]
        obtain ⟨M4, hM4⟩ : ∃ M4, M4 = M3 ++ [⟨.own, FT, [.int .i64 (dayL f o a).stock, .slice B k d]⟩] := ⟨_, rfl⟩
        have hX4 : Ext m M4 := by rw [hM4]; exact hX3.one _ _
        have k2 : OwnB M4 (m.length + 1) FT [.int .i64 0, .slice none 0 0] := by rw [hM4]; exact g2.ext _
        have k3 : OwnB M4 M3.length FT [.int .i64 (dayL f o a).stock, .slice B k d] := by rw [hM4]; exact OwnB.here rfl
        have L4 : M4.length = M3.length + 1 := by rw [hM4]; simp
        have hO4 : IntsP (dayL f o a).under m.length M3.length M4 (.slice B k d) := hO3.at_ fun i _ h2 => by rw [hM4]; exact List.getElem?_append_left h2
        try rw [← hM4]
        clear hM4
        try simp (config := {implicitDefEqProofs := false, maxDischargeDepth := 20}) (disch := first | omega | (simp only [lenE]; done) | (simp only [lenE]; omega) | rfl | (simp only [lenE, markR_len]; done) | (simp only [lenE, markR_len]; omega)) only [runE, mapE, listE, initT_5, initT_6, initT_7, initT_8, resV, oneV, binA, unA, reduceCtorEq, Nat.reduceEqDiff, Nat.reduceAdd, Nat.reduceLT, Nat.reduceLeDiff, Nat.reduceMul, Nat.reduceSub, ↓reduceIte, decide_true, decide_false, Bool.true_eq_false, Bool.false_eq_true, Bool.not_true, Bool.not_false, if_true, if_false, and_true, true_and, memE, celE, w64, Nat.zero_add, Nat.add_zero, Nat.mul_one, putL, and_self, ldn, k3.mk2']
        refine callH_rc (l11Flow_rc _ _ (dayL f o a) ⟨_, rfl, hO4.in⟩) ?_
        rintro r1 n4 ⟨rfl, hn4⟩
        have hX5 : Ext m (M4 ++ n4) := hX4.app hn4
        have q2 := k2.ext n4
        have q3 := k3.ext n4
        have hO5 : IntsP (dayL f o a).under m.length M3.length (M4 ++ n4) (.slice B k d) := hO4.at_ fun i _ h2 => List.getElem?_append_left (by omega)
        have f5 := fin0 _ q2
        have s5 := q2.st (off := 0) (vs := [.int .i64 (dayL f o a).stock, .slice B k d]) (by simp) rfl
        have L5 : M3.length ≤ (M4 ++ n4).length := by rw [List.length_append]; omega
        obtain ⟨M5, hM5⟩ : ∃ M5, M5 = M4 ++ n4 := ⟨_, rfl⟩
        rw [← hM5] at hX5 q2 q3 hO5 f5 s5 L5 ⊢
        clear hM5
        have p5 : OwnB (M5.set (m.length + 1) ⟨.own, FT, [.int .i64 0, .slice none 0 0]⟩) (m.length + 1) FT [.int .i64 0, .slice none 0 0] := q2.set_self _ _
        have p6 : OwnB (M5.set (m.length + 1) ⟨.own, FT, [.int .i64 (dayL f o a).stock, .slice B k d]⟩) (m.length + 1) FT [.int .i64 (dayL f o a).stock, .slice B k d] := q2.set_self _ _
        cases hd : (dayL f o a).good with
        | false =>
          simp (config := {implicitDefEqProofs := false, maxDischargeDepth := 20}) (disch := first | omega | (simp only [lenE]; done) | (simp only [lenE]; omega) | rfl | (simp only [lenE, markR_len]; done) | (simp only [lenE, markR_len]; omega)) only [runE, mapE, listE, initT_5, initT_6, initT_7, initT_8, resV, oneV, binA, unA, reduceCtorEq, Nat.reduceEqDiff, Nat.reduceAdd, Nat.reduceLT, Nat.reduceLeDiff, Nat.reduceMul, Nat.reduceSub, ↓reduceIte, decide_true, decide_false, Bool.true_eq_false, Bool.false_eq_true, Bool.not_true, Bool.not_false, if_true, if_false, and_true, true_and, memE, celE, w64, Nat.zero_add, Nat.add_zero, Nat.mul_one, putL, and_self, ldn, bld_fl0, stP_agg2f, f5, p5.mk2']
          exact no _ (hX5.put (by omega) _ _) p5 (by rw [hok, hd])
        | true =>
          simp (config := {implicitDefEqProofs := false, maxDischargeDepth := 20}) (disch := first | omega | (simp only [lenE]; done) | (simp only [lenE]; omega) | rfl | (simp only [lenE, markR_len]; done) | (simp only [lenE, markR_len]; omega)) only [runE, mapE, listE, initT_5, initT_6, initT_7, initT_8, resV, oneV, binA, unA, reduceCtorEq, Nat.reduceEqDiff, Nat.reduceAdd, Nat.reduceLT, Nat.reduceLeDiff, Nat.reduceMul, Nat.reduceSub, ↓reduceIte, decide_true, decide_false, Bool.true_eq_false, Bool.false_eq_true, Bool.not_true, Bool.not_false, if_true, if_false, and_true, true_and, memE, celE, w64, Nat.zero_add, Nat.add_zero, Nat.mul_one, putL, and_self, ldn, q3.mk2', stP_agg2f, putL, s5, p6.mk2']
          rw [hok, hd, dayA_yes (by rw [hok, hd])]
          have hO6 : IntsP (dayL f o a).under m.length (M5.set (m.length + 1) ⟨.own, FT, [.int .i64 (dayL f o a).stock, .slice B k d]⟩).length (M5.set (m.length + 1) ⟨.own, FT, [.int .i64 (dayL f o a).stock, .slice B k d]⟩) (.slice B k d) := by
            obtain ⟨hl, h | ⟨id, pre, fl, e, i1, i2, ho⟩⟩ := hO5
            · exact ⟨hl, .inl h⟩
            · exact ⟨hl, .inr ⟨id, pre, fl, e, i1, by rw [List.length_set]; omega, ho.set_ne (fun e => by
                rw [← e] at ho
                unfold OwnR at ho; unfold OwnB at q2
                rw [ho] at q2
                have := congrArg (fun b => b.map Blk.el) q2
                simp only [Option.map_some, rowB, Option.some.injEq] at this
                exact absurd this (by decide))⟩⟩
          exact ext_ansO (f := fun v => .tuple #[v, .bool true]) (hX5.put (by omega) _ _) fun M' hM => ⟨_, rfl, hO6.at_ hM⟩
theorem implDayOf_rc (m : Mem) (v : Value) (f : Fl) (o a : Int) (h : FlA m v f) :
    RC Try.prog 26 [v, .int .i64 o, .int .i64 a] m (AnsO m (FlO (dayA f o a)) (fun v => .tuple #[v, .bool (dayOk f o a)])) := by
  refine rc_of_run mixed ok_impl_DayOf (by simp) (go_start _ _ _ ?_)
  obtain ⟨u, rfl, hu⟩ := h.ro
  obtain ⟨uA, un, uc, rfl⟩ := hu.sl
  simp (config := {implicitDefEqProofs := false, maxDischargeDepth := 20}) (disch := first | omega | (simp only [lenE]; done) | (simp only [lenE]; omega) | rfl | (simp only [lenE, markR_len]; done) | (simp only [lenE, markR_len]; omega)) only [runE, mapE, listE, initT_5, initT_6, initT_7, initT_8, resV, oneV, binA, unA, reduceCtorEq, Nat.reduceEqDiff, Nat.reduceAdd, Nat.reduceLT, Nat.reduceLeDiff, Nat.reduceMul, Nat.reduceSub, ↓reduceIte, decide_true, decide_false, Bool.true_eq_false, Bool.false_eq_true, Bool.not_true, Bool.not_false, if_true, if_false, and_true, true_and, memE, celE, w64, Nat.zero_add, Nat.add_zero, Nat.mul_one, putL, and_self, ldn, c_impl_DayOf, r_impl_DayOf]
  obtain ⟨E, hE⟩ : ∃ E, E = roM m ++ [⟨.own, FT, [.int .i64 f.stock, .slice uA un uc]⟩] ++ [⟨.own, FT, [.int .i64 0, .slice none 0 0]⟩] := ⟨_, rfl⟩
  try rw [← hE]
  have hX : Ext m E := by rw [hE]; exact ((Ext.refl m).one _ _).one _ _
  have LE : E.length = m.length + 2 := by rw [hE]; simp [roM_len]
  have b1 : OwnB E m.length FT [.int .i64 f.stock, .slice uA un uc] := by rw [hE]; exact (OwnB.here (roM_len m).symm).ext _
  have b2 : OwnB E (m.length + 1) FT [.int .i64 0, .slice none 0 0] := by rw [hE]; exact OwnB.here (by simp [roM_len])
  have huE : IntsA E (.slice uA un uc) f.under := by rw [hE]; exact (hu.ext _).ext _
  clear hE
  try simp (config := {implicitDefEqProofs := false, maxDischargeDepth := 20}) (disch := first | omega | (simp only [lenE]; done) | (simp only [lenE]; omega) | rfl | (simp only [lenE, markR_len]; done) | (simp only [lenE, markR_len]; omega)) only [runE, mapE, listE, initT_5, initT_6, initT_7, initT_8, resV, oneV, binA, unA, reduceCtorEq, Nat.reduceEqDiff, Nat.reduceAdd, Nat.reduceLT, Nat.reduceLeDiff, Nat.reduceMul, Nat.reduceSub, ↓reduceIte, decide_true, decide_false, Bool.true_eq_false, Bool.false_eq_true, Bool.not_true, Bool.not_false, if_true, if_false, and_true, true_and, memE, celE, w64, Nat.zero_add, Nat.add_zero, Nat.mul_one, putL, and_self, ldn, b1.mk2']
  have no : ∀ M : Mem, Ext m M → OwnB M (m.length + 1) FT [.int .i64 0, .slice none 0 0] → dayOk f o a = false →
      newQ m (AnsO m (FlO (dayA f o a)) (fun v => .tuple #[v, .bool (dayOk f o a)])) (.tuple #[.agg #[.int .i64 0, .slice none 0 0], .bool false]) M := fun M hM hb hd => by
    rw [hd]; exact ext_noFl (f := fun v => .tuple #[v, .bool false]) hM (dayA_no hd)
  have fin0 : ∀ M : Mem, OwnB M (m.length + 1) FT [.int .i64 0, .slice none 0 0] → stA M (m.length + 1) 0 [.int .i64 0, .slice none 0 0] = some (M.set (m.length + 1) ⟨.own, FT, [.int .i64 0, .slice none 0 0]⟩) := fun M hb => hb.st (by simp) rfl
  refine callH_rc (IsFlow_rc _ _ f ⟨_, rfl, huE⟩) ?_
  rintro r1 n1 ⟨rfl, hn1⟩
  have hX1 : Ext m (E ++ n1) := hX.app hn1
  have c1 := b1.ext n1
  have c2 := b2.ext n1
  have f0 := fin0 _ c2
  have hu1 := huE.ext n1
  have L1 : m.length + 2 ≤ (E ++ n1).length := by rw [List.length_append]; omega
  obtain ⟨M1, hM1⟩ : ∃ M1, M1 = E ++ n1 := ⟨_, rfl⟩
  rw [← hM1] at hX1 c1 c2 f0 hu1 L1 ⊢
  clear hM1
  have put0 : OwnB (M1.set (m.length + 1) ⟨.own, FT, [.int .i64 0, .slice none 0 0]⟩) (m.length + 1) FT [.int .i64 0, .slice none 0 0] := c2.set_self _ _
  have ext0 : Ext m (M1.set (m.length + 1) ⟨.own, FT, [.int .i64 0, .slice none 0 0]⟩) := hX1.put (by omega) _ _
  cases hg : f.good with
  | false =>
    simp (config := {implicitDefEqProofs := false, maxDischargeDepth := 20}) (disch := first | omega | (simp only [lenE]; done) | (simp only [lenE]; omega) | rfl | (simp only [lenE, markR_len]; done) | (simp only [lenE, markR_len]; omega)) only [runE, mapE, listE, initT_5, initT_6, initT_7, initT_8, resV, oneV, binA, unA, reduceCtorEq, Nat.reduceEqDiff, Nat.reduceAdd, Nat.reduceLT, Nat.reduceLeDiff, Nat.reduceMul, Nat.reduceSub, ↓reduceIte, decide_true, decide_false, Bool.true_eq_false, Bool.false_eq_true, Bool.not_true, Bool.not_false, if_true, if_false, and_true, true_and, memE, celE, w64, Nat.zero_add, Nat.add_zero, Nat.mul_one, putL, and_self, ldn, bld_fl0, stP_agg2f, f0, put0.mk2']
    exact no _ ext0 put0 (by simp [dayOk, hg])
  | true =>
    simp (config := {implicitDefEqProofs := false, maxDischargeDepth := 20}) (disch := first | omega | (simp only [lenE]; done) | (simp only [lenE]; omega) | rfl | (simp only [lenE, markR_len]; done) | (simp only [lenE, markR_len]; omega)) only [runE, mapE, listE, initT_5, initT_6, initT_7, initT_8, resV, oneV, binA, unA, reduceCtorEq, Nat.reduceEqDiff, Nat.reduceAdd, Nat.reduceLT, Nat.reduceLeDiff, Nat.reduceMul, Nat.reduceSub, ↓reduceIte, decide_true, decide_false, Bool.true_eq_false, Bool.false_eq_true, Bool.not_true, Bool.not_false, if_true, if_false, and_true, true_and, memE, celE, w64, Nat.zero_add, Nat.add_zero, Nat.mul_one, putL, and_self, ldn]
    refine callH_rc (isFlowOrder_rc _ o) ?_
    rintro r1 n2 ⟨rfl, rfl⟩
    rw [List.append_nil]
    cases ho : inF 40 o with
    | false =>
      simp (config := {implicitDefEqProofs := false, maxDischargeDepth := 20}) (disch := first | omega | (simp only [lenE]; done) | (simp only [lenE]; omega) | rfl | (simp only [lenE, markR_len]; done) | (simp only [lenE, markR_len]; omega)) only [runE, mapE, listE, initT_5, initT_6, initT_7, initT_8, resV, oneV, binA, unA, reduceCtorEq, Nat.reduceEqDiff, Nat.reduceAdd, Nat.reduceLT, Nat.reduceLeDiff, Nat.reduceMul, Nat.reduceSub, ↓reduceIte, decide_true, decide_false, Bool.true_eq_false, Bool.false_eq_true, Bool.not_true, Bool.not_false, if_true, if_false, and_true, true_and, memE, celE, w64, Nat.zero_add, Nat.add_zero, Nat.mul_one, putL, and_self, ldn, bld_fl0, stP_agg2f, f0, put0.mk2']
      exact no _ ext0 put0 (by simp [dayOk, ho])
    | true =>
      simp (config := {implicitDefEqProofs := false, maxDischargeDepth := 20}) (disch := first | omega | (simp only [lenE]; done) | (simp only [lenE]; omega) | rfl | (simp only [lenE, markR_len]; done) | (simp only [lenE, markR_len]; omega)) only [runE, mapE, listE, initT_5, initT_6, initT_7, initT_8, resV, oneV, binA, unA, reduceCtorEq, Nat.reduceEqDiff, Nat.reduceAdd, Nat.reduceLT, Nat.reduceLeDiff, Nat.reduceMul, Nat.reduceSub, ↓reduceIte, decide_true, decide_false, Bool.true_eq_false, Bool.false_eq_true, Bool.not_true, Bool.not_false, if_true, if_false, and_true, true_and, memE, celE, w64, Nat.zero_add, Nat.add_zero, Nat.mul_one, putL, and_self, ldn]
      refine callH_rc (isAsked_rc _ a) ?_
      rintro r1 n2 ⟨rfl, rfl⟩
      rw [List.append_nil]
      cases ha : inF 20 a with
      | false =>
        simp (config := {implicitDefEqProofs := false, maxDischargeDepth := 20}) (disch := first | omega | (simp only [lenE]; done) | (simp only [lenE]; omega) | rfl | (simp only [lenE, markR_len]; done) | (simp only [lenE, markR_len]; omega)) only [runE, mapE, listE, initT_5, initT_6, initT_7, initT_8, resV, oneV, binA, unA, reduceCtorEq, Nat.reduceEqDiff, Nat.reduceAdd, Nat.reduceLT, Nat.reduceLeDiff, Nat.reduceMul, Nat.reduceSub, ↓reduceIte, decide_true, decide_false, Bool.true_eq_false, Bool.false_eq_true, Bool.not_true, Bool.not_false, if_true, if_false, and_true, true_and, memE, celE, w64, Nat.zero_add, Nat.add_zero, Nat.mul_one, putL, and_self, ldn, bld_fl0, stP_agg2f, f0, put0.mk2']
        exact no _ ext0 put0 (by simp [dayOk, ha])
      | true =>
        have hF := goodF_iff.1 hg
        have hO := inF_iff.1 ho
        have hA := inF_iff.1 ha
        have hl4 := hF.l4
        have hst := dayL_st hF hO hA
        have hun := under_bd hF hO 0
        have hfs := hF.st
        have hde : (dayL f o a).stock = f.stock + (f.under ++ [o]).getD 0 0 - a := rfl
        have hdu : (dayL f o a).under = (f.under ++ [o]).drop 1 := rfl
        have hlen : (f.under ++ [o]).length = f.under.length + 1 := by simp
        have hdl : (dayL f o a).under.length = f.under.length := dayL_len f o a
        have hok : dayOk f o a = (dayL f o a).good := by simp [dayOk, hg, ho, ha]
        simp (config := {implicitDefEqProofs := false, maxDischargeDepth := 20}) (disch := first | omega | (simp only [lenE]; done) | (simp only [lenE]; omega) | rfl | (simp only [lenE, markR_len]; done) | (simp only [lenE, markR_len]; omega)) only [runE, mapE, listE, initT_5, initT_6, initT_7, initT_8, resV, oneV, binA, unA, reduceCtorEq, Nat.reduceEqDiff, Nat.reduceAdd, Nat.reduceLT, Nat.reduceLeDiff, Nat.reduceMul, Nat.reduceSub, ↓reduceIte, decide_true, decide_false, Bool.true_eq_false, Bool.false_eq_true, Bool.not_true, Bool.not_false, if_true, if_false, and_true, true_and, memE, celE, w64, Nat.zero_add, Nat.add_zero, Nat.mul_one, putL, and_self, ldn, c1.mk2', bsl_one]
        obtain ⟨M2, hM2⟩ : ∃ M2, M2 = M1 ++ [⟨.own, 3, [.int .i64 o]⟩] := ⟨_, rfl⟩
        have hX2 : Ext m M2 := by rw [hM2]; exact hX1.one _ _
        have d1 : OwnB M2 m.length FT [.int .i64 f.stock, .slice uA un uc] := by rw [hM2]; exact c1.ext _
        have d2 : OwnB M2 (m.length + 1) FT [.int .i64 0, .slice none 0 0] := by rw [hM2]; exact c2.ext _
        have hu2 : IntsA M2 (.slice uA un uc) f.under := by rw [hM2]; exact hu1.ext _
        have hw2 : IntsA M2 (.slice (some ⟨M1.length, 0, none⟩) 1 1) [o] := by rw [hM2]; exact (OwnR.at_end M1 [o]).ints (by simp) 1
        have L2 : m.length + 2 ≤ M2.length := by rw [hM2, List.length_append]; omega
        try rw [← hM2]
        clear hM2
        try simp (config := {implicitDefEqProofs := false, maxDischargeDepth := 20}) (disch := first | omega | (simp only [lenE]; done) | (simp only [lenE]; omega) | rfl | (simp only [lenE, markR_len]; done) | (simp only [lenE, markR_len]; omega)) only [runE, mapE, listE, initT_5, initT_6, initT_7, initT_8, resV, oneV, binA, unA, reduceCtorEq, Nat.reduceEqDiff, Nat.reduceAdd, Nat.reduceLT, Nat.reduceLeDiff, Nat.reduceMul, Nat.reduceSub, ↓reduceIte, decide_true, decide_false, Bool.true_eq_false, Bool.false_eq_true, Bool.not_true, Bool.not_false, if_true, if_false, and_true, true_and, memE, celE, w64, Nat.zero_add, Nat.add_zero, Nat.mul_one, putL, and_self, ldn, bsl_two]
        have hT : TabA (M2 ++ [⟨.own, 22, [.slice uA un uc, .slice (some ⟨M1.length, 0, none⟩) 1 1]⟩]) (.slice (some ⟨M2.length, 0, none⟩) 2 1) [f.under, [o]] := by
          refine TabA.blk (T := [f.under, [o]]) (by simp) fun k hk => ?_
          match k, hk with
          | 0, _ => exact ⟨_, by rw [rdc_box rfl]; rfl, hu2.ext _⟩
          | 1, _ => exact ⟨_, by rw [rdc_box rfl]; rfl, hw2.ext _⟩
        refine callH_rc (concat_rc _ _ _ hT (by simp [tsz] <;> omega) (by simp [tsz] <;> omega)) ?_
        intro r n3 hA3
        obtain ⟨id, rfl, hid, hown, hle, hn3⟩ := hA3.row
        have e1 : [f.under, [o]].flatten = f.under ++ [o] := by simp
        rw [e1] at hown
        have e2 : [f.under, [o]].flatten.length = f.under.length + 1 := by simp
        try simp only [e2]
        rw [List.length_append] at hid
        obtain ⟨M3, hM3⟩ : ∃ M3, M3 = M2 ++ [⟨.own, 22, [.slice uA un uc, .slice (some ⟨M1.length, 0, none⟩) 1 1]⟩] ++ n3 := ⟨_, rfl⟩
        rw [← hM3] at hown ⊢
        have hX3 : Ext m M3 := by rw [hM3]; exact (hX2.one _ _).app hn3
        have g1 : OwnB M3 m.length FT [.int .i64 f.stock, .slice uA un uc] := by rw [hM3]; exact (d1.ext _).ext _
        have g2 : OwnB M3 (m.length + 1) FT [.int .i64 0, .slice none 0 0] := by rw [hM3]; exact (d2.ext _).ext _
        clear hM3
        have hr0 := hown.rd' (i := 0) (by rw [hlen]; omega)
        have hsum : 0 ≤ (f.under ++ [o]).getD 0 0 := hun.1
        obtain ⟨z, hz⟩ : ∃ z, z = (f.under ++ [o]).getD 0 0 := ⟨_, rfl⟩
        rw [← hz] at hr0 hun hde
        simp (config := {implicitDefEqProofs := false, maxDischargeDepth := 20}) (disch := first | omega | (simp only [lenE]; done) | (simp only [lenE]; omega) | rfl | (simp only [lenE, markR_len]; done) | (simp only [lenE, markR_len]; omega)) only [runE, mapE, listE, initT_5, initT_6, initT_7, initT_8, resV, oneV, binA, unA, reduceCtorEq, Nat.reduceEqDiff, Nat.reduceAdd, Nat.reduceLT, Nat.reduceLeDiff, Nat.reduceMul, Nat.reduceSub, ↓reduceIte, decide_true, decide_false, Bool.true_eq_false, Bool.false_eq_true, Bool.not_true, Bool.not_false, if_true, if_false, and_true, true_and, memE, celE, w64, Nat.zero_add, Nat.add_zero, Nat.mul_one, putL, and_self, ldn, g1.mk2', iad0 (n := f.under.length + 1) (z := 0) (j := 0) rfl (by omega), hr0, slc1 (n := f.under.length + 1) (by omega), Nat.add_sub_cancel, Option.map_none, bld_fl]
        have hlid := hown.lt
        have hrw : OwnR M3 id ([z] ++ (dayL f o a).under) := by rw [hdu, hz, ← under_cut]; exact hown
        obtain ⟨M4, hM4⟩ : ∃ M4, M4 = M3 ++ [⟨.own, FT, [.int .i64 (f.stock + z - a), .slice (some ⟨id, 1, none⟩) f.under.length 0]⟩] := ⟨_, rfl⟩
        have hX4 : Ext m M4 := by rw [hM4]; exact hX3.one _ _
        have k2 : OwnB M4 (m.length + 1) FT [.int .i64 0, .slice none 0 0] := by rw [hM4]; exact g2.ext _
        have k3 : OwnB M4 M3.length FT [.int .i64 (f.stock + z - a), .slice (some ⟨id, 1, none⟩) f.under.length 0] := by rw [hM4]; exact OwnB.here rfl
        have hrw4 : OwnR M4 id ([z] ++ (dayL f o a).under) := by rw [hM4]; exact hrw.ext _
        have L4 : M4.length = M3.length + 1 := by rw [hM4]; simp
        try rw [← hM4]
        clear hM4
        try simp (config := {implicitDefEqProofs := false, maxDischargeDepth := 20}) (disch := first | omega | (simp only [lenE]; done) | (simp only [lenE]; omega) | rfl | (simp only [lenE, markR_len]; done) | (simp only [lenE, markR_len]; omega)) only [runE, mapE, listE, initT_5, initT_6, initT_7, initT_8, resV, oneV, binA, unA, reduceCtorEq, Nat.reduceEqDiff, Nat.reduceAdd, Nat.reduceLT, Nat.reduceLeDiff, Nat.reduceMul, Nat.reduceSub, ↓reduceIte, decide_true, decide_false, Bool.true_eq_false, Bool.false_eq_true, Bool.not_true, Bool.not_false, if_true, if_false, and_true, true_and, memE, celE, w64, Nat.zero_add, Nat.add_zero, Nat.mul_one, putL, and_self, ldn, k3.mk2']
        have hFl : FlA M4 (.agg #[.int .i64 (f.stock + z - a), .slice (some ⟨id, 1, none⟩) f.under.length 0]) (dayL f o a) := ⟨.slice (some ⟨id, 1, none⟩) f.under.length 0, by rw [flV, hde], by
          have := OwnR.intsP (pre := [z]) hrw4 (by omega) 0
          rw [hdl] at this; exact this⟩
        refine callH_rc (IsFlow_rc _ _ _ hFl) ?_
        rintro r1 n4 ⟨rfl, hn4⟩
        have hX5 : Ext m (M4 ++ n4) := hX4.app hn4
        have q2 := k2.ext n4
        have q3 := k3.ext n4
        have hrw5 := hrw4.ext n4
        have f5 := fin0 _ q2
        have s5 := q2.st (off := 0) (vs := [.int .i64 (f.stock + z - a), .slice (some ⟨id, 1, none⟩) f.under.length 0]) (by simp) rfl
        obtain ⟨M5, hM5⟩ : ∃ M5, M5 = M4 ++ n4 := ⟨_, rfl⟩
        rw [← hM5] at hX5 q2 q3 hrw5 f5 s5 ⊢
        clear hM5
        have p5 : OwnB (M5.set (m.length + 1) ⟨.own, FT, [.int .i64 0, .slice none 0 0]⟩) (m.length + 1) FT [.int .i64 0, .slice none 0 0] := q2.set_self _ _
        have p6 : OwnB (M5.set (m.length + 1) ⟨.own, FT, [.int .i64 (f.stock + z - a), .slice (some ⟨id, 1, none⟩) f.under.length 0]⟩) (m.length + 1) FT [.int .i64 (f.stock + z - a), .slice (some ⟨id, 1, none⟩) f.under.length 0] := q2.set_self _ _
        cases hd : (dayL f o a).good with
        | false =>
          simp (config := {implicitDefEqProofs := false, maxDischargeDepth := 20}) (disch := first | omega | (simp only [lenE]; done) | (simp only [lenE]; omega) | rfl | (simp only [lenE, markR_len]; done) | (simp only [lenE, markR_len]; omega)) only [runE, mapE, listE, initT_5, initT_6, initT_7, initT_8, resV, oneV, binA, unA, reduceCtorEq, Nat.reduceEqDiff, Nat.reduceAdd, Nat.reduceLT, Nat.reduceLeDiff, Nat.reduceMul, Nat.reduceSub, ↓reduceIte, decide_true, decide_false, Bool.true_eq_false, Bool.false_eq_true, Bool.not_true, Bool.not_false, if_true, if_false, and_true, true_and, memE, celE, w64, Nat.zero_add, Nat.add_zero, Nat.mul_one, putL, and_self, ldn, bld_fl0, stP_agg2f, f5, p5.mk2']
          exact no _ (hX5.put (by omega) _ _) p5 (by rw [hok, hd])
        | true =>
          simp (config := {implicitDefEqProofs := false, maxDischargeDepth := 20}) (disch := first | omega | (simp only [lenE]; done) | (simp only [lenE]; omega) | rfl | (simp only [lenE, markR_len]; done) | (simp only [lenE, markR_len]; omega)) only [runE, mapE, listE, initT_5, initT_6, initT_7, initT_8, resV, oneV, binA, unA, reduceCtorEq, Nat.reduceEqDiff, Nat.reduceAdd, Nat.reduceLT, Nat.reduceLeDiff, Nat.reduceMul, Nat.reduceSub, ↓reduceIte, decide_true, decide_false, Bool.true_eq_false, Bool.false_eq_true, Bool.not_true, Bool.not_false, if_true, if_false, and_true, true_and, memE, celE, w64, Nat.zero_add, Nat.add_zero, Nat.mul_one, putL, and_self, ldn, q3.mk2', stP_agg2f, putL, s5, p6.mk2']
          rw [hok, hd, dayA_yes (by rw [hok, hd])]
          exact ext_fl (f := fun v => .tuple #[v, .bool true]) (hX5.put (by omega) _ _) (hrw5.set_ne (by omega)) (by omega) rfl hdl.symm hde.symm (by omega)
end Go.Proofs.Ytnkbjliidenldaa.Ab
