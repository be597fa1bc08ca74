/- Courses of days: what there is at first and behind each day. -/
import Derived.Test.YtnkbjliidenldaaAbFl3
import Derived.Test.YtnkbjliidenldaaAbClone
namespace Go.Proofs.Ytnkbjliidenldaa.Ab
open Go Go.RowKit
set_option linter.unusedVariables false
set_option linter.unusedSimpArgs false

abbrev DT : TypeId := 98
/-- A day, and where its orders under way lie. -/
abbrev Xd := Int × Fl × Value
def xC (x : Xd) : List Value := [.int .i64 x.1, .int .i64 x.2.1.stock, x.2.2]
def xV (x : Xd) : Value := .agg #[.int .i64 x.1, .int .i64 x.2.1.stock, x.2.2]
def xsC (X : List Xd) : List Value := (X.map xC).flatten
def xP (x : Xd) : Int × Fl := (x.1, x.2.1)
def X0 : Xd := (0, Fl0, .slice none 0 0)
theorem xsC_len (X : List Xd) : (xsC X).length = X.length * 3 := by
  induction X with
  | nil => rfl
  | cons p L ih => simp only [xsC, List.map_cons, List.flatten_cons, List.length_append, List.length_cons] at ih ⊢; rw [ih]; simp [xC]; omega
theorem xsC_app (X Y : List Xd) : xsC (X ++ Y) = xsC X ++ xsC Y := by simp [xsC]
theorem xsC_at : ∀ (X : List Xd) (k i : Nat), k < X.length → i < 3 → (xsC X)[k * 3 + i]? = (xC (X.getD k X0))[i]?
  | p :: X, 0, i, _, hi => by
    simp only [xsC, List.map_cons, List.flatten_cons, Nat.zero_mul, Nat.zero_add, List.getD_cons_zero]
    rw [List.getElem?_append_left (by simp [xC]; omega)]
  | p :: X, k + 1, i, h, hi => by
    have ih := xsC_at X k i (by simpa using h) hi
    simp only [xsC, List.map_cons, List.flatten_cons, List.getD_cons_succ] at ih ⊢
    rw [List.getElem?_append_right (by simp [xC]; omega), ← ih]
    congr 1
    simp [xC]; omega
  | [], k, i, h, _ => absurd h (by simp)
theorem own_day {M : Mem} {id : Nat} {X : List Xd} (h : OwnB M id DT (xsC X)) {k : Nat} (hk : k < X.length) :
    ldA M (some 3) (.pointer (some ⟨id, k * 3, none⟩)) = some (xV (X.getD k X0)) ∧ ldA M (some 2) (.pointer (some ⟨id, k * 3 + 1, none⟩)) = some (flV (X.getD k X0).2.1 (X.getD k X0).2.2) := by
  have r0 := xsC_at X k 0 hk (by decide)
  have r1 := xsC_at X k 1 hk (by decide)
  have r2 := xsC_at X k 2 hk (by decide)
  rw [← h.rd] at r0 r1 r2
  simp only [xC, List.getElem?_cons_zero, List.getElem?_cons_succ, Nat.add_zero] at r0 r1 r2
  refine ⟨?_, ?_⟩
  · simp only [ldA, Ab.rdn, r0, r1, r2, xV]
  · simp only [ldA, Ab.rdn, r1, r2, flV]
/-- Some elements at the end of a list of days, to be read. -/
theorem own_el {M : Mem} {id : Nat} {X : List Xd} (h : OwnB M id DT (xsC X)) (hb : X.length ≤ 1000000) (j : Nat) (hj : j ≤ X.length) : ElA M 3 (some 3) (.slice (some ⟨id, j * 3, none⟩) (X.length - j) 0) ((X.drop j).map xV) := by
  refine ⟨by simp [lenA], by simp; omega, fun k hk => ?_⟩
  rw [List.length_map, List.length_drop] at hk
  have hd := (own_day h (k := j + k) (by omega)).1
  refine ⟨.pointer (some ⟨id, (j + k) * 3, none⟩), ?_, ?_⟩
  · rw [iadA_in (by omega), Nat.add_mul]
  · rw [hd]
    simp only [List.getD_eq_getElem?_getD, List.getElem?_map, List.getElem?_drop]
    rw [List.getElem?_eq_getElem (show j + k < X.length by omega)]
    rfl
theorem IntsP.ext {l : List Int} {lo hi : Nat} {M : Mem} {v : Value} (h : IntsP l lo hi M v) (hh : hi ≤ M.length) (new : Mem) : IntsP l lo hi (M ++ new) v :=
  h.at_ fun i _ h2 => List.getElem?_append_left (by omega)
/-- A row of numbers is not touched where a block of another kind is written. -/
theorem IntsP.other {l : List Int} {lo hi : Nat} {M : Mem} {v : Value} (h : IntsP l lo hi M v) {id : Nat} {e : TypeId} {cs : List Value} (ho : OwnB M id e cs) (he : e ≠ 3) (b : Blk) : IntsP l lo hi (M.set id b) v := by
  obtain ⟨hl, h | ⟨i, pre, fl, e1, i1, i2, hr⟩⟩ := h
  · exact ⟨hl, .inl h⟩
  · refine ⟨hl, .inr ⟨i, pre, fl, e1, i1, i2, hr.set_ne fun e => ?_⟩⟩
    subst e
    unfold OwnR at hr; unfold OwnB at ho
    rw [hr] at ho
    have := congrArg (fun b => b.map Blk.el) ho
    simp only [Option.map_some, rowB, Option.some.injEq] at this
    exact he this.symm
/-- One day more. -/
def stepO (ord : Fl → Nat → Option Int) (asked : List Int) (f : Fl) (k : Nat) : Option (Int × Fl) := match ord f k with
  | none => none
  | some o => if dayOk f o (asked.getD k 0) then some (o, dayL f o (asked.getD k 0)) else none
theorem crs_O {ord : Fl → Nat → Option Int} {asked : List Int} {f : Fl} {k : Nat} {C : List (Int × Fl)} (h : crs ord asked f k = some C) :
    crs ord asked f (k + 1) = (stepO ord asked (C.getD k DayF).2 k).map fun d => C ++ [d] := by
  simp only [crs, h, stepO]
  cases ho : ord (C.getD k DayF).2 k with
  | none => rfl
  | some o =>
    simp only []
    split <;> rfl
/-- The day that a step answers, or some day if it fails. -/
def AnsDay (M : Mem) (r : Option (Int × Fl)) (v : Value) (new : Mem) : Prop :=
  NoRo new ∧ ∃ x : Xd, v = .tuple #[xV x, .bool r.isSome] ∧ IntsP x.2.1.under M.length (M.length + new.length) (M ++ new) x.2.2 ∧ ∀ d, r = some d → d = xP x
/-- A step that was handed over. -/
def StepA (m : Mem) (fv : Value) (n : Nat) (st : Fl → Nat → Option (Int × Fl)) : Prop :=
  ∃ g cap, fv = .func (.func g) #[] cap ∧ ∀ M, Keeps m M → ∀ (x : Xd) (k : Nat), x.2.1.good = true → k < n → IntsA M x.2.2 x.2.1.under → RC Try.prog g ([xV x, .int .i64 k] ++ cap.toList) M (AnsDay M (st x.2.1 k))
/-- A course behind a first day. -/
def AnsCrs (m : Mem) (x0 : Xd) (r : Option (List (Int × Fl))) (v : Value) (new : Mem) : Prop :=
  NoRo new ∧ ∃ (id n fl : Nat), v = .tuple #[.slice (some ⟨id, 0, none⟩) n fl, .bool r.isSome] ∧ ∀ C, r = some C → ∃ R : List Xd, (x0 :: R).map xP = C ∧ n = R.length + 1 ∧ m.length ≤ id ∧ OwnB (m ++ new) id DT (xsC (x0 :: R)) ∧ ∀ x ∈ R, IntsP x.2.1.under m.length (m.length + new.length) (m ++ new) x.2.2
theorem IntsP.back {l : List Int} {m n0 : Mem} {hi : Nat} {v : Value} (h : IntsP l m.length hi (roM m ++ n0) v) : IntsP l m.length hi (m ++ n0) v :=
  h.at_ fun i h1 h2 => by rw [List.getElem?_append_right h1, List.getElem?_append_right (by rw [roM_len]; exact h1), roM_len]
theorem OwnB.back {m n0 : Mem} {id : Nat} {e : TypeId} {cs : List Value} (h : OwnB (roM m ++ n0) id e cs) (hid : m.length ≤ id) : OwnB (m ++ n0) id e cs :=
  h.at_ (by rw [List.getElem?_append_right hid, List.getElem?_append_right (by rw [roM_len]; exact hid), roM_len])
theorem ext_crs {m M : Mem} {x0 : Xd} {r : Option (List (Int × Fl))} {id n fl : Nat} {b : Bool} (h : Ext m M) (hb : b = r.isSome) (hr : ∀ C, r = some C → ∃ R : List Xd, (x0 :: R).map xP = C ∧ n = R.length + 1 ∧ m.length ≤ id ∧ OwnB M id DT (xsC (x0 :: R)) ∧ ∀ x ∈ R, IntsP x.2.1.under m.length M.length M x.2.2) :
    newQ m (AnsCrs m x0 r) (.tuple #[.slice (some ⟨id, 0, none⟩) n fl, .bool b]) M := by
  subst hb
  obtain ⟨n0, rfl, h0⟩ := h
  refine ⟨n0, rfl, h0, h0, id, n, fl, rfl, fun C hC => ?_⟩
  obtain ⟨X, h1, h2, h3, h4, h5⟩ := hr C hC
  refine ⟨X, h1, h2, h3, h4.back h3, fun x hx => ?_⟩
  have := h5 x hx
  rw [List.length_append, roM_len] at this
  exact this.back
theorem bsl_day {m : Mem} {o s : Int} {A : Option Addr} {n c : Nat} : bslA m DT 3 1 [.int .i64 0, .int .i64 0, .slice none 0 0] [(0, 3, .agg #[.int .i64 o, .int .i64 s, .slice A n c])] = some (.slice (some ⟨m.length, 0, none⟩) 1 3, m ++ [⟨.own, DT, [.int .i64 o, .int .i64 s, .slice A n c]⟩]) := rfl
theorem OwnB.dead' {M : Mem} {id id' : Nat} {e : TypeId} {cs : List Value} (h : OwnB M id' e cs) (hne : id ≠ id') : OwnB (M.set id deadB) id' e cs := h.set_ne hne _
theorem xs_good {ord : Fl → Nat → Option Int} {asked : List Int} {f : Fl} {k : Nat} {C : List (Int × Fl)} {X : List Xd} (hf : f.good = true) (h : crs ord asked f k = some C) (hX : X.map xP = C) : ∀ j, j ≤ k → (X.getD j X0).2.1.good = true ∧ (X.getD j X0).2.1 = (C.getD j DayF).2 := fun j hj => by
  have hl := crs_len k h
  have hXl : X.length = k + 1 := by rw [← hl, ← hX, List.length_map]
  have e : (X.getD j X0).2.1 = (C.getD j DayF).2 := by
    rw [← hX]
    simp only [List.getD_eq_getElem?_getD, List.getElem?_map]
    rw [List.getElem?_eq_getElem (show j < X.length by omega)]
    rfl
  exact ⟨by rw [e]; exact crs_good hf h j hj, e⟩
theorem courseD_rc (m : Mem) (fv : Value) (f : Fl) (A0 : Option Addr) (n0 c0 n : Nat) (ord : Fl → Nat → Option Int) (asked : List Int) (hf : f.good = true) (hu : IntsA m (.slice A0 n0 c0) f.under) (hs : StepA m fv n (stepO ord asked)) (hn : n ≤ 20) :
    RC Try.prog 126 [.agg #[.int .i64 0, .int .i64 f.stock, .slice A0 n0 c0], .int .i64 n, fv] m (AnsCrs m (0, f, .slice A0 n0 c0) (crs ord asked f n)) := by
  refine rc_of_run mixed ok_impl_courseOf_flowDay (by simp) (go_start _ _ _ ?_)
  obtain ⟨g, cap, rfl, hg⟩ := hs
  simp (config := {implicitDefEqProofs := false, maxDischargeDepth := 20}) (disch := first | omega | (simp only [lenE]; done) | (simp only [lenE]; omega) | rfl | (simp only [lenE, markR_len]; done) | (simp only [lenE, markR_len]; omega)) only [runE, mapE, listE, initT_5, initT_6, initT_7, initT_8, resV, oneV, binA, unA, reduceCtorEq, Nat.reduceEqDiff, Nat.reduceAdd, Nat.reduceLT, Nat.reduceLeDiff, Nat.reduceMul, Nat.reduceSub, ↓reduceIte, decide_true, decide_false, Bool.true_eq_false, Bool.false_eq_true, Bool.not_true, Bool.not_false, if_true, if_false, and_true, true_and, memE, celE, w64, Nat.zero_add, Nat.add_zero, Nat.mul_one, putL, and_self, ldn, c_impl_courseOf_flowDay, r_impl_courseOf_flowDay, bsl_day]
  refine loop_inv mixed (fun st => ∃ (k : Nat) (M : Mem) (id : Nat) (R : List Xd) (C : List (Int × Fl)), k ≤ n ∧ st.m = M ∧ Ext m M ∧ m.length ≤ id ∧ OwnB M id DT (xsC ((0, f, .slice A0 n0 c0) :: R)) ∧ crs ord asked f k = some C ∧ ((0, f, .slice A0 n0 c0) :: R).map xP = C ∧ R.length = k ∧
      (∀ x ∈ R, IntsP x.2.1.under m.length M.length M x.2.2) ∧ st.t 2 = .func (.func g) #[] cap ∧ st.t 8 = .slice (some ⟨id, 0, none⟩) (k + 1) 3 ∧ st.t 14 = .int .i64 n ∧ st.t 15 = .int .i64 k) (fun st => n - (zOf (st.t 15)).toNat)
    ⟨0, _, m.length + 1, [], _, by omega, rfl, ((Ext.refl m).one _ _).one _ _, by omega, OwnB.here (by simp [roM_len]), rfl, rfl, rfl, fun x hx => absurd hx (by simp), rfl, rfl, rfl, rfl⟩ ?_
  rintro st ⟨k, M, id, R, C, hk, tm, hx, hid, ho, hC, hXC, hR, hP, t2, t8, t14, t15⟩
  obtain ⟨X, hX⟩ : ∃ X : List Xd, X = (0, f, .slice A0 n0 c0) :: R := ⟨_, rfl⟩
  have hXl : X.length = k + 1 := by rw [hX, List.length_cons, hR]
  rw [← hX] at ho hXC
  by_cases hlt : k < n
  · have hlt' : (k : Int) < n := by omega
    obtain ⟨xg, xe⟩ := xs_good hf hC hXC k (Nat.le_refl _)
    have hd := own_day ho (k := k) (by omega)
    have hxi : IntsA M (X.getD k X0).2.2 (X.getD k X0).2.1.under := by
      rw [hX]
      cases k with
      | zero => exact hx.keeps.ints hu
      | succ k =>
        rw [List.getD_cons_succ]
        have hm : R.getD k X0 ∈ R := by rw [List.getD_eq_getElem?_getD, List.getElem?_eq_getElem (by omega)]; exact List.getElem_mem _
        exact (hP _ hm).in
    simp (config := {implicitDefEqProofs := false, maxDischargeDepth := 20}) (disch := first | omega | (simp only [lenE]; done) | (simp only [lenE]; omega) | rfl | (simp only [lenE, markR_len]; done) | (simp only [lenE, markR_len]; omega)) only [runE, mapE, listE, initT_5, initT_6, initT_7, initT_8, resV, oneV, binA, unA, reduceCtorEq, Nat.reduceEqDiff, Nat.reduceAdd, Nat.reduceLT, Nat.reduceLeDiff, Nat.reduceMul, Nat.reduceSub, ↓reduceIte, decide_true, decide_false, Bool.true_eq_false, Bool.false_eq_true, Bool.not_true, Bool.not_false, if_true, if_false, and_true, true_and, memE, celE, w64, Nat.zero_add, Nat.add_zero, Nat.mul_one, putL, and_self, ldn, tm, t2, t8, t14, t15, hlt', iadA_in (show k < k + 1 by omega), Nat.zero_add, hd.1]
    refine callH_rc (hg M hx.keeps _ k xg hlt hxi) ?_
    rintro r new ⟨hnr, ⟨oy, fy, uy⟩, rfl, hy, hry⟩
    simp only [] at hy
    obtain ⟨A, ny, cy, rfl⟩ := hy.in.sl
    obtain ⟨M1, hM1⟩ : ∃ M1, M1 = M ++ new := ⟨_, rfl⟩
    have hx1 : Ext m M1 := by rw [hM1]; exact hx.app hnr
    have ho1 : OwnB M1 id DT (xsC X) := by rw [hM1]; exact ho.ext _
    have L1 : M1.length = M.length + new.length := by rw [hM1, List.length_append]
    have hP1 : ∀ x ∈ R, IntsP x.2.1.under m.length M1.length M1 x.2.2 := fun x hxR => by
      have := (hP x hxR).ext (Nat.le_refl _) new
      rw [← hM1] at this
      exact IntsP.wide _ _ _ _ _ _ _ (Nat.le_refl _) (by omega) this
    have hy1 : IntsP fy.under m.length M1.length M1 (.slice A ny cy) := by
      rw [← hM1, ← L1] at hy
      exact IntsP.wide _ _ _ _ _ _ _ hx.len (Nat.le_refl _) hy
    rw [← hM1]
    clear hM1 hy
    have hcrs := crs_O hC
    rw [← xe] at hcrs
    cases hst : stepO ord asked (X.getD k X0).2.1 k with
    | none =>
      rw [hst] at hcrs
      simp only [xV, Option.isSome_none]
      simp (config := {implicitDefEqProofs := false, maxDischargeDepth := 20}) (disch := first | omega | (simp only [lenE]; done) | (simp only [lenE]; omega) | rfl | (simp only [lenE, markR_len]; done) | (simp only [lenE, markR_len]; omega)) only [runE, mapE, listE, initT_5, initT_6, initT_7, initT_8, resV, oneV, binA, unA, reduceCtorEq, Nat.reduceEqDiff, Nat.reduceAdd, Nat.reduceLT, Nat.reduceLeDiff, Nat.reduceMul, Nat.reduceSub, ↓reduceIte, decide_true, decide_false, Bool.true_eq_false, Bool.false_eq_true, Bool.not_true, Bool.not_false, if_true, if_false, and_true, true_and, memE, celE, w64, Nat.zero_add, Nat.add_zero, Nat.mul_one, putL, and_self, ldn, tm, t2, t8, t14, t15, ext_2_0, ext_2_1, stP_agg3p, onesB_sl, bsl_no]
      have e : crs ord asked f n = none := crs_none hcrs (by omega)
      rw [e]
      exact ext_crs ((hx1.one _ _).one _ _) rfl fun C hC => by cases hC
    | some d =>
      rw [hst] at hcrs
      have hd := hry d hst
      subst hd
      simp only [xV, Option.isSome_some]
      obtain ⟨M2, hM2⟩ : ∃ M2, M2 = M1 ++ [⟨.own, DT, [.int .i64 oy, .int .i64 fy.stock, .slice A ny cy]⟩] := ⟨_, rfl⟩
      have hx2 : Ext m M2 := by rw [hM2]; exact hx1.one _ _
      have ho2 : OwnB M2 id DT (xsC X) := by rw [hM2]; exact ho1.ext _
      have L2 : M2.length = M1.length + 1 := by rw [hM2]; simp
      have bz : OwnB M2 M1.length DT [.int .i64 oy, .int .i64 fy.stock, .slice A ny cy] := by rw [hM2]; exact OwnB.here rfl
      have hP2 : ∀ x ∈ R, IntsP x.2.1.under m.length M1.length M2 x.2.2 := fun x hxR => by rw [hM2]; exact (hP1 x hxR).ext (Nat.le_refl _) _
      have hy2 : IntsP fy.under m.length M1.length M2 (.slice A ny cy) := by rw [hM2]; exact hy1.ext (Nat.le_refl _) _
      have ha := app_back (e := DT) (sz := 3) (byt := 40) (n := k + 1) (id2 := M2.length) (ys := [.int .i64 oy, .int .i64 fy.stock, .slice A ny cy]) ho2 rfl (by rw [xsC_len, hXl]) rfl rfl (by omega) (by omega)
      simp (config := {implicitDefEqProofs := false, maxDischargeDepth := 20}) (disch := first | omega | (simp only [lenE]; done) | (simp only [lenE]; omega) | rfl | (simp only [lenE, markR_len]; done) | (simp only [lenE, markR_len]; omega)) only [runE, mapE, listE, initT_5, initT_6, initT_7, initT_8, resV, oneV, binA, unA, reduceCtorEq, Nat.reduceEqDiff, Nat.reduceAdd, Nat.reduceLT, Nat.reduceLeDiff, Nat.reduceMul, Nat.reduceSub, ↓reduceIte, decide_true, decide_false, Bool.true_eq_false, Bool.false_eq_true, Bool.not_true, Bool.not_false, if_true, if_false, and_true, true_and, memE, celE, w64, Nat.zero_add, Nat.add_zero, Nat.mul_one, putL, and_self, ldn, tm, t2, t8, t14, t15, ext_2_0, ext_2_1, stP_agg3p, onesB_sl, bsl_day, ← hM2, bz.mk3', ha]
      have hlid := ho2.lt
      have hxl := hx2.len
      refine ⟨⟨k + 1, _, M2.length + 1, R ++ [(oy, fy, .slice A ny cy)], _, by omega, rfl, ((hx2.dead hid).one _ _).one _ _, by omega, ?_, hcrs, ?_, by simp [hR], fun x hxR => ?_, rfl, by simp⟩, ?_⟩
      · rw [← List.cons_append, ← hX, xsC_app]
        exact OwnB.here (by simp)
      · rw [← hXC, hX, List.map_append]; rfl
      · have key : ∀ {l : List Int} {w : Value}, IntsP l m.length M1.length M2 w → IntsP l m.length (M2.set id deadB ++ [(⟨.own, DT, [.int .i64 oy, .int .i64 fy.stock, .slice A ny cy]⟩ : Blk)] ++ [(⟨.own, DT, xsC X ++ [.int .i64 oy, .int .i64 fy.stock, .slice A ny cy]⟩ : Blk)]).length (M2.set id deadB ++ [(⟨.own, DT, [.int .i64 oy, .int .i64 fy.stock, .slice A ny cy]⟩ : Blk)] ++ [(⟨.own, DT, xsC X ++ [.int .i64 oy, .int .i64 fy.stock, .slice A ny cy]⟩ : Blk)]) w := fun h => by
          have h2 := (((h.other ho2 (by decide) deadB).ext (by rw [List.length_set]; omega) [(⟨.own, DT, [.int .i64 oy, .int .i64 fy.stock, .slice A ny cy]⟩ : Blk)]).ext (by simp; omega) [(⟨.own, DT, xsC X ++ [.int .i64 oy, .int .i64 fy.stock, .slice A ny cy]⟩ : Blk)])
          exact IntsP.wide _ _ _ _ _ _ _ (Nat.le_refl _) (by simp; omega) h2
        rcases List.mem_append.1 hxR with hxR | hxR
        · exact key (hP2 x hxR)
        · rw [List.mem_singleton] at hxR
          subst hxR
          exact key hy2
      · simp [zOf]; omega
  · have hlt' : ¬ ((k : Int) < n) := by omega
    obtain rfl : k = n := by omega
    simp (config := {implicitDefEqProofs := false, maxDischargeDepth := 20}) (disch := first | omega | (simp only [lenE]; done) | (simp only [lenE]; omega) | rfl | (simp only [lenE, markR_len]; done) | (simp only [lenE, markR_len]; omega)) only [runE, mapE, listE, initT_5, initT_6, initT_7, initT_8, resV, oneV, binA, unA, reduceCtorEq, Nat.reduceEqDiff, Nat.reduceAdd, Nat.reduceLT, Nat.reduceLeDiff, Nat.reduceMul, Nat.reduceSub, ↓reduceIte, decide_true, decide_false, Bool.true_eq_false, Bool.false_eq_true, Bool.not_true, Bool.not_false, if_true, if_false, and_true, true_and, memE, celE, w64, Nat.zero_add, Nat.add_zero, Nat.mul_one, putL, and_self, ldn, tm, t2, t8, t14, t15, hlt']
    rw [hC]
    exact ext_crs hx rfl fun C' hC' => by
      cases hC'
      exact ⟨R, by rw [← hX]; exact hXC, by rw [hR], hid, by rw [← hX]; exact ho, hP⟩
end Go.Proofs.Ytnkbjliidenldaa.Ab
