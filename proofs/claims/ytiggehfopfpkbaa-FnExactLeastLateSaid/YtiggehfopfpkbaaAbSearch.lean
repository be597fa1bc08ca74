/- The program's search within limits: LimitedPlan, LimitedCost. -/
import Derived.Test.YtiggehfopfpkbaaAbFill
import Derived.Test.YtiggehfopfpkbaaAbTrace
namespace Go.Proofs.Ytiggehfopfpkbaa.Ab
open Go Go.RowKit
set_option linter.unusedVariables false
set_option linter.unusedSimpArgs false

/-- A filled search, to be read. -/
structure WaysR (w : Ws) (m : Mem) (sp : Nat) (v1 : Value) : Prop where
  f0 : rdc m sp 0 = some v1
  tab : ∃ tid fl, rdc m sp 7 = some (.slice (some ⟨tid, 0, none⟩) (w.n + 1) fl) ∧ ∀ t, t ≤ w.n → ∃ rid, rdc m tid t = some (.slice (some ⟨rid, 0, none⟩) (w.tot.toNat + 1) 3) ∧ RowAt m rid (fun x => wayT w t (x : Int)) (w.tot.toNat + 1)
theorem WaysR.keep {w : Ws} {m m' : Mem} {sp : Nat} {v1 : Value} (h : WaysR w m sp v1) (hk : ∀ (id k : Nat) (v : Value), rdc m id k = some v → rdc m' id k = some v) : WaysR w m' sp v1 := by
  obtain ⟨tid, fl, h1, h2⟩ := h.tab
  refine ⟨hk _ _ _ h.f0, tid, fl, hk _ _ _ h1, fun t ht => ?_⟩
  obtain ⟨rid, g1, g2⟩ := h2 t ht
  exact ⟨rid, hk _ _ _ g1, g2.mono hk⟩
theorem Filled.read {w : Ws} {M : Mem} {base sp : Nat} {v1 : Value} (h : Filled w M base sp v1) : WaysR w M sp v1 := by
  obtain ⟨tid, fl, vs, h1, h2, h3, h4, h5⟩ := h.tab
  refine ⟨h.f0, tid, fl, h1, fun t ht => ?_⟩
  obtain ⟨rid, g1, g2, g3, g4⟩ := h5 t (Nat.zero_le _) ht
  exact ⟨rid, by rw [h3.rd]; exact g1, rowAt_own g4⟩
theorem rdc_roM2 {m new : Mem} {id k : Nat} : rdc (roM m ++ new) id k = rdc (m ++ new) id k := by
  by_cases h : id < m.length
  · rw [rdc_left (by rw [roM_len]; exact h), rdc_left h, rdc_roM]
  · unfold rdc
    rw [List.getElem?_append_right (by rw [roM_len]; omega), List.getElem?_append_right (by omega), roM_len]

theorem plan_rc (w : Ws) (hw : WsOk w) (hway : ∃ r, wayT w 0 0 = some r) (m : Mem) (sp : Nat) (v1 : Value) (h1 : IntsA m v1 w.k.need) (h : WaysR w m sp v1) :
    RC Try.prog 73 [.pointer (some ⟨sp, 0, none⟩)] m (AnsR m (planW w w.n)) := by
  refine rc_of_run mixed ok_impl_planSearch__plan (by simp) (go_start _ _ _ ?_)
  have h8 := hw.g.n8
  have hn : w.n = w.k.need.length := rfl
  have hT := hw.tot
  have hpl := planW_len w
  have i1 := h1.ro
  have hR := h.keep (m' := roM m) fun _ _ _ h => by rw [rdc_roM]; exact h
  have r0 := hR.f0
  have lsp := rdc_lt' r0
  rw [roM_len] at lsp
  simp (config := {implicitDefEqProofs := false, maxDischargeDepth := 20}) (disch := first | omega | (simp only [lenE]; done) | (simp only [lenE]; omega) | rfl | (simp only [lenE, markR_len]; done) | (simp only [lenE, markR_len]; omega)) only [runE, mapE, listE, resV, oneV, binA, unA, reduceCtorEq, Nat.reduceEqDiff, Nat.reduceAdd, Nat.reduceLT, Nat.reduceLeDiff, Nat.reduceMul, Nat.reduceSub, ↓reduceIte, decide_true, decide_false, Bool.true_eq_false, Bool.false_eq_true, Bool.not_true, Bool.not_false, if_true, if_false, and_true, true_and, memE, celE, w64, Nat.zero_add, Nat.add_zero, Nat.mul_one, putL, and_self, ldn, c_impl_planSearch__plan, r_impl_planSearch__plan, nilc1, bsl_none, r0, i1.len]
  refine loop_inv mixed (fun s => ∃ (t : Nat) (M : Mem) (ra : Nat), t ≤ w.n ∧ s.m = M ∧ Grow (roM m) M ∧ OwnR M ra (planW w t) ∧ m.length ≤ ra ∧ s.t 0 = .pointer (some ⟨sp, 0, none⟩) ∧ s.t 3 = .slice (some ⟨ra, 0, none⟩) (planW w t).length 1 ∧ s.t 4 = .int .i64 (ordW w t) ∧ s.t 13 = .int .i64 w.n ∧ s.t 14 = .int .i64 t) (fun s => w.n - (intOf (s.t 14)).toNat)
    ⟨0, _, m.length, by omega, rfl, (Grow.refl _).one _ _, OwnR.end' (l := []) (by simp [roM_len]), by omega, rfl, rfl, rfl, by simp only [put_t, put_t', put_m, putT_t, putT_t', putT_m, init_t, init_m, initT_0, initT_1, initT_2, initT_3, initT_4, Nat.reduceEqDiff, ↓reduceIte, hn], rfl⟩ ?_
  rintro s ⟨t, M, ra, ht, tm, hx, hra, hral, t0, t3, t4, t13, t14⟩
  have hRM := hR.keep fun _ _ _ h => hx.rd h
  have pl := hpl t
  by_cases hlt : t < w.n
  · have hlt' : (t : Int) < w.n := by omega
    obtain ⟨tid, fl, g1, g2⟩ := hRM.tab
    obtain ⟨rid, k1, k2⟩ := g2 t (by omega)
    obtain ⟨r, hr⟩ := way_on hway t (by omega)
    have hoi := ordW_in hway ht
    obtain ⟨O, hO⟩ : ∃ O : Nat, ordW w t = O := ⟨(ordW w t).toNat, by omega⟩
    rw [hO] at t4 hr
    have it := iad0 (id := tid) (n := w.n + 1) (fl := fl) (z := (t : Int)) (j := t) rfl (by omega)
    have iO : iadA 3 (.slice (some ⟨rid, 0, none⟩) (w.tot.toNat + 1) 3) (.int .i64 (O : Int)) = some (.pointer (some ⟨rid, O * 3, none⟩)) := by
      have := iadA_at (id := rid) (off := 0) (n := w.tot.toNat + 1) (fl := 3) (sz := 3) (k := .i64) (z := (O : Int)) (j := O) rfl (by omega)
      simpa using this
    have rA : rdc M rid (O * 3 + 2) = some (.int .i64 (r.2 : Nat)) := k2 O (by omega) 2 _ (by simp only [hr, WCell]; rfl)
    have hoi1 := ordW_in hway (t := t + 1) (by omega)
    have eo1 : ordW w (t + 1) = O + r.2 := by rw [ordW, hO, amtW_some hr]
    have ep : planW w (t + 1) = planW w t ++ [(r.2 : Int)] := by rw [planW, hO, amtW_some hr]
    simp (config := {implicitDefEqProofs := false, maxDischargeDepth := 20}) (disch := first | omega | (simp only [lenE]; done) | (simp only [lenE]; omega) | rfl | (simp only [lenE, markR_len]; done) | (simp only [lenE, markR_len]; omega)) only [runE, mapE, listE, resV, oneV, binA, unA, reduceCtorEq, Nat.reduceEqDiff, Nat.reduceAdd, Nat.reduceLT, Nat.reduceLeDiff, Nat.reduceMul, Nat.reduceSub, ↓reduceIte, decide_true, decide_false, Bool.true_eq_false, Bool.false_eq_true, Bool.not_true, Bool.not_false, if_true, if_false, and_true, true_and, memE, celE, w64, Nat.zero_add, Nat.add_zero, Nat.mul_one, putL, and_self, ldn, tm, t0, t3, t4, t13, t14, hlt', nilc1, g1, it, k1, iO, rA, bsl_one, app_genH hra (by omega)]
    refine ⟨⟨t + 1, _, _, by omega, rfl, ((hx.dead (by rw [roM_len]; omega)).one _ _).one _ _, ?_, ?_, by rw [ep, List.length_append, List.length_singleton], by rw [eo1], by simp⟩, by simp [intOf]; omega⟩
    · rw [ep]; exact OwnR.end' (by simp)
    · have := hx.len; rw [roM_len] at this; omega
  · have hlt' : ¬ ((t : Int) < w.n) := by omega
    have e : t = w.n := by omega
    subst e
    simp (config := {implicitDefEqProofs := false, maxDischargeDepth := 20}) (disch := first | omega | (simp only [lenE]; done) | (simp only [lenE]; omega) | rfl | (simp only [lenE, markR_len]; done) | (simp only [lenE, markR_len]; omega)) only [runE, mapE, listE, resV, oneV, binA, unA, reduceCtorEq, Nat.reduceEqDiff, Nat.reduceAdd, Nat.reduceLT, Nat.reduceLeDiff, Nat.reduceMul, Nat.reduceSub, ↓reduceIte, decide_true, decide_false, Bool.true_eq_false, Bool.false_eq_true, Bool.not_true, Bool.not_false, if_true, if_false, and_true, true_and, memE, celE, w64, Nat.zero_add, Nat.add_zero, Nat.mul_one, putL, and_self, ldn, tm, t0, t3, t4, t13, t14, hlt']
    exact ext_ansR ((Ext.refl m).grow hx) hra hral rfl (by omega)

theorem cost_rc (w : Ws) (hw : WsOk w) (hway : ∃ r, wayT w 0 0 = some r) (m : Mem) (sp : Nat) (v1 : Value) (h : WaysR w m sp v1) :
    RC Try.prog 74 [.pointer (some ⟨sp, 0, none⟩)] m (AnsV (.int .i64 (vO (wayT w 0 0)))) := by
  refine rc_of_run mixed ok_impl_planSearch__cost (by simp) (go_start _ _ _ ?_)
  have hR := h.keep (m' := roM m) fun _ _ _ h => by rw [rdc_roM]; exact h
  obtain ⟨tid, fl, g1, g2⟩ := hR.tab
  obtain ⟨rid, k1, k2⟩ := g2 0 (by omega)
  obtain ⟨r, hr⟩ := hway
  have it := iad0 (id := tid) (n := w.n + 1) (fl := fl) (z := 0) (j := 0) rfl (Nat.succ_pos _)
  have iO : iadA 3 (.slice (some ⟨rid, 0, none⟩) (w.tot.toNat + 1) 3) (.int .i64 0) = some (.pointer (some ⟨rid, 0, none⟩)) := by
    have := iadA_at (id := rid) (off := 0) (n := w.tot.toNat + 1) (fl := 3) (sz := 3) (k := .i64) (z := 0) (j := 0) rfl (by omega)
    simpa using this
  have rA : rdc (roM m) rid 1 = some (.int .i64 r.1) := k2 0 (by omega) 1 _ (by simp only [Int.natCast_zero, hr, WCell]; rfl)
  rw [hr]
  simp (config := {implicitDefEqProofs := false, maxDischargeDepth := 20}) (disch := first | omega | (simp only [lenE]; done) | (simp only [lenE]; omega) | rfl | (simp only [lenE, markR_len]; done) | (simp only [lenE, markR_len]; omega)) only [runE, mapE, listE, resV, oneV, binA, unA, reduceCtorEq, Nat.reduceEqDiff, Nat.reduceAdd, Nat.reduceLT, Nat.reduceLeDiff, Nat.reduceMul, Nat.reduceSub, ↓reduceIte, decide_true, decide_false, Bool.true_eq_false, Bool.false_eq_true, Bool.not_true, Bool.not_false, if_true, if_false, and_true, true_and, memE, celE, w64, Nat.zero_add, Nat.add_zero, Nat.mul_one, putL, and_self, ldn, c_impl_planSearch__cost, r_impl_planSearch__cost, nilc1, g1, it, k1, iO, rA]
  exact ext_ansV (Ext.refl m) rfl

/-- An answer: a filled search, or none. -/
def AnsS (m : Mem) (w : Ws) (ok : Bool) (r : Value) (new : Mem) : Prop :=
  NoRo new ∧ ((ok = false ∧ r = .tuple #[.pointer none, .bool false]) ∨ (ok = true ∧ ∃ sp v1, r = .tuple #[.pointer (some ⟨sp, 0, none⟩), .bool true] ∧ IntsA (m ++ new) v1 w.k.need ∧ WaysR w (m ++ new) sp v1))
theorem bld8 (v1 v2 v3 v4 : Value) (A : Option Addr) (n c : Nat) : bldA [.slice none 0 0, .slice none 0 0, .slice none 0 0, .slice none 0 0, .slice none 0 0, .slice none 0 0, .bool false, .slice none 0 0] [(0, 4, .agg #[v1, v2, v3, v4]), (4, 1, .slice A n c)] =
    some (.agg #[v1, v2, v3, v4, .slice A n c, .slice none 0 0, .bool false, .slice none 0 0]) := rfl
theorem IntsA.sl {m : Mem} {v : Value} {l : List Int} (h : IntsA m v l) : ∃ A n c, v = .slice A n c := by
  rcases h.form with ⟨rfl, _⟩ | ⟨id, off, fl, rfl⟩
  · exact ⟨_, _, _, rfl⟩
  · exact ⟨_, _, _, rfl⟩

set_option maxHeartbeats 4000000 in
theorem limitedSearch_rc (m : Mem) (v u : Value) (k : Cs) (lims : List Int) (h : CaseA m v k) (h' : IntsA m u lims) :
    RC Try.prog 72 [v, u] m (AnsS m (limW k lims) (canB k lims)) := by
  refine rc_of_run mixed ok_impl_limitedSearch (by simp) (go_start _ _ _ ?_)
  obtain ⟨v1, v2, v3, v4, rfl, g1, -, -, -⟩ := h.ok
  obtain ⟨_, _, _, _, e, h1, h2, h3, h4⟩ := h.ro.ok
  cases e
  have hc : CaseA (roM m) (.agg #[v1, v2, v3, v4]) k := ⟨_, _, _, _, rfl, h1, h2, h3, h4⟩
  have hu := h'.ro
  simp (config := {implicitDefEqProofs := false, maxDischargeDepth := 20}) (disch := first | omega | (simp only [lenE]; done) | (simp only [lenE]; omega) | rfl | (simp only [lenE, markR_len]; done) | (simp only [lenE, markR_len]; omega)) only [runE, mapE, listE, resV, oneV, binA, unA, reduceCtorEq, Nat.reduceEqDiff, Nat.reduceAdd, Nat.reduceLT, Nat.reduceLeDiff, Nat.reduceMul, Nat.reduceSub, ↓reduceIte, decide_true, decide_false, Bool.true_eq_false, Bool.false_eq_true, Bool.not_true, Bool.not_false, if_true, if_false, and_true, true_and, memE, celE, w64, Nat.zero_add, Nat.add_zero, Nat.mul_one, putL, and_self, ldn, c_impl_limitedSearch, r_impl_limitedSearch]
  have C := implCanMeet_rc (roM m ++ [⟨.own, 28, [v1, v2, v3, v4]⟩]) (.agg #[v1, v2, v3, v4]) u k lims (hc.ext _) (hu.ext _)
  have hb : canB k lims = true → rowsB k lims 160 = true := fun h => by unfold canB at h; simp only [Bool.and_eq_true] at h; exact h.1
  generalize rowsB k lims 160 = c at *
  cases hcan : canB k lims with
  | false =>
    rw [hcan] at C
    refine callH_rc C ?_
    rintro r new ⟨rfl, nr1⟩
    have fin : ∀ M, Grow (roM m ++ [⟨.own, 28, [v1, v2, v3, v4]⟩]) M → newQ m (AnsS m (limW k lims) false) (.tuple #[.pointer none, .bool false]) M := fun M hx => by
      obtain ⟨n0, rfl, hn⟩ := hx.ext
      exact ⟨n0, rfl, hn, hn, .inl ⟨rfl, rfl⟩⟩
    cases c with
    | false =>
      simp (config := {implicitDefEqProofs := false, maxDischargeDepth := 20}) (disch := first | omega | (simp only [lenE]; done) | (simp only [lenE]; omega) | rfl | (simp only [lenE, markR_len]; done) | (simp only [lenE, markR_len]; omega)) only [runE, mapE, listE, resV, oneV, binA, unA, reduceCtorEq, Nat.reduceEqDiff, Nat.reduceAdd, Nat.reduceLT, Nat.reduceLeDiff, Nat.reduceMul, Nat.reduceSub, ↓reduceIte, decide_true, decide_false, Bool.true_eq_false, Bool.false_eq_true, Bool.not_true, Bool.not_false, if_true, if_false, and_true, true_and, memE, celE, w64, Nat.zero_add, Nat.add_zero, Nat.mul_one, putL, and_self, ldn, ext_2_0, ext_2_1]
      exact fin _ ((Grow.refl _).app nr1)
    | true =>
      simp (config := {implicitDefEqProofs := false, maxDischargeDepth := 20}) (disch := first | omega | (simp only [lenE]; done) | (simp only [lenE]; omega) | rfl | (simp only [lenE, markR_len]; done) | (simp only [lenE, markR_len]; omega)) only [runE, mapE, listE, resV, oneV, binA, unA, reduceCtorEq, Nat.reduceEqDiff, Nat.reduceAdd, Nat.reduceLT, Nat.reduceLeDiff, Nat.reduceMul, Nat.reduceSub, ↓reduceIte, decide_true, decide_false, Bool.true_eq_false, Bool.false_eq_true, Bool.not_true, Bool.not_false, if_true, if_false, and_true, true_and, memE, celE, w64, Nat.zero_add, Nat.add_zero, Nat.mul_one, putL, and_self, ldn, ext_2_0, ext_2_1]
      exact fin _ ((Grow.refl _).app nr1)
  | true =>
    rw [hcan, hb hcan] at C
    obtain ⟨hw, hway⟩ := can_way hcan
    refine callH_rc C ?_
    rintro r new ⟨rfl, nr1⟩
    obtain ⟨M0, hM0⟩ : ∃ M0, M0 = roM m ++ [⟨.own, 28, [v1, v2, v3, v4]⟩] ++ new := ⟨_, rfl⟩
    have hx : Grow (roM m ++ [⟨.own, 28, [v1, v2, v3, v4]⟩]) M0 := by rw [hM0]; exact (Grow.refl _).app nr1
    rw [← hM0]
    clear hM0 C
    obtain ⟨c0, c1, c2, c3, hml⟩ := hx.box4
    obtain ⟨A, n, cc, rfl⟩ := hu.sl
    simp (config := {implicitDefEqProofs := false, maxDischargeDepth := 20}) (disch := first | omega | (simp only [lenE]; done) | (simp only [lenE]; omega) | rfl | (simp only [lenE, markR_len]; done) | (simp only [lenE, markR_len]; omega)) only [runE, mapE, listE, resV, oneV, binA, unA, reduceCtorEq, Nat.reduceEqDiff, Nat.reduceAdd, Nat.reduceLT, Nat.reduceLeDiff, Nat.reduceMul, Nat.reduceSub, ↓reduceIte, decide_true, decide_false, Bool.true_eq_false, Bool.false_eq_true, Bool.not_true, Bool.not_false, if_true, if_false, and_true, true_and, memE, celE, w64, Nat.zero_add, Nat.add_zero, Nat.mul_one, putL, and_self, ldn, ext_2_0, ext_2_1, c0, c1, c2, c3, bld8]

    refine callH_ac (fill_ac (limW k lims) false ⟨hw, fun _ => rfl, fun h => by cases h⟩ M0 v1 v2 v3 v4 _ _ (hx.caseV hc) (hx.intsV hu) (IntsA.nil _)) ?_
    rintro r M ⟨hG, hF⟩
    simp (config := {implicitDefEqProofs := false, maxDischargeDepth := 20}) (disch := first | omega | (simp only [lenE]; done) | (simp only [lenE]; omega) | rfl | (simp only [lenE, markR_len]; done) | (simp only [lenE, markR_len]; omega)) only [runE, mapE, listE, resV, oneV, binA, unA, reduceCtorEq, Nat.reduceEqDiff, Nat.reduceAdd, Nat.reduceLT, Nat.reduceLeDiff, Nat.reduceMul, Nat.reduceSub, ↓reduceIte, decide_true, decide_false, Bool.true_eq_false, Bool.false_eq_true, Bool.not_true, Bool.not_false, if_true, if_false, and_true, true_and, memE, celE, w64, Nat.zero_add, Nat.add_zero, Nat.mul_one, putL, and_self, ldn]
    obtain ⟨n0, rfl, hn⟩ := (hx.trans hG).ext
    refine ⟨n0, rfl, hn, hn, .inr ⟨rfl, _, v1, rfl, g1.ext _, ?_⟩⟩
    exact hF.read.keep fun id k v hv => by rw [← rdc_roM2]; exact hv

theorem implLimited_rc (m : Mem) (v u : Value) (k : Cs) (lims : List Int) (h : CaseA m v k) (h' : IntsA m u lims) :
    RC Try.prog 32 [v, u] m (AnsL m (limitedA k lims) (canB k lims)) := by
  refine rc_of_run mixed ok_impl_LimitedPlan (by simp) (go_start _ _ _ ?_)
  obtain ⟨v1, v2, v3, v4, rfl, h1, h2, h3, h4⟩ := h.ro.ok
  have hc : CaseA (roM m) (.agg #[v1, v2, v3, v4]) k := ⟨_, _, _, _, rfl, h1, h2, h3, h4⟩
  have hu := h'.ro
  simp (config := {implicitDefEqProofs := false, maxDischargeDepth := 20}) (disch := first | omega | (simp only [lenE]; done) | (simp only [lenE]; omega) | rfl | (simp only [lenE, markR_len]; done) | (simp only [lenE, markR_len]; omega)) only [runE, mapE, listE, resV, oneV, binA, unA, reduceCtorEq, Nat.reduceEqDiff, Nat.reduceAdd, Nat.reduceLT, Nat.reduceLeDiff, Nat.reduceMul, Nat.reduceSub, ↓reduceIte, decide_true, decide_false, Bool.true_eq_false, Bool.false_eq_true, Bool.not_true, Bool.not_false, if_true, if_false, and_true, true_and, memE, celE, w64, Nat.zero_add, Nat.add_zero, Nat.mul_one, putL, and_self, ldn, c_impl_LimitedPlan, r_impl_LimitedPlan]
  refine callH_rc (limitedSearch_rc _ _ u k lims (hc.ext _) (hu.ext _)) ?_
  rintro r new ⟨nr1, hA⟩
  have hx : Grow (roM m ++ [⟨.own, 28, [v1, v2, v3, v4]⟩]) (roM m ++ [⟨.own, 28, [v1, v2, v3, v4]⟩] ++ new) := (Grow.refl _).app nr1
  rcases hA with ⟨hg, rfl⟩ | ⟨hg, sp, x1, rfl, hI, hW⟩
  · simp (config := {implicitDefEqProofs := false, maxDischargeDepth := 20}) (disch := first | omega | (simp only [lenE]; done) | (simp only [lenE]; omega) | rfl | (simp only [lenE, markR_len]; done) | (simp only [lenE, markR_len]; omega)) only [runE, mapE, listE, resV, oneV, binA, unA, reduceCtorEq, Nat.reduceEqDiff, Nat.reduceAdd, Nat.reduceLT, Nat.reduceLeDiff, Nat.reduceMul, Nat.reduceSub, ↓reduceIte, decide_true, decide_false, Bool.true_eq_false, Bool.false_eq_true, Bool.not_true, Bool.not_false, if_true, if_false, and_true, true_and, memE, celE, w64, Nat.zero_add, Nat.add_zero, Nat.mul_one, putL, and_self, ldn, ext_2_0, ext_2_1, bsl_none]
    rw [limitedA_no hg, hg]
    refine ext_ansL (hx.ext.one _ _) (OwnR.end' (l := []) ?_) (by omega) rfl (by simp)
    simp only [List.length_append, List.length_cons, List.length_nil, roM_len]
  · obtain ⟨hw, hway⟩ := can_way hg
    have h8 := hw.g.n8
    rw [limitedA_yes hg, hg]
    simp (config := {implicitDefEqProofs := false, maxDischargeDepth := 20}) (disch := first | omega | (simp only [lenE]; done) | (simp only [lenE]; omega) | rfl | (simp only [lenE, markR_len]; done) | (simp only [lenE, markR_len]; omega)) only [runE, mapE, listE, resV, oneV, binA, unA, reduceCtorEq, Nat.reduceEqDiff, Nat.reduceAdd, Nat.reduceLT, Nat.reduceLeDiff, Nat.reduceMul, Nat.reduceSub, ↓reduceIte, decide_true, decide_false, Bool.true_eq_false, Bool.false_eq_true, Bool.not_true, Bool.not_false, if_true, if_false, and_true, true_and, memE, celE, w64, Nat.zero_add, Nat.add_zero, Nat.mul_one, putL, and_self, ldn, ext_2_0, ext_2_1]
    refine callH_rc (plan_rc (limW k lims) hw hway _ sp x1 hI hW) ?_
    intro r new3 hA
    obtain ⟨d1, f1, rfl, l1, o1, hle, nr3⟩ := hA.row
    simp only [List.length_append, List.length_cons, List.length_nil, roM_len] at l1
    simp (config := {implicitDefEqProofs := false, maxDischargeDepth := 20}) (disch := first | omega | (simp only [lenE]; done) | (simp only [lenE]; omega) | rfl | (simp only [lenE, markR_len]; done) | (simp only [lenE, markR_len]; omega)) only [runE, mapE, listE, resV, oneV, binA, unA, reduceCtorEq, Nat.reduceEqDiff, Nat.reduceAdd, Nat.reduceLT, Nat.reduceLeDiff, Nat.reduceMul, Nat.reduceSub, ↓reduceIte, decide_true, decide_false, Bool.true_eq_false, Bool.false_eq_true, Bool.not_true, Bool.not_false, if_true, if_false, and_true, true_and, memE, celE, w64, Nat.zero_add, Nat.add_zero, Nat.mul_one, putL, and_self, ldn]
    exact ext_ansL (hx.app nr3).ext o1 (by omega) rfl (by rw [show planW (limW k lims) (limW k lims).n = planW (limW k lims) k.need.length from rfl] at hle; exact hle)

theorem implLimCost_rc (m : Mem) (v u : Value) (k : Cs) (lims : List Int) (h : CaseA m v k) (h' : IntsA m u lims) :
    RC Try.prog 37 [v, u] m (AnsV (.tuple #[.int .i64 (limCostA k lims), .bool (canB k lims)])) := by
  refine rc_of_run mixed ok_impl_LimitedCost (by simp) (go_start _ _ _ ?_)
  obtain ⟨v1, v2, v3, v4, rfl, h1, h2, h3, h4⟩ := h.ro.ok
  have hc : CaseA (roM m) (.agg #[v1, v2, v3, v4]) k := ⟨_, _, _, _, rfl, h1, h2, h3, h4⟩
  have hu := h'.ro
  simp (config := {implicitDefEqProofs := false, maxDischargeDepth := 20}) (disch := first | omega | (simp only [lenE]; done) | (simp only [lenE]; omega) | rfl | (simp only [lenE, markR_len]; done) | (simp only [lenE, markR_len]; omega)) only [runE, mapE, listE, resV, oneV, binA, unA, reduceCtorEq, Nat.reduceEqDiff, Nat.reduceAdd, Nat.reduceLT, Nat.reduceLeDiff, Nat.reduceMul, Nat.reduceSub, ↓reduceIte, decide_true, decide_false, Bool.true_eq_false, Bool.false_eq_true, Bool.not_true, Bool.not_false, if_true, if_false, and_true, true_and, memE, celE, w64, Nat.zero_add, Nat.add_zero, Nat.mul_one, putL, and_self, ldn, c_impl_LimitedCost, r_impl_LimitedCost]
  refine callH_rc (limitedSearch_rc _ _ u k lims (hc.ext _) (hu.ext _)) ?_
  rintro r new ⟨nr1, hA⟩
  have hx : Grow (roM m ++ [⟨.own, 28, [v1, v2, v3, v4]⟩]) (roM m ++ [⟨.own, 28, [v1, v2, v3, v4]⟩] ++ new) := (Grow.refl _).app nr1
  rcases hA with ⟨hg, rfl⟩ | ⟨hg, sp, x1, rfl, hI, hW⟩
  · simp (config := {implicitDefEqProofs := false, maxDischargeDepth := 20}) (disch := first | omega | (simp only [lenE]; done) | (simp only [lenE]; omega) | rfl | (simp only [lenE, markR_len]; done) | (simp only [lenE, markR_len]; omega)) only [runE, mapE, listE, resV, oneV, binA, unA, reduceCtorEq, Nat.reduceEqDiff, Nat.reduceAdd, Nat.reduceLT, Nat.reduceLeDiff, Nat.reduceMul, Nat.reduceSub, ↓reduceIte, decide_true, decide_false, Bool.true_eq_false, Bool.false_eq_true, Bool.not_true, Bool.not_false, if_true, if_false, and_true, true_and, memE, celE, w64, Nat.zero_add, Nat.add_zero, Nat.mul_one, putL, and_self, ldn, ext_2_0, ext_2_1]
    rw [limCostA_no hg, hg]
    exact ext_ansV hx.ext rfl
  · obtain ⟨hw, hway⟩ := can_way hg
    rw [limCostA_yes hg, hg]
    simp (config := {implicitDefEqProofs := false, maxDischargeDepth := 20}) (disch := first | omega | (simp only [lenE]; done) | (simp only [lenE]; omega) | rfl | (simp only [lenE, markR_len]; done) | (simp only [lenE, markR_len]; omega)) only [runE, mapE, listE, resV, oneV, binA, unA, reduceCtorEq, Nat.reduceEqDiff, Nat.reduceAdd, Nat.reduceLT, Nat.reduceLeDiff, Nat.reduceMul, Nat.reduceSub, ↓reduceIte, decide_true, decide_false, Bool.true_eq_false, Bool.false_eq_true, Bool.not_true, Bool.not_false, if_true, if_false, and_true, true_and, memE, celE, w64, Nat.zero_add, Nat.add_zero, Nat.mul_one, putL, and_self, ldn, ext_2_0, ext_2_1]
    refine callH_rc (cost_rc (limW k lims) hw hway _ sp x1 hW) ?_
    rintro r new3 ⟨rfl, nr3⟩
    simp (config := {implicitDefEqProofs := false, maxDischargeDepth := 20}) (disch := first | omega | (simp only [lenE]; done) | (simp only [lenE]; omega) | rfl | (simp only [lenE, markR_len]; done) | (simp only [lenE, markR_len]; omega)) only [runE, mapE, listE, resV, oneV, binA, unA, reduceCtorEq, Nat.reduceEqDiff, Nat.reduceAdd, Nat.reduceLT, Nat.reduceLeDiff, Nat.reduceMul, Nat.reduceSub, ↓reduceIte, decide_true, decide_false, Bool.true_eq_false, Bool.false_eq_true, Bool.not_true, Bool.not_false, if_true, if_false, and_true, true_and, memE, celE, w64, Nat.zero_add, Nat.add_zero, Nat.mul_one, putL, and_self, ldn]
    exact ext_ansV (hx.app nr3).ext rfl
end Go.Proofs.Ytiggehfopfpkbaa.Ab
