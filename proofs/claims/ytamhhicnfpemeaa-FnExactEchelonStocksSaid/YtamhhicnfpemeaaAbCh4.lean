/- Chains: impl.ChainStocks. -/
import Derived.Test.YtamhhicnfpemeaaAbCh3
namespace Go.Proofs.Ytamhhicnfpemeaa.Ab
open Go Go.RowKit
set_option linter.unusedVariables false
set_option linter.unusedSimpArgs false

theorem backT_rc (m : Mem) (u : Value) (h : ∃ a n c, u = .slice a n c) :
    RC Try.prog 99 [u] m fun r new => r = .func (.func 130) #[] #[.pointer (some ⟨m.length, 0, none⟩)] ∧ new = [⟨.own, 47, [u]⟩] := by
  refine rc_of_run mixed ok_slices_Backward_sint (by simp) (go_start _ _ _ ?_)
  obtain ⟨a, n, c, rfl⟩ := h
  simp (config := {implicitDefEqProofs := false, maxDischargeDepth := 20}) (disch := first | omega | (simp only [lenE]; done) | (simp only [lenE]; omega) | rfl | (simp only [lenE, markR_len]; done) | (simp only [lenE, markR_len]; omega)) only [runE, mapE, listE, initT_5, initT_6, initT_7, initT_8, resV, oneV, binA, unA, reduceCtorEq, Nat.reduceEqDiff, Nat.reduceAdd, Nat.reduceLT, Nat.reduceLeDiff, Nat.reduceMul, Nat.reduceSub, ↓reduceIte, decide_true, decide_false, Bool.true_eq_false, Bool.false_eq_true, Bool.not_true, Bool.not_false, if_true, if_false, and_true, true_and, memE, celE, w64, Nat.zero_add, Nat.add_zero, Nat.mul_one, putL, and_self, ldn, c_slices_Backward_sint, r_slices_Backward_sint]
  exact ⟨[⟨.own, 47, [.slice a n c]⟩], rfl, noRo_own noRo_nil, rfl, rfl⟩
/-- The memory between two rounds. -/
structure CSt (m : Mem) (q N : Nat) (c : Ch) (T : List (List Int)) (a vt : Value) (us : Nat → Value) (k : Nat) (M : Mem) : Prop where
  x : Ext m M
  ml : m.length + 2 < q
  b4 : OwnB M (m.length + 1) 47 [.slice none 0 0]
  b5 : OwnB M (m.length + 2) 4 [.bool false]
  b6 : OwnB M (q + 1) 47 [.slice (some ⟨q, 0, none⟩) N 1]
  b7 : OwnB M (q + 2) 24 [if k = 0 then a else us (N - k)]
  b8 : OwnB M (q + 3) 47 [vt]
  lb : q + 4 ≤ M.length
  pt : ∃ R F, PT N k m.length (q + 4) (fun j => stocksL (T.getD j []) (outR c.need T j)) M q R F
  st : ∀ j, N ≤ j + k → j < N → StageP (T.getD j []) (outR c.need T j) c.need.length
/-- The memory when the range has stopped. -/
def CStop (m : Mem) (M : Mem) : Prop := Ext m M ∧ ∃ e, m.length ≤ e ∧ OwnB M (m.length + 1) 47 [.slice (some ⟨e, 0, none⟩) 0 1] ∧ OwnB M (m.length + 2) 4 [.bool false] ∧ OwnB M e 24 []
theorem IntsA.stv {m : Mem} {u : Value} {l : List Int} (h : IntsA m u l) (M : Mem) (id off : Nat) : stP M 1 (.pointer (some ⟨id, off, none⟩)) u = stA M id off [u] := by
  rcases h.form with ⟨rfl, _⟩ | ⟨i, o, fl, rfl⟩ <;> rfl
theorem IntsA.one1 {m : Mem} {u : Value} {l : List Int} (h : IntsA m u l) : onesB [u] = true := by
  rcases h.form with ⟨rfl, _⟩ | ⟨i, o, fl, rfl⟩ <;> rfl
theorem IntsA.cells1 {m : Mem} {u : Value} {l : List Int} (h : IntsA m u l) : u.cells = #[u] := by
  rcases h.form with ⟨rfl, _⟩ | ⟨i, o, fl, rfl⟩ <;> rfl
theorem implStocks7_rc (m : Mem) (v vt : Value) (c : Ch) (T : List (List Int)) (h : ChA m v c) (hT : TabA m vt T) : RC Try.prog 37 [v, vt] m (AnsO m (TabO (stocks7A c T)) fun v => .tuple #[v, .bool (two7 c T)]) := by
  refine rc_of_run mixed ok_impl_ChainStocks (by simp) (go_start _ _ _ ?_)
  obtain ⟨a, b, d, rfl, ha, hb, hd⟩ := h.ro
  have hTr := hT.ro
  obtain ⟨ri, fl, hvt⟩ := hT.fm
  have hX0 := (((Ext.refl m).one 26 [a, b, d]).one 47 [.slice none 0 0]).one 4 [.bool false]
  have no : two7 c T = false → ∀ (A : Mem) (x y : Value), Ext m A → OwnB A (m.length + 1) 47 [x] → OwnB A (m.length + 2) 4 [y] → True := fun _ _ _ _ _ _ _ => trivial
  have fin : ∀ (A : Mem), two7 c T = false → CStop m A → ∃ e, rdc A (m.length + 1) 0 = some (.slice (some ⟨e, 0, none⟩) 0 1) ∧ rdc A (m.length + 2) 0 = some (.bool false) ∧ newQ m (AnsO m (TabO (stocks7A c T)) fun v => .tuple #[v, .bool (two7 c T)]) (.tuple #[.slice (some ⟨e, 0, none⟩) 0 1, .bool false]) A := by
    intro A h2 hA
    obtain ⟨hX, e, he, o4, o5, oe⟩ := hA
    refine ⟨e, by rw [o4.rd]; rfl, by rw [o5.rd]; rfl, ?_⟩
    unfold stocks7A
    rw [h2]
    exact ext_ansO (f := fun v => .tuple #[v, .bool false]) hX fun M' hM => ⟨by simp, by simp [tsz], e, 1, fun _ => 0, fun _ => 0, rfl, he, oe.lt, oe.at_ (hM _ he oe.lt), fun j hj => absurd hj (by simp), fun i j hi => absurd hi (by simp)⟩
  simp (config := {implicitDefEqProofs := false, maxDischargeDepth := 20}) (disch := first | omega | (simp only [lenE]; done) | (simp only [lenE]; omega) | rfl | (simp only [lenE, markR_len]; done) | (simp only [lenE, markR_len]; omega)) only [runE, mapE, listE, initT_5, initT_6, initT_7, initT_8, resV, oneV, binA, unA, reduceCtorEq, Nat.reduceEqDiff, Nat.reduceAdd, Nat.reduceLT, Nat.reduceLeDiff, Nat.reduceMul, Nat.reduceSub, ↓reduceIte, decide_true, decide_false, Bool.true_eq_false, Bool.false_eq_true, Bool.not_true, Bool.not_false, if_true, if_false, and_true, true_and, memE, celE, w64, Nat.zero_add, Nat.add_zero, Nat.mul_one, putL, and_self, ldn, c_impl_ChainStocks, r_impl_ChainStocks]
  refine callH_rc (implIsChain_rc _ _ c (ChA.mk (((ha.ext _).ext _).ext _) (((hb.ext _).ext _).ext _) (((hd.ext _).ext _).ext _))) ?_
  rintro r n1 ⟨rfl, nr1⟩
  have b20 : OwnB (roM m ++ [⟨.own, 26, [a, b, d]⟩] ++ [⟨.own, 47, [.slice none 0 0]⟩] ++ [⟨.own, 4, [.bool false]⟩] ++ n1) m.length 26 [a, b, d] := (((OwnB.here (roM_len m).symm).ext _).ext _).ext _
  have b40 : OwnB (roM m ++ [⟨.own, 26, [a, b, d]⟩] ++ [⟨.own, 47, [.slice none 0 0]⟩] ++ [⟨.own, 4, [.bool false]⟩] ++ n1) (m.length + 1) 47 [.slice none 0 0] := ((OwnB.here (by simp [roM_len])).ext _).ext _
  have b50 : OwnB (roM m ++ [⟨.own, 26, [a, b, d]⟩] ++ [⟨.own, 47, [.slice none 0 0]⟩] ++ [⟨.own, 4, [.bool false]⟩] ++ n1) (m.length + 2) 4 [.bool false] := (OwnB.here (by simp [roM_len])).ext _
  have hX1 := hX0.app nr1
  obtain ⟨M1, hM1⟩ : ∃ M1, M1 = roM m ++ [⟨.own, 26, [a, b, d]⟩] ++ [⟨.own, 47, [.slice none 0 0]⟩] ++ [⟨.own, 4, [.bool false]⟩] ++ n1 := ⟨_, rfl⟩
  rw [← hM1] at b20 b40 b50 hX1 ⊢
  have hq : m.length + 2 < M1.length := b50.lt
  have early : ∀ x, two7 c T = false → x = M1 ++ [(⟨.own, 24, []⟩ : Blk)] → CStop m ((x.set (m.length + 1) ⟨.own, 47, [.slice (some ⟨M1.length, 0, none⟩) 0 1]⟩).set (m.length + 2) ⟨.own, 4, [.bool false]⟩) := by
    intro x _ hx
    subst hx
    refine ⟨((hX1.one _ _).put (by omega) _ _).put (by omega) _ _, M1.length, by omega, ?_, ?_, ?_⟩
    · exact ((b40.ext _).set_self _ _).set_ne (by omega) _
    · exact OwnB.set_self ((b50.ext _).set_ne (by omega) _) _ _
    · exact ((OwnB.here rfl).set_ne (by omega) _).set_ne (by omega) _
  have st4 : ∀ (y : Mem) (w : Value), OwnB y (m.length + 1) 47 [.slice none 0 0] → onesB [w] = true → stA y (m.length + 1) 0 [w] = some (y.set (m.length + 1) ⟨.own, 47, [w]⟩) := fun y w hy hw => hy.st (off := 0) (vs := [w]) (by simp) hw
  have st5 : ∀ (y : Mem) (w : Value), OwnB y (m.length + 2) 4 [.bool false] → onesB [w] = true → stA y (m.length + 2) 0 [w] = some (y.set (m.length + 2) ⟨.own, 4, [w]⟩) := fun y w hy hw => hy.st (off := 0) (vs := [w]) (by simp) hw
  have eA := b40.ext [(⟨.own, 24, []⟩ : Blk)]
  have eB : OwnB ((M1 ++ [(⟨.own, 24, []⟩ : Blk)]).set (m.length + 1) ⟨.own, 47, [.slice (some ⟨M1.length, 0, none⟩) 0 1]⟩) (m.length + 2) 4 [.bool false] := (b50.ext _).set_ne (by omega) _
  have s1 := st4 _ (.slice (some ⟨M1.length, 0, none⟩) 0 1) eA rfl
  have s2 := st5 _ (.bool false) eB rfl
  cases hg : c.good with
  | false =>
    have h2 : two7 c T = false := by unfold two7; rw [hg]; rfl
    obtain ⟨e, f1, f2, f3⟩ := fin _ h2 (early _ h2 rfl)
    simp (config := {implicitDefEqProofs := false, maxDischargeDepth := 20}) (disch := first | omega | (simp only [lenE]; done) | (simp only [lenE]; omega) | rfl | (simp only [lenE, markR_len]; done) | (simp only [lenE, markR_len]; omega)) only [runE, mapE, listE, initT_5, initT_6, initT_7, initT_8, resV, oneV, binA, unA, reduceCtorEq, Nat.reduceEqDiff, Nat.reduceAdd, Nat.reduceLT, Nat.reduceLeDiff, Nat.reduceMul, Nat.reduceSub, ↓reduceIte, decide_true, decide_false, Bool.true_eq_false, Bool.false_eq_true, Bool.not_true, Bool.not_false, if_true, if_false, and_true, true_and, memE, celE, w64, Nat.zero_add, Nat.add_zero, Nat.mul_one, putL, and_self, ldn, bsl_no, s1, s2, f1, f2]
    exact f3
  | true =>
  have gd := goodCh_iff.1 hg
  have n6 := gd.n6
  have l3 := gd.s3
  by_cases hlen : T.length = c.setup.length
  · have hlen' : ((T.length : Int) != c.setup.length) = false := by simp; omega
    obtain ⟨N, hN⟩ : ∃ N, N = T.length := ⟨_, rfl⟩
    have hN3 : N ≤ 3 := by omega
    have us : ∃ us : Nat → Value, ∀ j, j < N → rdc (roM m) ri j = some (us j) ∧ IntsA (roM m) (us j) (T.getD j []) := by
      refine (Classical.skolem (p := fun (j : Nat) (u : Value) => j < N → rdc (roM m) ri j = some u ∧ IntsA (roM m) u (T.getD j []))).1 fun j => ?_
      by_cases hj : j < N
      · obtain ⟨u, h1, h2⟩ := hTr.ld j (by omega)
        rw [hvt] at h1
        simp only [pAt, ldA, Nat.zero_add] at h1
        exact ⟨u, fun _ => ⟨h1, h2⟩⟩
      · exact ⟨undef, fun hh => absurd hh hj⟩
    obtain ⟨us, hus⟩ := us
    obtain ⟨q, hq0⟩ : ∃ q, q = M1.length := ⟨_, rfl⟩
    rw [← hN] at hvt hlen'
    have hTl := hTr.len
    rw [← hN] at hTl
    obtain ⟨M2, hM2⟩ : ∃ M2, M2 = M1 ++ [⟨.own, 24, List.replicate N (.slice none 0 0)⟩] ++ [⟨.own, 47, [.slice (some ⟨q, 0, none⟩) N 1]⟩] := ⟨_, rfl⟩
    have L2 : M2.length = q + 2 := by rw [hM2]; simp; omega
    have hX2 : Ext m M2 := by rw [hM2]; exact (hX1.one _ _).one _ _
    have c4 : OwnB M2 (m.length + 1) 47 [.slice none 0 0] := by rw [hM2]; exact (b40.ext _).ext _
    have c5 : OwnB M2 (m.length + 2) 4 [.bool false] := by rw [hM2]; exact (b50.ext _).ext _
    have cT : OwnB M2 q 24 (List.replicate N (.slice none 0 0)) := by rw [hM2]; exact (OwnB.here hq0).ext _
    have c6 : OwnB M2 (q + 1) 47 [.slice (some ⟨q, 0, none⟩) N 1] := by rw [hM2]; exact OwnB.here (by simp; omega)
    have sP : stP (M1 ++ [(⟨.own, 24, List.replicate N (.slice none 0 0)⟩ : Blk)] ++ [(⟨.own, 47, [.slice (some ⟨q, 0, none⟩) N 1]⟩ : Blk)] ++ [(⟨.own, 24, [.slice none 0 0]⟩ : Blk)]) 1 (.pointer (some ⟨q + 1 + 1, 0, none⟩)) a = some (M2 ++ [(⟨.own, 24, [a]⟩ : Blk)]) := by
      rw [← hM2, ha.stv, (OwnB.here (e := 24) (cs := [.slice none 0 0]) (show q + 1 + 1 = M2.length by omega)).st (by simp) ha.one1]
      congr 1
      rw [List.set_append_right _ _ (by omega)]
      simp [L2, putL]
    obtain ⟨M3, hM3⟩ : ∃ M3, M3 = M2 ++ [(⟨.own, 24, [a]⟩ : Blk)] := ⟨_, rfl⟩
    have L3 : M3.length = q + 3 := by rw [hM3]; simp; omega
    have hX3 : Ext m M3 := by rw [hM3]; exact hX2.one _ _
    have d4 : OwnB M3 (m.length + 1) 47 [.slice none 0 0] := by rw [hM3]; exact c4.ext _
    have d5 : OwnB M3 (m.length + 2) 4 [.bool false] := by rw [hM3]; exact c5.ext _
    have dT : OwnB M3 q 24 (List.replicate N (.slice none 0 0)) := by rw [hM3]; exact cT.ext _
    have d6 : OwnB M3 (q + 1) 47 [.slice (some ⟨q, 0, none⟩) N 1] := by rw [hM3]; exact c6.ext _
    have d7 : OwnB M3 (q + 2) 24 [a] := by rw [hM3]; exact OwnB.here L2.symm
    simp (config := {implicitDefEqProofs := false, maxDischargeDepth := 20}) (disch := first | omega | (simp only [lenE]; done) | (simp only [lenE]; omega) | rfl | (simp only [lenE, markR_len]; done) | (simp only [lenE, markR_len]; omega)) only [runE, mapE, listE, initT_5, initT_6, initT_7, initT_8, resV, oneV, binA, unA, reduceCtorEq, Nat.reduceEqDiff, Nat.reduceAdd, Nat.reduceLT, Nat.reduceLeDiff, Nat.reduceMul, Nat.reduceSub, ↓reduceIte, decide_true, decide_false, Bool.true_eq_false, Bool.false_eq_true, Bool.not_true, Bool.not_false, if_true, if_false, and_true, true_and, memE, celE, w64, Nat.zero_add, Nat.add_zero, Nat.mul_one, putL, and_self, ldn, hTl, b20.rd, hb.len, hlen', mksA_eq (z := .slice none 0 0) (byt := 24) (n := N) (a := N) rfl (by omega), ← hq0]
    rw [sP]
    simp (config := {implicitDefEqProofs := false, maxDischargeDepth := 20}) (disch := first | omega | (simp only [lenE]; done) | (simp only [lenE]; omega) | rfl | (simp only [lenE, markR_len]; done) | (simp only [lenE, markR_len]; omega)) only [runE, mapE, listE, initT_5, initT_6, initT_7, initT_8, resV, oneV, binA, unA, reduceCtorEq, Nat.reduceEqDiff, Nat.reduceAdd, Nat.reduceLT, Nat.reduceLeDiff, Nat.reduceMul, Nat.reduceSub, ↓reduceIte, decide_true, decide_false, Bool.true_eq_false, Bool.false_eq_true, Bool.not_true, Bool.not_false, if_true, if_false, and_true, true_and, memE, celE, w64, Nat.zero_add, Nat.add_zero, Nat.mul_one, putL, and_self, ldn]
    rw [← hM3]
    refine callH_rc (backT_rc _ vt ⟨_, _, _, hvt⟩) ?_
    rintro r n2 ⟨rfl, rfl⟩
    simp (config := {implicitDefEqProofs := false, maxDischargeDepth := 20}) (disch := first | omega | (simp only [lenE]; done) | (simp only [lenE]; omega) | rfl | (simp only [lenE, markR_len]; done) | (simp only [lenE, markR_len]; omega)) only [runE, mapE, listE, initT_5, initT_6, initT_7, initT_8, resV, oneV, binA, unA, reduceCtorEq, Nat.reduceEqDiff, Nat.reduceAdd, Nat.reduceLT, Nat.reduceLeDiff, Nat.reduceMul, Nat.reduceSub, ↓reduceIte, decide_true, decide_false, Bool.true_eq_false, Bool.false_eq_true, Bool.not_true, Bool.not_false, if_true, if_false, and_true, true_and, memE, celE, w64, Nat.zero_add, Nat.add_zero, Nat.mul_one, putL, and_self, ldn, L3]
    have e8 : OwnB (M3 ++ [⟨.own, 47, [vt]⟩]) (q + 3) 47 [vt] := OwnB.here L3.symm
    obtain ⟨M4, hM4⟩ : ∃ M4, M4 = M3 ++ [⟨.own, 47, [vt]⟩] := ⟨_, rfl⟩
    have L4 : M4.length = q + 4 := by rw [hM4]; simp; omega
    have f0 : CSt m q N c T a vt us 0 M4 := by
      rw [hM4]
      refine ⟨hX3.one _ _, by omega, d4.ext _, d5.ext _, d6.ext _, d7.ext _, e8, by simp; omega, ⟨fun _ => 0, fun _ => 0, ?_⟩, fun j h1 h2 => absurd h2 (by omega)⟩
      refine ⟨?_, ⟨by omega, by omega⟩, fun j h1 h2 => absurd h2 (by omega), fun i j h1 h2 => absurd h2 (by omega)⟩
      have e : ((List.range N).map fun j => if j + 0 < N then (.slice none 0 0 : Value) else .slice (some ⟨0, 0, none⟩) (stocksL (T.getD j []) (outR c.need T j)).length 0) = List.replicate N (.slice none 0 0) := by
        apply List.ext_getElem?
        intro i
        by_cases hi : i < N
        · simp [hi]
        · rw [List.getElem?_eq_none (by simp; omega), List.getElem?_eq_none (by simp; omega)]
      rw [e]
      exact dT.ext _
    rw [← hM4]
    refine range_gen' (fun s => s.t 4 = .pointer (some ⟨m.length + 1, 0, none⟩) ∧ s.t 5 = .pointer (some ⟨m.length + 2, 0, none⟩) ∧ s.t 6 = .pointer (some ⟨q + 1, 0, none⟩) ∧ s.t 7 = .pointer (some ⟨q + 2, 0, none⟩) ∧
      s.t 30 = .func (.func 130) #[] #[.pointer (some ⟨q + 3, 0, none⟩)] ∧ s.m = M4) ⟨rfl, rfl, rfl, rfl, rfl, rfl⟩ ?_
    rintro s ⟨t4, t5, t6, t7, t30, tm⟩
    refine range_run_s mixed (gf := 130) (caps := #[.pointer (some ⟨q + 3, 0, none⟩)]) (by rw [ev_tmp]; exact t30) N _ (CSt m q N c T a vt us) (fun M => two7 c T = false ∧ CStop m M)
      (iter_rows (bi := q + 3) (ri := ri) (off := 0) (fl := fl) (len := N) (us := us) (by omega) (fun j hj => by
        rcases (hus j hj).2.form with ⟨h1, _⟩ | ⟨i, o, f, h1⟩
        · exact ⟨_, _, _, h1⟩
        · exact ⟨_, _, _, h1⟩) fun k M hM => ⟨by rw [hM.b8.rd, hvt]; rfl, fun j hj => by rw [Nat.zero_add]; exact (hM.x.rd ((rdc_roM m ri j).symm.trans (hus j hj).1))⟩)
      (fun _ => rfl) (by rw [tm]; exact f0) ?_ ?_ ?_
    · intro i M hi hM
      obtain ⟨hX, ml, o4, o5, o6, o7, o8, lbM, ⟨R, F, pt⟩, st⟩ := hM
      obtain ⟨nd, hnd⟩ : ∃ nd, nd = if i = 0 then a else us (N - i) := ⟨_, rfl⟩
      rw [← hnd] at o7
      have hna := needAt_ok (T := T) gd (k := i) (by omega) (fun j h1 h2 => st j (by omega) (by omega))
      have hIn : IntsA (roM m) nd (needAt c T i) := by
        rw [hnd]
        unfold needAt
        by_cases e : i = 0
        · rw [if_pos e, if_pos e]; exact ha
        · rw [if_neg e, if_neg e, ← hN]; exact (hus (N - i) (by omega)).2
      have hAm := (hus (N - 1 - i) (by omega)).2
      have eo := needAt_out c T (k := i) (by omega)
      rw [← hN] at eo
      have hsb := stk_stage (am := T.getD (N - 1 - i) []) hna.1 hna.2.1 hna.2.2
      simp (config := {implicitDefEqProofs := false, maxDischargeDepth := 20}) (disch := first | omega | (simp only [lenE]; done) | (simp only [lenE]; omega) | rfl | (simp only [lenE, markR_len]; done) | (simp only [lenE, markR_len]; omega)) only [runE, mapE, listE, initT_5, initT_6, initT_7, initT_8, resV, oneV, binA, unA, reduceCtorEq, Nat.reduceEqDiff, Nat.reduceAdd, Nat.reduceLT, Nat.reduceLeDiff, Nat.reduceMul, Nat.reduceSub, ↓reduceIte, decide_true, decide_false, Bool.true_eq_false, Bool.false_eq_true, Bool.not_true, Bool.not_false, if_true, if_false, and_true, true_and, memE, celE, w64, Nat.zero_add, Nat.add_zero, Nat.mul_one, putL, and_self, ldn, t4, t5, t6, t7, setT_2', o7.rd]
      refine callH_rc (stocksFor_rc _ nd (us (N - 1 - i)) _ _ (hX.ints hIn) (hX.ints hAm) (fun x hx => by have := hna.2.1 x hx; omega) (by omega)) ?_
      intro r new hA
      obtain ⟨rid, rf, rfl, hge, hown, hle, nr⟩ := hA.row0
      unfold stkFA at hown hle ⊢
      rw [hsb] at hown hle ⊢
      have Lq := o8.lt
      have x4 := o4.ext new
      have x5 := o5.ext new
      have x6 := o6.ext new
      have x7 := o7.ext new
      have hXn := hX.app nr
      have ptn := pt.cells.ext new
      cases hs : stageB (T.getD (N - 1 - i) []) (needAt c T i) c.need.length with
      | false =>
        have y4 := x4.ext [(⟨.own, 24, []⟩ : Blk)]
        have z1 := st4 _ (.slice (some ⟨(M ++ new).length, 0, none⟩) 0 1) y4 rfl
        have y5 : OwnB (((M ++ new) ++ [(⟨.own, 24, []⟩ : Blk)]).set (m.length + 1) ⟨.own, 47, [.slice (some ⟨(M ++ new).length, 0, none⟩) 0 1]⟩) (m.length + 2) 4 [.bool false] := (x5.ext _).set_ne (by omega) _
        have z2 := st5 _ (.bool false) y5 rfl
        obtain ⟨A, hA0⟩ : ∃ A, A = M ++ new := ⟨_, rfl⟩
        rw [← hA0] at z1 z2 y4 y5 x4 x5 hXn ⊢
        have hAl : A.length = M.length + new.length := by rw [hA0]; simp
        simp (config := {implicitDefEqProofs := false, maxDischargeDepth := 20}) (disch := first | omega | (simp only [lenE]; done) | (simp only [lenE]; omega) | rfl | (simp only [lenE, markR_len]; done) | (simp only [lenE, markR_len]; omega)) only [runE, mapE, listE, initT_5, initT_6, initT_7, initT_8, resV, oneV, binA, unA, reduceCtorEq, Nat.reduceEqDiff, Nat.reduceAdd, Nat.reduceLT, Nat.reduceLeDiff, Nat.reduceMul, Nat.reduceSub, ↓reduceIte, decide_true, decide_false, Bool.true_eq_false, Bool.false_eq_true, Bool.not_true, Bool.not_false, if_true, if_false, and_true, true_and, memE, celE, w64, Nat.zero_add, Nat.add_zero, Nat.mul_one, putL, and_self, ldn, t4, t5, t6, t7, setT_2', ext20, ext21, bsl_no, z1, z2]
        have h2 : two7 c T = false := by
          unfold two7
          rw [cplan_no (s := N - 1 - i) (by omega) fun hp => by rw [eo] at hp; rw [stageB_iff.2 hp] at hs; cases hs]
          simp
        refine .inr ⟨h2, ((hXn.one _ _).put (by omega) _ _).put (by omega) _ _, A.length, by omega, ?_, ?_, ?_⟩
        · exact (y4.set_self _ _).set_ne (by omega) _
        · exact y5.set_self _ _
        · exact ((OwnB.here rfl).set_ne (by omega) _).set_ne (by omega) _
      | true =>
        have hst := stageB_iff.1 hs
        rw [hs, if_pos rfl] at hown hle
        obtain ⟨w, hw⟩ : ∃ w, w = stocksL (T.getD (N - 1 - i) []) (needAt c T i) := ⟨_, rfl⟩
        rw [← hw] at hown hle ⊢
        have z1 := ptn.st (off := N - 1 - i) (vs := [.slice (some ⟨rid, 0, none⟩) w.length rf]) (by simp; omega) rfl
        obtain ⟨A, hA0⟩ : ∃ A, A = M ++ new := ⟨_, rfl⟩
        rw [← hA0] at z1 x4 x5 x6 x7 hXn hown ptn ⊢
        have hAl : A.length = M.length + new.length := by rw [hA0]; simp
        have hridl := hown.lt
        obtain ⟨B, hB⟩ : ∃ B, B = A.set q ⟨.own, 24, putL ((List.range N).map fun j => if j + i < N then (.slice none 0 0 : Value) else .slice (some ⟨R j, 0, none⟩) (stocksL (T.getD j []) (outR c.need T j)).length (F j)) (N - 1 - i) [.slice (some ⟨rid, 0, none⟩) w.length rf]⟩ := ⟨_, rfl⟩
        rw [← hB] at z1
        have hBl : B.length = A.length := by rw [hB, List.length_set]
        have w7 : OwnB B (q + 2) 24 [nd] := by rw [hB]; exact x7.set_ne (by omega) _
        have z2 := w7.st (off := 0) (vs := [us (N - 1 - i)]) (by simp) hAm.one1
        have ia : iadA 1 (.slice (some ⟨q, 0, none⟩) N 1) (.int .i64 ((N : Int) - 1 - i)) = some (.pointer (some ⟨q, N - 1 - i, none⟩)) := iad0 (by omega) (by omega)
        simp (config := {implicitDefEqProofs := false, maxDischargeDepth := 20}) (disch := first | omega | (simp only [lenE]; done) | (simp only [lenE]; omega) | rfl | (simp only [lenE, markR_len]; done) | (simp only [lenE, markR_len]; omega)) only [runE, mapE, listE, initT_5, initT_6, initT_7, initT_8, resV, oneV, binA, unA, reduceCtorEq, Nat.reduceEqDiff, Nat.reduceAdd, Nat.reduceLT, Nat.reduceLeDiff, Nat.reduceMul, Nat.reduceSub, ↓reduceIte, decide_true, decide_false, Bool.true_eq_false, Bool.false_eq_true, Bool.not_true, Bool.not_false, if_true, if_false, and_true, true_and, memE, celE, w64, Nat.zero_add, Nat.add_zero, Nat.mul_one, putL, and_self, ldn, t4, t5, t6, t7, setT_2', ext20, ext21, x6.rd, ia, z1, hAm.stv, z2]
        refine .inl ⟨?_, by omega, ?_, ?_, ?_, ?_, ?_, ?_, ?_, ?_⟩
        · rw [hB]; exact (hXn.put (by omega) _ _).put (by omega) _ _
        · rw [hB]; exact (x4.set_ne (by omega) _).set_ne (by omega) _
        · rw [hB]; exact (x5.set_ne (by omega) _).set_ne (by omega) _
        · rw [hB]; exact (x6.set_ne (by omega) _).set_ne (by omega) _
        · rw [if_neg (by omega), show N - (i + 1) = N - 1 - i by omega]
          exact w7.set_self _ _
        · rw [hB, hA0]; exact ((o8.ext _).set_ne (by omega) _).set_ne (by omega) _
        · rw [List.length_set, hBl]; omega
        · refine ⟨_, _, pt.next (rid := rid) (fl := rf) lbM (by omega) (by rw [List.length_set, hBl]; omega) (fun j h1 h2 => ?_) hge (by rw [List.length_set, hBl]; omega) ?_ ?_⟩
          · rw [List.getElem?_set_ne (by omega), hB, List.getElem?_set_ne (by omega), hA0, List.getElem?_append_left h2]
          · rw [eo, ← hw, hB]
            exact (hown.set_ne (by omega)).set_ne (by omega)
          · have := (ptn.set_self 24 (putL ((List.range N).map fun j => if j + i < N then (.slice none 0 0 : Value) else .slice (some ⟨R j, 0, none⟩) (stocksL (T.getD j []) (outR c.need T j)).length (F j)) (N - 1 - i) [.slice (some ⟨rid, 0, none⟩) w.length rf]))
            rw [← hB] at this
            rw [eo, ← hw]
            exact this.set_ne (by omega) _
        · intro j h1 h2
          by_cases e : j = N - 1 - i
          · subst e; rw [eo]; exact hst
          · exact st j (by omega) h2
    · intro M hM
      obtain ⟨hX, ml, o4, o5, o6, o7, o8, lbM, ⟨R, F, pt⟩, st⟩ := hM
      have h2 : two7 c T = true := by
        unfold two7
        rw [hg, cplanB_iff.2 ⟨hlen, fun s hs => st s (by omega) (by omega)⟩]; rfl
      have z1 := st4 M (.slice (some ⟨q, 0, none⟩) N 1) o4 rfl
      have y5 : OwnB (M.set (m.length + 1) ⟨.own, 47, [.slice (some ⟨q, 0, none⟩) N 1]⟩) (m.length + 2) 4 [.bool false] := o5.set_ne (by omega) _
      have z2 := st5 _ (.bool true) y5 rfl
      have r4 : rdc ((M.set (m.length + 1) ⟨.own, 47, [.slice (some ⟨q, 0, none⟩) N 1]⟩).set (m.length + 2) ⟨.own, 4, [.bool true]⟩) (m.length + 1) 0 = some (.slice (some ⟨q, 0, none⟩) N 1) := by
        rw [((o4.set_self 47 [.slice (some ⟨q, 0, none⟩) N 1]).set_ne (by omega) _).rd]; rfl
      have r5 : rdc ((M.set (m.length + 1) ⟨.own, 47, [.slice (some ⟨q, 0, none⟩) N 1]⟩).set (m.length + 2) ⟨.own, 4, [.bool true]⟩) (m.length + 2) 0 = some (.bool true) := by
        rw [(y5.set_self 4 [.bool true]).rd]; rfl
      simp (config := {implicitDefEqProofs := false, maxDischargeDepth := 20}) (disch := first | omega | (simp only [lenE]; done) | (simp only [lenE]; omega) | rfl | (simp only [lenE, markR_len]; done) | (simp only [lenE, markR_len]; omega)) only [runE, mapE, listE, initT_5, initT_6, initT_7, initT_8, resV, oneV, binA, unA, reduceCtorEq, Nat.reduceEqDiff, Nat.reduceAdd, Nat.reduceLT, Nat.reduceLeDiff, Nat.reduceMul, Nat.reduceSub, ↓reduceIte, decide_true, decide_false, Bool.true_eq_false, Bool.false_eq_true, Bool.not_true, Bool.not_false, if_true, if_false, and_true, true_and, memE, celE, w64, Nat.zero_add, Nat.add_zero, Nat.mul_one, putL, and_self, ldn, t4, t5, t6, o6.rd, z1, z2, r4, r5]
      unfold stocks7A
      rw [h2, if_pos rfl]
      refine ext_ansO (f := fun v => .tuple #[v, .bool true]) ((hX.put (by omega) _ _).put (by omega) _ _) fun M' hM => ?_
      have hN' : (stocksT c.need T).length = N := by rw [stocksT_len, hN]
      rw [List.length_set, List.length_set] at hM ⊢
      have hr : rowsOk c T := fun j hj => ⟨(st j (by omega) (by omega)).len, (st j (by omega) (by omega)).bd⟩
      refine pt.full hN' (fun j hj => stocksT_at (by omega)) (by omega) (stocksT_sz (by omega) n6 hr) fun i h1 h2 => ?_
      rw [hM i (by omega) h2, List.getElem?_set_ne (by omega), List.getElem?_set_ne (by omega)]
    · intro M hM
      obtain ⟨e, f1, f2, f3⟩ := fin M hM.1 hM.2
      simp (config := {implicitDefEqProofs := false, maxDischargeDepth := 20}) (disch := first | omega | (simp only [lenE]; done) | (simp only [lenE]; omega) | rfl | (simp only [lenE, markR_len]; done) | (simp only [lenE, markR_len]; omega)) only [runE, mapE, listE, initT_5, initT_6, initT_7, initT_8, resV, oneV, binA, unA, reduceCtorEq, Nat.reduceEqDiff, Nat.reduceAdd, Nat.reduceLT, Nat.reduceLeDiff, Nat.reduceMul, Nat.reduceSub, ↓reduceIte, decide_true, decide_false, Bool.true_eq_false, Bool.false_eq_true, Bool.not_true, Bool.not_false, if_true, if_false, and_true, true_and, memE, celE, w64, Nat.zero_add, Nat.add_zero, Nat.mul_one, putL, and_self, ldn, t4, t5, f1, f2]
      exact f3
  · have hlen' : ((T.length : Int) != c.setup.length) = true := by simp; omega
    have h2 : two7 c T = false := by
      unfold two7
      cases hb : cplanB c T with
      | false => simp
      | true => exact absurd (cplanB_iff.1 hb).1 hlen
    obtain ⟨e, f1, f2, f3⟩ := fin _ h2 (early _ h2 rfl)
    simp (config := {implicitDefEqProofs := false, maxDischargeDepth := 20}) (disch := first | omega | (simp only [lenE]; done) | (simp only [lenE]; omega) | rfl | (simp only [lenE, markR_len]; done) | (simp only [lenE, markR_len]; omega)) only [runE, mapE, listE, initT_5, initT_6, initT_7, initT_8, resV, oneV, binA, unA, reduceCtorEq, Nat.reduceEqDiff, Nat.reduceAdd, Nat.reduceLT, Nat.reduceLeDiff, Nat.reduceMul, Nat.reduceSub, ↓reduceIte, decide_true, decide_false, Bool.true_eq_false, Bool.false_eq_true, Bool.not_true, Bool.not_false, if_true, if_false, and_true, true_and, memE, celE, w64, Nat.zero_add, Nat.add_zero, Nat.mul_one, putL, and_self, ldn, hTr.len, b20.rd, hb.len, hlen', bsl_no, s1, s2, f1, f2]
    exact f3
end Go.Proofs.Ytamhhicnfpemeaa.Ab
