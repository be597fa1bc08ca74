/- Stocks behind the days on which parcels arrive. -/
import Derived.Test.YtnkbjliidenldaaAbFl13
namespace Go.Proofs.Ytnkbjliidenldaa.Ab
open Go Go.RowKit
set_option linter.unusedVariables false
set_option linter.unusedSimpArgs false

/-- The values of the first numbers. -/
def cL (C : Nat → Int) (n : Nat) : List Int := (List.range n).map C
theorem cL_len (C : Nat → Int) (n : Nat) : (cL C n).length = n := by simp [cL]
theorem cL_s (C : Nat → Int) (n : Nat) : cL C (n + 1) = cL C n ++ [C n] := by simp [cL, List.range_succ]
theorem cL_at {C : Nat → Int} {n k : Nat} (h : k < n) : (cL C n).getD k 0 = C k := by simp [cL, List.getD_eq_getElem?_getD, h]
def pstk (start : Int) (P asked : List Int) : Nat → Int
  | 0 => start
  | d + 1 => pstk start P asked d + P.getD d 0 - asked.getD d 0
def pstOk (start : Int) (L : List Pc) (asked : List Int) : Bool := (nearB 200 start && parB L) && numsB asked 20 20
def pstA (start : Int) (L : List Pc) (asked : List Int) : List Int := if pstOk start L asked then cL (fun d => pstk start (arrTo L L.length) asked (d + 1)) asked.length else []
theorem cL_cons (C : Nat → Int) (n : Nat) : cL C (n + 1) = [C 0] ++ cL (fun d => C (d + 1)) n := by
  simp only [cL, List.range_succ_eq_map, List.map_cons, List.map_map]; rfl
theorem getD_bd {l : List Int} {a b : Int} (h : ∀ x ∈ l, a ≤ x ∧ x ≤ b) {i : Nat} (hi : i < l.length) : a ≤ l.getD i 0 ∧ l.getD i 0 ≤ b := by
  rw [List.getD_eq_getElem?_getD, List.getElem?_eq_getElem hi]; exact h _ (List.getElem_mem hi)
theorem pstk_bd {start : Int} {L : List Pc} {asked : List Int} (hs : -200 ≤ start ∧ start ≤ 200) (hG : GoodL L) (ha : ∀ x ∈ asked, 0 ≤ x ∧ x ≤ 20) : ∀ d, d ≤ asked.length → -200 - 20 * (d : Int) ≤ pstk start (arrTo L L.length) asked d ∧ pstk start (arrTo L L.length) asked d ≤ 200 + 480 * (d : Int)
  | 0, _ => by simp only [pstk]; omega
  | d + 1, hd => by
    have ih := pstk_bd hs hG ha d (by omega)
    have h1 := arrTo_bd hG L.length (Nat.le_refl _) d
    have h2 := getD_bd ha (i := d) (by omega)
    have h3 := hG.len
    simp only [pstk]
    omega
theorem courseI_rc (m : Mem) (fv : Value) (C : Nat → Int) (n : Nat) (hn : n ≤ 20) (hf : FunG m fv (fun k : Nat => [.int .i64 (C k), .int .i64 k]) (fun k => k < n) (fun k => .tuple #[.int .i64 (C (k + 1)), .bool true])) :
    RC Try.prog 115 [.int .i64 (C 0), .int .i64 n, fv] m fun r new => NoRo new ∧ ∃ id, r = .tuple #[.slice (some ⟨id, 0, none⟩) (n + 1) 1, .bool true] ∧ m.length ≤ id ∧ OwnR (m ++ new) id (cL C (n + 1)) := by
  refine rc_of_run mixed ok_impl_courseOf (by simp) (go_start _ _ _ ?_)
  obtain ⟨g, cap, rfl, hg⟩ := hf
  simp (config := {implicitDefEqProofs := false, maxDischargeDepth := 20}) (disch := first | omega | (simp only [lenE]; done) | (simp only [lenE]; omega) | rfl | (simp only [lenE, markR_len]; done) | (simp only [lenE, markR_len]; omega)) only [runE, mapE, listE, initT_5, initT_6, initT_7, initT_8, resV, oneV, binA, unA, reduceCtorEq, Nat.reduceEqDiff, Nat.reduceAdd, Nat.reduceLT, Nat.reduceLeDiff, Nat.reduceMul, Nat.reduceSub, ↓reduceIte, decide_true, decide_false, Bool.true_eq_false, Bool.false_eq_true, Bool.not_true, Bool.not_false, if_true, if_false, and_true, true_and, memE, celE, w64, Nat.zero_add, Nat.add_zero, Nat.mul_one, putL, and_self, ldn, c_impl_courseOf, r_impl_courseOf, bsl_one]
  refine loop_inv mixed (fun s => ∃ (k : Nat) (M : Mem) (id : Nat), k ≤ n ∧ s.m = M ∧ Ext m M ∧ OwnR M id (cL C (k + 1)) ∧ m.length ≤ id ∧ s.t 2 = .func (.func g) #[] cap ∧ s.t 8 = .slice (some ⟨id, 0, none⟩) (k + 1) 1 ∧ s.t 14 = .int .i64 n ∧ s.t 15 = .int .i64 k) (fun s => n - (intOf (s.t 15)).toNat)
    ⟨0, _, m.length, by omega, rfl, (Ext.refl m).one _ _, by have := OwnR.at_end (roM m) [C 0]; rwa [roM_len] at this, by omega, rfl, rfl, rfl, rfl⟩ ?_
  rintro s ⟨k, M, id, hk, tm, hx, ho, hid, t2, t8, t14, t15⟩
  by_cases hlt : k < n
  · have hlt' : (k : Int) < n := by omega
    have q1 := iad0 (id := id) (n := k + 1) (fl := 1) (z := (k : Int)) rfl (by omega)
    have q2 := ho.rd' (i := k) (by rw [cL_len]; omega)
    rw [cL_at (by omega)] at q2
    simp (config := {implicitDefEqProofs := false, maxDischargeDepth := 20}) (disch := first | omega | (simp only [lenE]; done) | (simp only [lenE]; omega) | rfl | (simp only [lenE, markR_len]; done) | (simp only [lenE, markR_len]; omega)) only [runE, mapE, listE, initT_5, initT_6, initT_7, initT_8, resV, oneV, binA, unA, reduceCtorEq, Nat.reduceEqDiff, Nat.reduceAdd, Nat.reduceLT, Nat.reduceLeDiff, Nat.reduceMul, Nat.reduceSub, ↓reduceIte, decide_true, decide_false, Bool.true_eq_false, Bool.false_eq_true, Bool.not_true, Bool.not_false, if_true, if_false, and_true, true_and, memE, celE, w64, Nat.zero_add, Nat.add_zero, Nat.mul_one, putL, and_self, ldn, tm, t2, t8, t14, t15, hlt', q1, q2]
    refine callH_rc (hg M hx.keeps k hlt) ?_
    intro r new hA
    obtain ⟨hr, hnn⟩ : r = .tuple #[.int .i64 (C (k + 1)), .bool true] ∧ NoRo new := hA
    subst hr
    obtain ⟨M1, hM1⟩ : ∃ M', M' = M ++ new := ⟨_, rfl⟩
    rw [← hM1]
    have hx1 : Ext m M1 := by rw [hM1]; exact hx.app hnn
    have ho1 : OwnR M1 id (cL C (k + 1)) := by rw [hM1]; exact ho.ext _
    clear hM1
    have hul := cL_len C (k + 1)
    have ha := app_num (x := C (k + 1)) (id2 := M1.length) (n := k + 1) ho1 (by omega) rfl (by omega)
    simp (config := {implicitDefEqProofs := false, maxDischargeDepth := 20}) (disch := first | omega | (simp only [lenE]; done) | (simp only [lenE]; omega) | rfl | (simp only [lenE, markR_len]; done) | (simp only [lenE, markR_len]; omega)) only [runE, mapE, listE, initT_5, initT_6, initT_7, initT_8, resV, oneV, binA, unA, reduceCtorEq, Nat.reduceEqDiff, Nat.reduceAdd, Nat.reduceLT, Nat.reduceLeDiff, Nat.reduceMul, Nat.reduceSub, ↓reduceIte, decide_true, decide_false, Bool.true_eq_false, Bool.false_eq_true, Bool.not_true, Bool.not_false, if_true, if_false, and_true, true_and, memE, celE, w64, Nat.zero_add, Nat.add_zero, Nat.mul_one, putL, and_self, ldn, tm, t2, t8, t14, t15, ext_2_0, ext_2_1, bsl_one, ha]
    refine ⟨⟨k + 1, _, M1.length + 1, by omega, rfl, ((hx1.dead hid).one _ _).one _ _, ?_, by have := hx1.len; omega, rfl, by simp⟩, ?_⟩
    · rw [show cL C (k + 1 + 1) = cL C (k + 1) ++ [C (k + 1)] from cL_s C (k + 1)]
      have := OwnR.at_end (M1.set id deadB ++ [⟨.own, 3, [.int .i64 (C (k + 1))]⟩]) (cL C (k + 1) ++ [C (k + 1)])
      simpa using this
    · simp [intOf]; omega
  · have hlt' : ¬ ((k : Int) < n) := by omega
    obtain rfl : k = n := by omega
    simp (config := {implicitDefEqProofs := false, maxDischargeDepth := 20}) (disch := first | omega | (simp only [lenE]; done) | (simp only [lenE]; omega) | rfl | (simp only [lenE, markR_len]; done) | (simp only [lenE, markR_len]; omega)) only [runE, mapE, listE, initT_5, initT_6, initT_7, initT_8, resV, oneV, binA, unA, reduceCtorEq, Nat.reduceEqDiff, Nat.reduceAdd, Nat.reduceLT, Nat.reduceLeDiff, Nat.reduceMul, Nat.reduceSub, ↓reduceIte, decide_true, decide_false, Bool.true_eq_false, Bool.false_eq_true, Bool.not_true, Bool.not_false, if_true, if_false, and_true, true_and, memE, celE, w64, Nat.zero_add, Nat.add_zero, Nat.mul_one, putL, and_self, ldn, tm, t2, t8, t14, t15, hlt']
    obtain ⟨n0, rfl, h0⟩ := hx
    refine ⟨n0, rfl, h0, h0, id, rfl, hid, ?_⟩
    exact ho.backP hid
theorem stockStep (m : Mem) (b1 b2 : Nat) (pv av : Value) (P asked : List Int) (C : Nat → Int) (n : Nat) (h1 : rdc m b1 0 = some pv) (h2 : rdc m b2 0 = some av) (hp : IntsA m pv P) (ha : IntsA m av asked) (hn : n ≤ asked.length) (hn2 : n ≤ P.length)
    (hC : ∀ k, k < n → C (k + 1) = C k + P.getD k 0 - asked.getD k 0) (hb : ∀ k, k < n → (-100000 ≤ C k ∧ C k ≤ 100000) ∧ (0 ≤ P.getD k 0 ∧ P.getD k 0 ≤ 1000) ∧ (0 ≤ asked.getD k 0 ∧ asked.getD k 0 ≤ 20)) :
    FunG m (.func (.func 116) #[] #[.pointer (some ⟨b1, 0, none⟩), .pointer (some ⟨b2, 0, none⟩)]) (fun k : Nat => [.int .i64 (C k), .int .i64 k]) (fun k => k < n) (fun k => .tuple #[.int .i64 (C (k + 1)), .bool true]) := by
  refine ⟨_, _, rfl, fun M hM k hk => ?_⟩
  refine rc_of_run mixed ok_impl_ParcelStocks_1 (by simp) (go_start _ _ _ ?_)
  have k1 := hM.1 _ _ _ h1
  have k2 := hM.1 _ _ _ h2
  have hpM := (hM.ints hp).ro
  have haM := (hM.ints ha).ro
  obtain ⟨c1, c2, c3⟩ := hb k hk
  have p1 := hpM.at_ k (by omega)
  have p2 := hpM.ld k (by omega)
  have a1 := haM.at_ k (by omega)
  have a2 := haM.ld k (by omega)
  obtain ⟨x, hx⟩ : ∃ x, x = P.getD k 0 := ⟨_, rfl⟩
  obtain ⟨y, hy⟩ : ∃ y, y = asked.getD k 0 := ⟨_, rfl⟩
  rw [← hx] at p2 c2
  rw [← hy] at a2 c3
  have hCk := hC k hk
  rw [← hx, ← hy] at hCk
  simp (config := {implicitDefEqProofs := false, maxDischargeDepth := 20}) (disch := first | omega | (simp only [lenE]; done) | (simp only [lenE]; omega) | rfl | (simp only [lenE, markR_len]; done) | (simp only [lenE, markR_len]; omega)) only [runE, mapE, listE, initT_5, initT_6, initT_7, initT_8, resV, oneV, binA, unA, reduceCtorEq, Nat.reduceEqDiff, Nat.reduceAdd, Nat.reduceLT, Nat.reduceLeDiff, Nat.reduceMul, Nat.reduceSub, ↓reduceIte, decide_true, decide_false, Bool.true_eq_false, Bool.false_eq_true, Bool.not_true, Bool.not_false, if_true, if_false, and_true, true_and, memE, celE, w64, Nat.zero_add, Nat.add_zero, Nat.mul_one, putL, and_self, ldn, c_impl_ParcelStocks_1, r_impl_ParcelStocks_1, rdc_roM, k1, k2, p1, p2, a1, a2]
  exact ext_ansV (Ext.refl M) (by rw [hCk])
end Go.Proofs.Ytnkbjliidenldaa.Ab
