/- One period with chances: BestOrders, SumOf. -/
import Derived.Test.YtghaogfhmbjlkaaAbChance2
namespace Go.Proofs.Ytghaogfhmbjlkaa.Ab
open Go Go.RowKit
set_option linter.unusedVariables false
set_option linter.unusedSimpArgs false

theorem costsTo_s (w : List Int) (o u : Int) (n : Nat) : costsTo w o u (n + 1) = costsTo w o u n ++ [costF w o u n] := rfl
theorem costTable_rc (m : Mem) (v : Value) (w : List Int) (o u : Int) (h : IntsA m v w) (hd : Dist w) (ho : 0 ≤ o ∧ o ≤ 20) (hu : 0 ≤ u ∧ u ≤ 20) :
    RC Try.prog 52 [v, .int .i64 o, .int .i64 u] m (AnsR m (costsTo w o u 16)) := by
  refine rc_of_run mixed ok_impl_costTable (by simp) (go_start _ _ _ ?_)
  have hr := h.ro
  have hcl := fun n => costsTo_len w o u n
  simp (config := {implicitDefEqProofs := false, maxDischargeDepth := 20}) (disch := first | omega | (simp only [lenE]; done) | (simp only [lenE]; omega) | rfl | (simp only [lenE, markR_len]; done) | (simp only [lenE, markR_len]; omega)) only [runE, mapE, listE, initT_5, initT_6, initT_7, initT_8, resV, oneV, binA, unA, reduceCtorEq, Nat.reduceEqDiff, Nat.reduceAdd, Nat.reduceLT, Nat.reduceLeDiff, Nat.reduceMul, Nat.reduceSub, ↓reduceIte, decide_true, decide_false, Bool.true_eq_false, Bool.false_eq_true, Bool.not_true, Bool.not_false, if_true, if_false, and_true, true_and, memE, celE, w64, Nat.zero_add, Nat.add_zero, Nat.mul_one, putL, and_self, ldn, c_impl_costTable, r_impl_costTable, bsl_none]
  refine loop_inv mixed (fun s => ∃ (n : Nat) (M : Mem) (id : Nat), n ≤ 16 ∧ s.m = M ∧ Ext m M ∧ OwnR M id (costsTo w o u n) ∧ m.length ≤ id ∧ s.t 0 = v ∧ s.t 1 = .int .i64 o ∧ s.t 2 = .int .i64 u ∧ s.t 7 = .slice (some ⟨id, 0, none⟩) (costsTo w o u n).length 1 ∧ s.t 10 = .int .i64 n) (fun s => 20 - (intOf (s.t 10)).toNat)
    ⟨0, _, m.length, by omega, rfl, (Ext.refl m).one _ _, by have := OwnR.at_end (roM m) []; rwa [roM_len] at this, by omega, rfl, rfl, rfl, rfl, rfl⟩ ?_
  rintro s ⟨n, M, id, hn, tm, hx, hown, hid, t0, t1, t2, t7, t10⟩
  by_cases hlt : n < 16
  · have hlt' : (n : Int) < 16 := by omega
    simp (config := {implicitDefEqProofs := false, maxDischargeDepth := 20}) (disch := first | omega | (simp only [lenE]; done) | (simp only [lenE]; omega) | rfl | (simp only [lenE, markR_len]; done) | (simp only [lenE, markR_len]; omega)) only [runE, mapE, listE, initT_5, initT_6, initT_7, initT_8, resV, oneV, binA, unA, reduceCtorEq, Nat.reduceEqDiff, Nat.reduceAdd, Nat.reduceLT, Nat.reduceLeDiff, Nat.reduceMul, Nat.reduceSub, ↓reduceIte, decide_true, decide_false, Bool.true_eq_false, Bool.false_eq_true, Bool.not_true, Bool.not_false, if_true, if_false, and_true, true_and, memE, celE, w64, Nat.zero_add, Nat.add_zero, Nat.mul_one, putL, and_self, ldn, tm, t0, t1, t2, t7, t10, hlt']
    refine callH_rc (costSum_rc _ v w o u n (hx.ints hr) hd ho hu (by omega)) ?_
    rintro r new ⟨rfl, rfl⟩
    rw [List.append_nil]
    simp (config := {implicitDefEqProofs := false, maxDischargeDepth := 20}) (disch := first | omega | (simp only [lenE]; done) | (simp only [lenE]; omega) | rfl | (simp only [lenE, markR_len]; done) | (simp only [lenE, markR_len]; omega)) only [runE, mapE, listE, initT_5, initT_6, initT_7, initT_8, resV, oneV, binA, unA, reduceCtorEq, Nat.reduceEqDiff, Nat.reduceAdd, Nat.reduceLT, Nat.reduceLeDiff, Nat.reduceMul, Nat.reduceSub, ↓reduceIte, decide_true, decide_false, Bool.true_eq_false, Bool.false_eq_true, Bool.not_true, Bool.not_false, if_true, if_false, and_true, true_and, memE, celE, w64, Nat.zero_add, Nat.add_zero, Nat.mul_one, putL, and_self, ldn, tm, t0, t1, t2, t7, t10, bsl_one, app_gen hown (by have := hcl n; omega)]
    refine ⟨⟨n + 1, _, M.length + 1, by omega, rfl, ((hx.dead hid).one _ _).one _ _, ?_, by have := hx.len; omega, by rw [costsTo_s, List.length_append]; rfl, by simp⟩, by simp [intOf]; omega⟩
    rw [costsTo_s]
    have := OwnR.at_end (M.set id deadB ++ [⟨.own, 3, [.int .i64 (costF w o u n)]⟩]) (costsTo w o u n ++ [costF w o u n])
    simpa using this
  · have hlt' : ¬ ((n : Int) < 16) := by omega
    have e : n = 16 := by omega
    subst e
    simp (config := {implicitDefEqProofs := false, maxDischargeDepth := 20}) (disch := first | omega | (simp only [lenE]; done) | (simp only [lenE]; omega) | rfl | (simp only [lenE, markR_len]; done) | (simp only [lenE, markR_len]; omega)) only [runE, mapE, listE, initT_5, initT_6, initT_7, initT_8, resV, oneV, binA, unA, reduceCtorEq, Nat.reduceEqDiff, Nat.reduceAdd, Nat.reduceLT, Nat.reduceLeDiff, Nat.reduceMul, Nat.reduceSub, ↓reduceIte, decide_true, decide_false, Bool.true_eq_false, Bool.false_eq_true, Bool.not_true, Bool.not_false, if_true, if_false, and_true, true_and, memE, celE, w64, Nat.zero_add, Nat.add_zero, Nat.mul_one, putL, and_self, ldn, tm, t0, t1, t2, t7, t10, hlt']
    exact ext_ansR hx hown hid rfl (by have := hcl 16; omega)
theorem minTo_s (l : List Int) (k : Nat) : minTo l (k + 1) = min (minTo l k) (l.getD (k + 1) 0) := rfl
theorem picks_best (w : List Int) (o u : Int) (n : Nat) (hn : n ≤ 16) : picks (fun x => x == costF w o u (critF w o u)) (costsTo w o u 16) n = bestTo w o u n := by
  induction n with
  | zero => rfl
  | succ n ih => rw [picks, bestTo, ih (by omega), costsTo_at w o u (by omega)]
def bestA (w : List Int) (o u : Int) : List Int := if distB w && chB o u then bestTo w o u 16 else []
theorem bestA_no {w : List Int} {o u : Int} (h : (distB w && chB o u) = false) : bestA w o u = [] := by unfold bestA; rw [h]; rfl
theorem bestA_yes {w : List Int} {o u : Int} (h : (distB w && chB o u) = true) : bestA w o u = bestTo w o u 16 := by unfold bestA; rw [h]; rfl
theorem bestTo_s (w : List Int) (o u : Int) (n : Nat) : bestTo w o u (n + 1) = if costF w o u n == costF w o u (critF w o u) then bestTo w o u n ++ [(n : Int)] else bestTo w o u n := rfl
/-! SumOf. -/
theorem convIn_s (b : List Int) (x : Int) (i k : Nat) (l : List Int) : convIn b x i (k + 1) l = (convIn b x i k l).set (i + k) ((convIn b x i k l).getD (i + k) 0 + x * b.getD k 0) := rfl
theorem convTo_s (a b : List Int) (i : Nat) : convTo a b (i + 1) = convIn b (a.getD i 0) i b.length (convTo a b i) := rfl
def convL (a b : List Int) : List Int := convTo a b a.length
def sumB (a b : List Int) : Bool := (distB a && distB b) && distB (convL a b)
def sumA (a b : List Int) : List Int := if sumB a b then convL a b else []
theorem sumA_no {a b : List Int} (h : sumB a b = false) : sumA a b = [] := by unfold sumA; rw [h]; rfl
theorem sumA_yes {a b : List Int} (h : sumB a b = true) : sumA a b = convL a b := by unfold sumA; rw [h]; rfl
/-- What lies in the row while sums are made. -/
theorem conv_bd {a b : List Int} (ha : Dist a) (hb : Dist b) {i : Nat} (hi : i < a.length) (k : Nat) (hk : k ≤ b.length) (j : Nat) :
    0 ≤ (convIn b (a.getD i 0) i k (convTo a b i)).getD j 0 ∧ (convIn b (a.getD i 0) i k (convTo a b i)).getD j 0 ≤ 512000000 := by
  have h1 := convIn_in hb (ha.at_ i) (i := i) (l := convTo a b i) (B := 16000000 * i) (by rw [convTo_len]; omega) (convTo_in ha hb i (by omega)) (by omega) k hk j
  have := ha.l16
  have := hb.l16
  omega
theorem conv_t {a b : List Int} (ha : Dist a) (hb : Dist b) (i k : Nat) : 0 ≤ a.getD i 0 * b.getD k 0 ∧ a.getD i 0 * b.getD k 0 ≤ 1000000 := mul_in (A := 1000) (B := 1000) (ha.at_ i) (hb.at_ k)
end Go.Proofs.Ytghaogfhmbjlkaa.Ab
