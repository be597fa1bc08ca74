/- The model's regular plan: a table of pairs, and the amounts traced in it. -/
import Derived.Test.YtiggehfopfpkbaaAbTrace
namespace Go.Proofs.Ytiggehfopfpkbaa.Ab
open Go Go.RowKit
set_option linter.unusedVariables false
set_option linter.unusedSimpArgs false

theorem regT_big (w : Ws) {t : Nat} (ht : t ≤ w.n) {o : Int} (ho : w.tot < o) (u : Bool) : regT w t o u = none := by
  cases h : regT w t o u with
  | none => rfl
  | some r =>
    obtain ⟨q, hq, _⟩ := reg_ge w (w.n - t) t (by omega) o u r h
    have := wayT_le ht hq
    omega
theorem regT_in {w : Ws} (h : WsOk w) : ∀ (d t : Nat), t + d = w.n → ∀ (o : Int) (u : Bool) (r : Int × Nat), regT w t o u = some r → 0 ≤ r.1 ∧ r.1 ≤ 5000 * d ∧ o ≤ w.tot := by
  intro d
  induction d with
  | zero =>
    intro t ht o u r hr
    rw [show t = w.n by omega, regT_end] at hr
    split at hr
    · cases hr; simp; omega
    · cases hr
  | succ d ih =>
    intro t ht o u r hr
    rw [regT_s w (by omega)] at hr
    obtain ⟨h1, h2, h3⟩ := least_some _ _ hr
    obtain ⟨q, g0, g1, g2, g3⟩ := regX_some h2
    have b1 := ih (t + 1) (by omega) _ _ _ g2
    have b3 := h.due (t + 1) (by omega)
    have b4 := h.tot
    have b5 := (h.lim t).1
    have b6 := h.lo
    have b7 := stepF_in h t (x := (r.2 : Int)) (b := o + r.2 - w.due (t + 1)) (by omega) (by omega) (by omega) (by omega)
    rw [g3]
    have : (5000 * ((d + 1 : Nat) : Int)) = 5000 * d + 5000 := by omega
    omega
theorem regT_bd {w : Ws} (h : WsOk w) {t : Nat} (ht : t ≤ w.n) {o : Int} {u : Bool} {r : Int × Nat} (hr : regT w t o u = some r) : 0 ≤ r.1 ∧ r.1 ≤ 40000 ∧ o ≤ w.tot := by
  have := regT_in h (w.n - t) t (by omega) o u r hr
  have h8 := h.g.n8
  have : w.n = w.k.need.length := rfl
  omega
theorem regV_bd {w : Ws} (h : WsOk w) {t : Nat} (ht : t ≤ w.n) (o : Int) (u : Bool) : -1 ≤ vO (regT w t o u) ∧ vO (regT w t o u) ≤ 40000 := by
  cases hr : regT w t o u with
  | none => decide
  | some r => have := regT_bd h ht hr; simp only [vO]; omega
/-- What follows an amount. -/
def nowV (w : Ws) (t : Nat) (o : Int) (u : Bool) (x : Nat) : Int :=
  if (partW w t x && u) = true then -1 else vO (regT w (t + 1) (o + x) (decide (0 < o + x - w.due (t + 1)) && (u || partW w t x)))
theorem nowV_bd {w : Ws} (h : WsOk w) {t : Nat} (ht : t < w.n) (o : Int) (u : Bool) (x : Nat) : -1 ≤ nowV w t o u x ∧ nowV w t o u x ≤ 40000 := by
  unfold nowV
  split
  · decide
  · exact regV_bd h (by omega) _ _
theorem regX_no {w : Ws} (hw : WsOk w) {t : Nat} (ht : t < w.n) {o : Int} {u : Bool} {x : Nat} (h : nowV w t o u x < 0) : regX w (regT w (t + 1)) t o u x = none := by
  unfold nowV at h
  unfold regX
  by_cases hp : (partW w t x && u) = true
  · rw [if_pos hp]
  · rw [if_neg hp] at h ⊢
    cases hr : regT w (t + 1) (o + x) (decide (0 < o + x - w.due (t + 1)) && (u || partW w t x)) with
    | none => split <;> rfl
    | some r => rw [hr] at h; have := regT_bd hw (by omega) hr; simp only [vO] at h; omega
theorem regX_yes {w : Ws} {t : Nat} {o : Int} {u : Bool} {x : Nat} (hl : w.lo ≤ o + x - w.due (t + 1)) (h : 0 ≤ nowV w t o u x) : regX w (regT w (t + 1)) t o u x = some (stepF w.k w.rates t x (o + x - w.due (t + 1)) + nowV w t o u x) := by
  unfold nowV at h ⊢
  unfold regX
  by_cases hp : (partW w t x && u) = true
  · rw [if_pos hp] at h; omega
  · rw [if_neg hp] at h ⊢
    rw [if_neg hp, if_pos hl]
    cases hr : regT w (t + 1) (o + x) (decide (0 < o + x - w.due (t + 1)) && (u || partW w t x)) with
    | none => rw [hr] at h; simp [vO] at h
    | some r => rfl
theorem regX_far {w : Ws} {t : Nat} (ht : t < w.n) {o : Int} {u : Bool} {x : Nat} (h : o + x - w.due (t + 1) < w.lo ∨ w.tot < o + x) : regX w (regT w (t + 1)) t o u x = none := by
  unfold regX
  split
  · rfl
  · rcases h with h | h
    · rw [if_neg (by omega)]
    · rw [regT_big w (by omega) h]; split <;> rfl

/-- A row of pairs. -/
def pairC (w : Ws) (t s : Nat) : List Value := [.int .i64 (vO (regT w t (w.due t + s) false)), .int .i64 (vO (regT w t (w.due t + s) true))]
def pairL (w : Ws) (t n : Nat) : List Value := ((List.range n).map (pairC w t)).flatten
theorem pairL_len (w : Ws) (t n : Nat) : (pairL w t n).length = n * 2 := by
  unfold pairL
  induction n with
  | zero => rfl
  | succ n ih => rw [List.range_succ, List.map_append, List.flatten_append, List.length_append, ih]; simp [pairC]; omega
theorem pairL_s (w : Ws) (t n : Nat) : pairL w t (n + 1) = pairL w t n ++ pairC w t n := by
  unfold pairL; rw [List.range_succ, List.map_append, List.flatten_append]; simp
theorem pairL_at (w : Ws) (t : Nat) : ∀ n s i, s < n → i < 2 → (pairL w t n)[s * 2 + i]? = (pairC w t s)[i]? := by
  intro n
  induction n with
  | zero => intro s i h; omega
  | succ n ih =>
    intro s i hs hi
    rw [pairL_s]
    by_cases e : s = n
    · subst e
      rw [List.getElem?_append_right (by rw [pairL_len]; omega), pairL_len]
      congr 1; omega
    · rw [List.getElem?_append_left (by rw [pairL_len]; omega)]
      exact ih s i (by omega) hi
theorem pairL_ones (w : Ws) (t n : Nat) : onesB (pairL w t n) = true := by
  induction n with
  | zero => rfl
  | succ n ih =>
    rw [pairL_s]
    unfold onesB at ih ⊢
    rw [List.all_append, ih]; rfl
/-- A row of pairs, to be read. -/
def PairsA (m : Mem) (v : Value) (w : Ws) (t : Nat) : Prop := ∃ rid f, v = .slice (some ⟨rid, 0, none⟩) (w.tot.toNat + 1) f ∧ ∀ s, s < w.tot.toNat + 1 → rdc m rid (s * 2) = some (.int .i64 (vO (regT w t (w.due t + s) false))) ∧ rdc m rid (s * 2 + 1) = some (.int .i64 (vO (regT w t (w.due t + s) true)))
theorem PairsA.keep {m m' : Mem} {v : Value} {w : Ws} {t : Nat} (h : PairsA m v w t) (hk : ∀ (id k : Nat) (v : Value), rdc m id k = some v → rdc m' id k = some v) : PairsA m' v w t := by
  obtain ⟨rid, f, h1, h2⟩ := h
  exact ⟨rid, f, h1, fun s hs => ⟨hk _ _ _ (h2 s hs).1, hk _ _ _ (h2 s hs).2⟩⟩
theorem PairsA.ro {m : Mem} {v : Value} {w : Ws} {t : Nat} (h : PairsA m v w t) : PairsA (roM m) v w t := h.keep fun _ _ _ h => by rw [rdc_roM]; exact h
theorem PairsA.ext {m : Mem} {v : Value} {w : Ws} {t : Nat} (h : PairsA m v w t) (R : Mem) : PairsA (m ++ R) v w t := h.keep fun _ _ _ h => rdc_ext h
theorem PairsA.grow {m M : Mem} {v : Value} {w : Ws} {t : Nat} (h : PairsA m v w t) (hx : Grow m M) : PairsA M v w t := h.keep fun _ _ _ h => hx.rd h
theorem pairs_own {M : Mem} {rid f : Nat} {e : TypeId} {w : Ws} {t : Nat} (h : Own M rid e (pairL w t (w.tot.toNat + 1))) : PairsA M (.slice (some ⟨rid, 0, none⟩) (w.tot.toNat + 1) f) w t := by
  refine ⟨rid, f, rfl, fun s hs => ⟨?_, ?_⟩⟩
  · rw [h.rd]; exact (pairL_at w t _ s 0 hs (by omega)).trans rfl
  · rw [h.rd, pairL_at w t _ s 1 hs (by omega)]; rfl

theorem l4Cost_rc (m : Mem) (a b : Int) (u : Bool) : RC Try.prog 86 [.agg #[.int .i64 a, .int .i64 b], .bool u] m (AnsV (.int .i64 (if u then b else a))) := by
  refine rc_of_run mixed ok_spec_l4Cost (by simp) (go_start _ _ _ ?_)
  cases u with
  | true =>
    simp (config := {implicitDefEqProofs := false, maxDischargeDepth := 20}) (disch := first | omega | (simp only [lenE]; done) | (simp only [lenE]; omega) | rfl | (simp only [lenE, markR_len]; done) | (simp only [lenE, markR_len]; omega)) only [runE, mapE, listE, resV, oneV, binA, unA, reduceCtorEq, Nat.reduceEqDiff, Nat.reduceAdd, Nat.reduceLT, Nat.reduceLeDiff, Nat.reduceMul, Nat.reduceSub, ↓reduceIte, decide_true, decide_false, Bool.true_eq_false, Bool.false_eq_true, Bool.not_true, Bool.not_false, if_true, if_false, and_true, true_and, memE, celE, w64, Nat.zero_add, Nat.add_zero, Nat.mul_one, putL, and_self, ldn, c_spec_l4Cost, r_spec_l4Cost]
    exact ext_ansV ((Ext.refl m).one _ _) rfl
  | false =>
    simp (config := {implicitDefEqProofs := false, maxDischargeDepth := 20}) (disch := first | omega | (simp only [lenE]; done) | (simp only [lenE]; omega) | rfl | (simp only [lenE, markR_len]; done) | (simp only [lenE, markR_len]; omega)) only [runE, mapE, listE, resV, oneV, binA, unA, reduceCtorEq, Nat.reduceEqDiff, Nat.reduceAdd, Nat.reduceLT, Nat.reduceLeDiff, Nat.reduceMul, Nat.reduceSub, ↓reduceIte, decide_true, decide_false, Bool.true_eq_false, Bool.false_eq_true, Bool.not_true, Bool.not_false, if_true, if_false, and_true, true_and, memE, celE, w64, Nat.zero_add, Nat.add_zero, Nat.mul_one, putL, and_self, ldn, c_spec_l4Cost, r_spec_l4Cost]
    exact ext_ansV ((Ext.refl m).one _ _) rfl

set_option maxHeartbeats 2000000 in
theorem l4Now_rc (m : Mem) (u v : Value) (w : Ws) (hw : WsOk w) (h0 : w.lo = 0) (t x L : Nat) (o : Int) (b : Bool) (h : IntsA m u w.lims) (h' : PairsA m v w (t + 1)) (ht : t < w.n) (hL : o + x - w.due (t + 1) = L) (hLT : L < w.tot.toNat + 1) :
    RC Try.prog 84 [u, v, .int .i64 t, .int .i64 x, .int .i64 L, .bool b] m (AnsV (.int .i64 (nowV w t o b x))) := by
  refine rc_of_run mixed ok_spec_l4Now (by simp) (go_start _ _ _ ?_)
  have hu := h.ro
  obtain ⟨rid, f, rfl, hat⟩ := h'.ro
  obtain ⟨a0, a1⟩ := hat L hLT
  have hll := hw.ll
  have hlm := hw.lim t
  have eo : w.due (t + 1) + (L : Int) = o + x := by omega
  rw [eo] at a0 a1
  have iL : iadA 2 (.slice (some ⟨rid, 0, none⟩) (w.tot.toNat + 1) f) (.int .i64 (L : Int)) = some (.pointer (some ⟨rid, L * 2, none⟩)) := by
    have := iadA_at (id := rid) (off := 0) (n := w.tot.toNat + 1) (fl := f) (sz := 2) (k := .i64) (z := (L : Int)) (j := L) rfl hLT
    simpa using this
  have l0 := rdc_lt' a0
  rw [roM_len] at l0
  unfold nowV
  rw [hL]
  obtain ⟨p, hp⟩ : ∃ p, p = partW w t x := ⟨_, rfl⟩
  have fin : ∀ q : Bool, q = (decide (0 < (L : Int)) && (b || p)) → (p && b) = false → RC Try.prog 86 [.agg #[.int .i64 (vO (regT w (t + 1) (o + x) false)), .int .i64 (vO (regT w (t + 1) (o + x) true))], .bool q] (roM m) (AnsV (.int .i64 (if (p && b) = true then -1 else vO (regT w (t + 1) (o + x) (decide (0 < (L : Int)) && (b || p)))))) := by
    intro q hq hb
    have := l4Cost_rc (roM m) (vO (regT w (t + 1) (o + x) false)) (vO (regT w (t + 1) (o + x) true)) q
    rw [hb, if_neg (by simp), ← hq]
    cases q <;> exact this
  rw [← hp]
  by_cases hx : 0 < x
  · have hx' : (0 : Int) < x := by omega
    by_cases hl : (x : Int) < w.lims.getD t 0
    · have ep : p = true := by rw [hp]; unfold partW; rw [decide_eq_true hx, decide_eq_true (by omega)]; rfl
      rw [ep] at fin ⊢
      cases b with
      | true =>
        simp (config := {implicitDefEqProofs := false, maxDischargeDepth := 20}) (disch := first | omega | (simp only [lenE]; done) | (simp only [lenE]; omega) | rfl | (simp only [lenE, markR_len]; done) | (simp only [lenE, markR_len]; omega)) only [runE, mapE, listE, resV, oneV, binA, unA, reduceCtorEq, Nat.reduceEqDiff, Nat.reduceAdd, Nat.reduceLT, Nat.reduceLeDiff, Nat.reduceMul, Nat.reduceSub, ↓reduceIte, decide_true, decide_false, Bool.true_eq_false, Bool.false_eq_true, Bool.not_true, Bool.not_false, if_true, if_false, and_true, true_and, memE, celE, w64, Nat.zero_add, Nat.add_zero, Nat.mul_one, putL, and_self, ldn, c_spec_l4Now, r_spec_l4Now, initT_5, gt_iff_lt, hx', hu.at_ t (by omega), hu.ld t (by omega), hl]
        exact ext_ansV (Ext.refl m) rfl
      | false =>
        by_cases hL0 : (0 : Int) < L
        · simp (config := {implicitDefEqProofs := false, maxDischargeDepth := 20}) (disch := first | omega | (simp only [lenE]; done) | (simp only [lenE]; omega) | rfl | (simp only [lenE, markR_len]; done) | (simp only [lenE, markR_len]; omega)) only [runE, mapE, listE, resV, oneV, binA, unA, reduceCtorEq, Nat.reduceEqDiff, Nat.reduceAdd, Nat.reduceLT, Nat.reduceLeDiff, Nat.reduceMul, Nat.reduceSub, ↓reduceIte, decide_true, decide_false, Bool.true_eq_false, Bool.false_eq_true, Bool.not_true, Bool.not_false, if_true, if_false, and_true, true_and, memE, celE, w64, Nat.zero_add, Nat.add_zero, Nat.mul_one, putL, and_self, ldn, c_spec_l4Now, r_spec_l4Now, initT_5, gt_iff_lt, hx', hu.at_ t (by omega), hu.ld t (by omega), hl, iL, a0, a1, hL0, goG_undef]
          refine callH_rc (fin true (by rw [decide_eq_true hL0]; rfl) rfl) ?_
          rintro r new ⟨rfl, nr⟩
          simp (config := {implicitDefEqProofs := false, maxDischargeDepth := 20}) (disch := first | omega | (simp only [lenE]; done) | (simp only [lenE]; omega) | rfl | (simp only [lenE, markR_len]; done) | (simp only [lenE, markR_len]; omega)) only [runE, mapE, listE, resV, oneV, binA, unA, reduceCtorEq, Nat.reduceEqDiff, Nat.reduceAdd, Nat.reduceLT, Nat.reduceLeDiff, Nat.reduceMul, Nat.reduceSub, ↓reduceIte, decide_true, decide_false, Bool.true_eq_false, Bool.false_eq_true, Bool.not_true, Bool.not_false, if_true, if_false, and_true, true_and, memE, celE, w64, Nat.zero_add, Nat.add_zero, Nat.mul_one, putL, and_self, ldn]
          exact ext_ansV ((Ext.refl m).app nr) (by first | rw [decide_eq_true hL0] | rw [decide_eq_false hL0])
        · simp (config := {implicitDefEqProofs := false, maxDischargeDepth := 20}) (disch := first | omega | (simp only [lenE]; done) | (simp only [lenE]; omega) | rfl | (simp only [lenE, markR_len]; done) | (simp only [lenE, markR_len]; omega)) only [runE, mapE, listE, resV, oneV, binA, unA, reduceCtorEq, Nat.reduceEqDiff, Nat.reduceAdd, Nat.reduceLT, Nat.reduceLeDiff, Nat.reduceMul, Nat.reduceSub, ↓reduceIte, decide_true, decide_false, Bool.true_eq_false, Bool.false_eq_true, Bool.not_true, Bool.not_false, if_true, if_false, and_true, true_and, memE, celE, w64, Nat.zero_add, Nat.add_zero, Nat.mul_one, putL, and_self, ldn, c_spec_l4Now, r_spec_l4Now, initT_5, gt_iff_lt, hx', hu.at_ t (by omega), hu.ld t (by omega), hl, iL, a0, a1, hL0, goG_undef]
          refine callH_rc (fin false (by rw [decide_eq_false hL0]; rfl) rfl) ?_
          rintro r new ⟨rfl, nr⟩
          simp (config := {implicitDefEqProofs := false, maxDischargeDepth := 20}) (disch := first | omega | (simp only [lenE]; done) | (simp only [lenE]; omega) | rfl | (simp only [lenE, markR_len]; done) | (simp only [lenE, markR_len]; omega)) only [runE, mapE, listE, resV, oneV, binA, unA, reduceCtorEq, Nat.reduceEqDiff, Nat.reduceAdd, Nat.reduceLT, Nat.reduceLeDiff, Nat.reduceMul, Nat.reduceSub, ↓reduceIte, decide_true, decide_false, Bool.true_eq_false, Bool.false_eq_true, Bool.not_true, Bool.not_false, if_true, if_false, and_true, true_and, memE, celE, w64, Nat.zero_add, Nat.add_zero, Nat.mul_one, putL, and_self, ldn]
          exact ext_ansV ((Ext.refl m).app nr) (by first | rw [decide_eq_true hL0] | rw [decide_eq_false hL0])
    · have ep : p = false := by rw [hp]; unfold partW; rw [decide_eq_true hx, decide_eq_false (by omega)]; rfl
      rw [ep] at fin ⊢
      by_cases hL0 : (0 : Int) < L
      · cases b with
        | true =>
          simp (config := {implicitDefEqProofs := false, maxDischargeDepth := 20}) (disch := first | omega | (simp only [lenE]; done) | (simp only [lenE]; omega) | rfl | (simp only [lenE, markR_len]; done) | (simp only [lenE, markR_len]; omega)) only [runE, mapE, listE, resV, oneV, binA, unA, reduceCtorEq, Nat.reduceEqDiff, Nat.reduceAdd, Nat.reduceLT, Nat.reduceLeDiff, Nat.reduceMul, Nat.reduceSub, ↓reduceIte, decide_true, decide_false, Bool.true_eq_false, Bool.false_eq_true, Bool.not_true, Bool.not_false, if_true, if_false, and_true, true_and, memE, celE, w64, Nat.zero_add, Nat.add_zero, Nat.mul_one, putL, and_self, ldn, c_spec_l4Now, r_spec_l4Now, initT_5, gt_iff_lt, hx', hu.at_ t (by omega), hu.ld t (by omega), hl, iL, a0, a1, hL0, goG_undef]
          refine callH_rc (fin true (by rw [decide_eq_true hL0]; rfl) rfl) ?_
          rintro r new ⟨rfl, nr⟩
          simp (config := {implicitDefEqProofs := false, maxDischargeDepth := 20}) (disch := first | omega | (simp only [lenE]; done) | (simp only [lenE]; omega) | rfl | (simp only [lenE, markR_len]; done) | (simp only [lenE, markR_len]; omega)) only [runE, mapE, listE, resV, oneV, binA, unA, reduceCtorEq, Nat.reduceEqDiff, Nat.reduceAdd, Nat.reduceLT, Nat.reduceLeDiff, Nat.reduceMul, Nat.reduceSub, ↓reduceIte, decide_true, decide_false, Bool.true_eq_false, Bool.false_eq_true, Bool.not_true, Bool.not_false, if_true, if_false, and_true, true_and, memE, celE, w64, Nat.zero_add, Nat.add_zero, Nat.mul_one, putL, and_self, ldn]
          exact ext_ansV ((Ext.refl m).app nr) (by first | rw [decide_eq_true hL0] | rw [decide_eq_false hL0])
        | false =>
          simp (config := {implicitDefEqProofs := false, maxDischargeDepth := 20}) (disch := first | omega | (simp only [lenE]; done) | (simp only [lenE]; omega) | rfl | (simp only [lenE, markR_len]; done) | (simp only [lenE, markR_len]; omega)) only [runE, mapE, listE, resV, oneV, binA, unA, reduceCtorEq, Nat.reduceEqDiff, Nat.reduceAdd, Nat.reduceLT, Nat.reduceLeDiff, Nat.reduceMul, Nat.reduceSub, ↓reduceIte, decide_true, decide_false, Bool.true_eq_false, Bool.false_eq_true, Bool.not_true, Bool.not_false, if_true, if_false, and_true, true_and, memE, celE, w64, Nat.zero_add, Nat.add_zero, Nat.mul_one, putL, and_self, ldn, c_spec_l4Now, r_spec_l4Now, initT_5, gt_iff_lt, hx', hu.at_ t (by omega), hu.ld t (by omega), hl, iL, a0, a1, hL0, goG_undef]
          refine callH_rc (fin false (by rw [decide_eq_true hL0]; rfl) rfl) ?_
          rintro r new ⟨rfl, nr⟩
          simp (config := {implicitDefEqProofs := false, maxDischargeDepth := 20}) (disch := first | omega | (simp only [lenE]; done) | (simp only [lenE]; omega) | rfl | (simp only [lenE, markR_len]; done) | (simp only [lenE, markR_len]; omega)) only [runE, mapE, listE, resV, oneV, binA, unA, reduceCtorEq, Nat.reduceEqDiff, Nat.reduceAdd, Nat.reduceLT, Nat.reduceLeDiff, Nat.reduceMul, Nat.reduceSub, ↓reduceIte, decide_true, decide_false, Bool.true_eq_false, Bool.false_eq_true, Bool.not_true, Bool.not_false, if_true, if_false, and_true, true_and, memE, celE, w64, Nat.zero_add, Nat.add_zero, Nat.mul_one, putL, and_self, ldn]
          exact ext_ansV ((Ext.refl m).app nr) (by first | rw [decide_eq_true hL0] | rw [decide_eq_false hL0])
      · simp (config := {implicitDefEqProofs := false, maxDischargeDepth := 20}) (disch := first | omega | (simp only [lenE]; done) | (simp only [lenE]; omega) | rfl | (simp only [lenE, markR_len]; done) | (simp only [lenE, markR_len]; omega)) only [runE, mapE, listE, resV, oneV, binA, unA, reduceCtorEq, Nat.reduceEqDiff, Nat.reduceAdd, Nat.reduceLT, Nat.reduceLeDiff, Nat.reduceMul, Nat.reduceSub, ↓reduceIte, decide_true, decide_false, Bool.true_eq_false, Bool.false_eq_true, Bool.not_true, Bool.not_false, if_true, if_false, and_true, true_and, memE, celE, w64, Nat.zero_add, Nat.add_zero, Nat.mul_one, putL, and_self, ldn, c_spec_l4Now, r_spec_l4Now, initT_5, gt_iff_lt, hx', hu.at_ t (by omega), hu.ld t (by omega), hl, iL, a0, a1, hL0, goG_undef]
        refine callH_rc (fin false (by rw [decide_eq_false hL0]; rfl) rfl) ?_
        rintro r new ⟨rfl, nr⟩
        simp (config := {implicitDefEqProofs := false, maxDischargeDepth := 20}) (disch := first | omega | (simp only [lenE]; done) | (simp only [lenE]; omega) | rfl | (simp only [lenE, markR_len]; done) | (simp only [lenE, markR_len]; omega)) only [runE, mapE, listE, resV, oneV, binA, unA, reduceCtorEq, Nat.reduceEqDiff, Nat.reduceAdd, Nat.reduceLT, Nat.reduceLeDiff, Nat.reduceMul, Nat.reduceSub, ↓reduceIte, decide_true, decide_false, Bool.true_eq_false, Bool.false_eq_true, Bool.not_true, Bool.not_false, if_true, if_false, and_true, true_and, memE, celE, w64, Nat.zero_add, Nat.add_zero, Nat.mul_one, putL, and_self, ldn]
        exact ext_ansV ((Ext.refl m).app nr) (by first | rw [decide_eq_true hL0] | rw [decide_eq_false hL0])
  · have hx' : ¬ ((0 : Int) < x) := by omega
    have ep : p = false := by rw [hp]; unfold partW; rw [decide_eq_false hx]; rfl
    rw [ep] at fin ⊢
    by_cases hL0 : (0 : Int) < L
    · cases b with
      | true =>
        simp (config := {implicitDefEqProofs := false, maxDischargeDepth := 20}) (disch := first | omega | (simp only [lenE]; done) | (simp only [lenE]; omega) | rfl | (simp only [lenE, markR_len]; done) | (simp only [lenE, markR_len]; omega)) only [runE, mapE, listE, resV, oneV, binA, unA, reduceCtorEq, Nat.reduceEqDiff, Nat.reduceAdd, Nat.reduceLT, Nat.reduceLeDiff, Nat.reduceMul, Nat.reduceSub, ↓reduceIte, decide_true, decide_false, Bool.true_eq_false, Bool.false_eq_true, Bool.not_true, Bool.not_false, if_true, if_false, and_true, true_and, memE, celE, w64, Nat.zero_add, Nat.add_zero, Nat.mul_one, putL, and_self, ldn, c_spec_l4Now, r_spec_l4Now, initT_5, gt_iff_lt, hx', iL, a0, a1, hL0, goG_undef]
        refine callH_rc (fin true (by rw [decide_eq_true hL0]; rfl) rfl) ?_
        rintro r new ⟨rfl, nr⟩
        simp (config := {implicitDefEqProofs := false, maxDischargeDepth := 20}) (disch := first | omega | (simp only [lenE]; done) | (simp only [lenE]; omega) | rfl | (simp only [lenE, markR_len]; done) | (simp only [lenE, markR_len]; omega)) only [runE, mapE, listE, resV, oneV, binA, unA, reduceCtorEq, Nat.reduceEqDiff, Nat.reduceAdd, Nat.reduceLT, Nat.reduceLeDiff, Nat.reduceMul, Nat.reduceSub, ↓reduceIte, decide_true, decide_false, Bool.true_eq_false, Bool.false_eq_true, Bool.not_true, Bool.not_false, if_true, if_false, and_true, true_and, memE, celE, w64, Nat.zero_add, Nat.add_zero, Nat.mul_one, putL, and_self, ldn]
        exact ext_ansV ((Ext.refl m).app nr) (by first | rw [decide_eq_true hL0] | rw [decide_eq_false hL0])
      | false =>
        simp (config := {implicitDefEqProofs := false, maxDischargeDepth := 20}) (disch := first | omega | (simp only [lenE]; done) | (simp only [lenE]; omega) | rfl | (simp only [lenE, markR_len]; done) | (simp only [lenE, markR_len]; omega)) only [runE, mapE, listE, resV, oneV, binA, unA, reduceCtorEq, Nat.reduceEqDiff, Nat.reduceAdd, Nat.reduceLT, Nat.reduceLeDiff, Nat.reduceMul, Nat.reduceSub, ↓reduceIte, decide_true, decide_false, Bool.true_eq_false, Bool.false_eq_true, Bool.not_true, Bool.not_false, if_true, if_false, and_true, true_and, memE, celE, w64, Nat.zero_add, Nat.add_zero, Nat.mul_one, putL, and_self, ldn, c_spec_l4Now, r_spec_l4Now, initT_5, gt_iff_lt, hx', iL, a0, a1, hL0, goG_undef]
        refine callH_rc (fin false (by rw [decide_eq_true hL0]; rfl) rfl) ?_
        rintro r new ⟨rfl, nr⟩
        simp (config := {implicitDefEqProofs := false, maxDischargeDepth := 20}) (disch := first | omega | (simp only [lenE]; done) | (simp only [lenE]; omega) | rfl | (simp only [lenE, markR_len]; done) | (simp only [lenE, markR_len]; omega)) only [runE, mapE, listE, resV, oneV, binA, unA, reduceCtorEq, Nat.reduceEqDiff, Nat.reduceAdd, Nat.reduceLT, Nat.reduceLeDiff, Nat.reduceMul, Nat.reduceSub, ↓reduceIte, decide_true, decide_false, Bool.true_eq_false, Bool.false_eq_true, Bool.not_true, Bool.not_false, if_true, if_false, and_true, true_and, memE, celE, w64, Nat.zero_add, Nat.add_zero, Nat.mul_one, putL, and_self, ldn]
        exact ext_ansV ((Ext.refl m).app nr) (by first | rw [decide_eq_true hL0] | rw [decide_eq_false hL0])
    · simp (config := {implicitDefEqProofs := false, maxDischargeDepth := 20}) (disch := first | omega | (simp only [lenE]; done) | (simp only [lenE]; omega) | rfl | (simp only [lenE, markR_len]; done) | (simp only [lenE, markR_len]; omega)) only [runE, mapE, listE, resV, oneV, binA, unA, reduceCtorEq, Nat.reduceEqDiff, Nat.reduceAdd, Nat.reduceLT, Nat.reduceLeDiff, Nat.reduceMul, Nat.reduceSub, ↓reduceIte, decide_true, decide_false, Bool.true_eq_false, Bool.false_eq_true, Bool.not_true, Bool.not_false, if_true, if_false, and_true, true_and, memE, celE, w64, Nat.zero_add, Nat.add_zero, Nat.mul_one, putL, and_self, ldn, c_spec_l4Now, r_spec_l4Now, initT_5, gt_iff_lt, hx', iL, a0, a1, hL0, goG_undef]
      refine callH_rc (fin false (by rw [decide_eq_false hL0]; rfl) rfl) ?_
      rintro r new ⟨rfl, nr⟩
      simp (config := {implicitDefEqProofs := false, maxDischargeDepth := 20}) (disch := first | omega | (simp only [lenE]; done) | (simp only [lenE]; omega) | rfl | (simp only [lenE, markR_len]; done) | (simp only [lenE, markR_len]; omega)) only [runE, mapE, listE, resV, oneV, binA, unA, reduceCtorEq, Nat.reduceEqDiff, Nat.reduceAdd, Nat.reduceLT, Nat.reduceLeDiff, Nat.reduceMul, Nat.reduceSub, ↓reduceIte, decide_true, decide_false, Bool.true_eq_false, Bool.false_eq_true, Bool.not_true, Bool.not_false, if_true, if_false, and_true, true_and, memE, celE, w64, Nat.zero_add, Nat.add_zero, Nat.mul_one, putL, and_self, ldn]
      exact ext_ansV ((Ext.refl m).app nr) (by first | rw [decide_eq_true hL0] | rw [decide_eq_false hL0])
end Go.Proofs.Ytiggehfopfpkbaa.Ab
