/- Markets and contracts in memory: the laws' helpers. -/
import Derived.Test.YtdcheilmjooacaaAbPairs
import Derived.Test.YtdcheilmjooacaaMkMath
namespace Go.Proofs.Ytdcheilmjooacaa.Ab
open Go Go.RowKit
set_option linter.unusedVariables false
set_option linter.unusedSimpArgs false

abbrev mkV (s : Mk) (a : Value) : Value := .agg #[a, .int .i64 s.price, .int .i64 s.make, .int .i64 s.left]
abbrev ctV (c : Ct) : Value := .agg #[.int .i64 c.pay, .int .i64 c.back, .int .i64 c.share]
def MkA (m : Mem) (v : Value) (s : Mk) : Prop := ∃ a, v = mkV s a ∧ IntsA m a s.w
theorem MkA.mk {m : Mem} {a : Value} {s : Mk} (h1 : IntsA m a s.w) : MkA m (mkV s a) s := ⟨a, rfl, h1⟩
theorem MkA.ext {m : Mem} {v : Value} {s : Mk} (h : MkA m v s) (new : Mem) : MkA (m ++ new) v s := by
  obtain ⟨a, rfl, h1⟩ := h
  exact ⟨a, rfl, h1.ext new⟩
theorem MkA.ro {m : Mem} {v : Value} {s : Mk} (h : MkA m v s) : MkA (roM m) v s := by
  obtain ⟨a, rfl, h1⟩ := h
  exact ⟨a, rfl, h1.ro⟩
def MkO (s : Mk) (lo hi : Nat) (M : Mem) (v : Value) : Prop := ∃ a, v = mkV s a ∧ IntsO s.w lo hi M a
theorem MkO.in {s : Mk} {lo hi : Nat} {M : Mem} {v : Value} (h : MkO s lo hi M v) : MkA M v s := by
  obtain ⟨a, rfl, h1⟩ := h
  exact ⟨a, rfl, h1.in⟩
theorem szMarket_rc (m : Mem) (v : Value) (s : Mk) (left : Int) (h : MkA m v s) (h0 : 0 ≤ left) (h1 : left ≤ 1048576) :
    RC Try.prog 20 [v, .int .i64 left] m fun r new => NoRo new ∧ ((r = .int .i64 (-1)) ∨ ∃ z : Int, 0 ≤ z ∧ z ≤ left ∧ r = .int .i64 z ∧ s.w.length ≤ 1048576) := by
  refine rc_of_run mixed ok_laws_szMarket (by simp) (go_start _ _ _ ?_)
  obtain ⟨u, rfl, hu⟩ := h.ro
  simp (config := {implicitDefEqProofs := false, maxDischargeDepth := 20}) (disch := first | omega | (simp only [lenE]; done) | (simp only [lenE]; omega) | rfl | (simp only [lenE, markR_len]; done) | (simp only [lenE, markR_len]; omega)) only [runE, mapE, listE, initT_5, initT_6, initT_7, initT_8, resV, oneV, binA, unA, reduceCtorEq, Nat.reduceEqDiff, Nat.reduceAdd, Nat.reduceLT, Nat.reduceLeDiff, Nat.reduceMul, Nat.reduceSub, ↓reduceIte, decide_true, decide_false, Bool.true_eq_false, Bool.false_eq_true, Bool.not_true, Bool.not_false, if_true, if_false, and_true, true_and, memE, celE, w64, Nat.zero_add, Nat.add_zero, Nat.mul_one, putL, and_self, ldn, c_laws_szMarket, r_laws_szMarket]
  refine callH_rc (szIntsO_rc _ u s.w left (hu.ext _) h0 h1) ?_
  rintro r new ⟨hn, rfl | ⟨z, z0, z1, rfl, hl⟩⟩
  · simp (config := {implicitDefEqProofs := false, maxDischargeDepth := 20}) (disch := first | omega | (simp only [lenE]; done) | (simp only [lenE]; omega) | rfl | (simp only [lenE, markR_len]; done) | (simp only [lenE, markR_len]; omega)) only [runE, mapE, listE, initT_5, initT_6, initT_7, initT_8, resV, oneV, binA, unA, reduceCtorEq, Nat.reduceEqDiff, Nat.reduceAdd, Nat.reduceLT, Nat.reduceLeDiff, Nat.reduceMul, Nat.reduceSub, ↓reduceIte, decide_true, decide_false, Bool.true_eq_false, Bool.false_eq_true, Bool.not_true, Bool.not_false, if_true, if_false, and_true, true_and, memE, celE, w64, Nat.zero_add, Nat.add_zero, Nat.mul_one, putL, and_self, ldn, show ((-1 : Int) < 0) = True by simp]
    try simp only [List.append_assoc, List.cons_append, List.nil_append, List.append_nil]
    exact ⟨_, rfl, by (repeat (first | exact noRo_nil | assumption | apply noRo_own | apply noRo_dead | apply noRo_app)), by (repeat (first | exact noRo_nil | assumption | apply noRo_own | apply noRo_dead | apply noRo_app)), .inl rfl⟩
  · have hz : ¬ (z < 0) := by omega
    simp (config := {implicitDefEqProofs := false, maxDischargeDepth := 20}) (disch := first | omega | (simp only [lenE]; done) | (simp only [lenE]; omega) | rfl | (simp only [lenE, markR_len]; done) | (simp only [lenE, markR_len]; omega)) only [runE, mapE, listE, initT_5, initT_6, initT_7, initT_8, resV, oneV, binA, unA, reduceCtorEq, Nat.reduceEqDiff, Nat.reduceAdd, Nat.reduceLT, Nat.reduceLeDiff, Nat.reduceMul, Nat.reduceSub, ↓reduceIte, decide_true, decide_false, Bool.true_eq_false, Bool.false_eq_true, Bool.not_true, Bool.not_false, if_true, if_false, and_true, true_and, memE, celE, w64, Nat.zero_add, Nat.add_zero, Nat.mul_one, putL, and_self, ldn, hz]
    try simp only [List.append_assoc, List.cons_append, List.nil_append, List.append_nil]
    exact ⟨_, rfl, by (repeat (first | exact noRo_nil | assumption | apply noRo_own | apply noRo_dead | apply noRo_app)), by (repeat (first | exact noRo_nil | assumption | apply noRo_own | apply noRo_dead | apply noRo_app)), .inr ⟨z, z0, z1, rfl, hl⟩⟩
theorem toMarket_rc (m : Mem) (v : Value) (s : Mk) (h : MkA m v s) (hl : s.w.length ≤ 1048576) :
    RC Try.prog 22 [v] m (AnsO m (MkO s) id) := by
  refine rc_of_run mixed ok_laws_toMarket (by simp) (go_start _ _ _ ?_)
  obtain ⟨u, rfl, hu⟩ := h.ro
  simp (config := {implicitDefEqProofs := false, maxDischargeDepth := 20}) (disch := first | omega | (simp only [lenE]; done) | (simp only [lenE]; omega) | rfl | (simp only [lenE, markR_len]; done) | (simp only [lenE, markR_len]; omega)) only [runE, mapE, listE, initT_5, initT_6, initT_7, initT_8, resV, oneV, binA, unA, reduceCtorEq, Nat.reduceEqDiff, Nat.reduceAdd, Nat.reduceLT, Nat.reduceLeDiff, Nat.reduceMul, Nat.reduceSub, ↓reduceIte, decide_true, decide_false, Bool.true_eq_false, Bool.false_eq_true, Bool.not_true, Bool.not_false, if_true, if_false, and_true, true_and, memE, celE, w64, Nat.zero_add, Nat.add_zero, Nat.mul_one, putL, and_self, ldn, c_laws_toMarket, r_laws_toMarket]
  refine callH_rc (toIntS_rc _ u s.w (((hu.ext _).ext _).ext _) hl) ?_
  rintro r new ⟨rfl, rfl⟩
  simp (config := {implicitDefEqProofs := false, maxDischargeDepth := 20}) (disch := first | omega | (simp only [lenE]; done) | (simp only [lenE]; omega) | rfl | (simp only [lenE, markR_len]; done) | (simp only [lenE, markR_len]; omega)) only [runE, mapE, listE, initT_5, initT_6, initT_7, initT_8, resV, oneV, binA, unA, reduceCtorEq, Nat.reduceEqDiff, Nat.reduceAdd, Nat.reduceLT, Nat.reduceLeDiff, Nat.reduceMul, Nat.reduceSub, ↓reduceIte, decide_true, decide_false, Bool.true_eq_false, Bool.false_eq_true, Bool.not_true, Bool.not_false, if_true, if_false, and_true, true_and, memE, celE, w64, Nat.zero_add, Nat.add_zero, Nat.mul_one, putL, and_self, ldn]
  refine ext_ansO (f := _root_.id) ((((((Ext.refl m).one _ _).one _ _).one _ _).one _ _)) fun M' hM => ⟨_, rfl, hl, _, 1, rfl, by omega, ?_, ?_⟩
  · simp [roM_len]
  · refine OwnR.at_ (OwnR.here _ _ _ ?_) (hM _ (by omega) (by simp [roM_len]))
    simp [roM_len]
theorem eqMarket_rc (m : Mem) (v u : Value) (s : Mk) (h : MkA m v s) (h' : MkA m u s) : RC Try.prog 24 [v, u] m (AnsV (.bool true)) := by
  refine rc_of_run mixed ok_laws_eqMarket (by simp) (go_start _ _ _ ?_)
  obtain ⟨x, rfl, hx⟩ := h.ro
  obtain ⟨y, rfl, hy⟩ := h'.ro
  simp (config := {implicitDefEqProofs := false, maxDischargeDepth := 20}) (disch := first | omega | (simp only [lenE]; done) | (simp only [lenE]; omega) | rfl | (simp only [lenE, markR_len]; done) | (simp only [lenE, markR_len]; omega)) only [runE, mapE, listE, initT_5, initT_6, initT_7, initT_8, resV, oneV, binA, unA, reduceCtorEq, Nat.reduceEqDiff, Nat.reduceAdd, Nat.reduceLT, Nat.reduceLeDiff, Nat.reduceMul, Nat.reduceSub, ↓reduceIte, decide_true, decide_false, Bool.true_eq_false, Bool.false_eq_true, Bool.not_true, Bool.not_false, if_true, if_false, and_true, true_and, memE, celE, w64, Nat.zero_add, Nat.add_zero, Nat.mul_one, putL, and_self, ldn, c_laws_eqMarket, r_laws_eqMarket, bne_self_eq_false]
  refine callH_rc (eqIntS_rc _ x y s.w ((hx.ext _).ext _) ((hy.ext _).ext _)) ?_
  rintro r new ⟨rfl, rfl⟩
  simp (config := {implicitDefEqProofs := false, maxDischargeDepth := 20}) (disch := first | omega | (simp only [lenE]; done) | (simp only [lenE]; omega) | rfl | (simp only [lenE, markR_len]; done) | (simp only [lenE, markR_len]; omega)) only [runE, mapE, listE, initT_5, initT_6, initT_7, initT_8, resV, oneV, binA, unA, reduceCtorEq, Nat.reduceEqDiff, Nat.reduceAdd, Nat.reduceLT, Nat.reduceLeDiff, Nat.reduceMul, Nat.reduceSub, ↓reduceIte, decide_true, decide_false, Bool.true_eq_false, Bool.false_eq_true, Bool.not_true, Bool.not_false, if_true, if_false, and_true, true_and, memE, celE, w64, Nat.zero_add, Nat.add_zero, Nat.mul_one, putL, and_self, ldn, bne_self_eq_false]
  try simp only [List.append_assoc, List.cons_append, List.nil_append, List.append_nil]
  exact ⟨_, rfl, by (repeat (first | exact noRo_nil | assumption | apply noRo_own | apply noRo_dead | apply noRo_app)), rfl, by (repeat (first | exact noRo_nil | assumption | apply noRo_own | apply noRo_dead | apply noRo_app))⟩
theorem markMarket_ac (m : Mem) (lo hi : Nat) (v : Value) (s : Mk) (k0 : Int) (h : Lv lo hi m fun M => MkO s lo hi M v) (h0 : 0 ≤ k0) (h1 : k0 ≤ 68719476736) :
    AC Try.prog 39 [v, .int .i64 k0] m fun r m' => r = .int .i64 (k0 + s.w.length) ∧ But lo hi m m' := by
  refine ac_of_run mixed ok_laws_markMarket (by simp) (go_start _ _ _ ?_)
  obtain ⟨u, rfl, hu⟩ := h.now
  simp (config := {implicitDefEqProofs := false, maxDischargeDepth := 20}) (disch := first | omega | (simp only [lenE]; done) | (simp only [lenE]; omega) | rfl | (simp only [lenE, markR_len]; done) | (simp only [lenE, markR_len]; omega)) only [runE, mapE, listE, initT_5, initT_6, initT_7, initT_8, resV, oneV, binA, unA, reduceCtorEq, Nat.reduceEqDiff, Nat.reduceAdd, Nat.reduceLT, Nat.reduceLeDiff, Nat.reduceMul, Nat.reduceSub, ↓reduceIte, decide_true, decide_false, Bool.true_eq_false, Bool.false_eq_true, Bool.not_true, Bool.not_false, if_true, if_false, and_true, true_and, memE, celE, w64, Nat.zero_add, Nat.add_zero, Nat.mul_one, putL, and_self, ldn, c_laws_markMarket, r_laws_markMarket]
  refine callH_ac (markIntsO_ac _ lo hi u s.w k0 ((hu.lv h.2.1).ext _) h0 h1) ?_
  rintro r m' ⟨rfl, hb, _⟩
  simp (config := {implicitDefEqProofs := false, maxDischargeDepth := 20}) (disch := first | omega | (simp only [lenE]; done) | (simp only [lenE]; omega) | rfl | (simp only [lenE, markR_len]; done) | (simp only [lenE, markR_len]; omega)) only [runE, mapE, listE, initT_5, initT_6, initT_7, initT_8, resV, oneV, binA, unA, reduceCtorEq, Nat.reduceEqDiff, Nat.reduceAdd, Nat.reduceLT, Nat.reduceLeDiff, Nat.reduceMul, Nat.reduceSub, ↓reduceIte, decide_true, decide_false, Bool.true_eq_false, Bool.false_eq_true, Bool.not_true, Bool.not_false, if_true, if_false, and_true, true_and, memE, celE, w64, Nat.zero_add, Nat.add_zero, Nat.mul_one, putL, and_self, ldn]
  exact hb.base
/-! Contracts. -/
theorem toContract_rc (m : Mem) (c : Ct) : RC Try.prog 26 [ctV c] m (AnsV (ctV c)) := by
  refine rc_of_run mixed ok_laws_toContract (by simp) (go_start _ _ _ ?_)
  simp (config := {implicitDefEqProofs := false, maxDischargeDepth := 20}) (disch := first | omega | (simp only [lenE]; done) | (simp only [lenE]; omega) | rfl | (simp only [lenE, markR_len]; done) | (simp only [lenE, markR_len]; omega)) only [runE, mapE, listE, initT_5, initT_6, initT_7, initT_8, resV, oneV, binA, unA, reduceCtorEq, Nat.reduceEqDiff, Nat.reduceAdd, Nat.reduceLT, Nat.reduceLeDiff, Nat.reduceMul, Nat.reduceSub, ↓reduceIte, decide_true, decide_false, Bool.true_eq_false, Bool.false_eq_true, Bool.not_true, Bool.not_false, if_true, if_false, and_true, true_and, memE, celE, w64, Nat.zero_add, Nat.add_zero, Nat.mul_one, putL, and_self, ldn, c_laws_toContract, r_laws_toContract, ctV]
  try simp only [List.append_assoc, List.cons_append, List.nil_append, List.append_nil]
  exact ⟨_, rfl, by (repeat (first | exact noRo_nil | assumption | apply noRo_own | apply noRo_dead | apply noRo_app)), rfl, by (repeat (first | exact noRo_nil | assumption | apply noRo_own | apply noRo_dead | apply noRo_app))⟩
theorem eqContract_rc (m : Mem) (c : Ct) : RC Try.prog 102 [ctV c, ctV c] m (AnsV (.bool true)) := by
  refine rc_of_run mixed ok_laws_eqContract (by simp) (go_start _ _ _ ?_)
  simp (config := {implicitDefEqProofs := false, maxDischargeDepth := 20}) (disch := first | omega | (simp only [lenE]; done) | (simp only [lenE]; omega) | rfl | (simp only [lenE, markR_len]; done) | (simp only [lenE, markR_len]; omega)) only [runE, mapE, listE, initT_5, initT_6, initT_7, initT_8, resV, oneV, binA, unA, reduceCtorEq, Nat.reduceEqDiff, Nat.reduceAdd, Nat.reduceLT, Nat.reduceLeDiff, Nat.reduceMul, Nat.reduceSub, ↓reduceIte, decide_true, decide_false, Bool.true_eq_false, Bool.false_eq_true, Bool.not_true, Bool.not_false, if_true, if_false, and_true, true_and, memE, celE, w64, Nat.zero_add, Nat.add_zero, Nat.mul_one, putL, and_self, ldn, c_laws_eqContract, r_laws_eqContract, ctV, bne_self_eq_false]
  try simp only [List.append_assoc, List.cons_append, List.nil_append, List.append_nil]
  exact ⟨_, rfl, by (repeat (first | exact noRo_nil | assumption | apply noRo_own | apply noRo_dead | apply noRo_app)), rfl, by (repeat (first | exact noRo_nil | assumption | apply noRo_own | apply noRo_dead | apply noRo_app))⟩
def Ct0 : Ct := ⟨0, 0, 0⟩
def ctC (x : Ct) : List Value := [.int .i64 x.pay, .int .i64 x.back, .int .i64 x.share]
def ctsC (L : List Ct) : List Value := (L.map ctC).flatten
theorem ctsC_len (L : List Ct) : (ctsC L).length = L.length * 3 := by
  induction L with
  | nil => rfl
  | cons p L ih => simp only [ctsC, List.map_cons, List.flatten_cons, List.length_append, List.length_cons] at ih ⊢; rw [ih]; simp [ctC]; omega
theorem ctsC_app (L K : List Ct) : ctsC (L ++ K) = ctsC L ++ ctsC K := by simp [ctsC]
theorem ctsC_at : ∀ (L : List Ct) (k i : Nat), k < L.length → i < 3 → (ctsC L)[k * 3 + i]? = (ctC (L.getD k Ct0))[i]?
  | p :: L, 0, i, _, hi => by
    simp only [ctsC, List.map_cons, List.flatten_cons, Nat.zero_mul, Nat.zero_add, List.getD_cons_zero]
    rw [List.getElem?_append_left (by simp [ctC]; omega)]
  | p :: L, k + 1, i, h, hi => by
    have ih := ctsC_at L k i (by simpa using h) hi
    simp only [ctsC, List.map_cons, List.flatten_cons, List.getD_cons_succ] at ih ⊢
    rw [List.getElem?_append_right (by simp [ctC]; omega), ← ih]
    congr 1
    simp [ctC]; omega
  | [], k, i, h, _ => absurd h (by simp)
theorem ctsC_ext {L : List Ct} {cs : List Value} (hl : cs.length = L.length * 3) (h : ∀ k i, k < L.length → i < 3 → cs[k * 3 + i]? = (ctC (L.getD k Ct0))[i]?) : cs = ctsC L := by
  apply List.ext_getElem?
  intro i
  by_cases hi : i < L.length * 3
  · have p := ctsC_at L (i / 3) (i % 3) (by omega) (by omega)
    have q := h (i / 3) (i % 3) (by omega) (by omega)
    have ei : i / 3 * 3 + i % 3 = i := by omega
    rw [ei] at p q
    rw [p, q]
  · rw [List.getElem?_eq_none (by omega), List.getElem?_eq_none (by rw [ctsC_len]; omega)]
theorem onesB_cts (L : List Ct) : onesB (ctsC L) = true := by
  unfold onesB
  rw [List.all_eq_true]
  intro x hx
  simp only [ctsC, List.mem_flatten, List.mem_map] at hx
  obtain ⟨l, ⟨c, _, rfl⟩, hx⟩ := hx
  simp only [ctC, List.mem_cons, List.not_mem_nil, or_false] at hx
  rcases hx with rfl | rfl | rfl <;> rfl
/-- Contracts, to be read. -/
def CtsA (m : Mem) (v : Value) (L : List Ct) : Prop :=
  L.length ≤ 9223372036854775807 ∧ ∃ id fl, v = .slice (some ⟨id, 0, none⟩) L.length fl ∧ ∀ k i, k < L.length → i < 3 → rdc m id (k * 3 + i) = (ctC (L.getD k Ct0))[i]?
theorem ctC_some (x : Ct) {i : Nat} (h : i < 3) : ∃ v, (ctC x)[i]? = some v := ⟨_, List.getElem?_eq_getElem (by simp [ctC]; omega)⟩
theorem CtsA.ext {m : Mem} {v : Value} {L : List Ct} (h : CtsA m v L) (new : Mem) : CtsA (m ++ new) v L := by
  obtain ⟨hb, id, fl, rfl, hc⟩ := h
  refine ⟨hb, id, fl, rfl, fun k i hk hi => ?_⟩
  obtain ⟨u, hu⟩ := ctC_some (L.getD k Ct0) hi
  have := hc k i hk hi
  rw [hu] at this ⊢
  exact rdc_ext this
theorem CtsA.ro {m : Mem} {v : Value} {L : List Ct} (h : CtsA m v L) : CtsA (roM m) v L := by
  obtain ⟨hb, id, fl, rfl, hc⟩ := h
  exact ⟨hb, id, fl, rfl, fun k i hk hi => by rw [rdc_roM]; exact hc k i hk hi⟩
theorem CtsA.len {m : Mem} {v : Value} {L : List Ct} (h : CtsA m v L) : lenA v = some (.int .i64 L.length) := by
  obtain ⟨hb, id, fl, rfl, hc⟩ := h; rfl
/-- The place of a contract. -/
def pCt (v : Value) (k : Nat) : Value := match v with
  | .slice (some ⟨id, _, _⟩) _ _ => .pointer (some ⟨id, k * 3, none⟩)
  | _ => undef
theorem CtsA.at_ {m : Mem} {v : Value} {L : List Ct} (h : CtsA m v L) {k : Nat} (hk : k < L.length) : iadA 3 v (.int .i64 (k : Int)) = some (pCt v k) := by
  obtain ⟨hb, id, fl, rfl, hc⟩ := h
  simp only [pCt]
  rw [iadA_in hk]
  simp
theorem CtsA.ld {m : Mem} {v : Value} {L : List Ct} (h : CtsA m v L) {k : Nat} (hk : k < L.length) : ldA m (some 3) (pCt v k) = some (ctV (L.getD k Ct0)) := by
  obtain ⟨hb, id, fl, rfl, hc⟩ := h
  have r0 := hc k 0 hk (by decide)
  have r1 := hc k 1 hk (by decide)
  have r2 := hc k 2 hk (by decide)
  simp only [ctC, List.getElem?_cons_zero, List.getElem?_cons_succ, Nat.add_zero] at r0 r1 r2
  simp only [pCt, ldA, rdn, r0, r1, r2, ctV]
theorem CtsA.fld {m : Mem} {v : Value} {L : List Ct} (h : CtsA m v L) {k : Nat} (hk : k < L.length) (i : Nat) (hi : i < 3) : ∃ p, fadA i (pCt v k) = some p ∧ ldA m none p = (ctC (L.getD k Ct0))[i]? := by
  obtain ⟨hb, id, fl, rfl, hc⟩ := h
  exact ⟨_, rfl, by simpa [ldA] using hc k i hk hi⟩
def CtsO (e : TypeId) (L : List Ct) (lo hi : Nat) (M : Mem) (v : Value) : Prop :=
  L.length ≤ 1048576 ∧ ∃ id fl, v = .slice (some ⟨id, 0, none⟩) L.length fl ∧ lo ≤ id ∧ id < hi ∧ OwnB M id e (ctsC L)
theorem CtsO.in {e : TypeId} {L : List Ct} {lo hi : Nat} {M : Mem} {v : Value} (h : CtsO e L lo hi M v) : CtsA M v L := by
  obtain ⟨hl, id, fl, rfl, _, _, ho⟩ := h
  exact ⟨by omega, id, fl, rfl, fun k i hk hi => by rw [ho.rd]; exact ctsC_at L k i hk hi⟩
theorem CtsO.lv {e : TypeId} {L : List Ct} {lo hi : Nat} {m : Mem} {v : Value} (h : CtsO e L lo hi m v) (h1 : hi ≤ m.length) : Lv lo hi m fun M => CtsO e L lo hi M v := by
  obtain ⟨hl, id, fl, rfl, a, b, ho⟩ := h
  exact ⟨by omega, h1, fun m' h' => ⟨hl, id, fl, rfl, a, b, ho.at_ (h' id a b)⟩⟩
theorem eqContractS_rc (m : Mem) (v u : Value) (L : List Ct) (h : CtsA m v L) (h' : CtsA m u L) : RC Try.prog 65 [v, u] m (AnsV (.bool true)) := by
  refine rc_of_run mixed ok_laws_eqContractS (by simp) (go_start _ _ _ ?_)
  have hA := h.ro
  have hB := h'.ro
  have l1 := hA.len
  have l2 := hB.len
  simp (config := {implicitDefEqProofs := false, maxDischargeDepth := 20}) (disch := first | omega | (simp only [lenE]; done) | (simp only [lenE]; omega) | rfl | (simp only [lenE, markR_len]; done) | (simp only [lenE, markR_len]; omega)) only [runE, mapE, listE, initT_5, initT_6, initT_7, initT_8, resV, oneV, binA, unA, reduceCtorEq, Nat.reduceEqDiff, Nat.reduceAdd, Nat.reduceLT, Nat.reduceLeDiff, Nat.reduceMul, Nat.reduceSub, ↓reduceIte, decide_true, decide_false, Bool.true_eq_false, Bool.false_eq_true, Bool.not_true, Bool.not_false, if_true, if_false, and_true, true_and, memE, celE, w64, Nat.zero_add, Nat.add_zero, Nat.mul_one, putL, and_self, ldn, c_laws_eqContractS, r_laws_eqContractS, bne_self_eq_false, l1, l2]
  refine loop_inv mixed (fun s => ∃ (k : Nat) (M : Mem), k ≤ L.length ∧ s.m = M ∧ Ext m M ∧ s.t 0 = v ∧ s.t 1 = u ∧ s.t 5 = .int .i64 k) (fun s => L.length - (intOf (s.t 5)).toNat)
    ⟨0, _, by omega, rfl, Ext.refl m, rfl, rfl, rfl⟩ ?_
  rintro s ⟨k, M, hk, tm, hx, t0, t1, t5⟩
  have hM : CtsA M v L := by
    obtain ⟨new, rfl, _⟩ := hx
    exact hA.ext new
  have hN : CtsA M u L := by
    obtain ⟨new, rfl, _⟩ := hx
    exact hB.ext new
  have l1 := hM.len
  have hbd := hM.1
  by_cases hlt : k < L.length
  · have hlt' : (k : Int) < L.length := by omega
    have i1 := hM.at_ hlt
    have i2 := hM.ld hlt
    have i3 := hN.at_ hlt
    have i4 := hN.ld hlt
    simp (config := {implicitDefEqProofs := false, maxDischargeDepth := 20}) (disch := first | omega | (simp only [lenE]; done) | (simp only [lenE]; omega) | rfl | (simp only [lenE, markR_len]; done) | (simp only [lenE, markR_len]; omega)) only [runE, mapE, listE, initT_5, initT_6, initT_7, initT_8, resV, oneV, binA, unA, reduceCtorEq, Nat.reduceEqDiff, Nat.reduceAdd, Nat.reduceLT, Nat.reduceLeDiff, Nat.reduceMul, Nat.reduceSub, ↓reduceIte, decide_true, decide_false, Bool.true_eq_false, Bool.false_eq_true, Bool.not_true, Bool.not_false, if_true, if_false, and_true, true_and, memE, celE, w64, Nat.zero_add, Nat.add_zero, Nat.mul_one, putL, and_self, ldn, tm, t0, t1, t5, l1, hlt', i1, i2, i3, i4]
    refine rcallH_rc (eqContract_rc _ _) ?_
    rintro r new ⟨rfl, hn⟩
    simp (config := {implicitDefEqProofs := false, maxDischargeDepth := 20}) (disch := first | omega | (simp only [lenE]; done) | (simp only [lenE]; omega) | rfl | (simp only [lenE, markR_len]; done) | (simp only [lenE, markR_len]; omega)) only [runE, mapE, listE, initT_5, initT_6, initT_7, initT_8, resV, oneV, binA, unA, reduceCtorEq, Nat.reduceEqDiff, Nat.reduceAdd, Nat.reduceLT, Nat.reduceLeDiff, Nat.reduceMul, Nat.reduceSub, ↓reduceIte, decide_true, decide_false, Bool.true_eq_false, Bool.false_eq_true, Bool.not_true, Bool.not_false, if_true, if_false, and_true, true_and, memE, celE, w64, Nat.zero_add, Nat.add_zero, Nat.mul_one, putL, and_self, ldn, tm, t0, t1, t5]
    refine ⟨⟨k + 1, _, by omega, rfl, hx.app hn, by simp⟩, ?_⟩
    simp [intOf]; omega
  · have hlt' : ¬ ((k : Int) < L.length) := by omega
    simp (config := {implicitDefEqProofs := false, maxDischargeDepth := 20}) (disch := first | omega | (simp only [lenE]; done) | (simp only [lenE]; omega) | rfl | (simp only [lenE, markR_len]; done) | (simp only [lenE, markR_len]; omega)) only [runE, mapE, listE, initT_5, initT_6, initT_7, initT_8, resV, oneV, binA, unA, reduceCtorEq, Nat.reduceEqDiff, Nat.reduceAdd, Nat.reduceLT, Nat.reduceLeDiff, Nat.reduceMul, Nat.reduceSub, ↓reduceIte, decide_true, decide_false, Bool.true_eq_false, Bool.false_eq_true, Bool.not_true, Bool.not_false, if_true, if_false, and_true, true_and, memE, celE, w64, Nat.zero_add, Nat.add_zero, Nat.mul_one, putL, and_self, ldn, tm, t0, t1, t5, l1, hlt']
    exact ext_ansV hx rfl
/-- The marks of contracts. -/
def kmarks (k0 : Int) (n : Nat) : List Ct := (List.range n).map fun (j : Nat) => ⟨k0 + 3 * (j : Int), k0 + 3 * (j : Int) + 1, k0 + 3 * (j : Int) + 2⟩
theorem kmarks_len (k0 : Int) (n : Nat) : (kmarks k0 n).length = n := by simp [kmarks]
theorem kmarks_at {k0 : Int} {n j : Nat} (h : j < n) : (kmarks k0 n).getD j Ct0 = ⟨k0 + 3 * (j : Int), k0 + 3 * (j : Int) + 1, k0 + 3 * (j : Int) + 2⟩ := by simp [kmarks, List.getD_eq_getElem?_getD, h]
theorem own_s1 {M : Mem} {id : Nat} {e : TypeId} {cs : List Value} {lo hi : Nat} {m : Mem} (h : OwnB M id e cs) (hb : But lo hi m M) (a : lo ≤ id) (b : id < hi) (off : Nat) (x : Int) (ho : off < cs.length) :
    ∃ M', stA M id off [.int .i64 x] = some M' ∧ OwnB M' id e (cs.set off (.int .i64 x)) ∧ But lo hi m M' :=
  ⟨_, h.st (by simp; omega) rfl, h.set_self _ _, hb.set a b _⟩
theorem set3_at {cs : List Value} {k j i : Nat} {x y z : Value} (h : k * 3 + 2 < cs.length) (hi : i < 3) : (((cs.set (k * 3) x).set (k * 3 + 1) y).set (k * 3 + 2) z)[j * 3 + i]? = if j = k then [x, y, z][i]? else cs[j * 3 + i]? := by
  by_cases e : j = k
  · subst e
    rw [if_pos rfl]
    have : i = 0 ∨ i = 1 ∨ i = 2 := by omega
    rcases this with rfl | rfl | rfl
    · rw [List.getElem?_set_ne (by omega), List.getElem?_set_ne (by omega), Nat.add_zero, List.getElem?_set_self (by omega)]; rfl
    · rw [List.getElem?_set_ne (by omega), List.getElem?_set_self (by rw [List.length_set]; omega)]; rfl
    · rw [List.getElem?_set_self (by rw [List.length_set, List.length_set]; omega)]; rfl
  · rw [if_neg e, List.getElem?_set_ne (by omega), List.getElem?_set_ne (by omega), List.getElem?_set_ne (by omega)]
theorem markContractS_ac (m : Mem) (lo hi : Nat) (v : Value) (L : List Ct) (k0 : Int) (h : Lv lo hi m fun M => CtsO 34 L lo hi M v) (h0 : 0 ≤ k0) (h1 : k0 ≤ 68719476736) :
    AC Try.prog 66 [v, .int .i64 k0] m fun r m' => r = .int .i64 (k0 + 3 * L.length) ∧ But lo hi m m' ∧ Lv lo hi m' fun M => CtsO 34 (kmarks k0 L.length) lo hi M v := by
  refine ac_of_run mixed ok_laws_markContractS (by simp) (go_start _ _ _ ?_)
  obtain ⟨hl, id, fl, rfl, a, b, ho⟩ := h.now
  simp (config := {implicitDefEqProofs := false, maxDischargeDepth := 20}) (disch := first | omega | (simp only [lenE]; done) | (simp only [lenE]; omega) | rfl | (simp only [lenE, markR_len]; done) | (simp only [lenE, markR_len]; omega)) only [runE, mapE, listE, initT_5, initT_6, initT_7, initT_8, resV, oneV, binA, unA, reduceCtorEq, Nat.reduceEqDiff, Nat.reduceAdd, Nat.reduceLT, Nat.reduceLeDiff, Nat.reduceMul, Nat.reduceSub, ↓reduceIte, decide_true, decide_false, Bool.true_eq_false, Bool.false_eq_true, Bool.not_true, Bool.not_false, if_true, if_false, and_true, true_and, memE, celE, w64, Nat.zero_add, Nat.add_zero, Nat.mul_one, putL, and_self, ldn, c_laws_markContractS, r_laws_markContractS]
  refine loop_inv mixed (fun s => ∃ (k : Nat) (M : Mem) (cs : List Value), k ≤ L.length ∧ s.m = M ∧ But lo hi m M ∧ OwnB M id 34 cs ∧ cs.length = L.length * 3 ∧ (∀ j i, j < k → i < 3 → cs[j * 3 + i]? = (ctC ⟨k0 + 3 * (j : Int), k0 + 3 * (j : Int) + 1, k0 + 3 * (j : Int) + 2⟩)[i]?) ∧
      s.t 0 = .slice (some ⟨id, 0, none⟩) L.length fl ∧ s.t 1 = .int .i64 (k0 + 3 * (k : Int)) ∧ s.t 5 = .int .i64 k) (fun s => L.length - (intOf (s.t 5)).toNat)
    ⟨0, _, ctsC L, by omega, rfl, But.refl _ _ _, ho, ctsC_len L, fun j i hj => absurd hj (by omega), rfl, by simp only [put_t, put_t', put_m, putT_t, putT_t', putT_m, init_t, init_m, initT_0, initT_1, initT_2, initT_3, initT_4, initT_5, initT_6, initT_7, initT_8, Nat.reduceEqDiff, ↓reduceIte]; simp, rfl⟩ ?_
  rintro s ⟨k, M, cs, hk, tm, hb, hoM, hcl, hpre, t0, t1, t5⟩
  by_cases hlt : k < L.length
  · have hlt' : (k : Int) < L.length := by omega
    obtain ⟨M1, s1, o1, b1⟩ := own_s1 hoM hb a b (k * 3) (k0 + 3 * (k : Int)) (by omega)
    obtain ⟨M2, s2, o2, b2⟩ := own_s1 o1 b1 a b (k * 3 + 1) (k0 + 3 * (k : Int) + 1) (by rw [List.length_set]; omega)
    obtain ⟨M3, s3, o3, b3⟩ := own_s1 o2 b2 a b (k * 3 + 2) (k0 + 3 * (k : Int) + 1 + 1) (by rw [List.length_set, List.length_set]; omega)
    simp (config := {implicitDefEqProofs := false, maxDischargeDepth := 20}) (disch := first | omega | (simp only [lenE]; done) | (simp only [lenE]; omega) | rfl | (simp only [lenE, markR_len]; done) | (simp only [lenE, markR_len]; omega)) only [runE, mapE, listE, initT_5, initT_6, initT_7, initT_8, resV, oneV, binA, unA, reduceCtorEq, Nat.reduceEqDiff, Nat.reduceAdd, Nat.reduceLT, Nat.reduceLeDiff, Nat.reduceMul, Nat.reduceSub, ↓reduceIte, decide_true, decide_false, Bool.true_eq_false, Bool.false_eq_true, Bool.not_true, Bool.not_false, if_true, if_false, and_true, true_and, memE, celE, w64, Nat.zero_add, Nat.add_zero, Nat.mul_one, putL, and_self, ldn, tm, t0, t1, t5, hlt', iadA_in hlt, s1, s2, s3]
    refine ⟨⟨k + 1, M3, _, by omega, rfl, b3, o3, ?_, fun j i hj hi => ?_, ?_, by simp⟩, ?_⟩
    · simp only [List.length_set]; exact hcl
    · rw [set3_at (by omega) hi]
      by_cases e : j = k
      · subst e
        rw [if_pos rfl, Int.add_assoc (k0 + 3 * (j : Int)) 1 1]; rfl
      · rw [if_neg e]; exact hpre j i (by omega) hi
    · congr 1; push_cast; omega
    · simp [intOf]; omega
  · have hlt' : ¬ ((k : Int) < L.length) := by omega
    have e : k = L.length := by omega
    simp (config := {implicitDefEqProofs := false, maxDischargeDepth := 20}) (disch := first | omega | (simp only [lenE]; done) | (simp only [lenE]; omega) | rfl | (simp only [lenE, markR_len]; done) | (simp only [lenE, markR_len]; omega)) only [runE, mapE, listE, initT_5, initT_6, initT_7, initT_8, resV, oneV, binA, unA, reduceCtorEq, Nat.reduceEqDiff, Nat.reduceAdd, Nat.reduceLT, Nat.reduceLeDiff, Nat.reduceMul, Nat.reduceSub, ↓reduceIte, decide_true, decide_false, Bool.true_eq_false, Bool.false_eq_true, Bool.not_true, Bool.not_false, if_true, if_false, and_true, true_and, memE, celE, w64, Nat.zero_add, Nat.add_zero, Nat.mul_one, putL, and_self, ldn, tm, t0, t1, t5, hlt']
    subst e
    have hcs : cs = ctsC (kmarks k0 L.length) := ctsC_ext (by rw [kmarks_len]; exact hcl) fun j i hj hi => by
      rw [kmarks_len] at hj
      rw [kmarks_at hj]
      exact hpre j i hj hi
    subst hcs
    exact ⟨rfl, hb, CtsO.lv ⟨by rw [kmarks_len]; exact hl, id, fl, by rw [kmarks_len], a, b, hoM⟩ (by have := hb.1; have := h.2.1; omega)⟩
theorem heldContractS_rc (m : Mem) (v : Value) (k0 : Int) (n : Nat) (h : CtsA m v (kmarks k0 n)) (h0 : 0 ≤ k0) (h1 : k0 ≤ 68719476736) (hn : n ≤ 1048576) :
    RC Try.prog 67 [v, .int .i64 k0] m fun r new => r = .int .i64 (k0 + 3 * n) ∧ NoRo new := by
  refine rc_of_run mixed ok_laws_heldContractS (by simp) (go_start _ _ _ ?_)
  obtain ⟨hb, id, fl, rfl, hc⟩ := h.ro
  rw [kmarks_len] at hc
  rw [kmarks_len]
  simp (config := {implicitDefEqProofs := false, maxDischargeDepth := 20}) (disch := first | omega | (simp only [lenE]; done) | (simp only [lenE]; omega) | rfl | (simp only [lenE, markR_len]; done) | (simp only [lenE, markR_len]; omega)) only [runE, mapE, listE, initT_5, initT_6, initT_7, initT_8, resV, oneV, binA, unA, reduceCtorEq, Nat.reduceEqDiff, Nat.reduceAdd, Nat.reduceLT, Nat.reduceLeDiff, Nat.reduceMul, Nat.reduceSub, ↓reduceIte, decide_true, decide_false, Bool.true_eq_false, Bool.false_eq_true, Bool.not_true, Bool.not_false, if_true, if_false, and_true, true_and, memE, celE, w64, Nat.zero_add, Nat.add_zero, Nat.mul_one, putL, and_self, ldn, c_laws_heldContractS, r_laws_heldContractS]
  refine loop_inv mixed (fun s => ∃ (k : Nat), k ≤ n ∧ s.m = roM m ∧ s.t 0 = .slice (some ⟨id, 0, none⟩) n fl ∧ s.t 1 = .int .i64 (k0 + 3 * (k : Int)) ∧ s.t 5 = .int .i64 k) (fun s => n - (intOf (s.t 5)).toNat)
    ⟨0, by omega, rfl, rfl, by simp only [put_t, put_t', put_m, putT_t, putT_t', putT_m, init_t, init_m, initT_0, initT_1, initT_2, initT_3, initT_4, initT_5, initT_6, initT_7, initT_8, Nat.reduceEqDiff, ↓reduceIte]; simp, rfl⟩ ?_
  rintro s ⟨k, hk, tm, t0, t1, t5⟩
  by_cases hlt : k < n
  · have hlt' : (k : Int) < n := by omega
    have r0 := hc k 0 hlt (by decide)
    have r1 := hc k 1 hlt (by decide)
    have r2 := hc k 2 hlt (by decide)
    rw [kmarks_at hlt] at r0 r1 r2
    simp only [ctC, List.getElem?_cons_zero, List.getElem?_cons_succ, Nat.add_zero] at r0 r1 r2
    have e2 : k0 + 3 * (k : Int) + 1 + 1 = k0 + 3 * (k : Int) + 2 := by omega
    simp (config := {implicitDefEqProofs := false, maxDischargeDepth := 20}) (disch := first | omega | (simp only [lenE]; done) | (simp only [lenE]; omega) | rfl | (simp only [lenE, markR_len]; done) | (simp only [lenE, markR_len]; omega)) only [runE, mapE, listE, initT_5, initT_6, initT_7, initT_8, resV, oneV, binA, unA, reduceCtorEq, Nat.reduceEqDiff, Nat.reduceAdd, Nat.reduceLT, Nat.reduceLeDiff, Nat.reduceMul, Nat.reduceSub, ↓reduceIte, decide_true, decide_false, Bool.true_eq_false, Bool.false_eq_true, Bool.not_true, Bool.not_false, if_true, if_false, and_true, true_and, memE, celE, w64, Nat.zero_add, Nat.add_zero, Nat.mul_one, putL, and_self, ldn, tm, t0, t1, t5, hlt', iadA_in hlt, r0, r1, r2, e2, bne_self_eq_false]
    refine ⟨⟨k + 1, by omega, by congr 1; push_cast; omega, by simp⟩, ?_⟩
    simp [intOf]; omega
  · have hlt' : ¬ ((k : Int) < n) := by omega
    have e : k = n := by omega
    simp (config := {implicitDefEqProofs := false, maxDischargeDepth := 20}) (disch := first | omega | (simp only [lenE]; done) | (simp only [lenE]; omega) | rfl | (simp only [lenE, markR_len]; done) | (simp only [lenE, markR_len]; omega)) only [runE, mapE, listE, initT_5, initT_6, initT_7, initT_8, resV, oneV, binA, unA, reduceCtorEq, Nat.reduceEqDiff, Nat.reduceAdd, Nat.reduceLT, Nat.reduceLeDiff, Nat.reduceMul, Nat.reduceSub, ↓reduceIte, decide_true, decide_false, Bool.true_eq_false, Bool.false_eq_true, Bool.not_true, Bool.not_false, if_true, if_false, and_true, true_and, memE, celE, w64, Nat.zero_add, Nat.add_zero, Nat.mul_one, putL, and_self, ldn, tm, t0, t1, t5, hlt']
    exact newQ_nil ⟨by rw [e], noRo_nil⟩
end Go.Proofs.Ytdcheilmjooacaa.Ab
