/- Parcels in memory: lists of them as arguments and as objects, the laws' helpers. -/
import Derived.Test.YtnkbjliidenldaaAbFl
namespace Go.Proofs.Ytnkbjliidenldaa.Ab
open Go Go.RowKit
set_option linter.unusedVariables false
set_option linter.unusedSimpArgs false

theorem putL_at3 : ∀ (vs cs : List Value) (off i : Nat), off + vs.length ≤ cs.length → (putL cs off vs)[i]? = if off ≤ i ∧ i < off + vs.length then vs[i - off]? else cs[i]?
  | [], cs, off, i, h => by simp only [putL, List.length_nil, Nat.add_zero]; rw [if_neg (by omega)]
  | x :: vs, cs, off, i, h => by
    simp only [List.length_cons] at h
    simp only [putL]
    rw [putL_at3 vs (cs.set off x) (off + 1) i (by rw [List.length_set]; omega)]
    simp only [List.length_cons]
    by_cases h1 : off + 1 ≤ i ∧ i < off + 1 + vs.length
    · rw [if_pos h1, if_pos (by omega)]
      rw [show i - off = (i - (off + 1)) + 1 by omega, List.getElem?_cons_succ]
    · rw [if_neg h1]
      by_cases h2 : i = off
      · subst h2
        rw [if_pos (by omega), Nat.sub_self, List.getElem?_set_self (by omega), List.getElem?_cons_zero]
      · rw [if_neg (by omega), List.getElem?_set_ne (by omega)]
theorem stP_agg3p (m : Mem) (id off : Nat) (a b c : Value) : stP m 3 (.pointer (some ⟨id, off, none⟩)) (.agg #[a, b, c]) = stA m id off [a, b, c] := rfl
abbrev pcV (x : Pc) : Value := .agg #[.int .i64 x.day, .int .i64 x.amount, .int .i64 x.lead]
theorem toParcel_rc (m : Mem) (x : Pc) : RC Try.prog 103 [pcV x] m (AnsV (pcV x)) := by
  refine rc_of_run mixed ok_laws_toParcel (by simp) (go_start _ _ _ ?_)
  simp (config := {implicitDefEqProofs := false, maxDischargeDepth := 20}) (disch := first | omega | (simp only [lenE]; done) | (simp only [lenE]; omega) | rfl | (simp only [lenE, markR_len]; done) | (simp only [lenE, markR_len]; omega)) only [runE, mapE, listE, initT_5, initT_6, initT_7, initT_8, resV, oneV, binA, unA, reduceCtorEq, Nat.reduceEqDiff, Nat.reduceAdd, Nat.reduceLT, Nat.reduceLeDiff, Nat.reduceMul, Nat.reduceSub, ↓reduceIte, decide_true, decide_false, Bool.true_eq_false, Bool.false_eq_true, Bool.not_true, Bool.not_false, if_true, if_false, and_true, true_and, memE, celE, w64, Nat.zero_add, Nat.add_zero, Nat.mul_one, putL, and_self, ldn, c_laws_toParcel, r_laws_toParcel, pcV]
  try simp only [List.append_assoc, List.cons_append, List.nil_append, List.append_nil]
  exact ⟨_, rfl, by (repeat (first | exact noRo_nil | assumption | apply noRo_own | apply noRo_dead | apply noRo_app)), rfl, by (repeat (first | exact noRo_nil | assumption | apply noRo_own | apply noRo_dead | apply noRo_app))⟩
/-- Items, to be read. -/
def PcsA (m : Mem) (v : Value) (L : List Pc) : Prop :=
  L.length ≤ 9223372036854775807 ∧ ∃ id fl, v = .slice (some ⟨id, 0, none⟩) L.length fl ∧ ∀ k i, k < L.length → i < 3 → rdc m id (k * 3 + i) = (pcC (L.getD k Pc0))[i]?
theorem pcC_some (x : Pc) {i : Nat} (h : i < 3) : ∃ v, (pcC x)[i]? = some v := ⟨_, List.getElem?_eq_getElem (by simp [pcC]; omega)⟩
theorem PcsA.ext {m : Mem} {v : Value} {L : List Pc} (h : PcsA m v L) (new : Mem) : PcsA (m ++ new) v L := by
  obtain ⟨hb, id, fl, rfl, hc⟩ := h
  refine ⟨hb, id, fl, rfl, fun k i hk hi => ?_⟩
  obtain ⟨u, hu⟩ := pcC_some (L.getD k Pc0) hi
  have := hc k i hk hi
  rw [hu] at this ⊢
  exact rdc_ext this
theorem PcsA.ro {m : Mem} {v : Value} {L : List Pc} (h : PcsA m v L) : PcsA (roM m) v L := by
  obtain ⟨hb, id, fl, rfl, hc⟩ := h
  exact ⟨hb, id, fl, rfl, fun k i hk hi => by rw [rdc_roM]; exact hc k i hk hi⟩
theorem PcsA.len {m : Mem} {v : Value} {L : List Pc} (h : PcsA m v L) : lenA v = some (.int .i64 L.length) := by
  obtain ⟨hb, id, fl, rfl, hc⟩ := h; rfl
/-- The place of an item. -/
def pPc (v : Value) (k : Nat) : Value := match v with
  | .slice (some ⟨id, _, _⟩) _ _ => .pointer (some ⟨id, k * 3, none⟩)
  | _ => undef
theorem PcsA.at_ {m : Mem} {v : Value} {L : List Pc} (h : PcsA m v L) {k : Nat} (hk : k < L.length) : iadA 3 v (.int .i64 (k : Int)) = some (pPc v k) := by
  obtain ⟨hb, id, fl, rfl, hc⟩ := h
  simp only [pPc]
  rw [iadA_in hk]
  simp
theorem PcsA.ld {m : Mem} {v : Value} {L : List Pc} (h : PcsA m v L) {k : Nat} (hk : k < L.length) : ldA m (some 3) (pPc v k) = some (pcV (L.getD k Pc0)) := by
  obtain ⟨hb, id, fl, rfl, hc⟩ := h
  have r0 := hc k 0 hk (by decide)
  have r1 := hc k 1 hk (by decide)
  have r2 := hc k 2 hk (by decide)
  simp only [pcC, List.getElem?_cons_zero, List.getElem?_cons_succ, Nat.add_zero] at r0 r1 r2
  simp only [pPc, ldA, rdn, r0, r1, r2, pcV]
/-- The field of an item. -/
theorem PcsA.fld {m : Mem} {v : Value} {L : List Pc} (h : PcsA m v L) {k : Nat} (hk : k < L.length) (i : Nat) (hi : i < 3) : ∃ p, fadA i (pPc v k) = some p ∧ ldA m none p = (pcC (L.getD k Pc0))[i]? := by
  obtain ⟨hb, id, fl, rfl, hc⟩ := h
  exact ⟨_, rfl, by simpa [ldA] using hc k i hk hi⟩
def PcsO (e : TypeId) (L : List Pc) (lo hi : Nat) (M : Mem) (v : Value) : Prop :=
  L.length ≤ 1048576 ∧ ∃ id fl, v = .slice (some ⟨id, 0, none⟩) L.length fl ∧ lo ≤ id ∧ id < hi ∧ OwnB M id e (pcsC L)
theorem PcsO.in {e : TypeId} {L : List Pc} {lo hi : Nat} {M : Mem} {v : Value} (h : PcsO e L lo hi M v) : PcsA M v L := by
  obtain ⟨hl, id, fl, rfl, _, _, ho⟩ := h
  exact ⟨by omega, id, fl, rfl, fun k i hk hi => by rw [ho.rd]; exact pcsC_at L k i hk hi⟩
theorem PcsO.lv {e : TypeId} {L : List Pc} {lo hi : Nat} {m : Mem} {v : Value} (h : PcsO e L lo hi m v) (h1 : hi ≤ m.length) : Lv lo hi m fun M => PcsO e L lo hi M v := by
  obtain ⟨hl, id, fl, rfl, a, b, ho⟩ := h
  exact ⟨by omega, h1, fun m' h' => ⟨hl, id, fl, rfl, a, b, ho.at_ (h' id a b)⟩⟩
/-- Items that came in. -/
theorem argParcels {W : World} {ρ : Places} {m : Mem} (h : MRel W W.heap.size ρ m W) {v : Value} {L : List Pc} (hi : PcsIn W v L) :
    ∃ ρ' m', Adds W ρ ρ' m m' ∧ ∃ x, VR ρ' x v ∧ PcsA m' x L := by
  have hb : L.length ≤ 9223372036854775807 := by
    obtain ⟨A, c, _, h1, h2, _⟩ := hi
    unfold maxLen at h2; omega
  have hall : ∀ (k : Nat) (x : Value), (pcsC L)[k]? = some x → ∃ z, x = .int .i64 z := by
    intro k x hx
    have hk := (List.getElem?_eq_some_iff.1 hx).1
    rw [pcsC_len] at hk
    have p := pcsC_at L (k / 3) (k % 3) (by omega) (by omega)
    have ei : k / 3 * 3 + k % 3 = k := by omega
    rw [ei, hx] at p
    have hm : k % 3 < 3 := by omega
    generalize k % 3 = j at *
    have : j = 0 ∨ j = 1 ∨ j = 2 := by omega
    rcases this with rfl | rfl | rfl <;> (simp [pcC] at p; exact ⟨_, p⟩)
  obtain ⟨ρ', ha, hv⟩ := addFlat h hi (xs := pcsC L) (fun k x hx => ⟨x, hx, by obtain ⟨z, rfl⟩ := hall k x hx; exact .int _ _⟩) (by rw [pcsC_len]; omega)
  exact ⟨ρ', _, ha, _, hv, hb, m.length, 0, rfl, fun k i hk hi => by rw [rdc_roNew]; exact pcsC_at L k i hk hi⟩
theorem szParcelS_rc (m : Mem) (v : Value) (L : List Pc) (left : Int) (h : PcsA m v L) (h0 : 0 ≤ left) (h1 : left ≤ 1048576) :
    RC Try.prog 50 [v, .int .i64 left] m fun r new => NoRo new ∧ ((r = .int .i64 (-1)) ∨ ∃ z : Int, 0 ≤ z ∧ z ≤ left ∧ r = .int .i64 z ∧ L.length ≤ 1048576) := by
  refine rc_of_run mixed ok_laws_szParcelS (by simp) (go_start _ _ _ ?_)
  obtain ⟨hb, id, fl, rfl, hc⟩ := h.ro
  by_cases hn : left - (L.length : Int) < 0
  · simp (config := {implicitDefEqProofs := false, maxDischargeDepth := 20}) (disch := first | omega | (simp only [lenE]; done) | (simp only [lenE]; omega) | rfl | (simp only [lenE, markR_len]; done) | (simp only [lenE, markR_len]; omega)) only [runE, mapE, listE, initT_5, initT_6, initT_7, initT_8, resV, oneV, binA, unA, reduceCtorEq, Nat.reduceEqDiff, Nat.reduceAdd, Nat.reduceLT, Nat.reduceLeDiff, Nat.reduceMul, Nat.reduceSub, ↓reduceIte, decide_true, decide_false, Bool.true_eq_false, Bool.false_eq_true, Bool.not_true, Bool.not_false, if_true, if_false, and_true, true_and, memE, celE, w64, Nat.zero_add, Nat.add_zero, Nat.mul_one, putL, and_self, ldn, c_laws_szParcelS, r_laws_szParcelS, hn]
    exact newQ_nil ⟨noRo_nil, .inl rfl⟩
  · simp (config := {implicitDefEqProofs := false, maxDischargeDepth := 20}) (disch := first | omega | (simp only [lenE]; done) | (simp only [lenE]; omega) | rfl | (simp only [lenE, markR_len]; done) | (simp only [lenE, markR_len]; omega)) only [runE, mapE, listE, initT_5, initT_6, initT_7, initT_8, resV, oneV, binA, unA, reduceCtorEq, Nat.reduceEqDiff, Nat.reduceAdd, Nat.reduceLT, Nat.reduceLeDiff, Nat.reduceMul, Nat.reduceSub, ↓reduceIte, decide_true, decide_false, Bool.true_eq_false, Bool.false_eq_true, Bool.not_true, Bool.not_false, if_true, if_false, and_true, true_and, memE, celE, w64, Nat.zero_add, Nat.add_zero, Nat.mul_one, putL, and_self, ldn, c_laws_szParcelS, r_laws_szParcelS, hn]
    exact newQ_nil ⟨noRo_nil, .inr ⟨_, by omega, by omega, rfl, by omega⟩⟩
theorem toParcelS_rc (m : Mem) (v : Value) (L : List Pc) (h : PcsA m v L) (hl : L.length ≤ 1048576) :
    RC Try.prog 52 [v] m (AnsO m (PcsO 113 L) id) := by
  refine rc_of_run mixed ok_laws_toParcelS (by simp) (go_start _ _ _ ?_)
  have hA := h.ro
  have hln := hA.len
  simp (config := {implicitDefEqProofs := false, maxDischargeDepth := 20}) (disch := first | omega | (simp only [lenE]; done) | (simp only [lenE]; omega) | rfl | (simp only [lenE, markR_len]; done) | (simp only [lenE, markR_len]; omega)) only [runE, mapE, listE, initT_5, initT_6, initT_7, initT_8, resV, oneV, binA, unA, reduceCtorEq, Nat.reduceEqDiff, Nat.reduceAdd, Nat.reduceLT, Nat.reduceLeDiff, Nat.reduceMul, Nat.reduceSub, ↓reduceIte, decide_true, decide_false, Bool.true_eq_false, Bool.false_eq_true, Bool.not_true, Bool.not_false, if_true, if_false, and_true, true_and, memE, celE, w64, Nat.zero_add, Nat.add_zero, Nat.mul_one, putL, and_self, ldn, c_laws_toParcelS, r_laws_toParcelS, hln, mksA_eqs (byt := 24) (n := L.length) rfl (by omega)]
  refine loop_inv mixed (fun s => ∃ (k : Nat) (M : Mem) (cs : List Value), k ≤ L.length ∧ s.m = M ∧ Ext m M ∧ OwnB M m.length 113 cs ∧ cs.length = L.length * 3 ∧ (∀ j i, j < k → i < 3 → cs[j * 3 + i]? = (pcC (L.getD j Pc0))[i]?) ∧
      s.t 0 = v ∧ s.t 3 = .slice (some ⟨m.length, 0, none⟩) L.length 3 ∧ s.t 4 = .int .i64 k) (fun s => L.length - (intOf (s.t 4)).toNat)
    ⟨0, _, repL L.length [.int .i64 0, .int .i64 0, .int .i64 0], by omega, rfl, (Ext.refl m).one _ _, by exact OwnB.here (roM_len m).symm, by rw [repL_len]; rfl, fun j i hj => absurd hj (by omega), rfl, rfl, rfl⟩ ?_
  rintro s ⟨k, M, cs, hk, tm, hx, ho, hcl, hpre, t0, t3, t4⟩
  have hM : PcsA M v L := by
    obtain ⟨new, rfl, _⟩ := hx
    exact hA.ext new
  have hln := hM.len
  by_cases hlt : k < L.length
  · have hlt' : (k : Int) < L.length := by omega
    have i1 := hM.at_ hlt
    have i2 := hM.ld hlt
    simp (config := {implicitDefEqProofs := false, maxDischargeDepth := 20}) (disch := first | omega | (simp only [lenE]; done) | (simp only [lenE]; omega) | rfl | (simp only [lenE, markR_len]; done) | (simp only [lenE, markR_len]; omega)) only [runE, mapE, listE, initT_5, initT_6, initT_7, initT_8, resV, oneV, binA, unA, reduceCtorEq, Nat.reduceEqDiff, Nat.reduceAdd, Nat.reduceLT, Nat.reduceLeDiff, Nat.reduceMul, Nat.reduceSub, ↓reduceIte, decide_true, decide_false, Bool.true_eq_false, Bool.false_eq_true, Bool.not_true, Bool.not_false, if_true, if_false, and_true, true_and, memE, celE, w64, Nat.zero_add, Nat.add_zero, Nat.mul_one, putL, and_self, ldn, tm, t0, t3, t4, hln, hlt', i1, i2]
    refine callH_rc (toParcel_rc _ _) ?_
    rintro r new ⟨rfl, hn⟩
    have hst := (ho.ext new).st (off := k * 3) (vs := pcC (L.getD k Pc0)) (by simp [pcC]; omega) rfl
    rw [show pcC (L.getD k Pc0) = [.int .i64 (L.getD k Pc0).day, .int .i64 (L.getD k Pc0).amount, .int .i64 (L.getD k Pc0).lead] from rfl] at hst
    simp (config := {implicitDefEqProofs := false, maxDischargeDepth := 20}) (disch := first | omega | (simp only [lenE]; done) | (simp only [lenE]; omega) | rfl | (simp only [lenE, markR_len]; done) | (simp only [lenE, markR_len]; omega)) only [runE, mapE, listE, initT_5, initT_6, initT_7, initT_8, resV, oneV, binA, unA, reduceCtorEq, Nat.reduceEqDiff, Nat.reduceAdd, Nat.reduceLT, Nat.reduceLeDiff, Nat.reduceMul, Nat.reduceSub, ↓reduceIte, decide_true, decide_false, Bool.true_eq_false, Bool.false_eq_true, Bool.not_true, Bool.not_false, if_true, if_false, and_true, true_and, memE, celE, w64, Nat.zero_add, Nat.add_zero, Nat.mul_one, putL, and_self, ldn, tm, t0, t3, t4, pcV, stP_agg3p, iadA_in hlt, hst]
    refine ⟨⟨k + 1, _, _, by omega, rfl, (hx.app hn).put (Nat.le_refl _) _ _, (ho.ext new).set_self _ _, ?_, fun j i hj hi => ?_, by simp⟩, ?_⟩
    · simp [putL, hcl]
    · have e := putL_at3 (pcC (L.getD k Pc0)) cs (k * 3) (j * 3 + i) (by simp [pcC]; omega)
      have hlen : (pcC (L.getD k Pc0)).length = 3 := rfl
      rw [hlen] at e
      refine Eq.trans (b := (putL cs (k * 3) (pcC (L.getD k Pc0)))[j * 3 + i]?) ?_ ?_
      · first | rfl | (simp only [putL, pcC]; done)
      · rw [e]
        by_cases hj2 : j = k
        · subst hj2
          rw [if_pos (by omega), show j * 3 + i - j * 3 = i by omega]
        · rw [if_neg (by omega)]
          exact hpre j i (by omega) hi
    · simp [intOf]; omega
  · have hlt' : ¬ ((k : Int) < L.length) := by omega
    have e : k = L.length := by omega
    subst e
    simp (config := {implicitDefEqProofs := false, maxDischargeDepth := 20}) (disch := first | omega | (simp only [lenE]; done) | (simp only [lenE]; omega) | rfl | (simp only [lenE, markR_len]; done) | (simp only [lenE, markR_len]; omega)) only [runE, mapE, listE, initT_5, initT_6, initT_7, initT_8, resV, oneV, binA, unA, reduceCtorEq, Nat.reduceEqDiff, Nat.reduceAdd, Nat.reduceLT, Nat.reduceLeDiff, Nat.reduceMul, Nat.reduceSub, ↓reduceIte, decide_true, decide_false, Bool.true_eq_false, Bool.false_eq_true, Bool.not_true, Bool.not_false, if_true, if_false, and_true, true_and, memE, celE, w64, Nat.zero_add, Nat.add_zero, Nat.mul_one, putL, and_self, ldn, tm, t0, t3, t4, hln, hlt']
    have hcs := pcsC_ext hcl hpre
    subst hcs
    refine ext_ansO (f := _root_.id) hx fun M' hM => ⟨hl, m.length, 3, rfl, Nat.le_refl _, ho.lt, ho.at_ (hM _ (Nat.le_refl _) ho.lt)⟩
theorem eqParcel_rc (m : Mem) (x : Pc) : RC Try.prog 106 [pcV x, pcV x] m (AnsV (.bool true)) := by
  refine rc_of_run mixed ok_laws_eqParcel (by simp) (go_start _ _ _ ?_)
  simp (config := {implicitDefEqProofs := false, maxDischargeDepth := 20}) (disch := first | omega | (simp only [lenE]; done) | (simp only [lenE]; omega) | rfl | (simp only [lenE, markR_len]; done) | (simp only [lenE, markR_len]; omega)) only [runE, mapE, listE, initT_5, initT_6, initT_7, initT_8, resV, oneV, binA, unA, reduceCtorEq, Nat.reduceEqDiff, Nat.reduceAdd, Nat.reduceLT, Nat.reduceLeDiff, Nat.reduceMul, Nat.reduceSub, ↓reduceIte, decide_true, decide_false, Bool.true_eq_false, Bool.false_eq_true, Bool.not_true, Bool.not_false, if_true, if_false, and_true, true_and, memE, celE, w64, Nat.zero_add, Nat.add_zero, Nat.mul_one, putL, and_self, ldn, c_laws_eqParcel, r_laws_eqParcel, pcV, bne_self_eq_false]
  try simp only [List.append_assoc, List.cons_append, List.nil_append, List.append_nil]
  exact ⟨_, rfl, by (repeat (first | exact noRo_nil | assumption | apply noRo_own | apply noRo_dead | apply noRo_app)), rfl, by (repeat (first | exact noRo_nil | assumption | apply noRo_own | apply noRo_dead | apply noRo_app))⟩
theorem eqParcelS_rc (m : Mem) (v u : Value) (L : List Pc) (h : PcsA m v L) (h' : PcsA m u L) : RC Try.prog 54 [v, u] m (AnsV (.bool true)) := by
  refine rc_of_run mixed ok_laws_eqParcelS (by simp) (go_start _ _ _ ?_)
  have hA := h.ro
  have hB := h'.ro
  have l1 := hA.len
  have l2 := hB.len
  simp (config := {implicitDefEqProofs := false, maxDischargeDepth := 20}) (disch := first | omega | (simp only [lenE]; done) | (simp only [lenE]; omega) | rfl | (simp only [lenE, markR_len]; done) | (simp only [lenE, markR_len]; omega)) only [runE, mapE, listE, initT_5, initT_6, initT_7, initT_8, resV, oneV, binA, unA, reduceCtorEq, Nat.reduceEqDiff, Nat.reduceAdd, Nat.reduceLT, Nat.reduceLeDiff, Nat.reduceMul, Nat.reduceSub, ↓reduceIte, decide_true, decide_false, Bool.true_eq_false, Bool.false_eq_true, Bool.not_true, Bool.not_false, if_true, if_false, and_true, true_and, memE, celE, w64, Nat.zero_add, Nat.add_zero, Nat.mul_one, putL, and_self, ldn, c_laws_eqParcelS, r_laws_eqParcelS, bne_self_eq_false, l1, l2]
  refine loop_inv mixed (fun s => ∃ (k : Nat) (M : Mem), k ≤ L.length ∧ s.m = M ∧ Ext m M ∧ s.t 0 = v ∧ s.t 1 = u ∧ s.t 5 = .int .i64 k) (fun s => L.length - (intOf (s.t 5)).toNat)
    ⟨0, _, by omega, rfl, Ext.refl m, rfl, rfl, rfl⟩ ?_
  rintro s ⟨k, M, hk, tm, hx, t0, t1, t5⟩
  have hM : PcsA M v L := by
    obtain ⟨new, rfl, _⟩ := hx
    exact hA.ext new
  have hN : PcsA M u L := by
    obtain ⟨new, rfl, _⟩ := hx
    exact hB.ext new
  have l1 := hM.len
  have hbd := hM.1
  by_cases hlt : k < L.length
  · have hlt' : (k : Int) < L.length := by omega
    have i1 := hM.at_ hlt
    have i2 := hM.ld hlt
    have i3 := hN.at_ hlt
    have i4 := hN.ld hlt
    simp (config := {implicitDefEqProofs := false, maxDischargeDepth := 20}) (disch := first | omega | (simp only [lenE]; done) | (simp only [lenE]; omega) | rfl | (simp only [lenE, markR_len]; done) | (simp only [lenE, markR_len]; omega)) only [runE, mapE, listE, initT_5, initT_6, initT_7, initT_8, resV, oneV, binA, unA, reduceCtorEq, Nat.reduceEqDiff, Nat.reduceAdd, Nat.reduceLT, Nat.reduceLeDiff, Nat.reduceMul, Nat.reduceSub, ↓reduceIte, decide_true, decide_false, Bool.true_eq_false, Bool.false_eq_true, Bool.not_true, Bool.not_false, if_true, if_false, and_true, true_and, memE, celE, w64, Nat.zero_add, Nat.add_zero, Nat.mul_one, putL, and_self, ldn, tm, t0, t1, t5, l1, hlt', i1, i2, i3, i4]
    refine rcallH_rc (eqParcel_rc _ _) ?_
    rintro r new ⟨rfl, hn⟩
    simp (config := {implicitDefEqProofs := false, maxDischargeDepth := 20}) (disch := first | omega | (simp only [lenE]; done) | (simp only [lenE]; omega) | rfl | (simp only [lenE, markR_len]; done) | (simp only [lenE, markR_len]; omega)) only [runE, mapE, listE, initT_5, initT_6, initT_7, initT_8, resV, oneV, binA, unA, reduceCtorEq, Nat.reduceEqDiff, Nat.reduceAdd, Nat.reduceLT, Nat.reduceLeDiff, Nat.reduceMul, Nat.reduceSub, ↓reduceIte, decide_true, decide_false, Bool.true_eq_false, Bool.false_eq_true, Bool.not_true, Bool.not_false, if_true, if_false, and_true, true_and, memE, celE, w64, Nat.zero_add, Nat.add_zero, Nat.mul_one, putL, and_self, ldn, tm, t0, t1, t5]
    refine ⟨⟨k + 1, _, by omega, rfl, hx.app hn, by simp⟩, ?_⟩
    simp [intOf]; omega
  · have hlt' : ¬ ((k : Int) < L.length) := by omega
    simp (config := {implicitDefEqProofs := false, maxDischargeDepth := 20}) (disch := first | omega | (simp only [lenE]; done) | (simp only [lenE]; omega) | rfl | (simp only [lenE, markR_len]; done) | (simp only [lenE, markR_len]; omega)) only [runE, mapE, listE, initT_5, initT_6, initT_7, initT_8, resV, oneV, binA, unA, reduceCtorEq, Nat.reduceEqDiff, Nat.reduceAdd, Nat.reduceLT, Nat.reduceLeDiff, Nat.reduceMul, Nat.reduceSub, ↓reduceIte, decide_true, decide_false, Bool.true_eq_false, Bool.false_eq_true, Bool.not_true, Bool.not_false, if_true, if_false, and_true, true_and, memE, celE, w64, Nat.zero_add, Nat.add_zero, Nat.mul_one, putL, and_self, ldn, tm, t0, t1, t5, l1, hlt']
    exact ext_ansV hx rfl
/-- The marks of contracts. -/
def qmarks (k0 : Int) (n : Nat) : List Pc := (List.range n).map fun (j : Nat) => ⟨k0 + 3 * (j : Int), k0 + 3 * (j : Int) + 1, k0 + 3 * (j : Int) + 2⟩
theorem qmarks_len (k0 : Int) (n : Nat) : (qmarks k0 n).length = n := by simp [qmarks]
theorem qmarks_at {k0 : Int} {n j : Nat} (h : j < n) : (qmarks k0 n).getD j Pc0 = ⟨k0 + 3 * (j : Int), k0 + 3 * (j : Int) + 1, k0 + 3 * (j : Int) + 2⟩ := by simp [qmarks, List.getD_eq_getElem?_getD, h]
theorem own_s1p {M : Mem} {id : Nat} {e : TypeId} {cs : List Value} {lo hi : Nat} {m : Mem} (h : OwnB M id e cs) (hb : But lo hi m M) (a : lo ≤ id) (b : id < hi) (off : Nat) (x : Int) (ho : off < cs.length) :
    ∃ M', stA M id off [.int .i64 x] = some M' ∧ OwnB M' id e (cs.set off (.int .i64 x)) ∧ But lo hi m M' :=
  ⟨_, h.st (by simp; omega) rfl, h.set_self _ _, hb.set a b _⟩
theorem set3p_at {cs : List Value} {k j i : Nat} {x y z : Value} (h : k * 3 + 2 < cs.length) (hi : i < 3) : (((cs.set (k * 3) x).set (k * 3 + 1) y).set (k * 3 + 2) z)[j * 3 + i]? = if j = k then [x, y, z][i]? else cs[j * 3 + i]? := by
  by_cases e : j = k
  · subst e
    rw [if_pos rfl]
    have : i = 0 ∨ i = 1 ∨ i = 2 := by omega
    rcases this with rfl | rfl | rfl
    · rw [List.getElem?_set_ne (by omega), List.getElem?_set_ne (by omega), Nat.add_zero, List.getElem?_set_self (by omega)]; rfl
    · rw [List.getElem?_set_ne (by omega), List.getElem?_set_self (by rw [List.length_set]; omega)]; rfl
    · rw [List.getElem?_set_self (by rw [List.length_set, List.length_set]; omega)]; rfl
  · rw [if_neg e, List.getElem?_set_ne (by omega), List.getElem?_set_ne (by omega), List.getElem?_set_ne (by omega)]
theorem markParcelS_ac (m : Mem) (lo hi : Nat) (v : Value) (L : List Pc) (k0 : Int) (h : Lv lo hi m fun M => PcsO 113 L lo hi M v) (h0 : 0 ≤ k0) (h1 : k0 ≤ 68719476736) :
    AC Try.prog 55 [v, .int .i64 k0] m fun r m' => r = .int .i64 (k0 + 3 * L.length) ∧ But lo hi m m' ∧ Lv lo hi m' fun M => PcsO 113 (qmarks k0 L.length) lo hi M v := by
  refine ac_of_run mixed ok_laws_markParcelS (by simp) (go_start _ _ _ ?_)
  obtain ⟨hl, id, fl, rfl, a, b, ho⟩ := h.now
  simp (config := {implicitDefEqProofs := false, maxDischargeDepth := 20}) (disch := first | omega | (simp only [lenE]; done) | (simp only [lenE]; omega) | rfl | (simp only [lenE, markR_len]; done) | (simp only [lenE, markR_len]; omega)) only [runE, mapE, listE, initT_5, initT_6, initT_7, initT_8, resV, oneV, binA, unA, reduceCtorEq, Nat.reduceEqDiff, Nat.reduceAdd, Nat.reduceLT, Nat.reduceLeDiff, Nat.reduceMul, Nat.reduceSub, ↓reduceIte, decide_true, decide_false, Bool.true_eq_false, Bool.false_eq_true, Bool.not_true, Bool.not_false, if_true, if_false, and_true, true_and, memE, celE, w64, Nat.zero_add, Nat.add_zero, Nat.mul_one, putL, and_self, ldn, c_laws_markParcelS, r_laws_markParcelS]
  refine loop_inv mixed (fun s => ∃ (k : Nat) (M : Mem) (cs : List Value), k ≤ L.length ∧ s.m = M ∧ But lo hi m M ∧ OwnB M id 113 cs ∧ cs.length = L.length * 3 ∧ (∀ j i, j < k → i < 3 → cs[j * 3 + i]? = (pcC ⟨k0 + 3 * (j : Int), k0 + 3 * (j : Int) + 1, k0 + 3 * (j : Int) + 2⟩)[i]?) ∧
      s.t 0 = .slice (some ⟨id, 0, none⟩) L.length fl ∧ s.t 1 = .int .i64 (k0 + 3 * (k : Int)) ∧ s.t 5 = .int .i64 k) (fun s => L.length - (intOf (s.t 5)).toNat)
    ⟨0, _, pcsC L, by omega, rfl, But.refl _ _ _, ho, pcsC_len L, fun j i hj => absurd hj (by omega), rfl, by simp only [put_t, put_t', put_m, putT_t, putT_t', putT_m, init_t, init_m, initT_0, initT_1, initT_2, initT_3, initT_4, initT_5, initT_6, initT_7, initT_8, Nat.reduceEqDiff, ↓reduceIte]; simp, rfl⟩ ?_
  rintro s ⟨k, M, cs, hk, tm, hb, hoM, hcl, hpre, t0, t1, t5⟩
  by_cases hlt : k < L.length
  · have hlt' : (k : Int) < L.length := by omega
    obtain ⟨M1, s1, o1, b1⟩ := own_s1p hoM hb a b (k * 3) (k0 + 3 * (k : Int)) (by omega)
    obtain ⟨M2, s2, o2, b2⟩ := own_s1p o1 b1 a b (k * 3 + 1) (k0 + 3 * (k : Int) + 1) (by rw [List.length_set]; omega)
    obtain ⟨M3, s3, o3, b3⟩ := own_s1p o2 b2 a b (k * 3 + 2) (k0 + 3 * (k : Int) + 1 + 1) (by rw [List.length_set, List.length_set]; omega)
    simp (config := {implicitDefEqProofs := false, maxDischargeDepth := 20}) (disch := first | omega | (simp only [lenE]; done) | (simp only [lenE]; omega) | rfl | (simp only [lenE, markR_len]; done) | (simp only [lenE, markR_len]; omega)) only [runE, mapE, listE, initT_5, initT_6, initT_7, initT_8, resV, oneV, binA, unA, reduceCtorEq, Nat.reduceEqDiff, Nat.reduceAdd, Nat.reduceLT, Nat.reduceLeDiff, Nat.reduceMul, Nat.reduceSub, ↓reduceIte, decide_true, decide_false, Bool.true_eq_false, Bool.false_eq_true, Bool.not_true, Bool.not_false, if_true, if_false, and_true, true_and, memE, celE, w64, Nat.zero_add, Nat.add_zero, Nat.mul_one, putL, and_self, ldn, tm, t0, t1, t5, hlt', iadA_in hlt, s1, s2, s3]
    refine ⟨⟨k + 1, M3, _, by omega, rfl, b3, o3, ?_, fun j i hj hi => ?_, ?_, by simp⟩, ?_⟩
    · simp only [List.length_set]; exact hcl
    · rw [set3p_at (by omega) hi]
      by_cases e : j = k
      · subst e
        rw [if_pos rfl, Int.add_assoc (k0 + 3 * (j : Int)) 1 1]; rfl
      · rw [if_neg e]; exact hpre j i (by omega) hi
    · congr 1; push_cast; omega
    · simp [intOf]; omega
  · have hlt' : ¬ ((k : Int) < L.length) := by omega
    have e : k = L.length := by omega
    simp (config := {implicitDefEqProofs := false, maxDischargeDepth := 20}) (disch := first | omega | (simp only [lenE]; done) | (simp only [lenE]; omega) | rfl | (simp only [lenE, markR_len]; done) | (simp only [lenE, markR_len]; omega)) only [runE, mapE, listE, initT_5, initT_6, initT_7, initT_8, resV, oneV, binA, unA, reduceCtorEq, Nat.reduceEqDiff, Nat.reduceAdd, Nat.reduceLT, Nat.reduceLeDiff, Nat.reduceMul, Nat.reduceSub, ↓reduceIte, decide_true, decide_false, Bool.true_eq_false, Bool.false_eq_true, Bool.not_true, Bool.not_false, if_true, if_false, and_true, true_and, memE, celE, w64, Nat.zero_add, Nat.add_zero, Nat.mul_one, putL, and_self, ldn, tm, t0, t1, t5, hlt']
    subst e
    have hcs : cs = pcsC (qmarks k0 L.length) := pcsC_ext (by rw [qmarks_len]; exact hcl) fun j i hj hi => by
      rw [qmarks_len] at hj
      rw [qmarks_at hj]
      exact hpre j i hj hi
    subst hcs
    exact ⟨rfl, hb, PcsO.lv ⟨by rw [qmarks_len]; exact hl, id, fl, by rw [qmarks_len], a, b, hoM⟩ (by have := hb.1; have := h.2.1; omega)⟩
theorem heldParcelS_rc (m : Mem) (v : Value) (k0 : Int) (n : Nat) (h : PcsA m v (qmarks k0 n)) (h0 : 0 ≤ k0) (h1 : k0 ≤ 68719476736) (hn : n ≤ 1048576) :
    RC Try.prog 63 [v, .int .i64 k0] m fun r new => r = .int .i64 (k0 + 3 * n) ∧ NoRo new := by
  refine rc_of_run mixed ok_laws_heldParcelS (by simp) (go_start _ _ _ ?_)
  obtain ⟨hb, id, fl, rfl, hc⟩ := h.ro
  rw [qmarks_len] at hc
  rw [qmarks_len]
  simp (config := {implicitDefEqProofs := false, maxDischargeDepth := 20}) (disch := first | omega | (simp only [lenE]; done) | (simp only [lenE]; omega) | rfl | (simp only [lenE, markR_len]; done) | (simp only [lenE, markR_len]; omega)) only [runE, mapE, listE, initT_5, initT_6, initT_7, initT_8, resV, oneV, binA, unA, reduceCtorEq, Nat.reduceEqDiff, Nat.reduceAdd, Nat.reduceLT, Nat.reduceLeDiff, Nat.reduceMul, Nat.reduceSub, ↓reduceIte, decide_true, decide_false, Bool.true_eq_false, Bool.false_eq_true, Bool.not_true, Bool.not_false, if_true, if_false, and_true, true_and, memE, celE, w64, Nat.zero_add, Nat.add_zero, Nat.mul_one, putL, and_self, ldn, c_laws_heldParcelS, r_laws_heldParcelS]
  refine loop_inv mixed (fun s => ∃ (k : Nat), k ≤ n ∧ s.m = roM m ∧ s.t 0 = .slice (some ⟨id, 0, none⟩) n fl ∧ s.t 1 = .int .i64 (k0 + 3 * (k : Int)) ∧ s.t 5 = .int .i64 k) (fun s => n - (intOf (s.t 5)).toNat)
    ⟨0, by omega, rfl, rfl, by simp only [put_t, put_t', put_m, putT_t, putT_t', putT_m, init_t, init_m, initT_0, initT_1, initT_2, initT_3, initT_4, initT_5, initT_6, initT_7, initT_8, Nat.reduceEqDiff, ↓reduceIte]; simp, rfl⟩ ?_
  rintro s ⟨k, hk, tm, t0, t1, t5⟩
  by_cases hlt : k < n
  · have hlt' : (k : Int) < n := by omega
    have r0 := hc k 0 hlt (by decide)
    have r1 := hc k 1 hlt (by decide)
    have r2 := hc k 2 hlt (by decide)
    rw [qmarks_at hlt] at r0 r1 r2
    simp only [pcC, List.getElem?_cons_zero, List.getElem?_cons_succ, Nat.add_zero] at r0 r1 r2
    have e2 : k0 + 3 * (k : Int) + 1 + 1 = k0 + 3 * (k : Int) + 2 := by omega
    simp (config := {implicitDefEqProofs := false, maxDischargeDepth := 20}) (disch := first | omega | (simp only [lenE]; done) | (simp only [lenE]; omega) | rfl | (simp only [lenE, markR_len]; done) | (simp only [lenE, markR_len]; omega)) only [runE, mapE, listE, initT_5, initT_6, initT_7, initT_8, resV, oneV, binA, unA, reduceCtorEq, Nat.reduceEqDiff, Nat.reduceAdd, Nat.reduceLT, Nat.reduceLeDiff, Nat.reduceMul, Nat.reduceSub, ↓reduceIte, decide_true, decide_false, Bool.true_eq_false, Bool.false_eq_true, Bool.not_true, Bool.not_false, if_true, if_false, and_true, true_and, memE, celE, w64, Nat.zero_add, Nat.add_zero, Nat.mul_one, putL, and_self, ldn, tm, t0, t1, t5, hlt', iadA_in hlt, r0, r1, r2, e2, bne_self_eq_false]
    refine ⟨⟨k + 1, by omega, by congr 1; push_cast; omega, by simp⟩, ?_⟩
    simp [intOf]; omega
  · have hlt' : ¬ ((k : Int) < n) := by omega
    have e : k = n := by omega
    simp (config := {implicitDefEqProofs := false, maxDischargeDepth := 20}) (disch := first | omega | (simp only [lenE]; done) | (simp only [lenE]; omega) | rfl | (simp only [lenE, markR_len]; done) | (simp only [lenE, markR_len]; omega)) only [runE, mapE, listE, initT_5, initT_6, initT_7, initT_8, resV, oneV, binA, unA, reduceCtorEq, Nat.reduceEqDiff, Nat.reduceAdd, Nat.reduceLT, Nat.reduceLeDiff, Nat.reduceMul, Nat.reduceSub, ↓reduceIte, decide_true, decide_false, Bool.true_eq_false, Bool.false_eq_true, Bool.not_true, Bool.not_false, if_true, if_false, and_true, true_and, memE, celE, w64, Nat.zero_add, Nat.add_zero, Nat.mul_one, putL, and_self, ldn, tm, t0, t1, t5, hlt']
    exact newQ_nil ⟨by rw [e], noRo_nil⟩
theorem onesB_pcs (L : List Pc) : onesB (pcsC L) = true := by
  unfold onesB
  rw [List.all_eq_true]
  intro x hx
  simp only [pcsC, List.mem_flatten, List.mem_map] at hx
  obtain ⟨l, ⟨c, _, rfl⟩, hx⟩ := hx
  simp only [pcC, List.mem_cons, List.not_mem_nil, or_false] at hx
  rcases hx with rfl | rfl | rfl <;> rfl
end Go.Proofs.Ytnkbjliidenldaa.Ab
