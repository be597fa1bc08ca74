/- Items in memory: lists of them as arguments and as objects, the laws' helpers. -/
import Derived.Test.YtmjnjhdacliieaaAbArg
import Derived.Test.YtmjnjhdacliieaaAbMarks
import Derived.Test.YtmjnjhdacliieaaItemIn
import Derived.Test.YtmjnjhdacliieaaAbCy1
namespace Go.Proofs.Ytmjnjhdacliieaa.Ab
open Go Go.RowKit
set_option linter.unusedVariables false
set_option linter.unusedSimpArgs false

theorem putL_at : ∀ (vs cs : List Value) (off i : Nat), off + vs.length ≤ cs.length → (putL cs off vs)[i]? = if off ≤ i ∧ i < off + vs.length then vs[i - off]? else cs[i]?
  | [], cs, off, i, h => by simp only [putL, List.length_nil, Nat.add_zero]; rw [if_neg (by omega)]
  | x :: vs, cs, off, i, h => by
    simp only [List.length_cons] at h
    simp only [putL]
    rw [putL_at vs (cs.set off x) (off + 1) i (by rw [List.length_set]; omega)]
    simp only [List.length_cons]
    by_cases h1 : off + 1 ≤ i ∧ i < off + 1 + vs.length
    · rw [if_pos h1, if_pos (by omega)]
      rw [show i - off = (i - (off + 1)) + 1 by omega, List.getElem?_cons_succ]
    · rw [if_neg h1]
      by_cases h2 : i = off
      · subst h2
        rw [if_pos (by omega), Nat.sub_self, List.getElem?_set_self (by omega), List.getElem?_cons_zero]
      · rw [if_neg (by omega), List.getElem?_set_ne (by omega)]
theorem stP_agg5 (m : Mem) (id off : Nat) (a b c d e : Value) : stP m 5 (.pointer (some ⟨id, off, none⟩)) (.agg #[a, b, c, d, e]) = stA m id off [a, b, c, d, e] := rfl
/-- Items, to be read. -/
def ItemsA (m : Mem) (v : Value) (L : List It) : Prop :=
  L.length ≤ 9223372036854775807 ∧ ∃ id fl, v = .slice (some ⟨id, 0, none⟩) L.length fl ∧ ∀ k i, k < L.length → i < 5 → rdc m id (k * 5 + i) = (itC (L.getD k It0))[i]?
theorem itC_some (x : It) {i : Nat} (h : i < 5) : ∃ v, (itC x)[i]? = some v := ⟨_, List.getElem?_eq_getElem (by simp [itC]; omega)⟩
theorem ItemsA.ext {m : Mem} {v : Value} {L : List It} (h : ItemsA m v L) (new : Mem) : ItemsA (m ++ new) v L := by
  obtain ⟨hb, id, fl, rfl, hc⟩ := h
  refine ⟨hb, id, fl, rfl, fun k i hk hi => ?_⟩
  obtain ⟨u, hu⟩ := itC_some (L.getD k It0) hi
  have := hc k i hk hi
  rw [hu] at this ⊢
  exact rdc_ext this
theorem ItemsA.ro {m : Mem} {v : Value} {L : List It} (h : ItemsA m v L) : ItemsA (roM m) v L := by
  obtain ⟨hb, id, fl, rfl, hc⟩ := h
  exact ⟨hb, id, fl, rfl, fun k i hk hi => by rw [rdc_roM]; exact hc k i hk hi⟩
theorem ItemsA.len {m : Mem} {v : Value} {L : List It} (h : ItemsA m v L) : lenA v = some (.int .i64 L.length) := by
  obtain ⟨hb, id, fl, rfl, hc⟩ := h; rfl
/-- The place of an item. -/
def pItem (v : Value) (k : Nat) : Value := match v with
  | .slice (some ⟨id, _, _⟩) _ _ => .pointer (some ⟨id, k * 5, none⟩)
  | _ => undef
theorem ItemsA.at_ {m : Mem} {v : Value} {L : List It} (h : ItemsA m v L) {k : Nat} (hk : k < L.length) : iadA 5 v (.int .i64 (k : Int)) = some (pItem v k) := by
  obtain ⟨hb, id, fl, rfl, hc⟩ := h
  simp only [pItem]
  rw [iadA_in hk]
  simp
theorem ItemsA.ld {m : Mem} {v : Value} {L : List It} (h : ItemsA m v L) {k : Nat} (hk : k < L.length) : ldA m (some 5) (pItem v k) = some (itV (L.getD k It0)) := by
  obtain ⟨hb, id, fl, rfl, hc⟩ := h
  have r0 := hc k 0 hk (by decide)
  have r1 := hc k 1 hk (by decide)
  have r2 := hc k 2 hk (by decide)
  have r3 := hc k 3 hk (by decide)
  have r4 := hc k 4 hk (by decide)
  simp only [itC, List.getElem?_cons_zero, List.getElem?_cons_succ, Nat.add_zero] at r0 r1 r2 r3 r4
  simp only [pItem, ldA, rdn, r0, r1, r2, r3, r4, itV]
/-- The field of an item. -/
theorem ItemsA.fld {m : Mem} {v : Value} {L : List It} (h : ItemsA m v L) {k : Nat} (hk : k < L.length) (i : Nat) (hi : i < 5) : ∃ p, fadA i (pItem v k) = some p ∧ ldA m none p = (itC (L.getD k It0))[i]? := by
  obtain ⟨hb, id, fl, rfl, hc⟩ := h
  exact ⟨_, rfl, by simpa [ldA] using hc k i hk hi⟩
def ItemsO (e : TypeId) (L : List It) (lo hi : Nat) (M : Mem) (v : Value) : Prop :=
  L.length ≤ 1048576 ∧ ∃ id fl, v = .slice (some ⟨id, 0, none⟩) L.length fl ∧ lo ≤ id ∧ id < hi ∧ OwnB M id e (itemsC L)
theorem ItemsO.in {e : TypeId} {L : List It} {lo hi : Nat} {M : Mem} {v : Value} (h : ItemsO e L lo hi M v) : ItemsA M v L := by
  obtain ⟨hl, id, fl, rfl, _, _, ho⟩ := h
  exact ⟨by omega, id, fl, rfl, fun k i hk hi => by rw [ho.rd]; exact itemsC_at L k i hk hi⟩
theorem ItemsO.lv {e : TypeId} {L : List It} {lo hi : Nat} {m : Mem} {v : Value} (h : ItemsO e L lo hi m v) (h1 : hi ≤ m.length) : Lv lo hi m fun M => ItemsO e L lo hi M v := by
  obtain ⟨hl, id, fl, rfl, a, b, ho⟩ := h
  exact ⟨by omega, h1, fun m' h' => ⟨hl, id, fl, rfl, a, b, ho.at_ (h' id a b)⟩⟩
/-- Items that came in. -/
theorem argItems {W : World} {ρ : Places} {m : Mem} (h : MRel W W.heap.size ρ m W) {v : Value} {L : List It} (hi : ItemsIn W v L) :
    ∃ ρ' m', Adds W ρ ρ' m m' ∧ ∃ x, VR ρ' x v ∧ ItemsA m' x L := by
  have hb : L.length ≤ 9223372036854775807 := by
    obtain ⟨A, c, _, h1, h2, _⟩ := hi
    unfold maxLen at h2; omega
  have hall : ∀ (k : Nat) (x : Value), (itemsC L)[k]? = some x → ∃ z, x = .int .i64 z := by
    intro k x hx
    have hk := (List.getElem?_eq_some_iff.1 hx).1
    rw [itemsC_len] at hk
    have p := itemsC_at L (k / 5) (k % 5) (by omega) (by omega)
    have ei : k / 5 * 5 + k % 5 = k := by omega
    rw [ei, hx] at p
    have hm : k % 5 < 5 := by omega
    generalize k % 5 = j at *
    have : j = 0 ∨ j = 1 ∨ j = 2 ∨ j = 3 ∨ j = 4 := by omega
    rcases this with rfl | rfl | rfl | rfl | rfl <;> (simp [itC] at p; exact ⟨_, p⟩)
  obtain ⟨ρ', ha, hv⟩ := addFlat h hi (xs := itemsC L) (fun k x hx => ⟨x, hx, by obtain ⟨z, rfl⟩ := hall k x hx; exact .int _ _⟩) (by rw [itemsC_len]; omega)
  exact ⟨ρ', _, ha, _, hv, hb, m.length, 0, rfl, fun k i hk hi => by rw [rdc_roNew]; exact itemsC_at L k i hk hi⟩
theorem szItemS_rc (m : Mem) (v : Value) (L : List It) (left : Int) (h : ItemsA m v L) (h0 : 0 ≤ left) (h1 : left ≤ 1048576) :
    RC Try.prog 29 [v, .int .i64 left] m fun r new => NoRo new ∧ ((r = .int .i64 (-1)) ∨ ∃ z : Int, 0 ≤ z ∧ z ≤ left ∧ r = .int .i64 z ∧ L.length ≤ 1048576) := by
  refine rc_of_run mixed ok_laws_szItemS (by simp) (go_start _ _ _ ?_)
  obtain ⟨hb, id, fl, rfl, hc⟩ := h.ro
  by_cases hn : left - (L.length : Int) < 0
  · simp (config := {implicitDefEqProofs := false, maxDischargeDepth := 20}) (disch := first | omega | (simp only [lenE]; done) | (simp only [lenE]; omega) | rfl | (simp only [lenE, markR_len]; done) | (simp only [lenE, markR_len]; omega)) only [runE, mapE, listE, initT_5, initT_6, initT_7, initT_8, resV, oneV, binA, unA, reduceCtorEq, Nat.reduceEqDiff, Nat.reduceAdd, Nat.reduceLT, Nat.reduceLeDiff, Nat.reduceMul, Nat.reduceSub, ↓reduceIte, decide_true, decide_false, Bool.true_eq_false, Bool.false_eq_true, Bool.not_true, Bool.not_false, if_true, if_false, and_true, true_and, memE, celE, w64, Nat.zero_add, Nat.add_zero, Nat.mul_one, putL, and_self, ldn, c_laws_szItemS, r_laws_szItemS, hn]
    exact newQ_nil ⟨noRo_nil, .inl rfl⟩
  · simp (config := {implicitDefEqProofs := false, maxDischargeDepth := 20}) (disch := first | omega | (simp only [lenE]; done) | (simp only [lenE]; omega) | rfl | (simp only [lenE, markR_len]; done) | (simp only [lenE, markR_len]; omega)) only [runE, mapE, listE, initT_5, initT_6, initT_7, initT_8, resV, oneV, binA, unA, reduceCtorEq, Nat.reduceEqDiff, Nat.reduceAdd, Nat.reduceLT, Nat.reduceLeDiff, Nat.reduceMul, Nat.reduceSub, ↓reduceIte, decide_true, decide_false, Bool.true_eq_false, Bool.false_eq_true, Bool.not_true, Bool.not_false, if_true, if_false, and_true, true_and, memE, celE, w64, Nat.zero_add, Nat.add_zero, Nat.mul_one, putL, and_self, ldn, c_laws_szItemS, r_laws_szItemS, hn]
    exact newQ_nil ⟨noRo_nil, .inr ⟨_, by omega, by omega, rfl, by omega⟩⟩
theorem toItemS_rc (m : Mem) (v : Value) (L : List It) (h : ItemsA m v L) (hl : L.length ≤ 1048576) :
    RC Try.prog 31 [v] m (AnsO m (ItemsO 25 L) id) := by
  refine rc_of_run mixed ok_laws_toItemS (by simp) (go_start _ _ _ ?_)
  have hA := h.ro
  have hln := hA.len
  simp (config := {implicitDefEqProofs := false, maxDischargeDepth := 20}) (disch := first | omega | (simp only [lenE]; done) | (simp only [lenE]; omega) | rfl | (simp only [lenE, markR_len]; done) | (simp only [lenE, markR_len]; omega)) only [runE, mapE, listE, initT_5, initT_6, initT_7, initT_8, resV, oneV, binA, unA, reduceCtorEq, Nat.reduceEqDiff, Nat.reduceAdd, Nat.reduceLT, Nat.reduceLeDiff, Nat.reduceMul, Nat.reduceSub, ↓reduceIte, decide_true, decide_false, Bool.true_eq_false, Bool.false_eq_true, Bool.not_true, Bool.not_false, if_true, if_false, and_true, true_and, memE, celE, w64, Nat.zero_add, Nat.add_zero, Nat.mul_one, putL, and_self, ldn, c_laws_toItemS, r_laws_toItemS, hln, mksA_eqs (byt := 40) (n := L.length) rfl (by omega)]
  refine loop_inv mixed (fun s => ∃ (k : Nat) (M : Mem) (cs : List Value), k ≤ L.length ∧ s.m = M ∧ Ext m M ∧ OwnB M m.length 25 cs ∧ cs.length = L.length * 5 ∧ (∀ j i, j < k → i < 5 → cs[j * 5 + i]? = (itC (L.getD j It0))[i]?) ∧
      s.t 0 = v ∧ s.t 3 = .slice (some ⟨m.length, 0, none⟩) L.length 5 ∧ s.t 4 = .int .i64 k) (fun s => L.length - (intOf (s.t 4)).toNat)
    ⟨0, _, repL L.length [.int .i64 0, .int .i64 0, .int .i64 0, .int .i64 0, .int .i64 0], by omega, rfl, (Ext.refl m).one _ _, by exact OwnB.here (roM_len m).symm, by rw [repL_len]; rfl, fun j i hj => absurd hj (by omega), rfl, rfl, rfl⟩ ?_
  rintro s ⟨k, M, cs, hk, tm, hx, ho, hcl, hpre, t0, t3, t4⟩
  have hM : ItemsA M v L := by
    obtain ⟨new, rfl, _⟩ := hx
    exact hA.ext new
  have hln := hM.len
  by_cases hlt : k < L.length
  · have hlt' : (k : Int) < L.length := by omega
    have i1 := hM.at_ hlt
    have i2 := hM.ld hlt
    simp (config := {implicitDefEqProofs := false, maxDischargeDepth := 20}) (disch := first | omega | (simp only [lenE]; done) | (simp only [lenE]; omega) | rfl | (simp only [lenE, markR_len]; done) | (simp only [lenE, markR_len]; omega)) only [runE, mapE, listE, initT_5, initT_6, initT_7, initT_8, resV, oneV, binA, unA, reduceCtorEq, Nat.reduceEqDiff, Nat.reduceAdd, Nat.reduceLT, Nat.reduceLeDiff, Nat.reduceMul, Nat.reduceSub, ↓reduceIte, decide_true, decide_false, Bool.true_eq_false, Bool.false_eq_true, Bool.not_true, Bool.not_false, if_true, if_false, and_true, true_and, memE, celE, w64, Nat.zero_add, Nat.add_zero, Nat.mul_one, putL, and_self, ldn, tm, t0, t3, t4, hln, hlt', i1, i2]
    refine callH_rc (toItem_rc _ _) ?_
    rintro r new ⟨rfl, hn⟩
    have hst := (ho.ext new).st (off := k * 5) (vs := itC (L.getD k It0)) (by simp [itC]; omega) rfl
    rw [show itC (L.getD k It0) = [.int .i64 (L.getD k It0).daily, .int .i64 (L.getD k It0).setup, .int .i64 (L.getD k It0).hold, .int .i64 (L.getD k It0).made, .int .i64 (L.getD k It0).pause] from rfl] at hst
    simp (config := {implicitDefEqProofs := false, maxDischargeDepth := 20}) (disch := first | omega | (simp only [lenE]; done) | (simp only [lenE]; omega) | rfl | (simp only [lenE, markR_len]; done) | (simp only [lenE, markR_len]; omega)) only [runE, mapE, listE, initT_5, initT_6, initT_7, initT_8, resV, oneV, binA, unA, reduceCtorEq, Nat.reduceEqDiff, Nat.reduceAdd, Nat.reduceLT, Nat.reduceLeDiff, Nat.reduceMul, Nat.reduceSub, ↓reduceIte, decide_true, decide_false, Bool.true_eq_false, Bool.false_eq_true, Bool.not_true, Bool.not_false, if_true, if_false, and_true, true_and, memE, celE, w64, Nat.zero_add, Nat.add_zero, Nat.mul_one, putL, and_self, ldn, tm, t0, t3, t4, itV, stP_agg5, iadA_in hlt, hst]
    refine ⟨⟨k + 1, _, _, by omega, rfl, (hx.app hn).put (Nat.le_refl _) _ _, (ho.ext new).set_self _ _, ?_, fun j i hj hi => ?_, by simp⟩, ?_⟩
    · simp [putL, hcl]
    · have e := putL_at (itC (L.getD k It0)) cs (k * 5) (j * 5 + i) (by simp [itC]; omega)
      have hlen : (itC (L.getD k It0)).length = 5 := rfl
      rw [hlen] at e
      refine Eq.trans (b := (putL cs (k * 5) (itC (L.getD k It0)))[j * 5 + i]?) ?_ ?_
      · first | rfl | (simp only [putL, itC]; done)
      · rw [e]
        by_cases hj2 : j = k
        · subst hj2
          rw [if_pos (by omega), show j * 5 + i - j * 5 = i by omega]
        · rw [if_neg (by omega)]
          exact hpre j i (by omega) hi
    · simp [intOf]; omega
  · have hlt' : ¬ ((k : Int) < L.length) := by omega
    have e : k = L.length := by omega
    subst e
    simp (config := {implicitDefEqProofs := false, maxDischargeDepth := 20}) (disch := first | omega | (simp only [lenE]; done) | (simp only [lenE]; omega) | rfl | (simp only [lenE, markR_len]; done) | (simp only [lenE, markR_len]; omega)) only [runE, mapE, listE, initT_5, initT_6, initT_7, initT_8, resV, oneV, binA, unA, reduceCtorEq, Nat.reduceEqDiff, Nat.reduceAdd, Nat.reduceLT, Nat.reduceLeDiff, Nat.reduceMul, Nat.reduceSub, ↓reduceIte, decide_true, decide_false, Bool.true_eq_false, Bool.false_eq_true, Bool.not_true, Bool.not_false, if_true, if_false, and_true, true_and, memE, celE, w64, Nat.zero_add, Nat.add_zero, Nat.mul_one, putL, and_self, ldn, tm, t0, t3, t4, hln, hlt']
    have hcs := itemsC_ext hcl hpre
    subst hcs
    refine ext_ansO (f := _root_.id) hx fun M' hM => ⟨hl, m.length, 5, rfl, Nat.le_refl _, ho.lt, ho.at_ (hM _ (Nat.le_refl _) ho.lt)⟩
theorem eqItem_rc (m : Mem) (x : It) : RC Try.prog 76 [itV x, itV x] m (AnsV (.bool true)) := by
  refine rc_of_run mixed ok_laws_eqItem (by simp) (go_start _ _ _ ?_)
  simp (config := {implicitDefEqProofs := false, maxDischargeDepth := 20}) (disch := first | omega | (simp only [lenE]; done) | (simp only [lenE]; omega) | rfl | (simp only [lenE, markR_len]; done) | (simp only [lenE, markR_len]; omega)) only [runE, mapE, listE, initT_5, initT_6, initT_7, initT_8, resV, oneV, binA, unA, reduceCtorEq, Nat.reduceEqDiff, Nat.reduceAdd, Nat.reduceLT, Nat.reduceLeDiff, Nat.reduceMul, Nat.reduceSub, ↓reduceIte, decide_true, decide_false, Bool.true_eq_false, Bool.false_eq_true, Bool.not_true, Bool.not_false, if_true, if_false, and_true, true_and, memE, celE, w64, Nat.zero_add, Nat.add_zero, Nat.mul_one, putL, and_self, ldn, c_laws_eqItem, r_laws_eqItem, itV, bne_self_eq_false]
  try simp only [List.append_assoc, List.cons_append, List.nil_append, List.append_nil]
  exact ⟨_, rfl, by (repeat (first | exact noRo_nil | assumption | apply noRo_own | apply noRo_dead | apply noRo_app)), rfl, by (repeat (first | exact noRo_nil | assumption | apply noRo_own | apply noRo_dead | apply noRo_app))⟩
theorem eqItemS_rc (m : Mem) (v u : Value) (L : List It) (h : ItemsA m v L) (h' : ItemsA m u L) : RC Try.prog 34 [v, u] m (AnsV (.bool true)) := by
  refine rc_of_run mixed ok_laws_eqItemS (by simp) (go_start _ _ _ ?_)
  have hA := h.ro
  have hB := h'.ro
  have l1 := hA.len
  have l2 := hB.len
  simp (config := {implicitDefEqProofs := false, maxDischargeDepth := 20}) (disch := first | omega | (simp only [lenE]; done) | (simp only [lenE]; omega) | rfl | (simp only [lenE, markR_len]; done) | (simp only [lenE, markR_len]; omega)) only [runE, mapE, listE, initT_5, initT_6, initT_7, initT_8, resV, oneV, binA, unA, reduceCtorEq, Nat.reduceEqDiff, Nat.reduceAdd, Nat.reduceLT, Nat.reduceLeDiff, Nat.reduceMul, Nat.reduceSub, ↓reduceIte, decide_true, decide_false, Bool.true_eq_false, Bool.false_eq_true, Bool.not_true, Bool.not_false, if_true, if_false, and_true, true_and, memE, celE, w64, Nat.zero_add, Nat.add_zero, Nat.mul_one, putL, and_self, ldn, c_laws_eqItemS, r_laws_eqItemS, bne_self_eq_false, l1, l2]
  refine loop_inv mixed (fun s => ∃ (k : Nat) (M : Mem), k ≤ L.length ∧ s.m = M ∧ Ext m M ∧ s.t 0 = v ∧ s.t 1 = u ∧ s.t 5 = .int .i64 k) (fun s => L.length - (intOf (s.t 5)).toNat)
    ⟨0, _, by omega, rfl, Ext.refl m, rfl, rfl, rfl⟩ ?_
  rintro s ⟨k, M, hk, tm, hx, t0, t1, t5⟩
  have hM : ItemsA M v L := by
    obtain ⟨new, rfl, _⟩ := hx
    exact hA.ext new
  have hN : ItemsA M u L := by
    obtain ⟨new, rfl, _⟩ := hx
    exact hB.ext new
  have l1 := hM.len
  have hbd := hM.1
  by_cases hlt : k < L.length
  · have hlt' : (k : Int) < L.length := by omega
    have i1 := hM.at_ hlt
    have i2 := hM.ld hlt
    have i3 := hN.at_ hlt
    have i4 := hN.ld hlt
    simp (config := {implicitDefEqProofs := false, maxDischargeDepth := 20}) (disch := first | omega | (simp only [lenE]; done) | (simp only [lenE]; omega) | rfl | (simp only [lenE, markR_len]; done) | (simp only [lenE, markR_len]; omega)) only [runE, mapE, listE, initT_5, initT_6, initT_7, initT_8, resV, oneV, binA, unA, reduceCtorEq, Nat.reduceEqDiff, Nat.reduceAdd, Nat.reduceLT, Nat.reduceLeDiff, Nat.reduceMul, Nat.reduceSub, ↓reduceIte, decide_true, decide_false, Bool.true_eq_false, Bool.false_eq_true, Bool.not_true, Bool.not_false, if_true, if_false, and_true, true_and, memE, celE, w64, Nat.zero_add, Nat.add_zero, Nat.mul_one, putL, and_self, ldn, tm, t0, t1, t5, l1, hlt', i1, i2, i3, i4]
    refine rcallH_rc (eqItem_rc _ _) ?_
    rintro r new ⟨rfl, hn⟩
    simp (config := {implicitDefEqProofs := false, maxDischargeDepth := 20}) (disch := first | omega | (simp only [lenE]; done) | (simp only [lenE]; omega) | rfl | (simp only [lenE, markR_len]; done) | (simp only [lenE, markR_len]; omega)) only [runE, mapE, listE, initT_5, initT_6, initT_7, initT_8, resV, oneV, binA, unA, reduceCtorEq, Nat.reduceEqDiff, Nat.reduceAdd, Nat.reduceLT, Nat.reduceLeDiff, Nat.reduceMul, Nat.reduceSub, ↓reduceIte, decide_true, decide_false, Bool.true_eq_false, Bool.false_eq_true, Bool.not_true, Bool.not_false, if_true, if_false, and_true, true_and, memE, celE, w64, Nat.zero_add, Nat.add_zero, Nat.mul_one, putL, and_self, ldn, tm, t0, t1, t5]
    refine ⟨⟨k + 1, _, by omega, rfl, hx.app hn, by simp⟩, ?_⟩
    simp [intOf]; omega
  · have hlt' : ¬ ((k : Int) < L.length) := by omega
    simp (config := {implicitDefEqProofs := false, maxDischargeDepth := 20}) (disch := first | omega | (simp only [lenE]; done) | (simp only [lenE]; omega) | rfl | (simp only [lenE, markR_len]; done) | (simp only [lenE, markR_len]; omega)) only [runE, mapE, listE, initT_5, initT_6, initT_7, initT_8, resV, oneV, binA, unA, reduceCtorEq, Nat.reduceEqDiff, Nat.reduceAdd, Nat.reduceLT, Nat.reduceLeDiff, Nat.reduceMul, Nat.reduceSub, ↓reduceIte, decide_true, decide_false, Bool.true_eq_false, Bool.false_eq_true, Bool.not_true, Bool.not_false, if_true, if_false, and_true, true_and, memE, celE, w64, Nat.zero_add, Nat.add_zero, Nat.mul_one, putL, and_self, ldn, tm, t0, t1, t5, l1, hlt']
    exact ext_ansV hx rfl
end Go.Proofs.Ytmjnjhdacliieaa.Ab
