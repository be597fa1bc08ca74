/- Lists read whatever their elements are; functions that are handed over, told by what they answer; searches and maps over such lists. -/
import Derived.Test.YtnkbjliidenldaaAbPc
namespace Go.Proofs.Ytnkbjliidenldaa.Ab
open Go Go.RowKit
set_option linter.unusedVariables false
set_option linter.unusedSimpArgs false

/-- What can be read stays so. -/
def Keeps (m M : Mem) : Prop := (∀ id k v, rdc m id k = some v → rdc M id k = some v) ∧ ∀ id off k xs, rdl m id off k = some xs → rdl M id off k = some xs
theorem Keeps.refl (m : Mem) : Keeps m m := ⟨fun _ _ _ h => h, fun _ _ _ _ h => h⟩
theorem Keeps.trans {a b c : Mem} (h : Keeps a b) (h' : Keeps b c) : Keeps a c := ⟨fun _ _ _ x => h'.1 _ _ _ (h.1 _ _ _ x), fun _ _ _ _ x => h'.2 _ _ _ _ (h.2 _ _ _ _ x)⟩
theorem Keeps.app (m new : Mem) : Keeps m (m ++ new) := ⟨fun _ _ _ h => rdc_ext h, fun _ _ _ _ h => rdl_ext h⟩
theorem Keeps.ro (m : Mem) : Keeps m (roM m) := ⟨fun _ _ _ h => by rw [rdc_roM]; exact h, fun _ _ _ _ h => by rw [rdl_roM]; exact h⟩
theorem Ext.keeps {m M : Mem} (h : Ext m M) : Keeps m M := by
  obtain ⟨new, rfl, _⟩ := h
  exact (Keeps.ro m).trans (Keeps.app _ _)
theorem Keeps.rdn {m M : Mem} (h : Keeps m M) {id : Nat} : ∀ (n off : Nat) (xs : List Value), rdn m id off n = some xs → rdn M id off n = some xs
  | 0, off, xs, hx => hx
  | n + 1, off, xs, hx => by
    simp only [Ab.rdn] at hx ⊢
    split at hx
    · rename_i x ys h1 h2
      rw [h.1 _ _ _ h1, h.rdn n _ _ h2]; exact hx
    · cases hx
theorem Keeps.ldA {m M : Mem} (h : Keeps m M) {n : Option Nat} {p v : Value} (hv : ldA m n p = some v) : ldA M n p = some v := by
  unfold Ab.ldA at hv ⊢
  split at hv
  · split at hv
    · exact h.1 _ _ _ hv
    · split at hv
      · rename_i xs hx
        rw [h.rdn _ _ _ hx]; exact hv
      · cases hv
  · cases hv
theorem Keeps.ints {m M : Mem} (h : Keeps m M) {v : Value} {l : List Int} (hi : IntsA m v l) : IntsA M v l :=
  ⟨hi.len, hi.bd, hi.at_, fun k hk => h.ldA (hi.ld k hk), by
    have := hi.src
    unfold slR at this ⊢
    split at this
    · exact this
    · exact h.2 _ _ _ _ this
    · cases this⟩
theorem Keeps.pcs {m M : Mem} (h : Keeps m M) {v : Value} {L : List Pc} (hi : PcsA m v L) : PcsA M v L := by
  obtain ⟨hb, id, fl, rfl, hc⟩ := hi
  refine ⟨hb, id, fl, rfl, fun k i hk hi => ?_⟩
  obtain ⟨u, hu⟩ := pcC_some (L.getD k Pc0) hi
  have := hc k i hk hi
  rw [hu] at this ⊢
  exact h.1 _ _ _ this
theorem Keeps.fl {m M : Mem} (h : Keeps m M) {v : Value} {s : Fl} (hi : FlA m v s) : FlA M v s := by
  obtain ⟨a, rfl, h1⟩ := hi
  exact ⟨a, rfl, h.ints h1⟩
/-- A list, to be read. -/
structure ElA (m : Mem) (sz : Nat) (n : Option Nat) (v : Value) (xs : List Value) : Prop where
  len : lenA v = some (.int .i64 xs.length)
  bd : xs.length ≤ 9223372036854775807
  at_ : ∀ k, k < xs.length → ∃ p, iadA sz v (.int .i64 (k : Int)) = some p ∧ ldA m n p = some (xs.getD k undef)
theorem ElA.keeps {m M : Mem} {sz : Nat} {n : Option Nat} {v : Value} {xs : List Value} (h : ElA m sz n v xs) (hk : Keeps m M) : ElA M sz n v xs :=
  ⟨h.len, h.bd, fun k hk2 => by obtain ⟨p, h1, h2⟩ := h.at_ k hk2; exact ⟨p, h1, hk.ldA h2⟩⟩
theorem IntsA.el {m : Mem} {v : Value} {l : List Int} (h : IntsA m v l) : ElA m 1 none v (l.map (Value.int .i64)) := by
  refine ⟨by rw [List.length_map]; exact h.len, by rw [List.length_map]; exact h.bd, fun k hk => ?_⟩
  rw [List.length_map] at hk
  refine ⟨_, h.at_ k hk, ?_⟩
  rw [h.ld k hk]; simp [List.getD_eq_getElem?_getD, List.getElem?_map, hk]
theorem PcsA.el {m : Mem} {v : Value} {L : List Pc} (h : PcsA m v L) : ElA m 3 (some 3) v (L.map pcV) := by
  refine ⟨by rw [List.length_map]; exact h.len, by rw [List.length_map]; exact h.1, fun k hk => ?_⟩
  rw [List.length_map] at hk
  refine ⟨_, h.at_ hk, ?_⟩
  rw [h.ld hk]; simp [List.getD_eq_getElem?_getD, List.getElem?_map, hk]
/-- A function that was handed over, told by what it answers. -/
def FunQ {α : Type} (m : Mem) (fv : Value) (enc : α → List Value) (D : α → Prop) (Q : α → Mem → Value → Mem → Prop) : Prop :=
  ∃ g cap, fv = .func (.func g) #[] cap ∧ ∀ M, Keeps m M → ∀ x, D x → RC Try.prog g (enc x ++ cap.toList) M (Q x M)
abbrev FunG {α : Type} (m : Mem) (fv : Value) (enc : α → List Value) (D : α → Prop) (out : α → Value) : Prop := FunQ m fv enc D (fun x _ => AnsV (out x))
theorem FunQ.keeps {α : Type} {m M : Mem} {fv : Value} {enc : α → List Value} {D : α → Prop} {Q : α → Mem → Value → Mem → Prop} (h : FunQ m fv enc D Q) (hk : Keeps m M) : FunQ M fv enc D Q := by
  obtain ⟨g, cap, h1, h2⟩ := h
  exact ⟨g, cap, h1, fun M' hM x hx => h2 M' (hk.trans hM) x hx⟩
theorem ansV_of {x r : Value} {new : Mem} (h : r = x ∧ new = []) : AnsV x r new := ⟨h.1, by rw [h.2]; exact noRo_nil⟩
theorem any_step {xs : List Value} {p : Value → Bool} {k : Nat} (h : k < xs.length) : (xs.drop k).any p = (p (xs.getD k undef) || (xs.drop (k + 1)).any p) := by
  rw [List.drop_eq_getElem_cons h, List.any_cons, List.getD_eq_getElem?_getD, List.getElem?_eq_getElem h]; rfl
theorem mem_getD {xs : List Value} {k : Nat} (h : k < xs.length) : xs.getD k undef ∈ xs := by
  rw [List.getD_eq_getElem?_getD, List.getElem?_eq_getElem h]; exact List.getElem_mem h
theorem take_map_s {xs : List Value} {f : Value → Int} {k : Nat} (h : k < xs.length) : (xs.take (k + 1)).map f = (xs.take k).map f ++ [f (xs.getD k undef)] := by
  rw [List.take_succ_eq_append_getElem h, List.map_append, List.getD_eq_getElem?_getD, List.getElem?_eq_getElem h]; rfl
theorem indexI_rc (m : Mem) (v fv : Value) (xs : List Value) (p : Value → Bool) (h : ElA m 1 none v xs) (hf : FunG m fv (fun x : Value => [x]) (· ∈ xs) (fun x => .bool (p x))) :
    RC Try.prog 138 [v, fv] m fun r new => (∃ i : Int, r = .int .i64 i ∧ decide (0 ≤ i) = xs.any p ∧ -1 ≤ i ∧ i ≤ xs.length) ∧ NoRo new := by
  refine rc_of_run mixed ok_slices_IndexFunc (by simp) (go_start _ _ _ ?_)
  obtain ⟨g, cap, rfl, hg⟩ := hf
  have hbd := h.bd
  simp (config := {implicitDefEqProofs := false, maxDischargeDepth := 20}) (disch := first | omega | (simp only [lenE]; done) | (simp only [lenE]; omega) | rfl | (simp only [lenE, markR_len]; done) | (simp only [lenE, markR_len]; omega)) only [runE, mapE, listE, initT_5, initT_6, initT_7, initT_8, resV, oneV, binA, unA, reduceCtorEq, Nat.reduceEqDiff, Nat.reduceAdd, Nat.reduceLT, Nat.reduceLeDiff, Nat.reduceMul, Nat.reduceSub, ↓reduceIte, decide_true, decide_false, Bool.true_eq_false, Bool.false_eq_true, Bool.not_true, Bool.not_false, if_true, if_false, and_true, true_and, memE, celE, w64, Nat.zero_add, Nat.add_zero, Nat.mul_one, putL, and_self, ldn, c_slices_IndexFunc, r_slices_IndexFunc, h.len]
  refine loop_inv mixed (fun s => ∃ (k : Nat) (M : Mem), k ≤ xs.length ∧ s.m = M ∧ Ext m M ∧ s.t 0 = v ∧ s.t 1 = .func (.func g) #[] cap ∧ s.t 7 = .int .i64 xs.length ∧ s.t 8 = .int .i64 k ∧ xs.any p = (xs.drop k).any p) (fun s => xs.length - (intOf (s.t 8)).toNat) ⟨0, _, by omega, rfl, Ext.refl m, rfl, rfl, rfl, rfl, rfl⟩ ?_
  rintro s ⟨k, M, hk, tm, hx, t0, t1, t7, t8, hall⟩
  by_cases hlt : k < xs.length
  · have hlt' : (k : Int) < xs.length := by omega
    obtain ⟨q, e3, e4⟩ := (h.keeps hx.keeps).at_ k hlt
    simp (config := {implicitDefEqProofs := false, maxDischargeDepth := 20}) (disch := first | omega | (simp only [lenE]; done) | (simp only [lenE]; omega) | rfl | (simp only [lenE, markR_len]; done) | (simp only [lenE, markR_len]; omega)) only [runE, mapE, listE, initT_5, initT_6, initT_7, initT_8, resV, oneV, binA, unA, reduceCtorEq, Nat.reduceEqDiff, Nat.reduceAdd, Nat.reduceLT, Nat.reduceLeDiff, Nat.reduceMul, Nat.reduceSub, ↓reduceIte, decide_true, decide_false, Bool.true_eq_false, Bool.false_eq_true, Bool.not_true, Bool.not_false, if_true, if_false, and_true, true_and, memE, celE, w64, Nat.zero_add, Nat.add_zero, Nat.mul_one, putL, and_self, ldn, t0, t1, t7, t8, tm, e3, e4, hlt']
    refine callH_rc (hg M hx.keeps _ (mem_getD hlt)) ?_
    intro r new hA
    obtain ⟨hr, hn⟩ : r = .bool (p (xs.getD k undef)) ∧ NoRo new := hA
    subst hr
    rw [any_step hlt] at hall
    cases hb : p (xs.getD k undef) with
    | true =>
      simp (config := {implicitDefEqProofs := false, maxDischargeDepth := 20}) (disch := first | omega | (simp only [lenE]; done) | (simp only [lenE]; omega) | rfl | (simp only [lenE, markR_len]; done) | (simp only [lenE, markR_len]; omega)) only [runE, mapE, listE, initT_5, initT_6, initT_7, initT_8, resV, oneV, binA, unA, reduceCtorEq, Nat.reduceEqDiff, Nat.reduceAdd, Nat.reduceLT, Nat.reduceLeDiff, Nat.reduceMul, Nat.reduceSub, ↓reduceIte, decide_true, decide_false, Bool.true_eq_false, Bool.false_eq_true, Bool.not_true, Bool.not_false, if_true, if_false, and_true, true_and, memE, celE, w64, Nat.zero_add, Nat.add_zero, Nat.mul_one, putL, and_self, ldn, t0, t1, t7, t8, tm]
      obtain ⟨n0, he, h0⟩ := hx.app hn
      exact ⟨n0, he, h0, ⟨_, rfl, by rw [hall, hb, Bool.true_or]; exact decide_eq_true (by omega), by omega, by omega⟩, h0⟩
    | false =>
      simp (config := {implicitDefEqProofs := false, maxDischargeDepth := 20}) (disch := first | omega | (simp only [lenE]; done) | (simp only [lenE]; omega) | rfl | (simp only [lenE, markR_len]; done) | (simp only [lenE, markR_len]; omega)) only [runE, mapE, listE, initT_5, initT_6, initT_7, initT_8, resV, oneV, binA, unA, reduceCtorEq, Nat.reduceEqDiff, Nat.reduceAdd, Nat.reduceLT, Nat.reduceLeDiff, Nat.reduceMul, Nat.reduceSub, ↓reduceIte, decide_true, decide_false, Bool.true_eq_false, Bool.false_eq_true, Bool.not_true, Bool.not_false, if_true, if_false, and_true, true_and, memE, celE, w64, Nat.zero_add, Nat.add_zero, Nat.mul_one, putL, and_self, ldn, t0, t1, t7, t8, tm]
      rw [hb, Bool.false_or] at hall
      refine ⟨⟨k + 1, _, by omega, rfl, hx.app hn, by simp, hall⟩, ?_⟩
      simp [intOf]; omega
  · have hlt' : ¬ ((k : Int) < xs.length) := by omega
    simp (config := {implicitDefEqProofs := false, maxDischargeDepth := 20}) (disch := first | omega | (simp only [lenE]; done) | (simp only [lenE]; omega) | rfl | (simp only [lenE, markR_len]; done) | (simp only [lenE, markR_len]; omega)) only [runE, mapE, listE, initT_5, initT_6, initT_7, initT_8, resV, oneV, binA, unA, reduceCtorEq, Nat.reduceEqDiff, Nat.reduceAdd, Nat.reduceLT, Nat.reduceLeDiff, Nat.reduceMul, Nat.reduceSub, ↓reduceIte, decide_true, decide_false, Bool.true_eq_false, Bool.false_eq_true, Bool.not_true, Bool.not_false, if_true, if_false, and_true, true_and, memE, celE, w64, Nat.zero_add, Nat.add_zero, Nat.mul_one, putL, and_self, ldn, t0, t1, t7, t8, tm, hlt']
    obtain ⟨n0, he, h0⟩ := hx
    rw [List.drop_eq_nil_of_le (by omega)] at hall
    exact ⟨n0, he, h0, ⟨_, rfl, by rw [hall]; rfl, by omega, by omega⟩, h0⟩
theorem containsI_rc (m : Mem) (v fv : Value) (xs : List Value) (p : Value → Bool) (h : ElA m 1 none v xs) (hf : FunG m fv (fun x : Value => [x]) (· ∈ xs) (fun x => .bool (p x))) :
    RC Try.prog 119 [v, fv] m (AnsV (.bool (xs.any p))) := by
  refine rc_of_run mixed ok_slices_ContainsFunc (by simp) (go_start _ _ _ ?_)
  simp (config := {implicitDefEqProofs := false, maxDischargeDepth := 20}) (disch := first | omega | (simp only [lenE]; done) | (simp only [lenE]; omega) | rfl | (simp only [lenE, markR_len]; done) | (simp only [lenE, markR_len]; omega)) only [runE, mapE, listE, initT_5, initT_6, initT_7, initT_8, resV, oneV, binA, unA, reduceCtorEq, Nat.reduceEqDiff, Nat.reduceAdd, Nat.reduceLT, Nat.reduceLeDiff, Nat.reduceMul, Nat.reduceSub, ↓reduceIte, decide_true, decide_false, Bool.true_eq_false, Bool.false_eq_true, Bool.not_true, Bool.not_false, if_true, if_false, and_true, true_and, memE, celE, w64, Nat.zero_add, Nat.add_zero, Nat.mul_one, putL, and_self, ldn, c_slices_ContainsFunc, r_slices_ContainsFunc]
  refine callH_rc (indexI_rc _ v fv xs p (h.keeps (Keeps.ro m)) (hf.keeps (Keeps.ro m))) ?_
  rintro r new ⟨⟨i, rfl, hi, _, _⟩, hn⟩
  simp (config := {implicitDefEqProofs := false, maxDischargeDepth := 20}) (disch := first | omega | (simp only [lenE]; done) | (simp only [lenE]; omega) | rfl | (simp only [lenE, markR_len]; done) | (simp only [lenE, markR_len]; omega)) only [runE, mapE, listE, initT_5, initT_6, initT_7, initT_8, resV, oneV, binA, unA, reduceCtorEq, Nat.reduceEqDiff, Nat.reduceAdd, Nat.reduceLT, Nat.reduceLeDiff, Nat.reduceMul, Nat.reduceSub, ↓reduceIte, decide_true, decide_false, Bool.true_eq_false, Bool.false_eq_true, Bool.not_true, Bool.not_false, if_true, if_false, and_true, true_and, memE, celE, w64, Nat.zero_add, Nat.add_zero, Nat.mul_one, putL, and_self, ldn, ge_iff_le, hi]
  exact ext_ansV ((Ext.refl m).app hn) rfl
theorem areAtMostI_rc (m : Mem) (v fv : Value) (xs : List Value) (p : Value → Bool) (most : Int) (h : ElA m 1 none v xs) (hf : FunG m fv (fun x : Value => [x]) (· ∈ xs) (fun x => .bool (p x))) :
    RC Try.prog 69 [.int .i64 most, v, fv] m (AnsV (.bool (decide ((xs.length : Int) ≤ most) && xs.all p))) := by
  refine rc_of_run mixed ok_impl_areAtMost (by simp) (go_start _ _ _ ?_)
  obtain ⟨g, cap, rfl, hg⟩ := hf
  by_cases hl : (xs.length : Int) ≤ most
  · simp (config := {implicitDefEqProofs := false, maxDischargeDepth := 20}) (disch := first | omega | (simp only [lenE]; done) | (simp only [lenE]; omega) | rfl | (simp only [lenE, markR_len]; done) | (simp only [lenE, markR_len]; omega)) only [runE, mapE, listE, initT_5, initT_6, initT_7, initT_8, resV, oneV, binA, unA, reduceCtorEq, Nat.reduceEqDiff, Nat.reduceAdd, Nat.reduceLT, Nat.reduceLeDiff, Nat.reduceMul, Nat.reduceSub, ↓reduceIte, decide_true, decide_false, Bool.true_eq_false, Bool.false_eq_true, Bool.not_true, Bool.not_false, if_true, if_false, and_true, true_and, memE, celE, w64, Nat.zero_add, Nat.add_zero, Nat.mul_one, putL, and_self, ldn, c_impl_areAtMost, r_impl_areAtMost, h.len, hl]
    have hx : Ext m (roM m ++ [⟨.own, 80, [.func (.func g) #[] cap]⟩]) := (Ext.refl m).one _ _
    refine callH_rc (containsI_rc _ v _ xs (fun x => !p x) (h.keeps hx.keeps) ⟨_, _, rfl, fun M hM x hxm => ?_⟩) ?_
    · refine rc_of_run mixed ok_impl_areAtMost_1 (by simp) (go_start _ _ _ ?_)
      have hb : rdc (roM M) m.length 0 = some (.func (.func g) #[] cap) := by
        rw [rdc_roM]
        refine hM.1 _ _ _ ?_
        rw [rdc_box (by rw [roM_len])]; rfl
      simp (config := {implicitDefEqProofs := false, maxDischargeDepth := 20}) (disch := first | omega | (simp only [lenE]; done) | (simp only [lenE]; omega) | rfl | (simp only [lenE, markR_len]; done) | (simp only [lenE, markR_len]; omega)) only [runE, mapE, listE, initT_5, initT_6, initT_7, initT_8, resV, oneV, binA, unA, reduceCtorEq, Nat.reduceEqDiff, Nat.reduceAdd, Nat.reduceLT, Nat.reduceLeDiff, Nat.reduceMul, Nat.reduceSub, ↓reduceIte, decide_true, decide_false, Bool.true_eq_false, Bool.false_eq_true, Bool.not_true, Bool.not_false, if_true, if_false, and_true, true_and, memE, celE, w64, Nat.zero_add, Nat.add_zero, Nat.mul_one, putL, and_self, ldn, c_impl_areAtMost_1, r_impl_areAtMost_1, hb, fun new => rdc_ext (new := new) hb]
      refine callH_rc (hg _ ((hx.keeps.trans hM).trans (Keeps.ro M)) x hxm) ?_
      intro r new hA
      obtain ⟨hr, hn⟩ : r = .bool (p x) ∧ NoRo new := hA
      subst hr
      simp (config := {implicitDefEqProofs := false, maxDischargeDepth := 20}) (disch := first | omega | (simp only [lenE]; done) | (simp only [lenE]; omega) | rfl | (simp only [lenE, markR_len]; done) | (simp only [lenE, markR_len]; omega)) only [runE, mapE, listE, initT_5, initT_6, initT_7, initT_8, resV, oneV, binA, unA, reduceCtorEq, Nat.reduceEqDiff, Nat.reduceAdd, Nat.reduceLT, Nat.reduceLeDiff, Nat.reduceMul, Nat.reduceSub, ↓reduceIte, decide_true, decide_false, Bool.true_eq_false, Bool.false_eq_true, Bool.not_true, Bool.not_false, if_true, if_false, and_true, true_and, memE, celE, w64, Nat.zero_add, Nat.add_zero, Nat.mul_one, putL, and_self, ldn]
      exact ext_ansV ((Ext.refl M).app hn) rfl
    · rintro r new ⟨rfl, hn⟩
      simp (config := {implicitDefEqProofs := false, maxDischargeDepth := 20}) (disch := first | omega | (simp only [lenE]; done) | (simp only [lenE]; omega) | rfl | (simp only [lenE, markR_len]; done) | (simp only [lenE, markR_len]; omega)) only [runE, mapE, listE, initT_5, initT_6, initT_7, initT_8, resV, oneV, binA, unA, reduceCtorEq, Nat.reduceEqDiff, Nat.reduceAdd, Nat.reduceLT, Nat.reduceLeDiff, Nat.reduceMul, Nat.reduceSub, ↓reduceIte, decide_true, decide_false, Bool.true_eq_false, Bool.false_eq_true, Bool.not_true, Bool.not_false, if_true, if_false, and_true, true_and, memE, celE, w64, Nat.zero_add, Nat.add_zero, Nat.mul_one, putL, and_self, ldn]
      refine ext_ansV (hx.app hn) ?_
      rw [List.any_eq_not_all_not]
      simp
  · simp (config := {implicitDefEqProofs := false, maxDischargeDepth := 20}) (disch := first | omega | (simp only [lenE]; done) | (simp only [lenE]; omega) | rfl | (simp only [lenE, markR_len]; done) | (simp only [lenE, markR_len]; omega)) only [runE, mapE, listE, initT_5, initT_6, initT_7, initT_8, resV, oneV, binA, unA, reduceCtorEq, Nat.reduceEqDiff, Nat.reduceAdd, Nat.reduceLT, Nat.reduceLeDiff, Nat.reduceMul, Nat.reduceSub, ↓reduceIte, decide_true, decide_false, Bool.true_eq_false, Bool.false_eq_true, Bool.not_true, Bool.not_false, if_true, if_false, and_true, true_and, memE, celE, w64, Nat.zero_add, Nat.add_zero, Nat.mul_one, putL, and_self, ldn, c_impl_areAtMost, r_impl_areAtMost, h.len, hl]
    exact ext_ansV ((Ext.refl m).one _ _) (by simp)
theorem indexP_rc (m : Mem) (v fv : Value) (xs : List Value) (p : Value → Bool) (h : ElA m 3 (some 3) v xs) (hf : FunG m fv (fun x : Value => [x]) (· ∈ xs) (fun x => .bool (p x))) :
    RC Try.prog 134 [v, fv] m fun r new => (∃ i : Int, r = .int .i64 i ∧ decide (0 ≤ i) = xs.any p ∧ -1 ≤ i ∧ i ≤ xs.length) ∧ NoRo new := by
  refine rc_of_run mixed ok_slices_IndexFunc_Parcel (by simp) (go_start _ _ _ ?_)
  obtain ⟨g, cap, rfl, hg⟩ := hf
  have hbd := h.bd
  simp (config := {implicitDefEqProofs := false, maxDischargeDepth := 20}) (disch := first | omega | (simp only [lenE]; done) | (simp only [lenE]; omega) | rfl | (simp only [lenE, markR_len]; done) | (simp only [lenE, markR_len]; omega)) only [runE, mapE, listE, initT_5, initT_6, initT_7, initT_8, resV, oneV, binA, unA, reduceCtorEq, Nat.reduceEqDiff, Nat.reduceAdd, Nat.reduceLT, Nat.reduceLeDiff, Nat.reduceMul, Nat.reduceSub, ↓reduceIte, decide_true, decide_false, Bool.true_eq_false, Bool.false_eq_true, Bool.not_true, Bool.not_false, if_true, if_false, and_true, true_and, memE, celE, w64, Nat.zero_add, Nat.add_zero, Nat.mul_one, putL, and_self, ldn, c_slices_IndexFunc_Parcel, r_slices_IndexFunc_Parcel, h.len]
  refine loop_inv mixed (fun s => ∃ (k : Nat) (M : Mem), k ≤ xs.length ∧ s.m = M ∧ Ext m M ∧ s.t 0 = v ∧ s.t 1 = .func (.func g) #[] cap ∧ s.t 7 = .int .i64 xs.length ∧ s.t 8 = .int .i64 k ∧ xs.any p = (xs.drop k).any p) (fun s => xs.length - (intOf (s.t 8)).toNat) ⟨0, _, by omega, rfl, Ext.refl m, rfl, rfl, rfl, rfl, rfl⟩ ?_
  rintro s ⟨k, M, hk, tm, hx, t0, t1, t7, t8, hall⟩
  by_cases hlt : k < xs.length
  · have hlt' : (k : Int) < xs.length := by omega
    obtain ⟨q, e3, e4⟩ := (h.keeps hx.keeps).at_ k hlt
    simp (config := {implicitDefEqProofs := false, maxDischargeDepth := 20}) (disch := first | omega | (simp only [lenE]; done) | (simp only [lenE]; omega) | rfl | (simp only [lenE, markR_len]; done) | (simp only [lenE, markR_len]; omega)) only [runE, mapE, listE, initT_5, initT_6, initT_7, initT_8, resV, oneV, binA, unA, reduceCtorEq, Nat.reduceEqDiff, Nat.reduceAdd, Nat.reduceLT, Nat.reduceLeDiff, Nat.reduceMul, Nat.reduceSub, ↓reduceIte, decide_true, decide_false, Bool.true_eq_false, Bool.false_eq_true, Bool.not_true, Bool.not_false, if_true, if_false, and_true, true_and, memE, celE, w64, Nat.zero_add, Nat.add_zero, Nat.mul_one, putL, and_self, ldn, t0, t1, t7, t8, tm, e3, e4, hlt']
    refine callH_rc (hg M hx.keeps _ (mem_getD hlt)) ?_
    intro r new hA
    obtain ⟨hr, hn⟩ : r = .bool (p (xs.getD k undef)) ∧ NoRo new := hA
    subst hr
    rw [any_step hlt] at hall
    cases hb : p (xs.getD k undef) with
    | true =>
      simp (config := {implicitDefEqProofs := false, maxDischargeDepth := 20}) (disch := first | omega | (simp only [lenE]; done) | (simp only [lenE]; omega) | rfl | (simp only [lenE, markR_len]; done) | (simp only [lenE, markR_len]; omega)) only [runE, mapE, listE, initT_5, initT_6, initT_7, initT_8, resV, oneV, binA, unA, reduceCtorEq, Nat.reduceEqDiff, Nat.reduceAdd, Nat.reduceLT, Nat.reduceLeDiff, Nat.reduceMul, Nat.reduceSub, ↓reduceIte, decide_true, decide_false, Bool.true_eq_false, Bool.false_eq_true, Bool.not_true, Bool.not_false, if_true, if_false, and_true, true_and, memE, celE, w64, Nat.zero_add, Nat.add_zero, Nat.mul_one, putL, and_self, ldn, t0, t1, t7, t8, tm]
      obtain ⟨n0, he, h0⟩ := hx.app hn
      exact ⟨n0, he, h0, ⟨_, rfl, by rw [hall, hb, Bool.true_or]; exact decide_eq_true (by omega), by omega, by omega⟩, h0⟩
    | false =>
      simp (config := {implicitDefEqProofs := false, maxDischargeDepth := 20}) (disch := first | omega | (simp only [lenE]; done) | (simp only [lenE]; omega) | rfl | (simp only [lenE, markR_len]; done) | (simp only [lenE, markR_len]; omega)) only [runE, mapE, listE, initT_5, initT_6, initT_7, initT_8, resV, oneV, binA, unA, reduceCtorEq, Nat.reduceEqDiff, Nat.reduceAdd, Nat.reduceLT, Nat.reduceLeDiff, Nat.reduceMul, Nat.reduceSub, ↓reduceIte, decide_true, decide_false, Bool.true_eq_false, Bool.false_eq_true, Bool.not_true, Bool.not_false, if_true, if_false, and_true, true_and, memE, celE, w64, Nat.zero_add, Nat.add_zero, Nat.mul_one, putL, and_self, ldn, t0, t1, t7, t8, tm]
      rw [hb, Bool.false_or] at hall
      refine ⟨⟨k + 1, _, by omega, rfl, hx.app hn, by simp, hall⟩, ?_⟩
      simp [intOf]; omega
  · have hlt' : ¬ ((k : Int) < xs.length) := by omega
    simp (config := {implicitDefEqProofs := false, maxDischargeDepth := 20}) (disch := first | omega | (simp only [lenE]; done) | (simp only [lenE]; omega) | rfl | (simp only [lenE, markR_len]; done) | (simp only [lenE, markR_len]; omega)) only [runE, mapE, listE, initT_5, initT_6, initT_7, initT_8, resV, oneV, binA, unA, reduceCtorEq, Nat.reduceEqDiff, Nat.reduceAdd, Nat.reduceLT, Nat.reduceLeDiff, Nat.reduceMul, Nat.reduceSub, ↓reduceIte, decide_true, decide_false, Bool.true_eq_false, Bool.false_eq_true, Bool.not_true, Bool.not_false, if_true, if_false, and_true, true_and, memE, celE, w64, Nat.zero_add, Nat.add_zero, Nat.mul_one, putL, and_self, ldn, t0, t1, t7, t8, tm, hlt']
    obtain ⟨n0, he, h0⟩ := hx
    rw [List.drop_eq_nil_of_le (by omega)] at hall
    exact ⟨n0, he, h0, ⟨_, rfl, by rw [hall]; rfl, by omega, by omega⟩, h0⟩
theorem containsP_rc (m : Mem) (v fv : Value) (xs : List Value) (p : Value → Bool) (h : ElA m 3 (some 3) v xs) (hf : FunG m fv (fun x : Value => [x]) (· ∈ xs) (fun x => .bool (p x))) :
    RC Try.prog 110 [v, fv] m (AnsV (.bool (xs.any p))) := by
  refine rc_of_run mixed ok_slices_ContainsFunc_Parcel (by simp) (go_start _ _ _ ?_)
  simp (config := {implicitDefEqProofs := false, maxDischargeDepth := 20}) (disch := first | omega | (simp only [lenE]; done) | (simp only [lenE]; omega) | rfl | (simp only [lenE, markR_len]; done) | (simp only [lenE, markR_len]; omega)) only [runE, mapE, listE, initT_5, initT_6, initT_7, initT_8, resV, oneV, binA, unA, reduceCtorEq, Nat.reduceEqDiff, Nat.reduceAdd, Nat.reduceLT, Nat.reduceLeDiff, Nat.reduceMul, Nat.reduceSub, ↓reduceIte, decide_true, decide_false, Bool.true_eq_false, Bool.false_eq_true, Bool.not_true, Bool.not_false, if_true, if_false, and_true, true_and, memE, celE, w64, Nat.zero_add, Nat.add_zero, Nat.mul_one, putL, and_self, ldn, c_slices_ContainsFunc_Parcel, r_slices_ContainsFunc_Parcel]
  refine callH_rc (indexP_rc _ v fv xs p (h.keeps (Keeps.ro m)) (hf.keeps (Keeps.ro m))) ?_
  rintro r new ⟨⟨i, rfl, hi, _, _⟩, hn⟩
  simp (config := {implicitDefEqProofs := false, maxDischargeDepth := 20}) (disch := first | omega | (simp only [lenE]; done) | (simp only [lenE]; omega) | rfl | (simp only [lenE, markR_len]; done) | (simp only [lenE, markR_len]; omega)) only [runE, mapE, listE, initT_5, initT_6, initT_7, initT_8, resV, oneV, binA, unA, reduceCtorEq, Nat.reduceEqDiff, Nat.reduceAdd, Nat.reduceLT, Nat.reduceLeDiff, Nat.reduceMul, Nat.reduceSub, ↓reduceIte, decide_true, decide_false, Bool.true_eq_false, Bool.false_eq_true, Bool.not_true, Bool.not_false, if_true, if_false, and_true, true_and, memE, celE, w64, Nat.zero_add, Nat.add_zero, Nat.mul_one, putL, and_self, ldn, ge_iff_le, hi]
  exact ext_ansV ((Ext.refl m).app hn) rfl
theorem areAtMostP_rc (m : Mem) (v fv : Value) (xs : List Value) (p : Value → Bool) (most : Int) (h3 : ∀ x ∈ xs, ∃ a b c, x = .agg #[a, b, c] ∧ onesB [a, b, c] = true) (h : ElA m 3 (some 3) v xs) (hf : FunG m fv (fun x : Value => [x]) (· ∈ xs) (fun x => .bool (p x))) :
    RC Try.prog 131 [.int .i64 most, v, fv] m (AnsV (.bool (decide ((xs.length : Int) ≤ most) && xs.all p))) := by
  refine rc_of_run mixed ok_impl_areAtMost_Parcel (by simp) (go_start _ _ _ ?_)
  obtain ⟨g, cap, rfl, hg⟩ := hf
  by_cases hl : (xs.length : Int) ≤ most
  · simp (config := {implicitDefEqProofs := false, maxDischargeDepth := 20}) (disch := first | omega | (simp only [lenE]; done) | (simp only [lenE]; omega) | rfl | (simp only [lenE, markR_len]; done) | (simp only [lenE, markR_len]; omega)) only [runE, mapE, listE, initT_5, initT_6, initT_7, initT_8, resV, oneV, binA, unA, reduceCtorEq, Nat.reduceEqDiff, Nat.reduceAdd, Nat.reduceLT, Nat.reduceLeDiff, Nat.reduceMul, Nat.reduceSub, ↓reduceIte, decide_true, decide_false, Bool.true_eq_false, Bool.false_eq_true, Bool.not_true, Bool.not_false, if_true, if_false, and_true, true_and, memE, celE, w64, Nat.zero_add, Nat.add_zero, Nat.mul_one, putL, and_self, ldn, c_impl_areAtMost_Parcel, r_impl_areAtMost_Parcel, h.len, hl]
    have hx : Ext m (roM m ++ [⟨.own, 119, [.func (.func g) #[] cap]⟩]) := (Ext.refl m).one _ _
    refine callH_rc (containsP_rc _ v _ xs (fun x => !p x) (h.keeps hx.keeps) ⟨_, _, rfl, fun M hM x hxm => ?_⟩) ?_
    · refine rc_of_run mixed ok_impl_areAtMost_1_Parcel (by simp) (go_start _ _ _ ?_)
      have hb : rdc (roM M) m.length 0 = some (.func (.func g) #[] cap) := by
        rw [rdc_roM]
        refine hM.1 _ _ _ ?_
        rw [rdc_box (by rw [roM_len])]; rfl
      obtain ⟨a, b, c, rfl, ho3⟩ := h3 _ hxm
      simp (config := {implicitDefEqProofs := false, maxDischargeDepth := 20}) (disch := first | omega | (simp only [lenE]; done) | (simp only [lenE]; omega) | rfl | (simp only [lenE, markR_len]; done) | (simp only [lenE, markR_len]; omega)) only [runE, mapE, listE, initT_5, initT_6, initT_7, initT_8, resV, oneV, binA, unA, reduceCtorEq, Nat.reduceEqDiff, Nat.reduceAdd, Nat.reduceLT, Nat.reduceLeDiff, Nat.reduceMul, Nat.reduceSub, ↓reduceIte, decide_true, decide_false, Bool.true_eq_false, Bool.false_eq_true, Bool.not_true, Bool.not_false, if_true, if_false, and_true, true_and, memE, celE, w64, Nat.zero_add, Nat.add_zero, Nat.mul_one, putL, and_self, ldn, c_impl_areAtMost_1_Parcel, r_impl_areAtMost_1_Parcel, hb, fun new => rdc_ext (new := new) hb]
      refine callH_rc (hg _ (((hx.keeps.trans hM).trans (Keeps.ro M)).trans (Keeps.app _ _)) (.agg #[a, b, c]) hxm) ?_
      intro r new hA
      obtain ⟨hr, hn⟩ : r = .bool (p (.agg #[a, b, c])) ∧ NoRo new := hA
      subst hr
      simp (config := {implicitDefEqProofs := false, maxDischargeDepth := 20}) (disch := first | omega | (simp only [lenE]; done) | (simp only [lenE]; omega) | rfl | (simp only [lenE, markR_len]; done) | (simp only [lenE, markR_len]; omega)) only [runE, mapE, listE, initT_5, initT_6, initT_7, initT_8, resV, oneV, binA, unA, reduceCtorEq, Nat.reduceEqDiff, Nat.reduceAdd, Nat.reduceLT, Nat.reduceLeDiff, Nat.reduceMul, Nat.reduceSub, ↓reduceIte, decide_true, decide_false, Bool.true_eq_false, Bool.false_eq_true, Bool.not_true, Bool.not_false, if_true, if_false, and_true, true_and, memE, celE, w64, Nat.zero_add, Nat.add_zero, Nat.mul_one, putL, and_self, ldn]
      exact ext_ansV (((Ext.refl M).one _ _).app hn) rfl
    · rintro r new ⟨rfl, hn⟩
      simp (config := {implicitDefEqProofs := false, maxDischargeDepth := 20}) (disch := first | omega | (simp only [lenE]; done) | (simp only [lenE]; omega) | rfl | (simp only [lenE, markR_len]; done) | (simp only [lenE, markR_len]; omega)) only [runE, mapE, listE, initT_5, initT_6, initT_7, initT_8, resV, oneV, binA, unA, reduceCtorEq, Nat.reduceEqDiff, Nat.reduceAdd, Nat.reduceLT, Nat.reduceLeDiff, Nat.reduceMul, Nat.reduceSub, ↓reduceIte, decide_true, decide_false, Bool.true_eq_false, Bool.false_eq_true, Bool.not_true, Bool.not_false, if_true, if_false, and_true, true_and, memE, celE, w64, Nat.zero_add, Nat.add_zero, Nat.mul_one, putL, and_self, ldn]
      refine ext_ansV (hx.app hn) ?_
      rw [List.any_eq_not_all_not]
      simp
  · simp (config := {implicitDefEqProofs := false, maxDischargeDepth := 20}) (disch := first | omega | (simp only [lenE]; done) | (simp only [lenE]; omega) | rfl | (simp only [lenE, markR_len]; done) | (simp only [lenE, markR_len]; omega)) only [runE, mapE, listE, initT_5, initT_6, initT_7, initT_8, resV, oneV, binA, unA, reduceCtorEq, Nat.reduceEqDiff, Nat.reduceAdd, Nat.reduceLT, Nat.reduceLeDiff, Nat.reduceMul, Nat.reduceSub, ↓reduceIte, decide_true, decide_false, Bool.true_eq_false, Bool.false_eq_true, Bool.not_true, Bool.not_false, if_true, if_false, and_true, true_and, memE, celE, w64, Nat.zero_add, Nat.add_zero, Nat.mul_one, putL, and_self, ldn, c_impl_areAtMost_Parcel, r_impl_areAtMost_Parcel, h.len, hl]
    exact ext_ansV ((Ext.refl m).one _ _) (by simp)
theorem eachI_rc (m : Mem) (v fv : Value) (xs : List Value) (f : Value → Int) (h : ElA m 1 none v xs) (hf : FunG m fv (fun x : Value => [x]) (· ∈ xs) (fun x => .int .i64 (f x))) (hl : xs.length ≤ 1000) :
    RC Try.prog 97 [v, fv] m (AnsR m (xs.map f)) := by
  refine rc_of_run mixed ok_impl_each (by simp) (go_start _ _ _ ?_)
  obtain ⟨g, cap, rfl, hg⟩ := hf
  simp (config := {implicitDefEqProofs := false, maxDischargeDepth := 20}) (disch := first | omega | (simp only [lenE]; done) | (simp only [lenE]; omega) | rfl | (simp only [lenE, markR_len]; done) | (simp only [lenE, markR_len]; omega)) only [runE, mapE, listE, initT_5, initT_6, initT_7, initT_8, resV, oneV, binA, unA, reduceCtorEq, Nat.reduceEqDiff, Nat.reduceAdd, Nat.reduceLT, Nat.reduceLeDiff, Nat.reduceMul, Nat.reduceSub, ↓reduceIte, decide_true, decide_false, Bool.true_eq_false, Bool.false_eq_true, Bool.not_true, Bool.not_false, if_true, if_false, and_true, true_and, memE, celE, w64, Nat.zero_add, Nat.add_zero, Nat.mul_one, putL, and_self, ldn, c_impl_each, r_impl_each, h.len, bsl_none]
  refine loop_inv mixed (fun s => ∃ (k : Nat) (M : Mem) (id : Nat), k ≤ xs.length ∧ s.m = M ∧ Ext m M ∧ OwnR M id ((xs.take k).map f) ∧ m.length ≤ id ∧ s.t 1 = .func (.func g) #[] cap ∧ s.t 5 = .slice (some ⟨id, 0, none⟩) k 1 ∧ s.t 9 = v ∧ s.t 10 = .int .i64 xs.length ∧ s.t 11 = .int .i64 k) (fun s => xs.length - (intOf (s.t 11)).toNat)
    ⟨0, _, m.length, by omega, rfl, (Ext.refl m).one _ _, by have := OwnR.at_end (roM m) []; rwa [roM_len] at this, by omega, rfl, rfl, rfl, rfl, rfl⟩ ?_
  rintro s ⟨k, M, id, hk, tm, hx, ho, hid, t1, t5, t9, t10, t11⟩
  by_cases hlt : k < xs.length
  · have hlt' : (k : Int) < xs.length := by omega
    obtain ⟨q, e3, e4⟩ := (h.keeps hx.keeps).at_ k hlt
    have hmem := mem_getD hlt
    simp (config := {implicitDefEqProofs := false, maxDischargeDepth := 20}) (disch := first | omega | (simp only [lenE]; done) | (simp only [lenE]; omega) | rfl | (simp only [lenE, markR_len]; done) | (simp only [lenE, markR_len]; omega)) only [runE, mapE, listE, initT_5, initT_6, initT_7, initT_8, resV, oneV, binA, unA, reduceCtorEq, Nat.reduceEqDiff, Nat.reduceAdd, Nat.reduceLT, Nat.reduceLeDiff, Nat.reduceMul, Nat.reduceSub, ↓reduceIte, decide_true, decide_false, Bool.true_eq_false, Bool.false_eq_true, Bool.not_true, Bool.not_false, if_true, if_false, and_true, true_and, memE, celE, w64, Nat.zero_add, Nat.add_zero, Nat.mul_one, putL, and_self, ldn, tm, t1, t5, t9, t10, t11, e3, e4, hlt']
    refine callH_rc (hg M hx.keeps (xs.getD k undef) hmem) ?_
    intro r new hA
    obtain ⟨hr, hn⟩ : r = .int .i64 (f (xs.getD k undef)) ∧ NoRo new := hA
    subst hr
    obtain ⟨M1, hM1⟩ : ∃ M', M' = M ++ new := ⟨_, rfl⟩
    rw [← hM1]
    have hx1 : Ext m M1 := by rw [hM1]; exact hx.app hn
    have ho1 : OwnR M1 id ((xs.take k).map f) := by rw [hM1]; exact ho.ext _
    clear hM1
    have ha := app_num (x := f (xs.getD k undef)) (id2 := M1.length) (n := k) ho1 (by simp; omega) rfl (by simp; omega)
    simp (config := {implicitDefEqProofs := false, maxDischargeDepth := 20}) (disch := first | omega | (simp only [lenE]; done) | (simp only [lenE]; omega) | rfl | (simp only [lenE, markR_len]; done) | (simp only [lenE, markR_len]; omega)) only [runE, mapE, listE, initT_5, initT_6, initT_7, initT_8, resV, oneV, binA, unA, reduceCtorEq, Nat.reduceEqDiff, Nat.reduceAdd, Nat.reduceLT, Nat.reduceLeDiff, Nat.reduceMul, Nat.reduceSub, ↓reduceIte, decide_true, decide_false, Bool.true_eq_false, Bool.false_eq_true, Bool.not_true, Bool.not_false, if_true, if_false, and_true, true_and, memE, celE, w64, Nat.zero_add, Nat.add_zero, Nat.mul_one, putL, and_self, ldn, tm, t1, t5, t9, t10, t11, bsl_one, ha]
    refine ⟨⟨k + 1, _, M1.length + 1, by omega, rfl, ((hx1.dead hid).one _ _).one _ _, ?_, by have := hx1.len; omega, rfl, by simp⟩, ?_⟩
    · rw [take_map_s hlt]
      have := OwnR.at_end (M1.set id deadB ++ [⟨.own, 3, [.int .i64 (f (xs.getD k undef))]⟩]) ((xs.take k).map f ++ [f (xs.getD k undef)])
      simpa using this
    · simp [intOf]; omega
  · have hlt' : ¬ ((k : Int) < xs.length) := by omega
    have e : k = xs.length := by omega
    subst e
    rw [List.take_length] at ho
    simp (config := {implicitDefEqProofs := false, maxDischargeDepth := 20}) (disch := first | omega | (simp only [lenE]; done) | (simp only [lenE]; omega) | rfl | (simp only [lenE, markR_len]; done) | (simp only [lenE, markR_len]; omega)) only [runE, mapE, listE, initT_5, initT_6, initT_7, initT_8, resV, oneV, binA, unA, reduceCtorEq, Nat.reduceEqDiff, Nat.reduceAdd, Nat.reduceLT, Nat.reduceLeDiff, Nat.reduceMul, Nat.reduceSub, ↓reduceIte, decide_true, decide_false, Bool.true_eq_false, Bool.false_eq_true, Bool.not_true, Bool.not_false, if_true, if_false, and_true, true_and, memE, celE, w64, Nat.zero_add, Nat.add_zero, Nat.mul_one, putL, and_self, ldn, tm, t1, t5, t9, t10, t11, hlt']
    exact ext_ansR hx ho hid (by simp) (by simp; omega)
theorem eachP_rc (m : Mem) (v fv : Value) (xs : List Value) (f : Value → Int) (h3 : ∀ x ∈ xs, ∃ a b c, x = .agg #[a, b, c] ∧ onesB [a, b, c] = true) (h : ElA m 3 (some 3) v xs) (hf : FunG m fv (fun x : Value => [x]) (· ∈ xs) (fun x => .int .i64 (f x))) (hl : xs.length ≤ 1000) :
    RC Try.prog 111 [v, fv] m (AnsR m (xs.map f)) := by
  refine rc_of_run mixed ok_impl_each_Parcel (by simp) (go_start _ _ _ ?_)
  obtain ⟨g, cap, rfl, hg⟩ := hf
  simp (config := {implicitDefEqProofs := false, maxDischargeDepth := 20}) (disch := first | omega | (simp only [lenE]; done) | (simp only [lenE]; omega) | rfl | (simp only [lenE, markR_len]; done) | (simp only [lenE, markR_len]; omega)) only [runE, mapE, listE, initT_5, initT_6, initT_7, initT_8, resV, oneV, binA, unA, reduceCtorEq, Nat.reduceEqDiff, Nat.reduceAdd, Nat.reduceLT, Nat.reduceLeDiff, Nat.reduceMul, Nat.reduceSub, ↓reduceIte, decide_true, decide_false, Bool.true_eq_false, Bool.false_eq_true, Bool.not_true, Bool.not_false, if_true, if_false, and_true, true_and, memE, celE, w64, Nat.zero_add, Nat.add_zero, Nat.mul_one, putL, and_self, ldn, c_impl_each_Parcel, r_impl_each_Parcel, h.len, bsl_none]
  refine loop_inv mixed (fun s => ∃ (k : Nat) (M : Mem) (id : Nat), k ≤ xs.length ∧ s.m = M ∧ Ext m M ∧ OwnR M id ((xs.take k).map f) ∧ m.length ≤ id ∧ s.t 1 = .func (.func g) #[] cap ∧ s.t 5 = .slice (some ⟨id, 0, none⟩) k 1 ∧ s.t 9 = v ∧ s.t 10 = .int .i64 xs.length ∧ s.t 11 = .int .i64 k) (fun s => xs.length - (intOf (s.t 11)).toNat)
    ⟨0, _, m.length, by omega, rfl, (Ext.refl m).one _ _, by have := OwnR.at_end (roM m) []; rwa [roM_len] at this, by omega, rfl, rfl, rfl, rfl, rfl⟩ ?_
  rintro s ⟨k, M, id, hk, tm, hx, ho, hid, t1, t5, t9, t10, t11⟩
  by_cases hlt : k < xs.length
  · have hlt' : (k : Int) < xs.length := by omega
    obtain ⟨q, e3, e4⟩ := (h.keeps hx.keeps).at_ k hlt
    have hmem := mem_getD hlt
    obtain ⟨a, b, c, hxe, ho3⟩ := h3 _ hmem
    rw [hxe] at e4 hmem
    simp (config := {implicitDefEqProofs := false, maxDischargeDepth := 20}) (disch := first | omega | (simp only [lenE]; done) | (simp only [lenE]; omega) | rfl | (simp only [lenE, markR_len]; done) | (simp only [lenE, markR_len]; omega)) only [runE, mapE, listE, initT_5, initT_6, initT_7, initT_8, resV, oneV, binA, unA, reduceCtorEq, Nat.reduceEqDiff, Nat.reduceAdd, Nat.reduceLT, Nat.reduceLeDiff, Nat.reduceMul, Nat.reduceSub, ↓reduceIte, decide_true, decide_false, Bool.true_eq_false, Bool.false_eq_true, Bool.not_true, Bool.not_false, if_true, if_false, and_true, true_and, memE, celE, w64, Nat.zero_add, Nat.add_zero, Nat.mul_one, putL, and_self, ldn, tm, t1, t5, t9, t10, t11, e3, e4, hlt', stP_agg3p, ho3]
    refine callH_rc (hg (M ++ [(⟨.own, 113, [a, b, c]⟩ : Blk)]) (hx.keeps.trans (Keeps.app _ _)) (.agg #[a, b, c]) hmem) ?_
    intro r new hA
    obtain ⟨hr, hn⟩ : r = .int .i64 (f (.agg #[a, b, c])) ∧ NoRo new := hA
    subst hr
    obtain ⟨M1, hM1⟩ : ∃ M', M' = (M ++ [(⟨.own, 113, [a, b, c]⟩ : Blk)]) ++ new := ⟨_, rfl⟩
    rw [← hM1]
    have hx1 : Ext m M1 := by rw [hM1]; exact (hx.one _ _).app hn
    have ho1 : OwnR M1 id ((xs.take k).map f) := by rw [hM1]; exact (ho.ext _).ext _
    clear hM1
    have ha := app_num (x := f (.agg #[a, b, c])) (id2 := M1.length) (n := k) ho1 (by simp; omega) rfl (by simp; omega)
    simp (config := {implicitDefEqProofs := false, maxDischargeDepth := 20}) (disch := first | omega | (simp only [lenE]; done) | (simp only [lenE]; omega) | rfl | (simp only [lenE, markR_len]; done) | (simp only [lenE, markR_len]; omega)) only [runE, mapE, listE, initT_5, initT_6, initT_7, initT_8, resV, oneV, binA, unA, reduceCtorEq, Nat.reduceEqDiff, Nat.reduceAdd, Nat.reduceLT, Nat.reduceLeDiff, Nat.reduceMul, Nat.reduceSub, ↓reduceIte, decide_true, decide_false, Bool.true_eq_false, Bool.false_eq_true, Bool.not_true, Bool.not_false, if_true, if_false, and_true, true_and, memE, celE, w64, Nat.zero_add, Nat.add_zero, Nat.mul_one, putL, and_self, ldn, tm, t1, t5, t9, t10, t11, bsl_one, ha]
    refine ⟨⟨k + 1, _, M1.length + 1, by omega, rfl, ((hx1.dead hid).one _ _).one _ _, ?_, by have := hx1.len; omega, rfl, by simp⟩, ?_⟩
    · rw [take_map_s hlt, hxe]
      have := OwnR.at_end (M1.set id deadB ++ [⟨.own, 3, [.int .i64 (f (.agg #[a, b, c]))]⟩]) ((xs.take k).map f ++ [f (.agg #[a, b, c])])
      simpa using this
    · simp [intOf]; omega
  · have hlt' : ¬ ((k : Int) < xs.length) := by omega
    have e : k = xs.length := by omega
    subst e
    rw [List.take_length] at ho
    simp (config := {implicitDefEqProofs := false, maxDischargeDepth := 20}) (disch := first | omega | (simp only [lenE]; done) | (simp only [lenE]; omega) | rfl | (simp only [lenE, markR_len]; done) | (simp only [lenE, markR_len]; omega)) only [runE, mapE, listE, initT_5, initT_6, initT_7, initT_8, resV, oneV, binA, unA, reduceCtorEq, Nat.reduceEqDiff, Nat.reduceAdd, Nat.reduceLT, Nat.reduceLeDiff, Nat.reduceMul, Nat.reduceSub, ↓reduceIte, decide_true, decide_false, Bool.true_eq_false, Bool.false_eq_true, Bool.not_true, Bool.not_false, if_true, if_false, and_true, true_and, memE, celE, w64, Nat.zero_add, Nat.add_zero, Nat.mul_one, putL, and_self, ldn, tm, t1, t5, t9, t10, t11, hlt']
    exact ext_ansR hx ho hid (by simp) (by simp; omega)
theorem eachD_rc (m : Mem) (v fv : Value) (xs : List Value) (f : Value → Int) (h3 : ∀ x ∈ xs, ∃ a b c, x = .agg #[a, b, c] ∧ onesB [a, b, c] = true) (h : ElA m 3 (some 3) v xs) (hf : FunG m fv (fun x : Value => [x]) (· ∈ xs) (fun x => .int .i64 (f x))) (hl : xs.length ≤ 1000) :
    RC Try.prog 83 [v, fv] m (AnsR m (xs.map f)) := by
  refine rc_of_run mixed ok_impl_each_flowDay (by simp) (go_start _ _ _ ?_)
  obtain ⟨g, cap, rfl, hg⟩ := hf
  simp (config := {implicitDefEqProofs := false, maxDischargeDepth := 20}) (disch := first | omega | (simp only [lenE]; done) | (simp only [lenE]; omega) | rfl | (simp only [lenE, markR_len]; done) | (simp only [lenE, markR_len]; omega)) only [runE, mapE, listE, initT_5, initT_6, initT_7, initT_8, resV, oneV, binA, unA, reduceCtorEq, Nat.reduceEqDiff, Nat.reduceAdd, Nat.reduceLT, Nat.reduceLeDiff, Nat.reduceMul, Nat.reduceSub, ↓reduceIte, decide_true, decide_false, Bool.true_eq_false, Bool.false_eq_true, Bool.not_true, Bool.not_false, if_true, if_false, and_true, true_and, memE, celE, w64, Nat.zero_add, Nat.add_zero, Nat.mul_one, putL, and_self, ldn, c_impl_each_flowDay, r_impl_each_flowDay, h.len, bsl_none]
  refine loop_inv mixed (fun s => ∃ (k : Nat) (M : Mem) (id : Nat), k ≤ xs.length ∧ s.m = M ∧ Ext m M ∧ OwnR M id ((xs.take k).map f) ∧ m.length ≤ id ∧ s.t 1 = .func (.func g) #[] cap ∧ s.t 5 = .slice (some ⟨id, 0, none⟩) k 1 ∧ s.t 9 = v ∧ s.t 10 = .int .i64 xs.length ∧ s.t 11 = .int .i64 k) (fun s => xs.length - (intOf (s.t 11)).toNat)
    ⟨0, _, m.length, by omega, rfl, (Ext.refl m).one _ _, by have := OwnR.at_end (roM m) []; rwa [roM_len] at this, by omega, rfl, rfl, rfl, rfl, rfl⟩ ?_
  rintro s ⟨k, M, id, hk, tm, hx, ho, hid, t1, t5, t9, t10, t11⟩
  by_cases hlt : k < xs.length
  · have hlt' : (k : Int) < xs.length := by omega
    obtain ⟨q, e3, e4⟩ := (h.keeps hx.keeps).at_ k hlt
    have hmem := mem_getD hlt
    obtain ⟨a, b, c, hxe, ho3⟩ := h3 _ hmem
    rw [hxe] at e4 hmem
    simp (config := {implicitDefEqProofs := false, maxDischargeDepth := 20}) (disch := first | omega | (simp only [lenE]; done) | (simp only [lenE]; omega) | rfl | (simp only [lenE, markR_len]; done) | (simp only [lenE, markR_len]; omega)) only [runE, mapE, listE, initT_5, initT_6, initT_7, initT_8, resV, oneV, binA, unA, reduceCtorEq, Nat.reduceEqDiff, Nat.reduceAdd, Nat.reduceLT, Nat.reduceLeDiff, Nat.reduceMul, Nat.reduceSub, ↓reduceIte, decide_true, decide_false, Bool.true_eq_false, Bool.false_eq_true, Bool.not_true, Bool.not_false, if_true, if_false, and_true, true_and, memE, celE, w64, Nat.zero_add, Nat.add_zero, Nat.mul_one, putL, and_self, ldn, tm, t1, t5, t9, t10, t11, e3, e4, hlt', stP_agg3p, ho3]
    refine callH_rc (hg (M ++ [(⟨.own, 98, [a, b, c]⟩ : Blk)]) (hx.keeps.trans (Keeps.app _ _)) (.agg #[a, b, c]) hmem) ?_
    intro r new hA
    obtain ⟨hr, hn⟩ : r = .int .i64 (f (.agg #[a, b, c])) ∧ NoRo new := hA
    subst hr
    obtain ⟨M1, hM1⟩ : ∃ M', M' = (M ++ [(⟨.own, 98, [a, b, c]⟩ : Blk)]) ++ new := ⟨_, rfl⟩
    rw [← hM1]
    have hx1 : Ext m M1 := by rw [hM1]; exact (hx.one _ _).app hn
    have ho1 : OwnR M1 id ((xs.take k).map f) := by rw [hM1]; exact (ho.ext _).ext _
    clear hM1
    have ha := app_num (x := f (.agg #[a, b, c])) (id2 := M1.length) (n := k) ho1 (by simp; omega) rfl (by simp; omega)
    simp (config := {implicitDefEqProofs := false, maxDischargeDepth := 20}) (disch := first | omega | (simp only [lenE]; done) | (simp only [lenE]; omega) | rfl | (simp only [lenE, markR_len]; done) | (simp only [lenE, markR_len]; omega)) only [runE, mapE, listE, initT_5, initT_6, initT_7, initT_8, resV, oneV, binA, unA, reduceCtorEq, Nat.reduceEqDiff, Nat.reduceAdd, Nat.reduceLT, Nat.reduceLeDiff, Nat.reduceMul, Nat.reduceSub, ↓reduceIte, decide_true, decide_false, Bool.true_eq_false, Bool.false_eq_true, Bool.not_true, Bool.not_false, if_true, if_false, and_true, true_and, memE, celE, w64, Nat.zero_add, Nat.add_zero, Nat.mul_one, putL, and_self, ldn, tm, t1, t5, t9, t10, t11, bsl_one, ha]
    refine ⟨⟨k + 1, _, M1.length + 1, by omega, rfl, ((hx1.dead hid).one _ _).one _ _, ?_, by have := hx1.len; omega, rfl, by simp⟩, ?_⟩
    · rw [take_map_s hlt, hxe]
      have := OwnR.at_end (M1.set id deadB ++ [⟨.own, 3, [.int .i64 (f (.agg #[a, b, c]))]⟩]) ((xs.take k).map f ++ [f (.agg #[a, b, c])])
      simpa using this
    · simp [intOf]; omega
  · have hlt' : ¬ ((k : Int) < xs.length) := by omega
    have e : k = xs.length := by omega
    subst e
    rw [List.take_length] at ho
    simp (config := {implicitDefEqProofs := false, maxDischargeDepth := 20}) (disch := first | omega | (simp only [lenE]; done) | (simp only [lenE]; omega) | rfl | (simp only [lenE, markR_len]; done) | (simp only [lenE, markR_len]; omega)) only [runE, mapE, listE, initT_5, initT_6, initT_7, initT_8, resV, oneV, binA, unA, reduceCtorEq, Nat.reduceEqDiff, Nat.reduceAdd, Nat.reduceLT, Nat.reduceLeDiff, Nat.reduceMul, Nat.reduceSub, ↓reduceIte, decide_true, decide_false, Bool.true_eq_false, Bool.false_eq_true, Bool.not_true, Bool.not_false, if_true, if_false, and_true, true_and, memE, celE, w64, Nat.zero_add, Nat.add_zero, Nat.mul_one, putL, and_self, ldn, tm, t1, t5, t9, t10, t11, hlt']
    exact ext_ansR hx ho hid (by simp) (by simp; omega)
end Go.Proofs.Ytnkbjliidenldaa.Ab
