/- What the law needs of the texts that it rests on. -/
import Derived.Test.YtdgfbmilbhckiaaShFnShelves2
section
namespace Go.Proofs.Ytdgfbmilbhckiaa.Ab
open Go Go.RowKit
set_option linter.unusedVariables false
set_option linter.unusedSimpArgs false
structure BytesA (m : Mem) (cb : Nat) (l : List Int) : Prop where
  blk : ∃ kd, kd ≠ Kd.dead ∧ m[cb]? = some ⟨kd, 5, l.map (Value.int .u8)⟩
  byte : ∀ x ∈ l, 0 ≤ x ∧ x ≤ 255
  few : l.length ≤ 65536
theorem BytesA.ro {m : Mem} {cb : Nat} {l : List Int} (h : BytesA m cb l) : (roM m)[cb]? = some ⟨.ro, 5, l.map (Value.int .u8)⟩ := by
  obtain ⟨kd, hk, hb⟩ := h.blk
  unfold roM
  rw [List.getElem?_map, hb]
  cases kd with
  | dead => exact absurd rfl hk
  | ro => rfl
  | own => rfl
theorem BytesA.ext {m : Mem} {cb : Nat} {l : List Int} (h : BytesA m cb l) (new : Mem) : BytesA (m ++ new) cb l := by
  obtain ⟨kd, hk, hb⟩ := h.blk
  exact ⟨⟨kd, hk, by rw [List.getElem?_append_left (List.getElem?_eq_some_iff.1 hb).1]; exact hb⟩, h.byte, h.few⟩
theorem bldCur (A : Option Addr) (n c : Nat) : bldA [.slice none 0 0, .int .i64 0, .int .u64 0] [(0, 1, .slice A n c)] = some (.agg #[.slice A n c, .int .i64 0, .int .u64 0]) := rfl

theorem vBig_rc (m : Mem) (cb fl : Nat) (n : Nat) : RC Try.prog 6 [.slice (some ⟨cb, 0, none⟩) n fl] m fun r new => r = .bool (decide (65536 < n)) ∧ new = [] := by
  refine rc_of_run mixed ok_laws_vBig (by simp) (go_start _ _ _ ?_)
  simp (config := {implicitDefEqProofs := false, maxDischargeDepth := 20}) (disch := first | omega | (simp only [lenE]; done) | (simp only [lenE]; omega) | rfl | (simp only [lenE, markR_len]; done) | (simp only [lenE, markR_len]; omega)) only [runE, mapE, listE, initT_5, initT_6, initT_7, initT_8, resV, oneV, binA, unA, reduceCtorEq, Nat.reduceEqDiff, Nat.reduceAdd, Nat.reduceLT, Nat.reduceLeDiff, Nat.reduceMul, Nat.reduceSub, ↓reduceIte, decide_true, decide_false, Bool.true_eq_false, Bool.false_eq_true, Bool.not_true, Bool.not_false, if_true, if_false, and_true, true_and, memE, celE, w64, Nat.zero_add, Nat.add_zero, Nat.mul_one, putL, and_self, ldn, c_laws_vBig, r_laws_vBig, gt_iff_lt]
  refine newQ_nil ⟨?_, rfl⟩
  congr 1
  rw [decide_eq_decide]
  omega
theorem vInts_rc (m : Mem) (v u : Value) (l : List Int) (h : IntsA m v l) (h' : IntsA m u l) : RC Try.prog 22 [v, u] m fun r new => r = .bool true ∧ new = [] := by
  refine rc_of_run mixed ok_laws_vInts (by simp) (go_start _ _ _ ?_)
  obtain ⟨e1, e2, e3, e4, -⟩ := h.ro
  obtain ⟨d1, d2, d3, d4, -⟩ := h'.ro
  simp (config := {implicitDefEqProofs := false, maxDischargeDepth := 20}) (disch := first | omega | (simp only [lenE]; done) | (simp only [lenE]; omega) | rfl | (simp only [lenE, markR_len]; done) | (simp only [lenE, markR_len]; omega)) only [runE, mapE, listE, initT_5, initT_6, initT_7, initT_8, resV, oneV, binA, unA, reduceCtorEq, Nat.reduceEqDiff, Nat.reduceAdd, Nat.reduceLT, Nat.reduceLeDiff, Nat.reduceMul, Nat.reduceSub, ↓reduceIte, decide_true, decide_false, Bool.true_eq_false, Bool.false_eq_true, Bool.not_true, Bool.not_false, if_true, if_false, and_true, true_and, memE, celE, w64, Nat.zero_add, Nat.add_zero, Nat.mul_one, putL, and_self, ldn, c_laws_vInts, r_laws_vInts, e1, d1, bne_self_eq_false]
  refine loop_inv mixed (fun s => ∃ k : Nat, k ≤ l.length ∧ s.t 0 = v ∧ s.t 1 = u ∧ s.t 5 = .int .i64 k ∧ s.m = roM m) (fun s => l.length - (intOf (s.t 5)).toNat) ⟨0, by omega, rfl, rfl, rfl, rfl⟩ ?_
  rintro s ⟨k, hk, t0, t1, t5, tm⟩
  by_cases hlt : k < l.length
  · have hlt' : (k : Int) < l.length := by omega
    simp (config := {implicitDefEqProofs := false, maxDischargeDepth := 20}) (disch := first | omega | (simp only [lenE]; done) | (simp only [lenE]; omega) | rfl | (simp only [lenE, markR_len]; done) | (simp only [lenE, markR_len]; omega)) only [runE, mapE, listE, initT_5, initT_6, initT_7, initT_8, resV, oneV, binA, unA, reduceCtorEq, Nat.reduceEqDiff, Nat.reduceAdd, Nat.reduceLT, Nat.reduceLeDiff, Nat.reduceMul, Nat.reduceSub, ↓reduceIte, decide_true, decide_false, Bool.true_eq_false, Bool.false_eq_true, Bool.not_true, Bool.not_false, if_true, if_false, and_true, true_and, memE, celE, w64, Nat.zero_add, Nat.add_zero, Nat.mul_one, putL, and_self, ldn, t0, t1, t5, tm, e1, e3 k hlt, e4 k hlt, d3 k hlt, d4 k hlt, hlt', bne_self_eq_false]
    exact ⟨⟨k + 1, by omega, by simp⟩, by simp [intOf]; omega⟩
  · have hlt' : ¬ ((k : Int) < l.length) := by omega
    simp (config := {implicitDefEqProofs := false, maxDischargeDepth := 20}) (disch := first | omega | (simp only [lenE]; done) | (simp only [lenE]; omega) | rfl | (simp only [lenE, markR_len]; done) | (simp only [lenE, markR_len]; omega)) only [runE, mapE, listE, initT_5, initT_6, initT_7, initT_8, resV, oneV, binA, unA, reduceCtorEq, Nat.reduceEqDiff, Nat.reduceAdd, Nat.reduceLT, Nat.reduceLeDiff, Nat.reduceMul, Nat.reduceSub, ↓reduceIte, decide_true, decide_false, Bool.true_eq_false, Bool.false_eq_true, Bool.not_true, Bool.not_false, if_true, if_false, and_true, true_and, memE, celE, w64, Nat.zero_add, Nat.add_zero, Nat.mul_one, putL, and_self, ldn, t0, t1, t5, tm, e1, hlt']
    exact newQ_nil ⟨rfl, rfl⟩
theorem argB {W : World} {A : Option Addr} {c : Nat} {l : List Int} (hr : Rd W W.heap.size A (l.map (Value.int .u8))) (hlc : l.length ≤ c) (hc : c ≤ maxLen) :
    ∃ p, MRel W W.heap.size [p] [⟨.ro, 5, l.map (Value.int .u8)⟩] W ∧ VR [p] (.slice (some ⟨0, 0, none⟩) l.length 0) (.slice A l.length c) := by
  have h := MRel.start W
  by_cases hl : 0 < l.length
  · obtain ⟨b, off, rfl, hb, hcell⟩ := hr (by simpa using hl)
    refine ⟨(b, off, 0), by
      have := h.addRo (e := 5) (xs := l.map (Value.int .u8)) (b := b) (o := off) (tot := 0) (fun k x hx => ⟨hb, x, hcell k x hx, by
        rw [List.getElem?_map] at hx
        cases hk : l[k]? with
        | none => rw [hk] at hx; cases hx
        | some z => rw [hk] at hx; cases hx; exact .int _ _⟩)
      simpa using this, .sl (b := b) (o := off) (tot := 0) (by simp) hlc hc (fun _ _ => by simp) (fun hf => absurd hf (by omega))⟩
  · have hl0 : l = [] := List.eq_nil_of_length_eq_zero (by omega)
    subst hl0
    exact ⟨(0, 0, 0), by
      have := h.addRo (e := 5) (xs := []) (b := 0) (o := 0) (tot := 0) (fun k x hx => by simp at hx)
      simpa using this, .sl (b := 0) (o := 0) (tot := 0) (by simp) hlc hc (fun _ hp => absurd hp (by simp)) (fun hf => absurd hf (by omega))⟩
end Go.Proofs.Ytdgfbmilbhckiaa.Ab
end
section
namespace Go.Proofs.Ytdgfbmilbhckiaa.Ab
open Go Go.RowKit
set_option linter.unusedVariables false
set_option linter.unusedSimpArgs false
set_option maxRecDepth 10000
theorem ext_of {m M' : Mem} (hl : m.length ≤ M'.length) (old : ∀ i, i < m.length → M'[i]? = (roM m)[i]?) (new : ∀ (i : Nat) (b : Blk), m.length ≤ i → M'[i]? = some b → b.kd ≠ .ro) : Ext m M' := by
  have e : M' = roM m ++ M'.drop m.length := by
    apply List.ext_getElem?
    intro i
    by_cases hi : i < m.length
    · rw [List.getElem?_append_left (by rw [roM_len]; exact hi), old i hi]
    · rw [List.getElem?_append_right (by rw [roM_len]; omega), List.getElem?_drop, roM_len, Nat.add_sub_cancel' (by omega)]
  refine ⟨M'.drop m.length, e, fun c hc => ?_⟩
  obtain ⟨j, hj, rfl⟩ := List.getElem_of_mem hc
  have hg : M'[m.length + j]? = some (M'.drop m.length)[j] := by
    rw [← List.getElem?_drop, List.getElem?_eq_getElem hj]
  exact new (m.length + j) _ (by omega) hg
theorem CurA.start2 {M : Mem} {cb fl : Nat} {l : List Int} (h : M[cb]? = some ⟨.ro, 5, l.map (Value.int .u8)⟩) (hb : ∀ x ∈ l, 0 ≤ x ∧ x ≤ 255) (hf : l.length ≤ 65536) : CurA (M ++ [⟨.own, 82, [.slice (some ⟨cb, 0, none⟩) l.length fl, .int .i64 0, .int .u64 0]⟩]) cb l M.length 0 :=
  ⟨by rw [List.getElem?_append_left (List.getElem?_eq_some_iff.1 h).1]; exact h, hb, hf, (fl, 0), by simp⟩
theorem Cw.noRo {id : Nat} {A B : Mem} {lo : Nat} (h : Cw id A B) (hA : ∀ (i : Nat) (b : Blk), lo ≤ i → A[i]? = some b → b.kd ≠ .ro) {cb a : Nat} {l : List Int} (k : CurA B cb l id a) : ∀ (i : Nat) (b : Blk), lo ≤ i → B[i]? = some b → b.kd ≠ .ro := fun i b hi hb => by
  by_cases e : i = id
  · subst e
    obtain ⟨s, h2⟩ := k.box
    rw [h2] at hb
    cases hb
    simp
  · by_cases hl : i < A.length
    · rw [h.old i e hl] at hb; exact hA i b hi hb
    · exact h.new i b (by omega) hb
def AnsR1 (m : Mem) (l : List Int) (r : Value) (new : Mem) : Prop :=
  NoRo new ∧ l.length ≤ 1048576 ∧ ∃ i, r = .slice (some ⟨m.length + i, 0, none⟩) l.length 1 ∧ new[i]? = some (rowB l)
theorem AnsR1.row {m new : Mem} {l : List Int} {r : Value} (h : AnsR1 m l r new) : ∃ id, r = .slice (some ⟨id, 0, none⟩) l.length 1 ∧ m.length ≤ id ∧ OwnR (m ++ new) id l ∧ NoRo new := by
  obtain ⟨h1, h2, i, rfl, h3⟩ := h
  exact ⟨_, rfl, by omega, OwnR.new h3 rfl, h1⟩
end Go.Proofs.Ytdgfbmilbhckiaa.Ab
end
section
namespace Go.Proofs.Ytdgfbmilbhckiaa.Ab
open Go Go.RowKit
set_option linter.unusedVariables false
set_option linter.unusedSimpArgs false
set_option maxRecDepth 10000
theorem cell_sh {M : Mem} {c : Nat} {u w : Value} {cs : List Value} {s : Sh} {M0 : Mem} (h : M[c]? = some ⟨.own, 26, cs⟩) (hc : cs.length = 5) (hk : ShA M0 (shV s u w) s) :
    stA M c 0 [.int .i64 s.life, u, w, .int .i64 s.waste, .int .i64 s.lost] = some (M.set c ⟨.own, 26, [.int .i64 s.life, u, w, .int .i64 s.waste, .int .i64 s.lost]⟩) ∧ ∀ k, rdc (M.set c ⟨.own, 26, [.int .i64 s.life, u, w, .int .i64 s.waste, .int .i64 s.lost]⟩) c k = ([.int .i64 s.life, u, w, .int .i64 s.waste, .int .i64 s.lost] : List Value)[k]? := by
  have o : OwnB M c 26 cs := h
  obtain ⟨u', w', e, i1, i2⟩ := hk
  cases e
  have o5 : onesB [.int .i64 s.life, u, w, .int .i64 s.waste, .int .i64 s.lost] = true := by
    have q1 : u.oneCell' = true := by have := i1.one []; simpa [onesB] using this
    have q2 : w.oneCell' = true := by have := i2.one []; simpa [onesB] using this
    simp [onesB, q1, q2]
    exact ⟨rfl, rfl, rfl⟩
  obtain ⟨c0, c1, c2, c3, c4, rfl⟩ : ∃ c0 c1 c2 c3 c4, cs = [c0, c1, c2, c3, c4] := by
    match cs, hc with
    | [c0, c1, c2, c3, c4], _ => exact ⟨_, _, _, _, _, rfl⟩
  exact ⟨o.st (by simp) o5, fun k => (o.set_self _ _).rd k⟩
theorem back_agree {m n0 : Mem} {lo : Nat} (hlo : m.length ≤ lo) : ∀ i, lo ≤ i → i < (roM m ++ n0).length → (m ++ n0)[i]? = (roM m ++ n0)[i]? := fun i h1 h2 => by
  rw [List.getElem?_append_right (by omega), List.getElem?_append_right (by rw [roM_len]; omega), roM_len]
end Go.Proofs.Ytdgfbmilbhckiaa.Ab
end
section
namespace Go.Proofs.Ytdgfbmilbhckiaa.Ab
open Go Go.RowKit
set_option linter.unusedVariables false
set_option linter.unusedSimpArgs false
set_option maxRecDepth 10000
theorem vAdd9_rc (m : Mem) (v : Value) (w : List Int) (h : IntsA m v w) (hd : ∀ k, k ≤ w.length → -1000000 ≤ sumTo w k ∧ sumTo w k ≤ 1000000) : RC Try.prog 27 [v] m fun r new => r = .int .i64 (sumTo w w.length) ∧ new = [] := by
  refine rc_of_run mixed ok_laws_vAdd (by simp) (go_start _ _ _ ?_)
  obtain ⟨e1, e2, e3, e4, -⟩ := h.ro
  simp (config := {implicitDefEqProofs := false, maxDischargeDepth := 20}) (disch := first | omega | (simp only [lenE]; done) | (simp only [lenE]; omega) | rfl | (simp only [lenE, markR_len]; done) | (simp only [lenE, markR_len]; omega)) only [runE, mapE, listE, initT_5, initT_6, initT_7, initT_8, resV, oneV, binA, unA, reduceCtorEq, Nat.reduceEqDiff, Nat.reduceAdd, Nat.reduceLT, Nat.reduceLeDiff, Nat.reduceMul, Nat.reduceSub, ↓reduceIte, decide_true, decide_false, Bool.true_eq_false, Bool.false_eq_true, Bool.not_true, Bool.not_false, if_true, if_false, and_true, true_and, memE, celE, w64, Nat.zero_add, Nat.add_zero, Nat.mul_one, putL, and_self, ldn, c_laws_vAdd, r_laws_vAdd]
  refine loop_inv mixed (fun s => ∃ k : Nat, k ≤ w.length ∧ s.t 0 = v ∧ s.t 3 = .int .i64 (sumTo w k) ∧ s.t 4 = .int .i64 k ∧ s.m = roM m) (fun s => w.length - (intOf (s.t 4)).toNat) ⟨0, by omega, rfl, rfl, rfl, rfl⟩ ?_
  rintro s ⟨k, hk, t0, t3, t4, tm⟩
  by_cases hlt : k < w.length
  · have hlt' : (k : Int) < w.length := by omega
    have b1 := hd (k + 1) (by omega)
    have b2 := sumTo_g w k
    rw [b2] at b1
    simp (config := {implicitDefEqProofs := false, maxDischargeDepth := 20}) (disch := first | omega | (simp only [lenE]; done) | (simp only [lenE]; omega) | rfl | (simp only [lenE, markR_len]; done) | (simp only [lenE, markR_len]; omega)) only [runE, mapE, listE, initT_5, initT_6, initT_7, initT_8, resV, oneV, binA, unA, reduceCtorEq, Nat.reduceEqDiff, Nat.reduceAdd, Nat.reduceLT, Nat.reduceLeDiff, Nat.reduceMul, Nat.reduceSub, ↓reduceIte, decide_true, decide_false, Bool.true_eq_false, Bool.false_eq_true, Bool.not_true, Bool.not_false, if_true, if_false, and_true, true_and, memE, celE, w64, Nat.zero_add, Nat.add_zero, Nat.mul_one, putL, and_self, ldn, t0, t3, t4, tm, e1, e3 k hlt, e4 k hlt, hlt']
    exact ⟨⟨k + 1, by omega, by simp [b2]⟩, by simp [intOf]; omega⟩
  · have hlt' : ¬ ((k : Int) < w.length) := by omega
    have e : k = w.length := by omega
    simp (config := {implicitDefEqProofs := false, maxDischargeDepth := 20}) (disch := first | omega | (simp only [lenE]; done) | (simp only [lenE]; omega) | rfl | (simp only [lenE, markR_len]; done) | (simp only [lenE, markR_len]; omega)) only [runE, mapE, listE, initT_5, initT_6, initT_7, initT_8, resV, oneV, binA, unA, reduceCtorEq, Nat.reduceEqDiff, Nat.reduceAdd, Nat.reduceLT, Nat.reduceLeDiff, Nat.reduceMul, Nat.reduceSub, ↓reduceIte, decide_true, decide_false, Bool.true_eq_false, Bool.false_eq_true, Bool.not_true, Bool.not_false, if_true, if_false, and_true, true_and, memE, celE, w64, Nat.zero_add, Nat.add_zero, Nat.mul_one, putL, and_self, ldn, t0, t3, t4, tm, e1, hlt']
    exact newQ_nil ⟨by rw [e], rfl⟩
def rowsS (T : List (List Int)) : Nat → Int
  | 0 => 0
  | k + 1 => rowsS T k + sumTo (T.getD k []) (T.getD k []).length
theorem vShelf_rc (m : Mem) (v : Value) (T : List (List Int)) (h : TabA m v T) (hd : ∀ j, j < T.length → ∀ k, k ≤ (T.getD j []).length → -1000000 ≤ sumTo (T.getD j []) k ∧ sumTo (T.getD j []) k ≤ 1000000) (hn : T.length ≤ 1000) :
    RC Try.prog 28 [v] m fun r new => r = .int .i64 (rowsS T T.length) ∧ new = [] := by
  refine rc_of_run mixed ok_laws_vShelf (by simp) (go_start _ _ _ ?_)
  have h' := h.ro
  have bd : ∀ k, k ≤ T.length → -1000000 * (k : Int) ≤ rowsS T k ∧ rowsS T k ≤ 1000000 * (k : Int) := by
    intro k
    induction k with
    | zero => intro _; simp [rowsS]
    | succ k ih =>
      intro hk
      have := ih (by omega)
      have := hd k (by omega) _ (Nat.le_refl _)
      rw [rowsS]; omega
  have e1 := h'.len
  simp (config := {implicitDefEqProofs := false, maxDischargeDepth := 20}) (disch := first | omega | (simp only [lenE]; done) | (simp only [lenE]; omega) | rfl | (simp only [lenE, markR_len]; done) | (simp only [lenE, markR_len]; omega)) only [runE, mapE, listE, initT_5, initT_6, initT_7, initT_8, resV, oneV, binA, unA, reduceCtorEq, Nat.reduceEqDiff, Nat.reduceAdd, Nat.reduceLT, Nat.reduceLeDiff, Nat.reduceMul, Nat.reduceSub, ↓reduceIte, decide_true, decide_false, Bool.true_eq_false, Bool.false_eq_true, Bool.not_true, Bool.not_false, if_true, if_false, and_true, true_and, memE, celE, w64, Nat.zero_add, Nat.add_zero, Nat.mul_one, putL, and_self, ldn, c_laws_vShelf, r_laws_vShelf]
  refine loop_inv mixed (fun s => ∃ k : Nat, k ≤ T.length ∧ s.t 0 = v ∧ s.t 3 = .int .i64 (rowsS T k) ∧ s.t 4 = .int .i64 k ∧ s.m = roM m) (fun s => T.length - (intOf (s.t 4)).toNat) ⟨0, by omega, rfl, rfl, rfl, rfl⟩ ?_
  rintro s ⟨k, hk, t0, t3, t4, tm⟩
  by_cases hlt : k < T.length
  · have hlt' : (k : Int) < T.length := by omega
    have b1 := bd k (by omega)
    have b2 := bd (k + 1) (by omega)
    rw [rowsS] at b2
    obtain ⟨u, l1, l2⟩ := h'.ld k hlt
    simp (config := {implicitDefEqProofs := false, maxDischargeDepth := 20}) (disch := first | omega | (simp only [lenE]; done) | (simp only [lenE]; omega) | rfl | (simp only [lenE, markR_len]; done) | (simp only [lenE, markR_len]; omega)) only [runE, mapE, listE, initT_5, initT_6, initT_7, initT_8, resV, oneV, binA, unA, reduceCtorEq, Nat.reduceEqDiff, Nat.reduceAdd, Nat.reduceLT, Nat.reduceLeDiff, Nat.reduceMul, Nat.reduceSub, ↓reduceIte, decide_true, decide_false, Bool.true_eq_false, Bool.false_eq_true, Bool.not_true, Bool.not_false, if_true, if_false, and_true, true_and, memE, celE, w64, Nat.zero_add, Nat.add_zero, Nat.mul_one, putL, and_self, ldn, t0, t3, t4, tm, e1, h'.at_ k hlt, l1, hlt']
    refine callH_rc (vAdd9_rc _ u _ l2 (hd k hlt)) ?_
    rintro r new ⟨rfl, rfl⟩
    rw [List.append_nil]
    simp (config := {implicitDefEqProofs := false, maxDischargeDepth := 20}) (disch := first | omega | (simp only [lenE]; done) | (simp only [lenE]; omega) | rfl | (simp only [lenE, markR_len]; done) | (simp only [lenE, markR_len]; omega)) only [runE, mapE, listE, initT_5, initT_6, initT_7, initT_8, resV, oneV, binA, unA, reduceCtorEq, Nat.reduceEqDiff, Nat.reduceAdd, Nat.reduceLT, Nat.reduceLeDiff, Nat.reduceMul, Nat.reduceSub, ↓reduceIte, decide_true, decide_false, Bool.true_eq_false, Bool.false_eq_true, Bool.not_true, Bool.not_false, if_true, if_false, and_true, true_and, memE, celE, w64, Nat.zero_add, Nat.add_zero, Nat.mul_one, putL, and_self, ldn, t0, t3, t4]
    exact ⟨⟨k + 1, by omega, by simp [rowsS]⟩, by simp [intOf]; omega⟩
  · have hlt' : ¬ ((k : Int) < T.length) := by omega
    have e : k = T.length := by omega
    simp (config := {implicitDefEqProofs := false, maxDischargeDepth := 20}) (disch := first | omega | (simp only [lenE]; done) | (simp only [lenE]; omega) | rfl | (simp only [lenE, markR_len]; done) | (simp only [lenE, markR_len]; omega)) only [runE, mapE, listE, initT_5, initT_6, initT_7, initT_8, resV, oneV, binA, unA, reduceCtorEq, Nat.reduceEqDiff, Nat.reduceAdd, Nat.reduceLT, Nat.reduceLeDiff, Nat.reduceMul, Nat.reduceSub, ↓reduceIte, decide_true, decide_false, Bool.true_eq_false, Bool.false_eq_true, Bool.not_true, Bool.not_false, if_true, if_false, and_true, true_and, memE, celE, w64, Nat.zero_add, Nat.add_zero, Nat.mul_one, putL, and_self, ldn, t0, t3, t4, tm, e1, hlt']
    exact newQ_nil ⟨by rw [e], rfl⟩
theorem vTable_rc (m : Mem) (v u : Value) (T : List (List Int)) (h : TabA m v T) (h2 : TabA m u T) : RC Try.prog 23 [v, u] m fun r new => r = .bool true ∧ new = [] := by
  refine rc_of_run mixed ok_laws_vTable (by simp) (go_start _ _ _ ?_)
  have h' := h.ro
  have h2' := h2.ro
  have hbd := h.bd
  have e1 := h'.len
  have e2 := h2'.len
  simp (config := {implicitDefEqProofs := false, maxDischargeDepth := 20}) (disch := first | omega | (simp only [lenE]; done) | (simp only [lenE]; omega) | rfl | (simp only [lenE, markR_len]; done) | (simp only [lenE, markR_len]; omega)) only [runE, mapE, listE, initT_5, initT_6, initT_7, initT_8, resV, oneV, binA, unA, reduceCtorEq, Nat.reduceEqDiff, Nat.reduceAdd, Nat.reduceLT, Nat.reduceLeDiff, Nat.reduceMul, Nat.reduceSub, ↓reduceIte, decide_true, decide_false, Bool.true_eq_false, Bool.false_eq_true, Bool.not_true, Bool.not_false, if_true, if_false, and_true, true_and, memE, celE, w64, Nat.zero_add, Nat.add_zero, Nat.mul_one, putL, and_self, ldn, c_laws_vTable, r_laws_vTable, e1, e2, bne_self_eq_false]
  refine loop_inv mixed (fun s => ∃ k : Nat, k ≤ T.length ∧ s.t 0 = v ∧ s.t 1 = u ∧ s.t 5 = .int .i64 k ∧ s.m = roM m) (fun s => T.length - (intOf (s.t 5)).toNat) ⟨0, by omega, rfl, rfl, rfl, rfl⟩ ?_
  rintro s ⟨k, hk, t0, t1, t5, tm⟩
  by_cases hlt : k < T.length
  · have hlt' : (k : Int) < T.length := by omega
    obtain ⟨a, l1, l2⟩ := h'.ld k hlt
    obtain ⟨b, l3, l4⟩ := h2'.ld k hlt
    simp (config := {implicitDefEqProofs := false, maxDischargeDepth := 20}) (disch := first | omega | (simp only [lenE]; done) | (simp only [lenE]; omega) | rfl | (simp only [lenE, markR_len]; done) | (simp only [lenE, markR_len]; omega)) only [runE, mapE, listE, initT_5, initT_6, initT_7, initT_8, resV, oneV, binA, unA, reduceCtorEq, Nat.reduceEqDiff, Nat.reduceAdd, Nat.reduceLT, Nat.reduceLeDiff, Nat.reduceMul, Nat.reduceSub, ↓reduceIte, decide_true, decide_false, Bool.true_eq_false, Bool.false_eq_true, Bool.not_true, Bool.not_false, if_true, if_false, and_true, true_and, memE, celE, w64, Nat.zero_add, Nat.add_zero, Nat.mul_one, putL, and_self, ldn, t0, t1, t5, tm, e1, h'.at_ k hlt, l1, h2'.at_ k hlt, l3, hlt']
    refine rcallH_rc (vInts_rc _ a b _ l2 l4) ?_
    rintro r new ⟨rfl, rfl⟩
    rw [List.append_nil]
    simp (config := {implicitDefEqProofs := false, maxDischargeDepth := 20}) (disch := first | omega | (simp only [lenE]; done) | (simp only [lenE]; omega) | rfl | (simp only [lenE, markR_len]; done) | (simp only [lenE, markR_len]; omega)) only [runE, mapE, listE, initT_5, initT_6, initT_7, initT_8, resV, oneV, binA, unA, reduceCtorEq, Nat.reduceEqDiff, Nat.reduceAdd, Nat.reduceLT, Nat.reduceLeDiff, Nat.reduceMul, Nat.reduceSub, ↓reduceIte, decide_true, decide_false, Bool.true_eq_false, Bool.false_eq_true, Bool.not_true, Bool.not_false, if_true, if_false, and_true, true_and, memE, celE, w64, Nat.zero_add, Nat.add_zero, Nat.mul_one, putL, and_self, ldn, t0, t1, t5]
    exact ⟨⟨k + 1, by omega, by simp⟩, by simp [intOf]; omega⟩
  · have hlt' : ¬ ((k : Int) < T.length) := by omega
    simp (config := {implicitDefEqProofs := false, maxDischargeDepth := 20}) (disch := first | omega | (simp only [lenE]; done) | (simp only [lenE]; omega) | rfl | (simp only [lenE, markR_len]; done) | (simp only [lenE, markR_len]; omega)) only [runE, mapE, listE, initT_5, initT_6, initT_7, initT_8, resV, oneV, binA, unA, reduceCtorEq, Nat.reduceEqDiff, Nat.reduceAdd, Nat.reduceLT, Nat.reduceLeDiff, Nat.reduceMul, Nat.reduceSub, ↓reduceIte, decide_true, decide_false, Bool.true_eq_false, Bool.false_eq_true, Bool.not_true, Bool.not_false, if_true, if_false, and_true, true_and, memE, celE, w64, Nat.zero_add, Nat.add_zero, Nat.mul_one, putL, and_self, ldn, t0, t1, t5, tm, e1, hlt']
    exact newQ_nil ⟨rfl, rfl⟩
def AnsST (m : Mem) (r : Value) (new : Mem) : Prop :=
  NoRo new ∧ ∃ (v t : Value) (s : Sh) (T : List (List Int)), r = .tuple #[v, t] ∧ LivesSh m.length (m ++ new) v s ∧ LivesT m.length (m ++ new) t T ∧ s.need.length ≤ 100 ∧ s.arr.length ≤ 100
theorem back_sh {m n0 : Mem} {v : Value} {s : Sh} {lo : Nat} (h : LivesSh lo (roM m ++ n0) v s) (hlo : m.length ≤ lo) : LivesSh m.length (m ++ n0) v s := fun M3 h3 => h M3 fun i h1 h2 => by
  rw [h3 i (by omega) (by simpa [roM_len] using h2), back_agree hlo i h1 h2]
theorem back_t {m n0 : Mem} {v : Value} {T : List (List Int)} {lo : Nat} (h : LivesT lo (roM m ++ n0) v T) (hlo : m.length ≤ lo) : LivesT m.length (m ++ n0) v T := fun M3 h3 => h M3 fun i h1 h2 => by
  rw [h3 i (by omega) (by simpa [roM_len] using h2), back_agree hlo i h1 h2]
set_option maxHeartbeats 8000000 in
theorem DrawIsIssue_rc (m : Mem) (cb fl : Nat) (l : List Int) (h : BytesA m cb l) :
    RC Try.prog 44 [.slice (some ⟨cb, 0, none⟩) l.length fl] m (AnsST m) := by
  refine rc_of_run mixed ok_spec_DrawIsIssue (by simp) (go_start _ _ _ ?_)
  simp (config := {implicitDefEqProofs := false, maxDischargeDepth := 20}) (disch := first | omega | (simp only [lenE]; done) | (simp only [lenE]; omega) | rfl | (simp only [lenE, markR_len]; done) | (simp only [lenE, markR_len]; omega)) only [runE, mapE, listE, initT_5, initT_6, initT_7, initT_8, resV, oneV, binA, unA, reduceCtorEq, Nat.reduceEqDiff, Nat.reduceAdd, Nat.reduceLT, Nat.reduceLeDiff, Nat.reduceMul, Nat.reduceSub, ↓reduceIte, decide_true, decide_false, Bool.true_eq_false, Bool.false_eq_true, Bool.not_true, Bool.not_false, if_true, if_false, and_true, true_and, memE, celE, w64, Nat.zero_add, Nat.add_zero, Nat.mul_one, putL, and_self, ldn, c_spec_DrawIsIssue, r_spec_DrawIsIssue, bldCur]
  obtain ⟨M0, hM0⟩ : ∃ M0 : Mem, M0 = roM m ++ [⟨.own, 26, [.int .i64 0, .slice none 0 0, .slice none 0 0, .int .i64 0, .int .i64 0]⟩] := ⟨_, rfl⟩
  have hl0 : M0.length = m.length + 1 := by rw [hM0]; simp [roM_len]
  have hc0 : M0[m.length]? = some ⟨.own, 26, [.int .i64 0, .slice none 0 0, .slice none 0 0, .int .i64 0, .int .i64 0]⟩ := by rw [hM0, List.getElem?_append_right (by rw [roM_len]; omega), roM_len]; simp
  have ho0 : ∀ i, i < m.length → M0[i]? = (roM m)[i]? := fun i hi => by rw [hM0, List.getElem?_append_left (by rw [roM_len]; exact hi)]
  have hb0 : M0[cb]? = some ⟨.ro, 5, l.map (Value.int .u8)⟩ := by
    have := h.ro
    rw [hM0, List.getElem?_append_left (List.getElem?_eq_some_iff.1 this).1]; exact this
  have k0 := CurA.start2 (fl := fl) hb0 h.byte h.few
  rw [hl0] at k0
  have hn0 : ∀ (i : Nat) (b : Blk), m.length ≤ i → (M0 ++ [(⟨.own, 82, [.slice (some ⟨cb, 0, none⟩) l.length fl, .int .i64 0, .int .u64 0]⟩ : Blk)])[i]? = some b → b.kd ≠ .ro := fun i b hi hb => by
    by_cases e : i = m.length
    · subst e
      rw [List.getElem?_append_left (by omega), hc0] at hb
      cases hb
      simp
    · rw [List.getElem?_append_right (by omega)] at hb
      have e1 : i - M0.length = 0 := by
        have := (List.getElem?_eq_some_iff.1 hb).1
        simpa using this
      rw [e1] at hb
      cases hb
      simp
  rw [← hM0]
  refine callH_ac (shelf_ac _ cb _ 0 l k0 (by omega)) ?_
  rintro v M1 ⟨s, ⟨⟨hla, hln⟩, lv⟩, w1, a1, ha1, k1⟩
  obtain ⟨u, w, rfl, iu, iw⟩ := lv.here
  have hl1 := w1.len
  have hll : (M0 ++ [(⟨.own, 82, [.slice (some ⟨cb, 0, none⟩) l.length fl, .int .i64 0, .int .u64 0]⟩ : Blk)]).length = m.length + 2 := by simp; omega
  rw [hll] at hl1 lv
  have hc1 : M1[m.length]? = some ⟨.own, 26, [.int .i64 0, .slice none 0 0, .slice none 0 0, .int .i64 0, .int .i64 0]⟩ := by
    rw [w1.old m.length (by omega) (by omega), List.getElem?_append_left (by omega)]; exact hc0
  have hn1 := w1.noRo hn0 k1
  have ho1 : ∀ i, i < m.length → M1[i]? = (roM m)[i]? := fun i hi => by
    rw [w1.old i (by omega) (by omega), List.getElem?_append_left (by omega)]; exact ho0 i hi
  have hx : (M1 ++ [(⟨.own, 26, [.int .i64 0, .slice none 0 0, .slice none 0 0, .int .i64 0, .int .i64 0]⟩ : Blk)])[M1.length]? = some ⟨.own, 26, [.int .i64 0, .slice none 0 0, .slice none 0 0, .int .i64 0, .int .i64 0]⟩ := by simp
  obtain ⟨s1, r1⟩ := cell_sh hx rfl lv.here
  have e2 : (M1 ++ [(⟨.own, 26, [.int .i64 0, .slice none 0 0, .slice none 0 0, .int .i64 0, .int .i64 0]⟩ : Blk)]).set M1.length ⟨.own, 26, [.int .i64 s.life, u, w, .int .i64 s.waste, .int .i64 s.lost]⟩ = M1 ++ [⟨.own, 26, [.int .i64 s.life, u, w, .int .i64 s.waste, .int .i64 s.lost]⟩] := by simp
  rw [e2] at s1 r1
  obtain ⟨M2, hM2⟩ : ∃ M2 : Mem, M2 = M1 ++ [⟨.own, 26, [.int .i64 s.life, u, w, .int .i64 s.waste, .int .i64 s.lost]⟩] := ⟨_, rfl⟩
  rw [← hM2] at s1 r1
  have b2 : OwnB M2 M1.length 26 [.int .i64 s.life, u, w, .int .i64 s.waste, .int .i64 s.lost] := by rw [hM2]; exact OwnB.here rfl
  have k2 : CurA M2 cb l (m.length + 1) a1 := by rw [hM2]; exact k1.ext _
  have hl2 : M2.length = M1.length + 1 := by rw [hM2]; simp
  have lv2 : LivesSh (m.length + 2) M2 (shV s u w) s := lv.up (by omega) fun i _ hi => by rw [hM2, List.getElem?_append_left hi]
  have hn2 : ∀ (i : Nat) (b : Blk), m.length ≤ i → M2[i]? = some b → b.kd ≠ .ro := fun i b hi hb => by
    by_cases e : i < M1.length
    · rw [hM2, List.getElem?_append_left e] at hb; exact hn1 i b hi hb
    · rw [hM2, List.getElem?_append_right (by omega)] at hb
      have e1 : i - M1.length = 0 := by
        have := (List.getElem?_eq_some_iff.1 hb).1
        simpa using this
      rw [e1] at hb
      cases hb
      simp
  have ho2 : ∀ i, i < M1.length → M2[i]? = M1[i]? := fun i hi => by rw [hM2, List.getElem?_append_left hi]
  have hlen := iw.len
  clear e2 hx hc0 ho0 hb0 k0 hn0 hM0 hM2 iu iw
  simp (config := {implicitDefEqProofs := false, maxDischargeDepth := 20}) (disch := first | omega | (simp only [lenE]; done) | (simp only [lenE]; omega) | rfl | (simp only [lenE, markR_len]; done) | (simp only [lenE, markR_len]; omega)) only [runE, mapE, listE, initT_5, initT_6, initT_7, initT_8, resV, oneV, binA, unA, reduceCtorEq, Nat.reduceEqDiff, Nat.reduceAdd, Nat.reduceLT, Nat.reduceLeDiff, Nat.reduceMul, Nat.reduceSub, ↓reduceIte, decide_true, decide_false, Bool.true_eq_false, Bool.false_eq_true, Bool.not_true, Bool.not_false, if_true, if_false, and_true, true_and, memE, celE, w64, Nat.zero_add, Nat.add_zero, Nat.mul_one, putL, and_self, ldn, stP5s, s1, b2.rd]
  with_reducible refine ⟨?_, ?_⟩
  all_goals
    refine callH_ac (issue_ac M2 cb (m.length + 1) a1 (m.length + 2) l _ s k2 (by omega) lv2 (by omega)) ?_
    rintro r M4 ⟨T, lt, w24, a4, ha4, k4⟩
    have b4 : OwnB M4 M1.length 26 [.int .i64 s.life, u, w, .int .i64 s.waste, .int .i64 s.lost] := b2.at_ (w24.old M1.length (by omega) b2.lt)
    have p := fun (P : Mem) (c : Cw (m.length + 1) M2 P) => (show OwnB P M1.length 26 [.int .i64 s.life, u, w, .int .i64 s.waste, .int .i64 s.lost] from b2.at_ (c.old M1.length (by omega) b2.lt))
    have lw8 := w24.len
    have hc8 : M4[m.length]? = some ⟨.own, 26, [.int .i64 0, .slice none 0 0, .slice none 0 0, .int .i64 0, .int .i64 0]⟩ := by
      rw [w24.old m.length (by omega) (by omega), ho2 _ (by omega)]; exact hc1
    have lv8 : LivesSh (m.length + 2) M4 (shV s u w) s := lv2.cw (by omega) w24
    obtain ⟨s4, r4⟩ := cell_sh hc8 rfl lv8.here
    have x8 : Ext m M4 := ext_of (by omega) (fun i hi => by rw [w24.old i (by omega) (by omega), ho2 i (by omega)]; exact ho1 i hi) (w24.noRo hn2 k4)
    have x9 := x8.put (Nat.le_refl _) 26 [.int .i64 s.life, u, w, .int .i64 s.waste, .int .i64 s.lost]
    have lv9 : LivesSh (m.length + 2) (M4.set m.length ⟨.own, 26, [.int .i64 s.life, u, w, .int .i64 s.waste, .int .i64 s.lost]⟩) (shV s u w) s := lv8.up (by simp) fun i h1 h2 => List.getElem?_set_ne (by omega)
    have z0 := r4 0
    have z1 := r4 1
    have z2 := r4 2
    have z3 := r4 3
    have z4 := r4 4
    simp only [List.getElem?_cons_zero, List.getElem?_cons_succ] at z0 z1 z2 z3 z4
    have lt9 := lt.up (M' := M4.set m.length ⟨.own, 26, [.int .i64 s.life, u, w, .int .i64 s.waste, .int .i64 s.lost]⟩) (by simp) (fun i h1 h2 => List.getElem?_set_ne (by omega))
    simp (config := {implicitDefEqProofs := false, maxDischargeDepth := 20}) (disch := first | omega | (simp only [lenE]; done) | (simp only [lenE]; omega) | rfl | (simp only [lenE, markR_len]; done) | (simp only [lenE, markR_len]; omega)) only [runE, mapE, listE, initT_5, initT_6, initT_7, initT_8, resV, oneV, binA, unA, reduceCtorEq, Nat.reduceEqDiff, Nat.reduceAdd, Nat.reduceLT, Nat.reduceLeDiff, Nat.reduceMul, Nat.reduceSub, ↓reduceIte, decide_true, decide_false, Bool.true_eq_false, Bool.false_eq_true, Bool.not_true, Bool.not_false, if_true, if_false, and_true, true_and, memE, celE, w64, Nat.zero_add, Nat.add_zero, Nat.mul_one, putL, and_self, ldn, stP5s, b4.rd, s4, z0, z1, z2, z3, z4]
    obtain ⟨n0, e0, h0⟩ := x9
    rw [e0] at lv9 lt9
    exact ⟨n0, e0, h0, h0, _, _, s, T, rfl, back_sh lv9 (by omega), back_t lt9 (by omega), hln, hla⟩
theorem DrawShelfCost_rc (m : Mem) (cb fl : Nat) (l : List Int) (h : BytesA m cb l) :
    RC Try.prog 7 [.slice (some ⟨cb, 0, none⟩) l.length fl] m fun r new => NoRo new ∧ ∃ (v t : Value) (s : Sh) (T : List (List Int)), r = .tuple #[v, t] ∧ ShA (m ++ new) v s ∧ TabA (m ++ new) t T ∧ s.need.length ≤ 100 ∧ s.arr.length ≤ 100 := by
  refine rc_of_run mixed ok_spec_DrawShelfCost (by simp) (go_start _ _ _ ?_)
  have hb : BytesA (roM m ++ [⟨.own, 26, [.int .i64 0, .slice none 0 0, .slice none 0 0, .int .i64 0, .int .i64 0]⟩]) cb l := by
    have := h.ro
    exact ⟨⟨.ro, by simp, by rw [List.getElem?_append_left (List.getElem?_eq_some_iff.1 this).1]; exact this⟩, h.byte, h.few⟩
  simp (config := {implicitDefEqProofs := false, maxDischargeDepth := 20}) (disch := first | omega | (simp only [lenE]; done) | (simp only [lenE]; omega) | rfl | (simp only [lenE, markR_len]; done) | (simp only [lenE, markR_len]; omega)) only [runE, mapE, listE, initT_5, initT_6, initT_7, initT_8, resV, oneV, binA, unA, reduceCtorEq, Nat.reduceEqDiff, Nat.reduceAdd, Nat.reduceLT, Nat.reduceLeDiff, Nat.reduceMul, Nat.reduceSub, ↓reduceIte, decide_true, decide_false, Bool.true_eq_false, Bool.false_eq_true, Bool.not_true, Bool.not_false, if_true, if_false, and_true, true_and, memE, celE, w64, Nat.zero_add, Nat.add_zero, Nat.mul_one, putL, and_self, ldn, c_spec_DrawShelfCost, r_spec_DrawShelfCost]
  refine callH_rc (DrawIsIssue_rc _ cb fl l hb) ?_
  rintro r new ⟨nr, v, t, s, T, rfl, hs, hT, hln, hla⟩
  have hlen : (roM m ++ [(⟨.own, 26, [.int .i64 0, .slice none 0 0, .slice none 0 0, .int .i64 0, .int .i64 0]⟩ : Blk)]).length = m.length + 1 := by simp [roM_len]
  rw [hlen] at hs hT
  obtain ⟨u, w, rfl, iu, iw⟩ := hs.here
  have hc : (roM m ++ [(⟨.own, 26, [.int .i64 0, .slice none 0 0, .slice none 0 0, .int .i64 0, .int .i64 0]⟩ : Blk)] ++ new)[m.length]? = some ⟨.own, 26, [.int .i64 0, .slice none 0 0, .slice none 0 0, .int .i64 0, .int .i64 0]⟩ := by
    rw [List.getElem?_append_left (by omega), List.getElem?_append_right (by rw [roM_len]; omega), roM_len]; simp
  obtain ⟨s4, r4⟩ := cell_sh hc rfl hs.here
  have x9 : Ext m ((roM m ++ [(⟨.own, 26, [.int .i64 0, .slice none 0 0, .slice none 0 0, .int .i64 0, .int .i64 0]⟩ : Blk)] ++ new).set m.length ⟨.own, 26, [.int .i64 s.life, u, w, .int .i64 s.waste, .int .i64 s.lost]⟩) := (((Ext.refl m).one _ _).app nr).put (Nat.le_refl _) _ _
  have lv9 := hs.up (M' := (roM m ++ [(⟨.own, 26, [.int .i64 0, .slice none 0 0, .slice none 0 0, .int .i64 0, .int .i64 0]⟩ : Blk)] ++ new).set m.length ⟨.own, 26, [.int .i64 s.life, u, w, .int .i64 s.waste, .int .i64 s.lost]⟩) (by simp) (fun i h1 h2 => List.getElem?_set_ne (by omega))
  have lt9 := hT.up (M' := (roM m ++ [(⟨.own, 26, [.int .i64 0, .slice none 0 0, .slice none 0 0, .int .i64 0, .int .i64 0]⟩ : Blk)] ++ new).set m.length ⟨.own, 26, [.int .i64 s.life, u, w, .int .i64 s.waste, .int .i64 s.lost]⟩) (by simp) (fun i h1 h2 => List.getElem?_set_ne (by omega))
  have z0 := r4 0
  have z1 := r4 1
  have z2 := r4 2
  have z3 := r4 3
  have z4 := r4 4
  simp only [List.getElem?_cons_zero, List.getElem?_cons_succ] at z0 z1 z2 z3 z4
  simp (config := {implicitDefEqProofs := false, maxDischargeDepth := 20}) (disch := first | omega | (simp only [lenE]; done) | (simp only [lenE]; omega) | rfl | (simp only [lenE, markR_len]; done) | (simp only [lenE, markR_len]; omega)) only [runE, mapE, listE, initT_5, initT_6, initT_7, initT_8, resV, oneV, binA, unA, reduceCtorEq, Nat.reduceEqDiff, Nat.reduceAdd, Nat.reduceLT, Nat.reduceLeDiff, Nat.reduceMul, Nat.reduceSub, ↓reduceIte, decide_true, decide_false, Bool.true_eq_false, Bool.false_eq_true, Bool.not_true, Bool.not_false, if_true, if_false, and_true, true_and, memE, celE, w64, Nat.zero_add, Nat.add_zero, Nat.mul_one, putL, and_self, ldn, ext_2_0, ext_2_1, stP5s, s4, z0, z1, z2, z3, z4]
  obtain ⟨n0, e0, h0⟩ := x9
  rw [e0] at lv9 lt9
  exact ⟨n0, e0, h0, h0, _, _, s, T, rfl, lv9 _ (back_agree (by omega)), lt9 _ (back_agree (by omega)), hln, hla⟩
end Go.Proofs.Ytdgfbmilbhckiaa.Ab
end
section
namespace Go.Proofs.Ytdgfbmilbhckiaa.Ab
open Go Go.RowKit
set_option linter.unusedVariables false
set_option linter.unusedSimpArgs false
theorem rowsS_Sg (T : List (List Int)) (k : Nat) : rowsS T k = Sg (fun t => sumTo (T.getD t []) (T.getD t []).length) k := by
  induction k with
  | zero => rfl
  | succ k ih => rw [rowsS, Sg, ih]
structure IsuS (s : Sh) (T : List (List Int)) : Prop where
  l : T.length = s.need.length
  lost : sumTo (lostA s T) (lostA s T).length = lostSum s T
  used : rowsS T T.length = usedSum s T
  both : sumTo (lostA s T) (lostA s T).length + rowsS T T.length = sumTo s.need s.need.length
  wast : sumTo (wastA s T) (wastA s T).length + rowsS T T.length = sumTo s.arr s.arr.length
  cost : cost9A s T = s.lost * sumTo (lostA s T) (lostA s T).length + s.waste * sumTo (wastA s T) (wastA s T).length
  lb : ∀ k, k ≤ (lostA s T).length → -1000000 ≤ sumTo (lostA s T) k ∧ sumTo (lostA s T) k ≤ 1000000
  wb : ∀ k, k ≤ (wastA s T).length → -1000000 ≤ sumTo (wastA s T) k ∧ sumTo (wastA s T) k ≤ 1000000
  rb : ∀ j, j < T.length → ∀ k, k ≤ (T.getD j []).length → -1000000 ≤ sumTo (T.getD j []) k ∧ sumTo (T.getD j []) k ≤ 1000000
  ll : (lostA s T).length ≤ 8
  wl : (wastA s T).length ≤ 8
theorem sum_small {l : List Int} (h : ∀ x ∈ l, 0 ≤ x ∧ x ≤ 20) {n : Nat} (hn : n ≤ 8) : ∀ k, k ≤ n → -1000000 ≤ sumTo l k ∧ sumTo l k ≤ 1000000 := fun k hk => by
  have := sumTo_bound (m := 20) (by omega) h k
  omega
theorem isuS {s : Sh} {T : List (List Int)} (h : two9 s T = true) : IsuS s T := by
  obtain ⟨g, l, hr⟩ := two9_iff.1 h
  have is := iss_of h
  have n8 := g.n8
  have eL : lostA s T = leftNeed s T T.length := by unfold lostA; rw [if_pos h]
  have eW : wastA s T = leftArr s T T.length := by unfold wastA; rw [if_pos h]
  have lost : sumTo (lostA s T) (lostA s T).length = lostSum s T := by
    rw [eL, sumTo_Sg, leftNeed_len]
    exact Sg_congr fun t ht => leftNeed_at ht (by omega)
  have used : rowsS T T.length = usedSum s T := by
    rw [rowsS_Sg, l]
    exact Sg_congr fun t ht => by rw [is.len t (by omega)]
  have wast : sumTo (wastA s T) (wastA s T).length = Sg (fun f => s.arr.getD f 0 - colT T f s.need.length) s.need.length := by
    rw [eW, sumTo_Sg, leftArr_len]
    exact Sg_congr fun f hf => by rw [leftArr_at hf, l]
  have lu := lost_used s T
  have wu := wast_used s T
  refine ⟨l, lost, used, by rw [lost, used, lu, sumTo_Sg]; omega, by rw [wast, used, wu, sumTo_Sg, g.la]; omega, ?_, ?_, ?_, fun j hj k hk => ?_, by rw [eL, leftNeed_len]; exact n8, by rw [eW, leftArr_len]; exact n8⟩
  · rw [eL, eW]
    unfold cost9A
    rw [if_pos h, sumTo_all (Nat.le_refl _), sumTo_all (Nat.le_refl _)]
  · rw [eL, leftNeed_len]; exact sum_small is.ln n8
  · rw [eW, leftArr_len]; exact sum_small is.la n8
  · have := is.sum j hj k
    have := is.len j hj
    omega
theorem greedy_two {s : Sh} (hg : s.good = true) (nw : Bool) : two9 s (issA s nw) = true := by
  have g := goodSh_iff.1 hg
  have e : issA s nw = (allG s nw s.need.length).2 := by unfold issA; rw [if_pos hg]
  rw [e]
  exact two9_iff.2 ⟨g, allG_len _ _ _, greedy_iss g nw⟩
structure ShFacts (s : Sh) : Prop where
  g : GoodSh s
  o : IsuS s (issA s false)
  w : IsuS s (issA s true)
  o2 : two9 s (issA s false) = true
  w2 : two9 s (issA s true) = true
  ok : lboundOk s (proof9A s) = true
  eq : sumTo (lostA s (issA s false)) (lostA s (issA s false)).length = lboundA s (proof9A s)
  le : rowsS (issA s true) (issA s true).length ≤ rowsS (issA s false) (issA s false).length
theorem shFacts {s : Sh} (hg : s.good = true) : ShFacts s := by
  have g := goodSh_iff.1 hg
  have o2 := greedy_two hg false
  have w2 := greedy_two hg true
  have o := isuS o2
  have w := isuS w2
  obtain ⟨p1, p2⟩ := proof_old g
  have e : issA s false = oldT s := by unfold issA; rw [if_pos hg]
  have eq : sumTo (lostA s (issA s false)) (lostA s (issA s false)).length = lboundA s (proof9A s) := by rw [o.lost, p2, e]
  refine ⟨g, o, w, o2, w2, p1, eq, ?_⟩
  have m := old_least g (two9_iff.1 w2).2.2
  have b1 := o.both
  have b2 := w.both
  rw [o.lost, e] at b1
  rw [w.lost] at b2
  rw [e]
  omega
theorem cost_least {s : Sh} {T : List (List Int)} (h : two9 s T = true) : cost9A s (issA s false) ≤ cost9A s T := by
  obtain ⟨g, l, hr⟩ := two9_iff.1 h
  have hg := goodSh_iff.2 g
  have f := shFacts hg
  have i := isuS h
  have e : issA s false = oldT s := by unfold issA; rw [if_pos hg]
  have m := old_least g hr
  have o := f.o
  have b1 := o.both
  have b2 := i.both
  have c1 := o.wast
  have c2 := i.wast
  have l1 := o.lost
  have l2 := i.lost
  rw [e] at l1
  have q1 : sumTo (lostA s (issA s false)) (lostA s (issA s false)).length ≤ sumTo (lostA s T) (lostA s T).length := by rw [l2, e, l1]; exact m
  have q2 : sumTo (wastA s (issA s false)) (wastA s (issA s false)).length ≤ sumTo (wastA s T) (wastA s T).length := by omega
  rw [o.cost, i.cost]
  have := Int.mul_le_mul_of_nonneg_left q1 g.l.1
  have := Int.mul_le_mul_of_nonneg_left q2 g.w.1
  omega
end Go.Proofs.Ytdgfbmilbhckiaa.Ab
end
section
namespace Go.Proofs.Ytdgfbmilbhckiaa.Ab
open Go Go.RowKit
set_option linter.unusedVariables false
set_option linter.unusedSimpArgs false
def useF (nw : Bool) : Nat := if nw then 55 else 54
abbrev useV (t f : Int) : Value := .agg #[.int .i64 t, .int .i64 f]
theorem oldestUse_rc (m : Mem) (t : Int) : RC Try.prog 54 [.int .i64 t] m (AnsV (useV t 0)) := by
  refine rc_of_run mixed ok_impl_oldestUse (by simp) (go_start _ _ _ ?_)
  simp (config := {implicitDefEqProofs := false, maxDischargeDepth := 20}) (disch := first | omega | (simp only [lenE]; done) | (simp only [lenE]; omega) | rfl | (simp only [lenE, markR_len]; done) | (simp only [lenE, markR_len]; omega)) only [runE, mapE, listE, initT_5, initT_6, initT_7, initT_8, resV, oneV, binA, unA, reduceCtorEq, Nat.reduceEqDiff, Nat.reduceAdd, Nat.reduceLT, Nat.reduceLeDiff, Nat.reduceMul, Nat.reduceSub, ↓reduceIte, decide_true, decide_false, Bool.true_eq_false, Bool.false_eq_true, Bool.not_true, Bool.not_false, if_true, if_false, and_true, true_and, memE, celE, w64, Nat.zero_add, Nat.add_zero, Nat.mul_one, putL, and_self, ldn, c_impl_oldestUse, r_impl_oldestUse, bld2u, stP_agg2u]
  try simp only [List.append_assoc, List.cons_append, List.nil_append, List.append_nil]
  exact ⟨_, rfl, by (repeat (first | exact noRo_nil | assumption | apply noRo_own | apply noRo_dead | apply noRo_app)), rfl, by (repeat (first | exact noRo_nil | assumption | apply noRo_own | apply noRo_dead | apply noRo_app))⟩
theorem newestUse_rc (m : Mem) (t : Int) : RC Try.prog 55 [.int .i64 t] m (AnsV (useV t t)) := by
  refine rc_of_run mixed ok_impl_newestUse (by simp) (go_start _ _ _ ?_)
  simp (config := {implicitDefEqProofs := false, maxDischargeDepth := 20}) (disch := first | omega | (simp only [lenE]; done) | (simp only [lenE]; omega) | rfl | (simp only [lenE, markR_len]; done) | (simp only [lenE, markR_len]; omega)) only [runE, mapE, listE, initT_5, initT_6, initT_7, initT_8, resV, oneV, binA, unA, reduceCtorEq, Nat.reduceEqDiff, Nat.reduceAdd, Nat.reduceLT, Nat.reduceLeDiff, Nat.reduceMul, Nat.reduceSub, ↓reduceIte, decide_true, decide_false, Bool.true_eq_false, Bool.false_eq_true, Bool.not_true, Bool.not_false, if_true, if_false, and_true, true_and, memE, celE, w64, Nat.zero_add, Nat.add_zero, Nat.mul_one, putL, and_self, ldn, c_impl_newestUse, r_impl_newestUse, bld2u, stP_agg2u]
  try simp only [List.append_assoc, List.cons_append, List.nil_append, List.append_nil]
  exact ⟨_, rfl, by (repeat (first | exact noRo_nil | assumption | apply noRo_own | apply noRo_dead | apply noRo_app)), rfl, by (repeat (first | exact noRo_nil | assumption | apply noRo_own | apply noRo_dead | apply noRo_app))⟩
theorem useF_rc (m : Mem) (nw : Bool) (t : Nat) (z : Int) (hz : z = t) : RC Try.prog (useF nw) [.int .i64 z] m (AnsV (useV (t : Int) (colO nw t 0 : Nat))) := by
  subst hz
  cases nw with
  | true => exact newestUse_rc m t
  | false => exact oldestUse_rc m t
theorem useL_rc (m : Mem) (nw : Bool) (t : Nat) (z : Int) (hz : z = t) : RC Try.prog (useF (!nw)) [.int .i64 z] m (AnsV (useV (t : Int) (colO nw t t : Nat))) := by
  subst hz
  cases nw with
  | true =>
    have := oldestUse_rc m (t : Int)
    rw [show (0 : Int) = ((colO true t t : Nat) : Int) by unfold colO; simp] at this
    exact this
  | false => exact newestUse_rc m t
theorem aeq2u (a b x y : Int) : aeqA false 2 (.agg #[.int .i64 a, .int .i64 b]) (.agg #[.int .i64 x, .int .i64 y]) = some (.bool ((a == x) && ((b == y) && true))) := rfl
def scC9 : ACode := match c_impl_issueBy with
  | .seq _ (.scope c) => c
  | _ => .skip
def scY9 : ACode := match scC9 with
  | .seq _ (.seq _ (.seq _ (.seq _ (.seq _ (.seq _ y))))) => y
  | _ => .skip
def scR9 : ACode := .seq .skip scY9
theorem sc_find9 : findA scC9 0 = some scR9 := rfl
theorem lab_rest9 {k : Kont} {s : St} (h : goC Try.prog 75 scR9 k s) : goC Try.prog 75 (.label 0) (.seq scY9 k) s := by
  rw [scR9, goC_seq, goC_skip] at h
  rw [goC_label]
  exact h
theorem issueBy_rc (m : Mem) (v : Value) (s : Sh) (nw : Bool) (h : ShA m v s) (hg : GoodSh s) :
    RC Try.prog 53 [v, .func (.func (useF nw)) #[] #[], .func (.func (useF (!nw))) #[] #[], .int .i64 (if nw then -1 else 1)] m (AnsO m (TabO (allG s nw s.need.length).2) _root_.id) := by
  refine rc_of_run mixed ok_impl_issueBy (by simp) (go_start _ _ _ ?_)
  obtain ⟨a, b, rfl, ha, hb⟩ := h.ro
  have hla := hg.la
  have n8 := hg.n8
  have l1 := hg.l1
  have l8 := hg.l8
  have hX := (Ext.refl m).one 26 [.int .i64 s.life, a, b, .int .i64 s.waste, .int .i64 s.lost]
  obtain ⟨n, hn⟩ : ∃ n, n = s.need.length := ⟨_, rfl⟩
  obtain ⟨Q, hQ⟩ : ∃ Q, Q = bodyQ r_impl_issueBy (newQ m (AnsO m (TabO (allG s nw s.need.length).2) _root_.id)) := ⟨_, rfl⟩
  have fin : ∀ (fu t k f : Nat) (s' : St) (M : Mem) (U : List (List Int)) (A N : List Int) (lo hi idT ia ib fa fb l12 l13 l14 : Nat) (R F : Nat → Nat),
      s'.m = M → Ext m M → m.length ≤ lo → TabX U lo hi M idT R F → OwnB M l12 26 [.int .i64 s.life, .slice (some ⟨ia, 0, none⟩) s.need.length fa, .slice (some ⟨ib, 0, none⟩) s.need.length fb, .int .i64 s.waste, .int .i64 s.lost] →
      OwnR M ia A → OwnR M ib N → OwnB M l13 102 [.int .i64 (t : Int), .int .i64 (f : Int)] → OwnB M l14 102 [.int .i64 (s.need.length : Int), .int .i64 ((colO nw s.need.length 0 : Nat) : Int)] →
      hi ≤ ia → hi ≤ ib → ia ≠ ib → ia < l12 → ib < l12 → l12 < l13 → l13 < l14 →
      s'.t 1 = .func (.func (useF nw)) #[] #[] → s'.t 2 = .func (.func (useF (!nw))) #[] #[] → s'.t 3 = .int .i64 (if nw then -1 else 1) → s'.t 10 = .slice (some ⟨idT, 0, none⟩) s.need.length 1 → s'.t 12 = .pointer (some ⟨l12, 0, none⟩) → s'.t 13 = .pointer (some ⟨l13, 0, none⟩) → s'.t 14 = .pointer (some ⟨l14, 0, none⟩) →
      GoAt s nw t k U A N → t ≤ s.need.length → (t < s.need.length → k ≤ t) → (t = s.need.length → k = 0) → f = colO nw t k → t = s.need.length → goC Try.prog 75 scR9 (.scope fu scC9 (.done Q)) s' := by
    intro fu t k f s' M U A N lo hi idT ia ib fa fb l12 l13 l14 R F tm hX hml hU o12 oa ob o13 o14 ga gb hne a1 a2 a3 a4 t1 t2 t3 t10 t12 t13 t14 hG ht hk hk0 hf htn
    subst htn
    obtain rfl := hk0 rfl
    subst hf
    obtain ⟨KK, hKK⟩ : ∃ KK, KK = Kont.scope fu scC9 (.done Q) := ⟨_, rfl⟩
    rw [← hKK]
    simp only [scR9, scY9, scC9, c_impl_issueBy]
    simp (config := {implicitDefEqProofs := false, maxDischargeDepth := 20}) (disch := first | omega | (simp only [lenE]; done) | (simp only [lenE]; omega) | rfl | (simp only [lenE, markR_len]; done) | (simp only [lenE, markR_len]; omega)) only [runE, listE, initT_5, initT_6, initT_7, initT_8, resV, oneV, binA, unA, reduceCtorEq, Nat.reduceEqDiff, Nat.reduceAdd, Nat.reduceLT, Nat.reduceLeDiff, Nat.reduceMul, Nat.reduceSub, ↓reduceIte, decide_true, decide_false, Bool.true_eq_false, Bool.false_eq_true, Bool.not_true, Bool.not_false, if_true, if_false, and_true, true_and, memE, celE, w64, Nat.zero_add, Nat.add_zero, Nat.mul_one, putL, and_self, goC_both, row_aeq, ldn, tm, t10, t13, t14, o13.rd, o14.rd, aeq2u, beq_self_eq_true, Bool.true_and, Bool.and_true]
    rw [hKK, hQ]
    simp (config := {implicitDefEqProofs := false, maxDischargeDepth := 20}) (disch := first | omega | (simp only [lenE]; done) | (simp only [lenE]; omega) | rfl | (simp only [lenE, markR_len]; done) | (simp only [lenE, markR_len]; omega)) only [runE, listE, initT_5, initT_6, initT_7, initT_8, resV, oneV, binA, unA, reduceCtorEq, Nat.reduceEqDiff, Nat.reduceAdd, Nat.reduceLT, Nat.reduceLeDiff, Nat.reduceMul, Nat.reduceSub, ↓reduceIte, decide_true, decide_false, Bool.true_eq_false, Bool.false_eq_true, Bool.not_true, Bool.not_false, if_true, if_false, and_true, true_and, memE, celE, w64, Nat.zero_add, Nat.add_zero, Nat.mul_one, putL, and_self, goC_both, row_aeq, ldn, r_impl_issueBy, goX_scope_ret, tm]
    have e := hG.done
    subst e
    obtain ⟨q1, q2, q3⟩ := allG_ok hg nw s.need.length (Nat.le_refl _)
    have ql := allG_len s nw s.need.length
    have h1 := o12.lt
    refine ext_ansO (f := _root_.id) hX fun M' hM => ?_
    have := (hU.at_ (M' := M') fun i h1 h2 => hM i (by omega) (by omega)).obj (fl := 1) (by omega) (by
      have := tsz_bd9 (T := (allG s nw s.need.length).2) (n := 8) (fun j hj => by rw [q3 j (by omega)]; exact n8)
      omega)
    rw [ql] at this
    exact TabO.wide _ _ _ _ _ _ _ hml (by omega) this
  have rest : ∀ (fu t k f : Nat) (s' : St) (M : Mem) (U : List (List Int)) (A N : List Int) (lo hi idT ia ib fa fb l12 l13 l14 : Nat) (R F : Nat → Nat),
      s'.m = M → Ext m M → m.length ≤ lo → TabX U lo hi M idT R F → OwnB M l12 26 [.int .i64 s.life, .slice (some ⟨ia, 0, none⟩) s.need.length fa, .slice (some ⟨ib, 0, none⟩) s.need.length fb, .int .i64 s.waste, .int .i64 s.lost] →
      OwnR M ia A → OwnR M ib N → OwnB M l13 102 [.int .i64 (t : Int), .int .i64 (f : Int)] → OwnB M l14 102 [.int .i64 (s.need.length : Int), .int .i64 ((colO nw s.need.length 0 : Nat) : Int)] →
      hi ≤ ia → hi ≤ ib → ia ≠ ib → ia < l12 → ib < l12 → l12 < l13 → l13 < l14 →
      s'.t 1 = .func (.func (useF nw)) #[] #[] → s'.t 2 = .func (.func (useF (!nw))) #[] #[] → s'.t 3 = .int .i64 (if nw then -1 else 1) → s'.t 10 = .slice (some ⟨idT, 0, none⟩) s.need.length 1 → s'.t 12 = .pointer (some ⟨l12, 0, none⟩) → s'.t 13 = .pointer (some ⟨l13, 0, none⟩) → s'.t 14 = .pointer (some ⟨l14, 0, none⟩) →
      GoAt s nw t k U A N → t ≤ s.need.length → (t < s.need.length → k ≤ t) → (t = s.need.length → k = 0) → f = colO nw t k → (s.need.length - t) * 20 + (20 - k) < fu + 21 → goC Try.prog 75 scR9 (.scope fu scC9 (.done Q)) s' := by
    intro fu
    induction fu with
    | zero =>
      intro t k f s' M U A N lo hi idT ia ib fa fb l12 l13 l14 R F tm hX hml hU o12 oa ob o13 o14 ga gb hne a1 a2 a3 a4 t1 t2 t3 t10 t12 t13 t14 hG ht hk hk0 hf hfu
      rcases Nat.lt_or_ge t s.need.length with e | e
      · have := hk e; omega
      · exact fin 0 t k f s' M U A N lo hi idT ia ib fa fb l12 l13 l14 R F tm hX hml hU o12 oa ob o13 o14 ga gb hne a1 a2 a3 a4 t1 t2 t3 t10 t12 t13 t14 hG ht hk hk0 hf (by omega)
    | succ fu ih =>
      intro t k f s' M U A N lo hi idT ia ib fa fb l12 l13 l14 R F tm hX hml hU o12 oa ob o13 o14 ga gb hne a1 a2 a3 a4 t1 t2 t3 t10 t12 t13 t14 hG ht hk hk0 hf hfu
      rcases Nat.lt_or_ge t s.need.length with htl | htl
      · have hkt := hk htl
        have hft : f ≤ t := by rw [hf]; exact colO_le hkt
        have hne3 : ((t : Int) == (s.need.length : Int)) = false := by rw [beq_eq_false_iff_ne]; omega
        have ok := gAt_ok hg nw htl (k := k) (by omega)
        have lA : A.length = s.need.length := by rw [hG.a]; exact ok.la
        have lN := hG.nl
        have bA : 0 ≤ A.getD f 0 ∧ A.getD f 0 ≤ 20 := by rw [hG.a]; exact ok.a f (by omega)
        have bN : 0 ≤ N.getD t 0 ∧ N.getD t 0 ≤ 20 := by rw [hG.n1]; exact ok.r
        have iA := oa.ints (by omega) fa
        have iN := ob.ints (by omega) fb
        rw [lA] at iA
        rw [lN] at iN
        have ul := hG.ul
        have urow := hG.len hg ht (fun _ => by omega) t htl
        have h12 := o12.lt
        have h14 := o14.lt
        obtain ⟨KK, hKK⟩ : ∃ KK, KK = Kont.scope (fu + 1) scC9 (.done Q) := ⟨_, rfl⟩
        rw [← hKK]
        simp only [scR9, scY9, scC9, c_impl_issueBy]
        simp (config := {implicitDefEqProofs := false, maxDischargeDepth := 20}) (disch := first | omega | (simp only [lenE]; done) | (simp only [lenE]; omega) | rfl | (simp only [lenE, markR_len]; done) | (simp only [lenE, markR_len]; omega)) only [runE, listE, initT_5, initT_6, initT_7, initT_8, resV, oneV, binA, unA, reduceCtorEq, Nat.reduceEqDiff, Nat.reduceAdd, Nat.reduceLT, Nat.reduceLeDiff, Nat.reduceMul, Nat.reduceSub, ↓reduceIte, decide_true, decide_false, Bool.true_eq_false, Bool.false_eq_true, Bool.not_true, Bool.not_false, if_true, if_false, and_true, true_and, memE, celE, w64, Nat.zero_add, Nat.add_zero, Nat.mul_one, putL, and_self, goC_both, row_aeq, ldn, tm, t10, t12, t13, t14, o12.rd, o13.rd, o14.rd, aeq2u, hne3, Bool.false_and]
        refine callH_rc (mostUnits_rc M s _ _ A N f t iA iN (by omega) (by omega) (by omega) ⟨by omega, l8⟩) ?_
        rintro r n1 ⟨rfl, nr1⟩
        obtain ⟨u, hu⟩ : ∃ u, u = most9 s.life A N t f := ⟨_, rfl⟩
        have ub : 0 ≤ u ∧ u ≤ 20 := by
          have := takeG_bd ok (life := s.life) (t := t) (f := f) (by omega)
          have := ok.r
          rw [hu, hG.take f]; omega
        rw [← hu]
        have hX1 := hX.app nr1
        have hU1 := hU.ext (by omega) n1
        have o121 := o12.ext n1
        have oa1 := oa.ext n1
        have ob1 := ob.ext n1
        have o131 := o13.ext n1
        have o141 := o14.ext n1
        obtain ⟨M1, hM1⟩ : ∃ M1, M1 = M ++ n1 := ⟨_, rfl⟩
        rw [← hM1] at hX1 hU1 o121 oa1 ob1 o131 o141 ⊢
        have hrow := hU1.row (j := t) (by omega) (by omega)
        rw [urow] at hrow
        have i1 : iadA 1 (.slice (some ⟨idT, 0, none⟩) s.need.length 1) (.int .i64 (t : Int)) = some (.pointer (some ⟨idT, t, none⟩)) := iad0 rfl (by omega)
        have i2 : iadA 1 (.slice (some ⟨R t, 0, none⟩) s.need.length (F t)) (.int .i64 (f : Int)) = some (.pointer (some ⟨R t, f, none⟩)) := iad0 rfl (by omega)
        have hRt := hU1.2.2.2.1 t (by omega)
        have sR := hRt.2.2.st (off := f) (x := u) (by omega)
        simp (config := {implicitDefEqProofs := false, maxDischargeDepth := 20}) (disch := first | omega | (simp only [lenE]; done) | (simp only [lenE]; omega) | rfl | (simp only [lenE, markR_len]; done) | (simp only [lenE, markR_len]; omega)) only [runE, listE, initT_5, initT_6, initT_7, initT_8, resV, oneV, binA, unA, reduceCtorEq, Nat.reduceEqDiff, Nat.reduceAdd, Nat.reduceLT, Nat.reduceLeDiff, Nat.reduceMul, Nat.reduceSub, ↓reduceIte, decide_true, decide_false, Bool.true_eq_false, Bool.false_eq_true, Bool.not_true, Bool.not_false, if_true, if_false, and_true, true_and, memE, celE, w64, Nat.zero_add, Nat.add_zero, Nat.mul_one, putL, and_self, goC_both, row_aeq, ldn, tm, t10, t12, t13, t14, o131.rd, i1, hrow.1, i2, sR]
        have hU2 := tabX_put hU1 (s := t) (r := (U.getD t []).set f u) (by omega) (by rw [List.length_set])
        have hX2 := hX1.put (id := R t) (by omega) 3 (((U.getD t []).set f u).map (Value.int .i64))
        have o122 := o121.set_ne (id := R t) (by omega) (Ab.rowB ((U.getD t []).set f u))
        have oa2 : OwnR (M1.set (R t) (Ab.rowB ((U.getD t []).set f u))) ia A := oa1.set_ne (by omega)
        have ob2 : OwnR (M1.set (R t) (Ab.rowB ((U.getD t []).set f u))) ib N := ob1.set_ne (by omega)
        have o132 := o131.set_ne (id := R t) (by omega) (Ab.rowB ((U.getD t []).set f u))
        have o142 := o141.set_ne (id := R t) (by omega) (Ab.rowB ((U.getD t []).set f u))
        obtain ⟨M2, hM2⟩ : ∃ M2 : Mem, M2 = M1.set (R t) (Ab.rowB ((U.getD t []).set f u)) := ⟨_, rfl⟩
        rw [← hM2] at hU2 hX2 o122 oa2 ob2 o132 o142
        try rw [← hM2]
        simp (config := {implicitDefEqProofs := false, maxDischargeDepth := 20}) (disch := first | omega | (simp only [lenE]; done) | (simp only [lenE]; omega) | rfl | (simp only [lenE, markR_len]; done) | (simp only [lenE, markR_len]; omega)) only [runE, listE, initT_5, initT_6, initT_7, initT_8, resV, oneV, binA, unA, reduceCtorEq, Nat.reduceEqDiff, Nat.reduceAdd, Nat.reduceLT, Nat.reduceLeDiff, Nat.reduceMul, Nat.reduceSub, ↓reduceIte, decide_true, decide_false, Bool.true_eq_false, Bool.false_eq_true, Bool.not_true, Bool.not_false, if_true, if_false, and_true, true_and, memE, celE, w64, Nat.zero_add, Nat.add_zero, Nat.mul_one, putL, and_self, goC_both, row_aeq, ldn, t12, t13, o122.rd, o132.rd]
        have tk := takeUnits_ac M2 s ia ib fa fb A N f t u oa2 ob2 hne (by omega) (by omega) bA bN ⟨by omega, by omega⟩
        rw [lA, lN] at tk
        refine callH_ac tk ?_
        rintro r M9 ⟨RR, nrR, rfl⟩
        have la2 := oa2.lt
        have lb2 := ob2.lt
        have hX3 := ((hX2.put (id := ia) (by omega) 3 ((A.set f (A.getD f 0 - u)).map (Value.int .i64))).put (id := ib) (by omega) 3 ((N.set t (N.getD t 0 - u)).map (Value.int .i64))).app nrR
        have o123 := ((o122.set_ne (id := ia) (by omega) (Ab.rowB (A.set f (A.getD f 0 - u)))).set_ne (id := ib) (by omega) (Ab.rowB (N.set t (N.getD t 0 - u)))).ext RR
        have o133 := ((o132.set_ne (id := ia) (by omega) (Ab.rowB (A.set f (A.getD f 0 - u)))).set_ne (id := ib) (by omega) (Ab.rowB (N.set t (N.getD t 0 - u)))).ext RR
        have o143 := ((o142.set_ne (id := ia) (by omega) (Ab.rowB (A.set f (A.getD f 0 - u)))).set_ne (id := ib) (by omega) (Ab.rowB (N.set t (N.getD t 0 - u)))).ext RR
        have oa3 : OwnR ((M2.set ia (Ab.rowB (A.set f (A.getD f 0 - u)))).set ib (Ab.rowB (N.set t (N.getD t 0 - u))) ++ RR) ia (A.set f (A.getD f 0 - u)) := (OwnR.set_ne oa2.set_self (Ne.symm hne)).ext _
        have ob3 : OwnR ((M2.set ia (Ab.rowB (A.set f (A.getD f 0 - u)))).set ib (Ab.rowB (N.set t (N.getD t 0 - u))) ++ RR) ib (N.set t (N.getD t 0 - u)) := (OwnR.set_self (ob2.set_ne hne)).ext _
        have hU3 : TabX (U.set t ((U.getD t []).set f u)) lo hi ((M2.set ia (Ab.rowB (A.set f (A.getD f 0 - u)))).set ib (Ab.rowB (N.set t (N.getD t 0 - u))) ++ RR) idT R F := by
          have := hU2.at_ (M' := (M2.set ia (Ab.rowB (A.set f (A.getD f 0 - u)))).set ib (Ab.rowB (N.set t (N.getD t 0 - u)))) fun i h1 h2 => by rw [List.getElem?_set_ne (by omega), List.getElem?_set_ne (by omega)]
          exact this.ext (by simp only [List.length_set]; omega) _
        obtain ⟨M3, hM3⟩ : ∃ M3 : Mem, M3 = (M2.set ia (Ab.rowB (A.set f (A.getD f 0 - u)))).set ib (Ab.rowB (N.set t (N.getD t 0 - u))) ++ RR := ⟨_, rfl⟩
        rw [← hM3] at hX3 o123 o133 o143 oa3 ob3 hU3 ⊢
        have hG1 := hG.step hg htl hkt hf hu
        have l133 := o133.lt
        have l143 := o143.lt
        simp (config := {implicitDefEqProofs := false, maxDischargeDepth := 20}) (disch := first | omega | (simp only [lenE]; done) | (simp only [lenE]; omega) | rfl | (simp only [lenE, markR_len]; done) | (simp only [lenE, markR_len]; omega)) only [runE, listE, initT_5, initT_6, initT_7, initT_8, resV, oneV, binA, unA, reduceCtorEq, Nat.reduceEqDiff, Nat.reduceAdd, Nat.reduceLT, Nat.reduceLeDiff, Nat.reduceMul, Nat.reduceSub, ↓reduceIte, decide_true, decide_false, Bool.true_eq_false, Bool.false_eq_true, Bool.not_true, Bool.not_false, if_true, if_false, and_true, true_and, memE, celE, w64, Nat.zero_add, Nat.add_zero, Nat.mul_one, putL, and_self, goC_both, row_aeq, ldn, t1, t2, t3, t13, o133.rd]
        have KL := useL_rc M3 nw t (t : Int) rfl
        refine rcallH_rc KL ?_
        rintro r n4 ⟨rfl, nr4⟩
        have hX4 := hX3.app nr4
        have o124 := o123.ext n4
        have oa4 := oa3.ext n4
        have ob4 := ob3.ext n4
        have o134 := o133.ext n4
        have o144 := o143.ext n4
        have hU4 := hU3.ext (by omega) n4
        obtain ⟨M4, hM4⟩ : ∃ M4, M4 = M3 ++ n4 := ⟨_, rfl⟩
        have l4 : M4.length = M3.length + n4.length := by rw [hM4, List.length_append]
        rw [← hM4] at hX4 hU4 o124 oa4 ob4 o134 o144 ⊢
        by_cases hkt2 : k = t
        · have el : (((f : Nat) : Int) == ((colO nw t t : Nat) : Int)) = true := by rw [hf, hkt2]; exact beq_self_eq_true _
          simp (config := {implicitDefEqProofs := false, maxDischargeDepth := 20}) (disch := first | omega | (simp only [lenE]; done) | (simp only [lenE]; omega) | rfl | (simp only [lenE, markR_len]; done) | (simp only [lenE, markR_len]; omega)) only [runE, listE, initT_5, initT_6, initT_7, initT_8, resV, oneV, binA, unA, reduceCtorEq, Nat.reduceEqDiff, Nat.reduceAdd, Nat.reduceLT, Nat.reduceLeDiff, Nat.reduceMul, Nat.reduceSub, ↓reduceIte, decide_true, decide_false, Bool.true_eq_false, Bool.false_eq_true, Bool.not_true, Bool.not_false, if_true, if_false, and_true, true_and, memE, celE, w64, Nat.zero_add, Nat.add_zero, Nat.mul_one, putL, and_self, goC_both, row_aeq, ldn, t1, t2, t3, t13, o134.rd, aeq2u, el, beq_self_eq_true, Bool.true_and, Bool.and_true]
          have KF := useF_rc M4 nw (t + 1) ((t : Int) + 1) (by omega)
          refine callH_rc KF ?_
          rintro r n5 ⟨rfl, nr5⟩
          have o135 := o134.ext n5
          have st := o135.st (off := 0) (vs := [.int .i64 ((t + 1 : Nat) : Int), .int .i64 ((colO nw (t + 1) 0 : Nat) : Int)]) (by simp) rfl
          simp (config := {implicitDefEqProofs := false, maxDischargeDepth := 20}) (disch := first | omega | (simp only [lenE]; done) | (simp only [lenE]; omega) | rfl | (simp only [lenE, markR_len]; done) | (simp only [lenE, markR_len]; omega)) only [runE, listE, initT_5, initT_6, initT_7, initT_8, resV, oneV, binA, unA, reduceCtorEq, Nat.reduceEqDiff, Nat.reduceAdd, Nat.reduceLT, Nat.reduceLeDiff, Nat.reduceMul, Nat.reduceSub, ↓reduceIte, decide_true, decide_false, Bool.true_eq_false, Bool.false_eq_true, Bool.not_true, Bool.not_false, if_true, if_false, and_true, true_and, memE, celE, w64, Nat.zero_add, Nat.add_zero, Nat.mul_one, putL, and_self, goC_both, row_aeq, ldn, t13, stP_agg2u, st]
          rw [hKK]
          simp (config := {implicitDefEqProofs := false, maxDischargeDepth := 20}) (disch := first | omega | (simp only [lenE]; done) | (simp only [lenE]; omega) | rfl | (simp only [lenE, markR_len]; done) | (simp only [lenE, markR_len]; omega)) only [runE, listE, initT_5, initT_6, initT_7, initT_8, resV, oneV, binA, unA, reduceCtorEq, Nat.reduceEqDiff, Nat.reduceAdd, Nat.reduceLT, Nat.reduceLeDiff, Nat.reduceMul, Nat.reduceSub, ↓reduceIte, decide_true, decide_false, Bool.true_eq_false, Bool.false_eq_true, Bool.not_true, Bool.not_false, if_true, if_false, and_true, true_and, memE, celE, w64, Nat.zero_add, Nat.add_zero, Nat.mul_one, putL, and_self, goC_both, row_aeq, ldn, goC_goto, goX_seq_goto, goX_block_goto, goX_scope_goto, sc_find9, goJ_some]
          have hG2 : GoAt s nw (t + 1) 0 (U.set t ((U.getD t []).set f u)) (A.set f (A.getD f 0 - u)) (N.set t (N.getD t 0 - u)) := by
            rw [hkt2] at hG1
            exact hG1.roll htl
          have hU5 : TabX (U.set t ((U.getD t []).set f u)) lo hi ((M4 ++ n5).set l13 (⟨.own, 102, [.int .i64 ((t + 1 : Nat) : Int), .int .i64 ((colO nw (t + 1) 0 : Nat) : Int)]⟩ : Blk)) idT R F := (hU4.ext (by omega) n5).at_ fun i h1 h2 => by rw [List.getElem?_set_ne (by omega)]
          exact ih (t + 1) 0 (colO nw (t + 1) 0) _ _ _ _ _ lo hi idT ia ib fa fb l12 l13 l14 R F rfl ((hX4.app nr5).put (by omega) _ _) hml hU5 ((o124.ext n5).set_ne (by omega) _) (OwnR.set_ne (oa4.ext n5) (by omega)) (OwnR.set_ne (ob4.ext n5) (by omega)) (o135.set_self _ _) ((o144.ext n5).set_ne (by omega) _) ga gb hne a1 a2 a3 a4 (by simp only [put_t, put_t', put_m, putT_t, putT_t', putT_m, init_t, init_m, initT_0, initT_1, initT_2, initT_3, initT_4, initT_5, initT_6, initT_7, initT_8, Nat.reduceEqDiff, ↓reduceIte, t1]) (by simp only [put_t, put_t', put_m, putT_t, putT_t', putT_m, init_t, init_m, initT_0, initT_1, initT_2, initT_3, initT_4, initT_5, initT_6, initT_7, initT_8, Nat.reduceEqDiff, ↓reduceIte, t2]) (by simp only [put_t, put_t', put_m, putT_t, putT_t', putT_m, init_t, init_m, initT_0, initT_1, initT_2, initT_3, initT_4, initT_5, initT_6, initT_7, initT_8, Nat.reduceEqDiff, ↓reduceIte, t3]) (by simp only [put_t, put_t', put_m, putT_t, putT_t', putT_m, init_t, init_m, initT_0, initT_1, initT_2, initT_3, initT_4, initT_5, initT_6, initT_7, initT_8, Nat.reduceEqDiff, ↓reduceIte, t10]) (by simp only [put_t, put_t', put_m, putT_t, putT_t', putT_m, init_t, init_m, initT_0, initT_1, initT_2, initT_3, initT_4, initT_5, initT_6, initT_7, initT_8, Nat.reduceEqDiff, ↓reduceIte, t12]) (by simp only [put_t, put_t', put_m, putT_t, putT_t', putT_m, init_t, init_m, initT_0, initT_1, initT_2, initT_3, initT_4, initT_5, initT_6, initT_7, initT_8, Nat.reduceEqDiff, ↓reduceIte, t13]) (by simp only [put_t, put_t', put_m, putT_t, putT_t', putT_m, init_t, init_m, initT_0, initT_1, initT_2, initT_3, initT_4, initT_5, initT_6, initT_7, initT_8, Nat.reduceEqDiff, ↓reduceIte, t14]) hG2 (by omega) (fun _ => by omega) (fun _ => rfl) rfl (by omega)
        · have el : (((f : Nat) : Int) == ((colO nw t t : Nat) : Int)) = false := by
            rw [beq_eq_false_iff_ne, hf]
            have := colO_inj (newest := nw) (j := k) (k := t) (t := t) (by omega) (Nat.le_refl _)
            omega
          obtain ⟨f2, hf2⟩ : ∃ f2, f2 = colO nw t (k + 1) := ⟨_, rfl⟩
          have ef : (f : Int) + (if nw then -1 else 1) = (f2 : Int) := by
            rw [hf, hf2]; unfold colO
            cases nw <;> simp <;> omega
          have hb : -1 ≤ (if nw then (-1 : Int) else 1) ∧ (if nw then (-1 : Int) else 1) ≤ 1 := by cases nw <;> simp
          obtain ⟨st9, hst9⟩ : ∃ z : Int, z = if nw then -1 else 1 := ⟨_, rfl⟩
          rw [← hst9] at ef hb t3
          have st := o134.st (off := 1) (vs := [.int .i64 (f2 : Int)]) (by simp) rfl
          simp (config := {implicitDefEqProofs := false, maxDischargeDepth := 20}) (disch := first | omega | (simp only [lenE]; done) | (simp only [lenE]; omega) | rfl | (simp only [lenE, markR_len]; done) | (simp only [lenE, markR_len]; omega)) only [runE, listE, initT_5, initT_6, initT_7, initT_8, resV, oneV, binA, unA, reduceCtorEq, Nat.reduceEqDiff, Nat.reduceAdd, Nat.reduceLT, Nat.reduceLeDiff, Nat.reduceMul, Nat.reduceSub, ↓reduceIte, decide_true, decide_false, Bool.true_eq_false, Bool.false_eq_true, Bool.not_true, Bool.not_false, if_true, if_false, and_true, true_and, memE, celE, w64, Nat.zero_add, Nat.add_zero, Nat.mul_one, putL, and_self, goC_both, row_aeq, ldn, t1, t2, t3, t13, o134.rd, aeq2u, el, beq_self_eq_true, Bool.true_and, Bool.and_true, Bool.and_false, Bool.false_and, ef, st]
          rw [hKK]
          simp (config := {implicitDefEqProofs := false, maxDischargeDepth := 20}) (disch := first | omega | (simp only [lenE]; done) | (simp only [lenE]; omega) | rfl | (simp only [lenE, markR_len]; done) | (simp only [lenE, markR_len]; omega)) only [runE, listE, initT_5, initT_6, initT_7, initT_8, resV, oneV, binA, unA, reduceCtorEq, Nat.reduceEqDiff, Nat.reduceAdd, Nat.reduceLT, Nat.reduceLeDiff, Nat.reduceMul, Nat.reduceSub, ↓reduceIte, decide_true, decide_false, Bool.true_eq_false, Bool.false_eq_true, Bool.not_true, Bool.not_false, if_true, if_false, and_true, true_and, memE, celE, w64, Nat.zero_add, Nat.add_zero, Nat.mul_one, putL, and_self, goC_both, row_aeq, ldn, goC_goto, goX_seq_goto, goX_block_goto, goX_scope_goto, sc_find9, goJ_some]
          have hU5 : TabX (U.set t ((U.getD t []).set f u)) lo hi (M4.set l13 (⟨.own, 102, [.int .i64 (t : Int), .int .i64 (f2 : Int)]⟩ : Blk)) idT R F := hU4.at_ fun i h1 h2 => by rw [List.getElem?_set_ne (by omega)]
          exact ih t (k + 1) f2 _ _ _ _ _ lo hi idT ia ib fa fb l12 l13 l14 R F rfl (hX4.put (by omega) _ _) hml hU5 (o124.set_ne (by omega) _) (OwnR.set_ne oa4 (by omega)) (OwnR.set_ne ob4 (by omega)) (o134.set_self _ _) (o144.set_ne (by omega) _) ga gb hne a1 a2 a3 a4 (by simp only [put_t, put_t', put_m, putT_t, putT_t', putT_m, init_t, init_m, initT_0, initT_1, initT_2, initT_3, initT_4, initT_5, initT_6, initT_7, initT_8, Nat.reduceEqDiff, ↓reduceIte, t1]) (by simp only [put_t, put_t', put_m, putT_t, putT_t', putT_m, init_t, init_m, initT_0, initT_1, initT_2, initT_3, initT_4, initT_5, initT_6, initT_7, initT_8, Nat.reduceEqDiff, ↓reduceIte, t2]) (by simp only [put_t, put_t', put_m, putT_t, putT_t', putT_m, init_t, init_m, initT_0, initT_1, initT_2, initT_3, initT_4, initT_5, initT_6, initT_7, initT_8, Nat.reduceEqDiff, ↓reduceIte, t3, hst9]) (by simp only [put_t, put_t', put_m, putT_t, putT_t', putT_m, init_t, init_m, initT_0, initT_1, initT_2, initT_3, initT_4, initT_5, initT_6, initT_7, initT_8, Nat.reduceEqDiff, ↓reduceIte, t10]) (by simp only [put_t, put_t', put_m, putT_t, putT_t', putT_m, init_t, init_m, initT_0, initT_1, initT_2, initT_3, initT_4, initT_5, initT_6, initT_7, initT_8, Nat.reduceEqDiff, ↓reduceIte, t12]) (by simp only [put_t, put_t', put_m, putT_t, putT_t', putT_m, init_t, init_m, initT_0, initT_1, initT_2, initT_3, initT_4, initT_5, initT_6, initT_7, initT_8, Nat.reduceEqDiff, ↓reduceIte, t13]) (by simp only [put_t, put_t', put_m, putT_t, putT_t', putT_m, init_t, init_m, initT_0, initT_1, initT_2, initT_3, initT_4, initT_5, initT_6, initT_7, initT_8, Nat.reduceEqDiff, ↓reduceIte, t14]) hG1 (by omega) (fun _ => by omega) (fun e => absurd e (by omega)) hf2 (by omega)
      · exact fin (fu + 1) t k f s' M U A N lo hi idT ia ib fa fb l12 l13 l14 R F tm hX hml hU o12 oa ob o13 o14 ga gb hne a1 a2 a3 a4 t1 t2 t3 t10 t12 t13 t14 hG ht hk hk0 hf (by omega)
  rw [hQ] at rest
  obtain ⟨FU, hFU⟩ : ∃ FU, FU = s.need.length * 20 + 100 := ⟨_, rfl⟩
  simp (config := {implicitDefEqProofs := false, maxDischargeDepth := 20}) (disch := first | omega | (simp only [lenE]; done) | (simp only [lenE]; omega) | rfl | (simp only [lenE, markR_len]; done) | (simp only [lenE, markR_len]; omega)) only [runE, listE, initT_5, initT_6, initT_7, initT_8, resV, oneV, binA, unA, reduceCtorEq, Nat.reduceEqDiff, Nat.reduceAdd, Nat.reduceLT, Nat.reduceLeDiff, Nat.reduceMul, Nat.reduceSub, ↓reduceIte, decide_true, decide_false, Bool.true_eq_false, Bool.false_eq_true, Bool.not_true, Bool.not_false, if_true, if_false, and_true, true_and, memE, celE, w64, Nat.zero_add, Nat.add_zero, Nat.mul_one, putL, and_self, goC_both, row_aeq, ldn, c_impl_issueBy, r_impl_issueBy, goC_scope]
  refine scope_run mixed FU ?_
  change goC _ _ _ (.scope FU scC9 (.done (bodyQ r_impl_issueBy (newQ m (AnsO m (TabO (allG s nw s.need.length).2) _root_.id))))) _
  obtain ⟨KK, hKK⟩ : ∃ KK, KK = Kont.scope FU scC9 (.done (bodyQ r_impl_issueBy (newQ m (AnsO m (TabO (allG s nw s.need.length).2) _root_.id)))) := ⟨_, rfl⟩
  rw [← hKK]
  obtain ⟨M0, hM0⟩ : ∃ M0, M0 = roM m ++ [⟨.own, 26, [.int .i64 s.life, a, b, .int .i64 s.waste, .int .i64 s.lost]⟩] := ⟨_, rfl⟩
  have o0 : OwnB M0 m.length 26 [.int .i64 s.life, a, b, .int .i64 s.waste, .int .i64 s.lost] := by rw [hM0]; exact OwnB.here (by simp [roM_len])
  have hl0 : M0.length = m.length + 1 := by rw [hM0]; simp [roM_len]
  rw [← hM0] at hX ⊢
  simp (config := {implicitDefEqProofs := false, maxDischargeDepth := 20}) (disch := first | omega | (simp only [lenE]; done) | (simp only [lenE]; omega) | rfl | (simp only [lenE, markR_len]; done) | (simp only [lenE, markR_len]; omega)) only [runE, listE, initT_5, initT_6, initT_7, initT_8, resV, oneV, binA, unA, reduceCtorEq, Nat.reduceEqDiff, Nat.reduceAdd, Nat.reduceLT, Nat.reduceLeDiff, Nat.reduceMul, Nat.reduceSub, ↓reduceIte, decide_true, decide_false, Bool.true_eq_false, Bool.false_eq_true, Bool.not_true, Bool.not_false, if_true, if_false, and_true, true_and, memE, celE, w64, Nat.zero_add, Nat.add_zero, Nat.mul_one, putL, and_self, goC_both, row_aeq, ldn, o0.rd, (hX.ints hb).len, mksA_eq (byt := 24) (n := s.need.length) rfl (by omega)]
  refine loop_inv mixed (fun s' => ∃ (k : Nat) (M : Mem) (cs : List Value) (R : Nat → Nat), k ≤ s.need.length ∧ s'.m = M ∧ Ext m M ∧ OwnB M m.length 26 [.int .i64 s.life, a, b, .int .i64 s.waste, .int .i64 s.lost] ∧ OwnB M M0.length 24 cs ∧ cs.length = s.need.length ∧ (∀ j, j < k → cs[j]? = some (.slice (some ⟨R j, 0, none⟩) s.need.length 1) ∧ M0.length < R j ∧ OwnR M (R j) (List.replicate s.need.length (0 : Int))) ∧ (∀ i j, i < j → j < k → R i < R j) ∧
      s'.t 1 = .func (.func (useF nw)) #[] #[] ∧ s'.t 2 = .func (.func (useF (!nw))) #[] #[] ∧ s'.t 3 = .int .i64 (if nw then -1 else 1) ∧ s'.t 4 = .pointer (some ⟨m.length, 0, none⟩) ∧ s'.t 9 = .int .i64 (s.need.length : Int) ∧ s'.t 10 = .slice (some ⟨M0.length, 0, none⟩) s.need.length 1 ∧ s'.t 22 = .int .i64 (s.need.length : Int) ∧ s'.t 23 = .int .i64 (k : Int)) (fun s' => s.need.length - (intOf (s'.t 23)).toNat)
    ⟨0, M0 ++ [⟨.own, 24, List.replicate s.need.length (.slice none 0 0)⟩], List.replicate s.need.length (.slice none 0 0), fun _ => 0, by omega, rfl, hX.one _ _, o0.ext _, OwnB.here rfl, by simp, fun j hj => absurd hj (by omega), fun i j _ hj => absurd hj (by omega), rfl, rfl, rfl, rfl, rfl, rfl, rfl, rfl⟩ ?_
  clear hX o0
  rintro s' ⟨k, M, cs, R, hk, tm, hX, o0, ho, hcl, hpre, hinc, t1, t2, t3, t4, t9, t10, t22, t23⟩
  by_cases hlt : k < s.need.length
  · have hlt' : (k : Int) < s.need.length := by omega
    have hst := (ho.ext [⟨.own, 3, List.replicate s.need.length (.int .i64 0)⟩]).st (off := k) (vs := [.slice (some ⟨M.length, 0, none⟩) s.need.length 1]) (by simp; omega) rfl
    have zr : OwnR (M ++ [⟨.own, 3, List.replicate s.need.length (.int .i64 0)⟩]) M.length (List.replicate s.need.length (0 : Int)) := OwnR.zeros rfl
    have hol := ho.lt
    simp (config := {implicitDefEqProofs := false, maxDischargeDepth := 20}) (disch := first | omega | (simp only [lenE]; done) | (simp only [lenE]; omega) | rfl | (simp only [lenE, markR_len]; done) | (simp only [lenE, markR_len]; omega)) only [runE, listE, initT_5, initT_6, initT_7, initT_8, resV, oneV, binA, unA, reduceCtorEq, Nat.reduceEqDiff, Nat.reduceAdd, Nat.reduceLT, Nat.reduceLeDiff, Nat.reduceMul, Nat.reduceSub, ↓reduceIte, decide_true, decide_false, Bool.true_eq_false, Bool.false_eq_true, Bool.not_true, Bool.not_false, if_true, if_false, and_true, true_and, memE, celE, w64, Nat.zero_add, Nat.add_zero, Nat.mul_one, putL, and_self, goC_both, row_aeq, ldn, tm, t1, t2, t3, t4, t9, t10, t22, t23, hlt', mksA_eq (byt := 8) (n := s.need.length) rfl (by omega), iad0 (n := s.need.length) rfl hlt, hst]
    refine ⟨⟨k + 1, _, _, fun j => if j = k then M.length else R j, by omega, rfl, (hX.one _ _).put (by omega) _ _, (o0.ext _).set_ne (by omega) _, (ho.ext _).set_self _ _, by simp [putL, hcl], fun j hj => ?_, fun i j hij hj => ?_, by simp⟩, ?_⟩
    · try simp only [putL]
      by_cases e : j = k
      · subst e
        simp only [if_true]
        refine ⟨by rw [List.getElem?_set_self (by omega)], by omega, ?_⟩
        exact OwnR.set_ne zr (by omega)
      · have hp := hpre j (by omega)
        simp only [if_neg e]
        refine ⟨by rw [List.getElem?_set_ne (by omega)]; exact hp.1, hp.2.1, OwnR.set_ne (hp.2.2.ext _) (by omega)⟩
    · show (if i = k then M.length else R i) < (if j = k then M.length else R j)
      by_cases e : j = k
      · subst e
        rw [if_neg (by omega), if_pos rfl]
        exact (hpre i (by omega)).2.2.lt
      · rw [if_neg (by omega), if_neg e]
        exact hinc i j hij (by omega)
    · simp [intOf]; omega
  · have hlt' : ¬ ((k : Int) < s.need.length) := by omega
    have e : k = s.need.length := by omega
    subst e
    have zlen : (List.replicate s.need.length (List.replicate s.need.length (0 : Int))).length = s.need.length := by simp
    have zat : ∀ j, j < s.need.length → (List.replicate s.need.length (List.replicate s.need.length (0 : Int))).getD j [] = (List.replicate s.need.length (0 : Int)) := fun j hj => by
      rw [List.getD_eq_getElem?_getD, List.getElem?_replicate, if_pos hj]; rfl
    have hcs : cs = rowsC (List.replicate s.need.length (List.replicate s.need.length (0 : Int))) R (fun _ => 1) := by
      apply List.ext_getElem?
      intro i
      by_cases hi : i < s.need.length
      · rw [(hpre i hi).1, rowsC_at (by rw [zlen]; exact hi), zat i hi, List.length_replicate]
      · rw [List.getElem?_eq_none (by omega), List.getElem?_eq_none (by rw [rowsC_len, zlen]; omega)]
    have hU : TabX (List.replicate s.need.length (List.replicate s.need.length (0 : Int))) M0.length M.length M M0.length R (fun _ => 1) := by
      refine ⟨Nat.le_refl _, ho.lt, by rw [← hcs]; exact ho, fun j hj => ?_, fun i j hi hj he => ?_⟩
      · rw [zlen] at hj
        have hp := hpre j hj
        rw [zat j hj]
        exact ⟨by omega, hp.2.2.lt, hp.2.2⟩
      · rw [zlen] at hi hj
        rcases Nat.lt_trichotomy i j with e | e | e
        · have := hinc i j e hj; omega
        · exact e
        · have := hinc j i e hi; omega
    simp (config := {implicitDefEqProofs := false, maxDischargeDepth := 20}) (disch := first | omega | (simp only [lenE]; done) | (simp only [lenE]; omega) | rfl | (simp only [lenE, markR_len]; done) | (simp only [lenE, markR_len]; omega)) only [runE, listE, initT_5, initT_6, initT_7, initT_8, resV, oneV, binA, unA, reduceCtorEq, Nat.reduceEqDiff, Nat.reduceAdd, Nat.reduceLT, Nat.reduceLeDiff, Nat.reduceMul, Nat.reduceSub, ↓reduceIte, decide_true, decide_false, Bool.true_eq_false, Bool.false_eq_true, Bool.not_true, Bool.not_false, if_true, if_false, and_true, true_and, memE, celE, w64, Nat.zero_add, Nat.add_zero, Nat.mul_one, putL, and_self, goC_both, row_aeq, ldn, tm, t1, t2, t3, t4, t9, t10, t22, t23, hlt', o0.rd]
    refine callH_rc (copyOf_rc M _ s (ShA.mk (hX.ints ha) (hX.ints hb)) (by omega) (by omega)) ?_
    rintro r n1 ⟨nr1, ia, ib, fa, fb, hne, ga, gb, rfl, oa, ob⟩
    have hX1 := (hX.app nr1).one 26 [.int .i64 s.life, .slice (some ⟨ia, 0, none⟩) s.arr.length fa, .slice (some ⟨ib, 0, none⟩) s.need.length fb, .int .i64 s.waste, .int .i64 s.lost]
    have la := oa.lt
    have lb := ob.lt
    rw [List.length_append] at la lb
    simp (config := {implicitDefEqProofs := false, maxDischargeDepth := 20}) (disch := first | omega | (simp only [lenE]; done) | (simp only [lenE]; omega) | rfl | (simp only [lenE, markR_len]; done) | (simp only [lenE, markR_len]; omega)) only [runE, listE, initT_5, initT_6, initT_7, initT_8, resV, oneV, binA, unA, reduceCtorEq, Nat.reduceEqDiff, Nat.reduceAdd, Nat.reduceLT, Nat.reduceLeDiff, Nat.reduceMul, Nat.reduceSub, ↓reduceIte, decide_true, decide_false, Bool.true_eq_false, Bool.false_eq_true, Bool.not_true, Bool.not_false, if_true, if_false, and_true, true_and, memE, celE, w64, Nat.zero_add, Nat.add_zero, Nat.mul_one, putL, and_self, goC_both, row_aeq, ldn, t1, t2, t3, t4, t9, t10, stP_agg5']
    obtain ⟨M2, hM2⟩ : ∃ M2, M2 = M ++ n1 ++ [⟨.own, 26, [.int .i64 s.life, .slice (some ⟨ia, 0, none⟩) s.arr.length fa, .slice (some ⟨ib, 0, none⟩) s.need.length fb, .int .i64 s.waste, .int .i64 s.lost]⟩] := ⟨_, rfl⟩
    have l2 : M2.length = M.length + n1.length + 1 := by rw [hM2]; simp; omega
    have o12 : OwnB M2 (M.length + n1.length) 26 [.int .i64 s.life, .slice (some ⟨ia, 0, none⟩) s.need.length fa, .slice (some ⟨ib, 0, none⟩) s.need.length fb, .int .i64 s.waste, .int .i64 s.lost] := by rw [hM2, hla]; exact OwnB.here (by simp)
    have oa2 : OwnR M2 ia s.arr := by rw [hM2]; exact oa.ext _
    have ob2 : OwnR M2 ib s.need := by rw [hM2]; exact ob.ext _
    have hU2 : TabX (List.replicate s.need.length (List.replicate s.need.length (0 : Int))) M0.length M.length M2 M0.length R (fun _ => 1) := by rw [hM2, List.append_assoc]; exact hU.ext (Nat.le_refl _) _
    rw [← hM2] at hX1 ⊢
    have fC : ∀ M2' : Mem, RC Try.prog (useF nw) [.int .i64 0] M2' (AnsV (useV ((0 : Nat) : Int) (colO nw 0 0 : Nat))) := fun M2' => useF_rc M2' nw 0 0 rfl
    refine callH_rc (fC M2) ?_
    rintro r n3 ⟨rfl, nr3⟩
    have hX3 := hX1.app nr3
    have o123 := o12.ext n3
    have oa3 := oa2.ext n3
    have ob3 := ob2.ext n3
    have hU3 := hU2.ext (by omega) n3
    obtain ⟨M3, hM3⟩ : ∃ M3, M3 = M2 ++ n3 := ⟨_, rfl⟩
    have l3 : M3.length = M2.length + n3.length := by rw [hM3, List.length_append]
    rw [← hM3] at hX3 o123 oa3 ob3 hU3 ⊢
    simp (config := {implicitDefEqProofs := false, maxDischargeDepth := 20}) (disch := first | omega | (simp only [lenE]; done) | (simp only [lenE]; omega) | rfl | (simp only [lenE, markR_len]; done) | (simp only [lenE, markR_len]; omega)) only [runE, listE, initT_5, initT_6, initT_7, initT_8, resV, oneV, binA, unA, reduceCtorEq, Nat.reduceEqDiff, Nat.reduceAdd, Nat.reduceLT, Nat.reduceLeDiff, Nat.reduceMul, Nat.reduceSub, ↓reduceIte, decide_true, decide_false, Bool.true_eq_false, Bool.false_eq_true, Bool.not_true, Bool.not_false, if_true, if_false, and_true, true_and, memE, celE, w64, Nat.zero_add, Nat.add_zero, Nat.mul_one, putL, and_self, goC_both, row_aeq, ldn, t1, t9]
    refine callH_rc (useF_rc M3 nw s.need.length _ rfl) ?_
    rintro r n4 ⟨rfl, nr4⟩
    have hX4 := hX3.app nr4
    have o124 := o123.ext n4
    have oa4 := oa3.ext n4
    have ob4 := ob3.ext n4
    have hU4 := hU3.ext (by omega) n4
    obtain ⟨M4, hM4⟩ : ∃ M4, M4 = M3 ++ n4 := ⟨_, rfl⟩
    have l4 : M4.length = M3.length + n4.length := by rw [hM4, List.length_append]
    rw [← hM4] at hX4 o124 oa4 ob4 hU4 ⊢
    simp (config := {implicitDefEqProofs := false, maxDischargeDepth := 20}) (disch := first | omega | (simp only [lenE]; done) | (simp only [lenE]; omega) | rfl | (simp only [lenE, markR_len]; done) | (simp only [lenE, markR_len]; omega)) only [runE, listE, initT_5, initT_6, initT_7, initT_8, resV, oneV, binA, unA, reduceCtorEq, Nat.reduceEqDiff, Nat.reduceAdd, Nat.reduceLT, Nat.reduceLeDiff, Nat.reduceMul, Nat.reduceSub, ↓reduceIte, decide_true, decide_false, Bool.true_eq_false, Bool.false_eq_true, Bool.not_true, Bool.not_false, if_true, if_false, and_true, true_and, memE, celE, w64, Nat.zero_add, Nat.add_zero, Nat.mul_one, putL, and_self, goC_both, row_aeq, ldn, t1, t2, t3, t10, stP_agg2u]
    refine lab_rest9 ?_
    rw [hKK]
    have hU5 : TabX (List.replicate s.need.length (List.replicate s.need.length (0 : Int))) M0.length M.length (M4 ++ [⟨.own, 102, [.int .i64 ((0 : Nat) : Int), .int .i64 ((colO nw 0 0 : Nat) : Int)]⟩] ++ [⟨.own, 102, [.int .i64 (s.need.length : Int), .int .i64 ((colO nw s.need.length 0 : Nat) : Int)]⟩]) M0.length R (fun _ => 1) := by
      rw [List.append_assoc]
      exact hU4.ext (by omega) _
    have b13 : OwnB (M4 ++ [⟨.own, 102, [.int .i64 ((0 : Nat) : Int), .int .i64 ((colO nw 0 0 : Nat) : Int)]⟩] ++ [⟨.own, 102, [.int .i64 (s.need.length : Int), .int .i64 ((colO nw s.need.length 0 : Nat) : Int)]⟩]) M4.length 102 [.int .i64 ((0 : Nat) : Int), .int .i64 ((colO nw 0 0 : Nat) : Int)] := (OwnB.here rfl).ext _
    have b14 : OwnB (M4 ++ [⟨.own, 102, [.int .i64 ((0 : Nat) : Int), .int .i64 ((colO nw 0 0 : Nat) : Int)]⟩] ++ [⟨.own, 102, [.int .i64 (s.need.length : Int), .int .i64 ((colO nw s.need.length 0 : Nat) : Int)]⟩]) (M4.length + 1) 102 [.int .i64 (s.need.length : Int), .int .i64 ((colO nw s.need.length 0 : Nat) : Int)] := OwnB.here (by simp)
    refine rest FU 0 0 (colO nw 0 0) _ _ _ s.arr s.need M0.length M.length M0.length ia ib fa fb (M.length + n1.length) M4.length (M4.length + 1) R (fun _ => 1) rfl ((hX4.one _ _).one _ _) (by omega) hU5 ((o124.ext _).ext _) ((oa4.ext _).ext _) ((ob4.ext _).ext _) b13 b14 (by omega) (by omega) hne (by omega) (by omega) (by omega) (by omega) (by simp only [put_t, put_t', put_m, putT_t, putT_t', putT_m, init_t, init_m, initT_0, initT_1, initT_2, initT_3, initT_4, initT_5, initT_6, initT_7, initT_8, Nat.reduceEqDiff, ↓reduceIte, t1]) (by simp only [put_t, put_t', put_m, putT_t, putT_t', putT_m, init_t, init_m, initT_0, initT_1, initT_2, initT_3, initT_4, initT_5, initT_6, initT_7, initT_8, Nat.reduceEqDiff, ↓reduceIte, t2]) (by simp only [put_t, put_t', put_m, putT_t, putT_t', putT_m, init_t, init_m, initT_0, initT_1, initT_2, initT_3, initT_4, initT_5, initT_6, initT_7, initT_8, Nat.reduceEqDiff, ↓reduceIte, t3]) (by simp only [put_t, put_t', put_m, putT_t, putT_t', putT_m, init_t, init_m, initT_0, initT_1, initT_2, initT_3, initT_4, initT_5, initT_6, initT_7, initT_8, Nat.reduceEqDiff, ↓reduceIte, t10]) ?_ ?_ ?_ (GoAt.zero s nw) (by omega) (fun _ => by omega) (fun _ => rfl) rfl (by omega)
    · first | rfl | (simp only [put_t, put_t', put_m, putT_t, putT_t', putT_m, init_t, init_m, initT_0, initT_1, initT_2, initT_3, initT_4, initT_5, initT_6, initT_7, initT_8, Nat.reduceEqDiff, ↓reduceIte]; done) | (simp only [put_t, put_t', put_m, putT_t, putT_t', putT_m, init_t, init_m, initT_0, initT_1, initT_2, initT_3, initT_4, initT_5, initT_6, initT_7, initT_8, Nat.reduceEqDiff, ↓reduceIte]; simp)
    · first | rfl | (simp only [put_t, put_t', put_m, putT_t, putT_t', putT_m, init_t, init_m, initT_0, initT_1, initT_2, initT_3, initT_4, initT_5, initT_6, initT_7, initT_8, Nat.reduceEqDiff, ↓reduceIte]; done) | (simp only [put_t, put_t', put_m, putT_t, putT_t', putT_m, init_t, init_m, initT_0, initT_1, initT_2, initT_3, initT_4, initT_5, initT_6, initT_7, initT_8, Nat.reduceEqDiff, ↓reduceIte]; simp)
    · first | rfl | (simp only [put_t, put_t', put_m, putT_t, putT_t', putT_m, init_t, init_m, initT_0, initT_1, initT_2, initT_3, initT_4, initT_5, initT_6, initT_7, initT_8, Nat.reduceEqDiff, ↓reduceIte]; done) | (simp only [put_t, put_t', put_m, putT_t, putT_t', putT_m, init_t, init_m, initT_0, initT_1, initT_2, initT_3, initT_4, initT_5, initT_6, initT_7, initT_8, Nat.reduceEqDiff, ↓reduceIte]; simp)
theorem implOldest_rc (m : Mem) (v : Value) (s : Sh) (h : ShA m v s) :
    RC Try.prog 16 [v] m (AnsO m (TabO (issA s false)) fun v => .tuple #[v, .bool s.good]) := by
  refine rc_of_run mixed ok_impl_OldestFirst (by simp) (go_start _ _ _ ?_)
  obtain ⟨a, b, rfl, ha, hb⟩ := h.ro
  have hX := (Ext.refl m).one 26 [.int .i64 s.life, a, b, .int .i64 s.waste, .int .i64 s.lost]
  simp (config := {implicitDefEqProofs := false, maxDischargeDepth := 20}) (disch := first | omega | (simp only [lenE]; done) | (simp only [lenE]; omega) | rfl | (simp only [lenE, markR_len]; done) | (simp only [lenE, markR_len]; omega)) only [runE, mapE, listE, initT_5, initT_6, initT_7, initT_8, resV, oneV, binA, unA, reduceCtorEq, Nat.reduceEqDiff, Nat.reduceAdd, Nat.reduceLT, Nat.reduceLeDiff, Nat.reduceMul, Nat.reduceSub, ↓reduceIte, decide_true, decide_false, Bool.true_eq_false, Bool.false_eq_true, Bool.not_true, Bool.not_false, if_true, if_false, and_true, true_and, memE, celE, w64, Nat.zero_add, Nat.add_zero, Nat.mul_one, putL, and_self, ldn, c_impl_OldestFirst, r_impl_OldestFirst]
  obtain ⟨M0, hM0⟩ : ∃ M0, M0 = roM m ++ [⟨.own, 26, [.int .i64 s.life, a, b, .int .i64 s.waste, .int .i64 s.lost]⟩] := ⟨_, rfl⟩
  have o1 : OwnB M0 m.length 26 [.int .i64 s.life, a, b, .int .i64 s.waste, .int .i64 s.lost] := by rw [hM0]; exact OwnB.here (by simp [roM_len])
  rw [← hM0] at hX ⊢
  refine callH_rc (implIsShelf_rc _ _ s (ShA.mk (hX.ints ha) (hX.ints hb))) ?_
  rintro r n1 ⟨rfl, nr1⟩
  replace hX := hX.app nr1
  replace o1 := o1.ext n1
  obtain ⟨M1, hM1⟩ : ∃ M1, M1 = M0 ++ n1 := ⟨_, rfl⟩
  rw [← hM1] at hX o1 ⊢
  unfold issA
  cases hg : s.good with
  | false =>
    simp (config := {implicitDefEqProofs := false, maxDischargeDepth := 20}) (disch := first | omega | (simp only [lenE]; done) | (simp only [lenE]; omega) | rfl | (simp only [lenE, markR_len]; done) | (simp only [lenE, markR_len]; omega)) only [runE, mapE, listE, initT_5, initT_6, initT_7, initT_8, resV, oneV, binA, unA, reduceCtorEq, Nat.reduceEqDiff, Nat.reduceAdd, Nat.reduceLT, Nat.reduceLeDiff, Nat.reduceMul, Nat.reduceSub, ↓reduceIte, decide_true, decide_false, Bool.true_eq_false, Bool.false_eq_true, Bool.not_true, Bool.not_false, if_true, if_false, and_true, true_and, memE, celE, w64, Nat.zero_add, Nat.add_zero, Nat.mul_one, putL, and_self, ldn, bsl_no]
    exact ext_noTab (f := fun v => .tuple #[v, .bool false]) hX rfl
  | true =>
    simp (config := {implicitDefEqProofs := false, maxDischargeDepth := 20}) (disch := first | omega | (simp only [lenE]; done) | (simp only [lenE]; omega) | rfl | (simp only [lenE, markR_len]; done) | (simp only [lenE, markR_len]; omega)) only [runE, mapE, listE, initT_5, initT_6, initT_7, initT_8, resV, oneV, binA, unA, reduceCtorEq, Nat.reduceEqDiff, Nat.reduceAdd, Nat.reduceLT, Nat.reduceLeDiff, Nat.reduceMul, Nat.reduceSub, ↓reduceIte, decide_true, decide_false, Bool.true_eq_false, Bool.false_eq_true, Bool.not_true, Bool.not_false, if_true, if_false, and_true, true_and, memE, celE, w64, Nat.zero_add, Nat.add_zero, Nat.mul_one, putL, and_self, ldn, o1.rd]
    have K := issueBy_rc M1 _ s false (ShA.mk (hX.ints ha) (hX.ints hb)) (goodSh_iff.1 hg)
    refine callH_rc K ?_
    rintro r n2 ⟨nr2, w, rfl, hw⟩
    simp (config := {implicitDefEqProofs := false, maxDischargeDepth := 20}) (disch := first | omega | (simp only [lenE]; done) | (simp only [lenE]; omega) | rfl | (simp only [lenE, markR_len]; done) | (simp only [lenE, markR_len]; omega)) only [runE, mapE, listE, initT_5, initT_6, initT_7, initT_8, resV, oneV, binA, unA, reduceCtorEq, Nat.reduceEqDiff, Nat.reduceAdd, Nat.reduceLT, Nat.reduceLeDiff, Nat.reduceMul, Nat.reduceSub, ↓reduceIte, decide_true, decide_false, Bool.true_eq_false, Bool.false_eq_true, Bool.not_true, Bool.not_false, if_true, if_false, and_true, true_and, memE, celE, w64, Nat.zero_add, Nat.add_zero, Nat.mul_one, putL, and_self, ldn]
    exact Ext.pass (f := fun v => .tuple #[v, .bool true]) hX nr2 (TabO.wide _) hw
theorem implNewest_rc (m : Mem) (v : Value) (s : Sh) (h : ShA m v s) :
    RC Try.prog 18 [v] m (AnsO m (TabO (issA s true)) fun v => .tuple #[v, .bool s.good]) := by
  refine rc_of_run mixed ok_impl_NewestFirst (by simp) (go_start _ _ _ ?_)
  obtain ⟨a, b, rfl, ha, hb⟩ := h.ro
  have hX := (Ext.refl m).one 26 [.int .i64 s.life, a, b, .int .i64 s.waste, .int .i64 s.lost]
  simp (config := {implicitDefEqProofs := false, maxDischargeDepth := 20}) (disch := first | omega | (simp only [lenE]; done) | (simp only [lenE]; omega) | rfl | (simp only [lenE, markR_len]; done) | (simp only [lenE, markR_len]; omega)) only [runE, mapE, listE, initT_5, initT_6, initT_7, initT_8, resV, oneV, binA, unA, reduceCtorEq, Nat.reduceEqDiff, Nat.reduceAdd, Nat.reduceLT, Nat.reduceLeDiff, Nat.reduceMul, Nat.reduceSub, ↓reduceIte, decide_true, decide_false, Bool.true_eq_false, Bool.false_eq_true, Bool.not_true, Bool.not_false, if_true, if_false, and_true, true_and, memE, celE, w64, Nat.zero_add, Nat.add_zero, Nat.mul_one, putL, and_self, ldn, c_impl_NewestFirst, r_impl_NewestFirst]
  obtain ⟨M0, hM0⟩ : ∃ M0, M0 = roM m ++ [⟨.own, 26, [.int .i64 s.life, a, b, .int .i64 s.waste, .int .i64 s.lost]⟩] := ⟨_, rfl⟩
  have o1 : OwnB M0 m.length 26 [.int .i64 s.life, a, b, .int .i64 s.waste, .int .i64 s.lost] := by rw [hM0]; exact OwnB.here (by simp [roM_len])
  rw [← hM0] at hX ⊢
  refine callH_rc (implIsShelf_rc _ _ s (ShA.mk (hX.ints ha) (hX.ints hb))) ?_
  rintro r n1 ⟨rfl, nr1⟩
  replace hX := hX.app nr1
  replace o1 := o1.ext n1
  obtain ⟨M1, hM1⟩ : ∃ M1, M1 = M0 ++ n1 := ⟨_, rfl⟩
  rw [← hM1] at hX o1 ⊢
  unfold issA
  cases hg : s.good with
  | false =>
    simp (config := {implicitDefEqProofs := false, maxDischargeDepth := 20}) (disch := first | omega | (simp only [lenE]; done) | (simp only [lenE]; omega) | rfl | (simp only [lenE, markR_len]; done) | (simp only [lenE, markR_len]; omega)) only [runE, mapE, listE, initT_5, initT_6, initT_7, initT_8, resV, oneV, binA, unA, reduceCtorEq, Nat.reduceEqDiff, Nat.reduceAdd, Nat.reduceLT, Nat.reduceLeDiff, Nat.reduceMul, Nat.reduceSub, ↓reduceIte, decide_true, decide_false, Bool.true_eq_false, Bool.false_eq_true, Bool.not_true, Bool.not_false, if_true, if_false, and_true, true_and, memE, celE, w64, Nat.zero_add, Nat.add_zero, Nat.mul_one, putL, and_self, ldn, bsl_no]
    exact ext_noTab (f := fun v => .tuple #[v, .bool false]) hX rfl
  | true =>
    simp (config := {implicitDefEqProofs := false, maxDischargeDepth := 20}) (disch := first | omega | (simp only [lenE]; done) | (simp only [lenE]; omega) | rfl | (simp only [lenE, markR_len]; done) | (simp only [lenE, markR_len]; omega)) only [runE, mapE, listE, initT_5, initT_6, initT_7, initT_8, resV, oneV, binA, unA, reduceCtorEq, Nat.reduceEqDiff, Nat.reduceAdd, Nat.reduceLT, Nat.reduceLeDiff, Nat.reduceMul, Nat.reduceSub, ↓reduceIte, decide_true, decide_false, Bool.true_eq_false, Bool.false_eq_true, Bool.not_true, Bool.not_false, if_true, if_false, and_true, true_and, memE, celE, w64, Nat.zero_add, Nat.add_zero, Nat.mul_one, putL, and_self, ldn, o1.rd]
    have K := issueBy_rc M1 _ s true (ShA.mk (hX.ints ha) (hX.ints hb)) (goodSh_iff.1 hg)
    refine callH_rc K ?_
    rintro r n2 ⟨nr2, w, rfl, hw⟩
    simp (config := {implicitDefEqProofs := false, maxDischargeDepth := 20}) (disch := first | omega | (simp only [lenE]; done) | (simp only [lenE]; omega) | rfl | (simp only [lenE, markR_len]; done) | (simp only [lenE, markR_len]; omega)) only [runE, mapE, listE, initT_5, initT_6, initT_7, initT_8, resV, oneV, binA, unA, reduceCtorEq, Nat.reduceEqDiff, Nat.reduceAdd, Nat.reduceLT, Nat.reduceLeDiff, Nat.reduceMul, Nat.reduceSub, ↓reduceIte, decide_true, decide_false, Bool.true_eq_false, Bool.false_eq_true, Bool.not_true, Bool.not_false, if_true, if_false, and_true, true_and, memE, celE, w64, Nat.zero_add, Nat.add_zero, Nat.mul_one, putL, and_self, ldn]
    exact Ext.pass (f := fun v => .tuple #[v, .bool true]) hX nr2 (TabO.wide _) hw
end Go.Proofs.Ytdgfbmilbhckiaa.Ab
end
section
namespace Go.Proofs.Ytdgfbmilbhckiaa.Ab
open Go Go.RowKit Go.Proofs
set_option maxRecDepth 100000
def c_laws_FnShelves : ACode := .seq (.reg [⟨(some 2), .mv (.const (.bool false)), none⟩])
 (.seq (.seq (.reg [⟨(some 43), .mv (.tmp 0), none⟩,
  ⟨(some 44), .call (.func 6) [(.tmp 43)], none⟩])
 (.cond (.tmp 44) (.seq (.reg [⟨(some 2), .mv (.const (.bool true)), none⟩])
 (.ret)) (.skip)))
 (.seq (.reg [⟨(some 46), .mv (.tmp 0), none⟩,
  ⟨(some 47), .call (.func 7) [(.tmp 46)], none⟩,
  ⟨(some 45), .mv (.tmp 47), none⟩,
  ⟨(some 48), .ext 0 (.tmp 45), none⟩,
  ⟨(some 49), .ext 1 (.tmp 45), none⟩,
  ⟨(some 3), .alc 26 [(.int .i64 0), (.slice none 0 0), (.slice none 0 0), (.int .i64 0), (.int .i64 0)], none⟩,
  ⟨none, .st 5 (.tmp 3) (.tmp 48), none⟩,
  ⟨(some 4), .mv (.tmp 49), none⟩])
 (.seq (.reg [⟨(some 51), .ld (some 5) (.tmp 3), none⟩,
  ⟨(some 52), .mv (.tmp 4), none⟩,
  ⟨(some 53), .call (.func 8) [(.tmp 51), (.tmp 52)], none⟩,
  ⟨(some 50), .mv (.tmp 53), none⟩,
  ⟨(some 54), .ext 0 (.tmp 50), none⟩,
  ⟨(some 55), .ext 1 (.tmp 50), none⟩,
  ⟨(some 5), .mv (.tmp 54), none⟩,
  ⟨(some 6), .mv (.tmp 55), none⟩])
 (.seq (.reg [⟨(some 57), .ld (some 5) (.tmp 3), none⟩,
  ⟨(some 58), .mv (.tmp 4), none⟩,
  ⟨(some 59), .call (.func 9) [(.tmp 57), (.tmp 58)], none⟩,
  ⟨(some 56), .mv (.tmp 59), none⟩,
  ⟨(some 60), .ext 0 (.tmp 56), none⟩,
  ⟨(some 61), .ext 1 (.tmp 56), none⟩,
  ⟨(some 7), .mv (.tmp 60), none⟩,
  ⟨(some 8), .mv (.tmp 61), none⟩])
 (.seq (.reg [⟨(some 63), .ld (some 5) (.tmp 3), none⟩,
  ⟨(some 64), .mv (.tmp 4), none⟩,
  ⟨(some 65), .call (.func 10) [(.tmp 63), (.tmp 64)], none⟩,
  ⟨(some 62), .mv (.tmp 65), none⟩,
  ⟨(some 66), .ext 0 (.tmp 62), none⟩,
  ⟨(some 67), .ext 1 (.tmp 62), none⟩,
  ⟨(some 9), .mv (.tmp 66), none⟩,
  ⟨(some 10), .mv (.tmp 67), none⟩])
 (.seq (.reg [⟨(some 69), .ld (some 5) (.tmp 3), none⟩,
  ⟨(some 70), .mv (.tmp 4), none⟩,
  ⟨(some 71), .call (.func 11) [(.tmp 69), (.tmp 70)], none⟩,
  ⟨(some 68), .mv (.tmp 71), none⟩,
  ⟨(some 72), .ext 0 (.tmp 68), none⟩,
  ⟨(some 73), .ext 1 (.tmp 68), none⟩,
  ⟨(some 11), .mv (.tmp 72), none⟩,
  ⟨(some 12), .mv (.tmp 73), none⟩])
 (.seq (.reg [⟨(some 75), .ld (some 5) (.tmp 3), none⟩,
  ⟨(some 76), .mv (.tmp 4), none⟩,
  ⟨(some 77), .call (.func 12) [(.tmp 75), (.tmp 76)], none⟩,
  ⟨(some 74), .mv (.tmp 77), none⟩,
  ⟨(some 78), .ext 0 (.tmp 74), none⟩,
  ⟨(some 79), .ext 1 (.tmp 74), none⟩,
  ⟨(some 13), .mv (.tmp 78), none⟩,
  ⟨(some 14), .mv (.tmp 79), none⟩])
 (.seq (.reg [⟨(some 81), .ld (some 5) (.tmp 3), none⟩,
  ⟨(some 82), .mv (.tmp 4), none⟩,
  ⟨(some 83), .call (.func 13) [(.tmp 81), (.tmp 82)], none⟩,
  ⟨(some 80), .mv (.tmp 83), none⟩,
  ⟨(some 84), .ext 0 (.tmp 80), none⟩,
  ⟨(some 85), .ext 1 (.tmp 80), none⟩,
  ⟨(some 15), .mv (.tmp 84), none⟩,
  ⟨(some 16), .mv (.tmp 85), none⟩])
 (.seq (.reg [⟨(some 87), .ld (some 5) (.tmp 3), none⟩,
  ⟨(some 88), .mv (.tmp 4), none⟩,
  ⟨(some 89), .call (.func 14) [(.tmp 87), (.tmp 88)], none⟩,
  ⟨(some 86), .mv (.tmp 89), none⟩,
  ⟨(some 90), .ext 0 (.tmp 86), none⟩,
  ⟨(some 91), .ext 1 (.tmp 86), none⟩,
  ⟨(some 17), .mv (.tmp 90), none⟩,
  ⟨(some 18), .mv (.tmp 91), none⟩])
 (.seq (.reg [⟨(some 93), .ld (some 5) (.tmp 3), none⟩,
  ⟨(some 94), .mv (.tmp 4), none⟩,
  ⟨(some 95), .call (.func 15) [(.tmp 93), (.tmp 94)], none⟩,
  ⟨(some 92), .mv (.tmp 95), none⟩,
  ⟨(some 96), .ext 0 (.tmp 92), none⟩,
  ⟨(some 97), .ext 1 (.tmp 92), none⟩,
  ⟨(some 19), .mv (.tmp 96), none⟩,
  ⟨(some 20), .mv (.tmp 97), none⟩])
 (.seq (.reg [⟨(some 99), .ld (some 5) (.tmp 3), none⟩,
  ⟨(some 100), .call (.func 16) [(.tmp 99)], none⟩,
  ⟨(some 98), .mv (.tmp 100), none⟩,
  ⟨(some 101), .ext 0 (.tmp 98), none⟩,
  ⟨(some 102), .ext 1 (.tmp 98), none⟩,
  ⟨(some 21), .mv (.tmp 101), none⟩,
  ⟨(some 22), .mv (.tmp 102), none⟩])
 (.seq (.reg [⟨(some 104), .ld (some 5) (.tmp 3), none⟩,
  ⟨(some 105), .call (.func 17) [(.tmp 104)], none⟩,
  ⟨(some 103), .mv (.tmp 105), none⟩,
  ⟨(some 106), .ext 0 (.tmp 103), none⟩,
  ⟨(some 107), .ext 1 (.tmp 103), none⟩,
  ⟨(some 23), .mv (.tmp 106), none⟩,
  ⟨(some 24), .mv (.tmp 107), none⟩])
 (.seq (.reg [⟨(some 109), .ld (some 5) (.tmp 3), none⟩,
  ⟨(some 110), .call (.func 18) [(.tmp 109)], none⟩,
  ⟨(some 108), .mv (.tmp 110), none⟩,
  ⟨(some 111), .ext 0 (.tmp 108), none⟩,
  ⟨(some 112), .ext 1 (.tmp 108), none⟩,
  ⟨(some 25), .mv (.tmp 111), none⟩,
  ⟨(some 26), .mv (.tmp 112), none⟩])
 (.seq (.reg [⟨(some 114), .ld (some 5) (.tmp 3), none⟩,
  ⟨(some 115), .call (.func 19) [(.tmp 114)], none⟩,
  ⟨(some 113), .mv (.tmp 115), none⟩,
  ⟨(some 116), .ext 0 (.tmp 113), none⟩,
  ⟨(some 117), .ext 1 (.tmp 113), none⟩,
  ⟨(some 27), .mv (.tmp 116), none⟩,
  ⟨(some 28), .mv (.tmp 117), none⟩])
 (.seq (.reg [⟨(some 119), .ld (some 5) (.tmp 3), none⟩,
  ⟨(some 120), .call (.func 20) [(.tmp 119)], none⟩,
  ⟨(some 118), .mv (.tmp 120), none⟩,
  ⟨(some 121), .ext 0 (.tmp 118), none⟩,
  ⟨(some 122), .ext 1 (.tmp 118), none⟩,
  ⟨(some 29), .mv (.tmp 121), none⟩,
  ⟨(some 30), .mv (.tmp 122), none⟩])
 (.seq (.reg [⟨(some 124), .ld (some 5) (.tmp 3), none⟩,
  ⟨(some 125), .call (.func 21) [(.tmp 124)], none⟩,
  ⟨(some 123), .mv (.tmp 125), none⟩,
  ⟨(some 126), .ext 0 (.tmp 123), none⟩,
  ⟨(some 127), .ext 1 (.tmp 123), none⟩,
  ⟨(some 31), .mv (.tmp 126), none⟩,
  ⟨(some 32), .mv (.tmp 127), none⟩])
 (.seq (.seq (.reg [⟨(some 128), .mv (.tmp 5), none⟩,
  ⟨(some 129), .mv (.tmp 7), none⟩,
  ⟨(some 130), .beq true (.tmp 128) (.tmp 129), none⟩,
  ⟨(some 131), .mv (.tmp 130), none⟩,
  ⟨(some 132), .mv (.tmp 6), (some (131, false))⟩,
  ⟨(some 133), .mv (.tmp 8), (some (131, false))⟩,
  ⟨(some 134), .beq true (.tmp 132) (.tmp 133), (some (131, false))⟩,
  ⟨(some 135), .pick (.tmp 131) (.const (.bool true)) (.tmp 134), none⟩,
  ⟨(some 136), .mv (.tmp 135), none⟩,
  ⟨(some 137), .mv (.tmp 9), (some (136, false))⟩,
  ⟨(some 138), .mv (.tmp 11), (some (136, false))⟩,
  ⟨(some 139), .bin .neq (.tmp 137) (.tmp 138), (some (136, false))⟩,
  ⟨(some 140), .pick (.tmp 136) (.const (.bool true)) (.tmp 139), none⟩,
  ⟨(some 141), .mv (.tmp 140), none⟩,
  ⟨(some 142), .mv (.tmp 10), (some (141, false))⟩,
  ⟨(some 143), .mv (.tmp 12), (some (141, false))⟩,
  ⟨(some 144), .beq true (.tmp 142) (.tmp 143), (some (141, false))⟩,
  ⟨(some 145), .pick (.tmp 141) (.const (.bool true)) (.tmp 144), none⟩,
  ⟨(some 146), .mv (.tmp 145), none⟩,
  ⟨(some 147), .mv (.tmp 14), (some (146, false))⟩,
  ⟨(some 148), .mv (.tmp 16), (some (146, false))⟩,
  ⟨(some 149), .beq true (.tmp 147) (.tmp 148), (some (146, false))⟩,
  ⟨(some 150), .pick (.tmp 146) (.const (.bool true)) (.tmp 149), none⟩,
  ⟨(some 151), .mv (.tmp 150), none⟩,
  ⟨(some 152), .mv (.tmp 13), (some (151, false))⟩,
  ⟨(some 153), .mv (.tmp 15), (some (151, false))⟩,
  ⟨(some 154), .rcall (.func 22) [(.tmp 152), (.tmp 153)], (some (151, false))⟩,
  ⟨(some 155), .un .not (.tmp 154), (some (151, false))⟩,
  ⟨(some 156), .pick (.tmp 151) (.const (.bool true)) (.tmp 155), none⟩,
  ⟨(some 157), .mv (.tmp 156), none⟩,
  ⟨(some 158), .mv (.tmp 18), (some (157, false))⟩,
  ⟨(some 159), .mv (.tmp 20), (some (157, false))⟩,
  ⟨(some 160), .beq true (.tmp 158) (.tmp 159), (some (157, false))⟩,
  ⟨(some 161), .pick (.tmp 157) (.const (.bool true)) (.tmp 160), none⟩,
  ⟨(some 162), .mv (.tmp 161), none⟩,
  ⟨(some 163), .mv (.tmp 17), (some (162, false))⟩,
  ⟨(some 164), .mv (.tmp 19), (some (162, false))⟩,
  ⟨(some 165), .rcall (.func 22) [(.tmp 163), (.tmp 164)], (some (162, false))⟩,
  ⟨(some 166), .un .not (.tmp 165), (some (162, false))⟩,
  ⟨(some 167), .pick (.tmp 162) (.const (.bool true)) (.tmp 166), none⟩,
  ⟨(some 168), .mv (.tmp 167), none⟩,
  ⟨(some 169), .mv (.tmp 22), (some (168, false))⟩,
  ⟨(some 170), .mv (.tmp 24), (some (168, false))⟩,
  ⟨(some 171), .beq true (.tmp 169) (.tmp 170), (some (168, false))⟩,
  ⟨(some 172), .pick (.tmp 168) (.const (.bool true)) (.tmp 171), none⟩,
  ⟨(some 173), .mv (.tmp 172), none⟩,
  ⟨(some 174), .mv (.tmp 21), (some (173, false))⟩,
  ⟨(some 175), .mv (.tmp 23), (some (173, false))⟩,
  ⟨(some 176), .rcall (.func 23) [(.tmp 174), (.tmp 175)], (some (173, false))⟩,
  ⟨(some 177), .un .not (.tmp 176), (some (173, false))⟩,
  ⟨(some 178), .pick (.tmp 173) (.const (.bool true)) (.tmp 177), none⟩,
  ⟨(some 179), .mv (.tmp 178), none⟩,
  ⟨(some 180), .mv (.tmp 26), (some (179, false))⟩,
  ⟨(some 181), .mv (.tmp 28), (some (179, false))⟩,
  ⟨(some 182), .beq true (.tmp 180) (.tmp 181), (some (179, false))⟩,
  ⟨(some 183), .pick (.tmp 179) (.const (.bool true)) (.tmp 182), none⟩,
  ⟨(some 184), .mv (.tmp 183), none⟩,
  ⟨(some 185), .mv (.tmp 25), (some (184, false))⟩,
  ⟨(some 186), .mv (.tmp 27), (some (184, false))⟩,
  ⟨(some 187), .rcall (.func 23) [(.tmp 185), (.tmp 186)], (some (184, false))⟩,
  ⟨(some 188), .un .not (.tmp 187), (some (184, false))⟩,
  ⟨(some 189), .pick (.tmp 184) (.const (.bool true)) (.tmp 188), none⟩,
  ⟨(some 190), .mv (.tmp 189), none⟩,
  ⟨(some 191), .mv (.tmp 30), (some (190, false))⟩,
  ⟨(some 192), .mv (.tmp 32), (some (190, false))⟩,
  ⟨(some 193), .beq true (.tmp 191) (.tmp 192), (some (190, false))⟩,
  ⟨(some 194), .pick (.tmp 190) (.const (.bool true)) (.tmp 193), none⟩,
  ⟨(some 195), .mv (.tmp 194), none⟩,
  ⟨(some 196), .mv (.tmp 29), (some (195, false))⟩,
  ⟨(some 197), .mv (.tmp 31), (some (195, false))⟩,
  ⟨(some 198), .rcall (.func 22) [(.tmp 196), (.tmp 197)], (some (195, false))⟩,
  ⟨(some 199), .un .not (.tmp 198), (some (195, false))⟩,
  ⟨(some 200), .pick (.tmp 195) (.const (.bool true)) (.tmp 199), none⟩,
  ⟨(some 201), .mv (.tmp 200), none⟩,
  ⟨(some 202), .ld (some 5) (.tmp 3), (some (201, false))⟩,
  ⟨(some 204), .ld (some 5) (.tmp 3), (some (201, false))⟩,
  ⟨(some 203), .rcall (.func 24) [(.tmp 202)], (some (201, false))⟩,
  ⟨(some 205), .rcall (.func 25) [(.tmp 204)], (some (201, false))⟩,
  ⟨(some 206), .beq true (.tmp 203) (.tmp 205), (some (201, false))⟩,
  ⟨(some 207), .pick (.tmp 201) (.const (.bool true)) (.tmp 206), none⟩])
 (.cond (.tmp 207) (.seq (.reg [⟨(some 2), .mv (.const (.bool false)), none⟩])
 (.ret)) (.skip)))
 (.seq (.seq (.reg [⟨(some 208), .mv (.tmp 22), none⟩,
  ⟨(some 209), .un .not (.tmp 208), none⟩])
 (.cond (.tmp 209) (.seq (.reg [⟨(some 2), .mv (.const (.bool true)), none⟩])
 (.ret)) (.skip)))
 (.seq (.reg [⟨(some 211), .ld (some 5) (.tmp 3), none⟩,
  ⟨(some 212), .mv (.tmp 21), none⟩,
  ⟨(some 213), .call (.func 8) [(.tmp 211), (.tmp 212)], none⟩,
  ⟨(some 210), .mv (.tmp 213), none⟩,
  ⟨(some 214), .ext 0 (.tmp 210), none⟩,
  ⟨(some 215), .ext 1 (.tmp 210), none⟩,
  ⟨(some 33), .mv (.tmp 214), none⟩,
  ⟨(some 34), .mv (.tmp 215), none⟩])
 (.seq (.reg [⟨(some 217), .ld (some 5) (.tmp 3), none⟩,
  ⟨(some 218), .mv (.tmp 25), none⟩,
  ⟨(some 219), .call (.func 8) [(.tmp 217), (.tmp 218)], none⟩,
  ⟨(some 216), .mv (.tmp 219), none⟩,
  ⟨(some 220), .ext 0 (.tmp 216), none⟩,
  ⟨(some 221), .ext 1 (.tmp 216), none⟩,
  ⟨(some 35), .mv (.tmp 220), none⟩,
  ⟨(some 36), .mv (.tmp 221), none⟩])
 (.seq (.reg [⟨(some 223), .ld (some 5) (.tmp 3), none⟩,
  ⟨(some 224), .mv (.tmp 29), none⟩,
  ⟨(some 225), .call (.func 26) [(.tmp 223), (.tmp 224)], none⟩,
  ⟨(some 222), .mv (.tmp 225), none⟩,
  ⟨(some 226), .ext 0 (.tmp 222), none⟩,
  ⟨(some 227), .ext 1 (.tmp 222), none⟩,
  ⟨(some 37), .mv (.tmp 226), none⟩,
  ⟨(some 38), .mv (.tmp 227), none⟩])
 (.seq (.reg [⟨(some 229), .ld (some 5) (.tmp 3), none⟩,
  ⟨(some 230), .mv (.tmp 21), none⟩,
  ⟨(some 231), .call (.func 12) [(.tmp 229), (.tmp 230)], none⟩,
  ⟨(some 228), .mv (.tmp 231), none⟩,
  ⟨(some 232), .ext 0 (.tmp 228), none⟩,
  ⟨(some 233), .ext 1 (.tmp 228), none⟩,
  ⟨(some 39), .mv (.tmp 232), none⟩,
  ⟨(some 40), .mv (.tmp 233), none⟩])
 (.seq (.reg [⟨(some 235), .ld (some 5) (.tmp 3), none⟩,
  ⟨(some 236), .mv (.tmp 21), none⟩,
  ⟨(some 237), .call (.func 10) [(.tmp 235), (.tmp 236)], none⟩,
  ⟨(some 234), .mv (.tmp 237), none⟩,
  ⟨(some 238), .ext 0 (.tmp 234), none⟩,
  ⟨(some 239), .ext 1 (.tmp 234), none⟩,
  ⟨(some 41), .mv (.tmp 238), none⟩,
  ⟨(some 42), .mv (.tmp 239), none⟩])
 (.seq (.seq (.reg [⟨(some 240), .mv (.tmp 34), none⟩,
  ⟨(some 241), .un .not (.tmp 240), none⟩,
  ⟨(some 242), .mv (.tmp 241), none⟩,
  ⟨(some 243), .mv (.tmp 33), (some (242, false))⟩,
  ⟨(some 244), .un .not (.tmp 243), (some (242, false))⟩,
  ⟨(some 245), .pick (.tmp 242) (.const (.bool true)) (.tmp 244), none⟩,
  ⟨(some 246), .mv (.tmp 245), none⟩,
  ⟨(some 247), .mv (.tmp 36), (some (246, false))⟩,
  ⟨(some 248), .un .not (.tmp 247), (some (246, false))⟩,
  ⟨(some 249), .pick (.tmp 246) (.const (.bool true)) (.tmp 248), none⟩,
  ⟨(some 250), .mv (.tmp 249), none⟩,
  ⟨(some 251), .mv (.tmp 35), (some (250, false))⟩,
  ⟨(some 252), .un .not (.tmp 251), (some (250, false))⟩,
  ⟨(some 253), .pick (.tmp 250) (.const (.bool true)) (.tmp 252), none⟩,
  ⟨(some 254), .mv (.tmp 253), none⟩,
  ⟨(some 255), .mv (.tmp 38), (some (254, false))⟩,
  ⟨(some 256), .un .not (.tmp 255), (some (254, false))⟩,
  ⟨(some 257), .pick (.tmp 254) (.const (.bool true)) (.tmp 256), none⟩,
  ⟨(some 258), .mv (.tmp 257), none⟩,
  ⟨(some 259), .mv (.tmp 40), (some (258, false))⟩,
  ⟨(some 260), .un .not (.tmp 259), (some (258, false))⟩,
  ⟨(some 261), .pick (.tmp 258) (.const (.bool true)) (.tmp 260), none⟩,
  ⟨(some 262), .mv (.tmp 261), none⟩,
  ⟨(some 263), .mv (.tmp 42), (some (262, false))⟩,
  ⟨(some 264), .un .not (.tmp 263), (some (262, false))⟩,
  ⟨(some 265), .pick (.tmp 262) (.const (.bool true)) (.tmp 264), none⟩,
  ⟨(some 266), .mv (.tmp 265), none⟩,
  ⟨(some 267), .mv (.tmp 39), (some (266, false))⟩,
  ⟨(some 268), .call (.func 27) [(.tmp 267)], (some (266, false))⟩,
  ⟨(some 269), .mv (.tmp 37), (some (266, false))⟩,
  ⟨(some 270), .bin .neq (.tmp 268) (.tmp 269), (some (266, false))⟩,
  ⟨(some 271), .pick (.tmp 266) (.const (.bool true)) (.tmp 270), none⟩,
  ⟨(some 272), .mv (.tmp 271), none⟩,
  ⟨(some 273), .mv (.tmp 25), (some (272, false))⟩,
  ⟨(some 274), .call (.func 28) [(.tmp 273)], (some (272, false))⟩,
  ⟨(some 275), .mv (.tmp 21), (some (272, false))⟩,
  ⟨(some 276), .call (.func 28) [(.tmp 275)], (some (272, false))⟩,
  ⟨(some 277), .bin .gtr (.tmp 274) (.tmp 276), (some (272, false))⟩,
  ⟨(some 278), .pick (.tmp 272) (.const (.bool true)) (.tmp 277), none⟩])
 (.cond (.tmp 278) (.seq (.reg [⟨(some 2), .mv (.const (.bool false)), none⟩])
 (.ret)) (.skip)))
 (.seq (.reg [⟨(some 279), .mv (.tmp 10), none⟩,
  ⟨(some 280), .un .not (.tmp 279), none⟩,
  ⟨(some 281), .mv (.tmp 280), none⟩,
  ⟨(some 282), .mv (.tmp 9), (some (281, false))⟩,
  ⟨(some 283), .mv (.tmp 41), (some (281, false))⟩,
  ⟨(some 284), .bin .geq (.tmp 282) (.tmp 283), (some (281, false))⟩,
  ⟨(some 285), .mv (.tmp 284), (some (281, false))⟩,
  ⟨(some 286), .mv (.tmp 13), (some (285, true))⟩,
  ⟨(some 288), .mv (.tmp 4), (some (285, true))⟩,
  ⟨(some 291), .fad 2 (.tmp 3), (some (285, true))⟩,
  ⟨(some 292), .ld none (.tmp 291), (some (285, true))⟩,
  ⟨(some 287), .rcall (.func 27) [(.tmp 286)], (some (285, true))⟩,
  ⟨(some 289), .rcall (.func 28) [(.tmp 288)], (some (285, true))⟩,
  ⟨(some 290), .bin .add (.tmp 287) (.tmp 289), (some (285, true))⟩,
  ⟨(some 293), .rcall (.func 27) [(.tmp 292)], (some (285, true))⟩,
  ⟨(some 294), .bin .eql (.tmp 290) (.tmp 293), (some (285, true))⟩,
  ⟨(some 295), .pick (.tmp 285) (.tmp 294) (.const (.bool false)), (some (281, false))⟩,
  ⟨(some 296), .mv (.tmp 295), (some (281, false))⟩,
  ⟨(some 297), .mv (.tmp 17), (some (296, true))⟩,
  ⟨(some 299), .mv (.tmp 4), (some (296, true))⟩,
  ⟨(some 302), .fad 1 (.tmp 3), (some (296, true))⟩,
  ⟨(some 303), .ld none (.tmp 302), (some (296, true))⟩,
  ⟨(some 298), .rcall (.func 27) [(.tmp 297)], (some (296, true))⟩,
  ⟨(some 300), .rcall (.func 28) [(.tmp 299)], (some (296, true))⟩,
  ⟨(some 301), .bin .add (.tmp 298) (.tmp 300), (some (296, true))⟩,
  ⟨(some 304), .rcall (.func 27) [(.tmp 303)], (some (296, true))⟩,
  ⟨(some 305), .bin .eql (.tmp 301) (.tmp 304), (some (296, true))⟩,
  ⟨(some 306), .pick (.tmp 296) (.tmp 305) (.const (.bool false)), (some (281, false))⟩,
  ⟨(some 307), .pick (.tmp 281) (.const (.bool true)) (.tmp 306), none⟩,
  ⟨(some 2), .mv (.tmp 307), none⟩])
 (.ret))))))))))))))))))))))))))
def r_laws_FnShelves : List ARes := [.tmp 2]
theorem ok_laws_FnShelves : FnOk Try.prog 3 308 c_laws_FnShelves r_laws_FnShelves := ⟨⟨Try.f3, _, Try.func3, by kernel_rfl, rfl, rfl, by kernel_rfl, by kernel_rfl⟩⟩
end Go.Proofs.Ytdgfbmilbhckiaa.Ab
end
section
namespace Go.Proofs.Ytdgfbmilbhckiaa.Ab
open Go Go.RowKit
set_option linter.unusedVariables false
set_option linter.unusedSimpArgs false
set_option maxRecDepth 100000
set_option maxHeartbeats 16000000 in
theorem law_FnShelves (l : List Int) (hb : ∀ x ∈ l, 0 ≤ x ∧ x ≤ 255) :
    AC Try.prog 3 [.slice (some ⟨0, 0, none⟩) l.length 0] [⟨.ro, 5, l.map (Value.int .u8)⟩] fun r _ => r = .bool true := by
  refine ac_of_run mixed ok_laws_FnShelves (by simp) (go_start _ _ _ ?_)
  simp (config := {implicitDefEqProofs := false, maxDischargeDepth := 20}) (disch := first | omega | (simp only [lenE]; done) | (simp only [lenE]; omega) | rfl | (simp only [lenE, markR_len]; done) | (simp only [lenE, markR_len]; omega)) only [runE, mapE, listE, initT_5, initT_6, initT_7, initT_8, resV, oneV, binA, unA, reduceCtorEq, Nat.reduceEqDiff, Nat.reduceAdd, Nat.reduceLT, Nat.reduceLeDiff, Nat.reduceMul, Nat.reduceSub, ↓reduceIte, decide_true, decide_false, Bool.true_eq_false, Bool.false_eq_true, Bool.not_true, Bool.not_false, if_true, if_false, and_true, true_and, memE, celE, w64, Nat.zero_add, Nat.add_zero, Nat.mul_one, putL, and_self, ldn, c_laws_FnShelves, r_laws_FnShelves]
  refine callH_rc (vBig_rc _ 0 0 l.length) ?_
  rintro r new ⟨rfl, rfl⟩
  by_cases hbig : 65536 < l.length
  · simp (config := {implicitDefEqProofs := false, maxDischargeDepth := 20}) (disch := first | omega | (simp only [lenE]; done) | (simp only [lenE]; omega) | rfl | (simp only [lenE, markR_len]; done) | (simp only [lenE, markR_len]; omega)) only [runE, mapE, listE, initT_5, initT_6, initT_7, initT_8, resV, oneV, binA, unA, reduceCtorEq, Nat.reduceEqDiff, Nat.reduceAdd, Nat.reduceLT, Nat.reduceLeDiff, Nat.reduceMul, Nat.reduceSub, ↓reduceIte, decide_true, decide_false, Bool.true_eq_false, Bool.false_eq_true, Bool.not_true, Bool.not_false, if_true, if_false, and_true, true_and, memE, celE, w64, Nat.zero_add, Nat.add_zero, Nat.mul_one, putL, and_self, ldn, decide_eq_true hbig]
  have B : BytesA [⟨.ro, 5, l.map (Value.int .u8)⟩] 0 l := ⟨⟨.ro, by simp, rfl⟩, hb, by omega⟩
  obtain ⟨M, hM0⟩ : ∃ M : Mem, M = [⟨.ro, 5, l.map (Value.int .u8)⟩] := ⟨_, rfl⟩
  rw [← hM0] at B
  rw [List.append_nil, ← hM0]
  clear hM0
  simp (config := {implicitDefEqProofs := false, maxDischargeDepth := 20}) (disch := first | omega | (simp only [lenE]; done) | (simp only [lenE]; omega) | rfl | (simp only [lenE, markR_len]; done) | (simp only [lenE, markR_len]; omega)) only [runE, mapE, listE, initT_5, initT_6, initT_7, initT_8, resV, oneV, binA, unA, reduceCtorEq, Nat.reduceEqDiff, Nat.reduceAdd, Nat.reduceLT, Nat.reduceLeDiff, Nat.reduceMul, Nat.reduceSub, ↓reduceIte, decide_true, decide_false, Bool.true_eq_false, Bool.false_eq_true, Bool.not_true, Bool.not_false, if_true, if_false, and_true, true_and, memE, celE, w64, Nat.zero_add, Nat.add_zero, Nat.mul_one, putL, and_self, ldn, decide_eq_false hbig]
  refine callH_rc (DrawShelfCost_rc _ 0 0 l B) ?_
  rintro r new ⟨nr, v, tv, s, T, rfl, hs, hT, hn1, hn2⟩
  obtain ⟨u, w, rfl, ia, iw⟩ := hs
  clear B
  obtain ⟨N1, hN⟩ : ∃ N, N = M ++ new := ⟨_, rfl⟩
  rw [← hN] at ia iw hT ⊢
  clear hN nr
  have oc : onesB [.int .i64 s.life, u, w, .int .i64 s.waste, .int .i64 s.lost] = true := by
    have q1 : u.oneCell' = true := by have := ia.one []; simpa [onesB] using this
    have q2 : w.oneCell' = true := by have := iw.one []; simpa [onesB] using this
    simp [onesB, q1, q2]
    exact ⟨rfl, rfl, rfl⟩
  try simp (config := {implicitDefEqProofs := false, maxDischargeDepth := 20}) (disch := first | omega | (simp only [lenE]; done) | (simp only [lenE]; omega) | rfl | (simp only [lenE, markR_len]; done) | (simp only [lenE, markR_len]; omega)) only [runE, mapE, listE, initT_5, initT_6, initT_7, initT_8, resV, oneV, binA, unA, reduceCtorEq, Nat.reduceEqDiff, Nat.reduceAdd, Nat.reduceLT, Nat.reduceLeDiff, Nat.reduceMul, Nat.reduceSub, ↓reduceIte, decide_true, decide_false, Bool.true_eq_false, Bool.false_eq_true, Bool.not_true, Bool.not_false, if_true, if_false, and_true, true_and, memE, celE, w64, Nat.zero_add, Nat.add_zero, Nat.mul_one, putL, and_self, ldn, Bool.and_self, Bool.and_true, Bool.true_and, Bool.and_false, Bool.false_and, Bool.or_false, Bool.false_or, ext_2_0, ext_2_1, bne_self_eq_false, beq_self_eq_true, goG_undef, Bool.not_true, Bool.not_false, stP5s, oc]
  have ia := ia.ext [⟨.own, 26, [.int .i64 s.life, u, w, .int .i64 s.waste, .int .i64 s.lost]⟩]
  have iw := iw.ext [⟨.own, 26, [.int .i64 s.life, u, w, .int .i64 s.waste, .int .i64 s.lost]⟩]
  have hT := hT.ext [⟨.own, 26, [.int .i64 s.life, u, w, .int .i64 s.waste, .int .i64 s.lost]⟩]
  have b3 : OwnB (N1 ++ [⟨.own, 26, [.int .i64 s.life, u, w, .int .i64 s.waste, .int .i64 s.lost]⟩]) N1.length 26 [.int .i64 s.life, u, w, .int .i64 s.waste, .int .i64 s.lost] := OwnB.here rfl
  obtain ⟨N2, hN⟩ : ∃ N, N = N1 ++ [⟨.own, 26, [.int .i64 s.life, u, w, .int .i64 s.waste, .int .i64 s.lost]⟩] := ⟨_, rfl⟩
  rw [← hN] at ia iw hT b3 ⊢
  clear hN
  try simp (config := {implicitDefEqProofs := false, maxDischargeDepth := 20}) (disch := first | omega | (simp only [lenE]; done) | (simp only [lenE]; omega) | rfl | (simp only [lenE, markR_len]; done) | (simp only [lenE, markR_len]; omega)) only [runE, mapE, listE, initT_5, initT_6, initT_7, initT_8, resV, oneV, binA, unA, reduceCtorEq, Nat.reduceEqDiff, Nat.reduceAdd, Nat.reduceLT, Nat.reduceLeDiff, Nat.reduceMul, Nat.reduceSub, ↓reduceIte, decide_true, decide_false, Bool.true_eq_false, Bool.false_eq_true, Bool.not_true, Bool.not_false, if_true, if_false, and_true, true_and, memE, celE, w64, Nat.zero_add, Nat.add_zero, Nat.mul_one, putL, and_self, ldn, Bool.and_self, Bool.and_true, Bool.true_and, Bool.and_false, Bool.false_and, Bool.or_false, Bool.false_or, ext_2_0, ext_2_1, bne_self_eq_false, beq_self_eq_true, goG_undef, Bool.not_true, Bool.not_false, stP5s, b3.rd, b3.ld5']
  refine callH_rc (implIsIssue_rc _ _ tv s T (ShA.mk ia iw) hT) ?_
  rintro r new ⟨rfl, nr⟩
  have ia := ia.ext new
  have iw := iw.ext new
  have hT := hT.ext new
  have b3 := b3.ext new
  obtain ⟨N3, hN⟩ : ∃ N, N = N2 ++ new := ⟨_, rfl⟩
  rw [← hN] at ia iw hT b3 ⊢
  clear hN
  clear nr
  try simp (config := {implicitDefEqProofs := false, maxDischargeDepth := 20}) (disch := first | omega | (simp only [lenE]; done) | (simp only [lenE]; omega) | rfl | (simp only [lenE, markR_len]; done) | (simp only [lenE, markR_len]; omega)) only [runE, mapE, listE, initT_5, initT_6, initT_7, initT_8, resV, oneV, binA, unA, reduceCtorEq, Nat.reduceEqDiff, Nat.reduceAdd, Nat.reduceLT, Nat.reduceLeDiff, Nat.reduceMul, Nat.reduceSub, ↓reduceIte, decide_true, decide_false, Bool.true_eq_false, Bool.false_eq_true, Bool.not_true, Bool.not_false, if_true, if_false, and_true, true_and, memE, celE, w64, Nat.zero_add, Nat.add_zero, Nat.mul_one, putL, and_self, ldn, Bool.and_self, Bool.and_true, Bool.true_and, Bool.and_false, Bool.false_and, Bool.or_false, Bool.false_or, ext_2_0, ext_2_1, bne_self_eq_false, beq_self_eq_true, goG_undef, Bool.not_true, Bool.not_false, stP5s, b3.rd, b3.ld5']
  refine callH_rc (specIsIssue_rc _ _ tv s T (ShA.mk ia iw) hT) ?_
  rintro r new ⟨rfl, nr⟩
  have ia := ia.ext new
  have iw := iw.ext new
  have hT := hT.ext new
  have b3 := b3.ext new
  obtain ⟨N4, hN⟩ : ∃ N, N = N3 ++ new := ⟨_, rfl⟩
  rw [← hN] at ia iw hT b3 ⊢
  clear hN
  clear nr
  try simp (config := {implicitDefEqProofs := false, maxDischargeDepth := 20}) (disch := first | omega | (simp only [lenE]; done) | (simp only [lenE]; omega) | rfl | (simp only [lenE, markR_len]; done) | (simp only [lenE, markR_len]; omega)) only [runE, mapE, listE, initT_5, initT_6, initT_7, initT_8, resV, oneV, binA, unA, reduceCtorEq, Nat.reduceEqDiff, Nat.reduceAdd, Nat.reduceLT, Nat.reduceLeDiff, Nat.reduceMul, Nat.reduceSub, ↓reduceIte, decide_true, decide_false, Bool.true_eq_false, Bool.false_eq_true, Bool.not_true, Bool.not_false, if_true, if_false, and_true, true_and, memE, celE, w64, Nat.zero_add, Nat.add_zero, Nat.mul_one, putL, and_self, ldn, Bool.and_self, Bool.and_true, Bool.true_and, Bool.and_false, Bool.false_and, Bool.or_false, Bool.false_or, ext_2_0, ext_2_1, bne_self_eq_false, beq_self_eq_true, goG_undef, Bool.not_true, Bool.not_false, stP5s, b3.rd, b3.ld5']
  refine callH_rc (implShelfCost_rc _ _ tv s T (ShA.mk ia iw) hT) ?_
  rintro r new ⟨rfl, nr⟩
  have ia := ia.ext new
  have iw := iw.ext new
  have hT := hT.ext new
  have b3 := b3.ext new
  obtain ⟨N5, hN⟩ : ∃ N, N = N4 ++ new := ⟨_, rfl⟩
  rw [← hN] at ia iw hT b3 ⊢
  clear hN
  clear nr
  try simp (config := {implicitDefEqProofs := false, maxDischargeDepth := 20}) (disch := first | omega | (simp only [lenE]; done) | (simp only [lenE]; omega) | rfl | (simp only [lenE, markR_len]; done) | (simp only [lenE, markR_len]; omega)) only [runE, mapE, listE, initT_5, initT_6, initT_7, initT_8, resV, oneV, binA, unA, reduceCtorEq, Nat.reduceEqDiff, Nat.reduceAdd, Nat.reduceLT, Nat.reduceLeDiff, Nat.reduceMul, Nat.reduceSub, ↓reduceIte, decide_true, decide_false, Bool.true_eq_false, Bool.false_eq_true, Bool.not_true, Bool.not_false, if_true, if_false, and_true, true_and, memE, celE, w64, Nat.zero_add, Nat.add_zero, Nat.mul_one, putL, and_self, ldn, Bool.and_self, Bool.and_true, Bool.true_and, Bool.and_false, Bool.false_and, Bool.or_false, Bool.false_or, ext_2_0, ext_2_1, bne_self_eq_false, beq_self_eq_true, goG_undef, Bool.not_true, Bool.not_false, stP5s, b3.rd, b3.ld5']
  refine callH_rc (specShelfCost_rc _ _ tv s T (ShA.mk ia iw) hT) ?_
  rintro r new ⟨rfl, nr⟩
  have ia := ia.ext new
  have iw := iw.ext new
  have hT := hT.ext new
  have b3 := b3.ext new
  obtain ⟨N6, hN⟩ : ∃ N, N = N5 ++ new := ⟨_, rfl⟩
  rw [← hN] at ia iw hT b3 ⊢
  clear hN
  clear nr
  try simp (config := {implicitDefEqProofs := false, maxDischargeDepth := 20}) (disch := first | omega | (simp only [lenE]; done) | (simp only [lenE]; omega) | rfl | (simp only [lenE, markR_len]; done) | (simp only [lenE, markR_len]; omega)) only [runE, mapE, listE, initT_5, initT_6, initT_7, initT_8, resV, oneV, binA, unA, reduceCtorEq, Nat.reduceEqDiff, Nat.reduceAdd, Nat.reduceLT, Nat.reduceLeDiff, Nat.reduceMul, Nat.reduceSub, ↓reduceIte, decide_true, decide_false, Bool.true_eq_false, Bool.false_eq_true, Bool.not_true, Bool.not_false, if_true, if_false, and_true, true_and, memE, celE, w64, Nat.zero_add, Nat.add_zero, Nat.mul_one, putL, and_self, ldn, Bool.and_self, Bool.and_true, Bool.true_and, Bool.and_false, Bool.false_and, Bool.or_false, Bool.false_or, ext_2_0, ext_2_1, bne_self_eq_false, beq_self_eq_true, goG_undef, Bool.not_true, Bool.not_false, stP5s, b3.rd, b3.ld5']
  refine callH_rc (implLostNeeds_rc _ _ tv s T (ShA.mk ia iw) hT) ?_
  intro r new hA
  obtain ⟨nr, vL1, rfl, hw⟩ := hA
  have ia := ia.ext new
  have iw := iw.ext new
  have hT := hT.ext new
  have b3 := b3.ext new
  have L1 := hw.now.in
  obtain ⟨N7, hN⟩ : ∃ N, N = N6 ++ new := ⟨_, rfl⟩
  rw [← hN] at ia iw hT b3 L1 ⊢
  clear hN
  clear nr hw
  try simp (config := {implicitDefEqProofs := false, maxDischargeDepth := 20}) (disch := first | omega | (simp only [lenE]; done) | (simp only [lenE]; omega) | rfl | (simp only [lenE, markR_len]; done) | (simp only [lenE, markR_len]; omega)) only [runE, mapE, listE, initT_5, initT_6, initT_7, initT_8, resV, oneV, binA, unA, reduceCtorEq, Nat.reduceEqDiff, Nat.reduceAdd, Nat.reduceLT, Nat.reduceLeDiff, Nat.reduceMul, Nat.reduceSub, ↓reduceIte, decide_true, decide_false, Bool.true_eq_false, Bool.false_eq_true, Bool.not_true, Bool.not_false, if_true, if_false, and_true, true_and, memE, celE, w64, Nat.zero_add, Nat.add_zero, Nat.mul_one, putL, and_self, ldn, Bool.and_self, Bool.and_true, Bool.true_and, Bool.and_false, Bool.false_and, Bool.or_false, Bool.false_or, ext_2_0, ext_2_1, bne_self_eq_false, beq_self_eq_true, goG_undef, Bool.not_true, Bool.not_false, stP5s, b3.rd, b3.ld5']
  refine callH_rc (specLostNeeds_rc _ _ tv s T (ShA.mk ia iw) hT) ?_
  intro r new hA
  obtain ⟨nr, vL2, rfl, hw⟩ := hA
  have ia := ia.ext new
  have iw := iw.ext new
  have hT := hT.ext new
  have b3 := b3.ext new
  have L1 := L1.ext new
  have L2 := hw.now.in
  obtain ⟨N8, hN⟩ : ∃ N, N = N7 ++ new := ⟨_, rfl⟩
  rw [← hN] at ia iw hT b3 L1 L2 ⊢
  clear hN
  clear nr hw
  try simp (config := {implicitDefEqProofs := false, maxDischargeDepth := 20}) (disch := first | omega | (simp only [lenE]; done) | (simp only [lenE]; omega) | rfl | (simp only [lenE, markR_len]; done) | (simp only [lenE, markR_len]; omega)) only [runE, mapE, listE, initT_5, initT_6, initT_7, initT_8, resV, oneV, binA, unA, reduceCtorEq, Nat.reduceEqDiff, Nat.reduceAdd, Nat.reduceLT, Nat.reduceLeDiff, Nat.reduceMul, Nat.reduceSub, ↓reduceIte, decide_true, decide_false, Bool.true_eq_false, Bool.false_eq_true, Bool.not_true, Bool.not_false, if_true, if_false, and_true, true_and, memE, celE, w64, Nat.zero_add, Nat.add_zero, Nat.mul_one, putL, and_self, ldn, Bool.and_self, Bool.and_true, Bool.true_and, Bool.and_false, Bool.false_and, Bool.or_false, Bool.false_or, ext_2_0, ext_2_1, bne_self_eq_false, beq_self_eq_true, goG_undef, Bool.not_true, Bool.not_false, stP5s, b3.rd, b3.ld5']
  refine callH_rc (implWasted_rc _ _ tv s T (ShA.mk ia iw) hT) ?_
  intro r new hA
  obtain ⟨nr, vW1, rfl, hw⟩ := hA
  have ia := ia.ext new
  have iw := iw.ext new
  have hT := hT.ext new
  have b3 := b3.ext new
  have L1 := L1.ext new
  have L2 := L2.ext new
  have W1 := hw.now.in
  obtain ⟨N9, hN⟩ : ∃ N, N = N8 ++ new := ⟨_, rfl⟩
  rw [← hN] at ia iw hT b3 L1 L2 W1 ⊢
  clear hN
  clear nr hw
  try simp (config := {implicitDefEqProofs := false, maxDischargeDepth := 20}) (disch := first | omega | (simp only [lenE]; done) | (simp only [lenE]; omega) | rfl | (simp only [lenE, markR_len]; done) | (simp only [lenE, markR_len]; omega)) only [runE, mapE, listE, initT_5, initT_6, initT_7, initT_8, resV, oneV, binA, unA, reduceCtorEq, Nat.reduceEqDiff, Nat.reduceAdd, Nat.reduceLT, Nat.reduceLeDiff, Nat.reduceMul, Nat.reduceSub, ↓reduceIte, decide_true, decide_false, Bool.true_eq_false, Bool.false_eq_true, Bool.not_true, Bool.not_false, if_true, if_false, and_true, true_and, memE, celE, w64, Nat.zero_add, Nat.add_zero, Nat.mul_one, putL, and_self, ldn, Bool.and_self, Bool.and_true, Bool.true_and, Bool.and_false, Bool.false_and, Bool.or_false, Bool.false_or, ext_2_0, ext_2_1, bne_self_eq_false, beq_self_eq_true, goG_undef, Bool.not_true, Bool.not_false, stP5s, b3.rd, b3.ld5']
  refine callH_rc (specWasted_rc _ _ tv s T (ShA.mk ia iw) hT) ?_
  intro r new hA
  obtain ⟨nr, vW2, rfl, hw⟩ := hA
  have ia := ia.ext new
  have iw := iw.ext new
  have hT := hT.ext new
  have b3 := b3.ext new
  have L1 := L1.ext new
  have L2 := L2.ext new
  have W1 := W1.ext new
  have W2 := hw.now.in
  obtain ⟨N10, hN⟩ : ∃ N, N = N9 ++ new := ⟨_, rfl⟩
  rw [← hN] at ia iw hT b3 L1 L2 W1 W2 ⊢
  clear hN
  clear nr hw
  try simp (config := {implicitDefEqProofs := false, maxDischargeDepth := 20}) (disch := first | omega | (simp only [lenE]; done) | (simp only [lenE]; omega) | rfl | (simp only [lenE, markR_len]; done) | (simp only [lenE, markR_len]; omega)) only [runE, mapE, listE, initT_5, initT_6, initT_7, initT_8, resV, oneV, binA, unA, reduceCtorEq, Nat.reduceEqDiff, Nat.reduceAdd, Nat.reduceLT, Nat.reduceLeDiff, Nat.reduceMul, Nat.reduceSub, ↓reduceIte, decide_true, decide_false, Bool.true_eq_false, Bool.false_eq_true, Bool.not_true, Bool.not_false, if_true, if_false, and_true, true_and, memE, celE, w64, Nat.zero_add, Nat.add_zero, Nat.mul_one, putL, and_self, ldn, Bool.and_self, Bool.and_true, Bool.true_and, Bool.and_false, Bool.false_and, Bool.or_false, Bool.false_or, ext_2_0, ext_2_1, bne_self_eq_false, beq_self_eq_true, goG_undef, Bool.not_true, Bool.not_false, stP5s, b3.rd, b3.ld5']
  refine callH_rc (implOldest_rc _ _ s (ShA.mk ia iw)) ?_
  intro r new hA
  obtain ⟨nr, vO1, rfl, hw⟩ := hA
  have ia := ia.ext new
  have iw := iw.ext new
  have hT := hT.ext new
  have b3 := b3.ext new
  have L1 := L1.ext new
  have L2 := L2.ext new
  have W1 := W1.ext new
  have W2 := W2.ext new
  have O1 := hw.now.in
  obtain ⟨N11, hN⟩ : ∃ N, N = N10 ++ new := ⟨_, rfl⟩
  rw [← hN] at ia iw hT b3 L1 L2 W1 W2 O1 ⊢
  clear hN
  clear nr hw
  try simp (config := {implicitDefEqProofs := false, maxDischargeDepth := 20}) (disch := first | omega | (simp only [lenE]; done) | (simp only [lenE]; omega) | rfl | (simp only [lenE, markR_len]; done) | (simp only [lenE, markR_len]; omega)) only [runE, mapE, listE, initT_5, initT_6, initT_7, initT_8, resV, oneV, binA, unA, reduceCtorEq, Nat.reduceEqDiff, Nat.reduceAdd, Nat.reduceLT, Nat.reduceLeDiff, Nat.reduceMul, Nat.reduceSub, ↓reduceIte, decide_true, decide_false, Bool.true_eq_false, Bool.false_eq_true, Bool.not_true, Bool.not_false, if_true, if_false, and_true, true_and, memE, celE, w64, Nat.zero_add, Nat.add_zero, Nat.mul_one, putL, and_self, ldn, Bool.and_self, Bool.and_true, Bool.true_and, Bool.and_false, Bool.false_and, Bool.or_false, Bool.false_or, ext_2_0, ext_2_1, bne_self_eq_false, beq_self_eq_true, goG_undef, Bool.not_true, Bool.not_false, stP5s, b3.rd, b3.ld5']
  refine callH_rc (specOldest_rc _ _ s (ShA.mk ia iw)) ?_
  intro r new hA
  obtain ⟨nr, vO2, rfl, hw⟩ := hA
  have ia := ia.ext new
  have iw := iw.ext new
  have hT := hT.ext new
  have b3 := b3.ext new
  have L1 := L1.ext new
  have L2 := L2.ext new
  have W1 := W1.ext new
  have W2 := W2.ext new
  have O1 := O1.ext new
  have O2 := hw.now.in
  obtain ⟨N12, hN⟩ : ∃ N, N = N11 ++ new := ⟨_, rfl⟩
  rw [← hN] at ia iw hT b3 L1 L2 W1 W2 O1 O2 ⊢
  clear hN
  clear nr hw
  try simp (config := {implicitDefEqProofs := false, maxDischargeDepth := 20}) (disch := first | omega | (simp only [lenE]; done) | (simp only [lenE]; omega) | rfl | (simp only [lenE, markR_len]; done) | (simp only [lenE, markR_len]; omega)) only [runE, mapE, listE, initT_5, initT_6, initT_7, initT_8, resV, oneV, binA, unA, reduceCtorEq, Nat.reduceEqDiff, Nat.reduceAdd, Nat.reduceLT, Nat.reduceLeDiff, Nat.reduceMul, Nat.reduceSub, ↓reduceIte, decide_true, decide_false, Bool.true_eq_false, Bool.false_eq_true, Bool.not_true, Bool.not_false, if_true, if_false, and_true, true_and, memE, celE, w64, Nat.zero_add, Nat.add_zero, Nat.mul_one, putL, and_self, ldn, Bool.and_self, Bool.and_true, Bool.true_and, Bool.and_false, Bool.false_and, Bool.or_false, Bool.false_or, ext_2_0, ext_2_1, bne_self_eq_false, beq_self_eq_true, goG_undef, Bool.not_true, Bool.not_false, stP5s, b3.rd, b3.ld5']
  refine callH_rc (implNewest_rc _ _ s (ShA.mk ia iw)) ?_
  intro r new hA
  obtain ⟨nr, vP1, rfl, hw⟩ := hA
  have ia := ia.ext new
  have iw := iw.ext new
  have hT := hT.ext new
  have b3 := b3.ext new
  have L1 := L1.ext new
  have L2 := L2.ext new
  have W1 := W1.ext new
  have W2 := W2.ext new
  have O1 := O1.ext new
  have O2 := O2.ext new
  have P1 := hw.now.in
  obtain ⟨N13, hN⟩ : ∃ N, N = N12 ++ new := ⟨_, rfl⟩
  rw [← hN] at ia iw hT b3 L1 L2 W1 W2 O1 O2 P1 ⊢
  clear hN
  clear nr hw
  try simp (config := {implicitDefEqProofs := false, maxDischargeDepth := 20}) (disch := first | omega | (simp only [lenE]; done) | (simp only [lenE]; omega) | rfl | (simp only [lenE, markR_len]; done) | (simp only [lenE, markR_len]; omega)) only [runE, mapE, listE, initT_5, initT_6, initT_7, initT_8, resV, oneV, binA, unA, reduceCtorEq, Nat.reduceEqDiff, Nat.reduceAdd, Nat.reduceLT, Nat.reduceLeDiff, Nat.reduceMul, Nat.reduceSub, ↓reduceIte, decide_true, decide_false, Bool.true_eq_false, Bool.false_eq_true, Bool.not_true, Bool.not_false, if_true, if_false, and_true, true_and, memE, celE, w64, Nat.zero_add, Nat.add_zero, Nat.mul_one, putL, and_self, ldn, Bool.and_self, Bool.and_true, Bool.true_and, Bool.and_false, Bool.false_and, Bool.or_false, Bool.false_or, ext_2_0, ext_2_1, bne_self_eq_false, beq_self_eq_true, goG_undef, Bool.not_true, Bool.not_false, stP5s, b3.rd, b3.ld5']
  refine callH_rc (specNewest_rc _ _ s (ShA.mk ia iw)) ?_
  intro r new hA
  obtain ⟨nr, vP2, rfl, hw⟩ := hA
  have ia := ia.ext new
  have iw := iw.ext new
  have hT := hT.ext new
  have b3 := b3.ext new
  have L1 := L1.ext new
  have L2 := L2.ext new
  have W1 := W1.ext new
  have W2 := W2.ext new
  have O1 := O1.ext new
  have O2 := O2.ext new
  have P1 := P1.ext new
  have P2 := hw.now.in
  obtain ⟨N14, hN⟩ : ∃ N, N = N13 ++ new := ⟨_, rfl⟩
  rw [← hN] at ia iw hT b3 L1 L2 W1 W2 O1 O2 P1 P2 ⊢
  clear hN
  clear nr hw
  try simp (config := {implicitDefEqProofs := false, maxDischargeDepth := 20}) (disch := first | omega | (simp only [lenE]; done) | (simp only [lenE]; omega) | rfl | (simp only [lenE, markR_len]; done) | (simp only [lenE, markR_len]; omega)) only [runE, mapE, listE, initT_5, initT_6, initT_7, initT_8, resV, oneV, binA, unA, reduceCtorEq, Nat.reduceEqDiff, Nat.reduceAdd, Nat.reduceLT, Nat.reduceLeDiff, Nat.reduceMul, Nat.reduceSub, ↓reduceIte, decide_true, decide_false, Bool.true_eq_false, Bool.false_eq_true, Bool.not_true, Bool.not_false, if_true, if_false, and_true, true_and, memE, celE, w64, Nat.zero_add, Nat.add_zero, Nat.mul_one, putL, and_self, ldn, Bool.and_self, Bool.and_true, Bool.true_and, Bool.and_false, Bool.false_and, Bool.or_false, Bool.false_or, ext_2_0, ext_2_1, bne_self_eq_false, beq_self_eq_true, goG_undef, Bool.not_true, Bool.not_false, stP5s, b3.rd, b3.ld5']
  refine callH_rc (implProof9_rc _ _ s (ShA.mk ia iw)) ?_
  intro r new hA
  obtain ⟨nr, vQ1, rfl, hw⟩ := hA
  have ia := ia.ext new
  have iw := iw.ext new
  have hT := hT.ext new
  have b3 := b3.ext new
  have L1 := L1.ext new
  have L2 := L2.ext new
  have W1 := W1.ext new
  have W2 := W2.ext new
  have O1 := O1.ext new
  have O2 := O2.ext new
  have P1 := P1.ext new
  have P2 := P2.ext new
  have Q1 := hw.now.in
  obtain ⟨N15, hN⟩ : ∃ N, N = N14 ++ new := ⟨_, rfl⟩
  rw [← hN] at ia iw hT b3 L1 L2 W1 W2 O1 O2 P1 P2 Q1 ⊢
  clear hN
  clear nr hw
  try simp (config := {implicitDefEqProofs := false, maxDischargeDepth := 20}) (disch := first | omega | (simp only [lenE]; done) | (simp only [lenE]; omega) | rfl | (simp only [lenE, markR_len]; done) | (simp only [lenE, markR_len]; omega)) only [runE, mapE, listE, initT_5, initT_6, initT_7, initT_8, resV, oneV, binA, unA, reduceCtorEq, Nat.reduceEqDiff, Nat.reduceAdd, Nat.reduceLT, Nat.reduceLeDiff, Nat.reduceMul, Nat.reduceSub, ↓reduceIte, decide_true, decide_false, Bool.true_eq_false, Bool.false_eq_true, Bool.not_true, Bool.not_false, if_true, if_false, and_true, true_and, memE, celE, w64, Nat.zero_add, Nat.add_zero, Nat.mul_one, putL, and_self, ldn, Bool.and_self, Bool.and_true, Bool.true_and, Bool.and_false, Bool.false_and, Bool.or_false, Bool.false_or, ext_2_0, ext_2_1, bne_self_eq_false, beq_self_eq_true, goG_undef, Bool.not_true, Bool.not_false, stP5s, b3.rd, b3.ld5']
  refine callH_rc (specProof9_rc _ _ s (ShA.mk ia iw)) ?_
  intro r new hA
  obtain ⟨nr, vQ2, rfl, hw⟩ := hA
  have ia := ia.ext new
  have iw := iw.ext new
  have hT := hT.ext new
  have b3 := b3.ext new
  have L1 := L1.ext new
  have L2 := L2.ext new
  have W1 := W1.ext new
  have W2 := W2.ext new
  have O1 := O1.ext new
  have O2 := O2.ext new
  have P1 := P1.ext new
  have P2 := P2.ext new
  have Q1 := Q1.ext new
  have Q2 := hw.now.in
  obtain ⟨N16, hN⟩ : ∃ N, N = N15 ++ new := ⟨_, rfl⟩
  rw [← hN] at ia iw hT b3 L1 L2 W1 W2 O1 O2 P1 P2 Q1 Q2 ⊢
  clear hN
  clear nr hw
  try simp (config := {implicitDefEqProofs := false, maxDischargeDepth := 20}) (disch := first | omega | (simp only [lenE]; done) | (simp only [lenE]; omega) | rfl | (simp only [lenE, markR_len]; done) | (simp only [lenE, markR_len]; omega)) only [runE, mapE, listE, initT_5, initT_6, initT_7, initT_8, resV, oneV, binA, unA, reduceCtorEq, Nat.reduceEqDiff, Nat.reduceAdd, Nat.reduceLT, Nat.reduceLeDiff, Nat.reduceMul, Nat.reduceSub, ↓reduceIte, decide_true, decide_false, Bool.true_eq_false, Bool.false_eq_true, Bool.not_true, Bool.not_false, if_true, if_false, and_true, true_and, memE, celE, w64, Nat.zero_add, Nat.add_zero, Nat.mul_one, putL, and_self, ldn, Bool.and_self, Bool.and_true, Bool.true_and, Bool.and_false, Bool.false_and, Bool.or_false, Bool.false_or, ext_2_0, ext_2_1, bne_self_eq_false, beq_self_eq_true, goG_undef, Bool.not_true, Bool.not_false, stP5s, b3.rd, b3.ld5']
  refine rcallH_rc (vInts_rc _ _ _ _ L1 L2) ?_
  rintro r new ⟨rfl, rfl⟩
  rw [List.append_nil]
  try simp (config := {implicitDefEqProofs := false, maxDischargeDepth := 20}) (disch := first | omega | (simp only [lenE]; done) | (simp only [lenE]; omega) | rfl | (simp only [lenE, markR_len]; done) | (simp only [lenE, markR_len]; omega)) only [runE, mapE, listE, initT_5, initT_6, initT_7, initT_8, resV, oneV, binA, unA, reduceCtorEq, Nat.reduceEqDiff, Nat.reduceAdd, Nat.reduceLT, Nat.reduceLeDiff, Nat.reduceMul, Nat.reduceSub, ↓reduceIte, decide_true, decide_false, Bool.true_eq_false, Bool.false_eq_true, Bool.not_true, Bool.not_false, if_true, if_false, and_true, true_and, memE, celE, w64, Nat.zero_add, Nat.add_zero, Nat.mul_one, putL, and_self, ldn, Bool.and_self, Bool.and_true, Bool.true_and, Bool.and_false, Bool.false_and, Bool.or_false, Bool.false_or, ext_2_0, ext_2_1, bne_self_eq_false, beq_self_eq_true, goG_undef, Bool.not_true, Bool.not_false, stP5s, b3.rd, b3.ld5']
  refine rcallH_rc (vInts_rc _ _ _ _ W1 W2) ?_
  rintro r new ⟨rfl, rfl⟩
  rw [List.append_nil]
  try simp (config := {implicitDefEqProofs := false, maxDischargeDepth := 20}) (disch := first | omega | (simp only [lenE]; done) | (simp only [lenE]; omega) | rfl | (simp only [lenE, markR_len]; done) | (simp only [lenE, markR_len]; omega)) only [runE, mapE, listE, initT_5, initT_6, initT_7, initT_8, resV, oneV, binA, unA, reduceCtorEq, Nat.reduceEqDiff, Nat.reduceAdd, Nat.reduceLT, Nat.reduceLeDiff, Nat.reduceMul, Nat.reduceSub, ↓reduceIte, decide_true, decide_false, Bool.true_eq_false, Bool.false_eq_true, Bool.not_true, Bool.not_false, if_true, if_false, and_true, true_and, memE, celE, w64, Nat.zero_add, Nat.add_zero, Nat.mul_one, putL, and_self, ldn, Bool.and_self, Bool.and_true, Bool.true_and, Bool.and_false, Bool.false_and, Bool.or_false, Bool.false_or, ext_2_0, ext_2_1, bne_self_eq_false, beq_self_eq_true, goG_undef, Bool.not_true, Bool.not_false, stP5s, b3.rd, b3.ld5']
  refine rcallH_rc (vTable_rc _ _ _ _ O1 O2) ?_
  rintro r new ⟨rfl, rfl⟩
  rw [List.append_nil]
  try simp (config := {implicitDefEqProofs := false, maxDischargeDepth := 20}) (disch := first | omega | (simp only [lenE]; done) | (simp only [lenE]; omega) | rfl | (simp only [lenE, markR_len]; done) | (simp only [lenE, markR_len]; omega)) only [runE, mapE, listE, initT_5, initT_6, initT_7, initT_8, resV, oneV, binA, unA, reduceCtorEq, Nat.reduceEqDiff, Nat.reduceAdd, Nat.reduceLT, Nat.reduceLeDiff, Nat.reduceMul, Nat.reduceSub, ↓reduceIte, decide_true, decide_false, Bool.true_eq_false, Bool.false_eq_true, Bool.not_true, Bool.not_false, if_true, if_false, and_true, true_and, memE, celE, w64, Nat.zero_add, Nat.add_zero, Nat.mul_one, putL, and_self, ldn, Bool.and_self, Bool.and_true, Bool.true_and, Bool.and_false, Bool.false_and, Bool.or_false, Bool.false_or, ext_2_0, ext_2_1, bne_self_eq_false, beq_self_eq_true, goG_undef, Bool.not_true, Bool.not_false, stP5s, b3.rd, b3.ld5']
  refine rcallH_rc (vTable_rc _ _ _ _ P1 P2) ?_
  rintro r new ⟨rfl, rfl⟩
  rw [List.append_nil]
  try simp (config := {implicitDefEqProofs := false, maxDischargeDepth := 20}) (disch := first | omega | (simp only [lenE]; done) | (simp only [lenE]; omega) | rfl | (simp only [lenE, markR_len]; done) | (simp only [lenE, markR_len]; omega)) only [runE, mapE, listE, initT_5, initT_6, initT_7, initT_8, resV, oneV, binA, unA, reduceCtorEq, Nat.reduceEqDiff, Nat.reduceAdd, Nat.reduceLT, Nat.reduceLeDiff, Nat.reduceMul, Nat.reduceSub, ↓reduceIte, decide_true, decide_false, Bool.true_eq_false, Bool.false_eq_true, Bool.not_true, Bool.not_false, if_true, if_false, and_true, true_and, memE, celE, w64, Nat.zero_add, Nat.add_zero, Nat.mul_one, putL, and_self, ldn, Bool.and_self, Bool.and_true, Bool.true_and, Bool.and_false, Bool.false_and, Bool.or_false, Bool.false_or, ext_2_0, ext_2_1, bne_self_eq_false, beq_self_eq_true, goG_undef, Bool.not_true, Bool.not_false, stP5s, b3.rd, b3.ld5']
  refine rcallH_rc (vInts_rc _ _ _ _ Q1 Q2) ?_
  rintro r new ⟨rfl, rfl⟩
  rw [List.append_nil]
  try simp (config := {implicitDefEqProofs := false, maxDischargeDepth := 20}) (disch := first | omega | (simp only [lenE]; done) | (simp only [lenE]; omega) | rfl | (simp only [lenE, markR_len]; done) | (simp only [lenE, markR_len]; omega)) only [runE, mapE, listE, initT_5, initT_6, initT_7, initT_8, resV, oneV, binA, unA, reduceCtorEq, Nat.reduceEqDiff, Nat.reduceAdd, Nat.reduceLT, Nat.reduceLeDiff, Nat.reduceMul, Nat.reduceSub, ↓reduceIte, decide_true, decide_false, Bool.true_eq_false, Bool.false_eq_true, Bool.not_true, Bool.not_false, if_true, if_false, and_true, true_and, memE, celE, w64, Nat.zero_add, Nat.add_zero, Nat.mul_one, putL, and_self, ldn, Bool.and_self, Bool.and_true, Bool.true_and, Bool.and_false, Bool.false_and, Bool.or_false, Bool.false_or, ext_2_0, ext_2_1, bne_self_eq_false, beq_self_eq_true, goG_undef, Bool.not_true, Bool.not_false, stP5s, b3.rd, b3.ld5']
  clear L2 W2 O2 P2 Q2
  refine rcallH_rc (implIsShelf_rc _ _ s (ShA.mk ia iw)) ?_
  rintro r new ⟨rfl, nr⟩
  have ia := ia.ext new
  have iw := iw.ext new
  have hT := hT.ext new
  have b3 := b3.ext new
  have L1 := L1.ext new
  have W1 := W1.ext new
  have O1 := O1.ext new
  have P1 := P1.ext new
  have Q1 := Q1.ext new
  obtain ⟨N17, hN⟩ : ∃ N, N = N16 ++ new := ⟨_, rfl⟩
  rw [← hN] at ia iw hT b3 L1 W1 O1 P1 Q1 ⊢
  clear hN
  clear nr
  try simp (config := {implicitDefEqProofs := false, maxDischargeDepth := 20}) (disch := first | omega | (simp only [lenE]; done) | (simp only [lenE]; omega) | rfl | (simp only [lenE, markR_len]; done) | (simp only [lenE, markR_len]; omega)) only [runE, mapE, listE, initT_5, initT_6, initT_7, initT_8, resV, oneV, binA, unA, reduceCtorEq, Nat.reduceEqDiff, Nat.reduceAdd, Nat.reduceLT, Nat.reduceLeDiff, Nat.reduceMul, Nat.reduceSub, ↓reduceIte, decide_true, decide_false, Bool.true_eq_false, Bool.false_eq_true, Bool.not_true, Bool.not_false, if_true, if_false, and_true, true_and, memE, celE, w64, Nat.zero_add, Nat.add_zero, Nat.mul_one, putL, and_self, ldn, Bool.and_self, Bool.and_true, Bool.true_and, Bool.and_false, Bool.false_and, Bool.or_false, Bool.false_or, ext_2_0, ext_2_1, bne_self_eq_false, beq_self_eq_true, goG_undef, Bool.not_true, Bool.not_false, stP5s, b3.rd, b3.ld5']
  refine rcallH_rc (specIsShelf_rc _ _ s (ShA.mk ia iw)) ?_
  rintro r new ⟨rfl, nr⟩
  have ia := ia.ext new
  have iw := iw.ext new
  have hT := hT.ext new
  have b3 := b3.ext new
  have L1 := L1.ext new
  have W1 := W1.ext new
  have O1 := O1.ext new
  have P1 := P1.ext new
  have Q1 := Q1.ext new
  obtain ⟨N18, hN⟩ : ∃ N, N = N17 ++ new := ⟨_, rfl⟩
  rw [← hN] at ia iw hT b3 L1 W1 O1 P1 Q1 ⊢
  clear hN
  clear nr
  cases hg : s.good with
  | false =>
    try simp (config := {implicitDefEqProofs := false, maxDischargeDepth := 20}) (disch := first | omega | (simp only [lenE]; done) | (simp only [lenE]; omega) | rfl | (simp only [lenE, markR_len]; done) | (simp only [lenE, markR_len]; omega)) only [runE, mapE, listE, initT_5, initT_6, initT_7, initT_8, resV, oneV, binA, unA, reduceCtorEq, Nat.reduceEqDiff, Nat.reduceAdd, Nat.reduceLT, Nat.reduceLeDiff, Nat.reduceMul, Nat.reduceSub, ↓reduceIte, decide_true, decide_false, Bool.true_eq_false, Bool.false_eq_true, Bool.not_true, Bool.not_false, if_true, if_false, and_true, true_and, memE, celE, w64, Nat.zero_add, Nat.add_zero, Nat.mul_one, putL, and_self, ldn, Bool.and_self, Bool.and_true, Bool.true_and, Bool.and_false, Bool.false_and, Bool.or_false, Bool.false_or, ext_2_0, ext_2_1, bne_self_eq_false, beq_self_eq_true, goG_undef, Bool.not_true, Bool.not_false, stP5s, b3.rd, b3.ld5', hg]
  | true =>
    have f := shFacts hg
    have o2 := f.o2
    have w2 := f.w2
    have ok := f.ok
    have eq := f.eq
    have le := f.le
    try simp (config := {implicitDefEqProofs := false, maxDischargeDepth := 20}) (disch := first | omega | (simp only [lenE]; done) | (simp only [lenE]; omega) | rfl | (simp only [lenE, markR_len]; done) | (simp only [lenE, markR_len]; omega)) only [runE, mapE, listE, initT_5, initT_6, initT_7, initT_8, resV, oneV, binA, unA, reduceCtorEq, Nat.reduceEqDiff, Nat.reduceAdd, Nat.reduceLT, Nat.reduceLeDiff, Nat.reduceMul, Nat.reduceSub, ↓reduceIte, decide_true, decide_false, Bool.true_eq_false, Bool.false_eq_true, Bool.not_true, Bool.not_false, if_true, if_false, and_true, true_and, memE, celE, w64, Nat.zero_add, Nat.add_zero, Nat.mul_one, putL, and_self, ldn, Bool.and_self, Bool.and_true, Bool.true_and, Bool.and_false, Bool.false_and, Bool.or_false, Bool.false_or, ext_2_0, ext_2_1, bne_self_eq_false, beq_self_eq_true, goG_undef, Bool.not_true, Bool.not_false, stP5s, b3.rd, b3.ld5', hg]
    refine callH_rc (implIsIssue_rc _ _ _ s _ (ShA.mk ia iw) O1) ?_
    rintro r new ⟨rfl, nr⟩
    have ia := ia.ext new
    have iw := iw.ext new
    have hT := hT.ext new
    have b3 := b3.ext new
    have L1 := L1.ext new
    have W1 := W1.ext new
    have O1 := O1.ext new
    have P1 := P1.ext new
    have Q1 := Q1.ext new
    obtain ⟨N19, hN⟩ : ∃ N, N = N18 ++ new := ⟨_, rfl⟩
    rw [← hN] at ia iw hT b3 L1 W1 O1 P1 Q1 ⊢
    clear hN
    clear nr
    try simp (config := {implicitDefEqProofs := false, maxDischargeDepth := 20}) (disch := first | omega | (simp only [lenE]; done) | (simp only [lenE]; omega) | rfl | (simp only [lenE, markR_len]; done) | (simp only [lenE, markR_len]; omega)) only [runE, mapE, listE, initT_5, initT_6, initT_7, initT_8, resV, oneV, binA, unA, reduceCtorEq, Nat.reduceEqDiff, Nat.reduceAdd, Nat.reduceLT, Nat.reduceLeDiff, Nat.reduceMul, Nat.reduceSub, ↓reduceIte, decide_true, decide_false, Bool.true_eq_false, Bool.false_eq_true, Bool.not_true, Bool.not_false, if_true, if_false, and_true, true_and, memE, celE, w64, Nat.zero_add, Nat.add_zero, Nat.mul_one, putL, and_self, ldn, Bool.and_self, Bool.and_true, Bool.true_and, Bool.and_false, Bool.false_and, Bool.or_false, Bool.false_or, ext_2_0, ext_2_1, bne_self_eq_false, beq_self_eq_true, goG_undef, Bool.not_true, Bool.not_false, stP5s, b3.rd, b3.ld5', o2, w2, ok, hg]
    refine callH_rc (implIsIssue_rc _ _ _ s _ (ShA.mk ia iw) P1) ?_
    rintro r new ⟨rfl, nr⟩
    have ia := ia.ext new
    have iw := iw.ext new
    have hT := hT.ext new
    have b3 := b3.ext new
    have L1 := L1.ext new
    have W1 := W1.ext new
    have O1 := O1.ext new
    have P1 := P1.ext new
    have Q1 := Q1.ext new
    obtain ⟨N20, hN⟩ : ∃ N, N = N19 ++ new := ⟨_, rfl⟩
    rw [← hN] at ia iw hT b3 L1 W1 O1 P1 Q1 ⊢
    clear hN
    clear nr
    try simp (config := {implicitDefEqProofs := false, maxDischargeDepth := 20}) (disch := first | omega | (simp only [lenE]; done) | (simp only [lenE]; omega) | rfl | (simp only [lenE, markR_len]; done) | (simp only [lenE, markR_len]; omega)) only [runE, mapE, listE, initT_5, initT_6, initT_7, initT_8, resV, oneV, binA, unA, reduceCtorEq, Nat.reduceEqDiff, Nat.reduceAdd, Nat.reduceLT, Nat.reduceLeDiff, Nat.reduceMul, Nat.reduceSub, ↓reduceIte, decide_true, decide_false, Bool.true_eq_false, Bool.false_eq_true, Bool.not_true, Bool.not_false, if_true, if_false, and_true, true_and, memE, celE, w64, Nat.zero_add, Nat.add_zero, Nat.mul_one, putL, and_self, ldn, Bool.and_self, Bool.and_true, Bool.true_and, Bool.and_false, Bool.false_and, Bool.or_false, Bool.false_or, ext_2_0, ext_2_1, bne_self_eq_false, beq_self_eq_true, goG_undef, Bool.not_true, Bool.not_false, stP5s, b3.rd, b3.ld5', o2, w2, ok, hg]
    refine callH_rc (implLostBound_rc _ _ _ s _ (ShA.mk ia iw) Q1) ?_
    rintro r new ⟨rfl, nr⟩
    have ia := ia.ext new
    have iw := iw.ext new
    have hT := hT.ext new
    have b3 := b3.ext new
    have L1 := L1.ext new
    have W1 := W1.ext new
    have O1 := O1.ext new
    have P1 := P1.ext new
    have Q1 := Q1.ext new
    obtain ⟨N21, hN⟩ : ∃ N, N = N20 ++ new := ⟨_, rfl⟩
    rw [← hN] at ia iw hT b3 L1 W1 O1 P1 Q1 ⊢
    clear hN
    clear nr
    try simp (config := {implicitDefEqProofs := false, maxDischargeDepth := 20}) (disch := first | omega | (simp only [lenE]; done) | (simp only [lenE]; omega) | rfl | (simp only [lenE, markR_len]; done) | (simp only [lenE, markR_len]; omega)) only [runE, mapE, listE, initT_5, initT_6, initT_7, initT_8, resV, oneV, binA, unA, reduceCtorEq, Nat.reduceEqDiff, Nat.reduceAdd, Nat.reduceLT, Nat.reduceLeDiff, Nat.reduceMul, Nat.reduceSub, ↓reduceIte, decide_true, decide_false, Bool.true_eq_false, Bool.false_eq_true, Bool.not_true, Bool.not_false, if_true, if_false, and_true, true_and, memE, celE, w64, Nat.zero_add, Nat.add_zero, Nat.mul_one, putL, and_self, ldn, Bool.and_self, Bool.and_true, Bool.true_and, Bool.and_false, Bool.false_and, Bool.or_false, Bool.false_or, ext_2_0, ext_2_1, bne_self_eq_false, beq_self_eq_true, goG_undef, Bool.not_true, Bool.not_false, stP5s, b3.rd, b3.ld5', o2, w2, ok, hg]
    refine callH_rc (implLostNeeds_rc _ _ _ s _ (ShA.mk ia iw) O1) ?_
    intro r new hA
    obtain ⟨nr, vG1, rfl, hw⟩ := hA
    have ia := ia.ext new
    have iw := iw.ext new
    have hT := hT.ext new
    have b3 := b3.ext new
    have L1 := L1.ext new
    have W1 := W1.ext new
    have O1 := O1.ext new
    have P1 := P1.ext new
    have Q1 := Q1.ext new
    have G1 := hw.now.in
    obtain ⟨N22, hN⟩ : ∃ N, N = N21 ++ new := ⟨_, rfl⟩
    rw [← hN] at ia iw hT b3 L1 W1 O1 P1 Q1 G1 ⊢
    clear hN
    clear nr hw
    try simp (config := {implicitDefEqProofs := false, maxDischargeDepth := 20}) (disch := first | omega | (simp only [lenE]; done) | (simp only [lenE]; omega) | rfl | (simp only [lenE, markR_len]; done) | (simp only [lenE, markR_len]; omega)) only [runE, mapE, listE, initT_5, initT_6, initT_7, initT_8, resV, oneV, binA, unA, reduceCtorEq, Nat.reduceEqDiff, Nat.reduceAdd, Nat.reduceLT, Nat.reduceLeDiff, Nat.reduceMul, Nat.reduceSub, ↓reduceIte, decide_true, decide_false, Bool.true_eq_false, Bool.false_eq_true, Bool.not_true, Bool.not_false, if_true, if_false, and_true, true_and, memE, celE, w64, Nat.zero_add, Nat.add_zero, Nat.mul_one, putL, and_self, ldn, Bool.and_self, Bool.and_true, Bool.true_and, Bool.and_false, Bool.false_and, Bool.or_false, Bool.false_or, ext_2_0, ext_2_1, bne_self_eq_false, beq_self_eq_true, goG_undef, Bool.not_true, Bool.not_false, stP5s, b3.rd, b3.ld5', o2, w2, ok, hg]
    refine callH_rc (implShelfCost_rc _ _ _ s _ (ShA.mk ia iw) O1) ?_
    rintro r new ⟨rfl, nr⟩
    have ia := ia.ext new
    have iw := iw.ext new
    have hT := hT.ext new
    have b3 := b3.ext new
    have L1 := L1.ext new
    have W1 := W1.ext new
    have O1 := O1.ext new
    have P1 := P1.ext new
    have Q1 := Q1.ext new
    have G1 := G1.ext new
    obtain ⟨N23, hN⟩ : ∃ N, N = N22 ++ new := ⟨_, rfl⟩
    rw [← hN] at ia iw hT b3 L1 W1 O1 P1 Q1 G1 ⊢
    clear hN
    clear nr
    try simp (config := {implicitDefEqProofs := false, maxDischargeDepth := 20}) (disch := first | omega | (simp only [lenE]; done) | (simp only [lenE]; omega) | rfl | (simp only [lenE, markR_len]; done) | (simp only [lenE, markR_len]; omega)) only [runE, mapE, listE, initT_5, initT_6, initT_7, initT_8, resV, oneV, binA, unA, reduceCtorEq, Nat.reduceEqDiff, Nat.reduceAdd, Nat.reduceLT, Nat.reduceLeDiff, Nat.reduceMul, Nat.reduceSub, ↓reduceIte, decide_true, decide_false, Bool.true_eq_false, Bool.false_eq_true, Bool.not_true, Bool.not_false, if_true, if_false, and_true, true_and, memE, celE, w64, Nat.zero_add, Nat.add_zero, Nat.mul_one, putL, and_self, ldn, Bool.and_self, Bool.and_true, Bool.true_and, Bool.and_false, Bool.false_and, Bool.or_false, Bool.false_or, ext_2_0, ext_2_1, bne_self_eq_false, beq_self_eq_true, goG_undef, Bool.not_true, Bool.not_false, stP5s, b3.rd, b3.ld5', o2, w2, ok, hg]
    refine callH_rc (vAdd9_rc _ _ _ G1 f.o.lb) ?_
    rintro r new ⟨rfl, rfl⟩
    rw [List.append_nil]
    try simp (config := {implicitDefEqProofs := false, maxDischargeDepth := 20}) (disch := first | omega | (simp only [lenE]; done) | (simp only [lenE]; omega) | rfl | (simp only [lenE, markR_len]; done) | (simp only [lenE, markR_len]; omega)) only [runE, mapE, listE, initT_5, initT_6, initT_7, initT_8, resV, oneV, binA, unA, reduceCtorEq, Nat.reduceEqDiff, Nat.reduceAdd, Nat.reduceLT, Nat.reduceLeDiff, Nat.reduceMul, Nat.reduceSub, ↓reduceIte, decide_true, decide_false, Bool.true_eq_false, Bool.false_eq_true, Bool.not_true, Bool.not_false, if_true, if_false, and_true, true_and, memE, celE, w64, Nat.zero_add, Nat.add_zero, Nat.mul_one, putL, and_self, ldn, Bool.and_self, Bool.and_true, Bool.true_and, Bool.and_false, Bool.false_and, Bool.or_false, Bool.false_or, ext_2_0, ext_2_1, bne_self_eq_false, beq_self_eq_true, goG_undef, Bool.not_true, Bool.not_false, stP5s, b3.rd, b3.ld5', o2, w2, ok, hg, eq]
    refine callH_rc (vShelf_rc _ _ _ P1 f.w.rb (by rw [f.w.l]; have := f.g.n8; omega)) ?_
    rintro r new ⟨rfl, rfl⟩
    rw [List.append_nil]
    try simp (config := {implicitDefEqProofs := false, maxDischargeDepth := 20}) (disch := first | omega | (simp only [lenE]; done) | (simp only [lenE]; omega) | rfl | (simp only [lenE, markR_len]; done) | (simp only [lenE, markR_len]; omega)) only [runE, mapE, listE, initT_5, initT_6, initT_7, initT_8, resV, oneV, binA, unA, reduceCtorEq, Nat.reduceEqDiff, Nat.reduceAdd, Nat.reduceLT, Nat.reduceLeDiff, Nat.reduceMul, Nat.reduceSub, ↓reduceIte, decide_true, decide_false, Bool.true_eq_false, Bool.false_eq_true, Bool.not_true, Bool.not_false, if_true, if_false, and_true, true_and, memE, celE, w64, Nat.zero_add, Nat.add_zero, Nat.mul_one, putL, and_self, ldn, Bool.and_self, Bool.and_true, Bool.true_and, Bool.and_false, Bool.false_and, Bool.or_false, Bool.false_or, ext_2_0, ext_2_1, bne_self_eq_false, beq_self_eq_true, goG_undef, Bool.not_true, Bool.not_false, stP5s, b3.rd, b3.ld5', o2, w2, ok, hg, eq]
    refine callH_rc (vShelf_rc _ _ _ O1 f.o.rb (by rw [f.o.l]; have := f.g.n8; omega)) ?_
    rintro r new ⟨rfl, rfl⟩
    rw [List.append_nil]
    have le2 : ¬ (rowsS (issA s false) (issA s false).length < rowsS (issA s true) (issA s true).length) := by omega
    cases h2 : two9 s T with
    | false =>
      try simp (config := {implicitDefEqProofs := false, maxDischargeDepth := 20}) (disch := first | omega | (simp only [lenE]; done) | (simp only [lenE]; omega) | rfl | (simp only [lenE, markR_len]; done) | (simp only [lenE, markR_len]; omega)) only [runE, mapE, listE, initT_5, initT_6, initT_7, initT_8, resV, oneV, binA, unA, reduceCtorEq, Nat.reduceEqDiff, Nat.reduceAdd, Nat.reduceLT, Nat.reduceLeDiff, Nat.reduceMul, Nat.reduceSub, ↓reduceIte, decide_true, decide_false, Bool.true_eq_false, Bool.false_eq_true, Bool.not_true, Bool.not_false, if_true, if_false, and_true, true_and, memE, celE, w64, Nat.zero_add, Nat.add_zero, Nat.mul_one, putL, and_self, ldn, Bool.and_self, Bool.and_true, Bool.true_and, Bool.and_false, Bool.false_and, Bool.or_false, Bool.false_or, ext_2_0, ext_2_1, bne_self_eq_false, beq_self_eq_true, goG_undef, Bool.not_true, Bool.not_false, stP5s, b3.rd, b3.ld5', o2, w2, ok, hg, eq, gt_iff_lt, le2, h2]
    | true =>
      have i := isuS h2
      have cl := cost_least h2
      have n8 := f.g.n8
      have la8 := f.g.la
      have sN := sum_small f.g.need n8
      have sA := sum_small f.g.arr (n := s.need.length) n8
      have bo := i.both
      have wa := i.wast
      have b8 := sN _ (Nat.le_refl _)
      have a8 := sA _ (Nat.le_refl _)
      rw [← la8] at a8
      have zb : IntKind.i64.wrap (sumTo (lostA s T) (lostA s T).length + rowsS T T.length) = sumTo (lostA s T) (lostA s T).length + rowsS T T.length := IntWalk.i64_in _ ⟨by omega, by omega⟩
      have zw : IntKind.i64.wrap (sumTo (wastA s T) (wastA s T).length + rowsS T T.length) = sumTo (wastA s T) (wastA s T).length + rowsS T T.length := IntWalk.i64_in _ ⟨by omega, by omega⟩
      try simp (config := {implicitDefEqProofs := false, maxDischargeDepth := 20}) (disch := first | omega | (simp only [lenE]; done) | (simp only [lenE]; omega) | rfl | (simp only [lenE, markR_len]; done) | (simp only [lenE, markR_len]; omega)) only [runE, mapE, listE, initT_5, initT_6, initT_7, initT_8, resV, oneV, binA, unA, reduceCtorEq, Nat.reduceEqDiff, Nat.reduceAdd, Nat.reduceLT, Nat.reduceLeDiff, Nat.reduceMul, Nat.reduceSub, ↓reduceIte, decide_true, decide_false, Bool.true_eq_false, Bool.false_eq_true, Bool.not_true, Bool.not_false, if_true, if_false, and_true, true_and, memE, celE, w64, Nat.zero_add, Nat.add_zero, Nat.mul_one, putL, and_self, ldn, Bool.and_self, Bool.and_true, Bool.true_and, Bool.and_false, Bool.false_and, Bool.or_false, Bool.false_or, ext_2_0, ext_2_1, bne_self_eq_false, beq_self_eq_true, goG_undef, Bool.not_true, Bool.not_false, stP5s, b3.rd, b3.ld5', o2, w2, ok, hg, eq, gt_iff_lt, ge_iff_le, le2, h2, cl]
      refine rcallH_rc (vAdd9_rc _ _ _ L1 i.lb) ?_
      rintro r new ⟨rfl, rfl⟩
      rw [List.append_nil]
      try simp (config := {implicitDefEqProofs := false, maxDischargeDepth := 20}) (disch := first | omega | (simp only [lenE]; done) | (simp only [lenE]; omega) | rfl | (simp only [lenE, markR_len]; done) | (simp only [lenE, markR_len]; omega)) only [runE, mapE, listE, initT_5, initT_6, initT_7, initT_8, resV, oneV, binA, unA, reduceCtorEq, Nat.reduceEqDiff, Nat.reduceAdd, Nat.reduceLT, Nat.reduceLeDiff, Nat.reduceMul, Nat.reduceSub, ↓reduceIte, decide_true, decide_false, Bool.true_eq_false, Bool.false_eq_true, Bool.not_true, Bool.not_false, if_true, if_false, and_true, true_and, memE, celE, w64, Nat.zero_add, Nat.add_zero, Nat.mul_one, putL, and_self, ldn, Bool.and_self, Bool.and_true, Bool.true_and, Bool.and_false, Bool.false_and, Bool.or_false, Bool.false_or, ext_2_0, ext_2_1, bne_self_eq_false, beq_self_eq_true, goG_undef, Bool.not_true, Bool.not_false, stP5s, b3.rd, b3.ld5']
      refine rcallH_rc (vShelf_rc _ _ _ hT i.rb (by rw [i.l]; omega)) ?_
      rintro r new ⟨rfl, rfl⟩
      rw [List.append_nil]
      try simp (config := {implicitDefEqProofs := false, maxDischargeDepth := 20}) (disch := first | omega | (simp only [lenE]; done) | (simp only [lenE]; omega) | rfl | (simp only [lenE, markR_len]; done) | (simp only [lenE, markR_len]; omega)) only [runE, mapE, listE, initT_5, initT_6, initT_7, initT_8, resV, oneV, binA, unA, reduceCtorEq, Nat.reduceEqDiff, Nat.reduceAdd, Nat.reduceLT, Nat.reduceLeDiff, Nat.reduceMul, Nat.reduceSub, ↓reduceIte, decide_true, decide_false, Bool.true_eq_false, Bool.false_eq_true, Bool.not_true, Bool.not_false, if_true, if_false, and_true, true_and, memE, celE, w64, Nat.zero_add, Nat.add_zero, Nat.mul_one, putL, and_self, ldn, Bool.and_self, Bool.and_true, Bool.true_and, Bool.and_false, Bool.false_and, Bool.or_false, Bool.false_or, ext_2_0, ext_2_1, bne_self_eq_false, beq_self_eq_true, goG_undef, Bool.not_true, Bool.not_false, stP5s, b3.rd, b3.ld5', zb, bo]
      refine rcallH_rc (vAdd9_rc _ _ _ iw sN) ?_
      rintro r new ⟨rfl, rfl⟩
      rw [List.append_nil]
      try simp (config := {implicitDefEqProofs := false, maxDischargeDepth := 20}) (disch := first | omega | (simp only [lenE]; done) | (simp only [lenE]; omega) | rfl | (simp only [lenE, markR_len]; done) | (simp only [lenE, markR_len]; omega)) only [runE, mapE, listE, initT_5, initT_6, initT_7, initT_8, resV, oneV, binA, unA, reduceCtorEq, Nat.reduceEqDiff, Nat.reduceAdd, Nat.reduceLT, Nat.reduceLeDiff, Nat.reduceMul, Nat.reduceSub, ↓reduceIte, decide_true, decide_false, Bool.true_eq_false, Bool.false_eq_true, Bool.not_true, Bool.not_false, if_true, if_false, and_true, true_and, memE, celE, w64, Nat.zero_add, Nat.add_zero, Nat.mul_one, putL, and_self, ldn, Bool.and_self, Bool.and_true, Bool.true_and, Bool.and_false, Bool.false_and, Bool.or_false, Bool.false_or, ext_2_0, ext_2_1, bne_self_eq_false, beq_self_eq_true, goG_undef, Bool.not_true, Bool.not_false, stP5s, b3.rd, b3.ld5', zb, bo]
      refine rcallH_rc (vAdd9_rc _ _ _ W1 i.wb) ?_
      rintro r new ⟨rfl, rfl⟩
      rw [List.append_nil]
      try simp (config := {implicitDefEqProofs := false, maxDischargeDepth := 20}) (disch := first | omega | (simp only [lenE]; done) | (simp only [lenE]; omega) | rfl | (simp only [lenE, markR_len]; done) | (simp only [lenE, markR_len]; omega)) only [runE, mapE, listE, initT_5, initT_6, initT_7, initT_8, resV, oneV, binA, unA, reduceCtorEq, Nat.reduceEqDiff, Nat.reduceAdd, Nat.reduceLT, Nat.reduceLeDiff, Nat.reduceMul, Nat.reduceSub, ↓reduceIte, decide_true, decide_false, Bool.true_eq_false, Bool.false_eq_true, Bool.not_true, Bool.not_false, if_true, if_false, and_true, true_and, memE, celE, w64, Nat.zero_add, Nat.add_zero, Nat.mul_one, putL, and_self, ldn, Bool.and_self, Bool.and_true, Bool.true_and, Bool.and_false, Bool.false_and, Bool.or_false, Bool.false_or, ext_2_0, ext_2_1, bne_self_eq_false, beq_self_eq_true, goG_undef, Bool.not_true, Bool.not_false, stP5s, b3.rd, b3.ld5']
      refine rcallH_rc (vShelf_rc _ _ _ hT i.rb (by rw [i.l]; omega)) ?_
      rintro r new ⟨rfl, rfl⟩
      rw [List.append_nil]
      try simp (config := {implicitDefEqProofs := false, maxDischargeDepth := 20}) (disch := first | omega | (simp only [lenE]; done) | (simp only [lenE]; omega) | rfl | (simp only [lenE, markR_len]; done) | (simp only [lenE, markR_len]; omega)) only [runE, mapE, listE, initT_5, initT_6, initT_7, initT_8, resV, oneV, binA, unA, reduceCtorEq, Nat.reduceEqDiff, Nat.reduceAdd, Nat.reduceLT, Nat.reduceLeDiff, Nat.reduceMul, Nat.reduceSub, ↓reduceIte, decide_true, decide_false, Bool.true_eq_false, Bool.false_eq_true, Bool.not_true, Bool.not_false, if_true, if_false, and_true, true_and, memE, celE, w64, Nat.zero_add, Nat.add_zero, Nat.mul_one, putL, and_self, ldn, Bool.and_self, Bool.and_true, Bool.true_and, Bool.and_false, Bool.false_and, Bool.or_false, Bool.false_or, ext_2_0, ext_2_1, bne_self_eq_false, beq_self_eq_true, goG_undef, Bool.not_true, Bool.not_false, stP5s, b3.rd, b3.ld5', zw, wa]
      refine rcallH_rc (vAdd9_rc _ _ _ ia (by rw [la8]; exact sA)) ?_
      rintro r new ⟨rfl, rfl⟩
      rw [List.append_nil]
      try simp (config := {implicitDefEqProofs := false, maxDischargeDepth := 20}) (disch := first | omega | (simp only [lenE]; done) | (simp only [lenE]; omega) | rfl | (simp only [lenE, markR_len]; done) | (simp only [lenE, markR_len]; omega)) only [runE, mapE, listE, initT_5, initT_6, initT_7, initT_8, resV, oneV, binA, unA, reduceCtorEq, Nat.reduceEqDiff, Nat.reduceAdd, Nat.reduceLT, Nat.reduceLeDiff, Nat.reduceMul, Nat.reduceSub, ↓reduceIte, decide_true, decide_false, Bool.true_eq_false, Bool.false_eq_true, Bool.not_true, Bool.not_false, if_true, if_false, and_true, true_and, memE, celE, w64, Nat.zero_add, Nat.add_zero, Nat.mul_one, putL, and_self, ldn, Bool.and_self, Bool.and_true, Bool.true_and, Bool.and_false, Bool.false_and, Bool.or_false, Bool.false_or, ext_2_0, ext_2_1, bne_self_eq_false, beq_self_eq_true, goG_undef, Bool.not_true, Bool.not_false, stP5s, b3.rd, b3.ld5', zw, wa]
end Go.Proofs.Ytdgfbmilbhckiaa.Ab
end
section
namespace Go.Proofs.Ytdgfbmilbhckiaa.Ab
open Go Go.RowKit
set_option linter.unusedVariables false
theorem ws_word : ∀ (p r : List Char), p.all (fun c => c != ' ') = true → wordsSigns (p ++ ' ' :: r) = p :: wordsSigns r
  | [], r, _ => by rw [List.nil_append, wordsSigns]
  | c :: p, r, h => by
    rw [List.all_cons, Bool.and_eq_true] at h
    have hc : c ≠ ' ' := by simpa using h.1
    rw [List.cons_append, wordsSigns, ws_word p r h.2]
    intro e; exact hc e
def sumW : List Char := ['f', '9', 'c', 'a', '5', '3', '9', '8', 'e', 'f', '3', '8', '5', '2', 'c', 'c', 'f', '5', '6', '6', '5', '3', '2', '4', '0', '4', '3', 'd', 'd', 'd', '6', 'b', '0', '9', 'c', '5', 'b', '1', '7', '9', '4', '5', '7', '9', '2', '1', 'a', 'd', 'b', 'a', '9', 'e', 'f', 'd', 'e', 'd', 'f', '3', '2', '0', 'a', 'c', 'f', '7']
def restW : List Char := ['a', 't', ' ', 'l', 'o', 'o', 'p', '.', 'e', 'x', 'a', 'm', 'p', 'l', 'e', '/', 'g', '0', '1', '1', '1', '1', '/', 'l', 'a', 'w', 's', '.', 'F', 'n', 'S', 'h', 'e', 'l', 'v', 'e', 's', ' ', 'l', 'o', 'o', 'p', '.', 'e', 'x', 'a', 'm', 'p', 'l', 'e', '/', 'g', '0', '1', '1', '1', '1', '/', 'l', 'a', 'w', 's', '.', 'F', 'n', 'A', 'g', 'e', 's', ' ', 'l', 'o', 'o', 'p', '.', 'e', 'x', 'a', 'm', 'p', 'l', 'e', '/', 'g', '0', '1', '1', '1', '1', '/', 'l', 'a', 'w', 's', '.', 'F', 'n', 'F', 'r', 'e', 's', 'h']
set_option maxRecDepth 100000 in
theorem head_is : Try.prog.initOrder = String.ofList (['h', 'a', 'r', 'n', 'e', 's', 's'] ++ ' ' :: (sumW ++ ' ' :: (['c', 'u', 't'] ++ ' ' :: restW))) := by kernel_rfl
set_option maxRecDepth 100000 in
theorem sum_ok : isSumSigns sumW = true := by kernel_rfl
theorem head_words : behindMainWord (wordsSigns Try.prog.initOrder.toList) = ['c', 'u', 't'] :: wordsSigns restW := by
  rw [head_is, String.toList_ofList, ws_word _ _ (by decide), ws_word _ _ (by decide), ws_word _ _ (by decide)]
  simp only [behindMainWord, sum_ok, Bool.and_true]
  rfl
set_option maxRecDepth 100000 in
theorem strip_cut (X : List (List Char)) : stripLifts liftWords (['c', 'u', 't'] :: X) = ([], ['c', 'u', 't'] :: X) := by kernel_rfl
theorem lifts_gen (P : Program) (X : List (List Char)) (h : behindMainWord (wordsSigns P.initOrder.toList) = ['c', 'u', 't'] :: X) : P.headLifts = [] := by
  unfold Program.headLifts
  rw [h, strip_cut]
  rfl
theorem enters_gen (P : Program) (X : List (List Char)) (h : behindMainWord (wordsSigns P.initOrder.toList) = ['c', 'u', 't'] :: X) (h1 : P.laysLater = false) (h2 : P.bearsReflect = false) (h3 : P.doorFits [] = true) : P.mayEnter = true := by
  unfold Program.mayEnter
  rw [h]
  simp only [strip_cut, h1, h2, h3]
  rfl
theorem finals_gen (P : Program) (X : List (List Char)) (h : behindMainWord (wordsSigns P.initOrder.toList) = ['c', 'u', 't'] :: X) : P.liftsFinal = false := by
  unfold Program.liftsFinal
  rw [lifts_gen P X h, h]
  rfl
theorem make_gen (P : Program) (X : List (List Char)) (h : behindMainWord (wordsSigns P.initOrder.toList) = ['c', 'u', 't'] :: X) : P.make = some .cut := by
  unfold Program.make
  rw [h]
  rfl
set_option maxRecDepth 100000 in
theorem enters : Try.prog.mayEnter = true := enters_gen _ _ head_words (by kernel_rfl) (by kernel_rfl) (by kernel_rfl)
theorem no_finals : Try.prog.liftsFinal = false := finals_gen _ _ head_words
theorem makes : Try.prog.make = some .cut := make_gen _ _ head_words
end Go.Proofs.Ytdgfbmilbhckiaa.Ab
end
