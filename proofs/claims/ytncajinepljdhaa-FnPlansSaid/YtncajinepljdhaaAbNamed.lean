/- Laws over bytes: the bytes that came in, what is cut from them, the laws' helpers vBig, vCut, vInts. -/
import Derived.Test.YtncajinepljdhaaAbDr
import Derived.Test.YtncajinepljdhaaCodV
namespace Go.Proofs.Ytncajinepljdhaa.Ab
open Go Go.RowKit
set_option linter.unusedVariables false
set_option linter.unusedSimpArgs false

/-- Bytes, somewhere. -/
structure BytesA (m : Mem) (cb : Nat) (l : List Int) : Prop where
  blk : ∃ kd, kd ≠ Kd.dead ∧ m[cb]? = some ⟨kd, 5, l.map (Value.int .u8)⟩
  byte : ∀ x ∈ l, 0 ≤ x ∧ x ≤ 255
  few : l.length ≤ 65536
theorem BytesA.ro {m : Mem} {cb : Nat} {l : List Int} (h : BytesA m cb l) : (roM m)[cb]? = some ⟨.ro, 5, l.map (Value.int .u8)⟩ := by
  obtain ⟨kd, hk, hb⟩ := h.blk
  unfold roM
  rw [List.getElem?_map, hb]
  cases kd with
  | dead => exact absurd rfl hk
  | ro => rfl
  | own => rfl
theorem BytesA.ext {m : Mem} {cb : Nat} {l : List Int} (h : BytesA m cb l) (new : Mem) : BytesA (m ++ new) cb l := by
  obtain ⟨kd, hk, hb⟩ := h.blk
  exact ⟨⟨kd, hk, by rw [List.getElem?_append_left (List.getElem?_eq_some_iff.1 hb).1]; exact hb⟩, h.byte, h.few⟩
/-- A new cursor over bytes. -/
theorem CurA.start {m : Mem} {cb fl : Nat} {l : List Int} (h : BytesA m cb l) {id : Nat} (hid : id = m.length) : CurA (roM m ++ [⟨.own, 75, [.slice (some ⟨cb, 0, none⟩) l.length fl, .int .i64 0, .int .u64 0]⟩]) cb l id 0 := by
  subst hid
  have hb := h.ro
  have hlt := (List.getElem?_eq_some_iff.1 hb).1
  refine ⟨by rw [List.getElem?_append_left hlt]; exact hb, h.byte, h.few, (fl, 0), ?_⟩
  rw [List.getElem?_append_right (by rw [roM_len]; omega), roM_len]
  simp
theorem bldCur (A : Option Addr) (n c : Nat) : bldA [.slice none 0 0, .int .i64 0, .int .u64 0] [(0, 1, .slice A n c)] = some (.agg #[.slice A n c, .int .i64 0, .int .u64 0]) := rfl

theorem vBig_rc (m : Mem) (cb fl : Nat) (n : Nat) : RC Try.prog 13 [.slice (some ⟨cb, 0, none⟩) n fl] m fun r new => r = .bool (decide (65536 < n)) ∧ new = [] := by
  refine rc_of_run mixed ok_laws_vBig (by simp) (go_start _ _ _ ?_)
  simp (config := {implicitDefEqProofs := false, maxDischargeDepth := 20}) (disch := first | omega | (simp only [lenE]; done) | (simp only [lenE]; omega) | rfl | (simp only [lenE, markR_len]; done) | (simp only [lenE, markR_len]; omega)) only [runE, mapE, listE, initT_5, initT_6, initT_7, initT_8, resV, oneV, binA, unA, reduceCtorEq, Nat.reduceEqDiff, Nat.reduceAdd, Nat.reduceLT, Nat.reduceLeDiff, Nat.reduceMul, Nat.reduceSub, ↓reduceIte, decide_true, decide_false, Bool.true_eq_false, Bool.false_eq_true, Bool.not_true, Bool.not_false, if_true, if_false, and_true, true_and, memE, celE, w64, Nat.zero_add, Nat.add_zero, Nat.mul_one, putL, and_self, ldn, c_laws_vBig, r_laws_vBig, gt_iff_lt]
  refine newQ_nil ⟨?_, rfl⟩
  congr 1
  rw [decide_eq_decide]
  omega
theorem vInts_rc (m : Mem) (v u : Value) (l : List Int) (h : IntsA m v l) (h' : IntsA m u l) : RC Try.prog 27 [v, u] m fun r new => r = .bool true ∧ new = [] := by
  refine rc_of_run mixed ok_laws_vInts (by simp) (go_start _ _ _ ?_)
  obtain ⟨e1, e2, e3, e4, -⟩ := h.ro
  obtain ⟨d1, d2, d3, d4, -⟩ := h'.ro
  simp (config := {implicitDefEqProofs := false, maxDischargeDepth := 20}) (disch := first | omega | (simp only [lenE]; done) | (simp only [lenE]; omega) | rfl | (simp only [lenE, markR_len]; done) | (simp only [lenE, markR_len]; omega)) only [runE, mapE, listE, initT_5, initT_6, initT_7, initT_8, resV, oneV, binA, unA, reduceCtorEq, Nat.reduceEqDiff, Nat.reduceAdd, Nat.reduceLT, Nat.reduceLeDiff, Nat.reduceMul, Nat.reduceSub, ↓reduceIte, decide_true, decide_false, Bool.true_eq_false, Bool.false_eq_true, Bool.not_true, Bool.not_false, if_true, if_false, and_true, true_and, memE, celE, w64, Nat.zero_add, Nat.add_zero, Nat.mul_one, putL, and_self, ldn, c_laws_vInts, r_laws_vInts, e1, d1, bne_self_eq_false]
  refine loop_inv mixed (fun s => ∃ k : Nat, k ≤ l.length ∧ s.t 0 = v ∧ s.t 1 = u ∧ s.t 5 = .int .i64 k ∧ s.m = roM m) (fun s => l.length - (intOf (s.t 5)).toNat) ⟨0, by omega, rfl, rfl, rfl, rfl⟩ ?_
  rintro s ⟨k, hk, t0, t1, t5, tm⟩
  by_cases hlt : k < l.length
  · have hlt' : (k : Int) < l.length := by omega
    simp (config := {implicitDefEqProofs := false, maxDischargeDepth := 20}) (disch := first | omega | (simp only [lenE]; done) | (simp only [lenE]; omega) | rfl | (simp only [lenE, markR_len]; done) | (simp only [lenE, markR_len]; omega)) only [runE, mapE, listE, initT_5, initT_6, initT_7, initT_8, resV, oneV, binA, unA, reduceCtorEq, Nat.reduceEqDiff, Nat.reduceAdd, Nat.reduceLT, Nat.reduceLeDiff, Nat.reduceMul, Nat.reduceSub, ↓reduceIte, decide_true, decide_false, Bool.true_eq_false, Bool.false_eq_true, Bool.not_true, Bool.not_false, if_true, if_false, and_true, true_and, memE, celE, w64, Nat.zero_add, Nat.add_zero, Nat.mul_one, putL, and_self, ldn, t0, t1, t5, tm, e1, e3 k hlt, e4 k hlt, d3 k hlt, d4 k hlt, hlt', bne_self_eq_false]
    exact ⟨⟨k + 1, by omega, by simp⟩, by simp [intOf]; omega⟩
  · have hlt' : ¬ ((k : Int) < l.length) := by omega
    simp (config := {implicitDefEqProofs := false, maxDischargeDepth := 20}) (disch := first | omega | (simp only [lenE]; done) | (simp only [lenE]; omega) | rfl | (simp only [lenE, markR_len]; done) | (simp only [lenE, markR_len]; omega)) only [runE, mapE, listE, initT_5, initT_6, initT_7, initT_8, resV, oneV, binA, unA, reduceCtorEq, Nat.reduceEqDiff, Nat.reduceAdd, Nat.reduceLT, Nat.reduceLeDiff, Nat.reduceMul, Nat.reduceSub, ↓reduceIte, decide_true, decide_false, Bool.true_eq_false, Bool.false_eq_true, Bool.not_true, Bool.not_false, if_true, if_false, and_true, true_and, memE, celE, w64, Nat.zero_add, Nat.add_zero, Nat.mul_one, putL, and_self, ldn, t0, t1, t5, tm, e1, hlt']
    exact newQ_nil ⟨rfl, rfl⟩
/-- A block behind another one, to which is appended what is read from a third one. -/
theorem appB {M : Mem} {id : Nat} {e : TypeId} {cs ys : List Value} {u : Value} (h : M[id]? = some ⟨.own, e, cs⟩) (hs : slR M 1 u = some ys) (hu : lenOfA u = ys.length) (ho : onesB ys = true) (hb : cs.length + ys.length ≤ 1048576) {n : Nat} (hn : n = cs.length) :
    appP M e 1 1 (.slice (some ⟨id, 0, none⟩) n 1) u = some (.slice (some ⟨M.length, 0, none⟩) (n + ys.length) 1, M.set id deadB ++ [⟨.own, e, cs ++ ys⟩]) := by
  subst hn
  unfold appP
  rw [hs]
  simp only [ho, if_true, appA, hu]
  rw [h]
  simp only [Nat.mul_one, true_and]
  rw [if_pos (by omega)]
theorem onesB_bytes (l : List Int) : onesB (l.map (Value.int .u8)) = true := by
  unfold onesB
  rw [List.all_eq_true]
  intro x hx
  obtain ⟨y, _, rfl⟩ := List.mem_map.1 hx
  rfl
theorem vCut_rc (m : Mem) (cb fl k : Nat) (l : List Int) (h : BytesA m cb l) (hk : 1 ≤ k) (hk2 : k ≤ 200) :
    RC Try.prog 22 [.slice (some ⟨cb, 0, none⟩) l.length fl, .int .i64 k] m fun r new => NoRo new ∧ ∃ (i : Nat) (l2 : List Int), r = .slice (some ⟨m.length + i, 0, none⟩) l2.length 1 ∧ new[i]? = some ⟨.own, 5, l2.map (Value.int .u8)⟩ ∧ (∀ x ∈ l2, 0 ≤ x ∧ x ≤ 255) ∧ l2.length ≤ 65536 := by
  have hro := h.ro
  have hlt := (List.getElem?_eq_some_iff.1 hro).1
  have hf := h.few
  -- what is done with the place from which is cut
  have rest : ∀ j : Nat, j ≤ l.length → j ≤ 200 → (j = k ∨ j = l.length) → ∃ M2 : Mem, ∃ M3 : Mem,
      slcA 1 (.slice (some ⟨cb, 0, none⟩) l.length fl) (some (.int .i64 (j : Int))) none = some (.slice (some ⟨cb, j, none⟩) (l.length - j) 0) ∧
      appP (roM m ++ [⟨.own, 5, []⟩]) 5 1 1 (.slice (some ⟨m.length, 0, none⟩) 0 1) (.slice (some ⟨cb, j, none⟩) (l.length - j) 0) = some (.slice (some ⟨m.length + 1, 0, none⟩) (l.length - j) 1, M2) ∧
      M2.length = m.length + 2 ∧
      appP (M2 ++ [⟨.own, 5, [.int .u8 (j : Int)]⟩]) 5 1 1 (.slice (some ⟨m.length + 1, 0, none⟩) (l.length - j) 1) (.slice (some ⟨M2.length, 0, none⟩) 1 1) = some (.slice (some ⟨m.length + 3, 0, none⟩) (l.length - j + 1) 1, M3) ∧
      Ext m M3 ∧ M3[m.length + 3]? = some ⟨.own, 5, (l.drop j ++ [(j : Int)]).map (Value.int .u8)⟩ := by
    intro j hj hj2 hjk
    have e1 : slR (roM m ++ [⟨.own, 5, []⟩]) 1 (.slice (some ⟨cb, j, none⟩) (l.length - j) 0) = some ((l.drop j).map (Value.int .u8)) := by
      simp only [slR, rdl, Nat.mul_one]
      rw [List.getElem?_append_left hlt, hro]
      have : j + (l.length - j) ≤ l.length := by omega
      simp only [this, if_true, List.length_map, List.map_drop]
      rw [if_neg (by simp)]
      congr 1
      rw [List.take_of_length_le (by simp)]
    have e2 : (roM m ++ [(⟨.own, 5, []⟩ : Blk)])[m.length]? = some ⟨.own, 5, []⟩ := by
      rw [List.getElem?_append_right (by rw [roM_len]; omega), roM_len]; simp
    have a1 := appB (e := 5) e2 e1 (by simp [lenOfA]) (onesB_bytes _) (by simp; omega) (n := 0) rfl
    have hl1 : (roM m ++ [(⟨.own, 5, []⟩ : Blk)]).length = m.length + 1 := by simp [roM_len]
    rw [hl1] at a1
    have hdl : ((l.drop j).map (Value.int .u8)).length = l.length - j := by simp
    rw [hdl] at a1
    obtain ⟨M2, hM2⟩ : ∃ M2, M2 = (roM m ++ [(⟨.own, 5, []⟩ : Blk)]).set m.length deadB ++ [⟨.own, 5, [] ++ (l.drop j).map (Value.int .u8)⟩] := ⟨_, rfl⟩
    have hM2l : M2.length = m.length + 2 := by rw [hM2]; simp [roM_len]
    have x2 : Ext m M2 := by rw [hM2]; exact (((Ext.refl m).one _ _).dead (Nat.le_refl _)).one _ _
    have g2 : M2[m.length + 1]? = some ⟨.own, 5, (l.drop j).map (Value.int .u8)⟩ := by
      rw [hM2, List.getElem?_append_right (by simp [roM_len])]; simp [roM_len]
    have g3 : (M2 ++ [(⟨.own, 5, [.int .u8 (j : Int)]⟩ : Blk)])[m.length + 1]? = some ⟨.own, 5, (l.drop j).map (Value.int .u8)⟩ := by
      rw [List.getElem?_append_left (by omega)]; exact g2
    have e3 : slR (M2 ++ [(⟨.own, 5, [.int .u8 (j : Int)]⟩ : Blk)]) 1 (.slice (some ⟨M2.length, 0, none⟩) 1 1) = some [.int .u8 (j : Int)] := by
      simp [slR, rdl]
    have a2 := appB (e := 5) g3 e3 (by simp [lenOfA]) (by rfl) (by simp; omega) (n := l.length - j) (by simp)
    have hl3 : (M2 ++ [(⟨.own, 5, [.int .u8 (j : Int)]⟩ : Blk)]).length = m.length + 3 := by simp; omega
    rw [hl3] at a2
    refine ⟨M2, _, ?_, by rw [a1, hM2]; simp, hM2l, a2, ?_, ?_⟩
    · have h1 : (0 : Int) ≤ j := by omega
      simp [slcA, boundA, hj]
    · exact ((x2.one _ _).dead (by omega)).one _ _
    · rw [List.getElem?_append_right (by simp; omega)]
      simp [hM2l]
  have fin : ∀ (j : Nat) (M3 : Mem), j ≤ l.length → j ≤ 200 → (j = k ∨ j = l.length) → Ext m M3 → M3[m.length + 3]? = some ⟨.own, 5, (l.drop j ++ [(j : Int)]).map (Value.int .u8)⟩ →
      newQ m (fun r new => NoRo new ∧ ∃ (i : Nat) (l2 : List Int), r = .slice (some ⟨m.length + i, 0, none⟩) l2.length 1 ∧ new[i]? = some ⟨.own, 5, l2.map (Value.int .u8)⟩ ∧ (∀ x ∈ l2, 0 ≤ x ∧ x ≤ 255) ∧ l2.length ≤ 65536) (.slice (some ⟨m.length + 3, 0, none⟩) (l.length - j + 1) 1) M3 := by
    intro j M3 hj hj2 hjk hx hg
    obtain ⟨n0, rfl, h0⟩ := hx
    refine ⟨n0, rfl, h0, h0, 3, l.drop j ++ [(j : Int)], by simp, ?_, ?_, by simp; omega⟩
    · rw [List.getElem?_append_right (by rw [roM_len]; omega), roM_len] at hg
      simpa using hg
    · intro x hx
      rcases List.mem_append.1 hx with h1 | h1
      · exact h.byte x (List.mem_of_mem_drop h1)
      · have : x = j := by simpa using h1
        omega
  refine rc_of_run mixed ok_laws_vCut (by simp) (go_start _ _ _ ?_)
  have w8 : ∀ j : Nat, j ≤ 200 → IntKind.u8.wrap (j : Int) = (j : Int) := fun j hj => by rw [IntKind.wrap_u8]; omega
  have bn : ∀ m : Mem, bslA m 5 1 0 [] [] = some (.slice (some ⟨m.length, 0, none⟩) 0 1, m ++ [⟨.own, 5, []⟩]) := fun m => rfl
  have bo : ∀ (m : Mem) (x : Int), bslA m 5 1 1 [.int .u8 0] [(0, 1, .int .u8 x)] = some (.slice (some ⟨m.length, 0, none⟩) 1 1, m ++ [⟨.own, 5, [.int .u8 x]⟩]) := fun m x => rfl
  by_cases hkl : l.length < k
  · have hkl' : (l.length : Int) < k := by omega
    obtain ⟨M2, M3, r1, r2, r3, r4, r5, r6⟩ := rest l.length (Nat.le_refl _) (by omega) (.inr rfl)
    rw [r3] at r4
    simp (config := {implicitDefEqProofs := false, maxDischargeDepth := 20}) (disch := first | omega | (simp only [lenE]; done) | (simp only [lenE]; omega) | rfl | (simp only [lenE, markR_len]; done) | (simp only [lenE, markR_len]; omega)) only [runE, mapE, listE, initT_5, initT_6, initT_7, initT_8, resV, oneV, binA, unA, reduceCtorEq, Nat.reduceEqDiff, Nat.reduceAdd, Nat.reduceLT, Nat.reduceLeDiff, Nat.reduceMul, Nat.reduceSub, ↓reduceIte, decide_true, decide_false, Bool.true_eq_false, Bool.false_eq_true, Bool.not_true, Bool.not_false, if_true, if_false, and_true, true_and, memE, celE, w64, Nat.zero_add, Nat.add_zero, Nat.mul_one, putL, and_self, ldn, c_laws_vCut, r_laws_vCut, gt_iff_lt, hkl', bn, Option.map_none, r1, r2, w8 l.length (by omega), bo, r3, r4]
    exact fin l.length M3 (Nat.le_refl _) (by omega) (.inr rfl) r5 r6
  · have hkl' : ¬ ((l.length : Int) < k) := by omega
    obtain ⟨M2, M3, r1, r2, r3, r4, r5, r6⟩ := rest k (by omega) hk2 (.inl rfl)
    rw [r3] at r4
    simp (config := {implicitDefEqProofs := false, maxDischargeDepth := 20}) (disch := first | omega | (simp only [lenE]; done) | (simp only [lenE]; omega) | rfl | (simp only [lenE, markR_len]; done) | (simp only [lenE, markR_len]; omega)) only [runE, mapE, listE, initT_5, initT_6, initT_7, initT_8, resV, oneV, binA, unA, reduceCtorEq, Nat.reduceEqDiff, Nat.reduceAdd, Nat.reduceLT, Nat.reduceLeDiff, Nat.reduceMul, Nat.reduceSub, ↓reduceIte, decide_true, decide_false, Bool.true_eq_false, Bool.false_eq_true, Bool.not_true, Bool.not_false, if_true, if_false, and_true, true_and, memE, celE, w64, Nat.zero_add, Nat.add_zero, Nat.mul_one, putL, and_self, ldn, c_laws_vCut, r_laws_vCut, gt_iff_lt, hkl', bn, Option.map_none, r1, r2, w8 k hk2, bo, r3, r4]
    exact fin k M3 (by omega) hk2 (.inl rfl) r5 r6
/-- A slice of bytes that came in. -/
theorem argB {W : World} {A : Option Addr} {c : Nat} {l : List Int} (hr : Rd W W.heap.size A (l.map (Value.int .u8))) (hlc : l.length ≤ c) (hc : c ≤ maxLen) :
    ∃ p, MRel W W.heap.size [p] [⟨.ro, 5, l.map (Value.int .u8)⟩] W ∧ VR [p] (.slice (some ⟨0, 0, none⟩) l.length 0) (.slice A l.length c) := by
  have h := MRel.start W
  by_cases hl : 0 < l.length
  · obtain ⟨b, off, rfl, hb, hcell⟩ := hr (by simpa using hl)
    refine ⟨(b, off, 0), by
      have := h.addRo (e := 5) (xs := l.map (Value.int .u8)) (b := b) (o := off) (tot := 0) (fun k x hx => ⟨hb, x, hcell k x hx, by
        rw [List.getElem?_map] at hx
        cases hk : l[k]? with
        | none => rw [hk] at hx; cases hx
        | some z => rw [hk] at hx; cases hx; exact .int _ _⟩)
      simpa using this, .sl (b := b) (o := off) (tot := 0) (by simp) hlc hc (fun _ _ => by simp) (fun hf => absurd hf (by omega))⟩
  · have hl0 : l = [] := List.eq_nil_of_length_eq_zero (by omega)
    subst hl0
    exact ⟨(0, 0, 0), by
      have := h.addRo (e := 5) (xs := []) (b := 0) (o := 0) (tot := 0) (fun k x hx => by simp at hx)
      simpa using this, .sl (b := 0) (o := 0) (tot := 0) (by simp) hlc hc (fun _ hp => absurd hp (by simp)) (fun hf => absurd hf (by omega))⟩
end Go.Proofs.Ytncajinepljdhaa.Ab
