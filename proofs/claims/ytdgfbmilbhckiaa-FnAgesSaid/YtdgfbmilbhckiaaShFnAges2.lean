/- What the law needs of the texts that it rests on. -/
import Derived.Test.YtdgfbmilbhckiaaShFnAges1
section
namespace Go.Proofs.Ytdgfbmilbhckiaa.Ab
open Go Go.RowKit
set_option linter.unusedVariables false
set_option linter.unusedSimpArgs false
set_option maxRecDepth 10000
theorem cell_sh {M : Mem} {c : Nat} {u w : Value} {cs : List Value} {s : Sh} {M0 : Mem} (h : M[c]? = some ⟨.own, 26, cs⟩) (hc : cs.length = 5) (hk : ShA M0 (shV s u w) s) :
    stA M c 0 [.int .i64 s.life, u, w, .int .i64 s.waste, .int .i64 s.lost] = some (M.set c ⟨.own, 26, [.int .i64 s.life, u, w, .int .i64 s.waste, .int .i64 s.lost]⟩) ∧ ∀ k, rdc (M.set c ⟨.own, 26, [.int .i64 s.life, u, w, .int .i64 s.waste, .int .i64 s.lost]⟩) c k = ([.int .i64 s.life, u, w, .int .i64 s.waste, .int .i64 s.lost] : List Value)[k]? := by
  have o : OwnB M c 26 cs := h
  obtain ⟨u', w', e, i1, i2⟩ := hk
  cases e
  have o5 : onesB [.int .i64 s.life, u, w, .int .i64 s.waste, .int .i64 s.lost] = true := by
    have q1 : u.oneCell' = true := by have := i1.one []; simpa [onesB] using this
    have q2 : w.oneCell' = true := by have := i2.one []; simpa [onesB] using this
    simp [onesB, q1, q2]
    exact ⟨rfl, rfl, rfl⟩
  obtain ⟨c0, c1, c2, c3, c4, rfl⟩ : ∃ c0 c1 c2 c3 c4, cs = [c0, c1, c2, c3, c4] := by
    match cs, hc with
    | [c0, c1, c2, c3, c4], _ => exact ⟨_, _, _, _, _, rfl⟩
  exact ⟨o.st (by simp) o5, fun k => (o.set_self _ _).rd k⟩
def AnsSTI (m : Mem) (r : Value) (new : Mem) : Prop :=
  NoRo new ∧ ∃ (v t : Value) (s : Sh) (T : List (List Int)) (x : Int), r = .tuple #[v, t, .int .i64 x] ∧ ShA (m ++ new) v s ∧ TabA (m ++ new) t T ∧ s.need.length ≤ 100 ∧ -1 ≤ x ∧ x ≤ 101
def AnsSR (m : Mem) (r : Value) (new : Mem) : Prop :=
  NoRo new ∧ ∃ (v : Value) (s : Sh) (i : Nat) (L : List Int), r = .tuple #[v, .slice (some ⟨m.length + i, 0, none⟩) L.length 1] ∧ ShA (m ++ new) v s ∧ new[i]? = some (rowB L) ∧ L.length ≤ 1000
theorem back_agree {m n0 : Mem} {lo : Nat} (hlo : m.length ≤ lo) : ∀ i, lo ≤ i → i < (roM m ++ n0).length → (m ++ n0)[i]? = (roM m ++ n0)[i]? := fun i h1 h2 => by
  rw [List.getElem?_append_right (by omega), List.getElem?_append_right (by rw [roM_len]; omega), roM_len]
set_option maxHeartbeats 8000000 in
theorem DrawStockByAge_rc (m : Mem) (cb fl : Nat) (l : List Int) (h : BytesA m cb l) :
    RC Try.prog 29 [.slice (some ⟨cb, 0, none⟩) l.length fl] m (AnsSTI m) := by
  refine rc_of_run mixed ok_spec_DrawStockByAge (by simp) (go_start _ _ _ ?_)
  simp (config := {implicitDefEqProofs := false, maxDischargeDepth := 20}) (disch := first | omega | (simp only [lenE]; done) | (simp only [lenE]; omega) | rfl | (simp only [lenE, markR_len]; done) | (simp only [lenE, markR_len]; omega)) only [runE, mapE, listE, initT_5, initT_6, initT_7, initT_8, resV, oneV, binA, unA, reduceCtorEq, Nat.reduceEqDiff, Nat.reduceAdd, Nat.reduceLT, Nat.reduceLeDiff, Nat.reduceMul, Nat.reduceSub, ↓reduceIte, decide_true, decide_false, Bool.true_eq_false, Bool.false_eq_true, Bool.not_true, Bool.not_false, if_true, if_false, and_true, true_and, memE, celE, w64, Nat.zero_add, Nat.add_zero, Nat.mul_one, putL, and_self, ldn, c_spec_DrawStockByAge, r_spec_DrawStockByAge, bldCur]
  obtain ⟨M0, hM0⟩ : ∃ M0 : Mem, M0 = roM m ++ [⟨.own, 26, [.int .i64 0, .slice none 0 0, .slice none 0 0, .int .i64 0, .int .i64 0]⟩] := ⟨_, rfl⟩
  have hl0 : M0.length = m.length + 1 := by rw [hM0]; simp [roM_len]
  have hc0 : M0[m.length]? = some ⟨.own, 26, [.int .i64 0, .slice none 0 0, .slice none 0 0, .int .i64 0, .int .i64 0]⟩ := by rw [hM0, List.getElem?_append_right (by rw [roM_len]; omega), roM_len]; simp
  have ho0 : ∀ i, i < m.length → M0[i]? = (roM m)[i]? := fun i hi => by rw [hM0, List.getElem?_append_left (by rw [roM_len]; exact hi)]
  have hb0 : M0[cb]? = some ⟨.ro, 5, l.map (Value.int .u8)⟩ := by
    have := h.ro
    rw [hM0, List.getElem?_append_left (List.getElem?_eq_some_iff.1 this).1]; exact this
  have k0 := CurA.start2 (fl := fl) hb0 h.byte h.few
  rw [hl0] at k0
  have hn0 : ∀ (i : Nat) (b : Blk), m.length ≤ i → (M0 ++ [(⟨.own, 82, [.slice (some ⟨cb, 0, none⟩) l.length fl, .int .i64 0, .int .u64 0]⟩ : Blk)])[i]? = some b → b.kd ≠ .ro := fun i b hi hb => by
    by_cases e : i = m.length
    · subst e
      rw [List.getElem?_append_left (by omega), hc0] at hb
      cases hb
      simp
    · rw [List.getElem?_append_right (by omega)] at hb
      have e1 : i - M0.length = 0 := by
        have := (List.getElem?_eq_some_iff.1 hb).1
        simpa using this
      rw [e1] at hb
      cases hb
      simp
  rw [← hM0]
  refine callH_ac (shelf_ac _ cb _ 0 l k0 (by omega)) ?_
  rintro v M1 ⟨s, ⟨⟨hla, hln⟩, lv⟩, w1, a1, ha1, k1⟩
  obtain ⟨u, w, rfl, iu, iw⟩ := lv.here
  have hl1 := w1.len
  have hll : (M0 ++ [(⟨.own, 82, [.slice (some ⟨cb, 0, none⟩) l.length fl, .int .i64 0, .int .u64 0]⟩ : Blk)]).length = m.length + 2 := by simp; omega
  rw [hll] at hl1 lv
  have hc1 : M1[m.length]? = some ⟨.own, 26, [.int .i64 0, .slice none 0 0, .slice none 0 0, .int .i64 0, .int .i64 0]⟩ := by
    rw [w1.old m.length (by omega) (by omega), List.getElem?_append_left (by omega)]; exact hc0
  have hn1 := w1.noRo hn0 k1
  have ho1 : ∀ i, i < m.length → M1[i]? = (roM m)[i]? := fun i hi => by
    rw [w1.old i (by omega) (by omega), List.getElem?_append_left (by omega)]; exact ho0 i hi
  have hx : (M1 ++ [(⟨.own, 26, [.int .i64 0, .slice none 0 0, .slice none 0 0, .int .i64 0, .int .i64 0]⟩ : Blk)])[M1.length]? = some ⟨.own, 26, [.int .i64 0, .slice none 0 0, .slice none 0 0, .int .i64 0, .int .i64 0]⟩ := by simp
  obtain ⟨s1, r1⟩ := cell_sh hx rfl lv.here
  have e2 : (M1 ++ [(⟨.own, 26, [.int .i64 0, .slice none 0 0, .slice none 0 0, .int .i64 0, .int .i64 0]⟩ : Blk)]).set M1.length ⟨.own, 26, [.int .i64 s.life, u, w, .int .i64 s.waste, .int .i64 s.lost]⟩ = M1 ++ [⟨.own, 26, [.int .i64 s.life, u, w, .int .i64 s.waste, .int .i64 s.lost]⟩] := by simp
  rw [e2] at s1 r1
  obtain ⟨M2, hM2⟩ : ∃ M2 : Mem, M2 = M1 ++ [⟨.own, 26, [.int .i64 s.life, u, w, .int .i64 s.waste, .int .i64 s.lost]⟩] := ⟨_, rfl⟩
  rw [← hM2] at s1 r1
  have b2 : OwnB M2 M1.length 26 [.int .i64 s.life, u, w, .int .i64 s.waste, .int .i64 s.lost] := by rw [hM2]; exact OwnB.here rfl
  have k2 : CurA M2 cb l (m.length + 1) a1 := by rw [hM2]; exact k1.ext _
  have hl2 : M2.length = M1.length + 1 := by rw [hM2]; simp
  have lv2 : LivesSh (m.length + 2) M2 (shV s u w) s := lv.up (by omega) fun i _ hi => by rw [hM2, List.getElem?_append_left hi]
  have hn2 : ∀ (i : Nat) (b : Blk), m.length ≤ i → M2[i]? = some b → b.kd ≠ .ro := fun i b hi hb => by
    by_cases e : i < M1.length
    · rw [hM2, List.getElem?_append_left e] at hb; exact hn1 i b hi hb
    · rw [hM2, List.getElem?_append_right (by omega)] at hb
      have e1 : i - M1.length = 0 := by
        have := (List.getElem?_eq_some_iff.1 hb).1
        simpa using this
      rw [e1] at hb
      cases hb
      simp
  have ho2 : ∀ i, i < M1.length → M2[i]? = M1[i]? := fun i hi => by rw [hM2, List.getElem?_append_left hi]
  have hlen := iw.len
  clear e2 hx hc0 ho0 hb0 k0 hn0 hM0 hM2 iu iw
  simp (config := {implicitDefEqProofs := false, maxDischargeDepth := 20}) (disch := first | omega | (simp only [lenE]; done) | (simp only [lenE]; omega) | rfl | (simp only [lenE, markR_len]; done) | (simp only [lenE, markR_len]; omega)) only [runE, mapE, listE, initT_5, initT_6, initT_7, initT_8, resV, oneV, binA, unA, reduceCtorEq, Nat.reduceEqDiff, Nat.reduceAdd, Nat.reduceLT, Nat.reduceLeDiff, Nat.reduceMul, Nat.reduceSub, ↓reduceIte, decide_true, decide_false, Bool.true_eq_false, Bool.false_eq_true, Bool.not_true, Bool.not_false, if_true, if_false, and_true, true_and, memE, celE, w64, Nat.zero_add, Nat.add_zero, Nat.mul_one, putL, and_self, ldn, stP5s, s1, b2.rd]
  refine callH_ac (issue_ac M2 cb (m.length + 1) a1 (m.length + 2) l _ s k2 (by omega) lv2 (by omega)) ?_
  rintro r M3 ⟨T, lt, w3, a3, ha3, k3⟩
  have b3 : OwnB M3 M1.length 26 [.int .i64 s.life, u, w, .int .i64 s.waste, .int .i64 s.lost] := b2.at_ (w3.old M1.length (by omega) b2.lt)
  simp (config := {implicitDefEqProofs := false, maxDischargeDepth := 20}) (disch := first | omega | (simp only [lenE]; done) | (simp only [lenE]; omega) | rfl | (simp only [lenE, markR_len]; done) | (simp only [lenE, markR_len]; omega)) only [runE, mapE, listE, initT_5, initT_6, initT_7, initT_8, resV, oneV, binA, unA, reduceCtorEq, Nat.reduceEqDiff, Nat.reduceAdd, Nat.reduceLT, Nat.reduceLeDiff, Nat.reduceMul, Nat.reduceSub, ↓reduceIte, decide_true, decide_false, Bool.true_eq_false, Bool.false_eq_true, Bool.not_true, Bool.not_false, if_true, if_false, and_true, true_and, memE, celE, w64, Nat.zero_add, Nat.add_zero, Nat.mul_one, putL, and_self, ldn, b3.rd, hlen]
  with_reducible refine ⟨?_, ?_⟩
  all_goals
    refine callH_ac (pick_ac M3 cb _ a3 l ((s.need.length : Int) + 2) k3 (by omega) (by omega) (by omega)) ?_
    rintro r M4 ⟨x, rfl, hx0, hx1, w4, a4, ha4, k4⟩
    have w24 : Cw (m.length + 1) M2 M4 := Cw.trans (by omega) w3 w4
    have b4 : OwnB M4 M1.length 26 [.int .i64 s.life, u, w, .int .i64 s.waste, .int .i64 s.lost] := b2.at_ (w24.old M1.length (by omega) b2.lt)
    have xf : IntKind.i64.wrap (x - 1) = x - 1 := IntWalk.i64_in _ ⟨by omega, by omega⟩
    have p := fun (P : Mem) (c : Cw (m.length + 1) M2 P) => (show OwnB P M1.length 26 [.int .i64 s.life, u, w, .int .i64 s.waste, .int .i64 s.lost] from b2.at_ (c.old M1.length (by omega) b2.lt))
    have lw8 := w24.len
    have hc8 : M4[m.length]? = some ⟨.own, 26, [.int .i64 0, .slice none 0 0, .slice none 0 0, .int .i64 0, .int .i64 0]⟩ := by
      rw [w24.old m.length (by omega) (by omega), ho2 _ (by omega)]; exact hc1
    have lv8 : LivesSh (m.length + 2) M4 (shV s u w) s := lv2.cw (by omega) w24
    obtain ⟨s4, r4⟩ := cell_sh hc8 rfl lv8.here
    have x8 : Ext m M4 := ext_of (by omega) (fun i hi => by rw [w24.old i (by omega) (by omega), ho2 i (by omega)]; exact ho1 i hi) (w24.noRo hn2 k4)
    have x9 := x8.put (Nat.le_refl _) 26 [.int .i64 s.life, u, w, .int .i64 s.waste, .int .i64 s.lost]
    have lv9 : LivesSh (m.length + 2) (M4.set m.length ⟨.own, 26, [.int .i64 s.life, u, w, .int .i64 s.waste, .int .i64 s.lost]⟩) (shV s u w) s := lv8.up (by simp) fun i h1 h2 => List.getElem?_set_ne (by omega)
    have z0 := r4 0
    have z1 := r4 1
    have z2 := r4 2
    have z3 := r4 3
    have z4 := r4 4
    simp only [List.getElem?_cons_zero, List.getElem?_cons_succ] at z0 z1 z2 z3 z4
    have lt9 := (LivesT.cw (lo := M2.length) lt (by omega) w4).up (M' := M4.set m.length ⟨.own, 26, [.int .i64 s.life, u, w, .int .i64 s.waste, .int .i64 s.lost]⟩) (by simp) (fun i h1 h2 => List.getElem?_set_ne (by omega))
    simp (config := {implicitDefEqProofs := false, maxDischargeDepth := 20}) (disch := first | omega | (simp only [lenE]; done) | (simp only [lenE]; omega) | rfl | (simp only [lenE, markR_len]; done) | (simp only [lenE, markR_len]; omega)) only [runE, mapE, listE, initT_5, initT_6, initT_7, initT_8, resV, oneV, binA, unA, reduceCtorEq, Nat.reduceEqDiff, Nat.reduceAdd, Nat.reduceLT, Nat.reduceLeDiff, Nat.reduceMul, Nat.reduceSub, ↓reduceIte, decide_true, decide_false, Bool.true_eq_false, Bool.false_eq_true, Bool.not_true, Bool.not_false, if_true, if_false, and_true, true_and, memE, celE, w64, Nat.zero_add, Nat.add_zero, Nat.mul_one, putL, and_self, ldn, stP5s, b4.rd, xf, s4, z0, z1, z2, z3, z4]
    obtain ⟨n0, e0, h0⟩ := x9
    rw [e0] at lv9 lt9
    exact ⟨n0, e0, h0, h0, _, _, s, T, x - 1, rfl, lv9 _ (back_agree (by omega)), lt9 _ (back_agree (by omega)), hln, by omega, by omega⟩
set_option maxHeartbeats 8000000 in
theorem DrawLostBound_rc (m : Mem) (cb fl : Nat) (l : List Int) (h : BytesA m cb l) :
    RC Try.prog 32 [.slice (some ⟨cb, 0, none⟩) l.length fl] m (AnsSR m) := by
  refine rc_of_run mixed ok_spec_DrawLostBound (by simp) (go_start _ _ _ ?_)
  simp (config := {implicitDefEqProofs := false, maxDischargeDepth := 20}) (disch := first | omega | (simp only [lenE]; done) | (simp only [lenE]; omega) | rfl | (simp only [lenE, markR_len]; done) | (simp only [lenE, markR_len]; omega)) only [runE, mapE, listE, initT_5, initT_6, initT_7, initT_8, resV, oneV, binA, unA, reduceCtorEq, Nat.reduceEqDiff, Nat.reduceAdd, Nat.reduceLT, Nat.reduceLeDiff, Nat.reduceMul, Nat.reduceSub, ↓reduceIte, decide_true, decide_false, Bool.true_eq_false, Bool.false_eq_true, Bool.not_true, Bool.not_false, if_true, if_false, and_true, true_and, memE, celE, w64, Nat.zero_add, Nat.add_zero, Nat.mul_one, putL, and_self, ldn, c_spec_DrawLostBound, r_spec_DrawLostBound, bldCur]
  obtain ⟨M0, hM0⟩ : ∃ M0 : Mem, M0 = roM m ++ [⟨.own, 26, [.int .i64 0, .slice none 0 0, .slice none 0 0, .int .i64 0, .int .i64 0]⟩] := ⟨_, rfl⟩
  have hl0 : M0.length = m.length + 1 := by rw [hM0]; simp [roM_len]
  have hc0 : M0[m.length]? = some ⟨.own, 26, [.int .i64 0, .slice none 0 0, .slice none 0 0, .int .i64 0, .int .i64 0]⟩ := by rw [hM0, List.getElem?_append_right (by rw [roM_len]; omega), roM_len]; simp
  have ho0 : ∀ i, i < m.length → M0[i]? = (roM m)[i]? := fun i hi => by rw [hM0, List.getElem?_append_left (by rw [roM_len]; exact hi)]
  have hb0 : M0[cb]? = some ⟨.ro, 5, l.map (Value.int .u8)⟩ := by
    have := h.ro
    rw [hM0, List.getElem?_append_left (List.getElem?_eq_some_iff.1 this).1]; exact this
  have k0 := CurA.start2 (fl := fl) hb0 h.byte h.few
  rw [hl0] at k0
  have hn0 : ∀ (i : Nat) (b : Blk), m.length ≤ i → (M0 ++ [(⟨.own, 82, [.slice (some ⟨cb, 0, none⟩) l.length fl, .int .i64 0, .int .u64 0]⟩ : Blk)])[i]? = some b → b.kd ≠ .ro := fun i b hi hb => by
    by_cases e : i = m.length
    · subst e
      rw [List.getElem?_append_left (by omega), hc0] at hb
      cases hb
      simp
    · rw [List.getElem?_append_right (by omega)] at hb
      have e1 : i - M0.length = 0 := by
        have := (List.getElem?_eq_some_iff.1 hb).1
        simpa using this
      rw [e1] at hb
      cases hb
      simp
  rw [← hM0]
  refine callH_ac (shelf_ac _ cb _ 0 l k0 (by omega)) ?_
  rintro v M1 ⟨s, ⟨⟨hla, hln⟩, lv⟩, w1, a1, ha1, k1⟩
  obtain ⟨u, w, rfl, iu, iw⟩ := lv.here
  have hl1 := w1.len
  have hll : (M0 ++ [(⟨.own, 82, [.slice (some ⟨cb, 0, none⟩) l.length fl, .int .i64 0, .int .u64 0]⟩ : Blk)]).length = m.length + 2 := by simp; omega
  rw [hll] at hl1 lv
  have hc1 : M1[m.length]? = some ⟨.own, 26, [.int .i64 0, .slice none 0 0, .slice none 0 0, .int .i64 0, .int .i64 0]⟩ := by
    rw [w1.old m.length (by omega) (by omega), List.getElem?_append_left (by omega)]; exact hc0
  have hn1 := w1.noRo hn0 k1
  have ho1 : ∀ i, i < m.length → M1[i]? = (roM m)[i]? := fun i hi => by
    rw [w1.old i (by omega) (by omega), List.getElem?_append_left (by omega)]; exact ho0 i hi
  have hx : (M1 ++ [(⟨.own, 26, [.int .i64 0, .slice none 0 0, .slice none 0 0, .int .i64 0, .int .i64 0]⟩ : Blk)])[M1.length]? = some ⟨.own, 26, [.int .i64 0, .slice none 0 0, .slice none 0 0, .int .i64 0, .int .i64 0]⟩ := by simp
  obtain ⟨s1, r1⟩ := cell_sh hx rfl lv.here
  have e2 : (M1 ++ [(⟨.own, 26, [.int .i64 0, .slice none 0 0, .slice none 0 0, .int .i64 0, .int .i64 0]⟩ : Blk)]).set M1.length ⟨.own, 26, [.int .i64 s.life, u, w, .int .i64 s.waste, .int .i64 s.lost]⟩ = M1 ++ [⟨.own, 26, [.int .i64 s.life, u, w, .int .i64 s.waste, .int .i64 s.lost]⟩] := by simp
  rw [e2] at s1 r1
  obtain ⟨M2, hM2⟩ : ∃ M2 : Mem, M2 = M1 ++ [⟨.own, 26, [.int .i64 s.life, u, w, .int .i64 s.waste, .int .i64 s.lost]⟩] := ⟨_, rfl⟩
  rw [← hM2] at s1 r1
  have b2 : OwnB M2 M1.length 26 [.int .i64 s.life, u, w, .int .i64 s.waste, .int .i64 s.lost] := by rw [hM2]; exact OwnB.here rfl
  have k2 : CurA M2 cb l (m.length + 1) a1 := by rw [hM2]; exact k1.ext _
  have hl2 : M2.length = M1.length + 1 := by rw [hM2]; simp
  have lv2 : LivesSh (m.length + 2) M2 (shV s u w) s := lv.up (by omega) fun i _ hi => by rw [hM2, List.getElem?_append_left hi]
  have hn2 : ∀ (i : Nat) (b : Blk), m.length ≤ i → M2[i]? = some b → b.kd ≠ .ro := fun i b hi hb => by
    by_cases e : i < M1.length
    · rw [hM2, List.getElem?_append_left e] at hb; exact hn1 i b hi hb
    · rw [hM2, List.getElem?_append_right (by omega)] at hb
      have e1 : i - M1.length = 0 := by
        have := (List.getElem?_eq_some_iff.1 hb).1
        simpa using this
      rw [e1] at hb
      cases hb
      simp
  have ho2 : ∀ i, i < M1.length → M2[i]? = M1[i]? := fun i hi => by rw [hM2, List.getElem?_append_left hi]
  have hlen := iw.len
  clear e2 hx hc0 ho0 hb0 k0 hn0 hM0 hM2 iu iw
  simp (config := {implicitDefEqProofs := false, maxDischargeDepth := 20}) (disch := first | omega | (simp only [lenE]; done) | (simp only [lenE]; omega) | rfl | (simp only [lenE, markR_len]; done) | (simp only [lenE, markR_len]; omega)) only [runE, mapE, listE, initT_5, initT_6, initT_7, initT_8, resV, oneV, binA, unA, reduceCtorEq, Nat.reduceEqDiff, Nat.reduceAdd, Nat.reduceLT, Nat.reduceLeDiff, Nat.reduceMul, Nat.reduceSub, ↓reduceIte, decide_true, decide_false, Bool.true_eq_false, Bool.false_eq_true, Bool.not_true, Bool.not_false, if_true, if_false, and_true, true_and, memE, celE, w64, Nat.zero_add, Nat.add_zero, Nat.mul_one, putL, and_self, ldn, stP5s, s1, b2.rd, hlen]
  refine callH_rc (l1Least_rcK _ _ _) ?_
  rintro r new ⟨rfl, rfl⟩
  rw [List.append_nil]
  obtain ⟨n, hn⟩ : ∃ n : Nat, (n : Int) = min (s.need.length : Int) 8 := ⟨(min (s.need.length : Int) 8).toNat, by omega⟩
  rw [← hn]
  have hn8 : n ≤ 8 := by omega
  have hn0 : ¬ ((n : Int) < 0) := by omega
  have sh := shl1 hn8
  have h28 : 2 ^ n ≤ 2 ^ 8 := Nat.pow_le_pow_right (by omega) hn8
  have h01 : 1 ≤ 2 ^ n := Nat.one_le_two_pow
  simp (config := {implicitDefEqProofs := false, maxDischargeDepth := 20}) (disch := first | omega | (simp only [lenE]; done) | (simp only [lenE]; omega) | rfl | (simp only [lenE, markR_len]; done) | (simp only [lenE, markR_len]; omega)) only [runE, mapE, listE, initT_5, initT_6, initT_7, initT_8, resV, oneV, binA, unA, reduceCtorEq, Nat.reduceEqDiff, Nat.reduceAdd, Nat.reduceLT, Nat.reduceLeDiff, Nat.reduceMul, Nat.reduceSub, ↓reduceIte, decide_true, decide_false, Bool.true_eq_false, Bool.false_eq_true, Bool.not_true, Bool.not_false, if_true, if_false, and_true, true_and, memE, celE, w64, Nat.zero_add, Nat.add_zero, Nat.mul_one, putL, and_self, ldn, sh, hn0]
  refine callH_ac (pick_ac M2 cb _ a1 l ((2 ^ n : Nat) : Int) k2 (by omega) (by omega) (by omega)) ?_
  rintro r N1 ⟨x1, rfl, hx10, hx11, c1, b1, hb1, f1⟩
  obtain ⟨c, rfl⟩ : ∃ c : Nat, x1 = c := ⟨x1.toNat, by omega⟩
  simp (config := {implicitDefEqProofs := false, maxDischargeDepth := 20}) (disch := first | omega | (simp only [lenE]; done) | (simp only [lenE]; omega) | rfl | (simp only [lenE, markR_len]; done) | (simp only [lenE, markR_len]; omega)) only [runE, mapE, listE, initT_5, initT_6, initT_7, initT_8, resV, oneV, binA, unA, reduceCtorEq, Nat.reduceEqDiff, Nat.reduceAdd, Nat.reduceLT, Nat.reduceLeDiff, Nat.reduceMul, Nat.reduceSub, ↓reduceIte, decide_true, decide_false, Bool.true_eq_false, Bool.false_eq_true, Bool.not_true, Bool.not_false, if_true, if_false, and_true, true_and, memE, celE, w64, Nat.zero_add, Nat.add_zero, Nat.mul_one, putL, and_self, ldn]
  refine callH_rc (l2Bits1_rc N1 n c hn8 (by omega)) ?_
  intro r new hA
  obtain ⟨rr, rfl, pge, op, nr⟩ := hA.row
  obtain ⟨N, hN⟩ : ∃ N, N = N1 ++ new := ⟨_, rfl⟩
  have ln1 := c1.len
  have D : Dr M2 N cb (m.length + 1) b1 rr l (bitsL c n) := by rw [hN]; exact ⟨by omega, k2.cblt, c1.ext nr, f1.ext new, op, by omega⟩
  rw [← hN]
  clear hN hA op nr f1 c1
  have hL := bitsL_len c n
  generalize bitsL c n = L at *
  simp (config := {implicitDefEqProofs := false, maxDischargeDepth := 20}) (disch := first | omega | (simp only [lenE]; done) | (simp only [lenE]; omega) | rfl | (simp only [lenE, markR_len]; done) | (simp only [lenE, markR_len]; omega)) only [runE, mapE, listE, initT_5, initT_6, initT_7, initT_8, resV, oneV, binA, unA, reduceCtorEq, Nat.reduceEqDiff, Nat.reduceAdd, Nat.reduceLT, Nat.reduceLeDiff, Nat.reduceMul, Nat.reduceSub, ↓reduceIte, decide_true, decide_false, Bool.true_eq_false, Bool.false_eq_true, Bool.not_true, Bool.not_false, if_true, if_false, and_true, true_and, memE, celE, w64, Nat.zero_add, Nat.add_zero, Nat.mul_one, putL, and_self, ldn]
  refine callH_ac (one_ac N cb _ b1 l 16 D.cur (by omega) (by omega) (by omega)) ?_
  rintro r N5 ⟨bb, rfl, c5, b5, hb5, f5⟩
  have D := D.draw c5 f5
  cases bb with
  | true =>
    simp (config := {implicitDefEqProofs := false, maxDischargeDepth := 20}) (disch := first | omega | (simp only [lenE]; done) | (simp only [lenE]; omega) | rfl | (simp only [lenE, markR_len]; done) | (simp only [lenE, markR_len]; omega)) only [runE, mapE, listE, initT_5, initT_6, initT_7, initT_8, resV, oneV, binA, unA, reduceCtorEq, Nat.reduceEqDiff, Nat.reduceAdd, Nat.reduceLT, Nat.reduceLeDiff, Nat.reduceMul, Nat.reduceSub, ↓reduceIte, decide_true, decide_false, Bool.true_eq_false, Bool.false_eq_true, Bool.not_true, Bool.not_false, if_true, if_false, and_true, true_and, memE, celE, w64, Nat.zero_add, Nat.add_zero, Nat.mul_one, putL, and_self, ldn, b3f]
    refine callH_ac (among_new N5 cb _ b5 l [-1, 0, 8] D.cur (by omega) rfl rfl (by simp) (by simp)) ?_
    rintro r N6 ⟨x, -, rfl, c6, b6, hb6, f6⟩
    have D := D.draw c6 f6
    obtain ⟨N7, ap, D⟩ := D.app x (by omega) (i := N6.length) rfl
    have bN : OwnB N7 M1.length 26 [.int .i64 s.life, u, w, .int .i64 s.waste, .int .i64 s.lost] := b2.at_ (D.cw.old M1.length (by omega) b2.lt)
    have p := fun (P : Mem) (c : Cw (m.length + 1) M2 P) => (show OwnB P M1.length 26 [.int .i64 s.life, u, w, .int .i64 s.waste, .int .i64 s.lost] from b2.at_ (c.old M1.length (by omega) b2.lt))
    have lw8 := D.cw.len
    have hc8 : N7[m.length]? = some ⟨.own, 26, [.int .i64 0, .slice none 0 0, .slice none 0 0, .int .i64 0, .int .i64 0]⟩ := by
      rw [D.cw.old m.length (by omega) (by omega), ho2 _ (by omega)]; exact hc1
    have lv8 : LivesSh (m.length + 2) N7 (shV s u w) s := lv2.cw (by omega) D.cw
    obtain ⟨s4, r4⟩ := cell_sh hc8 rfl lv8.here
    have x8 : Ext m N7 := ext_of (by omega) (fun i hi => by rw [D.cw.old i (by omega) (by omega), ho2 i (by omega)]; exact ho1 i hi) (D.cw.noRo hn2 D.cur)
    have x9 := x8.put (Nat.le_refl _) 26 [.int .i64 s.life, u, w, .int .i64 s.waste, .int .i64 s.lost]
    have lv9 : LivesSh (m.length + 2) (N7.set m.length ⟨.own, 26, [.int .i64 s.life, u, w, .int .i64 s.waste, .int .i64 s.lost]⟩) (shV s u w) s := lv8.up (by simp) fun i h1 h2 => List.getElem?_set_ne (by omega)
    have z0 := r4 0
    have z1 := r4 1
    have z2 := r4 2
    have z3 := r4 3
    have z4 := r4 4
    simp only [List.getElem?_cons_zero, List.getElem?_cons_succ] at z0 z1 z2 z3 z4
    simp (config := {implicitDefEqProofs := false, maxDischargeDepth := 20}) (disch := first | omega | (simp only [lenE]; done) | (simp only [lenE]; omega) | rfl | (simp only [lenE, markR_len]; done) | (simp only [lenE, markR_len]; omega)) only [runE, mapE, listE, initT_5, initT_6, initT_7, initT_8, resV, oneV, binA, unA, reduceCtorEq, Nat.reduceEqDiff, Nat.reduceAdd, Nat.reduceLT, Nat.reduceLeDiff, Nat.reduceMul, Nat.reduceSub, ↓reduceIte, decide_true, decide_false, Bool.true_eq_false, Bool.false_eq_true, Bool.not_true, Bool.not_false, if_true, if_false, and_true, true_and, memE, celE, w64, Nat.zero_add, Nat.add_zero, Nat.mul_one, putL, and_self, ldn, stP5s, bsl_one, ap, bN.rd, s4, z0, z1, z2, z3, z4]
    have rge := D.ge
    have o9 : OwnR (N7.set m.length ⟨.own, 26, [.int .i64 s.life, u, w, .int .i64 s.waste, .int .i64 s.lost]⟩) (N6.length + 1) (L ++ [x]) := D.own.set_ne (by omega)
    obtain ⟨n0, e0, h0⟩ := x9
    rw [e0] at lv9 o9
    unfold OwnR at o9
    rw [List.getElem?_append_right (by rw [roM_len]; omega), roM_len] at o9
    exact ⟨n0, e0, h0, h0, _, s, (N6.length + 1) - m.length, (L ++ [x]), by rw [Nat.add_sub_cancel' (by omega)] <;> simp, lv9 _ (back_agree (by omega)), o9, by first | omega | (simp; omega)⟩
  | false =>
    have bN : OwnB N5 M1.length 26 [.int .i64 s.life, u, w, .int .i64 s.waste, .int .i64 s.lost] := b2.at_ (D.cw.old M1.length (by omega) b2.lt)
    have p := fun (P : Mem) (c : Cw (m.length + 1) M2 P) => (show OwnB P M1.length 26 [.int .i64 s.life, u, w, .int .i64 s.waste, .int .i64 s.lost] from b2.at_ (c.old M1.length (by omega) b2.lt))
    have lw8 := D.cw.len
    have hc8 : N5[m.length]? = some ⟨.own, 26, [.int .i64 0, .slice none 0 0, .slice none 0 0, .int .i64 0, .int .i64 0]⟩ := by
      rw [D.cw.old m.length (by omega) (by omega), ho2 _ (by omega)]; exact hc1
    have lv8 : LivesSh (m.length + 2) N5 (shV s u w) s := lv2.cw (by omega) D.cw
    obtain ⟨s4, r4⟩ := cell_sh hc8 rfl lv8.here
    have x8 : Ext m N5 := ext_of (by omega) (fun i hi => by rw [D.cw.old i (by omega) (by omega), ho2 i (by omega)]; exact ho1 i hi) (D.cw.noRo hn2 D.cur)
    have x9 := x8.put (Nat.le_refl _) 26 [.int .i64 s.life, u, w, .int .i64 s.waste, .int .i64 s.lost]
    have lv9 : LivesSh (m.length + 2) (N5.set m.length ⟨.own, 26, [.int .i64 s.life, u, w, .int .i64 s.waste, .int .i64 s.lost]⟩) (shV s u w) s := lv8.up (by simp) fun i h1 h2 => List.getElem?_set_ne (by omega)
    have z0 := r4 0
    have z1 := r4 1
    have z2 := r4 2
    have z3 := r4 3
    have z4 := r4 4
    simp only [List.getElem?_cons_zero, List.getElem?_cons_succ] at z0 z1 z2 z3 z4
    simp (config := {implicitDefEqProofs := false, maxDischargeDepth := 20}) (disch := first | omega | (simp only [lenE]; done) | (simp only [lenE]; omega) | rfl | (simp only [lenE, markR_len]; done) | (simp only [lenE, markR_len]; omega)) only [runE, mapE, listE, initT_5, initT_6, initT_7, initT_8, resV, oneV, binA, unA, reduceCtorEq, Nat.reduceEqDiff, Nat.reduceAdd, Nat.reduceLT, Nat.reduceLeDiff, Nat.reduceMul, Nat.reduceSub, ↓reduceIte, decide_true, decide_false, Bool.true_eq_false, Bool.false_eq_true, Bool.not_true, Bool.not_false, if_true, if_false, and_true, true_and, memE, celE, w64, Nat.zero_add, Nat.add_zero, Nat.mul_one, putL, and_self, ldn, stP5s, bN.rd, s4, z0, z1, z2, z3, z4]
    have rge := D.ge
    have o9 : OwnR (N5.set m.length ⟨.own, 26, [.int .i64 s.life, u, w, .int .i64 s.waste, .int .i64 s.lost]⟩) rr L := D.own.set_ne (by omega)
    obtain ⟨n0, e0, h0⟩ := x9
    rw [e0] at lv9 o9
    unfold OwnR at o9
    rw [List.getElem?_append_right (by rw [roM_len]; omega), roM_len] at o9
    exact ⟨n0, e0, h0, h0, _, s, rr - m.length, L, by rw [Nat.add_sub_cancel' (by omega)] <;> simp, lv9 _ (back_agree (by omega)), o9, by first | omega | (simp; omega)⟩
end Go.Proofs.Ytdgfbmilbhckiaa.Ab
end
section
namespace Go.Proofs.Ytdgfbmilbhckiaa.Ab
open Go Go.RowKit
set_option linter.unusedVariables false
set_option linter.unusedSimpArgs false
theorem column_rc (m : Mem) (vt : Value) (T : List (List Int)) (f : Nat) (hT : TabA m vt T) (hr : ∀ t, t < T.length → f < (T.getD t []).length) (hb : ∀ t, t < T.length → -1000 ≤ (T.getD t []).getD f 0 ∧ (T.getD t []).getD f 0 ≤ 1000) (hn : T.length ≤ 1000) :
    RC Try.prog 72 [vt, .int .i64 (f : Int)] m fun r new => r = .int .i64 (colT T f T.length) ∧ new = [] := by
  refine rc_of_run mixed ok_spec_l9Column (by simp) (go_start _ _ _ ?_)
  have hT' := hT.ro
  have cb : ∀ k, k ≤ T.length → -1000 * (k : Int) ≤ colT T f k ∧ colT T f k ≤ 1000 * (k : Int) := by
    intro k
    induction k with
    | zero => intro _; simp [colT]
    | succ k ih =>
      intro hk
      have h1 := ih (by omega)
      have h2 := hb k (by omega)
      simp only [colT]
      omega
  simp (config := {implicitDefEqProofs := false, maxDischargeDepth := 20}) (disch := first | omega | (simp only [lenE]; done) | (simp only [lenE]; omega) | rfl | (simp only [lenE, markR_len]; done) | (simp only [lenE, markR_len]; omega)) only [runE, mapE, listE, initT_5, initT_6, initT_7, initT_8, resV, oneV, binA, unA, reduceCtorEq, Nat.reduceEqDiff, Nat.reduceAdd, Nat.reduceLT, Nat.reduceLeDiff, Nat.reduceMul, Nat.reduceSub, ↓reduceIte, decide_true, decide_false, Bool.true_eq_false, Bool.false_eq_true, Bool.not_true, Bool.not_false, if_true, if_false, and_true, true_and, memE, celE, w64, Nat.zero_add, Nat.add_zero, Nat.mul_one, putL, and_self, ldn, c_spec_l9Column, r_spec_l9Column]
  refine loop_inv mixed (fun s => ∃ k : Nat, k ≤ T.length ∧ s.t 0 = vt ∧ s.t 1 = .int .i64 (f : Int) ∧ s.t 5 = .int .i64 (colT T f k) ∧ s.t 6 = .int .i64 k ∧ s.m = roM m) (fun s => T.length - (intOf (s.t 6)).toNat) ⟨0, by omega, rfl, rfl, rfl, rfl, rfl⟩ ?_
  rintro s ⟨k, hk, t0, t1, t5, t6, tm⟩
  by_cases hlt : k < T.length
  · have hlt' : (k : Int) < T.length := by omega
    obtain ⟨w, w1, w2⟩ := hT'.ld k hlt
    have hf := hr k hlt
    have b1 := cb k hk
    have b2 := hb k hlt
    simp (config := {implicitDefEqProofs := false, maxDischargeDepth := 20}) (disch := first | omega | (simp only [lenE]; done) | (simp only [lenE]; omega) | rfl | (simp only [lenE, markR_len]; done) | (simp only [lenE, markR_len]; omega)) only [runE, mapE, listE, initT_5, initT_6, initT_7, initT_8, resV, oneV, binA, unA, reduceCtorEq, Nat.reduceEqDiff, Nat.reduceAdd, Nat.reduceLT, Nat.reduceLeDiff, Nat.reduceMul, Nat.reduceSub, ↓reduceIte, decide_true, decide_false, Bool.true_eq_false, Bool.false_eq_true, Bool.not_true, Bool.not_false, if_true, if_false, and_true, true_and, memE, celE, w64, Nat.zero_add, Nat.add_zero, Nat.mul_one, putL, and_self, ldn, t0, t1, t5, t6, tm, hT'.len, hlt', hT'.at_ k hlt, w1, w2.at_ f hf, w2.ld f hf]
    refine ⟨⟨k + 1, by omega, by simp [colT]⟩, ?_⟩
    simp [intOf]; omega
  · have hlt' : ¬ ((k : Int) < T.length) := by omega
    have e : k = T.length := by omega
    simp (config := {implicitDefEqProofs := false, maxDischargeDepth := 20}) (disch := first | omega | (simp only [lenE]; done) | (simp only [lenE]; omega) | rfl | (simp only [lenE, markR_len]; done) | (simp only [lenE, markR_len]; omega)) only [runE, mapE, listE, initT_5, initT_6, initT_7, initT_8, resV, oneV, binA, unA, reduceCtorEq, Nat.reduceEqDiff, Nat.reduceAdd, Nat.reduceLT, Nat.reduceLeDiff, Nat.reduceMul, Nat.reduceSub, ↓reduceIte, decide_true, decide_false, Bool.true_eq_false, Bool.false_eq_true, Bool.not_true, Bool.not_false, if_true, if_false, and_true, true_and, memE, celE, w64, Nat.zero_add, Nat.add_zero, Nat.mul_one, putL, and_self, ldn, t0, t1, t5, t6, tm, hT'.len, hlt']
    exact newQ_nil ⟨by rw [e], rfl⟩
theorem l9Issue_rc (m : Mem) (v vt : Value) (s : Sh) (T : List (List Int)) (h : ShA m v s) (hT : TabA m vt T) (hg : GoodSh s) :
    RC Try.prog 47 [v, vt] m (AnsV (.bool (s.issB T))) := by
  refine rc_of_run mixed ok_spec_l9Issue (by simp) (go_start _ _ _ ?_)
  obtain ⟨a, b, rfl, ha, hb⟩ := h.ro
  have hla := hg.la
  have n8 := hg.n8
  have hX := (Ext.refl m).one 26 [.int .i64 s.life, a, b, .int .i64 s.waste, .int .i64 s.lost]
  simp (config := {implicitDefEqProofs := false, maxDischargeDepth := 20}) (disch := first | omega | (simp only [lenE]; done) | (simp only [lenE]; omega) | rfl | (simp only [lenE, markR_len]; done) | (simp only [lenE, markR_len]; omega)) only [runE, mapE, listE, initT_5, initT_6, initT_7, initT_8, resV, oneV, binA, unA, reduceCtorEq, Nat.reduceEqDiff, Nat.reduceAdd, Nat.reduceLT, Nat.reduceLeDiff, Nat.reduceMul, Nat.reduceSub, ↓reduceIte, decide_true, decide_false, Bool.true_eq_false, Bool.false_eq_true, Bool.not_true, Bool.not_false, if_true, if_false, and_true, true_and, memE, celE, w64, Nat.zero_add, Nat.add_zero, Nat.mul_one, putL, and_self, ldn, c_spec_l9Issue, r_spec_l9Issue, hb.len]
  obtain ⟨M0, hM0⟩ : ∃ M0, M0 = roM m ++ [⟨.own, 26, [.int .i64 s.life, a, b, .int .i64 s.waste, .int .i64 s.lost]⟩] := ⟨_, rfl⟩
  have o1 : OwnB M0 m.length 26 [.int .i64 s.life, a, b, .int .i64 s.waste, .int .i64 s.lost] := by rw [hM0]; exact OwnB.here (by simp [roM_len])
  rw [← hM0] at hX ⊢
  have no : ∀ M, Ext m M → ¬ (T.length = s.need.length ∧ irows s T s.need.length) → newQ m (AnsV (.bool (s.issB T))) (.bool false) M := fun M hM hq => ext_ansV hM (by rw [Sh.issB, decide_eq_false hq])
  refine loop_inv mixed (fun s' => ∃ (t : Nat) (M : Mem), t ≤ T.length ∧ t ≤ s.need.length ∧ s'.m = M ∧ Ext m M ∧ OwnB M m.length 26 [.int .i64 s.life, a, b, .int .i64 s.waste, .int .i64 s.lost] ∧ (∀ r, r < t → irow s T r) ∧
      s'.t 1 = vt ∧ s'.t 2 = .pointer (some ⟨m.length, 0, none⟩) ∧ s'.t 5 = .int .i64 (s.need.length : Int) ∧ s'.t 6 = .int .i64 (t : Int)) (fun s' => T.length - (intOf (s'.t 6)).toNat)
    ⟨0, M0, by omega, by omega, rfl, hX, o1, fun r hr => absurd hr (by omega), rfl, rfl, rfl, rfl⟩ ?_
  rintro s' ⟨t, M, ht, htn, tm, hX, o1, hall, t1, t2, t5, t6⟩
  have hTM := TabA.xt hT hX
  by_cases hlt : t < T.length
  · have hlt' : (t : Int) < T.length := by omega
    by_cases hln : t < s.need.length
    · have hln' : (t : Int) < s.need.length := by omega
      obtain ⟨w, w1, w2⟩ := hT.rowAt hX hlt
      have wi := hX.ints w2
      have key := irow_iff (T := T) hg hln
      simp (config := {implicitDefEqProofs := false, maxDischargeDepth := 20}) (disch := first | omega | (simp only [lenE]; done) | (simp only [lenE]; omega) | rfl | (simp only [lenE, markR_len]; done) | (simp only [lenE, markR_len]; omega)) only [runE, mapE, listE, initT_5, initT_6, initT_7, initT_8, resV, oneV, binA, unA, reduceCtorEq, Nat.reduceEqDiff, Nat.reduceAdd, Nat.reduceLT, Nat.reduceLeDiff, Nat.reduceMul, Nat.reduceSub, ↓reduceIte, decide_true, decide_false, Bool.true_eq_false, Bool.false_eq_true, Bool.not_true, Bool.not_false, if_true, if_false, and_true, true_and, memE, celE, w64, Nat.zero_add, Nat.add_zero, Nat.mul_one, putL, and_self, ldn, tm, t1, t2, t5, t6, hTM.len, hlt', hln', hTM.at_ t hlt, w1]
      refine rcallH_rc (l2Row_rc _ w (T.getD t []) s.need.length 20 wi) ?_
      rintro r new ⟨rfl, rfl⟩
      cases b1 : Go.Proofs.Ytdgfbmilbhckiaa.rowB (T.getD t []) s.need.length 20 with
      | false =>
        simp (config := {implicitDefEqProofs := false, maxDischargeDepth := 20}) (disch := first | omega | (simp only [lenE]; done) | (simp only [lenE]; omega) | rfl | (simp only [lenE, markR_len]; done) | (simp only [lenE, markR_len]; omega)) only [runE, mapE, listE, initT_5, initT_6, initT_7, initT_8, resV, oneV, binA, unA, reduceCtorEq, Nat.reduceEqDiff, Nat.reduceAdd, Nat.reduceLT, Nat.reduceLeDiff, Nat.reduceMul, Nat.reduceSub, ↓reduceIte, decide_true, decide_false, Bool.true_eq_false, Bool.false_eq_true, Bool.not_true, Bool.not_false, if_true, if_false, and_true, true_and, memE, celE, w64, Nat.zero_add, Nat.add_zero, Nat.mul_one, putL, and_self, ldn]
        refine no _ hX fun hq => ?_
        have := (key.1 (hq.2.1 t hln)).1
        rw [b1] at this; cases this
      | true =>
        have rb := rowB_iff.1 b1
        have sb := sumTo_bound (by omega) rb.1
        have xb := hX.ints hb
        simp (config := {implicitDefEqProofs := false, maxDischargeDepth := 20}) (disch := first | omega | (simp only [lenE]; done) | (simp only [lenE]; omega) | rfl | (simp only [lenE, markR_len]; done) | (simp only [lenE, markR_len]; omega)) only [runE, mapE, listE, initT_5, initT_6, initT_7, initT_8, resV, oneV, binA, unA, reduceCtorEq, Nat.reduceEqDiff, Nat.reduceAdd, Nat.reduceLT, Nat.reduceLeDiff, Nat.reduceMul, Nat.reduceSub, ↓reduceIte, decide_true, decide_false, Bool.true_eq_false, Bool.false_eq_true, Bool.not_true, Bool.not_false, if_true, if_false, and_true, true_and, memE, celE, w64, Nat.zero_add, Nat.add_zero, Nat.mul_one, putL, and_self, ldn, hTM.at_ t hlt, w1, t1, t2, t6, tm, o1.rd, xb.at_ t hln, xb.ld t hln]
        refine rcallH_rc (l2Sum_rc _ w (T.getD t []) wi (fun k hk => by have := sb k; omega)) ?_
        rintro r new ⟨rfl, rfl⟩
        by_cases hs : s.need.getD t 0 < sumTo (T.getD t []) (T.getD t []).length
        · simp (config := {implicitDefEqProofs := false, maxDischargeDepth := 20}) (disch := first | omega | (simp only [lenE]; done) | (simp only [lenE]; omega) | rfl | (simp only [lenE, markR_len]; done) | (simp only [lenE, markR_len]; omega)) only [runE, mapE, listE, initT_5, initT_6, initT_7, initT_8, resV, oneV, binA, unA, reduceCtorEq, Nat.reduceEqDiff, Nat.reduceAdd, Nat.reduceLT, Nat.reduceLeDiff, Nat.reduceMul, Nat.reduceSub, ↓reduceIte, decide_true, decide_false, Bool.true_eq_false, Bool.false_eq_true, Bool.not_true, Bool.not_false, if_true, if_false, and_true, true_and, memE, celE, w64, Nat.zero_add, Nat.add_zero, Nat.mul_one, putL, and_self, ldn, hs, gt_iff_lt]
          refine no _ hX fun hq => ?_
          have := (key.1 (hq.2.1 t hln)).2.1
          omega
        · simp (config := {implicitDefEqProofs := false, maxDischargeDepth := 20}) (disch := first | omega | (simp only [lenE]; done) | (simp only [lenE]; omega) | rfl | (simp only [lenE, markR_len]; done) | (simp only [lenE, markR_len]; omega)) only [runE, mapE, listE, initT_5, initT_6, initT_7, initT_8, resV, oneV, binA, unA, reduceCtorEq, Nat.reduceEqDiff, Nat.reduceAdd, Nat.reduceLT, Nat.reduceLeDiff, Nat.reduceMul, Nat.reduceSub, ↓reduceIte, decide_true, decide_false, Bool.true_eq_false, Bool.false_eq_true, Bool.not_true, Bool.not_false, if_true, if_false, and_true, true_and, memE, celE, w64, Nat.zero_add, Nat.add_zero, Nat.mul_one, putL, and_self, ldn, hs, gt_iff_lt]
          refine loop_inv mixed (fun s' => ∃ (f : Nat) (M : Mem), f ≤ s.need.length ∧ s'.m = M ∧ Ext m M ∧ OwnB M m.length 26 [.int .i64 s.life, a, b, .int .i64 s.waste, .int .i64 s.lost] ∧ (∀ q, q < f → 0 < (T.getD t []).getD q 0 → usB s.life q t = true) ∧
              s'.t 1 = vt ∧ s'.t 2 = .pointer (some ⟨m.length, 0, none⟩) ∧ s'.t 5 = .int .i64 (s.need.length : Int) ∧ s'.t 6 = .int .i64 (t : Int) ∧ s'.t 7 = .int .i64 (f : Int)) (fun s' => s.need.length - (intOf (s'.t 7)).toNat)
            ⟨0, M, by omega, (by first | exact tm | rfl), hX, o1, fun q hq => absurd hq (by omega), (by first | exact t1 | simp only [put_t, put_t', put_m, putT_t, putT_t', putT_m, init_t, init_m, initT_0, initT_1, initT_2, initT_3, initT_4, initT_5, initT_6, initT_7, initT_8, Nat.reduceEqDiff, ↓reduceIte, t1]), (by first | exact t2 | simp only [put_t, put_t', put_m, putT_t, putT_t', putT_m, init_t, init_m, initT_0, initT_1, initT_2, initT_3, initT_4, initT_5, initT_6, initT_7, initT_8, Nat.reduceEqDiff, ↓reduceIte, t2]), (by first | exact t5 | simp only [put_t, put_t', put_m, putT_t, putT_t', putT_m, init_t, init_m, initT_0, initT_1, initT_2, initT_3, initT_4, initT_5, initT_6, initT_7, initT_8, Nat.reduceEqDiff, ↓reduceIte, t5]), (by first | exact t6 | simp only [put_t, put_t', put_m, putT_t, putT_t', putT_m, init_t, init_m, initT_0, initT_1, initT_2, initT_3, initT_4, initT_5, initT_6, initT_7, initT_8, Nat.reduceEqDiff, ↓reduceIte, t6]), rfl⟩ ?_
          clear tm hX o1 w1 wi xb hTM t1 t2 t5 t6
          rintro s' ⟨f, M, hf, tm, hX, o1, hus, t1, t2, t5, t6, t7⟩
          have hTM := TabA.xt hT hX
          by_cases hfl : f < s.need.length
          · have hfl' : (f : Int) < s.need.length := by omega
            obtain ⟨w, w1, w2⟩ := hT.rowAt hX hlt
            have wi := hX.ints w2
            by_cases hp : 0 < (T.getD t []).getD f 0
            · simp (config := {implicitDefEqProofs := false, maxDischargeDepth := 20}) (disch := first | omega | (simp only [lenE]; done) | (simp only [lenE]; omega) | rfl | (simp only [lenE, markR_len]; done) | (simp only [lenE, markR_len]; omega)) only [runE, mapE, listE, initT_5, initT_6, initT_7, initT_8, resV, oneV, binA, unA, reduceCtorEq, Nat.reduceEqDiff, Nat.reduceAdd, Nat.reduceLT, Nat.reduceLeDiff, Nat.reduceMul, Nat.reduceSub, ↓reduceIte, decide_true, decide_false, Bool.true_eq_false, Bool.false_eq_true, Bool.not_true, Bool.not_false, if_true, if_false, and_true, true_and, memE, celE, w64, Nat.zero_add, Nat.add_zero, Nat.mul_one, putL, and_self, ldn, tm, t1, t2, t5, t6, t7, hfl', hTM.at_ t hlt, w1, wi.at_ f (by omega), wi.ld f (by omega), hp, gt_iff_lt, o1.rd]
              refine callH_rc (usable_rc M _ s f t (ShA.mk (hX.ints ha) (hX.ints hb)) (by omega) ⟨by have := hg.l1; omega, hg.l8⟩) ?_
              rintro r n2 ⟨rfl, nr2⟩
              cases hu : usB s.life f t with
              | false =>
                simp (config := {implicitDefEqProofs := false, maxDischargeDepth := 20}) (disch := first | omega | (simp only [lenE]; done) | (simp only [lenE]; omega) | rfl | (simp only [lenE, markR_len]; done) | (simp only [lenE, markR_len]; omega)) only [runE, mapE, listE, initT_5, initT_6, initT_7, initT_8, resV, oneV, binA, unA, reduceCtorEq, Nat.reduceEqDiff, Nat.reduceAdd, Nat.reduceLT, Nat.reduceLeDiff, Nat.reduceMul, Nat.reduceSub, ↓reduceIte, decide_true, decide_false, Bool.true_eq_false, Bool.false_eq_true, Bool.not_true, Bool.not_false, if_true, if_false, and_true, true_and, memE, celE, w64, Nat.zero_add, Nat.add_zero, Nat.mul_one, putL, and_self, ldn]
                refine no _ (hX.app nr2) fun hq => ?_
                have := (key.1 (hq.2.1 t hln)).2.2 f hfl hp
                rw [hu] at this; cases this
              | true =>
                simp (config := {implicitDefEqProofs := false, maxDischargeDepth := 20}) (disch := first | omega | (simp only [lenE]; done) | (simp only [lenE]; omega) | rfl | (simp only [lenE, markR_len]; done) | (simp only [lenE, markR_len]; omega)) only [runE, mapE, listE, initT_5, initT_6, initT_7, initT_8, resV, oneV, binA, unA, reduceCtorEq, Nat.reduceEqDiff, Nat.reduceAdd, Nat.reduceLT, Nat.reduceLeDiff, Nat.reduceMul, Nat.reduceSub, ↓reduceIte, decide_true, decide_false, Bool.true_eq_false, Bool.false_eq_true, Bool.not_true, Bool.not_false, if_true, if_false, and_true, true_and, memE, celE, w64, Nat.zero_add, Nat.add_zero, Nat.mul_one, putL, and_self, ldn, tm, t1, t2, t5, t6, t7]
                refine ⟨⟨f + 1, M ++ n2, by omega, rfl, hX.app nr2, o1.ext _, fun q hq hp2 => ?_, by simp⟩, ?_⟩
                · by_cases e : q = f
                  · subst e; exact hu
                  · exact hus q (by omega) hp2
                · simp [intOf]; omega
            · simp (config := {implicitDefEqProofs := false, maxDischargeDepth := 20}) (disch := first | omega | (simp only [lenE]; done) | (simp only [lenE]; omega) | rfl | (simp only [lenE, markR_len]; done) | (simp only [lenE, markR_len]; omega)) only [runE, mapE, listE, initT_5, initT_6, initT_7, initT_8, resV, oneV, binA, unA, reduceCtorEq, Nat.reduceEqDiff, Nat.reduceAdd, Nat.reduceLT, Nat.reduceLeDiff, Nat.reduceMul, Nat.reduceSub, ↓reduceIte, decide_true, decide_false, Bool.true_eq_false, Bool.false_eq_true, Bool.not_true, Bool.not_false, if_true, if_false, and_true, true_and, memE, celE, w64, Nat.zero_add, Nat.add_zero, Nat.mul_one, putL, and_self, ldn, tm, t1, t2, t5, t6, t7, hfl', hTM.at_ t hlt, w1, wi.at_ f (by omega), wi.ld f (by omega), hp, gt_iff_lt]
              refine ⟨⟨f + 1, M, by omega, rfl, hX, o1, fun q hq hp2 => ?_, by simp⟩, ?_⟩
              · by_cases e : q = f
                · subst e; exact absurd hp2 hp
                · exact hus q (by omega) hp2
              · simp [intOf]; omega
          · have hfl' : ¬ ((f : Int) < s.need.length) := by omega
            simp (config := {implicitDefEqProofs := false, maxDischargeDepth := 20}) (disch := first | omega | (simp only [lenE]; done) | (simp only [lenE]; omega) | rfl | (simp only [lenE, markR_len]; done) | (simp only [lenE, markR_len]; omega)) only [runE, mapE, listE, initT_5, initT_6, initT_7, initT_8, resV, oneV, binA, unA, reduceCtorEq, Nat.reduceEqDiff, Nat.reduceAdd, Nat.reduceLT, Nat.reduceLeDiff, Nat.reduceMul, Nat.reduceSub, ↓reduceIte, decide_true, decide_false, Bool.true_eq_false, Bool.false_eq_true, Bool.not_true, Bool.not_false, if_true, if_false, and_true, true_and, memE, celE, w64, Nat.zero_add, Nat.add_zero, Nat.mul_one, putL, and_self, ldn, tm, t1, t2, t5, t6, t7, hfl']
            refine ⟨⟨t + 1, M, by omega, by omega, rfl, hX, o1, fun r hr => ?_, by simp⟩, ?_⟩
            · by_cases e : r = t
              · subst e
                exact key.2 ⟨b1, by omega, fun q hq => hus q (by omega)⟩
              · exact hall r (by omega)
            · simp [intOf]; omega
    · have hln' : ¬ ((t : Int) < s.need.length) := by omega
      have hne : ((T.length : Int) != (s.need.length : Int)) = true := by rw [bne_iff_ne]; omega
      simp (config := {implicitDefEqProofs := false, maxDischargeDepth := 20}) (disch := first | omega | (simp only [lenE]; done) | (simp only [lenE]; omega) | rfl | (simp only [lenE, markR_len]; done) | (simp only [lenE, markR_len]; omega)) only [runE, mapE, listE, initT_5, initT_6, initT_7, initT_8, resV, oneV, binA, unA, reduceCtorEq, Nat.reduceEqDiff, Nat.reduceAdd, Nat.reduceLT, Nat.reduceLeDiff, Nat.reduceMul, Nat.reduceSub, ↓reduceIte, decide_true, decide_false, Bool.true_eq_false, Bool.false_eq_true, Bool.not_true, Bool.not_false, if_true, if_false, and_true, true_and, memE, celE, w64, Nat.zero_add, Nat.add_zero, Nat.mul_one, putL, and_self, ldn, tm, t1, t2, t5, t6, hTM.len, hlt', hln', hne]
      exact no _ hX fun hq => absurd hq.1 (by omega)
  · have hlt' : ¬ ((t : Int) < T.length) := by omega
    by_cases hln : T.length = s.need.length
    · have hne : ((T.length : Int) != (s.need.length : Int)) = false := by rw [hln]; exact bne_self_eq_false _
      have et : t = s.need.length := by omega
      subst et
      simp (config := {implicitDefEqProofs := false, maxDischargeDepth := 20}) (disch := first | omega | (simp only [lenE]; done) | (simp only [lenE]; omega) | rfl | (simp only [lenE, markR_len]; done) | (simp only [lenE, markR_len]; omega)) only [runE, mapE, listE, initT_5, initT_6, initT_7, initT_8, resV, oneV, binA, unA, reduceCtorEq, Nat.reduceEqDiff, Nat.reduceAdd, Nat.reduceLT, Nat.reduceLeDiff, Nat.reduceMul, Nat.reduceSub, ↓reduceIte, decide_true, decide_false, Bool.true_eq_false, Bool.false_eq_true, Bool.not_true, Bool.not_false, if_true, if_false, and_true, true_and, memE, celE, w64, Nat.zero_add, Nat.add_zero, Nat.mul_one, putL, and_self, ldn, tm, t1, t2, t5, t6, hTM.len, hlt', hne]
      refine loop_inv mixed (fun s' => ∃ (f : Nat) (M : Mem), f ≤ s.need.length ∧ s'.m = M ∧ Ext m M ∧ OwnB M m.length 26 [.int .i64 s.life, a, b, .int .i64 s.waste, .int .i64 s.lost] ∧ (∀ q, q < f → colT T q s.need.length ≤ s.arr.getD q 0) ∧
          s'.t 1 = vt ∧ s'.t 2 = .pointer (some ⟨m.length, 0, none⟩) ∧ s'.t 5 = .int .i64 (s.need.length : Int) ∧ s'.t 8 = .int .i64 (f : Int)) (fun s' => s.need.length - (intOf (s'.t 8)).toNat)
        ⟨0, M, by omega, tm, hX, o1, fun q hq => absurd hq (by omega), t1, t2, t5, rfl⟩ ?_
      clear tm hX o1 hTM t1 t2 t5 t6
      rintro s' ⟨f, M, hf, tm, hX, o1, hcol, t1, t2, t5, t8⟩
      have hTM := TabA.xt hT hX
      by_cases hfl : f < s.need.length
      · have hfl' : (f : Int) < s.need.length := by omega
        have xa := hX.ints ha
        simp (config := {implicitDefEqProofs := false, maxDischargeDepth := 20}) (disch := first | omega | (simp only [lenE]; done) | (simp only [lenE]; omega) | rfl | (simp only [lenE, markR_len]; done) | (simp only [lenE, markR_len]; omega)) only [runE, mapE, listE, initT_5, initT_6, initT_7, initT_8, resV, oneV, binA, unA, reduceCtorEq, Nat.reduceEqDiff, Nat.reduceAdd, Nat.reduceLT, Nat.reduceLeDiff, Nat.reduceMul, Nat.reduceSub, ↓reduceIte, decide_true, decide_false, Bool.true_eq_false, Bool.false_eq_true, Bool.not_true, Bool.not_false, if_true, if_false, and_true, true_and, memE, celE, w64, Nat.zero_add, Nat.add_zero, Nat.mul_one, putL, and_self, ldn, tm, t1, t2, t5, t8, hfl', o1.rd, xa.at_ f (by omega), xa.ld f (by omega)]
        refine rcallH_rc (column_rc M vt T f hTM (fun t ht => by rw [(hall t (by omega)).1]; exact hfl) (fun t ht => ?_) (by omega)) ?_
        · have k1 := (rowB_iff.1 ((irow_iff hg (by omega)).1 (hall t (by omega))).1).1
          have := memD9 k1 (k := f) (by rw [(hall t (by omega)).1]; exact hfl)
          omega
        rintro r new ⟨rfl, rfl⟩
        rw [hln]
        by_cases hc : s.arr.getD f 0 < colT T f s.need.length
        · simp (config := {implicitDefEqProofs := false, maxDischargeDepth := 20}) (disch := first | omega | (simp only [lenE]; done) | (simp only [lenE]; omega) | rfl | (simp only [lenE, markR_len]; done) | (simp only [lenE, markR_len]; omega)) only [runE, mapE, listE, initT_5, initT_6, initT_7, initT_8, resV, oneV, binA, unA, reduceCtorEq, Nat.reduceEqDiff, Nat.reduceAdd, Nat.reduceLT, Nat.reduceLeDiff, Nat.reduceMul, Nat.reduceSub, ↓reduceIte, decide_true, decide_false, Bool.true_eq_false, Bool.false_eq_true, Bool.not_true, Bool.not_false, if_true, if_false, and_true, true_and, memE, celE, w64, Nat.zero_add, Nat.add_zero, Nat.mul_one, putL, and_self, ldn, hc, gt_iff_lt]
          exact no _ hX fun hq => absurd (hq.2.2 f hfl) (by omega)
        · simp (config := {implicitDefEqProofs := false, maxDischargeDepth := 20}) (disch := first | omega | (simp only [lenE]; done) | (simp only [lenE]; omega) | rfl | (simp only [lenE, markR_len]; done) | (simp only [lenE, markR_len]; omega)) only [runE, mapE, listE, initT_5, initT_6, initT_7, initT_8, resV, oneV, binA, unA, reduceCtorEq, Nat.reduceEqDiff, Nat.reduceAdd, Nat.reduceLT, Nat.reduceLeDiff, Nat.reduceMul, Nat.reduceSub, ↓reduceIte, decide_true, decide_false, Bool.true_eq_false, Bool.false_eq_true, Bool.not_true, Bool.not_false, if_true, if_false, and_true, true_and, memE, celE, w64, Nat.zero_add, Nat.add_zero, Nat.mul_one, putL, and_self, ldn, tm, t1, t2, t5, t8, hc, gt_iff_lt]
          refine ⟨⟨f + 1, M, by omega, rfl, hX, o1, fun q hq => ?_, by simp⟩, ?_⟩
          · by_cases e : q = f
            · subst e; omega
            · exact hcol q (by omega)
          · simp [intOf]; omega
      · have hfl' : ¬ ((f : Int) < s.need.length) := by omega
        have e : f = s.need.length := by omega
        subst e
        simp (config := {implicitDefEqProofs := false, maxDischargeDepth := 20}) (disch := first | omega | (simp only [lenE]; done) | (simp only [lenE]; omega) | rfl | (simp only [lenE, markR_len]; done) | (simp only [lenE, markR_len]; omega)) only [runE, mapE, listE, initT_5, initT_6, initT_7, initT_8, resV, oneV, binA, unA, reduceCtorEq, Nat.reduceEqDiff, Nat.reduceAdd, Nat.reduceLT, Nat.reduceLeDiff, Nat.reduceMul, Nat.reduceSub, ↓reduceIte, decide_true, decide_false, Bool.true_eq_false, Bool.false_eq_true, Bool.not_true, Bool.not_false, if_true, if_false, and_true, true_and, memE, celE, w64, Nat.zero_add, Nat.add_zero, Nat.mul_one, putL, and_self, ldn, tm, t1, t2, t5, t8, hfl']
        refine ext_ansV hX ?_
        rw [Sh.issB, decide_eq_true (⟨hln, hall, hcol⟩ : T.length = s.need.length ∧ irows s T s.need.length)]
    · have hne : ((T.length : Int) != (s.need.length : Int)) = true := by rw [bne_iff_ne]; omega
      simp (config := {implicitDefEqProofs := false, maxDischargeDepth := 20}) (disch := first | omega | (simp only [lenE]; done) | (simp only [lenE]; omega) | rfl | (simp only [lenE, markR_len]; done) | (simp only [lenE, markR_len]; omega)) only [runE, mapE, listE, initT_5, initT_6, initT_7, initT_8, resV, oneV, binA, unA, reduceCtorEq, Nat.reduceEqDiff, Nat.reduceAdd, Nat.reduceLT, Nat.reduceLeDiff, Nat.reduceMul, Nat.reduceSub, ↓reduceIte, decide_true, decide_false, Bool.true_eq_false, Bool.false_eq_true, Bool.not_true, Bool.not_false, if_true, if_false, and_true, true_and, memE, celE, w64, Nat.zero_add, Nat.add_zero, Nat.mul_one, putL, and_self, ldn, tm, t1, t2, t5, t6, hTM.len, hlt', hne]
      exact no _ hX fun hq => absurd hq.1 hln
theorem l9Two_rc (m : Mem) (v vt : Value) (s : Sh) (T : List (List Int)) (h : ShA m v s) (hT : TabA m vt T) :
    RC Try.prog 49 [v, vt] m (AnsV (.bool (two9 s T))) := by
  refine rc_of_run mixed ok_spec_l9Two (by simp) (go_start _ _ _ ?_)
  obtain ⟨a, b, rfl, ha, hb⟩ := h.ro
  have hX := (Ext.refl m).one 26 [.int .i64 s.life, a, b, .int .i64 s.waste, .int .i64 s.lost]
  simp (config := {implicitDefEqProofs := false, maxDischargeDepth := 20}) (disch := first | omega | (simp only [lenE]; done) | (simp only [lenE]; omega) | rfl | (simp only [lenE, markR_len]; done) | (simp only [lenE, markR_len]; omega)) only [runE, mapE, listE, initT_5, initT_6, initT_7, initT_8, resV, oneV, binA, unA, reduceCtorEq, Nat.reduceEqDiff, Nat.reduceAdd, Nat.reduceLT, Nat.reduceLeDiff, Nat.reduceMul, Nat.reduceSub, ↓reduceIte, decide_true, decide_false, Bool.true_eq_false, Bool.false_eq_true, Bool.not_true, Bool.not_false, if_true, if_false, and_true, true_and, memE, celE, w64, Nat.zero_add, Nat.add_zero, Nat.mul_one, putL, and_self, ldn, c_spec_l9Two, r_spec_l9Two]
  obtain ⟨M0, hM0⟩ : ∃ M0, M0 = roM m ++ [⟨.own, 26, [.int .i64 s.life, a, b, .int .i64 s.waste, .int .i64 s.lost]⟩] := ⟨_, rfl⟩
  have o1 : OwnB M0 m.length 26 [.int .i64 s.life, a, b, .int .i64 s.waste, .int .i64 s.lost] := by rw [hM0]; exact OwnB.here (by simp [roM_len])
  rw [← hM0] at hX ⊢
  refine callH_rc (l9Good_rc _ _ s (ShA.mk (hX.ints ha) (hX.ints hb))) ?_
  rintro r n1 ⟨rfl, nr1⟩
  cases hg : s.good with
  | false =>
    simp (config := {implicitDefEqProofs := false, maxDischargeDepth := 20}) (disch := first | omega | (simp only [lenE]; done) | (simp only [lenE]; omega) | rfl | (simp only [lenE, markR_len]; done) | (simp only [lenE, markR_len]; omega)) only [runE, mapE, listE, initT_5, initT_6, initT_7, initT_8, resV, oneV, binA, unA, reduceCtorEq, Nat.reduceEqDiff, Nat.reduceAdd, Nat.reduceLT, Nat.reduceLeDiff, Nat.reduceMul, Nat.reduceSub, ↓reduceIte, decide_true, decide_false, Bool.true_eq_false, Bool.false_eq_true, Bool.not_true, Bool.not_false, if_true, if_false, and_true, true_and, memE, celE, w64, Nat.zero_add, Nat.add_zero, Nat.mul_one, putL, and_self, ldn]
    exact ext_ansV (hX.app nr1) (by simp [two9, hg])
  | true =>
    simp (config := {implicitDefEqProofs := false, maxDischargeDepth := 20}) (disch := first | omega | (simp only [lenE]; done) | (simp only [lenE]; omega) | rfl | (simp only [lenE, markR_len]; done) | (simp only [lenE, markR_len]; omega)) only [runE, mapE, listE, initT_5, initT_6, initT_7, initT_8, resV, oneV, binA, unA, reduceCtorEq, Nat.reduceEqDiff, Nat.reduceAdd, Nat.reduceLT, Nat.reduceLeDiff, Nat.reduceMul, Nat.reduceSub, ↓reduceIte, decide_true, decide_false, Bool.true_eq_false, Bool.false_eq_true, Bool.not_true, Bool.not_false, if_true, if_false, and_true, true_and, memE, celE, w64, Nat.zero_add, Nat.add_zero, Nat.mul_one, putL, and_self, ldn, (o1.ext n1).rd]
    refine callH_rc (l9Issue_rc _ _ vt s T (ShA.mk ((hX.app nr1).ints ha) ((hX.app nr1).ints hb)) (TabA.xt hT (hX.app nr1)) (goodSh_iff.1 hg)) ?_
    rintro r n2 ⟨rfl, nr2⟩
    simp (config := {implicitDefEqProofs := false, maxDischargeDepth := 20}) (disch := first | omega | (simp only [lenE]; done) | (simp only [lenE]; omega) | rfl | (simp only [lenE, markR_len]; done) | (simp only [lenE, markR_len]; omega)) only [runE, mapE, listE, initT_5, initT_6, initT_7, initT_8, resV, oneV, binA, unA, reduceCtorEq, Nat.reduceEqDiff, Nat.reduceAdd, Nat.reduceLT, Nat.reduceLeDiff, Nat.reduceMul, Nat.reduceSub, ↓reduceIte, decide_true, decide_false, Bool.true_eq_false, Bool.false_eq_true, Bool.not_true, Bool.not_false, if_true, if_false, and_true, true_and, memE, celE, w64, Nat.zero_add, Nat.add_zero, Nat.mul_one, putL, and_self, ldn]
    exact ext_ansV ((hX.app nr1).app nr2) (by simp [two9, hg])
end Go.Proofs.Ytdgfbmilbhckiaa.Ab
end
section
namespace Go.Proofs.Ytdgfbmilbhckiaa.Ab
open Go Go.RowKit
set_option linter.unusedVariables false
set_option linter.unusedSimpArgs false
theorem VR.nilRow9 {ρ : Places} {id : Nat} {p : Nat × Nat × Nat} (h : ρ[id]? = some p) : VR ρ (.slice (some ⟨id, 0, none⟩) 0 0) (.slice none 0 0) := by
  obtain ⟨b, o, t⟩ := p
  exact .sl h (Nat.le_refl _) (by unfold maxLen; omega) (fun _ h => absurd h (by omega)) (fun h => absurd h (by omega))
theorem rc_nilRow9 {P : Program} {f : FuncId} {args : List Value} {m : Mem} {Q : Value → Mem → Prop} {ok : Bool} {p : Prop} (h : RC P f args m fun r new => Q r new ∨ (p ∧ NoRo new ∧ r = .tuple #[.slice none 0 0, .bool ok]))
    (hq : ∀ new, p → NoRo new → Q (.tuple #[.slice (some ⟨m.length + new.length, 0, none⟩) 0 0, .bool ok]) (new ++ [⟨.own, 3, []⟩])) : RC P f args m Q := by
  refine ⟨h.1, fun ρ w cargs hm hv => (h.2 ρ w cargs hm hv).mono ?_⟩
  rintro e w' ⟨v, v', new, ρn, he, hQ | ⟨hp, hn, rfl⟩, hnn, hm2, hvr⟩
  · exact ⟨v, v', new, ρn, he, hQ, hnn, hm2, hvr⟩
  have hm3 := hm2.add (e := 3) (xs := []) (g := 0) (tot := 0) (by simp) (fun h => absurd h (by omega)) (fun h => absurd h (by omega))
  refine ⟨_, v', new ++ [⟨.own, 3, []⟩], ρn ++ [(0, 0, 0)], he, hq new hp hn, noRo_app hn (noRo_own noRo_nil), ?_, ?_⟩
  · rw [← List.append_assoc, ← List.append_assoc]; exact hm3
  · have hlen : (ρ ++ ρn).length = m.length + new.length := by rw [hm2.len]; simp [roM_len]
    rw [← List.append_assoc]
    cases hvr with
    | tup hs hh =>
      rename_i ds
      refine .tup (by simpa using hs) fun i x y hx hy => ?_
      match i with
      | 0 =>
        have h0 := hh 0 (.slice none 0 0) y rfl hy
        simp at hx
        subst hx
        cases h0
        exact VR.nilRow9 (p := (0, 0, 0)) (by rw [← hlen]; simp)
      | 1 =>
        have h1 := hh 1 (.bool ok) y rfl hy
        simp at hx
        subst hx
        cases h1
        exact .bool _
      | i + 2 => simp at hx
theorem nilRow_ans {m new : Mem} {ok : Bool} (hn : NoRo new) : AnsO m (IntsO []) (fun v => .tuple #[v, .bool ok]) (.tuple #[.slice (some ⟨m.length + new.length, 0, none⟩) 0 0, .bool ok]) (new ++ [⟨.own, 3, []⟩]) := by
  refine ⟨noRo_app hn (noRo_own noRo_nil), _, rfl, by omega, by simp, fun m' hm => ⟨by simp, m.length + new.length, 0, rfl, by omega, by simp, ?_⟩⟩
  have := hm (m.length + new.length) (by omega) (by simp)
  unfold OwnR
  rw [this, ← List.append_assoc, List.getElem?_append_right (by simp)]
  simp
end Go.Proofs.Ytdgfbmilbhckiaa.Ab
end
section
namespace Go.Proofs.Ytdgfbmilbhckiaa.Ab
open Go Go.RowKit
set_option linter.unusedVariables false
set_option linter.unusedSimpArgs false
theorem leftArr_len (s : Sh) (T : List (List Int)) (k : Nat) : (leftArr s T k).length = s.need.length := by simp [leftArr]
theorem leftArr_at {s : Sh} {T : List (List Int)} {k f : Nat} (h : f < s.need.length) : (leftArr s T k).getD f 0 = s.arr.getD f 0 - colT T f k := by rw [leftArr, mapD9 h]
structure Iss (s : Sh) (T : List (List Int)) : Prop where
  g : GoodSh s
  l : T.length = s.need.length
  len : ∀ t, t < T.length → (T.getD t []).length = s.need.length
  bd : ∀ t f, t < T.length → f < s.need.length → 0 ≤ (T.getD t []).getD f 0 ∧ (T.getD t []).getD f 0 ≤ 20
  sum : ∀ t, t < T.length → ∀ k, 0 ≤ sumTo (T.getD t []) k ∧ sumTo (T.getD t []) k ≤ 20 * k
  la : ∀ x ∈ leftArr s T T.length, 0 ≤ x ∧ x ≤ 20
  ln : ∀ x ∈ leftNeed s T T.length, 0 ≤ x ∧ x ≤ 20
theorem iss_of {s : Sh} {T : List (List Int)} (h : two9 s T = true) : Iss s T := by
  obtain ⟨g, l, hr⟩ := two9_iff.1 h
  have row : ∀ t, t < T.length → Go.Proofs.Ytdgfbmilbhckiaa.rowB (T.getD t []) s.need.length 20 = true := fun t ht => ((irow_iff g (by omega)).1 (hr.1 t (by omega))).1
  refine ⟨g, l, fun t ht => (hr.1 t (by omega)).1, fun t f ht hf => memD9 (rowB_iff.1 (row t ht)).1 (by rw [(rowB_iff.1 (row t ht)).2]; exact hf), fun t ht k => sumTo_bound (by omega) (rowB_iff.1 (row t ht)).1 k, ?_, ?_⟩
  · rw [l]; exact (left_bd g hr).1
  · rw [l]; exact (left_bd g hr).2
end Go.Proofs.Ytdgfbmilbhckiaa.Ab
end
section
namespace Go.Proofs.Ytdgfbmilbhckiaa.Ab
open Go Go.RowKit
set_option linter.unusedVariables false
set_option linter.unusedSimpArgs false
theorem TabA.take9 {m : Mem} {T : List (List Int)} {id fl fl' k : Nat} (h : TabA m (.slice (some ⟨id, 0, none⟩) T.length fl) T) (hk : k ≤ T.length) : TabA m (.slice (some ⟨id, 0, none⟩) k fl') (T.take k) := by
  have hl : (T.take k).length = k := by rw [List.length_take]; omega
  have hb := h.bd
  refine ⟨by rw [hl]; rfl, by omega, fun j hj => ?_, fun j hj => ?_, id, fl', by rw [hl]⟩
  · simp only [iadA, pAt, Int.toNat_natCast, Nat.mul_one]
    rw [if_pos (by omega)]
  · obtain ⟨u, h1, h2⟩ := h.ld j (by omega)
    refine ⟨u, h1, ?_⟩
    have e : (T.take k).getD j [] = T.getD j [] := by
      rw [List.getD_eq_getElem?_getD, List.getElem?_take, if_pos (by omega), ← List.getD_eq_getElem?_getD]
    rw [e]; exact h2
theorem slc_pre9 {id n fl k : Nat} {z : Int} (hz : z = k) (hk : k ≤ n) : slcA 1 (.slice (some ⟨id, 0, none⟩) n fl) none (some (.int .i64 z)) = some (.slice (some ⟨id, 0, none⟩) k fl) := by
  subst hz
  simp [slcA, boundA, hk]
theorem take_row {T : List (List Int)} {k j : Nat} (hj : j < k) : (T.take k).getD j [] = T.getD j [] := by
  rw [List.getD_eq_getElem?_getD, List.getElem?_take, if_pos hj, ← List.getD_eq_getElem?_getD]
theorem col_take {T : List (List Int)} {f k : Nat} : ∀ j, j ≤ k → colT (T.take k) f j = colT T f j := by
  intro j
  induction j with
  | zero => intro _; rfl
  | succ j ih =>
    intro hj
    simp only [colT]
    rw [ih (by omega), take_row (by omega)]
theorem irows_take {s : Sh} {T : List (List Int)} {k n : Nat} (h : irows s T n) (hk : k ≤ n) : irows s (T.take k) k := by
  refine ⟨fun t ht => ?_, fun f hf => ?_⟩
  · have := h.1 t (by omega)
    unfold irow at this ⊢
    rw [take_row ht]; exact this
  · rw [col_take k (Nat.le_refl _)]
    exact Int.le_trans (col_mono h.1 hf hk (Nat.le_refl _)) (h.2 f hf)
def ageOk (s : Sh) (T : List (List Int)) (t : Int) : Bool := two9 s T && (decide (0 ≤ t) && decide (t ≤ (T.length : Int) - 1))
def ageTo (s : Sh) (T : List (List Int)) (t k : Nat) : List Int := (List.range k).map fun age => if t < age then 0 else s.arr.getD (t - age) 0 - colT T (t - age) (t + 1)
theorem ageTo_s (s : Sh) (T : List (List Int)) (t k : Nat) : ageTo s T t (k + 1) = ageTo s T t k ++ [if t < k then 0 else s.arr.getD (t - k) 0 - colT T (t - k) (t + 1)] := by simp [ageTo, List.range_succ]
theorem ageTo_len (s : Sh) (T : List (List Int)) (t k : Nat) : (ageTo s T t k).length = k := by simp [ageTo]
def ageA (s : Sh) (T : List (List Int)) (t : Int) : List Int := if ageOk s T t then ageTo s T t.toNat (s.life - 1).toNat else []
theorem specByAge_rc (m : Mem) (v vt : Value) (s : Sh) (T : List (List Int)) (z : Int) (h : ShA m v s) (hT : TabA m vt T) :
    RC Try.prog 31 [v, vt, .int .i64 z] m (AnsO m (IntsO (ageA s T z)) fun v => .tuple #[v, .bool (ageOk s T z)]) := by
  refine rc_of_run mixed ok_spec_StockByAge (by simp) (go_start _ _ _ ?_)
  obtain ⟨a, b, rfl, ha, hb⟩ := h.ro
  have hX := ((Ext.refl m).one 26 [.int .i64 s.life, a, b, .int .i64 s.waste, .int .i64 s.lost]).one 3 []
  simp (config := {implicitDefEqProofs := false, maxDischargeDepth := 20}) (disch := first | omega | (simp only [lenE]; done) | (simp only [lenE]; omega) | rfl | (simp only [lenE, markR_len]; done) | (simp only [lenE, markR_len]; omega)) only [runE, mapE, listE, initT_5, initT_6, initT_7, initT_8, resV, oneV, binA, unA, reduceCtorEq, Nat.reduceEqDiff, Nat.reduceAdd, Nat.reduceLT, Nat.reduceLeDiff, Nat.reduceMul, Nat.reduceSub, ↓reduceIte, decide_true, decide_false, Bool.true_eq_false, Bool.false_eq_true, Bool.not_true, Bool.not_false, if_true, if_false, and_true, true_and, memE, celE, w64, Nat.zero_add, Nat.add_zero, Nat.mul_one, putL, and_self, ldn, c_spec_StockByAge, r_spec_StockByAge, bsl_no]
  obtain ⟨M0, hM0⟩ : ∃ M0, M0 = roM m ++ [⟨.own, 26, [.int .i64 s.life, a, b, .int .i64 s.waste, .int .i64 s.lost]⟩] ++ [⟨.own, 3, []⟩] := ⟨_, rfl⟩
  have o1 : OwnB M0 m.length 26 [.int .i64 s.life, a, b, .int .i64 s.waste, .int .i64 s.lost] := by rw [hM0]; exact (OwnB.here (by simp [roM_len])).ext _
  have r1 : OwnR M0 (m.length + 1) [] := by rw [hM0]; exact OwnR.end' (l := []) (by simp [roM_len])
  rw [← hM0] at hX ⊢
  refine callH_rc (l9Two_rc _ _ vt s T (ShA.mk (hX.ints ha) (hX.ints hb)) (TabA.xt hT hX)) ?_
  rintro r n1 ⟨rfl, nr1⟩
  replace hX := hX.app nr1
  replace o1 := o1.ext n1
  replace r1 := r1.ext n1
  obtain ⟨M1, hM1⟩ : ∃ M1, M1 = M0 ++ n1 := ⟨_, rfl⟩
  rw [← hM1] at hX o1 r1 ⊢
  have no : ageOk s T z = false → newQ m (AnsO m (IntsO (ageA s T z)) fun v => .tuple #[v, .bool (ageOk s T z)]) (.tuple #[.slice (some ⟨m.length + 1, 0, none⟩) 0 1, .bool false]) M1 := fun e => by
    unfold ageA
    rw [e]
    refine ext_ansO (f := fun v => .tuple #[v, .bool false]) hX fun M' hM => ?_
    exact IntsA.ownO (l := []) (fl := 1) (r1.at_ (hM _ (by omega) r1.lt)) (by simp) (by omega) r1.lt
  cases h2 : two9 s T with
  | false =>
    simp (config := {implicitDefEqProofs := false, maxDischargeDepth := 20}) (disch := first | omega | (simp only [lenE]; done) | (simp only [lenE]; omega) | rfl | (simp only [lenE, markR_len]; done) | (simp only [lenE, markR_len]; omega)) only [runE, mapE, listE, initT_5, initT_6, initT_7, initT_8, resV, oneV, binA, unA, reduceCtorEq, Nat.reduceEqDiff, Nat.reduceAdd, Nat.reduceLT, Nat.reduceLeDiff, Nat.reduceMul, Nat.reduceSub, ↓reduceIte, decide_true, decide_false, Bool.true_eq_false, Bool.false_eq_true, Bool.not_true, Bool.not_false, if_true, if_false, and_true, true_and, memE, celE, w64, Nat.zero_add, Nat.add_zero, Nat.mul_one, putL, and_self, ldn]
    exact no (by simp [ageOk, h2])
  | true =>
    have hI := iss_of h2
    have n8 := hI.g.n8
    have hl := hI.l
    have l8 := hI.g.l8
    have l1 := hI.g.l1
    simp (config := {implicitDefEqProofs := false, maxDischargeDepth := 20}) (disch := first | omega | (simp only [lenE]; done) | (simp only [lenE]; omega) | rfl | (simp only [lenE, markR_len]; done) | (simp only [lenE, markR_len]; omega)) only [runE, mapE, listE, initT_5, initT_6, initT_7, initT_8, resV, oneV, binA, unA, reduceCtorEq, Nat.reduceEqDiff, Nat.reduceAdd, Nat.reduceLT, Nat.reduceLeDiff, Nat.reduceMul, Nat.reduceSub, ↓reduceIte, decide_true, decide_false, Bool.true_eq_false, Bool.false_eq_true, Bool.not_true, Bool.not_false, if_true, if_false, and_true, true_and, memE, celE, w64, Nat.zero_add, Nat.add_zero, Nat.mul_one, putL, and_self, ldn, (TabA.xt hT hX).len]
    refine callH_rc (l1In_rc _ _ _ _) ?_
    rintro r new ⟨rfl, rfl⟩
    cases h3 : (decide (0 ≤ z) && decide (z ≤ (T.length : Int) - 1)) with
    | false =>
      simp (config := {implicitDefEqProofs := false, maxDischargeDepth := 20}) (disch := first | omega | (simp only [lenE]; done) | (simp only [lenE]; omega) | rfl | (simp only [lenE, markR_len]; done) | (simp only [lenE, markR_len]; omega)) only [runE, mapE, listE, initT_5, initT_6, initT_7, initT_8, resV, oneV, binA, unA, reduceCtorEq, Nat.reduceEqDiff, Nat.reduceAdd, Nat.reduceLT, Nat.reduceLeDiff, Nat.reduceMul, Nat.reduceSub, ↓reduceIte, decide_true, decide_false, Bool.true_eq_false, Bool.false_eq_true, Bool.not_true, Bool.not_false, if_true, if_false, and_true, true_and, memE, celE, w64, Nat.zero_add, Nat.add_zero, Nat.mul_one, putL, and_self, ldn]
      exact no (by simp [ageOk, h3])
    | true =>
      have h3' : 0 ≤ z ∧ z ≤ (T.length : Int) - 1 := by simpa using h3
      have eok : ageOk s T z = true := by simp [ageOk, h2, h3]
      unfold ageA
      rw [eok, if_pos rfl]
      obtain ⟨t, rfl⟩ : ∃ t : Nat, z = t := ⟨z.toNat, by omega⟩
      obtain ⟨L, hL⟩ : ∃ L : Nat, s.life = (L : Int) + 1 := ⟨(s.life - 1).toNat, by omega⟩
      have eL : (s.life - 1).toNat = L := by omega
      rw [eL, Int.toNat_natCast]
      simp (config := {implicitDefEqProofs := false, maxDischargeDepth := 20}) (disch := first | omega | (simp only [lenE]; done) | (simp only [lenE]; omega) | rfl | (simp only [lenE, markR_len]; done) | (simp only [lenE, markR_len]; omega)) only [runE, mapE, listE, initT_5, initT_6, initT_7, initT_8, resV, oneV, binA, unA, reduceCtorEq, Nat.reduceEqDiff, Nat.reduceAdd, Nat.reduceLT, Nat.reduceLeDiff, Nat.reduceMul, Nat.reduceSub, ↓reduceIte, decide_true, decide_false, Bool.true_eq_false, Bool.false_eq_true, Bool.not_true, Bool.not_false, if_true, if_false, and_true, true_and, memE, celE, w64, Nat.zero_add, Nat.add_zero, Nat.mul_one, putL, and_self, ldn]
      refine loop_inv mixed (fun s' => ∃ (k : Nat) (M : Mem) (id : Nat), k ≤ L ∧ s'.m = M ∧ Ext m M ∧ OwnB M m.length 26 [.int .i64 s.life, a, b, .int .i64 s.waste, .int .i64 s.lost] ∧ m.length < id ∧ OwnR M id (ageTo s T t k) ∧ s'.t 1 = vt ∧ s'.t 2 = .int .i64 (t : Int) ∧ s'.t 3 = .pointer (some ⟨m.length, 0, none⟩) ∧ s'.t 8 = .slice (some ⟨id, 0, none⟩) k 1 ∧ s'.t 9 = .int .i64 (k : Int)) (fun s' => L - (intOf (s'.t 9)).toNat)
        ⟨0, M1, m.length + 1, by omega, rfl, hX, o1, by omega, r1, rfl, rfl, rfl, rfl, rfl⟩ ?_
      rintro s' ⟨k, M, id, hk, tm, hX, o1, hid, r1, t1, t2, t3, t8, t9⟩
      have hTM := TabA.xt hT hX
      by_cases hlt : k < L
      · have hlt' : (k : Int) < s.life - 1 := by omega
        have hidl := r1.lt
        by_cases hneg : (t : Int) - k < 0
        · have happ := app_num (x := 0) (id2 := M.length) (n := k) r1 (by rw [ageTo_len]; omega) rfl (by rw [ageTo_len])
          simp (config := {implicitDefEqProofs := false, maxDischargeDepth := 20}) (disch := first | omega | (simp only [lenE]; done) | (simp only [lenE]; omega) | rfl | (simp only [lenE, markR_len]; done) | (simp only [lenE, markR_len]; omega)) only [runE, mapE, listE, initT_5, initT_6, initT_7, initT_8, resV, oneV, binA, unA, reduceCtorEq, Nat.reduceEqDiff, Nat.reduceAdd, Nat.reduceLT, Nat.reduceLeDiff, Nat.reduceMul, Nat.reduceSub, ↓reduceIte, decide_true, decide_false, Bool.true_eq_false, Bool.false_eq_true, Bool.not_true, Bool.not_false, if_true, if_false, and_true, true_and, memE, celE, w64, Nat.zero_add, Nat.add_zero, Nat.mul_one, putL, and_self, ldn, tm, t1, t2, t3, t8, t9, o1.rd, hlt', hneg, bsl_one, happ]
          refine ⟨⟨k + 1, _, M.length + 1, by omega, rfl, ((hX.dead (by omega)).one _ _).one _ _, o1.at_ (same_gen (by omega) hidl), by have := hX.len; omega, ?_, rfl, by simp⟩, ?_⟩
          · rw [ageTo_s, if_pos (by omega)]
            exact OwnB.here (by simp)
          · simp [intOf]; omega
        · obtain ⟨q, hq⟩ : ∃ q : Nat, (t : Int) - k = q := ⟨t - k, by omega⟩
          have xa := hX.ints ha
          have hla := hI.g.la
          obtain ⟨tid, tfl, htv⟩ := hT.fm
          subst htv
          have hTk := hTM.take9 (k := t + 1) (fl' := tfl) (by omega)
          have hq0 : ¬ ((q : Int) < 0) := by omega
          have hsl := slc_pre9 (id := tid) (n := T.length) (fl := tfl) (z := (t : Int) + 1) (k := t + 1) (by omega) (by omega)
          simp (config := {implicitDefEqProofs := false, maxDischargeDepth := 20}) (disch := first | omega | (simp only [lenE]; done) | (simp only [lenE]; omega) | rfl | (simp only [lenE, markR_len]; done) | (simp only [lenE, markR_len]; omega)) only [runE, mapE, listE, initT_5, initT_6, initT_7, initT_8, resV, oneV, binA, unA, reduceCtorEq, Nat.reduceEqDiff, Nat.reduceAdd, Nat.reduceLT, Nat.reduceLeDiff, Nat.reduceMul, Nat.reduceSub, ↓reduceIte, decide_true, decide_false, Bool.true_eq_false, Bool.false_eq_true, Bool.not_true, Bool.not_false, if_true, if_false, and_true, true_and, memE, celE, w64, Nat.zero_add, Nat.add_zero, Nat.mul_one, putL, and_self, ldn, tm, t1, t2, t3, t8, t9, o1.rd, hlt', hq0, hq, xa.at_ q (by omega), xa.ld q (by omega), Option.map_none, hsl]
          refine rcallH_rc (column_rc M _ (T.take (t + 1)) q hTk (fun j hj => ?_) (fun j hj => ?_) (by rw [List.length_take]; omega)) ?_
          · rw [List.length_take] at hj
            rw [take_row (by omega), hI.len j (by omega)]; omega
          · rw [List.length_take] at hj
            rw [take_row (by omega)]
            have := hI.bd j q (by omega) (by omega)
            omega
          rintro r new ⟨rfl, rfl⟩
          have el : (T.take (t + 1)).length = t + 1 := by rw [List.length_take]; omega
          rw [el, col_take _ (Nat.le_refl _)]
          have ab := memD9 hI.g.arr (k := q) (by omega)
          have h9 := (two9_iff.1 h2).2.2
          have c1 := col_mono h9.1 (f := q) (by omega) (i := 0) (j := t + 1) (by omega) (by omega)
          have c2 := col_mono h9.1 (f := q) (by omega) (i := t + 1) (j := s.need.length) (by omega) (Nat.le_refl _)
          have c3 := h9.2 q (by omega)
          simp only [show colT T q 0 = 0 from rfl] at c1
          have happ := app_num (x := s.arr.getD q 0 - colT T q (t + 1)) (id2 := M.length) (n := k) r1 (by rw [ageTo_len]; omega) rfl (by rw [ageTo_len])
          simp (config := {implicitDefEqProofs := false, maxDischargeDepth := 20}) (disch := first | omega | (simp only [lenE]; done) | (simp only [lenE]; omega) | rfl | (simp only [lenE, markR_len]; done) | (simp only [lenE, markR_len]; omega)) only [runE, mapE, listE, initT_5, initT_6, initT_7, initT_8, resV, oneV, binA, unA, reduceCtorEq, Nat.reduceEqDiff, Nat.reduceAdd, Nat.reduceLT, Nat.reduceLeDiff, Nat.reduceMul, Nat.reduceSub, ↓reduceIte, decide_true, decide_false, Bool.true_eq_false, Bool.false_eq_true, Bool.not_true, Bool.not_false, if_true, if_false, and_true, true_and, memE, celE, w64, Nat.zero_add, Nat.add_zero, Nat.mul_one, putL, and_self, ldn, tm, t1, t2, t3, t8, t9, bsl_one, happ]
          refine ⟨⟨k + 1, _, M.length + 1, by omega, rfl, ((hX.dead (by omega)).one _ _).one _ _, o1.at_ (same_gen (by omega) hidl), by have := hX.len; omega, ?_, rfl, by simp⟩, ?_⟩
          · rw [ageTo_s, if_neg (by omega), show t - k = q by omega]
            exact OwnB.here (by simp)
          · simp [intOf]; omega
      · have hlt' : ¬ ((k : Int) < s.life - 1) := by omega
        have e : k = L := by omega
        subst e
        simp (config := {implicitDefEqProofs := false, maxDischargeDepth := 20}) (disch := first | omega | (simp only [lenE]; done) | (simp only [lenE]; omega) | rfl | (simp only [lenE, markR_len]; done) | (simp only [lenE, markR_len]; omega)) only [runE, mapE, listE, initT_5, initT_6, initT_7, initT_8, resV, oneV, binA, unA, reduceCtorEq, Nat.reduceEqDiff, Nat.reduceAdd, Nat.reduceLT, Nat.reduceLeDiff, Nat.reduceMul, Nat.reduceSub, ↓reduceIte, decide_true, decide_false, Bool.true_eq_false, Bool.false_eq_true, Bool.not_true, Bool.not_false, if_true, if_false, and_true, true_and, memE, celE, w64, Nat.zero_add, Nat.add_zero, Nat.mul_one, putL, and_self, ldn, tm, t1, t2, t3, t8, t9, o1.rd, hlt']
        refine ext_ansO (f := fun v => .tuple #[v, .bool true]) hX fun M' hM => ?_
        have := IntsA.ownO (fl := 1) (lo := m.length) (hi := M.length) (r1.at_ (hM _ (by omega) r1.lt)) (by rw [ageTo_len]; omega) (by omega) r1.lt
        rw [ageTo_len] at this
        exact this
def AgeAt (s : Sh) (T : List (List Int)) (t L k : Nat) (W : List Int) : Prop := W.length = L ∧ ∀ i, i < L → W.getD i 0 = if i < k then s.arr.getD (t - i) 0 - colT T (t - i) (t + 1) else 0
theorem AgeAt.zero (s : Sh) (T : List (List Int)) (t L : Nat) : AgeAt s T t L 0 (List.replicate L 0) := by
  refine ⟨by simp, fun i hi => ?_⟩
  rw [if_neg (by omega), List.getD_eq_getElem?_getD, List.getElem?_replicate, if_pos hi]; rfl
theorem AgeAt.next {s : Sh} {T : List (List Int)} {t L k : Nat} {W : List Int} (h : AgeAt s T t L k W) (hk : k < L) (hk2 : k ≤ t) : AgeAt s T t L (k + 1) (W.set k (s.arr.getD (t - k) 0 - colT T (t - k) (t + 1))) := by
  have hl := h.1
  refine ⟨by rw [List.length_set]; exact hl, fun i hi => ?_⟩
  rw [setD9 (by omega)]
  by_cases e : i = k
  · subst e; rw [if_pos rfl, if_pos (by omega)]
  · rw [if_neg e, h.2 i hi]
    by_cases e2 : i < k
    · rw [if_pos e2, if_pos (by omega)]
    · rw [if_neg e2, if_neg (by omega)]
theorem AgeAt.done {s : Sh} {T : List (List Int)} {t L k : Nat} {W : List Int} (h : AgeAt s T t L k W) (hk : L ≤ k ∨ t + 1 ≤ k) (hk2 : k ≤ t + 1) : W = ageTo s T t L := by
  refine extD9 h.1 (ageTo_len _ _ _ _) fun i hi => ?_
  rw [h.2 i hi, ageTo, mapD9 hi]
  by_cases e : t < i
  · rw [if_pos e]
    by_cases e2 : i < k
    · rw [if_pos e2]
      exact absurd e2 (by omega)
    · rw [if_neg e2]
  · rw [if_neg e, if_pos (by omega)]
theorem implByAge_rc (m : Mem) (v vt : Value) (s : Sh) (T : List (List Int)) (z : Int) (h : ShA m v s) (hT : TabA m vt T) :
    RC Try.prog 30 [v, vt, .int .i64 z] m (AnsO m (IntsO (ageA s T z)) fun v => .tuple #[v, .bool (ageOk s T z)]) := by
  refine rc_of_run mixed ok_impl_StockByAge (by simp) (go_start _ _ _ ?_)
  obtain ⟨a, b, rfl, ha, hb⟩ := h.ro
  have hX := (Ext.refl m).one 26 [.int .i64 s.life, a, b, .int .i64 s.waste, .int .i64 s.lost]
  simp (config := {implicitDefEqProofs := false, maxDischargeDepth := 20}) (disch := first | omega | (simp only [lenE]; done) | (simp only [lenE]; omega) | rfl | (simp only [lenE, markR_len]; done) | (simp only [lenE, markR_len]; omega)) only [runE, mapE, listE, initT_5, initT_6, initT_7, initT_8, resV, oneV, binA, unA, reduceCtorEq, Nat.reduceEqDiff, Nat.reduceAdd, Nat.reduceLT, Nat.reduceLeDiff, Nat.reduceMul, Nat.reduceSub, ↓reduceIte, decide_true, decide_false, Bool.true_eq_false, Bool.false_eq_true, Bool.not_true, Bool.not_false, if_true, if_false, and_true, true_and, memE, celE, w64, Nat.zero_add, Nat.add_zero, Nat.mul_one, putL, and_self, ldn, c_impl_StockByAge, r_impl_StockByAge]
  obtain ⟨M0, hM0⟩ : ∃ M0, M0 = roM m ++ [⟨.own, 26, [.int .i64 s.life, a, b, .int .i64 s.waste, .int .i64 s.lost]⟩] := ⟨_, rfl⟩
  have o1 : OwnB M0 m.length 26 [.int .i64 s.life, a, b, .int .i64 s.waste, .int .i64 s.lost] := by rw [hM0]; exact OwnB.here (by simp [roM_len])
  rw [← hM0] at hX ⊢
  refine callH_rc (leftOf_rc _ _ vt s T (ShA.mk (hX.ints ha) (hX.ints hb)) (TabA.xt hT hX)) ?_
  have no : ∀ M, Ext m M → ageOk s T z = false → newQ m (AnsO m (IntsO (ageA s T z)) fun v => .tuple #[v, .bool (ageOk s T z)]) (.tuple #[.slice (some ⟨M.length, 0, none⟩) 0 1, .bool false]) (M ++ [⟨.own, 3, []⟩]) := fun M hX e => by
    unfold ageA
    rw [e]
    exact ext_noInts (f := fun v => .tuple #[v, .bool false]) hX rfl
  rintro r n2 ⟨nr2, ⟨hb1, rfl⟩ | ⟨hb1, w, rfl, ia, ib, fa, fb, hne, ga, gb, rfl, oa, ob⟩⟩
  · simp (config := {implicitDefEqProofs := false, maxDischargeDepth := 20}) (disch := first | omega | (simp only [lenE]; done) | (simp only [lenE]; omega) | rfl | (simp only [lenE, markR_len]; done) | (simp only [lenE, markR_len]; omega)) only [runE, mapE, listE, initT_5, initT_6, initT_7, initT_8, resV, oneV, binA, unA, reduceCtorEq, Nat.reduceEqDiff, Nat.reduceAdd, Nat.reduceLT, Nat.reduceLeDiff, Nat.reduceMul, Nat.reduceSub, ↓reduceIte, decide_true, decide_false, Bool.true_eq_false, Bool.false_eq_true, Bool.not_true, Bool.not_false, if_true, if_false, and_true, true_and, memE, celE, w64, Nat.zero_add, Nat.add_zero, Nat.mul_one, putL, and_self, ldn, ext_2_0, ext_2_1, noShV, stP_agg5']
    obtain ⟨M2, hM2⟩ : ∃ M2, M2 = M0 ++ n2 ++ [⟨.own, 26, [.int .i64 0, .slice none 0 0, .slice none 0 0, .int .i64 0, .int .i64 0]⟩] := ⟨_, rfl⟩
    have hX2 : Ext m M2 := by rw [hM2]; exact (hX.app nr2).one _ _
    rw [← hM2]
    simp (config := {implicitDefEqProofs := false, maxDischargeDepth := 20}) (disch := first | omega | (simp only [lenE]; done) | (simp only [lenE]; omega) | rfl | (simp only [lenE, markR_len]; done) | (simp only [lenE, markR_len]; omega)) only [runE, mapE, listE, initT_5, initT_6, initT_7, initT_8, resV, oneV, binA, unA, reduceCtorEq, Nat.reduceEqDiff, Nat.reduceAdd, Nat.reduceLT, Nat.reduceLeDiff, Nat.reduceMul, Nat.reduceSub, ↓reduceIte, decide_true, decide_false, Bool.true_eq_false, Bool.false_eq_true, Bool.not_true, Bool.not_false, if_true, if_false, and_true, true_and, memE, celE, w64, Nat.zero_add, Nat.add_zero, Nat.mul_one, putL, and_self, ldn, bsl_no]
    exact no M2 hX2 (by simp [ageOk, hb1])
  · have hI := iss_of hb1
    have hl := hI.l
    have n8 := hI.g.n8
    have l8 := hI.g.l8
    have l1 := hI.g.l1
    simp (config := {implicitDefEqProofs := false, maxDischargeDepth := 20}) (disch := first | omega | (simp only [lenE]; done) | (simp only [lenE]; omega) | rfl | (simp only [lenE, markR_len]; done) | (simp only [lenE, markR_len]; omega)) only [runE, mapE, listE, initT_5, initT_6, initT_7, initT_8, resV, oneV, binA, unA, reduceCtorEq, Nat.reduceEqDiff, Nat.reduceAdd, Nat.reduceLT, Nat.reduceLeDiff, Nat.reduceMul, Nat.reduceSub, ↓reduceIte, decide_true, decide_false, Bool.true_eq_false, Bool.false_eq_true, Bool.not_true, Bool.not_false, if_true, if_false, and_true, true_and, memE, celE, w64, Nat.zero_add, Nat.add_zero, Nat.mul_one, putL, and_self, ldn, ext_2_0, ext_2_1, stP_agg5']
    obtain ⟨M2, hM2⟩ : ∃ M2, M2 = M0 ++ n2 ++ [⟨.own, 26, [.int .i64 s.life, .slice (some ⟨ia, 0, none⟩) (leftArr s T T.length).length fa, .slice (some ⟨ib, 0, none⟩) (leftNeed s T T.length).length fb, .int .i64 s.waste, .int .i64 s.lost]⟩] := ⟨_, rfl⟩
    have hX2 : Ext m M2 := by rw [hM2]; exact (hX.app nr2).one _ _
    have o2 : OwnB M2 m.length 26 [.int .i64 s.life, a, b, .int .i64 s.waste, .int .i64 s.lost] := by rw [hM2]; exact (o1.ext _).ext _
    rw [← hM2]
    simp (config := {implicitDefEqProofs := false, maxDischargeDepth := 20}) (disch := first | omega | (simp only [lenE]; done) | (simp only [lenE]; omega) | rfl | (simp only [lenE, markR_len]; done) | (simp only [lenE, markR_len]; omega)) only [runE, mapE, listE, initT_5, initT_6, initT_7, initT_8, resV, oneV, binA, unA, reduceCtorEq, Nat.reduceEqDiff, Nat.reduceAdd, Nat.reduceLT, Nat.reduceLeDiff, Nat.reduceMul, Nat.reduceSub, ↓reduceIte, decide_true, decide_false, Bool.true_eq_false, Bool.false_eq_true, Bool.not_true, Bool.not_false, if_true, if_false, and_true, true_and, memE, celE, w64, Nat.zero_add, Nat.add_zero, Nat.mul_one, putL, and_self, ldn, (TabA.xt hT hX2).len]
    refine callH_rc (isWithin_rc _ _ _) ?_
    rintro r new ⟨rfl, rfl⟩
    cases h3 : inB ((T.length : Int) - 1) z with
    | false =>
      simp (config := {implicitDefEqProofs := false, maxDischargeDepth := 20}) (disch := first | omega | (simp only [lenE]; done) | (simp only [lenE]; omega) | rfl | (simp only [lenE, markR_len]; done) | (simp only [lenE, markR_len]; omega)) only [runE, mapE, listE, initT_5, initT_6, initT_7, initT_8, resV, oneV, binA, unA, reduceCtorEq, Nat.reduceEqDiff, Nat.reduceAdd, Nat.reduceLT, Nat.reduceLeDiff, Nat.reduceMul, Nat.reduceSub, ↓reduceIte, decide_true, decide_false, Bool.true_eq_false, Bool.false_eq_true, Bool.not_true, Bool.not_false, if_true, if_false, and_true, true_and, memE, celE, w64, Nat.zero_add, Nat.add_zero, Nat.mul_one, putL, and_self, ldn, bsl_no]
      refine no M2 hX2 ?_
      unfold ageOk
      rw [show (decide (0 ≤ z) && decide (z ≤ (T.length : Int) - 1)) = inB ((T.length : Int) - 1) z from rfl, h3, Bool.and_false]
    | true =>
      have h3' := inB_iff.1 h3
      have eok : ageOk s T z = true := by simp [ageOk, hb1, h3']
      unfold ageA
      rw [eok, if_pos rfl]
      obtain ⟨t, rfl⟩ : ∃ t : Nat, z = t := ⟨z.toNat, by omega⟩
      obtain ⟨L, hL⟩ : ∃ L : Nat, s.life = (L : Int) + 1 := ⟨(s.life - 1).toNat, by omega⟩
      have eL : (s.life - 1).toNat = L := by omega
      have eL2 : s.life - 1 = (L : Int) := by omega
      rw [eL, Int.toNat_natCast]
      obtain ⟨tid, tfl, htv⟩ := hT.fm
      subst htv
      have hTM := TabA.xt hT hX2
      have hTk := hTM.take9 (k := t + 1) (fl' := tfl) (by omega)
      have hsl := slc_pre9 (id := tid) (n := T.length) (fl := tfl) (z := (t : Int) + 1) (k := t + 1) (by omega) (by omega)
      have ek : (T.take (t + 1)).length = t + 1 := by rw [List.length_take]; omega
      have h9 := (two9_iff.1 hb1).2.2
      have hir := irows_take h9 (k := t + 1) (by omega)
      simp (config := {implicitDefEqProofs := false, maxDischargeDepth := 20}) (disch := first | omega | (simp only [lenE]; done) | (simp only [lenE]; omega) | rfl | (simp only [lenE, markR_len]; done) | (simp only [lenE, markR_len]; omega)) only [runE, mapE, listE, initT_5, initT_6, initT_7, initT_8, resV, oneV, binA, unA, reduceCtorEq, Nat.reduceEqDiff, Nat.reduceAdd, Nat.reduceLT, Nat.reduceLeDiff, Nat.reduceMul, Nat.reduceSub, ↓reduceIte, decide_true, decide_false, Bool.true_eq_false, Bool.false_eq_true, Bool.not_true, Bool.not_false, if_true, if_false, and_true, true_and, memE, celE, w64, Nat.zero_add, Nat.add_zero, Nat.mul_one, putL, and_self, ldn, Option.map_none, hsl, o2.rd]
      with_reducible refine ⟨?_, ?_⟩
      · have K := leftBehind_rc M2 _ _ s (T.take (t + 1)) (ShA.mk (hX2.ints ha) (hX2.ints hb)) (TabA.take9 (fl' := tfl) (TabA.xt hT hX2) (by omega)) hI.g (by omega)
        rw [ek, decide_eq_true hir] at K
        refine rcallH_rc K ?_
        rintro r n3 ⟨nr3, ⟨hb3, rfl⟩ | ⟨hb3, w, rfl, ia3, ib3, fa3, fb3, hne3, ga3, gb3, rfl, oa3, ob3⟩⟩
        · cases hb3
        have la3 := oa3.lt
        have hlm := hX2.len
        have l2m := o2.lt
        simp (config := {implicitDefEqProofs := false, maxDischargeDepth := 20}) (disch := first | omega | (simp only [lenE]; done) | (simp only [lenE]; omega) | rfl | (simp only [lenE, markR_len]; done) | (simp only [lenE, markR_len]; omega)) only [runE, mapE, listE, initT_5, initT_6, initT_7, initT_8, resV, oneV, binA, unA, reduceCtorEq, Nat.reduceEqDiff, Nat.reduceAdd, Nat.reduceLT, Nat.reduceLeDiff, Nat.reduceMul, Nat.reduceSub, ↓reduceIte, decide_true, decide_false, Bool.true_eq_false, Bool.false_eq_true, Bool.not_true, Bool.not_false, if_true, if_false, and_true, true_and, memE, celE, w64, Nat.zero_add, Nat.add_zero, Nat.mul_one, putL, and_self, ldn, ext_2_0, ext_2_1, stP_agg5', (o2.ext n3).rd, eL2, mksA_eq (byt := 8) (n := L) rfl (by omega)]
        obtain ⟨M3, hM3⟩ : ∃ M3, M3 = M2 ++ n3 ++ [⟨.own, 26, [.int .i64 s.life, .slice (some ⟨ia3, 0, none⟩) (leftArr s (T.take (t + 1)) (t + 1)).length fa3, .slice (some ⟨ib3, 0, none⟩) (leftNeed s (T.take (t + 1)) (t + 1)).length fb3, .int .i64 s.waste, .int .i64 s.lost]⟩] := ⟨_, rfl⟩
        have eM3 : M3.length = M2.length + n3.length + 1 := by rw [hM3]; simp; omega
        have hX3 : Ext m M3 := by rw [hM3]; exact (hX2.app nr3).one _ _
        have p3 : OwnR M3 ia3 (leftArr s (T.take (t + 1)) (t + 1)) := by rw [hM3]; exact oa3.ext _
        have b3 : OwnB M3 (M2.length + n3.length) 26 [.int .i64 s.life, .slice (some ⟨ia3, 0, none⟩) (leftArr s (T.take (t + 1)) (t + 1)).length fa3, .slice (some ⟨ib3, 0, none⟩) (leftNeed s (T.take (t + 1)) (t + 1)).length fb3, .int .i64 s.waste, .int .i64 s.lost] := by rw [hM3]; exact OwnB.here (by simp)
        rw [List.length_append] at la3
        rw [← hM3]
        have z3 : OwnR (M3 ++ [⟨.own, 3, List.replicate L (.int .i64 0)⟩]) M3.length (List.replicate L 0) := OwnR.zeros rfl
        have hl3 := hX3.len
        have lb3 := b3.lt
        have lp3 := p3.lt
        refine loop_inv mixed (fun s' => ∃ (k : Nat) (M : Mem) (W : List Int), k ≤ L ∧ k ≤ t + 1 ∧ s'.m = M ∧ Ext m M ∧ OwnB M (M2.length + n3.length) 26 [.int .i64 s.life, .slice (some ⟨ia3, 0, none⟩) (leftArr s (T.take (t + 1)) (t + 1)).length fa3, .slice (some ⟨ib3, 0, none⟩) (leftNeed s (T.take (t + 1)) (t + 1)).length fb3, .int .i64 s.waste, .int .i64 s.lost] ∧ OwnR M ia3 (leftArr s (T.take (t + 1)) (t + 1)) ∧ OwnR M M3.length W ∧ AgeAt s T t L k W ∧ s'.t 2 = .int .i64 (t : Int) ∧ s'.t 10 = .pointer (some ⟨(M2.length + n3.length), 0, none⟩) ∧ s'.t 12 = .slice (some ⟨M3.length, 0, none⟩) L 1 ∧ s'.t 48 = .int .i64 (min (L : Int) ((t : Int) + 1)) ∧ s'.t 49 = .int .i64 (k : Int)) (fun s' => L - (intOf (s'.t 49)).toNat)
          ⟨0, _, List.replicate L 0, by omega, by omega, rfl, hX3.one _ _, b3.ext _, p3.ext _, z3, AgeAt.zero s T t L, rfl, (by first | rfl | (simp only [put_t, put_t', put_m, putT_t, putT_t', putT_m, init_t, init_m, initT_0, initT_1, initT_2, initT_3, initT_4, initT_5, initT_6, initT_7, initT_8, Nat.reduceEqDiff, ↓reduceIte]; simp; done) | (simp only [put_t, put_t', put_m, putT_t, putT_t', putT_m, init_t, init_m, initT_0, initT_1, initT_2, initT_3, initT_4, initT_5, initT_6, initT_7, initT_8, Nat.reduceEqDiff, ↓reduceIte]; simp; omega)), (by first | rfl | (simp only [put_t, put_t', put_m, putT_t, putT_t', putT_m, init_t, init_m, initT_0, initT_1, initT_2, initT_3, initT_4, initT_5, initT_6, initT_7, initT_8, Nat.reduceEqDiff, ↓reduceIte]; simp; done) | (simp only [put_t, put_t', put_m, putT_t, putT_t', putT_m, init_t, init_m, initT_0, initT_1, initT_2, initT_3, initT_4, initT_5, initT_6, initT_7, initT_8, Nat.reduceEqDiff, ↓reduceIte]; simp; omega)), (by first | rfl | (simp only [put_t, put_t', put_m, putT_t, putT_t', putT_m, init_t, init_m, initT_0, initT_1, initT_2, initT_3, initT_4, initT_5, initT_6, initT_7, initT_8, Nat.reduceEqDiff, ↓reduceIte]; simp; done) | (simp only [put_t, put_t', put_m, putT_t, putT_t', putT_m, init_t, init_m, initT_0, initT_1, initT_2, initT_3, initT_4, initT_5, initT_6, initT_7, initT_8, Nat.reduceEqDiff, ↓reduceIte]; simp; omega)), rfl⟩ ?_
        rintro s' ⟨k, M, W, hk, hk2, tm, hX, b4, p4, z4, hW, t2, t10, t12, t48, t49⟩
        have hla := leftArr_len s (T.take (t + 1)) (t + 1)
        by_cases hlt : (k : Int) < min (L : Int) ((t : Int) + 1)
        · obtain ⟨q, hq⟩ : ∃ q : Nat, (t : Int) - k = q := ⟨t - k, by omega⟩
          have i1 : iadA 1 (.slice (some ⟨ia3, 0, none⟩) (leftArr s (T.take (t + 1)) (t + 1)).length fa3) (.int .i64 (q : Int)) = some (.pointer (some ⟨ia3, q, none⟩)) := iad0 rfl (by omega)
          have i2 : iadA 1 (.slice (some ⟨M3.length, 0, none⟩) L 1) (.int .i64 (k : Int)) = some (.pointer (some ⟨M3.length, k, none⟩)) := iad0 rfl (by omega)
          have k1 := p4.rd' (i := q) (by omega)
          have st := z4.st (off := k) (x := (leftArr s (T.take (t + 1)) (t + 1)).getD q 0) (by rw [hW.1]; omega)
          simp (config := {implicitDefEqProofs := false, maxDischargeDepth := 20}) (disch := first | omega | (simp only [lenE]; done) | (simp only [lenE]; omega) | rfl | (simp only [lenE, markR_len]; done) | (simp only [lenE, markR_len]; omega)) only [runE, mapE, listE, initT_5, initT_6, initT_7, initT_8, resV, oneV, binA, unA, reduceCtorEq, Nat.reduceEqDiff, Nat.reduceAdd, Nat.reduceLT, Nat.reduceLeDiff, Nat.reduceMul, Nat.reduceSub, ↓reduceIte, decide_true, decide_false, Bool.true_eq_false, Bool.false_eq_true, Bool.not_true, Bool.not_false, if_true, if_false, and_true, true_and, memE, celE, w64, Nat.zero_add, Nat.add_zero, Nat.mul_one, putL, and_self, ldn, tm, t2, t10, t12, t48, t49, hlt, b4.rd, hq, i1, i2, k1, st]
          refine ⟨⟨k + 1, _, _, by omega, by omega, rfl, hX.put (by omega) _ _, b4.set_ne (by omega) _, p4.set_ne (by omega), z4.set_self, ?_, by simp⟩, ?_⟩
          · rw [leftArr_at (by omega), col_take _ (Nat.le_refl _), show q = t - k by omega]
            exact hW.next (by omega) (by omega)
          · simp [intOf]; omega
        · simp (config := {implicitDefEqProofs := false, maxDischargeDepth := 20}) (disch := first | omega | (simp only [lenE]; done) | (simp only [lenE]; omega) | rfl | (simp only [lenE, markR_len]; done) | (simp only [lenE, markR_len]; omega)) only [runE, mapE, listE, initT_5, initT_6, initT_7, initT_8, resV, oneV, binA, unA, reduceCtorEq, Nat.reduceEqDiff, Nat.reduceAdd, Nat.reduceLT, Nat.reduceLeDiff, Nat.reduceMul, Nat.reduceSub, ↓reduceIte, decide_true, decide_false, Bool.true_eq_false, Bool.false_eq_true, Bool.not_true, Bool.not_false, if_true, if_false, and_true, true_and, memE, celE, w64, Nat.zero_add, Nat.add_zero, Nat.mul_one, putL, and_self, ldn, tm, t2, t10, t12, t48, t49, hlt]
          have eW : W = ageTo s T t L := hW.done (by omega) hk2
          subst eW
          refine ext_ansO (f := fun v => .tuple #[v, .bool true]) hX fun M' hM => ?_
          have := IntsA.ownO (fl := 1) (lo := m.length) (hi := M.length) (z4.at_ (hM _ (by omega) z4.lt)) (by rw [ageTo_len]; omega) (by omega) z4.lt
          rw [ageTo_len] at this
          exact this
      · have K := leftBehind_rc (M2 ++ [⟨.own, 26, [.int .i64 0, .slice none 0 0, .slice none 0 0, .int .i64 0, .int .i64 0]⟩]) _ _ s (T.take (t + 1)) (ShA.mk ((hX2.one 26 [.int .i64 0, .slice none 0 0, .slice none 0 0, .int .i64 0, .int .i64 0]).ints ha) ((hX2.one 26 [.int .i64 0, .slice none 0 0, .slice none 0 0, .int .i64 0, .int .i64 0]).ints hb)) (TabA.take9 (fl' := tfl) (TabA.xt hT (hX2.one 26 [.int .i64 0, .slice none 0 0, .slice none 0 0, .int .i64 0, .int .i64 0])) (by omega)) hI.g (by omega)
        rw [ek, decide_eq_true hir] at K
        refine rcallH_rc K ?_
        rintro r n3 ⟨nr3, ⟨hb3, rfl⟩ | ⟨hb3, w, rfl, ia3, ib3, fa3, fb3, hne3, ga3, gb3, rfl, oa3, ob3⟩⟩
        · cases hb3
        have la3 := oa3.lt
        have hlm := hX2.len
        have l2m := o2.lt
        have hz : OwnB (M2 ++ [⟨.own, 26, [.int .i64 0, .slice none 0 0, .slice none 0 0, .int .i64 0, .int .i64 0]⟩] ++ n3) M2.length 26 [.int .i64 0, .slice none 0 0, .slice none 0 0, .int .i64 0, .int .i64 0] := (OwnB.here rfl).ext _
        have hst := hz.st (off := 0) (vs := [.int .i64 s.life, .slice (some ⟨ia3, 0, none⟩) (leftArr s (T.take (t + 1)) (t + 1)).length fa3, .slice (some ⟨ib3, 0, none⟩) (leftNeed s (T.take (t + 1)) (t + 1)).length fb3, .int .i64 s.waste, .int .i64 s.lost]) (by simp) rfl
        have o3 : OwnB ((M2 ++ [(⟨.own, 26, [.int .i64 0, .slice none 0 0, .slice none 0 0, .int .i64 0, .int .i64 0]⟩ : Blk)] ++ n3).set M2.length (⟨.own, 26, [.int .i64 s.life, .slice (some ⟨ia3, 0, none⟩) (leftArr s (T.take (t + 1)) (t + 1)).length fa3, .slice (some ⟨ib3, 0, none⟩) (leftNeed s (T.take (t + 1)) (t + 1)).length fb3, .int .i64 s.waste, .int .i64 s.lost]⟩ : Blk)) m.length 26 [.int .i64 s.life, a, b, .int .i64 s.waste, .int .i64 s.lost] := ((o2.ext _).ext _).set_ne (by omega) _
        simp (config := {implicitDefEqProofs := false, maxDischargeDepth := 20}) (disch := first | omega | (simp only [lenE]; done) | (simp only [lenE]; omega) | rfl | (simp only [lenE, markR_len]; done) | (simp only [lenE, markR_len]; omega)) only [runE, mapE, listE, initT_5, initT_6, initT_7, initT_8, resV, oneV, binA, unA, reduceCtorEq, Nat.reduceEqDiff, Nat.reduceAdd, Nat.reduceLT, Nat.reduceLeDiff, Nat.reduceMul, Nat.reduceSub, ↓reduceIte, decide_true, decide_false, Bool.true_eq_false, Bool.false_eq_true, Bool.not_true, Bool.not_false, if_true, if_false, and_true, true_and, memE, celE, w64, Nat.zero_add, Nat.add_zero, Nat.mul_one, putL, and_self, ldn, ext_2_0, ext_2_1, stP_agg5', hst, o3.rd, eL2, mksA_eq (byt := 8) (n := L) rfl (by omega)]
        obtain ⟨M3, hM3⟩ : ∃ M3, M3 = (M2 ++ [(⟨.own, 26, [.int .i64 0, .slice none 0 0, .slice none 0 0, .int .i64 0, .int .i64 0]⟩ : Blk)] ++ n3).set M2.length (⟨.own, 26, [.int .i64 s.life, .slice (some ⟨ia3, 0, none⟩) (leftArr s (T.take (t + 1)) (t + 1)).length fa3, .slice (some ⟨ib3, 0, none⟩) (leftNeed s (T.take (t + 1)) (t + 1)).length fb3, .int .i64 s.waste, .int .i64 s.lost]⟩ : Blk) := ⟨_, rfl⟩
        have ga3' : M2.length + 1 ≤ ia3 := by simpa using ga3
        have eM3 : M3.length = M2.length + 1 + n3.length := by rw [hM3]; simp; try omega
        have hX3 : Ext m M3 := by rw [hM3]; exact (((hX2.one _ _).app nr3).put (by omega) _ _)
        have p3 : OwnR M3 ia3 (leftArr s (T.take (t + 1)) (t + 1)) := by rw [hM3]; exact oa3.set_ne (by omega)
        have b3 : OwnB M3 M2.length 26 [.int .i64 s.life, .slice (some ⟨ia3, 0, none⟩) (leftArr s (T.take (t + 1)) (t + 1)).length fa3, .slice (some ⟨ib3, 0, none⟩) (leftNeed s (T.take (t + 1)) (t + 1)).length fb3, .int .i64 s.waste, .int .i64 s.lost] := by rw [hM3]; exact hz.set_self _ _
        rw [← hM3]
        have z3 : OwnR (M3 ++ [⟨.own, 3, List.replicate L (.int .i64 0)⟩]) M3.length (List.replicate L 0) := OwnR.zeros rfl
        have hl3 := hX3.len
        have lb3 := b3.lt
        have lp3 := p3.lt
        refine loop_inv mixed (fun s' => ∃ (k : Nat) (M : Mem) (W : List Int), k ≤ L ∧ k ≤ t + 1 ∧ s'.m = M ∧ Ext m M ∧ OwnB M M2.length 26 [.int .i64 s.life, .slice (some ⟨ia3, 0, none⟩) (leftArr s (T.take (t + 1)) (t + 1)).length fa3, .slice (some ⟨ib3, 0, none⟩) (leftNeed s (T.take (t + 1)) (t + 1)).length fb3, .int .i64 s.waste, .int .i64 s.lost] ∧ OwnR M ia3 (leftArr s (T.take (t + 1)) (t + 1)) ∧ OwnR M M3.length W ∧ AgeAt s T t L k W ∧ s'.t 2 = .int .i64 (t : Int) ∧ s'.t 10 = .pointer (some ⟨M2.length, 0, none⟩) ∧ s'.t 12 = .slice (some ⟨M3.length, 0, none⟩) L 1 ∧ s'.t 48 = .int .i64 (min (L : Int) ((t : Int) + 1)) ∧ s'.t 49 = .int .i64 (k : Int)) (fun s' => L - (intOf (s'.t 49)).toNat)
          ⟨0, _, List.replicate L 0, by omega, by omega, rfl, hX3.one _ _, b3.ext _, p3.ext _, z3, AgeAt.zero s T t L, rfl, (by first | rfl | (simp only [put_t, put_t', put_m, putT_t, putT_t', putT_m, init_t, init_m, initT_0, initT_1, initT_2, initT_3, initT_4, initT_5, initT_6, initT_7, initT_8, Nat.reduceEqDiff, ↓reduceIte]; simp; done) | (simp only [put_t, put_t', put_m, putT_t, putT_t', putT_m, init_t, init_m, initT_0, initT_1, initT_2, initT_3, initT_4, initT_5, initT_6, initT_7, initT_8, Nat.reduceEqDiff, ↓reduceIte]; simp; omega)), (by first | rfl | (simp only [put_t, put_t', put_m, putT_t, putT_t', putT_m, init_t, init_m, initT_0, initT_1, initT_2, initT_3, initT_4, initT_5, initT_6, initT_7, initT_8, Nat.reduceEqDiff, ↓reduceIte]; simp; done) | (simp only [put_t, put_t', put_m, putT_t, putT_t', putT_m, init_t, init_m, initT_0, initT_1, initT_2, initT_3, initT_4, initT_5, initT_6, initT_7, initT_8, Nat.reduceEqDiff, ↓reduceIte]; simp; omega)), (by first | rfl | (simp only [put_t, put_t', put_m, putT_t, putT_t', putT_m, init_t, init_m, initT_0, initT_1, initT_2, initT_3, initT_4, initT_5, initT_6, initT_7, initT_8, Nat.reduceEqDiff, ↓reduceIte]; simp; done) | (simp only [put_t, put_t', put_m, putT_t, putT_t', putT_m, init_t, init_m, initT_0, initT_1, initT_2, initT_3, initT_4, initT_5, initT_6, initT_7, initT_8, Nat.reduceEqDiff, ↓reduceIte]; simp; omega)), rfl⟩ ?_
        rintro s' ⟨k, M, W, hk, hk2, tm, hX, b4, p4, z4, hW, t2, t10, t12, t48, t49⟩
        have hla := leftArr_len s (T.take (t + 1)) (t + 1)
        by_cases hlt : (k : Int) < min (L : Int) ((t : Int) + 1)
        · obtain ⟨q, hq⟩ : ∃ q : Nat, (t : Int) - k = q := ⟨t - k, by omega⟩
          have i1 : iadA 1 (.slice (some ⟨ia3, 0, none⟩) (leftArr s (T.take (t + 1)) (t + 1)).length fa3) (.int .i64 (q : Int)) = some (.pointer (some ⟨ia3, q, none⟩)) := iad0 rfl (by omega)
          have i2 : iadA 1 (.slice (some ⟨M3.length, 0, none⟩) L 1) (.int .i64 (k : Int)) = some (.pointer (some ⟨M3.length, k, none⟩)) := iad0 rfl (by omega)
          have k1 := p4.rd' (i := q) (by omega)
          have st := z4.st (off := k) (x := (leftArr s (T.take (t + 1)) (t + 1)).getD q 0) (by rw [hW.1]; omega)
          simp (config := {implicitDefEqProofs := false, maxDischargeDepth := 20}) (disch := first | omega | (simp only [lenE]; done) | (simp only [lenE]; omega) | rfl | (simp only [lenE, markR_len]; done) | (simp only [lenE, markR_len]; omega)) only [runE, mapE, listE, initT_5, initT_6, initT_7, initT_8, resV, oneV, binA, unA, reduceCtorEq, Nat.reduceEqDiff, Nat.reduceAdd, Nat.reduceLT, Nat.reduceLeDiff, Nat.reduceMul, Nat.reduceSub, ↓reduceIte, decide_true, decide_false, Bool.true_eq_false, Bool.false_eq_true, Bool.not_true, Bool.not_false, if_true, if_false, and_true, true_and, memE, celE, w64, Nat.zero_add, Nat.add_zero, Nat.mul_one, putL, and_self, ldn, tm, t2, t10, t12, t48, t49, hlt, b4.rd, hq, i1, i2, k1, st]
          refine ⟨⟨k + 1, _, _, by omega, by omega, rfl, hX.put (by omega) _ _, b4.set_ne (by omega) _, p4.set_ne (by omega), z4.set_self, ?_, by simp⟩, ?_⟩
          · rw [leftArr_at (by omega), col_take _ (Nat.le_refl _), show q = t - k by omega]
            exact hW.next (by omega) (by omega)
          · simp [intOf]; omega
        · simp (config := {implicitDefEqProofs := false, maxDischargeDepth := 20}) (disch := first | omega | (simp only [lenE]; done) | (simp only [lenE]; omega) | rfl | (simp only [lenE, markR_len]; done) | (simp only [lenE, markR_len]; omega)) only [runE, mapE, listE, initT_5, initT_6, initT_7, initT_8, resV, oneV, binA, unA, reduceCtorEq, Nat.reduceEqDiff, Nat.reduceAdd, Nat.reduceLT, Nat.reduceLeDiff, Nat.reduceMul, Nat.reduceSub, ↓reduceIte, decide_true, decide_false, Bool.true_eq_false, Bool.false_eq_true, Bool.not_true, Bool.not_false, if_true, if_false, and_true, true_and, memE, celE, w64, Nat.zero_add, Nat.add_zero, Nat.mul_one, putL, and_self, ldn, tm, t2, t10, t12, t48, t49, hlt]
          have eW : W = ageTo s T t L := hW.done (by omega) hk2
          subst eW
          refine ext_ansO (f := fun v => .tuple #[v, .bool true]) hX fun M' hM => ?_
          have := IntsA.ownO (fl := 1) (lo := m.length) (hi := M.length) (z4.at_ (hM _ (by omega) z4.lt)) (by rw [ageTo_len]; omega) (by omega) z4.lt
          rw [ageTo_len] at this
          exact this
end Go.Proofs.Ytdgfbmilbhckiaa.Ab
end
section
namespace Go.Proofs.Ytdgfbmilbhckiaa.Ab
open Go Go.RowKit
set_option linter.unusedVariables false
set_option linter.unusedSimpArgs false
def risB (ps : List Int) (n : Nat) : Bool := decide (∀ i, i < ps.length → (0 ≤ ps.getD i 0 ∧ ps.getD i 0 ≤ (n : Int) - 1) ∧ (0 < i → ps.getD (i - 1) 0 < ps.getD i 0))
theorem risB_iff {ps : List Int} {n : Nat} : risB ps n = true ↔ Rising ps n := by
  unfold risB
  rw [decide_eq_true_iff]
  constructor
  · intro h
    refine ⟨fun i hi => by have := (h i hi).1; omega, fun i hi => ?_⟩
    have := (h (i + 1) hi).2 (by omega)
    simpa using this
  · intro h i hi
    refine ⟨by have := h.bd i hi; omega, fun h0 => ?_⟩
    have := h.up (i - 1) (by omega)
    rwa [show i - 1 + 1 = i by omega] at this
theorem risB_no {ps : List Int} {n i : Nat} (hi : i < ps.length) (h : ¬ ((0 ≤ ps.getD i 0 ∧ ps.getD i 0 ≤ (n : Int) - 1) ∧ (0 < i → ps.getD (i - 1) 0 < ps.getD i 0))) : risB ps n = false :=
  decide_eq_false fun hh => h (hh i hi)

theorem l1Rising_rc (m : Mem) (u : Value) (ps : List Int) (n : Nat) (h' : IntsA m u ps) (hn : n ≤ 1048576) :
    RC Try.prog 76 [u, .int .i64 0, .int .i64 ((n : Int) - 1)] m (AnsV (.bool (risB ps n))) := by
  refine rc_of_run mixed ok_spec_l1Rising (by simp) (go_start _ _ _ ?_)
  have hu := h'.ro
  have hbd := hu.bd
  simp (config := {implicitDefEqProofs := false, maxDischargeDepth := 20}) (disch := first | omega | (simp only [lenE]; done) | (simp only [lenE]; omega) | rfl | (simp only [lenE, markR_len]; done) | (simp only [lenE, markR_len]; omega)) only [runE, mapE, listE, initT_5, initT_6, initT_7, initT_8, resV, oneV, binA, unA, reduceCtorEq, Nat.reduceEqDiff, Nat.reduceAdd, Nat.reduceLT, Nat.reduceLeDiff, Nat.reduceMul, Nat.reduceSub, ↓reduceIte, decide_true, decide_false, Bool.true_eq_false, Bool.false_eq_true, Bool.not_true, Bool.not_false, if_true, if_false, and_true, true_and, memE, celE, w64, Nat.zero_add, Nat.add_zero, Nat.mul_one, putL, and_self, ldn, c_spec_l1Rising, r_spec_l1Rising]
  refine loop_inv mixed (fun s => ∃ i : Nat, i ≤ ps.length ∧ (∀ j, j < i → (0 ≤ ps.getD j 0 ∧ ps.getD j 0 ≤ (n : Int) - 1) ∧ (0 < j → ps.getD (j - 1) 0 < ps.getD j 0)) ∧ s.t 0 = u ∧ s.t 1 = .int .i64 0 ∧ s.t 2 = .int .i64 ((n : Int) - 1) ∧ s.t 7 = .int .i64 i ∧ s.m = roM m) (fun s => ps.length - (intOf (s.t 7)).toNat)
    ⟨0, by omega, fun j hj => absurd hj (by omega), rfl, rfl, rfl, rfl, rfl⟩ ?_
  rintro s ⟨i, hk, hall, t0, t1, t2, t7, tm⟩
  have nx : ((0 ≤ ps.getD i 0 ∧ ps.getD i 0 ≤ (n : Int) - 1) ∧ (0 < i → ps.getD (i - 1) 0 < ps.getD i 0)) → ∀ j, j < i + 1 → (0 ≤ ps.getD j 0 ∧ ps.getD j 0 ≤ (n : Int) - 1) ∧ (0 < j → ps.getD (j - 1) 0 < ps.getD j 0) := fun hh j hj => by
    by_cases e : j < i
    · exact hall j e
    · have : j = i := by omega
      rw [this]; exact hh
  by_cases hlt : i < ps.length
  · have hlt' : (i : Int) < ps.length := by omega
    have ai := hu.at_ i hlt
    have li := hu.ld i hlt
    cases hin : (decide (0 ≤ ps.getD i 0) && decide (ps.getD i 0 ≤ (n : Int) - 1)) with
    | false =>
      have hno : ¬ (0 ≤ ps.getD i 0 ∧ ps.getD i 0 ≤ (n : Int) - 1) := by simpa using hin
      simp (config := {implicitDefEqProofs := false, maxDischargeDepth := 20}) (disch := first | omega | (simp only [lenE]; done) | (simp only [lenE]; omega) | rfl | (simp only [lenE, markR_len]; done) | (simp only [lenE, markR_len]; omega)) only [runE, mapE, listE, initT_5, initT_6, initT_7, initT_8, resV, oneV, binA, unA, reduceCtorEq, Nat.reduceEqDiff, Nat.reduceAdd, Nat.reduceLT, Nat.reduceLeDiff, Nat.reduceMul, Nat.reduceSub, ↓reduceIte, decide_true, decide_false, Bool.true_eq_false, Bool.false_eq_true, Bool.not_true, Bool.not_false, if_true, if_false, and_true, true_and, memE, celE, w64, Nat.zero_add, Nat.add_zero, Nat.mul_one, putL, and_self, ldn, t0, t1, t2, t7, tm, hu.len, hlt', ai, li]
      refine rcallH_rc (l1In_rc _ (ps.getD i 0) 0 ((n : Int) - 1)) ?_
      rintro r new ⟨rfl, rfl⟩
      rw [hin]
      simp (config := {implicitDefEqProofs := false, maxDischargeDepth := 20}) (disch := first | omega | (simp only [lenE]; done) | (simp only [lenE]; omega) | rfl | (simp only [lenE, markR_len]; done) | (simp only [lenE, markR_len]; omega)) only [runE, mapE, listE, initT_5, initT_6, initT_7, initT_8, resV, oneV, binA, unA, reduceCtorEq, Nat.reduceEqDiff, Nat.reduceAdd, Nat.reduceLT, Nat.reduceLeDiff, Nat.reduceMul, Nat.reduceSub, ↓reduceIte, decide_true, decide_false, Bool.true_eq_false, Bool.false_eq_true, Bool.not_true, Bool.not_false, if_true, if_false, and_true, true_and, memE, celE, w64, Nat.zero_add, Nat.add_zero, Nat.mul_one, putL, and_self, ldn, goG_undef, t0, t1, t2, t7, tm]
      rw [risB_no hlt (fun hh => hno hh.1)]
      exact ext_ansV (Ext.refl m) rfl
    | true =>
      have hyes : 0 ≤ ps.getD i 0 ∧ ps.getD i 0 ≤ (n : Int) - 1 := by simpa using hin
      simp (config := {implicitDefEqProofs := false, maxDischargeDepth := 20}) (disch := first | omega | (simp only [lenE]; done) | (simp only [lenE]; omega) | rfl | (simp only [lenE, markR_len]; done) | (simp only [lenE, markR_len]; omega)) only [runE, mapE, listE, initT_5, initT_6, initT_7, initT_8, resV, oneV, binA, unA, reduceCtorEq, Nat.reduceEqDiff, Nat.reduceAdd, Nat.reduceLT, Nat.reduceLeDiff, Nat.reduceMul, Nat.reduceSub, ↓reduceIte, decide_true, decide_false, Bool.true_eq_false, Bool.false_eq_true, Bool.not_true, Bool.not_false, if_true, if_false, and_true, true_and, memE, celE, w64, Nat.zero_add, Nat.add_zero, Nat.mul_one, putL, and_self, ldn, t0, t1, t2, t7, tm, hu.len, hlt', ai, li]
      refine rcallH_rc (l1In_rc _ (ps.getD i 0) 0 ((n : Int) - 1)) ?_
      rintro r new ⟨rfl, rfl⟩
      rw [hin]
      by_cases h0 : 0 < i
      · have h0' : (0 : Int) < i := by omega
        have e1 : (i : Int) - 1 = ((i - 1 : Nat) : Int) := by omega
        have aj := hu.at_ (i - 1) (by omega)
        have lj := hu.ld (i - 1) (by omega)
        by_cases hq : ps.getD i 0 ≤ ps.getD (i - 1) 0
        · simp (config := {implicitDefEqProofs := false, maxDischargeDepth := 20}) (disch := first | omega | (simp only [lenE]; done) | (simp only [lenE]; omega) | rfl | (simp only [lenE, markR_len]; done) | (simp only [lenE, markR_len]; omega)) only [runE, mapE, listE, initT_5, initT_6, initT_7, initT_8, resV, oneV, binA, unA, reduceCtorEq, Nat.reduceEqDiff, Nat.reduceAdd, Nat.reduceLT, Nat.reduceLeDiff, Nat.reduceMul, Nat.reduceSub, ↓reduceIte, decide_true, decide_false, Bool.true_eq_false, Bool.false_eq_true, Bool.not_true, Bool.not_false, if_true, if_false, and_true, true_and, memE, celE, w64, Nat.zero_add, Nat.add_zero, Nat.mul_one, putL, and_self, ldn, t0, t1, t2, t7, tm, gt_iff_lt, ge_iff_le, h0', e1, aj, lj, ai, li, hq]
          rw [risB_no hlt (fun hh => absurd (hh.2 h0) (by omega))]
          exact ext_ansV (Ext.refl m) rfl
        · simp (config := {implicitDefEqProofs := false, maxDischargeDepth := 20}) (disch := first | omega | (simp only [lenE]; done) | (simp only [lenE]; omega) | rfl | (simp only [lenE, markR_len]; done) | (simp only [lenE, markR_len]; omega)) only [runE, mapE, listE, initT_5, initT_6, initT_7, initT_8, resV, oneV, binA, unA, reduceCtorEq, Nat.reduceEqDiff, Nat.reduceAdd, Nat.reduceLT, Nat.reduceLeDiff, Nat.reduceMul, Nat.reduceSub, ↓reduceIte, decide_true, decide_false, Bool.true_eq_false, Bool.false_eq_true, Bool.not_true, Bool.not_false, if_true, if_false, and_true, true_and, memE, celE, w64, Nat.zero_add, Nat.add_zero, Nat.mul_one, putL, and_self, ldn, t0, t1, t2, t7, tm, gt_iff_lt, ge_iff_le, h0', e1, aj, lj, ai, li, hq]
          exact ⟨⟨i + 1, by omega, nx ⟨hyes, fun _ => by omega⟩, by simp⟩, by simp [intOf]; omega⟩
      · have h0' : ¬ ((0 : Int) < i) := by omega
        simp (config := {implicitDefEqProofs := false, maxDischargeDepth := 20}) (disch := first | omega | (simp only [lenE]; done) | (simp only [lenE]; omega) | rfl | (simp only [lenE, markR_len]; done) | (simp only [lenE, markR_len]; omega)) only [runE, mapE, listE, initT_5, initT_6, initT_7, initT_8, resV, oneV, binA, unA, reduceCtorEq, Nat.reduceEqDiff, Nat.reduceAdd, Nat.reduceLT, Nat.reduceLeDiff, Nat.reduceMul, Nat.reduceSub, ↓reduceIte, decide_true, decide_false, Bool.true_eq_false, Bool.false_eq_true, Bool.not_true, Bool.not_false, if_true, if_false, and_true, true_and, memE, celE, w64, Nat.zero_add, Nat.add_zero, Nat.mul_one, putL, and_self, ldn, t0, t1, t2, t7, tm, gt_iff_lt, ge_iff_le, h0']
        exact ⟨⟨i + 1, by omega, nx ⟨hyes, fun hh => absurd hh h0⟩, by simp⟩, by simp [intOf]; omega⟩
  · have hlt' : ¬ ((i : Int) < ps.length) := by omega
    have e : i = ps.length := by omega
    simp (config := {implicitDefEqProofs := false, maxDischargeDepth := 20}) (disch := first | omega | (simp only [lenE]; done) | (simp only [lenE]; omega) | rfl | (simp only [lenE, markR_len]; done) | (simp only [lenE, markR_len]; omega)) only [runE, mapE, listE, initT_5, initT_6, initT_7, initT_8, resV, oneV, binA, unA, reduceCtorEq, Nat.reduceEqDiff, Nat.reduceAdd, Nat.reduceLT, Nat.reduceLeDiff, Nat.reduceMul, Nat.reduceSub, ↓reduceIte, decide_true, decide_false, Bool.true_eq_false, Bool.false_eq_true, Bool.not_true, Bool.not_false, if_true, if_false, and_true, true_and, memE, celE, w64, Nat.zero_add, Nat.add_zero, Nat.mul_one, putL, and_self, ldn, t0, t1, t2, t7, tm, hu.len, hlt']
    have : risB ps n = true := decide_eq_true fun j hj => hall j (by omega)
    rw [this]
    exact ext_ansV (Ext.refl m) rfl

end Go.Proofs.Ytdgfbmilbhckiaa.Ab
end
section
namespace Go.Proofs.Ytdgfbmilbhckiaa.Ab
open Go Go.RowKit
set_option linter.unusedVariables false
set_option linter.unusedSimpArgs false
theorem ascending_rc (m : Mem) (u : Value) (ps : List Int) (n : Nat) (h' : IntsA m u ps) (hn : n ≤ 1048576) :
    RC Try.prog 66 [u, .int .i64 (n : Int)] m (AnsV (.bool (risB ps n))) := by
  refine rc_of_run mixed ok_impl_isAscending (by simp) (go_start _ _ _ ?_)
  have hu := h'.ro
  have hbd := hu.bd
  simp (config := {implicitDefEqProofs := false, maxDischargeDepth := 20}) (disch := first | omega | (simp only [lenE]; done) | (simp only [lenE]; omega) | rfl | (simp only [lenE, markR_len]; done) | (simp only [lenE, markR_len]; omega)) only [runE, mapE, listE, initT_5, initT_6, initT_7, initT_8, resV, oneV, binA, unA, reduceCtorEq, Nat.reduceEqDiff, Nat.reduceAdd, Nat.reduceLT, Nat.reduceLeDiff, Nat.reduceMul, Nat.reduceSub, ↓reduceIte, decide_true, decide_false, Bool.true_eq_false, Bool.false_eq_true, Bool.not_true, Bool.not_false, if_true, if_false, and_true, true_and, memE, celE, w64, Nat.zero_add, Nat.add_zero, Nat.mul_one, putL, and_self, ldn, c_impl_isAscending, r_impl_isAscending, hu.len]
  refine loop_inv mixed (fun s => ∃ i : Nat, i ≤ ps.length ∧ (∀ j, j < i → (0 ≤ ps.getD j 0 ∧ ps.getD j 0 ≤ (n : Int) - 1) ∧ (0 < j → ps.getD (j - 1) 0 < ps.getD j 0)) ∧ s.t 1 = .int .i64 (n : Int) ∧ s.t 5 = .int .i64 (if i = 0 then 0 else ps.getD (i - 1) 0 + 1) ∧ s.t 8 = u ∧ s.t 9 = .int .i64 (ps.length : Int) ∧ s.t 10 = .int .i64 (i : Int) ∧ s.m = roM m) (fun s => ps.length - (intOf (s.t 10)).toNat)
    ⟨0, by omega, fun j hj => absurd hj (by omega), rfl, rfl, rfl, rfl, rfl, rfl⟩ ?_
  rintro s ⟨i, hk, hall, t1, t5, t8, t9, t10, tm⟩
  obtain ⟨x, hx⟩ : ∃ x : Int, x = if i = 0 then 0 else ps.getD (i - 1) 0 + 1 := ⟨_, rfl⟩
  rw [← hx] at t5
  have nx : ((0 ≤ ps.getD i 0 ∧ ps.getD i 0 ≤ (n : Int) - 1) ∧ (0 < i → ps.getD (i - 1) 0 < ps.getD i 0)) → ∀ j, j < i + 1 → (0 ≤ ps.getD j 0 ∧ ps.getD j 0 ≤ (n : Int) - 1) ∧ (0 < j → ps.getD (j - 1) 0 < ps.getD j 0) := fun hh j hj => by
    by_cases e : j < i
    · exact hall j e
    · have : j = i := by omega
      rw [this]; exact hh
  by_cases hlt : i < ps.length
  · have hlt' : (i : Int) < ps.length := by omega
    have ai := hu.at_ i hlt
    have li := hu.ld i hlt
    have hx1 : (ps.getD i 0 < x) ↔ ¬ (0 ≤ ps.getD i 0 ∧ (0 < i → ps.getD (i - 1) 0 < ps.getD i 0)) := by
      rw [hx]
      split
      · rename_i h0; subst h0; constructor
        · intro h1 h2; omega
        · intro h1; apply Int.not_le.1; intro h2; exact h1 ⟨h2, fun h => by omega⟩
      · rename_i h0
        have := (hall (i - 1) (by omega)).1
        constructor
        · intro h1 h2; have := h2.2 (by omega); omega
        · intro h1; apply Int.not_le.1; intro h2; exact h1 ⟨by omega, fun _ => by omega⟩
    by_cases hlo : ps.getD i 0 < x
    · simp (config := {implicitDefEqProofs := false, maxDischargeDepth := 20}) (disch := first | omega | (simp only [lenE]; done) | (simp only [lenE]; omega) | rfl | (simp only [lenE, markR_len]; done) | (simp only [lenE, markR_len]; omega)) only [runE, mapE, listE, initT_5, initT_6, initT_7, initT_8, resV, oneV, binA, unA, reduceCtorEq, Nat.reduceEqDiff, Nat.reduceAdd, Nat.reduceLT, Nat.reduceLeDiff, Nat.reduceMul, Nat.reduceSub, ↓reduceIte, decide_true, decide_false, Bool.true_eq_false, Bool.false_eq_true, Bool.not_true, Bool.not_false, if_true, if_false, and_true, true_and, memE, celE, w64, Nat.zero_add, Nat.add_zero, Nat.mul_one, putL, and_self, ldn, t1, t5, t8, t9, t10, tm, hlt', ai, li, hlo, goG_undef]
      rw [risB_no hlt fun hh => (hx1.1 hlo) ⟨hh.1.1, hh.2⟩]
      exact ext_ansV (Ext.refl m) rfl
    · have hge : (0 ≤ ps.getD i 0 ∧ (0 < i → ps.getD (i - 1) 0 < ps.getD i 0)) := Classical.byContradiction fun hh => hlo (hx1.2 hh)
      by_cases hhi : (n : Int) ≤ ps.getD i 0
      · simp (config := {implicitDefEqProofs := false, maxDischargeDepth := 20}) (disch := first | omega | (simp only [lenE]; done) | (simp only [lenE]; omega) | rfl | (simp only [lenE, markR_len]; done) | (simp only [lenE, markR_len]; omega)) only [runE, mapE, listE, initT_5, initT_6, initT_7, initT_8, resV, oneV, binA, unA, reduceCtorEq, Nat.reduceEqDiff, Nat.reduceAdd, Nat.reduceLT, Nat.reduceLeDiff, Nat.reduceMul, Nat.reduceSub, ↓reduceIte, decide_true, decide_false, Bool.true_eq_false, Bool.false_eq_true, Bool.not_true, Bool.not_false, if_true, if_false, and_true, true_and, memE, celE, w64, Nat.zero_add, Nat.add_zero, Nat.mul_one, putL, and_self, ldn, t1, t5, t8, t9, t10, tm, hlt', ai, li, hlo, hhi, ge_iff_le, goG_undef]
        rw [risB_no hlt fun hh => by omega]
        exact ext_ansV (Ext.refl m) rfl
      · simp (config := {implicitDefEqProofs := false, maxDischargeDepth := 20}) (disch := first | omega | (simp only [lenE]; done) | (simp only [lenE]; omega) | rfl | (simp only [lenE, markR_len]; done) | (simp only [lenE, markR_len]; omega)) only [runE, mapE, listE, initT_5, initT_6, initT_7, initT_8, resV, oneV, binA, unA, reduceCtorEq, Nat.reduceEqDiff, Nat.reduceAdd, Nat.reduceLT, Nat.reduceLeDiff, Nat.reduceMul, Nat.reduceSub, ↓reduceIte, decide_true, decide_false, Bool.true_eq_false, Bool.false_eq_true, Bool.not_true, Bool.not_false, if_true, if_false, and_true, true_and, memE, celE, w64, Nat.zero_add, Nat.add_zero, Nat.mul_one, putL, and_self, ldn, t1, t5, t8, t9, t10, tm, hlt', ai, li, hlo, hhi, ge_iff_le, goG_undef]
        refine ⟨⟨i + 1, by omega, nx ⟨⟨hge.1, by omega⟩, hge.2⟩, ?_⟩, ?_⟩
        · exact ⟨by rw [if_neg (by omega), Nat.add_sub_cancel], by simp⟩
        · simp [intOf]; omega
  · have e : i = ps.length := by omega
    subst e
    have hirr : ¬ ((ps.length : Int) < ps.length) := by omega
    simp (config := {implicitDefEqProofs := false, maxDischargeDepth := 20}) (disch := first | omega | (simp only [lenE]; done) | (simp only [lenE]; omega) | rfl | (simp only [lenE, markR_len]; done) | (simp only [lenE, markR_len]; omega)) only [runE, mapE, listE, initT_5, initT_6, initT_7, initT_8, resV, oneV, binA, unA, reduceCtorEq, Nat.reduceEqDiff, Nat.reduceAdd, Nat.reduceLT, Nat.reduceLeDiff, Nat.reduceMul, Nat.reduceSub, ↓reduceIte, decide_true, decide_false, Bool.true_eq_false, Bool.false_eq_true, Bool.not_true, Bool.not_false, if_true, if_false, and_true, true_and, memE, celE, w64, Nat.zero_add, Nat.add_zero, Nat.mul_one, putL, and_self, ldn, t1, t5, t8, t9, t10, tm, hirr]
    have hr : risB ps n = true := decide_eq_true hall
    rw [hr]
    exact ext_ansV (Ext.refl m) rfl
end Go.Proofs.Ytdgfbmilbhckiaa.Ab
end
section
namespace Go.Proofs.Ytdgfbmilbhckiaa.Ab
open Go Go.RowKit
set_option linter.unusedVariables false
set_option linter.unusedSimpArgs false
def usI (life : Int) (f : Nat) (t : Int) : Bool := decide ((f : Int) ≤ t) && decide (t < f + life)
def useAny (s : Sh) (set : List Int) (f : Nat) : Bool := set.any (usI s.life f)
def needS (s : Sh) (set : List Int) : Nat → Int
  | 0 => 0
  | k + 1 => needS s set k + s.need.getD (set.getD k 0).toNat 0
def subA (s : Sh) (set : List Int) : Nat → Int
  | 0 => 0
  | f + 1 => subA s set f + if useAny s set f then s.arr.getD f 0 else 0
def boundV (s : Sh) (set : List Int) : Int := needS s set set.length - subA s set s.arr.length
theorem needS_bd {s : Sh} (hg : GoodSh s) {set : List Int} (hr : Rising set s.need.length) (k : Nat) (hk : k ≤ set.length) : 0 ≤ needS s set k ∧ needS s set k ≤ 20 * k := by
  induction k with
  | zero => simp [needS]
  | succ k ih =>
    have := ih (by omega)
    have b := hr.bd k (by omega)
    have := memD9 hg.need (k := (set.getD k 0).toNat) (by omega)
    simp only [needS]; omega
theorem subA_bd {s : Sh} (hg : GoodSh s) (set : List Int) (k : Nat) (hk : k ≤ s.arr.length) : 0 ≤ subA s set k ∧ subA s set k ≤ 20 * k := by
  induction k with
  | zero => simp [subA]
  | succ k ih =>
    have := ih (by omega)
    have := memD9 hg.arr (k := k) (by omega)
    simp only [subA]
    split <;> omega
def lboundOk (s : Sh) (set : List Int) : Bool := s.good && risB set s.need.length
def lboundA (s : Sh) (set : List Int) : Int := if lboundOk s set then boundV s set else 0
def anyTo (s : Sh) (set : List Int) (f : Nat) : Nat → Bool
  | 0 => false
  | j + 1 => anyTo s set f j || usI s.life f (set.getD j 0)
theorem anyTo_all (s : Sh) (set : List Int) (f : Nat) : anyTo s set f set.length = useAny s set f := by
  have : ∀ j, j ≤ set.length → anyTo s set f j = (set.take j).any (usI s.life f) := by
    intro j
    induction j with
    | zero => intro _; rfl
    | succ j ih =>
      intro hj
      rw [take_next (by omega), List.any_append, anyTo, ih (by omega)]
      simp
  rw [this _ (Nat.le_refl _), List.take_length, useAny]
theorem usable9_rc (m : Mem) (v : Value) (s : Sh) (f : Nat) (t : Int) (h : ShA m v s) (hf : f ≤ 100) (hl : 0 ≤ s.life ∧ s.life ≤ 8) : RC Try.prog 92 [v, .int .i64 (f : Int), .int .i64 t] m (AnsV (.bool (usI s.life f t))) := by
  refine rc_of_run mixed ok_spec_l9Usable (by simp) (go_start _ _ _ ?_)
  obtain ⟨a, b, rfl, ha, hb⟩ := h.ro
  unfold usI
  by_cases g : (f : Int) ≤ t
  · simp (config := {implicitDefEqProofs := false, maxDischargeDepth := 20}) (disch := first | omega | (simp only [lenE]; done) | (simp only [lenE]; omega) | rfl | (simp only [lenE, markR_len]; done) | (simp only [lenE, markR_len]; omega)) only [runE, mapE, listE, initT_5, initT_6, initT_7, initT_8, resV, oneV, binA, unA, reduceCtorEq, Nat.reduceEqDiff, Nat.reduceAdd, Nat.reduceLT, Nat.reduceLeDiff, Nat.reduceMul, Nat.reduceSub, ↓reduceIte, decide_true, decide_false, Bool.true_eq_false, Bool.false_eq_true, Bool.not_true, Bool.not_false, if_true, if_false, and_true, true_and, memE, celE, w64, Nat.zero_add, Nat.add_zero, Nat.mul_one, putL, and_self, ldn, c_spec_l9Usable, r_spec_l9Usable, g]
    try simp only [List.append_assoc, List.cons_append, List.nil_append, List.append_nil]
    exact ⟨_, rfl, by (repeat (first | exact noRo_nil | assumption | apply noRo_own | apply noRo_dead | apply noRo_app)), by simp, by (repeat (first | exact noRo_nil | assumption | apply noRo_own | apply noRo_dead | apply noRo_app))⟩
  · simp (config := {implicitDefEqProofs := false, maxDischargeDepth := 20}) (disch := first | omega | (simp only [lenE]; done) | (simp only [lenE]; omega) | rfl | (simp only [lenE, markR_len]; done) | (simp only [lenE, markR_len]; omega)) only [runE, mapE, listE, initT_5, initT_6, initT_7, initT_8, resV, oneV, binA, unA, reduceCtorEq, Nat.reduceEqDiff, Nat.reduceAdd, Nat.reduceLT, Nat.reduceLeDiff, Nat.reduceMul, Nat.reduceSub, ↓reduceIte, decide_true, decide_false, Bool.true_eq_false, Bool.false_eq_true, Bool.not_true, Bool.not_false, if_true, if_false, and_true, true_and, memE, celE, w64, Nat.zero_add, Nat.add_zero, Nat.mul_one, putL, and_self, ldn, c_spec_l9Usable, r_spec_l9Usable, g]
    try simp only [List.append_assoc, List.cons_append, List.nil_append, List.append_nil]
    exact ⟨_, rfl, by (repeat (first | exact noRo_nil | assumption | apply noRo_own | apply noRo_dead | apply noRo_app)), by simp [g], by (repeat (first | exact noRo_nil | assumption | apply noRo_own | apply noRo_dead | apply noRo_app))⟩
theorem isFresh9_rc (m : Mem) (f : Nat) (t life : Int) (hf : f ≤ 100) (hl : 0 ≤ life ∧ life ≤ 8) : RC Try.prog 102 [.int .i64 (f : Int), .int .i64 t, .int .i64 life] m fun r new => r = .bool (usI life f t) ∧ new = [] := by
  refine rc_of_run mixed ok_impl_isFresh (by simp) (go_start _ _ _ ?_)
  unfold usI
  by_cases g : (f : Int) ≤ t
  · simp (config := {implicitDefEqProofs := false, maxDischargeDepth := 20}) (disch := first | omega | (simp only [lenE]; done) | (simp only [lenE]; omega) | rfl | (simp only [lenE, markR_len]; done) | (simp only [lenE, markR_len]; omega)) only [runE, mapE, listE, initT_5, initT_6, initT_7, initT_8, resV, oneV, binA, unA, reduceCtorEq, Nat.reduceEqDiff, Nat.reduceAdd, Nat.reduceLT, Nat.reduceLeDiff, Nat.reduceMul, Nat.reduceSub, ↓reduceIte, decide_true, decide_false, Bool.true_eq_false, Bool.false_eq_true, Bool.not_true, Bool.not_false, if_true, if_false, and_true, true_and, memE, celE, w64, Nat.zero_add, Nat.add_zero, Nat.mul_one, putL, and_self, ldn, c_impl_isFresh, r_impl_isFresh, g]
    exact newQ_nil ⟨by simp, rfl⟩
  · simp (config := {implicitDefEqProofs := false, maxDischargeDepth := 20}) (disch := first | omega | (simp only [lenE]; done) | (simp only [lenE]; omega) | rfl | (simp only [lenE, markR_len]; done) | (simp only [lenE, markR_len]; omega)) only [runE, mapE, listE, initT_5, initT_6, initT_7, initT_8, resV, oneV, binA, unA, reduceCtorEq, Nat.reduceEqDiff, Nat.reduceAdd, Nat.reduceLT, Nat.reduceLeDiff, Nat.reduceMul, Nat.reduceSub, ↓reduceIte, decide_true, decide_false, Bool.true_eq_false, Bool.false_eq_true, Bool.not_true, Bool.not_false, if_true, if_false, and_true, true_and, memE, celE, w64, Nat.zero_add, Nat.add_zero, Nat.mul_one, putL, and_self, ldn, c_impl_isFresh, r_impl_isFresh, g]
    exact newQ_nil ⟨by simp [g], rfl⟩
theorem fresh_test (m : Mem) (i1 i2 : Nat) (f : Nat) (life : Int) (h1 : rdc m i1 0 = some (.int .i64 (f : Int))) (h2 : rdc m i2 0 = some (.int .i64 life)) (hf : f ≤ 100) (hl : 0 ≤ life ∧ life ≤ 8) :
    TestA m (.func (.func 101) #[] #[.pointer (some ⟨i1, 0, none⟩), .pointer (some ⟨i2, 0, none⟩)]) (usI life f) := by
  refine ⟨_, _, rfl, fun x m' hm => ?_⟩
  refine rc_of_run mixed ok_impl_lostBound_1 (by simp) (go_start _ _ _ ?_)
  have h1' : rdc (roM m') i1 0 = some (.int .i64 (f : Int)) := by rw [rdc_roM]; exact hm _ _ _ h1
  have h2' : rdc (roM m') i2 0 = some (.int .i64 life) := by rw [rdc_roM]; exact hm _ _ _ h2
  simp (config := {implicitDefEqProofs := false, maxDischargeDepth := 20}) (disch := first | omega | (simp only [lenE]; done) | (simp only [lenE]; omega) | rfl | (simp only [lenE, markR_len]; done) | (simp only [lenE, markR_len]; omega)) only [runE, mapE, listE, initT_5, initT_6, initT_7, initT_8, resV, oneV, binA, unA, reduceCtorEq, Nat.reduceEqDiff, Nat.reduceAdd, Nat.reduceLT, Nat.reduceLeDiff, Nat.reduceMul, Nat.reduceSub, ↓reduceIte, decide_true, decide_false, Bool.true_eq_false, Bool.false_eq_true, Bool.not_true, Bool.not_false, if_true, if_false, and_true, true_and, memE, celE, w64, Nat.zero_add, Nat.add_zero, Nat.mul_one, putL, and_self, ldn, c_impl_lostBound_1, r_impl_lostBound_1, h1', h2']
  refine callH_rc (isFresh9_rc _ f x life hf hl) ?_
  rintro r new ⟨rfl, rfl⟩
  simp (config := {implicitDefEqProofs := false, maxDischargeDepth := 20}) (disch := first | omega | (simp only [lenE]; done) | (simp only [lenE]; omega) | rfl | (simp only [lenE, markR_len]; done) | (simp only [lenE, markR_len]; omega)) only [runE, mapE, listE, initT_5, initT_6, initT_7, initT_8, resV, oneV, binA, unA, reduceCtorEq, Nat.reduceEqDiff, Nat.reduceAdd, Nat.reduceLT, Nat.reduceLeDiff, Nat.reduceMul, Nat.reduceSub, ↓reduceIte, decide_true, decide_false, Bool.true_eq_false, Bool.false_eq_true, Bool.not_true, Bool.not_false, if_true, if_false, and_true, true_and, memE, celE, w64, Nat.zero_add, Nat.add_zero, Nat.mul_one, putL, and_self, ldn]
  exact newQ_nil ⟨rfl, rfl⟩
theorem l9Bound_rc (m : Mem) (v u : Value) (s : Sh) (set : List Int) (h : ShA m v s) (hu : IntsA m u set) (hg : GoodSh s) (hr : Rising set s.need.length) :
    RC Try.prog 61 [v, u] m (AnsV (.int .i64 (boundV s set))) := by
  refine rc_of_run mixed ok_spec_l9Bound (by simp) (go_start _ _ _ ?_)
  obtain ⟨a, b, rfl, ha, hb⟩ := h.ro
  have hu' := hu.ro
  have hla := hg.la
  have n8 := hg.n8
  have l1 := hg.l1
  have l8 := hg.l8
  have sl := hr.len
  have hX := (Ext.refl m).one 26 [.int .i64 s.life, a, b, .int .i64 s.waste, .int .i64 s.lost]
  simp (config := {implicitDefEqProofs := false, maxDischargeDepth := 20}) (disch := first | omega | (simp only [lenE]; done) | (simp only [lenE]; omega) | rfl | (simp only [lenE, markR_len]; done) | (simp only [lenE, markR_len]; omega)) only [runE, mapE, listE, initT_5, initT_6, initT_7, initT_8, resV, oneV, binA, unA, reduceCtorEq, Nat.reduceEqDiff, Nat.reduceAdd, Nat.reduceLT, Nat.reduceLeDiff, Nat.reduceMul, Nat.reduceSub, ↓reduceIte, decide_true, decide_false, Bool.true_eq_false, Bool.false_eq_true, Bool.not_true, Bool.not_false, if_true, if_false, and_true, true_and, memE, celE, w64, Nat.zero_add, Nat.add_zero, Nat.mul_one, putL, and_self, ldn, c_spec_l9Bound, r_spec_l9Bound]
  obtain ⟨M0, hM0⟩ : ∃ M0, M0 = roM m ++ [⟨.own, 26, [.int .i64 s.life, a, b, .int .i64 s.waste, .int .i64 s.lost]⟩] := ⟨_, rfl⟩
  have o1 : OwnB M0 m.length 26 [.int .i64 s.life, a, b, .int .i64 s.waste, .int .i64 s.lost] := by rw [hM0]; exact OwnB.here (by simp [roM_len])
  rw [← hM0] at hX ⊢
  have ub := hX.ints hu'
  have bb := hX.ints hb
  have hbx := needS_bd hg hr
  refine loop_inv mixed (fun s' => ∃ k : Nat, k ≤ set.length ∧ s'.m = M0 ∧ s'.t 1 = u ∧ s'.t 2 = .pointer (some ⟨m.length, 0, none⟩) ∧ s'.t 5 = .int .i64 (needS s set k) ∧ s'.t 6 = .int .i64 (k : Int)) (fun s' => set.length - (intOf (s'.t 6)).toNat)
    ⟨0, by omega, rfl, rfl, rfl, rfl, rfl⟩ ?_
  rintro s' ⟨k, hk, tm, t1, t2, t5, t6⟩
  by_cases hlt : k < set.length
  · have hlt' : (k : Int) < set.length := by omega
    have b0 := hr.bd k hlt
    obtain ⟨p, hp⟩ : ∃ p : Nat, set.getD k 0 = (p : Int) := ⟨(set.getD k 0).toNat, by omega⟩
    have ld := ub.ld k hlt
    rw [hp] at ld
    have pn : p < s.need.length := by omega
    have w := memD9 hg.need pn
    have w2 := hbx k (by omega)
    simp (config := {implicitDefEqProofs := false, maxDischargeDepth := 20}) (disch := first | omega | (simp only [lenE]; done) | (simp only [lenE]; omega) | rfl | (simp only [lenE, markR_len]; done) | (simp only [lenE, markR_len]; omega)) only [runE, mapE, listE, initT_5, initT_6, initT_7, initT_8, resV, oneV, binA, unA, reduceCtorEq, Nat.reduceEqDiff, Nat.reduceAdd, Nat.reduceLT, Nat.reduceLeDiff, Nat.reduceMul, Nat.reduceSub, ↓reduceIte, decide_true, decide_false, Bool.true_eq_false, Bool.false_eq_true, Bool.not_true, Bool.not_false, if_true, if_false, and_true, true_and, memE, celE, w64, Nat.zero_add, Nat.add_zero, Nat.mul_one, putL, and_self, ldn, tm, t1, t2, t5, t6, ub.len, hlt', ub.at_ k hlt, ld, o1.rd, bb.at_ p pn, bb.ld p pn]
    refine ⟨⟨k + 1, by omega, by rw [needS, hp, Int.toNat_natCast], by simp⟩, ?_⟩
    simp [intOf]; omega
  · have hlt' : ¬ ((k : Int) < set.length) := by omega
    have e : k = set.length := by omega
    subst e
    simp (config := {implicitDefEqProofs := false, maxDischargeDepth := 20}) (disch := first | omega | (simp only [lenE]; done) | (simp only [lenE]; omega) | rfl | (simp only [lenE, markR_len]; done) | (simp only [lenE, markR_len]; omega)) only [runE, mapE, listE, initT_5, initT_6, initT_7, initT_8, resV, oneV, binA, unA, reduceCtorEq, Nat.reduceEqDiff, Nat.reduceAdd, Nat.reduceLT, Nat.reduceLeDiff, Nat.reduceMul, Nat.reduceSub, ↓reduceIte, decide_true, decide_false, Bool.true_eq_false, Bool.false_eq_true, Bool.not_true, Bool.not_false, if_true, if_false, and_true, true_and, memE, celE, w64, Nat.zero_add, Nat.add_zero, Nat.mul_one, putL, and_self, ldn, tm, t1, t2, t5, t6, ub.len, hlt']
    have w2 := hbx set.length (Nat.le_refl _)
    refine loop_inv mixed (fun s' => ∃ (f : Nat) (M : Mem), f ≤ s.arr.length ∧ s'.m = M ∧ Ext m M ∧ OwnB M m.length 26 [.int .i64 s.life, a, b, .int .i64 s.waste, .int .i64 s.lost] ∧ s'.t 1 = u ∧ s'.t 2 = .pointer (some ⟨m.length, 0, none⟩) ∧ s'.t 5 = .int .i64 (needS s set set.length - subA s set f) ∧ s'.t 7 = .int .i64 (f : Int)) (fun s' => s.arr.length - (intOf (s'.t 7)).toNat)
      ⟨0, M0, by omega, (by first | exact tm | rfl), hX, o1, (by first | exact t1 | simp only [put_t, put_t', put_m, putT_t, putT_t', putT_m, init_t, init_m, initT_0, initT_1, initT_2, initT_3, initT_4, initT_5, initT_6, initT_7, initT_8, Nat.reduceEqDiff, ↓reduceIte, t1]), (by first | exact t2 | simp only [put_t, put_t', put_m, putT_t, putT_t', putT_m, init_t, init_m, initT_0, initT_1, initT_2, initT_3, initT_4, initT_5, initT_6, initT_7, initT_8, Nat.reduceEqDiff, ↓reduceIte, t2]), (by simp only [put_t, put_t', put_m, putT_t, putT_t', putT_m, init_t, init_m, initT_0, initT_1, initT_2, initT_3, initT_4, initT_5, initT_6, initT_7, initT_8, Nat.reduceEqDiff, ↓reduceIte, t5]; simp [subA]), rfl⟩ ?_
    clear tm t1 t2 t5 t6 ub bb o1 hX hM0
    rintro s' ⟨f, M, hf, tm, hX, o1, t1, t2, t5, t7⟩
    have ab := hX.ints ha
    have w3 := subA_bd hg set f hf
    by_cases hfl : f < s.arr.length
    · have hfl' : (f : Int) < s.arr.length := by omega
      have w4 := memD9 hg.arr hfl
      simp (config := {implicitDefEqProofs := false, maxDischargeDepth := 20}) (disch := first | omega | (simp only [lenE]; done) | (simp only [lenE]; omega) | rfl | (simp only [lenE, markR_len]; done) | (simp only [lenE, markR_len]; omega)) only [runE, mapE, listE, initT_5, initT_6, initT_7, initT_8, resV, oneV, binA, unA, reduceCtorEq, Nat.reduceEqDiff, Nat.reduceAdd, Nat.reduceLT, Nat.reduceLeDiff, Nat.reduceMul, Nat.reduceSub, ↓reduceIte, decide_true, decide_false, Bool.true_eq_false, Bool.false_eq_true, Bool.not_true, Bool.not_false, if_true, if_false, and_true, true_and, memE, celE, w64, Nat.zero_add, Nat.add_zero, Nat.mul_one, putL, and_self, ldn, tm, t1, t2, t5, t7, o1.rd, ab.len, hfl']
      refine loop_inv mixed (fun s' => ∃ (j : Nat) (M : Mem), j ≤ set.length ∧ s'.m = M ∧ Ext m M ∧ OwnB M m.length 26 [.int .i64 s.life, a, b, .int .i64 s.waste, .int .i64 s.lost] ∧ s'.t 1 = u ∧ s'.t 2 = .pointer (some ⟨m.length, 0, none⟩) ∧ s'.t 5 = .int .i64 (needS s set set.length - subA s set f) ∧ s'.t 7 = .int .i64 (f : Int) ∧ s'.t 8 = .bool (anyTo s set f j) ∧ s'.t 9 = .int .i64 (j : Int)) (fun s' => set.length - (intOf (s'.t 9)).toNat)
        ⟨0, M, by omega, (by first | exact tm | rfl), hX, o1, (by first | exact t1 | simp only [put_t, put_t', put_m, putT_t, putT_t', putT_m, init_t, init_m, initT_0, initT_1, initT_2, initT_3, initT_4, initT_5, initT_6, initT_7, initT_8, Nat.reduceEqDiff, ↓reduceIte, t1]), (by first | exact t2 | simp only [put_t, put_t', put_m, putT_t, putT_t', putT_m, init_t, init_m, initT_0, initT_1, initT_2, initT_3, initT_4, initT_5, initT_6, initT_7, initT_8, Nat.reduceEqDiff, ↓reduceIte, t2]), (by first | exact t5 | simp only [put_t, put_t', put_m, putT_t, putT_t', putT_m, init_t, init_m, initT_0, initT_1, initT_2, initT_3, initT_4, initT_5, initT_6, initT_7, initT_8, Nat.reduceEqDiff, ↓reduceIte, t5]), (by first | exact t7 | simp only [put_t, put_t', put_m, putT_t, putT_t', putT_m, init_t, init_m, initT_0, initT_1, initT_2, initT_3, initT_4, initT_5, initT_6, initT_7, initT_8, Nat.reduceEqDiff, ↓reduceIte, t7]), rfl, rfl⟩ ?_
      clear tm hX o1 t1 t2 t5 t7 ab
      rintro s' ⟨j, M, hj, tm, hX, o1, t1, t2, t5, t7, t8, t9⟩
      have ub := hX.ints hu'
      have ab := hX.ints ha
      by_cases hjl : j < set.length
      · have hjl' : (j : Int) < set.length := by omega
        cases hq : anyTo s set f j with
        | true =>
          rw [hq] at t8
          simp (config := {implicitDefEqProofs := false, maxDischargeDepth := 20}) (disch := first | omega | (simp only [lenE]; done) | (simp only [lenE]; omega) | rfl | (simp only [lenE, markR_len]; done) | (simp only [lenE, markR_len]; omega)) only [runE, mapE, listE, initT_5, initT_6, initT_7, initT_8, resV, oneV, binA, unA, reduceCtorEq, Nat.reduceEqDiff, Nat.reduceAdd, Nat.reduceLT, Nat.reduceLeDiff, Nat.reduceMul, Nat.reduceSub, ↓reduceIte, decide_true, decide_false, Bool.true_eq_false, Bool.false_eq_true, Bool.not_true, Bool.not_false, if_true, if_false, and_true, true_and, memE, celE, w64, Nat.zero_add, Nat.add_zero, Nat.mul_one, putL, and_self, ldn, tm, t1, t2, t5, t7, t8, t9, ub.len, hjl', goG_undef]
          refine ⟨⟨j + 1, M, by omega, rfl, hX, o1, by rw [anyTo, hq]; rfl, by simp⟩, ?_⟩
          simp [intOf]; omega
        | false =>
          rw [hq] at t8
          simp (config := {implicitDefEqProofs := false, maxDischargeDepth := 20}) (disch := first | omega | (simp only [lenE]; done) | (simp only [lenE]; omega) | rfl | (simp only [lenE, markR_len]; done) | (simp only [lenE, markR_len]; omega)) only [runE, mapE, listE, initT_5, initT_6, initT_7, initT_8, resV, oneV, binA, unA, reduceCtorEq, Nat.reduceEqDiff, Nat.reduceAdd, Nat.reduceLT, Nat.reduceLeDiff, Nat.reduceMul, Nat.reduceSub, ↓reduceIte, decide_true, decide_false, Bool.true_eq_false, Bool.false_eq_true, Bool.not_true, Bool.not_false, if_true, if_false, and_true, true_and, memE, celE, w64, Nat.zero_add, Nat.add_zero, Nat.mul_one, putL, and_self, ldn, tm, t1, t2, t5, t7, t8, t9, ub.len, hjl', o1.rd, ub.at_ j hjl, ub.ld j hjl]
          have K := usable9_rc M _ s f (set.getD j 0) (ShA.mk ab (hX.ints hb)) (by omega) ⟨by omega, l8⟩
          refine rcallH_rc K ?_
          rintro r n2 ⟨rfl, nr2⟩
          simp (config := {implicitDefEqProofs := false, maxDischargeDepth := 20}) (disch := first | omega | (simp only [lenE]; done) | (simp only [lenE]; omega) | rfl | (simp only [lenE, markR_len]; done) | (simp only [lenE, markR_len]; omega)) only [runE, mapE, listE, initT_5, initT_6, initT_7, initT_8, resV, oneV, binA, unA, reduceCtorEq, Nat.reduceEqDiff, Nat.reduceAdd, Nat.reduceLT, Nat.reduceLeDiff, Nat.reduceMul, Nat.reduceSub, ↓reduceIte, decide_true, decide_false, Bool.true_eq_false, Bool.false_eq_true, Bool.not_true, Bool.not_false, if_true, if_false, and_true, true_and, memE, celE, w64, Nat.zero_add, Nat.add_zero, Nat.mul_one, putL, and_self, ldn, t1, t2, t5, t7, t8, t9]
          refine ⟨⟨j + 1, M ++ n2, by omega, rfl, hX.app nr2, o1.ext _, by rw [anyTo, hq]; rfl, by simp⟩, ?_⟩
          simp [intOf]; omega
      · have hjl' : ¬ ((j : Int) < set.length) := by omega
        have e : j = set.length := by omega
        subst e
        rw [anyTo_all] at t8
        cases hq : useAny s set f with
        | true =>
          rw [hq] at t8
          simp (config := {implicitDefEqProofs := false, maxDischargeDepth := 20}) (disch := first | omega | (simp only [lenE]; done) | (simp only [lenE]; omega) | rfl | (simp only [lenE, markR_len]; done) | (simp only [lenE, markR_len]; omega)) only [runE, mapE, listE, initT_5, initT_6, initT_7, initT_8, resV, oneV, binA, unA, reduceCtorEq, Nat.reduceEqDiff, Nat.reduceAdd, Nat.reduceLT, Nat.reduceLeDiff, Nat.reduceMul, Nat.reduceSub, ↓reduceIte, decide_true, decide_false, Bool.true_eq_false, Bool.false_eq_true, Bool.not_true, Bool.not_false, if_true, if_false, and_true, true_and, memE, celE, w64, Nat.zero_add, Nat.add_zero, Nat.mul_one, putL, and_self, ldn, tm, t1, t2, t5, t7, t8, t9, ub.len, hjl', o1.rd, ab.at_ f hfl, ab.ld f hfl]
          refine ⟨⟨f + 1, M, by omega, rfl, hX, o1, by rw [subA, hq, if_pos rfl]; congr 1; omega, by simp⟩, ?_⟩
          simp [intOf]; omega
        | false =>
          rw [hq] at t8
          simp (config := {implicitDefEqProofs := false, maxDischargeDepth := 20}) (disch := first | omega | (simp only [lenE]; done) | (simp only [lenE]; omega) | rfl | (simp only [lenE, markR_len]; done) | (simp only [lenE, markR_len]; omega)) only [runE, mapE, listE, initT_5, initT_6, initT_7, initT_8, resV, oneV, binA, unA, reduceCtorEq, Nat.reduceEqDiff, Nat.reduceAdd, Nat.reduceLT, Nat.reduceLeDiff, Nat.reduceMul, Nat.reduceSub, ↓reduceIte, decide_true, decide_false, Bool.true_eq_false, Bool.false_eq_true, Bool.not_true, Bool.not_false, if_true, if_false, and_true, true_and, memE, celE, w64, Nat.zero_add, Nat.add_zero, Nat.mul_one, putL, and_self, ldn, tm, t1, t2, t5, t7, t8, t9, ub.len, hjl']
          refine ⟨⟨f + 1, M, by omega, rfl, hX, o1, by rw [subA, hq, if_neg (by simp)]; congr 1; omega, by simp⟩, ?_⟩
          simp [intOf]; omega
    · have hfl' : ¬ ((f : Int) < s.arr.length) := by omega
      have e : f = s.arr.length := by omega
      subst e
      simp (config := {implicitDefEqProofs := false, maxDischargeDepth := 20}) (disch := first | omega | (simp only [lenE]; done) | (simp only [lenE]; omega) | rfl | (simp only [lenE, markR_len]; done) | (simp only [lenE, markR_len]; omega)) only [runE, mapE, listE, initT_5, initT_6, initT_7, initT_8, resV, oneV, binA, unA, reduceCtorEq, Nat.reduceEqDiff, Nat.reduceAdd, Nat.reduceLT, Nat.reduceLeDiff, Nat.reduceMul, Nat.reduceSub, ↓reduceIte, decide_true, decide_false, Bool.true_eq_false, Bool.false_eq_true, Bool.not_true, Bool.not_false, if_true, if_false, and_true, true_and, memE, celE, w64, Nat.zero_add, Nat.add_zero, Nat.mul_one, putL, and_self, ldn, tm, t1, t2, t5, t7, o1.rd, ab.len, hfl']
      exact ext_ansV hX rfl
theorem lostBound_rc (m : Mem) (v u : Value) (s : Sh) (set : List Int) (h : ShA m v s) (hu : IntsA m u set) (hg : GoodSh s) (hr : Rising set s.need.length) :
    RC Try.prog 59 [v, u] m (AnsV (.int .i64 (boundV s set))) := by
  refine rc_of_run mixed ok_impl_lostBound (by simp) (go_start _ _ _ ?_)
  obtain ⟨a, b, rfl, ha, hb⟩ := h.ro
  have hu' := hu.ro
  have hla := hg.la
  have n8 := hg.n8
  have l1 := hg.l1
  have l8 := hg.l8
  have sl := hr.len
  have hX := (Ext.refl m).one 26 [.int .i64 s.life, a, b, .int .i64 s.waste, .int .i64 s.lost]
  simp (config := {implicitDefEqProofs := false, maxDischargeDepth := 20}) (disch := first | omega | (simp only [lenE]; done) | (simp only [lenE]; omega) | rfl | (simp only [lenE, markR_len]; done) | (simp only [lenE, markR_len]; omega)) only [runE, mapE, listE, initT_5, initT_6, initT_7, initT_8, resV, oneV, binA, unA, reduceCtorEq, Nat.reduceEqDiff, Nat.reduceAdd, Nat.reduceLT, Nat.reduceLeDiff, Nat.reduceMul, Nat.reduceSub, ↓reduceIte, decide_true, decide_false, Bool.true_eq_false, Bool.false_eq_true, Bool.not_true, Bool.not_false, if_true, if_false, and_true, true_and, memE, celE, w64, Nat.zero_add, Nat.add_zero, Nat.mul_one, putL, and_self, ldn, c_impl_lostBound, r_impl_lostBound, hu'.len]
  obtain ⟨M0, hM0⟩ : ∃ M0, M0 = roM m ++ [⟨.own, 26, [.int .i64 s.life, a, b, .int .i64 s.waste, .int .i64 s.lost]⟩] := ⟨_, rfl⟩
  have o1 : OwnB M0 m.length 26 [.int .i64 s.life, a, b, .int .i64 s.waste, .int .i64 s.lost] := by rw [hM0]; exact OwnB.here (by simp [roM_len])
  rw [← hM0] at hX ⊢
  have ub := hX.ints hu'
  have bb := hX.ints hb
  have ab := hX.ints ha
  have hbx := needS_bd hg hr
  refine loop_inv mixed (fun s' => ∃ k : Nat, k ≤ set.length ∧ s'.m = M0 ∧ s'.t 1 = u ∧ s'.t 2 = .pointer (some ⟨m.length, 0, none⟩) ∧ s'.t 5 = .int .i64 (needS s set k) ∧ s'.t 10 = u ∧ s'.t 11 = .int .i64 (set.length : Int) ∧ s'.t 12 = .int .i64 (k : Int)) (fun s' => set.length - (intOf (s'.t 12)).toNat)
    ⟨0, by omega, rfl, rfl, rfl, rfl, rfl, rfl, rfl⟩ ?_
  rintro s' ⟨k, hk, tm, t1, t2, t5, t10, t11, t12⟩
  by_cases hlt : k < set.length
  · have hlt' : (k : Int) < set.length := by omega
    have b0 := hr.bd k hlt
    obtain ⟨p, hp⟩ : ∃ p : Nat, set.getD k 0 = (p : Int) := ⟨(set.getD k 0).toNat, by omega⟩
    have ld := ub.ld k hlt
    rw [hp] at ld
    have pn : p < s.need.length := by omega
    have w := memD9 hg.need pn
    have w2 := hbx k (by omega)
    simp (config := {implicitDefEqProofs := false, maxDischargeDepth := 20}) (disch := first | omega | (simp only [lenE]; done) | (simp only [lenE]; omega) | rfl | (simp only [lenE, markR_len]; done) | (simp only [lenE, markR_len]; omega)) only [runE, mapE, listE, initT_5, initT_6, initT_7, initT_8, resV, oneV, binA, unA, reduceCtorEq, Nat.reduceEqDiff, Nat.reduceAdd, Nat.reduceLT, Nat.reduceLeDiff, Nat.reduceMul, Nat.reduceSub, ↓reduceIte, decide_true, decide_false, Bool.true_eq_false, Bool.false_eq_true, Bool.not_true, Bool.not_false, if_true, if_false, and_true, true_and, memE, celE, w64, Nat.zero_add, Nat.add_zero, Nat.mul_one, putL, and_self, ldn, tm, t1, t2, t5, t10, t11, t12, hlt', ub.at_ k hlt, ld, o1.rd, bb.at_ p pn, bb.ld p pn]
    refine ⟨⟨k + 1, by omega, by rw [needS, hp, Int.toNat_natCast], by simp⟩, ?_⟩
    simp [intOf]; omega
  · have hlt' : ¬ ((k : Int) < set.length) := by omega
    have e : k = set.length := by omega
    subst e
    have w2 := hbx set.length (Nat.le_refl _)
    simp (config := {implicitDefEqProofs := false, maxDischargeDepth := 20}) (disch := first | omega | (simp only [lenE]; done) | (simp only [lenE]; omega) | rfl | (simp only [lenE, markR_len]; done) | (simp only [lenE, markR_len]; omega)) only [runE, mapE, listE, initT_5, initT_6, initT_7, initT_8, resV, oneV, binA, unA, reduceCtorEq, Nat.reduceEqDiff, Nat.reduceAdd, Nat.reduceLT, Nat.reduceLeDiff, Nat.reduceMul, Nat.reduceSub, ↓reduceIte, decide_true, decide_false, Bool.true_eq_false, Bool.false_eq_true, Bool.not_true, Bool.not_false, if_true, if_false, and_true, true_and, memE, celE, w64, Nat.zero_add, Nat.add_zero, Nat.mul_one, putL, and_self, ldn, tm, t1, t2, t5, t10, t11, t12, hlt', o1.rd, ab.len]
    refine loop_inv mixed (fun s' => ∃ (f : Nat) (M : Mem), f ≤ s.arr.length ∧ s'.m = M ∧ Ext m M ∧ OwnB M m.length 26 [.int .i64 s.life, a, b, .int .i64 s.waste, .int .i64 s.lost] ∧ s'.t 1 = u ∧ s'.t 2 = .pointer (some ⟨m.length, 0, none⟩) ∧ s'.t 5 = .int .i64 (needS s set set.length - subA s set f) ∧ s'.t 25 = a ∧ s'.t 26 = .int .i64 (s.arr.length : Int) ∧ s'.t 27 = .int .i64 (f : Int)) (fun s' => s.arr.length - (intOf (s'.t 27)).toNat)
      ⟨0, M0, by omega, (by first | exact tm | rfl), hX, o1, (by first | exact t1 | simp only [put_t, put_t', put_m, putT_t, putT_t', putT_m, init_t, init_m, initT_0, initT_1, initT_2, initT_3, initT_4, initT_5, initT_6, initT_7, initT_8, Nat.reduceEqDiff, ↓reduceIte, t1]), (by first | exact t2 | simp only [put_t, put_t', put_m, putT_t, putT_t', putT_m, init_t, init_m, initT_0, initT_1, initT_2, initT_3, initT_4, initT_5, initT_6, initT_7, initT_8, Nat.reduceEqDiff, ↓reduceIte, t2]), (by simp only [put_t, put_t', put_m, putT_t, putT_t', putT_m, init_t, init_m, initT_0, initT_1, initT_2, initT_3, initT_4, initT_5, initT_6, initT_7, initT_8, Nat.reduceEqDiff, ↓reduceIte, t5]; simp [subA]), rfl, rfl, rfl⟩ ?_
    clear tm t1 t2 t5 t10 t11 t12 ub bb ab o1 hX hM0
    rintro s' ⟨f, M, hf, tm, hX, o1, t1, t2, t5, t25, t26, t27⟩
    have ab := hX.ints ha
    have ub := hX.ints hu'
    have w3 := subA_bd hg set f hf
    by_cases hfl : f < s.arr.length
    · have hfl' : (f : Int) < s.arr.length := by omega
      have w4 := memD9 hg.arr hfl
      have r1 : rdc (M ++ [⟨.own, 3, [.int .i64 (f : Int)]⟩]) M.length 0 = some (.int .i64 (f : Int)) := (OwnB.here rfl : OwnB (M ++ [⟨.own, 3, [.int .i64 (f : Int)]⟩]) M.length 3 [.int .i64 (f : Int)]).rd 0
      have r2 : rdc (M ++ [⟨.own, 3, [.int .i64 (f : Int)]⟩]) m.length 0 = some (.int .i64 s.life) := (o1.ext [⟨.own, 3, [.int .i64 (f : Int)]⟩]).rd 0
      simp (config := {implicitDefEqProofs := false, maxDischargeDepth := 20}) (disch := first | omega | (simp only [lenE]; done) | (simp only [lenE]; omega) | rfl | (simp only [lenE, markR_len]; done) | (simp only [lenE, markR_len]; omega)) only [runE, mapE, listE, initT_5, initT_6, initT_7, initT_8, resV, oneV, binA, unA, reduceCtorEq, Nat.reduceEqDiff, Nat.reduceAdd, Nat.reduceLT, Nat.reduceLeDiff, Nat.reduceMul, Nat.reduceSub, ↓reduceIte, decide_true, decide_false, Bool.true_eq_false, Bool.false_eq_true, Bool.not_true, Bool.not_false, if_true, if_false, and_true, true_and, memE, celE, w64, Nat.zero_add, Nat.add_zero, Nat.mul_one, putL, and_self, ldn, tm, t1, t2, t5, t25, t26, t27, hfl', ab.at_ f hfl, ab.ld f hfl]
      refine callH_rc (containsFunc_rc _ u _ set (usI s.life f) (ub.ext _) (fresh_test _ M.length m.length f s.life r1 r2 (by omega) ⟨by omega, l8⟩)) ?_
      rintro r new ⟨rfl, rfl⟩
      rw [List.append_nil]
      cases hq : set.any (usI s.life f) with
      | true =>
        simp (config := {implicitDefEqProofs := false, maxDischargeDepth := 20}) (disch := first | omega | (simp only [lenE]; done) | (simp only [lenE]; omega) | rfl | (simp only [lenE, markR_len]; done) | (simp only [lenE, markR_len]; omega)) only [runE, mapE, listE, initT_5, initT_6, initT_7, initT_8, resV, oneV, binA, unA, reduceCtorEq, Nat.reduceEqDiff, Nat.reduceAdd, Nat.reduceLT, Nat.reduceLeDiff, Nat.reduceMul, Nat.reduceSub, ↓reduceIte, decide_true, decide_false, Bool.true_eq_false, Bool.false_eq_true, Bool.not_true, Bool.not_false, if_true, if_false, and_true, true_and, memE, celE, w64, Nat.zero_add, Nat.add_zero, Nat.mul_one, putL, and_self, ldn, t1, t2, t5, t25, t26, t27]
        refine ⟨⟨f + 1, _, by omega, rfl, hX.one _ _, o1.ext _, by rw [subA, show useAny s set f = true from hq, if_pos rfl]; congr 1; omega, by simp⟩, ?_⟩
        simp [intOf]; omega
      | false =>
        simp (config := {implicitDefEqProofs := false, maxDischargeDepth := 20}) (disch := first | omega | (simp only [lenE]; done) | (simp only [lenE]; omega) | rfl | (simp only [lenE, markR_len]; done) | (simp only [lenE, markR_len]; omega)) only [runE, mapE, listE, initT_5, initT_6, initT_7, initT_8, resV, oneV, binA, unA, reduceCtorEq, Nat.reduceEqDiff, Nat.reduceAdd, Nat.reduceLT, Nat.reduceLeDiff, Nat.reduceMul, Nat.reduceSub, ↓reduceIte, decide_true, decide_false, Bool.true_eq_false, Bool.false_eq_true, Bool.not_true, Bool.not_false, if_true, if_false, and_true, true_and, memE, celE, w64, Nat.zero_add, Nat.add_zero, Nat.mul_one, putL, and_self, ldn, t1, t2, t5, t25, t26, t27]
        refine ⟨⟨f + 1, _, by omega, rfl, hX.one _ _, o1.ext _, by rw [subA, show useAny s set f = false from hq, if_neg (by simp)]; congr 1; omega, by simp⟩, ?_⟩
        simp [intOf]; omega
    · have hfl' : ¬ ((f : Int) < s.arr.length) := by omega
      have e : f = s.arr.length := by omega
      subst e
      simp (config := {implicitDefEqProofs := false, maxDischargeDepth := 20}) (disch := first | omega | (simp only [lenE]; done) | (simp only [lenE]; omega) | rfl | (simp only [lenE, markR_len]; done) | (simp only [lenE, markR_len]; omega)) only [runE, mapE, listE, initT_5, initT_6, initT_7, initT_8, resV, oneV, binA, unA, reduceCtorEq, Nat.reduceEqDiff, Nat.reduceAdd, Nat.reduceLT, Nat.reduceLeDiff, Nat.reduceMul, Nat.reduceSub, ↓reduceIte, decide_true, decide_false, Bool.true_eq_false, Bool.false_eq_true, Bool.not_true, Bool.not_false, if_true, if_false, and_true, true_and, memE, celE, w64, Nat.zero_add, Nat.add_zero, Nat.mul_one, putL, and_self, ldn, tm, t1, t2, t5, t25, t26, t27, hfl']
      exact ext_ansV hX rfl
theorem specLostBound_rc (m : Mem) (v u : Value) (s : Sh) (set : List Int) (h : ShA m v s) (hu : IntsA m u set) :
    RC Try.prog 34 [v, u] m (AnsV (.tuple #[.int .i64 (lboundA s set), .bool (lboundOk s set)])) := by
  refine rc_of_run mixed ok_spec_LostBound (by simp) (go_start _ _ _ ?_)
  obtain ⟨a, b, rfl, ha, hb⟩ := h.ro
  have hu' := hu.ro
  have hX := (Ext.refl m).one 26 [.int .i64 s.life, a, b, .int .i64 s.waste, .int .i64 s.lost]
  simp (config := {implicitDefEqProofs := false, maxDischargeDepth := 20}) (disch := first | omega | (simp only [lenE]; done) | (simp only [lenE]; omega) | rfl | (simp only [lenE, markR_len]; done) | (simp only [lenE, markR_len]; omega)) only [runE, mapE, listE, initT_5, initT_6, initT_7, initT_8, resV, oneV, binA, unA, reduceCtorEq, Nat.reduceEqDiff, Nat.reduceAdd, Nat.reduceLT, Nat.reduceLeDiff, Nat.reduceMul, Nat.reduceSub, ↓reduceIte, decide_true, decide_false, Bool.true_eq_false, Bool.false_eq_true, Bool.not_true, Bool.not_false, if_true, if_false, and_true, true_and, memE, celE, w64, Nat.zero_add, Nat.add_zero, Nat.mul_one, putL, and_self, ldn, c_spec_LostBound, r_spec_LostBound]
  obtain ⟨M0, hM0⟩ : ∃ M0, M0 = roM m ++ [⟨.own, 26, [.int .i64 s.life, a, b, .int .i64 s.waste, .int .i64 s.lost]⟩] := ⟨_, rfl⟩
  have o1 : OwnB M0 m.length 26 [.int .i64 s.life, a, b, .int .i64 s.waste, .int .i64 s.lost] := by rw [hM0]; exact OwnB.here (by simp [roM_len])
  rw [← hM0] at hX ⊢
  refine callH_rc (l9Good_rc _ _ s (ShA.mk (hX.ints ha) (hX.ints hb))) ?_
  rintro r n1 ⟨rfl, nr1⟩
  replace hX := hX.app nr1
  replace o1 := o1.ext n1
  obtain ⟨M1, hM1⟩ : ∃ M1, M1 = M0 ++ n1 := ⟨_, rfl⟩
  rw [← hM1] at hX o1 ⊢
  unfold lboundA lboundOk
  cases hg : s.good with
  | false =>
    simp (config := {implicitDefEqProofs := false, maxDischargeDepth := 20}) (disch := first | omega | (simp only [lenE]; done) | (simp only [lenE]; omega) | rfl | (simp only [lenE, markR_len]; done) | (simp only [lenE, markR_len]; omega)) only [runE, mapE, listE, initT_5, initT_6, initT_7, initT_8, resV, oneV, binA, unA, reduceCtorEq, Nat.reduceEqDiff, Nat.reduceAdd, Nat.reduceLT, Nat.reduceLeDiff, Nat.reduceMul, Nat.reduceSub, ↓reduceIte, decide_true, decide_false, Bool.true_eq_false, Bool.false_eq_true, Bool.not_true, Bool.not_false, if_true, if_false, and_true, true_and, memE, celE, w64, Nat.zero_add, Nat.add_zero, Nat.mul_one, putL, and_self, ldn, goG_undef]
    exact ext_ansV hX (by simp)
  | true =>
    have gd := goodSh_iff.1 hg
    have n8 := gd.n8
    simp (config := {implicitDefEqProofs := false, maxDischargeDepth := 20}) (disch := first | omega | (simp only [lenE]; done) | (simp only [lenE]; omega) | rfl | (simp only [lenE, markR_len]; done) | (simp only [lenE, markR_len]; omega)) only [runE, mapE, listE, initT_5, initT_6, initT_7, initT_8, resV, oneV, binA, unA, reduceCtorEq, Nat.reduceEqDiff, Nat.reduceAdd, Nat.reduceLT, Nat.reduceLeDiff, Nat.reduceMul, Nat.reduceSub, ↓reduceIte, decide_true, decide_false, Bool.true_eq_false, Bool.false_eq_true, Bool.not_true, Bool.not_false, if_true, if_false, and_true, true_and, memE, celE, w64, Nat.zero_add, Nat.add_zero, Nat.mul_one, putL, and_self, ldn, o1.rd, (hX.ints hb).len]
    refine callH_rc (l1Rising_rc _ u set s.need.length (hX.ints hu') (by omega)) ?_
    rintro r n2 ⟨rfl, nr2⟩
    cases hr : risB set s.need.length with
    | false =>
      simp (config := {implicitDefEqProofs := false, maxDischargeDepth := 20}) (disch := first | omega | (simp only [lenE]; done) | (simp only [lenE]; omega) | rfl | (simp only [lenE, markR_len]; done) | (simp only [lenE, markR_len]; omega)) only [runE, mapE, listE, initT_5, initT_6, initT_7, initT_8, resV, oneV, binA, unA, reduceCtorEq, Nat.reduceEqDiff, Nat.reduceAdd, Nat.reduceLT, Nat.reduceLeDiff, Nat.reduceMul, Nat.reduceSub, ↓reduceIte, decide_true, decide_false, Bool.true_eq_false, Bool.false_eq_true, Bool.not_true, Bool.not_false, if_true, if_false, and_true, true_and, memE, celE, w64, Nat.zero_add, Nat.add_zero, Nat.mul_one, putL, and_self, ldn]
      exact ext_ansV (hX.app nr2) (by simp)
    | true =>
      have hX2 := hX.app nr2
      simp (config := {implicitDefEqProofs := false, maxDischargeDepth := 20}) (disch := first | omega | (simp only [lenE]; done) | (simp only [lenE]; omega) | rfl | (simp only [lenE, markR_len]; done) | (simp only [lenE, markR_len]; omega)) only [runE, mapE, listE, initT_5, initT_6, initT_7, initT_8, resV, oneV, binA, unA, reduceCtorEq, Nat.reduceEqDiff, Nat.reduceAdd, Nat.reduceLT, Nat.reduceLeDiff, Nat.reduceMul, Nat.reduceSub, ↓reduceIte, decide_true, decide_false, Bool.true_eq_false, Bool.false_eq_true, Bool.not_true, Bool.not_false, if_true, if_false, and_true, true_and, memE, celE, w64, Nat.zero_add, Nat.add_zero, Nat.mul_one, putL, and_self, ldn, (o1.ext n2).rd]
      refine callH_rc (l9Bound_rc _ _ u s set (ShA.mk (hX2.ints ha) (hX2.ints hb)) (hX2.ints hu') gd (risB_iff.1 hr)) ?_
      rintro r n3 ⟨rfl, nr3⟩
      simp (config := {implicitDefEqProofs := false, maxDischargeDepth := 20}) (disch := first | omega | (simp only [lenE]; done) | (simp only [lenE]; omega) | rfl | (simp only [lenE, markR_len]; done) | (simp only [lenE, markR_len]; omega)) only [runE, mapE, listE, initT_5, initT_6, initT_7, initT_8, resV, oneV, binA, unA, reduceCtorEq, Nat.reduceEqDiff, Nat.reduceAdd, Nat.reduceLT, Nat.reduceLeDiff, Nat.reduceMul, Nat.reduceSub, ↓reduceIte, decide_true, decide_false, Bool.true_eq_false, Bool.false_eq_true, Bool.not_true, Bool.not_false, if_true, if_false, and_true, true_and, memE, celE, w64, Nat.zero_add, Nat.add_zero, Nat.mul_one, putL, and_self, ldn]
      exact ext_ansV (hX2.app nr3) (by simp)
theorem implLostBound_rc (m : Mem) (v u : Value) (s : Sh) (set : List Int) (h : ShA m v s) (hu : IntsA m u set) :
    RC Try.prog 26 [v, u] m (AnsV (.tuple #[.int .i64 (lboundA s set), .bool (lboundOk s set)])) := by
  refine rc_of_run mixed ok_impl_LostBound (by simp) (go_start _ _ _ ?_)
  obtain ⟨a, b, rfl, ha, hb⟩ := h.ro
  have hu' := hu.ro
  have hX := (Ext.refl m).one 26 [.int .i64 s.life, a, b, .int .i64 s.waste, .int .i64 s.lost]
  simp (config := {implicitDefEqProofs := false, maxDischargeDepth := 20}) (disch := first | omega | (simp only [lenE]; done) | (simp only [lenE]; omega) | rfl | (simp only [lenE, markR_len]; done) | (simp only [lenE, markR_len]; omega)) only [runE, mapE, listE, initT_5, initT_6, initT_7, initT_8, resV, oneV, binA, unA, reduceCtorEq, Nat.reduceEqDiff, Nat.reduceAdd, Nat.reduceLT, Nat.reduceLeDiff, Nat.reduceMul, Nat.reduceSub, ↓reduceIte, decide_true, decide_false, Bool.true_eq_false, Bool.false_eq_true, Bool.not_true, Bool.not_false, if_true, if_false, and_true, true_and, memE, celE, w64, Nat.zero_add, Nat.add_zero, Nat.mul_one, putL, and_self, ldn, c_impl_LostBound, r_impl_LostBound]
  obtain ⟨M0, hM0⟩ : ∃ M0, M0 = roM m ++ [⟨.own, 26, [.int .i64 s.life, a, b, .int .i64 s.waste, .int .i64 s.lost]⟩] := ⟨_, rfl⟩
  have o1 : OwnB M0 m.length 26 [.int .i64 s.life, a, b, .int .i64 s.waste, .int .i64 s.lost] := by rw [hM0]; exact OwnB.here (by simp [roM_len])
  rw [← hM0] at hX ⊢
  refine callH_rc (implIsShelf_rc _ _ s (ShA.mk (hX.ints ha) (hX.ints hb))) ?_
  rintro r n1 ⟨rfl, nr1⟩
  replace hX := hX.app nr1
  replace o1 := o1.ext n1
  obtain ⟨M1, hM1⟩ : ∃ M1, M1 = M0 ++ n1 := ⟨_, rfl⟩
  rw [← hM1] at hX o1 ⊢
  unfold lboundA lboundOk
  cases hg : s.good with
  | false =>
    simp (config := {implicitDefEqProofs := false, maxDischargeDepth := 20}) (disch := first | omega | (simp only [lenE]; done) | (simp only [lenE]; omega) | rfl | (simp only [lenE, markR_len]; done) | (simp only [lenE, markR_len]; omega)) only [runE, mapE, listE, initT_5, initT_6, initT_7, initT_8, resV, oneV, binA, unA, reduceCtorEq, Nat.reduceEqDiff, Nat.reduceAdd, Nat.reduceLT, Nat.reduceLeDiff, Nat.reduceMul, Nat.reduceSub, ↓reduceIte, decide_true, decide_false, Bool.true_eq_false, Bool.false_eq_true, Bool.not_true, Bool.not_false, if_true, if_false, and_true, true_and, memE, celE, w64, Nat.zero_add, Nat.add_zero, Nat.mul_one, putL, and_self, ldn, goG_undef]
    exact ext_ansV hX (by simp)
  | true =>
    have gd := goodSh_iff.1 hg
    have n8 := gd.n8
    simp (config := {implicitDefEqProofs := false, maxDischargeDepth := 20}) (disch := first | omega | (simp only [lenE]; done) | (simp only [lenE]; omega) | rfl | (simp only [lenE, markR_len]; done) | (simp only [lenE, markR_len]; omega)) only [runE, mapE, listE, initT_5, initT_6, initT_7, initT_8, resV, oneV, binA, unA, reduceCtorEq, Nat.reduceEqDiff, Nat.reduceAdd, Nat.reduceLT, Nat.reduceLeDiff, Nat.reduceMul, Nat.reduceSub, ↓reduceIte, decide_true, decide_false, Bool.true_eq_false, Bool.false_eq_true, Bool.not_true, Bool.not_false, if_true, if_false, and_true, true_and, memE, celE, w64, Nat.zero_add, Nat.add_zero, Nat.mul_one, putL, and_self, ldn, o1.rd, (hX.ints hb).len]
    refine callH_rc (ascending_rc _ u set s.need.length (hX.ints hu') (by omega)) ?_
    rintro r n2 ⟨rfl, nr2⟩
    cases hr : risB set s.need.length with
    | false =>
      simp (config := {implicitDefEqProofs := false, maxDischargeDepth := 20}) (disch := first | omega | (simp only [lenE]; done) | (simp only [lenE]; omega) | rfl | (simp only [lenE, markR_len]; done) | (simp only [lenE, markR_len]; omega)) only [runE, mapE, listE, initT_5, initT_6, initT_7, initT_8, resV, oneV, binA, unA, reduceCtorEq, Nat.reduceEqDiff, Nat.reduceAdd, Nat.reduceLT, Nat.reduceLeDiff, Nat.reduceMul, Nat.reduceSub, ↓reduceIte, decide_true, decide_false, Bool.true_eq_false, Bool.false_eq_true, Bool.not_true, Bool.not_false, if_true, if_false, and_true, true_and, memE, celE, w64, Nat.zero_add, Nat.add_zero, Nat.mul_one, putL, and_self, ldn]
      exact ext_ansV (hX.app nr2) (by simp)
    | true =>
      have hX2 := hX.app nr2
      simp (config := {implicitDefEqProofs := false, maxDischargeDepth := 20}) (disch := first | omega | (simp only [lenE]; done) | (simp only [lenE]; omega) | rfl | (simp only [lenE, markR_len]; done) | (simp only [lenE, markR_len]; omega)) only [runE, mapE, listE, initT_5, initT_6, initT_7, initT_8, resV, oneV, binA, unA, reduceCtorEq, Nat.reduceEqDiff, Nat.reduceAdd, Nat.reduceLT, Nat.reduceLeDiff, Nat.reduceMul, Nat.reduceSub, ↓reduceIte, decide_true, decide_false, Bool.true_eq_false, Bool.false_eq_true, Bool.not_true, Bool.not_false, if_true, if_false, and_true, true_and, memE, celE, w64, Nat.zero_add, Nat.add_zero, Nat.mul_one, putL, and_self, ldn, (o1.ext n2).rd]
      refine callH_rc (lostBound_rc _ _ u s set (ShA.mk (hX2.ints ha) (hX2.ints hb)) (hX2.ints hu') gd (risB_iff.1 hr)) ?_
      rintro r n3 ⟨rfl, nr3⟩
      simp (config := {implicitDefEqProofs := false, maxDischargeDepth := 20}) (disch := first | omega | (simp only [lenE]; done) | (simp only [lenE]; omega) | rfl | (simp only [lenE, markR_len]; done) | (simp only [lenE, markR_len]; omega)) only [runE, mapE, listE, initT_5, initT_6, initT_7, initT_8, resV, oneV, binA, unA, reduceCtorEq, Nat.reduceEqDiff, Nat.reduceAdd, Nat.reduceLT, Nat.reduceLeDiff, Nat.reduceMul, Nat.reduceSub, ↓reduceIte, decide_true, decide_false, Bool.true_eq_false, Bool.false_eq_true, Bool.not_true, Bool.not_false, if_true, if_false, and_true, true_and, memE, celE, w64, Nat.zero_add, Nat.add_zero, Nat.mul_one, putL, and_self, ldn]
      exact ext_ansV (hX2.app nr3) (by simp)
end Go.Proofs.Ytdgfbmilbhckiaa.Ab
end
section
namespace Go.Proofs.Ytdgfbmilbhckiaa.Ab
open Go Go.RowKit
set_option linter.unusedVariables false
set_option linter.unusedSimpArgs false
theorem isNaN_rc (m : Mem) (x : Int) : RC Try.prog 123 [.int .i64 x] m fun r new => r = .bool false ∧ new = [] := by
  refine rc_of_run mixed ok_cmp_isNaN (by simp) (go_start _ _ _ ?_)
  simp (config := {implicitDefEqProofs := false, maxDischargeDepth := 20}) (disch := first | omega | (simp only [lenE]; done) | (simp only [lenE]; omega) | rfl | (simp only [lenE, markR_len]; done) | (simp only [lenE, markR_len]; omega)) only [runE, mapE, listE, initT_5, initT_6, initT_7, initT_8, resV, oneV, binA, unA, reduceCtorEq, Nat.reduceEqDiff, Nat.reduceAdd, Nat.reduceLT, Nat.reduceLeDiff, Nat.reduceMul, Nat.reduceSub, ↓reduceIte, decide_true, decide_false, Bool.true_eq_false, Bool.false_eq_true, Bool.not_true, Bool.not_false, if_true, if_false, and_true, true_and, memE, celE, w64, Nat.zero_add, Nat.add_zero, Nat.mul_one, putL, and_self, ldn, c_cmp_isNaN, r_cmp_isNaN, bne_self_eq_false]
  exact newQ_nil ⟨rfl, rfl⟩
def cmpI (a b : Int) : Int := if a < b then -1 else if b < a then 1 else 0
theorem cmpI_rc (m : Mem) (a b : Int) : RC Try.prog 113 [.int .i64 a, .int .i64 b] m fun r new => r = .int .i64 (cmpI a b) ∧ new = [] := by
  refine rc_of_run mixed ok_cmp_Compare (by simp) (go_start _ _ _ ?_)
  simp (config := {implicitDefEqProofs := false, maxDischargeDepth := 20}) (disch := first | omega | (simp only [lenE]; done) | (simp only [lenE]; omega) | rfl | (simp only [lenE, markR_len]; done) | (simp only [lenE, markR_len]; omega)) only [runE, mapE, listE, initT_5, initT_6, initT_7, initT_8, resV, oneV, binA, unA, reduceCtorEq, Nat.reduceEqDiff, Nat.reduceAdd, Nat.reduceLT, Nat.reduceLeDiff, Nat.reduceMul, Nat.reduceSub, ↓reduceIte, decide_true, decide_false, Bool.true_eq_false, Bool.false_eq_true, Bool.not_true, Bool.not_false, if_true, if_false, and_true, true_and, memE, celE, w64, Nat.zero_add, Nat.add_zero, Nat.mul_one, putL, and_self, ldn, c_cmp_Compare, r_cmp_Compare]
  refine callH_rc (isNaN_rc _ a) ?_
  rintro r new ⟨rfl, rfl⟩
  simp (config := {implicitDefEqProofs := false, maxDischargeDepth := 20}) (disch := first | omega | (simp only [lenE]; done) | (simp only [lenE]; omega) | rfl | (simp only [lenE, markR_len]; done) | (simp only [lenE, markR_len]; omega)) only [runE, mapE, listE, initT_5, initT_6, initT_7, initT_8, resV, oneV, binA, unA, reduceCtorEq, Nat.reduceEqDiff, Nat.reduceAdd, Nat.reduceLT, Nat.reduceLeDiff, Nat.reduceMul, Nat.reduceSub, ↓reduceIte, decide_true, decide_false, Bool.true_eq_false, Bool.false_eq_true, Bool.not_true, Bool.not_false, if_true, if_false, and_true, true_and, memE, celE, w64, Nat.zero_add, Nat.add_zero, Nat.mul_one, putL, and_self, ldn]
  refine callH_rc (isNaN_rc _ b) ?_
  rintro r new ⟨rfl, rfl⟩
  unfold cmpI
  by_cases h1 : a < b
  · simp (config := {implicitDefEqProofs := false, maxDischargeDepth := 20}) (disch := first | omega | (simp only [lenE]; done) | (simp only [lenE]; omega) | rfl | (simp only [lenE, markR_len]; done) | (simp only [lenE, markR_len]; omega)) only [runE, mapE, listE, initT_5, initT_6, initT_7, initT_8, resV, oneV, binA, unA, reduceCtorEq, Nat.reduceEqDiff, Nat.reduceAdd, Nat.reduceLT, Nat.reduceLeDiff, Nat.reduceMul, Nat.reduceSub, ↓reduceIte, decide_true, decide_false, Bool.true_eq_false, Bool.false_eq_true, Bool.not_true, Bool.not_false, if_true, if_false, and_true, true_and, memE, celE, w64, Nat.zero_add, Nat.add_zero, Nat.mul_one, putL, and_self, ldn, h1]
    exact newQ_nil ⟨rfl, rfl⟩
  · by_cases h2 : b < a
    · simp (config := {implicitDefEqProofs := false, maxDischargeDepth := 20}) (disch := first | omega | (simp only [lenE]; done) | (simp only [lenE]; omega) | rfl | (simp only [lenE, markR_len]; done) | (simp only [lenE, markR_len]; omega)) only [runE, mapE, listE, initT_5, initT_6, initT_7, initT_8, resV, oneV, binA, unA, reduceCtorEq, Nat.reduceEqDiff, Nat.reduceAdd, Nat.reduceLT, Nat.reduceLeDiff, Nat.reduceMul, Nat.reduceSub, ↓reduceIte, decide_true, decide_false, Bool.true_eq_false, Bool.false_eq_true, Bool.not_true, Bool.not_false, if_true, if_false, and_true, true_and, memE, celE, w64, Nat.zero_add, Nat.add_zero, Nat.mul_one, putL, and_self, ldn, h1, gt_iff_lt, h2]
      exact newQ_nil ⟨rfl, rfl⟩
    · simp (config := {implicitDefEqProofs := false, maxDischargeDepth := 20}) (disch := first | omega | (simp only [lenE]; done) | (simp only [lenE]; omega) | rfl | (simp only [lenE, markR_len]; done) | (simp only [lenE, markR_len]; omega)) only [runE, mapE, listE, initT_5, initT_6, initT_7, initT_8, resV, oneV, binA, unA, reduceCtorEq, Nat.reduceEqDiff, Nat.reduceAdd, Nat.reduceLT, Nat.reduceLeDiff, Nat.reduceMul, Nat.reduceSub, ↓reduceIte, decide_true, decide_false, Bool.true_eq_false, Bool.false_eq_true, Bool.not_true, Bool.not_false, if_true, if_false, and_true, true_and, memE, celE, w64, Nat.zero_add, Nat.add_zero, Nat.mul_one, putL, and_self, ldn, h1, gt_iff_lt, h2]
      exact newQ_nil ⟨rfl, rfl⟩
def cmpL : List Int → List Int → Int
  | [], [] => 0
  | [], _ :: _ => -1
  | _ :: _, [] => 1
  | x :: a, y :: b => if cmpI x y = 0 then cmpL a b else cmpI x y
theorem cmpL_drop {a b : List Int} {i : Nat} (ha : i < a.length) (hb : i < b.length) : cmpL (a.drop i) (b.drop i) = if cmpI (a.getD i 0) (b.getD i 0) = 0 then cmpL (a.drop (i + 1)) (b.drop (i + 1)) else cmpI (a.getD i 0) (b.getD i 0) := by
  rw [List.drop_eq_getElem_cons ha, List.drop_eq_getElem_cons hb, cmpL]
  simp [List.getD_eq_getElem?_getD, ha, hb]
theorem slCompare_rc (m : Mem) (v u : Value) (a b : List Int) (h : IntsA m v a) (h' : IntsA m u b) :
    RC Try.prog 114 [v, u] m (AnsV (.int .i64 (cmpL a b))) := by
  refine rc_of_run mixed ok_slices_Compare (by simp) (go_start _ _ _ ?_)
  have hv := h.ro
  have hu := h'.ro
  have hbd := hv.bd
  simp (config := {implicitDefEqProofs := false, maxDischargeDepth := 20}) (disch := first | omega | (simp only [lenE]; done) | (simp only [lenE]; omega) | rfl | (simp only [lenE, markR_len]; done) | (simp only [lenE, markR_len]; omega)) only [runE, mapE, listE, initT_5, initT_6, initT_7, initT_8, resV, oneV, binA, unA, reduceCtorEq, Nat.reduceEqDiff, Nat.reduceAdd, Nat.reduceLT, Nat.reduceLeDiff, Nat.reduceMul, Nat.reduceSub, ↓reduceIte, decide_true, decide_false, Bool.true_eq_false, Bool.false_eq_true, Bool.not_true, Bool.not_false, if_true, if_false, and_true, true_and, memE, celE, w64, Nat.zero_add, Nat.add_zero, Nat.mul_one, putL, and_self, ldn, c_slices_Compare, r_slices_Compare, hv.len]
  refine loop_inv mixed (fun s => ∃ i : Nat, i ≤ a.length ∧ i ≤ b.length ∧ cmpL a b = cmpL (a.drop i) (b.drop i) ∧ s.t 0 = v ∧ s.t 1 = u ∧ s.t 9 = v ∧ s.t 10 = .int .i64 a.length ∧ s.t 11 = .int .i64 i ∧ s.m = roM m) (fun s => a.length - (intOf (s.t 11)).toNat)
    ⟨0, by omega, by omega, rfl, rfl, rfl, rfl, rfl, rfl, rfl⟩ ?_
  rintro s ⟨i, hk, hk2, he, t0, t1, t9, t10, t11, tm⟩
  by_cases hlt : i < a.length
  · have hlt' : (i : Int) < a.length := by omega
    by_cases hlb : i < b.length
    · have hlb' : ¬ ((b.length : Int) ≤ i) := by omega
      rw [cmpL_drop hlt hlb] at he
      simp (config := {implicitDefEqProofs := false, maxDischargeDepth := 20}) (disch := first | omega | (simp only [lenE]; done) | (simp only [lenE]; omega) | rfl | (simp only [lenE, markR_len]; done) | (simp only [lenE, markR_len]; omega)) only [runE, mapE, listE, initT_5, initT_6, initT_7, initT_8, resV, oneV, binA, unA, reduceCtorEq, Nat.reduceEqDiff, Nat.reduceAdd, Nat.reduceLT, Nat.reduceLeDiff, Nat.reduceMul, Nat.reduceSub, ↓reduceIte, decide_true, decide_false, Bool.true_eq_false, Bool.false_eq_true, Bool.not_true, Bool.not_false, if_true, if_false, and_true, true_and, memE, celE, w64, Nat.zero_add, Nat.add_zero, Nat.mul_one, putL, and_self, ldn, t0, t1, t9, t10, t11, tm, hlt', hv.at_ i hlt, hv.ld i hlt, hu.len, ge_iff_le, hlb', hu.at_ i hlb, hu.ld i hlb]
      refine callH_rc (cmpI_rc _ (a.getD i 0) (b.getD i 0)) ?_
      rintro r new ⟨rfl, rfl⟩
      by_cases hq : cmpI (a.getD i 0) (b.getD i 0) = 0
      · have hq' : (cmpI (a.getD i 0) (b.getD i 0) != 0) = false := by rw [hq]; rfl
        rw [if_pos hq] at he
        simp (config := {implicitDefEqProofs := false, maxDischargeDepth := 20}) (disch := first | omega | (simp only [lenE]; done) | (simp only [lenE]; omega) | rfl | (simp only [lenE, markR_len]; done) | (simp only [lenE, markR_len]; omega)) only [runE, mapE, listE, initT_5, initT_6, initT_7, initT_8, resV, oneV, binA, unA, reduceCtorEq, Nat.reduceEqDiff, Nat.reduceAdd, Nat.reduceLT, Nat.reduceLeDiff, Nat.reduceMul, Nat.reduceSub, ↓reduceIte, decide_true, decide_false, Bool.true_eq_false, Bool.false_eq_true, Bool.not_true, Bool.not_false, if_true, if_false, and_true, true_and, memE, celE, w64, Nat.zero_add, Nat.add_zero, Nat.mul_one, putL, and_self, ldn, t0, t1, t9, t10, t11, tm, hq']
        exact ⟨⟨i + 1, by omega, by omega, he, by simp⟩, by simp [intOf]; omega⟩
      · have hq' : (cmpI (a.getD i 0) (b.getD i 0) != 0) = true := by simpa using hq
        rw [if_neg hq] at he
        simp (config := {implicitDefEqProofs := false, maxDischargeDepth := 20}) (disch := first | omega | (simp only [lenE]; done) | (simp only [lenE]; omega) | rfl | (simp only [lenE, markR_len]; done) | (simp only [lenE, markR_len]; omega)) only [runE, mapE, listE, initT_5, initT_6, initT_7, initT_8, resV, oneV, binA, unA, reduceCtorEq, Nat.reduceEqDiff, Nat.reduceAdd, Nat.reduceLT, Nat.reduceLeDiff, Nat.reduceMul, Nat.reduceSub, ↓reduceIte, decide_true, decide_false, Bool.true_eq_false, Bool.false_eq_true, Bool.not_true, Bool.not_false, if_true, if_false, and_true, true_and, memE, celE, w64, Nat.zero_add, Nat.add_zero, Nat.mul_one, putL, and_self, ldn, t0, t1, t9, t10, t11, tm, hq']
        rw [he]
        exact ext_ansV (Ext.refl m) rfl
    · have hlb' : (b.length : Int) ≤ i := by omega
      have e : cmpL (a.drop i) (b.drop i) = 1 := by
        rw [show b.drop i = [] from List.drop_eq_nil_of_le (by omega), List.drop_eq_getElem_cons hlt]; rfl
      simp (config := {implicitDefEqProofs := false, maxDischargeDepth := 20}) (disch := first | omega | (simp only [lenE]; done) | (simp only [lenE]; omega) | rfl | (simp only [lenE, markR_len]; done) | (simp only [lenE, markR_len]; omega)) only [runE, mapE, listE, initT_5, initT_6, initT_7, initT_8, resV, oneV, binA, unA, reduceCtorEq, Nat.reduceEqDiff, Nat.reduceAdd, Nat.reduceLT, Nat.reduceLeDiff, Nat.reduceMul, Nat.reduceSub, ↓reduceIte, decide_true, decide_false, Bool.true_eq_false, Bool.false_eq_true, Bool.not_true, Bool.not_false, if_true, if_false, and_true, true_and, memE, celE, w64, Nat.zero_add, Nat.add_zero, Nat.mul_one, putL, and_self, ldn, t0, t1, t9, t10, t11, tm, hlt', hv.at_ i hlt, hv.ld i hlt, hu.len, ge_iff_le, hlb']
      rw [he, e]
      exact ext_ansV (Ext.refl m) rfl
  · have hlt' : ¬ ((i : Int) < a.length) := by omega
    have e : i = a.length := by omega
    by_cases hlb : a.length < b.length
    · have hlb' : (a.length : Int) < b.length := by omega
      have e2 : cmpL (a.drop i) (b.drop i) = -1 := by
        rw [e, List.drop_length, List.drop_eq_getElem_cons hlb]; rfl
      simp (config := {implicitDefEqProofs := false, maxDischargeDepth := 20}) (disch := first | omega | (simp only [lenE]; done) | (simp only [lenE]; omega) | rfl | (simp only [lenE, markR_len]; done) | (simp only [lenE, markR_len]; omega)) only [runE, mapE, listE, initT_5, initT_6, initT_7, initT_8, resV, oneV, binA, unA, reduceCtorEq, Nat.reduceEqDiff, Nat.reduceAdd, Nat.reduceLT, Nat.reduceLeDiff, Nat.reduceMul, Nat.reduceSub, ↓reduceIte, decide_true, decide_false, Bool.true_eq_false, Bool.false_eq_true, Bool.not_true, Bool.not_false, if_true, if_false, and_true, true_and, memE, celE, w64, Nat.zero_add, Nat.add_zero, Nat.mul_one, putL, and_self, ldn, t0, t1, t9, t10, t11, tm, hlt', hv.len, hu.len, hlb']
      rw [he, e2]
      exact ext_ansV (Ext.refl m) rfl
    · have hlb' : ¬ ((a.length : Int) < b.length) := by omega
      have e2 : cmpL (a.drop i) (b.drop i) = 0 := by
        rw [e, List.drop_length, show b.drop a.length = [] from List.drop_eq_nil_of_le (by omega)]; rfl
      simp (config := {implicitDefEqProofs := false, maxDischargeDepth := 20}) (disch := first | omega | (simp only [lenE]; done) | (simp only [lenE]; omega) | rfl | (simp only [lenE, markR_len]; done) | (simp only [lenE, markR_len]; omega)) only [runE, mapE, listE, initT_5, initT_6, initT_7, initT_8, resV, oneV, binA, unA, reduceCtorEq, Nat.reduceEqDiff, Nat.reduceAdd, Nat.reduceLT, Nat.reduceLeDiff, Nat.reduceMul, Nat.reduceSub, ↓reduceIte, decide_true, decide_false, Bool.true_eq_false, Bool.false_eq_true, Bool.not_true, Bool.not_false, if_true, if_false, and_true, true_and, memE, celE, w64, Nat.zero_add, Nat.add_zero, Nat.mul_one, putL, and_self, ldn, t0, t1, t9, t10, t11, tm, hlt', hv.len, hu.len, hlb']
      rw [he, e2]
      exact ext_ansV (Ext.refl m) rfl
def orL : List Int → Int
  | [] => 0
  | x :: l => if x = 0 then orL l else x
theorem orL_drop {a : List Int} {i : Nat} (ha : i < a.length) : orL (a.drop i) = if a.getD i 0 = 0 then orL (a.drop (i + 1)) else a.getD i 0 := by
  rw [List.drop_eq_getElem_cons ha, orL]
  simp [List.getD_eq_getElem?_getD, ha]
theorem cmpOr_rc (m : Mem) (v : Value) (a : List Int) (h : IntsA m v a) : RC Try.prog 112 [v] m (AnsV (.int .i64 (orL a))) := by
  refine rc_of_run mixed ok_cmp_Or (by simp) (go_start _ _ _ ?_)
  have hv := h.ro
  have hbd := hv.bd
  simp (config := {implicitDefEqProofs := false, maxDischargeDepth := 20}) (disch := first | omega | (simp only [lenE]; done) | (simp only [lenE]; omega) | rfl | (simp only [lenE, markR_len]; done) | (simp only [lenE, markR_len]; omega)) only [runE, mapE, listE, initT_5, initT_6, initT_7, initT_8, resV, oneV, binA, unA, reduceCtorEq, Nat.reduceEqDiff, Nat.reduceAdd, Nat.reduceLT, Nat.reduceLeDiff, Nat.reduceMul, Nat.reduceSub, ↓reduceIte, decide_true, decide_false, Bool.true_eq_false, Bool.false_eq_true, Bool.not_true, Bool.not_false, if_true, if_false, and_true, true_and, memE, celE, w64, Nat.zero_add, Nat.add_zero, Nat.mul_one, putL, and_self, ldn, c_cmp_Or, r_cmp_Or, hv.len]
  refine loop_inv mixed (fun s => ∃ i : Nat, i ≤ a.length ∧ orL a = orL (a.drop i) ∧ s.t 3 = .int .i64 0 ∧ s.t 6 = v ∧ s.t 7 = .int .i64 a.length ∧ s.t 8 = .int .i64 i ∧ s.m = roM m) (fun s => a.length - (intOf (s.t 8)).toNat)
    ⟨0, by omega, rfl, rfl, rfl, rfl, rfl, rfl⟩ ?_
  rintro s ⟨i, hk, he, t3, t6, t7, t8, tm⟩
  by_cases hlt : i < a.length
  · have hlt' : (i : Int) < a.length := by omega
    rw [orL_drop hlt] at he
    by_cases hq : a.getD i 0 = 0
    · have hq' : (a.getD i 0 != 0) = false := by rw [hq]; rfl
      rw [if_pos hq] at he
      simp (config := {implicitDefEqProofs := false, maxDischargeDepth := 20}) (disch := first | omega | (simp only [lenE]; done) | (simp only [lenE]; omega) | rfl | (simp only [lenE, markR_len]; done) | (simp only [lenE, markR_len]; omega)) only [runE, mapE, listE, initT_5, initT_6, initT_7, initT_8, resV, oneV, binA, unA, reduceCtorEq, Nat.reduceEqDiff, Nat.reduceAdd, Nat.reduceLT, Nat.reduceLeDiff, Nat.reduceMul, Nat.reduceSub, ↓reduceIte, decide_true, decide_false, Bool.true_eq_false, Bool.false_eq_true, Bool.not_true, Bool.not_false, if_true, if_false, and_true, true_and, memE, celE, w64, Nat.zero_add, Nat.add_zero, Nat.mul_one, putL, and_self, ldn, t3, t6, t7, t8, tm, hlt', hv.at_ i hlt, hv.ld i hlt, hq']
      exact ⟨⟨i + 1, by omega, he, by simp⟩, by simp [intOf]; omega⟩
    · have hq' : (a.getD i 0 != 0) = true := by simpa using hq
      rw [if_neg hq] at he
      simp (config := {implicitDefEqProofs := false, maxDischargeDepth := 20}) (disch := first | omega | (simp only [lenE]; done) | (simp only [lenE]; omega) | rfl | (simp only [lenE, markR_len]; done) | (simp only [lenE, markR_len]; omega)) only [runE, mapE, listE, initT_5, initT_6, initT_7, initT_8, resV, oneV, binA, unA, reduceCtorEq, Nat.reduceEqDiff, Nat.reduceAdd, Nat.reduceLT, Nat.reduceLeDiff, Nat.reduceMul, Nat.reduceSub, ↓reduceIte, decide_true, decide_false, Bool.true_eq_false, Bool.false_eq_true, Bool.not_true, Bool.not_false, if_true, if_false, and_true, true_and, memE, celE, w64, Nat.zero_add, Nat.add_zero, Nat.mul_one, putL, and_self, ldn, t3, t6, t7, t8, tm, hlt', hv.at_ i hlt, hv.ld i hlt, hq']
      rw [he]
      exact ext_ansV (Ext.refl m) rfl
  · have hlt' : ¬ ((i : Int) < a.length) := by omega
    have e : i = a.length := by omega
    rw [e, List.drop_length] at he
    simp (config := {implicitDefEqProofs := false, maxDischargeDepth := 20}) (disch := first | omega | (simp only [lenE]; done) | (simp only [lenE]; omega) | rfl | (simp only [lenE, markR_len]; done) | (simp only [lenE, markR_len]; omega)) only [runE, mapE, listE, initT_5, initT_6, initT_7, initT_8, resV, oneV, binA, unA, reduceCtorEq, Nat.reduceEqDiff, Nat.reduceAdd, Nat.reduceLT, Nat.reduceLeDiff, Nat.reduceMul, Nat.reduceSub, ↓reduceIte, decide_true, decide_false, Bool.true_eq_false, Bool.false_eq_true, Bool.not_true, Bool.not_false, if_true, if_false, and_true, true_and, memE, celE, w64, Nat.zero_add, Nat.add_zero, Nat.mul_one, putL, and_self, ldn, t3, t6, t7, t8, tm, hlt']
    rw [he]
    exact ext_ansV (Ext.refl m) rfl
theorem cmpL_lex : ∀ {a b : List Int}, a.length = b.length → decide (cmpL a b < 0) = lexB a b := by
  intro a
  induction a with
  | nil => intro b h; cases b with
    | nil => rfl
    | cons y b => simp at h
  | cons x a ih =>
    intro b h
    cases b with
    | nil => simp at h
    | cons y b =>
      rw [cmpL, lexB]
      unfold cmpI
      by_cases e : x = y
      · subst e
        simp only [Int.lt_irrefl, if_false, if_true]
        exact ih (by simpa using h)
      · rw [if_neg e]
        by_cases h1 : x < y
        · simp [h1]
        · have h2 : y < x := by omega
          simp [h1, h2]
theorem or_bef (c1 c2 : Int) (l1 l2 : List Int) : decide (orL [cmpI c1 c2, cmpI l1.length l2.length, cmpL l1 l2] < 0) = bef (c1, l1) (c2, l2) := by
  unfold bef beforeB
  simp only [orL]
  unfold cmpI
  by_cases e : c1 = c2
  · subst e
    simp only [Int.lt_irrefl, if_false, if_true]
    by_cases e2 : l1.length = l2.length
    · rw [if_pos e2, ← cmpL_lex e2, e2]
      simp only [Int.lt_irrefl, if_false, if_true]
      by_cases h0 : cmpL l1 l2 = 0
      · rw [h0]; simp
      · rw [if_neg h0]
    · rw [if_neg e2]
      by_cases h1 : l1.length < l2.length
      · have h1' : (l1.length : Int) < l2.length := by omega
        simp [h1]
      · have h2 : l2.length < l1.length := by omega
        simp [h1, h2]
  · rw [if_neg e]
    by_cases h1 : c1 < c2
    · simp [h1]
    · have h2 : c2 < c1 := by omega
      simp [h1, h2]
theorem comesBefore_rc (m : Mem) (c1 c2 : Int) (v u : Value) (a b : List Int) (h : IntsA m v a) (h' : IntsA m u b) :
    RC Try.prog 99 [.agg #[.int .i64 c1, v], .agg #[.int .i64 c2, u]] m (AnsV (.bool (bef (c1, a) (c2, b)))) := by
  refine rc_of_run mixed ok_impl_comesBefore (by simp) (go_start _ _ _ ?_)
  have hv := h.ro
  have hu := h'.ro
  have l1 := hv.len
  have l2 := hu.len
  simp (config := {implicitDefEqProofs := false, maxDischargeDepth := 20}) (disch := first | omega | (simp only [lenE]; done) | (simp only [lenE]; omega) | rfl | (simp only [lenE, markR_len]; done) | (simp only [lenE, markR_len]; omega)) only [runE, mapE, listE, initT_5, initT_6, initT_7, initT_8, resV, oneV, binA, unA, reduceCtorEq, Nat.reduceEqDiff, Nat.reduceAdd, Nat.reduceLT, Nat.reduceLeDiff, Nat.reduceMul, Nat.reduceSub, ↓reduceIte, decide_true, decide_false, Bool.true_eq_false, Bool.false_eq_true, Bool.not_true, Bool.not_false, if_true, if_false, and_true, true_and, memE, celE, w64, Nat.zero_add, Nat.add_zero, Nat.mul_one, putL, and_self, ldn, c_impl_comesBefore, r_impl_comesBefore, l1, l2]
  refine rcallH_rc (cmpI_rc _ c1 c2) ?_
  rintro r new ⟨rfl, rfl⟩
  simp (config := {implicitDefEqProofs := false, maxDischargeDepth := 20}) (disch := first | omega | (simp only [lenE]; done) | (simp only [lenE]; omega) | rfl | (simp only [lenE, markR_len]; done) | (simp only [lenE, markR_len]; omega)) only [runE, mapE, listE, initT_5, initT_6, initT_7, initT_8, resV, oneV, binA, unA, reduceCtorEq, Nat.reduceEqDiff, Nat.reduceAdd, Nat.reduceLT, Nat.reduceLeDiff, Nat.reduceMul, Nat.reduceSub, ↓reduceIte, decide_true, decide_false, Bool.true_eq_false, Bool.false_eq_true, Bool.not_true, Bool.not_false, if_true, if_false, and_true, true_and, memE, celE, w64, Nat.zero_add, Nat.add_zero, Nat.mul_one, putL, and_self, ldn]
  refine rcallH_rc (cmpI_rc _ (a.length : Int) (b.length : Int)) ?_
  rintro r new ⟨rfl, rfl⟩
  simp (config := {implicitDefEqProofs := false, maxDischargeDepth := 20}) (disch := first | omega | (simp only [lenE]; done) | (simp only [lenE]; omega) | rfl | (simp only [lenE, markR_len]; done) | (simp only [lenE, markR_len]; omega)) only [runE, mapE, listE, initT_5, initT_6, initT_7, initT_8, resV, oneV, binA, unA, reduceCtorEq, Nat.reduceEqDiff, Nat.reduceAdd, Nat.reduceLT, Nat.reduceLeDiff, Nat.reduceMul, Nat.reduceSub, ↓reduceIte, decide_true, decide_false, Bool.true_eq_false, Bool.false_eq_true, Bool.not_true, Bool.not_false, if_true, if_false, and_true, true_and, memE, celE, w64, Nat.zero_add, Nat.add_zero, Nat.mul_one, putL, and_self, ldn]
  refine rcallH_rc (slCompare_rc _ v u a b ((hv.ext _).ext _) ((hu.ext _).ext _)) ?_
  rintro r new ⟨rfl, nr⟩
  have b3 : ∀ (M : Mem) (x y z : Int), bslA M 3 1 3 [.int .i64 0, .int .i64 0, .int .i64 0] [(0, 1, .int .i64 x), (1, 1, .int .i64 y), (2, 1, .int .i64 z)] = some (.slice (some ⟨M.length, 0, none⟩) 3 1, M ++ [⟨.own, 3, [x, y, z].map (Value.int .i64)⟩]) := fun M x y z => rfl
  simp (config := {implicitDefEqProofs := false, maxDischargeDepth := 20}) (disch := first | omega | (simp only [lenE]; done) | (simp only [lenE]; omega) | rfl | (simp only [lenE, markR_len]; done) | (simp only [lenE, markR_len]; omega)) only [runE, mapE, listE, initT_5, initT_6, initT_7, initT_8, resV, oneV, binA, unA, reduceCtorEq, Nat.reduceEqDiff, Nat.reduceAdd, Nat.reduceLT, Nat.reduceLeDiff, Nat.reduceMul, Nat.reduceSub, ↓reduceIte, decide_true, decide_false, Bool.true_eq_false, Bool.false_eq_true, Bool.not_true, Bool.not_false, if_true, if_false, and_true, true_and, memE, celE, w64, Nat.zero_add, Nat.add_zero, Nat.mul_one, putL, and_self, ldn, b3]
  have o3 := fun M : Mem => OwnR.at_end M [cmpI c1 c2, cmpI (a.length : Int) (b.length : Int), cmpL a b]
  refine rcallH_rc (cmpOr_rc _ _ [cmpI c1 c2, cmpI (a.length : Int) (b.length : Int), cmpL a b] ((OwnR.end' (l := [cmpI c1 c2, cmpI (a.length : Int) (b.length : Int), cmpL a b]) (by simp [roM_len]; omega)).ints (by simp) 1)) ?_
  rintro r new2 ⟨rfl, nr2⟩
  simp (config := {implicitDefEqProofs := false, maxDischargeDepth := 20}) (disch := first | omega | (simp only [lenE]; done) | (simp only [lenE]; omega) | rfl | (simp only [lenE, markR_len]; done) | (simp only [lenE, markR_len]; omega)) only [runE, mapE, listE, initT_5, initT_6, initT_7, initT_8, resV, oneV, binA, unA, reduceCtorEq, Nat.reduceEqDiff, Nat.reduceAdd, Nat.reduceLT, Nat.reduceLeDiff, Nat.reduceMul, Nat.reduceSub, ↓reduceIte, decide_true, decide_false, Bool.true_eq_false, Bool.false_eq_true, Bool.not_true, Bool.not_false, if_true, if_false, and_true, true_and, memE, celE, w64, Nat.zero_add, Nat.add_zero, Nat.mul_one, putL, and_self, ldn]
  rw [or_bef]
  exact ext_ansV ((((((Ext.refl m).one _ _).one _ _).app nr).one _ _).app nr2) rfl
end Go.Proofs.Ytdgfbmilbhckiaa.Ab
end
section
namespace Go.Proofs.Ytdgfbmilbhckiaa.Ab
open Go Go.RowKit
set_option linter.unusedVariables false
set_option linter.unusedSimpArgs false
theorem wrapU (x : Int) (h : 0 ≤ x ∧ x ≤ 18446744073709551615) : IntKind.u64.wrap x = x := IntWalk.u64_in x ⟨h.1, by omega⟩
theorem FnOk.fn9 {P : Program} {f : FuncId} {n : Nat} {c : ACode} {res : List ARes} (hf : FnOk P f n c res) : ∃ fn, P.funcs[f]? = some fn ∧ (fn.name == "runtime.NumGoroutine") = false ∧ fn.body.isNone = false := by
  obtain ⟨fn, C, hfn, hname, hb, _⟩ := hf.ok
  exact ⟨fn, hfn, hname, by rw [hb]; rfl⟩
theorem rc_plain9 {P : Program} {f : FuncId} {args : List Value} {m : Mem} {v : Value} (hf : ∃ fn, P.funcs[f]? = some fn ∧ (fn.name == "runtime.NumGoroutine") = false ∧ fn.body.isNone = false) (hv : ∀ ρ, VR ρ v v)
    (H : ∀ (ρ : Places) (w : World) (cargs : List Value), MRel w w.heap.size ρ (roM m) w → VL ρ args cargs → Calls P f cargs.toArray w (fun e w' => e = .returned v ∧ Below w.heap.size w w')) : RC P f args m fun r new => r = v ∧ new = [] :=
  ⟨hf, fun ρ w cargs hm ha => (H ρ w cargs hm ha).mono fun e w' ⟨he, hb⟩ => ⟨v, v, [], [], he, ⟨rfl, rfl⟩, noRo_nil, by simpa using hm.keep hb, by simpa using hv ρ⟩⟩
theorem len_bits : ∀ c : Fin 256, c.val < 2 ^ Lib.bitLen c.val ∧ Lib.bitLen c.val ≤ 8 := by decide +kernel
theorem bitsLen_rc (m : Mem) (c : Nat) : c < 256 → RC Try.prog 111 [.int .u64 (c : Int)] m fun r new => r = .int .i64 ((Lib.bitLen c : Nat) : Int) ∧ new = [] := by
  intro hc
  refine rc_plain9 ok_math_bits_Len.fn9 (fun ρ => .int _ _) fun ρ w cargs hm ha => ?_
  obtain ⟨hl, hp⟩ := ha
  match cargs, hl with
  | [y], _ =>
    have hy := hp 0 (.int .u64 (c : Int)) y rfl rfl
    cases hy
    refine (Try.bits_Len (c : Int) w (by omega) (by omega)).mono ?_
    rintro e w' ⟨rfl, rfl⟩
    exact ⟨by rw [Int.toNat_natCast], Below.refl _ _⟩
theorem allPeriods_rc (m : Mem) (n : Nat) (hn : n ≤ 8) : RC Try.prog 97 [.int .i64 (n : Int)] m fun r new => r = .int .u64 ((2 ^ n - 1 : Nat) : Int) ∧ new = [] := by
  refine rc_of_run mixed ok_impl_allPeriods (by simp) (go_start _ _ _ ?_)
  have hn0 : ¬ ((n : Int) < 0) := by omega
  simp (config := {implicitDefEqProofs := false, maxDischargeDepth := 20}) (disch := first | omega | (simp only [lenE]; done) | (simp only [lenE]; omega) | rfl | (simp only [lenE, markR_len]; done) | (simp only [lenE, markR_len]; omega)) only [runE, mapE, listE, initT_5, initT_6, initT_7, initT_8, resV, oneV, binA, unA, reduceCtorEq, Nat.reduceEqDiff, Nat.reduceAdd, Nat.reduceLT, Nat.reduceLeDiff, Nat.reduceMul, Nat.reduceSub, ↓reduceIte, decide_true, decide_false, Bool.true_eq_false, Bool.false_eq_true, Bool.not_true, Bool.not_false, if_true, if_false, and_true, true_and, memE, celE, w64, Nat.zero_add, Nat.add_zero, Nat.mul_one, putL, and_self, ldn, c_impl_allPeriods, r_impl_allPeriods, hn0]
  have e1 : min ((n : Nat) : Int).toNat IntKind.u64.bits = n := by
    have : IntKind.u64.bits = 64 := rfl
    rw [this]; omega
  have h2 : 2 ^ n ≤ 2 ^ 8 := Nat.pow_le_pow_right (by omega) hn
  have h1 : 1 ≤ 2 ^ n := Nat.one_le_two_pow
  have e2 : (2 : Int) ^ n = ((2 ^ n : Nat) : Int) := by simp
  obtain ⟨N, hN⟩ : ∃ N : Nat, N = 2 ^ n := ⟨_, rfl⟩
  rw [e1, Int.one_mul, e2]
  rw [← hN] at h2 h1 ⊢
  rw [wrapU (N : Int) ⟨by omega, by omega⟩, wrapU ((N : Int) - 1) ⟨by omega, by omega⟩]
  exact newQ_nil ⟨by congr 1; omega, rfl⟩
theorem bitsL_stop {c L : Nat} (h : c < 2 ^ L) : ∀ k, bitsL c (L + k) = bitsL c L := by
  intro k
  induction k with
  | zero => rfl
  | succ k ih =>
    have h1 : c < 2 ^ (L + k) := Nat.lt_of_lt_of_le h (Nat.pow_le_pow_right (by omega) (by omega))
    have h2 : c / 2 ^ (L + k) = 0 := Nat.div_eq_of_lt h1
    rw [← Nat.add_assoc, bitsL, h2, if_neg (by simp), ih]
theorem bitsL_same {c L n : Nat} (h : c < 2 ^ L) (h' : c < 2 ^ n) : bitsL c L = bitsL c n := by
  rcases Nat.le_total L n with e | e
  · have := bitsL_stop h (n - L)
    rw [show L + (n - L) = n by omega] at this
    exact this.symm
  · have := bitsL_stop h' (L - n)
    rw [show n + (L - n) = L by omega] at this
    exact this
theorem and1U (x : Nat) (h : x ≤ 1000) : IntKind.wrap .u64 (((BitVec.ofInt IntKind.u64.bits (x : Int) &&& BitVec.ofInt IntKind.u64.bits 1).toNat : Nat) : Int) = ((x % 2 : Nat) : Int) := by
  rw [show ((BitVec.ofInt IntKind.u64.bits (x : Int) &&& BitVec.ofInt IntKind.u64.bits 1).toNat) = x % 2 from and1 x]
  exact wrapU _ ⟨by omega, by omega⟩
theorem shrU {c x : Nat} (h : x ≤ 63) : (c : Int).fdiv (2 ^ (min ((x : Nat) : Int).toNat IntKind.u64.bits)) = ((c / 2 ^ x : Nat) : Int) := shr_code h
theorem setList_rc (m : Mem) (n c : Nat) (hn : n ≤ 8) (hc : c < 2 ^ n) : RC Try.prog 98 [.int .u64 (c : Int)] m (AnsR m (bitsL c n)) := by
  refine rc_of_run mixed ok_impl_periodSet__list (by simp) (go_start _ _ _ ?_)
  have h28 : 2 ^ n ≤ 2 ^ 8 := Nat.pow_le_pow_right (by omega) hn
  have hc8 : c < 256 := by omega
  obtain ⟨hb1, hb2⟩ := len_bits ⟨c, hc8⟩
  obtain ⟨L, hL⟩ : ∃ L, L = Lib.bitLen c := ⟨_, rfl⟩
  simp only at hb1 hb2
  have K : ∀ m, RC Try.prog 111 [.int .u64 (c : Int)] m fun r new => r = .int .i64 (L : Int) ∧ new = [] := fun m => by rw [hL]; exact bitsLen_rc m c hc8
  rw [← hL] at hb1 hb2
  rw [bitsL_same hc hb1]
  simp (config := {implicitDefEqProofs := false, maxDischargeDepth := 20}) (disch := first | omega | (simp only [lenE]; done) | (simp only [lenE]; omega) | rfl | (simp only [lenE, markR_len]; done) | (simp only [lenE, markR_len]; omega)) only [runE, mapE, listE, initT_5, initT_6, initT_7, initT_8, resV, oneV, binA, unA, reduceCtorEq, Nat.reduceEqDiff, Nat.reduceAdd, Nat.reduceLT, Nat.reduceLeDiff, Nat.reduceMul, Nat.reduceSub, ↓reduceIte, decide_true, decide_false, Bool.true_eq_false, Bool.false_eq_true, Bool.not_true, Bool.not_false, if_true, if_false, and_true, true_and, memE, celE, w64, Nat.zero_add, Nat.add_zero, Nat.mul_one, putL, and_self, ldn, c_impl_periodSet__list, r_impl_periodSet__list, bsl_none]
  refine callH_rc (K _) ?_
  rintro r new ⟨rfl, rfl⟩
  simp (config := {implicitDefEqProofs := false, maxDischargeDepth := 20}) (disch := first | omega | (simp only [lenE]; done) | (simp only [lenE]; omega) | rfl | (simp only [lenE, markR_len]; done) | (simp only [lenE, markR_len]; omega)) only [runE, mapE, listE, initT_5, initT_6, initT_7, initT_8, resV, oneV, binA, unA, reduceCtorEq, Nat.reduceEqDiff, Nat.reduceAdd, Nat.reduceLT, Nat.reduceLeDiff, Nat.reduceMul, Nat.reduceSub, ↓reduceIte, decide_true, decide_false, Bool.true_eq_false, Bool.false_eq_true, Bool.not_true, Bool.not_false, if_true, if_false, and_true, true_and, memE, celE, w64, Nat.zero_add, Nat.add_zero, Nat.mul_one, putL, and_self, ldn]
  refine loop_inv mixed (fun s => ∃ (x : Nat) (M : Mem) (id : Nat), x ≤ L ∧ s.t 0 = .int .u64 (c : Int) ∧ s.t 3 = .slice (some ⟨id, 0, none⟩) (bitsL c x).length 1 ∧ s.t 7 = .int .i64 (L : Int) ∧ s.t 8 = .int .i64 x ∧ s.m = M ∧ Ext m M ∧ OwnR M id (bitsL c x) ∧ m.length ≤ id) (fun s => L - (intOf (s.t 8)).toNat)
    ⟨0, _, m.length, by omega, rfl, by simp only [put_t, put_t', put_m, putT_t, putT_t', putT_m, init_t, init_m, initT_0, initT_1, initT_2, initT_3, initT_4, initT_5, initT_6, initT_7, initT_8, Nat.reduceEqDiff, ↓reduceIte]; rfl, rfl, rfl, rfl, (Ext.refl m).one _ _, OwnR.end' (l := []) (by simp [roM_len]), Nat.le_refl _⟩ ?_
  rintro s ⟨x, M, id, hk, t0, t3, t7, t8, tm, hx, oM, lid⟩
  by_cases hlt : x < L
  · have hlt' : (x : Int) < L := by omega
    have hx0 : ¬ ((x : Int) < 0) := by omega
    have hd : c / 2 ^ x ≤ 1000 := Nat.le_trans (Nat.div_le_self _ _) (by omega)
    have bl := bitsL_len c x
    have aw := and1U (c / 2 ^ x) hd
    by_cases hb : c / 2 ^ x % 2 = 1
    · have hb' : (((c / 2 ^ x % 2 : Nat) : Int) == 1) = true := by rw [hb]; rfl
      simp (config := {implicitDefEqProofs := false, maxDischargeDepth := 20}) (disch := first | omega | (simp only [lenE]; done) | (simp only [lenE]; omega) | rfl | (simp only [lenE, markR_len]; done) | (simp only [lenE, markR_len]; omega)) only [runE, mapE, listE, initT_5, initT_6, initT_7, initT_8, resV, oneV, binA, unA, reduceCtorEq, Nat.reduceEqDiff, Nat.reduceAdd, Nat.reduceLT, Nat.reduceLeDiff, Nat.reduceMul, Nat.reduceSub, ↓reduceIte, decide_true, decide_false, Bool.true_eq_false, Bool.false_eq_true, Bool.not_true, Bool.not_false, if_true, if_false, and_true, true_and, memE, celE, w64, Nat.zero_add, Nat.add_zero, Nat.mul_one, putL, and_self, ldn, t0, t3, t7, t8, tm, hlt', hx0, shrU (c := c) (show x ≤ 63 by omega), aw, hb', bsl_one, app_gen oM (by omega)]
      refine ⟨⟨x + 1, _, M.length + 1, by omega, by rw [bitsL, if_pos hb]; simp, by simp, rfl, ((hx.dead lid).one _ _).one _ _, ?_, by have := hx.len; omega⟩, by simp [intOf]; omega⟩
      rw [bitsL, if_pos hb]
      have := OwnR.at_end (M.set id deadB ++ [⟨.own, 3, [.int .i64 (x : Int)]⟩]) (bitsL c x ++ [(x : Int)])
      simpa using this
    · have hb' : (((c / 2 ^ x % 2 : Nat) : Int) == 1) = false := by
        have : c / 2 ^ x % 2 = 0 := by omega
        rw [this]; rfl
      simp (config := {implicitDefEqProofs := false, maxDischargeDepth := 20}) (disch := first | omega | (simp only [lenE]; done) | (simp only [lenE]; omega) | rfl | (simp only [lenE, markR_len]; done) | (simp only [lenE, markR_len]; omega)) only [runE, mapE, listE, initT_5, initT_6, initT_7, initT_8, resV, oneV, binA, unA, reduceCtorEq, Nat.reduceEqDiff, Nat.reduceAdd, Nat.reduceLT, Nat.reduceLeDiff, Nat.reduceMul, Nat.reduceSub, ↓reduceIte, decide_true, decide_false, Bool.true_eq_false, Bool.false_eq_true, Bool.not_true, Bool.not_false, if_true, if_false, and_true, true_and, memE, celE, w64, Nat.zero_add, Nat.add_zero, Nat.mul_one, putL, and_self, ldn, t0, t3, t7, t8, tm, hlt', hx0, shrU (c := c) (show x ≤ 63 by omega), aw, hb']
      exact ⟨⟨x + 1, M, id, by omega, by rw [bitsL, if_neg hb], by simp, rfl, hx, by rw [bitsL, if_neg hb]; exact oM, lid⟩, by simp [intOf]; omega⟩
  · have hlt' : ¬ ((x : Int) < L) := by omega
    have e : x = L := by omega
    subst e
    have := bitsL_len c x
    simp (config := {implicitDefEqProofs := false, maxDischargeDepth := 20}) (disch := first | omega | (simp only [lenE]; done) | (simp only [lenE]; omega) | rfl | (simp only [lenE, markR_len]; done) | (simp only [lenE, markR_len]; omega)) only [runE, mapE, listE, initT_5, initT_6, initT_7, initT_8, resV, oneV, binA, unA, reduceCtorEq, Nat.reduceEqDiff, Nat.reduceAdd, Nat.reduceLT, Nat.reduceLeDiff, Nat.reduceMul, Nat.reduceSub, ↓reduceIte, decide_true, decide_false, Bool.true_eq_false, Bool.false_eq_true, Bool.not_true, Bool.not_false, if_true, if_false, and_true, true_and, memE, celE, w64, Nat.zero_add, Nat.add_zero, Nat.mul_one, putL, and_self, ldn, t0, t3, t7, t8, tm, hlt']
    exact ext_ansR hx oM (by omega) rfl (by omega)
def bestO (g : List Int → Option Int) (n : Nat) : Nat → Option (Int × List Int)
  | 0 => none
  | c + 1 => match g (bitsL c n) with
    | none => bestO g n c
    | some x => match bestO g n c with
      | none => some (x, bitsL c n)
      | some b => if bef (x, bitsL c n) b then some (x, bitsL c n) else some b
def bestV (b : Option (Int × List Int)) : Int × List Int := b.getD (9223372036854775807, [])
theorem bestO_no {g : List Int → Option Int} {n c : Nat} (h : g (bitsL c n) = none) : bestO g n (c + 1) = bestO g n c := by simp only [bestO, h]
theorem bestO_yes {g : List Int → Option Int} {n c : Nat} {x : Int} (h : g (bitsL c n) = some x) (hx : x < 9223372036854775807) : bestO g n (c + 1) = some (if bef (x, bitsL c n) (bestV (bestO g n c)) then (x, bitsL c n) else bestV (bestO g n c)) := by
  simp only [bestO, h]
  cases hb : bestO g n c with
  | none =>
    have : bef (x, bitsL c n) (bestV none) = true := by
      unfold bestV bef
      simp only [Option.getD_none]
      rw [if_neg (by omega)]
      exact decide_eq_true hx
    simp only [this, if_true]
  | some b =>
    simp only [bestV, Option.getD_some]
    by_cases e : bef (x, bitsL c n) b = true
    · simp [e]
    · simp [e]
theorem bestO_len (g : List Int → Option Int) (n : Nat) : ∀ c, (bestV (bestO g n c)).2.length ≤ n := by
  intro c
  induction c with
  | zero => simp [bestO, bestV]
  | succ c ih =>
    cases hg : g (bitsL c n) with
    | none => rw [bestO_no hg]; exact ih
    | some x =>
      simp only [bestO, hg]
      cases hb : bestO g n c with
      | none => simp only [bestV, Option.getD_some]; exact bitsL_len _ _
      | some b =>
        rw [hb] at ih
        simp only [bestV, Option.getD_some] at ih
        by_cases e : bef (x, bitsL c n) b = true
        · simp only [e, if_true, bestV, Option.getD_some]; exact bitsL_len _ _
        · simp only [Bool.not_eq_true] at e
          simp only [e, Bool.false_eq_true, if_false, bestV, Option.getD_some]; exact ih
def CostF (m : Mem) (fv : Value) (n : Nat) (g : List Int → Option Int) : Prop :=
  ∃ f cap, fv = .func (.func f) #[] cap ∧ ∀ (M : Mem) (u : Value) (c : Nat), Ext m M → c < 2 ^ n → IntsA M u (bitsL c n) → RC Try.prog f (u :: cap.toList) M (AnsV (.tuple #[.int .i64 ((g (bitsL c n)).getD 0), .bool (g (bitsL c n)).isSome]))
theorem bldL (x : Int) : bldA [.int .i64 0, .slice none 0 0] [(0, 1, .int .i64 x)] = some (.agg #[.int .i64 x, .slice none 0 0]) := rfl
theorem bldL2 (x : Int) (A : Option Addr) (n c : Nat) : bldA [.int .i64 0, .slice none 0 0] [(0, 1, .int .i64 x), (1, 1, .slice A n c)] = some (.agg #[.int .i64 x, .slice A n c]) := rfl
theorem stP_aggL2 (m : Mem) (id off : Nat) (u v : Value) : stP m 2 (.pointer (some ⟨id, off, none⟩)) (.agg #[u, v]) = stA m id off [u, v] := rfl
def ListV (p : Prop) (M : Mem) (k : Nat) (v : Value) (l : List Int) : Prop := (p ∧ v = .slice none 0 0 ∧ l = []) ∨ ∃ id fl, v = .slice (some ⟨id, 0, none⟩) l.length fl ∧ k < id ∧ OwnR M id l
theorem ListV.ints {p : Prop} {M : Mem} {k : Nat} {v : Value} {l : List Int} (h : ListV p M k v l) (hb : l.length ≤ 1000) : IntsA M v l := by
  rcases h with ⟨_, rfl, rfl⟩ | ⟨id, fl, rfl, _, ho⟩
  · exact IntsA.nil M
  · exact ho.ints (by omega) fl
theorem ListV.ext {p : Prop} {M : Mem} {k : Nat} {v : Value} {l : List Int} (h : ListV p M k v l) (new : Mem) : ListV p (M ++ new) k v l := by
  rcases h with ⟨hp, rfl, rfl⟩ | ⟨id, fl, rfl, hk, ho⟩
  · exact .inl ⟨hp, rfl, rfl⟩
  · exact .inr ⟨id, fl, rfl, hk, ho.ext new⟩
theorem ListV.set {p : Prop} {M : Mem} {k i : Nat} {v : Value} {l : List Int} (h : ListV p M k v l) (hi : i ≤ k) (b : Blk) : ListV p (M.set i b) k v l := by
  rcases h with ⟨hp, rfl, rfl⟩ | ⟨id, fl, rfl, hk, ho⟩
  · exact .inl ⟨hp, rfl, rfl⟩
  · exact .inr ⟨id, fl, rfl, hk, ho.set_ne (by omega)⟩
theorem ListV.one {p : Prop} {M : Mem} {k : Nat} {v : Value} {l : List Int} (h : ListV p M k v l) (xs : List Value) : onesB (v :: xs) = onesB xs := by
  rcases h with ⟨_, rfl, rfl⟩ | ⟨id, fl, rfl, hk, ho⟩ <;> rfl
def AnsBest (p : Prop) (m : Mem) (x : Int) (l : List Int) (r : Value) (new : Mem) : Prop := NoRo new ∧ ∃ v, r = .agg #[.int .i64 x, v] ∧ ListV p (m ++ new) m.length v l
theorem ext_best {p : Prop} {m M : Mem} {x : Int} {l : List Int} {v : Value} (h : Ext m M) (hv : ListV p M m.length v l) : newQ m (AnsBest p m x l) (.agg #[.int .i64 x, v]) M := by
  obtain ⟨n0, rfl, h0⟩ := h
  refine ⟨n0, rfl, h0, h0, v, rfl, ?_⟩
  rcases hv with ⟨hp, rfl, rfl⟩ | ⟨id, fl, rfl, hk, ho⟩
  · exact .inl ⟨hp, rfl, rfl⟩
  · exact .inr ⟨id, fl, rfl, hk, ho.at_ (by rw [List.getElem?_append_right (by omega), List.getElem?_append_right (by rw [roM_len]; omega), roM_len])⟩
theorem bestOfSets_rc (m : Mem) (fv : Value) (n : Nat) (g : List Int → Option Int) (hn : n ≤ 8) (hf : CostF m fv n g) (hg : ∀ c x, c < 2 ^ n → g (bitsL c n) = some x → x < 9223372036854775807) :
    RC Try.prog 57 [.int .i64 (n : Int), fv] m (AnsBest (bestO g n (2 ^ n) = none) m (bestV (bestO g n (2 ^ n))).1 (bestV (bestO g n (2 ^ n))).2) := by
  refine rc_of_run mixed ok_impl_bestOfSets (by simp) (go_start _ _ _ ?_)
  obtain ⟨f, cap, rfl, hC⟩ := hf
  have hX := ((Ext.refl m).one 70 [.int .i64 0, .slice none 0 0]).one 70 [.int .i64 9223372036854775807, .slice none 0 0]
  obtain ⟨M0, hM0⟩ : ∃ M0, M0 = roM m ++ [⟨.own, 70, [.int .i64 0, .slice none 0 0]⟩] ++ [⟨.own, 70, [.int .i64 9223372036854775807, .slice none 0 0]⟩] := ⟨_, rfl⟩
  have o1 : OwnB M0 m.length 70 [.int .i64 0, .slice none 0 0] := by rw [hM0]; exact (OwnB.here (by simp [roM_len])).ext _
  have o2 : OwnB M0 (m.length + 1) 70 [.int .i64 9223372036854775807, .slice none 0 0] := by rw [hM0]; exact OwnB.here (by simp [roM_len])
  have h28 : 2 ^ n ≤ 2 ^ 8 := Nat.pow_le_pow_right (by omega) hn
  have h1 : 1 ≤ 2 ^ n := Nat.one_le_two_pow
  obtain ⟨NN, hNN⟩ : ∃ NN, NN = 2 ^ n := ⟨_, rfl⟩
  rw [← hNN] at h28 h1 hC hg ⊢
  have KA := fun m' => allPeriods_rc m' n hn
  rw [← hNN] at KA
  have eN : ((NN - 1 : Nat) : Int) + 1 = (NN : Int) := by omega
  have wN : IntKind.u64.wrap (NN : Int) = (NN : Int) := wrapU _ ⟨by omega, by omega⟩
  simp (config := {implicitDefEqProofs := false, maxDischargeDepth := 20}) (disch := first | omega | (simp only [lenE]; done) | (simp only [lenE]; omega) | rfl | (simp only [lenE, markR_len]; done) | (simp only [lenE, markR_len]; omega)) only [runE, mapE, listE, initT_5, initT_6, initT_7, initT_8, resV, oneV, binA, unA, reduceCtorEq, Nat.reduceEqDiff, Nat.reduceAdd, Nat.reduceLT, Nat.reduceLeDiff, Nat.reduceMul, Nat.reduceSub, ↓reduceIte, decide_true, decide_false, Bool.true_eq_false, Bool.false_eq_true, Bool.not_true, Bool.not_false, if_true, if_false, and_true, true_and, memE, celE, w64, Nat.zero_add, Nat.add_zero, Nat.mul_one, putL, and_self, ldn, c_impl_bestOfSets, r_impl_bestOfSets, bldL, stP_aggL2]
  rw [← hM0] at hX ⊢
  refine callH_rc (KA _) ?_
  rintro r new ⟨rfl, rfl⟩
  rw [List.append_nil]
  simp (config := {implicitDefEqProofs := false, maxDischargeDepth := 20}) (disch := first | omega | (simp only [lenE]; done) | (simp only [lenE]; omega) | rfl | (simp only [lenE, markR_len]; done) | (simp only [lenE, markR_len]; omega)) only [runE, mapE, listE, initT_5, initT_6, initT_7, initT_8, resV, oneV, binA, unA, reduceCtorEq, Nat.reduceEqDiff, Nat.reduceAdd, Nat.reduceLT, Nat.reduceLeDiff, Nat.reduceMul, Nat.reduceSub, ↓reduceIte, decide_true, decide_false, Bool.true_eq_false, Bool.false_eq_true, Bool.not_true, Bool.not_false, if_true, if_false, and_true, true_and, memE, celE, w64, Nat.zero_add, Nat.add_zero, Nat.mul_one, putL, and_self, ldn, eN, wN]
  refine loop_inv mixed (fun s => ∃ (c : Nat) (M : Mem) (pv : Value), c ≤ NN ∧ s.m = M ∧ Ext m M ∧ OwnB M m.length 70 [.int .i64 0, .slice none 0 0] ∧ OwnB M (m.length + 1) 70 [.int .i64 (bestV (bestO g n c)).1, pv] ∧ ListV (bestO g n c = none) M (m.length + 1) pv (bestV (bestO g n c)).2 ∧
      s.t 1 = .func (.func f) #[] cap ∧ s.t 4 = .pointer (some ⟨m.length, 0, none⟩) ∧ s.t 5 = .pointer (some ⟨m.length + 1, 0, none⟩) ∧ s.t 14 = .int .u64 (NN : Int) ∧ s.t 15 = .int .u64 (c : Int)) (fun s => NN - (intOf (s.t 15)).toNat)
    ⟨0, M0, .slice none 0 0, by omega, (by first | rfl | simp only [put_t, put_t', put_m, putT_t, putT_t', putT_m, init_t, init_m, initT_0, initT_1, initT_2, initT_3, initT_4, initT_5, initT_6, initT_7, initT_8, Nat.reduceEqDiff, ↓reduceIte]), hX, o1, o2, .inl ⟨rfl, rfl, rfl⟩, rfl, rfl, rfl, rfl, rfl⟩ ?_
  clear hX o1 o2 hM0
  rintro s ⟨c, M, pv, hk, tm, hX, o1, o2, hL, t1, t4, t5, t14, t15⟩
  have bl := bestO_len g n c
  have hlm := o2.lt
  by_cases hlt : c < NN
  · have hlt' : (c : Int) < NN := by omega
    simp (config := {implicitDefEqProofs := false, maxDischargeDepth := 20}) (disch := first | omega | (simp only [lenE]; done) | (simp only [lenE]; omega) | rfl | (simp only [lenE, markR_len]; done) | (simp only [lenE, markR_len]; omega)) only [runE, mapE, listE, initT_5, initT_6, initT_7, initT_8, resV, oneV, binA, unA, reduceCtorEq, Nat.reduceEqDiff, Nat.reduceAdd, Nat.reduceLT, Nat.reduceLeDiff, Nat.reduceMul, Nat.reduceSub, ↓reduceIte, decide_true, decide_false, Bool.true_eq_false, Bool.false_eq_true, Bool.not_true, Bool.not_false, if_true, if_false, and_true, true_and, memE, celE, w64, Nat.zero_add, Nat.add_zero, Nat.mul_one, putL, and_self, ldn, tm, t1, t4, t5, t14, t15, hlt']
    refine callH_rc (setList_rc M n c hn (by omega)) ?_
    intro r n1 hA
    obtain ⟨pid, pf, rfl, pge, op, ple, nr1⟩ := hA.row
    have hb := bitsL_len c n
    obtain ⟨ps, hps⟩ : ∃ ps, ps = bitsL c n := ⟨_, rfl⟩
    rw [← hps] at op ple hb ⊢
    replace hX := hX.app nr1
    replace o1 := o1.ext n1
    replace o2 := o2.ext n1
    replace hL := hL.ext n1
    obtain ⟨M1, hM1⟩ : ∃ M1, M1 = M ++ n1 := ⟨_, rfl⟩
    rw [← hM1] at hX o1 o2 hL op ⊢
    have ip := op.ints (by omega) pf
    simp (config := {implicitDefEqProofs := false, maxDischargeDepth := 20}) (disch := first | omega | (simp only [lenE]; done) | (simp only [lenE]; omega) | rfl | (simp only [lenE, markR_len]; done) | (simp only [lenE, markR_len]; omega)) only [runE, mapE, listE, initT_5, initT_6, initT_7, initT_8, resV, oneV, binA, unA, reduceCtorEq, Nat.reduceEqDiff, Nat.reduceAdd, Nat.reduceLT, Nat.reduceLeDiff, Nat.reduceMul, Nat.reduceSub, ↓reduceIte, decide_true, decide_false, Bool.true_eq_false, Bool.false_eq_true, Bool.not_true, Bool.not_false, if_true, if_false, and_true, true_and, memE, celE, w64, Nat.zero_add, Nat.add_zero, Nat.mul_one, putL, and_self, ldn, t1]
    have KC := hC M1 (.slice (some ⟨pid, 0, none⟩) ps.length pf) c hX (by omega) (by rw [← hps]; exact ip)
    rw [← hps] at KC
    refine callH_rc KC ?_
    rintro r n2 ⟨rfl, nr2⟩
    replace hX := hX.app nr2
    replace o1 := o1.ext n2
    replace o2 := o2.ext n2
    replace hL := hL.ext n2
    replace op := op.ext n2
    obtain ⟨M2, hM2⟩ : ∃ M2, M2 = M1 ++ n2 := ⟨_, rfl⟩
    rw [← hM2] at hX o1 o2 hL op ⊢
    have wC : IntKind.u64.wrap ((c : Int) + 1) = (c : Int) + 1 := wrapU _ ⟨by omega, by omega⟩
    cases hgp : g ps with
    | none =>
      simp (config := {implicitDefEqProofs := false, maxDischargeDepth := 20}) (disch := first | omega | (simp only [lenE]; done) | (simp only [lenE]; omega) | rfl | (simp only [lenE, markR_len]; done) | (simp only [lenE, markR_len]; omega)) only [runE, mapE, listE, initT_5, initT_6, initT_7, initT_8, resV, oneV, binA, unA, reduceCtorEq, Nat.reduceEqDiff, Nat.reduceAdd, Nat.reduceLT, Nat.reduceLeDiff, Nat.reduceMul, Nat.reduceSub, ↓reduceIte, decide_true, decide_false, Bool.true_eq_false, Bool.false_eq_true, Bool.not_true, Bool.not_false, if_true, if_false, and_true, true_and, memE, celE, w64, Nat.zero_add, Nat.add_zero, Nat.mul_one, putL, and_self, ldn, ext_2_0, ext_2_1, bldL2, stP_aggL2, t1, t4, t5, t14, t15, goG_undef, Option.isSome_none, Option.getD_none, wC]
      refine ⟨⟨c + 1, _, pv, by omega, rfl, hX.one _ _, o1.ext _, ?_, ?_, by simp⟩, ?_⟩
      · rw [bestO_no (by rw [← hps]; exact hgp)]; exact o2.ext _
      · rw [bestO_no (by rw [← hps]; exact hgp)]; exact hL.ext _
      · simp [intOf]; omega
    | some x =>
      simp (config := {implicitDefEqProofs := false, maxDischargeDepth := 20}) (disch := first | omega | (simp only [lenE]; done) | (simp only [lenE]; omega) | rfl | (simp only [lenE, markR_len]; done) | (simp only [lenE, markR_len]; omega)) only [runE, mapE, listE, initT_5, initT_6, initT_7, initT_8, resV, oneV, binA, unA, reduceCtorEq, Nat.reduceEqDiff, Nat.reduceAdd, Nat.reduceLT, Nat.reduceLeDiff, Nat.reduceMul, Nat.reduceSub, ↓reduceIte, decide_true, decide_false, Bool.true_eq_false, Bool.false_eq_true, Bool.not_true, Bool.not_false, if_true, if_false, and_true, true_and, memE, celE, w64, Nat.zero_add, Nat.add_zero, Nat.mul_one, putL, and_self, ldn, ext_2_0, ext_2_1, bldL2, stP_aggL2, t1, t4, t5, t14, t15, Option.isSome_some, Option.getD_some, (o2.ext [⟨.own, 70, [.int .i64 x, .slice (some ⟨pid, 0, none⟩) ps.length pf]⟩]).rd, (o1.ext [⟨.own, 70, [.int .i64 x, .slice (some ⟨pid, 0, none⟩) ps.length pf]⟩]).rd]
      have hyes := bestO_yes (g := g) (n := n) (c := c) (x := x) (by rw [← hps]; exact hgp) (hg c x (by omega) (by rw [← hps]; exact hgp))
      rw [← hps] at hyes
      have ip2 := (op.ext [⟨.own, 70, [.int .i64 x, .slice (some ⟨pid, 0, none⟩) ps.length pf]⟩]).ints (by omega) pf
      have il2 := (hL.ext [⟨.own, 70, [.int .i64 x, .slice (some ⟨pid, 0, none⟩) ps.length pf]⟩]).ints (by omega)
      have ob : OwnB (M2 ++ [⟨.own, 70, [.int .i64 x, .slice (some ⟨pid, 0, none⟩) ps.length pf]⟩]) M2.length 70 [.int .i64 x, .slice (some ⟨pid, 0, none⟩) ps.length pf] := OwnB.here rfl
      have hXb := hX.one 70 [.int .i64 x, .slice (some ⟨pid, 0, none⟩) ps.length pf]
      have o1b := o1.ext [⟨.own, 70, [.int .i64 x, .slice (some ⟨pid, 0, none⟩) ps.length pf]⟩]
      have o2b := o2.ext [⟨.own, 70, [.int .i64 x, .slice (some ⟨pid, 0, none⟩) ps.length pf]⟩]
      have hLb := hL.ext [⟨.own, 70, [.int .i64 x, .slice (some ⟨pid, 0, none⟩) ps.length pf]⟩]
      have opb := op.ext [⟨.own, 70, [.int .i64 x, .slice (some ⟨pid, 0, none⟩) ps.length pf]⟩]
      have m2l : M.length ≤ M2.length := by rw [hM2, hM1]; simp; try omega
      obtain ⟨M3, hM3⟩ : ∃ M3, M3 = M2 ++ [⟨.own, 70, [.int .i64 x, .slice (some ⟨pid, 0, none⟩) ps.length pf]⟩] := ⟨_, rfl⟩
      rw [← hM3] at ip2 il2 ob hXb o1b o2b hLb opb ⊢
      obtain ⟨b, hb9⟩ : ∃ b, b = bestV (bestO g n c) := ⟨_, rfl⟩
      rw [← hb9] at hyes il2 o2b hLb bl ⊢
      obtain ⟨b1, b2⟩ := b
      have hsame : bef (x, ps) (b1, b2) = false → ∀ {p : Prop}, ListV p M3 (m.length + 1) pv b2 := fun hbf p => by
        rcases hLb with ⟨hp, e1, e2⟩ | h9
        · rw [hp] at hb9
          have : (b1, b2) = (9223372036854775807, ([] : List Int)) := hb9
          injection this with i1 i2
          have hx9 := hg c x (by omega) (by rw [← hps]; exact hgp)
          unfold bef at hbf
          simp only [i1] at hbf
          rw [if_neg (by omega)] at hbf
          simp only [decide_eq_false_iff_not] at hbf
          exact absurd hx9 hbf
        · exact .inr h9
      refine callH_rc (comesBefore_rc M3 x b1 _ pv ps b2 ip2 il2) ?_
      rintro r n4 ⟨rfl, nr4⟩
      cases hbf : bef (x, ps) (b1, b2) with
      | true =>
        have st := (o2b.ext n4).st (off := 0) (vs := [.int .i64 x, .slice (some ⟨pid, 0, none⟩) ps.length pf]) (by simp) rfl
        simp (config := {implicitDefEqProofs := false, maxDischargeDepth := 20}) (disch := first | omega | (simp only [lenE]; done) | (simp only [lenE]; omega) | rfl | (simp only [lenE, markR_len]; done) | (simp only [lenE, markR_len]; omega)) only [runE, mapE, listE, initT_5, initT_6, initT_7, initT_8, resV, oneV, binA, unA, reduceCtorEq, Nat.reduceEqDiff, Nat.reduceAdd, Nat.reduceLT, Nat.reduceLeDiff, Nat.reduceMul, Nat.reduceSub, ↓reduceIte, decide_true, decide_false, Bool.true_eq_false, Bool.false_eq_true, Bool.not_true, Bool.not_false, if_true, if_false, and_true, true_and, memE, celE, w64, Nat.zero_add, Nat.add_zero, Nat.mul_one, putL, and_self, ldn, t1, t4, t5, t14, t15, (ob.ext n4).rd, stP_aggL2, st, wC]
        rw [hbf, if_pos rfl] at hyes
        refine ⟨⟨c + 1, _, .slice (some ⟨pid, 0, none⟩) ps.length pf, by omega, rfl, (hXb.app nr4).put (by omega) _ _, (o1b.ext n4).set_ne (by omega) _, ?_, ?_, by simp⟩, ?_⟩
        · rw [hyes]; exact (o2b.ext n4).set_self _ _
        · rw [hyes]; exact .inr ⟨pid, pf, rfl, by omega, (opb.ext n4).set_ne (by omega)⟩
        · simp [intOf]; omega
      | false =>
        simp (config := {implicitDefEqProofs := false, maxDischargeDepth := 20}) (disch := first | omega | (simp only [lenE]; done) | (simp only [lenE]; omega) | rfl | (simp only [lenE, markR_len]; done) | (simp only [lenE, markR_len]; omega)) only [runE, mapE, listE, initT_5, initT_6, initT_7, initT_8, resV, oneV, binA, unA, reduceCtorEq, Nat.reduceEqDiff, Nat.reduceAdd, Nat.reduceLT, Nat.reduceLeDiff, Nat.reduceMul, Nat.reduceSub, ↓reduceIte, decide_true, decide_false, Bool.true_eq_false, Bool.false_eq_true, Bool.not_true, Bool.not_false, if_true, if_false, and_true, true_and, memE, celE, w64, Nat.zero_add, Nat.add_zero, Nat.mul_one, putL, and_self, ldn, t1, t4, t5, t14, t15, wC]
        rw [hbf, if_neg (by simp)] at hyes
        refine ⟨⟨c + 1, _, pv, by omega, rfl, hXb.app nr4, o1b.ext n4, ?_, ?_, by simp⟩, ?_⟩
        · rw [hyes]; exact o2b.ext n4
        · rw [hyes]; exact (hsame hbf).ext n4
        · simp [intOf]; omega
  · have hlt' : ¬ ((c : Int) < NN) := by omega
    have e : c = NN := by omega
    subst e
    have st := o1.st (off := 0) (vs := [.int .i64 (bestV (bestO g n c)).1, pv]) (by simp) (by rw [show onesB [.int .i64 (bestV (bestO g n c)).1, pv] = onesB [pv] from rfl, hL.one]; rfl)
    have se := o1.set_self 70 [.int .i64 (bestV (bestO g n c)).1, pv]
    simp (config := {implicitDefEqProofs := false, maxDischargeDepth := 20}) (disch := first | omega | (simp only [lenE]; done) | (simp only [lenE]; omega) | rfl | (simp only [lenE, markR_len]; done) | (simp only [lenE, markR_len]; omega)) only [runE, mapE, listE, initT_5, initT_6, initT_7, initT_8, resV, oneV, binA, unA, reduceCtorEq, Nat.reduceEqDiff, Nat.reduceAdd, Nat.reduceLT, Nat.reduceLeDiff, Nat.reduceMul, Nat.reduceSub, ↓reduceIte, decide_true, decide_false, Bool.true_eq_false, Bool.false_eq_true, Bool.not_true, Bool.not_false, if_true, if_false, and_true, true_and, memE, celE, w64, Nat.zero_add, Nat.add_zero, Nat.mul_one, putL, and_self, ldn, tm, t1, t4, t5, t14, t15, hlt', o2.rd, stP_aggL2, st, se.rd]
    refine ext_best (hX.put (by omega) _ _) ?_
    rcases hL.set (i := m.length) (by omega) ⟨.own, 70, [.int .i64 (bestV (bestO g n c)).1, pv]⟩ with h0 | ⟨id, fl, e1, e2, e3⟩
    · exact .inl h0
    · exact .inr ⟨id, fl, e1, by omega, e3⟩
end Go.Proofs.Ytdgfbmilbhckiaa.Ab
end
section
namespace Go.Proofs.Ytdgfbmilbhckiaa.Ab
open Go Go.RowKit
set_option linter.unusedVariables false
set_option linter.unusedSimpArgs false
def costP (s : Sh) (set : List Int) : Option Int := some (-(boundV s set))
def proofC (s : Sh) (c : Nat) : List Int := (bestV (bestO (costP s) s.need.length c)).2
def proof9A (s : Sh) : List Int := if s.good then proofC s (2 ^ s.need.length) else []
theorem bitsL_zero (n : Nat) : bitsL 0 n = [] := by
  induction n with
  | zero => rfl
  | succ n ih => rw [bitsL, ih]; simp
theorem boundV_bd {s : Sh} (hg : GoodSh s) {set : List Int} (hr : Rising set s.need.length) : -160 ≤ boundV s set ∧ boundV s set ≤ 160 := by
  have h1 := needS_bd hg hr set.length (Nat.le_refl _)
  have h2 := subA_bd hg set s.arr.length (Nat.le_refl _)
  have := hr.len
  have := hg.n8
  have := hg.la
  unfold boundV
  omega
theorem proof_step (s : Sh) : ∀ c, bestO (costP s) s.need.length (c + 1) = some (-(boundV s (proofC s (c + 1))), proofC s (c + 1)) ∧ Rising (proofC s (c + 1)) s.need.length := by
  intro c
  induction c with
  | zero =>
    have e : bestO (costP s) s.need.length (0 + 1) = some (-(boundV s []), []) := by
      simp only [bestO, costP, bitsL_zero]
    have e2 : proofC s (0 + 1) = [] := by unfold proofC; rw [e]; rfl
    rw [e2]
    exact ⟨e, Rising.nil _⟩
  | succ c ih =>
    obtain ⟨ih1, ih2⟩ := ih
    have e : bestO (costP s) s.need.length (c + 1 + 1) = if bef (-(boundV s (bitsL (c + 1) s.need.length)), bitsL (c + 1) s.need.length) (-(boundV s (proofC s (c + 1))), proofC s (c + 1)) then some (-(boundV s (bitsL (c + 1) s.need.length)), bitsL (c + 1) s.need.length) else some (-(boundV s (proofC s (c + 1))), proofC s (c + 1)) := by
      rw [bestO]
      simp only [costP]
      rw [show bestO (costP s) s.need.length (c + 1) = some (-(boundV s (proofC s (c + 1))), proofC s (c + 1)) from ih1]
    by_cases hb : bef (-(boundV s (bitsL (c + 1) s.need.length)), bitsL (c + 1) s.need.length) (-(boundV s (proofC s (c + 1))), proofC s (c + 1)) = true
    · rw [if_pos hb] at e
      have e2 : proofC s (c + 1 + 1) = bitsL (c + 1) s.need.length := by unfold proofC; rw [e]; rfl
      rw [e2]
      exact ⟨e, bitsL_rising _ _⟩
    · rw [if_neg hb] at e
      have e2 : proofC s (c + 1 + 1) = proofC s (c + 1) := by
        conv => lhs; unfold proofC
        rw [e]; rfl
      rw [e2]
      exact ⟨e, ih2⟩
theorem proof_next (s : Sh) (c : Nat) : proofC s (c + 1 + 1) = if boundV s (proofC s (c + 1)) < boundV s (bitsL (c + 1) s.need.length) ∨ (boundV s (bitsL (c + 1) s.need.length) = boundV s (proofC s (c + 1)) ∧ beforeB (bitsL (c + 1) s.need.length) (proofC s (c + 1)) = true) then bitsL (c + 1) s.need.length else proofC s (c + 1) := by
  obtain ⟨ih1, ih2⟩ := proof_step s c
  have e : bestO (costP s) s.need.length (c + 1 + 1) = if bef (-(boundV s (bitsL (c + 1) s.need.length)), bitsL (c + 1) s.need.length) (-(boundV s (proofC s (c + 1))), proofC s (c + 1)) then some (-(boundV s (bitsL (c + 1) s.need.length)), bitsL (c + 1) s.need.length) else some (-(boundV s (proofC s (c + 1))), proofC s (c + 1)) := by
    rw [bestO]
    simp only [costP]
    rw [show bestO (costP s) s.need.length (c + 1) = some (-(boundV s (proofC s (c + 1))), proofC s (c + 1)) from ih1]
  have hiff : bef (-(boundV s (bitsL (c + 1) s.need.length)), bitsL (c + 1) s.need.length) (-(boundV s (proofC s (c + 1))), proofC s (c + 1)) = true ↔ (boundV s (proofC s (c + 1)) < boundV s (bitsL (c + 1) s.need.length) ∨ (boundV s (bitsL (c + 1) s.need.length) = boundV s (proofC s (c + 1)) ∧ beforeB (bitsL (c + 1) s.need.length) (proofC s (c + 1)) = true)) := by
    unfold bef
    simp only
    by_cases h : boundV s (bitsL (c + 1) s.need.length) = boundV s (proofC s (c + 1))
    · rw [if_pos (by omega)]
      constructor
      · intro h2; exact .inr ⟨h, h2⟩
      · rintro (h2 | h2)
        · omega
        · exact h2.2
    · rw [if_neg (by omega), decide_eq_true_eq]
      constructor
      · intro h2; exact .inl (by omega)
      · rintro (h2 | h2)
        · omega
        · exact absurd h2.1 h
  conv => lhs; unfold proofC
  rw [e]
  by_cases hb : bef (-(boundV s (bitsL (c + 1) s.need.length)), bitsL (c + 1) s.need.length) (-(boundV s (proofC s (c + 1))), proofC s (c + 1)) = true
  · rw [if_pos hb, if_pos (hiff.1 hb)]; rfl
  · rw [if_neg hb, if_neg (fun h => hb (hiff.2 h))]; rfl
theorem lostProof1_cost (m : Mem) (id : Nat) (a b : Value) (s : Sh) (hg : GoodSh s) (hid : rdc m id 0 = some (.int .i64 s.life) ∧ rdc m id 1 = some a ∧ rdc m id 2 = some b ∧ rdc m id 3 = some (.int .i64 s.waste) ∧ rdc m id 4 = some (.int .i64 s.lost)) (ha : IntsA m a s.arr) (hb : IntsA m b s.need) :
    CostF m (.func (.func 58) #[] #[.pointer (some ⟨id, 0, none⟩)]) s.need.length (costP s) := by
  refine ⟨_, _, rfl, fun M u c hM hc hu => ?_⟩
  refine rc_of_run mixed ok_impl_LostProof_1 (by simp) (go_start _ _ _ ?_)
  obtain ⟨q0, q1, q2, q3, q4⟩ := hid
  have rr : ∀ k v, rdc m id k = some v → rdc (roM M) id k = some v := fun k v h => by
    rw [rdc_roM]
    exact hM.rd h
  have xa := (hM.ints ha.ro).ro
  have xb := (hM.ints hb.ro).ro
  have hr := bitsL_rising c s.need.length
  have bd := boundV_bd hg hr
  simp (config := {implicitDefEqProofs := false, maxDischargeDepth := 20}) (disch := first | omega | (simp only [lenE]; done) | (simp only [lenE]; omega) | rfl | (simp only [lenE, markR_len]; done) | (simp only [lenE, markR_len]; omega)) only [runE, mapE, listE, initT_5, initT_6, initT_7, initT_8, resV, oneV, binA, unA, reduceCtorEq, Nat.reduceEqDiff, Nat.reduceAdd, Nat.reduceLT, Nat.reduceLeDiff, Nat.reduceMul, Nat.reduceSub, ↓reduceIte, decide_true, decide_false, Bool.true_eq_false, Bool.false_eq_true, Bool.not_true, Bool.not_false, if_true, if_false, and_true, true_and, memE, celE, w64, Nat.zero_add, Nat.add_zero, Nat.mul_one, putL, and_self, ldn, c_impl_LostProof_1, r_impl_LostProof_1, rr 0 _ q0, rr 1 _ q1, rr 2 _ q2, rr 3 _ q3, rr 4 _ q4]
  refine callH_rc (lostBound_rc _ _ u s (bitsL c s.need.length) (ShA.mk xa xb) hu.ro hg hr) ?_
  rintro r new ⟨rfl, nr⟩
  simp (config := {implicitDefEqProofs := false, maxDischargeDepth := 20}) (disch := first | omega | (simp only [lenE]; done) | (simp only [lenE]; omega) | rfl | (simp only [lenE, markR_len]; done) | (simp only [lenE, markR_len]; omega)) only [runE, mapE, listE, initT_5, initT_6, initT_7, initT_8, resV, oneV, binA, unA, reduceCtorEq, Nat.reduceEqDiff, Nat.reduceAdd, Nat.reduceLT, Nat.reduceLeDiff, Nat.reduceMul, Nat.reduceSub, ↓reduceIte, decide_true, decide_false, Bool.true_eq_false, Bool.false_eq_true, Bool.not_true, Bool.not_false, if_true, if_false, and_true, true_and, memE, celE, w64, Nat.zero_add, Nat.add_zero, Nat.mul_one, putL, and_self, ldn]
  refine ext_ansV ((Ext.refl M).app nr) ?_
  have e : (0 : Int) - boundV s (bitsL c s.need.length) = -(boundV s (bitsL c s.need.length)) := by omega
  rw [e]
  rfl
theorem implProof9_pre (m : Mem) (v : Value) (s : Sh) (h : ShA m v s) :
    RC Try.prog 20 [v] m fun r new => AnsO m (IntsO (proof9A s)) (fun v => .tuple #[v, .bool s.good]) r new ∨ ((proof9A s = [] ∧ s.good = true) ∧ NoRo new ∧ r = .tuple #[.slice none 0 0, .bool s.good]) := by
  refine rc_of_run mixed ok_impl_LostProof (by simp) (go_start _ _ _ ?_)
  obtain ⟨a, b, rfl, ha, hb⟩ := h.ro
  have hX := (Ext.refl m).one 26 [.int .i64 s.life, a, b, .int .i64 s.waste, .int .i64 s.lost]
  simp (config := {implicitDefEqProofs := false, maxDischargeDepth := 20}) (disch := first | omega | (simp only [lenE]; done) | (simp only [lenE]; omega) | rfl | (simp only [lenE, markR_len]; done) | (simp only [lenE, markR_len]; omega)) only [runE, mapE, listE, initT_5, initT_6, initT_7, initT_8, resV, oneV, binA, unA, reduceCtorEq, Nat.reduceEqDiff, Nat.reduceAdd, Nat.reduceLT, Nat.reduceLeDiff, Nat.reduceMul, Nat.reduceSub, ↓reduceIte, decide_true, decide_false, Bool.true_eq_false, Bool.false_eq_true, Bool.not_true, Bool.not_false, if_true, if_false, and_true, true_and, memE, celE, w64, Nat.zero_add, Nat.add_zero, Nat.mul_one, putL, and_self, ldn, c_impl_LostProof, r_impl_LostProof]
  obtain ⟨M0, hM0⟩ : ∃ M0, M0 = roM m ++ [⟨.own, 26, [.int .i64 s.life, a, b, .int .i64 s.waste, .int .i64 s.lost]⟩] := ⟨_, rfl⟩
  have o1 : OwnB M0 m.length 26 [.int .i64 s.life, a, b, .int .i64 s.waste, .int .i64 s.lost] := by rw [hM0]; exact OwnB.here (by simp [roM_len])
  rw [← hM0] at hX ⊢
  refine callH_rc (implIsShelf_rc _ _ s (ShA.mk (hX.ints ha) (hX.ints hb))) ?_
  rintro r n1 ⟨rfl, nr1⟩
  replace hX := hX.app nr1
  replace o1 := o1.ext n1
  obtain ⟨M1, hM1⟩ : ∃ M1, M1 = M0 ++ n1 := ⟨_, rfl⟩
  rw [← hM1] at hX o1 ⊢
  have hlm := o1.lt
  have up : ∀ {M : Mem} {v : Value} {l : List Int} {ok : Bool} {p : Prop}, newQ m (AnsO m (IntsO l) fun v => .tuple #[v, .bool ok]) v M → newQ m (fun r new => AnsO m (IntsO l) (fun v => .tuple #[v, .bool ok]) r new ∨ (p ∧ NoRo new ∧ r = .tuple #[.slice none 0 0, .bool ok])) v M := by
    rintro M v l ok p ⟨new, h1, h2, h3⟩
    exact ⟨new, h1, h2, .inl h3⟩
  cases hg : s.good with
  | false =>
    simp (config := {implicitDefEqProofs := false, maxDischargeDepth := 20}) (disch := first | omega | (simp only [lenE]; done) | (simp only [lenE]; omega) | rfl | (simp only [lenE, markR_len]; done) | (simp only [lenE, markR_len]; omega)) only [runE, mapE, listE, initT_5, initT_6, initT_7, initT_8, resV, oneV, binA, unA, reduceCtorEq, Nat.reduceEqDiff, Nat.reduceAdd, Nat.reduceLT, Nat.reduceLeDiff, Nat.reduceMul, Nat.reduceSub, ↓reduceIte, decide_true, decide_false, Bool.true_eq_false, Bool.false_eq_true, Bool.not_true, Bool.not_false, if_true, if_false, and_true, true_and, memE, celE, w64, Nat.zero_add, Nat.add_zero, Nat.mul_one, putL, and_self, ldn, bsl_no]
    unfold proof9A
    rw [hg]
    exact up (ext_noInts (f := fun v => .tuple #[v, .bool false]) hX rfl)
  | true =>
    have gd := goodSh_iff.1 hg
    have n8 := gd.n8
    have CF := lostProof1_cost M1 m.length a b s gd ⟨o1.rd 0, o1.rd 1, o1.rd 2, o1.rd 3, o1.rd 4⟩ (hX.ints ha) (hX.ints hb)
    simp (config := {implicitDefEqProofs := false, maxDischargeDepth := 20}) (disch := first | omega | (simp only [lenE]; done) | (simp only [lenE]; omega) | rfl | (simp only [lenE, markR_len]; done) | (simp only [lenE, markR_len]; omega)) only [runE, mapE, listE, initT_5, initT_6, initT_7, initT_8, resV, oneV, binA, unA, reduceCtorEq, Nat.reduceEqDiff, Nat.reduceAdd, Nat.reduceLT, Nat.reduceLeDiff, Nat.reduceMul, Nat.reduceSub, ↓reduceIte, decide_true, decide_false, Bool.true_eq_false, Bool.false_eq_true, Bool.not_true, Bool.not_false, if_true, if_false, and_true, true_and, memE, celE, w64, Nat.zero_add, Nat.add_zero, Nat.mul_one, putL, and_self, ldn, o1.rd, (hX.ints hb).len]
    refine callH_rc (bestOfSets_rc M1 _ s.need.length (costP s) n8 CF ?_) ?_
    · intro c x hc hx
      simp only [costP, Option.some.injEq] at hx
      have := boundV_bd gd (bitsL_rising c s.need.length)
      omega
    rintro r n2 ⟨nr2, pv, rfl, hL⟩
    have h1 : onesB [pv] = true := hL.one []
    simp (config := {implicitDefEqProofs := false, maxDischargeDepth := 20}) (disch := first | omega | (simp only [lenE]; done) | (simp only [lenE]; omega) | rfl | (simp only [lenE, markR_len]; done) | (simp only [lenE, markR_len]; omega)) only [runE, mapE, listE, initT_5, initT_6, initT_7, initT_8, resV, oneV, binA, unA, reduceCtorEq, Nat.reduceEqDiff, Nat.reduceAdd, Nat.reduceLT, Nat.reduceLeDiff, Nat.reduceMul, Nat.reduceSub, ↓reduceIte, decide_true, decide_false, Bool.true_eq_false, Bool.false_eq_true, Bool.not_true, Bool.not_false, if_true, if_false, and_true, true_and, memE, celE, w64, Nat.zero_add, Nat.add_zero, Nat.mul_one, putL, and_self, ldn, stP_aggL2, h1]
    have eP : proof9A s = proofC s (2 ^ s.need.length) := by unfold proof9A; rw [hg, if_pos rfl]
    have hX2 := (hX.app nr2).one 70 [.int .i64 (bestV (bestO (costP s) s.need.length (2 ^ s.need.length))).1, pv]
    have hlen : (proofC s (2 ^ s.need.length)).length ≤ s.need.length := bestO_len _ _ _
    rcases hL with ⟨_, rfl, e0⟩ | ⟨id, fl, rfl, hid, ho⟩
    · obtain ⟨n0, e1, nr0⟩ := hX2
      rw [e1]
      exact ⟨n0, rfl, nr0, .inr ⟨eP.trans e0, nr0, rfl⟩⟩
    · rw [eP]
      have ho2 := ho.ext [⟨.own, 70, [.int .i64 (bestV (bestO (costP s) s.need.length (2 ^ s.need.length))).1, .slice (some ⟨id, 0, none⟩) (proofC s (2 ^ s.need.length)).length fl]⟩]
      refine up ?_
      refine ext_ansO (f := fun v => .tuple #[v, .bool true]) hX2 fun M' hM => ?_
      exact IntsA.ownO (ho2.at_ (hM _ (by omega) ho2.lt)) (by show (proofC s (2 ^ s.need.length)).length ≤ _; omega) (by omega) ho2.lt
theorem implProof9_rc (m : Mem) (v : Value) (s : Sh) (h : ShA m v s) :
    RC Try.prog 20 [v] m (AnsO m (IntsO (proof9A s)) fun v => .tuple #[v, .bool s.good]) := by
  refine rc_nilRow9 (implProof9_pre m v s h) fun new hp hn => ?_
  rw [hp.1]
  exact nilRow_ans hn
end Go.Proofs.Ytdgfbmilbhckiaa.Ab
end
section
namespace Go.Proofs.Ytdgfbmilbhckiaa.Ab
open Go Go.RowKit
set_option linter.unusedVariables false
set_option linter.unusedSimpArgs false
theorem proof_most (s : Sh) : ∀ c c', c' < c + 1 → boundV s (bitsL c' s.need.length) ≤ boundV s (proofC s (c + 1)) := by
  intro c
  induction c with
  | zero =>
    intro c' h
    have : c' = 0 := by omega
    subst this
    have e := (proof_step s 0).1
    simp only [bestO, costP, bitsL_zero] at e
    injection e with e
    have e2 := congrArg Prod.snd e
    simp only at e2
    rw [← e2, bitsL_zero]
    exact Int.le_refl _
  | succ c ih =>
    intro c' h
    rw [proof_next]
    by_cases e : c' = c + 1
    · subst e
      split
      · exact Int.le_refl _
      · rename_i hn
        exact Int.not_lt.1 fun h => hn (.inl h)
    · have := ih c' (by omega)
      split
      · rename_i hy
        rcases hy with h | h <;> omega
      · exact this
theorem bound_most {s : Sh} {set : List Int} (h : lboundOk s set = true) : lboundOk s (proof9A s) = true ∧ lboundA s set ≤ lboundA s (proof9A s) := by
  have h' := h
  unfold lboundOk at h
  rw [Bool.and_eq_true] at h
  obtain ⟨hg, hr⟩ := h
  obtain ⟨c', h1, h2⟩ := bits_all _ _ (risB_iff.1 hr)
  have h01 : 1 ≤ 2 ^ s.need.length := Nat.one_le_two_pow
  have e2 : 2 ^ s.need.length - 1 + 1 = 2 ^ s.need.length := by omega
  have st := (proof_step s (2 ^ s.need.length - 1)).2
  have mo := proof_most s (2 ^ s.need.length - 1) c' (by omega)
  rw [e2] at st mo
  have ep : proof9A s = proofC s (2 ^ s.need.length) := by unfold proof9A; rw [if_pos hg]
  have ok : lboundOk s (proof9A s) = true := by unfold lboundOk; rw [hg, ep, risB_iff.2 st]; rfl
  refine ⟨ok, ?_⟩
  unfold lboundA
  rw [if_pos h', if_pos ok, ep, h2]
  exact mo
theorem proof_bd (s : Sh) : (proof9A s).length ≤ 1000 := by
  unfold proof9A
  split
  · rename_i hg
    have h01 : 1 ≤ 2 ^ s.need.length := Nat.one_le_two_pow
    have st := (proof_step s (2 ^ s.need.length - 1)).2
    rw [show 2 ^ s.need.length - 1 + 1 = 2 ^ s.need.length by omega] at st
    have := st.len
    have := (goodSh_iff.1 hg).n8
    omega
  · simp
theorem col_early {s : Sh} {T : List (List Int)} (h : irows s T s.need.length) {f : Nat} (hf : f < s.need.length) : ∀ k, k ≤ f → colT T f k = 0 := by
  intro k
  induction k with
  | zero => intro _; rfl
  | succ k ih =>
    intro hk
    have r := (h.1 k (by omega)).2.1 f hf
    have z : (T.getD k []).getD f 0 = 0 := by
      by_cases e : 0 < (T.getD k []).getD f 0
      · have u := r.2 e
        unfold usB at u
        rw [Bool.and_eq_true, decide_eq_true_eq] at u
        omega
      · omega
    rw [colT, ih (by omega), z]
    rfl
theorem col_bd {s : Sh} {T : List (List Int)} (hg : GoodSh s) (h : irows s T s.need.length) {f k : Nat} (hf : f < s.need.length) (hk : k ≤ s.need.length) : 0 ≤ colT T f k ∧ colT T f k ≤ s.arr.getD f 0 ∧ s.arr.getD f 0 ≤ 20 := by
  have h1 := col_mono h.1 hf (Nat.zero_le k) hk
  have h2 := col_mono h.1 hf hk (Nat.le_refl _)
  have h3 := h.2 f hf
  have h4 := memD9 hg.arr (k := f) (by rw [hg.la]; exact hf)
  have h0 : colT T f 0 = 0 := rfl
  omega
theorem ageTo_at (s : Sh) (T : List (List Int)) (t : Nat) {m a : Nat} (h : a < m) : (ageTo s T t m).getD a 0 = if t < a then 0 else s.arr.getD (t - a) 0 - colT T (t - a) (t + 1) := by
  unfold ageTo
  rw [List.getD_eq_getElem?_getD, List.getElem?_map, List.getElem?_range h]
  rfl
theorem ageA_len9 (s : Sh) (T : List (List Int)) (z : Int) : (ageA s T z).length ≤ 1000 := by
  unfold ageA
  split
  · rename_i h
    unfold ageOk at h
    rw [Bool.and_eq_true] at h
    have := (two9_iff.1 h.1).1.l8
    rw [ageTo_len]; omega
  · simp
structure AgeNext (s : Sh) (T : List (List Int)) (t : Nat) (P N : List Int) : Prop where
  tn : t + 1 < s.need.length
  la : s.arr.length = s.need.length
  lt : T.length = s.need.length
  lr : (T.getD (t + 1) []).length = s.need.length
  lp : (P.length : Int) = s.life - 1
  ln : N.length = P.length
  life : 1 ≤ s.life ∧ s.life ≤ 8
  ab : 0 ≤ s.arr.getD (t + 1) 0 ∧ s.arr.getD (t + 1) 0 ≤ 20
  tb : ∀ f, f < s.need.length → 0 ≤ (T.getD (t + 1) []).getD f 0 ∧ (T.getD (t + 1) []).getD f 0 ≤ 20
  pb : ∀ a, a < P.length → 0 ≤ P.getD a 0 ∧ P.getD a 0 ≤ 20
  z0 : ∀ a, a < P.length → a = 0 → N.getD a 0 = s.arr.getD (t + 1) 0 - (T.getD (t + 1) []).getD (t + 1) 0
  z1 : ∀ a, a < P.length → 0 < a → a ≤ t + 1 → N.getD a 0 = P.getD (a - 1) 0 - (T.getD (t + 1) []).getD (t + 1 - a) 0
  z2 : ∀ a, a < P.length → t + 1 < a → N.getD a 0 = P.getD (a - 1) 0
theorem age_next {s : Sh} {T : List (List Int)} {z : Int} (h : ageOk s T z = true) (hz : z + 1 < s.need.length) : ∃ t : Nat, z = t ∧ ageOk s T (z + 1) = true ∧ AgeNext s T t (ageA s T z) (ageA s T (z + 1)) := by
  have h' := h
  unfold ageOk at h
  rw [Bool.and_eq_true, Bool.and_eq_true, decide_eq_true_eq, decide_eq_true_eq] at h
  obtain ⟨h2, hz0, hz1⟩ := h
  obtain ⟨g, l, hr⟩ := two9_iff.1 h2
  have is := iss_of h2
  obtain ⟨t, rfl⟩ : ∃ t : Nat, z = t := ⟨z.toNat, by omega⟩
  have hn : ageOk s T ((t : Int) + 1) = true := by
    unfold ageOk
    rw [Bool.and_eq_true, Bool.and_eq_true, decide_eq_true_eq, decide_eq_true_eq]
    exact ⟨h2, by omega, by omega⟩
  have eP : ageA s T t = ageTo s T t (s.life - 1).toNat := by unfold ageA; rw [if_pos h']; rfl
  have eN : ageA s T ((t : Int) + 1) = ageTo s T (t + 1) (s.life - 1).toNat := by unfold ageA; rw [if_pos hn]; rfl
  refine ⟨t, rfl, hn, ?_⟩
  rw [eP, eN]
  have l1 := g.l1
  have hlt : t + 1 < s.need.length := by omega
  refine ⟨hlt, g.la, l, is.len (t + 1) (by omega), by rw [ageTo_len]; omega, by rw [ageTo_len, ageTo_len], ⟨g.l1, g.l8⟩, memD9 g.arr (by rw [g.la]; exact hlt), fun f hf => is.bd (t + 1) f (by omega) hf, fun a ha => ?_, fun a ha e => ?_, fun a ha e1 e2 => ?_, fun a ha e => ?_⟩
  · rw [ageTo_len] at ha
    rw [ageTo_at _ _ _ ha]
    split
    · omega
    · have := col_bd g hr (f := t - a) (k := t + 1) (by omega) (by omega); omega
  · rw [ageTo_len] at ha
    subst e
    rw [ageTo_at _ _ _ ha, if_neg (by omega), Nat.sub_zero, colT, col_early hr hlt (t + 1) (Nat.le_refl _)]
    omega
  · rw [ageTo_len] at ha
    rw [ageTo_at _ _ _ ha, ageTo_at _ _ _ (show a - 1 < _ by omega), if_neg (by omega), if_neg (by omega), colT, show t - (a - 1) = t + 1 - a by omega]
    omega
  · rw [ageTo_len] at ha
    rw [ageTo_at _ _ _ ha, ageTo_at _ _ _ (show a - 1 < _ by omega), if_pos (by omega), if_pos (by omega)]
end Go.Proofs.Ytdgfbmilbhckiaa.Ab
end
section
namespace Go.Proofs.Ytdgfbmilbhckiaa.Ab
open Go Go.RowKit Go.Proofs
set_option maxRecDepth 100000
def c_laws_FnAges : ACode := .seq (.reg [⟨(some 2), .mv (.const (.bool false)), none⟩])
 (.seq (.seq (.reg [⟨(some 25), .mv (.tmp 0), none⟩,
  ⟨(some 26), .call (.func 6) [(.tmp 25)], none⟩])
 (.cond (.tmp 26) (.seq (.reg [⟨(some 2), .mv (.const (.bool true)), none⟩])
 (.ret)) (.skip)))
 (.seq (.reg [⟨(some 28), .mv (.tmp 0), none⟩,
  ⟨(some 29), .call (.func 29) [(.tmp 28)], none⟩,
  ⟨(some 27), .mv (.tmp 29), none⟩,
  ⟨(some 30), .ext 0 (.tmp 27), none⟩,
  ⟨(some 31), .ext 1 (.tmp 27), none⟩,
  ⟨(some 32), .ext 2 (.tmp 27), none⟩,
  ⟨(some 3), .alc 26 [(.int .i64 0), (.slice none 0 0), (.slice none 0 0), (.int .i64 0), (.int .i64 0)], none⟩,
  ⟨none, .st 5 (.tmp 3) (.tmp 30), none⟩,
  ⟨(some 4), .mv (.tmp 31), none⟩,
  ⟨(some 5), .mv (.tmp 32), none⟩])
 (.seq (.reg [⟨(some 34), .ld (some 5) (.tmp 3), none⟩,
  ⟨(some 35), .mv (.tmp 4), none⟩,
  ⟨(some 36), .mv (.tmp 5), none⟩,
  ⟨(some 37), .call (.func 30) [(.tmp 34), (.tmp 35), (.tmp 36)], none⟩,
  ⟨(some 33), .mv (.tmp 37), none⟩,
  ⟨(some 38), .ext 0 (.tmp 33), none⟩,
  ⟨(some 39), .ext 1 (.tmp 33), none⟩,
  ⟨(some 6), .mv (.tmp 38), none⟩,
  ⟨(some 7), .mv (.tmp 39), none⟩])
 (.seq (.reg [⟨(some 41), .ld (some 5) (.tmp 3), none⟩,
  ⟨(some 42), .mv (.tmp 4), none⟩,
  ⟨(some 43), .mv (.tmp 5), none⟩,
  ⟨(some 44), .call (.func 31) [(.tmp 41), (.tmp 42), (.tmp 43)], none⟩,
  ⟨(some 40), .mv (.tmp 44), none⟩,
  ⟨(some 45), .ext 0 (.tmp 40), none⟩,
  ⟨(some 46), .ext 1 (.tmp 40), none⟩,
  ⟨(some 8), .mv (.tmp 45), none⟩,
  ⟨(some 9), .mv (.tmp 46), none⟩])
 (.seq (.reg [⟨(some 48), .mv (.tmp 0), none⟩,
  ⟨(some 49), .call (.func 33) [(.tmp 48), (.const (.int .i64 1))], none⟩,
  ⟨(some 50), .call (.func 32) [(.tmp 49)], none⟩,
  ⟨(some 47), .mv (.tmp 50), none⟩,
  ⟨(some 51), .ext 0 (.tmp 47), none⟩,
  ⟨(some 52), .ext 1 (.tmp 47), none⟩,
  ⟨(some 10), .alc 26 [(.int .i64 0), (.slice none 0 0), (.slice none 0 0), (.int .i64 0), (.int .i64 0)], none⟩,
  ⟨none, .st 5 (.tmp 10) (.tmp 51), none⟩,
  ⟨(some 11), .mv (.tmp 52), none⟩])
 (.seq (.reg [⟨(some 54), .ld (some 5) (.tmp 10), none⟩,
  ⟨(some 55), .mv (.tmp 11), none⟩,
  ⟨(some 56), .call (.func 26) [(.tmp 54), (.tmp 55)], none⟩,
  ⟨(some 53), .mv (.tmp 56), none⟩,
  ⟨(some 57), .ext 0 (.tmp 53), none⟩,
  ⟨(some 58), .ext 1 (.tmp 53), none⟩,
  ⟨(some 12), .mv (.tmp 57), none⟩,
  ⟨(some 13), .mv (.tmp 58), none⟩])
 (.seq (.reg [⟨(some 60), .ld (some 5) (.tmp 10), none⟩,
  ⟨(some 61), .mv (.tmp 11), none⟩,
  ⟨(some 62), .call (.func 34) [(.tmp 60), (.tmp 61)], none⟩,
  ⟨(some 59), .mv (.tmp 62), none⟩,
  ⟨(some 63), .ext 0 (.tmp 59), none⟩,
  ⟨(some 64), .ext 1 (.tmp 59), none⟩,
  ⟨(some 14), .mv (.tmp 63), none⟩,
  ⟨(some 15), .mv (.tmp 64), none⟩])
 (.seq (.seq (.reg [⟨(some 65), .mv (.tmp 7), none⟩,
  ⟨(some 66), .mv (.tmp 9), none⟩,
  ⟨(some 67), .beq true (.tmp 65) (.tmp 66), none⟩,
  ⟨(some 68), .mv (.tmp 67), none⟩,
  ⟨(some 69), .mv (.tmp 6), (some (68, false))⟩,
  ⟨(some 70), .mv (.tmp 8), (some (68, false))⟩,
  ⟨(some 71), .call (.func 22) [(.tmp 69), (.tmp 70)], (some (68, false))⟩,
  ⟨(some 72), .un .not (.tmp 71), (some (68, false))⟩,
  ⟨(some 73), .pick (.tmp 68) (.const (.bool true)) (.tmp 72), none⟩,
  ⟨(some 74), .mv (.tmp 73), none⟩,
  ⟨(some 75), .mv (.tmp 12), (some (74, false))⟩,
  ⟨(some 76), .mv (.tmp 14), (some (74, false))⟩,
  ⟨(some 77), .bin .neq (.tmp 75) (.tmp 76), (some (74, false))⟩,
  ⟨(some 78), .pick (.tmp 74) (.const (.bool true)) (.tmp 77), none⟩,
  ⟨(some 79), .mv (.tmp 78), none⟩,
  ⟨(some 80), .mv (.tmp 13), (some (79, false))⟩,
  ⟨(some 81), .mv (.tmp 15), (some (79, false))⟩,
  ⟨(some 82), .beq true (.tmp 80) (.tmp 81), (some (79, false))⟩,
  ⟨(some 83), .pick (.tmp 79) (.const (.bool true)) (.tmp 82), none⟩])
 (.cond (.tmp 83) (.seq (.reg [⟨(some 2), .mv (.const (.bool false)), none⟩])
 (.ret)) (.skip)))
 (.seq (.seq (.reg [⟨(some 84), .mv (.tmp 13), none⟩])
 (.cond (.tmp 84) (.seq (.reg [⟨(some 86), .ld (some 5) (.tmp 10), none⟩,
  ⟨(some 87), .call (.func 20) [(.tmp 86)], none⟩,
  ⟨(some 85), .mv (.tmp 87), none⟩,
  ⟨(some 88), .ext 0 (.tmp 85), none⟩,
  ⟨(some 89), .ext 1 (.tmp 85), none⟩,
  ⟨(some 16), .mv (.tmp 88), none⟩,
  ⟨(some 17), .mv (.tmp 89), none⟩])
 (.seq (.reg [⟨(some 91), .ld (some 5) (.tmp 10), none⟩,
  ⟨(some 92), .mv (.tmp 16), none⟩,
  ⟨(some 93), .call (.func 26) [(.tmp 91), (.tmp 92)], none⟩,
  ⟨(some 90), .mv (.tmp 93), none⟩,
  ⟨(some 94), .ext 0 (.tmp 90), none⟩,
  ⟨(some 95), .ext 1 (.tmp 90), none⟩,
  ⟨(some 18), .mv (.tmp 94), none⟩,
  ⟨(some 19), .mv (.tmp 95), none⟩])
 (.seq (.reg [⟨(some 96), .mv (.tmp 19), none⟩,
  ⟨(some 97), .un .not (.tmp 96), none⟩,
  ⟨(some 98), .mv (.tmp 97), none⟩,
  ⟨(some 99), .mv (.tmp 12), (some (98, false))⟩,
  ⟨(some 100), .mv (.tmp 18), (some (98, false))⟩,
  ⟨(some 101), .bin .gtr (.tmp 99) (.tmp 100), (some (98, false))⟩,
  ⟨(some 102), .pick (.tmp 98) (.const (.bool true)) (.tmp 101), none⟩])
 (.cond (.tmp 102) (.seq (.reg [⟨(some 2), .mv (.const (.bool false)), none⟩])
 (.ret)) (.skip))))) (.skip)))
 (.seq (.seq (.reg [⟨(some 103), .mv (.tmp 7), none⟩,
  ⟨(some 104), .un .not (.tmp 103), none⟩,
  ⟨(some 105), .mv (.tmp 104), none⟩,
  ⟨(some 106), .mv (.tmp 5), (some (105, false))⟩,
  ⟨(some 107), .bin .add (.tmp 106) (.const (.int .i64 1)), (some (105, false))⟩,
  ⟨(some 108), .fad 2 (.tmp 3), (some (105, false))⟩,
  ⟨(some 109), .ld none (.tmp 108), (some (105, false))⟩,
  ⟨(some 110), .len (.tmp 109), (some (105, false))⟩,
  ⟨(some 111), .bin .geq (.tmp 107) (.tmp 110), (some (105, false))⟩,
  ⟨(some 112), .pick (.tmp 105) (.const (.bool true)) (.tmp 111), none⟩])
 (.cond (.tmp 112) (.seq (.reg [⟨(some 2), .mv (.const (.bool true)), none⟩])
 (.ret)) (.skip)))
 (.seq (.reg [⟨(some 114), .ld (some 5) (.tmp 3), none⟩,
  ⟨(some 115), .mv (.tmp 4), none⟩,
  ⟨(some 116), .mv (.tmp 5), none⟩,
  ⟨(some 117), .bin .add (.tmp 116) (.const (.int .i64 1)), none⟩,
  ⟨(some 118), .call (.func 30) [(.tmp 114), (.tmp 115), (.tmp 117)], none⟩,
  ⟨(some 113), .mv (.tmp 118), none⟩,
  ⟨(some 119), .ext 0 (.tmp 113), none⟩,
  ⟨(some 120), .ext 1 (.tmp 113), none⟩,
  ⟨(some 20), .mv (.tmp 119), none⟩,
  ⟨(some 21), .mv (.tmp 120), none⟩])
 (.seq (.seq (.reg [⟨(some 121), .mv (.tmp 21), none⟩,
  ⟨(some 122), .un .not (.tmp 121), none⟩,
  ⟨(some 123), .mv (.tmp 122), none⟩,
  ⟨(some 124), .mv (.tmp 6), (some (123, false))⟩,
  ⟨(some 125), .len (.tmp 124), (some (123, false))⟩,
  ⟨(some 126), .fad 0 (.tmp 3), (some (123, false))⟩,
  ⟨(some 127), .ld none (.tmp 126), (some (123, false))⟩,
  ⟨(some 128), .bin .sub (.tmp 127) (.const (.int .i64 1)), (some (123, false))⟩,
  ⟨(some 129), .bin .neq (.tmp 125) (.tmp 128), (some (123, false))⟩,
  ⟨(some 130), .pick (.tmp 123) (.const (.bool true)) (.tmp 129), none⟩])
 (.cond (.tmp 130) (.seq (.reg [⟨(some 2), .mv (.const (.bool false)), none⟩])
 (.ret)) (.skip)))
 (.seq (.seq (.reg [⟨(some 22), .mv (.const (.int .i64 0)), none⟩])
 (.block 0 (.loop (.seq (.seq (.reg [⟨(some 131), .mv (.tmp 22), none⟩,
  ⟨(some 132), .mv (.tmp 20), none⟩,
  ⟨(some 133), .len (.tmp 132), none⟩,
  ⟨(some 134), .bin .lss (.tmp 131) (.tmp 133), none⟩])
 (.cond (.tmp 134) (.skip) (.exit 0)))
 (.seq (.block 1 (.seq (.reg [⟨(some 137), .fad 1 (.tmp 3), none⟩,
  ⟨(some 138), .ld none (.tmp 137), none⟩,
  ⟨(some 139), .mv (.tmp 5), none⟩,
  ⟨(some 140), .bin .add (.tmp 139) (.const (.int .i64 1)), none⟩,
  ⟨(some 141), .iad 1 (.tmp 138) (.tmp 140), none⟩,
  ⟨(some 142), .ld none (.tmp 141), none⟩,
  ⟨(some 23), .mv (.tmp 142), none⟩])
 (.seq (.reg [⟨(some 143), .mv (.tmp 4), none⟩,
  ⟨(some 144), .mv (.tmp 5), none⟩,
  ⟨(some 145), .bin .add (.tmp 144) (.const (.int .i64 1)), none⟩,
  ⟨(some 146), .iad 1 (.tmp 143) (.tmp 145), none⟩,
  ⟨(some 147), .ld none (.tmp 146), none⟩,
  ⟨(some 148), .mv (.tmp 5), none⟩,
  ⟨(some 149), .bin .add (.tmp 148) (.const (.int .i64 1)), none⟩,
  ⟨(some 150), .iad 1 (.tmp 147) (.tmp 149), none⟩,
  ⟨(some 151), .ld none (.tmp 150), none⟩,
  ⟨(some 24), .mv (.tmp 151), none⟩])
 (.seq (.seq (.reg [⟨(some 152), .mv (.tmp 22), none⟩,
  ⟨(some 153), .bin .gtr (.tmp 152) (.const (.int .i64 0)), none⟩])
 (.cond (.tmp 153) (.seq (.reg [⟨(some 154), .mv (.tmp 6), none⟩,
  ⟨(some 155), .mv (.tmp 22), none⟩,
  ⟨(some 156), .bin .sub (.tmp 155) (.const (.int .i64 1)), none⟩,
  ⟨(some 157), .iad 1 (.tmp 154) (.tmp 156), none⟩,
  ⟨(some 158), .ld none (.tmp 157), none⟩,
  ⟨(some 23), .mv (.tmp 158), none⟩])
 (.seq (.reg [⟨(some 24), .mv (.const (.int .i64 0)), none⟩])
 (.seq (.reg [⟨(some 159), .mv (.tmp 5), none⟩,
  ⟨(some 160), .bin .add (.tmp 159) (.const (.int .i64 1)), none⟩,
  ⟨(some 161), .mv (.tmp 22), none⟩,
  ⟨(some 162), .bin .sub (.tmp 160) (.tmp 161), none⟩,
  ⟨(some 163), .bin .geq (.tmp 162) (.const (.int .i64 0)), none⟩])
 (.cond (.tmp 163) (.reg [⟨(some 164), .mv (.tmp 4), none⟩,
  ⟨(some 165), .mv (.tmp 5), none⟩,
  ⟨(some 166), .bin .add (.tmp 165) (.const (.int .i64 1)), none⟩,
  ⟨(some 167), .iad 1 (.tmp 164) (.tmp 166), none⟩,
  ⟨(some 168), .ld none (.tmp 167), none⟩,
  ⟨(some 169), .mv (.tmp 5), none⟩,
  ⟨(some 170), .bin .add (.tmp 169) (.const (.int .i64 1)), none⟩,
  ⟨(some 171), .mv (.tmp 22), none⟩,
  ⟨(some 172), .bin .sub (.tmp 170) (.tmp 171), none⟩,
  ⟨(some 173), .iad 1 (.tmp 168) (.tmp 172), none⟩,
  ⟨(some 174), .ld none (.tmp 173), none⟩,
  ⟨(some 24), .mv (.tmp 174), none⟩]) (.skip))))) (.skip)))
 (.seq (.reg [⟨(some 175), .mv (.tmp 20), none⟩,
  ⟨(some 176), .mv (.tmp 22), none⟩,
  ⟨(some 177), .iad 1 (.tmp 175) (.tmp 176), none⟩,
  ⟨(some 178), .ld none (.tmp 177), none⟩,
  ⟨(some 179), .mv (.tmp 23), none⟩,
  ⟨(some 180), .mv (.tmp 24), none⟩,
  ⟨(some 181), .bin .sub (.tmp 179) (.tmp 180), none⟩,
  ⟨(some 182), .bin .neq (.tmp 178) (.tmp 181), none⟩])
 (.cond (.tmp 182) (.seq (.reg [⟨(some 2), .mv (.const (.bool false)), none⟩])
 (.ret)) (.skip)))))))
 (.reg [⟨(some 135), .mv (.tmp 22), none⟩,
  ⟨(some 136), .bin .add (.tmp 135) (.const (.int .i64 1)), none⟩,
  ⟨(some 22), .mv (.tmp 136), none⟩]))))))
 (.seq (.reg [⟨(some 2), .mv (.const (.bool true)), none⟩])
 (.ret)))))))))))))))
def r_laws_FnAges : List ARes := [.tmp 2]
theorem ok_laws_FnAges : FnOk Try.prog 4 183 c_laws_FnAges r_laws_FnAges := ⟨⟨Try.f4, _, Try.func4, by kernel_rfl, rfl, rfl, by kernel_rfl, by kernel_rfl⟩⟩
end Go.Proofs.Ytdgfbmilbhckiaa.Ab
end
