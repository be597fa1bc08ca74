/- Chains: cases that stay the same from period to period; the case of a stage. -/
import Derived.Test.YtamhhicnfpemeaaAbCaseO
import Derived.Test.YtamhhicnfpemeaaAbKro
import Derived.Test.YtamhhicnfpemeaaAbRep
import Derived.Test.YtamhhicnfpemeaaAbCh1
namespace Go.Proofs.Ytamhhicnfpemeaa.Ab
open Go Go.RowKit
set_option linter.unusedVariables false
set_option linter.unusedSimpArgs false

theorem Ext.of {m M : Mem} (h1 : m.length ≤ M.length) (h2 : ∀ i, i < m.length → M[i]? = (roM m)[i]?) (h3 : ∀ (i : Nat) (k : Blk), m.length ≤ i → M[i]? = some k → k.kd ≠ .ro) : Ext m M := by
  refine ⟨M.drop m.length, ?_, ?_⟩
  · apply List.ext_getElem?
    intro i
    by_cases hi : i < m.length
    · rw [h2 i hi, List.getElem?_append_left (by rw [roM_len]; exact hi)]
    · rw [List.getElem?_append_right (by rw [roM_len]; omega), List.getElem?_drop, roM_len]; congr 1; omega
  · intro b hb
    obtain ⟨i, hi⟩ := List.mem_iff_getElem?.1 hb
    rw [List.getElem?_drop] at hi
    exact h3 _ b (by omega) hi
theorem Ext.ids {m M : Mem} (h : Ext m M) : m.length ≤ M.length ∧ (∀ i, i < m.length → M[i]? = (roM m)[i]?) ∧ ∀ (i : Nat) (k : Blk), m.length ≤ i → M[i]? = some k → k.kd ≠ .ro := by
  have hl := h.len
  obtain ⟨n0, rfl, h0⟩ := h
  refine ⟨hl, fun i hi => by rw [List.getElem?_append_left (by rw [roM_len]; exact hi)], fun i k hi hk => ?_⟩
  rw [List.getElem?_append_right (by rw [roM_len]; exact hi)] at hk
  exact h0 k (List.mem_of_getElem? hk)
/-- One number more in one of the four rows. -/
theorem KC.step {m M : Mem} {b lo : Nat} {vs : Nat → Value} {ls : Nat → List Int} {rs : Nat → Nat} (h : KC M b lo vs ls rs) (hX : Ext m M) (hml : m.length ≤ lo) {o : Nat} (ho : o < 4) (hl : (ls o).length ≤ 1000) (x : Int) : ∃ M1 M2 vs' ls' rs',
    appP (M ++ [⟨.own, 3, [.int .i64 x]⟩]) 3 1 8 (vs o) (.slice (some ⟨M.length, 0, none⟩) 1 1) = some (.slice (some ⟨M.length + 1, 0, none⟩) ((ls o).length + 1) 1, M1) ∧
    stA M1 b o [.slice (some ⟨M.length + 1, 0, none⟩) ((ls o).length + 1) 1] = some M2 ∧
    KC M2 b lo vs' ls' rs' ∧ Ext m M2 ∧ (∀ i, i ≠ o → vs' i = vs i ∧ ls' i = ls i) ∧ ls' o = ls o ++ [x] ∧ (∀ i, i < lo → M2[i]? = M[i]?) := by
  obtain ⟨M1, M2, a1, a2, a3, a4, a5, a6⟩ := h.app ho hl x
  obtain ⟨e1, e2, e3⟩ := hX.ids
  have hb := (List.getElem?_eq_some_iff.1 h.box).1
  have hlo := h.lob
  refine ⟨M1, M2, _, _, _, a1, a2, a3, ?_, fun i hi => ⟨by simp [up4, hi], by simp [up4, hi]⟩, by simp [up4], a5⟩
  refine Ext.of (by omega) (fun i hi => by rw [a5 i (by omega)]; exact e2 i hi) fun i k hi hk => ?_
  by_cases hil : i < lo
  · rw [a5 i hil] at hk; exact e3 i k hi hk
  · exact a6 (fun i k hi hk => e3 i k (by omega) hk) i k (by omega) hk
theorem KC.rd {M : Mem} {b lo : Nat} {vs : Nat → Value} {ls : Nat → List Int} {rs : Nat → Nat} (h : KC M b lo vs ls rs) (k : Nat) : rdc M b k = [vs 0, vs 1, vs 2, vs 3][k]? := by
  have := h.box
  simp [rdc, this]
theorem KC.ones {M : Mem} {b lo : Nat} {vs : Nat → Value} {ls : Nat → List Int} {rs : Nat → Nat} (h : KC M b lo vs ls rs) : onesB [vs 0, vs 1, vs 2, vs 3] = true := by
  have hv : ∀ i, i < 4 → ∃ a n c, vs i = .slice a n c := fun i hi => by
    rcases h.row i hi with ⟨h1, _⟩ | ⟨h1, _⟩ <;> exact ⟨_, _, _, h1⟩
  obtain ⟨a0, n0, c0, e0⟩ := hv 0 (by omega)
  obtain ⟨a1, n1, c1, e1⟩ := hv 1 (by omega)
  obtain ⟨a2, n2, c2, e2⟩ := hv 2 (by omega)
  obtain ⟨a3, n3, c3, e3⟩ := hv 3 (by omega)
  rw [e0, e1, e2, e3]
  rfl
theorem KC.obj {M M' : Mem} {b lo lo' hi : Nat} {vs : Nat → Value} {ls : Nat → List Int} {rs : Nat → Nat} {k : Cs} {n : Nat} (h : KC M b lo vs ls rs) (h0 : ls 0 = k.need) (h1 : ls 1 = k.setup) (h2 : ls 2 = k.unit) (h3 : ls 3 = k.hold) (hn : k.need.length = n ∧ k.setup.length = n ∧ k.unit.length = n ∧ k.hold.length = n) (hn2 : n ≤ 1000) (hlo : lo' ≤ lo) (hhi : M.length ≤ hi) (hs : ∀ i, lo ≤ i → i < M.length → i ≠ b → M'[i]? = M[i]?) :
    CaseO k lo' hi M' (.agg #[vs 0, vs 1, vs 2, vs 3]) := by
  obtain ⟨n1, n2, n3, n4⟩ := hn
  have sm : k.small := ⟨by omega, by omega, by omega, by omega⟩
  by_cases hz : n = 0
  · subst hz
    have e : ∀ i, i < 4 → ls i = [] → vs i = .slice none 0 0 := fun i hi he => by
      rcases h.row i hi with ⟨h1, _⟩ | ⟨_, h2, _⟩
      · exact h1
      · exact absurd he h2
    have z0 := List.eq_nil_of_length_eq_zero n1
    have z1 := List.eq_nil_of_length_eq_zero n2
    have z2 := List.eq_nil_of_length_eq_zero n3
    have z3 := List.eq_nil_of_length_eq_zero n4
    refine ⟨sm, .inl ⟨?_, ?_⟩⟩
    · obtain ⟨a, b, c, d⟩ := k
      simp only at z0 z1 z2 z3
      rw [z0, z1, z2, z3]
    · rw [e 0 (by omega) (by rw [h0, z0]), e 1 (by omega) (by rw [h1, z1]), e 2 (by omega) (by rw [h2, z2]), e 3 (by omega) (by rw [h3, z3])]
  · have ne : ∀ i, i < 4 → (ls i).length = n → ls i ≠ [] := fun i hi he h => by rw [h] at he; simp at he; omega
    have l0 : (ls 0).length = n := by rw [h0]; exact n1
    have l1 : (ls 1).length = n := by rw [h1]; exact n2
    have l2 : (ls 2).length = n := by rw [h2]; exact n3
    have l3 : (ls 3).length = n := by rw [h3]; exact n4
    have row : ∀ i, i < 4 → (ls i).length = n → vs i = .slice (some ⟨rs i, 0, none⟩) (ls i).length 1 ∧ lo ≤ rs i ∧ rs i < M.length ∧ OwnR M' (rs i) (ls i) := fun i hi he => by
      have hne := ne i hi he
      rcases h.row i hi with ⟨_, h2⟩ | ⟨a, _, c⟩
      · exact absurd h2 hne
      · have g := h.ge i hi hne
        exact ⟨a, g.1, c.lt, c.at_ (hs _ g.1 c.lt g.2)⟩
    obtain ⟨a0, b0, c0, d0⟩ := row 0 (by omega) l0
    obtain ⟨a1, b1, c1, d1⟩ := row 1 (by omega) l1
    obtain ⟨a2, b2, c2, d2⟩ := row 2 (by omega) l2
    obtain ⟨a3, b3, c3, d3⟩ := row 3 (by omega) l3
    have nn := fun i j hi hj hij (ei : (ls i).length = n) (ej : (ls j).length = n) => h.ne i j hi hj hij (ne i hi ei) (ne j hj ej)
    rw [h0] at a0 d0
    rw [h1] at a1 d1
    rw [h2] at a2 d2
    rw [h3] at a3 d3
    refine ⟨sm, .inr ⟨rs 0, rs 1, rs 2, rs 3, 1, 1, 1, 1, by rw [a0, a1, a2, a3], by omega, by omega, by omega, by omega, ⟨nn 0 1 (by omega) (by omega) (by omega) l0 l1, nn 0 2 (by omega) (by omega) (by omega) l0 l2, nn 0 3 (by omega) (by omega) (by omega) l0 l3, nn 1 2 (by omega) (by omega) (by omega) l1 l2, nn 1 3 (by omega) (by omega) (by omega) l1 l3, nn 2 3 (by omega) (by omega) (by omega) l2 l3⟩, d0, d1, d2, d3⟩⟩
theorem bld_none4 : bldA [.slice none 0 0, .slice none 0 0, .slice none 0 0, .slice none 0 0] [] = some (.agg #[.slice none 0 0, .slice none 0 0, .slice none 0 0, .slice none 0 0]) := rfl
theorem replicate_snoc {α : Type} (n : Nat) (x : α) : List.replicate (n + 1) x = List.replicate n x ++ [x] := List.replicate_succ'
theorem l7Case_rc (m : Mem) (v : Value) (need : List Int) (set hold : Int) (h : IntsA m v need) (hl : need.length ≤ 8) : RC Try.prog 74 [v, .int .i64 set, .int .i64 hold] m (AnsO m (CaseO (evenC need set hold)) id) := by
  refine rc_of_run mixed ok_spec_l7Case (by simp) (go_start _ _ _ ?_)
  have hr := h.ro
  simp (config := {implicitDefEqProofs := false, maxDischargeDepth := 20}) (disch := first | omega | (simp only [lenE]; done) | (simp only [lenE]; omega) | rfl | (simp only [lenE, markR_len]; done) | (simp only [lenE, markR_len]; omega)) only [runE, mapE, listE, initT_5, initT_6, initT_7, initT_8, resV, oneV, binA, unA, reduceCtorEq, Nat.reduceEqDiff, Nat.reduceAdd, Nat.reduceLT, Nat.reduceLeDiff, Nat.reduceMul, Nat.reduceSub, ↓reduceIte, decide_true, decide_false, Bool.true_eq_false, Bool.false_eq_true, Bool.not_true, Bool.not_false, if_true, if_false, and_true, true_and, memE, celE, w64, Nat.zero_add, Nat.add_zero, Nat.mul_one, putL, and_self, ldn, c_spec_l7Case, r_spec_l7Case, bld_none4]
  have hX0 := ((Ext.refl m).one 30 [.slice none 0 0, .slice none 0 0, .slice none 0 0, .slice none 0 0]).one 30 [.slice none 0 0, .slice none 0 0, .slice none 0 0, .slice none 0 0]
  have hb0 : OwnB (roM m ++ [⟨.own, 30, [.slice none 0 0, .slice none 0 0, .slice none 0 0, .slice none 0 0]⟩] ++ [⟨.own, 30, [.slice none 0 0, .slice none 0 0, .slice none 0 0, .slice none 0 0]⟩]) m.length 30 [.slice none 0 0, .slice none 0 0, .slice none 0 0, .slice none 0 0] := (OwnB.here (roM_len m).symm).ext _
  have hk0 : KC (roM m ++ [⟨.own, 30, [.slice none 0 0, .slice none 0 0, .slice none 0 0, .slice none 0 0]⟩] ++ [⟨.own, 30, [.slice none 0 0, .slice none 0 0, .slice none 0 0, .slice none 0 0]⟩]) (m.length + 1) (m.length + 1) (fun _ => .slice none 0 0) (fun _ => []) (fun _ => 0) :=
    ⟨OwnB.here (by simp [roM_len]), Nat.le_refl _, fun i hi => .inl ⟨rfl, rfl⟩, fun i hi hne => absurd rfl hne, fun i j hi hj hij hne => absurd rfl hne⟩
  refine loop_inv mixed (fun s => ∃ (t : Nat) (M : Mem) (vs : Nat → Value) (ls : Nat → List Int) (rs : Nat → Nat), t ≤ need.length ∧ s.m = M ∧ Ext m M ∧ OwnB M m.length 30 [.slice none 0 0, .slice none 0 0, .slice none 0 0, .slice none 0 0] ∧ KC M (m.length + 1) (m.length + 1) vs ls rs ∧ ls 0 = need.take t ∧ ls 1 = List.replicate t set ∧ ls 2 = List.replicate t 0 ∧ ls 3 = List.replicate t hold ∧
      s.t 0 = v ∧ s.t 1 = .int .i64 set ∧ s.t 2 = .int .i64 hold ∧ s.t 6 = .pointer (some ⟨m.length, 0, none⟩) ∧ s.t 7 = .pointer (some ⟨m.length + 1, 0, none⟩) ∧ s.t 8 = .int .i64 (t : Int)) (fun s => need.length - (intOf (s.t 8)).toNat)
    ⟨0, _, _, _, _, by omega, rfl, hX0, hb0, hk0, rfl, rfl, rfl, rfl, rfl, rfl, rfl, rfl, rfl, rfl⟩ ?_
  rintro s ⟨t, M, vs, ls, rs, ht, tm, hX, hbx, hK, l0, l1, l2, l3, t0, t1, t2, t6, t7, t8⟩
  have hi := hX.ints hr
  by_cases hlt : t < need.length
  · have hlt' : (t : Int) < need.length := by omega
    obtain ⟨A1, B1, vs1, ls1, rs1, p1, q1, K1, X1, e1, f1, g1⟩ := hK.step hX (by omega) (o := 0) (by omega) (by rw [l0, List.length_take]; omega) (need.getD t 0)
    obtain ⟨A2, B2, vs2, ls2, rs2, p2, q2, K2, X2, e2, f2, g2⟩ := K1.step X1 (by omega) (o := 1) (by omega) (by rw [(e1 1 (by omega)).2, l1]; simp; omega) set
    obtain ⟨A3, B3, vs3, ls3, rs3, p3, q3, K3, X3, e3, f3, g3⟩ := K2.step X2 (by omega) (o := 2) (by omega) (by rw [(e2 2 (by omega)).2, (e1 2 (by omega)).2, l2]; simp; omega) 0
    obtain ⟨A4, B4, vs4, ls4, rs4, p4, q4, K4, X4, e4, f4, g4⟩ := K3.step X3 (by omega) (o := 3) (by omega) (by rw [(e3 3 (by omega)).2, (e2 3 (by omega)).2, (e1 3 (by omega)).2, l3]; simp; omega) hold
    simp (config := {implicitDefEqProofs := false, maxDischargeDepth := 20}) (disch := first | omega | (simp only [lenE]; done) | (simp only [lenE]; omega) | rfl | (simp only [lenE, markR_len]; done) | (simp only [lenE, markR_len]; omega)) only [runE, mapE, listE, initT_5, initT_6, initT_7, initT_8, resV, oneV, binA, unA, reduceCtorEq, Nat.reduceEqDiff, Nat.reduceAdd, Nat.reduceLT, Nat.reduceLeDiff, Nat.reduceMul, Nat.reduceSub, ↓reduceIte, decide_true, decide_false, Bool.true_eq_false, Bool.false_eq_true, Bool.not_true, Bool.not_false, if_true, if_false, and_true, true_and, memE, celE, w64, Nat.zero_add, Nat.add_zero, Nat.mul_one, putL, and_self, ldn, tm, t0, t1, t2, t6, t7, t8, hr.len, hlt', hi.at_ t hlt, hi.ld t hlt, hK.rd, bsl_one, p1, q1]
    simp (config := {implicitDefEqProofs := false, maxDischargeDepth := 20}) (disch := first | omega | (simp only [lenE]; done) | (simp only [lenE]; omega) | rfl | (simp only [lenE, markR_len]; done) | (simp only [lenE, markR_len]; omega)) only [runE, mapE, listE, initT_5, initT_6, initT_7, initT_8, resV, oneV, binA, unA, reduceCtorEq, Nat.reduceEqDiff, Nat.reduceAdd, Nat.reduceLT, Nat.reduceLeDiff, Nat.reduceMul, Nat.reduceSub, ↓reduceIte, decide_true, decide_false, Bool.true_eq_false, Bool.false_eq_true, Bool.not_true, Bool.not_false, if_true, if_false, and_true, true_and, memE, celE, w64, Nat.zero_add, Nat.add_zero, Nat.mul_one, putL, and_self, ldn, K1.rd, p2, q2, bsl_one, t0, t1, t2, t6, t7, t8]
    simp (config := {implicitDefEqProofs := false, maxDischargeDepth := 20}) (disch := first | omega | (simp only [lenE]; done) | (simp only [lenE]; omega) | rfl | (simp only [lenE, markR_len]; done) | (simp only [lenE, markR_len]; omega)) only [runE, mapE, listE, initT_5, initT_6, initT_7, initT_8, resV, oneV, binA, unA, reduceCtorEq, Nat.reduceEqDiff, Nat.reduceAdd, Nat.reduceLT, Nat.reduceLeDiff, Nat.reduceMul, Nat.reduceSub, ↓reduceIte, decide_true, decide_false, Bool.true_eq_false, Bool.false_eq_true, Bool.not_true, Bool.not_false, if_true, if_false, and_true, true_and, memE, celE, w64, Nat.zero_add, Nat.add_zero, Nat.mul_one, putL, and_self, ldn, K2.rd, p3, q3, bsl_one, t0, t1, t2, t6, t7, t8]
    simp (config := {implicitDefEqProofs := false, maxDischargeDepth := 20}) (disch := first | omega | (simp only [lenE]; done) | (simp only [lenE]; omega) | rfl | (simp only [lenE, markR_len]; done) | (simp only [lenE, markR_len]; omega)) only [runE, mapE, listE, initT_5, initT_6, initT_7, initT_8, resV, oneV, binA, unA, reduceCtorEq, Nat.reduceEqDiff, Nat.reduceAdd, Nat.reduceLT, Nat.reduceLeDiff, Nat.reduceMul, Nat.reduceSub, ↓reduceIte, decide_true, decide_false, Bool.true_eq_false, Bool.false_eq_true, Bool.not_true, Bool.not_false, if_true, if_false, and_true, true_and, memE, celE, w64, Nat.zero_add, Nat.add_zero, Nat.mul_one, putL, and_self, ldn, K3.rd, p4, q4, bsl_one, t0, t1, t2, t6, t7, t8]
    refine ⟨⟨t + 1, B4, _, _, _, by omega, rfl, X4, hbx.at_ (by rw [g4 _ (by omega), g3 _ (by omega), g2 _ (by omega), g1 _ (by omega)]), K4, ?_, ?_, ?_, ?_, by simp⟩, ?_⟩
    · rw [(e4 0 (by omega)).2, (e3 0 (by omega)).2, (e2 0 (by omega)).2, f1, l0, take_next hlt]
    · rw [(e4 1 (by omega)).2, (e3 1 (by omega)).2, f2, (e1 1 (by omega)).2, l1, replicate_snoc]
    · rw [(e4 2 (by omega)).2, f3, (e2 2 (by omega)).2, (e1 2 (by omega)).2, l2, replicate_snoc]
    · rw [f4, (e3 3 (by omega)).2, (e2 3 (by omega)).2, (e1 3 (by omega)).2, l3, replicate_snoc]
    · simp [intOf]; omega
  · have hlt' : ¬ ((t : Int) < need.length) := by omega
    have e : t = need.length := by omega
    subst e
    have st := hbx.st (off := 0) (vs := [vs 0, vs 1, vs 2, vs 3]) (by simp) hK.ones
    have hs := hbx.set_self 30 [vs 0, vs 1, vs 2, vs 3]
    simp (config := {implicitDefEqProofs := false, maxDischargeDepth := 20}) (disch := first | omega | (simp only [lenE]; done) | (simp only [lenE]; omega) | rfl | (simp only [lenE, markR_len]; done) | (simp only [lenE, markR_len]; omega)) only [runE, mapE, listE, initT_5, initT_6, initT_7, initT_8, resV, oneV, binA, unA, reduceCtorEq, Nat.reduceEqDiff, Nat.reduceAdd, Nat.reduceLT, Nat.reduceLeDiff, Nat.reduceMul, Nat.reduceSub, ↓reduceIte, decide_true, decide_false, Bool.true_eq_false, Bool.false_eq_true, Bool.not_true, Bool.not_false, if_true, if_false, and_true, true_and, memE, celE, w64, Nat.zero_add, Nat.add_zero, Nat.mul_one, putL, and_self, ldn, tm, t0, t1, t2, t6, t7, t8, hr.len, hlt', hK.rd, st, hs.rd]
    refine ext_ansO (f := _root_.id) (hX.put (Nat.le_refl _) _ _) fun M' hM => ?_
    refine hK.obj (k := evenC need set hold) (n := need.length) (by rw [l0, List.take_of_length_le (Nat.le_refl _)]; rfl) (by rw [l1]; rfl) (by rw [l2]; rfl) (by rw [l3]; rfl) (by simp [evenC]) (by omega) (by omega) (by simp) fun i h1 h2 h3 => ?_
    rw [hM i (by omega) (by simpa using h2), List.getElem?_set_ne (by omega)]
theorem steady1_rc (m : Mem) (x : Int) (id : Nat) (v : Value) (need : List Int) (hb : rdc m id 0 = some v) (h : IntsA m v need) (hl : need.length ≤ 8) : RC Try.prog 120 [.int .i64 x, .pointer (some ⟨id, 0, none⟩)] m (AnsR m (List.replicate need.length x)) := by
  refine rc_of_run mixed ok_impl_steadyCase_1 (by simp) (go_start _ _ _ ?_)
  have hr := h.ro
  have hb' : rdc (roM m) id 0 = some v := by rw [rdc_roM]; exact hb
  have hid := rdc_blk2 hb'
  simp (config := {implicitDefEqProofs := false, maxDischargeDepth := 20}) (disch := first | omega | (simp only [lenE]; done) | (simp only [lenE]; omega) | rfl | (simp only [lenE, markR_len]; done) | (simp only [lenE, markR_len]; omega)) only [runE, mapE, listE, initT_5, initT_6, initT_7, initT_8, resV, oneV, binA, unA, reduceCtorEq, Nat.reduceEqDiff, Nat.reduceAdd, Nat.reduceLT, Nat.reduceLeDiff, Nat.reduceMul, Nat.reduceSub, ↓reduceIte, decide_true, decide_false, Bool.true_eq_false, Bool.false_eq_true, Bool.not_true, Bool.not_false, if_true, if_false, and_true, true_and, memE, celE, w64, Nat.zero_add, Nat.add_zero, Nat.mul_one, putL, and_self, ldn, c_impl_steadyCase_1, r_impl_steadyCase_1, bsl_one, hb', hr.len]
  have ho := OwnR.end' (m := roM m) (l := [x]) (id := m.length) (roM_len m).symm
  have hi := ho.ints (by simp) 1
  refine callH_rc (repeat_rc _ _ x need.length hi hl) ?_
  intro r new hA
  obtain ⟨rid, fl, rfl, hge, hown, hle, nr⟩ := hA.row
  simp (config := {implicitDefEqProofs := false, maxDischargeDepth := 20}) (disch := first | omega | (simp only [lenE]; done) | (simp only [lenE]; omega) | rfl | (simp only [lenE, markR_len]; done) | (simp only [lenE, markR_len]; omega)) only [runE, mapE, listE, initT_5, initT_6, initT_7, initT_8, resV, oneV, binA, unA, reduceCtorEq, Nat.reduceEqDiff, Nat.reduceAdd, Nat.reduceLT, Nat.reduceLeDiff, Nat.reduceMul, Nat.reduceSub, ↓reduceIte, decide_true, decide_false, Bool.true_eq_false, Bool.false_eq_true, Bool.not_true, Bool.not_false, if_true, if_false, and_true, true_and, memE, celE, w64, Nat.zero_add, Nat.add_zero, Nat.mul_one, putL, and_self, ldn]
  rw [List.length_append, roM_len] at hge
  exact ext_ansR (((Ext.refl m).one _ _).app nr) hown (by omega) rfl hle
theorem IntsA.cellsOne {m : Mem} {u : Value} {l : List Int} (h : IntsA m u l) : u.cells = #[u] := by
  rcases h.form with ⟨rfl, _⟩ | ⟨i, o, fl, rfl⟩ <;> rfl
theorem bld_four (i1 i2 i3 i4 : Option Addr) (n1 n2 n3 n4 c1 c2 c3 c4 : Nat) :
    bldA [.slice none 0 0, .slice none 0 0, .slice none 0 0, .slice none 0 0] [(0, 1, .slice i1 n1 c1), (1, 1, .slice i2 n2 c2), (2, 1, .slice i3 n3 c3), (3, 1, .slice i4 n4 c4)] = some (.agg #[.slice i1 n1 c1, .slice i2 n2 c2, .slice i3 n3 c3, .slice i4 n4 c4]) := rfl
theorem steadyCase_rc (m : Mem) (v : Value) (need : List Int) (set hold : Int) (h : IntsA m v need) (hl : need.length ≤ 8) : RC Try.prog 82 [v, .int .i64 set, .int .i64 hold] m (AnsO m (CaseO (evenC need set hold)) id) := by
  refine rc_of_run mixed ok_impl_steadyCase (by simp) (go_start _ _ _ ?_)
  have hr := h.ro
  have hcl : v.cells.toList = [v] := by rw [hr.cellsOne]
  obtain ⟨M0, hM0⟩ : ∃ M0, M0 = roM m ++ [⟨.own, 24, [v]⟩] ++ [⟨.own, 30, [.slice none 0 0, .slice none 0 0, .slice none 0 0, .slice none 0 0]⟩] := ⟨_, rfl⟩
  have L0 : M0.length = m.length + 2 := by rw [hM0]; simp [roM_len]
  have hX0 : Ext m M0 := by rw [hM0]; exact ((Ext.refl m).one _ _).one _ _
  have b3 : OwnB M0 m.length 24 [v] := by rw [hM0]; exact (OwnB.here (roM_len m).symm).ext _
  have b6 : OwnB M0 (m.length + 1) 30 [.slice none 0 0, .slice none 0 0, .slice none 0 0, .slice none 0 0] := by rw [hM0]; exact OwnB.here (by simp [roM_len])
  have hap := app_own (M := M0) (hX0.ints hr) (by omega)
  rw [L0] at hap
  simp (config := {implicitDefEqProofs := false, maxDischargeDepth := 20}) (disch := first | omega | (simp only [lenE]; done) | (simp only [lenE]; omega) | rfl | (simp only [lenE, markR_len]; done) | (simp only [lenE, markR_len]; omega)) only [runE, mapE, listE, initT_5, initT_6, initT_7, initT_8, resV, oneV, binA, unA, reduceCtorEq, Nat.reduceEqDiff, Nat.reduceAdd, Nat.reduceLT, Nat.reduceLeDiff, Nat.reduceMul, Nat.reduceSub, ↓reduceIte, decide_true, decide_false, Bool.true_eq_false, Bool.false_eq_true, Bool.not_true, Bool.not_false, if_true, if_false, and_true, true_and, memE, celE, w64, Nat.zero_add, Nat.add_zero, Nat.mul_one, putL, and_self, ldn, c_impl_steadyCase, r_impl_steadyCase, hcl, bsl_none']
  rw [← hM0]
  have o1 : OwnR (M0 ++ [deadB] ++ [⟨.own, 3, need.map (Value.int .i64)⟩]) (m.length + 2 + 1) need := OwnR.end' (by simp [L0])
  have hX1 : Ext m (M0 ++ [deadB] ++ [⟨.own, 3, need.map (Value.int .i64)⟩]) := (hX0.app (noRo_dead noRo_nil)).one _ _
  replace b3 := (b3.ext [deadB]).ext [⟨.own, 3, need.map (Value.int .i64)⟩]
  replace b6 := (b6.ext [deadB]).ext [⟨.own, 3, need.map (Value.int .i64)⟩]
  obtain ⟨M1, hM1⟩ : ∃ M1, M1 = M0 ++ [deadB] ++ [⟨.own, 3, need.map (Value.int .i64)⟩] := ⟨_, rfl⟩
  have L1 : M1.length = m.length + 4 := by rw [hM1]; simp [L0]
  rw [← hM1] at hap o1 hX1 b3 b6
  simp (config := {implicitDefEqProofs := false, maxDischargeDepth := 20}) (disch := first | omega | (simp only [lenE]; done) | (simp only [lenE]; omega) | rfl | (simp only [lenE, markR_len]; done) | (simp only [lenE, markR_len]; omega)) only [runE, mapE, listE, initT_5, initT_6, initT_7, initT_8, resV, oneV, binA, unA, reduceCtorEq, Nat.reduceEqDiff, Nat.reduceAdd, Nat.reduceLT, Nat.reduceLeDiff, Nat.reduceMul, Nat.reduceSub, ↓reduceIte, decide_true, decide_false, Bool.true_eq_false, Bool.false_eq_true, Bool.not_true, Bool.not_false, if_true, if_false, and_true, true_and, memE, celE, w64, Nat.zero_add, Nat.add_zero, Nat.mul_one, putL, and_self, ldn, hap]
  refine callH_rc (steady1_rc _ set m.length v need (by rw [b3.rd]; rfl) (hX1.ints hr) hl) ?_
  intro r n1 hA
  obtain ⟨r1, f1, rfl, g1, w1, k1, nr1⟩ := hA.row
  have hX2 := hX1.app nr1
  replace b3 := b3.ext n1
  replace b6 := b6.ext n1
  replace o1 := o1.ext n1
  obtain ⟨M2, hM2⟩ : ∃ M2, M2 = M1 ++ n1 := ⟨_, rfl⟩
  have L2 : M2.length = M1.length + n1.length := by rw [hM2]; simp
  rw [← hM2] at hX2 b3 b6 o1 w1 ⊢
  simp (config := {implicitDefEqProofs := false, maxDischargeDepth := 20}) (disch := first | omega | (simp only [lenE]; done) | (simp only [lenE]; omega) | rfl | (simp only [lenE, markR_len]; done) | (simp only [lenE, markR_len]; omega)) only [runE, mapE, listE, initT_5, initT_6, initT_7, initT_8, resV, oneV, binA, unA, reduceCtorEq, Nat.reduceEqDiff, Nat.reduceAdd, Nat.reduceLT, Nat.reduceLeDiff, Nat.reduceMul, Nat.reduceSub, ↓reduceIte, decide_true, decide_false, Bool.true_eq_false, Bool.false_eq_true, Bool.not_true, Bool.not_false, if_true, if_false, and_true, true_and, memE, celE, w64, Nat.zero_add, Nat.add_zero, Nat.mul_one, putL, and_self, ldn]
  refine callH_rc (steady1_rc _ 0 m.length v need (by rw [b3.rd]; rfl) (hX2.ints hr) hl) ?_
  intro r n2 hA
  obtain ⟨r2, f2, rfl, g2, w2, k2, nr2⟩ := hA.row
  have hX3 := hX2.app nr2
  replace b3 := b3.ext n2
  replace b6 := b6.ext n2
  replace o1 := o1.ext n2
  have l1 := w1.lt
  replace w1 := w1.ext n2
  obtain ⟨M3, hM3⟩ : ∃ M3, M3 = M2 ++ n2 := ⟨_, rfl⟩
  have L3 : M3.length = M2.length + n2.length := by rw [hM3]; simp
  rw [← hM3] at hX3 b3 b6 o1 w1 w2 ⊢
  simp (config := {implicitDefEqProofs := false, maxDischargeDepth := 20}) (disch := first | omega | (simp only [lenE]; done) | (simp only [lenE]; omega) | rfl | (simp only [lenE, markR_len]; done) | (simp only [lenE, markR_len]; omega)) only [runE, mapE, listE, initT_5, initT_6, initT_7, initT_8, resV, oneV, binA, unA, reduceCtorEq, Nat.reduceEqDiff, Nat.reduceAdd, Nat.reduceLT, Nat.reduceLeDiff, Nat.reduceMul, Nat.reduceSub, ↓reduceIte, decide_true, decide_false, Bool.true_eq_false, Bool.false_eq_true, Bool.not_true, Bool.not_false, if_true, if_false, and_true, true_and, memE, celE, w64, Nat.zero_add, Nat.add_zero, Nat.mul_one, putL, and_self, ldn]
  refine callH_rc (steady1_rc _ hold m.length v need (by rw [b3.rd]; rfl) (hX3.ints hr) hl) ?_
  intro r n3 hA
  obtain ⟨r3, f3, rfl, g3, w3, k3, nr3⟩ := hA.row
  have hX4 := hX3.app nr3
  have l2 := w2.lt
  replace b6 := b6.ext n3
  replace o1 := o1.ext n3
  replace w1 := w1.ext n3
  replace w2 := w2.ext n3
  obtain ⟨M4, hM4⟩ : ∃ M4, M4 = M3 ++ n3 := ⟨_, rfl⟩
  rw [← hM4] at hX4 b6 o1 w1 w2 w3 ⊢
  have l3 := w3.lt
  have st := b6.st (off := 0) (vs := [.slice (some ⟨m.length + 2 + 1, 0, none⟩) need.length 1, .slice (some ⟨r1, 0, none⟩) (List.replicate need.length set).length f1, .slice (some ⟨r2, 0, none⟩) (List.replicate need.length (0 : Int)).length f2, .slice (some ⟨r3, 0, none⟩) (List.replicate need.length hold).length f3]) (by simp) rfl
  have hs := b6.set_self 30 [.slice (some ⟨m.length + 2 + 1, 0, none⟩) need.length 1, .slice (some ⟨r1, 0, none⟩) (List.replicate need.length set).length f1, .slice (some ⟨r2, 0, none⟩) (List.replicate need.length (0 : Int)).length f2, .slice (some ⟨r3, 0, none⟩) (List.replicate need.length hold).length f3]
  simp (config := {implicitDefEqProofs := false, maxDischargeDepth := 20}) (disch := first | omega | (simp only [lenE]; done) | (simp only [lenE]; omega) | rfl | (simp only [lenE, markR_len]; done) | (simp only [lenE, markR_len]; omega)) only [runE, mapE, listE, initT_5, initT_6, initT_7, initT_8, resV, oneV, binA, unA, reduceCtorEq, Nat.reduceEqDiff, Nat.reduceAdd, Nat.reduceLT, Nat.reduceLeDiff, Nat.reduceMul, Nat.reduceSub, ↓reduceIte, decide_true, decide_false, Bool.true_eq_false, Bool.false_eq_true, Bool.not_true, Bool.not_false, if_true, if_false, and_true, true_and, memE, celE, w64, Nat.zero_add, Nat.add_zero, Nat.mul_one, putL, and_self, ldn, bld_four, st, hs.rd]
  refine ext_ansO (f := _root_.id) (hX4.put (by omega) _ _) fun M' hM => ⟨?_, .inr ⟨m.length + 2 + 1, r1, r2, r3, 1, f1, f2, f3, by rfl, ?_, ?_, ?_, ?_, ?_, ?_, ?_, ?_, ?_⟩⟩
  · simp only [evenC, Cs.small, List.length_replicate]; omega
  · rw [List.length_set]; omega
  · rw [List.length_set]; omega
  · rw [List.length_set]; omega
  · rw [List.length_set]; omega
  · omega
  · exact (o1.set_ne (by omega)).at_ (hM _ (by omega) (by rw [List.length_set]; omega))
  · exact (w1.set_ne (by omega)).at_ (hM _ (by omega) (by rw [List.length_set]; omega))
  · exact (w2.set_ne (by omega)).at_ (hM _ (by omega) (by rw [List.length_set]; omega))
  · exact (w3.set_ne (by omega)).at_ (hM _ (by omega) (by rw [List.length_set]; omega))
end Go.Proofs.Ytamhhicnfpemeaa.Ab
