/- Straight leads: the specification. -/
import Derived.Test.YtnkbjliidenldaaAbFl19
import Derived.Test.YtnkbjliidenldaaAbEarly
namespace Go.Proofs.Ytnkbjliidenldaa.Ab
open Go Go.RowKit
set_option linter.unusedVariables false
set_option linter.unusedSimpArgs false

theorem OwnR.pre {M : Mem} {id : Nat} {a b : List Int} (h : OwnR M id (a ++ b)) (hb : a.length ≤ 9223372036854775807) (fl : Nat) : IntsA M (.slice (some ⟨id, 0, none⟩) a.length fl) a := by
  refine IntsA.of_block hb (fun k hk => ?_) ?_
  · rw [Nat.zero_add, h.rd' (by rw [List.length_append]; omega), List.getD_eq_getElem?_getD, List.getElem?_append_left hk, ← List.getD_eq_getElem?_getD]
  · unfold rdl
    rw [show M[id]? = some (rowB (a ++ b)) from h]
    simp [rowB, List.map_append]
theorem slcTo {id n k fl : Nat} (h : k ≤ n) : slcA 1 (.slice (some ⟨id, 0, none⟩) n fl) none (some (.int .i64 (k : Int))) = some (.slice (some ⟨id, 0, none⟩) k fl) := by
  simp [slcA, boundA, h]
theorem slcFrom {id n k fl : Nat} (h : k ≤ n) : slcA 1 (.slice (some ⟨id, 0, none⟩) n fl) (some (.int .i64 (k : Int))) none = some (.slice (some ⟨id, k, none⟩) (n - k) 0) := by
  simp [slcA, boundA, h]
theorem bld_pc (a b c : Int) : bldA [.int .i64 0, .int .i64 0, .int .i64 0] [(0, 1, .int .i64 a), (1, 1, .int .i64 b), (2, 1, .int .i64 c)] = some (.agg #[.int .i64 a, .int .i64 b, .int .i64 c]) := rfl
theorem insM {m Y : Mem} {a c d k i y : Nat} {A B : List Int} {x : Int} (hx : Ext m Y) (ha : m.length < a) (oa : OwnR Y a A) (oc : OwnR Y c [x]) (od : OwnR Y d (A ++ B)) (hne : a ≠ d) (hAl : A.length = k) (hBl : B.length = i - k) (hi : i ≤ 100) (hk : k ≤ i) (hy : y = Y.length) (hb : OwnB Y m.length 113 (pcsC [])) :
    ∃ Y2 Y3, appP Y 3 1 8 (.slice (some ⟨a, 0, none⟩) k 1) (.slice (some ⟨c, 0, none⟩) 1 1) = some (.slice (some ⟨y, 0, none⟩) (k + 1) 1, Y2) ∧ appP Y2 3 1 8 (.slice (some ⟨y, 0, none⟩) (k + 1) 1) (.slice (some ⟨d, k, none⟩) (i - k) 0) = some (.slice (some ⟨y + 1, 0, none⟩) (k + 1 + (i - k)) 1, Y3) ∧
      Ext m Y3 ∧ OwnR Y3 (y + 1) (A ++ [x] ++ B) ∧ OwnB Y3 m.length 113 (pcsC []) ∧ m.length < y + 1 := by
  subst hAl hy
  have ic : IntsA Y (.slice (some ⟨c, 0, none⟩) 1 1) [x] := oc.pre (b := []) (a := [x]) (by simp) 1
  have e65 := app_all oa ic (by simp; omega)
  have o2 : OwnR (Y.set a deadB ++ [⟨.own, 3, (A ++ [x]).map (Value.int .i64)⟩]) Y.length (A ++ [x]) := by
    have := OwnR.at_end (Y.set a deadB) (A ++ [x])
    rwa [List.length_set] at this
  have od2 : OwnR (Y.set a deadB ++ [⟨.own, 3, (A ++ [x]).map (Value.int .i64)⟩]) d (A ++ B) := (od.set_ne hne).ext _
  have hb2 : OwnB (Y.set a deadB ++ [⟨.own, 3, (A ++ [x]).map (Value.int .i64)⟩]) m.length 113 (pcsC []) := (hb.deadP (by omega)).ext _
  have hx2 : Ext m (Y.set a deadB ++ [⟨.own, 3, (A ++ [x]).map (Value.int .i64)⟩]) := (hx.dead (by omega)).one _ _
  have hl := hx.len
  have hd := od.lt
  have L2 : (Y.set a deadB ++ [(⟨.own, 3, (A ++ [x]).map (Value.int .i64)⟩ : Blk)]).length = Y.length + 1 := by simp
  generalize Y.set a deadB ++ [(⟨.own, 3, (A ++ [x]).map (Value.int .i64)⟩ : Blk)] = Y2 at *
  have iB : IntsA Y2 (.slice (some ⟨d, A.length, none⟩) B.length 0) B := od2.intsP (by omega) 0
  have e69 := app_all o2 iB (by simp; omega)
  have el : (A ++ [x]).length = A.length + 1 := by simp
  rw [el] at e69
  have hlt := hb.lt
  refine ⟨Y2, _, e65, by rw [← hBl, ← L2]; exact e69, (hx2.dead (by omega)).one _ _, ?_, (hb2.deadP (by omega)).ext _, by omega⟩
  have := OwnR.at_end (Y2.set Y.length deadB) (A ++ [x] ++ B)
  rwa [List.length_set, L2] at this
set_option maxHeartbeats 4000000 in
theorem specStraight_rc (m : Mem) (v : Value) (L : List Pc) (h : PcsA m v L) : RC Try.prog 61 [v] m (AnsO m (PcsO 113 (strA L)) fun v => .tuple #[v, .bool (strOk L)]) := by
  refine rc_of_run mixed ok_spec_StraightLeads (by simp) (go_start _ _ _ ?_)
  have hl := h.len
  simp (config := {implicitDefEqProofs := false, maxDischargeDepth := 20}) (disch := first | omega | (simp only [lenE]; done) | (simp only [lenE]; omega) | rfl | (simp only [lenE, markR_len]; done) | (simp only [lenE, markR_len]; omega)) only [runE, mapE, listE, initT_5, initT_6, initT_7, initT_8, resV, oneV, binA, unA, reduceCtorEq, Nat.reduceEqDiff, Nat.reduceAdd, Nat.reduceLT, Nat.reduceLeDiff, Nat.reduceMul, Nat.reduceSub, ↓reduceIte, decide_true, decide_false, Bool.true_eq_false, Bool.false_eq_true, Bool.not_true, Bool.not_false, if_true, if_false, and_true, true_and, memE, celE, w64, Nat.zero_add, Nat.add_zero, Nat.mul_one, putL, and_self, ldn, c_spec_StraightLeads, r_spec_StraightLeads, bsl_no]
  obtain ⟨E, hE⟩ : ∃ E, E = roM m ++ [⟨.own, 113, []⟩] ++ [⟨.own, 3, []⟩] := ⟨_, rfl⟩
  have hX : Ext m E := by rw [hE]; exact ((Ext.refl m).one _ _).one _ _
  have b1 : OwnB E m.length 113 (pcsC []) := by rw [hE]; exact (OwnB.here (roM_len m).symm).ext _
  have o1 : OwnR E (m.length + 1) [] := by rw [hE]; exact OwnB.here (by simp [roM_len])
  try rw [← hE]
  clear hE
  have no : ∀ M id, Ext m M → OwnB M id 113 (pcsC []) → m.length ≤ id → strOk L = false → newQ m (AnsO m (PcsO 113 (strA L)) fun v => .tuple #[v, .bool (strOk L)]) (.tuple #[.slice (some ⟨id, 0, none⟩) 0 3, .bool false]) M := fun M id hM hb hid hno => by
    have e : strA L = [] := by unfold strA; rw [hno]; rfl
    rw [e, hno]
    exact ext_pcs (f := fun v => .tuple #[v, .bool false]) hM hb hid rfl (by simp)
  refine callH_rc (l11Parcels_rc _ _ L (hX.keeps.pcs h)) ?_
  rintro r n1 ⟨rfl, hn1⟩
  obtain ⟨E1, hE1⟩ : ∃ E1, E1 = E ++ n1 := ⟨_, rfl⟩
  have hX1 : Ext m E1 := by rw [hE1]; exact hX.app hn1
  have b2 : OwnB E1 m.length 113 (pcsC []) := by rw [hE1]; exact b1.ext _
  have o2 : OwnR E1 (m.length + 1) [] := by rw [hE1]; exact o1.ext _
  rw [← hE1]
  clear hE1 b1 o1 hX
  cases h1 : parB L with
  | false =>
    simp (config := {implicitDefEqProofs := false, maxDischargeDepth := 20}) (disch := first | omega | (simp only [lenE]; done) | (simp only [lenE]; omega) | rfl | (simp only [lenE, markR_len]; done) | (simp only [lenE, markR_len]; omega)) only [runE, mapE, listE, initT_5, initT_6, initT_7, initT_8, resV, oneV, binA, unA, reduceCtorEq, Nat.reduceEqDiff, Nat.reduceAdd, Nat.reduceLT, Nat.reduceLeDiff, Nat.reduceMul, Nat.reduceSub, ↓reduceIte, decide_true, decide_false, Bool.true_eq_false, Bool.false_eq_true, Bool.not_true, Bool.not_false, if_true, if_false, and_true, true_and, memE, celE, w64, Nat.zero_add, Nat.add_zero, Nat.mul_one, putL, and_self, ldn]
    exact no _ _ hX1 b2 (Nat.le_refl _) (by simp [strOk, h1])
  | true =>
  have hG := parB_iff.1 h1
  have hlen := hG.len
  have hDl := arrD_len L
  simp (config := {implicitDefEqProofs := false, maxDischargeDepth := 20}) (disch := first | omega | (simp only [lenE]; done) | (simp only [lenE]; omega) | rfl | (simp only [lenE, markR_len]; done) | (simp only [lenE, markR_len]; omega)) only [runE, mapE, listE, initT_5, initT_6, initT_7, initT_8, resV, oneV, binA, unA, reduceCtorEq, Nat.reduceEqDiff, Nat.reduceAdd, Nat.reduceLT, Nat.reduceLeDiff, Nat.reduceMul, Nat.reduceSub, ↓reduceIte, decide_true, decide_false, Bool.true_eq_false, Bool.false_eq_true, Bool.not_true, Bool.not_false, if_true, if_false, and_true, true_and, memE, celE, w64, Nat.zero_add, Nat.add_zero, Nat.mul_one, putL, and_self, ldn]
  refine loop_inv mixed (fun s => ∃ (i : Nat) (M : Mem) (d : Nat), i ≤ L.length ∧ s.m = M ∧ Ext m M ∧ m.length < d ∧ OwnB M m.length 113 (pcsC []) ∧ OwnR M d (insA (arrD L) i) ∧ s.t 0 = v ∧ s.t 4 = .slice (some ⟨m.length, 0, none⟩) 0 3 ∧ s.t 5 = .slice (some ⟨d, 0, none⟩) i 1 ∧ s.t 6 = .int .i64 i ∧ (∀ j, j < i → (L.getD j Pc0).amount = (L.getD 0 Pc0).amount)) (fun s => L.length - (intOf (s.t 6)).toNat)
    ⟨0, _, m.length + 1, by omega, rfl, hX1, by omega, b2, o2, rfl, rfl, rfl, rfl, fun j hj => absurd hj (by omega)⟩ ?_
  clear b2 o2 hX1
  rintro s ⟨i, M, d, hi, tm, hx, hd, hb, ho, t0, t4, t5, t6, hsame⟩
  by_cases hlt : i < L.length
  · have hlt' : (i : Int) < L.length := by omega
    have hM := hx.keeps.pcs h
    obtain ⟨p, hpp⟩ : ∃ p, p = L.getD i Pc0 := ⟨_, rfl⟩
    have hgp : GoodP11 p := hpp ▸ hG.all i hlt
    have gd := hgp.day
    have gl := hgp.lead
    have i1 := hM.at_ hlt
    have j1 : iadA 3 v (.int .i64 0) = some (pPc v 0) := hM.at_ (k := 0) (by omega)
    obtain ⟨q0, f0, g0⟩ := hM.fld hlt 0 (by decide)
    obtain ⟨q1, f1, g1⟩ := hM.fld hlt 1 (by decide)
    obtain ⟨q2, f2, g2⟩ := hM.fld hlt 2 (by decide)
    obtain ⟨q3, f3, g3⟩ := hM.fld (k := 0) (by omega) 1 (by decide)
    rw [← hpp] at g0 g1 g2
    replace g0 : ldA M none q0 = some (.int .i64 p.day) := g0
    replace g1 : ldA M none q1 = some (.int .i64 p.amount) := g1
    replace g2 : ldA M none q2 = some (.int .i64 p.lead) := g2
    replace g3 : ldA M none q3 = some (.int .i64 (L.getD 0 Pc0).amount) := g3
    obtain ⟨y, hy⟩ : ∃ y, y = (L.getD 0 Pc0).amount := ⟨_, rfl⟩
    rw [← hy] at g3 hsame
    by_cases hpy : p.amount = y
    · have hbn : (p.amount != y) = false := by rw [hpy]; exact bne_self_eq_false _
      obtain ⟨l, hll⟩ : ∃ l, l = insA (arrD L) i := ⟨_, rfl⟩
      have hln : l.length = i := by rw [hll]; exact insA_len _ i
      rw [← hll] at ho
      simp (config := {implicitDefEqProofs := false, maxDischargeDepth := 20}) (disch := first | omega | (simp only [lenE]; done) | (simp only [lenE]; omega) | rfl | (simp only [lenE, markR_len]; done) | (simp only [lenE, markR_len]; omega)) only [runE, mapE, listE, initT_5, initT_6, initT_7, initT_8, resV, oneV, binA, unA, reduceCtorEq, Nat.reduceEqDiff, Nat.reduceAdd, Nat.reduceLT, Nat.reduceLeDiff, Nat.reduceMul, Nat.reduceSub, ↓reduceIte, decide_true, decide_false, Bool.true_eq_false, Bool.false_eq_true, Bool.not_true, Bool.not_false, if_true, if_false, and_true, true_and, memE, celE, w64, Nat.zero_add, Nat.add_zero, Nat.mul_one, putL, and_self, ldn, tm, t0, t4, t5, t6, hl, hlt', i1, j1, f0, f1, f2, f3, g0, g1, g2, g3, hbn]
      refine loop_inv mixed (fun s => ∃ k : Nat, k ≤ i ∧ (∀ a, a < k → l.getD a 0 ≤ p.day + p.lead) ∧ s.m = M ∧ s.t 0 = v ∧ s.t 4 = .slice (some ⟨m.length, 0, none⟩) 0 3 ∧ s.t 5 = .slice (some ⟨d, 0, none⟩) i 1 ∧ s.t 6 = .int .i64 i ∧ s.t 7 = .int .i64 (p.day + p.lead) ∧ s.t 8 = .int .i64 k) (fun s => i - (intOf (s.t 8)).toNat)
        ⟨0, by omega, fun a ha => absurd ha (by omega), by simp only [put_t, put_t', put_m, putT_t, putT_t', putT_m, init_t, init_m, initT_0, initT_1, initT_2, initT_3, initT_4, initT_5, initT_6, initT_7, initT_8, Nat.reduceEqDiff, ↓reduceIte, tm], by simp only [put_t, put_t', put_m, putT_t, putT_t', putT_m, init_t, init_m, initT_0, initT_1, initT_2, initT_3, initT_4, initT_5, initT_6, initT_7, initT_8, Nat.reduceEqDiff, ↓reduceIte, t0], by simp only [put_t, put_t', put_m, putT_t, putT_t', putT_m, init_t, init_m, initT_0, initT_1, initT_2, initT_3, initT_4, initT_5, initT_6, initT_7, initT_8, Nat.reduceEqDiff, ↓reduceIte, t4], by simp only [put_t, put_t', put_m, putT_t, putT_t', putT_m, init_t, init_m, initT_0, initT_1, initT_2, initT_3, initT_4, initT_5, initT_6, initT_7, initT_8, Nat.reduceEqDiff, ↓reduceIte, t5], by simp only [put_t, put_t', put_m, putT_t, putT_t', putT_m, init_t, init_m, initT_0, initT_1, initT_2, initT_3, initT_4, initT_5, initT_6, initT_7, initT_8, Nat.reduceEqDiff, ↓reduceIte, t6], by simp only [put_t, put_t', put_m, putT_t, putT_t', putT_m, init_t, init_m, initT_0, initT_1, initT_2, initT_3, initT_4, initT_5, initT_6, initT_7, initT_8, Nat.reduceEqDiff, ↓reduceIte], by simp only [put_t, put_t', put_m, putT_t, putT_t', putT_m, init_t, init_m, initT_0, initT_1, initT_2, initT_3, initT_4, initT_5, initT_6, initT_7, initT_8, Nat.reduceEqDiff, ↓reduceIte]; simp⟩ ?_
      clear tm t0 t4 t5 t6
      rintro s ⟨k, hk, hle, tm, t0, t4, t5, t6, t7, t8⟩
      obtain ⟨x, hx7⟩ : ∃ x, x = p.day + p.lead := ⟨_, rfl⟩
      rw [← hx7] at t7 hle
      by_cases hgo : k < i ∧ l.getD k 0 ≤ x
      · have hki : (k : Int) < i := by omega
        have r1 := iad0 (id := d) (n := i) (fl := 1) (z := (k : Int)) rfl hgo.1
        have r2 := ho.rd' (i := k) (by omega)
        simp (config := {implicitDefEqProofs := false, maxDischargeDepth := 20}) (disch := first | omega | (simp only [lenE]; done) | (simp only [lenE]; omega) | rfl | (simp only [lenE, markR_len]; done) | (simp only [lenE, markR_len]; omega)) only [runE, mapE, listE, initT_5, initT_6, initT_7, initT_8, resV, oneV, binA, unA, reduceCtorEq, Nat.reduceEqDiff, Nat.reduceAdd, Nat.reduceLT, Nat.reduceLeDiff, Nat.reduceMul, Nat.reduceSub, ↓reduceIte, decide_true, decide_false, Bool.true_eq_false, Bool.false_eq_true, Bool.not_true, Bool.not_false, if_true, if_false, and_true, true_and, memE, celE, w64, Nat.zero_add, Nat.add_zero, Nat.mul_one, putL, and_self, ldn, tm, t0, t4, t5, t6, t7, t8, hki, r1, r2, hgo.2]
        refine ⟨⟨k + 1, by omega, fun a ha => ?_, by rw [hx7], by simp⟩, ?_⟩
        · rw [← hx7]
          by_cases e : a = k
          · subst e; exact hgo.2
          · exact hle a (by omega)
        · simp [intOf]; omega
      · have hkp : k = posP l x := posP_uniq (by omega) hle fun hk2 => by
          have : ¬ (l.getD k 0 ≤ x) := fun h => hgo ⟨by omega, h⟩
          omega
        have hS : insA (arrD L) (i + 1) = l.take k ++ [x] ++ l.drop k := by
          have e : insA (arrD L) (i + 1) = insP l ((arrD L).getD i 0) := by rw [hll]; rfl
          rw [e, arrD_at hlt, ← hpp, ← hx7]
          unfold insP
          rw [← hkp]; simp
        obtain ⟨A, hA⟩ : ∃ A, A = l.take k := ⟨_, rfl⟩
        obtain ⟨B, hB⟩ : ∃ B, B = l.drop k := ⟨_, rfl⟩
        have hAB : l = A ++ B := by rw [hA, hB, List.take_append_drop]
        have hAl : A.length = k := by rw [hA, List.length_take]; omega
        have hBl : B.length = i - k := by rw [hB, List.length_drop]; omega
        rw [← hA, ← hB] at hS
        have hsame' : ∀ j, j < i + 1 → (L.getD j Pc0).amount = y := fun j hj => by
          by_cases e : j = i
          · subst e; rw [← hpp]; exact hpy
          · exact hsame j (by omega)
        have c1 := slcTo (id := d) (n := i) (fl := 1) hk
        have c2 := slcFrom (id := d) (n := i) (fl := 1) hk
        by_cases hki : k < i
        · have hki' : (k : Int) < i := by omega
          have r1 := iad0 (id := d) (n := i) (fl := 1) (z := (k : Int)) rfl hki
          have r2 := ho.rd' (i := k) (by omega)
          have hng : ¬ (l.getD k 0 ≤ x) := fun h => hgo ⟨hki, h⟩
          simp (config := {implicitDefEqProofs := false, maxDischargeDepth := 20}) (disch := first | omega | (simp only [lenE]; done) | (simp only [lenE]; omega) | rfl | (simp only [lenE, markR_len]; done) | (simp only [lenE, markR_len]; omega)) only [runE, mapE, listE, initT_5, initT_6, initT_7, initT_8, resV, oneV, binA, unA, reduceCtorEq, Nat.reduceEqDiff, Nat.reduceAdd, Nat.reduceLT, Nat.reduceLeDiff, Nat.reduceMul, Nat.reduceSub, ↓reduceIte, decide_true, decide_false, Bool.true_eq_false, Bool.false_eq_true, Bool.not_true, Bool.not_false, if_true, if_false, and_true, true_and, memE, celE, w64, Nat.zero_add, Nat.add_zero, Nat.mul_one, putL, and_self, ldn, tm, t0, t4, t5, t6, t7, t8, hki', r1, r2, hng, c1, c2, Option.map_none, bsl_no, bsl_one]
          have hll := hx.len
          have hdl := ho.lt
          rw [hAB] at ho
          have oE : ∀ R, OwnR (M ++ R) d (A ++ B) := fun R => ho.ext R
          refine ⟨⟨?_, ?_⟩, ?_⟩
          · have o0 : OwnR (M ++ [(⟨.own, 3, []⟩ : Blk)]) (M.length) [] := by exact OwnB.here rfl
            have od0 : OwnR (M ++ [(⟨.own, 3, []⟩ : Blk)]) d (A ++ B) := by exact oE _
            have hb0 : OwnB (M ++ [(⟨.own, 3, []⟩ : Blk)]) m.length 113 (pcsC []) := by exact hb.ext _
            have hx0 : Ext m (M ++ [(⟨.own, 3, []⟩ : Blk)]) := by exact hx.one _ _
            have iA : IntsA (M ++ [(⟨.own, 3, []⟩ : Blk)]) (.slice (some ⟨d, 0, none⟩) k 1) A := by rw [← hAl]; exact od0.pre (by omega) 1
            have h62 := app_all (l0 := []) o0 iA (by simp; omega)
            have od1 := od0.set_ne (b := deadB) (show M.length ≠ d by omega)
            have hb1 := hb0.deadP (show M.length ≠ m.length by omega)
            have hx1 := hx0.dead (show m.length ≤ M.length by omega)
            obtain ⟨Z, hZ⟩ : ∃ Z, Z = (M ++ [(⟨.own, 3, []⟩ : Blk)]).set (M.length) deadB ++ [⟨.own, 3, ([] ++ A).map (Value.int .i64)⟩] := ⟨_, rfl⟩
            have LZ : Z.length = M.length + 1 + 1 := by rw [hZ]; simp
            have oa : OwnR Z (M.length + 1) A := by rw [hZ]; exact OwnB.here (by simp)
            have odZ : OwnR Z d (A ++ B) := by rw [hZ]; exact od1.ext _
            have hbZ : OwnB Z m.length 113 (pcsC []) := by rw [hZ]; exact hb1.ext _
            have hxZ : Ext m Z := by rw [hZ]; exact hx1.one _ _
            rw [← hZ] at h62
            have h62b : appP (M ++ [(⟨.own, 3, []⟩ : Blk)]) 3 1 8 (.slice (some ⟨M.length, 0, none⟩) 0 1) (.slice (some ⟨d, 0, none⟩) k 1) = some (.slice (some ⟨M.length + 1, 0, none⟩) k 1, Z) := by rw [show (.slice (some ⟨M.length, 0, none⟩) 0 1 : Value) = .slice (some ⟨M.length, 0, none⟩) ([] : List Int).length 1 from rfl, h62]; simp [hAl]
            clear hZ h62
            obtain ⟨Y2, Y3, h65, h69, hx3, o3, hb3, hy3⟩ := insM (i := i) (y := Z.length + 1) (hxZ.one 3 [.int .i64 x]) (show m.length < M.length + 1 by omega) (oa.ext _) (show OwnR (Z ++ [(⟨.own, 3, [.int .i64 x]⟩ : Blk)]) Z.length [x] from OwnB.here rfl) (odZ.ext _) (show M.length + 1 ≠ d by omega) hAl hBl (by omega) hk (by simp) (hbZ.ext _)
            simp (config := {implicitDefEqProofs := false, maxDischargeDepth := 20}) (disch := first | omega | (simp only [lenE]; done) | (simp only [lenE]; omega) | rfl | (simp only [lenE, markR_len]; done) | (simp only [lenE, markR_len]; omega)) only [runE, mapE, listE, initT_5, initT_6, initT_7, initT_8, resV, oneV, binA, unA, reduceCtorEq, Nat.reduceEqDiff, Nat.reduceAdd, Nat.reduceLT, Nat.reduceLeDiff, Nat.reduceMul, Nat.reduceSub, ↓reduceIte, decide_true, decide_false, Bool.true_eq_false, Bool.false_eq_true, Bool.not_true, Bool.not_false, if_true, if_false, and_true, true_and, memE, celE, w64, Nat.zero_add, Nat.add_zero, Nat.mul_one, putL, and_self, ldn, h62b, bsl_one, h65, h69, t0, t4, t6]
            refine ⟨⟨i + 1, _, _, by omega, rfl, hx3, hy3, hb3, by rw [hS]; exact o3, ?_, by simp, fun j hj => by rw [hsame' j hj, hy]⟩, ?_⟩
            · congr 1; omega
            · simp [intOf]; omega
          · have o0 : OwnR (M ++ [(⟨.own, 3, []⟩ : Blk)] ++ [(⟨.own, 3, [.int .i64 x]⟩ : Blk)]) (M.length) [] := by exact OwnR.ext (show OwnR (M ++ [(⟨.own, 3, []⟩ : Blk)]) M.length [] from OwnB.here rfl) _
            have od0 : OwnR (M ++ [(⟨.own, 3, []⟩ : Blk)] ++ [(⟨.own, 3, [.int .i64 x]⟩ : Blk)]) d (A ++ B) := by exact (oE _).ext _
            have hb0 : OwnB (M ++ [(⟨.own, 3, []⟩ : Blk)] ++ [(⟨.own, 3, [.int .i64 x]⟩ : Blk)]) m.length 113 (pcsC []) := by exact (hb.ext _).ext _
            have hx0 : Ext m (M ++ [(⟨.own, 3, []⟩ : Blk)] ++ [(⟨.own, 3, [.int .i64 x]⟩ : Blk)]) := by exact (hx.one _ _).one _ _
            have ox0 : OwnR (M ++ [(⟨.own, 3, []⟩ : Blk)] ++ [(⟨.own, 3, [.int .i64 x]⟩ : Blk)]) (M.length + 1) [x] := by exact OwnB.here (by simp)
            have iA : IntsA (M ++ [(⟨.own, 3, []⟩ : Blk)] ++ [(⟨.own, 3, [.int .i64 x]⟩ : Blk)]) (.slice (some ⟨d, 0, none⟩) k 1) A := by rw [← hAl]; exact od0.pre (by omega) 1
            have h62 := app_all (l0 := []) o0 iA (by simp; omega)
            have od1 := od0.set_ne (b := deadB) (show M.length ≠ d by omega)
            have hb1 := hb0.deadP (show M.length ≠ m.length by omega)
            have hx1 := hx0.dead (show m.length ≤ M.length by omega)
            have ox1 := ox0.set_ne (b := deadB) (show M.length ≠ M.length + 1 by omega)
            obtain ⟨Z, hZ⟩ : ∃ Z, Z = (M ++ [(⟨.own, 3, []⟩ : Blk)] ++ [(⟨.own, 3, [.int .i64 x]⟩ : Blk)]).set (M.length) deadB ++ [⟨.own, 3, ([] ++ A).map (Value.int .i64)⟩] := ⟨_, rfl⟩
            have LZ : Z.length = M.length + 1 + 1 + 1 := by rw [hZ]; simp
            have oa : OwnR Z (M.length + 1 + 1) A := by rw [hZ]; exact OwnB.here (by simp)
            have odZ : OwnR Z d (A ++ B) := by rw [hZ]; exact od1.ext _
            have hbZ : OwnB Z m.length 113 (pcsC []) := by rw [hZ]; exact hb1.ext _
            have hxZ : Ext m Z := by rw [hZ]; exact hx1.one _ _
            have oxZ : OwnR Z (M.length + 1) [x] := by rw [hZ]; exact ox1.ext _
            rw [← hZ] at h62
            have h62b : appP (M ++ [(⟨.own, 3, []⟩ : Blk)] ++ [(⟨.own, 3, [.int .i64 x]⟩ : Blk)]) 3 1 8 (.slice (some ⟨M.length, 0, none⟩) 0 1) (.slice (some ⟨d, 0, none⟩) k 1) = some (.slice (some ⟨M.length + 1 + 1, 0, none⟩) k 1, Z) := by rw [show (.slice (some ⟨M.length, 0, none⟩) 0 1 : Value) = .slice (some ⟨M.length, 0, none⟩) ([] : List Int).length 1 from rfl, h62]; simp [hAl]
            clear hZ h62
            obtain ⟨Y2, Y3, h65, h69, hx3, o3, hb3, hy3⟩ := insM (i := i) (y := Z.length) hxZ (show m.length < M.length + 1 + 1 by omega) oa oxZ odZ (show M.length + 1 + 1 ≠ d by omega) hAl hBl (by omega) hk rfl hbZ
            simp (config := {implicitDefEqProofs := false, maxDischargeDepth := 20}) (disch := first | omega | (simp only [lenE]; done) | (simp only [lenE]; omega) | rfl | (simp only [lenE, markR_len]; done) | (simp only [lenE, markR_len]; omega)) only [runE, mapE, listE, initT_5, initT_6, initT_7, initT_8, resV, oneV, binA, unA, reduceCtorEq, Nat.reduceEqDiff, Nat.reduceAdd, Nat.reduceLT, Nat.reduceLeDiff, Nat.reduceMul, Nat.reduceSub, ↓reduceIte, decide_true, decide_false, Bool.true_eq_false, Bool.false_eq_true, Bool.not_true, Bool.not_false, if_true, if_false, and_true, true_and, memE, celE, w64, Nat.zero_add, Nat.add_zero, Nat.mul_one, putL, and_self, ldn, h62b, bsl_one, h65, h69, t0, t4, t6]
            refine ⟨⟨i + 1, _, _, by omega, rfl, hx3, hy3, hb3, by rw [hS]; exact o3, ?_, by simp, fun j hj => by rw [hsame' j hj, hy]⟩, ?_⟩
            · congr 1; omega
            · simp [intOf]; omega
          · have o0 : OwnR (M ++ [(⟨.own, 3, [.int .i64 x]⟩ : Blk)] ++ [(⟨.own, 3, []⟩ : Blk)]) (M.length + 1) [] := by exact OwnB.here (by simp)
            have od0 : OwnR (M ++ [(⟨.own, 3, [.int .i64 x]⟩ : Blk)] ++ [(⟨.own, 3, []⟩ : Blk)]) d (A ++ B) := by exact (oE _).ext _
            have hb0 : OwnB (M ++ [(⟨.own, 3, [.int .i64 x]⟩ : Blk)] ++ [(⟨.own, 3, []⟩ : Blk)]) m.length 113 (pcsC []) := by exact (hb.ext _).ext _
            have hx0 : Ext m (M ++ [(⟨.own, 3, [.int .i64 x]⟩ : Blk)] ++ [(⟨.own, 3, []⟩ : Blk)]) := by exact (hx.one _ _).one _ _
            have ox0 : OwnR (M ++ [(⟨.own, 3, [.int .i64 x]⟩ : Blk)] ++ [(⟨.own, 3, []⟩ : Blk)]) (M.length) [x] := by exact OwnR.ext (show OwnR (M ++ [(⟨.own, 3, [.int .i64 x]⟩ : Blk)]) M.length [x] from OwnB.here rfl) _
            have iA : IntsA (M ++ [(⟨.own, 3, [.int .i64 x]⟩ : Blk)] ++ [(⟨.own, 3, []⟩ : Blk)]) (.slice (some ⟨d, 0, none⟩) k 1) A := by rw [← hAl]; exact od0.pre (by omega) 1
            have h62 := app_all (l0 := []) o0 iA (by simp; omega)
            have od1 := od0.set_ne (b := deadB) (show M.length + 1 ≠ d by omega)
            have hb1 := hb0.deadP (show M.length + 1 ≠ m.length by omega)
            have hx1 := hx0.dead (show m.length ≤ M.length + 1 by omega)
            have ox1 := ox0.set_ne (b := deadB) (show M.length + 1 ≠ M.length by omega)
            obtain ⟨Z, hZ⟩ : ∃ Z, Z = (M ++ [(⟨.own, 3, [.int .i64 x]⟩ : Blk)] ++ [(⟨.own, 3, []⟩ : Blk)]).set (M.length + 1) deadB ++ [⟨.own, 3, ([] ++ A).map (Value.int .i64)⟩] := ⟨_, rfl⟩
            have LZ : Z.length = M.length + 1 + 1 + 1 := by rw [hZ]; simp
            have oa : OwnR Z (M.length + 1 + 1) A := by rw [hZ]; exact OwnB.here (by simp)
            have odZ : OwnR Z d (A ++ B) := by rw [hZ]; exact od1.ext _
            have hbZ : OwnB Z m.length 113 (pcsC []) := by rw [hZ]; exact hb1.ext _
            have hxZ : Ext m Z := by rw [hZ]; exact hx1.one _ _
            have oxZ : OwnR Z (M.length) [x] := by rw [hZ]; exact ox1.ext _
            rw [← hZ] at h62
            have h62b : appP (M ++ [(⟨.own, 3, [.int .i64 x]⟩ : Blk)] ++ [(⟨.own, 3, []⟩ : Blk)]) 3 1 8 (.slice (some ⟨M.length + 1, 0, none⟩) 0 1) (.slice (some ⟨d, 0, none⟩) k 1) = some (.slice (some ⟨M.length + 1 + 1, 0, none⟩) k 1, Z) := by rw [show (.slice (some ⟨M.length + 1, 0, none⟩) 0 1 : Value) = .slice (some ⟨M.length + 1, 0, none⟩) ([] : List Int).length 1 from rfl, h62]; simp [hAl]
            clear hZ h62
            obtain ⟨Y2, Y3, h65, h69, hx3, o3, hb3, hy3⟩ := insM (i := i) (y := Z.length) hxZ (show m.length < M.length + 1 + 1 by omega) oa oxZ odZ (show M.length + 1 + 1 ≠ d by omega) hAl hBl (by omega) hk rfl hbZ
            simp (config := {implicitDefEqProofs := false, maxDischargeDepth := 20}) (disch := first | omega | (simp only [lenE]; done) | (simp only [lenE]; omega) | rfl | (simp only [lenE, markR_len]; done) | (simp only [lenE, markR_len]; omega)) only [runE, mapE, listE, initT_5, initT_6, initT_7, initT_8, resV, oneV, binA, unA, reduceCtorEq, Nat.reduceEqDiff, Nat.reduceAdd, Nat.reduceLT, Nat.reduceLeDiff, Nat.reduceMul, Nat.reduceSub, ↓reduceIte, decide_true, decide_false, Bool.true_eq_false, Bool.false_eq_true, Bool.not_true, Bool.not_false, if_true, if_false, and_true, true_and, memE, celE, w64, Nat.zero_add, Nat.add_zero, Nat.mul_one, putL, and_self, ldn, h62b, bsl_one, h65, h69, t0, t4, t6]
            refine ⟨⟨i + 1, _, _, by omega, rfl, hx3, hy3, hb3, by rw [hS]; exact o3, ?_, by simp, fun j hj => by rw [hsame' j hj, hy]⟩, ?_⟩
            · congr 1; omega
            · simp [intOf]; omega
        · have hki' : ¬ ((k : Int) < i) := by omega
          simp (config := {implicitDefEqProofs := false, maxDischargeDepth := 20}) (disch := first | omega | (simp only [lenE]; done) | (simp only [lenE]; omega) | rfl | (simp only [lenE, markR_len]; done) | (simp only [lenE, markR_len]; omega)) only [runE, mapE, listE, initT_5, initT_6, initT_7, initT_8, resV, oneV, binA, unA, reduceCtorEq, Nat.reduceEqDiff, Nat.reduceAdd, Nat.reduceLT, Nat.reduceLeDiff, Nat.reduceMul, Nat.reduceSub, ↓reduceIte, decide_true, decide_false, Bool.true_eq_false, Bool.false_eq_true, Bool.not_true, Bool.not_false, if_true, if_false, and_true, true_and, memE, celE, w64, Nat.zero_add, Nat.add_zero, Nat.mul_one, putL, and_self, ldn, tm, t0, t4, t5, t6, t7, t8, hki', c1, c2, Option.map_none, bsl_no, bsl_one]
          have hll := hx.len
          have hdl := ho.lt
          rw [hAB] at ho
          have oE : ∀ R, OwnR (M ++ R) d (A ++ B) := fun R => ho.ext R
          refine ⟨⟨?_, ?_⟩, ?_⟩
          · have o0 : OwnR (M ++ [(⟨.own, 3, []⟩ : Blk)]) (M.length) [] := by exact OwnB.here rfl
            have od0 : OwnR (M ++ [(⟨.own, 3, []⟩ : Blk)]) d (A ++ B) := by exact oE _
            have hb0 : OwnB (M ++ [(⟨.own, 3, []⟩ : Blk)]) m.length 113 (pcsC []) := by exact hb.ext _
            have hx0 : Ext m (M ++ [(⟨.own, 3, []⟩ : Blk)]) := by exact hx.one _ _
            have iA : IntsA (M ++ [(⟨.own, 3, []⟩ : Blk)]) (.slice (some ⟨d, 0, none⟩) k 1) A := by rw [← hAl]; exact od0.pre (by omega) 1
            have h62 := app_all (l0 := []) o0 iA (by simp; omega)
            have od1 := od0.set_ne (b := deadB) (show M.length ≠ d by omega)
            have hb1 := hb0.deadP (show M.length ≠ m.length by omega)
            have hx1 := hx0.dead (show m.length ≤ M.length by omega)
            obtain ⟨Z, hZ⟩ : ∃ Z, Z = (M ++ [(⟨.own, 3, []⟩ : Blk)]).set (M.length) deadB ++ [⟨.own, 3, ([] ++ A).map (Value.int .i64)⟩] := ⟨_, rfl⟩
            have LZ : Z.length = M.length + 1 + 1 := by rw [hZ]; simp
            have oa : OwnR Z (M.length + 1) A := by rw [hZ]; exact OwnB.here (by simp)
            have odZ : OwnR Z d (A ++ B) := by rw [hZ]; exact od1.ext _
            have hbZ : OwnB Z m.length 113 (pcsC []) := by rw [hZ]; exact hb1.ext _
            have hxZ : Ext m Z := by rw [hZ]; exact hx1.one _ _
            rw [← hZ] at h62
            have h62b : appP (M ++ [(⟨.own, 3, []⟩ : Blk)]) 3 1 8 (.slice (some ⟨M.length, 0, none⟩) 0 1) (.slice (some ⟨d, 0, none⟩) k 1) = some (.slice (some ⟨M.length + 1, 0, none⟩) k 1, Z) := by rw [show (.slice (some ⟨M.length, 0, none⟩) 0 1 : Value) = .slice (some ⟨M.length, 0, none⟩) ([] : List Int).length 1 from rfl, h62]; simp [hAl]
            clear hZ h62
            obtain ⟨Y2, Y3, h65, h69, hx3, o3, hb3, hy3⟩ := insM (i := i) (y := Z.length + 1) (hxZ.one 3 [.int .i64 x]) (show m.length < M.length + 1 by omega) (oa.ext _) (show OwnR (Z ++ [(⟨.own, 3, [.int .i64 x]⟩ : Blk)]) Z.length [x] from OwnB.here rfl) (odZ.ext _) (show M.length + 1 ≠ d by omega) hAl hBl (by omega) hk (by simp) (hbZ.ext _)
            simp (config := {implicitDefEqProofs := false, maxDischargeDepth := 20}) (disch := first | omega | (simp only [lenE]; done) | (simp only [lenE]; omega) | rfl | (simp only [lenE, markR_len]; done) | (simp only [lenE, markR_len]; omega)) only [runE, mapE, listE, initT_5, initT_6, initT_7, initT_8, resV, oneV, binA, unA, reduceCtorEq, Nat.reduceEqDiff, Nat.reduceAdd, Nat.reduceLT, Nat.reduceLeDiff, Nat.reduceMul, Nat.reduceSub, ↓reduceIte, decide_true, decide_false, Bool.true_eq_false, Bool.false_eq_true, Bool.not_true, Bool.not_false, if_true, if_false, and_true, true_and, memE, celE, w64, Nat.zero_add, Nat.add_zero, Nat.mul_one, putL, and_self, ldn, h62b, bsl_one, h65, h69, t0, t4, t6]
            refine ⟨⟨i + 1, _, _, by omega, rfl, hx3, hy3, hb3, by rw [hS]; exact o3, ?_, by simp, fun j hj => by rw [hsame' j hj, hy]⟩, ?_⟩
            · congr 1; omega
            · simp [intOf]; omega
          · have o0 : OwnR (M ++ [(⟨.own, 3, []⟩ : Blk)] ++ [(⟨.own, 3, [.int .i64 x]⟩ : Blk)]) (M.length) [] := by exact OwnR.ext (show OwnR (M ++ [(⟨.own, 3, []⟩ : Blk)]) M.length [] from OwnB.here rfl) _
            have od0 : OwnR (M ++ [(⟨.own, 3, []⟩ : Blk)] ++ [(⟨.own, 3, [.int .i64 x]⟩ : Blk)]) d (A ++ B) := by exact (oE _).ext _
            have hb0 : OwnB (M ++ [(⟨.own, 3, []⟩ : Blk)] ++ [(⟨.own, 3, [.int .i64 x]⟩ : Blk)]) m.length 113 (pcsC []) := by exact (hb.ext _).ext _
            have hx0 : Ext m (M ++ [(⟨.own, 3, []⟩ : Blk)] ++ [(⟨.own, 3, [.int .i64 x]⟩ : Blk)]) := by exact (hx.one _ _).one _ _
            have ox0 : OwnR (M ++ [(⟨.own, 3, []⟩ : Blk)] ++ [(⟨.own, 3, [.int .i64 x]⟩ : Blk)]) (M.length + 1) [x] := by exact OwnB.here (by simp)
            have iA : IntsA (M ++ [(⟨.own, 3, []⟩ : Blk)] ++ [(⟨.own, 3, [.int .i64 x]⟩ : Blk)]) (.slice (some ⟨d, 0, none⟩) k 1) A := by rw [← hAl]; exact od0.pre (by omega) 1
            have h62 := app_all (l0 := []) o0 iA (by simp; omega)
            have od1 := od0.set_ne (b := deadB) (show M.length ≠ d by omega)
            have hb1 := hb0.deadP (show M.length ≠ m.length by omega)
            have hx1 := hx0.dead (show m.length ≤ M.length by omega)
            have ox1 := ox0.set_ne (b := deadB) (show M.length ≠ M.length + 1 by omega)
            obtain ⟨Z, hZ⟩ : ∃ Z, Z = (M ++ [(⟨.own, 3, []⟩ : Blk)] ++ [(⟨.own, 3, [.int .i64 x]⟩ : Blk)]).set (M.length) deadB ++ [⟨.own, 3, ([] ++ A).map (Value.int .i64)⟩] := ⟨_, rfl⟩
            have LZ : Z.length = M.length + 1 + 1 + 1 := by rw [hZ]; simp
            have oa : OwnR Z (M.length + 1 + 1) A := by rw [hZ]; exact OwnB.here (by simp)
            have odZ : OwnR Z d (A ++ B) := by rw [hZ]; exact od1.ext _
            have hbZ : OwnB Z m.length 113 (pcsC []) := by rw [hZ]; exact hb1.ext _
            have hxZ : Ext m Z := by rw [hZ]; exact hx1.one _ _
            have oxZ : OwnR Z (M.length + 1) [x] := by rw [hZ]; exact ox1.ext _
            rw [← hZ] at h62
            have h62b : appP (M ++ [(⟨.own, 3, []⟩ : Blk)] ++ [(⟨.own, 3, [.int .i64 x]⟩ : Blk)]) 3 1 8 (.slice (some ⟨M.length, 0, none⟩) 0 1) (.slice (some ⟨d, 0, none⟩) k 1) = some (.slice (some ⟨M.length + 1 + 1, 0, none⟩) k 1, Z) := by rw [show (.slice (some ⟨M.length, 0, none⟩) 0 1 : Value) = .slice (some ⟨M.length, 0, none⟩) ([] : List Int).length 1 from rfl, h62]; simp [hAl]
            clear hZ h62
            obtain ⟨Y2, Y3, h65, h69, hx3, o3, hb3, hy3⟩ := insM (i := i) (y := Z.length) hxZ (show m.length < M.length + 1 + 1 by omega) oa oxZ odZ (show M.length + 1 + 1 ≠ d by omega) hAl hBl (by omega) hk rfl hbZ
            simp (config := {implicitDefEqProofs := false, maxDischargeDepth := 20}) (disch := first | omega | (simp only [lenE]; done) | (simp only [lenE]; omega) | rfl | (simp only [lenE, markR_len]; done) | (simp only [lenE, markR_len]; omega)) only [runE, mapE, listE, initT_5, initT_6, initT_7, initT_8, resV, oneV, binA, unA, reduceCtorEq, Nat.reduceEqDiff, Nat.reduceAdd, Nat.reduceLT, Nat.reduceLeDiff, Nat.reduceMul, Nat.reduceSub, ↓reduceIte, decide_true, decide_false, Bool.true_eq_false, Bool.false_eq_true, Bool.not_true, Bool.not_false, if_true, if_false, and_true, true_and, memE, celE, w64, Nat.zero_add, Nat.add_zero, Nat.mul_one, putL, and_self, ldn, h62b, bsl_one, h65, h69, t0, t4, t6]
            refine ⟨⟨i + 1, _, _, by omega, rfl, hx3, hy3, hb3, by rw [hS]; exact o3, ?_, by simp, fun j hj => by rw [hsame' j hj, hy]⟩, ?_⟩
            · congr 1; omega
            · simp [intOf]; omega
          · have o0 : OwnR (M ++ [(⟨.own, 3, [.int .i64 x]⟩ : Blk)] ++ [(⟨.own, 3, []⟩ : Blk)]) (M.length + 1) [] := by exact OwnB.here (by simp)
            have od0 : OwnR (M ++ [(⟨.own, 3, [.int .i64 x]⟩ : Blk)] ++ [(⟨.own, 3, []⟩ : Blk)]) d (A ++ B) := by exact (oE _).ext _
            have hb0 : OwnB (M ++ [(⟨.own, 3, [.int .i64 x]⟩ : Blk)] ++ [(⟨.own, 3, []⟩ : Blk)]) m.length 113 (pcsC []) := by exact (hb.ext _).ext _
            have hx0 : Ext m (M ++ [(⟨.own, 3, [.int .i64 x]⟩ : Blk)] ++ [(⟨.own, 3, []⟩ : Blk)]) := by exact (hx.one _ _).one _ _
            have ox0 : OwnR (M ++ [(⟨.own, 3, [.int .i64 x]⟩ : Blk)] ++ [(⟨.own, 3, []⟩ : Blk)]) (M.length) [x] := by exact OwnR.ext (show OwnR (M ++ [(⟨.own, 3, [.int .i64 x]⟩ : Blk)]) M.length [x] from OwnB.here rfl) _
            have iA : IntsA (M ++ [(⟨.own, 3, [.int .i64 x]⟩ : Blk)] ++ [(⟨.own, 3, []⟩ : Blk)]) (.slice (some ⟨d, 0, none⟩) k 1) A := by rw [← hAl]; exact od0.pre (by omega) 1
            have h62 := app_all (l0 := []) o0 iA (by simp; omega)
            have od1 := od0.set_ne (b := deadB) (show M.length + 1 ≠ d by omega)
            have hb1 := hb0.deadP (show M.length + 1 ≠ m.length by omega)
            have hx1 := hx0.dead (show m.length ≤ M.length + 1 by omega)
            have ox1 := ox0.set_ne (b := deadB) (show M.length + 1 ≠ M.length by omega)
            obtain ⟨Z, hZ⟩ : ∃ Z, Z = (M ++ [(⟨.own, 3, [.int .i64 x]⟩ : Blk)] ++ [(⟨.own, 3, []⟩ : Blk)]).set (M.length + 1) deadB ++ [⟨.own, 3, ([] ++ A).map (Value.int .i64)⟩] := ⟨_, rfl⟩
            have LZ : Z.length = M.length + 1 + 1 + 1 := by rw [hZ]; simp
            have oa : OwnR Z (M.length + 1 + 1) A := by rw [hZ]; exact OwnB.here (by simp)
            have odZ : OwnR Z d (A ++ B) := by rw [hZ]; exact od1.ext _
            have hbZ : OwnB Z m.length 113 (pcsC []) := by rw [hZ]; exact hb1.ext _
            have hxZ : Ext m Z := by rw [hZ]; exact hx1.one _ _
            have oxZ : OwnR Z (M.length) [x] := by rw [hZ]; exact ox1.ext _
            rw [← hZ] at h62
            have h62b : appP (M ++ [(⟨.own, 3, [.int .i64 x]⟩ : Blk)] ++ [(⟨.own, 3, []⟩ : Blk)]) 3 1 8 (.slice (some ⟨M.length + 1, 0, none⟩) 0 1) (.slice (some ⟨d, 0, none⟩) k 1) = some (.slice (some ⟨M.length + 1 + 1, 0, none⟩) k 1, Z) := by rw [show (.slice (some ⟨M.length + 1, 0, none⟩) 0 1 : Value) = .slice (some ⟨M.length + 1, 0, none⟩) ([] : List Int).length 1 from rfl, h62]; simp [hAl]
            clear hZ h62
            obtain ⟨Y2, Y3, h65, h69, hx3, o3, hb3, hy3⟩ := insM (i := i) (y := Z.length) hxZ (show m.length < M.length + 1 + 1 by omega) oa oxZ odZ (show M.length + 1 + 1 ≠ d by omega) hAl hBl (by omega) hk rfl hbZ
            simp (config := {implicitDefEqProofs := false, maxDischargeDepth := 20}) (disch := first | omega | (simp only [lenE]; done) | (simp only [lenE]; omega) | rfl | (simp only [lenE, markR_len]; done) | (simp only [lenE, markR_len]; omega)) only [runE, mapE, listE, initT_5, initT_6, initT_7, initT_8, resV, oneV, binA, unA, reduceCtorEq, Nat.reduceEqDiff, Nat.reduceAdd, Nat.reduceLT, Nat.reduceLeDiff, Nat.reduceMul, Nat.reduceSub, ↓reduceIte, decide_true, decide_false, Bool.true_eq_false, Bool.false_eq_true, Bool.not_true, Bool.not_false, if_true, if_false, and_true, true_and, memE, celE, w64, Nat.zero_add, Nat.add_zero, Nat.mul_one, putL, and_self, ldn, h62b, bsl_one, h65, h69, t0, t4, t6]
            refine ⟨⟨i + 1, _, _, by omega, rfl, hx3, hy3, hb3, by rw [hS]; exact o3, ?_, by simp, fun j hj => by rw [hsame' j hj, hy]⟩, ?_⟩
            · congr 1; omega
            · simp [intOf]; omega
    · have hbn : (p.amount != y) = true := by simp [hpy]
      simp (config := {implicitDefEqProofs := false, maxDischargeDepth := 20}) (disch := first | omega | (simp only [lenE]; done) | (simp only [lenE]; omega) | rfl | (simp only [lenE, markR_len]; done) | (simp only [lenE, markR_len]; omega)) only [runE, mapE, listE, initT_5, initT_6, initT_7, initT_8, resV, oneV, binA, unA, reduceCtorEq, Nat.reduceEqDiff, Nat.reduceAdd, Nat.reduceLT, Nat.reduceLeDiff, Nat.reduceMul, Nat.reduceSub, ↓reduceIte, decide_true, decide_false, Bool.true_eq_false, Bool.false_eq_true, Bool.not_true, Bool.not_false, if_true, if_false, and_true, true_and, memE, celE, w64, Nat.zero_add, Nat.add_zero, Nat.mul_one, putL, and_self, ldn, tm, t0, t4, t5, t6, hl, hlt', i1, j1, f1, f3, g1, g3, hbn, bsl_no]
      refine no _ _ (hx.one _ _) (OwnB.here rfl) hx.len ?_
      have : sameB L = false := by
        cases hs : sameB L with
        | false => rfl
        | true =>
          unfold sameB at hs
          rw [List.all_eq_true] at hs
          have := hs (L.getD i Pc0) (by rw [List.getD_eq_getElem?_getD, List.getElem?_eq_getElem hlt]; exact List.getElem_mem hlt)
          rw [← hpp, ← hy] at this
          exact absurd (by simpa using this) hpy
      simp [strOk, this]
  · have hlt' : ¬ ((i : Int) < L.length) := by omega
    obtain rfl : i = L.length := by omega
    have h2 : sameB L = true := by
      unfold sameB
      rw [List.all_eq_true]
      intro p hp
      obtain ⟨k, hk, rfl⟩ := List.getElem_of_mem hp
      have := hsame k hk
      rw [List.getD_eq_getElem?_getD, List.getElem?_eq_getElem hk] at this
      simpa using this
    have hok : strOk L = true := by simp [strOk, h1, h2]
    have eS : strA L = strTo L L.length := by unfold strA; rw [hok]; rfl
    rw [eS, hok]
    have hSl := insA_len (arrD L) L.length
    simp (config := {implicitDefEqProofs := false, maxDischargeDepth := 20}) (disch := first | omega | (simp only [lenE]; done) | (simp only [lenE]; omega) | rfl | (simp only [lenE, markR_len]; done) | (simp only [lenE, markR_len]; omega)) only [runE, mapE, listE, initT_5, initT_6, initT_7, initT_8, resV, oneV, binA, unA, reduceCtorEq, Nat.reduceEqDiff, Nat.reduceAdd, Nat.reduceLT, Nat.reduceLeDiff, Nat.reduceMul, Nat.reduceSub, ↓reduceIte, decide_true, decide_false, Bool.true_eq_false, Bool.false_eq_true, Bool.not_true, Bool.not_false, if_true, if_false, and_true, true_and, memE, celE, w64, Nat.zero_add, Nat.add_zero, Nat.mul_one, putL, and_self, ldn, tm, t0, t4, t5, t6, hl, hlt']
    refine loop_inv mixed (fun s => ∃ (k : Nat) (M : Mem) (id : Nat), k ≤ L.length ∧ s.m = M ∧ Ext m M ∧ m.length ≤ id ∧ OwnB M id 113 (pcsC (strTo L k)) ∧ OwnR M d (insA (arrD L) L.length) ∧ s.t 0 = v ∧ s.t 4 = .slice (some ⟨id, 0, none⟩) k 3 ∧ s.t 5 = .slice (some ⟨d, 0, none⟩) L.length 1 ∧ s.t 9 = .int .i64 k) (fun s => L.length - (intOf (s.t 9)).toNat)
      ⟨0, M, m.length, by omega, by simp only [put_t, put_t', put_m, putT_t, putT_t', putT_m, init_t, init_m, initT_0, initT_1, initT_2, initT_3, initT_4, initT_5, initT_6, initT_7, initT_8, Nat.reduceEqDiff, ↓reduceIte, tm], hx, Nat.le_refl _, hb, ho, by simp only [put_t, put_t', put_m, putT_t, putT_t', putT_m, init_t, init_m, initT_0, initT_1, initT_2, initT_3, initT_4, initT_5, initT_6, initT_7, initT_8, Nat.reduceEqDiff, ↓reduceIte, t0], by simp only [put_t, put_t', put_m, putT_t, putT_t', putT_m, init_t, init_m, initT_0, initT_1, initT_2, initT_3, initT_4, initT_5, initT_6, initT_7, initT_8, Nat.reduceEqDiff, ↓reduceIte, t4], by simp only [put_t, put_t', put_m, putT_t, putT_t', putT_m, init_t, init_m, initT_0, initT_1, initT_2, initT_3, initT_4, initT_5, initT_6, initT_7, initT_8, Nat.reduceEqDiff, ↓reduceIte, t5], by simp only [put_t, put_t', put_m, putT_t, putT_t', putT_m, init_t, init_m, initT_0, initT_1, initT_2, initT_3, initT_4, initT_5, initT_6, initT_7, initT_8, Nat.reduceEqDiff, ↓reduceIte]; simp⟩ ?_
    clear tm t0 t4 t5 t6 hx hb ho
    rintro s ⟨k, M, id, hk, tm, hx, hid, ho, ha, t0, t4, t5, t9⟩
    by_cases hlt : k < L.length
    · have hlt' : (k : Int) < L.length := by omega
      have hM := hx.keeps.pcs h
      obtain ⟨p, hpp⟩ : ∃ p, p = L.getD k Pc0 := ⟨_, rfl⟩
      have hgp : GoodP11 p := hpp ▸ hG.all k hlt
      have gd := hgp.day
      have i1 := hM.at_ hlt
      obtain ⟨q0, f0, g0⟩ := hM.fld hlt 0 (by decide)
      obtain ⟨q1, f1, g1⟩ := hM.fld hlt 1 (by decide)
      rw [← hpp] at g0 g1
      replace g0 : ldA M none q0 = some (.int .i64 p.day) := g0
      replace g1 : ldA M none q1 = some (.int .i64 p.amount) := g1
      have r1 := iad0 (id := d) (n := L.length) (fl := 1) (z := (k : Int)) rfl hlt
      have r2 := ha.rd' (i := k) (by omega)
      have bd := strBd hG hlt
      have hC : strC L k = ⟨p.day, p.amount, (insA (arrD L) L.length).getD k 0 - p.day⟩ := by rw [hpp]; rfl
      have hTl := strTo_len L k
      generalize (insA (arrD L) L.length).getD k 0 = y at *
      have happ := app_back (M := M) (id2 := M.length) (e := 113) (sz := 3) (byt := 24) (n := k) (ys := [.int .i64 p.day, .int .i64 p.amount, .int .i64 (y - p.day)]) ho rfl (by rw [pcsC_len, hTl]) rfl rfl (by omega) (by omega)
      simp (config := {implicitDefEqProofs := false, maxDischargeDepth := 20}) (disch := first | omega | (simp only [lenE]; done) | (simp only [lenE]; omega) | rfl | (simp only [lenE, markR_len]; done) | (simp only [lenE, markR_len]; omega)) only [runE, mapE, listE, initT_5, initT_6, initT_7, initT_8, resV, oneV, binA, unA, reduceCtorEq, Nat.reduceEqDiff, Nat.reduceAdd, Nat.reduceLT, Nat.reduceLeDiff, Nat.reduceMul, Nat.reduceSub, ↓reduceIte, decide_true, decide_false, Bool.true_eq_false, Bool.false_eq_true, Bool.not_true, Bool.not_false, if_true, if_false, and_true, true_and, memE, celE, w64, Nat.zero_add, Nat.add_zero, Nat.mul_one, putL, and_self, ldn, tm, t0, t4, t5, t9, hl, hlt', i1, f0, f1, g0, g1, r1, r2, bld_pc, bsl_pc, happ]
      have hll := hx.len
      refine ⟨⟨k + 1, _, M.length + 1, by omega, rfl, ((hx.dead hid).one _ _).one _ _, by omega, ?_, ?_, rfl, by simp⟩, ?_⟩
      · rw [strTo_s, pcsC_sS, hC]
        exact OwnB.here (by simp)
      · have hne2 : id ≠ d := fun e => by
          subst e
          have h5 : M[id]? = some (rowB (insA (arrD L) L.length)) := ha
          have h6 : M[id]? = some ⟨.own, 113, pcsC (strTo L k)⟩ := ho
          rw [h5] at h6
          simp [rowB] at h6
        exact ((ha.set_ne hne2).ext _).ext _
      · simp [intOf]; omega
    · have hlt' : ¬ ((k : Int) < L.length) := by omega
      obtain rfl : k = L.length := by omega
      simp (config := {implicitDefEqProofs := false, maxDischargeDepth := 20}) (disch := first | omega | (simp only [lenE]; done) | (simp only [lenE]; omega) | rfl | (simp only [lenE, markR_len]; done) | (simp only [lenE, markR_len]; omega)) only [runE, mapE, listE, initT_5, initT_6, initT_7, initT_8, resV, oneV, binA, unA, reduceCtorEq, Nat.reduceEqDiff, Nat.reduceAdd, Nat.reduceLT, Nat.reduceLeDiff, Nat.reduceMul, Nat.reduceSub, ↓reduceIte, decide_true, decide_false, Bool.true_eq_false, Bool.false_eq_true, Bool.not_true, Bool.not_false, if_true, if_false, and_true, true_and, memE, celE, w64, Nat.zero_add, Nat.add_zero, Nat.mul_one, putL, and_self, ldn, tm, t0, t4, t5, t9, hl, hlt']
      exact ext_pcs (f := fun v => .tuple #[v, .bool true]) hx ho hid (by rw [strTo_len]) (by rw [strTo_len]; omega)
end Go.Proofs.Ytnkbjliidenldaa.Ab
