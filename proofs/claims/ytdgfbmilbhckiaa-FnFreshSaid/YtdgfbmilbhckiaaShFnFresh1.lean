/- What the law needs of the texts that it rests on. -/
import Derived.Test.YtdgfbmilbhckiaaShFnFresh0
section
namespace Go.Proofs.Ytdgfbmilbhckiaa.Ab
open Go Go.RowKit
set_option linter.unusedVariables false
set_option linter.unusedSimpArgs false
theorem b8 (m : Mem) : bslA m 3 1 8 [.int .i64 0, .int .i64 0, .int .i64 0, .int .i64 0, .int .i64 0, .int .i64 0, .int .i64 0, .int .i64 0] [(0, 1, .int .i64 4), (1, 1, .int .i64 5), (2, 1, .int .i64 3), (3, 1, .int .i64 6), (4, 1, .int .i64 8), (5, 1, .int .i64 2), (6, 1, .int .i64 1), (7, 1, .int .i64 0)] = some (.slice (some ⟨m.length, 0, none⟩) 8 1, m ++ [rowB [4, 5, 3, 6, 8, 2, 1, 0]]) := rfl
theorem b6a (m : Mem) : bslA m 3 1 6 [.int .i64 0, .int .i64 0, .int .i64 0, .int .i64 0, .int .i64 0, .int .i64 0] [(0, 1, .int .i64 0), (1, 1, .int .i64 3), (2, 1, .int .i64 5), (3, 1, .int .i64 8), (4, 1, .int .i64 12), (5, 1, .int .i64 20)] = some (.slice (some ⟨m.length, 0, none⟩) 6 1, m ++ [rowB [0, 3, 5, 8, 12, 20]]) := rfl
theorem b6b (m : Mem) : bslA m 3 1 6 [.int .i64 0, .int .i64 0, .int .i64 0, .int .i64 0, .int .i64 0, .int .i64 0] [(0, 1, .int .i64 0), (1, 1, .int .i64 2), (2, 1, .int .i64 5), (3, 1, .int .i64 9), (4, 1, .int .i64 14), (5, 1, .int .i64 30)] = some (.slice (some ⟨m.length, 0, none⟩) 6 1, m ++ [rowB [0, 2, 5, 9, 14, 30]]) := rfl
theorem b6c (m : Mem) : bslA m 3 1 6 [.int .i64 0, .int .i64 0, .int .i64 0, .int .i64 0, .int .i64 0, .int .i64 0] [(0, 1, .int .i64 0), (1, 1, .int .i64 1), (2, 1, .int .i64 2), (3, 1, .int .i64 3), (4, 1, .int .i64 5), (5, 1, .int .i64 8)] = some (.slice (some ⟨m.length, 0, none⟩) 6 1, m ++ [rowB [0, 1, 2, 3, 5, 8]]) := rfl
theorem b4a (m : Mem) : bslA m 3 1 4 [.int .i64 0, .int .i64 0, .int .i64 0, .int .i64 0] [(0, 1, .int .i64 (-1)), (1, 1, .int .i64 20), (2, 1, .int .i64 21), (3, 1, .int .i64 4611686018427387904)] = some (.slice (some ⟨m.length, 0, none⟩) 4 1, m ++ [rowB [-1, 20, 21, 4611686018427387904]]) := rfl
theorem b3a (m : Mem) : bslA m 3 1 3 [.int .i64 0, .int .i64 0, .int .i64 0] [(0, 1, .int .i64 (-1)), (1, 1, .int .i64 99), (2, 1, .int .i64 100)] = some (.slice (some ⟨m.length, 0, none⟩) 3 1, m ++ [rowB [-1, 99, 100]]) := rfl
theorem b3b (m : Mem) : bslA m 3 1 3 [.int .i64 0, .int .i64 0, .int .i64 0] [(0, 1, .int .i64 (-1)), (1, 1, .int .i64 9), (2, 1, .int .i64 10)] = some (.slice (some ⟨m.length, 0, none⟩) 3 1, m ++ [rowB [-1, 9, 10]]) := rfl
structure St3 (M M' : Mem) (cb id a b : Nat) (l : List Int) (vs : Nat → Value) (ls : Nat → List Int) (rs : Nat → Nat) : Prop where
  kc : KC M' b (M.length + 1) vs ls rs
  cw : Cw id M M'
  cur : CurA M' cb l id a
  res : M'[M.length]? = some ⟨.own, 52, [.slice none 0 0, .slice none 0 0, .slice none 0 0, .slice none 0 0]⟩
theorem St3.draw {M M' M2 : Mem} {cb id a a2 b : Nat} {l : List Int} {vs : Nat → Value} {ls : Nat → List Int} {rs : Nat → Nat} (h : St3 M M' cb id a b l vs ls rs) (hid : id < M.length) (w : Cw id M' M2) (k : CurA M2 cb l id a2) : St3 M M2 cb id a2 b l vs ls rs :=
  ⟨h.kc.cw w (by omega), Cw.trans hid h.cw w, k, (w.old _ (by omega) (by have := (List.getElem?_eq_some_iff.1 h.res).1; omega)).trans h.res⟩
theorem St3.app {M M' : Mem} {cb id a b : Nat} {l : List Int} {vs : Nat → Value} {ls : Nat → List Int} {rs : Nat → Nat} (h : St3 M M' cb id a b l vs ls rs) (hid : id < M.length) (hcb : cb < M.length) {o : Nat} (ho : o < 4) (hl : (ls o).length ≤ 1000) (x : Int) : ∃ M1 M2,
    appP (M' ++ [⟨.own, 3, [.int .i64 x]⟩]) 3 1 8 (vs o) (.slice (some ⟨M'.length, 0, none⟩) 1 1) = some (.slice (some ⟨M'.length + 1, 0, none⟩) ((ls o).length + 1) 1, M1) ∧
    stA M1 b o [.slice (some ⟨M'.length + 1, 0, none⟩) ((ls o).length + 1) 1] = some M2 ∧
    St3 M M2 cb id a b l (up4 vs o (.slice (some ⟨M'.length + 1, 0, none⟩) ((ls o).length + 1) 1)) (up4 ls o (ls o ++ [x])) (up4 rs o (M'.length + 1)) := by
  obtain ⟨M1, M2, h1, h2, h3, h4, h5, h6⟩ := h.kc.app ho hl x
  refine ⟨M1, M2, h1, h2, h3, ⟨by have := h.cw.len; omega, fun i e hi => (h5 i (by omega)).trans (h.cw.old i e hi), fun i bk hi hb => ?_⟩, ?_, (h5 _ (by omega)).trans h.res⟩
  · by_cases e : i = M.length
    · subst e
      rw [h5 _ (by omega)] at hb
      exact h.cw.new _ bk (Nat.le_refl _) hb
    · exact h6 (fun j k hj hk => h.cw.new j k (by omega) hk) i bk (by omega) hb
  · obtain ⟨seed, hb⟩ := h.cur.box
    exact ⟨(h5 cb (by omega)).trans h.cur.code, h.cur.byte, h.cur.few, seed, (h5 id (by omega)).trans hb⟩
theorem St3.rd {M M' : Mem} {cb id a b : Nat} {l : List Int} {vs : Nat → Value} {ls : Nat → List Int} {rs : Nat → Nat} (h : St3 M M' cb id a b l vs ls rs) : rdc M' b 0 = some (vs 0) ∧ rdc M' b 1 = some (vs 1) ∧ rdc M' b 2 = some (vs 2) ∧ rdc M' b 3 = some (vs 3) := by
  refine ⟨?_, ?_, ?_, ?_⟩ <;> (unfold rdc; rw [h.kc.box]; rfl)
theorem b1 (m : Mem) (x : Int) : bslA m 3 1 1 [.int .i64 0] [(0, 1, .int .i64 x)] = some (.slice (some ⟨m.length, 0, none⟩) 1 1, m ++ [⟨.own, 3, [.int .i64 x]⟩]) := rfl
def Lives (lo : Nat) (M : Mem) (r : Value) (k : Cs) : Prop := ∀ M3 : Mem, (∀ i, lo ≤ i → i < M.length → M3[i]? = M[i]?) → CaseA M3 r k
theorem Lives.here {lo : Nat} {M : Mem} {r : Value} {k : Cs} (h : Lives lo M r k) : CaseA M r k := h M fun _ _ _ => rfl
theorem Lives.cw {lo id : Nat} {M M' : Mem} {r : Value} {k : Cs} (h : Lives lo M r k) (hid : id < lo) (w : Cw id M M') : Lives lo M' r k := fun M3 h3 =>
  h M3 fun i h1 h2 => (h3 i h1 (Nat.lt_of_lt_of_le h2 w.len)).trans (w.old i (by omega) h2)
theorem Gr.one {M : Mem} {v : Value} {l : List Int} {r : Nat} (h : Gr M v l r) : v.oneCell' = true := by
  rcases h with ⟨rfl, _⟩ | ⟨rfl, _⟩ <;> rfl
theorem St3.fin {M M' : Mem} {cb id a b : Nat} {l : List Int} {vs : Nat → Value} {ls : Nat → List Int} {rs : Nat → Nat} (h : St3 M M' cb id a b l vs ls rs) (hid : id < M.length) (hcb : cb < M.length) (hl : ∀ i, i < 4 → (ls i).length ≤ 1000) : ∃ M2,
    stA M' M.length 0 [vs 0, vs 1, vs 2, vs 3] = some M2 ∧ rdc M2 M.length 0 = some (vs 0) ∧ rdc M2 M.length 1 = some (vs 1) ∧ rdc M2 M.length 2 = some (vs 2) ∧ rdc M2 M.length 3 = some (vs 3) ∧
    ((ls 0).length ≤ 1000 ∧ Lives M.length M2 (.agg #[vs 0, vs 1, vs 2, vs 3]) ⟨ls 0, ls 1, ls 2, ls 3⟩) ∧ Cw id M M2 ∧ CurA M2 cb l id a := by
  have hlt := (List.getElem?_eq_some_iff.1 h.res).1
  have on : onesB [vs 0, vs 1, vs 2, vs 3] = true := by
    simp [onesB, (h.kc.row 0 (by omega)).one, (h.kc.row 1 (by omega)).one, (h.kc.row 2 (by omega)).one, (h.kc.row 3 (by omega)).one]
  have hs : stA M' M.length 0 [vs 0, vs 1, vs 2, vs 3] = some (M'.set M.length ⟨.own, 52, [vs 0, vs 1, vs 2, vs 3]⟩) := by
    unfold stA
    rw [h.res]
    simp [on, putL]
  have self : (M'.set M.length ⟨.own, 52, [vs 0, vs 1, vs 2, vs 3]⟩)[M.length]? = some ⟨.own, 52, [vs 0, vs 1, vs 2, vs 3]⟩ := List.getElem?_set_self hlt
  have low : ∀ i, i ≠ M.length → (M'.set M.length ⟨.own, 52, [vs 0, vs 1, vs 2, vs 3]⟩)[i]? = M'[i]? := fun i hi => List.getElem?_set_ne (Ne.symm hi)
  have gr : ∀ M3 : Mem, (∀ i, M.length ≤ i → i < (M'.set M.length ⟨.own, 52, [vs 0, vs 1, vs 2, vs 3]⟩).length → M3[i]? = (M'.set M.length ⟨.own, 52, [vs 0, vs 1, vs 2, vs 3]⟩)[i]?) → ∀ i, i < 4 → IntsA M3 (vs i) (ls i) := fun M3 w3 i hi => by
    refine Gr.ints (r := rs i) ?_ (hl i hi)
    rcases h.kc.row i hi with h1 | ⟨h1, h2, h3⟩
    · exact .inl h1
    · have hge := (h.kc.ge i hi h2).1
      have hl3 := h3.lt
      exact .inr ⟨h1, h2, (w3 (rs i) (by omega) (by simpa using hl3)).trans ((low _ (by omega)).trans h3)⟩
  refine ⟨_, hs, ?_, ?_, ?_, ?_, ⟨hl 0 (by omega), fun M3 w3 => ⟨_, _, _, _, rfl, gr M3 w3 0 (by omega), gr M3 w3 1 (by omega), gr M3 w3 2 (by omega), gr M3 w3 3 (by omega)⟩⟩, ⟨by have := h.cw.len; simpa using this, fun i e hi => (low i (by omega)).trans (h.cw.old i e hi), fun i bk hi hb => ?_⟩, ?_⟩
  · unfold rdc; rw [self]; rfl
  · unfold rdc; rw [self]; rfl
  · unfold rdc; rw [self]; rfl
  · unfold rdc; rw [self]; rfl
  · by_cases e : i = M.length
    · subst e
      rw [self] at hb
      cases hb
      simp
    · rw [low i e] at hb
      exact h.cw.new i bk hi hb
  · obtain ⟨seed, hb⟩ := h.cur.box
    exact ⟨(low cb (by omega)).trans h.cur.code, h.cur.byte, h.cur.few, seed, (low id (by omega)).trans hb⟩
theorem St3.set {M M' : Mem} {cb id a b : Nat} {l : List Int} {vs : Nat → Value} {ls : Nat → List Int} {rs : Nat → Nat} (h : St3 M M' cb id a b l vs ls rs) (hid : id < M.length) (hcb : cb < M.length) {o : Nat} (ho : o < 4) {j : Nat} (hj : j < (ls o).length) (x : Int) : ∃ M2,
    iadA 1 (vs o) (.int .i64 (j : Int)) = some (.pointer (some ⟨rs o, j, none⟩)) ∧ stA M' (rs o) j [.int .i64 x] = some M2 ∧ St3 M M2 cb id a b l vs (up4 ls o ((ls o).set j x)) rs := by
  have hne : ls o ≠ [] := fun e => by rw [e] at hj; simp at hj
  obtain ⟨g1, g2⟩ := h.kc.ge o ho hne
  rcases h.kc.row o ho with ⟨_, h2⟩ | ⟨h1, _, h3⟩
  · exact absurd h2 hne
  · have hlt := h3.lt
    have hs : stA M' (rs o) j [.int .i64 x] = some (M'.set (rs o) (rowB ((ls o).set j x))) := by
      have := stA_at (v := .int .i64 x) h3 (off := j) (by simpa using hj) rfl
      rw [this]
      simp [rowB, List.map_set]
    have low : ∀ i, i ≠ rs o → (M'.set (rs o) (rowB ((ls o).set j x)))[i]? = M'[i]? := fun i hi => List.getElem?_set_ne (Ne.symm hi)
    refine ⟨_, ?_, hs, ⟨⟨(low b (Ne.symm g2)).trans h.kc.box, h.kc.lob, fun i hi => ?_, fun i hi hn => ?_, fun i j hi hj hij n1 n2 => ?_⟩, ⟨by have := h.cw.len; simpa using this, fun i e hi => (low i (by omega)).trans (h.cw.old i e hi), fun i bk hi hb => ?_⟩, ?_, (low _ (by omega)).trans h.res⟩⟩
    · rw [h1]
      have := iadA_in (id := rs o) (off := 0) (n := (ls o).length) (fl := 1) (sz := 1) (k := .i64) (j := j) hj
      simpa using this
    · by_cases e : i = o
      · subst e
        simp only [up4, if_true]
        refine .inr ⟨by rw [h1]; simp, by simpa using hne, ?_⟩
        unfold OwnR
        exact List.getElem?_set_self hlt
      · simp only [up4, if_neg e]
        rcases h.kc.row i hi with k1 | ⟨k1, k2, k3⟩
        · exact .inl k1
        · exact .inr ⟨k1, k2, (low _ (h.kc.ne i o hi ho e k2 hne)).trans k3⟩
    · by_cases e : i = o
      · subst e; exact ⟨g1, g2⟩
      · simp only [up4, if_neg e] at hn; exact h.kc.ge i hi hn
    · have m1 : ls i ≠ [] := by
        by_cases e : i = o
        · subst e; exact hne
        · simpa only [up4, if_neg e] using n1
      have m2 : ls j ≠ [] := by
        by_cases e : j = o
        · subst e; exact hne
        · simpa only [up4, if_neg e] using n2
      exact h.kc.ne i j hi hj hij m1 m2
    · by_cases e : i = rs o
      · subst e
        rw [List.getElem?_set_self hlt] at hb
        cases hb
        simp
      · rw [low i e] at hb
        exact h.cw.new i bk hi hb
    · obtain ⟨seed, hb⟩ := h.cur.box
      exact ⟨(low cb (by omega)).trans h.cur.code, h.cur.byte, h.cur.few, seed, (low id (by omega)).trans hb⟩
theorem someLots_ac (M : Mem) (cb id a : Nat) (l : List Int) (most : Int) (h : CurA M cb l id a) (ha : a ≤ 999000000) (hm : 0 ≤ most ∧ most ≤ 9) :
    AC Try.prog 77 [.pointer (some ⟨id, 0, none⟩), .int .i64 most] M fun r M' => ∃ k : Cs, (k.need.length ≤ 1000 ∧ Lives M.length M' r k) ∧ Cw id M M' ∧ ∃ a', a' ≤ a + 1000 ∧ CurA M' cb l id a' := by
  refine ac_of_run mixed ok_spec_l1Cur__someLots (by simp) (go_start _ _ _ ?_)
  have hid := h.lt
  simp (config := {implicitDefEqProofs := false, maxDischargeDepth := 20}) (disch := first | omega | (simp only [lenE]; done) | (simp only [lenE]; omega) | rfl | (simp only [lenE, markR_len]; done) | (simp only [lenE, markR_len]; omega)) only [runE, mapE, listE, initT_5, initT_6, initT_7, initT_8, resV, oneV, binA, unA, reduceCtorEq, Nat.reduceEqDiff, Nat.reduceAdd, Nat.reduceLT, Nat.reduceLeDiff, Nat.reduceMul, Nat.reduceSub, ↓reduceIte, decide_true, decide_false, Bool.true_eq_false, Bool.false_eq_true, Bool.not_true, Bool.not_false, if_true, if_false, and_true, true_and, memE, celE, w64, Nat.zero_add, Nat.add_zero, Nat.mul_one, putL, and_self, ldn, c_spec_l1Cur__someLots, r_spec_l1Cur__someLots, b8]
  refine callH_ac (among_new _ cb id a l [4, 5, 3, 6, 8, 2, 1, 0] (h.ext _) (by omega) (by simp) rfl (by simp) (by simp)) ?_
  rintro r M1 ⟨n0, hn0, rfl, w1, a1, ha1, k1⟩
  have hres : M1[M.length]? = some ⟨.own, 52, [.slice none 0 0, .slice none 0 0, .slice none 0 0, .slice none 0 0]⟩ := (w1.old M.length (by omega) (by simp)).trans (by simp)
  have w1 := w1.pre (noRo_own noRo_nil) hid
  have hn1 : 0 ≤ n0 ∧ n0 ≤ 8 := by simp at hn0; omega
  have l1 := w1.len
  simp (config := {implicitDefEqProofs := false, maxDischargeDepth := 20}) (disch := first | omega | (simp only [lenE]; done) | (simp only [lenE]; omega) | rfl | (simp only [lenE, markR_len]; done) | (simp only [lenE, markR_len]; omega)) only [runE, mapE, listE, initT_5, initT_6, initT_7, initT_8, resV, oneV, binA, unA, reduceCtorEq, Nat.reduceEqDiff, Nat.reduceAdd, Nat.reduceLT, Nat.reduceLeDiff, Nat.reduceMul, Nat.reduceSub, ↓reduceIte, decide_true, decide_false, Bool.true_eq_false, Bool.false_eq_true, Bool.not_true, Bool.not_false, if_true, if_false, and_true, true_and, memE, celE, w64, Nat.zero_add, Nat.add_zero, Nat.mul_one, putL, and_self, ldn]
  refine callH_rc (l1Least_rcK _ _ _) ?_
  rintro r new ⟨rfl, rfl⟩
  have bz : bldA [.slice none 0 0, .slice none 0 0, .slice none 0 0, .slice none 0 0] [] = some (.agg #[.slice none 0 0, .slice none 0 0, .slice none 0 0, .slice none 0 0]) := rfl
  simp (config := {implicitDefEqProofs := false, maxDischargeDepth := 20}) (disch := first | omega | (simp only [lenE]; done) | (simp only [lenE]; omega) | rfl | (simp only [lenE, markR_len]; done) | (simp only [lenE, markR_len]; omega)) only [runE, mapE, listE, initT_5, initT_6, initT_7, initT_8, resV, oneV, binA, unA, reduceCtorEq, Nat.reduceEqDiff, Nat.reduceAdd, Nat.reduceLT, Nat.reduceLeDiff, Nat.reduceMul, Nat.reduceSub, ↓reduceIte, decide_true, decide_false, Bool.true_eq_false, Bool.false_eq_true, Bool.not_true, Bool.not_false, if_true, if_false, and_true, true_and, memE, celE, w64, Nat.zero_add, Nat.add_zero, Nat.mul_one, putL, and_self, ldn, bz, stP_aggL]
  have hcb : cb < M.length := (List.getElem?_eq_some_iff.1 h.code).1
  have s0 : St3 M (M1 ++ [⟨.own, 52, [.slice none 0 0, .slice none 0 0, .slice none 0 0, .slice none 0 0]⟩]) cb id a1 M1.length l (fun _ => .slice none 0 0) (fun _ => []) (fun _ => 0) := by
    have hl1 := (List.getElem?_eq_some_iff.1 hres).1
    refine ⟨⟨by simp, by omega, fun i hi => .inl ⟨rfl, rfl⟩, fun i hi hne => absurd rfl hne, fun i j _ _ _ hne => absurd rfl hne⟩, w1.ext (noRo_own noRo_nil), k1.ext _, ?_⟩
    rw [List.getElem?_append_left hl1]; exact hres
  refine callH_ac (one_ac _ cb id a1 l 2 s0.cur (by omega) (by omega) (by omega)) ?_
  rintro r M2 ⟨same, rfl, w2, a2, ha2, k2⟩
  have s1 := s0.draw hid w2 k2
  simp (config := {implicitDefEqProofs := false, maxDischargeDepth := 20}) (disch := first | omega | (simp only [lenE]; done) | (simp only [lenE]; omega) | rfl | (simp only [lenE, markR_len]; done) | (simp only [lenE, markR_len]; omega)) only [runE, mapE, listE, initT_5, initT_6, initT_7, initT_8, resV, oneV, binA, unA, reduceCtorEq, Nat.reduceEqDiff, Nat.reduceAdd, Nat.reduceLT, Nat.reduceLeDiff, Nat.reduceMul, Nat.reduceSub, ↓reduceIte, decide_true, decide_false, Bool.true_eq_false, Bool.false_eq_true, Bool.not_true, Bool.not_false, if_true, if_false, and_true, true_and, memE, celE, w64, Nat.zero_add, Nat.add_zero, Nat.mul_one, putL, and_self, ldn, b6a]
  refine callH_ac (among_new M2 cb id a2 l [0, 3, 5, 8, 12, 20] k2 (by omega) rfl rfl (by simp) (by simp)) ?_
  rintro r M3 ⟨x0, hx0, rfl, w3, a3, ha3, k3⟩
  have s2 := s1.draw hid w3 k3
  simp (config := {implicitDefEqProofs := false, maxDischargeDepth := 20}) (disch := first | omega | (simp only [lenE]; done) | (simp only [lenE]; omega) | rfl | (simp only [lenE, markR_len]; done) | (simp only [lenE, markR_len]; omega)) only [runE, mapE, listE, initT_5, initT_6, initT_7, initT_8, resV, oneV, binA, unA, reduceCtorEq, Nat.reduceEqDiff, Nat.reduceAdd, Nat.reduceLT, Nat.reduceLeDiff, Nat.reduceMul, Nat.reduceSub, ↓reduceIte, decide_true, decide_false, Bool.true_eq_false, Bool.false_eq_true, Bool.not_true, Bool.not_false, if_true, if_false, and_true, true_and, memE, celE, w64, Nat.zero_add, Nat.add_zero, Nat.mul_one, putL, and_self, ldn]
  refine callH_ac (pick_ac M3 cb id a3 l 3 k3 (by omega) (by omega) (by omega)) ?_
  rintro r M4 ⟨x1, rfl, p1, p2, w4, a4, ha4, k4⟩
  have s3 := s2.draw hid w4 k4
  simp (config := {implicitDefEqProofs := false, maxDischargeDepth := 20}) (disch := first | omega | (simp only [lenE]; done) | (simp only [lenE]; omega) | rfl | (simp only [lenE, markR_len]; done) | (simp only [lenE, markR_len]; omega)) only [runE, mapE, listE, initT_5, initT_6, initT_7, initT_8, resV, oneV, binA, unA, reduceCtorEq, Nat.reduceEqDiff, Nat.reduceAdd, Nat.reduceLT, Nat.reduceLeDiff, Nat.reduceMul, Nat.reduceSub, ↓reduceIte, decide_true, decide_false, Bool.true_eq_false, Bool.false_eq_true, Bool.not_true, Bool.not_false, if_true, if_false, and_true, true_and, memE, celE, w64, Nat.zero_add, Nat.add_zero, Nat.mul_one, putL, and_self, ldn]
  refine callH_ac (pick_ac M4 cb id a4 l 2 k4 (by omega) (by omega) (by omega)) ?_
  rintro r M5 ⟨x2, rfl, p3, p4, w5, a5, ha5, k5⟩
  have s4 := s3.draw hid w5 k5
  simp (config := {implicitDefEqProofs := false, maxDischargeDepth := 20}) (disch := first | omega | (simp only [lenE]; done) | (simp only [lenE]; omega) | rfl | (simp only [lenE, markR_len]; done) | (simp only [lenE, markR_len]; omega)) only [runE, mapE, listE, initT_5, initT_6, initT_7, initT_8, resV, oneV, binA, unA, reduceCtorEq, Nat.reduceEqDiff, Nat.reduceAdd, Nat.reduceLT, Nat.reduceLeDiff, Nat.reduceMul, Nat.reduceSub, ↓reduceIte, decide_true, decide_false, Bool.true_eq_false, Bool.false_eq_true, Bool.not_true, Bool.not_false, if_true, if_false, and_true, true_and, memE, celE, w64, Nat.zero_add, Nat.add_zero, Nat.mul_one, putL, and_self, ldn]
  obtain ⟨N, hN⟩ : ∃ N, N = min n0 most := ⟨_, rfl⟩
  rw [← hN]
  refine loop_inv mixed (fun s => ∃ (t : Nat) (Mx : Mem) (vs : Nat → Value) (ls : Nat → List Int) (rs : Nat → Nat) (su un hl : Int) (ax : Nat), (t : Int) ≤ N ∧ St3 M Mx cb id ax M1.length l vs ls rs ∧ (∀ i, i < 4 → (ls i).length = t) ∧ ax ≤ a5 + 10 * t ∧
      s.t 0 = .pointer (some ⟨id, 0, none⟩) ∧ s.t 4 = .pointer (some ⟨M.length, 0, none⟩) ∧ s.t 5 = .int .i64 N ∧ s.t 6 = .pointer (some ⟨M1.length, 0, none⟩) ∧ s.t 7 = .bool same ∧ s.t 8 = .int .i64 su ∧ s.t 9 = .int .i64 un ∧ s.t 10 = .int .i64 hl ∧ s.t 11 = .int .i64 (t : Int) ∧ s.m = Mx)
      (fun s => (N - intOf (s.t 11)).toNat)
    ⟨0, M5, _, _, _, x0, x1, _, a5, by omega, s4, fun i hi => rfl, by omega, rfl, rfl, by simp only [put_t, put_t', put_m, putT_t, putT_t', putT_m, init_t, init_m, initT_0, initT_1, initT_2, initT_3, initT_4, initT_5, initT_6, initT_7, initT_8, Nat.reduceEqDiff, ↓reduceIte], rfl, rfl, rfl, rfl, rfl, rfl, rfl⟩ ?_
  rintro s ⟨t, Mx, vs, ls, rs, su, un, hl, ax, ht, st, hlen, hax, t0, t4, t5, t6, t7, t8, t9, t10, t11, tm⟩
  obtain ⟨q0, q1, q2, q3⟩ := st.rd
  have hbx := (List.getElem?_eq_some_iff.1 st.kc.box).1
  by_cases hlt : (t : Int) < N
  · cases same with
    | true =>
      simp (config := {implicitDefEqProofs := false, maxDischargeDepth := 20}) (disch := first | omega | (simp only [lenE]; done) | (simp only [lenE]; omega) | rfl | (simp only [lenE, markR_len]; done) | (simp only [lenE, markR_len]; omega)) only [runE, mapE, listE, initT_5, initT_6, initT_7, initT_8, resV, oneV, binA, unA, reduceCtorEq, Nat.reduceEqDiff, Nat.reduceAdd, Nat.reduceLT, Nat.reduceLeDiff, Nat.reduceMul, Nat.reduceSub, ↓reduceIte, decide_true, decide_false, Bool.true_eq_false, Bool.false_eq_true, Bool.not_true, Bool.not_false, if_true, if_false, and_true, true_and, memE, celE, w64, Nat.zero_add, Nat.add_zero, Nat.mul_one, putL, and_self, ldn, t0, t4, t5, t6, t7, t8, t9, t10, t11, tm, hlt, q0, b6c]
      refine ⟨?_, ?_, ?_⟩
      all_goals
        refine callH_ac (among_new Mx cb id ax l [0, 1, 2, 3, 5, 8] st.cur (by omega) rfl rfl (by simp) (by simp)) ?_
        rintro r My ⟨y, hy, rfl, wy, ay, hay, ky⟩
        have st1 := st.draw hid wy ky
        obtain ⟨q0, -, -, -⟩ := st1.rd
        obtain ⟨A1, A2, e1, e2, sa⟩ := st1.app hid hcb (o := 0) (by omega) (by rw [hlen 0 (by omega)]; omega) y
        have p1 : rdc A2 M1.length 1 = some (vs 1) := sa.rd.2.1
        obtain ⟨B1, B2, f1, f2, sb⟩ := sa.app hid hcb (o := 1) (by omega) (by show (ls 1).length ≤ 1000; rw [hlen 1 (by omega)]; omega) su
        have p2 : rdc B2 M1.length 2 = some (vs 2) := sb.rd.2.2.1
        obtain ⟨C1, C2, g1, g2, sc⟩ := sb.app hid hcb (o := 2) (by omega) (by show (ls 2).length ≤ 1000; rw [hlen 2 (by omega)]; omega) un
        have p3 : rdc C2 M1.length 3 = some (vs 3) := sc.rd.2.2.2
        obtain ⟨D1, D2, k1', k2', sd⟩ := sc.app hid hcb (o := 3) (by omega) (by show (ls 3).length ≤ 1000; rw [hlen 3 (by omega)]; omega) hl
        have f1 : appP (A2 ++ [⟨.own, 3, [.int .i64 su]⟩]) 3 1 8 (vs 1) (.slice (some ⟨A2.length, 0, none⟩) 1 1) = some (.slice (some ⟨A2.length + 1, 0, none⟩) ((ls 1).length + 1) 1, B1) := f1
        have f2 : stA B1 M1.length 1 [.slice (some ⟨A2.length + 1, 0, none⟩) ((ls 1).length + 1) 1] = some B2 := f2
        have g1 : appP (B2 ++ [⟨.own, 3, [.int .i64 un]⟩]) 3 1 8 (vs 2) (.slice (some ⟨B2.length, 0, none⟩) 1 1) = some (.slice (some ⟨B2.length + 1, 0, none⟩) ((ls 2).length + 1) 1, C1) := g1
        have g2 : stA C1 M1.length 2 [.slice (some ⟨B2.length + 1, 0, none⟩) ((ls 2).length + 1) 1] = some C2 := g2
        have k1' : appP (C2 ++ [⟨.own, 3, [.int .i64 hl]⟩]) 3 1 8 (vs 3) (.slice (some ⟨C2.length, 0, none⟩) 1 1) = some (.slice (some ⟨C2.length + 1, 0, none⟩) ((ls 3).length + 1) 1, D1) := k1'
        have k2' : stA D1 M1.length 3 [.slice (some ⟨C2.length + 1, 0, none⟩) ((ls 3).length + 1) 1] = some D2 := k2'
        simp (config := {implicitDefEqProofs := false, maxDischargeDepth := 20}) (disch := first | omega | (simp only [lenE]; done) | (simp only [lenE]; omega) | rfl | (simp only [lenE, markR_len]; done) | (simp only [lenE, markR_len]; omega)) only [runE, mapE, listE, initT_5, initT_6, initT_7, initT_8, resV, oneV, binA, unA, reduceCtorEq, Nat.reduceEqDiff, Nat.reduceAdd, Nat.reduceLT, Nat.reduceLeDiff, Nat.reduceMul, Nat.reduceSub, ↓reduceIte, decide_true, decide_false, Bool.true_eq_false, Bool.false_eq_true, Bool.not_true, Bool.not_false, if_true, if_false, and_true, true_and, memE, celE, w64, Nat.zero_add, Nat.add_zero, Nat.mul_one, putL, and_self, ldn, t0, t4, t5, t6, t7, t8, t9, t10, t11, q0, b1, e1, e2, p1, f1, f2, p2, g1, g2, p3, k1', k2']
        refine ⟨⟨t + 1, D2, _, _, _, su, un, hl, ay, by omega, sd, fun i hi => ?_, by omega, rfl, rfl, rfl, by simp, rfl⟩, by simp only [intOf]; omega⟩
        match i, hi with
        | 0, _ => show (ls 0 ++ [y]).length = t + 1; rw [List.length_append, hlen 0 (by omega)]; rfl
        | 1, _ => show (ls 1 ++ [su]).length = t + 1; rw [List.length_append, hlen 1 (by omega)]; rfl
        | 2, _ => show (ls 2 ++ [un]).length = t + 1; rw [List.length_append, hlen 2 (by omega)]; rfl
        | 3, _ => show (ls 3 ++ [hl]).length = t + 1; rw [List.length_append, hlen 3 (by omega)]; rfl
    | false =>
      simp (config := {implicitDefEqProofs := false, maxDischargeDepth := 20}) (disch := first | omega | (simp only [lenE]; done) | (simp only [lenE]; omega) | rfl | (simp only [lenE, markR_len]; done) | (simp only [lenE, markR_len]; omega)) only [runE, mapE, listE, initT_5, initT_6, initT_7, initT_8, resV, oneV, binA, unA, reduceCtorEq, Nat.reduceEqDiff, Nat.reduceAdd, Nat.reduceLT, Nat.reduceLeDiff, Nat.reduceMul, Nat.reduceSub, ↓reduceIte, decide_true, decide_false, Bool.true_eq_false, Bool.false_eq_true, Bool.not_true, Bool.not_false, if_true, if_false, and_true, true_and, memE, celE, w64, Nat.zero_add, Nat.add_zero, Nat.mul_one, putL, and_self, ldn, t0, t4, t5, t6, t7, t8, t9, t10, t11, tm, hlt, b6b]
      refine callH_ac (among_new Mx cb id ax l [0, 2, 5, 9, 14, 30] st.cur (by omega) rfl rfl (by simp) (by simp)) ?_
      rintro r M6 ⟨y1, hy1, rfl, w6, a6, ha6, k6⟩
      have s6 := st.draw hid w6 k6
      simp (config := {implicitDefEqProofs := false, maxDischargeDepth := 20}) (disch := first | omega | (simp only [lenE]; done) | (simp only [lenE]; omega) | rfl | (simp only [lenE, markR_len]; done) | (simp only [lenE, markR_len]; omega)) only [runE, mapE, listE, initT_5, initT_6, initT_7, initT_8, resV, oneV, binA, unA, reduceCtorEq, Nat.reduceEqDiff, Nat.reduceAdd, Nat.reduceLT, Nat.reduceLeDiff, Nat.reduceMul, Nat.reduceSub, ↓reduceIte, decide_true, decide_false, Bool.true_eq_false, Bool.false_eq_true, Bool.not_true, Bool.not_false, if_true, if_false, and_true, true_and, memE, celE, w64, Nat.zero_add, Nat.add_zero, Nat.mul_one, putL, and_self, ldn, t0]
      refine callH_ac (pick_ac M6 cb id a6 l 5 k6 (by omega) (by omega) (by omega)) ?_
      rintro r M7 ⟨y2, rfl, -, -, w7, a7, ha7, k7⟩
      have s7 := s6.draw hid w7 k7
      simp (config := {implicitDefEqProofs := false, maxDischargeDepth := 20}) (disch := first | omega | (simp only [lenE]; done) | (simp only [lenE]; omega) | rfl | (simp only [lenE, markR_len]; done) | (simp only [lenE, markR_len]; omega)) only [runE, mapE, listE, initT_5, initT_6, initT_7, initT_8, resV, oneV, binA, unA, reduceCtorEq, Nat.reduceEqDiff, Nat.reduceAdd, Nat.reduceLT, Nat.reduceLeDiff, Nat.reduceMul, Nat.reduceSub, ↓reduceIte, decide_true, decide_false, Bool.true_eq_false, Bool.false_eq_true, Bool.not_true, Bool.not_false, if_true, if_false, and_true, true_and, memE, celE, w64, Nat.zero_add, Nat.add_zero, Nat.mul_one, putL, and_self, ldn, t0]
      refine callH_ac (pick_ac M7 cb id a7 l 4 k7 (by omega) (by omega) (by omega)) ?_
      rintro r M8 ⟨y3, rfl, -, -, w8, a8, ha8, k8⟩
      have s8 := s7.draw hid w8 k8
      obtain ⟨q0, q1, q2, q3⟩ := s8.rd
      have hbx := (List.getElem?_eq_some_iff.1 s8.kc.box).1
      simp (config := {implicitDefEqProofs := false, maxDischargeDepth := 20}) (disch := first | omega | (simp only [lenE]; done) | (simp only [lenE]; omega) | rfl | (simp only [lenE, markR_len]; done) | (simp only [lenE, markR_len]; omega)) only [runE, mapE, listE, initT_5, initT_6, initT_7, initT_8, resV, oneV, binA, unA, reduceCtorEq, Nat.reduceEqDiff, Nat.reduceAdd, Nat.reduceLT, Nat.reduceLeDiff, Nat.reduceMul, Nat.reduceSub, ↓reduceIte, decide_true, decide_false, Bool.true_eq_false, Bool.false_eq_true, Bool.not_true, Bool.not_false, if_true, if_false, and_true, true_and, memE, celE, w64, Nat.zero_add, Nat.add_zero, Nat.mul_one, putL, and_self, ldn, t0, t4, t5, t6, t7, t11, q0, b6c]
      refine ⟨?_, ?_, ?_⟩
      all_goals
        refine callH_ac (among_new M8 cb id a8 l [0, 1, 2, 3, 5, 8] s8.cur (by omega) rfl rfl (by simp) (by simp)) ?_
        rintro r My ⟨y, hy, rfl, wy, ay, hay, ky⟩
        have st1 := s8.draw hid wy ky
        obtain ⟨q0, -, -, -⟩ := st1.rd
        obtain ⟨A1, A2, e1, e2, sa⟩ := st1.app hid hcb (o := 0) (by omega) (by rw [hlen 0 (by omega)]; omega) y
        have p1 : rdc A2 M1.length 1 = some (vs 1) := sa.rd.2.1
        obtain ⟨B1, B2, f1, f2, sb⟩ := sa.app hid hcb (o := 1) (by omega) (by show (ls 1).length ≤ 1000; rw [hlen 1 (by omega)]; omega) y1
        have p2 : rdc B2 M1.length 2 = some (vs 2) := sb.rd.2.2.1
        obtain ⟨C1, C2, g1, g2, sc⟩ := sb.app hid hcb (o := 2) (by omega) (by show (ls 2).length ≤ 1000; rw [hlen 2 (by omega)]; omega) y2
        have p3 : rdc C2 M1.length 3 = some (vs 3) := sc.rd.2.2.2
        obtain ⟨D1, D2, k1', k2', sd⟩ := sc.app hid hcb (o := 3) (by omega) (by show (ls 3).length ≤ 1000; rw [hlen 3 (by omega)]; omega) y3
        have f1 : appP (A2 ++ [⟨.own, 3, [.int .i64 y1]⟩]) 3 1 8 (vs 1) (.slice (some ⟨A2.length, 0, none⟩) 1 1) = some (.slice (some ⟨A2.length + 1, 0, none⟩) ((ls 1).length + 1) 1, B1) := f1
        have f2 : stA B1 M1.length 1 [.slice (some ⟨A2.length + 1, 0, none⟩) ((ls 1).length + 1) 1] = some B2 := f2
        have g1 : appP (B2 ++ [⟨.own, 3, [.int .i64 y2]⟩]) 3 1 8 (vs 2) (.slice (some ⟨B2.length, 0, none⟩) 1 1) = some (.slice (some ⟨B2.length + 1, 0, none⟩) ((ls 2).length + 1) 1, C1) := g1
        have g2 : stA C1 M1.length 2 [.slice (some ⟨B2.length + 1, 0, none⟩) ((ls 2).length + 1) 1] = some C2 := g2
        have k1' : appP (C2 ++ [⟨.own, 3, [.int .i64 y3]⟩]) 3 1 8 (vs 3) (.slice (some ⟨C2.length, 0, none⟩) 1 1) = some (.slice (some ⟨C2.length + 1, 0, none⟩) ((ls 3).length + 1) 1, D1) := k1'
        have k2' : stA D1 M1.length 3 [.slice (some ⟨C2.length + 1, 0, none⟩) ((ls 3).length + 1) 1] = some D2 := k2'
        simp (config := {implicitDefEqProofs := false, maxDischargeDepth := 20}) (disch := first | omega | (simp only [lenE]; done) | (simp only [lenE]; omega) | rfl | (simp only [lenE, markR_len]; done) | (simp only [lenE, markR_len]; omega)) only [runE, mapE, listE, initT_5, initT_6, initT_7, initT_8, resV, oneV, binA, unA, reduceCtorEq, Nat.reduceEqDiff, Nat.reduceAdd, Nat.reduceLT, Nat.reduceLeDiff, Nat.reduceMul, Nat.reduceSub, ↓reduceIte, decide_true, decide_false, Bool.true_eq_false, Bool.false_eq_true, Bool.not_true, Bool.not_false, if_true, if_false, and_true, true_and, memE, celE, w64, Nat.zero_add, Nat.add_zero, Nat.mul_one, putL, and_self, ldn, t0, t4, t5, t6, t7, t8, t9, t10, t11, q0, b1, e1, e2, p1, f1, f2, p2, g1, g2, p3, k1', k2']
        refine ⟨⟨t + 1, D2, _, _, _, y1, y2, y3, ay, by omega, sd, fun i hi => ?_, by omega, rfl, rfl, rfl, by simp, rfl⟩, by simp only [intOf]; omega⟩
        match i, hi with
        | 0, _ => show (ls 0 ++ [y]).length = t + 1; rw [List.length_append, hlen 0 (by omega)]; rfl
        | 1, _ => show (ls 1 ++ [y1]).length = t + 1; rw [List.length_append, hlen 1 (by omega)]; rfl
        | 2, _ => show (ls 2 ++ [y2]).length = t + 1; rw [List.length_append, hlen 2 (by omega)]; rfl
        | 3, _ => show (ls 3 ++ [y3]).length = t + 1; rw [List.length_append, hlen 3 (by omega)]; rfl
  · simp (config := {implicitDefEqProofs := false, maxDischargeDepth := 20}) (disch := first | omega | (simp only [lenE]; done) | (simp only [lenE]; omega) | rfl | (simp only [lenE, markR_len]; done) | (simp only [lenE, markR_len]; omega)) only [runE, mapE, listE, initT_5, initT_6, initT_7, initT_8, resV, oneV, binA, unA, reduceCtorEq, Nat.reduceEqDiff, Nat.reduceAdd, Nat.reduceLT, Nat.reduceLeDiff, Nat.reduceMul, Nat.reduceSub, ↓reduceIte, decide_true, decide_false, Bool.true_eq_false, Bool.false_eq_true, Bool.not_true, Bool.not_false, if_true, if_false, and_true, true_and, memE, celE, w64, Nat.zero_add, Nat.add_zero, Nat.mul_one, putL, and_self, ldn, t5, t11, tm, hlt]
    by_cases hN0 : N > 0
    · simp (config := {implicitDefEqProofs := false, maxDischargeDepth := 20}) (disch := first | omega | (simp only [lenE]; done) | (simp only [lenE]; omega) | rfl | (simp only [lenE, markR_len]; done) | (simp only [lenE, markR_len]; omega)) only [runE, mapE, listE, initT_5, initT_6, initT_7, initT_8, resV, oneV, binA, unA, reduceCtorEq, Nat.reduceEqDiff, Nat.reduceAdd, Nat.reduceLT, Nat.reduceLeDiff, Nat.reduceMul, Nat.reduceSub, ↓reduceIte, decide_true, decide_false, Bool.true_eq_false, Bool.false_eq_true, Bool.not_true, Bool.not_false, if_true, if_false, and_true, true_and, memE, celE, w64, Nat.zero_add, Nat.add_zero, Nat.mul_one, putL, and_self, ldn, hN0, t0, t5, tm]
      refine callH_ac (pick_ac Mx cb id ax l N st.cur (by omega) (by omega) (by omega)) ?_
      rintro r M6 ⟨jz, rfl, j1, j2, w6, a6, ha6, k6⟩
      obtain ⟨jn, rfl⟩ : ∃ jn : Nat, jz = (jn : Int) := ⟨jz.toNat, by omega⟩
      have s6 := st.draw hid w6 k6
      simp (config := {implicitDefEqProofs := false, maxDischargeDepth := 20}) (disch := first | omega | (simp only [lenE]; done) | (simp only [lenE]; omega) | rfl | (simp only [lenE, markR_len]; done) | (simp only [lenE, markR_len]; omega)) only [runE, mapE, listE, initT_5, initT_6, initT_7, initT_8, resV, oneV, binA, unA, reduceCtorEq, Nat.reduceEqDiff, Nat.reduceAdd, Nat.reduceLT, Nat.reduceLeDiff, Nat.reduceMul, Nat.reduceSub, ↓reduceIte, decide_true, decide_false, Bool.true_eq_false, Bool.false_eq_true, Bool.not_true, Bool.not_false, if_true, if_false, and_true, true_and, memE, celE, w64, Nat.zero_add, Nat.add_zero, Nat.mul_one, putL, and_self, ldn, t0]
      refine callH_ac (pick_ac M6 cb id a6 l 60 k6 (by omega) (by omega) (by omega)) ?_
      rintro r M7 ⟨x, rfl, -, -, w7, a7, ha7, k7⟩
      have s7 := s6.draw hid w7 k7
      obtain ⟨q0, q1, q2, q3⟩ := s7.rd
      have hbx := (List.getElem?_eq_some_iff.1 s7.kc.box).1
      have ht' : (t : Int) = N := by omega
      have len0 : ∀ y : Int, ∀ i, i < 4 → (up4 ls 0 ((ls 0).set jn y) i).length ≤ 1000 := fun y i hi => by
        by_cases e : i = 0
        · subst e; simp only [up4, if_true, List.length_set]; rw [hlen 0 (by omega)]; omega
        · simp only [up4, if_neg e]; rw [hlen i hi]; omega
      have len1 : ∀ y : Int, ∀ i, i < 4 → (up4 ls 1 ((ls 1).set jn y) i).length ≤ 1000 := fun y i hi => by
        by_cases e : i = 1
        · subst e; simp only [up4, if_true, List.length_set]; rw [hlen 1 (by omega)]; omega
        · simp only [up4, if_neg e]; rw [hlen i hi]; omega
      have len2 : ∀ y : Int, ∀ i, i < 4 → (up4 ls 2 ((ls 2).set jn y) i).length ≤ 1000 := fun y i hi => by
        by_cases e : i = 2
        · subst e; simp only [up4, if_true, List.length_set]; rw [hlen 2 (by omega)]; omega
        · simp only [up4, if_neg e]; rw [hlen i hi]; omega
      have len3 : ∀ y : Int, ∀ i, i < 4 → (up4 ls 3 ((ls 3).set jn y) i).length ≤ 1000 := fun y i hi => by
        by_cases e : i = 3
        · subst e; simp only [up4, if_true, List.length_set]; rw [hlen 3 (by omega)]; omega
        · simp only [up4, if_neg e]; rw [hlen i hi]; omega
      have ne : ∀ c : Int, x ≠ c → (x == c) = false := fun c h => by simpa using h
      have te : ∀ c : Int, (c == c) = true := fun c => by simp
      by_cases x0 : x = 0
      · have xe0 : (x == 0) = true := by rw [x0]; rfl
        simp (config := {implicitDefEqProofs := false, maxDischargeDepth := 20}) (disch := first | omega | (simp only [lenE]; done) | (simp only [lenE]; omega) | rfl | (simp only [lenE, markR_len]; done) | (simp only [lenE, markR_len]; omega)) only [runE, mapE, listE, initT_5, initT_6, initT_7, initT_8, resV, oneV, binA, unA, reduceCtorEq, Nat.reduceEqDiff, Nat.reduceAdd, Nat.reduceLT, Nat.reduceLeDiff, Nat.reduceMul, Nat.reduceSub, ↓reduceIte, decide_true, decide_false, Bool.true_eq_false, Bool.false_eq_true, Bool.not_true, Bool.not_false, if_true, if_false, and_true, true_and, memE, celE, w64, Nat.zero_add, Nat.add_zero, Nat.mul_one, putL, and_self, ldn, t0, t4, t5, t6, xe0, b4a, q0, q1, q2, q3]
        refine ⟨?_, ?_, ?_⟩
        all_goals
          refine callH_ac (among_new M7 cb id a7 l [-1, 20, 21, 4611686018427387904] s7.cur (by omega) rfl rfl (by simp) (by simp)) ?_
          rintro r My ⟨y, hy, rfl, wy, ay, hay, ky⟩
          have s8 := s7.draw hid wy ky
          obtain ⟨q0, q1, q2, q3⟩ := s8.rd
          obtain ⟨M8, i1, i2, s9⟩ := s8.set hid hcb (o := 0) (by omega) (j := jn) (by rw [hlen 0 (by omega)]; omega) y
          obtain ⟨r0, r1, r2, r3⟩ := s9.rd
          obtain ⟨M9, m1, u0, u1, u2, u3, m2, m3, m4⟩ := s9.fin hid hcb (len0 y)
          simp (config := {implicitDefEqProofs := false, maxDischargeDepth := 20}) (disch := first | omega | (simp only [lenE]; done) | (simp only [lenE]; omega) | rfl | (simp only [lenE, markR_len]; done) | (simp only [lenE, markR_len]; omega)) only [runE, mapE, listE, initT_5, initT_6, initT_7, initT_8, resV, oneV, binA, unA, reduceCtorEq, Nat.reduceEqDiff, Nat.reduceAdd, Nat.reduceLT, Nat.reduceLeDiff, Nat.reduceMul, Nat.reduceSub, ↓reduceIte, decide_true, decide_false, Bool.true_eq_false, Bool.false_eq_true, Bool.not_true, Bool.not_false, if_true, if_false, and_true, true_and, memE, celE, w64, Nat.zero_add, Nat.add_zero, Nat.mul_one, putL, and_self, ldn, t0, t4, t5, t6, q0, q1, q2, q3, i1, i2, r0, r1, r2, r3, stP_aggL, m1, u0, u1, u2, u3]
          exact ⟨⟨_, _, _, _⟩, ⟨m2.1, m2.2⟩, m3, ay, by omega, m4⟩
      by_cases x1 : x = 1
      · have xe1 : (x == 1) = true := by rw [x1]; rfl
        simp (config := {implicitDefEqProofs := false, maxDischargeDepth := 20}) (disch := first | omega | (simp only [lenE]; done) | (simp only [lenE]; omega) | rfl | (simp only [lenE, markR_len]; done) | (simp only [lenE, markR_len]; omega)) only [runE, mapE, listE, initT_5, initT_6, initT_7, initT_8, resV, oneV, binA, unA, reduceCtorEq, Nat.reduceEqDiff, Nat.reduceAdd, Nat.reduceLT, Nat.reduceLeDiff, Nat.reduceMul, Nat.reduceSub, ↓reduceIte, decide_true, decide_false, Bool.true_eq_false, Bool.false_eq_true, Bool.not_true, Bool.not_false, if_true, if_false, and_true, true_and, memE, celE, w64, Nat.zero_add, Nat.add_zero, Nat.mul_one, putL, and_self, ldn, t0, t4, t5, t6, ne 0 x0, xe1, b3a, q0, q1, q2, q3]
        refine ⟨?_, ?_, ?_⟩
        all_goals
          refine callH_ac (among_new M7 cb id a7 l [-1, 99, 100] s7.cur (by omega) rfl rfl (by simp) (by simp)) ?_
          rintro r My ⟨y, hy, rfl, wy, ay, hay, ky⟩
          have s8 := s7.draw hid wy ky
          obtain ⟨q0, q1, q2, q3⟩ := s8.rd
          obtain ⟨M8, i1, i2, s9⟩ := s8.set hid hcb (o := 1) (by omega) (j := jn) (by rw [hlen 1 (by omega)]; omega) y
          obtain ⟨r0, r1, r2, r3⟩ := s9.rd
          obtain ⟨M9, m1, u0, u1, u2, u3, m2, m3, m4⟩ := s9.fin hid hcb (len1 y)
          simp (config := {implicitDefEqProofs := false, maxDischargeDepth := 20}) (disch := first | omega | (simp only [lenE]; done) | (simp only [lenE]; omega) | rfl | (simp only [lenE, markR_len]; done) | (simp only [lenE, markR_len]; omega)) only [runE, mapE, listE, initT_5, initT_6, initT_7, initT_8, resV, oneV, binA, unA, reduceCtorEq, Nat.reduceEqDiff, Nat.reduceAdd, Nat.reduceLT, Nat.reduceLeDiff, Nat.reduceMul, Nat.reduceSub, ↓reduceIte, decide_true, decide_false, Bool.true_eq_false, Bool.false_eq_true, Bool.not_true, Bool.not_false, if_true, if_false, and_true, true_and, memE, celE, w64, Nat.zero_add, Nat.add_zero, Nat.mul_one, putL, and_self, ldn, t0, t4, t5, t6, q0, q1, q2, q3, i1, i2, r0, r1, r2, r3, stP_aggL, m1, u0, u1, u2, u3]
          exact ⟨⟨_, _, _, _⟩, ⟨m2.1, m2.2⟩, m3, ay, by omega, m4⟩
      by_cases x2 : x = 2
      · have xe2 : (x == 2) = true := by rw [x2]; rfl
        simp (config := {implicitDefEqProofs := false, maxDischargeDepth := 20}) (disch := first | omega | (simp only [lenE]; done) | (simp only [lenE]; omega) | rfl | (simp only [lenE, markR_len]; done) | (simp only [lenE, markR_len]; omega)) only [runE, mapE, listE, initT_5, initT_6, initT_7, initT_8, resV, oneV, binA, unA, reduceCtorEq, Nat.reduceEqDiff, Nat.reduceAdd, Nat.reduceLT, Nat.reduceLeDiff, Nat.reduceMul, Nat.reduceSub, ↓reduceIte, decide_true, decide_false, Bool.true_eq_false, Bool.false_eq_true, Bool.not_true, Bool.not_false, if_true, if_false, and_true, true_and, memE, celE, w64, Nat.zero_add, Nat.add_zero, Nat.mul_one, putL, and_self, ldn, t0, t4, t5, t6, ne 0 x0, ne 1 x1, xe2, b3b, q0, q1, q2, q3]
        refine ⟨?_, ?_, ?_⟩
        all_goals
          refine callH_ac (among_new M7 cb id a7 l [-1, 9, 10] s7.cur (by omega) rfl rfl (by simp) (by simp)) ?_
          rintro r My ⟨y, hy, rfl, wy, ay, hay, ky⟩
          have s8 := s7.draw hid wy ky
          obtain ⟨q0, q1, q2, q3⟩ := s8.rd
          obtain ⟨M8, i1, i2, s9⟩ := s8.set hid hcb (o := 2) (by omega) (j := jn) (by rw [hlen 2 (by omega)]; omega) y
          obtain ⟨r0, r1, r2, r3⟩ := s9.rd
          obtain ⟨M9, m1, u0, u1, u2, u3, m2, m3, m4⟩ := s9.fin hid hcb (len2 y)
          simp (config := {implicitDefEqProofs := false, maxDischargeDepth := 20}) (disch := first | omega | (simp only [lenE]; done) | (simp only [lenE]; omega) | rfl | (simp only [lenE, markR_len]; done) | (simp only [lenE, markR_len]; omega)) only [runE, mapE, listE, initT_5, initT_6, initT_7, initT_8, resV, oneV, binA, unA, reduceCtorEq, Nat.reduceEqDiff, Nat.reduceAdd, Nat.reduceLT, Nat.reduceLeDiff, Nat.reduceMul, Nat.reduceSub, ↓reduceIte, decide_true, decide_false, Bool.true_eq_false, Bool.false_eq_true, Bool.not_true, Bool.not_false, if_true, if_false, and_true, true_and, memE, celE, w64, Nat.zero_add, Nat.add_zero, Nat.mul_one, putL, and_self, ldn, t0, t4, t5, t6, q0, q1, q2, q3, i1, i2, r0, r1, r2, r3, stP_aggL, m1, u0, u1, u2, u3]
          exact ⟨⟨_, _, _, _⟩, ⟨m2.1, m2.2⟩, m3, ay, by omega, m4⟩
      by_cases x3 : x = 3
      · have xe3 : (x == 3) = true := by rw [x3]; rfl
        simp (config := {implicitDefEqProofs := false, maxDischargeDepth := 20}) (disch := first | omega | (simp only [lenE]; done) | (simp only [lenE]; omega) | rfl | (simp only [lenE, markR_len]; done) | (simp only [lenE, markR_len]; omega)) only [runE, mapE, listE, initT_5, initT_6, initT_7, initT_8, resV, oneV, binA, unA, reduceCtorEq, Nat.reduceEqDiff, Nat.reduceAdd, Nat.reduceLT, Nat.reduceLeDiff, Nat.reduceMul, Nat.reduceSub, ↓reduceIte, decide_true, decide_false, Bool.true_eq_false, Bool.false_eq_true, Bool.not_true, Bool.not_false, if_true, if_false, and_true, true_and, memE, celE, w64, Nat.zero_add, Nat.add_zero, Nat.mul_one, putL, and_self, ldn, t0, t4, t5, t6, ne 0 x0, ne 1 x1, ne 2 x2, xe3, b3b, q0, q1, q2, q3]
        refine ⟨?_, ?_, ?_⟩
        all_goals
          refine callH_ac (among_new M7 cb id a7 l [-1, 9, 10] s7.cur (by omega) rfl rfl (by simp) (by simp)) ?_
          rintro r My ⟨y, hy, rfl, wy, ay, hay, ky⟩
          have s8 := s7.draw hid wy ky
          obtain ⟨q0, q1, q2, q3⟩ := s8.rd
          obtain ⟨M8, i1, i2, s9⟩ := s8.set hid hcb (o := 3) (by omega) (j := jn) (by rw [hlen 3 (by omega)]; omega) y
          obtain ⟨r0, r1, r2, r3⟩ := s9.rd
          obtain ⟨M9, m1, u0, u1, u2, u3, m2, m3, m4⟩ := s9.fin hid hcb (len3 y)
          simp (config := {implicitDefEqProofs := false, maxDischargeDepth := 20}) (disch := first | omega | (simp only [lenE]; done) | (simp only [lenE]; omega) | rfl | (simp only [lenE, markR_len]; done) | (simp only [lenE, markR_len]; omega)) only [runE, mapE, listE, initT_5, initT_6, initT_7, initT_8, resV, oneV, binA, unA, reduceCtorEq, Nat.reduceEqDiff, Nat.reduceAdd, Nat.reduceLT, Nat.reduceLeDiff, Nat.reduceMul, Nat.reduceSub, ↓reduceIte, decide_true, decide_false, Bool.true_eq_false, Bool.false_eq_true, Bool.not_true, Bool.not_false, if_true, if_false, and_true, true_and, memE, celE, w64, Nat.zero_add, Nat.add_zero, Nat.mul_one, putL, and_self, ldn, t0, t4, t5, t6, q0, q1, q2, q3, i1, i2, r0, r1, r2, r3, stP_aggL, m1, u0, u1, u2, u3]
          exact ⟨⟨_, _, _, _⟩, ⟨m2.1, m2.2⟩, m3, ay, by omega, m4⟩
      by_cases x4 : x = 4
      · have xe4 : (x == 4) = true := by rw [x4]; rfl
        obtain ⟨A1, A2, e1, e2, sa⟩ := s7.app hid hcb (o := 2) (by omega) (by rw [hlen 2 (by omega)]; omega) 1
        obtain ⟨r0, r1, r2, r3⟩ := sa.rd
        obtain ⟨M9, m1, u0, u1, u2, u3, m2, m3, m4⟩ := sa.fin hid hcb (fun i hi => by
          by_cases e : i = 2
          · subst e; simp only [up4, if_true, List.length_append, List.length_cons, List.length_nil]; rw [hlen 2 (by omega)]; omega
          · simp only [up4, if_neg e]; rw [hlen i hi]; omega)
        simp (config := {implicitDefEqProofs := false, maxDischargeDepth := 20}) (disch := first | omega | (simp only [lenE]; done) | (simp only [lenE]; omega) | rfl | (simp only [lenE, markR_len]; done) | (simp only [lenE, markR_len]; omega)) only [runE, mapE, listE, initT_5, initT_6, initT_7, initT_8, resV, oneV, binA, unA, reduceCtorEq, Nat.reduceEqDiff, Nat.reduceAdd, Nat.reduceLT, Nat.reduceLeDiff, Nat.reduceMul, Nat.reduceSub, ↓reduceIte, decide_true, decide_false, Bool.true_eq_false, Bool.false_eq_true, Bool.not_true, Bool.not_false, if_true, if_false, and_true, true_and, memE, celE, w64, Nat.zero_add, Nat.add_zero, Nat.mul_one, putL, and_self, ldn, t0, t4, t5, t6, ne 0 x0, ne 1 x1, ne 2 x2, ne 3 x3, xe4, q0, q1, q2, q3, b1, e1, e2, r0, r1, r2, r3, stP_aggL, m1, u0, u1, u2, u3]
        exact ⟨⟨_, _, _, _⟩, ⟨m2.1, m2.2⟩, m3, a7, by omega, m4⟩
      by_cases x5 : x = 5
      · have xe5 : (x == 5) = true := by rw [x5]; rfl
        simp (config := {implicitDefEqProofs := false, maxDischargeDepth := 20}) (disch := first | omega | (simp only [lenE]; done) | (simp only [lenE]; omega) | rfl | (simp only [lenE, markR_len]; done) | (simp only [lenE, markR_len]; omega)) only [runE, mapE, listE, initT_5, initT_6, initT_7, initT_8, resV, oneV, binA, unA, reduceCtorEq, Nat.reduceEqDiff, Nat.reduceAdd, Nat.reduceLT, Nat.reduceLeDiff, Nat.reduceMul, Nat.reduceSub, ↓reduceIte, decide_true, decide_false, Bool.true_eq_false, Bool.false_eq_true, Bool.not_true, Bool.not_false, if_true, if_false, and_true, true_and, memE, celE, w64, Nat.zero_add, Nat.add_zero, Nat.mul_one, putL, and_self, ldn, t0, t4, t5, t6, ne 0 x0, ne 1 x1, ne 2 x2, ne 3 x3, ne 4 x4, xe5]
        refine loop_inv mixed (fun s => ∃ (My : Mem) (vy : Nat → Value) (ly : Nat → List Int) (ry : Nat → Nat) (n' : Nat), n' ≤ 9 ∧ St3 M My cb id a7 M1.length l vy ly ry ∧ (∀ i, i < 4 → (ly i).length = n') ∧ s.t 4 = .pointer (some ⟨M.length, 0, none⟩) ∧ s.t 6 = .pointer (some ⟨M1.length, 0, none⟩) ∧ s.m = My)
            (fun s => 9 - (match rdc s.m M1.length 0 with | some v => lenOfA v | none => 0))
          ⟨M7, vs, ls, rs, t, by omega, s7, hlen, by simp only [put_t, put_t', put_m, putT_t, putT_t', putT_m, init_t, init_m, initT_0, initT_1, initT_2, initT_3, initT_4, initT_5, initT_6, initT_7, initT_8, Nat.reduceEqDiff, ↓reduceIte, t4], by simp only [put_t, put_t', put_m, putT_t, putT_t', putT_m, init_t, init_m, initT_0, initT_1, initT_2, initT_3, initT_4, initT_5, initT_6, initT_7, initT_8, Nat.reduceEqDiff, ↓reduceIte, t6], rfl⟩ ?_
        rintro s ⟨My, vy, ly, ry, n', hn', sy, hly, t4, t6, tm⟩
        obtain ⟨q0, q1, q2, q3⟩ := sy.rd
        have i0 := (sy.kc.row 0 (by omega)).ints (by rw [hly 0 (by omega)]; omega)
        have l0 := i0.len
        rw [hly 0 (by omega)] at l0
        by_cases h9 : (n' : Int) < 9
        · obtain ⟨A1, A2, e1, e2, sa⟩ := sy.app hid hcb (o := 0) (by omega) (by rw [hly 0 (by omega)]; omega) 1
          have p1 : rdc A2 M1.length 1 = some (vy 1) := sa.rd.2.1
          obtain ⟨B1, B2, f1, f2, sb⟩ := sa.app hid hcb (o := 1) (by omega) (by show (ly 1).length ≤ 1000; rw [hly 1 (by omega)]; omega) 1
          have p2 : rdc B2 M1.length 2 = some (vy 2) := sb.rd.2.2.1
          obtain ⟨C1, C2, g1, g2, sc⟩ := sb.app hid hcb (o := 2) (by omega) (by show (ly 2).length ≤ 1000; rw [hly 2 (by omega)]; omega) 1
          have p3 : rdc C2 M1.length 3 = some (vy 3) := sc.rd.2.2.2
          obtain ⟨D1, D2, k1', k2', sd⟩ := sc.app hid hcb (o := 3) (by omega) (by show (ly 3).length ≤ 1000; rw [hly 3 (by omega)]; omega) 1
          have f1 : appP (A2 ++ [⟨.own, 3, [.int .i64 1]⟩]) 3 1 8 (vy 1) (.slice (some ⟨A2.length, 0, none⟩) 1 1) = some (.slice (some ⟨A2.length + 1, 0, none⟩) ((ly 1).length + 1) 1, B1) := f1
          have f2 : stA B1 M1.length 1 [.slice (some ⟨A2.length + 1, 0, none⟩) ((ly 1).length + 1) 1] = some B2 := f2
          have g1 : appP (B2 ++ [⟨.own, 3, [.int .i64 1]⟩]) 3 1 8 (vy 2) (.slice (some ⟨B2.length, 0, none⟩) 1 1) = some (.slice (some ⟨B2.length + 1, 0, none⟩) ((ly 2).length + 1) 1, C1) := g1
          have g2 : stA C1 M1.length 2 [.slice (some ⟨B2.length + 1, 0, none⟩) ((ly 2).length + 1) 1] = some C2 := g2
          have k1' : appP (C2 ++ [⟨.own, 3, [.int .i64 1]⟩]) 3 1 8 (vy 3) (.slice (some ⟨C2.length, 0, none⟩) 1 1) = some (.slice (some ⟨C2.length + 1, 0, none⟩) ((ly 3).length + 1) 1, D1) := k1'
          have k2' : stA D1 M1.length 3 [.slice (some ⟨C2.length + 1, 0, none⟩) ((ly 3).length + 1) 1] = some D2 := k2'
          have z0 : rdc D2 M1.length 0 = some (.slice (some ⟨My.length + 1, 0, none⟩) ((ly 0).length + 1) 1) := sd.rd.1
          simp (config := {implicitDefEqProofs := false, maxDischargeDepth := 20}) (disch := first | omega | (simp only [lenE]; done) | (simp only [lenE]; omega) | rfl | (simp only [lenE, markR_len]; done) | (simp only [lenE, markR_len]; omega)) only [runE, mapE, listE, initT_5, initT_6, initT_7, initT_8, resV, oneV, binA, unA, reduceCtorEq, Nat.reduceEqDiff, Nat.reduceAdd, Nat.reduceLT, Nat.reduceLeDiff, Nat.reduceMul, Nat.reduceSub, ↓reduceIte, decide_true, decide_false, Bool.true_eq_false, Bool.false_eq_true, Bool.not_true, Bool.not_false, if_true, if_false, and_true, true_and, memE, celE, w64, Nat.zero_add, Nat.add_zero, Nat.mul_one, putL, and_self, ldn, t4, t6, tm, q0, l0, h9, b1, e1, e2, p1, f1, f2, p2, g1, g2, p3, k1', k2']
          have lv : lenOfA (vy 0) = n' := by
            rcases sy.kc.row 0 (by omega) with ⟨h1, h2⟩ | ⟨h1, _⟩
            · rw [h1]; have := hly 0 (by omega); rw [h2] at this; exact this
            · rw [h1]; exact hly 0 (by omega)
          refine ⟨⟨D2, _, _, _, n' + 1, by omega, sd, fun i hi => ?_, rfl⟩, ?_⟩
          · match i, hi with
            | 0, _ => show (ly 0 ++ [1]).length = n' + 1; rw [List.length_append, hly 0 (by omega)]; rfl
            | 1, _ => show (ly 1 ++ [1]).length = n' + 1; rw [List.length_append, hly 1 (by omega)]; rfl
            | 2, _ => show (ly 2 ++ [1]).length = n' + 1; rw [List.length_append, hly 2 (by omega)]; rfl
            | 3, _ => show (ly 3 ++ [1]).length = n' + 1; rw [List.length_append, hly 3 (by omega)]; rfl
          · rw [z0, lv]
            show 9 - ((ly 0).length + 1) < 9 - n'
            rw [hly 0 (by omega)]
            omega
        · obtain ⟨M9, m1, u0, u1, u2, u3, m2, m3, m4⟩ := sy.fin hid hcb (fun i hi => by rw [hly i hi]; omega)
          simp (config := {implicitDefEqProofs := false, maxDischargeDepth := 20}) (disch := first | omega | (simp only [lenE]; done) | (simp only [lenE]; omega) | rfl | (simp only [lenE, markR_len]; done) | (simp only [lenE, markR_len]; omega)) only [runE, mapE, listE, initT_5, initT_6, initT_7, initT_8, resV, oneV, binA, unA, reduceCtorEq, Nat.reduceEqDiff, Nat.reduceAdd, Nat.reduceLT, Nat.reduceLeDiff, Nat.reduceMul, Nat.reduceSub, ↓reduceIte, decide_true, decide_false, Bool.true_eq_false, Bool.false_eq_true, Bool.not_true, Bool.not_false, if_true, if_false, and_true, true_and, memE, celE, w64, Nat.zero_add, Nat.add_zero, Nat.mul_one, putL, and_self, ldn, t4, t6, tm, q0, q1, q2, q3, l0, h9, stP_aggL, m1, u0, u1, u2, u3]
          exact ⟨⟨_, _, _, _⟩, ⟨m2.1, m2.2⟩, m3, a7, by omega, m4⟩
      obtain ⟨M9, m1, u0, u1, u2, u3, m2, m3, m4⟩ := s7.fin hid hcb (fun i hi => by rw [hlen i hi]; omega)
      simp (config := {implicitDefEqProofs := false, maxDischargeDepth := 20}) (disch := first | omega | (simp only [lenE]; done) | (simp only [lenE]; omega) | rfl | (simp only [lenE, markR_len]; done) | (simp only [lenE, markR_len]; omega)) only [runE, mapE, listE, initT_5, initT_6, initT_7, initT_8, resV, oneV, binA, unA, reduceCtorEq, Nat.reduceEqDiff, Nat.reduceAdd, Nat.reduceLT, Nat.reduceLeDiff, Nat.reduceMul, Nat.reduceSub, ↓reduceIte, decide_true, decide_false, Bool.true_eq_false, Bool.false_eq_true, Bool.not_true, Bool.not_false, if_true, if_false, and_true, true_and, memE, celE, w64, Nat.zero_add, Nat.add_zero, Nat.mul_one, putL, and_self, ldn, t0, t4, t5, t6, ne 0 x0, ne 1 x1, ne 2 x2, ne 3 x3, ne 4 x4, ne 5 x5, q0, q1, q2, q3, stP_aggL, m1, u0, u1, u2, u3]
      exact ⟨⟨_, _, _, _⟩, ⟨m2.1, m2.2⟩, m3, a7, by omega, m4⟩
    · obtain ⟨M9, m1, u0, u1, u2, u3, m2, m3, m4⟩ := st.fin hid hcb fun i hi => by rw [hlen i hi]; omega
      simp (config := {implicitDefEqProofs := false, maxDischargeDepth := 20}) (disch := first | omega | (simp only [lenE]; done) | (simp only [lenE]; omega) | rfl | (simp only [lenE, markR_len]; done) | (simp only [lenE, markR_len]; omega)) only [runE, mapE, listE, initT_5, initT_6, initT_7, initT_8, resV, oneV, binA, unA, reduceCtorEq, Nat.reduceEqDiff, Nat.reduceAdd, Nat.reduceLT, Nat.reduceLeDiff, Nat.reduceMul, Nat.reduceSub, ↓reduceIte, decide_true, decide_false, Bool.true_eq_false, Bool.false_eq_true, Bool.not_true, Bool.not_false, if_true, if_false, and_true, true_and, memE, celE, w64, Nat.zero_add, Nat.add_zero, Nat.mul_one, putL, and_self, ldn, t4, t6, tm, hN0, q0, q1, q2, q3, stP_aggL, m1, u0, u1, u2, u3]
      exact ⟨⟨_, _, _, _⟩, ⟨m2.1, m2.2⟩, m3, ax, by omega, m4⟩
theorem IntsA.one {M : Mem} {v : Value} {l : List Int} (h : IntsA M v l) : v.oneCell' = true := by
  have := h.src
  unfold slR at this
  split at this <;> first | rfl | cases this
theorem lots_ac (M : Mem) (cb id a : Nat) (l : List Int) (h : CurA M cb l id a) (ha : a ≤ 999000000) :
    AC Try.prog 83 [.pointer (some ⟨id, 0, none⟩)] M fun r M' => ∃ k : Cs, (k.need.length ≤ 1000 ∧ Lives M.length M' r k) ∧ Cw id M M' ∧ ∃ a', a' ≤ a + 1000 ∧ CurA M' cb l id a' := by
  refine ac_of_run mixed ok_spec_l1Cur__lots (by simp) (go_start _ _ _ ?_)
  have hid := h.lt
  have hcb : cb < M.length := (List.getElem?_eq_some_iff.1 h.code).1
  simp (config := {implicitDefEqProofs := false, maxDischargeDepth := 20}) (disch := first | omega | (simp only [lenE]; done) | (simp only [lenE]; omega) | rfl | (simp only [lenE, markR_len]; done) | (simp only [lenE, markR_len]; omega)) only [runE, mapE, listE, initT_5, initT_6, initT_7, initT_8, resV, oneV, binA, unA, reduceCtorEq, Nat.reduceEqDiff, Nat.reduceAdd, Nat.reduceLT, Nat.reduceLeDiff, Nat.reduceMul, Nat.reduceSub, ↓reduceIte, decide_true, decide_false, Bool.true_eq_false, Bool.false_eq_true, Bool.not_true, Bool.not_false, if_true, if_false, and_true, true_and, memE, celE, w64, Nat.zero_add, Nat.add_zero, Nat.mul_one, putL, and_self, ldn, c_spec_l1Cur__lots, r_spec_l1Cur__lots]
  refine callH_ac (someLots_ac _ cb id a l 8 (h.ext _) ha (by omega)) ?_
  rintro r M1 ⟨k, ⟨hsm, lv⟩, w1, a1, ha1, k1⟩
  obtain ⟨v1, v2, v3, v4, rfl, i1, i2, i3, i4⟩ := lv.here.ok
  have hres : M1[M.length]? = some ⟨.own, 52, [.slice none 0 0, .slice none 0 0, .slice none 0 0, .slice none 0 0]⟩ := (w1.old M.length (by omega) (by simp)).trans (by simp)
  have hlt := (List.getElem?_eq_some_iff.1 hres).1
  have hs : stA M1 M.length 0 [v1, v2, v3, v4] = some (M1.set M.length ⟨.own, 52, [v1, v2, v3, v4]⟩) := by
    unfold stA
    rw [hres]
    simp [onesB, i1.one, i2.one, i3.one, i4.one, putL]
  have self : (M1.set M.length ⟨.own, 52, [v1, v2, v3, v4]⟩)[M.length]? = some ⟨.own, 52, [v1, v2, v3, v4]⟩ := List.getElem?_set_self hlt
  have low : ∀ i, i ≠ M.length → (M1.set M.length ⟨.own, 52, [v1, v2, v3, v4]⟩)[i]? = M1[i]? := fun i hi => List.getElem?_set_ne (Ne.symm hi)
  have r0 : rdc (M1.set M.length ⟨.own, 52, [v1, v2, v3, v4]⟩) M.length 0 = some v1 := by unfold rdc; rw [self]; rfl
  have r1 : rdc (M1.set M.length ⟨.own, 52, [v1, v2, v3, v4]⟩) M.length 1 = some v2 := by unfold rdc; rw [self]; rfl
  have r2 : rdc (M1.set M.length ⟨.own, 52, [v1, v2, v3, v4]⟩) M.length 2 = some v3 := by unfold rdc; rw [self]; rfl
  have r3 : rdc (M1.set M.length ⟨.own, 52, [v1, v2, v3, v4]⟩) M.length 3 = some v4 := by unfold rdc; rw [self]; rfl
  obtain ⟨M2, hM2⟩ : ∃ M2, M2 = M1.set M.length ⟨.own, 52, [v1, v2, v3, v4]⟩ := ⟨_, rfl⟩
  rw [← hM2] at hs self low r0 r1 r2 r3
  have w0 := w1.pre (noRo_own noRo_nil) hid
  simp (config := {implicitDefEqProofs := false, maxDischargeDepth := 20}) (disch := first | omega | (simp only [lenE]; done) | (simp only [lenE]; omega) | rfl | (simp only [lenE, markR_len]; done) | (simp only [lenE, markR_len]; omega)) only [runE, mapE, listE, initT_5, initT_6, initT_7, initT_8, resV, oneV, binA, unA, reduceCtorEq, Nat.reduceEqDiff, Nat.reduceAdd, Nat.reduceLT, Nat.reduceLeDiff, Nat.reduceMul, Nat.reduceSub, ↓reduceIte, decide_true, decide_false, Bool.true_eq_false, Bool.false_eq_true, Bool.not_true, Bool.not_false, if_true, if_false, and_true, true_and, memE, celE, w64, Nat.zero_add, Nat.add_zero, Nat.mul_one, putL, and_self, ldn, stP_aggL, hs, r0, r1, r2, r3]
  refine ⟨k, ⟨hsm, fun M3 h3 => lv M3 fun i q1 q2 => ?_⟩, ⟨by rw [hM2]; have := w0.len; simpa using this, fun i e hi => (low i (by omega)).trans (w0.old i e hi), fun i bk hi hb => ?_⟩, a1, ha1, ?_⟩
  · have q1 : M.length + 1 ≤ i := by simpa using q1
    rw [h3 i (by omega) (by rw [hM2]; simpa using q2), low i (by omega)]
  · by_cases e : i = M.length
    · subst e
      rw [self] at hb
      cases hb
      simp
    · rw [low i e] at hb
      exact w0.new i bk hi hb
  · obtain ⟨seed, hb⟩ := k1.box
    exact ⟨(low cb (by omega)).trans k1.code, k1.byte, k1.few, seed, (low id (by omega)).trans hb⟩
end Go.Proofs.Ytdgfbmilbhckiaa.Ab
end
section
namespace Go.Proofs.Ytdgfbmilbhckiaa.Ab
open Go Go.RowKit Go.Proofs
set_option maxRecDepth 100000
def c_spec_LifeGains : ACode := .seq (.reg [⟨(some 1), .box 52 (.tmp 0), none⟩,
  ⟨(some 2), .mv (.const (.slice none 0 0)), none⟩,
  ⟨(some 3), .mv (.const (.bool false)), none⟩])
 (.seq (.reg [⟨(some 10), .bsl 3 1 0 [] [], none⟩,
  ⟨(some 4), .mv (.tmp 10), none⟩])
 (.seq (.seq (.reg [⟨(some 11), .ld (some 4) (.tmp 1), none⟩,
  ⟨(some 12), .call (.func 88) [(.tmp 11)], none⟩,
  ⟨(some 13), .un .not (.tmp 12), none⟩])
 (.cond (.tmp 13) (.seq (.reg [⟨(some 14), .mv (.tmp 4), none⟩,
  ⟨(some 2), .mv (.tmp 14), none⟩,
  ⟨(some 3), .mv (.const (.bool false)), none⟩])
 (.ret)) (.skip)))
 (.seq (.seq (.reg [⟨(some 5), .mv (.const (.int .i64 1)), none⟩])
 (.block 0 (.loop (.seq (.seq (.reg [⟨(some 15), .mv (.tmp 5), none⟩,
  ⟨(some 16), .bin .lss (.tmp 15) (.const (.int .i64 8)), none⟩])
 (.cond (.tmp 16) (.skip) (.exit 0)))
 (.seq (.block 1 (.seq (.reg [⟨(some 20), .ld (some 4) (.tmp 1), none⟩,
  ⟨(some 21), .mv (.tmp 5), none⟩,
  ⟨(some 22), .call (.func 82) [(.tmp 20), (.tmp 21)], none⟩,
  ⟨(some 19), .mv (.tmp 22), none⟩,
  ⟨(some 23), .ext 0 (.tmp 19), none⟩,
  ⟨(some 24), .ext 1 (.tmp 19), none⟩,
  ⟨(some 6), .mv (.tmp 23), none⟩,
  ⟨(some 7), .mv (.tmp 24), none⟩])
 (.seq (.reg [⟨(some 26), .ld (some 4) (.tmp 1), none⟩,
  ⟨(some 27), .mv (.tmp 5), none⟩,
  ⟨(some 28), .bin .add (.tmp 27) (.const (.int .i64 1)), none⟩,
  ⟨(some 29), .call (.func 82) [(.tmp 26), (.tmp 28)], none⟩,
  ⟨(some 25), .mv (.tmp 29), none⟩,
  ⟨(some 30), .ext 0 (.tmp 25), none⟩,
  ⟨(some 31), .ext 1 (.tmp 25), none⟩,
  ⟨(some 8), .mv (.tmp 30), none⟩,
  ⟨(some 9), .mv (.tmp 31), none⟩])
 (.reg [⟨(some 32), .mv (.tmp 4), none⟩,
  ⟨(some 33), .mv (.tmp 7), none⟩,
  ⟨(some 34), .mv (.tmp 9), none⟩,
  ⟨(some 35), .bin .sub (.tmp 33) (.tmp 34), none⟩,
  ⟨(some 36), .bsl 3 1 1 [(.int .i64 0)] [(0, 1, (.tmp 35))], none⟩,
  ⟨(some 37), .app 3 1 8 (.tmp 32) (.tmp 36), none⟩,
  ⟨(some 4), .mv (.tmp 37), none⟩]))))
 (.reg [⟨(some 17), .mv (.tmp 5), none⟩,
  ⟨(some 18), .bin .add (.tmp 17) (.const (.int .i64 1)), none⟩,
  ⟨(some 5), .mv (.tmp 18), none⟩]))))))
 (.seq (.reg [⟨(some 38), .mv (.tmp 4), none⟩,
  ⟨(some 2), .mv (.tmp 38), none⟩,
  ⟨(some 3), .mv (.const (.bool true)), none⟩])
 (.ret)))))
def r_spec_LifeGains : List ARes := [.tmp 2, .tmp 3]
theorem ok_spec_LifeGains : FnOk Try.prog 42 39 c_spec_LifeGains r_spec_LifeGains := ⟨⟨Try.f42, _, Try.func42, by kernel_rfl, rfl, rfl, by kernel_rfl, by kernel_rfl⟩⟩
end Go.Proofs.Ytdgfbmilbhckiaa.Ab
end
section
namespace Go.Proofs.Ytdgfbmilbhckiaa.Ab
open Go Go.RowKit
set_option linter.unusedVariables false
set_option linter.unusedSimpArgs false
theorem app_all {M : Mem} {l0 l : List Int} {id : Nat} {v : Value} (h : OwnR M id l0) (hi : IntsA M v l) (hb : l0.length + l.length ≤ 1048576) :
    appP M 3 1 8 (.slice (some ⟨id, 0, none⟩) l0.length 1) v = some (.slice (some ⟨M.length, 0, none⟩) (l0.length + l.length) 1, M.set id deadB ++ [⟨.own, 3, (l0 ++ l).map (Value.int .i64)⟩]) := by
  unfold appP
  rw [hi.src]
  simp only [onesB_ints, if_true, appA, hi.lenOf]
  rw [show M[id]? = some (rowB l0) from h]
  simp only [List.length_map, Nat.mul_one, true_and]
  rw [if_pos (by omega)]
  simp
end Go.Proofs.Ytdgfbmilbhckiaa.Ab
end
section
namespace Go.Proofs.Ytdgfbmilbhckiaa.Ab
open Go Go.RowKit
set_option linter.unusedVariables false
set_option linter.unusedSimpArgs false
theorem bld_nil (z : List Value) : bldA z [] = some (.agg z.toArray) := rfl

end Go.Proofs.Ytdgfbmilbhckiaa.Ab
end
section
namespace Go.Proofs.Ytdgfbmilbhckiaa
set_option linter.unusedVariables false
set_option linter.unusedSimpArgs false
theorem sumTo_g (l : List Int) (k : Nat) : sumTo l (k + 1) = sumTo l k + l.getD k 0 := by
  by_cases h : k < l.length
  · rw [sumTo_succ (List.getElem?_eq_getElem h), List.getD_eq_getElem?_getD, List.getElem?_eq_getElem h]; rfl
  · rw [sumTo_all (by omega), sumTo_all (by omega), List.getD_eq_getElem?_getD, List.getElem?_eq_none (by omega)]; simp
def sumR (l : List Int) (i j : Nat) : Int := sumTo l j - sumTo l i
theorem sumR_self (l : List Int) (i : Nat) : sumR l i i = 0 := by unfold sumR; omega
theorem sumR_s (l : List Int) (i j : Nat) : sumR l i (j + 1) = sumR l i j + l.getD j 0 := by unfold sumR; rw [sumTo_g]; omega
theorem sumR_h (l : List Int) (i j : Nat) : sumR l i j = l.getD i 0 + sumR l (i + 1) j := by unfold sumR; rw [sumTo_g]; omega
theorem sumR_add (l : List Int) (i j h : Nat) : sumR l i j + sumR l j h = sumR l i h := by unfold sumR; omega
theorem sumR_in {l : List Int} {m : Int} (hm : 0 ≤ m) (h : ∀ x ∈ l, 0 ≤ x ∧ x ≤ m) (i d : Nat) : 0 ≤ sumR l i (i + d) ∧ sumR l i (i + d) ≤ m * d := by
  induction d with
  | zero => rw [Nat.add_zero, sumR_self]; simp
  | succ d ih =>
    have := getD_bound hm h (i + d)
    rw [← Nat.add_assoc, sumR_s]
    have : m * ((d + 1 : Nat) : Int) = m * d + m := by rw [Int.natCast_add, Int.mul_add]; simp
    omega
theorem sumR_nn {l : List Int} {m : Int} (hm : 0 ≤ m) (h : ∀ x ∈ l, 0 ≤ x ∧ x ≤ m) {i j : Nat} (hij : i ≤ j) : 0 ≤ sumR l i j := by
  have := (sumR_in hm h i (j - i)).1
  rwa [Nat.add_sub_cancel' hij] at this
theorem sumR_le8 {l : List Int} {m : Int} (hm : 0 ≤ m) (h : ∀ x ∈ l, 0 ≤ x ∧ x ≤ m) {i j : Nat} (hij : i ≤ j) (h8 : j ≤ 8) : sumR l i j ≤ m * 8 := by
  have := (sumR_in hm h i (j - i)).2
  rw [Nat.add_sub_cancel' hij] at this
  have h2 : m * ((j - i : Nat) : Int) ≤ m * 8 := Int.mul_le_mul_of_nonneg_left (by omega) hm
  omega

def rateF (k : Cs) (i t : Nat) : Int := k.unit.getD i 0 + sumR k.hold i t
theorem rateF_self (k : Cs) (i : Nat) : rateF k i i = k.unit.getD i 0 := by unfold rateF; rw [sumR_self]; omega
theorem rateF_s (k : Cs) (i t : Nat) : rateF k i (t + 1) = rateF k i t + k.hold.getD t 0 := by unfold rateF; rw [sumR_s]; omega
theorem rateF_in {k : Cs} (hg : Good k) {i t : Nat} (hit : i ≤ t) (h8 : t ≤ 8) : 0 ≤ rateF k i t ∧ rateF k i t ≤ 81 := by
  have h1 := getD_bound (m := 9) (by omega) hg.unit i
  have h2 := sumR_nn (m := 9) (by omega) hg.hold hit
  have h3 := sumR_le8 (m := 9) (by omega) hg.hold hit h8
  unfold rateF
  omega
theorem nr_in {k : Cs} (hg : Good k) {i t : Nat} (hit : i ≤ t) (h8 : t ≤ 8) : 0 ≤ k.need.getD t 0 * rateF k i t ∧ k.need.getD t 0 * rateF k i t ≤ 1620 := by
  have h1 := getD_bound (m := 20) (by omega) hg.need t
  have h2 := rateF_in hg hit h8
  have := mul_bound h1.1 h1.2 h2.1 h2.2
  omega
def spanS (k : Cs) (i : Nat) : Nat → Int
  | 0 => 0
  | t + 1 => if i ≤ t then spanS k i t + k.need.getD t 0 * rateF k i t else 0
theorem spanS_self (k : Cs) (i : Nat) : spanS k i i = 0 := by
  cases i with
  | zero => rfl
  | succ i => rw [spanS, if_neg (by omega)]
theorem spanS_s (k : Cs) {i t : Nat} (h : i ≤ t) : spanS k i (t + 1) = spanS k i t + k.need.getD t 0 * rateF k i t := by rw [spanS, if_pos h]
theorem spanS_in {k : Cs} (hg : Good k) (i d : Nat) (h8 : i + d ≤ 8) : 0 ≤ spanS k i (i + d) ∧ spanS k i (i + d) ≤ 1620 * d := by
  induction d with
  | zero => rw [Nat.add_zero, spanS_self]; simp
  | succ d ih =>
    have h1 := nr_in hg (i := i) (t := i + d) (by omega) (by omega)
    have := ih (by omega)
    rw [← Nat.add_assoc, spanS_s k (by omega)]
    omega
theorem spanS_in' {k : Cs} (hg : Good k) {i j : Nat} (hij : i ≤ j) (h8 : j ≤ 8) : 0 ≤ spanS k i j ∧ spanS k i j ≤ 12960 := by
  have := spanS_in hg i (j - i) (by omega)
  rw [Nat.add_sub_cancel' hij] at this
  omega
def spanF (k : Cs) (i j : Nat) : Int := if 0 < sumR k.need i j then k.setup.getD i 0 + spanS k i j else 0
theorem spanF_in {k : Cs} (hg : Good k) {i j : Nat} (hij : i ≤ j) (h8 : j ≤ 8) : 0 ≤ spanF k i j ∧ spanF k i j ≤ 13059 := by
  have h1 := spanS_in' hg hij h8
  have h2 := getD_bound (m := 99) (by omega) hg.setup i
  unfold spanF
  split <;> omega
def holdS (k : Cs) (i j : Nat) : Nat → Int
  | 0 => 0
  | t + 1 => if i ≤ t then holdS k i j t + k.hold.getD t 0 * sumR k.need (t + 1) j else 0
theorem holdS_self (k : Cs) (i j : Nat) : holdS k i j i = 0 := by
  cases i with
  | zero => rfl
  | succ i => rw [holdS, if_neg (by omega)]
theorem holdS_s (k : Cs) {i j t : Nat} (h : i ≤ t) : holdS k i j (t + 1) = holdS k i j t + k.hold.getD t 0 * sumR k.need (t + 1) j := by rw [holdS, if_pos h]
theorem holdS_span (k : Cs) (i j d : Nat) : holdS k i j (i + d) = spanS k i (i + d) - k.unit.getD i 0 * sumR k.need i (i + d) + sumR k.hold i (i + d) * sumR k.need (i + d) j := by
  induction d with
  | zero => rw [Nat.add_zero, holdS_self, spanS_self, sumR_self, sumR_self]; simp
  | succ d ih =>
    rw [← Nat.add_assoc, holdS_s k (by omega), spanS_s k (by omega), ih, sumR_s k.need, sumR_s k.hold, sumR_h k.need (i + d) j]
    unfold rateF
    generalize sumR k.need (i + d + 1) j = A
    generalize sumR k.need i (i + d) = B
    generalize sumR k.hold i (i + d) = C
    generalize k.need.getD (i + d) 0 = x
    generalize k.hold.getD (i + d) 0 = y
    generalize k.unit.getD i 0 = u
    generalize spanS k i (i + d) = S
    simp only [Int.mul_add, Int.add_mul]
    rw [Int.mul_comm x u, Int.mul_comm x C]
    omega
theorem spanF_order (k : Cs) {i j : Nat} (hij : i ≤ j) (hpos : 0 < sumR k.need i j) : spanF k i j = k.setup.getD i 0 + k.unit.getD i 0 * sumR k.need i j + holdS k i j j := by
  have := holdS_span k i j (j - i)
  rw [Nat.add_sub_cancel' hij, sumR_self, Int.mul_zero] at this
  unfold spanF
  rw [if_pos hpos, this]
  omega
theorem spanF_zero (k : Cs) {i j : Nat} (h : sumR k.need i j = 0) : spanF k i j = 0 := by unfold spanF; rw [h]; rfl
theorem holdS_in {k : Cs} (hg : Good k) (i j d : Nat) (h1 : i + d ≤ j) (h8 : j ≤ 8) : 0 ≤ holdS k i j (i + d) ∧ holdS k i j (i + d) ≤ 1440 * d := by
  induction d with
  | zero => rw [Nat.add_zero, holdS_self]; simp
  | succ d ih =>
    have b1 := getD_bound (m := 9) (by omega) hg.hold (i + d)
    have b2 := sumR_nn (m := 20) (by omega) hg.need (i := i + d + 1) (j := j) (by omega)
    have b3 := sumR_le8 (m := 20) (by omega) hg.need (i := i + d + 1) (j := j) (by omega) h8
    have := mul_bound b1.1 b1.2 b2 b3
    have := ih (by omega)
    rw [← Nat.add_assoc, holdS_s k (by omega)]
    omega
theorem holdS_in' {k : Cs} (hg : Good k) {i j t : Nat} (h0 : i ≤ t) (h1 : t ≤ j) (h8 : j ≤ 8) : 0 ≤ holdS k i j t ∧ holdS k i j t ≤ 11520 := by
  have := holdS_in hg i j (t - i) (by omega) h8
  rw [Nat.add_sub_cancel' h0] at this
  omega

def valF (k : Cs) (cs : List Int) (j i : Nat) : Int := cs.getD i 0 + spanF k i j
def lastB (f : Nat → Int) : Nat → Nat
  | 0 => 0
  | n + 1 => if f n ≤ f (lastB f n) then n else lastB f n
theorem lastB_one (f : Nat → Int) : lastB f 1 = 0 := by simp [lastB]
theorem lastB_lt (f : Nat → Int) (n : Nat) : lastB f (n + 1) ≤ n := by
  induction n with
  | zero => rw [lastB_one]; omega
  | succ n ih => rw [lastB]; split <;> omega
theorem lastB_le (f : Nat → Int) (n : Nat) : ∀ i, i < n → f (lastB f n) ≤ f i := by
  induction n with
  | zero => intro i hi; omega
  | succ n ih =>
    intro i hi
    rw [lastB]
    by_cases hc : f n ≤ f (lastB f n)
    · rw [if_pos hc]
      by_cases he : i = n
      · rw [he]; exact Int.le_refl _
      · exact Int.le_trans hc (ih i (by omega))
    · rw [if_neg hc]
      by_cases he : i = n
      · rw [he]; omega
      · exact ih i (by omega)
def fwdC (k : Cs) : Nat → List Int
  | 0 => [0]
  | j + 1 => fwdC k j ++ [valF k (fwdC k j) (j + 1) (lastB (valF k (fwdC k j) (j + 1)) (j + 1))]
def fwdB (k : Cs) (j : Nat) : Nat := lastB (valF k (fwdC k j) (j + 1)) (j + 1)
theorem fwdC_len (k : Cs) (j : Nat) : (fwdC k j).length = j + 1 := by
  induction j with
  | zero => rfl
  | succ j ih => rw [fwdC, List.length_append, ih]; rfl
theorem getD_app {l : List Int} {x : Int} {i : Nat} : (l ++ [x]).getD i 0 = if i < l.length then l.getD i 0 else if i = l.length then x else 0 := by
  rw [List.getD_eq_getElem?_getD]
  by_cases h : i < l.length
  · rw [List.getElem?_append_left h, if_pos h, List.getD_eq_getElem?_getD]
  · rw [List.getElem?_append_right (by omega), if_neg h]
    by_cases h2 : i = l.length
    · rw [if_pos h2, h2]; simp
    · rw [if_neg h2, List.getElem?_eq_none (by simp; omega)]; rfl
theorem fwdB_le (k : Cs) (j : Nat) : fwdB k j ≤ j := lastB_lt _ _
theorem fwdC_at0 (k : Cs) (j : Nat) : (fwdC k j).getD 0 0 = 0 := by
  induction j with
  | zero => rfl
  | succ j ih => rw [fwdC, getD_app, fwdC_len, if_pos (by omega), ih]
theorem fwdC_keep (k : Cs) {i j n : Nat} (hi : i ≤ j) (hj : j ≤ n) : (fwdC k n).getD i 0 = (fwdC k j).getD i 0 := by
  induction n with
  | zero => obtain rfl : j = 0 := by omega
            rfl
  | succ n ih =>
    by_cases h : j = n + 1
    · rw [h]
    · rw [fwdC, getD_app, fwdC_len, if_pos (by omega), ih (by omega)]
def bmin (k : Cs) (n i : Nat) (tail : List Int) : Nat → Int
  | 0 => spanF k i n
  | x + 1 => min (bmin k n i tail x) (spanF k i (i + 1 + x) + tail.getD x 0)
def bwdF (k : Cs) (n : Nat) : Nat → List Int
  | 0 => [0]
  | m + 1 => bmin k n (n - (m + 1)) (bwdF k n m) m :: bwdF k n m
def bwdL (k : Cs) : List Int := bwdF k k.need.length k.need.length

end Go.Proofs.Ytdgfbmilbhckiaa
end
section
namespace Go.Proofs.Ytdgfbmilbhckiaa.Ab
open Go Go.RowKit
set_option linter.unusedVariables false
set_option linter.unusedSimpArgs false
theorem sumTo_cut {l : List Int} {lo hi : Nat} (h1 : lo ≤ hi) (h2 : hi ≤ l.length) (k : Nat) (hk : k ≤ hi - lo) : sumTo (cutL l lo hi) k = sumR l lo (lo + k) := by
  induction k with
  | zero => rw [Nat.add_zero, sumR_self]; rfl
  | succ k ih => rw [sumTo_g, ih (by omega), ← Nat.add_assoc, sumR_s, cutL_at (by omega)]
theorem sumTo_cut' {l : List Int} {lo hi : Nat} (h1 : lo ≤ hi) (h2 : hi ≤ l.length) : sumTo (cutL l lo hi) (cutL l lo hi).length = sumR l lo hi := by
  rw [cutL_len h2, sumTo_cut h1 h2 _ (Nat.le_refl _), Nat.add_sub_cancel' h1]
theorem sumOf_cut_rc (m : Mem) (v' : Value) (l : List Int) {lo hi : Nat} {b : Int} (h : IntsA m v' (cutL l lo hi)) (h1 : lo ≤ hi) (h2 : hi ≤ l.length) (hb0 : 0 ≤ b) (hb1 : b ≤ 1000000) (hb : ∀ x ∈ l, 0 ≤ x ∧ x ≤ b) (h8 : l.length ≤ 1000) :
    RC Try.prog 48 [v'] m fun r new => r = .int .i64 (sumR l lo hi) ∧ new = [] := by
  have hc := cutL_len h2 (lo := lo)
  have := sumOf_rc m v' (cutL l lo hi) h fun k hk => by
    rw [hc] at hk
    rw [sumTo_cut h1 h2 k hk]
    have := sumR_in hb0 hb lo k
    have h3 : b * (k : Int) ≤ 1000000 * (k : Int) := Int.mul_le_mul_of_nonneg_right hb1 (by omega)
    omega
  rw [sumTo_cut' h1 h2] at this
  exact this
theorem Grow.box4 {m M : Mem} {e : TypeId} {v1 v2 v3 v4 : Value} (h : Grow (roM m ++ [⟨.own, e, [v1, v2, v3, v4]⟩]) M) :
    rdc M m.length 0 = some v1 ∧ rdc M m.length 1 = some v2 ∧ rdc M m.length 2 = some v3 ∧ rdc M m.length 3 = some v4 ∧ m.length < M.length := by
  have hl := h.len
  simp only [List.length_append, List.length_cons, List.length_nil, roM_len] at hl
  refine ⟨h.rd ?_, h.rd ?_, h.rd ?_, h.rd ?_, by omega⟩ <;> (rw [rdc_box (roM_len m).symm]; rfl)
theorem Grow.ext {m M : Mem} {e : TypeId} {cs : List Value} (h : Grow (roM m ++ [⟨.own, e, cs⟩]) M) : Ext m M := ((Ext.refl m).one _ _).grow h
theorem Grow.caseV {m M : Mem} {e : TypeId} {cs : List Value} {v : Value} {k : Cs} (h : Grow (roM m ++ [⟨.own, e, cs⟩]) M) (hk : CaseA (roM m) v k) : CaseA M v k := h.case (hk.ext _)
theorem Grow.intsV {m M : Mem} {e : TypeId} {cs : List Value} {v : Value} {l : List Int} (h : Grow (roM m ++ [⟨.own, e, cs⟩]) M) (hk : IntsA (roM m) v l) : IntsA M v l := h.ints (hk.ext _)
end Go.Proofs.Ytdgfbmilbhckiaa.Ab
end
section
namespace Go.Proofs.Ytdgfbmilbhckiaa.Ab
open Go Go.RowKit
set_option linter.unusedVariables false
set_option linter.unusedSimpArgs false
structure Db (M M' : Mem) (cb id a r : Nat) (l L : List Int) (bx : Blk) : Prop where
  dr : Dr M M' cb id a r l L
  box : M'[M.length]? = some bx
  gt : M.length < r
section
variable {M M' M2 : Mem} {cb id a a2 r : Nat} {l L : List Int} {bx : Blk}
theorem Db.draw (h : Db M M' cb id a r l L bx) (w : Cw id M' M2) (k : CurA M2 cb l id a2) : Db M M2 cb id a2 r l L bx :=
  ⟨h.dr.draw w k, by rw [w.old M.length (by have := h.dr.hid; omega) (List.getElem?_eq_some_iff.1 h.box).1]; exact h.box, h.gt⟩
theorem Db.st (h : Db M M' cb id a r l L bx) {j : Nat} (hj : j < L.length) (x : Int) : stA M' r j [.int .i64 x] = some (M'.set r (rowB (L.set j x))) ∧ Db M (M'.set r (rowB (L.set j x))) cb id a r l (L.set j x) bx :=
  ⟨(h.dr.st hj x).1, (h.dr.st hj x).2, by rw [List.getElem?_set_ne (by have := h.gt; omega)]; exact h.box, h.gt⟩
theorem Db.rd {e : TypeId} {cs : List Value} (h : Db M M' cb id a r l L ⟨.own, e, cs⟩) (j : Nat) : rdc M' M.length j = cs[j]? := by
  unfold rdc; rw [h.box]; rfl
theorem Db.app (h : Db M M' cb id a r l L bx) (x : Int) (hl : L.length ≤ 1000) {i : Nat} (hi : i = M'.length) : ∃ M2,
    appP (M' ++ [⟨.own, 3, [.int .i64 x]⟩]) 3 1 8 (.slice (some ⟨r, 0, none⟩) L.length 1) (.slice (some ⟨i, 0, none⟩) 1 1) = some (.slice (some ⟨M'.length + 1, 0, none⟩) (L.length + 1) 1, M2) ∧
    Dr M M2 cb id a (M'.length + 1) l (L ++ [x]) := h.dr.app x hl hi
end
end Go.Proofs.Ytdgfbmilbhckiaa.Ab
end
section
namespace Go.Proofs.Ytdgfbmilbhckiaa.Ab
open Go Go.RowKit Go.Proofs
set_option maxRecDepth 100000
def c_laws_vBig : ACode := .seq (.reg [⟨(some 2), .mv (.const (.bool false)), none⟩])
 (.seq (.reg [⟨(some 3), .mv (.tmp 0), none⟩,
  ⟨(some 4), .len (.tmp 3), none⟩,
  ⟨(some 5), .bin .gtr (.tmp 4) (.const (.int .i64 65536)), none⟩,
  ⟨(some 2), .mv (.tmp 5), none⟩])
 (.ret))
def r_laws_vBig : List ARes := [.tmp 2]
theorem ok_laws_vBig : FnOk Try.prog 6 6 c_laws_vBig r_laws_vBig := ⟨⟨Try.f6, _, Try.func6, by kernel_rfl, rfl, rfl, by kernel_rfl, by kernel_rfl⟩⟩
def c_laws_vInts : ACode := .seq (.reg [⟨(some 4), .mv (.const (.bool false)), none⟩])
 (.seq (.seq (.reg [⟨(some 6), .mv (.tmp 0), none⟩,
  ⟨(some 7), .len (.tmp 6), none⟩,
  ⟨(some 8), .mv (.tmp 1), none⟩,
  ⟨(some 9), .len (.tmp 8), none⟩,
  ⟨(some 10), .bin .neq (.tmp 7) (.tmp 9), none⟩])
 (.cond (.tmp 10) (.seq (.reg [⟨(some 4), .mv (.const (.bool false)), none⟩])
 (.ret)) (.skip)))
 (.seq (.seq (.reg [⟨(some 5), .mv (.const (.int .i64 0)), none⟩])
 (.block 0 (.loop (.seq (.seq (.reg [⟨(some 11), .mv (.tmp 5), none⟩,
  ⟨(some 12), .mv (.tmp 0), none⟩,
  ⟨(some 13), .len (.tmp 12), none⟩,
  ⟨(some 14), .bin .lss (.tmp 11) (.tmp 13), none⟩])
 (.cond (.tmp 14) (.skip) (.exit 0)))
 (.seq (.block 1 (.seq (.reg [⟨(some 17), .mv (.tmp 0), none⟩,
  ⟨(some 18), .mv (.tmp 5), none⟩,
  ⟨(some 19), .iad 1 (.tmp 17) (.tmp 18), none⟩,
  ⟨(some 20), .ld none (.tmp 19), none⟩,
  ⟨(some 21), .mv (.tmp 1), none⟩,
  ⟨(some 22), .mv (.tmp 5), none⟩,
  ⟨(some 23), .iad 1 (.tmp 21) (.tmp 22), none⟩,
  ⟨(some 24), .ld none (.tmp 23), none⟩,
  ⟨(some 25), .bin .neq (.tmp 20) (.tmp 24), none⟩])
 (.cond (.tmp 25) (.seq (.reg [⟨(some 4), .mv (.const (.bool false)), none⟩])
 (.ret)) (.skip))))
 (.reg [⟨(some 15), .mv (.tmp 5), none⟩,
  ⟨(some 16), .bin .add (.tmp 15) (.const (.int .i64 1)), none⟩,
  ⟨(some 5), .mv (.tmp 16), none⟩]))))))
 (.seq (.reg [⟨(some 4), .mv (.const (.bool true)), none⟩])
 (.ret))))
def r_laws_vInts : List ARes := [.tmp 4]
theorem ok_laws_vInts : FnOk Try.prog 22 26 c_laws_vInts r_laws_vInts := ⟨⟨Try.f22, _, Try.func22, by kernel_rfl, rfl, rfl, by kernel_rfl, by kernel_rfl⟩⟩
def c_laws_vCut : ACode := .seq (.reg [⟨(some 4), .mv (.const (.slice none 0 0)), none⟩])
 (.seq (.seq (.reg [⟨(some 5), .mv (.tmp 1), none⟩,
  ⟨(some 6), .mv (.tmp 0), none⟩,
  ⟨(some 7), .len (.tmp 6), none⟩,
  ⟨(some 8), .bin .gtr (.tmp 5) (.tmp 7), none⟩])
 (.cond (.tmp 8) (.reg [⟨(some 9), .mv (.tmp 0), none⟩,
  ⟨(some 10), .len (.tmp 9), none⟩,
  ⟨(some 1), .mv (.tmp 10), none⟩]) (.skip)))
 (.seq (.reg [⟨(some 11), .bsl 5 1 0 [] [], none⟩,
  ⟨(some 12), .mv (.tmp 0), none⟩,
  ⟨(some 13), .mv (.tmp 1), none⟩,
  ⟨(some 14), .slc 1 (.tmp 12) (some (.tmp 13)) none, none⟩,
  ⟨(some 15), .app 5 1 1 (.tmp 11) (.tmp 14), none⟩,
  ⟨(some 16), .mv (.tmp 1), none⟩,
  ⟨(some 17), .conv .u8 (.tmp 16), none⟩,
  ⟨(some 18), .bsl 5 1 1 [(.int .u8 0)] [(0, 1, (.tmp 17))], none⟩,
  ⟨(some 19), .app 5 1 1 (.tmp 15) (.tmp 18), none⟩,
  ⟨(some 4), .mv (.tmp 19), none⟩])
 (.ret)))
def r_laws_vCut : List ARes := [.tmp 4]
theorem ok_laws_vCut : FnOk Try.prog 33 20 c_laws_vCut r_laws_vCut := ⟨⟨Try.f33, _, Try.func33, by kernel_rfl, rfl, rfl, by kernel_rfl, by kernel_rfl⟩⟩
end Go.Proofs.Ytdgfbmilbhckiaa.Ab
end
section
namespace Go.Proofs.Ytdgfbmilbhckiaa.Ab
open Go Go.RowKit
set_option linter.unusedVariables false
set_option linter.unusedSimpArgs false
structure BytesA (m : Mem) (cb : Nat) (l : List Int) : Prop where
  blk : ∃ kd, kd ≠ Kd.dead ∧ m[cb]? = some ⟨kd, 5, l.map (Value.int .u8)⟩
  byte : ∀ x ∈ l, 0 ≤ x ∧ x ≤ 255
  few : l.length ≤ 65536
theorem BytesA.ro {m : Mem} {cb : Nat} {l : List Int} (h : BytesA m cb l) : (roM m)[cb]? = some ⟨.ro, 5, l.map (Value.int .u8)⟩ := by
  obtain ⟨kd, hk, hb⟩ := h.blk
  unfold roM
  rw [List.getElem?_map, hb]
  cases kd with
  | dead => exact absurd rfl hk
  | ro => rfl
  | own => rfl
theorem BytesA.ext {m : Mem} {cb : Nat} {l : List Int} (h : BytesA m cb l) (new : Mem) : BytesA (m ++ new) cb l := by
  obtain ⟨kd, hk, hb⟩ := h.blk
  exact ⟨⟨kd, hk, by rw [List.getElem?_append_left (List.getElem?_eq_some_iff.1 hb).1]; exact hb⟩, h.byte, h.few⟩
theorem CurA.start {m : Mem} {cb fl : Nat} {l : List Int} (h : BytesA m cb l) {id : Nat} (hid : id = m.length) : CurA (roM m ++ [⟨.own, 82, [.slice (some ⟨cb, 0, none⟩) l.length fl, .int .i64 0, .int .u64 0]⟩]) cb l id 0 := by
  subst hid
  have hb := h.ro
  have hlt := (List.getElem?_eq_some_iff.1 hb).1
  refine ⟨by rw [List.getElem?_append_left hlt]; exact hb, h.byte, h.few, (fl, 0), ?_⟩
  rw [List.getElem?_append_right (by rw [roM_len]; omega), roM_len]
  simp
theorem bldCur (A : Option Addr) (n c : Nat) : bldA [.slice none 0 0, .int .i64 0, .int .u64 0] [(0, 1, .slice A n c)] = some (.agg #[.slice A n c, .int .i64 0, .int .u64 0]) := rfl

theorem vBig_rc (m : Mem) (cb fl : Nat) (n : Nat) : RC Try.prog 6 [.slice (some ⟨cb, 0, none⟩) n fl] m fun r new => r = .bool (decide (65536 < n)) ∧ new = [] := by
  refine rc_of_run mixed ok_laws_vBig (by simp) (go_start _ _ _ ?_)
  simp (config := {implicitDefEqProofs := false, maxDischargeDepth := 20}) (disch := first | omega | (simp only [lenE]; done) | (simp only [lenE]; omega) | rfl | (simp only [lenE, markR_len]; done) | (simp only [lenE, markR_len]; omega)) only [runE, mapE, listE, initT_5, initT_6, initT_7, initT_8, resV, oneV, binA, unA, reduceCtorEq, Nat.reduceEqDiff, Nat.reduceAdd, Nat.reduceLT, Nat.reduceLeDiff, Nat.reduceMul, Nat.reduceSub, ↓reduceIte, decide_true, decide_false, Bool.true_eq_false, Bool.false_eq_true, Bool.not_true, Bool.not_false, if_true, if_false, and_true, true_and, memE, celE, w64, Nat.zero_add, Nat.add_zero, Nat.mul_one, putL, and_self, ldn, c_laws_vBig, r_laws_vBig, gt_iff_lt]
  refine newQ_nil ⟨?_, rfl⟩
  congr 1
  rw [decide_eq_decide]
  omega
theorem vInts_rc (m : Mem) (v u : Value) (l : List Int) (h : IntsA m v l) (h' : IntsA m u l) : RC Try.prog 22 [v, u] m fun r new => r = .bool true ∧ new = [] := by
  refine rc_of_run mixed ok_laws_vInts (by simp) (go_start _ _ _ ?_)
  obtain ⟨e1, e2, e3, e4, -⟩ := h.ro
  obtain ⟨d1, d2, d3, d4, -⟩ := h'.ro
  simp (config := {implicitDefEqProofs := false, maxDischargeDepth := 20}) (disch := first | omega | (simp only [lenE]; done) | (simp only [lenE]; omega) | rfl | (simp only [lenE, markR_len]; done) | (simp only [lenE, markR_len]; omega)) only [runE, mapE, listE, initT_5, initT_6, initT_7, initT_8, resV, oneV, binA, unA, reduceCtorEq, Nat.reduceEqDiff, Nat.reduceAdd, Nat.reduceLT, Nat.reduceLeDiff, Nat.reduceMul, Nat.reduceSub, ↓reduceIte, decide_true, decide_false, Bool.true_eq_false, Bool.false_eq_true, Bool.not_true, Bool.not_false, if_true, if_false, and_true, true_and, memE, celE, w64, Nat.zero_add, Nat.add_zero, Nat.mul_one, putL, and_self, ldn, c_laws_vInts, r_laws_vInts, e1, d1, bne_self_eq_false]
  refine loop_inv mixed (fun s => ∃ k : Nat, k ≤ l.length ∧ s.t 0 = v ∧ s.t 1 = u ∧ s.t 5 = .int .i64 k ∧ s.m = roM m) (fun s => l.length - (intOf (s.t 5)).toNat) ⟨0, by omega, rfl, rfl, rfl, rfl⟩ ?_
  rintro s ⟨k, hk, t0, t1, t5, tm⟩
  by_cases hlt : k < l.length
  · have hlt' : (k : Int) < l.length := by omega
    simp (config := {implicitDefEqProofs := false, maxDischargeDepth := 20}) (disch := first | omega | (simp only [lenE]; done) | (simp only [lenE]; omega) | rfl | (simp only [lenE, markR_len]; done) | (simp only [lenE, markR_len]; omega)) only [runE, mapE, listE, initT_5, initT_6, initT_7, initT_8, resV, oneV, binA, unA, reduceCtorEq, Nat.reduceEqDiff, Nat.reduceAdd, Nat.reduceLT, Nat.reduceLeDiff, Nat.reduceMul, Nat.reduceSub, ↓reduceIte, decide_true, decide_false, Bool.true_eq_false, Bool.false_eq_true, Bool.not_true, Bool.not_false, if_true, if_false, and_true, true_and, memE, celE, w64, Nat.zero_add, Nat.add_zero, Nat.mul_one, putL, and_self, ldn, t0, t1, t5, tm, e1, e3 k hlt, e4 k hlt, d3 k hlt, d4 k hlt, hlt', bne_self_eq_false]
    exact ⟨⟨k + 1, by omega, by simp⟩, by simp [intOf]; omega⟩
  · have hlt' : ¬ ((k : Int) < l.length) := by omega
    simp (config := {implicitDefEqProofs := false, maxDischargeDepth := 20}) (disch := first | omega | (simp only [lenE]; done) | (simp only [lenE]; omega) | rfl | (simp only [lenE, markR_len]; done) | (simp only [lenE, markR_len]; omega)) only [runE, mapE, listE, initT_5, initT_6, initT_7, initT_8, resV, oneV, binA, unA, reduceCtorEq, Nat.reduceEqDiff, Nat.reduceAdd, Nat.reduceLT, Nat.reduceLeDiff, Nat.reduceMul, Nat.reduceSub, ↓reduceIte, decide_true, decide_false, Bool.true_eq_false, Bool.false_eq_true, Bool.not_true, Bool.not_false, if_true, if_false, and_true, true_and, memE, celE, w64, Nat.zero_add, Nat.add_zero, Nat.mul_one, putL, and_self, ldn, t0, t1, t5, tm, e1, hlt']
    exact newQ_nil ⟨rfl, rfl⟩
theorem appBn {M : Mem} {id : Nat} {e : TypeId} {cs ys : List Value} {u : Value} (h : M[id]? = some ⟨.own, e, cs⟩) (hs : slR M 1 u = some ys) (hu : lenOfA u = ys.length) (ho : onesB ys = true) (hb : cs.length + ys.length ≤ 1048576) {n : Nat} (hn : n = cs.length) :
    appP M e 1 1 (.slice (some ⟨id, 0, none⟩) n 1) u = some (.slice (some ⟨M.length, 0, none⟩) (n + ys.length) 1, M.set id deadB ++ [⟨.own, e, cs ++ ys⟩]) := by
  subst hn
  unfold appP
  rw [hs]
  simp only [ho, if_true, appA, hu]
  rw [h]
  simp only [Nat.mul_one, true_and]
  rw [if_pos (by omega)]
theorem onesB_bytes (l : List Int) : onesB (l.map (Value.int .u8)) = true := by
  unfold onesB
  rw [List.all_eq_true]
  intro x hx
  obtain ⟨y, _, rfl⟩ := List.mem_map.1 hx
  rfl
theorem vCut_rc (m : Mem) (cb fl k : Nat) (l : List Int) (h : BytesA m cb l) (hk : 1 ≤ k) (hk2 : k ≤ 200) :
    RC Try.prog 33 [.slice (some ⟨cb, 0, none⟩) l.length fl, .int .i64 k] m fun r new => NoRo new ∧ ∃ (i : Nat) (l2 : List Int), r = .slice (some ⟨m.length + i, 0, none⟩) l2.length 1 ∧ new[i]? = some ⟨.own, 5, l2.map (Value.int .u8)⟩ ∧ (∀ x ∈ l2, 0 ≤ x ∧ x ≤ 255) ∧ l2.length ≤ 65536 := by
  have hro := h.ro
  have hlt := (List.getElem?_eq_some_iff.1 hro).1
  have hf := h.few
  -- what is done with the place from which is cut
  have rest : ∀ j : Nat, j ≤ l.length → j ≤ 200 → (j = k ∨ j = l.length) → ∃ M2 : Mem, ∃ M3 : Mem,
      slcA 1 (.slice (some ⟨cb, 0, none⟩) l.length fl) (some (.int .i64 (j : Int))) none = some (.slice (some ⟨cb, j, none⟩) (l.length - j) 0) ∧
      appP (roM m ++ [⟨.own, 5, []⟩]) 5 1 1 (.slice (some ⟨m.length, 0, none⟩) 0 1) (.slice (some ⟨cb, j, none⟩) (l.length - j) 0) = some (.slice (some ⟨m.length + 1, 0, none⟩) (l.length - j) 1, M2) ∧
      M2.length = m.length + 2 ∧
      appP (M2 ++ [⟨.own, 5, [.int .u8 (j : Int)]⟩]) 5 1 1 (.slice (some ⟨m.length + 1, 0, none⟩) (l.length - j) 1) (.slice (some ⟨M2.length, 0, none⟩) 1 1) = some (.slice (some ⟨m.length + 3, 0, none⟩) (l.length - j + 1) 1, M3) ∧
      Ext m M3 ∧ M3[m.length + 3]? = some ⟨.own, 5, (l.drop j ++ [(j : Int)]).map (Value.int .u8)⟩ := by
    intro j hj hj2 hjk
    have e1 : slR (roM m ++ [⟨.own, 5, []⟩]) 1 (.slice (some ⟨cb, j, none⟩) (l.length - j) 0) = some ((l.drop j).map (Value.int .u8)) := by
      simp only [slR, rdl, Nat.mul_one]
      rw [List.getElem?_append_left hlt, hro]
      have : j + (l.length - j) ≤ l.length := by omega
      simp only [this, if_true, List.length_map, List.map_drop]
      rw [if_neg (by simp)]
      congr 1
      rw [List.take_of_length_le (by simp)]
    have e2 : (roM m ++ [(⟨.own, 5, []⟩ : Blk)])[m.length]? = some ⟨.own, 5, []⟩ := by
      rw [List.getElem?_append_right (by rw [roM_len]; omega), roM_len]; simp
    have a1 := appBn (e := 5) e2 e1 (by simp [lenOfA]) (onesB_bytes _) (by simp; omega) (n := 0) rfl
    have hl1 : (roM m ++ [(⟨.own, 5, []⟩ : Blk)]).length = m.length + 1 := by simp [roM_len]
    rw [hl1] at a1
    have hdl : ((l.drop j).map (Value.int .u8)).length = l.length - j := by simp
    rw [hdl] at a1
    obtain ⟨M2, hM2⟩ : ∃ M2, M2 = (roM m ++ [(⟨.own, 5, []⟩ : Blk)]).set m.length deadB ++ [⟨.own, 5, [] ++ (l.drop j).map (Value.int .u8)⟩] := ⟨_, rfl⟩
    have hM2l : M2.length = m.length + 2 := by rw [hM2]; simp [roM_len]
    have x2 : Ext m M2 := by rw [hM2]; exact (((Ext.refl m).one _ _).dead (Nat.le_refl _)).one _ _
    have g2 : M2[m.length + 1]? = some ⟨.own, 5, (l.drop j).map (Value.int .u8)⟩ := by
      rw [hM2, List.getElem?_append_right (by simp [roM_len])]; simp [roM_len]
    have g3 : (M2 ++ [(⟨.own, 5, [.int .u8 (j : Int)]⟩ : Blk)])[m.length + 1]? = some ⟨.own, 5, (l.drop j).map (Value.int .u8)⟩ := by
      rw [List.getElem?_append_left (by omega)]; exact g2
    have e3 : slR (M2 ++ [(⟨.own, 5, [.int .u8 (j : Int)]⟩ : Blk)]) 1 (.slice (some ⟨M2.length, 0, none⟩) 1 1) = some [.int .u8 (j : Int)] := by
      simp [slR, rdl]
    have a2 := appBn (e := 5) g3 e3 (by simp [lenOfA]) (by rfl) (by simp; omega) (n := l.length - j) (by simp)
    have hl3 : (M2 ++ [(⟨.own, 5, [.int .u8 (j : Int)]⟩ : Blk)]).length = m.length + 3 := by simp; omega
    rw [hl3] at a2
    refine ⟨M2, _, ?_, by rw [a1, hM2]; simp, hM2l, a2, ?_, ?_⟩
    · have h1 : (0 : Int) ≤ j := by omega
      simp [slcA, boundA, hj]
    · exact ((x2.one _ _).dead (by omega)).one _ _
    · rw [List.getElem?_append_right (by simp; omega)]
      simp [hM2l]
  have fin : ∀ (j : Nat) (M3 : Mem), j ≤ l.length → j ≤ 200 → (j = k ∨ j = l.length) → Ext m M3 → M3[m.length + 3]? = some ⟨.own, 5, (l.drop j ++ [(j : Int)]).map (Value.int .u8)⟩ →
      newQ m (fun r new => NoRo new ∧ ∃ (i : Nat) (l2 : List Int), r = .slice (some ⟨m.length + i, 0, none⟩) l2.length 1 ∧ new[i]? = some ⟨.own, 5, l2.map (Value.int .u8)⟩ ∧ (∀ x ∈ l2, 0 ≤ x ∧ x ≤ 255) ∧ l2.length ≤ 65536) (.slice (some ⟨m.length + 3, 0, none⟩) (l.length - j + 1) 1) M3 := by
    intro j M3 hj hj2 hjk hx hg
    obtain ⟨n0, rfl, h0⟩ := hx
    refine ⟨n0, rfl, h0, h0, 3, l.drop j ++ [(j : Int)], by simp, ?_, ?_, by simp; omega⟩
    · rw [List.getElem?_append_right (by rw [roM_len]; omega), roM_len] at hg
      simpa using hg
    · intro x hx
      rcases List.mem_append.1 hx with h1 | h1
      · exact h.byte x (List.mem_of_mem_drop h1)
      · have : x = j := by simpa using h1
        omega
  refine rc_of_run mixed ok_laws_vCut (by simp) (go_start _ _ _ ?_)
  have w8 : ∀ j : Nat, j ≤ 200 → IntKind.u8.wrap (j : Int) = (j : Int) := fun j hj => by rw [IntKind.wrap_u8]; omega
  have bn : ∀ m : Mem, bslA m 5 1 0 [] [] = some (.slice (some ⟨m.length, 0, none⟩) 0 1, m ++ [⟨.own, 5, []⟩]) := fun m => rfl
  have bo : ∀ (m : Mem) (x : Int), bslA m 5 1 1 [.int .u8 0] [(0, 1, .int .u8 x)] = some (.slice (some ⟨m.length, 0, none⟩) 1 1, m ++ [⟨.own, 5, [.int .u8 x]⟩]) := fun m x => rfl
  by_cases hkl : l.length < k
  · have hkl' : (l.length : Int) < k := by omega
    obtain ⟨M2, M3, r1, r2, r3, r4, r5, r6⟩ := rest l.length (Nat.le_refl _) (by omega) (.inr rfl)
    rw [r3] at r4
    simp (config := {implicitDefEqProofs := false, maxDischargeDepth := 20}) (disch := first | omega | (simp only [lenE]; done) | (simp only [lenE]; omega) | rfl | (simp only [lenE, markR_len]; done) | (simp only [lenE, markR_len]; omega)) only [runE, mapE, listE, initT_5, initT_6, initT_7, initT_8, resV, oneV, binA, unA, reduceCtorEq, Nat.reduceEqDiff, Nat.reduceAdd, Nat.reduceLT, Nat.reduceLeDiff, Nat.reduceMul, Nat.reduceSub, ↓reduceIte, decide_true, decide_false, Bool.true_eq_false, Bool.false_eq_true, Bool.not_true, Bool.not_false, if_true, if_false, and_true, true_and, memE, celE, w64, Nat.zero_add, Nat.add_zero, Nat.mul_one, putL, and_self, ldn, c_laws_vCut, r_laws_vCut, gt_iff_lt, hkl', bn, Option.map_none, r1, r2, w8 l.length (by omega), bo, r3, r4]
    exact fin l.length M3 (Nat.le_refl _) (by omega) (.inr rfl) r5 r6
  · have hkl' : ¬ ((l.length : Int) < k) := by omega
    obtain ⟨M2, M3, r1, r2, r3, r4, r5, r6⟩ := rest k (by omega) hk2 (.inl rfl)
    rw [r3] at r4
    simp (config := {implicitDefEqProofs := false, maxDischargeDepth := 20}) (disch := first | omega | (simp only [lenE]; done) | (simp only [lenE]; omega) | rfl | (simp only [lenE, markR_len]; done) | (simp only [lenE, markR_len]; omega)) only [runE, mapE, listE, initT_5, initT_6, initT_7, initT_8, resV, oneV, binA, unA, reduceCtorEq, Nat.reduceEqDiff, Nat.reduceAdd, Nat.reduceLT, Nat.reduceLeDiff, Nat.reduceMul, Nat.reduceSub, ↓reduceIte, decide_true, decide_false, Bool.true_eq_false, Bool.false_eq_true, Bool.not_true, Bool.not_false, if_true, if_false, and_true, true_and, memE, celE, w64, Nat.zero_add, Nat.add_zero, Nat.mul_one, putL, and_self, ldn, c_laws_vCut, r_laws_vCut, gt_iff_lt, hkl', bn, Option.map_none, r1, r2, w8 k hk2, bo, r3, r4]
    exact fin k M3 (by omega) hk2 (.inl rfl) r5 r6
theorem argB {W : World} {A : Option Addr} {c : Nat} {l : List Int} (hr : Rd W W.heap.size A (l.map (Value.int .u8))) (hlc : l.length ≤ c) (hc : c ≤ maxLen) :
    ∃ p, MRel W W.heap.size [p] [⟨.ro, 5, l.map (Value.int .u8)⟩] W ∧ VR [p] (.slice (some ⟨0, 0, none⟩) l.length 0) (.slice A l.length c) := by
  have h := MRel.start W
  by_cases hl : 0 < l.length
  · obtain ⟨b, off, rfl, hb, hcell⟩ := hr (by simpa using hl)
    refine ⟨(b, off, 0), by
      have := h.addRo (e := 5) (xs := l.map (Value.int .u8)) (b := b) (o := off) (tot := 0) (fun k x hx => ⟨hb, x, hcell k x hx, by
        rw [List.getElem?_map] at hx
        cases hk : l[k]? with
        | none => rw [hk] at hx; cases hx
        | some z => rw [hk] at hx; cases hx; exact .int _ _⟩)
      simpa using this, .sl (b := b) (o := off) (tot := 0) (by simp) hlc hc (fun _ _ => by simp) (fun hf => absurd hf (by omega))⟩
  · have hl0 : l = [] := List.eq_nil_of_length_eq_zero (by omega)
    subst hl0
    exact ⟨(0, 0, 0), by
      have := h.addRo (e := 5) (xs := []) (b := 0) (o := 0) (tot := 0) (fun k x hx => by simp at hx)
      simpa using this, .sl (b := 0) (o := 0) (tot := 0) (by simp) hlc hc (fun _ hp => absurd hp (by simp)) (fun hf => absurd hf (by omega))⟩
end Go.Proofs.Ytdgfbmilbhckiaa.Ab
end
section
namespace Go.Proofs.Ytdgfbmilbhckiaa.Ab
open Go Go.RowKit
set_option linter.unusedVariables false
set_option linter.unusedSimpArgs false
theorem Lives.lower {lo lo' : Nat} {M : Mem} {v : Value} {k : Cs} (h : Lives lo M v k) (hl : lo' ≤ lo) : Lives lo' M v k := fun M3 h3 => h M3 fun i h1 h2 => h3 i (by omega) h2
theorem Lives.up {lo : Nat} {M M' : Mem} {v : Value} {k : Cs} (h : Lives lo M v k) (hl : M.length ≤ M'.length) (he : ∀ i, lo ≤ i → i < M.length → M'[i]? = M[i]?) : Lives lo M' v k := fun M3 h3 =>
  h M3 fun i h1 h2 => (h3 i h1 (by omega)).trans (he i h1 h2)
theorem cell_st {M : Mem} {c : Nat} {v1 v2 v3 v4 : Value} {cs : List Value} {k : Cs} {M0 : Mem} (h : M[c]? = some ⟨.own, 52, cs⟩) (hc : cs.length = 4) (hk : CaseA M0 (.agg #[v1, v2, v3, v4]) k) :
    stA M c 0 [v1, v2, v3, v4] = some (M.set c ⟨.own, 52, [v1, v2, v3, v4]⟩) ∧
    ∀ j, rdc (M.set c ⟨.own, 52, [v1, v2, v3, v4]⟩) c j = [v1, v2, v3, v4][j]? := by
  obtain ⟨w1, w2, w3, w4, e, i1, i2, i3, i4⟩ := hk.ok
  cases e
  have hlt := (List.getElem?_eq_some_iff.1 h).1
  refine ⟨?_, fun j => ?_⟩
  · unfold stA
    rw [h]
    obtain ⟨a, b, c', d, rfl⟩ : ∃ a b c' d, cs = [a, b, c', d] := by
      match cs, hc with
      | [a, b, c', d], _ => exact ⟨a, b, c', d, rfl⟩
    simp [onesB, i1.one, i2.one, i3.one, i4.one, putL]
  · unfold rdc
    rw [List.getElem?_set_self hlt]
    rfl
theorem ext_of {m M' : Mem} (hl : m.length ≤ M'.length) (old : ∀ i, i < m.length → M'[i]? = (roM m)[i]?) (new : ∀ (i : Nat) (b : Blk), m.length ≤ i → M'[i]? = some b → b.kd ≠ .ro) : Ext m M' := by
  have e : M' = roM m ++ M'.drop m.length := by
    apply List.ext_getElem?
    intro i
    by_cases hi : i < m.length
    · rw [List.getElem?_append_left (by rw [roM_len]; exact hi), old i hi]
    · rw [List.getElem?_append_right (by rw [roM_len]; omega), List.getElem?_drop, roM_len, Nat.add_sub_cancel' (by omega)]
  refine ⟨M'.drop m.length, e, fun c hc => ?_⟩
  obtain ⟨j, hj, rfl⟩ := List.getElem_of_mem hc
  have hg : M'[m.length + j]? = some (M'.drop m.length)[j] := by
    rw [← List.getElem?_drop, List.getElem?_eq_getElem hj]
  exact new (m.length + j) _ (by omega) hg
theorem CurA.start2 {M : Mem} {cb fl : Nat} {l : List Int} (h : M[cb]? = some ⟨.ro, 5, l.map (Value.int .u8)⟩) (hb : ∀ x ∈ l, 0 ≤ x ∧ x ≤ 255) (hf : l.length ≤ 65536) : CurA (M ++ [⟨.own, 82, [.slice (some ⟨cb, 0, none⟩) l.length fl, .int .i64 0, .int .u64 0]⟩]) cb l M.length 0 :=
  ⟨by rw [List.getElem?_append_left (List.getElem?_eq_some_iff.1 h).1]; exact h, hb, hf, (fl, 0), by simp⟩
theorem Cw.noRo {id : Nat} {A B : Mem} {lo : Nat} (h : Cw id A B) (hA : ∀ (i : Nat) (b : Blk), lo ≤ i → A[i]? = some b → b.kd ≠ .ro) {cb a : Nat} {l : List Int} (k : CurA B cb l id a) : ∀ (i : Nat) (b : Blk), lo ≤ i → B[i]? = some b → b.kd ≠ .ro := fun i b hi hb => by
  by_cases e : i = id
  · subst e
    obtain ⟨s, h2⟩ := k.box
    rw [h2] at hb
    cases hb
    simp
  · by_cases hl : i < A.length
    · rw [h.old i e hl] at hb; exact hA i b hi hb
    · exact h.new i b (by omega) hb
end Go.Proofs.Ytdgfbmilbhckiaa.Ab
end
section
namespace Go.Proofs.Ytdgfbmilbhckiaa.Ab
open Go Go.RowKit
set_option linter.unusedVariables false
set_option linter.unusedSimpArgs false
theorem app_cons {M : Mem} {l : List Int} {x : Int} {v : Value} {id : Nat} (hi : IntsA M v l) (hb : l.length ≤ 1000) (hid : id = M.length) :
    appP (M ++ [⟨.own, 3, [.int .i64 x]⟩]) 3 1 8 (.slice (some ⟨id, 0, none⟩) 1 1) v = some (.slice (some ⟨id + 1, 0, none⟩) (1 + l.length) 1, M ++ [deadB] ++ [⟨.own, 3, (x :: l).map (Value.int .i64)⟩]) := by
  subst hid
  have h := app_all (l0 := [x]) (OwnR.at_end M [x]) (hi.ext [⟨.own, 3, [x].map (Value.int .i64)⟩]) (by simp; omega)
  simpa using h
end Go.Proofs.Ytdgfbmilbhckiaa.Ab
end
section
namespace Go.Proofs.Ytdgfbmilbhckiaa
set_option linter.unusedVariables false
set_option linter.unusedSimpArgs false
structure Rising (ps : List Int) (n : Nat) : Prop where
  bd : ∀ i, i < ps.length → 0 ≤ ps.getD i 0 ∧ ps.getD i 0 < n
  up : ∀ i, i + 1 < ps.length → ps.getD i 0 < ps.getD (i + 1) 0
def nxtP (n : Nat) (ps : List Int) (i : Nat) : Nat := if i + 1 < ps.length then (ps.getD (i + 1) 0).toNat else n
def fromI (need ps : List Int) : Nat → List Int
  | 0 => List.replicate need.length 0
  | i + 1 => (fromI need ps i).set (ps.getD i 0).toNat (sumR need (ps.getD i 0).toNat (nxtP need.length ps i))
def fromL (need ps : List Int) : List Int := fromI need ps ps.length
theorem fromI_len (need ps : List Int) (i : Nat) : (fromI need ps i).length = need.length := by
  induction i with
  | zero => simp [fromI]
  | succ i ih => rw [fromI, List.length_set, ih]
theorem fromL_len (need ps : List Int) : (fromL need ps).length = need.length := fromI_len _ _ _
def covers (need ps : List Int) : Bool := decide (∀ t, t < need.length → (t : Int) < ps.headD need.length → need.getD t 0 ≤ 0)
def bitsL (c : Nat) : Nat → List Int
  | 0 => []
  | x + 1 => if c / 2 ^ x % 2 = 1 then bitsL c x ++ [(x : Int)] else bitsL c x
theorem bitsL_len (c x : Nat) : (bitsL c x).length ≤ x := by
  induction x with
  | zero => simp [bitsL]
  | succ x ih =>
    rw [bitsL]
    split
    · rw [List.length_append]; simp only [List.length_cons, List.length_nil]; omega
    · omega
theorem bitsL_mem (c x : Nat) : ∀ y ∈ bitsL c x, 0 ≤ y ∧ y < (x : Int) := by
  induction x with
  | zero => intro y hy; simp [bitsL] at hy
  | succ x ih =>
    intro y hy
    rw [bitsL] at hy
    split at hy
    · rcases List.mem_append.1 hy with h | h
      · have := ih y h; omega
      · simp at h; omega
    · have := ih y hy; omega
theorem getD_app_l (l r : List Int) {i : Nat} (h : i < l.length) : (l ++ r).getD i 0 = l.getD i 0 := by
  rw [List.getD_eq_getElem?_getD, List.getElem?_append_left h, ← List.getD_eq_getElem?_getD]
theorem getD_app_one (l : List Int) (x : Int) : (l ++ [x]).getD l.length 0 = x := by simp [List.getD_eq_getElem?_getD]
theorem getD_mem {l : List Int} {i : Nat} (h : i < l.length) : l.getD i 0 ∈ l := by
  rw [List.getD_eq_getElem?_getD, List.getElem?_eq_getElem h]; exact List.getElem_mem h
theorem bitsL_rising (c x : Nat) : Rising (bitsL c x) x := by
  refine ⟨fun i hi => bitsL_mem c x _ (getD_mem hi), ?_⟩
  induction x with
  | zero => intro i hi; simp [bitsL] at hi
  | succ x ih =>
    intro i hi
    rw [bitsL] at hi ⊢
    by_cases hb : c / 2 ^ x % 2 = 1
    · rw [if_pos hb] at hi ⊢
      simp only [List.length_append, List.length_cons, List.length_nil] at hi
      rw [getD_app_l _ _ (by omega)]
      by_cases h2 : i + 1 < (bitsL c x).length
      · rw [getD_app_l _ _ h2]; exact ih i h2
      · have e : i + 1 = (bitsL c x).length := by omega
        rw [e, getD_app_one]
        exact (bitsL_mem c x _ (getD_mem (by omega))).2
    · rw [if_neg hb] at hi ⊢; exact ih i hi
def lexB : List Int → List Int → Bool
  | x :: xs, y :: ys => if x = y then lexB xs ys else decide (x < y)
  | _, _ => false
def beforeB (a b : List Int) : Bool := if a.length = b.length then lexB a b else decide (a.length < b.length)
theorem lexB_drop {a b : List Int} {i : Nat} (ha : i < a.length) (hb : i < b.length) : lexB (a.drop i) (b.drop i) = if a.getD i 0 = b.getD i 0 then lexB (a.drop (i + 1)) (b.drop (i + 1)) else decide (a.getD i 0 < b.getD i 0) := by
  rw [List.drop_eq_getElem_cons ha, List.drop_eq_getElem_cons hb, lexB]
  simp [List.getD_eq_getElem?_getD, ha, hb]
def stepB (k : Cs) (b : List Int × Int) (ps : List Int) : List Int × Int :=
  if covers k.need ps then
    (if b.2 < 0 ∨ costOf k (fromL k.need ps) < b.2 ∨ (costOf k (fromL k.need ps) = b.2 ∧ beforeB ps b.1 = true) then (ps, costOf k (fromL k.need ps)) else b)
  else b
def bestC (k : Cs) : Nat → List Int × Int
  | 0 => ([], -1)
  | c + 1 => stepB k (bestC k c) (bitsL c k.need.length)
def bestL (k : Cs) : List Int := (bestC k (2 ^ k.need.length)).1
theorem bestC_rising (k : Cs) (c : Nat) : Rising (bestC k c).1 k.need.length := by
  induction c with
  | zero => exact ⟨fun i hi => absurd hi (by simp [bestC]), fun i hi => absurd hi (by simp [bestC])⟩
  | succ c ih =>
    rw [bestC, stepB]
    split
    · split
      · exact bitsL_rising _ _
      · exact ih
    · exact ih
def bestCost (k : Cs) : Int := costOf k (fromL k.need (bestL k))

def beg (n : Nat) (ps : List Int) (i : Nat) : Nat := if i < ps.length then (ps.getD i 0).toNat else n
theorem nxt_beg (n : Nat) (ps : List Int) (i : Nat) : nxtP n ps i = beg n ps (i + 1) := rfl
theorem Rising.lt {ps : List Int} {n : Nat} (h : Rising ps n) {i j : Nat} (hij : i < j) (hj : j < ps.length) : ps.getD i 0 < ps.getD j 0 := by
  induction j with
  | zero => omega
  | succ j ih =>
    have := h.up j hj
    by_cases e : i = j
    · subst e; exact this
    · have := ih (by omega) (by omega); omega
theorem Rising.nil (n : Nat) : Rising [] n := ⟨fun i hi => absurd hi (by simp), fun i hi => absurd hi (by simp)⟩
theorem beg_le {n : Nat} {ps : List Int} (h : Rising ps n) (i : Nat) : beg n ps i ≤ n := by
  unfold beg
  split
  · have := h.bd i ‹_›; omega
  · omega
theorem beg_nil (n i : Nat) : beg n [] i = n := by simp [beg]
theorem beg_cons0 (n : Nat) (p : Int) (r : List Int) : beg n (p :: r) 0 = p.toNat := by simp [beg]
theorem beg_cons (n : Nat) (p : Int) (r : List Int) (i : Nat) : beg n (p :: r) (i + 1) = beg n r i := by
  unfold beg
  by_cases h : i < r.length
  · rw [if_pos (by simpa using h), if_pos h]; rfl
  · rw [if_neg (by simpa using h), if_neg h]
theorem Rising.tail {p : Int} {r : List Int} {n : Nat} (h : Rising (p :: r) n) : Rising r n ∧ 0 ≤ p ∧ p.toNat < beg n r 0 := by
  have h0 := h.bd 0 (by simp)
  simp only [List.getD_cons_zero] at h0
  refine ⟨⟨fun i hi => ?_, fun i hi => ?_⟩, h0.1, ?_⟩
  · have := h.bd (i + 1) (by simpa using hi); simpa using this
  · have := h.up (i + 1) (by simpa using hi); simpa using this
  · unfold beg
    split
    · rename_i hl
      have := h.up 0 (by simpa using hl)
      simp only [List.getD_cons_zero, Nat.zero_add, List.getD_cons_succ] at this
      omega
    · omega
theorem Rising.cons {p : Int} {r : List Int} {n : Nat} (h : Rising r n) (h0 : 0 ≤ p) (hp : p.toNat < beg n r 0) : Rising (p :: r) n := by
  have hb := beg_le h 0
  refine ⟨fun i hi => ?_, fun i hi => ?_⟩
  · cases i with
    | zero => simp only [List.getD_cons_zero]; omega
    | succ i => have := h.bd i (by simpa using hi); simpa using this
  · cases i with
    | zero =>
      simp only [List.getD_cons_zero, Nat.zero_add, List.getD_cons_succ]
      have hl : 0 < r.length := by simpa using hi
      unfold beg at hp
      rw [if_pos hl] at hp
      omega
    | succ i => have := h.up i (by simpa using hi); simpa using this

def costI (k : Cs) (n : Nat) (ps : List Int) : Nat → Int
  | 0 => 0
  | i + 1 => costI k n ps i + spanF k (beg n ps i) (beg n ps (i + 1))
def costL (k : Cs) (n : Nat) (ps : List Int) : Int := costI k n ps ps.length
theorem costI_cons (k : Cs) (n : Nat) (p : Int) (r : List Int) (i : Nat) : costI k n (p :: r) (i + 1) = spanF k p.toNat (beg n r 0) + costI k n r i := by
  induction i with
  | zero => rw [costI, costI, costI, beg_cons0, beg_cons]; omega
  | succ i ih => rw [costI, ih, beg_cons, beg_cons, costI]; omega
theorem costL_nil (k : Cs) (n : Nat) : costL k n [] = 0 := rfl
theorem costL_cons (k : Cs) (n : Nat) (p : Int) (r : List Int) : costL k n (p :: r) = spanF k p.toNat (beg n r 0) + costL k n r := costI_cons k n p r r.length
theorem beg_mono {n : Nat} {ps : List Int} (h : Rising ps n) (i : Nat) (hi : i < ps.length) : beg n ps i < beg n ps (i + 1) ∨ (beg n ps i ≤ n ∧ beg n ps (i + 1) = n ∧ beg n ps i < n) := by
  have h1 := h.bd i hi
  unfold beg
  rw [if_pos hi]
  split
  · have := h.up i ‹_›; have := h.bd (i + 1) ‹_›; left; omega
  · right; omega
theorem beg_lt {n : Nat} {ps : List Int} (h : Rising ps n) {i : Nat} (hi : i < ps.length) : beg n ps i < beg n ps (i + 1) := by
  rcases beg_mono h i hi with h | ⟨_, h1, h2⟩ <;> omega
theorem costI_in {k : Cs} (hg : Good k) {ps : List Int} (h : Rising ps k.need.length) (i : Nat) (hi : i ≤ ps.length) : 0 ≤ costI k k.need.length ps i ∧ costI k k.need.length ps i ≤ 13059 * i := by
  induction i with
  | zero => simp [costI]
  | succ i ih =>
    have h1 := beg_lt h (i := i) (by omega)
    have h2 := beg_le h (i + 1)
    have h3 := hg.n8
    have := spanF_in hg (Nat.le_of_lt h1) (by omega)
    have := ih (by omega)
    rw [costI]
    omega
theorem Rising.len {n : Nat} : ∀ {ps : List Int}, Rising ps n → ps.length + beg n ps 0 ≤ n := by
  intro ps
  induction ps with
  | nil => intro h; rw [beg_nil]; simp
  | cons p r ih =>
    intro h
    obtain ⟨h1, h2, h3⟩ := h.tail
    have := ih h1
    rw [beg_cons0, List.length_cons]
    omega
theorem costL_in {k : Cs} (hg : Good k) {ps : List Int} (h : Rising ps k.need.length) : 0 ≤ costL k k.need.length ps ∧ costL k k.need.length ps ≤ 104472 := by
  have h1 := costI_in hg h ps.length (Nat.le_refl _)
  have h2 := h.len
  have h3 := hg.n8
  unfold costL
  omega
theorem fromI_no {need ps : List Int} (h : Rising ps need.length) {t : Nat} : ∀ i, i ≤ ps.length → (∀ j, j < i → ps.getD j 0 ≠ t) → (fromI need ps i).getD t 0 = 0 := by
  intro i
  induction i with
  | zero => intro _ _; rw [fromI, List.getD_eq_getElem?_getD, List.getElem?_replicate]; split <;> rfl
  | succ i ih =>
    intro hi hne
    have h1 := h.bd i (by omega)
    have h2 := hne i (by omega)
    rw [fromI, List.getD_eq_getElem?_getD, List.getElem?_set_ne (by omega), ← List.getD_eq_getElem?_getD]
    exact ih (by omega) fun j hj => hne j (by omega)
theorem fromI_at {need ps : List Int} (h : Rising ps need.length) {j : Nat} : ∀ i, i ≤ ps.length → j < i → (fromI need ps i).getD (beg need.length ps j) 0 = sumR need (beg need.length ps j) (beg need.length ps (j + 1)) := by
  intro i
  induction i with
  | zero => intro _ hj; omega
  | succ i ih =>
    intro hi hj
    have h1 := h.bd i (by omega)
    have hbi : beg need.length ps i = (ps.getD i 0).toNat := by unfold beg; rw [if_pos (by omega)]
    have hbj : beg need.length ps j = (ps.getD j 0).toNat := by unfold beg; rw [if_pos (by omega)]
    rw [fromI]
    by_cases e : j = i
    · subst e
      rw [nxt_beg, ← hbi, List.getD_eq_getElem?_getD, List.getElem?_set_self (by rw [fromI_len, hbi]; omega)]
      rfl
    · have h2 := h.lt (i := j) (j := i) (by omega) (by omega)
      have h3 := h.bd j (by omega)
      rw [List.getD_eq_getElem?_getD, List.getElem?_set_ne (by omega), ← List.getD_eq_getElem?_getD]
      exact ih (by omega) (by omega)
def cT (k : Cs) (plan : List Int) (t : Nat) : Int := cSet k plan t + cUnit k plan t + cHold k plan t
theorem seg_cost {k : Cs} (hg : Good k) {plan : List Int} {p e : Nat} (hpe : p < e) (hs : sumTo plan p = sumTo k.need p) (ha : plan.getD p 0 = sumR k.need p e) (hz : ∀ t, p < t → t < e → plan.getD t 0 = 0) (d : Nat) (hd : p + d + 1 ≤ e) :
    sumTo plan (p + d + 1) = sumTo k.need e ∧ cT k plan (p + d + 1) = cT k plan p + (if 0 < sumR k.need p e then k.setup.getD p 0 else 0) + k.unit.getD p 0 * sumR k.need p e + holdS k p e (p + d + 1) := by
  induction d with
  | zero =>
    have h1 : sumTo plan (p + 1) = sumTo k.need e := by rw [sumTo_g, ha, hs]; unfold sumR; omega
    refine ⟨h1, ?_⟩
    have h2 : stk plan k.need p = sumR k.need (p + 1) e := by unfold stk sumR; rw [h1]
    rw [Nat.add_zero, holdS_s k (Nat.le_refl _), holdS_self]
    unfold cT
    rw [cSet, cUnit, cHold, ha, h2]
    split <;> omega
  | succ d ih =>
    obtain ⟨i1, i2⟩ := ih (by omega)
    have hz' := hz (p + d + 1) (by omega) (by omega)
    have h1 : sumTo plan (p + d + 1 + 1) = sumTo k.need e := by rw [sumTo_g, hz', i1]; omega
    refine ⟨h1, ?_⟩
    have h2 : stk plan k.need (p + d + 1) = sumR k.need (p + d + 1 + 1) e := by unfold stk sumR; rw [h1]
    rw [show p + (d + 1) + 1 = p + d + 1 + 1 by omega, holdS_s k (by omega)]
    unfold cT at i2 ⊢
    rw [cSet, cUnit, cHold, hz', h2, if_neg (by omega), Int.mul_zero]
    omega
theorem holdS_none {k : Cs} (hg : Good k) {p e : Nat} (h : sumR k.need p e = 0) (d : Nat) (hd : p + d ≤ e) : holdS k p e (p + d) = 0 := by
  induction d with
  | zero => exact holdS_self k p e
  | succ d ih =>
    have h1 := sumR_nn (m := 20) (by omega) hg.need (i := p) (j := p + d + 1) (by omega)
    have h2 := sumR_nn (m := 20) (by omega) hg.need (i := p + d + 1) (j := e) (by omega)
    have h3 := sumR_add k.need p (p + d + 1) e
    have h4 : sumR k.need (p + d + 1) e = 0 := by omega
    rw [← Nat.add_assoc, holdS_s k (by omega), ih (by omega), h4]
    simp
theorem seg_span {k : Cs} (hg : Good k) {plan : List Int} {p e : Nat} (hpe : p < e) (hs : sumTo plan p = sumTo k.need p) (ha : plan.getD p 0 = sumR k.need p e) (hz : ∀ t, p < t → t < e → plan.getD t 0 = 0) :
    sumTo plan e = sumTo k.need e ∧ cT k plan e = cT k plan p + spanF k p e := by
  obtain ⟨h1, h2⟩ := seg_cost hg hpe hs ha hz (e - p - 1) (by omega)
  rw [show p + (e - p - 1) + 1 = e by omega] at h1 h2
  refine ⟨h1, ?_⟩
  have hnn := sumR_nn (m := 20) (by omega) hg.need (i := p) (j := e) (by omega)
  by_cases h0 : 0 < sumR k.need p e
  · rw [h2, spanF_order k (by omega) h0, if_pos h0]; omega
  · have hz0 : sumR k.need p e = 0 := by omega
    have hh := holdS_none hg hz0 (e - p) (by omega)
    rw [show p + (e - p) = e by omega] at hh
    rw [h2, hh, spanF_zero k hz0, hz0, Int.mul_zero]
    simp
theorem cov_zero {k : Cs} (hg : Good k) {ps : List Int} (hr : Rising ps k.need.length) (hc : covers k.need ps = true) (t : Nat) (ht : t < beg k.need.length ps 0) : k.need.getD t 0 = 0 := by
  have hb := beg_le hr 0
  have hn := getD_bound (m := 20) (by omega) hg.need t
  have h := of_decide_eq_true hc t (by omega) ?_
  · omega
  · cases ps with
    | nil => simp [beg] at ht; exact Int.ofNat_lt.2 ht
    | cons p r =>
      rw [beg_cons0] at ht
      show (t : Int) < p
      omega
theorem fromL_cost {k : Cs} (hg : Good k) {ps : List Int} (hr : Rising ps k.need.length) (hc : covers k.need ps = true) : costOf k (fromL k.need ps) = costL k k.need.length ps := by
  obtain ⟨plan, hplan⟩ : ∃ plan, plan = fromL k.need ps := ⟨_, rfl⟩
  have hno : ∀ t : Nat, (∀ j, j < ps.length → ps.getD j 0 ≠ (t : Int)) → plan.getD t 0 = 0 := fun t h => by rw [hplan]; exact fromI_no hr _ (Nat.le_refl _) h
  have hat : ∀ j, j < ps.length → plan.getD (beg k.need.length ps j) 0 = sumR k.need (beg k.need.length ps j) (beg k.need.length ps (j + 1)) := fun j h => by rw [hplan]; exact fromI_at hr _ (Nat.le_refl _) h
  have hbj : ∀ j, j < ps.length → (beg k.need.length ps j : Int) = ps.getD j 0 := fun j hj => by
    have := hr.bd j hj
    unfold beg; rw [if_pos hj]; omega
  have start : ∀ t, t ≤ beg k.need.length ps 0 → sumTo plan t = sumTo k.need t ∧ cT k plan t = 0 := by
    intro t
    induction t with
    | zero => intro _; exact ⟨rfl, rfl⟩
    | succ t ih =>
      intro ht
      obtain ⟨i1, i2⟩ := ih (by omega)
      have hz := cov_zero hg hr hc t (by omega)
      have hp : plan.getD t 0 = 0 := hno t fun j hj he => by
        have h0 : 0 < ps.length := by omega
        have := hbj 0 h0
        rcases Nat.eq_zero_or_pos j with e | e
        · subst e; omega
        · have := hr.lt (i := 0) (j := j) e hj; omega
      have s1 : sumTo plan (t + 1) = sumTo k.need (t + 1) := by rw [sumTo_g, sumTo_g, i1, hp, hz]
      refine ⟨s1, ?_⟩
      have s2 : stk plan k.need t = 0 := by unfold stk; omega
      unfold cT at i2 ⊢
      rw [cSet, cUnit, cHold, hp, s2, if_neg (by omega), Int.mul_zero, Int.mul_zero]
      omega
  have main : ∀ i, i ≤ ps.length → sumTo plan (beg k.need.length ps i) = sumTo k.need (beg k.need.length ps i) ∧ cT k plan (beg k.need.length ps i) = costI k k.need.length ps i := by
    intro i
    induction i with
    | zero => intro _; exact start _ (Nat.le_refl _)
    | succ i ih =>
      intro hi
      obtain ⟨i1, i2⟩ := ih (by omega)
      obtain ⟨s1, s2⟩ := seg_span hg (beg_lt hr (by omega)) i1 (hat i (by omega)) fun t h1 h2 => hno t fun j hj he => by
        have h3 := hbj i (by omega)
        have h4 := hbj j hj
        by_cases hlt : j ≤ i
        · rcases Nat.lt_or_eq_of_le hlt with h | h
          · have := hr.lt h (by omega); omega
          · subst h; omega
        · have h5 := hbj (i + 1) (by omega)
          rcases Nat.lt_or_eq_of_le (show i + 1 ≤ j by omega) with h | h
          · have := hr.lt h hj; omega
          · subst h; omega
      exact ⟨s1, by rw [s2, i2, costI]⟩
  have hend := (main ps.length (Nat.le_refl _)).2
  have hl : beg k.need.length ps ps.length = k.need.length := by unfold beg; rw [if_neg (by omega)]
  rw [hl] at hend
  have hpl : plan.length = k.need.length := by rw [hplan]; exact fromL_len _ _
  rw [← hplan]
  unfold costOf costL
  rw [hpl]
  exact hend

theorem lexB_irr (a : List Int) : lexB a a = false := by
  induction a with
  | nil => rfl
  | cons x a ih => rw [lexB, if_pos rfl, ih]
theorem lexB_trans : ∀ {a b c : List Int}, lexB a b = true → lexB b c = true → lexB a c = true := by
  intro a
  induction a with
  | nil => intro b c h; simp [lexB] at h
  | cons x a ih =>
    intro b c h1 h2
    cases b with
    | nil => simp [lexB] at h1
    | cons y b =>
      cases c with
      | nil => simp [lexB] at h2
      | cons z c =>
        rw [lexB] at h1 h2 ⊢
        by_cases e1 : x = y
        · rw [if_pos e1] at h1
          by_cases e2 : y = z
          · rw [if_pos e2] at h2
            rw [if_pos (e1.trans e2)]
            exact ih h1 h2
          · rw [if_neg e2] at h2
            rw [if_neg (fun e => e2 (e1.symm.trans e)), e1]
            exact h2
        · rw [if_neg e1] at h1
          have l1 := of_decide_eq_true h1
          by_cases e2 : y = z
          · rw [if_neg (fun e => e1 (e.trans e2.symm))]
            exact decide_eq_true (by omega)
          · rw [if_neg e2] at h2
            have l2 := of_decide_eq_true h2
            rw [if_neg (by omega)]
            exact decide_eq_true (by omega)
theorem lexB_tot : ∀ {a b : List Int}, a.length = b.length → a = b ∨ lexB a b = true ∨ lexB b a = true := by
  intro a
  induction a with
  | nil => intro b h; left; exact (List.eq_nil_of_length_eq_zero (by rw [← h]; rfl)).symm
  | cons x a ih =>
    intro b h
    cases b with
    | nil => simp at h
    | cons y b =>
      rw [lexB, lexB]
      by_cases e : x = y
      · subst e
        rw [if_pos rfl, if_pos rfl]
        rcases ih (b := b) (by simpa using h) with h | h | h
        · left; rw [h]
        · right; left; exact h
        · right; right; exact h
      · rw [if_neg e, if_neg (Ne.symm e)]
        rcases Int.lt_or_gt_of_ne e with h | h
        · right; left; exact decide_eq_true h
        · right; right; exact decide_eq_true h
theorem beforeB_irr (a : List Int) : beforeB a a = false := by unfold beforeB; rw [if_pos rfl, lexB_irr]
theorem beforeB_trans {a b c : List Int} (h1 : beforeB a b = true) (h2 : beforeB b c = true) : beforeB a c = true := by
  unfold beforeB at *
  by_cases e1 : a.length = b.length
  · rw [if_pos e1] at h1
    by_cases e2 : b.length = c.length
    · rw [if_pos e2] at h2
      rw [if_pos (e1.trans e2)]
      exact lexB_trans h1 h2
    · rw [if_neg e2] at h2
      rw [if_neg (by omega), e1]; exact h2
  · rw [if_neg e1] at h1
    have l1 := of_decide_eq_true h1
    by_cases e2 : b.length = c.length
    · rw [if_neg (by omega)]; exact decide_eq_true (by omega)
    · rw [if_neg e2] at h2
      have l2 := of_decide_eq_true h2
      rw [if_neg (by omega)]; exact decide_eq_true (by omega)
theorem beforeB_tot (a b : List Int) : a = b ∨ beforeB a b = true ∨ beforeB b a = true := by
  unfold beforeB
  by_cases e : a.length = b.length
  · rw [if_pos e, if_pos e.symm]; exact lexB_tot e
  · rw [if_neg e, if_neg (Ne.symm e)]
    rcases Nat.lt_or_gt_of_ne e with h | h
    · right; left; exact decide_eq_true h
    · right; right; exact decide_eq_true h
def bef (a b : Int × List Int) : Bool := if a.1 = b.1 then beforeB a.2 b.2 else decide (a.1 < b.1)
theorem bef_irr (a : Int × List Int) : bef a a = false := by unfold bef; rw [if_pos rfl, beforeB_irr]
theorem bef_trans {a b c : Int × List Int} (h1 : bef a b = true) (h2 : bef b c = true) : bef a c = true := by
  unfold bef at *
  by_cases e1 : a.1 = b.1
  · rw [if_pos e1] at h1
    by_cases e2 : b.1 = c.1
    · rw [if_pos e2] at h2
      rw [if_pos (e1.trans e2)]
      exact beforeB_trans h1 h2
    · rw [if_neg e2] at h2
      rw [if_neg (fun e => e2 (e1.symm.trans e)), e1]; exact h2
  · rw [if_neg e1] at h1
    have l1 := of_decide_eq_true h1
    by_cases e2 : b.1 = c.1
    · rw [if_neg (by omega)]; exact decide_eq_true (by omega)
    · rw [if_neg e2] at h2
      have l2 := of_decide_eq_true h2
      rw [if_neg (by omega)]; exact decide_eq_true (by omega)
theorem bef_tot (f : List Int → Int) (a b : List Int) : a = b ∨ bef (f a, a) (f b, b) = true ∨ bef (f b, b) (f a, a) = true := by
  unfold bef
  by_cases e : f a = f b
  · simp only [if_pos e, if_pos e.symm]; exact beforeB_tot a b
  · simp only [if_neg e, if_neg (Ne.symm e)]
    rcases Int.lt_or_gt_of_ne e with h | h
    · right; left; exact decide_eq_true h
    · right; right; exact decide_eq_true h
theorem bef_asymm {a b : Int × List Int} (h : bef a b = true) : bef b a = false := by
  cases hb : bef b a with
  | false => rfl
  | true => have := bef_trans h hb; rw [bef_irr] at this; cases this

def IsMin (S : List Int → Prop) (f : List Int → Int) (b : List Int) : Prop := S b ∧ ∀ y, S y → y = b ∨ bef (f b, b) (f y, y) = true
theorem IsMin.uniq {S : List Int → Prop} {f : List Int → Int} {a b : List Int} (ha : IsMin S f a) (hb : IsMin S f b) : a = b := by
  rcases ha.2 b hb.1 with h | h
  · exact h.symm
  · rcases hb.2 a ha.1 with h' | h'
    · exact h'
    · rw [bef_asymm h] at h'; cases h'
theorem IsMin.congr {S T : List Int → Prop} {f : List Int → Int} {a : List Int} (ha : IsMin S f a) (h : ∀ y, T y ↔ S y) : IsMin T f a :=
  ⟨(h a).2 ha.1, fun y hy => ha.2 y ((h y).1 hy)⟩
theorem IsMin.union {S T : List Int → Prop} {f : List Int → Int} {a b : List Int} (ha : IsMin S f a) (hb : IsMin T f b) :
    IsMin (fun y => S y ∨ T y) f (if bef (f b, b) (f a, a) = true then b else a) := by
  by_cases h : bef (f b, b) (f a, a) = true
  · rw [if_pos h]
    refine ⟨.inr hb.1, fun y hy => ?_⟩
    rcases hy with hy | hy
    · rcases ha.2 y hy with e | e
      · rw [e]; exact .inr h
      · exact .inr (bef_trans h e)
    · exact hb.2 y hy
  · rw [if_neg h]
    refine ⟨.inl ha.1, fun y hy => ?_⟩
    rcases hy with hy | hy
    · exact ha.2 y hy
    · have hab : a = b ∨ bef (f a, a) (f b, b) = true := by
        rcases bef_tot f a b with e | e | e
        · exact .inl e
        · exact .inr e
        · exact absurd e h
      rcases hb.2 y hy with e | e
      · rcases hab with g | g
        · left; rw [e, g]
        · right; rw [e]; exact g
      · rcases hab with g | g
        · right; rw [g]; exact e
        · exact .inr (bef_trans g e)

def dpLoop (k : Cs) (n first : Nat) (g : Nat → List Int) : Nat → List Int
  | 0 => [(first : Int)]
  | m + 1 => if bef (costL k n ((first : Int) :: g (first + 1 + m)), (first : Int) :: g (first + 1 + m)) (costL k n (dpLoop k n first g m), dpLoop k n first g m) = true
      then (first : Int) :: g (first + 1 + m) else dpLoop k n first g m
def dpF (k : Cs) (n : Nat) : Nat → Nat → List Int
  | 0, _ => []
  | f + 1, first => if first < n then dpLoop k n first (dpF k n f) (n - 1 - first) else []
def dp (k : Cs) (n first : Nat) : List Int := dpF k n (n - first) first
theorem dpLoop_congr (k : Cs) (n first : Nat) {g g' : Nat → List Int} (m : Nat) (h : ∀ j, first < j → j ≤ first + m → g j = g' j) : dpLoop k n first g m = dpLoop k n first g' m := by
  induction m with
  | zero => rfl
  | succ m ih =>
    rw [dpLoop, dpLoop, ih fun j h1 h2 => h j h1 (by omega), h (first + 1 + m) (by omega) (by omega)]
theorem dpF_fuel (k : Cs) (n : Nat) : ∀ (f f' first : Nat), n - first ≤ f → n - first ≤ f' → dpF k n f first = dpF k n f' first := by
  intro f
  induction f with
  | zero =>
    intro f' first h1 h2
    cases f' with
    | zero => rfl
    | succ f' => rw [dpF, dpF, if_neg (by omega)]
  | succ f ih =>
    intro f' first h1 h2
    cases f' with
    | zero => rw [dpF, dpF, if_neg (by omega)]
    | succ f' =>
      rw [dpF, dpF]
      by_cases h : first < n
      · rw [if_pos h, if_pos h]
        exact dpLoop_congr k n first _ fun j h3 h4 => ih f' j (by omega) (by omega)
      · rw [if_neg h, if_neg h]
theorem dp_end (k : Cs) {n first : Nat} (h : n ≤ first) : dp k n first = [] := by
  unfold dp
  rw [show n - first = 0 by omega]; rfl
theorem dp_loop (k : Cs) {n first : Nat} (h : first < n) : dp k n first = dpLoop k n first (dp k n) (n - 1 - first) := by
  obtain ⟨f, hf⟩ : ∃ f, n - first = f + 1 := ⟨n - first - 1, by omega⟩
  unfold dp
  rw [hf, dpF, if_pos h]
  exact dpLoop_congr k n first _ fun j h1 h2 => dpF_fuel k n f (n - j) j (by omega) (by omega)
def Firsts (n first : Nat) (ps : List Int) : Prop := Rising ps n ∧ beg n ps 0 = first
theorem firsts_cons {n first : Nat} {ps : List Int} (h : Firsts n first ps) (hf : first < n) : ∃ r, ps = (first : Int) :: r ∧ Firsts n (beg n r 0) r ∧ first < beg n r 0 ∧ beg n r 0 ≤ n := by
  obtain ⟨h1, h2⟩ := h
  cases ps with
  | nil => rw [beg_nil] at h2; omega
  | cons p r =>
    obtain ⟨t1, t2, t3⟩ := h1.tail
    rw [beg_cons0] at h2
    refine ⟨r, by rw [← h2]; congr 1; omega, ⟨t1, rfl⟩, by omega, beg_le t1 0⟩
theorem bef_cons (k : Cs) {n first : Nat} {r r' : List Int} (he : beg n r 0 = beg n r' 0) (h : bef (costL k n r, r) (costL k n r', r') = true) :
    bef (costL k n ((first : Int) :: r), (first : Int) :: r) (costL k n ((first : Int) :: r'), (first : Int) :: r') = true := by
  rw [costL_cons, costL_cons, he]
  unfold bef at *
  by_cases e : costL k n r = costL k n r'
  · simp only [if_pos e] at h
    simp only [e, if_true]
    unfold beforeB at *
    simp only [List.length_cons, Nat.add_right_cancel_iff, Nat.add_lt_add_iff_right]
    by_cases e2 : r.length = r'.length
    · rw [if_pos e2] at h ⊢
      rw [lexB, if_pos rfl]; exact h
    · rw [if_neg e2] at h ⊢; exact h
  · simp only [if_neg e] at h
    have := of_decide_eq_true h
    simp only []
    rw [if_neg (by omega)]
    exact decide_eq_true (by omega)
theorem dp_min (k : Cs) (n : Nat) : ∀ (d first : Nat), first + d = n → IsMin (Firsts n first) (costL k n) (dp k n first) := by
  intro d
  induction d using Nat.strongRecOn with
  | _ d ih =>
    intro first hfd
    rcases Nat.eq_zero_or_pos d with h0 | h0
    · rw [dp_end k (by omega)]
      refine ⟨⟨Rising.nil n, by rw [beg_nil]; omega⟩, fun y hy => .inl ?_⟩
      obtain ⟨h1, h2⟩ := hy
      cases y with
      | nil => rfl
      | cons p r =>
        have := h1.tail
        have := beg_le this.1 0
        rw [beg_cons0] at h2
        omega
    · rw [dp_loop k (by omega)]
      have loop : ∀ m, m ≤ n - 1 - first → IsMin (fun ps => Firsts n first ps ∧ (beg n ps.tail 0 = n ∨ beg n ps.tail 0 < first + 1 + m)) (costL k n) (dpLoop k n first (dp k n) m) := by
        intro m
        induction m with
        | zero =>
          intro _
          rw [dpLoop]
          refine ⟨⟨⟨(Rising.nil n).cons (by omega) (by rw [beg_nil]; omega), by rw [beg_cons0]; omega⟩, .inl (beg_nil n 0)⟩, fun y hy => .inl ?_⟩
          obtain ⟨hy1, hy2⟩ := hy
          obtain ⟨r, rfl, hr1, hr2, hr3⟩ := firsts_cons hy1 (by omega)
          simp only [List.tail_cons] at hy2
          have e : beg n r 0 = n := by omega
          cases r with
          | nil => rfl
          | cons p r =>
            have := hr1.1.tail
            have := beg_le this.1 0
            rw [beg_cons0] at e
            omega
        | succ m ihm =>
          intro hm
          have a := ihm (by omega)
          have b := ih (n - (first + 1 + m)) (by omega) (first + 1 + m) (by omega)
          have hcons : ∀ r, Firsts n (first + 1 + m) r → Firsts n first ((first : Int) :: r) := fun r hr =>
            ⟨hr.1.cons (by omega) (by rw [hr.2]; omega), by rw [beg_cons0]; omega⟩
          have b2 : IsMin (fun ps => Firsts n first ps ∧ beg n ps.tail 0 = first + 1 + m) (costL k n) ((first : Int) :: dp k n (first + 1 + m)) := by
            refine ⟨⟨hcons _ b.1, b.1.2⟩, fun y hy => ?_⟩
            obtain ⟨hy1, hy2⟩ := hy
            obtain ⟨r, rfl, hr1, hr2, hr3⟩ := firsts_cons hy1 (by omega)
            simp only [List.tail_cons] at hy2
            rw [hy2] at hr1
            rcases b.2 r hr1 with e | e
            · left; rw [e]
            · right; exact bef_cons k (by rw [b.1.2, hy2]) e
          refine (a.union b2).congr fun y => ?_
          constructor
          · rintro ⟨h1, h2⟩
            by_cases e : beg n y.tail 0 = first + 1 + m
            · exact .inr ⟨h1, e⟩
            · exact .inl ⟨h1, by omega⟩
          · rintro (⟨h1, h2⟩ | ⟨h1, h2⟩)
            · exact ⟨h1, by omega⟩
            · exact ⟨h1, .inr (by omega)⟩
      refine (loop _ (Nat.le_refl _)).congr fun y => ⟨fun hy => ⟨hy, ?_⟩, fun hy => hy.1⟩
      obtain ⟨r, rfl, hr1, hr2, hr3⟩ := firsts_cons hy (by omega)
      simp only [List.tail_cons]
      omega

def blF (k : Cs) (n : Nat) : Nat → List Int
  | 0 => dp k n 0
  | t + 1 => if bef (costL k n (dp k n (t + 1)), dp k n (t + 1)) (costL k n (blF k n t), blF k n t) = true then dp k n (t + 1) else blF k n t
theorem blF_min (k : Cs) (n t : Nat) (ht : t ≤ n) : IsMin (fun ps => Rising ps n ∧ beg n ps 0 ≤ t) (costL k n) (blF k n t) := by
  induction t with
  | zero => exact (dp_min k n n 0 (by omega)).congr fun y => ⟨fun h => ⟨h.1, by omega⟩, fun h => ⟨h.1, by have := h.2; omega⟩⟩
  | succ t ih =>
    refine ((ih (by omega)).union (dp_min k n (n - (t + 1)) (t + 1) (by omega))).congr fun y => ?_
    constructor
    · rintro ⟨h1, h2⟩
      by_cases e : beg n y 0 = t + 1
      · exact .inr ⟨h1, e⟩
      · exact .inl ⟨h1, by omega⟩
    · rintro (⟨h1, h2⟩ | ⟨h1, h2⟩)
      · exact ⟨h1, by omega⟩
      · exact ⟨h1, by omega⟩
theorem cov_iff {k : Cs} (hg : Good k) {ps : List Int} (hr : Rising ps k.need.length) {T : Nat} (hz : ∀ j, j < T → k.need.getD j 0 = 0) (hT : T = k.need.length ∨ (T < k.need.length ∧ k.need.getD T 0 ≠ 0)) :
    covers k.need ps = true ↔ beg k.need.length ps 0 ≤ T := by
  constructor
  · intro hc
    have hb := beg_le hr 0
    by_cases h : beg k.need.length ps 0 ≤ T
    · exact h
    · exfalso
      have := cov_zero hg hr hc T (by omega)
      omega
  · intro h
    refine decide_eq_true fun t ht hl => ?_
    have : t < beg k.need.length ps 0 := by
      cases ps with
      | nil => rw [beg_nil]; exact ht
      | cons p r =>
        rw [beg_cons0]
        have : (t : Int) < p := hl
        omega
    rw [hz t (by omega)]; omega
theorem bits_all : ∀ (n : Nat) (ps : List Int), Rising ps n → ∃ c, c < 2 ^ n ∧ ps = bitsL c n := by
  intro n
  induction n with
  | zero =>
    intro ps h
    cases ps with
    | nil => exact ⟨0, by simp, rfl⟩
    | cons p r => have := h.bd 0 (by simp); simp at this; omega
  | succ n ih =>
    intro ps h
    have low : ∀ (c x : Nat), x ≤ n → bitsL (c + 2 ^ n) x = bitsL c x := by
      intro c x hx
      induction x with
      | zero => rfl
      | succ x ihx =>
        have e : (c + 2 ^ n) / 2 ^ x % 2 = c / 2 ^ x % 2 := by
          have h1 : 2 ^ n = 2 ^ x * (2 * 2 ^ (n - x - 1)) := by
            rw [← Nat.pow_succ', ← Nat.pow_add]; congr 1; omega
          rw [h1, Nat.add_mul_div_left _ _ (Nat.two_pow_pos x), Nat.add_mul_mod_self_left]
        rw [bitsL, bitsL, e, ihx (by omega)]
    by_cases hl : 0 < ps.length ∧ ps.getD (ps.length - 1) 0 = n
    · have hd : ps = ps.dropLast ++ [(n : Int)] := by
        have hne : ps ≠ [] := by intro e; rw [e] at hl; simp at hl
        have := List.dropLast_concat_getLast hne
        rw [← this]
        congr 1
        · simp
        · congr 1
          have h2 := hl.2
          rw [List.getD_eq_getElem?_getD, List.getElem?_eq_getElem (by omega)] at h2
          rw [List.getLast_eq_getElem]
          simpa using h2
      have hlen : ps.dropLast.length = ps.length - 1 := List.length_dropLast
      have hget : ∀ i, i < ps.length - 1 → ps.dropLast.getD i 0 = ps.getD i 0 := fun i hi => by
        rw [List.getD_eq_getElem?_getD, List.getD_eq_getElem?_getD, List.getElem?_dropLast, if_pos hi]
      have hr : Rising ps.dropLast n := by
        refine ⟨fun i hi => ?_, fun i hi => ?_⟩
        · rw [hget i (by omega)]
          have h1 := h.bd i (by omega)
          have h2 := h.lt (i := i) (j := ps.length - 1) (by omega) (by omega)
          rw [hl.2] at h2
          omega
        · rw [hget i (by omega), hget (i + 1) (by omega)]
          exact h.up i (by omega)
      obtain ⟨c, hc, he⟩ := ih _ hr
      refine ⟨c + 2 ^ n, by rw [Nat.pow_succ]; omega, ?_⟩
      have hbit : (c + 2 ^ n) / 2 ^ n % 2 = 1 := by
        rw [Nat.add_div_right _ (Nat.two_pow_pos n), Nat.div_eq_of_lt hc]
      rw [bitsL, if_pos hbit, low c n (Nat.le_refl _), ← he]
      exact hd
    · have hr : Rising ps n := by
        refine ⟨fun i hi => ?_, h.up⟩
        have h1 := h.bd i hi
        refine ⟨h1.1, ?_⟩
        by_cases e : i = ps.length - 1
        · have : ps.getD i 0 ≠ n := fun e2 => hl ⟨by omega, by rw [← e]; exact e2⟩
          omega
        · have := h.lt (i := i) (j := ps.length - 1) (by omega) (by omega)
          have := (h.bd (ps.length - 1) (by omega)).2
          omega
      obtain ⟨c, hc, he⟩ := ih _ hr
      refine ⟨c, by rw [Nat.pow_succ]; omega, ?_⟩
      rw [bitsL, Nat.div_eq_of_lt hc, if_neg (by simp)]
      exact he
theorem bestC_min {k : Cs} (hg : Good k) (c : Nat) : ((bestC k c).2 < 0 ∧ ∀ c', c' < c → covers k.need (bitsL c' k.need.length) = false) ∨
    (IsMin (fun ps => ∃ c', c' < c ∧ ps = bitsL c' k.need.length ∧ covers k.need ps = true) (costL k k.need.length) (bestC k c).1 ∧ (bestC k c).2 = costL k k.need.length (bestC k c).1) := by
  induction c with
  | zero => exact .inl ⟨by simp [bestC], fun c' h => by omega⟩
  | succ c ih =>
    obtain ⟨ps, hps⟩ : ∃ ps, ps = bitsL c k.need.length := ⟨_, rfl⟩
    have hr : Rising ps k.need.length := by rw [hps]; exact bitsL_rising _ _
    rw [bestC, ← hps, stepB]
    cases hcv : covers k.need ps with
    | false =>
      rw [if_neg (by simp)]
      rcases ih with ⟨h1, h2⟩ | ⟨h1, h2⟩
      · refine .inl ⟨h1, fun c' h => ?_⟩
        by_cases e : c' = c
        · rw [e, ← hps]; exact hcv
        · exact h2 c' (by omega)
      · refine .inr ⟨h1.congr fun y => ⟨?_, ?_⟩, h2⟩
        · rintro ⟨c', g1, g2, g3⟩
          by_cases e : c' = c
          · rw [g2, e, ← hps, hcv] at g3; cases g3
          · exact ⟨c', by omega, g2, g3⟩
        · rintro ⟨c', g1, g2, g3⟩
          exact ⟨c', by omega, g2, g3⟩
    | true =>
      rw [if_pos rfl, fromL_cost hg hr hcv]
      have hnn := (costL_in hg hr).1
      have one : IsMin (fun y => y = ps) (costL k k.need.length) ps := ⟨rfl, fun y hy => .inl hy⟩
      rcases ih with ⟨h1, h2⟩ | ⟨h1, h2⟩
      · rw [if_pos (.inl h1)]
        refine .inr ⟨one.congr fun y => ⟨?_, ?_⟩, rfl⟩
        · rintro ⟨c', g1, g2, g3⟩
          by_cases e : c' = c
          · rw [g2, e, ← hps]
          · rw [g2, h2 c' (by omega)] at g3; cases g3
        · rintro rfl
          exact ⟨c, by omega, hps, hcv⟩
      · have hb0 : ¬ ((bestC k c).2 < 0) := by
          obtain ⟨⟨c', g1, g2, g3⟩, _⟩ := h1
          rw [h2]
          have := (costL_in hg (bestC_rising k c)).1
          omega
        have hu := h1.union one
        have hset : ∀ y, (∃ c', c' < c + 1 ∧ y = bitsL c' k.need.length ∧ covers k.need y = true) ↔ ((∃ c', c' < c ∧ y = bitsL c' k.need.length ∧ covers k.need y = true) ∨ y = ps) := by
          intro y
          constructor
          · rintro ⟨c', g1, g2, g3⟩
            by_cases e : c' = c
            · right; rw [g2, e, ← hps]
            · exact .inl ⟨c', by omega, g2, g3⟩
          · rintro (⟨c', g1, g2, g3⟩ | rfl)
            · exact ⟨c', by omega, g2, g3⟩
            · exact ⟨c, by omega, hps, hcv⟩
        have hcond : ((bestC k c).2 < 0 ∨ costL k k.need.length ps < (bestC k c).2 ∨ (costL k k.need.length ps = (bestC k c).2 ∧ beforeB ps (bestC k c).1 = true)) ↔
            bef (costL k k.need.length ps, ps) (costL k k.need.length (bestC k c).1, (bestC k c).1) = true := by
          rw [← h2]
          unfold bef
          by_cases e : costL k k.need.length ps = (bestC k c).2
          · rw [if_pos e]
            constructor
            · rintro (g | g | g)
              · exact absurd g hb0
              · omega
              · exact g.2
            · intro g; exact .inr (.inr ⟨e, g⟩)
          · rw [if_neg e]
            constructor
            · rintro (g | g | g)
              · exact absurd g hb0
              · exact decide_eq_true g
              · exact absurd g.1 e
            · intro g; exact .inr (.inl (of_decide_eq_true g))
        right
        by_cases hbf : bef (costL k k.need.length ps, ps) (costL k k.need.length (bestC k c).1, (bestC k c).1) = true
        · rw [if_pos hbf] at hu
          rw [if_pos (hcond.2 hbf)]
          exact ⟨hu.congr hset, rfl⟩
        · rw [if_neg hbf] at hu
          rw [if_neg (fun g => hbf (hcond.1 g))]
          exact ⟨hu.congr hset, h2⟩
theorem bestL_dp {k : Cs} (hg : Good k) {T : Nat} (hTn : T ≤ k.need.length) (hz : ∀ j, j < T → k.need.getD j 0 = 0) (hT : T = k.need.length ∨ (T < k.need.length ∧ k.need.getD T 0 ≠ 0)) :
    bestL k = blF k k.need.length T ∧ bestCost k = costL k k.need.length (blF k k.need.length T) := by
  have hbl := (blF_min k k.need.length T hTn).congr (T := fun ps => ∃ c', c' < 2 ^ k.need.length ∧ ps = bitsL c' k.need.length ∧ covers k.need ps = true) fun y => by
    constructor
    · rintro ⟨c', g1, g2, g3⟩
      have hr : Rising y k.need.length := by rw [g2]; exact bitsL_rising _ _
      exact ⟨hr, (cov_iff hg hr hz hT).1 g3⟩
    · rintro ⟨g1, g2⟩
      obtain ⟨c', h1, h2⟩ := bits_all _ y g1
      exact ⟨c', h1, h2, (cov_iff hg g1 hz hT).2 g2⟩
  have e : bestL k = blF k k.need.length T := by
    rcases bestC_min hg (2 ^ k.need.length) with ⟨_, h2⟩ | ⟨h1, _⟩
    · obtain ⟨⟨c', g1, g2, g3⟩, _⟩ := hbl
      rw [g2, h2 c' g1] at g3
      cases g3
    · exact h1.uniq hbl
  refine ⟨e, ?_⟩
  unfold bestCost
  have hcv : covers k.need (bestL k) = true := by
    rw [e]
    obtain ⟨⟨c', g1, g2, g3⟩, _⟩ := hbl
    exact g3
  rw [fromL_cost hg (show Rising (bestL k) k.need.length from bestC_rising k _) hcv, e]
end Go.Proofs.Ytdgfbmilbhckiaa
end
section
namespace Go.Proofs.Ytdgfbmilbhckiaa.Ab
open Go Go.RowKit
set_option linter.unusedVariables false
set_option linter.unusedSimpArgs false
theorem and1 (x : Nat) : (BitVec.ofInt 64 (x : Int) &&& BitVec.ofInt 64 1).toNat = x % 2 := by
  rw [show (BitVec.ofInt 64 (1 : Int)) = 1#64 from rfl]
  rw [BitVec.toNat_and, BitVec.toNat_ofInt]
  simp [Nat.and_one_is_mod]
  omega
theorem and1w (x : Nat) (h : x ≤ 1000) : IntKind.wrap .i64 (((BitVec.ofInt IntKind.i64.bits (x : Int) &&& BitVec.ofInt IntKind.i64.bits 1).toNat : Nat) : Int) = ((x % 2 : Nat) : Int) := by
  rw [show ((BitVec.ofInt IntKind.i64.bits (x : Int) &&& BitVec.ofInt IntKind.i64.bits 1).toNat) = x % 2 from and1 x]
  exact w64 ⟨by omega, by omega⟩
theorem shr_code {c x : Nat} (h : x ≤ 63) : (c : Int).fdiv (2 ^ (min ((x : Nat) : Int).toNat IntKind.i64.bits)) = ((c / 2 ^ x : Nat) : Int) := by
  have : min ((x : Nat) : Int).toNat IntKind.i64.bits = x := by
    have : IntKind.i64.bits = 64 := rfl
    rw [this]; omega
  rw [this]
  have e : (2 : Int) ^ x = ((2 ^ x : Nat) : Int) := by simp
  rw [e, Int.natCast_ediv]
  exact Int.fdiv_eq_ediv_of_nonneg _ (Int.natCast_nonneg _)

theorem l2Bits_rc (m : Mem) (n c : Nat) (hn : n ≤ 8) (hc : c ≤ 256) :
    RC Try.prog 60 [.int .i64 n, .int .i64 c] m (AnsR m (bitsL c n)) := by
  refine rc_of_run mixed ok_spec_l2Bits (by simp) (go_start _ _ _ ?_)
  simp (config := {implicitDefEqProofs := false, maxDischargeDepth := 20}) (disch := first | omega | (simp only [lenE]; done) | (simp only [lenE]; omega) | rfl | (simp only [lenE, markR_len]; done) | (simp only [lenE, markR_len]; omega)) only [runE, mapE, listE, initT_5, initT_6, initT_7, initT_8, resV, oneV, binA, unA, reduceCtorEq, Nat.reduceEqDiff, Nat.reduceAdd, Nat.reduceLT, Nat.reduceLeDiff, Nat.reduceMul, Nat.reduceSub, ↓reduceIte, decide_true, decide_false, Bool.true_eq_false, Bool.false_eq_true, Bool.not_true, Bool.not_false, if_true, if_false, and_true, true_and, memE, celE, w64, Nat.zero_add, Nat.add_zero, Nat.mul_one, putL, and_self, ldn, c_spec_l2Bits, r_spec_l2Bits, bsl_none]
  refine loop_inv mixed (fun s => ∃ (x : Nat) (M : Mem) (id : Nat), x ≤ n ∧ s.t 0 = .int .i64 n ∧ s.t 1 = .int .i64 c ∧ s.t 5 = .slice (some ⟨id, 0, none⟩) (bitsL c x).length 1 ∧ s.t 6 = .int .i64 x ∧ s.m = M ∧ Ext m M ∧ OwnR M id (bitsL c x) ∧ m.length ≤ id) (fun s => n - (intOf (s.t 6)).toNat)
    ⟨0, _, m.length, by omega, rfl, rfl, by simp only [put_t, put_t', put_m, putT_t, putT_t', putT_m, init_t, init_m, initT_0, initT_1, initT_2, initT_3, initT_4, initT_5, initT_6, initT_7, initT_8, Nat.reduceEqDiff, ↓reduceIte]; rfl, rfl, rfl, (Ext.refl m).one _ _, OwnR.end' (l := []) (by simp [roM_len]), Nat.le_refl _⟩ ?_
  rintro s ⟨x, M, id, hk, t0, t1, t5, t6, tm, hx, oM, lid⟩
  by_cases hlt : x < n
  · have hlt' : (x : Int) < n := by omega
    have hx0 : ¬ ((x : Int) < 0) := by omega
    have hd : c / 2 ^ x ≤ 1000 := Nat.le_trans (Nat.div_le_self _ _) (by omega)
    have aw := and1w (c / 2 ^ x) hd
    have bl := bitsL_len c x
    by_cases hb : c / 2 ^ x % 2 = 1
    · have hb' : (((c / 2 ^ x % 2 : Nat) : Int) == 1) = true := by rw [hb]; rfl
      simp (config := {implicitDefEqProofs := false, maxDischargeDepth := 20}) (disch := first | omega | (simp only [lenE]; done) | (simp only [lenE]; omega) | rfl | (simp only [lenE, markR_len]; done) | (simp only [lenE, markR_len]; omega)) only [runE, mapE, listE, initT_5, initT_6, initT_7, initT_8, resV, oneV, binA, unA, reduceCtorEq, Nat.reduceEqDiff, Nat.reduceAdd, Nat.reduceLT, Nat.reduceLeDiff, Nat.reduceMul, Nat.reduceSub, ↓reduceIte, decide_true, decide_false, Bool.true_eq_false, Bool.false_eq_true, Bool.not_true, Bool.not_false, if_true, if_false, and_true, true_and, memE, celE, w64, Nat.zero_add, Nat.add_zero, Nat.mul_one, putL, and_self, ldn, t0, t1, t5, t6, tm, hlt', hx0, shr_code (c := c) (show x ≤ 63 by omega), aw, hb', bsl_one, app_gen oM (by omega)]
      refine ⟨⟨x + 1, _, M.length + 1, by omega, by rw [bitsL, if_pos hb]; simp, by simp, rfl, ((hx.dead lid).one _ _).one _ _, ?_, by have := hx.len; omega⟩, by simp [intOf]; omega⟩
      rw [bitsL, if_pos hb]
      have := OwnR.at_end (M.set id deadB ++ [⟨.own, 3, [.int .i64 (x : Int)]⟩]) (bitsL c x ++ [(x : Int)])
      simpa using this
    · have hb' : (((c / 2 ^ x % 2 : Nat) : Int) == 1) = false := by
        have : c / 2 ^ x % 2 = 0 := by omega
        rw [this]; rfl
      simp (config := {implicitDefEqProofs := false, maxDischargeDepth := 20}) (disch := first | omega | (simp only [lenE]; done) | (simp only [lenE]; omega) | rfl | (simp only [lenE, markR_len]; done) | (simp only [lenE, markR_len]; omega)) only [runE, mapE, listE, initT_5, initT_6, initT_7, initT_8, resV, oneV, binA, unA, reduceCtorEq, Nat.reduceEqDiff, Nat.reduceAdd, Nat.reduceLT, Nat.reduceLeDiff, Nat.reduceMul, Nat.reduceSub, ↓reduceIte, decide_true, decide_false, Bool.true_eq_false, Bool.false_eq_true, Bool.not_true, Bool.not_false, if_true, if_false, and_true, true_and, memE, celE, w64, Nat.zero_add, Nat.add_zero, Nat.mul_one, putL, and_self, ldn, t0, t1, t5, t6, tm, hlt', hx0, shr_code (c := c) (show x ≤ 63 by omega), aw, hb']
      exact ⟨⟨x + 1, M, id, by omega, by rw [bitsL, if_neg hb], by simp, rfl, hx, by rw [bitsL, if_neg hb]; exact oM, lid⟩, by simp [intOf]; omega⟩
  · have hlt' : ¬ ((x : Int) < n) := by omega
    have e : x = n := by omega
    subst e
    have := bitsL_len c x
    simp (config := {implicitDefEqProofs := false, maxDischargeDepth := 20}) (disch := first | omega | (simp only [lenE]; done) | (simp only [lenE]; omega) | rfl | (simp only [lenE, markR_len]; done) | (simp only [lenE, markR_len]; omega)) only [runE, mapE, listE, initT_5, initT_6, initT_7, initT_8, resV, oneV, binA, unA, reduceCtorEq, Nat.reduceEqDiff, Nat.reduceAdd, Nat.reduceLT, Nat.reduceLeDiff, Nat.reduceMul, Nat.reduceSub, ↓reduceIte, decide_true, decide_false, Bool.true_eq_false, Bool.false_eq_true, Bool.not_true, Bool.not_false, if_true, if_false, and_true, true_and, memE, celE, w64, Nat.zero_add, Nat.add_zero, Nat.mul_one, putL, and_self, ldn, t0, t1, t5, t6, tm, hlt']
    exact ext_ansR hx oM (by omega) rfl (by omega)

theorem l2Before_rc (m : Mem) (v u : Value) (a b : List Int) (h : IntsA m v a) (h' : IntsA m u b) :
    RC Try.prog 62 [v, u] m (AnsV (.bool (beforeB a b))) := by
  refine rc_of_run mixed ok_spec_l2Before (by simp) (go_start _ _ _ ?_)
  have hv := h.ro
  have hu := h'.ro
  have hbd := hv.bd
  by_cases hl : a.length = b.length
  · have hl' : ((a.length : Int) != (b.length : Int)) = false := by rw [hl]; simp
    have eB : beforeB a b = lexB (a.drop 0) (b.drop 0) := by unfold beforeB; rw [if_pos hl]; rfl
    simp (config := {implicitDefEqProofs := false, maxDischargeDepth := 20}) (disch := first | omega | (simp only [lenE]; done) | (simp only [lenE]; omega) | rfl | (simp only [lenE, markR_len]; done) | (simp only [lenE, markR_len]; omega)) only [runE, mapE, listE, initT_5, initT_6, initT_7, initT_8, resV, oneV, binA, unA, reduceCtorEq, Nat.reduceEqDiff, Nat.reduceAdd, Nat.reduceLT, Nat.reduceLeDiff, Nat.reduceMul, Nat.reduceSub, ↓reduceIte, decide_true, decide_false, Bool.true_eq_false, Bool.false_eq_true, Bool.not_true, Bool.not_false, if_true, if_false, and_true, true_and, memE, celE, w64, Nat.zero_add, Nat.add_zero, Nat.mul_one, putL, and_self, ldn, c_spec_l2Before, r_spec_l2Before, hv.len, hu.len, hl']
    refine loop_inv mixed (fun s => ∃ i : Nat, i ≤ a.length ∧ beforeB a b = lexB (a.drop i) (b.drop i) ∧ s.t 0 = v ∧ s.t 1 = u ∧ s.t 5 = .int .i64 i ∧ s.m = roM m) (fun s => a.length - (intOf (s.t 5)).toNat)
      ⟨0, by omega, eB, rfl, rfl, rfl, rfl⟩ ?_
    rintro s ⟨i, hk, he, t0, t1, t5, tm⟩
    by_cases hlt : i < a.length
    · have hlt' : (i : Int) < a.length := by omega
      rw [lexB_drop hlt (by omega)] at he
      by_cases hq : a.getD i 0 = b.getD i 0
      · have hq' : (a.getD i 0 != b.getD i 0) = false := by rw [hq]; simp
        rw [if_pos hq] at he
        simp (config := {implicitDefEqProofs := false, maxDischargeDepth := 20}) (disch := first | omega | (simp only [lenE]; done) | (simp only [lenE]; omega) | rfl | (simp only [lenE, markR_len]; done) | (simp only [lenE, markR_len]; omega)) only [runE, mapE, listE, initT_5, initT_6, initT_7, initT_8, resV, oneV, binA, unA, reduceCtorEq, Nat.reduceEqDiff, Nat.reduceAdd, Nat.reduceLT, Nat.reduceLeDiff, Nat.reduceMul, Nat.reduceSub, ↓reduceIte, decide_true, decide_false, Bool.true_eq_false, Bool.false_eq_true, Bool.not_true, Bool.not_false, if_true, if_false, and_true, true_and, memE, celE, w64, Nat.zero_add, Nat.add_zero, Nat.mul_one, putL, and_self, ldn, t0, t1, t5, tm, hv.len, hlt', hv.at_ i hlt, hv.ld i hlt, hu.at_ i (by omega), hu.ld i (by omega), hq']
        exact ⟨⟨i + 1, by omega, he, by simp⟩, by simp [intOf]; omega⟩
      · have hq' : (a.getD i 0 != b.getD i 0) = true := by simpa using hq
        rw [if_neg hq] at he
        simp (config := {implicitDefEqProofs := false, maxDischargeDepth := 20}) (disch := first | omega | (simp only [lenE]; done) | (simp only [lenE]; omega) | rfl | (simp only [lenE, markR_len]; done) | (simp only [lenE, markR_len]; omega)) only [runE, mapE, listE, initT_5, initT_6, initT_7, initT_8, resV, oneV, binA, unA, reduceCtorEq, Nat.reduceEqDiff, Nat.reduceAdd, Nat.reduceLT, Nat.reduceLeDiff, Nat.reduceMul, Nat.reduceSub, ↓reduceIte, decide_true, decide_false, Bool.true_eq_false, Bool.false_eq_true, Bool.not_true, Bool.not_false, if_true, if_false, and_true, true_and, memE, celE, w64, Nat.zero_add, Nat.add_zero, Nat.mul_one, putL, and_self, ldn, t0, t1, t5, tm, hv.len, hlt', hv.at_ i hlt, hv.ld i hlt, hu.at_ i (by omega), hu.ld i (by omega), hq']
        rw [he]
        exact ext_ansV (Ext.refl m) rfl
    · have hlt' : ¬ ((i : Int) < a.length) := by omega
      have e : i = a.length := by omega
      have : lexB (a.drop i) (b.drop i) = false := by rw [e, List.drop_length]; rfl
      rw [this] at he
      simp (config := {implicitDefEqProofs := false, maxDischargeDepth := 20}) (disch := first | omega | (simp only [lenE]; done) | (simp only [lenE]; omega) | rfl | (simp only [lenE, markR_len]; done) | (simp only [lenE, markR_len]; omega)) only [runE, mapE, listE, initT_5, initT_6, initT_7, initT_8, resV, oneV, binA, unA, reduceCtorEq, Nat.reduceEqDiff, Nat.reduceAdd, Nat.reduceLT, Nat.reduceLeDiff, Nat.reduceMul, Nat.reduceSub, ↓reduceIte, decide_true, decide_false, Bool.true_eq_false, Bool.false_eq_true, Bool.not_true, Bool.not_false, if_true, if_false, and_true, true_and, memE, celE, w64, Nat.zero_add, Nat.add_zero, Nat.mul_one, putL, and_self, ldn, t0, t1, t5, tm, hv.len, hlt']
      rw [he]
      exact ext_ansV (Ext.refl m) rfl
  · have hl' : ((a.length : Int) != (b.length : Int)) = true := by
      have : (a.length : Int) ≠ b.length := by omega
      simpa using this
    have eB : beforeB a b = decide ((a.length : Int) < b.length) := by unfold beforeB; rw [if_neg hl]; simp
    simp (config := {implicitDefEqProofs := false, maxDischargeDepth := 20}) (disch := first | omega | (simp only [lenE]; done) | (simp only [lenE]; omega) | rfl | (simp only [lenE, markR_len]; done) | (simp only [lenE, markR_len]; omega)) only [runE, mapE, listE, initT_5, initT_6, initT_7, initT_8, resV, oneV, binA, unA, reduceCtorEq, Nat.reduceEqDiff, Nat.reduceAdd, Nat.reduceLT, Nat.reduceLeDiff, Nat.reduceMul, Nat.reduceSub, ↓reduceIte, decide_true, decide_false, Bool.true_eq_false, Bool.false_eq_true, Bool.not_true, Bool.not_false, if_true, if_false, and_true, true_and, memE, celE, w64, Nat.zero_add, Nat.add_zero, Nat.mul_one, putL, and_self, ldn, c_spec_l2Before, r_spec_l2Before, hv.len, hu.len, hl']
    rw [eB]
    exact ext_ansV (Ext.refl m) rfl

theorem shl1 {n : Nat} (h : n ≤ 8) : IntKind.wrap .i64 (1 * 2 ^ (min ((n : Nat) : Int).toNat IntKind.i64.bits)) = ((2 ^ n : Nat) : Int) := by
  have : min ((n : Nat) : Int).toNat IntKind.i64.bits = n := by
    have : IntKind.i64.bits = 64 := rfl
    rw [this]; omega
  rw [this]
  have e : (2 : Int) ^ n = ((2 ^ n : Nat) : Int) := by simp
  have h2 : 2 ^ n ≤ 2 ^ 8 := Nat.pow_le_pow_right (by omega) h
  rw [e, Int.one_mul]
  have h3 : ((2 ^ n : Nat) : Int) ≤ 256 := by omega
  exact w64 ⟨by have := Int.natCast_nonneg (2 ^ n); omega, by omega⟩

end Go.Proofs.Ytdgfbmilbhckiaa.Ab
end
section
namespace Go.Proofs.Ytdgfbmilbhckiaa.Ab
open Go Go.RowKit
set_option linter.unusedVariables false
set_option linter.unusedSimpArgs false
def bestCA (k : Cs) : Int := if k.good then bestCost k else 0
theorem bestCA_no {k : Cs} (h : k.good = false) : bestCA k = 0 := by unfold bestCA; rw [h]; rfl
theorem bestCA_yes {k : Cs} (h : k.good = true) : bestCA k = bestCost k := by unfold bestCA; rw [h]; rfl

def risB (ps : List Int) (n : Nat) : Bool := decide (∀ i, i < ps.length → (0 ≤ ps.getD i 0 ∧ ps.getD i 0 ≤ (n : Int) - 1) ∧ (0 < i → ps.getD (i - 1) 0 < ps.getD i 0))
theorem risB_iff {ps : List Int} {n : Nat} : risB ps n = true ↔ Rising ps n := by
  unfold risB
  rw [decide_eq_true_iff]
  constructor
  · intro h
    refine ⟨fun i hi => by have := (h i hi).1; omega, fun i hi => ?_⟩
    have := (h (i + 1) hi).2 (by omega)
    simpa using this
  · intro h i hi
    refine ⟨by have := h.bd i hi; omega, fun h0 => ?_⟩
    have := h.up (i - 1) (by omega)
    rwa [show i - 1 + 1 = i by omega] at this
theorem risB_no {ps : List Int} {n i : Nat} (hi : i < ps.length) (h : ¬ ((0 ≤ ps.getD i 0 ∧ ps.getD i 0 ≤ (n : Int) - 1) ∧ (0 < i → ps.getD (i - 1) 0 < ps.getD i 0))) : risB ps n = false :=
  decide_eq_false fun hh => h (hh i hi)

theorem l1Rising_rc (m : Mem) (u : Value) (ps : List Int) (n : Nat) (h' : IntsA m u ps) (hn : n ≤ 1048576) :
    RC Try.prog 76 [u, .int .i64 0, .int .i64 ((n : Int) - 1)] m (AnsV (.bool (risB ps n))) := by
  refine rc_of_run mixed ok_spec_l1Rising (by simp) (go_start _ _ _ ?_)
  have hu := h'.ro
  have hbd := hu.bd
  simp (config := {implicitDefEqProofs := false, maxDischargeDepth := 20}) (disch := first | omega | (simp only [lenE]; done) | (simp only [lenE]; omega) | rfl | (simp only [lenE, markR_len]; done) | (simp only [lenE, markR_len]; omega)) only [runE, mapE, listE, initT_5, initT_6, initT_7, initT_8, resV, oneV, binA, unA, reduceCtorEq, Nat.reduceEqDiff, Nat.reduceAdd, Nat.reduceLT, Nat.reduceLeDiff, Nat.reduceMul, Nat.reduceSub, ↓reduceIte, decide_true, decide_false, Bool.true_eq_false, Bool.false_eq_true, Bool.not_true, Bool.not_false, if_true, if_false, and_true, true_and, memE, celE, w64, Nat.zero_add, Nat.add_zero, Nat.mul_one, putL, and_self, ldn, c_spec_l1Rising, r_spec_l1Rising]
  refine loop_inv mixed (fun s => ∃ i : Nat, i ≤ ps.length ∧ (∀ j, j < i → (0 ≤ ps.getD j 0 ∧ ps.getD j 0 ≤ (n : Int) - 1) ∧ (0 < j → ps.getD (j - 1) 0 < ps.getD j 0)) ∧ s.t 0 = u ∧ s.t 1 = .int .i64 0 ∧ s.t 2 = .int .i64 ((n : Int) - 1) ∧ s.t 7 = .int .i64 i ∧ s.m = roM m) (fun s => ps.length - (intOf (s.t 7)).toNat)
    ⟨0, by omega, fun j hj => absurd hj (by omega), rfl, rfl, rfl, rfl, rfl⟩ ?_
  rintro s ⟨i, hk, hall, t0, t1, t2, t7, tm⟩
  have nx : ((0 ≤ ps.getD i 0 ∧ ps.getD i 0 ≤ (n : Int) - 1) ∧ (0 < i → ps.getD (i - 1) 0 < ps.getD i 0)) → ∀ j, j < i + 1 → (0 ≤ ps.getD j 0 ∧ ps.getD j 0 ≤ (n : Int) - 1) ∧ (0 < j → ps.getD (j - 1) 0 < ps.getD j 0) := fun hh j hj => by
    by_cases e : j < i
    · exact hall j e
    · have : j = i := by omega
      rw [this]; exact hh
  by_cases hlt : i < ps.length
  · have hlt' : (i : Int) < ps.length := by omega
    have ai := hu.at_ i hlt
    have li := hu.ld i hlt
    cases hin : (decide (0 ≤ ps.getD i 0) && decide (ps.getD i 0 ≤ (n : Int) - 1)) with
    | false =>
      have hno : ¬ (0 ≤ ps.getD i 0 ∧ ps.getD i 0 ≤ (n : Int) - 1) := by simpa using hin
      simp (config := {implicitDefEqProofs := false, maxDischargeDepth := 20}) (disch := first | omega | (simp only [lenE]; done) | (simp only [lenE]; omega) | rfl | (simp only [lenE, markR_len]; done) | (simp only [lenE, markR_len]; omega)) only [runE, mapE, listE, initT_5, initT_6, initT_7, initT_8, resV, oneV, binA, unA, reduceCtorEq, Nat.reduceEqDiff, Nat.reduceAdd, Nat.reduceLT, Nat.reduceLeDiff, Nat.reduceMul, Nat.reduceSub, ↓reduceIte, decide_true, decide_false, Bool.true_eq_false, Bool.false_eq_true, Bool.not_true, Bool.not_false, if_true, if_false, and_true, true_and, memE, celE, w64, Nat.zero_add, Nat.add_zero, Nat.mul_one, putL, and_self, ldn, t0, t1, t2, t7, tm, hu.len, hlt', ai, li]
      refine rcallH_rc (l1In_rc _ (ps.getD i 0) 0 ((n : Int) - 1)) ?_
      rintro r new ⟨rfl, rfl⟩
      rw [hin]
      simp (config := {implicitDefEqProofs := false, maxDischargeDepth := 20}) (disch := first | omega | (simp only [lenE]; done) | (simp only [lenE]; omega) | rfl | (simp only [lenE, markR_len]; done) | (simp only [lenE, markR_len]; omega)) only [runE, mapE, listE, initT_5, initT_6, initT_7, initT_8, resV, oneV, binA, unA, reduceCtorEq, Nat.reduceEqDiff, Nat.reduceAdd, Nat.reduceLT, Nat.reduceLeDiff, Nat.reduceMul, Nat.reduceSub, ↓reduceIte, decide_true, decide_false, Bool.true_eq_false, Bool.false_eq_true, Bool.not_true, Bool.not_false, if_true, if_false, and_true, true_and, memE, celE, w64, Nat.zero_add, Nat.add_zero, Nat.mul_one, putL, and_self, ldn, goG_undef, t0, t1, t2, t7, tm]
      rw [risB_no hlt (fun hh => hno hh.1)]
      exact ext_ansV (Ext.refl m) rfl
    | true =>
      have hyes : 0 ≤ ps.getD i 0 ∧ ps.getD i 0 ≤ (n : Int) - 1 := by simpa using hin
      simp (config := {implicitDefEqProofs := false, maxDischargeDepth := 20}) (disch := first | omega | (simp only [lenE]; done) | (simp only [lenE]; omega) | rfl | (simp only [lenE, markR_len]; done) | (simp only [lenE, markR_len]; omega)) only [runE, mapE, listE, initT_5, initT_6, initT_7, initT_8, resV, oneV, binA, unA, reduceCtorEq, Nat.reduceEqDiff, Nat.reduceAdd, Nat.reduceLT, Nat.reduceLeDiff, Nat.reduceMul, Nat.reduceSub, ↓reduceIte, decide_true, decide_false, Bool.true_eq_false, Bool.false_eq_true, Bool.not_true, Bool.not_false, if_true, if_false, and_true, true_and, memE, celE, w64, Nat.zero_add, Nat.add_zero, Nat.mul_one, putL, and_self, ldn, t0, t1, t2, t7, tm, hu.len, hlt', ai, li]
      refine rcallH_rc (l1In_rc _ (ps.getD i 0) 0 ((n : Int) - 1)) ?_
      rintro r new ⟨rfl, rfl⟩
      rw [hin]
      by_cases h0 : 0 < i
      · have h0' : (0 : Int) < i := by omega
        have e1 : (i : Int) - 1 = ((i - 1 : Nat) : Int) := by omega
        have aj := hu.at_ (i - 1) (by omega)
        have lj := hu.ld (i - 1) (by omega)
        by_cases hq : ps.getD i 0 ≤ ps.getD (i - 1) 0
        · simp (config := {implicitDefEqProofs := false, maxDischargeDepth := 20}) (disch := first | omega | (simp only [lenE]; done) | (simp only [lenE]; omega) | rfl | (simp only [lenE, markR_len]; done) | (simp only [lenE, markR_len]; omega)) only [runE, mapE, listE, initT_5, initT_6, initT_7, initT_8, resV, oneV, binA, unA, reduceCtorEq, Nat.reduceEqDiff, Nat.reduceAdd, Nat.reduceLT, Nat.reduceLeDiff, Nat.reduceMul, Nat.reduceSub, ↓reduceIte, decide_true, decide_false, Bool.true_eq_false, Bool.false_eq_true, Bool.not_true, Bool.not_false, if_true, if_false, and_true, true_and, memE, celE, w64, Nat.zero_add, Nat.add_zero, Nat.mul_one, putL, and_self, ldn, t0, t1, t2, t7, tm, gt_iff_lt, ge_iff_le, h0', e1, aj, lj, ai, li, hq]
          rw [risB_no hlt (fun hh => absurd (hh.2 h0) (by omega))]
          exact ext_ansV (Ext.refl m) rfl
        · simp (config := {implicitDefEqProofs := false, maxDischargeDepth := 20}) (disch := first | omega | (simp only [lenE]; done) | (simp only [lenE]; omega) | rfl | (simp only [lenE, markR_len]; done) | (simp only [lenE, markR_len]; omega)) only [runE, mapE, listE, initT_5, initT_6, initT_7, initT_8, resV, oneV, binA, unA, reduceCtorEq, Nat.reduceEqDiff, Nat.reduceAdd, Nat.reduceLT, Nat.reduceLeDiff, Nat.reduceMul, Nat.reduceSub, ↓reduceIte, decide_true, decide_false, Bool.true_eq_false, Bool.false_eq_true, Bool.not_true, Bool.not_false, if_true, if_false, and_true, true_and, memE, celE, w64, Nat.zero_add, Nat.add_zero, Nat.mul_one, putL, and_self, ldn, t0, t1, t2, t7, tm, gt_iff_lt, ge_iff_le, h0', e1, aj, lj, ai, li, hq]
          exact ⟨⟨i + 1, by omega, nx ⟨hyes, fun _ => by omega⟩, by simp⟩, by simp [intOf]; omega⟩
      · have h0' : ¬ ((0 : Int) < i) := by omega
        simp (config := {implicitDefEqProofs := false, maxDischargeDepth := 20}) (disch := first | omega | (simp only [lenE]; done) | (simp only [lenE]; omega) | rfl | (simp only [lenE, markR_len]; done) | (simp only [lenE, markR_len]; omega)) only [runE, mapE, listE, initT_5, initT_6, initT_7, initT_8, resV, oneV, binA, unA, reduceCtorEq, Nat.reduceEqDiff, Nat.reduceAdd, Nat.reduceLT, Nat.reduceLeDiff, Nat.reduceMul, Nat.reduceSub, ↓reduceIte, decide_true, decide_false, Bool.true_eq_false, Bool.false_eq_true, Bool.not_true, Bool.not_false, if_true, if_false, and_true, true_and, memE, celE, w64, Nat.zero_add, Nat.add_zero, Nat.mul_one, putL, and_self, ldn, t0, t1, t2, t7, tm, gt_iff_lt, ge_iff_le, h0']
        exact ⟨⟨i + 1, by omega, nx ⟨hyes, fun hh => absurd hh h0⟩, by simp⟩, by simp [intOf]; omega⟩
  · have hlt' : ¬ ((i : Int) < ps.length) := by omega
    have e : i = ps.length := by omega
    simp (config := {implicitDefEqProofs := false, maxDischargeDepth := 20}) (disch := first | omega | (simp only [lenE]; done) | (simp only [lenE]; omega) | rfl | (simp only [lenE, markR_len]; done) | (simp only [lenE, markR_len]; omega)) only [runE, mapE, listE, initT_5, initT_6, initT_7, initT_8, resV, oneV, binA, unA, reduceCtorEq, Nat.reduceEqDiff, Nat.reduceAdd, Nat.reduceLT, Nat.reduceLeDiff, Nat.reduceMul, Nat.reduceSub, ↓reduceIte, decide_true, decide_false, Bool.true_eq_false, Bool.false_eq_true, Bool.not_true, Bool.not_false, if_true, if_false, and_true, true_and, memE, celE, w64, Nat.zero_add, Nat.add_zero, Nat.mul_one, putL, and_self, ldn, t0, t1, t2, t7, tm, hu.len, hlt']
    have : risB ps n = true := decide_eq_true fun j hj => hall j (by omega)
    rw [this]
    exact ext_ansV (Ext.refl m) rfl

theorem l2Periods_rc (m : Mem) (v u : Value) (k : Cs) (ps : List Int) (h : CaseA m v k) (h' : IntsA m u ps) (hg : Good k) :
    RC Try.prog 86 [v, u] m (AnsV (.bool (risB ps k.need.length))) := by
  refine rc_of_run mixed ok_spec_l2Periods (by simp) (go_start _ _ _ ?_)
  obtain ⟨v1, v2, v3, v4, rfl, h1, h2, h3, h4⟩ := h.ro.ok
  have hu := h'.ro
  have h8 := hg.n8
  simp (config := {implicitDefEqProofs := false, maxDischargeDepth := 20}) (disch := first | omega | (simp only [lenE]; done) | (simp only [lenE]; omega) | rfl | (simp only [lenE, markR_len]; done) | (simp only [lenE, markR_len]; omega)) only [runE, mapE, listE, initT_5, initT_6, initT_7, initT_8, resV, oneV, binA, unA, reduceCtorEq, Nat.reduceEqDiff, Nat.reduceAdd, Nat.reduceLT, Nat.reduceLeDiff, Nat.reduceMul, Nat.reduceSub, ↓reduceIte, decide_true, decide_false, Bool.true_eq_false, Bool.false_eq_true, Bool.not_true, Bool.not_false, if_true, if_false, and_true, true_and, memE, celE, w64, Nat.zero_add, Nat.add_zero, Nat.mul_one, putL, and_self, ldn, c_spec_l2Periods, r_spec_l2Periods, h1.len]
  refine callH_rc (l1Rising_rc _ u ps k.need.length (hu.ext _) (by omega)) ?_
  rintro r new ⟨rfl, nr⟩
  simp (config := {implicitDefEqProofs := false, maxDischargeDepth := 20}) (disch := first | omega | (simp only [lenE]; done) | (simp only [lenE]; omega) | rfl | (simp only [lenE, markR_len]; done) | (simp only [lenE, markR_len]; omega)) only [runE, mapE, listE, initT_5, initT_6, initT_7, initT_8, resV, oneV, binA, unA, reduceCtorEq, Nat.reduceEqDiff, Nat.reduceAdd, Nat.reduceLT, Nat.reduceLeDiff, Nat.reduceMul, Nat.reduceSub, ↓reduceIte, decide_true, decide_false, Bool.true_eq_false, Bool.false_eq_true, Bool.not_true, Bool.not_false, if_true, if_false, and_true, true_and, memE, celE, w64, Nat.zero_add, Nat.add_zero, Nat.mul_one, putL, and_self, ldn]
  exact ext_ansV (((Ext.refl m).one _ _).app nr) rfl

end Go.Proofs.Ytdgfbmilbhckiaa.Ab
end
section
namespace Go.Proofs.Ytdgfbmilbhckiaa
open Go.RowKit Go.ChangeShapes Go.WideShapes Go.ChangeAt
open Go.WideMaps Go.WideElems
set_option linter.unusedVariables false
section
variable {H : Type} {enc : TypeId × Value → H} {W : World}
def pairC (p : Int × Int) : List Value := [.int .i64 p.1, .int .i64 p.2]
def pairsC (L : List (Int × Int)) : List Value := (L.map pairC).flatten
theorem pairsC_at : ∀ (L : List (Int × Int)) (k : Nat), k < L.length → (pairsC L)[k * 2]? = some (.int .i64 (L.getD k (0, 0)).1) ∧ (pairsC L)[k * 2 + 1]? = some (.int .i64 (L.getD k (0, 0)).2)
  | p :: L, 0, _ => ⟨rfl, rfl⟩
  | p :: L, k + 1, h => by
    have ih := pairsC_at L k (by simpa using h)
    have e1 : (k + 1) * 2 = k * 2 + 1 + 1 := by omega
    rw [e1]
    exact ⟨ih.1, ih.2⟩
  | [], k, h => absurd h (by simp)
end
end Go.Proofs.Ytdgfbmilbhckiaa
end
section
namespace Go.Proofs.Ytdgfbmilbhckiaa.Ab
open Go Go.RowKit
set_option linter.unusedVariables false
set_option linter.unusedSimpArgs false
def Lv (lo hi : Nat) (m : Mem) (P : Mem → Prop) : Prop := lo ≤ hi ∧ hi ≤ m.length ∧ ∀ m' : Mem, (∀ i, lo ≤ i → i < hi → m'[i]? = m[i]?) → P m'
def But (lo hi : Nat) (m m' : Mem) : Prop := m.length ≤ m'.length ∧ ∀ i, i < m.length → (i < lo ∨ hi ≤ i) → m'[i]? = m[i]?
section
variable {lo hi a b : Nat} {m m' : Mem} {P : Mem → Prop}
theorem Lv.now (h : Lv lo hi m P) : P m := h.2.2 m fun _ _ _ => rfl
theorem Lv.ext (h : Lv lo hi m P) (new : Mem) : Lv lo hi (m ++ new) P :=
  ⟨h.1, by have := h.2.1; rw [List.length_append]; omega, fun m' h' => h.2.2 m' fun i h1 h2 => by rw [h' i h1 h2, List.getElem?_append_left (by have := h.2.1; omega)]⟩
theorem Lv.mono {Q : Mem → Prop} (h : Lv lo hi m P) (hq : ∀ M, P M → Q M) : Lv lo hi m Q := ⟨h.1, h.2.1, fun m' h' => hq _ (h.2.2 m' h')⟩
theorem Lv.ro (h : Lv lo hi m P) (hp : ∀ M, P M → P (roM M)) : P (roM m) := hp _ h.now
theorem Lv.all (hx : ∀ new, P (m ++ new)) : Lv 0 m.length m P :=
  ⟨Nat.zero_le _, Nat.le_refl _, fun m' h' => by
    have e : m' = m ++ m'.drop m.length := by
      apply List.ext_getElem?
      intro i
      by_cases hi : i < m.length
      · rw [List.getElem?_append_left hi]; exact h' i (by omega) hi
      · rw [List.getElem?_append_right (by omega), List.getElem?_drop]; congr 1; omega
    rw [e]; exact hx _⟩
theorem But.refl (lo hi : Nat) (m : Mem) : But lo hi m m := ⟨Nat.le_refl _, fun _ _ _ => rfl⟩
theorem But.ext (h : But lo hi m m') (new : Mem) : But lo hi m (m' ++ new) :=
  ⟨by have := h.1; rw [List.length_append]; omega, fun i h1 h2 => by rw [List.getElem?_append_left (by have := h.1; omega)]; exact h.2 i h1 h2⟩
theorem But.set (h : But lo hi m m') {id : Nat} (h1 : lo ≤ id) (h2 : id < hi) (x : Blk) : But lo hi m (m'.set id x) :=
  ⟨by rw [List.length_set]; exact h.1, fun i h3 h4 => by rw [List.getElem?_set_ne (by omega)]; exact h.2 i h3 h4⟩
theorem But.trans {m2 : Mem} (h : But lo hi m m') (h' : But lo hi m' m2) : But lo hi m m2 :=
  ⟨Nat.le_trans h.1 h'.1, fun i h1 h2 => by rw [h'.2 i (by have := h.1; omega) h2]; exact h.2 i h1 h2⟩
theorem But.base {new : Mem} (h : But lo hi (m ++ new) m') : But lo hi m m' :=
  ⟨by have := h.1; rw [List.length_append] at this; omega, fun i h1 h2 => by rw [h.2 i (by rw [List.length_append]; omega) h2, List.getElem?_append_left h1]⟩
end
def AnsO (m : Mem) (O : Nat → Nat → Mem → Value → Prop) (f : Value → Value) (r : Value) (new : Mem) : Prop :=
  NoRo new ∧ ∃ v, r = f v ∧ Lv m.length (m.length + new.length) (m ++ new) fun M => O m.length (m.length + new.length) M v
theorem ext_ansO {m M : Mem} {O : Nat → Nat → Mem → Value → Prop} {f : Value → Value} {v : Value} (h : Ext m M) (hO : ∀ M', (∀ i, m.length ≤ i → i < M.length → M'[i]? = M[i]?) → O m.length M.length M' v) : newQ m (AnsO m O f) (f v) M := by
  obtain ⟨n0, rfl, h0⟩ := h
  have hl : (roM m ++ n0).length = m.length + n0.length := by rw [List.length_append, roM_len]
  refine ⟨n0, rfl, h0, h0, v, rfl, by omega, by rw [List.length_append]; omega, fun M' hM => ?_⟩
  rw [← hl]
  refine hO M' fun i h1 h2 => ?_
  rw [hl] at h2
  rw [hM i h1 h2, List.getElem?_append_right h1, List.getElem?_append_right (by rw [roM_len]; exact h1), roM_len]

def OwnB (M : Mem) (id : Nat) (e : TypeId) (cs : List Value) : Prop := M[id]? = some ⟨.own, e, cs⟩
section
variable {M M' : Mem} {id id' : Nat} {e e' : TypeId} {cs cs' : List Value}
theorem OwnB.lt (h : OwnB M id e cs) : id < M.length := (List.getElem?_eq_some_iff.1 h).1
theorem OwnB.ext (h : OwnB M id e cs) (R : Mem) : OwnB (M ++ R) id e cs := by
  unfold OwnB; rw [List.getElem?_append_left h.lt]; exact h
theorem OwnB.set_ne (h : OwnB M id' e cs) (hne : id ≠ id') (b : Blk) : OwnB (M.set id b) id' e cs := by
  unfold OwnB; rw [List.getElem?_set_ne hne]; exact h
theorem OwnB.set_self (h : OwnB M id e cs) (e' : TypeId) (cs' : List Value) : OwnB (M.set id ⟨.own, e', cs'⟩) id e' cs' := by
  unfold OwnB; rw [List.getElem?_set_self h.lt]
theorem OwnB.ne (h : OwnB M id e cs) (h' : OwnB M id' e' cs') (he : e ≠ e') : id ≠ id' := fun hi => by
  subst hi
  unfold OwnB at h h'
  rw [h] at h'
  cases h'
  exact he rfl
theorem OwnB.rd (h : OwnB M id e cs) (k : Nat) : rdc M id k = cs[k]? := by
  unfold OwnB at h; simp [rdc, h]
theorem OwnB.here (h : id = M.length) : OwnB (M ++ [⟨.own, e, cs⟩]) id e cs := by unfold OwnB; rw [h]; simp
theorem OwnB.st (h : OwnB M id e cs) {off : Nat} {vs : List Value} (h2 : off + vs.length ≤ cs.length) (h1 : onesB vs = true) : stA M id off vs = some (M.set id ⟨.own, e, putL cs off vs⟩) := by
  unfold OwnB at h; simp [stA, h, h1, h2]
theorem OwnB.rdl (h : OwnB M id e cs) {k : Nat} (hk : k = cs.length) : rdl M id 0 k = some cs := by
  unfold OwnB at h
  subst hk
  simp [Ab.rdl, h]
theorem OwnB.at_ (h : OwnB M id e cs) (h2 : M'[id]? = M[id]?) : OwnB M' id e cs := by unfold OwnB; rw [h2]; exact h
theorem OwnR.at_ {l : List Int} (h : OwnR M id l) (h2 : M'[id]? = M[id]?) : OwnR M' id l := by unfold OwnR; rw [h2]; exact h
end
def IntsO (l : List Int) (lo hi : Nat) (M : Mem) (v : Value) : Prop :=
  l.length ≤ 1048576 ∧ ∃ id fl, v = .slice (some ⟨id, 0, none⟩) l.length fl ∧ lo ≤ id ∧ id < hi ∧ OwnR M id l
theorem IntsO.in {l : List Int} {lo hi : Nat} {M : Mem} {v : Value} (h : IntsO l lo hi M v) : IntsA M v l := by
  obtain ⟨hl, id, fl, rfl, _, _, ho⟩ := h
  exact ho.ints (by omega) fl
theorem IntsA.ownO {l : List Int} {lo hi id fl : Nat} {M : Mem} (h : OwnR M id l) (hl : l.length ≤ 1048576) (h1 : lo ≤ id) (h2 : id < hi) : IntsO l lo hi M (.slice (some ⟨id, 0, none⟩) l.length fl) := ⟨hl, id, fl, rfl, h1, h2, h⟩
theorem IntsO.lv {l : List Int} {lo hi : Nat} {m : Mem} {v : Value} (h : IntsO l lo hi m v) (h1 : hi ≤ m.length) : Lv lo hi m fun M => IntsO l lo hi M v := by
  obtain ⟨hl, id, fl, rfl, a, b, ho⟩ := h
  exact ⟨by omega, h1, fun m' h' => ⟨hl, id, fl, rfl, a, b, ho.at_ (h' id a b)⟩⟩
def PairsA (m : Mem) (v : Value) (L : List (Int × Int)) : Prop :=
  L.length ≤ 9223372036854775807 ∧ ∃ id fl, v = .slice (some ⟨id, 0, none⟩) L.length fl ∧ ∀ k, k < L.length → rdc m id (k * 2) = some (.int .i64 (L.getD k (0, 0)).1) ∧ rdc m id (k * 2 + 1) = some (.int .i64 (L.getD k (0, 0)).2)
theorem PairsA.ext {m : Mem} {v : Value} {L : List (Int × Int)} (h : PairsA m v L) (new : Mem) : PairsA (m ++ new) v L := by
  obtain ⟨hb, id, fl, rfl, hc⟩ := h
  exact ⟨hb, id, fl, rfl, fun k hk => ⟨rdc_ext (hc k hk).1, rdc_ext (hc k hk).2⟩⟩
theorem PairsA.ro {m : Mem} {v : Value} {L : List (Int × Int)} (h : PairsA m v L) : PairsA (roM m) v L := by
  obtain ⟨hb, id, fl, rfl, hc⟩ := h
  exact ⟨hb, id, fl, rfl, fun k hk => by rw [rdc_roM, rdc_roM]; exact hc k hk⟩
def PairsO (e : TypeId) (L : List (Int × Int)) (lo hi : Nat) (M : Mem) (v : Value) : Prop :=
  L.length ≤ 1048576 ∧ ∃ id fl, v = .slice (some ⟨id, 0, none⟩) L.length fl ∧ lo ≤ id ∧ id < hi ∧ OwnB M id e (pairsC L)
theorem PairsO.in {e : TypeId} {L : List (Int × Int)} {lo hi : Nat} {M : Mem} {v : Value} (h : PairsO e L lo hi M v) : PairsA M v L := by
  obtain ⟨hl, id, fl, rfl, _, _, ho⟩ := h
  exact ⟨by omega, id, fl, rfl, fun k hk => by rw [ho.rd, ho.rd]; exact pairsC_at L k hk⟩
theorem PairsO.lv {e : TypeId} {L : List (Int × Int)} {lo hi : Nat} {m : Mem} {v : Value} (h : PairsO e L lo hi m v) (h1 : hi ≤ m.length) : Lv lo hi m fun M => PairsO e L lo hi M v := by
  obtain ⟨hl, id, fl, rfl, a, b, ho⟩ := h
  exact ⟨by omega, h1, fun m' h' => ⟨hl, id, fl, rfl, a, b, ho.at_ (h' id a b)⟩⟩
structure TabA (m : Mem) (v : Value) (T : List (List Int)) : Prop where
  len : lenA v = some (.int .i64 T.length)
  bd : T.length ≤ 9223372036854775807
  at_ : ∀ k, k < T.length → iadA 1 v (.int .i64 (k : Int)) = some (pAt v k)
  ld : ∀ k, k < T.length → ∃ u, ldA m none (pAt v k) = some u ∧ IntsA m u (T.getD k [])
  fm : ∃ id fl, v = .slice (some ⟨id, 0, none⟩) T.length fl
theorem TabA.ext {m : Mem} {v : Value} {T : List (List Int)} (h : TabA m v T) (new : Mem) : TabA (m ++ new) v T :=
  ⟨h.len, h.bd, h.at_, fun k hk => by obtain ⟨u, h1, h2⟩ := h.ld k hk; exact ⟨u, ldA_ext h1, h2.ext new⟩, h.fm⟩
theorem TabA.ro {m : Mem} {v : Value} {T : List (List Int)} (h : TabA m v T) : TabA (roM m) v T :=
  ⟨h.len, h.bd, h.at_, fun k hk => by obtain ⟨u, h1, h2⟩ := h.ld k hk; exact ⟨u, by rw [ldA_roM]; exact h1, h2.ro⟩, h.fm⟩
theorem TabA.blk {m : Mem} {id fl : Nat} {T : List (List Int)} (hb : T.length ≤ 9223372036854775807) (h : ∀ k, k < T.length → ∃ u, rdc m id k = some u ∧ IntsA m u (T.getD k [])) : TabA m (.slice (some ⟨id, 0, none⟩) T.length fl) T := by
  refine ⟨rfl, hb, fun k hk => ?_, fun k hk => ?_, _, _, rfl⟩
  · simp only [iadA, pAt, Int.toNat_natCast, Nat.mul_one]
    rw [if_pos (by omega)]
  · obtain ⟨u, h1, h2⟩ := h k hk
    exact ⟨u, by simp only [pAt, ldA, Nat.zero_add]; exact h1, h2⟩
def tsz (T : List (List Int)) : Nat → Int
  | 0 => 0
  | k + 1 => tsz T k + ((T.getD k []).length : Int)
theorem tsz_le (T : List (List Int)) {j k : Nat} (h : j ≤ k) : tsz T j ≤ tsz T k := by
  induction k with
  | zero => rw [show j = 0 by omega]; exact Int.le_refl _
  | succ k ih =>
    by_cases e : j = k + 1
    · rw [e]; exact Int.le_refl _
    · have := ih (by omega)
      simp only [tsz]; omega
theorem tsz_row (T : List (List Int)) {j k : Nat} (h : j < k) : ((T.getD j []).length : Int) ≤ tsz T k := by
  have h1 := tsz_le T (j := j + 1) (k := k) (by omega)
  have h2 := tsz_le T (j := 0) (k := j) (by omega)
  simp only [tsz] at h1 h2; omega
def rowsC (T : List (List Int)) (R F : Nat → Nat) : List Value := (List.range T.length).map fun j => .slice (some ⟨R j, 0, none⟩) (T.getD j []).length (F j)
theorem rowsC_at {T : List (List Int)} {R F : Nat → Nat} {j : Nat} (h : j < T.length) : (rowsC T R F)[j]? = some (.slice (some ⟨R j, 0, none⟩) (T.getD j []).length (F j)) := by
  simp [rowsC, h]
def TabO (T : List (List Int)) (lo hi : Nat) (M : Mem) (v : Value) : Prop :=
  T.length ≤ 1048576 ∧ tsz T T.length ≤ 1048576 ∧ ∃ id fl R F, v = .slice (some ⟨id, 0, none⟩) T.length fl ∧ lo ≤ id ∧ id < hi ∧ OwnB M id 24 (rowsC T R F) ∧
    (∀ j, j < T.length → lo ≤ R j ∧ R j < hi ∧ OwnR M (R j) (T.getD j [])) ∧ ∀ i j, i < T.length → j < T.length → R i = R j → i = j
theorem TabO.in {T : List (List Int)} {lo hi : Nat} {M : Mem} {v : Value} (h : TabO T lo hi M v) : TabA M v T := by
  obtain ⟨hl, hs, id, fl, R, F, rfl, _, _, ho, hr, _⟩ := h
  exact TabA.blk (by omega) fun k hk => ⟨_, by rw [ho.rd]; exact rowsC_at hk, (hr k hk).2.2.ints (by have := tsz_row T hk; omega) _⟩
theorem TabO.lv {T : List (List Int)} {lo hi : Nat} {m : Mem} {v : Value} (h : TabO T lo hi m v) (h1 : hi ≤ m.length) : Lv lo hi m fun M => TabO T lo hi M v := by
  obtain ⟨hl, hs, id, fl, R, F, rfl, a, b, ho, hr, hd⟩ := h
  exact ⟨by omega, h1, fun m' h' => ⟨hl, hs, id, fl, R, F, rfl, a, b, ho.at_ (h' id a b), fun j hj => by
    obtain ⟨c, d, e⟩ := hr j hj
    exact ⟨c, d, e.at_ (h' _ c d)⟩, hd⟩⟩
end Go.Proofs.Ytdgfbmilbhckiaa.Ab
end
section
namespace Go.Proofs.Ytdgfbmilbhckiaa.Ab
open Go Go.RowKit
set_option linter.unusedVariables false
set_option linter.unusedSimpArgs false
theorem bsl_no {m : Mem} {e : TypeId} {sz : Nat} : bslA m e sz 0 [] [] = some (.slice (some ⟨m.length, 0, none⟩) 0 sz, m ++ [⟨.own, e, []⟩]) := rfl
theorem app_num {M : Mem} {l : List Int} {x : Int} {id id2 n : Nat} (h : OwnR M id l) (hb : l.length ≤ 1048576) (h2 : id2 = M.length) (hn : n = l.length) :
    appP (M ++ [⟨.own, 3, [.int .i64 x]⟩]) 3 1 8 (.slice (some ⟨id, 0, none⟩) n 1) (.slice (some ⟨id2, 0, none⟩) 1 1) =
      some (.slice (some ⟨id2 + 1, 0, none⟩) (n + 1) 1, M.set id deadB ++ [⟨.own, 3, [.int .i64 x]⟩] ++ [⟨.own, 3, (l ++ [x]).map (Value.int .i64)⟩]) := by
  subst h2 hn
  exact app_gen h hb
def TabX (T : List (List Int)) (lo hi : Nat) (M : Mem) (id : Nat) (R F : Nat → Nat) : Prop :=
  lo ≤ id ∧ id < hi ∧ OwnB M id 24 (rowsC T R F) ∧ (∀ j, j < T.length → lo ≤ R j ∧ R j < hi ∧ OwnR M (R j) (T.getD j [])) ∧ ∀ i j, i < T.length → j < T.length → R i = R j → i = j
theorem TabX.at_ {T : List (List Int)} {lo hi : Nat} {M M' : Mem} {id : Nat} {R F : Nat → Nat} (h : TabX T lo hi M id R F) (hs : ∀ i, lo ≤ i → i < hi → M'[i]? = M[i]?) : TabX T lo hi M' id R F :=
  ⟨h.1, h.2.1, h.2.2.1.at_ (hs _ h.1 h.2.1), fun j hj => by obtain ⟨a, b, c⟩ := h.2.2.2.1 j hj; exact ⟨a, b, c.at_ (hs _ a b)⟩, h.2.2.2.2⟩
theorem TabX.ext {T : List (List Int)} {lo hi : Nat} {M : Mem} {id : Nat} {R F : Nat → Nat} (h : TabX T lo hi M id R F) (hh : hi ≤ M.length) (new : Mem) : TabX T lo hi (M ++ new) id R F :=
  h.at_ fun i _ h2 => List.getElem?_append_left (by omega)
theorem same_gen {M : Mem} {id i : Nat} {b : Blk} {x y : Mem} (h : i < id) (hl : id < M.length) : (M.set id b ++ x ++ y)[i]? = M[i]? := by
  rw [List.append_assoc, List.getElem?_append_left (by rw [List.length_set]; omega), List.getElem?_set_ne (by omega)]
theorem TabX.row {T : List (List Int)} {lo hi : Nat} {M : Mem} {id : Nat} {R F : Nat → Nat} (h : TabX T lo hi M id R F) {j : Nat} (hj : j < T.length) (hb : (T.getD j []).length ≤ 1048576) :
    rdc M id j = some (.slice (some ⟨R j, 0, none⟩) (T.getD j []).length (F j)) ∧ IntsA M (.slice (some ⟨R j, 0, none⟩) (T.getD j []).length (F j)) (T.getD j []) :=
  ⟨by rw [h.2.2.1.rd]; exact rowsC_at hj, (h.2.2.2.1 j hj).2.2.ints (by omega) _⟩
theorem rowsC_cons {T : List (List Int)} {r : List Int} {R F : Nat → Nat} {rid f : Nat} :
    rowsC (r :: T) (fun j => if j = 0 then rid else R (j - 1)) (fun j => if j = 0 then f else F (j - 1)) = .slice (some ⟨rid, 0, none⟩) r.length f :: rowsC T R F := by
  unfold rowsC
  rw [List.length_cons, List.range_succ_eq_map, List.map_cons, List.map_map]
  congr 1
theorem TabX.cons {T : List (List Int)} {r : List Int} {lo hi hi' : Nat} {M M' : Mem} {id id' rid f : Nat} {R F : Nat → Nat} (h : TabX T lo hi M id R F) (hs : ∀ i, lo ≤ i → i < hi → M'[i]? = M[i]?)
    (h1 : lo ≤ id') (h2 : id' < hi') (h3 : OwnB M' id' 24 (.slice (some ⟨rid, 0, none⟩) r.length f :: rowsC T R F)) (h4 : hi ≤ rid) (h5 : rid < hi') (h6 : OwnR M' rid r) (h7 : hi ≤ hi') :
    TabX (r :: T) lo hi' M' id' (fun j => if j = 0 then rid else R (j - 1)) (fun j => if j = 0 then f else F (j - 1)) := by
  have hx := h.at_ hs
  refine ⟨h1, h2, by rw [rowsC_cons]; exact h3, fun j hj => ?_, fun i j hi hj he => ?_⟩
  · cases j with
    | zero => exact ⟨by have := h.1; have := h.2.1; simp; omega, by simpa using h5, by simpa using h6⟩
    | succ j =>
      obtain ⟨a, b, c⟩ := hx.2.2.2.1 j (by simpa using hj)
      exact ⟨by simpa using a, by simp; omega, by simpa using c⟩
  · cases i with
    | zero =>
      cases j with
      | zero => rfl
      | succ j =>
        have := (h.2.2.2.1 j (by simpa using hj)).2.1
        simp at he; omega
    | succ i =>
      cases j with
      | zero =>
        have := (h.2.2.2.1 i (by simpa using hi)).2.1
        simp at he; omega
      | succ j =>
        have := h.2.2.2.2 i j (by simpa using hi) (by simpa using hj) (by simpa using he)
        omega
def Wide (O : Nat → Nat → Mem → Value → Prop) : Prop := ∀ lo hi lo' hi' M v, lo' ≤ lo → hi ≤ hi' → O lo hi M v → O lo' hi' M v
theorem IntsO.wide (l : List Int) : Wide (IntsO l) := fun lo hi lo' hi' M v h1 h2 h => by
  obtain ⟨a, id, fl, b, c, d, e⟩ := h
  exact ⟨a, id, fl, b, by omega, by omega, e⟩
theorem Ext.pass {m A new : Mem} {O : Nat → Nat → Mem → Value → Prop} {f : Value → Value} {w : Value} (hX : Ext m A) (hn : NoRo new) (hO : Wide O) (h : Lv A.length (A.length + new.length) (A ++ new) fun M => O A.length (A.length + new.length) M w) : newQ m (AnsO m O f) (f w) (A ++ new) :=
  ext_ansO (hX.app hn) fun M' hM => hO _ _ _ _ _ _ hX.len (by rw [List.length_append]; exact Nat.le_refl _) (h.2.2 M' fun i h1 h2 => hM i (by have := hX.len; omega) (by rw [List.length_append]; exact h2))
theorem ext_noInts {m A : Mem} {f : Value → Value} {id : Nat} (hX : Ext m A) (hid : id = A.length) : newQ m (AnsO m (IntsO []) f) (f (.slice (some ⟨id, 0, none⟩) 0 1)) (A ++ [⟨.own, 3, []⟩]) := by
  subst hid
  exact ext_ansO (hX.one _ _) fun M' hM => ⟨by simp, _, 1, rfl, hX.len, by simp, OwnR.at_ (OwnB.here rfl) (hM _ hX.len (by simp))⟩
end Go.Proofs.Ytdgfbmilbhckiaa.Ab
end
section
namespace Go.Proofs.Ytdgfbmilbhckiaa.Ab
open Go Go.RowKit
set_option linter.unusedVariables false
set_option linter.unusedSimpArgs false
set_option maxRecDepth 10000
def AnsR1 (m : Mem) (l : List Int) (r : Value) (new : Mem) : Prop :=
  NoRo new ∧ l.length ≤ 1048576 ∧ ∃ i, r = .slice (some ⟨m.length + i, 0, none⟩) l.length 1 ∧ new[i]? = some (rowB l)
theorem AnsR1.row {m new : Mem} {l : List Int} {r : Value} (h : AnsR1 m l r new) : ∃ id, r = .slice (some ⟨id, 0, none⟩) l.length 1 ∧ m.length ≤ id ∧ OwnR (m ++ new) id l ∧ NoRo new := by
  obtain ⟨h1, h2, i, rfl, h3⟩ := h
  exact ⟨_, rfl, by omega, OwnR.new h3 rfl, h1⟩
theorem ext_ansR1 {m M : Mem} {l : List Int} {id n : Nat} (h : Ext m M) (ho : OwnR M id l) (hid : m.length ≤ id) (hn : n = l.length) (hl : l.length ≤ 1048576) :
    newQ m (AnsR1 m l) (.slice (some ⟨id, 0, none⟩) n 1) M := by
  subst hn
  obtain ⟨n0, rfl, h0⟩ := h
  unfold OwnR at ho
  rw [List.getElem?_append_right (by rw [roM_len]; exact hid), roM_len] at ho
  exact ⟨n0, rfl, h0, h0, hl, id - m.length, by rw [Nat.add_sub_cancel' hid], ho⟩
theorem l2Bits1_rc (m : Mem) (n c : Nat) (hn : n ≤ 8) (hc : c ≤ 256) :
    RC Try.prog 60 [.int .i64 n, .int .i64 c] m (AnsR1 m (bitsL c n)) := by
  refine rc_of_run mixed ok_spec_l2Bits (by simp) (go_start _ _ _ ?_)
  simp (config := {implicitDefEqProofs := false, maxDischargeDepth := 20}) (disch := first | omega | (simp only [lenE]; done) | (simp only [lenE]; omega) | rfl | (simp only [lenE, markR_len]; done) | (simp only [lenE, markR_len]; omega)) only [runE, mapE, listE, initT_5, initT_6, initT_7, initT_8, resV, oneV, binA, unA, reduceCtorEq, Nat.reduceEqDiff, Nat.reduceAdd, Nat.reduceLT, Nat.reduceLeDiff, Nat.reduceMul, Nat.reduceSub, ↓reduceIte, decide_true, decide_false, Bool.true_eq_false, Bool.false_eq_true, Bool.not_true, Bool.not_false, if_true, if_false, and_true, true_and, memE, celE, w64, Nat.zero_add, Nat.add_zero, Nat.mul_one, putL, and_self, ldn, c_spec_l2Bits, r_spec_l2Bits, bsl_none]
  refine loop_inv mixed (fun s => ∃ (x : Nat) (M : Mem) (id : Nat), x ≤ n ∧ s.t 0 = .int .i64 n ∧ s.t 1 = .int .i64 c ∧ s.t 5 = .slice (some ⟨id, 0, none⟩) (bitsL c x).length 1 ∧ s.t 6 = .int .i64 x ∧ s.m = M ∧ Ext m M ∧ OwnR M id (bitsL c x) ∧ m.length ≤ id) (fun s => n - (intOf (s.t 6)).toNat)
    ⟨0, _, m.length, by omega, rfl, rfl, by simp only [put_t, put_t', put_m, putT_t, putT_t', putT_m, init_t, init_m, initT_0, initT_1, initT_2, initT_3, initT_4, initT_5, initT_6, initT_7, initT_8, Nat.reduceEqDiff, ↓reduceIte]; rfl, rfl, rfl, (Ext.refl m).one _ _, OwnR.end' (l := []) (by simp [roM_len]), Nat.le_refl _⟩ ?_
  rintro s ⟨x, M, id, hk, t0, t1, t5, t6, tm, hx, oM, lid⟩
  by_cases hlt : x < n
  · have hlt' : (x : Int) < n := by omega
    have hx0 : ¬ ((x : Int) < 0) := by omega
    have hd : c / 2 ^ x ≤ 1000 := Nat.le_trans (Nat.div_le_self _ _) (by omega)
    have aw := and1w (c / 2 ^ x) hd
    have bl := bitsL_len c x
    by_cases hb : c / 2 ^ x % 2 = 1
    · have hb' : (((c / 2 ^ x % 2 : Nat) : Int) == 1) = true := by rw [hb]; rfl
      simp (config := {implicitDefEqProofs := false, maxDischargeDepth := 20}) (disch := first | omega | (simp only [lenE]; done) | (simp only [lenE]; omega) | rfl | (simp only [lenE, markR_len]; done) | (simp only [lenE, markR_len]; omega)) only [runE, mapE, listE, initT_5, initT_6, initT_7, initT_8, resV, oneV, binA, unA, reduceCtorEq, Nat.reduceEqDiff, Nat.reduceAdd, Nat.reduceLT, Nat.reduceLeDiff, Nat.reduceMul, Nat.reduceSub, ↓reduceIte, decide_true, decide_false, Bool.true_eq_false, Bool.false_eq_true, Bool.not_true, Bool.not_false, if_true, if_false, and_true, true_and, memE, celE, w64, Nat.zero_add, Nat.add_zero, Nat.mul_one, putL, and_self, ldn, t0, t1, t5, t6, tm, hlt', hx0, shr_code (c := c) (show x ≤ 63 by omega), aw, hb', bsl_one, app_gen oM (by omega)]
      refine ⟨⟨x + 1, _, M.length + 1, by omega, by rw [bitsL, if_pos hb]; simp, by simp, rfl, ((hx.dead lid).one _ _).one _ _, ?_, by have := hx.len; omega⟩, by simp [intOf]; omega⟩
      rw [bitsL, if_pos hb]
      have := OwnR.at_end (M.set id deadB ++ [⟨.own, 3, [.int .i64 (x : Int)]⟩]) (bitsL c x ++ [(x : Int)])
      simpa using this
    · have hb' : (((c / 2 ^ x % 2 : Nat) : Int) == 1) = false := by
        have : c / 2 ^ x % 2 = 0 := by omega
        rw [this]; rfl
      simp (config := {implicitDefEqProofs := false, maxDischargeDepth := 20}) (disch := first | omega | (simp only [lenE]; done) | (simp only [lenE]; omega) | rfl | (simp only [lenE, markR_len]; done) | (simp only [lenE, markR_len]; omega)) only [runE, mapE, listE, initT_5, initT_6, initT_7, initT_8, resV, oneV, binA, unA, reduceCtorEq, Nat.reduceEqDiff, Nat.reduceAdd, Nat.reduceLT, Nat.reduceLeDiff, Nat.reduceMul, Nat.reduceSub, ↓reduceIte, decide_true, decide_false, Bool.true_eq_false, Bool.false_eq_true, Bool.not_true, Bool.not_false, if_true, if_false, and_true, true_and, memE, celE, w64, Nat.zero_add, Nat.add_zero, Nat.mul_one, putL, and_self, ldn, t0, t1, t5, t6, tm, hlt', hx0, shr_code (c := c) (show x ≤ 63 by omega), aw, hb']
      exact ⟨⟨x + 1, M, id, by omega, by rw [bitsL, if_neg hb], by simp, rfl, hx, by rw [bitsL, if_neg hb]; exact oM, lid⟩, by simp [intOf]; omega⟩
  · have hlt' : ¬ ((x : Int) < n) := by omega
    have e : x = n := by omega
    subst e
    have := bitsL_len c x
    simp (config := {implicitDefEqProofs := false, maxDischargeDepth := 20}) (disch := first | omega | (simp only [lenE]; done) | (simp only [lenE]; omega) | rfl | (simp only [lenE, markR_len]; done) | (simp only [lenE, markR_len]; omega)) only [runE, mapE, listE, initT_5, initT_6, initT_7, initT_8, resV, oneV, binA, unA, reduceCtorEq, Nat.reduceEqDiff, Nat.reduceAdd, Nat.reduceLT, Nat.reduceLeDiff, Nat.reduceMul, Nat.reduceSub, ↓reduceIte, decide_true, decide_false, Bool.true_eq_false, Bool.false_eq_true, Bool.not_true, Bool.not_false, if_true, if_false, and_true, true_and, memE, celE, w64, Nat.zero_add, Nat.add_zero, Nat.mul_one, putL, and_self, ldn, t0, t1, t5, t6, tm, hlt']
    exact ext_ansR1 hx oM (by omega) rfl (by omega)
theorem l1Hd_rc (m : Mem) (v : Value) (l : List Int) (x : Int) (h : IntsA m v l) : RC Try.prog 84 [v, .int .i64 x] m fun r new => r = .bool (decide (x ∈ l)) ∧ new = [] := by
  refine rc_of_run mixed ok_spec_l1Has (by simp) (go_start _ _ _ ?_)
  obtain ⟨e1, e2, e3, e4, -⟩ := h.ro
  simp (config := {implicitDefEqProofs := false, maxDischargeDepth := 20}) (disch := first | omega | (simp only [lenE]; done) | (simp only [lenE]; omega) | rfl | (simp only [lenE, markR_len]; done) | (simp only [lenE, markR_len]; omega)) only [runE, mapE, listE, initT_5, initT_6, initT_7, initT_8, resV, oneV, binA, unA, reduceCtorEq, Nat.reduceEqDiff, Nat.reduceAdd, Nat.reduceLT, Nat.reduceLeDiff, Nat.reduceMul, Nat.reduceSub, ↓reduceIte, decide_true, decide_false, Bool.true_eq_false, Bool.false_eq_true, Bool.not_true, Bool.not_false, if_true, if_false, and_true, true_and, memE, celE, w64, Nat.zero_add, Nat.add_zero, Nat.mul_one, putL, and_self, ldn, c_spec_l1Has, r_spec_l1Has]
  refine loop_inv mixed (fun s => ∃ k : Nat, k ≤ l.length ∧ s.t 0 = v ∧ s.t 1 = .int .i64 x ∧ s.t 5 = .int .i64 k ∧ s.m = roM m ∧ (∀ j, j < k → l.getD j 0 ≠ x)) (fun s => l.length - (intOf (s.t 5)).toNat) ⟨0, by omega, rfl, rfl, rfl, rfl, fun j hj => absurd hj (by omega)⟩ ?_
  rintro s ⟨k, hk, t0, t1, t5, tm, hno⟩
  by_cases hlt : k < l.length
  · have hlt' : (k : Int) < l.length := by omega
    cases he : (l.getD k 0 == x) with
    | true =>
      simp (config := {implicitDefEqProofs := false, maxDischargeDepth := 20}) (disch := first | omega | (simp only [lenE]; done) | (simp only [lenE]; omega) | rfl | (simp only [lenE, markR_len]; done) | (simp only [lenE, markR_len]; omega)) only [runE, mapE, listE, initT_5, initT_6, initT_7, initT_8, resV, oneV, binA, unA, reduceCtorEq, Nat.reduceEqDiff, Nat.reduceAdd, Nat.reduceLT, Nat.reduceLeDiff, Nat.reduceMul, Nat.reduceSub, ↓reduceIte, decide_true, decide_false, Bool.true_eq_false, Bool.false_eq_true, Bool.not_true, Bool.not_false, if_true, if_false, and_true, true_and, memE, celE, w64, Nat.zero_add, Nat.add_zero, Nat.mul_one, putL, and_self, ldn, t0, t1, t5, tm, e1, e3 k hlt, e4 k hlt, hlt', he]
      refine newQ_nil ⟨?_, rfl⟩
      rw [decide_eq_true]
      rw [← beq_iff_eq.1 he, List.getD_eq_getElem?_getD, List.getElem?_eq_getElem hlt]
      exact List.getElem_mem _
    | false =>
      simp (config := {implicitDefEqProofs := false, maxDischargeDepth := 20}) (disch := first | omega | (simp only [lenE]; done) | (simp only [lenE]; omega) | rfl | (simp only [lenE, markR_len]; done) | (simp only [lenE, markR_len]; omega)) only [runE, mapE, listE, initT_5, initT_6, initT_7, initT_8, resV, oneV, binA, unA, reduceCtorEq, Nat.reduceEqDiff, Nat.reduceAdd, Nat.reduceLT, Nat.reduceLeDiff, Nat.reduceMul, Nat.reduceSub, ↓reduceIte, decide_true, decide_false, Bool.true_eq_false, Bool.false_eq_true, Bool.not_true, Bool.not_false, if_true, if_false, and_true, true_and, memE, celE, w64, Nat.zero_add, Nat.add_zero, Nat.mul_one, putL, and_self, ldn, t0, t1, t5, tm, e1, e3 k hlt, e4 k hlt, hlt', he]
      refine ⟨⟨k + 1, by omega, by simp, fun j hj => ?_⟩, by simp [intOf]; omega⟩
      by_cases e : j = k
      · rw [e]; simpa using he
      · exact hno j (by omega)
  · have hlt' : ¬ ((k : Int) < l.length) := by omega
    simp (config := {implicitDefEqProofs := false, maxDischargeDepth := 20}) (disch := first | omega | (simp only [lenE]; done) | (simp only [lenE]; omega) | rfl | (simp only [lenE, markR_len]; done) | (simp only [lenE, markR_len]; omega)) only [runE, mapE, listE, initT_5, initT_6, initT_7, initT_8, resV, oneV, binA, unA, reduceCtorEq, Nat.reduceEqDiff, Nat.reduceAdd, Nat.reduceLT, Nat.reduceLeDiff, Nat.reduceMul, Nat.reduceSub, ↓reduceIte, decide_true, decide_false, Bool.true_eq_false, Bool.false_eq_true, Bool.not_true, Bool.not_false, if_true, if_false, and_true, true_and, memE, celE, w64, Nat.zero_add, Nat.add_zero, Nat.mul_one, putL, and_self, ldn, t0, t1, t5, tm, e1, hlt']
    refine newQ_nil ⟨?_, rfl⟩
    rw [decide_eq_false]
    intro hm
    obtain ⟨j, hj, e⟩ := List.getElem_of_mem hm
    refine hno j (by omega) ?_
    rw [List.getD_eq_getElem?_getD, List.getElem?_eq_getElem hj]; exact e
theorem appI {M : Mem} {id : Nat} {cs ys : List Value} {u : Value} (h : M[id]? = some ⟨.own, 3, cs⟩) (hs : slR M 1 u = some ys) (hu : lenOfA u = ys.length) (ho : onesB ys = true) (hb : cs.length + ys.length ≤ 1048576) {n : Nat} (hn : n = cs.length) :
    appP M 3 1 8 (.slice (some ⟨id, 0, none⟩) n 1) u = some (.slice (some ⟨M.length, 0, none⟩) (n + ys.length) 1, M.set id deadB ++ [⟨.own, 3, cs ++ ys⟩]) := by
  subst hn
  unfold appP
  rw [hs]
  simp only [ho, if_true, appA, hu]
  rw [h]
  simp only [Nat.mul_one, true_and]
  rw [if_pos (by omega)]
theorem l1Put0_rc (m : Mem) (id fl : Nat) (l : List Int) (h : IntsA m (.slice (some ⟨id, 0, none⟩) l.length fl) l) (hl : l.length ≤ 1000) (hp : ∀ x ∈ l, 0 < x) :
    RC Try.prog 85 [.slice (some ⟨id, 0, none⟩) l.length fl, .int .i64 0] m (AnsR1 m (0 :: l)) := by
  refine rc_of_run mixed ok_spec_l1Put (by simp) (go_start _ _ _ ?_)
  have hr := h.ro
  obtain ⟨e1, e2, e3, e4, e5⟩ := hr
  have hpos : ∀ h0 : 0 < l.length, ¬ (l.getD 0 0 < 0) ∧ (l.getD 0 0 == 0) = false := fun h0 => by
    have := hp _ (getD_mem (l := l) h0)
    exact ⟨by omega, by rw [beq_eq_false_iff_ne]; omega⟩
  have s1 : slcA 1 (.slice (some ⟨id, 0, none⟩) l.length fl) none (some (.int .i64 0)) = some (.slice (some ⟨id, 0, none⟩) 0 fl) := by simp [slcA, boundA]
  have s2 : slcA 1 (.slice (some ⟨id, 0, none⟩) l.length fl) (some (.int .i64 0)) none = some (.slice (some ⟨id, 0, none⟩) l.length 0) := by simp [slcA, boundA]
  have q0 : ∀ M, Ext m M → slR M 1 (.slice (some ⟨id, 0, none⟩) 0 fl) = some [] := fun M hx => by
    have := (hx.ints h.ro).src
    simp only [slR, Nat.mul_one, rdl] at this ⊢
    split at this
    · split at this
      · cases this
      · rw [if_neg ‹_›, if_pos (by omega)]; simp
    · cases this
  have q1 : ∀ M, Ext m M → slR M 1 (.slice (some ⟨id, 0, none⟩) l.length 0) = some (l.map (Value.int .i64)) := fun M hx => (hx.ints h.ro).src
  simp (config := {implicitDefEqProofs := false, maxDischargeDepth := 20}) (disch := first | omega | (simp only [lenE]; done) | (simp only [lenE]; omega) | rfl | (simp only [lenE, markR_len]; done) | (simp only [lenE, markR_len]; omega)) only [runE, mapE, listE, initT_5, initT_6, initT_7, initT_8, resV, oneV, binA, unA, reduceCtorEq, Nat.reduceEqDiff, Nat.reduceAdd, Nat.reduceLT, Nat.reduceLeDiff, Nat.reduceMul, Nat.reduceSub, ↓reduceIte, decide_true, decide_false, Bool.true_eq_false, Bool.false_eq_true, Bool.not_true, Bool.not_false, if_true, if_false, and_true, true_and, memE, celE, w64, Nat.zero_add, Nat.add_zero, Nat.mul_one, putL, and_self, ldn, c_spec_l1Put, r_spec_l1Put]
  refine loop_inv mixed (fun s => s.m = roM m ∧ s.t 0 = .slice (some ⟨id, 0, none⟩) l.length fl ∧ s.t 1 = .int .i64 0 ∧ s.t 5 = .int .i64 0) (fun s => 0) ⟨rfl, rfl, rfl, rfl⟩ ?_
  rintro s ⟨tm, t0, t1, t5⟩
  have stE : ∀ (N : Mem) (i1 : Nat), Ext m N → m.length ≤ i1 → N[i1]? = some ⟨.own, 3, []⟩ → ∃ N1, appP N 3 1 8 (.slice (some ⟨i1, 0, none⟩) 0 1) (.slice (some ⟨id, 0, none⟩) 0 fl) = some (.slice (some ⟨N.length, 0, none⟩) 0 1, N1) ∧ Ext m N1 ∧ N1[N.length]? = some ⟨.own, 3, []⟩ ∧ (∀ j, j ≠ i1 → j < N.length → N1[j]? = N[j]?) ∧ N1.length = N.length + 1 := fun N i1 hx hi hN => by
    have := appI hN (q0 N hx) rfl rfl (by simp) (n := 0) rfl
    refine ⟨N.set i1 deadB ++ [⟨.own, 3, []⟩], by simpa using this, (hx.dead hi).one _ _, by rw [List.getElem?_append_right (by simp)]; simp, fun j h1 h2 => ?_, by simp⟩
    rw [List.getElem?_append_left (by simpa using h2), List.getElem?_set_ne (Ne.symm h1)]
  have stZ : ∀ (N : Mem) (iE iZ : Nat), Ext m N → m.length ≤ iE → N[iE]? = some ⟨.own, 3, []⟩ → N[iZ]? = some ⟨.own, 3, [.int .i64 0]⟩ → ∃ M4 M5, appP N 3 1 8 (.slice (some ⟨iE, 0, none⟩) 0 1) (.slice (some ⟨iZ, 0, none⟩) 1 1) = some (.slice (some ⟨N.length, 0, none⟩) 1 1, M4) ∧
      appP M4 3 1 8 (.slice (some ⟨N.length, 0, none⟩) 1 1) (.slice (some ⟨id, 0, none⟩) l.length 0) = some (.slice (some ⟨N.length + 1, 0, none⟩) (1 + l.length) 1, M5) ∧ newQ m (AnsR1 m (0 :: l)) (.slice (some ⟨N.length + 1, 0, none⟩) (1 + l.length) 1) M5 := fun N iE iZ hx hi hE hZ => by
    have zz : OwnB N iZ 3 [.int .i64 0] := hZ
    have a1 := appI hE (u := .slice (some ⟨iZ, 0, none⟩) 1 1) (ys := [.int .i64 0]) (by simp only [slR]; exact zz.rdl rfl) rfl rfl (by simp) (n := 0) rfl
    obtain ⟨M4, hM4⟩ : ∃ M4, M4 = N.set iE deadB ++ [⟨.own, 3, [.int .i64 0]⟩] := ⟨_, rfl⟩
    have x4 : Ext m M4 := by rw [hM4]; exact (hx.dead hi).one _ _
    have L4 : M4.length = N.length + 1 := by rw [hM4]; simp
    have g4 : M4[N.length]? = some ⟨.own, 3, [.int .i64 0]⟩ := by rw [hM4, List.getElem?_append_right (by simp)]; simp
    simp only [List.nil_append, List.length_cons, List.length_nil, Nat.zero_add, ← hM4] at a1
    clear hM4
    have a2 := appI g4 (q1 _ x4) (by simp [lenOfA]) (onesB_ints l) (by simp; omega) (n := 1) rfl
    have x5 := (x4.dead (id := N.length) (by have := hx.len; omega)).one 3 ([.int .i64 0] ++ l.map (Value.int .i64))
    have o5 := OwnR.at_end (M4.set N.length deadB) (0 :: l)
    rw [List.length_set, L4] at o5
    rw [L4, List.length_map] at a2
    exact ⟨_, _, a1, a2, ext_ansR1 (n := 1 + l.length) x5 (by simpa [rowB] using o5) (by have := hx.len; omega) (by simp; omega) (by simp; omega)⟩
  have xA : Ext m (roM m ++ [⟨.own, 3, []⟩]) := (Ext.refl m).one _ _
  obtain ⟨NA, fa1, xa1, ea1, ka1, la1⟩ := stE (roM m ++ [⟨.own, 3, []⟩]) m.length xA (Nat.le_refl _) (by rw [List.getElem?_append_right (by simp [roM_len])]; simp [roM_len])
  have eb : bslA (roM m) 3 1 0 [] [] = some (.slice (some ⟨m.length, 0, none⟩) 0 1, roM m ++ [⟨.own, 3, []⟩]) := by rw [bsl_no, roM_len]
  obtain ⟨P4, P5, ga1, ga2, ga3⟩ := stZ (NA ++ [⟨.own, 3, [.int .i64 0]⟩]) (m.length + 1) (m.length + 2) (xa1.one _ _) (by omega) (by simp [roM_len] at la1 ea1; rw [List.getElem?_append_left (by omega)]; exact ea1) (by simp [roM_len] at la1; rw [List.getElem?_append_right (by omega)]; simp [la1])
  obtain ⟨NB, fb1, xb1, eb1, kb1, lb1⟩ := stE (roM m ++ [⟨.own, 3, []⟩] ++ [⟨.own, 3, [.int .i64 0]⟩]) m.length (xA.one _ _) (Nat.le_refl _) (by simp [roM_len, List.getElem?_append])
  obtain ⟨Q4, Q5, gb1, gb2, gb3⟩ := stZ NB (m.length + 2) (m.length + 1) xb1 (by omega) (by simpa [roM_len] using eb1) (by rw [kb1 _ (by omega) (by simp [roM_len])]; simp [roM_len, List.getElem?_append])
  obtain ⟨NC, fc1, xc1, ec1, kc1, lc1⟩ := stE (roM m ++ [⟨.own, 3, [.int .i64 0]⟩] ++ [⟨.own, 3, []⟩]) (m.length + 1) (((Ext.refl m).one _ _).one _ _) (by omega) (by simp [roM_len, List.getElem?_append])
  obtain ⟨R4, R5, gc1, gc2, gc3⟩ := stZ NC (m.length + 2) m.length xc1 (by omega) (by simpa [roM_len] using ec1) (by rw [kc1 _ (by omega) (by simp [roM_len])]; simp [roM_len, List.getElem?_append])
  simp only [List.length_append, List.length_cons, List.length_nil, roM_len, Nat.zero_add] at fa1 fb1 fc1 la1 lb1 lc1 ga1 ga2 ga3 gb1 gb2 gb3 gc1 gc2 gc3
  simp only [la1, lb1, lc1] at ga1 ga2 ga3 gb1 gb2 gb3 gc1 gc2 gc3
  by_cases h0 : 0 < l.length
  · have h0' : (0 : Int) < (l.length : Int) := by omega
    obtain ⟨p1, p2⟩ := hpos h0
    have i0 := e3 0 h0
    have d0 := e4 0 h0
    simp only [Int.ofNat_zero, Int.natCast_zero] at i0 d0
    simp (config := {implicitDefEqProofs := false, maxDischargeDepth := 20}) (disch := first | omega | (simp only [lenE]; done) | (simp only [lenE]; omega) | rfl | (simp only [lenE, markR_len]; done) | (simp only [lenE, markR_len]; omega)) only [runE, mapE, listE, initT_5, initT_6, initT_7, initT_8, resV, oneV, binA, unA, reduceCtorEq, Nat.reduceEqDiff, Nat.reduceAdd, Nat.reduceLT, Nat.reduceLeDiff, Nat.reduceMul, Nat.reduceSub, ↓reduceIte, decide_true, decide_false, Bool.true_eq_false, Bool.false_eq_true, Bool.not_true, Bool.not_false, if_true, if_false, and_true, true_and, memE, celE, w64, Nat.zero_add, Nat.add_zero, Nat.mul_one, putL, and_self, ldn, tm, t0, t1, t5, e1, h0', i0, d0, p1, p2, s1, s2, Option.map_none, bsl_no, bsl_one, fa1, fb1, fc1, la1, lb1, lc1, ga1, ga2, gb1, gb2, gc1, gc2]
    exact ⟨⟨ga3, gb3⟩, gc3⟩
  · have h0' : ¬ ((0 : Int) < (l.length : Int)) := by omega
    simp (config := {implicitDefEqProofs := false, maxDischargeDepth := 20}) (disch := first | omega | (simp only [lenE]; done) | (simp only [lenE]; omega) | rfl | (simp only [lenE, markR_len]; done) | (simp only [lenE, markR_len]; omega)) only [runE, mapE, listE, initT_5, initT_6, initT_7, initT_8, resV, oneV, binA, unA, reduceCtorEq, Nat.reduceEqDiff, Nat.reduceAdd, Nat.reduceLT, Nat.reduceLeDiff, Nat.reduceMul, Nat.reduceSub, ↓reduceIte, decide_true, decide_false, Bool.true_eq_false, Bool.false_eq_true, Bool.not_true, Bool.not_false, if_true, if_false, and_true, true_and, memE, celE, w64, Nat.zero_add, Nat.add_zero, Nat.mul_one, putL, and_self, ldn, tm, t0, t1, t5, e1, h0', s1, s2, Option.map_none, bsl_no, bsl_one, fa1, fb1, fc1, la1, lb1, lc1, ga1, ga2, gb1, gb2, gc1, gc2]
    exact ⟨⟨ga3, gb3⟩, gc3⟩

def AnsCI (m : Mem) (r : Value) (new : Mem) : Prop :=
  NoRo new ∧ ∃ (v : Value) (k : Cs) (x : Int), r = .tuple #[v, .int .i64 x] ∧ CaseA (m ++ new) v k
def AnsCIR (m : Mem) (r : Value) (new : Mem) : Prop :=
  NoRo new ∧ ∃ (v : Value) (k : Cs) (x : Int) (i : Nat) (L : List Int), r = .tuple #[v, .int .i64 x, .slice (some ⟨m.length + i, 0, none⟩) L.length 1] ∧ CaseA (m ++ new) v k ∧ new[i]? = some (rowB L) ∧ L.length ≤ 1000
theorem caseA_back {m n0 : Mem} {v : Value} {k : Cs} {lo : Nat} (hlv : Lives lo (roM m ++ n0) v k) (hlo : m.length ≤ lo) : CaseA (m ++ n0) v k :=
  hlv _ fun j h1 h2 => by
    rw [List.getElem?_append_right (by omega), List.getElem?_append_right (by rw [roM_len]; omega), roM_len]
theorem fin_ci {m N : Mem} {v1 v2 v3 v4 : Value} {k : Cs} {lo : Nat} {x : Int} (hx : Ext m N) (hlv : Lives lo N (.agg #[v1, v2, v3, v4]) k) (hlo : m.length ≤ lo) :
    newQ m (AnsCI m) (.tuple #[.agg #[v1, v2, v3, v4], .int .i64 x]) N := by
  obtain ⟨n0, rfl, h0⟩ := hx
  exact ⟨n0, rfl, h0, h0, _, k, x, rfl, caseA_back hlv hlo⟩
theorem fin_cir {m N : Mem} {v1 v2 v3 v4 : Value} {k : Cs} {lo r n : Nat} {x : Int} {L : List Int} (hx : Ext m N) (hlv : Lives lo N (.agg #[v1, v2, v3, v4]) k) (hlo : m.length ≤ lo) (ho : OwnR N r L) (hr : m.length ≤ r) (hn : n = L.length) (hL : L.length ≤ 1000) :
    newQ m (AnsCIR m) (.tuple #[.agg #[v1, v2, v3, v4], .int .i64 x, .slice (some ⟨r, 0, none⟩) n 1]) N := by
  obtain ⟨n0, rfl, h0⟩ := hx
  subst hn
  unfold OwnR at ho
  rw [List.getElem?_append_right (by rw [roM_len]; exact hr), roM_len] at ho
  exact ⟨n0, rfl, h0, h0, _, k, x, r - m.length, L, by rw [Nat.add_sub_cancel' hr], caseA_back hlv hlo, ho, hL⟩
theorem b7f (m : Mem) : bslA m 3 1 7 [.int .i64 0, .int .i64 0, .int .i64 0, .int .i64 0, .int .i64 0, .int .i64 0, .int .i64 0] [(0, 1, .int .i64 2), (1, 1, .int .i64 3), (2, 1, .int .i64 8), (3, 1, .int .i64 4), (4, 1, .int .i64 1), (5, 1, .int .i64 0), (6, 1, .int .i64 9)] = some (.slice (some ⟨m.length, 0, none⟩) 7 1, m ++ [rowB [2, 3, 8, 4, 1, 0, 9]]) := rfl
theorem b3f (m : Mem) : bslA m 3 1 3 [.int .i64 0, .int .i64 0, .int .i64 0] [(0, 1, .int .i64 (-1)), (1, 1, .int .i64 0), (2, 1, .int .i64 8)] = some (.slice (some ⟨m.length, 0, none⟩) 3 1, m ++ [rowB [-1, 0, 8]]) := rfl
theorem DrawBestFresh_rc (m : Mem) (cb fl : Nat) (l : List Int) (h : BytesA m cb l) :
    RC Try.prog 35 [.slice (some ⟨cb, 0, none⟩) l.length fl] m (AnsCI m) := by
  refine rc_of_run mixed ok_spec_DrawBestFresh (by simp) (go_start _ _ _ ?_)
  simp (config := {implicitDefEqProofs := false, maxDischargeDepth := 20}) (disch := first | omega | (simp only [lenE]; done) | (simp only [lenE]; omega) | rfl | (simp only [lenE, markR_len]; done) | (simp only [lenE, markR_len]; omega)) only [runE, mapE, listE, initT_5, initT_6, initT_7, initT_8, resV, oneV, binA, unA, reduceCtorEq, Nat.reduceEqDiff, Nat.reduceAdd, Nat.reduceLT, Nat.reduceLeDiff, Nat.reduceMul, Nat.reduceSub, ↓reduceIte, decide_true, decide_false, Bool.true_eq_false, Bool.false_eq_true, Bool.not_true, Bool.not_false, if_true, if_false, and_true, true_and, memE, celE, w64, Nat.zero_add, Nat.add_zero, Nat.mul_one, putL, and_self, ldn, c_spec_DrawBestFresh, r_spec_DrawBestFresh, bldCur]
  obtain ⟨M0, hM0⟩ : ∃ M0 : Mem, M0 = roM m ++ [⟨.own, 52, [.slice none 0 0, .slice none 0 0, .slice none 0 0, .slice none 0 0]⟩] := ⟨_, rfl⟩
  have hl0 : M0.length = m.length + 1 := by rw [hM0]; simp [roM_len]
  have hc0 : M0[m.length]? = some ⟨.own, 52, [.slice none 0 0, .slice none 0 0, .slice none 0 0, .slice none 0 0]⟩ := by rw [hM0, List.getElem?_append_right (by rw [roM_len]; omega), roM_len]; simp
  have ho0 : ∀ i, i < m.length → M0[i]? = (roM m)[i]? := fun i hi => by rw [hM0, List.getElem?_append_left (by rw [roM_len]; exact hi)]
  have hb0 : M0[cb]? = some ⟨.ro, 5, l.map (Value.int .u8)⟩ := by
    have := h.ro
    rw [hM0, List.getElem?_append_left (List.getElem?_eq_some_iff.1 this).1]; exact this
  have k0 := CurA.start2 (fl := fl) hb0 h.byte h.few
  rw [hl0] at k0
  have hn0 : ∀ (i : Nat) (b : Blk), m.length ≤ i → (M0 ++ [(⟨.own, 82, [.slice (some ⟨cb, 0, none⟩) l.length fl, .int .i64 0, .int .u64 0]⟩ : Blk)])[i]? = some b → b.kd ≠ .ro := fun i b hi hb => by
    by_cases e : i = m.length
    · subst e
      rw [List.getElem?_append_left (by omega), hc0] at hb
      cases hb
      simp
    · rw [List.getElem?_append_right (by omega)] at hb
      have e1 : i - M0.length = 0 := by
        have := (List.getElem?_eq_some_iff.1 hb).1
        simpa using this
      rw [e1] at hb
      cases hb
      simp
  rw [← hM0]
  refine callH_ac (someLots_ac _ cb _ 0 l 6 k0 (by omega) (by omega)) ?_
  rintro v M1 ⟨k, ⟨hsm, lv⟩, w1, a1, ha1, k1⟩
  obtain ⟨v1, v2, v3, v4, rfl, i1, i2, i3, i4⟩ := lv.here.ok
  have hl1 := w1.len
  have hll : (M0 ++ [(⟨.own, 82, [.slice (some ⟨cb, 0, none⟩) l.length fl, .int .i64 0, .int .u64 0]⟩ : Blk)]).length = m.length + 2 := by simp; omega
  rw [hll] at hl1 lv
  have hc1 : M1[m.length]? = some ⟨.own, 52, [.slice none 0 0, .slice none 0 0, .slice none 0 0, .slice none 0 0]⟩ := by
    rw [w1.old m.length (by omega) (by omega), List.getElem?_append_left (by omega)]; exact hc0
  have hn1 := w1.noRo hn0 k1
  have ho1 : ∀ i, i < m.length → M1[i]? = (roM m)[i]? := fun i hi => by
    rw [w1.old i (by omega) (by omega), List.getElem?_append_left (by omega)]; exact ho0 i hi
  simp (config := {implicitDefEqProofs := false, maxDischargeDepth := 20}) (disch := first | omega | (simp only [lenE]; done) | (simp only [lenE]; omega) | rfl | (simp only [lenE, markR_len]; done) | (simp only [lenE, markR_len]; omega)) only [runE, mapE, listE, initT_5, initT_6, initT_7, initT_8, resV, oneV, binA, unA, reduceCtorEq, Nat.reduceEqDiff, Nat.reduceAdd, Nat.reduceLT, Nat.reduceLeDiff, Nat.reduceMul, Nat.reduceSub, ↓reduceIte, decide_true, decide_false, Bool.true_eq_false, Bool.false_eq_true, Bool.not_true, Bool.not_false, if_true, if_false, and_true, true_and, memE, celE, w64, Nat.zero_add, Nat.add_zero, Nat.mul_one, putL, and_self, ldn, b7f]
  refine callH_ac (among_new M1 cb _ a1 l [2, 3, 8, 4, 1, 0, 9] k1 (by omega) rfl rfl (by simp) (by simp)) ?_
  rintro v M2 ⟨x, -, rfl, w2, a2, ha2, k2⟩
  have hl2 := w2.len
  have hc2 : M2[m.length]? = some ⟨.own, 52, [.slice none 0 0, .slice none 0 0, .slice none 0 0, .slice none 0 0]⟩ := by
    rw [w2.old m.length (by omega) (by omega)]; exact hc1
  have lv2 : Lives (m.length + 2) M2 (.agg #[v1, v2, v3, v4]) k := lv.cw (by omega) w2
  obtain ⟨s4, r4⟩ := cell_st hc2 rfl lv2.here
  have x1 : Ext m M2 := ext_of (by omega) (fun i hi => by rw [w2.old i (by omega) (by omega)]; exact ho1 i hi) (w2.noRo hn1 k2)
  have x4 := x1.put (Nat.le_refl _) 52 [v1, v2, v3, v4]
  have lv4 : Lives (m.length + 2) (M2.set m.length ⟨.own, 52, [v1, v2, v3, v4]⟩) (.agg #[v1, v2, v3, v4]) k := lv2.up (by simp) fun i h1 h2 => List.getElem?_set_ne (by omega)
  have z0 := r4 0
  have z1 := r4 1
  have z2 := r4 2
  have z3 := r4 3
  simp only [List.getElem?_cons_zero, List.getElem?_cons_succ] at z0 z1 z2 z3
  simp (config := {implicitDefEqProofs := false, maxDischargeDepth := 20}) (disch := first | omega | (simp only [lenE]; done) | (simp only [lenE]; omega) | rfl | (simp only [lenE, markR_len]; done) | (simp only [lenE, markR_len]; omega)) only [runE, mapE, listE, initT_5, initT_6, initT_7, initT_8, resV, oneV, binA, unA, reduceCtorEq, Nat.reduceEqDiff, Nat.reduceAdd, Nat.reduceLT, Nat.reduceLeDiff, Nat.reduceMul, Nat.reduceSub, ↓reduceIte, decide_true, decide_false, Bool.true_eq_false, Bool.false_eq_true, Bool.not_true, Bool.not_false, if_true, if_false, and_true, true_and, memE, celE, w64, Nat.zero_add, Nat.add_zero, Nat.mul_one, putL, and_self, ldn, stP_aggL, s4, z0, z1, z2, z3]
  exact fin_ci x4 lv4 (by omega)
set_option maxHeartbeats 4000000 in
theorem DrawFreshCost_rc (m : Mem) (cb fl : Nat) (l : List Int) (h : BytesA m cb l) :
    RC Try.prog 38 [.slice (some ⟨cb, 0, none⟩) l.length fl] m (AnsCIR m) := by
  refine rc_of_run mixed ok_spec_DrawFreshCost (by simp) (go_start _ _ _ ?_)
  simp (config := {implicitDefEqProofs := false, maxDischargeDepth := 20}) (disch := first | omega | (simp only [lenE]; done) | (simp only [lenE]; omega) | rfl | (simp only [lenE, markR_len]; done) | (simp only [lenE, markR_len]; omega)) only [runE, mapE, listE, initT_5, initT_6, initT_7, initT_8, resV, oneV, binA, unA, reduceCtorEq, Nat.reduceEqDiff, Nat.reduceAdd, Nat.reduceLT, Nat.reduceLeDiff, Nat.reduceMul, Nat.reduceSub, ↓reduceIte, decide_true, decide_false, Bool.true_eq_false, Bool.false_eq_true, Bool.not_true, Bool.not_false, if_true, if_false, and_true, true_and, memE, celE, w64, Nat.zero_add, Nat.add_zero, Nat.mul_one, putL, and_self, ldn, c_spec_DrawFreshCost, r_spec_DrawFreshCost, bldCur]
  obtain ⟨M0, hM0⟩ : ∃ M0 : Mem, M0 = roM m ++ [⟨.own, 52, [.slice none 0 0, .slice none 0 0, .slice none 0 0, .slice none 0 0]⟩] := ⟨_, rfl⟩
  have hl0 : M0.length = m.length + 1 := by rw [hM0]; simp [roM_len]
  have hc0 : M0[m.length]? = some ⟨.own, 52, [.slice none 0 0, .slice none 0 0, .slice none 0 0, .slice none 0 0]⟩ := by rw [hM0, List.getElem?_append_right (by rw [roM_len]; omega), roM_len]; simp
  have ho0 : ∀ i, i < m.length → M0[i]? = (roM m)[i]? := fun i hi => by rw [hM0, List.getElem?_append_left (by rw [roM_len]; exact hi)]
  have hb0 : M0[cb]? = some ⟨.ro, 5, l.map (Value.int .u8)⟩ := by
    have := h.ro
    rw [hM0, List.getElem?_append_left (List.getElem?_eq_some_iff.1 this).1]; exact this
  have k0 := CurA.start2 (fl := fl) hb0 h.byte h.few
  rw [hl0] at k0
  have hn0 : ∀ (i : Nat) (b : Blk), m.length ≤ i → (M0 ++ [(⟨.own, 82, [.slice (some ⟨cb, 0, none⟩) l.length fl, .int .i64 0, .int .u64 0]⟩ : Blk)])[i]? = some b → b.kd ≠ .ro := fun i b hi hb => by
    by_cases e : i = m.length
    · subst e
      rw [List.getElem?_append_left (by omega), hc0] at hb
      cases hb
      simp
    · rw [List.getElem?_append_right (by omega)] at hb
      have e1 : i - M0.length = 0 := by
        have := (List.getElem?_eq_some_iff.1 hb).1
        simpa using this
      rw [e1] at hb
      cases hb
      simp
  rw [← hM0]
  refine callH_ac (lots_ac _ cb _ 0 l k0 (by omega)) ?_
  rintro v M1 ⟨k, ⟨hsm, lv⟩, w1, a1, ha1, k1⟩
  obtain ⟨v1, v2, v3, v4, rfl, i1, i2, i3, i4⟩ := lv.here.ok
  have hl1 := w1.len
  have hll : (M0 ++ [(⟨.own, 82, [.slice (some ⟨cb, 0, none⟩) l.length fl, .int .i64 0, .int .u64 0]⟩ : Blk)]).length = m.length + 2 := by simp; omega
  rw [hll] at hl1 lv
  have hc1 : M1[m.length]? = some ⟨.own, 52, [.slice none 0 0, .slice none 0 0, .slice none 0 0, .slice none 0 0]⟩ := by
    rw [w1.old m.length (by omega) (by omega), List.getElem?_append_left (by omega)]; exact hc0
  have hn1 := w1.noRo hn0 k1
  have ho1 : ∀ i, i < m.length → M1[i]? = (roM m)[i]? := fun i hi => by
    rw [w1.old i (by omega) (by omega), List.getElem?_append_left (by omega)]; exact ho0 i hi
  have hx : (M1 ++ [(⟨.own, 52, [.slice none 0 0, .slice none 0 0, .slice none 0 0, .slice none 0 0]⟩ : Blk)])[M1.length]? = some ⟨.own, 52, [.slice none 0 0, .slice none 0 0, .slice none 0 0, .slice none 0 0]⟩ := by simp
  obtain ⟨s1, r1⟩ := cell_st hx rfl lv.here
  have e2 : (M1 ++ [(⟨.own, 52, [.slice none 0 0, .slice none 0 0, .slice none 0 0, .slice none 0 0]⟩ : Blk)]).set M1.length ⟨.own, 52, [v1, v2, v3, v4]⟩ = M1 ++ [⟨.own, 52, [v1, v2, v3, v4]⟩] := by simp
  rw [e2] at s1 r1
  obtain ⟨M2, hM2⟩ : ∃ M2 : Mem, M2 = M1 ++ [⟨.own, 52, [v1, v2, v3, v4]⟩] := ⟨_, rfl⟩
  rw [← hM2] at s1 r1
  have q0 : rdc M2 M1.length 0 = some v1 := r1 0
  have q1 : rdc M2 M1.length 1 = some v2 := r1 1
  have q2 : rdc M2 M1.length 2 = some v3 := r1 2
  have q3 : rdc M2 M1.length 3 = some v4 := r1 3
  have k2 : CurA M2 cb l (m.length + 1) a1 := by rw [hM2]; exact k1.ext _
  have hl2 : M2.length = M1.length + 1 := by rw [hM2]; simp
  have lv2 : Lives (m.length + 2) M2 (.agg #[v1, v2, v3, v4]) k := lv.up (by omega) fun i _ hi => by rw [hM2, List.getElem?_append_left hi]
  have hn2 : ∀ (i : Nat) (b : Blk), m.length ≤ i → M2[i]? = some b → b.kd ≠ .ro := fun i b hi hb => by
    by_cases e : i < M1.length
    · rw [hM2, List.getElem?_append_left e] at hb; exact hn1 i b hi hb
    · rw [hM2, List.getElem?_append_right (by omega)] at hb
      have e1 : i - M1.length = 0 := by
        have := (List.getElem?_eq_some_iff.1 hb).1
        simpa using this
      rw [e1] at hb
      cases hb
      simp
  have ho2 : ∀ i, i < M1.length → M2[i]? = M1[i]? := fun i hi => by rw [hM2, List.getElem?_append_left hi]
  have hbx : M2[M1.length]? = some ⟨.own, 52, [v1, v2, v3, v4]⟩ := by rw [hM2]; simp
  obtain ⟨w1', w2', w3', w4', ee, j1, -, -, -⟩ := lv2.here.ok
  cases ee
  clear e2 hx hc0 ho0 hb0 k0 hn0 hM0
  simp (config := {implicitDefEqProofs := false, maxDischargeDepth := 20}) (disch := first | omega | (simp only [lenE]; done) | (simp only [lenE]; omega) | rfl | (simp only [lenE, markR_len]; done) | (simp only [lenE, markR_len]; omega)) only [runE, mapE, listE, initT_5, initT_6, initT_7, initT_8, resV, oneV, binA, unA, reduceCtorEq, Nat.reduceEqDiff, Nat.reduceAdd, Nat.reduceLT, Nat.reduceLeDiff, Nat.reduceMul, Nat.reduceSub, ↓reduceIte, decide_true, decide_false, Bool.true_eq_false, Bool.false_eq_true, Bool.not_true, Bool.not_false, if_true, if_false, and_true, true_and, memE, celE, w64, Nat.zero_add, Nat.add_zero, Nat.mul_one, putL, and_self, ldn, stP_aggL, s1, q0, q1, q2, q3, j1.len]
  refine callH_rc (l1Least_rcK _ _ _) ?_
  rintro u new ⟨rfl, rfl⟩
  rw [List.append_nil]
  obtain ⟨n, hn⟩ : ∃ n : Nat, (n : Int) = min (k.need.length : Int) 8 := ⟨(min (k.need.length : Int) 8).toNat, by omega⟩
  rw [← hn]
  have hn8 : n ≤ 8 := by omega
  have hn0 : ¬ ((n : Int) < 0) := by omega
  have sh := shl1 hn8
  have h28 : 2 ^ n ≤ 2 ^ 8 := Nat.pow_le_pow_right (by omega) hn8
  have h01 : 1 ≤ 2 ^ n := Nat.one_le_two_pow
  simp (config := {implicitDefEqProofs := false, maxDischargeDepth := 20}) (disch := first | omega | (simp only [lenE]; done) | (simp only [lenE]; omega) | rfl | (simp only [lenE, markR_len]; done) | (simp only [lenE, markR_len]; omega)) only [runE, mapE, listE, initT_5, initT_6, initT_7, initT_8, resV, oneV, binA, unA, reduceCtorEq, Nat.reduceEqDiff, Nat.reduceAdd, Nat.reduceLT, Nat.reduceLeDiff, Nat.reduceMul, Nat.reduceSub, ↓reduceIte, decide_true, decide_false, Bool.true_eq_false, Bool.false_eq_true, Bool.not_true, Bool.not_false, if_true, if_false, and_true, true_and, memE, celE, w64, Nat.zero_add, Nat.add_zero, Nat.mul_one, putL, and_self, ldn, sh, hn0]
  refine callH_ac (pick_ac M2 cb _ a1 l ((2 ^ n : Nat) : Int) k2 (by omega) (by omega) (by omega)) ?_
  rintro u N1 ⟨x1, rfl, hx10, hx11, c1, b1, hb1, f1⟩
  obtain ⟨c, rfl⟩ : ∃ c : Nat, x1 = c := ⟨x1.toNat, by omega⟩
  simp (config := {implicitDefEqProofs := false, maxDischargeDepth := 20}) (disch := first | omega | (simp only [lenE]; done) | (simp only [lenE]; omega) | rfl | (simp only [lenE, markR_len]; done) | (simp only [lenE, markR_len]; omega)) only [runE, mapE, listE, initT_5, initT_6, initT_7, initT_8, resV, oneV, binA, unA, reduceCtorEq, Nat.reduceEqDiff, Nat.reduceAdd, Nat.reduceLT, Nat.reduceLeDiff, Nat.reduceMul, Nat.reduceSub, ↓reduceIte, decide_true, decide_false, Bool.true_eq_false, Bool.false_eq_true, Bool.not_true, Bool.not_false, if_true, if_false, and_true, true_and, memE, celE, w64, Nat.zero_add, Nat.add_zero, Nat.mul_one, putL, and_self, ldn]
  refine callH_rc (l2Bits1_rc N1 n c hn8 (by omega)) ?_
  intro r new hA
  obtain ⟨r, rfl, pge, op, nr⟩ := hA.row
  obtain ⟨N, hN⟩ : ∃ N, N = N1 ++ new := ⟨_, rfl⟩
  have ln1 := c1.len
  have D : Dr M2 N cb (m.length + 1) b1 r l (bitsL c n) := by rw [hN]; exact ⟨by omega, k2.cblt, c1.ext nr, f1.ext new, op, by omega⟩
  rw [← hN]
  clear hN hA op nr f1 c1
  have hL := bitsL_len c n
  have hbp : ∀ x ∈ bitsL c n, 0 ≤ x := fun x hx => (bitsL_mem c n x hx).1
  have hrn : M2.length ≤ r := by omega
  generalize bitsL c n = L at *
  by_cases hnp : (0 : Int) < n
  · simp (config := {implicitDefEqProofs := false, maxDischargeDepth := 20}) (disch := first | omega | (simp only [lenE]; done) | (simp only [lenE]; omega) | rfl | (simp only [lenE, markR_len]; done) | (simp only [lenE, markR_len]; omega)) only [runE, mapE, listE, initT_5, initT_6, initT_7, initT_8, resV, oneV, binA, unA, reduceCtorEq, Nat.reduceEqDiff, Nat.reduceAdd, Nat.reduceLT, Nat.reduceLeDiff, Nat.reduceMul, Nat.reduceSub, ↓reduceIte, decide_true, decide_false, Bool.true_eq_false, Bool.false_eq_true, Bool.not_true, Bool.not_false, if_true, if_false, and_true, true_and, memE, celE, w64, Nat.zero_add, Nat.add_zero, Nat.mul_one, putL, and_self, ldn, hnp, gt_iff_lt, decide_eq_true hnp]
    refine callH_rc (l1Hd_rc _ _ L 0 (D.own.ints (by omega) 1)) ?_
    rintro u new ⟨rfl, rfl⟩
    rw [List.append_nil]
    by_cases hz : (0 : Int) ∈ L
    · simp (config := {implicitDefEqProofs := false, maxDischargeDepth := 20}) (disch := first | omega | (simp only [lenE]; done) | (simp only [lenE]; omega) | rfl | (simp only [lenE, markR_len]; done) | (simp only [lenE, markR_len]; omega)) only [runE, mapE, listE, initT_5, initT_6, initT_7, initT_8, resV, oneV, binA, unA, reduceCtorEq, Nat.reduceEqDiff, Nat.reduceAdd, Nat.reduceLT, Nat.reduceLeDiff, Nat.reduceMul, Nat.reduceSub, ↓reduceIte, decide_true, decide_false, Bool.true_eq_false, Bool.false_eq_true, Bool.not_true, Bool.not_false, if_true, if_false, and_true, true_and, memE, celE, w64, Nat.zero_add, Nat.add_zero, Nat.mul_one, putL, and_self, ldn, decide_eq_true hz]
      refine callH_ac (one_ac N cb _ b1 l 24 D.cur (by omega) (by omega) (by omega)) ?_
      rintro u N5 ⟨b, rfl, c5, b5, hb5, f5⟩
      have D := D.draw c5 f5
      cases b with
      | true =>
        simp (config := {implicitDefEqProofs := false, maxDischargeDepth := 20}) (disch := first | omega | (simp only [lenE]; done) | (simp only [lenE]; omega) | rfl | (simp only [lenE, markR_len]; done) | (simp only [lenE, markR_len]; omega)) only [runE, mapE, listE, initT_5, initT_6, initT_7, initT_8, resV, oneV, binA, unA, reduceCtorEq, Nat.reduceEqDiff, Nat.reduceAdd, Nat.reduceLT, Nat.reduceLeDiff, Nat.reduceMul, Nat.reduceSub, ↓reduceIte, decide_true, decide_false, Bool.true_eq_false, Bool.false_eq_true, Bool.not_true, Bool.not_false, if_true, if_false, and_true, true_and, memE, celE, w64, Nat.zero_add, Nat.add_zero, Nat.mul_one, putL, and_self, ldn, b3f]
        refine callH_ac (among_new N5 cb _ b5 l [-1, 0, 8] D.cur (by omega) rfl rfl (by simp) (by simp)) ?_
        rintro u N6 ⟨x, -, rfl, c6, b6, hb6, f6⟩
        have D := D.draw c6 f6
        obtain ⟨N7, ap, D⟩ := D.app x (by omega) (i := N6.length) rfl
        simp (config := {implicitDefEqProofs := false, maxDischargeDepth := 20}) (disch := first | omega | (simp only [lenE]; done) | (simp only [lenE]; omega) | rfl | (simp only [lenE, markR_len]; done) | (simp only [lenE, markR_len]; omega)) only [runE, mapE, listE, initT_5, initT_6, initT_7, initT_8, resV, oneV, binA, unA, reduceCtorEq, Nat.reduceEqDiff, Nat.reduceAdd, Nat.reduceLT, Nat.reduceLeDiff, Nat.reduceMul, Nat.reduceSub, ↓reduceIte, decide_true, decide_false, Bool.true_eq_false, Bool.false_eq_true, Bool.not_true, Bool.not_false, if_true, if_false, and_true, true_and, memE, celE, w64, Nat.zero_add, Nat.add_zero, Nat.mul_one, putL, and_self, ldn, bsl_one, ap]
        have bb : b6 ≤ a1 + 40 := by omega
        have p := fun (P : Mem) (w : Cw (m.length + 1) M2 P) => (show P[M1.length]? = some ⟨.own, 52, [v1, v2, v3, v4]⟩ by rw [w.old M1.length (by omega) (by omega)]; exact hbx)
        have p0 : rdc N7 M1.length 0 = some v1 := by unfold rdc; rw [p _ D.cw]; rfl
        have p1 : rdc N7 M1.length 1 = some v2 := by unfold rdc; rw [p _ D.cw]; rfl
        have p2 : rdc N7 M1.length 2 = some v3 := by unfold rdc; rw [p _ D.cw]; rfl
        have p3 : rdc N7 M1.length 3 = some v4 := by unfold rdc; rw [p _ D.cw]; rfl
        have e0 : rdc (N7 ++ [rowB [2, 3, 8, 4, 1, 0, 9]]) M1.length 0 = some v1 := rdc_ext p0
        have e1 : rdc (N7 ++ [rowB [2, 3, 8, 4, 1, 0, 9]]) M1.length 1 = some v2 := rdc_ext p1
        have e2 : rdc (N7 ++ [rowB [2, 3, 8, 4, 1, 0, 9]]) M1.length 2 = some v3 := rdc_ext p2
        have e3 : rdc (N7 ++ [rowB [2, 3, 8, 4, 1, 0, 9]]) M1.length 3 = some v4 := rdc_ext p3
        simp (config := {implicitDefEqProofs := false, maxDischargeDepth := 20}) (disch := first | omega | (simp only [lenE]; done) | (simp only [lenE]; omega) | rfl | (simp only [lenE, markR_len]; done) | (simp only [lenE, markR_len]; omega)) only [runE, mapE, listE, initT_5, initT_6, initT_7, initT_8, resV, oneV, binA, unA, reduceCtorEq, Nat.reduceEqDiff, Nat.reduceAdd, Nat.reduceLT, Nat.reduceLeDiff, Nat.reduceMul, Nat.reduceSub, ↓reduceIte, decide_true, decide_false, Bool.true_eq_false, Bool.false_eq_true, Bool.not_true, Bool.not_false, if_true, if_false, and_true, true_and, memE, celE, w64, Nat.zero_add, Nat.add_zero, Nat.mul_one, putL, and_self, ldn, stP_aggL, p0, p1, p2, p3, e0, e1, e2, e3, b7f]
        with_reducible refine ⟨?_, ?_, ?_⟩
        all_goals
          refine callH_ac (among_new N7 cb _ b6 l [2, 3, 8, 4, 1, 0, 9] D.cur (by omega) rfl rfl (by simp) (by simp)) ?_
          rintro u N8 ⟨y, -, rfl, c8, b8, hb8, f8⟩
          have D8 := D.draw c8 f8
          have u0 : rdc N8 M1.length 0 = some v1 := by unfold rdc; rw [p _ D8.cw]; rfl
          have u1 : rdc N8 M1.length 1 = some v2 := by unfold rdc; rw [p _ D8.cw]; rfl
          have u2 : rdc N8 M1.length 2 = some v3 := by unfold rdc; rw [p _ D8.cw]; rfl
          have u3 : rdc N8 M1.length 3 = some v4 := by unfold rdc; rw [p _ D8.cw]; rfl
          have lw8 := D8.cw.len
          have hc8 : N8[m.length]? = some ⟨.own, 52, [.slice none 0 0, .slice none 0 0, .slice none 0 0, .slice none 0 0]⟩ := by
            rw [D8.cw.old m.length (by omega) (by omega), ho2 _ (by omega)]; exact hc1
          have lv8 : Lives (m.length + 2) N8 (.agg #[v1, v2, v3, v4]) k := lv2.cw (by omega) D8.cw
          obtain ⟨s4, r4⟩ := cell_st hc8 rfl lv8.here
          have x8 : Ext m N8 := ext_of (by omega) (fun i hi => by rw [D8.cw.old i (by omega) (by omega), ho2 i (by omega)]; exact ho1 i hi) (D8.cw.noRo hn2 f8)
          have x9 := x8.put (Nat.le_refl _) 52 [v1, v2, v3, v4]
          have lv9 : Lives (m.length + 2) (N8.set m.length ⟨.own, 52, [v1, v2, v3, v4]⟩) (.agg #[v1, v2, v3, v4]) k := lv8.up (by simp) fun i h1 h2 => List.getElem?_set_ne (by omega)
          have z0 := r4 0
          have z1 := r4 1
          have z2 := r4 2
          have z3 := r4 3
          simp only [List.getElem?_cons_zero, List.getElem?_cons_succ] at z0 z1 z2 z3
          have rge := D8.ge
          simp (config := {implicitDefEqProofs := false, maxDischargeDepth := 20}) (disch := first | omega | (simp only [lenE]; done) | (simp only [lenE]; omega) | rfl | (simp only [lenE, markR_len]; done) | (simp only [lenE, markR_len]; omega)) only [runE, mapE, listE, initT_5, initT_6, initT_7, initT_8, resV, oneV, binA, unA, reduceCtorEq, Nat.reduceEqDiff, Nat.reduceAdd, Nat.reduceLT, Nat.reduceLeDiff, Nat.reduceMul, Nat.reduceSub, ↓reduceIte, decide_true, decide_false, Bool.true_eq_false, Bool.false_eq_true, Bool.not_true, Bool.not_false, if_true, if_false, and_true, true_and, memE, celE, w64, Nat.zero_add, Nat.add_zero, Nat.mul_one, putL, and_self, ldn, stP_aggL, u0, u1, u2, u3, s4, z0, z1, z2, z3]
          exact fin_cir x9 lv9 (by omega) (D8.own.set_ne (by omega)) (by omega) (by first | rfl | simp) (by first | omega | (simp; omega))
      | false =>
        simp (config := {implicitDefEqProofs := false, maxDischargeDepth := 20}) (disch := first | omega | (simp only [lenE]; done) | (simp only [lenE]; omega) | rfl | (simp only [lenE, markR_len]; done) | (simp only [lenE, markR_len]; omega)) only [runE, mapE, listE, initT_5, initT_6, initT_7, initT_8, resV, oneV, binA, unA, reduceCtorEq, Nat.reduceEqDiff, Nat.reduceAdd, Nat.reduceLT, Nat.reduceLeDiff, Nat.reduceMul, Nat.reduceSub, ↓reduceIte, decide_true, decide_false, Bool.true_eq_false, Bool.false_eq_true, Bool.not_true, Bool.not_false, if_true, if_false, and_true, true_and, memE, celE, w64, Nat.zero_add, Nat.add_zero, Nat.mul_one, putL, and_self, ldn]
        have bb : b5 ≤ a1 + 40 := by omega
        have p := fun (P : Mem) (w : Cw (m.length + 1) M2 P) => (show P[M1.length]? = some ⟨.own, 52, [v1, v2, v3, v4]⟩ by rw [w.old M1.length (by omega) (by omega)]; exact hbx)
        have p0 : rdc N5 M1.length 0 = some v1 := by unfold rdc; rw [p _ D.cw]; rfl
        have p1 : rdc N5 M1.length 1 = some v2 := by unfold rdc; rw [p _ D.cw]; rfl
        have p2 : rdc N5 M1.length 2 = some v3 := by unfold rdc; rw [p _ D.cw]; rfl
        have p3 : rdc N5 M1.length 3 = some v4 := by unfold rdc; rw [p _ D.cw]; rfl
        have e0 : rdc (N5 ++ [rowB [2, 3, 8, 4, 1, 0, 9]]) M1.length 0 = some v1 := rdc_ext p0
        have e1 : rdc (N5 ++ [rowB [2, 3, 8, 4, 1, 0, 9]]) M1.length 1 = some v2 := rdc_ext p1
        have e2 : rdc (N5 ++ [rowB [2, 3, 8, 4, 1, 0, 9]]) M1.length 2 = some v3 := rdc_ext p2
        have e3 : rdc (N5 ++ [rowB [2, 3, 8, 4, 1, 0, 9]]) M1.length 3 = some v4 := rdc_ext p3
        simp (config := {implicitDefEqProofs := false, maxDischargeDepth := 20}) (disch := first | omega | (simp only [lenE]; done) | (simp only [lenE]; omega) | rfl | (simp only [lenE, markR_len]; done) | (simp only [lenE, markR_len]; omega)) only [runE, mapE, listE, initT_5, initT_6, initT_7, initT_8, resV, oneV, binA, unA, reduceCtorEq, Nat.reduceEqDiff, Nat.reduceAdd, Nat.reduceLT, Nat.reduceLeDiff, Nat.reduceMul, Nat.reduceSub, ↓reduceIte, decide_true, decide_false, Bool.true_eq_false, Bool.false_eq_true, Bool.not_true, Bool.not_false, if_true, if_false, and_true, true_and, memE, celE, w64, Nat.zero_add, Nat.add_zero, Nat.mul_one, putL, and_self, ldn, stP_aggL, p0, p1, p2, p3, e0, e1, e2, e3, b7f]
        with_reducible refine ⟨?_, ?_, ?_⟩
        all_goals
          refine callH_ac (among_new N5 cb _ b5 l [2, 3, 8, 4, 1, 0, 9] D.cur (by omega) rfl rfl (by simp) (by simp)) ?_
          rintro u N8 ⟨y, -, rfl, c8, b8, hb8, f8⟩
          have D8 := D.draw c8 f8
          have u0 : rdc N8 M1.length 0 = some v1 := by unfold rdc; rw [p _ D8.cw]; rfl
          have u1 : rdc N8 M1.length 1 = some v2 := by unfold rdc; rw [p _ D8.cw]; rfl
          have u2 : rdc N8 M1.length 2 = some v3 := by unfold rdc; rw [p _ D8.cw]; rfl
          have u3 : rdc N8 M1.length 3 = some v4 := by unfold rdc; rw [p _ D8.cw]; rfl
          have lw8 := D8.cw.len
          have hc8 : N8[m.length]? = some ⟨.own, 52, [.slice none 0 0, .slice none 0 0, .slice none 0 0, .slice none 0 0]⟩ := by
            rw [D8.cw.old m.length (by omega) (by omega), ho2 _ (by omega)]; exact hc1
          have lv8 : Lives (m.length + 2) N8 (.agg #[v1, v2, v3, v4]) k := lv2.cw (by omega) D8.cw
          obtain ⟨s4, r4⟩ := cell_st hc8 rfl lv8.here
          have x8 : Ext m N8 := ext_of (by omega) (fun i hi => by rw [D8.cw.old i (by omega) (by omega), ho2 i (by omega)]; exact ho1 i hi) (D8.cw.noRo hn2 f8)
          have x9 := x8.put (Nat.le_refl _) 52 [v1, v2, v3, v4]
          have lv9 : Lives (m.length + 2) (N8.set m.length ⟨.own, 52, [v1, v2, v3, v4]⟩) (.agg #[v1, v2, v3, v4]) k := lv8.up (by simp) fun i h1 h2 => List.getElem?_set_ne (by omega)
          have z0 := r4 0
          have z1 := r4 1
          have z2 := r4 2
          have z3 := r4 3
          simp only [List.getElem?_cons_zero, List.getElem?_cons_succ] at z0 z1 z2 z3
          have rge := D8.ge
          simp (config := {implicitDefEqProofs := false, maxDischargeDepth := 20}) (disch := first | omega | (simp only [lenE]; done) | (simp only [lenE]; omega) | rfl | (simp only [lenE, markR_len]; done) | (simp only [lenE, markR_len]; omega)) only [runE, mapE, listE, initT_5, initT_6, initT_7, initT_8, resV, oneV, binA, unA, reduceCtorEq, Nat.reduceEqDiff, Nat.reduceAdd, Nat.reduceLT, Nat.reduceLeDiff, Nat.reduceMul, Nat.reduceSub, ↓reduceIte, decide_true, decide_false, Bool.true_eq_false, Bool.false_eq_true, Bool.not_true, Bool.not_false, if_true, if_false, and_true, true_and, memE, celE, w64, Nat.zero_add, Nat.add_zero, Nat.mul_one, putL, and_self, ldn, stP_aggL, u0, u1, u2, u3, s4, z0, z1, z2, z3]
          exact fin_cir x9 lv9 (by omega) (D8.own.set_ne (by omega)) (by omega) (by first | rfl | simp) (by first | omega | (simp; omega))
    · simp (config := {implicitDefEqProofs := false, maxDischargeDepth := 20}) (disch := first | omega | (simp only [lenE]; done) | (simp only [lenE]; omega) | rfl | (simp only [lenE, markR_len]; done) | (simp only [lenE, markR_len]; omega)) only [runE, mapE, listE, initT_5, initT_6, initT_7, initT_8, resV, oneV, binA, unA, reduceCtorEq, Nat.reduceEqDiff, Nat.reduceAdd, Nat.reduceLT, Nat.reduceLeDiff, Nat.reduceMul, Nat.reduceSub, ↓reduceIte, decide_true, decide_false, Bool.true_eq_false, Bool.false_eq_true, Bool.not_true, Bool.not_false, if_true, if_false, and_true, true_and, memE, celE, w64, Nat.zero_add, Nat.add_zero, Nat.mul_one, putL, and_self, ldn, decide_eq_false hz]
      refine callH_ac (one_ac N cb _ b1 l 6 D.cur (by omega) (by omega) (by omega)) ?_
      rintro u N3 ⟨b, rfl, c3, b3, hb3, f3⟩
      have D := D.draw c3 f3
      cases b with
      | true =>
        simp (config := {implicitDefEqProofs := false, maxDischargeDepth := 20}) (disch := first | omega | (simp only [lenE]; done) | (simp only [lenE]; omega) | rfl | (simp only [lenE, markR_len]; done) | (simp only [lenE, markR_len]; omega)) only [runE, mapE, listE, initT_5, initT_6, initT_7, initT_8, resV, oneV, binA, unA, reduceCtorEq, Nat.reduceEqDiff, Nat.reduceAdd, Nat.reduceLT, Nat.reduceLeDiff, Nat.reduceMul, Nat.reduceSub, ↓reduceIte, decide_true, decide_false, Bool.true_eq_false, Bool.false_eq_true, Bool.not_true, Bool.not_false, if_true, if_false, and_true, true_and, memE, celE, w64, Nat.zero_add, Nat.add_zero, Nat.mul_one, putL, and_self, ldn]
        refine callH_ac (one_ac N3 cb _ b3 l 24 D.cur (by omega) (by omega) (by omega)) ?_
        rintro u N5 ⟨b, rfl, c5, b5, hb5, f5⟩
        have D := D.draw c5 f5
        cases b with
        | true =>
          simp (config := {implicitDefEqProofs := false, maxDischargeDepth := 20}) (disch := first | omega | (simp only [lenE]; done) | (simp only [lenE]; omega) | rfl | (simp only [lenE, markR_len]; done) | (simp only [lenE, markR_len]; omega)) only [runE, mapE, listE, initT_5, initT_6, initT_7, initT_8, resV, oneV, binA, unA, reduceCtorEq, Nat.reduceEqDiff, Nat.reduceAdd, Nat.reduceLT, Nat.reduceLeDiff, Nat.reduceMul, Nat.reduceSub, ↓reduceIte, decide_true, decide_false, Bool.true_eq_false, Bool.false_eq_true, Bool.not_true, Bool.not_false, if_true, if_false, and_true, true_and, memE, celE, w64, Nat.zero_add, Nat.add_zero, Nat.mul_one, putL, and_self, ldn, b3f]
          refine callH_ac (among_new N5 cb _ b5 l [-1, 0, 8] D.cur (by omega) rfl rfl (by simp) (by simp)) ?_
          rintro u N6 ⟨x, -, rfl, c6, b6, hb6, f6⟩
          have D := D.draw c6 f6
          obtain ⟨N7, ap, D⟩ := D.app x (by omega) (i := N6.length) rfl
          simp (config := {implicitDefEqProofs := false, maxDischargeDepth := 20}) (disch := first | omega | (simp only [lenE]; done) | (simp only [lenE]; omega) | rfl | (simp only [lenE, markR_len]; done) | (simp only [lenE, markR_len]; omega)) only [runE, mapE, listE, initT_5, initT_6, initT_7, initT_8, resV, oneV, binA, unA, reduceCtorEq, Nat.reduceEqDiff, Nat.reduceAdd, Nat.reduceLT, Nat.reduceLeDiff, Nat.reduceMul, Nat.reduceSub, ↓reduceIte, decide_true, decide_false, Bool.true_eq_false, Bool.false_eq_true, Bool.not_true, Bool.not_false, if_true, if_false, and_true, true_and, memE, celE, w64, Nat.zero_add, Nat.add_zero, Nat.mul_one, putL, and_self, ldn, bsl_one, ap]
          have bb : b6 ≤ a1 + 40 := by omega
          have p := fun (P : Mem) (w : Cw (m.length + 1) M2 P) => (show P[M1.length]? = some ⟨.own, 52, [v1, v2, v3, v4]⟩ by rw [w.old M1.length (by omega) (by omega)]; exact hbx)
          have p0 : rdc N7 M1.length 0 = some v1 := by unfold rdc; rw [p _ D.cw]; rfl
          have p1 : rdc N7 M1.length 1 = some v2 := by unfold rdc; rw [p _ D.cw]; rfl
          have p2 : rdc N7 M1.length 2 = some v3 := by unfold rdc; rw [p _ D.cw]; rfl
          have p3 : rdc N7 M1.length 3 = some v4 := by unfold rdc; rw [p _ D.cw]; rfl
          have e0 : rdc (N7 ++ [rowB [2, 3, 8, 4, 1, 0, 9]]) M1.length 0 = some v1 := rdc_ext p0
          have e1 : rdc (N7 ++ [rowB [2, 3, 8, 4, 1, 0, 9]]) M1.length 1 = some v2 := rdc_ext p1
          have e2 : rdc (N7 ++ [rowB [2, 3, 8, 4, 1, 0, 9]]) M1.length 2 = some v3 := rdc_ext p2
          have e3 : rdc (N7 ++ [rowB [2, 3, 8, 4, 1, 0, 9]]) M1.length 3 = some v4 := rdc_ext p3
          simp (config := {implicitDefEqProofs := false, maxDischargeDepth := 20}) (disch := first | omega | (simp only [lenE]; done) | (simp only [lenE]; omega) | rfl | (simp only [lenE, markR_len]; done) | (simp only [lenE, markR_len]; omega)) only [runE, mapE, listE, initT_5, initT_6, initT_7, initT_8, resV, oneV, binA, unA, reduceCtorEq, Nat.reduceEqDiff, Nat.reduceAdd, Nat.reduceLT, Nat.reduceLeDiff, Nat.reduceMul, Nat.reduceSub, ↓reduceIte, decide_true, decide_false, Bool.true_eq_false, Bool.false_eq_true, Bool.not_true, Bool.not_false, if_true, if_false, and_true, true_and, memE, celE, w64, Nat.zero_add, Nat.add_zero, Nat.mul_one, putL, and_self, ldn, stP_aggL, p0, p1, p2, p3, e0, e1, e2, e3, b7f]
          with_reducible refine ⟨?_, ?_, ?_⟩
          all_goals
            refine callH_ac (among_new N7 cb _ b6 l [2, 3, 8, 4, 1, 0, 9] D.cur (by omega) rfl rfl (by simp) (by simp)) ?_
            rintro u N8 ⟨y, -, rfl, c8, b8, hb8, f8⟩
            have D8 := D.draw c8 f8
            have u0 : rdc N8 M1.length 0 = some v1 := by unfold rdc; rw [p _ D8.cw]; rfl
            have u1 : rdc N8 M1.length 1 = some v2 := by unfold rdc; rw [p _ D8.cw]; rfl
            have u2 : rdc N8 M1.length 2 = some v3 := by unfold rdc; rw [p _ D8.cw]; rfl
            have u3 : rdc N8 M1.length 3 = some v4 := by unfold rdc; rw [p _ D8.cw]; rfl
            have lw8 := D8.cw.len
            have hc8 : N8[m.length]? = some ⟨.own, 52, [.slice none 0 0, .slice none 0 0, .slice none 0 0, .slice none 0 0]⟩ := by
              rw [D8.cw.old m.length (by omega) (by omega), ho2 _ (by omega)]; exact hc1
            have lv8 : Lives (m.length + 2) N8 (.agg #[v1, v2, v3, v4]) k := lv2.cw (by omega) D8.cw
            obtain ⟨s4, r4⟩ := cell_st hc8 rfl lv8.here
            have x8 : Ext m N8 := ext_of (by omega) (fun i hi => by rw [D8.cw.old i (by omega) (by omega), ho2 i (by omega)]; exact ho1 i hi) (D8.cw.noRo hn2 f8)
            have x9 := x8.put (Nat.le_refl _) 52 [v1, v2, v3, v4]
            have lv9 : Lives (m.length + 2) (N8.set m.length ⟨.own, 52, [v1, v2, v3, v4]⟩) (.agg #[v1, v2, v3, v4]) k := lv8.up (by simp) fun i h1 h2 => List.getElem?_set_ne (by omega)
            have z0 := r4 0
            have z1 := r4 1
            have z2 := r4 2
            have z3 := r4 3
            simp only [List.getElem?_cons_zero, List.getElem?_cons_succ] at z0 z1 z2 z3
            have rge := D8.ge
            simp (config := {implicitDefEqProofs := false, maxDischargeDepth := 20}) (disch := first | omega | (simp only [lenE]; done) | (simp only [lenE]; omega) | rfl | (simp only [lenE, markR_len]; done) | (simp only [lenE, markR_len]; omega)) only [runE, mapE, listE, initT_5, initT_6, initT_7, initT_8, resV, oneV, binA, unA, reduceCtorEq, Nat.reduceEqDiff, Nat.reduceAdd, Nat.reduceLT, Nat.reduceLeDiff, Nat.reduceMul, Nat.reduceSub, ↓reduceIte, decide_true, decide_false, Bool.true_eq_false, Bool.false_eq_true, Bool.not_true, Bool.not_false, if_true, if_false, and_true, true_and, memE, celE, w64, Nat.zero_add, Nat.add_zero, Nat.mul_one, putL, and_self, ldn, stP_aggL, u0, u1, u2, u3, s4, z0, z1, z2, z3]
            exact fin_cir x9 lv9 (by omega) (D8.own.set_ne (by omega)) (by omega) (by first | rfl | simp) (by first | omega | (simp; omega))
        | false =>
          simp (config := {implicitDefEqProofs := false, maxDischargeDepth := 20}) (disch := first | omega | (simp only [lenE]; done) | (simp only [lenE]; omega) | rfl | (simp only [lenE, markR_len]; done) | (simp only [lenE, markR_len]; omega)) only [runE, mapE, listE, initT_5, initT_6, initT_7, initT_8, resV, oneV, binA, unA, reduceCtorEq, Nat.reduceEqDiff, Nat.reduceAdd, Nat.reduceLT, Nat.reduceLeDiff, Nat.reduceMul, Nat.reduceSub, ↓reduceIte, decide_true, decide_false, Bool.true_eq_false, Bool.false_eq_true, Bool.not_true, Bool.not_false, if_true, if_false, and_true, true_and, memE, celE, w64, Nat.zero_add, Nat.add_zero, Nat.mul_one, putL, and_self, ldn]
          have bb : b5 ≤ a1 + 40 := by omega
          have p := fun (P : Mem) (w : Cw (m.length + 1) M2 P) => (show P[M1.length]? = some ⟨.own, 52, [v1, v2, v3, v4]⟩ by rw [w.old M1.length (by omega) (by omega)]; exact hbx)
          have p0 : rdc N5 M1.length 0 = some v1 := by unfold rdc; rw [p _ D.cw]; rfl
          have p1 : rdc N5 M1.length 1 = some v2 := by unfold rdc; rw [p _ D.cw]; rfl
          have p2 : rdc N5 M1.length 2 = some v3 := by unfold rdc; rw [p _ D.cw]; rfl
          have p3 : rdc N5 M1.length 3 = some v4 := by unfold rdc; rw [p _ D.cw]; rfl
          have e0 : rdc (N5 ++ [rowB [2, 3, 8, 4, 1, 0, 9]]) M1.length 0 = some v1 := rdc_ext p0
          have e1 : rdc (N5 ++ [rowB [2, 3, 8, 4, 1, 0, 9]]) M1.length 1 = some v2 := rdc_ext p1
          have e2 : rdc (N5 ++ [rowB [2, 3, 8, 4, 1, 0, 9]]) M1.length 2 = some v3 := rdc_ext p2
          have e3 : rdc (N5 ++ [rowB [2, 3, 8, 4, 1, 0, 9]]) M1.length 3 = some v4 := rdc_ext p3
          simp (config := {implicitDefEqProofs := false, maxDischargeDepth := 20}) (disch := first | omega | (simp only [lenE]; done) | (simp only [lenE]; omega) | rfl | (simp only [lenE, markR_len]; done) | (simp only [lenE, markR_len]; omega)) only [runE, mapE, listE, initT_5, initT_6, initT_7, initT_8, resV, oneV, binA, unA, reduceCtorEq, Nat.reduceEqDiff, Nat.reduceAdd, Nat.reduceLT, Nat.reduceLeDiff, Nat.reduceMul, Nat.reduceSub, ↓reduceIte, decide_true, decide_false, Bool.true_eq_false, Bool.false_eq_true, Bool.not_true, Bool.not_false, if_true, if_false, and_true, true_and, memE, celE, w64, Nat.zero_add, Nat.add_zero, Nat.mul_one, putL, and_self, ldn, stP_aggL, p0, p1, p2, p3, e0, e1, e2, e3, b7f]
          with_reducible refine ⟨?_, ?_, ?_⟩
          all_goals
            refine callH_ac (among_new N5 cb _ b5 l [2, 3, 8, 4, 1, 0, 9] D.cur (by omega) rfl rfl (by simp) (by simp)) ?_
            rintro u N8 ⟨y, -, rfl, c8, b8, hb8, f8⟩
            have D8 := D.draw c8 f8
            have u0 : rdc N8 M1.length 0 = some v1 := by unfold rdc; rw [p _ D8.cw]; rfl
            have u1 : rdc N8 M1.length 1 = some v2 := by unfold rdc; rw [p _ D8.cw]; rfl
            have u2 : rdc N8 M1.length 2 = some v3 := by unfold rdc; rw [p _ D8.cw]; rfl
            have u3 : rdc N8 M1.length 3 = some v4 := by unfold rdc; rw [p _ D8.cw]; rfl
            have lw8 := D8.cw.len
            have hc8 : N8[m.length]? = some ⟨.own, 52, [.slice none 0 0, .slice none 0 0, .slice none 0 0, .slice none 0 0]⟩ := by
              rw [D8.cw.old m.length (by omega) (by omega), ho2 _ (by omega)]; exact hc1
            have lv8 : Lives (m.length + 2) N8 (.agg #[v1, v2, v3, v4]) k := lv2.cw (by omega) D8.cw
            obtain ⟨s4, r4⟩ := cell_st hc8 rfl lv8.here
            have x8 : Ext m N8 := ext_of (by omega) (fun i hi => by rw [D8.cw.old i (by omega) (by omega), ho2 i (by omega)]; exact ho1 i hi) (D8.cw.noRo hn2 f8)
            have x9 := x8.put (Nat.le_refl _) 52 [v1, v2, v3, v4]
            have lv9 : Lives (m.length + 2) (N8.set m.length ⟨.own, 52, [v1, v2, v3, v4]⟩) (.agg #[v1, v2, v3, v4]) k := lv8.up (by simp) fun i h1 h2 => List.getElem?_set_ne (by omega)
            have z0 := r4 0
            have z1 := r4 1
            have z2 := r4 2
            have z3 := r4 3
            simp only [List.getElem?_cons_zero, List.getElem?_cons_succ] at z0 z1 z2 z3
            have rge := D8.ge
            simp (config := {implicitDefEqProofs := false, maxDischargeDepth := 20}) (disch := first | omega | (simp only [lenE]; done) | (simp only [lenE]; omega) | rfl | (simp only [lenE, markR_len]; done) | (simp only [lenE, markR_len]; omega)) only [runE, mapE, listE, initT_5, initT_6, initT_7, initT_8, resV, oneV, binA, unA, reduceCtorEq, Nat.reduceEqDiff, Nat.reduceAdd, Nat.reduceLT, Nat.reduceLeDiff, Nat.reduceMul, Nat.reduceSub, ↓reduceIte, decide_true, decide_false, Bool.true_eq_false, Bool.false_eq_true, Bool.not_true, Bool.not_false, if_true, if_false, and_true, true_and, memE, celE, w64, Nat.zero_add, Nat.add_zero, Nat.mul_one, putL, and_self, ldn, stP_aggL, u0, u1, u2, u3, s4, z0, z1, z2, z3]
            exact fin_cir x9 lv9 (by omega) (D8.own.set_ne (by omega)) (by omega) (by first | rfl | simp) (by first | omega | (simp; omega))
      | false =>
        simp (config := {implicitDefEqProofs := false, maxDischargeDepth := 20}) (disch := first | omega | (simp only [lenE]; done) | (simp only [lenE]; omega) | rfl | (simp only [lenE, markR_len]; done) | (simp only [lenE, markR_len]; omega)) only [runE, mapE, listE, initT_5, initT_6, initT_7, initT_8, resV, oneV, binA, unA, reduceCtorEq, Nat.reduceEqDiff, Nat.reduceAdd, Nat.reduceLT, Nat.reduceLeDiff, Nat.reduceMul, Nat.reduceSub, ↓reduceIte, decide_true, decide_false, Bool.true_eq_false, Bool.false_eq_true, Bool.not_true, Bool.not_false, if_true, if_false, and_true, true_and, memE, celE, w64, Nat.zero_add, Nat.add_zero, Nat.mul_one, putL, and_self, ldn]
        have hpos : ∀ x ∈ L, 0 < x := fun x hx => by
          have := hbp x hx
          by_cases e : x = 0
          · exact absurd (e ▸ hx) hz
          · omega
        refine callH_rc (l1Put0_rc N3 r 1 L (D.own.ints (by omega) 1) (by omega) hpos) ?_
        intro u new hA
        obtain ⟨r2, rfl, pge2, op2, nr2⟩ := hA.row
        obtain ⟨N4, hN4⟩ : ∃ N, N = N3 ++ new := ⟨_, rfl⟩
        have lw3 := D.cw.len
        have D : Dr M2 N4 cb (m.length + 1) b3 r2 l (0 :: L) := by rw [hN4]; exact ⟨D.hid, D.hcb, D.cw.ext nr2, D.cur.ext new, op2, by omega⟩
        rw [← hN4]
        clear hN4 hA op2 nr2
        have hL2 : (0 :: L).length ≤ n + 1 := by simp; omega
        clear hL hbp hz hpos
        generalize (0 :: L) = L2 at *
        simp (config := {implicitDefEqProofs := false, maxDischargeDepth := 20}) (disch := first | omega | (simp only [lenE]; done) | (simp only [lenE]; omega) | rfl | (simp only [lenE, markR_len]; done) | (simp only [lenE, markR_len]; omega)) only [runE, mapE, listE, initT_5, initT_6, initT_7, initT_8, resV, oneV, binA, unA, reduceCtorEq, Nat.reduceEqDiff, Nat.reduceAdd, Nat.reduceLT, Nat.reduceLeDiff, Nat.reduceMul, Nat.reduceSub, ↓reduceIte, decide_true, decide_false, Bool.true_eq_false, Bool.false_eq_true, Bool.not_true, Bool.not_false, if_true, if_false, and_true, true_and, memE, celE, w64, Nat.zero_add, Nat.add_zero, Nat.mul_one, putL, and_self, ldn]
        refine callH_ac (one_ac N4 cb _ b3 l 24 D.cur (by omega) (by omega) (by omega)) ?_
        rintro u N5 ⟨b, rfl, c5, b5, hb5, f5⟩
        have D := D.draw c5 f5
        cases b with
        | true =>
          simp (config := {implicitDefEqProofs := false, maxDischargeDepth := 20}) (disch := first | omega | (simp only [lenE]; done) | (simp only [lenE]; omega) | rfl | (simp only [lenE, markR_len]; done) | (simp only [lenE, markR_len]; omega)) only [runE, mapE, listE, initT_5, initT_6, initT_7, initT_8, resV, oneV, binA, unA, reduceCtorEq, Nat.reduceEqDiff, Nat.reduceAdd, Nat.reduceLT, Nat.reduceLeDiff, Nat.reduceMul, Nat.reduceSub, ↓reduceIte, decide_true, decide_false, Bool.true_eq_false, Bool.false_eq_true, Bool.not_true, Bool.not_false, if_true, if_false, and_true, true_and, memE, celE, w64, Nat.zero_add, Nat.add_zero, Nat.mul_one, putL, and_self, ldn, b3f]
          refine callH_ac (among_new N5 cb _ b5 l [-1, 0, 8] D.cur (by omega) rfl rfl (by simp) (by simp)) ?_
          rintro u N6 ⟨x, -, rfl, c6, b6, hb6, f6⟩
          have D := D.draw c6 f6
          obtain ⟨N7, ap, D⟩ := D.app x (by omega) (i := N6.length) rfl
          simp (config := {implicitDefEqProofs := false, maxDischargeDepth := 20}) (disch := first | omega | (simp only [lenE]; done) | (simp only [lenE]; omega) | rfl | (simp only [lenE, markR_len]; done) | (simp only [lenE, markR_len]; omega)) only [runE, mapE, listE, initT_5, initT_6, initT_7, initT_8, resV, oneV, binA, unA, reduceCtorEq, Nat.reduceEqDiff, Nat.reduceAdd, Nat.reduceLT, Nat.reduceLeDiff, Nat.reduceMul, Nat.reduceSub, ↓reduceIte, decide_true, decide_false, Bool.true_eq_false, Bool.false_eq_true, Bool.not_true, Bool.not_false, if_true, if_false, and_true, true_and, memE, celE, w64, Nat.zero_add, Nat.add_zero, Nat.mul_one, putL, and_self, ldn, bsl_one, ap]
          have bb : b6 ≤ a1 + 40 := by omega
          have p := fun (P : Mem) (w : Cw (m.length + 1) M2 P) => (show P[M1.length]? = some ⟨.own, 52, [v1, v2, v3, v4]⟩ by rw [w.old M1.length (by omega) (by omega)]; exact hbx)
          have p0 : rdc N7 M1.length 0 = some v1 := by unfold rdc; rw [p _ D.cw]; rfl
          have p1 : rdc N7 M1.length 1 = some v2 := by unfold rdc; rw [p _ D.cw]; rfl
          have p2 : rdc N7 M1.length 2 = some v3 := by unfold rdc; rw [p _ D.cw]; rfl
          have p3 : rdc N7 M1.length 3 = some v4 := by unfold rdc; rw [p _ D.cw]; rfl
          have e0 : rdc (N7 ++ [rowB [2, 3, 8, 4, 1, 0, 9]]) M1.length 0 = some v1 := rdc_ext p0
          have e1 : rdc (N7 ++ [rowB [2, 3, 8, 4, 1, 0, 9]]) M1.length 1 = some v2 := rdc_ext p1
          have e2 : rdc (N7 ++ [rowB [2, 3, 8, 4, 1, 0, 9]]) M1.length 2 = some v3 := rdc_ext p2
          have e3 : rdc (N7 ++ [rowB [2, 3, 8, 4, 1, 0, 9]]) M1.length 3 = some v4 := rdc_ext p3
          simp (config := {implicitDefEqProofs := false, maxDischargeDepth := 20}) (disch := first | omega | (simp only [lenE]; done) | (simp only [lenE]; omega) | rfl | (simp only [lenE, markR_len]; done) | (simp only [lenE, markR_len]; omega)) only [runE, mapE, listE, initT_5, initT_6, initT_7, initT_8, resV, oneV, binA, unA, reduceCtorEq, Nat.reduceEqDiff, Nat.reduceAdd, Nat.reduceLT, Nat.reduceLeDiff, Nat.reduceMul, Nat.reduceSub, ↓reduceIte, decide_true, decide_false, Bool.true_eq_false, Bool.false_eq_true, Bool.not_true, Bool.not_false, if_true, if_false, and_true, true_and, memE, celE, w64, Nat.zero_add, Nat.add_zero, Nat.mul_one, putL, and_self, ldn, stP_aggL, p0, p1, p2, p3, e0, e1, e2, e3, b7f]
          with_reducible refine ⟨?_, ?_, ?_⟩
          all_goals
            refine callH_ac (among_new N7 cb _ b6 l [2, 3, 8, 4, 1, 0, 9] D.cur (by omega) rfl rfl (by simp) (by simp)) ?_
            rintro u N8 ⟨y, -, rfl, c8, b8, hb8, f8⟩
            have D8 := D.draw c8 f8
            have u0 : rdc N8 M1.length 0 = some v1 := by unfold rdc; rw [p _ D8.cw]; rfl
            have u1 : rdc N8 M1.length 1 = some v2 := by unfold rdc; rw [p _ D8.cw]; rfl
            have u2 : rdc N8 M1.length 2 = some v3 := by unfold rdc; rw [p _ D8.cw]; rfl
            have u3 : rdc N8 M1.length 3 = some v4 := by unfold rdc; rw [p _ D8.cw]; rfl
            have lw8 := D8.cw.len
            have hc8 : N8[m.length]? = some ⟨.own, 52, [.slice none 0 0, .slice none 0 0, .slice none 0 0, .slice none 0 0]⟩ := by
              rw [D8.cw.old m.length (by omega) (by omega), ho2 _ (by omega)]; exact hc1
            have lv8 : Lives (m.length + 2) N8 (.agg #[v1, v2, v3, v4]) k := lv2.cw (by omega) D8.cw
            obtain ⟨s4, r4⟩ := cell_st hc8 rfl lv8.here
            have x8 : Ext m N8 := ext_of (by omega) (fun i hi => by rw [D8.cw.old i (by omega) (by omega), ho2 i (by omega)]; exact ho1 i hi) (D8.cw.noRo hn2 f8)
            have x9 := x8.put (Nat.le_refl _) 52 [v1, v2, v3, v4]
            have lv9 : Lives (m.length + 2) (N8.set m.length ⟨.own, 52, [v1, v2, v3, v4]⟩) (.agg #[v1, v2, v3, v4]) k := lv8.up (by simp) fun i h1 h2 => List.getElem?_set_ne (by omega)
            have z0 := r4 0
            have z1 := r4 1
            have z2 := r4 2
            have z3 := r4 3
            simp only [List.getElem?_cons_zero, List.getElem?_cons_succ] at z0 z1 z2 z3
            have rge := D8.ge
            simp (config := {implicitDefEqProofs := false, maxDischargeDepth := 20}) (disch := first | omega | (simp only [lenE]; done) | (simp only [lenE]; omega) | rfl | (simp only [lenE, markR_len]; done) | (simp only [lenE, markR_len]; omega)) only [runE, mapE, listE, initT_5, initT_6, initT_7, initT_8, resV, oneV, binA, unA, reduceCtorEq, Nat.reduceEqDiff, Nat.reduceAdd, Nat.reduceLT, Nat.reduceLeDiff, Nat.reduceMul, Nat.reduceSub, ↓reduceIte, decide_true, decide_false, Bool.true_eq_false, Bool.false_eq_true, Bool.not_true, Bool.not_false, if_true, if_false, and_true, true_and, memE, celE, w64, Nat.zero_add, Nat.add_zero, Nat.mul_one, putL, and_self, ldn, stP_aggL, u0, u1, u2, u3, s4, z0, z1, z2, z3]
            exact fin_cir x9 lv9 (by omega) (D8.own.set_ne (by omega)) (by omega) (by first | rfl | simp) (by first | omega | (simp; omega))
        | false =>
          simp (config := {implicitDefEqProofs := false, maxDischargeDepth := 20}) (disch := first | omega | (simp only [lenE]; done) | (simp only [lenE]; omega) | rfl | (simp only [lenE, markR_len]; done) | (simp only [lenE, markR_len]; omega)) only [runE, mapE, listE, initT_5, initT_6, initT_7, initT_8, resV, oneV, binA, unA, reduceCtorEq, Nat.reduceEqDiff, Nat.reduceAdd, Nat.reduceLT, Nat.reduceLeDiff, Nat.reduceMul, Nat.reduceSub, ↓reduceIte, decide_true, decide_false, Bool.true_eq_false, Bool.false_eq_true, Bool.not_true, Bool.not_false, if_true, if_false, and_true, true_and, memE, celE, w64, Nat.zero_add, Nat.add_zero, Nat.mul_one, putL, and_self, ldn]
          have bb : b5 ≤ a1 + 40 := by omega
          have p := fun (P : Mem) (w : Cw (m.length + 1) M2 P) => (show P[M1.length]? = some ⟨.own, 52, [v1, v2, v3, v4]⟩ by rw [w.old M1.length (by omega) (by omega)]; exact hbx)
          have p0 : rdc N5 M1.length 0 = some v1 := by unfold rdc; rw [p _ D.cw]; rfl
          have p1 : rdc N5 M1.length 1 = some v2 := by unfold rdc; rw [p _ D.cw]; rfl
          have p2 : rdc N5 M1.length 2 = some v3 := by unfold rdc; rw [p _ D.cw]; rfl
          have p3 : rdc N5 M1.length 3 = some v4 := by unfold rdc; rw [p _ D.cw]; rfl
          have e0 : rdc (N5 ++ [rowB [2, 3, 8, 4, 1, 0, 9]]) M1.length 0 = some v1 := rdc_ext p0
          have e1 : rdc (N5 ++ [rowB [2, 3, 8, 4, 1, 0, 9]]) M1.length 1 = some v2 := rdc_ext p1
          have e2 : rdc (N5 ++ [rowB [2, 3, 8, 4, 1, 0, 9]]) M1.length 2 = some v3 := rdc_ext p2
          have e3 : rdc (N5 ++ [rowB [2, 3, 8, 4, 1, 0, 9]]) M1.length 3 = some v4 := rdc_ext p3
          simp (config := {implicitDefEqProofs := false, maxDischargeDepth := 20}) (disch := first | omega | (simp only [lenE]; done) | (simp only [lenE]; omega) | rfl | (simp only [lenE, markR_len]; done) | (simp only [lenE, markR_len]; omega)) only [runE, mapE, listE, initT_5, initT_6, initT_7, initT_8, resV, oneV, binA, unA, reduceCtorEq, Nat.reduceEqDiff, Nat.reduceAdd, Nat.reduceLT, Nat.reduceLeDiff, Nat.reduceMul, Nat.reduceSub, ↓reduceIte, decide_true, decide_false, Bool.true_eq_false, Bool.false_eq_true, Bool.not_true, Bool.not_false, if_true, if_false, and_true, true_and, memE, celE, w64, Nat.zero_add, Nat.add_zero, Nat.mul_one, putL, and_self, ldn, stP_aggL, p0, p1, p2, p3, e0, e1, e2, e3, b7f]
          with_reducible refine ⟨?_, ?_, ?_⟩
          all_goals
            refine callH_ac (among_new N5 cb _ b5 l [2, 3, 8, 4, 1, 0, 9] D.cur (by omega) rfl rfl (by simp) (by simp)) ?_
            rintro u N8 ⟨y, -, rfl, c8, b8, hb8, f8⟩
            have D8 := D.draw c8 f8
            have u0 : rdc N8 M1.length 0 = some v1 := by unfold rdc; rw [p _ D8.cw]; rfl
            have u1 : rdc N8 M1.length 1 = some v2 := by unfold rdc; rw [p _ D8.cw]; rfl
            have u2 : rdc N8 M1.length 2 = some v3 := by unfold rdc; rw [p _ D8.cw]; rfl
            have u3 : rdc N8 M1.length 3 = some v4 := by unfold rdc; rw [p _ D8.cw]; rfl
            have lw8 := D8.cw.len
            have hc8 : N8[m.length]? = some ⟨.own, 52, [.slice none 0 0, .slice none 0 0, .slice none 0 0, .slice none 0 0]⟩ := by
              rw [D8.cw.old m.length (by omega) (by omega), ho2 _ (by omega)]; exact hc1
            have lv8 : Lives (m.length + 2) N8 (.agg #[v1, v2, v3, v4]) k := lv2.cw (by omega) D8.cw
            obtain ⟨s4, r4⟩ := cell_st hc8 rfl lv8.here
            have x8 : Ext m N8 := ext_of (by omega) (fun i hi => by rw [D8.cw.old i (by omega) (by omega), ho2 i (by omega)]; exact ho1 i hi) (D8.cw.noRo hn2 f8)
            have x9 := x8.put (Nat.le_refl _) 52 [v1, v2, v3, v4]
            have lv9 : Lives (m.length + 2) (N8.set m.length ⟨.own, 52, [v1, v2, v3, v4]⟩) (.agg #[v1, v2, v3, v4]) k := lv8.up (by simp) fun i h1 h2 => List.getElem?_set_ne (by omega)
            have z0 := r4 0
            have z1 := r4 1
            have z2 := r4 2
            have z3 := r4 3
            simp only [List.getElem?_cons_zero, List.getElem?_cons_succ] at z0 z1 z2 z3
            have rge := D8.ge
            simp (config := {implicitDefEqProofs := false, maxDischargeDepth := 20}) (disch := first | omega | (simp only [lenE]; done) | (simp only [lenE]; omega) | rfl | (simp only [lenE, markR_len]; done) | (simp only [lenE, markR_len]; omega)) only [runE, mapE, listE, initT_5, initT_6, initT_7, initT_8, resV, oneV, binA, unA, reduceCtorEq, Nat.reduceEqDiff, Nat.reduceAdd, Nat.reduceLT, Nat.reduceLeDiff, Nat.reduceMul, Nat.reduceSub, ↓reduceIte, decide_true, decide_false, Bool.true_eq_false, Bool.false_eq_true, Bool.not_true, Bool.not_false, if_true, if_false, and_true, true_and, memE, celE, w64, Nat.zero_add, Nat.add_zero, Nat.mul_one, putL, and_self, ldn, stP_aggL, u0, u1, u2, u3, s4, z0, z1, z2, z3]
            exact fin_cir x9 lv9 (by omega) (D8.own.set_ne (by omega)) (by omega) (by first | rfl | simp) (by first | omega | (simp; omega))
  · simp (config := {implicitDefEqProofs := false, maxDischargeDepth := 20}) (disch := first | omega | (simp only [lenE]; done) | (simp only [lenE]; omega) | rfl | (simp only [lenE, markR_len]; done) | (simp only [lenE, markR_len]; omega)) only [runE, mapE, listE, initT_5, initT_6, initT_7, initT_8, resV, oneV, binA, unA, reduceCtorEq, Nat.reduceEqDiff, Nat.reduceAdd, Nat.reduceLT, Nat.reduceLeDiff, Nat.reduceMul, Nat.reduceSub, ↓reduceIte, decide_true, decide_false, Bool.true_eq_false, Bool.false_eq_true, Bool.not_true, Bool.not_false, if_true, if_false, and_true, true_and, memE, celE, w64, Nat.zero_add, Nat.add_zero, Nat.mul_one, putL, and_self, ldn, hnp, gt_iff_lt, decide_eq_false hnp]
    refine callH_ac (one_ac N cb _ b1 l 24 D.cur (by omega) (by omega) (by omega)) ?_
    rintro u N5 ⟨b, rfl, c5, b5, hb5, f5⟩
    have D := D.draw c5 f5
    cases b with
    | true =>
      simp (config := {implicitDefEqProofs := false, maxDischargeDepth := 20}) (disch := first | omega | (simp only [lenE]; done) | (simp only [lenE]; omega) | rfl | (simp only [lenE, markR_len]; done) | (simp only [lenE, markR_len]; omega)) only [runE, mapE, listE, initT_5, initT_6, initT_7, initT_8, resV, oneV, binA, unA, reduceCtorEq, Nat.reduceEqDiff, Nat.reduceAdd, Nat.reduceLT, Nat.reduceLeDiff, Nat.reduceMul, Nat.reduceSub, ↓reduceIte, decide_true, decide_false, Bool.true_eq_false, Bool.false_eq_true, Bool.not_true, Bool.not_false, if_true, if_false, and_true, true_and, memE, celE, w64, Nat.zero_add, Nat.add_zero, Nat.mul_one, putL, and_self, ldn, b3f]
      refine callH_ac (among_new N5 cb _ b5 l [-1, 0, 8] D.cur (by omega) rfl rfl (by simp) (by simp)) ?_
      rintro u N6 ⟨x, -, rfl, c6, b6, hb6, f6⟩
      have D := D.draw c6 f6
      obtain ⟨N7, ap, D⟩ := D.app x (by omega) (i := N6.length) rfl
      simp (config := {implicitDefEqProofs := false, maxDischargeDepth := 20}) (disch := first | omega | (simp only [lenE]; done) | (simp only [lenE]; omega) | rfl | (simp only [lenE, markR_len]; done) | (simp only [lenE, markR_len]; omega)) only [runE, mapE, listE, initT_5, initT_6, initT_7, initT_8, resV, oneV, binA, unA, reduceCtorEq, Nat.reduceEqDiff, Nat.reduceAdd, Nat.reduceLT, Nat.reduceLeDiff, Nat.reduceMul, Nat.reduceSub, ↓reduceIte, decide_true, decide_false, Bool.true_eq_false, Bool.false_eq_true, Bool.not_true, Bool.not_false, if_true, if_false, and_true, true_and, memE, celE, w64, Nat.zero_add, Nat.add_zero, Nat.mul_one, putL, and_self, ldn, bsl_one, ap]
      have bb : b6 ≤ a1 + 40 := by omega
      have p := fun (P : Mem) (w : Cw (m.length + 1) M2 P) => (show P[M1.length]? = some ⟨.own, 52, [v1, v2, v3, v4]⟩ by rw [w.old M1.length (by omega) (by omega)]; exact hbx)
      have p0 : rdc N7 M1.length 0 = some v1 := by unfold rdc; rw [p _ D.cw]; rfl
      have p1 : rdc N7 M1.length 1 = some v2 := by unfold rdc; rw [p _ D.cw]; rfl
      have p2 : rdc N7 M1.length 2 = some v3 := by unfold rdc; rw [p _ D.cw]; rfl
      have p3 : rdc N7 M1.length 3 = some v4 := by unfold rdc; rw [p _ D.cw]; rfl
      have e0 : rdc (N7 ++ [rowB [2, 3, 8, 4, 1, 0, 9]]) M1.length 0 = some v1 := rdc_ext p0
      have e1 : rdc (N7 ++ [rowB [2, 3, 8, 4, 1, 0, 9]]) M1.length 1 = some v2 := rdc_ext p1
      have e2 : rdc (N7 ++ [rowB [2, 3, 8, 4, 1, 0, 9]]) M1.length 2 = some v3 := rdc_ext p2
      have e3 : rdc (N7 ++ [rowB [2, 3, 8, 4, 1, 0, 9]]) M1.length 3 = some v4 := rdc_ext p3
      simp (config := {implicitDefEqProofs := false, maxDischargeDepth := 20}) (disch := first | omega | (simp only [lenE]; done) | (simp only [lenE]; omega) | rfl | (simp only [lenE, markR_len]; done) | (simp only [lenE, markR_len]; omega)) only [runE, mapE, listE, initT_5, initT_6, initT_7, initT_8, resV, oneV, binA, unA, reduceCtorEq, Nat.reduceEqDiff, Nat.reduceAdd, Nat.reduceLT, Nat.reduceLeDiff, Nat.reduceMul, Nat.reduceSub, ↓reduceIte, decide_true, decide_false, Bool.true_eq_false, Bool.false_eq_true, Bool.not_true, Bool.not_false, if_true, if_false, and_true, true_and, memE, celE, w64, Nat.zero_add, Nat.add_zero, Nat.mul_one, putL, and_self, ldn, stP_aggL, p0, p1, p2, p3, e0, e1, e2, e3, b7f]
      with_reducible refine ⟨?_, ?_, ?_⟩
      all_goals
        refine callH_ac (among_new N7 cb _ b6 l [2, 3, 8, 4, 1, 0, 9] D.cur (by omega) rfl rfl (by simp) (by simp)) ?_
        rintro u N8 ⟨y, -, rfl, c8, b8, hb8, f8⟩
        have D8 := D.draw c8 f8
        have u0 : rdc N8 M1.length 0 = some v1 := by unfold rdc; rw [p _ D8.cw]; rfl
        have u1 : rdc N8 M1.length 1 = some v2 := by unfold rdc; rw [p _ D8.cw]; rfl
        have u2 : rdc N8 M1.length 2 = some v3 := by unfold rdc; rw [p _ D8.cw]; rfl
        have u3 : rdc N8 M1.length 3 = some v4 := by unfold rdc; rw [p _ D8.cw]; rfl
        have lw8 := D8.cw.len
        have hc8 : N8[m.length]? = some ⟨.own, 52, [.slice none 0 0, .slice none 0 0, .slice none 0 0, .slice none 0 0]⟩ := by
          rw [D8.cw.old m.length (by omega) (by omega), ho2 _ (by omega)]; exact hc1
        have lv8 : Lives (m.length + 2) N8 (.agg #[v1, v2, v3, v4]) k := lv2.cw (by omega) D8.cw
        obtain ⟨s4, r4⟩ := cell_st hc8 rfl lv8.here
        have x8 : Ext m N8 := ext_of (by omega) (fun i hi => by rw [D8.cw.old i (by omega) (by omega), ho2 i (by omega)]; exact ho1 i hi) (D8.cw.noRo hn2 f8)
        have x9 := x8.put (Nat.le_refl _) 52 [v1, v2, v3, v4]
        have lv9 : Lives (m.length + 2) (N8.set m.length ⟨.own, 52, [v1, v2, v3, v4]⟩) (.agg #[v1, v2, v3, v4]) k := lv8.up (by simp) fun i h1 h2 => List.getElem?_set_ne (by omega)
        have z0 := r4 0
        have z1 := r4 1
        have z2 := r4 2
        have z3 := r4 3
        simp only [List.getElem?_cons_zero, List.getElem?_cons_succ] at z0 z1 z2 z3
        have rge := D8.ge
        simp (config := {implicitDefEqProofs := false, maxDischargeDepth := 20}) (disch := first | omega | (simp only [lenE]; done) | (simp only [lenE]; omega) | rfl | (simp only [lenE, markR_len]; done) | (simp only [lenE, markR_len]; omega)) only [runE, mapE, listE, initT_5, initT_6, initT_7, initT_8, resV, oneV, binA, unA, reduceCtorEq, Nat.reduceEqDiff, Nat.reduceAdd, Nat.reduceLT, Nat.reduceLeDiff, Nat.reduceMul, Nat.reduceSub, ↓reduceIte, decide_true, decide_false, Bool.true_eq_false, Bool.false_eq_true, Bool.not_true, Bool.not_false, if_true, if_false, and_true, true_and, memE, celE, w64, Nat.zero_add, Nat.add_zero, Nat.mul_one, putL, and_self, ldn, stP_aggL, u0, u1, u2, u3, s4, z0, z1, z2, z3]
        exact fin_cir x9 lv9 (by omega) (D8.own.set_ne (by omega)) (by omega) (by first | rfl | simp) (by first | omega | (simp; omega))
    | false =>
      simp (config := {implicitDefEqProofs := false, maxDischargeDepth := 20}) (disch := first | omega | (simp only [lenE]; done) | (simp only [lenE]; omega) | rfl | (simp only [lenE, markR_len]; done) | (simp only [lenE, markR_len]; omega)) only [runE, mapE, listE, initT_5, initT_6, initT_7, initT_8, resV, oneV, binA, unA, reduceCtorEq, Nat.reduceEqDiff, Nat.reduceAdd, Nat.reduceLT, Nat.reduceLeDiff, Nat.reduceMul, Nat.reduceSub, ↓reduceIte, decide_true, decide_false, Bool.true_eq_false, Bool.false_eq_true, Bool.not_true, Bool.not_false, if_true, if_false, and_true, true_and, memE, celE, w64, Nat.zero_add, Nat.add_zero, Nat.mul_one, putL, and_self, ldn]
      have bb : b5 ≤ a1 + 40 := by omega
      have p := fun (P : Mem) (w : Cw (m.length + 1) M2 P) => (show P[M1.length]? = some ⟨.own, 52, [v1, v2, v3, v4]⟩ by rw [w.old M1.length (by omega) (by omega)]; exact hbx)
      have p0 : rdc N5 M1.length 0 = some v1 := by unfold rdc; rw [p _ D.cw]; rfl
      have p1 : rdc N5 M1.length 1 = some v2 := by unfold rdc; rw [p _ D.cw]; rfl
      have p2 : rdc N5 M1.length 2 = some v3 := by unfold rdc; rw [p _ D.cw]; rfl
      have p3 : rdc N5 M1.length 3 = some v4 := by unfold rdc; rw [p _ D.cw]; rfl
      have e0 : rdc (N5 ++ [rowB [2, 3, 8, 4, 1, 0, 9]]) M1.length 0 = some v1 := rdc_ext p0
      have e1 : rdc (N5 ++ [rowB [2, 3, 8, 4, 1, 0, 9]]) M1.length 1 = some v2 := rdc_ext p1
      have e2 : rdc (N5 ++ [rowB [2, 3, 8, 4, 1, 0, 9]]) M1.length 2 = some v3 := rdc_ext p2
      have e3 : rdc (N5 ++ [rowB [2, 3, 8, 4, 1, 0, 9]]) M1.length 3 = some v4 := rdc_ext p3
      simp (config := {implicitDefEqProofs := false, maxDischargeDepth := 20}) (disch := first | omega | (simp only [lenE]; done) | (simp only [lenE]; omega) | rfl | (simp only [lenE, markR_len]; done) | (simp only [lenE, markR_len]; omega)) only [runE, mapE, listE, initT_5, initT_6, initT_7, initT_8, resV, oneV, binA, unA, reduceCtorEq, Nat.reduceEqDiff, Nat.reduceAdd, Nat.reduceLT, Nat.reduceLeDiff, Nat.reduceMul, Nat.reduceSub, ↓reduceIte, decide_true, decide_false, Bool.true_eq_false, Bool.false_eq_true, Bool.not_true, Bool.not_false, if_true, if_false, and_true, true_and, memE, celE, w64, Nat.zero_add, Nat.add_zero, Nat.mul_one, putL, and_self, ldn, stP_aggL, p0, p1, p2, p3, e0, e1, e2, e3, b7f]
      with_reducible refine ⟨?_, ?_, ?_⟩
      all_goals
        refine callH_ac (among_new N5 cb _ b5 l [2, 3, 8, 4, 1, 0, 9] D.cur (by omega) rfl rfl (by simp) (by simp)) ?_
        rintro u N8 ⟨y, -, rfl, c8, b8, hb8, f8⟩
        have D8 := D.draw c8 f8
        have u0 : rdc N8 M1.length 0 = some v1 := by unfold rdc; rw [p _ D8.cw]; rfl
        have u1 : rdc N8 M1.length 1 = some v2 := by unfold rdc; rw [p _ D8.cw]; rfl
        have u2 : rdc N8 M1.length 2 = some v3 := by unfold rdc; rw [p _ D8.cw]; rfl
        have u3 : rdc N8 M1.length 3 = some v4 := by unfold rdc; rw [p _ D8.cw]; rfl
        have lw8 := D8.cw.len
        have hc8 : N8[m.length]? = some ⟨.own, 52, [.slice none 0 0, .slice none 0 0, .slice none 0 0, .slice none 0 0]⟩ := by
          rw [D8.cw.old m.length (by omega) (by omega), ho2 _ (by omega)]; exact hc1
        have lv8 : Lives (m.length + 2) N8 (.agg #[v1, v2, v3, v4]) k := lv2.cw (by omega) D8.cw
        obtain ⟨s4, r4⟩ := cell_st hc8 rfl lv8.here
        have x8 : Ext m N8 := ext_of (by omega) (fun i hi => by rw [D8.cw.old i (by omega) (by omega), ho2 i (by omega)]; exact ho1 i hi) (D8.cw.noRo hn2 f8)
        have x9 := x8.put (Nat.le_refl _) 52 [v1, v2, v3, v4]
        have lv9 : Lives (m.length + 2) (N8.set m.length ⟨.own, 52, [v1, v2, v3, v4]⟩) (.agg #[v1, v2, v3, v4]) k := lv8.up (by simp) fun i h1 h2 => List.getElem?_set_ne (by omega)
        have z0 := r4 0
        have z1 := r4 1
        have z2 := r4 2
        have z3 := r4 3
        simp only [List.getElem?_cons_zero, List.getElem?_cons_succ] at z0 z1 z2 z3
        have rge := D8.ge
        simp (config := {implicitDefEqProofs := false, maxDischargeDepth := 20}) (disch := first | omega | (simp only [lenE]; done) | (simp only [lenE]; omega) | rfl | (simp only [lenE, markR_len]; done) | (simp only [lenE, markR_len]; omega)) only [runE, mapE, listE, initT_5, initT_6, initT_7, initT_8, resV, oneV, binA, unA, reduceCtorEq, Nat.reduceEqDiff, Nat.reduceAdd, Nat.reduceLT, Nat.reduceLeDiff, Nat.reduceMul, Nat.reduceSub, ↓reduceIte, decide_true, decide_false, Bool.true_eq_false, Bool.false_eq_true, Bool.not_true, Bool.not_false, if_true, if_false, and_true, true_and, memE, celE, w64, Nat.zero_add, Nat.add_zero, Nat.mul_one, putL, and_self, ldn, stP_aggL, u0, u1, u2, u3, s4, z0, z1, z2, z3]
        exact fin_cir x9 lv9 (by omega) (D8.own.set_ne (by omega)) (by omega) (by first | rfl | simp) (by first | omega | (simp; omega))
end Go.Proofs.Ytdgfbmilbhckiaa.Ab
end
section
namespace Go.Proofs.Ytdgfbmilbhckiaa
set_option linter.unusedVariables false
set_option linter.unusedSimpArgs false
def needQ (k : Cs) : Nat → Nat → Nat
  | 0, t => t
  | f + 1, t => if k.need.getD t 0 = 0 then needQ k f (t + 1) else t
def needN (k : Cs) (t : Nat) : Nat := needQ k (k.need.length - t) t
theorem needQ_le (k : Cs) (f : Nat) : ∀ t, needQ k f t ≤ t + f := by
  induction f with
  | zero => intro t; exact Nat.le_refl _
  | succ f ih =>
    intro t
    rw [needQ]
    split
    · have := ih (t + 1); omega
    · omega
theorem needN_le {k : Cs} {t : Nat} (h : t ≤ k.need.length) : needN k t ≤ k.need.length := by
  have := needQ_le k (k.need.length - t) t
  unfold needN; omega
end Go.Proofs.Ytdgfbmilbhckiaa
end
section
namespace Go.Proofs.Ytdgfbmilbhckiaa
set_option linter.unusedVariables false
set_option linter.unusedSimpArgs false
theorem bef_le {a b : Int × List Int} (h : bef a b = true) : a.1 ≤ b.1 := by
  unfold bef at h
  by_cases e : a.1 = b.1
  · omega
  · rw [if_neg e] at h; have := of_decide_eq_true h; omega
theorem bef_ge {a b : Int × List Int} (h : ¬ bef a b = true) : b.1 ≤ a.1 := by
  unfold bef at h
  by_cases e : a.1 = b.1
  · omega
  · rw [if_neg e] at h
    by_cases g : a.1 < b.1
    · exact absurd (decide_eq_true g) h
    · omega
theorem bwd_dp {k : Cs} (n m : Nat) (hm : m ≤ n) : ∀ x, x ≤ m → (bwdF k n m).getD x 0 = costL k n (dp k n (n - m + x)) := by
  induction m with
  | zero =>
    intro x hx
    obtain rfl : x = 0 := by omega
    rw [dp_end k (by omega)]; rfl
  | succ m ih =>
    intro x hx
    have ih := ih (by omega)
    rw [bwdF]
    cases x with
    | succ x =>
      rw [List.getD_cons_succ, ih x (by omega)]
      congr 2; omega
    | zero =>
      rw [List.getD_cons_zero, show n - (m + 1) + 0 = n - (m + 1) from rfl, dp_loop k (by omega), show n - 1 - (n - (m + 1)) = m by omega]
      have : ∀ q, q ≤ m → bmin k n (n - (m + 1)) (bwdF k n m) q = costL k n (dpLoop k n (n - (m + 1)) (dp k n) q) := by
        intro q
        induction q with
        | zero => intro _; rw [bmin, dpLoop, costL_cons, beg_nil, costL_nil]; simp
        | succ q ihq =>
          intro hq
          have e : n - m + q = n - (m + 1) + 1 + q := by omega
          have hd : beg n (dp k n (n - (m + 1) + 1 + q)) 0 = n - (m + 1) + 1 + q := ((dp_min k n (n - (n - (m + 1) + 1 + q)) _ (by omega)).1).2
          rw [bmin, ihq (by omega), ih q (by omega), e, dpLoop]
          have hc : costL k n (((n - (m + 1) : Nat) : Int) :: dp k n (n - (m + 1) + 1 + q)) = spanF k (n - (m + 1)) (n - (m + 1) + 1 + q) + costL k n (dp k n (n - (m + 1) + 1 + q)) := by
            rw [costL_cons, hd]; simp
          split
          · rename_i hb
            have := bef_le hb
            simp only [] at this
            rw [hc] at this ⊢
            omega
          · rename_i hb
            have := bef_ge hb
            simp only [] at this
            rw [hc] at this
            omega
      exact this m (Nat.le_refl _)
theorem needQ_spec (k : Cs) : ∀ (f t : Nat), (∀ j, t ≤ j → j < needQ k f t → k.need.getD j 0 = 0) ∧ (needQ k f t = t + f ∨ k.need.getD (needQ k f t) 0 ≠ 0) := by
  intro f
  induction f with
  | zero => intro t; exact ⟨fun j h1 h2 => by rw [needQ] at h2; omega, .inl rfl⟩
  | succ f ih =>
    intro t
    rw [needQ]
    by_cases h : k.need.getD t 0 = 0
    · rw [if_pos h]
      obtain ⟨h1, h2⟩ := ih (t + 1)
      refine ⟨fun j g1 g2 => ?_, ?_⟩
      · by_cases e : j = t
        · rw [e]; exact h
        · exact h1 j (by omega) g2
      · rcases h2 with h2 | h2
        · left; omega
        · exact .inr h2
    · rw [if_neg h]
      exact ⟨fun j g1 g2 => by omega, .inr h⟩
theorem firstN (k : Cs) : (∀ j, j < needN k 0 → k.need.getD j 0 = 0) ∧ (needN k 0 = k.need.length ∨ (needN k 0 < k.need.length ∧ k.need.getD (needN k 0) 0 ≠ 0)) := by
  obtain ⟨h1, h2⟩ := needQ_spec k (k.need.length - 0) 0
  have hle := needN_le (k := k) (t := 0) (by omega)
  refine ⟨fun j hj => h1 j (by omega) hj, ?_⟩
  rcases h2 with h2 | h2
  · left; unfold needN; omega
  · by_cases e : needN k 0 = k.need.length
    · exact .inl e
    · exact .inr ⟨by omega, h2⟩
theorem sumR_none {k : Cs} {f : Nat} (h : ∀ j, j < f → k.need.getD j 0 = 0) : ∀ t, t ≤ f → sumR k.need 0 t = 0 := by
  intro t
  induction t with
  | zero => intro _; exact sumR_self _ _
  | succ t ih => intro ht; rw [sumR_s, ih (by omega), h t (by omega)]; rfl
theorem bwd_best {k : Cs} (hg : Good k) : (bwdL k).getD 0 0 = bestCost k := by
  obtain ⟨hz, hT⟩ := firstN k
  have hle := needN_le (k := k) (t := 0) (by omega)
  obtain ⟨T, hTe⟩ : ∃ T, T = needN k 0 := ⟨_, rfl⟩
  rw [← hTe] at hz hT hle
  have hb := (bestL_dp hg hle hz hT).2
  have hd := bwd_dp (k := k) k.need.length k.need.length (Nat.le_refl _) 0 (Nat.zero_le _)
  rw [Nat.sub_self, Nat.add_zero] at hd
  unfold bwdL
  rw [hd, hb]
  have m0 := dp_min k k.need.length k.need.length 0 (by omega)
  have mT := blF_min k k.need.length T hle
  have a : costL k k.need.length (blF k k.need.length T) ≤ costL k k.need.length (dp k k.need.length 0) := by
    rcases mT.2 _ ⟨m0.1.1, by rw [m0.1.2]; omega⟩ with h | h
    · rw [h]; exact Int.le_refl _
    · exact bef_le h
  have b : costL k k.need.length (dp k k.need.length 0) ≤ costL k k.need.length (blF k k.need.length T) := by
    obtain ⟨h1, h2⟩ := mT.1
    by_cases e : beg k.need.length (blF k k.need.length T) 0 = 0
    · rcases m0.2 _ ⟨h1, e⟩ with h | h
      · rw [h]; exact Int.le_refl _
      · exact bef_le h
    · have hc : costL k k.need.length ((0 : Int) :: blF k k.need.length T) = costL k k.need.length (blF k k.need.length T) := by
        rw [costL_cons, show ((0 : Int)).toNat = 0 from rfl, spanF_zero k (sumR_none hz _ h2)]; simp
      rw [← hc]
      rcases m0.2 ((0 : Int) :: blF k k.need.length T) ⟨h1.cons (by omega) (show ((0 : Int)).toNat < _ by have : ((0 : Int)).toNat = 0 := rfl; omega), by rw [beg_cons0]; rfl⟩ with h | h
      · rw [h]; exact Int.le_refl _
      · exact bef_le h
  omega
end Go.Proofs.Ytdgfbmilbhckiaa
end
