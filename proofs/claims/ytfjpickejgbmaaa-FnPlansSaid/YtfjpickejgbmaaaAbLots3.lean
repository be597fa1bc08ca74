/- The draw of a Case. -/
import Derived.Test.YtfjpickejgbmaaaAbKc
import Derived.Test.YtfjpickejgbmaaaAbDr
import Derived.Test.YtfjpickejgbmaaaCodTwo
namespace Go.Proofs.Ytfjpickejgbmaaa.Ab
open Go Go.RowKit
set_option linter.unusedVariables false
set_option linter.unusedSimpArgs false

theorem b8 (m : Mem) : bslA m 3 1 8 [.int .i64 0, .int .i64 0, .int .i64 0, .int .i64 0, .int .i64 0, .int .i64 0, .int .i64 0, .int .i64 0] [(0, 1, .int .i64 4), (1, 1, .int .i64 5), (2, 1, .int .i64 3), (3, 1, .int .i64 6), (4, 1, .int .i64 8), (5, 1, .int .i64 2), (6, 1, .int .i64 1), (7, 1, .int .i64 0)] = some (.slice (some ⟨m.length, 0, none⟩) 8 1, m ++ [rowB [4, 5, 3, 6, 8, 2, 1, 0]]) := rfl
theorem b6a (m : Mem) : bslA m 3 1 6 [.int .i64 0, .int .i64 0, .int .i64 0, .int .i64 0, .int .i64 0, .int .i64 0] [(0, 1, .int .i64 0), (1, 1, .int .i64 3), (2, 1, .int .i64 5), (3, 1, .int .i64 8), (4, 1, .int .i64 12), (5, 1, .int .i64 20)] = some (.slice (some ⟨m.length, 0, none⟩) 6 1, m ++ [rowB [0, 3, 5, 8, 12, 20]]) := rfl
theorem b6b (m : Mem) : bslA m 3 1 6 [.int .i64 0, .int .i64 0, .int .i64 0, .int .i64 0, .int .i64 0, .int .i64 0] [(0, 1, .int .i64 0), (1, 1, .int .i64 2), (2, 1, .int .i64 5), (3, 1, .int .i64 9), (4, 1, .int .i64 14), (5, 1, .int .i64 30)] = some (.slice (some ⟨m.length, 0, none⟩) 6 1, m ++ [rowB [0, 2, 5, 9, 14, 30]]) := rfl
theorem b6c (m : Mem) : bslA m 3 1 6 [.int .i64 0, .int .i64 0, .int .i64 0, .int .i64 0, .int .i64 0, .int .i64 0] [(0, 1, .int .i64 0), (1, 1, .int .i64 1), (2, 1, .int .i64 2), (3, 1, .int .i64 3), (4, 1, .int .i64 5), (5, 1, .int .i64 8)] = some (.slice (some ⟨m.length, 0, none⟩) 6 1, m ++ [rowB [0, 1, 2, 3, 5, 8]]) := rfl
theorem b4a (m : Mem) : bslA m 3 1 4 [.int .i64 0, .int .i64 0, .int .i64 0, .int .i64 0] [(0, 1, .int .i64 (-1)), (1, 1, .int .i64 20), (2, 1, .int .i64 21), (3, 1, .int .i64 4611686018427387904)] = some (.slice (some ⟨m.length, 0, none⟩) 4 1, m ++ [rowB [-1, 20, 21, 4611686018427387904]]) := rfl
theorem b3a (m : Mem) : bslA m 3 1 3 [.int .i64 0, .int .i64 0, .int .i64 0] [(0, 1, .int .i64 (-1)), (1, 1, .int .i64 99), (2, 1, .int .i64 100)] = some (.slice (some ⟨m.length, 0, none⟩) 3 1, m ++ [rowB [-1, 99, 100]]) := rfl
theorem b3b (m : Mem) : bslA m 3 1 3 [.int .i64 0, .int .i64 0, .int .i64 0] [(0, 1, .int .i64 (-1)), (1, 1, .int .i64 9), (2, 1, .int .i64 10)] = some (.slice (some ⟨m.length, 0, none⟩) 3 1, m ++ [rowB [-1, 9, 10]]) := rfl
/-- What the appends keep. -/
structure St3 (M M' : Mem) (cb id a b : Nat) (l : List Int) (vs : Nat → Value) (ls : Nat → List Int) (rs : Nat → Nat) : Prop where
  kc : KC M' b (M.length + 1) vs ls rs
  cw : Cw id M M'
  cur : CurA M' cb l id a
  res : M'[M.length]? = some ⟨.own, 26, [.slice none 0 0, .slice none 0 0, .slice none 0 0, .slice none 0 0]⟩
theorem St3.draw {M M' M2 : Mem} {cb id a a2 b : Nat} {l : List Int} {vs : Nat → Value} {ls : Nat → List Int} {rs : Nat → Nat} (h : St3 M M' cb id a b l vs ls rs) (hid : id < M.length) (w : Cw id M' M2) (k : CurA M2 cb l id a2) : St3 M M2 cb id a2 b l vs ls rs :=
  ⟨h.kc.cw w (by omega), Cw.trans hid h.cw w, k, (w.old _ (by omega) (by have := (List.getElem?_eq_some_iff.1 h.res).1; omega)).trans h.res⟩
theorem St3.app {M M' : Mem} {cb id a b : Nat} {l : List Int} {vs : Nat → Value} {ls : Nat → List Int} {rs : Nat → Nat} (h : St3 M M' cb id a b l vs ls rs) (hid : id < M.length) (hcb : cb < M.length) {o : Nat} (ho : o < 4) (hl : (ls o).length ≤ 1000) (x : Int) : ∃ M1 M2,
    appP (M' ++ [⟨.own, 3, [.int .i64 x]⟩]) 3 1 8 (vs o) (.slice (some ⟨M'.length, 0, none⟩) 1 1) = some (.slice (some ⟨M'.length + 1, 0, none⟩) ((ls o).length + 1) 1, M1) ∧
    stA M1 b o [.slice (some ⟨M'.length + 1, 0, none⟩) ((ls o).length + 1) 1] = some M2 ∧
    St3 M M2 cb id a b l (up4 vs o (.slice (some ⟨M'.length + 1, 0, none⟩) ((ls o).length + 1) 1)) (up4 ls o (ls o ++ [x])) (up4 rs o (M'.length + 1)) := by
  obtain ⟨M1, M2, h1, h2, h3, h4, h5, h6⟩ := h.kc.app ho hl x
  refine ⟨M1, M2, h1, h2, h3, ⟨by have := h.cw.len; omega, fun i e hi => (h5 i (by omega)).trans (h.cw.old i e hi), fun i bk hi hb => ?_⟩, ?_, (h5 _ (by omega)).trans h.res⟩
  · by_cases e : i = M.length
    · subst e
      rw [h5 _ (by omega)] at hb
      exact h.cw.new _ bk (Nat.le_refl _) hb
    · exact h6 (fun j k hj hk => h.cw.new j k (by omega) hk) i bk (by omega) hb
  · obtain ⟨seed, hb⟩ := h.cur.box
    exact ⟨(h5 cb (by omega)).trans h.cur.code, h.cur.byte, h.cur.few, seed, (h5 id (by omega)).trans hb⟩
theorem St3.rd {M M' : Mem} {cb id a b : Nat} {l : List Int} {vs : Nat → Value} {ls : Nat → List Int} {rs : Nat → Nat} (h : St3 M M' cb id a b l vs ls rs) : rdc M' b 0 = some (vs 0) ∧ rdc M' b 1 = some (vs 1) ∧ rdc M' b 2 = some (vs 2) ∧ rdc M' b 3 = some (vs 3) := by
  refine ⟨?_, ?_, ?_, ?_⟩ <;> (unfold rdc; rw [h.kc.box]; rfl)
theorem b1 (m : Mem) (x : Int) : bslA m 3 1 1 [.int .i64 0] [(0, 1, .int .i64 x)] = some (.slice (some ⟨m.length, 0, none⟩) 1 1, m ++ [⟨.own, 3, [.int .i64 x]⟩]) := rfl
/-- The Case lies in blocks from lo on: whoever leaves these leaves it. -/
def Lives (lo : Nat) (M : Mem) (r : Value) (k : Cs) : Prop := ∀ M3 : Mem, (∀ i, lo ≤ i → i < M.length → M3[i]? = M[i]?) → CaseA M3 r k
theorem Lives.here {lo : Nat} {M : Mem} {r : Value} {k : Cs} (h : Lives lo M r k) : CaseA M r k := h M fun _ _ _ => rfl
theorem Lives.cw {lo id : Nat} {M M' : Mem} {r : Value} {k : Cs} (h : Lives lo M r k) (hid : id < lo) (w : Cw id M M') : Lives lo M' r k := fun M3 h3 =>
  h M3 fun i h1 h2 => (h3 i h1 (Nat.lt_of_lt_of_le h2 w.len)).trans (w.old i (by omega) h2)
theorem Gr.one {M : Mem} {v : Value} {l : List Int} {r : Nat} (h : Gr M v l r) : v.oneCell' = true := by
  rcases h with ⟨rfl, _⟩ | ⟨rfl, _⟩ <;> rfl
/-- The answer: the four rows, read from the box and laid into the result's cell. -/
theorem St3.fin {M M' : Mem} {cb id a b : Nat} {l : List Int} {vs : Nat → Value} {ls : Nat → List Int} {rs : Nat → Nat} (h : St3 M M' cb id a b l vs ls rs) (hid : id < M.length) (hcb : cb < M.length) (hl : ∀ i, i < 4 → (ls i).length ≤ 1000) : ∃ M2,
    stA M' M.length 0 [vs 0, vs 1, vs 2, vs 3] = some M2 ∧ rdc M2 M.length 0 = some (vs 0) ∧ rdc M2 M.length 1 = some (vs 1) ∧ rdc M2 M.length 2 = some (vs 2) ∧ rdc M2 M.length 3 = some (vs 3) ∧
    ((ls 0).length ≤ 1000 ∧ Lives M.length M2 (.agg #[vs 0, vs 1, vs 2, vs 3]) ⟨ls 0, ls 1, ls 2, ls 3⟩) ∧ Cw id M M2 ∧ CurA M2 cb l id a := by
  have hlt := (List.getElem?_eq_some_iff.1 h.res).1
  have on : onesB [vs 0, vs 1, vs 2, vs 3] = true := by
    simp [onesB, (h.kc.row 0 (by omega)).one, (h.kc.row 1 (by omega)).one, (h.kc.row 2 (by omega)).one, (h.kc.row 3 (by omega)).one]
  have hs : stA M' M.length 0 [vs 0, vs 1, vs 2, vs 3] = some (M'.set M.length ⟨.own, 26, [vs 0, vs 1, vs 2, vs 3]⟩) := by
    unfold stA
    rw [h.res]
    simp [on, putL]
  have self : (M'.set M.length ⟨.own, 26, [vs 0, vs 1, vs 2, vs 3]⟩)[M.length]? = some ⟨.own, 26, [vs 0, vs 1, vs 2, vs 3]⟩ := List.getElem?_set_self hlt
  have low : ∀ i, i ≠ M.length → (M'.set M.length ⟨.own, 26, [vs 0, vs 1, vs 2, vs 3]⟩)[i]? = M'[i]? := fun i hi => List.getElem?_set_ne (Ne.symm hi)
  have gr : ∀ M3 : Mem, (∀ i, M.length ≤ i → i < (M'.set M.length ⟨.own, 26, [vs 0, vs 1, vs 2, vs 3]⟩).length → M3[i]? = (M'.set M.length ⟨.own, 26, [vs 0, vs 1, vs 2, vs 3]⟩)[i]?) → ∀ i, i < 4 → IntsA M3 (vs i) (ls i) := fun M3 w3 i hi => by
    refine Gr.ints (r := rs i) ?_ (hl i hi)
    rcases h.kc.row i hi with h1 | ⟨h1, h2, h3⟩
    · exact .inl h1
    · have hge := (h.kc.ge i hi h2).1
      have hl3 := h3.lt
      exact .inr ⟨h1, h2, (w3 (rs i) (by omega) (by simpa using hl3)).trans ((low _ (by omega)).trans h3)⟩
  refine ⟨_, hs, ?_, ?_, ?_, ?_, ⟨hl 0 (by omega), fun M3 w3 => ⟨_, _, _, _, rfl, gr M3 w3 0 (by omega), gr M3 w3 1 (by omega), gr M3 w3 2 (by omega), gr M3 w3 3 (by omega)⟩⟩, ⟨by have := h.cw.len; simpa using this, fun i e hi => (low i (by omega)).trans (h.cw.old i e hi), fun i bk hi hb => ?_⟩, ?_⟩
  · unfold rdc; rw [self]; rfl
  · unfold rdc; rw [self]; rfl
  · unfold rdc; rw [self]; rfl
  · unfold rdc; rw [self]; rfl
  · by_cases e : i = M.length
    · subst e
      rw [self] at hb
      cases hb
      simp
    · rw [low i e] at hb
      exact h.cw.new i bk hi hb
  · obtain ⟨seed, hb⟩ := h.cur.box
    exact ⟨(low cb (by omega)).trans h.cur.code, h.cur.byte, h.cur.few, seed, (low id (by omega)).trans hb⟩
/-- A store into one of the four rows. -/
theorem St3.set {M M' : Mem} {cb id a b : Nat} {l : List Int} {vs : Nat → Value} {ls : Nat → List Int} {rs : Nat → Nat} (h : St3 M M' cb id a b l vs ls rs) (hid : id < M.length) (hcb : cb < M.length) {o : Nat} (ho : o < 4) {j : Nat} (hj : j < (ls o).length) (x : Int) : ∃ M2,
    iadA 1 (vs o) (.int .i64 (j : Int)) = some (.pointer (some ⟨rs o, j, none⟩)) ∧ stA M' (rs o) j [.int .i64 x] = some M2 ∧ St3 M M2 cb id a b l vs (up4 ls o ((ls o).set j x)) rs := by
  have hne : ls o ≠ [] := fun e => by rw [e] at hj; simp at hj
  obtain ⟨g1, g2⟩ := h.kc.ge o ho hne
  rcases h.kc.row o ho with ⟨_, h2⟩ | ⟨h1, _, h3⟩
  · exact absurd h2 hne
  · have hlt := h3.lt
    have hs : stA M' (rs o) j [.int .i64 x] = some (M'.set (rs o) (rowB ((ls o).set j x))) := by
      have := stA_at (v := .int .i64 x) h3 (off := j) (by simpa using hj) rfl
      rw [this]
      simp [rowB, List.map_set]
    have low : ∀ i, i ≠ rs o → (M'.set (rs o) (rowB ((ls o).set j x)))[i]? = M'[i]? := fun i hi => List.getElem?_set_ne (Ne.symm hi)
    refine ⟨_, ?_, hs, ⟨⟨(low b (Ne.symm g2)).trans h.kc.box, h.kc.lob, fun i hi => ?_, fun i hi hn => ?_, fun i j hi hj hij n1 n2 => ?_⟩, ⟨by have := h.cw.len; simpa using this, fun i e hi => (low i (by omega)).trans (h.cw.old i e hi), fun i bk hi hb => ?_⟩, ?_, (low _ (by omega)).trans h.res⟩⟩
    · rw [h1]
      have := iadA_in (id := rs o) (off := 0) (n := (ls o).length) (fl := 1) (sz := 1) (k := .i64) (j := j) hj
      simpa using this
    · by_cases e : i = o
      · subst e
        simp only [up4, if_true]
        refine .inr ⟨by rw [h1]; simp, by simpa using hne, ?_⟩
        unfold OwnR
        exact List.getElem?_set_self hlt
      · simp only [up4, if_neg e]
        rcases h.kc.row i hi with k1 | ⟨k1, k2, k3⟩
        · exact .inl k1
        · exact .inr ⟨k1, k2, (low _ (h.kc.ne i o hi ho e k2 hne)).trans k3⟩
    · by_cases e : i = o
      · subst e; exact ⟨g1, g2⟩
      · simp only [up4, if_neg e] at hn; exact h.kc.ge i hi hn
    · have m1 : ls i ≠ [] := by
        by_cases e : i = o
        · subst e; exact hne
        · simpa only [up4, if_neg e] using n1
      have m2 : ls j ≠ [] := by
        by_cases e : j = o
        · subst e; exact hne
        · simpa only [up4, if_neg e] using n2
      exact h.kc.ne i j hi hj hij m1 m2
    · by_cases e : i = rs o
      · subst e
        rw [List.getElem?_set_self hlt] at hb
        cases hb
        simp
      · rw [low i e] at hb
        exact h.cw.new i bk hi hb
    · obtain ⟨seed, hb⟩ := h.cur.box
      exact ⟨(low cb (by omega)).trans h.cur.code, h.cur.byte, h.cur.few, seed, (low id (by omega)).trans hb⟩
theorem someLots_ac (M : Mem) (cb id a : Nat) (l : List Int) (most : Int) (h : CurA M cb l id a) (ha : a ≤ 999000000) (hm : 0 ≤ most ∧ most ≤ 9) :
    AC Try.prog 41 [.pointer (some ⟨id, 0, none⟩), .int .i64 most] M fun r M' => ∃ k : Cs, (k.need.length ≤ 1000 ∧ Lives M.length M' r k) ∧ Cw id M M' ∧ ∃ a', a' ≤ a + 1000 ∧ CurA M' cb l id a' := by
  refine ac_of_run mixed ok_spec_l1Cur__someLots (by simp) (go_start _ _ _ ?_)
  have hid := h.lt
  simp (config := {implicitDefEqProofs := false, maxDischargeDepth := 20}) (disch := first | omega | (simp only [lenE]; done) | (simp only [lenE]; omega) | rfl | (simp only [lenE, markR_len]; done) | (simp only [lenE, markR_len]; omega)) only [runE, mapE, listE, initT_5, initT_6, initT_7, initT_8, resV, oneV, binA, unA, reduceCtorEq, Nat.reduceEqDiff, Nat.reduceAdd, Nat.reduceLT, Nat.reduceLeDiff, Nat.reduceMul, Nat.reduceSub, ↓reduceIte, decide_true, decide_false, Bool.true_eq_false, Bool.false_eq_true, Bool.not_true, Bool.not_false, if_true, if_false, and_true, true_and, memE, celE, w64, Nat.zero_add, Nat.add_zero, Nat.mul_one, putL, and_self, ldn, c_spec_l1Cur__someLots, r_spec_l1Cur__someLots, b8]
  refine callH_ac (among_new _ cb id a l [4, 5, 3, 6, 8, 2, 1, 0] (h.ext _) (by omega) (by simp) rfl (by simp) (by simp)) ?_
  rintro r M1 ⟨n0, hn0, rfl, w1, a1, ha1, k1⟩
  have hres : M1[M.length]? = some ⟨.own, 26, [.slice none 0 0, .slice none 0 0, .slice none 0 0, .slice none 0 0]⟩ := (w1.old M.length (by omega) (by simp)).trans (by simp)
  have w1 := w1.pre (noRo_own noRo_nil) hid
  have hn1 : 0 ≤ n0 ∧ n0 ≤ 8 := by simp at hn0; omega
  have l1 := w1.len
  simp (config := {implicitDefEqProofs := false, maxDischargeDepth := 20}) (disch := first | omega | (simp only [lenE]; done) | (simp only [lenE]; omega) | rfl | (simp only [lenE, markR_len]; done) | (simp only [lenE, markR_len]; omega)) only [runE, mapE, listE, initT_5, initT_6, initT_7, initT_8, resV, oneV, binA, unA, reduceCtorEq, Nat.reduceEqDiff, Nat.reduceAdd, Nat.reduceLT, Nat.reduceLeDiff, Nat.reduceMul, Nat.reduceSub, ↓reduceIte, decide_true, decide_false, Bool.true_eq_false, Bool.false_eq_true, Bool.not_true, Bool.not_false, if_true, if_false, and_true, true_and, memE, celE, w64, Nat.zero_add, Nat.add_zero, Nat.mul_one, putL, and_self, ldn]
  refine callH_rc (l1Least_rcK _ _ _) ?_
  rintro r new ⟨rfl, rfl⟩
  have bz : bldA [.slice none 0 0, .slice none 0 0, .slice none 0 0, .slice none 0 0] [] = some (.agg #[.slice none 0 0, .slice none 0 0, .slice none 0 0, .slice none 0 0]) := rfl
  simp (config := {implicitDefEqProofs := false, maxDischargeDepth := 20}) (disch := first | omega | (simp only [lenE]; done) | (simp only [lenE]; omega) | rfl | (simp only [lenE, markR_len]; done) | (simp only [lenE, markR_len]; omega)) only [runE, mapE, listE, initT_5, initT_6, initT_7, initT_8, resV, oneV, binA, unA, reduceCtorEq, Nat.reduceEqDiff, Nat.reduceAdd, Nat.reduceLT, Nat.reduceLeDiff, Nat.reduceMul, Nat.reduceSub, ↓reduceIte, decide_true, decide_false, Bool.true_eq_false, Bool.false_eq_true, Bool.not_true, Bool.not_false, if_true, if_false, and_true, true_and, memE, celE, w64, Nat.zero_add, Nat.add_zero, Nat.mul_one, putL, and_self, ldn, bz, stP_aggL]
  have hcb : cb < M.length := (List.getElem?_eq_some_iff.1 h.code).1
  have s0 : St3 M (M1 ++ [⟨.own, 26, [.slice none 0 0, .slice none 0 0, .slice none 0 0, .slice none 0 0]⟩]) cb id a1 M1.length l (fun _ => .slice none 0 0) (fun _ => []) (fun _ => 0) := by
    have hl1 := (List.getElem?_eq_some_iff.1 hres).1
    refine ⟨⟨by simp, by omega, fun i hi => .inl ⟨rfl, rfl⟩, fun i hi hne => absurd rfl hne, fun i j _ _ _ hne => absurd rfl hne⟩, w1.ext (noRo_own noRo_nil), k1.ext _, ?_⟩
    rw [List.getElem?_append_left hl1]; exact hres
  refine callH_ac (one_ac _ cb id a1 l 2 s0.cur (by omega) (by omega) (by omega)) ?_
  rintro r M2 ⟨same, rfl, w2, a2, ha2, k2⟩
  have s1 := s0.draw hid w2 k2
  simp (config := {implicitDefEqProofs := false, maxDischargeDepth := 20}) (disch := first | omega | (simp only [lenE]; done) | (simp only [lenE]; omega) | rfl | (simp only [lenE, markR_len]; done) | (simp only [lenE, markR_len]; omega)) only [runE, mapE, listE, initT_5, initT_6, initT_7, initT_8, resV, oneV, binA, unA, reduceCtorEq, Nat.reduceEqDiff, Nat.reduceAdd, Nat.reduceLT, Nat.reduceLeDiff, Nat.reduceMul, Nat.reduceSub, ↓reduceIte, decide_true, decide_false, Bool.true_eq_false, Bool.false_eq_true, Bool.not_true, Bool.not_false, if_true, if_false, and_true, true_and, memE, celE, w64, Nat.zero_add, Nat.add_zero, Nat.mul_one, putL, and_self, ldn, b6a]
  refine callH_ac (among_new M2 cb id a2 l [0, 3, 5, 8, 12, 20] k2 (by omega) rfl rfl (by simp) (by simp)) ?_
  rintro r M3 ⟨x0, hx0, rfl, w3, a3, ha3, k3⟩
  have s2 := s1.draw hid w3 k3
  simp (config := {implicitDefEqProofs := false, maxDischargeDepth := 20}) (disch := first | omega | (simp only [lenE]; done) | (simp only [lenE]; omega) | rfl | (simp only [lenE, markR_len]; done) | (simp only [lenE, markR_len]; omega)) only [runE, mapE, listE, initT_5, initT_6, initT_7, initT_8, resV, oneV, binA, unA, reduceCtorEq, Nat.reduceEqDiff, Nat.reduceAdd, Nat.reduceLT, Nat.reduceLeDiff, Nat.reduceMul, Nat.reduceSub, ↓reduceIte, decide_true, decide_false, Bool.true_eq_false, Bool.false_eq_true, Bool.not_true, Bool.not_false, if_true, if_false, and_true, true_and, memE, celE, w64, Nat.zero_add, Nat.add_zero, Nat.mul_one, putL, and_self, ldn]
  refine callH_ac (pick_ac M3 cb id a3 l 3 k3 (by omega) (by omega) (by omega)) ?_
  rintro r M4 ⟨x1, rfl, p1, p2, w4, a4, ha4, k4⟩
  have s3 := s2.draw hid w4 k4
  simp (config := {implicitDefEqProofs := false, maxDischargeDepth := 20}) (disch := first | omega | (simp only [lenE]; done) | (simp only [lenE]; omega) | rfl | (simp only [lenE, markR_len]; done) | (simp only [lenE, markR_len]; omega)) only [runE, mapE, listE, initT_5, initT_6, initT_7, initT_8, resV, oneV, binA, unA, reduceCtorEq, Nat.reduceEqDiff, Nat.reduceAdd, Nat.reduceLT, Nat.reduceLeDiff, Nat.reduceMul, Nat.reduceSub, ↓reduceIte, decide_true, decide_false, Bool.true_eq_false, Bool.false_eq_true, Bool.not_true, Bool.not_false, if_true, if_false, and_true, true_and, memE, celE, w64, Nat.zero_add, Nat.add_zero, Nat.mul_one, putL, and_self, ldn]
  refine callH_ac (pick_ac M4 cb id a4 l 2 k4 (by omega) (by omega) (by omega)) ?_
  rintro r M5 ⟨x2, rfl, p3, p4, w5, a5, ha5, k5⟩
  have s4 := s3.draw hid w5 k5
  simp (config := {implicitDefEqProofs := false, maxDischargeDepth := 20}) (disch := first | omega | (simp only [lenE]; done) | (simp only [lenE]; omega) | rfl | (simp only [lenE, markR_len]; done) | (simp only [lenE, markR_len]; omega)) only [runE, mapE, listE, initT_5, initT_6, initT_7, initT_8, resV, oneV, binA, unA, reduceCtorEq, Nat.reduceEqDiff, Nat.reduceAdd, Nat.reduceLT, Nat.reduceLeDiff, Nat.reduceMul, Nat.reduceSub, ↓reduceIte, decide_true, decide_false, Bool.true_eq_false, Bool.false_eq_true, Bool.not_true, Bool.not_false, if_true, if_false, and_true, true_and, memE, celE, w64, Nat.zero_add, Nat.add_zero, Nat.mul_one, putL, and_self, ldn]
  obtain ⟨N, hN⟩ : ∃ N, N = min n0 most := ⟨_, rfl⟩
  rw [← hN]
  refine loop_inv mixed (fun s => ∃ (t : Nat) (Mx : Mem) (vs : Nat → Value) (ls : Nat → List Int) (rs : Nat → Nat) (su un hl : Int) (ax : Nat), (t : Int) ≤ N ∧ St3 M Mx cb id ax M1.length l vs ls rs ∧ (∀ i, i < 4 → (ls i).length = t) ∧ ax ≤ a5 + 10 * t ∧
      s.t 0 = .pointer (some ⟨id, 0, none⟩) ∧ s.t 4 = .pointer (some ⟨M.length, 0, none⟩) ∧ s.t 5 = .int .i64 N ∧ s.t 6 = .pointer (some ⟨M1.length, 0, none⟩) ∧ s.t 7 = .bool same ∧ s.t 8 = .int .i64 su ∧ s.t 9 = .int .i64 un ∧ s.t 10 = .int .i64 hl ∧ s.t 11 = .int .i64 (t : Int) ∧ s.m = Mx)
      (fun s => (N - intOf (s.t 11)).toNat)
    ⟨0, M5, _, _, _, x0, x1, _, a5, by omega, s4, fun i hi => rfl, by omega, rfl, rfl, by simp only [put_t, put_t', put_m, putT_t, putT_t', putT_m, init_t, init_m, initT_0, initT_1, initT_2, initT_3, initT_4, initT_5, initT_6, initT_7, initT_8, Nat.reduceEqDiff, ↓reduceIte], rfl, rfl, rfl, rfl, rfl, rfl, rfl⟩ ?_
  rintro s ⟨t, Mx, vs, ls, rs, su, un, hl, ax, ht, st, hlen, hax, t0, t4, t5, t6, t7, t8, t9, t10, t11, tm⟩
  obtain ⟨q0, q1, q2, q3⟩ := st.rd
  have hbx := (List.getElem?_eq_some_iff.1 st.kc.box).1
  by_cases hlt : (t : Int) < N
  · cases same with
    | true =>
      simp (config := {implicitDefEqProofs := false, maxDischargeDepth := 20}) (disch := first | omega | (simp only [lenE]; done) | (simp only [lenE]; omega) | rfl | (simp only [lenE, markR_len]; done) | (simp only [lenE, markR_len]; omega)) only [runE, mapE, listE, initT_5, initT_6, initT_7, initT_8, resV, oneV, binA, unA, reduceCtorEq, Nat.reduceEqDiff, Nat.reduceAdd, Nat.reduceLT, Nat.reduceLeDiff, Nat.reduceMul, Nat.reduceSub, ↓reduceIte, decide_true, decide_false, Bool.true_eq_false, Bool.false_eq_true, Bool.not_true, Bool.not_false, if_true, if_false, and_true, true_and, memE, celE, w64, Nat.zero_add, Nat.add_zero, Nat.mul_one, putL, and_self, ldn, t0, t4, t5, t6, t7, t8, t9, t10, t11, tm, hlt, q0, b6c]
      refine ⟨?_, ?_, ?_⟩
      all_goals
        refine callH_ac (among_new Mx cb id ax l [0, 1, 2, 3, 5, 8] st.cur (by omega) rfl rfl (by simp) (by simp)) ?_
        rintro r My ⟨y, hy, rfl, wy, ay, hay, ky⟩
        have st1 := st.draw hid wy ky
        obtain ⟨q0, -, -, -⟩ := st1.rd
        obtain ⟨A1, A2, e1, e2, sa⟩ := st1.app hid hcb (o := 0) (by omega) (by rw [hlen 0 (by omega)]; omega) y
        have p1 : rdc A2 M1.length 1 = some (vs 1) := sa.rd.2.1
        obtain ⟨B1, B2, f1, f2, sb⟩ := sa.app hid hcb (o := 1) (by omega) (by show (ls 1).length ≤ 1000; rw [hlen 1 (by omega)]; omega) su
        have p2 : rdc B2 M1.length 2 = some (vs 2) := sb.rd.2.2.1
        obtain ⟨C1, C2, g1, g2, sc⟩ := sb.app hid hcb (o := 2) (by omega) (by show (ls 2).length ≤ 1000; rw [hlen 2 (by omega)]; omega) un
        have p3 : rdc C2 M1.length 3 = some (vs 3) := sc.rd.2.2.2
        obtain ⟨D1, D2, k1', k2', sd⟩ := sc.app hid hcb (o := 3) (by omega) (by show (ls 3).length ≤ 1000; rw [hlen 3 (by omega)]; omega) hl
        have f1 : appP (A2 ++ [⟨.own, 3, [.int .i64 su]⟩]) 3 1 8 (vs 1) (.slice (some ⟨A2.length, 0, none⟩) 1 1) = some (.slice (some ⟨A2.length + 1, 0, none⟩) ((ls 1).length + 1) 1, B1) := f1
        have f2 : stA B1 M1.length 1 [.slice (some ⟨A2.length + 1, 0, none⟩) ((ls 1).length + 1) 1] = some B2 := f2
        have g1 : appP (B2 ++ [⟨.own, 3, [.int .i64 un]⟩]) 3 1 8 (vs 2) (.slice (some ⟨B2.length, 0, none⟩) 1 1) = some (.slice (some ⟨B2.length + 1, 0, none⟩) ((ls 2).length + 1) 1, C1) := g1
        have g2 : stA C1 M1.length 2 [.slice (some ⟨B2.length + 1, 0, none⟩) ((ls 2).length + 1) 1] = some C2 := g2
        have k1' : appP (C2 ++ [⟨.own, 3, [.int .i64 hl]⟩]) 3 1 8 (vs 3) (.slice (some ⟨C2.length, 0, none⟩) 1 1) = some (.slice (some ⟨C2.length + 1, 0, none⟩) ((ls 3).length + 1) 1, D1) := k1'
        have k2' : stA D1 M1.length 3 [.slice (some ⟨C2.length + 1, 0, none⟩) ((ls 3).length + 1) 1] = some D2 := k2'
        simp (config := {implicitDefEqProofs := false, maxDischargeDepth := 20}) (disch := first | omega | (simp only [lenE]; done) | (simp only [lenE]; omega) | rfl | (simp only [lenE, markR_len]; done) | (simp only [lenE, markR_len]; omega)) only [runE, mapE, listE, initT_5, initT_6, initT_7, initT_8, resV, oneV, binA, unA, reduceCtorEq, Nat.reduceEqDiff, Nat.reduceAdd, Nat.reduceLT, Nat.reduceLeDiff, Nat.reduceMul, Nat.reduceSub, ↓reduceIte, decide_true, decide_false, Bool.true_eq_false, Bool.false_eq_true, Bool.not_true, Bool.not_false, if_true, if_false, and_true, true_and, memE, celE, w64, Nat.zero_add, Nat.add_zero, Nat.mul_one, putL, and_self, ldn, t0, t4, t5, t6, t7, t8, t9, t10, t11, q0, b1, e1, e2, p1, f1, f2, p2, g1, g2, p3, k1', k2']
        refine ⟨⟨t + 1, D2, _, _, _, su, un, hl, ay, by omega, sd, fun i hi => ?_, by omega, rfl, rfl, rfl, by simp, rfl⟩, by simp only [intOf]; omega⟩
        match i, hi with
        | 0, _ => show (ls 0 ++ [y]).length = t + 1; rw [List.length_append, hlen 0 (by omega)]; rfl
        | 1, _ => show (ls 1 ++ [su]).length = t + 1; rw [List.length_append, hlen 1 (by omega)]; rfl
        | 2, _ => show (ls 2 ++ [un]).length = t + 1; rw [List.length_append, hlen 2 (by omega)]; rfl
        | 3, _ => show (ls 3 ++ [hl]).length = t + 1; rw [List.length_append, hlen 3 (by omega)]; rfl
    | false =>
      simp (config := {implicitDefEqProofs := false, maxDischargeDepth := 20}) (disch := first | omega | (simp only [lenE]; done) | (simp only [lenE]; omega) | rfl | (simp only [lenE, markR_len]; done) | (simp only [lenE, markR_len]; omega)) only [runE, mapE, listE, initT_5, initT_6, initT_7, initT_8, resV, oneV, binA, unA, reduceCtorEq, Nat.reduceEqDiff, Nat.reduceAdd, Nat.reduceLT, Nat.reduceLeDiff, Nat.reduceMul, Nat.reduceSub, ↓reduceIte, decide_true, decide_false, Bool.true_eq_false, Bool.false_eq_true, Bool.not_true, Bool.not_false, if_true, if_false, and_true, true_and, memE, celE, w64, Nat.zero_add, Nat.add_zero, Nat.mul_one, putL, and_self, ldn, t0, t4, t5, t6, t7, t8, t9, t10, t11, tm, hlt, b6b]
      refine callH_ac (among_new Mx cb id ax l [0, 2, 5, 9, 14, 30] st.cur (by omega) rfl rfl (by simp) (by simp)) ?_
      rintro r M6 ⟨y1, hy1, rfl, w6, a6, ha6, k6⟩
      have s6 := st.draw hid w6 k6
      simp (config := {implicitDefEqProofs := false, maxDischargeDepth := 20}) (disch := first | omega | (simp only [lenE]; done) | (simp only [lenE]; omega) | rfl | (simp only [lenE, markR_len]; done) | (simp only [lenE, markR_len]; omega)) only [runE, mapE, listE, initT_5, initT_6, initT_7, initT_8, resV, oneV, binA, unA, reduceCtorEq, Nat.reduceEqDiff, Nat.reduceAdd, Nat.reduceLT, Nat.reduceLeDiff, Nat.reduceMul, Nat.reduceSub, ↓reduceIte, decide_true, decide_false, Bool.true_eq_false, Bool.false_eq_true, Bool.not_true, Bool.not_false, if_true, if_false, and_true, true_and, memE, celE, w64, Nat.zero_add, Nat.add_zero, Nat.mul_one, putL, and_self, ldn, t0]
      refine callH_ac (pick_ac M6 cb id a6 l 5 k6 (by omega) (by omega) (by omega)) ?_
      rintro r M7 ⟨y2, rfl, -, -, w7, a7, ha7, k7⟩
      have s7 := s6.draw hid w7 k7
      simp (config := {implicitDefEqProofs := false, maxDischargeDepth := 20}) (disch := first | omega | (simp only [lenE]; done) | (simp only [lenE]; omega) | rfl | (simp only [lenE, markR_len]; done) | (simp only [lenE, markR_len]; omega)) only [runE, mapE, listE, initT_5, initT_6, initT_7, initT_8, resV, oneV, binA, unA, reduceCtorEq, Nat.reduceEqDiff, Nat.reduceAdd, Nat.reduceLT, Nat.reduceLeDiff, Nat.reduceMul, Nat.reduceSub, ↓reduceIte, decide_true, decide_false, Bool.true_eq_false, Bool.false_eq_true, Bool.not_true, Bool.not_false, if_true, if_false, and_true, true_and, memE, celE, w64, Nat.zero_add, Nat.add_zero, Nat.mul_one, putL, and_self, ldn, t0]
      refine callH_ac (pick_ac M7 cb id a7 l 4 k7 (by omega) (by omega) (by omega)) ?_
      rintro r M8 ⟨y3, rfl, -, -, w8, a8, ha8, k8⟩
      have s8 := s7.draw hid w8 k8
      obtain ⟨q0, q1, q2, q3⟩ := s8.rd
      have hbx := (List.getElem?_eq_some_iff.1 s8.kc.box).1
      simp (config := {implicitDefEqProofs := false, maxDischargeDepth := 20}) (disch := first | omega | (simp only [lenE]; done) | (simp only [lenE]; omega) | rfl | (simp only [lenE, markR_len]; done) | (simp only [lenE, markR_len]; omega)) only [runE, mapE, listE, initT_5, initT_6, initT_7, initT_8, resV, oneV, binA, unA, reduceCtorEq, Nat.reduceEqDiff, Nat.reduceAdd, Nat.reduceLT, Nat.reduceLeDiff, Nat.reduceMul, Nat.reduceSub, ↓reduceIte, decide_true, decide_false, Bool.true_eq_false, Bool.false_eq_true, Bool.not_true, Bool.not_false, if_true, if_false, and_true, true_and, memE, celE, w64, Nat.zero_add, Nat.add_zero, Nat.mul_one, putL, and_self, ldn, t0, t4, t5, t6, t7, t11, q0, b6c]
      refine ⟨?_, ?_, ?_⟩
      all_goals
        refine callH_ac (among_new M8 cb id a8 l [0, 1, 2, 3, 5, 8] s8.cur (by omega) rfl rfl (by simp) (by simp)) ?_
        rintro r My ⟨y, hy, rfl, wy, ay, hay, ky⟩
        have st1 := s8.draw hid wy ky
        obtain ⟨q0, -, -, -⟩ := st1.rd
        obtain ⟨A1, A2, e1, e2, sa⟩ := st1.app hid hcb (o := 0) (by omega) (by rw [hlen 0 (by omega)]; omega) y
        have p1 : rdc A2 M1.length 1 = some (vs 1) := sa.rd.2.1
        obtain ⟨B1, B2, f1, f2, sb⟩ := sa.app hid hcb (o := 1) (by omega) (by show (ls 1).length ≤ 1000; rw [hlen 1 (by omega)]; omega) y1
        have p2 : rdc B2 M1.length 2 = some (vs 2) := sb.rd.2.2.1
        obtain ⟨C1, C2, g1, g2, sc⟩ := sb.app hid hcb (o := 2) (by omega) (by show (ls 2).length ≤ 1000; rw [hlen 2 (by omega)]; omega) y2
        have p3 : rdc C2 M1.length 3 = some (vs 3) := sc.rd.2.2.2
        obtain ⟨D1, D2, k1', k2', sd⟩ := sc.app hid hcb (o := 3) (by omega) (by show (ls 3).length ≤ 1000; rw [hlen 3 (by omega)]; omega) y3
        have f1 : appP (A2 ++ [⟨.own, 3, [.int .i64 y1]⟩]) 3 1 8 (vs 1) (.slice (some ⟨A2.length, 0, none⟩) 1 1) = some (.slice (some ⟨A2.length + 1, 0, none⟩) ((ls 1).length + 1) 1, B1) := f1
        have f2 : stA B1 M1.length 1 [.slice (some ⟨A2.length + 1, 0, none⟩) ((ls 1).length + 1) 1] = some B2 := f2
        have g1 : appP (B2 ++ [⟨.own, 3, [.int .i64 y2]⟩]) 3 1 8 (vs 2) (.slice (some ⟨B2.length, 0, none⟩) 1 1) = some (.slice (some ⟨B2.length + 1, 0, none⟩) ((ls 2).length + 1) 1, C1) := g1
        have g2 : stA C1 M1.length 2 [.slice (some ⟨B2.length + 1, 0, none⟩) ((ls 2).length + 1) 1] = some C2 := g2
        have k1' : appP (C2 ++ [⟨.own, 3, [.int .i64 y3]⟩]) 3 1 8 (vs 3) (.slice (some ⟨C2.length, 0, none⟩) 1 1) = some (.slice (some ⟨C2.length + 1, 0, none⟩) ((ls 3).length + 1) 1, D1) := k1'
        have k2' : stA D1 M1.length 3 [.slice (some ⟨C2.length + 1, 0, none⟩) ((ls 3).length + 1) 1] = some D2 := k2'
        simp (config := {implicitDefEqProofs := false, maxDischargeDepth := 20}) (disch := first | omega | (simp only [lenE]; done) | (simp only [lenE]; omega) | rfl | (simp only [lenE, markR_len]; done) | (simp only [lenE, markR_len]; omega)) only [runE, mapE, listE, initT_5, initT_6, initT_7, initT_8, resV, oneV, binA, unA, reduceCtorEq, Nat.reduceEqDiff, Nat.reduceAdd, Nat.reduceLT, Nat.reduceLeDiff, Nat.reduceMul, Nat.reduceSub, ↓reduceIte, decide_true, decide_false, Bool.true_eq_false, Bool.false_eq_true, Bool.not_true, Bool.not_false, if_true, if_false, and_true, true_and, memE, celE, w64, Nat.zero_add, Nat.add_zero, Nat.mul_one, putL, and_self, ldn, t0, t4, t5, t6, t7, t8, t9, t10, t11, q0, b1, e1, e2, p1, f1, f2, p2, g1, g2, p3, k1', k2']
        refine ⟨⟨t + 1, D2, _, _, _, y1, y2, y3, ay, by omega, sd, fun i hi => ?_, by omega, rfl, rfl, rfl, by simp, rfl⟩, by simp only [intOf]; omega⟩
        match i, hi with
        | 0, _ => show (ls 0 ++ [y]).length = t + 1; rw [List.length_append, hlen 0 (by omega)]; rfl
        | 1, _ => show (ls 1 ++ [y1]).length = t + 1; rw [List.length_append, hlen 1 (by omega)]; rfl
        | 2, _ => show (ls 2 ++ [y2]).length = t + 1; rw [List.length_append, hlen 2 (by omega)]; rfl
        | 3, _ => show (ls 3 ++ [y3]).length = t + 1; rw [List.length_append, hlen 3 (by omega)]; rfl
  · simp (config := {implicitDefEqProofs := false, maxDischargeDepth := 20}) (disch := first | omega | (simp only [lenE]; done) | (simp only [lenE]; omega) | rfl | (simp only [lenE, markR_len]; done) | (simp only [lenE, markR_len]; omega)) only [runE, mapE, listE, initT_5, initT_6, initT_7, initT_8, resV, oneV, binA, unA, reduceCtorEq, Nat.reduceEqDiff, Nat.reduceAdd, Nat.reduceLT, Nat.reduceLeDiff, Nat.reduceMul, Nat.reduceSub, ↓reduceIte, decide_true, decide_false, Bool.true_eq_false, Bool.false_eq_true, Bool.not_true, Bool.not_false, if_true, if_false, and_true, true_and, memE, celE, w64, Nat.zero_add, Nat.add_zero, Nat.mul_one, putL, and_self, ldn, t5, t11, tm, hlt]
    by_cases hN0 : N > 0
    · simp (config := {implicitDefEqProofs := false, maxDischargeDepth := 20}) (disch := first | omega | (simp only [lenE]; done) | (simp only [lenE]; omega) | rfl | (simp only [lenE, markR_len]; done) | (simp only [lenE, markR_len]; omega)) only [runE, mapE, listE, initT_5, initT_6, initT_7, initT_8, resV, oneV, binA, unA, reduceCtorEq, Nat.reduceEqDiff, Nat.reduceAdd, Nat.reduceLT, Nat.reduceLeDiff, Nat.reduceMul, Nat.reduceSub, ↓reduceIte, decide_true, decide_false, Bool.true_eq_false, Bool.false_eq_true, Bool.not_true, Bool.not_false, if_true, if_false, and_true, true_and, memE, celE, w64, Nat.zero_add, Nat.add_zero, Nat.mul_one, putL, and_self, ldn, hN0, t0, t5, tm]
      refine callH_ac (pick_ac Mx cb id ax l N st.cur (by omega) (by omega) (by omega)) ?_
      rintro r M6 ⟨jz, rfl, j1, j2, w6, a6, ha6, k6⟩
      obtain ⟨jn, rfl⟩ : ∃ jn : Nat, jz = (jn : Int) := ⟨jz.toNat, by omega⟩
      have s6 := st.draw hid w6 k6
      simp (config := {implicitDefEqProofs := false, maxDischargeDepth := 20}) (disch := first | omega | (simp only [lenE]; done) | (simp only [lenE]; omega) | rfl | (simp only [lenE, markR_len]; done) | (simp only [lenE, markR_len]; omega)) only [runE, mapE, listE, initT_5, initT_6, initT_7, initT_8, resV, oneV, binA, unA, reduceCtorEq, Nat.reduceEqDiff, Nat.reduceAdd, Nat.reduceLT, Nat.reduceLeDiff, Nat.reduceMul, Nat.reduceSub, ↓reduceIte, decide_true, decide_false, Bool.true_eq_false, Bool.false_eq_true, Bool.not_true, Bool.not_false, if_true, if_false, and_true, true_and, memE, celE, w64, Nat.zero_add, Nat.add_zero, Nat.mul_one, putL, and_self, ldn, t0]
      refine callH_ac (pick_ac M6 cb id a6 l 60 k6 (by omega) (by omega) (by omega)) ?_
      rintro r M7 ⟨x, rfl, -, -, w7, a7, ha7, k7⟩
      have s7 := s6.draw hid w7 k7
      obtain ⟨q0, q1, q2, q3⟩ := s7.rd
      have hbx := (List.getElem?_eq_some_iff.1 s7.kc.box).1
      have ht' : (t : Int) = N := by omega
      have len0 : ∀ y : Int, ∀ i, i < 4 → (up4 ls 0 ((ls 0).set jn y) i).length ≤ 1000 := fun y i hi => by
        by_cases e : i = 0
        · subst e; simp only [up4, if_true, List.length_set]; rw [hlen 0 (by omega)]; omega
        · simp only [up4, if_neg e]; rw [hlen i hi]; omega
      have len1 : ∀ y : Int, ∀ i, i < 4 → (up4 ls 1 ((ls 1).set jn y) i).length ≤ 1000 := fun y i hi => by
        by_cases e : i = 1
        · subst e; simp only [up4, if_true, List.length_set]; rw [hlen 1 (by omega)]; omega
        · simp only [up4, if_neg e]; rw [hlen i hi]; omega
      have len2 : ∀ y : Int, ∀ i, i < 4 → (up4 ls 2 ((ls 2).set jn y) i).length ≤ 1000 := fun y i hi => by
        by_cases e : i = 2
        · subst e; simp only [up4, if_true, List.length_set]; rw [hlen 2 (by omega)]; omega
        · simp only [up4, if_neg e]; rw [hlen i hi]; omega
      have len3 : ∀ y : Int, ∀ i, i < 4 → (up4 ls 3 ((ls 3).set jn y) i).length ≤ 1000 := fun y i hi => by
        by_cases e : i = 3
        · subst e; simp only [up4, if_true, List.length_set]; rw [hlen 3 (by omega)]; omega
        · simp only [up4, if_neg e]; rw [hlen i hi]; omega
      have ne : ∀ c : Int, x ≠ c → (x == c) = false := fun c h => by simpa using h
      have te : ∀ c : Int, (c == c) = true := fun c => by simp
      by_cases x0 : x = 0
      · have xe0 : (x == 0) = true := by rw [x0]; rfl
        simp (config := {implicitDefEqProofs := false, maxDischargeDepth := 20}) (disch := first | omega | (simp only [lenE]; done) | (simp only [lenE]; omega) | rfl | (simp only [lenE, markR_len]; done) | (simp only [lenE, markR_len]; omega)) only [runE, mapE, listE, initT_5, initT_6, initT_7, initT_8, resV, oneV, binA, unA, reduceCtorEq, Nat.reduceEqDiff, Nat.reduceAdd, Nat.reduceLT, Nat.reduceLeDiff, Nat.reduceMul, Nat.reduceSub, ↓reduceIte, decide_true, decide_false, Bool.true_eq_false, Bool.false_eq_true, Bool.not_true, Bool.not_false, if_true, if_false, and_true, true_and, memE, celE, w64, Nat.zero_add, Nat.add_zero, Nat.mul_one, putL, and_self, ldn, t0, t4, t5, t6, xe0, b4a, q0, q1, q2, q3]
        refine ⟨?_, ?_, ?_⟩
        all_goals
          refine callH_ac (among_new M7 cb id a7 l [-1, 20, 21, 4611686018427387904] s7.cur (by omega) rfl rfl (by simp) (by simp)) ?_
          rintro r My ⟨y, hy, rfl, wy, ay, hay, ky⟩
          have s8 := s7.draw hid wy ky
          obtain ⟨q0, q1, q2, q3⟩ := s8.rd
          obtain ⟨M8, i1, i2, s9⟩ := s8.set hid hcb (o := 0) (by omega) (j := jn) (by rw [hlen 0 (by omega)]; omega) y
          obtain ⟨r0, r1, r2, r3⟩ := s9.rd
          obtain ⟨M9, m1, u0, u1, u2, u3, m2, m3, m4⟩ := s9.fin hid hcb (len0 y)
          simp (config := {implicitDefEqProofs := false, maxDischargeDepth := 20}) (disch := first | omega | (simp only [lenE]; done) | (simp only [lenE]; omega) | rfl | (simp only [lenE, markR_len]; done) | (simp only [lenE, markR_len]; omega)) only [runE, mapE, listE, initT_5, initT_6, initT_7, initT_8, resV, oneV, binA, unA, reduceCtorEq, Nat.reduceEqDiff, Nat.reduceAdd, Nat.reduceLT, Nat.reduceLeDiff, Nat.reduceMul, Nat.reduceSub, ↓reduceIte, decide_true, decide_false, Bool.true_eq_false, Bool.false_eq_true, Bool.not_true, Bool.not_false, if_true, if_false, and_true, true_and, memE, celE, w64, Nat.zero_add, Nat.add_zero, Nat.mul_one, putL, and_self, ldn, t0, t4, t5, t6, q0, q1, q2, q3, i1, i2, r0, r1, r2, r3, stP_aggL, m1, u0, u1, u2, u3]
          exact ⟨⟨_, _, _, _⟩, ⟨m2.1, m2.2⟩, m3, ay, by omega, m4⟩
      by_cases x1 : x = 1
      · have xe1 : (x == 1) = true := by rw [x1]; rfl
        simp (config := {implicitDefEqProofs := false, maxDischargeDepth := 20}) (disch := first | omega | (simp only [lenE]; done) | (simp only [lenE]; omega) | rfl | (simp only [lenE, markR_len]; done) | (simp only [lenE, markR_len]; omega)) only [runE, mapE, listE, initT_5, initT_6, initT_7, initT_8, resV, oneV, binA, unA, reduceCtorEq, Nat.reduceEqDiff, Nat.reduceAdd, Nat.reduceLT, Nat.reduceLeDiff, Nat.reduceMul, Nat.reduceSub, ↓reduceIte, decide_true, decide_false, Bool.true_eq_false, Bool.false_eq_true, Bool.not_true, Bool.not_false, if_true, if_false, and_true, true_and, memE, celE, w64, Nat.zero_add, Nat.add_zero, Nat.mul_one, putL, and_self, ldn, t0, t4, t5, t6, ne 0 x0, xe1, b3a, q0, q1, q2, q3]
        refine ⟨?_, ?_, ?_⟩
        all_goals
          refine callH_ac (among_new M7 cb id a7 l [-1, 99, 100] s7.cur (by omega) rfl rfl (by simp) (by simp)) ?_
          rintro r My ⟨y, hy, rfl, wy, ay, hay, ky⟩
          have s8 := s7.draw hid wy ky
          obtain ⟨q0, q1, q2, q3⟩ := s8.rd
          obtain ⟨M8, i1, i2, s9⟩ := s8.set hid hcb (o := 1) (by omega) (j := jn) (by rw [hlen 1 (by omega)]; omega) y
          obtain ⟨r0, r1, r2, r3⟩ := s9.rd
          obtain ⟨M9, m1, u0, u1, u2, u3, m2, m3, m4⟩ := s9.fin hid hcb (len1 y)
          simp (config := {implicitDefEqProofs := false, maxDischargeDepth := 20}) (disch := first | omega | (simp only [lenE]; done) | (simp only [lenE]; omega) | rfl | (simp only [lenE, markR_len]; done) | (simp only [lenE, markR_len]; omega)) only [runE, mapE, listE, initT_5, initT_6, initT_7, initT_8, resV, oneV, binA, unA, reduceCtorEq, Nat.reduceEqDiff, Nat.reduceAdd, Nat.reduceLT, Nat.reduceLeDiff, Nat.reduceMul, Nat.reduceSub, ↓reduceIte, decide_true, decide_false, Bool.true_eq_false, Bool.false_eq_true, Bool.not_true, Bool.not_false, if_true, if_false, and_true, true_and, memE, celE, w64, Nat.zero_add, Nat.add_zero, Nat.mul_one, putL, and_self, ldn, t0, t4, t5, t6, q0, q1, q2, q3, i1, i2, r0, r1, r2, r3, stP_aggL, m1, u0, u1, u2, u3]
          exact ⟨⟨_, _, _, _⟩, ⟨m2.1, m2.2⟩, m3, ay, by omega, m4⟩
      by_cases x2 : x = 2
      · have xe2 : (x == 2) = true := by rw [x2]; rfl
        simp (config := {implicitDefEqProofs := false, maxDischargeDepth := 20}) (disch := first | omega | (simp only [lenE]; done) | (simp only [lenE]; omega) | rfl | (simp only [lenE, markR_len]; done) | (simp only [lenE, markR_len]; omega)) only [runE, mapE, listE, initT_5, initT_6, initT_7, initT_8, resV, oneV, binA, unA, reduceCtorEq, Nat.reduceEqDiff, Nat.reduceAdd, Nat.reduceLT, Nat.reduceLeDiff, Nat.reduceMul, Nat.reduceSub, ↓reduceIte, decide_true, decide_false, Bool.true_eq_false, Bool.false_eq_true, Bool.not_true, Bool.not_false, if_true, if_false, and_true, true_and, memE, celE, w64, Nat.zero_add, Nat.add_zero, Nat.mul_one, putL, and_self, ldn, t0, t4, t5, t6, ne 0 x0, ne 1 x1, xe2, b3b, q0, q1, q2, q3]
        refine ⟨?_, ?_, ?_⟩
        all_goals
          refine callH_ac (among_new M7 cb id a7 l [-1, 9, 10] s7.cur (by omega) rfl rfl (by simp) (by simp)) ?_
          rintro r My ⟨y, hy, rfl, wy, ay, hay, ky⟩
          have s8 := s7.draw hid wy ky
          obtain ⟨q0, q1, q2, q3⟩ := s8.rd
          obtain ⟨M8, i1, i2, s9⟩ := s8.set hid hcb (o := 2) (by omega) (j := jn) (by rw [hlen 2 (by omega)]; omega) y
          obtain ⟨r0, r1, r2, r3⟩ := s9.rd
          obtain ⟨M9, m1, u0, u1, u2, u3, m2, m3, m4⟩ := s9.fin hid hcb (len2 y)
          simp (config := {implicitDefEqProofs := false, maxDischargeDepth := 20}) (disch := first | omega | (simp only [lenE]; done) | (simp only [lenE]; omega) | rfl | (simp only [lenE, markR_len]; done) | (simp only [lenE, markR_len]; omega)) only [runE, mapE, listE, initT_5, initT_6, initT_7, initT_8, resV, oneV, binA, unA, reduceCtorEq, Nat.reduceEqDiff, Nat.reduceAdd, Nat.reduceLT, Nat.reduceLeDiff, Nat.reduceMul, Nat.reduceSub, ↓reduceIte, decide_true, decide_false, Bool.true_eq_false, Bool.false_eq_true, Bool.not_true, Bool.not_false, if_true, if_false, and_true, true_and, memE, celE, w64, Nat.zero_add, Nat.add_zero, Nat.mul_one, putL, and_self, ldn, t0, t4, t5, t6, q0, q1, q2, q3, i1, i2, r0, r1, r2, r3, stP_aggL, m1, u0, u1, u2, u3]
          exact ⟨⟨_, _, _, _⟩, ⟨m2.1, m2.2⟩, m3, ay, by omega, m4⟩
      by_cases x3 : x = 3
      · have xe3 : (x == 3) = true := by rw [x3]; rfl
        simp (config := {implicitDefEqProofs := false, maxDischargeDepth := 20}) (disch := first | omega | (simp only [lenE]; done) | (simp only [lenE]; omega) | rfl | (simp only [lenE, markR_len]; done) | (simp only [lenE, markR_len]; omega)) only [runE, mapE, listE, initT_5, initT_6, initT_7, initT_8, resV, oneV, binA, unA, reduceCtorEq, Nat.reduceEqDiff, Nat.reduceAdd, Nat.reduceLT, Nat.reduceLeDiff, Nat.reduceMul, Nat.reduceSub, ↓reduceIte, decide_true, decide_false, Bool.true_eq_false, Bool.false_eq_true, Bool.not_true, Bool.not_false, if_true, if_false, and_true, true_and, memE, celE, w64, Nat.zero_add, Nat.add_zero, Nat.mul_one, putL, and_self, ldn, t0, t4, t5, t6, ne 0 x0, ne 1 x1, ne 2 x2, xe3, b3b, q0, q1, q2, q3]
        refine ⟨?_, ?_, ?_⟩
        all_goals
          refine callH_ac (among_new M7 cb id a7 l [-1, 9, 10] s7.cur (by omega) rfl rfl (by simp) (by simp)) ?_
          rintro r My ⟨y, hy, rfl, wy, ay, hay, ky⟩
          have s8 := s7.draw hid wy ky
          obtain ⟨q0, q1, q2, q3⟩ := s8.rd
          obtain ⟨M8, i1, i2, s9⟩ := s8.set hid hcb (o := 3) (by omega) (j := jn) (by rw [hlen 3 (by omega)]; omega) y
          obtain ⟨r0, r1, r2, r3⟩ := s9.rd
          obtain ⟨M9, m1, u0, u1, u2, u3, m2, m3, m4⟩ := s9.fin hid hcb (len3 y)
          simp (config := {implicitDefEqProofs := false, maxDischargeDepth := 20}) (disch := first | omega | (simp only [lenE]; done) | (simp only [lenE]; omega) | rfl | (simp only [lenE, markR_len]; done) | (simp only [lenE, markR_len]; omega)) only [runE, mapE, listE, initT_5, initT_6, initT_7, initT_8, resV, oneV, binA, unA, reduceCtorEq, Nat.reduceEqDiff, Nat.reduceAdd, Nat.reduceLT, Nat.reduceLeDiff, Nat.reduceMul, Nat.reduceSub, ↓reduceIte, decide_true, decide_false, Bool.true_eq_false, Bool.false_eq_true, Bool.not_true, Bool.not_false, if_true, if_false, and_true, true_and, memE, celE, w64, Nat.zero_add, Nat.add_zero, Nat.mul_one, putL, and_self, ldn, t0, t4, t5, t6, q0, q1, q2, q3, i1, i2, r0, r1, r2, r3, stP_aggL, m1, u0, u1, u2, u3]
          exact ⟨⟨_, _, _, _⟩, ⟨m2.1, m2.2⟩, m3, ay, by omega, m4⟩
      by_cases x4 : x = 4
      · have xe4 : (x == 4) = true := by rw [x4]; rfl
        obtain ⟨A1, A2, e1, e2, sa⟩ := s7.app hid hcb (o := 2) (by omega) (by rw [hlen 2 (by omega)]; omega) 1
        obtain ⟨r0, r1, r2, r3⟩ := sa.rd
        obtain ⟨M9, m1, u0, u1, u2, u3, m2, m3, m4⟩ := sa.fin hid hcb (fun i hi => by
          by_cases e : i = 2
          · subst e; simp only [up4, if_true, List.length_append, List.length_cons, List.length_nil]; rw [hlen 2 (by omega)]; omega
          · simp only [up4, if_neg e]; rw [hlen i hi]; omega)
        simp (config := {implicitDefEqProofs := false, maxDischargeDepth := 20}) (disch := first | omega | (simp only [lenE]; done) | (simp only [lenE]; omega) | rfl | (simp only [lenE, markR_len]; done) | (simp only [lenE, markR_len]; omega)) only [runE, mapE, listE, initT_5, initT_6, initT_7, initT_8, resV, oneV, binA, unA, reduceCtorEq, Nat.reduceEqDiff, Nat.reduceAdd, Nat.reduceLT, Nat.reduceLeDiff, Nat.reduceMul, Nat.reduceSub, ↓reduceIte, decide_true, decide_false, Bool.true_eq_false, Bool.false_eq_true, Bool.not_true, Bool.not_false, if_true, if_false, and_true, true_and, memE, celE, w64, Nat.zero_add, Nat.add_zero, Nat.mul_one, putL, and_self, ldn, t0, t4, t5, t6, ne 0 x0, ne 1 x1, ne 2 x2, ne 3 x3, xe4, q0, q1, q2, q3, b1, e1, e2, r0, r1, r2, r3, stP_aggL, m1, u0, u1, u2, u3]
        exact ⟨⟨_, _, _, _⟩, ⟨m2.1, m2.2⟩, m3, a7, by omega, m4⟩
      by_cases x5 : x = 5
      · have xe5 : (x == 5) = true := by rw [x5]; rfl
        simp (config := {implicitDefEqProofs := false, maxDischargeDepth := 20}) (disch := first | omega | (simp only [lenE]; done) | (simp only [lenE]; omega) | rfl | (simp only [lenE, markR_len]; done) | (simp only [lenE, markR_len]; omega)) only [runE, mapE, listE, initT_5, initT_6, initT_7, initT_8, resV, oneV, binA, unA, reduceCtorEq, Nat.reduceEqDiff, Nat.reduceAdd, Nat.reduceLT, Nat.reduceLeDiff, Nat.reduceMul, Nat.reduceSub, ↓reduceIte, decide_true, decide_false, Bool.true_eq_false, Bool.false_eq_true, Bool.not_true, Bool.not_false, if_true, if_false, and_true, true_and, memE, celE, w64, Nat.zero_add, Nat.add_zero, Nat.mul_one, putL, and_self, ldn, t0, t4, t5, t6, ne 0 x0, ne 1 x1, ne 2 x2, ne 3 x3, ne 4 x4, xe5]
        refine loop_inv mixed (fun s => ∃ (My : Mem) (vy : Nat → Value) (ly : Nat → List Int) (ry : Nat → Nat) (n' : Nat), n' ≤ 9 ∧ St3 M My cb id a7 M1.length l vy ly ry ∧ (∀ i, i < 4 → (ly i).length = n') ∧ s.t 4 = .pointer (some ⟨M.length, 0, none⟩) ∧ s.t 6 = .pointer (some ⟨M1.length, 0, none⟩) ∧ s.m = My)
            (fun s => 9 - (match rdc s.m M1.length 0 with | some v => lenOfA v | none => 0))
          ⟨M7, vs, ls, rs, t, by omega, s7, hlen, by simp only [put_t, put_t', put_m, putT_t, putT_t', putT_m, init_t, init_m, initT_0, initT_1, initT_2, initT_3, initT_4, initT_5, initT_6, initT_7, initT_8, Nat.reduceEqDiff, ↓reduceIte, t4], by simp only [put_t, put_t', put_m, putT_t, putT_t', putT_m, init_t, init_m, initT_0, initT_1, initT_2, initT_3, initT_4, initT_5, initT_6, initT_7, initT_8, Nat.reduceEqDiff, ↓reduceIte, t6], rfl⟩ ?_
        rintro s ⟨My, vy, ly, ry, n', hn', sy, hly, t4, t6, tm⟩
        obtain ⟨q0, q1, q2, q3⟩ := sy.rd
        have i0 := (sy.kc.row 0 (by omega)).ints (by rw [hly 0 (by omega)]; omega)
        have l0 := i0.len
        rw [hly 0 (by omega)] at l0
        by_cases h9 : (n' : Int) < 9
        · obtain ⟨A1, A2, e1, e2, sa⟩ := sy.app hid hcb (o := 0) (by omega) (by rw [hly 0 (by omega)]; omega) 1
          have p1 : rdc A2 M1.length 1 = some (vy 1) := sa.rd.2.1
          obtain ⟨B1, B2, f1, f2, sb⟩ := sa.app hid hcb (o := 1) (by omega) (by show (ly 1).length ≤ 1000; rw [hly 1 (by omega)]; omega) 1
          have p2 : rdc B2 M1.length 2 = some (vy 2) := sb.rd.2.2.1
          obtain ⟨C1, C2, g1, g2, sc⟩ := sb.app hid hcb (o := 2) (by omega) (by show (ly 2).length ≤ 1000; rw [hly 2 (by omega)]; omega) 1
          have p3 : rdc C2 M1.length 3 = some (vy 3) := sc.rd.2.2.2
          obtain ⟨D1, D2, k1', k2', sd⟩ := sc.app hid hcb (o := 3) (by omega) (by show (ly 3).length ≤ 1000; rw [hly 3 (by omega)]; omega) 1
          have f1 : appP (A2 ++ [⟨.own, 3, [.int .i64 1]⟩]) 3 1 8 (vy 1) (.slice (some ⟨A2.length, 0, none⟩) 1 1) = some (.slice (some ⟨A2.length + 1, 0, none⟩) ((ly 1).length + 1) 1, B1) := f1
          have f2 : stA B1 M1.length 1 [.slice (some ⟨A2.length + 1, 0, none⟩) ((ly 1).length + 1) 1] = some B2 := f2
          have g1 : appP (B2 ++ [⟨.own, 3, [.int .i64 1]⟩]) 3 1 8 (vy 2) (.slice (some ⟨B2.length, 0, none⟩) 1 1) = some (.slice (some ⟨B2.length + 1, 0, none⟩) ((ly 2).length + 1) 1, C1) := g1
          have g2 : stA C1 M1.length 2 [.slice (some ⟨B2.length + 1, 0, none⟩) ((ly 2).length + 1) 1] = some C2 := g2
          have k1' : appP (C2 ++ [⟨.own, 3, [.int .i64 1]⟩]) 3 1 8 (vy 3) (.slice (some ⟨C2.length, 0, none⟩) 1 1) = some (.slice (some ⟨C2.length + 1, 0, none⟩) ((ly 3).length + 1) 1, D1) := k1'
          have k2' : stA D1 M1.length 3 [.slice (some ⟨C2.length + 1, 0, none⟩) ((ly 3).length + 1) 1] = some D2 := k2'
          have z0 : rdc D2 M1.length 0 = some (.slice (some ⟨My.length + 1, 0, none⟩) ((ly 0).length + 1) 1) := sd.rd.1
          simp (config := {implicitDefEqProofs := false, maxDischargeDepth := 20}) (disch := first | omega | (simp only [lenE]; done) | (simp only [lenE]; omega) | rfl | (simp only [lenE, markR_len]; done) | (simp only [lenE, markR_len]; omega)) only [runE, mapE, listE, initT_5, initT_6, initT_7, initT_8, resV, oneV, binA, unA, reduceCtorEq, Nat.reduceEqDiff, Nat.reduceAdd, Nat.reduceLT, Nat.reduceLeDiff, Nat.reduceMul, Nat.reduceSub, ↓reduceIte, decide_true, decide_false, Bool.true_eq_false, Bool.false_eq_true, Bool.not_true, Bool.not_false, if_true, if_false, and_true, true_and, memE, celE, w64, Nat.zero_add, Nat.add_zero, Nat.mul_one, putL, and_self, ldn, t4, t6, tm, q0, l0, h9, b1, e1, e2, p1, f1, f2, p2, g1, g2, p3, k1', k2']
          have lv : lenOfA (vy 0) = n' := by
            rcases sy.kc.row 0 (by omega) with ⟨h1, h2⟩ | ⟨h1, _⟩
            · rw [h1]; have := hly 0 (by omega); rw [h2] at this; exact this
            · rw [h1]; exact hly 0 (by omega)
          refine ⟨⟨D2, _, _, _, n' + 1, by omega, sd, fun i hi => ?_, rfl⟩, ?_⟩
          · match i, hi with
            | 0, _ => show (ly 0 ++ [1]).length = n' + 1; rw [List.length_append, hly 0 (by omega)]; rfl
            | 1, _ => show (ly 1 ++ [1]).length = n' + 1; rw [List.length_append, hly 1 (by omega)]; rfl
            | 2, _ => show (ly 2 ++ [1]).length = n' + 1; rw [List.length_append, hly 2 (by omega)]; rfl
            | 3, _ => show (ly 3 ++ [1]).length = n' + 1; rw [List.length_append, hly 3 (by omega)]; rfl
          · rw [z0, lv]
            show 9 - ((ly 0).length + 1) < 9 - n'
            rw [hly 0 (by omega)]
            omega
        · obtain ⟨M9, m1, u0, u1, u2, u3, m2, m3, m4⟩ := sy.fin hid hcb (fun i hi => by rw [hly i hi]; omega)
          simp (config := {implicitDefEqProofs := false, maxDischargeDepth := 20}) (disch := first | omega | (simp only [lenE]; done) | (simp only [lenE]; omega) | rfl | (simp only [lenE, markR_len]; done) | (simp only [lenE, markR_len]; omega)) only [runE, mapE, listE, initT_5, initT_6, initT_7, initT_8, resV, oneV, binA, unA, reduceCtorEq, Nat.reduceEqDiff, Nat.reduceAdd, Nat.reduceLT, Nat.reduceLeDiff, Nat.reduceMul, Nat.reduceSub, ↓reduceIte, decide_true, decide_false, Bool.true_eq_false, Bool.false_eq_true, Bool.not_true, Bool.not_false, if_true, if_false, and_true, true_and, memE, celE, w64, Nat.zero_add, Nat.add_zero, Nat.mul_one, putL, and_self, ldn, t4, t6, tm, q0, q1, q2, q3, l0, h9, stP_aggL, m1, u0, u1, u2, u3]
          exact ⟨⟨_, _, _, _⟩, ⟨m2.1, m2.2⟩, m3, a7, by omega, m4⟩
      obtain ⟨M9, m1, u0, u1, u2, u3, m2, m3, m4⟩ := s7.fin hid hcb (fun i hi => by rw [hlen i hi]; omega)
      simp (config := {implicitDefEqProofs := false, maxDischargeDepth := 20}) (disch := first | omega | (simp only [lenE]; done) | (simp only [lenE]; omega) | rfl | (simp only [lenE, markR_len]; done) | (simp only [lenE, markR_len]; omega)) only [runE, mapE, listE, initT_5, initT_6, initT_7, initT_8, resV, oneV, binA, unA, reduceCtorEq, Nat.reduceEqDiff, Nat.reduceAdd, Nat.reduceLT, Nat.reduceLeDiff, Nat.reduceMul, Nat.reduceSub, ↓reduceIte, decide_true, decide_false, Bool.true_eq_false, Bool.false_eq_true, Bool.not_true, Bool.not_false, if_true, if_false, and_true, true_and, memE, celE, w64, Nat.zero_add, Nat.add_zero, Nat.mul_one, putL, and_self, ldn, t0, t4, t5, t6, ne 0 x0, ne 1 x1, ne 2 x2, ne 3 x3, ne 4 x4, ne 5 x5, q0, q1, q2, q3, stP_aggL, m1, u0, u1, u2, u3]
      exact ⟨⟨_, _, _, _⟩, ⟨m2.1, m2.2⟩, m3, a7, by omega, m4⟩
    · obtain ⟨M9, m1, u0, u1, u2, u3, m2, m3, m4⟩ := st.fin hid hcb fun i hi => by rw [hlen i hi]; omega
      simp (config := {implicitDefEqProofs := false, maxDischargeDepth := 20}) (disch := first | omega | (simp only [lenE]; done) | (simp only [lenE]; omega) | rfl | (simp only [lenE, markR_len]; done) | (simp only [lenE, markR_len]; omega)) only [runE, mapE, listE, initT_5, initT_6, initT_7, initT_8, resV, oneV, binA, unA, reduceCtorEq, Nat.reduceEqDiff, Nat.reduceAdd, Nat.reduceLT, Nat.reduceLeDiff, Nat.reduceMul, Nat.reduceSub, ↓reduceIte, decide_true, decide_false, Bool.true_eq_false, Bool.false_eq_true, Bool.not_true, Bool.not_false, if_true, if_false, and_true, true_and, memE, celE, w64, Nat.zero_add, Nat.add_zero, Nat.mul_one, putL, and_self, ldn, t4, t6, tm, hN0, q0, q1, q2, q3, stP_aggL, m1, u0, u1, u2, u3]
      exact ⟨⟨_, _, _, _⟩, ⟨m2.1, m2.2⟩, m3, ax, by omega, m4⟩
theorem IntsA.one {M : Mem} {v : Value} {l : List Int} (h : IntsA M v l) : v.oneCell' = true := by
  have := h.src
  unfold slR at this
  split at this <;> first | rfl | cases this
theorem lots_ac (M : Mem) (cb id a : Nat) (l : List Int) (h : CurA M cb l id a) (ha : a ≤ 999000000) :
    AC Try.prog 33 [.pointer (some ⟨id, 0, none⟩)] M fun r M' => ∃ k : Cs, (k.need.length ≤ 1000 ∧ Lives M.length M' r k) ∧ Cw id M M' ∧ ∃ a', a' ≤ a + 1000 ∧ CurA M' cb l id a' := by
  refine ac_of_run mixed ok_spec_l1Cur__lots (by simp) (go_start _ _ _ ?_)
  have hid := h.lt
  have hcb : cb < M.length := (List.getElem?_eq_some_iff.1 h.code).1
  simp (config := {implicitDefEqProofs := false, maxDischargeDepth := 20}) (disch := first | omega | (simp only [lenE]; done) | (simp only [lenE]; omega) | rfl | (simp only [lenE, markR_len]; done) | (simp only [lenE, markR_len]; omega)) only [runE, mapE, listE, initT_5, initT_6, initT_7, initT_8, resV, oneV, binA, unA, reduceCtorEq, Nat.reduceEqDiff, Nat.reduceAdd, Nat.reduceLT, Nat.reduceLeDiff, Nat.reduceMul, Nat.reduceSub, ↓reduceIte, decide_true, decide_false, Bool.true_eq_false, Bool.false_eq_true, Bool.not_true, Bool.not_false, if_true, if_false, and_true, true_and, memE, celE, w64, Nat.zero_add, Nat.add_zero, Nat.mul_one, putL, and_self, ldn, c_spec_l1Cur__lots, r_spec_l1Cur__lots]
  refine callH_ac (someLots_ac _ cb id a l 8 (h.ext _) ha (by omega)) ?_
  rintro r M1 ⟨k, ⟨hsm, lv⟩, w1, a1, ha1, k1⟩
  obtain ⟨v1, v2, v3, v4, rfl, i1, i2, i3, i4⟩ := lv.here.ok
  have hres : M1[M.length]? = some ⟨.own, 26, [.slice none 0 0, .slice none 0 0, .slice none 0 0, .slice none 0 0]⟩ := (w1.old M.length (by omega) (by simp)).trans (by simp)
  have hlt := (List.getElem?_eq_some_iff.1 hres).1
  have hs : stA M1 M.length 0 [v1, v2, v3, v4] = some (M1.set M.length ⟨.own, 26, [v1, v2, v3, v4]⟩) := by
    unfold stA
    rw [hres]
    simp [onesB, i1.one, i2.one, i3.one, i4.one, putL]
  have self : (M1.set M.length ⟨.own, 26, [v1, v2, v3, v4]⟩)[M.length]? = some ⟨.own, 26, [v1, v2, v3, v4]⟩ := List.getElem?_set_self hlt
  have low : ∀ i, i ≠ M.length → (M1.set M.length ⟨.own, 26, [v1, v2, v3, v4]⟩)[i]? = M1[i]? := fun i hi => List.getElem?_set_ne (Ne.symm hi)
  have r0 : rdc (M1.set M.length ⟨.own, 26, [v1, v2, v3, v4]⟩) M.length 0 = some v1 := by unfold rdc; rw [self]; rfl
  have r1 : rdc (M1.set M.length ⟨.own, 26, [v1, v2, v3, v4]⟩) M.length 1 = some v2 := by unfold rdc; rw [self]; rfl
  have r2 : rdc (M1.set M.length ⟨.own, 26, [v1, v2, v3, v4]⟩) M.length 2 = some v3 := by unfold rdc; rw [self]; rfl
  have r3 : rdc (M1.set M.length ⟨.own, 26, [v1, v2, v3, v4]⟩) M.length 3 = some v4 := by unfold rdc; rw [self]; rfl
  obtain ⟨M2, hM2⟩ : ∃ M2, M2 = M1.set M.length ⟨.own, 26, [v1, v2, v3, v4]⟩ := ⟨_, rfl⟩
  rw [← hM2] at hs self low r0 r1 r2 r3
  have w0 := w1.pre (noRo_own noRo_nil) hid
  simp (config := {implicitDefEqProofs := false, maxDischargeDepth := 20}) (disch := first | omega | (simp only [lenE]; done) | (simp only [lenE]; omega) | rfl | (simp only [lenE, markR_len]; done) | (simp only [lenE, markR_len]; omega)) only [runE, mapE, listE, initT_5, initT_6, initT_7, initT_8, resV, oneV, binA, unA, reduceCtorEq, Nat.reduceEqDiff, Nat.reduceAdd, Nat.reduceLT, Nat.reduceLeDiff, Nat.reduceMul, Nat.reduceSub, ↓reduceIte, decide_true, decide_false, Bool.true_eq_false, Bool.false_eq_true, Bool.not_true, Bool.not_false, if_true, if_false, and_true, true_and, memE, celE, w64, Nat.zero_add, Nat.add_zero, Nat.mul_one, putL, and_self, ldn, stP_aggL, hs, r0, r1, r2, r3]
  refine ⟨k, ⟨hsm, fun M3 h3 => lv M3 fun i q1 q2 => ?_⟩, ⟨by rw [hM2]; have := w0.len; simpa using this, fun i e hi => (low i (by omega)).trans (w0.old i e hi), fun i bk hi hb => ?_⟩, a1, ha1, ?_⟩
  · have q1 : M.length + 1 ≤ i := by simpa using q1
    rw [h3 i (by omega) (by rw [hM2]; simpa using q2), low i (by omega)]
  · by_cases e : i = M.length
    · subst e
      rw [self] at hb
      cases hb
      simp
    · rw [low i e] at hb
      exact w0.new i bk hi hb
  · obtain ⟨seed, hb⟩ := k1.box
    exact ⟨(low cb (by omega)).trans k1.code, k1.byte, k1.few, seed, (low id (by omega)).trans hb⟩
end Go.Proofs.Ytfjpickejgbmaaa.Ab
