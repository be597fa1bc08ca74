/- What the law needs of the texts that it rests on. -/
import Derived.Test.YtpedjcagaeedjaaShFnContracts1
section
namespace Go.Proofs.Ytpedjcagaeedjaa.Ab
open Go Go.RowKit
set_option linter.unusedVariables false
set_option linter.unusedSimpArgs false
set_option maxRecDepth 10000
theorem Gr.atM {M M' : Mem} {v : Value} {l : List Int} {r : Nat} (h : Gr M v l r) (hs : l ≠ [] → M'[r]? = M[r]?) : Gr M' v l r := by
  rcases h with h | ⟨h1, h2, h3⟩
  · exact .inl h
  · exact .inr ⟨h1, h2, h3.at_ (hs h2)⟩
theorem Gr.oneM {M : Mem} {v : Value} {l : List Int} {r : Nat} (h : Gr M v l r) : v.oneCell' = true := by
  rcases h with ⟨rfl, _⟩ | ⟨rfl, _⟩ <;> rfl
abbrev mkC (p : Mk) (u : Value) : List Value := [u, .int .i64 p.price, .int .i64 p.make, .int .i64 p.left]
structure MB (M0 M : Mem) (cb id a bx r : Nat) (l : List Int) (p : Mk) (u : Value) : Prop where
  hid : id < M0.length
  hcb : cb < M0.length
  cw : Cw id M0 M
  cur : CurA M cb l id a
  box : OwnB M bx 26 (mkC p u)
  ge : M0.length ≤ bx
  gr : Gr M u p.w r
  rge : p.w ≠ [] → M0.length ≤ r ∧ r ≠ bx
section
variable {M0 M M2 : Mem} {cb id a a2 bx r : Nat} {l : List Int} {p : Mk} {u : Value}
theorem MB.draw (h : MB M0 M cb id a bx r l p u) (w : Cw id M M2) (k : CurA M2 cb l id a2) : MB M0 M2 cb id a2 bx r l p u :=
  ⟨h.hid, h.hcb, Cw.trans h.hid h.cw w, k, h.box.at_ (w.old bx (by have := h.hid; have := h.ge; omega) h.box.lt), h.ge, by
    rcases h.gr with g | ⟨g1, g2, g3⟩
    · exact .inl g
    · exact .inr ⟨g1, g2, w.own g3 (by have := h.hid; have := (h.rge g2).1; omega)⟩, h.rge⟩
theorem MB.ext (h : MB M0 M cb id a bx r l p u) {new : Mem} (hn : NoRo new) : MB M0 (M ++ new) cb id a bx r l p u :=
  ⟨h.hid, h.hcb, h.cw.ext hn, h.cur.ext new, h.box.ext new, h.ge, by
    rcases h.gr with g | ⟨g1, g2, g3⟩
    · exact .inl g
    · exact .inr ⟨g1, g2, g3.ext new⟩, h.rge⟩
theorem MB.rd (h : MB M0 M cb id a bx r l p u) (k : Nat) : rdc M bx k = (mkC p u)[k]? := h.box.rd k
theorem MB.st (h : MB M0 M cb id a bx r l p u) (j : Nat) (x : Int) (p' : Mk) (hj : j < 4) (hp : putL (mkC p u) j [.int .i64 x] = mkC p' u) (hw : p'.w = p.w) :
    stA M bx j [.int .i64 x] = some (M.set bx ⟨.own, 26, mkC p' u⟩) ∧ MB M0 (M.set bx ⟨.own, 26, mkC p' u⟩) cb id a bx r l p' u := by
  have hid := h.hid
  have hcb := h.hcb
  have hge := h.ge
  refine ⟨by rw [h.box.st (by simp; omega) rfl, hp], hid, hcb, h.cw.put hge (by simp), h.cur.put (by omega) (by omega) _, h.box.set_self _ _, hge, ?_, by rw [hw]; exact h.rge⟩
  rw [hw]
  exact h.gr.atM fun e => List.getElem?_set_ne (Ne.symm (h.rge e).2)
theorem MB.app (h : MB M0 M cb id a bx r l p u) (hl : p.w.length ≤ 1000) (x : Int) : ∃ M1 M2,
    appP (M ++ [⟨.own, 3, [.int .i64 x]⟩]) 3 1 8 u (.slice (some ⟨M.length, 0, none⟩) 1 1) = some (.slice (some ⟨M.length + 1, 0, none⟩) (p.w.length + 1) 1, M1) ∧
    stA M1 bx 0 [.slice (some ⟨M.length + 1, 0, none⟩) (p.w.length + 1) 1] = some M2 ∧
    MB M0 M2 cb id a bx (M.length + 1) l { p with w := p.w ++ [x] } (.slice (some ⟨M.length + 1, 0, none⟩) (p.w.length + 1) 1) := by
  have hid := h.hid
  have hcb := h.hcb
  have hge := h.ge
  have hbl := h.box.lt
  obtain ⟨M1, h1, h2, h3, h4, h5⟩ := h.gr.app hl x
  have same : ∀ i, i < M.length → (i < M0.length ∨ i = bx) → M1[i]? = M[i]? := fun i hi ho => h4 i hi fun e => by have := h.rge e; omega
  have b1 : OwnB M1 bx 26 (mkC p u) := h.box.at_ (same bx hbl (.inr rfl))
  have cw1 : Cw id M0 M1 := ⟨by have := h.cw.len; omega, fun i e hi => (same i (by have := h.cw.len; omega) (.inl hi)).trans (h.cw.old i e hi), fun i b hi hb => by
    by_cases e : i < M.length
    · by_cases e2 : i = r ∧ p.w ≠ []
      · exact h5 i b (.inl e2) hb
      · rw [h4 i e fun e3 e4 => e2 ⟨e4, e3⟩] at hb
        exact h.cw.new i b hi hb
    · exact h5 i b (.inr (by omega)) hb⟩
  have k1 : CurA M1 cb l id a := by
    obtain ⟨s, hb⟩ := h.cur.box
    exact ⟨(same cb (by have := h.cw.len; omega) (.inl hcb)).trans h.cur.code, h.cur.byte, h.cur.few, s, (same id (by have := h.cw.len; omega) (.inl hid)).trans hb⟩
  refine ⟨M1, _, h1, b1.st (by simp) rfl, hid, hcb, cw1.put hge (by simp), k1.put (by omega) (by omega) _, b1.set_self _ _, hge, .inr ⟨by simp, by simp, ?_⟩, fun _ => ⟨by have := h.cw.len; omega, by omega⟩⟩
  exact h3.at_ (List.getElem?_set_ne (by omega))
theorem MB.put (h : MB M0 M cb id a bx r l p u) (hl : p.w.length ≤ 1000) (h0 : 0 < p.w.length) (x : Int) : ∃ M2,
    iadA 1 u (.int .i64 0) = some (.pointer (some ⟨r, 0, none⟩)) ∧ stA M r 0 [.int .i64 x] = some M2 ∧ MB M0 M2 cb id a bx r l { p with w := p.w.set 0 x } u := by
  have hid := h.hid
  have hcb := h.hcb
  have hge := h.ge
  have hne : p.w ≠ [] := fun e => by rw [e] at h0; simp at h0
  obtain ⟨g1, g2⟩ := h.rge hne
  rcases h.gr with ⟨-, g⟩ | ⟨rfl, -, ho⟩
  · exact absurd g hne
  have i0 := (ho.ints (by omega) 1).at_ 0 h0
  refine ⟨M.set r (rowB (p.w.set 0 x)), by simpa [pAt] using i0, ho.st h0, hid, hcb, h.cw.put g1 (by simp), h.cur.put (by omega) (by omega) _, h.box.set_ne g2 _, hge, .inr ⟨by simp, ?_, ho.set_self⟩, fun _ => ⟨g1, g2⟩⟩
  · intro e
    have := congrArg List.length e
    simp at this
    exact hne this
end
def LivesMk (lo : Nat) (M : Mem) (v : Value) (s : Mk) : Prop := ∀ M3 : Mem, (∀ i, lo ≤ i → i < M.length → M3[i]? = M[i]?) → MkA M3 v s
theorem LivesMk.here {lo : Nat} {M : Mem} {v : Value} {s : Mk} (h : LivesMk lo M v s) : MkA M v s := h M fun _ _ _ => rfl
theorem LivesMk.cw {lo id : Nat} {M M' : Mem} {v : Value} {s : Mk} (h : LivesMk lo M v s) (hid : id < lo) (c : Cw id M M') : LivesMk lo M' v s := fun M3 h3 =>
  h M3 fun i h1 h2 => (h3 i h1 (Nat.lt_of_lt_of_le h2 c.len)).trans (c.old i (by omega) h2)
theorem LivesMk.up {lo : Nat} {M M' : Mem} {v : Value} {s : Mk} (h : LivesMk lo M v s) (hl : M.length ≤ M'.length) (he : ∀ i, lo ≤ i → i < M.length → M'[i]? = M[i]?) : LivesMk lo M' v s := fun M3 h3 =>
  h M3 fun i h1 h2 => (h3 i h1 (by omega)).trans (he i h1 h2)
theorem MB.fin {M N : Mem} {cb id a bx r : Nat} {l : List Int} {s : Mk} {u : Value} (h : MB (M ++ [⟨.own, 26, [.slice none 0 0, .int .i64 0, .int .i64 0, .int .i64 0]⟩]) N cb id a bx r l s u) (hid : id < M.length) (hcb : cb < M.length) (l1 : s.w.length ≤ 1000) : ∃ N2,
    stA N M.length 0 [u, .int .i64 s.price, .int .i64 s.make, .int .i64 s.left] = some N2 ∧ (∀ k, rdc N2 M.length k = (mkC s u)[k]?) ∧ LivesMk M.length N2 (mkV s u) s ∧ Cw id M N2 ∧ CurA N2 cb l id a := by
  have hge := h.ge
  have hcl := h.cw.len
  have hlen : (M ++ [(⟨.own, 26, [.slice none 0 0, .int .i64 0, .int .i64 0, .int .i64 0]⟩ : Blk)]).length = M.length + 1 := by simp
  rw [hlen] at hge hcl
  have c : OwnB N M.length 26 [.slice none 0 0, .int .i64 0, .int .i64 0, .int .i64 0] := (h.cw.old M.length (by omega) (by simp)).trans (by simp)
  have o4 : onesB [u, .int .i64 s.price, .int .i64 s.make, .int .i64 s.left] = true := by
    simp [onesB, h.gr.oneM]
    exact ⟨rfl, rfl, rfl⟩
  have w0 : Cw id M N := h.cw.pre (noRo_own noRo_nil) hid
  refine ⟨_, c.st (by simp) o4, fun k => (c.set_self _ _).rd k, fun M3 h3 => ⟨u, rfl, ?_⟩, w0.put (Nat.le_refl _) (by simp), h.cur.put (by omega) (by omega) _⟩
  refine Gr.ints (r := r) (h.gr.atM fun e => ?_) l1
  have g := (h.rge e).1
  rw [hlen] at g
  have hl : r < N.length := by
    rcases h.gr with ⟨-, e2⟩ | ⟨-, -, ho⟩
    · exact absurd e2 e
    · exact ho.lt
  rw [h3 r (by omega) (by simpa using hl), List.getElem?_set_ne (by omega)]
theorem bld_mk (a b c : Int) : bldA [.slice none 0 0, .int .i64 0, .int .i64 0, .int .i64 0] [(1, 1, .int .i64 a), (2, 1, .int .i64 b), (3, 1, .int .i64 c)] = some (.agg #[.slice none 0 0, .int .i64 a, .int .i64 b, .int .i64 c]) := rfl
theorem bl_1w (m : Mem) (x : Int) : bslA m 3 1 1 [.int .i64 0] [(0, 1, .int .i64 x)] = some (.slice (some ⟨m.length, 0, none⟩) 1 1, m ++ [⟨.own, 3, [.int .i64 x]⟩]) := rfl
theorem l1MostM_rc (m : Mem) (a b : Int) : RC Try.prog 82 [.int .i64 a, .int .i64 b] m fun r new => r = .int .i64 (max a b) ∧ new = [] := by
  refine rc_of_run mixed ok_spec_l1Most (by simp) (go_start _ _ _ ?_)
  by_cases h : b < a
  · simp (config := {implicitDefEqProofs := false, maxDischargeDepth := 20}) (disch := first | omega | (simp only [lenE]; done) | (simp only [lenE]; omega) | rfl | (simp only [lenE, markR_len]; done) | (simp only [lenE, markR_len]; omega)) only [runE, mapE, listE, initT_5, initT_6, initT_7, initT_8, resV, oneV, binA, unA, reduceCtorEq, Nat.reduceEqDiff, Nat.reduceAdd, Nat.reduceLT, Nat.reduceLeDiff, Nat.reduceMul, Nat.reduceSub, ↓reduceIte, decide_true, decide_false, Bool.true_eq_false, Bool.false_eq_true, Bool.not_true, Bool.not_false, if_true, if_false, and_true, true_and, memE, celE, w64, Nat.zero_add, Nat.add_zero, Nat.mul_one, putL, and_self, ldn, c_spec_l1Most, r_spec_l1Most, h, gt_iff_lt]
    exact newQ_nil ⟨by congr 1; omega, rfl⟩
  · simp (config := {implicitDefEqProofs := false, maxDischargeDepth := 20}) (disch := first | omega | (simp only [lenE]; done) | (simp only [lenE]; omega) | rfl | (simp only [lenE, markR_len]; done) | (simp only [lenE, markR_len]; omega)) only [runE, mapE, listE, initT_5, initT_6, initT_7, initT_8, resV, oneV, binA, unA, reduceCtorEq, Nat.reduceEqDiff, Nat.reduceAdd, Nat.reduceLT, Nat.reduceLeDiff, Nat.reduceMul, Nat.reduceSub, ↓reduceIte, decide_true, decide_false, Bool.true_eq_false, Bool.false_eq_true, Bool.not_true, Bool.not_false, if_true, if_false, and_true, true_and, memE, celE, w64, Nat.zero_add, Nat.add_zero, Nat.mul_one, putL, and_self, ldn, c_spec_l1Most, r_spec_l1Most, h, gt_iff_lt]
    exact newQ_nil ⟨by congr 1; omega, rfl⟩

theorem bl_mP (m : Mem) : bslA m 3 1 7 [.int .i64 0, .int .i64 0, .int .i64 0, .int .i64 0, .int .i64 0, .int .i64 0, .int .i64 0] [(0, 1, .int .i64 10), (1, 1, .int .i64 12), (2, 1, .int .i64 20), (3, 1, .int .i64 6), (4, 1, .int .i64 30), (5, 1, .int .i64 99), (6, 1, .int .i64 1)] = some (.slice (some ⟨m.length, 0, none⟩) 7 1, m ++ [rowB [10, 12, 20, 6, 30, 99, 1]]) := rfl
theorem bl_mW (m : Mem) : bslA m 3 1 6 [.int .i64 0, .int .i64 0, .int .i64 0, .int .i64 0, .int .i64 0, .int .i64 0] [(0, 1, .int .i64 1), (1, 1, .int .i64 2), (2, 1, .int .i64 1), (3, 1, .int .i64 0), (4, 1, .int .i64 3), (5, 1, .int .i64 4)] = some (.slice (some ⟨m.length, 0, none⟩) 6 1, m ++ [rowB [1, 2, 1, 0, 3, 4]]) := rfl
theorem bl_m0 (m : Mem) : bslA m 3 1 3 [.int .i64 0, .int .i64 0, .int .i64 0] [(0, 1, .int .i64 0), (1, 1, .int .i64 99), (2, 1, .int .i64 100)] = some (.slice (some ⟨m.length, 0, none⟩) 3 1, m ++ [rowB [0, 99, 100]]) := rfl
theorem bl_m3 (m : Mem) : bslA m 3 1 2 [.int .i64 0, .int .i64 0] [(0, 1, .int .i64 (-1)), (1, 1, .int .i64 5)] = some (.slice (some ⟨m.length, 0, none⟩) 2 1, m ++ [rowB [-1, 5]]) := rfl
theorem bl_cS (m : Mem) : bslA m 3 1 5 [.int .i64 0, .int .i64 0, .int .i64 0, .int .i64 0, .int .i64 0] [(0, 1, .int .i64 100), (1, 1, .int .i64 100), (2, 1, .int .i64 80), (3, 1, .int .i64 50), (4, 1, .int .i64 0)] = some (.slice (some ⟨m.length, 0, none⟩) 5 1, m ++ [rowB [100, 100, 80, 50, 0]]) := rfl
theorem bl_cA (m : Mem) : bslA m 3 1 3 [.int .i64 0, .int .i64 0, .int .i64 0] [(0, 1, .int .i64 (-1)), (1, 1, .int .i64 99), (2, 1, .int .i64 100)] = some (.slice (some ⟨m.length, 0, none⟩) 3 1, m ++ [rowB [-1, 99, 100]]) := rfl
theorem bl_cB (m : Mem) : bslA m 3 1 2 [.int .i64 0, .int .i64 0] [(0, 1, .int .i64 (-1)), (1, 1, .int .i64 101)] = some (.slice (some ⟨m.length, 0, none⟩) 2 1, m ++ [rowB [-1, 101]]) := rfl
theorem bl_m1 (m : Mem) (x y : Int) : bslA m 3 1 3 [.int .i64 0, .int .i64 0, .int .i64 0] [(0, 1, .int .i64 (-1)), (1, 1, .int .i64 x), (2, 1, .int .i64 y)] = some (.slice (some ⟨m.length, 0, none⟩) 3 1, m ++ [rowB [-1, x, y]]) := rfl
theorem market_ac (M : Mem) (cb id a : Nat) (l : List Int) (h : CurA M cb l id a) (ha : a ≤ 999999000) :
    AC Try.prog 44 [.pointer (some ⟨id, 0, none⟩)] M fun v M' => ∃ (p : Mk) (u : Value) (a' : Nat), v = mkV p u ∧ a' ≤ a + 100 ∧ Cw id M M' ∧ CurA M' cb l id a' ∧ LivesMk M.length M' (mkV p u) p ∧ p.w.length ≤ 100 ∧ p.price ≤ 100 := by
  refine ac_of_run mixed ok_spec_l1Cur__market (by simp) (go_start _ _ _ ?_)
  have hid := h.lt
  have hcb := h.cblt
  simp (config := {implicitDefEqProofs := false, maxDischargeDepth := 20}) (disch := first | omega | (simp only [lenE]; done) | (simp only [lenE]; omega) | rfl | (simp only [lenE, markR_len]; done) | (simp only [lenE, markR_len]; omega)) only [runE, mapE, listE, initT_5, initT_6, initT_7, initT_8, resV, oneV, binA, unA, reduceCtorEq, Nat.reduceEqDiff, Nat.reduceAdd, Nat.reduceLT, Nat.reduceLeDiff, Nat.reduceMul, Nat.reduceSub, ↓reduceIte, decide_true, decide_false, Bool.true_eq_false, Bool.false_eq_true, Bool.not_true, Bool.not_false, if_true, if_false, and_true, true_and, memE, celE, w64, Nat.zero_add, Nat.add_zero, Nat.mul_one, putL, and_self, ldn, c_spec_l1Cur__market, r_spec_l1Cur__market, bl_mP]
  obtain ⟨M0, hM0⟩ : ∃ M0 : Mem, M0 = M ++ [⟨.own, 26, [.slice none 0 0, .int .i64 0, .int .i64 0, .int .i64 0]⟩] := ⟨_, rfl⟩
  have h0 : CurA M0 cb l id a := by rw [hM0]; exact h.ext _
  have hl0 : M0.length = M.length + 1 := by rw [hM0]; simp
  have cw0 : Cw id M M0 := by rw [hM0]; exact (Cw.refl id M).ext (noRo_own noRo_nil)
  rw [← hM0]
  refine callH_ac (among_new M0 cb id a l [10, 12, 20, 6, 30, 99, 1] h0 (by omega) (by omega) rfl (by simp) (by simp)) ?_
  rintro v M1 ⟨xP, hxP, rfl, w1, a1, ha1, k1⟩
  have hP : 1 ≤ xP ∧ xP ≤ 99 := by simp at hxP; omega
  simp (config := {implicitDefEqProofs := false, maxDischargeDepth := 20}) (disch := first | omega | (simp only [lenE]; done) | (simp only [lenE]; omega) | rfl | (simp only [lenE, markR_len]; done) | (simp only [lenE, markR_len]; omega)) only [runE, mapE, listE, initT_5, initT_6, initT_7, initT_8, resV, oneV, binA, unA, reduceCtorEq, Nat.reduceEqDiff, Nat.reduceAdd, Nat.reduceLT, Nat.reduceLeDiff, Nat.reduceMul, Nat.reduceSub, ↓reduceIte, decide_true, decide_false, Bool.true_eq_false, Bool.false_eq_true, Bool.not_true, Bool.not_false, if_true, if_false, and_true, true_and, memE, celE, w64, Nat.zero_add, Nat.add_zero, Nat.mul_one, putL, and_self, ldn]
  refine callH_ac (pick_ac M1 cb id a1 l 3 k1 (by omega) (by omega) (by omega)) ?_
  rintro v M2 ⟨xL, rfl, hL0, hL1, w2, a2, ha2, k2⟩
  have c2 := Cw.trans (by omega) w1 w2
  clear w1 w2 k1
  simp (config := {implicitDefEqProofs := false, maxDischargeDepth := 20}) (disch := first | omega | (simp only [lenE]; done) | (simp only [lenE]; omega) | rfl | (simp only [lenE, markR_len]; done) | (simp only [lenE, markR_len]; omega)) only [runE, mapE, listE, initT_5, initT_6, initT_7, initT_8, resV, oneV, binA, unA, reduceCtorEq, Nat.reduceEqDiff, Nat.reduceAdd, Nat.reduceLT, Nat.reduceLeDiff, Nat.reduceMul, Nat.reduceSub, ↓reduceIte, decide_true, decide_false, Bool.true_eq_false, Bool.false_eq_true, Bool.not_true, Bool.not_false, if_true, if_false, and_true, true_and, memE, celE, w64, Nat.zero_add, Nat.add_zero, Nat.mul_one, putL, and_self, ldn]
  refine callH_ac (pick_ac M2 cb id a2 l xP k2 (by omega) (by omega) (by omega)) ?_
  rintro v M5 ⟨xK, rfl, hK0, hK1, w5, a5, ha5, k5⟩
  have c5 := Cw.trans (by omega) c2 w5
  clear c2 w5 k2
  simp (config := {implicitDefEqProofs := false, maxDischargeDepth := 20}) (disch := first | omega | (simp only [lenE]; done) | (simp only [lenE]; omega) | rfl | (simp only [lenE, markR_len]; done) | (simp only [lenE, markR_len]; omega)) only [runE, mapE, listE, initT_5, initT_6, initT_7, initT_8, resV, oneV, binA, unA, reduceCtorEq, Nat.reduceEqDiff, Nat.reduceAdd, Nat.reduceLT, Nat.reduceLeDiff, Nat.reduceMul, Nat.reduceSub, ↓reduceIte, decide_true, decide_false, Bool.true_eq_false, Bool.false_eq_true, Bool.not_true, Bool.not_false, if_true, if_false, and_true, true_and, memE, celE, w64, Nat.zero_add, Nat.add_zero, Nat.mul_one, putL, and_self, ldn]
  refine callH_rc (l1LeastM_rc _ _ _) ?_
  rintro v new ⟨rfl, rfl⟩
  simp (config := {implicitDefEqProofs := false, maxDischargeDepth := 20}) (disch := first | omega | (simp only [lenE]; done) | (simp only [lenE]; omega) | rfl | (simp only [lenE, markR_len]; done) | (simp only [lenE, markR_len]; omega)) only [runE, mapE, listE, initT_5, initT_6, initT_7, initT_8, resV, oneV, binA, unA, reduceCtorEq, Nat.reduceEqDiff, Nat.reduceAdd, Nat.reduceLT, Nat.reduceLeDiff, Nat.reduceMul, Nat.reduceSub, ↓reduceIte, decide_true, decide_false, Bool.true_eq_false, Bool.false_eq_true, Bool.not_true, Bool.not_false, if_true, if_false, and_true, true_and, memE, celE, w64, Nat.zero_add, Nat.add_zero, Nat.mul_one, putL, and_self, ldn]
  refine callH_rc (l1LeastM_rc _ _ _) ?_
  rintro v new ⟨rfl, rfl⟩
  obtain ⟨yM, hyM, hyM2⟩ : ∃ y : Int, min (xL + xK) xP = y ∧ -5 ≤ y ∧ y ≤ 200 := ⟨_, rfl, by omega⟩
  obtain ⟨yL, hyL, hyL2⟩ : ∃ y : Int, min xL xP = y ∧ -5 ≤ y ∧ y ≤ 200 := ⟨_, rfl, by omega⟩
  rw [hyM, hyL]
  have s1 : stA (M5 ++ [⟨.own, 26, [.slice none 0 0, .int .i64 0, .int .i64 0, .int .i64 0]⟩]) M5.length 0 [.slice none 0 0, .int .i64 xP, .int .i64 yM, .int .i64 yL] = some (M5 ++ [⟨.own, 26, mkC ⟨[], xP, yM, yL⟩ (.slice none 0 0)⟩]) := by
    rw [(OwnB.here rfl).st (by simp) rfl]
    simp [putL]
  have b5 : MB M0 (M5 ++ [⟨.own, 26, mkC ⟨[], xP, yM, yL⟩ (.slice none 0 0)⟩]) cb id a5 M5.length 0 l ⟨[], xP, yM, yL⟩ (.slice none 0 0) :=
    ⟨by omega, by omega, c5.ext (noRo_own noRo_nil), k5.ext _, OwnB.here rfl, c5.len, .inl ⟨rfl, rfl⟩, fun e => absurd rfl e⟩
  simp (config := {implicitDefEqProofs := false, maxDischargeDepth := 20}) (disch := first | omega | (simp only [lenE]; done) | (simp only [lenE]; omega) | rfl | (simp only [lenE, markR_len]; done) | (simp only [lenE, markR_len]; omega)) only [runE, mapE, listE, initT_5, initT_6, initT_7, initT_8, resV, oneV, binA, unA, reduceCtorEq, Nat.reduceEqDiff, Nat.reduceAdd, Nat.reduceLT, Nat.reduceLeDiff, Nat.reduceMul, Nat.reduceSub, ↓reduceIte, decide_true, decide_false, Bool.true_eq_false, Bool.false_eq_true, Bool.not_true, Bool.not_false, if_true, if_false, and_true, true_and, memE, celE, w64, Nat.zero_add, Nat.add_zero, Nat.mul_one, putL, and_self, ldn, bld_mk, stP_aggL, s1]
  generalize M5 ++ [(⟨.own, 26, mkC ⟨[], xP, yM, yL⟩ (.slice none 0 0)⟩ : Blk)] = N0 at *
  generalize M5.length = bx at *
  clear s1 c5 k5
  try simp (config := {implicitDefEqProofs := false, maxDischargeDepth := 20}) (disch := first | omega | (simp only [lenE]; done) | (simp only [lenE]; omega) | rfl | (simp only [lenE, markR_len]; done) | (simp only [lenE, markR_len]; omega)) only [runE, mapE, listE, initT_5, initT_6, initT_7, initT_8, resV, oneV, binA, unA, reduceCtorEq, Nat.reduceEqDiff, Nat.reduceAdd, Nat.reduceLT, Nat.reduceLeDiff, Nat.reduceMul, Nat.reduceSub, ↓reduceIte, decide_true, decide_false, Bool.true_eq_false, Bool.false_eq_true, Bool.not_true, Bool.not_false, if_true, if_false, and_true, true_and, memE, celE, w64, Nat.zero_add, Nat.add_zero, Nat.mul_one, putL, and_self, ldn, b5.rd]
  refine callH_rc (l1LeastM_rc _ _ _) ?_
  rintro v new ⟨rfl, rfl⟩
  obtain ⟨yR, hyR, hyR2⟩ : ∃ y : Int, min yL yM = y ∧ -5 ≤ y ∧ y ≤ 200 := ⟨_, rfl, by omega⟩
  rw [hyR, List.append_nil]
  obtain ⟨s2, b6⟩ := b5.st 3 yR ⟨[], xP, yM, yR⟩ (by omega) (by simp [putL]) rfl
  simp (config := {implicitDefEqProofs := false, maxDischargeDepth := 20}) (disch := first | omega | (simp only [lenE]; done) | (simp only [lenE]; omega) | rfl | (simp only [lenE, markR_len]; done) | (simp only [lenE, markR_len]; omega)) only [runE, mapE, listE, initT_5, initT_6, initT_7, initT_8, resV, oneV, binA, unA, reduceCtorEq, Nat.reduceEqDiff, Nat.reduceAdd, Nat.reduceLT, Nat.reduceLeDiff, Nat.reduceMul, Nat.reduceSub, ↓reduceIte, decide_true, decide_false, Bool.true_eq_false, Bool.false_eq_true, Bool.not_true, Bool.not_false, if_true, if_false, and_true, true_and, memE, celE, w64, Nat.zero_add, Nat.add_zero, Nat.mul_one, putL, and_self, ldn, s2]
  generalize N0.set bx ⟨.own, 26, mkC ⟨[], xP, yM, yR⟩ (.slice none 0 0)⟩ = N1 at *
  clear s2 b5
  refine callH_ac (pick_ac N1 cb id a5 l 9 b6.cur (by omega) (by omega) (by omega)) ?_
  rintro v N2 ⟨n0, rfl, hn0, hn1, w6, a6, ha6, k6⟩
  have b7 := b6.draw w6 k6
  clear b6 w6 k6
  simp (config := {implicitDefEqProofs := false, maxDischargeDepth := 20}) (disch := first | omega | (simp only [lenE]; done) | (simp only [lenE]; omega) | rfl | (simp only [lenE, markR_len]; done) | (simp only [lenE, markR_len]; omega)) only [runE, mapE, listE, initT_5, initT_6, initT_7, initT_8, resV, oneV, binA, unA, reduceCtorEq, Nat.reduceEqDiff, Nat.reduceAdd, Nat.reduceLT, Nat.reduceLeDiff, Nat.reduceMul, Nat.reduceSub, ↓reduceIte, decide_true, decide_false, Bool.true_eq_false, Bool.false_eq_true, Bool.not_true, Bool.not_false, if_true, if_false, and_true, true_and, memE, celE, w64, Nat.zero_add, Nat.add_zero, Nat.mul_one, putL, and_self, ldn]
  obtain ⟨N, hN, hN6⟩ : ∃ N : Nat, 1 + n0 = N ∧ N ≤ 9 := ⟨(1 + n0).toNat, by omega, by omega⟩
  rw [hN]
  refine loop_inv mixed (fun s => ∃ (M' : Mem) (r : Nat) (p : Mk) (u : Value) (a' k : Nat), s.m = M' ∧ MB M0 M' cb id a' bx r l p u ∧ p.w.length + k = N ∧ (∀ x ∈ p.w, 0 ≤ x ∧ x ≤ 4) ∧ (p.price ≤ 99 ∧ 1 ≤ p.price) ∧ (-5 ≤ p.make ∧ p.make ≤ 200) ∧ a' + 2 * k ≤ a6 + 18 ∧ s.t 0 = .pointer (some ⟨id, 0, none⟩) ∧ s.t 2 = .pointer (some ⟨M.length, 0, none⟩) ∧ s.t 5 = .pointer (some ⟨bx, 0, none⟩) ∧ s.t 6 = .int .i64 k) (fun s => (intOf (s.t 6)).toNat)
    ⟨N2, 0, _, _, a6, N, rfl, b7, by simp, by simp, ⟨hP.2, hP.1⟩, hyM2, by omega, rfl, rfl, rfl, rfl⟩ ?_
  rintro s ⟨M', r, p, u, a', k, tm, d, hk, hw, hpr, hmk, hak, t0, t2, t5, t6⟩
  by_cases hlt : 0 < k
  · have hlt' : (0 : Int) < k := by omega
    have dx := d.ext (new := [rowB [1, 2, 1, 0, 3, 4]]) (noRo_own noRo_nil)
    simp (config := {implicitDefEqProofs := false, maxDischargeDepth := 20}) (disch := first | omega | (simp only [lenE]; done) | (simp only [lenE]; omega) | rfl | (simp only [lenE, markR_len]; done) | (simp only [lenE, markR_len]; omega)) only [runE, mapE, listE, initT_5, initT_6, initT_7, initT_8, resV, oneV, binA, unA, reduceCtorEq, Nat.reduceEqDiff, Nat.reduceAdd, Nat.reduceLT, Nat.reduceLeDiff, Nat.reduceMul, Nat.reduceSub, ↓reduceIte, decide_true, decide_false, Bool.true_eq_false, Bool.false_eq_true, Bool.not_true, Bool.not_false, if_true, if_false, and_true, true_and, memE, celE, w64, Nat.zero_add, Nat.add_zero, Nat.mul_one, putL, and_self, ldn, tm, t0, t2, t5, t6, gt_iff_lt, hlt', bl_mW, d.rd, dx.rd]
    with_reducible refine ⟨?_, ?_, ?_⟩
    all_goals
      refine callH_ac (among_new M' cb id a' l [1, 2, 1, 0, 3, 4] d.cur (by omega) rfl rfl (by simp) (by simp)) ?_
      rintro v M2 ⟨x, hx, rfl, w2, a2, ha2, k2⟩
      have d2 := d.draw w2 k2
      obtain ⟨M3, M4, ap, sp, d4⟩ := d2.app (by omega) x
      simp (config := {implicitDefEqProofs := false, maxDischargeDepth := 20}) (disch := first | omega | (simp only [lenE]; done) | (simp only [lenE]; omega) | rfl | (simp only [lenE, markR_len]; done) | (simp only [lenE, markR_len]; omega)) only [runE, mapE, listE, initT_5, initT_6, initT_7, initT_8, resV, oneV, binA, unA, reduceCtorEq, Nat.reduceEqDiff, Nat.reduceAdd, Nat.reduceLT, Nat.reduceLeDiff, Nat.reduceMul, Nat.reduceSub, ↓reduceIte, decide_true, decide_false, Bool.true_eq_false, Bool.false_eq_true, Bool.not_true, Bool.not_false, if_true, if_false, and_true, true_and, memE, celE, w64, Nat.zero_add, Nat.add_zero, Nat.mul_one, putL, and_self, ldn, tm, t0, t2, t5, t6, d2.rd, bl_1w, ap, sp]
      refine ⟨⟨M4, _, _, _, a2, k - 1, rfl, d4, by simp; omega, fun y hy => ?_, hpr, hmk, by omega, by congr 1; omega⟩, by simp [intOf]; omega⟩
      rcases List.mem_append.1 hy with g | g
      · exact hw y g
      · rw [List.mem_singleton.1 g]
        simp at hx
        omega
  · have hlt' : ¬ ((0 : Int) < k) := by omega
    have e : k = 0 := by omega
    subst e
    have hwl : p.w.length ≤ 9 := by omega
    have hwp : 0 < p.w.length := by omega
    clear b7
    rw [hM0] at d
    simp (config := {implicitDefEqProofs := false, maxDischargeDepth := 20}) (disch := first | omega | (simp only [lenE]; done) | (simp only [lenE]; omega) | rfl | (simp only [lenE, markR_len]; done) | (simp only [lenE, markR_len]; omega)) only [runE, mapE, listE, initT_5, initT_6, initT_7, initT_8, resV, oneV, binA, unA, reduceCtorEq, Nat.reduceEqDiff, Nat.reduceAdd, Nat.reduceLT, Nat.reduceLeDiff, Nat.reduceMul, Nat.reduceSub, ↓reduceIte, decide_true, decide_false, Bool.true_eq_false, Bool.false_eq_true, Bool.not_true, Bool.not_false, if_true, if_false, and_true, true_and, memE, celE, w64, Nat.zero_add, Nat.add_zero, Nat.mul_one, putL, and_self, ldn, tm, t0, t2, t5, t6, gt_iff_lt, hlt', d.rd]
    refine callH_rc (l2Sum_rc _ u p.w (d.gr.ints (by omega)) (fun k hk => by have := sumTo_bound (m := 4) (by omega) hw k; omega)) ?_
    rintro v new ⟨rfl, rfl⟩
    generalize sumTo p.w p.w.length = sm
    cases hs : (sm == 0) with
    | false =>
      as_aux_lemma =>
      simp (config := {implicitDefEqProofs := false, maxDischargeDepth := 20}) (disch := first | omega | (simp only [lenE]; done) | (simp only [lenE]; omega) | rfl | (simp only [lenE, markR_len]; done) | (simp only [lenE, markR_len]; omega)) only [runE, mapE, listE, initT_5, initT_6, initT_7, initT_8, resV, oneV, binA, unA, reduceCtorEq, Nat.reduceEqDiff, Nat.reduceAdd, Nat.reduceLT, Nat.reduceLeDiff, Nat.reduceMul, Nat.reduceSub, ↓reduceIte, decide_true, decide_false, Bool.true_eq_false, Bool.false_eq_true, Bool.not_true, Bool.not_false, if_true, if_false, and_true, true_and, memE, celE, w64, Nat.zero_add, Nat.add_zero, Nat.mul_one, putL, and_self, ldn, tm, t0, t2, t5, t6, hs]
      refine callH_ac (pick_ac M' cb id a' l 40 d.cur (by omega) (by omega) (by omega)) ?_
      rintro v M2 ⟨x, rfl, hx0, hx1, w2, a2, ha2, k2⟩
      have d2 := d.draw w2 k2
      clear w2 k2 d
      by_cases x0 : x = 0
      · have x0' : (x == 0) = true := by simp [x0]
        simp (config := {implicitDefEqProofs := false, maxDischargeDepth := 20}) (disch := first | omega | (simp only [lenE]; done) | (simp only [lenE]; omega) | rfl | (simp only [lenE, markR_len]; done) | (simp only [lenE, markR_len]; omega)) only [runE, mapE, listE, initT_5, initT_6, initT_7, initT_8, resV, oneV, binA, unA, reduceCtorEq, Nat.reduceEqDiff, Nat.reduceAdd, Nat.reduceLT, Nat.reduceLeDiff, Nat.reduceMul, Nat.reduceSub, ↓reduceIte, decide_true, decide_false, Bool.true_eq_false, Bool.false_eq_true, Bool.not_true, Bool.not_false, if_true, if_false, and_true, true_and, memE, celE, w64, Nat.zero_add, Nat.add_zero, Nat.mul_one, putL, and_self, ldn, tm, t0, t2, t5, t6, x0', bl_m0]
        refine callH_ac (among_new M2 cb id a2 l [0, 99, 100] d2.cur (by omega) rfl rfl (by simp) (by simp)) ?_
        rintro v M3 ⟨y, hy, rfl, w3, a3, ha3, k3⟩
        have hy2 : y ≤ 100 := by simp at hy; omega
        have d3 := d2.draw w3 k3
        obtain ⟨s1, d4⟩ := d3.st 1 y { p with price := y } (by omega) (by simp [putL]) rfl
        simp (config := {implicitDefEqProofs := false, maxDischargeDepth := 20}) (disch := first | omega | (simp only [lenE]; done) | (simp only [lenE]; omega) | rfl | (simp only [lenE, markR_len]; done) | (simp only [lenE, markR_len]; omega)) only [runE, mapE, listE, initT_5, initT_6, initT_7, initT_8, resV, oneV, binA, unA, reduceCtorEq, Nat.reduceEqDiff, Nat.reduceAdd, Nat.reduceLT, Nat.reduceLeDiff, Nat.reduceMul, Nat.reduceSub, ↓reduceIte, decide_true, decide_false, Bool.true_eq_false, Bool.false_eq_true, Bool.not_true, Bool.not_false, if_true, if_false, and_true, true_and, memE, celE, w64, Nat.zero_add, Nat.add_zero, Nat.mul_one, putL, and_self, ldn, tm, t0, t2, t5, t6, s1]
        obtain ⟨N2, f1, f2, f3, f4, f5⟩ := MB.fin (s := { p with price := y }) d4 hid hcb (by first | omega | (simp; omega))
        simp (config := {implicitDefEqProofs := false, maxDischargeDepth := 20}) (disch := first | omega | (simp only [lenE]; done) | (simp only [lenE]; omega) | rfl | (simp only [lenE, markR_len]; done) | (simp only [lenE, markR_len]; omega)) only [runE, mapE, listE, initT_5, initT_6, initT_7, initT_8, resV, oneV, binA, unA, reduceCtorEq, Nat.reduceEqDiff, Nat.reduceAdd, Nat.reduceLT, Nat.reduceLeDiff, Nat.reduceMul, Nat.reduceSub, ↓reduceIte, decide_true, decide_false, Bool.true_eq_false, Bool.false_eq_true, Bool.not_true, Bool.not_false, if_true, if_false, and_true, true_and, memE, celE, w64, Nat.zero_add, Nat.add_zero, Nat.mul_one, putL, and_self, ldn, tm, t0, t2, t5, t6, d4.rd, f1, f2]
        exact ⟨{ p with price := y }, _, a3, rfl, by omega, f4, f5, f3, by first | omega | (simp; omega), by first | omega | (simp; omega)⟩
      · have x0' : (x == 0) = false := by simp [x0]
        by_cases x1 : x = 1
        · have x1' : (x == 1) = true := by simp [x1]
          simp (config := {implicitDefEqProofs := false, maxDischargeDepth := 20}) (disch := first | omega | (simp only [lenE]; done) | (simp only [lenE]; omega) | rfl | (simp only [lenE, markR_len]; done) | (simp only [lenE, markR_len]; omega)) only [runE, mapE, listE, initT_5, initT_6, initT_7, initT_8, resV, oneV, binA, unA, reduceCtorEq, Nat.reduceEqDiff, Nat.reduceAdd, Nat.reduceLT, Nat.reduceLeDiff, Nat.reduceMul, Nat.reduceSub, ↓reduceIte, decide_true, decide_false, Bool.true_eq_false, Bool.false_eq_true, Bool.not_true, Bool.not_false, if_true, if_false, and_true, true_and, memE, celE, w64, Nat.zero_add, Nat.add_zero, Nat.mul_one, putL, and_self, ldn, tm, t0, t2, t5, t6, x0', x1', d2.rd, bl_m1]
          refine callH_ac (among_new M2 cb id a2 l [-1, p.price, p.price + 1] d2.cur (by omega) rfl rfl (by simp) (by simp)) ?_
          rintro v M3 ⟨y, hy, rfl, w3, a3, ha3, k3⟩
          have d3 := d2.draw w3 k3
          obtain ⟨s1, d4⟩ := d3.st 2 y { p with make := y } (by omega) (by simp [putL]) rfl
          simp (config := {implicitDefEqProofs := false, maxDischargeDepth := 20}) (disch := first | omega | (simp only [lenE]; done) | (simp only [lenE]; omega) | rfl | (simp only [lenE, markR_len]; done) | (simp only [lenE, markR_len]; omega)) only [runE, mapE, listE, initT_5, initT_6, initT_7, initT_8, resV, oneV, binA, unA, reduceCtorEq, Nat.reduceEqDiff, Nat.reduceAdd, Nat.reduceLT, Nat.reduceLeDiff, Nat.reduceMul, Nat.reduceSub, ↓reduceIte, decide_true, decide_false, Bool.true_eq_false, Bool.false_eq_true, Bool.not_true, Bool.not_false, if_true, if_false, and_true, true_and, memE, celE, w64, Nat.zero_add, Nat.add_zero, Nat.mul_one, putL, and_self, ldn, tm, t0, t2, t5, t6, s1]
          obtain ⟨N2, f1, f2, f3, f4, f5⟩ := MB.fin (s := { p with make := y }) d4 hid hcb (by first | omega | (simp; omega))
          simp (config := {implicitDefEqProofs := false, maxDischargeDepth := 20}) (disch := first | omega | (simp only [lenE]; done) | (simp only [lenE]; omega) | rfl | (simp only [lenE, markR_len]; done) | (simp only [lenE, markR_len]; omega)) only [runE, mapE, listE, initT_5, initT_6, initT_7, initT_8, resV, oneV, binA, unA, reduceCtorEq, Nat.reduceEqDiff, Nat.reduceAdd, Nat.reduceLT, Nat.reduceLeDiff, Nat.reduceMul, Nat.reduceSub, ↓reduceIte, decide_true, decide_false, Bool.true_eq_false, Bool.false_eq_true, Bool.not_true, Bool.not_false, if_true, if_false, and_true, true_and, memE, celE, w64, Nat.zero_add, Nat.add_zero, Nat.mul_one, putL, and_self, ldn, tm, t0, t2, t5, t6, d4.rd, f1, f2]
          exact ⟨{ p with make := y }, _, a3, rfl, by omega, f4, f5, f3, by first | omega | (simp; omega), by first | omega | (simp; omega)⟩
        · have x1' : (x == 1) = false := by simp [x1]
          by_cases x2 : x = 2
          · have x2' : (x == 2) = true := by simp [x2]
            simp (config := {implicitDefEqProofs := false, maxDischargeDepth := 20}) (disch := first | omega | (simp only [lenE]; done) | (simp only [lenE]; omega) | rfl | (simp only [lenE, markR_len]; done) | (simp only [lenE, markR_len]; omega)) only [runE, mapE, listE, initT_5, initT_6, initT_7, initT_8, resV, oneV, binA, unA, reduceCtorEq, Nat.reduceEqDiff, Nat.reduceAdd, Nat.reduceLT, Nat.reduceLeDiff, Nat.reduceMul, Nat.reduceSub, ↓reduceIte, decide_true, decide_false, Bool.true_eq_false, Bool.false_eq_true, Bool.not_true, Bool.not_false, if_true, if_false, and_true, true_and, memE, celE, w64, Nat.zero_add, Nat.add_zero, Nat.mul_one, putL, and_self, ldn, tm, t0, t2, t5, t6, x0', x1', x2', d2.rd, bl_m1]
            refine callH_ac (among_new M2 cb id a2 l [-1, p.make, p.make + 1] d2.cur (by omega) rfl rfl (by simp) (by simp)) ?_
            rintro v M3 ⟨y, hy, rfl, w3, a3, ha3, k3⟩
            have d3 := d2.draw w3 k3
            obtain ⟨s1, d4⟩ := d3.st 3 y { p with left := y } (by omega) (by simp [putL]) rfl
            simp (config := {implicitDefEqProofs := false, maxDischargeDepth := 20}) (disch := first | omega | (simp only [lenE]; done) | (simp only [lenE]; omega) | rfl | (simp only [lenE, markR_len]; done) | (simp only [lenE, markR_len]; omega)) only [runE, mapE, listE, initT_5, initT_6, initT_7, initT_8, resV, oneV, binA, unA, reduceCtorEq, Nat.reduceEqDiff, Nat.reduceAdd, Nat.reduceLT, Nat.reduceLeDiff, Nat.reduceMul, Nat.reduceSub, ↓reduceIte, decide_true, decide_false, Bool.true_eq_false, Bool.false_eq_true, Bool.not_true, Bool.not_false, if_true, if_false, and_true, true_and, memE, celE, w64, Nat.zero_add, Nat.add_zero, Nat.mul_one, putL, and_self, ldn, tm, t0, t2, t5, t6, s1]
            obtain ⟨N2, f1, f2, f3, f4, f5⟩ := MB.fin (s := { p with left := y }) d4 hid hcb (by first | omega | (simp; omega))
            simp (config := {implicitDefEqProofs := false, maxDischargeDepth := 20}) (disch := first | omega | (simp only [lenE]; done) | (simp only [lenE]; omega) | rfl | (simp only [lenE, markR_len]; done) | (simp only [lenE, markR_len]; omega)) only [runE, mapE, listE, initT_5, initT_6, initT_7, initT_8, resV, oneV, binA, unA, reduceCtorEq, Nat.reduceEqDiff, Nat.reduceAdd, Nat.reduceLT, Nat.reduceLeDiff, Nat.reduceMul, Nat.reduceSub, ↓reduceIte, decide_true, decide_false, Bool.true_eq_false, Bool.false_eq_true, Bool.not_true, Bool.not_false, if_true, if_false, and_true, true_and, memE, celE, w64, Nat.zero_add, Nat.add_zero, Nat.mul_one, putL, and_self, ldn, tm, t0, t2, t5, t6, d4.rd, f1, f2]
            exact ⟨{ p with left := y }, _, a3, rfl, by omega, f4, f5, f3, by first | omega | (simp; omega), by first | omega | (simp; omega)⟩
          · have x2' : (x == 2) = false := by simp [x2]
            by_cases x3 : x = 3
            · have x3' : (x == 3) = true := by simp [x3]
              have dx := d2.ext (new := [rowB [-1, 5]]) (noRo_own noRo_nil)
              simp (config := {implicitDefEqProofs := false, maxDischargeDepth := 20}) (disch := first | omega | (simp only [lenE]; done) | (simp only [lenE]; omega) | rfl | (simp only [lenE, markR_len]; done) | (simp only [lenE, markR_len]; omega)) only [runE, mapE, listE, initT_5, initT_6, initT_7, initT_8, resV, oneV, binA, unA, reduceCtorEq, Nat.reduceEqDiff, Nat.reduceAdd, Nat.reduceLT, Nat.reduceLeDiff, Nat.reduceMul, Nat.reduceSub, ↓reduceIte, decide_true, decide_false, Bool.true_eq_false, Bool.false_eq_true, Bool.not_true, Bool.not_false, if_true, if_false, and_true, true_and, memE, celE, w64, Nat.zero_add, Nat.add_zero, Nat.mul_one, putL, and_self, ldn, tm, t0, t2, t5, t6, x0', x1', x2', x3', bl_m3, d2.rd, dx.rd]
              with_reducible refine ⟨?_, ?_, ?_⟩
              all_goals
                refine callH_ac (among_new M2 cb id a2 l [-1, 5] d2.cur (by omega) rfl rfl (by simp) (by simp)) ?_
                rintro v M3 ⟨y, -, rfl, w3, a3, ha3, k3⟩
                have d3 := d2.draw w3 k3
                obtain ⟨M4, i0, s1, d4⟩ := d3.put (by omega) hwp y
                simp (config := {implicitDefEqProofs := false, maxDischargeDepth := 20}) (disch := first | omega | (simp only [lenE]; done) | (simp only [lenE]; omega) | rfl | (simp only [lenE, markR_len]; done) | (simp only [lenE, markR_len]; omega)) only [runE, mapE, listE, initT_5, initT_6, initT_7, initT_8, resV, oneV, binA, unA, reduceCtorEq, Nat.reduceEqDiff, Nat.reduceAdd, Nat.reduceLT, Nat.reduceLeDiff, Nat.reduceMul, Nat.reduceSub, ↓reduceIte, decide_true, decide_false, Bool.true_eq_false, Bool.false_eq_true, Bool.not_true, Bool.not_false, if_true, if_false, and_true, true_and, memE, celE, w64, Nat.zero_add, Nat.add_zero, Nat.mul_one, putL, and_self, ldn, tm, t0, t2, t5, t6, d3.rd, i0, s1]
                obtain ⟨N2, f1, f2, f3, f4, f5⟩ := MB.fin (s := { p with w := p.w.set 0 y }) d4 hid hcb (by first | omega | (simp; omega))
                simp (config := {implicitDefEqProofs := false, maxDischargeDepth := 20}) (disch := first | omega | (simp only [lenE]; done) | (simp only [lenE]; omega) | rfl | (simp only [lenE, markR_len]; done) | (simp only [lenE, markR_len]; omega)) only [runE, mapE, listE, initT_5, initT_6, initT_7, initT_8, resV, oneV, binA, unA, reduceCtorEq, Nat.reduceEqDiff, Nat.reduceAdd, Nat.reduceLT, Nat.reduceLeDiff, Nat.reduceMul, Nat.reduceSub, ↓reduceIte, decide_true, decide_false, Bool.true_eq_false, Bool.false_eq_true, Bool.not_true, Bool.not_false, if_true, if_false, and_true, true_and, memE, celE, w64, Nat.zero_add, Nat.add_zero, Nat.mul_one, putL, and_self, ldn, tm, t0, t2, t5, t6, d4.rd, f1, f2]
                exact ⟨{ p with w := p.w.set 0 y }, _, a3, rfl, by omega, f4, f5, f3, by first | omega | (simp; omega), by first | omega | (simp; omega)⟩
            · have x3' : (x == 3) = false := by simp [x3]
              by_cases x4 : x = 4
              · have x4' : (x == 4) = true := by simp [x4]
                simp (config := {implicitDefEqProofs := false, maxDischargeDepth := 20}) (disch := first | omega | (simp only [lenE]; done) | (simp only [lenE]; omega) | rfl | (simp only [lenE, markR_len]; done) | (simp only [lenE, markR_len]; omega)) only [runE, mapE, listE, initT_5, initT_6, initT_7, initT_8, resV, oneV, binA, unA, reduceCtorEq, Nat.reduceEqDiff, Nat.reduceAdd, Nat.reduceLT, Nat.reduceLeDiff, Nat.reduceMul, Nat.reduceSub, ↓reduceIte, decide_true, decide_false, Bool.true_eq_false, Bool.false_eq_true, Bool.not_true, Bool.not_false, if_true, if_false, and_true, true_and, memE, celE, w64, Nat.zero_add, Nat.add_zero, Nat.mul_one, putL, and_self, ldn, tm, t0, t2, t5, t6, x0', x1', x2', x3', x4']
                refine loop_inv mixed (fun s => ∃ (M' : Mem) (r : Nat) (p9 : Mk) (u : Value), s.m = M' ∧ MB (M ++ [⟨.own, 26, [.slice none 0 0, .int .i64 0, .int .i64 0, .int .i64 0]⟩]) M' cb id a2 bx r l p9 u ∧ p9.w.length ≤ 20 ∧ p9.price = p.price ∧ s.t 0 = .pointer (some ⟨id, 0, none⟩) ∧ s.t 2 = .pointer (some ⟨M.length, 0, none⟩) ∧ s.t 5 = .pointer (some ⟨bx, 0, none⟩)) (fun s => 30 - ((rdc s.m bx 0).elim 0 lenOfA))
                  ⟨M2, _, p, _, rfl, d2, by omega, rfl, by simp only [put_t, put_t', put_m, putT_t, putT_t', putT_m, init_t, init_m, initT_0, initT_1, initT_2, initT_3, initT_4, initT_5, initT_6, initT_7, initT_8, Nat.reduceEqDiff, ↓reduceIte, t0], by simp only [put_t, put_t', put_m, putT_t, putT_t', putT_m, init_t, init_m, initT_0, initT_1, initT_2, initT_3, initT_4, initT_5, initT_6, initT_7, initT_8, Nat.reduceEqDiff, ↓reduceIte, t2], by simp only [put_t, put_t', put_m, putT_t, putT_t', putT_m, init_t, init_m, initT_0, initT_1, initT_2, initT_3, initT_4, initT_5, initT_6, initT_7, initT_8, Nat.reduceEqDiff, ↓reduceIte, t5]⟩ ?_
                clear d2
                rintro s ⟨M', r, p9, u, tm, d2, hl20, hpp, t0, t2, t5⟩
                have hgl := (d2.gr.ints (by omega)).len
                by_cases h10 : (p9.w.length : Int) < 10
                · obtain ⟨M3, M4, ap, sp, d4⟩ := d2.app (by omega) 1
                  simp (config := {implicitDefEqProofs := false, maxDischargeDepth := 20}) (disch := first | omega | (simp only [lenE]; done) | (simp only [lenE]; omega) | rfl | (simp only [lenE, markR_len]; done) | (simp only [lenE, markR_len]; omega)) only [runE, mapE, listE, initT_5, initT_6, initT_7, initT_8, resV, oneV, binA, unA, reduceCtorEq, Nat.reduceEqDiff, Nat.reduceAdd, Nat.reduceLT, Nat.reduceLeDiff, Nat.reduceMul, Nat.reduceSub, ↓reduceIte, decide_true, decide_false, Bool.true_eq_false, Bool.false_eq_true, Bool.not_true, Bool.not_false, if_true, if_false, and_true, true_and, memE, celE, w64, Nat.zero_add, Nat.add_zero, Nat.mul_one, putL, and_self, ldn, tm, t0, t2, t5, d2.rd, hgl, h10, bl_1w, ap, sp]
                  refine ⟨⟨M4, _, _, _, rfl, d4, by simp; omega, hpp⟩, ?_⟩
                  have e1 : lenOfA u = p9.w.length := by
                    rcases d2.gr with ⟨rfl, e⟩ | ⟨rfl, -, -⟩
                    · rw [e]; rfl
                    · rfl
                  rw [d4.rd]
                  show 30 - (p9.w.length + 1) < 30 - lenOfA u
                  rw [e1]; omega
                · simp (config := {implicitDefEqProofs := false, maxDischargeDepth := 20}) (disch := first | omega | (simp only [lenE]; done) | (simp only [lenE]; omega) | rfl | (simp only [lenE, markR_len]; done) | (simp only [lenE, markR_len]; omega)) only [runE, mapE, listE, initT_5, initT_6, initT_7, initT_8, resV, oneV, binA, unA, reduceCtorEq, Nat.reduceEqDiff, Nat.reduceAdd, Nat.reduceLT, Nat.reduceLeDiff, Nat.reduceMul, Nat.reduceSub, ↓reduceIte, decide_true, decide_false, Bool.true_eq_false, Bool.false_eq_true, Bool.not_true, Bool.not_false, if_true, if_false, and_true, true_and, memE, celE, w64, Nat.zero_add, Nat.add_zero, Nat.mul_one, putL, and_self, ldn, tm, t0, t2, t5, d2.rd, hgl, h10]
                  obtain ⟨N2, f1, f2, f3, f4, f5⟩ := MB.fin (s := p9) d2 hid hcb (by first | omega | (simp; omega))
                  simp (config := {implicitDefEqProofs := false, maxDischargeDepth := 20}) (disch := first | omega | (simp only [lenE]; done) | (simp only [lenE]; omega) | rfl | (simp only [lenE, markR_len]; done) | (simp only [lenE, markR_len]; omega)) only [runE, mapE, listE, initT_5, initT_6, initT_7, initT_8, resV, oneV, binA, unA, reduceCtorEq, Nat.reduceEqDiff, Nat.reduceAdd, Nat.reduceLT, Nat.reduceLeDiff, Nat.reduceMul, Nat.reduceSub, ↓reduceIte, decide_true, decide_false, Bool.true_eq_false, Bool.false_eq_true, Bool.not_true, Bool.not_false, if_true, if_false, and_true, true_and, memE, celE, w64, Nat.zero_add, Nat.add_zero, Nat.mul_one, putL, and_self, ldn, tm, t0, t2, t5, d2.rd, f1, f2]
                  exact ⟨p9, _, a2, rfl, by omega, f4, f5, f3, by first | omega | (simp; omega), by first | omega | (simp; omega)⟩
              · have x4' : (x == 4) = false := by simp [x4]
                simp (config := {implicitDefEqProofs := false, maxDischargeDepth := 20}) (disch := first | omega | (simp only [lenE]; done) | (simp only [lenE]; omega) | rfl | (simp only [lenE, markR_len]; done) | (simp only [lenE, markR_len]; omega)) only [runE, mapE, listE, initT_5, initT_6, initT_7, initT_8, resV, oneV, binA, unA, reduceCtorEq, Nat.reduceEqDiff, Nat.reduceAdd, Nat.reduceLT, Nat.reduceLeDiff, Nat.reduceMul, Nat.reduceSub, ↓reduceIte, decide_true, decide_false, Bool.true_eq_false, Bool.false_eq_true, Bool.not_true, Bool.not_false, if_true, if_false, and_true, true_and, memE, celE, w64, Nat.zero_add, Nat.add_zero, Nat.mul_one, putL, and_self, ldn, tm, t0, t2, t5, t6, x0', x1', x2', x3', x4']
                obtain ⟨N2, f1, f2, f3, f4, f5⟩ := MB.fin (s := p) d2 hid hcb (by first | omega | (simp; omega))
                simp (config := {implicitDefEqProofs := false, maxDischargeDepth := 20}) (disch := first | omega | (simp only [lenE]; done) | (simp only [lenE]; omega) | rfl | (simp only [lenE, markR_len]; done) | (simp only [lenE, markR_len]; omega)) only [runE, mapE, listE, initT_5, initT_6, initT_7, initT_8, resV, oneV, binA, unA, reduceCtorEq, Nat.reduceEqDiff, Nat.reduceAdd, Nat.reduceLT, Nat.reduceLeDiff, Nat.reduceMul, Nat.reduceSub, ↓reduceIte, decide_true, decide_false, Bool.true_eq_false, Bool.false_eq_true, Bool.not_true, Bool.not_false, if_true, if_false, and_true, true_and, memE, celE, w64, Nat.zero_add, Nat.add_zero, Nat.mul_one, putL, and_self, ldn, tm, t0, t2, t5, t6, d2.rd, f1, f2]
                exact ⟨p, _, a2, rfl, by omega, f4, f5, f3, by first | omega | (simp; omega), by first | omega | (simp; omega)⟩
    | true =>
      as_aux_lemma =>
      obtain ⟨Mq, i0, sp, dq⟩ := d.put (by omega) hwp 1
      simp (config := {implicitDefEqProofs := false, maxDischargeDepth := 20}) (disch := first | omega | (simp only [lenE]; done) | (simp only [lenE]; omega) | rfl | (simp only [lenE, markR_len]; done) | (simp only [lenE, markR_len]; omega)) only [runE, mapE, listE, initT_5, initT_6, initT_7, initT_8, resV, oneV, binA, unA, reduceCtorEq, Nat.reduceEqDiff, Nat.reduceAdd, Nat.reduceLT, Nat.reduceLeDiff, Nat.reduceMul, Nat.reduceSub, ↓reduceIte, decide_true, decide_false, Bool.true_eq_false, Bool.false_eq_true, Bool.not_true, Bool.not_false, if_true, if_false, and_true, true_and, memE, celE, w64, Nat.zero_add, Nat.add_zero, Nat.mul_one, putL, and_self, ldn, tm, t0, t2, t5, t6, hs, d.rd, i0, sp]
      clear d
      have d := dq
      clear dq sp i0
      generalize hpp : ({ p with w := p.w.set 0 1 } : Mk) = p' at d
      clear hw hs
      have hwl : p'.w.length ≤ 9 := by rw [← hpp]; simpa using hwl
      have hwp : 0 < p'.w.length := by rw [← hpp]; simpa using hwp
      have hpr : p'.price ≤ 99 ∧ 1 ≤ p'.price := by rw [← hpp]; exact hpr
      have hmk : -5 ≤ p'.make ∧ p'.make ≤ 200 := by rw [← hpp]; exact hmk
      clear hpp
      obtain ⟨M', hM'⟩ : ∃ M', M' = Mq := ⟨_, rfl⟩
      rw [← hM'] at d
      rw [← hM']
      refine callH_ac (pick_ac M' cb id a' l 40 d.cur (by omega) (by omega) (by omega)) ?_
      rintro v M2 ⟨x, rfl, hx0, hx1, w2, a2, ha2, k2⟩
      have d2 := d.draw w2 k2
      clear w2 k2 d
      by_cases x0 : x = 0
      · have x0' : (x == 0) = true := by simp [x0]
        simp (config := {implicitDefEqProofs := false, maxDischargeDepth := 20}) (disch := first | omega | (simp only [lenE]; done) | (simp only [lenE]; omega) | rfl | (simp only [lenE, markR_len]; done) | (simp only [lenE, markR_len]; omega)) only [runE, mapE, listE, initT_5, initT_6, initT_7, initT_8, resV, oneV, binA, unA, reduceCtorEq, Nat.reduceEqDiff, Nat.reduceAdd, Nat.reduceLT, Nat.reduceLeDiff, Nat.reduceMul, Nat.reduceSub, ↓reduceIte, decide_true, decide_false, Bool.true_eq_false, Bool.false_eq_true, Bool.not_true, Bool.not_false, if_true, if_false, and_true, true_and, memE, celE, w64, Nat.zero_add, Nat.add_zero, Nat.mul_one, putL, and_self, ldn, tm, t0, t2, t5, t6, x0', bl_m0]
        refine callH_ac (among_new M2 cb id a2 l [0, 99, 100] d2.cur (by omega) rfl rfl (by simp) (by simp)) ?_
        rintro v M3 ⟨y, hy, rfl, w3, a3, ha3, k3⟩
        have hy2 : y ≤ 100 := by simp at hy; omega
        have d3 := d2.draw w3 k3
        obtain ⟨s1, d4⟩ := d3.st 1 y { p' with price := y } (by omega) (by simp [putL]) rfl
        simp (config := {implicitDefEqProofs := false, maxDischargeDepth := 20}) (disch := first | omega | (simp only [lenE]; done) | (simp only [lenE]; omega) | rfl | (simp only [lenE, markR_len]; done) | (simp only [lenE, markR_len]; omega)) only [runE, mapE, listE, initT_5, initT_6, initT_7, initT_8, resV, oneV, binA, unA, reduceCtorEq, Nat.reduceEqDiff, Nat.reduceAdd, Nat.reduceLT, Nat.reduceLeDiff, Nat.reduceMul, Nat.reduceSub, ↓reduceIte, decide_true, decide_false, Bool.true_eq_false, Bool.false_eq_true, Bool.not_true, Bool.not_false, if_true, if_false, and_true, true_and, memE, celE, w64, Nat.zero_add, Nat.add_zero, Nat.mul_one, putL, and_self, ldn, tm, t0, t2, t5, t6, s1]
        obtain ⟨N2, f1, f2, f3, f4, f5⟩ := MB.fin (s := { p' with price := y }) d4 hid hcb (by first | omega | (simp; omega))
        simp (config := {implicitDefEqProofs := false, maxDischargeDepth := 20}) (disch := first | omega | (simp only [lenE]; done) | (simp only [lenE]; omega) | rfl | (simp only [lenE, markR_len]; done) | (simp only [lenE, markR_len]; omega)) only [runE, mapE, listE, initT_5, initT_6, initT_7, initT_8, resV, oneV, binA, unA, reduceCtorEq, Nat.reduceEqDiff, Nat.reduceAdd, Nat.reduceLT, Nat.reduceLeDiff, Nat.reduceMul, Nat.reduceSub, ↓reduceIte, decide_true, decide_false, Bool.true_eq_false, Bool.false_eq_true, Bool.not_true, Bool.not_false, if_true, if_false, and_true, true_and, memE, celE, w64, Nat.zero_add, Nat.add_zero, Nat.mul_one, putL, and_self, ldn, tm, t0, t2, t5, t6, d4.rd, f1, f2]
        exact ⟨{ p' with price := y }, _, a3, rfl, by omega, f4, f5, f3, by first | omega | (simp; omega), by first | omega | (simp; omega)⟩
      · have x0' : (x == 0) = false := by simp [x0]
        by_cases x1 : x = 1
        · have x1' : (x == 1) = true := by simp [x1]
          simp (config := {implicitDefEqProofs := false, maxDischargeDepth := 20}) (disch := first | omega | (simp only [lenE]; done) | (simp only [lenE]; omega) | rfl | (simp only [lenE, markR_len]; done) | (simp only [lenE, markR_len]; omega)) only [runE, mapE, listE, initT_5, initT_6, initT_7, initT_8, resV, oneV, binA, unA, reduceCtorEq, Nat.reduceEqDiff, Nat.reduceAdd, Nat.reduceLT, Nat.reduceLeDiff, Nat.reduceMul, Nat.reduceSub, ↓reduceIte, decide_true, decide_false, Bool.true_eq_false, Bool.false_eq_true, Bool.not_true, Bool.not_false, if_true, if_false, and_true, true_and, memE, celE, w64, Nat.zero_add, Nat.add_zero, Nat.mul_one, putL, and_self, ldn, tm, t0, t2, t5, t6, x0', x1', d2.rd, bl_m1]
          refine callH_ac (among_new M2 cb id a2 l [-1, p'.price, p'.price + 1] d2.cur (by omega) rfl rfl (by simp) (by simp)) ?_
          rintro v M3 ⟨y, hy, rfl, w3, a3, ha3, k3⟩
          have d3 := d2.draw w3 k3
          obtain ⟨s1, d4⟩ := d3.st 2 y { p' with make := y } (by omega) (by simp [putL]) rfl
          simp (config := {implicitDefEqProofs := false, maxDischargeDepth := 20}) (disch := first | omega | (simp only [lenE]; done) | (simp only [lenE]; omega) | rfl | (simp only [lenE, markR_len]; done) | (simp only [lenE, markR_len]; omega)) only [runE, mapE, listE, initT_5, initT_6, initT_7, initT_8, resV, oneV, binA, unA, reduceCtorEq, Nat.reduceEqDiff, Nat.reduceAdd, Nat.reduceLT, Nat.reduceLeDiff, Nat.reduceMul, Nat.reduceSub, ↓reduceIte, decide_true, decide_false, Bool.true_eq_false, Bool.false_eq_true, Bool.not_true, Bool.not_false, if_true, if_false, and_true, true_and, memE, celE, w64, Nat.zero_add, Nat.add_zero, Nat.mul_one, putL, and_self, ldn, tm, t0, t2, t5, t6, s1]
          obtain ⟨N2, f1, f2, f3, f4, f5⟩ := MB.fin (s := { p' with make := y }) d4 hid hcb (by first | omega | (simp; omega))
          simp (config := {implicitDefEqProofs := false, maxDischargeDepth := 20}) (disch := first | omega | (simp only [lenE]; done) | (simp only [lenE]; omega) | rfl | (simp only [lenE, markR_len]; done) | (simp only [lenE, markR_len]; omega)) only [runE, mapE, listE, initT_5, initT_6, initT_7, initT_8, resV, oneV, binA, unA, reduceCtorEq, Nat.reduceEqDiff, Nat.reduceAdd, Nat.reduceLT, Nat.reduceLeDiff, Nat.reduceMul, Nat.reduceSub, ↓reduceIte, decide_true, decide_false, Bool.true_eq_false, Bool.false_eq_true, Bool.not_true, Bool.not_false, if_true, if_false, and_true, true_and, memE, celE, w64, Nat.zero_add, Nat.add_zero, Nat.mul_one, putL, and_self, ldn, tm, t0, t2, t5, t6, d4.rd, f1, f2]
          exact ⟨{ p' with make := y }, _, a3, rfl, by omega, f4, f5, f3, by first | omega | (simp; omega), by first | omega | (simp; omega)⟩
        · have x1' : (x == 1) = false := by simp [x1]
          by_cases x2 : x = 2
          · have x2' : (x == 2) = true := by simp [x2]
            simp (config := {implicitDefEqProofs := false, maxDischargeDepth := 20}) (disch := first | omega | (simp only [lenE]; done) | (simp only [lenE]; omega) | rfl | (simp only [lenE, markR_len]; done) | (simp only [lenE, markR_len]; omega)) only [runE, mapE, listE, initT_5, initT_6, initT_7, initT_8, resV, oneV, binA, unA, reduceCtorEq, Nat.reduceEqDiff, Nat.reduceAdd, Nat.reduceLT, Nat.reduceLeDiff, Nat.reduceMul, Nat.reduceSub, ↓reduceIte, decide_true, decide_false, Bool.true_eq_false, Bool.false_eq_true, Bool.not_true, Bool.not_false, if_true, if_false, and_true, true_and, memE, celE, w64, Nat.zero_add, Nat.add_zero, Nat.mul_one, putL, and_self, ldn, tm, t0, t2, t5, t6, x0', x1', x2', d2.rd, bl_m1]
            refine callH_ac (among_new M2 cb id a2 l [-1, p'.make, p'.make + 1] d2.cur (by omega) rfl rfl (by simp) (by simp)) ?_
            rintro v M3 ⟨y, hy, rfl, w3, a3, ha3, k3⟩
            have d3 := d2.draw w3 k3
            obtain ⟨s1, d4⟩ := d3.st 3 y { p' with left := y } (by omega) (by simp [putL]) rfl
            simp (config := {implicitDefEqProofs := false, maxDischargeDepth := 20}) (disch := first | omega | (simp only [lenE]; done) | (simp only [lenE]; omega) | rfl | (simp only [lenE, markR_len]; done) | (simp only [lenE, markR_len]; omega)) only [runE, mapE, listE, initT_5, initT_6, initT_7, initT_8, resV, oneV, binA, unA, reduceCtorEq, Nat.reduceEqDiff, Nat.reduceAdd, Nat.reduceLT, Nat.reduceLeDiff, Nat.reduceMul, Nat.reduceSub, ↓reduceIte, decide_true, decide_false, Bool.true_eq_false, Bool.false_eq_true, Bool.not_true, Bool.not_false, if_true, if_false, and_true, true_and, memE, celE, w64, Nat.zero_add, Nat.add_zero, Nat.mul_one, putL, and_self, ldn, tm, t0, t2, t5, t6, s1]
            obtain ⟨N2, f1, f2, f3, f4, f5⟩ := MB.fin (s := { p' with left := y }) d4 hid hcb (by first | omega | (simp; omega))
            simp (config := {implicitDefEqProofs := false, maxDischargeDepth := 20}) (disch := first | omega | (simp only [lenE]; done) | (simp only [lenE]; omega) | rfl | (simp only [lenE, markR_len]; done) | (simp only [lenE, markR_len]; omega)) only [runE, mapE, listE, initT_5, initT_6, initT_7, initT_8, resV, oneV, binA, unA, reduceCtorEq, Nat.reduceEqDiff, Nat.reduceAdd, Nat.reduceLT, Nat.reduceLeDiff, Nat.reduceMul, Nat.reduceSub, ↓reduceIte, decide_true, decide_false, Bool.true_eq_false, Bool.false_eq_true, Bool.not_true, Bool.not_false, if_true, if_false, and_true, true_and, memE, celE, w64, Nat.zero_add, Nat.add_zero, Nat.mul_one, putL, and_self, ldn, tm, t0, t2, t5, t6, d4.rd, f1, f2]
            exact ⟨{ p' with left := y }, _, a3, rfl, by omega, f4, f5, f3, by first | omega | (simp; omega), by first | omega | (simp; omega)⟩
          · have x2' : (x == 2) = false := by simp [x2]
            by_cases x3 : x = 3
            · have x3' : (x == 3) = true := by simp [x3]
              have dx := d2.ext (new := [rowB [-1, 5]]) (noRo_own noRo_nil)
              simp (config := {implicitDefEqProofs := false, maxDischargeDepth := 20}) (disch := first | omega | (simp only [lenE]; done) | (simp only [lenE]; omega) | rfl | (simp only [lenE, markR_len]; done) | (simp only [lenE, markR_len]; omega)) only [runE, mapE, listE, initT_5, initT_6, initT_7, initT_8, resV, oneV, binA, unA, reduceCtorEq, Nat.reduceEqDiff, Nat.reduceAdd, Nat.reduceLT, Nat.reduceLeDiff, Nat.reduceMul, Nat.reduceSub, ↓reduceIte, decide_true, decide_false, Bool.true_eq_false, Bool.false_eq_true, Bool.not_true, Bool.not_false, if_true, if_false, and_true, true_and, memE, celE, w64, Nat.zero_add, Nat.add_zero, Nat.mul_one, putL, and_self, ldn, tm, t0, t2, t5, t6, x0', x1', x2', x3', bl_m3, d2.rd, dx.rd]
              with_reducible refine ⟨?_, ?_, ?_⟩
              all_goals
                refine callH_ac (among_new M2 cb id a2 l [-1, 5] d2.cur (by omega) rfl rfl (by simp) (by simp)) ?_
                rintro v M3 ⟨y, -, rfl, w3, a3, ha3, k3⟩
                have d3 := d2.draw w3 k3
                obtain ⟨M4, i0, s1, d4⟩ := d3.put (by omega) hwp y
                simp (config := {implicitDefEqProofs := false, maxDischargeDepth := 20}) (disch := first | omega | (simp only [lenE]; done) | (simp only [lenE]; omega) | rfl | (simp only [lenE, markR_len]; done) | (simp only [lenE, markR_len]; omega)) only [runE, mapE, listE, initT_5, initT_6, initT_7, initT_8, resV, oneV, binA, unA, reduceCtorEq, Nat.reduceEqDiff, Nat.reduceAdd, Nat.reduceLT, Nat.reduceLeDiff, Nat.reduceMul, Nat.reduceSub, ↓reduceIte, decide_true, decide_false, Bool.true_eq_false, Bool.false_eq_true, Bool.not_true, Bool.not_false, if_true, if_false, and_true, true_and, memE, celE, w64, Nat.zero_add, Nat.add_zero, Nat.mul_one, putL, and_self, ldn, tm, t0, t2, t5, t6, d3.rd, i0, s1]
                obtain ⟨N2, f1, f2, f3, f4, f5⟩ := MB.fin (s := { p' with w := p'.w.set 0 y }) d4 hid hcb (by first | omega | (simp; omega))
                simp (config := {implicitDefEqProofs := false, maxDischargeDepth := 20}) (disch := first | omega | (simp only [lenE]; done) | (simp only [lenE]; omega) | rfl | (simp only [lenE, markR_len]; done) | (simp only [lenE, markR_len]; omega)) only [runE, mapE, listE, initT_5, initT_6, initT_7, initT_8, resV, oneV, binA, unA, reduceCtorEq, Nat.reduceEqDiff, Nat.reduceAdd, Nat.reduceLT, Nat.reduceLeDiff, Nat.reduceMul, Nat.reduceSub, ↓reduceIte, decide_true, decide_false, Bool.true_eq_false, Bool.false_eq_true, Bool.not_true, Bool.not_false, if_true, if_false, and_true, true_and, memE, celE, w64, Nat.zero_add, Nat.add_zero, Nat.mul_one, putL, and_self, ldn, tm, t0, t2, t5, t6, d4.rd, f1, f2]
                exact ⟨{ p' with w := p'.w.set 0 y }, _, a3, rfl, by omega, f4, f5, f3, by first | omega | (simp; omega), by first | omega | (simp; omega)⟩
            · have x3' : (x == 3) = false := by simp [x3]
              by_cases x4 : x = 4
              · have x4' : (x == 4) = true := by simp [x4]
                simp (config := {implicitDefEqProofs := false, maxDischargeDepth := 20}) (disch := first | omega | (simp only [lenE]; done) | (simp only [lenE]; omega) | rfl | (simp only [lenE, markR_len]; done) | (simp only [lenE, markR_len]; omega)) only [runE, mapE, listE, initT_5, initT_6, initT_7, initT_8, resV, oneV, binA, unA, reduceCtorEq, Nat.reduceEqDiff, Nat.reduceAdd, Nat.reduceLT, Nat.reduceLeDiff, Nat.reduceMul, Nat.reduceSub, ↓reduceIte, decide_true, decide_false, Bool.true_eq_false, Bool.false_eq_true, Bool.not_true, Bool.not_false, if_true, if_false, and_true, true_and, memE, celE, w64, Nat.zero_add, Nat.add_zero, Nat.mul_one, putL, and_self, ldn, tm, t0, t2, t5, t6, x0', x1', x2', x3', x4']
                refine loop_inv mixed (fun s => ∃ (M' : Mem) (r : Nat) (p9 : Mk) (u : Value), s.m = M' ∧ MB (M ++ [⟨.own, 26, [.slice none 0 0, .int .i64 0, .int .i64 0, .int .i64 0]⟩]) M' cb id a2 bx r l p9 u ∧ p9.w.length ≤ 20 ∧ p9.price = p'.price ∧ s.t 0 = .pointer (some ⟨id, 0, none⟩) ∧ s.t 2 = .pointer (some ⟨M.length, 0, none⟩) ∧ s.t 5 = .pointer (some ⟨bx, 0, none⟩)) (fun s => 30 - ((rdc s.m bx 0).elim 0 lenOfA))
                  ⟨M2, _, p', _, rfl, d2, by omega, rfl, by simp only [put_t, put_t', put_m, putT_t, putT_t', putT_m, init_t, init_m, initT_0, initT_1, initT_2, initT_3, initT_4, initT_5, initT_6, initT_7, initT_8, Nat.reduceEqDiff, ↓reduceIte, t0], by simp only [put_t, put_t', put_m, putT_t, putT_t', putT_m, init_t, init_m, initT_0, initT_1, initT_2, initT_3, initT_4, initT_5, initT_6, initT_7, initT_8, Nat.reduceEqDiff, ↓reduceIte, t2], by simp only [put_t, put_t', put_m, putT_t, putT_t', putT_m, init_t, init_m, initT_0, initT_1, initT_2, initT_3, initT_4, initT_5, initT_6, initT_7, initT_8, Nat.reduceEqDiff, ↓reduceIte, t5]⟩ ?_
                clear d2
                rintro s ⟨M', r, p9, u, tm, d2, hl20, hpp, t0, t2, t5⟩
                have hgl := (d2.gr.ints (by omega)).len
                by_cases h10 : (p9.w.length : Int) < 10
                · obtain ⟨M3, M4, ap, sp, d4⟩ := d2.app (by omega) 1
                  simp (config := {implicitDefEqProofs := false, maxDischargeDepth := 20}) (disch := first | omega | (simp only [lenE]; done) | (simp only [lenE]; omega) | rfl | (simp only [lenE, markR_len]; done) | (simp only [lenE, markR_len]; omega)) only [runE, mapE, listE, initT_5, initT_6, initT_7, initT_8, resV, oneV, binA, unA, reduceCtorEq, Nat.reduceEqDiff, Nat.reduceAdd, Nat.reduceLT, Nat.reduceLeDiff, Nat.reduceMul, Nat.reduceSub, ↓reduceIte, decide_true, decide_false, Bool.true_eq_false, Bool.false_eq_true, Bool.not_true, Bool.not_false, if_true, if_false, and_true, true_and, memE, celE, w64, Nat.zero_add, Nat.add_zero, Nat.mul_one, putL, and_self, ldn, tm, t0, t2, t5, d2.rd, hgl, h10, bl_1w, ap, sp]
                  refine ⟨⟨M4, _, _, _, rfl, d4, by simp; omega, hpp⟩, ?_⟩
                  have e1 : lenOfA u = p9.w.length := by
                    rcases d2.gr with ⟨rfl, e⟩ | ⟨rfl, -, -⟩
                    · rw [e]; rfl
                    · rfl
                  rw [d4.rd]
                  show 30 - (p9.w.length + 1) < 30 - lenOfA u
                  rw [e1]; omega
                · simp (config := {implicitDefEqProofs := false, maxDischargeDepth := 20}) (disch := first | omega | (simp only [lenE]; done) | (simp only [lenE]; omega) | rfl | (simp only [lenE, markR_len]; done) | (simp only [lenE, markR_len]; omega)) only [runE, mapE, listE, initT_5, initT_6, initT_7, initT_8, resV, oneV, binA, unA, reduceCtorEq, Nat.reduceEqDiff, Nat.reduceAdd, Nat.reduceLT, Nat.reduceLeDiff, Nat.reduceMul, Nat.reduceSub, ↓reduceIte, decide_true, decide_false, Bool.true_eq_false, Bool.false_eq_true, Bool.not_true, Bool.not_false, if_true, if_false, and_true, true_and, memE, celE, w64, Nat.zero_add, Nat.add_zero, Nat.mul_one, putL, and_self, ldn, tm, t0, t2, t5, d2.rd, hgl, h10]
                  obtain ⟨N2, f1, f2, f3, f4, f5⟩ := MB.fin (s := p9) d2 hid hcb (by first | omega | (simp; omega))
                  simp (config := {implicitDefEqProofs := false, maxDischargeDepth := 20}) (disch := first | omega | (simp only [lenE]; done) | (simp only [lenE]; omega) | rfl | (simp only [lenE, markR_len]; done) | (simp only [lenE, markR_len]; omega)) only [runE, mapE, listE, initT_5, initT_6, initT_7, initT_8, resV, oneV, binA, unA, reduceCtorEq, Nat.reduceEqDiff, Nat.reduceAdd, Nat.reduceLT, Nat.reduceLeDiff, Nat.reduceMul, Nat.reduceSub, ↓reduceIte, decide_true, decide_false, Bool.true_eq_false, Bool.false_eq_true, Bool.not_true, Bool.not_false, if_true, if_false, and_true, true_and, memE, celE, w64, Nat.zero_add, Nat.add_zero, Nat.mul_one, putL, and_self, ldn, tm, t0, t2, t5, d2.rd, f1, f2]
                  exact ⟨p9, _, a2, rfl, by omega, f4, f5, f3, by first | omega | (simp; omega), by first | omega | (simp; omega)⟩
              · have x4' : (x == 4) = false := by simp [x4]
                simp (config := {implicitDefEqProofs := false, maxDischargeDepth := 20}) (disch := first | omega | (simp only [lenE]; done) | (simp only [lenE]; omega) | rfl | (simp only [lenE, markR_len]; done) | (simp only [lenE, markR_len]; omega)) only [runE, mapE, listE, initT_5, initT_6, initT_7, initT_8, resV, oneV, binA, unA, reduceCtorEq, Nat.reduceEqDiff, Nat.reduceAdd, Nat.reduceLT, Nat.reduceLeDiff, Nat.reduceMul, Nat.reduceSub, ↓reduceIte, decide_true, decide_false, Bool.true_eq_false, Bool.false_eq_true, Bool.not_true, Bool.not_false, if_true, if_false, and_true, true_and, memE, celE, w64, Nat.zero_add, Nat.add_zero, Nat.mul_one, putL, and_self, ldn, tm, t0, t2, t5, t6, x0', x1', x2', x3', x4']
                obtain ⟨N2, f1, f2, f3, f4, f5⟩ := MB.fin (s := p') d2 hid hcb (by first | omega | (simp; omega))
                simp (config := {implicitDefEqProofs := false, maxDischargeDepth := 20}) (disch := first | omega | (simp only [lenE]; done) | (simp only [lenE]; omega) | rfl | (simp only [lenE, markR_len]; done) | (simp only [lenE, markR_len]; omega)) only [runE, mapE, listE, initT_5, initT_6, initT_7, initT_8, resV, oneV, binA, unA, reduceCtorEq, Nat.reduceEqDiff, Nat.reduceAdd, Nat.reduceLT, Nat.reduceLeDiff, Nat.reduceMul, Nat.reduceSub, ↓reduceIte, decide_true, decide_false, Bool.true_eq_false, Bool.false_eq_true, Bool.not_true, Bool.not_false, if_true, if_false, and_true, true_and, memE, celE, w64, Nat.zero_add, Nat.add_zero, Nat.mul_one, putL, and_self, ldn, tm, t0, t2, t5, t6, d2.rd, f1, f2]
                exact ⟨p', _, a2, rfl, by omega, f4, f5, f3, by first | omega | (simp; omega), by first | omega | (simp; omega)⟩

end Go.Proofs.Ytpedjcagaeedjaa.Ab
end
section
namespace Go.Proofs.Ytpedjcagaeedjaa.Ab
open Go Go.RowKit
set_option linter.unusedVariables false
set_option linter.unusedSimpArgs false
set_option maxRecDepth 10000
theorem bl_d1 (m : Mem) : bslA m 3 1 9 [.int .i64 0, .int .i64 0, .int .i64 0, .int .i64 0, .int .i64 0, .int .i64 0, .int .i64 0, .int .i64 0, .int .i64 0] [(0, 1, .int .i64 0), (1, 1, .int .i64 1), (2, 1, .int .i64 2), (3, 1, .int .i64 3), (4, 1, .int .i64 5), (5, 1, .int .i64 8), (6, 1, .int .i64 99), (7, 1, .int .i64 100), (8, 1, .int .i64 (-1))] = some (.slice (some ⟨m.length, 0, none⟩) 9 1, m ++ [rowB [0, 1, 2, 3, 5, 8, 99, 100, -1]]) := rfl
theorem bl_d2 (m : Mem) : bslA m 3 1 8 [.int .i64 0, .int .i64 0, .int .i64 0, .int .i64 0, .int .i64 0, .int .i64 0, .int .i64 0, .int .i64 0] [(0, 1, .int .i64 100), (1, 1, .int .i64 80), (2, 1, .int .i64 50), (3, 1, .int .i64 25), (4, 1, .int .i64 0), (5, 1, .int .i64 101), (6, 1, .int .i64 (-1)), (7, 1, .int .i64 100)] = some (.slice (some ⟨m.length, 0, none⟩) 8 1, m ++ [rowB [100, 80, 50, 25, 0, 101, -1, 100]]) := rfl
abbrev ctL (c : Ct) : List Value := [.int .i64 c.pay, .int .i64 c.back, .int .i64 c.share]
structure KB (M0 M : Mem) (cb id a bx rc : Nat) (l : List Int) (c : Ct) : Prop where
  hid : id < M0.length
  hcb : cb < M0.length
  cw : Cw id M0 M
  cur : CurA M cb l id a
  box : OwnB M bx 28 (ctL c)
  res : OwnB M rc 28 [.int .i64 0, .int .i64 0, .int .i64 0]
  gb : M0.length ≤ bx
  gr : M0.length ≤ rc
  ne : bx ≠ rc
section
variable {M0 M M2 : Mem} {cb id a a2 bx rc : Nat} {l : List Int} {c : Ct}
theorem KB.draw (h : KB M0 M cb id a bx rc l c) (w : Cw id M M2) (k : CurA M2 cb l id a2) : KB M0 M2 cb id a2 bx rc l c :=
  ⟨h.hid, h.hcb, Cw.trans h.hid h.cw w, k, h.box.at_ (w.old bx (by have := h.hid; have := h.gb; omega) h.box.lt), h.res.at_ (w.old rc (by have := h.hid; have := h.gr; omega) h.res.lt), h.gb, h.gr, h.ne⟩
theorem KB.ext (h : KB M0 M cb id a bx rc l c) {new : Mem} (hn : NoRo new) : KB M0 (M ++ new) cb id a bx rc l c :=
  ⟨h.hid, h.hcb, h.cw.ext hn, h.cur.ext new, h.box.ext new, h.res.ext new, h.gb, h.gr, h.ne⟩
theorem KB.st (h : KB M0 M cb id a bx rc l c) (j : Nat) (x : Int) (c' : Ct) (hj : j < 3) (hp : putL (ctL c) j [.int .i64 x] = ctL c') : ∃ M2, stA M bx j [.int .i64 x] = some M2 ∧ KB M0 M2 cb id a bx rc l c' := by
  have hid := h.hid
  have hcb := h.hcb
  have h1 := h.gb
  have h2 := h.gr
  exact ⟨_, by rw [h.box.st (by simp; omega) rfl, hp], hid, hcb, h.cw.put h1 (by simp), h.cur.put (by omega) (by omega) _, h.box.set_self _ _, h.res.set_ne h.ne _, h1, h2, h.ne⟩
theorem KB.fin (h : KB M0 M cb id a bx rc l c) : ∃ N2, stA M rc 0 [.int .i64 c.pay, .int .i64 c.back, .int .i64 c.share] = some N2 ∧ (∀ k, rdc N2 rc k = (ctL c)[k]?) ∧ Cw id M0 N2 ∧ CurA N2 cb l id a := by
  have hid := h.hid
  have hcb := h.hcb
  have h2 := h.gr
  refine ⟨_, h.res.st (by simp) rfl, fun k => (h.res.set_self _ _).rd k, h.cw.put h2 (by simp), h.cur.put (by omega) (by omega) _⟩
end
theorem contract_ac (M : Mem) (cb id a lo : Nat) (l : List Int) (p : Mk) (u : Value) (h : CurA M cb l id a) (ha : a ≤ 999999000) (hm : LivesMk lo M (mkV p u) p) (hlo : id < lo) (hp : p.price ≤ 100) :
    AC Try.prog 45 [.pointer (some ⟨id, 0, none⟩), mkV p u] M fun v M' => ∃ (c : Ct) (a' : Nat), v = ctV c ∧ a' ≤ a + 30 ∧ Cw id M M' ∧ CurA M' cb l id a' := by
  refine ac_of_run mixed ok_spec_l1Cur__contract (by simp) (go_start _ _ _ ?_)
  have hid := h.lt
  have hcb := h.cblt
  simp (config := {implicitDefEqProofs := false, maxDischargeDepth := 20}) (disch := first | omega | (simp only [lenE]; done) | (simp only [lenE]; omega) | rfl | (simp only [lenE, markR_len]; done) | (simp only [lenE, markR_len]; omega)) only [runE, mapE, listE, initT_5, initT_6, initT_7, initT_8, resV, oneV, binA, unA, reduceCtorEq, Nat.reduceEqDiff, Nat.reduceAdd, Nat.reduceLT, Nat.reduceLeDiff, Nat.reduceMul, Nat.reduceSub, ↓reduceIte, decide_true, decide_false, Bool.true_eq_false, Bool.false_eq_true, Bool.not_true, Bool.not_false, if_true, if_false, and_true, true_and, memE, celE, w64, Nat.zero_add, Nat.add_zero, Nat.mul_one, putL, and_self, ldn, c_spec_l1Cur__contract, r_spec_l1Cur__contract]
  refine callH_rc (l1MostM_rc _ _ _) ?_
  rintro v new ⟨rfl, rfl⟩
  obtain ⟨z, hz, hz1⟩ : ∃ z : Int, max p.price 0 = z ∧ 0 ≤ z ∧ z ≤ 100 := ⟨_, rfl, by omega⟩
  rw [hz]
  obtain ⟨E, hE⟩ : ∃ E, E = M ++ [⟨.own, 26, mkC p u⟩] ++ [⟨.own, 28, [.int .i64 0, .int .i64 0, .int .i64 0]⟩] := ⟨_, rfl⟩
  have cE : Cw id M E := by rw [hE]; exact ((Cw.refl id M).ext (noRo_own noRo_nil)).ext (noRo_own noRo_nil)
  have kE : CurA E cb l id a := by rw [hE]; exact (h.ext _).ext _
  have oM : OwnB E M.length 26 (mkC p u) := by rw [hE]; exact (OwnB.here rfl).ext _
  have oR : OwnB E (M.length + 1) 28 [.int .i64 0, .int .i64 0, .int .i64 0] := by rw [hE]; exact OwnB.here (by simp)
  have LE : E.length = M.length + 2 := by rw [hE]; simp
  try simp only [List.append_assoc, List.cons_append, List.nil_append, List.append_nil] at hE ⊢
  rw [← hE]
  clear hE
  simp (config := {implicitDefEqProofs := false, maxDischargeDepth := 20}) (disch := first | omega | (simp only [lenE]; done) | (simp only [lenE]; omega) | rfl | (simp only [lenE, markR_len]; done) | (simp only [lenE, markR_len]; omega)) only [runE, mapE, listE, initT_5, initT_6, initT_7, initT_8, resV, oneV, binA, unA, reduceCtorEq, Nat.reduceEqDiff, Nat.reduceAdd, Nat.reduceLT, Nat.reduceLeDiff, Nat.reduceMul, Nat.reduceSub, ↓reduceIte, decide_true, decide_false, Bool.true_eq_false, Bool.false_eq_true, Bool.not_true, Bool.not_false, if_true, if_false, and_true, true_and, memE, celE, w64, Nat.zero_add, Nat.add_zero, Nat.mul_one, putL, and_self, ldn]
  refine callH_ac (pick_ac E cb id a l (z + 2) kE (by omega) (by omega) (by omega)) ?_
  rintro v M1 ⟨y0, rfl, hy0, hy1, w1, a1, ha1, k1⟩
  simp (config := {implicitDefEqProofs := false, maxDischargeDepth := 20}) (disch := first | omega | (simp only [lenE]; done) | (simp only [lenE]; omega) | rfl | (simp only [lenE, markR_len]; done) | (simp only [lenE, markR_len]; omega)) only [runE, mapE, listE, initT_5, initT_6, initT_7, initT_8, resV, oneV, binA, unA, reduceCtorEq, Nat.reduceEqDiff, Nat.reduceAdd, Nat.reduceLT, Nat.reduceLeDiff, Nat.reduceMul, Nat.reduceSub, ↓reduceIte, decide_true, decide_false, Bool.true_eq_false, Bool.false_eq_true, Bool.not_true, Bool.not_false, if_true, if_false, and_true, true_and, memE, celE, w64, Nat.zero_add, Nat.add_zero, Nat.mul_one, putL, and_self, ldn]
  refine callH_ac (pick_ac M1 cb id a1 l 6 k1 (by omega) (by omega) (by omega)) ?_
  rintro v M2 ⟨y1, rfl, hb0, hb1, w2, a2, ha2, k2⟩
  have c2 := Cw.trans (by omega) w1 w2
  clear w1 w2 k1
  simp (config := {implicitDefEqProofs := false, maxDischargeDepth := 20}) (disch := first | omega | (simp only [lenE]; done) | (simp only [lenE]; omega) | rfl | (simp only [lenE, markR_len]; done) | (simp only [lenE, markR_len]; omega)) only [runE, mapE, listE, initT_5, initT_6, initT_7, initT_8, resV, oneV, binA, unA, reduceCtorEq, Nat.reduceEqDiff, Nat.reduceAdd, Nat.reduceLT, Nat.reduceLeDiff, Nat.reduceMul, Nat.reduceSub, ↓reduceIte, decide_true, decide_false, Bool.true_eq_false, Bool.false_eq_true, Bool.not_true, Bool.not_false, if_true, if_false, and_true, true_and, memE, celE, w64, Nat.zero_add, Nat.add_zero, Nat.mul_one, putL, and_self, ldn, bl_cS]
  refine callH_ac (among_new M2 cb id a2 l [100, 100, 80, 50, 0] k2 (by omega) rfl rfl (by simp) (by simp)) ?_
  rintro v M3 ⟨y2, -, rfl, w3, a3, ha3, k3⟩
  have c3 := Cw.trans (by omega) c2 w3
  clear c2 w3 k2
  have c3M := Cw.trans hid cE c3
  have oM3 := oM.at_ (c3.old _ (by omega) oM.lt)
  have oR3 := oR.at_ (c3.old _ (by omega) oR.lt)
  have l3 := c3.len
  simp (config := {implicitDefEqProofs := false, maxDischargeDepth := 20}) (disch := first | omega | (simp only [lenE]; done) | (simp only [lenE]; omega) | rfl | (simp only [lenE, markR_len]; done) | (simp only [lenE, markR_len]; omega)) only [runE, mapE, listE, initT_5, initT_6, initT_7, initT_8, resV, oneV, binA, unA, reduceCtorEq, Nat.reduceEqDiff, Nat.reduceAdd, Nat.reduceLT, Nat.reduceLeDiff, Nat.reduceMul, Nat.reduceSub, ↓reduceIte, decide_true, decide_false, Bool.true_eq_false, Bool.false_eq_true, Bool.not_true, Bool.not_false, if_true, if_false, and_true, true_and, memE, celE, w64, Nat.zero_add, Nat.add_zero, Nat.mul_one, putL, and_self, ldn, bld_ct3, stP_aggL, oM3.mk4]
  have d0 : KB M (M3 ++ [⟨.own, 28, [.int .i64 y0, .int .i64 y1, .int .i64 y2]⟩]) cb id a3 M3.length (M.length + 1) l ⟨y0, y1, y2⟩ :=
    ⟨hid, hcb, c3M.ext (noRo_own noRo_nil), k3.ext _, OwnB.here rfl, oR3.ext _, by omega, by omega, by omega⟩
  have oM4 := oM3.ext [⟨.own, 28, [.int .i64 y0, .int .i64 y1, .int .i64 y2]⟩]
  generalize M3 ++ [(⟨.own, 28, [.int .i64 y0, .int .i64 y1, .int .i64 y2]⟩ : Blk)] = N at *
  have lN : M3.length < N.length := d0.box.lt
  obtain ⟨bx, hbx⟩ : ∃ bx, bx = M3.length := ⟨_, rfl⟩
  rw [← hbx] at d0 ⊢
  clear k3 c3 c3M oM oR oM3 oR3 kE
  try simp (config := {implicitDefEqProofs := false, maxDischargeDepth := 20}) (disch := first | omega | (simp only [lenE]; done) | (simp only [lenE]; omega) | rfl | (simp only [lenE, markR_len]; done) | (simp only [lenE, markR_len]; omega)) only [runE, mapE, listE, initT_5, initT_6, initT_7, initT_8, resV, oneV, binA, unA, reduceCtorEq, Nat.reduceEqDiff, Nat.reduceAdd, Nat.reduceLT, Nat.reduceLeDiff, Nat.reduceMul, Nat.reduceSub, ↓reduceIte, decide_true, decide_false, Bool.true_eq_false, Bool.false_eq_true, Bool.not_true, Bool.not_false, if_true, if_false, and_true, true_and, memE, celE, w64, Nat.zero_add, Nat.add_zero, Nat.mul_one, putL, and_self, ldn, oM4.mk4, d0.box.mk3]
  refine callH_rc (specPayFor_rc _ (mkV p u) p y1 y2 (hm.cw hlo d0.cw).here) ?_
  rintro v new ⟨rfl, nr⟩
  obtain ⟨zp, hzp⟩ : ∃ z, z = payV (payO p y1 y2) := ⟨_, rfl⟩
  obtain ⟨zb, hzb⟩ : ∃ z, z = (payO p y1 y2).isSome := ⟨_, rfl⟩
  rw [← hzp, ← hzb]
  have d1 := d0.ext nr
  generalize N ++ new = N1 at *
  clear d0 nr oM4
  cases zb with
  | false =>
    as_aux_lemma =>
    simp (config := {implicitDefEqProofs := false, maxDischargeDepth := 20}) (disch := first | omega | (simp only [lenE]; done) | (simp only [lenE]; omega) | rfl | (simp only [lenE, markR_len]; done) | (simp only [lenE, markR_len]; omega)) only [runE, mapE, listE, initT_5, initT_6, initT_7, initT_8, resV, oneV, binA, unA, reduceCtorEq, Nat.reduceEqDiff, Nat.reduceAdd, Nat.reduceLT, Nat.reduceLeDiff, Nat.reduceMul, Nat.reduceSub, ↓reduceIte, decide_true, decide_false, Bool.true_eq_false, Bool.false_eq_true, Bool.not_true, Bool.not_false, if_true, if_false, and_true, true_and, memE, celE, w64, Nat.zero_add, Nat.add_zero, Nat.mul_one, putL, and_self, ldn, ext_2_0, ext_2_1]
    obtain ⟨M', hM'⟩ : ∃ M', M' = N1 := ⟨_, rfl⟩
    obtain ⟨a', haa, ha3⟩ : ∃ a', a' = a3 ∧ a' ≤ a + 12 := ⟨a3, rfl, by omega⟩
    obtain ⟨c, hc⟩ : ∃ c : Ct, c = ⟨y0, y1, y2⟩ := ⟨_, rfl⟩
    rw [← hM', ← haa, ← hc] at d1
    rw [← hM']
    have d := d1
    refine callH_ac (pick_ac M' cb id a' l 40 d.cur (by omega) (by omega) (by omega)) ?_
    rintro v M2 ⟨x, rfl, hx0, hx1, w2, a2, ha2, k2⟩
    have d2 := d.draw w2 k2
    clear w2 k2 d
    by_cases x0 : x = 0
    · have x0' : (x == 0) = true := by simp [x0]
      simp (config := {implicitDefEqProofs := false, maxDischargeDepth := 20}) (disch := first | omega | (simp only [lenE]; done) | (simp only [lenE]; omega) | rfl | (simp only [lenE, markR_len]; done) | (simp only [lenE, markR_len]; omega)) only [runE, mapE, listE, initT_5, initT_6, initT_7, initT_8, resV, oneV, binA, unA, reduceCtorEq, Nat.reduceEqDiff, Nat.reduceAdd, Nat.reduceLT, Nat.reduceLeDiff, Nat.reduceMul, Nat.reduceSub, ↓reduceIte, decide_true, decide_false, Bool.true_eq_false, Bool.false_eq_true, Bool.not_true, Bool.not_false, if_true, if_false, and_true, true_and, memE, celE, w64, Nat.zero_add, Nat.add_zero, Nat.mul_one, putL, and_self, ldn, x0', bl_cA]
      refine callH_ac (among_new M2 cb id a2 l [-1, 99, 100] d2.cur (by omega) rfl rfl (by simp) (by simp)) ?_
      rintro v M3 ⟨y, -, rfl, w3, a3, ha3, k3⟩
      have d3 := d2.draw w3 k3
      obtain ⟨M4, s1, d4⟩ := d3.st 0 y { c with pay := y } (by omega) (by simp [putL])
      obtain ⟨N2, f1, f2, f3, f4⟩ := d4.fin
      simp (config := {implicitDefEqProofs := false, maxDischargeDepth := 20}) (disch := first | omega | (simp only [lenE]; done) | (simp only [lenE]; omega) | rfl | (simp only [lenE, markR_len]; done) | (simp only [lenE, markR_len]; omega)) only [runE, mapE, listE, initT_5, initT_6, initT_7, initT_8, resV, oneV, binA, unA, reduceCtorEq, Nat.reduceEqDiff, Nat.reduceAdd, Nat.reduceLT, Nat.reduceLeDiff, Nat.reduceMul, Nat.reduceSub, ↓reduceIte, decide_true, decide_false, Bool.true_eq_false, Bool.false_eq_true, Bool.not_true, Bool.not_false, if_true, if_false, and_true, true_and, memE, celE, w64, Nat.zero_add, Nat.add_zero, Nat.mul_one, putL, and_self, ldn, s1, d4.box.rd, stP_aggL, f1, f2]
      exact ⟨{ c with pay := y }, a3, rfl, by omega, f3, f4⟩
    · have x0' : (x == 0) = false := by simp [x0]
      by_cases x1 : x = 1
      · have x1' : (x == 1) = true := by simp [x1]
        simp (config := {implicitDefEqProofs := false, maxDischargeDepth := 20}) (disch := first | omega | (simp only [lenE]; done) | (simp only [lenE]; omega) | rfl | (simp only [lenE, markR_len]; done) | (simp only [lenE, markR_len]; omega)) only [runE, mapE, listE, initT_5, initT_6, initT_7, initT_8, resV, oneV, binA, unA, reduceCtorEq, Nat.reduceEqDiff, Nat.reduceAdd, Nat.reduceLT, Nat.reduceLeDiff, Nat.reduceMul, Nat.reduceSub, ↓reduceIte, decide_true, decide_false, Bool.true_eq_false, Bool.false_eq_true, Bool.not_true, Bool.not_false, if_true, if_false, and_true, true_and, memE, celE, w64, Nat.zero_add, Nat.add_zero, Nat.mul_one, putL, and_self, ldn, x0', x1', bl_cA]
        refine callH_ac (among_new M2 cb id a2 l [-1, 99, 100] d2.cur (by omega) rfl rfl (by simp) (by simp)) ?_
        rintro v M3 ⟨y, -, rfl, w3, a3, ha3, k3⟩
        have d3 := d2.draw w3 k3
        obtain ⟨M4, s1, d4⟩ := d3.st 1 y { c with back := y } (by omega) (by simp [putL])
        obtain ⟨N2, f1, f2, f3, f4⟩ := d4.fin
        simp (config := {implicitDefEqProofs := false, maxDischargeDepth := 20}) (disch := first | omega | (simp only [lenE]; done) | (simp only [lenE]; omega) | rfl | (simp only [lenE, markR_len]; done) | (simp only [lenE, markR_len]; omega)) only [runE, mapE, listE, initT_5, initT_6, initT_7, initT_8, resV, oneV, binA, unA, reduceCtorEq, Nat.reduceEqDiff, Nat.reduceAdd, Nat.reduceLT, Nat.reduceLeDiff, Nat.reduceMul, Nat.reduceSub, ↓reduceIte, decide_true, decide_false, Bool.true_eq_false, Bool.false_eq_true, Bool.not_true, Bool.not_false, if_true, if_false, and_true, true_and, memE, celE, w64, Nat.zero_add, Nat.add_zero, Nat.mul_one, putL, and_self, ldn, s1, d4.box.rd, stP_aggL, f1, f2]
        exact ⟨{ c with back := y }, a3, rfl, by omega, f3, f4⟩
      · have x1' : (x == 1) = false := by simp [x1]
        by_cases x2 : x = 2
        · have x2' : (x == 2) = true := by simp [x2]
          simp (config := {implicitDefEqProofs := false, maxDischargeDepth := 20}) (disch := first | omega | (simp only [lenE]; done) | (simp only [lenE]; omega) | rfl | (simp only [lenE, markR_len]; done) | (simp only [lenE, markR_len]; omega)) only [runE, mapE, listE, initT_5, initT_6, initT_7, initT_8, resV, oneV, binA, unA, reduceCtorEq, Nat.reduceEqDiff, Nat.reduceAdd, Nat.reduceLT, Nat.reduceLeDiff, Nat.reduceMul, Nat.reduceSub, ↓reduceIte, decide_true, decide_false, Bool.true_eq_false, Bool.false_eq_true, Bool.not_true, Bool.not_false, if_true, if_false, and_true, true_and, memE, celE, w64, Nat.zero_add, Nat.add_zero, Nat.mul_one, putL, and_self, ldn, x0', x1', x2', bl_cB]
          refine callH_ac (among_new M2 cb id a2 l [-1, 101] d2.cur (by omega) rfl rfl (by simp) (by simp)) ?_
          rintro v M3 ⟨y, -, rfl, w3, a3, ha3, k3⟩
          have d3 := d2.draw w3 k3
          obtain ⟨M4, s1, d4⟩ := d3.st 2 y { c with share := y } (by omega) (by simp [putL])
          obtain ⟨N2, f1, f2, f3, f4⟩ := d4.fin
          simp (config := {implicitDefEqProofs := false, maxDischargeDepth := 20}) (disch := first | omega | (simp only [lenE]; done) | (simp only [lenE]; omega) | rfl | (simp only [lenE, markR_len]; done) | (simp only [lenE, markR_len]; omega)) only [runE, mapE, listE, initT_5, initT_6, initT_7, initT_8, resV, oneV, binA, unA, reduceCtorEq, Nat.reduceEqDiff, Nat.reduceAdd, Nat.reduceLT, Nat.reduceLeDiff, Nat.reduceMul, Nat.reduceSub, ↓reduceIte, decide_true, decide_false, Bool.true_eq_false, Bool.false_eq_true, Bool.not_true, Bool.not_false, if_true, if_false, and_true, true_and, memE, celE, w64, Nat.zero_add, Nat.add_zero, Nat.mul_one, putL, and_self, ldn, s1, d4.box.rd, stP_aggL, f1, f2]
          exact ⟨{ c with share := y }, a3, rfl, by omega, f3, f4⟩
        · have x2' : (x == 2) = false := by simp [x2]
          obtain ⟨N2, f1, f2, f3, f4⟩ := d2.fin
          simp (config := {implicitDefEqProofs := false, maxDischargeDepth := 20}) (disch := first | omega | (simp only [lenE]; done) | (simp only [lenE]; omega) | rfl | (simp only [lenE, markR_len]; done) | (simp only [lenE, markR_len]; omega)) only [runE, mapE, listE, initT_5, initT_6, initT_7, initT_8, resV, oneV, binA, unA, reduceCtorEq, Nat.reduceEqDiff, Nat.reduceAdd, Nat.reduceLT, Nat.reduceLeDiff, Nat.reduceMul, Nat.reduceSub, ↓reduceIte, decide_true, decide_false, Bool.true_eq_false, Bool.false_eq_true, Bool.not_true, Bool.not_false, if_true, if_false, and_true, true_and, memE, celE, w64, Nat.zero_add, Nat.add_zero, Nat.mul_one, putL, and_self, ldn, x0', x1', x2', d2.box.rd, stP_aggL, f1, f2]
          exact ⟨c, a2, rfl, by omega, f3, f4⟩
  | true =>
    as_aux_lemma =>
    simp (config := {implicitDefEqProofs := false, maxDischargeDepth := 20}) (disch := first | omega | (simp only [lenE]; done) | (simp only [lenE]; omega) | rfl | (simp only [lenE, markR_len]; done) | (simp only [lenE, markR_len]; omega)) only [runE, mapE, listE, initT_5, initT_6, initT_7, initT_8, resV, oneV, binA, unA, reduceCtorEq, Nat.reduceEqDiff, Nat.reduceAdd, Nat.reduceLT, Nat.reduceLeDiff, Nat.reduceMul, Nat.reduceSub, ↓reduceIte, decide_true, decide_false, Bool.true_eq_false, Bool.false_eq_true, Bool.not_true, Bool.not_false, if_true, if_false, and_true, true_and, memE, celE, w64, Nat.zero_add, Nat.add_zero, Nat.mul_one, putL, and_self, ldn, ext_2_0, ext_2_1]
    refine callH_ac (one_ac N1 cb id a3 l 2 d1.cur (by omega) (by omega) (by omega)) ?_
    rintro v N2 ⟨b, rfl, w2, a4, ha4, k2⟩
    have d2 := d1.draw w2 k2
    obtain ⟨a', haa, ha5⟩ : ∃ a', a' = a4 ∧ a' ≤ a + 12 := ⟨a4, rfl, by omega⟩
    rw [← haa] at d2
    cases b with
    | true =>
      obtain ⟨N3, s1, d3⟩ := d2.st 0 zp ⟨zp, y1, y2⟩ (by omega) (by simp [putL])
      simp (config := {implicitDefEqProofs := false, maxDischargeDepth := 20}) (disch := first | omega | (simp only [lenE]; done) | (simp only [lenE]; omega) | rfl | (simp only [lenE, markR_len]; done) | (simp only [lenE, markR_len]; omega)) only [runE, mapE, listE, initT_5, initT_6, initT_7, initT_8, resV, oneV, binA, unA, reduceCtorEq, Nat.reduceEqDiff, Nat.reduceAdd, Nat.reduceLT, Nat.reduceLeDiff, Nat.reduceMul, Nat.reduceSub, ↓reduceIte, decide_true, decide_false, Bool.true_eq_false, Bool.false_eq_true, Bool.not_true, Bool.not_false, if_true, if_false, and_true, true_and, memE, celE, w64, Nat.zero_add, Nat.add_zero, Nat.mul_one, putL, and_self, ldn, s1]
      obtain ⟨M', hM'⟩ : ∃ M', M' = N3 := ⟨_, rfl⟩
      obtain ⟨c, hc⟩ : ∃ c : Ct, c = ⟨zp, y1, y2⟩ := ⟨_, rfl⟩
      rw [← hM', ← hc] at d3
      rw [← hM']
      have d := d3
      refine callH_ac (pick_ac M' cb id a' l 40 d.cur (by omega) (by omega) (by omega)) ?_
      rintro v M2 ⟨x, rfl, hx0, hx1, w2, a2, ha2, k2⟩
      have d2 := d.draw w2 k2
      clear w2 k2 d
      by_cases x0 : x = 0
      · have x0' : (x == 0) = true := by simp [x0]
        simp (config := {implicitDefEqProofs := false, maxDischargeDepth := 20}) (disch := first | omega | (simp only [lenE]; done) | (simp only [lenE]; omega) | rfl | (simp only [lenE, markR_len]; done) | (simp only [lenE, markR_len]; omega)) only [runE, mapE, listE, initT_5, initT_6, initT_7, initT_8, resV, oneV, binA, unA, reduceCtorEq, Nat.reduceEqDiff, Nat.reduceAdd, Nat.reduceLT, Nat.reduceLeDiff, Nat.reduceMul, Nat.reduceSub, ↓reduceIte, decide_true, decide_false, Bool.true_eq_false, Bool.false_eq_true, Bool.not_true, Bool.not_false, if_true, if_false, and_true, true_and, memE, celE, w64, Nat.zero_add, Nat.add_zero, Nat.mul_one, putL, and_self, ldn, x0', bl_cA]
        refine callH_ac (among_new M2 cb id a2 l [-1, 99, 100] d2.cur (by omega) rfl rfl (by simp) (by simp)) ?_
        rintro v M3 ⟨y, -, rfl, w3, a3, ha3, k3⟩
        have d3 := d2.draw w3 k3
        obtain ⟨M4, s1, d4⟩ := d3.st 0 y { c with pay := y } (by omega) (by simp [putL])
        obtain ⟨N2, f1, f2, f3, f4⟩ := d4.fin
        simp (config := {implicitDefEqProofs := false, maxDischargeDepth := 20}) (disch := first | omega | (simp only [lenE]; done) | (simp only [lenE]; omega) | rfl | (simp only [lenE, markR_len]; done) | (simp only [lenE, markR_len]; omega)) only [runE, mapE, listE, initT_5, initT_6, initT_7, initT_8, resV, oneV, binA, unA, reduceCtorEq, Nat.reduceEqDiff, Nat.reduceAdd, Nat.reduceLT, Nat.reduceLeDiff, Nat.reduceMul, Nat.reduceSub, ↓reduceIte, decide_true, decide_false, Bool.true_eq_false, Bool.false_eq_true, Bool.not_true, Bool.not_false, if_true, if_false, and_true, true_and, memE, celE, w64, Nat.zero_add, Nat.add_zero, Nat.mul_one, putL, and_self, ldn, s1, d4.box.rd, stP_aggL, f1, f2]
        exact ⟨{ c with pay := y }, a3, rfl, by omega, f3, f4⟩
      · have x0' : (x == 0) = false := by simp [x0]
        by_cases x1 : x = 1
        · have x1' : (x == 1) = true := by simp [x1]
          simp (config := {implicitDefEqProofs := false, maxDischargeDepth := 20}) (disch := first | omega | (simp only [lenE]; done) | (simp only [lenE]; omega) | rfl | (simp only [lenE, markR_len]; done) | (simp only [lenE, markR_len]; omega)) only [runE, mapE, listE, initT_5, initT_6, initT_7, initT_8, resV, oneV, binA, unA, reduceCtorEq, Nat.reduceEqDiff, Nat.reduceAdd, Nat.reduceLT, Nat.reduceLeDiff, Nat.reduceMul, Nat.reduceSub, ↓reduceIte, decide_true, decide_false, Bool.true_eq_false, Bool.false_eq_true, Bool.not_true, Bool.not_false, if_true, if_false, and_true, true_and, memE, celE, w64, Nat.zero_add, Nat.add_zero, Nat.mul_one, putL, and_self, ldn, x0', x1', bl_cA]
          refine callH_ac (among_new M2 cb id a2 l [-1, 99, 100] d2.cur (by omega) rfl rfl (by simp) (by simp)) ?_
          rintro v M3 ⟨y, -, rfl, w3, a3, ha3, k3⟩
          have d3 := d2.draw w3 k3
          obtain ⟨M4, s1, d4⟩ := d3.st 1 y { c with back := y } (by omega) (by simp [putL])
          obtain ⟨N2, f1, f2, f3, f4⟩ := d4.fin
          simp (config := {implicitDefEqProofs := false, maxDischargeDepth := 20}) (disch := first | omega | (simp only [lenE]; done) | (simp only [lenE]; omega) | rfl | (simp only [lenE, markR_len]; done) | (simp only [lenE, markR_len]; omega)) only [runE, mapE, listE, initT_5, initT_6, initT_7, initT_8, resV, oneV, binA, unA, reduceCtorEq, Nat.reduceEqDiff, Nat.reduceAdd, Nat.reduceLT, Nat.reduceLeDiff, Nat.reduceMul, Nat.reduceSub, ↓reduceIte, decide_true, decide_false, Bool.true_eq_false, Bool.false_eq_true, Bool.not_true, Bool.not_false, if_true, if_false, and_true, true_and, memE, celE, w64, Nat.zero_add, Nat.add_zero, Nat.mul_one, putL, and_self, ldn, s1, d4.box.rd, stP_aggL, f1, f2]
          exact ⟨{ c with back := y }, a3, rfl, by omega, f3, f4⟩
        · have x1' : (x == 1) = false := by simp [x1]
          by_cases x2 : x = 2
          · have x2' : (x == 2) = true := by simp [x2]
            simp (config := {implicitDefEqProofs := false, maxDischargeDepth := 20}) (disch := first | omega | (simp only [lenE]; done) | (simp only [lenE]; omega) | rfl | (simp only [lenE, markR_len]; done) | (simp only [lenE, markR_len]; omega)) only [runE, mapE, listE, initT_5, initT_6, initT_7, initT_8, resV, oneV, binA, unA, reduceCtorEq, Nat.reduceEqDiff, Nat.reduceAdd, Nat.reduceLT, Nat.reduceLeDiff, Nat.reduceMul, Nat.reduceSub, ↓reduceIte, decide_true, decide_false, Bool.true_eq_false, Bool.false_eq_true, Bool.not_true, Bool.not_false, if_true, if_false, and_true, true_and, memE, celE, w64, Nat.zero_add, Nat.add_zero, Nat.mul_one, putL, and_self, ldn, x0', x1', x2', bl_cB]
            refine callH_ac (among_new M2 cb id a2 l [-1, 101] d2.cur (by omega) rfl rfl (by simp) (by simp)) ?_
            rintro v M3 ⟨y, -, rfl, w3, a3, ha3, k3⟩
            have d3 := d2.draw w3 k3
            obtain ⟨M4, s1, d4⟩ := d3.st 2 y { c with share := y } (by omega) (by simp [putL])
            obtain ⟨N2, f1, f2, f3, f4⟩ := d4.fin
            simp (config := {implicitDefEqProofs := false, maxDischargeDepth := 20}) (disch := first | omega | (simp only [lenE]; done) | (simp only [lenE]; omega) | rfl | (simp only [lenE, markR_len]; done) | (simp only [lenE, markR_len]; omega)) only [runE, mapE, listE, initT_5, initT_6, initT_7, initT_8, resV, oneV, binA, unA, reduceCtorEq, Nat.reduceEqDiff, Nat.reduceAdd, Nat.reduceLT, Nat.reduceLeDiff, Nat.reduceMul, Nat.reduceSub, ↓reduceIte, decide_true, decide_false, Bool.true_eq_false, Bool.false_eq_true, Bool.not_true, Bool.not_false, if_true, if_false, and_true, true_and, memE, celE, w64, Nat.zero_add, Nat.add_zero, Nat.mul_one, putL, and_self, ldn, s1, d4.box.rd, stP_aggL, f1, f2]
            exact ⟨{ c with share := y }, a3, rfl, by omega, f3, f4⟩
          · have x2' : (x == 2) = false := by simp [x2]
            obtain ⟨N2, f1, f2, f3, f4⟩ := d2.fin
            simp (config := {implicitDefEqProofs := false, maxDischargeDepth := 20}) (disch := first | omega | (simp only [lenE]; done) | (simp only [lenE]; omega) | rfl | (simp only [lenE, markR_len]; done) | (simp only [lenE, markR_len]; omega)) only [runE, mapE, listE, initT_5, initT_6, initT_7, initT_8, resV, oneV, binA, unA, reduceCtorEq, Nat.reduceEqDiff, Nat.reduceAdd, Nat.reduceLT, Nat.reduceLeDiff, Nat.reduceMul, Nat.reduceSub, ↓reduceIte, decide_true, decide_false, Bool.true_eq_false, Bool.false_eq_true, Bool.not_true, Bool.not_false, if_true, if_false, and_true, true_and, memE, celE, w64, Nat.zero_add, Nat.add_zero, Nat.mul_one, putL, and_self, ldn, x0', x1', x2', d2.box.rd, stP_aggL, f1, f2]
            exact ⟨c, a2, rfl, by omega, f3, f4⟩
    | false =>
      simp (config := {implicitDefEqProofs := false, maxDischargeDepth := 20}) (disch := first | omega | (simp only [lenE]; done) | (simp only [lenE]; omega) | rfl | (simp only [lenE, markR_len]; done) | (simp only [lenE, markR_len]; omega)) only [runE, mapE, listE, initT_5, initT_6, initT_7, initT_8, resV, oneV, binA, unA, reduceCtorEq, Nat.reduceEqDiff, Nat.reduceAdd, Nat.reduceLT, Nat.reduceLeDiff, Nat.reduceMul, Nat.reduceSub, ↓reduceIte, decide_true, decide_false, Bool.true_eq_false, Bool.false_eq_true, Bool.not_true, Bool.not_false, if_true, if_false, and_true, true_and, memE, celE, w64, Nat.zero_add, Nat.add_zero, Nat.mul_one, putL, and_self, ldn]
      obtain ⟨M', hM'⟩ : ∃ M', M' = N2 := ⟨_, rfl⟩
      obtain ⟨c, hc⟩ : ∃ c : Ct, c = ⟨y0, y1, y2⟩ := ⟨_, rfl⟩
      rw [← hM', ← hc] at d2
      rw [← hM']
      have d := d2
      clear d2
      refine callH_ac (pick_ac M' cb id a' l 40 d.cur (by omega) (by omega) (by omega)) ?_
      rintro v M2 ⟨x, rfl, hx0, hx1, w2, a2, ha2, k2⟩
      have d2 := d.draw w2 k2
      clear w2 k2 d
      by_cases x0 : x = 0
      · have x0' : (x == 0) = true := by simp [x0]
        simp (config := {implicitDefEqProofs := false, maxDischargeDepth := 20}) (disch := first | omega | (simp only [lenE]; done) | (simp only [lenE]; omega) | rfl | (simp only [lenE, markR_len]; done) | (simp only [lenE, markR_len]; omega)) only [runE, mapE, listE, initT_5, initT_6, initT_7, initT_8, resV, oneV, binA, unA, reduceCtorEq, Nat.reduceEqDiff, Nat.reduceAdd, Nat.reduceLT, Nat.reduceLeDiff, Nat.reduceMul, Nat.reduceSub, ↓reduceIte, decide_true, decide_false, Bool.true_eq_false, Bool.false_eq_true, Bool.not_true, Bool.not_false, if_true, if_false, and_true, true_and, memE, celE, w64, Nat.zero_add, Nat.add_zero, Nat.mul_one, putL, and_self, ldn, x0', bl_cA]
        refine callH_ac (among_new M2 cb id a2 l [-1, 99, 100] d2.cur (by omega) rfl rfl (by simp) (by simp)) ?_
        rintro v M3 ⟨y, -, rfl, w3, a3, ha3, k3⟩
        have d3 := d2.draw w3 k3
        obtain ⟨M4, s1, d4⟩ := d3.st 0 y { c with pay := y } (by omega) (by simp [putL])
        obtain ⟨N2, f1, f2, f3, f4⟩ := d4.fin
        simp (config := {implicitDefEqProofs := false, maxDischargeDepth := 20}) (disch := first | omega | (simp only [lenE]; done) | (simp only [lenE]; omega) | rfl | (simp only [lenE, markR_len]; done) | (simp only [lenE, markR_len]; omega)) only [runE, mapE, listE, initT_5, initT_6, initT_7, initT_8, resV, oneV, binA, unA, reduceCtorEq, Nat.reduceEqDiff, Nat.reduceAdd, Nat.reduceLT, Nat.reduceLeDiff, Nat.reduceMul, Nat.reduceSub, ↓reduceIte, decide_true, decide_false, Bool.true_eq_false, Bool.false_eq_true, Bool.not_true, Bool.not_false, if_true, if_false, and_true, true_and, memE, celE, w64, Nat.zero_add, Nat.add_zero, Nat.mul_one, putL, and_self, ldn, s1, d4.box.rd, stP_aggL, f1, f2]
        exact ⟨{ c with pay := y }, a3, rfl, by omega, f3, f4⟩
      · have x0' : (x == 0) = false := by simp [x0]
        by_cases x1 : x = 1
        · have x1' : (x == 1) = true := by simp [x1]
          simp (config := {implicitDefEqProofs := false, maxDischargeDepth := 20}) (disch := first | omega | (simp only [lenE]; done) | (simp only [lenE]; omega) | rfl | (simp only [lenE, markR_len]; done) | (simp only [lenE, markR_len]; omega)) only [runE, mapE, listE, initT_5, initT_6, initT_7, initT_8, resV, oneV, binA, unA, reduceCtorEq, Nat.reduceEqDiff, Nat.reduceAdd, Nat.reduceLT, Nat.reduceLeDiff, Nat.reduceMul, Nat.reduceSub, ↓reduceIte, decide_true, decide_false, Bool.true_eq_false, Bool.false_eq_true, Bool.not_true, Bool.not_false, if_true, if_false, and_true, true_and, memE, celE, w64, Nat.zero_add, Nat.add_zero, Nat.mul_one, putL, and_self, ldn, x0', x1', bl_cA]
          refine callH_ac (among_new M2 cb id a2 l [-1, 99, 100] d2.cur (by omega) rfl rfl (by simp) (by simp)) ?_
          rintro v M3 ⟨y, -, rfl, w3, a3, ha3, k3⟩
          have d3 := d2.draw w3 k3
          obtain ⟨M4, s1, d4⟩ := d3.st 1 y { c with back := y } (by omega) (by simp [putL])
          obtain ⟨N2, f1, f2, f3, f4⟩ := d4.fin
          simp (config := {implicitDefEqProofs := false, maxDischargeDepth := 20}) (disch := first | omega | (simp only [lenE]; done) | (simp only [lenE]; omega) | rfl | (simp only [lenE, markR_len]; done) | (simp only [lenE, markR_len]; omega)) only [runE, mapE, listE, initT_5, initT_6, initT_7, initT_8, resV, oneV, binA, unA, reduceCtorEq, Nat.reduceEqDiff, Nat.reduceAdd, Nat.reduceLT, Nat.reduceLeDiff, Nat.reduceMul, Nat.reduceSub, ↓reduceIte, decide_true, decide_false, Bool.true_eq_false, Bool.false_eq_true, Bool.not_true, Bool.not_false, if_true, if_false, and_true, true_and, memE, celE, w64, Nat.zero_add, Nat.add_zero, Nat.mul_one, putL, and_self, ldn, s1, d4.box.rd, stP_aggL, f1, f2]
          exact ⟨{ c with back := y }, a3, rfl, by omega, f3, f4⟩
        · have x1' : (x == 1) = false := by simp [x1]
          by_cases x2 : x = 2
          · have x2' : (x == 2) = true := by simp [x2]
            simp (config := {implicitDefEqProofs := false, maxDischargeDepth := 20}) (disch := first | omega | (simp only [lenE]; done) | (simp only [lenE]; omega) | rfl | (simp only [lenE, markR_len]; done) | (simp only [lenE, markR_len]; omega)) only [runE, mapE, listE, initT_5, initT_6, initT_7, initT_8, resV, oneV, binA, unA, reduceCtorEq, Nat.reduceEqDiff, Nat.reduceAdd, Nat.reduceLT, Nat.reduceLeDiff, Nat.reduceMul, Nat.reduceSub, ↓reduceIte, decide_true, decide_false, Bool.true_eq_false, Bool.false_eq_true, Bool.not_true, Bool.not_false, if_true, if_false, and_true, true_and, memE, celE, w64, Nat.zero_add, Nat.add_zero, Nat.mul_one, putL, and_self, ldn, x0', x1', x2', bl_cB]
            refine callH_ac (among_new M2 cb id a2 l [-1, 101] d2.cur (by omega) rfl rfl (by simp) (by simp)) ?_
            rintro v M3 ⟨y, -, rfl, w3, a3, ha3, k3⟩
            have d3 := d2.draw w3 k3
            obtain ⟨M4, s1, d4⟩ := d3.st 2 y { c with share := y } (by omega) (by simp [putL])
            obtain ⟨N2, f1, f2, f3, f4⟩ := d4.fin
            simp (config := {implicitDefEqProofs := false, maxDischargeDepth := 20}) (disch := first | omega | (simp only [lenE]; done) | (simp only [lenE]; omega) | rfl | (simp only [lenE, markR_len]; done) | (simp only [lenE, markR_len]; omega)) only [runE, mapE, listE, initT_5, initT_6, initT_7, initT_8, resV, oneV, binA, unA, reduceCtorEq, Nat.reduceEqDiff, Nat.reduceAdd, Nat.reduceLT, Nat.reduceLeDiff, Nat.reduceMul, Nat.reduceSub, ↓reduceIte, decide_true, decide_false, Bool.true_eq_false, Bool.false_eq_true, Bool.not_true, Bool.not_false, if_true, if_false, and_true, true_and, memE, celE, w64, Nat.zero_add, Nat.add_zero, Nat.mul_one, putL, and_self, ldn, s1, d4.box.rd, stP_aggL, f1, f2]
            exact ⟨{ c with share := y }, a3, rfl, by omega, f3, f4⟩
          · have x2' : (x == 2) = false := by simp [x2]
            obtain ⟨N2, f1, f2, f3, f4⟩ := d2.fin
            simp (config := {implicitDefEqProofs := false, maxDischargeDepth := 20}) (disch := first | omega | (simp only [lenE]; done) | (simp only [lenE]; omega) | rfl | (simp only [lenE, markR_len]; done) | (simp only [lenE, markR_len]; omega)) only [runE, mapE, listE, initT_5, initT_6, initT_7, initT_8, resV, oneV, binA, unA, reduceCtorEq, Nat.reduceEqDiff, Nat.reduceAdd, Nat.reduceLT, Nat.reduceLeDiff, Nat.reduceMul, Nat.reduceSub, ↓reduceIte, decide_true, decide_false, Bool.true_eq_false, Bool.false_eq_true, Bool.not_true, Bool.not_false, if_true, if_false, and_true, true_and, memE, celE, w64, Nat.zero_add, Nat.add_zero, Nat.mul_one, putL, and_self, ldn, x0', x1', x2', d2.box.rd, stP_aggL, f1, f2]
            exact ⟨c, a2, rfl, by omega, f3, f4⟩
theorem ext_ofM {m M' : Mem} (hl : m.length ≤ M'.length) (old : ∀ i, i < m.length → M'[i]? = (roM m)[i]?) (new : ∀ (i : Nat) (b : Blk), m.length ≤ i → M'[i]? = some b → b.kd ≠ .ro) : Ext m M' := by
  have e : M' = roM m ++ M'.drop m.length := by
    apply List.ext_getElem?
    intro i
    by_cases hi : i < m.length
    · rw [List.getElem?_append_left (by rw [roM_len]; exact hi), old i hi]
    · rw [List.getElem?_append_right (by rw [roM_len]; omega), List.getElem?_drop, roM_len, Nat.add_sub_cancel' (by omega)]
  refine ⟨M'.drop m.length, e, fun c hc => ?_⟩
  obtain ⟨j, hj, rfl⟩ := List.getElem_of_mem hc
  have hg : M'[m.length + j]? = some (M'.drop m.length)[j] := by
    rw [← List.getElem?_drop, List.getElem?_eq_getElem hj]
  exact new (m.length + j) _ (by omega) hg
theorem Cw.noRoM {id : Nat} {A B : Mem} {lo : Nat} (h : Cw id A B) (hA : ∀ (i : Nat) (b : Blk), lo ≤ i → A[i]? = some b → b.kd ≠ .ro) {cb a : Nat} {l : List Int} (k : CurA B cb l id a) : ∀ (i : Nat) (b : Blk), lo ≤ i → B[i]? = some b → b.kd ≠ .ro := fun i b hi hb => by
  by_cases e : i = id
  · subst e
    obtain ⟨s, h2⟩ := k.box
    rw [h2] at hb
    cases hb
    simp
  · by_cases hl : i < A.length
    · rw [h.old i e hl] at hb; exact hA i b hi hb
    · exact h.new i b (by omega) hb
theorem Ext.cwM {m A B : Mem} {id cb a : Nat} {l : List Int} (hx : Ext m A) (w : Cw id A B) (k : CurA B cb l id a) (hid : m.length ≤ id) : Ext m B := by
  obtain ⟨n0, e0, h0⟩ := hx
  have hl := w.len
  have hlA : m.length ≤ A.length := by rw [e0]; simp [roM_len]
  refine ext_ofM (by omega) (fun i hi => ?_) (w.noRoM (fun i b hi hb => ?_) k)
  · rw [w.old i (by omega) (by omega), e0, List.getElem?_append_left (by rw [roM_len]; exact hi)]
  · rw [e0, List.getElem?_append_right (by rw [roM_len]; exact hi)] at hb
    exact h0 b (List.mem_of_getElem? hb)
theorem Ext.setM {m A : Mem} {r : Nat} {b : Blk} (hx : Ext m A) (hr : m.length ≤ r) (hb : b.kd ≠ .ro) : Ext m (A.set r b) := by
  obtain ⟨n0, e0, h0⟩ := hx
  refine ext_ofM (by rw [List.length_set, e0]; simp [roM_len]) (fun i hi => ?_) (fun i c hi hc => ?_)
  · rw [List.getElem?_set_ne (by omega), e0, List.getElem?_append_left (by rw [roM_len]; exact hi)]
  · by_cases e : r = i
    · subst e
      rcases at_set hc with ⟨hne, _⟩ | ⟨_, hc2, _⟩
      · exact absurd rfl hne
      · rw [← hc2]; exact hb
    · rw [List.getElem?_set_ne e, e0, List.getElem?_append_right (by rw [roM_len]; exact hi)] at hc
      exact h0 c (List.mem_of_getElem? hc)
def AnsMk (m : Mem) (f : Value → Value → Prop) (r : Value) (new : Mem) : Prop :=
  NoRo new ∧ ∃ (p : Mk) (u : Value), f (mkV p u) r ∧ LivesMk m.length (m ++ new) (mkV p u) p
theorem fin_mk {m M : Mem} {p : Mk} {u r : Value} {f : Value → Value → Prop} (hX : Ext m M) (hp : LivesMk m.length M (mkV p u) p) (hf : f (mkV p u) r) : newQ m (AnsMk m f) r M := by
  obtain ⟨n0, rfl, h0⟩ := hX
  refine ⟨n0, rfl, h0, h0, p, u, hf, hp.up (by simp [roM_len]) fun i hi _ => ?_⟩
  rw [List.getElem?_append_right hi, List.getElem?_append_right (by rw [roM_len]; exact hi), roM_len]
theorem ones_mk {M : Mem} {p : Mk} {u : Value} (h : IntsA M u p.w) : onesB (mkC p u) = true := by
  have e : u.oneCell' = true := by simpa [onesB] using h.one []
  simp only [onesB, mkC, List.all_cons, List.all_nil, Bool.and_true, e]
  rfl
def fMC (x r : Value) : Prop := ∃ c : Ct, r = .tuple #[x, ctV c]
def fMII (x r : Value) : Prop := ∃ (a b : Int), r = .tuple #[x, .int .i64 a, .int .i64 b]
theorem DrawSellerOrder_rc (m : Mem) (cb fl : Nat) (l : List Int) (h : BytesA m cb l) :
    RC Try.prog 69 [.slice (some ⟨cb, 0, none⟩) l.length fl] m (AnsMk m fMC) := by
  refine rc_of_run mixed ok_spec_DrawSellerOrder (by simp) (go_start _ _ _ ?_)
  simp (config := {implicitDefEqProofs := false, maxDischargeDepth := 20}) (disch := first | omega | (simp only [lenE]; done) | (simp only [lenE]; omega) | rfl | (simp only [lenE, markR_len]; done) | (simp only [lenE, markR_len]; omega)) only [runE, mapE, listE, initT_5, initT_6, initT_7, initT_8, resV, oneV, binA, unA, reduceCtorEq, Nat.reduceEqDiff, Nat.reduceAdd, Nat.reduceLT, Nat.reduceLeDiff, Nat.reduceMul, Nat.reduceSub, ↓reduceIte, decide_true, decide_false, Bool.true_eq_false, Bool.false_eq_true, Bool.not_true, Bool.not_false, if_true, if_false, and_true, true_and, memE, celE, w64, Nat.zero_add, Nat.add_zero, Nat.mul_one, putL, and_self, ldn, c_spec_DrawSellerOrder, r_spec_DrawSellerOrder, bldCur]
  obtain ⟨M0, hM0⟩ : ∃ M0 : Mem, M0 = roM m ++ [⟨.own, 26, [.slice none 0 0, .int .i64 0, .int .i64 0, .int .i64 0]⟩] ++ [⟨.own, 28, [.int .i64 0, .int .i64 0, .int .i64 0]⟩] := ⟨_, rfl⟩
  have hl0 : M0.length = m.length + 2 := by rw [hM0]; simp [roM_len]
  have hx0 : Ext m M0 := by rw [hM0]; exact ((Ext.refl m).one _ _).one _ _
  have hb0 : M0[cb]? = some ⟨.ro, 5, l.map (Value.int .u8)⟩ := by
    have := h.ro
    rw [hM0]; try simp only [List.append_assoc]
    rw [List.getElem?_append_left (List.getElem?_eq_some_iff.1 this).1]; exact this
  have res0 : OwnB M0 (m.length) 26 [.slice none 0 0, .int .i64 0, .int .i64 0, .int .i64 0] := by rw [hM0]; exact ((OwnB.here (by simp [roM_len])).ext _)
  have res1 : OwnB M0 (m.length + 1) 28 [.int .i64 0, .int .i64 0, .int .i64 0] := by rw [hM0]; exact (OwnB.here (by simp [roM_len]))
  try simp only [List.append_assoc, List.cons_append, List.nil_append] at hM0 ⊢
  try rw [← hM0]
  have k0 : CurA (M0 ++ [⟨.own, 59, [.slice (some ⟨cb, 0, none⟩) l.length fl, .int .i64 0, .int .u64 0]⟩]) cb l M0.length 0 :=
    ⟨by rw [List.getElem?_append_left (List.getElem?_eq_some_iff.1 hb0).1]; exact hb0, h.byte, h.few, (fl, 0), by simp⟩
  have hx1 : Ext m (M0 ++ [⟨.own, 59, [.slice (some ⟨cb, 0, none⟩) l.length fl, .int .i64 0, .int .u64 0]⟩]) := hx0.one _ _
  have hl1 : (M0 ++ [(⟨.own, 59, [.slice (some ⟨cb, 0, none⟩) l.length fl, .int .i64 0, .int .u64 0]⟩ : Blk)]).length = m.length + 3 := by simp; omega
  have res0 := res0.ext [(⟨.own, 59, [.slice (some ⟨cb, 0, none⟩) l.length fl, .int .i64 0, .int .u64 0]⟩ : Blk)]
  have res1 := res1.ext [(⟨.own, 59, [.slice (some ⟨cb, 0, none⟩) l.length fl, .int .i64 0, .int .u64 0]⟩ : Blk)]
  obtain ⟨id, hid⟩ : ∃ id, id = m.length + 1 + 1 := ⟨_, rfl⟩
  rw [hl0, ← hid] at k0
  try rw [← hid]
  have hM1 : roM m ++ [⟨.own, 26, [.slice none 0 0, .int .i64 0, .int .i64 0, .int .i64 0]⟩] ++ [⟨.own, 28, [.int .i64 0, .int .i64 0, .int .i64 0]⟩] ++ [(⟨.own, 59, [.slice (some ⟨cb, 0, none⟩) l.length fl, .int .i64 0, .int .u64 0]⟩ : Blk)] = M0 ++ [⟨.own, 59, [.slice (some ⟨cb, 0, none⟩) l.length fl, .int .i64 0, .int .u64 0]⟩] := by rw [hM0]; try simp
  try simp only [List.append_assoc, List.cons_append, List.nil_append] at hM1 ⊢
  try rw [hM1]
  clear hM1
  generalize M0 ++ [(⟨.own, 59, [.slice (some ⟨cb, 0, none⟩) l.length fl, .int .i64 0, .int .u64 0]⟩ : Blk)] = M1 at *
  clear hx0 hM0 hb0
  refine callH_ac (market_ac M1 cb id 0 l k0 (by omega)) ?_
  rintro v M2 ⟨p, u, a2, rfl, ha2, w2, k2, lv2, hw2, hp2⟩
  have hIu : IntsA M2 u p.w := by
    obtain ⟨u2, e2, h2⟩ := lv2.here
    have : u = u2 := by simpa [mkV] using e2
    rw [this]; exact h2
  have on := ones_mk (p := p) (u := u) hIu
  have l2 := w2.len
  have s1 : stA (M2 ++ [⟨.own, 26, [.slice none 0 0, .int .i64 0, .int .i64 0, .int .i64 0]⟩]) M2.length 0 (mkC p u) = some (M2 ++ [⟨.own, 26, mkC p u⟩]) := by
    rw [(OwnB.here rfl).st (by simp) on]
    simp [putL]
  have b3 : OwnB (M2 ++ [⟨.own, 26, mkC p u⟩]) M2.length 26 (mkC p u) := OwnB.here rfl
  have w3 : Cw id M1 (M2 ++ [⟨.own, 26, mkC p u⟩]) := w2.ext (noRo_own noRo_nil)
  have k3 := k2.ext [⟨.own, 26, mkC p u⟩]
  have lv3 : LivesMk M1.length (M2 ++ [⟨.own, 26, mkC p u⟩]) (mkV p u) p := lv2.up (by simp) fun i h1 h2 => List.getElem?_append_left h2
  have l3 : (M2 ++ [(⟨.own, 26, mkC p u⟩ : Blk)]).length = M2.length + 1 := by simp
  simp (config := {implicitDefEqProofs := false, maxDischargeDepth := 20}) (disch := first | omega | (simp only [lenE]; done) | (simp only [lenE]; omega) | rfl | (simp only [lenE, markR_len]; done) | (simp only [lenE, markR_len]; omega)) only [runE, mapE, listE, initT_5, initT_6, initT_7, initT_8, resV, oneV, binA, unA, reduceCtorEq, Nat.reduceEqDiff, Nat.reduceAdd, Nat.reduceLT, Nat.reduceLeDiff, Nat.reduceMul, Nat.reduceSub, ↓reduceIte, decide_true, decide_false, Bool.true_eq_false, Bool.false_eq_true, Bool.not_true, Bool.not_false, if_true, if_false, and_true, true_and, memE, celE, w64, Nat.zero_add, Nat.add_zero, Nat.mul_one, putL, and_self, ldn, stP_aggL, s1, b3.mk4]
  generalize M2 ++ [(⟨.own, 26, mkC p u⟩ : Blk)] = M3 at *
  obtain ⟨mb, hmb⟩ : ∃ b, b = M2.length := ⟨_, rfl⟩
  rw [← hmb] at b3
  try rw [← hmb]
  first | with_reducible refine ⟨?_, ?_⟩ | skip
  all_goals
    refine callH_ac (contract_ac M3 cb id a2 M1.length l p u k3 (by omega) lv3 (by omega) hp2) ?_
    rintro v M4 ⟨c, a4, rfl, ha4, w4, k4⟩
    have w14 := Cw.trans (by omega) w3 w4
    have l4 := w4.len
    have b4 : OwnB M4 mb 26 (mkC p u) := b3.at_ (w4.old _ (by omega) b3.lt)
    have lv4 := lv3.cw (by omega) w4
    have b5 := b4
    have lvT := lv4
    have r0 := res0.at_ (w14.old _ (by omega) (by omega))
    have s4 := (r0.st (off := 0) (vs := mkC p u) (by simp) on).trans (show _ = some (M4.set m.length ⟨.own, 26, mkC p u⟩) by simp [putL])
    have g0 := r0.set_self 26 (mkC p u)
    have LT5 := w14.len
    have r1 := (res1.at_ (w14.old _ (by omega) (by omega))).set_ne (b := ⟨.own, 26, mkC p u⟩) (show m.length ≠ m.length + 1 by omega)
    have s5 := (r1.st (off := 0) (vs := ctL c) (by simp) rfl).trans (show _ = some ((M4.set m.length ⟨.own, 26, mkC p u⟩).set (m.length + 1) ⟨.own, 28, ctL c⟩) by simp [putL])
    have g1 := r1.set_self 28 (ctL c)
    have g0' := g0.set_ne (id := m.length + 1) (by omega) ⟨.own, 28, ctL c⟩
    simp (config := {implicitDefEqProofs := false, maxDischargeDepth := 20}) (disch := first | omega | (simp only [lenE]; done) | (simp only [lenE]; omega) | rfl | (simp only [lenE, markR_len]; done) | (simp only [lenE, markR_len]; omega)) only [runE, mapE, listE, initT_5, initT_6, initT_7, initT_8, resV, oneV, binA, unA, reduceCtorEq, Nat.reduceEqDiff, Nat.reduceAdd, Nat.reduceLT, Nat.reduceLeDiff, Nat.reduceMul, Nat.reduceSub, ↓reduceIte, decide_true, decide_false, Bool.true_eq_false, Bool.false_eq_true, Bool.not_true, Bool.not_false, if_true, if_false, and_true, true_and, memE, celE, w64, Nat.zero_add, Nat.add_zero, Nat.mul_one, putL, and_self, ldn, stP_aggL, b5.mk4, ext_2_0, ext_2_1, s4, s5, g0'.rd, g1.rd]
    refine fin_mk (p := p) (u := u) ((((hx1.cwM w14 k4 (by omega)).setM (Nat.le_refl _) (by simp)).setM (by omega) (by simp))) (fun M9 h9 => ?_) ⟨c, rfl⟩
    refine lvT M9 fun i h1 h2 => ?_
    rw [h9 i (by omega) (by rw [List.length_set, List.length_set]; exact h2), List.getElem?_set_ne (by omega), List.getElem?_set_ne (by omega)]
theorem DrawInProportion_rc (m : Mem) (cb fl : Nat) (l : List Int) (h : BytesA m cb l) :
    RC Try.prog 28 [.slice (some ⟨cb, 0, none⟩) l.length fl] m (AnsMk m fMC) := by
  refine rc_of_run mixed ok_spec_DrawInProportion (by simp) (go_start _ _ _ ?_)
  have hB : BytesA (roM m ++ [⟨.own, 26, [.slice none 0 0, .int .i64 0, .int .i64 0, .int .i64 0]⟩] ++ [⟨.own, 28, [.int .i64 0, .int .i64 0, .int .i64 0]⟩]) cb l := BytesA.ext (BytesA.ext ⟨⟨.ro, by simp, h.ro⟩, h.byte, h.few⟩ _) _
  simp (config := {implicitDefEqProofs := false, maxDischargeDepth := 20}) (disch := first | omega | (simp only [lenE]; done) | (simp only [lenE]; omega) | rfl | (simp only [lenE, markR_len]; done) | (simp only [lenE, markR_len]; omega)) only [runE, mapE, listE, initT_5, initT_6, initT_7, initT_8, resV, oneV, binA, unA, reduceCtorEq, Nat.reduceEqDiff, Nat.reduceAdd, Nat.reduceLT, Nat.reduceLeDiff, Nat.reduceMul, Nat.reduceSub, ↓reduceIte, decide_true, decide_false, Bool.true_eq_false, Bool.false_eq_true, Bool.not_true, Bool.not_false, if_true, if_false, and_true, true_and, memE, celE, w64, Nat.zero_add, Nat.add_zero, Nat.mul_one, putL, and_self, ldn, c_spec_DrawInProportion, r_spec_DrawInProportion]
  obtain ⟨E, hE⟩ : ∃ E, E = roM m ++ [⟨.own, 26, [.slice none 0 0, .int .i64 0, .int .i64 0, .int .i64 0]⟩] ++ [⟨.own, 28, [.int .i64 0, .int .i64 0, .int .i64 0]⟩] := ⟨_, rfl⟩
  rw [← hE] at hB
  have hX : Ext m E := by rw [hE]; exact ((Ext.refl m).one _ _).one _ _
  have o0 : OwnB E m.length 26 [.slice none 0 0, .int .i64 0, .int .i64 0, .int .i64 0] := by rw [hE]; exact (OwnB.here (by simp [roM_len])).ext _
  have o1 : OwnB E (m.length + 1) 28 [.int .i64 0, .int .i64 0, .int .i64 0] := by rw [hE]; exact OwnB.here (by simp [roM_len])
  have LE : E.length = m.length + 2 := by rw [hE]; simp [roM_len]
  try simp only [List.append_assoc, List.cons_append, List.nil_append] at hE ⊢
  rw [← hE]
  clear hE
  refine callH_rc (DrawSellerOrder_rc _ cb fl l hB) ?_
  rintro r new ⟨nr, p, u, ⟨c, rfl⟩, hp⟩
  have hu : IntsA (E ++ new) u p.w := by
    obtain ⟨u2, e2, h2⟩ := hp.here
    have : u = u2 := by simpa [mkV] using e2
    rw [this]; exact h2
  have on := ones_mk (p := p) (u := u) hu
  have hX1 := hX.app nr
  have r0 := o0.ext new
  have r1 := o1.ext new
  have lvE : LivesMk E.length (E ++ new) (mkV p u) p := hp
  generalize E ++ new = MM at *
  have s4 := (r0.st (off := 0) (vs := mkC p u) (by simp) on).trans (show _ = some (MM.set m.length ⟨.own, 26, mkC p u⟩) by simp [putL])
  have g0 := r0.set_self 26 (mkC p u)
  have r1 := r1.set_ne (b := ⟨.own, 26, mkC p u⟩) (show m.length ≠ m.length + 1 by omega)
  have s5 := (r1.st (off := 0) (vs := ctL c) (by simp) rfl).trans (show _ = some ((MM.set m.length ⟨.own, 26, mkC p u⟩).set (m.length + 1) ⟨.own, 28, ctL c⟩) by simp [putL])
  have g1 := r1.set_self 28 (ctL c)
  have g0' := g0.set_ne (id := m.length + 1) (by omega) ⟨.own, 28, ctL c⟩
  simp (config := {implicitDefEqProofs := false, maxDischargeDepth := 20}) (disch := first | omega | (simp only [lenE]; done) | (simp only [lenE]; omega) | rfl | (simp only [lenE, markR_len]; done) | (simp only [lenE, markR_len]; omega)) only [runE, mapE, listE, initT_5, initT_6, initT_7, initT_8, resV, oneV, binA, unA, reduceCtorEq, Nat.reduceEqDiff, Nat.reduceAdd, Nat.reduceLT, Nat.reduceLeDiff, Nat.reduceMul, Nat.reduceSub, ↓reduceIte, decide_true, decide_false, Bool.true_eq_false, Bool.false_eq_true, Bool.not_true, Bool.not_false, if_true, if_false, and_true, true_and, memE, celE, w64, Nat.zero_add, Nat.add_zero, Nat.mul_one, putL, and_self, ldn, stP_aggL, ext_2_0, ext_2_1, s4, s5, g0'.rd, g1.rd]
  refine fin_mk (p := p) (u := u) ((hX1.setM (Nat.le_refl _) (by simp)).setM (by omega) (by simp)) (fun M9 h9 => ?_) ⟨c, rfl⟩
  refine lvE M9 fun i h1 h2 => ?_
  rw [h9 i (by omega) (by rw [List.length_set, List.length_set]; exact h2), List.getElem?_set_ne (by omega), List.getElem?_set_ne (by omega)]
theorem DrawPayFor_rc (m : Mem) (cb fl : Nat) (l : List Int) (h : BytesA m cb l) :
    RC Try.prog 39 [.slice (some ⟨cb, 0, none⟩) l.length fl] m (AnsMk m fMII) := by
  refine rc_of_run mixed ok_spec_DrawPayFor (by simp) (go_start _ _ _ ?_)
  simp (config := {implicitDefEqProofs := false, maxDischargeDepth := 20}) (disch := first | omega | (simp only [lenE]; done) | (simp only [lenE]; omega) | rfl | (simp only [lenE, markR_len]; done) | (simp only [lenE, markR_len]; omega)) only [runE, mapE, listE, initT_5, initT_6, initT_7, initT_8, resV, oneV, binA, unA, reduceCtorEq, Nat.reduceEqDiff, Nat.reduceAdd, Nat.reduceLT, Nat.reduceLeDiff, Nat.reduceMul, Nat.reduceSub, ↓reduceIte, decide_true, decide_false, Bool.true_eq_false, Bool.false_eq_true, Bool.not_true, Bool.not_false, if_true, if_false, and_true, true_and, memE, celE, w64, Nat.zero_add, Nat.add_zero, Nat.mul_one, putL, and_self, ldn, c_spec_DrawPayFor, r_spec_DrawPayFor, bldCur]
  obtain ⟨M0, hM0⟩ : ∃ M0 : Mem, M0 = roM m ++ [⟨.own, 26, [.slice none 0 0, .int .i64 0, .int .i64 0, .int .i64 0]⟩] := ⟨_, rfl⟩
  have hl0 : M0.length = m.length + 1 := by rw [hM0]; simp [roM_len]
  have hx0 : Ext m M0 := by rw [hM0]; exact (Ext.refl m).one _ _
  have hb0 : M0[cb]? = some ⟨.ro, 5, l.map (Value.int .u8)⟩ := by
    have := h.ro
    rw [hM0]; try simp only [List.append_assoc]
    rw [List.getElem?_append_left (List.getElem?_eq_some_iff.1 this).1]; exact this
  have res0 : OwnB M0 (m.length) 26 [.slice none 0 0, .int .i64 0, .int .i64 0, .int .i64 0] := by rw [hM0]; exact (OwnB.here (by simp [roM_len]))
  try simp only [List.append_assoc, List.cons_append, List.nil_append] at hM0 ⊢
  try rw [← hM0]
  have k0 : CurA (M0 ++ [⟨.own, 59, [.slice (some ⟨cb, 0, none⟩) l.length fl, .int .i64 0, .int .u64 0]⟩]) cb l M0.length 0 :=
    ⟨by rw [List.getElem?_append_left (List.getElem?_eq_some_iff.1 hb0).1]; exact hb0, h.byte, h.few, (fl, 0), by simp⟩
  have hx1 : Ext m (M0 ++ [⟨.own, 59, [.slice (some ⟨cb, 0, none⟩) l.length fl, .int .i64 0, .int .u64 0]⟩]) := hx0.one _ _
  have hl1 : (M0 ++ [(⟨.own, 59, [.slice (some ⟨cb, 0, none⟩) l.length fl, .int .i64 0, .int .u64 0]⟩ : Blk)]).length = m.length + 2 := by simp; omega
  have res0 := res0.ext [(⟨.own, 59, [.slice (some ⟨cb, 0, none⟩) l.length fl, .int .i64 0, .int .u64 0]⟩ : Blk)]
  obtain ⟨id, hid⟩ : ∃ id, id = m.length + 1 := ⟨_, rfl⟩
  rw [hl0, ← hid] at k0
  try rw [← hid]
  have hM1 : roM m ++ [⟨.own, 26, [.slice none 0 0, .int .i64 0, .int .i64 0, .int .i64 0]⟩] ++ [(⟨.own, 59, [.slice (some ⟨cb, 0, none⟩) l.length fl, .int .i64 0, .int .u64 0]⟩ : Blk)] = M0 ++ [⟨.own, 59, [.slice (some ⟨cb, 0, none⟩) l.length fl, .int .i64 0, .int .u64 0]⟩] := by rw [hM0]; try simp
  try simp only [List.append_assoc, List.cons_append, List.nil_append] at hM1 ⊢
  try rw [hM1]
  clear hM1
  generalize M0 ++ [(⟨.own, 59, [.slice (some ⟨cb, 0, none⟩) l.length fl, .int .i64 0, .int .u64 0]⟩ : Blk)] = M1 at *
  clear hx0 hM0 hb0
  refine callH_ac (market_ac M1 cb id 0 l k0 (by omega)) ?_
  rintro v M2 ⟨p, u, a2, rfl, ha2, w2, k2, lv2, hw2, hp2⟩
  have hIu : IntsA M2 u p.w := by
    obtain ⟨u2, e2, h2⟩ := lv2.here
    have : u = u2 := by simpa [mkV] using e2
    rw [this]; exact h2
  have on := ones_mk (p := p) (u := u) hIu
  have l2 := w2.len
  simp (config := {implicitDefEqProofs := false, maxDischargeDepth := 20}) (disch := first | omega | (simp only [lenE]; done) | (simp only [lenE]; omega) | rfl | (simp only [lenE, markR_len]; done) | (simp only [lenE, markR_len]; omega)) only [runE, mapE, listE, initT_5, initT_6, initT_7, initT_8, resV, oneV, binA, unA, reduceCtorEq, Nat.reduceEqDiff, Nat.reduceAdd, Nat.reduceLT, Nat.reduceLeDiff, Nat.reduceMul, Nat.reduceSub, ↓reduceIte, decide_true, decide_false, Bool.true_eq_false, Bool.false_eq_true, Bool.not_true, Bool.not_false, if_true, if_false, and_true, true_and, memE, celE, w64, Nat.zero_add, Nat.add_zero, Nat.mul_one, putL, and_self, ldn, bl_d1]
  refine callH_ac (among_new M2 cb id a2 l [0, 1, 2, 3, 5, 8, 99, 100, -1] k2 (by omega) rfl rfl (by simp) (by simp)) ?_
  rintro v M3 ⟨xb, -, rfl, w3, a3, ha3, k3⟩
  have lv3 := lv2.cw (by omega) w3
  have w13 := Cw.trans (by omega) w2 w3
  simp (config := {implicitDefEqProofs := false, maxDischargeDepth := 20}) (disch := first | omega | (simp only [lenE]; done) | (simp only [lenE]; omega) | rfl | (simp only [lenE, markR_len]; done) | (simp only [lenE, markR_len]; omega)) only [runE, mapE, listE, initT_5, initT_6, initT_7, initT_8, resV, oneV, binA, unA, reduceCtorEq, Nat.reduceEqDiff, Nat.reduceAdd, Nat.reduceLT, Nat.reduceLeDiff, Nat.reduceMul, Nat.reduceSub, ↓reduceIte, decide_true, decide_false, Bool.true_eq_false, Bool.false_eq_true, Bool.not_true, Bool.not_false, if_true, if_false, and_true, true_and, memE, celE, w64, Nat.zero_add, Nat.add_zero, Nat.mul_one, putL, and_self, ldn, bl_d2]
  refine callH_ac (among_new M3 cb id a3 l [100, 80, 50, 25, 0, 101, -1, 100] k3 (by omega) rfl rfl (by simp) (by simp)) ?_
  rintro v M4 ⟨xs, -, rfl, w4, a4, ha4, k4⟩
  have lvT := lv3.cw (by omega) w4
  have w14 := Cw.trans (by omega) w13 w4
  have r0 := res0.at_ (w14.old _ (by omega) (by omega))
  have s4 := (r0.st (off := 0) (vs := mkC p u) (by simp) on).trans (show _ = some (M4.set m.length ⟨.own, 26, mkC p u⟩) by simp [putL])
  have g0 := r0.set_self 26 (mkC p u)
  have LT5 := w14.len
  simp (config := {implicitDefEqProofs := false, maxDischargeDepth := 20}) (disch := first | omega | (simp only [lenE]; done) | (simp only [lenE]; omega) | rfl | (simp only [lenE, markR_len]; done) | (simp only [lenE, markR_len]; omega)) only [runE, mapE, listE, initT_5, initT_6, initT_7, initT_8, resV, oneV, binA, unA, reduceCtorEq, Nat.reduceEqDiff, Nat.reduceAdd, Nat.reduceLT, Nat.reduceLeDiff, Nat.reduceMul, Nat.reduceSub, ↓reduceIte, decide_true, decide_false, Bool.true_eq_false, Bool.false_eq_true, Bool.not_true, Bool.not_false, if_true, if_false, and_true, true_and, memE, celE, w64, Nat.zero_add, Nat.add_zero, Nat.mul_one, putL, and_self, ldn, stP_aggL, s4, g0.rd]
  refine fin_mk (p := p) (u := u) ((hx1.cwM w14 k4 (by omega)).setM (Nat.le_refl _) (by simp)) (fun M9 h9 => ?_) ⟨xb, xs, rfl⟩
  refine lvT M9 fun i h1 h2 => ?_
  rw [h9 i (by omega) (by rw [List.length_set]; exact h2), List.getElem?_set_ne (by omega)]
end Go.Proofs.Ytpedjcagaeedjaa.Ab
end
section
namespace Go.Proofs.Ytpedjcagaeedjaa.Ab
open Go Go.RowKit
set_option linter.unusedVariables false
set_option linter.unusedSimpArgs false
theorem ae3M (a b c : Int) : aeqA true 3 (.agg #[.int .i64 a, .int .i64 b, .int .i64 c]) (.agg #[.int .i64 a, .int .i64 b, .int .i64 c]) = some (.bool false) := by
  simp [aeqA, intsEq]
theorem rBigM_rc (m : Mem) (cb fl : Nat) (n : Nat) : RC Try.prog 5 [.slice (some ⟨cb, 0, none⟩) n fl] m fun r new => r = .bool (decide (65536 < n)) ∧ new = [] := by
  refine rc_of_run mixed ok_laws_rBig (by simp) (go_start _ _ _ ?_)
  simp (config := {implicitDefEqProofs := false, maxDischargeDepth := 20}) (disch := first | omega | (simp only [lenE]; done) | (simp only [lenE]; omega) | rfl | (simp only [lenE, markR_len]; done) | (simp only [lenE, markR_len]; omega)) only [runE, mapE, listE, initT_5, initT_6, initT_7, initT_8, resV, oneV, binA, unA, reduceCtorEq, Nat.reduceEqDiff, Nat.reduceAdd, Nat.reduceLT, Nat.reduceLeDiff, Nat.reduceMul, Nat.reduceSub, ↓reduceIte, decide_true, decide_false, Bool.true_eq_false, Bool.false_eq_true, Bool.not_true, Bool.not_false, if_true, if_false, and_true, true_and, memE, celE, w64, Nat.zero_add, Nat.add_zero, Nat.mul_one, putL, and_self, ldn, c_laws_rBig, r_laws_rBig, gt_iff_lt]
  refine newQ_nil ⟨?_, rfl⟩
  congr 1
  rw [decide_eq_decide]
  omega
end Go.Proofs.Ytpedjcagaeedjaa.Ab
end
section
namespace Go.Proofs.Ytpedjcagaeedjaa.Ab
open Go Go.RowKit
set_option linter.unusedVariables false
set_option linter.unusedSimpArgs false
def backsA (k : Mk) : List Ct := if k.good then backsL k 100 else []
theorem bsl_ct {m : Mem} {e : TypeId} {a b c : Int} : bslA m e 3 1 [.int .i64 0, .int .i64 0, .int .i64 0] [(0, 3, .agg #[.int .i64 a, .int .i64 b, .int .i64 c])] = some (.slice (some ⟨m.length, 0, none⟩) 1 3, m ++ [⟨.own, e, [.int .i64 a, .int .i64 b, .int .i64 c]⟩]) := rfl
theorem ext_ctsM {m M : Mem} {L : List Ct} {id n : Nat} {e : TypeId} {f : Value → Value} (h : Ext m M) (ho : OwnB M id e (ctsC L)) (hid : m.length ≤ id) (hn : n = L.length) (hl : L.length ≤ 1048576) :
    newQ m (AnsO m (CtsO e L) f) (f (.slice (some ⟨id, 0, none⟩) n 3)) M := by
  subst hn
  exact ext_ansO h fun M' hM => ⟨hl, id, 3, rfl, hid, ho.lt, ho.at_ (hM _ hid ho.lt)⟩
theorem ext_noCts {m A : Mem} {f : Value → Value} {e : TypeId} {id : Nat} (hX : Ext m A) (hid : id = A.length) : newQ m (AnsO m (CtsO e []) f) (f (.slice (some ⟨id, 0, none⟩) 0 3)) (A ++ [⟨.own, e, []⟩]) := by
  subst hid
  exact ext_ansO (hX.one _ _) fun M' hM => ⟨by simp, _, 3, rfl, hX.len, by simp, (OwnB.here rfl).at_ (hM _ hX.len (by simp))⟩
theorem backs_bd {k : Mk} (h : GoodM k) {b : Nat} (hb : b < 100) (p : Nat) : (backsL k b ++ paysL k b 100 p).length ≤ 101 := by
  have h1 := backsL_len h b (by omega)
  have h2 := paysL_len (no_prop' h (b := (b : Int)) (s := 100) (by omega) (by omega)) p
  rw [List.length_append]; omega
theorem backs_s (k : Mk) (b : Nat) : backsL k (b + 1) = backsL k b ++ paysL k b 100 100 := rfl
theorem pays_s (k : Mk) (b s : Int) (p : Nat) : paysL k b s (p + 1) = paysL k b s p ++ (if propB k ⟨p, b, s⟩ then [⟨p, b, s⟩] else []) := rfl
theorem specBackContracts_rc (m : Mem) (v : Value) (k : Mk) (h : MkA m v k) :
    RC Try.prog 43 [v] m (AnsO m (CtsO 28 (backsA k)) fun v => .tuple #[v, .bool k.good]) := by
  refine rc_of_run mixed ok_spec_BackContracts (by simp) (go_start _ _ _ ?_)
  obtain ⟨u, rfl, hu⟩ := h.ro
  unfold backsA
  try simp (config := {implicitDefEqProofs := false, maxDischargeDepth := 20}) (disch := first | omega | (simp only [lenE]; done) | (simp only [lenE]; omega) | rfl | (simp only [lenE, markR_len]; done) | (simp only [lenE, markR_len]; omega)) only [runE, mapE, listE, initT_5, initT_6, initT_7, initT_8, resV, oneV, binA, unA, reduceCtorEq, Nat.reduceEqDiff, Nat.reduceAdd, Nat.reduceLT, Nat.reduceLeDiff, Nat.reduceMul, Nat.reduceSub, ↓reduceIte, decide_true, decide_false, Bool.true_eq_false, Bool.false_eq_true, Bool.not_true, Bool.not_false, if_true, if_false, and_true, true_and, memE, celE, w64, Nat.zero_add, Nat.add_zero, Nat.mul_one, putL, and_self, ldn, c_spec_BackContracts, r_spec_BackContracts, bsl_no]
  obtain ⟨E, hE⟩ : ∃ M', M' = roM m ++ [⟨.own, 26, [u, .int .i64 k.price, .int .i64 k.make, .int .i64 k.left]⟩] ++ [⟨.own, 28, []⟩] := ⟨_, rfl⟩
  rw [← hE]
  have hX : Ext m E := by rw [hE]; exact (((Ext.refl m).one _ _).one _ _)
  have LE : E.length = m.length + 2 := by rw [hE]; simp [roM_len]
  have oM : OwnB E (m.length) 26 [u, .int .i64 k.price, .int .i64 k.make, .int .i64 k.left] := by rw [hE]; exact ((OwnB.here (by simp [roM_len])).ext _)
  have oP : OwnB E (m.length + 1) 28 [] := by rw [hE]; exact (OwnB.here (by simp [roM_len]))
  clear hE
  try simp (config := {implicitDefEqProofs := false, maxDischargeDepth := 20}) (disch := first | omega | (simp only [lenE]; done) | (simp only [lenE]; omega) | rfl | (simp only [lenE, markR_len]; done) | (simp only [lenE, markR_len]; omega)) only [runE, mapE, listE, initT_5, initT_6, initT_7, initT_8, resV, oneV, binA, unA, reduceCtorEq, Nat.reduceEqDiff, Nat.reduceAdd, Nat.reduceLT, Nat.reduceLeDiff, Nat.reduceMul, Nat.reduceSub, ↓reduceIte, decide_true, decide_false, Bool.true_eq_false, Bool.false_eq_true, Bool.not_true, Bool.not_false, if_true, if_false, and_true, true_and, memE, celE, w64, Nat.zero_add, Nat.add_zero, Nat.mul_one, putL, and_self, ldn, bsl_no, oM.mk4]
  first | refine callH_rc (l10Market_rc _ _ k ⟨u, rfl, hX.ints hu⟩) ?_ | refine rcallH_rc (l10Market_rc _ _ k ⟨u, rfl, hX.ints hu⟩) ?_
  rintro r n1 ⟨rfl, nr1⟩
  obtain ⟨E1, hE1⟩ : ∃ M', M' = E ++ n1 := ⟨_, rfl⟩
  rw [← hE1]
  replace hX : Ext m E1 := by rw [hE1]; exact hX.app nr1
  replace oM := oM.ext n1
  rw [← hE1] at oM
  replace oP := oP.ext n1
  rw [← hE1] at oP
  clear hE1
  cases g1 : k.good with
  | false =>
    try simp (config := {implicitDefEqProofs := false, maxDischargeDepth := 20}) (disch := first | omega | (simp only [lenE]; done) | (simp only [lenE]; omega) | rfl | (simp only [lenE, markR_len]; done) | (simp only [lenE, markR_len]; omega)) only [runE, mapE, listE, initT_5, initT_6, initT_7, initT_8, resV, oneV, binA, unA, reduceCtorEq, Nat.reduceEqDiff, Nat.reduceAdd, Nat.reduceLT, Nat.reduceLeDiff, Nat.reduceMul, Nat.reduceSub, ↓reduceIte, decide_true, decide_false, Bool.true_eq_false, Bool.false_eq_true, Bool.not_true, Bool.not_false, if_true, if_false, and_true, true_and, memE, celE, w64, Nat.zero_add, Nat.add_zero, Nat.mul_one, putL, and_self, ldn, oM.mk4]
    exact ext_ctsM (f := fun v => .tuple #[v, .bool false]) (L := []) hX oP (by omega) rfl (by simp)
  | true =>
  try simp (config := {implicitDefEqProofs := false, maxDischargeDepth := 20}) (disch := first | omega | (simp only [lenE]; done) | (simp only [lenE]; omega) | rfl | (simp only [lenE, markR_len]; done) | (simp only [lenE, markR_len]; omega)) only [runE, mapE, listE, initT_5, initT_6, initT_7, initT_8, resV, oneV, binA, unA, reduceCtorEq, Nat.reduceEqDiff, Nat.reduceAdd, Nat.reduceLT, Nat.reduceLeDiff, Nat.reduceMul, Nat.reduceSub, ↓reduceIte, decide_true, decide_false, Bool.true_eq_false, Bool.false_eq_true, Bool.not_true, Bool.not_false, if_true, if_false, and_true, true_and, memE, celE, w64, Nat.zero_add, Nat.add_zero, Nat.mul_one, putL, and_self, ldn, oM.mk4]
  have hg := goodM_iff.1 g1
  refine loop_inv mixed (fun s => ∃ (b : Nat) (M : Mem) (id : Nat), b ≤ 100 ∧ s.m = M ∧ Ext m M ∧ OwnB M m.length 26 [u, .int .i64 k.price, .int .i64 k.make, .int .i64 k.left] ∧ m.length + 1 ≤ id ∧ OwnB M id 28 (ctsC (backsL k b)) ∧ s.t 1 = .pointer (some ⟨m.length, 0, none⟩) ∧ s.t 4 = .slice (some ⟨id, 0, none⟩) (backsL k b).length 3 ∧ s.t 5 = .int .i64 (b : Int)) (fun s => 105 - (intOf (s.t 5)).toNat)
    ⟨0, _, m.length + 1, by omega, rfl, hX, oM, by omega, oP, rfl, rfl, rfl⟩ ?_
  rintro s ⟨b, M, id, hb, tm, hX, oM, hid, ho, t1, t4, t5⟩
  by_cases hlt : b < 100
  · have hlt' : (b : Int) ≤ 99 := by omega
    simp (config := {implicitDefEqProofs := false, maxDischargeDepth := 20}) (disch := first | omega | (simp only [lenE]; done) | (simp only [lenE]; omega) | rfl | (simp only [lenE, markR_len]; done) | (simp only [lenE, markR_len]; omega)) only [runE, mapE, listE, initT_5, initT_6, initT_7, initT_8, resV, oneV, binA, unA, reduceCtorEq, Nat.reduceEqDiff, Nat.reduceAdd, Nat.reduceLT, Nat.reduceLeDiff, Nat.reduceMul, Nat.reduceSub, ↓reduceIte, decide_true, decide_false, Bool.true_eq_false, Bool.false_eq_true, Bool.not_true, Bool.not_false, if_true, if_false, and_true, true_and, memE, celE, w64, Nat.zero_add, Nat.add_zero, Nat.mul_one, putL, and_self, ldn, tm, t1, t4, t5, hlt']
    refine loop_inv mixed (fun s => ∃ (p : Nat) (M : Mem) (id : Nat), p ≤ 100 ∧ s.m = M ∧ Ext m M ∧ OwnB M m.length 26 [u, .int .i64 k.price, .int .i64 k.make, .int .i64 k.left] ∧ m.length + 1 ≤ id ∧ OwnB M id 28 (ctsC (backsL k b ++ paysL k b 100 p)) ∧ s.t 1 = .pointer (some ⟨m.length, 0, none⟩) ∧ s.t 4 = .slice (some ⟨id, 0, none⟩) (backsL k b ++ paysL k b 100 p).length 3 ∧ s.t 5 = .int .i64 (b : Int) ∧ s.t 6 = .int .i64 (p : Int)) (fun s => 105 - (intOf (s.t 6)).toNat)
      ⟨0, M, id, by omega, tm, hX, oM, hid, by simpa [paysL] using ho, t1, by simp only [put_t, put_t', put_m, putT_t, putT_t', putT_m, init_t, init_m, initT_0, initT_1, initT_2, initT_3, initT_4, initT_5, initT_6, initT_7, initT_8, Nat.reduceEqDiff, ↓reduceIte, t4]; simp [paysL], t5, rfl⟩ ?_
    rintro s ⟨p, M, id, hp, tm, hX, oM, hid, ho, t1, t4, t5, t6⟩
    have hbd := backs_bd hg hlt p
    by_cases hlp : p < 100
    · have hlp' : (p : Int) ≤ 99 := by omega
      simp (config := {implicitDefEqProofs := false, maxDischargeDepth := 20}) (disch := first | omega | (simp only [lenE]; done) | (simp only [lenE]; omega) | rfl | (simp only [lenE, markR_len]; done) | (simp only [lenE, markR_len]; omega)) only [runE, mapE, listE, initT_5, initT_6, initT_7, initT_8, resV, oneV, binA, unA, reduceCtorEq, Nat.reduceEqDiff, Nat.reduceAdd, Nat.reduceLT, Nat.reduceLeDiff, Nat.reduceMul, Nat.reduceSub, ↓reduceIte, decide_true, decide_false, Bool.true_eq_false, Bool.false_eq_true, Bool.not_true, Bool.not_false, if_true, if_false, and_true, true_and, memE, celE, w64, Nat.zero_add, Nat.add_zero, Nat.mul_one, putL, and_self, ldn, tm, t1, t4, t5, t6, hlp', bld_ct3, oM.mk4]
      obtain ⟨M1, hM1⟩ : ∃ M', M' = M ++ [⟨.own, 28, [.int .i64 (p : Int), .int .i64 (b : Int), .int .i64 100]⟩] := ⟨_, rfl⟩
      try rw [← hM1]
      have hX1 : Ext m M1 := by rw [hM1]; exact hX.one _ _
      have oM1 : OwnB M1 m.length 26 [u, .int .i64 k.price, .int .i64 k.make, .int .i64 k.left] := by rw [hM1]; exact oM.ext _
      have oC : OwnB M1 M.length 28 [.int .i64 (p : Int), .int .i64 (b : Int), .int .i64 100] := by rw [hM1]; exact OwnB.here rfl
      have ho1 : OwnB M1 id 28 (ctsC (backsL k b ++ paysL k b 100 p)) := by rw [hM1]; exact ho.ext _
      clear hM1
      try simp (config := {implicitDefEqProofs := false, maxDischargeDepth := 20}) (disch := first | omega | (simp only [lenE]; done) | (simp only [lenE]; omega) | rfl | (simp only [lenE, markR_len]; done) | (simp only [lenE, markR_len]; omega)) only [runE, mapE, listE, initT_5, initT_6, initT_7, initT_8, resV, oneV, binA, unA, reduceCtorEq, Nat.reduceEqDiff, Nat.reduceAdd, Nat.reduceLT, Nat.reduceLeDiff, Nat.reduceMul, Nat.reduceSub, ↓reduceIte, decide_true, decide_false, Bool.true_eq_false, Bool.false_eq_true, Bool.not_true, Bool.not_false, if_true, if_false, and_true, true_and, memE, celE, w64, Nat.zero_add, Nat.add_zero, Nat.mul_one, putL, and_self, ldn, tm, t1, t4, t5, t6, oM1.mk4, oC.mk3]
      first | refine callH_rc (l10Proportion_rc _ _ k ⟨p, b, 100⟩ ⟨u, rfl, hX1.ints hu⟩ hg ⟨by simp; omega, by simp; omega, by simp⟩) ?_ | refine rcallH_rc (l10Proportion_rc _ _ k ⟨p, b, 100⟩ ⟨u, rfl, hX1.ints hu⟩ hg ⟨by simp; omega, by simp; omega, by simp⟩) ?_
      rintro r n2 ⟨rfl, nr2⟩
      obtain ⟨M2, hM2⟩ : ∃ M', M' = M1 ++ n2 := ⟨_, rfl⟩
      rw [← hM2]
      have hX2 : Ext m M2 := by rw [hM2]; exact hX1.app nr2
      have oM2 : OwnB M2 m.length 26 [u, .int .i64 k.price, .int .i64 k.make, .int .i64 k.left] := by rw [hM2]; exact oM1.ext _
      have oC2 : OwnB M2 M.length 28 [.int .i64 (p : Int), .int .i64 (b : Int), .int .i64 100] := by rw [hM2]; exact oC.ext _
      have ho2 : OwnB M2 id 28 (ctsC (backsL k b ++ paysL k b 100 p)) := by rw [hM2]; exact ho1.ext _
      clear hM2
      cases hpr : propB k ⟨p, b, 100⟩ with
      | true =>
        have happ := app_back (e := 28) (sz := 3) (byt := 24) (n := (backsL k b ++ paysL k b 100 p).length) (ys := [.int .i64 (p : Int), .int .i64 (b : Int), .int .i64 100]) ho2 rfl (by rw [ctsC_len]) rfl rfl (by omega) (by omega)
        obtain ⟨N, hN⟩ : ∃ N, N = (backsL k b ++ paysL k b 100 p).length := ⟨_, rfl⟩
        rw [← hN] at happ t4
        simp (config := {implicitDefEqProofs := false, maxDischargeDepth := 20}) (disch := first | omega | (simp only [lenE]; done) | (simp only [lenE]; omega) | rfl | (simp only [lenE, markR_len]; done) | (simp only [lenE, markR_len]; omega)) only [runE, mapE, listE, initT_5, initT_6, initT_7, initT_8, resV, oneV, binA, unA, reduceCtorEq, Nat.reduceEqDiff, Nat.reduceAdd, Nat.reduceLT, Nat.reduceLeDiff, Nat.reduceMul, Nat.reduceSub, ↓reduceIte, decide_true, decide_false, Bool.true_eq_false, Bool.false_eq_true, Bool.not_true, Bool.not_false, if_true, if_false, and_true, true_and, memE, celE, w64, Nat.zero_add, Nat.add_zero, Nat.mul_one, putL, and_self, ldn, tm, t1, t4, t5, t6, oC2.mk3, bsl_ct, happ]
        have hidl := ho2.lt
        have hl2 := hX2.len
        refine ⟨⟨p + 1, _, M2.length + 1, by omega, rfl, ((hX2.dead (by omega)).one _ _).one _ _, oM2.at_ (same_gen (by omega) hidl), by omega, ?_, ?_, by simp⟩, by simp [intOf]; omega⟩
        · rw [pays_s, hpr, if_pos rfl, ← List.append_assoc, ctsC_app (backsL k b ++ paysL k b 100 p)]; exact OwnB.here (by simp)
        · rw [pays_s, hpr, if_pos rfl]; simp only [List.length_append, List.length_cons, List.length_nil] at hN ⊢; congr 1; omega
      | false =>
        simp (config := {implicitDefEqProofs := false, maxDischargeDepth := 20}) (disch := first | omega | (simp only [lenE]; done) | (simp only [lenE]; omega) | rfl | (simp only [lenE, markR_len]; done) | (simp only [lenE, markR_len]; omega)) only [runE, mapE, listE, initT_5, initT_6, initT_7, initT_8, resV, oneV, binA, unA, reduceCtorEq, Nat.reduceEqDiff, Nat.reduceAdd, Nat.reduceLT, Nat.reduceLeDiff, Nat.reduceMul, Nat.reduceSub, ↓reduceIte, decide_true, decide_false, Bool.true_eq_false, Bool.false_eq_true, Bool.not_true, Bool.not_false, if_true, if_false, and_true, true_and, memE, celE, w64, Nat.zero_add, Nat.add_zero, Nat.mul_one, putL, and_self, ldn, tm, t1, t4, t5, t6]
        refine ⟨⟨p + 1, _, id, by omega, rfl, hX2, oM2, hid, ?_, ?_, by simp⟩, by simp [intOf]; omega⟩
        · rw [pays_s, hpr]; simpa using ho2
        · rw [pays_s, hpr]; simp
    · have hlp' : ¬ ((p : Int) ≤ 99) := by omega
      obtain rfl : p = 100 := by omega
      simp (config := {implicitDefEqProofs := false, maxDischargeDepth := 20}) (disch := first | omega | (simp only [lenE]; done) | (simp only [lenE]; omega) | rfl | (simp only [lenE, markR_len]; done) | (simp only [lenE, markR_len]; omega)) only [runE, mapE, listE, initT_5, initT_6, initT_7, initT_8, resV, oneV, binA, unA, reduceCtorEq, Nat.reduceEqDiff, Nat.reduceAdd, Nat.reduceLT, Nat.reduceLeDiff, Nat.reduceMul, Nat.reduceSub, ↓reduceIte, decide_true, decide_false, Bool.true_eq_false, Bool.false_eq_true, Bool.not_true, Bool.not_false, if_true, if_false, and_true, true_and, memE, celE, w64, Nat.zero_add, Nat.add_zero, Nat.mul_one, putL, and_self, ldn, tm, t1, t4, t5, t6, hlp']
      exact ⟨⟨b + 1, _, id, by omega, rfl, hX, oM, hid, by rw [backs_s]; exact ho, by rw [backs_s, List.length_append], by simp⟩, by simp [intOf]; omega⟩
  · have hlt' : ¬ ((b : Int) ≤ 99) := by omega
    obtain rfl : b = 100 := by omega
    simp (config := {implicitDefEqProofs := false, maxDischargeDepth := 20}) (disch := first | omega | (simp only [lenE]; done) | (simp only [lenE]; omega) | rfl | (simp only [lenE, markR_len]; done) | (simp only [lenE, markR_len]; omega)) only [runE, mapE, listE, initT_5, initT_6, initT_7, initT_8, resV, oneV, binA, unA, reduceCtorEq, Nat.reduceEqDiff, Nat.reduceAdd, Nat.reduceLT, Nat.reduceLeDiff, Nat.reduceMul, Nat.reduceSub, ↓reduceIte, decide_true, decide_false, Bool.true_eq_false, Bool.false_eq_true, Bool.not_true, Bool.not_false, if_true, if_false, and_true, true_and, memE, celE, w64, Nat.zero_add, Nat.add_zero, Nat.mul_one, putL, and_self, ldn, tm, t1, t4, t5, hlt']
    have hbd := backsL_len hg 100 (by omega)
    exact ext_ctsM (f := fun v => .tuple #[v, .bool true]) hX ho (by omega) (by first | rfl | simp) (by first | omega | (simp; omega))
theorem implBackContracts_rc (m : Mem) (v : Value) (k : Mk) (h : MkA m v k) :
    RC Try.prog 42 [v] m (AnsO m (CtsO 28 (backsA k)) fun v => .tuple #[v, .bool k.good]) := by
  refine rc_of_run mixed ok_impl_BackContracts (by simp) (go_start _ _ _ ?_)
  obtain ⟨u, rfl, hu⟩ := h.ro
  unfold backsA
  try simp (config := {implicitDefEqProofs := false, maxDischargeDepth := 20}) (disch := first | omega | (simp only [lenE]; done) | (simp only [lenE]; omega) | rfl | (simp only [lenE, markR_len]; done) | (simp only [lenE, markR_len]; omega)) only [runE, mapE, listE, initT_5, initT_6, initT_7, initT_8, resV, oneV, binA, unA, reduceCtorEq, Nat.reduceEqDiff, Nat.reduceAdd, Nat.reduceLT, Nat.reduceLeDiff, Nat.reduceMul, Nat.reduceSub, ↓reduceIte, decide_true, decide_false, Bool.true_eq_false, Bool.false_eq_true, Bool.not_true, Bool.not_false, if_true, if_false, and_true, true_and, memE, celE, w64, Nat.zero_add, Nat.add_zero, Nat.mul_one, putL, and_self, ldn, c_impl_BackContracts, r_impl_BackContracts]
  obtain ⟨E, hE⟩ : ∃ M', M' = roM m ++ [⟨.own, 26, [u, .int .i64 k.price, .int .i64 k.make, .int .i64 k.left]⟩] := ⟨_, rfl⟩
  rw [← hE]
  have hX : Ext m E := by rw [hE]; exact ((Ext.refl m).one _ _)
  have LE : E.length = m.length + 1 := by rw [hE]; simp [roM_len]
  have oM : OwnB E (m.length) 26 [u, .int .i64 k.price, .int .i64 k.make, .int .i64 k.left] := by rw [hE]; exact (OwnB.here (by simp [roM_len]))
  clear hE
  try simp (config := {implicitDefEqProofs := false, maxDischargeDepth := 20}) (disch := first | omega | (simp only [lenE]; done) | (simp only [lenE]; omega) | rfl | (simp only [lenE, markR_len]; done) | (simp only [lenE, markR_len]; omega)) only [runE, mapE, listE, initT_5, initT_6, initT_7, initT_8, resV, oneV, binA, unA, reduceCtorEq, Nat.reduceEqDiff, Nat.reduceAdd, Nat.reduceLT, Nat.reduceLeDiff, Nat.reduceMul, Nat.reduceSub, ↓reduceIte, decide_true, decide_false, Bool.true_eq_false, Bool.false_eq_true, Bool.not_true, Bool.not_false, if_true, if_false, and_true, true_and, memE, celE, w64, Nat.zero_add, Nat.add_zero, Nat.mul_one, putL, and_self, ldn, oM.mk4]
  first | refine callH_rc (implIsMarket_rc _ _ k ⟨u, rfl, hX.ints hu⟩) ?_ | refine rcallH_rc (implIsMarket_rc _ _ k ⟨u, rfl, hX.ints hu⟩) ?_
  rintro r n1 ⟨rfl, nr1⟩
  obtain ⟨E1, hE1⟩ : ∃ M', M' = E ++ n1 := ⟨_, rfl⟩
  rw [← hE1]
  replace hX : Ext m E1 := by rw [hE1]; exact hX.app nr1
  replace oM := oM.ext n1
  rw [← hE1] at oM
  clear hE1
  cases g1 : k.good with
  | false =>
    try simp (config := {implicitDefEqProofs := false, maxDischargeDepth := 20}) (disch := first | omega | (simp only [lenE]; done) | (simp only [lenE]; omega) | rfl | (simp only [lenE, markR_len]; done) | (simp only [lenE, markR_len]; omega)) only [runE, mapE, listE, initT_5, initT_6, initT_7, initT_8, resV, oneV, binA, unA, reduceCtorEq, Nat.reduceEqDiff, Nat.reduceAdd, Nat.reduceLT, Nat.reduceLeDiff, Nat.reduceMul, Nat.reduceSub, ↓reduceIte, decide_true, decide_false, Bool.true_eq_false, Bool.false_eq_true, Bool.not_true, Bool.not_false, if_true, if_false, and_true, true_and, memE, celE, w64, Nat.zero_add, Nat.add_zero, Nat.mul_one, putL, and_self, ldn, bsl_no, oM.mk4]
    try simp (config := {implicitDefEqProofs := false, maxDischargeDepth := 20}) (disch := first | omega | (simp only [lenE]; done) | (simp only [lenE]; omega) | rfl | (simp only [lenE, markR_len]; done) | (simp only [lenE, markR_len]; omega)) only [runE, mapE, listE, initT_5, initT_6, initT_7, initT_8, resV, oneV, binA, unA, reduceCtorEq, Nat.reduceEqDiff, Nat.reduceAdd, Nat.reduceLT, Nat.reduceLeDiff, Nat.reduceMul, Nat.reduceSub, ↓reduceIte, decide_true, decide_false, Bool.true_eq_false, Bool.false_eq_true, Bool.not_true, Bool.not_false, if_true, if_false, and_true, true_and, memE, celE, w64, Nat.zero_add, Nat.add_zero, Nat.mul_one, putL, and_self, ldn, bsl_no]
    exact ext_noCts (f := fun v => .tuple #[v, .bool false]) hX rfl
  | true =>
  try simp (config := {implicitDefEqProofs := false, maxDischargeDepth := 20}) (disch := first | omega | (simp only [lenE]; done) | (simp only [lenE]; omega) | rfl | (simp only [lenE, markR_len]; done) | (simp only [lenE, markR_len]; omega)) only [runE, mapE, listE, initT_5, initT_6, initT_7, initT_8, resV, oneV, binA, unA, reduceCtorEq, Nat.reduceEqDiff, Nat.reduceAdd, Nat.reduceLT, Nat.reduceLeDiff, Nat.reduceMul, Nat.reduceSub, ↓reduceIte, decide_true, decide_false, Bool.true_eq_false, Bool.false_eq_true, Bool.not_true, Bool.not_false, if_true, if_false, and_true, true_and, memE, celE, w64, Nat.zero_add, Nat.add_zero, Nat.mul_one, putL, and_self, ldn, bsl_no, oM.mk4]
  have hg := goodM_iff.1 g1
  have hl1 := hX.len
  have hE1l : m.length + 1 ≤ E1.length := oM.lt
  have oM := oM.ext [⟨.own, 28, []⟩]
  have oP : OwnB (E1 ++ [⟨.own, 28, []⟩]) E1.length 28 [] := OwnB.here rfl
  have hX := hX.one 28 []
  have hml := (oM).lt
  refine loop_inv mixed (fun s => ∃ (b : Nat) (M : Mem) (id : Nat), b ≤ 100 ∧ s.m = M ∧ Ext m M ∧ OwnB M m.length 26 [u, .int .i64 k.price, .int .i64 k.make, .int .i64 k.left] ∧ m.length + 1 ≤ id ∧ OwnB M id 28 (ctsC (backsL k b)) ∧ s.t 1 = .pointer (some ⟨m.length, 0, none⟩) ∧ s.t 4 = .slice (some ⟨id, 0, none⟩) (backsL k b).length 3 ∧ s.t 13 = .int .i64 (b : Int)) (fun s => 105 - (intOf (s.t 13)).toNat)
    ⟨0, _, E1.length, by omega, rfl, hX, oM, hE1l, oP, rfl, rfl, rfl⟩ ?_
  rintro s ⟨b, M, id, hb, tm, hX, oM, hid, ho, t1, t4, t5⟩
  by_cases hlt : b < 100
  · have hlt' : (b : Int) < 100 := by omega
    have hbd := backsL_len hg b (by omega)
    simp (config := {implicitDefEqProofs := false, maxDischargeDepth := 20}) (disch := first | omega | (simp only [lenE]; done) | (simp only [lenE]; omega) | rfl | (simp only [lenE, markR_len]; done) | (simp only [lenE, markR_len]; omega)) only [runE, mapE, listE, initT_5, initT_6, initT_7, initT_8, resV, oneV, binA, unA, reduceCtorEq, Nat.reduceEqDiff, Nat.reduceAdd, Nat.reduceLT, Nat.reduceLeDiff, Nat.reduceMul, Nat.reduceSub, ↓reduceIte, decide_true, decide_false, Bool.true_eq_false, Bool.false_eq_true, Bool.not_true, Bool.not_false, if_true, if_false, and_true, true_and, memE, celE, w64, Nat.zero_add, Nat.add_zero, Nat.mul_one, putL, and_self, ldn, tm, t1, t4, t5, oM.mk4, hlt']
    first | refine callH_rc (payFor_rc _ _ k b 100 ⟨u, rfl, hX.ints hu⟩ hg ⟨by omega, by omega⟩ ⟨by omega, by omega⟩) ?_ | refine rcallH_rc (payFor_rc _ _ k b 100 ⟨u, rfl, hX.ints hu⟩ hg ⟨by omega, by omega⟩ ⟨by omega, by omega⟩) ?_
    rintro r n2 ⟨rfl, nr2⟩
    obtain ⟨M2, hM2⟩ : ∃ M', M' = M ++ n2 := ⟨_, rfl⟩
    rw [← hM2]
    have hX2 : Ext m M2 := by rw [hM2]; exact hX.app nr2
    have oM2 : OwnB M2 m.length 26 [u, .int .i64 k.price, .int .i64 k.make, .int .i64 k.left] := by rw [hM2]; exact oM.ext _
    have ho2 : OwnB M2 id 28 (ctsC (backsL k b)) := by rw [hM2]; exact ho.ext _
    clear hM2
    have hps := paysL_is (k := k) (b := (b : Int)) (s := 100) (no_prop' hg (by omega) (by omega)) 100
    cases hpy : payN k b 100 100 with
    | some p =>
      rw [hpy] at hps
      simp only [payV, Option.isSome_some]
      have happ := app_back (e := 28) (sz := 3) (byt := 24) (n := (backsL k b).length) (ys := [.int .i64 (p : Int), .int .i64 (b : Int), .int .i64 100]) ho2 rfl (by rw [ctsC_len]) rfl rfl (by omega) (by omega)
      obtain ⟨N, hN⟩ : ∃ N, N = (backsL k b).length := ⟨_, rfl⟩
      rw [← hN] at happ t4
      simp (config := {implicitDefEqProofs := false, maxDischargeDepth := 20}) (disch := first | omega | (simp only [lenE]; done) | (simp only [lenE]; omega) | rfl | (simp only [lenE, markR_len]; done) | (simp only [lenE, markR_len]; omega)) only [runE, mapE, listE, initT_5, initT_6, initT_7, initT_8, resV, oneV, binA, unA, reduceCtorEq, Nat.reduceEqDiff, Nat.reduceAdd, Nat.reduceLT, Nat.reduceLeDiff, Nat.reduceMul, Nat.reduceSub, ↓reduceIte, decide_true, decide_false, Bool.true_eq_false, Bool.false_eq_true, Bool.not_true, Bool.not_false, if_true, if_false, and_true, true_and, memE, celE, w64, Nat.zero_add, Nat.add_zero, Nat.mul_one, putL, and_self, ldn, tm, t1, t4, t5, ext_2_0, ext_2_1, bld_ct3, bsl_ct, happ]
      have hidl := ho2.lt
      have hl2 := hX2.len
      refine ⟨⟨b + 1, _, M2.length + 1, by omega, rfl, ((hX2.dead (by omega)).one _ _).one _ _, oM2.at_ (same_gen (by omega) hidl), by omega, ?_, ?_, by simp⟩, by simp [intOf]; omega⟩
      · rw [backs_s, hps, ctsC_app]; exact OwnB.here (by simp)
      · rw [backs_s, hps, List.length_append, ← hN]; rfl
    | none =>
      rw [hpy] at hps
      simp only [payV, Option.isSome_none]
      simp (config := {implicitDefEqProofs := false, maxDischargeDepth := 20}) (disch := first | omega | (simp only [lenE]; done) | (simp only [lenE]; omega) | rfl | (simp only [lenE, markR_len]; done) | (simp only [lenE, markR_len]; omega)) only [runE, mapE, listE, initT_5, initT_6, initT_7, initT_8, resV, oneV, binA, unA, reduceCtorEq, Nat.reduceEqDiff, Nat.reduceAdd, Nat.reduceLT, Nat.reduceLeDiff, Nat.reduceMul, Nat.reduceSub, ↓reduceIte, decide_true, decide_false, Bool.true_eq_false, Bool.false_eq_true, Bool.not_true, Bool.not_false, if_true, if_false, and_true, true_and, memE, celE, w64, Nat.zero_add, Nat.add_zero, Nat.mul_one, putL, and_self, ldn, tm, t1, t4, t5, ext_2_0, ext_2_1]
      refine ⟨⟨b + 1, _, id, by omega, rfl, hX2, oM2, hid, ?_, ?_, by simp⟩, by simp [intOf]; omega⟩
      · rw [backs_s, hps]; simpa using ho2
      · rw [backs_s, hps]; simp
  · have hlt' : ¬ ((b : Int) < 100) := by omega
    obtain rfl : b = 100 := by omega
    simp (config := {implicitDefEqProofs := false, maxDischargeDepth := 20}) (disch := first | omega | (simp only [lenE]; done) | (simp only [lenE]; omega) | rfl | (simp only [lenE, markR_len]; done) | (simp only [lenE, markR_len]; omega)) only [runE, mapE, listE, initT_5, initT_6, initT_7, initT_8, resV, oneV, binA, unA, reduceCtorEq, Nat.reduceEqDiff, Nat.reduceAdd, Nat.reduceLT, Nat.reduceLeDiff, Nat.reduceMul, Nat.reduceSub, ↓reduceIte, decide_true, decide_false, Bool.true_eq_false, Bool.false_eq_true, Bool.not_true, Bool.not_false, if_true, if_false, and_true, true_and, memE, celE, w64, Nat.zero_add, Nat.add_zero, Nat.mul_one, putL, and_self, ldn, tm, t1, t4, t5, hlt']
    have hbd := backsL_len hg 100 (by omega)
    exact ext_ctsM (f := fun v => .tuple #[v, .bool true]) hX ho (by omega) (by first | rfl | simp) (by first | omega | (simp; omega))
end Go.Proofs.Ytpedjcagaeedjaa.Ab
end
section
namespace Go.Proofs.Ytpedjcagaeedjaa
set_option linter.unusedVariables false
def gP (k : Mk) (p : Int) (q : Nat) : Int := 100 * ((k.price - p) * tot k.w - (k.price - k.left) * upF k.w q)
theorem part_joi {k : Mk} {c : Ct} (hp : propB k c = true) (q : Nat) : selP k c q * 100 * (k.price - k.left) = joiP k q * partP k c := by
  simp only [propB, Bool.and_eq_true, decide_eq_true_eq] at hp
  have h2 := hp.2
  unfold partP at h2 ⊢
  unfold selP joiP
  generalize sal k.w q = S
  generalize tot k.w * (q : Int) = A
  generalize k.left = L at *
  generalize k.make = M at *
  generalize k.price = P at *
  generalize c.back = B at *
  generalize c.pay = Y at *
  generalize c.share = H at *
  have e1 : (H * P * S + 100 * ((L + B) * (A - S) - Y * A)) = S * (H * P - 100 * (L + B)) + A * (100 * (L + B - Y)) := by grind
  rw [e1]
  have e2 : (S * (H * P - 100 * (L + B)) + A * (100 * (L + B - Y))) * 100 * (P - L) = 100 * (S * ((H * P - 100 * (L + B)) * (P - L)) + A * (100 * (L + B - Y) * (P - L))) := by grind
  rw [e2, ← h2]
  grind
theorem prop_loss {k : Mk} {c : Ct} (h : GoodM k) (hc : GoodC c) (hp : propB k c = true) : selO k c = joiO k ∧ lossP k c = 0 := by
  have hlt := prop_price h hc hp
  have hpos : 0 < partP k c := by simp only [propB, Bool.and_eq_true, decide_eq_true_eq] at hp; exact hp.1
  have key : ∀ i j, joiP k i ≤ joiP k j → selP k c i ≤ selP k c j := fun i j hij => by
    have h1 : joiP k i * partP k c ≤ joiP k j * partP k c := Int.mul_le_mul_of_nonneg_right hij (by omega)
    rw [← part_joi hp, ← part_joi hp] at h1
    have h2 := Int.le_of_mul_le_mul_right h1 (by omega)
    omega
  have key2 : ∀ i j, joiP k i < joiP k j → selP k c i < selP k c j := fun i j hij => by
    have h1 : joiP k i * partP k c < joiP k j * partP k c := Int.mul_lt_mul_of_pos_right hij hpos
    rw [← part_joi hp, ← part_joi hp] at h1
    rcases Int.lt_or_le (selP k c i) (selP k c j) with e | e
    · exact e
    · have h3 : selP k c j * 100 * (k.price - k.left) ≤ selP k c i * 100 * (k.price - k.left) := Int.mul_le_mul_of_nonneg_right (by omega) (by omega)
      omega
  have e : selO k c = joiO k := argG_uniq _ _ _ (joiO_le k) (fun j hj => key _ _ (argG_max _ _ _ hj)) fun j hj => key2 _ _ (argG_first _ _ _ hj)
  exact ⟨e, by unfold lossP; rw [e]; omega⟩
theorem pj_bd {k : Mk} {c : Ct} (h : GoodM k) (hc : GoodC c) (hp : propB k c = true) {q : Nat} (hq : q ≤ 8) : -200000000000 ≤ joiP k q * partP k c ∧ joiP k q * partP k c ≤ 200000000000 := by
  have a := joi_bd h hq
  have b := (part_bd h hc).2.1
  have hpos : 0 < partP k c := by simp only [propB, Bool.and_eq_true, decide_eq_true_eq] at hp; exact hp.1
  have p3 := mulI (a := joiP k q + 5702400) (x := partP k c) (A := 11404800) (B := 9900) (by omega) (by omega)
  rw [Int.add_mul] at p3
  omega
theorem pays_in {k : Mk} {b : Nat} {c : Ct} {n : Nat} (h : c ∈ paysL k b 100 n) (hn : n ≤ 100) (hb : b ≤ 99) : GoodC c ∧ propB k c = true := by
  induction n with
  | zero => simp [paysL] at h
  | succ n ih =>
    simp only [paysL] at h
    rcases List.mem_append.1 h with g | g
    · exact ih g (by omega)
    · by_cases e : propB k ⟨n, b, 100⟩ = true
      · rw [if_pos e] at g
        rw [List.mem_singleton.1 g]
        exact ⟨⟨by simp; omega, by simp; omega, by simp⟩, e⟩
      · rw [if_neg e] at g; cases g
theorem backs_in {k : Mk} {c : Ct} {n : Nat} (h : c ∈ backsL k n) (hn : n ≤ 100) : GoodC c ∧ propB k c = true := by
  induction n with
  | zero => simp [backsL] at h
  | succ n ih =>
    simp only [backsL] at h
    rcases List.mem_append.1 h with g | g
    · exact ih g (by omega)
    · exact pays_in g (by omega) (by omega)
end Go.Proofs.Ytpedjcagaeedjaa
end
section
namespace Go.Proofs.Ytpedjcagaeedjaa.Ab
open Go Go.RowKit Go.Proofs
set_option maxRecDepth 100000
def c_laws_FnContracts : ACode := .seq (.reg [⟨(some 2), .mv (.const (.bool false)), none⟩])
 (.seq (.seq (.reg [⟨(some 45), .mv (.tmp 0), none⟩,
  ⟨(some 46), .call (.func 5) [(.tmp 45)], none⟩])
 (.cond (.tmp 46) (.seq (.reg [⟨(some 2), .mv (.const (.bool true)), none⟩])
 (.ret)) (.skip)))
 (.seq (.reg [⟨(some 48), .mv (.tmp 0), none⟩,
  ⟨(some 49), .call (.func 28) [(.tmp 48)], none⟩,
  ⟨(some 47), .mv (.tmp 49), none⟩,
  ⟨(some 50), .ext 0 (.tmp 47), none⟩,
  ⟨(some 51), .ext 1 (.tmp 47), none⟩,
  ⟨(some 3), .alc 26 [(.slice none 0 0), (.int .i64 0), (.int .i64 0), (.int .i64 0)], none⟩,
  ⟨(some 4), .alc 28 [(.int .i64 0), (.int .i64 0), (.int .i64 0)], none⟩,
  ⟨none, .st 4 (.tmp 3) (.tmp 50), none⟩,
  ⟨none, .st 3 (.tmp 4) (.tmp 51), none⟩])
 (.seq (.reg [⟨(some 53), .ld (some 4) (.tmp 3), none⟩,
  ⟨(some 54), .ld (some 3) (.tmp 4), none⟩,
  ⟨(some 55), .call (.func 29) [(.tmp 53), (.tmp 54)], none⟩,
  ⟨(some 52), .mv (.tmp 55), none⟩,
  ⟨(some 56), .ext 0 (.tmp 52), none⟩,
  ⟨(some 57), .ext 1 (.tmp 52), none⟩,
  ⟨(some 5), .mv (.tmp 56), none⟩,
  ⟨(some 6), .mv (.tmp 57), none⟩])
 (.seq (.seq (.reg [⟨(some 59), .ld (some 4) (.tmp 3), none⟩,
  ⟨(some 60), .ld (some 3) (.tmp 4), none⟩,
  ⟨(some 61), .call (.func 30) [(.tmp 59), (.tmp 60)], none⟩,
  ⟨(some 58), .mv (.tmp 61), none⟩,
  ⟨(some 62), .ext 0 (.tmp 58), none⟩,
  ⟨(some 63), .ext 1 (.tmp 58), none⟩,
  ⟨(some 7), .mv (.tmp 62), none⟩,
  ⟨(some 8), .mv (.tmp 63), none⟩])
 (.seq (.reg [⟨(some 64), .mv (.tmp 5), none⟩,
  ⟨(some 65), .mv (.tmp 7), none⟩,
  ⟨(some 66), .beq true (.tmp 64) (.tmp 65), none⟩,
  ⟨(some 67), .mv (.tmp 66), none⟩,
  ⟨(some 68), .mv (.tmp 6), (some (67, false))⟩,
  ⟨(some 69), .mv (.tmp 8), (some (67, false))⟩,
  ⟨(some 70), .beq true (.tmp 68) (.tmp 69), (some (67, false))⟩,
  ⟨(some 71), .pick (.tmp 67) (.const (.bool true)) (.tmp 70), none⟩,
  ⟨(some 72), .mv (.tmp 71), none⟩,
  ⟨(some 73), .ld (some 3) (.tmp 4), (some (72, false))⟩,
  ⟨(some 75), .ld (some 3) (.tmp 4), (some (72, false))⟩,
  ⟨(some 74), .rcall (.func 31) [(.tmp 73)], (some (72, false))⟩,
  ⟨(some 76), .rcall (.func 32) [(.tmp 75)], (some (72, false))⟩,
  ⟨(some 77), .beq true (.tmp 74) (.tmp 76), (some (72, false))⟩,
  ⟨(some 78), .pick (.tmp 72) (.const (.bool true)) (.tmp 77), none⟩])
 (.cond (.tmp 78) (.seq (.reg [⟨(some 2), .mv (.const (.bool false)), none⟩])
 (.ret)) (.skip))))
 (.seq (.reg [⟨(some 80), .ld (some 4) (.tmp 3), none⟩,
  ⟨(some 81), .ld (some 3) (.tmp 4), none⟩,
  ⟨(some 82), .call (.func 33) [(.tmp 80), (.tmp 81)], none⟩,
  ⟨(some 79), .mv (.tmp 82), none⟩,
  ⟨(some 83), .ext 0 (.tmp 79), none⟩,
  ⟨(some 84), .ext 1 (.tmp 79), none⟩,
  ⟨(some 9), .mv (.tmp 83), none⟩,
  ⟨(some 10), .mv (.tmp 84), none⟩])
 (.seq (.seq (.reg [⟨(some 86), .ld (some 4) (.tmp 3), none⟩,
  ⟨(some 87), .ld (some 3) (.tmp 4), none⟩,
  ⟨(some 88), .call (.func 34) [(.tmp 86), (.tmp 87)], none⟩,
  ⟨(some 85), .mv (.tmp 88), none⟩,
  ⟨(some 89), .ext 0 (.tmp 85), none⟩,
  ⟨(some 90), .ext 1 (.tmp 85), none⟩,
  ⟨(some 11), .mv (.tmp 89), none⟩,
  ⟨(some 12), .mv (.tmp 90), none⟩])
 (.seq (.reg [⟨(some 91), .mv (.tmp 9), none⟩,
  ⟨(some 92), .mv (.tmp 11), none⟩,
  ⟨(some 93), .bin .neq (.tmp 91) (.tmp 92), none⟩,
  ⟨(some 94), .mv (.tmp 93), none⟩,
  ⟨(some 95), .mv (.tmp 10), (some (94, false))⟩,
  ⟨(some 96), .mv (.tmp 12), (some (94, false))⟩,
  ⟨(some 97), .beq true (.tmp 95) (.tmp 96), (some (94, false))⟩,
  ⟨(some 98), .pick (.tmp 94) (.const (.bool true)) (.tmp 97), none⟩,
  ⟨(some 99), .mv (.tmp 98), none⟩,
  ⟨(some 100), .mv (.tmp 10), (some (99, false))⟩,
  ⟨(some 101), .mv (.tmp 6), (some (99, false))⟩,
  ⟨(some 102), .beq true (.tmp 100) (.tmp 101), (some (99, false))⟩,
  ⟨(some 103), .pick (.tmp 99) (.const (.bool true)) (.tmp 102), none⟩])
 (.cond (.tmp 103) (.seq (.reg [⟨(some 2), .mv (.const (.bool false)), none⟩])
 (.ret)) (.skip))))
 (.seq (.reg [⟨(some 105), .ld (some 4) (.tmp 3), none⟩,
  ⟨(some 106), .ld (some 3) (.tmp 4), none⟩,
  ⟨(some 107), .call (.func 35) [(.tmp 105), (.tmp 106)], none⟩,
  ⟨(some 104), .mv (.tmp 107), none⟩,
  ⟨(some 108), .ext 0 (.tmp 104), none⟩,
  ⟨(some 109), .ext 1 (.tmp 104), none⟩,
  ⟨(some 13), .mv (.tmp 108), none⟩,
  ⟨(some 14), .mv (.tmp 109), none⟩])
 (.seq (.seq (.reg [⟨(some 111), .ld (some 4) (.tmp 3), none⟩,
  ⟨(some 112), .ld (some 3) (.tmp 4), none⟩,
  ⟨(some 113), .call (.func 36) [(.tmp 111), (.tmp 112)], none⟩,
  ⟨(some 110), .mv (.tmp 113), none⟩,
  ⟨(some 114), .ext 0 (.tmp 110), none⟩,
  ⟨(some 115), .ext 1 (.tmp 110), none⟩,
  ⟨(some 15), .mv (.tmp 114), none⟩,
  ⟨(some 16), .mv (.tmp 115), none⟩])
 (.seq (.reg [⟨(some 116), .mv (.tmp 13), none⟩,
  ⟨(some 117), .mv (.tmp 15), none⟩,
  ⟨(some 118), .bin .neq (.tmp 116) (.tmp 117), none⟩,
  ⟨(some 119), .mv (.tmp 118), none⟩,
  ⟨(some 120), .mv (.tmp 14), (some (119, false))⟩,
  ⟨(some 121), .mv (.tmp 16), (some (119, false))⟩,
  ⟨(some 122), .beq true (.tmp 120) (.tmp 121), (some (119, false))⟩,
  ⟨(some 123), .pick (.tmp 119) (.const (.bool true)) (.tmp 122), none⟩,
  ⟨(some 124), .mv (.tmp 123), none⟩,
  ⟨(some 125), .mv (.tmp 14), (some (124, false))⟩,
  ⟨(some 126), .mv (.tmp 6), (some (124, false))⟩,
  ⟨(some 127), .beq true (.tmp 125) (.tmp 126), (some (124, false))⟩,
  ⟨(some 128), .pick (.tmp 124) (.const (.bool true)) (.tmp 127), none⟩,
  ⟨(some 129), .mv (.tmp 128), none⟩,
  ⟨(some 130), .mv (.tmp 13), (some (129, false))⟩,
  ⟨(some 131), .bin .lss (.tmp 130) (.const (.int .i64 0)), (some (129, false))⟩,
  ⟨(some 132), .pick (.tmp 129) (.const (.bool true)) (.tmp 131), none⟩])
 (.cond (.tmp 132) (.seq (.reg [⟨(some 2), .mv (.const (.bool false)), none⟩])
 (.ret)) (.skip))))
 (.seq (.reg [⟨(some 134), .ld (some 4) (.tmp 3), none⟩,
  ⟨(some 135), .ld (some 3) (.tmp 4), none⟩,
  ⟨(some 136), .call (.func 37) [(.tmp 134), (.tmp 135)], none⟩,
  ⟨(some 133), .mv (.tmp 136), none⟩,
  ⟨(some 137), .ext 0 (.tmp 133), none⟩,
  ⟨(some 138), .ext 1 (.tmp 133), none⟩,
  ⟨(some 17), .mv (.tmp 137), none⟩,
  ⟨(some 18), .mv (.tmp 138), none⟩])
 (.seq (.seq (.reg [⟨(some 140), .ld (some 4) (.tmp 3), none⟩,
  ⟨(some 141), .ld (some 3) (.tmp 4), none⟩,
  ⟨(some 142), .call (.func 38) [(.tmp 140), (.tmp 141)], none⟩,
  ⟨(some 139), .mv (.tmp 142), none⟩,
  ⟨(some 143), .ext 0 (.tmp 139), none⟩,
  ⟨(some 144), .ext 1 (.tmp 139), none⟩,
  ⟨(some 19), .mv (.tmp 143), none⟩,
  ⟨(some 20), .mv (.tmp 144), none⟩])
 (.seq (.reg [⟨(some 145), .mv (.tmp 17), none⟩,
  ⟨(some 146), .mv (.tmp 19), none⟩,
  ⟨(some 147), .beq true (.tmp 145) (.tmp 146), none⟩,
  ⟨(some 148), .mv (.tmp 147), none⟩,
  ⟨(some 149), .mv (.tmp 18), (some (148, false))⟩,
  ⟨(some 150), .mv (.tmp 20), (some (148, false))⟩,
  ⟨(some 151), .beq true (.tmp 149) (.tmp 150), (some (148, false))⟩,
  ⟨(some 152), .pick (.tmp 148) (.const (.bool true)) (.tmp 151), none⟩,
  ⟨(some 153), .mv (.tmp 152), none⟩,
  ⟨(some 154), .mv (.tmp 18), (some (153, false))⟩,
  ⟨(some 155), .mv (.tmp 6), (some (153, false))⟩,
  ⟨(some 156), .beq true (.tmp 154) (.tmp 155), (some (153, false))⟩,
  ⟨(some 157), .pick (.tmp 153) (.const (.bool true)) (.tmp 156), none⟩,
  ⟨(some 158), .mv (.tmp 157), none⟩,
  ⟨(some 159), .mv (.tmp 6), (some (158, false))⟩,
  ⟨(some 160), .mv (.tmp 159), (some (158, false))⟩,
  ⟨(some 161), .mv (.tmp 17), (some (160, true))⟩,
  ⟨(some 162), .mv (.tmp 13), (some (160, true))⟩,
  ⟨(some 163), .bin .eql (.tmp 162) (.const (.int .i64 0)), (some (160, true))⟩,
  ⟨(some 164), .beq true (.tmp 161) (.tmp 163), (some (160, true))⟩,
  ⟨(some 165), .pick (.tmp 160) (.tmp 164) (.const (.bool false)), (some (158, false))⟩,
  ⟨(some 166), .pick (.tmp 158) (.const (.bool true)) (.tmp 165), none⟩])
 (.cond (.tmp 166) (.seq (.reg [⟨(some 2), .mv (.const (.bool false)), none⟩])
 (.ret)) (.skip))))
 (.seq (.reg [⟨(some 168), .mv (.tmp 0), none⟩,
  ⟨(some 169), .call (.func 39) [(.tmp 168)], none⟩,
  ⟨(some 167), .mv (.tmp 169), none⟩,
  ⟨(some 170), .ext 0 (.tmp 167), none⟩,
  ⟨(some 171), .ext 1 (.tmp 167), none⟩,
  ⟨(some 172), .ext 2 (.tmp 167), none⟩,
  ⟨(some 21), .alc 26 [(.slice none 0 0), (.int .i64 0), (.int .i64 0), (.int .i64 0)], none⟩,
  ⟨none, .st 4 (.tmp 21) (.tmp 170), none⟩,
  ⟨(some 22), .mv (.tmp 171), none⟩,
  ⟨(some 23), .mv (.tmp 172), none⟩])
 (.seq (.reg [⟨(some 174), .ld (some 4) (.tmp 21), none⟩,
  ⟨(some 175), .mv (.tmp 22), none⟩,
  ⟨(some 176), .mv (.tmp 23), none⟩,
  ⟨(some 177), .call (.func 40) [(.tmp 174), (.tmp 175), (.tmp 176)], none⟩,
  ⟨(some 173), .mv (.tmp 177), none⟩,
  ⟨(some 178), .ext 0 (.tmp 173), none⟩,
  ⟨(some 179), .ext 1 (.tmp 173), none⟩,
  ⟨(some 24), .mv (.tmp 178), none⟩,
  ⟨(some 25), .mv (.tmp 179), none⟩])
 (.seq (.seq (.reg [⟨(some 181), .ld (some 4) (.tmp 21), none⟩,
  ⟨(some 182), .mv (.tmp 22), none⟩,
  ⟨(some 183), .mv (.tmp 23), none⟩,
  ⟨(some 184), .call (.func 41) [(.tmp 181), (.tmp 182), (.tmp 183)], none⟩,
  ⟨(some 180), .mv (.tmp 184), none⟩,
  ⟨(some 185), .ext 0 (.tmp 180), none⟩,
  ⟨(some 186), .ext 1 (.tmp 180), none⟩,
  ⟨(some 26), .mv (.tmp 185), none⟩,
  ⟨(some 27), .mv (.tmp 186), none⟩])
 (.seq (.reg [⟨(some 187), .mv (.tmp 24), none⟩,
  ⟨(some 188), .mv (.tmp 26), none⟩,
  ⟨(some 189), .bin .neq (.tmp 187) (.tmp 188), none⟩,
  ⟨(some 190), .mv (.tmp 189), none⟩,
  ⟨(some 191), .mv (.tmp 25), (some (190, false))⟩,
  ⟨(some 192), .mv (.tmp 27), (some (190, false))⟩,
  ⟨(some 193), .beq true (.tmp 191) (.tmp 192), (some (190, false))⟩,
  ⟨(some 194), .pick (.tmp 190) (.const (.bool true)) (.tmp 193), none⟩])
 (.cond (.tmp 194) (.seq (.reg [⟨(some 2), .mv (.const (.bool false)), none⟩])
 (.ret)) (.skip))))
 (.seq (.seq (.reg [⟨(some 195), .mv (.tmp 25), none⟩])
 (.cond (.tmp 195) (.seq (.reg [⟨(some 197), .ld (some 4) (.tmp 21), none⟩,
  ⟨(some 198), .mv (.tmp 24), none⟩,
  ⟨(some 199), .mv (.tmp 22), none⟩,
  ⟨(some 200), .mv (.tmp 23), none⟩,
  ⟨(some 201), .bld [(.int .i64 0), (.int .i64 0), (.int .i64 0)] [(0, 1, (.tmp 198)), (1, 1, (.tmp 199)), (2, 1, (.tmp 200))], none⟩,
  ⟨(some 202), .call (.func 29) [(.tmp 197), (.tmp 201)], none⟩,
  ⟨(some 196), .mv (.tmp 202), none⟩,
  ⟨(some 203), .ext 0 (.tmp 196), none⟩,
  ⟨(some 204), .ext 1 (.tmp 196), none⟩,
  ⟨(some 28), .mv (.tmp 203), none⟩,
  ⟨(some 29), .mv (.tmp 204), none⟩])
 (.seq (.reg [⟨(some 205), .mv (.tmp 29), none⟩,
  ⟨(some 206), .un .not (.tmp 205), none⟩,
  ⟨(some 207), .mv (.tmp 206), none⟩,
  ⟨(some 208), .mv (.tmp 28), (some (207, false))⟩,
  ⟨(some 209), .un .not (.tmp 208), (some (207, false))⟩,
  ⟨(some 210), .pick (.tmp 207) (.const (.bool true)) (.tmp 209), none⟩])
 (.cond (.tmp 210) (.seq (.reg [⟨(some 2), .mv (.const (.bool false)), none⟩])
 (.ret)) (.skip)))) (.skip)))
 (.seq (.reg [⟨(some 212), .ld (some 4) (.tmp 3), none⟩,
  ⟨(some 213), .call (.func 42) [(.tmp 212)], none⟩,
  ⟨(some 211), .mv (.tmp 213), none⟩,
  ⟨(some 214), .ext 0 (.tmp 211), none⟩,
  ⟨(some 215), .ext 1 (.tmp 211), none⟩,
  ⟨(some 30), .mv (.tmp 214), none⟩,
  ⟨(some 31), .mv (.tmp 215), none⟩])
 (.seq (.reg [⟨(some 217), .ld (some 4) (.tmp 3), none⟩,
  ⟨(some 218), .call (.func 43) [(.tmp 217)], none⟩,
  ⟨(some 216), .mv (.tmp 218), none⟩,
  ⟨(some 219), .ext 0 (.tmp 216), none⟩,
  ⟨(some 220), .ext 1 (.tmp 216), none⟩,
  ⟨(some 32), .mv (.tmp 219), none⟩,
  ⟨(some 33), .mv (.tmp 220), none⟩])
 (.seq (.seq (.reg [⟨(some 221), .mv (.tmp 31), none⟩,
  ⟨(some 222), .mv (.tmp 33), none⟩,
  ⟨(some 223), .beq true (.tmp 221) (.tmp 222), none⟩,
  ⟨(some 224), .mv (.tmp 223), none⟩,
  ⟨(some 225), .mv (.tmp 31), (some (224, false))⟩,
  ⟨(some 226), .ld (some 4) (.tmp 3), (some (224, false))⟩,
  ⟨(some 227), .call (.func 17) [(.tmp 226)], (some (224, false))⟩,
  ⟨(some 228), .beq true (.tmp 225) (.tmp 227), (some (224, false))⟩,
  ⟨(some 229), .pick (.tmp 224) (.const (.bool true)) (.tmp 228), none⟩,
  ⟨(some 230), .mv (.tmp 229), none⟩,
  ⟨(some 231), .mv (.tmp 30), (some (230, false))⟩,
  ⟨(some 232), .len (.tmp 231), (some (230, false))⟩,
  ⟨(some 233), .mv (.tmp 32), (some (230, false))⟩,
  ⟨(some 234), .len (.tmp 233), (some (230, false))⟩,
  ⟨(some 235), .bin .neq (.tmp 232) (.tmp 234), (some (230, false))⟩,
  ⟨(some 236), .pick (.tmp 230) (.const (.bool true)) (.tmp 235), none⟩])
 (.cond (.tmp 236) (.seq (.reg [⟨(some 2), .mv (.const (.bool false)), none⟩])
 (.ret)) (.skip)))
 (.seq (.seq (.reg [⟨(some 34), .mv (.const (.int .i64 0)), none⟩])
 (.block 0 (.loop (.seq (.seq (.reg [⟨(some 237), .mv (.tmp 34), none⟩,
  ⟨(some 238), .mv (.tmp 30), none⟩,
  ⟨(some 239), .len (.tmp 238), none⟩,
  ⟨(some 240), .bin .lss (.tmp 237) (.tmp 239), none⟩])
 (.cond (.tmp 240) (.skip) (.exit 0)))
 (.seq (.block 1 (.seq (.seq (.reg [⟨(some 243), .mv (.tmp 30), none⟩,
  ⟨(some 244), .mv (.tmp 34), none⟩,
  ⟨(some 245), .iad 3 (.tmp 243) (.tmp 244), none⟩,
  ⟨(some 246), .ld (some 3) (.tmp 245), none⟩,
  ⟨(some 247), .mv (.tmp 32), none⟩,
  ⟨(some 248), .mv (.tmp 34), none⟩,
  ⟨(some 249), .iad 3 (.tmp 247) (.tmp 248), none⟩,
  ⟨(some 250), .ld (some 3) (.tmp 249), none⟩,
  ⟨(some 251), .aeq true 3 (.tmp 246) (.tmp 250), none⟩])
 (.cond (.tmp 251) (.seq (.reg [⟨(some 2), .mv (.const (.bool false)), none⟩])
 (.ret)) (.skip)))
 (.seq (.reg [⟨(some 253), .ld (some 4) (.tmp 3), none⟩,
  ⟨(some 254), .mv (.tmp 30), none⟩,
  ⟨(some 255), .mv (.tmp 34), none⟩,
  ⟨(some 256), .iad 3 (.tmp 254) (.tmp 255), none⟩,
  ⟨(some 257), .ld (some 3) (.tmp 256), none⟩,
  ⟨(some 258), .rcall (.func 35) [(.tmp 253), (.tmp 257)], none⟩,
  ⟨(some 252), .mv (.tmp 258), none⟩,
  ⟨(some 259), .ext 0 (.tmp 252), none⟩,
  ⟨(some 260), .ext 1 (.tmp 252), none⟩,
  ⟨(some 35), .mv (.tmp 259), none⟩,
  ⟨(some 36), .mv (.tmp 260), none⟩])
 (.seq (.reg [⟨(some 261), .mv (.tmp 36), none⟩,
  ⟨(some 262), .un .not (.tmp 261), none⟩,
  ⟨(some 263), .mv (.tmp 262), none⟩,
  ⟨(some 264), .fad 1 (.tmp 3), (some (263, false))⟩,
  ⟨(some 265), .ld none (.tmp 264), (some (263, false))⟩,
  ⟨(some 266), .fad 3 (.tmp 3), (some (263, false))⟩,
  ⟨(some 267), .ld none (.tmp 266), (some (263, false))⟩,
  ⟨(some 268), .bin .gtr (.tmp 265) (.tmp 267), (some (263, false))⟩,
  ⟨(some 269), .mv (.tmp 268), (some (263, false))⟩,
  ⟨(some 270), .mv (.tmp 35), (some (269, true))⟩,
  ⟨(some 271), .bin .neq (.tmp 270) (.const (.int .i64 0)), (some (269, true))⟩,
  ⟨(some 272), .pick (.tmp 269) (.tmp 271) (.const (.bool false)), (some (263, false))⟩,
  ⟨(some 273), .pick (.tmp 263) (.const (.bool true)) (.tmp 272), none⟩])
 (.cond (.tmp 273) (.seq (.reg [⟨(some 2), .mv (.const (.bool false)), none⟩])
 (.ret)) (.skip))))))
 (.reg [⟨(some 241), .mv (.tmp 34), none⟩,
  ⟨(some 242), .bin .add (.tmp 241) (.const (.int .i64 1)), none⟩,
  ⟨(some 34), .mv (.tmp 242), none⟩]))))))
 (.seq (.seq (.reg [⟨(some 274), .mv (.tmp 5), none⟩,
  ⟨(some 275), .un .not (.tmp 274), none⟩,
  ⟨(some 276), .mv (.tmp 275), none⟩,
  ⟨(some 277), .fad 1 (.tmp 3), (some (276, false))⟩,
  ⟨(some 278), .ld none (.tmp 277), (some (276, false))⟩,
  ⟨(some 279), .fad 3 (.tmp 3), (some (276, false))⟩,
  ⟨(some 280), .ld none (.tmp 279), (some (276, false))⟩,
  ⟨(some 281), .bin .eql (.tmp 278) (.tmp 280), (some (276, false))⟩,
  ⟨(some 282), .pick (.tmp 276) (.const (.bool true)) (.tmp 281), none⟩])
 (.cond (.tmp 282) (.seq (.reg [⟨(some 2), .mv (.const (.bool true)), none⟩])
 (.ret)) (.skip)))
 (.seq (.reg [⟨(some 284), .ld (some 4) (.tmp 3), none⟩,
  ⟨(some 285), .call (.func 19) [(.tmp 284)], none⟩,
  ⟨(some 283), .mv (.tmp 285), none⟩,
  ⟨(some 286), .ext 0 (.tmp 283), none⟩,
  ⟨(some 287), .ext 1 (.tmp 283), none⟩,
  ⟨(some 37), .mv (.tmp 286), none⟩,
  ⟨(some 38), .mv (.tmp 287), none⟩])
 (.seq (.seq (.reg [⟨(some 288), .mv (.tmp 38), none⟩,
  ⟨(some 289), .un .not (.tmp 288), none⟩,
  ⟨(some 290), .mv (.tmp 289), none⟩,
  ⟨(some 291), .mv (.tmp 9), (some (290, false))⟩,
  ⟨(some 292), .mv (.tmp 37), (some (290, false))⟩,
  ⟨(some 293), .bin .neq (.tmp 291) (.tmp 292), (some (290, false))⟩,
  ⟨(some 294), .pick (.tmp 290) (.const (.bool true)) (.tmp 293), none⟩,
  ⟨(some 295), .mv (.tmp 294), none⟩,
  ⟨(some 296), .mv (.tmp 13), (some (295, false))⟩,
  ⟨(some 297), .bin .neq (.tmp 296) (.const (.int .i64 0)), (some (295, false))⟩,
  ⟨(some 298), .pick (.tmp 295) (.const (.bool true)) (.tmp 297), none⟩])
 (.cond (.tmp 298) (.seq (.reg [⟨(some 2), .mv (.const (.bool false)), none⟩])
 (.ret)) (.skip)))
 (.seq (.reg [⟨(some 299), .fad 2 (.tmp 4), none⟩,
  ⟨(some 300), .ld none (.tmp 299), none⟩,
  ⟨(some 301), .fad 1 (.tmp 3), none⟩,
  ⟨(some 302), .ld none (.tmp 301), none⟩,
  ⟨(some 303), .bin .mul (.tmp 300) (.tmp 302), none⟩,
  ⟨(some 304), .fad 3 (.tmp 3), none⟩,
  ⟨(some 305), .ld none (.tmp 304), none⟩,
  ⟨(some 306), .fad 1 (.tmp 4), none⟩,
  ⟨(some 307), .ld none (.tmp 306), none⟩,
  ⟨(some 308), .bin .add (.tmp 305) (.tmp 307), none⟩,
  ⟨(some 309), .bin .mul (.const (.int .i64 100)) (.tmp 308), none⟩,
  ⟨(some 310), .bin .sub (.tmp 303) (.tmp 309), none⟩,
  ⟨(some 39), .mv (.tmp 310), none⟩])
 (.seq (.seq (.reg [⟨(some 40), .mv (.const (.int .i64 0)), none⟩])
 (.block 2 (.loop (.seq (.seq (.reg [⟨(some 311), .mv (.tmp 40), none⟩,
  ⟨(some 312), .bin .leq (.tmp 311) (.const (.int .i64 8)), none⟩])
 (.cond (.tmp 312) (.skip) (.exit 2)))
 (.seq (.block 3 (.seq (.reg [⟨(some 316), .ld (some 4) (.tmp 3), none⟩,
  ⟨(some 317), .ld (some 3) (.tmp 4), none⟩,
  ⟨(some 318), .mv (.tmp 40), none⟩,
  ⟨(some 319), .call (.func 7) [(.tmp 316), (.tmp 317), (.tmp 318)], none⟩,
  ⟨(some 315), .mv (.tmp 319), none⟩,
  ⟨(some 320), .ext 0 (.tmp 315), none⟩,
  ⟨(some 321), .ext 1 (.tmp 315), none⟩,
  ⟨(some 41), .mv (.tmp 320), none⟩,
  ⟨(some 42), .mv (.tmp 321), none⟩])
 (.seq (.reg [⟨(some 323), .ld (some 4) (.tmp 3), none⟩,
  ⟨(some 324), .mv (.tmp 40), none⟩,
  ⟨(some 325), .call (.func 11) [(.tmp 323), (.tmp 324)], none⟩,
  ⟨(some 322), .mv (.tmp 325), none⟩,
  ⟨(some 326), .ext 0 (.tmp 322), none⟩,
  ⟨(some 327), .ext 1 (.tmp 322), none⟩,
  ⟨(some 43), .mv (.tmp 326), none⟩,
  ⟨(some 44), .mv (.tmp 327), none⟩])
 (.seq (.reg [⟨(some 328), .mv (.tmp 42), none⟩,
  ⟨(some 329), .un .not (.tmp 328), none⟩,
  ⟨(some 330), .mv (.tmp 329), none⟩,
  ⟨(some 331), .mv (.tmp 44), (some (330, false))⟩,
  ⟨(some 332), .un .not (.tmp 331), (some (330, false))⟩,
  ⟨(some 333), .pick (.tmp 330) (.const (.bool true)) (.tmp 332), none⟩,
  ⟨(some 334), .mv (.tmp 333), none⟩,
  ⟨(some 335), .mv (.tmp 41), (some (334, false))⟩,
  ⟨(some 336), .bin .mul (.tmp 335) (.const (.int .i64 100)), (some (334, false))⟩,
  ⟨(some 337), .fad 1 (.tmp 3), (some (334, false))⟩,
  ⟨(some 338), .ld none (.tmp 337), (some (334, false))⟩,
  ⟨(some 339), .fad 3 (.tmp 3), (some (334, false))⟩,
  ⟨(some 340), .ld none (.tmp 339), (some (334, false))⟩,
  ⟨(some 341), .bin .sub (.tmp 338) (.tmp 340), (some (334, false))⟩,
  ⟨(some 342), .bin .mul (.tmp 336) (.tmp 341), (some (334, false))⟩,
  ⟨(some 343), .mv (.tmp 43), (some (334, false))⟩,
  ⟨(some 344), .mv (.tmp 39), (some (334, false))⟩,
  ⟨(some 345), .bin .mul (.tmp 343) (.tmp 344), (some (334, false))⟩,
  ⟨(some 346), .bin .neq (.tmp 342) (.tmp 345), (some (334, false))⟩,
  ⟨(some 347), .pick (.tmp 334) (.const (.bool true)) (.tmp 346), none⟩])
 (.cond (.tmp 347) (.seq (.reg [⟨(some 2), .mv (.const (.bool false)), none⟩])
 (.ret)) (.skip))))))
 (.reg [⟨(some 313), .mv (.tmp 40), none⟩,
  ⟨(some 314), .bin .add (.tmp 313) (.const (.int .i64 1)), none⟩,
  ⟨(some 40), .mv (.tmp 314), none⟩]))))))
 (.seq (.reg [⟨(some 2), .mv (.const (.bool true)), none⟩])
 (.ret)))))))))))))))))))))))))
def r_laws_FnContracts : List ARes := [.tmp 2]
theorem ok_laws_FnContracts : FnOk Try.prog 4 348 c_laws_FnContracts r_laws_FnContracts := ⟨⟨Try.f4, _, Try.func4, by kernel_rfl, rfl, rfl, by kernel_rfl, by kernel_rfl⟩⟩
end Go.Proofs.Ytpedjcagaeedjaa.Ab
end
